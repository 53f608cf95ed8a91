/-
  The document's numbers of an event and its In: what they answer, and where the lists lie. No condition but that an integer argument is one.
-/
import Derived.Test.YtkefdbnnfcfmjaaDoorRows
import Derived.Test.YtkefdbnnfcfmjaaDoorChecked
import Derived.Test.YtkefdbnnfcfmjaaDoorCheck
import Derived.Test.YtkefdbnnfcfmjaaDoorPlain2
import Derived.Deep.QuietTactic
import Derived.BigQuiet
import Derived.WalkKit
import Derived.ProofKit
import Derived.Handy
import Derived.LoopTactic
import Derived.Below
import Derived.Laws.BitsAllLaws
import Derived.RegionTactic
import Derived.Deep.RegionHeld3
import Derived.Deep.DrawnRows
import Derived.Deep.AppendLies
import Derived.Laws.OwnMore
namespace Go.Proofs.YtkefdbnnfcfmjaaDoor.Walks
open Go.RowKit
open Go.Proofs.YtkefdbnnfcfmjaaDoor.Plain
set_option linter.unusedVariables false
attribute [local go_sem ↓] Go.wp_at_zero Go.wp_at_succ


set_option maxHeartbeats 400000 in
theorem in_yes (n lo hi : Int) (w : World) (h1 : lo ≤ n) (h2 : n ≤ hi) :
    Calls Tryd.prog 35 #[.int .i64 n, .int .i64 lo, .int .i64 hi] w fun e w' => e = .returned (.bool true) ∧ w' = w := by
  have h3 : n ≥ lo := h1
  go_enter Tryd.func35, Tryd.ntmps35
  go_wp2
  go_ret
  exact ⟨rfl, rfl⟩

set_option maxHeartbeats 400000 in
theorem in_no (n lo hi : Int) (w : World) (h : ¬ (lo ≤ n ∧ n ≤ hi)) :
    Calls Tryd.prog 35 #[.int .i64 n, .int .i64 lo, .int .i64 hi] w fun e w' => e = .returned (.bool false) ∧ w' = w := by
  by_cases h1 : lo ≤ n
  · have h2 : ¬ n ≤ hi := fun h' => h ⟨h1, h'⟩
    have h3 : decide (n ≤ hi) = false := by simpa using h2
    clear h
    go_enter Tryd.func35, Tryd.ntmps35
    go_wp2
    go_ret
    exact ⟨rfl, rfl⟩
  · have h3 : decide (lo ≤ n) = false := by simpa using h1
    clear h
    go_enter Tryd.func35, Tryd.ntmps35
    go_wp2
    go_ret
    exact ⟨rfl, rfl⟩

def NumsPost (e : Ev) (fs : List Fld) (w : World) (r : Ending) (w' : World) : Prop :=
  ∃ v lo hi, r = .returned (.tuple #[v, lo, hi, .bool true]) ∧ Below w.heap.size w w' ∧ w'.ownsRow w.heap.size 3 1 v fs.length (fs.map fun f => .int .i64 (e.num f.off)) ∧
    w'.ownsRow w.heap.size 3 1 lo fs.length (fs.map fun f => .int .i64 f.lo) ∧ w'.ownsRow w.heap.size 3 1 hi fs.length (fs.map fun f => .int .i64 f.hi)

theorem ownsRow_at {w : World} {base n g : Nat} {e : TypeId} {size : Nat} (cs : Array Value) (hg : w.heap[g]? = some (.cells cs e)) (hb : base ≤ g) (hm : n ≤ maxLen) (hs : cs.size = n * size) : w.ownsRow base e size (.slice (some ⟨g, 0, none⟩) n n) n cs.toList :=
  ⟨by simp [hs], .inr ⟨g, n, cs, rfl, hb, hg, Nat.le_refl _, hm, hs, by rw [List.take_of_length_le (by simp [hs])]⟩⟩

theorem heap_old (w : World) (o : Obj) (k : Nat) (x : Option Obj) (hk : k < w.heap.size) (h : w.heap[k]? = x) : (w.alloc o).heap[k]? = x := by rw [Below.heap_alloc _ _ _ hk]; exact h


theorem nums_fin (e : Ev) (fs : List Fld) (w : World) (A : Obj) (x y z : Array Value) (n : Nat) (hn : fs.length = n) (h3 : n ≤ 3) (hx : x.toList = fs.map fun f => .int .i64 (e.num f.off)) (hy : y.toList = fs.map fun f => .int .i64 f.lo) (hz : z.toList = fs.map fun f => .int .i64 f.hi) :
    NumsPost e fs w (.returned (.tuple #[.slice (some ⟨w.heap.size + 1, 0, none⟩) n n, .slice (some ⟨w.heap.size + 1 + 1, 0, none⟩) n n, .slice (some ⟨w.heap.size + 1 + 1 + 1, 0, none⟩) n n, .bool true])) ((((w.alloc A).alloc (.cells x 3)).alloc (.cells y 3)).alloc (.cells z 3)) := by
  subst hn
  have lx : x.size = fs.length * 1 := by rw [← Array.length_toList, hx]; simp
  have ly : y.size = fs.length * 1 := by rw [← Array.length_toList, hy]; simp
  have lz : z.size = fs.length * 1 := by rw [← Array.length_toList, hz]; simp
  have hm : fs.length ≤ maxLen := by unfold maxLen; omega
  have e1 : ((w.alloc A).alloc (.cells x 3)).heap[w.heap.size + 1]? = some (.cells x 3) := by have := heap_new (w.alloc A) (.cells x 3); simpa using this
  have e2 : (((w.alloc A).alloc (.cells x 3)).alloc (.cells y 3)).heap[w.heap.size + 1 + 1]? = some (.cells y 3) := by have := heap_new ((w.alloc A).alloc (.cells x 3)) (.cells y 3); simpa using this
  have e3 : ((((w.alloc A).alloc (.cells x 3)).alloc (.cells y 3)).alloc (.cells z 3)).heap[w.heap.size + 1 + 1 + 1]? = some (.cells z 3) := by have := heap_new (((w.alloc A).alloc (.cells x 3)).alloc (.cells y 3)) (.cells z 3); simpa using this
  refine ⟨_, _, _, rfl, ((((Below.refl w.heap.size w).alloc (Nat.le_refl _) _).alloc (by simp) _).alloc (by simp; omega) _).alloc (by simp; omega) _, ?_, ?_, ?_⟩
  · rw [← hx]; exact ownsRow_at x (heap_old _ _ _ _ (by simp) (heap_old _ _ _ _ (by simp) e1)) (by omega) hm lx
  · rw [← hy]; exact ownsRow_at y (heap_old _ _ _ _ (by simp) e2) (by omega) hm ly
  · rw [← hz]; exact ownsRow_at z e3 (by omega) hm lz

set_option maxHeartbeats 1000000 in
theorem nums1 (e : Ev) (w : World) (hk : e.kind = 1) :
    Calls Tryd.prog 34 #[.agg #[.int .i64 e.kind, .int .i64 e.key, .int .i64 e.slot, .int .i64 e.gen, .bool e.good, .int .i64 e.req, .int .i64 e.be, .int .i64 e.wt]] w (NumsPost e [⟨1, 0, 4294967295⟩] w) := by
  obtain ⟨k, key, slot, gen, good, req, be, wt⟩ := e
  dsimp only at *
  subst hk
  cases good
  all_goals
    go_enter Tryd.func34, Tryd.ntmps34
    go_wp2
    exact bodyPost_ret (v := .tuple #[.slice (some ⟨w.heap.size + 1, 0, none⟩) 1 1, .slice (some ⟨w.heap.size + 1 + 1, 0, none⟩) 1 1, .slice (some ⟨w.heap.size + 1 + 1 + 1, 0, none⟩) 1 1, .bool true]) (by simp [results, Tryd.results34, go_sem]) rfl (nums_fin _ _ w _ _ _ _ 1 rfl (by omega) rfl rfl rfl)

set_option maxHeartbeats 1000000 in
theorem nums2 (e : Ev) (w : World) (hk : e.kind = 2) :
    Calls Tryd.prog 34 #[.agg #[.int .i64 e.kind, .int .i64 e.key, .int .i64 e.slot, .int .i64 e.gen, .bool e.good, .int .i64 e.req, .int .i64 e.be, .int .i64 e.wt]] w (NumsPost e [⟨2, 0, 39⟩, ⟨3, 0, 1048576⟩] w) := by
  obtain ⟨k, key, slot, gen, good, req, be, wt⟩ := e
  dsimp only at *
  subst hk
  cases good
  all_goals
    go_enter Tryd.func34, Tryd.ntmps34
    go_wp2
    exact bodyPost_ret (v := .tuple #[.slice (some ⟨w.heap.size + 1, 0, none⟩) 2 2, .slice (some ⟨w.heap.size + 1 + 1, 0, none⟩) 2 2, .slice (some ⟨w.heap.size + 1 + 1 + 1, 0, none⟩) 2 2, .bool true]) (by simp [results, Tryd.results34, go_sem]) rfl (nums_fin _ _ w _ _ _ _ 2 rfl (by omega) rfl rfl rfl)

set_option maxHeartbeats 1000000 in
theorem nums3 (e : Ev) (w : World) (hk : e.kind = 3) :
    Calls Tryd.prog 34 #[.agg #[.int .i64 e.kind, .int .i64 e.key, .int .i64 e.slot, .int .i64 e.gen, .bool e.good, .int .i64 e.req, .int .i64 e.be, .int .i64 e.wt]] w (NumsPost e [⟨2, 0, 39⟩, ⟨3, 0, 1048576⟩] w) := by
  obtain ⟨k, key, slot, gen, good, req, be, wt⟩ := e
  dsimp only at *
  subst hk
  cases good
  all_goals
    go_enter Tryd.func34, Tryd.ntmps34
    go_wp2
    exact bodyPost_ret (v := .tuple #[.slice (some ⟨w.heap.size + 1, 0, none⟩) 2 2, .slice (some ⟨w.heap.size + 1 + 1, 0, none⟩) 2 2, .slice (some ⟨w.heap.size + 1 + 1 + 1, 0, none⟩) 2 2, .bool true]) (by simp [results, Tryd.results34, go_sem]) rfl (nums_fin _ _ w _ _ _ _ 2 rfl (by omega) rfl rfl rfl)

set_option maxHeartbeats 1000000 in
theorem nums4 (e : Ev) (w : World) (hk : e.kind = 4) :
    Calls Tryd.prog 34 #[.agg #[.int .i64 e.kind, .int .i64 e.key, .int .i64 e.slot, .int .i64 e.gen, .bool e.good, .int .i64 e.req, .int .i64 e.be, .int .i64 e.wt]] w (NumsPost e [⟨2, 0, 39⟩, ⟨3, 0, 1048576⟩, ⟨4, 0, 1⟩] w) := by
  obtain ⟨k, key, slot, gen, good, req, be, wt⟩ := e
  dsimp only at *
  subst hk
  cases good
  all_goals
    go_enter Tryd.func34, Tryd.ntmps34
    go_wp2
    exact bodyPost_ret (v := .tuple #[.slice (some ⟨w.heap.size + 1, 0, none⟩) 3 3, .slice (some ⟨w.heap.size + 1 + 1, 0, none⟩) 3 3, .slice (some ⟨w.heap.size + 1 + 1 + 1, 0, none⟩) 3 3, .bool true]) (by simp [results, Tryd.results34, go_sem]) rfl (nums_fin _ _ w _ _ _ _ 3 rfl (by omega) rfl rfl rfl)

set_option maxHeartbeats 1000000 in
theorem nums5 (e : Ev) (w : World) (hk : e.kind = 5) :
    Calls Tryd.prog 34 #[.agg #[.int .i64 e.kind, .int .i64 e.key, .int .i64 e.slot, .int .i64 e.gen, .bool e.good, .int .i64 e.req, .int .i64 e.be, .int .i64 e.wt]] w (NumsPost e [⟨5, 0, 1048576⟩, ⟨6, 0, 11⟩, ⟨7, 1, 8⟩] w) := by
  obtain ⟨k, key, slot, gen, good, req, be, wt⟩ := e
  dsimp only at *
  subst hk
  cases good
  all_goals
    go_enter Tryd.func34, Tryd.ntmps34
    go_wp2
    exact bodyPost_ret (v := .tuple #[.slice (some ⟨w.heap.size + 1, 0, none⟩) 3 3, .slice (some ⟨w.heap.size + 1 + 1, 0, none⟩) 3 3, .slice (some ⟨w.heap.size + 1 + 1 + 1, 0, none⟩) 3 3, .bool true]) (by simp [results, Tryd.results34, go_sem]) rfl (nums_fin _ _ w _ _ _ _ 3 rfl (by omega) rfl rfl rfl)

set_option maxHeartbeats 1000000 in
theorem nums6 (e : Ev) (w : World) (hk : e.kind = 6) :
    Calls Tryd.prog 34 #[.agg #[.int .i64 e.kind, .int .i64 e.key, .int .i64 e.slot, .int .i64 e.gen, .bool e.good, .int .i64 e.req, .int .i64 e.be, .int .i64 e.wt]] w (NumsPost e [⟨5, 0, 1048576⟩, ⟨6, 0, 11⟩] w) := by
  obtain ⟨k, key, slot, gen, good, req, be, wt⟩ := e
  dsimp only at *
  subst hk
  cases good
  all_goals
    go_enter Tryd.func34, Tryd.ntmps34
    go_wp2
    exact bodyPost_ret (v := .tuple #[.slice (some ⟨w.heap.size + 1, 0, none⟩) 2 2, .slice (some ⟨w.heap.size + 1 + 1, 0, none⟩) 2 2, .slice (some ⟨w.heap.size + 1 + 1 + 1, 0, none⟩) 2 2, .bool true]) (by simp [results, Tryd.results34, go_sem]) rfl (nums_fin _ _ w _ _ _ _ 2 rfl (by omega) rfl rfl rfl)

set_option maxHeartbeats 1000000 in
theorem nums7 (e : Ev) (w : World) (hk : e.kind = 7) :
    Calls Tryd.prog 34 #[.agg #[.int .i64 e.kind, .int .i64 e.key, .int .i64 e.slot, .int .i64 e.gen, .bool e.good, .int .i64 e.req, .int .i64 e.be, .int .i64 e.wt]] w (NumsPost e [] w) := by
  obtain ⟨k, key, slot, gen, good, req, be, wt⟩ := e
  dsimp only at *
  subst hk
  cases good
  all_goals
    go_enter Tryd.func34, Tryd.ntmps34
    go_wp2
    exact bodyPost_ret (v := .tuple #[.slice none 0 0, .slice none 0 0, .slice none 0 0, .bool true]) (by simp [results, Tryd.results34, go_sem]) rfl ⟨_, _, _, rfl, (Below.refl _ _).alloc (Nat.le_refl _) _, World.ownsRow_nil _ _ _ _, World.ownsRow_nil _ _ _ _, World.ownsRow_nil _ _ _ _⟩

set_option maxHeartbeats 1000000 in
theorem nums_none (e : Ev) (w : World) (hk : e.kind < 1 ∨ 7 < e.kind) :
    Calls Tryd.prog 34 #[.agg #[.int .i64 e.kind, .int .i64 e.key, .int .i64 e.slot, .int .i64 e.gen, .bool e.good, .int .i64 e.req, .int .i64 e.be, .int .i64 e.wt]] w fun r w' => r = .returned (.tuple #[.slice none 0 0, .slice none 0 0, .slice none 0 0, .bool false]) ∧ Below w.heap.size w w' := by
  obtain ⟨k, key, slot, gen, good, req, be, wt⟩ := e
  dsimp only at *
  have h1 : (k == 1) = false := beq_eq_false_iff_ne.2 (by omega)
  have h2 : (k == 2) = false := beq_eq_false_iff_ne.2 (by omega)
  have h3 : (k == 3) = false := beq_eq_false_iff_ne.2 (by omega)
  have h4 : (k == 4) = false := beq_eq_false_iff_ne.2 (by omega)
  have h5 : (k == 5) = false := beq_eq_false_iff_ne.2 (by omega)
  have h6 : (k == 6) = false := beq_eq_false_iff_ne.2 (by omega)
  have h7 : (k == 7) = false := beq_eq_false_iff_ne.2 (by omega)
  clear hk
  cases good
  all_goals
    go_enter Tryd.func34, Tryd.ntmps34
    go_wp2
    exact bodyPost_ret (v := .tuple #[.slice none 0 0, .slice none 0 0, .slice none 0 0, .bool false]) (by simp [results, Tryd.results34, go_sem]) rfl ⟨rfl, (Below.refl _ _).alloc (Nat.le_refl _) _⟩

theorem nums_some (e : Ev) (fs : List Fld) (w : World) (hf : flds e.kind = some fs) :
    Calls Tryd.prog 34 #[.agg #[.int .i64 e.kind, .int .i64 e.key, .int .i64 e.slot, .int .i64 e.gen, .bool e.good, .int .i64 e.req, .int .i64 e.be, .int .i64 e.wt]] w (NumsPost e fs w) := by
  rcases flds_cases e.kind with ⟨_, h⟩ | h | h | h | h | h | h | h
  · rw [h] at hf; cases hf
  all_goals (have hf' := hf; rw [h] at hf'; unfold flds at hf'; simp at hf'; subst hf')
  · exact nums1 e w h
  · exact nums2 e w h
  · exact nums3 e w h
  · exact nums4 e w h
  · exact nums5 e w h
  · exact nums6 e w h
  · exact nums7 e w h

/-- A slice of whole numbers: its cells. -/
theorem ints_one {w : World} {base : Nat} {v : Value} {ns : List Int} (h : w.ownsRow base 3 1 v ns.length (ns.map (.int .i64))) :
    ∃ a cap, v = .slice a ns.length cap ∧ ∀ k n, ns[k]? = some n → ∃ g, a = some ⟨g, 0, none⟩ ∧ base ≤ g ∧ g < w.heap.size ∧ w.cell? ⟨g, k, none⟩ = some (.int .i64 n) ∧ w.frozen? ⟨g, k, none⟩ = false := by
  obtain ⟨hl, ⟨rfl, hn⟩ | ⟨g, cap, cur, rfl, hb, hg, hn, hm, hs, ht⟩⟩ := h
  · refine ⟨none, 0, by rw [hn], fun k n h => ?_⟩
    rw [List.length_eq_zero_iff.1 hn] at h; simp at h
  · refine ⟨_, cap, rfl, fun k n hk => ?_⟩
    have hlt : k < ns.length := by
      rcases Nat.lt_or_ge k ns.length with h | h
      · exact h
      · rw [List.getElem?_eq_none h] at hk; cases hk
    refine ⟨g, rfl, hb, ?_, ?_, ?_⟩
    · rcases Nat.lt_or_ge g w.heap.size with hlt | hge
      · exact hlt
      · rw [Array.getElem?_eq_none hge] at hg; cases hg
    · have : cur[k]? = some (.int .i64 n) := by
        have h2 : (ns.map (Value.int .i64))[k]? = some (.int .i64 n) := by rw [List.getElem?_map, hk]; rfl
        rw [← ht, List.getElem?_take_of_lt (by omega)] at h2
        simpa using h2
      simp [World.cell?, hg, this]
    · simp [World.frozen?, hg]

end Go.Proofs.YtkefdbnnfcfmjaaDoor.Walks
