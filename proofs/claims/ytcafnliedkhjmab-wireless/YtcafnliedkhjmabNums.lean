/-
  The document's numbers of an event and its In: what they answer, and where the lists lie. No condition but that an integer argument is one.
-/
import Derived.Test.YtcafnliedkhjmabRows
import Derived.Test.YtcafnliedkhjmabChecked
import Derived.Test.YtcafnliedkhjmabCheck
import Derived.Test.YtcafnliedkhjmabPlain2
import Derived.Deep.QuietTactic
import Derived.BigQuiet
import Derived.WalkKit
import Derived.ProofKit
import Derived.Handy
import Derived.LoopTactic
import Derived.Below
import Derived.Laws.BitsAllLaws
import Derived.RegionTactic
import Derived.Deep.RegionHeld3
import Derived.Deep.DrawnRows
import Derived.Deep.AppendLies
import Derived.Laws.OwnMore
namespace Go.Proofs.Ytcafnliedkhjmab.Walks
open Go.RowKit
open Go.Proofs.Ytcafnliedkhjmab.Plain
set_option linter.unusedVariables false
attribute [local go_sem ↓] Go.wp_at_zero Go.wp_at_succ


def NumsPost (e : Ev) (fs : List Fld) (w : World) (r : Ending) (w' : World) : Prop :=
  ∃ v lo hi, r = .returned (.tuple #[v, lo, hi, .bool true]) ∧ Below w.heap.size w w' ∧ w'.ownsRow w.heap.size 3 1 v fs.length (fs.map fun f => .int .i64 (e.num f.off)) ∧
    w'.ownsRow w.heap.size 3 1 lo fs.length (fs.map fun f => .int .i64 f.lo) ∧ w'.ownsRow w.heap.size 3 1 hi fs.length (fs.map fun f => .int .i64 f.hi)

theorem ownsRow_at {w : World} {base n g : Nat} {e : TypeId} {size : Nat} (cs : Array Value) (hg : w.heap[g]? = some (.cells cs e)) (hb : base ≤ g) (hm : n ≤ maxLen) (hs : cs.size = n * size) : w.ownsRow base e size (.slice (some ⟨g, 0, none⟩) n n) n cs.toList :=
  ⟨by simp [hs], .inr ⟨g, n, cs, rfl, hb, hg, Nat.le_refl _, hm, hs, by rw [List.take_of_length_le (by simp [hs])]⟩⟩

theorem heap_old (w : World) (o : Obj) (k : Nat) (x : Option Obj) (hk : k < w.heap.size) (h : w.heap[k]? = x) : (w.alloc o).heap[k]? = x := by rw [Below.heap_alloc _ _ _ hk]; exact h


theorem nums_fin (e : Ev) (fs : List Fld) (w : World) (A : Obj) (x y z : Array Value) (n : Nat) (hn : fs.length = n) (h3 : n ≤ 3) (hx : x.toList = fs.map fun f => .int .i64 (e.num f.off)) (hy : y.toList = fs.map fun f => .int .i64 f.lo) (hz : z.toList = fs.map fun f => .int .i64 f.hi) :
    NumsPost e fs w (.returned (.tuple #[.slice (some ⟨w.heap.size + 1, 0, none⟩) n n, .slice (some ⟨w.heap.size + 1 + 1, 0, none⟩) n n, .slice (some ⟨w.heap.size + 1 + 1 + 1, 0, none⟩) n n, .bool true])) ((((w.alloc A).alloc (.cells x 3)).alloc (.cells y 3)).alloc (.cells z 3)) := by
  subst hn
  have lx : x.size = fs.length * 1 := by rw [← Array.length_toList, hx]; simp
  have ly : y.size = fs.length * 1 := by rw [← Array.length_toList, hy]; simp
  have lz : z.size = fs.length * 1 := by rw [← Array.length_toList, hz]; simp
  have hm : fs.length ≤ maxLen := by unfold maxLen; omega
  have e1 : ((w.alloc A).alloc (.cells x 3)).heap[w.heap.size + 1]? = some (.cells x 3) := by have := heap_new (w.alloc A) (.cells x 3); simpa using this
  have e2 : (((w.alloc A).alloc (.cells x 3)).alloc (.cells y 3)).heap[w.heap.size + 1 + 1]? = some (.cells y 3) := by have := heap_new ((w.alloc A).alloc (.cells x 3)) (.cells y 3); simpa using this
  have e3 : ((((w.alloc A).alloc (.cells x 3)).alloc (.cells y 3)).alloc (.cells z 3)).heap[w.heap.size + 1 + 1 + 1]? = some (.cells z 3) := by have := heap_new (((w.alloc A).alloc (.cells x 3)).alloc (.cells y 3)) (.cells z 3); simpa using this
  refine ⟨_, _, _, rfl, ((((Below.refl w.heap.size w).alloc (Nat.le_refl _) _).alloc (by simp) _).alloc (by simp; omega) _).alloc (by simp; omega) _, ?_, ?_, ?_⟩
  · rw [← hx]; exact ownsRow_at x (heap_old _ _ _ _ (by simp) (heap_old _ _ _ _ (by simp) e1)) (by omega) hm lx
  · rw [← hy]; exact ownsRow_at y (heap_old _ _ _ _ (by simp) e2) (by omega) hm ly
  · rw [← hz]; exact ownsRow_at z e3 (by omega) hm lz

/-- A slice of whole numbers: its cells. -/
theorem ints_one {w : World} {base : Nat} {v : Value} {ns : List Int} (h : w.ownsRow base 3 1 v ns.length (ns.map (.int .i64))) :
    ∃ a cap, v = .slice a ns.length cap ∧ ∀ k n, ns[k]? = some n → ∃ g, a = some ⟨g, 0, none⟩ ∧ base ≤ g ∧ g < w.heap.size ∧ w.cell? ⟨g, k, none⟩ = some (.int .i64 n) ∧ w.frozen? ⟨g, k, none⟩ = false := by
  obtain ⟨hl, ⟨rfl, hn⟩ | ⟨g, cap, cur, rfl, hb, hg, hn, hm, hs, ht⟩⟩ := h
  · refine ⟨none, 0, by rw [hn], fun k n h => ?_⟩
    rw [List.length_eq_zero_iff.1 hn] at h; simp at h
  · refine ⟨_, cap, rfl, fun k n hk => ?_⟩
    have hlt : k < ns.length := by
      rcases Nat.lt_or_ge k ns.length with h | h
      · exact h
      · rw [List.getElem?_eq_none h] at hk; cases hk
    refine ⟨g, rfl, hb, ?_, ?_, ?_⟩
    · rcases Nat.lt_or_ge g w.heap.size with hlt | hge
      · exact hlt
      · rw [Array.getElem?_eq_none hge] at hg; cases hg
    · have : cur[k]? = some (.int .i64 n) := by
        have h2 : (ns.map (Value.int .i64))[k]? = some (.int .i64 n) := by rw [List.getElem?_map, hk]; rfl
        rw [← ht, List.getElem?_take_of_lt (by omega)] at h2
        simpa using h2
      simp [World.cell?, hg, this]
    · simp [World.frozen?, hg]

end Go.Proofs.Ytcafnliedkhjmab.Walks
