/-
  The program's list of an event's fields, by its kind: where it lies and what is in it. Condition: an event lies in the block that is pointed at.
-/
import Derived.Test.YtkefdbnnfcfmjaaDoorRows
import Derived.Test.YtkefdbnnfcfmjaaDoorChecked
import Derived.Test.YtkefdbnnfcfmjaaDoorField
import Derived.WalkKit
import Derived.ProofKit
import Derived.Handy
import Derived.LoopTactic
import Derived.Below
import Derived.Laws.BitsAllLaws
import Derived.RegionTactic
import Derived.Deep.RegionHeld3
import Derived.Deep.DrawnRows
import Derived.Deep.AppendLies
import Derived.Laws.OwnMore
namespace Go.Proofs.YtkefdbnnfcfmjaaDoor.Walks
open Go.RowKit
open Go.Proofs.YtkefdbnnfcfmjaaDoor.Plain
set_option linter.unusedVariables false
attribute [local go_sem ↓] Go.wp_at_zero Go.wp_at_succ

theorem ownsRow_new {w : World} {base n : Nat} {e : TypeId} {size : Nat} (cs : Array Value) (hb : base ≤ w.heap.size) (hm : n ≤ maxLen) (hs : cs.size = n * size) : (w.alloc (.cells cs e)).ownsRow base e size (.slice (some ⟨w.heap.size, 0, none⟩) n n) n cs.toList :=
  ⟨by simp [hs], .inr ⟨w.heap.size, n, cs, rfl, hb, heap_new w _, Nat.le_refl _, hm, hs, by rw [List.take_of_length_le (by simp [hs])]⟩⟩

def FieldsPost (b : Nat) (fs : List Fld) (w : World) (r : Ending) (w' : World) : Prop :=
  ∃ v, r = .returned (.tuple #[v, .bool true]) ∧ Below w.heap.size w w' ∧ w'.ownsRow w.heap.size 67 4 v fs.length (fs.flatMap (fcells b))

set_option maxHeartbeats 400000 in
theorem fields_none (b : Nat) (e : Ev) (w : World) (hE : EvAt w b e) (hk : e.kind < 1 ∨ 7 < e.kind) :
    Calls Tryd.prog 26 #[.pointer (some ⟨b, 0, none⟩)] w fun r w' => r = .returned (.tuple #[.slice none 0 0, .bool false]) ∧ w' = w := by
  have hc : w.cell? ⟨b, 0, none⟩ = some (.int .i64 e.kind) := hE.cell 0
  generalize e.kind = k at *
  have h1 : (k == 1) = false := beq_eq_false_iff_ne.2 (by omega)
  have h2 : (k == 2) = false := beq_eq_false_iff_ne.2 (by omega)
  have h3 : (k == 3) = false := beq_eq_false_iff_ne.2 (by omega)
  have h4 : (k == 4) = false := beq_eq_false_iff_ne.2 (by omega)
  have h5 : (k == 5) = false := beq_eq_false_iff_ne.2 (by omega)
  have h6 : (k == 6) = false := beq_eq_false_iff_ne.2 (by omega)
  have h7 : (k == 7) = false := beq_eq_false_iff_ne.2 (by omega)
  clear hk
  go_enter Tryd.func26, Tryd.ntmps26
  go_wp2
  go_ret2
  exact ⟨rfl, rfl⟩

set_option maxHeartbeats 400000 in
theorem fields1 (b : Nat) (w : World) (hc : w.cell? ⟨b, 0, none⟩ = some (.int .i64 1)) :
    Calls Tryd.prog 26 #[.pointer (some ⟨b, 0, none⟩)] w (FieldsPost b [⟨1, 0, 4294967295⟩] w) := by
  go_enter Tryd.func26, Tryd.ntmps26
  go_wp2
  go_ret2
  exact ⟨_, rfl, (Below.refl _ _).alloc (Nat.le_refl _) _, ownsRow_new _ (Nat.le_refl _) (by unfold maxLen; omega) rfl⟩

set_option maxHeartbeats 400000 in
theorem fields2 (b : Nat) (w : World) (hc : w.cell? ⟨b, 0, none⟩ = some (.int .i64 2)) :
    Calls Tryd.prog 26 #[.pointer (some ⟨b, 0, none⟩)] w (FieldsPost b [⟨2, 0, 39⟩, ⟨3, 0, 1048576⟩] w) := by
  go_enter Tryd.func26, Tryd.ntmps26
  go_wp2_with fail
  refine (flow_any b _).mono ?_
  rintro r w' ⟨rfl, rfl⟩
  go_wp2
  go_ret2
  exact ⟨_, rfl, ((Below.refl _ _).alloc (Nat.le_refl _) _).drew, (ownsRow_new _ (Nat.le_refl _) (by unfold maxLen; omega) rfl).drew⟩


theorem cap_ok (need old : Nat) (e : TypeId) (t : Nat) (h : need ≤ maxLen) : need ≤ (Question.appendCap need old e).cut t ∧ (Question.appendCap need old e).cut t ≤ maxLen := by
  unfold maxLen at *
  simp only [Question.cut]
  have : t % (2 ^ 63 - need) < 2 ^ 63 - need := Nat.mod_lt _ (by omega)
  omega

theorem ownsRow_grown {w : World} {base n cap g : Nat} {e : TypeId} {size : Nat} (x y z : Array Value) (hg : w.heap.size = g) (hb : base ≤ w.heap.size) (hn : n ≤ cap) (hm : cap ≤ maxLen) (hs : x.size + y.size = n * size) (hz : z.size = size) :
    (w.alloc (.cells (x ++ (y ++ Builtin.zeroCells z (cap - n))) e)).ownsRow base e size (.slice (some ⟨g, 0, none⟩) n cap) n (x.toList ++ y.toList) := by
  subst hg
  refine ⟨by simp [hs], .inr ⟨w.heap.size, cap, _, rfl, hb, heap_new w _, hn, hm, ?_, ?_⟩⟩
  · rw [Array.size_append, Array.size_append, Go.size_zeroCells, hz, ← Nat.add_assoc, hs, ← Nat.add_mul]
    congr 1; omega
  · rw [← Array.append_assoc, Array.toList_append, Array.toList_append]
    exact List.take_left' (by simp [hs])

set_option maxHeartbeats 400000 in
theorem fields4 (b : Nat) (w : World) (hc : w.cell? ⟨b, 0, none⟩ = some (.int .i64 4)) :
    Calls Tryd.prog 26 #[.pointer (some ⟨b, 0, none⟩)] w (FieldsPost b [⟨2, 0, 39⟩, ⟨3, 0, 1048576⟩, ⟨4, 0, 1⟩] w) := by
  go_enter Tryd.func26, Tryd.ntmps26
  go_wp2_with fail
  go_region_held3 (fun w' => True) (go_keep) (first | (go_at_call 46; refine (flow_any b _).mono ?_; rintro r w' ⟨rfl, rfl⟩))
  all_goals
    go_wp2
    go_ret2
    obtain ⟨c1, c2⟩ := cap_ok 3 2 67 (w.tape (w.drawn + 1 + 1) (Question.appendCap 3 2 67)) (by unfold maxLen; omega)
    generalize (Question.appendCap 3 2 67).cut (w.tape (w.drawn + 1 + 1) (Question.appendCap 3 2 67)) = c at *
    refine ⟨_, rfl, ?_, ?_⟩
    · exact ((((((Below.refl _ _).alloc (Nat.le_refl _) _).alloc (by simp) _).alloc (by simp; omega) _).drew).drew).drew
    · exact World.ownsRow.drew (World.ownsRow.drew (World.ownsRow.drew (ownsRow_grown (size := 4) #[.pointer (some ⟨b, 2, none⟩), .pointer none, .int .i64 0, .int .i64 39, .pointer (some ⟨b, 3, none⟩), .pointer none, .int .i64 0, .int .i64 1048576] #[.pointer none, .pointer (some ⟨b, 4, none⟩), .int .i64 0, .int .i64 1] #[.pointer none, .pointer none, .int .i64 0, .int .i64 0] (by simp) (by simp; omega) c1 c2 rfl rfl)))

set_option maxHeartbeats 400000 in
theorem fields5 (b : Nat) (w : World) (hc : w.cell? ⟨b, 0, none⟩ = some (.int .i64 5)) :
    Calls Tryd.prog 26 #[.pointer (some ⟨b, 0, none⟩)] w (FieldsPost b [⟨5, 0, 1048576⟩, ⟨6, 0, 11⟩, ⟨7, 1, 8⟩] w) := by
  go_enter Tryd.func26, Tryd.ntmps26
  go_wp2_with fail
  go_region_held3 (fun w' => True) (go_keep) (first | (go_at_call 47; refine (admin_any b _).mono ?_; rintro r w' ⟨rfl, rfl⟩))
  all_goals
    go_wp2
    go_ret2
    obtain ⟨c1, c2⟩ := cap_ok 3 2 67 (w.tape (w.drawn + 1 + 1) (Question.appendCap 3 2 67)) (by unfold maxLen; omega)
    generalize (Question.appendCap 3 2 67).cut (w.tape (w.drawn + 1 + 1) (Question.appendCap 3 2 67)) = c at *
    refine ⟨_, rfl, ?_, ?_⟩
    · exact ((((((Below.refl _ _).alloc (Nat.le_refl _) _).alloc (by simp) _).alloc (by simp; omega) _).drew).drew).drew
    · exact World.ownsRow.drew (World.ownsRow.drew (World.ownsRow.drew (ownsRow_grown (size := 4) #[.pointer (some ⟨b, 5, none⟩), .pointer none, .int .i64 0, .int .i64 1048576, .pointer (some ⟨b, 6, none⟩), .pointer none, .int .i64 0, .int .i64 11] #[.pointer (some ⟨b, 7, none⟩), .pointer none, .int .i64 1, .int .i64 8] #[.pointer none, .pointer none, .int .i64 0, .int .i64 0] (by simp) (by simp; omega) c1 c2 rfl rfl)))

set_option maxHeartbeats 400000 in
theorem fields3 (b : Nat) (w : World) (hc : w.cell? ⟨b, 0, none⟩ = some (.int .i64 3)) :
    Calls Tryd.prog 26 #[.pointer (some ⟨b, 0, none⟩)] w (FieldsPost b [⟨2, 0, 39⟩, ⟨3, 0, 1048576⟩] w) := by
  go_enter Tryd.func26, Tryd.ntmps26
  go_wp2_with fail
  refine (flow_any b _).mono ?_
  rintro r w' ⟨rfl, rfl⟩
  go_wp2
  go_ret2
  exact ⟨_, rfl, ((Below.refl _ _).alloc (Nat.le_refl _) _).drew, (ownsRow_new _ (Nat.le_refl _) (by unfold maxLen; omega) rfl).drew⟩

set_option maxHeartbeats 400000 in
theorem fields6 (b : Nat) (w : World) (hc : w.cell? ⟨b, 0, none⟩ = some (.int .i64 6)) :
    Calls Tryd.prog 26 #[.pointer (some ⟨b, 0, none⟩)] w (FieldsPost b [⟨5, 0, 1048576⟩, ⟨6, 0, 11⟩] w) := by
  go_enter Tryd.func26, Tryd.ntmps26
  go_wp2_with fail
  refine (admin_any b _).mono ?_
  rintro r w' ⟨rfl, rfl⟩
  go_wp2
  go_ret2
  exact ⟨_, rfl, ((Below.refl _ _).alloc (Nat.le_refl _) _).drew, (ownsRow_new _ (Nat.le_refl _) (by unfold maxLen; omega) rfl).drew⟩

set_option maxHeartbeats 400000 in
theorem fields7 (b : Nat) (w : World) (hc : w.cell? ⟨b, 0, none⟩ = some (.int .i64 7)) :
    Calls Tryd.prog 26 #[.pointer (some ⟨b, 0, none⟩)] w (FieldsPost b [] w) := by
  go_enter Tryd.func26, Tryd.ntmps26
  go_wp2
  go_ret2
  exact ⟨_, rfl, Below.refl _ _, World.ownsRow_nil _ _ _ _⟩

theorem fields_some (b : Nat) (e : Ev) (fs : List Fld) (w : World) (hE : EvAt w b e) (hf : flds e.kind = some fs) :
    Calls Tryd.prog 26 #[.pointer (some ⟨b, 0, none⟩)] w (FieldsPost b fs w) := by
  have hc : w.cell? ⟨b, 0, none⟩ = some (.int .i64 e.kind) := hE.cell 0
  generalize e.kind = k at *
  rcases flds_cases k with ⟨_, h⟩ | rfl | rfl | rfl | rfl | rfl | rfl | rfl
  · rw [h] at hf; cases hf
  all_goals (unfold flds at hf; simp at hf; subst hf)
  · exact fields1 b w hc
  · exact fields2 b w hc
  · exact fields3 b w hc
  · exact fields4 b w hc
  · exact fields5 b w hc
  · exact fields6 b w hc
  · exact fields7 b w hc

/-- A field's four cells among all. -/
theorem flat_at (b : Nat) : ∀ (fs : List Fld) (k : Nat) (f : Fld), fs[k]? = some f → ∀ j, j < 4 → (fs.flatMap (fcells b))[k * 4 + j]? = (fcells b f)[j]?
  | [], k, f, h, j, hj => by simp at h
  | x :: fs, 0, f, h, j, hj => by
    simp at h; subst h
    rw [List.flatMap_cons, List.getElem?_append_left (by simp [fcells]; omega)]
    simp
  | x :: fs, k + 1, f, h, j, hj => by
    simp at h
    rw [List.flatMap_cons, List.getElem?_append_right (by simp [fcells]; omega)]
    rw [show (k + 1) * 4 + j - (fcells b x).length = k * 4 + j by simp [fcells]; omega]
    exact flat_at b fs k f h j hj

/-- What the fields' slice is, and what lies in it. -/
theorem own_form {w : World} {base b : Nat} {v : Value} {fs : List Fld} (h : w.ownsRow base 67 4 v fs.length (fs.flatMap (fcells b))) :
    (v = .slice none 0 0 ∧ fs = []) ∨ ∃ g cap, v = .slice (some ⟨g, 0, none⟩) fs.length cap ∧ base ≤ g ∧ g < w.heap.size ∧
      ∀ k f, fs[k]? = some f → w.cell? ⟨g, k * 4, none⟩ = some (.pointer (pp b f)) ∧ w.cell? ⟨g, k * 4 + 1, none⟩ = some (.pointer (pq b f)) ∧ w.cell? ⟨g, k * 4 + 2, none⟩ = some (.int .i64 f.lo) ∧ w.cell? ⟨g, k * 4 + 3, none⟩ = some (.int .i64 f.hi) := by
  obtain ⟨hl, ⟨rfl, hn⟩ | ⟨g, cap, cur, rfl, hb, hg, hn, hm, hs, ht⟩⟩ := h
  · exact .inl ⟨rfl, List.length_eq_zero_iff.1 hn⟩
  · refine .inr ⟨g, cap, rfl, hb, ?_, fun k f hf => ?_⟩
    · rcases Nat.lt_or_ge g w.heap.size with hlt | hge
      · exact hlt
      · rw [Array.getElem?_eq_none hge] at hg; cases hg
    · have hk : k < fs.length := by
        rcases Nat.lt_or_ge k fs.length with h | h
        · exact h
        · rw [List.getElem?_eq_none h] at hf; cases hf
      have key : ∀ j, j < 4 → w.cell? ⟨g, k * 4 + j, none⟩ = (fcells b f)[j]? := by
        intro j hj
        rw [← flat_at b fs k f hf j hj, ← ht, List.getElem?_take_of_lt (by omega)]
        simp [World.cell?, hg]
      exact ⟨key 0 (by omega), key 1 (by omega), key 2 (by omega), key 3 (by omega)⟩

theorem flds_off {k : Int} {fs : List Fld} (h : flds k = some fs) : ∀ f, f ∈ fs → 1 ≤ f.off ∧ f.off ≤ 7 := by
  rcases flds_cases k with ⟨_, h'⟩ | rfl | rfl | rfl | rfl | rfl | rfl | rfl
  · rw [h'] at h; cases h
  all_goals (unfold flds at h; simp at h; subst h; simp)
end Go.Proofs.YtkefdbnnfcfmjaaDoor.Walks
