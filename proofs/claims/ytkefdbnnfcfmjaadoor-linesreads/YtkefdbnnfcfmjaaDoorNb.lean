/-
  The program's numbers of an event (pointers to its fields) and its outcome: what they answer. No condition.
-/
import Derived.Test.YtkefdbnnfcfmjaaDoorRows
import Derived.Test.YtkefdbnnfcfmjaaDoorChecked
import Derived.Test.YtkefdbnnfcfmjaaDoorCheck
import Derived.Test.YtkefdbnnfcfmjaaDoorLnP
import Derived.WalkKit
import Derived.ProofKit
import Derived.Handy
import Derived.LoopTactic
import Derived.Below
import Derived.Laws.BitsAllLaws
import Derived.RegionTactic
import Derived.Deep.RegionHeld3
import Derived.Deep.DrawnRows
import Derived.Deep.AppendLies
import Derived.Laws.OwnMore
import Derived.Deep.Onto
import Derived.Deep.QuietTactic
import Derived.BigQuiet
namespace Go.Proofs.YtkefdbnnfcfmjaaDoor.Walks
open Go.RowKit
open Go.Proofs.YtkefdbnnfcfmjaaDoor.Plain
set_option linter.unusedVariables false
set_option linter.unusedSimpArgs false
attribute [local go_sem ↓] Go.wp_at_zero Go.wp_at_succ

/-- A slice of pointers to the fields at these places of the event in block b. -/
def PtAt (w : World) (base b : Nat) (v : Value) (os : List Nat) : Prop :=
  ∃ a cap, v = .slice a os.length cap ∧ ∀ k o, os[k]? = some o → ∃ g, a = some ⟨g, 0, none⟩ ∧ base ≤ g ∧ g < w.heap.size ∧ w.cell? ⟨g, k, none⟩ = some (.pointer (some ⟨b, o, none⟩))

theorem PtAt.below {w w' : World} {base b B : Nat} {v : Value} {os : List Nat} (h : PtAt w base b v os) (hb : Below B w w') (hB : w.heap.size ≤ B) : PtAt w' base b v os := by
  obtain ⟨a, cap, rfl, h⟩ := h
  refine ⟨a, cap, rfl, fun k o ho => ?_⟩
  obtain ⟨g, rfl, h1, h2, h3⟩ := h k o ho
  exact ⟨g, rfl, h1, Nat.lt_of_lt_of_le h2 hb.size, by rw [hb.cell (p := ⟨g, k, none⟩) (Nat.lt_of_lt_of_le h2 hB)]; exact h3⟩

theorem pt_new {w : World} {b : Nat} {os : List Nat} {t : TypeId} {cs : Array Value} (hc : cs.toList = os.map fun o => .pointer (some ⟨b, o, none⟩)) :
    PtAt (w.alloc (.cells cs t)) w.heap.size b (.slice (some ⟨w.heap.size, 0, none⟩) os.length os.length) os := by
  refine ⟨_, _, rfl, fun k o ho => ⟨w.heap.size, rfl, Nat.le_refl _, by simp, ?_⟩⟩
  have : cs[k]? = some (.pointer (some ⟨b, o, none⟩)) := by
    rw [← Array.getElem?_toList, hc, List.getElem?_map, ho]; rfl
  rw [World.cell?, heap_new]; exact this

theorem PtAt.drew {w : World} {base b : Nat} {v : Value} {os : List Nat} (h : PtAt w base b v os) : PtAt w.drew base b v os := h

def NbPost (b : Nat) (os : List Nat) (w : World) (r : Ending) (w' : World) : Prop := ∃ v, r = .returned v ∧ Below w.heap.size w w' ∧ PtAt w' w.heap.size b v os

set_option maxHeartbeats 400000 in
theorem nb1 (b : Nat) (w : World) (hc : w.cell? ⟨b, 0, none⟩ = some (.int .i64 1)) : Calls Tryd.prog 31 #[.pointer (some ⟨b, 0, none⟩)] w (NbPost b [1] w) := by
  go_enter Tryd.func31, Tryd.ntmps31
  go_wp2
  go_ret
  exact ⟨_, rfl, (Below.refl _ _).alloc (Nat.le_refl _) _, pt_new (os := [1]) rfl⟩

set_option maxHeartbeats 400000 in
theorem nb2 (b : Nat) (k : Int) (hk : k = 2 ∨ k = 3 ∨ k = 4) (w : World) (hc : w.cell? ⟨b, 0, none⟩ = some (.int .i64 k)) : Calls Tryd.prog 31 #[.pointer (some ⟨b, 0, none⟩)] w (NbPost b [2, 3] w) := by
  rcases hk with rfl | rfl | rfl
  all_goals
    go_enter Tryd.func31, Tryd.ntmps31
    go_wp2
    go_region
    go_wp2
    go_ret
    exact ⟨_, rfl, ((Below.refl _ _).alloc (Nat.le_refl _) _).drew, (pt_new (os := [2, 3]) rfl).drew⟩

set_option maxHeartbeats 400000 in
theorem nb5 (b : Nat) (w : World) (hc : w.cell? ⟨b, 0, none⟩ = some (.int .i64 5)) : Calls Tryd.prog 31 #[.pointer (some ⟨b, 0, none⟩)] w (NbPost b [5, 6, 7] w) := by
  go_enter Tryd.func31, Tryd.ntmps31
  go_wp2
  go_region
  go_wp2
  go_ret
  exact ⟨_, rfl, ((Below.refl _ _).alloc (Nat.le_refl _) _).drew, (pt_new (os := [5, 6, 7]) rfl).drew⟩

set_option maxHeartbeats 400000 in
theorem nb6 (b : Nat) (w : World) (hc : w.cell? ⟨b, 0, none⟩ = some (.int .i64 6)) : Calls Tryd.prog 31 #[.pointer (some ⟨b, 0, none⟩)] w (NbPost b [5, 6] w) := by
  go_enter Tryd.func31, Tryd.ntmps31
  go_wp2
  go_region
  go_wp2
  go_ret
  exact ⟨_, rfl, ((Below.refl _ _).alloc (Nat.le_refl _) _).drew, (pt_new (os := [5, 6]) rfl).drew⟩

set_option maxHeartbeats 400000 in
theorem nb0 (b : Nat) (k : Int) (h : k < 1 ∨ 6 < k) (w : World) (hc : w.cell? ⟨b, 0, none⟩ = some (.int .i64 k)) : Calls Tryd.prog 31 #[.pointer (some ⟨b, 0, none⟩)] w (NbPost b [] w) := by
  have h1 : (k == 1) = false := beq_eq_false_iff_ne.2 (by omega)
  have h2 : (k == 2) = false := beq_eq_false_iff_ne.2 (by omega)
  have h3 : (k == 3) = false := beq_eq_false_iff_ne.2 (by omega)
  have h4 : (k == 4) = false := beq_eq_false_iff_ne.2 (by omega)
  have h5 : (k == 5) = false := beq_eq_false_iff_ne.2 (by omega)
  have h6 : (k == 6) = false := beq_eq_false_iff_ne.2 (by omega)
  clear h
  go_enter Tryd.func31, Tryd.ntmps31
  go_wp2
  go_ret
  exact ⟨_, rfl, Below.refl _ _, none, 0, rfl, fun k o ho => by simp at ho⟩

theorem nb_any (b : Nat) (k : Int) (w : World) (hc : w.cell? ⟨b, 0, none⟩ = some (.int .i64 k)) : Calls Tryd.prog 31 #[.pointer (some ⟨b, 0, none⟩)] w (NbPost b (offs k) w) := by
  by_cases h1 : k = 1
  · subst h1; exact nb1 b w hc
  by_cases h2 : k = 2 ∨ k = 3 ∨ k = 4
  · have : offs k = [2, 3] := by rcases h2 with rfl | rfl | rfl <;> rfl
    rw [this]; exact nb2 b k h2 w hc
  by_cases h5 : k = 5
  · subst h5; exact nb5 b w hc
  by_cases h6 : k = 6
  · subst h6; exact nb6 b w hc
  have : offs k = [] := by unfold offs; rw [if_neg h1, if_neg (by omega), if_neg (by omega), if_neg (by omega), if_neg h5, if_neg h6]
  rw [this]; exact nb0 b k (by omega) w hc

set_option maxHeartbeats 400000 in
theorem outcome_any (g : Bool) (w : World) : Calls Tryd.prog 33 #[.bool g] w fun r w' => r = .returned (.string ⟨(outB g).toArray⟩) ∧ w' = w := by
  cases g
  all_goals
    go_enter Tryd.func33, Tryd.ntmps33
    go_wp2
    go_ret
    exact ⟨rfl, rfl⟩
end Go.Proofs.YtkefdbnnfcfmjaaDoor.Walks
