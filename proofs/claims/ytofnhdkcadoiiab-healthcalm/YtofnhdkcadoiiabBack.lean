/-
  health.Back, Allowed. Condition: what is read can be read.
-/
import Derived.Test.YtofnhdkcadoiiabNote
import Derived.WalkKit
import Derived.ProofKit
import Derived.Handy
import Derived.LoopTactic
import Derived.Below
import Derived.Laws.BitsAllLaws
import Derived.RegionTactic
import Derived.Deep.RegionHeld3
import Derived.Deep.DrawnRows
import Derived.Deep.AppendLies
import Derived.Laws.OwnMore
import Derived.Deep.Onto
import Derived.Deep.QuietTactic
import Derived.BigQuiet
namespace Go.Proofs.Ytofnhdkcadoiiab.Walks
open Go.RowKit
set_option linter.unusedVariables false
set_option linter.unusedSimpArgs false
attribute [local go_sem ↓] Go.wp_at_zero Go.wp_at_succ

section
variable {w W : World} {n f d : Int} {v : Value} {o : Bool} {u t : Int} {v' : Value} {o' : Bool} {u' t' : Int}

theorem Hy.set12 (h : Hy w W n f d v o u t v' o' u' t') (b : Bool) (c : Int) : Hy w ((W.setCell ⟨w.heap.size + 1, 1, none⟩ (.bool b)).setCell ⟨w.heap.size + 1, 2, none⟩ (.int .i64 c)) n f d v b c t v' o' u' t' :=
  ⟨⟨(Below.heap_setCell _ _ _ _ (by simp)).trans ((Below.heap_setCell _ _ _ _ (by simp)).trans h.1.1), heap_setCell_same _ _ 2 _ _ _ (heap_setCell_same W _ 1 _ _ _ h.1.2.1), (h.1.2.2.setCell (by simp) _).setCell (by simp) _⟩, (Below.heap_setCell _ _ _ _ (by simp)).trans ((Below.heap_setCell _ _ _ _ (by simp)).trans h.2)⟩
end

/-- Allowed's answer. -/
def allowO (out act per : Int) : Bool × Int :=
  if (0 ≤ act ∧ act ≤ 12) ∧ (0 ≤ out ∧ out ≤ act) ∧ (0 ≤ per ∧ per ≤ 100) then (decide ((out + 1) * 100 ≤ per * act), 0) else (false, 2)

set_option maxHeartbeats 4000000 in
theorem allowed_any (out act per : Int) (w : World) : Calls Try.prog 10 #[.int .i64 out, .int .i64 act, .int .i64 per] w fun r w' => r = .returned (.tuple #[.bool (allowO out act per).1, .int .i64 (allowO out act per).2]) ∧ w' = w := by
  cases h1 : decide (0 ≤ act ∧ act ≤ 12)
  · have E : Hid (allowO out act per = (false, 2)) := if_neg fun h => of_decide_eq_false h1 h.1
    go_enter Try.func10, Try.ntmps10
    go_wp2_with fail
    refine (within_any _ _ _ _).mono ?_
    rintro e w' ⟨rfl, rfl⟩
    rw [h1]
    go_wp2
    go_ret2
    exact ⟨by rw [E.out]; rfl, rfl⟩
  cases h2 : decide (0 ≤ out ∧ out ≤ act)
  · have E : Hid (allowO out act per = (false, 2)) := if_neg fun h => of_decide_eq_false h2 h.2.1
    go_enter Try.func10, Try.ntmps10
    go_wp2_with fail
    refine (within_any _ _ _ _).mono ?_
    rintro e w' ⟨rfl, rfl⟩
    rw [h1]
    go_wp2_with fail
    refine (within_any _ _ _ _).mono ?_
    rintro e w' ⟨rfl, rfl⟩
    rw [h2]
    go_wp2
    go_ret2
    exact ⟨by rw [E.out]; rfl, rfl⟩
  cases h3 : decide (0 ≤ per ∧ per ≤ 100)
  · have E : Hid (allowO out act per = (false, 2)) := if_neg fun h => of_decide_eq_false h3 h.2.2
    go_enter Try.func10, Try.ntmps10
    go_wp2_with fail
    refine (within_any _ _ _ _).mono ?_
    rintro e w' ⟨rfl, rfl⟩
    rw [h1]
    go_wp2_with fail
    refine (within_any _ _ _ _).mono ?_
    rintro e w' ⟨rfl, rfl⟩
    rw [h2]
    go_wp2_with fail
    refine (within_any _ _ _ _).mono ?_
    rintro e w' ⟨rfl, rfl⟩
    rw [h3]
    go_wp2
    go_ret2
    exact ⟨by rw [E.out]; rfl, rfl⟩
  · have E : Hid (allowO out act per = (decide ((out + 1) * 100 ≤ per * act), 0)) := if_pos ⟨of_decide_eq_true h1, of_decide_eq_true h2, of_decide_eq_true h3⟩
    have b1 := of_decide_eq_true h1
    have b2 := of_decide_eq_true h2
    have b3 := of_decide_eq_true h3
    have m0 : 0 ≤ per * act := Int.mul_nonneg b3.1 b1.1
    have m1 : per * act ≤ 1200 := (Int.mul_le_mul b3.2 b1.2 b1.1 (by omega) : per * act ≤ 100 * 12)
    obtain ⟨a0, a1⟩ := b1
    obtain ⟨o0, o1⟩ := b2
    have o2 : out ≤ 12 := by omega
    clear b3
    go_enter Try.func10, Try.ntmps10
    go_wp2_with fail
    refine (within_any _ _ _ _).mono ?_
    rintro e w' ⟨rfl, rfl⟩
    rw [h1]
    go_wp2_with fail
    refine (within_any _ _ _ _).mono ?_
    rintro e w' ⟨rfl, rfl⟩
    rw [h2]
    go_wp2_with fail
    refine (within_any _ _ _ _).mono ?_
    rintro e w' ⟨rfl, rfl⟩
    rw [h3]
    go_wp2
    go_ret2
    exact ⟨by rw [E.out]; rfl, rfl⟩
end Go.Proofs.Ytofnhdkcadoiiab.Walks
