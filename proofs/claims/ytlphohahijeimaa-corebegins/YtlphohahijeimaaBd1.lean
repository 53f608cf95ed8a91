/-
  bound, part 1: contracts of its functions, and what they lean on. Conditions: what is read can be read.
-/
import Derived.Test.YtlphohahijeimaaChecked
import Derived.Test.YtlphohahijeimaaRows
import Derived.Deep.MidRow
import Derived.Deep.Upon
import Derived.WalkKit
import Derived.ProofKit
import Derived.Handy
import Derived.LoopTactic
import Derived.Below
import Derived.Laws.BitsAllLaws
import Derived.RegionTactic
import Derived.Deep.RegionHeld3
import Derived.Deep.DrawnRows
import Derived.Deep.AppendLies
import Derived.Laws.OwnMore
import Derived.Deep.Onto
import Derived.Deep.QuietTactic
import Derived.BigQuiet
namespace Go.Proofs.Ytlphohahijeimaa.Bd
open Go.RowKit
set_option linter.unusedVariables false
set_option linter.unusedSimpArgs false
attribute [local go_sem ↓] Go.wp_at_zero Go.wp_at_succ
section
set_option maxHeartbeats 1000000 in
theorem in_any (n lo hi : Int) (w : World) : Calls Try.prog 13 #[.int .i64 n, .int .i64 lo, .int .i64 hi] w fun r w' => r = .returned (.bool (decide (lo ≤ n ∧ n ≤ hi))) ∧ w' = w := by
  obtain ⟨ans, hans⟩ : ∃ ans, ans = decide (lo ≤ n ∧ n ≤ hi) := ⟨_, rfl⟩
  rw [← hans]
  have H : Hid _ := hans
  clear hans
  cases h1 : decide (lo ≤ n)
  · go_enter Try.func13, Try.ntmps13
    go_wp2
    go_ret
    exact ⟨by rw [H.out, decide_eq_false (fun h => of_decide_eq_false h1 h.1)]; rfl, rfl⟩
  · cases h2 : decide (n ≤ hi)
    · go_enter Try.func13, Try.ntmps13
      go_wp2
      go_ret
      exact ⟨by rw [H.out, decide_eq_false (fun h => of_decide_eq_false h2 h.2)]; rfl, rfl⟩
    · go_enter Try.func13, Try.ntmps13
      go_wp2
      go_ret
      exact ⟨by rw [H.out, decide_eq_true ⟨of_decide_eq_true h1, of_decide_eq_true h2⟩]; rfl, rfl⟩

end

section
theorem factorMay_any (a b : Int) (w : World) : Calls Try.prog 14 #[.int .i64 a, .int .i64 b] w fun r w' => r = .returned (.bool (decide (1 ≤ b ∧ b ≤ a ∧ a ≤ 20))) ∧ w' = w := by
  cases e1 : decide (1 ≤ a ∧ a ≤ 20)
  · have E : Hid (decide (1 ≤ b ∧ b ≤ a ∧ a ≤ 20) = false) := decide_eq_false fun g => of_decide_eq_false e1 ⟨by omega, g.2.2⟩
    go_enter Try.func14, Try.ntmps14
    go_wp2_with fail
    refine (in_any _ _ _ _).mono ?_
    rintro r w' ⟨rfl, rfl⟩
    rw [e1]
    go_wp2
    go_ret
    exact ⟨by rw [E.out]; rfl, rfl⟩
  · have E : Hid (decide (1 ≤ b ∧ b ≤ a ∧ a ≤ 20) = decide (1 ≤ b ∧ b ≤ a)) := decide_eq_decide.2 ⟨fun g => ⟨g.1, g.2.1⟩, fun g => ⟨g.1, g.2, (of_decide_eq_true e1).2⟩⟩
    go_enter Try.func14, Try.ntmps14
    go_wp2_with fail
    refine (in_any _ _ _ _).mono ?_
    rintro r w' ⟨rfl, rfl⟩
    rw [e1]
    go_wp2_with fail
    refine (in_any _ _ _ _).mono ?_
    rintro r w' ⟨rfl, rfl⟩
    go_wp2
    go_ret
    exact ⟨by rw [E.out, Bool.decide_and]; rfl, rfl⟩

end

end Go.Proofs.Ytlphohahijeimaa.Bd
