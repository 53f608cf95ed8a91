/-
  usherref: lifeMay, RequestMay, BookFault. Condition: what is read can be read.
-/
import Derived.Test.YtlpedligkofegaaAsk
import Derived.WalkKit
import Derived.ProofKit
import Derived.Handy
import Derived.LoopTactic
import Derived.Below
import Derived.Laws.BitsAllLaws
import Derived.RegionTactic
import Derived.Deep.RegionHeld3
import Derived.Deep.DrawnRows
import Derived.Deep.AppendLies
import Derived.Laws.OwnMore
import Derived.Deep.Onto
import Derived.Deep.QuietTactic
import Derived.BigQuiet
namespace Go.Proofs.Ytlpedligkofegaa.Walks
open Go.RowKit
set_option linter.unusedVariables false
set_option linter.unusedSimpArgs false
attribute [local go_sem ↓] Go.wp_at_zero Go.wp_at_succ
open Go.Sort (grow grow_empty grow_grow alloc_eq_grow cell?_grow heap_grow_old)

set_option maxHeartbeats 8000000 in
theorem lifeMay_any (x1 x2 x3 x4 x5 x6 : Int) (w : World) : Calls Try.prog 27 #[lfV x1 x2 x3 x4 x5 x6] w fun r w' => r = .returned (.bool (decide (LfOk (x1, x2, x3, x4, x5, x6)))) ∧ ∃ q os, w' = grow (w.drewN q) os := by
  obtain ⟨ans, hans⟩ : ∃ ans, ans = decide (LfOk (x1, x2, x3, x4, x5, x6)) := ⟨_, rfl⟩
  rw [← hans]
  have H : Hid _ := hans
  clear hans
  cases h1 : decide (0 ≤ x1 ∧ x1 ≤ 11)
  case false =>
    have E : Hid (ans = false) := by rw [H.out]; exact decide_eq_false fun h => of_decide_eq_false h1 h.1.1
    go_enter Try.func27, Try.ntmps27
    go_wp2_with fail
    refine (in_any _ _ _ _).mono ?_
    rw [h1]
    rintro r w1 ⟨rfl, rfl⟩
    go_wp2
    go_ret
    exact ⟨by rw [E.out]; rfl, grown_one _ _⟩
  cases h2 : decide (1 ≤ x2 ∧ x2 ≤ 4)
  case false =>
    have E : Hid (ans = false) := by
      rw [H.out]
      refine decide_eq_false fun h => of_decide_eq_false h2 ?_
      rcases h.2 with h | h | h | h
      · have : x2 = 1 := h.1; omega
      · have : x2 = 2 := h.1; omega
      · have : x2 = 3 := h; omega
      · have : x2 = 4 := h; omega
    go_enter Try.func27, Try.ntmps27
    go_wp2_with fail
    refine (in_any _ _ _ _).mono ?_
    rw [h1]
    rintro r w1 ⟨rfl, rfl⟩
    go_wp2_with fail
    refine (in_any _ _ _ _).mono ?_
    rw [h2]
    rintro r w1 ⟨rfl, rfl⟩
    go_wp2
    go_ret
    exact ⟨by rw [E.out]; rfl, grown_one _ _⟩
  cases h3 : decide (1 ≤ x3 ∧ x3 ≤ 8)
  case false =>
    have E : Hid (ans = false) := by rw [H.out]; exact decide_eq_false fun h => of_decide_eq_false h3 h.1.2.1
    go_enter Try.func27, Try.ntmps27
    go_wp2_with fail
    refine (in_any _ _ _ _).mono ?_
    rw [h1]
    rintro r w1 ⟨rfl, rfl⟩
    go_wp2_with fail
    refine (in_any _ _ _ _).mono ?_
    rw [h2]
    rintro r w1 ⟨rfl, rfl⟩
    go_wp2_with fail
    refine (in_any _ _ _ _).mono ?_
    rw [h3]
    rintro r w1 ⟨rfl, rfl⟩
    go_wp2
    go_ret
    exact ⟨by rw [E.out]; rfl, grown_one _ _⟩
  cases h4 : decide (0 ≤ x4 ∧ x4 ≤ 1099511627776)
  case false =>
    have E : Hid (ans = false) := by rw [H.out]; exact decide_eq_false fun h => of_decide_eq_false h4 h.1.2.2.1
    go_enter Try.func27, Try.ntmps27
    go_wp2_with fail
    refine (in_any _ _ _ _).mono ?_
    rw [h1]
    rintro r w1 ⟨rfl, rfl⟩
    go_wp2_with fail
    refine (in_any _ _ _ _).mono ?_
    rw [h2]
    rintro r w1 ⟨rfl, rfl⟩
    go_wp2_with fail
    refine (in_any _ _ _ _).mono ?_
    rw [h3]
    rintro r w1 ⟨rfl, rfl⟩
    go_wp2_with fail
    refine (in_any _ _ _ _).mono ?_
    rw [h4]
    rintro r w1 ⟨rfl, rfl⟩
    go_wp2
    go_ret
    exact ⟨by rw [E.out]; rfl, grown_one _ _⟩
  cases h5 : decide (0 ≤ x5 ∧ x5 ≤ 1099511628276)
  case false =>
    have E : Hid (ans = false) := by rw [H.out]; exact decide_eq_false fun h => of_decide_eq_false h5 h.1.2.2.2.1
    go_enter Try.func27, Try.ntmps27
    go_wp2_with fail
    refine (in_any _ _ _ _).mono ?_
    rw [h1]
    rintro r w1 ⟨rfl, rfl⟩
    go_wp2_with fail
    refine (in_any _ _ _ _).mono ?_
    rw [h2]
    rintro r w1 ⟨rfl, rfl⟩
    go_wp2_with fail
    refine (in_any _ _ _ _).mono ?_
    rw [h3]
    rintro r w1 ⟨rfl, rfl⟩
    go_wp2_with fail
    refine (in_any _ _ _ _).mono ?_
    rw [h4]
    rintro r w1 ⟨rfl, rfl⟩
    go_wp2_with fail
    refine (in_any _ _ _ _).mono ?_
    rw [h5]
    rintro r w1 ⟨rfl, rfl⟩
    go_wp2
    go_ret
    exact ⟨by rw [E.out]; rfl, grown_one _ _⟩
  cases h6 : decide (0 ≤ x6 ∧ x6 ≤ 1048576)
  case false =>
    have E : Hid (ans = false) := by rw [H.out]; exact decide_eq_false fun h => of_decide_eq_false h6 h.1.2.2.2.2
    go_enter Try.func27, Try.ntmps27
    go_wp2_with fail
    refine (in_any _ _ _ _).mono ?_
    rw [h1]
    rintro r w1 ⟨rfl, rfl⟩
    go_wp2_with fail
    refine (in_any _ _ _ _).mono ?_
    rw [h2]
    rintro r w1 ⟨rfl, rfl⟩
    go_wp2_with fail
    refine (in_any _ _ _ _).mono ?_
    rw [h3]
    rintro r w1 ⟨rfl, rfl⟩
    go_wp2_with fail
    refine (in_any _ _ _ _).mono ?_
    rw [h4]
    rintro r w1 ⟨rfl, rfl⟩
    go_wp2_with fail
    refine (in_any _ _ _ _).mono ?_
    rw [h5]
    rintro r w1 ⟨rfl, rfl⟩
    go_wp2_with fail
    refine (in_any _ _ _ _).mono ?_
    rw [h6]
    rintro r w1 ⟨rfl, rfl⟩
    go_wp2
    go_ret
    exact ⟨by rw [E.out]; rfl, grown_one _ _⟩
  have hbd : LfBd (x1, x2, x3, x4, x5, x6) := ⟨of_decide_eq_true h1, of_decide_eq_true h3, of_decide_eq_true h4, of_decide_eq_true h5, of_decide_eq_true h6⟩
  have hst : x2 = 1 ∨ x2 = 2 ∨ x2 = 3 ∨ x2 = 4 := by have := of_decide_eq_true h2; omega
  have HD : Hid _ := hbd
  clear hbd
  rcases hst with rfl | rfl | rfl | rfl
  · by_cases k4 : x4 = 0
    case neg =>
      have g4 : (x4 != 0) = true := by simpa using k4
      have E : Hid (ans = false) := by
        rw [H.out]
        refine decide_eq_false fun h => ?_
        rcases h.2 with h | h | h | h
        · exact k4 h.2.1
        · exact absurd h.1 (show ¬ (1 : Int) = 2 by decide)
        · exact absurd h (show ¬ (1 : Int) = 3 by decide)
        · exact absurd h (show ¬ (1 : Int) = 4 by decide)
      go_enter Try.func27, Try.ntmps27
      go_wp2_with fail
      refine (in_any _ _ _ _).mono ?_
      rw [h1]
      rintro r w1 ⟨rfl, rfl⟩
      go_wp2_with fail
      refine (in_any _ _ _ _).mono ?_
      rw [h2]
      rintro r w1 ⟨rfl, rfl⟩
      go_wp2_with fail
      refine (in_any _ _ _ _).mono ?_
      rw [h3]
      rintro r w1 ⟨rfl, rfl⟩
      go_wp2_with fail
      refine (in_any _ _ _ _).mono ?_
      rw [h4]
      rintro r w1 ⟨rfl, rfl⟩
      go_wp2_with fail
      refine (in_any _ _ _ _).mono ?_
      rw [h5]
      rintro r w1 ⟨rfl, rfl⟩
      go_wp2_with fail
      refine (in_any _ _ _ _).mono ?_
      rw [h6]
      rintro r w1 ⟨rfl, rfl⟩
      go_wp2
      go_ret
      exact ⟨by rw [E.out]; rfl, grown_one _ _⟩
    subst k4
    by_cases k5 : x5 = 0
    case neg =>
      have g5 : (x5 == 0) = false := by simpa using k5
      have E : Hid (ans = false) := by
        rw [H.out]
        refine decide_eq_false fun h => ?_
        rcases h.2 with h | h | h | h
        · exact k5 h.2.2.1
        · exact absurd h.1 (show ¬ (1 : Int) = 2 by decide)
        · exact absurd h (show ¬ (1 : Int) = 3 by decide)
        · exact absurd h (show ¬ (1 : Int) = 4 by decide)
      go_enter Try.func27, Try.ntmps27
      go_wp2_with fail
      refine (in_any _ _ _ _).mono ?_
      rw [h1]
      rintro r w1 ⟨rfl, rfl⟩
      go_wp2_with fail
      refine (in_any _ _ _ _).mono ?_
      rw [h2]
      rintro r w1 ⟨rfl, rfl⟩
      go_wp2_with fail
      refine (in_any _ _ _ _).mono ?_
      rw [h3]
      rintro r w1 ⟨rfl, rfl⟩
      go_wp2_with fail
      refine (in_any _ _ _ _).mono ?_
      rw [h4]
      rintro r w1 ⟨rfl, rfl⟩
      go_wp2_with fail
      refine (in_any _ _ _ _).mono ?_
      rw [h5]
      rintro r w1 ⟨rfl, rfl⟩
      go_wp2_with fail
      refine (in_any _ _ _ _).mono ?_
      rw [h6]
      rintro r w1 ⟨rfl, rfl⟩
      go_wp2
      go_ret
      exact ⟨by rw [E.out]; rfl, grown_one _ _⟩
    subst k5
    by_cases k6 : x6 = 0
    case neg =>
      have g6 : (x6 == 0) = false := by simpa using k6
      have E : Hid (ans = false) := by
        rw [H.out]
        refine decide_eq_false fun h => ?_
        rcases h.2 with h | h | h | h
        · exact k6 h.2.2.2
        · exact absurd h.1 (show ¬ (1 : Int) = 2 by decide)
        · exact absurd h (show ¬ (1 : Int) = 3 by decide)
        · exact absurd h (show ¬ (1 : Int) = 4 by decide)
      go_enter Try.func27, Try.ntmps27
      go_wp2_with fail
      refine (in_any _ _ _ _).mono ?_
      rw [h1]
      rintro r w1 ⟨rfl, rfl⟩
      go_wp2_with fail
      refine (in_any _ _ _ _).mono ?_
      rw [h2]
      rintro r w1 ⟨rfl, rfl⟩
      go_wp2_with fail
      refine (in_any _ _ _ _).mono ?_
      rw [h3]
      rintro r w1 ⟨rfl, rfl⟩
      go_wp2_with fail
      refine (in_any _ _ _ _).mono ?_
      rw [h4]
      rintro r w1 ⟨rfl, rfl⟩
      go_wp2_with fail
      refine (in_any _ _ _ _).mono ?_
      rw [h5]
      rintro r w1 ⟨rfl, rfl⟩
      go_wp2_with fail
      refine (in_any _ _ _ _).mono ?_
      rw [h6]
      rintro r w1 ⟨rfl, rfl⟩
      go_wp2
      go_ret
      exact ⟨by rw [E.out]; rfl, grown_one _ _⟩
    subst k6
    have E : Hid (ans = true) := by rw [H.out]; exact decide_eq_true ⟨HD.out, .inl ⟨rfl, rfl, rfl, rfl⟩⟩
    go_enter Try.func27, Try.ntmps27
    go_wp2_with fail
    refine (in_any _ _ _ _).mono ?_
    rw [h1]
    rintro r w1 ⟨rfl, rfl⟩
    go_wp2_with fail
    refine (in_any _ _ _ _).mono ?_
    rw [h2]
    rintro r w1 ⟨rfl, rfl⟩
    go_wp2_with fail
    refine (in_any _ _ _ _).mono ?_
    rw [h3]
    rintro r w1 ⟨rfl, rfl⟩
    go_wp2_with fail
    refine (in_any _ _ _ _).mono ?_
    rw [h4]
    rintro r w1 ⟨rfl, rfl⟩
    go_wp2_with fail
    refine (in_any _ _ _ _).mono ?_
    rw [h5]
    rintro r w1 ⟨rfl, rfl⟩
    go_wp2_with fail
    refine (in_any _ _ _ _).mono ?_
    rw [h6]
    rintro r w1 ⟨rfl, rfl⟩
    go_wp2
    go_ret
    exact ⟨by rw [E.out]; rfl, grown_one _ _⟩
  · by_cases k5 : x5 = 0
    case neg =>
      have g5 : (x5 == 0) = false := by simpa using k5
      have E : Hid (ans = false) := by
        rw [H.out]
        refine decide_eq_false fun h => ?_
        rcases h.2 with h | h | h | h
        · exact absurd h.1 (show ¬ (2 : Int) = 1 by decide)
        · exact k5 h.2.1
        · exact absurd h (show ¬ (2 : Int) = 3 by decide)
        · exact absurd h (show ¬ (2 : Int) = 4 by decide)
      go_enter Try.func27, Try.ntmps27
      go_wp2_with fail
      refine (in_any _ _ _ _).mono ?_
      rw [h1]
      rintro r w1 ⟨rfl, rfl⟩
      go_wp2_with fail
      refine (in_any _ _ _ _).mono ?_
      rw [h2]
      rintro r w1 ⟨rfl, rfl⟩
      go_wp2_with fail
      refine (in_any _ _ _ _).mono ?_
      rw [h3]
      rintro r w1 ⟨rfl, rfl⟩
      go_wp2_with fail
      refine (in_any _ _ _ _).mono ?_
      rw [h4]
      rintro r w1 ⟨rfl, rfl⟩
      go_wp2_with fail
      refine (in_any _ _ _ _).mono ?_
      rw [h5]
      rintro r w1 ⟨rfl, rfl⟩
      go_wp2_with fail
      refine (in_any _ _ _ _).mono ?_
      rw [h6]
      rintro r w1 ⟨rfl, rfl⟩
      go_wp2
      go_ret
      exact ⟨by rw [E.out]; rfl, grown_one _ _⟩
    subst k5
    by_cases k6 : x6 = 0
    case neg =>
      have g6 : (x6 == 0) = false := by simpa using k6
      have E : Hid (ans = false) := by
        rw [H.out]
        refine decide_eq_false fun h => ?_
        rcases h.2 with h | h | h | h
        · exact absurd h.1 (show ¬ (2 : Int) = 1 by decide)
        · exact k6 h.2.2
        · exact absurd h (show ¬ (2 : Int) = 3 by decide)
        · exact absurd h (show ¬ (2 : Int) = 4 by decide)
      go_enter Try.func27, Try.ntmps27
      go_wp2_with fail
      refine (in_any _ _ _ _).mono ?_
      rw [h1]
      rintro r w1 ⟨rfl, rfl⟩
      go_wp2_with fail
      refine (in_any _ _ _ _).mono ?_
      rw [h2]
      rintro r w1 ⟨rfl, rfl⟩
      go_wp2_with fail
      refine (in_any _ _ _ _).mono ?_
      rw [h3]
      rintro r w1 ⟨rfl, rfl⟩
      go_wp2_with fail
      refine (in_any _ _ _ _).mono ?_
      rw [h4]
      rintro r w1 ⟨rfl, rfl⟩
      go_wp2_with fail
      refine (in_any _ _ _ _).mono ?_
      rw [h5]
      rintro r w1 ⟨rfl, rfl⟩
      go_wp2_with fail
      refine (in_any _ _ _ _).mono ?_
      rw [h6]
      rintro r w1 ⟨rfl, rfl⟩
      go_wp2
      go_ret
      exact ⟨by rw [E.out]; rfl, grown_one _ _⟩
    subst k6
    have E : Hid (ans = true) := by rw [H.out]; exact decide_eq_true ⟨HD.out, .inr (.inl ⟨rfl, rfl, rfl⟩)⟩
    go_enter Try.func27, Try.ntmps27
    go_wp2_with fail
    refine (in_any _ _ _ _).mono ?_
    rw [h1]
    rintro r w1 ⟨rfl, rfl⟩
    go_wp2_with fail
    refine (in_any _ _ _ _).mono ?_
    rw [h2]
    rintro r w1 ⟨rfl, rfl⟩
    go_wp2_with fail
    refine (in_any _ _ _ _).mono ?_
    rw [h3]
    rintro r w1 ⟨rfl, rfl⟩
    go_wp2_with fail
    refine (in_any _ _ _ _).mono ?_
    rw [h4]
    rintro r w1 ⟨rfl, rfl⟩
    go_wp2_with fail
    refine (in_any _ _ _ _).mono ?_
    rw [h5]
    rintro r w1 ⟨rfl, rfl⟩
    go_wp2_with fail
    refine (in_any _ _ _ _).mono ?_
    rw [h6]
    rintro r w1 ⟨rfl, rfl⟩
    go_wp2
    go_ret
    exact ⟨by rw [E.out]; rfl, grown_one _ _⟩
  · have E : Hid (ans = true) := by rw [H.out]; exact decide_eq_true ⟨HD.out, .inr (.inr (.inl rfl))⟩
    go_enter Try.func27, Try.ntmps27
    go_wp2_with fail
    refine (in_any _ _ _ _).mono ?_
    rw [h1]
    rintro r w1 ⟨rfl, rfl⟩
    go_wp2_with fail
    refine (in_any _ _ _ _).mono ?_
    rw [h2]
    rintro r w1 ⟨rfl, rfl⟩
    go_wp2_with fail
    refine (in_any _ _ _ _).mono ?_
    rw [h3]
    rintro r w1 ⟨rfl, rfl⟩
    go_wp2_with fail
    refine (in_any _ _ _ _).mono ?_
    rw [h4]
    rintro r w1 ⟨rfl, rfl⟩
    go_wp2_with fail
    refine (in_any _ _ _ _).mono ?_
    rw [h5]
    rintro r w1 ⟨rfl, rfl⟩
    go_wp2_with fail
    refine (in_any _ _ _ _).mono ?_
    rw [h6]
    rintro r w1 ⟨rfl, rfl⟩
    go_wp2
    go_ret
    exact ⟨by rw [E.out]; rfl, grown_one _ _⟩
  · have E : Hid (ans = true) := by rw [H.out]; exact decide_eq_true ⟨HD.out, .inr (.inr (.inr rfl))⟩
    go_enter Try.func27, Try.ntmps27
    go_wp2_with fail
    refine (in_any _ _ _ _).mono ?_
    rw [h1]
    rintro r w1 ⟨rfl, rfl⟩
    go_wp2_with fail
    refine (in_any _ _ _ _).mono ?_
    rw [h2]
    rintro r w1 ⟨rfl, rfl⟩
    go_wp2_with fail
    refine (in_any _ _ _ _).mono ?_
    rw [h3]
    rintro r w1 ⟨rfl, rfl⟩
    go_wp2_with fail
    refine (in_any _ _ _ _).mono ?_
    rw [h4]
    rintro r w1 ⟨rfl, rfl⟩
    go_wp2_with fail
    refine (in_any _ _ _ _).mono ?_
    rw [h5]
    rintro r w1 ⟨rfl, rfl⟩
    go_wp2_with fail
    refine (in_any _ _ _ _).mono ?_
    rw [h6]
    rintro r w1 ⟨rfl, rfl⟩
    go_wp2
    go_ret
    exact ⟨by rw [E.out]; rfl, grown_one _ _⟩

set_option maxHeartbeats 2000000 in
theorem requestMay_any (x1 x2 x3 x4 x5 : Int) (w : World) : Calls Try.prog 28 #[rqV x1 x2 x3 x4 x5] w fun r w' => r = .returned (.bool (decide (RqOk (x1, x2, x3, x4, x5)))) ∧ w' = w.alloc (rqO x1 x2 x3 x4 x5) := by
  obtain ⟨ans, hans⟩ : ∃ ans, ans = decide (RqOk (x1, x2, x3, x4, x5)) := ⟨_, rfl⟩
  rw [← hans]
  have H : Hid _ := hans
  clear hans
  cases h1 : decide (0 ≤ x1 ∧ x1 ≤ 1048576)
  case false =>
    have E : Hid (ans = false) := by rw [H.out]; exact decide_eq_false fun h => of_decide_eq_false h1 h.1
    go_enter Try.func28, Try.ntmps28
    go_wp2_with fail
    refine (in_any _ _ _ _).mono ?_
    rw [h1]
    rintro r w1 ⟨rfl, rfl⟩
    go_wp2
    go_ret
    exact ⟨by rw [E.out]; rfl, rfl⟩
  obtain ⟨b2, h2⟩ : ∃ b2, decide (1 ≤ x2 ∧ x2 ≤ 2) = b2 := ⟨_, rfl⟩
  have E : Hid (ans = b2) := by
    rw [H.out, ← h2]
    refine decide_eq_decide.2 ⟨fun h => ?_, fun h => ⟨of_decide_eq_true h1, ?_⟩⟩
    · rcases h.2 with h | h
      · have : x2 = 1 := h; omega
      · have : x2 = 2 := h; omega
    · show x2 = 1 ∨ x2 = 2
      omega
  go_enter Try.func28, Try.ntmps28
  go_wp2_with fail
  refine (in_any _ _ _ _).mono ?_
  rw [h1]
  rintro r w1 ⟨rfl, rfl⟩
  go_wp2_with fail
  refine (in_any _ _ _ _).mono ?_
  rw [h2]
  rintro r w1 ⟨rfl, rfl⟩
  clear h2
  go_wp2
  go_ret
  exact ⟨by rw [E.out]; rfl, rfl⟩
end Go.Proofs.Ytlpedligkofegaa.Walks
