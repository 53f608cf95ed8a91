/-
  The program's bounds of a timer, its order, which blocks begin and where their timers waited; the document's bounds of a timer.
-/
import Derived.Test.YtdfjobghgbcjpaaDoorPlace
import Derived.WalkKit
import Derived.ProofKit
import Derived.Handy
import Derived.LoopTactic
import Derived.Below
import Derived.Laws.BitsAllLaws
import Derived.RegionTactic
import Derived.Deep.RegionHeld3
import Derived.Deep.DrawnRows
import Derived.Deep.AppendLies
import Derived.Laws.OwnMore
import Derived.Deep.Onto
import Derived.Deep.QuietTactic
import Derived.BigQuiet
namespace Go.Proofs.YtdfjobghgbcjpaaDoor.Walks
open Go.RowKit
set_option linter.unusedVariables false
set_option linter.unusedSimpArgs false
attribute [local go_sem ↓] Go.wp_at_zero Go.wp_at_succ

set_option maxHeartbeats 2000000 in
theorem waiting0 (n : Int) (w : World) (hB : Blk w) (hn : 0 ≤ n) (hn2 : n ≤ 4398046511104) :
    Calls Tryd.prog 41 #[.int .i64 0, .int .i64 n] w fun r w' => r = .returned (.int .i64 (8 + n / 8 % 8)) ∧ w' = w := by
  have a4 : n.tdiv 8 = n / 8 := Int.tdiv_eq_ediv_of_nonneg hn
  have a8 : (n / 8).tmod 8 = n / 8 % 8 := Int.tmod_eq_emod_of_nonneg (by omega)
  obtain ⟨c0, c1, c2⟩ := hB
  go_enter Tryd.func41, Tryd.ntmps41
  go_wp2
  go_ret
  exact ⟨rfl, rfl⟩

set_option maxHeartbeats 2000000 in
theorem waiting1 (n : Int) (w : World) (hB : Blk w) (hn : 0 ≤ n) (hn2 : n ≤ 4398046511104) :
    Calls Tryd.prog 41 #[.int .i64 1, .int .i64 n] w fun r w' => r = .returned (.int .i64 (16 + n / 64 % 8)) ∧ w' = w := by
  have a4 : n.tdiv 64 = n / 64 := Int.tdiv_eq_ediv_of_nonneg hn
  have a8 : (n / 64).tmod 8 = n / 64 % 8 := Int.tmod_eq_emod_of_nonneg (by omega)
  obtain ⟨c0, c1, c2⟩ := hB
  go_enter Tryd.func41, Tryd.ntmps41
  go_wp2
  go_ret
  exact ⟨rfl, rfl⟩

set_option maxHeartbeats 2000000 in
theorem waiting2 (n : Int) (w : World) :
    Calls Tryd.prog 41 #[.int .i64 2, .int .i64 n] w fun r w' => r = .returned (.int .i64 24) ∧ w' = w := by
  go_enter Tryd.func41, Tryd.ntmps41
  go_wp2
  go_ret
  exact ⟨rfl, rfl⟩

/-- A timer fits a tick. -/
def fitsT (now : Int) (t : Tm) : Bool := decide (now < t.1) && decide (t.1 ≤ now + 500) && decide (t.1 ≤ 1099511627776) && decide (0 ≤ t.2) && decide (t.2 ≤ 199)

theorem fitsT_iff (now : Int) (t : Tm) : fitsT now t = true ↔ now < t.1 ∧ t.1 ≤ now + 500 ∧ t.1 ≤ 1099511627776 ∧ 0 ≤ t.2 ∧ t.2 ≤ 199 := by
  simp [fitsT, and_assoc]

set_option maxHeartbeats 2000000 in
theorem fits_any (x y n : Int) (w : World) (hn : 0 ≤ n) (hn2 : n ≤ 1099511627776) :
    Calls Tryd.prog 16 #[.agg #[.int .i64 x, .int .i64 y], .int .i64 n] w fun r w' => r = .returned (.bool (fitsT n (x, y))) ∧ w' = w.alloc (.cells #[.int .i64 x, .int .i64 y] 45) := by
  obtain ⟨ans, hans⟩ : ∃ ans, ans = fitsT n (x, y) := ⟨_, rfl⟩
  rw [← hans]
  have H : Hid _ := hans
  clear hans
  cases h1 : decide (n < x)
  · have HE : Hid (ans = false) := by show ans = false; rw [H.out]; simp only [fitsT, h1, Bool.false_and]
    go_enter Tryd.func16, Tryd.ntmps16
    go_wp2
    go_ret
    exact ⟨by rw [HE.out]; rfl, rfl⟩
  · go_enter Tryd.func16, Tryd.ntmps16
    go_wp2
    all_goals
      go_ret
      refine ⟨congrArg (fun b => Ending.returned (.bool b)) (Bool.eq_iff_iff.2 ?_), rfl⟩
      rw [H.out, fitsT_iff]
      have := of_decide_eq_true h1
      simp only [decide_eq_true_eq, Bool.false_eq_true, false_iff]
      omega

set_option maxHeartbeats 2000000 in
theorem timerMay_any (x y n : Int) (w : World) (hn : 0 ≤ n) (hn2 : n ≤ 1099511627776) :
    Calls Tryd.prog 20 #[.agg #[.int .i64 x, .int .i64 y], .int .i64 n] w fun r w' => r = .returned (.bool (fitsT n (x, y))) ∧ w' = w.alloc (.cells #[.int .i64 x, .int .i64 y] 45) := by
  obtain ⟨ans, hans⟩ : ∃ ans, ans = fitsT n (x, y) := ⟨_, rfl⟩
  rw [← hans]
  have H : Hid _ := hans
  clear hans
  cases h1 : decide (0 ≤ x ∧ x ≤ 1099511627776)
  · have h1' := of_decide_eq_false h1
    have HE : Hid (ans = false) := by
      show ans = false
      rw [H.out, Bool.eq_false_iff, Ne, fitsT_iff]
      omega
    go_enter Tryd.func20, Tryd.ntmps20
    go_wp2_with ((go_at_call 34; refine (in_any _ _ _ _).mono ?_; rw [h1]; rintro r w1 ⟨rfl, rfl⟩))
    go_ret
    exact ⟨by rw [HE.out]; rfl, rfl⟩
  · have h1' := of_decide_eq_true h1
    obtain ⟨hx1, hx2⟩ := h1'
    have hsub : IntKind.i64.wrap (x - n) = x - n := by rw [IntKind.wrap_i64]; omega
    cases h2 : decide (1 ≤ x - n ∧ x - n ≤ 500)
    · have h2' := of_decide_eq_false h2
      have HE : Hid (ans = false) := by
        show ans = false
        rw [H.out, Bool.eq_false_iff, Ne, fitsT_iff]
        omega
      clear h2'
      go_enter Tryd.func20, Tryd.ntmps20
      go_wp2_with fail
      refine (in_any _ _ _ _).mono ?_
      rw [h1]
      rintro r w1 ⟨rfl, rfl⟩
      go_wp2_with fail
      refine (in_any _ _ _ _).mono ?_
      rw [h2]
      rintro r w1 ⟨rfl, rfl⟩
      go_wp2
      go_ret
      exact ⟨by rw [HE.out]; rfl, rfl⟩
    · have h2' := of_decide_eq_true h2
      obtain ⟨b3, hb3⟩ : ∃ b3, b3 = decide (0 ≤ y ∧ y ≤ 199) := ⟨_, rfl⟩
      have HE : Hid (ans = b3) := by
        show ans = b3
        rw [H.out, hb3, Bool.eq_iff_iff, fitsT_iff, decide_eq_true_eq]
        omega
      have HB : Hid _ := hb3
      clear h2' hb3
      go_enter Tryd.func20, Tryd.ntmps20
      go_wp2_with fail
      refine (in_any _ _ _ _).mono ?_
      rw [h1]
      rintro r w1 ⟨rfl, rfl⟩
      go_wp2_with fail
      refine (in_any _ _ _ _).mono ?_
      rw [h2]
      rintro r w1 ⟨rfl, rfl⟩
      go_wp2_with fail
      refine (in_any _ _ _ _).mono ?_
      rw [← HB.out]
      rintro r w1 ⟨rfl, rfl⟩
      go_wp2
      go_ret
      exact ⟨by rw [HE.out]; rfl, rfl⟩

/-- How two timers compare. -/
def cmpT (a b : Tm) : Int := if a.1 < b.1 then -1 else if b.1 < a.1 then 1 else if a.2 < b.2 then -1 else if b.2 < a.2 then 1 else 0

def cmpI (a b : Int) : Int := if a < b then -1 else if b < a then 1 else 0

set_option maxHeartbeats 2000000 in
theorem compare_any (a b : Int) (w : World) : Calls Tryd.prog 43 #[.int .i64 a, .int .i64 b] w fun r w' => r = .returned (.int .i64 (cmpI a b)) ∧ w' = w := by
  unfold cmpI
  by_cases h1 : a < b
  · rw [if_pos h1]
    go_enter Tryd.func43, Tryd.ntmps43
    go_wp2
    go_ret
    exact ⟨rfl, rfl⟩
  · rw [if_neg h1]
    by_cases h2 : b < a
    · rw [if_pos h2]
      go_enter Tryd.func43, Tryd.ntmps43
      go_wp2
      go_ret
      exact ⟨rfl, rfl⟩
    · rw [if_neg h2]
      obtain rfl : a = b := by omega
      go_enter Tryd.func43, Tryd.ntmps43
      go_wp2
      go_ret
      exact ⟨rfl, rfl⟩
end Go.Proofs.YtdfjobghgbcjpaaDoor.Walks
