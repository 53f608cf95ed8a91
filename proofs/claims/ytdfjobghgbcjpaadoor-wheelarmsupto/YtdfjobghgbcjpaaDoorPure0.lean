/-
  The document's place of a timer, its order, its bounds; the program's bound of a tick. Plain numbers: no condition but that ticks are not negative and lie within the machine's integers.
-/
import Derived.Test.YtdfjobghgbcjpaaDoorRows0
import Derived.WalkKit
import Derived.ProofKit
import Derived.Handy
import Derived.LoopTactic
import Derived.Below
import Derived.Laws.BitsAllLaws
import Derived.RegionTactic
import Derived.Deep.RegionHeld3
import Derived.Deep.DrawnRows
import Derived.Deep.AppendLies
import Derived.Laws.OwnMore
import Derived.Deep.Onto
import Derived.Deep.QuietTactic
import Derived.BigQuiet
namespace Go.Proofs.YtdfjobghgbcjpaaDoor.Walks
open Go.RowKit
set_option linter.unusedVariables false
set_option linter.unusedSimpArgs false
attribute [local go_sem ↓] Go.wp_at_zero Go.wp_at_succ

/-- The place of a timer. -/
def placeOf (at' now : Int) : Int :=
  if at' / 8 = now / 8 then at' % 8 else if at' / 64 = now / 64 then 8 + at' / 8 % 8 else if at' / 512 = now / 512 then 16 + at' / 64 % 8 else 24

/-- Which of two timers stands ahead. -/
def ahead (a b : Tm) : Bool := decide (a.1 < b.1) || (decide (a.1 = b.1) && decide (a.2 < b.2))

set_option maxHeartbeats 1000000 in
theorem in_any (n lo hi : Int) (w : World) : Calls Tryd.prog 34 #[.int .i64 n, .int .i64 lo, .int .i64 hi] w fun r w' => r = .returned (.bool (decide (lo ≤ n ∧ n ≤ hi))) ∧ w' = w := by
  obtain ⟨ans, hans⟩ : ∃ ans, ans = decide (lo ≤ n ∧ n ≤ hi) := ⟨_, rfl⟩
  rw [← hans]
  have H : Hid _ := hans
  clear hans
  cases h1 : decide (lo ≤ n)
  · go_enter Tryd.func34, Tryd.ntmps34
    go_wp2
    go_ret
    exact ⟨by rw [H.out, decide_eq_false (fun h => of_decide_eq_false h1 h.1)]; rfl, rfl⟩
  · cases h2 : decide (n ≤ hi)
    · go_enter Tryd.func34, Tryd.ntmps34
      go_wp2
      go_ret
      exact ⟨by rw [H.out, decide_eq_false (fun h => of_decide_eq_false h2 h.2)]; rfl, rfl⟩
    · go_enter Tryd.func34, Tryd.ntmps34
      go_wp2
      go_ret
      exact ⟨by rw [H.out, decide_eq_true ⟨of_decide_eq_true h1, of_decide_eq_true h2⟩]; rfl, rfl⟩

set_option maxHeartbeats 1000000 in
theorem isTick_any (n : Int) (w : World) : Calls Tryd.prog 27 #[.int .i64 n] w fun r w' => r = .returned (.bool (decide (0 ≤ n ∧ n ≤ 1099511627776))) ∧ w' = w := by
  obtain ⟨ans, hans⟩ : ∃ ans, ans = decide (0 ≤ n ∧ n ≤ 1099511627776) := ⟨_, rfl⟩
  rw [← hans]
  have H : Hid _ := hans
  clear hans
  cases h1 : decide (0 ≤ n)
  · go_enter Tryd.func27, Tryd.ntmps27
    go_wp2
    go_ret
    exact ⟨by rw [H.out, decide_eq_false (fun h => of_decide_eq_false h1 h.1)]; rfl, rfl⟩
  · cases h2 : decide (n ≤ 1099511627776)
    · go_enter Tryd.func27, Tryd.ntmps27
      go_wp2
      go_ret
      exact ⟨by rw [H.out, decide_eq_false (fun h => of_decide_eq_false h2 h.2)]; rfl, rfl⟩
    · go_enter Tryd.func27, Tryd.ntmps27
      go_wp2
      go_ret
      exact ⟨by rw [H.out, decide_eq_true ⟨of_decide_eq_true h1, of_decide_eq_true h2⟩]; rfl, rfl⟩

set_option maxHeartbeats 1000000 in
theorem placeOf_any (x n : Int) (w : World) (hx : 0 ≤ x) (hx2 : x ≤ 4398046511104) (hn : 0 ≤ n) (hn2 : n ≤ 4398046511104) :
    Calls Tryd.prog 35 #[.int .i64 x, .int .i64 n] w fun r w' => r = .returned (.int .i64 (placeOf x n)) ∧ w' = w := by
  have a1 : x.tdiv 8 = x / 8 := Int.tdiv_eq_ediv_of_nonneg hx
  have a2 : x.tdiv 64 = x / 64 := Int.tdiv_eq_ediv_of_nonneg hx
  have a3 : x.tdiv 512 = x / 512 := Int.tdiv_eq_ediv_of_nonneg hx
  have a4 : n.tdiv 8 = n / 8 := Int.tdiv_eq_ediv_of_nonneg hn
  have a5 : n.tdiv 64 = n / 64 := Int.tdiv_eq_ediv_of_nonneg hn
  have a6 : n.tdiv 512 = n / 512 := Int.tdiv_eq_ediv_of_nonneg hn
  have a7 : x.tmod 8 = x % 8 := Int.tmod_eq_emod_of_nonneg hx
  have a8 : (x / 8).tmod 8 = x / 8 % 8 := Int.tmod_eq_emod_of_nonneg (by omega)
  have a9 : (x / 64).tmod 8 = x / 64 % 8 := Int.tmod_eq_emod_of_nonneg (by omega)
  unfold placeOf
  by_cases h1 : x / 8 = n / 8
  · rw [if_pos h1]
    go_enter Tryd.func35, Tryd.ntmps35
    go_wp2
    go_ret
    exact ⟨rfl, rfl⟩
  · rw [if_neg h1]
    by_cases h2 : x / 64 = n / 64
    · rw [if_pos h2]
      go_enter Tryd.func35, Tryd.ntmps35
      go_wp2
      go_ret
      exact ⟨rfl, rfl⟩
    · rw [if_neg h2]
      by_cases h3 : x / 512 = n / 512
      · rw [if_pos h3]
        go_enter Tryd.func35, Tryd.ntmps35
        go_wp2
        go_ret
        exact ⟨rfl, rfl⟩
      · rw [if_neg h3]
        go_enter Tryd.func35, Tryd.ntmps35
        go_wp2
        go_ret
        exact ⟨rfl, rfl⟩

set_option maxHeartbeats 1000000 in
theorem ahead_any (a b c d : Int) (w : World) :
    Calls Tryd.prog 36 #[.agg #[.int .i64 a, .int .i64 b], .agg #[.int .i64 c, .int .i64 d]] w fun r w' => r = .returned (.bool (ahead (a, b) (c, d))) ∧ w' = (w.alloc (.cells #[.int .i64 a, .int .i64 b] 45)).alloc (.cells #[.int .i64 c, .int .i64 d] 45) := by
  unfold ahead
  cases h1 : decide (a < c)
  · cases h2 : decide (a = c)
    · have h3 : (a == c) = false := by simpa using h2
      go_enter Tryd.func36, Tryd.ntmps36
      go_wp2
      go_ret
      exact ⟨rfl, rfl⟩
    · obtain rfl : a = c := of_decide_eq_true h2
      cases h4 : decide (b < d)
      all_goals
        go_enter Tryd.func36, Tryd.ntmps36
        go_wp2
        go_ret
        exact ⟨rfl, rfl⟩
  · go_enter Tryd.func36, Tryd.ntmps36
    go_wp2
    go_ret
    exact ⟨rfl, rfl⟩
end Go.Proofs.YtdfjobghgbcjpaaDoor.Walks
