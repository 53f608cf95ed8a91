/-
  ramp.Weight and ramp.Full, the document's RampWeight and RampFull, and the five laws of the layer. No condition.
-/
import Derived.Test.YtafhdlnhlemdgaaBase
import Derived.WalkKit
import Derived.ProofKit
import Derived.Handy
import Derived.LoopTactic
import Derived.Below
import Derived.Laws.BitsAllLaws
import Derived.RegionTactic
import Derived.Deep.RegionHeld3
import Derived.Deep.DrawnRows
import Derived.Deep.AppendLies
import Derived.Laws.OwnMore
import Derived.Deep.Onto
import Derived.Deep.QuietTactic
import Derived.BigQuiet
namespace Go.Proofs.Ytafhdlnhlemdgaa.Walks
open Go.RowKit
set_option linter.unusedVariables false
set_option linter.unusedSimpArgs false
attribute [local go_sem ↓] Go.wp_at_zero Go.wp_at_succ

/-- Both calls' bounds. -/
abbrev Grow (since warm : Int) : Prop := 0 ≤ since ∧ since ≤ 1099511627776 ∧ 0 ≤ warm ∧ warm ≤ 500

set_option maxHeartbeats 1000000 in
theorem mayGrow_any (a b : Int) (w : World) : Calls Try.prog 13 #[.int .i64 a, .int .i64 b] w fun r w' => r = .returned (.bool (decide (Grow a b))) ∧ w' = w := by
  obtain ⟨ans, hans⟩ : ∃ ans, ans = decide (Grow a b) := ⟨_, rfl⟩
  rw [← hans]
  have H : Hid _ := hans
  clear hans
  have no : ∀ {p : Prop}, ¬ p → (Grow a b → p) → ans = false := fun hp h => by rw [H.out]; exact decide_eq_false fun g => hp (h g)
  cases h1 : decide (0 ≤ a)
  · have e := no (of_decide_eq_false h1) (fun g => g.1)
    have E : Hid _ := e
    clear no H e
    go_enter Try.func13, Try.ntmps13
    go_wp2
    go_ret
    exact ⟨by rw [E.out]; rfl, rfl⟩
  cases h2 : decide (a ≤ 1099511627776)
  · have e := no (of_decide_eq_false h2) (fun g => g.2.1)
    have E : Hid _ := e
    clear no H e
    go_enter Try.func13, Try.ntmps13
    go_wp2
    go_ret
    exact ⟨by rw [E.out]; rfl, rfl⟩
  cases h3 : decide (0 ≤ b)
  · have e := no (of_decide_eq_false h3) (fun g => g.2.2.1)
    have E : Hid _ := e
    clear no H e
    go_enter Try.func13, Try.ntmps13
    go_wp2
    go_ret
    exact ⟨by rw [E.out]; rfl, rfl⟩
  cases h4 : decide (b ≤ 500)
  · have e := no (of_decide_eq_false h4) (fun g => g.2.2.2)
    have E : Hid _ := e
    clear no H e
    go_enter Try.func13, Try.ntmps13
    go_wp2
    go_ret
    exact ⟨by rw [E.out]; rfl, rfl⟩
  have e : ans = true := by rw [H.out]; exact decide_eq_true ⟨of_decide_eq_true h1, of_decide_eq_true h2, of_decide_eq_true h3, of_decide_eq_true h4⟩
  have E : Hid _ := e
  clear no H e
  go_enter Try.func13, Try.ntmps13
  go_wp2
  go_ret
  exact ⟨by rw [E.out]; rfl, rfl⟩

theorem full_ok (a b : Int) (w : World) (h : Grow a b) : Calls Try.prog 10 #[.int .i64 a, .int .i64 b] w fun r w' => r = .returned (.tuple #[.int .i64 (a + b), .int .i64 0]) ∧ w' = w := by
  have hG : Hid _ := decide_eq_true h
  obtain ⟨g1, g2, g3, g4⟩ := h
  go_enter Try.func10, Try.ntmps10
  go_wp2_with fail
  refine (mayGrow_any _ _ _).mono ?_
  rintro e w' ⟨rfl, rfl⟩
  rw [hG.out]
  go_wp2
  go_ret2
  exact ⟨rfl, rfl⟩

theorem full_bad (a b : Int) (w : World) (h : ¬ Grow a b) : Calls Try.prog 10 #[.int .i64 a, .int .i64 b] w fun r w' => r = .returned (.tuple #[.int .i64 0, .int .i64 2]) ∧ w' = w := by
  have hG : Hid _ := decide_eq_false h
  clear h
  go_enter Try.func10, Try.ntmps10
  go_wp2_with fail
  refine (mayGrow_any _ _ _).mono ?_
  rintro e w' ⟨rfl, rfl⟩
  rw [hG.out]
  go_wp2
  go_ret2
  exact ⟨rfl, rfl⟩

/-- What counts of a weight. -/
def wt (wg gone warm : Int) : Int := if warm ≤ gone then wg else max 1 (wg * gone / warm)

theorem tup_int {a b c : Int} (h : a = b) : Ending.returned (.tuple #[.int .i64 a, .int .i64 c]) = .returned (.tuple #[.int .i64 b, .int .i64 c]) := by rw [h]

set_option maxHeartbeats 1000000 in
theorem weight_ok (wg a n b : Int) (w : World) (h1 : 1 ≤ wg) (h2 : wg ≤ 8) (h : Grow a b) (h3 : a ≤ n) (h4 : n ≤ 1099511627776) : Calls Try.prog 8 #[.int .i64 wg, .int .i64 a, .int .i64 n, .int .i64 b] w fun r w' => r = .returned (.tuple #[.int .i64 (wt wg (n - a) b), .int .i64 0]) ∧ w' = w := by
  have hG : Hid _ := decide_eq_true h
  obtain ⟨g1, g2, g3, g4⟩ := h
  by_cases hb : b ≤ n - a
  · have hw0 : wt wg (n - a) b = wg := by unfold wt; rw [if_pos hb]
    have hw : Hid _ := hw0
    clear hw0
    go_enter Try.func8, Try.ntmps8
    go_wp2_with fail
    refine (mayGrow_any _ _ _).mono ?_
    rintro e w' ⟨rfl, rfl⟩
    rw [hG.out]
    go_wp2
    go_ret2
    exact ⟨by rw [hw.out]; rfl, rfl⟩
  · obtain ⟨g, hg⟩ : ∃ g, g = n - a := ⟨_, rfl⟩
    have hgp : 0 ≤ g := by omega
    have hm : 0 ≤ wg * g := Int.mul_nonneg (by omega) hgp
    have hm2 : wg * g ≤ 8 * 500 := Int.mul_le_mul h2 (by omega) hgp (by omega)
    have hw0 : wt wg g b = max 1 (wg * g / b) := by unfold wt; rw [if_neg (by omega)]
    have hw : Hid _ := hw0
    clear hw0
    have hnb : n - a < b := by omega
    have hb0 : 0 < b := by omega
    have hsub : n - a = g := hg.symm
    clear hb hg
    go_enter Try.func8, Try.ntmps8
    go_wp2_with fail
    refine (mayGrow_any _ _ _).mono ?_
    rintro e w' ⟨rfl, rfl⟩
    rw [hG.out]
    go_wp2_with fail
    all_goals
      go_ret2
      refine ⟨tup_int ?_, rfl⟩
      rw [hw.out]
      omega

/-- All bounds of Weight. -/
def Fit (wg a n b : Int) : Prop := (1 ≤ wg ∧ wg ≤ 8) ∧ Grow a b ∧ a ≤ n ∧ n ≤ 1099511627776

set_option maxHeartbeats 1000000 in
theorem weight_bad (wg a n b : Int) (w : World) (h : ¬ Fit wg a n b) : Calls Try.prog 8 #[.int .i64 wg, .int .i64 a, .int .i64 n, .int .i64 b] w fun r w' => r = .returned (.tuple #[.int .i64 0, .int .i64 2]) ∧ w' = w := by
  cases h1 : decide (wg < 1)
  case true =>
    clear h
    go_enter Try.func8, Try.ntmps8
    go_wp2
    go_ret2
    exact ⟨rfl, rfl⟩
  cases h2 : decide (8 < wg)
  case true =>
    clear h
    go_enter Try.func8, Try.ntmps8
    go_wp2
    go_ret2
    exact ⟨rfl, rfl⟩
  cases h3 : decide (Grow a b)
  case false =>
    clear h
    have hG : Hid _ := h3
    clear h3
    go_enter Try.func8, Try.ntmps8
    go_wp2_with fail
    refine (mayGrow_any _ _ _).mono ?_
    rintro e w' ⟨rfl, rfl⟩
    rw [hG.out]
    go_wp2
    go_ret2
    exact ⟨rfl, rfl⟩
  have hG : Hid _ := h3
  cases h4 : decide (n < a)
  case true =>
    clear h h3
    go_enter Try.func8, Try.ntmps8
    go_wp2_with fail
    refine (mayGrow_any _ _ _).mono ?_
    rintro e w' ⟨rfl, rfl⟩
    rw [hG.out]
    go_wp2
    go_ret2
    exact ⟨rfl, rfl⟩
  have h5 : decide (1099511627776 < n) = true := by
    have e1 := of_decide_eq_false h1
    have e2 := of_decide_eq_false h2
    have e3 := of_decide_eq_true h3
    have e4 := of_decide_eq_false h4
    refine decide_eq_true (Classical.byContradiction fun hn => h ⟨⟨by omega, by omega⟩, e3, by omega, by omega⟩)
  clear h h3
  go_enter Try.func8, Try.ntmps8
  go_wp2_with fail
  refine (mayGrow_any _ _ _).mono ?_
  rintro e w' ⟨rfl, rfl⟩
  rw [hG.out]
  go_wp2
  go_ret2
  exact ⟨rfl, rfl⟩

theorem refFull_ok (a b : Int) (w : World) (h : Grow a b) : Calls Try.prog 11 #[.int .i64 a, .int .i64 b] w fun r w' => r = .returned (.tuple #[.int .i64 (a + b), .int .i64 0]) ∧ w' = w := by
  obtain ⟨g1, g2, g3, g4⟩ := h
  have e1 : decide (0 ≤ b ∧ b ≤ 500) = true := decide_eq_true ⟨g3, g4⟩
  have e2 : decide (0 ≤ a ∧ a ≤ 1099511627776) = true := decide_eq_true ⟨g1, g2⟩
  go_enter Try.func11, Try.ntmps11
  go_wp2_with fail
  refine (in_any _ _ _ _).mono ?_
  rintro e w' ⟨rfl, rfl⟩
  rw [e1]
  go_wp2_with fail
  refine (in_any _ _ _ _).mono ?_
  rintro e w' ⟨rfl, rfl⟩
  rw [e2]
  go_wp2
  go_ret2
  exact ⟨rfl, rfl⟩

theorem refFull_bad (a b : Int) (w : World) (h : ¬ Grow a b) : Calls Try.prog 11 #[.int .i64 a, .int .i64 b] w fun r w' => r = .returned (.tuple #[.int .i64 0, .int .i64 2]) ∧ w' = w := by
  cases e1 : decide (0 ≤ b ∧ b ≤ 500)
  · clear h
    go_enter Try.func11, Try.ntmps11
    go_wp2_with fail
    refine (in_any _ _ _ _).mono ?_
    rintro e w' ⟨rfl, rfl⟩
    rw [e1]
    go_wp2
    go_ret2
    exact ⟨rfl, rfl⟩
  have e2 : decide (0 ≤ a ∧ a ≤ 1099511627776) = false := decide_eq_false fun h' => h ⟨h'.1, h'.2, of_decide_eq_true e1⟩
  clear h
  go_enter Try.func11, Try.ntmps11
  go_wp2_with fail
  refine (in_any _ _ _ _).mono ?_
  rintro e w' ⟨rfl, rfl⟩
  rw [e1]
  go_wp2_with fail
  refine (in_any _ _ _ _).mono ?_
  rintro e w' ⟨rfl, rfl⟩
  rw [e2]
  go_wp2
  go_ret2
  exact ⟨rfl, rfl⟩

theorem refWeight_bad (wg a n b : Int) (w : World) (h : ¬ Fit wg a n b) : Calls Try.prog 9 #[.int .i64 wg, .int .i64 a, .int .i64 n, .int .i64 b] w fun r w' => r = .returned (.tuple #[.int .i64 0, .int .i64 2]) ∧ w' = w := by
  cases e1 : decide (1 ≤ wg ∧ wg ≤ 8)
  · clear h
    go_enter Try.func9, Try.ntmps9
    go_wp2_with fail
    refine (in_any _ _ _ _).mono ?_
    rintro e w' ⟨rfl, rfl⟩
    rw [e1]
    go_wp2
    go_ret2
    exact ⟨rfl, rfl⟩
  cases e2 : decide (0 ≤ b ∧ b ≤ 500)
  · clear h
    go_enter Try.func9, Try.ntmps9
    go_wp2_with fail
    refine (in_any _ _ _ _).mono ?_
    rintro e w' ⟨rfl, rfl⟩
    rw [e1]
    go_wp2_with fail
    refine (in_any _ _ _ _).mono ?_
    rintro e w' ⟨rfl, rfl⟩
    rw [e2]
    go_wp2
    go_ret2
    exact ⟨rfl, rfl⟩
  cases e3 : decide (0 ≤ a ∧ a ≤ 1099511627776)
  · clear h
    go_enter Try.func9, Try.ntmps9
    go_wp2_with fail
    refine (in_any _ _ _ _).mono ?_
    rintro e w' ⟨rfl, rfl⟩
    rw [e1]
    go_wp2_with fail
    refine (in_any _ _ _ _).mono ?_
    rintro e w' ⟨rfl, rfl⟩
    rw [e2]
    go_wp2_with fail
    refine (in_any _ _ _ _).mono ?_
    rintro e w' ⟨rfl, rfl⟩
    rw [e3]
    go_wp2
    go_ret2
    exact ⟨rfl, rfl⟩
  have e4 : decide (a ≤ n ∧ n ≤ 1099511627776) = false := decide_eq_false fun h' => h ⟨of_decide_eq_true e1, ⟨(of_decide_eq_true e3).1, (of_decide_eq_true e3).2, of_decide_eq_true e2⟩, h'⟩
  clear h
  go_enter Try.func9, Try.ntmps9
  go_wp2_with fail
  refine (in_any _ _ _ _).mono ?_
  rintro e w' ⟨rfl, rfl⟩
  rw [e1]
  go_wp2_with fail
  refine (in_any _ _ _ _).mono ?_
  rintro e w' ⟨rfl, rfl⟩
  rw [e2]
  go_wp2_with fail
  refine (in_any _ _ _ _).mono ?_
  rintro e w' ⟨rfl, rfl⟩
  rw [e3]
  go_wp2_with fail
  refine (in_any _ _ _ _).mono ?_
  rintro e w' ⟨rfl, rfl⟩
  rw [e4]
  go_wp2
  go_ret2
  exact ⟨rfl, rfl⟩

/-- The greatest k up to j with k * warm no more than the product, or 1. -/
def upTo (p warm : Int) : Nat → Int
  | 0 => 1
  | 1 => 1
  | k + 2 => if ((k + 2 : Nat) : Int) * warm ≤ p then ((k + 2 : Nat) : Int) else upTo p warm (k + 1)

theorem upTo_le (p warm : Int) : ∀ k : Nat, 1 ≤ upTo p warm k ∧ upTo p warm k ≤ max 1 (k : Int)
  | 0 => by unfold upTo; omega
  | 1 => by unfold upTo; omega
  | k + 2 => by
    have := upTo_le p warm (k + 1)
    unfold upTo
    split <;> omega

theorem upTo_no (p warm : Int) : ∀ k : Nat, ∀ j : Nat, 2 ≤ j → j ≤ k → upTo p warm k < j → p < (j : Int) * warm
  | 0, j, h1, h2, _ => by omega
  | 1, j, h1, h2, _ => by omega
  | k + 2, j, h1, h2, h3 => by
    unfold upTo at h3
    split at h3
    · omega
    · rcases Nat.lt_or_ge j (k + 2) with h | h
      · exact upTo_no p warm (k + 1) j h1 (by omega) h3
      · obtain rfl : j = k + 2 := by omega
        omega

theorem upTo_yes (p warm : Int) : ∀ k : Nat, upTo p warm k = 1 ∨ upTo p warm k * warm ≤ p
  | 0 => .inl rfl
  | 1 => .inl rfl
  | k + 2 => by
    unfold upTo
    split
    · exact .inr ‹_›
    · exact upTo_yes p warm (k + 1)

theorem upTo_wt (wg : Nat) (g b : Int) (h1 : 1 ≤ wg) (hg : 0 ≤ g) (hb : 0 ≤ b) : upTo ((wg : Int) * g) b wg = wt wg g b := by
  have hle := upTo_le ((wg : Int) * g) b wg
  have hno := upTo_no ((wg : Int) * g) b wg
  have hy := upTo_yes ((wg : Int) * g) b wg
  have hp : 0 ≤ (wg : Int) * g := Int.mul_nonneg (by omega) hg
  generalize upTo ((wg : Int) * g) b wg = u at *
  obtain ⟨n, rfl⟩ := Int.eq_ofNat_of_zero_le (a := u) (by omega)
  unfold wt
  split
  case isTrue h =>
    refine Classical.byContradiction fun hne => ?_
    have := hno wg (by omega) (by omega) (by omega)
    have : (wg : Int) * b ≤ wg * g := Int.mul_le_mul_of_nonneg_left h (by omega)
    omega
  case isFalse h =>
    have hb' : 0 < b := by omega
    have hlt : (wg : Int) * g / b < wg + 0 := by
      rw [Int.ediv_lt_iff_lt_mul hb', Int.add_zero]
      exact Int.mul_lt_mul_of_pos_left (by omega) (by omega)
    have hq := Int.ediv_nonneg hp hb
    obtain ⟨q, hq'⟩ := Int.eq_ofNat_of_zero_le hq
    have hqle : (q : Int) * b ≤ wg * g := by rw [← hq']; exact Int.ediv_mul_le _ (by omega)
    have hqlt : (wg : Int) * g < (q + 1 : Nat) * b := by
      have := Int.lt_ediv_add_one_mul_self ((wg : Int) * g) hb'
      rw [hq'] at this
      simpa using this
    rw [hq'] at hlt ⊢
    rcases Nat.lt_or_ge n q with hn | hn
    · by_cases hq2 : 2 ≤ q
      · have := hno q hq2 (by omega) (by omega)
        omega
      · omega
    · rcases Nat.lt_or_ge q n with hn' | hn'
      · rcases hy with hy | hy
        · omega
        · have : ((q + 1 : Nat) : Int) * b ≤ (n : Int) * b := Int.mul_le_mul_of_nonneg_right (by omega) (by omega)
          omega
      · omega

set_option maxHeartbeats 1000000 in
theorem refWeight_ok (wg : Nat) (a n b : Int) (w : World) (h1 : 1 ≤ wg) (h2 : wg ≤ 8) (h : Grow a b) (h3 : a ≤ n) (h4 : n ≤ 1099511627776) : Calls Try.prog 9 #[.int .i64 (wg : Int), .int .i64 a, .int .i64 n, .int .i64 b] w fun r w' => r = .returned (.tuple #[.int .i64 (wt wg (n - a) b), .int .i64 0]) ∧ w' = w := by
  rw [← upTo_wt wg (n - a) b h1 (by omega) h.2.2.1]
  obtain ⟨g1, g2, g3, g4⟩ := h
  obtain ⟨g, hg⟩ : ∃ g, g = n - a := ⟨_, rfl⟩
  rw [← hg]
  have hsub : n - a = g := hg.symm
  have hgp : 0 ≤ g := by omega
  have hgb : g ≤ 1099511627776 := by omega
  have hm : 0 ≤ (wg : Int) * g := Int.mul_nonneg (by omega) hgp
  have hm2 : (wg : Int) * g ≤ 8 * 1099511627776 := Int.mul_le_mul (by omega) hgb hgp (by omega)
  clear hg
  have e1 : decide (1 ≤ (wg : Int) ∧ (wg : Int) ≤ 8) = true := decide_eq_true ⟨by omega, by omega⟩
  have e2 : decide (0 ≤ b ∧ b ≤ 500) = true := decide_eq_true ⟨g3, g4⟩
  have e3 : decide (0 ≤ a ∧ a ≤ 1099511627776) = true := decide_eq_true ⟨g1, g2⟩
  have e4 : decide (a ≤ n ∧ n ≤ 1099511627776) = true := decide_eq_true ⟨h3, h4⟩
  obtain ⟨p, hp⟩ : ∃ p, p = (wg : Int) * g := ⟨_, rfl⟩
  rw [← hp] at hm hm2 ⊢
  have hmul : (wg : Int) * g = p := hp.symm
  clear hp
  go_enter Try.func9, Try.ntmps9
  go_wp2_with fail
  refine (in_any _ _ _ _).mono ?_
  rintro e w' ⟨rfl, rfl⟩
  rw [e1]
  go_wp2_with fail
  refine (in_any _ _ _ _).mono ?_
  rintro e w' ⟨rfl, rfl⟩
  rw [e2]
  go_wp2_with fail
  refine (in_any _ _ _ _).mono ?_
  rintro e w' ⟨rfl, rfl⟩
  rw [e3]
  go_wp2_with fail
  refine (in_any _ _ _ _).mono ?_
  rintro e w' ⟨rfl, rfl⟩
  rw [e4]
  go_wp2
  clear e1 e2 e3 e4
  go_loop [10, 11] (fun x i => ∃ k : Nat, i = .int .i64 ((k + 2 : Nat) : Int) ∧ x = .int .i64 (upTo p b (k + 1)) ∧ k + 1 ≤ wg) (fun _ i => wg + 1 - (intOf i).toNat)
  case atStart => exact ⟨0, rfl, rfl, by omega⟩
  case round =>
    obtain ⟨k, rfl, rfl, hk⟩ := hrel
    by_cases hlt : k + 2 ≤ wg
    · have hlt' : ((k + 2 : Nat) : Int) ≤ wg := by omega
      have hkb0 : 0 ≤ ((k + 2 : Nat) : Int) * b := Int.mul_nonneg (by omega) g3
      have hkb : ((k + 2 : Nat) : Int) * b ≤ 8 * 500 := Int.mul_le_mul (by omega) g4 g3 (by omega)
      have hk8 : ((k + 2 : Nat) : Int) ≤ 8 := by omega
      have hk0 : 0 ≤ ((k + 2 : Nat) : Int) := by omega
      have hup : Hid (upTo p b (k + 1 + 1) = if ((k + 2 : Nat) : Int) * b ≤ p then ((k + 2 : Nat) : Int) else upTo p b (k + 1)) := (rfl : upTo p b (k + 1 + 1) = _)
      have hnx : Hid (((k + 2 : Nat) : Int) + 1 = ((k + 1 + 2 : Nat) : Int)) := (by omega : ((k + 2 : Nat) : Int) + 1 = ((k + 1 + 2 : Nat) : Int))
      have hms : Hid (((k + 2 : Nat) : Int).toNat = k + 2) := (by omega : ((k + 2 : Nat) : Int).toNat = k + 2)
      have hK : Hid (k + 1 + 1 ≤ wg) := hlt
      generalize ((k + 2 : Nat) : Int) = kk at *
      clear hk
      cases hc : decide (kk * b ≤ p)
      · have hc' := of_decide_eq_false hc
        go_wp2
        go_round
        case rel => exact ⟨k + 1, by rw [hnx.out], by rw [hup.out, if_neg hc'], hK.out⟩
        case measure => simp only [intOf]; rw [hnx.out, hms.out]; omega
      · have hc' := of_decide_eq_true hc
        go_wp2
        go_round
        case rel => exact ⟨k + 1, by rw [hnx.out], by rw [hup.out, if_pos hc'], hK.out⟩
        case measure => simp only [intOf]; rw [hnx.out, hms.out]; omega
    · obtain rfl : wg = k + 1 := by omega
      go_wp2
      go_ret2
      exact ⟨rfl, rfl⟩

theorem weights_law (wg : Int) (x0 : (Lit.int .i64 wg).wf = true) (a : Int) (x1 : (Lit.int .i64 a).wf = true) (n : Int) (x2 : (Lit.int .i64 n).wf = true) (b : Int) (x3 : (Lit.int .i64 b).wf = true) (w : World) :
    Calls Try.prog 3 #[.int .i64 wg, .int .i64 a, .int .i64 n, .int .i64 b] w fun e w' => e = .returned (.bool true) ∧ Below w.heap.size w w' := by
  clear x0 x1 x2 x3
  by_cases h : Fit wg a n b
  · obtain ⟨⟨h1, h2⟩, hG, h3, h4⟩ := h
    obtain ⟨k, rfl⟩ := Int.eq_ofNat_of_zero_le (a := wg) (by omega)
    have hA : Hid (∀ W, _) := fun W => weight_ok (k : Int) a n b W h1 h2 hG h3 h4
    have hB : Hid (∀ W, _) := fun W => refWeight_ok k a n b W (by omega) (by omega) hG h3 h4
    generalize wt (k : Int) (n - a) b = u at *
    clear h1 h2 hG h3 h4
    go_enter Try.func3, Try.ntmps3
    go_wp2_with fail
    refine (hA.out _).mono ?_
    rintro e w' ⟨rfl, rfl⟩
    go_wp2_with fail
    refine (hB.out _).mono ?_
    rintro e w' ⟨rfl, rfl⟩
    go_wp2
    go_ret
    exact ⟨rfl, Below.refl _ _⟩
  · go_enter Try.func3, Try.ntmps3
    go_wp2_with fail
    refine (weight_bad _ _ _ _ _ h).mono ?_
    rintro e w' ⟨rfl, rfl⟩
    go_wp2_with fail
    refine (refWeight_bad _ _ _ _ _ h).mono ?_
    rintro e w' ⟨rfl, rfl⟩
    go_wp2
    go_ret
    exact ⟨rfl, Below.refl _ _⟩

theorem fulls_law (a : Int) (x0 : (Lit.int .i64 a).wf = true) (b : Int) (x1 : (Lit.int .i64 b).wf = true) (w : World) :
    Calls Try.prog 4 #[.int .i64 a, .int .i64 b] w fun e w' => e = .returned (.bool true) ∧ Below w.heap.size w w' := by
  clear x0 x1
  by_cases h : Grow a b
  · go_enter Try.func4, Try.ntmps4
    go_wp2_with fail
    refine (full_ok _ _ _ h).mono ?_
    rintro e w' ⟨rfl, rfl⟩
    go_wp2_with fail
    refine (refFull_ok _ _ _ h).mono ?_
    rintro e w' ⟨rfl, rfl⟩
    go_wp2
    go_ret
    exact ⟨rfl, Below.refl _ _⟩
  · go_enter Try.func4, Try.ntmps4
    go_wp2_with fail
    refine (full_bad _ _ _ h).mono ?_
    rintro e w' ⟨rfl, rfl⟩
    go_wp2_with fail
    refine (refFull_bad _ _ _ h).mono ?_
    rintro e w' ⟨rfl, rfl⟩
    go_wp2
    go_ret
    exact ⟨rfl, Below.refl _ _⟩
end Go.Proofs.Ytafhdlnhlemdgaa.Walks
