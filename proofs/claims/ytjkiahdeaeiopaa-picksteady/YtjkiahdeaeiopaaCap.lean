/-
  bound.Cap and the document's CapOf; BoundCap and CapRises. No condition.
-/
import Derived.Test.YtjkiahdeaeiopaaBase
import Derived.WalkKit
import Derived.ProofKit
import Derived.Handy
import Derived.LoopTactic
import Derived.Below
import Derived.Laws.BitsAllLaws
import Derived.RegionTactic
import Derived.Deep.RegionHeld3
import Derived.Deep.DrawnRows
import Derived.Deep.AppendLies
import Derived.Laws.OwnMore
import Derived.Deep.Onto
import Derived.Deep.QuietTactic
import Derived.BigQuiet
namespace Go.Proofs.Ytjkiahdeaeiopaa.Walks
open Go.RowKit
set_option linter.unusedVariables false
set_option linter.unusedSimpArgs false
attribute [local go_sem ↓] Go.wp_at_zero Go.wp_at_succ

/-- The bounds that both calls ask of the share and of how many flows there are. -/
abbrev Fac (num den flows : Int) : Prop := (1 ≤ den ∧ den ≤ num ∧ num ≤ 20) ∧ 0 ≤ flows ∧ flows ≤ 40

abbrev Fits (num den flows wt total : Int) : Prop := Fac num den flows ∧ 1 ≤ wt ∧ wt ≤ total ∧ total ≤ 96

theorem isFlows_any (n : Int) (w : World) : Calls Try.prog 40 #[.int .i64 n] w fun r w' => r = .returned (.bool (decide (0 ≤ n ∧ n ≤ 40))) ∧ w' = w := by
  obtain ⟨ans, hans⟩ : ∃ ans, ans = decide (0 ≤ n ∧ n ≤ 40) := ⟨_, rfl⟩
  rw [← hans]
  have H : Hid _ := hans
  clear hans
  cases h1 : decide (0 ≤ n)
  · have E : Hid (ans = false) := by rw [H.out]; exact decide_eq_false fun g => of_decide_eq_false h1 g.1
    go_enter Try.func40, Try.ntmps40
    go_wp2
    go_ret
    exact ⟨by rw [E.out]; rfl, rfl⟩
  cases h2 : decide (n ≤ 40)
  · have E : Hid (ans = false) := by rw [H.out]; exact decide_eq_false fun g => of_decide_eq_false h2 g.2
    go_enter Try.func40, Try.ntmps40
    go_wp2
    go_ret
    exact ⟨by rw [E.out]; rfl, rfl⟩
  · have E : Hid (ans = true) := by rw [H.out]; exact decide_eq_true ⟨of_decide_eq_true h1, of_decide_eq_true h2⟩
    go_enter Try.func40, Try.ntmps40
    go_wp2
    go_ret
    exact ⟨by rw [E.out]; rfl, rfl⟩

set_option maxHeartbeats 1000000 in
theorem maySet_any (a b c : Int) (w : World) : Calls Try.prog 30 #[.int .i64 a, .int .i64 b, .int .i64 c] w fun r w' => r = .returned (.bool (decide (Fac a b c))) ∧ w' = w := by
  obtain ⟨ans, hans⟩ : ∃ ans, ans = decide (Fac a b c) := ⟨_, rfl⟩
  rw [← hans]
  have H : Hid _ := hans
  clear hans
  cases h1 : decide (1 ≤ b)
  · have E : Hid (ans = false) := by rw [H.out]; exact decide_eq_false fun g => of_decide_eq_false h1 g.1.1
    clear H
    go_enter Try.func30, Try.ntmps30
    go_wp2
    go_ret
    exact ⟨by rw [E.out]; rfl, rfl⟩
  cases h2 : decide (b ≤ a)
  · have E : Hid (ans = false) := by rw [H.out]; exact decide_eq_false fun g => of_decide_eq_false h2 g.1.2.1
    clear H
    go_enter Try.func30, Try.ntmps30
    go_wp2
    go_ret
    exact ⟨by rw [E.out]; rfl, rfl⟩
  cases h3 : decide (a ≤ 20)
  · have E : Hid (ans = false) := by rw [H.out]; exact decide_eq_false fun g => of_decide_eq_false h3 g.1.2.2
    clear H
    go_enter Try.func30, Try.ntmps30
    go_wp2
    go_ret
    exact ⟨by rw [E.out]; rfl, rfl⟩
  have E : Hid (ans = decide (0 ≤ c ∧ c ≤ 40)) := by
    rw [H.out]
    exact decide_eq_decide.2 ⟨fun g => g.2, fun g => ⟨⟨of_decide_eq_true h1, of_decide_eq_true h2, of_decide_eq_true h3⟩, g⟩⟩
  clear H
  go_enter Try.func30, Try.ntmps30
  go_wp2_with fail
  refine (isFlows_any _ _).mono ?_
  rintro e w' ⟨rfl, rfl⟩
  go_wp2
  go_ret
  exact ⟨by rw [E.out, Bool.decide_and]; rfl, rfl⟩

theorem divided_any (a b : Int) (w : World) (h1 : 0 ≤ a) (h2 : a ≤ 1000000) (h3 : 1 ≤ b) (h4 : b ≤ 1000000) : Calls Try.prog 31 #[.int .i64 a, .int .i64 b] w fun r w' => r = .returned (.int .i64 ((a + b - 1) / b)) ∧ w' = w := by
  go_enter Try.func31, Try.ntmps31
  go_wp2
  go_ret
  exact ⟨rfl, rfl⟩

/-- The cap. -/
def capV (num den flows wt total : Int) : Int := (num * (flows + 1) * wt + den * total - 1) / (den * total)

theorem prods {a b c d e : Int} (h : Fits a b c d e) : (0 < a * (c + 1) ∧ a * (c + 1) ≤ 820) ∧ (0 < a * (c + 1) * d ∧ a * (c + 1) * d ≤ 78720) ∧ 0 < b * e ∧ b * e ≤ 1920 := by
  obtain ⟨⟨⟨h1, h2, h3⟩, h4, h5⟩, h6, h7, h8⟩ := h
  have p1 : 0 < a * (c + 1) := Int.mul_pos (by omega) (by omega)
  have p2 : a * (c + 1) ≤ 20 * 41 := Int.mul_le_mul (by omega) (by omega) (by omega) (by omega)
  have p3 : 0 < a * (c + 1) * d := Int.mul_pos p1 (by omega)
  have p4 : a * (c + 1) * d ≤ 820 * 96 := Int.mul_le_mul (by omega) (by omega) (by omega) (by omega)
  have p5 : 0 < b * e := Int.mul_pos (by omega) (by omega)
  have p6 : b * e ≤ 20 * 96 := Int.mul_le_mul (by omega) (by omega) (by omega) (by omega)
  omega

theorem capV_le {a b c d e : Int} (h : Fits a b c d e) : a * (c + 1) * d ≤ capV a b c d e * (b * e) ∧ (capV a b c d e - 1) * (b * e) < a * (c + 1) * d ∧ 1 ≤ capV a b c d e ∧ capV a b c d e ≤ 78720 := by
  obtain ⟨_, ⟨p1, p2⟩, p3, p4⟩ := prods h
  unfold capV
  generalize a * (c + 1) * d = p at *
  generalize b * e = q at *
  have h1 := Int.ediv_mul_le (p + q - 1) (b := q) (by omega)
  have h2 := Int.lt_ediv_add_one_mul_self (p + q - 1) (b := q) (by omega)
  have h3 : 1 ≤ (p + q - 1) / q := Int.le_ediv_of_mul_le p3 (by omega)
  have h4 : (p + q - 1) / q ≤ (p + q - 1) / q * q := by
    have := Int.mul_le_mul_of_nonneg_left (a := 1) (b := q) (c := (p + q - 1) / q) (by omega) (by omega)
    omega
  generalize (p + q - 1) / q = u at *
  rw [Int.add_mul, Int.one_mul] at h2
  rw [Int.sub_mul, Int.one_mul]
  refine ⟨by omega, by omega, h3, ?_⟩
  rcases Int.lt_or_le 1 u with h | h
  · have := Int.mul_le_mul_of_nonneg_left (a := 1) (b := q) (c := u - 1) (by omega) (by omega)
    rw [Int.mul_one, Int.sub_mul, Int.one_mul] at this
    omega
  · omega

/-- The cap is the only number that is neither too small nor too great. -/
theorem capV_only {a b c d e : Int} (h : Fits a b c d e) {n : Int} (h1 : a * (c + 1) * d ≤ n * (b * e)) (h2 : (n - 1) * (b * e) < a * (c + 1) * d) : n = capV a b c d e := by
  obtain ⟨l1, l2, _, _⟩ := capV_le h
  obtain ⟨_, _, p3, p4⟩ := prods h
  generalize capV a b c d e = u at *
  generalize b * e = q at *
  have k1 : u - 1 < n := by
    refine Int.lt_of_not_ge fun hh => ?_
    have := Int.mul_le_mul_of_nonneg_right hh (Int.le_of_lt p3)
    omega
  have k2 : n - 1 < u := by
    refine Int.lt_of_not_ge fun hh => ?_
    have := Int.mul_le_mul_of_nonneg_right hh (Int.le_of_lt p3)
    omega
  omega

set_option maxHeartbeats 1000000 in
theorem cap_ok (a b c d e : Int) (w : World) (h : Fits a b c d e) : Calls Try.prog 19 #[.int .i64 a, .int .i64 b, .int .i64 c, .int .i64 d, .int .i64 e] w fun r w' => r = .returned (.tuple #[.int .i64 (capV a b c d e), .int .i64 0]) ∧ w' = w := by
  obtain ⟨⟨q1, q2⟩, ⟨p1, p2⟩, p3, p4⟩ := prods h
  have hG : Hid _ := decide_eq_true h.1
  obtain ⟨⟨⟨h1, h2, h3⟩, h4, h5⟩, h6, h7, h8⟩ := h
  have e1 : decide (d < 1) = false := decide_eq_false (by omega)
  have e2 : decide (e < d) = false := decide_eq_false (by omega)
  have e3 : decide (96 < e) = false := decide_eq_false (by omega)
  go_enter Try.func19, Try.ntmps19
  go_wp2_with fail
  refine (maySet_any _ _ _ _).mono ?_
  rintro r w' ⟨rfl, rfl⟩
  rw [hG.out]
  go_wp2_with fail
  refine (divided_any _ _ _ (by omega) (by omega) (by omega) (by omega)).mono ?_
  rintro r w' ⟨rfl, rfl⟩
  go_wp2
  go_ret2
  exact ⟨rfl, rfl⟩

set_option maxHeartbeats 1000000 in
theorem cap_bad (a b c d e : Int) (w : World) (h : ¬ Fits a b c d e) : Calls Try.prog 19 #[.int .i64 a, .int .i64 b, .int .i64 c, .int .i64 d, .int .i64 e] w fun r w' => r = .returned (.tuple #[.int .i64 0, .int .i64 2]) ∧ w' = w := by
  cases h0 : decide (Fac a b c)
  · clear h
    have hG : Hid _ := h0
    clear h0
    go_enter Try.func19, Try.ntmps19
    go_wp2_with fail
    refine (maySet_any _ _ _ _).mono ?_
    rintro r w' ⟨rfl, rfl⟩
    rw [hG.out]
    go_wp2
    go_ret2
    exact ⟨rfl, rfl⟩
  have hG : Hid _ := h0
  cases h1 : decide (d < 1)
  case true =>
    clear h h0
    go_enter Try.func19, Try.ntmps19
    go_wp2_with fail
    refine (maySet_any _ _ _ _).mono ?_
    rintro r w' ⟨rfl, rfl⟩
    rw [hG.out]
    go_wp2
    go_ret2
    exact ⟨rfl, rfl⟩
  cases h2 : decide (e < d)
  case true =>
    clear h h0
    go_enter Try.func19, Try.ntmps19
    go_wp2_with fail
    refine (maySet_any _ _ _ _).mono ?_
    rintro r w' ⟨rfl, rfl⟩
    rw [hG.out]
    go_wp2
    go_ret2
    exact ⟨rfl, rfl⟩
  have h3 : decide (96 < e) = true := by
    have e1 := of_decide_eq_false h1
    have e2 := of_decide_eq_false h2
    exact decide_eq_true (Classical.byContradiction fun hn => h ⟨of_decide_eq_true h0, by omega, by omega, by omega⟩)
  clear h h0
  go_enter Try.func19, Try.ntmps19
  go_wp2_with fail
  refine (maySet_any _ _ _ _).mono ?_
  rintro r w' ⟨rfl, rfl⟩
  rw [hG.out]
  go_wp2
  go_ret2
  exact ⟨rfl, rfl⟩

theorem factorMay_any (a b : Int) (w : World) : Calls Try.prog 38 #[.int .i64 a, .int .i64 b] w fun r w' => r = .returned (.bool (decide (1 ≤ b ∧ b ≤ a ∧ a ≤ 20))) ∧ w' = w := by
  cases e1 : decide (1 ≤ a ∧ a ≤ 20)
  · have E : Hid (decide (1 ≤ b ∧ b ≤ a ∧ a ≤ 20) = false) := decide_eq_false fun g => of_decide_eq_false e1 ⟨by omega, g.2.2⟩
    go_enter Try.func38, Try.ntmps38
    go_wp2_with fail
    refine (in_any _ _ _ _).mono ?_
    rintro r w' ⟨rfl, rfl⟩
    rw [e1]
    go_wp2
    go_ret
    exact ⟨by rw [E.out]; rfl, rfl⟩
  · have E : Hid (decide (1 ≤ b ∧ b ≤ a ∧ a ≤ 20) = decide (1 ≤ b ∧ b ≤ a)) := decide_eq_decide.2 ⟨fun g => ⟨g.1, g.2.1⟩, fun g => ⟨g.1, g.2, (of_decide_eq_true e1).2⟩⟩
    go_enter Try.func38, Try.ntmps38
    go_wp2_with fail
    refine (in_any _ _ _ _).mono ?_
    rintro r w' ⟨rfl, rfl⟩
    rw [e1]
    go_wp2_with fail
    refine (in_any _ _ _ _).mono ?_
    rintro r w' ⟨rfl, rfl⟩
    go_wp2
    go_ret
    exact ⟨by rw [E.out, Bool.decide_and]; rfl, rfl⟩

set_option maxHeartbeats 1000000 in
theorem capOf_bad (a b c d e : Int) (w : World) (h : ¬ Fits a b c d e) : Calls Try.prog 39 #[.int .i64 a, .int .i64 b, .int .i64 c, .int .i64 d, .int .i64 e] w fun r w' => r = .returned (.tuple #[.int .i64 0, .int .i64 2]) ∧ w' = w := by
  cases e0 : decide (1 ≤ b ∧ b ≤ a ∧ a ≤ 20)
  · clear h
    go_enter Try.func39, Try.ntmps39
    go_wp2_with fail
    refine (factorMay_any _ _ _).mono ?_
    rintro r w' ⟨rfl, rfl⟩
    rw [e0]
    go_wp2
    go_ret2
    exact ⟨rfl, rfl⟩
  cases e1 : decide (0 ≤ c ∧ c ≤ 40)
  · clear h
    go_enter Try.func39, Try.ntmps39
    go_wp2_with fail
    refine (factorMay_any _ _ _).mono ?_
    rintro r w' ⟨rfl, rfl⟩
    rw [e0]
    go_wp2_with fail
    refine (in_any _ _ _ _).mono ?_
    rintro r w' ⟨rfl, rfl⟩
    rw [e1]
    go_wp2
    go_ret2
    exact ⟨rfl, rfl⟩
  cases e2 : decide (1 ≤ e ∧ e ≤ 96)
  · clear h
    go_enter Try.func39, Try.ntmps39
    go_wp2_with fail
    refine (factorMay_any _ _ _).mono ?_
    rintro r w' ⟨rfl, rfl⟩
    rw [e0]
    go_wp2_with fail
    refine (in_any _ _ _ _).mono ?_
    rintro r w' ⟨rfl, rfl⟩
    rw [e1]
    go_wp2_with fail
    refine (in_any _ _ _ _).mono ?_
    rintro r w' ⟨rfl, rfl⟩
    rw [e2]
    go_wp2
    go_ret2
    exact ⟨rfl, rfl⟩
  have e3 : decide (1 ≤ d ∧ d ≤ e) = false := decide_eq_false fun g => h ⟨⟨of_decide_eq_true e0, of_decide_eq_true e1⟩, g.1, g.2, (of_decide_eq_true e2).2⟩
  clear h
  go_enter Try.func39, Try.ntmps39
  go_wp2_with fail
  refine (factorMay_any _ _ _).mono ?_
  rintro r w' ⟨rfl, rfl⟩
  rw [e0]
  go_wp2_with fail
  refine (in_any _ _ _ _).mono ?_
  rintro r w' ⟨rfl, rfl⟩
  rw [e1]
  go_wp2_with fail
  refine (in_any _ _ _ _).mono ?_
  rintro r w' ⟨rfl, rfl⟩
  rw [e2]
  go_wp2_with fail
  refine (in_any _ _ _ _).mono ?_
  rintro r w' ⟨rfl, rfl⟩
  rw [e3]
  go_wp2
  go_ret2
  exact ⟨rfl, rfl⟩

set_option maxHeartbeats 2000000 in
theorem capOf_ok (a b c d e : Int) (w : World) (h : Fits a b c d e) : Calls Try.prog 39 #[.int .i64 a, .int .i64 b, .int .i64 c, .int .i64 d, .int .i64 e] w fun r w' => r = .returned (.tuple #[.int .i64 (capV a b c d e), .int .i64 0]) ∧ w' = w := by
  have hF := h
  obtain ⟨⟨q1, q2⟩, ⟨p1, p2⟩, p3, p4⟩ := prods h
  obtain ⟨l1, l2, l3, l4⟩ := capV_le h
  obtain ⟨⟨⟨h1, h2, h3⟩, h4, h5⟩, h6, h7, h8⟩ := h
  have e0 : decide (1 ≤ b ∧ b ≤ a ∧ a ≤ 20) = true := decide_eq_true ⟨h1, h2, h3⟩
  have e1 : decide (0 ≤ c ∧ c ≤ 40) = true := decide_eq_true ⟨h4, h5⟩
  have e2 : decide (1 ≤ e ∧ e ≤ 96) = true := decide_eq_true ⟨by omega, h8⟩
  have e3 : decide (1 ≤ d ∧ d ≤ e) = true := decide_eq_true ⟨h6, h7⟩
  obtain ⟨n, hn⟩ := Int.eq_ofNat_of_zero_le (a := capV a b c d e) (by omega)
  rw [hn] at l1 l2 l3 l4 ⊢
  have HF : Hid _ := hF
  clear hF hn
  have L1 : Hid (_ ∧ _) := ⟨l1, l2⟩
  clear l1 l2
  go_enter Try.func39, Try.ntmps39
  go_wp2_with fail
  refine (factorMay_any _ _ _).mono ?_
  rintro r w' ⟨rfl, rfl⟩
  rw [e0]
  go_wp2_with fail
  refine (in_any _ _ _ _).mono ?_
  rintro r w' ⟨rfl, rfl⟩
  rw [e1]
  go_wp2_with fail
  refine (in_any _ _ _ _).mono ?_
  rintro r w' ⟨rfl, rfl⟩
  rw [e2]
  go_wp2_with fail
  refine (in_any _ _ _ _).mono ?_
  rintro r w' ⟨rfl, rfl⟩
  rw [e3]
  go_wp2
  clear e0 e1 e2 e3
  go_loop [12] (fun i => ∃ k : Nat, i = .int .i64 (k : Int) ∧ k ≤ n) (fun i => n - (intOf i).toNat)
  case atStart => exact ⟨0, rfl, by omega⟩
  case round =>
    obtain ⟨k, rfl, hk⟩ := hrel
    have m1 : 0 ≤ (k : Int) * b := Int.mul_nonneg (by omega) (by omega)
    have m2 : (k : Int) * b ≤ 78720 * 20 := Int.mul_le_mul (by omega) (by omega) (by omega) (by omega)
    have m3 : 0 ≤ (k : Int) * b * e := Int.mul_nonneg m1 (by omega)
    have m4 : (k : Int) * b * e ≤ 1574400 * 96 := Int.mul_le_mul (by omega) (by omega) (by omega) (by omega)
    rcases Nat.lt_or_ge k n with hlt | hge
    · have hc : decide ((k : Int) * b * e < a * (c + 1) * d) = true := by
        refine decide_eq_true (Int.lt_of_le_of_lt ?_ L1.out.2)
        rw [Int.mul_assoc (k : Int) b e]
        exact Int.mul_le_mul_of_nonneg_right (by omega) (by omega)
      go_wp2
      go_round
      case rel => exact ⟨k + 1, by simp, hlt⟩
      case measure => simp [intOf]; omega
    · obtain rfl : k = n := by omega
      have hc : decide ((k : Int) * b * e < a * (c + 1) * d) = false := by
        refine decide_eq_false (Int.not_lt.2 ?_)
        rw [Int.mul_assoc (k : Int) b e]
        exact L1.out.1
      go_wp2
      go_ret2
      exact ⟨rfl, rfl⟩

end Go.Proofs.Ytjkiahdeaeiopaa.Walks
