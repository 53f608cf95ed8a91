/-
  usherkeep's three laws of ramp: it never falls, it keeps to its share, it is whole at once where nothing need warm. No condition.
-/
import Derived.Test.YtafhdlnhlemdgaaRamp
import Derived.WalkKit
import Derived.ProofKit
import Derived.Handy
import Derived.LoopTactic
import Derived.Below
import Derived.Laws.BitsAllLaws
import Derived.RegionTactic
import Derived.Deep.RegionHeld3
import Derived.Deep.DrawnRows
import Derived.Deep.AppendLies
import Derived.Laws.OwnMore
import Derived.Deep.Onto
import Derived.Deep.QuietTactic
import Derived.BigQuiet
namespace Go.Proofs.Ytafhdlnhlemdgaa.Walks
open Go.RowKit
set_option linter.unusedVariables false
set_option linter.unusedSimpArgs false
attribute [local go_sem ↓] Go.wp_at_zero Go.wp_at_succ

theorem wt_one (wg g b : Int) (h : 1 ≤ wg) : 1 ≤ wt wg g b := by
  unfold wt
  split <;> omega

theorem wt_top (wg g b : Int) (h : 1 ≤ wg) (hg : 0 ≤ g) : wt wg g b ≤ wg := by
  unfold wt
  split
  · omega
  · have hb : 0 < b := by omega
    have : wg * g / b < wg + 0 := by
      rw [Int.ediv_lt_iff_lt_mul hb, Int.add_zero]
      exact Int.mul_lt_mul_of_pos_left (by omega) (by omega)
    omega

theorem wt_up (wg g b : Int) (h : 1 ≤ wg) (hg : 0 ≤ g) : wt wg g b ≤ wt wg (g + 1) b := by
  have h1 := wt_top wg g b h hg
  by_cases hb : b ≤ g + 1
  · rw [show wt wg (g + 1) b = wg by unfold wt; rw [if_pos hb]]
    exact h1
  · unfold wt
    rw [if_neg (by omega), if_neg hb]
    have hle : wg * g ≤ wg * (g + 1) := Int.mul_le_mul_of_nonneg_left (by omega) (by omega)
    have := Int.ediv_le_ediv (c := b) (by omega) hle
    omega

set_option maxHeartbeats 1000000 in
theorem atOnce_law (wg : Int) (x0 : (Lit.int .i64 wg).wf = true) (a : Int) (x1 : (Lit.int .i64 a).wf = true) (w : World) :
    Calls Try.prog 7 #[.int .i64 wg, .int .i64 a] w fun e w' => e = .returned (.bool true) ∧ Below w.heap.size w w' := by
  obtain ⟨k0, hk0, p0⟩ := picked_some wg 8 x0 (by omega) (by omega)
  obtain ⟨k1, hk1, p1⟩ := picked_some a 1099511627776 x1 (by omega) (by omega)
  clear x0 x1
  have P0 : Hid _ := p0
  have P1 : Hid _ := p1
  clear p0 p1
  have e0 : wt (1 + k0) (k1 - k1) 0 = 1 + k0 := by unfold wt; rw [if_pos (by omega)]
  have e1 : wt (1 + k0) (k1 - k1) 1 = 1 := by unfold wt; rw [if_neg (by omega)]; simp; omega
  have hA : Hid (∀ W, _) := fun W => weight_ok (1 + (k0 : Int)) k1 k1 0 W (by omega) (by omega) ⟨by omega, by omega, by omega, by omega⟩ (by omega) (by omega)
  have hB : Hid (∀ W, _) := fun W => weight_ok (1 + (k0 : Int)) k1 k1 1 W (by omega) (by omega) ⟨by omega, by omega, by omega, by omega⟩ (by omega) (by omega)
  have hC : Hid (∀ W, _) := fun W => full_ok k1 0 W ⟨by omega, by omega, by omega, by omega⟩
  rw [e0] at hA
  rw [e1] at hB
  rw [Int.add_zero] at hC
  clear e0 e1
  go_enter Try.func7, Try.ntmps7
  go_wp2_with fail
  refine (P0.out _).mono ?_
  rintro e w' ⟨rfl, rfl⟩
  go_wp2_with fail
  refine (P1.out _).mono ?_
  rintro e w' ⟨rfl, rfl⟩
  go_wp2_with fail
  refine (hA.out _).mono ?_
  rintro e w' ⟨rfl, rfl⟩
  go_wp2_with fail
  refine (hC.out _).mono ?_
  rintro e w' ⟨rfl, rfl⟩
  go_wp2_with fail
  refine (hB.out _).mono ?_
  rintro e w' ⟨rfl, rfl⟩
  go_wp2
  go_ret
  exact ⟨rfl, Below.refl _ _⟩

theorem share_pure (wg m n : Int) (h : 1 ≤ wg) (hn : 0 ≤ n) (hm : n < m) : (wt wg n m = 1 ∨ wt wg n m * m ≤ wg * n) ∧ wg * n < (wt wg n m + 1) * m := by
  have hp : 0 ≤ wg * n := Int.mul_nonneg (by omega) hn
  have e : wt wg n m = max 1 (wg * n / m) := by unfold wt; rw [if_neg (by omega)]
  rw [e]
  have h1 := Int.ediv_mul_le (wg * n) (b := m) (by omega)
  have h2 := Int.lt_ediv_add_one_mul_self (wg * n) (b := m) (by omega)
  have h3 := Int.ediv_nonneg (a := wg * n) (b := m) hp (by omega)
  generalize wg * n / m = q at *
  rcases Int.lt_or_le 1 q with h4 | h4
  · rw [show max 1 q = q by omega]
    exact ⟨.inr h1, h2⟩
  · rw [show max 1 q = 1 by omega]
    refine ⟨.inl rfl, Int.lt_of_lt_of_le h2 (Int.mul_le_mul_of_nonneg_right (by omega) (by omega))⟩

set_option maxHeartbeats 1000000 in
theorem share_law (wg : Int) (x0 : (Lit.int .i64 wg).wf = true) (g : Int) (x1 : (Lit.int .i64 g).wf = true) (m : Int) (x2 : (Lit.int .i64 m).wf = true) (w : World) :
    Calls Try.prog 6 #[.int .i64 wg, .int .i64 g, .int .i64 m] w fun e w' => e = .returned (.bool true) ∧ Below w.heap.size w w' := by
  obtain ⟨k0, hk0, p0⟩ := picked_some wg 8 x0 (by omega) (by omega)
  obtain ⟨k2, hk2, p2⟩ := picked_some m 500 x2 (by omega) (by omega)
  obtain ⟨k1, hk1, p1⟩ := picked_some g (1 + k2) x1 (by omega) (by omega)
  rw [show ((1 + k2 : Nat) : Int) = 1 + k2 by omega] at p1
  clear x0 x1 x2
  have P0 : Hid _ := p0
  have P1 : Hid _ := p1
  have P2 : Hid _ := p2
  clear p0 p1 p2
  have hA : Hid (∀ W, _) := fun W => weight_ok (1 + (k0 : Int)) 7 (7 + k1) (1 + k2) W (by omega) (by omega) ⟨by omega, by omega, by omega, by omega⟩ (by omega) (by omega)
  rw [show (7 : Int) + k1 - 7 = k1 by omega] at hA
  have hu1 := wt_one (1 + k0) k1 (1 + k2) (by omega)
  have hu2 := wt_top (1 + k0) k1 (1 + k2) (by omega) (by omega)
  obtain ⟨hs1, hs2⟩ := share_pure (1 + k0) (1 + k2) k1 (by omega) (by omega) (by omega)
  generalize wt (1 + (k0 : Int)) k1 (1 + k2) = u at *
  have b1 : 0 ≤ u * (1 + (k2 : Int)) := Int.mul_nonneg (by omega) (by omega)
  have b2 : u * (1 + (k2 : Int)) ≤ 8 * 500 := Int.mul_le_mul (by omega) (by omega) (by omega) (by omega)
  have b3 : 0 ≤ (1 + (k0 : Int)) * k1 := Int.mul_nonneg (by omega) (by omega)
  have b4 : (1 + (k0 : Int)) * k1 ≤ 8 * 500 := Int.mul_le_mul (by omega) (by omega) (by omega) (by omega)
  have b5 : 0 ≤ (u + 1) * (1 + (k2 : Int)) := Int.mul_nonneg (by omega) (by omega)
  have b6 : (u + 1) * (1 + (k2 : Int)) ≤ 9 * 500 := Int.mul_le_mul (by omega) (by omega) (by omega) (by omega)
  go_enter Try.func6, Try.ntmps6
  go_wp2_with fail
  refine (P0.out _).mono ?_
  rintro e w' ⟨rfl, rfl⟩
  go_wp2_with fail
  refine (P2.out _).mono ?_
  rintro e w' ⟨rfl, rfl⟩
  go_wp2_with fail
  refine (P1.out _).mono ?_
  rintro e w' ⟨rfl, rfl⟩
  go_wp2_with fail
  refine (hA.out _).mono ?_
  rintro e w' ⟨rfl, rfl⟩
  clear hA P0 P1 P2
  have hs2' : decide ((1 + (k0 : Int)) * k1 < (u + 1) * (1 + (k2 : Int))) = true := decide_eq_true hs2
  cases hc : (u == 1)
  · have hs1' : decide (u * (1 + (k2 : Int)) ≤ (1 + (k0 : Int)) * k1) = true := by
      refine decide_eq_true ?_
      rcases hs1 with h | h
      · simp [h] at hc
      · exact h
    go_wp2
    all_goals
      go_ret
      exact ⟨rfl, Below.refl _ _⟩
  · go_wp2
    all_goals
      go_ret
      exact ⟨rfl, Below.refl _ _⟩

set_option maxHeartbeats 1000000 in
theorem rises_law (wg : Int) (x0 : (Lit.int .i64 wg).wf = true) (a : Int) (x1 : (Lit.int .i64 a).wf = true) (n : Int) (x2 : (Lit.int .i64 n).wf = true) (m : Int) (x3 : (Lit.int .i64 m).wf = true) (w : World) :
    Calls Try.prog 5 #[.int .i64 wg, .int .i64 a, .int .i64 n, .int .i64 m] w fun e w' => e = .returned (.bool true) ∧ Below w.heap.size w w' := by
  obtain ⟨k0, hk0, p0⟩ := picked_some wg 8 x0 (by omega) (by omega)
  obtain ⟨k1, hk1, p1⟩ := picked_some a 1000000 x1 (by omega) (by omega)
  obtain ⟨k3, hk3, p3⟩ := picked_some m 501 x3 (by omega) (by omega)
  obtain ⟨k2, hk2, p2⟩ := picked_some n 600 x2 (by omega) (by omega)
  clear x0 x1 x2 x3
  have P0 : Hid _ := p0
  have P1 : Hid _ := p1
  have P2 : Hid _ := p2
  have P3 : Hid _ := p3
  clear p0 p1 p2 p3
  have hA : Hid (∀ W, _) := fun W => weight_ok (1 + (k0 : Int)) k1 (k1 + k2) k3 W (by omega) (by omega) ⟨by omega, by omega, by omega, by omega⟩ (by omega) (by omega)
  have hB : Hid (∀ W, _) := fun W => weight_ok (1 + (k0 : Int)) k1 (k1 + k2 + 1) k3 W (by omega) (by omega) ⟨by omega, by omega, by omega, by omega⟩ (by omega) (by omega)
  have hC : Hid (∀ W, _) := fun W => full_ok k1 k3 W ⟨by omega, by omega, by omega, by omega⟩
  rw [show (k1 : Int) + k2 - k1 = k2 by omega] at hA
  rw [show (k1 : Int) + k2 + 1 - k1 = k2 + 1 by omega] at hB
  have hu1 := wt_one (1 + k0) k2 k3 (by omega)
  have hu2 := wt_up (1 + k0) k2 k3 (by omega) (by omega)
  have hu3 := wt_top (1 + k0) (k2 + 1) k3 (by omega) (by omega)
  have hu4 : (k3 : Int) ≤ k2 → wt (1 + k0) k2 k3 = 1 + k0 := fun h => by unfold wt; rw [if_pos h]
  have HU4 : Hid _ := hu4
  clear hu4
  generalize wt (1 + (k0 : Int)) k2 k3 = u at *
  generalize wt (1 + (k0 : Int)) (k2 + 1) k3 = v at *
  go_enter Try.func5, Try.ntmps5
  go_wp2_with fail
  refine (P0.out _).mono ?_
  rintro e w' ⟨rfl, rfl⟩
  go_wp2_with fail
  refine (P1.out _).mono ?_
  rintro e w' ⟨rfl, rfl⟩
  go_wp2_with fail
  refine (P3.out _).mono ?_
  rintro e w' ⟨rfl, rfl⟩
  go_wp2_with fail
  refine (P2.out _).mono ?_
  rintro e w' ⟨rfl, rfl⟩
  go_wp2_with fail
  refine (hA.out _).mono ?_
  rintro e w' ⟨rfl, rfl⟩
  go_wp2_with fail
  refine (hB.out _).mono ?_
  rintro e w' ⟨rfl, rfl⟩
  go_wp2_with fail
  refine (hC.out _).mono ?_
  rintro e w' ⟨rfl, rfl⟩
  clear hA hB hC P0 P1 P2 P3
  have d1 : decide (1 ≤ u) = true := decide_eq_true hu1
  have d2 : decide (u ≤ v) = true := decide_eq_true hu2
  have d3 : decide (v ≤ 1 + (k0 : Int)) = true := decide_eq_true hu3
  cases hc : decide (k2 < k3)
  · have d4 : (u == 1 + (k0 : Int)) = true := by rw [HU4.out (by have := of_decide_eq_false hc; omega)]; simp
    go_wp2
    all_goals
      go_ret
      exact ⟨rfl, Below.refl _ _⟩
  · go_wp2
    all_goals
      go_ret
      exact ⟨rfl, Below.refl _ _⟩
end Go.Proofs.Ytafhdlnhlemdgaa.Walks
