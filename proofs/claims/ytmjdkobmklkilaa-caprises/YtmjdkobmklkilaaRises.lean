/-
  CapRises: more flows, or more weight, make a cap no less; it is the share, rounded up. No condition.
-/
import Derived.Test.YtmjdkobmklkilaaCap
import Derived.WalkKit
import Derived.ProofKit
import Derived.Handy
import Derived.LoopTactic
import Derived.Below
import Derived.Laws.BitsAllLaws
import Derived.RegionTactic
import Derived.Deep.RegionHeld3
import Derived.Deep.DrawnRows
import Derived.Deep.AppendLies
import Derived.Laws.OwnMore
import Derived.Deep.Onto
import Derived.Deep.QuietTactic
import Derived.BigQuiet
namespace Go.Proofs.Ytmjdkobmklkilaa.Walks
open Go.RowKit
set_option linter.unusedVariables false
set_option linter.unusedSimpArgs false
attribute [local go_sem ↓] Go.wp_at_zero Go.wp_at_succ

theorem capV_flows {a b c d e : Int} (h : Fits a b c d e) (h2 : Fits a b (c + 1) d e) : capV a b c d e ≤ capV a b (c + 1) d e := by
  obtain ⟨_, l2, _, _⟩ := capV_le h
  obtain ⟨l1, _, _, _⟩ := capV_le h2
  obtain ⟨_, _, p3, _⟩ := prods h
  have hm : a * (c + 1) * d ≤ a * (c + 1 + 1) * d := Int.mul_le_mul_of_nonneg_right (Int.mul_le_mul_of_nonneg_left (by omega) (by have := h.1.1; omega)) (by have := h.2; omega)
  refine Int.le_of_lt_add_one (Int.lt_add_of_sub_right_lt ?_)
  refine Int.lt_of_not_ge fun hh => ?_
  have := Int.mul_le_mul_of_nonneg_right hh (Int.le_of_lt p3)
  omega

theorem capV_weight {a b c d e : Int} (h : Fits a b c d e) (h2 : Fits a b c (d + 1) e) : capV a b c d e ≤ capV a b c (d + 1) e := by
  obtain ⟨_, l2, _, _⟩ := capV_le h
  obtain ⟨l1, _, _, _⟩ := capV_le h2
  obtain ⟨⟨p1, _⟩, _, p3, _⟩ := prods h
  have hm : a * (c + 1) * d ≤ a * (c + 1) * (d + 1) := Int.mul_le_mul_of_nonneg_left (by omega) (by omega)
  refine Int.le_of_lt_add_one (Int.lt_add_of_sub_right_lt ?_)
  refine Int.lt_of_not_ge fun hh => ?_
  have := Int.mul_le_mul_of_nonneg_right hh (Int.le_of_lt p3)
  omega

set_option maxHeartbeats 4000000 in
set_option maxRecDepth 100000 in
theorem rises_law (a : Int) (x0 : (Lit.int .i64 a).wf = true) (b : Int) (x1 : (Lit.int .i64 b).wf = true) (c : Int) (x2 : (Lit.int .i64 c).wf = true) (d : Int) (x3 : (Lit.int .i64 d).wf = true) (e : Int) (x4 : (Lit.int .i64 e).wf = true) (w : World) :
    Calls Try.prog 6 #[.int .i64 a, .int .i64 b, .int .i64 c, .int .i64 d, .int .i64 e] w fun r w' => r = .returned (.bool true) ∧ Below w.heap.size w w' := by
  obtain ⟨k1, hk1, p1⟩ := picked_some b 20 x1 (by omega) (by omega)
  obtain ⟨k0, hk0, p0⟩ := picked_some a (20 - k1) x0 (by omega) (by omega)
  obtain ⟨k4, hk4, p4⟩ := picked_some e 95 x4 (by omega) (by omega)
  obtain ⟨k3, hk3, p3⟩ := picked_some d (1 + k4) x3 (by omega) (by omega)
  obtain ⟨k2, hk2, p2⟩ := picked_some c 40 x2 (by omega) (by omega)
  rw [show ((20 - k1 : Nat) : Int) = 20 - (1 + k1) + 1 by omega] at p0
  rw [show ((1 + k4 : Nat) : Int) = 2 + k4 - 1 by omega] at p3
  clear x0 x1 x2 x3 x4
  have P : Hid (_ ∧ _ ∧ _ ∧ _ ∧ _) := ⟨p0, p1, p2, p3, p4⟩
  clear p0 p1 p2 p3 p4
  have fA : Fits (1 + (k1 : Int) + k0) (1 + k1) k2 (1 + k3) (2 + k4) := ⟨⟨⟨by omega, by omega, by omega⟩, by omega, by omega⟩, by omega, by omega, by omega⟩
  have fB : Fits (1 + (k1 : Int) + k0) (1 + k1) (k2 + 1) (1 + k3) (2 + k4) := ⟨⟨⟨by omega, by omega, by omega⟩, by omega, by omega⟩, by omega, by omega, by omega⟩
  have fC : Fits (1 + (k1 : Int) + k0) (1 + k1) k2 (1 + k3 + 1) (2 + k4) := ⟨⟨⟨by omega, by omega, by omega⟩, by omega, by omega⟩, by omega, by omega, by omega⟩
  have u1 := capV_flows fA fB
  have u2 := capV_weight fA fC
  obtain ⟨u3, u4, u5, u6⟩ := capV_le fA
  have hA : Hid (∀ W, _) := fun W => cap_ok _ _ _ _ _ W fA
  have hB : Hid (∀ W, _) := fun W => cap_ok _ _ _ _ _ W fB
  have hC : Hid (∀ W, _) := fun W => cap_ok _ _ _ _ _ W fC
  obtain ⟨⟨v1, v2⟩, ⟨v3, v4⟩, v5, v6⟩ := prods fA
  generalize capV (1 + (k1 : Int) + k0) (1 + k1) k2 (1 + k3) (2 + k4) = u at *
  generalize capV (1 + (k1 : Int) + k0) (1 + k1) (k2 + 1) (1 + k3) (2 + k4) = x at *
  generalize capV (1 + (k1 : Int) + k0) (1 + k1) k2 (1 + k3 + 1) (2 + k4) = y at *
  clear fA fB fC
  have z1 : 0 ≤ u * (1 + (k1 : Int)) := Int.mul_nonneg (by omega) (by omega)
  have z2 : u * (1 + (k1 : Int)) ≤ 78720 * 20 := Int.mul_le_mul (by omega) (by omega) (by omega) (by omega)
  have z3 : 0 ≤ u * (1 + (k1 : Int)) * (2 + (k4 : Int)) := Int.mul_nonneg (by omega) (by omega)
  have z4 : u * (1 + (k1 : Int)) * (2 + (k4 : Int)) ≤ 1574400 * 96 := Int.mul_le_mul (by omega) (by omega) (by omega) (by omega)
  have y1 : 0 ≤ (u - 1) * (1 + (k1 : Int)) := Int.mul_nonneg (by omega) (by omega)
  have y2 : (u - 1) * (1 + (k1 : Int)) ≤ 78720 * 20 := Int.mul_le_mul (by omega) (by omega) (by omega) (by omega)
  have y3 : 0 ≤ (u - 1) * (1 + (k1 : Int)) * (2 + (k4 : Int)) := Int.mul_nonneg (by omega) (by omega)
  have y4 : (u - 1) * (1 + (k1 : Int)) * (2 + (k4 : Int)) ≤ 1574400 * 96 := Int.mul_le_mul (by omega) (by omega) (by omega) (by omega)
  have d1 : decide (u ≤ x) = true := decide_eq_true u1
  have d2 : decide (u ≤ y) = true := decide_eq_true u2
  have d3 : decide ((1 + (k1 : Int) + k0) * (k2 + 1) * (1 + k3) ≤ u * (1 + (k1 : Int)) * (2 + (k4 : Int))) = true := decide_eq_true (by rw [Int.mul_assoc u]; exact u3)
  have d4 : decide ((u - 1) * (1 + (k1 : Int)) * (2 + (k4 : Int)) < (1 + (k1 : Int) + k0) * (k2 + 1) * (1 + k3)) = true := decide_eq_true (by rw [Int.mul_assoc (u - 1)]; exact u4)
  clear u1 u2 u3 u4
  go_enter Try.func6, Try.ntmps6
  go_wp2_with fail
  refine (P.out.2.1 _).mono ?_
  rintro r w' ⟨rfl, rfl⟩
  go_wp2_with fail
  refine (P.out.1 _).mono ?_
  rintro r w' ⟨rfl, rfl⟩
  go_wp2_with fail
  refine (P.out.2.2.2.2 _).mono ?_
  rintro r w' ⟨rfl, rfl⟩
  go_wp2_with fail
  refine (P.out.2.2.2.1 _).mono ?_
  rintro r w' ⟨rfl, rfl⟩
  go_wp2_with fail
  refine (P.out.2.2.1 _).mono ?_
  rintro r w' ⟨rfl, rfl⟩
  go_wp2_with fail
  refine (hA.out _).mono ?_
  rintro r w' ⟨rfl, rfl⟩
  go_wp2_with fail
  refine (hB.out _).mono ?_
  rintro r w' ⟨rfl, rfl⟩
  go_wp2_with fail
  refine (hC.out _).mono ?_
  rintro r w' ⟨rfl, rfl⟩
  clear hA hB hC P
  go_wp2
  go_ret
  exact ⟨rfl, Below.refl _ _⟩
end Go.Proofs.Ytmjdkobmklkilaa.Walks
