/-
  CapLone: a backend that is alone may have all flows. No condition.
-/
import Derived.Test.YtmjdkobmklkilaaCaps
import Derived.WalkKit
import Derived.ProofKit
import Derived.Handy
import Derived.LoopTactic
import Derived.Below
import Derived.Laws.BitsAllLaws
import Derived.RegionTactic
import Derived.Deep.RegionHeld3
import Derived.Deep.DrawnRows
import Derived.Deep.AppendLies
import Derived.Laws.OwnMore
import Derived.Deep.Onto
import Derived.Deep.QuietTactic
import Derived.BigQuiet
namespace Go.Proofs.Ytmjdkobmklkilaa.Walks
open Go.RowKit
set_option linter.unusedVariables false
set_option linter.unusedSimpArgs false
attribute [local go_sem ↓] Go.wp_at_zero Go.wp_at_succ

theorem capV_all {a b c d : Int} (h : Fits a b c d d) : c + 1 ≤ capV a b c d d := by
  obtain ⟨l1, _, _, _⟩ := capV_le h
  obtain ⟨⟨⟨h1, h2, h3⟩, h4, h5⟩, h6, h7, h8⟩ := h
  generalize capV a b c d d = u at *
  have m1 : b * (c + 1) ≤ a * (c + 1) := Int.mul_le_mul_of_nonneg_right h2 (by omega)
  have m2 : b * (c + 1) * d ≤ a * (c + 1) * d := Int.mul_le_mul_of_nonneg_right m1 (by omega)
  have m3 : (c + 1) * (b * d) ≤ u * (b * d) := by
    have e : b * (c + 1) * d = (c + 1) * (b * d) := by rw [Int.mul_comm b (c + 1), Int.mul_assoc]
    rw [← e]
    omega
  exact Int.le_of_mul_le_mul_right m3 (Int.mul_pos (by omega) (by omega))

theorem CapsRes.form {o : Int × List Int} {w : World} {r : Ending} {w' : World} (h : CapsRes o w r w') : ∃ p c, r = .returned (.tuple #[.slice p o.2.length c, .int .i64 o.1]) ∧ IntsAt w' (.slice p o.2.length c) o.2 ∧ Below w.heap.size w w' := by
  obtain ⟨y, rfl, hi, hb⟩ := h
  obtain ⟨p, c, rfl, _⟩ := hi.parts
  exact ⟨p, c, rfl, hi, hb⟩

theorem ldAt_one (w : World) (x : Ld) : LdAt (w.alloc (.cells #[.int .i64 x.1, .int .i64 x.2.1, .int .i64 x.2.2] 39)) (.slice (some ⟨w.heap.size, 0, none⟩) 1 1) [x] := by
  refine ⟨_, 1, rfl, Nat.le_refl _, by unfold maxLen; omega, .inr ⟨w.heap.size, 0, rfl, by simp, fun i hi => ?_⟩⟩
  rw [Nat.zero_add, cell_of_row _ w.heap.size i _ 39 (0, 0) (heap_alloc_new w _)]
  simp [lcells]

set_option maxHeartbeats 4000000 in
set_option maxRecDepth 100000 in
theorem lone_law (a : Int) (x0 : (Lit.int .i64 a).wf = true) (b : Int) (x1 : (Lit.int .i64 b).wf = true) (c : Int) (x2 : (Lit.int .i64 c).wf = true) (d : Int) (x3 : (Lit.int .i64 d).wf = true) (w : World) :
    Calls Try.prog 8 #[.int .i64 a, .int .i64 b, .int .i64 c, .int .i64 d] w fun r w' => r = .returned (.bool true) ∧ Below w.heap.size w w' := by
  obtain ⟨k1, hk1, p1⟩ := picked_some b 20 x1 (by omega) (by omega)
  obtain ⟨k0, hk0, p0⟩ := picked_some a (20 - k1) x0 (by omega) (by omega)
  obtain ⟨k2, hk2, p2⟩ := picked_some c 41 x2 (by omega) (by omega)
  obtain ⟨k3, hk3, p3⟩ := picked_some d 8 x3 (by omega) (by omega)
  rw [show ((20 - k1 : Nat) : Int) = 20 - (1 + k1) + 1 by omega] at p0
  clear x0 x1 x2 x3
  have P : Hid (_ ∧ _ ∧ _ ∧ _) := ⟨p0, p1, p2, p3⟩
  clear p0 p1 p2 p3
  have fA : Fits (1 + (k1 : Int) + k0) (1 + k1) k2 (1 + k3) (1 + k3) := ⟨⟨⟨by omega, by omega, by omega⟩, by omega, by omega⟩, by omega, by omega, by omega⟩
  have hall := capV_all fA
  obtain ⟨_, _, u1, u2⟩ := capV_le fA
  have hA : Hid (∀ W, _) := fun W => cap_ok _ _ _ _ _ W fA
  have hout : capsOut [((3 : Int), 1 + (k3 : Int), (0 : Int))] (1 + (k1 : Int) + k0) (1 + k1) k2 = (0, [capV (1 + (k1 : Int) + k0) (1 + k1) k2 (1 + k3) (1 + k3)]) := by
    have hok : LOk [((3 : Int), 1 + (k3 : Int), (0 : Int))] := ⟨by simp, okFrom_cons.2 ⟨⟨by omega, by omega, ⟨by simp; omega, by simp; omega⟩, by simp, by simp⟩, rfl⟩⟩
    unfold capsOut
    rw [if_pos (lokB_iff.2 hok), if_pos fA.1]
    have hne : ¬ (1 + (k3 : Int) = 0) := by omega
    simp [capsL, capE, tot, hne]
  have HO : Hid (_ ∧ True) := ⟨hout, trivial⟩
  generalize capV (1 + (k1 : Int) + k0) (1 + k1) k2 (1 + k3) (1 + k3) = u at *
  clear fA hout
  have d1 : decide ((k2 : Int) + 1 ≤ u) = true := decide_eq_true hall
  clear hall
  go_enter Try.func8, Try.ntmps8
  go_wp2_with fail
  refine (P.out.2.1 _).mono ?_
  rintro r w' ⟨rfl, rfl⟩
  go_wp2_with fail
  refine (P.out.1 _).mono ?_
  rintro r w' ⟨rfl, rfl⟩
  go_wp2_with fail
  refine (P.out.2.2.1 _).mono ?_
  rintro r w' ⟨rfl, rfl⟩
  go_wp2_with fail
  refine (P.out.2.2.2 _).mono ?_
  rintro r w' ⟨rfl, rfl⟩
  go_wp2_with fail
  refine (hA.out _).mono ?_
  rintro r w1 ⟨rfl, rfl⟩
  clear hA P
  have hL : Hid (_ ∧ _) := ⟨ldAt_one w1 ((3 : Int), 1 + (k3 : Int), (0 : Int)), below_newL w1 (o := .cells #[.int .i64 (3 : Int), .int .i64 (1 + (k3 : Int)), .int .i64 (0 : Int)] 39)⟩
  go_wp2_with fail
  refine (caps_any _ _ _ _ _ _ hL.out.1).mono ?_
  rw [HO.out.1]
  rintro r w2 hr2
  obtain ⟨p2, c2, rfl, hi2, hb2⟩ := hr2.form
  clear hr2
  obtain ⟨_, _, e0, _, _, pa⟩ := hi2.parts
  obtain ⟨b1, o1, rfl, hb1, c1⟩ := (by injection e0 with e0; subst e0; exact pa 0 (by simp) : ∃ b off, p2 = some ⟨b, off, none⟩ ∧ b < w2.heap.size ∧ w2.cell? ⟨b, off + 0, none⟩ = some (.int .i64 u))
  rw [Nat.add_zero] at c1
  have HB : Hid _ := hL.out.2.trans (hb2.mono hL.out.2.size)
  clear e0 pa hi2 hb2 hL
  go_wp2
  go_ret
  exact ⟨rfl, HB.out⟩
end Go.Proofs.Ytmjdkobmklkilaa.Walks
