/-
  AllowedShare: never are more out than the share. No condition.
-/
import Derived.Test.YtofnhdkcadoiiabBack
import Derived.WalkKit
import Derived.ProofKit
import Derived.Handy
import Derived.LoopTactic
import Derived.Below
import Derived.Laws.BitsAllLaws
import Derived.RegionTactic
import Derived.Deep.RegionHeld3
import Derived.Deep.DrawnRows
import Derived.Deep.AppendLies
import Derived.Laws.OwnMore
import Derived.Deep.Onto
import Derived.Deep.QuietTactic
import Derived.BigQuiet
namespace Go.Proofs.Ytofnhdkcadoiiab.Walks
open Go.RowKit
set_option linter.unusedVariables false
set_option linter.unusedSimpArgs false
attribute [local go_sem ↓] Go.wp_at_zero Go.wp_at_succ

set_option maxHeartbeats 4000000 in
theorem share_law (x0 : Int) (h0 : (Lit.int .i64 x0).wf = true) (x1 : Int) (h1 : (Lit.int .i64 x1).wf = true) (w : World) :
    Calls Try.prog 5 #[.int .i64 x0, .int .i64 x1] w fun e w' => e = .returned (.bool true) ∧ Below w.heap.size w w' := by
  obtain ⟨n, hn, p0⟩ := picked_some x0 13 h0 (by omega) (by omega)
  obtain ⟨p, hp, p1⟩ := picked_some x1 101 h1 (by omega) (by omega)
  obtain ⟨M, hM⟩ : ∃ M, M = (n : Int) * p := ⟨_, rfl⟩
  have m0 : 0 ≤ M := by rw [hM]; exact Int.mul_nonneg (by omega) (by omega)
  have m1 : M ≤ 1200 := by rw [hM]; exact (Int.mul_le_mul (by omega) (by omega) (by omega) (by omega) : (n : Int) * p ≤ 12 * 100)
  have hA : Hid (∀ (k : Nat) W, k ≤ n → Calls Try.prog 10 #[.int .i64 k, .int .i64 n, .int .i64 p] W fun r w' => r = .returned (.tuple #[.bool (decide (((k : Int) + 1) * 100 ≤ M)), .int .i64 0]) ∧ w' = W) := fun (k : Nat) (W : World) hk => by
    have := allowed_any k n p W
    unfold allowO at this
    rwa [if_pos ⟨by omega, by omega, by omega⟩, Int.mul_comm (p : Int) n, ← hM] at this
  have hM' : (n : Int) * p = M := hM.symm
  have P : Hid (_ ∧ _) := ⟨p0, p1⟩
  clear p0 p1 h0 h1 hM
  go_enter Try.func5, Try.ntmps5
  go_wp2_with fail
  refine (P.out.1 _).mono ?_
  rintro e w' ⟨rfl, rfl⟩
  go_wp2_with fail
  refine (P.out.2 _).mono ?_
  rintro e w' ⟨rfl, rfl⟩
  go_wp2
  go_loopw [7, 8] (fun s i wr => ∃ (k : Nat), i = .int .i64 k ∧ s = .int .i64 k ∧ k ≤ n ∧ (k : Int) * 100 ≤ M ∧ w' = wr) (fun _ i _ => n - (intOf i).toNat)
  case atStart => exact ⟨0, rfl, rfl, Nat.zero_le _, by omega, rfl⟩
  case round =>
    obtain ⟨k, rfl, rfl, hk, hkM, rfl⟩ := hrel
    by_cases hlt : k < n
    · have hkd : (k : Int) < (n : Int) := by omega
      by_cases hc : ((k : Int) + 1) * 100 ≤ M
      · have hd : decide (((k : Int) + 1) * 100 ≤ M) = true := decide_eq_true hc
        have hA' := fun W => hA.out k W (by omega)
        rw [hd] at hA'
        have HA : Hid _ := hA'
        have HC : Hid _ := hc
        clear hA' hd hc
        go_wp2_with fail
        refine (HA.out _).mono ?_
        rintro e w' ⟨rfl, rfl⟩
        go_wp2
        go_roundw
        case rel => exact ⟨k + 1, by simp, by simp, hlt, by have := HC.out; omega, trivial⟩
        case measure => simp [intOf]; omega
      · have hd : decide (((k : Int) + 1) * 100 ≤ M) = false := decide_eq_false hc
        have hA' := fun W => hA.out k W (by omega)
        rw [hd] at hA'
        have HA : Hid _ := hA'
        have hc' : M < ((k : Int) + 1) * 100 := by omega
        have hne : ¬ ((k : Int) = (n : Int)) := by omega
        have hne2 : ((k : Int) == (n : Int)) = false := by simpa using hne
        clear hA' hd hc
        go_wp2_with fail
        refine (HA.out _).mono ?_
        rintro e w' ⟨rfl, rfl⟩
        go_wp2
        go_ret
        exact ⟨rfl, Below.refl _ _⟩
    · obtain rfl : k = n := by omega
      go_wp2
      go_ret
      exact ⟨rfl, Below.refl _ _⟩
end Go.Proofs.Ytofnhdkcadoiiab.Walks
