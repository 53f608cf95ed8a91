/-
  BucketBurst: a full bucket spends just Burst times. No condition.
-/
import Derived.Test.YtleeoncaiiilgaaBudget
import Derived.WalkKit
import Derived.ProofKit
import Derived.Handy
import Derived.LoopTactic
import Derived.Below
import Derived.Laws.BitsAllLaws
import Derived.RegionTactic
import Derived.Deep.RegionHeld3
import Derived.Deep.DrawnRows
import Derived.Deep.AppendLies
import Derived.Laws.OwnMore
import Derived.Deep.Onto
import Derived.Deep.QuietTactic
import Derived.BigQuiet
namespace Go.Proofs.Ytleeoncaiiilgaa.Walks
open Go.RowKit
set_option linter.unusedVariables false
set_option linter.unusedSimpArgs false
attribute [local go_sem ↓] Go.wp_at_zero Go.wp_at_succ

set_option maxHeartbeats 4000000 in
theorem burst_law (x0 : Int) (h0 : (Lit.int .i64 x0).wf = true) (x1 : Int) (h1 : (Lit.int .i64 x1).wf = true) (x2 : Int) (h2 : (Lit.int .i64 x2).wf = true) (w : World) :
    Calls Try.prog 8 #[.int .i64 x0, .int .i64 x1, .int .i64 x2] w fun e w' => e = .returned (.bool true) ∧ Below w.heap.size w w' := by
  obtain ⟨n, d, b, ⟨hn, hd, hb⟩, hbud⟩ := budget_some x0 x1 x2 h0 h1 h2
  have hok : BudOk n d b := ⟨⟨by omega, by omega⟩, ⟨by omega, by omega⟩, by omega, by omega⟩
  have hbd := prod_bd hok.2.1 hok.2.2
  have hF : Hid (∀ W, _) := fun W => fill_any n d b W
  rw [show fillO n d b = ((b : Int) * d, 0) from if_pos hok] at hF
  have P : Hid (_ ∧ BudOk n d b) := ⟨hbud, hok⟩
  have hS : Hid (∀ (k : Nat) W, k < b → Calls Try.prog 15 #[budV n d b, bktV ((b : Int) * d - k * d)] W fun r w' => r = .returned (.tuple #[bktV ((b : Int) * d - (k + 1 : Nat) * d), .int .i64 0]) ∧ Below W.heap.size W w') := by
    refine fun (k : Nat) (W : World) hk => ?_
    have hm : (k + 1 : Int) * d ≤ (b : Int) * d := Int.mul_le_mul_of_nonneg_right (by omega) (by omega)
    have hm0 : 0 ≤ (k : Int) * d := Int.mul_nonneg (by omega) (by omega)
    rw [Int.add_mul, Int.one_mul] at hm
    have := spend_any n d b ((b : Int) * d - k * d) W
    rw [spend_fine hok (by omega) (by omega)] at this
    rwa [show (b : Int) * d - (k + 1 : Nat) * d = (b : Int) * d - k * d - d by rw [Int.natCast_add, Int.add_mul]; omega]
  have hS2 : Hid (∀ W, Calls Try.prog 15 #[budV n d b, bktV 0] W fun r w' => r = .returned (.tuple #[bktV 0, .int .i64 11]) ∧ Below W.heap.size W w') := by
    refine fun (W : World) => ?_
    have := spend_any n d b 0 W
    rwa [spend_few hok (by omega) (by omega) (by omega)] at this
  obtain ⟨m, hm⟩ : ∃ m, m = (b : Int) * d := ⟨_, rfl⟩
  rw [← hm] at hF hS hbd
  have HM : Hid _ := hm
  clear hbud hok h0 h1 h2 hm
  go_enter Try.func8, Try.ntmps8
  go_wp2_with fail
  refine (P.out.1 _).mono ?_
  rintro r w1 ⟨rfl, hb1⟩
  have H1 : Hid _ := hb1
  clear hb1
  go_wp2_with fail
  obtain ⟨W1, hW1⟩ : ∃ W1, W1 = w1.alloc (.cells #[.int .i64 n, .int .i64 d, .int .i64 b] 23) := ⟨_, rfl⟩
  rw [← hW1]
  refine (hF.out _).mono ?_
  rintro r w2 ⟨rfl, hb2⟩
  rw [hW1] at hb2
  have HG : Hid (Gh w (w2.alloc (.cells #[.int .i64 m] 28)) w1.heap.size w2.heap.size n d b m) := Gh.new H1.out hb2
  clear hb2 hW1 W1 H1 hF
  obtain ⟨g, hg⟩ : ∃ g, g = w1.heap.size := ⟨_, rfl⟩
  rw [← hg] at HG ⊢
  clear hg
  go_wp2
  obtain ⟨h, hh⟩ : ∃ h, h = w2.heap.size := ⟨_, rfl⟩
  rw [← hh] at HG ⊢
  generalize (w2.alloc (.cells #[.int .i64 m] 28)) = W3 at *
  clear hh
  go_loopw [10] (fun i wr => ∃ k : Nat, i = .int .i64 k ∧ k ≤ b ∧ Gh w wr g h n d b (m - k * d)) (fun i _ => b - (intOf i).toNat)
  case atStart => exact ⟨0, rfl, Nat.zero_le _, by simpa using HG.out⟩
  case round =>
    obtain ⟨k, rfl, hk, hG⟩ := hrel
    obtain ⟨c0, c1, c2, c3, f3, l1, l2⟩ := hG.cells
    have HK : Hid (Gh _ _ _ _ _ _ _ _) := hG
    clear hG
    by_cases hlt : k < b
    · have hltI : (k : Int) < (b : Int) := by omega
      go_wp2_with fail
      refine (hS.out k _ hlt).mono ?_
      rintro r w4 ⟨rfl, hb4⟩
      have hG4 := HK.out.below hb4
      clear c0 c1 c2 c3 f3 l1 l2 hb4 HK
      obtain ⟨c0, c1, c2, c3, f3, l1, l2⟩ := hG4.cells
      have HK : Hid (Gh _ _ _ _ _ _ _ _) := hG4
      clear hG4
      obtain ⟨y, hy⟩ : ∃ y, y = m - ((k + 1 : Nat) : Int) * d := ⟨_, rfl⟩
      rw [← hy]
      have HY : Hid _ := hy
      clear hy
      go_wp2
      go_roundw
      case rel => exact ⟨k + 1, by simp, hlt, by rw [← HY.out]; exact (HK.out.set y).alloc _⟩
      case measure => simp [intOf]; omega
    · obtain rfl : k = b := by omega
      rw [show m - (k : Int) * d = 0 by rw [HM.out]; omega] at c3
      clear HM
      go_wp2_with fail
      refine (hS2.out _).mono ?_
      rintro r w4 ⟨rfl, hb4⟩
      have c4 := (hb4.cell (p := ⟨h, 0, none⟩) l2).trans c3
      have l4 : h < w4.heap.size := Nat.lt_of_lt_of_le l2 hb4.size
      have HB : Hid _ := HK.out.2.2.2.trans (hb4.mono HK.out.2.2.2.size)
      clear c0 c1 c2 c3 f3 l1 l2 hb4 HK
      go_wp2
      go_ret
      exact ⟨rfl, HB.out.alloc HB.out.size _⟩
end Go.Proofs.Ytleeoncaiiilgaa.Walks
