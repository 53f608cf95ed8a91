/-
  BucketSteady: earning for each flow pays for each spending, where Num is not below Den. No condition.
-/
import Derived.Test.YtleeoncaiiilgabBudget
import Derived.WalkKit
import Derived.ProofKit
import Derived.Handy
import Derived.LoopTactic
import Derived.Below
import Derived.Laws.BitsAllLaws
import Derived.RegionTactic
import Derived.Deep.RegionHeld3
import Derived.Deep.DrawnRows
import Derived.Deep.AppendLies
import Derived.Laws.OwnMore
import Derived.Deep.Onto
import Derived.Deep.QuietTactic
import Derived.BigQuiet
namespace Go.Proofs.Ytleeoncaiiilgab.Walks
open Go.RowKit
set_option linter.unusedVariables false
set_option linter.unusedSimpArgs false
attribute [local go_sem ↓] Go.wp_at_zero Go.wp_at_succ

set_option maxHeartbeats 8000000 in
set_option maxRecDepth 100000 in
theorem steady_law (x0 : Int) (h0 : (Lit.int .i64 x0).wf = true) (x1 : Int) (h1 : (Lit.int .i64 x1).wf = true) (x2 : Int) (h2 : (Lit.int .i64 x2).wf = true) (x3 : Int) (h3 : (Lit.int .i64 x3).wf = true) (w : World) :
    Calls Try.prog 3 #[.int .i64 x0, .int .i64 x1, .int .i64 x2, .int .i64 x3] w fun e w' => e = .returned (.bool true) ∧ Below w.heap.size w w' := by
  obtain ⟨n, d, b, ⟨hn, hd, hb⟩, hbud⟩ := budget_some x0 x1 x2 h0 h1 h2
  obtain ⟨t, ht, hpick⟩ := picked_some x3 50 h3 (by omega) (by omega)
  have P : Hid (_ ∧ _) := ⟨hbud, hpick⟩
  clear hbud hpick h0 h1 h2 h3
  by_cases hb1 : 1 < b
  · have hbI : (1 : Int) < (b : Int) := by omega
    by_cases hnd : n < d
    · have hndI : (n : Int) < (d : Int) := by omega
      obtain ⟨m, hm⟩ : ∃ m, m = (b : Int) * (d : Int) := ⟨_, rfl⟩
      have hok : BudOk (d : Int) d (b : Int) := ⟨⟨by omega, by omega⟩, ⟨by omega, by omega⟩, by omega, by omega⟩
      have hbd := prod_bd hok.2.1 hok.2.2
      have hmB : (b : Int) * (d : Int) = m := hm.symm
      have hdm : (d : Int) ≤ m := by rw [hm]; have := Int.mul_le_mul_of_nonneg_right (show (1 : Int) ≤ (b : Int) by omega) (show (0 : Int) ≤ (d : Int) by omega); omega
      rw [hmB] at hbd
      have HF : Hid (∀ W, Calls Try.prog 6 #[budV (d : Int) d (b : Int)] W fun r w' => r = .returned (.tuple #[bktV m, .int .i64 0]) ∧ Below W.heap.size W w') := by
        refine fun (W : World) => ?_
        have := fill_any (d : Int) d (b : Int) W
        rwa [show fillO (d : Int) d (b : Int) = ((b : Int) * (d : Int), 0) from if_pos hok, hmB] at this
      have HS : Hid (∀ W, Calls Try.prog 8 #[budV (d : Int) d (b : Int), bktV m] W fun r w' => r = .returned (.tuple #[bktV (m - d), .int .i64 0]) ∧ Below W.heap.size W w') := by
        refine fun (W : World) => ?_
        have := spend_any (d : Int) d (b : Int) m W
        rwa [spend_fine hok hdm (by rw [hmB]; exact Int.le_refl _)] at this
      have HE : Hid (∀ W, Calls Try.prog 9 #[budV (d : Int) d (b : Int), bktV (m - d)] W fun r w' => r = .returned (.tuple #[bktV m, .int .i64 0]) ∧ Below W.heap.size W w') := by
        refine fun (W : World) => ?_
        have := earn_any (d : Int) d (b : Int) (m - d) W
        rwa [earn_fine hok (by omega) (by rw [hmB]; omega), hmB, show min (m - (d : Int) + (d : Int)) m = m by omega] at this
      clear hok
      clear hm
      go_enter Try.func3, Try.ntmps3
      go_wp2_with fail
      refine (P.out.1 _).mono ?_
      rintro r w1 ⟨rfl, hb1⟩
      have H1 : Hid _ := hb1
      clear hb1
      go_wp2_with fail
      refine (HF.out _).mono ?_
      rintro r w2 ⟨rfl, hb2⟩
      have HG : Hid (Gh w (w2.alloc (.cells #[.int .i64 m] 26)) w1.heap.size w2.heap.size (d : Int) d (b : Int) m) := Gh.new H1.out hb2
      clear hb2 H1 HF
      obtain ⟨g, hg⟩ : ∃ g, g = w1.heap.size := ⟨_, rfl⟩
      rw [← hg] at HG ⊢
      clear hg
      go_wp2
      obtain ⟨h, hh⟩ : ∃ h, h = w2.heap.size := ⟨_, rfl⟩
      rw [← hh] at HG ⊢
      generalize (w2.alloc (.cells #[.int .i64 m] 26)) = W3 at *
      clear hh
      go_loopw [12] (fun i wr => ∃ k : Nat, i = .int .i64 k ∧ k ≤ t ∧ Gh w wr g h (d : Int) d (b : Int) m) (fun i _ => t - (intOf i).toNat)
      case atStart => exact ⟨0, rfl, Nat.zero_le _, HG.out⟩
      case round =>
        obtain ⟨k, rfl, hk, hG⟩ := hrel
        obtain ⟨c0, c1, c2, c3, f3, l1, l2⟩ := hG.cells
        have HK : Hid (Gh _ _ _ _ _ _ _ _) := hG
        clear hG
        go_wp2_with fail
        refine (P.out.2 _).mono ?_
        rintro r wr ⟨rfl, rfl⟩
        by_cases hlt : k < t
        · have hltI : (k : Int) < (t : Int) := by omega
          go_wp2_with fail
          refine (HS.out _).mono ?_
          rintro r w4 ⟨rfl, hb4⟩
          have hG4 := HK.out.below hb4
          clear c0 c1 c2 c3 f3 l1 l2 hb4 HK
          obtain ⟨c0, c1, c2, c3, f3, l1, l2⟩ := hG4.cells
          have HK : Hid (Gh _ _ _ _ _ _ _ _) := hG4
          clear hG4
          go_wp2_with fail
          refine (HE.out _).mono ?_
          rintro r w5 ⟨rfl, hb5⟩
          have hG5 := (HK.out.alloc _).below hb5
          clear c0 c1 c2 c3 f3 l1 l2 hb5 HK
          obtain ⟨c0, c1, c2, c3, f3, l1, l2⟩ := hG5.cells
          have HK : Hid (Gh _ _ _ _ _ _ _ _) := hG5
          clear hG5
          go_wp2
          go_roundw
          case rel => exact ⟨k + 1, by simp, hlt, (HK.out.set m).alloc _⟩
          case measure => simp [intOf]; omega
        · have hltI : ¬ ((k : Int) < (t : Int)) := by omega
          have HB : Hid _ := HK.out.2.2.2
          clear HK
          go_wp2
          go_ret
          exact ⟨rfl, HB.out⟩
    · have hndI : ¬ ((n : Int) < (d : Int)) := by omega
      obtain ⟨m, hm⟩ : ∃ m, m = (b : Int) * (d : Int) := ⟨_, rfl⟩
      have hok : BudOk (n : Int) d (b : Int) := ⟨⟨by omega, by omega⟩, ⟨by omega, by omega⟩, by omega, by omega⟩
      have hbd := prod_bd hok.2.1 hok.2.2
      have hmB : (b : Int) * (d : Int) = m := hm.symm
      have hdm : (d : Int) ≤ m := by rw [hm]; have := Int.mul_le_mul_of_nonneg_right (show (1 : Int) ≤ (b : Int) by omega) (show (0 : Int) ≤ (d : Int) by omega); omega
      rw [hmB] at hbd
      have HF : Hid (∀ W, Calls Try.prog 6 #[budV (n : Int) d (b : Int)] W fun r w' => r = .returned (.tuple #[bktV m, .int .i64 0]) ∧ Below W.heap.size W w') := by
        refine fun (W : World) => ?_
        have := fill_any (n : Int) d (b : Int) W
        rwa [show fillO (n : Int) d (b : Int) = ((b : Int) * (d : Int), 0) from if_pos hok, hmB] at this
      have HS : Hid (∀ W, Calls Try.prog 8 #[budV (n : Int) d (b : Int), bktV m] W fun r w' => r = .returned (.tuple #[bktV (m - d), .int .i64 0]) ∧ Below W.heap.size W w') := by
        refine fun (W : World) => ?_
        have := spend_any (n : Int) d (b : Int) m W
        rwa [spend_fine hok hdm (by rw [hmB]; exact Int.le_refl _)] at this
      have HE : Hid (∀ W, Calls Try.prog 9 #[budV (n : Int) d (b : Int), bktV (m - d)] W fun r w' => r = .returned (.tuple #[bktV m, .int .i64 0]) ∧ Below W.heap.size W w') := by
        refine fun (W : World) => ?_
        have := earn_any (n : Int) d (b : Int) (m - d) W
        rwa [earn_fine hok (by omega) (by rw [hmB]; omega), hmB, show min (m - (d : Int) + (n : Int)) m = m by omega] at this
      clear hok
      clear hm
      go_enter Try.func3, Try.ntmps3
      go_wp2_with fail
      refine (P.out.1 _).mono ?_
      rintro r w1 ⟨rfl, hb1⟩
      have H1 : Hid _ := hb1
      clear hb1
      go_wp2_with fail
      refine (HF.out _).mono ?_
      rintro r w2 ⟨rfl, hb2⟩
      have HG : Hid (Gh w (w2.alloc (.cells #[.int .i64 m] 26)) w1.heap.size w2.heap.size (n : Int) d (b : Int) m) := Gh.new H1.out hb2
      clear hb2 H1 HF
      obtain ⟨g, hg⟩ : ∃ g, g = w1.heap.size := ⟨_, rfl⟩
      rw [← hg] at HG ⊢
      clear hg
      go_wp2
      obtain ⟨h, hh⟩ : ∃ h, h = w2.heap.size := ⟨_, rfl⟩
      rw [← hh] at HG ⊢
      generalize (w2.alloc (.cells #[.int .i64 m] 26)) = W3 at *
      clear hh
      go_loopw [12] (fun i wr => ∃ k : Nat, i = .int .i64 k ∧ k ≤ t ∧ Gh w wr g h (n : Int) d (b : Int) m) (fun i _ => t - (intOf i).toNat)
      case atStart => exact ⟨0, rfl, Nat.zero_le _, HG.out⟩
      case round =>
        obtain ⟨k, rfl, hk, hG⟩ := hrel
        obtain ⟨c0, c1, c2, c3, f3, l1, l2⟩ := hG.cells
        have HK : Hid (Gh _ _ _ _ _ _ _ _) := hG
        clear hG
        go_wp2_with fail
        refine (P.out.2 _).mono ?_
        rintro r wr ⟨rfl, rfl⟩
        by_cases hlt : k < t
        · have hltI : (k : Int) < (t : Int) := by omega
          go_wp2_with fail
          refine (HS.out _).mono ?_
          rintro r w4 ⟨rfl, hb4⟩
          have hG4 := HK.out.below hb4
          clear c0 c1 c2 c3 f3 l1 l2 hb4 HK
          obtain ⟨c0, c1, c2, c3, f3, l1, l2⟩ := hG4.cells
          have HK : Hid (Gh _ _ _ _ _ _ _ _) := hG4
          clear hG4
          go_wp2_with fail
          refine (HE.out _).mono ?_
          rintro r w5 ⟨rfl, hb5⟩
          have hG5 := (HK.out.alloc _).below hb5
          clear c0 c1 c2 c3 f3 l1 l2 hb5 HK
          obtain ⟨c0, c1, c2, c3, f3, l1, l2⟩ := hG5.cells
          have HK : Hid (Gh _ _ _ _ _ _ _ _) := hG5
          clear hG5
          go_wp2
          go_roundw
          case rel => exact ⟨k + 1, by simp, hlt, (HK.out.set m).alloc _⟩
          case measure => simp [intOf]; omega
        · have hltI : ¬ ((k : Int) < (t : Int)) := by omega
          have HB : Hid _ := HK.out.2.2.2
          clear HK
          go_wp2
          go_ret
          exact ⟨rfl, HB.out⟩
  rcases (by omega : b = 0 ∨ b = 1) with rfl | rfl
  · rw [show ((0 : Nat) : Int) = 0 from rfl] at P
    by_cases hnd : n < d
    · have hndI : (n : Int) < (d : Int) := by omega
      obtain ⟨m, hm⟩ : ∃ m, m = (d : Int) := ⟨_, rfl⟩
      have hok : BudOk (d : Int) d 1 := ⟨⟨by omega, by omega⟩, ⟨by omega, by omega⟩, by omega, by omega⟩
      have hbd := prod_bd hok.2.1 hok.2.2
      have hmB : 1 * (d : Int) = m := by rw [hm]; simp
      have hdm : (d : Int) ≤ m := by rw [hm]; exact Int.le_refl _
      rw [hmB] at hbd
      have HF : Hid (∀ W, Calls Try.prog 6 #[budV (d : Int) d 1] W fun r w' => r = .returned (.tuple #[bktV m, .int .i64 0]) ∧ Below W.heap.size W w') := by
        refine fun (W : World) => ?_
        have := fill_any (d : Int) d 1 W
        rwa [show fillO (d : Int) d 1 = (1 * (d : Int), 0) from if_pos hok, hmB] at this
      have HS : Hid (∀ W, Calls Try.prog 8 #[budV (d : Int) d 1, bktV m] W fun r w' => r = .returned (.tuple #[bktV (m - d), .int .i64 0]) ∧ Below W.heap.size W w') := by
        refine fun (W : World) => ?_
        have := spend_any (d : Int) d 1 m W
        rwa [spend_fine hok hdm (by rw [hmB]; exact Int.le_refl _)] at this
      have HE : Hid (∀ W, Calls Try.prog 9 #[budV (d : Int) d 1, bktV (m - d)] W fun r w' => r = .returned (.tuple #[bktV m, .int .i64 0]) ∧ Below W.heap.size W w') := by
        refine fun (W : World) => ?_
        have := earn_any (d : Int) d 1 (m - d) W
        rwa [earn_fine hok (by omega) (by rw [hmB]; omega), hmB, show min (m - (d : Int) + (d : Int)) m = m by omega] at this
      clear hok
      clear hmB
      subst hm
      rw [Int.sub_self] at HS HE
      go_enter Try.func3, Try.ntmps3
      go_wp2_with fail
      refine (P.out.1 _).mono ?_
      rintro r w1 ⟨rfl, hb1⟩
      have H1 : Hid _ := hb1
      clear hb1
      go_wp2_with fail
      refine (HF.out _).mono ?_
      rintro r w2 ⟨rfl, hb2⟩
      have HG : Hid (Gh w (w2.alloc (.cells #[.int .i64 (d : Int)] 26)) w1.heap.size w2.heap.size (d : Int) d 1 (d : Int)) := Gh.new H1.out hb2
      clear hb2 H1 HF
      obtain ⟨g, hg⟩ : ∃ g, g = w1.heap.size := ⟨_, rfl⟩
      rw [← hg] at HG ⊢
      clear hg
      go_wp2
      obtain ⟨h, hh⟩ : ∃ h, h = w2.heap.size := ⟨_, rfl⟩
      rw [← hh] at HG ⊢
      generalize (w2.alloc (.cells #[.int .i64 (d : Int)] 26)) = W3 at *
      clear hh
      go_loopw [12] (fun i wr => ∃ k : Nat, i = .int .i64 k ∧ k ≤ t ∧ Gh w wr g h (d : Int) d 1 (d : Int)) (fun i _ => t - (intOf i).toNat)
      case atStart => exact ⟨0, rfl, Nat.zero_le _, HG.out⟩
      case round =>
        obtain ⟨k, rfl, hk, hG⟩ := hrel
        obtain ⟨c0, c1, c2, c3, f3, l1, l2⟩ := hG.cells
        have HK : Hid (Gh _ _ _ _ _ _ _ _) := hG
        clear hG
        go_wp2_with fail
        refine (P.out.2 _).mono ?_
        rintro r wr ⟨rfl, rfl⟩
        by_cases hlt : k < t
        · have hltI : (k : Int) < (t : Int) := by omega
          go_wp2_with fail
          refine (HS.out _).mono ?_
          rintro r w4 ⟨rfl, hb4⟩
          have hG4 := HK.out.below hb4
          clear c0 c1 c2 c3 f3 l1 l2 hb4 HK
          obtain ⟨c0, c1, c2, c3, f3, l1, l2⟩ := hG4.cells
          have HK : Hid (Gh _ _ _ _ _ _ _ _) := hG4
          clear hG4
          go_wp2_with fail
          refine (HE.out _).mono ?_
          rintro r w5 ⟨rfl, hb5⟩
          have hG5 := (HK.out.alloc _).below hb5
          clear c0 c1 c2 c3 f3 l1 l2 hb5 HK
          obtain ⟨c0, c1, c2, c3, f3, l1, l2⟩ := hG5.cells
          have HK : Hid (Gh _ _ _ _ _ _ _ _) := hG5
          clear hG5
          go_wp2
          go_roundw
          case rel => exact ⟨k + 1, by simp, hlt, (HK.out.set (d : Int)).alloc _⟩
          case measure => simp [intOf]; omega
        · have hltI : ¬ ((k : Int) < (t : Int)) := by omega
          have HB : Hid _ := HK.out.2.2.2
          clear HK
          go_wp2
          go_ret
          exact ⟨rfl, HB.out⟩
    · have hndI : ¬ ((n : Int) < (d : Int)) := by omega
      obtain ⟨m, hm⟩ : ∃ m, m = (d : Int) := ⟨_, rfl⟩
      have hok : BudOk (n : Int) d 1 := ⟨⟨by omega, by omega⟩, ⟨by omega, by omega⟩, by omega, by omega⟩
      have hbd := prod_bd hok.2.1 hok.2.2
      have hmB : 1 * (d : Int) = m := by rw [hm]; simp
      have hdm : (d : Int) ≤ m := by rw [hm]; exact Int.le_refl _
      rw [hmB] at hbd
      have HF : Hid (∀ W, Calls Try.prog 6 #[budV (n : Int) d 1] W fun r w' => r = .returned (.tuple #[bktV m, .int .i64 0]) ∧ Below W.heap.size W w') := by
        refine fun (W : World) => ?_
        have := fill_any (n : Int) d 1 W
        rwa [show fillO (n : Int) d 1 = (1 * (d : Int), 0) from if_pos hok, hmB] at this
      have HS : Hid (∀ W, Calls Try.prog 8 #[budV (n : Int) d 1, bktV m] W fun r w' => r = .returned (.tuple #[bktV (m - d), .int .i64 0]) ∧ Below W.heap.size W w') := by
        refine fun (W : World) => ?_
        have := spend_any (n : Int) d 1 m W
        rwa [spend_fine hok hdm (by rw [hmB]; exact Int.le_refl _)] at this
      have HE : Hid (∀ W, Calls Try.prog 9 #[budV (n : Int) d 1, bktV (m - d)] W fun r w' => r = .returned (.tuple #[bktV m, .int .i64 0]) ∧ Below W.heap.size W w') := by
        refine fun (W : World) => ?_
        have := earn_any (n : Int) d 1 (m - d) W
        rwa [earn_fine hok (by omega) (by rw [hmB]; omega), hmB, show min (m - (d : Int) + (n : Int)) m = m by omega] at this
      clear hok
      clear hmB
      subst hm
      rw [Int.sub_self] at HS HE
      go_enter Try.func3, Try.ntmps3
      go_wp2_with fail
      refine (P.out.1 _).mono ?_
      rintro r w1 ⟨rfl, hb1⟩
      have H1 : Hid _ := hb1
      clear hb1
      go_wp2_with fail
      refine (HF.out _).mono ?_
      rintro r w2 ⟨rfl, hb2⟩
      have HG : Hid (Gh w (w2.alloc (.cells #[.int .i64 (d : Int)] 26)) w1.heap.size w2.heap.size (n : Int) d 1 (d : Int)) := Gh.new H1.out hb2
      clear hb2 H1 HF
      obtain ⟨g, hg⟩ : ∃ g, g = w1.heap.size := ⟨_, rfl⟩
      rw [← hg] at HG ⊢
      clear hg
      go_wp2
      obtain ⟨h, hh⟩ : ∃ h, h = w2.heap.size := ⟨_, rfl⟩
      rw [← hh] at HG ⊢
      generalize (w2.alloc (.cells #[.int .i64 (d : Int)] 26)) = W3 at *
      clear hh
      go_loopw [12] (fun i wr => ∃ k : Nat, i = .int .i64 k ∧ k ≤ t ∧ Gh w wr g h (n : Int) d 1 (d : Int)) (fun i _ => t - (intOf i).toNat)
      case atStart => exact ⟨0, rfl, Nat.zero_le _, HG.out⟩
      case round =>
        obtain ⟨k, rfl, hk, hG⟩ := hrel
        obtain ⟨c0, c1, c2, c3, f3, l1, l2⟩ := hG.cells
        have HK : Hid (Gh _ _ _ _ _ _ _ _) := hG
        clear hG
        go_wp2_with fail
        refine (P.out.2 _).mono ?_
        rintro r wr ⟨rfl, rfl⟩
        by_cases hlt : k < t
        · have hltI : (k : Int) < (t : Int) := by omega
          go_wp2_with fail
          refine (HS.out _).mono ?_
          rintro r w4 ⟨rfl, hb4⟩
          have hG4 := HK.out.below hb4
          clear c0 c1 c2 c3 f3 l1 l2 hb4 HK
          obtain ⟨c0, c1, c2, c3, f3, l1, l2⟩ := hG4.cells
          have HK : Hid (Gh _ _ _ _ _ _ _ _) := hG4
          clear hG4
          go_wp2_with fail
          refine (HE.out _).mono ?_
          rintro r w5 ⟨rfl, hb5⟩
          have hG5 := (HK.out.alloc _).below hb5
          clear c0 c1 c2 c3 f3 l1 l2 hb5 HK
          obtain ⟨c0, c1, c2, c3, f3, l1, l2⟩ := hG5.cells
          have HK : Hid (Gh _ _ _ _ _ _ _ _) := hG5
          clear hG5
          go_wp2
          go_roundw
          case rel => exact ⟨k + 1, by simp, hlt, (HK.out.set (d : Int)).alloc _⟩
          case measure => simp [intOf]; omega
        · have hltI : ¬ ((k : Int) < (t : Int)) := by omega
          have HB : Hid _ := HK.out.2.2.2
          clear HK
          go_wp2
          go_ret
          exact ⟨rfl, HB.out⟩
  · rw [show ((1 : Nat) : Int) = 1 from rfl] at P
    by_cases hnd : n < d
    · have hndI : (n : Int) < (d : Int) := by omega
      obtain ⟨m, hm⟩ : ∃ m, m = (d : Int) := ⟨_, rfl⟩
      have hok : BudOk (d : Int) d 1 := ⟨⟨by omega, by omega⟩, ⟨by omega, by omega⟩, by omega, by omega⟩
      have hbd := prod_bd hok.2.1 hok.2.2
      have hmB : 1 * (d : Int) = m := by rw [hm]; simp
      have hdm : (d : Int) ≤ m := by rw [hm]; exact Int.le_refl _
      rw [hmB] at hbd
      have HF : Hid (∀ W, Calls Try.prog 6 #[budV (d : Int) d 1] W fun r w' => r = .returned (.tuple #[bktV m, .int .i64 0]) ∧ Below W.heap.size W w') := by
        refine fun (W : World) => ?_
        have := fill_any (d : Int) d 1 W
        rwa [show fillO (d : Int) d 1 = (1 * (d : Int), 0) from if_pos hok, hmB] at this
      have HS : Hid (∀ W, Calls Try.prog 8 #[budV (d : Int) d 1, bktV m] W fun r w' => r = .returned (.tuple #[bktV (m - d), .int .i64 0]) ∧ Below W.heap.size W w') := by
        refine fun (W : World) => ?_
        have := spend_any (d : Int) d 1 m W
        rwa [spend_fine hok hdm (by rw [hmB]; exact Int.le_refl _)] at this
      have HE : Hid (∀ W, Calls Try.prog 9 #[budV (d : Int) d 1, bktV (m - d)] W fun r w' => r = .returned (.tuple #[bktV m, .int .i64 0]) ∧ Below W.heap.size W w') := by
        refine fun (W : World) => ?_
        have := earn_any (d : Int) d 1 (m - d) W
        rwa [earn_fine hok (by omega) (by rw [hmB]; omega), hmB, show min (m - (d : Int) + (d : Int)) m = m by omega] at this
      clear hok
      clear hmB
      subst hm
      rw [Int.sub_self] at HS HE
      go_enter Try.func3, Try.ntmps3
      go_wp2_with fail
      refine (P.out.1 _).mono ?_
      rintro r w1 ⟨rfl, hb1⟩
      have H1 : Hid _ := hb1
      clear hb1
      go_wp2_with fail
      refine (HF.out _).mono ?_
      rintro r w2 ⟨rfl, hb2⟩
      have HG : Hid (Gh w (w2.alloc (.cells #[.int .i64 (d : Int)] 26)) w1.heap.size w2.heap.size (d : Int) d 1 (d : Int)) := Gh.new H1.out hb2
      clear hb2 H1 HF
      obtain ⟨g, hg⟩ : ∃ g, g = w1.heap.size := ⟨_, rfl⟩
      rw [← hg] at HG ⊢
      clear hg
      go_wp2
      obtain ⟨h, hh⟩ : ∃ h, h = w2.heap.size := ⟨_, rfl⟩
      rw [← hh] at HG ⊢
      generalize (w2.alloc (.cells #[.int .i64 (d : Int)] 26)) = W3 at *
      clear hh
      go_loopw [12] (fun i wr => ∃ k : Nat, i = .int .i64 k ∧ k ≤ t ∧ Gh w wr g h (d : Int) d 1 (d : Int)) (fun i _ => t - (intOf i).toNat)
      case atStart => exact ⟨0, rfl, Nat.zero_le _, HG.out⟩
      case round =>
        obtain ⟨k, rfl, hk, hG⟩ := hrel
        obtain ⟨c0, c1, c2, c3, f3, l1, l2⟩ := hG.cells
        have HK : Hid (Gh _ _ _ _ _ _ _ _) := hG
        clear hG
        go_wp2_with fail
        refine (P.out.2 _).mono ?_
        rintro r wr ⟨rfl, rfl⟩
        by_cases hlt : k < t
        · have hltI : (k : Int) < (t : Int) := by omega
          go_wp2_with fail
          refine (HS.out _).mono ?_
          rintro r w4 ⟨rfl, hb4⟩
          have hG4 := HK.out.below hb4
          clear c0 c1 c2 c3 f3 l1 l2 hb4 HK
          obtain ⟨c0, c1, c2, c3, f3, l1, l2⟩ := hG4.cells
          have HK : Hid (Gh _ _ _ _ _ _ _ _) := hG4
          clear hG4
          go_wp2_with fail
          refine (HE.out _).mono ?_
          rintro r w5 ⟨rfl, hb5⟩
          have hG5 := (HK.out.alloc _).below hb5
          clear c0 c1 c2 c3 f3 l1 l2 hb5 HK
          obtain ⟨c0, c1, c2, c3, f3, l1, l2⟩ := hG5.cells
          have HK : Hid (Gh _ _ _ _ _ _ _ _) := hG5
          clear hG5
          go_wp2
          go_roundw
          case rel => exact ⟨k + 1, by simp, hlt, (HK.out.set (d : Int)).alloc _⟩
          case measure => simp [intOf]; omega
        · have hltI : ¬ ((k : Int) < (t : Int)) := by omega
          have HB : Hid _ := HK.out.2.2.2
          clear HK
          go_wp2
          go_ret
          exact ⟨rfl, HB.out⟩
    · have hndI : ¬ ((n : Int) < (d : Int)) := by omega
      obtain ⟨m, hm⟩ : ∃ m, m = (d : Int) := ⟨_, rfl⟩
      have hok : BudOk (n : Int) d 1 := ⟨⟨by omega, by omega⟩, ⟨by omega, by omega⟩, by omega, by omega⟩
      have hbd := prod_bd hok.2.1 hok.2.2
      have hmB : 1 * (d : Int) = m := by rw [hm]; simp
      have hdm : (d : Int) ≤ m := by rw [hm]; exact Int.le_refl _
      rw [hmB] at hbd
      have HF : Hid (∀ W, Calls Try.prog 6 #[budV (n : Int) d 1] W fun r w' => r = .returned (.tuple #[bktV m, .int .i64 0]) ∧ Below W.heap.size W w') := by
        refine fun (W : World) => ?_
        have := fill_any (n : Int) d 1 W
        rwa [show fillO (n : Int) d 1 = (1 * (d : Int), 0) from if_pos hok, hmB] at this
      have HS : Hid (∀ W, Calls Try.prog 8 #[budV (n : Int) d 1, bktV m] W fun r w' => r = .returned (.tuple #[bktV (m - d), .int .i64 0]) ∧ Below W.heap.size W w') := by
        refine fun (W : World) => ?_
        have := spend_any (n : Int) d 1 m W
        rwa [spend_fine hok hdm (by rw [hmB]; exact Int.le_refl _)] at this
      have HE : Hid (∀ W, Calls Try.prog 9 #[budV (n : Int) d 1, bktV (m - d)] W fun r w' => r = .returned (.tuple #[bktV m, .int .i64 0]) ∧ Below W.heap.size W w') := by
        refine fun (W : World) => ?_
        have := earn_any (n : Int) d 1 (m - d) W
        rwa [earn_fine hok (by omega) (by rw [hmB]; omega), hmB, show min (m - (d : Int) + (n : Int)) m = m by omega] at this
      clear hok
      clear hmB
      subst hm
      rw [Int.sub_self] at HS HE
      go_enter Try.func3, Try.ntmps3
      go_wp2_with fail
      refine (P.out.1 _).mono ?_
      rintro r w1 ⟨rfl, hb1⟩
      have H1 : Hid _ := hb1
      clear hb1
      go_wp2_with fail
      refine (HF.out _).mono ?_
      rintro r w2 ⟨rfl, hb2⟩
      have HG : Hid (Gh w (w2.alloc (.cells #[.int .i64 (d : Int)] 26)) w1.heap.size w2.heap.size (n : Int) d 1 (d : Int)) := Gh.new H1.out hb2
      clear hb2 H1 HF
      obtain ⟨g, hg⟩ : ∃ g, g = w1.heap.size := ⟨_, rfl⟩
      rw [← hg] at HG ⊢
      clear hg
      go_wp2
      obtain ⟨h, hh⟩ : ∃ h, h = w2.heap.size := ⟨_, rfl⟩
      rw [← hh] at HG ⊢
      generalize (w2.alloc (.cells #[.int .i64 (d : Int)] 26)) = W3 at *
      clear hh
      go_loopw [12] (fun i wr => ∃ k : Nat, i = .int .i64 k ∧ k ≤ t ∧ Gh w wr g h (n : Int) d 1 (d : Int)) (fun i _ => t - (intOf i).toNat)
      case atStart => exact ⟨0, rfl, Nat.zero_le _, HG.out⟩
      case round =>
        obtain ⟨k, rfl, hk, hG⟩ := hrel
        obtain ⟨c0, c1, c2, c3, f3, l1, l2⟩ := hG.cells
        have HK : Hid (Gh _ _ _ _ _ _ _ _) := hG
        clear hG
        go_wp2_with fail
        refine (P.out.2 _).mono ?_
        rintro r wr ⟨rfl, rfl⟩
        by_cases hlt : k < t
        · have hltI : (k : Int) < (t : Int) := by omega
          go_wp2_with fail
          refine (HS.out _).mono ?_
          rintro r w4 ⟨rfl, hb4⟩
          have hG4 := HK.out.below hb4
          clear c0 c1 c2 c3 f3 l1 l2 hb4 HK
          obtain ⟨c0, c1, c2, c3, f3, l1, l2⟩ := hG4.cells
          have HK : Hid (Gh _ _ _ _ _ _ _ _) := hG4
          clear hG4
          go_wp2_with fail
          refine (HE.out _).mono ?_
          rintro r w5 ⟨rfl, hb5⟩
          have hG5 := (HK.out.alloc _).below hb5
          clear c0 c1 c2 c3 f3 l1 l2 hb5 HK
          obtain ⟨c0, c1, c2, c3, f3, l1, l2⟩ := hG5.cells
          have HK : Hid (Gh _ _ _ _ _ _ _ _) := hG5
          clear hG5
          go_wp2
          go_roundw
          case rel => exact ⟨k + 1, by simp, hlt, (HK.out.set (d : Int)).alloc _⟩
          case measure => simp [intOf]; omega
        · have hltI : ¬ ((k : Int) < (t : Int)) := by omega
          have HB : Hid _ := HK.out.2.2.2
          clear HK
          go_wp2
          go_ret
          exact ⟨rfl, HB.out⟩
end Go.Proofs.Ytleeoncaiiilgab.Walks
