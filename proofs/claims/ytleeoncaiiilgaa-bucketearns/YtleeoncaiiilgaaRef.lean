/-
  The document's answers: BudgetFault, bucketFault, Filled, Earned, Spent. No condition.
-/
import Derived.Test.YtleeoncaiiilgaaBucket
import Derived.WalkKit
import Derived.ProofKit
import Derived.Handy
import Derived.LoopTactic
import Derived.Below
import Derived.Laws.BitsAllLaws
import Derived.RegionTactic
import Derived.Deep.RegionHeld3
import Derived.Deep.DrawnRows
import Derived.Deep.AppendLies
import Derived.Laws.OwnMore
import Derived.Deep.Onto
import Derived.Deep.QuietTactic
import Derived.BigQuiet
namespace Go.Proofs.Ytleeoncaiiilgaa.Walks
open Go.RowKit
set_option linter.unusedVariables false
set_option linter.unusedSimpArgs false
attribute [local go_sem ↓] Go.wp_at_zero Go.wp_at_succ

theorem chk_of {n d b : Int} (h : chkE n d b = 0) : BudOk n d b := by
  unfold chkE at h
  split at h
  · assumption
  · cases h

set_option maxHeartbeats 2000000 in
theorem budget_fault (n d b : Int) (w : World) : Calls Try.prog 10 #[budV n d b] w fun r w' => r = .returned (.int .i64 (chkE n d b)) ∧ Below w.heap.size w w' := by
  obtain ⟨W0, hW0⟩ : ∃ W0, W0 = w.alloc (.cells #[.int .i64 n, .int .i64 d, .int .i64 b] 23) := ⟨_, rfl⟩
  have hB0 : W0.heap[w.heap.size]? = some (.cells #[.int .i64 n, .int .i64 d, .int .i64 b] 23 (0, 0)) := by rw [hW0]; exact heap_alloc_new _ _
  have hb0 : Below w.heap.size w W0 := by rw [hW0]; exact below_new _
  obtain ⟨c0, c1, c2, _⟩ := three_cells hB0
  have H : Hid (_ ∧ _) := ⟨hW0, hb0⟩
  clear hW0 hb0 hB0
  cases h1 : decide (0 ≤ n ∧ n ≤ 20)
  · have E : Hid (chkE n d b = 2) := if_neg fun h => of_decide_eq_false h1 h.1
    go_enter Try.func10, Try.ntmps10
    go_wp2_with fail
    rw [← H.out.1]
    refine (in_any _ _ _ _).mono ?_
    rintro e w' ⟨rfl, rfl⟩
    rw [h1]
    go_wp2
    go_ret
    exact ⟨by rw [E.out]; rfl, H.out.2⟩
  cases h3 : decide (1 ≤ d ∧ d ≤ 20)
  · have E : Hid (chkE n d b = 2) := if_neg fun h => of_decide_eq_false h3 h.2.1
    go_enter Try.func10, Try.ntmps10
    go_wp2_with fail
    rw [← H.out.1]
    refine (in_any _ _ _ _).mono ?_
    rintro e w' ⟨rfl, rfl⟩
    rw [h1]
    go_wp2_with fail
    refine (in_any _ _ _ _).mono ?_
    rintro e w' ⟨rfl, rfl⟩
    rw [h3]
    go_wp2
    go_ret
    exact ⟨by rw [E.out]; rfl, H.out.2⟩
  cases h2 : decide (0 ≤ b ∧ b ≤ 20)
  · have E : Hid (chkE n d b = 2) := if_neg fun h => of_decide_eq_false h2 h.2.2
    go_enter Try.func10, Try.ntmps10
    go_wp2_with fail
    rw [← H.out.1]
    refine (in_any _ _ _ _).mono ?_
    rintro e w' ⟨rfl, rfl⟩
    rw [h1]
    go_wp2_with fail
    refine (in_any _ _ _ _).mono ?_
    rintro e w' ⟨rfl, rfl⟩
    rw [h3]
    go_wp2_with fail
    refine (in_any _ _ _ _).mono ?_
    rintro e w' ⟨rfl, rfl⟩
    rw [h2]
    go_wp2
    go_ret
    exact ⟨by rw [E.out]; rfl, H.out.2⟩
  · have E : Hid (chkE n d b = 0) := if_pos ⟨of_decide_eq_true h1, of_decide_eq_true h3, of_decide_eq_true h2⟩
    go_enter Try.func10, Try.ntmps10
    go_wp2_with fail
    rw [← H.out.1]
    refine (in_any _ _ _ _).mono ?_
    rintro e w' ⟨rfl, rfl⟩
    rw [h1]
    go_wp2_with fail
    refine (in_any _ _ _ _).mono ?_
    rintro e w' ⟨rfl, rfl⟩
    rw [h3]
    go_wp2_with fail
    refine (in_any _ _ _ _).mono ?_
    rintro e w' ⟨rfl, rfl⟩
    rw [h2]
    go_wp2
    go_ret
    exact ⟨by rw [E.out]; rfl, H.out.2⟩

set_option maxHeartbeats 4000000 in
theorem bucket_fault (n d b x : Int) (w : World) : Calls Try.prog 22 #[budV n d b, bktV x] w fun r w' => r = .returned (.int .i64 (bothE n d b x)) ∧ Below w.heap.size w w' := by
  obtain ⟨W0, hW0⟩ : ∃ W0, W0 = (w.alloc (.cells #[.int .i64 n, .int .i64 d, .int .i64 b] 23)).alloc (.cells #[.int .i64 x] 28) := ⟨_, rfl⟩
  have hX0 : Bx w W0 n d b x := by rw [hW0]; exact bx_new _ _ _ _ _
  obtain ⟨c0, c1, c2, c3⟩ := hX0.cells
  have H : Hid (_ ∧ Bx _ _ _ _ _ _) := ⟨hW0, hX0⟩
  clear hW0 hX0
  go_enter Try.func22, Try.ntmps22
  go_wp2_with fail
  rw [← H.out.1]
  refine (budget_fault n d b _).mono ?_
  rintro r w1 ⟨rfl, hb1⟩
  have hX1 := H.out.2.below hb1
  clear c0 c1 c2 c3 hb1 H
  obtain ⟨c0, c1, c2, c3⟩ := hX1.cells
  have HB : Hid _ := hX1.2.2
  clear hX1
  by_cases hok : BudOk n d b
  · rw [chk_yes hok]
    obtain ⟨m1, m2⟩ := prod_bd hok.2.1 hok.2.2
    have E : Hid (bothE n d b x = if 0 ≤ x ∧ x ≤ b * d then 0 else 6) := if_pos hok
    clear hok
    obtain ⟨m, hm⟩ : ∃ m, m = b * d := ⟨_, rfl⟩
    have hmul : b * d = m := hm.symm
    clear hm
    rw [hmul] at m1 m2 E
    cases h1 : decide (0 ≤ x ∧ x ≤ m)
    · have E2 : Hid (bothE n d b x = 6) := (by rw [E.out, if_neg (of_decide_eq_false h1)] : bothE n d b x = 6)
      clear E
      go_wp2_with fail
      refine (in_any _ _ _ _).mono ?_
      rintro e w' ⟨rfl, rfl⟩
      rw [h1]
      go_wp2
      go_ret
      exact ⟨by rw [E2.out]; rfl, HB.out⟩
    · have E2 : Hid (bothE n d b x = 0) := (by rw [E.out, if_pos (of_decide_eq_true h1)] : bothE n d b x = 0)
      clear E
      go_wp2_with fail
      refine (in_any _ _ _ _).mono ?_
      rintro e w' ⟨rfl, rfl⟩
      rw [h1]
      go_wp2
      go_ret
      exact ⟨by rw [E2.out]; rfl, HB.out⟩
  · rw [chk_no hok]
    have E2 : Hid (bothE n d b x = 2) := if_neg hok
    clear hok
    go_wp2
    go_ret
    exact ⟨by rw [E2.out]; rfl, HB.out⟩

set_option maxHeartbeats 4000000 in
theorem filled_any (n d b : Int) (w : World) : Calls Try.prog 12 #[budV n d b] w fun r w' => r = .returned (.tuple #[bktV (fillO n d b).1, .int .i64 (fillO n d b).2]) ∧ Below w.heap.size w w' := by
  obtain ⟨W0, hW0⟩ : ∃ W0, W0 = (w.alloc (.cells #[.int .i64 n, .int .i64 d, .int .i64 b] 23)).alloc (.cells #[.int .i64 0] 28) := ⟨_, rfl⟩
  have hX0 : Bx w W0 n d b 0 := by rw [hW0]; exact bx_new _ _ _ _ _
  obtain ⟨c0, c1, c2, c3⟩ := hX0.cells
  have H : Hid (_ ∧ Bx _ _ _ _ _ _) := ⟨hW0, hX0⟩
  clear hW0 hX0
  go_enter Try.func12, Try.ntmps12
  go_wp2_with fail
  rw [← H.out.1]
  refine (budget_fault n d b _).mono ?_
  rintro r w1 ⟨rfl, hb1⟩
  have hX1 := H.out.2.below hb1
  clear c0 c1 c2 c3 hb1 H
  obtain ⟨c0, c1, c2, c3⟩ := hX1.cells
  obtain ⟨_, f3, _⟩ := one_cells hX1.2.1
  have HX : Hid (Bx _ _ _ _ _ _) := hX1
  clear hX1
  by_cases hok : BudOk n d b
  · rw [chk_yes hok]
    have E : Hid (fillO n d b = (b * d, 0)) := if_pos hok
    obtain ⟨m1, m2⟩ := prod_bd hok.2.1 hok.2.2
    clear hok
    go_wp2
    exact bodyPost_ret (v := .tuple #[bktV (b * d), .int .i64 0]) (results_ct Try.results12 rfl rfl (load_row (P := Try.prog) (cs := [.int .i64 (b * d)]) (one_set HX.out.2.1) Try.underlying28 rfl (by kernel_rfl))) rfl ⟨by rw [E.out], HX.out.2.2.setCell (by simp) _⟩
  · rw [chk_no hok]
    have E : Hid (fillO n d b = (0, 2)) := if_neg hok
    clear hok
    go_wp2
    exact bodyPost_ret (v := .tuple #[bktV 0, .int .i64 2]) (results_ct Try.results12 rfl rfl (load_row (P := Try.prog) (cs := [.int .i64 0]) (one_set HX.out.2.1) Try.underlying28 rfl (by kernel_rfl))) rfl ⟨by rw [E.out], HX.out.2.2.setCell (by simp) _⟩

set_option maxHeartbeats 4000000 in
theorem spent_any (n d b x : Int) (w : World) : Calls Try.prog 16 #[budV n d b, bktV x] w fun r w' => r = .returned (.tuple #[bktV (spendO n d b x).1, .int .i64 (spendO n d b x).2]) ∧ Below w.heap.size w w' := by
  obtain ⟨W0, hW0⟩ : ∃ W0, W0 = ((w.alloc (.cells #[.int .i64 n, .int .i64 d, .int .i64 b] 23)).alloc (.cells #[.int .i64 x] 28)).alloc (.cells #[.int .i64 0] 28) := ⟨_, rfl⟩
  have hX0 : By w W0 n d b x 0 := by rw [hW0]; exact by_new _ _ _ _ _ _
  obtain ⟨c0, c1, c2, c3⟩ := hX0.1.cells
  have H : Hid (_ ∧ By _ _ _ _ _ _ _) := ⟨hW0, hX0⟩
  clear hW0 hX0
  go_enter Try.func16, Try.ntmps16
  go_wp2_with fail
  rw [← H.out.1]
  refine (bucket_fault n d b x _).mono ?_
  rintro r w1 ⟨rfl, hb1⟩
  have hX1 := H.out.2.below hb1
  clear c0 c1 c2 c3 hb1 H
  obtain ⟨c0, c1, c2, c3⟩ := hX1.1.cells
  obtain ⟨c4, f4, _⟩ := one_cells hX1.2
  have HX : Hid (By _ _ _ _ _ _ _) := hX1
  clear hX1
  rcases both_cases n d b x with ⟨hE, _⟩ | ⟨hE, _⟩ | ⟨hE, hok, hx0, hx1⟩
  · have E : Hid (spendO n d b x = (0, 2)) := spend_no 2 hE (by decide)
    rw [hE]
    clear hE
    go_wp2
    exact bodyPost_ret (v := .tuple #[bktV 0, .int .i64 2]) ((HX.out.set 0).res Try.results16 rfl rfl) rfl ⟨by rw [E.out], (HX.out.set 0).1.2.2⟩
  · have E : Hid (spendO n d b x = (0, 6)) := spend_no 6 hE (by decide)
    rw [hE]
    clear hE
    go_wp2
    exact bodyPost_ret (v := .tuple #[bktV 0, .int .i64 6]) ((HX.out.set 0).res Try.results16 rfl rfl) rfl ⟨by rw [E.out], (HX.out.set 0).1.2.2⟩
  · have hx2 := prod_bd hok.2.1 hok.2.2
    have hd := hok.2.1
    have hx3 : x ≤ 400 := by omega
    cases hc : decide (x - d < 0)
    · have E : Hid (spendO n d b x = (x - d, 0)) := spend_ok hE (by have := of_decide_eq_false hc; omega)
      rw [hE]
      clear hE hok hx1 hx2
      go_wp2
      exact bodyPost_ret (v := .tuple #[bktV (x - d), .int .i64 0]) ((HX.out.set (x - d)).res Try.results16 rfl rfl) rfl ⟨by rw [E.out], (HX.out.set (x - d)).1.2.2⟩
    · have E : Hid (spendO n d b x = (0, 11)) := spend_busy hE (by have := of_decide_eq_true hc; omega)
      rw [hE]
      clear hE hok hx1 hx2
      go_wp2
      exact bodyPost_ret (v := .tuple #[bktV 0, .int .i64 11]) ((HX.out.set 0).res Try.results16 rfl rfl) rfl ⟨by rw [E.out], (HX.out.set 0).1.2.2⟩

set_option maxHeartbeats 4000000 in
theorem earned_any (n d b x : Int) (w : World) : Calls Try.prog 14 #[budV n d b, bktV x] w fun r w' => r = .returned (.tuple #[bktV (earnO n d b x).1, .int .i64 (earnO n d b x).2]) ∧ Below w.heap.size w w' := by
  obtain ⟨W0, hW0⟩ : ∃ W0, W0 = ((w.alloc (.cells #[.int .i64 n, .int .i64 d, .int .i64 b] 23)).alloc (.cells #[.int .i64 x] 28)).alloc (.cells #[.int .i64 0] 28) := ⟨_, rfl⟩
  have hX0 : By w W0 n d b x 0 := by rw [hW0]; exact by_new _ _ _ _ _ _
  obtain ⟨c0, c1, c2, c3⟩ := hX0.1.cells
  have H : Hid (_ ∧ By _ _ _ _ _ _ _) := ⟨hW0, hX0⟩
  clear hW0 hX0
  go_enter Try.func14, Try.ntmps14
  go_wp2_with fail
  rw [← H.out.1]
  refine (bucket_fault n d b x _).mono ?_
  rintro r w1 ⟨rfl, hb1⟩
  have hX1 := H.out.2.below hb1
  clear c0 c1 c2 c3 hb1 H
  obtain ⟨c0, c1, c2, c3⟩ := hX1.1.cells
  obtain ⟨c4, f4, _⟩ := one_cells hX1.2
  have HX : Hid (By _ _ _ _ _ _ _) := hX1
  clear hX1
  rcases both_cases n d b x with ⟨hE, _⟩ | ⟨hE, _⟩ | ⟨hE, hok, hx0, hx1⟩
  · have E : Hid (earnO n d b x = (0, 2)) := earn_no 2 hE (by decide)
    rw [hE]
    clear hE
    go_wp2
    exact bodyPost_ret (v := .tuple #[bktV 0, .int .i64 2]) ((HX.out.set 0).res Try.results14 rfl rfl) rfl ⟨by rw [E.out], (HX.out.set 0).1.2.2⟩
  · have E : Hid (earnO n d b x = (0, 6)) := earn_no 6 hE (by decide)
    rw [hE]
    clear hE
    go_wp2
    exact bodyPost_ret (v := .tuple #[bktV 0, .int .i64 6]) ((HX.out.set 0).res Try.results14 rfl rfl) rfl ⟨by rw [E.out], (HX.out.set 0).1.2.2⟩
  · obtain ⟨m1, m2⟩ := prod_bd hok.2.1 hok.2.2
    have hn := hok.1
    have E : Hid (earnO n d b x = (min (x + n) (b * d), 0)) := earn_ok hE
    rw [hE]
    clear hE hok
    obtain ⟨m, hm⟩ : ∃ m, m = b * d := ⟨_, rfl⟩
    have hmul : b * d = m := hm.symm
    clear hm
    rw [hmul] at m1 m2 E hx1
    obtain ⟨N, rfl⟩ := Int.eq_ofNat_of_zero_le hn.1
    have hN : N ≤ 20 := by omega
    clear hn c0 c1 c2 c3 c4 f4
    go_wp2
    go_loopw [7] (fun i wr => ∃ (k : Nat) (y : Int), i = .int .i64 k ∧ k ≤ N ∧ y = min (x + k) m ∧ By w wr N d b y 0) (fun i _ => N - (intOf i).toNat)
    case atStart => exact ⟨0, x, rfl, Nat.zero_le _, by simp; omega, HX.out⟩
    case round =>
      obtain ⟨k, y, rfl, hk, hy, hX⟩ := hrel
      obtain ⟨c0, c1, c2, c3⟩ := hX.1.cells
      obtain ⟨c4, f4, _⟩ := one_cells hX.2
      have f3 := (one_cells hX.1.2.1).2.1
      have HY : Hid (By _ _ _ _ _ _ _) := hX
      clear hX
      by_cases hlt : k < N
      · have hltI : (k : Int) < (N : Int) := by omega
        have hy0 : y ≤ 400 := by omega
        have hy1 : 0 ≤ y := by omega
        cases hc : decide (y < m)
        · have hS : Hid (y = min (x + (k + 1 : Nat)) m) := (by have := of_decide_eq_false hc; omega : y = min (x + (k + 1 : Nat)) m)
          clear hy
          go_wp2
          go_roundw
          case rel => exact ⟨k + 1, y, by simp, hlt, hS.out, HY.out⟩
          case measure => simp [intOf]; omega
        · have hS : Hid (y + 1 = min (x + (k + 1 : Nat)) m) := (by have := of_decide_eq_true hc; omega : y + 1 = min (x + (k + 1 : Nat)) m)
          clear hy
          go_wp2
          go_roundw
          case rel => exact ⟨k + 1, y + 1, by simp, hlt, hS.out, HY.out.setX (y + 1)⟩
          case measure => simp [intOf]; omega
      · obtain rfl : k = N := by omega
        have E2 : Hid (earnO k d b x = (y, 0)) := (by rw [E.out, hy] : earnO k d b x = (y, 0))
        clear E hy
        go_wp2
        exact bodyPost_ret (v := .tuple #[bktV y, .int .i64 0]) ((HY.out.set y).res Try.results14 rfl rfl) rfl ⟨by rw [E2.out], (HY.out.set y).1.2.2⟩
end Go.Proofs.Ytleeoncaiiilgaa.Walks
