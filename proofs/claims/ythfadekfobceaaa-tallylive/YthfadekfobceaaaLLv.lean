/-
  TallyLive: the law's walk. No condition.
-/
import Derived.Test.YthfadekfobceaaaLBy
import Derived.Test.YthfadekfobceaaaOf
import Derived.WalkKit
import Derived.ProofKit
import Derived.Handy
import Derived.LoopTactic
import Derived.Below
import Derived.Laws.BitsAllLaws
import Derived.RegionTactic
import Derived.Deep.RegionHeld3
import Derived.Deep.DrawnRows
import Derived.Deep.AppendLies
import Derived.Laws.OwnMore
import Derived.Deep.Onto
import Derived.Deep.QuietTactic
import Derived.BigQuiet
namespace Go.Proofs.Ythfadekfobceaaa.Walks
open Go.RowKit
set_option linter.unusedVariables false
set_option linter.unusedSimpArgs false
attribute [local go_sem ↓] Go.wp_at_zero Go.wp_at_succ

def acc (i : Nat) : Ou := ⟨1, i, 0, (i % 12 : Nat), 0, 0, 0⟩

def res (c i : Nat) : Ou := ⟨if i < c then 7 else 6, i, 0, (i % 12 : Nat), 0, 0, 0⟩

def lstA (n : Nat) : List Ou := (List.range n).map acc

def lst (n m c : Nat) : List Ou := lstA n ++ (List.range m).map (res c)

theorem lstA_succ (n : Nat) : lstA (n + 1) = lstA n ++ [acc n] := by simp [lstA, List.range_succ]

theorem lst_succ (n m c : Nat) : lst n (m + 1) c = lst n m c ++ [res c m] := by simp [lst, List.range_succ]

theorem lstA_len (n : Nat) : (lstA n).length = n := by simp [lstA]

theorem lst_len (n m c : Nat) : (lst n m c).length = n + m := by simp [lst, lstA]

theorem not_fits {o p : Ou} (h : ¬ p.slot = o.slot) : (!fits o p) = true := by
  cases e : fits o p
  · rfl
  · exact absurd (fits_iff.1 e).1 h

theorem badB_be {o : Ou} (i : Nat) (h : o.be = ((i % 12 : Nat) : Int)) : badB o = false := by
  have := Nat.mod_lt i (show 0 < 12 by omega)
  unfold badB
  rw [h, decide_eq_false (by omega), decide_eq_false (by omega)]
  rfl

theorem lasts_A : ∀ n, lasts (lstA n) = lstA n
  | 0 => rfl
  | n + 1 => by
    rw [lstA_succ, lasts_snoc_up _ (by simp [isUp, acc]), lasts_A n, List.filter_eq_self.2]
    intro p hp
    obtain ⟨i, hi, rfl⟩ := List.mem_map.1 hp
    have := List.mem_range.1 hi
    exact not_fits (by simp only [acc]; omega)

theorem res_down (c m : Nat) : isUp (res c m) = false ∧ isDown (res c m) = true := by
  unfold res
  by_cases h : m < c <;> simp [isUp, isDown, h]

theorem lasts_lst (n c : Nat) : ∀ m, m ≤ n → lasts (lst n m c) = (List.range' m (n - m)).map acc
  | 0, _ => by
    have : lst n 0 c = lstA n := by simp [lst]
    rw [this, lasts_A, lstA, List.range_eq_range']
    rfl
  | m + 1, hm => by
    rw [lst_succ, lasts_snoc_down _ (res_down c m).1 (res_down c m).2, lasts_lst n c m (by omega)]
    rw [show n - m = (n - (m + 1)) + 1 by omega, List.range'_succ, List.map_cons, List.filter_cons]
    have h1 : fits (res c m) (acc m) = true := by simp [fits, res, acc]
    rw [if_neg (by simp [h1]), List.filter_eq_self.2]
    intro p hp
    obtain ⟨i, hi, rfl⟩ := List.mem_map.1 hp
    have := List.mem_range'_1.1 hi
    exact not_fits (by simp only [acc, res]; omega)

theorem lst_ok (n m c : Nat) : anyBad (lst n m c) = false ∧ anyBadB (lst n m c) = false := by
  have key : ∀ o ∈ lst n m c, badO o = false ∧ badB o = false := by
    intro o ho
    unfold lst lstA at ho
    rcases List.mem_append.1 ho with h | h
    · obtain ⟨i, hi, rfl⟩ := List.mem_map.1 h
      exact ⟨rfl, badB_be i rfl⟩
    · obtain ⟨i, hi, rfl⟩ := List.mem_map.1 h
      refine ⟨?_, badB_be i rfl⟩
      unfold res
      by_cases h2 : i < c
      · rw [if_pos h2]; rfl
      · rw [if_neg h2]; rfl
  constructor
  · exact List.any_eq_false.2 fun o ho => by rw [(key o ho).1]; simp
  · exact List.any_eq_false.2 fun o ho => by rw [(key o ho).2]; simp

theorem lst_live (n m c : Nat) (hm : m ≤ n) : liveO (lst n m c) = ((n : Int) - m, 0) := by
  have hA : ∀ n j, cntAt (lstA n) j = if j = 1 then n else 0 := by
    intro n j
    induction n with
    | zero => simp [lstA, cntAt]
    | succ n ih =>
      rw [lstA_succ, cntAt_snoc, ih]
      by_cases h : j = 1
      · subst h
        simp [hit, acc]
      · have : hit (acc n) j = false := by
          unfold hit acc
          split
          · simp
            omega
          · simp
        rw [if_neg h, if_neg h, this]
        rfl
  have h1 : cntAt (lst n m c) 1 = n := by
    induction m with
    | zero => simpa [lst] using hA n 1
    | succ m ih =>
      rw [lst_succ, cntAt_snoc, ih (by omega)]
      have : hit (res c m) 1 = false := by
        unfold hit res
        by_cases h : m < c <;> simp [h]
      rw [this]
      rfl
  have h67 : cntAt (lst n m c) 6 + cntAt (lst n m c) 7 = m := by
    clear h1
    induction m with
    | zero => simpa [lst] using And.intro (hA n 6) (hA n 7)
    | succ m ih =>
      rw [lst_succ, cntAt_snoc, cntAt_snoc]
      have := ih (by omega)
      unfold hit res
      by_cases h : m < c
      · simp [h]
        omega
      · simp [h]
        omega
  unfold liveO
  rw [(lst_ok n m c).1]
  have hl : liveN (lst n m c) = (n : Int) - m := by unfold liveN; omega
  rw [hl]
  rw [if_neg Bool.false_ne_true, if_neg (by omega)]

theorem lst_by (n m c : Nat) (hm : m ≤ n) : byO (lst n m c) = (byL (lst n m c), 0) ∧ sumB (lasts (lst n m c)) 12 = n - m ∧ sumB (lasts (lst n m c)) 0 = 0 := by
  refine ⟨?_, ?_, ?_⟩
  · unfold byO
    rw [(lst_ok n m c).1, (lst_ok n m c).2]
    rfl
  · rw [lasts_lst n c m hm]
    have : sumB ((List.range' m (n - m)).map acc) 12 = ((List.range' m (n - m)).map acc).length := by
      unfold sumB
      rw [List.countP_eq_length]
      intro o ho
      obtain ⟨i, hi, rfl⟩ := List.mem_map.1 ho
      have := Nat.mod_lt i (show 0 < 12 by omega)
      exact decide_eq_true (by simp only [acc]; omega)
    rw [this]
    simp
  · unfold sumB
    rw [List.countP_eq_zero]
    intro o ho
    rw [lasts_lst n c m hm] at ho
    obtain ⟨i, hi, rfl⟩ := List.mem_map.1 ho
    have := Nat.mod_lt i (show 0 < 12 by omega)
    rw [decide_eq_true_iff]
    simp only [acc]
    omega

theorem lst_wf (n m c : Nat) (hn : n ≤ 1000) (hm : m ≤ 1000) : ∀ o ∈ lst n m c, OuWf o := by
  intro o ho u hu
  unfold lst lstA at ho
  rcases List.mem_append.1 ho with h | h
  · obtain ⟨i, hi, rfl⟩ := List.mem_map.1 h
    have := List.mem_range.1 hi
    simp only [acc, List.mem_cons, List.not_mem_nil, or_false] at hu
    rcases hu with rfl | rfl | rfl | rfl | rfl | rfl | rfl <;> exact wf_small (by omega) (by omega)
  · obtain ⟨i, hi, rfl⟩ := List.mem_map.1 h
    have := List.mem_range.1 hi
    have hk : (res c i).kind = 7 ∨ (res c i).kind = 6 := by unfold res; by_cases h2 : i < c <;> simp [h2]
    simp only [List.mem_cons, List.not_mem_nil, or_false] at hu
    rcases hu with rfl | rfl | rfl | rfl | rfl | rfl | rfl
    · exact wf_small (by omega) (by omega)
    all_goals exact wf_small (by simp only [res]; omega) (by simp only [res]; omega)

theorem live7 : liveO [⟨7, 0, 0, 0, 0, 0, 0⟩] = (0, 6) := by decide

set_option maxHeartbeats 8000000 in
set_option maxRecDepth 100000 in
theorem tallyLive_row (a0 : Int) (w0 : (Lit.int .i64 a0).wf = true) (a1 : Int) (w1 : (Lit.int .i64 a1).wf = true) (a2 : Int) (w2 : (Lit.int .i64 a2).wf = true) (w : World) :
    Calls Try.prog 10 #[.int .i64 a0, .int .i64 a1, .int .i64 a2] w fun r w' => r = .returned (.bool true) ∧ Below w.heap.size w w' := by
  obtain ⟨n, hn, p0⟩ := picked_some a0 20 w0 (by omega) (by omega)
  obtain ⟨m, hm, p1⟩ := picked_some a1 (n + 1) w1 (by omega) (by omega)
  obtain ⟨c, hc, p2⟩ := picked_some a2 20 w2 (by omega) (by omega)
  have hp1 : ∀ W, Calls Try.prog 23 #[.int .i64 a1, .int .i64 ((n : Int) + 1)] W fun r w' => r = .returned (.int .i64 (m : Int)) ∧ w' = W := p1
  have HP : Hid (_ ∧ _ ∧ _) := ⟨p0, hp1, p2⟩
  clear p0 p1 hp1 p2 w0 w1 w2
  go_enter Try.func10, Try.ntmps10
  go_wp2_with fail
  refine (HP.out.1 _).mono ?_
  rintro r w1 ⟨rfl, rfl⟩
  go_wp2_with fail
  refine (HP.out.2.1 _).mono ?_
  rintro r w1 ⟨rfl, rfl⟩
  go_wp2
  go_loopw [9, 10] (fun o t wr => ∃ (k c' : Nat) (p' : Option Addr), t = .int .i64 k ∧ o = .slice p' k c' ∧ k ≤ n ∧ Below w1.heap.size w1 wr ∧ wr.ownsRow w1.heap.size 48 7 (.slice p' k c') k (rv ouV (lstA k))) (fun _ t _ => n - (intOf t).toNat)
  case atStart => exact ⟨0, 0, none, rfl, rfl, Nat.zero_le _, Below.refl _ _, World.ownsRow_nil _ _ _ _⟩
  case round =>
    obtain ⟨k, c', p', rfl, rfl, hk, hb, ho⟩ := hrel
    by_cases hlt : k < n
    · have hkI : (k : Int) < (n : Int) := by omega
      obtain ⟨g2, c2, w4, hr, ho4, hg4, hlies⟩ := append_oneV ou7 ou1 (by decide) Try.underlying22 infoOu rfl ho hb.size 22 (acc k) #[.int .i64 1, .int .i64 (k : Int), .int .i64 0, .int .i64 ((k % 12 : Nat) : Int), .int .i64 0, .int .i64 0, .int .i64 0] rfl (by omega) (by unfold maxLen; omega)
      have hb4 : Below w1.heap.size w1 w4 := hb.grown hg4 hb.size (fun j hj => (ho.lt j hj).1)
      rw [← lstA_succ] at ho4
      have H4 : Hid (_ ∧ _ ∧ _) := ⟨hr, ho4, hb4⟩
      clear hr ho4 hb4 hg4 hlies hb ho
      go_wp2_with (at_builtin; (with_reducible refine wpList_append_eq rfl _ _ 22 rfl (.slice p' k c') (.slice (some ⟨wr.heap.size, 0, none⟩) 1 1) (.slice (some ⟨g2, 0, none⟩) (k + 1) c2) w4 ?hs ?hx ?hr ?_); (case hs => rfl); (case hx => rfl); (case hr => exact H4.out.1))
      go_roundw
      case rel => exact ⟨k + 1, c2, some ⟨g2, 0, none⟩, by simp, rfl, hlt, H4.out.2.2, H4.out.2.1⟩
      case measure => simp [intOf]; omega
    · have hkd : ¬ ((k : Int) < (n : Int)) := by omega
      have hkn : k = n := by omega
      have hmn : m ≤ n := by omega
      have ho0 : wr.ownsRow w1.heap.size 48 7 (.slice p' k c') k (rv ouV (lst n 0 c)) := by
        rw [show lst n 0 c = lstA k by simp [lst, hkn]]
        exact ho
      have H0 : Hid (_ ∧ _ ∧ _) := ⟨ho0, hb, hkn⟩
      clear ho ho0 hb hkn
      go_wp2
      go_loopw [9, 11] (fun o t wr => ∃ (j j2 c' : Nat) (p' : Option Addr), t = .int .i64 j ∧ o = .slice p' j2 c' ∧ Hid (j2 = n + j) ∧ j ≤ m ∧ Below w1.heap.size w1 wr ∧ wr.ownsRow w1.heap.size 48 7 (.slice p' j2 c') j2 (rv ouV (lst n j c))) (fun _ t _ => m - (intOf t).toNat)
      case atStart => exact ⟨0, k, c', p', rfl, rfl, H0.out.2.2, Nat.zero_le _, H0.out.2.1, H0.out.1⟩
      case round =>
        obtain ⟨j, j2, c3, p3, rfl, rfl, hj2, hj, hb, ho⟩ := hrel
        by_cases hlt2 : j < m
        · have hjI : (j : Int) < (m : Int) := by omega
          have hj40 : j2 ≤ 40 := by rw [hj2.out]; omega
          by_cases hjc : j < c
          · have hcI : (j : Int) < (c : Int) := by omega
            have hres : res c j = ⟨7, (j : Int), 0, ((j % 12 : Nat) : Int), 0, 0, 0⟩ := by unfold res; rw [if_pos hjc]
            obtain ⟨g2, c2, w4, hr, ho4, hg4, hlies⟩ := append_oneV ou7 ou1 (by decide) Try.underlying22 infoOu rfl ho hb.size 22 (res c j) #[.int .i64 7, .int .i64 (j : Int), .int .i64 0, .int .i64 ((j % 12 : Nat) : Int), .int .i64 0, .int .i64 0, .int .i64 0] (by rw [hres]) (by omega) (by unfold maxLen; omega)
            have hb4 : Below w1.heap.size w1 w4 := hb.grown hg4 hb.size (fun j hj => (ho.lt j hj).1)
            rw [← lst_succ] at ho4
            have H4 : Hid (_ ∧ _ ∧ _ ∧ _) := ⟨hr, ho4, hb4, hj2.out⟩
            clear hr ho4 hb4 hg4 hlies hb ho hres hj2 hjc
            go_wp2_with fail
            refine (HP.out.2.2 _).mono ?_
            rintro r w5 ⟨rfl, rfl⟩
            go_wp2_with (at_builtin; (with_reducible refine wpList_append_eq rfl _ _ 22 rfl (.slice p3 j2 c3) (.slice (some ⟨w5.heap.size, 0, none⟩) 1 1) (.slice (some ⟨g2, 0, none⟩) (j2 + 1) c2) w4 ?hs ?hx ?hr ?_); (case hs => rfl); (case hx => rfl); (case hr => exact H4.out.1))
            go_roundw
            case rel => exact ⟨j + 1, j2 + 1, c2, some ⟨g2, 0, none⟩, by simp, rfl, by show _ = _; rw [H4.out.2.2.2]; rfl, hlt2, H4.out.2.2.1, H4.out.2.1⟩
            case measure => simp [intOf]; omega
          · have hcI : ¬ ((j : Int) < (c : Int)) := by omega
            have hres : res c j = ⟨6, (j : Int), 0, ((j % 12 : Nat) : Int), 0, 0, 0⟩ := by unfold res; rw [if_neg hjc]
            obtain ⟨g2, c2, w4, hr, ho4, hg4, hlies⟩ := append_oneV ou7 ou1 (by decide) Try.underlying22 infoOu rfl ho hb.size 22 (res c j) #[.int .i64 6, .int .i64 (j : Int), .int .i64 0, .int .i64 ((j % 12 : Nat) : Int), .int .i64 0, .int .i64 0, .int .i64 0] (by rw [hres]) (by omega) (by unfold maxLen; omega)
            have hb4 : Below w1.heap.size w1 w4 := hb.grown hg4 hb.size (fun j hj => (ho.lt j hj).1)
            rw [← lst_succ] at ho4
            have H4 : Hid (_ ∧ _ ∧ _ ∧ _) := ⟨hr, ho4, hb4, hj2.out⟩
            clear hr ho4 hb4 hg4 hlies hb ho hres hj2 hjc
            go_wp2_with fail
            refine (HP.out.2.2 _).mono ?_
            rintro r w5 ⟨rfl, rfl⟩
            go_wp2_with (at_builtin; (with_reducible refine wpList_append_eq rfl _ _ 22 rfl (.slice p3 j2 c3) (.slice (some ⟨w5.heap.size, 0, none⟩) 1 1) (.slice (some ⟨g2, 0, none⟩) (j2 + 1) c2) w4 ?hs ?hx ?hr ?_); (case hs => rfl); (case hx => rfl); (case hr => exact H4.out.1))
            go_roundw
            case rel => exact ⟨j + 1, j2 + 1, c2, some ⟨g2, 0, none⟩, by simp, rfl, by show _ = _; rw [H4.out.2.2.2]; rfl, hlt2, H4.out.2.2.1, H4.out.2.1⟩
            case measure => simp [intOf]; omega
        · have hjd : ¬ ((j : Int) < (m : Int)) := by omega
          have hjm : j = m := by omega
          have hj2' : (lst n m c).length = j2 := by rw [lst_len, hj2.out, hjm]
          have ho1 : OsAt wr (.slice p3 j2 c3) (lst n m c) := by
            show RowAt _ _ (lst n m c).length _
            rw [hj2', ← hjm]
            exact rowAt_own ho
          have hlv := lst_live n m c hmn
          have hby := lst_by n m c hmn
          have hwf := lst_wf n m c (by omega) (by omega)
          have hll : (lasts (lst n m c)).length ≤ 40 := Nat.le_trans (lasts_len _) (by rw [lst_len]; omega)
          generalize lst n m c = L at ho1 hlv hby hwf hll hj2'
          have H1 : Hid (_ ∧ _ ∧ _ ∧ _ ∧ _ ∧ _) := ⟨ho1, hlv, hby, hwf, hb, hll⟩
          clear ho ho1 hlv hby hwf hb hj2 hj2' hjm hll
          go_wp2_with fail
          refine (live_any _ L _ H1.out.1).mono ?_
          rw [H1.out.2.1]
          rintro r w5 ⟨rfl, hb5⟩
          have H5 : Hid (_ ∧ _) := ⟨H1.out.1.below hb5, H1.out.2.2.2.2.1.trans (hb5.mono H1.out.2.2.2.2.1.size)⟩
          clear hb5
          go_wp2_with fail
          refine (by_any _ L _ H5.out.1 H1.out.2.2.2.1).mono ?_
          rw [H1.out.2.2.1.1]
          rintro r w6 ⟨q2, d2, rfl, h2, hb6⟩
          dsimp only at h2
          have h12 := byL_len L
          have H6 : Hid (_ ∧ _ ∧ _) := ⟨h2, H5.out.2.trans (hb6.mono H5.out.2.size), h12⟩
          dsimp only
          rw [h12]
          clear h2 hb6 h12
          obtain ⟨W7, hW7⟩ : ∃ W7, W7 = w6.alloc (.cells #[.int .i64 7, .int .i64 0, .int .i64 0, .int .i64 0, .int .i64 0, .int .i64 0, .int .i64 0] 48) := ⟨_, rfl⟩
          have hb7 : Below w6.heap.size w6 W7 := by rw [hW7]; exact below_new w6
          have ho7 : OsAt W7 (.slice (some ⟨w6.heap.size, 0, none⟩) 1 1) [⟨7, 0, 0, 0, 0, 0, 0⟩] := by
            refine ⟨_, 1, rfl, Nat.le_refl _, by unfold maxLen; omega, .inr ⟨w6.heap.size, 0, rfl, by rw [hW7]; simp, fun i hi => ?_⟩⟩
            rw [Nat.zero_add, hW7, cell_of_row _ w6.heap.size i _ _ (0, 0) (heap_alloc_new w6 _)]
            simp [rv]
          have H7 : Hid (_ ∧ _ ∧ _) := ⟨ho7, hb7, hW7⟩
          clear ho7 hb7 hW7
          go_wp2_with fail
          rw [← H7.out.2.2]
          refine (live_any _ [⟨7, 0, 0, 0, 0, 0, 0⟩] _ H7.out.1).mono ?_
          rw [live7]
          rintro r w8 ⟨rfl, hb8⟩
          have hb68 := H7.out.2.1.trans (hb8.mono H7.out.2.1.size)
          obtain ⟨a8, cap8, e8, hc8, hm8, pv8⟩ := InAt.parts (H6.out.1.below hb68)
          cases e8
          unfold maxLen at hm8
          rw [H6.out.2.2] at hc8
          have H8 : Hid (_ ∧ _) := ⟨pv8, H6.out.2.1.trans (hb68.mono H6.out.2.1.size)⟩
          clear hb8 hb68 pv8
          go_wp2
          go_loopw [19, 20] (fun sm t wr => ∃ k : Nat, t = .int .i64 k ∧ k ≤ 12 ∧ sm = .int .i64 (sumB (lasts L) k : Nat) ∧ w8 = wr) (fun _ t _ => 12 - (intOf t).toNat)
          case atStart => exact ⟨0, rfl, Nat.zero_le _, by rw [H1.out.2.2.1.2.2]; rfl, rfl⟩
          case round =>
            obtain ⟨k5, rfl, hk5, rfl, rfl⟩ := hrel
            by_cases hlt5 : k5 < 12
            · have hkI : (k5 : Int) < 12 := by omega
              obtain ⟨b2, o2, hp2, hlt6, c2⟩ := H8.out.1 k5 (by rw [H6.out.2.2]; exact hlt5)
              subst hp2
              rw [byL_at L k5 hlt5] at c2
              have hst := sumB_succ k5 (lasts L)
              have hle : sumB (lasts L) (k5 + 1) ≤ 40 := Nat.le_trans List.countP_le_length H1.out.2.2.2.2.2
              rw [hst] at hle
              generalize (lasts L).countP (fun o => o.be == (k5 : Int)) = z at c2 hst hle
              generalize sumB (lasts L) k5 = y at hst hle
              have HS : Hid _ := hst
              clear hst
              go_wp2
              go_roundw
              case rel => exact ⟨k5 + 1, by simp, hlt5, by rw [HS.out]; simp, trivial⟩
              case measure => simp [intOf]; omega
            · have hkd5 : ¬ ((k5 : Int) < 12) := by omega
              have hS : sumB (lasts L) k5 = n - m := by rw [show k5 = 12 by omega]; exact H1.out.2.2.1.2.1
              rw [hS, Int.ofNat_sub hmn]
              clear hS
              go_wp2
              go_ret
              exact ⟨by simp, H8.out.2⟩
end Go.Proofs.Ythfadekfobceaaa.Walks
