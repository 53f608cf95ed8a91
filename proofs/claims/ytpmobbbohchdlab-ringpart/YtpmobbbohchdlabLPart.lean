/-
  RingPart returns true. Condition: the members can be read.
-/
import Derived.Test.YtpmobbbohchdlabRFine
import Derived.Test.YtpmobbbohchdlabCheck
import Derived.Shelf.SlSortCmp.QuietGrown
import Derived.WalkKit
import Derived.ProofKit
import Derived.Handy
import Derived.LoopTactic
import Derived.Below
import Derived.Laws.BitsAllLaws
import Derived.RegionTactic
import Derived.Deep.RegionHeld3
import Derived.Deep.DrawnRows
import Derived.Deep.AppendLies
import Derived.Laws.OwnMore
import Derived.Deep.Onto
import Derived.Deep.QuietTactic
import Derived.BigQuiet
namespace Go.Proofs.Ytpmobbbohchdlab.Walks
open Go.RowKit
set_option linter.unusedVariables false
set_option linter.unusedSimpArgs false
attribute [local go_sem ↓] Go.wp_at_zero Go.wp_at_succ

theorem near_sorted {m : List Tm} (hs : m.Pairwise (fun x y => cmpT x y < 0)) (k : Nat) (hk : k + 1 < m.length) : ¬ m[k + 1].1 < (m[k]'(by omega)).1 := by
  have := List.pairwise_iff_getElem.1 hs k (k + 1) (by omega) hk (by omega)
  rw [cmpT_lt] at this
  omega

theorem spots_in {a : List Int} : ∀ t ∈ spotsOf a, 0 ≤ t.2 ∧ t.2 < 12 := by
  intro t ht
  obtain ⟨b, i, h1, _, rfl⟩ := mem_spotsOf.1 ht
  exact ⟨by simp, by simp only; omega⟩

set_option maxHeartbeats 8000000 in
set_option maxRecDepth 100000 in
theorem ringPart_row (w : World) (v : Value) (l : List Tm) (hv : TmAt w v l) (hwf : ∀ t ∈ l, (Lit.int .i64 t.1).wf = true ∧ (Lit.int .i64 t.2).wf = true) (hl : l.length ≤ 140737488351232 / 16) :
    Calls Try.prog 5 #[v] w fun r w' => r = .returned (.bool true) ∧ Below w.heap.size w w' := by
  obtain ⟨vp, vc, rfl⟩ := hv.form
  have HV : Hid (_ ∧ _) := ⟨hv, hwf⟩
  clear hv hwf hl
  go_enter Try.func5, Try.ntmps5
  go_wp2_with fail
  refine (ringed_any _ l _ HV.out.1 HV.out.2).mono ?_
  rintro r w1 ⟨a, p, c, rfl, ha, ho, hpos, hb1⟩
  obtain ⟨W2, hW2, t1, t2, t3, hR2, hA2, hb2⟩ := begun w w1 a _ ha (rowAt_own ho) hb1
  have hl384 := spotsOf_len ha
  have hg1 := hb1.size
  have hnear := spotsOf_sorted ha
  have hin := spots_in (a := a)
  have hcnt : ∀ b, b < 12 → cnt (spotsOf a) b = wt a b * 4 := fun b hb => cnt_spotsOf a b hb
  have hok := ringOk_spots ha
  obtain ⟨m, hm⟩ : ∃ m, m = spotsOf a := ⟨_, rfl⟩
  rw [← hm] at hR2 hl384 hW2 t1 hpos hnear hin hcnt hok ⊢
  have H1 : Hid (_ ∧ _ ∧ _ ∧ _ ∧ _ ∧ _ ∧ _ ∧ _ ∧ _) := ⟨hb2, hR2, hA2, ha, hpos, hnear, hin, hcnt, hok⟩
  have HB : Hid (_ ∧ _ ∧ _ ∧ _) := ⟨hW2, t1, t2, t3⟩
  clear ha ho hpos hb1 hW2 t1 t2 t3 hR2 hA2 hb2 hm hnear hin hcnt hok
  go_wp2_with ((with_reducible refine wpList_store_mid rfl 26 (.tmp 4) (.tmp 14) rfl (w1.heap.size + 1) 0 (icells a).toArray ?hx ?hy ?ht ?hi ?h1 ?_); (case hx => rfl); (case hy => rfl); (case ht => exact HB.out.2.1); (case hi => exact HB.out.2.2.1); (case h1 => exact HB.out.2.2.2); rw [List.toList_toArray, ← HB.out.1])
  rw [zeros12]
  obtain ⟨W5, hW5⟩ : ∃ W5, W5 = W2.alloc (.cells (icells (List.replicate 12 0)).toArray 26) := ⟨_, rfl⟩
  rw [← hW5]
  have hbn : Below W2.heap.size W2 W5 := by rw [hW5]; exact below_new _ _
  have hM5 : Arr 26 12 W5 W2.heap.size (cntL []) := by rw [hW5, cntL_nil]; exact ⟨heap_alloc_new _ _, by simp⟩
  have hg5 := H1.out.2.2.1.lt
  have hgR := H1.out.2.1.lt
  have H5 : Hid (_ ∧ _) := ⟨hM5, hbn⟩
  clear hM5 hbn hW5
  obtain ⟨_, _, ev, _, _, pa⟩ := H1.out.2.1.2.parts
  cases ev
  have HP : Hid _ := pa
  clear pa
  go_loopw [7] (fun t wr => ∃ k : Nat, t = .int .i64 k ∧ k ≤ m.length ∧ Arr 26 12 wr W2.heap.size (cntL (m.take k)) ∧ Below W2.heap.size W2 wr) (fun t _ => m.length - (intOf t).toNat)
  case atStart => exact ⟨0, rfl, Nat.zero_le _, H5.out.1, H5.out.2⟩
  case round =>
    obtain ⟨k, rfl, hk, hM, hbc⟩ := hrel
    have hR := H1.out.2.1.below hbc
    have hcR := hR.cell
    by_cases hlt : k < m.length
    · obtain ⟨b1, o1, rfl, hb1, c1, c2⟩ := HP.out k hlt
      have e1 := (hbc.cell (p := ⟨b1, o1 + k * 2, none⟩) hb1).trans c1
      have e2 := (hbc.cell (p := ⟨b1, o1 + k * 2 + 1, none⟩) hb1).trans c2
      have hin := H1.out.2.2.2.2.2.2.1 m[k] (List.getElem_mem hlt)
      have hsn : m.take (k + 1) = m.take k ++ [m[k]] := List.take_succ_eq_append_getElem hlt
      obtain ⟨xa, hxa⟩ : ∃ xa, xa = m[k].1 := ⟨_, rfl⟩
      obtain ⟨xd, hxd⟩ : ∃ xd, xd = m[k].2 := ⟨_, rfl⟩
      have hmk : m[k] = (xa, xd) := by rw [hxa, hxd]
      rw [← hxa] at e1
      rw [← hxd] at e2 hin
      rw [hmk] at hsn
      obtain ⟨b, rfl⟩ := Int.eq_ofNat_of_zero_le hin.1
      have hb12 : b < 12 := by omega
      have hbI : (b : Int) < 12 := by omega
      have hcm := hM.at b hb12
      have hfm := hM.frozen b
      rw [cntL_at _ b hb12] at hcm
      have hcl : cnt (m.take k) b ≤ 384 := by
        have h1 := cnt_le (m.take k) b
        rw [List.length_take] at h1
        omega
      have hst := cntL_snoc (m.take k) (xa, (b : Int)) b hb12 rfl
      obtain ⟨y, hy⟩ : ∃ y, y = cnt (m.take k) b := ⟨_, rfl⟩
      rw [← hy] at hcm hcl hst
      have hkI : (k : Int) < (m.length : Int) := by omega
      have hltM := hM.lt
      have HK : Hid (_ ∧ _ ∧ _ ∧ _) := ⟨hM, hbc, hsn, hst⟩
      have hbx : Below W2.heap.size W2 (wr.alloc (.cells #[.int .i64 xa, .int .i64 (b : Int)] 42)) := hbc.alloc hbc.size _
      have hMx := hM.below (below_new wr (.cells #[.int .i64 xa, .int .i64 (b : Int)] 42))
      have hfin : ∀ q : World, q.heap = (wr.alloc (.cells #[.int .i64 xa, .int .i64 (b : Int)] 42)).heap → Below W2.heap.size W2 q → Hid (Arr 26 12 (q.setCell ⟨W2.heap.size, b, none⟩ (.int .i64 ((y : Int) + 1))) W2.heap.size (cntL (m.take (k + 1))) ∧ Below W2.heap.size W2 (q.setCell ⟨W2.heap.size, b, none⟩ (.int .i64 ((y : Int) + 1)))) := fun q hq hbq => by
        refine ⟨?_, hbq.setCell (by simp) _⟩
        rw [hsn, hst]
        exact Arr.set (hMx.keep (by rw [hq])) b _
      have HF : Hid (_ ∧ _) := ⟨hfin, hbx⟩
      have hq1 : decide ((b : Int) < 0) = false := decide_eq_false (by omega)
      have hq2 : decide ((12 : Int) ≤ (b : Int)) = false := decide_eq_false (by omega)
      have hq3 : ¬ ((b : Int) < 0) := by omega
      have hq4 : ¬ ((12 : Int) ≤ (b : Int)) := by omega
      by_cases hk0 : k = 0
      · have hkd : decide ((0 : Int) < (k : Int)) = false := decide_eq_false (by omega)
        have hkn : ¬ ((0 : Int) < (k : Int)) := by omega
        have hkN : ¬ 0 < k := by omega
        have hkNd : decide (0 < k) = false := decide_eq_false hkN
        have hlb1 : b1 < wr.heap.size := Nat.lt_of_lt_of_le hb1 hbc.size
        have hlR : w1.heap.size < wr.heap.size := hR.lt
        obtain ⟨Wx, hWx⟩ : ∃ Wx, Wx = wr.alloc (.cells #[.int .i64 xa, .int .i64 (b : Int)] 42) := ⟨_, rfl⟩
        have hX := heap_alloc_new wr (.cells #[.int .i64 xa, .int .i64 (b : Int)] 42)
        have hbnx := below_new wr (.cells #[.int .i64 xa, .int .i64 (b : Int)] 42)
        rw [← hWx] at hX hbnx
        obtain ⟨x0, x1, _, _, xlt⟩ := two_cells hX
        have xcR := (hbnx.cell (p := ⟨w1.heap.size, 0, none⟩) hlR).trans hcR
        have xcm := (hbnx.cell (p := ⟨W2.heap.size, b, none⟩) hltM).trans hcm
        have xfm := (hbnx.frozen (p := ⟨W2.heap.size, b, none⟩) hltM).trans hfm
        have HWx : Hid _ := hWx
        clear hM hbc hsn hst c1 c2 hin hxa hxd hmk hy hR hbx hMx hfin hk0 hX hWx hbnx
        go_wp2
        rw [← HWx.out]
        clear e1 e2 hcR hcm hfm
        refine wp_region_quiet_lit (by kernel_rfl) (by kernel_rfl) ?_
        repeat (first | go_big_quiet_skip | quiet_step (fail))
        refine wpQuiet_nil ?_
        intro _ hw'
        obtain ⟨nq, hw''⟩ := hw'
        subst hw''
        go_wp2
        go_roundw
        case rel =>
          have h := (HF.out.1 (Wx.drewN nq) (by rw [HWx.out]; rfl) (by rw [HWx.out]; exact below_drewN HF.out.2 nq)).out
          exact ⟨k + 1, by simp, hlt, h.1, h.2⟩
        case measure => simp [intOf]; omega
      · obtain ⟨j, hj⟩ : ∃ j, j + 1 = k := ⟨k - 1, by omega⟩
        have hkd : decide ((0 : Int) < (k : Int)) = true := decide_eq_true (by omega)
        have hkn : (0 : Int) < (k : Int) := by omega
        have hkN : 0 < k := by omega
        have hkNd : decide (0 < k) = true := decide_eq_true hkN
        have hjl : j < m.length := by omega
        obtain ⟨_, _, hpe, _, g1, _⟩ := HP.out j hjl
        cases hpe
        have hnr : ¬ xa < m[j].1 := by
          have h := near_sorted H1.out.2.2.2.2.2.1 j (by omega)
          have e : m[j + 1]'(by omega) = m[k] := by congr 1
          rw [e, ← hxa] at h
          exact h
        have d1 := (hbc.cell (p := ⟨b1, o1 + j * 2, none⟩) hb1).trans g1
        generalize m[j].1 = ja at hnr d1 g1
        have hnd : decide (xa < ja) = false := decide_eq_false hnr
        have hjI : IntKind.i64.wrap ((k : Int) - 1) = (j : Int) := by rw [IntKind.wrap_i64]; omega
        have hjS : (k : Int) - 1 = (j : Int) := by omega
        have hjV : IntKind.i64.wrap (j : Int) = (j : Int) := by rw [IntKind.wrap_i64]; omega
        have hj0 : (0 : Int) ≤ (j : Int) := by omega
        have hj1 : (j : Int) < (m.length : Int) := by omega
        have hlb1 : b1 < wr.heap.size := Nat.lt_of_lt_of_le hb1 hbc.size
        have hlR : w1.heap.size < wr.heap.size := hR.lt
        obtain ⟨Wx, hWx⟩ : ∃ Wx, Wx = wr.alloc (.cells #[.int .i64 xa, .int .i64 (b : Int)] 42) := ⟨_, rfl⟩
        have hX := heap_alloc_new wr (.cells #[.int .i64 xa, .int .i64 (b : Int)] 42)
        have hbnx := below_new wr (.cells #[.int .i64 xa, .int .i64 (b : Int)] 42)
        rw [← hWx] at hX hbnx
        obtain ⟨x0, x1, _, _, xlt⟩ := two_cells hX
        have xcR := (hbnx.cell (p := ⟨w1.heap.size, 0, none⟩) hlR).trans hcR
        have xcm := (hbnx.cell (p := ⟨W2.heap.size, b, none⟩) hltM).trans hcm
        have xfm := (hbnx.frozen (p := ⟨W2.heap.size, b, none⟩) hltM).trans hfm
        have HWx : Hid _ := hWx
        have xd1 := (hbnx.cell (p := ⟨b1, o1 + j * 2, none⟩) hlb1).trans d1
        clear hM hbc hsn hst c1 c2 hin hxa hxd hmk hy hR hbx hMx hfin hk0 hX hWx hbnx g1 hj
        go_wp2
        rw [← HWx.out]
        clear e1 e2 hcR hcm hfm d1
        refine wp_region_quiet_lit (by kernel_rfl) (by kernel_rfl) ?_
        repeat (first | go_big_quiet_skip | quiet_step (fail))
        refine wpQuiet_nil ?_
        intro _ hw'
        obtain ⟨nq, hw''⟩ := hw'
        subst hw''
        go_wp2
        go_roundw
        case rel =>
          have h := (HF.out.1 (Wx.drewN nq) (by rw [HWx.out]; rfl) (by rw [HWx.out]; exact below_drewN HF.out.2 nq)).out
          exact ⟨k + 1, by simp, hlt, h.1, h.2⟩
        case measure => simp [intOf]; omega
    · obtain rfl : k = m.length := by omega
      rw [List.take_length] at hM
      have hA := H1.out.2.2.1.below hbc
      have hbw := H1.out.1.trans (hbc.mono H1.out.1.size)
      have HK : Hid (_ ∧ _ ∧ _ ∧ _) := ⟨hM, hA, hbw, hR⟩
      clear hM hA hbw hbc hR
      go_wp2
      go_loopw [9] (fun t W => ∃ (j q : Nat), t = .int .i64 j ∧ j ≤ 12 ∧ W = wr.drewN q) (fun t _ => 12 - (intOf t).toNat)
      case atStart => exact ⟨0, 0, rfl, Nat.zero_le _, rfl⟩
      case round =>
        obtain ⟨j, q, rfl, hj, rfl⟩ := hrel
        by_cases hlt2 : j < 12
        · have hjI : (j : Int) < 12 := by omega
          have hcm := HK.out.1.at j hlt2
          have hca := HK.out.2.1.at j hlt2
          rw [cntL_at _ j hlt2, H1.out.2.2.2.2.2.2.2.1 j hlt2] at hcm
          have hx0 := H1.out.2.2.2.1.low j
          have hx8 := H1.out.2.2.2.1.high j
          have hwt := wt_int H1.out.2.2.2.1 j
          obtain ⟨x, hx⟩ : ∃ x, x = wt a j := ⟨_, rfl⟩
          rw [← hx] at hcm hwt
          rw [← hwt] at hca hx0 hx8
          have hne : (((x * 4 : Nat) : Int) != 4 * (x : Int)) = false := by simp; omega
          clear hx hwt
          go_wp2
          go_region
          go_wp2
          go_roundw
          case rel => exact ⟨j + 1, q + 1, by simp, hlt2, rfl⟩
          case measure => simp [intOf]; omega
        · obtain rfl : j = 12 := by omega
          have hRq : BoxR (wr.drewN q) w1.heap.size _ m := HK.out.2.2.2
          have hcq := hRq.cell
          have HE : Hid (_ ∧ _) := ⟨hRq.2, below_drewN HK.out.2.2.1 q⟩
          have hRqb := hRq
          have HRq : Hid (_ ∧ True) := ⟨hRqb, trivial⟩
          clear hRq hRqb
          go_wp2_with fail
          refine (check_any _ m _ HE.out.1).mono ?_
          rintro r w9 ⟨e, rfl, he0, _, hb9⟩
          obtain rfl : e = 0 := he0 H1.out.2.2.2.2.2.2.2.2
          have hc9 := (HRq.out.1.below hb9).cell
          have H9 : Hid _ := HE.out.2.trans (hb9.mono HE.out.2.size)
          clear hb9 he0
          by_cases hl0 : l.length = 0
          · have hlI : ((l.length : Int) == 0) = true := by rw [beq_iff_eq]; omega
            go_wp2
            go_ret
            exact ⟨by simp, H9.out⟩
          · have hlI : ((l.length : Int) == 0) = false := by rw [beq_eq_false_iff_ne]; omega
            have hmp : 0 < m.length := H1.out.2.2.2.2.1 (fun e => hl0 (by rw [e]; rfl))
            have hmI : (0 : Int) < (m.length : Int) := by omega
            go_wp2
            go_ret
            exact ⟨by simp, H9.out⟩
end Go.Proofs.Ytpmobbbohchdlab.Walks
