/-
  The weights of a ring, by the document, and whether it may be. Condition: the ring's spots can be read.
-/
import Derived.Test.YtpmobbbohchdlaaOfW
import Derived.WalkKit
import Derived.ProofKit
import Derived.Handy
import Derived.LoopTactic
import Derived.Below
import Derived.Laws.BitsAllLaws
import Derived.RegionTactic
import Derived.Deep.RegionHeld3
import Derived.Deep.DrawnRows
import Derived.Deep.AppendLies
import Derived.Laws.OwnMore
import Derived.Deep.Onto
import Derived.Deep.QuietTactic
import Derived.BigQuiet
namespace Go.Proofs.Ytpmobbbohchdlaa.Walks
open Go.RowKit
set_option linter.unusedVariables false
set_option linter.unusedSimpArgs false
attribute [local go_sem ↓] Go.wp_at_zero Go.wp_at_succ

/-- The first k backends have their weights, the others their counts. -/
def wM (l : List Tm) (k : Nat) : List Int := (List.range 12).map fun b => if b < k then ((cnt l b / 4 : Nat) : Int) else ((cnt l b : Nat) : Int)

theorem wM_len (l : List Tm) (k : Nat) : (wM l k).length = 12 := by simp [wM]
theorem wM_zero (l : List Tm) : wM l 0 = cntL l := by simp [wM, cntL]
theorem wM_all (l : List Tm) : wM l 12 = wOf l := by
  unfold wM wOf
  apply List.map_congr_left
  intro b hb
  rw [if_pos (List.mem_range.1 hb)]
theorem wM_at (l : List Tm) (k : Nat) (hk : k < 12) : (wM l k)[k]'(by rw [wM_len]; exact hk) = ((cnt l k : Nat) : Int) := by simp [wM]
theorem wM_succ (l : List Tm) (k : Nat) (hk : k < 12) : wM l (k + 1) = (wM l k).set k ((cnt l k / 4 : Nat) : Int) := by
  apply List.ext_getElem?
  intro j
  by_cases hj : j < 12
  · by_cases h : j = k
    · subst h
      rw [List.getElem?_set_self (by rw [wM_len]; exact hj)]
      simp [wM, hj]
    · rw [List.getElem?_set_ne (Ne.symm h)]
      simp [wM, hj, show j < k + 1 ↔ j < k by omega]
  · rw [List.getElem?_eq_none (by rw [wM_len]; omega), List.getElem?_eq_none (by rw [List.length_set, wM_len]; omega)]

theorem ringOk_four {l : List Tm} (h : RingOk l) (b : Nat) (hb : b < 12) : cnt l b % 4 = 0 := by
  obtain ⟨a, ha, rfl⟩ := h
  rw [cnt_spotsOf a b hb]
  omega

theorem ringOk_len {l : List Tm} (h : RingOk l) : l.length ≤ 384 := by
  obtain ⟨a, ha, rfl⟩ := h
  exact spotsOf_len ha

/-- What the document's weights of a ring are: none, or twelve in a block of their own. -/
def RWRes (l : List Tm) (w : World) (r : Ending) (w' : World) : Prop := ∃ v, r = .returned v ∧ Below w.heap.size w w' ∧ ((¬ RingOk l ∧ v = .slice none 0 0) ∨ (RingOk l ∧ ∃ g, v = .slice (some ⟨g, 0, none⟩) 12 12 ∧ w.heap.size ≤ g ∧ Arr 3 12 w' g (wOf l)))

theorem Arr.intsAt {n : Nat} {w : World} {g : Nat} {a : List Int} {T : TypeId} (h : Arr T n w g a) (hn : n ≤ 1000) : IntsAt w (.slice (some ⟨g, 0, none⟩) n n) a := by
  refine ⟨_, n, by rw [h.2], by rw [h.2]; exact Nat.le_refl _, by unfold maxLen; omega, .inr ⟨g, 0, rfl, h.lt, fun i hi => ?_⟩⟩
  rw [Nat.zero_add, icells_at a i (by rwa [icells_len] at hi)]
  exact h.cell i (by rwa [icells_len] at hi)

theorem made12 (W : World) : (Instr.makeSlice 35 (.int .i64 12) (.int .i64 12)).run Try.prog W = .ok (.slice (some ⟨W.heap.size, 0, none⟩) 12 12) (W.alloc (.cells (icells (List.replicate 12 0)).toArray 3)) := by
  obtain ⟨i1, hj, hy0, hy1, hy2⟩ := info_parts infoInt
  have h := run_makeSlice (P := Try.prog) W 35 3 i1 _ Try.underlying35 hj hy0 .i64 .i64 12 12 (by decide) (by decide) (by rw [hy1]; decide) (by rw [hy2]; decide) (by decide)
  have e : madeCells (Value.int .i64 0).cells (Int.toNat 12 * 1) = (icells (List.replicate 12 0)).toArray := Array.toList_inj.1 (toList_madeCells_one (.int .i64 0) 12)
  rw [h, hy1, e]
  rfl

set_option maxHeartbeats 8000000 in
set_option maxRecDepth 100000 in
theorem ringWeights_any (v : Value) (l : List Tm) (w : World) (hv : TmAt w v l) :
    Calls Try.prog 24 #[.agg #[v]] w (RWRes l w) := by
  obtain ⟨p, c, rfl, hc, hm, pv⟩ := hv.parts
  unfold maxLen at hm
  have HV : Hid (_ ∧ _) := ⟨hv, pv⟩
  clear hv pv
  obtain ⟨z12, hz12⟩ : ∃ z, z = (icells (List.replicate 12 0)).toArray := ⟨_, rfl⟩
  have hmk : ∀ W, (Instr.makeSlice 35 (.int .i64 12) (.int .i64 12)).run Try.prog W = .ok (.slice (some ⟨W.heap.size, 0, none⟩) 12 12) (W.alloc (.cells z12 3)) := by rw [hz12]; exact made12
  have HZ12 : Hid _ := hz12
  clear hz12
  by_cases hbig : 384 < l.length
  · have hno : ¬ RingOk l := fun h => by have := ringOk_len h; omega
    have hbI : (384 : Int) < (l.length : Int) := by omega
    go_enter Try.func24, Try.ntmps24
    go_wp2
    go_ret
    exact ⟨_, rfl, ((Below.refl _ _).alloc (Nat.le_refl _) _).alloc (by simp) _, .inl ⟨hno, rfl⟩⟩
  · have hbI : ¬ ((384 : Int) < (l.length : Int)) := by omega
    go_enter Try.func24, Try.ntmps24
    go_wp2
    obtain ⟨W0, hW0⟩ : ∃ W0, W0 = (w.alloc (.cells #[.slice p l.length c] 24)).alloc (.cells z12 3) := ⟨_, rfl⟩
    have hb0 : Below w.heap.size w W0 := by rw [hW0]; exact ((Below.refl _ _).alloc (Nat.le_refl _) _).alloc (by simp) _
    have hR0 : W0.heap[w.heap.size]? = some (.cells #[.slice p l.length c] 24 (0, 0)) := by rw [hW0]; exact heap_old _ _ (heap_alloc_new _ _)
    have hA0 : Arr 3 12 W0 (w.heap.size + 1) (List.replicate 12 0) := by rw [hW0, HZ12.out]; exact ⟨heap_second _ _ _, by simp⟩
    rw [← hW0]
    have H0 : Hid (_ ∧ _ ∧ _) := ⟨hb0, hR0, hA0⟩
    clear hb0 hR0 hA0 hW0 hmk
    go_loopw [4] (fun t wr => ∃ k : Nat, t = .int .i64 k ∧ k ≤ l.length ∧ (∀ t ∈ l.take k, 0 ≤ t.2 ∧ t.2 < 12) ∧ Below w.heap.size w wr ∧ wr.heap[w.heap.size]? = some (.cells #[.slice p l.length c] 24 (0, 0)) ∧ Arr 3 12 wr (w.heap.size + 1) (cntL (l.take k))) (fun t _ => l.length - (intOf t).toNat)
    case atStart => exact ⟨0, rfl, Nat.zero_le _, by simp, H0.out⟩
    case round =>
      obtain ⟨k, rfl, hk, hall, hb, hR, h2⟩ := hrel
      have hc0 := one_cell hR
      by_cases hlt : k < l.length
      · obtain ⟨b0, off, rfl, hb0, c1, c2⟩ := HV.out.2 k hlt
        have e2 := (hb.cell (p := ⟨b0, off + k * 2 + 1, none⟩) hb0).trans c2
        obtain ⟨ta, hta⟩ : ∃ ta, ta = l[k].1 := ⟨_, rfl⟩
        obtain ⟨td, htd⟩ : ∃ td, td = l[k].2 := ⟨_, rfl⟩
        rw [← htd] at e2
        have htk : l.take (k + 1) = l.take k ++ [(ta, td)] := by rw [List.take_succ_eq_append_getElem hlt, hta, htd]
        have hmem : (ta, td) ∈ l := by rw [hta, htd]; exact List.getElem_mem hlt
        have hkI : (k : Int) < (l.length : Int) := by omega
        have HK : Hid (_ ∧ _ ∧ _ ∧ _ ∧ _ ∧ _) := ⟨hall, hb, hR, h2, htk, hmem⟩
        clear hall hb hR h2 htk hmem hta htd c1 c2
        by_cases hin : 0 ≤ td ∧ td < 12
        · obtain ⟨b, rfl⟩ := Int.eq_ofNat_of_zero_le hin.1
          have hb12 : b < 12 := by omega
          have hbI : (b : Int) < 12 := by omega
          have hcl := HK.out.2.2.2.1.cell b (by rw [cntL_len]; exact hb12)
          have hfz := HK.out.2.2.2.1.frozen b
          have hcn : (cntL (l.take k))[b]'(by rw [cntL_len]; exact hb12) = ((cnt (l.take k) b : Nat) : Int) := by
            have := cntL_at (l.take k) b hb12
            rwa [List.getD_eq_getElem?_getD, List.getElem?_eq_getElem (by rw [cntL_len]; exact hb12)] at this
          rw [hcn] at hcl
          have hxk : cnt (l.take k) b ≤ k := Nat.le_trans (cnt_le _ _) (by rw [List.length_take]; omega)
          obtain ⟨x, hx⟩ : ∃ x, x = cnt (l.take k) b := ⟨_, rfl⟩
          rw [← hx] at hcl hxk
          have HQ : Hid _ := hx
          clear hx hcn hin
          go_wp2_with (first | (go_at_call 29; refine (in_yes _ _ _ _ (by omega) (by omega)).mono ?_; rintro r w1 ⟨rfl, rfl⟩))
          go_roundw
          case rel =>
            obtain ⟨hall, hb, hR, h2, htk, hmem⟩ := HK.out
            refine ⟨k + 1, by simp, hlt, fun t ht => ?_, hb.setCell (by simp) _, ?_, ?_⟩
            · rw [htk, List.mem_append] at ht
              rcases ht with ht | ht
              · exact hall t ht
              · rw [List.mem_singleton] at ht
                subst ht
                exact ⟨by simp, by simpa using hbI⟩
            · rw [Below.heap_setCell _ _ _ _ (by simp)]
              exact hR
            · rw [htk, cntL_snoc _ _ b hb12 rfl, ← HQ.out]
              exact h2.set b _
          case measure => simp [intOf]; omega
        · have hno : ¬ RingOk l := fun h => hin (ringOk_in h _ HK.out.2.2.2.2.2)
          go_wp2_with (first | (go_at_call 29; refine (in_no _ _ _ _ (by omega)).mono ?_; rintro r w1 ⟨rfl, rfl⟩))
          go_ret
          exact ⟨_, rfl, HK.out.2.1, .inl ⟨hno, rfl⟩⟩
      · obtain rfl : k = l.length := by omega
        rw [List.take_length] at h2 hall
        have HK : Hid (_ ∧ _ ∧ _ ∧ _) := ⟨hall, hb, hR, h2⟩
        clear hall hb hR h2
        go_wp2
        go_loopw [6] (fun t W => ∃ j : Nat, t = .int .i64 j ∧ j ≤ 12 ∧ (∀ b, b < j → cnt l b ≤ 32) ∧ Below w.heap.size w W ∧ W.heap[w.heap.size]? = some (.cells #[.slice p l.length c] 24 (0, 0)) ∧ Arr 3 12 W (w.heap.size + 1) (wM l j)) (fun t _ => 12 - (intOf t).toNat)
        case atStart =>
          obtain ⟨hall, hb, hR, h2⟩ := HK.out
          exact ⟨0, rfl, Nat.zero_le _, fun b h => absurd h (Nat.not_lt_zero _), hb, hR, by rw [wM_zero]; exact h2⟩
        case round =>
          obtain ⟨j, rfl, hj, hcnt, hb, hR, h3⟩ := hrel
          by_cases hlt2 : j < 12
          · have hjI : (j : Int) < 12 := by omega
            have hxl : cnt l j ≤ l.length := cnt_le l j
            have hcl := h3.cell j (by rw [wM_len]; exact hlt2)
            rw [wM_at l j hlt2] at hcl
            have hfz := h3.frozen j
            obtain ⟨x, hx⟩ : ∃ x, x = cnt l j := ⟨_, rfl⟩
            rw [← hx] at hcl hxl
            have HJ : Hid (_ ∧ _ ∧ _ ∧ _ ∧ _) := ⟨hcnt, hb, hR, h3, hx⟩
            clear hcnt hb hR h3 hx hc0
            by_cases h4 : x % 4 = 0
            · have h4I : ((x : Int) % 4 != 0) = false := by simp; omega
              by_cases h32 : x ≤ 32
              · have hgt : ¬ ((32 : Int) < (x : Int)) := by omega
                go_wp2
                go_roundw
                case rel =>
                  obtain ⟨hcnt, hb, hR, h3, hx⟩ := HJ.out
                  refine ⟨j + 1, by simp, hlt2, fun b hb2 => ?_, hb.setCell (by simp) _, ?_, ?_⟩
                  · by_cases e : b = j
                    · subst e; rw [← hx]; exact h32
                    · exact hcnt b (by omega)
                  · rw [Below.heap_setCell _ _ _ _ (by simp)]
                    exact hR
                  · rw [wM_succ l j hlt2, ← hx]
                    have := h3.set j (((x / 4 : Nat) : Int))
                    first | exact this | (simpa using this)
                case measure => simp [intOf]; omega
              · have hgt : (32 : Int) < (x : Int) := by omega
                have hno : ¬ RingOk l := fun h => h32 (by rw [HJ.out.2.2.2.2]; exact ringOk_cnt h j hlt2)
                go_wp2
                go_ret
                exact ⟨_, rfl, HJ.out.2.1, .inl ⟨hno, rfl⟩⟩
            · have h4I : ((x : Int) % 4 != 0) = true := by simp; omega
              have hno : ¬ RingOk l := fun h => h4 (by rw [HJ.out.2.2.2.2]; exact ringOk_four h j hlt2)
              go_wp2
              go_ret
              exact ⟨_, rfl, HJ.out.2.1, .inl ⟨hno, rfl⟩⟩
          · obtain rfl : j = 12 := by omega
            rw [wM_all] at h3
            have hwt : Wts (wOf l) := wts_of_counts hcnt
            have hiff := ringOk_iff hcnt
            have hI := h3.intsAt (by omega)
            have HS : Hid (_ ∧ _ ∧ _ ∧ _ ∧ _ ∧ _) := ⟨hwt, hiff, hb, hR, h3, hI⟩
            clear hcnt hb hR h3 hwt hiff hI hc0
            go_wp2_with fail
            refine (ringOf_any _ (wOf l) _ HS.out.2.2.2.2.2 HS.out.1).mono ?_
            rintro r w2 ⟨y, rfl, hown2, hb2⟩
            obtain ⟨yp, yc, rfl⟩ := own_form hown2
            have hR2 := box_below HS.out.2.2.2.1 hb2
            have hA2 := HS.out.2.2.2.2.1.below hb2
            have hb3 := HS.out.2.2.1.trans (hb2.mono HS.out.2.2.1.size)
            have hc2 := one_cell hR2
            have hlt5 := hA2.lt
            have hlt6 : w.heap.size < w2.heap.size := by omega
            have hT1 : TmAt w2 (.slice p l.length c) l := HV.out.1.below (below_of hb3 (Nat.le_refl _))
            have hT2 : TmAt w2 (.slice yp (spotsOf (wOf l)).length yc) (spotsOf (wOf l)) := rowAt_own hown2
            have hbA : Below w2.heap.size w2 (w2.alloc (.cells #[.slice yp (spotsOf (wOf l)).length yc] 24)) := (Below.refl _ _).alloc (Nat.le_refl _) _
            have HT : Hid (_ ∧ _ ∧ _ ∧ _ ∧ _) := ⟨hT1.below hbA, hT2.below hbA, hb3, hA2, hbA⟩
            clear hown2 hb3 hR2 hA2 hb2 hT1 hT2 hbA
            go_wp2_with fail
            refine (sameRing_any _ _ _ _ _ HT.out.2.1 HT.out.1).mono ?_
            rintro r w3 ⟨rfl, hb3⟩
            have hb4 : Below w.heap.size w w3 := (HT.out.2.2.1.trans (HT.out.2.2.2.2.mono HT.out.2.2.1.size)).trans (hb3.mono (by simp; omega))
            have hA3 : Arr 3 12 w3 (w.heap.size + 1) (wOf l) := (HT.out.2.2.2.1.below HT.out.2.2.2.2).below hb3
            have H3 : Hid (_ ∧ _) := ⟨hb4, hA3⟩
            clear hb3 hb4 hA3
            by_cases he : spotsOf (wOf l) = l
            · rw [decide_eq_true he]
              have hok : RingOk l := HS.out.2.1.2 he.symm
              have HO : Hid _ := hok
              clear hok he
              go_wp2
              go_ret
              exact ⟨_, rfl, H3.out.1, .inr ⟨HO.out, _, rfl, by omega, H3.out.2⟩⟩
            · rw [decide_eq_false he]
              have hno : ¬ RingOk l := fun h => he (HS.out.2.1.1 h).symm
              have HO : Hid _ := hno
              clear hno he
              go_wp2
              go_ret
              exact ⟨_, rfl, H3.out.1, .inl ⟨HO.out, rfl⟩⟩

set_option maxHeartbeats 1000000 in
theorem ringFault_any (v : Value) (l : List Tm) (w : World) (hv : TmAt w v l) :
    Calls Try.prog 11 #[.agg #[v]] w fun r w' => ∃ e : Int, r = .returned (.int .i64 e) ∧ (RingOk l → e = 0) ∧ (¬ RingOk l → e = 6) ∧ Below w.heap.size w w' := by
  obtain ⟨p, c, rfl, hc, hm, pv⟩ := hv.parts
  have HV : Hid _ := hv
  clear pv hv
  go_enter Try.func11, Try.ntmps11
  go_wp2_with fail
  refine (ringWeights_any _ l _ (HV.out.below ((Below.refl _ _).alloc (Nat.le_refl _) _))).mono ?_
  rintro r w1 ⟨u, rfl, hb, hu⟩
  have hb1 : Below w.heap.size w w1 := ((Below.refl _ _).alloc (Nat.le_refl _) _).trans (hb.mono (by simp))
  have H1 : Hid _ := hb1
  clear hb hb1
  rcases hu with ⟨hno, rfl⟩ | ⟨hok, g, rfl, hg, hA⟩
  · have HN : Hid _ := hno
    clear hno
    go_wp2
    go_ret
    exact ⟨6, rfl, fun h => absurd h HN.out, fun _ => rfl, H1.out⟩
  · have HN : Hid (_ ∧ _) := ⟨hok, hA⟩
    clear hok hA
    go_wp2
    go_ret
    exact ⟨0, rfl, fun _ => rfl, fun h => absurd HN.out.1 h, H1.out⟩
end Go.Proofs.Ytpmobbbohchdlaa.Walks
