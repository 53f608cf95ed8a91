/-
  RingTurns returns true. Condition: the members can be read.
-/
import Derived.Test.YtpmobbbohchdlaaRFine
import Derived.Test.YtpmobbbohchdlaaKeepSame
import Derived.Deep.CutRange
import Derived.WalkKit
import Derived.ProofKit
import Derived.Handy
import Derived.LoopTactic
import Derived.Below
import Derived.Laws.BitsAllLaws
import Derived.RegionTactic
import Derived.Deep.RegionHeld3
import Derived.Deep.DrawnRows
import Derived.Deep.AppendLies
import Derived.Laws.OwnMore
import Derived.Deep.Onto
import Derived.Deep.QuietTactic
import Derived.BigQuiet
namespace Go.Proofs.Ytpmobbbohchdlaa.Walks
open Go.RowKit
set_option linter.unusedVariables false
set_option linter.unusedSimpArgs false
attribute [local go_sem ↓] Go.wp_at_zero Go.wp_at_succ

/-- The weights of the backends from j on. -/
def upFrom (a : List Int) (j : Nat) : List Int := (List.range 12).map fun (b : Nat) => if j ≤ b then a.getD b 0 else 0

theorem upFrom_len (a : List Int) (j : Nat) : (upFrom a j).length = 12 := by simp [upFrom]

theorem upFrom_at (a : List Int) (j b : Nat) (hb : b < 12) : (upFrom a j).getD b 0 = if j ≤ b then a.getD b 0 else 0 := by simp [upFrom, hb]

theorem upFrom_past (a : List Int) (j b : Nat) (hb : ¬ b < 12) : (upFrom a j).getD b 0 = 0 := by
  rw [List.getD_eq_getElem?_getD, List.getElem?_eq_none (by rw [upFrom_len]; omega)]
  rfl

theorem upFrom_wts {a : List Int} (ha : Wts a) (j : Nat) : Wts (upFrom a j) := by
  refine ⟨upFrom_len a j, fun b => ?_, fun b => ?_⟩
  · by_cases hb : b < 12
    · rw [upFrom_at a j b hb]
      split
      · exact ha.low b
      · omega
    · rw [upFrom_past a j b hb]; omega
  · by_cases hb : b < 12
    · rw [upFrom_at a j b hb]
      split
      · exact ha.high b
      · omega
    · rw [upFrom_past a j b hb]; omega

theorem upFrom_all {a : List Int} (ha : Wts a) : upFrom a 0 = a := by
  apply List.ext_getElem?
  intro j
  by_cases hj : j < 12
  · simp [upFrom, hj, List.getD_eq_getElem?_getD, List.getElem?_eq_getElem (show j < a.length by rw [ha.len]; exact hj)]
  · rw [List.getElem?_eq_none (by rw [upFrom_len]; omega), List.getElem?_eq_none (by rw [ha.len]; omega)]

theorem upFrom_none (a : List Int) : upFrom a 12 = List.replicate 12 0 := by
  apply List.ext_getElem?
  intro j
  by_cases hj : j < 12
  · have h12 : ¬ 12 ≤ j := by omega
    rw [List.getElem?_replicate, if_pos hj]
    simp [upFrom, hj, h12]
  · rw [List.getElem?_eq_none (by rw [upFrom_len]; omega), List.getElem?_eq_none (by simp; omega)]

theorem upFrom_step (a : List Int) (j : Nat) (hj : j < 12) : upFrom a j = (upFrom a (j + 1)).set j (a.getD j 0) := by
  apply List.ext_getElem?
  intro i
  by_cases hi : i < 12
  · by_cases h : i = j
    · subst h
      rw [List.getElem?_set_self (by rw [upFrom_len]; exact hi)]
      simp [upFrom, hi]
    · rw [List.getElem?_set_ne (Ne.symm h)]
      have : (j ≤ i) ↔ (j + 1 ≤ i) := by omega
      simp [upFrom, hi, this]
  · rw [List.getElem?_eq_none (by rw [upFrom_len]; omega), List.getElem?_eq_none (by rw [List.length_set, upFrom_len]; omega)]

theorem upFrom_same (a : List Int) (ha : Wts a) (j : Nat) (hj : j < 12) (h : ¬ 0 < a.getD j 0) : upFrom a j = upFrom a (j + 1) := by
  rw [upFrom_step a j hj]
  have e : a.getD j 0 = 0 := by have := ha.low j; omega
  apply List.ext_getElem?
  intro i
  by_cases hi : i = j
  · subst hi
    have h1 : ¬ i + 1 ≤ i := by omega
    rw [List.getElem?_set_self (by rw [upFrom_len]; exact hj), e]
    simp [upFrom, hj, h1]
  · rw [List.getElem?_set_ne (Ne.symm hi)]

set_option maxHeartbeats 8000000 in
set_option maxRecDepth 100000 in
theorem ringTurns_row (w : World) (v : Value) (l : List Tm) (hv : TmAt w v l) (hwf : ∀ t ∈ l, (Lit.int .i64 t.1).wf = true ∧ (Lit.int .i64 t.2).wf = true) (hl : l.length ≤ 140737488351232 / 16) :
    Calls Try.prog 8 #[v] w fun r w' => r = .returned (.bool true) ∧ Below w.heap.size w w' := by
  obtain ⟨vp, vc, rfl⟩ := hv.form
  have HV : Hid (_ ∧ _) := ⟨hv, hwf⟩
  clear hv hwf hl
  go_enter Try.func8, Try.ntmps8
  go_wp2_with fail
  refine (ringed_any _ l _ HV.out.1 HV.out.2).mono ?_
  rintro r w1 ⟨a, p, c, rfl, ha, ho, hpos, hb1⟩
  obtain ⟨W2, hW2, t1, t2, t3, hR2, hA2, hb2⟩ := begun w w1 a _ ha (rowAt_own ho) hb1
  have hl384 := spotsOf_len ha
  have hg1 := hb1.size
  obtain ⟨m, hm⟩ : ∃ m, m = spotsOf a := ⟨_, rfl⟩
  rw [← hm] at hR2 hl384 hW2 t1 hpos ⊢
  have H1 : Hid (_ ∧ _ ∧ _ ∧ _ ∧ _ ∧ _) := ⟨hb2, hR2, hA2, ha, hm, hpos⟩
  have HB : Hid (_ ∧ _ ∧ _ ∧ _) := ⟨hW2, t1, t2, t3⟩
  clear ha ho hpos hb1 hW2 t1 t2 t3 hR2 hA2 hb2 hm
  go_wp2_with ((with_reducible refine wpList_store_mid rfl 40 (.tmp 4) (.tmp 14) rfl (w1.heap.size + 1) 0 (icells a).toArray ?hx ?hy ?ht ?hi ?h1 ?_); (case hx => rfl); (case hy => rfl); (case ht => exact HB.out.2.1); (case hi => exact HB.out.2.2.1); (case h1 => exact HB.out.2.2.2); rw [List.toList_toArray, ← HB.out.1])
  obtain ⟨W3, hW3⟩ : ∃ W3, W3 = W2.alloc (.cells #[.slice none 0 0] 24) := ⟨_, rfl⟩
  rw [← hW3]
  have hbx : Below W2.heap.size W2 W3 := by rw [hW3]; exact below_new _ _
  have hS3 : W3.heap[W2.heap.size]? = some (.cells #[.slice none 0 0] 24 (0, 0)) := by rw [hW3]; exact heap_alloc_new _ _
  have hg2 := H1.out.2.2.1.lt
  have hs3 : W3.heap.size = W2.heap.size + 1 := by rw [hW3]; simp
  have H3 : Hid (_ ∧ _ ∧ _ ∧ _ ∧ _ ∧ _) := ⟨H1.out.1.trans (hbx.mono H1.out.1.size), H1.out.2.1.below hbx, H1.out.2.2.1.below hbx, hS3, hs3, hbx⟩
  clear hbx hS3 hW3
  go_loopw [7] (fun t wr => ∃ (j : Nat) (q : Option Addr) (d : Nat), t = .int .i64 ((j : Int) - 1) ∧ j ≤ 12 ∧ wr.heap[W2.heap.size]? = some (.cells #[.slice q (spotsOf (upFrom a j)).length d] 24 (0, 0)) ∧ wr.ownsRow W3.heap.size 55 2 (.slice q (spotsOf (upFrom a j)).length d) (spotsOf (upFrom a j)).length (tcells (spotsOf (upFrom a j))) ∧ Below W2.heap.size W2 wr ∧ W3.heap.size ≤ wr.heap.size) (fun t _ => (intOf t + 1).toNat)
  case atStart =>
    obtain ⟨h1, h2, h3, h4, h5, h6⟩ := H3.out
    refine ⟨12, none, 0, rfl, Nat.le_refl _, ?_, ?_, h6, Nat.le_refl _⟩
    · rw [upFrom_none, spots_zero]; exact h4
    · rw [upFrom_none, spots_zero]; exact World.ownsRow_nil _ _ _ _
  case round =>
    obtain ⟨j, q, d, rfl, hj, hS, hO, hbr, hsz⟩ := hrel
    have hR := H1.out.2.1.below hbr
    have hA := H1.out.2.2.1.below hbr
    have hbw := H1.out.1.trans (hbr.mono H1.out.1.size)
    have hcR := hR.cell
    have hcS := one_cell hS
    by_cases hj0 : j = 0
    · subst hj0
      have e0 : (((0 : Nat) : Int) - 1) = -1 := by omega
      rw [e0]
      rw [upFrom_all H1.out.2.2.2.1, ← H1.out.2.2.2.2.1] at hcS hO hS
      have HE : Hid (_ ∧ _ ∧ _ ∧ _) := ⟨hR.2, (rowAt_own hO : TmAt _ _ m), hbw, hR⟩
      clear hA hS hO hbr hbw hR hsz
      go_wp2_with fail
      refine (keepSame _ _ m m _ HE.out.1 HE.out.2.1).mono ?_
      rw [decide_eq_true rfl]
      rintro r w9 ⟨rfl, hb9⟩
      have hc9 := (HE.out.2.2.2.below hb9).cell
      have H9 : Hid _ := HE.out.2.2.1.trans (hb9.mono HE.out.2.2.1.size)
      clear hb9
      by_cases hl0 : l.length = 0
      · have hlI : ((l.length : Int) == 0) = true := by rw [beq_iff_eq]; omega
        go_wp2
        go_ret
        exact ⟨by simp, H9.out⟩
      · have hlI : ((l.length : Int) == 0) = false := by rw [beq_eq_false_iff_ne]; omega
        have hmp : 0 < m.length := H1.out.2.2.2.2.2 (fun e => hl0 (by rw [e]; rfl))
        have hmI : (0 : Int) < (m.length : Int) := by omega
        go_wp2
        go_ret
        exact ⟨by simp, H9.out⟩
    · obtain ⟨k, rfl⟩ : ∃ k, j = k + 1 := ⟨j - 1, by omega⟩
      have e0 : (((k + 1 : Nat) : Int) - 1) = (k : Int) := by omega
      rw [e0]
      have hk12 : k < 12 := by omega
      have hkI : (k : Int) < 12 := by omega
      have hck := hA.at k hk12
      have hstep := upFrom_step a k hk12
      have hsame := upFrom_same a H1.out.2.2.2.1 k hk12
      have hx8 := H1.out.2.2.2.1.high k
      have hx0 := H1.out.2.2.2.1.low k
      have hup := upFrom_wts H1.out.2.2.2.1 (k + 1)
      have hup0 : ¬ 0 < (upFrom a (k + 1)).getD k 0 := by rw [upFrom_at a (k + 1) k hk12, if_neg (by omega)]; omega
      obtain ⟨x, hx⟩ : ∃ x, x = a.getD k 0 := ⟨_, rfl⟩
      rw [← hx] at hck hstep hsame hx8 hx0
      by_cases hp : x = 0
      · subst hp
        have hs := hsame (by omega)
        have HE : Hid (_ ∧ _ ∧ _ ∧ _) := ⟨hS, hO, hbr, hs⟩
        clear hS hO hbr hs hA hR hbw hstep hsame hup hup0 hx
        go_wp2
        go_roundw
        case rel =>
          obtain ⟨h1, h2, h3, h4⟩ := HE.out
          exact ⟨k, q, d, rfl, by omega, by rw [h4]; exact h1, by rw [h4]; exact h2, h3, hsz⟩
        case measure => simp [intOf]
      · have hp0 : (x == 0) = false := by simpa using hp
        have HA : Hid (∀ W, Below wr.heap.size wr W → Calls Try.prog 12 #[.agg #[.slice q (spotsOf (upFrom a (k + 1))).length d], .int .i64 k, .int .i64 x] W fun r w' => ∃ p' c', r = .returned (.tuple #[.agg #[.slice p' (spotsOf ((upFrom a (k + 1)).set k x)).length c'], .int .i64 0]) ∧ w'.ownsRow W.heap.size 55 2 (.slice p' (spotsOf ((upFrom a (k + 1)).set k x)).length c') (spotsOf ((upFrom a (k + 1)).set k x)).length (tcells (spotsOf ((upFrom a (k + 1)).set k x))) ∧ Below W.heap.size W w' ∧ Below wr.heap.size wr W) := fun W hWW =>
          (add_fine _ (upFrom a (k + 1)) k x W hup ((TmAt.below (rowAt_own hO) hWW)) hk12 ⟨by omega, hx8⟩ hup0).mono fun r w' ⟨p', c', h1, h2, h3⟩ => ⟨p', c', h1, h2, h3, hWW⟩
        rw [← hstep] at HA
        obtain ⟨m', hm'⟩ : ∃ m', m' = spotsOf (upFrom a k) := ⟨_, rfl⟩
        obtain ⟨m0, hm0⟩ : ∃ m0, m0 = spotsOf (upFrom a (k + 1)) := ⟨_, rfl⟩
        rw [← hm', ← hm0] at HA
        rw [← hm0] at hcS hS
        have hfS := one_frozen hS
        have tlt := hA.lt
        have slt := (Array.getElem?_eq_some_iff.1 hS).1
        have HE : Hid (_ ∧ _ ∧ _) := ⟨hS, hbr, hm'⟩
        clear hS hO hbr hA hR hbw hstep hsame hup hup0 hx hm' hm0
        go_upto_region 7 with fail
        go_cut [8, 9] from 24 to 35 (fun b e wx => ∃ p' c' g, b = .pointer (some ⟨g, 0, none⟩) ∧ e = .int .i64 0 ∧ wx.heap[g]? = some (.cells #[.slice p' m'.length c'] 24 (0, 0)) ∧ wx.ownsRow wr.heap.size 55 2 (.slice p' m'.length c') m'.length (tcells m') ∧ Below wr.heap.size wr wx ∧ wr.heap.size ≤ g)
        case first =>
          go_region_with (first | (go_at_call 12; refine (HA.out _ (by first | exact (Below.refl _ _).drew | exact ((Below.refl _ _).drew).alloc (by simp) _ | exact ((Below.refl _ _).alloc (Nat.le_refl _) _).drew)).mono ?_; rintro r w4 ⟨p', c', rfl, hO4, hb4, hb3⟩; obtain ⟨hc4, hf4⟩ := bcell hb4))
          all_goals
            go_wp2_with fail
            go_meet
            first
            | exact ⟨p', c', w4.heap.size, rfl, rfl, heap_alloc_new _ _, (hO4.alloc _).mono hb3.size, (hb3.trans (hb4.mono hb3.size)).alloc (Nat.le_trans hb3.size hb4.size) _, Nat.le_trans hb3.size hb4.size⟩
            | exact ⟨p', c', wr.heap.size, rfl, rfl, one_set ((hb4.block wr.heap.size (by simp)).trans (heap_alloc_new wr _)), (own_block hO4 (fun g hg => Below.heap_setCell _ _ _ _ (by have := (hO4.lt g hg).1; simp at this ⊢; omega))).mono hb3.size, (hb3.trans (hb4.mono hb3.size)).setCell (by simp) _, Nat.le_refl _⟩
        case rest =>
        obtain ⟨p', c', g, rfl, rfl, hXg, hO4, hb4, hg⟩ := hcut
        have z0 := one_cell hXg
        have y0 := one_cell (box_below HE.out.1 hb4)
        have yf := one_frozen (box_below HE.out.1 hb4)
        have H5 : Hid (_ ∧ _ ∧ _ ∧ _) := ⟨box_below HE.out.1 hb4, hO4, HE.out.2.1.trans (hb4.mono HE.out.2.1.size), HE.out.2.2⟩
        have hsz2 := hb4.size
        clear hXg hO4 hb4
        go_wp2
        go_roundw
        case rel =>
          obtain ⟨h1, h2, h3, h4⟩ := H5.out
          subst h4
          refine ⟨k, p', c', rfl, by omega, one_set h1, ?_, h3.setCell (by simp) _, by simp; omega⟩
          exact (own_block h2 (fun g hg => Below.heap_setCell _ _ _ _ (by have := (h2.lt g hg).1; simp; omega))).mono (by omega)
        case measure => simp [intOf]
end Go.Proofs.Ytpmobbbohchdlaa.Walks
