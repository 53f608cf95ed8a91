/-
  RingBack where the backend has a weight. Condition: the members can be read.
-/
import Derived.Test.YtpmobbbohchdlaaRFine
import Derived.Test.YtpmobbbohchdlaaRingedF
import Derived.Test.YtpmobbbohchdlaaKeepSame
import Derived.Deep.CutRange
import Derived.WalkKit
import Derived.ProofKit
import Derived.Handy
import Derived.LoopTactic
import Derived.Below
import Derived.Laws.BitsAllLaws
import Derived.RegionTactic
import Derived.Deep.RegionHeld3
import Derived.Deep.DrawnRows
import Derived.Deep.AppendLies
import Derived.Laws.OwnMore
import Derived.Deep.Onto
import Derived.Deep.QuietTactic
import Derived.BigQuiet
namespace Go.Proofs.Ytpmobbbohchdlaa.Walks
open Go.RowKit
set_option linter.unusedVariables false
set_option linter.unusedSimpArgs false
attribute [local go_sem ↓] Go.wp_at_zero Go.wp_at_succ

theorem set_zeroB {a : List Int} (ha : Wts a) (b : Nat) (hb : b < 12) (h0 : ¬ 0 < a.getD b 0) (x : Int) : (a.set b x).set b 0 = a := by
  have hl : b < a.length := by rw [ha.len]; exact hb
  have e : a.getD b 0 = 0 := by have := ha.low b; omega
  rw [List.set_set]
  apply List.ext_getElem?
  intro j
  by_cases h : j = b
  · subst h
    rw [List.getElem?_set_self hl, List.getElem?_eq_getElem hl]
    rw [List.getD_eq_getElem?_getD, List.getElem?_eq_getElem hl] at e
    simp only [Option.getD_some] at e
    rw [e]
  · rw [List.getElem?_set_ne (Ne.symm h)]

theorem set_backB {a : List Int} (ha : Wts a) (b : Nat) (hb : b < 12) : (a.set b 0).set b (a.getD b 0) = a := by
  have hl : b < a.length := by rw [ha.len]; exact hb
  rw [List.set_set]
  apply List.ext_getElem?
  intro j
  by_cases h : j = b
  · subst h
    rw [List.getElem?_set_self hl, List.getElem?_eq_getElem hl, List.getD_eq_getElem?_getD, List.getElem?_eq_getElem hl]
    rfl
  · rw [List.getElem?_set_ne (Ne.symm h)]

theorem set_atB {a : List Int} (ha : Wts a) (b : Nat) (hb : b < 12) (x : Int) : (a.set b x).getD b 0 = x := by
  rw [List.getD_eq_getElem?_getD, List.getElem?_set_self (by rw [ha.len]; exact hb)]
  rfl

set_option maxHeartbeats 60000000 in
set_option maxRecDepth 100000 in
theorem ringBack_pos (w : World) (v : Value) (l : List Tm) (hv : TmAt w v l) (hwf : ∀ t ∈ l, (Lit.int .i64 t.1).wf = true ∧ (Lit.int .i64 t.2).wf = true) (nb nk : Int) (kk b : Nat) (hkk : kk < 8) (hb12 : b < 12) (HPk : ∀ W, Calls Try.prog 21 #[.int .i64 nk, .int .i64 (8 : Nat)] W fun r w' => r = .returned (.int .i64 (kk : Int)) ∧ w' = W) (HPb : ∀ W, Calls Try.prog 21 #[.int .i64 nb, .int .i64 (12 : Nat)] W fun r w' => r = .returned (.int .i64 (b : Int)) ∧ w' = W) (hp0 : 0 < (aOf l).getD b 0) :
    Calls Try.prog 7 #[v, .int .i64 nb, .int .i64 nk] w fun r w' => r = .returned (.bool true) ∧ Below w.heap.size w w' := by
  have HV : Hid (_ ∧ _ ∧ _ ∧ _) := ⟨hv, hwf, HPk, HPb⟩
  clear hv hwf HPk HPb
  go_enter Try.func7, Try.ntmps7
  go_wp2_with fail
  refine (ringedF_any _ l _ HV.out.1 HV.out.2.1).mono ?_
  rintro r w1 ⟨a, p, c, hEa, rfl, ha, ho, hpos, hb1⟩
  rw [← hEa] at hp0
  have HP : Hid _ := hp0
  clear hp0 hEa
  obtain ⟨W2, hW2, t1, t2, t3, hR2, hA2, hb2⟩ := begun w w1 a _ ha (rowAt_own ho) hb1
  have hl384 := spotsOf_len ha
  have hg1 := hb1.size
  obtain ⟨m, hm⟩ : ∃ m, m = spotsOf a := ⟨_, rfl⟩
  rw [← hm] at hR2 hl384 hW2 t1 ⊢
  have hcb := hA2.at b hb12
  have hbI : (b : Int) < 12 := by omega
  obtain ⟨x, hx⟩ : ∃ x, x = a.getD b 0 := ⟨_, rfl⟩
  rw [← hx] at hcb
  have hx0 : 0 ≤ x := by rw [hx]; exact ha.low b
  have hx8 : x ≤ 8 := by rw [hx]; exact ha.high b
  have hcR := hR2.cell
  have tlt := hA2.lt
  have H1 : Hid (_ ∧ _ ∧ _ ∧ _ ∧ _ ∧ _) := ⟨hb2, hR2, hA2, ha, hm, hx⟩
  have HB : Hid (_ ∧ _ ∧ _ ∧ _) := ⟨hW2, t1, t2, t3⟩
  clear ha ho hpos hb1 hW2 t1 t2 t3 hR2 hA2 hb2 hm hx
  go_wp2_with ((with_reducible refine wpList_store_mid rfl 40 (.tmp 8) (.tmp 25) rfl (w1.heap.size + 1) 0 (icells a).toArray ?hx ?hy ?ht ?hi ?h1 ?_); (case hx => rfl); (case hy => rfl); (case ht => exact HB.out.2.1); (case hi => exact HB.out.2.2.1); (case h1 => exact HB.out.2.2.2); rw [List.toList_toArray, ← HB.out.1])
  refine (HV.out.2.2.2 _).mono ?_
  rintro r w3 ⟨rfl, rfl⟩
  clear HB
  obtain ⟨hb2, hR2, hA2, ha, hm, hx⟩ := H1.out
  have hp : 0 < x := by rw [hx]; exact HP.out
  have h0 : 0 < a.getD b 0 := by rw [← hx]; exact hp
  have hw0 := ha.set b 0 (by omega) (by omega)
  have hRm := fun W hT => remove_fine (.slice p m.length c) a b W ha hT hb12 h0
  have hat0 : ¬ 0 < (a.set b 0).getD b 0 := by rw [set_atB ha b hb12]; omega
  have hAd := fun q d W hT => add_fine (.slice q (spotsOf (a.set b 0)).length d) (a.set b 0) b x W hw0 hT hb12 ⟨by omega, hx8⟩ hat0
  have hln := spots_set_len hw0 b x hb12 hat0
  have hbk := set_backB ha b hb12
  rw [← hx] at hbk
  rw [hbk] at hAd hln
  obtain ⟨m0, hm0⟩ : ∃ m0, m0 = spotsOf (a.set b 0) := ⟨_, rfl⟩
  rw [← hm0] at hRm hAd hln
  rw [← hm] at hRm hAd hln
  have hlI : (m0.length : Int) < (m.length : Int) := by omega
  have hl0 : m0.length ≤ 384 := by omega
  have HA : Hid (_ ∧ _ ∧ _ ∧ _) := ⟨hRm, hAd, hb2, hR2⟩
  have HAr : Hid (_ ∧ True) := ⟨hA2, trivial⟩
  clear hRm hAd hb2 hR2 hA2 ha hm hx hw0 hat0 hln hbk hm0 h0 H1 HV
  go_wp2_with fail
  refine (HA.out.1 _ HA.out.2.2.2.2).mono ?_
  rintro r w6 ⟨p6, c6, rfl, ho6, hb6⟩
  obtain ⟨W6, hW6⟩ : ∃ W6, W6 = w6.alloc (.cells #[.slice p6 m0.length c6] 24) := ⟨_, rfl⟩
  have hbx : Below w6.heap.size w6 W6 := by rw [hW6]; exact below_new _ _
  have hX6 : BoxR W6 w6.heap.size (.slice p6 m0.length c6) m0 := by rw [hW6]; exact BoxR.new (rowAt_own ho6)
  have hR6 := (HA.out.2.2.2.below hb6).below hbx
  have hA6 := (HAr.out.1.below hb6).below hbx
  have hbw6 := (HA.out.2.2.1.trans (hb6.mono HA.out.2.2.1.size)).trans (hbx.mono (by have h1 := HA.out.2.2.1.size; have h2 := hb6.size; omega))
  have hcb6 := (hA6.at b hb12)
  have hcb6' : W6.cell? ⟨w1.heap.size + 1, b, none⟩ = some (.int .i64 x) := by
    have e1 := (hb6.cell (p := ⟨w1.heap.size + 1, b, none⟩) tlt).trans hcb
    exact (hbx.cell (p := ⟨w1.heap.size + 1, b, none⟩) (Nat.lt_of_lt_of_le tlt hb6.size)).trans e1
  have hX6c := hX6.cell
  have hl6 := hX6.lt
  have hl7 := hA6.lt
  have HAd : Hid (∀ W, Below W6.heap.size W6 W → Calls Try.prog 12 #[.agg #[.slice p6 m0.length c6], .int .i64 b, .int .i64 x] W fun r w' => ∃ p' c', r = .returned (.tuple #[.agg #[.slice p' m.length c'], .int .i64 0]) ∧ w'.ownsRow W.heap.size 55 2 (.slice p' m.length c') m.length (tcells m) ∧ Below W.heap.size W w' ∧ Below W6.heap.size W6 W) := fun W hWW =>
    (HA.out.2.1 _ _ W (hX6.2.below hWW)).mono fun r w' ⟨p', c', h1, h2, h3⟩ => ⟨p', c', h1, h2, h3, hWW⟩
  have H6 : Hid (_ ∧ _ ∧ _ ∧ _) := ⟨hX6, hR6, hbw6, hW6⟩
  clear hX6 hR6 hbw6 hW6 hbx hb6 ho6 hA6 hcb6 hcb hcR HAr
  go_upto_region 7 with fail
  rw [← H6.out.2.2.2]
  go_cut [13, 14] from 41 to 49 (fun b e wx => ∃ p' c' g, b = .pointer (some ⟨g, 0, none⟩) ∧ e = .int .i64 0 ∧ wx.heap[g]? = some (.cells #[.slice p' m.length c'] 24 (0, 0)) ∧ TmAt wx (.slice p' m.length c') m ∧ Below W6.heap.size W6 wx ∧ W6.heap.size ≤ g)
  case first =>
    go_region_with (first | (go_at_call 12; refine (HAd.out _ (by first | exact (Below.refl _ _).drew | exact ((Below.refl _ _).drew).alloc (by simp) _ | exact ((Below.refl _ _).alloc (Nat.le_refl _) _).drew)).mono ?_; rintro r w4 ⟨p', c', rfl, hO4, hb4, hb3⟩; obtain ⟨hc4, hf4⟩ := bcell hb4))
    all_goals
      go_wp2_with fail
      go_meet
      first
      | exact ⟨p', c', w4.heap.size, rfl, rfl, heap_alloc_new _ _, rowAt_own (hO4.alloc _), (hb3.trans (hb4.mono hb3.size)).alloc (Nat.le_trans hb3.size hb4.size) _, Nat.le_trans hb3.size hb4.size⟩
      | exact ⟨p', c', W6.heap.size, rfl, rfl, one_set ((hb4.block W6.heap.size (by simp)).trans (heap_alloc_new W6 _)), rowAt_own (own_block hO4 (fun g hg => Below.heap_setCell _ _ _ _ (by have := (hO4.lt g hg).1; simp at this ⊢; omega))), (hb3.trans (hb4.mono hb3.size)).setCell (by simp) _, Nat.le_refl _⟩
  case rest =>
  obtain ⟨p', c', g, rfl, rfl, hXg, hT4, hb4, hg⟩ := hcut
  have z0 := one_cell hXg
  have hR7 := H6.out.2.1.below hb4
  have hX7 := H6.out.1.below hb4
  have z1 := hR7.cell
  have z2 := hX7.cell
  have H7 : Hid (_ ∧ _ ∧ _ ∧ _) := ⟨hT4, hR7, hX7, H6.out.2.2.1.trans (hb4.mono H6.out.2.2.1.size)⟩
  clear hXg hT4 hb4 hR7 hX7
  go_wp2_with fail
  refine (keepSame _ _ m m _ H7.out.1 H7.out.2.1.2).mono ?_
  rw [decide_eq_true rfl]
  rintro r w9 ⟨rfl, hb9⟩
  have y1 := (H7.out.2.1.below hb9).cell
  have y2 := (H7.out.2.2.1.below hb9).cell
  have H9 : Hid _ := H7.out.2.2.2.trans (hb9.mono H7.out.2.2.2.size)
  clear hb9 z0 z1 z2
  go_wp2
  go_ret
  exact ⟨by simp, H9.out⟩
end Go.Proofs.Ytpmobbbohchdlaa.Walks
