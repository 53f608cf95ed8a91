/-
  RingBack where the backend has no weight. Condition: the members can be read.
-/
import Derived.Test.YtpmobbbohchdlaaLBackA
import Derived.WalkKit
import Derived.ProofKit
import Derived.Handy
import Derived.LoopTactic
import Derived.Below
import Derived.Laws.BitsAllLaws
import Derived.RegionTactic
import Derived.Deep.RegionHeld3
import Derived.Deep.DrawnRows
import Derived.Deep.AppendLies
import Derived.Laws.OwnMore
import Derived.Deep.Onto
import Derived.Deep.QuietTactic
import Derived.BigQuiet
namespace Go.Proofs.Ytpmobbbohchdlaa.Walks
open Go.RowKit
set_option linter.unusedVariables false
set_option linter.unusedSimpArgs false
attribute [local go_sem ↓] Go.wp_at_zero Go.wp_at_succ

set_option maxHeartbeats 60000000 in
set_option maxRecDepth 100000 in
theorem ringBack_zero (w : World) (v : Value) (l : List Tm) (hv : TmAt w v l) (hwf : ∀ t ∈ l, (Lit.int .i64 t.1).wf = true ∧ (Lit.int .i64 t.2).wf = true) (nb nk : Int) (kk b : Nat) (hkk : kk < 8) (hb12 : b < 12) (HPk : ∀ W, Calls Try.prog 21 #[.int .i64 nk, .int .i64 (8 : Nat)] W fun r w' => r = .returned (.int .i64 (kk : Int)) ∧ w' = W) (HPb : ∀ W, Calls Try.prog 21 #[.int .i64 nb, .int .i64 (12 : Nat)] W fun r w' => r = .returned (.int .i64 (b : Int)) ∧ w' = W) (hp0 : ¬ 0 < (aOf l).getD b 0) :
    Calls Try.prog 7 #[v, .int .i64 nb, .int .i64 nk] w fun r w' => r = .returned (.bool true) ∧ Below w.heap.size w w' := by
  have HV : Hid (_ ∧ _ ∧ _ ∧ _) := ⟨hv, hwf, HPk, HPb⟩
  clear hv hwf HPk HPb
  go_enter Try.func7, Try.ntmps7
  go_wp2_with fail
  refine (ringedF_any _ l _ HV.out.1 HV.out.2.1).mono ?_
  rintro r w1 ⟨a, p, c, hEa, rfl, ha, ho, hpos, hb1⟩
  rw [← hEa] at hp0
  have HP : Hid _ := hp0
  clear hp0 hEa
  obtain ⟨W2, hW2, t1, t2, t3, hR2, hA2, hb2⟩ := begun w w1 a _ ha (rowAt_own ho) hb1
  have hl384 := spotsOf_len ha
  have hg1 := hb1.size
  obtain ⟨m, hm⟩ : ∃ m, m = spotsOf a := ⟨_, rfl⟩
  rw [← hm] at hR2 hl384 hW2 t1 ⊢
  have hcb := hA2.at b hb12
  have hbI : (b : Int) < 12 := by omega
  obtain ⟨x, hx⟩ : ∃ x, x = a.getD b 0 := ⟨_, rfl⟩
  rw [← hx] at hcb
  have hx0 : 0 ≤ x := by rw [hx]; exact ha.low b
  have hx8 : x ≤ 8 := by rw [hx]; exact ha.high b
  have hcR := hR2.cell
  have tlt := hA2.lt
  have H1 : Hid (_ ∧ _ ∧ _ ∧ _ ∧ _ ∧ _) := ⟨hb2, hR2, hA2, ha, hm, hx⟩
  have HB : Hid (_ ∧ _ ∧ _ ∧ _) := ⟨hW2, t1, t2, t3⟩
  clear ha ho hpos hb1 hW2 t1 t2 t3 hR2 hA2 hb2 hm hx
  go_wp2_with ((with_reducible refine wpList_store_mid rfl 40 (.tmp 8) (.tmp 25) rfl (w1.heap.size + 1) 0 (icells a).toArray ?hx ?hy ?ht ?hi ?h1 ?_); (case hx => rfl); (case hy => rfl); (case ht => exact HB.out.2.1); (case hi => exact HB.out.2.2.1); (case h1 => exact HB.out.2.2.2); rw [List.toList_toArray, ← HB.out.1])
  refine (HV.out.2.2.2 _).mono ?_
  rintro r w3 ⟨rfl, rfl⟩
  clear HB
  obtain ⟨hb2, hR2, hA2, ha, hm, hx⟩ := H1.out
  have hp : ¬ 0 < x := by rw [hx]; have := HP.out; omega
  have hxz : x = 0 := by omega
  subst hxz
  have h0 : ¬ 0 < a.getD b 0 := by rw [← hx]; omega
  have hk1 : (1 : Int) ≤ 1 + (kk : Int) ∧ 1 + (kk : Int) ≤ 8 := ⟨by omega, by omega⟩
  have hw3 := ha.set b (1 + (kk : Int)) (by omega) (by omega)
  have hAd := fun W hT => add_fine (.slice p m.length c) a b (1 + (kk : Int)) W ha hT hb12 hk1 h0
  have hat3 : 0 < (a.set b (1 + (kk : Int))).getD b 0 := by rw [set_atB ha b hb12]; omega
  have hRm := fun q d W hT => remove_fine (.slice q (spotsOf (a.set b (1 + (kk : Int)))).length d) (a.set b (1 + (kk : Int))) b W hw3 hT hb12 hat3
  have hNo := fun W hT => remove_none (.slice p m.length c) a b W ha hT h0
  have hln := spots_set_len ha b (1 + (kk : Int)) hb12 h0
  have hl3 := spotsOf_len hw3
  rw [set_zeroB ha b hb12 h0] at hRm
  obtain ⟨m3, hm3⟩ : ∃ m3, m3 = spotsOf (a.set b (1 + (kk : Int))) := ⟨_, rfl⟩
  rw [← hm3] at hRm hAd hln hl3
  rw [← hm] at hRm hAd hln hNo
  have hlI : (m.length : Int) < (m3.length : Int) := by omega
  have HAd : Hid (∀ W, Below w3.heap.size w3 W → Calls Try.prog 12 #[.agg #[.slice p m.length c], .int .i64 b, .int .i64 (1 + kk)] W fun r w' => ∃ p' c', r = .returned (.tuple #[.agg #[.slice p' m3.length c'], .int .i64 0]) ∧ w'.ownsRow W.heap.size 55 2 (.slice p' m3.length c') m3.length (tcells m3) ∧ Below W.heap.size W w' ∧ Below w3.heap.size w3 W) := fun W hWW =>
    (hAd W (hR2.2.below hWW)).mono fun r w' ⟨p', c', h1, h2, h3⟩ => ⟨p', c', h1, h2, h3, hWW⟩
  have HA : Hid (_ ∧ _ ∧ _ ∧ _ ∧ _) := ⟨hRm, hNo, hb2, hR2, HV.out.2.2.1⟩
  have hwK : IntKind.i64.wrap (1 + (kk : Int)) = 1 + (kk : Int) := by rw [IntKind.wrap_i64]; omega
  have hlR := hR2.lt
  clear hRm hAd hb2 hR2 hA2 ha hm hx hw3 hat3 hln hm3 h0 H1 HV hNo hk1
  go_upto_region 9 with fail
  go_cut [15, 16] from 70 to 78 (fun b e wx => ∃ p' c' g, b = .pointer (some ⟨g, 0, none⟩) ∧ e = .int .i64 0 ∧ wx.heap[g]? = some (.cells #[.slice p' m3.length c'] 24 (0, 0)) ∧ TmAt wx (.slice p' m3.length c') m3 ∧ Below w3.heap.size w3 wx ∧ w3.heap.size ≤ g)
  case first =>
    go_region_with (first | (go_at_call 21; refine (HA.out.2.2.2.2 _).mono ?_; rintro r w4 ⟨rfl, rfl⟩) | (go_at_call 12; refine (HAd.out _ (by first | exact (Below.refl _ _).drew | exact ((Below.refl _ _).drew).alloc (by simp) _ | exact ((Below.refl _ _).alloc (Nat.le_refl _) _).drew)).mono ?_; rintro r w5 ⟨p', c', rfl, hO4, hb4, hb3⟩; obtain ⟨hc4, hf4⟩ := bcell hb4))
    all_goals
      go_wp2_with fail
      go_meet
      first
      | exact ⟨p', c', w5.heap.size, rfl, rfl, heap_alloc_new _ _, rowAt_own (hO4.alloc _), (hb3.trans (hb4.mono hb3.size)).alloc (Nat.le_trans hb3.size hb4.size) _, Nat.le_trans hb3.size hb4.size⟩
      | exact ⟨p', c', w3.heap.size, rfl, rfl, one_set ((hb4.block w3.heap.size (by simp)).trans (heap_alloc_new w3 _)), rowAt_own (own_block hO4 (fun g hg => Below.heap_setCell _ _ _ _ (by have := (hO4.lt g hg).1; simp at this ⊢; omega))), (hb3.trans (hb4.mono hb3.size)).setCell (by simp) _, Nat.le_refl _⟩
  case rest =>
  obtain ⟨p', c', g, rfl, rfl, hXg, hT4, hb4, hg⟩ := hcut
  have hX4 : BoxR _ g (.slice p' m3.length c') m3 := ⟨hXg, hT4⟩
  have hR4 := HA.out.2.2.2.1.below hb4
  have hbw4 := HA.out.2.2.1.trans (hb4.mono HA.out.2.2.1.size)
  have z0 := hX4.cell
  have H4 : Hid (_ ∧ _ ∧ _) := ⟨hX4, hR4, hbw4⟩
  clear hXg hT4 hb4 hR4 hbw4 hX4 hcb hcR
  go_wp2_with fail
  refine (HA.out.1 _ _ _ H4.out.1.2).mono ?_
  rintro r w6 ⟨p6, c6, rfl, ho6, hb6⟩
  obtain ⟨W6, hW6⟩ : ∃ W6, W6 = w6.alloc (.cells #[.slice p6 m.length c6] 24) := ⟨_, rfl⟩
  have hbx : Below w6.heap.size w6 W6 := by rw [hW6]; exact below_new _ _
  have hY6 : BoxR W6 w6.heap.size (.slice p6 m.length c6) m := by rw [hW6]; exact BoxR.new (rowAt_own ho6)
  have hR6 := (H4.out.2.1.below hb6).below hbx
  have hX6 := (H4.out.1.below hb6).below hbx
  have hb66 := H4.out.2.2.trans (hb6.mono H4.out.2.2.size)
  have hcR6 := (H4.out.2.1.below hb6).cell
  have hlR6 := (H4.out.2.1.below hb6).lt
  have H6 : Hid (_ ∧ _ ∧ _ ∧ _ ∧ _) := ⟨hb66.trans (hbx.mono hb66.size), hR6, hX6, hY6, hW6⟩
  clear hbx hY6 hR6 hX6 hb66 hW6 ho6 hb6 z0
  go_wp2_with fail
  rw [← H6.out.2.2.2.2]
  refine (HA.out.2.1 _ H6.out.2.1.2).mono ?_
  rintro r w7 ⟨rfl, hb7⟩
  have hR7 := H6.out.2.1.below hb7
  have hX7 := H6.out.2.2.1.below hb7
  have hY7 := H6.out.2.2.2.1.below hb7
  obtain ⟨W7, hW7⟩ : ∃ W7, W7 = w7.alloc (.cells #[.slice none 0 0] 24) := ⟨_, rfl⟩
  have hby : Below w7.heap.size w7 W7 := by rw [hW7]; exact below_new _ _
  have hb77 := H6.out.1.trans (hb7.mono H6.out.1.size)
  have y1 := hR7.cell
  have y2 := hX7.cell
  have y3 := hY7.cell
  have y4 := hR7.lt
  have y5 := hX7.lt
  have y6 := hY7.lt
  have H7 : Hid (_ ∧ _ ∧ _ ∧ _ ∧ _) := ⟨hb77.trans (hby.mono hb77.size), hR7.below hby, hX7.below hby, hY7.below hby, hW7⟩
  clear hR7 hX7 hY7 hb77 hby hW7 hb7 hcR6 hlR6
  go_wp2_with fail
  rw [← H7.out.2.2.2.2]
  refine (keepSame _ _ m m _ H7.out.2.2.2.1.2 H7.out.2.1.2).mono ?_
  rw [decide_eq_true rfl]
  rintro r w9 ⟨rfl, hb9⟩
  have u1 := (H7.out.2.1.below hb9).cell
  have u2 := (H7.out.2.2.1.below hb9).cell
  have H9 : Hid _ := H7.out.1.trans (hb9.mono H7.out.1.size)
  clear hb9 y1 y2 y3
  go_wp2
  go_ret
  exact ⟨by simp, H9.out⟩
end Go.Proofs.Ytpmobbbohchdlaa.Walks
