/-
  RingSteady returns true. Condition: the members can be read.
-/
import Derived.Test.YtpmobbbohchdlabSteadyP
import Derived.Test.YtpmobbbohchdlabIntsK
import Derived.WalkKit
import Derived.ProofKit
import Derived.Handy
import Derived.LoopTactic
import Derived.Below
import Derived.Laws.BitsAllLaws
import Derived.RegionTactic
import Derived.Deep.RegionHeld3
import Derived.Deep.DrawnRows
import Derived.Deep.AppendLies
import Derived.Laws.OwnMore
import Derived.Deep.Onto
import Derived.Deep.QuietTactic
import Derived.BigQuiet
namespace Go.Proofs.Ytpmobbbohchdlab.Walks
open Go.RowKit
set_option linter.unusedVariables false
set_option linter.unusedSimpArgs false
attribute [local go_sem ↓] Go.wp_at_zero Go.wp_at_succ

theorem set_zero {a : List Int} (ha : Wts a) (b : Nat) (hb : b < 12) (h0 : ¬ 0 < a.getD b 0) (x : Int) : (a.set b x).set b 0 = a := by
  have hl : b < a.length := by rw [ha.len]; exact hb
  have e : a.getD b 0 = 0 := by have := ha.low b; omega
  rw [List.set_set]
  apply List.ext_getElem?
  intro j
  by_cases h : j = b
  · subst h
    rw [List.getElem?_set_self hl, List.getElem?_eq_getElem hl]
    rw [List.getD_eq_getElem?_getD, List.getElem?_eq_getElem hl] at e
    simp only [Option.getD_some] at e
    rw [e]
  · rw [List.getElem?_set_ne (Ne.symm h)]

/-- A backend that comes: without it the walk is the old one. -/
theorem walk_add {a : List Int} (ha : Wts a) (b : Nat) (hb : b < 12) (h0 : ¬ 0 < a.getD b 0) (x : Int) (hx : 1 ≤ x ∧ x ≤ 8) (at_ : Int) : wo (walkAt (spotsOf (a.set b x)) at_) (b : Int) = walkAt (spotsOf a) at_ ∧ (walkAt (spotsOf (a.set b x)) at_).length = (walkAt (spotsOf a) at_).length + 1 := by
  have hw := ha.set b x (by omega) (by omega)
  have e := walk_kp (spotsOf (a.set b x)) (b : Int) at_
  rw [kp_spots hw b hb, set_zero ha b hb h0 x] at e
  refine ⟨e.symm, ?_⟩
  have hm : (b : Int) ∈ walkAt (spotsOf (a.set b x)) at_ := by
    rw [mem_walk]
    refine has_spot (ringOk_spots hw) b hb ?_
    rw [wOf_spotsOf hw, List.getD_eq_getElem?_getD, List.getElem?_set_self (by rw [ha.len]; exact hb)]
    simp only [Option.getD_some]
    omega
  have := wo_len_mem _ _ (walk_nodup (spotsOf (a.set b x)) at_) hm
  rw [← e] at this
  exact this.symm

/-- A backend that goes. -/
theorem walk_rem {a : List Int} (ha : Wts a) (b : Nat) (hb : b < 12) (h0 : 0 < a.getD b 0) (at_ : Int) : walkAt (spotsOf (a.set b 0)) at_ = wo (walkAt (spotsOf a) at_) (b : Int) ∧ (walkAt (spotsOf (a.set b 0)) at_).length + 1 = (walkAt (spotsOf a) at_).length := by
  have e := walk_kp (spotsOf a) (b : Int) at_
  rw [kp_spots ha b hb] at e
  refine ⟨e, ?_⟩
  rw [e]
  refine wo_len_mem _ _ (walk_nodup _ _) ?_
  rw [mem_walk]
  exact has_spot (ringOk_spots ha) b hb (by rw [wOf_spotsOf ha]; exact h0)

set_option maxHeartbeats 8000000 in
set_option maxRecDepth 100000 in
theorem ringSteady_row (w : World) (v : Value) (l : List Tm) (hv : TmAt w v l) (hwf : ∀ t ∈ l, (Lit.int .i64 t.1).wf = true ∧ (Lit.int .i64 t.2).wf = true) (hl : l.length ≤ 140737488351232 / 16) (nb : Int) (wb : (Lit.int .i64 nb).wf = true) (n : Int) (wn : (Lit.int .i64 n).wf = true) :
    Calls Try.prog 4 #[v, .int .i64 nb, .int .i64 n] w fun r w' => r = .returned (.bool true) ∧ Below w.heap.size w w' := by
  obtain ⟨key, hkey, HP⟩ := picked_some n 4294967296 wn (by omega) (by omega)
  obtain ⟨b, hb12, HPb⟩ := picked_some nb 12 wb (by omega) (by omega)
  have HV : Hid (_ ∧ _ ∧ _ ∧ _) := ⟨hv, hwf, HP, HPb⟩
  clear hv hwf HP HPb wn wb hl
  go_enter Try.func4, Try.ntmps4
  go_wp2_with fail
  refine (ringed_any _ l _ HV.out.1 HV.out.2.1).mono ?_
  rintro r w1 ⟨a, p, c, rfl, ha, ho, hpos, hb1⟩
  obtain ⟨W2, hW2, t1, t2, t3, hR2, hA2, hb2⟩ := begun w w1 a _ ha (rowAt_own ho) hb1
  have hl384 := spotsOf_len ha
  obtain ⟨at_, hat⟩ : ∃ at_ : Int, at_ = (keyMix key : Nat) := ⟨_, rfl⟩
  have hWk := fun W hT => walk_fine (.slice p (spotsOf a).length c) a key W ha hT hkey
  rw [← hat] at hWk
  have hwl := walk_len (spotsOf a) at_
  have hg1 := hb1.size
  obtain ⟨m, hm⟩ : ∃ m, m = spotsOf a := ⟨_, rfl⟩
  rw [← hm] at hR2 hWk hl384 hW2 t1 hwl ⊢
  have H1 : Hid (_ ∧ _ ∧ _ ∧ _ ∧ _ ∧ _ ∧ _) := ⟨hb2, hR2, hWk, hA2, ha, hm, hat⟩
  have HB : Hid (_ ∧ _ ∧ _ ∧ _) := ⟨hW2, t1, t2, t3⟩
  clear ha ho hpos hb1 hW2 t1 t2 t3 hR2 hA2 hb2 hWk hm hat
  go_wp2_with ((with_reducible refine wpList_store_mid rfl 26 (.tmp 8) (.tmp 26) rfl (w1.heap.size + 1) 0 (icells a).toArray ?hx ?hy ?ht ?hi ?h1 ?_); (case hx => rfl); (case hy => rfl); (case ht => exact HB.out.2.1); (case hi => exact HB.out.2.2.1); (case h1 => exact HB.out.2.2.2); rw [List.toList_toArray, ← HB.out.1])
  refine (HV.out.2.2.2 _).mono ?_
  rintro r w3 ⟨rfl, rfl⟩
  go_wp2_with fail
  refine (HV.out.2.2.1 _).mono ?_
  rintro r w4 ⟨rfl, rfl⟩
  have hc4 := H1.out.2.1.cell
  go_wp2_with fail
  refine (H1.out.2.2.1 _ H1.out.2.1.2).mono ?_
  rintro r w5 ⟨p5, c5, rfl, ho5, hb5⟩
  have hR5 := H1.out.2.1.below hb5
  have hA5 := H1.out.2.2.2.1.below hb5
  have hc5 := hR5.cell
  have hT5 : IntsAt w5 (.slice p5 (walkAt m at_).length c5) (walkAt m at_) := rowAt_own ho5
  have hcb := hA5.at b hb12
  have hbI : (b : Int) < 12 := by omega
  obtain ⟨x, hx⟩ : ∃ x, x = a.getD b 0 := ⟨_, rfl⟩
  rw [← hx] at hcb
  have hx0 : 0 ≤ x := by rw [hx]; exact H1.out.2.2.2.2.1.low b
  have H5 : Hid (_ ∧ _ ∧ _ ∧ _) := ⟨H1.out.1.trans (hb5.mono H1.out.1.size), hR5, hT5, hx⟩
  clear hb5 hR5 ho5 hc4 hT5 hA5 hx
  by_cases hp : x = 0
  · subst hp
    have h0 : ¬ 0 < a.getD b 0 := by rw [← H5.out.2.2.2]; omega
    have haw := walk_add H1.out.2.2.2.2.1 b hb12 h0 3 (by omega) at_
    have hw3 := H1.out.2.2.2.2.1.set b 3 (by omega) (by omega)
    have hAd := fun W hT => add_fine (.slice p m.length c) a b 3 W H1.out.2.2.2.2.1 hT hb12 (by omega) h0
    rw [← H1.out.2.2.2.2.2.1] at hAd haw
    obtain ⟨a', ha'⟩ : ∃ a', a' = a.set b 3 := ⟨_, rfl⟩
    rw [← ha'] at hAd haw hw3
    have hWk2 := fun p' c' W hT => walk_fine (.slice p' (spotsOf a').length c') a' key W hw3 hT hkey
    rw [← H1.out.2.2.2.2.2.2] at hWk2
    have hl2 := Nat.le_trans (walk_len (spotsOf a') at_) (spotsOf_len hw3)
    obtain ⟨m', hm'⟩ : ∃ m', m' = spotsOf a' := ⟨_, rfl⟩
    rw [← hm'] at hAd haw hWk2 hl2
    have HA : Hid (_ ∧ _ ∧ _) := ⟨hAd, hWk2, haw.1⟩
    have HLw : Hid _ := haw.2
    clear hAd hWk2 haw ha' hw3 hm' h0
    go_wp2_with fail
    refine (HA.out.1 _ H5.out.2.1.2).mono ?_
    rintro r w6 ⟨p6, c6, rfl, ho6, hb6⟩
    obtain ⟨W6, hW6⟩ : ∃ W6, W6 = w6.alloc (.cells #[.slice p6 m'.length c6] 25) := ⟨_, rfl⟩
    have hbx : Below w6.heap.size w6 W6 := by rw [hW6]; exact below_new _ _
    have hT6 : TmAt w6 (.slice p6 m'.length c6) m' := rowAt_own ho6
    have hb66 := H5.out.1.trans (hb6.mono H5.out.1.size)
    have hI6 := (H5.out.2.2.1.below hb6).below hbx
    have H6 : Hid (_ ∧ _ ∧ _ ∧ _) := ⟨hb66.trans (hbx.mono hb66.size), hT6.below hbx, hI6, hW6⟩
    clear hbx hT6 hb66 hW6 ho6 hb6 hI6
    go_wp2_with fail
    rw [← H6.out.2.2.2]
    refine (HA.out.2.1 _ _ _ H6.out.2.1).mono ?_
    rintro r w7 ⟨p7, c7, rfl, ho7, hb7⟩
    have hT7 : IntsAt w7 (.slice p7 (walkAt m' at_).length c7) (walkAt m' at_) := rowAt_own ho7
    have hI7 := H6.out.2.2.1.below hb7
    have H7 : Hid (_ ∧ _ ∧ _) := ⟨H6.out.1.trans (hb7.mono H6.out.1.size), hT7, hI7⟩
    have hlI : (((walkAt m' at_).length : Int) == ((walkAt m at_).length : Int) + 1) = true := by have hlw := HLw.out; rw [beq_iff_eq]; omega
    have HE := HA.out.2.2
    obtain ⟨o1, ho1⟩ : ∃ o1, o1 = walkAt m' at_ := ⟨_, rfl⟩
    obtain ⟨o0, ho0⟩ : ∃ o0, o0 = walkAt m at_ := ⟨_, rfl⟩
    rw [← ho1, ← ho0] at HE
    rw [← ho1, ← ho0] at H7 hlI
    rw [← ho1] at hl2 ⊢
    rw [← ho0] at hwl ⊢
    have HEE : Hid _ := HE
    clear hT7 hI7 hb7 ho7 HE ho1 ho0 H6 HA H5 H1 HLw
    go_wp2_with fail
    refine (without_any _ o1 (b : Int) _ H7.out.2.1 (by omega)).mono ?_
    rintro r w8 ⟨p8, c8, rfl, ho8, hb8⟩
    have hT8 : IntsAt w8 (.slice p8 (wo o1 (b : Int)).length c8) (wo o1 (b : Int)) := rowAt_own ho8
    rw [HEE.out] at hT8 ⊢
    have H8 : Hid (_ ∧ _ ∧ _) := ⟨H7.out.1.trans (hb8.mono H7.out.1.size), hT8, H7.out.2.2.below hb8⟩
    clear hT8 hb8 ho8 hl2 hwl hl384 hcb hc5 hlI
    go_wp2_with fail
    refine (keepInts _ _ o0 _ H8.out.2.1 H8.out.2.2).mono ?_
    rintro r w9 ⟨rfl, hb9⟩
    go_wp2
    go_ret
    exact ⟨rfl, H8.out.1.trans (hb9.mono H8.out.1.size)⟩
  · have hp0 : (x == 0) = false := by simpa using hp
    have h0 : 0 < a.getD b 0 := by rw [← H5.out.2.2.2]; omega
    have haw := walk_rem H1.out.2.2.2.2.1 b hb12 h0 at_
    have hw3 := H1.out.2.2.2.2.1.set b 0 (by omega) (by omega)
    have hAd := fun W hT => remove_fine (.slice p m.length c) a b W H1.out.2.2.2.2.1 hT hb12 h0
    rw [← H1.out.2.2.2.2.2.1] at hAd haw
    obtain ⟨a', ha'⟩ : ∃ a', a' = a.set b 0 := ⟨_, rfl⟩
    rw [← ha'] at hAd haw hw3
    have hWk2 := fun p' c' W hT => walk_fine (.slice p' (spotsOf a').length c') a' key W hw3 hT hkey
    rw [← H1.out.2.2.2.2.2.2] at hWk2
    have hl2 := Nat.le_trans (walk_len (spotsOf a') at_) (spotsOf_len hw3)
    obtain ⟨m', hm'⟩ : ∃ m', m' = spotsOf a' := ⟨_, rfl⟩
    rw [← hm'] at hAd haw hWk2 hl2
    have HA : Hid (_ ∧ _ ∧ _) := ⟨hAd, hWk2, haw.1⟩
    have HLw : Hid _ := haw.2
    clear hAd hWk2 haw ha' hw3 hm' h0
    go_wp2_with fail
    refine (HA.out.1 _ H5.out.2.1.2).mono ?_
    rintro r w6 ⟨p6, c6, rfl, ho6, hb6⟩
    obtain ⟨W6, hW6⟩ : ∃ W6, W6 = w6.alloc (.cells #[.slice p6 m'.length c6] 25) := ⟨_, rfl⟩
    have hbx : Below w6.heap.size w6 W6 := by rw [hW6]; exact below_new _ _
    have hT6 : TmAt w6 (.slice p6 m'.length c6) m' := rowAt_own ho6
    have hb66 := H5.out.1.trans (hb6.mono H5.out.1.size)
    have hI6 := (H5.out.2.2.1.below hb6).below hbx
    have H6 : Hid (_ ∧ _ ∧ _ ∧ _) := ⟨hb66.trans (hbx.mono hb66.size), hT6.below hbx, hI6, hW6⟩
    clear hbx hT6 hb66 hW6 ho6 hb6 hI6
    go_wp2_with fail
    rw [← H6.out.2.2.2]
    refine (HA.out.2.1 _ _ _ H6.out.2.1).mono ?_
    rintro r w7 ⟨p7, c7, rfl, ho7, hb7⟩
    have hT7 : IntsAt w7 (.slice p7 (walkAt m' at_).length c7) (walkAt m' at_) := rowAt_own ho7
    have hI7 := H6.out.2.2.1.below hb7
    have H7 : Hid (_ ∧ _ ∧ _) := ⟨H6.out.1.trans (hb7.mono H6.out.1.size), hT7, hI7⟩
    have hlI : (((walkAt m' at_).length : Int) == ((walkAt m at_).length : Int) - 1) = true := by have hlw := HLw.out; rw [beq_iff_eq]; omega
    have HE := HA.out.2.2
    obtain ⟨o1, ho1⟩ : ∃ o1, o1 = walkAt m' at_ := ⟨_, rfl⟩
    obtain ⟨o0, ho0⟩ : ∃ o0, o0 = walkAt m at_ := ⟨_, rfl⟩
    rw [← ho1, ← ho0] at HE
    rw [← ho1, ← ho0] at H7 hlI
    rw [← ho1] at hl2 ⊢
    rw [← ho0] at hwl ⊢
    have HEE : Hid _ := HE
    clear hT7 hI7 hb7 ho7 HE ho1 ho0 H6 HA H5 H1 HLw
    go_wp2_with fail
    refine (without_any _ o0 (b : Int) _ H7.out.2.2 (by omega)).mono ?_
    rintro r w8 ⟨p8, c8, rfl, ho8, hb8⟩
    have hT8 : IntsAt w8 (.slice p8 (wo o0 (b : Int)).length c8) (wo o0 (b : Int)) := rowAt_own ho8
    rw [← HEE.out] at hT8 ⊢
    have H8 : Hid (_ ∧ _ ∧ _) := ⟨H7.out.1.trans (hb8.mono H7.out.1.size), hT8, H7.out.2.1.below hb8⟩
    clear hT8 hb8 ho8 hl2 hwl hl384 hcb hc5 hlI
    go_wp2_with fail
    refine (keepInts _ _ o1 _ H8.out.2.2 H8.out.2.1).mono ?_
    rintro r w9 ⟨rfl, hb9⟩
    go_wp2
    go_ret
    exact ⟨rfl, H8.out.1.trans (hb9.mono H8.out.1.size)⟩
end Go.Proofs.Ytpmobbbohchdlab.Walks
