/-
  RingAll returns true. Condition: the members can be read.
-/
import Derived.Test.YtpmobbbohchdlabSteadyP
import Derived.Deep.CutRange
import Derived.WalkKit
import Derived.ProofKit
import Derived.Handy
import Derived.LoopTactic
import Derived.Below
import Derived.Laws.BitsAllLaws
import Derived.RegionTactic
import Derived.Deep.RegionHeld3
import Derived.Deep.DrawnRows
import Derived.Deep.AppendLies
import Derived.Laws.OwnMore
import Derived.Deep.Onto
import Derived.Deep.QuietTactic
import Derived.BigQuiet
namespace Go.Proofs.Ytpmobbbohchdlab.Walks
open Go.RowKit
set_option linter.unusedVariables false
set_option linter.unusedSimpArgs false
attribute [local go_sem ↓] Go.wp_at_zero Go.wp_at_succ

/-- How often each backend has been met. -/
def metL (out : List Int) : List Int := (List.range 12).map fun (b : Nat) => ((out.count (b : Int) : Nat) : Int)

theorem metL_len (out : List Int) : (metL out).length = 12 := by simp [metL]

theorem metL_at (out : List Int) (b : Nat) (hb : b < 12) : (metL out).getD b 0 = ((out.count (b : Int) : Nat) : Int) := by simp [metL, hb]

theorem metL_nil : metL [] = List.replicate 12 0 := rfl

theorem metL_snoc (out : List Int) (b : Nat) (hb : b < 12) : metL (out ++ [(b : Int)]) = (metL out).set b (((out.count (b : Int) : Nat) : Int) + 1) := by
  apply List.ext_getElem?
  intro j
  by_cases hj : j < 12
  · by_cases h : j = b
    · subst h
      rw [List.getElem?_set_self (by rw [metL_len]; exact hj)]
      simp [metL, hj, List.count_append]
    · rw [List.getElem?_set_ne (Ne.symm h)]
      have hne : ¬ ((b : Int) = (j : Int)) := by omega
      simp [metL, hj, List.count_append, List.count_cons, hne]
  · rw [List.getElem?_eq_none (by rw [metL_len]; omega), List.getElem?_eq_none (by rw [List.length_set, metL_len]; omega)]

theorem count_nodup : ∀ (l : List Int) (x : Int), l.Nodup → l.count x = if x ∈ l then 1 else 0
  | [], x, _ => by simp
  | y :: l, x, h => by
    have hd := List.nodup_cons.1 h
    rw [List.count_cons, count_nodup l x hd.2]
    by_cases e : y = x
    · subst e
      simp [hd.1]
    · have e2 : ¬ x = y := fun h => e h.symm
      simp [e, e2]

theorem walk_count {a : List Int} (ha : Wts a) (at_ : Int) (b : Nat) (hb : b < 12) : (walkAt (spotsOf a) at_).count (b : Int) = if 0 < a.getD b 0 then 1 else 0 := by
  rw [count_nodup _ _ (walk_nodup _ _)]
  have hiff : (b : Int) ∈ walkAt (spotsOf a) at_ ↔ 0 < a.getD b 0 := by
    rw [mem_walk]
    constructor
    · rintro ⟨t, ht, e⟩
      obtain ⟨b', i, h1, h2, rfl⟩ := mem_spotsOf.1 ht
      have e' : b' = b := by simp only at e; omega
      subst e'
      unfold wt at h2
      omega
    · intro h
      exact has_spot (ringOk_spots ha) b hb (by rw [wOf_spotsOf ha]; exact h)
  by_cases h : 0 < a.getD b 0
  · rw [if_pos h, if_pos (hiff.2 h)]
  · rw [if_neg h, if_neg (fun h2 => h (hiff.1 h2))]

theorem walk_in {a : List Int} (at_ : Int) : ∀ x ∈ walkAt (spotsOf a) at_, 0 ≤ x ∧ x < 12 := by
  intro x hx
  obtain ⟨t, ht, rfl⟩ := (mem_walk _ _ _).1 hx
  obtain ⟨b, i, h1, _, rfl⟩ := mem_spotsOf.1 ht
  exact ⟨by simp, by simp only; omega⟩

set_option maxHeartbeats 8000000 in
set_option maxRecDepth 100000 in
theorem ringAll_row (w : World) (v : Value) (l : List Tm) (hv : TmAt w v l) (hwf : ∀ t ∈ l, (Lit.int .i64 t.1).wf = true ∧ (Lit.int .i64 t.2).wf = true) (hl : l.length ≤ 140737488351232 / 16) (n : Int) (wn : (Lit.int .i64 n).wf = true) :
    Calls Try.prog 3 #[v, .int .i64 n] w fun r w' => r = .returned (.bool true) ∧ Below w.heap.size w w' := by
  obtain ⟨key, hkey, HP⟩ := picked_some n 4294967296 wn (by omega) (by omega)
  have HV : Hid (_ ∧ _ ∧ _) := ⟨hv, hwf, HP⟩
  clear hv hwf HP wn hl
  go_enter Try.func3, Try.ntmps3
  go_wp2_with fail
  refine (ringed_any _ l _ HV.out.1 HV.out.2.1).mono ?_
  rintro r w1 ⟨a, p, c, rfl, ha, ho, hpos, hb1⟩
  obtain ⟨W2, hW2, t1, t2, t3, hR2, hA2, hb2⟩ := begun w w1 a _ ha (rowAt_own ho) hb1
  obtain ⟨at_, hat⟩ : ∃ at_ : Int, at_ = (keyMix key : Nat) := ⟨_, rfl⟩
  have hWk : ∀ W, Below W2.heap.size W2 W → Calls Try.prog 8 #[.agg #[.slice p (spotsOf a).length c], .int .i64 (key : Int)] W fun r w' => ∃ p' c', r = .returned (.tuple #[.slice p' (walkAt (spotsOf a) (keyMix key : Nat)).length c', .int .i64 0]) ∧ IntsAt w' (.slice p' (walkAt (spotsOf a) (keyMix key : Nat)).length c') (walkAt (spotsOf a) (keyMix key : Nat)) ∧ Below W2.heap.size W2 w' := fun W hW =>
    (walk_fine (.slice p (spotsOf a).length c) a key W ha (hR2.2.below hW) hkey).mono fun r w' ⟨p', c', h1, h2, h3⟩ => ⟨p', c', h1, rowAt_own h2, hW.trans (h3.mono hW.size)⟩
  rw [← hat] at hWk
  have hwl := Nat.le_trans (walk_len (spotsOf a) at_) (spotsOf_len ha)
  have hcnt := walk_count ha at_
  have hin := walk_in (a := a) at_
  have hcR := hR2.cell
  obtain ⟨o, hoo⟩ : ∃ o, o = walkAt (spotsOf a) at_ := ⟨_, rfl⟩
  rw [← hoo] at hWk hwl hcnt hin
  obtain ⟨ln, hln⟩ : ∃ ln, ln = (spotsOf a).length := ⟨_, rfl⟩
  rw [← hln] at hW2 t1 hWk hcR ⊢
  have H1 : Hid (_ ∧ _ ∧ _ ∧ _ ∧ _ ∧ _) := ⟨hb2, hA2, ha, hcnt, hin, HV.out.2.2⟩
  have HW : Hid _ := hWk
  have HB : Hid (_ ∧ _ ∧ _ ∧ _) := ⟨hW2, t1, t2, t3⟩
  have hg1 := hb1.size
  clear ha ho hpos hb1 hW2 t1 t2 t3 hR2 hA2 hb2 hWk hat hcnt hin hoo hln HV
  go_wp2_with ((with_reducible refine wpList_store_mid rfl 26 (.tmp 6) (.tmp 17) rfl (w1.heap.size + 1) 0 (icells a).toArray ?hx ?hy ?ht ?hi ?h1 ?_); (case hx => rfl); (case hy => rfl); (case ht => exact HB.out.2.1); (case hi => exact HB.out.2.2.1); (case h1 => exact HB.out.2.2.2); rw [List.toList_toArray, ← HB.out.1])
  go_cut [8, 9] from 19 to 25 (fun s e wx => ∃ p' c', s = .slice p' o.length c' ∧ e = .int .i64 0 ∧ IntsAt wx (.slice p' o.length c') o ∧ Below W2.heap.size W2 wx)
  case first =>
    go_region_with (first | (go_at_call 9; refine (H1.out.2.2.2.2.2 _).mono ?_; rintro r w4 ⟨rfl, rfl⟩) | (go_at_call 8; refine (HW.out _ (by first | exact (Below.refl _ _).drew | exact Below.refl _ _)).mono ?_; rintro r w5 ⟨p', c', rfl, hT5, hb5⟩))
    all_goals
      go_wp2_with fail
      go_meet
      exact ⟨p', c', rfl, rfl, hT5, hb5⟩
  case rest =>
  obtain ⟨p', c', rfl, rfl, hT, hb⟩ := hcut
  obtain ⟨_, _, ev, _, _, pw⟩ := hT.parts
  cases ev
  have hAr := H1.out.2.1.below hb
  have hbw := H1.out.1.trans (hb.mono H1.out.1.size)
  have HC : Hid (_ ∧ _ ∧ _) := ⟨pw, hAr, hbw⟩
  clear pw hAr hbw hT hb
  go_wp2
  rw [zeros12]
  obtain ⟨W5, hW5⟩ : ∃ W5, W5 = wc.alloc (.cells (icells (List.replicate 12 0)).toArray 26) := ⟨_, rfl⟩
  rw [← hW5]
  have hbn : Below wc.heap.size wc W5 := by rw [hW5]; exact below_new _ _
  have hM5 : Arr 26 12 W5 wc.heap.size (metL []) := by rw [hW5, metL_nil]; exact ⟨heap_alloc_new _ _, by simp⟩
  have hA5 := HC.out.2.1.below hbn
  have hb5 := HC.out.2.2.trans (hbn.mono HC.out.2.2.size)
  have hg5 := HC.out.2.1.lt
  have H5 : Hid (_ ∧ _ ∧ _ ∧ _) := ⟨hM5, hA5, hb5, hbn⟩
  clear hM5 hA5 hb5 hbn hW5
  go_loopw [11] (fun t wr => ∃ k : Nat, t = .int .i64 k ∧ k ≤ o.length ∧ Arr 26 12 wr wc.heap.size (metL (o.take k)) ∧ Arr 26 12 wr (w1.heap.size + 1) a ∧ Below w.heap.size w wr ∧ Below wc.heap.size wc wr) (fun t _ => o.length - (intOf t).toNat)
  case atStart => exact ⟨0, rfl, Nat.zero_le _, H5.out.1, H5.out.2.1, H5.out.2.2.1, H5.out.2.2.2⟩
  case round =>
    obtain ⟨k, rfl, hk, hM, hA, hbw, hbc⟩ := hrel
    by_cases hlt : k < o.length
    · obtain ⟨b1, o1, rfl, hb1, c1⟩ := HC.out.1 k hlt
      have e1 := (hbc.cell (p := ⟨b1, o1 + k, none⟩) hb1).trans c1
      have hin := H1.out.2.2.2.2.1 o[k] (List.getElem_mem hlt)
      have hsn : o.take (k + 1) = o.take k ++ [o[k]] := List.take_succ_eq_append_getElem hlt
      obtain ⟨x, hx⟩ : ∃ x, x = o[k] := ⟨_, rfl⟩
      rw [← hx] at e1 hin hsn
      obtain ⟨b, rfl⟩ := Int.eq_ofNat_of_zero_le hin.1
      have hb12 : b < 12 := by omega
      have hbI : (b : Int) < 12 := by omega
      have hcm := hM.at b hb12
      have hfm := hM.frozen b
      rw [metL_at _ b hb12] at hcm
      have hcl : (o.take k).count (b : Int) ≤ 384 := by
        have h1 := List.count_le_length (a := (b : Int)) (l := o.take k)
        rw [List.length_take] at h1
        omega
      have hst := metL_snoc (o.take k) b hb12
      obtain ⟨y, hy⟩ : ∃ y, y = (o.take k).count (b : Int) := ⟨_, rfl⟩
      rw [← hy] at hcm hcl hst
      have hkI : (k : Int) < (o.length : Int) := by omega
      have HK : Hid (_ ∧ _ ∧ _ ∧ _ ∧ _ ∧ _) := ⟨hM, hA, hbw, hbc, hsn, hst⟩
      clear hM hA hbw hbc hsn hst c1 hin hx hy
      go_wp2
      go_roundw
      case rel =>
        obtain ⟨h1, h2, h3, h4, h5, h6⟩ := HK.out
        refine ⟨k + 1, by simp, hlt, ?_, h2.other (by simp; omega) _, h3.setCell (by have := h3.size; have := HC.out.2.2.size; simp; omega) _, h4.setCell (by simp) _⟩
        rw [h5, h6]
        exact h1.set b _
      case measure => simp [intOf]; omega
    · obtain rfl : k = o.length := by omega
      rw [List.take_length] at hM
      have HK : Hid (_ ∧ _ ∧ _) := ⟨hM, hA, hbw⟩
      clear hM hA hbw hbc
      go_wp2
      go_loopw [12] (fun t W => ∃ j : Nat, t = .int .i64 j ∧ j ≤ 12 ∧ W = wr) (fun t _ => 12 - (intOf t).toNat)
      case atStart => exact ⟨0, rfl, Nat.zero_le _, rfl⟩
      case round =>
        obtain ⟨j, rfl, hj, rfl⟩ := hrel
        by_cases hlt2 : j < 12
        · have hjI : (j : Int) < 12 := by omega
          have hcm := HK.out.1.at j hlt2
          have hca := HK.out.2.1.at j hlt2
          rw [metL_at _ j hlt2, H1.out.2.2.2.1 j hlt2] at hcm
          have hx0 := H1.out.2.2.1.low j
          obtain ⟨x, hx⟩ : ∃ x, x = a.getD j 0 := ⟨_, rfl⟩
          rw [← hx] at hcm hca hx0
          clear hx
          by_cases hp : 0 < x
          · rw [if_pos hp] at hcm
            have hxe : (x == 0) = false := by rw [beq_eq_false_iff_ne]; omega
            go_wp2
            go_roundw
            case rel => exact ⟨j + 1, by simp, hlt2, by first | rfl | trivial⟩
            case measure => simp [intOf]; omega
          · rw [if_neg hp] at hcm
            obtain rfl : x = 0 := by omega
            go_wp2
            go_roundw
            case rel => exact ⟨j + 1, by simp, hlt2, by first | rfl | trivial⟩
            case measure => simp [intOf]; omega
        · obtain rfl : j = 12 := by omega
          go_wp2
          go_ret
          exact ⟨rfl, HK.out.2.2⟩
end Go.Proofs.Ytpmobbbohchdlab.Walks
