/-
  RingFirst returns true. Condition: the members can be read.
-/
import Derived.Test.YtpmobbbohchdlabRFine
import Derived.WalkKit
import Derived.ProofKit
import Derived.Handy
import Derived.LoopTactic
import Derived.Below
import Derived.Laws.BitsAllLaws
import Derived.RegionTactic
import Derived.Deep.RegionHeld3
import Derived.Deep.DrawnRows
import Derived.Deep.AppendLies
import Derived.Laws.OwnMore
import Derived.Deep.Onto
import Derived.Deep.QuietTactic
import Derived.BigQuiet
namespace Go.Proofs.Ytpmobbbohchdlab.Walks
open Go.RowKit
set_option linter.unusedVariables false
set_option linter.unusedSimpArgs false
attribute [local go_sem ↓] Go.wp_at_zero Go.wp_at_succ

set_option maxHeartbeats 8000000 in
set_option maxRecDepth 100000 in
theorem ringFirst_row (w : World) (v : Value) (l : List Tm) (hv : TmAt w v l) (hwf : ∀ t ∈ l, (Lit.int .i64 t.1).wf = true ∧ (Lit.int .i64 t.2).wf = true) (hl : l.length ≤ 140737488351232 / 16) (n : Int) (wn : (Lit.int .i64 n).wf = true) :
    Calls Try.prog 6 #[v, .int .i64 n] w fun r w' => r = .returned (.bool true) ∧ Below w.heap.size w w' := by
  obtain ⟨key, hkey, HP⟩ := picked_some n 4294967296 wn (by omega) (by omega)
  have HV : Hid (_ ∧ _ ∧ _) := ⟨hv, hwf, HP⟩
  clear hv hwf HP wn hl
  go_enter Try.func6, Try.ntmps6
  go_wp2_with fail
  refine (ringed_any _ l _ HV.out.1 HV.out.2.1).mono ?_
  rintro r w1 ⟨a, p, c, rfl, ha, ho, hpos, hb1⟩
  obtain ⟨W2, hW2, t1, t2, t3, hR2, hA2, hb2⟩ := begun w w1 a _ ha (rowAt_own ho) hb1
  have HB : Hid (_ ∧ _ ∧ _ ∧ _) := ⟨hW2, t1, t2, t3⟩
  have hK := fun W => key_any key W (by omega)
  have hl384 := spotsOf_len ha
  obtain ⟨at_, hat⟩ : ∃ at_ : Int, at_ = (keyMix key : Nat) := ⟨_, rfl⟩
  have hWk := fun W hT => walk_fine (.slice p (spotsOf a).length c) a key W ha hT hkey
  rw [← hat] at hK hWk
  obtain ⟨m, hm⟩ : ∃ m, m = spotsOf a := ⟨_, rfl⟩
  rw [← hm] at hR2 hWk hl384 ⊢
  have H1 : Hid (_ ∧ _ ∧ _ ∧ _) := ⟨hb2, hR2, hK, hWk⟩
  rw [← hm] at hW2 t1
  have HB : Hid (_ ∧ _ ∧ _ ∧ _) := ⟨hW2, t1, t2, t3⟩
  clear ha ho hpos hb1 hW2 t1 t2 t3 hR2 hA2 hb2 hK hWk hm hat
  go_wp2_with ((with_reducible refine wpList_store_mid rfl 26 (.tmp 6) (.tmp 19) rfl (w1.heap.size + 1) 0 (icells a).toArray ?hx ?hy ?ht ?hi ?h1 ?_); (case hx => rfl); (case hy => rfl); (case ht => exact HB.out.2.1); (case hi => exact HB.out.2.2.1); (case h1 => exact HB.out.2.2.2); rw [List.toList_toArray, ← HB.out.1])
  refine (HV.out.2.2 _).mono ?_
  rintro r w3 ⟨rfl, rfl⟩
  go_wp2_with fail
  refine (H1.out.2.2.1 _).mono ?_
  rintro r w4 ⟨rfl, hb4⟩
  have hR4 := H1.out.2.1.below hb4
  have hc4 := hR4.cell
  have H4 : Hid (_ ∧ _) := ⟨H1.out.1.trans (hb4.mono H1.out.1.size), hR4⟩
  clear hb4 hR4
  go_wp2_with fail
  refine (H1.out.2.2.2 _ H4.out.2.2).mono ?_
  rintro r w5 ⟨p5, c5, rfl, ho5, hb5⟩
  have hR5 := H4.out.2.below hb5
  have hc5 := hR5.cell
  have hT5 : IntsAt w5 (.slice p5 (walkAt m at_).length c5) (walkAt m at_) := rowAt_own ho5
  have H5 : Hid (_ ∧ _ ∧ _) := ⟨H4.out.1.trans (hb5.mono H4.out.1.size), hR5, hT5⟩
  clear hb5 hR5 ho5 hc4 hT5 H4
  by_cases hm0 : m = []
  · subst hm0
    have hw0 : (walkAt [] at_).length = 0 := rfl
    go_wp2
    go_ret
    exact ⟨rfl, H5.out.1⟩
  · have hlen0 : 0 < m.length := List.length_pos_iff.2 hm0
    have hm1 : ¬ m.length = 0 := by omega
    have hmI : ((m.length : Int) == 0) = false := by rw [beq_eq_false_iff_ne]; omega
    have hwf := walk_first m at_ hm0
    have hwl : 0 < (walkAt m at_).length := (List.getElem?_eq_some_iff.1 hwf).1
    obtain ⟨_, _, ev, _, _, pa⟩ := H5.out.2.1.2.parts
    obtain ⟨_, _, ew, _, _, pw⟩ := H5.out.2.2.parts
    cases ev
    cases ew
    obtain ⟨bw, ow, rfl, _, cw⟩ := pw 0 hwl
    obtain ⟨b0, off, rfl, _, d1, d2⟩ := pa 0 hlen0
    have hwv : (walkAt m at_)[0] = wantTo m at_ 0 := by
      rw [List.getElem?_eq_getElem hwl] at hwf
      exact Option.some.inj hwf
    rw [hwv] at cw
    have hh0 : (m.headD (0, 0)).2 = m[0].2 := by
      cases m with
      | nil => exact absurd rfl hm0
      | cons t r => rfl
    have hst := wantTo_all m at_
    rw [hh0] at hst
    have HW : Hid (_ ∧ _) := ⟨hst, pa⟩
    simp only [Nat.zero_mul, Nat.add_zero] at d1 d2 cw
    generalize m[0].1 = t0 at d1
    obtain ⟨t1, ht1⟩ : ∃ t1, t1 = m[0].2 := ⟨_, rfl⟩
    rw [← ht1] at d2
    have HT : Hid _ := ht1
    have hwI : (0 : Int) < ((walkAt m at_).length : Int) := by omega
    clear hwf hwv hh0 hst pa pw ht1 hm0
    obtain ⟨N, hN⟩ : ∃ N, N = (walkAt m at_).length := ⟨_, rfl⟩
    rw [← hN] at hwI hwl ⊢
    clear hN
    go_wp2
    go_loopw [13, 14] (fun x t wr => ∃ j : Nat, t = .int .i64 ((j : Int) - 1) ∧ x = .int .i64 (wantTo m at_ j) ∧ j ≤ m.length ∧ wr = w5) (fun _ t _ => (intOf t + 1).toNat)
    case atStart => exact ⟨m.length, by simp, by rw [HW.out.1, ← HT.out], Nat.le_refl _, rfl⟩
    case round =>
      obtain ⟨j, rfl, rfl, hj, rfl⟩ := hrel
      by_cases hj0 : j = 0
      · subst hj0
        have e0 : (((0 : Nat) : Int) - 1) = -1 := by omega
        rw [e0]
        go_wp2
        go_ret
        exact ⟨by simp, H5.out.1⟩
      · obtain ⟨k, rfl⟩ : ∃ k, j = k + 1 := ⟨j - 1, by omega⟩
        have e0 : (((k + 1 : Nat) : Int) - 1) = (k : Int) := by omega
        rw [e0]
        have hkl : k < m.length := by omega
        obtain ⟨_, _, hpe, _, g1, g2⟩ := HW.out.2 k hkl
        cases hpe
        have hy := wantTo_yes m at_ k hkl
        have hn := wantTo_no m at_ k hkl
        obtain ⟨ta, hta⟩ : ∃ ta, ta = m[k].1 := ⟨_, rfl⟩
        obtain ⟨td, htd⟩ : ∃ td, td = m[k].2 := ⟨_, rfl⟩
        rw [← hta] at g1 hy hn
        rw [← htd] at g2 hy
        have HY : Hid (_ ∧ _) := ⟨hy, hn⟩
        obtain ⟨wv, hwv⟩ : ∃ wv, wv = wantTo m at_ (k + 1) := ⟨_, rfl⟩
        rw [← hwv]
        have HWv : Hid _ := hwv
        clear hy hn hta htd hwv e0
        by_cases hge : at_ ≤ ta
        · go_wp2
          go_roundw
          case rel => exact ⟨k, rfl, by rw [HY.out.1 hge], by omega, by first | rfl | trivial⟩
          case measure => simp [intOf]
        · go_wp2
          go_roundw
          case rel => exact ⟨k, rfl, by rw [HY.out.2 hge, ← HWv.out], by omega, by first | rfl | trivial⟩
          case measure => simp [intOf]
end Go.Proofs.Ytpmobbbohchdlab.Walks
