/-
  The document's ring of weights: its spots stand as they are sorted. Condition: twelve weights from 0 to 8, which can be read.
-/
import Derived.Test.YtpmobbbohchdlaaOfP
import Derived.Test.YtpmobbbohchdlaaAdd
import Derived.WalkKit
import Derived.ProofKit
import Derived.Handy
import Derived.LoopTactic
import Derived.Below
import Derived.Laws.BitsAllLaws
import Derived.RegionTactic
import Derived.Deep.RegionHeld3
import Derived.Deep.DrawnRows
import Derived.Deep.AppendLies
import Derived.Laws.OwnMore
import Derived.Deep.Onto
import Derived.Deep.QuietTactic
import Derived.BigQuiet
namespace Go.Proofs.Ytpmobbbohchdlaa.Walks
open Go.RowKit
set_option linter.unusedVariables false
set_option linter.unusedSimpArgs false
attribute [local go_sem ↓] Go.wp_at_zero Go.wp_at_succ

theorem ahead_b (a b c d : Int) (w : World) : Calls Try.prog 42 #[.agg #[.int .i64 a, .int .i64 b], .agg #[.int .i64 c, .int .i64 d]] w fun r w' => r = .returned (.bool (ahead (a, b) (c, d))) ∧ Below w.heap.size w w' :=
  (ahead_any a b c d w).mono fun r w' h => ⟨h.1, by rw [h.2]; exact ((Below.refl _ _).alloc (Nat.le_refl _) _).alloc (by simp) _⟩

theorem held4 {w w' : World} {g i1 i2 i3 i4 : Nat} {v1 v2 v3 v4 : Value} (hlt : g < w.heap.size) (h1 : w.cell? ⟨g, i1, none⟩ = some v1) (h2 : w.cell? ⟨g, i2, none⟩ = some v2) (h3 : w.cell? ⟨g, i3, none⟩ = some v3) (h4 : w.cell? ⟨g, i4, none⟩ = some v4) (hb : Below w.heap.size w w') :
    w'.cell? ⟨g, i1, none⟩ = some v1 ∧ w'.cell? ⟨g, i2, none⟩ = some v2 ∧ w'.cell? ⟨g, i3, none⟩ = some v3 ∧ w'.cell? ⟨g, i4, none⟩ = some v4 ∧ Below w.heap.size w w' :=
  ⟨(hb.cell (p := ⟨g, i1, none⟩) hlt).trans h1, (hb.cell (p := ⟨g, i2, none⟩) hlt).trans h2, (hb.cell (p := ⟨g, i3, none⟩) hlt).trans h3, (hb.cell (p := ⟨g, i4, none⟩) hlt).trans h4, hb⟩

set_option maxHeartbeats 8000000 in
set_option maxRecDepth 100000 in
theorem ringOf_any (v : Value) (a : List Int) (w : World) (hv : IntsAt w v a) (ha : Wts a) :
    Calls Try.prog 30 #[v] w fun r w' => ∃ y, r = .returned (.agg #[y]) ∧ w'.ownsRow w.heap.size 55 2 y (spotsOf a).length (tcells (spotsOf a)) ∧ Below w.heap.size w w' := by
  obtain ⟨p, c, rfl, hc, hm, pa⟩ := hv.parts
  unfold maxLen at hm
  have hlen := ha.len
  rw [hlen] at hc
  have HA : Hid (_ ∧ _) := ⟨ha, pa⟩
  clear hv pa ha
  obtain ⟨i0, hi, hz0, hz1, hz2⟩ := info_parts infoTm
  rw [hlen]
  go_enter Try.func30, Try.ntmps30
  go_wp2
  obtain ⟨W0, hW0⟩ : ∃ W0, W0 = w.alloc (.cells #[.slice none 0 0] 24) := ⟨_, rfl⟩
  rw [← hW0]
  have hb0 : Below w.heap.size w W0 := by rw [hW0]; exact (Below.refl _ _).alloc (Nat.le_refl _) _
  have hR0 : W0.heap[w.heap.size]? = some (.cells #[.slice none 0 0] 24 (0, 0)) := by rw [hW0]; exact heap_alloc_new _ _
  have hs0 : W0.heap.size = w.heap.size + 1 := by rw [hW0]; simp
  have H0 : Hid (_ ∧ _ ∧ _) := ⟨hb0, hR0, hs0⟩
  clear hb0 hR0 hs0 hW0
  go_loopw [3, 4] (fun x t wr => ∃ i : Nat, t = .int .i64 i ∧ i ≤ 12 ∧ wr.ownsRow W0.heap.size 55 2 x (puts (raw a i)).length (tcells (puts (raw a i))) ∧ Below W0.heap.size W0 wr) (fun _ t _ => 12 - (intOf t).toNat)
  case atStart => exact ⟨0, rfl, Nat.zero_le _, World.ownsRow_nil _ _ _ _, Below.refl _ _⟩
  case round =>
    obtain ⟨b, rfl, hbl, hrow, hbi⟩ := hrel
    by_cases hlt : b < 12
    · obtain ⟨b0, off, rfl, hbl0, pc⟩ := HA.out.2 b (by rw [hlen]; exact hlt)
      have hwt : a[b]'(by rw [hlen]; exact hlt) = ((wt a b : Nat) : Int) := by
        rw [wt_int HA.out.1, List.getD_eq_getElem?_getD, List.getElem?_eq_getElem (by rw [hlen]; exact hlt)]
        rfl
      rw [hwt] at pc
      have hw8 := HA.out.1.wt_le b
      have hr1 := raw_len HA.out.1 b
      have HI : Hid (_ ∧ _) := ⟨hrow, hbi⟩
      clear hrow hbi hwt
      have hraw : raw a (b + 1) = raw a b ++ spots1 b (wt a b * 4) := rfl
      have HR : Hid _ := hraw
      clear hraw
      generalize wt a b = m at *
      have hmI : (b : Int) < 12 := by omega
      have hbd : decide ((b : Int) < 12) = true := decide_eq_true hmI
      go_wp2
      go_loopw [3, 5] (fun x t wr => ∃ k : Nat, t = .int .i64 k ∧ k ≤ m * 4 ∧ wr.ownsRow W0.heap.size 55 2 x (puts (raw a b ++ spots1 b k)).length (tcells (puts (raw a b ++ spots1 b k))) ∧ Below W0.heap.size W0 wr) (fun _ t _ => m * 4 - (intOf t).toNat)
      case atStart => exact ⟨0, rfl, Nat.zero_le _, by simpa [spots1] using HI.out.1, HI.out.2⟩
      case round =>
        obtain ⟨k, rfl, hk, hrk, hbk⟩ := hrel
        have pcW : wr.cell? ⟨b0, off + b, none⟩ = some (.int .i64 (m : Int)) := by
          rw [(H0.out.1.trans (hbk.mono H0.out.1.size)).cell (p := ⟨b0, off + b, none⟩) hbl0]
          exact pc
        by_cases hkL : k < m * 4
        · have hkI : (k : Int) < 4 * (m : Int) := by omega
          have hkd : decide ((k : Int) < 4 * (m : Int)) = true := decide_eq_true hkI
          have hk32 : k < 32 := by omega
          have hgs : puts (raw a b ++ spots1 b (k + 1)) = ins (puts (raw a b ++ spots1 b k)) (((spotMix b k : Nat) : Int), (b : Int)) := by
            rw [spots1_succ, ← List.append_assoc, puts_snoc]
          have hgl : (puts (raw a b ++ spots1 b k)).length ≤ 1000 := by rw [puts_len, List.length_append, spots1_len]; omega
          have hsp := fun W => spotAt_any b k W hlt hk32
          obtain ⟨sp, hh⟩ : ∃ sp, sp = ((spotMix b k : Nat) : Int) := ⟨_, rfl⟩
          obtain ⟨g, hg⟩ : ∃ g, g = puts (raw a b ++ spots1 b k) := ⟨_, rfl⟩
          rw [← hh, ← hg] at hgs
          rw [← hh] at hsp
          rw [← hg] at hrk hgl
          have HK : Hid (_ ∧ _ ∧ _ ∧ _ ∧ _ ∧ _) := ⟨hrk, hbk, hgs, hg, hsp, pc⟩
          clear hrk hbk hgs hg hsp hh pc
          go_wp2_with fail
          refine (HK.out.2.2.2.2.1 _).mono ?_
          rintro r w3 ⟨rfl, hg3⟩
          have hb3 : Below wr.heap.size wr w3 := hg3
          have HB : Hid (_ ∧ _) := ⟨own_grownW HK.out.1 hb3, HK.out.2.1.trans (hb3.mono HK.out.2.1.size)⟩
          have hbsz := HB.out.2.size
          clear hg3 hb3 pcW
          go_wp2_with (first | (at_builtin; refine wpList_append_lies _ rfl _ _ 22 rfl W0.heap.size 55 i0 _ 2 16 Try.underlying22 hi hz0 hz1 hz2 rfl (by decide) u3 _ _ rfl (HB.out.1.alloc _) _ 1 1 (tcells [(sp, (b : Int))]) rfl rfl (news_at _ _ _) (tcells_one _) (by decide) (by unfold maxLen; omega) (by omega) (by simp; omega) _ rfl ?_; intro g' cap w2 hown2 hg2 hlies hlt2))
          have hw2 : Below W0.heap.size W0 w2 := by
            have h1 := HB.out.2.alloc HB.out.2.size (.cells #[.int .i64 sp, .int .i64 (b : Int)] 55)
            exact h1.grown hg2 h1.size (fun j e => (HB.out.1.lt j e).1)
          rw [← tcells_append, ← insAt_end] at hown2
          obtain ⟨n1, hn1⟩ : ∃ n1, n1 = g.length + 1 := ⟨_, rfl⟩
          have hgn : g.length = n1 - 1 := by omega
          rw [← hn1] at hown2 ⊢
          have hfin : ∀ (j : Nat) (W : World), j = spot (sp, (b : Int)) g g.length → W.ownsRow W0.heap.size 55 2 (.slice (some ⟨g', 0, none⟩) n1 cap) n1 (tcells (insAt g (sp, (b : Int)) j)) → W.ownsRow W0.heap.size 55 2 (.slice (some ⟨g', 0, none⟩) n1 cap) (puts (raw a b ++ spots1 b (k + 1))).length (tcells (puts (raw a b ++ spots1 b (k + 1)))) := fun j W hj h => by
            have e : puts (raw a b ++ spots1 b (k + 1)) = insAt g (sp, (b : Int)) j := by
              rw [HK.out.2.2.1, ins, ← hj]
            rw [e, insAt_len, ← hn1]
            exact h
          have HL : Hid (_ ∧ _ ∧ _) := ⟨hown2, hw2, hfin⟩
          clear hown2 hg2 hlies hfin hw2
          go_loopw [8] (fun i wr => ∃ (j : Nat), i = .int .i64 j ∧ j ≤ g.length ∧ spot (sp, (b : Int)) g j = spot (sp, (b : Int)) g g.length ∧ wr.ownsRow W0.heap.size 55 2 (.slice (some ⟨g', 0, none⟩) n1 cap) n1 (tcells (insAt g (sp, (b : Int)) j)) ∧ Below W0.heap.size W0 wr) (fun i _ => (intOf i).toNat)
          case atStart =>
            refine ⟨g.length, by simp, Nat.le_refl _, rfl, HL.out.1, HL.out.2.1⟩
          case round =>
            obtain ⟨j, rfl, hj, hsp, ho, hb4⟩ := hrel
            cases j with
            | zero =>
              have HZ : Hid (_ ∧ _ ∧ _) := ⟨hsp, ho, hb4⟩
              clear hsp ho hb4
              go_wp2_with fail
              go_region
              go_wp2
              go_roundw
              case rel => exact ⟨k + 1, by simp, hkL, HL.out.2.2 0 _ HZ.out.1 HZ.out.2.1, HZ.out.2.2.drew⟩
              case measure => simp [intOf]; omega
            | succ j =>
              have hgj : j < g.length := hj
              obtain ⟨m', hm'⟩ : ∃ m', m' = j + 1 := ⟨_, rfl⟩
              rw [← hm'] at hsp ho hj ⊢
              have hm1 : (0 : Int) ≤ (m' : Int) := by omega
              have hm2 : (m' : Int) < (n1 : Int) := by omega
              have hm3 : (0 : Int) < (m' : Int) := by omega
              have hm5 : 0 < m' := by omega
              have hj1 : (0 : Int) ≤ (j : Int) := by omega
              have hj2 : (j : Int) < (n1 : Int) := by omega
              have hj3 : IntKind.i64.wrap ((m' : Int) - 1) = (j : Int) := by rw [IntKind.wrap_i64]; omega
              have f1 := tcells_at (insAt g (sp, (b : Int)) m') m' (by rw [insAt_len]; omega)
              have f2 := tcells_at (insAt g (sp, (b : Int)) m') j (by rw [insAt_len]; omega)
              have f3 := insAt_get g (sp, (b : Int)) m' hj
              have f4 := insAt_before g (sp, (b : Int)) j hgj
              rw [← hm'] at f4
              rw [List.getElem?_eq_getElem (by rw [insAt_len]; omega)] at f3 f4
              rw [Option.some.inj f3, ← ho.cellAt _ (by omega), ← ho.cellAt _ (by omega)] at f1
              rw [Option.some.inj f4, ← ho.cellAt _ (by omega), ← ho.cellAt _ (by omega)] at f2
              obtain ⟨f1, f1'⟩ := f1
              obtain ⟨f2, f2'⟩ := f2
              obtain ⟨xa, hxa⟩ : ∃ xa, g[j].1 = xa := ⟨_, rfl⟩
              obtain ⟨xd, hxd⟩ : ∃ xd, g[j].2 = xd := ⟨_, rfl⟩
              have hgj' : g[j] = (xa, xd) := Prod.ext hxa hxd
              rw [hxa] at f2
              rw [hxd] at f2'
              have hz1' := ho.frozenAt (j * 2)
              have hz2' := ho.frozenAt (j * 2 + 1)
              have hz3' := ho.frozenAt (m' * 2)
              have hz4' := ho.frozenAt (m' * 2 + 1)
              have hsp2 : spot (sp, (b : Int)) g m' = if ahead (sp, (b : Int)) (xa, xd) then spot (sp, (b : Int)) g j else j + 1 := by
                rw [hm', spot, show g.getD j (0, 0) = g[j] by simp [List.getD, List.getElem?_eq_getElem hgj], hgj']
              have HJ : Hid (_ ∧ _ ∧ _ ∧ _ ∧ _ ∧ _ ∧ _) := ⟨hsp, ho, hb4, hsp2, hgj', hm', hn1⟩
              clear hsp hb4 hsp2 hgj' hxa hxd f3 f4 ho hm' hn1 hgn
              have hlt3 : g' < wr.heap.size := (HJ.out.2.1.lt g' rfl).2
              cases hah : ahead (sp, (b : Int)) (xa, xd)
              · go_wp2_with fail
                go_region_held3 (fun w' => w'.cell? ⟨g', m' * 2, none⟩ = some (.int .i64 sp) ∧ w'.cell? ⟨g', m' * 2 + 1, none⟩ = some (.int .i64 (b : Int)) ∧ w'.cell? ⟨g', j * 2, none⟩ = some (.int .i64 xa) ∧ w'.cell? ⟨g', j * 2 + 1, none⟩ = some (.int .i64 xd) ∧ Below wr.heap.size wr w') (first | exact held4 hlt3 f1 f1' f2 f2' ((Below.refl _ _).drew) | exact held4 hlt3 f1 f1' f2 f2' (below_of_drew hb1)) (first | (go_at_call 42; refine (ahead_b sp (b : Int) xa xd _).mono ?_; rintro r w1 ⟨rfl, hb1⟩; rw [hah]))
                have hb5 := below_of_drew hb1
                have ho1 := own_block HJ.out.2.1 (fun i hi => hb5.block i (HJ.out.2.1.lt i hi).2)
                have HB2 : Hid (_ ∧ _) := ⟨hb5, ho1⟩
                clear f1 f1' f2 f2' hz1' hz2' hz3' hz4' hb1 hb5 ho1
                go_wp2
                go_roundw
                case rel =>
                  refine ⟨k + 1, by simp, hkL, HL.out.2.2 m' _ ?_ HB2.out.2, HJ.out.2.2.1.trans (HB2.out.1.mono HJ.out.2.2.1.size)⟩
                  have h1 := HJ.out.2.2.2.1
                  rw [if_neg (by rw [hah]; exact Bool.false_ne_true)] at h1
                  rw [← HJ.out.1, h1]
                  exact HJ.out.2.2.2.2.2.1
                case measure => simp [intOf]; omega
              · go_wp2_with fail
                go_region_held3 (fun w' => w'.cell? ⟨g', m' * 2, none⟩ = some (.int .i64 sp) ∧ w'.cell? ⟨g', m' * 2 + 1, none⟩ = some (.int .i64 (b : Int)) ∧ w'.cell? ⟨g', j * 2, none⟩ = some (.int .i64 xa) ∧ w'.cell? ⟨g', j * 2 + 1, none⟩ = some (.int .i64 xd) ∧ Below wr.heap.size wr w') (first | exact held4 hlt3 f1 f1' f2 f2' ((Below.refl _ _).drew) | exact held4 hlt3 f1 f1' f2 f2' (below_of_drew hb1)) (first | (go_at_call 42; refine (ahead_b sp (b : Int) xa xd _).mono ?_; rintro r w1 ⟨rfl, hb1⟩; rw [hah]))
                have hb5 := below_of_drew hb1
                have ho1 := own_block HJ.out.2.1 (fun i hi => hb5.block i (HJ.out.2.1.lt i hi).2)
                have hlt4 : g' < w1.heap.size := Nat.lt_of_lt_of_le hlt3 hb5.size
                have k1 := (hb5.cell (p := ⟨g', m' * 2, none⟩) hlt3).trans f1
                have k2 := (hb5.cell (p := ⟨g', m' * 2 + 1, none⟩) hlt3).trans f1'
                have k3 := (hb5.cell (p := ⟨g', j * 2, none⟩) hlt3).trans f2
                have k4 := (hb5.cell (p := ⟨g', j * 2 + 1, none⟩) hlt3).trans f2'
                have z1 := ho1.frozenAt (j * 2)
                have z2 := ho1.frozenAt (j * 2 + 1)
                have z3 := ho1.frozenAt (m' * 2)
                have z4 := ho1.frozenAt (m' * 2 + 1)
                have hne : m' ≠ j := by have := HJ.out.2.2.2.2.2.1; omega
                have HB2 : Hid (_ ∧ _) := ⟨hb5, ho1⟩
                clear f1 f1' f2 f2' hz1' hz2' hz3' hz4' hb1 hb5 ho1
                go_wp2
                have hge := (HB2.out.2.lt g' rfl).1
                refine ⟨⟨j, rfl, by omega, ?_, ?_, ?_⟩, ?_⟩
                · rw [← HJ.out.1, HJ.out.2.2.2.1, if_pos hah]
                · have s1 := (HB2.out.2.stored (m' * 2) (.int .i64 xa)).1
                  have s2 := (s1.stored (m' * 2 + 1) (.int .i64 xd)).1
                  have s3 := (s2.stored (j * 2) (.int .i64 sp)).1
                  have s4 := ((s3.stored (j * 2 + 1) (.int .i64 (b : Int))).1).alloc (.cells #[.int .i64 sp, .int .i64 (b : Int)] 55)
                  rw [tcells_set _ m' (xa, xd), tcells_set _ j (sp, (b : Int)), ← HJ.out.2.2.2.2.1, HJ.out.2.2.2.2.2.1, insAt_step g (sp, (b : Int)) j hgj] at s4
                  rw [HJ.out.2.2.2.2.2.1]
                  exact s4
                · exact (((((HJ.out.2.2.1.trans (HB2.out.1.mono HJ.out.2.2.1.size)).setCell (p := ⟨g', m' * 2, none⟩) hge _).setCell (p := ⟨g', m' * 2 + 1, none⟩) hge _).setCell (p := ⟨g', j * 2, none⟩) hge _).setCell (p := ⟨g', j * 2 + 1, none⟩) hge _).alloc (by have h1 := HJ.out.2.2.1.size; have h2 := HB2.out.1.size; simp; omega) _
                · have := HJ.out.2.2.2.2.2.1
                  simp [intOf]; omega
        · obtain rfl : k = m * 4 := by omega
          have hkd : decide (((m * 4 : Nat) : Int) < 4 * (m : Int)) = false := decide_eq_false (by omega)
          have HK : Hid (_ ∧ _) := ⟨hrk, hbk⟩
          clear hrk hbk pc
          go_wp2
          go_roundw
          case rel => exact ⟨b + 1, by simp, by omega, by rw [HR.out]; exact HK.out.1, HK.out.2⟩
          case measure => simp [intOf]; omega
    · obtain rfl : b = 12 := by omega
      have hr12 := puts_raw HA.out.1
      rw [hr12] at hrow
      obtain ⟨yp, yc, rfl⟩ := own_form hrow
      have hR := box_below H0.out.2.1 hbi
      have hc0 := one_cell hR
      have hf0 : wr.frozen? ⟨w.heap.size, 0, none⟩ = false := by simp [World.frozen?, hR]
      have hset := one_set (b := .slice yp (spotsOf a).length yc) hR
      have HK : Hid (_ ∧ _ ∧ _) := ⟨hrow, hbi, hset⟩
      clear hrow hbi hset hr12 hR
      go_wp2
      refine bodyPost_ret (v := .agg #[.slice yp (spotsOf a).length yc]) (results_c Try.results30 rfl (load_row (P := Try.prog) (cs := [.slice yp (spotsOf a).length yc]) HK.out.2.2 Try.underlying24 rfl (by kernel_rfl))) rfl ⟨_, rfl, ?_, ?_⟩
      · have hs0 := H0.out.2.2
        exact (own_block HK.out.1 (fun g hg => Below.heap_setCell _ _ _ _ (by have := (HK.out.1.lt g hg).1; simp; omega))).mono (by omega)
      · exact (H0.out.1.trans (HK.out.2.1.mono H0.out.1.size)).setCell (by simp) _
end Go.Proofs.Ytpmobbbohchdlaa.Walks
