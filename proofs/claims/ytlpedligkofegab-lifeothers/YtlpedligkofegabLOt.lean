/-
  LifeOthers: what is asked of one backend changes no other. No condition.
-/
import Derived.Test.YtlpedligkofegabKA
import Derived.Test.YtlpedligkofegabKO
import Derived.WalkKit
import Derived.ProofKit
import Derived.Handy
import Derived.LoopTactic
import Derived.Below
import Derived.Laws.BitsAllLaws
import Derived.RegionTactic
import Derived.Deep.RegionHeld3
import Derived.Deep.DrawnRows
import Derived.Deep.AppendLies
import Derived.Laws.OwnMore
import Derived.Deep.Onto
import Derived.Deep.QuietTactic
import Derived.BigQuiet
namespace Go.Proofs.Ytlpedligkofegab.Walks
open Go.RowKit
set_option linter.unusedVariables false
set_option linter.unusedSimpArgs false
attribute [local go_sem ↓] Go.wp_at_zero Go.wp_at_succ

theorem held4p {w w' : World} {a1 a2 a3 : Addr} {v1 v2 v3 : Value} (h1 : w.cell? a1 = some v1) (h2 : w.cell? a2 = some v2) (h3 : w.cell? a3 = some v3) (hb : Below w.heap.size w w') :
    w'.cell? a1 = some v1 ∧ w'.cell? a2 = some v2 ∧ w'.cell? a3 = some v3 ∧ Below w.heap.size w w' :=
  ⟨(hb.cell (World.block_lt_of_cell? w _ h1)).trans h1, (hb.cell (World.block_lt_of_cell? w _ h2)).trans h2, (hb.cell (World.block_lt_of_cell? w _ h3)).trans h3, hb⟩

set_option maxHeartbeats 16000000 in
set_option maxRecDepth 100000 in
theorem others_law (v : Value) (l : List Rq) (wf : ∀ y ∈ l, ∀ n ∈ rqC y, (Lit.int .i64 n).wf = true) (x1 x2 x3 x4 x5 : Int) (f1 : (Lit.int .i64 x1).wf = true) (f2 : (Lit.int .i64 x2).wf = true) (f3 : (Lit.int .i64 x3).wf = true) (f4 : (Lit.int .i64 x4).wf = true) (f5 : (Lit.int .i64 x5).wf = true)
    (ot : Int) (g1 : (Lit.int .i64 ot).wf = true) (w : World) (hat : RcAt rqC w v l) :
    Calls Try.prog 4 #[v, .agg #[.int .i64 x1, .int .i64 x2, .int .i64 x3, .int .i64 x4, .int .i64 x5], .int .i64 ot] w fun e w' => e = .returned (.bool true) ∧ Below w.heap.size w w' := by
  obtain ⟨i2, hi2, q2⟩ := picked_some x2 2 f2 (by omega) (by omega)
  obtain ⟨i3, hi3, q3⟩ := picked_some x3 5 f3 (by omega) (by omega)
  obtain ⟨i4, hi4, q4⟩ := picked_some x4 10 f4 (by omega) (by omega)
  obtain ⟨i6, hi6, q6⟩ := picked_some ot 4 g1 (by omega) (by omega)
  have HP : Hid (_ ∧ _ ∧ _ ∧ _) := ⟨q2, q3, q4, q6⟩
  obtain ⟨pa, ca, rfl, hca, hma⟩ := RcAt.form hat
  obtain ⟨W0, hW0⟩ : ∃ W0, W0 = w.alloc (plO x1 x2 x3 x4 x5) := ⟨_, rfl⟩
  have hB0 : Below w.heap.size w W0 := by rw [hW0]; exact below_new _
  have hR0 : W0.heap[w.heap.size]? = some (plO x1 x2 x3 x4 x5) := by rw [hW0]; exact heap_alloc_new _ _
  have H : Hid (_ ∧ _ ∧ _) := ⟨asked_some _ l wf W0 (RcAt.below hat hB0), hB0, hR0⟩
  clear q2 q3 q4 q6 f1 f2 f3 f4 f5 g1 hat hB0 hR0 wf
  go_enter Try.func4, Try.ntmps4
  go_wp2_with fail
  rw [← hW0]
  clear hW0
  refine Calls.mono H.out.1 ?_
  rintro r w1 ⟨L, R, now, p, c, q, m, rfl, hn1, hI, hb1⟩
  obtain ⟨W1, hW1⟩ : ∃ W1, W1 = w1.alloc (bkO (.slice p L.length c) (.slice q R.length m)) := ⟨_, rfl⟩
  have hk30 : min l.length 30 ≤ 30 := Nat.min_le_right _ _
  have hlen := hI.len
  have hn0 := hI.now0
  have hnk := hI.nowk
  have hids := hI.ids
  have hask1 : AskOk (60, 1 + (i2 : Int), (i3 : Int), (i4 : Int), 0) now 9 := ⟨⟨(show (0 : Int) ≤ 60 ∧ (60 : Int) ≤ 1048576 by decide), by show 1 + (i2 : Int) = 1 ∨ 1 + (i2 : Int) = 2; omega⟩, ⟨hn0, by omega⟩, by decide⟩
  have hne : ∀ r ∈ R, r.1 ≠ ((60 : Int), 1 + (i2 : Int), (i3 : Int), (i4 : Int), (0 : Int)).1 := fun r hr e => by have := hids r hr; have e : r.1 = 60 := e; omega
  have ha1 := ask_new hI.ok (by omega) hask1 hne
  obtain ⟨hok', t2, _, _⟩ := take_is hI.ok (by omega) hask1.1 hne (u := now + 9) (by omega)
  obtain ⟨nn, hnn⟩ : ∃ nn, nn = (i3 + 1 + i6) % 5 := ⟨_, rfl⟩
  have hnne : (nn : Int) ≠ ((60 : Int), 1 + (i2 : Int), (i3 : Int), (i4 : Int), (0 : Int)).2.2.1 := by show (nn : Int) ≠ (i3 : Int); omega
  have hoth := take_others hI.ok hok' hnne
  obtain ⟨⟨⟨L', R'⟩, an⟩, htk⟩ : ∃ x, x = takeO L R (60, 1 + (i2 : Int), (i3 : Int), (i4 : Int), 0) (now + 9) := ⟨_, rfl⟩
  rw [← htk] at ha1 t2 hoth
  obtain ⟨⟨⟨u1, u2, u3, u4, u5, u6⟩, ue⟩, hu⟩ : ∃ x, x = ofO L R nn := ⟨_, rfl⟩
  rw [← hu] at hoth
  have hbw1 := H.out.2.1.trans (hb1.mono H.out.2.1.size)
  have hp1 : W1.heap[w.heap.size]? = some (plO x1 x2 x3 x4 x5) := by rw [hW1]; exact heap_old _ _ (box_below H.out.2.2 hb1)
  have hx1 : Bx w W1 w1.heap.size (.slice p L.length c) (.slice q R.length m) L R := by rw [hW1]; exact bx_new hn1.1 hbw1
  obtain ⟨g7, hg7⟩ : ∃ g7, g7 = w1.heap.size := ⟨_, rfl⟩
  rw [← hg7] at hx1
  obtain ⟨z1, z2, z3, z4, z5, zlt⟩ := five_cells hp1
  have hw1' : IntKind.i64.wrap (1 + (i2 : Int)) = 1 + (i2 : Int) := by rw [IntKind.wrap_i64]; omega
  have HL : Hid (_ ∧ _ ∧ _ ∧ _ ∧ _ ∧ _) := ⟨ha1, hx1, hu.symm, hoth, t2, hnn⟩
  clear hn1 hI hb1 ha1 htk hask1 hne hids hbw1 hp1 hx1 t2 hoth hu hok' hnne hnn
  go_upto_region 2 with fail
  rw [← hg7, ← hW1]
  clear hW1 hg7
  go_cut [10] from 26 to 36 (fun s wx => ∃ g W, W = wx ∧ s = .pointer (some ⟨g, 0, none⟩) ∧ W.heap[g]? = some (rqO 60 (1 + (i2 : Int)) i3 i4 0) ∧ Below W1.heap.size W1 W)
  case first =>
    go_region_held3 (fun W => W.cell? ⟨w.heap.size, 1, none⟩ = some (.int .i64 x2) ∧ W.cell? ⟨w.heap.size, 2, none⟩ = some (.int .i64 x3) ∧ W.cell? ⟨w.heap.size, 3, none⟩ = some (.int .i64 x4) ∧ Below W1.heap.size W1 W) (first | exact held4p z2 z3 z4 ((Below.refl _ _).drew) | exact held4p z2 z3 z4 (((Below.refl _ _).drew).alloc (by simp) _) | exact held4p z2 z3 z4 (((Below.refl _ _).alloc (Nat.le_refl _) _).drew)) (first | (go_at_call_of 9 (Value.int .i64 x2); refine (HP.out.1 _).mono ?_; rintro r w4 ⟨rfl, rfl⟩) | (go_at_call_of 9 (Value.int .i64 x3); refine (HP.out.2.1 _).mono ?_; rintro r w4 ⟨rfl, rfl⟩) | (go_at_call_of 9 (Value.int .i64 x4); refine (HP.out.2.2.1 _).mono ?_; rintro r w4 ⟨rfl, rfl⟩))
    all_goals
      go_wp2_with fail
      go_meet
      refine ⟨_, _, rfl, rfl, ?_, ?_⟩
      · first
        | exact heap_alloc_new W1 _
        | (rw [hw1']; exact heap_alloc_new W1 _)
      · exact ((Below.refl _ _).alloc (Nat.le_refl _) _).drew
  case rest =>
    obtain ⟨g10, wx, rfl, rfl, hrq, hbx⟩ := hcut
    clear z1 z2 z3 z4 z5 zlt hw1'
    have hX := HL.out.2.1.below hbx
    obtain ⟨b0, b1, blt⟩ := hX.cells
    obtain ⟨r0, r1, r2, r3, r4, rlt⟩ := five_cells hrq
    have HA : Hid (_ ∧ _ ∧ _) := ⟨ask_any _ _ L R 60 (1 + (i2 : Int)) i3 i4 0 now 9 wx hX.2.1, hX, hrq⟩
    rw [HL.out.1] at HA
    clear hX hrq hbx
    go_wp2_with fail
    refine Calls.mono HA.out.1 ?_
    intro r w2 hp
    obtain ⟨pn, cn, qn, mn, rfl, hn2, hb2⟩ := askPost_open hp
    obtain ⟨W2, hW2⟩ : ∃ W2, W2 = w2.alloc (bkO (.slice pn L'.length cn) (.slice qn R'.length mn)) := ⟨_, rfl⟩
    have hbW2 : Below wx.heap.size wx W2 := by rw [hW2]; exact hb2.alloc hb2.size _
    have h2c : Bx w W2 w2.heap.size (.slice pn L'.length cn) (.slice qn R'.length mn) L' R' := by rw [hW2]; exact bx_new hn2.1 (HA.out.2.1.2.2.trans (hb2.mono HA.out.2.1.2.2.size))
    have h2x := HA.out.2.1.below hbW2
    have h2r := box_below HA.out.2.2 hbW2
    obtain ⟨g11, hg11⟩ : ∃ g11, g11 = w2.heap.size := ⟨_, rfl⟩
    rw [← hg11] at h2c
    have H2 : Hid (_ ∧ _ ∧ _) := ⟨h2c, h2x, h2r⟩
    clear hp hn2 hb2 hbW2 h2c h2x h2r b0 b1 blt r0 r1 r2 r3 r4 rlt
    obtain ⟨r0, r1, r2, r3, r4, rlt⟩ := five_cells H2.out.2.2
    go_upto_region 4 with fail
    rw [← hg11, ← hW2]
    clear hW2 hg11
    have hwa : IntKind.i64.wrap ((i3 : Int) + 1) = (i3 : Int) + 1 := by rw [IntKind.wrap_i64]; omega
    have hwb : IntKind.i64.wrap ((i3 : Int) + 1 + (i6 : Int)) = (i3 : Int) + 1 + (i6 : Int) := by rw [IntKind.wrap_i64]; omega
    go_cut [15] from 46 to 52 (fun s wx => ∃ W, W = wx ∧ s = .int .i64 (nn : Int) ∧ Below W2.heap.size W2 W)
    case first =>
      go_region_held3 (fun W => W.cell? ⟨g10, 2, none⟩ = some (.int .i64 (i3 : Int)) ∧ Below W2.heap.size W2 W) (first | exact ⟨r2, (Below.refl _ _).drew⟩) (first | (go_at_call 9; refine (HP.out.2.2.2 _).mono ?_; rintro r w4 ⟨rfl, rfl⟩))
      all_goals
        go_wp2_with fail
        go_meet
        refine ⟨_, rfl, ?_, (Below.refl _ _).drew⟩
        rw [Int.tmod_eq_emod_of_nonneg (by omega), HL.out.2.2.2.2.2]
        congr 1
    case rest =>
      obtain ⟨w3, rfl, rfl, hb3⟩ := hcut
      have h3c := H2.out.1.below hb3
      have h3x := H2.out.2.1.below hb3
      obtain ⟨b0, b1, blt⟩ := h3x.cells
      have HO : Hid (_ ∧ _ ∧ _) := ⟨of_any _ _ L R nn w3 h3x.2.1 u1 u2 u3 u4 u5 u6 ue HL.out.2.2.1, h3c, h3x⟩
      clear h3c h3x hb3 r0 r1 r2 r3 r4 rlt hwa hwb
      go_wp2_with fail
      refine Calls.mono HO.out.1 ?_
      rintro r w4 ⟨rfl, hb4⟩
      obtain ⟨W4, hW4⟩ : ∃ W4, W4 = w4.alloc (lfO u1 u2 u3 u4 u5 u6) := ⟨_, rfl⟩
      have h4c : Bx w W4 g11 (.slice pn L'.length cn) (.slice qn R'.length mn) L' R' := by rw [hW4]; exact (HO.out.2.1.below hb4).alloc _
      have h4x : Bx w W4 g7 (.slice p L.length c) (.slice q R.length m) L R := by rw [hW4]; exact (HO.out.2.2.below hb4).alloc _
      have h4u : W4.heap[w4.heap.size]? = some (lfO u1 u2 u3 u4 u5 u6) := by rw [hW4]; exact heap_alloc_new _ _
      obtain ⟨c0, c1, clt⟩ := (HO.out.2.1.below hb4).cells
      have HQ : Hid (_ ∧ _ ∧ _ ∧ _) := ⟨of_any _ _ L' R' nn W4 h4c.2.1 u1 u2 u3 u4 u5 u6 ue HL.out.2.2.2.1, h4c, h4x, h4u⟩
      clear h4c h4x h4u hb4 b0 b1 blt
      go_wp2_with fail
      rw [← hW4]
      clear hW4 c0 c1 clt
      obtain ⟨g16, hg16⟩ : ∃ g16, g16 = w4.heap.size := ⟨_, rfl⟩
      rw [← hg16] at HQ ⊢
      clear hg16
      refine Calls.mono HQ.out.1 ?_
      rintro r w5 ⟨rfl, hb5⟩
      obtain ⟨c0, c1, clt⟩ := (HQ.out.2.1.below hb5).cells
      obtain ⟨b0, b1, blt⟩ := (HQ.out.2.2.1.below hb5).cells
      obtain ⟨k0, k1, k2, k3, k4, k5, klt⟩ := six_cells (box_below HQ.out.2.2.2 hb5)
      have hfinI : (R'.length : Int) = (R.length : Int) + 1 := by
        have : R'.length = R.length + 1 := HL.out.2.2.2.2.1
        omega
      have HZ : Hid _ := (HQ.out.2.1.below hb5).2.2
      clear hb5
      go_wp2
      go_ret
      exact ⟨by simp, HZ.out.alloc HZ.out.size _⟩
end Go.Proofs.Ytlpedligkofegab.Walks
