/-
  LifeAgain: a request that comes again is answered as it was, and does nothing. No condition.
-/
import Derived.Test.YtlpedligkofegaaKA
import Derived.WalkKit
import Derived.ProofKit
import Derived.Handy
import Derived.LoopTactic
import Derived.Below
import Derived.Laws.BitsAllLaws
import Derived.RegionTactic
import Derived.Deep.RegionHeld3
import Derived.Deep.DrawnRows
import Derived.Deep.AppendLies
import Derived.Laws.OwnMore
import Derived.Deep.Onto
import Derived.Deep.QuietTactic
import Derived.BigQuiet
namespace Go.Proofs.Ytlpedligkofegaa.Walks
open Go.RowKit
set_option linter.unusedVariables false
set_option linter.unusedSimpArgs false
attribute [local go_sem ↓] Go.wp_at_zero Go.wp_at_succ

theorem take_last (L : List Lf) (R : List Rq) (r : Rq) (u : Int) : ∃ q : Rq, (takeO L R r u).1.2 = R ++ [q] ∧ q.1 = r.1 ∧ q.2.2.2.2 = (takeO L R r u).2 := by
  unfold takeO
  split
  · exact ⟨_, rfl, rfl, rfl⟩
  · exact ⟨_, rfl, rfl, rfl⟩

theorem old_last {R : List Rq} {q : Rq} (h : ∀ r ∈ R, r.1 ≠ q.1) : oldAt (R ++ [q]) q.1 = R.length := by
  refine findIdx_is (by simp) (fun t ht => ?_) (by simp)
  rw [List.take_left] at ht
  simpa using h t ht

/-- The same request again: the same answer, nothing new. -/
theorem ask_again {L : List Lf} {R : List Rq} (hb : BkOk L R) (hR : R.length < 100) {r : Rq} {now drain : Int} (ha : AskOk r now drain) (hn : ∀ q ∈ R, q.1 ≠ r.1) {r' : Rq} {now' drain' : Int} (ha' : AskOk r' now' drain') (he : r'.1 = r.1) :
    askO (takeO L R r (now + drain)).1.1 (takeO L R r (now + drain)).1.2 r' now' drain' = ((takeO L R r (now + drain)).1, (takeO L R r (now + drain)).2, false, 0) := by
  have hu : 0 ≤ now + drain ∧ now + drain ≤ 1099511628276 := by
    have := ha.2
    omega
  obtain ⟨t1, t2, _, _⟩ := take_is hb hR ha.1 hn hu
  obtain ⟨q, hq, hq1, hq2⟩ := take_last L R r (now + drain)
  have ho : oldAt (takeO L R r (now + drain)).1.2 r'.1 = R.length := by
    rw [hq, he, ← hq1]
    exact old_last (fun x hx => by rw [hq1]; exact hn x hx)
  rw [ask_old t1 ha' (by rw [ho, t2]; omega), ho, hq]
  simp [hq2]
  rw [← hq]

theorem BkNew.set {B : Nat} {W : World} {va vb : Value} {L : List Lf} {R : List Rq} (h : BkNew B W va vb L R) {g j : Nat} (hg : g < B) (v : Value) : BkNew B (W.setCell ⟨g, j, none⟩ v) va vb L R :=
  ⟨⟨RcAt.keep h.1.1 (by simp) (fun b hb => Below.heap_setCell _ _ _ _ (by have := h.2.1 b hb; show b ≠ g; omega)), RcAt.keep h.1.2 (by simp) (fun b hb => Below.heap_setCell _ _ _ _ (by have := h.2.2 b hb; show b ≠ g; omega))⟩, h.2⟩

theorem five_one {w : World} {g : Nat} {a b c d e x : Value} {T : TypeId} (h : w.heap[g]? = some (.cells #[a, b, c, d, e] T (0, 0))) : (w.setCell ⟨g, 1, none⟩ x).heap[g]? = some (.cells #[a, x, c, d, e] T (0, 0)) ∧ (w.setCell ⟨g, 2, none⟩ x).heap[g]? = some (.cells #[a, b, x, d, e] T (0, 0)) ∧ (w.setCell ⟨g, 3, none⟩ x).heap[g]? = some (.cells #[a, b, c, x, e] T (0, 0)) :=
  ⟨heap_setCell_same w g 1 _ _ x h, heap_setCell_same w g 2 _ _ x h, heap_setCell_same w g 3 _ _ x h⟩

theorem five_froz {w : World} {g : Nat} {a b c d e : Value} {T : TypeId} (h : w.heap[g]? = some (.cells #[a, b, c, d, e] T (0, 0))) : w.frozen? ⟨g, 1, none⟩ = false ∧ w.frozen? ⟨g, 2, none⟩ = false ∧ w.frozen? ⟨g, 3, none⟩ = false :=
  ⟨by simp [World.frozen?, h], by simp [World.frozen?, h], by simp [World.frozen?, h]⟩

set_option maxHeartbeats 16000000 in
set_option maxRecDepth 100000 in
theorem again_law (v : Value) (l : List Rq) (wf : ∀ y ∈ l, ∀ n ∈ rqC y, (Lit.int .i64 n).wf = true) (x1 x2 x3 x4 x5 : Int) (f1 : (Lit.int .i64 x1).wf = true) (f2 : (Lit.int .i64 x2).wf = true) (f3 : (Lit.int .i64 x3).wf = true) (f4 : (Lit.int .i64 x4).wf = true) (f5 : (Lit.int .i64 x5).wf = true)
    (bk : Int) (g1 : (Lit.int .i64 bk).wf = true) (wt : Int) (g2 : (Lit.int .i64 wt).wf = true) (kd : Int) (g3 : (Lit.int .i64 kd).wf = true) (w : World) (hat : RcAt rqC w v l) :
    Calls Try.prog 8 #[v, .agg #[.int .i64 x1, .int .i64 x2, .int .i64 x3, .int .i64 x4, .int .i64 x5], .int .i64 bk, .int .i64 wt, .int .i64 kd] w fun e w' => e = .returned (.bool true) ∧ Below w.heap.size w w' := by
  obtain ⟨i1, hi1, q1⟩ := picked_some x1 12 f1 (by omega) (by omega)
  obtain ⟨i2, hi2, q2⟩ := picked_some x2 2 f2 (by omega) (by omega)
  obtain ⟨i3, hi3, q3⟩ := picked_some x3 5 f3 (by omega) (by omega)
  obtain ⟨i4, hi4, q4⟩ := picked_some x4 10 f4 (by omega) (by omega)
  obtain ⟨i6, hi6, q6⟩ := picked_some kd 2 g3 (by omega) (by omega)
  have HP : Hid (_ ∧ _ ∧ _ ∧ _ ∧ _) := ⟨q1, q2, q3, q4, q6⟩
  obtain ⟨pa, ca, rfl, hca, hma⟩ := RcAt.form hat
  obtain ⟨W0, hW0⟩ : ∃ W0, W0 = w.alloc (plO x1 x2 x3 x4 x5) := ⟨_, rfl⟩
  have hB0 : Below w.heap.size w W0 := by rw [hW0]; exact below_new _
  have hR0 : W0.heap[w.heap.size]? = some (plO x1 x2 x3 x4 x5) := by rw [hW0]; exact heap_alloc_new _ _
  have H : Hid (_ ∧ _ ∧ _) := ⟨asked_some _ l wf W0 (RcAt.below hat hB0), hB0, hR0⟩
  clear q1 q2 q3 q4 q6 f1 f2 f3 f4 f5 g1 g2 g3 hat hB0 hR0 wf
  go_enter Try.func8, Try.ntmps8
  go_wp2_with fail
  rw [← hW0]
  clear hW0
  refine Calls.mono H.out.1 ?_
  rintro r w1 ⟨L, R, now, p, c, q, m, rfl, hn1, hI, hb1⟩
  obtain ⟨W1, hW1⟩ : ∃ W1, W1 = w1.alloc (bkO (.slice p L.length c) (.slice q R.length m)) := ⟨_, rfl⟩
  have hk30 : min l.length 30 ≤ 30 := Nat.min_le_right _ _
  have hlen := hI.len
  have hn0 := hI.now0
  have hnk := hI.nowk
  have hids := hI.ids
  have hask1 : AskOk (50 + (i1 : Int), 1 + (i2 : Int), (i3 : Int), (i4 : Int), 0) now 9 := ⟨⟨⟨by show (0 : Int) ≤ 50 + i1; omega, by show 50 + (i1 : Int) ≤ 1048576; omega⟩, by show 1 + (i2 : Int) = 1 ∨ 1 + (i2 : Int) = 2; omega⟩, ⟨hn0, by omega⟩, by decide⟩
  have hask2 : AskOk (50 + (i1 : Int), 1 + (i6 : Int), bk, wt, 0) (now + 3) 4 := ⟨⟨⟨by show (0 : Int) ≤ 50 + i1; omega, by show 50 + (i1 : Int) ≤ 1048576; omega⟩, by show 1 + (i6 : Int) = 1 ∨ 1 + (i6 : Int) = 2; omega⟩, ⟨by omega, by omega⟩, by decide⟩
  have hne : ∀ r ∈ R, r.1 ≠ (50 + (i1 : Int), 1 + (i2 : Int), (i3 : Int), (i4 : Int), (0 : Int)).1 := fun r hr e => by have := hids r hr; have e : r.1 = 50 + (i1 : Int) := e; omega
  have ha1 := ask_new hI.ok (by omega) hask1 hne
  have ha2 := ask_again hI.ok (by omega) hask1 hne hask2 rfl
  obtain ⟨_, t2, _, _⟩ := take_is hI.ok (by omega) hask1.1 hne (u := now + 9) (by omega)
  obtain ⟨⟨⟨L', R'⟩, an⟩, htk⟩ : ∃ x, x = takeO L R (50 + (i1 : Int), 1 + (i2 : Int), (i3 : Int), (i4 : Int), 0) (now + 9) := ⟨_, rfl⟩
  rw [← htk] at ha1 ha2 t2
  have hbw1 := H.out.2.1.trans (hb1.mono H.out.2.1.size)
  have hp1 : W1.heap[w.heap.size]? = some (plO x1 x2 x3 x4 x5) := by rw [hW1]; exact heap_old _ _ (box_below H.out.2.2 hb1)
  have hx1 : W1.heap[w1.heap.size]? = some (bkO (.slice p L.length c) (.slice q R.length m)) := by rw [hW1]; exact heap_alloc_new _ _
  have hbW : Below w1.heap.size w1 W1 := by rw [hW1]; exact below_new _
  obtain ⟨g11, hg11⟩ : ∃ g11, g11 = w1.heap.size := ⟨_, rfl⟩
  rw [← hg11] at hx1
  obtain ⟨z1, z2, z3, z4, z5, zlt⟩ := five_cells hp1
  have hw50 : IntKind.i64.wrap (50 + (i1 : Int)) = 50 + (i1 : Int) := by rw [IntKind.wrap_i64]; omega
  have hw1' : IntKind.i64.wrap (1 + (i2 : Int)) = 1 + (i2 : Int) := by rw [IntKind.wrap_i64]; omega
  have HL : Hid (_ ∧ _ ∧ _ ∧ _ ∧ _ ∧ _ ∧ _) := ⟨hn1, ha1, ha2, hbw1, hp1, hx1, hbW⟩
  have HT : Hid (_ ∧ _) := ⟨t2, hg11⟩
  clear hn1 hI hb1 ha1 ha2 htk hask1 hask2 hne hids hbw1 hp1 hx1 hbW t2
  go_upto_region 2 with fail
  rw [← hg11, ← hW1]
  clear hW1 hg11
  go_cut [14] from 29 to 43 (fun s wx => ∃ g W, W = wx ∧ s = .pointer (some ⟨g, 0, none⟩) ∧ W.heap[g]? = some (rqO (50 + (i1 : Int)) (1 + (i2 : Int)) i3 i4 0) ∧ Below W1.heap.size W1 W ∧ W1.heap.size ≤ g)
  case first =>
    go_region_held3 (fun W => W.cell? ⟨w.heap.size, 0, none⟩ = some (.int .i64 x1) ∧ W.cell? ⟨w.heap.size, 1, none⟩ = some (.int .i64 x2) ∧ W.cell? ⟨w.heap.size, 2, none⟩ = some (.int .i64 x3) ∧ W.cell? ⟨w.heap.size, 3, none⟩ = some (.int .i64 x4) ∧ W.cell? ⟨w.heap.size, 4, none⟩ = some (.int .i64 x5) ∧ Below W1.heap.size W1 W) (first | exact held5p z1 z2 z3 z4 z5 ((Below.refl _ _).drew) | exact held5p z1 z2 z3 z4 z5 (((Below.refl _ _).drew).alloc (by simp) _) | exact held5p z1 z2 z3 z4 z5 (((Below.refl _ _).alloc (Nat.le_refl _) _).drew)) (first | (go_at_call_of 23 (Value.int .i64 x1); refine (HP.out.1 _).mono ?_; rintro r w4 ⟨rfl, rfl⟩) | (go_at_call_of 23 (Value.int .i64 x2); refine (HP.out.2.1 _).mono ?_; rintro r w4 ⟨rfl, rfl⟩) | (go_at_call_of 23 (Value.int .i64 x3); refine (HP.out.2.2.1 _).mono ?_; rintro r w4 ⟨rfl, rfl⟩) | (go_at_call_of 23 (Value.int .i64 x4); refine (HP.out.2.2.2.1 _).mono ?_; rintro r w4 ⟨rfl, rfl⟩))
    all_goals
      go_wp2_with fail
      go_meet
      refine ⟨_, _, rfl, rfl, ?_, ?_, Nat.le_refl _⟩
      · first
        | exact heap_alloc_new W1 _
        | (rw [hw50]; exact heap_alloc_new W1 _)
        | (rw [hw1']; exact heap_alloc_new W1 _)
        | (rw [hw50, hw1']; exact heap_alloc_new W1 _)
      · exact ((Below.refl _ _).alloc (Nat.le_refl _) _).drew
  case rest =>
    obtain ⟨g14, wx, rfl, rfl, hrq, hbx, hgx⟩ := hcut
    clear z1 z2 z3 z4 z5 zlt hw50 hw1'
    have hbX := HL.out.2.2.2.2.2.2.trans (hbx.mono HL.out.2.2.2.2.2.2.size)
    have hxx := box_below HL.out.2.2.2.2.2.1 hbx
    have hat2 := HL.out.1.1.below hbX
    obtain ⟨b0, b1, _, _, blt⟩ := two_cells hxx
    obtain ⟨r0, r1, r2, r3, r4, rlt⟩ := five_cells hrq
    have HA : Hid (_ ∧ _ ∧ _ ∧ _ ∧ _) := ⟨ask_any _ _ L R (50 + (i1 : Int)) (1 + (i2 : Int)) i3 i4 0 now 9 wx hat2, hbX, hxx, hrq, hgx⟩
    rw [HL.out.2.1] at HA
    clear hbX hxx hat2 hrq hbx hgx
    go_wp2_with fail
    refine Calls.mono HA.out.1 ?_
    intro r w2 hp
    obtain ⟨pn, cn, qn, mn, rfl, hn2, hb2⟩ := askPost_open hp
    have hg14 : g14 < wx.heap.size := rlt
    have hz2 := hb2.size
    have hx2 := box_below HA.out.2.2.1 hb2
    have hr2 := box_below HA.out.2.2.2.1 hb2
    have hB2 := HA.out.2.1.trans (hb2.mono HA.out.2.1.size)
    have hg14' : w1.heap.size ≤ g14 := Nat.le_trans HL.out.2.2.2.2.2.2.size HA.out.2.2.2.2
    have hgne : g11 ≠ g14 := by have := (Array.getElem?_eq_some_iff.1 HL.out.2.2.2.2.2.1).1; have := HA.out.2.2.2.2; omega
    obtain ⟨W5, hW5⟩ : ∃ W5, W5 = ((w2.setCell ⟨g14, 2, none⟩ (.int .i64 bk)).setCell ⟨g14, 3, none⟩ (.int .i64 wt)).alloc (bkO (.slice pn L'.length cn) (.slice qn R'.length mn)) := ⟨_, rfl⟩
    have h5r : W5.heap[g14]? = some (rqO (50 + (i1 : Int)) (1 + (i2 : Int)) bk wt 0) := by rw [hW5]; exact heap_old _ _ (five_one (five_one hr2).2.1).2.2
    have h5x : W5.heap[g11]? = some (bkO (.slice p L.length c) (.slice q R.length m)) := by rw [hW5]; exact heap_old _ _ (((Below.heap_setCell _ _ _ _ hgne).trans (Below.heap_setCell _ _ _ _ hgne)).trans hx2)
    have h5c : W5.heap[w2.heap.size]? = some (bkO (.slice pn L'.length cn) (.slice qn R'.length mn)) := by rw [hW5]; have := heap_alloc_new ((w2.setCell ⟨g14, 2, none⟩ (.int .i64 bk)).setCell ⟨g14, 3, none⟩ (.int .i64 wt)) (bkO (.slice pn L'.length cn) (.slice qn R'.length mn)); simpa using this
    have h5n : BkNew wx.heap.size W5 (.slice pn L'.length cn) (.slice qn R'.length mn) L' R' := by rw [hW5]; exact ((hn2.set hg14 _).set hg14 _).below (below_new _)
    have h5b : Below w1.heap.size w1 W5 := by rw [hW5]; exact (below_set1 (below_set1 hB2 hg14') hg14').alloc (by simp; have := hB2.size; omega) _
    have hb0 := two_cells hx2
    obtain ⟨b0, b1, _, _, blt⟩ := hb0
    clear r0 r1 r2 r3 r4 rlt
    obtain ⟨r0, r1, r2, r3, r4, rlt⟩ := five_cells hr2
    obtain ⟨_, rf2, rf3⟩ := five_froz hr2
    have H5 : Hid (_ ∧ _ ∧ _ ∧ _ ∧ _) := ⟨h5r, h5x, h5c, h5n, h5b⟩
    clear hp hn2 hb2 hx2 hr2 hB2 h5r h5x h5c h5n h5b
    go_wp2_with fail
    rw [← hW5]
    clear hW5 r0 r1 r2 r3 r4 rlt rf2 rf3 b0 b1 blt
    refine (HP.out.2.2.2.2 _).mono ?_
    rintro r w6 ⟨rfl, hw6⟩
    subst hw6
    obtain ⟨g15, hg15⟩ : ∃ g15, g15 = w2.heap.size := ⟨_, rfl⟩
    rw [← hg15] at H5 ⊢
    obtain ⟨r0, r1, r2, r3, r4, rlt⟩ := five_cells H5.out.1
    obtain ⟨rf1, _, _⟩ := five_froz H5.out.1
    obtain ⟨c0, c1, _, _, clt⟩ := two_cells H5.out.2.2.1
    have hg15x : wx.heap.size ≤ g15 := by rw [hg15]; exact hz2
    have hne15 : ¬ g15 = g14 := by omega
    obtain ⟨W6, hW6⟩ : ∃ W6, W6 = w6.setCell ⟨g14, 1, none⟩ (.int .i64 (1 + (i6 : Int))) := ⟨_, rfl⟩
    have h6x : W6.heap[g11]? = some (bkO (.slice p L.length c) (.slice q R.length m)) := by rw [hW6]; exact (Below.heap_setCell _ _ _ _ hgne).trans H5.out.2.1
    have h6c : W6.heap[g15]? = some (bkO (.slice pn L'.length cn) (.slice qn R'.length mn)) := by rw [hW6]; exact (Below.heap_setCell _ _ _ _ hne15).trans H5.out.2.2.1
    have h6n : BkNew wx.heap.size W6 (.slice pn L'.length cn) (.slice qn R'.length mn) L' R' := by rw [hW6]; exact H5.out.2.2.2.1.set hg14 _
    have h6b : Below w1.heap.size w1 W6 := by rw [hW6]; exact below_set1 H5.out.2.2.2.2 hg14'
    have HB : Hid (_ ∧ _ ∧ _ ∧ _ ∧ _) := ⟨ask_any _ _ L' R' (50 + (i1 : Int)) (1 + (i6 : Int)) bk wt 0 (now + 3) 4 W6 h6n.1, h6x, h6c, h6n, h6b⟩
    rw [HL.out.2.2.1] at HB
    clear h6x h6c h6n h6b hg15 hg15x
    go_wp2_with fail
    rw [← hW6]
    clear hW6 r0 r1 r2 r3 r4 rlt rf1 c0 c1 clt
    refine Calls.mono HB.out.1 ?_
    intro r w7 hp
    obtain ⟨pd, cd, qd, md, rfl, hn7, hb7⟩ := askPost_open hp
    obtain ⟨W7, hW7⟩ : ∃ W7, W7 = w7.alloc (bkO (.slice pd L'.length cd) (.slice qd R'.length md)) := ⟨_, rfl⟩
    have hb77 : Below W6.heap.size W6 W7 := by rw [hW7]; exact hb7.alloc hb7.size _
    have h7d : BkAt W7 (.slice pd L'.length cd) (.slice qd R'.length md) L' R' := by rw [hW7]; exact hn7.1.below (below_new _)
    have h7c := HB.out.2.2.2.1.1.below hb77
    have h7x := box_below HB.out.2.1 hb77
    have h7cb := box_below HB.out.2.2.1 hb77
    have h7b := HB.out.2.2.2.2.trans (hb77.mono HB.out.2.2.2.2.size)
    obtain ⟨y0, y1, _, _, ylt⟩ := two_cells (box_below HB.out.2.2.1 hb7)
    have H7 : Hid (_ ∧ _ ∧ _ ∧ _ ∧ _) := ⟨h7d, h7c, h7x, h7cb, h7b⟩
    clear hp hn7 hb7 hb77 h7d h7c h7x h7cb h7b
    go_wp2_with fail
    rw [← hW7]
    clear hW7 y0 y1 ylt
    refine Calls.mono (sameBookK _ _ _ _ L' R' W7 H7.out.2.1 H7.out.1) ?_
    rintro r w8 ⟨rfl, hb8⟩
    obtain ⟨c0, c1, _, _, clt⟩ := two_cells (box_below H7.out.2.2.2.1 hb8)
    obtain ⟨b0, b1, _, _, blt⟩ := two_cells (box_below H7.out.2.2.1 hb8)
    have hfin := HT.out.1
    have hfinI : (R'.length : Int) = (R.length : Int) + 1 := by
      have : R'.length = R.length + 1 := hfin
      omega
    have HZ : Hid _ := HL.out.2.2.2.1.trans ((H7.out.2.2.2.2.trans (hb8.mono H7.out.2.2.2.2.size)).mono HL.out.2.2.2.1.size)
    clear hb8 hfin
    go_wp2
    go_ret
    exact ⟨by simp, HZ.out⟩
end Go.Proofs.Ytlpedligkofegaa.Walks
