/-
  The document's WorldBegun. No condition.
-/
import Derived.Test.YtlphohahijeimaaBg
import Derived.WalkKit
import Derived.ProofKit
import Derived.Handy
import Derived.LoopTactic
import Derived.Below
import Derived.Laws.BitsAllLaws
import Derived.RegionTactic
import Derived.Deep.RegionHeld3
import Derived.Deep.DrawnRows
import Derived.Deep.AppendLies
import Derived.Laws.OwnMore
import Derived.Deep.Onto
import Derived.Deep.QuietTactic
import Derived.BigQuiet
namespace Go.Proofs.Ytlphohahijeimaa.Walks
open Go.RowKit
set_option linter.unusedVariables false
set_option linter.unusedSimpArgs false
attribute [local go_sem ↓] Go.wp_at_zero Go.wp_at_succ

set_option maxHeartbeats 8000000 in
set_option maxRecDepth 100000 in
theorem begun_bad (c : Cf) (w : World) (h : ¬ CfOk c) : Calls Try.prog 9 #[cfA c] w (BegRes c w) := by
  obtain ⟨W0, hW0⟩ : ∃ W0, W0 = (w.alloc (cfO c)).alloc (.cells wzL.toArray 49) := ⟨_, rfl⟩
  have hb0 : Below w.heap.size w W0 := by rw [hW0]; exact (below_new w).trans ((below_new _).mono (by simp))
  have hR0 : W0.heap[w.heap.size]? = some (cfO c) := by rw [hW0]; exact heap_old _ _ (heap_alloc_new _ _)
  have hR1 : W0.heap[w.heap.size + 1]? = some (.cells wzL.toArray 49 (0, 0)) := by rw [hW0]; exact heap_second _ _ _
  obtain ⟨k0, k1, k2, k3, k4, k5, k6, k7, k8, k9, k10, k11, k12, k13, k14, k15, klt⟩ := cf_cells hR0
  have HC := configFault_any c W0
  rw [show cfE c = 2 from if_neg h] at HC
  have HV : Hid (_ ∧ _ ∧ _ ∧ _ ∧ _) := ⟨hb0, hR0, hR1, hW0, HC⟩
  clear hb0 hR0 hR1 hW0 HC
  have HZ : Hid _ := wd_one cf0 (.slice none 0 0) (.slice none 0 0) 0 (.slice none 0 0) rfl rfl rfl
  have HN : Hid _ := h
  clear h
  go_enter Try.func9, Try.ntmps9
  go_wp2_with fail
  rw [show (#[.int .i64 0, .int .i64 0, .int .i64 0, .int .i64 0, .int .i64 0, .int .i64 0, .int .i64 0, .int .i64 0, .int .i64 0, .int .i64 0, .int .i64 0, .int .i64 0, .int .i64 0, .int .i64 0, .int .i64 0, .int .i64 0, .int .i64 0, .slice none 0 0, .slice none 0 0, .slice none 0 0, .slice none 0 0, .slice none 0 0, .slice none 0 0, .int .i64 0, .int .i64 0, .slice none 0 0] : Array Value) = wzL.toArray from rfl, ← HV.out.2.2.2.1]
  refine Calls.mono HV.out.2.2.2.2 ?_
  rintro r w1 ⟨rfl, hb1⟩
  have hX := box_below HV.out.2.2.1 hb1
  have hb := HV.out.1.trans (hb1.mono HV.out.1.size)
  obtain ⟨W5, hW5⟩ : ∃ W5, W5 = w1.setCells (w.heap.size + 1) 0 wzL := ⟨_, rfl⟩
  have hst := box_stored (vs := wzL) hX rfl
  rw [← hW5] at hst
  have hb5 : Below w.heap.size w W5 := by rw [hW5]; exact below_setCells hb (by omega) _ _ hb.size
  have HQ : Hid (_ ∧ _ ∧ _ ∧ _) := ⟨box_there hX, hW5, hst, hb5⟩
  clear hX hb hW5 hst hb5 hb1 k0 k1 k2 k3 k4 k5 k6 k7 k8 k9 k10 k11 k12 k13 k14 k15 klt
  go_wp2_with ((with_reducible refine wpList_store_mid rfl 49 (.tmp 2) (.tmp 11) rfl (w.heap.size + 1) 0 #[.int .i64 0, .int .i64 0, .int .i64 0, .int .i64 0, .int .i64 0, .int .i64 0, .int .i64 0, .int .i64 0, .int .i64 0, .int .i64 0, .int .i64 0, .int .i64 0, .int .i64 0, .int .i64 0, .int .i64 0, .int .i64 0, .int .i64 0, .slice none 0 0, .slice none 0 0, .slice none 0 0, .slice none 0 0, .slice none 0 0, .slice none 0 0, .int .i64 0, .int .i64 0, .slice none 0 0] ?hx ?hy ?ht ?hi ?h1 ?_); (case hx => rfl); (case hy => rfl); (case ht => exact HQ.out.1); (case hi => exact infoW); (case h1 => exact HZ.out); rw [show Array.toList (#[.int .i64 0, .int .i64 0, .int .i64 0, .int .i64 0, .int .i64 0, .int .i64 0, .int .i64 0, .int .i64 0, .int .i64 0, .int .i64 0, .int .i64 0, .int .i64 0, .int .i64 0, .int .i64 0, .int .i64 0, .int .i64 0, .int .i64 0, .slice none 0 0, .slice none 0 0, .slice none 0 0, .slice none 0 0, .slice none 0 0, .slice none 0 0, .int .i64 0, .int .i64 0, .slice none 0 0] : Array Value) = wzL from rfl, ← HQ.out.2.1])
  refine bodyPost_ret (v := .tuple #[wdA cf0 (.slice none 0 0) (.slice none 0 0) 0 (.slice none 0 0), .int .i64 2]) (results_ct Try.results9 rfl rfl (load_row HQ.out.2.2.1 Try.underlying49 rfl infoW)) rfl ?_
  show BegRes c w _ _
  unfold BegRes
  rw [if_neg HN.out]
  exact ⟨rfl, HQ.out.2.2.2⟩

/-- A world's box, while the document fills it. -/
abbrev wbO (c : Cf) (vt vh : Value) (tok : Int) (vw : Value) : Obj := .cells (wdL c vt vh tok vw).toArray 49

theorem wb_cells {w : World} {g : Nat} {c : Cf} {vt vh : Value} {tok : Int} {vw : Value} (h : w.heap[g]? = some (wbO c vt vh tok vw)) : w.cell? ⟨g, 17, none⟩ = some vt ∧ w.cell? ⟨g, 22, none⟩ = some vh ∧ w.cell? ⟨g, 23, none⟩ = some (.int .i64 tok) ∧ w.cell? ⟨g, 24, none⟩ = some (.int .i64 0) ∧ w.cell? ⟨g, 25, none⟩ = some vw ∧ (∀ j, w.frozen? ⟨g, j, none⟩ = false) ∧ g < w.heap.size :=
  ⟨by rw [cell_of_row w g 17 _ _ (0, 0) h]; rfl, by rw [cell_of_row w g 22 _ _ (0, 0) h]; rfl, by rw [cell_of_row w g 23 _ _ (0, 0) h]; rfl, by rw [cell_of_row w g 24 _ _ (0, 0) h]; rfl, by rw [cell_of_row w g 25 _ _ (0, 0) h]; rfl, fun j => by simp [World.frozen?, h], (Array.getElem?_eq_some_iff.1 h).1⟩

theorem wb_tab {w : World} {g : Nat} {c : Cf} {vt vh : Value} {tok : Int} {vw : Value} (h : w.heap[g]? = some (wbO c vt vh tok vw)) (v : Value) : (w.setCell ⟨g, 17, none⟩ v).heap[g]? = some (wbO c v vh tok vw) := heap_setCell_same w g 17 _ _ v h

theorem wb_hea {w : World} {g : Nat} {c : Cf} {vt vh : Value} {tok : Int} {vw : Value} (h : w.heap[g]? = some (wbO c vt vh tok vw)) (v : Value) : (w.setCell ⟨g, 22, none⟩ v).heap[g]? = some (wbO c vt v tok vw) := heap_setCell_same w g 22 _ _ v h

theorem wb_tok {w : World} {g : Nat} {c : Cf} {vt vh : Value} {tok : Int} {vw : Value} (h : w.heap[g]? = some (wbO c vt vh tok vw)) (x : Int) : (w.setCell ⟨g, 23, none⟩ (.int .i64 x)).heap[g]? = some (wbO c vt vh x vw) := heap_setCell_same w g 23 _ _ _ h

theorem wb_whe {w : World} {g : Nat} {c : Cf} {vt vh : Value} {tok : Int} {vw : Value} (h : w.heap[g]? = some (wbO c vt vh tok vw)) (v : Value) : ((w.setCell ⟨g, 24, none⟩ (.int .i64 0)).setCell ⟨g, 25, none⟩ v).heap[g]? = some (wbO c vt vh tok v) := heap_setCell_same _ g 25 _ _ v (heap_setCell_same w g 24 _ _ _ h)

/-- What the document's function has laid. -/
structure Wx (w w1 : World) (c : Cf) (vt vh : Value) (tok : Int) (vw : Value) (W : World) : Prop where
  cfg : W.heap[w.heap.size]? = some (cfO c)
  res : W.heap[w.heap.size + 1]? = some (.cells wzL.toArray 49 (0, 0))
  box : W.heap[w1.heap.size]? = some (wbO c vt vh tok vw)
  bel : Below w.heap.size w W

theorem Wx.below {w w1 : World} {c : Cf} {vt vh : Value} {tok : Int} {vw : Value} {W W' : World} (h : Wx w w1 c vt vh tok vw W) (hb : Below W.heap.size W W') : Wx w w1 c vt vh tok vw W' :=
  ⟨box_below h.cfg hb, box_below h.res hb, box_below h.box hb, h.bel.trans (hb.mono h.bel.size)⟩

theorem Wx.set {w w1 : World} {c : Cf} {vt vh : Value} {tok : Int} {vw : Value} {W : World} (h : Wx w w1 c vt vh tok vw W) (hg : w.heap.size + 1 < w1.heap.size) {vt' vh' : Value} {tok' : Int} {vw' : Value} (j : Nat) (v : Value) (hb : (W.setCell ⟨w1.heap.size, j, none⟩ v).heap[w1.heap.size]? = some (wbO c vt' vh' tok' vw')) : Wx w w1 c vt' vh' tok' vw' (W.setCell ⟨w1.heap.size, j, none⟩ v) :=
  ⟨(Below.heap_setCell _ _ _ _ (by simp; omega)).trans h.cfg, (Below.heap_setCell _ _ _ _ (by simp; omega)).trans h.res, hb, h.bel.setCell (by simp; omega) _⟩

set_option maxHeartbeats 8000000 in
set_option maxRecDepth 100000 in
theorem begun_ok (c : Cf) (w : World) (h : CfOk c) : Calls Try.prog 9 #[cfA c] w (BegRes c w) := by
  obtain ⟨W0, hW0⟩ : ∃ W0, W0 = (w.alloc (cfO c)).alloc (.cells wzL.toArray 49) := ⟨_, rfl⟩
  have hb0 : Below w.heap.size w W0 := by rw [hW0]; exact (below_new w).trans ((below_new _).mono (by simp))
  have hR0 : W0.heap[w.heap.size]? = some (cfO c) := by rw [hW0]; exact heap_old _ _ (heap_alloc_new _ _)
  have hR1 : W0.heap[w.heap.size + 1]? = some (.cells wzL.toArray 49 (0, 0)) := by rw [hW0]; exact heap_second _ _ _
  obtain ⟨k0, k1, k2, k3, k4, k5, k6, k7, k8, k9, k10, k11, k12, k13, k14, k15, klt⟩ := cf_cells hR0
  have HC := configFault_any c W0
  rw [show cfE c = 0 from if_pos h] at HC
  have HV : Hid (_ ∧ _ ∧ _ ∧ _ ∧ _) := ⟨hb0, hR0, hR1, hW0, HC⟩
  clear hb0 hR0 hR1 hW0 HC
  have HN : Hid _ := h
  clear h
  go_enter Try.func9, Try.ntmps9
  go_wp2_with fail
  rw [show (#[.int .i64 0, .int .i64 0, .int .i64 0, .int .i64 0, .int .i64 0, .int .i64 0, .int .i64 0, .int .i64 0, .int .i64 0, .int .i64 0, .int .i64 0, .int .i64 0, .int .i64 0, .int .i64 0, .int .i64 0, .int .i64 0, .int .i64 0, .slice none 0 0, .slice none 0 0, .slice none 0 0, .slice none 0 0, .slice none 0 0, .slice none 0 0, .int .i64 0, .int .i64 0, .slice none 0 0] : Array Value) = wzL.toArray from rfl, ← HV.out.2.2.2.1]
  refine Calls.mono HV.out.2.2.2.2 ?_
  rintro r w1 ⟨rfl, hb1⟩
  have hC1 := box_below HV.out.2.1 hb1
  have hX1 := box_below HV.out.2.2.1 hb1
  have hB1 := HV.out.1.trans (hb1.mono HV.out.1.size)
  obtain ⟨j0, j1, j2, j3, j4, j5, j6, j7, j8, j9, j10, j11, j12, j13, j14, j15, jlt⟩ := cf_cells hC1
  obtain ⟨W2, hW2⟩ : ∃ W2, W2 = (w1.alloc (.cells wzL.toArray 49)).setCells w1.heap.size 0 (wdL c (.slice none 0 0) (.slice none 0 0) 0 (.slice none 0 0)) := ⟨_, rfl⟩
  have hZ2 : (w1.alloc (.cells wzL.toArray 49)).heap[w1.heap.size]? = some (.cells wzL.toArray 49 (0, 0)) := heap_alloc_new _ _
  have hbW2 : Below w1.heap.size w1 W2 := by rw [hW2]; exact below_setCells (below_new w1) (Nat.le_refl _) _ _ (by simp)
  have hG2 : W2.heap[w1.heap.size]? = some (wbO c (.slice none 0 0) (.slice none 0 0) 0 (.slice none 0 0)) := by rw [hW2]; exact box_stored hZ2 rfl
  have hone2 := wd_one c (.slice none 0 0) (.slice none 0 0) 0 (.slice none 0 0) rfl rfl rfl
  have H1 : Hid (_ ∧ _ ∧ _ ∧ _ ∧ _ ∧ _ ∧ _ ∧ _) := ⟨hC1, hX1, hB1, hG2, hbW2, hW2, box_there hZ2, hone2⟩
  clear hX1 hB1 hb1 hG2 hbW2 hW2 hone2 hZ2 k0 k1 k2 k3 k4 k5 k6 k7 k8 k9 k10 k11 k12 k13 k14 k15 klt
  have hC2 := box_below hC1 H1.out.2.2.2.2.1
  clear hC1
  obtain ⟨m0, m1, m2, m3, m4, m5, m6, m7, m8, m9, m10, m11, m12, m13, m14, m15, mlt⟩ := cf_cells hC2
  clear hC2
  go_wp2_with (first | ((with_reducible refine wpList_store_mid rfl 49 (.tmp 5) (.tmp 14) rfl w1.heap.size 0 #[.int .i64 c.flows, .int .i64 c.num, .int .i64 c.den, .int .i64 c.tries, .int .i64 c.warm, .int .i64 c.drain, .int .i64 c.idle, .int .i64 c.conn, .int .i64 c.ret, .int .i64 c.most, .int .i64 c.bn, .int .i64 c.bd, .int .i64 c.bb, .int .i64 c.wn, .int .i64 c.wf, .int .i64 c.wh, .int .i64 0, .slice none 0 0, .slice none 0 0, .slice none 0 0, .slice none 0 0, .slice none 0 0, .slice none 0 0, .int .i64 0, .int .i64 0, .slice none 0 0] ?hx ?hy ?ht ?hi ?h1 ?_); (case hx => rfl); (case hy => rfl); (case ht => exact H1.out.2.2.2.2.2.2.1); (case hi => exact infoW); (case h1 => exact H1.out.2.2.2.2.2.2.2); rw [show Array.toList (#[.int .i64 c.flows, .int .i64 c.num, .int .i64 c.den, .int .i64 c.tries, .int .i64 c.warm, .int .i64 c.drain, .int .i64 c.idle, .int .i64 c.conn, .int .i64 c.ret, .int .i64 c.most, .int .i64 c.bn, .int .i64 c.bd, .int .i64 c.bb, .int .i64 c.wn, .int .i64 c.wf, .int .i64 c.wh, .int .i64 0, .slice none 0 0, .slice none 0 0, .slice none 0 0, .slice none 0 0, .slice none 0 0, .slice none 0 0, .int .i64 0, .int .i64 0, .slice none 0 0] : Array Value) = wdL c (.slice none 0 0) (.slice none 0 0) 0 (.slice none 0 0) from rfl, show (#[.int .i64 0, .int .i64 0, .int .i64 0, .int .i64 0, .int .i64 0, .int .i64 0, .int .i64 0, .int .i64 0, .int .i64 0, .int .i64 0, .int .i64 0, .int .i64 0, .int .i64 0, .int .i64 0, .int .i64 0, .int .i64 0, .int .i64 0, .slice none 0 0, .slice none 0 0, .slice none 0 0, .slice none 0 0, .slice none 0 0, .slice none 0 0, .int .i64 0, .int .i64 0, .slice none 0 0] : Array Value) = wzL.toArray from rfl, ← H1.out.2.2.2.2.2.1]) | fail)
  clear j0 j1 j2 j3 j4 j5 j6 j7 j8 j9 j10 j11 j12 j13 j14 j15 jlt
  refine (Tb.tabled_any c.flows _).mono ?_
  rw [show Tb.makeOut c.flows = (List.replicate c.flows.toNat (0, false, 0, 0), 0) from if_pos HN.out.1]
  rintro r w3 ⟨p2, c2, rfl, ho3, hb3⟩
  obtain ⟨l, hl⟩ : ∃ l : List Tb.Sl, l = List.replicate c.flows.toNat (0, false, 0, 0) := ⟨_, rfl⟩
  simp only [← hl] at ho3 ⊢
  have HL : Hid _ := hl
  clear hl m0 m1 m2 m3 m4 m5 m6 m7 m8 m9 m10 m11 m12 m13 m14 m15 mlt
  have hG3 := box_below H1.out.2.2.2.1 hb3
  have hb13 := H1.out.2.2.2.2.1.trans (hb3.mono H1.out.2.2.2.2.1.size)
  have hC3 := box_below H1.out.1 hb13
  obtain ⟨g17, _, _, _, _, gfr, glt⟩ := wb_cells hG3
  have f17 := gfr 17
  obtain ⟨j0, j1, j2, j3, j4, j5, j6, j7, j8, j9, j10, j11, j12, j13, j14, j15, jlt⟩ := cf_cells hC3
  have hgc : ¬ w.heap.size = w1.heap.size := by have := H1.out.2.2.1.size; have := (Array.getElem?_eq_some_iff.1 H1.out.2.1).1; omega
  have hgc' : ¬ w1.heap.size = w.heap.size := fun e => hgc e.symm
  have hs12 : w1.heap.size < W2.heap.size := (Array.getElem?_eq_some_iff.1 H1.out.2.2.2.1).1
  have H3 : Hid (_ ∧ _ ∧ _ ∧ _ ∧ _ ∧ _ ∧ _) := ⟨hC3, box_below H1.out.2.1 hb13, hG3, ho3, hb13, H1.out.2.2.1, hs12⟩
  clear hG3 hb13 hC3 ho3 hb3 gfr hs12
  have hgt : w.heap.size + 1 < w1.heap.size := (Array.getElem?_eq_some_iff.1 H1.out.2.1).1
  obtain ⟨W4, hW4⟩ : ∃ W4, W4 = w3.setCell ⟨w1.heap.size, 17, none⟩ (.slice p2 l.length c2) := ⟨_, rfl⟩
  have hX4 : Wx w w1 c (.slice p2 l.length c2) (.slice none 0 0) 0 (.slice none 0 0) W4 := by
    rw [hW4]
    exact ⟨(Below.heap_setCell _ _ _ _ hgc).trans H3.out.1, (Below.heap_setCell _ _ _ _ (by simp; omega)).trans H3.out.2.1, wb_tab H3.out.2.2.1 _, (H3.out.2.2.2.2.2.1.trans (H3.out.2.2.2.2.1.mono H3.out.2.2.2.2.2.1.size)).setCell (by simp; omega) _⟩
  have hT4 : W4.ownsRow W2.heap.size 88 4 (.slice p2 l.length c2) l.length (Tb.scells l) := by
    rw [hW4]
    exact own_block H3.out.2.2.2.1 fun g hg => Below.heap_setCell _ _ _ _ (by have := (H3.out.2.2.2.1.lt g hg).1; have := H3.out.2.2.2.2.2.2; simp; omega)
  have HG : Hid _ := hgt
  have H4 : Hid (_ ∧ _ ∧ _) := ⟨hX4, hT4, hW4⟩
  clear hX4 hT4 hW4
  go_wp2_with fail
  rw [← H4.out.2.2]
  clear j0 j1 j2 j3 j4 j5 j6 j7 j8 j9 j10 j11 j12 j13 j14 j15 jlt g17 f17 glt hgc hgc' hgt
  refine (Bk.filled_any c.bn c.bd c.bb _).mono ?_
  rw [show Bk.fillO c.bn c.bd c.bb = (c.bb * c.bd, 0) from if_pos HN.out.2.2.2.2.2.2.2.2.2.2.1]
  rintro r w5 ⟨rfl, hb5⟩
  obtain ⟨tok, htok⟩ : ∃ tok, tok = c.bb * c.bd := ⟨_, rfl⟩
  dsimp only
  rw [← htok]
  have HK : Hid _ := htok
  clear htok
  have hX5 := H4.out.1.below hb5
  have hT5 := own_grownW H4.out.2.1 hb5
  obtain ⟨_, _, g23, _, _, gfr, glt⟩ := wb_cells hX5.box
  have f23 := gfr 23
  have hs5 : w1.heap.size < W2.heap.size := H3.out.2.2.2.2.2.2
  obtain ⟨W6, hW6⟩ : ∃ W6, W6 = w5.setCell ⟨w1.heap.size, 23, none⟩ (.int .i64 tok) := ⟨_, rfl⟩
  have hX6 : Wx w w1 c (.slice p2 l.length c2) (.slice none 0 0) tok (.slice none 0 0) W6 := by rw [hW6]; exact hX5.set HG.out 23 _ (wb_tok hX5.box tok)
  have hT6 : W6.ownsRow W2.heap.size 88 4 (.slice p2 l.length c2) l.length (Tb.scells l) := by
    rw [hW6]
    exact own_block hT5 fun g hg => Below.heap_setCell _ _ _ _ (by have := (hT5.lt g hg).1; simp; omega)
  have H6 : Hid (_ ∧ _ ∧ _ ∧ _) := ⟨hX6, hT6, hW6, hs5⟩
  clear hX6 hT6 hW6 hX5 hT5 gfr hb5 hs5
  go_wp2_with fail
  rw [← H6.out.2.2.1]
  clear g23 f23 glt
  refine (Wh.wheelOf_any 0 (.slice none 0 0) [] _ (show RowAt _ _ 0 [] from rowAt_nil _) (by omega) (by omega) (by simp) (by simp)).mono ?_
  rintro r w7 ⟨vx, vs, rfl, hO7, hb7⟩
  rw [wheelOf_nil] at hO7
  obtain ⟨px, cx, hvx⟩ := own_form hO7.row
  obtain ⟨nx, hnx⟩ : ∃ nx, nx = Wh.bare.length := ⟨_, rfl⟩
  rw [← hnx] at hvx
  subst hvx
  clear hnx
  have hX7 := H6.out.1.below hb7
  have hT7 := own_grownW H6.out.2.1 hb7
  obtain ⟨_, _, _, g24, g25, gfr, glt⟩ := wb_cells hX7.box
  have f24 := gfr 24
  have f25 := gfr 25
  obtain ⟨W8, hW8⟩ : ∃ W8, W8 = (w7.setCell ⟨w1.heap.size, 24, none⟩ (.int .i64 0)).setCell ⟨w1.heap.size, 25, none⟩ (.slice px nx cx) := ⟨_, rfl⟩
  have hne8 : ∀ g, g ≠ w1.heap.size → W8.heap[g]? = w7.heap[g]? := fun g hg => by rw [hW8, Below.heap_setCell _ _ _ _ (by simpa using hg), Below.heap_setCell _ _ _ _ (by simpa using hg)]
  have hX8 : Wx w w1 c (.slice p2 l.length c2) (.slice none 0 0) tok (.slice px nx cx) W8 := ⟨(hne8 _ (by have := HG.out; omega)).trans hX7.cfg, (hne8 _ (by have := HG.out; omega)).trans hX7.res, by rw [hW8]; exact wb_whe hX7.box _, by rw [hW8]; exact (hX7.bel.setCell (by have := HG.out; simp; omega) _).setCell (by have := HG.out; simp; omega) _⟩
  have hT8 := own_block (w' := W8) hT7 fun g hg => hne8 g (by have := (hT7.lt g hg).1; have := H6.out.2.2.2; omega)
  have hO8 : Wh.OwnLs W8 W6.heap.size (.slice px nx cx) vs Wh.bare := hO7.keep fun g h1 _ => hne8 g (by have := (Array.getElem?_eq_some_iff.1 H6.out.1.box).1; omega)
  have H8 : Hid (_ ∧ _ ∧ _ ∧ _) := ⟨hX8, hT8, hO8, hW8⟩
  clear hX8 hT8 hO8 hW8 hX7 hT7 hO7 gfr hb7 hne8
  go_wp2
  rw [← H8.out.2.2.2]
  clear g24 g25 f24 f25 glt
  go_loopw [6] (fun t wr => ∃ (k c' : Nat) (p' : Option Addr), t = .int .i64 k ∧ k ≤ 12 ∧ Wx w w1 c (.slice p2 l.length c2) (.slice p' k c') tok (.slice px nx cx) wr ∧ W8.heap.size ≤ wr.heap.size ∧ (∀ g, g < W8.heap.size → g ≠ w1.heap.size → wr.heap[g]? = W8.heap[g]?) ∧ wr.ownsRow W8.heap.size 71 4 (.slice p' k c') k (rv heV (List.replicate k ()))) (fun t _ => 12 - (intOf t).toNat)
  case atStart => exact ⟨0, 0, none, rfl, Nat.zero_le _, H8.out.1, Nat.le_refl _, fun _ _ _ => rfl, World.ownsRow_nil _ _ _ _⟩
  case round =>
    obtain ⟨k, c', p', rfl, hk, hX, hs, hkp, ho⟩ := hrel
    by_cases hlt : k < 12
    · have hkI : (k : Int) < 12 := by omega
      obtain ⟨_, g22, _, _, _, gfr, glt⟩ := wb_cells hX.box
      have f22 := gfr 22
      have hg8 : w1.heap.size < W8.heap.size := (Array.getElem?_eq_some_iff.1 H8.out.1.box).1
      obtain ⟨q, c3, w9, hr, ho9, hg9, hlies⟩ := append_oneV he4 he1 (by decide) Try.underlying42 infoHe rfl ho hs 42 () #[.slice none 0 0, .bool false, .int .i64 0, .int .i64 0] rfl (by omega) (by unfold maxLen; omega)
      have hown : ∀ g, (Value.slice p' k c').ownBlock = some g → W8.heap.size ≤ g := fun g hg => (ho.lt g hg).1
      have hB9 : ∀ g, g < wr.heap.size → g < W8.heap.size → w9.heap[g]? = wr.heap[g]? := fun g h1 h2 => hg9.block g h1 (fun e => by have := hown g e.symm; omega)
      have hwr1 : w.heap.size + 1 < w1.heap.size := HG.out
      have hX9 : Wx w w1 c (.slice p2 l.length c2) (.slice p' k c') tok (.slice px nx cx) w9 := ⟨(hB9 _ (by omega) (by omega)).trans hX.cfg, (hB9 _ (by omega) (by omega)).trans hX.res, (hB9 _ glt hg8).trans hX.box, hX.bel.grown hg9 hX.bel.size (fun j hj => by have := hown j hj; omega)⟩
      obtain ⟨_, h22, _, _, _, gfr9, glt9⟩ := wb_cells hX9.box
      have f229 := gfr9 22
      rw [show List.replicate k () ++ [()] = List.replicate (k + 1) () from (List.replicate_succ').symm] at ho9
      have hs9 := hg9.size
      have HR : Hid (_ ∧ _ ∧ _ ∧ _ ∧ _ ∧ _ ∧ _ ∧ _ ∧ _) := ⟨hr, ho9, hX9, hB9, hkp, hs, hs9, hg8, hwr1⟩
      clear hr ho9 hX9 hB9 hkp hs hs9 hown ho hX hg9 hlies gfr gfr9 hwr1 hg8
      go_wp2_with (at_builtin; (with_reducible refine wpList_append_eq rfl _ _ 42 rfl (.slice p' k c') (.slice (some ⟨wr.heap.size, 0, none⟩) 1 1) (.slice (some ⟨q, 0, none⟩) (k + 1) c3) w9 ?hs ?hx ?hr ?_); (case hs => rfl); (case hx => rfl); (case hr => exact HR.out.1))
      go_roundw
      case rel =>
        obtain ⟨hr, ho9, hX9, hB9, hkp, hs, hs9, hg8, hwr1⟩ := HR.out
        refine ⟨k + 1, c3, some ⟨q, 0, none⟩, by simp, hlt, hX9.set hwr1 22 _ (wb_hea hX9.box _), ?_, fun g h1 h2 => ?_, own_block ho9 fun g hg => Below.heap_setCell _ _ _ _ ?_⟩
        · simp; omega
        · rw [Below.heap_setCell _ _ _ _ (by simpa using h2), hB9 g (by omega) h1]
          exact hkp g h1 h2
        · have := (ho9.lt g hg).1
          simp
          omega
      case measure => simp [intOf]; omega
    · have hkd : ¬ ((k : Int) < 12) := by omega
      have hk12 : k = 12 := by omega
      have hwr1 : w.heap.size + 1 < w1.heap.size := HG.out
      have hg8 : w1.heap.size < W8.heap.size := (Array.getElem?_eq_some_iff.1 H8.out.1.box).1
      obtain ⟨W9, hW9⟩ : ∃ W9, W9 = wr.setCells (w.heap.size + 1) 0 (wdL c (.slice p2 l.length c2) (.slice p' k c') tok (.slice px nx cx)) := ⟨_, rfl⟩
      have hoth : ∀ g, g ≠ w.heap.size + 1 → g < wr.heap.size → W9.heap[g]? = wr.heap[g]? := fun g h1 h2 => by rw [hW9]; exact World.heap_setCells_other wr _ _ _ h2 h1
      have hst : W9.heap[w.heap.size + 1]? = some (.cells (wdL c (.slice p2 l.length c2) (.slice p' k c') tok (.slice px nx cx)).toArray 49 (0, 0)) := by rw [hW9]; exact box_stored hX.res rfl
      have hb9 : Below w.heap.size w W9 := by rw [hW9]; exact below_setCells hX.bel (by omega) _ _ hX.bel.size
      have hs6 := (Array.getElem?_eq_some_iff.1 H6.out.1.box).1
      have hT9 : Tb.SlAt W9 (.slice p2 l.length c2) l := tb_own (own_block H8.out.2.1 fun g hg => by
        have h1 := H8.out.2.1.lt g hg
        have := H6.out.2.2.2
        rw [hoth g (by omega) (by omega)]
        exact hkp g h1.2 (by omega))
      have hO9 : Wh.LsAt W9 (.slice px nx cx) Wh.bare := wh_at (H8.out.2.2.1.keep fun g h1 h2 => by
        rw [hoth g (by omega) (by omega)]
        exact hkp g h2 (by omega))
      have hH9 : HsAt W9 (.slice p' k c') k := by
        have h1 := own_block (w' := W9) ho fun g hg => hoth g (by have := (ho.lt g hg).1; omega) (ho.lt g hg).2
        show RowAt _ _ (List.replicate k ()).length _
        rw [List.length_replicate]
        exact rowAt_own h1
      have hone := wd_one c (.slice p2 l.length c2) (.slice p' k c') tok (.slice px nx cx) rfl rfl rfl
      have HQ : Hid (_ ∧ _ ∧ _ ∧ _ ∧ _ ∧ _ ∧ _ ∧ _ ∧ _ ∧ _) := ⟨range_of (cs := (wdL c (.slice p2 l.length c2) (.slice p' k c') tok (.slice px nx cx))) hX.box, box_there hX.res, hone, hW9, hst, hb9, hT9, hO9, hH9, hk12⟩
      clear hX hs hkp ho hoth hst hb9 hT9 hO9 hH9 hone hW9 hwr1 hg8 hs6 hk12
      go_wp2_with (first | ((with_reducible refine wpList_load_mid rfl 49 (.tmp 5) rfl w1.heap.size 0 ?hx (wdL c (.slice p2 l.length c2) (.slice p' k c') tok (.slice px nx cx)) _ ?hc Try.underlying49 ?hd ?hi ?_); (case hx => rfl); (case hc => exact HQ.out.1); (case hd => rfl); (case hi => exact infoW)) | ((with_reducible refine wpList_store_mid rfl 49 (.tmp 2) (.tmp 41) rfl (w.heap.size + 1) 0 #[.int .i64 c.flows, .int .i64 c.num, .int .i64 c.den, .int .i64 c.tries, .int .i64 c.warm, .int .i64 c.drain, .int .i64 c.idle, .int .i64 c.conn, .int .i64 c.ret, .int .i64 c.most, .int .i64 c.bn, .int .i64 c.bd, .int .i64 c.bb, .int .i64 c.wn, .int .i64 c.wf, .int .i64 c.wh, .int .i64 0, .slice p2 l.length c2, .slice none 0 0, .slice none 0 0, .slice none 0 0, .slice none 0 0, .slice p' k c', .int .i64 tok, .int .i64 0, .slice px nx cx] ?hx ?hy ?ht ?hi ?h1 ?_); (case hx => rfl); (case hy => rfl); (case ht => exact HQ.out.2.1); (case hi => exact infoW); (case h1 => exact HQ.out.2.2.1); rw [show Array.toList (#[.int .i64 c.flows, .int .i64 c.num, .int .i64 c.den, .int .i64 c.tries, .int .i64 c.warm, .int .i64 c.drain, .int .i64 c.idle, .int .i64 c.conn, .int .i64 c.ret, .int .i64 c.most, .int .i64 c.bn, .int .i64 c.bd, .int .i64 c.bb, .int .i64 c.wn, .int .i64 c.wf, .int .i64 c.wh, .int .i64 0, .slice p2 l.length c2, .slice none 0 0, .slice none 0 0, .slice none 0 0, .slice none 0 0, .slice p' k c', .int .i64 tok, .int .i64 0, .slice px nx cx] : Array Value) = (wdL c (.slice p2 l.length c2) (.slice p' k c') tok (.slice px nx cx)) from rfl, ← HQ.out.2.2.2.1]))
      refine bodyPost_ret (v := .tuple #[wdA c (.slice p2 l.length c2) (.slice p' k c') tok (.slice px nx cx), .int .i64 0]) (results_ct Try.results9 rfl rfl (load_row (cs := (wdL c (.slice p2 l.length c2) (.slice p' k c') tok (.slice px nx cx))) HQ.out.2.2.2.2.1 Try.underlying49 rfl infoW)) rfl ?_
      show BegRes c w _ _
      unfold BegRes
      rw [if_pos HN.out]
      refine ⟨_, _, _, by rw [← HK.out], ?_, HQ.out.2.2.2.2.2.1⟩
      rw [← HL.out]
      have h12 := HQ.out.2.2.2.2.2.2.2.2.2
      subst h12
      exact ⟨HQ.out.2.2.2.2.2.2.1, HQ.out.2.2.2.2.2.2.2.2.1, HQ.out.2.2.2.2.2.2.2.1⟩

theorem begun_any (c : Cf) (w : World) : Calls Try.prog 9 #[cfA c] w (BegRes c w) := by
  by_cases h : CfOk c
  · exact begun_ok c w h
  · exact begun_bad c w h
end Go.Proofs.Ytlphohahijeimaa.Walks
