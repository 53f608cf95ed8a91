/-
  Begin; the document's WorldBegun. No condition.
-/
import Derived.Test.YtbabcpdcgncigaaCk
import Derived.Test.YtbabcpdcgncigaaRv
import Derived.WalkKit
import Derived.ProofKit
import Derived.Handy
import Derived.LoopTactic
import Derived.Below
import Derived.Laws.BitsAllLaws
import Derived.RegionTactic
import Derived.Deep.RegionHeld3
import Derived.Deep.DrawnRows
import Derived.Deep.AppendLies
import Derived.Laws.OwnMore
import Derived.Deep.Onto
import Derived.Deep.QuietTactic
import Derived.BigQuiet
namespace Go.Proofs.Ytbabcpdcgncigaa.Walks
open Go.RowKit
set_option linter.unusedVariables false
set_option linter.unusedSimpArgs false
attribute [local go_sem ↓] Go.wp_at_zero Go.wp_at_succ

/-- A world that has begun: its config, its table, its healths, its tokens, its wheel. -/
abbrev wdL (c : Cf) (vt vh : Value) (tok : Int) (vw : Value) : List Value := [.int .i64 c.flows, .int .i64 c.num, .int .i64 c.den, .int .i64 c.tries, .int .i64 c.warm, .int .i64 c.drain, .int .i64 c.idle, .int .i64 c.conn, .int .i64 c.ret, .int .i64 c.most, .int .i64 c.bn, .int .i64 c.bd, .int .i64 c.bb, .int .i64 c.wn, .int .i64 c.wf, .int .i64 c.wh, .int .i64 0, vt, .slice none 0 0, .slice none 0 0, .slice none 0 0, .slice none 0 0, vh, .int .i64 tok, .int .i64 0, vw]

abbrev wdA (c : Cf) (vt vh : Value) (tok : Int) (vw : Value) : Value := .agg #[.int .i64 c.flows, .int .i64 c.num, .int .i64 c.den, .int .i64 c.tries, .int .i64 c.warm, .int .i64 c.drain, .int .i64 c.idle, .int .i64 c.conn, .int .i64 c.ret, .int .i64 c.most, .int .i64 c.bn, .int .i64 c.bd, .int .i64 c.bb, .int .i64 c.wn, .int .i64 c.wf, .int .i64 c.wh, .int .i64 0, vt, .slice none 0 0, .slice none 0 0, .slice none 0 0, .slice none 0 0, vh, .int .i64 tok, .int .i64 0, vw]

abbrev cf0 : Cf := ⟨0, 0, 0, 0, 0, 0, 0, 0, 0, 0, 0, 0, 0, 0, 0, 0⟩

abbrev heV (_ : Unit) : List Value := [.slice none 0 0, .bool false, .int .i64 0, .int .i64 0]

theorem he4 (x : Unit) : (heV x).length = 4 := rfl

theorem he1 (x : Unit) : ∀ u ∈ heV x, u.oneCell' = true := by
  intro u hu
  simp only [List.mem_cons, List.not_mem_nil, or_false] at hu
  rcases hu with rfl | rfl | rfl | rfl <;> rfl

abbrev HsAt (w : World) (v : Value) (k : Nat) : Prop := RvAt heV w v (List.replicate k ())

theorem infoHe : (Try.prog.info? 71).map (fun i => (i.zero, i.size, i.bytes)) = some (some (.agg #[.slice none 0 0, .bool false, .int .i64 0, .int .i64 0]), 4, 48) := by kernel_rfl

theorem infoW : (Try.prog.info? 49).map (·.size) = some 26 := by kernel_rfl

theorem tb_below {w w' : World} {v : Value} {l : List Tb.Sl} (h : Tb.SlAt w v l) (hb : Below w.heap.size w w') : Tb.SlAt w' v l :=
  show RowAt w' v l.length (Tb.scells l) from RowAt.below (show RowAt w v l.length (Tb.scells l) from h) hb

theorem tb_own {w : World} {base : Nat} {v : Value} {l : List Tb.Sl} (h : w.ownsRow base 88 4 v l.length (Tb.scells l)) : Tb.SlAt w v l :=
  show RowAt w v l.length (Tb.scells l) from rowAt_own h

theorem wh_at {w : World} {base : Nat} {v : Value} {vs : List Value} {ls : List (List Wh.Tm)} (h : Wh.OwnLs w base v vs ls) : Wh.LsAt w v ls :=
  ⟨vs, (show RowAt w v ls.length vs from rowAt_own h.row), h.each.mono fun u l hu => (show RowAt w u l.length (Wh.tcells l) from rowAt_own hu)⟩

/-- What a world reads as. -/
def WdAt (w : World) (vt vh vw : Value) (l : List Tb.Sl) (k : Nat) (ls : List (List Wh.Tm)) : Prop := Tb.SlAt w vt l ∧ HsAt w vh k ∧ Wh.LsAt w vw ls

theorem WdAt.below {w w' : World} {vt vh vw : Value} {l : List Tb.Sl} {k : Nat} {ls : List (List Wh.Tm)} (h : WdAt w vt vh vw l k ls) (hb : Below w.heap.size w w') : WdAt w' vt vh vw l k ls :=
  ⟨tb_below h.1 hb, RvAt.below h.2.1 hb, Wh.LsAt.below h.2.2 hb⟩

/-- What a world begins as. -/
def BegRes (c : Cf) (w : World) (r : Ending) (w' : World) : Prop :=
  if CfOk c then ∃ vt vh vw, r = .returned (.tuple #[wdA c vt vh (c.bb * c.bd) vw, .int .i64 0]) ∧ WdAt w' vt vh vw (List.replicate c.flows.toNat (0, false, 0, 0)) 12 Wh.bare ∧ Below w.heap.size w w'
  else r = .returned (.tuple #[wdA cf0 (.slice none 0 0) (.slice none 0 0) 0 (.slice none 0 0), .int .i64 2]) ∧ Below w.heap.size w w'

theorem heap_setCells (T : TypeId) (g : Nat) : ∀ (vs pre old : List Value) (w : World), old.length = vs.length → w.heap[g]? = some (.cells (pre ++ old).toArray T (0, 0)) → (w.setCells g pre.length vs).heap[g]? = some (.cells (pre ++ vs).toArray T (0, 0))
  | [], pre, old, w, ho, h => by
    obtain rfl : old = [] := List.length_eq_zero_iff.1 (by simpa using ho)
    exact h
  | v :: vs, pre, [], w, ho, h => by simp at ho
  | v :: vs, pre, u :: old, w, ho, h => by
    have h1 := heap_setCell_same w g pre.length _ T v h
    have e : (pre ++ u :: old).toArray.setIfInBounds pre.length v = ((pre ++ [v]) ++ old).toArray := by
      apply Array.toList_inj.1
      simp
    rw [e] at h1
    have h2 := heap_setCells T g vs (pre ++ [v]) old _ (by simpa using ho) h1
    rw [World.setCells]
    simpa using h2

theorem tape_setCells (g : Nat) : ∀ (vs : List Value) (o : Nat) (w : World), (w.setCells g o vs).tape = w.tape
  | [], _, _ => rfl
  | v :: vs, o, w => by rw [World.setCells, tape_setCells g vs]; simp [World.setCell]

theorem size_setCells (g : Nat) : ∀ (vs : List Value) (o : Nat) (w : World), (w.setCells g o vs).heap.size = w.heap.size
  | [], _, _ => rfl
  | v :: vs, o, w => by rw [World.setCells, size_setCells g vs]; simp

theorem below_setCells {w : World} {g : Nat} {B : Nat} {w0 : World} (h : Below B w0 w) (hg : B ≤ g) (o : Nat) (vs : List Value) (hB : B ≤ w.heap.size) : Below B w0 (w.setCells g o vs) := by
  refine h.trans ⟨World.os_setCells _ _ _ _, tape_setCells _ _ _ _, World.output_setCells _ _ _ _, by rw [size_setCells]; exact Nat.le_refl _, fun i hi => World.heap_setCells_other w g o vs (by omega) (by omega)⟩

/-- A box of a world: its cells can be written, one by one. -/
theorem box_there {w : World} {g : Nat} {cs : List Value} {T : TypeId} (h : w.heap[g]? = some (.cells cs.toArray T (0, 0))) : w.there g 0 cs.length := fun j hj => by
  rw [Nat.zero_add, cell_of_row w g j _ T (0, 0) h]
  exact ⟨by simp [hj], by simp [World.frozen?, h]⟩

theorem box_stored {w : World} {g : Nat} {cs vs : List Value} {T : TypeId} (h : w.heap[g]? = some (.cells cs.toArray T (0, 0))) (hl : cs.length = vs.length) : (w.setCells g 0 vs).heap[g]? = some (.cells vs.toArray T (0, 0)) := by
  have := heap_setCells T g vs [] cs w hl (by simpa using h)
  simpa using this

/-- Blocks but one stay. -/
theorem setCells_old {w : World} {g : Nat} {vs : List Value} {B : Nat} (hg : B ≤ g) (hB : B ≤ w.heap.size) : Below B w (w.setCells g 0 vs) := below_setCells (Below.refl _ _) hg 0 vs hB

abbrev wzL : List Value := wdL cf0 (.slice none 0 0) (.slice none 0 0) 0 (.slice none 0 0)

theorem wd_one (c : Cf) (vt vh : Value) (tok : Int) (vw : Value) (h1 : vt.oneCell' = true) (h2 : vh.oneCell' = true) (h3 : vw.oneCell' = true) : (wdL c vt vh tok vw).toArray.all (·.oneCell') = true := by
  apply all_oneCell_toArray
  intro v hv
  simp only [wdL, List.mem_cons, List.not_mem_nil, or_false] at hv
  rcases hv with rfl | rfl | rfl | rfl | rfl | rfl | rfl | rfl | rfl | rfl | rfl | rfl | rfl | rfl | rfl | rfl | rfl | rfl | rfl | rfl | rfl | rfl | rfl | rfl | rfl | rfl <;> first | rfl | exact h1 | exact h2 | exact h3

set_option maxHeartbeats 8000000 in
set_option maxRecDepth 100000 in
theorem begin_bad (c : Cf) (w : World) (h : ¬ CfOk c) : Calls Try.prog 8 #[cfA c] w (BegRes c w) := by
  obtain ⟨W0, hW0⟩ : ∃ W0, W0 = (w.alloc (cfO c)).alloc (.cells wzL.toArray 49) := ⟨_, rfl⟩
  have hb0 : Below w.heap.size w W0 := by rw [hW0]; exact (below_new w).trans ((below_new _).mono (by simp))
  have hR0 : W0.heap[w.heap.size]? = some (cfO c) := by rw [hW0]; exact heap_old _ _ (heap_alloc_new _ _)
  have hR1 : W0.heap[w.heap.size + 1]? = some (.cells wzL.toArray 49 (0, 0)) := by rw [hW0]; exact heap_second _ _ _
  obtain ⟨k0, k1, k2, k3, k4, k5, k6, k7, k8, k9, k10, k11, k12, k13, k14, k15, klt⟩ := cf_cells hR0
  have HC := check_any c W0
  rw [show cfE c = 2 from if_neg h] at HC
  have HV : Hid (_ ∧ _ ∧ _ ∧ _ ∧ _) := ⟨hb0, hR0, hR1, hW0, HC⟩
  clear hb0 hR0 hR1 hW0 HC
  have HZ : Hid _ := wd_one cf0 (.slice none 0 0) (.slice none 0 0) 0 (.slice none 0 0) rfl rfl rfl
  have HN : Hid _ := h
  clear h
  go_enter Try.func8, Try.ntmps8
  go_wp2_with fail
  rw [show (#[.int .i64 0, .int .i64 0, .int .i64 0, .int .i64 0, .int .i64 0, .int .i64 0, .int .i64 0, .int .i64 0, .int .i64 0, .int .i64 0, .int .i64 0, .int .i64 0, .int .i64 0, .int .i64 0, .int .i64 0, .int .i64 0, .int .i64 0, .slice none 0 0, .slice none 0 0, .slice none 0 0, .slice none 0 0, .slice none 0 0, .slice none 0 0, .int .i64 0, .int .i64 0, .slice none 0 0] : Array Value) = wzL.toArray from rfl, ← HV.out.2.2.2.1]
  refine Calls.mono HV.out.2.2.2.2 ?_
  rintro r w1 ⟨rfl, hb1⟩
  have hX := box_below HV.out.2.2.1 hb1
  have hb := HV.out.1.trans (hb1.mono HV.out.1.size)
  obtain ⟨W5, hW5⟩ : ∃ W5, W5 = w1.setCells (w.heap.size + 1) 0 wzL := ⟨_, rfl⟩
  have hst := box_stored (vs := wzL) hX rfl
  rw [← hW5] at hst
  have hb5 : Below w.heap.size w W5 := by rw [hW5]; exact below_setCells hb (by omega) _ _ hb.size
  have HQ : Hid (_ ∧ _ ∧ _ ∧ _) := ⟨box_there hX, hW5, hst, hb5⟩
  clear hX hb hW5 hst hb5 hb1 k0 k1 k2 k3 k4 k5 k6 k7 k8 k9 k10 k11 k12 k13 k14 k15 klt
  go_wp2_with ((with_reducible refine wpList_store_mid rfl 49 (.tmp 2) (.tmp 15) rfl (w.heap.size + 1) 0 #[.int .i64 0, .int .i64 0, .int .i64 0, .int .i64 0, .int .i64 0, .int .i64 0, .int .i64 0, .int .i64 0, .int .i64 0, .int .i64 0, .int .i64 0, .int .i64 0, .int .i64 0, .int .i64 0, .int .i64 0, .int .i64 0, .int .i64 0, .slice none 0 0, .slice none 0 0, .slice none 0 0, .slice none 0 0, .slice none 0 0, .slice none 0 0, .int .i64 0, .int .i64 0, .slice none 0 0] ?hx ?hy ?ht ?hi ?h1 ?_); (case hx => rfl); (case hy => rfl); (case ht => exact HQ.out.1); (case hi => exact infoW); (case h1 => exact HZ.out); rw [show Array.toList (#[.int .i64 0, .int .i64 0, .int .i64 0, .int .i64 0, .int .i64 0, .int .i64 0, .int .i64 0, .int .i64 0, .int .i64 0, .int .i64 0, .int .i64 0, .int .i64 0, .int .i64 0, .int .i64 0, .int .i64 0, .int .i64 0, .int .i64 0, .slice none 0 0, .slice none 0 0, .slice none 0 0, .slice none 0 0, .slice none 0 0, .slice none 0 0, .int .i64 0, .int .i64 0, .slice none 0 0] : Array Value) = wzL from rfl, ← HQ.out.2.1])
  refine bodyPost_ret (v := .tuple #[wdA cf0 (.slice none 0 0) (.slice none 0 0) 0 (.slice none 0 0), .int .i64 2]) (results_ct Try.results8 rfl rfl (load_row HQ.out.2.2.1 Try.underlying49 rfl infoW)) rfl ?_
  show BegRes c w _ _
  unfold BegRes
  rw [if_neg HN.out]
  exact ⟨rfl, HQ.out.2.2.2⟩

theorem range_of {w : World} {g : Nat} {cs : List Value} {T : TypeId} (h : w.heap[g]? = some (.cells cs.toArray T (0, 0))) : w.rangeAt g 0 cs := fun j v hv => by
  rw [Nat.zero_add, cell_of_row w g j _ T (0, 0) h]
  simpa using hv

theorem step_store_mid {P : Program} {w : World} {ops : Array Oper} {o : Oper} {a : Act} {K : Act → World → Prop} {Q : Exit → Act → World → Prop} {E : Prop} (hgd : o.guard = none) (ty : TypeId) (x y : Operand) (ho : o.op = .store ty x y) (b : Nat) (ofs : Nat) (cells : Array Value) (hx : a.eval x = .pointer (some ⟨b, ofs, none⟩)) (hy : a.eval y = .agg cells) (ht : w.there b ofs cells.size) (hi : (P.info? ty).map (·.size) = some cells.size) (h1 : cells.all (·.oneCell') = true)
    (h : K (a.put o.dst undef) (w.setCells b ofs cells.toList)) : if Region.wanted o (yielded ops a.tmps) = true then Oper.wp P o a w K Q else E := by
  have hw : Region.wanted o (yielded ops a.tmps) = true := by simp [Region.wanted, hgd]
  rw [if_pos hw]
  exact wp_store_mid ty x y ho b ofs cells hx hy ht hi h1 h

theorem wz_cells {w : World} {g : Nat} (h : w.heap[g]? = some (.cells wzL.toArray 49 (0, 0))) : w.cell? ⟨g, 0, none⟩ = some (.int .i64 0) ∧ w.cell? ⟨g, 1, none⟩ = some (.int .i64 0) ∧ w.cell? ⟨g, 2, none⟩ = some (.int .i64 0) ∧ w.cell? ⟨g, 3, none⟩ = some (.int .i64 0) ∧ w.cell? ⟨g, 4, none⟩ = some (.int .i64 0) ∧ w.cell? ⟨g, 5, none⟩ = some (.int .i64 0) ∧ w.cell? ⟨g, 6, none⟩ = some (.int .i64 0) ∧ w.cell? ⟨g, 7, none⟩ = some (.int .i64 0) ∧ w.cell? ⟨g, 8, none⟩ = some (.int .i64 0) ∧ w.cell? ⟨g, 9, none⟩ = some (.int .i64 0) ∧ w.cell? ⟨g, 10, none⟩ = some (.int .i64 0) ∧ w.cell? ⟨g, 11, none⟩ = some (.int .i64 0) ∧ w.cell? ⟨g, 12, none⟩ = some (.int .i64 0) ∧ w.cell? ⟨g, 13, none⟩ = some (.int .i64 0) ∧ w.cell? ⟨g, 14, none⟩ = some (.int .i64 0) ∧ w.cell? ⟨g, 15, none⟩ = some (.int .i64 0) ∧ w.cell? ⟨g, 16, none⟩ = some (.int .i64 0) ∧ w.cell? ⟨g, 17, none⟩ = some (.slice none 0 0) ∧ w.cell? ⟨g, 18, none⟩ = some (.slice none 0 0) ∧ w.cell? ⟨g, 19, none⟩ = some (.slice none 0 0) ∧ w.cell? ⟨g, 20, none⟩ = some (.slice none 0 0) ∧ w.cell? ⟨g, 21, none⟩ = some (.slice none 0 0) ∧ w.cell? ⟨g, 22, none⟩ = some (.slice none 0 0) ∧ w.cell? ⟨g, 23, none⟩ = some (.int .i64 0) ∧ w.cell? ⟨g, 24, none⟩ = some (.int .i64 0) ∧ w.cell? ⟨g, 25, none⟩ = some (.slice none 0 0) ∧ (∀ j, w.frozen? ⟨g, j, none⟩ = false) ∧ g < w.heap.size :=
  ⟨by rw [cell_of_row w g 0 _ _ (0, 0) h]; rfl, by rw [cell_of_row w g 1 _ _ (0, 0) h]; rfl, by rw [cell_of_row w g 2 _ _ (0, 0) h]; rfl, by rw [cell_of_row w g 3 _ _ (0, 0) h]; rfl, by rw [cell_of_row w g 4 _ _ (0, 0) h]; rfl, by rw [cell_of_row w g 5 _ _ (0, 0) h]; rfl, by rw [cell_of_row w g 6 _ _ (0, 0) h]; rfl, by rw [cell_of_row w g 7 _ _ (0, 0) h]; rfl, by rw [cell_of_row w g 8 _ _ (0, 0) h]; rfl, by rw [cell_of_row w g 9 _ _ (0, 0) h]; rfl, by rw [cell_of_row w g 10 _ _ (0, 0) h]; rfl, by rw [cell_of_row w g 11 _ _ (0, 0) h]; rfl, by rw [cell_of_row w g 12 _ _ (0, 0) h]; rfl, by rw [cell_of_row w g 13 _ _ (0, 0) h]; rfl, by rw [cell_of_row w g 14 _ _ (0, 0) h]; rfl, by rw [cell_of_row w g 15 _ _ (0, 0) h]; rfl, by rw [cell_of_row w g 16 _ _ (0, 0) h]; rfl, by rw [cell_of_row w g 17 _ _ (0, 0) h]; rfl, by rw [cell_of_row w g 18 _ _ (0, 0) h]; rfl, by rw [cell_of_row w g 19 _ _ (0, 0) h]; rfl, by rw [cell_of_row w g 20 _ _ (0, 0) h]; rfl, by rw [cell_of_row w g 21 _ _ (0, 0) h]; rfl, by rw [cell_of_row w g 22 _ _ (0, 0) h]; rfl, by rw [cell_of_row w g 23 _ _ (0, 0) h]; rfl, by rw [cell_of_row w g 24 _ _ (0, 0) h]; rfl, by rw [cell_of_row w g 25 _ _ (0, 0) h]; rfl, fun j => by simp [World.frozen?, h], (Array.getElem?_eq_some_iff.1 h).1⟩

/-- What the last step of Begin reads and writes. -/
theorem beg_boxes {w : World} {c : Cf} {gc g2 gt gb gw : Nat} {vt vw : Value} {tok : Int} {ws : List Value} (hc : w.heap[gc]? = some (cfO c)) (h2 : w.heap[g2]? = some (.cells ws.toArray 49 (0, 0))) (hw : ws.length = 26) (ht : w.heap[gt]? = some (.cells #[vt] 33 (0, 0))) (hb : w.heap[gb]? = some (.cells #[.int .i64 tok] 44 (0, 0))) (hww : w.heap[gw]? = some (.cells #[.int .i64 0, vw] 47 (0, 0))) :
    w.cell? ⟨gc, 0, none⟩ = some (.int .i64 c.flows) ∧ w.cell? ⟨gc, 1, none⟩ = some (.int .i64 c.num) ∧ w.cell? ⟨gc, 2, none⟩ = some (.int .i64 c.den) ∧ w.cell? ⟨gc, 3, none⟩ = some (.int .i64 c.tries) ∧ w.cell? ⟨gc, 4, none⟩ = some (.int .i64 c.warm) ∧ w.cell? ⟨gc, 5, none⟩ = some (.int .i64 c.drain) ∧ w.cell? ⟨gc, 6, none⟩ = some (.int .i64 c.idle) ∧ w.cell? ⟨gc, 7, none⟩ = some (.int .i64 c.conn) ∧ w.cell? ⟨gc, 8, none⟩ = some (.int .i64 c.ret) ∧ w.cell? ⟨gc, 9, none⟩ = some (.int .i64 c.most) ∧ w.cell? ⟨gc, 10, none⟩ = some (.int .i64 c.bn) ∧ w.cell? ⟨gc, 11, none⟩ = some (.int .i64 c.bd) ∧ w.cell? ⟨gc, 12, none⟩ = some (.int .i64 c.bb) ∧ w.cell? ⟨gc, 13, none⟩ = some (.int .i64 c.wn) ∧ w.cell? ⟨gc, 14, none⟩ = some (.int .i64 c.wf) ∧ w.cell? ⟨gc, 15, none⟩ = some (.int .i64 c.wh) ∧ w.cell? ⟨gt, 0, none⟩ = some vt ∧ w.cell? ⟨gb, 0, none⟩ = some (.int .i64 tok) ∧ w.cell? ⟨gw, 0, none⟩ = some (.int .i64 0) ∧ w.cell? ⟨gw, 1, none⟩ = some vw ∧ w.there g2 0 26 :=
  have q := cf_cells hc
  ⟨q.1, q.2.1, q.2.2.1, q.2.2.2.1, q.2.2.2.2.1, q.2.2.2.2.2.1, q.2.2.2.2.2.2.1, q.2.2.2.2.2.2.2.1, q.2.2.2.2.2.2.2.2.1, q.2.2.2.2.2.2.2.2.2.1, q.2.2.2.2.2.2.2.2.2.2.1, q.2.2.2.2.2.2.2.2.2.2.2.1, q.2.2.2.2.2.2.2.2.2.2.2.2.1, q.2.2.2.2.2.2.2.2.2.2.2.2.2.1, q.2.2.2.2.2.2.2.2.2.2.2.2.2.2.1, q.2.2.2.2.2.2.2.2.2.2.2.2.2.2.2.1, one_cell ht, one_cell hb, (two_cells hww).1, (two_cells hww).2.1, by have := box_there h2; rwa [hw] at this⟩

theorem made_he : ∀ W, (Instr.makeSlice 42 (.int .i64 12) (.int .i64 12)).run Try.prog W = .ok (.slice (some ⟨W.heap.size, 0, none⟩) 12 12) (W.alloc (.cells (rv heV (List.replicate 12 ())).toArray 71)) := fun W => by kernel_rfl

theorem hs_new (W : World) : HsAt (W.alloc (.cells (rv heV (List.replicate 12 ())).toArray 71)) (.slice (some ⟨W.heap.size, 0, none⟩) 12 12) 12 := by
  refine ⟨_, 12, rfl, by simp, by unfold maxLen; omega, .inr ⟨W.heap.size, 0, rfl, by simp, fun i hi => ?_⟩⟩
  rw [Nat.zero_add, cell_of_row _ W.heap.size i _ _ (0, 0) (heap_alloc_new W _)]
  simp

set_option maxHeartbeats 8000000 in
set_option maxRecDepth 100000 in
theorem begin_ok (c : Cf) (w : World) (h : CfOk c) : Calls Try.prog 8 #[cfA c] w (BegRes c w) := by
  obtain ⟨W0, hW0⟩ : ∃ W0, W0 = (w.alloc (cfO c)).alloc (.cells wzL.toArray 49) := ⟨_, rfl⟩
  have hb0 : Below w.heap.size w W0 := by rw [hW0]; exact (below_new w).trans ((below_new _).mono (by simp))
  have hR0 : W0.heap[w.heap.size]? = some (cfO c) := by rw [hW0]; exact heap_old _ _ (heap_alloc_new _ _)
  have hR1 : W0.heap[w.heap.size + 1]? = some (.cells wzL.toArray 49 (0, 0)) := by rw [hW0]; exact heap_second _ _ _
  obtain ⟨k0, k1, k2, k3, k4, k5, k6, k7, k8, k9, k10, k11, k12, k13, k14, k15, klt⟩ := cf_cells hR0
  have HC := check_any c W0
  rw [show cfE c = 0 from if_pos h] at HC
  have HV : Hid (_ ∧ _ ∧ _ ∧ _ ∧ _) := ⟨hb0, hR0, hR1, hW0, HC⟩
  clear hb0 hR0 hR1 hW0 HC
  have HN : Hid _ := h
  clear h
  obtain ⟨z48, hz48⟩ : ∃ z, z = (rv heV (List.replicate 12 ())).toArray := ⟨_, rfl⟩
  have hmk : ∀ W, (Instr.makeSlice 42 (.int .i64 12) (.int .i64 12)).run Try.prog W = .ok (.slice (some ⟨W.heap.size, 0, none⟩) 12 12) (W.alloc (.cells z48 71)) := by rw [hz48]; exact made_he
  have HZ : Hid (_ ∧ _) := ⟨hz48, hmk⟩
  clear hz48 hmk
  go_enter Try.func8, Try.ntmps8
  go_wp2_with fail
  rw [show (#[.int .i64 0, .int .i64 0, .int .i64 0, .int .i64 0, .int .i64 0, .int .i64 0, .int .i64 0, .int .i64 0, .int .i64 0, .int .i64 0, .int .i64 0, .int .i64 0, .int .i64 0, .int .i64 0, .int .i64 0, .int .i64 0, .int .i64 0, .slice none 0 0, .slice none 0 0, .slice none 0 0, .slice none 0 0, .slice none 0 0, .slice none 0 0, .int .i64 0, .int .i64 0, .slice none 0 0] : Array Value) = wzL.toArray from rfl, ← HV.out.2.2.2.1]
  refine Calls.mono HV.out.2.2.2.2 ?_
  rintro r w1 ⟨rfl, hb1⟩
  have hC1 := box_below HV.out.2.1 hb1
  have hX1 := box_below HV.out.2.2.1 hb1
  have hB1 := HV.out.1.trans (hb1.mono HV.out.1.size)
  obtain ⟨j0, j1, j2, j3, j4, j5, j6, j7, j8, j9, j10, j11, j12, j13, j14, j15, jlt⟩ := cf_cells hC1
  have H1 : Hid (_ ∧ _ ∧ _) := ⟨hC1, hX1, hB1⟩
  clear hC1 hX1 hB1 hb1 k0 k1 k2 k3 k4 k5 k6 k7 k8 k9 k10 k11 k12 k13 k14 k15 klt
  go_wp2_with fail
  refine (Tb.make_any c.flows _).mono ?_
  rw [show Tb.makeOut c.flows = (List.replicate c.flows.toNat (0, false, 0, 0), 0) from if_pos HN.out.1]
  rintro r w2 ⟨p2, c2, rfl, ho2, hb2⟩
  obtain ⟨l, hl⟩ : ∃ l : List Tb.Sl, l = List.replicate c.flows.toNat (0, false, 0, 0) := ⟨_, rfl⟩
  simp only [← hl] at ho2 ⊢
  have HL : Hid _ := hl
  clear hl j0 j1 j2 j3 j4 j5 j6 j7 j8 j9 j10 j11 j12 j13 j14 j15 jlt
  obtain ⟨W2, hW2⟩ : ∃ W2, W2 = w2.alloc (.cells #[.slice p2 l.length c2] 33) := ⟨_, rfl⟩
  have hbW2 : Below w2.heap.size w2 W2 := by rw [hW2]; exact below_new w2
  have hb12 := hb2.trans (hbW2.mono hb2.size)
  have hT2 : W2.heap[w2.heap.size]? = some (.cells #[.slice p2 l.length c2] 33 (0, 0)) := by rw [hW2]; exact heap_alloc_new _ _
  have hS2 := own_grownW ho2 hbW2
  obtain ⟨j0, j1, j2, j3, j4, j5, j6, j7, j8, j9, j10, j11, j12, j13, j14, j15, jlt⟩ := cf_cells (box_below H1.out.1 hb2)
  have H2 : Hid (_ ∧ _ ∧ _ ∧ _ ∧ _ ∧ _) := ⟨box_below H1.out.1 hb12, box_below H1.out.2.1 hb12, H1.out.2.2.trans (hb12.mono H1.out.2.2.size), hT2, hS2, hW2⟩
  have hsz2 : Hid (w1.heap.size ≤ w2.heap.size) := hb2.size
  clear hbW2 hb12 hT2 hS2 hW2 ho2 hb2
  go_wp2_with fail
  rw [← H2.out.2.2.2.2.2]
  refine (Bk.fill_any c.bn c.bd c.bb _).mono ?_
  rw [show Bk.fillO c.bn c.bd c.bb = (c.bb * c.bd, 0) from if_pos HN.out.2.2.2.2.2.2.2.2.2.2.1]
  rintro r w3 ⟨rfl, hb3⟩
  clear j0 j1 j2 j3 j4 j5 j6 j7 j8 j9 j10 j11 j12 j13 j14 j15 jlt
  obtain ⟨tok, htok⟩ : ∃ tok, tok = c.bb * c.bd := ⟨_, rfl⟩
  dsimp only
  rw [← htok]
  have HK : Hid _ := htok
  clear htok
  obtain ⟨W3, hW3⟩ : ∃ W3, W3 = w3.alloc (.cells #[.int .i64 tok] 44) := ⟨_, rfl⟩
  have hbW3 : Below w3.heap.size w3 W3 := by rw [hW3]; exact below_new w3
  have hb23 := hb3.trans (hbW3.mono hb3.size)
  have hT3 : W3.heap[w3.heap.size]? = some (.cells #[.int .i64 tok] 44 (0, 0)) := by rw [hW3]; exact heap_alloc_new _ _
  have H3 : Hid (_ ∧ _ ∧ _ ∧ _ ∧ _ ∧ _ ∧ _) := ⟨box_below H2.out.1 hb23, box_below H2.out.2.1 hb23, H2.out.2.2.1.trans (hb23.mono H2.out.2.2.1.size), box_below H2.out.2.2.2.1 hb23, own_grownW H2.out.2.2.2.2.1 hb23, hT3, hW3⟩
  have hszW : Hid (w3.heap.size < W3.heap.size) := (Array.getElem?_eq_some_iff.1 hT3).1
  have hsz3 : Hid (w2.heap.size + 1 ≤ w3.heap.size) := by have := hb3.size; have := (Array.getElem?_eq_some_iff.1 H2.out.2.2.2.1).1; show _ ≤ _; omega
  clear hbW3 hb23 hT3 hW3 hb3
  go_wp2_with fail
  rw [← H3.out.2.2.2.2.2.2]
  refine (Wh.new_ok 0 _ ⟨by omega, by omega⟩).mono ?_
  rintro r w4 ⟨vw, vs, rfl, hO4, hb4⟩
  obtain ⟨pw, cw, hvw⟩ := own_form hO4.row
  obtain ⟨nw, hnw⟩ : ∃ nw, nw = Wh.bare.length := ⟨_, rfl⟩
  rw [← hnw] at hvw
  subst hvw
  clear hnw
  have hv1 : (Value.slice pw nw cw).oneCell' = true := rfl
  obtain ⟨W5, hW5⟩ : ∃ W5, W5 = w4.alloc (.cells #[.int .i64 0, .slice pw nw cw] 47) := ⟨_, rfl⟩
  have hbW5 : Below w4.heap.size w4 W5 := by rw [hW5]; exact below_new w4
  have hb45 := hb4.trans (hbW5.mono hb4.size)
  have hT5 : W5.heap[w4.heap.size]? = some (.cells #[.int .i64 0, .slice pw nw cw] 47 (0, 0)) := by rw [hW5]; exact heap_alloc_new _ _
  have H5 : Hid (_ ∧ _ ∧ _ ∧ _ ∧ _ ∧ _ ∧ _ ∧ _ ∧ _) := ⟨box_below H3.out.1 hb45, box_below H3.out.2.1 hb45, H3.out.2.2.1.trans (hb45.mono H3.out.2.2.1.size), box_below H3.out.2.2.2.1 hb45, own_grownW H3.out.2.2.2.2.1 hb45, box_below H3.out.2.2.2.2.2.1 hb45, hT5, hO4.below hbW5, hW5⟩
  have hsz4 : Hid (w3.heap.size + 1 ≤ w4.heap.size) := by have := hb4.size; have := (Array.getElem?_eq_some_iff.1 H3.out.2.2.2.2.2.1).1; show _ ≤ _; omega
  clear hbW5 hb45 hT5 hW5 hb4 hO4
  have hg1 : w.heap.size + 1 < w1.heap.size := (Array.getElem?_eq_some_iff.1 H1.out.2.1).1
  obtain ⟨W6, hW6⟩ : ∃ W6, W6 = (W5.alloc (.cells z48 71)).drew := ⟨_, rfl⟩
  have hb56 : Below W5.heap.size W5 W6 := by rw [hW6]; exact (below_new W5).trans ⟨rfl, rfl, rfl, Nat.le_refl _, fun _ _ => rfl⟩
  have hH6 : HsAt W6 (.slice (some ⟨W5.heap.size, 0, none⟩) 12 12) 12 := by rw [hW6, HZ.out.1]; exact hs_new W5
  obtain ⟨WL, hWL⟩ : ∃ WL, WL = wdL c (.slice p2 l.length c2) (.slice (some ⟨W5.heap.size, 0, none⟩) 12 12) tok (.slice pw nw cw) := ⟨_, rfl⟩
  obtain ⟨W7, hW7⟩ : ∃ W7, W7 = W6.setCells (w.heap.size + 1) 0 WL := ⟨_, rfl⟩
  have hoth : ∀ g, g ≠ w.heap.size + 1 → g < W6.heap.size → W7.heap[g]? = W6.heap[g]? := fun g h1 h2 => by rw [hW7]; exact World.heap_setCells_other W6 _ _ _ h2 h1
  have hC6 := box_below H5.out.1 hb56
  have hX6 := box_below H5.out.2.1 hb56
  have hT6 := box_below H5.out.2.2.2.1 hb56
  have hK6 := box_below H5.out.2.2.2.2.2.1 hb56
  have hV6 := box_below H5.out.2.2.2.2.2.2.1 hb56
  have ne1 : w2.heap.size ≠ w.heap.size + 1 := by have := H2.out.2.2.1.size; have := hsz2.out; omega
  have ne2 : w3.heap.size ≠ w.heap.size + 1 := by have := hsz2.out; have := hsz3.out; omega
  have ne3 : w4.heap.size ≠ w.heap.size + 1 := by have := hsz2.out; have := hsz3.out; have := hsz4.out; omega
  have hC7 := (hoth _ (by omega) (Array.getElem?_eq_some_iff.1 hC6).1).trans hC6
  have hT7 := (hoth _ ne1 (Array.getElem?_eq_some_iff.1 hT6).1).trans hT6
  have hK7 := (hoth _ ne2 (Array.getElem?_eq_some_iff.1 hK6).1).trans hK6
  have hV7 := (hoth _ ne3 (Array.getElem?_eq_some_iff.1 hV6).1).trans hV6
  have hst : W7.heap[w.heap.size + 1]? = some (.cells WL.toArray 49 (0, 0)) := by rw [hW7]; exact box_stored (vs := WL) hX6 (by rw [hWL]; rfl)
  have hB6 := H5.out.2.2.1.trans (hb56.mono H5.out.2.2.1.size)
  have hB7 : Below w.heap.size w W7 := by rw [hW7]; exact below_setCells hB6 (by omega) _ _ hB6.size
  have hs67 : W6.heap.size ≤ W7.heap.size := by rw [hW7, size_setCells]; exact Nat.le_refl _
  have hTab : Tb.SlAt W7 (.slice p2 l.length c2) l := tb_own (own_block (own_grownW H5.out.2.2.2.2.1 hb56) fun g hg => hoth g (by have := ((own_grownW H5.out.2.2.2.2.1 hb56).lt g hg).1; omega) ((own_grownW H5.out.2.2.2.2.1 hb56).lt g hg).2)
  have hLs : Wh.LsAt W7 (.slice pw nw cw) Wh.bare := wh_at ((H5.out.2.2.2.2.2.2.2.1.below hb56).keep fun g h1 h2 => hoth g (by have := hsz2.out; have := hsz3.out; have := hszW.out; omega) h2)
  have hHs : HsAt W7 (.slice (some ⟨W5.heap.size, 0, none⟩) 12 12) 12 := RvAt.keep hH6 hs67 fun b hb => by
    have e : b = W5.heap.size := by cases hb; rfl
    subst e
    exact hoth _ (by have := (Array.getElem?_eq_some_iff.1 H5.out.2.1).1; omega) (by have := hb56.size; rw [hW6]; simp)
  have F1 := beg_boxes H5.out.1 H5.out.2.1 rfl H5.out.2.2.2.1 H5.out.2.2.2.2.2.1 H5.out.2.2.2.2.2.2.1
  have F2 := beg_boxes hC6 hX6 rfl hT6 hK6 hV6
  have F3 := beg_boxes hC7 hst (by rw [hWL]; rfl) hT7 hK7 hV7
  have hone := wd_one c (.slice p2 l.length c2) (.slice (some ⟨W5.heap.size, 0, none⟩) 12 12) tok (.slice pw nw cw) rfl rfl hv1
  rw [hW7, hWL, hW6] at F3
  rw [hW6] at F2
  have G1 : Hid _ := F1
  have G2 : Hid _ := F2
  have G3 : Hid _ := F3
  have hth6 : Hid ((W5.alloc (.cells z48 71)).drew.there (w.heap.size + 1) 0 26) := F2.2.2.2.2.2.2.2.2.2.2.2.2.2.2.2.2.2.2.2.2
  have hth5 : Hid (W5.drew.there (w.heap.size + 1) 0 26) := F1.2.2.2.2.2.2.2.2.2.2.2.2.2.2.2.2.2.2.2.2
  have hsto : (Instr.storeAt 49 (.pointer (some ⟨w.heap.size + 1, 0, none⟩)) (.agg #[.int .i64 c.flows, .int .i64 c.num, .int .i64 c.den, .int .i64 c.tries, .int .i64 c.warm, .int .i64 c.drain, .int .i64 c.idle, .int .i64 c.conn, .int .i64 c.ret, .int .i64 c.most, .int .i64 c.bn, .int .i64 c.bd, .int .i64 c.bb, .int .i64 c.wn, .int .i64 c.wf, .int .i64 c.wh, .int .i64 0, .slice p2 l.length c2, .slice none 0 0, .slice none 0 0, .slice none 0 0, .slice none 0 0, .slice (some ⟨W5.heap.size, 0, none⟩) 12 12, .int .i64 tok, .int .i64 0, .slice pw nw cw])).run Try.prog ((W5.alloc (.cells z48 71)).drew) = .ok () W7 := by
    have h1 := run_storeAt_mid (P := Try.prog) ((W5.alloc (.cells z48 71)).drew) (w.heap.size + 1) 0 49 #[.int .i64 c.flows, .int .i64 c.num, .int .i64 c.den, .int .i64 c.tries, .int .i64 c.warm, .int .i64 c.drain, .int .i64 c.idle, .int .i64 c.conn, .int .i64 c.ret, .int .i64 c.most, .int .i64 c.bn, .int .i64 c.bd, .int .i64 c.bb, .int .i64 c.wn, .int .i64 c.wf, .int .i64 c.wh, .int .i64 0, .slice p2 l.length c2, .slice none 0 0, .slice none 0 0, .slice none 0 0, .slice none 0 0, .slice (some ⟨W5.heap.size, 0, none⟩) 12 12, .int .i64 tok, .int .i64 0, .slice pw nw cw] hth6.out infoW hone
    rw [hW7, hWL, hW6]
    exact h1
  have F3' : W7.cell? ⟨w.heap.size, 0, none⟩ = some (.int .i64 c.flows) ∧ W7.cell? ⟨w.heap.size, 1, none⟩ = some (.int .i64 c.num) ∧ W7.cell? ⟨w.heap.size, 2, none⟩ = some (.int .i64 c.den) ∧ W7.cell? ⟨w.heap.size, 3, none⟩ = some (.int .i64 c.tries) ∧ W7.cell? ⟨w.heap.size, 4, none⟩ = some (.int .i64 c.warm) ∧ W7.cell? ⟨w.heap.size, 5, none⟩ = some (.int .i64 c.drain) ∧ W7.cell? ⟨w.heap.size, 6, none⟩ = some (.int .i64 c.idle) ∧ W7.cell? ⟨w.heap.size, 7, none⟩ = some (.int .i64 c.conn) ∧ W7.cell? ⟨w.heap.size, 8, none⟩ = some (.int .i64 c.ret) ∧ W7.cell? ⟨w.heap.size, 9, none⟩ = some (.int .i64 c.most) ∧ W7.cell? ⟨w.heap.size, 10, none⟩ = some (.int .i64 c.bn) ∧ W7.cell? ⟨w.heap.size, 11, none⟩ = some (.int .i64 c.bd) ∧ W7.cell? ⟨w.heap.size, 12, none⟩ = some (.int .i64 c.bb) ∧ W7.cell? ⟨w.heap.size, 13, none⟩ = some (.int .i64 c.wn) ∧ W7.cell? ⟨w.heap.size, 14, none⟩ = some (.int .i64 c.wf) ∧ W7.cell? ⟨w.heap.size, 15, none⟩ = some (.int .i64 c.wh) ∧ W7.cell? ⟨w2.heap.size, 0, none⟩ = some (.slice p2 l.length c2) ∧ W7.cell? ⟨w3.heap.size, 0, none⟩ = some (.int .i64 tok) ∧ W7.cell? ⟨w4.heap.size, 0, none⟩ = some (.int .i64 0) ∧ W7.cell? ⟨w4.heap.size, 1, none⟩ = some (.slice pw nw cw) ∧ W7.there (w.heap.size + 1) 0 26 := by rw [hW7, hWL, hW6]; exact F3
  have G4 : Hid _ := F3'
  clear F3'
  have H9 : Hid (_ ∧ _ ∧ _ ∧ _ ∧ _ ∧ _ ∧ _ ∧ _ ∧ _) := ⟨hst, hB7, hTab, hLs, hHs, hone, hWL, hW7, hW6⟩
  have hmk := HZ.out.2
  have hu27 := Try.underlying27
  have hi27 : (Try.prog.info? 27).map (·.size) = some 16 := by kernel_rfl
  have hi49 := infoW
  clear F1 F2 F3 hst hB7 hTab hLs hHs hone hWL hW7 hW6 hoth hC6 hX6 hT6 hK6 hV6 hC7 hT7 hK7 hV7 hB6 hs67 hH6 hb56 ne1 ne2 ne3
  go_wp2
  rw [← H5.out.2.2.2.2.2.2.2.2]
  refine wp_region_held_drew (S := fun W => W.cell? ⟨w.heap.size, 0, none⟩ = some (.int .i64 c.flows) ∧ W.cell? ⟨w.heap.size, 1, none⟩ = some (.int .i64 c.num) ∧ W.cell? ⟨w.heap.size, 2, none⟩ = some (.int .i64 c.den) ∧ W.cell? ⟨w.heap.size, 3, none⟩ = some (.int .i64 c.tries) ∧ W.cell? ⟨w.heap.size, 4, none⟩ = some (.int .i64 c.warm) ∧ W.cell? ⟨w.heap.size, 5, none⟩ = some (.int .i64 c.drain) ∧ W.cell? ⟨w.heap.size, 6, none⟩ = some (.int .i64 c.idle) ∧ W.cell? ⟨w.heap.size, 7, none⟩ = some (.int .i64 c.conn) ∧ W.cell? ⟨w.heap.size, 8, none⟩ = some (.int .i64 c.ret) ∧ W.cell? ⟨w.heap.size, 9, none⟩ = some (.int .i64 c.most) ∧ W.cell? ⟨w.heap.size, 10, none⟩ = some (.int .i64 c.bn) ∧ W.cell? ⟨w.heap.size, 11, none⟩ = some (.int .i64 c.bd) ∧ W.cell? ⟨w.heap.size, 12, none⟩ = some (.int .i64 c.bb) ∧ W.cell? ⟨w.heap.size, 13, none⟩ = some (.int .i64 c.wn) ∧ W.cell? ⟨w.heap.size, 14, none⟩ = some (.int .i64 c.wf) ∧ W.cell? ⟨w.heap.size, 15, none⟩ = some (.int .i64 c.wh) ∧ W.cell? ⟨w2.heap.size, 0, none⟩ = some (.slice p2 l.length c2) ∧ W.cell? ⟨w3.heap.size, 0, none⟩ = some (.int .i64 tok) ∧ W.cell? ⟨w4.heap.size, 0, none⟩ = some (.int .i64 0) ∧ W.cell? ⟨w4.heap.size, 1, none⟩ = some (.slice pw nw cw) ∧ W.there (w.heap.size + 1) 0 26) (by kernel_rfl) G1.out (fun hHeld => ?_)
  refine wpAnyH_take (i := 0) (oi := _) (v := cfA c) rfl (by kernel_rfl) (by kernel_rfl) (by kernel_rfl) (fun _ _ _ h => h) (Or.inl ⟨by rfl, fun W hSw => by obtain ⟨s0, s1, s2, s3, s4, s5, s6, s7, s8, s9, s10, s11, s12, s13, s14, s15, s16, s17, s18, s19, s20⟩ := hSw; go_simp⟩) hHeld ?_
  simp only [Act.put, List.setIfInBounds_toArray, List.set_cons_zero, List.set_cons_succ]
  refine wpAnyH_take (i := 1) (oi := _) (v := .agg #[.slice p2 l.length c2]) rfl (by kernel_rfl) (by kernel_rfl) (by kernel_rfl) (fun _ _ _ h => h) (Or.inl ⟨by rfl, fun W hSw => by obtain ⟨s0, s1, s2, s3, s4, s5, s6, s7, s8, s9, s10, s11, s12, s13, s14, s15, s16, s17, s18, s19, s20⟩ := hSw; go_simp⟩) hHeld ?_
  simp only [Act.put, List.setIfInBounds_toArray, List.set_cons_zero, List.set_cons_succ]
  refine wpAnyH_take (i := 3) (oi := _) (v := .agg #[.int .i64 tok]) rfl (by kernel_rfl) (by kernel_rfl) (by kernel_rfl) (fun _ _ _ h => h) (Or.inl ⟨by rfl, fun W hSw => by obtain ⟨s0, s1, s2, s3, s4, s5, s6, s7, s8, s9, s10, s11, s12, s13, s14, s15, s16, s17, s18, s19, s20⟩ := hSw; go_simp⟩) hHeld ?_
  simp only [Act.put, List.setIfInBounds_toArray, List.set_cons_zero, List.set_cons_succ]
  refine wpAnyH_take (i := 4) (oi := _) (v := .agg #[.int .i64 0, .slice pw nw cw]) rfl (by kernel_rfl) (by kernel_rfl) (by kernel_rfl) (fun _ _ _ h => h) (Or.inl ⟨by rfl, fun W hSw => by obtain ⟨s0, s1, s2, s3, s4, s5, s6, s7, s8, s9, s10, s11, s12, s13, s14, s15, s16, s17, s18, s19, s20⟩ := hSw; go_simp⟩) hHeld ?_
  simp only [Act.put, List.setIfInBounds_toArray, List.set_cons_zero, List.set_cons_succ]
  refine wpAnyH_ready (rs := [2]) (by kernel_rfl) (by simp) ?_
  refine AllReadyH.cons (o := _) rfl (fun K hK => ?_) AllReadyH.nil
  go_simp
  refine hK.out _ _ G2.out (fun hHeld => ?_)
  clear hK K
  try simp only [Act.put, List.setIfInBounds_toArray, List.set_cons_zero, List.set_cons_succ]
  refine wpAnyH_ready (rs := [5]) (by kernel_rfl) (by simp) ?_
  refine AllReadyH.cons (o := _) rfl (fun K hK => ?_) AllReadyH.nil
  go_simp
  refine hK.out _ _ G2.out (fun hHeld => ?_)
  clear hK K
  try simp only [Act.put, List.setIfInBounds_toArray, List.set_cons_zero, List.set_cons_succ]
  refine wpAnyH_ready (rs := [6]) (by kernel_rfl) (by simp) ?_
  refine AllReadyH.cons (o := _) rfl (fun K hK => ?_) AllReadyH.nil
  rw [if_pos (by rfl)]
  refine wp_store_mid _ _ _ rfl _ _ #[.int .i64 c.flows, .int .i64 c.num, .int .i64 c.den, .int .i64 c.tries, .int .i64 c.warm, .int .i64 c.drain, .int .i64 c.idle, .int .i64 c.conn, .int .i64 c.ret, .int .i64 c.most, .int .i64 c.bn, .int .i64 c.bd, .int .i64 c.bb, .int .i64 c.wn, .int .i64 c.wf, .int .i64 c.wh, .int .i64 0, .slice p2 l.length c2, .slice none 0 0, .slice none 0 0, .slice none 0 0, .slice none 0 0, .slice (some ⟨W5.heap.size, 0, none⟩) 12 12, .int .i64 tok, .int .i64 0, .slice pw nw cw] rfl rfl hth6.out infoW H9.out.2.2.2.2.2.1 ?_
  rw [show Array.toList (#[.int .i64 c.flows, .int .i64 c.num, .int .i64 c.den, .int .i64 c.tries, .int .i64 c.warm, .int .i64 c.drain, .int .i64 c.idle, .int .i64 c.conn, .int .i64 c.ret, .int .i64 c.most, .int .i64 c.bn, .int .i64 c.bd, .int .i64 c.bb, .int .i64 c.wn, .int .i64 c.wf, .int .i64 c.wh, .int .i64 0, .slice p2 l.length c2, .slice none 0 0, .slice none 0 0, .slice none 0 0, .slice none 0 0, .slice (some ⟨W5.heap.size, 0, none⟩) 12 12, .int .i64 tok, .int .i64 0, .slice pw nw cw] : Array Value) = wdL c (.slice p2 l.length c2) (.slice (some ⟨W5.heap.size, 0, none⟩) 12 12) tok (.slice pw nw cw) from rfl, ← H9.out.2.2.2.2.2.2.1, ← H9.out.2.2.2.2.2.2.2.2, ← H9.out.2.2.2.2.2.2.2.1]
  refine hK.out _ _ G4.out (fun hHeld => ?_)
  clear hK K
  try simp only [Act.put, List.setIfInBounds_toArray, List.set_cons_zero, List.set_cons_succ]
  refine wpAnyH_ready (rs := [7]) (by kernel_rfl) (by simp) ?_
  refine AllReadyH.cons (o := _) rfl (fun K hK => ?_) AllReadyH.nil
  go_simp
  refine hK.out _ _ G4.out (fun hHeld => ?_)
  clear hK K
  try simp only [Act.put, List.setIfInBounds_toArray, List.set_cons_zero, List.set_cons_succ]
  refine wpAnyH_done (by kernel_rfl) ?_ _
  go_wp2
  refine bodyPost_ret (v := .tuple #[wdA c (.slice p2 l.length c2) (.slice (some ⟨W5.heap.size, 0, none⟩) 12 12) tok (.slice pw nw cw), .int .i64 0]) (results_ct Try.results8 rfl rfl (load_row (cs := wdL c (.slice p2 l.length c2) (.slice (some ⟨W5.heap.size, 0, none⟩) 12 12) tok (.slice pw nw cw)) (by have := H9.out.1; rw [H9.out.2.2.2.2.2.2.1] at this; exact this) Try.underlying49 rfl infoW)) rfl ?_
  show BegRes c w _ _
  unfold BegRes
  rw [if_pos HN.out]
  refine ⟨_, _, _, by rw [← HK.out], ?_, H9.out.2.1⟩
  rw [← HL.out]
  exact ⟨H9.out.2.2.1, H9.out.2.2.2.2.1, H9.out.2.2.2.1⟩

theorem begin_any (c : Cf) (w : World) : Calls Try.prog 8 #[cfA c] w (BegRes c w) := by
  by_cases h : CfOk c
  · exact begin_ok c w h
  · exact begin_bad c w h
end Go.Proofs.Ytbabcpdcgncigaa.Walks
