/-
  CoreBegins: the law's walk. No condition.
-/
import Derived.Test.YtlphohahijeimaaSw
import Derived.Test.YtlphohahijeimaaOpensC
import Derived.WalkKit
import Derived.ProofKit
import Derived.Handy
import Derived.LoopTactic
import Derived.Below
import Derived.Laws.BitsAllLaws
import Derived.RegionTactic
import Derived.Deep.RegionHeld3
import Derived.Deep.DrawnRows
import Derived.Deep.AppendLies
import Derived.Laws.OwnMore
import Derived.Deep.Onto
import Derived.Deep.QuietTactic
import Derived.BigQuiet
namespace Go.Proofs.Ytlphohahijeimaa.Walks
open Go.RowKit
set_option linter.unusedVariables false
set_option linter.unusedSimpArgs false
attribute [local go_sem ↓] Go.wp_at_zero Go.wp_at_succ

theorem wpList_load_yes {P : Program} {ops : Array Oper} {rest : List Oper} {op : Oper} {a : Act} {w : World} {Q : Exit → Act → World → Prop} (hw : Region.wanted op (yielded ops a.tmps) = true) (ty : TypeId) (x : Operand) (ho : op.op = .load ty x)
    (b o : Nat) (hx : a.eval x = .pointer (some ⟨b, o, none⟩)) (cs : List Value) (d : TypeDesc) (hc : w.rangeAt b o cs) (hu : P.underlying ty = some d) (hd : d.isRow = true) (hi : (P.info? ty).map (·.size) = some cs.length)
    (h : wpList P ops Q rest (a.put op.dst (.agg cs.toArray)) w) : wpList P ops Q (op :: rest) a w :=
  wpList_step fun _ hK => by
    rw [if_pos hw]
    exact wp_load_mid ty x ho b o hx cs d hc hu hd hi (hK _ _ h)

theorem wd_nil (w : World) : WdAt w (.slice none 0 0) (.slice none 0 0) (.slice none 0 0) [] 0 [] :=
  ⟨show RowAt _ _ 0 [] from rowAt_nil _, show RowAt _ _ 0 [] from rowAt_nil _, [], (show RowAt _ _ 0 [] from rowAt_nil _), rfl, fun i h => absurd h (Nat.not_lt_zero _)⟩

/-- What Begin and the document answer, in one form. -/
theorem beg_form (c : Cf) : ∃ (d : Cf) (tok : Int) (l : List Tb.Sl) (k : Nat) (ls : List (List Wh.Tm)), ∀ w r w', BegRes c w r w' → ∃ vt vh vw, r = .returned (.tuple #[wdA d vt vh tok vw, .int .i64 (cfE c)]) ∧ WdAt w' vt vh vw l k ls ∧ Below w.heap.size w w' := by
  by_cases h : CfOk c
  · refine ⟨c, c.bb * c.bd, List.replicate c.flows.toNat (0, false, 0, 0), 12, Wh.bare, fun w r w' hr => ?_⟩
    unfold BegRes at hr
    rw [if_pos h] at hr
    obtain ⟨vt, vh, vw, h1, h2, h3⟩ := hr
    exact ⟨vt, vh, vw, by rw [h1, show cfE c = 0 from if_pos h], h2, h3⟩
  · refine ⟨cf0, 0, [], 0, [], fun w r w' hr => ?_⟩
    unfold BegRes at hr
    rw [if_neg h] at hr
    exact ⟨_, _, _, by rw [hr.1, show cfE c = 2 from if_neg h], wd_nil _, hr.2⟩

theorem wd_ones {w : World} {vt vh vw : Value} {l : List Tb.Sl} {k : Nat} {ls : List (List Wh.Tm)} (h : WdAt w vt vh vw l k ls) : vt.oneCell' = true ∧ vh.oneCell' = true ∧ vw.oneCell' = true := by
  obtain ⟨p, c, rfl⟩ := sl_form h.1
  obtain ⟨p2, c2, rfl⟩ := ls_form h.2.2
  obtain ⟨p3, c3, rfl, _⟩ := hs_parts h.2.1
  exact ⟨rfl, rfl, rfl⟩

set_option maxHeartbeats 8000000 in
set_option maxRecDepth 100000 in
theorem coreBegins_row (c : Cf) (_ : CfWf c) (w : World) :
    Calls Try.prog 4 #[cfA c] w fun r w' => r = .returned (.bool true) ∧ Below w.heap.size w w' := by
  obtain ⟨d, tok, l, k, ls, hform⟩ := beg_form c
  obtain ⟨W0, hW0⟩ : ∃ W0, W0 = w.alloc (cfO c) := ⟨_, rfl⟩
  have hb0 : Below w.heap.size w W0 := by rw [hW0]; exact below_new w
  have hR0 : W0.heap[w.heap.size]? = some (cfO c) := by rw [hW0]; exact heap_alloc_new _ _
  obtain ⟨k0, k1, k2, k3, k4, k5, k6, k7, k8, k9, k10, k11, k12, k13, k14, k15, klt⟩ := cf_cells hR0
  have HV : Hid (_ ∧ _ ∧ _ ∧ _) := ⟨hb0, hR0, hW0, hform⟩
  clear hb0 hR0 hW0 hform
  obtain ⟨er, her⟩ : ∃ er, er = cfE c := ⟨_, rfl⟩
  have HE : Hid _ := her
  clear her
  go_enter Try.func4, Try.ntmps4
  go_wp2_with fail
  rw [← HV.out.2.2.1]
  refine (begin_any c _).mono ?_
  intro r w1 hr
  obtain ⟨vt, vh, vw, rfl, hA1, hb1⟩ := HV.out.2.2.2 _ _ _ hr
  rw [← HE.out]
  clear hr
  obtain ⟨W2, hW2⟩ : ∃ W2, W2 = (w1.alloc (.cells wzL.toArray 49)).setCells w1.heap.size 0 (wdL d vt vh tok vw) := ⟨_, rfl⟩
  have hZ2 : (w1.alloc (.cells wzL.toArray 49)).heap[w1.heap.size]? = some (.cells wzL.toArray 49 (0, 0)) := heap_alloc_new _ _
  have hbW2 : Below w1.heap.size w1 W2 := by rw [hW2]; exact below_setCells (below_new w1) (Nat.le_refl _) _ _ (by simp)
  have hG2 : W2.heap[w1.heap.size]? = some (wbO d vt vh tok vw) := by rw [hW2]; exact box_stored hZ2 rfl
  have ho := wd_ones hA1
  have hb12 := hb1.trans (hbW2.mono hb1.size)
  have H2 : Hid (_ ∧ _ ∧ _ ∧ _ ∧ _ ∧ _ ∧ _) := ⟨box_there hZ2, wd_one d vt vh tok vw ho.1 ho.2.1 ho.2.2, hW2, hG2, hA1.below hbW2, box_below HV.out.2.1 hb12, HV.out.1.trans (hb12.mono HV.out.1.size)⟩
  clear hW2 hZ2 hbW2 hG2 ho hA1 hb1 hb12 k0 k1 k2 k3 k4 k5 k6 k7 k8 k9 k10 k11 k12 k13 k14 k15 klt
  obtain ⟨j0, j1, j2, j3, j4, j5, j6, j7, j8, j9, j10, j11, j12, j13, j14, j15, jlt⟩ := cf_cells H2.out.2.2.2.2.2.1
  go_wp2_with (first | ((with_reducible refine wpList_store_mid rfl 49 (.tmp 3) (.tmp 10) rfl w1.heap.size 0 #[.int .i64 d.flows, .int .i64 d.num, .int .i64 d.den, .int .i64 d.tries, .int .i64 d.warm, .int .i64 d.drain, .int .i64 d.idle, .int .i64 d.conn, .int .i64 d.ret, .int .i64 d.most, .int .i64 d.bn, .int .i64 d.bd, .int .i64 d.bb, .int .i64 d.wn, .int .i64 d.wf, .int .i64 d.wh, .int .i64 0, vt, .slice none 0 0, .slice none 0 0, .slice none 0 0, .slice none 0 0, vh, .int .i64 tok, .int .i64 0, vw] ?hx ?hy ?ht ?hi ?h1 ?_); (case hx => rfl); (case hy => rfl); (case ht => exact H2.out.1); (case hi => exact infoW); (case h1 => exact H2.out.2.1); rw [show Array.toList (#[.int .i64 d.flows, .int .i64 d.num, .int .i64 d.den, .int .i64 d.tries, .int .i64 d.warm, .int .i64 d.drain, .int .i64 d.idle, .int .i64 d.conn, .int .i64 d.ret, .int .i64 d.most, .int .i64 d.bn, .int .i64 d.bd, .int .i64 d.bb, .int .i64 d.wn, .int .i64 d.wf, .int .i64 d.wh, .int .i64 0, vt, .slice none 0 0, .slice none 0 0, .slice none 0 0, .slice none 0 0, vh, .int .i64 tok, .int .i64 0, vw] : Array Value) = (wdL d vt vh tok vw) from rfl, show (#[.int .i64 0, .int .i64 0, .int .i64 0, .int .i64 0, .int .i64 0, .int .i64 0, .int .i64 0, .int .i64 0, .int .i64 0, .int .i64 0, .int .i64 0, .int .i64 0, .int .i64 0, .int .i64 0, .int .i64 0, .int .i64 0, .int .i64 0, .slice none 0 0, .slice none 0 0, .slice none 0 0, .slice none 0 0, .slice none 0 0, .slice none 0 0, .int .i64 0, .int .i64 0, .slice none 0 0] : Array Value) = wzL.toArray from rfl, ← H2.out.2.2.1]) | fail)
  refine (begun_any c _).mono ?_
  intro r w3 hr
  obtain ⟨vt', vh', vw', rfl, hB3, hb3⟩ := HV.out.2.2.2 _ _ _ hr
  rw [← HE.out]
  clear hr j0 j1 j2 j3 j4 j5 j6 j7 j8 j9 j10 j11 j12 j13 j14 j15 jlt
  obtain ⟨W4, hW4⟩ : ∃ W4, W4 = (w3.alloc (.cells wzL.toArray 49)).setCells w3.heap.size 0 (wdL d vt' vh' tok vw') := ⟨_, rfl⟩
  have hZ4 : (w3.alloc (.cells wzL.toArray 49)).heap[w3.heap.size]? = some (.cells wzL.toArray 49 (0, 0)) := heap_alloc_new _ _
  have hbW4 : Below w3.heap.size w3 W4 := by rw [hW4]; exact below_setCells (below_new w3) (Nat.le_refl _) _ _ (by simp)
  have hG4 : W4.heap[w3.heap.size]? = some (wbO d vt' vh' tok vw') := by rw [hW4]; exact box_stored hZ4 rfl
  have ho := wd_ones hB3
  have hb34 := hb3.trans (hbW4.mono hb3.size)
  have H4 : Hid (_ ∧ _ ∧ _ ∧ _ ∧ _ ∧ _ ∧ _ ∧ _) := ⟨box_there hZ4, wd_one d vt' vh' tok vw' ho.1 ho.2.1 ho.2.2, hW4, range_of (cs := (wdL d vt' vh' tok vw')) hG4, hB3.below hbW4, H2.out.2.2.2.2.1.below hb34, range_of (cs := (wdL d vt vh tok vw)) (box_below H2.out.2.2.2.1 hb34), H2.out.2.2.2.2.2.2.trans (hb34.mono H2.out.2.2.2.2.2.2.size)⟩
  clear hW4 hZ4 hbW4 hG4 ho hB3 hb3 hb34
  go_wp2_with (first | ((with_reducible refine wpList_store_mid rfl 49 (.tmp 5) (.tmp 15) rfl w3.heap.size 0 #[.int .i64 d.flows, .int .i64 d.num, .int .i64 d.den, .int .i64 d.tries, .int .i64 d.warm, .int .i64 d.drain, .int .i64 d.idle, .int .i64 d.conn, .int .i64 d.ret, .int .i64 d.most, .int .i64 d.bn, .int .i64 d.bd, .int .i64 d.bb, .int .i64 d.wn, .int .i64 d.wf, .int .i64 d.wh, .int .i64 0, vt', .slice none 0 0, .slice none 0 0, .slice none 0 0, .slice none 0 0, vh', .int .i64 tok, .int .i64 0, vw'] ?hx ?hy ?ht ?hi ?h1 ?_); (case hx => rfl); (case hy => rfl); (case ht => exact H4.out.1); (case hi => exact infoW); (case h1 => exact H4.out.2.1); rw [show Array.toList (#[.int .i64 d.flows, .int .i64 d.num, .int .i64 d.den, .int .i64 d.tries, .int .i64 d.warm, .int .i64 d.drain, .int .i64 d.idle, .int .i64 d.conn, .int .i64 d.ret, .int .i64 d.most, .int .i64 d.bn, .int .i64 d.bd, .int .i64 d.bb, .int .i64 d.wn, .int .i64 d.wf, .int .i64 d.wh, .int .i64 0, vt', .slice none 0 0, .slice none 0 0, .slice none 0 0, .slice none 0 0, vh', .int .i64 tok, .int .i64 0, vw'] : Array Value) = (wdL d vt' vh' tok vw') from rfl, show (#[.int .i64 0, .int .i64 0, .int .i64 0, .int .i64 0, .int .i64 0, .int .i64 0, .int .i64 0, .int .i64 0, .int .i64 0, .int .i64 0, .int .i64 0, .int .i64 0, .int .i64 0, .int .i64 0, .int .i64 0, .int .i64 0, .int .i64 0, .slice none 0 0, .slice none 0 0, .slice none 0 0, .slice none 0 0, .slice none 0 0, .slice none 0 0, .int .i64 0, .int .i64 0, .slice none 0 0] : Array Value) = wzL.toArray from rfl, ← H4.out.2.2.1]) | ((with_reducible refine wpList_load_yes ?hw 49 (.tmp 3) rfl w1.heap.size 0 ?hx (wdL d vt vh tok vw) _ ?hc Try.underlying49 ?hd ?hi ?_); (case hw => first | rfl | (simp [Region.wanted, yielded])); (case hx => rfl); (case hc => exact H4.out.2.2.2.2.2.2.1); (case hd => rfl); (case hi => exact infoW)) | ((with_reducible refine wpList_load_yes ?hw 49 (.tmp 5) rfl w3.heap.size 0 ?hx (wdL d vt' vh' tok vw') _ ?hc Try.underlying49 ?hd ?hi ?_); (case hw => first | rfl | (simp [Region.wanted, yielded])); (case hx => rfl); (case hc => exact H4.out.2.2.2.1); (case hd => rfl); (case hi => exact infoW)) | fail)
  refine (sameWorld_any d tok vt vh vw vt' vh' vw' l k ls _ H4.out.2.2.2.2.2.1 H4.out.2.2.2.2.1).mono ?_
  rintro r w5 ⟨rfl, hb5⟩
  have H5 : Hid _ := H4.out.2.2.2.2.2.2.2.trans (hb5.mono H4.out.2.2.2.2.2.2.2.size)
  clear hb5
  go_wp2
  go_ret
  exact ⟨rfl, H5.out⟩
end Go.Proofs.Ytlphohahijeimaa.Walks
