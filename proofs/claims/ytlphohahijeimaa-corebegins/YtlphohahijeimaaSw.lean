/-
  sameWorld, of two worlds that read alike; CoreBegins. Condition: what is read can be read.
-/
import Derived.Test.YtlphohahijeimaaWb
import Derived.WalkKit
import Derived.ProofKit
import Derived.Handy
import Derived.LoopTactic
import Derived.Below
import Derived.Laws.BitsAllLaws
import Derived.RegionTactic
import Derived.Deep.RegionHeld3
import Derived.Deep.DrawnRows
import Derived.Deep.AppendLies
import Derived.Laws.OwnMore
import Derived.Deep.Onto
import Derived.Deep.QuietTactic
import Derived.BigQuiet
namespace Go.Proofs.Ytlphohahijeimaa.Walks
open Go.RowKit
set_option linter.unusedVariables false
set_option linter.unusedSimpArgs false
attribute [local go_sem ↓] Go.wp_at_zero Go.wp_at_succ

theorem wb_all {w : World} {g : Nat} {c : Cf} {vt vh : Value} {tok : Int} {vw : Value} (h : w.heap[g]? = some (wbO c vt vh tok vw)) : w.cell? ⟨g, 0, none⟩ = some (.int .i64 c.flows) ∧ w.cell? ⟨g, 1, none⟩ = some (.int .i64 c.num) ∧ w.cell? ⟨g, 2, none⟩ = some (.int .i64 c.den) ∧ w.cell? ⟨g, 3, none⟩ = some (.int .i64 c.tries) ∧ w.cell? ⟨g, 4, none⟩ = some (.int .i64 c.warm) ∧ w.cell? ⟨g, 5, none⟩ = some (.int .i64 c.drain) ∧ w.cell? ⟨g, 6, none⟩ = some (.int .i64 c.idle) ∧ w.cell? ⟨g, 7, none⟩ = some (.int .i64 c.conn) ∧ w.cell? ⟨g, 8, none⟩ = some (.int .i64 c.ret) ∧ w.cell? ⟨g, 9, none⟩ = some (.int .i64 c.most) ∧ w.cell? ⟨g, 10, none⟩ = some (.int .i64 c.bn) ∧ w.cell? ⟨g, 11, none⟩ = some (.int .i64 c.bd) ∧ w.cell? ⟨g, 12, none⟩ = some (.int .i64 c.bb) ∧ w.cell? ⟨g, 13, none⟩ = some (.int .i64 c.wn) ∧ w.cell? ⟨g, 14, none⟩ = some (.int .i64 c.wf) ∧ w.cell? ⟨g, 15, none⟩ = some (.int .i64 c.wh) ∧ w.cell? ⟨g, 16, none⟩ = some (.int .i64 0) ∧ w.cell? ⟨g, 17, none⟩ = some (vt) ∧ w.cell? ⟨g, 18, none⟩ = some (.slice none 0 0) ∧ w.cell? ⟨g, 19, none⟩ = some (.slice none 0 0) ∧ w.cell? ⟨g, 20, none⟩ = some (.slice none 0 0) ∧ w.cell? ⟨g, 21, none⟩ = some (.slice none 0 0) ∧ w.cell? ⟨g, 22, none⟩ = some (vh) ∧ w.cell? ⟨g, 23, none⟩ = some (.int .i64 tok) ∧ w.cell? ⟨g, 24, none⟩ = some (.int .i64 0) ∧ w.cell? ⟨g, 25, none⟩ = some (vw) ∧ g < w.heap.size :=
  ⟨by rw [cell_of_row w g 0 _ _ (0, 0) h]; rfl, by rw [cell_of_row w g 1 _ _ (0, 0) h]; rfl, by rw [cell_of_row w g 2 _ _ (0, 0) h]; rfl, by rw [cell_of_row w g 3 _ _ (0, 0) h]; rfl, by rw [cell_of_row w g 4 _ _ (0, 0) h]; rfl, by rw [cell_of_row w g 5 _ _ (0, 0) h]; rfl, by rw [cell_of_row w g 6 _ _ (0, 0) h]; rfl, by rw [cell_of_row w g 7 _ _ (0, 0) h]; rfl, by rw [cell_of_row w g 8 _ _ (0, 0) h]; rfl, by rw [cell_of_row w g 9 _ _ (0, 0) h]; rfl, by rw [cell_of_row w g 10 _ _ (0, 0) h]; rfl, by rw [cell_of_row w g 11 _ _ (0, 0) h]; rfl, by rw [cell_of_row w g 12 _ _ (0, 0) h]; rfl, by rw [cell_of_row w g 13 _ _ (0, 0) h]; rfl, by rw [cell_of_row w g 14 _ _ (0, 0) h]; rfl, by rw [cell_of_row w g 15 _ _ (0, 0) h]; rfl, by rw [cell_of_row w g 16 _ _ (0, 0) h]; rfl, by rw [cell_of_row w g 17 _ _ (0, 0) h]; rfl, by rw [cell_of_row w g 18 _ _ (0, 0) h]; rfl, by rw [cell_of_row w g 19 _ _ (0, 0) h]; rfl, by rw [cell_of_row w g 20 _ _ (0, 0) h]; rfl, by rw [cell_of_row w g 21 _ _ (0, 0) h]; rfl, by rw [cell_of_row w g 22 _ _ (0, 0) h]; rfl, by rw [cell_of_row w g 23 _ _ (0, 0) h]; rfl, by rw [cell_of_row w g 24 _ _ (0, 0) h]; rfl, by rw [cell_of_row w g 25 _ _ (0, 0) h]; rfl, (Array.getElem?_eq_some_iff.1 h).1⟩

set_option maxHeartbeats 4000000 in
set_option maxRecDepth 100000 in
theorem neqCf (c : Cf) (W : World) : (binOp .neq 27 (cfA c) (cfA c)).run Try.prog W = .ok (.bool false) W := by
  go_simp

theorem neqBk (x : Int) (W : World) : (binOp .neq 44 (.agg #[.int .i64 x]) (.agg #[.int .i64 x])).run Try.prog W = .ok (.bool false) W := by
  go_simp

theorem hs_parts {w : World} {v : Value} {k : Nat} (h : HsAt w v k) : ∃ a cap, v = .slice a k cap ∧ k ≤ cap ∧ cap ≤ maxLen ∧ ∀ i, i < k → ∃ b off, a = some ⟨b, off, none⟩ ∧ b < w.heap.size ∧ w.cell? ⟨b, off + i * 4, none⟩ = some (.slice none 0 0) ∧ w.cell? ⟨b, off + i * 4 + 1, none⟩ = some (.bool false) ∧ w.cell? ⟨b, off + i * 4 + 2, none⟩ = some (.int .i64 0) ∧ w.cell? ⟨b, off + i * 4 + 3, none⟩ = some (.int .i64 0) := by
  obtain ⟨a, cap, h1, h2, h3, h4⟩ := RvAt.parts he4 h
  rw [List.length_replicate] at h1 h2
  refine ⟨a, cap, h1, h2, h3, fun i hi => ?_⟩
  obtain ⟨b, off, e, hb, hc⟩ := h4 i (by rw [List.length_replicate]; exact hi)
  exact ⟨b, off, e, hb, (hc 0 (by omega)).trans rfl, (hc 1 (by omega)).trans rfl, (hc 2 (by omega)).trans rfl, (hc 3 (by omega)).trans rfl⟩

theorem sl_form {w : World} {v : Value} {l : List Tb.Sl} (h : Tb.SlAt w v l) : ∃ p c, v = .slice p l.length c := by
  obtain ⟨a, cap, hv, _⟩ := (show RowAt w v l.length (Tb.scells l) from h)
  exact ⟨a, cap, hv⟩

theorem ls_form {w : World} {v : Value} {ls : List (List Wh.Tm)} (h : Wh.LsAt w v ls) : ∃ p c, v = .slice p ls.length c := by
  obtain ⟨vs, h, _⟩ := h
  obtain ⟨a, cap, hv, _⟩ := (show RowAt w v ls.length vs from h)
  exact ⟨a, cap, hv⟩

theorem held10 {w w' : World} {gA gB b1 b2 : Nat} {x1 x2 : Nat} {v1 v2 u1 u2 u3 u4 t1 t2 t3 t4 : Value} (h1 : w.cell? ⟨gA, 22, none⟩ = some v1) (h2 : w.cell? ⟨gB, 22, none⟩ = some v2)
    (c1 : w.cell? ⟨b1, x1, none⟩ = some u1) (c2 : w.cell? ⟨b1, x1 + 1, none⟩ = some u2) (c3 : w.cell? ⟨b1, x1 + 2, none⟩ = some u3) (c4 : w.cell? ⟨b1, x1 + 3, none⟩ = some u4)
    (d1 : w.cell? ⟨b2, x2, none⟩ = some t1) (d2 : w.cell? ⟨b2, x2 + 1, none⟩ = some t2) (d3 : w.cell? ⟨b2, x2 + 2, none⟩ = some t3) (d4 : w.cell? ⟨b2, x2 + 3, none⟩ = some t4) (hb : Below w.heap.size w w') :
    w'.cell? ⟨gA, 22, none⟩ = some v1 ∧ w'.cell? ⟨gB, 22, none⟩ = some v2 ∧ w'.cell? ⟨b1, x1, none⟩ = some u1 ∧ w'.cell? ⟨b1, x1 + 1, none⟩ = some u2 ∧ w'.cell? ⟨b1, x1 + 2, none⟩ = some u3 ∧ w'.cell? ⟨b1, x1 + 3, none⟩ = some u4 ∧ w'.cell? ⟨b2, x2, none⟩ = some t1 ∧ w'.cell? ⟨b2, x2 + 1, none⟩ = some t2 ∧ w'.cell? ⟨b2, x2 + 2, none⟩ = some t3 ∧ w'.cell? ⟨b2, x2 + 3, none⟩ = some t4 :=
  ⟨(hb.cell (World.block_lt_of_cell? w _ h1)).trans h1, (hb.cell (World.block_lt_of_cell? w _ h2)).trans h2, (hb.cell (World.block_lt_of_cell? w _ c1)).trans c1, (hb.cell (World.block_lt_of_cell? w _ c2)).trans c2, (hb.cell (World.block_lt_of_cell? w _ c3)).trans c3, (hb.cell (World.block_lt_of_cell? w _ c4)).trans c4, (hb.cell (World.block_lt_of_cell? w _ d1)).trans d1, (hb.cell (World.block_lt_of_cell? w _ d2)).trans d2, (hb.cell (World.block_lt_of_cell? w _ d3)).trans d3, (hb.cell (World.block_lt_of_cell? w _ d4)).trans d4⟩

set_option maxHeartbeats 8000000 in
set_option maxRecDepth 100000 in
theorem sameWorld_any (c : Cf) (tok : Int) (vt vh vw vt' vh' vw' : Value) (l : List Tb.Sl) (k : Nat) (ls : List (List Wh.Tm)) (w : World) (hA : WdAt w vt vh vw l k ls) (hB : WdAt w vt' vh' vw' l k ls) :
    Calls Try.prog 10 #[wdA c vt vh tok vw, wdA c vt' vh' tok vw'] w fun r w' => r = .returned (.bool true) ∧ Below w.heap.size w w' := by
  obtain ⟨pt, ct, rfl⟩ := sl_form hA.1
  obtain ⟨pt', ct', rfl⟩ := sl_form hB.1
  obtain ⟨pw, cw, rfl⟩ := ls_form hA.2.2
  obtain ⟨pw', cw', rfl⟩ := ls_form hB.2.2
  obtain ⟨ph, ch, rfl, hch, hmh, pvh⟩ := hs_parts hA.2.1
  obtain ⟨ph', ch', rfl, hch', hmh', pvh'⟩ := hs_parts hB.2.1
  unfold maxLen at hmh hmh'
  obtain ⟨W0, hW0⟩ : ∃ W0, W0 = (w.alloc (wbO c (.slice pt l.length ct) (.slice ph k ch) tok (.slice pw ls.length cw))).alloc (wbO c (.slice pt' l.length ct') (.slice ph' k ch') tok (.slice pw' ls.length cw')) := ⟨_, rfl⟩
  have hb0 : Below w.heap.size w W0 := by rw [hW0]; exact (below_new w).trans ((below_new _).mono (by simp))
  have hRA : W0.heap[w.heap.size]? = some (wbO c (.slice pt l.length ct) (.slice ph k ch) tok (.slice pw ls.length cw)) := by rw [hW0]; exact heap_old _ _ (heap_alloc_new _ _)
  have hRB : W0.heap[w.heap.size + 1]? = some (wbO c (.slice pt' l.length ct') (.slice ph' k ch') tok (.slice pw' ls.length cw')) := by rw [hW0]; exact heap_second _ _ _
  obtain ⟨a0, a1, a2, a3, a4, a5, a6, a7, a8, a9, a10, a11, a12, a13, a14, a15, a16, a17, a18, a19, a20, a21, a22, a23, a24, a25, alt⟩ := wb_all hRA
  obtain ⟨b0, b1, b2, b3, b4, b5, b6, b7, b8, b9, b10, b11, b12, b13, b14, b15, b16, b17, b18, b19, b20, b21, b22, b23, b24, b25, blt⟩ := wb_all hRB
  have hq := neqCf c
  have hq2 := neqBk tok
  have HV : Hid (_ ∧ _ ∧ _ ∧ _ ∧ _ ∧ _ ∧ _ ∧ _) := ⟨hA.below hb0, hB.below hb0, hb0, hRA, hRB, hW0, pvh, pvh'⟩
  clear hA hB hb0 hRA hRB hW0 pvh pvh'
  go_enter Try.func10, Try.ntmps10
  go_wp2
  rw [← HV.out.2.2.2.2.2.1]
  clear hq hq2
  clear a0 b0 a1 b1 a2 b2 a3 b3 a4 b4 a5 b5 a6 b6 a7 b7 a8 b8 a9 b9 a10 b10 a11 b11 a12 b12 a13 b13 a14 b14 a15 b15 a16 b16 a23 b23
  go_loopw [5] (fun t wr => t = .int .i64 0 ∧ W0 = wr) (fun _ _ => 0)
  case atStart => exact ⟨rfl, rfl⟩
  case round =>
    obtain ⟨rfl, rfl⟩ := hrel
    go_wp2
    go_loopw [6] (fun t wr => ∃ i : Nat, t = .int .i64 i ∧ i ≤ k ∧ Below W0.heap.size W0 wr) (fun t _ => k - (intOf t).toNat)
    case atStart => exact ⟨0, rfl, Nat.zero_le _, Below.refl _ _⟩
    case round =>
      obtain ⟨i, rfl, hi, hb⟩ := hrel
      have hRA := box_below HV.out.2.2.2.1 hb
      have hRB := box_below HV.out.2.2.2.2.1 hb
      have a22' := (hb.cell (p := ⟨w.heap.size, 22, none⟩) alt).trans a22
      have b22' := (hb.cell (p := ⟨w.heap.size + 1, 22, none⟩) blt).trans b22
      have alt' : w.heap.size < wr.heap.size := Nat.lt_of_lt_of_le alt hb.size
      have blt' : w.heap.size + 1 < wr.heap.size := Nat.lt_of_lt_of_le blt hb.size
      have hbw := HV.out.2.2.1.trans (hb.mono HV.out.2.2.1.size)
      by_cases hlt : i < k
      · have hiI : (i : Int) < (k : Int) := by omega
        obtain ⟨x1, y1, hp1, hl1, c1, c2, c3, c4⟩ := HV.out.2.2.2.2.2.2.1 i hlt
        obtain ⟨x2, y2, hp2, hl2, d1, d2, d3, d4⟩ := HV.out.2.2.2.2.2.2.2 i hlt
        subst hp1 hp2
        have e1 := (hbw.cell (p := ⟨x1, y1 + i * 4, none⟩) hl1).trans c1
        have e2 := (hbw.cell (p := ⟨x1, y1 + i * 4 + 1, none⟩) hl1).trans c2
        have e3 := (hbw.cell (p := ⟨x1, y1 + i * 4 + 2, none⟩) hl1).trans c3
        have e4 := (hbw.cell (p := ⟨x1, y1 + i * 4 + 3, none⟩) hl1).trans c4
        have f1 := (hbw.cell (p := ⟨x2, y2 + i * 4, none⟩) hl2).trans d1
        have f2 := (hbw.cell (p := ⟨x2, y2 + i * 4 + 1, none⟩) hl2).trans d2
        have f3 := (hbw.cell (p := ⟨x2, y2 + i * 4 + 2, none⟩) hl2).trans d3
        have f4 := (hbw.cell (p := ⟨x2, y2 + i * 4 + 3, none⟩) hl2).trans d4
        have HH : Hid (∀ W, Below wr.heap.size wr W → Calls Try.prog 23 #[.agg #[.slice none 0 0, .bool false, .int .i64 0, .int .i64 0], .agg #[.slice none 0 0, .bool false, .int .i64 0, .int .i64 0]] W fun r w' => r = .returned (.bool true) ∧ (w'.cell? ⟨w.heap.size, 22, none⟩ = some (.slice (some ⟨x1, y1, none⟩) k ch) ∧ w'.cell? ⟨w.heap.size + 1, 22, none⟩ = some (.slice (some ⟨x2, y2, none⟩) k ch') ∧ w'.cell? ⟨x1, y1 + i * 4, none⟩ = some (.slice none 0 0) ∧ w'.cell? ⟨x1, y1 + i * 4 + 1, none⟩ = some (.bool false) ∧ w'.cell? ⟨x1, y1 + i * 4 + 2, none⟩ = some (.int .i64 0) ∧ w'.cell? ⟨x1, y1 + i * 4 + 3, none⟩ = some (.int .i64 0) ∧ w'.cell? ⟨x2, y2 + i * 4, none⟩ = some (.slice none 0 0) ∧ w'.cell? ⟨x2, y2 + i * 4 + 1, none⟩ = some (.bool false) ∧ w'.cell? ⟨x2, y2 + i * 4 + 2, none⟩ = some (.int .i64 0) ∧ w'.cell? ⟨x2, y2 + i * 4 + 3, none⟩ = some (.int .i64 0)) ∧ Hid (Below wr.heap.size wr w')) := fun W hW => by
          refine (Hl.sameHealth_any (.slice none 0 0) (.slice none 0 0) [] false 0 0 W (show RowAt _ _ 0 [] from rowAt_nil _) (show RowAt _ _ 0 [] from rowAt_nil _)).mono ?_
          rintro r w' ⟨rfl, h2⟩
          have hb2 := hW.trans (h2.mono hW.size)
          exact ⟨rfl, held10 a22' b22' e1 e2 e3 e4 f1 f2 f3 f4 hb2, hb2⟩
        have hS0 := held10 a22' b22' e1 e2 e3 e4 f1 f2 f3 f4 ((Below.refl wr.heap.size wr).drew)
        have HB : Hid _ := hb
        clear hb hbw c1 c2 c3 c4 d1 d2 d3 d4 hRA hRB hl1 hl2
        go_wp2
        go_region_held3 (fun W => W.cell? ⟨w.heap.size, 22, none⟩ = some (.slice (some ⟨x1, y1, none⟩) k ch) ∧ W.cell? ⟨w.heap.size + 1, 22, none⟩ = some (.slice (some ⟨x2, y2, none⟩) k ch') ∧ W.cell? ⟨x1, y1 + i * 4, none⟩ = some (.slice none 0 0) ∧ W.cell? ⟨x1, y1 + i * 4 + 1, none⟩ = some (.bool false) ∧ W.cell? ⟨x1, y1 + i * 4 + 2, none⟩ = some (.int .i64 0) ∧ W.cell? ⟨x1, y1 + i * 4 + 3, none⟩ = some (.int .i64 0) ∧ W.cell? ⟨x2, y2 + i * 4, none⟩ = some (.slice none 0 0) ∧ W.cell? ⟨x2, y2 + i * 4 + 1, none⟩ = some (.bool false) ∧ W.cell? ⟨x2, y2 + i * 4 + 2, none⟩ = some (.int .i64 0) ∧ W.cell? ⟨x2, y2 + i * 4 + 3, none⟩ = some (.int .i64 0)) (first | exact hS0 | exact hS1) (first | (go_at_call 23; refine (HH.out _ ?hbW).mono ?_; (case hbW => first | exact (Below.refl _ _).drew | exact Below.refl _ _); rintro r w4 ⟨rfl, hS1, h4⟩))
        all_goals
          clear hS1 hS0 e1 e2 e3 e4 f1 f2 f3 f4 a22' b22'
          go_wp2
          go_roundw
          case rel => exact ⟨i + 1, by simp, hlt, HB.out.trans (h4.out.mono HB.out.size)⟩
          case measure => simp [intOf]; omega
      · have hid : ¬ ((i : Int) < (k : Int)) := by omega
        have HW : Hid (_ ∧ _ ∧ _ ∧ _ ∧ _) := ⟨HV.out.1.below hb, HV.out.2.1.below hb, hRA, hRB, hbw⟩
        obtain ⟨p0, p1, p2, p3, p4, p5, p6, p7, p8, p9, p10, p11, p12, p13, p14, p15, p16, p17, p18, p19, p20, p21, p22, p23, p24, p25, plt⟩ := wb_all hRA
        obtain ⟨q0, q1, q2, q3, q4, q5, q6, q7, q8, q9, q10, q11, q12, q13, q14, q15, q16, q17, q18, q19, q20, q21, q22, q23, q24, q25, qlt⟩ := wb_all hRB
        clear hb hbw hRA hRB
        clear p0 q0 p1 q1 p2 q2 p3 q3 p4 q4 p5 q5 p6 q6 p7 q7 p8 q8 p9 q9 p10 q10 p11 q11 p12 q12 p13 q13 p14 q14 p15 q15 p16 q16 p18 q18 p19 q19 p20 q20 p21 q21 p23 q23 p24 q24 p25 q25
        go_wp2_with fail
        refine (Tb.sameTable_any _ _ l l _ HW.out.1.1 HW.out.2.1.1).mono ?_
        rw [decide_eq_true rfl]
        rintro r w5 ⟨rfl, hb5⟩
        have hR1 := box_below HW.out.2.2.1 hb5
        have hR2 := box_below HW.out.2.2.2.1 hb5
        obtain ⟨r0, r1, r2, r3, r4, r5, r6, r7, r8, r9, r10, r11, r12, r13, r14, r15, r16, r17, r18, r19, r20, r21, r22, r23, r24, r25, rlt⟩ := wb_all hR1
        obtain ⟨s0, s1, s2, s3, s4, s5, s6, s7, s8, s9, s10, s11, s12, s13, s14, s15, s16, s17, s18, s19, s20, s21, s22, s23, s24, s25, slt⟩ := wb_all hR2
        have H5 : Hid (_ ∧ _ ∧ _ ∧ _ ∧ _) := ⟨HW.out.1.below hb5, HW.out.2.1.below hb5, hR1, hR2, HW.out.2.2.2.2.trans (hb5.mono HW.out.2.2.2.2.size)⟩
        clear hR1 hR2 hb5 p17 q17 p22 q22 r0 s0 r1 s1 r2 s2 r3 s3 r4 s4 r5 s5 r6 s6 r7 s7 r8 s8 r9 s9 r10 s10 r11 s11 r12 s12 r13 s13 r14 s14 r15 s15 r16 s16 r17 s17 r18 s18 r21 s21 r22 s22 r23 s23 r24 s24 r25 s25
        go_wp2_with fail
        refine (Li.sameBookL (.slice none 0 0) (.slice none 0 0) (.slice none 0 0) (.slice none 0 0) [] [] _ ⟨show RowAt _ _ 0 [] from rowAt_nil _, show RowAt _ _ 0 [] from rowAt_nil _⟩ ⟨show RowAt _ _ 0 [] from rowAt_nil _, show RowAt _ _ 0 [] from rowAt_nil _⟩).mono ?_
        rintro r w6 ⟨rfl, hb6⟩
        have hR1 := box_below H5.out.2.2.1 hb6
        have hR2 := box_below H5.out.2.2.2.1 hb6
        obtain ⟨t0, t1, t2, t3, t4, t5, t6, t7, t8, t9, t10, t11, t12, t13, t14, t15, t16, t17, t18, t19, t20, t21, t22, t23, t24, t25, tlt⟩ := wb_all hR1
        obtain ⟨u0, u1, u2, u3, u4, u5, u6, u7, u8, u9, u10, u11, u12, u13, u14, u15, u16, u17, u18, u19, u20, u21, u22, u23, u24, u25, ult⟩ := wb_all hR2
        have H6 : Hid (_ ∧ _ ∧ _ ∧ _ ∧ _) := ⟨H5.out.1.below hb6, H5.out.2.1.below hb6, hR1, hR2, H5.out.2.2.2.2.trans (hb6.mono H5.out.2.2.2.2.size)⟩
        clear hR1 hR2 hb6 r19 r20 s19 s20 rlt slt t0 u0 t1 u1 t2 u2 t3 u3 t4 u4 t5 u5 t6 u6 t7 u7 t8 u8 t9 u9 t10 u10 t11 u11 t12 u12 t13 u13 t14 u14 t15 u15 t16 u16 t17 u17 t18 u18 t19 u19 t20 u20 t22 u22 t23 u23 t24 u24 t25 u25
        go_wp2_with fail
        refine (Rg.sameRing_any (.slice none 0 0) (.slice none 0 0) [] [] _ (show RowAt _ _ 0 [] from rowAt_nil _) (show RowAt _ _ 0 [] from rowAt_nil _)).mono ?_
        rw [decide_eq_true rfl]
        rintro r w7 ⟨rfl, hb7⟩
        have hR1 := box_below H6.out.2.2.1 hb7
        have hR2 := box_below H6.out.2.2.2.1 hb7
        obtain ⟨v0, v1, v2, v3, v4, v5, v6, v7, v8, v9, v10, v11, v12, v13, v14, v15, v16, v17, v18, v19, v20, v21, v22, v23, v24, v25, vlt⟩ := wb_all hR1
        obtain ⟨x0, x1, x2, x3, x4, x5, x6, x7, x8, x9, x10, x11, x12, x13, x14, x15, x16, x17, x18, x19, x20, x21, x22, x23, x24, x25, xlt⟩ := wb_all hR2
        have H7 : Hid (_ ∧ _ ∧ _) := ⟨H6.out.1.below hb7, H6.out.2.1.below hb7, H6.out.2.2.2.2.trans (hb7.mono H6.out.2.2.2.2.size)⟩
        clear hR1 hR2 hb7 t21 u21 tlt ult v0 x0 v1 x1 v2 x2 v3 x3 v4 x4 v5 x5 v6 x6 v7 x7 v8 x8 v9 x9 v10 x10 v11 x11 v12 x12 v13 x13 v14 x14 v15 x15 v16 x16 v17 x17 v18 x18 v19 x19 v20 x20 v21 x21 v22 x22 v23 x23
        go_wp2_with fail
        refine (Wh.sameWheel _ _ 0 0 ls ls _ ⟨_, rfl, H7.out.1.2.2⟩ ⟨_, rfl, H7.out.2.1.2.2⟩).mono ?_
        rw [decide_eq_true ⟨rfl, rfl⟩]
        rintro r w8 ⟨rfl, hb8⟩
        have H8 : Hid _ := H7.out.2.2.trans (hb8.mono H7.out.2.2.size)
        clear hb8 v24 v25 x24 x25
        go_wp2
        go_ret
        exact ⟨rfl, H8.out⟩
end Go.Proofs.Ytlphohahijeimaa.Walks
