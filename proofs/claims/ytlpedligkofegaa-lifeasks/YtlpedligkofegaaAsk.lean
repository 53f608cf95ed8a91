/-
  Ask. Condition: what is read can be read.
-/
import Derived.Test.YtlpedligkofegaaFin
import Derived.WalkKit
import Derived.ProofKit
import Derived.Handy
import Derived.LoopTactic
import Derived.Below
import Derived.Laws.BitsAllLaws
import Derived.RegionTactic
import Derived.Deep.RegionHeld3
import Derived.Deep.DrawnRows
import Derived.Deep.AppendLies
import Derived.Laws.OwnMore
import Derived.Deep.Onto
import Derived.Deep.QuietTactic
import Derived.BigQuiet
namespace Go.Proofs.Ytlpedligkofegaa.Walks
open Go.RowKit
set_option linter.unusedVariables false
set_option linter.unusedSimpArgs false
attribute [local go_sem ↓] Go.wp_at_zero Go.wp_at_succ

/-- What Ask answers, as it lies in memory. -/
def AskPost (w : World) (O : AskRes) (r : Ending) (w' : World) : Prop :=
  ∃ p c q m, r = .returned (.tuple #[bkV (.slice p O.1.1.length c) (.slice q O.1.2.length m), .int .i64 O.2.1, .bool O.2.2.1, .int .i64 O.2.2.2]) ∧ BkNew w.heap.size w' (.slice p O.1.1.length c) (.slice q O.1.2.length m) O.1.1 O.1.2 ∧ Below w.heap.size w w'

theorem three_boxes (w : World) (o r s : Obj) : (((w.alloc o).alloc r).alloc s).heap[w.heap.size]? = some o ∧ (((w.alloc o).alloc r).alloc s).heap[w.heap.size + 1]? = some r ∧ (((w.alloc o).alloc r).alloc s).heap[w.heap.size + 1 + 1]? = some s ∧ Below w.heap.size w (((w.alloc o).alloc r).alloc s) ∧ (((w.alloc o).alloc r).alloc s).heap.size = w.heap.size + 3 :=
  ⟨heap_old _ _ (heap_old _ _ (heap_alloc_new _ _)), heap_old _ _ (heap_second _ _ _), heap_third _ _ _ _, (((Below.refl _ _).alloc (Nat.le_refl _) _).alloc (by simp) _).alloc (by simp; omega) _, by simp⟩

theorem BkNew.drew {B : Nat} {w : World} {va vb : Value} {L : List Lf} {R : List Rq} (h : BkNew B w va vb L R) : BkNew B w.drew va vb L R := ⟨⟨RcAt.keep h.1.1 (Nat.le_refl _) (fun _ _ => rfl), RcAt.keep h.1.2 (Nat.le_refl _) (fun _ _ => rfl)⟩, h.2⟩

theorem askPost_no {w w' : World} {e : Int} {O : AskRes} (h : O = (([], []), 0, false, e)) (hn : BkNew w.heap.size w' (.slice none 0 0) (.slice none 0 0) [] []) (hb : Below w.heap.size w w') :
    AskPost w O (.returned (.tuple #[bkV (.slice none 0 0) (.slice none 0 0), .int .i64 0, .bool false, .int .i64 e])) w' := by
  subst h
  exact ⟨none, 0, none, 0, rfl, hn, hb⟩

theorem askPost_of {w w' : World} {p : Option Addr} {n c : Nat} {q : Option Addr} {k m : Nat} {L : List Lf} {R : List Rq} {a e : Int} {b : Bool} {O : AskRes} (h : O = ((L, R), a, b, e)) (hl : n = L.length) (hr : k = R.length) (hn : BkNew w.heap.size w' (.slice p n c) (.slice q k m) L R) (hb : Below w.heap.size w w') :
    AskPost w O (.returned (.tuple #[bkV (.slice p n c) (.slice q k m), .int .i64 a, .bool b, .int .i64 e])) w' := by
  subst h hl hr
  exact ⟨p, c, q, m, rfl, hn, hb⟩

set_option maxHeartbeats 8000000 in
set_option maxRecDepth 100000 in
theorem ask_any (va vb : Value) (L : List Lf) (R : List Rq) (r1 r2 r3 r4 r5 now drain : Int) (w : World) (hv : BkAt w va vb L R) :
    Calls Try.prog 12 #[bkV va vb, rqV r1 r2 r3 r4 r5, .int .i64 now, .int .i64 drain] w (AskPost w (askO L R (r1, r2, r3, r4, r5) now drain)) := by
  obtain ⟨O, hout⟩ : ∃ O, O = askO L R (r1, r2, r3, r4, r5) now drain := ⟨_, rfl⟩
  rw [← hout]
  obtain ⟨pa, ca, rfl, hca, hma⟩ := RcAt.form hv.1
  obtain ⟨pb, cb, rfl, hcb, hmb⟩ := RcAt.form hv.2
  obtain ⟨W0, hW0⟩ : ∃ W0, W0 = ((w.alloc (bkO (.slice pa L.length ca) (.slice pb R.length cb))).alloc (rqO r1 r2 r3 r4 r5)).alloc (bkO (.slice none 0 0) (.slice none 0 0)) := ⟨_, rfl⟩
  have hx := three_boxes w (bkO (.slice pa L.length ca) (.slice pb R.length cb)) (rqO r1 r2 r3 r4 r5) (bkO (.slice none 0 0) (.slice none 0 0))
  rw [← hW0] at hx
  obtain ⟨hR0, hR1, hR2, hB0, hs0⟩ := hx
  obtain ⟨c0, c1, _, _, hlt0⟩ := two_cells hR0
  have H : Hid (_ ∧ _ ∧ _ ∧ _ ∧ _ ∧ _) := ⟨hW0, hR1, hR2, hB0, hs0, hv.below hB0⟩
  clear hv hR0 hR1 hB0 hs0 hR2
  by_cases hok : BkOk L R
  case neg =>
    have HO : Hid _ := openedOf_no _ _ L R W0 H.out.2.2.2.2.2 hok
    have HQ : Hid (O = (([], []), 0, false, 6)) := by
      rw [hout]
      exact if_neg hok
    clear hW0 hout
    go_enter Try.func12, Try.ntmps12
    go_wp2_with fail
    rw [← H.out.1]
    refine Calls.mono HO.out ?_
    rintro r w1 ⟨rfl, hb1⟩
    have hR2 := box_below H.out.2.2.1 hb1
    obtain ⟨d0, d1, df0, df1, dlt⟩ := two_cells hR2
    have HC : Hid _ := bk_out (bkNew_nil _ w1) hR2 (H.out.2.2.2.1.trans (hb1.mono H.out.2.2.2.1.size)) (by omega)
    clear hb1 hR2
    go_wp2
    exact bodyPost_ret (v := .tuple #[bkV (.slice none 0 0) (.slice none 0 0), .int .i64 0, .bool false, .int .i64 6]) (results_cttt Try.results12 rfl rfl rfl rfl (load_bk HC.out.1)) rfl (askPost_no HQ.out HC.out.2.1 HC.out.2.2)
  have HO : Hid _ := openedOf_yes _ _ L R W0 H.out.2.2.2.2.2 hok
  have hL9 : L.length ≤ 900 := by have := hok.1.1; omega
  have hR9 : R.length ≤ 100 := hok.2.1
  have hls := hok.1.2
  have hout1 : O = if AskOk (r1, r2, r3, r4, r5) now drain then (if oldAt R r1 < R.length then ((L, R), (R[oldAt R r1]?.getD (0, 0, 0, 0, 0)).2.2.2.2, false, 0) else if R.length = 100 then ((L, R), 9, false, 0) else ((takeO L R (r1, r2, r3, r4, r5) (now + drain)).1, (takeO L R (r1, r2, r3, r4, r5) (now + drain)).2, true, 0)) else (([], []), 0, false, 2) := by
    rw [hout]
    unfold askO
    rw [if_pos hok]
  have HQ : Hid _ := hout1
  clear hout hout1 hW0 hok
  obtain ⟨bq, hbq⟩ : ∃ bq, bq = decide (RqOk (r1, r2, r3, r4, r5)) := ⟨_, rfl⟩
  have HRM : Hid (∀ W, _) := fun W => requestMayBe_any r1 r2 r3 r4 r5 W
  rw [← hbq] at HRM
  have HBQ : Hid _ := hbq
  clear hbq
  cases bq
  case false =>
    have HE : Hid (O = (([], []), 0, false, 2)) := by rw [HQ.out]; exact if_neg fun h => of_decide_eq_false HBQ.out.symm h.1
    clear HQ
    go_enter Try.func12, Try.ntmps12
    go_wp2_with fail
    rw [← H.out.1]
    refine Calls.mono HO.out ?_
    intro r w1 hop
    obtain ⟨T, p, k, q, m, rfl, hO, hb1⟩ := opened_open hop
    obtain ⟨a0, a1, a2, a3, a4, alt⟩ := five_cells (box_below H.out.2.1 hb1)
    have hB1 := below_new w1 (o := rqO r1 r2 r3 r4 r5)
    have hR1 := box_below (box_below H.out.2.1 hb1) hB1
    have hR2 := box_below (box_below H.out.2.2.1 hb1) hB1
    have hbw := (H.out.2.2.2.1.trans (hb1.mono H.out.2.2.2.1.size))
    have hbw2 := hbw.trans (hB1.mono hbw.size)
    have hO1 := hO.below hB1
    have hz1 := Nat.le_trans hb1.size hB1.size
    clear hop c0 c1 hlt0
    obtain ⟨w2, hw2⟩ : ∃ w2, w2 = w1.alloc (rqO r1 r2 r3 r4 r5) := ⟨_, rfl⟩
    rw [← hw2] at hR1 hR2 hbw2 hO1 hz1
    have H1 : Hid (_ ∧ _ ∧ _ ∧ _ ∧ _) := ⟨hO1, hR1, hR2, hbw2, hz1⟩
    clear hO1 hR1 hR2 hbw2 hz1 hO hb1 hbw hB1
    go_wp2_with fail
    refine (HRM.out _).mono ?_
    rintro r w3 ⟨rfl, rfl⟩
    rw [← hw2]
    clear hw2 a0 a1 a2 a3 a4 alt
    obtain ⟨d0, d1, df0, df1, dlt⟩ := two_cells H1.out.2.2.1
    have HC : Hid _ := bk_out (bkNew_nil _ w2) H1.out.2.2.1 H1.out.2.2.2.1 (by omega)
    go_wp2
    exact bodyPost_ret (v := .tuple #[bkV (.slice none 0 0) (.slice none 0 0), .int .i64 0, .bool false, .int .i64 2]) (results_cttt Try.results12 rfl rfl rfl rfl (load_bk HC.out.1)) rfl (askPost_no HE.out HC.out.2.1 HC.out.2.2)
  cases h2 : decide (0 ≤ now ∧ now ≤ 1099511627776)
  case false =>
    have HE : Hid (O = (([], []), 0, false, 2)) := by rw [HQ.out]; exact if_neg fun h => of_decide_eq_false h2 h.2.1
    clear HQ
    go_enter Try.func12, Try.ntmps12
    go_wp2_with fail
    rw [← H.out.1]
    refine Calls.mono HO.out ?_
    intro r w1 hop
    obtain ⟨T, p, k, q, m, rfl, hO, hb1⟩ := opened_open hop
    obtain ⟨a0, a1, a2, a3, a4, alt⟩ := five_cells (box_below H.out.2.1 hb1)
    have hB1 := below_new w1 (o := rqO r1 r2 r3 r4 r5)
    have hR1 := box_below (box_below H.out.2.1 hb1) hB1
    have hR2 := box_below (box_below H.out.2.2.1 hb1) hB1
    have hbw := (H.out.2.2.2.1.trans (hb1.mono H.out.2.2.2.1.size))
    have hbw2 := hbw.trans (hB1.mono hbw.size)
    have hO1 := hO.below hB1
    have hz1 := Nat.le_trans hb1.size hB1.size
    clear hop c0 c1 hlt0
    obtain ⟨w2, hw2⟩ : ∃ w2, w2 = w1.alloc (rqO r1 r2 r3 r4 r5) := ⟨_, rfl⟩
    rw [← hw2] at hR1 hR2 hbw2 hO1 hz1
    have H1 : Hid (_ ∧ _ ∧ _ ∧ _ ∧ _) := ⟨hO1, hR1, hR2, hbw2, hz1⟩
    clear hO1 hR1 hR2 hbw2 hz1 hO hb1 hbw hB1
    go_wp2_with fail
    refine (HRM.out _).mono ?_
    rintro r w3 ⟨rfl, rfl⟩
    rw [← hw2]
    clear hw2 a0 a1 a2 a3 a4 alt
    obtain ⟨d0, d1, df0, df1, dlt⟩ := two_cells H1.out.2.2.1
    have HC : Hid _ := bk_out (bkNew_nil _ w2) H1.out.2.2.1 H1.out.2.2.2.1 (by omega)
    go_wp2_with fail
    refine (within_any _ _ _ _).mono ?_
    rw [h2]
    rintro r w2 ⟨rfl, rfl⟩
    go_wp2
    exact bodyPost_ret (v := .tuple #[bkV (.slice none 0 0) (.slice none 0 0), .int .i64 0, .bool false, .int .i64 2]) (results_cttt Try.results12 rfl rfl rfl rfl (load_bk HC.out.1)) rfl (askPost_no HE.out HC.out.2.1 HC.out.2.2)
  cases h3 : decide (0 ≤ drain ∧ drain ≤ 500)
  case false =>
    have HE : Hid (O = (([], []), 0, false, 2)) := by rw [HQ.out]; exact if_neg fun h => of_decide_eq_false h3 h.2.2
    clear HQ
    go_enter Try.func12, Try.ntmps12
    go_wp2_with fail
    rw [← H.out.1]
    refine Calls.mono HO.out ?_
    intro r w1 hop
    obtain ⟨T, p, k, q, m, rfl, hO, hb1⟩ := opened_open hop
    obtain ⟨a0, a1, a2, a3, a4, alt⟩ := five_cells (box_below H.out.2.1 hb1)
    have hB1 := below_new w1 (o := rqO r1 r2 r3 r4 r5)
    have hR1 := box_below (box_below H.out.2.1 hb1) hB1
    have hR2 := box_below (box_below H.out.2.2.1 hb1) hB1
    have hbw := (H.out.2.2.2.1.trans (hb1.mono H.out.2.2.2.1.size))
    have hbw2 := hbw.trans (hB1.mono hbw.size)
    have hO1 := hO.below hB1
    have hz1 := Nat.le_trans hb1.size hB1.size
    clear hop c0 c1 hlt0
    obtain ⟨w2, hw2⟩ : ∃ w2, w2 = w1.alloc (rqO r1 r2 r3 r4 r5) := ⟨_, rfl⟩
    rw [← hw2] at hR1 hR2 hbw2 hO1 hz1
    have H1 : Hid (_ ∧ _ ∧ _ ∧ _ ∧ _) := ⟨hO1, hR1, hR2, hbw2, hz1⟩
    clear hO1 hR1 hR2 hbw2 hz1 hO hb1 hbw hB1
    go_wp2_with fail
    refine (HRM.out _).mono ?_
    rintro r w3 ⟨rfl, rfl⟩
    rw [← hw2]
    clear hw2 a0 a1 a2 a3 a4 alt
    obtain ⟨d0, d1, df0, df1, dlt⟩ := two_cells H1.out.2.2.1
    have HC : Hid _ := bk_out (bkNew_nil _ w2) H1.out.2.2.1 H1.out.2.2.2.1 (by omega)
    go_wp2_with fail
    refine (within_any _ _ _ _).mono ?_
    rw [h2]
    rintro r w2 ⟨rfl, rfl⟩
    go_wp2_with fail
    refine (within_any _ _ _ _).mono ?_
    rw [h3]
    rintro r w2 ⟨rfl, rfl⟩
    go_wp2
    exact bodyPost_ret (v := .tuple #[bkV (.slice none 0 0) (.slice none 0 0), .int .i64 0, .bool false, .int .i64 2]) (results_cttt Try.results12 rfl rfl rfl rfl (load_bk HC.out.1)) rfl (askPost_no HE.out HC.out.2.1 HC.out.2.2)
  have hnow := of_decide_eq_true h2
  have hdr := of_decide_eq_true h3
  have hout2 := HQ.out
  rw [if_pos ⟨of_decide_eq_true HBQ.out.symm, hnow, hdr⟩] at hout2
  have hwr : IntKind.i64.wrap (now + drain) = now + drain := by rw [IntKind.wrap_i64]; omega
  clear HQ
  obtain ⟨⟨x1, x2, x3, x4, x5⟩, hx⟩ : ∃ x, x = R[oldAt R r1]?.getD (0, 0, 0, 0, 0) := ⟨_, rfl⟩
  obtain ⟨bo, hbo⟩ : ∃ bo, bo = decide (oldAt R r1 < R.length) := ⟨_, rfl⟩
  rw [← hx] at hout2
  have HX : Hid (_ ∧ _ ∧ _) := ⟨hx, hbo, hout2⟩
  obtain ⟨n0, n1⟩ := hnow
  obtain ⟨n2, n3⟩ := hdr
  clear hx hbo hout2
  cases bo
  case true =>
    have HE : Hid (O = ((L, R), x5, false, 0)) := by rw [HX.out.2.2]; exact if_pos (of_decide_eq_true HX.out.2.1.symm)
    go_enter Try.func12, Try.ntmps12
    go_wp2_with fail
    rw [← H.out.1]
    refine Calls.mono HO.out ?_
    intro r w1 hop
    obtain ⟨T, p, k, q, m, rfl, hO, hb1⟩ := opened_open hop
    obtain ⟨a0, a1, a2, a3, a4, alt⟩ := five_cells (box_below H.out.2.1 hb1)
    have hB1 := below_new w1 (o := rqO r1 r2 r3 r4 r5)
    have hR1 := box_below (box_below H.out.2.1 hb1) hB1
    have hR2 := box_below (box_below H.out.2.2.1 hb1) hB1
    have hbw := (H.out.2.2.2.1.trans (hb1.mono H.out.2.2.2.1.size))
    have hbw2 := hbw.trans (hB1.mono hbw.size)
    have hO1 := hO.below hB1
    have hz1 := Nat.le_trans hb1.size hB1.size
    clear hop c0 c1 hlt0
    obtain ⟨w2, hw2⟩ : ∃ w2, w2 = w1.alloc (rqO r1 r2 r3 r4 r5) := ⟨_, rfl⟩
    rw [← hw2] at hR1 hR2 hbw2 hO1 hz1
    have H1 : Hid (_ ∧ _ ∧ _ ∧ _ ∧ _) := ⟨hO1, hR1, hR2, hbw2, hz1⟩
    clear hO1 hR1 hR2 hbw2 hz1 hO hb1 hbw hB1
    go_wp2_with fail
    refine (HRM.out _).mono ?_
    rintro r w3 ⟨rfl, rfl⟩
    rw [← hw2]
    clear hw2 a0 a1 a2 a3 a4 alt
    go_wp2_with fail
    refine (within_any _ _ _ _).mono ?_
    rw [h2]
    rintro r w2 ⟨rfl, rfl⟩
    go_wp2_with fail
    refine (within_any _ _ _ _).mono ?_
    rw [h3]
    rintro r w2 ⟨rfl, rfl⟩
    obtain ⟨a0, a1, a2, a3, a4, alt⟩ := five_cells H1.out.2.1
    have HA : Hid _ := asked_any W0.heap.size T p k q m L R r1 w2 H1.out.1 x1 x2 x3 x4 x5 true HX.out.1 HX.out.2.1
    go_wp2_with fail
    refine Calls.mono HA.out ?_
    rintro r w3 ⟨rfl, hb3⟩
    obtain ⟨w4, hw4⟩ : ∃ w4, w4 = w3.alloc (rqO x1 x2 x3 x4 x5) := ⟨_, rfl⟩
    have hb4 : Below w2.heap.size w2 w4 := by rw [hw4]; exact hb3.alloc hb3.size _
    have hO4 := H1.out.1.below hb4
    have hR4 := box_below H1.out.2.2.1 hb4
    have hq4 := box_below H1.out.2.1 hb4
    have hbw4 := H1.out.2.2.2.1.trans (hb4.mono H1.out.2.2.2.1.size)
    have hz4 := Nat.le_trans H1.out.2.2.2.2 hb4.size
    have hx4 : w4.heap[w3.heap.size]? = some (rqO x1 x2 x3 x4 x5) := by rw [hw4]; exact heap_alloc_new _ _
    clear a0 a1 a2 a3 a4 alt
    obtain ⟨d0, d1, df0, df1, dlt⟩ := two_cells hR4
    obtain ⟨t0, t1, _, _, tlt⟩ := two_cells hO4.box
    obtain ⟨y0, y1, y2, y3, y4, ylt⟩ := five_cells hx4
    have hs := H.out.2.2.2.2.1
    have HC : Hid _ := bk_out (hO4.new (by omega)) hR4 hbw4 (by omega)
    clear hO4 hR4 hbw4 hz4 hx4 hb3 hb4 hs hq4
    go_upto_region 8 with fail
    rw [← hw4]
    clear hw4
    go_region
    all_goals
      go_wp2
      exact bodyPost_ret (v := .tuple #[bkV (.slice p L.length k) (.slice q R.length m), .int .i64 x5, .bool false, .int .i64 0]) (results_cttt Try.results12 rfl rfl rfl rfl (load_bk (W := (set2 w4 (w.heap.size + 1 + 1) (.slice p L.length k) (.slice q R.length m)).drew) HC.out.1)) rfl (askPost_of HE.out rfl rfl HC.out.2.1.drew HC.out.2.2.drew)
  case false =>
    by_cases h100 : R.length = 100
    · have HE : Hid (O = ((L, R), 9, false, 0)) := by rw [HX.out.2.2, if_neg (of_decide_eq_false HX.out.2.1.symm)]; exact if_pos h100
      have HH : Hid _ := h100
      rw [h100] at H HO c1 hcb ⊢
      clear h100
      go_enter Try.func12, Try.ntmps12
      go_wp2_with fail
      rw [← H.out.1]
      refine Calls.mono HO.out ?_
      intro r w1 hop
      obtain ⟨T, p, k, q, m, rfl, hO, hb1⟩ := opened_open hop
      rw [HH.out] at hO
      obtain ⟨a0, a1, a2, a3, a4, alt⟩ := five_cells (box_below H.out.2.1 hb1)
      have hB1 := below_new w1 (o := rqO r1 r2 r3 r4 r5)
      have hR1 := box_below (box_below H.out.2.1 hb1) hB1
      have hR2 := box_below (box_below H.out.2.2.1 hb1) hB1
      have hbw := (H.out.2.2.2.1.trans (hb1.mono H.out.2.2.2.1.size))
      have hbw2 := hbw.trans (hB1.mono hbw.size)
      have hO1 := hO.below hB1
      have hz1 := Nat.le_trans hb1.size hB1.size
      clear hop c0 c1 hlt0
      obtain ⟨w2, hw2⟩ : ∃ w2, w2 = w1.alloc (rqO r1 r2 r3 r4 r5) := ⟨_, rfl⟩
      rw [← hw2] at hR1 hR2 hbw2 hO1 hz1
      have H1 : Hid (_ ∧ _ ∧ _ ∧ _ ∧ _) := ⟨hO1, hR1, hR2, hbw2, hz1⟩
      clear hO1 hR1 hR2 hbw2 hz1 hO hb1 hbw hB1
      go_wp2_with fail
      refine (HRM.out _).mono ?_
      rintro r w3 ⟨rfl, rfl⟩
      rw [← hw2]
      clear hw2 a0 a1 a2 a3 a4 alt
      go_wp2_with fail
      refine (within_any _ _ _ _).mono ?_
      rw [h2]
      rintro r w2 ⟨rfl, rfl⟩
      go_wp2_with fail
      refine (within_any _ _ _ _).mono ?_
      rw [h3]
      rintro r w2 ⟨rfl, rfl⟩
      obtain ⟨a0, a1, a2, a3, a4, alt⟩ := five_cells H1.out.2.1
      have HA : Hid _ := asked_any W0.heap.size T p k q m L R r1 w2 (by rw [HH.out]; exact H1.out.1) x1 x2 x3 x4 x5 false HX.out.1 HX.out.2.1
      go_wp2_with fail
      refine Calls.mono HA.out ?_
      rintro r w3 ⟨rfl, hb3⟩
      obtain ⟨w4, hw4⟩ : ∃ w4, w4 = w3.alloc (rqO x1 x2 x3 x4 x5) := ⟨_, rfl⟩
      have hb4 : Below w2.heap.size w2 w4 := by rw [hw4]; exact hb3.alloc hb3.size _
      have hO4 := H1.out.1.below hb4
      have hR4 := box_below H1.out.2.2.1 hb4
      have hq4 := box_below H1.out.2.1 hb4
      have hbw4 := H1.out.2.2.2.1.trans (hb4.mono H1.out.2.2.2.1.size)
      have hz4 := Nat.le_trans H1.out.2.2.2.2 hb4.size
      clear a0 a1 a2 a3 a4 alt
      obtain ⟨d0, d1, df0, df1, dlt⟩ := two_cells hR4
      obtain ⟨t0, t1, _, _, tlt⟩ := two_cells hO4.box
      have hs := H.out.2.2.2.2.1
      have HC : Hid _ := bk_out (hO4.new (by omega)) hR4 hbw4 (by omega)
      rw [hw4] at d0 d1 df0 df1 dlt t0 t1 tlt
      clear hO4 hR4 hbw4 hz4 hb3 hb4 hs hq4
      go_wp2
      rw [← hw4]
      exact bodyPost_ret (v := .tuple #[bkV (.slice p L.length k) (.slice q 100 m), .int .i64 9, .bool false, .int .i64 0]) (results_cttt Try.results12 rfl rfl rfl rfl (load_bk HC.out.1)) rfl (askPost_of HE.out rfl HH.out.symm HC.out.2.1 HC.out.2.2)
    · have hb100 : ((R.length : Int) == 100) = false := by simp; omega
      obtain ⟨⟨⟨L', R'⟩, ans⟩, htk⟩ : ∃ x, x = takeO L R (r1, r2, r3, r4, r5) (now + drain) := ⟨_, rfl⟩
      have HE : Hid (O = ((L', R'), ans, true, 0)) := by
        rw [HX.out.2.2, if_neg (of_decide_eq_false HX.out.2.1.symm), if_neg h100, ← htk]
        exact rfl
      have HT : Hid _ := htk.symm
      clear htk
      go_enter Try.func12, Try.ntmps12
      go_wp2_with fail
      rw [← H.out.1]
      refine Calls.mono HO.out ?_
      intro r w1 hop
      obtain ⟨T, p, k, q, m, rfl, hO, hb1⟩ := opened_open hop
      obtain ⟨a0, a1, a2, a3, a4, alt⟩ := five_cells (box_below H.out.2.1 hb1)
      have hB1 := below_new w1 (o := rqO r1 r2 r3 r4 r5)
      have hR1 := box_below (box_below H.out.2.1 hb1) hB1
      have hR2 := box_below (box_below H.out.2.2.1 hb1) hB1
      have hbw := (H.out.2.2.2.1.trans (hb1.mono H.out.2.2.2.1.size))
      have hbw2 := hbw.trans (hB1.mono hbw.size)
      have hO1 := hO.below hB1
      have hz1 := Nat.le_trans hb1.size hB1.size
      clear hop c0 c1 hlt0
      obtain ⟨w2, hw2⟩ : ∃ w2, w2 = w1.alloc (rqO r1 r2 r3 r4 r5) := ⟨_, rfl⟩
      rw [← hw2] at hR1 hR2 hbw2 hO1 hz1
      have H1 : Hid (_ ∧ _ ∧ _ ∧ _ ∧ _) := ⟨hO1, hR1, hR2, hbw2, hz1⟩
      clear hO1 hR1 hR2 hbw2 hz1 hO hb1 hbw hB1
      go_wp2_with fail
      refine (HRM.out _).mono ?_
      rintro r w3 ⟨rfl, rfl⟩
      rw [← hw2]
      clear hw2 a0 a1 a2 a3 a4 alt
      go_wp2_with fail
      refine (within_any _ _ _ _).mono ?_
      rw [h2]
      rintro r w2 ⟨rfl, rfl⟩
      go_wp2_with fail
      refine (within_any _ _ _ _).mono ?_
      rw [h3]
      rintro r w2 ⟨rfl, rfl⟩
      obtain ⟨a0, a1, a2, a3, a4, alt⟩ := five_cells H1.out.2.1
      have HA : Hid _ := asked_any W0.heap.size T p k q m L R r1 w2 H1.out.1 x1 x2 x3 x4 x5 false HX.out.1 HX.out.2.1
      go_wp2_with fail
      refine Calls.mono HA.out ?_
      rintro r w3 ⟨rfl, hb3⟩
      obtain ⟨w4, hw4⟩ : ∃ w4, w4 = w3.alloc (rqO x1 x2 x3 x4 x5) := ⟨_, rfl⟩
      have hb4 : Below w2.heap.size w2 w4 := by rw [hw4]; exact hb3.alloc hb3.size _
      have hO4 := H1.out.1.below hb4
      have hR4 := box_below H1.out.2.2.1 hb4
      have hq4 := box_below H1.out.2.1 hb4
      have hbw4 := H1.out.2.2.2.1.trans (hb4.mono H1.out.2.2.2.1.size)
      have hz4 := Nat.le_trans H1.out.2.2.2.2 hb4.size
      clear a0 a1 a2 a3 a4 alt
      obtain ⟨a0, a1, a2, a3, a4, alt⟩ := five_cells hq4
      obtain ⟨t0, t1, _, _, tlt⟩ := two_cells hO4.box
      have hs := H.out.2.2.2.2.1
      have HTK : Hid (_ ∧ _ ∧ _) := ⟨take_any W0.heap.size T p k q m L R r1 r2 r3 r4 r5 (now + drain) w4 hz4 hO4 hls hL9 (by omega) L' R' ans HT.out, hR4, hbw4⟩
      rw [hw4] at a0 a1 a2 a3 a4 alt t0 t1 tlt
      clear hO4 hR4 hbw4 hz4 hb3 hb4 hs hq4 h100
      go_wp2_with fail
      rw [← hw4]
      refine Calls.mono HTK.out.1 ?_
      rintro r w5 ⟨rfl, ⟨p', c', q', m', hO5⟩, hb5⟩
      have hs := H.out.2.2.2.2.1
      have hR5 := (hb5.block (w.heap.size + 1 + 1) (by omega)).trans HTK.out.2.1
      have hbw5 : Below w.heap.size w w5 := HTK.out.2.2.trans (hb5.mono (by omega))
      obtain ⟨d0, d1, df0, df1, dlt⟩ := two_cells hR5
      clear t0 t1 tlt a0 a1 a2 a3 a4 alt
      obtain ⟨t0, t1, _, _, tlt⟩ := two_cells hO5.box
      have HC : Hid _ := bk_out (hO5.new (by omega)) hR5 hbw5 (by omega)
      clear hO5 hR5 hbw5 hb5 hs hw4
      go_wp2
      exact bodyPost_ret (v := .tuple #[bkV (.slice p' L'.length c') (.slice q' R'.length m'), .int .i64 ans, .bool true, .int .i64 0]) (results_cttt Try.results12 rfl rfl rfl rfl (load_bk HC.out.1)) rfl (askPost_of HE.out rfl rfl HC.out.2.1 HC.out.2.2)
end Go.Proofs.Ytlpedligkofegaa.Walks
