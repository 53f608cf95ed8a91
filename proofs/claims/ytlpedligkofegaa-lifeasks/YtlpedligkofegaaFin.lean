/-
  Finish, Wake. Condition: what is read can be read.
-/
import Derived.Test.YtlpedligkofegaaOf
import Derived.WalkKit
import Derived.ProofKit
import Derived.Handy
import Derived.LoopTactic
import Derived.Below
import Derived.Laws.BitsAllLaws
import Derived.RegionTactic
import Derived.Deep.RegionHeld3
import Derived.Deep.DrawnRows
import Derived.Deep.AppendLies
import Derived.Laws.OwnMore
import Derived.Deep.Onto
import Derived.Deep.QuietTactic
import Derived.BigQuiet
namespace Go.Proofs.Ytlpedligkofegaa.Walks
open Go.RowKit
set_option linter.unusedVariables false
set_option linter.unusedSimpArgs false
attribute [local go_sem ↓] Go.wp_at_zero Go.wp_at_succ

/-- What Finish answers, as it lies in memory. -/
def FinPost (w : World) (O : (List Lf × List Rq) × Int) (r : Ending) (w' : World) : Prop :=
  ∃ p c q m, r = .returned (.tuple #[bkV (.slice p O.1.1.length c) (.slice q O.1.2.length m), .int .i64 O.2]) ∧ BkNew w.heap.size w' (.slice p O.1.1.length c) (.slice q O.1.2.length m) O.1.1 O.1.2 ∧ Below w.heap.size w w'

/-- What Wake answers, as it lies in memory. -/
def WakePost (w : World) (O : (List Lf × List Rq) × List Int × Int) (r : Ending) (w' : World) : Prop :=
  ∃ p c q m s k, r = .returned (.tuple #[bkV (.slice p O.1.1.length c) (.slice q O.1.2.length m), .slice s O.2.1.length k, .int .i64 O.2.2]) ∧ BkNew w.heap.size w' (.slice p O.1.1.length c) (.slice q O.1.2.length m) O.1.1 O.1.2 ∧ InAt w' (.slice s O.2.1.length k) O.2.1 ∧ Below w.heap.size w w'

theorem Opn.one {base : Nat} {W : World} {T g n c : Nat} {vb : Value} {L : List Lf} {R : List Rq} (h : Opn base W T (.slice (some ⟨g, 0, none⟩) n c) vb L R) {i : Nat} (hi : i < L.length) {x1 x2 x3 x4 x5 x6 : Int} (hx : L[i] = (x1, x2, x3, x4, x5, x6)) (s : Int) :
    Opn base (W.setCell ⟨g, i * 6 + 1, none⟩ (.int .i64 s)) T (.slice (some ⟨g, 0, none⟩) n c) vb (L.set i (x1, s, x3, x4, x5, x6)) R := h.put hi (j := 1) (by omega) s _ (by rw [hx]; rfl)

set_option maxHeartbeats 4000000 in
set_option maxRecDepth 100000 in
theorem finish_any (va vb : Value) (L : List Lf) (R : List Rq) (n : Int) (w : World) (hv : BkAt w va vb L R) :
    Calls Try.prog 18 #[bkV va vb, .int .i64 n] w (FinPost w (finO L R n)) := by
  obtain ⟨O, hout⟩ : ∃ O, O = finO L R n := ⟨_, rfl⟩
  rw [← hout]
  obtain ⟨pa, ca, rfl, hca, hma⟩ := RcAt.form hv.1
  obtain ⟨pb, cb, rfl, hcb, hmb⟩ := RcAt.form hv.2
  obtain ⟨W0, hW0⟩ : ∃ W0, W0 = (w.alloc (bkO (.slice pa L.length ca) (.slice pb R.length cb))).alloc (bkO (.slice none 0 0) (.slice none 0 0)) := ⟨_, rfl⟩
  have hx := two_boxes w (bkO (.slice pa L.length ca) (.slice pb R.length cb)) (bkO (.slice none 0 0) (.slice none 0 0))
  rw [← hW0] at hx
  obtain ⟨hR0, hR1, hB0, hs0⟩ := hx
  obtain ⟨c0, c1, _, _, hlt0⟩ := two_cells hR0
  have H : Hid (_ ∧ _ ∧ _ ∧ _ ∧ _) := ⟨hW0, hR1, hB0, hs0, hv.below hB0⟩
  clear hv hR0 hR1 hB0 hs0
  by_cases hok : BkOk L R
  · have HO : Hid _ := openedOf_yes _ _ L R W0 H.out.2.2.2.2 hok
    unfold finO at hout
    rw [if_pos hok] at hout
    have HQ : Hid _ := hout
    clear hW0 hout
    go_enter Try.func18, Try.ntmps18
    go_wp2_with fail
    rw [← H.out.1]
    refine Calls.mono HO.out ?_
    intro r w1 hop
    obtain ⟨T, p, k, q, m, rfl, hO, hb1⟩ := opened_open hop
    have hR1 := box_below H.out.2.1 hb1
    have hbw := H.out.2.2.1.trans (hb1.mono H.out.2.2.1.size)
    clear hop c0 c1 hlt0
    have hout := HQ.out
    clear HQ
    cases hh : here L n
    · rw [hh, if_neg (by simp)] at hout
      subst hout
      have HL : Hid _ := life_no W0.heap.size T p k q m L R n w1 hO hh
      have HB : Hid (_ ∧ _) := ⟨hR1, hbw⟩
      clear hO hb1 hR1 hbw
      go_wp2_with fail
      refine Calls.mono HL.out ?_
      rintro r w2 ⟨rfl, hb2⟩
      have hR2 := box_below HB.out.1 hb2
      obtain ⟨d0, d1, df0, df1, dlt⟩ := two_cells hR2
      have HC : Hid _ := bk_out (bkNew_nil _ w2) hR2 (HB.out.2.trans (hb2.mono HB.out.2.size)) (Nat.le_succ _)
      clear hb2 hR2
      go_wp2
      exact bodyPost_ret (v := .tuple #[bkV (.slice none 0 0) (.slice none 0 0), .int .i64 8]) (results_ct Try.results18 rfl rfl (load_bk HC.out.1)) rfl ⟨none, 0, none, 0, rfl, HC.out.2.1, HC.out.2.2⟩
    · obtain ⟨i, hi⟩ : ∃ i, i = pos L n := ⟨_, rfl⟩
      have hlti : i < L.length := by rw [hi]; exact here_lt hh
      rw [hh, ← hi, List.getElem?_eq_getElem hlti, Option.getD_some] at hout
      obtain ⟨⟨x1, x2, x3, x4, x5, x6⟩, hx⟩ : ∃ x, x = L[i] := ⟨_, rfl⟩
      rw [← hx] at hout
      obtain ⟨g, c', he, _, hglt⟩ := hO.lives.form (by omega)
      cases he
      have HL : Hid _ := life_yes W0.heap.size T g k q m L R n w1 hO hh i hi
      have HB : Hid (_ ∧ _ ∧ _ ∧ _) := ⟨hR1, hbw, hO, hx⟩
      clear hO hb1 hR1 hbw hx hi hh
      by_cases h3 : x2 = 3
      · subst h3
        rw [if_pos ⟨rfl, rfl⟩] at hout
        subst hout
        go_wp2_with fail
        refine Calls.mono HL.out ?_
        rintro r w2 ⟨rfl, hb2⟩
        have hR2 := box_below HB.out.1 hb2
        have hO2 := HB.out.2.2.1.below hb2
        have hbw2 := HB.out.2.1.trans (hb2.mono HB.out.2.1.size)
        have e1 := own_cell lf6 hO2.lives rfl hlti (j := 1) (by omega)
        rw [← HB.out.2.2.2] at e1
        simp only [List.getElem?_cons_zero, List.getElem?_cons_succ, Option.map_some, Nat.add_zero] at e1
        have f1 := hO2.lives.frozenAt (i * 6 + 1)
        obtain ⟨w3, hw3⟩ : ∃ w3, w3 = w2.setCell ⟨g, i * 6 + 1, none⟩ (.int .i64 4) := ⟨_, rfl⟩
        have hO3 : Opn W0.heap.size w3 T (.slice (some ⟨g, 0, none⟩) L.length k) (.slice q R.length m) (L.set i (x1, 4, x3, x4, x5, x6)) R := by rw [hw3]; exact hO2.one hlti HB.out.2.2.2.symm 4
        have hgb := (hO2.lives.lt g rfl).1
        have hR3 : w3.heap[w.heap.size + 1]? = some (bkO (.slice none 0 0) (.slice none 0 0)) := by rw [hw3]; exact (Below.heap_setCell _ _ _ _ (by show w.heap.size + 1 ≠ g; have := H.out.2.2.2.1; omega)).trans hR2
        have hbw3 : Below w.heap.size w w3 := by rw [hw3]; exact hbw2.setCell (by show w.heap.size ≤ g; have := H.out.2.2.2.1; omega) _
        obtain ⟨t0, t1, _, _, tlt⟩ := two_cells hO2.box
        obtain ⟨d0, d1, df0, df1, dlt⟩ := two_cells hR2
        have hTg : ¬ T = g := fun e => hO2.offL (by rw [e]; rfl)
        have hBg : ¬ w.heap.size + 1 = g := by have := H.out.2.2.2.1; omega
        have HC : Hid _ := bk_out (hO3.new (by have := H.out.2.2.2.1; omega)) hR3 hbw3 (Nat.le_succ _)
        clear hb2 hR2 hO2 hO3 hR3 hbw2 hbw3 hgb
        go_wp2
        rw [← hw3]
        exact bodyPost_ret (v := .tuple #[bkV (.slice (some ⟨g, 0, none⟩) L.length k) (.slice q R.length m), .int .i64 0]) (results_ct Try.results18 rfl rfl (load_bk HC.out.1)) rfl ⟨some ⟨g, 0, none⟩, k, q, m, by simp only [List.length_set], by simp only [List.length_set]; exact HC.out.2.1, HC.out.2.2⟩
      · rw [if_neg (fun h => h3 h.2)] at hout
        subst hout
        have hne : (x2 != 3) = true := by simpa using h3
        go_wp2_with fail
        refine Calls.mono HL.out ?_
        rintro r w2 ⟨rfl, hb2⟩
        have hR2 := box_below HB.out.1 hb2
        have hO2 := HB.out.2.2.1.below hb2
        have e1 := own_cell lf6 hO2.lives rfl hlti (j := 1) (by omega)
        rw [← HB.out.2.2.2] at e1
        simp only [List.getElem?_cons_zero, List.getElem?_cons_succ, Option.map_some, Nat.add_zero] at e1
        obtain ⟨d0, d1, df0, df1, dlt⟩ := two_cells hR2
        have HC : Hid _ := bk_out (bkNew_nil _ w2) hR2 (HB.out.2.1.trans (hb2.mono HB.out.2.1.size)) (Nat.le_succ _)
        clear hb2 hR2 hO2
        go_wp2
        exact bodyPost_ret (v := .tuple #[bkV (.slice none 0 0) (.slice none 0 0), .int .i64 8]) (results_ct Try.results18 rfl rfl (load_bk HC.out.1)) rfl ⟨none, 0, none, 0, rfl, HC.out.2.1, HC.out.2.2⟩
  · have HO : Hid _ := openedOf_no _ _ L R W0 H.out.2.2.2.2 hok
    unfold finO at hout
    rw [if_neg hok] at hout
    subst hout
    clear hW0
    go_enter Try.func18, Try.ntmps18
    go_wp2_with fail
    rw [← H.out.1]
    refine Calls.mono HO.out ?_
    rintro r w1 ⟨rfl, hb1⟩
    have hR2 := box_below H.out.2.1 hb1
    obtain ⟨d0, d1, df0, df1, dlt⟩ := two_cells hR2
    have HC : Hid _ := bk_out (bkNew_nil _ w1) hR2 (H.out.2.2.1.trans (hb1.mono H.out.2.2.1.size)) (Nat.le_succ _)
    clear hb1 hR2
    go_wp2
    exact bodyPost_ret (v := .tuple #[bkV (.slice none 0 0) (.slice none 0 0), .int .i64 6]) (results_ct Try.results18 rfl rfl (load_bk HC.out.1)) rfl ⟨none, 0, none, 0, rfl, HC.out.2.1, HC.out.2.2⟩

set_option maxHeartbeats 4000000 in
set_option maxRecDepth 100000 in
theorem wakeApi_any (va vb : Value) (L : List Lf) (R : List Rq) (now : Int) (w : World) (hv : BkAt w va vb L R) :
    Calls Try.prog 15 #[bkV va vb, .int .i64 now] w (WakePost w (wakeO L R now)) := by
  obtain ⟨O, hout⟩ : ∃ O, O = wakeO L R now := ⟨_, rfl⟩
  rw [← hout]
  obtain ⟨pa, ca, rfl, hca, hma⟩ := RcAt.form hv.1
  obtain ⟨pb, cb, rfl, hcb, hmb⟩ := RcAt.form hv.2
  obtain ⟨W0, hW0⟩ : ∃ W0, W0 = (w.alloc (bkO (.slice pa L.length ca) (.slice pb R.length cb))).alloc (bkO (.slice none 0 0) (.slice none 0 0)) := ⟨_, rfl⟩
  have hx := two_boxes w (bkO (.slice pa L.length ca) (.slice pb R.length cb)) (bkO (.slice none 0 0) (.slice none 0 0))
  rw [← hW0] at hx
  obtain ⟨hR0, hR1, hB0, hs0⟩ := hx
  obtain ⟨c0, c1, _, _, hlt0⟩ := two_cells hR0
  have H : Hid (_ ∧ _ ∧ _ ∧ _ ∧ _) := ⟨hW0, hR1, hB0, hs0, hv.below hB0⟩
  clear hv hR0 hR1 hB0 hs0
  by_cases hok : BkOk L R
  · have HO : Hid _ := openedOf_yes _ _ L R W0 H.out.2.2.2.2 hok
    unfold wakeO at hout
    rw [if_pos hok] at hout
    have hL9 : L.length ≤ 900 := by have := hok.1.1; omega
    cases hn : decide (0 ≤ now ∧ now ≤ 1099511627776)
    · rw [if_neg (of_decide_eq_false hn)] at hout
      subst hout
      clear hW0
      go_enter Try.func15, Try.ntmps15
      go_wp2_with fail
      rw [← H.out.1]
      refine Calls.mono HO.out ?_
      intro r w1 hop
      obtain ⟨T, p, k, q, m, rfl, hO, hb1⟩ := opened_open hop
      have hR1 := box_below H.out.2.1 hb1
      have hbw := H.out.2.2.1.trans (hb1.mono H.out.2.2.1.size)
      obtain ⟨d0, d1, df0, df1, dlt⟩ := two_cells hR1
      have HC : Hid _ := bk_out (bkNew_nil _ w1) hR1 hbw (Nat.le_succ _)
      clear hop c0 c1 hlt0 hR1 hbw hb1 hO
      go_wp2_with fail
      refine (within_any _ _ _ _).mono ?_
      rw [hn]
      rintro r w2 ⟨rfl, rfl⟩
      go_wp2
      exact bodyPost_ret (v := .tuple #[bkV (.slice none 0 0) (.slice none 0 0), .slice none 0 0, .int .i64 2]) (results_ctt Try.results15 rfl rfl rfl (load_bk HC.out.1)) rfl ⟨none, 0, none, 0, none, 0, rfl, HC.out.2.1, rcAt_nil _, HC.out.2.2⟩
    · rw [if_pos (of_decide_eq_true hn)] at hout
      subst hout
      clear hW0
      go_enter Try.func15, Try.ntmps15
      go_wp2_with fail
      rw [← H.out.1]
      refine Calls.mono HO.out ?_
      intro r w1 hop
      obtain ⟨T, p, k, q, m, rfl, hO, hb1⟩ := opened_open hop
      have hR1 := box_below H.out.2.1 hb1
      have hbw := H.out.2.2.1.trans (hb1.mono H.out.2.2.1.size)
      have HW : Hid (_ ∧ _ ∧ _ ∧ _) := ⟨wake_any W0.heap.size T p k q m L R now w1 hb1.size hO hL9, hR1, hbw, hb1⟩
      clear hop c0 c1 hlt0 hR1 hbw hb1 hO
      go_wp2_with fail
      refine (within_any _ _ _ _).mono ?_
      rw [hn]
      rintro r w2 ⟨rfl, rfl⟩
      go_wp2_with fail
      refine Calls.mono HW.out.1 ?_
      rintro r w2 ⟨⟨pw, cw, rfl, hw⟩, hO2, hb2⟩
      have hs := H.out.2.2.2.1
      have hR2 := (hb2.block (w.heap.size + 1) (by omega)).trans HW.out.2.1
      have hbw2 : Below w.heap.size w w2 := HW.out.2.2.1.trans (hb2.mono (by omega))
      obtain ⟨t0, t1, _, _, tlt⟩ := two_cells hO2.box
      obtain ⟨d0, d1, df0, df1, dlt⟩ := two_cells hR2
      have HC : Hid (_ ∧ _) := ⟨bk_out (hO2.new (by omega)) hR2 hbw2 (Nat.le_succ _), own_block hw (w' := set2 w2 (w.heap.size + 1) (.slice p L.length k) (.slice q R.length m)) (fun b hb => set2_other (by have := (hw.lt b hb).1; have := HW.out.2.2.2.size; omega))⟩
      clear hR2 hO2 hbw2 hb2 hw hs
      go_wp2
      exact bodyPost_ret (v := .tuple #[bkV (.slice p L.length k) (.slice q R.length m), .slice pw (wokenL L).length cw, .int .i64 0]) (results_ctt Try.results15 rfl rfl rfl (load_bk HC.out.1.1)) rfl ⟨p, k, q, m, pw, cw, by simp only [List.length_map], by simp only [List.length_map]; exact HC.out.1.2.1, rcAt_own HC.out.2, HC.out.1.2.2⟩
  · have HO : Hid _ := openedOf_no _ _ L R W0 H.out.2.2.2.2 hok
    unfold wakeO at hout
    rw [if_neg hok] at hout
    subst hout
    clear hW0
    go_enter Try.func15, Try.ntmps15
    go_wp2_with fail
    rw [← H.out.1]
    refine Calls.mono HO.out ?_
    rintro r w1 ⟨rfl, hb1⟩
    have hR2 := box_below H.out.2.1 hb1
    obtain ⟨d0, d1, df0, df1, dlt⟩ := two_cells hR2
    have HC : Hid _ := bk_out (bkNew_nil _ w1) hR2 (H.out.2.2.1.trans (hb1.mono H.out.2.2.1.size)) (Nat.le_succ _)
    clear hb1 hR2
    go_wp2
    exact bodyPost_ret (v := .tuple #[bkV (.slice none 0 0) (.slice none 0 0), .slice none 0 0, .int .i64 6]) (results_ctt Try.results15 rfl rfl rfl (load_bk HC.out.1)) rfl ⟨none, 0, none, 0, none, 0, rfl, HC.out.2.1, rcAt_nil _, HC.out.2.2⟩
end Go.Proofs.Ytlpedligkofegaa.Walks
