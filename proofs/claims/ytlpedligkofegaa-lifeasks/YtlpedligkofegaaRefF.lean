/-
  usherref: Finished, Woken. Condition: what is read can be read.
-/
import Derived.Test.YtlpedligkofegaaRefD
import Derived.WalkKit
import Derived.ProofKit
import Derived.Handy
import Derived.LoopTactic
import Derived.Below
import Derived.Laws.BitsAllLaws
import Derived.RegionTactic
import Derived.Deep.RegionHeld3
import Derived.Deep.DrawnRows
import Derived.Deep.AppendLies
import Derived.Laws.OwnMore
import Derived.Deep.Onto
import Derived.Deep.QuietTactic
import Derived.BigQuiet
namespace Go.Proofs.Ytlpedligkofegaa.Walks
open Go.RowKit
set_option linter.unusedVariables false
set_option linter.unusedSimpArgs false
attribute [local go_sem ↓] Go.wp_at_zero Go.wp_at_succ

theorem Own2.put {base : Nat} {W : World} {g n c : Nat} {vb : Value} {L : List Lf} {R : List Rq} (h : Own2 base W (.slice (some ⟨g, 0, none⟩) n c) vb L R) {i j : Nat} (hi : i < L.length) (hj : j < 6) (a : Int) (y : Lf) (hy : lfC y = (lfC L[i]).set j a) :
    Own2 base (W.setCell ⟨g, i * 6 + j, none⟩ (.int .i64 a)) (.slice (some ⟨g, 0, none⟩) n c) vb (L.set i y) R := by
  have hn : n = L.length := by
    rcases h.lives.2 with ⟨e, _⟩ | ⟨g', cap, cur, e, _⟩
    · cases e
    · injection e
  refine ⟨?_, own_block h.reqs (fun b hb => Below.heap_setCell _ _ _ _ (fun e => h.apart g rfl (by rw [hb, e]))), h.apart⟩
  rw [List.length_set, ← hn]
  have hl := h.lives
  rw [← hn] at hl
  exact own_put lf6 hl hi hj a y hy

theorem Own2.at {base : Nat} {W : World} {va vb : Value} {L : List Lf} {R : List Rq} (h : Own2 base W va vb L R) : BkAt W va vb L R := ⟨rcAt_own h.lives, rcAt_own h.reqs⟩

theorem bk48 {L : List Lf} {R : List Rq} (h : BkOk L R) : L.length * 48 ≤ 140737488355328 ∧ R.length * 40 ≤ 140737488355328 := ⟨by have := h.1.1; omega, by have := h.2.1; omega⟩

set_option maxHeartbeats 4000000 in
set_option maxRecDepth 100000 in
theorem finished_any (va vb : Value) (L : List Lf) (R : List Rq) (n : Int) (w : World) (hv : BkAt w va vb L R) :
    Calls Try.prog 19 #[bkV va vb, .int .i64 n] w (FinPost w (finO L R n)) := by
  obtain ⟨O, hout⟩ : ∃ O, O = finO L R n := ⟨_, rfl⟩
  rw [← hout]
  obtain ⟨pa, ca, rfl, hca, hma⟩ := RcAt.form hv.1
  obtain ⟨pb, cb, rfl, hcb, hmb⟩ := RcAt.form hv.2
  obtain ⟨W0, hW0⟩ : ∃ W0, W0 = (w.alloc (bkO (.slice pa L.length ca) (.slice pb R.length cb))).alloc (bkO (.slice none 0 0) (.slice none 0 0)) := ⟨_, rfl⟩
  have hx := two_boxes w (bkO (.slice pa L.length ca) (.slice pb R.length cb)) (bkO (.slice none 0 0) (.slice none 0 0))
  rw [← hW0] at hx
  obtain ⟨hR0, hR1, hB0, hs0⟩ := hx
  have H : Hid (_ ∧ _ ∧ _ ∧ _ ∧ _ ∧ _) := ⟨hW0, hR1, hB0, hs0, hv.below hB0, hR0⟩
  obtain ⟨⟨⟨x1, x2, x3, x4, x5, x6⟩, e⟩, hof⟩ : ∃ x, x = ofO L R n := ⟨_, rfl⟩
  have HOF : Hid _ := lifeOf_any _ _ L R n W0 H.out.2.2.2.2.1 x1 x2 x3 x4 x5 x6 e hof.symm
  clear hv hR0 hR1 hB0 hs0
  have hcase : (e ≠ 0 ∧ O = (([], []), e)) ∨ (e = 0 ∧ x2 ≠ 3 ∧ O = (([], []), 8)) ∨ (e = 0 ∧ x2 = 3 ∧ BkOk L R ∧ here L n = true ∧ L[pos L n]? = some (x1, x2, x3, x4, x5, x6) ∧ O = ((L.set (pos L n) (x1, 4, x3, x4, x5, x6), R), 0)) := by
    unfold ofO at hof
    unfold finO at hout
    by_cases hok : BkOk L R
    · rw [if_pos hok] at hof hout
      by_cases hh : here L n = true
      · rw [if_pos hh] at hof
        injection hof with hx he
        rw [← hx] at hout
        have hs : L[pos L n]? = some (x1, x2, x3, x4, x5, x6) := by
          rw [List.getElem?_eq_getElem (here_lt hh)] at hx ⊢
          rw [hx]
          rfl
        by_cases h3 : x2 = 3
        · rw [if_pos ⟨hh, h3⟩] at hout
          exact .inr (.inr ⟨he, h3, hok, hh, hs, hout⟩)
        · rw [if_neg (fun h => h3 h.2)] at hout
          exact .inr (.inl ⟨he, h3, hout⟩)
      · rw [if_neg hh] at hof
        injection hof with hx he
        rw [if_neg (fun h => hh h.1)] at hout
        exact .inl ⟨by rw [he]; decide, by rw [hout, he]⟩
    · rw [if_neg hok] at hof hout
      injection hof with hx he
      exact .inl ⟨by rw [he]; decide, by rw [hout, he]⟩
  clear hout hof
  rcases hcase with ⟨he, rfl⟩ | ⟨rfl, h3, rfl⟩ | ⟨rfl, rfl, hok, hh, hs, rfl⟩
  · have hne : (e != 0) = true := by simpa using he
    clear he
    go_enter Try.func19, Try.ntmps19
    go_wp2_with fail
    rw [← H.out.1]
    refine Calls.mono HOF.out ?_
    rintro r w1 ⟨rfl, hb1⟩
    have hR2 := box_below H.out.2.1 hb1
    obtain ⟨d0, d1, df0, df1, dlt⟩ := two_cells hR2
    have HC : Hid _ := bk_out (bkNew_nil _ w1) hR2 (H.out.2.2.1.trans (hb1.mono H.out.2.2.1.size)) (Nat.le_succ _)
    clear hb1 hR2
    go_wp2
    exact bodyPost_ret (v := .tuple #[bkV (.slice none 0 0) (.slice none 0 0), .int .i64 e]) (results_ct Try.results19 rfl rfl (load_bk (heap_old _ _ HC.out.1))) rfl ⟨none, 0, none, 0, rfl, bkNew_nil _ _, HC.out.2.2.alloc HC.out.2.2.size _⟩
  · have hne : (x2 != 3) = true := by simpa using h3
    go_enter Try.func19, Try.ntmps19
    go_wp2_with fail
    rw [← H.out.1]
    refine Calls.mono HOF.out ?_
    rintro r w1 ⟨rfl, hb1⟩
    have hR2 := box_below H.out.2.1 hb1
    obtain ⟨d0, d1, df0, df1, dlt⟩ := two_cells hR2
    have HC : Hid _ := bk_out (bkNew_nil _ w1) hR2 (H.out.2.2.1.trans (hb1.mono H.out.2.2.1.size)) (Nat.le_succ _)
    clear hb1 hR2 h3
    go_wp2
    exact bodyPost_ret (v := .tuple #[bkV (.slice none 0 0) (.slice none 0 0), .int .i64 8]) (results_ct Try.results19 rfl rfl (load_bk (heap_old _ _ HC.out.1))) rfl ⟨none, 0, none, 0, rfl, bkNew_nil _ _, HC.out.2.2.alloc HC.out.2.2.size _⟩
  · obtain ⟨i, hi⟩ : ∃ i, i = pos L n := ⟨_, rfl⟩
    have hlti : i < L.length := by rw [hi]; exact here_lt hh
    have hiI : (i : Int) < (L.length : Int) := by omega
    rw [← hi] at hs ⊢
    rw [List.getElem?_eq_getElem hlti] at hs
    have hLi := Option.some.inj hs
    have hat : atI L n = (i : Int) := by rw [at_yes hh, hi]
    have HX : Hid (_ ∧ _ ∧ _ ∧ _ ∧ _) := ⟨hLi, hat, hok.1.2.2, bk48 hok, hok.1.1⟩
    clear hs hLi hat hok hh hi
    go_enter Try.func19, Try.ntmps19
    go_wp2_with fail
    rw [← H.out.1]
    refine Calls.mono HOF.out ?_
    rintro r w1 ⟨rfl, hb1⟩
    obtain ⟨W1, hW1⟩ : ∃ W1, W1 = w1.alloc (lfO x1 3 x3 x4 x5 x6) := ⟨_, rfl⟩
    have hb2 : Below W0.heap.size W0 W1 := by rw [hW1]; exact hb1.alloc hb1.size _
    obtain ⟨c0, c1, _, _, clt⟩ := two_cells (box_below H.out.2.2.2.2.2 hb1)
    have HCP : Hid (_ ∧ _ ∧ _) := ⟨bookCopy_any _ _ L R W1 (H.out.2.2.2.2.1.below hb2) HX.out.2.2.2.1.1 HX.out.2.2.2.1.2, box_below H.out.2.1 hb2, hb2⟩
    clear hb1 hb2 hW0
    go_wp2_with fail
    rw [← hW1]
    clear hW1 c0 c1 clt
    refine Calls.mono HCP.out.1 ?_
    rintro r w2 ⟨p, c, q, m, rfl, hO2, hb2⟩
    obtain ⟨W2, hW2⟩ : ∃ W2, W2 = w2.alloc (bkO (.slice p L.length c) (.slice q R.length m)) := ⟨_, rfl⟩
    have hb3 : Below W1.heap.size W1 W2 := by rw [hW2]; exact hb2.alloc hb2.size _
    have hO3 : Own2 W1.heap.size W2 (.slice p L.length c) (.slice q R.length m) L R := by rw [hW2]; exact hO2.below (below_new _)
    have hX3 : W2.heap[w2.heap.size]? = some (bkO (.slice p L.length c) (.slice q R.length m)) := by rw [hW2]; exact heap_alloc_new _ _
    have HA : Hid (_ ∧ _ ∧ _ ∧ _ ∧ _) := ⟨lifeAt_any _ _ L R n W2 hO3.at HX.out.2.2.1, hO3, hX3, box_below HCP.out.2.1 hb3, HCP.out.2.2.trans (hb3.mono HCP.out.2.2.size)⟩
    have hvl : ∀ b, (Value.slice p L.length c).ownBlock = some b → b ≠ w2.heap.size := fun b e => by have := (hO2.lives.lt b e).2; omega
    have hvr : ∀ b, (Value.slice q R.length m).ownBlock = some b → b ≠ w2.heap.size := fun b e => by have := (hO2.reqs.lt b e).2; omega
    have HV : Hid (_ ∧ _) := ⟨hvl, hvr⟩
    clear hb2 hb3 hO2 hO3 hX3 hvl hvr
    go_wp2_with fail
    rw [← hW2]
    clear hW2
    refine Calls.mono HA.out.1 ?_
    rw [HX.out.2.1]
    rintro r w3 ⟨rfl, hb3⟩
    have hO3 := HA.out.2.1.below hb3
    have hX3 := box_below HA.out.2.2.1 hb3
    have hR3 := box_below HA.out.2.2.2.1 hb3
    have hB3 := HA.out.2.2.2.2.trans (hb3.mono HA.out.2.2.2.2.size)
    obtain ⟨hq1, hq2⟩ := own_cap hO3.lives
    obtain ⟨g, c', he, _, hglt⟩ := hO3.lives.form (by omega)
    cases he
    have e1 := own_cell lf6 hO3.lives rfl hlti (j := 1) (by omega)
    rw [HX.out.1] at e1
    simp only [List.getElem?_cons_zero, List.getElem?_cons_succ, Option.map_some, Nat.add_zero] at e1
    have f1 := hO3.lives.frozenAt (i * 6 + 1)
    obtain ⟨g2, hg2⟩ : ∃ g2, g2 = w2.heap.size := ⟨_, rfl⟩
    rw [← hg2] at hX3 HV ⊢
    have hgX : ¬ g2 = g := fun e => HV.out.1 g rfl e.symm
    have hgb := (hO3.lives.lt g rfl).1
    have hsz := H.out.2.2.2.1
    have hW1s : W0.heap.size ≤ W1.heap.size := HCP.out.2.2.size
    have hgR : ¬ w.heap.size + 1 = g := by omega
    obtain ⟨k0, k1, _, _, klt⟩ := two_cells hX3
    obtain ⟨d0, d1, df0, df1, dlt⟩ := two_cells hR3
    obtain ⟨w4, hw4⟩ : ∃ w4, w4 = w3.setCell ⟨g, i * 6 + 1, none⟩ (.int .i64 4) := ⟨_, rfl⟩
    have hO4 : Own2 W1.heap.size w4 (.slice (some ⟨g, 0, none⟩) L.length c) (.slice q R.length m) (L.set i (x1, 4, x3, x4, x5, x6)) R := by
      rw [hw4]
      exact hO3.put hlti (j := 1) (by omega) 4 (x1, 4, x3, x4, x5, x6) (by rw [HX.out.1]; rfl)
    have hR4 : w4.heap[w.heap.size + 1]? = some (bkO (.slice none 0 0) (.slice none 0 0)) := by rw [hw4]; exact (Below.heap_setCell _ _ _ _ hgR).trans hR3
    have hbw4 : Below w.heap.size w w4 := by rw [hw4]; exact below_set1 (H.out.2.2.1.trans (hB3.mono H.out.2.2.1.size)) (by omega)
    have HC : Hid _ := bk_out (hO4.new (by omega)) hR4 hbw4 (Nat.le_succ _)
    clear hO3 hX3 hR3 hB3 hO4 hR4 hbw4 hb3 hgb hsz hW1s hg2
    go_wp2
    rw [← hw4]
    exact bodyPost_ret (v := .tuple #[bkV (.slice (some ⟨g, 0, none⟩) L.length c) (.slice q R.length m), .int .i64 0]) (results_ct Try.results19 rfl rfl (load_bk HC.out.1)) rfl ⟨some ⟨g, 0, none⟩, c, q, m, by simp only [List.length_set], by simp only [List.length_set]; exact HC.out.2.1, HC.out.2.2⟩

set_option maxHeartbeats 8000000 in
set_option maxRecDepth 100000 in
theorem woken_any (va vb : Value) (L : List Lf) (R : List Rq) (now : Int) (w : World) (hv : BkAt w va vb L R) :
    Calls Try.prog 16 #[bkV va vb, .int .i64 now] w (WakePost w (wakeO L R now)) := by
  obtain ⟨O, hout⟩ : ∃ O, O = wakeO L R now := ⟨_, rfl⟩
  rw [← hout]
  obtain ⟨pa, ca, rfl, hca, hma⟩ := RcAt.form hv.1
  obtain ⟨pb, cb, rfl, hcb, hmb⟩ := RcAt.form hv.2
  obtain ⟨W0, hW0⟩ : ∃ W0, W0 = (w.alloc (bkO (.slice pa L.length ca) (.slice pb R.length cb))).alloc (bkO (.slice none 0 0) (.slice none 0 0)) := ⟨_, rfl⟩
  have hx := two_boxes w (bkO (.slice pa L.length ca) (.slice pb R.length cb)) (bkO (.slice none 0 0) (.slice none 0 0))
  rw [← hW0] at hx
  obtain ⟨hR0, hR1, hB0, hs0⟩ := hx
  have H : Hid (_ ∧ _ ∧ _ ∧ _ ∧ _ ∧ _) := ⟨hW0, hR1, hB0, hs0, hv.below hB0, hR0⟩
  have HF : Hid _ := bookFault_any _ _ L R W0 H.out.2.2.2.2.1
  clear hv hR0 hR1 hB0 hs0
  by_cases hok : BkOk L R
  case neg =>
    rw [chk_no hok] at HF
    unfold wakeO at hout
    rw [if_neg hok] at hout
    subst hout
    clear hW0
    go_enter Try.func16, Try.ntmps16
    go_wp2_with fail
    rw [← H.out.1]
    refine Calls.mono HF.out ?_
    rintro r w1 ⟨rfl, hb1⟩
    have hR2 := box_below H.out.2.1 hb1
    obtain ⟨d0, d1, df0, df1, dlt⟩ := two_cells hR2
    have HC : Hid _ := bk_out (bkNew_nil _ w1) hR2 (H.out.2.2.1.trans (hb1.mono H.out.2.2.1.size)) (Nat.le_succ _)
    clear hb1 hR2
    go_wp2
    exact bodyPost_ret (v := .tuple #[bkV (.slice none 0 0) (.slice none 0 0), .slice none 0 0, .int .i64 6]) (results_ctt Try.results16 rfl rfl rfl (load_bk HC.out.1)) rfl ⟨none, 0, none, 0, none, 0, rfl, HC.out.2.1, rcAt_nil _, HC.out.2.2⟩
  rw [chk_yes hok] at HF
  unfold wakeO at hout
  rw [if_pos hok] at hout
  cases hn : decide (0 ≤ now ∧ now ≤ 1099511627776)
  case false =>
    rw [if_neg (of_decide_eq_false hn)] at hout
    subst hout
    clear hW0
    go_enter Try.func16, Try.ntmps16
    go_wp2_with fail
    rw [← H.out.1]
    refine Calls.mono HF.out ?_
    rintro r w1 ⟨rfl, hb1⟩
    have hR2 := box_below H.out.2.1 hb1
    obtain ⟨d0, d1, df0, df1, dlt⟩ := two_cells hR2
    have HC : Hid _ := bk_out (bkNew_nil _ w1) hR2 (H.out.2.2.1.trans (hb1.mono H.out.2.2.1.size)) (Nat.le_succ _)
    clear hb1 hR2
    go_wp2_with fail
    refine (in_any _ _ _ _).mono ?_
    rw [hn]
    rintro r w2 ⟨rfl, rfl⟩
    go_wp2
    exact bodyPost_ret (v := .tuple #[bkV (.slice none 0 0) (.slice none 0 0), .slice none 0 0, .int .i64 2]) (results_ctt Try.results16 rfl rfl rfl (load_bk HC.out.1)) rfl ⟨none, 0, none, 0, none, 0, rfl, HC.out.2.1, rcAt_nil _, HC.out.2.2⟩
  rw [if_pos (of_decide_eq_true hn)] at hout
  subst hout
  have h48 := bk48 hok
  have hlen := hok.1.1
  clear hok hW0
  go_enter Try.func16, Try.ntmps16
  go_wp2_with fail
  rw [← H.out.1]
  refine Calls.mono HF.out ?_
  rintro r w1 ⟨rfl, hb1⟩
  obtain ⟨c0, c1, _, _, clt⟩ := two_cells (box_below H.out.2.2.2.2.2 hb1)
  have HCP : Hid (_ ∧ _ ∧ _) := ⟨bookCopy_any _ _ L R w1 (H.out.2.2.2.2.1.below hb1) h48.1 h48.2, box_below H.out.2.1 hb1, hb1⟩
  clear hb1
  go_wp2_with fail
  refine (in_any _ _ _ _).mono ?_
  rw [hn]
  rintro r w1 ⟨rfl, rfl⟩
  go_wp2_with fail
  refine Calls.mono HCP.out.1 ?_
  rintro r w2 ⟨p, c, q, m, rfl, hO2, hb2⟩
  obtain ⟨W2, hW2⟩ : ∃ W2, W2 = w2.alloc (bkO (.slice p L.length c) (.slice q R.length m)) := ⟨_, rfl⟩
  have hb3 : Below w1.heap.size w1 W2 := by rw [hW2]; exact hb2.alloc hb2.size _
  have hO3 : Own2 w1.heap.size W2 (.slice p L.length c) (.slice q R.length m) L R := by rw [hW2]; exact hO2.below (below_new _)
  have hX3 : W2.heap[w2.heap.size]? = some (bkO (.slice p L.length c) (.slice q R.length m)) := by rw [hW2]; exact heap_alloc_new _ _
  have hs2 : W2.heap.size = w2.heap.size + 1 := by rw [hW2]; simp
  have hvl : ∀ b, ((Value.slice p L.length c).ownBlock = some b ∨ (Value.slice q R.length m).ownBlock = some b) → w1.heap.size ≤ b ∧ b < w2.heap.size := by
    rintro b (e | e)
    · exact hO2.lives.lt b e
    · exact hO2.reqs.lt b e
  have hz := hb2.size
  obtain ⟨g2, hg2⟩ : ∃ g2, g2 = w2.heap.size := ⟨_, rfl⟩
  rw [← hg2] at hX3 hs2 hvl hz
  have HA : Hid (_ ∧ _ ∧ _ ∧ _ ∧ _ ∧ _) := ⟨hO3, hX3, (box_below HCP.out.2.1 hb3), HCP.out.2.2.trans (hb3.mono HCP.out.2.2.size), hs2, hvl⟩
  have hq := own_cap hO3.lives
  obtain ⟨hq1, hq2⟩ := hq
  clear hb2 hb3 hO2 hO3 hX3 hs2 hvl c0 c1 clt h48
  go_wp2
  rw [← hg2, ← hW2]
  clear hW2 hg2
  go_loopw [9, 10] (fun s i wr => ∃ (k : Nat) (pw : Option Addr) (kw cw : Nat), i = .int .i64 k ∧ s = .slice pw kw cw ∧ k ≤ L.length ∧ kw = (wokenL (L.take k)).length ∧ wr.ownsRow W2.heap.size 3 1 (.slice pw kw cw) kw (recs inC (wokenL (L.take k))) ∧ Own2 w1.heap.size wr (.slice p L.length c) (.slice q R.length m) (someL L now k) R ∧ wr.heap[g2]? = some (bkO (.slice p L.length c) (.slice q R.length m)) ∧ wr.heap[w.heap.size + 1]? = some (bkO (.slice none 0 0) (.slice none 0 0)) ∧ Below w.heap.size w wr ∧ W2.heap.size ≤ wr.heap.size) (fun _ i _ => L.length - (intOf i).toNat)
  case atStart => exact ⟨0, none, 0, 0, rfl, rfl, Nat.zero_le _, by simp [wokenL], World.ownsRow_nil _ _ _ _, HA.out.1, HA.out.2.1, HA.out.2.2.1, H.out.2.2.1.trans (HA.out.2.2.2.1.mono H.out.2.2.1.size), Nat.le_refl _⟩
  case round =>
    obtain ⟨k, pw, kw, cw, rfl, rfl, hk, hkw, ho, hO, hX, hR, hbr, hsz⟩ := hrel
    obtain ⟨b0, b1, _, _, hltT⟩ := two_cells hX
    have hs2 := HA.out.2.2.2.2.1
    have hsw := H.out.2.2.2.1
    have hw1s : W0.heap.size ≤ w1.heap.size := HCP.out.2.2.size
    by_cases hlt : k < L.length
    · have hkI : (k : Int) < (L.length : Int) := by omega
      have hkd : decide ((k : Int) < (L.length : Int)) = true := decide_eq_true hkI
      obtain ⟨g, c', he, _, hglt⟩ := hO.lives.form (by rw [someL_len]; omega)
      have hpg : p = some ⟨g, 0, none⟩ := by injection he
      subst hpg
      have hlv := hO.lives
      rw [someL_len] at hlv
      obtain ⟨⟨x1, x2, x3, x4, x5, x6⟩, hx⟩ : ∃ x, x = L[k] := ⟨_, rfl⟩
      have hks : k < (someL L now k).length := by rw [someL_len]; exact hlt
      have e0 := own_cell lf6 hlv (someL_len L now k).symm hks (j := 0) (by omega)
      have e1 := own_cell lf6 hlv (someL_len L now k).symm hks (j := 1) (by omega)
      have e3 := own_cell lf6 hlv (someL_len L now k).symm hks (j := 3) (by omega)
      rw [someL_at hlt, ← hx] at e0 e1 e3
      simp only [List.getElem?_cons_zero, List.getElem?_cons_succ, Option.map_some, Nat.add_zero] at e0 e1 e3
      have f1 := hlv.frozenAt (k * 6 + 1)
      have f3 := hlv.frozenAt (k * 6 + 3)
      have hgw := HA.out.2.2.2.2.2 g (.inl rfl)
      have hg2g : ¬ g2 = g := by omega
      by_cases h1 : x2 = 1
      · subst h1
        have hst : L[k].2.1 = 1 := by rw [← hx]
        have hw2 := woken_yes hlt hst
        have hs2' := someL_next (now := now) hlt
        rw [← hx] at hw2 hs2'
        rw [show wakes now (x1, 1, x3, x4, x5, x6) = (x1, 2, x3, now, x5, x6) from if_pos rfl] at hs2'
        obtain ⟨w3, hw3e⟩ : ∃ w3, w3 = (wr.setCell ⟨g, k * 6 + 1, none⟩ (.int .i64 2)).setCell ⟨g, k * 6 + 3, none⟩ (.int .i64 now) := ⟨_, rfl⟩
        have hoth : ∀ b, b ≠ g → w3.heap[b]? = wr.heap[b]? := fun b hb => by rw [hw3e, Below.heap_setCell _ _ _ _ hb, Below.heap_setCell _ _ _ _ hb]
        have hO2 : Own2 w1.heap.size w3 (.slice (some ⟨g, 0, none⟩) L.length c) (.slice q R.length m) (someL L now (k + 1)) R := by
          have z1 := hO.put hks (j := 1) (by omega) 2 (x1, 2, x3, x4, x5, x6) (by rw [someL_at hlt, ← hx]; rfl)
          have z2 := z1.put (i := k) (by simpa using hks) (j := 3) (by omega) now (x1, 2, x3, now, x5, x6) (by simp)
          rw [hw3e, hs2']
          simpa using z2
        have hb3 : Below w.heap.size wr w3 := by
          rw [hw3e]
          exact below_set1 (below_set1 (Below.refl _ _) (by omega)) (by omega)
        have hs3z : w3.heap.size = wr.heap.size := by rw [hw3e]; simp
        have ho2 : w3.ownsRow W2.heap.size 3 1 (.slice pw kw cw) kw (recs inC (wokenL (L.take k))) := own_block ho fun b hb => hoth b (by have := (ho.lt b hb).1; omega)
        have hkl : kw ≤ 900 := by
          have := woken_len (L.take k)
          rw [List.length_take] at this
          omega
        obtain ⟨gw, cw2, w5, hr, ho5, hg5, hl5⟩ := append_oneR in1 (by decide) Try.underlying36 infoInt rfl ho2 (by omega) 36 x1 #[.int .i64 x1] rfl (by omega) (by unfold maxLen; omega)
        rw [← hw2] at ho5
        have h5o : ∀ b, b < W2.heap.size → b ≠ g → w5.heap[b]? = wr.heap[b]? := fun b hb hne => (hg5.block b (by omega) (fun e => by have := (ho2.lt b e.symm).1; omega)).trans (hoth b hne)
        have hO5 : Own2 w1.heap.size w5 (.slice (some ⟨g, 0, none⟩) L.length c) (.slice q R.length m) (someL L now (k + 1)) R := hO2.kept fun b hb => by
          have hlt2 := (HA.out.2.2.2.2.2 b hb).2
          exact hg5.block b (by omega) (fun e => by have := (ho2.lt b e.symm).1; omega)
        have hX5 := (h5o g2 (by omega) hg2g).trans hX
        have hR5 := (h5o (w.heap.size + 1) (by omega) (by omega)).trans hR
        have hB5 : Below w.heap.size w w5 := (hbr.trans hb3).trans (below_grown hg5 (by omega) (fun b e => by have := (ho2.lt b e).1; omega))
        have hr' : (Builtin.append_ #[36, 36] 36 #[.slice pw kw cw, .slice (some ⟨wr.heap.size, 0, none⟩) 1 1]).run Try.prog (((wr.setCell ⟨g, k * 6 + 1, none⟩ (.int .i64 2)).setCell ⟨g, k * 6 + 3, none⟩ (.int .i64 now)).alloc (.cells #[.int .i64 x1] 3)) = .ok (.slice (some ⟨gw, 0, none⟩) (kw + 1) cw2) w5 := by rw [← hw3e, ← hs3z]; exact hr
        have HR : Hid (_ ∧ _ ∧ _ ∧ _ ∧ _ ∧ _ ∧ _ ∧ _) := ⟨hr', ho5, hO5, hX5, hR5, hB5, (by have := hg5.size; omega : W2.heap.size ≤ w5.heap.size), (by rw [hw2]; simp; omega : kw + 1 = (wokenL (L.take (k + 1))).length)⟩
        clear hr hr' ho5 hO5 hB5 ho hO hbr hkw hlv hx hO2 hb3 ho2 hg5 hl5 hst hw2 hs2' he hks hs3z hw3e hoth h5o hX5 hR5 hX hR hgw hs2 hsw hw1s hsz
        go_wp2_with (at_builtin; (with_reducible refine wpList_append_eq rfl _ _ 36 rfl (.slice pw kw cw) (.slice (some ⟨wr.heap.size, 0, none⟩) 1 1) (.slice (some ⟨gw, 0, none⟩) (kw + 1) cw2) w5 ?hs ?hx ?hr ?_); (case hs => rfl); (case hx => rfl); (case hr => exact HR.out.1))
        go_wp2
        go_roundw
        case rel => exact ⟨k + 1, some ⟨gw, 0, none⟩, kw + 1, cw2, by simp, rfl, hlt, HR.out.2.2.2.2.2.2.2, HR.out.2.1, HR.out.2.2.1, HR.out.2.2.2.1, HR.out.2.2.2.2.1, HR.out.2.2.2.2.2.1, HR.out.2.2.2.2.2.2.1⟩
        case measure => simp [intOf]; omega
      · have hst : ¬ L[k].2.1 = 1 := by rw [← hx]; exact h1
        have hw2 := woken_no hlt hst
        have hs2' := someL_same (now := now) hlt hst
        rw [← hw2] at ho hkw
        rw [← hs2'] at hO
        have hne : (x2 == 1) = false := by simpa using h1
        have HR : Hid (_ ∧ _ ∧ _ ∧ _ ∧ _ ∧ _ ∧ _) := ⟨hkw, ho, hO, hX, hR, hbr, hsz⟩
        clear ho hO hbr hkw hlv hx hst hw2 hs2' he hks hX hR hgw hs2 hsw hw1s hsz
        go_wp2
        go_roundw
        case rel => exact ⟨k + 1, pw, kw, cw, by simp, rfl, hlt, HR.out.1, HR.out.2.1, HR.out.2.2.1, HR.out.2.2.2.1, HR.out.2.2.2.2.1, HR.out.2.2.2.2.2.1, HR.out.2.2.2.2.2.2⟩
        case measure => simp [intOf]; omega
    · have hkd : ¬ ((k : Int) < (L.length : Int)) := by omega
      obtain rfl : k = L.length := by omega
      have hs : someL L now L.length = L.map (wakes now) := by simp [someL]
      rw [hs] at hO
      rw [List.take_length] at hkw ho
      subst hkw
      obtain ⟨d0, d1, df0, df1, dlt⟩ := two_cells hR
      have HC : Hid (_ ∧ _) := ⟨bk_out (hO.new (by omega)) hR hbr (Nat.le_succ _), own_block ho (w' := set2 wr (w.heap.size + 1) (.slice p L.length c) (.slice q R.length m)) (fun b hb => set2_other (by have := (ho.lt b hb).1; omega))⟩
      clear ho hO hbr hs hX hR hs2 hsw hw1s hsz
      go_wp2
      exact bodyPost_ret (v := .tuple #[bkV (.slice p L.length c) (.slice q R.length m), .slice pw (wokenL L).length cw, .int .i64 0]) (results_ctt Try.results16 rfl rfl rfl (load_bk HC.out.1.1)) rfl ⟨p, c, q, m, pw, cw, by simp only [List.length_map], by simp only [List.length_map]; exact HC.out.1.2.1, rcAt_own HC.out.2, HC.out.1.2.2⟩
end Go.Proofs.Ytlpedligkofegaa.Walks
