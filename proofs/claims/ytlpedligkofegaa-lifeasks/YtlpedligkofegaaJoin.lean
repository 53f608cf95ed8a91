/-
  A book at work is changed: join. Condition: the book may be.
-/
import Derived.Test.YtlpedligkofegaaRetire
import Derived.WalkKit
import Derived.ProofKit
import Derived.Handy
import Derived.LoopTactic
import Derived.Below
import Derived.Laws.BitsAllLaws
import Derived.RegionTactic
import Derived.Deep.RegionHeld3
import Derived.Deep.DrawnRows
import Derived.Deep.AppendLies
import Derived.Laws.OwnMore
import Derived.Deep.Onto
import Derived.Deep.QuietTactic
import Derived.BigQuiet
namespace Go.Proofs.Ytlpedligkofegaa.Walks
open Go.RowKit
set_option linter.unusedVariables false
set_option linter.unusedSimpArgs false
attribute [local go_sem ↓] Go.wp_at_zero Go.wp_at_succ

abbrev set6 (W : World) (g o : Nat) (a b c d e f : Value) : World := (((((W.setCell ⟨g, o, none⟩ a).setCell ⟨g, o + 1, none⟩ b).setCell ⟨g, o + 2, none⟩ c).setCell ⟨g, o + 3, none⟩ d).setCell ⟨g, o + 4, none⟩ e).setCell ⟨g, o + 5, none⟩ f

theorem Opn.put6 {base : Nat} {W : World} {T g n c : Nat} {vb : Value} {L : List Lf} {R : List Rq} (h : Opn base W T (.slice (some ⟨g, 0, none⟩) n c) vb L R) {i : Nat} (hi : i < L.length) (y1 y2 y3 y4 y5 y6 : Int) :
    Opn base (set6 W g (i * 6) (.int .i64 y1) (.int .i64 y2) (.int .i64 y3) (.int .i64 y4) (.int .i64 y5) (.int .i64 y6)) T (.slice (some ⟨g, 0, none⟩) n c) vb (L.set i (y1, y2, y3, y4, y5, y6)) R := by
  obtain ⟨x1, x2, x3, x4, x5, x6, hx⟩ : ∃ x1 x2 x3 x4 x5 x6, L[i] = (x1, x2, x3, x4, x5, x6) := ⟨_, _, _, _, _, _, rfl⟩
  have h0 := h.put hi (j := 0) (by omega) y1 (y1, x2, x3, x4, x5, x6) (by rw [hx]; rfl)
  have h1 := h0.put (i := i) (by simpa using hi) (j := 1) (by omega) y2 (y1, y2, x3, x4, x5, x6) (by simp)
  have h2 := h1.put (i := i) (by simpa using hi) (j := 2) (by omega) y3 (y1, y2, y3, x4, x5, x6) (by simp)
  have h3 := h2.put (i := i) (by simpa using hi) (j := 3) (by omega) y4 (y1, y2, y3, y4, x5, x6) (by simp)
  have h4 := h3.put (i := i) (by simpa using hi) (j := 4) (by omega) y5 (y1, y2, y3, y4, y5, x6) (by simp)
  have h5 := h4.put (i := i) (by simpa using hi) (j := 5) (by omega) y6 (y1, y2, y3, y4, y5, y6) (by simp)
  simpa only [List.set_set, Nat.add_zero] using h5

theorem Kept.put {S : Nat → Prop} {w w' : World} (h : Kept S w w') {g o : Nat} (hg : g < w.heap.size → S g) (v : Value) : Kept S w (w'.setCell ⟨g, o, none⟩ v) :=
  ⟨h.os, h.tape, h.output, by simpa using h.size, fun b hb hs => (Below.heap_setCell _ _ _ _ (fun e => hs (by rw [e]; exact hg (by rw [e] at hb; exact hb)))).trans (h.block b hb hs)⟩

theorem Kept.set6 {S : Nat → Prop} {w W : World} (h : Kept S w W) {g o : Nat} (hg : g < w.heap.size → S g) (a b c d e f : Value) : Kept S w (set6 W g o a b c d e f) :=
  (((((h.put hg _).put hg _).put hg _).put hg _).put hg _).put hg _

theorem set6_other {W : World} {g o k : Nat} {a b c d e f : Value} (h : k ≠ g) : (set6 W g o a b c d e f).heap[k]? = W.heap[k]? := by
  unfold Walks.set6
  rw [Below.heap_setCell _ _ _ _ h, Below.heap_setCell _ _ _ _ h, Below.heap_setCell _ _ _ _ h, Below.heap_setCell _ _ _ _ h, Below.heap_setCell _ _ _ _ h, Below.heap_setCell _ _ _ _ h]

theorem Opn.alloc {base : Nat} {W : World} {T : Nat} {va vb : Value} {L : List Lf} {R : List Rq} (h : Opn base W T va vb L R) (o : Obj) : Opn base (W.alloc o) T va vb L R := h.below (below_new _)

theorem held_six {W : World} {T B g o : Nat} {v1 v2 v3 : Value} {a b c d e f : Value} (h1 : W.cell? ⟨T, 0, none⟩ = some v1) (h2 : W.cell? ⟨B, 2, none⟩ = some v2) (h3 : W.cell? ⟨B, 3, none⟩ = some v3) (hT : T ≠ g) (hB : B ≠ g) :
    (set6 W g o a b c d e f).cell? ⟨T, 0, none⟩ = some v1 ∧ (set6 W g o a b c d e f).cell? ⟨B, 2, none⟩ = some v2 ∧ (set6 W g o a b c d e f).cell? ⟨B, 3, none⟩ = some v3 :=
  ⟨(World.cell?_of_block (set6_other hT)).trans h1, (World.cell?_of_block (set6_other hB)).trans h2, (World.cell?_of_block (set6_other hB)).trans h3⟩

theorem held_new {W : World} {T B : Nat} {v1 v2 v3 : Value} {o : Obj} (h1 : W.cell? ⟨T, 0, none⟩ = some v1) (h2 : W.cell? ⟨B, 2, none⟩ = some v2) (h3 : W.cell? ⟨B, 3, none⟩ = some v3) :
    (W.alloc o).cell? ⟨T, 0, none⟩ = some v1 ∧ (W.alloc o).cell? ⟨B, 2, none⟩ = some v2 ∧ (W.alloc o).cell? ⟨B, 3, none⟩ = some v3 := by
  have hb := below_new W (o := o)
  exact ⟨(hb.cell (World.block_lt_of_cell? W _ h1)).trans h1, (hb.cell (World.block_lt_of_cell? W _ h2)).trans h2, (hb.cell (World.block_lt_of_cell? W _ h3)).trans h3⟩

theorem insAt_set {L : List Lf} {z y : Lf} {i : Nat} (hi : i ≤ L.length) : (insAt L z i).set i y = insAt L y i := by
  unfold insAt
  rw [List.set_append_right _ _ (by rw [List.length_take]; omega)]
  simp [List.length_take, Nat.min_eq_left hi]

theorem insAt_len {L : List Lf} {y : Lf} {i : Nat} (hi : i ≤ L.length) : (insAt L y i).length = L.length + 1 := by
  unfold insAt
  simp
  omega

set_option maxHeartbeats 8000000 in
set_option maxRecDepth 100000 in
theorem join_any (base T : Nat) (p : Option Addr) (c : Nat) (q : Option Addr) (m : Nat) (L : List Lf) (R : List Rq) (r1 r2 r3 r4 r5 : Int) (w : World) (hbase : base ≤ w.heap.size) (h : Opn base w T (.slice p L.length c) (.slice q R.length m) L R) (hlen : L.length ≤ 900) (L' : List Lf) (e : Int) (hout : joinO L r3 r4 = (L', e)) :
    Calls Try.prog 45 #[.pointer (some ⟨T, 0, none⟩), rqV r1 r2 r3 r4 r5] w fun r w' => r = .returned (.int .i64 e) ∧ (∃ p' c', Opn base w' T (.slice p' L'.length c') (.slice q R.length m) L' R ∧ ∀ b, (Value.slice p' L'.length c').ownBlock = some b → (Value.slice p L.length c).ownBlock = some b ∨ w.heap.size ≤ b) ∧ Kept (Mine T (.slice p L.length c)) w w' := by
  obtain ⟨W0, hW0⟩ : ∃ W0, W0 = w.alloc (rqO r1 r2 r3 r4 r5) := ⟨_, rfl⟩
  have hB0 : Below w.heap.size w W0 := by rw [hW0]; exact below_new _
  have hR0 : W0.heap[w.heap.size]? = some (rqO r1 r2 r3 r4 r5) := by rw [hW0]; exact heap_alloc_new _ _
  have hO := h.below hB0
  have hTlt := h.lt
  have H : Hid (_ ∧ _ ∧ _ ∧ _) := ⟨hW0, hO, hB0, hR0⟩
  obtain ⟨a0, a1, a2, a3, a4, alt⟩ := five_cells hR0
  clear hW0 hB0 hR0 hO
  cases h1 : decide (0 ≤ r3 ∧ r3 ≤ 11)
  case false =>
    obtain ⟨rfl, rfl⟩ : L' = L ∧ e = 2 := by
      unfold joinO at hout
      rw [if_pos (.inl (of_decide_eq_false h1))] at hout
      injection hout with h1 h2
      exact ⟨h1.symm, h2.symm⟩
    clear h hout
    go_enter Try.func45, Try.ntmps45
    go_wp2_with fail
    rw [← H.out.1]
    refine (isBackend_any _ _).mono ?_
    rw [h1]
    rintro r w1 ⟨rfl, rfl⟩
    go_wp2
    go_ret
    exact ⟨rfl, ⟨_, _, H.out.2.1, fun b hb => .inl hb⟩, kept_below H.out.2.2.1⟩
  cases h2 : decide (1 ≤ r4 ∧ r4 ≤ 8)
  case false =>
    obtain ⟨rfl, rfl⟩ : L' = L ∧ e = 2 := by
      unfold joinO at hout
      rw [if_pos (.inr (of_decide_eq_false h2))] at hout
      injection hout with h1 h2
      exact ⟨h1.symm, h2.symm⟩
    clear h hout
    go_enter Try.func45, Try.ntmps45
    go_wp2_with fail
    rw [← H.out.1]
    refine (isBackend_any _ _).mono ?_
    rw [h1]
    rintro r w1 ⟨rfl, rfl⟩
    go_wp2_with fail
    refine (isWeight_any _ _).mono ?_
    rw [h2]
    rintro r w1 ⟨rfl, rfl⟩
    go_wp2
    go_ret
    exact ⟨rfl, ⟨_, _, H.out.2.1, fun b hb => .inl hb⟩, kept_below H.out.2.2.1⟩
  have hout2 : (if here L r3 = true then (if (L[pos L r3]?.getD (0, 0, 0, 0, 0, 0)).2.1 = 4 then (L.set (pos L r3) (r3, 1, r4, 0, 0, 0), (0 : Int)) else (L, 7)) else (insAt L (r3, 1, r4, 0, 0, 0) (pos L r3), 0)) = (L', e) := by
    rw [← hout]
    unfold joinO
    rw [if_neg (c := ¬ (0 ≤ r3 ∧ r3 ≤ 11) ∨ ¬ (1 ≤ r4 ∧ r4 ≤ 8)) (by rintro (h | h); exact h (of_decide_eq_true h1); exact h (of_decide_eq_true h2))]
  clear hout
  obtain ⟨i, hi⟩ : ∃ i, i = pos L r3 := ⟨_, rfl⟩
  have hile : i ≤ L.length := by rw [hi]; exact pos_le L r3
  have hcap := (own_cap h.lives)
  obtain ⟨hc1, hc2⟩ := hcap
  have ent : ∀ b, b = here L r3 → Hid (∀ W, Below W0.heap.size W0 W → Calls Try.prog 47 #[.pointer (some ⟨T, 0, none⟩), .int .i64 r3] W fun r w' => r = .returned (.tuple #[.int .i64 i, .bool b]) ∧ Below W.heap.size W w') := fun b hb W hW => place_any base T p c q m L R r3 W (H.out.2.1.below hW) i b hi hb
  cases hh : here L r3
  case true =>
    have HP := ent true hh.symm
    have hlti : i < L.length := by rw [hi]; exact here_lt hh
    have hiI : (i : Int) < (L.length : Int) := by omega
    obtain ⟨g, c', he, _, hglt⟩ := h.lives.form (by omega)
    cases he
    obtain ⟨⟨x1, x2, x3, x4, x5, x6⟩, hx⟩ : ∃ x, x = L[i] := ⟨_, rfl⟩
    rw [hh, if_pos rfl, ← hi, List.getElem?_eq_getElem hlti, Option.getD_some, ← hx] at hout2
    have HX : Hid _ := hx
    have hgT : T ≠ g := fun e => h.offL (by rw [e]; rfl)
    clear h ent hh hi hx
    by_cases h4 : x2 = 4
    · subst h4
      obtain ⟨rfl, rfl⟩ : L' = L.set i (r3, 1, r4, 0, 0, 0) ∧ e = 0 := by
        rw [if_pos rfl] at hout2
        injection hout2 with h1 h2
        exact ⟨h1.symm, h2.symm⟩
      clear hout2
      go_enter Try.func45, Try.ntmps45
      go_wp2_with fail
      rw [← H.out.1]
      refine (isBackend_any _ _).mono ?_
      rw [h1]
      rintro r w1 ⟨rfl, rfl⟩
      go_wp2_with fail
      refine (isWeight_any _ _).mono ?_
      rw [h2]
      rintro r w1 ⟨rfl, rfl⟩
      go_wp2_with fail
      refine (HP.out _ (Below.refl _ _)).mono ?_
      rintro r w1 ⟨rfl, hb1⟩
      have hO := H.out.2.1.below hb1
      obtain ⟨b0, b1, _, _, hltT⟩ := two_cells hO.box
      clear a0 a1 a2 a3 a4 alt
      obtain ⟨a0, a1, a2, a3, a4, alt⟩ := five_cells (box_below H.out.2.2.2 hb1)
      have e0 := own_cell lf6 hO.lives rfl hlti (j := 0) (by omega)
      have e1 := own_cell lf6 hO.lives rfl hlti (j := 1) (by omega)
      have e2 := own_cell lf6 hO.lives rfl hlti (j := 2) (by omega)
      have e3 := own_cell lf6 hO.lives rfl hlti (j := 3) (by omega)
      have e4 := own_cell lf6 hO.lives rfl hlti (j := 4) (by omega)
      have e5 := own_cell lf6 hO.lives rfl hlti (j := 5) (by omega)
      rw [← HX.out] at e0 e1 e2 e3 e4 e5
      simp only [List.getElem?_cons_zero, List.getElem?_cons_succ, Option.map_some, Nat.add_zero] at e0 e1 e2 e3 e4 e5
      have f0 := hO.lives.frozenAt (i * 6)
      have f1 := hO.lives.frozenAt (i * 6 + 1)
      have f2 := hO.lives.frozenAt (i * 6 + 2)
      have f3 := hO.lives.frozenAt (i * 6 + 3)
      have f4 := hO.lives.frozenAt (i * 6 + 4)
      have f5 := hO.lives.frozenAt (i * 6 + 5)
      have hgB : w.heap.size ≠ g := by omega
      have hg1 : g < w1.heap.size := (hO.lives.lt g rfl).2
      have HB : Hid (_ ∧ _) := ⟨hO, kept_below (S := Mine T (.slice (some ⟨g, 0, none⟩) L.length c)) (H.out.2.2.1.trans (hb1.mono H.out.2.2.1.size))⟩
      clear hb1 hO
      go_upto_region 8 with fail
      go_region_with (first | (go_at_call 52; refine (joining_any _ _ _).mono ?_; rintro r w5 ⟨rfl, rfl⟩))
      all_goals
        go_wp2
        go_ret
        refine ⟨rfl, ⟨some ⟨g, 0, none⟩, c, ?_, fun b hb => .inl hb⟩, ?_⟩
        · rw [List.length_set]
          exact ((HB.out.1.put6 hlti r3 1 r4 0 0 0).alloc _).drew
        · exact ((HB.out.2.set6 (g := g) (fun _ => Or.inr rfl) _ _ _ _ _ _).alloc _).drew
    · obtain ⟨rfl, rfl⟩ : L' = L ∧ e = 7 := by
        rw [if_neg h4] at hout2
        injection hout2 with h1 h2
        exact ⟨h1.symm, h2.symm⟩
      have hne : (x2 != 4) = true := by simpa using h4
      clear hout2
      go_enter Try.func45, Try.ntmps45
      go_wp2_with fail
      rw [← H.out.1]
      refine (isBackend_any _ _).mono ?_
      rw [h1]
      rintro r w1 ⟨rfl, rfl⟩
      go_wp2_with fail
      refine (isWeight_any _ _).mono ?_
      rw [h2]
      rintro r w1 ⟨rfl, rfl⟩
      go_wp2_with fail
      refine (HP.out _ (Below.refl _ _)).mono ?_
      rintro r w1 ⟨rfl, hb1⟩
      have hO := H.out.2.1.below hb1
      obtain ⟨b0, b1, _, _, hltT⟩ := two_cells hO.box
      have e1 := own_cell lf6 hO.lives rfl hlti (j := 1) (by omega)
      rw [← HX.out] at e1
      simp only [List.getElem?_cons_zero, List.getElem?_cons_succ, Option.map_some, Nat.add_zero] at e1
      have HB : Hid (_ ∧ _) := ⟨hO, kept_below (S := Mine T (.slice (some ⟨g, 0, none⟩) L'.length c)) (H.out.2.2.1.trans (hb1.mono H.out.2.2.1.size))⟩
      clear hb1 hO
      go_wp2
      go_ret
      exact ⟨rfl, ⟨_, _, HB.out.1, fun b hb => .inl hb⟩, HB.out.2⟩
  case false =>
    have HP := ent false hh.symm
    obtain ⟨rfl, rfl⟩ : L' = insAt L (r3, 1, r4, 0, 0, 0) i ∧ e = 0 := by
      rw [hh, if_neg (by decide), ← hi] at hout2
      injection hout2 with h1 h2
      exact ⟨h1.symm, h2.symm⟩
    have hvlt : ∀ g, (Value.slice p L.length c).ownBlock = some g → g < w.heap.size := fun g e => (h.lives.lt g e).2
    have HVL : Hid _ := hvlt
    clear h ent hh hi hout2 hvlt
    go_enter Try.func45, Try.ntmps45
    go_wp2_with fail
    rw [← H.out.1]
    refine (isBackend_any _ _).mono ?_
    rw [h1]
    rintro r w1 ⟨rfl, rfl⟩
    go_wp2_with fail
    refine (isWeight_any _ _).mono ?_
    rw [h2]
    rintro r w1 ⟨rfl, rfl⟩
    go_wp2_with fail
    refine (HP.out _ (Below.refl _ _)).mono ?_
    rintro r w1 ⟨rfl, hb1⟩
    have hO := H.out.2.1.below hb1
    obtain ⟨b0, b1, _, _, hltT⟩ := two_cells hO.box
    have hw1T : w.heap.size < w1.heap.size := Nat.lt_of_lt_of_le alt hb1.size
    clear a0 a1 a2 a3 a4 alt
    have hbw := H.out.2.2.1.trans (hb1.mono H.out.2.2.1.size)
    obtain ⟨w2, hw2⟩ : ∃ w2, w2 = w1.alloc (lfO 0 0 0 0 0 0) := ⟨_, rfl⟩
    have hb2 : Below w1.heap.size w1 w2 := by rw [hw2]; exact below_new _
    have hz2 : w2.heap[w1.heap.size]? = some (lfO 0 0 0 0 0 0) := by rw [hw2]; exact heap_alloc_new _ _
    have hO2 := hO.below hb2
    have hbox2 := box_below (box_below H.out.2.2.2 hb1) hb2
    have hIns := insert_any base (.slice p L.length c) L (0, 0, 0, 0, 0, 0) #[.int .i64 0, .int .i64 0, .int .i64 0, .int .i64 0, .int .i64 0, .int .i64 0] rfl i w1.heap.size w2 hO2.lives (Nat.le_trans hbase (Nat.le_trans hbw.size hb2.size)) hile (fun e => by have := (hO.lives.lt _ e).2; omega) hz2 (by omega)
    have HB : Hid (_ ∧ _ ∧ _ ∧ _) := ⟨hO2, kept_below (S := Mine T (.slice p L.length c)) (hbw.trans (hb2.mono hbw.size)), hbox2, hIns⟩
    clear hb1 hO hb2 hz2 hO2 hbox2 hIns hbw
    go_wp2_with fail
    rw [← hw2]
    refine HB.out.2.2.2.mono ?_
    rintro r w3 ⟨g, cap, rfl, ho3, hg3, hlies⟩
    have hO2 := HB.out.1
    have hTg : T ≠ g := by
      rcases hlies with e | e
      · exact fun e2 => hO2.offL (by rw [e, e2])
      · have := hO2.lt; omega
    have hwg : w.heap.size ≠ g := by
      rcases hlies with e | e
      · have := HVL.out g e; omega
      · have := (Array.getElem?_eq_some_iff.1 HB.out.2.2.1).1; omega
    have hbox3 : w3.heap[T]? = some (.cells #[.slice p L.length c, .slice q R.length m] 63 (0, 0)) := (hg3.block T hO2.lt (fun e => hO2.offL e.symm)).trans hO2.box
    have hrq3 : w3.heap[w.heap.size]? = some (rqO r1 r2 r3 r4 r5) := (hg3.block _ (Array.getElem?_eq_some_iff.1 HB.out.2.2.1).1 (fun e => by have := HVL.out _ e.symm; omega)).trans HB.out.2.2.1
    obtain ⟨t0, t1, tf0, tf1, hlt3⟩ := two_cells hbox3
    obtain ⟨w4, hw4⟩ : ∃ w4, w4 = w3.setCell ⟨T, 0, none⟩ (.slice (some ⟨g, 0, none⟩) (L.length + 1) cap) := ⟨_, rfl⟩
    have hk4 : Kept (Mine T (.slice p L.length c)) w w4 := by
      rw [hw4]
      exact (HB.out.2.1.grown hg3 (fun b e _ => Or.inr e)).setCell (a := ⟨T, 0, none⟩) (Or.inl rfl) _
    have hO4 : Opn base w4 T (.slice (some ⟨g, 0, none⟩) (L.length + 1) cap) (.slice q R.length m) (insAt L (0, 0, 0, 0, 0, 0) i) R := by
      rw [hw4]
      refine ⟨?_, ?_, ?_, ?_, hO2.offR, ?_, hO2.hT⟩
      · exact heap_setCell_same w3 T 0 _ _ _ hbox3
      · rw [insAt_len hile]
        exact own_block ho3 (fun b hb => Below.heap_setCell _ _ _ _ (fun e => hTg (by cases hb; exact e.symm)))
      · refine own_block (own_block hO2.reqs (w' := w3) fun b hb => hg3.block b (hO2.reqs.lt b hb).2 (fun e => hO2.apart b e.symm hb)) (fun b hb => Below.heap_setCell _ _ _ _ (fun e => hO2.offR (by rw [hb, e])))
      · intro e; cases e; exact hTg rfl
      · intro b hb e
        cases hb
        rcases hlies with e2 | e2
        · exact hO2.apart _ e2 e
        · have := (hO2.reqs.lt g e).2; omega
    have hrq4 : w4.heap[w.heap.size]? = some (rqO r1 r2 r3 r4 r5) := by rw [hw4]; exact (Below.heap_setCell _ _ _ _ (by show w.heap.size ≠ T; omega)).trans hrq3
    obtain ⟨a0, a1, a2, a3, a4, alt⟩ := five_cells hrq4
    obtain ⟨b0', b1', _, _, hltT4⟩ := two_cells hO4.box
    have hil : i < (insAt L (0, 0, 0, 0, 0, 0) i).length := by rw [insAt_len hile]; omega
    have hlv := hO4.lives
    rw [insAt_len hile] at hlv
    have hcap4 := own_cap hlv
    obtain ⟨hcp1, hcp2⟩ := hcap4
    have e0 := own_cell lf6 hlv (insAt_len hile).symm hil (j := 0) (by omega)
    have e1 := own_cell lf6 hlv (insAt_len hile).symm hil (j := 1) (by omega)
    have e2 := own_cell lf6 hlv (insAt_len hile).symm hil (j := 2) (by omega)
    have e3 := own_cell lf6 hlv (insAt_len hile).symm hil (j := 3) (by omega)
    have e4 := own_cell lf6 hlv (insAt_len hile).symm hil (j := 4) (by omega)
    have e5 := own_cell lf6 hlv (insAt_len hile).symm hil (j := 5) (by omega)
    obtain ⟨⟨x1, x2, x3, x4, x5, x6⟩, hx⟩ : ∃ x, x = (insAt L (0, 0, 0, 0, 0, 0) i)[i] := ⟨_, rfl⟩
    rw [← hx] at e0 e1 e2 e3 e4 e5
    simp only [List.getElem?_cons_zero, List.getElem?_cons_succ, Option.map_some, Nat.add_zero] at e0 e1 e2 e3 e4 e5
    have f0 := hlv.frozenAt (i * 6)
    have f1 := hlv.frozenAt (i * 6 + 1)
    have f2 := hlv.frozenAt (i * 6 + 2)
    have f3 := hlv.frozenAt (i * 6 + 3)
    have f4 := hlv.frozenAt (i * 6 + 4)
    have f5 := hlv.frozenAt (i * 6 + 5)
    have hiI : (i : Int) < (L.length : Int) + 1 := by omega
    have hg4 : g < w4.heap.size := (hlv.lt g rfl).2
    have hmg : g < w.heap.size → Mine T (.slice p L.length c) g := fun hlt => by
      rcases hlies with e | e
      · exact Or.inr e
      · have := HB.out.2.1.size; omega
    have hnw : (Value.slice p L.length c).ownBlock = some g ∨ w.heap.size ≤ g := hlies.imp id (fun e => by have := HB.out.2.1.size; omega)
    have HC : Hid (_ ∧ _ ∧ _ ∧ _ ∧ _) := ⟨hO4, hk4, hil, hmg, hnw⟩
    clear hO2 hbox3 hrq3 hk4 hO4 hrq4 hil hlv hx ho3 hg3 hlies hmg hnw
    go_wp2
    rw [← hw4]
    clear hw4 hw2 t0 t1 tf0 tf1 hlt3
    go_region_with (first | (go_at_call 52; refine (joining_any _ _ _).mono ?_; rintro r w5 ⟨rfl, rfl⟩))
    all_goals
      go_wp2
      go_ret
      refine ⟨rfl, ⟨some ⟨g, 0, none⟩, cap, ?_, fun b hb => ?_⟩, ?_⟩
      · rw [insAt_len hile, ← insAt_set (z := (0, 0, 0, 0, 0, 0)) hile]
        exact ((HC.out.1.put6 HC.out.2.2.1 r3 1 r4 0 0 0).alloc _).drew
      · have hb : some g = some b := hb
        cases hb
        exact HC.out.2.2.2.2
      · exact ((HC.out.2.1.set6 (g := g) HC.out.2.2.2.1 _ _ _ _ _ _).alloc _).drew
end Go.Proofs.Ytlpedligkofegaa.Walks
