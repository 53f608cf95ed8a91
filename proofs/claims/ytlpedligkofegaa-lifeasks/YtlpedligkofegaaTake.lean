/-
  A book at work is changed: take. Condition: the book may be.
-/
import Derived.Test.YtlpedligkofegaaJoin
import Derived.WalkKit
import Derived.ProofKit
import Derived.Handy
import Derived.LoopTactic
import Derived.Below
import Derived.Laws.BitsAllLaws
import Derived.RegionTactic
import Derived.Deep.RegionHeld3
import Derived.Deep.DrawnRows
import Derived.Deep.AppendLies
import Derived.Laws.OwnMore
import Derived.Deep.Onto
import Derived.Deep.QuietTactic
import Derived.BigQuiet
namespace Go.Proofs.Ytlpedligkofegaa.Walks
open Go.RowKit
set_option linter.unusedVariables false
set_option linter.unusedSimpArgs false
attribute [local go_sem ↓] Go.wp_at_zero Go.wp_at_succ

theorem cell_far {w : World} {a b : Addr} {v u : Value} (h : w.cell? a = some v) (hne : a.block ≠ b.block) : (w.setCell b u).cell? a = some v :=
  (World.cell?_of_block (Below.heap_setCell w b u _ hne)).trans h

/-- A request is put behind the others. -/
theorem take_end {base : Nat} {W : World} {T : Nat} {va : Value} {q : Option Addr} {m : Nat} {L : List Lf} {R : List Rq} (h : Opn base W T va (.slice q R.length m) L R) (hbase : base ≤ W.heap.size) (hR : R.length ≤ 900) (x1 x2 x3 x4 x5 : Int) :
    ∃ g c' w5, (Builtin.append_ #[23, 23] 23 #[.slice q R.length m, .slice (some ⟨W.heap.size, 0, none⟩) 1 1]).run Try.prog ((W.alloc (rqO x1 x2 x3 x4 x5)).drew) = .ok (.slice (some ⟨g, 0, none⟩) (R.length + 1) c') w5 ∧
      (w5.cell? ⟨T, 1, none⟩ = some (.slice q R.length m) ∧ w5.frozen? ⟨T, 1, none⟩ = false) ∧
      Opn base (w5.setCell ⟨T, 1, none⟩ (.slice (some ⟨g, 0, none⟩) (R.length + 1) c')) T va (.slice (some ⟨g, 0, none⟩) (R.length + 1) c') L (R ++ [(x1, x2, x3, x4, x5)]) ∧
      (∀ b, b < W.heap.size → b ≠ T → (Value.slice q R.length m).ownBlock ≠ some b → (w5.setCell ⟨T, 1, none⟩ (.slice (some ⟨g, 0, none⟩) (R.length + 1) c')).heap[b]? = W.heap[b]?) ∧
      Below base W (w5.setCell ⟨T, 1, none⟩ (.slice (some ⟨g, 0, none⟩) (R.length + 1) c')) := by
  obtain ⟨g, c', w5, hr, ho, hg, hlies⟩ := append_oneR rq5 (by decide) Try.underlying23 infoRq rfl (w := W.drew) (base := base) h.drew.reqs hbase 23 (x1, x2, x3, x4, x5) #[.int .i64 x1, .int .i64 x2, .int .i64 x3, .int .i64 x4, .int .i64 x5] rfl (by omega) (by unfold maxLen; omega)
  have hgb : ∀ b, b < W.heap.size → (Value.slice q R.length m).ownBlock ≠ some b → w5.heap[b]? = W.heap[b]? := fun b hb hne => hg.block b hb (fun e => hne e.symm)
  have hT5 : w5.heap[T]? = some (.cells #[va, .slice q R.length m] 63 (0, 0)) := (hgb T h.lt h.offR).trans h.box
  have hTg : g ≠ T := by
    rcases hlies with e | e
    · exact fun e2 => h.offR (by rw [e, e2])
    · have := h.lt; exact fun e2 => by have e3 : W.heap.size < g := e; omega
  refine ⟨g, c', w5, hr, ⟨(two_cells hT5).2.1, (two_cells hT5).2.2.2.1⟩, ⟨?_, ?_, ?_, ?_, ?_, ?_, h.hT⟩, ?_, ?_⟩
  · exact heap_setCell_same w5 T 1 _ _ _ hT5
  · exact own_block (own_block h.lives (w' := w5) fun b hb => hgb b (h.lives.lt b hb).2 (h.apart b hb)) (fun b hb => Below.heap_setCell _ _ _ _ (fun e => h.offL (by rw [hb, e])))
  · rw [List.length_append, List.length_singleton]
    exact own_block ho (fun b hb => Below.heap_setCell _ _ _ _ (fun e => hTg (by cases hb; exact e)))
  · exact h.offL
  · intro e; cases e; exact hTg rfl
  · intro b hb e
    cases e
    rcases hlies with e2 | e2
    · exact h.apart g hb e2
    · have := (h.lives.lt g hb).2
      have e3 : W.heap.size < g := e2
      omega
  · intro b hb h1 h2
    rw [Below.heap_setCell _ _ _ _ h1]
    exact hgb b hb h2
  · refine Below.setCell ?_ h.hT _
    exact ⟨hg.os, hg.tape, hg.output, hg.size, fun b hb => hgb b (Nat.lt_of_lt_of_le hb hbase) (fun e => by have := (h.reqs.lt b e).1; omega)⟩

set_option maxHeartbeats 8000000 in
set_option maxRecDepth 100000 in
theorem take_any (base T : Nat) (p : Option Addr) (c : Nat) (q : Option Addr) (m : Nat) (L : List Lf) (R : List Rq) (r1 r2 r3 r4 r5 u : Int) (w : World) (hbase : base ≤ w.heap.size) (h : Opn base w T (.slice p L.length c) (.slice q R.length m) L R) (hok : LsOk L) (hlen : L.length ≤ 900) (hR : R.length ≤ 900) (L' : List Lf) (R' : List Rq) (e : Int) (hout : takeO L R (r1, r2, r3, r4, r5) u = ((L', R'), e)) :
    Calls Try.prog 33 #[.pointer (some ⟨T, 0, none⟩), rqV r1 r2 r3 r4 r5, .int .i64 u] w fun r w' => r = .returned (.int .i64 e) ∧ (∃ p' c' q' m', Opn base w' T (.slice p' L'.length c') (.slice q' R'.length m') L' R') ∧ Below base w w' := by
  have hTlt := h.lt
  obtain ⟨W0, hW0⟩ : ∃ W0, W0 = w.alloc (rqO r1 r2 r3 r4 r5) := ⟨_, rfl⟩
  have hB0 : Below w.heap.size w W0 := by rw [hW0]; exact below_new _
  have hR0 : W0.heap[w.heap.size]? = some (rqO r1 r2 r3 r4 r5) := by rw [hW0]; exact heap_alloc_new _ _
  have hO := h.below hB0
  have hvl : ∀ b, (Value.slice p L.length c).ownBlock = some b → b < w.heap.size := fun b e => (h.lives.lt b e).2
  have hvr : ∀ b, (Value.slice q R.length m).ownBlock = some b → b < w.heap.size := fun b e => (h.reqs.lt b e).2
  have hbl : ∀ b, Mine T (.slice p L.length c) b → base ≤ b := by
    rintro b (e | e)
    · rw [e]; exact h.hT
    · exact (h.lives.lt b e).1
  have hnm : ¬ Mine T (.slice p L.length c) w.heap.size := by
    rintro (e | e)
    · omega
    · have := hvl _ e; omega
  obtain ⟨a0, a1, a2, a3, a4, alt⟩ := five_cells hR0
  by_cases hk : r2 = 1
  · subst hk
    obtain ⟨⟨L1, e1⟩, hj⟩ : ∃ x, x = joinO L r3 r4 := ⟨_, rfl⟩
    obtain ⟨rfl, rfl, rfl⟩ : L' = L1 ∧ R' = R ++ [(r1, 1, r3, r4, e1)] ∧ e = e1 := by
      unfold takeO at hout
      rw [if_pos rfl] at hout
      simp only [← hj] at hout
      injection hout with h1 h2
      injection h1 with h1 h3
      exact ⟨h1.symm, h3.symm, h2.symm⟩
    have HJ : Hid _ := join_any base T p c q m L R r1 1 r3 r4 r5 W0 (Nat.le_trans hbase hB0.size) hO hlen L' e hj.symm
    have H : Hid (_ ∧ _ ∧ _ ∧ _ ∧ _ ∧ _) := ⟨hW0, hB0, hR0, hbl, hnm, hvl⟩
    have HV : Hid _ := hvr
    clear h hO hout hj hvl hvr hbl hnm hW0 hB0 hR0
    go_enter Try.func33, Try.ntmps33
    go_wp2_with fail
    rw [← H.out.1]
    refine Calls.mono HJ.out ?_
    rintro r w1 ⟨rfl, ⟨p', c', hO1, hnw⟩, hk1⟩
    have hOx : ∀ b, (Value.slice p' L'.length c').ownBlock = some b → b = w.heap.size → False := fun b hb e => by
      rcases hnw b hb with h | h
      · have := H.out.2.2.2.2.2 b h; omega
      · omega
    have hR1 := hk1.box H.out.2.2.1 H.out.2.2.2.2.1
    clear a0 a1 a2 a3 a4 alt
    obtain ⟨a0, a1, a2, a3, a4, alt⟩ := five_cells hR1
    have a4f : w1.frozen? ⟨w.heap.size, 4, none⟩ = false := by simp [World.frozen?, hR1]
    obtain ⟨w2, hw2⟩ : ∃ w2, w2 = w1.setCell ⟨w.heap.size, 4, none⟩ (.int .i64 e) := ⟨_, rfl⟩
    have HB : Hid (Opn base w2 T (.slice p' L'.length c') (.slice q R.length m) L' R ∧ w2.heap[w.heap.size]? = some (rqO r1 1 r3 r4 e) ∧ Below base w w2) := by
      rw [hw2]
      refine ⟨?_, heap_setCell_same w1 w.heap.size 4 _ _ _ hR1, ?_⟩
      · refine ⟨(Below.heap_setCell _ _ _ _ (by show T ≠ w.heap.size; omega)).trans hO1.box, own_block hO1.lives (fun b hb => Below.heap_setCell _ _ _ _ (fun e => hOx b hb e)), own_block hO1.reqs (fun b hb => Below.heap_setCell _ _ _ _ (fun e => by have := HV.out b hb; have e : b = w.heap.size := e; omega)), hO1.offL, hO1.offR, hO1.apart, hO1.hT⟩
      · exact ((H.out.2.1.mono hbase).trans (hk1.below (Nat.le_trans hbase H.out.2.1.size) H.out.2.2.2.1)).setCell hbase _
    clear hO1 hk1 hR1 hOx hnw
    have hb2 : w2.heap[w.heap.size]? = some (rqO r1 1 r3 r4 e) := HB.out.2.1
    obtain ⟨g, c5, w5, hr, ⟨hc5, hf5⟩, hO5, hk5, hB5⟩ := take_end HB.out.1 (Nat.le_trans hbase HB.out.2.2.size) hR r1 1 r3 r4 e
    have hb6 := (hk5 w.heap.size (Array.getElem?_eq_some_iff.1 hb2).1 (by omega) (fun e => by have := HV.out _ e; omega)).trans hb2
    obtain ⟨a0, a1, a2, a3, a4, alt⟩ := five_cells hb2
    obtain ⟨i0, i1, i2, i3, i4, ilt⟩ := five_cells hb6
    obtain ⟨t0, t1, _, _, tlt⟩ := two_cells HB.out.1.box
    have HR : Hid (_ ∧ _ ∧ _) := ⟨hr, hO5, HB.out.2.2.trans hB5⟩
    clear hr hO5 hk5 hB5 hb2 hb6
    go_wp2
    rw [← hw2]
    clear hw2 a4f
    go_region_law (first | (refine step_append_eq (by rfl) _ _ 23 (by rfl) _ _ _ _ (by rfl) (by rfl) HR.out.1 ?_))
    all_goals
      go_wp2
      go_ret
      exact ⟨rfl, ⟨_, _, some ⟨g, 0, none⟩, c5, by rw [List.length_append, List.length_singleton]; exact HR.out.2.1⟩, HR.out.2.2⟩
  · obtain ⟨⟨L1, e1⟩, hj⟩ : ∃ x, x = retireO L r3 r1 u := ⟨_, rfl⟩
    obtain ⟨rfl, rfl, rfl⟩ : L' = L1 ∧ R' = R ++ [(r1, r2, r3, 0, e1)] ∧ e = e1 := by
      unfold takeO at hout
      rw [if_neg hk] at hout
      simp only [← hj] at hout
      injection hout with h1 h2
      injection h1 with h1 h3
      exact ⟨h1.symm, h3.symm, h2.symm⟩
    have hkb : (r2 == 1) = false := by simpa using hk
    obtain ⟨W1, hW1⟩ : ∃ W1, W1 = w.alloc (rqO r1 r2 r3 0 r5) := ⟨_, rfl⟩
    have hR1 : W1.heap[w.heap.size]? = some (rqO r1 r2 r3 0 r5) := by rw [hW1]; exact heap_alloc_new _ _
    have hB1 : Below w.heap.size w W1 := by rw [hW1]; exact below_new _
    have hO1 := h.below hB1
    have HJ : Hid _ := retire_any base T p c q m L R r1 r2 r3 0 r5 u W1 hO1 hok L' e hj.symm
    have H : Hid (_ ∧ _ ∧ _ ∧ _ ∧ _ ∧ _ ∧ _) := ⟨hW0, hB1, hR1, hbl, hnm, hW1, hvl⟩
    have HV : Hid _ := hvr
    have hlL : L'.length = L.length := by
      have : (retireO L r3 r1 u).1.length = L.length := by
        unfold retireO
        split
        · split
          · rfl
          · split
            · rfl
            · simp
        · rfl
      rw [← hj] at this
      exact this
    clear h hO hout hj hvl hvr hbl hnm hW0 hB0 hR0 hO1 hB1 hR1
    go_enter Try.func33, Try.ntmps33
    go_wp2_with fail
    rw [← hW1]
    refine Calls.mono HJ.out ?_
    rintro r w1 ⟨rfl, hO1, hk1⟩
    have hR1 := hk1.box H.out.2.2.1 H.out.2.2.2.2.1
    clear a0 a1 a2 a3 a4 alt hW1
    obtain ⟨a0, a1, a2, a3, a4, alt⟩ := five_cells hR1
    have a4f : w1.frozen? ⟨w.heap.size, 4, none⟩ = false := by simp [World.frozen?, hR1]
    obtain ⟨w2, hw2⟩ : ∃ w2, w2 = w1.setCell ⟨w.heap.size, 4, none⟩ (.int .i64 e) := ⟨_, rfl⟩
    have HB : Hid (Opn base w2 T (.slice p L'.length c) (.slice q R.length m) L' R ∧ w2.heap[w.heap.size]? = some (rqO r1 r2 r3 0 e) ∧ Below base w w2) := by
      rw [hw2, hlL]
      refine ⟨?_, heap_setCell_same w1 w.heap.size 4 _ _ _ hR1, ?_⟩
      · refine ⟨(Below.heap_setCell _ _ _ _ (by show T ≠ w.heap.size; omega)).trans hO1.box, own_block hO1.lives (fun b hb => Below.heap_setCell _ _ _ _ (fun e => by have := H.out.2.2.2.2.2.2 b hb; have e : b = w.heap.size := e; omega)), own_block hO1.reqs (fun b hb => Below.heap_setCell _ _ _ _ (fun e => by have := HV.out b hb; have e : b = w.heap.size := e; omega)), hO1.offL, hO1.offR, hO1.apart, hO1.hT⟩
      · exact ((H.out.2.1.mono hbase).trans (hk1.below (Nat.le_trans hbase H.out.2.1.size) H.out.2.2.2.1)).setCell hbase _
    clear hO1 hk1 hR1
    have hb2 : w2.heap[w.heap.size]? = some (rqO r1 r2 r3 0 e) := HB.out.2.1
    obtain ⟨g, c5, w5, hr, ⟨hc5, hf5⟩, hO5, hk5, hB5⟩ := take_end HB.out.1 (Nat.le_trans hbase HB.out.2.2.size) hR r1 r2 r3 0 e
    have hb6 := (hk5 w.heap.size (Array.getElem?_eq_some_iff.1 hb2).1 (by omega) (fun e => by have := HV.out _ e; omega)).trans hb2
    obtain ⟨a0, a1, a2, a3, a4, alt⟩ := five_cells hb2
    obtain ⟨i0, i1, i2, i3, i4, ilt⟩ := five_cells hb6
    obtain ⟨t0, t1, _, _, tlt⟩ := two_cells HB.out.1.box
    have HR : Hid (_ ∧ _ ∧ _) := ⟨hr, hO5, HB.out.2.2.trans hB5⟩
    clear hr hO5 hk5 hB5 hb2 hb6
    go_wp2
    rw [← hw2]
    clear hw2 a4f
    go_region_law (first | (refine step_append_eq (by rfl) _ _ 23 (by rfl) _ _ _ _ (by rfl) (by rfl) HR.out.1 ?_))
    all_goals
      go_wp2
      go_ret
      exact ⟨rfl, ⟨_, _, some ⟨g, 0, none⟩, c5, by rw [List.length_append, List.length_singleton]; exact HR.out.2.1⟩, HR.out.2.2⟩
end Go.Proofs.Ytlpedligkofegaa.Walks
