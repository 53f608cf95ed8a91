/-
  A book at work is changed: retire. Condition: the lives may be.
-/
import Derived.Test.YtlpedligkofegaaPlace
import Derived.WalkKit
import Derived.ProofKit
import Derived.Handy
import Derived.LoopTactic
import Derived.Below
import Derived.Laws.BitsAllLaws
import Derived.RegionTactic
import Derived.Deep.RegionHeld3
import Derived.Deep.DrawnRows
import Derived.Deep.AppendLies
import Derived.Laws.OwnMore
import Derived.Deep.Onto
import Derived.Deep.QuietTactic
import Derived.BigQuiet
namespace Go.Proofs.Ytlpedligkofegaa.Walks
open Go.RowKit
set_option linter.unusedVariables false
set_option linter.unusedSimpArgs false
attribute [local go_sem ↓] Go.wp_at_zero Go.wp_at_succ

/-- What has turned of a world's blocks is in a set. -/
structure Kept (S : Nat → Prop) (w w' : World) : Prop where
  os : w'.os = w.os
  tape : w'.tape = w.tape
  output : w'.output = w.output
  size : w.heap.size ≤ w'.heap.size
  block : ∀ g, g < w.heap.size → ¬ S g → w'.heap[g]? = w.heap[g]?

section
variable {S : Nat → Prop} {w w' w'' : World}

theorem kept_below (h : Below w.heap.size w w') : Kept S w w' := ⟨h.os, h.tape, h.output, h.size, fun g hg _ => h.block g hg⟩

theorem Kept.setCell (h : Kept S w w') {a : Addr} (ha : S a.block) (v : Value) : Kept S w (w'.setCell a v) :=
  ⟨h.os, h.tape, h.output, by simpa using h.size, fun g hg hs => (Below.heap_setCell _ _ _ _ (fun e => hs (by rw [e]; exact ha))).trans (h.block g hg hs)⟩

theorem Kept.alloc (h : Kept S w w') (o : Obj) : Kept S w (w'.alloc o) :=
  ⟨h.os, h.tape, h.output, by simpa using Nat.le_succ_of_le h.size, fun g hg hs => (Below.heap_alloc _ _ _ (Nat.lt_of_lt_of_le hg h.size)).trans (h.block g hg hs)⟩

theorem Kept.drew (h : Kept S w w') : Kept S w w'.drew := ⟨h.os, h.tape, h.output, h.size, h.block⟩

theorem Kept.trans (h1 : Kept S w w') (h2 : Kept S w' w'') : Kept S w w'' :=
  ⟨h2.os.trans h1.os, h2.tape.trans h1.tape, h2.output.trans h1.output, Nat.le_trans h1.size h2.size, fun g hg hs => (h2.block g (Nat.lt_of_lt_of_le hg h1.size) hs).trans (h1.block g hg hs)⟩

theorem Kept.grown {row : Option Nat} (h : Kept S w w') (hg : w'.grownBy w'' row) (hr : ∀ g, row = some g → g < w.heap.size → S g) : Kept S w w'' :=
  ⟨hg.os.trans h.os, hg.tape.trans h.tape, hg.output.trans h.output, Nat.le_trans h.size hg.size, fun g hlt hs => (hg.block g (Nat.lt_of_lt_of_le hlt h.size) (fun e => hs (hr g e.symm hlt))).trans (h.block g hlt hs)⟩

theorem Kept.below (h : Kept S w w') {B : Nat} (hB : B ≤ w.heap.size) (hS : ∀ g, S g → B ≤ g) : Below B w w' :=
  ⟨h.os, h.tape, h.output, h.size, fun g hg => h.block g (Nat.lt_of_lt_of_le hg hB) (fun hs => by have := hS g hs; omega)⟩

theorem Kept.box (h : Kept S w w') {g : Nat} {o : Obj} (hg : w.heap[g]? = some o) (hs : ¬ S g) : w'.heap[g]? = some o := (h.block g (Array.getElem?_eq_some_iff.1 hg).1 hs).trans hg
end

/-- What may turn, where the lives of a book at work are changed. -/
def Mine (T : Nat) (v : Value) (g : Nat) : Prop := g = T ∨ v.ownBlock = some g

theorem Opn.put {base : Nat} {W : World} {T g n c : Nat} {vb : Value} {L : List Lf} {R : List Rq} (h : Opn base W T (.slice (some ⟨g, 0, none⟩) n c) vb L R) {i j : Nat} (hi : i < L.length) (hj : j < 6) (a : Int) (y : Lf) (hy : lfC y = (lfC L[i]).set j a) :
    Opn base (W.setCell ⟨g, i * 6 + j, none⟩ (.int .i64 a)) T (.slice (some ⟨g, 0, none⟩) n c) vb (L.set i y) R := by
  have hg : g ≠ T := fun e => h.offL (by rw [e]; rfl)
  have hn : n = L.length := by
    rcases h.lives.2 with ⟨e, _⟩ | ⟨g', cap, cur, e, _⟩
    · cases e
    · injection e
  refine ⟨(Below.heap_setCell _ _ _ _ (fun e => hg e.symm)).trans h.box, ?_, own_block h.reqs (fun b hb => Below.heap_setCell _ _ _ _ (fun e => h.apart g rfl (by rw [hb, e]))), h.offL, h.offR, h.apart, h.hT⟩
  rw [List.length_set, ← hn]
  have hl := h.lives
  rw [← hn] at hl
  exact own_put lf6 hl hi hj a y hy

theorem Opn.drew {base : Nat} {W : World} {T : Nat} {va vb : Value} {L : List Lf} {R : List Rq} (h : Opn base W T va vb L R) : Opn base W.drew T va vb L R := ⟨h.box, h.lives, h.reqs, h.offL, h.offR, h.apart, h.hT⟩

theorem retire_end {base : Nat} {W : World} {T g n c : Nat} {vb : Value} {L : List Lf} {R : List Rq} {i : Nat} {x1 s x3 x4 x5 x6 : Int} (h : Opn base W T (.slice (some ⟨g, 0, none⟩) n c) vb (L.set i (x1, s, x3, x4, x5, x6)) R) (hi : i < L.length) (u id : Int) :
    Opn base ((W.setCell ⟨g, i * 6 + 4, none⟩ (.int .i64 u)).setCell ⟨g, i * 6 + 5, none⟩ (.int .i64 id)) T (.slice (some ⟨g, 0, none⟩) n c) vb (L.set i (x1, s, x3, x4, u, id)) R ∧
    Opn base ((W.setCell ⟨g, i * 6 + 5, none⟩ (.int .i64 id)).setCell ⟨g, i * 6 + 4, none⟩ (.int .i64 u)) T (.slice (some ⟨g, 0, none⟩) n c) vb (L.set i (x1, s, x3, x4, u, id)) R := by
  constructor
  · have h2 := h.put (i := i) (by simpa using hi) (j := 4) (by omega) u (x1, s, x3, x4, u, x6) (by simp)
    have h3 := h2.put (i := i) (by simpa using hi) (j := 5) (by omega) id (x1, s, x3, x4, u, id) (by simp)
    simpa using h3
  · have h2 := h.put (i := i) (by simpa using hi) (j := 5) (by omega) id (x1, s, x3, x4, x5, id) (by simp)
    have h3 := h2.put (i := i) (by simpa using hi) (j := 4) (by omega) u (x1, s, x3, x4, u, id) (by simp)
    simpa using h3

set_option maxHeartbeats 8000000 in
set_option maxRecDepth 100000 in
theorem retire_any (base T : Nat) (p : Option Addr) (c : Nat) (q : Option Addr) (m : Nat) (L : List Lf) (R : List Rq) (r1 r2 r3 r4 r5 u : Int) (w : World) (h : Opn base w T (.slice p L.length c) (.slice q R.length m) L R) (hok : LsOk L) (L' : List Lf) (e : Int) (hout : retireO L r3 r1 u = (L', e)) :
    Calls Try.prog 46 #[.pointer (some ⟨T, 0, none⟩), rqV r1 r2 r3 r4 r5, .int .i64 u] w fun r w' => r = .returned (.int .i64 e) ∧ Opn base w' T (.slice p L.length c) (.slice q R.length m) L' R ∧ Kept (Mine T (.slice p L.length c)) w w' := by
  obtain ⟨W0, hW0⟩ : ∃ W0, W0 = w.alloc (rqO r1 r2 r3 r4 r5) := ⟨_, rfl⟩
  have hB0 : Below w.heap.size w W0 := by rw [hW0]; exact below_new _
  have hR0 : W0.heap[w.heap.size]? = some (rqO r1 r2 r3 r4 r5) := by rw [hW0]; exact heap_alloc_new _ _
  have hO := h.below hB0
  have H : Hid (_ ∧ _ ∧ _ ∧ _) := ⟨hW0, hO, hB0, hR0⟩
  clear hW0 hB0 hR0 hO
  cases hh : here L r3
  · have hE : L' = L ∧ e = 8 := by
      unfold retireO at hout
      rw [hh] at hout
      injection hout with h1 h2
      exact ⟨h1.symm, h2.symm⟩
    obtain ⟨rfl, rfl⟩ := hE
    have HL : Hid (∀ W, Below W0.heap.size W0 W → _) := fun W hW => life_no base T p c q m L' R r3 W (H.out.2.1.below hW) hh
    clear h hout hh hok
    go_enter Try.func46, Try.ntmps46
    go_wp2_with fail
    rw [← H.out.1]
    refine (HL.out _ (Below.refl _ _)).mono ?_
    rintro r w1 ⟨rfl, hb1⟩
    have HB : Hid (_ ∧ _) := ⟨H.out.2.1.below hb1, kept_below (S := Mine T (.slice p L'.length c)) (H.out.2.2.1.trans (hb1.mono H.out.2.2.1.size))⟩
    clear hb1
    go_wp2
    go_ret
    exact ⟨rfl, HB.out.1, HB.out.2⟩
  · obtain ⟨i, hi⟩ : ∃ i, i = pos L r3 := ⟨_, rfl⟩
    have hlti : i < L.length := by rw [hi]; exact here_lt hh
    obtain ⟨g, c', he, _, hglt⟩ := h.lives.form (by omega)
    cases he
    obtain ⟨⟨x1, x2, x3, x4, x5, x6⟩, hx⟩ : ∃ x, x = L[i] := ⟨_, rfl⟩
    have hst : x2 = 1 ∨ x2 = 2 ∨ x2 = 3 ∨ x2 = 4 := by
      have := (hok.1 _ (List.getElem_mem hlti)).2
      rw [← hx] at this
      rcases this with h | h | h | h
      · exact .inl h.1
      · exact .inr (.inl h.1)
      · exact .inr (.inr (.inl h))
      · exact .inr (.inr (.inr h))
    have hout2 : (if x2 = 4 then (L, (8 : Int)) else if x2 = 3 then (L, 12) else (L.set i (x1, if x2 = 2 then 3 else 4, x3, x4, u, r1), 0)) = (L', e) := by
      rw [← hout]
      unfold retireO
      rw [hh, if_pos rfl, ← hi, List.getElem?_eq_getElem hlti, Option.getD_some, ← hx]
      rfl
    have HL : Hid (∀ W, Below W0.heap.size W0 W → _) := fun W hW => life_yes base T g c q m L R r3 W (H.out.2.1.below hW) hh i hi
    have HX : Hid (_ ∧ _) := ⟨hx, hlti⟩
    clear h hout hh hok hi hx
    rcases hst with rfl | rfl | rfl | rfl
    · obtain ⟨rfl, rfl⟩ : L' = L.set i (x1, 4, x3, x4, u, r1) ∧ e = 0 := by
        rw [if_neg (by decide), if_neg (by decide)] at hout2
        injection hout2 with h1 h2
        exact ⟨h1.symm, h2.symm⟩
      clear hout2
      go_enter Try.func46, Try.ntmps46
      go_wp2_with fail
      rw [← H.out.1]
      refine (HL.out _ (Below.refl _ _)).mono ?_
      rintro r w1 ⟨rfl, hb1⟩
      have hO := H.out.2.1.below hb1
      have e1 := own_cell lf6 hO.lives rfl hlti (j := 1) (by omega)
      have e4 := own_cell lf6 hO.lives rfl hlti (j := 4) (by omega)
      have e5 := own_cell lf6 hO.lives rfl hlti (j := 5) (by omega)
      rw [← HX.out.1] at e1 e4 e5
      simp only [List.getElem?_cons_zero, List.getElem?_cons_succ, Option.map_some, Nat.add_zero] at e1 e4 e5
      have f1 := hO.lives.frozenAt (i * 6 + 1)
      have f4 := hO.lives.frozenAt (i * 6 + 4)
      have f5 := hO.lives.frozenAt (i * 6 + 5)
      obtain ⟨d0, d1, d2, d3, d4, dlt⟩ := five_cells (box_below H.out.2.2.2 hb1)
      have hgw : g ≠ w.heap.size := by omega
      have HB : Hid (_ ∧ _) := ⟨hO, kept_below (S := Mine T (.slice (some ⟨g, 0, none⟩) L.length c)) (H.out.2.2.1.trans (hb1.mono H.out.2.2.1.size))⟩
      clear hb1 hO
      obtain ⟨W2, hW2⟩ : ∃ W2, W2 = w1.setCell ⟨g, i * 6 + 1, none⟩ (.int .i64 4) := ⟨_, rfl⟩
      have hO2 : Opn base W2 T (.slice (some ⟨g, 0, none⟩) L.length c) (.slice q R.length m) (L.set i (x1, 4, x3, x4, x5, x6)) R := by rw [hW2]; exact HB.out.1.put hlti (j := 1) (by omega) 4 (x1, 4, x3, x4, x5, x6) (by rw [← HX.out.1]; rfl)
      have k0 : W2.cell? ⟨w.heap.size, 0, none⟩ = some (.int .i64 r1) := by rw [hW2]; exact (World.cell?_of_block (Below.heap_setCell _ _ _ _ (fun e => hgw e.symm))).trans d0
      have hl2 : (L.set i (x1, 4, x3, x4, x5, x6)).length = L.length := List.length_set
      have hL2 := hO2.lives
      rw [hl2] at hL2
      have k4 := own_cell lf6 hL2 hl2.symm (i := i) (by rw [hl2]; exact hlti) (j := 4) (by omega)
      have k5 := own_cell lf6 hL2 hl2.symm (i := i) (by rw [hl2]; exact hlti) (j := 5) (by omega)
      simp only [List.getElem_set_self, List.getElem?_cons_zero, List.getElem?_cons_succ, Option.map_some, Nat.add_zero] at k4 k5
      have l4 : W2.frozen? ⟨g, i * 6 + 4, none⟩ = false := hL2.frozenAt (i * 6 + 4)
      have l5 : W2.frozen? ⟨g, i * 6 + 5, none⟩ = false := hL2.frozenAt (i * 6 + 5)
      have H2 : Hid (_ ∧ _) := ⟨hO2, hW2 ▸ HB.out.2.setCell (a := ⟨g, i * 6 + 1, none⟩) (.inr rfl) (.int .i64 4)⟩
      clear hO2 hl2 hL2
      go_wp2
      rw [← hW2]
      clear hW2 e1 e4 e5 f1 f4 f5 d0 d1 d2 d3 d4
      go_region
      all_goals
        go_wp2
        go_ret
        refine ⟨rfl, ?_, ?_⟩
        · first
          | with_reducible exact (retire_end H2.out.1 hlti u r1).1.drew
          | with_reducible exact (retire_end H2.out.1 hlti u r1).2.drew
        · first
          | exact ((H2.out.2.setCell (a := ⟨g, i * 6 + 4, none⟩) (Or.inr rfl) _).setCell (a := ⟨g, i * 6 + 5, none⟩) (Or.inr rfl) _).drew
          | exact ((H2.out.2.setCell (a := ⟨g, i * 6 + 5, none⟩) (Or.inr rfl) _).setCell (a := ⟨g, i * 6 + 4, none⟩) (Or.inr rfl) _).drew
    · obtain ⟨rfl, rfl⟩ : L' = L.set i (x1, 3, x3, x4, u, r1) ∧ e = 0 := by
        rw [if_neg (by decide), if_neg (by decide)] at hout2
        injection hout2 with h1 h2
        exact ⟨h1.symm, h2.symm⟩
      clear hout2
      go_enter Try.func46, Try.ntmps46
      go_wp2_with fail
      rw [← H.out.1]
      refine (HL.out _ (Below.refl _ _)).mono ?_
      rintro r w1 ⟨rfl, hb1⟩
      have hO := H.out.2.1.below hb1
      have e1 := own_cell lf6 hO.lives rfl hlti (j := 1) (by omega)
      have e4 := own_cell lf6 hO.lives rfl hlti (j := 4) (by omega)
      have e5 := own_cell lf6 hO.lives rfl hlti (j := 5) (by omega)
      rw [← HX.out.1] at e1 e4 e5
      simp only [List.getElem?_cons_zero, List.getElem?_cons_succ, Option.map_some, Nat.add_zero] at e1 e4 e5
      have f1 := hO.lives.frozenAt (i * 6 + 1)
      have f4 := hO.lives.frozenAt (i * 6 + 4)
      have f5 := hO.lives.frozenAt (i * 6 + 5)
      obtain ⟨d0, d1, d2, d3, d4, dlt⟩ := five_cells (box_below H.out.2.2.2 hb1)
      have hgw : g ≠ w.heap.size := by omega
      have HB : Hid (_ ∧ _) := ⟨hO, kept_below (S := Mine T (.slice (some ⟨g, 0, none⟩) L.length c)) (H.out.2.2.1.trans (hb1.mono H.out.2.2.1.size))⟩
      clear hb1 hO
      obtain ⟨W2, hW2⟩ : ∃ W2, W2 = w1.setCell ⟨g, i * 6 + 1, none⟩ (.int .i64 3) := ⟨_, rfl⟩
      have hO2 : Opn base W2 T (.slice (some ⟨g, 0, none⟩) L.length c) (.slice q R.length m) (L.set i (x1, 3, x3, x4, x5, x6)) R := by rw [hW2]; exact HB.out.1.put hlti (j := 1) (by omega) 3 (x1, 3, x3, x4, x5, x6) (by rw [← HX.out.1]; rfl)
      have k0 : W2.cell? ⟨w.heap.size, 0, none⟩ = some (.int .i64 r1) := by rw [hW2]; exact (World.cell?_of_block (Below.heap_setCell _ _ _ _ (fun e => hgw e.symm))).trans d0
      have hl2 : (L.set i (x1, 3, x3, x4, x5, x6)).length = L.length := List.length_set
      have hL2 := hO2.lives
      rw [hl2] at hL2
      have k4 := own_cell lf6 hL2 hl2.symm (i := i) (by rw [hl2]; exact hlti) (j := 4) (by omega)
      have k5 := own_cell lf6 hL2 hl2.symm (i := i) (by rw [hl2]; exact hlti) (j := 5) (by omega)
      simp only [List.getElem_set_self, List.getElem?_cons_zero, List.getElem?_cons_succ, Option.map_some, Nat.add_zero] at k4 k5
      have l4 : W2.frozen? ⟨g, i * 6 + 4, none⟩ = false := hL2.frozenAt (i * 6 + 4)
      have l5 : W2.frozen? ⟨g, i * 6 + 5, none⟩ = false := hL2.frozenAt (i * 6 + 5)
      have H2 : Hid (_ ∧ _) := ⟨hO2, hW2 ▸ HB.out.2.setCell (a := ⟨g, i * 6 + 1, none⟩) (.inr rfl) (.int .i64 3)⟩
      clear hO2 hl2 hL2
      go_wp2
      rw [← hW2]
      clear hW2 e1 e4 e5 f1 f4 f5 d0 d1 d2 d3 d4
      go_region
      all_goals
        go_wp2
        go_ret
        refine ⟨rfl, ?_, ?_⟩
        · first
          | with_reducible exact (retire_end H2.out.1 hlti u r1).1.drew
          | with_reducible exact (retire_end H2.out.1 hlti u r1).2.drew
        · first
          | exact ((H2.out.2.setCell (a := ⟨g, i * 6 + 4, none⟩) (Or.inr rfl) _).setCell (a := ⟨g, i * 6 + 5, none⟩) (Or.inr rfl) _).drew
          | exact ((H2.out.2.setCell (a := ⟨g, i * 6 + 5, none⟩) (Or.inr rfl) _).setCell (a := ⟨g, i * 6 + 4, none⟩) (Or.inr rfl) _).drew
    · obtain ⟨rfl, rfl⟩ : L' = L ∧ e = 12 := by
        rw [if_neg (by decide), if_pos rfl] at hout2
        injection hout2 with h1 h2
        exact ⟨h1.symm, h2.symm⟩
      clear hout2
      go_enter Try.func46, Try.ntmps46
      go_wp2_with fail
      rw [← H.out.1]
      refine (HL.out _ (Below.refl _ _)).mono ?_
      rintro r w1 ⟨rfl, hb1⟩
      have hO := H.out.2.1.below hb1
      have e1 := own_cell lf6 hO.lives rfl hlti (j := 1) (by omega)
      have e4 := own_cell lf6 hO.lives rfl hlti (j := 4) (by omega)
      have e5 := own_cell lf6 hO.lives rfl hlti (j := 5) (by omega)
      rw [← HX.out.1] at e1 e4 e5
      simp only [List.getElem?_cons_zero, List.getElem?_cons_succ, Option.map_some, Nat.add_zero] at e1 e4 e5
      have f1 := hO.lives.frozenAt (i * 6 + 1)
      have f4 := hO.lives.frozenAt (i * 6 + 4)
      have f5 := hO.lives.frozenAt (i * 6 + 5)
      obtain ⟨d0, d1, d2, d3, d4, dlt⟩ := five_cells (box_below H.out.2.2.2 hb1)
      have hgw : g ≠ w.heap.size := by omega
      have HB : Hid (_ ∧ _) := ⟨hO, kept_below (S := Mine T (.slice (some ⟨g, 0, none⟩) L'.length c)) (H.out.2.2.1.trans (hb1.mono H.out.2.2.1.size))⟩
      clear hb1 hO
      go_wp2
      go_ret
      exact ⟨rfl, HB.out.1, HB.out.2⟩
    · obtain ⟨rfl, rfl⟩ : L' = L ∧ e = 8 := by
        rw [if_pos rfl] at hout2
        injection hout2 with h1 h2
        exact ⟨h1.symm, h2.symm⟩
      clear hout2
      go_enter Try.func46, Try.ntmps46
      go_wp2_with fail
      rw [← H.out.1]
      refine (HL.out _ (Below.refl _ _)).mono ?_
      rintro r w1 ⟨rfl, hb1⟩
      have hO := H.out.2.1.below hb1
      have e1 := own_cell lf6 hO.lives rfl hlti (j := 1) (by omega)
      have e4 := own_cell lf6 hO.lives rfl hlti (j := 4) (by omega)
      have e5 := own_cell lf6 hO.lives rfl hlti (j := 5) (by omega)
      rw [← HX.out.1] at e1 e4 e5
      simp only [List.getElem?_cons_zero, List.getElem?_cons_succ, Option.map_some, Nat.add_zero] at e1 e4 e5
      have f1 := hO.lives.frozenAt (i * 6 + 1)
      have f4 := hO.lives.frozenAt (i * 6 + 4)
      have f5 := hO.lives.frozenAt (i * 6 + 5)
      obtain ⟨d0, d1, d2, d3, d4, dlt⟩ := five_cells (box_below H.out.2.2.2 hb1)
      have hgw : g ≠ w.heap.size := by omega
      have HB : Hid (_ ∧ _) := ⟨hO, kept_below (S := Mine T (.slice (some ⟨g, 0, none⟩) L'.length c)) (H.out.2.2.1.trans (hb1.mono H.out.2.2.1.size))⟩
      clear hb1 hO
      go_wp2
      go_ret
      exact ⟨rfl, HB.out.1, HB.out.2⟩
end Go.Proofs.Ytlpedligkofegaa.Walks
