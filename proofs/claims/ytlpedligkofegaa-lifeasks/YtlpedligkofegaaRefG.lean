/-
  usherref.Asked. Condition: what is read can be read.
-/
import Derived.Test.YtlpedligkofegaaRefE
import Derived.WalkKit
import Derived.ProofKit
import Derived.Handy
import Derived.LoopTactic
import Derived.Below
import Derived.Laws.BitsAllLaws
import Derived.RegionTactic
import Derived.Deep.RegionHeld3
import Derived.Deep.DrawnRows
import Derived.Deep.AppendLies
import Derived.Laws.OwnMore
import Derived.Deep.Onto
import Derived.Deep.QuietTactic
import Derived.BigQuiet
namespace Go.Proofs.Ytlpedligkofegaa.Walks
open Go.RowKit
set_option linter.unusedVariables false
set_option linter.unusedSimpArgs false
attribute [local go_sem ↓] Go.wp_at_zero Go.wp_at_succ

/-- The boxes of Asked, and its copy of the book. -/
structure AS (w W : World) (base g : Nat) (x y : Value) (a1 a2 a3 a4 a5 : Int) (u v : Value) (L : List Lf) (R : List Rq) : Prop where
  b0 : W.heap[w.heap.size]? = some (bkO x y)
  b1 : W.heap[w.heap.size + 1]? = some (rqO a1 a2 a3 a4 a5)
  b2 : W.heap[w.heap.size + 1 + 1]? = some (bkO (.slice none 0 0) (.slice none 0 0))
  out : W.heap[g]? = some (bkO u v)
  own : Own2 base W u v L R
  offu : ∀ b, u.ownBlock = some b → b ≠ g
  offv : ∀ b, v.ownBlock = some b → b ≠ g
  bel : Below w.heap.size w W
  hb : w.heap.size + 1 + 1 < base
  hg : base ≤ g

section
variable {w W W' : World} {base g : Nat} {x y : Value} {a1 a2 a3 a4 a5 : Int} {u v : Value} {L : List Lf} {R : List Rq}

theorem AS.below (h : AS w W base g x y a1 a2 a3 a4 a5 u v L R) (hb : Below W.heap.size W W') : AS w W' base g x y a1 a2 a3 a4 a5 u v L R :=
  ⟨box_below h.b0 hb, box_below h.b1 hb, box_below h.b2 hb, box_below h.out hb, h.own.below hb, h.offu, h.offv, h.bel.trans (hb.mono h.bel.size), h.hb, h.hg⟩

theorem AS.drewN (h : AS w W base g x y a1 a2 a3 a4 a5 u v L R) (q : Nat) : AS w (W.drewN q) base g x y a1 a2 a3 a4 a5 u v L R := h.below (below_drewN (Below.refl _ _) q)

theorem AS.lt (h : AS w W base g x y a1 a2 a3 a4 a5 u v L R) : g < W.heap.size := (Array.getElem?_eq_some_iff.1 h.out).1

theorem AS.oth (h : AS w W base g x y a1 a2 a3 a4 a5 u v L R) {j : Nat} (z : Value) : ∀ b, b ≠ w.heap.size + 1 → (W.setCell ⟨w.heap.size + 1, j, none⟩ z).heap[b]? = W.heap[b]? := fun b hb => Below.heap_setCell _ _ _ _ hb

/-- The request's box is another. -/
theorem AS.req (h : AS w W base g x y a1 a2 a3 a4 a5 u v L R) {j : Nat} {z : Value} {c1 c2 c3 c4 c5 : Int} (hz : (W.setCell ⟨w.heap.size + 1, j, none⟩ z).heap[w.heap.size + 1]? = some (rqO c1 c2 c3 c4 c5)) : AS w (W.setCell ⟨w.heap.size + 1, j, none⟩ z) base g x y c1 c2 c3 c4 c5 u v L R := by
  have h1 := h.hb
  have h2 := h.hg
  refine ⟨(h.oth z _ (by omega)).trans h.b0, hz, (h.oth z _ (by omega)).trans h.b2, (h.oth z _ (by omega)).trans h.out, h.own.kept (fun b hb => h.oth z b ?_), h.offu, h.offv, below_set1 h.bel (by omega), h.hb, h.hg⟩
  rcases hb with e | e
  · have := (h.own.lives.lt b e).1; omega
  · have := (h.own.reqs.lt b e).1; omega

theorem AS.ans (h : AS w W base g x y a1 a2 a3 a4 a5 u v L R) (a : Int) : AS w (W.setCell ⟨w.heap.size + 1, 4, none⟩ (.int .i64 a)) base g x y a1 a2 a3 a4 a u v L R := h.req (heap_setCell_same W _ 4 _ _ _ h.b1)

theorem AS.wt (h : AS w W base g x y a1 a2 a3 a4 a5 u v L R) (a : Int) : AS w (W.setCell ⟨w.heap.size + 1, 3, none⟩ (.int .i64 a)) base g x y a1 a2 a3 a a5 u v L R := h.req (heap_setCell_same W _ 3 _ _ _ h.b1)

theorem AS.put {g' n c : Nat} (h : AS w W base g x y a1 a2 a3 a4 a5 (.slice (some ⟨g', 0, none⟩) n c) v L R) {i j : Nat} (hi : i < L.length) (hj : j < 6) (a : Int) (z : Lf) (hz : lfC z = (lfC L[i]).set j a) : AS w (W.setCell ⟨g', i * 6 + j, none⟩ (.int .i64 a)) base g x y a1 a2 a3 a4 a5 (.slice (some ⟨g', 0, none⟩) n c) v (L.set i z) R := by
  have h1 := h.hb
  have h3 := (h.own.lives.lt g' rfl).1
  have h4 := h.offu g' rfl
  have oth : ∀ b, b ≠ g' → (W.setCell ⟨g', i * 6 + j, none⟩ (.int .i64 a)).heap[b]? = W.heap[b]? := fun b hb => Below.heap_setCell _ _ _ _ hb
  exact ⟨(oth _ (by omega)).trans h.b0, (oth _ (by omega)).trans h.b1, (oth _ (by omega)).trans h.b2, (oth _ (fun e => h4 e.symm)).trans h.out, h.own.put hi hj a z hz, h.offu, h.offv, below_set1 h.bel (by omega), h.hb, h.hg⟩

theorem AS.cells (h : AS w W base g x y a1 a2 a3 a4 a5 u v L R) : (W.cell? ⟨w.heap.size, 0, none⟩ = some x ∧ W.cell? ⟨w.heap.size, 1, none⟩ = some y ∧ w.heap.size < W.heap.size) ∧ (W.cell? ⟨g, 0, none⟩ = some u ∧ W.cell? ⟨g, 1, none⟩ = some v ∧ W.frozen? ⟨g, 0, none⟩ = false ∧ W.frozen? ⟨g, 1, none⟩ = false ∧ g < W.heap.size) ∧ (W.frozen? ⟨w.heap.size + 1, 3, none⟩ = false ∧ W.frozen? ⟨w.heap.size + 1, 4, none⟩ = false) ∧ (W.cell? ⟨w.heap.size + 1 + 1, 0, none⟩ = some (.slice none 0 0) ∧ W.cell? ⟨w.heap.size + 1 + 1, 1, none⟩ = some (.slice none 0 0) ∧ W.frozen? ⟨w.heap.size + 1 + 1, 0, none⟩ = false ∧ W.frozen? ⟨w.heap.size + 1 + 1, 1, none⟩ = false ∧ w.heap.size + 1 + 1 < W.heap.size) := by
  obtain ⟨p0, p1, _, _, p2⟩ := two_cells h.b0
  obtain ⟨q0, q1, q2, q3, q4⟩ := two_cells h.b2
  exact ⟨⟨p0, p1, p2⟩, two_cells h.out, ⟨by simp [World.frozen?, h.b1], by simp [World.frozen?, h.b1]⟩, q0, q1, q2, q3, q4⟩

theorem AS.fin (h : AS w W base g x y a1 a2 a3 a4 a5 u v L R) : (set2 W (w.heap.size + 1 + 1) u v).heap[w.heap.size + 1 + 1]? = some (bkO u v) ∧ BkNew w.heap.size (set2 W (w.heap.size + 1 + 1) u v) u v L R ∧ Below w.heap.size w (set2 W (w.heap.size + 1 + 1) u v) :=
  bk_out (h.own.new h.hb) h.b2 h.bel (by omega)
end

/-- The request is put behind the others. -/
theorem as_take {w W : World} {base g : Nat} {x y : Value} {a1 a2 a3 a4 a5 : Int} {u : Value} {q : Option Addr} {n m : Nat} {L : List Lf} {R : List Rq} (h : AS w W base g x y a1 a2 a3 a4 a5 u (.slice q n m) L R) (hn : n = R.length) (hR : n ≤ 900) :
    ∃ g' c' w5, (Builtin.append_ #[23, 23] 23 #[.slice q n m, .slice (some ⟨W.heap.size, 0, none⟩) 1 1]).run Try.prog (W.alloc (rqO a1 a2 a3 a4 a5)) = .ok (.slice (some ⟨g', 0, none⟩) (n + 1) c') w5 ∧
      (w5.cell? ⟨g, 1, none⟩ = some (.slice q n m) ∧ w5.frozen? ⟨g, 1, none⟩ = false) ∧
      AS w (w5.setCell ⟨g, 1, none⟩ (.slice (some ⟨g', 0, none⟩) (n + 1) c')) base g x y a1 a2 a3 a4 a5 u (.slice (some ⟨g', 0, none⟩) (n + 1) c') L (R ++ [(a1, a2, a3, a4, a5)]) := by
  subst hn
  have hgl := h.lt
  have h1 := h.hb
  have h2 := h.hg
  obtain ⟨g', c', w5, hr, ho, hg, hlies⟩ := append_oneR rq5 (by decide) Try.underlying23 infoRq rfl h.own.reqs (by omega) 23 (a1, a2, a3, a4, a5) #[.int .i64 a1, .int .i64 a2, .int .i64 a3, .int .i64 a4, .int .i64 a5] rfl (by omega) (by unfold maxLen; omega)
  have hgb : ∀ b, b < W.heap.size → (Value.slice q R.length m).ownBlock ≠ some b → w5.heap[b]? = W.heap[b]? := fun b hb hne => hg.block b hb (fun e => hne e.symm)
  have hlow : ∀ b, b < base → w5.heap[b]? = W.heap[b]? := fun b hb => hgb b (by omega) (fun e => by have := (h.own.reqs.lt b e).1; omega)
  have hT5 : w5.heap[g]? = some (bkO u (.slice q R.length m)) := (hgb g hgl (fun e => h.offv g e rfl)).trans h.out
  have hgg : g' ≠ g := by
    rcases hlies with e | e
    · exact h.offv g' e
    · omega
  have hset : ∀ b, b ≠ g → (w5.setCell ⟨g, 1, none⟩ (.slice (some ⟨g', 0, none⟩) (R.length + 1) c')).heap[b]? = w5.heap[b]? := fun b hb => Below.heap_setCell _ _ _ _ hb
  refine ⟨g', c', w5, hr, ⟨(two_cells hT5).2.1, (two_cells hT5).2.2.2.1⟩, ⟨?_, ?_, ?_, ?_, ⟨?_, ?_, ?_⟩, h.offu, ?_, ?_, h.hb, h.hg⟩⟩
  · exact ((hset _ (by omega)).trans (hlow _ (by omega))).trans h.b0
  · exact ((hset _ (by omega)).trans (hlow _ (by omega))).trans h.b1
  · exact ((hset _ (by omega)).trans (hlow _ (by omega))).trans h.b2
  · exact heap_setCell_same w5 g 1 _ _ _ hT5
  · exact own_block h.own.lives (fun b hb => (hset b (h.offu b hb)).trans (hgb b (h.own.lives.lt b hb).2 (h.own.apart b hb)))
  · rw [List.length_append, List.length_singleton]
    exact own_block ho (fun b hb => hset b (by cases hb; exact hgg))
  · intro b hb e
    cases e
    rcases hlies with e2 | e2
    · exact h.own.apart g' hb e2
    · have := (h.own.lives.lt g' hb).2; omega
  · intro b hb
    cases hb
    exact hgg
  · refine below_set1 ?_ (by omega)
    exact ⟨hg.os.trans h.bel.os, hg.tape.trans h.bel.tape, hg.output.trans h.bel.output, Nat.le_trans h.bel.size hg.size, fun b hb => (hlow b (by omega)).trans (h.bel.block b hb)⟩

theorem old_found {R : List Rq} {id : Int} {k : Nat} (hk : k < R.length) (h1 : ∀ t ∈ R.take k, t.1 ≠ id) (h2 : R[k].1 = id) : oldAt R id = k :=
  findIdx_is hk (fun t ht => by simpa using h1 t ht) (by simpa using h2)

theorem no_old {R : List Rq} {id : Int} {n : Nat} (hn : n = R.length) (h : ∀ t ∈ R.take n, t.1 ≠ id) : ¬ oldAt R id < R.length := by
  intro hl
  rw [hn, List.take_length] at h
  have h2 : (R[oldAt R id].1 == id) = true := List.findIdx_getElem (xs := R) (p := fun (q : Rq) => q.1 == id) (w := hl)
  exact h _ (List.getElem_mem hl) (eq_of_beq h2)

/-- The book with a new life takes the place of the copy. -/
theorem AS.join {w W W7 : World} {base g : Nat} {x y : Value} {a1 a2 a3 a4 a5 : Int} {u v : Value} {L : List Lf} {R : List Rq} (h : AS w W base g x y a1 a2 a3 a4 a5 u v L R) (hb : Below W.heap.size W W7) {u' : Value} {L' : List Lf} (ho : W7.ownsRow W.heap.size 44 6 u' L'.length (recs lfC L')) : AS w ((W7.setCell ⟨g, 0, none⟩ u').setCell ⟨g, 1, none⟩ v) base g x y a1 a2 a3 a4 a5 u' v L' R := by
  have h7 := h.below hb
  have h1 := h.hb
  have h2 := h.hg
  have h3 := h.lt
  have oth : ∀ b, b ≠ g → ((W7.setCell ⟨g, 0, none⟩ u').setCell ⟨g, 1, none⟩ v).heap[b]? = W7.heap[b]? := fun b hb => set2_other hb
  refine ⟨(oth _ (by omega)).trans h7.b0, (oth _ (by omega)).trans h7.b1, (oth _ (by omega)).trans h7.b2, two_set h7.out, ⟨own_block (ho.mono (by omega)) (fun b hb => oth b ?_), own_block h7.own.reqs (fun b hb => oth b (h.offv b hb)), ?_⟩, ?_, h.offv, below_set1 (below_set1 h7.bel (by omega)) (by omega), h.hb, h.hg⟩
  · have := (ho.lt b hb).1; omega
  · intro b hb e
    have := (ho.lt b hb).1
    have := (h.own.reqs.lt b e).2
    omega
  · intro b hb
    have := (ho.lt b hb).1
    omega

theorem join_bad {L : List Lf} {n w : Int} (h : ¬ (0 ≤ n ∧ n ≤ 11) ∨ ¬ (1 ≤ w ∧ w ≤ 8)) : joinO L n w = (L, 2) := if_pos h

theorem join_new {L : List Lf} {n w : Int} (h1 : 0 ≤ n ∧ n ≤ 11) (h2 : 1 ≤ w ∧ w ≤ 8) (h : here L n = false) : joinO L n w = (joinL L (n, 1, w, 0, 0, 0) n, 0) := by
  unfold joinO joinL
  rw [if_neg (fun e => e.elim (fun e => e h1) (fun e => e h2)), h]
  rfl

theorem join_over {L : List Lf} {n w : Int} (h1 : 0 ≤ n ∧ n ≤ 11) (h2 : 1 ≤ w ∧ w ≤ 8) (h : here L n = true) (h4 : (L[pos L n]'(here_lt h)).2.1 = 4) : joinO L n w = (joinL L (n, 1, w, 0, 0, 0) n, 0) := by
  unfold joinO joinL
  rw [if_neg (fun e => e.elim (fun e => e h1) (fun e => e h2)), if_pos h, if_pos h, List.getElem?_eq_getElem (here_lt h), Option.getD_some, if_pos h4]

theorem join_twice {L : List Lf} {n w : Int} (h1 : 0 ≤ n ∧ n ≤ 11) (h2 : 1 ≤ w ∧ w ≤ 8) (h : here L n = true) (h4 : ¬ (L[pos L n]'(here_lt h)).2.1 = 4) : joinO L n w = (L, 7) := by
  unfold joinO
  rw [if_neg (fun e => e.elim (fun e => e h1) (fun e => e h2)), if_pos h, List.getElem?_eq_getElem (here_lt h), Option.getD_some, if_neg h4]

theorem ret_none {L : List Lf} {n id u : Int} (h : here L n = false) : retireO L n id u = (L, 8) := by
  unfold retireO
  rw [h]
  rfl

theorem ret_gone {L : List Lf} {n id u : Int} (h : here L n = true) (h4 : (L[pos L n]'(here_lt h)).2.1 = 4) : retireO L n id u = (L, 8) := by
  unfold retireO
  rw [if_pos h, List.getElem?_eq_getElem (here_lt h), Option.getD_some, if_pos h4]

theorem ret_done {L : List Lf} {n id u : Int} (h : here L n = true) (h4 : (L[pos L n]'(here_lt h)).2.1 = 3) : retireO L n id u = (L, 12) := by
  unfold retireO
  rw [if_pos h, List.getElem?_eq_getElem (here_lt h), Option.getD_some, if_neg (by omega), if_pos h4]

theorem ret_goes {L : List Lf} {n id u : Int} (h : here L n = true) (h4 : ¬ (L[pos L n]'(here_lt h)).2.1 = 4) (h3 : ¬ (L[pos L n]'(here_lt h)).2.1 = 3) : retireO L n id u = (L.set (pos L n) (goes (L[pos L n]'(here_lt h)) u id), 0) := by
  unfold retireO
  rw [if_pos h, List.getElem?_eq_getElem (here_lt h), Option.getD_some, if_neg h4, if_neg h3]

theorem take1 {L : List Lf} {R : List Rq} {r1 r3 r4 r5 u : Int} {J : List Lf} {a : Int} (h : joinO L r3 r4 = (J, a)) : takeO L R (r1, 1, r3, r4, r5) u = ((J, R ++ [(r1, 1, r3, r4, a)]), a) := by
  unfold takeO
  rw [if_pos rfl]
  simp only [h]

theorem take2 {L : List Lf} {R : List Rq} {r1 r3 r4 r5 u : Int} {J : List Lf} {a : Int} (h : retireO L r3 r1 u = (J, a)) : takeO L R (r1, 2, r3, r4, r5) u = ((J, R ++ [(r1, 2, r3, 0, a)]), a) := by
  unfold takeO
  rw [if_neg (show ¬ (2 : Int) = 1 by decide)]
  simp only [h]

theorem AS.put3 {w W : World} {base g : Nat} {x y : Value} {a1 a2 a3 a4 a5 : Int} {v : Value} {L : List Lf} {R : List Rq} {g' n c : Nat} (h : AS w W base g x y a1 a2 a3 a4 a5 (.slice (some ⟨g', 0, none⟩) n c) v L R) {i : Nat} (hi : i < L.length) (a b d x1 x2 x3 x4 x5 x6 : Int) (hx : (x1, x2, x3, x4, x5, x6) = L[i]) : AS w (((W.setCell ⟨g', i * 6 + 1, none⟩ (.int .i64 a)).setCell ⟨g', i * 6 + 4, none⟩ (.int .i64 b)).setCell ⟨g', i * 6 + 5, none⟩ (.int .i64 d)) base g x y a1 a2 a3 a4 a5 (.slice (some ⟨g', 0, none⟩) n c) v (L.set i (x1, a, x3, x4, b, d)) R := by
  have z1 := h.put hi (j := 1) (by omega) a (x1, a, x3, x4, x5, x6) (by rw [← hx]; rfl)
  have z2 := z1.put (i := i) (by simpa using hi) (j := 4) (by omega) b (x1, a, x3, x4, b, x6) (by simp)
  have z3 := z2.put (i := i) (by simpa using hi) (j := 5) (by omega) d (x1, a, x3, x4, b, d) (by simp)
  simpa using z3

theorem ret_set {L : List Lf} {n id u S : Int} {i : Nat} {x1 x2 x3 x4 x5 x6 : Int} (h : here L n = true) (hi : i = pos L n) (hlt : i < L.length) (hx : (x1, x2, x3, x4, x5, x6) = L[i]) (h4 : ¬ x2 = 4) (h3 : ¬ x2 = 3) (hS : (if x2 = 2 then (3 : Int) else 4) = S) : retireO L n id u = (L.set i (x1, S, x3, x4, u, id), 0) := by
  subst hi
  rw [ret_goes h (by rw [← hx]; exact h4) (by rw [← hx]; exact h3), ← hx]
  unfold goes
  simp only [hS]

theorem state_of {L : List Lf} (h : LsOk L) {i : Nat} (hi : i < L.length) {x1 x2 x3 x4 x5 x6 : Int} (hx : (x1, x2, x3, x4, x5, x6) = L[i]) : x2 = 1 ∨ x2 = 2 ∨ x2 = 3 ∨ x2 = 4 := by
  have := h.1 _ (List.getElem_mem hi)
  rw [← hx] at this
  obtain ⟨_, h | h | h | h⟩ := this
  · exact .inl h.1
  · exact .inr (.inl h.1)
  · exact .inr (.inr (.inl h))
  · exact .inr (.inr (.inr h))

set_option maxHeartbeats 40000000 in
set_option maxRecDepth 100000 in
theorem asked_ref (va vb : Value) (L : List Lf) (R : List Rq) (r1 r2 r3 r4 r5 now drain : Int) (w : World) (hv : BkAt w va vb L R) :
    Calls Try.prog 13 #[bkV va vb, rqV r1 r2 r3 r4 r5, .int .i64 now, .int .i64 drain] w (AskPost w (askO L R (r1, r2, r3, r4, r5) now drain)) := by
  obtain ⟨O, hout⟩ : ∃ O, O = askO L R (r1, r2, r3, r4, r5) now drain := ⟨_, rfl⟩
  rw [← hout]
  obtain ⟨pa, ca, rfl, hca, hma, pl⟩ := LvAt.parts hv.1
  obtain ⟨pb, cb, rfl, hcb, hmb, pr⟩ := RsAt.parts hv.2
  obtain ⟨nR, hnR⟩ : ∃ nR, nR = R.length := ⟨_, rfl⟩
  rw [← hnR] at hv hcb ⊢
  unfold maxLen at hma hmb
  obtain ⟨W0, hW0⟩ : ∃ W0, W0 = ((w.alloc (bkO (.slice pa L.length ca) (.slice pb nR cb))).alloc (rqO r1 r2 r3 r4 r5)).alloc (bkO (.slice none 0 0) (.slice none 0 0)) := ⟨_, rfl⟩
  have hx := three_boxes w (bkO (.slice pa L.length ca) (.slice pb nR cb)) (rqO r1 r2 r3 r4 r5) (bkO (.slice none 0 0) (.slice none 0 0))
  rw [← hW0] at hx
  obtain ⟨hR0, hR1, hR2, hB0, hs0⟩ := hx
  obtain ⟨c0, c1, _, _, hlt0⟩ := two_cells hR0
  have H : Hid (_ ∧ _ ∧ _ ∧ _ ∧ _ ∧ _ ∧ _) := ⟨hW0, hR1, hR2, hB0, hs0, hv.below hB0, hR0⟩
  have HP : Hid (_ ∧ _ ∧ _ ∧ _) := ⟨pl, pr, hnR, hv⟩
  have HF : Hid _ := bookFault_any _ _ L R W0 H.out.2.2.2.2.2.1
  clear hv hR0 hR1 hB0 hs0 hR2 pl pr hnR
  by_cases hok : BkOk L R
  case neg =>
    rw [chk_no hok] at HF
    have HQ : Hid (O = (([], []), 0, false, 6)) := by
      rw [hout]
      exact if_neg hok
    clear hW0 hout
    go_enter Try.func13, Try.ntmps13
    go_wp2_with fail
    rw [← H.out.1]
    refine Calls.mono HF.out ?_
    rintro r w1 ⟨rfl, hb1⟩
    have hR2 := box_below H.out.2.2.1 hb1
    obtain ⟨d0, d1, df0, df1, dlt⟩ := two_cells hR2
    have HC : Hid _ := bk_out (bkNew_nil _ w1) hR2 (H.out.2.2.2.1.trans (hb1.mono H.out.2.2.2.1.size)) (by omega)
    clear hb1 hR2
    go_wp2
    exact bodyPost_ret (v := .tuple #[bkV (.slice none 0 0) (.slice none 0 0), .int .i64 0, .bool false, .int .i64 6]) (results_cttt Try.results13 rfl rfl rfl rfl (load_bk HC.out.1)) rfl (askPost_no HQ.out HC.out.2.1 HC.out.2.2)
  rw [chk_yes hok] at HF
  have h48 := bk48 hok
  have hL9 : L.length ≤ 900 := by have := hok.1.1; omega
  have hR9 : nR ≤ 100 := by rw [HP.out.2.2.1]; exact hok.2.1
  have HLS : Hid (_ ∧ _ ∧ _) := ⟨hok.1.2, h48, hok⟩
  have hout1 : O = if AskOk (r1, r2, r3, r4, r5) now drain then (if oldAt R r1 < R.length then ((L, R), (R[oldAt R r1]?.getD (0, 0, 0, 0, 0)).2.2.2.2, false, 0) else if R.length = 100 then ((L, R), 9, false, 0) else ((takeO L R (r1, r2, r3, r4, r5) (now + drain)).1, (takeO L R (r1, r2, r3, r4, r5) (now + drain)).2, true, 0)) else (([], []), 0, false, 2) := by
    rw [hout]
    unfold askO
    rw [if_pos hok]
  have HQ : Hid _ := hout1
  clear hout hout1 hW0 hok h48
  obtain ⟨bq, hbq⟩ : ∃ bq, bq = decide (RqOk (r1, r2, r3, r4, r5)) := ⟨_, rfl⟩
  have HRM : Hid (∀ W, _) := fun W => requestMay_any r1 r2 r3 r4 r5 W
  rw [← hbq] at HRM
  have HBQ : Hid _ := hbq
  clear hbq
  cases bq
  case false =>
    have HE : Hid (O = (([], []), 0, false, 2)) := by rw [HQ.out]; exact if_neg fun h => of_decide_eq_false HBQ.out.symm h.1
    clear HQ
    go_enter Try.func13, Try.ntmps13
    go_wp2_with fail
    rw [← H.out.1]
    refine Calls.mono HF.out ?_
    rintro r w1 ⟨rfl, hb1⟩
    obtain ⟨a0, a1, a2, a3, a4, alt⟩ := five_cells (box_below H.out.2.1 hb1)
    have hB1 := below_new w1 (o := rqO r1 r2 r3 r4 r5)
    have hR0 := box_below (box_below H.out.2.2.2.2.2.2 hb1) hB1
    have hR1 := box_below (box_below H.out.2.1 hb1) hB1
    have hR2 := box_below (box_below H.out.2.2.1 hb1) hB1
    have hbw := (H.out.2.2.2.1.trans (hb1.mono H.out.2.2.2.1.size))
    have hbw2 := hbw.trans (hB1.mono hbw.size)
    have hz1 := Nat.le_trans hb1.size hB1.size
    have hv1 := (H.out.2.2.2.2.2.1.below hb1).below hB1
    clear c0 c1 hlt0
    obtain ⟨w2, hw2⟩ : ∃ w2, w2 = w1.alloc (rqO r1 r2 r3 r4 r5) := ⟨_, rfl⟩
    rw [← hw2] at hR0 hR1 hR2 hbw2 hz1 hv1
    have H1 : Hid (_ ∧ _ ∧ _ ∧ _ ∧ _ ∧ _) := ⟨hR0, hR1, hR2, hbw2, hz1, hv1⟩
    clear hR0 hR1 hR2 hbw2 hz1 hb1 hbw hB1 hv1
    go_wp2_with fail
    refine (HRM.out _).mono ?_
    rintro r w3 ⟨rfl, rfl⟩
    rw [← hw2]
    clear hw2 a0 a1 a2 a3 a4 alt
    obtain ⟨d0, d1, df0, df1, dlt⟩ := two_cells H1.out.2.2.1
    have HC : Hid _ := bk_out (bkNew_nil _ w2) H1.out.2.2.1 H1.out.2.2.2.1 (by omega)
    go_wp2
    exact bodyPost_ret (v := .tuple #[bkV (.slice none 0 0) (.slice none 0 0), .int .i64 0, .bool false, .int .i64 2]) (results_cttt Try.results13 rfl rfl rfl rfl (load_bk HC.out.1)) rfl (askPost_no HE.out HC.out.2.1 HC.out.2.2)
  cases h2 : decide (0 ≤ now ∧ now ≤ 1099511627776)
  case false =>
    have HE : Hid (O = (([], []), 0, false, 2)) := by rw [HQ.out]; exact if_neg fun h => of_decide_eq_false h2 h.2.1
    clear HQ
    go_enter Try.func13, Try.ntmps13
    go_wp2_with fail
    rw [← H.out.1]
    refine Calls.mono HF.out ?_
    rintro r w1 ⟨rfl, hb1⟩
    obtain ⟨a0, a1, a2, a3, a4, alt⟩ := five_cells (box_below H.out.2.1 hb1)
    have hB1 := below_new w1 (o := rqO r1 r2 r3 r4 r5)
    have hR0 := box_below (box_below H.out.2.2.2.2.2.2 hb1) hB1
    have hR1 := box_below (box_below H.out.2.1 hb1) hB1
    have hR2 := box_below (box_below H.out.2.2.1 hb1) hB1
    have hbw := (H.out.2.2.2.1.trans (hb1.mono H.out.2.2.2.1.size))
    have hbw2 := hbw.trans (hB1.mono hbw.size)
    have hz1 := Nat.le_trans hb1.size hB1.size
    have hv1 := (H.out.2.2.2.2.2.1.below hb1).below hB1
    clear c0 c1 hlt0
    obtain ⟨w2, hw2⟩ : ∃ w2, w2 = w1.alloc (rqO r1 r2 r3 r4 r5) := ⟨_, rfl⟩
    rw [← hw2] at hR0 hR1 hR2 hbw2 hz1 hv1
    have H1 : Hid (_ ∧ _ ∧ _ ∧ _ ∧ _ ∧ _) := ⟨hR0, hR1, hR2, hbw2, hz1, hv1⟩
    clear hR0 hR1 hR2 hbw2 hz1 hb1 hbw hB1 hv1
    go_wp2_with fail
    refine (HRM.out _).mono ?_
    rintro r w3 ⟨rfl, rfl⟩
    rw [← hw2]
    clear hw2 a0 a1 a2 a3 a4 alt
    obtain ⟨d0, d1, df0, df1, dlt⟩ := two_cells H1.out.2.2.1
    have HC : Hid _ := bk_out (bkNew_nil _ w2) H1.out.2.2.1 H1.out.2.2.2.1 (by omega)
    go_wp2_with fail
    refine (in_any _ _ _ _).mono ?_
    rw [h2]
    rintro r w2 ⟨rfl, rfl⟩
    go_wp2
    exact bodyPost_ret (v := .tuple #[bkV (.slice none 0 0) (.slice none 0 0), .int .i64 0, .bool false, .int .i64 2]) (results_cttt Try.results13 rfl rfl rfl rfl (load_bk HC.out.1)) rfl (askPost_no HE.out HC.out.2.1 HC.out.2.2)
  cases h3 : decide (0 ≤ drain ∧ drain ≤ 500)
  case false =>
    have HE : Hid (O = (([], []), 0, false, 2)) := by rw [HQ.out]; exact if_neg fun h => of_decide_eq_false h3 h.2.2
    clear HQ
    go_enter Try.func13, Try.ntmps13
    go_wp2_with fail
    rw [← H.out.1]
    refine Calls.mono HF.out ?_
    rintro r w1 ⟨rfl, hb1⟩
    obtain ⟨a0, a1, a2, a3, a4, alt⟩ := five_cells (box_below H.out.2.1 hb1)
    have hB1 := below_new w1 (o := rqO r1 r2 r3 r4 r5)
    have hR0 := box_below (box_below H.out.2.2.2.2.2.2 hb1) hB1
    have hR1 := box_below (box_below H.out.2.1 hb1) hB1
    have hR2 := box_below (box_below H.out.2.2.1 hb1) hB1
    have hbw := (H.out.2.2.2.1.trans (hb1.mono H.out.2.2.2.1.size))
    have hbw2 := hbw.trans (hB1.mono hbw.size)
    have hz1 := Nat.le_trans hb1.size hB1.size
    have hv1 := (H.out.2.2.2.2.2.1.below hb1).below hB1
    clear c0 c1 hlt0
    obtain ⟨w2, hw2⟩ : ∃ w2, w2 = w1.alloc (rqO r1 r2 r3 r4 r5) := ⟨_, rfl⟩
    rw [← hw2] at hR0 hR1 hR2 hbw2 hz1 hv1
    have H1 : Hid (_ ∧ _ ∧ _ ∧ _ ∧ _ ∧ _) := ⟨hR0, hR1, hR2, hbw2, hz1, hv1⟩
    clear hR0 hR1 hR2 hbw2 hz1 hb1 hbw hB1 hv1
    go_wp2_with fail
    refine (HRM.out _).mono ?_
    rintro r w3 ⟨rfl, rfl⟩
    rw [← hw2]
    clear hw2 a0 a1 a2 a3 a4 alt
    obtain ⟨d0, d1, df0, df1, dlt⟩ := two_cells H1.out.2.2.1
    have HC : Hid _ := bk_out (bkNew_nil _ w2) H1.out.2.2.1 H1.out.2.2.2.1 (by omega)
    go_wp2_with fail
    refine (in_any _ _ _ _).mono ?_
    rw [h2]
    rintro r w2 ⟨rfl, rfl⟩
    go_wp2_with fail
    refine (in_any _ _ _ _).mono ?_
    rw [h3]
    rintro r w2 ⟨rfl, rfl⟩
    go_wp2
    exact bodyPost_ret (v := .tuple #[bkV (.slice none 0 0) (.slice none 0 0), .int .i64 0, .bool false, .int .i64 2]) (results_cttt Try.results13 rfl rfl rfl rfl (load_bk HC.out.1)) rfl (askPost_no HE.out HC.out.2.1 HC.out.2.2)
  have hnow := of_decide_eq_true h2
  have hdr := of_decide_eq_true h3
  have hout2 := HQ.out
  rw [if_pos ⟨of_decide_eq_true HBQ.out.symm, hnow, hdr⟩] at hout2
  have hwr : IntKind.i64.wrap (now + drain) = now + drain := by rw [IntKind.wrap_i64]; omega
  have hk12 : r2 = 1 ∨ r2 = 2 := (of_decide_eq_true HBQ.out.symm : RqOk (r1, r2, r3, r4, r5)).2
  clear HQ
  have HX : Hid _ := hout2
  obtain ⟨n0, n1⟩ := hnow
  obtain ⟨n2, n3⟩ := hdr
  clear hout2
  go_enter Try.func13, Try.ntmps13
  go_wp2_with fail
  rw [← H.out.1]
  refine Calls.mono HF.out ?_
  rintro r w1 ⟨rfl, hb1⟩
  obtain ⟨a0, a1, a2, a3, a4, alt⟩ := five_cells (box_below H.out.2.1 hb1)
  have hB1 := below_new w1 (o := rqO r1 r2 r3 r4 r5)
  have hR0 := box_below (box_below H.out.2.2.2.2.2.2 hb1) hB1
  have hR1 := box_below (box_below H.out.2.1 hb1) hB1
  have hR2 := box_below (box_below H.out.2.2.1 hb1) hB1
  have hbw := (H.out.2.2.2.1.trans (hb1.mono H.out.2.2.2.1.size))
  have hbw2 := hbw.trans (hB1.mono hbw.size)
  have hz1 := Nat.le_trans hb1.size hB1.size
  have hv1 := (H.out.2.2.2.2.2.1.below hb1).below hB1
  clear c0 c1 hlt0
  obtain ⟨w2, hw2⟩ : ∃ w2, w2 = w1.alloc (rqO r1 r2 r3 r4 r5) := ⟨_, rfl⟩
  rw [← hw2] at hR0 hR1 hR2 hbw2 hz1 hv1
  have H1 : Hid (_ ∧ _ ∧ _ ∧ _ ∧ _ ∧ _) := ⟨hR0, hR1, hR2, hbw2, hz1, hv1⟩
  clear hR0 hR1 hR2 hbw2 hz1 hb1 hbw hB1 hv1
  go_wp2_with fail
  refine (HRM.out _).mono ?_
  rintro r w3 ⟨rfl, rfl⟩
  rw [← hw2]
  clear hw2 a0 a1 a2 a3 a4 alt
  go_wp2_with fail
  refine (in_any _ _ _ _).mono ?_
  rw [h2]
  rintro r w2 ⟨rfl, rfl⟩
  go_wp2_with fail
  refine (in_any _ _ _ _).mono ?_
  rw [h3]
  rintro r w2 ⟨rfl, rfl⟩
  obtain ⟨c0, c1, _, _, clt⟩ := two_cells H1.out.1
  have HCP : Hid _ := bookCopy_any _ _ L R w2 H1.out.2.2.2.2.2 HLS.out.2.1.1 HLS.out.2.1.2
  rw [← HP.out.2.2.1] at HCP
  go_wp2_with fail
  refine Calls.mono HCP.out ?_
  rintro r w3 ⟨p, c, q, m, rfl, hO2, hb2⟩
  obtain ⟨W3, hW3⟩ : ∃ W3, W3 = w3.alloc (bkO (.slice p L.length c) (.slice q nR m)) := ⟨_, rfl⟩
  have hb3 : Below w2.heap.size w2 W3 := by rw [hW3]; exact hb2.alloc hb2.size _
  have hz2 := H1.out.2.2.2.2.1
  have hs0 := H.out.2.2.2.2.1
  obtain ⟨g, hg⟩ : ∃ g, g = w3.heap.size := ⟨_, rfl⟩
  have HS0 : Hid (AS w W3 w2.heap.size g (.slice pa L.length ca) (.slice pb nR cb) r1 r2 r3 r4 r5 (.slice p L.length c) (.slice q nR m) L R) := by
    subst hg
    refine ⟨box_below H1.out.1 hb3, box_below H1.out.2.1 hb3, box_below H1.out.2.2.1 hb3, by rw [hW3]; exact heap_alloc_new _ _, by rw [hW3]; exact hO2.below (below_new _), fun b e => by have := (hO2.lives.lt b e).2; omega, fun b e => by have := (hO2.reqs.lt b e).2; omega, H1.out.2.2.2.1.trans (hb3.mono H1.out.2.2.2.1.size), by omega, hb2.size⟩
  clear hb2 hb3 hO2 hz2 hs0 c0 c1 clt
  go_wp2
  rw [← hg, ← hW3]
  clear hW3 hg
  go_loopw [14] (fun i wr => ∃ (k : Nat), i = .int .i64 k ∧ k ≤ nR ∧ (∀ t ∈ R.take k, t.1 ≠ r1) ∧ AS w wr w2.heap.size g (.slice pa L.length ca) (.slice pb nR cb) r1 r2 r3 r4 r5 (.slice p L.length c) (.slice q nR m) L R) (fun i _ => nR - (intOf i).toNat)
  case atStart => exact ⟨0, rfl, Nat.zero_le _, by simp, HS0.out⟩
  case round =>
    obtain ⟨k, rfl, hk, hno, hS⟩ := hrel
    obtain ⟨c0, c1, _, _, clt⟩ := two_cells hS.b0
    by_cases hlt : k < nR
    · have hkI : (k : Int) < (nR : Int) := by omega
      have hkd : decide ((k : Int) < (nR : Int)) = true := decide_eq_true hkI
      have hlR : k < R.length := by rw [← HP.out.2.2.1]; exact hlt
      obtain ⟨b1, o1, hpb, hbb, z1, z2, z3, z4, z5⟩ := HP.out.2.1 k hlR
      subst hpb
      have hfnd := fun h => old_found hlR hno h
      have htk : R.take (k + 1) = R.take k ++ [R[k]] := List.take_succ_eq_append_getElem hlR
      have hgd : R[k]?.getD (0, 0, 0, 0, 0) = R[k] := by rw [List.getElem?_eq_getElem hlR]; rfl
      obtain ⟨⟨x1, x2, x3, x4, x5⟩, hxk⟩ : ∃ x, x = R[k] := ⟨_, rfl⟩
      rw [← hxk] at z1 z5 hfnd htk hgd
      have e1 := (hS.bel.cell (p := ⟨b1, o1 + k * 5, none⟩) hbb).trans z1
      obtain ⟨a0, a1, a2, a3, a4, alt⟩ := five_cells hS.b1
      have HS : Hid (_ ∧ _ ∧ _ ∧ _ ∧ _ ∧ _ ∧ _ ∧ _) := ⟨hS, hbb, z5, hno, hlR, hfnd, htk, hgd⟩
      clear hS hbb z1 z2 z3 z4 z5 hno hlR hfnd htk hgd hxk
      by_cases hx : x1 = r1
      · have qx : (x1 == r1) = true := by simpa using hx
        have HE : Hid (O = ((L, R), x5, false, 0)) := by
          have e := HS.out.2.2.2.2.2.1 hx
          rw [HX.out, e, if_pos HS.out.2.2.2.2.1, HS.out.2.2.2.2.2.2.2]
          exact rfl
        clear hx
        go_wp2_with fail
        refine wp_region_quiet_lit (by kernel_rfl) (by kernel_rfl) ?_
        repeat (first | go_big_quiet_skip | quiet_step (fail))
        refine wpQuiet_nil ?_
        intro _ hw'
        obtain ⟨nq, hw''⟩ := hw'
        subst hw''
        have HS1 : Hid _ := HS.out.1.drewN nq
        generalize wr.drewN nq = W1 at HS1 ⊢
        clear c0 c1 clt a0 a1 a2 a3 a4 alt e1
        obtain ⟨⟨c0, c1, clt⟩, ⟨t0, t1, _, _, tlt⟩, _, d0, d1, df0, df1, dlt⟩ := HS1.out.cells
        have e5 := (HS1.out.bel.cell (p := ⟨b1, o1 + k * 5 + 4, none⟩) HS.out.2.1).trans HS.out.2.2.1
        have HC : Hid _ := HS1.out.fin
        go_upto_region 11 with fail
        go_region
        all_goals
          go_wp2
          exact bodyPost_ret (v := .tuple #[bkV (.slice p L.length c) (.slice q nR m), .int .i64 x5, .bool false, .int .i64 0]) (results_cttt Try.results13 rfl rfl rfl rfl (load_bk (W := (set2 W1 (w.heap.size + 1 + 1) (.slice p L.length c) (.slice q nR m)).drew) HC.out.1)) rfl (askPost_of HE.out rfl HP.out.2.2.1 HC.out.2.1.drew HC.out.2.2.drew)
      · have qx : (x1 == r1) = false := by simpa using hx
        have HN : Hid (∀ t ∈ R.take (k + 1), t.1 ≠ r1) := by
          rw [HS.out.2.2.2.2.2.2.1]
          intro t ht
          rcases List.mem_append.1 ht with h | h
          · exact HS.out.2.2.2.1 t h
          · rw [List.mem_singleton.1 h]; exact hx
        clear hx
        go_wp2_with fail
        refine wp_region_quiet_lit (by kernel_rfl) (by kernel_rfl) ?_
        repeat (first | go_big_quiet_skip | quiet_step (fail))
        refine wpQuiet_nil ?_
        intro _ hw'
        obtain ⟨nq, hw''⟩ := hw'
        subst hw''
        have HS1 : Hid _ := HS.out.1.drewN nq
        generalize wr.drewN nq = W1 at HS1 ⊢
        clear c0 c1 clt a0 a1 a2 a3 a4 alt e1
        go_wp2
        go_roundw
        case rel => exact ⟨k + 1, by simp, hlt, HN.out, HS1.out⟩
        case measure => simp [intOf]; omega
    · have hkd : ¬ ((k : Int) < (nR : Int)) := by omega
      obtain rfl : nR = k := by omega
      have hold := no_old HP.out.2.2.1 hno
      obtain ⟨⟨c0, c1, clt⟩, ⟨t0, t1, _, _, tlt⟩, _, d0, d1, df0, df1, dlt⟩ := hS.cells
      by_cases h100 : nR = 100
      · have HE : Hid (O = ((L, R), 9, false, 0)) := by
          rw [HX.out, if_neg hold]
          exact if_pos (by rw [← HP.out.2.2.1]; exact h100)
        have HC : Hid _ := hS.fin
        subst h100
        clear hS hno hold hk hlt
        go_wp2
        exact bodyPost_ret (v := .tuple #[bkV (.slice p L.length c) (.slice q 100 m), .int .i64 9, .bool false, .int .i64 0]) (results_cttt Try.results13 rfl rfl rfl rfl (load_bk HC.out.1)) rfl (askPost_of HE.out rfl HP.out.2.2.1 HC.out.2.1 HC.out.2.2)
      have hb100 : ((nR : Int) == 100) = false := by simp; omega
      have HE : Hid (O = ((takeO L R (r1, r2, r3, r4, r5) (now + drain)).1, (takeO L R (r1, r2, r3, r4, r5) (now + drain)).2, true, 0)) := by
        rw [HX.out, if_neg hold]
        exact if_neg (by rw [← HP.out.2.2.1]; exact h100)
      obtain ⟨a0, a1, a2, a3, a4, alt⟩ := five_cells hS.b1
      have HA : Hid _ := lifeAt_any _ _ L R r3 wr (HP.out.2.2.2.below hS.bel) HLS.out.1.2
      have HS : Hid _ := hS
      clear hS hno hold hk hlt t0 t1 tlt d0 d1 df0 df1 dlt h100 HX
      obtain ⟨ix, hix⟩ : ∃ ix, ix = atI L r3 := ⟨_, rfl⟩
      rw [← hix] at HA
      have HI : Hid _ := hix
      clear hix
      rcases hk12 with rfl | rfl
      · go_wp2_with fail
        refine Calls.mono HA.out ?_
        rintro r w4 ⟨rfl, hb4⟩
        obtain ⟨w5, hw5⟩ : ∃ w5, w5 = w4.setCell ⟨w.heap.size + 1, 4, none⟩ (.int .i64 0) := ⟨_, rfl⟩
        have HS4 : Hid _ := HS.out.below hb4
        have HS5 : Hid (AS w w5 w2.heap.size g (.slice pa L.length ca) (.slice pb nR cb) r1 1 r3 r4 0 (.slice p L.length c) (.slice q nR m) L R) := by rw [hw5]; exact HS4.out.ans 0
        clear hb4 c0 c1 clt a0 a1 a2 a3 a4 alt
        obtain ⟨a0, a1, a2, a3, a4, alt⟩ := five_cells HS4.out.b1
        obtain ⟨⟨c0, c1, clt⟩, _, ⟨af3, af4⟩, _⟩ := HS4.out.cells
        go_wp2_with fail
        rw [← hw5]
        clear hw5 c0 c1 clt a0 a1 a2 a3 a4 alt af3 af4
        obtain ⟨a0, a1, a2, a3, a4, alt⟩ := five_cells HS5.out.b1
        obtain ⟨⟨c0, c1, clt⟩, ⟨t0, t1, tf0, tf1, tlt⟩, ⟨af3, af4⟩, _⟩ := HS5.out.cells
        refine (in_any _ _ _ _).mono ?_
        cases g1 : decide (0 ≤ r3 ∧ r3 ≤ 11)
        · rintro r w5 ⟨rfl, rfl⟩
          have HE1 : Hid (O = ((L, R ++ [(r1, 1, r3, r4, 2)]), 2, true, 0)) := by
            rw [HE.out, take1 (join_bad (.inl (of_decide_eq_false g1)))]
            exact rfl
          obtain ⟨V, hV⟩ : ∃ V, V = w5.setCell ⟨w.heap.size + 1, 4, none⟩ (.int .i64 2) := ⟨_, rfl⟩
          have HT : Hid (AS w V w2.heap.size g (.slice pa L.length ca) (.slice pb nR cb) r1 1 r3 r4 2 (.slice p L.length c) (.slice q nR m) L R) := by rw [hV]; exact HS5.out.ans 2
          have hVs : V.heap.size = w5.heap.size := by rw [hV]; simp
          obtain ⟨gr, cr, w6, hr6, ⟨hc6, hf6⟩, hS6⟩ := as_take HT.out HP.out.2.2.1 (by omega)
          obtain ⟨V6, hV6⟩ : ∃ V6, V6 = w6.setCell ⟨g, 1, none⟩ (.slice (some ⟨gr, 0, none⟩) (nR + 1) cr) := ⟨_, rfl⟩
          rw [← hV6] at hS6
          rw [hVs] at hr6
          have HR : Hid (_ ∧ _) := ⟨hr6, hS6⟩
          have HV : Hid _ := hV
          clear hr6 hS6 hVs hV

          go_wp2_with (at_builtin; (with_reducible refine wpList_append_eq rfl _ _ 23 rfl (.slice q nR m) (.slice (some ⟨w5.heap.size, 0, none⟩) 1 1) (.slice (some ⟨gr, 0, none⟩) (nR + 1) cr) w6 ?hs ?hx ?hr ?_); (case hs => rfl); (case hx => rfl); (case hr => rw [← HV.out]; exact HR.out.1))
          rw [← hV6]
          clear hV6 hc6 hf6 a0 a1 a2 a3 a4 alt c0 c1 clt t0 t1 tf0 tf1 tlt af3 af4
          obtain ⟨_, ⟨t0, t1, _, _, tlt⟩, _, d0, d1, df0, df1, dlt⟩ := HR.out.2.cells
          obtain ⟨a0, a1, a2, a3, a4, alt⟩ := five_cells HR.out.2.b1
          have HC : Hid _ := HR.out.2.fin
          go_region
          all_goals
            go_wp2
            exact bodyPost_ret (v := .tuple #[bkV (.slice p L.length c) (.slice (some ⟨gr, 0, none⟩) (nR + 1) cr), .int .i64 2, .bool true, .int .i64 0]) (results_cttt Try.results13 rfl rfl rfl rfl (load_bk (W := (set2 V6 (w.heap.size + 1 + 1) (.slice p L.length c) (.slice (some ⟨gr, 0, none⟩) (nR + 1) cr)).drew) HC.out.1)) rfl (askPost_of HE1.out rfl (by rw [List.length_append, ← HP.out.2.2.1]; rfl) HC.out.2.1.drew HC.out.2.2.drew)
        rintro r w5 ⟨rfl, rfl⟩
        go_wp2_with fail
        refine (in_any _ _ _ _).mono ?_
        cases g2 : decide (1 ≤ r4 ∧ r4 ≤ 8)
        · rintro r w5 ⟨rfl, rfl⟩
          have HE1 : Hid (O = ((L, R ++ [(r1, 1, r3, r4, 2)]), 2, true, 0)) := by
            rw [HE.out, take1 (join_bad (.inr (of_decide_eq_false g2)))]
            exact rfl
          obtain ⟨V, hV⟩ : ∃ V, V = w5.setCell ⟨w.heap.size + 1, 4, none⟩ (.int .i64 2) := ⟨_, rfl⟩
          have HT : Hid (AS w V w2.heap.size g (.slice pa L.length ca) (.slice pb nR cb) r1 1 r3 r4 2 (.slice p L.length c) (.slice q nR m) L R) := by rw [hV]; exact HS5.out.ans 2
          have hVs : V.heap.size = w5.heap.size := by rw [hV]; simp
          obtain ⟨gr, cr, w6, hr6, ⟨hc6, hf6⟩, hS6⟩ := as_take HT.out HP.out.2.2.1 (by omega)
          obtain ⟨V6, hV6⟩ : ∃ V6, V6 = w6.setCell ⟨g, 1, none⟩ (.slice (some ⟨gr, 0, none⟩) (nR + 1) cr) := ⟨_, rfl⟩
          rw [← hV6] at hS6
          rw [hVs] at hr6
          have HR : Hid (_ ∧ _) := ⟨hr6, hS6⟩
          have HV : Hid _ := hV
          clear hr6 hS6 hVs hV

          go_wp2_with (at_builtin; (with_reducible refine wpList_append_eq rfl _ _ 23 rfl (.slice q nR m) (.slice (some ⟨w5.heap.size, 0, none⟩) 1 1) (.slice (some ⟨gr, 0, none⟩) (nR + 1) cr) w6 ?hs ?hx ?hr ?_); (case hs => rfl); (case hx => rfl); (case hr => rw [← HV.out]; exact HR.out.1))
          rw [← hV6]
          clear hV6 hc6 hf6 a0 a1 a2 a3 a4 alt c0 c1 clt t0 t1 tf0 tf1 tlt af3 af4
          obtain ⟨_, ⟨t0, t1, _, _, tlt⟩, _, d0, d1, df0, df1, dlt⟩ := HR.out.2.cells
          obtain ⟨a0, a1, a2, a3, a4, alt⟩ := five_cells HR.out.2.b1
          have HC : Hid _ := HR.out.2.fin
          go_region
          all_goals
            go_wp2
            exact bodyPost_ret (v := .tuple #[bkV (.slice p L.length c) (.slice (some ⟨gr, 0, none⟩) (nR + 1) cr), .int .i64 2, .bool true, .int .i64 0]) (results_cttt Try.results13 rfl rfl rfl rfl (load_bk (W := (set2 V6 (w.heap.size + 1 + 1) (.slice p L.length c) (.slice (some ⟨gr, 0, none⟩) (nR + 1) cr)).drew) HC.out.1)) rfl (askPost_of HE1.out rfl (by rw [List.length_append, ← HP.out.2.2.1]; rfl) HC.out.2.1.drew HC.out.2.2.drew)
        rintro r w5 ⟨rfl, rfl⟩
        have hix := HI.out
        obtain ⟨J, hJ⟩ : ∃ J, J = joinL L (r3, 1, r4, 0, 0, 0) r3 := ⟨_, rfl⟩
        have HJ : Hid _ := joined_any (.slice p L.length c) (.slice q nR m) L R r3 r4 w5 HS5.out.own.at HLS.out.1.2 hL9
        rw [← hJ] at HJ
        have HJ2 : Hid _ := hJ
        clear hJ
        cases hh : here L r3
        · rw [at_no hh] at hix
          subst hix
          go_wp2_with fail
          refine Calls.mono HJ.out ?_
          rintro r w7 ⟨P, C, rfl, hoJ, hbJ⟩
          have HS7 : Hid (_ ∧ _) := ⟨HS5.out.below hbJ, HS5.out.join hbJ hoJ⟩
          clear hoJ hbJ a0 a1 a2 a3 a4 alt c0 c1 clt t0 t1 tf0 tf1 tlt af3 af4
          have HE1 : Hid (O = ((J, R ++ [(r1, 1, r3, r4, 0)]), 0, true, 0)) := by
            rw [HE.out, take1 (join_new (of_decide_eq_true g1) (of_decide_eq_true g2) hh), ← HJ2.out]
            exact rfl
          obtain ⟨V, hV⟩ : ∃ V, V = (w7.setCell ⟨g, 0, none⟩ (.slice P J.length C)).setCell ⟨g, 1, none⟩ (.slice q nR m) := ⟨_, rfl⟩
          have HT : Hid (AS w V w2.heap.size g (.slice pa L.length ca) (.slice pb nR cb) r1 1 r3 r4 0 (.slice P J.length C) (.slice q nR m) J R) := by rw [hV]; exact HS7.out.2
          have hVs : V.heap.size = w7.heap.size := by rw [hV]; simp
          obtain ⟨gr, cr, w6, hr6, ⟨hc6, hf6⟩, hS6⟩ := as_take HT.out HP.out.2.2.1 (by omega)
          obtain ⟨V6, hV6⟩ : ∃ V6, V6 = w6.setCell ⟨g, 1, none⟩ (.slice (some ⟨gr, 0, none⟩) (nR + 1) cr) := ⟨_, rfl⟩
          rw [← hV6] at hS6
          rw [hVs] at hr6
          have HR : Hid (_ ∧ _) := ⟨hr6, hS6⟩
          have HV : Hid _ := hV
          clear hr6 hS6 hVs hV
          obtain ⟨a0, a1, a2, a3, a4, alt⟩ := five_cells HS7.out.1.b1
          obtain ⟨⟨c0, c1, clt⟩, ⟨t0, t1, tf0, tf1, tlt⟩, ⟨af3, af4⟩, _⟩ := HS7.out.1.cells
          have hbb2 := HS7.out.1.hb
          have hgg2 := HS7.out.1.hg
          have hW1 : ¬ w.heap.size + 1 = g := by omega
          have hW2 : ¬ g = w.heap.size + 1 := by omega
          clear hbb2 hgg2
          go_wp2_with (at_builtin; (with_reducible refine wpList_append_eq rfl _ _ 23 rfl (.slice q nR m) (.slice (some ⟨w7.heap.size, 0, none⟩) 1 1) (.slice (some ⟨gr, 0, none⟩) (nR + 1) cr) w6 ?hs ?hx ?hr ?_); (case hs => rfl); (case hx => rfl); (case hr => rw [← HV.out]; exact HR.out.1))
          rw [← hV6]
          clear hV6 hc6 hf6 a0 a1 a2 a3 a4 alt c0 c1 clt t0 t1 tf0 tf1 tlt af3 af4 hW1 hW2
          obtain ⟨_, ⟨t0, t1, _, _, tlt⟩, _, d0, d1, df0, df1, dlt⟩ := HR.out.2.cells
          obtain ⟨a0, a1, a2, a3, a4, alt⟩ := five_cells HR.out.2.b1
          have HC : Hid _ := HR.out.2.fin
          go_region
          all_goals
            go_wp2
            exact bodyPost_ret (v := .tuple #[bkV (.slice P J.length C) (.slice (some ⟨gr, 0, none⟩) (nR + 1) cr), .int .i64 0, .bool true, .int .i64 0]) (results_cttt Try.results13 rfl rfl rfl rfl (load_bk (W := (set2 V6 (w.heap.size + 1 + 1) (.slice P J.length C) (.slice (some ⟨gr, 0, none⟩) (nR + 1) cr)).drew) HC.out.1)) rfl (askPost_of HE1.out rfl (by rw [List.length_append, ← HP.out.2.2.1]; rfl) HC.out.2.1.drew HC.out.2.2.drew)
        · rw [at_yes hh] at hix
          obtain ⟨i, hi⟩ : ∃ i, i = pos L r3 := ⟨_, rfl⟩
          rw [← hi] at hix
          subst hix
          have hlti : i < L.length := by rw [hi]; exact here_lt hh
          have hiI : (i : Int) < (L.length : Int) := by omega
          obtain ⟨b1, o1, hpa, hbb, z1, z2, z3, z4, z5, z6⟩ := HP.out.1 i hlti
          subst hpa
          obtain ⟨⟨x1, x2, x3, x4, x5, x6⟩, hx⟩ : ∃ x, x = L[i] := ⟨_, rfl⟩
          have e2 := (HS5.out.bel.cell (p := ⟨b1, o1 + i * 6 + 1, none⟩) hbb).trans z2
          rw [← hx] at e2
          have hst : ∀ h : here L r3 = true, (L[pos L r3]'(here_lt h)).2.1 = x2 := fun h => by simp only [← hi, ← hx]
          have HZ : Hid (_ ∧ _ ∧ _ ∧ _) := ⟨hst, hh, hi, hx⟩
          have hbX : ¬ w.heap.size + 1 = b1 := by omega
          have hbX2 : ¬ b1 = w.heap.size + 1 := by omega
          clear z1 z2 z3 z4 z5 z6 hx hst hi hh hbb
          by_cases hx4 : x2 = 4
          · have q4 : (x2 != 4) = false := by simpa using hx4
            have HT4 : Hid _ := hx4
            clear hx4
            go_wp2_with fail
            refine Calls.mono HJ.out ?_
            rintro r w7 ⟨P, C, rfl, hoJ, hbJ⟩
            have HS7 : Hid (_ ∧ _) := ⟨HS5.out.below hbJ, HS5.out.join hbJ hoJ⟩
            clear hoJ hbJ a0 a1 a2 a3 a4 alt c0 c1 clt t0 t1 tf0 tf1 tlt af3 af4
            have HE1 : Hid (O = ((J, R ++ [(r1, 1, r3, r4, 0)]), 0, true, 0)) := by
              rw [HE.out, take1 (join_over (of_decide_eq_true g1) (of_decide_eq_true g2) HZ.out.2.1 ((HZ.out.1 HZ.out.2.1).trans HT4.out)), ← HJ2.out]
              exact rfl
            obtain ⟨V, hV⟩ : ∃ V, V = (w7.setCell ⟨g, 0, none⟩ (.slice P J.length C)).setCell ⟨g, 1, none⟩ (.slice q nR m) := ⟨_, rfl⟩
            have HT : Hid (AS w V w2.heap.size g (.slice (some ⟨b1, o1, none⟩) L.length ca) (.slice pb nR cb) r1 1 r3 r4 0 (.slice P J.length C) (.slice q nR m) J R) := by rw [hV]; exact HS7.out.2
            have hVs : V.heap.size = w7.heap.size := by rw [hV]; simp
            obtain ⟨gr, cr, w6, hr6, ⟨hc6, hf6⟩, hS6⟩ := as_take HT.out HP.out.2.2.1 (by omega)
            obtain ⟨V6, hV6⟩ : ∃ V6, V6 = w6.setCell ⟨g, 1, none⟩ (.slice (some ⟨gr, 0, none⟩) (nR + 1) cr) := ⟨_, rfl⟩
            rw [← hV6] at hS6
            rw [hVs] at hr6
            have HR : Hid (_ ∧ _) := ⟨hr6, hS6⟩
            have HV : Hid _ := hV
            clear hr6 hS6 hVs hV
            obtain ⟨a0, a1, a2, a3, a4, alt⟩ := five_cells HS7.out.1.b1
            obtain ⟨⟨c0, c1, clt⟩, ⟨t0, t1, tf0, tf1, tlt⟩, ⟨af3, af4⟩, _⟩ := HS7.out.1.cells
            have hbb2 := HS7.out.1.hb
            have hgg2 := HS7.out.1.hg
            have hW1 : ¬ w.heap.size + 1 = g := by omega
            have hW2 : ¬ g = w.heap.size + 1 := by omega
            clear hbb2 hgg2
            go_wp2_with (at_builtin; (with_reducible refine wpList_append_eq rfl _ _ 23 rfl (.slice q nR m) (.slice (some ⟨w7.heap.size, 0, none⟩) 1 1) (.slice (some ⟨gr, 0, none⟩) (nR + 1) cr) w6 ?hs ?hx ?hr ?_); (case hs => rfl); (case hx => rfl); (case hr => rw [← HV.out]; exact HR.out.1))
            rw [← hV6]
            clear hV6 hc6 hf6 a0 a1 a2 a3 a4 alt c0 c1 clt t0 t1 tf0 tf1 tlt af3 af4 hW1 hW2
            obtain ⟨_, ⟨t0, t1, _, _, tlt⟩, _, d0, d1, df0, df1, dlt⟩ := HR.out.2.cells
            obtain ⟨a0, a1, a2, a3, a4, alt⟩ := five_cells HR.out.2.b1
            have HC : Hid _ := HR.out.2.fin
            go_region
            all_goals
              go_wp2
              exact bodyPost_ret (v := .tuple #[bkV (.slice P J.length C) (.slice (some ⟨gr, 0, none⟩) (nR + 1) cr), .int .i64 0, .bool true, .int .i64 0]) (results_cttt Try.results13 rfl rfl rfl rfl (load_bk (W := (set2 V6 (w.heap.size + 1 + 1) (.slice P J.length C) (.slice (some ⟨gr, 0, none⟩) (nR + 1) cr)).drew) HC.out.1)) rfl (askPost_of HE1.out rfl (by rw [List.length_append, ← HP.out.2.2.1]; rfl) HC.out.2.1.drew HC.out.2.2.drew)
          · have q4 : (x2 != 4) = true := by simpa using hx4
            have HT4 : Hid _ := hx4
            clear hx4
            have HE1 : Hid (O = ((L, R ++ [(r1, 1, r3, r4, 7)]), 7, true, 0)) := by
              rw [HE.out, take1 (join_twice (of_decide_eq_true g1) (of_decide_eq_true g2) HZ.out.2.1 (fun e => HT4.out ((HZ.out.1 HZ.out.2.1).symm.trans e)))]
              exact rfl
            obtain ⟨V, hV⟩ : ∃ V, V = w5.setCell ⟨w.heap.size + 1, 4, none⟩ (.int .i64 7) := ⟨_, rfl⟩
            have HT : Hid (AS w V w2.heap.size g (.slice (some ⟨b1, o1, none⟩) L.length ca) (.slice pb nR cb) r1 1 r3 r4 7 (.slice p L.length c) (.slice q nR m) L R) := by rw [hV]; exact HS5.out.ans 7
            have hVs : V.heap.size = w5.heap.size := by rw [hV]; simp
            obtain ⟨gr, cr, w6, hr6, ⟨hc6, hf6⟩, hS6⟩ := as_take HT.out HP.out.2.2.1 (by omega)
            obtain ⟨V6, hV6⟩ : ∃ V6, V6 = w6.setCell ⟨g, 1, none⟩ (.slice (some ⟨gr, 0, none⟩) (nR + 1) cr) := ⟨_, rfl⟩
            rw [← hV6] at hS6
            rw [hVs] at hr6
            have HR : Hid (_ ∧ _) := ⟨hr6, hS6⟩
            have HV : Hid _ := hV
            clear hr6 hS6 hVs hV

            go_wp2_with (at_builtin; (with_reducible refine wpList_append_eq rfl _ _ 23 rfl (.slice q nR m) (.slice (some ⟨w5.heap.size, 0, none⟩) 1 1) (.slice (some ⟨gr, 0, none⟩) (nR + 1) cr) w6 ?hs ?hx ?hr ?_); (case hs => rfl); (case hx => rfl); (case hr => rw [← HV.out]; exact HR.out.1))
            rw [← hV6]
            clear hV6 hc6 hf6 a0 a1 a2 a3 a4 alt c0 c1 clt t0 t1 tf0 tf1 tlt af3 af4 e2
            obtain ⟨_, ⟨t0, t1, _, _, tlt⟩, _, d0, d1, df0, df1, dlt⟩ := HR.out.2.cells
            obtain ⟨a0, a1, a2, a3, a4, alt⟩ := five_cells HR.out.2.b1
            have HC : Hid _ := HR.out.2.fin
            go_region
            all_goals
              go_wp2
              exact bodyPost_ret (v := .tuple #[bkV (.slice p L.length c) (.slice (some ⟨gr, 0, none⟩) (nR + 1) cr), .int .i64 7, .bool true, .int .i64 0]) (results_cttt Try.results13 rfl rfl rfl rfl (load_bk (W := (set2 V6 (w.heap.size + 1 + 1) (.slice p L.length c) (.slice (some ⟨gr, 0, none⟩) (nR + 1) cr)).drew) HC.out.1)) rfl (askPost_of HE1.out rfl (by rw [List.length_append, ← HP.out.2.2.1]; rfl) HC.out.2.1.drew HC.out.2.2.drew)
      · go_wp2_with fail
        refine Calls.mono HA.out ?_
        rintro r w4 ⟨rfl, hb4⟩
        have HS4 : Hid _ := HS.out.below hb4
        clear hb4 c0 c1 clt a0 a1 a2 a3 a4 alt
        obtain ⟨a0, a1, a2, a3, a4, alt⟩ := five_cells HS4.out.b1
        obtain ⟨⟨c0, c1, clt⟩, ⟨t0, t1, tf0, tf1, tlt⟩, ⟨af3, af4⟩, _⟩ := HS4.out.cells
        have hix := HI.out
        cases hh : here L r3
        · rw [at_no hh] at hix
          subst hix
          have HE1 : Hid (O = ((L, R ++ [(r1, 2, r3, 0, 8)]), 8, true, 0)) := by
            rw [HE.out, take2 (ret_none hh)]
            exact rfl
          obtain ⟨V, hV⟩ : ∃ V, V = ((w4.setCell ⟨w.heap.size + 1, 4, none⟩ (.int .i64 0)).setCell ⟨w.heap.size + 1, 3, none⟩ (.int .i64 0)).setCell ⟨w.heap.size + 1, 4, none⟩ (.int .i64 8) := ⟨_, rfl⟩
          have HT : Hid (AS w V w2.heap.size g (.slice pa L.length ca) (.slice pb nR cb) r1 2 r3 0 8 (.slice p L.length c) (.slice q nR m) L R) := by rw [hV]; exact ((HS4.out.ans 0).wt 0).ans 8
          have hVs : V.heap.size = w4.heap.size := by rw [hV]; simp
          obtain ⟨gr, cr, w6, hr6, ⟨hc6, hf6⟩, hS6⟩ := as_take HT.out HP.out.2.2.1 (by omega)
          obtain ⟨V6, hV6⟩ : ∃ V6, V6 = w6.setCell ⟨g, 1, none⟩ (.slice (some ⟨gr, 0, none⟩) (nR + 1) cr) := ⟨_, rfl⟩
          rw [← hV6] at hS6
          rw [hVs] at hr6
          have HR : Hid (_ ∧ _) := ⟨hr6, hS6⟩
          have HV : Hid _ := hV
          clear hr6 hS6 hVs hV

          go_wp2_with (at_builtin; (with_reducible refine wpList_append_eq rfl _ _ 23 rfl (.slice q nR m) (.slice (some ⟨w4.heap.size, 0, none⟩) 1 1) (.slice (some ⟨gr, 0, none⟩) (nR + 1) cr) w6 ?hs ?hx ?hr ?_); (case hs => rfl); (case hx => rfl); (case hr => rw [← HV.out]; exact HR.out.1))
          rw [← hV6]
          clear hV6 hc6 hf6 a0 a1 a2 a3 a4 alt c0 c1 clt t0 t1 tf0 tf1 tlt af3 af4
          obtain ⟨_, ⟨t0, t1, _, _, tlt⟩, _, d0, d1, df0, df1, dlt⟩ := HR.out.2.cells
          obtain ⟨a0, a1, a2, a3, a4, alt⟩ := five_cells HR.out.2.b1
          have HC : Hid _ := HR.out.2.fin
          go_region
          all_goals
            go_wp2
            exact bodyPost_ret (v := .tuple #[bkV (.slice p L.length c) (.slice (some ⟨gr, 0, none⟩) (nR + 1) cr), .int .i64 8, .bool true, .int .i64 0]) (results_cttt Try.results13 rfl rfl rfl rfl (load_bk (W := (set2 V6 (w.heap.size + 1 + 1) (.slice p L.length c) (.slice (some ⟨gr, 0, none⟩) (nR + 1) cr)).drew) HC.out.1)) rfl (askPost_of HE1.out rfl (by rw [List.length_append, ← HP.out.2.2.1]; rfl) HC.out.2.1.drew HC.out.2.2.drew)
        rw [at_yes hh] at hix
        obtain ⟨i, hi⟩ : ∃ i, i = pos L r3 := ⟨_, rfl⟩
        rw [← hi] at hix
        subst hix
        have hlti : i < L.length := by rw [hi]; exact here_lt hh
        have hiI : (i : Int) < (L.length : Int) := by omega
        obtain ⟨b1, o1, hpa, hbb, z1, z2, z3, z4, z5, z6⟩ := HP.out.1 i hlti
        subst hpa
        obtain ⟨⟨x1, x2, x3, x4, x5, x6⟩, hx⟩ : ∃ x, x = L[i] := ⟨_, rfl⟩
        have e2 := (HS4.out.bel.cell (p := ⟨b1, o1 + i * 6 + 1, none⟩) hbb).trans z2
        rw [← hx] at e2
        have hst : ∀ h : here L r3 = true, (L[pos L r3]'(here_lt h)).2.1 = x2 := fun h => by simp only [← hi, ← hx]
        have HZ : Hid (_ ∧ _ ∧ _ ∧ _) := ⟨hst, hh, hi, hx⟩
        have hbX : ¬ w.heap.size + 1 = b1 := by omega
        have hbX2 : ¬ b1 = w.heap.size + 1 := by omega
        clear z1 z2 z3 z4 z5 z6 hx hst hi hh hbb
        have hs4 := state_of HLS.out.1 hlti HZ.out.2.2.2
        rcases hs4 with h | h | h | h
        · subst h
          have HG0 : Hid (_ ∧ _ ∧ _) := ⟨HZ.out.2.1, HZ.out.2.2.1, HZ.out.2.2.2⟩
          obtain ⟨g', c', he, _, hglt⟩ := HS4.out.own.lives.form (by omega)
          have hpg : p = some ⟨g', 0, none⟩ := by injection he
          subst hpg
          clear he
          have k1 := own_cell lf6 HS4.out.own.lives rfl hlti (j := 1) (by omega)
          have k4 := own_cell lf6 HS4.out.own.lives rfl hlti (j := 4) (by omega)
          have k5 := own_cell lf6 HS4.out.own.lives rfl hlti (j := 5) (by omega)
          rw [← HZ.out.2.2.2] at k1 k4 k5
          simp only [List.getElem?_cons_zero, List.getElem?_cons_succ, Option.map_some, Nat.add_zero] at k1 k4 k5
          have f1 := HS4.out.own.lives.frozenAt (i * 6 + 1)
          have f4 := HS4.out.own.lives.frozenAt (i * 6 + 4)
          have f5 := HS4.out.own.lives.frozenAt (i * 6 + 5)
          have hgX : ¬ g = g' := fun e => HS4.out.offu g' rfl e.symm
          have hgX2 : ¬ g' = g := fun e => hgX e.symm
          have hgb := (HS4.out.own.lives.lt g' rfl).1
          have hbb2 := HS4.out.hb
          have hgR : ¬ w.heap.size + 1 = g' := by omega
          have hgR2 : ¬ g' = w.heap.size + 1 := by omega
          clear hgb hbb2
          have HG : Hid (AS w (((((w4.setCell ⟨w.heap.size + 1, 4, none⟩ (.int .i64 0)).setCell ⟨w.heap.size + 1, 3, none⟩ (.int .i64 0)).setCell ⟨g', i * 6 + 1, none⟩ (.int .i64 4)).setCell ⟨g', i * 6 + 4, none⟩ (.int .i64 (now + drain))).setCell ⟨g', i * 6 + 5, none⟩ (.int .i64 r1)) w2.heap.size g (.slice (some ⟨b1, o1, none⟩) L.length ca) (.slice pb nR cb) r1 2 r3 0 0 (.slice (some ⟨g', 0, none⟩) L.length c) (.slice q nR m) (L.set i (x1, 4, x3, x4, now + drain, r1)) R) := ((HS4.out.ans 0).wt 0).put3 hlti 4 (now + drain) r1 x1 1 x3 x4 x5 x6 HZ.out.2.2.2
          obtain ⟨J, hJ⟩ : ∃ J, J = L.set i (x1, 4, x3, x4, now + drain, r1) := ⟨_, rfl⟩
          have HJ2 : Hid (_ ∧ _) := ⟨hJ, (by rw [hJ, List.length_set] : L.length = J.length)⟩
          rw [← hJ] at HG
          clear hJ
          have HE1 : Hid (O = ((J, R ++ [(r1, 2, r3, 0, 0)]), 0, true, 0)) := by
            rw [HE.out, take2 (ret_set HZ.out.2.1 HZ.out.2.2.1 hlti HZ.out.2.2.2 (by decide) (by decide) (show _ = (4 : Int) by decide)), ← HJ2.out.1]
            exact rfl
          obtain ⟨V, hV⟩ : ∃ V, V = ((((w4.setCell ⟨w.heap.size + 1, 4, none⟩ (.int .i64 0)).setCell ⟨w.heap.size + 1, 3, none⟩ (.int .i64 0)).setCell ⟨g', i * 6 + 1, none⟩ (.int .i64 4)).setCell ⟨g', i * 6 + 4, none⟩ (.int .i64 (now + drain))).setCell ⟨g', i * 6 + 5, none⟩ (.int .i64 r1) := ⟨_, rfl⟩
          have HT : Hid (AS w V w2.heap.size g (.slice (some ⟨b1, o1, none⟩) L.length ca) (.slice pb nR cb) r1 2 r3 0 0 (.slice (some ⟨g', 0, none⟩) L.length c) (.slice q nR m) J R) := by rw [hV]; exact HG.out
          have hVs : V.heap.size = w4.heap.size := by rw [hV]; simp
          obtain ⟨gr, cr, w6, hr6, ⟨hc6, hf6⟩, hS6⟩ := as_take HT.out HP.out.2.2.1 (by omega)
          obtain ⟨V6, hV6⟩ : ∃ V6, V6 = w6.setCell ⟨g, 1, none⟩ (.slice (some ⟨gr, 0, none⟩) (nR + 1) cr) := ⟨_, rfl⟩
          rw [← hV6] at hS6
          rw [hVs] at hr6
          have HR : Hid (_ ∧ _) := ⟨hr6, hS6⟩
          have HV : Hid _ := hV
          clear hr6 hS6 hVs hV

          go_wp2_with (at_builtin; (with_reducible refine wpList_append_eq rfl _ _ 23 rfl (.slice q nR m) (.slice (some ⟨w4.heap.size, 0, none⟩) 1 1) (.slice (some ⟨gr, 0, none⟩) (nR + 1) cr) w6 ?hs ?hx ?hr ?_); (case hs => rfl); (case hx => rfl); (case hr => rw [← HV.out]; exact HR.out.1))
          rw [← hV6]
          clear hV6 hc6 hf6 a0 a1 a2 a3 a4 alt c0 c1 clt t0 t1 tf0 tf1 tlt af3 af4 e2 k1 k4 k5 f1 f4 f5 hgX hgX2 hgR hgR2
          obtain ⟨_, ⟨t0, t1, _, _, tlt⟩, _, d0, d1, df0, df1, dlt⟩ := HR.out.2.cells
          obtain ⟨a0, a1, a2, a3, a4, alt⟩ := five_cells HR.out.2.b1
          have HC : Hid _ := HR.out.2.fin
          go_region
          all_goals
            go_wp2
            exact bodyPost_ret (v := .tuple #[bkV (.slice (some ⟨g', 0, none⟩) L.length c) (.slice (some ⟨gr, 0, none⟩) (nR + 1) cr), .int .i64 0, .bool true, .int .i64 0]) (results_cttt Try.results13 rfl rfl rfl rfl (load_bk (W := (set2 V6 (w.heap.size + 1 + 1) (.slice (some ⟨g', 0, none⟩) L.length c) (.slice (some ⟨gr, 0, none⟩) (nR + 1) cr)).drew) HC.out.1)) rfl (askPost_of HE1.out HJ2.out.2 (by rw [List.length_append, ← HP.out.2.2.1]; rfl) HC.out.2.1.drew HC.out.2.2.drew)
        · subst h
          have HG0 : Hid (_ ∧ _ ∧ _) := ⟨HZ.out.2.1, HZ.out.2.2.1, HZ.out.2.2.2⟩
          obtain ⟨g', c', he, _, hglt⟩ := HS4.out.own.lives.form (by omega)
          have hpg : p = some ⟨g', 0, none⟩ := by injection he
          subst hpg
          clear he
          have k1 := own_cell lf6 HS4.out.own.lives rfl hlti (j := 1) (by omega)
          have k4 := own_cell lf6 HS4.out.own.lives rfl hlti (j := 4) (by omega)
          have k5 := own_cell lf6 HS4.out.own.lives rfl hlti (j := 5) (by omega)
          rw [← HZ.out.2.2.2] at k1 k4 k5
          simp only [List.getElem?_cons_zero, List.getElem?_cons_succ, Option.map_some, Nat.add_zero] at k1 k4 k5
          have f1 := HS4.out.own.lives.frozenAt (i * 6 + 1)
          have f4 := HS4.out.own.lives.frozenAt (i * 6 + 4)
          have f5 := HS4.out.own.lives.frozenAt (i * 6 + 5)
          have hgX : ¬ g = g' := fun e => HS4.out.offu g' rfl e.symm
          have hgX2 : ¬ g' = g := fun e => hgX e.symm
          have hgb := (HS4.out.own.lives.lt g' rfl).1
          have hbb2 := HS4.out.hb
          have hgR : ¬ w.heap.size + 1 = g' := by omega
          have hgR2 : ¬ g' = w.heap.size + 1 := by omega
          clear hgb hbb2
          have HG : Hid (AS w (((((w4.setCell ⟨w.heap.size + 1, 4, none⟩ (.int .i64 0)).setCell ⟨w.heap.size + 1, 3, none⟩ (.int .i64 0)).setCell ⟨g', i * 6 + 1, none⟩ (.int .i64 3)).setCell ⟨g', i * 6 + 4, none⟩ (.int .i64 (now + drain))).setCell ⟨g', i * 6 + 5, none⟩ (.int .i64 r1)) w2.heap.size g (.slice (some ⟨b1, o1, none⟩) L.length ca) (.slice pb nR cb) r1 2 r3 0 0 (.slice (some ⟨g', 0, none⟩) L.length c) (.slice q nR m) (L.set i (x1, 3, x3, x4, now + drain, r1)) R) := ((HS4.out.ans 0).wt 0).put3 hlti 3 (now + drain) r1 x1 2 x3 x4 x5 x6 HZ.out.2.2.2
          obtain ⟨J, hJ⟩ : ∃ J, J = L.set i (x1, 3, x3, x4, now + drain, r1) := ⟨_, rfl⟩
          have HJ2 : Hid (_ ∧ _) := ⟨hJ, (by rw [hJ, List.length_set] : L.length = J.length)⟩
          rw [← hJ] at HG
          clear hJ
          have HE1 : Hid (O = ((J, R ++ [(r1, 2, r3, 0, 0)]), 0, true, 0)) := by
            rw [HE.out, take2 (ret_set HZ.out.2.1 HZ.out.2.2.1 hlti HZ.out.2.2.2 (by decide) (by decide) (show _ = (3 : Int) by decide)), ← HJ2.out.1]
            exact rfl
          obtain ⟨V, hV⟩ : ∃ V, V = ((((w4.setCell ⟨w.heap.size + 1, 4, none⟩ (.int .i64 0)).setCell ⟨w.heap.size + 1, 3, none⟩ (.int .i64 0)).setCell ⟨g', i * 6 + 1, none⟩ (.int .i64 3)).setCell ⟨g', i * 6 + 4, none⟩ (.int .i64 (now + drain))).setCell ⟨g', i * 6 + 5, none⟩ (.int .i64 r1) := ⟨_, rfl⟩
          have HT : Hid (AS w V w2.heap.size g (.slice (some ⟨b1, o1, none⟩) L.length ca) (.slice pb nR cb) r1 2 r3 0 0 (.slice (some ⟨g', 0, none⟩) L.length c) (.slice q nR m) J R) := by rw [hV]; exact HG.out
          have hVs : V.heap.size = w4.heap.size := by rw [hV]; simp
          obtain ⟨gr, cr, w6, hr6, ⟨hc6, hf6⟩, hS6⟩ := as_take HT.out HP.out.2.2.1 (by omega)
          obtain ⟨V6, hV6⟩ : ∃ V6, V6 = w6.setCell ⟨g, 1, none⟩ (.slice (some ⟨gr, 0, none⟩) (nR + 1) cr) := ⟨_, rfl⟩
          rw [← hV6] at hS6
          rw [hVs] at hr6
          have HR : Hid (_ ∧ _) := ⟨hr6, hS6⟩
          have HV : Hid _ := hV
          clear hr6 hS6 hVs hV

          go_wp2_with (at_builtin; (with_reducible refine wpList_append_eq rfl _ _ 23 rfl (.slice q nR m) (.slice (some ⟨w4.heap.size, 0, none⟩) 1 1) (.slice (some ⟨gr, 0, none⟩) (nR + 1) cr) w6 ?hs ?hx ?hr ?_); (case hs => rfl); (case hx => rfl); (case hr => rw [← HV.out]; exact HR.out.1))
          rw [← hV6]
          clear hV6 hc6 hf6 a0 a1 a2 a3 a4 alt c0 c1 clt t0 t1 tf0 tf1 tlt af3 af4 e2 k1 k4 k5 f1 f4 f5 hgX hgX2 hgR hgR2
          obtain ⟨_, ⟨t0, t1, _, _, tlt⟩, _, d0, d1, df0, df1, dlt⟩ := HR.out.2.cells
          obtain ⟨a0, a1, a2, a3, a4, alt⟩ := five_cells HR.out.2.b1
          have HC : Hid _ := HR.out.2.fin
          go_region
          all_goals
            go_wp2
            exact bodyPost_ret (v := .tuple #[bkV (.slice (some ⟨g', 0, none⟩) L.length c) (.slice (some ⟨gr, 0, none⟩) (nR + 1) cr), .int .i64 0, .bool true, .int .i64 0]) (results_cttt Try.results13 rfl rfl rfl rfl (load_bk (W := (set2 V6 (w.heap.size + 1 + 1) (.slice (some ⟨g', 0, none⟩) L.length c) (.slice (some ⟨gr, 0, none⟩) (nR + 1) cr)).drew) HC.out.1)) rfl (askPost_of HE1.out HJ2.out.2 (by rw [List.length_append, ← HP.out.2.2.1]; rfl) HC.out.2.1.drew HC.out.2.2.drew)
        · subst h
          have HE1 : Hid (O = ((L, R ++ [(r1, 2, r3, 0, 12)]), 12, true, 0)) := by
            rw [HE.out, take2 (ret_done HZ.out.2.1 (HZ.out.1 HZ.out.2.1))]
            exact rfl
          obtain ⟨V, hV⟩ : ∃ V, V = ((w4.setCell ⟨w.heap.size + 1, 4, none⟩ (.int .i64 0)).setCell ⟨w.heap.size + 1, 3, none⟩ (.int .i64 0)).setCell ⟨w.heap.size + 1, 4, none⟩ (.int .i64 12) := ⟨_, rfl⟩
          have HT : Hid (AS w V w2.heap.size g (.slice (some ⟨b1, o1, none⟩) L.length ca) (.slice pb nR cb) r1 2 r3 0 12 (.slice p L.length c) (.slice q nR m) L R) := by rw [hV]; exact ((HS4.out.ans 0).wt 0).ans 12
          have hVs : V.heap.size = w4.heap.size := by rw [hV]; simp
          obtain ⟨gr, cr, w6, hr6, ⟨hc6, hf6⟩, hS6⟩ := as_take HT.out HP.out.2.2.1 (by omega)
          obtain ⟨V6, hV6⟩ : ∃ V6, V6 = w6.setCell ⟨g, 1, none⟩ (.slice (some ⟨gr, 0, none⟩) (nR + 1) cr) := ⟨_, rfl⟩
          rw [← hV6] at hS6
          rw [hVs] at hr6
          have HR : Hid (_ ∧ _) := ⟨hr6, hS6⟩
          have HV : Hid _ := hV
          clear hr6 hS6 hVs hV

          go_wp2_with (at_builtin; (with_reducible refine wpList_append_eq rfl _ _ 23 rfl (.slice q nR m) (.slice (some ⟨w4.heap.size, 0, none⟩) 1 1) (.slice (some ⟨gr, 0, none⟩) (nR + 1) cr) w6 ?hs ?hx ?hr ?_); (case hs => rfl); (case hx => rfl); (case hr => rw [← HV.out]; exact HR.out.1))
          rw [← hV6]
          clear hV6 hc6 hf6 a0 a1 a2 a3 a4 alt c0 c1 clt t0 t1 tf0 tf1 tlt af3 af4 e2
          obtain ⟨_, ⟨t0, t1, _, _, tlt⟩, _, d0, d1, df0, df1, dlt⟩ := HR.out.2.cells
          obtain ⟨a0, a1, a2, a3, a4, alt⟩ := five_cells HR.out.2.b1
          have HC : Hid _ := HR.out.2.fin
          go_region
          all_goals
            go_wp2
            exact bodyPost_ret (v := .tuple #[bkV (.slice p L.length c) (.slice (some ⟨gr, 0, none⟩) (nR + 1) cr), .int .i64 12, .bool true, .int .i64 0]) (results_cttt Try.results13 rfl rfl rfl rfl (load_bk (W := (set2 V6 (w.heap.size + 1 + 1) (.slice p L.length c) (.slice (some ⟨gr, 0, none⟩) (nR + 1) cr)).drew) HC.out.1)) rfl (askPost_of HE1.out rfl (by rw [List.length_append, ← HP.out.2.2.1]; rfl) HC.out.2.1.drew HC.out.2.2.drew)
        · subst h
          have HE1 : Hid (O = ((L, R ++ [(r1, 2, r3, 0, 8)]), 8, true, 0)) := by
            rw [HE.out, take2 (ret_gone HZ.out.2.1 (HZ.out.1 HZ.out.2.1))]
            exact rfl
          obtain ⟨V, hV⟩ : ∃ V, V = ((w4.setCell ⟨w.heap.size + 1, 4, none⟩ (.int .i64 0)).setCell ⟨w.heap.size + 1, 3, none⟩ (.int .i64 0)).setCell ⟨w.heap.size + 1, 4, none⟩ (.int .i64 8) := ⟨_, rfl⟩
          have HT : Hid (AS w V w2.heap.size g (.slice (some ⟨b1, o1, none⟩) L.length ca) (.slice pb nR cb) r1 2 r3 0 8 (.slice p L.length c) (.slice q nR m) L R) := by rw [hV]; exact ((HS4.out.ans 0).wt 0).ans 8
          have hVs : V.heap.size = w4.heap.size := by rw [hV]; simp
          obtain ⟨gr, cr, w6, hr6, ⟨hc6, hf6⟩, hS6⟩ := as_take HT.out HP.out.2.2.1 (by omega)
          obtain ⟨V6, hV6⟩ : ∃ V6, V6 = w6.setCell ⟨g, 1, none⟩ (.slice (some ⟨gr, 0, none⟩) (nR + 1) cr) := ⟨_, rfl⟩
          rw [← hV6] at hS6
          rw [hVs] at hr6
          have HR : Hid (_ ∧ _) := ⟨hr6, hS6⟩
          have HV : Hid _ := hV
          clear hr6 hS6 hVs hV

          go_wp2_with (at_builtin; (with_reducible refine wpList_append_eq rfl _ _ 23 rfl (.slice q nR m) (.slice (some ⟨w4.heap.size, 0, none⟩) 1 1) (.slice (some ⟨gr, 0, none⟩) (nR + 1) cr) w6 ?hs ?hx ?hr ?_); (case hs => rfl); (case hx => rfl); (case hr => rw [← HV.out]; exact HR.out.1))
          rw [← hV6]
          clear hV6 hc6 hf6 a0 a1 a2 a3 a4 alt c0 c1 clt t0 t1 tf0 tf1 tlt af3 af4 e2
          obtain ⟨_, ⟨t0, t1, _, _, tlt⟩, _, d0, d1, df0, df1, dlt⟩ := HR.out.2.cells
          obtain ⟨a0, a1, a2, a3, a4, alt⟩ := five_cells HR.out.2.b1
          have HC : Hid _ := HR.out.2.fin
          go_region
          all_goals
            go_wp2
            exact bodyPost_ret (v := .tuple #[bkV (.slice p L.length c) (.slice (some ⟨gr, 0, none⟩) (nR + 1) cr), .int .i64 8, .bool true, .int .i64 0]) (results_cttt Try.results13 rfl rfl rfl rfl (load_bk (W := (set2 V6 (w.heap.size + 1 + 1) (.slice p L.length c) (.slice (some ⟨gr, 0, none⟩) (nR + 1) cr)).drew) HC.out.1)) rfl (askPost_of HE1.out rfl (by rw [List.length_append, ← HP.out.2.2.1]; rfl) HC.out.2.1.drew HC.out.2.2.drew)
end Go.Proofs.Ytlpedligkofegaa.Walks
