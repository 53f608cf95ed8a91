/-
  life, part 1: contracts of its functions, and what they lean on. Conditions: what is read can be read.
-/
import Derived.Test.YtlphohahijeimaaChecked
import Derived.Test.YtlphohahijeimaaRows
import Derived.Deep.MidRow
import Derived.Deep.Upon
import Derived.WalkKit
import Derived.ProofKit
import Derived.Handy
import Derived.LoopTactic
import Derived.Below
import Derived.Laws.BitsAllLaws
import Derived.RegionTactic
import Derived.Deep.RegionHeld3
import Derived.Deep.DrawnRows
import Derived.Deep.AppendLies
import Derived.Laws.OwnMore
import Derived.Deep.Onto
import Derived.Deep.QuietTactic
import Derived.BigQuiet
import Derived.Shelf.SlSortCmp.QuietGrown
import Derived.Maps.OwnSet
import Derived.Maps.Views
import Derived.Deep.CutRange
namespace Go.Proofs.Ytlphohahijeimaa.Li
open Go.RowKit
set_option linter.unusedVariables false
set_option linter.unusedSimpArgs false
attribute [local go_sem ↓] Go.wp_at_zero Go.wp_at_succ
section
def RowAt (w : World) (v : Value) (n : Nat) (xs : List Value) : Prop :=
  ∃ a cap, v = .slice a n cap ∧ n ≤ cap ∧ cap ≤ maxLen ∧ (n = 0 ∧ xs = [] ∨ ∃ b off, a = some ⟨b, off, none⟩ ∧ b < w.heap.size ∧ ∀ i, i < xs.length → w.cell? ⟨b, off + i, none⟩ = xs[i]?)

theorem RowAt.below {w w' : World} {v : Value} {n : Nat} {xs : List Value} (h : RowAt w v n xs) (hb : Below w.heap.size w w') : RowAt w' v n xs := by
  obtain ⟨a, cap, hv, hc, hm, h1 | ⟨b, off, h1, h2, h3⟩⟩ := h
  · exact ⟨a, cap, hv, hc, hm, .inl h1⟩
  · exact ⟨a, cap, hv, hc, hm, .inr ⟨b, off, h1, Nat.lt_of_lt_of_le h2 hb.size, fun i hi => by rw [hb.cell (p := ⟨b, off + i, none⟩) h2]; exact h3 i hi⟩⟩

theorem below_drewN {B : Nat} {a w : World} (h : Below B a w) (n : Nat) : Below B a (w.drewN n) := h.trans ⟨rfl, rfl, rfl, Nat.le_refl _, fun _ _ => rfl⟩

theorem own_block {w w' : World} {base : Nat} {e : TypeId} {k : Nat} {v : Value} {n : Nat} {xs : List Value} (h : w.ownsRow base e k v n xs) (hs : ∀ g, v.ownBlock = some g → w'.heap[g]? = w.heap[g]?) : w'.ownsRow base e k v n xs := by
  refine ⟨h.1, ?_⟩
  rcases h.2 with hn | ⟨g, cap, cur, rfl, hb, hgg, rest⟩
  · exact .inl hn
  · exact .inr ⟨g, cap, cur, rfl, hb, by rw [hs g rfl]; exact hgg, rest⟩

theorem heap_old (w : World) (o : Obj) {k : Nat} {x : Obj} (h : w.heap[k]? = some x) : (w.alloc o).heap[k]? = some x := by
  rw [Below.heap_alloc _ _ _ (Array.getElem?_eq_some_iff.1 h).1]; exact h

theorem heap_second (w : World) (o p : Obj) : ((w.alloc o).alloc p).heap[w.heap.size + 1]? = some p := by
  have := heap_alloc_new (w.alloc o) p
  simpa using this

theorem two_cells {w : World} {g : Nat} {a b : Value} {T : TypeId} (h : w.heap[g]? = some (.cells #[a, b] T (0, 0))) : w.cell? ⟨g, 0, none⟩ = some a ∧ w.cell? ⟨g, 1, none⟩ = some b ∧ w.frozen? ⟨g, 0, none⟩ = false ∧ w.frozen? ⟨g, 1, none⟩ = false ∧ g < w.heap.size := by
  refine ⟨by simp [World.cell?, h], by simp [World.cell?, h], by simp [World.frozen?, h], by simp [World.frozen?, h], ?_⟩
  exact (Array.getElem?_eq_some_iff.1 h).1

theorem own_grownW {w w' : World} {base : Nat} {e : TypeId} {k : Nat} {v : Value} {n : Nat} {xs : List Value} (h : w.ownsRow base e k v n xs) (hb : Below w.heap.size w w') : w'.ownsRow base e k v n xs := own_block h fun g hg => hb.block g (h.lt g hg).2

theorem box_below {w w' : World} {g : Nat} {o : Obj} (h : w.heap[g]? = some o) (hb : Below w.heap.size w w') : w'.heap[g]? = some o := (hb.block g (Array.getElem?_eq_some_iff.1 h).1).trans h

theorem below_new (w : World) {o : Obj} : Below w.heap.size w (w.alloc o) := (Below.refl _ _).alloc (Nat.le_refl _) _

end

section
def recs {α : Type} (c : α → List Int) : List α → List Value
  | [] => []
  | x :: l => (c x).map (Value.int .i64) ++ recs c l

section

variable {α : Type} {c : α → List Int} {k : Nat}

theorem recs_len (hk : ∀ x, (c x).length = k) : ∀ l : List α, (recs c l).length = l.length * k
  | [] => by simp [recs]
  | x :: l => by
    simp only [recs, List.length_append, List.length_map, hk, recs_len hk l, List.length_cons, Nat.add_mul]
    omega

theorem recs_at (hk : ∀ x, (c x).length = k) : ∀ (l : List α) (i j : Nat) (hi : i < l.length), j < k → (recs c l)[i * k + j]? = ((c l[i])[j]?).map (Value.int .i64)
  | x :: l, 0, j, _, hj => by
    simp only [recs, Nat.zero_mul, Nat.zero_add, List.getElem_cons_zero]
    rw [List.getElem?_append_left (by simp [hk, hj]), List.getElem?_map]
  | x :: l, i + 1, j, hi, hj => by
    have h2 := recs_at hk l i j (by simpa using hi) hj
    simp only [recs, List.getElem_cons_succ]
    rw [List.getElem?_append_right (by simp only [List.length_map, hk, Nat.add_mul]; omega), ← h2]
    congr 1
    simp only [List.length_map, hk, Nat.add_mul]
    omega

end

def RcAt {α : Type} (c : α → List Int) (w : World) (v : Value) (l : List α) : Prop := RowAt w v l.length (recs c l)

section

variable {α : Type} {c : α → List Int} {k : Nat} {w w' : World} {v : Value} {l : List α}

theorem RcAt.below (h : RcAt c w v l) (hb : Below w.heap.size w w') : RcAt c w' v l := RowAt.below h hb

theorem RcAt.parts (hk : ∀ x, (c x).length = k) (h : RcAt c w v l) :
    ∃ a cap, v = .slice a l.length cap ∧ l.length ≤ cap ∧ cap ≤ maxLen ∧ ∀ i (hi : i < l.length), ∃ b off, a = some ⟨b, off, none⟩ ∧ b < w.heap.size ∧ ∀ j, j < k → w.cell? ⟨b, off + i * k + j, none⟩ = ((c l[i])[j]?).map (Value.int .i64) := by
  obtain ⟨a, cap, hv, hc, hm, h1 | ⟨b, off, h1, h2, h3⟩⟩ := h
  · exact ⟨a, cap, hv, hc, hm, fun i hi => absurd hi (by omega)⟩
  · refine ⟨a, cap, hv, hc, hm, fun i hi => ⟨b, off, h1, h2, fun j hj => ?_⟩⟩
    have hlt : i * k + j < l.length * k := by
      have : (i + 1) * k ≤ l.length * k := Nat.mul_le_mul_right _ hi
      rw [Nat.add_mul] at this
      omega
    rw [Nat.add_assoc, h3 (i * k + j) (by rw [recs_len hk]; exact hlt)]
    exact recs_at hk l i j hi hj

variable {t e : TypeId} {z : Value} {bytes : Nat}

end

end

section
abbrev Lf := Int × Int × Int × Int × Int × Int

abbrev Rq := Int × Int × Int × Int × Int

abbrev lfC (x : Lf) : List Int := [x.1, x.2.1, x.2.2.1, x.2.2.2.1, x.2.2.2.2.1, x.2.2.2.2.2]

abbrev rqC (x : Rq) : List Int := [x.1, x.2.1, x.2.2.1, x.2.2.2.1, x.2.2.2.2]

theorem lf6 (x : Lf) : (lfC x).length = 6 := rfl

theorem rq5 (x : Rq) : (rqC x).length = 5 := rfl

end

section
open Go.Sort (grow grow_empty grow_grow alloc_eq_grow cell?_grow heap_grow_old)

abbrev lfO (x1 x2 x3 x4 x5 x6 : Int) : Obj := .cells #[.int .i64 x1, .int .i64 x2, .int .i64 x3, .int .i64 x4, .int .i64 x5, .int .i64 x6] 95

abbrev rqO (x1 x2 x3 x4 x5 : Int) : Obj := .cells #[.int .i64 x1, .int .i64 x2, .int .i64 x3, .int .i64 x4, .int .i64 x5] 97

end

section
open Go.Sort (grow grow_empty grow_grow alloc_eq_grow cell?_grow heap_grow_old)

abbrev LvAt (w : World) (v : Value) (L : List Lf) : Prop := RcAt lfC w v L

abbrev RsAt (w : World) (v : Value) (R : List Rq) : Prop := RcAt rqC w v R

theorem LvAt.parts {w : World} {v : Value} {l : List Lf} (h : LvAt w v l) :
    ∃ a cap, v = .slice a l.length cap ∧ l.length ≤ cap ∧ cap ≤ maxLen ∧ ∀ i (hi : i < l.length), ∃ b off, a = some ⟨b, off, none⟩ ∧ b < w.heap.size ∧ w.cell? ⟨b, off + i * 6, none⟩ = some (.int .i64 l[i].1) ∧ w.cell? ⟨b, off + i * 6 + 1, none⟩ = some (.int .i64 l[i].2.1) ∧ w.cell? ⟨b, off + i * 6 + 2, none⟩ = some (.int .i64 l[i].2.2.1) ∧ w.cell? ⟨b, off + i * 6 + 3, none⟩ = some (.int .i64 l[i].2.2.2.1) ∧ w.cell? ⟨b, off + i * 6 + 4, none⟩ = some (.int .i64 l[i].2.2.2.2.1) ∧ w.cell? ⟨b, off + i * 6 + 5, none⟩ = some (.int .i64 l[i].2.2.2.2.2) := by
  obtain ⟨a, cap, h1, h2, h3, h4⟩ := RcAt.parts lf6 h
  refine ⟨a, cap, h1, h2, h3, fun i hi => ?_⟩
  obtain ⟨b, off, e, hb, hc⟩ := h4 i hi
  exact ⟨b, off, e, hb, hc 0 (by omega), hc 1 (by omega), hc 2 (by omega), hc 3 (by omega), hc 4 (by omega), hc 5 (by omega)⟩

theorem RsAt.parts {w : World} {v : Value} {l : List Rq} (h : RsAt w v l) :
    ∃ a cap, v = .slice a l.length cap ∧ l.length ≤ cap ∧ cap ≤ maxLen ∧ ∀ i (hi : i < l.length), ∃ b off, a = some ⟨b, off, none⟩ ∧ b < w.heap.size ∧ w.cell? ⟨b, off + i * 5, none⟩ = some (.int .i64 l[i].1) ∧ w.cell? ⟨b, off + i * 5 + 1, none⟩ = some (.int .i64 l[i].2.1) ∧ w.cell? ⟨b, off + i * 5 + 2, none⟩ = some (.int .i64 l[i].2.2.1) ∧ w.cell? ⟨b, off + i * 5 + 3, none⟩ = some (.int .i64 l[i].2.2.2.1) ∧ w.cell? ⟨b, off + i * 5 + 4, none⟩ = some (.int .i64 l[i].2.2.2.2) := by
  obtain ⟨a, cap, h1, h2, h3, h4⟩ := RcAt.parts rq5 h
  refine ⟨a, cap, h1, h2, h3, fun i hi => ?_⟩
  obtain ⟨b, off, e, hb, hc⟩ := h4 i hi
  exact ⟨b, off, e, hb, hc 0 (by omega), hc 1 (by omega), hc 2 (by omega), hc 3 (by omega), hc 4 (by omega)⟩

end

section
open Go.Sort (grow grow_empty grow_grow alloc_eq_grow cell?_grow heap_grow_old)

open Go.Maps (Keyed int_keyed keyOf_int_mk)

def MpAt (w : World) (b : Nat) (ids : List Int) : Prop :=
  ∃ (n : Nat) (D : DataW Unit), w.ownsMap Try.prog 3 (plainElem Try.prog 3) b n D ∧ n ≤ ids.length ∧ (∀ id, (Lit.int .i64 id).wf = true → Maps.has D (.int .i64 id) = decide (id ∈ ids)) ∧ Maps.size D ≤ ids.length ∧ (Maps.size D = ids.length ↔ ids.Pairwise (· ≠ ·))

theorem MpAt.lt {w : World} {b : Nat} {ids : List Int} (h : MpAt w b ids) : b < w.heap.size := by
  obtain ⟨n, D, ⟨es, clock, h1, h2⟩, h3⟩ := h
  exact (Array.getElem?_eq_some_iff.1 h1).1

end

section
abbrev bkV (va vb : Value) : Value := .agg #[va, vb]

abbrev bkO (va vb : Value) : Obj := .cells #[va, vb] 38

abbrev BkAt (w : World) (va vb : Value) (L : List Lf) (R : List Rq) : Prop := LvAt w va L ∧ RsAt w vb R

theorem BkAt.below {w w' : World} {va vb : Value} {L : List Lf} {R : List Rq} (h : BkAt w va vb L R) (hb : Below w.heap.size w w') : BkAt w' va vb L R := ⟨RcAt.below h.1 hb, RcAt.below h.2 hb⟩

end

section
section

variable {base : Nat} {W W' : World} {T : Nat} {va vb : Value} {L : List Lf} {R : List Rq}

end

end

section
structure Kept (S : Nat → Prop) (w w' : World) : Prop where
  os : w'.os = w.os
  tape : w'.tape = w.tape
  output : w'.output = w.output
  size : w.heap.size ≤ w'.heap.size
  block : ∀ g, g < w.heap.size → ¬ S g → w'.heap[g]? = w.heap[g]?

section

variable {S : Nat → Prop} {w w' w'' : World}

theorem Kept.alloc (h : Kept S w w') (o : Obj) : Kept S w (w'.alloc o) :=
  ⟨h.os, h.tape, h.output, by simpa using Nat.le_succ_of_le h.size, fun g hg hs => (Below.heap_alloc _ _ _ (Nat.lt_of_lt_of_le hg h.size)).trans (h.block g hg hs)⟩

theorem Kept.trans (h1 : Kept S w w') (h2 : Kept S w' w'') : Kept S w w'' :=
  ⟨h2.os.trans h1.os, h2.tape.trans h1.tape, h2.output.trans h1.output, Nat.le_trans h1.size h2.size, fun g hg hs => (h2.block g (Nat.lt_of_lt_of_le hg h1.size) hs).trans (h1.block g hg hs)⟩

theorem Kept.below (h : Kept S w w') {B : Nat} (hB : B ≤ w.heap.size) (hS : ∀ g, S g → B ≤ g) : Below B w w' :=
  ⟨h.os, h.tape, h.output, h.size, fun g hg => h.block g (Nat.lt_of_lt_of_le hg hB) (fun hs => by have := hS g hs; omega)⟩

theorem Kept.box (h : Kept S w w') {g : Nat} {o : Obj} (hg : w.heap[g]? = some o) (hs : ¬ S g) : w'.heap[g]? = some o := (h.block g (Array.getElem?_eq_some_iff.1 hg).1 hs).trans hg

end

end

section
end

section
abbrev inC (n : Int) : List Int := [n]

theorem in1 (n : Int) : (inC n).length = 1 := rfl

abbrev InAt (w : World) (v : Value) (l : List Int) : Prop := RcAt inC w v l

end

section
abbrev BkNew (B : Nat) (w : World) (va vb : Value) (L : List Lf) (R : List Rq) : Prop := BkAt w va vb L R ∧ (∀ b, va.ownBlock = some b → B ≤ b) ∧ (∀ b, vb.ownBlock = some b → B ≤ b)

theorem two_boxes (w : World) (o r : Obj) : ((w.alloc o).alloc r).heap[w.heap.size]? = some o ∧ ((w.alloc o).alloc r).heap[w.heap.size + 1]? = some r ∧ Below w.heap.size w ((w.alloc o).alloc r) ∧ ((w.alloc o).alloc r).heap.size = w.heap.size + 2 :=
  ⟨heap_old _ _ (heap_alloc_new _ _), heap_second _ _ _, ((Below.refl _ _).alloc (Nat.le_refl _) _).alloc (by simp) _, by simp⟩

end

section
structure Own2 (base : Nat) (W : World) (va vb : Value) (L : List Lf) (R : List Rq) : Prop where
  lives : W.ownsRow base 95 6 va L.length (recs lfC L)
  reqs : W.ownsRow base 97 5 vb R.length (recs rqC R)
  apart : ∀ g, va.ownBlock = some g → vb.ownBlock ≠ some g

theorem Own2.below {base : Nat} {W W' : World} {va vb : Value} {L : List Lf} {R : List Rq} (h : Own2 base W va vb L R) (hb : Below W.heap.size W W') : Own2 base W' va vb L R := ⟨own_grownW h.lives hb, own_grownW h.reqs hb, h.apart⟩

end

section
theorem InAt.parts {w : World} {v : Value} {l : List Int} (h : InAt w v l) :
    ∃ a cap, v = .slice a l.length cap ∧ l.length ≤ cap ∧ cap ≤ maxLen ∧ ∀ i (hi : i < l.length), ∃ b off, a = some ⟨b, off, none⟩ ∧ b < w.heap.size ∧ w.cell? ⟨b, off + i, none⟩ = some (.int .i64 l[i]) := by
  obtain ⟨a, cap, h1, h2, h3, h4⟩ := RcAt.parts in1 h
  refine ⟨a, cap, h1, h2, h3, fun i hi => ?_⟩
  obtain ⟨b, off, e, hb, hc⟩ := h4 i hi
  have := hc 0 (by omega)
  rw [Nat.mul_one, Nat.add_zero] at this
  exact ⟨b, off, e, hb, this⟩

set_option maxHeartbeats 4000000 in
set_option maxRecDepth 100000 in
theorem sameBookL (ua ub va vb : Value) (L : List Lf) (R : List Rq) (w : World) (hu : BkAt w ua ub L R) (hv : BkAt w va vb L R) :
    Calls Try.prog 25 #[bkV ua ub, bkV va vb] w fun r w' => r = .returned (.bool true) ∧ Below w.heap.size w w' := by
  obtain ⟨p1, c1, rfl, hc1, hm1, pl1⟩ := LvAt.parts hu.1
  obtain ⟨p2, c2, rfl, hc2, hm2, pr1⟩ := RsAt.parts hu.2
  obtain ⟨p3, c3, rfl, hc3, hm3, pl2⟩ := LvAt.parts hv.1
  obtain ⟨p4, c4, rfl, hc4, hm4, pr2⟩ := RsAt.parts hv.2
  unfold maxLen at hm1 hm2 hm3 hm4
  obtain ⟨W0, hW0⟩ : ∃ W0, W0 = (w.alloc (bkO (.slice p1 L.length c1) (.slice p2 R.length c2))).alloc (bkO (.slice p3 L.length c3) (.slice p4 R.length c4)) := ⟨_, rfl⟩
  have hx := two_boxes w (bkO (.slice p1 L.length c1) (.slice p2 R.length c2)) (bkO (.slice p3 L.length c3) (.slice p4 R.length c4))
  rw [← hW0] at hx
  obtain ⟨hR0, hR1, hB0, hs0⟩ := hx
  obtain ⟨k0, k1, _, _, hlt0⟩ := two_cells hR0
  obtain ⟨k2, k3, _, _, hlt1⟩ := two_cells hR1
  have H : Hid (_ ∧ _ ∧ _ ∧ _ ∧ _) := ⟨pl1, pr1, pl2, pr2, hB0⟩
  clear hu hv pl1 pl2 pr1 pr2 hR0 hR1 hs0
  go_enter Try.func25, Try.ntmps25
  go_wp2
  rw [← hW0]
  clear hW0
  go_loopw [5] (fun i wr => ∃ k q : Nat, i = .int .i64 k ∧ k ≤ L.length ∧ wr = W0.drewN q) (fun i _ => L.length - (intOf i).toNat)
  case atStart => exact ⟨0, 0, rfl, Nat.zero_le _, rfl⟩
  case round =>
    obtain ⟨k, q, rfl, hk, rfl⟩ := hrel
    by_cases hlt : k < L.length
    · obtain ⟨b1, o1, h1, hb1, d1, d2, d3, d4, d5, d6⟩ := H.out.1 k hlt
      obtain ⟨b2, o2, h2, hb2, z1, z2, z3, z4, z5, z6⟩ := H.out.2.2.1 k hlt
      subst h1 h2
      have e1 := (hB0.cell (p := ⟨b1, o1 + k * 6, none⟩) hb1).trans d1
      have f1 := (hB0.cell (p := ⟨b2, o2 + k * 6, none⟩) hb2).trans z1
      have e2 := (hB0.cell (p := ⟨b1, o1 + k * 6 + 1, none⟩) hb1).trans d2
      have f2 := (hB0.cell (p := ⟨b2, o2 + k * 6 + 1, none⟩) hb2).trans z2
      have e3 := (hB0.cell (p := ⟨b1, o1 + k * 6 + 2, none⟩) hb1).trans d3
      have f3 := (hB0.cell (p := ⟨b2, o2 + k * 6 + 2, none⟩) hb2).trans z3
      have e4 := (hB0.cell (p := ⟨b1, o1 + k * 6 + 3, none⟩) hb1).trans d4
      have f4 := (hB0.cell (p := ⟨b2, o2 + k * 6 + 3, none⟩) hb2).trans z4
      have e5 := (hB0.cell (p := ⟨b1, o1 + k * 6 + 4, none⟩) hb1).trans d5
      have f5 := (hB0.cell (p := ⟨b2, o2 + k * 6 + 4, none⟩) hb2).trans z5
      have e6 := (hB0.cell (p := ⟨b1, o1 + k * 6 + 5, none⟩) hb1).trans d6
      have f6 := (hB0.cell (p := ⟨b2, o2 + k * 6 + 5, none⟩) hb2).trans z6
      obtain ⟨⟨x1, x2, x3, x4, x5, x6⟩, hxk⟩ : ∃ x, x = L[k] := ⟨_, rfl⟩
      rw [← hxk] at e1 e2 e3 e4 e5 e6 f1 f2 f3 f4 f5 f6
      clear hxk d1 d2 d3 d4 d5 d6 z1 z2 z3 z4 z5 z6 hb1 hb2
      have hkI : (k : Int) < (L.length : Int) := by omega
      have hkd : decide ((k : Int) < (L.length : Int)) = true := decide_eq_true hkI
      go_wp2
      go_region
      go_wp2
      go_roundw
      case rel => exact ⟨k + 1, q + 1, by simp, hlt, rfl⟩
      case measure => simp [intOf]; omega
    · have hkd : ¬ ((k : Int) < (L.length : Int)) := by omega
      go_wp2
      go_loopw [6] (fun i wr => ∃ k q : Nat, i = .int .i64 k ∧ k ≤ R.length ∧ wr = W0.drewN q) (fun i _ => R.length - (intOf i).toNat)
      case atStart => exact ⟨0, q, rfl, Nat.zero_le _, rfl⟩
      case round =>
        obtain ⟨k, q, rfl, hk, rfl⟩ := hrel
        by_cases hlt : k < R.length
        · obtain ⟨b1, o1, h1, hb1, d1, d2, d3, d4, d5⟩ := H.out.2.1 k hlt
          obtain ⟨b2, o2, h2, hb2, z1, z2, z3, z4, z5⟩ := H.out.2.2.2.1 k hlt
          subst h1 h2
          have e1 := (hB0.cell (p := ⟨b1, o1 + k * 5, none⟩) hb1).trans d1
          have f1 := (hB0.cell (p := ⟨b2, o2 + k * 5, none⟩) hb2).trans z1
          have e2 := (hB0.cell (p := ⟨b1, o1 + k * 5 + 1, none⟩) hb1).trans d2
          have f2 := (hB0.cell (p := ⟨b2, o2 + k * 5 + 1, none⟩) hb2).trans z2
          have e3 := (hB0.cell (p := ⟨b1, o1 + k * 5 + 2, none⟩) hb1).trans d3
          have f3 := (hB0.cell (p := ⟨b2, o2 + k * 5 + 2, none⟩) hb2).trans z3
          have e4 := (hB0.cell (p := ⟨b1, o1 + k * 5 + 3, none⟩) hb1).trans d4
          have f4 := (hB0.cell (p := ⟨b2, o2 + k * 5 + 3, none⟩) hb2).trans z4
          have e5 := (hB0.cell (p := ⟨b1, o1 + k * 5 + 4, none⟩) hb1).trans d5
          have f5 := (hB0.cell (p := ⟨b2, o2 + k * 5 + 4, none⟩) hb2).trans z5
          obtain ⟨⟨x1, x2, x3, x4, x5⟩, hxk⟩ : ∃ x, x = R[k] := ⟨_, rfl⟩
          rw [← hxk] at e1 e2 e3 e4 e5 f1 f2 f3 f4 f5
          clear hxk d1 d2 d3 d4 d5 z1 z2 z3 z4 z5 hb1 hb2
          have hkI : (k : Int) < (R.length : Int) := by omega
          have hkd2 : decide ((k : Int) < (R.length : Int)) = true := decide_eq_true hkI
          go_wp2
          go_region
          go_wp2
          go_roundw
          case rel => exact ⟨k + 1, q + 1, by simp, hlt, rfl⟩
          case measure => simp [intOf]; omega
        · have hkd2 : ¬ ((k : Int) < (R.length : Int)) := by omega
          go_wp2
          go_ret
          exact ⟨rfl, below_drewN H.out.2.2.2.2 q⟩

end

section
def Bx (w W : World) (g : Nat) (va vb : Value) (L : List Lf) (R : List Rq) : Prop := W.heap[g]? = some (bkO va vb) ∧ BkAt W va vb L R ∧ Below w.heap.size w W

theorem Bx.below {w W W' : World} {g : Nat} {va vb : Value} {L : List Lf} {R : List Rq} (h : Bx w W g va vb L R) (hb : Below W.heap.size W W') : Bx w W' g va vb L R := ⟨box_below h.1 hb, h.2.1.below hb, h.2.2.trans (hb.mono h.2.2.size)⟩

theorem Bx.alloc {w W : World} {g : Nat} {va vb : Value} {L : List Lf} {R : List Rq} (h : Bx w W g va vb L R) (o : Obj) : Bx w (W.alloc o) g va vb L R := h.below (below_new _)

theorem Bx.cells {w W : World} {g : Nat} {va vb : Value} {L : List Lf} {R : List Rq} (h : Bx w W g va vb L R) : W.cell? ⟨g, 0, none⟩ = some va ∧ W.cell? ⟨g, 1, none⟩ = some vb ∧ g < W.heap.size := by
  obtain ⟨h0, h1, _, _, h2⟩ := two_cells h.1
  exact ⟨h0, h1, h2⟩

end

section
open Go.Sort (grow grow_empty grow_grow alloc_eq_grow cell?_grow heap_grow_old)

structure JS (w W : World) (x y : Value) (n m : Int) (v : Value) : Prop where
  b0 : W.heap[w.heap.size]? = some (bkO x y)
  b1 : W.heap[w.heap.size + 1]? = some (lfO n 1 m 0 0 0)
  b2 : W.heap[w.heap.size + 1 + 1]? = some (bkO (.slice none 0 0) (.slice none 0 0))
  b3 : W.heap[w.heap.size + 1 + 1 + 1]? = some (bkO v y)
  bel : Below w.heap.size w W
  sz : w.heap.size + 4 ≤ W.heap.size

theorem JS.drewN {w W : World} {x y : Value} {n m : Int} {v : Value} (h : JS w W x y n m v) (q : Nat) : JS w (W.drewN q) x y n m v := ⟨h.b0, h.b1, h.b2, h.b3, below_drewN h.bel q, h.sz⟩

end

section
structure St (w W : World) (va vb : Value) (L : List Lf) (R : List Rq) : Prop where
  res : W.heap[w.heap.size]? = some (bkO (.slice none 0 0) (.slice none 0 0))
  box : W.heap[w.heap.size + 1]? = some (bkO va vb)
  bk : BkNew (w.heap.size + 1 + 1) W va vb L R
  bel : Below w.heap.size w W
  sz : w.heap.size + 1 + 1 ≤ W.heap.size

theorem BkNew.below {B : Nat} {W W' : World} {va vb : Value} {L : List Lf} {R : List Rq} (h : BkNew B W va vb L R) (hb : Below W.heap.size W W') : BkNew B W' va vb L R := ⟨h.1.below hb, h.2⟩

theorem BkNew.mono {B B' : Nat} {W : World} {va vb : Value} {L : List Lf} {R : List Rq} (h : BkNew B W va vb L R) (hB : B' ≤ B) : BkNew B' W va vb L R := ⟨h.1, fun b e => Nat.le_trans hB (h.2.1 b e), fun b e => Nat.le_trans hB (h.2.2 b e)⟩

theorem St.below {w W W' : World} {va vb : Value} {L : List Lf} {R : List Rq} (h : St w W va vb L R) (hb : Below W.heap.size W W') : St w W' va vb L R :=
  ⟨box_below h.res hb, box_below h.box hb, h.bk.below hb, h.bel.trans (hb.mono h.bel.size), Nat.le_trans h.sz hb.size⟩

end

section
structure AS (w W : World) (base g : Nat) (x y : Value) (a1 a2 a3 a4 a5 : Int) (u v : Value) (L : List Lf) (R : List Rq) : Prop where
  b0 : W.heap[w.heap.size]? = some (bkO x y)
  b1 : W.heap[w.heap.size + 1]? = some (rqO a1 a2 a3 a4 a5)
  b2 : W.heap[w.heap.size + 1 + 1]? = some (bkO (.slice none 0 0) (.slice none 0 0))
  out : W.heap[g]? = some (bkO u v)
  own : Own2 base W u v L R
  offu : ∀ b, u.ownBlock = some b → b ≠ g
  offv : ∀ b, v.ownBlock = some b → b ≠ g
  bel : Below w.heap.size w W
  hb : w.heap.size + 1 + 1 < base
  hg : base ≤ g

section

variable {w W W' : World} {base g : Nat} {x y : Value} {a1 a2 a3 a4 a5 : Int} {u v : Value} {L : List Lf} {R : List Rq}

theorem AS.below (h : AS w W base g x y a1 a2 a3 a4 a5 u v L R) (hb : Below W.heap.size W W') : AS w W' base g x y a1 a2 a3 a4 a5 u v L R :=
  ⟨box_below h.b0 hb, box_below h.b1 hb, box_below h.b2 hb, box_below h.out hb, h.own.below hb, h.offu, h.offv, h.bel.trans (hb.mono h.bel.size), h.hb, h.hg⟩

theorem AS.drewN (h : AS w W base g x y a1 a2 a3 a4 a5 u v L R) (q : Nat) : AS w (W.drewN q) base g x y a1 a2 a3 a4 a5 u v L R := h.below (below_drewN (Below.refl _ _) q)

theorem AS.lt (h : AS w W base g x y a1 a2 a3 a4 a5 u v L R) : g < W.heap.size := (Array.getElem?_eq_some_iff.1 h.out).1

theorem AS.cells (h : AS w W base g x y a1 a2 a3 a4 a5 u v L R) : (W.cell? ⟨w.heap.size, 0, none⟩ = some x ∧ W.cell? ⟨w.heap.size, 1, none⟩ = some y ∧ w.heap.size < W.heap.size) ∧ (W.cell? ⟨g, 0, none⟩ = some u ∧ W.cell? ⟨g, 1, none⟩ = some v ∧ W.frozen? ⟨g, 0, none⟩ = false ∧ W.frozen? ⟨g, 1, none⟩ = false ∧ g < W.heap.size) ∧ (W.frozen? ⟨w.heap.size + 1, 3, none⟩ = false ∧ W.frozen? ⟨w.heap.size + 1, 4, none⟩ = false) ∧ (W.cell? ⟨w.heap.size + 1 + 1, 0, none⟩ = some (.slice none 0 0) ∧ W.cell? ⟨w.heap.size + 1 + 1, 1, none⟩ = some (.slice none 0 0) ∧ W.frozen? ⟨w.heap.size + 1 + 1, 0, none⟩ = false ∧ W.frozen? ⟨w.heap.size + 1 + 1, 1, none⟩ = false ∧ w.heap.size + 1 + 1 < W.heap.size) := by
  obtain ⟨p0, p1, _, _, p2⟩ := two_cells h.b0
  obtain ⟨q0, q1, q2, q3, q4⟩ := two_cells h.b2
  exact ⟨⟨p0, p1, p2⟩, two_cells h.out, ⟨by simp [World.frozen?, h.b1], by simp [World.frozen?, h.b1]⟩, q0, q1, q2, q3, q4⟩

end

end

end Go.Proofs.Ytlphohahijeimaa.Li
