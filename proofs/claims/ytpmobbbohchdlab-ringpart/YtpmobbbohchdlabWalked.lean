/-
  The document's walk behind a key. Condition: the ring's spots can be read.
-/
import Derived.Test.YtpmobbbohchdlabWalkP
import Derived.Test.YtpmobbbohchdlabLAdds
import Derived.WalkKit
import Derived.ProofKit
import Derived.Handy
import Derived.LoopTactic
import Derived.Below
import Derived.Laws.BitsAllLaws
import Derived.RegionTactic
import Derived.Deep.RegionHeld3
import Derived.Deep.DrawnRows
import Derived.Deep.AppendLies
import Derived.Laws.OwnMore
import Derived.Deep.Onto
import Derived.Deep.QuietTactic
import Derived.BigQuiet
namespace Go.Proofs.Ytpmobbbohchdlab.Walks
open Go.RowKit
set_option linter.unusedVariables false
set_option linter.unusedSimpArgs false
attribute [local go_sem ↓] Go.wp_at_zero Go.wp_at_succ

/-- What Walk leaves. -/
def WalkRes (l : List Tm) (key : Int) (w : World) (r : Ending) (w' : World) : Prop := ∃ (y : Value) (e : Int), r = .returned (.tuple #[y, .int .i64 e]) ∧ Below w.heap.size w w' ∧
  ((¬ RingOk l ∧ e = 6 ∧ y = .slice none 0 0) ∨ (RingOk l ∧ ¬ (0 ≤ key ∧ key ≤ 4294967295) ∧ e = 2 ∧ y = .slice none 0 0) ∨
    (RingOk l ∧ (0 ≤ key ∧ key ≤ 4294967295) ∧ e = 0 ∧ w'.ownsRow w.heap.size 3 1 y (walkAt l (keyMix key.toNat : Nat)).length (icells (walkAt l (keyMix key.toNat : Nat)))))

/-- What Walk answers. -/
def walkOut (l : List Tm) (key : Int) [Decidable (RingOk l)] : Int × List Int :=
  if ¬ RingOk l then (6, []) else if ¬ (0 ≤ key ∧ key ≤ 4294967295) then (2, []) else (0, walkAt l (keyMix key.toNat : Nat))

theorem intsAt_nil (w : World) : IntsAt w (.slice none 0 0) [] := rowAt_nil w

theorem IntsAt.form {w : World} {v : Value} {l : List Int} (h : IntsAt w v l) : ∃ p c, v = .slice p l.length c := by
  obtain ⟨p, c, e, _⟩ := h.parts
  exact ⟨p, c, e⟩

open Classical in
theorem WalkRes.out {l : List Tm} {n : Int} {w : World} {r : Ending} {w' : World} (h : WalkRes l n w r w') :
    ∃ y, r = .returned (.tuple #[y, .int .i64 (walkOut l n).1]) ∧ IntsAt w' y (walkOut l n).2 ∧ Below w.heap.size w w' := by
  obtain ⟨y, e, rfl, hb, h⟩ := h
  refine ⟨y, ?_, ?_, hb⟩
  · rcases h with ⟨h1, rfl, _⟩ | ⟨h1, h2, rfl, _⟩ | ⟨h1, h2, rfl, _⟩
    · simp [walkOut, h1]
    · simp only [walkOut, h1, not_true_eq_false, if_false, if_pos h2]
    · simp only [walkOut, h1, not_true_eq_false, if_false, if_neg (not_not_intro h2)]
  · rcases h with ⟨h1, _, rfl⟩ | ⟨h1, h2, _, rfl⟩ | ⟨h1, h2, _, ho⟩
    · simp only [walkOut, h1, not_false_eq_true, if_true]; exact intsAt_nil _
    · simp only [walkOut, h1, not_true_eq_false, if_false, if_pos h2]; exact intsAt_nil _
    · simp only [walkOut, h1, not_true_eq_false, if_false, if_neg (not_not_intro h2)]; exact rowAt_own ho

/-- Truth values in a block. -/
def BArr (w : World) (g : Nat) (s : List Bool) : Prop := w.heap[g]? = some (.cells (s.map Value.bool).toArray 4 (0, 0)) ∧ s.length = 12

theorem BArr.lt {w : World} {g : Nat} {s : List Bool} (h : BArr w g s) : g < w.heap.size := (Array.getElem?_eq_some_iff.1 h.1).1

theorem BArr.keep {w w' : World} {g : Nat} {s : List Bool} (h : BArr w g s) (hk : w'.heap[g]? = w.heap[g]?) : BArr w' g s := ⟨hk.trans h.1, h.2⟩

theorem BArr.below {w w' : World} {g : Nat} {s : List Bool} (h : BArr w g s) (hb : Below w.heap.size w w') : BArr w' g s := h.keep (hb.block g h.lt)

theorem BArr.cell {w : World} {g : Nat} {s : List Bool} (h : BArr w g s) (i : Nat) (hi : i < s.length) : w.cell? ⟨g, i, none⟩ = some (.bool s[i]) := by
  simp [World.cell?, h.1, hi]

theorem BArr.frozen {w : World} {g : Nat} {s : List Bool} (h : BArr w g s) (i : Nat) : w.frozen? ⟨g, i, none⟩ = false := by simp [World.frozen?, h.1]

theorem BArr.set {w : World} {g : Nat} {s : List Bool} (h : BArr w g s) (i : Nat) (x : Bool) : BArr (w.setCell ⟨g, i, none⟩ (.bool x)) g (s.set i x) := by
  refine ⟨?_, by rw [List.length_set]; exact h.2⟩
  rw [Sort.setCell_eq]
  unfold Sort.mapBlock
  simp [Array.getElem?_modify, h.1, Sort.onCells]

/-- Who has come. -/
def seenL (out : List Int) : List Bool := (List.range 12).map fun (b : Nat) => decide ((b : Int) ∈ out)

theorem seenL_len (out : List Int) : (seenL out).length = 12 := by simp [seenL]

theorem seenL_at (out : List Int) (b : Nat) (hb : b < 12) : (seenL out)[b]'(by rw [seenL_len]; exact hb) = decide ((b : Int) ∈ out) := by simp [seenL]

theorem seenL_snoc (out : List Int) (b : Nat) (hb : b < 12) : seenL (out ++ [(b : Int)]) = (seenL out).set b true := by
  apply List.ext_getElem?
  intro j
  by_cases hj : j < 12
  · by_cases h : j = b
    · subst h
      rw [List.getElem?_set_self (by rw [seenL_len]; exact hj)]
      simp [seenL, hj]
    · rw [List.getElem?_set_ne (Ne.symm h)]
      have hne : ¬ ((j : Int) = (b : Int)) := by omega
      simp [seenL, hj, hne]
  · rw [List.getElem?_eq_none (by rw [seenL_len]; omega), List.getElem?_eq_none (by rw [List.length_set, seenL_len]; omega)]

theorem infoBool : (Try.prog.info? 4).map (fun i => (i.zero, i.size, i.bytes)) = some (some (.bool false), 1, 1) := by kernel_rfl

/-- What has been met when i spots of the turn k are over. -/
def metAt (l : List Tm) (at_ : Int) (k i : Nat) : List Tm := if k = 0 then (l.take i).filter (fun t => decide (at_ ≤ t.1)) else l.filter (fun t => decide (at_ ≤ t.1)) ++ (l.take i).filter (fun t => decide (t.1 < at_))

def metTo (l : List Tm) (at_ : Int) (k : Nat) : List Tm := if k = 0 then [] else if k = 1 then l.filter (fun t => decide (at_ ≤ t.1)) else turnAt l at_

theorem metAt_zero (l : List Tm) (at_ : Int) (k : Nat) (hk : k < 2) : metAt l at_ k 0 = metTo l at_ k := by
  rcases (show k = 0 ∨ k = 1 by omega) with rfl | rfl <;> simp [metAt, metTo]

theorem metAt_all (l : List Tm) (at_ : Int) (k : Nat) (hk : k < 2) : metAt l at_ k l.length = metTo l at_ (k + 1) := by
  rcases (show k = 0 ∨ k = 1 by omega) with rfl | rfl <;> simp [metAt, metTo, turnAt]

theorem metAt_yes (l : List Tm) (at_ : Int) (k i : Nat) (hi : i < l.length) (h : decide (at_ ≤ l[i].1) = ((k : Int) == 0)) : metAt l at_ k (i + 1) = metAt l at_ k i ++ [l[i]] := by
  unfold metAt
  rw [List.take_succ_eq_append_getElem hi, List.filter_append, List.filter_append]
  by_cases hk : k = 0
  · subst hk
    have h2 : at_ ≤ l[i].1 := by simpa using h
    have e : [l[i]].filter (fun t => decide (at_ ≤ t.1)) = [l[i]] := List.filter_eq_self.2 fun t ht => by rw [List.mem_singleton.1 ht]; exact decide_eq_true h2
    rw [if_pos rfl, if_pos rfl, e]
  · have h2 : ¬ at_ ≤ l[i].1 := by
      have e : ((k : Int) == 0) = false := by rw [beq_eq_false_iff_ne]; omega
      rw [e] at h
      exact of_decide_eq_false h
    have h3 : l[i].1 < at_ := by omega
    have e : [l[i]].filter (fun t => decide (t.1 < at_)) = [l[i]] := List.filter_eq_self.2 fun t ht => by rw [List.mem_singleton.1 ht]; exact decide_eq_true h3
    rw [if_neg hk, if_neg hk, e, List.append_assoc]

theorem metAt_no (l : List Tm) (at_ : Int) (k i : Nat) (hi : i < l.length) (h : decide (at_ ≤ l[i].1) ≠ ((k : Int) == 0)) : metAt l at_ k (i + 1) = metAt l at_ k i := by
  unfold metAt
  rw [List.take_succ_eq_append_getElem hi, List.filter_append, List.filter_append]
  by_cases hk : k = 0
  · subst hk
    have h2 : ¬ at_ ≤ l[i].1 := by simpa using h
    have e : [l[i]].filter (fun t => decide (at_ ≤ t.1)) = [] := List.filter_eq_nil_iff.2 fun t ht => by rw [List.mem_singleton.1 ht, decide_eq_false h2]; exact Bool.false_ne_true
    rw [if_pos rfl, if_pos rfl, e, List.append_nil]
  · have h2 : at_ ≤ l[i].1 := by
      have e : ((k : Int) == 0) = false := by rw [beq_eq_false_iff_ne]; omega
      rw [e] at h
      exact of_decide_eq_true (by simpa using h)
    have h3 : ¬ l[i].1 < at_ := by omega
    have e : [l[i]].filter (fun t => decide (t.1 < at_)) = [] := List.filter_eq_nil_iff.2 fun t ht => by rw [List.mem_singleton.1 ht, decide_eq_false h3]; exact Bool.false_ne_true
    rw [if_neg hk, if_neg hk, e, List.append_nil]

theorem firsts_len (m : List Tm) : (firsts m).length ≤ m.length := by
  have h : ∀ (m : List Tm) (x : List Int), (m.foldl stepF x).length ≤ x.length + m.length := by
    intro m
    induction m with
    | nil => intro x; simp
    | cons t m ih =>
      intro x
      have h1 := stepF_len x t
      have := ih (stepF x t)
      simp only [List.foldl_cons, List.length_cons]
      omega
  simpa [firsts] using h m []

theorem metAt_len (l : List Tm) (at_ : Int) (k i : Nat) : (metAt l at_ k i).length ≤ l.length + l.length := by
  unfold metAt
  have h1 := List.length_filter_le (fun t : Tm => decide (at_ ≤ t.1)) l
  have h2 := List.length_filter_le (fun t : Tm => decide (at_ ≤ t.1)) (l.take i)
  have h3 := List.length_filter_le (fun t : Tm => decide (t.1 < at_)) (l.take i)
  rw [List.length_take] at h2 h3
  split
  · omega
  · rw [List.length_append]; omega

theorem icells_append (a b : List Int) : icells (a ++ b) = icells a ++ icells b := by simp [icells]

theorem news2 (wr : World) (p : Addr) (v : Value) (o : Obj) (x : Value) (T : TypeId) : Hid (∀ j u, ([x] : List Value)[j]? = some u → (((wr.setCell p v).alloc o).alloc (.cells #[x] T)).cell? ((⟨wr.heap.size + 1, 0, none⟩ : Addr).add j) = some u) := by
  have h := news_at ((wr.setCell p v).alloc o) [x] T
  have e : ((wr.setCell p v).alloc o).heap.size = wr.heap.size + 1 := by simp
  rw [e] at h
  exact h

/-- What the walk holds between two spots. -/
def Meets (w : World) (B g : Nat) (v : Value) (x : Value) (out : List Int) (wr : World) : Prop :=
  wr.ownsRow B 3 1 x out.length (icells out) ∧ BArr wr g (seenL out) ∧ wr.heap[w.heap.size]? = some (.cells #[v] 25 (0, 0)) ∧ Below w.heap.size w wr ∧ B ≤ wr.heap.size

theorem Meets.alloc {w : World} {B g : Nat} {v : Value} {x : Value} {out : List Int} {wr : World} (h : Meets w B g v x out wr) (o : Obj) : Meets w B g v x out (wr.alloc o) :=
  ⟨h.1.alloc o, h.2.1.below (below_new _ _), box_below h.2.2.1 (below_new _ _), h.2.2.2.1.alloc h.2.2.2.1.size o, by have := h.2.2.2.2; simp; omega⟩

/-- A backend is marked. -/
theorem Meets.mark {w : World} {B g : Nat} {v : Value} {x : Value} {out : List Int} {wr : World} (h : Meets w B g v x out wr) (b : Nat) (hb : b < 12) (hg : w.heap.size < g) (hB : g < B) :
    (wr.setCell ⟨g, b, none⟩ (.bool true)).ownsRow B 3 1 x out.length (icells out) ∧ BArr (wr.setCell ⟨g, b, none⟩ (.bool true)) g (seenL (out ++ [(b : Int)])) ∧ (wr.setCell ⟨g, b, none⟩ (.bool true)).heap[w.heap.size]? = some (.cells #[v] 25 (0, 0)) ∧ Below w.heap.size w (wr.setCell ⟨g, b, none⟩ (.bool true)) ∧ B ≤ (wr.setCell ⟨g, b, none⟩ (.bool true)).heap.size := by
  have hk : ∀ i, i ≠ g → (wr.setCell ⟨g, b, none⟩ (.bool true)).heap[i]? = wr.heap[i]? := fun i hi => Below.heap_setCell _ _ _ _ (by simpa using hi)
  exact ⟨own_block h.1 (fun i hi => hk i (by have := (h.1.lt i hi).1; omega)), by rw [seenL_snoc out b hb]; exact h.2.1.set b true, (hk _ (by omega)).trans h.2.2.1, h.2.2.2.1.setCell (by simp; omega) _, by have := h.2.2.2.2; simpa using this⟩

end Go.Proofs.Ytpmobbbohchdlab.Walks
