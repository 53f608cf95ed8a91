/-
  The backends as they come behind a key: ring.Walk. Condition: the ring's spots can be read.
-/
import Derived.Test.YtffebgbimdnjaaaAlong
import Derived.Test.YtffebgbimdnjaaaWalked
import Derived.WalkKit
import Derived.ProofKit
import Derived.Handy
import Derived.LoopTactic
import Derived.Below
import Derived.Laws.BitsAllLaws
import Derived.RegionTactic
import Derived.Deep.RegionHeld3
import Derived.Deep.DrawnRows
import Derived.Deep.AppendLies
import Derived.Laws.OwnMore
import Derived.Deep.Onto
import Derived.Deep.QuietTactic
import Derived.BigQuiet
namespace Go.Proofs.Ytffebgbimdnjaaa.Walks
open Go.RowKit
set_option linter.unusedVariables false
set_option linter.unusedSimpArgs false
attribute [local go_sem ↓] Go.wp_at_zero Go.wp_at_succ
open Go.Shelf
attribute [local go_sem] Oper.semAt_some

theorem wpListIn_load_eq {F : Fence} {n : Nat} {P : Program} (w : World) {ops : Array Oper} {rest : List Oper} {o : Oper} {a : Act} {Q : Exit → Act → World → Prop}
    (hg : o.guard = none) (T : TypeId) (x : Operand) (hop : o.op = .load T x) (v res : Value) (hx : a.eval x = v) (hr : (Instr.loadAt T v).run P w = .ok res w) (hK : wpListIn F n P ops Q rest (a.put o.dst res) w) :
    wpListIn F n P ops Q (o :: rest) a w := by
  refine wpListIn_plain hg fun K hK' => ?_
  unfold Oper.wpIn
  refine ⟨?_, ?_⟩
  · simp [Oper.about, hop, resolve, Target.leads, Sem.run_pure]
  · rw [Oper.semAt_plain F _ _ (by rw [hop]; intro c hc'; cases hc')]
    simp [execOp, hop, hx, hr, Result.andThen]
    exact hK' _ _ hK

/-- A block of cells stands where blocks that are none turn. -/
theorem keepC {W W' : World} {row : Option Nat} {k : Nat} {cs : Array Value} {t : TypeId} {f : Nat × Nat} (h : W.heap[k]? = some (.cells cs t f)) (hg : W.grownBy W' row) (hr : ∀ r, row = some r → ∃ o : Obj, W.heap[r]? = some o ∧ o.isCells = false) : W'.heap[k]? = W.heap[k]? := by
  refine hg.block k (Array.getElem?_eq_some_iff.1 h).1 (fun e => ?_)
  obtain ⟨o, ho, hc⟩ := hr k e.symm
  rw [h] at ho
  cases ho
  cases hc

/-- What the walk holds between two rounds. -/
def Comes (w WL : World) (g6 g10 : Nat) (a : List Int) (out : List Int) (W : World) : Prop :=
  (∃ v, Boxed W g10 72 v ∧ W.ownsRow WL.heap.size 3 1 v out.length (icells out)) ∧ Arr 38 12 W g6 (mask a out) ∧ Below w.heap.size w W ∧ WL.heap.size ≤ W.heap.size

theorem comes_own (w WL : World) (g6 g10 : Nat) (a : List Int) (hsz : w.heap.size ≤ WL.heap.size) : OwnFrom WL.heap.size (fun (pre : List Tm) W => Comes w WL g6 g10 a (walkW a pre) W) := by
  rintro pre W W' row ⟨⟨v, hb, ho⟩, hA, hB, hs⟩ hg hr
  have hr2 : ∀ r, row = some r → ∃ o : Obj, W.heap[r]? = some o ∧ o.isCells = false := fun r e => (hr r e).2
  refine ⟨⟨v, (keepC hb hg hr2).trans hb, own_block ho (fun g hg' => ?_)⟩, hA.keep (keepC hA.1 hg hr2), hB.grown hg hB.size (fun k e => Nat.le_trans hsz (hr k e).1), Nat.le_trans hs hg.size⟩
  rcases ho.2 with ⟨rfl, _⟩ | ⟨g2, cap, cur, rfl, _, hgb, _⟩
  · cases hg'
  · have e : g2 = g := by simpa [Value.ownBlock] using hg'
    subst e
    exact keepC hgb hg hr2

theorem not_row {W : World} {k : Nat} {cs : Array Value} {t e : TypeId} {f : Nat × Nat} (h : W.heap[k]? = some (.cells cs t f)) (hte : t ≠ e) {base size n : Nat} {v : Value} {xs : List Value} (hr : W.ownsRow base e size v n xs) : v.ownBlock ≠ some k := by
  rcases hr.2 with ⟨rfl, _⟩ | ⟨g, cap, cur, rfl, _, hgb, _⟩
  · simp [Value.ownBlock]
  · intro e'
    have e2 : g = k := by simpa [Value.ownBlock] using e'
    subst e2
    rw [h] at hgb
    cases hgb
    exact hte rfl

/-- What a round leaves alone of what the iterator reads. -/
def Aside (N g6 g10 : Nat) (k : Nat) : Prop := k < N ∧ k ≠ g6 ∧ k ≠ g10

theorem below_kept {N g6 g10 : Nat} {W W' : World} (h : Below W.heap.size W W') (hN : N ≤ W.heap.size) : Kept (Aside N g6 g10) W W' := fun k hk => h.block k (by have := hk.1; omega)

theorem below_keeps {N : Nat} {W W' : World} (h : Below W.heap.size W W') : KeepsFrom N W W' := ⟨h.size, fun k o _ hk _ => (h.block k (Array.getElem?_eq_some_iff.1 hk).1).trans hk⟩

theorem Comes.below {w WL : World} {g6 g10 : Nat} {a out : List Int} {W W' : World} (h : Comes w WL g6 g10 a out W) (hb : Below W.heap.size W W') : Comes w WL g6 g10 a out W' := by
  obtain ⟨⟨v, hx, ho⟩, hA, hB, hs⟩ := h
  exact ⟨⟨v, box_below hx hb, own_grownW ho hb⟩, hA.below hb, hB.trans (hb.mono hB.size), Nat.le_trans hs hb.size⟩

theorem comes_step {w WL w2 w1 : World} {g6 g10 b : Nat} {a out : List Int} {v v' : Value} {tmp : Obj} (hx : Boxed w2 g10 72 v) (ho : w2.ownsRow WL.heap.size 3 1 v out.length (icells out)) (hA : Arr 38 12 w2 g6 (mask a out)) (hB : Below w.heap.size w w2) (hs : WL.heap.size ≤ w2.heap.size)
    (hown : w1.ownsRow WL.heap.size 3 1 v' (out.length + 1) (icells out ++ [.int .i64 (b : Int)])) (hg : (w2.alloc tmp).grownBy w1 v.ownBlock) (h6 : g6 < WL.heap.size) (h10 : g10 < WL.heap.size) (hne : g6 < g10) (hw : w.heap.size ≤ g6) (hb : b < 12) :
    Boxed w1 g10 72 v ∧ Arr 38 12 w1 g6 (mask a out) ∧ Comes w WL g6 g10 a (out ++ [(b : Int)]) ((w1.setCell ⟨g10, 0, none⟩ v').setCell ⟨g6, b, none⟩ (.int .i64 0)) ∧ Kept (Aside WL.heap.size g6 g10) w2 ((w1.setCell ⟨g10, 0, none⟩ v').setCell ⟨g6, b, none⟩ (.int .i64 0)) ∧
      KeepsFrom WL.heap.size w2 ((w1.setCell ⟨g10, 0, none⟩ v').setCell ⟨g6, b, none⟩ (.int .i64 0)) := by
  have hk : ∀ k, k < w2.heap.size → v.ownBlock ≠ some k → w1.heap[k]? = w2.heap[k]? := fun k h1 h2 => (hg.block k (by simp; omega) (fun e => h2 e.symm)).trans (Below.heap_alloc _ _ _ h1)
  have hrow : ∀ k, k < WL.heap.size → v.ownBlock ≠ some k := fun k h e => by have := (ho.lt k e).1; omega
  have hx1 : Boxed w1 g10 72 v := (hk g10 (by omega) (hrow g10 h10)).trans hx
  have hA1 : Arr 38 12 w1 g6 (mask a out) := hA.keep (hk g6 (by omega) (hrow g6 h6))
  have hfar : ∀ k, k ≠ g6 → k ≠ g10 → ((w1.setCell ⟨g10, 0, none⟩ v').setCell ⟨g6, b, none⟩ (.int .i64 0)).heap[k]? = w1.heap[k]? := fun k h1 h2 => by
    rw [Below.heap_setCell _ _ _ _ (by simpa using h1), Below.heap_setCell _ _ _ _ (by simpa using h2)]
  have hgs := hg.size
  simp at hgs
  have hbA := hB.alloc hB.size tmp
  have hbw : Below w.heap.size w w1 := hbA.grown hg hbA.size (fun k e => by have := (ho.lt k e).1; omega)
  refine ⟨hx1, hA1, ⟨⟨v', ?_, ?_⟩, ?_, (hbw.setCell (by simp; omega) _).setCell (by simp; omega) _, ?_⟩, fun k hk2 => ?_, ⟨?_, fun k o h1 h2 h3 => ?_⟩⟩
  · exact (Below.heap_setCell _ _ _ _ (by simp; omega)).trans (hx1.set v')
  · rw [icells_append, List.length_append]
    exact own_block hown (fun g hg' => hfar g (by have := (hown.lt g hg').1; omega) (by have := (hown.lt g hg').1; omega))
  · rw [mask_snoc a out b hb]
    exact (hA1.other (by simp; omega) _).set b 0
  · simp; omega
  · rw [hfar k hk2.2.1 hk2.2.2]
    exact hk k (by have := hk2.1; omega) (hrow k hk2.1)
  · simp; omega
  · rw [hfar k (by omega) (by omega)]
    have hlt := (Array.getElem?_eq_some_iff.1 h2).1
    refine (hk k hlt (fun e => ?_)).trans h2
    rcases ho.2 with ⟨rfl, _⟩ | ⟨g, cap, cur, rfl, _, hgb, _⟩
    · cases e
    · have e2 : g = k := by simpa [Value.ownBlock] using e
      subst e2
      rw [h2] at hgb
      cases hgb
      cases h3

end Go.Proofs.Ytffebgbimdnjaaa.Walks
