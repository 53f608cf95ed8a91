/-
  The law of turns: two timers armed in either order, ticks going by ahead of the second arming: the same wheel. No condition.
-/
import Derived.Test.YtdfjobghgbcjpaaDoorFine
import Derived.WalkKit
import Derived.ProofKit
import Derived.Handy
import Derived.LoopTactic
import Derived.Below
import Derived.Laws.BitsAllLaws
import Derived.RegionTactic
import Derived.Deep.RegionHeld3
import Derived.Deep.DrawnRows
import Derived.Deep.AppendLies
import Derived.Laws.OwnMore
import Derived.Deep.Onto
import Derived.Deep.QuietTactic
import Derived.BigQuiet
namespace Go.Proofs.YtdfjobghgbcjpaaDoor.Walks
open Go.RowKit
set_option linter.unusedVariables false
set_option linter.unusedSimpArgs false
attribute [local go_sem ↓] Go.wp_at_zero Go.wp_at_succ

theorem wf_bd {x : Int} (h : (Lit.int .i64 x).wf = true) : -9223372036854775808 ≤ x ∧ x ≤ 9223372036854775807 := by
  have e1 : IntKind.i64.min = -9223372036854775808 := by decide
  have e2 : IntKind.i64.max = 9223372036854775807 := by decide
  simp only [Lit.wf, e1, e2, Bool.and_eq_true, decide_eq_true_eq] at h
  exact h

/-- A wheel's box. -/
def Bx (w : World) (g : Nat) (now : Int) (p : Option Addr) (c : Nat) : Prop := w.heap[g]? = some (.cells #[.int .i64 now, .slice p 25 c] 24 (0, 0))
theorem Bx.lt {w : World} {g c : Nat} {now : Int} {p : Option Addr} (h : Bx w g now p c) : g < w.heap.size := (Array.getElem?_eq_some_iff.1 h).1
theorem Bx.below {w w' : World} {g c : Nat} {now : Int} {p : Option Addr} (h : Bx w g now p c) (hb : Below w.heap.size w w') : Bx w' g now p c := (hb.block g h.lt).trans h
theorem Bx.new (w : World) (now : Int) (p : Option Addr) (c : Nat) : Bx (w.alloc (.cells #[.int .i64 now, .slice p 25 c] 24)) w.heap.size now p c := heap_alloc_new _ _
theorem Bx.other {w : World} {g c k : Nat} {now : Int} {p : Option Addr} (h : Bx w g now p c) (hne : g ≠ k) (x y : Value) : Bx ((w.setCell ⟨k, 0, none⟩ x).setCell ⟨k, 1, none⟩ y) g now p c := by
  unfold Bx
  rw [Below.heap_setCell _ _ _ _ (by simpa using hne), Below.heap_setCell _ _ _ _ (by simpa using hne)]
  exact h
theorem Bx.set {w : World} {g c c' : Nat} {now m : Int} {p p' : Option Addr} (h : Bx w g now p c) : Bx ((w.setCell ⟨g, 0, none⟩ (.int .i64 m)).setCell ⟨g, 1, none⟩ (.slice p' 25 c')) g m p' c' := two_set h
theorem below_set2 {B : Nat} {w w' : World} (h : Below B w w') {g : Nat} (hg : B ≤ g) (x y : Value) : Below B w ((w'.setCell ⟨g, 0, none⟩ x).setCell ⟨g, 1, none⟩ y) := (h.setCell (p := ⟨g, 0, none⟩) hg _).setCell (p := ⟨g, 1, none⟩) hg _

theorem okb (n : Int) : Ok n bare := ok_bare n

theorem fits_of {now x id : Int} (h1 : now < x) (h2 : x ≤ now + 500) (h3 : x ≤ 1099511627776) (h4 : 0 ≤ id) (h5 : id ≤ 199) : fitsT now (x, id) = true := (fitsT_iff _ _).2 ⟨h1, h2, h3, h4, h5⟩

end Go.Proofs.YtdfjobghgbcjpaaDoor.Walks
