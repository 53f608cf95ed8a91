/-
  The document's answers to a backend that comes or goes. Condition: the ring's spots can be read.
-/
import Derived.Test.YtpmobbbohchdlabRefW
import Derived.WalkKit
import Derived.ProofKit
import Derived.Handy
import Derived.LoopTactic
import Derived.Below
import Derived.Laws.BitsAllLaws
import Derived.RegionTactic
import Derived.Deep.RegionHeld3
import Derived.Deep.DrawnRows
import Derived.Deep.AppendLies
import Derived.Laws.OwnMore
import Derived.Deep.Onto
import Derived.Deep.QuietTactic
import Derived.BigQuiet
namespace Go.Proofs.Ytpmobbbohchdlab.Walks
open Go.RowKit
set_option linter.unusedVariables false
set_option linter.unusedSimpArgs false
attribute [local go_sem ↓] Go.wp_at_zero Go.wp_at_succ

theorem wOf_nn (l : List Tm) (b : Nat) : 0 ≤ (wOf l).getD b 0 := by
  by_cases hb : b < 12
  · rw [wOf_at l b hb]; omega
  · rw [wOf_past l b hb]; omega

/-- What Remove leaves. -/
def RemRes (l : List Tm) (n : Int) (w : World) (r : Ending) (w' : World) : Prop := ∃ (y : Value) (e : Int), r = .returned (.tuple #[.agg #[y], .int .i64 e]) ∧ Below w.heap.size w w' ∧
  ((¬ RingOk l ∧ e = 6 ∧ y = .slice none 0 0) ∨ (RingOk l ∧ ¬ ((0 ≤ n ∧ n < 12) ∧ 0 < (wOf l).getD n.toNat 0) ∧ e = 8 ∧ y = .slice none 0 0) ∨
    (RingOk l ∧ ((0 ≤ n ∧ n < 12) ∧ 0 < (wOf l).getD n.toNat 0) ∧ e = 0 ∧ w'.ownsRow w.heap.size 42 2 y (spotsOf ((wOf l).set n.toNat 0)).length (tcells (spotsOf ((wOf l).set n.toNat 0)))))

theorem Arr.at {T : TypeId} {w : World} {g : Nat} {a : List Int} (h : Arr T 12 w g a) (j : Nat) (hj : j < 12) : w.cell? ⟨g, j, none⟩ = some (.int .i64 (a.getD j 0)) := by
  have hl : j < a.length := by rw [h.2]; exact hj
  rw [h.cell j hl, List.getD_eq_getElem?_getD, List.getElem?_eq_getElem hl]
  rfl

end Go.Proofs.Ytpmobbbohchdlab.Walks
