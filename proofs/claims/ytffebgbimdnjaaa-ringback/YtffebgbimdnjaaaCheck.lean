/-
  What Check answers: whether a ring may be. Condition: the ring's spots can be read.
-/
import Derived.Test.YtffebgbimdnjaaaWeightsW
import Derived.WalkKit
import Derived.ProofKit
import Derived.Handy
import Derived.LoopTactic
import Derived.Below
import Derived.Laws.BitsAllLaws
import Derived.RegionTactic
import Derived.Deep.RegionHeld3
import Derived.Deep.DrawnRows
import Derived.Deep.AppendLies
import Derived.Laws.OwnMore
import Derived.Deep.Onto
import Derived.Deep.QuietTactic
import Derived.BigQuiet
namespace Go.Proofs.Ytffebgbimdnjaaa.Walks
open Go.RowKit
set_option linter.unusedVariables false
set_option linter.unusedSimpArgs false
attribute [local go_sem ↓] Go.wp_at_zero Go.wp_at_succ

/-- A fresh array, and then other numbers in it. -/
theorem fresh_arr (w : World) (a : List Int) (ha : a.length = 12) : (w.alloc (.cells #[.int .i64 0, .int .i64 0, .int .i64 0, .int .i64 0, .int .i64 0, .int .i64 0, .int .i64 0, .int .i64 0, .int .i64 0, .int .i64 0, .int .i64 0, .int .i64 0] 38)).there w.heap.size 0 12 ∧ Arr 38 12 ((w.alloc (.cells #[.int .i64 0, .int .i64 0, .int .i64 0, .int .i64 0, .int .i64 0, .int .i64 0, .int .i64 0, .int .i64 0, .int .i64 0, .int .i64 0, .int .i64 0, .int .i64 0] 38)).setCells w.heap.size 0 (icells a)) w.heap.size a ∧ Below w.heap.size w ((w.alloc (.cells #[.int .i64 0, .int .i64 0, .int .i64 0, .int .i64 0, .int .i64 0, .int .i64 0, .int .i64 0, .int .i64 0, .int .i64 0, .int .i64 0, .int .i64 0, .int .i64 0] 38)).setCells w.heap.size 0 (icells a)) := by
  rw [zeros12]
  have h : Arr 38 12 (w.alloc (.cells (icells (List.replicate 12 0)).toArray 38)) w.heap.size (List.replicate 12 0) := Arr.new w _ _
  have hb : Below w.heap.size w (w.alloc (.cells (icells (List.replicate 12 0)).toArray 38)) := (Below.refl _ _).alloc (Nat.le_refl _) _
  exact ⟨h.there, (h.store (P := Try.prog) (b := a) ha infoW).2, below_setCells hb (Nat.le_refl _) _ _ hb.size⟩

end Go.Proofs.Ytffebgbimdnjaaa.Walks
