/-
  Outputs, and what can be counted of them: plain mathematics. No condition.
-/
import Derived.Test.YthfadekfobceaaaRv
import Derived.WalkKit
import Derived.ProofKit
import Derived.Handy
import Derived.LoopTactic
import Derived.Below
import Derived.Laws.BitsAllLaws
import Derived.RegionTactic
import Derived.Deep.RegionHeld3
import Derived.Deep.DrawnRows
import Derived.Deep.AppendLies
import Derived.Laws.OwnMore
import Derived.Deep.Onto
import Derived.Deep.QuietTactic
import Derived.BigQuiet
namespace Go.Proofs.Ythfadekfobceaaa.Walks
open Go.RowKit
set_option linter.unusedVariables false
set_option linter.unusedSimpArgs false
attribute [local go_sem ↓] Go.wp_at_zero Go.wp_at_succ

/-- An output. -/
structure Ou where
  kind : Int
  slot : Int
  gen : Int
  be : Int
  req : Int
  code : Int
  why : Int
  deriving DecidableEq

abbrev ouV (o : Ou) : List Value := [.int .i64 o.kind, .int .i64 o.slot, .int .i64 o.gen, .int .i64 o.be, .int .i64 o.req, .int .i64 o.code, .int .i64 o.why]

theorem ou7 (x : Ou) : (ouV x).length = 7 := rfl

theorem ou1 (x : Ou) : ∀ u ∈ ouV x, u.oneCell' = true := by
  intro u hu
  simp only [List.mem_cons, List.not_mem_nil, or_false] at hu
  rcases hu with rfl | rfl | rfl | rfl | rfl | rfl | rfl <;> rfl
end Go.Proofs.Ythfadekfobceaaa.Walks
