/-
  RingBack returns true. Condition: the members can be read.
-/
import Derived.Test.YtpmobbbohchdlaaLBackB
import Derived.WalkKit
import Derived.ProofKit
import Derived.Handy
import Derived.LoopTactic
import Derived.Below
import Derived.Laws.BitsAllLaws
import Derived.RegionTactic
import Derived.Deep.RegionHeld3
import Derived.Deep.DrawnRows
import Derived.Deep.AppendLies
import Derived.Laws.OwnMore
import Derived.Deep.Onto
import Derived.Deep.QuietTactic
import Derived.BigQuiet
namespace Go.Proofs.Ytpmobbbohchdlaa.Walks
open Go.RowKit
set_option linter.unusedVariables false
set_option linter.unusedSimpArgs false
attribute [local go_sem ↓] Go.wp_at_zero Go.wp_at_succ

theorem ringBack_row (w : World) (v : Value) (l : List Tm) (hv : TmAt w v l) (hwf : ∀ t ∈ l, (Lit.int .i64 t.1).wf = true ∧ (Lit.int .i64 t.2).wf = true) (hl : l.length ≤ 140737488351232 / 16) (nb : Int) (wb : (Lit.int .i64 nb).wf = true) (nk : Int) (wk : (Lit.int .i64 nk).wf = true) :
    Calls Try.prog 7 #[v, .int .i64 nb, .int .i64 nk] w fun r w' => r = .returned (.bool true) ∧ Below w.heap.size w w' := by
  obtain ⟨kk, hkk, HPk⟩ := picked_some nk 8 wk (by omega) (by omega)
  obtain ⟨b, hb12, HPb⟩ := picked_some nb 12 wb (by omega) (by omega)
  by_cases h : 0 < (aOf l).getD b 0
  · exact ringBack_pos w v l hv hwf nb nk kk b hkk hb12 HPk HPb h
  · exact ringBack_zero w v l hv hwf nb nk kk b hkk hb12 HPk HPb h
end Go.Proofs.Ytpmobbbohchdlaa.Walks
