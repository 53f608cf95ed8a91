/-
  The document's ring of weights: its spots stand as they are sorted. Condition: twelve weights from 0 to 8, which can be read.
-/
import Derived.Test.YtpmobbbohchdlabOfP
import Derived.Test.YtpmobbbohchdlabAdd
import Derived.WalkKit
import Derived.ProofKit
import Derived.Handy
import Derived.LoopTactic
import Derived.Below
import Derived.Laws.BitsAllLaws
import Derived.RegionTactic
import Derived.Deep.RegionHeld3
import Derived.Deep.DrawnRows
import Derived.Deep.AppendLies
import Derived.Laws.OwnMore
import Derived.Deep.Onto
import Derived.Deep.QuietTactic
import Derived.BigQuiet
namespace Go.Proofs.Ytpmobbbohchdlab.Walks
open Go.RowKit
set_option linter.unusedVariables false
set_option linter.unusedSimpArgs false
attribute [local go_sem ↓] Go.wp_at_zero Go.wp_at_succ

theorem held4 {w w' : World} {g i1 i2 i3 i4 : Nat} {v1 v2 v3 v4 : Value} (hlt : g < w.heap.size) (h1 : w.cell? ⟨g, i1, none⟩ = some v1) (h2 : w.cell? ⟨g, i2, none⟩ = some v2) (h3 : w.cell? ⟨g, i3, none⟩ = some v3) (h4 : w.cell? ⟨g, i4, none⟩ = some v4) (hb : Below w.heap.size w w') :
    w'.cell? ⟨g, i1, none⟩ = some v1 ∧ w'.cell? ⟨g, i2, none⟩ = some v2 ∧ w'.cell? ⟨g, i3, none⟩ = some v3 ∧ w'.cell? ⟨g, i4, none⟩ = some v4 ∧ Below w.heap.size w w' :=
  ⟨(hb.cell (p := ⟨g, i1, none⟩) hlt).trans h1, (hb.cell (p := ⟨g, i2, none⟩) hlt).trans h2, (hb.cell (p := ⟨g, i3, none⟩) hlt).trans h3, (hb.cell (p := ⟨g, i4, none⟩) hlt).trans h4, hb⟩

end Go.Proofs.Ytpmobbbohchdlab.Walks
