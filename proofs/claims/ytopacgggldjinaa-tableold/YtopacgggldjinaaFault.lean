/-
  The document's TableFault; the law's sameTable. Condition: the slots can be read.
-/
import Derived.Test.YtopacgggldjinaaCheck
import Derived.WalkKit
import Derived.ProofKit
import Derived.Handy
import Derived.LoopTactic
import Derived.Below
import Derived.Laws.BitsAllLaws
import Derived.RegionTactic
import Derived.Deep.RegionHeld3
import Derived.Deep.DrawnRows
import Derived.Deep.AppendLies
import Derived.Laws.OwnMore
import Derived.Deep.Onto
import Derived.Deep.QuietTactic
import Derived.BigQuiet
namespace Go.Proofs.Ytopacgggldjinaa.Walks
open Go.RowKit
set_option linter.unusedVariables false
set_option linter.unusedSimpArgs false
attribute [local go_sem ↓] Go.wp_at_zero Go.wp_at_succ

theorem fault_cases (g : Int) (k b : Int) :
    ((0 ≤ g ∧ g ≤ 1048575) ∧ (0 ≤ k ∧ k ≤ 4294967295) ∧ (0 ≤ b ∧ b ≤ 11) ↔ SlotOk (g, true, k, b)) ∧ ((0 ≤ g ∧ g ≤ 1048576) ∧ k = 0 ∧ b = 0 ↔ SlotOk (g, false, k, b)) := by
  constructor
  · unfold SlotOk isKeyP isBeP
    rw [if_pos rfl]
    constructor
    · rintro ⟨h1, h2, h3⟩; exact ⟨h1, h2, (by omega : 0 ≤ b ∧ b < 12)⟩
    · rintro ⟨h1, h2, h3⟩
      have h3 : 0 ≤ b ∧ b < 12 := h3
      exact ⟨h1, h2, by omega⟩
  · unfold SlotOk
    simp

end Go.Proofs.Ytopacgggldjinaa.Walks
