/-
  The law's sameTable. Condition: both can be read.
-/
import Derived.Test.YthiojfgimjoenaaSlots
import Derived.WalkKit
import Derived.ProofKit
import Derived.Handy
import Derived.LoopTactic
import Derived.Below
import Derived.Laws.BitsAllLaws
import Derived.RegionTactic
import Derived.Deep.RegionHeld3
import Derived.Deep.DrawnRows
import Derived.Deep.AppendLies
import Derived.Laws.OwnMore
import Derived.Deep.Onto
import Derived.Deep.QuietTactic
import Derived.BigQuiet
namespace Go.Proofs.Ythiojfgimjoenaa.Walks
open Go.RowKit
set_option linter.unusedVariables false
set_option linter.unusedSimpArgs false
attribute [local go_sem ↓] Go.wp_at_zero Go.wp_at_succ

theorem unlike4 (a : Int) (u : Bool) (k b a' : Int) (u' : Bool) (k' b' : Int) : (a = a' ∧ u = u' ∧ k = k' ∧ b = b') ∨ ((a, u, k, b) ≠ (a', u', k', b') ∧ ((a == a') = false ∨ (a = a' ∧ u = true ∧ u' = false) ∨ (a = a' ∧ u = false ∧ u' = true) ∨ (a = a' ∧ u = u' ∧ (k == k') = false) ∨ (a = a' ∧ u = u' ∧ k = k' ∧ (b == b') = false))) := by
  simp only [beq_eq_false_iff_ne]
  by_cases h : a = a'
  · by_cases h2 : k = k'
    · by_cases h3 : b = b'
      · cases u <;> cases u' <;> simp [h, h2, h3]
      · cases u <;> cases u' <;> simp [h, h2, h3]
    · cases u <;> cases u' <;> simp [h, h2]
  · right
    exact ⟨fun e => h (by injection e), .inl h⟩

end Go.Proofs.Ythiojfgimjoenaa.Walks
