/-
  RingRemoves returns true. Condition: the ring's spots can be read, and its copy has room.
-/
import Derived.Test.YtpmobbbohchdlabLAdds
import Derived.Test.YtpmobbbohchdlabRemove
import Derived.WalkKit
import Derived.ProofKit
import Derived.Handy
import Derived.LoopTactic
import Derived.Below
import Derived.Laws.BitsAllLaws
import Derived.RegionTactic
import Derived.Deep.RegionHeld3
import Derived.Deep.DrawnRows
import Derived.Deep.AppendLies
import Derived.Laws.OwnMore
import Derived.Deep.Onto
import Derived.Deep.QuietTactic
import Derived.BigQuiet
namespace Go.Proofs.Ytpmobbbohchdlab.Walks
open Go.RowKit
set_option linter.unusedVariables false
set_option linter.unusedSimpArgs false
attribute [local go_sem ↓] Go.wp_at_zero Go.wp_at_succ

/-- What Remove answers. -/
def remOut (l : List Tm) (n : Int) [Decidable (RingOk l)] : Int × List Tm :=
  if ¬ RingOk l then (6, []) else if ¬ ((0 ≤ n ∧ n < 12) ∧ 0 < (wOf l).getD n.toNat 0) then (8, []) else (0, spotsOf ((wOf l).set n.toNat 0))

open Classical in
theorem RemRes.out {l : List Tm} {n : Int} {w : World} {r : Ending} {w' : World} (h : RemRes l n w r w') :
    ∃ y, r = .returned (.tuple #[.agg #[y], .int .i64 (remOut l n).1]) ∧ TmAt w' y (remOut l n).2 ∧ Below w.heap.size w w' := by
  obtain ⟨y, e, rfl, hb, h⟩ := h
  refine ⟨y, ?_, ?_, hb⟩
  · rcases h with ⟨h1, rfl, _⟩ | ⟨h1, h2, rfl, _⟩ | ⟨h1, h2, rfl, _⟩
    · simp [remOut, h1]
    · simp only [remOut, h1, not_true_eq_false, if_false, if_pos h2]
    · simp only [remOut, h1, not_true_eq_false, if_false, if_neg (not_not_intro h2)]
  · rcases h with ⟨h1, _, rfl⟩ | ⟨h1, h2, _, rfl⟩ | ⟨h1, h2, _, ho⟩
    · simp only [remOut, h1, not_false_eq_true, if_true]; exact tmAt_nil _
    · simp only [remOut, h1, not_true_eq_false, if_false, if_pos h2]; exact tmAt_nil _
    · simp only [remOut, h1, not_true_eq_false, if_false, if_neg (not_not_intro h2)]; exact rowAt_own ho

end Go.Proofs.Ytpmobbbohchdlab.Walks
