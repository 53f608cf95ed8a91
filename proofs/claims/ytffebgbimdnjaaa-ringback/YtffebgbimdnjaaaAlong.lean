/-
  The spots as they come behind a place: ring.along and its iterator. Condition: the spots can be read, and a round leaves alone what the iterator reads.
-/
import Derived.Test.YtffebgbimdnjaaaSearch
import Derived.Test.YtffebgbimdnjaaaLAdds
import Derived.RangeFuncNested
import Derived.RangeFuncBound
import Derived.RangeFuncCalls
import Derived.RangeFuncLeaves
import Derived.Shelf.Abstract
import Derived.Shelf.RegionOpen
import Derived.OwnWalkIn
import Derived.TacticsInMore
import Derived.LoopNIn
import Derived.LoopIn
import Derived.WalkKit
import Derived.ProofKit
import Derived.Handy
import Derived.LoopTactic
import Derived.Below
import Derived.Laws.BitsAllLaws
import Derived.RegionTactic
import Derived.Deep.RegionHeld3
import Derived.Deep.DrawnRows
import Derived.Deep.AppendLies
import Derived.Laws.OwnMore
import Derived.Deep.Onto
import Derived.Deep.QuietTactic
import Derived.BigQuiet
namespace Go.Proofs.Ytffebgbimdnjaaa.Walks
open Go.RowKit
set_option linter.unusedVariables false
set_option linter.unusedSimpArgs false
attribute [local go_sem ↓] Go.wp_at_zero Go.wp_at_succ
open Go.Shelf
attribute [local go_sem] Oper.semAt_some

/-- What a round leaves alone. -/
def Kept (S : Nat → Prop) (W W' : World) : Prop := ∀ k, S k → W'.heap[k]? = W.heap[k]?

theorem Kept.trans {S : Nat → Prop} {A B C : World} (h1 : Kept S A B) (h2 : Kept S B C) : Kept S A C := fun k hk => (h2 k hk).trans (h1 k hk)

theorem Kept.refl (S : Nat → Prop) (A : World) : Kept S A A := fun _ _ => rfl

theorem Kept.cell {S : Nat → Prop} {A B : World} (h : Kept S A B) {k : Nat} (hk : S k) (o : Nat) : B.cell? ⟨k, o, none⟩ = A.cell? ⟨k, o, none⟩ := World.cell?_of_block (h k hk)

theorem rem_run (i0 k len j : Nat) (hj : j = (i0 + k) % len) (hl : 0 < len) (h1 : i0 ≤ 1048576) (h2 : k ≤ 1048576) (h3 : len ≤ 1048576) (W : World) : (binOp .rem 3 (.int .i64 ((i0 : Int) + (k : Int))) (.int .i64 (len : Int))).run Try.prog W = .ok (.int .i64 (j : Int)) W := by
  have hz : ¬ (len : Int) = 0 := by omega
  have hz0 : (0 : Int) < (len : Int) := by omega
  have hjI : ((i0 : Int) + (k : Int)).tmod (len : Int) = (j : Int) := by
    rw [hj, Int.tmod_eq_emod_of_nonneg (by omega), Int.natCast_emod, Int.natCast_add]
  subst hj
  go_simp
  omega

end Go.Proofs.Ytffebgbimdnjaaa.Walks
