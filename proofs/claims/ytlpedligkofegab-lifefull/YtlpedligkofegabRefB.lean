/-
  usherref.BookFault. Condition: what is read can be read.
-/
import Derived.Test.YtlpedligkofegabAsk
import Derived.WalkKit
import Derived.ProofKit
import Derived.Handy
import Derived.LoopTactic
import Derived.Below
import Derived.Laws.BitsAllLaws
import Derived.RegionTactic
import Derived.Deep.RegionHeld3
import Derived.Deep.DrawnRows
import Derived.Deep.AppendLies
import Derived.Laws.OwnMore
import Derived.Deep.Onto
import Derived.Deep.QuietTactic
import Derived.BigQuiet
namespace Go.Proofs.Ytlpedligkofegab.Walks
open Go.RowKit
set_option linter.unusedVariables false
set_option linter.unusedSimpArgs false
attribute [local go_sem ↓] Go.wp_at_zero Go.wp_at_succ
open Go.Sort (grow grow_empty grow_grow alloc_eq_grow cell?_grow heap_grow_old)

theorem reqs_ok {R : List Rq} {k : Nat} (hk : k < R.length) (h1 : RsOk (R.take k)) (h2 : RqOk R[k]) (h3 : ∀ j, j < k → ∀ hj : j < R.length, R[j].1 ≠ R[k].1) : RsOk (R.take (k + 1)) := by
  rw [List.take_succ_eq_append_getElem hk]
  refine ⟨fun x hx => ?_, List.pairwise_append.2 ⟨h1.2, by simp, fun a ha b hb => ?_⟩⟩
  · rcases List.mem_append.1 hx with hx | hx
    · exact h1.1 x hx
    · simp at hx
      rw [hx]
      exact h2
  · simp at hb
    rw [hb]
    obtain ⟨j, hj, rfl⟩ := List.mem_take_iff_getElem.1 ha
    exact h3 j (by omega) (by omega)

theorem reqs_bad {R : List Rq} {k : Nat} (hk : k < R.length) (h : ¬ RqOk R[k] ∨ ∃ j, j < k ∧ ∃ hj : j < R.length, R[j].1 = R[k].1) : ¬ RsOk R := by
  rintro ⟨h1, h2⟩
  rcases h with h | ⟨j, hjk, hj, h⟩
  · exact h (h1 _ (List.getElem_mem hk))
  · exact List.pairwise_iff_getElem.1 h2 j k hj hk hjk h

end Go.Proofs.Ytlpedligkofegab.Walks
