/-
  usherref: lifeAt, LifeOf. Condition: what is read can be read.
-/
import Derived.Test.YtlpedligkofegabRefB
import Derived.Test.YtlpedligkofegabRefC
import Derived.WalkKit
import Derived.ProofKit
import Derived.Handy
import Derived.LoopTactic
import Derived.Below
import Derived.Laws.BitsAllLaws
import Derived.RegionTactic
import Derived.Deep.RegionHeld3
import Derived.Deep.DrawnRows
import Derived.Deep.AppendLies
import Derived.Laws.OwnMore
import Derived.Deep.Onto
import Derived.Deep.QuietTactic
import Derived.BigQuiet
namespace Go.Proofs.Ytlpedligkofegab.Walks
open Go.RowKit
set_option linter.unusedVariables false
set_option linter.unusedSimpArgs false
attribute [local go_sem ↓] Go.wp_at_zero Go.wp_at_succ

/-- Where a backend's life stands, or -1. -/
def atI (L : List Lf) (n : Int) : Int := if here L n = true then (pos L n : Int) else -1

theorem at_yes {L : List Lf} {n : Int} (h : here L n = true) : atI L n = (pos L n : Int) := if_pos h

theorem at_no {L : List Lf} {n : Int} (h : here L n = false) : atI L n = -1 := if_neg (by rw [h]; decide)

theorem at_found {L : List Lf} {n : Int} {k : Nat} (hr : L.Pairwise (fun a b => a.1 < b.1)) (hk : k < L.length) (h : L[k].1 = n) : atI L n = (k : Int) := by
  have hm := here_mem hr hk
  rw [h] at hm
  rw [at_yes hm.1, hm.2]

theorem at_none {L : List Lf} {n : Int} (h : ∀ x ∈ L, x.1 ≠ n) : atI L n = -1 := by
  cases hh : here L n
  · exact at_no hh
  · exact absurd (here_is hh) (h _ (List.getElem_mem (here_lt hh)))

end Go.Proofs.Ytlpedligkofegab.Walks
