/-
  usherref: Finished, Woken. Condition: what is read can be read.
-/
import Derived.Test.YtlpedligkofegabRefD
import Derived.WalkKit
import Derived.ProofKit
import Derived.Handy
import Derived.LoopTactic
import Derived.Below
import Derived.Laws.BitsAllLaws
import Derived.RegionTactic
import Derived.Deep.RegionHeld3
import Derived.Deep.DrawnRows
import Derived.Deep.AppendLies
import Derived.Laws.OwnMore
import Derived.Deep.Onto
import Derived.Deep.QuietTactic
import Derived.BigQuiet
namespace Go.Proofs.Ytlpedligkofegab.Walks
open Go.RowKit
set_option linter.unusedVariables false
set_option linter.unusedSimpArgs false
attribute [local go_sem ↓] Go.wp_at_zero Go.wp_at_succ

theorem Own2.put {base : Nat} {W : World} {g n c : Nat} {vb : Value} {L : List Lf} {R : List Rq} (h : Own2 base W (.slice (some ⟨g, 0, none⟩) n c) vb L R) {i j : Nat} (hi : i < L.length) (hj : j < 6) (a : Int) (y : Lf) (hy : lfC y = (lfC L[i]).set j a) :
    Own2 base (W.setCell ⟨g, i * 6 + j, none⟩ (.int .i64 a)) (.slice (some ⟨g, 0, none⟩) n c) vb (L.set i y) R := by
  have hn : n = L.length := by
    rcases h.lives.2 with ⟨e, _⟩ | ⟨g', cap, cur, e, _⟩
    · cases e
    · injection e
  refine ⟨?_, own_block h.reqs (fun b hb => Below.heap_setCell _ _ _ _ (fun e => h.apart g rfl (by rw [hb, e]))), h.apart⟩
  rw [List.length_set, ← hn]
  have hl := h.lives
  rw [← hn] at hl
  exact own_put lf6 hl hi hj a y hy

theorem Own2.at {base : Nat} {W : World} {va vb : Value} {L : List Lf} {R : List Rq} (h : Own2 base W va vb L R) : BkAt W va vb L R := ⟨rcAt_own h.lives, rcAt_own h.reqs⟩

theorem bk48 {L : List Lf} {R : List Rq} (h : BkOk L R) : L.length * 48 ≤ 140737488355328 ∧ R.length * 40 ≤ 140737488355328 := ⟨by have := h.1.1; omega, by have := h.2.1; omega⟩

end Go.Proofs.Ytlpedligkofegab.Walks
