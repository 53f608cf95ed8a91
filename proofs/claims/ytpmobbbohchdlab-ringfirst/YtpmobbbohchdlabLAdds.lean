/-
  RingAdds returns true. Condition: the ring's spots can be read, and its copy has room.
-/
import Derived.Test.YtpmobbbohchdlabRefAR
import Derived.WalkKit
import Derived.ProofKit
import Derived.Handy
import Derived.LoopTactic
import Derived.Below
import Derived.Laws.BitsAllLaws
import Derived.RegionTactic
import Derived.Deep.RegionHeld3
import Derived.Deep.DrawnRows
import Derived.Deep.AppendLies
import Derived.Laws.OwnMore
import Derived.Deep.Onto
import Derived.Deep.QuietTactic
import Derived.BigQuiet
namespace Go.Proofs.Ytpmobbbohchdlab.Walks
open Go.RowKit
set_option linter.unusedVariables false
set_option linter.unusedSimpArgs false
attribute [local go_sem ↓] Go.wp_at_zero Go.wp_at_succ

/-- What Add answers. -/
def addOut (l : List Tm) (n k : Int) [Decidable (RingOk l)] : Int × List Tm :=
  if ¬ RingOk l then (6, []) else if ¬ ((0 ≤ n ∧ n < 12) ∧ (1 ≤ k ∧ k ≤ 8)) then (2, []) else if 0 < (wOf l).getD n.toNat 0 then (7, []) else (0, spotsOf ((wOf l).set n.toNat k))

theorem tmAt_nil (w : World) : TmAt w (.slice none 0 0) [] := rowAt_nil w

theorem TmAt.form {w : World} {v : Value} {l : List Tm} (h : TmAt w v l) : ∃ p c, v = .slice p l.length c := by
  obtain ⟨p, c, e, _⟩ := h.parts
  exact ⟨p, c, e⟩

open Classical in
theorem AddRes.out {l : List Tm} {n k : Int} {w : World} {r : Ending} {w' : World} (h : AddRes l n k w r w') :
    ∃ y, r = .returned (.tuple #[.agg #[y], .int .i64 (addOut l n k).1]) ∧ TmAt w' y (addOut l n k).2 ∧ Below w.heap.size w w' := by
  obtain ⟨y, e, rfl, hb, h⟩ := h
  refine ⟨y, ?_, ?_, hb⟩
  · rcases h with ⟨h1, rfl, _⟩ | ⟨h1, h2, rfl, _⟩ | ⟨h1, h2, h3, rfl, _⟩ | ⟨h1, h2, h3, rfl, _⟩
    · simp [addOut, h1]
    · simp only [addOut, h1, not_true_eq_false, if_false, if_pos h2]
    · simp only [addOut, h1, not_true_eq_false, if_false, if_neg (not_not_intro h2), if_pos h3]
    · simp only [addOut, h1, not_true_eq_false, if_false, if_neg (not_not_intro h2), if_neg h3]
  · rcases h with ⟨h1, _, rfl⟩ | ⟨h1, h2, _, rfl⟩ | ⟨h1, h2, h3, _, rfl⟩ | ⟨h1, h2, h3, _, ho⟩
    · simp only [addOut, h1, not_false_eq_true, if_true]; exact tmAt_nil _
    · simp only [addOut, h1, not_true_eq_false, if_false, if_pos h2]; exact tmAt_nil _
    · simp only [addOut, h1, not_true_eq_false, if_false, if_neg (not_not_intro h2), if_pos h3]; exact tmAt_nil _
    · simp only [addOut, h1, not_true_eq_false, if_false, if_neg (not_not_intro h2), if_neg h3]; exact rowAt_own ho

/-- A ring's box: where it lies, what it reads. -/
def BoxR (w : World) (g : Nat) (v : Value) (l : List Tm) : Prop := w.heap[g]? = some (.cells #[v] 25 (0, 0)) ∧ TmAt w v l

theorem BoxR.below {w w' : World} {g : Nat} {v : Value} {l : List Tm} (h : BoxR w g v l) (hb : Below w.heap.size w w') : BoxR w' g v l := ⟨box_below h.1 hb, h.2.below hb⟩

theorem BoxR.new {w : World} {v : Value} {l : List Tm} (h : TmAt w v l) : BoxR (w.alloc (.cells #[v] 25)) w.heap.size v l := ⟨heap_alloc_new _ _, h.below ((Below.refl _ _).alloc (Nat.le_refl _) _)⟩

theorem BoxR.cell {w : World} {g : Nat} {v : Value} {l : List Tm} (h : BoxR w g v l) : w.cell? ⟨g, 0, none⟩ = some v := one_cell h.1

theorem BoxR.lt {w : World} {g : Nat} {v : Value} {l : List Tm} (h : BoxR w g v l) : g < w.heap.size := (Array.getElem?_eq_some_iff.1 h.1).1

theorem below_new (w : World) (o : Obj) : Below w.heap.size w (w.alloc o) := (Below.refl _ _).alloc (Nat.le_refl _) _

end Go.Proofs.Ytpmobbbohchdlab.Walks
