/-
  Rows of seats: what can be read. Condition: what is read can be read.
-/
import Derived.Test.YthiojfgimjoenaaSeatM
import Derived.WalkKit
import Derived.ProofKit
import Derived.Handy
import Derived.LoopTactic
import Derived.Below
import Derived.Laws.BitsAllLaws
import Derived.RegionTactic
import Derived.Deep.RegionHeld3
import Derived.Deep.DrawnRows
import Derived.Deep.AppendLies
import Derived.Laws.OwnMore
import Derived.Deep.Onto
import Derived.Deep.QuietTactic
import Derived.BigQuiet
namespace Go.Proofs.Ythiojfgimjoenaa.Walks
open Go.RowKit
set_option linter.unusedVariables false
set_option linter.unusedSimpArgs false
attribute [local go_sem ↓] Go.wp_at_zero Go.wp_at_succ

/-- A seat: Kind, A, B. -/
abbrev St := Int × Int × Int

def qcells : List St → List Value
  | [] => []
  | t :: l => .int .i64 t.1 :: .int .i64 t.2.1 :: .int .i64 t.2.2 :: qcells l

theorem qcells_len : ∀ l : List St, (qcells l).length = l.length * 3
  | [] => rfl
  | t :: l => by simp [qcells, qcells_len l]; omega

theorem qcells_at : ∀ (l : List St) (i : Nat) (h : i < l.length), (qcells l)[i * 3]? = some (.int .i64 l[i].1) ∧ (qcells l)[i * 3 + 1]? = some (.int .i64 l[i].2.1) ∧ (qcells l)[i * 3 + 2]? = some (.int .i64 l[i].2.2)
  | t :: l, 0, _ => by simp [qcells]
  | t :: l, i + 1, h => by
    have h2 := qcells_at l i (by simpa using h)
    rw [show (i + 1) * 3 = i * 3 + 1 + 1 + 1 by omega]
    simpa [qcells] using h2

theorem qcells_one (l : List St) : ∀ u ∈ qcells l, u.oneCell' = true := by
  induction l with
  | nil => simp [qcells]
  | cons t l ih =>
    simp only [qcells, List.mem_cons]
    rintro u (rfl | rfl | rfl | h)
    · rfl
    · rfl
    · rfl
    · exact ih u h

def StAt (w : World) (v : Value) (l : List St) : Prop := RowAt w v l.length (qcells l)

theorem StAt.below {w w' : World} {v : Value} {l : List St} (h : StAt w v l) (hb : Below w.heap.size w w') : StAt w' v l := RowAt.below h hb

theorem StAt.parts {w : World} {v : Value} {l : List St} (h : StAt w v l) :
    ∃ a cap, v = .slice a l.length cap ∧ l.length ≤ cap ∧ cap ≤ maxLen ∧ ∀ i (hi : i < l.length), ∃ b off, a = some ⟨b, off, none⟩ ∧ b < w.heap.size ∧ w.cell? ⟨b, off + i * 3, none⟩ = some (.int .i64 l[i].1) ∧ w.cell? ⟨b, off + i * 3 + 1, none⟩ = some (.int .i64 l[i].2.1) ∧ w.cell? ⟨b, off + i * 3 + 2, none⟩ = some (.int .i64 l[i].2.2) := by
  obtain ⟨a, cap, hv, hc, hm, h1 | ⟨b, off, h1, h2, h3⟩⟩ := h
  · exact ⟨a, cap, hv, hc, hm, fun i hi => absurd hi (by omega)⟩
  · refine ⟨a, cap, hv, hc, hm, fun i hi => ⟨b, off, h1, h2, ?_, ?_, ?_⟩⟩
    · rw [h3 (i * 3) (by rw [qcells_len]; omega)]; exact (qcells_at l i hi).1
    · rw [Nat.add_assoc, h3 (i * 3 + 1) (by rw [qcells_len]; omega)]; exact (qcells_at l i hi).2.1
    · rw [Nat.add_assoc, h3 (i * 3 + 2) (by rw [qcells_len]; omega)]; exact (qcells_at l i hi).2.2
end Go.Proofs.Ythiojfgimjoenaa.Walks
