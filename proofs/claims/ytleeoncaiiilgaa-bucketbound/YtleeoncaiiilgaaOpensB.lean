/-
  A slice of bools that came in, opened. Condition: what is read can be read.
-/
import Derived.Test.YtleeoncaiiilgaaOpens
import Derived.ChangeSame
import Derived.SizedLaws
import Derived.Deep.Slices
import Derived.WalkKit
import Derived.ProofKit
import Derived.Handy
import Derived.LoopTactic
import Derived.Below
import Derived.Laws.BitsAllLaws
import Derived.RegionTactic
import Derived.Deep.RegionHeld3
import Derived.Deep.DrawnRows
import Derived.Deep.AppendLies
import Derived.Laws.OwnMore
import Derived.Deep.Onto
import Derived.Deep.QuietTactic
import Derived.BigQuiet
namespace Go.Proofs.Ytleeoncaiiilgaa.Walks
open Go.RowKit
set_option linter.unusedVariables false
set_option linter.unusedSimpArgs false
attribute [local go_sem ↓] Go.wp_at_zero Go.wp_at_succ
open Go.ChangeShapes Go.WideShapes Go.ChangeAt Go.Deep

def bcells (l : List Bool) : List Value := l.map fun x => .bool x

theorem bcells_len (l : List Bool) : (bcells l).length = l.length := by simp [bcells]

theorem bcells_at (l : List Bool) (i : Nat) (h : i < l.length) : (bcells l)[i]? = some (.bool l[i]) := by simp [bcells, h]

def BsAt (w : World) (v : Value) (l : List Bool) : Prop := RowAt w v l.length (bcells l)

theorem BsAt.below {w w' : World} {v : Value} {l : List Bool} (h : BsAt w v l) (hb : Below w.heap.size w w') : BsAt w' v l := RowAt.below h hb

theorem BsAt.parts {w : World} {v : Value} {l : List Bool} (h : BsAt w v l) :
    ∃ a cap, v = .slice a l.length cap ∧ l.length ≤ cap ∧ cap ≤ maxLen ∧ ∀ i (hi : i < l.length), ∃ b off, a = some ⟨b, off, none⟩ ∧ b < w.heap.size ∧ w.cell? ⟨b, off + i, none⟩ = some (.bool l[i]) := by
  obtain ⟨a, cap, hv, hc, hm, h1 | ⟨b, off, h1, h2, h3⟩⟩ := h
  · exact ⟨a, cap, hv, hc, hm, fun i hi => absurd hi (by omega)⟩
  · exact ⟨a, cap, hv, hc, hm, fun i hi => ⟨b, off, h1, h2, by rw [h3 i (by rw [bcells_len]; omega)]; exact bcells_at l i hi⟩⟩

section
variable {H : Type} {enc : TypeId × Value → H} {P : Program} {w : World} {base : Nat} {spare : Nat → Bool} {held : Bool}

/-- A slice of bools: what it holds. -/
theorem open_bools {t e : TypeId} {fuel : Nat} {v : Value} {x : DataW H × List MemPlace} (ht : P.underlying t = some (.slice e)) (ce : P.cellsOf e = 1) (i0 : P.underlying e = some .bool)
    (h : DataW.trod enc P w base spare held fuel t [v] = some x) : ∃ l : List Bool, BsAt w v l ∧ ((∃ D sp, x.1 = .slice ((List.range l.length).map D) sp) ∨ l = []) := by
  rcases open_slice ht h with ⟨hcs, _⟩ | ⟨a, len, cap, m, n, D, Pl, hcs, hb, hl, hm, hmm, rfl, hx⟩
  · simp at hcs
    subst hcs
    exact ⟨[], rowAt_nil w, .inr rfl⟩
  · simp at hcs
    subst hcs
    have hlm : len ≤ m := by rw [hmm]; split <;> omega
    have each : ∀ i, i < m → ∃ q : Bool, w.cell? (a.add i) = some (.bool q) := by
      intro i hi
      obtain ⟨cs', h1, h2⟩ := hx i hi
      rw [ce] at h1
      obtain ⟨_, hlen, hcell⟩ := World.cells?_some h1
      match cs', hlen with
      | [v0], _ =>
        have e0 := hcell 0 (by omega)
        rw [add_add] at e0
        obtain ⟨n0, z0, _⟩ := DataW.trod_bool i0 h2
        simp at z0
        subst z0
        exact ⟨n0, by simpa using e0⟩
    obtain ⟨q, hq⟩ := choose_lt each
    have hlen : ((List.range len).map q).length = len := by simp
    refine ⟨(List.range len).map q, ?_, .inl ⟨D, _, by rw [hlen]⟩⟩
    unfold BsAt
    rw [hlen]
    refine ⟨some a, cap, rfl, hl, hm, ?_⟩
    by_cases h0 : len = 0
    · exact .inl ⟨h0, by rw [h0]; rfl⟩
    · obtain ⟨b, off, spot⟩ := a
      have hc0 := hq 0 (by omega)
      have hspot : spot = none := by simpa [Addr.add] using World.cell?_spot hc0
      subst hspot
      have hadd : ∀ i, (⟨b, off, none⟩ : Addr).add i = ⟨b, off + i, none⟩ := fun i => by unfold Addr.add; split <;> simp_all
      refine .inr ⟨b, off, rfl, ?_, fun i hi => ?_⟩
      · rw [hadd] at hc0
        exact World.block_lt_of_cell? w ⟨b, off + 0, none⟩ hc0
      · rw [bcells_len, hlen] at hi
        have ht := bcells_at ((List.range len).map q) i (by rw [hlen]; exact hi)
        simp only [List.getElem_map, List.getElem_range] at ht
        have e1 := hq i (by omega)
        rw [hadd] at e1
        rw [e1, ht]
end
end Go.Proofs.Ytleeoncaiiilgaa.Walks
