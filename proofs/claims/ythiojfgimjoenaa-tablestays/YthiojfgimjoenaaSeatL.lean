/-
  What seated leaves, opened. Condition: it can be read.
-/
import Derived.Test.YthiojfgimjoenaaSeated
import Derived.WalkKit
import Derived.ProofKit
import Derived.Handy
import Derived.LoopTactic
import Derived.Below
import Derived.Laws.BitsAllLaws
import Derived.RegionTactic
import Derived.Deep.RegionHeld3
import Derived.Deep.DrawnRows
import Derived.Deep.AppendLies
import Derived.Laws.OwnMore
import Derived.Deep.Onto
import Derived.Deep.QuietTactic
import Derived.BigQuiet
namespace Go.Proofs.Ythiojfgimjoenaa.Walks
open Go.RowKit
set_option linter.unusedVariables false
set_option linter.unusedSimpArgs false
attribute [local go_sem ↓] Go.wp_at_zero Go.wp_at_succ

theorem bool_parts {w : World} {p : Option Addr} {c n : Nat} {l : List Bool} (h : RowAt w (.slice p n c) n (bcells l)) (hn : l.length = n) :
    (n ≤ c ∧ c ≤ maxLen) ∧ ∀ i (hi : i < l.length), ∃ b off, p = some ⟨b, off, none⟩ ∧ b < w.heap.size ∧ w.cell? ⟨b, off + i, none⟩ = some (.bool l[i]) := by
  obtain ⟨a, cap, hv, hc, hm, h1⟩ := h
  injection hv with e1 e2 e3
  subst e1 e3
  refine ⟨⟨hc, hm⟩, fun i hi => ?_⟩
  rcases h1 with ⟨h1, _⟩ | ⟨b, off, h1, h2, h3⟩
  · omega
  · refine ⟨b, off, h1, h2, ?_⟩
    rw [h3 i (by rw [bcells_len]; exact hi)]
    simp [bcells, hi]

/-- What can be read of the handles. -/
def Reads (pH pG pA : Option Addr) (E : List En) (w : World) : Prop :=
  ∀ k (hk : k < E.length), ∃ bH oH bG oG bA oA, pH = some ⟨bH, oH, none⟩ ∧ pG = some ⟨bG, oG, none⟩ ∧ pA = some ⟨bA, oA, none⟩ ∧ bH < w.heap.size ∧ bG < w.heap.size ∧ bA < w.heap.size ∧
    w.cell? ⟨bH, oH + k * 2, none⟩ = some (.int .i64 E[k].1.1) ∧ w.cell? ⟨bH, oH + k * 2 + 1, none⟩ = some (.int .i64 E[k].1.2) ∧ w.cell? ⟨bG, oG + k, none⟩ = some (.bool E[k].2.1) ∧ w.cell? ⟨bA, oA + k, none⟩ = some (.int .i64 E[k].2.2)

theorem Reads.below {pH pG pA : Option Addr} {E : List En} {w w' : World} (h : Reads pH pG pA E w) (hb : Below w.heap.size w w') : Reads pH pG pA E w' := fun k hk => by
  obtain ⟨bH, oH, bG, oG, bA, oA, e1, e2, e3, l1, l2, l3, c1, c2, c3, c4⟩ := h k hk
  exact ⟨bH, oH, bG, oG, bA, oA, e1, e2, e3, Nat.lt_of_lt_of_le l1 hb.size, Nat.lt_of_lt_of_le l2 hb.size, Nat.lt_of_lt_of_le l3 hb.size, (hb.cell (p := ⟨bH, oH + k * 2, none⟩) l1).trans c1, (hb.cell (p := ⟨bH, oH + k * 2 + 1, none⟩) l1).trans c2, (hb.cell (p := ⟨bG, oG + k, none⟩) l2).trans c3, (hb.cell (p := ⟨bA, oA + k, none⟩) l3).trans c4⟩

/-- What seated leaves. -/
def Left (T : List Sl) (E : List En) (pT pH pG pA : Option Addr) (cT cH cG cA : Nat) (w : World) : Prop :=
  Inv 30 T E ∧ (T.length ≤ 6 ∧ E.length ≤ 30) ∧ SlAt w (.slice pT T.length cT) T ∧ Reads pH pG pA E w ∧ (E.length ≤ cH ∧ cH ≤ 9223372036854775807 ∧ E.length ≤ cG ∧ cG ≤ 9223372036854775807 ∧ E.length ≤ cA ∧ cA ≤ 9223372036854775807 ∧ T.length ≤ cT ∧ cT ≤ 9223372036854775807)

theorem SeatRes.open {w : World} {r : Ending} {w' : World} (h : SeatRes w r w') :
    ∃ (T : List Sl) (E : List En) (pT pH pG pA : Option Addr) (cT cH cG cA : Nat), r = .returned (.tuple #[.agg #[.slice pT T.length cT], .slice pH E.length cH, .slice pG E.length cG, .slice pA E.length cA, .bool true]) ∧ Left T E pT pH pG pA cT cH cG cA w' ∧ Below w.heap.size w w' := by
  obtain ⟨T, E, pT, pH, pG, pA, cT, cH, cG, cA, hr, hi, hT, h1, h2, h3, h4, hb⟩ := h
  obtain ⟨_, _, e1, a1, a2, _⟩ := h1.parts
  injection e1 with _ _ e1
  subst e1
  have h2' := h2
  obtain ⟨_, _, e2, a3, a4, p2⟩ := h2.parts
  obtain ⟨⟨a5, a6⟩, p3⟩ := bool_parts h3 (gdE_len E)
  obtain ⟨_, _, e4, a7, a8, p4⟩ := h4.parts
  injection e2 with x1 _ e2
  injection e4 with x2 _ e4
  subst x1 x2 e2 e4
  rw [hsE_len] at a3
  rw [atE_len] at a7
  unfold maxLen at a2 a4 a6 a8
  refine ⟨T, E, pT, pH, pG, pA, cT, cH, cG, cA, hr, ⟨hi, ⟨hT, hi.few⟩, h1, fun k hk => ?_, by omega, by omega, by omega, by omega, by omega, by omega, by omega, by omega⟩, hb⟩
  obtain ⟨bH, oH, e1, l1, c1, c2⟩ := p2 k (by rw [hsE_len]; exact hk)
  obtain ⟨bG, oG, e2, l2, c3⟩ := p3 k (by rw [gdE_len]; exact hk)
  obtain ⟨bA, oA, e3, l3, c4⟩ := p4 k (by rw [atE_len]; exact hk)
  have g1 : (hsE E)[k]'(by rw [hsE_len]; exact hk) = E[k].1 := by simp [hsE]
  have g2 : (gdE E)[k]'(by rw [gdE_len]; exact hk) = E[k].2.1 := by simp [gdE]
  have g3 : (atE E)[k]'(by rw [atE_len]; exact hk) = E[k].2.2 := by simp [atE]
  rw [g1] at c1 c2
  rw [g2] at c3
  rw [g3] at c4
  exact ⟨bH, oH, bG, oG, bA, oA, e1, e2, e3, l1, l2, l3, c1, c2, c3, c4⟩

theorem Left.below {T : List Sl} {E : List En} {pT pH pG pA : Option Addr} {cT cH cG cA : Nat} {w w' : World} (h : Left T E pT pH pG pA cT cH cG cA w) (hb : Below w.heap.size w w') : Left T E pT pH pG pA cT cH cG cA w' :=
  ⟨h.1, h.2.1, h.2.2.1.below hb, h.2.2.2.1.below hb, h.2.2.2.2⟩
end Go.Proofs.Ythiojfgimjoenaa.Walks
