/-
  The weights of a ring, by the document, and whether it may be. Condition: the ring's spots can be read.
-/
import Derived.Test.YtpmobbbohchdlabOfW
import Derived.WalkKit
import Derived.ProofKit
import Derived.Handy
import Derived.LoopTactic
import Derived.Below
import Derived.Laws.BitsAllLaws
import Derived.RegionTactic
import Derived.Deep.RegionHeld3
import Derived.Deep.DrawnRows
import Derived.Deep.AppendLies
import Derived.Laws.OwnMore
import Derived.Deep.Onto
import Derived.Deep.QuietTactic
import Derived.BigQuiet
namespace Go.Proofs.Ytpmobbbohchdlab.Walks
open Go.RowKit
set_option linter.unusedVariables false
set_option linter.unusedSimpArgs false
attribute [local go_sem ↓] Go.wp_at_zero Go.wp_at_succ

/-- The first k backends have their weights, the others their counts. -/
def wM (l : List Tm) (k : Nat) : List Int := (List.range 12).map fun b => if b < k then ((cnt l b / 4 : Nat) : Int) else ((cnt l b : Nat) : Int)

theorem wM_len (l : List Tm) (k : Nat) : (wM l k).length = 12 := by simp [wM]
theorem wM_zero (l : List Tm) : wM l 0 = cntL l := by simp [wM, cntL]
theorem wM_all (l : List Tm) : wM l 12 = wOf l := by
  unfold wM wOf
  apply List.map_congr_left
  intro b hb
  rw [if_pos (List.mem_range.1 hb)]
theorem wM_at (l : List Tm) (k : Nat) (hk : k < 12) : (wM l k)[k]'(by rw [wM_len]; exact hk) = ((cnt l k : Nat) : Int) := by simp [wM]
theorem wM_succ (l : List Tm) (k : Nat) (hk : k < 12) : wM l (k + 1) = (wM l k).set k ((cnt l k / 4 : Nat) : Int) := by
  apply List.ext_getElem?
  intro j
  by_cases hj : j < 12
  · by_cases h : j = k
    · subst h
      rw [List.getElem?_set_self (by rw [wM_len]; exact hj)]
      simp [wM, hj]
    · rw [List.getElem?_set_ne (Ne.symm h)]
      simp [wM, hj, show j < k + 1 ↔ j < k by omega]
  · rw [List.getElem?_eq_none (by rw [wM_len]; omega), List.getElem?_eq_none (by rw [List.length_set, wM_len]; omega)]

theorem ringOk_four {l : List Tm} (h : RingOk l) (b : Nat) (hb : b < 12) : cnt l b % 4 = 0 := by
  obtain ⟨a, ha, rfl⟩ := h
  rw [cnt_spotsOf a b hb]
  omega

theorem ringOk_len {l : List Tm} (h : RingOk l) : l.length ≤ 384 := by
  obtain ⟨a, ha, rfl⟩ := h
  exact spotsOf_len ha

/-- What the document's weights of a ring are: none, or twelve in a block of their own. -/
def RWRes (l : List Tm) (w : World) (r : Ending) (w' : World) : Prop := ∃ v, r = .returned v ∧ Below w.heap.size w w' ∧ ((¬ RingOk l ∧ v = .slice none 0 0) ∨ (RingOk l ∧ ∃ g, v = .slice (some ⟨g, 0, none⟩) 12 12 ∧ w.heap.size ≤ g ∧ Arr 3 12 w' g (wOf l)))

theorem Arr.intsAt {n : Nat} {w : World} {g : Nat} {a : List Int} {T : TypeId} (h : Arr T n w g a) (hn : n ≤ 1000) : IntsAt w (.slice (some ⟨g, 0, none⟩) n n) a := by
  refine ⟨_, n, by rw [h.2], by rw [h.2]; exact Nat.le_refl _, by unfold maxLen; omega, .inr ⟨g, 0, rfl, h.lt, fun i hi => ?_⟩⟩
  rw [Nat.zero_add, icells_at a i (by rwa [icells_len] at hi)]
  exact h.cell i (by rwa [icells_len] at hi)

theorem made12 (W : World) : (Instr.makeSlice 29 (.int .i64 12) (.int .i64 12)).run Try.prog W = .ok (.slice (some ⟨W.heap.size, 0, none⟩) 12 12) (W.alloc (.cells (icells (List.replicate 12 0)).toArray 3)) := by
  obtain ⟨i1, hj, hy0, hy1, hy2⟩ := info_parts infoInt
  have h := run_makeSlice (P := Try.prog) W 29 3 i1 _ Try.underlying29 hj hy0 .i64 .i64 12 12 (by decide) (by decide) (by rw [hy1]; decide) (by rw [hy2]; decide) (by decide)
  have e : madeCells (Value.int .i64 0).cells (Int.toNat 12 * 1) = (icells (List.replicate 12 0)).toArray := Array.toList_inj.1 (toList_madeCells_one (.int .i64 0) 12)
  rw [h, hy1, e]
  rfl

end Go.Proofs.Ytpmobbbohchdlab.Walks
