/-
  A struct of whole numbers, however deep, that came in, opened: a config, a setup. No condition.
-/
import Derived.Test.YtbabcpdcgncigaaCk
import Derived.OpenShut
import Derived.ChangeArms
import Derived.Deep.Fields
import Derived.WalkKit
import Derived.ProofKit
import Derived.Handy
import Derived.LoopTactic
import Derived.Below
import Derived.Laws.BitsAllLaws
import Derived.RegionTactic
import Derived.Deep.RegionHeld3
import Derived.Deep.DrawnRows
import Derived.Deep.AppendLies
import Derived.Laws.OwnMore
import Derived.Deep.Onto
import Derived.Deep.QuietTactic
import Derived.BigQuiet
namespace Go.Proofs.Ytbabcpdcgncigaa.Walks
open Go.RowKit
set_option linter.unusedVariables false
set_option linter.unusedSimpArgs false
attribute [local go_sem ↓] Go.wp_at_zero Go.wp_at_succ
open Go.ChangeShapes Go.WideShapes Go.ChangeAt Go.Deep

/-- All that it holds are whole numbers, a cell each. -/
def flatB (P : Program) : Nat → TypeId → Bool
  | 0, _ => false
  | d + 1, t => match P.underlying t with
    | some (.int .i64) => P.cellsOf t == 1
    | some (.struct fs) => (List.range (P.cellsOf t)).all fun i => (List.range fs.size).any fun j => match fs[j]? with
      | some f => decide (f.offset ≤ i) && decide (i < f.offset + P.cellsOf f.type) && flatB P d f.type
      | none => false
    | some (.array n e) => flatB P d e && decide (0 < P.cellsOf e) && decide (P.cellsOf t = n * P.cellsOf e)
    | _ => false

section
variable {H : Type} {enc : TypeId × Value → H} {P : Program} {w : World} {base : Nat} {spare : Nat → Bool} {held : Bool}

theorem flat_ints : ∀ (d : Nat) {t : TypeId} {fuel : Nat} {cs : List Value} {x : DataW H × List MemPlace}, flatB P d t = true → DataW.trod enc P w base spare held fuel t cs = some x → ∀ i, i < P.cellsOf t → ∃ n : Int, cs[i]? = some (.int .i64 n) ∧ (Lit.int .i64 n).wf = true
  | 0, _, _, _, _, hf, _, _, _ => by simp [flatB] at hf
  | d + 1, t, fuel, cs, x, hf, h, i, hi => by
    unfold flatB at hf
    split at hf
    · rename_i hu
      obtain ⟨n, rfl, _, hw⟩ := DataW.trod_int hu h
      have : P.cellsOf t = 1 := by simpa using hf
      obtain rfl : i = 0 := by omega
      exact ⟨n, rfl, hw⟩
    · rename_i fs hu
      obtain ⟨xs, k, _, _, _, hl, hx⟩ := DataW.trod_struct hu h
      have h1 := List.all_eq_true.1 hf i (List.mem_range.2 hi)
      obtain ⟨j, hj, h2⟩ := List.any_eq_true.1 h1
      have hj' := List.mem_range.1 hj
      rw [Array.getElem?_eq_getElem hj'] at h2
      simp only [Bool.and_eq_true, decide_eq_true_eq] at h2
      obtain ⟨⟨h3, h4⟩, h5⟩ := h2
      have h6 := hx j fs[j] (Array.getElem?_eq_getElem hj')
      rw [List.getElem?_eq_getElem (by rw [hl]; exact hj')] at h6
      obtain ⟨n, h7, h8⟩ := flat_ints d h5 h6 (i - fs[j].offset) (by omega)
      refine ⟨n, ?_, h8⟩
      rw [List.getElem?_take_of_lt (by omega), List.getElem?_drop] at h7
      rwa [show fs[j].offset + (i - fs[j].offset) = i by omega] at h7
    · rename_i n e hu
      simp only [Bool.and_eq_true, decide_eq_true_eq] at hf
      obtain ⟨⟨hf, hpos⟩, hct⟩ := hf
      obtain ⟨xs, k, _, _, hlen, hl, hx⟩ := DataW.trod_array hu h
      have hdiv : i / P.cellsOf e < n := Nat.div_lt_of_lt_mul (by rw [Nat.mul_comm, ← hct]; exact hi)
      have hmod := Nat.mod_lt i hpos
      have h6 := hx (i / P.cellsOf e) hdiv
      rw [List.getElem?_eq_getElem (by rw [hl]; exact hdiv)] at h6
      obtain ⟨m, h7, h8⟩ := flat_ints d hf h6 (i % P.cellsOf e) hmod
      refine ⟨m, ?_, h8⟩
      rw [List.getElem?_take_of_lt hmod, List.getElem?_drop] at h7
      rwa [show i / P.cellsOf e * P.cellsOf e + i % P.cellsOf e = i by rw [Nat.mul_comm]; exact Nat.div_add_mod i _] at h7
    · cases hf

theorem array16 {cs : Array Value} (h : cs.size = 16) (f : Nat → Int) (hf : ∀ i, i < 16 → cs.toList[i]? = some (.int .i64 (f i))) : cs = #[.int .i64 (f 0), .int .i64 (f 1), .int .i64 (f 2), .int .i64 (f 3), .int .i64 (f 4), .int .i64 (f 5), .int .i64 (f 6), .int .i64 (f 7), .int .i64 (f 8), .int .i64 (f 9), .int .i64 (f 10), .int .i64 (f 11), .int .i64 (f 12), .int .i64 (f 13), .int .i64 (f 14), .int .i64 (f 15)] := by
  apply Array.toList_inj.1
  apply List.ext_getElem?
  intro i
  by_cases hi : i < 16
  · rw [hf i hi]
    have : i = 0 ∨ i = 1 ∨ i = 2 ∨ i = 3 ∨ i = 4 ∨ i = 5 ∨ i = 6 ∨ i = 7 ∨ i = 8 ∨ i = 9 ∨ i = 10 ∨ i = 11 ∨ i = 12 ∨ i = 13 ∨ i = 14 ∨ i = 15 := by omega
    rcases this with rfl | rfl | rfl | rfl | rfl | rfl | rfl | rfl | rfl | rfl | rfl | rfl | rfl | rfl | rfl | rfl <;> rfl
  · rw [List.getElem?_eq_none (by simp [h]; omega), List.getElem?_eq_none (by simp; omega)]

abbrev mkCf (f : Nat → Int) : Cf := ⟨f 0, f 1, f 2, f 3, f 4, f 5, f 6, f 7, f 8, f 9, f 10, f 11, f 12, f 13, f 14, f 15⟩

/-- The numbers of a config are such as an int can be. -/
def CfWf (c : Cf) : Prop := ∃ f : Nat → Int, c = mkCf f ∧ ∀ i, i < 16 → (Lit.int .i64 (f i)).wf = true

/-- A config. -/
theorem open_config {r : Reach} {b0 : Nat} {t : TypeId} {fs : Array Field} {v : Value} {d : DataW H} {p : List MemPlace} (hs : P.underlying t = some (.struct fs)) (hc : P.cellsOf t = 16) (hfl : flatB P 3 t = true)
    (hv : Value.okWide P w r b0 t v) (h : DataW.Trod enc P w base spare held t v d p) : ∃ c : Cf, v = cfA c ∧ CfWf c := by
  obtain ⟨cs, rfl, hsz⟩ := okWide_struct hs hv
  obtain ⟨fuel, hf⟩ := h
  have h1 := flat_ints 3 hfl hf
  rw [hc] at h1 hsz
  obtain ⟨f, hff⟩ := choose_lt h1
  refine ⟨mkCf f, ?_, f, rfl, fun i hi => (hff i hi).2⟩
  rw [array16 hsz f (fun i hi => (hff i hi).1)]
end
end Go.Proofs.Ytbabcpdcgncigaa.Walks
