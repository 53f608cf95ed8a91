/-
  The weights of a ring, and whether it may be: weightsOf. Condition: the ring's spots can be read.
-/
import Derived.Test.YtpmobbbohchdlaaSmall
import Derived.WalkKit
import Derived.ProofKit
import Derived.Handy
import Derived.LoopTactic
import Derived.Below
import Derived.Laws.BitsAllLaws
import Derived.RegionTactic
import Derived.Deep.RegionHeld3
import Derived.Deep.DrawnRows
import Derived.Deep.AppendLies
import Derived.Laws.OwnMore
import Derived.Deep.Onto
import Derived.Deep.QuietTactic
import Derived.BigQuiet
namespace Go.Proofs.Ytpmobbbohchdlaa.Walks
open Go.RowKit
set_option linter.unusedVariables false
set_option linter.unusedSimpArgs false
attribute [local go_sem ↓] Go.wp_at_zero Go.wp_at_succ

/-- How many spots a backend has. -/
def cnt (l : List Tm) (b : Nat) : Nat := l.countP fun t => decide (t.2 = (b : Int))

theorem cnt_append (l m : List Tm) (b : Nat) : cnt (l ++ m) b = cnt l b + cnt m b := List.countP_append ..

theorem cnt_perm {l m : List Tm} (h : l.Perm m) (b : Nat) : cnt l b = cnt m b := h.countP_eq _

theorem cnt_le (l : List Tm) (b : Nat) : cnt l b ≤ l.length := List.countP_le_length

theorem cnt_spots1 (c b : Nat) : ∀ k, cnt (spots1 c k) b = if c = b then k else 0
  | 0 => by simp [spots1, cnt]
  | k + 1 => by
    rw [spots1_succ, cnt_append, cnt_spots1 c b k]
    by_cases h : c = b
    · simp [h, cnt]
    · simp [h, cnt]
      omega

theorem cnt_raw (a : List Int) (b : Nat) : ∀ n, cnt (raw a n) b = if b < n then wt a b * 4 else 0
  | 0 => by simp [raw, cnt]
  | n + 1 => by
    rw [raw, cnt_append, cnt_raw a b n, cnt_spots1]
    by_cases h1 : b < n
    · rw [if_pos h1, if_neg (by omega), if_pos (by omega)]; omega
    · rw [if_neg h1]
      by_cases h2 : n = b
      · subst h2; rw [if_pos rfl, if_pos (by omega)]; omega
      · rw [if_neg h2, if_neg (by omega)]

theorem mem_spots1 {b k : Nat} {t : Tm} : t ∈ spots1 b k ↔ ∃ i, i < k ∧ t = (((spotMix b i : Nat) : Int), (b : Int)) := by
  unfold spots1
  simp only [List.mem_map, List.mem_range]
  exact ⟨fun ⟨i, h, e⟩ => ⟨i, h, e.symm⟩, fun ⟨i, h, e⟩ => ⟨i, h, e.symm⟩⟩

theorem mem_raw {a : List Int} {t : Tm} : ∀ {n}, t ∈ raw a n ↔ ∃ b i, b < n ∧ i < wt a b * 4 ∧ t = (((spotMix b i : Nat) : Int), (b : Int))
  | 0 => by simp [raw]
  | n + 1 => by
    rw [raw, List.mem_append, mem_raw (n := n), mem_spots1]
    constructor
    · rintro (⟨b, i, h1, h2, h3⟩ | ⟨i, h1, h2⟩)
      · exact ⟨b, i, by omega, h2, h3⟩
      · exact ⟨n, i, by omega, h1, h2⟩
    · rintro ⟨b, i, h1, h2, h3⟩
      by_cases h : b = n
      · subst h; exact .inr ⟨i, h2, h3⟩
      · exact .inl ⟨b, i, by omega, h2, h3⟩

theorem mem_spotsOf {a : List Int} {t : Tm} : t ∈ spotsOf a ↔ ∃ b i, b < 12 ∧ i < wt a b * 4 ∧ t = (((spotMix b i : Nat) : Int), (b : Int)) := by
  unfold spotsOf
  rw [(sortT_perm _).mem_iff, mem_raw]

/-- The counts of the twelve backends. -/
def cntL (l : List Tm) : List Int := (List.range 12).map fun b => ((cnt l b : Nat) : Int)
/-- The weights that go with the counts. -/
def wOf (l : List Tm) : List Int := (List.range 12).map fun b => ((cnt l b / 4 : Nat) : Int)

theorem cntL_len (l : List Tm) : (cntL l).length = 12 := by simp [cntL]
theorem wOf_len (l : List Tm) : (wOf l).length = 12 := by simp [wOf]
theorem cntL_at (l : List Tm) (b : Nat) (h : b < 12) : (cntL l).getD b 0 = ((cnt l b : Nat) : Int) := by simp [cntL, h]
theorem wOf_at (l : List Tm) (b : Nat) (h : b < 12) : (wOf l).getD b 0 = ((cnt l b / 4 : Nat) : Int) := by simp [wOf, h]
theorem wOf_past (l : List Tm) (b : Nat) (h : ¬ b < 12) : (wOf l).getD b 0 = 0 := by simp [wOf, h]

theorem cntL_nil : cntL [] = List.replicate 12 0 := rfl

theorem cntL_snoc (l : List Tm) (t : Tm) (b : Nat) (hb : b < 12) (ht : t.2 = (b : Int)) : cntL (l ++ [t]) = (cntL l).set b (((cnt l b : Nat) : Int) + 1) := by
  apply List.ext_getElem?
  intro j
  by_cases hj : j < 12
  · have e : cnt (l ++ [t]) j = cnt l j + if j = b then 1 else 0 := by
      rw [cnt_append]
      congr 1
      by_cases h : j = b
      · subst h; simp [cnt, ht]
      · simp [cnt, ht, h]; omega
    by_cases h : j = b
    · subst h
      rw [List.getElem?_set_self (by rw [cntL_len]; exact hj)]
      simp [cntL, hj, e]
    · rw [List.getElem?_set_ne (Ne.symm h)]
      simp [cntL, hj, e, h]
  · rw [List.getElem?_eq_none (by rw [cntL_len]; omega), List.getElem?_eq_none (by rw [List.length_set, cntL_len]; omega)]

/-- A ring that may be. -/
def RingOk (l : List Tm) : Prop := ∃ a, Wts a ∧ l = spotsOf a

theorem wt_int {a : List Int} (h : Wts a) (b : Nat) : ((wt a b : Nat) : Int) = a.getD b 0 := by
  have := h.low b
  unfold wt
  omega

theorem cnt_spotsOf (a : List Int) (b : Nat) (hb : b < 12) : cnt (spotsOf a) b = wt a b * 4 := by
  unfold spotsOf
  rw [cnt_perm (sortT_perm _), cnt_raw, if_pos hb]

theorem wOf_spotsOf {a : List Int} (h : Wts a) : wOf (spotsOf a) = a := by
  apply List.ext_getElem?
  intro j
  by_cases hj : j < 12
  · have e := cnt_spotsOf a j hj
    have e2 := wt_int h j
    have hj' : j < a.length := by rw [h.len]; exact hj
    rw [List.getElem?_eq_getElem hj']
    rw [List.getD_eq_getElem?_getD, List.getElem?_eq_getElem hj'] at e2
    simp only [Option.getD_some] at e2
    simp [wOf, hj, e, e2]
  · rw [List.getElem?_eq_none (by rw [wOf_len]; omega), List.getElem?_eq_none (by rw [h.len]; omega)]

theorem wts_of_counts {l : List Tm} (h : ∀ b, b < 12 → cnt l b ≤ 32) : Wts (wOf l) := by
  refine ⟨wOf_len l, fun b => ?_, fun b => ?_⟩
  · by_cases hb : b < 12
    · rw [wOf_at l b hb]; omega
    · rw [wOf_past l b hb]; omega
  · by_cases hb : b < 12
    · rw [wOf_at l b hb]; have := h b hb; omega
    · rw [wOf_past l b hb]; omega

theorem ringOk_iff {l : List Tm} (h : ∀ b, b < 12 → cnt l b ≤ 32) : RingOk l ↔ l = spotsOf (wOf l) := by
  constructor
  · rintro ⟨a, ha, rfl⟩
    rw [wOf_spotsOf ha]
  · intro e
    exact ⟨wOf l, wts_of_counts h, e⟩

theorem ringOk_in {l : List Tm} (h : RingOk l) : ∀ t ∈ l, 0 ≤ t.2 ∧ t.2 < 12 := by
  obtain ⟨a, ha, rfl⟩ := h
  intro t ht
  obtain ⟨b, i, hb, _, rfl⟩ := mem_spotsOf.1 ht
  exact ⟨by simp, by simp only; omega⟩

theorem ringOk_cnt {l : List Tm} (h : RingOk l) (b : Nat) (hb : b < 12) : cnt l b ≤ 32 := by
  obtain ⟨a, ha, rfl⟩ := h
  rw [cnt_spotsOf a b hb]
  have := ha.wt_le b
  omega
end Go.Proofs.Ytpmobbbohchdlaa.Walks
