/-
  What can be counted of outputs: plain mathematics. No condition.
-/
import Derived.Test.YthfadekfobceaaaPl
import Derived.WalkKit
import Derived.ProofKit
import Derived.Handy
import Derived.LoopTactic
import Derived.Below
import Derived.Laws.BitsAllLaws
import Derived.RegionTactic
import Derived.Deep.RegionHeld3
import Derived.Deep.DrawnRows
import Derived.Deep.AppendLies
import Derived.Laws.OwnMore
import Derived.Deep.Onto
import Derived.Deep.QuietTactic
import Derived.BigQuiet
namespace Go.Proofs.Ythfadekfobceaaa.Walks
open Go.RowKit
set_option linter.unusedVariables false
set_option linter.unusedSimpArgs false
attribute [local go_sem ↓] Go.wp_at_zero Go.wp_at_succ

abbrev ouA (o : Ou) : Value := .agg #[.int .i64 o.kind, .int .i64 o.slot, .int .i64 o.gen, .int .i64 o.be, .int .i64 o.req, .int .i64 o.code, .int .i64 o.why]

/-- The numbers of an output are such as an int can be. -/
abbrev OuWf (o : Ou) : Prop := ∀ u ∈ [o.kind, o.slot, o.gen, o.be, o.req, o.code, o.why], (Lit.int .i64 u).wf = true

def badO (o : Ou) : Bool := decide (o.kind < 1) || decide (10 < o.kind) || decide (o.why < 0) || decide (5 < o.why)

def badB (o : Ou) : Bool := decide (o.be < 0) || decide (12 ≤ o.be)

def anyBad (l : List Ou) : Bool := l.any badO

def anyBadB (l : List Ou) : Bool := l.any badB

theorem badO_not {o : Ou} (h : badO o = false) : (1 ≤ o.kind ∧ o.kind ≤ 10) ∧ 0 ≤ o.why ∧ o.why ≤ 5 := by
  unfold badO at h
  simp only [Bool.or_eq_false_iff, decide_eq_false_iff_not] at h
  omega

theorem badB_not {o : Ou} (h : badB o = false) : 0 ≤ o.be ∧ o.be < 12 := by
  unfold badB at h
  simp only [Bool.or_eq_false_iff, decide_eq_false_iff_not] at h
  omega

theorem anyBad_at {l : List Ou} (h : anyBad l = false) {o : Ou} (ho : o ∈ l) : badO o = false := by
  have := List.any_eq_false.1 h o ho
  simpa using this

theorem anyBadB_at {l : List Ou} (h : anyBadB l = false) {o : Ou} (ho : o ∈ l) : badB o = false := by
  have := List.any_eq_false.1 h o ho
  simpa using this

/-- Does an output count at a place: of the kinds the first eleven, then of the reasons? -/
def hit (o : Ou) (j : Nat) : Bool := if j < 11 then o.kind == (j : Int) else o.kind == 6 && o.why == ((j - 11 : Nat) : Int)

def cntAt (l : List Ou) (j : Nat) : Nat := l.countP fun o => hit o j

def cntL (l : List Ou) : List Int := (List.range 17).map fun j => (cntAt l j : Int)

theorem cntL_len (l : List Ou) : (cntL l).length = 17 := by simp [cntL]

theorem cntL_nil : cntL [] = List.replicate 17 0 := by simp [cntL, cntAt]; rfl

theorem cntAt_le (l : List Ou) (j : Nat) : cntAt l j ≤ l.length := List.countP_le_length

theorem cntL_at (l : List Ou) (j : Nat) (hj : j < 17) : (cntL l)[j]'(by rw [cntL_len]; exact hj) = (cntAt l j : Int) := by simp [cntL]

theorem cntAt_snoc (l : List Ou) (o : Ou) (j : Nat) : cntAt (l ++ [o]) j = cntAt l j + (if hit o j then 1 else 0) := by
  simp [cntAt, List.countP_append, List.countP_cons]

theorem cntL_snoc1 (l : List Ou) (o : Ou) (k : Nat) (hk : o.kind = (k : Int)) (h11 : k < 11) (h6 : ¬ o.kind = 6) : cntL (l ++ [o]) = (cntL l).set k ((cntAt l k : Int) + 1) := by
  apply List.ext_getElem
  · simp [cntL_len]
  · intro j h1 h2
    rw [cntL_len] at h1
    rw [cntL_at _ _ h1, List.getElem_set, cntAt_snoc]
    by_cases e : k = j
    · subst e
      simp [hit, h11, hk]
    · rw [if_neg e, cntL_at _ _ h1]
      have : hit o j = false := by
        unfold hit
        split
        · rw [hk]
          simp
          omega
        · simp [h6]
      simp [this]

theorem cntL_snoc6 (l : List Ou) (o : Ou) (y : Nat) (hk : o.kind = 6) (hy : o.why = (y : Int)) (h6 : y < 6) : cntL (l ++ [o]) = ((cntL l).set 6 ((cntAt l 6 : Int) + 1)).set (11 + y) ((cntAt l (11 + y) : Int) + 1) := by
  apply List.ext_getElem
  · simp [cntL_len]
  · intro j h1 h2
    rw [cntL_len] at h1
    rw [cntL_at _ _ h1, List.getElem_set, List.getElem_set, cntAt_snoc]
    by_cases e : 11 + y = j
    · subst e
      simp [hit, hk, hy]
    · rw [if_neg e]
      by_cases e6 : 6 = j
      · subst e6
        simp [hit, hk]
      · rw [if_neg e6, cntL_at _ _ h1]
        have : hit o j = false := by
          unfold hit
          split
          · rw [hk]
            simp
            omega
          · rw [hk, hy]
            simp
            omega
        simp [this]

def ofO (l : List Ou) : List Int × Int := if anyBad l then (List.replicate 17 0, 5) else (cntL l, 0)

theorem ofO_len (l : List Ou) : (ofO l).1.length = 17 := by
  unfold ofO
  split
  · simp
  · exact cntL_len l

def liveN (l : List Ou) : Int := (cntAt l 1 : Int) - (cntAt l 6 : Int) - (cntAt l 7 : Int)

def liveO (l : List Ou) : Int × Int := if anyBad l then (0, 5) else if liveN l < 0 then (0, 6) else (liveN l, 0)

/-- Is an output one of a flow? -/
def ofF (o : Ou) : Bool := decide (o.kind = 1) || (decide (3 ≤ o.kind) && decide (o.kind ≤ 7))

def mine (s g : Int) (o : Ou) : Bool := ofF o && (decide (o.slot = s) && decide (o.gen = g))

def storyL (l : List Ou) (s g : Int) : List Ou := l.filter (mine s g)

def storyO (l : List Ou) (s g : Int) : List Ou × Int := if anyBad l then ([], 5) else (storyL l s g, 0)

def isUp (o : Ou) : Bool := decide (o.kind = 1) || decide (o.kind = 5)

def isDown (o : Ou) : Bool := decide (o.kind = 6) || decide (o.kind = 7)

/-- Another word of the same flow. -/
def word (s g : Int) (p : Ou) : Bool := (decide (p.slot = s) && decide (p.gen = g)) && (isUp p || isDown p)

/-- Of one flow. -/
def fits (o p : Ou) : Bool := decide (p.slot = o.slot) && decide (p.gen = o.gen)

/-- Those that are their flows' last words, and say where they are. -/
def lasts : List Ou → List Ou
  | [] => []
  | o :: l => if isUp o && !(l.any (word o.slot o.gen)) then o :: lasts l else lasts l

theorem lasts_mem : ∀ {l : List Ou} {o : Ou}, o ∈ lasts l → o ∈ l ∧ isUp o = true
  | p :: l, o, h => by
    unfold lasts at h
    split at h
    · rename_i hu
      rcases List.mem_cons.1 h with rfl | h
      · simp only [Bool.and_eq_true] at hu
        exact ⟨by simp, hu.1⟩
      · exact ⟨List.mem_cons_of_mem _ (lasts_mem h).1, (lasts_mem h).2⟩
    · exact ⟨List.mem_cons_of_mem _ (lasts_mem h).1, (lasts_mem h).2⟩

theorem lasts_snoc_no (o : Ou) (hu : isUp o = false) (hd : isDown o = false) : ∀ l : List Ou, lasts (l ++ [o]) = lasts l
  | [] => by simp [lasts, hu]
  | p :: l => by
    have hw : word p.slot p.gen o = false := by simp [word, hu, hd]
    simp [lasts, lasts_snoc_no o hu hd l, hw]

theorem lasts_snoc_up (o : Ou) (hu : isUp o = true) : ∀ l : List Ou, lasts (l ++ [o]) = (lasts l).filter (fun p => !fits o p) ++ [o]
  | [] => by simp [lasts, hu]
  | p :: l => by
    have hw : word p.slot p.gen o = fits o p := by simp [word, fits, hu, eq_comm]
    simp only [List.cons_append, lasts, lasts_snoc_up o hu l, List.any_append, List.any_cons, List.any_nil, Bool.or_false, hw]
    cases h1 : isUp p <;> cases h2 : l.any (word p.slot p.gen) <;> cases h3 : fits o p <;> simp [h3]

theorem lasts_snoc_down (o : Ou) (hu : isUp o = false) (hd : isDown o = true) : ∀ l : List Ou, lasts (l ++ [o]) = (lasts l).filter (fun p => !fits o p)
  | [] => by simp [lasts, hu]
  | p :: l => by
    have hw : word p.slot p.gen o = fits o p := by simp [word, fits, hd, eq_comm]
    simp only [List.cons_append, lasts, lasts_snoc_down o hu hd l, List.any_append, List.any_cons, List.any_nil, Bool.or_false, hw]
    cases h1 : isUp p <;> cases h2 : l.any (word p.slot p.gen) <;> cases h3 : fits o p <;> simp [h3]

/-- No two of them are of one flow. -/
theorem lasts_apart : ∀ l : List Ou, (lasts l).Pairwise fun p q => ¬ (p.slot = q.slot ∧ p.gen = q.gen)
  | [] => by simp [lasts]
  | p :: l => by
    unfold lasts
    split
    · rename_i h
      simp only [Bool.and_eq_true, Bool.not_eq_true', List.any_eq_false] at h
      refine List.pairwise_cons.2 ⟨fun q hq e => ?_, lasts_apart l⟩
      have := h.2 q (lasts_mem hq).1
      simp [word, e.1, e.2, (lasts_mem hq).2] at this
    · exact lasts_apart l

def byL (l : List Ou) : List Int := (List.range 12).map fun b : Nat => (((lasts l).countP (fun o => o.be == (b : Int)) : Nat) : Int)

def byO (l : List Ou) : List Int × Int := if anyBad l then ([], 5) else if anyBadB l then ([], 2) else (byL l, 0)

theorem byL_len (l : List Ou) : (byL l).length = 12 := by simp [byL]
end Go.Proofs.Ythfadekfobceaaa.Walks
