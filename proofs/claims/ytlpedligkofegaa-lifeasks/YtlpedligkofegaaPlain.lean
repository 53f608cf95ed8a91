/-
  Lives, requests, books: plain mathematics.
-/
import Derived.Test.YtlpedligkofegaaRec
import Derived.WalkKit
import Derived.ProofKit
import Derived.Handy
import Derived.LoopTactic
import Derived.Below
import Derived.Laws.BitsAllLaws
import Derived.RegionTactic
import Derived.Deep.RegionHeld3
import Derived.Deep.DrawnRows
import Derived.Deep.AppendLies
import Derived.Laws.OwnMore
import Derived.Deep.Onto
import Derived.Deep.QuietTactic
import Derived.BigQuiet
namespace Go.Proofs.Ytlpedligkofegaa.Walks
open Go.RowKit
set_option linter.unusedVariables false
set_option linter.unusedSimpArgs false
attribute [local go_sem ↓] Go.wp_at_zero Go.wp_at_succ

/-- A life: Backend, State, Weight, Since, Until, Request. -/
abbrev Lf := Int × Int × Int × Int × Int × Int

/-- A request: Id, Kind, Backend, Weight, Answer. -/
abbrev Rq := Int × Int × Int × Int × Int

abbrev lfC (x : Lf) : List Int := [x.1, x.2.1, x.2.2.1, x.2.2.2.1, x.2.2.2.2.1, x.2.2.2.2.2]

abbrev rqC (x : Rq) : List Int := [x.1, x.2.1, x.2.2.1, x.2.2.2.1, x.2.2.2.2]

theorem lf6 (x : Lf) : (lfC x).length = 6 := rfl

theorem rq5 (x : Rq) : (rqC x).length = 5 := rfl

abbrev TickOk (n : Int) : Prop := 0 ≤ n ∧ n ≤ 1099511627776

/-- All numbers of a life but its state are within their bounds. -/
abbrev LfBd (x : Lf) : Prop := (0 ≤ x.1 ∧ x.1 ≤ 11) ∧ (1 ≤ x.2.2.1 ∧ x.2.2.1 ≤ 8) ∧ (0 ≤ x.2.2.2.1 ∧ x.2.2.2.1 ≤ 1099511627776) ∧ (0 ≤ x.2.2.2.2.1 ∧ x.2.2.2.2.1 ≤ 1099511628276) ∧ (0 ≤ x.2.2.2.2.2 ∧ x.2.2.2.2.2 ≤ 1048576)

/-- A life that may be. -/
abbrev LfOk (x : Lf) : Prop := LfBd x ∧ ((x.2.1 = 1 ∧ x.2.2.2.1 = 0 ∧ x.2.2.2.2.1 = 0 ∧ x.2.2.2.2.2 = 0) ∨ (x.2.1 = 2 ∧ x.2.2.2.2.1 = 0 ∧ x.2.2.2.2.2 = 0) ∨ x.2.1 = 3 ∨ x.2.1 = 4)

/-- A request that may be. -/
abbrev RqOk (r : Rq) : Prop := (0 ≤ r.1 ∧ r.1 ≤ 1048576) ∧ (r.2.1 = 1 ∨ r.2.1 = 2)

abbrev LsOk (L : List Lf) : Prop := (∀ x ∈ L, LfOk x) ∧ L.Pairwise (fun a b => a.1 < b.1)

abbrev RsOk (R : List Rq) : Prop := (∀ r ∈ R, RqOk r) ∧ R.Pairwise (fun a b => a.1 ≠ b.1)

/-- A book that may be. -/
abbrev BkOk (L : List Lf) (R : List Rq) : Prop := (L.length ≤ 12 ∧ LsOk L) ∧ (R.length ≤ 100 ∧ RsOk R)

def chkE (L : List Lf) (R : List Rq) : Int := if BkOk L R then 0 else 6

theorem chk_yes {L : List Lf} {R : List Rq} (h : BkOk L R) : chkE L R = 0 := if_pos h

theorem chk_no {L : List Lf} {R : List Rq} (h : ¬ BkOk L R) : chkE L R = 6 := if_neg h

/-- Lives that rise, and one more behind. -/
theorem rise_snoc {l : List Lf} {x : Lf} (h : l.Pairwise (fun a b => a.1 < b.1)) (hl : ∀ y, l.getLast? = some y → y.1 < x.1) : (l ++ [x]).Pairwise (fun a b => a.1 < b.1) := by
  refine List.pairwise_append.2 ⟨h, by simp, ?_⟩
  intro a ha b hb
  simp at hb
  subst hb
  rcases List.eq_nil_or_concat l with rfl | ⟨l', y, rfl⟩
  · cases ha
  · have hy := hl y (by simp)
    simp only [List.concat_eq_append] at ha h
    rcases List.mem_append.1 ha with ha | ha
    · have := (List.pairwise_append.1 h).2.2 a ha y (by simp)
      omega
    · simp at ha
      subst ha
      exact hy

/-- Where a backend's life stands, or else would stand. -/
def pos (L : List Lf) (n : Int) : Nat := L.findIdx (fun x => decide (n ≤ x.1))

/-- Whether it has one. -/
def here (L : List Lf) (n : Int) : Bool := match L[pos L n]? with
  | some x => x.1 == n
  | none => false

theorem pos_le (L : List Lf) (n : Int) : pos L n ≤ L.length := List.findIdx_le_length

theorem here_lt {L : List Lf} {n : Int} (h : here L n = true) : pos L n < L.length := by
  unfold here at h
  split at h
  · rename_i x hx
    exact (List.getElem?_eq_some_iff.1 hx).1
  · cases h

theorem here_is {L : List Lf} {n : Int} (h : here L n = true) : (L[pos L n]'(here_lt h)).1 = n := by
  have hlt := here_lt h
  unfold here at h
  rw [List.getElem?_eq_getElem hlt] at h
  simpa using h

theorem here_of {L : List Lf} {n : Int} (hlt : pos L n < L.length) (h : (L[pos L n]).1 = n) : here L n = true := by
  unfold here
  rw [List.getElem?_eq_getElem hlt]
  simpa using h

theorem pos_before {L : List Lf} {n : Int} {i : Nat} (hi : i < pos L n) : (L[i]'(Nat.lt_of_lt_of_le hi (pos_le L n))).1 < n := by
  have := List.not_of_lt_findIdx hi
  simpa using this

theorem pos_there {L : List Lf} {n : Int} (h : pos L n < L.length) : n ≤ (L[pos L n]).1 := by
  have := List.findIdx_getElem (w := h)
  unfold pos
  simpa using this

/-- In lives that rise: a backend with a life has it at its place. -/
theorem here_mem {L : List Lf} (h : L.Pairwise (fun a b => a.1 < b.1)) {i : Nat} (hi : i < L.length) : here L L[i].1 = true ∧ pos L L[i].1 = i := by
  have hle : pos L L[i].1 ≤ i := by
    refine Nat.le_of_not_lt fun hlt => ?_
    have := pos_before hlt
    omega
  have hp : pos L L[i].1 = i := by
    rcases Nat.lt_or_ge (pos L L[i].1) i with hlt | hge
    · have h1 := pos_there (n := L[i].1) (Nat.lt_trans hlt hi)
      have h2 := List.pairwise_iff_getElem.1 h _ _ (Nat.lt_trans hlt hi) hi hlt
      omega
    · omega
  refine ⟨here_of (by rw [hp]; exact hi) ?_, hp⟩
  simp only [hp]

theorem here_none {L : List Lf} {n : Int} (h : here L n = false) (hr : L.Pairwise (fun a b => a.1 < b.1)) : ∀ x ∈ L, x.1 ≠ n := by
  intro x hx e
  obtain ⟨i, hi, rfl⟩ := List.getElem_of_mem hx
  have := (here_mem hr hi).1
  rw [e, h] at this
  cases this

/-- One more at a place. -/
def insAt {α : Type} (l : List α) (x : α) (i : Nat) : List α := l.take i ++ x :: l.drop i

/-- AskJoin: the lives behind it, the answer. -/
def joinO (L : List Lf) (n w : Int) : List Lf × Int :=
  if ¬ (0 ≤ n ∧ n ≤ 11) ∨ ¬ (1 ≤ w ∧ w ≤ 8) then (L, 2)
  else if here L n then
    (if (L[pos L n]?.getD (0, 0, 0, 0, 0, 0)).2.1 = 4 then (L.set (pos L n) (n, 1, w, 0, 0, 0), 0) else (L, 7))
  else (insAt L (n, 1, w, 0, 0, 0) (pos L n), 0)

/-- A life that is asked to go. -/
def goes (x : Lf) (u id : Int) : Lf := (x.1, if x.2.1 = 2 then 3 else 4, x.2.2.1, x.2.2.2.1, u, id)

/-- AskRetire: the lives behind it, the answer. -/
def retireO (L : List Lf) (n id u : Int) : List Lf × Int :=
  if here L n then
    (if (L[pos L n]?.getD (0, 0, 0, 0, 0, 0)).2.1 = 4 then (L, 8)
    else if (L[pos L n]?.getD (0, 0, 0, 0, 0, 0)).2.1 = 3 then (L, 12)
    else (L.set (pos L n) (goes (L[pos L n]?.getD (0, 0, 0, 0, 0, 0)) u id), 0))
  else (L, 8)

/-- A request that is new: the lives and the requests behind it, the answer. -/
def takeO (L : List Lf) (R : List Rq) (r : Rq) (u : Int) : (List Lf × List Rq) × Int :=
  if r.2.1 = 1 then (((joinO L r.2.2.1 r.2.2.2.1).1, R ++ [(r.1, r.2.1, r.2.2.1, r.2.2.2.1, (joinO L r.2.2.1 r.2.2.2.1).2)]), (joinO L r.2.2.1 r.2.2.2.1).2)
  else (((retireO L r.2.2.1 r.1 u).1, R ++ [(r.1, r.2.1, r.2.2.1, 0, (retireO L r.2.2.1 r.1 u).2)]), (retireO L r.2.2.1 r.1 u).2)

/-- The request with an Id. -/
def oldAt (R : List Rq) (id : Int) : Nat := R.findIdx (fun q => q.1 == id)

/-- What Ask answers: a book, the answer, whether it is new, an error. -/
abbrev AskRes := (List Lf × List Rq) × Int × Bool × Int

/-- What is asked may be asked. -/
abbrev AskOk (r : Rq) (now drain : Int) : Prop := RqOk r ∧ (0 ≤ now ∧ now ≤ 1099511627776) ∧ (0 ≤ drain ∧ drain ≤ 500)

def askO (L : List Lf) (R : List Rq) (r : Rq) (now drain : Int) : AskRes :=
  if BkOk L R then
    (if AskOk r now drain then
      (if oldAt R r.1 < R.length then ((L, R), (R[oldAt R r.1]?.getD (0, 0, 0, 0, 0)).2.2.2.2, false, 0)
      else if R.length = 100 then ((L, R), 9, false, 0)
      else ((takeO L R r (now + drain)).1, (takeO L R r (now + drain)).2, true, 0))
    else (([], []), 0, false, 2))
  else (([], []), 0, false, 6)

/-- One that wakes. -/
def wakes (now : Int) (x : Lf) : Lf := if x.2.1 = 1 then (x.1, 2, x.2.2.1, now, x.2.2.2.2.1, x.2.2.2.2.2) else x

/-- Who wakes. -/
def wokenL (L : List Lf) : List Int := (L.filter (fun x => x.2.1 == 1)).map (·.1)

/-- What Wake answers. -/
def wakeO (L : List Lf) (R : List Rq) (now : Int) : (List Lf × List Rq) × List Int × Int :=
  if BkOk L R then
    (if 0 ≤ now ∧ now ≤ 1099511627776 then ((L.map (wakes now), R), wokenL L, 0) else (([], []), [], 2))
  else (([], []), [], 6)

def ends (x : Lf) : Lf := (x.1, 4, x.2.2.1, x.2.2.2.1, x.2.2.2.2.1, x.2.2.2.2.2)

/-- What Finish answers. -/
def finO (L : List Lf) (R : List Rq) (n : Int) : (List Lf × List Rq) × Int :=
  if BkOk L R then
    (if here L n = true ∧ (L[pos L n]?.getD (0, 0, 0, 0, 0, 0)).2.1 = 3 then ((L.set (pos L n) (ends (L[pos L n]?.getD (0, 0, 0, 0, 0, 0))), R), 0) else (([], []), 8))
  else (([], []), 6)

/-- What Of answers. -/
def ofO (L : List Lf) (R : List Rq) (n : Int) : Lf × Int :=
  if BkOk L R then
    (if here L n = true then (L[pos L n]?.getD (0, 0, 0, 0, 0, 0), 0) else ((0, 0, 0, 0, 0, 0), 8))
  else ((0, 0, 0, 0, 0, 0), 6)
end Go.Proofs.Ytlpedligkofegaa.Walks
