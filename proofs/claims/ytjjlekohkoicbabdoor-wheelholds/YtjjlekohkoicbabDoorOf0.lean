/-
  The document's wheel of a list of timers: each list gathered and ordered. The ticks are not negative and lie within bounds; the list's bytes stay below the model's bound.
-/
import Derived.Test.YtjjlekohkoicbabDoorOwn
import Derived.WalkKit
import Derived.ProofKit
import Derived.Handy
import Derived.LoopTactic
import Derived.Below
import Derived.Laws.BitsAllLaws
import Derived.RegionTactic
import Derived.Deep.RegionHeld3
import Derived.Deep.DrawnRows
import Derived.Deep.AppendLies
import Derived.Laws.OwnMore
import Derived.Deep.Onto
import Derived.Deep.QuietTactic
import Derived.BigQuiet
namespace Go.Proofs.YtjjlekohkoicbabDoor.Walks
open Go.RowKit
set_option linter.unusedVariables false
set_option linter.unusedSimpArgs false
attribute [local go_sem ↓] Go.wp_at_zero Go.wp_at_succ

/-- Where a timer comes to stand behind those that are there: it passes those that it is ahead of, from the end. -/
def spot (t : Tm) (x : List Tm) : Nat → Nat
  | 0 => 0
  | j + 1 => if ahead t (x.getD j (0, 0)) then spot t x j else j + 1

def insAt (x : List Tm) (t : Tm) (j : Nat) : List Tm := x.take j ++ t :: x.drop j

def ins (x : List Tm) (t : Tm) : List Tm := insAt x t (spot t x x.length)

def gatherF (now i : Int) (x : List Tm) (t : Tm) : List Tm := if placeOf t.1 now = i then ins x t else x

/-- The timers of one place, in order. -/
def gather (now i : Int) (l : List Tm) : List Tm := l.foldl (gatherF now i) []

def wheelTo (now : Int) (l : List Tm) (k : Nat) : List (List Tm) := (List.range k).map fun (i : Nat) => gather now (i : Int) l

def wheelOf (now : Int) (l : List Tm) : List (List Tm) := wheelTo now l 25

theorem insAt_len (x : List Tm) (t : Tm) (j : Nat) : (insAt x t j).length = x.length + 1 := by
  simp only [insAt, List.length_append, List.length_cons, List.length_take, List.length_drop]; omega

theorem ins_len (x : List Tm) (t : Tm) : (ins x t).length = x.length + 1 := insAt_len _ _ _

theorem gather_snoc (now i : Int) (l : List Tm) (t : Tm) : gather now i (l ++ [t]) = gatherF now i (gather now i l) t := by simp [gather]

theorem gather_len (now i : Int) (l : List Tm) : (gather now i l).length ≤ l.length := by
  have h : ∀ (m : List Tm) (x : List Tm), (m.foldl (gatherF now i) x).length ≤ x.length + m.length := by
    intro m
    induction m with
    | nil => intro x; simp
    | cons t m ih =>
      intro x
      have h1 : (gatherF now i x t).length ≤ x.length + 1 := by
        unfold gatherF
        split
        · rw [ins_len]; exact Nat.le_refl _
        · omega
      have := ih (gatherF now i x t)
      simp only [List.foldl_cons, List.length_cons]
      omega
  simpa [gather] using h l []

theorem insAt_step (x : List Tm) (t : Tm) (j : Nat) (hj : j < x.length) : ((insAt x t (j + 1)).set (j + 1) x[j]).set j t = insAt x t j := by
  apply List.ext_getElem?
  intro i
  simp only [insAt, List.getElem?_set, List.length_set, List.length_append, List.length_cons, List.length_take, List.length_drop, List.getElem?_append]
  rcases Nat.lt_trichotomy i j with h | h | h
  · rw [if_neg (by omega), if_neg (by omega), if_pos (by omega), if_pos (by omega), List.getElem?_take_of_lt (by omega), List.getElem?_take_of_lt h]
  · subst h
    rw [if_pos rfl, if_pos (by omega), if_neg (by omega), show i - min i x.length = 0 by omega]
    rfl
  · by_cases h2 : i = j + 1
    · subst h2
      rw [if_neg (by omega), if_pos rfl, if_pos (by omega), if_neg (by omega), show j + 1 - min j x.length = 1 by omega]
      simp [List.getElem?_drop, List.getElem?_eq_getElem hj]
    · rw [if_neg (by omega), if_neg (by omega), if_neg (by omega), if_neg (by omega), show min (j + 1) x.length = j + 1 by omega, show min j x.length = j by omega, show i - j = (i - (j + 1)) + 1 by omega]
      obtain ⟨m, rfl⟩ : ∃ m, i = j + 2 + m := ⟨i - (j + 2), by omega⟩
      rw [show j + 2 + m - (j + 1) = m + 1 by omega]
      simp only [List.getElem?_cons_succ, List.getElem?_drop]
      congr 1
      omega

theorem insAt_get (x : List Tm) (t : Tm) (j : Nat) (hj : j ≤ x.length) : (insAt x t j)[j]? = some t := by
  simp only [insAt, List.getElem?_append, List.length_take]
  rw [if_neg (by omega), show j - min j x.length = 0 by omega]; rfl

theorem insAt_before (x : List Tm) (t : Tm) (j : Nat) (hj : j < x.length) : (insAt x t (j + 1))[j]? = some x[j] := by
  simp only [insAt, List.getElem?_append, List.length_take]
  rw [if_pos (by omega), List.getElem?_take_of_lt (by omega), List.getElem?_eq_getElem hj]

theorem insAt_end (x : List Tm) (t : Tm) : insAt x t x.length = x ++ [t] := by simp [insAt]

end Go.Proofs.YtjjlekohkoicbabDoor.Walks
