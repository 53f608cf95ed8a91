/-
  What Of tells, by what lives there are; a request changes no other backend's life: plain mathematics.
-/
import Derived.Test.YtlpedligkofegabKP
import Derived.WalkKit
import Derived.ProofKit
import Derived.Handy
import Derived.LoopTactic
import Derived.Below
import Derived.Laws.BitsAllLaws
import Derived.RegionTactic
import Derived.Deep.RegionHeld3
import Derived.Deep.DrawnRows
import Derived.Deep.AppendLies
import Derived.Laws.OwnMore
import Derived.Deep.Onto
import Derived.Deep.QuietTactic
import Derived.BigQuiet
namespace Go.Proofs.Ytlpedligkofegab.Walks
open Go.RowKit
set_option linter.unusedVariables false
set_option linter.unusedSimpArgs false
attribute [local go_sem ↓] Go.wp_at_zero Go.wp_at_succ

theorem of_mem {L : List Lf} {R : List Rq} (hb : BkOk L R) {x : Lf} (hx : x ∈ L) {n : Int} (hn : x.1 = n) : ofO L R n = (x, 0) := by
  obtain ⟨i, hi, rfl⟩ := List.getElem_of_mem hx
  have hm := here_mem hb.1.2.2 hi
  rw [hn] at hm
  unfold ofO
  rw [if_pos hb, if_pos hm.1, hm.2, List.getElem?_eq_getElem hi]
  rfl

theorem of_none {L : List Lf} {R : List Rq} (hb : BkOk L R) {n : Int} (h : ∀ x ∈ L, x.1 ≠ n) : ofO L R n = ((0, 0, 0, 0, 0, 0), 8) := by
  unfold ofO
  rw [if_pos hb]
  by_cases hh : here L n = true
  · exact absurd (here_is hh) (h _ (List.getElem_mem _))
  · rw [if_neg hh]

theorem mem_set_other {L : List Lf} {i : Nat} {y x : Lf} (hx : x ∈ L) (hi : i < L.length) (hne : x ≠ L[i]) : x ∈ L.set i y := by
  obtain ⟨j, hj, rfl⟩ := List.getElem_of_mem hx
  have hij : i ≠ j := fun e => hne (by subst e; rfl)
  have := List.getElem_mem (l := L.set i y) (n := j) (by rw [List.length_set]; exact hj)
  rwa [List.getElem_set_ne hij] at this

theorem join_keep {L : List Lf} {n m : Int} {x : Lf} (hx : x ∈ L) (hne : x.1 ≠ n) : x ∈ (joinO L n m).1 := by
  unfold joinO
  split
  · exact hx
  · split
    · rename_i hh
      split
      · exact mem_set_other hx (here_lt hh) (fun e => hne (by rw [e]; exact here_is hh))
      · exact hx
    · unfold insAt
      rw [← List.take_append_drop (pos L n) L] at hx
      rcases List.mem_append.1 hx with h | h
      · exact List.mem_append.2 (.inl h)
      · exact List.mem_append.2 (.inr (List.mem_cons_of_mem _ h))

theorem retire_keep {L : List Lf} {n id u : Int} {x : Lf} (hx : x ∈ L) (hne : x.1 ≠ n) : x ∈ (retireO L n id u).1 := by
  unfold retireO
  split
  · rename_i hh
    split
    · exact hx
    · split
      · exact hx
      · exact mem_set_other hx (here_lt hh) (fun e => hne (by rw [e]; exact here_is hh))
  · exact hx

theorem retire_back {L : List Lf} {n id u : Int} {x : Lf} (hx : x ∈ (retireO L n id u).1) (hne : x.1 ≠ n) : x ∈ L := by
  unfold retireO at hx
  split at hx
  · rename_i hh
    split at hx
    · exact hx
    · split at hx
      · exact hx
      · rw [getD_at hh] at hx
        rcases mem_set_or hx with h | h
        · exact h
        · exact absurd (by rw [h]; exact here_is hh) hne
  · exact hx

theorem join_back {L : List Lf} {n m : Int} {x : Lf} (hx : x ∈ (joinO L n m).1) (hne : x.1 ≠ n) : x ∈ L := by
  rcases join_mem hx with h | ⟨h, _⟩
  · exact h
  · exact absurd (by rw [h]) hne

/-- What is asked of one backend changes no other's life. -/
theorem take_others {L : List Lf} {R : List Rq} (hb : BkOk L R) {r : Rq} {u : Int} (hb' : BkOk (takeO L R r u).1.1 (takeO L R r u).1.2) {n : Int} (hne : n ≠ r.2.2.1) : ofO (takeO L R r u).1.1 (takeO L R r u).1.2 n = ofO L R n := by
  have hiff : ∀ x : Lf, x.1 = n → (x ∈ (takeO L R r u).1.1 ↔ x ∈ L) := by
    intro x hx
    have hx' : x.1 ≠ r.2.2.1 := by rw [hx]; exact hne
    unfold takeO
    split
    · exact ⟨fun h => join_back h hx', fun h => join_keep h hx'⟩
    · exact ⟨fun h => retire_back h hx', fun h => retire_keep h hx'⟩
  by_cases h : ∃ x ∈ L, x.1 = n
  · obtain ⟨x, hx, hn⟩ := h
    rw [of_mem hb hx hn, of_mem hb' ((hiff x hn).2 hx) hn]
  · have h1 : ∀ x ∈ L, x.1 ≠ n := fun x hx e => h ⟨x, hx, e⟩
    rw [of_none hb h1, of_none hb' (fun x hx e => h1 x ((hiff x e).1 hx) e)]
end Go.Proofs.Ytlpedligkofegab.Walks
