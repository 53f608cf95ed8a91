/-
  A wheel that may be is told by its tick and its timers: two of the same are one. Plain lists: no program.
-/
import Derived.Test.YtdfjobghgbcjpaaDoorNext
import Derived.WalkKit
import Derived.ProofKit
import Derived.Handy
import Derived.LoopTactic
import Derived.Below
import Derived.Laws.BitsAllLaws
import Derived.RegionTactic
import Derived.Deep.RegionHeld3
import Derived.Deep.DrawnRows
import Derived.Deep.AppendLies
import Derived.Laws.OwnMore
import Derived.Deep.Onto
import Derived.Deep.QuietTactic
import Derived.BigQuiet
namespace Go.Proofs.YtdfjobghgbcjpaaDoor.Walks
open Go.RowKit
set_option linter.unusedVariables false
set_option linter.unusedSimpArgs false
attribute [local go_sem ↓] Go.wp_at_zero Go.wp_at_succ

theorem cmp_irrefl (a : Tm) : ¬ cmpT a a < 0 := by rw [cmpT_lt]; omega

theorem sorted_unique : ∀ {l m : List Tm}, l.Pairwise (fun a b => cmpT a b < 0) → m.Pairwise (fun a b => cmpT a b < 0) → (∀ x, x ∈ l ↔ x ∈ m) → l = m
  | [], [], _, _, _ => rfl
  | [], b :: m, _, _, h => absurd ((h b).2 (List.mem_cons_self ..)) (by simp)
  | a :: l, [], _, _, h => absurd ((h a).1 (List.mem_cons_self ..)) (by simp)
  | a :: l, b :: m, h1, h2, h => by
    have p1 := List.pairwise_cons.1 h1
    have p2 := List.pairwise_cons.1 h2
    have hab : a = b := by
      rcases List.mem_cons.1 ((h a).1 (List.mem_cons_self ..)) with e | e
      · exact e
      · rcases List.mem_cons.1 ((h b).2 (List.mem_cons_self ..)) with e' | e'
        · exact e'.symm
        · exact absurd (cmpT_trans (p1.1 b e') (p2.1 a e)) (cmp_irrefl a)
    subst hab
    have : l = m := sorted_unique p1.2 p2.2 fun x => by
      constructor
      · intro hx
        rcases List.mem_cons.1 ((h x).1 (List.mem_cons_of_mem _ hx)) with e | e
        · subst e; exact absurd (p1.1 x hx) (cmp_irrefl x)
        · exact e
      · intro hx
        rcases List.mem_cons.1 ((h x).2 (List.mem_cons_of_mem _ hx)) with e | e
        · subst e; exact absurd (p2.1 x hx) (cmp_irrefl x)
        · exact e
    rw [this]

theorem Ok.mem {now : Int} {ls : List (List Tm)} (h : Ok now ls) {i : Nat} {l : List Tm} (hl : ls[i]? = some l) (x : Tm) : x ∈ l ↔ x ∈ ls.flatten ∧ placeOf x.1 now = (i : Int) := by
  constructor
  · intro hx
    exact ⟨List.mem_flatten.2 ⟨l, List.mem_of_getElem? hl, hx⟩, (h.fit i l hl x hx).2⟩
  · rintro ⟨hx, hp⟩
    obtain ⟨m, hm, hxm⟩ := List.mem_flatten.1 hx
    obtain ⟨j, hj, rfl⟩ := List.getElem_of_mem hm
    have hf := (h.fit j _ (List.getElem?_eq_getElem hj) x hxm).2
    have hij : j = i := by omega
    subst hij
    rw [List.getElem?_eq_getElem hj] at hl
    rw [← Option.some.inj hl]
    exact hxm

theorem ok_unique {now : Int} {ls ms : List (List Tm)} (h : Ok now ls) (h' : Ok now ms) (hp : ∀ x, x ∈ ls.flatten ↔ x ∈ ms.flatten) : ls = ms := by
  apply List.ext_getElem?
  intro i
  rcases Nat.lt_or_ge i 25 with hi | hi
  · have h1 := List.getElem?_eq_getElem (show i < ls.length by rw [h.len]; exact hi)
    have h2 := List.getElem?_eq_getElem (show i < ms.length by rw [h'.len]; exact hi)
    rw [h1, h2]
    refine congrArg some (sorted_unique (h.ord _ (List.getElem_mem _)) (h'.ord _ (List.getElem_mem _)) fun x => ?_)
    rw [h.mem h1, h'.mem h2, hp x]
  · rw [List.getElem?_eq_none (by rw [h.len]; exact hi), List.getElem?_eq_none (by rw [h'.len]; exact hi)]

theorem mem_add {now : Int} {ls : List (List Tm)} (h : Ok now ls) (t x : Tm) : x ∈ (addT ls now t).flatten ↔ x = t ∨ x ∈ ls.flatten := by
  rw [(addT_perm h.len now t).mem_iff, List.mem_cons]

/-- What is left a tick later. -/
theorem mem_next {now : Int} {ls : List (List Tm)} (h : May now ls) (hG : Good ls) (x : Tm) : x ∈ ((lev2 ls (now + 1)).set ((now + 1) % 8).toNat []).flatten ↔ x ∈ ls.flatten ∧ x.1 ≠ now + 1 := by
  have hl : (lev2 ls (now + 1))[((now + 1) % 8).toNat]? = some ((lev2 ls (now + 1)).getD ((now + 1) % 8).toNat []) := by
    simp [List.getD, List.getElem?_eq_getElem (show ((now + 1) % 8).toNat < (lev2 ls (now + 1)).length by rw [(hG.lev2 (now + 1)).srt.len]; exact spot_lt _)]
  have hpm := (set_nil_perm hl).trans (lev_perm hG (now + 1))
  have hoff := next_off h.2 h.1.1 hG x
  have hnd : ((lev2 ls (now + 1)).flatten.map (·.2)).Nodup := (hG.lev2 (now + 1)).srt.ids
  have hdis : x ∈ (lev2 ls (now + 1)).getD ((now + 1) % 8).toNat [] → ¬ x ∈ ((lev2 ls (now + 1)).set ((now + 1) % 8).toNat []).flatten := fun h1 h2 => by
    have hn := ((set_nil_perm hl).map (·.2)).nodup_iff.2 hnd
    rw [List.map_append, List.nodup_append] at hn
    exact hn.2.2 x.2 (List.mem_map.2 ⟨x, h1, rfl⟩) x.2 (List.mem_map.2 ⟨x, h2, rfl⟩) rfl
  constructor
  · intro hx
    refine ⟨hpm.mem_iff.1 (List.mem_append_right _ hx), fun e => ?_⟩
    exact hdis (hoff.2 ⟨hpm.mem_iff.1 (List.mem_append_right _ hx), e⟩) hx
  · rintro ⟨hx, hne⟩
    rcases List.mem_append.1 (hpm.mem_iff.2 hx) with h1 | h1
    · exact absurd (hoff.1 h1).2 hne
    · exact h1
end Go.Proofs.YtdfjobghgbcjpaaDoor.Walks
