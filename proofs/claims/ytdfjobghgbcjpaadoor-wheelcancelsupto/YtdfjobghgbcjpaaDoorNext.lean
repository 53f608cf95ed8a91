/-
  A tick later: each timer stands at its place, those of the tick in one list. Plain lists: no program.
-/
import Derived.Test.YtdfjobghgbcjpaaDoorTurnT
import Derived.WalkKit
import Derived.ProofKit
import Derived.Handy
import Derived.LoopTactic
import Derived.Below
import Derived.Laws.BitsAllLaws
import Derived.RegionTactic
import Derived.Deep.RegionHeld3
import Derived.Deep.DrawnRows
import Derived.Deep.AppendLies
import Derived.Laws.OwnMore
import Derived.Deep.Onto
import Derived.Deep.QuietTactic
import Derived.BigQuiet
namespace Go.Proofs.YtdfjobghgbcjpaaDoor.Walks
open Go.RowKit
set_option linter.unusedVariables false
set_option linter.unusedSimpArgs false
attribute [local go_sem ↓] Go.wp_at_zero Go.wp_at_succ

theorem mem_addT {ls : List (List Tm)} {m : Int} {t x : Tm} {i : Nat} {l : List Tm} (h : (addT ls m t)[i]? = some l) (hx : x ∈ l) : (x = t ∧ placeOf t.1 m = (i : Int)) ∨ ∃ l', ls[i]? = some l' ∧ x ∈ l' := by
  have hp := @place_range t.1 m
  obtain ⟨j, hj⟩ : ∃ j : Nat, placeOf t.1 m = (j : Int) := ⟨(placeOf t.1 m).toNat, by omega⟩
  rw [addT_eq ls m t j hj] at h
  by_cases hij : i = j
  · subst hij
    by_cases hl : i < ls.length
    · rw [List.getElem?_set_self hl] at h
      rw [← Option.some.inj h] at hx
      rcases mem_insAt.1 hx with rfl | hx
      · exact .inl ⟨rfl, hj⟩
      · exact .inr ⟨_, by simp [List.getD, List.getElem?_eq_getElem hl], hx⟩
    · rw [List.getElem?_eq_none (by rw [List.length_set]; omega)] at h
      cases h
  · rw [List.getElem?_set_ne (Ne.symm hij)] at h
    exact .inr ⟨l, h, hx⟩

theorem mem_addAll {m : Int} {x : Tm} {i : Nat} (a : List Tm) : ∀ {ls : List (List Tm)} {l : List Tm}, (addAll ls m a)[i]? = some l → x ∈ l → (x ∈ a ∧ placeOf x.1 m = (i : Int)) ∨ ∃ l', ls[i]? = some l' ∧ x ∈ l' := by
  induction a with
  | nil => intro ls l h hx; exact .inr ⟨l, h, hx⟩
  | cons t a ih =>
    intro ls l h hx
    rcases ih (ls := addT ls m t) h hx with ⟨h1, h2⟩ | ⟨l', h1, h2⟩
    · exact .inl ⟨List.mem_cons_of_mem _ h1, h2⟩
    · rcases mem_addT h1 h2 with ⟨rfl, h3⟩ | h3
      · exact .inl ⟨List.mem_cons_self .., h3⟩
      · exact .inr h3

theorem mem_hand {ls : List (List Tm)} {m : Int} {p i : Nat} {x : Tm} {l : List Tm} (h : (hand ls m p)[i]? = some l) (hx : x ∈ l) : placeOf x.1 m = (i : Int) ∨ (i ≠ p ∧ ∃ l', ls[i]? = some l' ∧ x ∈ l') := by
  rcases mem_addAll _ h hx with ⟨_, h2⟩ | ⟨l', h1, h2⟩
  · exact .inl h2
  · by_cases hip : i = p
    · subst hip
      by_cases hl : i < ls.length
      · rw [List.getElem?_set_self hl] at h1
        rw [← Option.some.inj h1] at h2
        cases h2
      · rw [List.getElem?_eq_none (by rw [List.length_set]; omega)] at h1
        cases h1
    · rw [List.getElem?_set_ne (Ne.symm hip)] at h1
      exact .inr ⟨hip, l', h1, h2⟩

/-- Who does not wait for a block that begins keeps his place. -/
theorem stay {at' now : Int} (h0 : 0 ≤ now) (h1 : now < at') (h2 : at' ≤ now + 500) : placeOf at' (now + 1) = placeOf at' now ∨ ((now + 1) % 8 = 0 ∧ placeOf at' now = 8 + (now + 1) / 8 % 8) ∨ ((now + 1) % 64 = 0 ∧ placeOf at' now = 16 + (now + 1) / 64 % 8) ∨ ((now + 1) % 512 = 0 ∧ placeOf at' now = 24) := by
  unfold placeOf
  by_cases a1 : at' / 8 = now / 8
  · rw [if_pos a1, if_pos (by omega)]; exact .inl rfl
  · rw [if_neg a1]
    by_cases a2 : at' / 64 = now / 64
    · rw [if_pos a2]
      by_cases b1 : at' / 8 = (now + 1) / 8
      · right; left; constructor <;> omega
      · rw [if_neg b1, if_pos (by omega)]; exact .inl rfl
    · rw [if_neg a2]
      by_cases a3 : at' / 512 = now / 512
      · rw [if_pos a3]
        by_cases b2 : at' / 64 = (now + 1) / 64
        · right; right; left; constructor <;> omega
        · rw [if_neg (by omega), if_neg b2, if_pos (by omega)]; exact .inl rfl
      · rw [if_neg a3]
        by_cases b3 : at' / 512 = (now + 1) / 512
        · right; right; right; constructor <;> omega
        · rw [if_neg (by omega), if_neg (by omega), if_neg b3]; exact .inl rfl

theorem beg_iff (n m : Int) : beg n m = true ↔ n % m = 0 := by unfold beg; simp

theorem lev2_placed {now : Int} {ls : List (List Tm)} (h : Ok now ls) (h0 : 0 ≤ now) : ∀ (i : Nat) (l : List Tm), (lev2 ls (now + 1))[i]? = some l → ∀ t ∈ l, placeOf t.1 (now + 1) = (i : Int) := by
  obtain ⟨m, hm⟩ : ∃ m, m = now + 1 := ⟨_, rfl⟩
  have p0 : ∀ (i : Nat) (l : List Tm), ls[i]? = some l → ∀ t ∈ l, placeOf t.1 m = (i : Int) ∨ (beg m 8 = true ∧ i = wait0 m) ∨ (beg m 64 = true ∧ i = wait1 m) ∨ (beg m 512 = true ∧ i = 24) := fun i l hl t ht => by
    have hf := h.fit i l hl t ht
    have hb := (fitsT_iff now t).1 hf.1
    have hs := stay h0 hb.1 hb.2.1
    rw [hf.2, ← hm] at hs
    simp only [beg_iff]
    unfold wait0 wait1
    rcases hs with hs | hs | hs | hs
    · exact .inl hs
    · exact .inr (.inl ⟨hs.1, by omega⟩)
    · exact .inr (.inr (.inl ⟨hs.1, by omega⟩))
    · exact .inr (.inr (.inr ⟨hs.1, by omega⟩))
  have p1 : ∀ (i : Nat) (l : List Tm), (lev0 ls m)[i]? = some l → ∀ t ∈ l, placeOf t.1 m = (i : Int) ∨ (beg m 64 = true ∧ i = wait1 m) ∨ (beg m 512 = true ∧ i = 24) := fun i l hl t ht => by
    unfold lev0 at hl
    split at hl
    · rcases mem_hand hl ht with h1 | ⟨h1, l', h2, h3⟩
      · exact .inl h1
      · rcases p0 i l' h2 t h3 with h4 | h4 | h4
        · exact .inl h4
        · exact absurd h4.2 h1
        · exact .inr h4
    · rename_i hnb
      rcases p0 i l hl t ht with h4 | h4 | h4
      · exact .inl h4
      · exact absurd h4.1 hnb
      · exact .inr h4
  have p2 : ∀ (i : Nat) (l : List Tm), (lev1 ls m)[i]? = some l → ∀ t ∈ l, placeOf t.1 m = (i : Int) ∨ (beg m 512 = true ∧ i = 24) := fun i l hl t ht => by
    unfold lev1 at hl
    split at hl
    · rcases mem_hand hl ht with h1 | ⟨h1, l', h2, h3⟩
      · exact .inl h1
      · rcases p1 i l' h2 t h3 with h4 | h4 | h4
        · exact .inl h4
        · exact absurd h4.2 h1
        · exact .inr h4
    · rename_i hnb
      rcases p1 i l hl t ht with h4 | h4 | h4
      · exact .inl h4
      · exact absurd h4.1 hnb
      · exact .inr h4
  rw [← hm]
  intro i l hl t ht
  unfold lev2 at hl
  split at hl
  · rcases mem_hand hl ht with h1 | ⟨h1, l', h2, h3⟩
    · exact h1
    · rcases p2 i l' h2 t h3 with h4 | h4
      · exact h4
      · exact absurd h4.2 h1
  · rename_i hnb
    rcases p2 i l hl t ht with h4 | h4
    · exact h4
    · exact absurd h4.1 hnb

theorem lev_perm {ls : List (List Tm)} (h : Good ls) (m : Int) : (lev2 ls m).flatten.Perm ls.flatten := by
  have h0 : (lev0 ls m).flatten.Perm ls.flatten := by
    unfold lev0
    split
    · exact hand_perm h.srt.len m (wait0_lt m)
    · exact .refl _
  have h1 : (lev1 ls m).flatten.Perm ls.flatten := by
    unfold lev1
    split
    · exact (hand_perm (h.lev0 m).srt.len m (wait1_lt m)).trans h0
    · exact h0
  unfold lev2
  split
  · exact (hand_perm (h.lev1 m).srt.len m (by omega)).trans h1
  · exact h1

theorem spot_lt (m : Int) : (m % 8).toNat < 25 := by omega

theorem place_spot {x m : Int} (h0 : 0 ≤ m) (h1 : m ≤ x) : placeOf x m = m % 8 ↔ x = m := by
  constructor
  · intro h
    unfold placeOf at h
    split at h
    · omega
    · split at h
      · omega
      · split at h
        · omega
        · omega
  · rintro rfl
    unfold placeOf
    rw [if_pos rfl]

/-- The timers of the tick: in one list, all of them, by number. -/
theorem next_off {now : Int} {ls : List (List Tm)} (h : Ok now ls) (h0 : 0 ≤ now) (hG : Good ls) : ∀ x, x ∈ (lev2 ls (now + 1)).getD ((now + 1) % 8).toNat [] ↔ x ∈ ls.flatten ∧ x.1 = now + 1 := by
  intro x
  have hlen := (hG.lev2 (now + 1)).srt.len
  have hl : (lev2 ls (now + 1))[((now + 1) % 8).toNat]? = some ((lev2 ls (now + 1)).getD ((now + 1) % 8).toNat []) := by
    simp [List.getD, List.getElem?_eq_getElem (show ((now + 1) % 8).toNat < (lev2 ls (now + 1)).length by rw [hlen]; exact spot_lt _)]
  have hpm := lev_perm hG (now + 1)
  have hlow : ∀ t ∈ ls.flatten, now + 1 ≤ t.1 := fun t ht => by
    obtain ⟨l, hl, htl⟩ := List.mem_flatten.1 ht
    obtain ⟨i, hi, rfl⟩ := List.getElem_of_mem hl
    have := (fitsT_iff now t).1 (h.fit i _ (List.getElem?_eq_getElem hi) t htl).1
    omega
  constructor
  · intro hx
    have hm : x ∈ ls.flatten := hpm.mem_iff.1 (List.mem_flatten.2 ⟨_, List.mem_of_getElem? hl, hx⟩)
    have hp := lev2_placed h h0 _ _ hl x hx
    exact ⟨hm, (place_spot (by omega) (hlow x hm)).1 (by rw [hp]; omega)⟩
  · rintro ⟨hx, he⟩
    obtain ⟨l, hl2, hxl⟩ := List.mem_flatten.1 (hpm.mem_iff.2 hx)
    obtain ⟨i, hi, rfl⟩ := List.getElem_of_mem hl2
    have hp := lev2_placed h h0 i _ (List.getElem?_eq_getElem hi) x hxl
    have hps := (place_spot (by omega) (hlow x hx)).2 he
    have hii : i = ((now + 1) % 8).toNat := by omega
    subst hii
    rw [List.getElem?_eq_getElem hi] at hl
    rw [← Option.some.inj hl]
    exact hxl

theorem next_may {now : Int} {ls : List (List Tm)} (h : May now ls) (hlt : now < 1099511627776) (hG : Good ls) : May (now + 1) ((lev2 ls (now + 1)).set ((now + 1) % 8).toNat []) := by
  have h0 := h.1.1
  have hG2 := hG.lev2 (now + 1)
  have hl : (lev2 ls (now + 1))[((now + 1) % 8).toNat]? = some ((lev2 ls (now + 1)).getD ((now + 1) % 8).toNat []) := by
    simp [List.getD, List.getElem?_eq_getElem (show ((now + 1) % 8).toNat < (lev2 ls (now + 1)).length by rw [hG2.srt.len]; exact spot_lt _)]
  have hS := hG2.srt.clear hl
  refine ⟨by omega, hS.len, fun i l hil t ht => ?_, hS.ord, hS.ids⟩
  by_cases hi : i = ((now + 1) % 8).toNat
  · subst hi
    rw [List.getElem?_set_self (by rw [hG2.srt.len]; exact spot_lt _)] at hil
    rw [← Option.some.inj hil] at ht
    cases ht
  · rw [List.getElem?_set_ne (Ne.symm hi)] at hil
    have hp := lev2_placed h.2 h0 i l hil t ht
    have hm : t ∈ ls.flatten := (lev_perm hG (now + 1)).mem_iff.1 (List.mem_flatten.2 ⟨l, List.mem_of_getElem? hil, ht⟩)
    obtain ⟨l2, hl2, htl⟩ := List.mem_flatten.1 hm
    obtain ⟨j, hj, rfl⟩ := List.getElem_of_mem hl2
    have hf := (fitsT_iff now t).1 (h.2.fit j _ (List.getElem?_eq_getElem hj) t htl).1
    refine ⟨(fitsT_iff _ _).2 ⟨?_, by omega, hf.2.2.1, hf.2.2.2⟩, hp⟩
    have hne : t.1 ≠ now + 1 := fun e => by
      have := (place_spot (show 0 ≤ now + 1 by omega) (by omega)).2 e
      omega
    omega
end Go.Proofs.YtdfjobghgbcjpaaDoor.Walks
