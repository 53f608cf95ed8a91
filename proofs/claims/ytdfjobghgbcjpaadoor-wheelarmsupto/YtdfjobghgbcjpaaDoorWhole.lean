/-
  Wheels that may be, in plain words: each timer fits and stands at its place, in order, no number twice; and how a wheel grows timer by timer. Plain lists: no program.
-/
import Derived.Test.YtdfjobghgbcjpaaDoorPlace2
import Derived.WalkKit
import Derived.ProofKit
import Derived.Handy
import Derived.LoopTactic
import Derived.Below
import Derived.Laws.BitsAllLaws
import Derived.RegionTactic
import Derived.Deep.RegionHeld3
import Derived.Deep.DrawnRows
import Derived.Deep.AppendLies
import Derived.Laws.OwnMore
import Derived.Deep.Onto
import Derived.Deep.QuietTactic
import Derived.BigQuiet
namespace Go.Proofs.YtdfjobghgbcjpaaDoor.Walks
open Go.RowKit
set_option linter.unusedVariables false
set_option linter.unusedSimpArgs false
attribute [local go_sem ↓] Go.wp_at_zero Go.wp_at_succ

/-- A wheel that may be (its tick aside). -/
structure Ok (now : Int) (ls : List (List Tm)) : Prop where
  len : ls.length = 25
  fit : ∀ (i : Nat) (l : List Tm), ls[i]? = some l → ∀ t ∈ l, fitsT now t = true ∧ placeOf t.1 now = (i : Int)
  ord : ∀ l ∈ ls, l.Pairwise (fun a b => cmpT a b < 0)
  ids : (ls.flatten.map (·.2)).Nodup

/-- The map of places says where each number stands. -/
structure FMap (f : Int → Option Int) (ls : List (List Tm)) : Prop where
  here : ∀ (i : Nat) (l : List Tm), ls[i]? = some l → ∀ t ∈ l, f t.2 = some (i : Int)
  gone : ∀ id, (∀ t ∈ ls.flatten, t.2 ≠ id) → f id = none

theorem cmpT_lt {a b : Tm} : cmpT a b < 0 ↔ a.1 < b.1 ∨ a.1 = b.1 ∧ a.2 < b.2 := by
  unfold cmpT
  repeat' split
  all_goals omega

theorem cmpT_trans {a b c : Tm} (h1 : cmpT a b < 0) (h2 : cmpT b c < 0) : cmpT a c < 0 := by
  rw [cmpT_lt] at *
  omega

theorem flatten_set (ls : List (List Tm)) (i : Nat) (l l' : List Tm) (h : ls[i]? = some l) : ∃ a b, ls = a ++ l :: b ∧ ls.set i l' = a ++ l' :: b ∧ a.length = i := by
  have hi := (List.getElem?_eq_some_iff.1 h).1
  have hl := (List.getElem?_eq_some_iff.1 h).2
  refine ⟨ls.take i, ls.drop (i + 1), ?_, ?_, by rw [List.length_take]; omega⟩
  · rw [← hl, List.getElem_cons_drop, List.take_append_drop]
  · rw [List.set_eq_take_append_cons_drop, if_pos hi]

theorem insAt_perm (l : List Tm) (t : Tm) (j : Nat) : (insAt l t j).Perm (t :: l) := by
  unfold insAt
  have h := List.perm_middle (a := t) (l₁ := l.take j) (l₂ := l.drop j)
  rwa [List.take_append_drop] at h

theorem mem_insAt {l : List Tm} {t x : Tm} {j : Nat} : x ∈ insAt l t j ↔ x = t ∨ x ∈ l := by
  rw [(insAt_perm l t j).mem_iff, List.mem_cons]

/-- Flattened, a wheel with a timer more is the old one with it ahead, but for the order. -/
theorem set_perm {ls : List (List Tm)} {i : Nat} {l : List Tm} (h : ls[i]? = some l) (t : Tm) (j : Nat) : (ls.set i (insAt l t j)).flatten.Perm (t :: ls.flatten) := by
  obtain ⟨a, b, e1, e2, _⟩ := flatten_set ls i l (insAt l t j) h
  rw [e1] at e2 ⊢
  rw [e2]
  simp only [List.flatten_append, List.flatten_cons]
  have h1 : (a.flatten ++ (insAt l t j ++ b.flatten)).Perm (a.flatten ++ (t :: l ++ b.flatten)) := ((insAt_perm l t j).append_right _).append_left _
  refine h1.trans ?_
  simp only [List.cons_append]
  exact List.perm_middle

theorem insAt_sorted {l : List Tm} (h : l.Pairwise (fun a b => cmpT a b < 0)) (t : Tm) (j : Nat) (h1 : ∀ x ∈ l.take j, cmpT x t < 0) (h2 : ∀ x ∈ l.drop j, cmpT t x < 0) : (insAt l t j).Pairwise (fun a b => cmpT a b < 0) := by
  unfold insAt
  have hp := List.pairwise_append.1 (by rw [List.take_append_drop]; exact h : (l.take j ++ l.drop j).Pairwise _)
  refine List.pairwise_append.2 ⟨hp.1, List.pairwise_cons.2 ⟨h2, hp.2.1⟩, fun x hx y hy => ?_⟩
  rcases List.mem_cons.1 hy with rfl | hy
  · exact h1 x hx
  · exact hp.2.2 x hx y hy

theorem Ok.add {now : Int} {ls : List (List Tm)} (h : Ok now ls) {i : Nat} {l : List Tm} (hl : ls[i]? = some l) {t : Tm} (hf : fitsT now t = true) (hp : placeOf t.1 now = (i : Int)) (hn : ∀ x ∈ ls.flatten, x.2 ≠ t.2) (j : Nat)
    (h1 : ∀ x ∈ l.take j, cmpT x t < 0) (h2 : ∀ x ∈ l.drop j, cmpT t x < 0) : Ok now (ls.set i (insAt l t j)) := by
  have hi := (List.getElem?_eq_some_iff.1 hl).1
  refine ⟨by rw [List.length_set]; exact h.len, fun k m hk x hx => ?_, fun m hm => ?_, ?_⟩
  · by_cases hki : k = i
    · subst hki
      rw [List.getElem?_set_self hi] at hk
      rw [← Option.some.inj hk] at hx
      rcases mem_insAt.1 hx with rfl | hx
      · exact ⟨hf, hp⟩
      · exact h.fit k l hl x hx
    · rw [List.getElem?_set_ne (Ne.symm hki)] at hk
      exact h.fit k m hk x hx
  · rcases List.mem_or_eq_of_mem_set hm with hm | rfl
    · exact h.ord m hm
    · exact insAt_sorted (h.ord l (List.mem_of_getElem? hl)) t j h1 h2
  · rw [((set_perm hl t j).map _).nodup_iff, List.map_cons, List.nodup_cons]
    refine ⟨fun hm => ?_, h.ids⟩
    obtain ⟨x, hx, e⟩ := List.mem_map.1 hm
    exact hn x hx e

theorem FMap.add {f : Int → Option Int} {ls : List (List Tm)} (h : FMap f ls) {i : Nat} {l : List Tm} (hl : ls[i]? = some l) {t : Tm} (hn : ∀ x ∈ ls.flatten, x.2 ≠ t.2) (j : Nat) : FMap (fun k => if k = t.2 then some (i : Int) else f k) (ls.set i (insAt l t j)) := by
  have hi := (List.getElem?_eq_some_iff.1 hl).1
  refine ⟨fun k m hk x hx => ?_, fun id hid => ?_⟩
  · by_cases hki : k = i
    · subst hki
      rw [List.getElem?_set_self hi] at hk
      rw [← Option.some.inj hk] at hx
      rcases mem_insAt.1 hx with rfl | hx
      · exact if_pos rfl
      · have : x.2 ≠ t.2 := hn x (List.mem_flatten.2 ⟨l, List.mem_of_getElem? hl, hx⟩)
        simp only [if_neg this]
        exact h.here k l hl x hx
    · rw [List.getElem?_set_ne (Ne.symm hki)] at hk
      have : x.2 ≠ t.2 := hn x (List.mem_flatten.2 ⟨m, List.mem_of_getElem? hk, hx⟩)
      simp only [if_neg this]
      exact h.here k m hk x hx
  · have hne : id ≠ t.2 := fun e => hid t ((set_perm hl t j).mem_iff.2 (List.mem_cons_self ..)) e.symm
    simp only [if_neg hne]
    exact h.gone id fun x hx => hid x ((set_perm hl t j).mem_iff.2 (List.mem_cons_of_mem _ hx))

theorem FMap.isNone {f : Int → Option Int} {ls : List (List Tm)} (h : FMap f ls) (id : Int) : (f id).isSome = false ↔ ∀ x ∈ ls.flatten, x.2 ≠ id := by
  constructor
  · intro hf x hx e
    obtain ⟨m, hm, hxm⟩ := List.mem_flatten.1 hx
    obtain ⟨k, hk, rfl⟩ := List.getElem_of_mem hm
    have := h.here k _ (List.getElem?_eq_getElem hk) x hxm
    rw [e] at this
    rw [this] at hf
    cases hf
  · intro hx
    rw [h.gone id hx]
    rfl

/-- A wheel as far as it has been read: the lists ahead of i, and k timers of the list i. -/
def part (ls : List (List Tm)) (i k : Nat) : List (List Tm) := (List.range 25).map fun (a : Nat) => if a < i then ls.getD a [] else if a = i then (ls.getD i []).take k else []

theorem part_at (ls : List (List Tm)) (i k a : Nat) (ha : a < 25) : (part ls i k)[a]? = some (if a < i then ls.getD a [] else if a = i then (ls.getD i []).take k else []) := by
  simp [part, ha]

theorem part_len (ls : List (List Tm)) (i k : Nat) : (part ls i k).length = 25 := by simp [part]

theorem part_step (ls : List (List Tm)) (i k : Nat) (hi : i < 25) (l : List Tm) (hl : ls[i]? = some l) (hk : k < l.length) : (part ls i k).set i (insAt (l.take k) l[k] (l.take k).length) = part ls i (k + 1) := by
  apply List.ext_getElem?
  intro a
  have hg : ls.getD i [] = l := by simp [List.getD, hl]
  rcases Nat.lt_or_ge a 25 with ha | ha
  · rw [part_at _ _ _ _ ha]
    by_cases hai : a = i
    · subst hai
      rw [List.getElem?_set_self (by rw [part_len]; exact ha), if_neg (by omega), if_pos rfl, hg, insAt_end, List.take_succ_eq_append_getElem hk]
    · rw [List.getElem?_set_ne (Ne.symm hai), part_at _ _ _ _ ha, if_neg hai, if_neg hai]
  · rw [List.getElem?_eq_none (by rw [List.length_set, part_len]; exact ha), List.getElem?_eq_none (by rw [part_len]; exact ha)]

theorem part_next (ls : List (List Tm)) (i : Nat) (l : List Tm) (hl : ls[i]? = some l) : part ls i l.length = part ls (i + 1) 0 := by
  have hg : ls.getD i [] = l := by simp [List.getD, hl]
  unfold part
  refine List.map_congr_left fun a _ => ?_
  rcases Nat.lt_trichotomy a i with h | h | h
  · rw [if_pos h, if_pos (by omega)]
  · subst h
    rw [if_neg (by omega), if_pos rfl, if_pos (by omega), hg, List.take_length]
  · rw [if_neg (by omega), if_neg (by omega), if_neg (by omega)]
    split
    · simp
    · rfl

theorem part_all (ls : List (List Tm)) (h : ls.length = 25) : part ls 25 0 = ls := by
  apply List.ext_getElem?
  intro a
  rcases Nat.lt_or_ge a 25 with ha | ha
  · rw [part_at _ _ _ _ ha, if_pos ha, List.getElem?_eq_getElem (by omega)]
    simp [List.getD, List.getElem?_eq_getElem (show a < ls.length by omega)]
  · rw [List.getElem?_eq_none (by rw [part_len]; exact ha), List.getElem?_eq_none (by omega)]

theorem part_none (ls : List (List Tm)) : part ls 0 0 = List.replicate 25 [] := by
  apply List.ext_getElem?
  intro a
  rcases Nat.lt_or_ge a 25 with ha | ha
  · rw [part_at _ _ _ _ ha, List.getElem?_replicate, if_pos ha, if_neg (Nat.not_lt_zero _)]
    split
    · simp
    · rfl
  · rw [List.getElem?_eq_none (by rw [part_len]; exact ha), List.getElem?_eq_none (by simp; exact ha)]

theorem part_eq (ls : List (List Tm)) (hls : ls.length = 25) (i k : Nat) (l : List Tm) (hl : ls[i]? = some l) : part ls i k = ls.take i ++ l.take k :: List.replicate (24 - i) [] := by
  have hi := (List.getElem?_eq_some_iff.1 hl).1
  have hg : ls.getD i [] = l := by simp [List.getD, hl]
  apply List.ext_getElem?
  intro a
  rcases Nat.lt_or_ge a 25 with ha | ha
  · rw [part_at _ _ _ _ ha, List.getElem?_append, List.length_take, show min i ls.length = i by omega]
    rcases Nat.lt_trichotomy a i with h | h | h
    · rw [if_pos h, if_pos h, List.getElem?_take_of_lt h, List.getElem?_eq_getElem (by omega)]
      simp [List.getD, List.getElem?_eq_getElem (show a < ls.length by omega)]
    · subst h
      rw [if_neg (by omega), if_pos rfl, if_neg (by omega), Nat.sub_self, hg]
      rfl
    · rw [if_neg (by omega), if_neg (by omega), if_neg (by omega), show a - i = (a - i - 1) + 1 by omega, List.getElem?_cons_succ, List.getElem?_replicate, if_pos (by omega)]
  · rw [List.getElem?_eq_none (by rw [part_len]; exact ha), List.getElem?_eq_none (by simp; omega)]

theorem part_flatten (ls : List (List Tm)) (hls : ls.length = 25) (i k : Nat) (l : List Tm) (hl : ls[i]? = some l) : (part ls i k).flatten = (ls.take i).flatten ++ l.take k := by
  rw [part_eq ls hls i k l hl]
  simp

/-- In a wheel that may be each timer follows those that were read ahead of it. -/
theorem Ok.follows {now : Int} {ls : List (List Tm)} (h : Ok now ls) {i k : Nat} {l : List Tm} (hl : ls[i]? = some l) (hk : k < l.length) :
    fitsT now l[k] = true ∧ placeOf (l[k]).1 now = (i : Int) ∧ (∀ x ∈ (part ls i k).flatten, x.2 ≠ (l[k]).2) ∧ ∀ x ∈ l.take k, cmpT x l[k] < 0 := by
  have hf := h.fit i l hl l[k] (List.getElem_mem hk)
  refine ⟨hf.1, hf.2, fun x hx e => ?_, fun x hx => ?_⟩
  · rw [part_flatten ls h.len i k l hl] at hx
    have hi := (List.getElem?_eq_some_iff.1 hl).1
    have e1 : ls.flatten = ((ls.take i).flatten ++ l.take k) ++ (l[k] :: (l.drop (k + 1) ++ (ls.drop (i + 1)).flatten)) := by
      have e2 : ls = ls.take i ++ l :: ls.drop (i + 1) := by
        have hl2 := (List.getElem?_eq_some_iff.1 hl).2
        rw [← hl2, List.getElem_cons_drop, List.take_append_drop]
      have e3 : l = l.take k ++ l[k] :: l.drop (k + 1) := by rw [List.getElem_cons_drop, List.take_append_drop]
      have e4 : ls.flatten = (ls.take i).flatten ++ (l ++ (ls.drop (i + 1)).flatten) := by
        have e5 : (ls.take i ++ l :: ls.drop (i + 1)).flatten = (ls.take i).flatten ++ (l ++ (ls.drop (i + 1)).flatten) := by simp
        rw [← e2] at e5
        exact e5
      have e6 : l ++ (ls.drop (i + 1)).flatten = (l.take k ++ l[k] :: l.drop (k + 1)) ++ (ls.drop (i + 1)).flatten := congrArg (· ++ (ls.drop (i + 1)).flatten) e3
      rw [e4, e6]
      simp only [List.append_assoc, List.cons_append]
    have hnd := h.ids
    rw [e1, List.map_append, List.nodup_append] at hnd
    exact hnd.2.2 x.2 (List.mem_map.2 ⟨x, hx, rfl⟩) (l[k]).2 (List.mem_map.2 ⟨l[k], List.mem_cons_self .., rfl⟩) e
  · have ho := h.ord l (List.mem_of_getElem? hl)
    obtain ⟨j, hj, rfl⟩ := List.getElem_of_mem hx
    rw [List.getElem_take]
    exact List.pairwise_iff_getElem.1 ho j k (by simp at hj; omega) hk (by simp at hj; omega)
end Go.Proofs.YtdfjobghgbcjpaaDoor.Walks
