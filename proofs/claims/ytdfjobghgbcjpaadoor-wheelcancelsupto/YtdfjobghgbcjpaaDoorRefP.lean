/-
  The document's wheel of timers, in plain words: it may be, and holds just those. Plain lists: no program.
-/
import Derived.Test.YtdfjobghgbcjpaaDoorFine
import Derived.WalkKit
import Derived.ProofKit
import Derived.Handy
import Derived.LoopTactic
import Derived.Below
import Derived.Laws.BitsAllLaws
import Derived.RegionTactic
import Derived.Deep.RegionHeld3
import Derived.Deep.DrawnRows
import Derived.Deep.AppendLies
import Derived.Laws.OwnMore
import Derived.Deep.Onto
import Derived.Deep.QuietTactic
import Derived.BigQuiet
namespace Go.Proofs.YtdfjobghgbcjpaaDoor.Walks
open Go.RowKit
set_option linter.unusedVariables false
set_option linter.unusedSimpArgs false
attribute [local go_sem ↓] Go.wp_at_zero Go.wp_at_succ

theorem ahead_iff (a b : Tm) : ahead a b = true ↔ cmpT a b < 0 := by
  rw [cmpT_lt]
  unfold ahead
  simp

theorem spot_spec (t : Tm) (x : List Tm) : ∀ n, n ≤ x.length → spot t x n ≤ n ∧ (∀ k (h : k < x.length), spot t x n ≤ k → k < n → cmpT t x[k] < 0) ∧ (∀ k (h : k < x.length), k + 1 = spot t x n → ¬ cmpT t x[k] < 0)
  | 0, _ => ⟨Nat.le_refl _, fun k h h1 h2 => absurd h2 (Nat.not_lt_zero _), fun k h h1 => by simp [spot] at h1⟩
  | n + 1, hn => by
    have ih := spot_spec t x n (by omega)
    have hx : x.getD n (0, 0) = x[n] := by simp [List.getD, List.getElem?_eq_getElem (show n < x.length by omega)]
    unfold spot
    rw [hx]
    by_cases h : ahead t x[n] = true
    · rw [if_pos h]
      refine ⟨by omega, fun k hk h1 h2 => ?_, ih.2.2⟩
      by_cases hkn : k = n
      · subst hkn; exact (ahead_iff _ _).1 h
      · exact ih.2.1 k hk h1 (by omega)
    · rw [if_neg h]
      refine ⟨Nat.le_refl _, fun k hk h1 h2 => by omega, fun k hk h1 => ?_⟩
      have : k = n := by omega
      subst this
      exact fun hc => h ((ahead_iff _ _).2 hc)

theorem ins_sorted {x : List Tm} (h : x.Pairwise (fun a b => cmpT a b < 0)) {t : Tm} (hn : ∀ y ∈ x, y.2 ≠ t.2) : (ins x t).Pairwise (fun a b => cmpT a b < 0) := by
  obtain ⟨h1, h2, h3⟩ := spot_spec t x x.length (Nat.le_refl _)
  refine insAt_sorted h t _ (fun y hy => ?_) (fun y hy => ?_)
  · obtain ⟨k, hk, rfl⟩ := List.mem_take_iff_getElem.1 hy
    obtain ⟨s, hs⟩ : ∃ s, spot t x x.length = s + 1 := ⟨spot t x x.length - 1, by omega⟩
    have hsl : s < x.length := by omega
    have h4 := h3 s hsl hs.symm
    have h5 : cmpT x[s] t < 0 := cmp_flip h4 (fun e => hn x[s] (List.getElem_mem hsl) e.symm)
    by_cases hks : k = s
    · subst hks; exact h5
    · exact cmpT_trans (List.pairwise_iff_getElem.1 h k s (by omega) hsl (by omega)) h5
  · obtain ⟨k, hk, rfl⟩ := List.mem_drop_iff_getElem.1 hy
    exact h2 _ (by omega) (by omega) (by omega)

theorem mem_ins {x : List Tm} {t y : Tm} : y ∈ ins x t ↔ y = t ∨ y ∈ x := mem_insAt

theorem gather_spec (now i : Int) : ∀ (m x : List Tm), x.Pairwise (fun a b => cmpT a b < 0) → ((x ++ m).map (·.2)).Nodup → (m.foldl (gatherF now i) x).Pairwise (fun a b => cmpT a b < 0) ∧ ∀ t, t ∈ m.foldl (gatherF now i) x ↔ t ∈ x ∨ (t ∈ m ∧ placeOf t.1 now = i)
  | [], x, hx, _ => ⟨hx, fun t => by simp⟩
  | t :: m, x, hx, hn => by
    have hn2 : ((t :: (x ++ m)).map (·.2)).Nodup := (List.Perm.map _ List.perm_middle).nodup_iff.1 hn
    rw [List.map_cons, List.nodup_cons] at hn2
    have hfree : ∀ y ∈ x, y.2 ≠ t.2 := fun y hy e => hn2.1 (List.mem_map.2 ⟨y, List.mem_append_left _ hy, e⟩)
    rw [List.foldl_cons]
    by_cases hp : placeOf t.1 now = i
    · have e : gatherF now i x t = ins x t := if_pos hp
      rw [e]
      have hn3 : ((ins x t ++ m).map (·.2)).Nodup := by
        have hp2 : (ins x t ++ m).Perm (t :: (x ++ m)) := by
          have := (insAt_perm x t (spot t x x.length)).append_right m
          exact this
        rw [(hp2.map _).nodup_iff, List.map_cons, List.nodup_cons]
        exact hn2
      have ih := gather_spec now i m (ins x t) (ins_sorted hx hfree) hn3
      refine ⟨ih.1, fun y => ?_⟩
      rw [ih.2 y, mem_ins, List.mem_cons]
      constructor
      · rintro ((rfl | h) | ⟨h, h'⟩)
        · exact .inr ⟨.inl rfl, hp⟩
        · exact .inl h
        · exact .inr ⟨.inr h, h'⟩
      · rintro (h | ⟨rfl | h, h'⟩)
        · exact .inl (.inr h)
        · exact .inl (.inl rfl)
        · exact .inr ⟨h, h'⟩
    · have e : gatherF now i x t = x := if_neg hp
      rw [e]
      have ih := gather_spec now i m x hx hn2.2
      refine ⟨ih.1, fun y => ?_⟩
      rw [ih.2 y, List.mem_cons]
      constructor
      · rintro (h | ⟨h, h'⟩)
        · exact .inl h
        · exact .inr ⟨.inr h, h'⟩
      · rintro (h | ⟨rfl | h, h'⟩)
        · exact .inl h
        · exact absurd h' hp
        · exact .inr ⟨h, h'⟩

theorem nodup_inj {l : List Tm} (h : (l.map (·.2)).Nodup) {a b : Tm} (ha : a ∈ l) (hb : b ∈ l) (e : a.2 = b.2) : a = b := by
  induction l with
  | nil => cases ha
  | cons x l ih =>
    rw [List.map_cons, List.nodup_cons] at h
    rcases List.mem_cons.1 ha with h1 | h1
    · rcases List.mem_cons.1 hb with h2 | h2
      · rw [h1, h2]
      · exact absurd (List.mem_map.2 ⟨b, h2, by rw [← e, h1]⟩) h.1
    · rcases List.mem_cons.1 hb with h2 | h2
      · exact absurd (List.mem_map.2 ⟨a, h1, by rw [e, h2]⟩) h.1
      · exact ih h.2 h1 h2

theorem wheelOf_at (now : Int) (L : List Tm) (i : Nat) (l : List Tm) (h : (wheelOf now L)[i]? = some l) : l = gather now (i : Int) L := by
  unfold wheelOf wheelTo at h
  rw [List.getElem?_map] at h
  by_cases hi : i < 25
  · rw [List.getElem?_range hi] at h
    exact (Option.some.inj h).symm
  · rw [List.getElem?_eq_none (by simp; omega)] at h
    cases h

theorem wheelOf_mem {now : Int} {L : List Tm} (hn : (L.map (·.2)).Nodup) (t : Tm) : t ∈ (wheelOf now L).flatten ↔ t ∈ L := by
  have hg := fun i => gather_spec now i L [] .nil (by simpa using hn)
  constructor
  · intro h
    obtain ⟨l, hl, ht⟩ := List.mem_flatten.1 h
    obtain ⟨i, hi, rfl⟩ := List.getElem_of_mem hl
    rw [wheelOf_at now L i _ (List.getElem?_eq_getElem hi)] at ht
    rcases ((hg i).2 t).1 ht with h | h
    · cases h
    · exact h.1
  · intro h
    have hp := @place_range t.1 now
    obtain ⟨i, hi⟩ : ∃ i : Nat, placeOf t.1 now = (i : Int) := ⟨(placeOf t.1 now).toNat, by omega⟩
    refine List.mem_flatten.2 ⟨gather now (i : Int) L, ?_, ((hg i).2 t).2 (.inr ⟨h, hi⟩)⟩
    exact List.mem_map.2 ⟨i, List.mem_range.2 (by omega), rfl⟩

theorem wheelOf_ok {now : Int} {L : List Tm} (hf : ∀ t ∈ L, fitsT now t = true) (hn : (L.map (·.2)).Nodup) : Ok now (wheelOf now L) := by
  have hg := fun i => gather_spec now i L [] .nil (by simpa using hn)
  have hmem := fun t => wheelOf_mem (now := now) hn t
  refine ⟨by simp [wheelOf, wheelTo], fun i l hl t ht => ?_, fun l hl => ?_, ?_⟩
  · rw [wheelOf_at now L i l hl] at ht
    rcases ((hg i).2 t).1 ht with h | h
    · cases h
    · exact ⟨hf t h.1, h.2⟩
  · obtain ⟨i, hi, rfl⟩ := List.getElem_of_mem hl
    rw [wheelOf_at now L i _ (List.getElem?_eq_getElem hi)]
    exact (hg i).1
  · have hnd : (wheelOf now L).flatten.Pairwise (· ≠ ·) := by
      rw [List.pairwise_flatten]
      refine ⟨fun l hl => ?_, ?_⟩
      · obtain ⟨i, hi, rfl⟩ := List.getElem_of_mem hl
        rw [wheelOf_at now L i _ (List.getElem?_eq_getElem hi)]
        refine (hg i).1.imp fun h e => ?_
        subst e
        exact cmp_irrefl _ h
      · unfold wheelOf wheelTo
        rw [List.pairwise_map]
        refine (List.pairwise_lt_range (n := 25)).imp fun {i j} hij x hx y hy e => ?_
        subst e
        have h1 := ((hg i).2 x).1 hx
        have h2 := ((hg j).2 x).1 hy
        rcases h1 with h | h1
        · cases h
        · rcases h2 with h | h2
          · cases h
          · omega
    show List.Pairwise _ _
    rw [List.pairwise_map]
    refine hnd.imp_of_mem fun {a b} ha hb hne e => ?_
    exact hne (nodup_inj hn ((hmem a).1 ha) ((hmem b).1 hb) e)

/-- What the document asks of a wheel. -/
theorem may_iff {now : Int} {ls : List (List Tm)} (h0 : 0 ≤ now) (h1 : now ≤ 1099511627776) (h25 : ls.length = 25) : May now ls ↔ ls.flatten.length ≤ 200 ∧ (∀ t ∈ ls.flatten, fitsT now t = true) ∧ (ls.flatten.map (·.2)).Nodup ∧ ls = wheelOf now ls.flatten := by
  constructor
  · intro h
    refine ⟨h.2.total, fun t ht => h.2.mem_fits ht, h.2.ids, ?_⟩
    exact ok_unique h.2 (wheelOf_ok (fun t ht => h.2.mem_fits ht) h.2.ids) fun t => (wheelOf_mem h.2.ids t).symm
  · rintro ⟨_, hf, hn, he⟩
    exact ⟨⟨h0, h1⟩, by rw [he]; exact wheelOf_ok hf hn⟩
end Go.Proofs.YtdfjobghgbcjpaaDoor.Walks
