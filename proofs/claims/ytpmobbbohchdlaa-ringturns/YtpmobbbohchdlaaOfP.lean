/-
  Spots put one by one where they belong make the sorted row. Plain lists: no program.
-/
import Derived.Test.YtpmobbbohchdlaaSame
import Derived.WalkKit
import Derived.ProofKit
import Derived.Handy
import Derived.LoopTactic
import Derived.Below
import Derived.Laws.BitsAllLaws
import Derived.RegionTactic
import Derived.Deep.RegionHeld3
import Derived.Deep.DrawnRows
import Derived.Deep.AppendLies
import Derived.Laws.OwnMore
import Derived.Deep.Onto
import Derived.Deep.QuietTactic
import Derived.BigQuiet
namespace Go.Proofs.Ytpmobbbohchdlaa.Walks
open Go.RowKit
set_option linter.unusedVariables false
set_option linter.unusedSimpArgs false
attribute [local go_sem ↓] Go.wp_at_zero Go.wp_at_succ

/-- Where a spot comes to stand behind those that are there: it passes those that it is ahead of, from the end. -/
def spot (t : Tm) (x : List Tm) : Nat → Nat
  | 0 => 0
  | j + 1 => if ahead t (x.getD j (0, 0)) then spot t x j else j + 1

def insAt (x : List Tm) (t : Tm) (j : Nat) : List Tm := x.take j ++ t :: x.drop j

def ins (x : List Tm) (t : Tm) : List Tm := insAt x t (spot t x x.length)

theorem insAt_len (x : List Tm) (t : Tm) (j : Nat) : (insAt x t j).length = x.length + 1 := by
  simp only [insAt, List.length_append, List.length_cons, List.length_take, List.length_drop]; omega

theorem ins_len (x : List Tm) (t : Tm) : (ins x t).length = x.length + 1 := insAt_len _ _ _

theorem insAt_step (x : List Tm) (t : Tm) (j : Nat) (hj : j < x.length) : ((insAt x t (j + 1)).set (j + 1) x[j]).set j t = insAt x t j := by
  apply List.ext_getElem?
  intro i
  simp only [insAt, List.getElem?_set, List.length_set, List.length_append, List.length_cons, List.length_take, List.length_drop, List.getElem?_append]
  rcases Nat.lt_trichotomy i j with h | h | h
  · rw [if_neg (by omega), if_neg (by omega), if_pos (by omega), if_pos (by omega), List.getElem?_take_of_lt (by omega), List.getElem?_take_of_lt h]
  · subst h
    rw [if_pos rfl, if_pos (by omega), if_neg (by omega), show i - min i x.length = 0 by omega]
    rfl
  · by_cases h2 : i = j + 1
    · subst h2
      rw [if_neg (by omega), if_pos rfl, if_pos (by omega), if_neg (by omega), show j + 1 - min j x.length = 1 by omega]
      simp [List.getElem?_drop, List.getElem?_eq_getElem hj]
    · rw [if_neg (by omega), if_neg (by omega), if_neg (by omega), if_neg (by omega), show min (j + 1) x.length = j + 1 by omega, show min j x.length = j by omega, show i - j = (i - (j + 1)) + 1 by omega]
      obtain ⟨m, rfl⟩ : ∃ m, i = j + 2 + m := ⟨i - (j + 2), by omega⟩
      rw [show j + 2 + m - (j + 1) = m + 1 by omega]
      simp only [List.getElem?_cons_succ, List.getElem?_drop]
      congr 1
      omega

theorem insAt_get (x : List Tm) (t : Tm) (j : Nat) (hj : j ≤ x.length) : (insAt x t j)[j]? = some t := by
  simp only [insAt, List.getElem?_append, List.length_take]
  rw [if_neg (by omega), show j - min j x.length = 0 by omega]; rfl

theorem insAt_before (x : List Tm) (t : Tm) (j : Nat) (hj : j < x.length) : (insAt x t (j + 1))[j]? = some x[j] := by
  simp only [insAt, List.getElem?_append, List.length_take]
  rw [if_pos (by omega), List.getElem?_take_of_lt (by omega), List.getElem?_eq_getElem hj]

theorem insAt_end (x : List Tm) (t : Tm) : insAt x t x.length = x ++ [t] := by simp [insAt]

theorem insAt_perm (l : List Tm) (t : Tm) (j : Nat) : (insAt l t j).Perm (t :: l) := by
  unfold insAt
  refine List.perm_middle.trans ?_
  rw [List.take_append_drop]

theorem insAt_sorted {l : List Tm} (h : l.Pairwise (fun a b => cmpT a b < 0)) (t : Tm) (j : Nat) (h1 : ∀ x ∈ l.take j, cmpT x t < 0) (h2 : ∀ x ∈ l.drop j, cmpT t x < 0) : (insAt l t j).Pairwise (fun a b => cmpT a b < 0) := by
  unfold insAt
  have hp := List.pairwise_append.1 (by rw [List.take_append_drop]; exact h : (l.take j ++ l.drop j).Pairwise _)
  refine List.pairwise_append.2 ⟨hp.1, List.pairwise_cons.2 ⟨h2, hp.2.1⟩, fun x hx y hy => ?_⟩
  rcases List.mem_cons.1 hy with rfl | hy
  · exact h1 x hx
  · exact hp.2.2 x hx y hy

theorem ahead_iff (a b : Tm) : ahead a b = true ↔ cmpT a b < 0 := by
  rw [cmpT_lt]
  unfold ahead
  simp

theorem cmp_flip {a b : Tm} (h : ¬ cmpT a b < 0) (hne : a ≠ b) : cmpT b a < 0 := by
  rw [cmpT_lt] at *
  have h2 : a.1 = b.1 → a.2 = b.2 → False := fun e1 e2 => hne (Prod.ext e1 e2)
  by_cases e1 : a.1 = b.1
  · have h3 : a.2 ≠ b.2 := fun e2 => h2 e1 e2
    omega
  · omega

theorem spot_spec (t : Tm) (x : List Tm) : ∀ n, n ≤ x.length → spot t x n ≤ n ∧ (∀ k (h : k < x.length), spot t x n ≤ k → k < n → cmpT t x[k] < 0) ∧ (∀ k (h : k < x.length), k + 1 = spot t x n → ¬ cmpT t x[k] < 0)
  | 0, _ => ⟨Nat.le_refl _, fun k h h1 h2 => absurd h2 (Nat.not_lt_zero _), fun k h h1 => by simp [spot] at h1⟩
  | n + 1, hn => by
    have ih := spot_spec t x n (by omega)
    have hx : x.getD n (0, 0) = x[n] := by simp [List.getD, List.getElem?_eq_getElem (show n < x.length by omega)]
    unfold spot
    rw [hx]
    by_cases h : ahead t x[n] = true
    · rw [if_pos h]
      refine ⟨by omega, fun k hk h1 h2 => ?_, ih.2.2⟩
      by_cases hkn : k = n
      · subst hkn; exact (ahead_iff _ _).1 h
      · exact ih.2.1 k hk h1 (by omega)
    · rw [if_neg h]
      refine ⟨Nat.le_refl _, fun k hk h1 h2 => by omega, fun k hk h1 => ?_⟩
      have : k = n := by omega
      subst this
      exact fun hc => h ((ahead_iff _ _).2 hc)

theorem ins_sorted {x : List Tm} (h : x.Pairwise (fun a b => cmpT a b < 0)) {t : Tm} (hn : t ∉ x) : (ins x t).Pairwise (fun a b => cmpT a b < 0) := by
  obtain ⟨h1, h2, h3⟩ := spot_spec t x x.length (Nat.le_refl _)
  refine insAt_sorted h t _ (fun y hy => ?_) (fun y hy => ?_)
  · obtain ⟨k, hk, rfl⟩ := List.mem_take_iff_getElem.1 hy
    obtain ⟨s, hs⟩ : ∃ s, spot t x x.length = s + 1 := ⟨spot t x x.length - 1, by omega⟩
    have hsl : s < x.length := by omega
    have h4 := h3 s hsl hs.symm
    have h5 : cmpT x[s] t < 0 := cmp_flip h4 (fun e => hn (by rw [e]; exact List.getElem_mem hsl))
    by_cases hks : k = s
    · subst hks; exact h5
    · exact cmpT_trans (List.pairwise_iff_getElem.1 h k s (by omega) hsl (by omega)) h5
  · obtain ⟨k, hk, rfl⟩ := List.mem_drop_iff_getElem.1 hy
    exact h2 _ (by omega) (by omega) (by omega)

/-- Spots put in one by one. -/
def puts (m : List Tm) : List Tm := m.foldl ins []

theorem puts_snoc (m : List Tm) (t : Tm) : puts (m ++ [t]) = ins (puts m) t := by simp [puts]

theorem puts_spec : ∀ (m x : List Tm), x.Pairwise (fun a b => cmpT a b < 0) → (x ++ m).Nodup → (m.foldl ins x).Pairwise (fun a b => cmpT a b < 0) ∧ (m.foldl ins x).Perm (x ++ m)
  | [], x, hx, _ => ⟨hx, by simp⟩
  | t :: m, x, hx, hn => by
    have hn2 : (t :: (x ++ m)).Nodup := List.perm_middle.nodup_iff.1 hn
    have hp2 : (ins x t ++ m).Perm (t :: (x ++ m)) := by
      have := (insAt_perm x t (spot t x x.length)).append_right m
      exact this
    have hfree : t ∉ x := fun h => (List.nodup_cons.1 hn2).1 (List.mem_append_left _ h)
    have ih := puts_spec m (ins x t) (ins_sorted hx hfree) (hp2.nodup_iff.2 hn2)
    rw [List.foldl_cons]
    exact ⟨ih.1, ih.2.trans (hp2.trans List.perm_middle.symm)⟩

theorem puts_len : ∀ (m : List Tm), (puts m).length = m.length := by
  have h : ∀ (m x : List Tm), (m.foldl ins x).length = x.length + m.length := by
    intro m
    induction m with
    | nil => intro x; simp
    | cons t m ih => intro x; rw [List.foldl_cons, ih, ins_len, List.length_cons]; omega
  intro m
  simpa [puts] using h m []

theorem puts_eq {m : List Tm} (h : m.Nodup) : puts m = sortT m := by
  have h1 := puts_spec m [] List.Pairwise.nil (by simpa using h)
  refine sorted_unique h1.1 (sortT_sorted h) fun x => ?_
  unfold puts
  rw [h1.2.mem_iff, (sortT_perm m).mem_iff]
  simp

theorem spots1_nodup (b : Nat) : ∀ k, k ≤ 32 → (spots1 b k).Nodup
  | 0, _ => by simp [spots1]
  | k + 1, h => by
    rw [spots1_succ, List.nodup_append]
    refine ⟨spots1_nodup b k (by omega), by simp, fun x hx y hy e => ?_⟩
    rw [List.mem_singleton] at hy
    obtain ⟨i, hi, rfl⟩ := mem_spots1.1 hx
    rw [hy] at e
    have e2 : spotMix b i = spotMix b k := by
      have := congrArg Prod.fst e
      simp only at this
      exact Int.ofNat.inj this
    have := (spot_second b i k (by omega) (by omega)).1 e2
    omega

theorem raw_nodup {a : List Int} (ha : Wts a) : ∀ n, (raw a n).Nodup
  | 0 => by simp [raw]
  | n + 1 => by
    rw [raw, List.nodup_append]
    have hw := ha.wt_le n
    refine ⟨raw_nodup ha n, spots1_nodup n _ (by omega), fun x hx y hy e => ?_⟩
    obtain ⟨b, i, hb, _, rfl⟩ := mem_raw.1 hx
    obtain ⟨j, _, rfl⟩ := mem_spots1.1 hy
    have := congrArg Prod.snd e
    simp only at this
    omega

theorem puts_raw {a : List Int} (ha : Wts a) : puts (raw a 12) = spotsOf a := puts_eq (raw_nodup ha 12)

/-- A slice of numbers that can be read. -/
def IntsAt (w : World) (v : Value) (a : List Int) : Prop := RowAt w v a.length (icells a)

theorem IntsAt.below {w w' : World} {v : Value} {l : List Int} (h : IntsAt w v l) (hb : Below w.heap.size w w') : IntsAt w' v l := RowAt.below h hb

theorem icells_at (a : List Int) (i : Nat) (h : i < a.length) : (icells a)[i]? = some (.int .i64 a[i]) := by
  unfold icells
  rw [List.getElem?_map, List.getElem?_eq_getElem h]
  rfl

theorem IntsAt.parts {w : World} {v : Value} {l : List Int} (h : IntsAt w v l) :
    ∃ a cap, v = .slice a l.length cap ∧ l.length ≤ cap ∧ cap ≤ maxLen ∧ ∀ i (hi : i < l.length), ∃ b off, a = some ⟨b, off, none⟩ ∧ b < w.heap.size ∧ w.cell? ⟨b, off + i, none⟩ = some (.int .i64 l[i]) := by
  obtain ⟨a, cap, hv, hc, hm, h1 | ⟨b, off, h1, h2, h3⟩⟩ := h
  · exact ⟨a, cap, hv, hc, hm, fun i hi => absurd hi (by omega)⟩
  · refine ⟨a, cap, hv, hc, hm, fun i hi => ⟨b, off, h1, h2, ?_⟩⟩
    rw [h3 i (by rw [icells_len]; exact hi)]
    exact icells_at l i hi
end Go.Proofs.Ytpmobbbohchdlaa.Walks
