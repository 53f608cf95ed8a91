/-
  The backends as they come behind a place, each once. Plain lists: no program.
-/
import Derived.Test.YtpmobbbohchdlaaRemove
import Derived.WalkKit
import Derived.ProofKit
import Derived.Handy
import Derived.LoopTactic
import Derived.Below
import Derived.Laws.BitsAllLaws
import Derived.RegionTactic
import Derived.Deep.RegionHeld3
import Derived.Deep.DrawnRows
import Derived.Deep.AppendLies
import Derived.Laws.OwnMore
import Derived.Deep.Onto
import Derived.Deep.QuietTactic
import Derived.BigQuiet
namespace Go.Proofs.Ytpmobbbohchdlaa.Walks
open Go.RowKit
set_option linter.unusedVariables false
set_option linter.unusedSimpArgs false
attribute [local go_sem ↓] Go.wp_at_zero Go.wp_at_succ

/-- A backend that has not come yet comes. -/
def stepF (out : List Int) (t : Tm) : List Int := if t.2 ∈ out then out else out ++ [t.2]

def firsts (m : List Tm) : List Int := m.foldl stepF []

theorem firsts_snoc (m : List Tm) (t : Tm) : firsts (m ++ [t]) = stepF (firsts m) t := by simp [firsts]

theorem mem_stepF {out : List Int} {t : Tm} {x : Int} : x ∈ stepF out t ↔ x ∈ out ∨ x = t.2 := by
  unfold stepF
  split
  · rename_i h
    exact ⟨.inl, fun h2 => h2.elim id (fun e => by rw [e]; exact h)⟩
  · simp

theorem stepF_len (out : List Int) (t : Tm) : (stepF out t).length ≤ out.length + 1 := by
  unfold stepF
  split
  · omega
  · simp

/-- The weights of those that have not come yet. -/
def mask (a : List Int) (out : List Int) : List Int := (List.range 12).map fun (b : Nat) => if (b : Int) ∈ out then 0 else a.getD b 0

theorem mask_len (a out : List Int) : (mask a out).length = 12 := by simp [mask]

theorem mask_nil {a : List Int} (h : a.length = 12) : mask a [] = a := by
  apply List.ext_getElem?
  intro j
  by_cases hj : j < 12
  · simp [mask, hj, List.getD_eq_getElem?_getD, List.getElem?_eq_getElem (show j < a.length by omega)]
  · rw [List.getElem?_eq_none (by rw [mask_len]; omega), List.getElem?_eq_none (by omega)]

theorem mask_at (a out : List Int) (b : Nat) (hb : b < 12) : (mask a out).getD b 0 = if (b : Int) ∈ out then 0 else a.getD b 0 := by
  simp [mask, hb]

theorem mask_snoc (a out : List Int) (b : Nat) (hb : b < 12) : mask a (out ++ [(b : Int)]) = (mask a out).set b 0 := by
  apply List.ext_getElem?
  intro j
  by_cases hj : j < 12
  · by_cases h : j = b
    · subst h
      rw [List.getElem?_set_self (by rw [mask_len]; exact hj)]
      simp [mask, hj]
    · rw [List.getElem?_set_ne (Ne.symm h)]
      have hne : ¬ ((j : Int) = (b : Int)) := by omega
      simp [mask, hj, hne]
  · rw [List.getElem?_eq_none (by rw [mask_len]; omega), List.getElem?_eq_none (by rw [List.length_set, mask_len]; omega)]

/-- Whether a backend is on the ring and has not come yet. -/
abbrev hasW (a : List Int) (n : Int) : Prop := 0 ≤ n ∧ n < 12 ∧ 0 < a.getD n.toNat 0

/-- The program's step. -/
def stepW (a : List Int) (out : List Int) (t : Tm) : List Int := if hasW (mask a out) t.2 then out ++ [t.2] else out

def walkW (a : List Int) (m : List Tm) : List Int := m.foldl (stepW a) []

theorem walkW_snoc (a : List Int) (m : List Tm) (t : Tm) : walkW a (m ++ [t]) = stepW a (walkW a m) t := by simp [walkW]

theorem walkW_len (a : List Int) (m : List Tm) : (walkW a m).length ≤ m.length := by
  have h : ∀ (m : List Tm) (x : List Int), (m.foldl (stepW a) x).length ≤ x.length + m.length := by
    intro m
    induction m with
    | nil => intro x; simp
    | cons t m ih =>
      intro x
      have h1 : (stepW a x t).length ≤ x.length + 1 := by
        unfold stepW
        split
        · simp
        · omega
      have := ih (stepW a x t)
      simp only [List.foldl_cons, List.length_cons]
      omega
  simpa [walkW] using h m []

theorem hasW_mask {a out : List Int} {n : Int} (h : hasW a n) : hasW (mask a out) n ↔ n ∉ out := by
  obtain ⟨h0, h1, h2⟩ := h
  obtain ⟨b, rfl⟩ := Int.eq_ofNat_of_zero_le h0
  have hb : b < 12 := by omega
  unfold hasW
  rw [Int.toNat_natCast] at *
  rw [mask_at a out b hb]
  by_cases hm : (b : Int) ∈ out
  · rw [if_pos hm]
    exact ⟨fun h => absurd h.2.2 (by omega), fun h => absurd hm h⟩
  · rw [if_neg hm]
    exact ⟨fun _ => hm, fun _ => ⟨h0, h1, h2⟩⟩

theorem walkW_eq {a : List Int} {m : List Tm} (h : ∀ t ∈ m, hasW a t.2) : walkW a m = firsts m := by
  have hh : ∀ (m : List Tm) (x : List Int), (∀ t ∈ m, hasW a t.2) → m.foldl (stepW a) x = m.foldl stepF x := by
    intro m
    induction m with
    | nil => intro x _; rfl
    | cons t m ih =>
      intro x hm
      have e : stepW a x t = stepF x t := by
        unfold stepW stepF
        by_cases ht : t.2 ∈ x
        · rw [if_pos ht, if_neg (fun h => (hasW_mask (hm t (List.mem_cons_self ..))).1 h ht)]
        · rw [if_neg ht, if_pos ((hasW_mask (hm t (List.mem_cons_self ..))).2 ht)]
      rw [List.foldl_cons, List.foldl_cons, e]
      exact ih _ fun y hy => hm y (List.mem_cons_of_mem _ hy)
  exact hh m [] h

theorem ring_has {l : List Tm} (h : RingOk l) : ∀ t ∈ l, hasW (wOf l) t.2 := by
  intro t ht
  have e := h.eq
  rw [e] at ht
  obtain ⟨b, i, hb, hi, rfl⟩ := mem_spotsOf.1 ht
  refine ⟨by simp, by simp only; omega, ?_⟩
  simp only [Int.toNat_natCast]
  unfold wt at hi
  omega

/-- The spots as they come behind a place: those at it or beyond, then those ahead of it. -/
def turnAt (l : List Tm) (at_ : Int) : List Tm := l.filter (fun t => decide (at_ ≤ t.1)) ++ l.filter (fun t => decide (t.1 < at_))

def walkAt (l : List Tm) (at_ : Int) : List Int := firsts (turnAt l at_)

theorem mem_turnAt {l : List Tm} {at_ : Int} {t : Tm} : t ∈ turnAt l at_ ↔ t ∈ l := by
  unfold turnAt
  simp only [List.mem_append, List.mem_filter, decide_eq_true_eq]
  constructor
  · rintro (h | h) <;> exact h.1
  · intro h
    by_cases h2 : at_ ≤ t.1
    · exact .inl ⟨h, h2⟩
    · exact .inr ⟨h, by omega⟩

theorem turnAt_len (l : List Tm) (at_ : Int) : (turnAt l at_).length = l.length := by
  unfold turnAt
  induction l with
  | nil => rfl
  | cons t l ih =>
    simp only [List.filter_cons]
    by_cases h : at_ ≤ t.1
    · have h2 : ¬ t.1 < at_ := by omega
      simp only [h, h2, decide_true, decide_false, if_true, List.cons_append, List.length_cons]
      simpa using ih
    · have h2 : t.1 < at_ := by omega
      simp only [h, h2, decide_true, decide_false, if_true, List.length_append, List.length_cons] at ih ⊢
      simp at ih ⊢
      omega

/-- The first spot at a place or beyond. -/
def firstAt (l : List Tm) (at_ : Int) : Nat := l.findIdx fun t => decide (at_ ≤ t.1)

theorem firstAt_le (l : List Tm) (at_ : Int) : firstAt l at_ ≤ l.length := List.findIdx_le_length

theorem firstAt_before {l : List Tm} {at_ : Int} (j : Nat) (hj : j < l.length) (h : j < firstAt l at_) : l[j].1 < at_ := by
  have := List.not_of_lt_findIdx h
  simp at this
  exact this

theorem firstAt_behind {l : List Tm} (hs : l.Pairwise (fun x y => cmpT x y < 0)) {at_ : Int} (j : Nat) (hj : j < l.length) (h : firstAt l at_ ≤ j) : ¬ l[j].1 < at_ := by
  have hlt : firstAt l at_ < l.length := by omega
  have h1 : at_ ≤ l[firstAt l at_].1 := by
    have := List.findIdx_getElem (w := hlt)
    exact of_decide_eq_true this
  by_cases e : firstAt l at_ = j
  · have : l[firstAt l at_] = l[j] := by congr 1
    rw [this] at h1
    omega
  · have := List.pairwise_iff_getElem.1 hs (firstAt l at_) j hlt hj (by omega)
    rw [cmpT_lt] at this
    omega

theorem filter_take_drop {α : Type} (p : α → Bool) (l : List α) (k : Nat) (h1 : ∀ j (hj : j < l.length), j < k → p l[j] = false) (h2 : ∀ j (hj : j < l.length), k ≤ j → p l[j] = true) : l.filter p = l.drop k ∧ l.filter (fun x => !p x) = l.take k := by
  have e1 : (l.take k).filter p = [] := List.filter_eq_nil_iff.2 fun x hx => by
    obtain ⟨j, hj, rfl⟩ := List.mem_take_iff_getElem.1 hx
    rw [h1 j (by omega) (by omega)]
    exact Bool.false_ne_true
  have e2 : (l.drop k).filter p = l.drop k := List.filter_eq_self.2 fun x hx => by
    obtain ⟨j, hj, rfl⟩ := List.mem_drop_iff_getElem.1 hx
    exact h2 _ (by omega) (by omega)
  have e3 : (l.take k).filter (fun x => !p x) = l.take k := List.filter_eq_self.2 fun x hx => by
    obtain ⟨j, hj, rfl⟩ := List.mem_take_iff_getElem.1 hx
    rw [h1 j (by omega) (by omega)]
    rfl
  have e4 : (l.drop k).filter (fun x => !p x) = [] := List.filter_eq_nil_iff.2 fun x hx => by
    obtain ⟨j, hj, rfl⟩ := List.mem_drop_iff_getElem.1 hx
    rw [h2 _ (by omega) (by omega)]
    exact Bool.false_ne_true
  constructor
  · conv => lhs; rw [← List.take_append_drop k l]
    rw [List.filter_append, e1, e2, List.nil_append]
  · conv => lhs; rw [← List.take_append_drop k l]
    rw [List.filter_append, e3, e4, List.append_nil]

theorem turnAt_rot {l : List Tm} (hs : l.Pairwise (fun x y => cmpT x y < 0)) (at_ : Int) : turnAt l at_ = l.drop (firstAt l at_) ++ l.take (firstAt l at_) := by
  have h := filter_take_drop (fun t : Tm => decide (at_ ≤ t.1)) l (firstAt l at_) (fun j hj h => by have := firstAt_before j hj h; simp; omega) (fun j hj h => by have := firstAt_behind hs j hj h; simp; omega)
  unfold turnAt
  rw [h.1, ← h.2]
  congr 1
  apply List.filter_congr
  intro t _
  by_cases e : at_ ≤ t.1
  · simp [e]
  · simp [e]
    omega

/-- What has come when k rounds are over. -/
def comes (l : List Tm) (i0 k : Nat) : List Tm := (List.range k).map fun j => l.getD ((i0 + j) % l.length) (0, 0)

theorem comes_succ (l : List Tm) (i0 k : Nat) : comes l i0 (k + 1) = comes l i0 k ++ [l.getD ((i0 + k) % l.length) (0, 0)] := by simp [comes, List.range_succ]

theorem comes_len (l : List Tm) (i0 k : Nat) : (comes l i0 k).length = k := by simp [comes]

theorem comes_all (l : List Tm) (i0 : Nat) (h : i0 ≤ l.length) : comes l i0 l.length = l.drop i0 ++ l.take i0 := by
  apply List.ext_getElem?
  intro j
  by_cases hj : j < l.length
  · have hl : 0 < l.length := by omega
    rw [List.getElem?_append, List.length_drop]
    unfold comes
    rw [List.getElem?_map, List.getElem?_range hj]
    simp only [Option.map_some]
    by_cases h2 : j < l.length - i0
    · rw [if_pos h2, List.getElem?_drop, Nat.mod_eq_of_lt (by omega), List.getD_eq_getElem?_getD, List.getElem?_eq_getElem (by omega)]
      rfl
    · have e : (i0 + j) % l.length = j - (l.length - i0) := by
        rw [show i0 + j = (j - (l.length - i0)) + l.length by omega, Nat.add_mod_right, Nat.mod_eq_of_lt (by omega)]
      rw [if_neg h2, e, List.getElem?_take_of_lt (by omega), List.getD_eq_getElem?_getD, List.getElem?_eq_getElem (by omega)]
      rfl
  · rw [List.getElem?_eq_none (by rw [comes_len]; omega), List.getElem?_eq_none (by simp; omega)]

theorem walk_ring {l : List Tm} (h : RingOk l) (at_ : Int) : walkW (wOf l) (comes l (firstAt l at_) l.length) = walkAt l at_ := by
  have hs : l.Pairwise (fun x y => cmpT x y < 0) := by have := spotsOf_sorted h.wts; rwa [← h.eq] at this
  rw [comes_all l _ (firstAt_le l at_), ← turnAt_rot hs at_]
  exact walkW_eq fun t ht => ring_has h t (mem_turnAt.1 ht)
end Go.Proofs.Ytpmobbbohchdlaa.Walks
