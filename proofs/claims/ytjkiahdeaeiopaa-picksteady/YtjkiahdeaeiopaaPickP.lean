/-
  Who takes a flow: plain. No condition.
-/
import Derived.Test.YtjkiahdeaeiopaaCaps
import Derived.WalkKit
import Derived.ProofKit
import Derived.Handy
import Derived.LoopTactic
import Derived.Below
import Derived.Laws.BitsAllLaws
import Derived.RegionTactic
import Derived.Deep.RegionHeld3
import Derived.Deep.DrawnRows
import Derived.Deep.AppendLies
import Derived.Laws.OwnMore
import Derived.Deep.Onto
import Derived.Deep.QuietTactic
import Derived.BigQuiet
namespace Go.Proofs.Ytjkiahdeaeiopaa.Walks
open Go.RowKit
set_option linter.unusedVariables false
set_option linter.unusedSimpArgs false
attribute [local go_sem ↓] Go.wp_at_zero Go.wp_at_succ

abbrev ld0 : Ld := (0, 0, 0)

/-- The first of which a test says true. -/
def find (q : Ld → Bool) : List Ld → Option Nat
  | [] => none
  | t :: l => if q t then some 0 else (find q l).map (· + 1)

theorem find_none {q : Ld → Bool} : ∀ {l : List Ld}, (∀ t ∈ l, q t = false) → find q l = none
  | [], _ => rfl
  | t :: l, h => by
    unfold find
    rw [h t (by simp), find_none (l := l) fun x hx => h x (by simp [hx])]
    rfl

theorem find_some {q : Ld → Bool} : ∀ {l : List Ld} {k : Nat} (hk : k < l.length), (∀ t ∈ l.take k, q t = false) → q l[k] = true → find q l = some k
  | t :: l, 0, _, _, h => by
    unfold find
    rw [if_pos (by simpa using h)]
  | t :: l, k + 1, hk, h1, h2 => by
    unfold find
    rw [if_neg (by rw [h1 t (by simp)]; simp), find_some (l := l) (k := k) (by simpa using hk) (fun x hx => h1 x (by simp [hx])) (by simpa using h2)]
    rfl

theorem find_is {q : Ld → Bool} : ∀ {l : List Ld} {k : Nat}, find q l = some k → ∃ hk : k < l.length, q l[k] = true
  | [], k, h => by simp [find] at h
  | t :: l, k, h => by
    unfold find at h
    split at h
    case isTrue h1 => injection h with h; subst h; exact ⟨by simp, h1⟩
    case isFalse h1 =>
      cases h2 : find q l with
      | none => rw [h2] at h; cases h
      | some j =>
        rw [h2] at h
        injection h with h
        subst h
        obtain ⟨h3, h4⟩ := find_is h2
        exact ⟨by simpa using h3, by simpa using h4⟩

theorem find_not {q : Ld → Bool} : ∀ {l : List Ld}, find q l = none → ∀ t ∈ l, q t = false
  | [], _, t, ht => by simp at ht
  | x :: l, h, t, ht => by
    unfold find at h
    split at h
    case isTrue h1 => cases h
    case isFalse h1 =>
      cases h2 : find q l with
      | none =>
        rcases List.mem_cons.1 ht with rfl | ht
        · simpa using h1
        · exact find_not h2 t ht
      | some j => rw [h2] at h; cases h

def idxOf : Option Nat → Int
  | none => -1
  | some k => k

def takesB (x : Ld) : Bool := x.2.1 != 0

/-- The load of a backend, if it takes something. -/
def mineB (b : Int) (x : Ld) : Bool := (x.1 == b) && (x.2.1 != 0)

/-- Is there room at a place? -/
def roomB (l : List Ld) (m : List Int) (i : Nat) : Bool := decide ((l.getD i ld0).2.2 < m.getD i 0)

/-- The first one with room of those in the walk that are looked at. -/
def alongV (l : List Ld) (m : List Int) : List Int → Nat → Option Nat
  | [], _ => none
  | b :: ws, t => match find (mineB b) l with
    | none => alongV l m ws t
    | some i => if t = 0 then none else if roomB l m i then some i else alongV l m ws (t - 1)

theorem along_zero (l : List Ld) (m : List Int) : ∀ ws, alongV l m ws 0 = none
  | [] => rfl
  | b :: ws => by
    unfold alongV
    cases find (mineB b) l with
    | none => exact along_zero l m ws
    | some i => simp

theorem along_room {l : List Ld} {m : List Int} : ∀ {ws : List Int} {t : Nat} {i : Nat}, alongV l m ws t = some i → i < l.length ∧ roomB l m i = true ∧ takesB (l.getD i ld0) = true
  | [], t, i, h => by cases h
  | b :: ws, t, i, h => by
    unfold alongV at h
    cases h1 : find (mineB b) l with
    | none => rw [h1] at h; exact along_room h
    | some j =>
      rw [h1] at h
      simp only at h
      split at h
      · cases h
      · split at h
        case isTrue h2 =>
          injection h with h
          subst h
          obtain ⟨h3, h4⟩ := find_is h1
          refine ⟨h3, h2, ?_⟩
          unfold mineB at h4
          rw [Bool.and_eq_true] at h4
          unfold takesB
          simpa [h3] using h4.2
        · exact along_room h

/-- Has the one at i less flows for its weight than the one at j? -/
def lessB (l : List Ld) (i j : Nat) : Bool := decide ((l.getD i ld0).2.2 * (l.getD j ld0).2.1 < (l.getD j ld0).2.2 * (l.getD i ld0).2.1)

/-- The least of the first k with room. -/
def leastTo (l : List Ld) (m : List Int) : Nat → Option Nat
  | 0 => none
  | k + 1 => if roomB l m k && (match leastTo l m k with | none => true | some j => lessB l k j) then some k else leastTo l m k

abbrev IsBest (l : List Ld) (m : List Int) (lo hi : Nat) (o : Option Nat) : Prop := match o with
  | none => ∀ j, lo ≤ j → j < hi → roomB l m j = false
  | some i => (lo ≤ i ∧ i < hi ∧ roomB l m i = true) ∧ ∀ j, lo ≤ j → j < hi → roomB l m j = true →
      (j < i → (l.getD i ld0).2.2 * (l.getD j ld0).2.1 < (l.getD j ld0).2.2 * (l.getD i ld0).2.1) ∧ (i ≤ j → (l.getD i ld0).2.2 * (l.getD j ld0).2.1 ≤ (l.getD j ld0).2.2 * (l.getD i ld0).2.1)

theorem cross_lt {a1 w1 a2 w2 a3 w3 : Int} (p1 : 0 < w1) (p2 : 0 < w2) (p3 : 0 < w3) (h1 : a1 * w2 < a2 * w1) (h2 : a2 * w3 ≤ a3 * w2) : a1 * w3 < a3 * w1 := by
  have e1 : a1 * w2 * w3 < a2 * w1 * w3 := Int.mul_lt_mul_of_pos_right h1 p3
  have e2 : a2 * w3 * w1 ≤ a3 * w2 * w1 := Int.mul_le_mul_of_nonneg_right h2 (by omega)
  have e3 : a2 * w1 * w3 = a2 * w3 * w1 := Int.mul_right_comm _ _ _
  have e4 : a1 * w2 * w3 = a1 * w3 * w2 := Int.mul_right_comm _ _ _
  have e5 : a3 * w2 * w1 = a3 * w1 * w2 := Int.mul_right_comm _ _ _
  exact Int.lt_of_mul_lt_mul_right (a := w2) (by omega) (by omega)

theorem cross_lt' {a1 w1 a2 w2 a3 w3 : Int} (p1 : 0 < w1) (p2 : 0 < w2) (p3 : 0 < w3) (h1 : a1 * w2 ≤ a2 * w1) (h2 : a2 * w3 < a3 * w2) : a1 * w3 < a3 * w1 := by
  have e1 : a1 * w2 * w3 ≤ a2 * w1 * w3 := Int.mul_le_mul_of_nonneg_right h1 (by omega)
  have e2 : a2 * w3 * w1 < a3 * w2 * w1 := Int.mul_lt_mul_of_pos_right h2 p1
  have e3 : a2 * w1 * w3 = a2 * w3 * w1 := Int.mul_right_comm _ _ _
  have e4 : a1 * w2 * w3 = a1 * w3 * w2 := Int.mul_right_comm _ _ _
  have e5 : a3 * w2 * w1 = a3 * w1 * w2 := Int.mul_right_comm _ _ _
  exact Int.lt_of_mul_lt_mul_right (a := w2) (by omega) (by omega)

theorem cross_le {a1 w1 a2 w2 a3 w3 : Int} (p1 : 0 < w1) (p2 : 0 < w2) (p3 : 0 < w3) (h1 : a1 * w2 ≤ a2 * w1) (h2 : a2 * w3 ≤ a3 * w2) : a1 * w3 ≤ a3 * w1 := by
  have e1 : a1 * w2 * w3 ≤ a2 * w1 * w3 := Int.mul_le_mul_of_nonneg_right h1 (by omega)
  have e2 : a2 * w3 * w1 ≤ a3 * w2 * w1 := Int.mul_le_mul_of_nonneg_right h2 (by omega)
  have e3 : a2 * w1 * w3 = a2 * w3 * w1 := Int.mul_right_comm _ _ _
  have e4 : a1 * w2 * w3 = a1 * w3 * w2 := Int.mul_right_comm _ _ _
  have e5 : a3 * w2 * w1 = a3 * w1 * w2 := Int.mul_right_comm _ _ _
  exact Int.le_of_mul_le_mul_right (a := w2) (by omega) (by omega)

section
variable {l : List Ld} {m : List Int}

/-- Who has room takes something. -/
abbrev RoomW (l : List Ld) (m : List Int) : Prop := ∀ j, roomB l m j = true → 0 < (l.getD j ld0).2.1

theorem best_up_yes (hw : RoomW l m) {k : Nat} {o : Option Nat} (h : IsBest l m 0 k o) (h1 : roomB l m k = true) (h2 : ∀ j, o = some j → lessB l k j = true) : IsBest l m 0 (k + 1) (some k) := by
  refine ⟨⟨Nat.zero_le _, by omega, h1⟩, fun j _ hj hr => ⟨fun hlt => ?_, fun hge => ?_⟩⟩
  · cases o with
    | none =>
      have := h j (Nat.zero_le _) hlt
      rw [this] at hr
      cases hr
    | some i =>
      have h3 := of_decide_eq_true (h2 i rfl)
      obtain ⟨⟨_, hi, hri⟩, hb⟩ := h
      have h4 := hb j (Nat.zero_le _) hlt hr
      refine cross_lt (hw k h1) (hw i hri) (hw j hr) h3 ?_
      rcases Nat.lt_or_ge j i with hji | hji
      · exact Int.le_of_lt (h4.1 hji)
      · exact h4.2 hji
  · obtain rfl : j = k := by omega
    exact Int.le_refl _

theorem best_up_no {k : Nat} {o : Option Nat} (h : IsBest l m 0 k o) (h1 : roomB l m k = false ∨ ∃ j, o = some j ∧ lessB l k j = false) : IsBest l m 0 (k + 1) o := by
  cases o with
  | none =>
    intro j _ hj
    rcases Nat.lt_or_ge j k with hlt | hge
    · exact h j (Nat.zero_le _) hlt
    · obtain rfl : j = k := by omega
      rcases h1 with h1 | ⟨_, e, _⟩
      · exact h1
      · cases e
  | some i =>
    obtain ⟨⟨_, hi, hri⟩, hb⟩ := h
    refine ⟨⟨Nat.zero_le _, by omega, hri⟩, fun j _ hj hr => ?_⟩
    rcases Nat.lt_or_ge j k with hlt | hge
    · exact hb j (Nat.zero_le _) hlt hr
    · obtain rfl : j = k := by omega
      refine ⟨fun _ => by omega, fun _ => ?_⟩
      rcases h1 with h1 | ⟨q, e, h1⟩
      · rw [h1] at hr; cases hr
      · injection e with e
        subst e
        have := of_decide_eq_false h1
        omega

theorem best_least (hw : RoomW l m) : ∀ k, IsBest l m 0 k (leastTo l m k)
  | 0 => fun _ _ h => by omega
  | k + 1 => by
    have ih := best_least hw k
    unfold leastTo
    cases h1 : roomB l m k
    · rw [Bool.false_and, if_neg Bool.false_ne_true]
      exact best_up_no ih (.inl h1)
    · rw [Bool.true_and]
      cases h2 : leastTo l m k with
      | none =>
        rw [h2] at ih
        rw [if_pos rfl]
        exact best_up_yes hw ih h1 (fun j e => by cases e)
      | some i =>
        rw [h2] at ih
        show IsBest l m 0 (k + 1) (if lessB l k i = true then some k else some i)
        by_cases h3 : lessB l k i = true
        · rw [if_pos h3]
          exact best_up_yes hw ih h1 (fun j e => by injection e with e; subst e; exact h3)
        · rw [if_neg h3]
          exact best_up_no ih (.inr ⟨i, rfl, by simpa using h3⟩)

theorem best_down_yes (hw : RoomW l m) {k n : Nat} {o : Option Nat} (hk : k < n) (h : IsBest l m (k + 1) n o) (h1 : roomB l m k = true) (h2 : ∀ j, o = some j → lessB l j k = false) : IsBest l m k n (some k) := by
  refine ⟨⟨Nat.le_refl _, hk, h1⟩, fun j hj hjn hr => ⟨fun hlt => by omega, fun hge => ?_⟩⟩
  by_cases hjk : j = k
  · subst hjk; exact Int.le_refl _
  · cases o with
    | none =>
      have := h j (by omega) hjn
      rw [this] at hr
      cases hr
    | some i =>
      have h3 := of_decide_eq_false (h2 i rfl)
      obtain ⟨⟨_, hi, hri⟩, hb⟩ := h
      have h4 := hb j (by omega) hjn hr
      refine cross_le (hw k h1) (hw i hri) (hw j hr) (a2 := (l.getD i ld0).2.2) (by omega) ?_
      rcases Nat.lt_or_ge j i with hji | hji
      · exact Int.le_of_lt (h4.1 hji)
      · exact h4.2 hji

theorem best_down_no {k n : Nat} {o : Option Nat} (h : IsBest l m (k + 1) n o) (h1 : roomB l m k = false ∨ ∃ j, o = some j ∧ lessB l j k = true) : IsBest l m k n o := by
  cases o with
  | none =>
    intro j hj hjn
    by_cases hjk : j = k
    · subst hjk
      rcases h1 with h1 | ⟨_, e, _⟩
      · exact h1
      · cases e
    · exact h j (by omega) hjn
  | some i =>
    obtain ⟨⟨hki, hi, hri⟩, hb⟩ := h
    refine ⟨⟨by omega, hi, hri⟩, fun j hj hjn hr => ?_⟩
    by_cases hjk : j = k
    · subst hjk
      rcases h1 with h1 | ⟨q, e, h1⟩
      · rw [h1] at hr; cases hr
      · injection e with e
        subst e
        exact ⟨fun _ => of_decide_eq_true h1, fun _ => by omega⟩
    · exact hb j (by omega) hjn hr

theorem best_one {lo hi : Nat} {o o' : Option Nat} (h : IsBest l m lo hi o) (h' : IsBest l m lo hi o') : o = o' := by
  cases o with
  | none =>
    cases o' with
    | none => rfl
    | some j =>
      obtain ⟨⟨a1, a2, a3⟩, _⟩ := h'
      rw [h j a1 a2] at a3
      cases a3
  | some i =>
    obtain ⟨⟨b1, b2, b3⟩, hb⟩ := h
    cases o' with
    | none => rw [h' i b1 b2] at b3; cases b3
    | some j =>
      obtain ⟨⟨a1, a2, a3⟩, ha⟩ := h'
      have e1 := hb j a1 a2 a3
      have e2 := ha i b1 b2 b3
      rcases Nat.lt_trichotomy i j with hlt | rfl | hlt
      · have := e1.2 (by omega); have := e2.1 hlt; omega
      · rfl
      · have := e1.1 hlt; have := e2.2 (by omega); omega

end

/-- Whose place is chosen. -/
def chosen (l : List Ld) (m : List Int) (ws : List Int) (t : Nat) : Option Nat := match alongV l m ws t with
  | some i => some i
  | none => leastTo l m l.length

def chosenOut (l : List Ld) (o : Option Nat) : Int × Int := match o with
  | some i => ((l.getD i ld0).1, 0)
  | none => (0, 9)

/-- What Pick answers. -/
def pickOut (ws : List Int) (l : List Ld) (a b c t : Int) : Int × Int :=
  if lokB l then if Fac a b c then
    if 0 ≤ t ∧ t ≤ 12 ∧ ws.length ≤ 12 then
      if l.any takesB then chosenOut l (chosen l (capsL a b c l) ws t.toNat) else (0, 11)
    else (0, 2)
  else (0, 2) else (0, 6)

theorem caps_at (a b c : Int) (l : List Ld) (i : Nat) : (capsL a b c l).getD i 0 = if h : i < l.length then capE a b c (tot l) l[i] else 0 := by
  unfold capsL
  split
  case isTrue h => simp [h]
  case isFalse h => simp [List.getElem?_eq_none (Nat.le_of_not_lt h)]

theorem roomW {a b c : Int} {l : List Ld} (hok : LOk l) : RoomW l (capsL a b c l) := by
  intro j hj
  have h1 := of_decide_eq_true hj
  rw [caps_at] at h1
  split at h1
  case isTrue h =>
    have hd := okFrom_all hok.2 l[j] (List.getElem_mem h)
    have hg : l.getD j ld0 = l[j] := by simp [h]
    rw [hg] at h1 ⊢
    unfold capE at h1
    split at h1
    case isTrue h0 => have := hd.2.1; omega
    case isFalse h0 => have := hd.1.1; omega
  case isFalse h =>
    have hg : l.getD j ld0 = ld0 := by simp [List.getElem?_eq_none (Nat.le_of_not_lt h)]
    rw [hg] at h1
    simp [ld0] at h1

theorem along_at {l : List Ld} {m ws : List Int} {t : Nat} {i : Nat} (h : leastTo l m l.length = some i) (hw : RoomW l m) : i < l.length ∧ roomB l m i = true := by
  have := best_least hw l.length
  rw [h] at this
  exact ⟨this.1.2.1, this.1.2.2⟩
end Go.Proofs.Ytjkiahdeaeiopaa.Walks
