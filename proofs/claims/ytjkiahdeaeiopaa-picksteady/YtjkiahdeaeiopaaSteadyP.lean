/-
  A backend that takes nothing changes nothing: plain. No condition.
-/
import Derived.Test.YtjkiahdeaeiopaaKeepP
import Derived.WalkKit
import Derived.ProofKit
import Derived.Handy
import Derived.LoopTactic
import Derived.Below
import Derived.Laws.BitsAllLaws
import Derived.RegionTactic
import Derived.Deep.RegionHeld3
import Derived.Deep.DrawnRows
import Derived.Deep.AppendLies
import Derived.Laws.OwnMore
import Derived.Deep.Onto
import Derived.Deep.QuietTactic
import Derived.BigQuiet
namespace Go.Proofs.Ytjkiahdeaeiopaa.Walks
open Go.RowKit
set_option linter.unusedVariables false
set_option linter.unusedSimpArgs false
attribute [local go_sem ↓] Go.wp_at_zero Go.wp_at_succ

/-- The idle one. -/
abbrev idleX : Ld := (11, 0, 3)

theorem okFrom_snoc : ∀ {l : List Ld} {n : Int} {x : Ld}, okFrom n l → (∀ y ∈ l, y.1 < x.1) → n ≤ x.1 → x.1 < 12 → LdOk x → okFrom n (l ++ [x])
  | [], n, x, _, _, h1, h2, h3 => okFrom_cons.2 ⟨⟨h1, h2, h3⟩, rfl⟩
  | y :: l, n, x, h, hy, h1, h2, h3 => by
    obtain ⟨h4, h5⟩ := okFrom_cons.1 h
    refine okFrom_cons.2 ⟨h4, okFrom_snoc h5 (fun z hz => hy z (List.mem_cons_of_mem _ hz)) ?_ h2 h3⟩
    have := hy y (List.mem_cons_self ..)
    omega

theorem find_snoc {q : Ld → Bool} {x : Ld} (hx : q x = false) : ∀ l : List Ld, find q (l ++ [x]) = find q l
  | [] => by simp [find, hx]
  | y :: l => by
    have ih := find_snoc hx l
    rw [List.cons_append]
    unfold find
    rw [ih]

theorem mine_idle (b : Int) : mineB b idleX = false := by
  unfold mineB
  simp

theorem caps_idle (a b c : Int) (l : List Ld) : capsL a b c (l ++ [idleX]) = capsL a b c l ++ [0] := by
  have e : tot (l ++ [idleX]) = tot l := by rw [tot_snoc]; simp
  unfold capsL
  rw [e, List.map_append]
  rfl

theorem getD_snoc {α : Type} (l : List α) (x d : α) (i : Nat) (h : i < l.length) : (l ++ [x]).getD i d = l.getD i d := by
  simp [List.getElem?_append_left h]

theorem room_idle {l : List Ld} {m : List Int} (hml : m.length = l.length) (i : Nat) : roomB (l ++ [idleX]) (m ++ [0]) i = roomB l m i := by
  unfold roomB
  by_cases h : i < l.length
  · rw [getD_snoc _ _ _ _ h, getD_snoc _ _ _ _ (by omega)]
  · have e1 : l.getD i ld0 = ld0 := by simp [List.getElem?_eq_none (Nat.le_of_not_lt h)]
    have e2 : m.getD i 0 = 0 := by simp [List.getElem?_eq_none (show m.length ≤ i by omega)]
    rw [e1, e2]
    by_cases h2 : i = l.length
    · subst h2
      have e3 : (l ++ [idleX]).getD l.length ld0 = idleX := by simp
      have e4 : (m ++ [0]).getD l.length 0 = 0 := by rw [← hml]; simp
      rw [e3, e4]
      rfl
    · have e3 : (l ++ [idleX]).getD i ld0 = ld0 := by rw [List.getD_eq_getElem?_getD, List.getElem?_eq_none (by simp; omega)]; rfl
      have e4 : (m ++ [0]).getD i 0 = 0 := by rw [List.getD_eq_getElem?_getD, List.getElem?_eq_none (by simp; omega)]; rfl
      rw [e3, e4]

theorem along_idle {l : List Ld} {m : List Int} (hml : m.length = l.length) : ∀ (ws : List Int) (t : Nat), alongV (l ++ [idleX]) (m ++ [0]) ws t = alongV l m ws t
  | [], _ => rfl
  | b :: ws, t => by
    unfold alongV
    rw [find_snoc (mine_idle b)]
    cases find (mineB b) l with
    | none => exact along_idle hml ws t
    | some i =>
      simp only
      rw [room_idle hml, along_idle hml ws (t - 1)]

theorem along_wo {l : List Ld} {m : List Int} {n : Int} (hn : find (mineB n) l = none) : ∀ (ws : List Int) (t : Nat), alongV l m ws t = alongV l m (wo ws n) t
  | [], _ => rfl
  | b :: ws, t => by
    by_cases hb : b = n
    · subst hb
      have e : wo (b :: ws) b = wo ws b := by simp [wo]
      rw [e, alongV, hn]
      exact along_wo hn ws t
    · have e : wo (b :: ws) n = b :: wo ws n := by simp [wo, hb]
      rw [e]
      unfold alongV
      cases find (mineB b) l with
      | none => exact along_wo hn ws t
      | some i =>
        simp only
        rw [along_wo hn ws (t - 1)]

theorem least_idle {l : List Ld} {m : List Int} (hml : m.length = l.length) : ∀ k, k ≤ l.length → leastTo (l ++ [idleX]) (m ++ [0]) k = leastTo l m k
  | 0, _ => rfl
  | k + 1, hk => by
    have ih := least_idle hml k (by omega)
    cases hr : roomB l m k
    · rw [least_no hr, least_no (by rw [room_idle hml]; exact hr), ih]
    · have hr2 : roomB (l ++ [idleX]) (m ++ [0]) k = true := by rw [room_idle hml]; exact hr
      cases ho : leastTo l m k with
      | none => rw [least_first hr ho, least_first hr2 (by rw [ih]; exact ho)]
      | some j =>
        have hj := least_lt ho
        rw [least_more hr ho, least_more hr2 (by rw [ih]; exact ho)]
        unfold lessB
        rw [getD_snoc _ _ _ _ (show k < l.length by omega), getD_snoc _ _ _ _ (show j < l.length by omega)]

theorem idle_all {l : List Ld} {m : List Int} (hml : m.length = l.length) : leastTo (l ++ [idleX]) (m ++ [0]) (l ++ [idleX]).length = leastTo l m l.length := by
  rw [List.length_append, List.length_singleton, least_no, least_idle hml _ (Nat.le_refl _)]
  rw [room_idle hml]
  unfold roomB
  have e1 : l.getD l.length ld0 = ld0 := by simp
  have e2 : m.getD l.length 0 = 0 := by rw [← hml]; simp
  rw [e1, e2]
  rfl

theorem steady_out {l : List Ld} {a b f t : Int} {ws ms : List Int} (hok : LOk l) (hb : ∀ y ∈ l, y.1 < 11) (hl : l.length ≤ 11) (hf : Fac a b f) (ht : 0 ≤ t ∧ t ≤ 12) (hw : ws.length ≤ 12) (hm : ms.length ≤ 12) (hms : wo ms 11 = ws) (hfl : flw l ≤ f) :
    pickOut ms (l ++ [idleX]) a b f t = pickOut ws l a b f t ∧ (0 < tot l → (pickOut ws l a b f t).2 = 0) ∧ (¬ 0 < tot l → (pickOut ws l a b f t).2 = 11) := by
  have hok2 : LOk (l ++ [idleX]) := ⟨by simp; omega, okFrom_snoc hok.2 hb (by decide) (by decide) ⟨⟨by decide, by decide⟩, by decide, by decide⟩⟩
  have e : tot (l ++ [idleX]) = tot l := by rw [tot_snoc]; simp
  have hn : find (mineB 11) l = none := find_none fun y hy => by
    have := hb y hy
    unfold mineB
    rw [show (y.1 == 11) = false by rw [beq_eq_false_iff_ne]; omega]
    rfl
  have hml : (capsL a b f l).length = l.length := by simp [capsL]
  refine ⟨?_, fun h0 => ?_, fun h0 => ?_⟩
  · rw [pickOut_is hok2 hf ht hm, pickOut_is hok hf ht hw, e]
    by_cases h0 : 0 < tot l
    · rw [if_pos h0, if_pos h0]
      have hch : chosen (l ++ [idleX]) (capsL a b f (l ++ [idleX])) ms t.toNat = chosen l (capsL a b f l) ws t.toNat := by
        unfold chosen
        rw [caps_idle, along_idle hml, along_wo hn ms, hms, idle_all hml]
      obtain ⟨i, hi, hc, _⟩ := chosen_some hok hf h0 hfl ws t.toNat
      rw [hch, hc]
      unfold chosenOut
      simp only
      rw [getD_snoc _ _ _ _ hi]
    · rw [if_neg h0, if_neg h0]
  · obtain ⟨i, hi, hc, _⟩ := chosen_some hok hf h0 hfl ws t.toNat
    rw [pickOut_is hok hf ht hw, if_pos h0, hc]
    rfl
  · rw [pickOut_is hok hf ht hw, if_neg h0]

/-- The walk, with the idle one at a place. -/
def mTo (ws : List Int) (k : Nat) : Nat → List Int
  | 0 => []
  | j + 1 => (if j = k then mTo ws k j ++ [11] else mTo ws k j) ++ (if j < ws.length then [ws.getD j 0] else [])

theorem mTo_len (ws : List Int) (k : Nat) : ∀ j, (mTo ws k j).length = min j ws.length + if k < j then 1 else 0
  | 0 => by simp [mTo]
  | j + 1 => by
    have ih := mTo_len ws k j
    unfold mTo
    rw [List.length_append]
    by_cases h1 : j = k <;> by_cases h2 : j < ws.length
    · rw [if_pos h1, if_pos h2, List.length_append, ih, if_neg (by omega), if_pos (by omega), List.length_singleton, List.length_singleton]
      omega
    · rw [if_pos h1, if_neg h2, List.length_append, ih, if_neg (by omega), if_pos (by omega), List.length_singleton, List.length_nil]
      omega
    · rw [if_neg h1, if_pos h2, ih, List.length_singleton]
      split <;> split <;> omega
    · rw [if_neg h1, if_neg h2, ih, List.length_nil]
      split <;> split <;> omega

theorem wo_append (l m : List Int) (n : Int) : wo (l ++ m) n = wo l n ++ wo m n := by simp [wo]

theorem mTo_wo {ws : List Int} (hn : (11 : Int) ∉ ws) (k : Nat) : ∀ j, wo (mTo ws k j) 11 = ws.take j
  | 0 => by simp [mTo, wo]
  | j + 1 => by
    have ih := mTo_wo hn k j
    have h1 : wo (if j = k then mTo ws k j ++ [11] else mTo ws k j) 11 = ws.take j := by
      split
      · rw [wo_append, ih]; simp [wo]
      · exact ih
    unfold mTo
    rw [wo_append, h1]
    by_cases h2 : j < ws.length
    · rw [if_pos h2, List.take_succ_eq_append_getElem h2]
      congr 1
      have e : ws.getD j 0 = ws[j] := by simp [h2]
      rw [e]
      exact wo_all fun h => hn (by rw [List.mem_singleton] at h; rw [h]; exact List.getElem_mem h2)
    · rw [if_neg h2, List.take_of_length_le (by omega), List.take_of_length_le (by omega)]
      simp [wo]

theorem lcells_take : ∀ (l : List Ld) (k : Nat), (lcells l).take (k * 3) = lcells (l.take k)
  | [], k => by simp [lcells]
  | t :: l, 0 => by simp [lcells]
  | t :: l, k + 1 => by
    rw [show (k + 1) * 3 = k * 3 + 1 + 1 + 1 by omega]
    simp [lcells, lcells_take l k]

theorem LdAt.cut {w : World} {a : Option Addr} {n c : Nat} {l : List Ld} (h : LdAt w (.slice a n c) l) (k : Nat) (hk : k ≤ l.length) : LdAt w (.slice a k c) (l.take k) := by
  obtain ⟨a', cap, hv, hc, hm, h⟩ := h
  injection hv with h1 h2 h3
  subst h1 h2 h3
  have hl : (l.take k).length = k := by rw [List.length_take]; omega
  unfold LdAt
  rw [hl]
  refine ⟨a, c, rfl, by omega, hm, ?_⟩
  rcases h with ⟨h0, _⟩ | ⟨b, off, rfl, hb, hcell⟩
  · exact .inl ⟨by omega, by rw [show k = 0 by omega]; simp [lcells]⟩
  · refine .inr ⟨b, off, rfl, hb, fun i hi => ?_⟩
    rw [← lcells_take] at hi ⊢
    rw [List.length_take] at hi
    rw [hcell i (by omega), List.getElem?_take_of_lt (by omega)]

/-- The loads that are taken here: eleven at most. -/
theorem cut_parts (raw : List Tm) : LOk ((partsL raw).take 11) ∧ (∀ y ∈ (partsL raw).take 11, y.1 < 11) ∧ ((partsL raw).take 11).length ≤ 11 ∧ flw ((partsL raw).take 11) ≤ flw (partsL raw) := by
  have hc : cutK raw ≤ 12 := Nat.min_le_right _ _
  have e : (partsL raw).take 11 = plTo raw (min 11 (cutK raw)) := by
    unfold partsL plTo
    rw [← List.map_take, List.take_range]
  rw [e]
  refine ⟨plTo_ok raw _ (by omega), fun y hy => ?_, by rw [plTo_len]; omega, ?_⟩
  · obtain ⟨i, hi, rfl⟩ := List.mem_map.1 hy
    have := List.mem_range.1 hi
    show ((i : Nat) : Int) < 11
    omega
  · unfold partsL
    by_cases h : cutK raw = 12
    · rw [h, show min 11 12 = 11 by decide, plTo_succ raw 11, flw_snoc]
      have h2 := (pl_ok raw 11).2.1
      split <;> omega
    · rw [Nat.min_eq_right (by omega)]
      exact Int.le_refl _
end Go.Proofs.Ytjkiahdeaeiopaa.Walks
