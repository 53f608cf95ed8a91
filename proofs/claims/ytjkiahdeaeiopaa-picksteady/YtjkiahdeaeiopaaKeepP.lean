/-
  Somebody is picked: plain. And usherkeep's prologue in plain words. No condition.
-/
import Derived.Test.YtjkiahdeaeiopaaPick
import Derived.Test.YtjkiahdeaeiopaaParts
import Derived.Test.YtjkiahdeaeiopaaWalkOf
import Derived.WalkKit
import Derived.ProofKit
import Derived.Handy
import Derived.LoopTactic
import Derived.Below
import Derived.Laws.BitsAllLaws
import Derived.RegionTactic
import Derived.Deep.RegionHeld3
import Derived.Deep.DrawnRows
import Derived.Deep.AppendLies
import Derived.Laws.OwnMore
import Derived.Deep.Onto
import Derived.Deep.QuietTactic
import Derived.BigQuiet
namespace Go.Proofs.Ytjkiahdeaeiopaa.Walks
open Go.RowKit
set_option linter.unusedVariables false
set_option linter.unusedSimpArgs false
attribute [local go_sem ↓] Go.wp_at_zero Go.wp_at_succ

theorem caps_sum (a b c t : Int) : ∀ l : List Ld, (∀ x ∈ l, LdOk x) → (∀ x ∈ l, x.2.1 ≠ 0 → Fits a b c x.2.1 t) → a * (c + 1) * tot l ≤ (l.map (capE a b c t)).sum * (b * t)
  | [], _, _ => by simp [tot]
  | x :: l, h, hf => by
    have ih := caps_sum a b c t l (fun y hy => h y (List.mem_cons_of_mem _ hy)) (fun y hy => hf y (List.mem_cons_of_mem _ hy))
    have e1 : tot (x :: l) = x.2.1 + tot l := by simp [tot]
    have e2 : ((x :: l).map (capE a b c t)).sum = capE a b c t x + (l.map (capE a b c t)).sum := by simp
    rw [e1, e2, Int.mul_add, Int.add_mul]
    have h1 : a * (c + 1) * x.2.1 ≤ capE a b c t x * (b * t) := by
      unfold capE
      split
      case isTrue h0 => rw [h0]; simp
      case isFalse h0 => exact (capV_le (hf x (List.mem_cons_self ..) h0)).1
    omega

theorem caps_enough {l : List Ld} {a b c : Int} (hok : LOk l) (hf : Fac a b c) (h0 : 0 < tot l) : c + 1 ≤ (capsL a b c l).sum := by
  have hall := okFrom_all hok.2
  have hbd := tot_bd l hall
  have h := caps_sum a b c (tot l) l hall fun x hx hx0 => fits_of hok hf hx hx0
  unfold capsL
  generalize (l.map (capE a b c (tot l))).sum = u at *
  generalize tot l = t at *
  obtain ⟨⟨h1, h2, h3⟩, h4, h5⟩ := hf
  have m1 : b * (c + 1) ≤ a * (c + 1) := Int.mul_le_mul_of_nonneg_right h2 (by omega)
  have m2 : b * (c + 1) * t ≤ a * (c + 1) * t := Int.mul_le_mul_of_nonneg_right m1 (by omega)
  have m3 : (c + 1) * (b * t) ≤ u * (b * t) := by
    have e : b * (c + 1) * t = (c + 1) * (b * t) := by rw [Int.mul_comm b (c + 1), Int.mul_assoc]
    rw [← e]
    omega
  exact Int.le_of_mul_le_mul_right m3 (Int.mul_pos (by omega) (by omega))

theorem caps_le (a b c t : Int) : ∀ l : List Ld, (∀ x ∈ l, capE a b c t x ≤ if 0 < x.2.1 then x.2.2 else 0) → (l.map (capE a b c t)).sum ≤ flw l
  | [], _ => by simp [flw]
  | x :: l, h => by
    have ih := caps_le a b c t l fun y hy => h y (List.mem_cons_of_mem _ hy)
    have h1 := h x (List.mem_cons_self ..)
    have e2 : ((x :: l).map (capE a b c t)).sum = capE a b c t x + (l.map (capE a b c t)).sum := by simp
    have e3 : flw (x :: l) = (if 0 < x.2.1 then x.2.2 else 0) + flw l := by simp [flw]
    rw [e2, e3]
    omega

theorem room_caps {l : List Ld} {a b c : Int} {i : Nat} (hi : i < l.length) : roomB l (capsL a b c l) i = decide (l[i].2.2 < capE a b c (tot l) l[i]) := by
  unfold roomB
  rw [caps_at, dif_pos hi]
  simp [hi]

theorem some_room {l : List Ld} {a b c : Int} (hok : LOk l) (hf : Fac a b c) (h0 : 0 < tot l) (hfl : flw l ≤ c) : ∃ i, i < l.length ∧ roomB l (capsL a b c l) i = true := by
  refine Classical.byContradiction fun hn => ?_
  have h1 := caps_enough hok hf h0
  have h2 := caps_le a b c (tot l) l fun x hx => by
    obtain ⟨i, hi, rfl⟩ := List.getElem_of_mem hx
    have hd := okFrom_all hok.2 l[i] hx
    have hr : ¬ (l[i].2.2 < capE a b c (tot l) l[i]) := fun h => hn ⟨i, hi, by rw [room_caps hi]; exact decide_eq_true h⟩
    have hw := hd.1.1
    split
    case isTrue => omega
    case isFalse h =>
      have : l[i].2.1 = 0 := by omega
      unfold capE
      rw [if_pos this]
      exact Int.le_refl _
  unfold capsL at h1
  omega

theorem chosen_some {l : List Ld} {a b c : Int} (hok : LOk l) (hf : Fac a b c) (h0 : 0 < tot l) (hfl : flw l ≤ c) (ws : List Int) (t : Nat) :
    ∃ i, ∃ hi : i < l.length, chosen l (capsL a b c l) ws t = some i ∧ l[i].2.2 < capE a b c (tot l) l[i] ∧ 0 < l[i].2.1 := by
  obtain ⟨j, hj, hrj⟩ := some_room hok hf h0 hfl
  have hw := roomW (a := a) (b := b) (c := c) hok
  have key : ∀ i, i < l.length → roomB l (capsL a b c l) i = true → ∃ hi : i < l.length, l[i].2.2 < capE a b c (tot l) l[i] ∧ 0 < l[i].2.1 := fun i hi hr => by
    have h1 := hw i hr
    rw [room_caps hi] at hr
    exact ⟨hi, of_decide_eq_true hr, by simpa [hi] using h1⟩
  unfold chosen
  cases ha : alongV l (capsL a b c l) ws t with
  | some i =>
    obtain ⟨h1, h2, _⟩ := along_room ha
    obtain ⟨h3, h4⟩ := key i h1 h2
    exact ⟨i, h3, rfl, h4⟩
  | none =>
    have hb := best_least hw l.length
    cases hl : leastTo l (capsL a b c l) l.length with
    | none =>
      rw [hl] at hb
      rw [hb j (Nat.zero_le _) hj] at hrj
      cases hrj
    | some i =>
      obtain ⟨h1, h2⟩ := least_at hw hl
      obtain ⟨h3, h4⟩ := key i h1 h2
      exact ⟨i, h3, rfl, h4⟩

theorem any_iff {l : List Ld} (hok : ∀ x ∈ l, LdOk x) : l.any takesB = decide (0 < tot l) := by
  induction l with
  | nil => rfl
  | cons x l ih =>
    have h1 := ih fun y hy => hok y (List.mem_cons_of_mem _ hy)
    have h2 := tot_bd l fun y hy => hok y (List.mem_cons_of_mem _ hy)
    have h3 := (hok x (List.mem_cons_self ..)).1.1
    have e1 : tot (x :: l) = x.2.1 + tot l := by simp [tot]
    rw [List.any_cons, h1, e1]
    unfold takesB
    by_cases h0 : x.2.1 = 0
    · rw [h0]; simp
    · have h4 : 0 < x.2.1 := by omega
      have h5 : 0 < x.2.1 + tot l := by omega
      simp [h0, h5]

theorem pickOut_is {ws : List Int} {l : List Ld} {a b c t : Int} (hok : LOk l) (hf : Fac a b c) (ht : 0 ≤ t ∧ t ≤ 12) (hw : ws.length ≤ 12) :
    pickOut ws l a b c t = if 0 < tot l then chosenOut l (chosen l (capsL a b c l) ws t.toNat) else (0, 11) := by
  unfold pickOut
  rw [if_pos (lokB_iff.2 hok), if_pos hf, if_pos ⟨ht.1, ht.2, hw⟩, any_iff (okFrom_all hok.2)]
  by_cases h : 0 < tot l <;> simp [h]

theorem rising : ∀ {l : List Ld} {n : Int}, okFrom n l → l.Pairwise (fun a b => a.1 < b.1) ∧ ∀ x ∈ l, n ≤ x.1 ∧ x.1 < 12
  | [], _, _ => ⟨List.Pairwise.nil, by simp⟩
  | x :: l, n, h => by
    obtain ⟨⟨h1, h2, _⟩, h3⟩ := okFrom_cons.1 h
    obtain ⟨h4, h5⟩ := rising h3
    refine ⟨List.pairwise_cons.2 ⟨fun y hy => by have := h5 y hy; omega, h4⟩, fun y hy => ?_⟩
    rcases List.mem_cons.1 hy with rfl | hy
    · exact ⟨h1, h2⟩
    · have := h5 y hy
      omega

theorem find_own {l : List Ld} {n : Int} (h : okFrom n l) {i : Nat} (hi : i < l.length) : find (isB l[i].1) l = some i := by
  refine find_some hi (fun t ht => ?_) (by simp [isB])
  obtain ⟨j, hj, rfl⟩ := List.getElem_of_mem ht
  rw [List.length_take] at hj
  rw [List.getElem_take]
  have := List.pairwise_iff_getElem.1 (rising h).1 j i (by omega) hi (by omega)
  unfold isB
  rw [beq_eq_false_iff_ne]
  omega

theorem load_own {l : List Ld} {n : Int} (h : okFrom n l) {i : Nat} (hi : i < l.length) : loadV l l[i].1 = l[i] := by
  unfold loadV
  rw [find_own h hi]
  simp [hi]

/-- The prologue of usherkeep's laws: flows that are said to be no less. -/
theorem said_flows (raw : List Tm) (k : Nat) : 0 ≤ flw (partsL raw) ∧ flw (partsL raw) ≤ 36 ∧ flw (partsL raw) ≤ min (min (flw (partsL raw)) 40 + (k : Int)) 40 := by
  have h := flw_bd raw (cutK raw)
  have h2 : cutK raw ≤ 12 := Nat.min_le_right _ _
  have e : flw (partsL raw) = flw (plTo raw (cutK raw)) := rfl
  rw [e]
  omega

/-- Somebody is picked, whose cap is known. -/
theorem picked_one {L : List Ld} {a b f t : Int} {ws : List Int} (hok : LOk L) (hf : Fac a b f) (ht : 0 ≤ t ∧ t ≤ 12) (hw : ws.length ≤ 12) (h0 : 0 < tot L) (hfl : flw L ≤ f) :
    ∃ y1 y2 y3 cp : Int, pickOut ws L a b f t = (y1, 0) ∧ loadV L y1 = (y1, y2, y3) ∧ LdOk (y1, y2, y3) ∧ 0 < y2 ∧ y3 < cp ∧ cp ≤ 78720 ∧ ∀ W, Calls Try.prog 19 #[.int .i64 a, .int .i64 b, .int .i64 f, .int .i64 y2, .int .i64 (tot L)] W fun r w' => r = .returned (.tuple #[.int .i64 cp, .int .i64 0]) ∧ w' = W := by
  obtain ⟨i, hi, hc, hr, hw0⟩ := chosen_some hok hf h0 hfl ws t.toNat
  have hfi := fits_of hok hf (x := L[i]) (List.getElem_mem hi) (by omega)
  have hce : capE a b f (tot L) L[i] = capV a b f L[i].2.1 (tot L) := by unfold capE; rw [if_neg (by omega)]
  rw [hce] at hr
  refine ⟨L[i].1, L[i].2.1, L[i].2.2, _, ?_, load_own hok.2 hi, okFrom_all hok.2 L[i] (List.getElem_mem hi), hw0, hr, (capV_le hfi).2.2.2, fun W => cap_ok _ _ _ _ _ W hfi⟩
  rw [pickOut_is hok hf ht hw, if_pos h0, hc]
  simp [chosenOut, hi]

theorem picked_none {L : List Ld} {a b f t : Int} {ws : List Int} (hok : LOk L) (hf : Fac a b f) (ht : 0 ≤ t ∧ t ≤ 12) (hw : ws.length ≤ 12) (h0 : ¬ 0 < tot L) : pickOut ws L a b f t = (0, 11) := by
  rw [pickOut_is hok hf ht hw, if_neg h0]
end Go.Proofs.Ytjkiahdeaeiopaa.Walks
