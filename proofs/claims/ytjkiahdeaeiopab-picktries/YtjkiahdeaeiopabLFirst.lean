/-
  PickFirst: the first along the ring that takes something and has room is picked. No condition.
-/
import Derived.Test.YtjkiahdeaeiopabKeepP
import Derived.WalkKit
import Derived.ProofKit
import Derived.Handy
import Derived.LoopTactic
import Derived.Below
import Derived.Laws.BitsAllLaws
import Derived.RegionTactic
import Derived.Deep.RegionHeld3
import Derived.Deep.DrawnRows
import Derived.Deep.AppendLies
import Derived.Laws.OwnMore
import Derived.Deep.Onto
import Derived.Deep.QuietTactic
import Derived.BigQuiet
namespace Go.Proofs.Ytjkiahdeaeiopab.Walks
open Go.RowKit
set_option linter.unusedVariables false
set_option linter.unusedSimpArgs false
attribute [local go_sem ↓] Go.wp_at_zero Go.wp_at_succ

/-- The first one with room in the walk. -/
def alongF (l : List Ld) (m : List Int) : List Int → Option Nat
  | [] => none
  | b :: ws => match find (mineB b) l with
    | none => alongF l m ws
    | some i => if roomB l m i then some i else alongF l m ws

theorem along_free {l : List Ld} {m : List Int} : ∀ {ws : List Int} {t : Nat}, ws.length ≤ t → alongV l m ws t = alongF l m ws
  | [], _, _ => rfl
  | b :: ws, t, h => by
    have h1 : ws.length + 1 ≤ t := by simpa using h
    unfold alongV alongF
    cases find (mineB b) l with
    | none => exact along_free (by omega)
    | some i =>
      simp only
      rw [if_neg (by omega)]
      by_cases hr : roomB l m i = true
      · rw [if_pos hr, if_pos hr]
      · rw [if_neg hr, if_neg hr]
        exact along_free (by omega)

theorem not_mine {b : Int} {x : Ld} (h : isB b x = false) : mineB b x = false := by
  unfold isB at h
  unfold mineB
  rw [h]
  rfl

theorem mine_find {l : List Ld} (hok : LOk l) (b : Int) : ((loadV l b).1 < 0 ∧ find (mineB b) l = none) ∨ (0 ≤ (loadV l b).1 ∧ (loadV l b).2.1 = 0 ∧ find (mineB b) l = none) ∨
    ∃ i, ∃ hi : i < l.length, loadV l b = l[i] ∧ l[i].1 = b ∧ 0 ≤ b ∧ 0 < l[i].2.1 ∧ find (mineB b) l = some i := by
  cases h : find (isB b) l with
  | none =>
    refine .inl ⟨by unfold loadV; rw [h]; exact (by decide : (-1 : Int) < 0), find_none fun t ht => not_mine (find_not h t ht)⟩
  | some i =>
    obtain ⟨hi, hb⟩ := find_is h
    have hb' : l[i].1 = b := by simpa [isB] using hb
    have hl : loadV l b = l[i] := by rw [← hb']; exact load_own hok.2 hi
    have hr := (rising hok.2).2 l[i] (List.getElem_mem hi)
    have hd := okFrom_all hok.2 l[i] (List.getElem_mem hi)
    have hp := List.pairwise_iff_getElem.1 (rising hok.2).1
    have huniq : ∀ j (hj : j < l.length), l[j].1 = b → j = i := fun j hj e => by
      rcases Nat.lt_trichotomy j i with h1 | h1 | h1
      · have := hp j i hj hi h1; omega
      · exact h1
      · have := hp i j hi hj h1; omega
    rw [hl]
    by_cases h0 : l[i].2.1 = 0
    · refine .inr (.inl ⟨by omega, h0, find_none fun t ht => ?_⟩)
      obtain ⟨j, hj, rfl⟩ := List.getElem_of_mem ht
      cases hm : mineB b l[j] with
      | false => rfl
      | true =>
        unfold mineB at hm
        rw [Bool.and_eq_true] at hm
        obtain rfl := huniq j hj (by simpa using hm.1)
        have := hm.2
        rw [h0] at this
        cases this
    · refine .inr (.inr ⟨i, hi, rfl, hb', by omega, by have := hd.1.1; omega, ?_⟩)
      refine find_some hi (fun t ht => ?_) ?_
      · obtain ⟨j, hj, rfl⟩ := List.getElem_of_mem ht
        rw [List.length_take] at hj
        rw [List.getElem_take]
        cases hm : mineB b l[j] with
        | false => rfl
        | true =>
          unfold mineB at hm
          rw [Bool.and_eq_true] at hm
          have := huniq j (by omega) (by simpa using hm.1)
          omega
      · unfold mineB
        rw [hb']
        simpa using h0

theorem first_round {l : List Ld} {a b f : Int} (hok : LOk l) (hf : Fac a b f) {ws : List Int} {k : Nat} (hk : k < ws.length) :
    (((loadV l ws[k]).1 < 0 ∨ 0 ≤ (loadV l ws[k]).1 ∧ (loadV l ws[k]).2.1 = 0) ∧ alongF l (capsL a b f l) (ws.drop k) = alongF l (capsL a b f l) (ws.drop (k + 1))) ∨
    (0 ≤ (loadV l ws[k]).1 ∧ LdOk (loadV l ws[k]) ∧ 0 < (loadV l ws[k]).2.1 ∧ ∃ cp : Int, (∀ W, Calls Try.prog 19 #[.int .i64 a, .int .i64 b, .int .i64 f, .int .i64 (loadV l ws[k]).2.1, .int .i64 (tot l)] W fun r w' => r = .returned (.tuple #[.int .i64 cp, .int .i64 0]) ∧ w' = W) ∧ 1 ≤ cp ∧ cp ≤ 78720 ∧
      ((loadV l ws[k]).2.2 < cp ∧ (∃ i, ∃ hi : i < l.length, alongF l (capsL a b f l) (ws.drop k) = some i ∧ l[i].1 = ws[k]) ∨ ¬ (loadV l ws[k]).2.2 < cp ∧ alongF l (capsL a b f l) (ws.drop k) = alongF l (capsL a b f l) (ws.drop (k + 1)))) := by
  rw [List.drop_eq_getElem_cons hk]
  generalize ws[k] = x
  rcases mine_find hok x with ⟨h1, h2⟩ | ⟨h1, h2, h3⟩ | ⟨i, hi, h1, h2, h3, h4, h5⟩
  · exact .inl ⟨.inl h1, by rw [alongF, h2]⟩
  · exact .inl ⟨.inr ⟨h1, h2⟩, by rw [alongF, h3]⟩
  · right
    have hfi := fits_of hok hf (x := l[i]) (List.getElem_mem hi) (by omega)
    have hce : capE a b f (tot l) l[i] = capV a b f l[i].2.1 (tot l) := by unfold capE; rw [if_neg (by omega)]
    have hrm := room_caps (a := a) (b := b) (c := f) hi
    rw [hce] at hrm
    rw [h1]
    refine ⟨by omega, okFrom_all hok.2 l[i] (List.getElem_mem hi), h4, _, fun W => cap_ok _ _ _ _ _ W hfi, (capV_le hfi).2.2.1, (capV_le hfi).2.2.2, ?_⟩
    by_cases hr : l[i].2.2 < capV a b f l[i].2.1 (tot l)
    · refine .inl ⟨hr, i, hi, ?_, h2⟩
      rw [alongF, h5]
      simp only
      rw [hrm, if_pos (decide_eq_true hr)]
    · refine .inr ⟨hr, ?_⟩
      rw [alongF, h5]
      simp only
      rw [hrm, if_neg (by rw [decide_eq_false hr]; exact Bool.false_ne_true)]

theorem first_out {l : List Ld} {a b f : Int} (hok : LOk l) (hf : Fac a b f) {ws : List Int} (hw : ws.length ≤ 12) (h0 : 0 < tot l) (hfl : flw l ≤ f) : ∃ y1 : Int, pickOut ws l a b f 12 = (y1, 0) ∧ ∀ i (hi : i < l.length), alongF l (capsL a b f l) ws = some i → y1 = l[i].1 := by
  obtain ⟨i, hi, hc, _, _⟩ := chosen_some hok hf h0 hfl ws (12 : Int).toNat
  have ho : pickOut ws l a b f 12 = ((l.getD i ld0).1, 0) := by
    rw [pickOut_is hok hf (by omega) hw, if_pos h0, hc]
    rfl
  refine ⟨_, ho, fun j hj h => ?_⟩
  unfold chosen at hc
  rw [along_free (show ws.length ≤ (12 : Int).toNat from hw), h] at hc
  injection hc with hc
  subst hc
  simp [hj]

end Go.Proofs.Ytjkiahdeaeiopab.Walks
