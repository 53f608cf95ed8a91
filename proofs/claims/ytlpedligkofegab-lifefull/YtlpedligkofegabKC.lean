/-
  A backend's whole life: plain mathematics.
-/
import Derived.Test.YtlpedligkofegabKO
import Derived.WalkKit
import Derived.ProofKit
import Derived.Handy
import Derived.LoopTactic
import Derived.Below
import Derived.Laws.BitsAllLaws
import Derived.RegionTactic
import Derived.Deep.RegionHeld3
import Derived.Deep.DrawnRows
import Derived.Deep.AppendLies
import Derived.Laws.OwnMore
import Derived.Deep.Onto
import Derived.Deep.QuietTactic
import Derived.BigQuiet
namespace Go.Proofs.Ytlpedligkofegab.Walks
open Go.RowKit
set_option linter.unusedVariables false
set_option linter.unusedSimpArgs false
attribute [local go_sem ↓] Go.wp_at_zero Go.wp_at_succ

theorem at_mem {L : List Lf} (hr : L.Pairwise (fun a b => a.1 < b.1)) {x : Lf} (hx : x ∈ L) {n : Int} (hn : x.1 = n) : ∃ h : here L n = true, L[pos L n]'(here_lt h) = x := by
  obtain ⟨i, hi, rfl⟩ := List.getElem_of_mem hx
  have hm := here_mem hr hi
  rw [hn] at hm
  refine ⟨hm.1, ?_⟩
  simp only [hm.2]

theorem here_no {L : List Lf} {n : Int} (h : ∀ x ∈ L, x.1 ≠ n) : here L n = false := by
  cases hh : here L n
  · rfl
  · exact absurd (here_is hh) (h _ (List.getElem_mem _))

theorem retire_absent {L : List Lf} {n id u : Int} (h : ∀ x ∈ L, x.1 ≠ n) : retireO L n id u = (L, 8) := by
  unfold retireO
  rw [here_no h]
  rfl

theorem join_absent {L : List Lf} {n w : Int} (h : ∀ x ∈ L, x.1 ≠ n) (hn : 0 ≤ n ∧ n ≤ 11) (hw : 1 ≤ w ∧ w ≤ 8) : (joinO L n w).2 = 0 ∧ (n, 1, w, 0, 0, 0) ∈ (joinO L n w).1 := by
  unfold joinO
  rw [if_neg (by omega), here_no h, if_neg (by decide)]
  refine ⟨rfl, ?_⟩
  unfold insAt
  simp

theorem join_busy {L : List Lf} (hr : L.Pairwise (fun a b => a.1 < b.1)) {x : Lf} (hx : x ∈ L) {n w : Int} (hxn : x.1 = n) (hs : x.2.1 ≠ 4) (hn : 0 ≤ n ∧ n ≤ 11) (hw : 1 ≤ w ∧ w ≤ 8) : joinO L n w = (L, 7) := by
  obtain ⟨hh, ha⟩ := at_mem hr hx hxn
  unfold joinO
  rw [if_neg (by omega), if_pos hh, getD_at hh, ha, if_neg hs]

theorem join_retired {L : List Lf} (hr : L.Pairwise (fun a b => a.1 < b.1)) {x : Lf} (hx : x ∈ L) {n w : Int} (hxn : x.1 = n) (hs : x.2.1 = 4) (hn : 0 ≤ n ∧ n ≤ 11) (hw : 1 ≤ w ∧ w ≤ 8) : (joinO L n w).2 = 0 := by
  obtain ⟨hh, ha⟩ := at_mem hr hx hxn
  unfold joinO
  rw [if_neg (by omega), if_pos hh, getD_at hh, ha, if_pos hs]

theorem mem_set_new {L : List Lf} {i : Nat} (hi : i < L.length) (y : Lf) : y ∈ L.set i y := by
  have := List.getElem_mem (l := L.set i y) (n := i) (by rw [List.length_set]; exact hi)
  rwa [List.getElem_set_self] at this

theorem retire_active {L : List Lf} (hr : L.Pairwise (fun a b => a.1 < b.1)) {x : Lf} (hx : x ∈ L) {n id u : Int} (hxn : x.1 = n) (hs : x.2.1 = 2) : (retireO L n id u).2 = 0 ∧ goes x u id ∈ (retireO L n id u).1 := by
  obtain ⟨hh, ha⟩ := at_mem hr hx hxn
  unfold retireO
  rw [if_pos hh, getD_at hh, ha, if_neg (by rw [hs]; decide), if_neg (by rw [hs]; decide)]
  exact ⟨rfl, mem_set_new (here_lt hh) _⟩

theorem retire_draining {L : List Lf} (hr : L.Pairwise (fun a b => a.1 < b.1)) {x : Lf} (hx : x ∈ L) {n id u : Int} (hxn : x.1 = n) (hs : x.2.1 = 3) : retireO L n id u = (L, 12) := by
  obtain ⟨hh, ha⟩ := at_mem hr hx hxn
  unfold retireO
  rw [if_pos hh, getD_at hh, ha, if_neg (by rw [hs]; decide), if_pos hs]

theorem fin_is {L : List Lf} {R : List Rq} (hb : BkOk L R) {x : Lf} (hx : x ∈ L) {n : Int} (hxn : x.1 = n) (hs : x.2.1 = 3) : ∃ L', finO L R n = ((L', R), 0) ∧ ends x ∈ L' ∧ BkOk L' R := by
  obtain ⟨hh, ha⟩ := at_mem hb.1.2.2 hx hxn
  refine ⟨L.set (pos L n) (ends x), ?_, mem_set_new (here_lt hh) _, ?_⟩
  · unfold finO
    rw [if_pos hb, getD_at hh, ha, if_pos ⟨hh, hs⟩]
  · have hl := ls_set hb.1.2 (here_lt hh) (y := ends x) (by rw [ha]; rfl) ⟨(hb.1.2.1 x hx).1, .inr (.inr (.inr rfl))⟩
    exact ⟨⟨ls_len hl, hl⟩, hb.2⟩

/-- One new request more. -/
theorem ask_step {L : List Lf} {R : List Rq} {k id : Int} (hb : BkOk L R) (hR : (R.length : Int) < k) (hk : k ≤ 90) (hids : ∀ r ∈ R, r.1 < id) {kd n w now : Int} (hid : 0 ≤ id ∧ id ≤ 1000) (hkd : kd = 1 ∨ kd = 2) (hnow : 0 ≤ now ∧ now ≤ 1000000) :
    ∃ L' R' a, askO L R (id, kd, n, w, 0) now 9 = ((L', R'), a, true, 0) ∧ BkOk L' R' ∧ (R'.length : Int) < k + 1 ∧ (∀ r ∈ R', r.1 < id + 1) ∧ (kd = 1 → L' = (joinO L n w).1 ∧ a = (joinO L n w).2) ∧ (kd = 2 → L' = (retireO L n id (now + 9)).1 ∧ a = (retireO L n id (now + 9)).2) := by
  have hrq : RqOk (id, kd, n, w, 0) := ⟨⟨hid.1, by show id ≤ 1048576; omega⟩, hkd⟩
  have hask : AskOk (id, kd, n, w, 0) now 9 := ⟨hrq, ⟨hnow.1, by omega⟩, by decide⟩
  have hne : ∀ q ∈ R, q.1 ≠ ((id, kd, n, w, (0 : Int)) : Rq).1 := fun q hq e => by have := hids q hq; have e : q.1 = id := e; omega
  obtain ⟨t1, t2, t3, _⟩ := take_is hb (by omega) hrq hne (u := now + 9) (by omega)
  refine ⟨_, _, _, ask_new hb (by omega) hask hne, t1, by rw [t2]; omega, fun r hr => ?_, fun e => ?_, fun e => ?_⟩
  · rcases t3 r hr with h | h
    · have := hids r h; omega
    · have h : r.1 = id := h; omega
  · subst e; exact ⟨rfl, rfl⟩
  · subst e; exact ⟨rfl, rfl⟩

/-- A backend's life, from request to request. -/
theorem cycle_plain {L : List Lf} {R : List Rq} {now : Int} {k : Nat} (h : AInv L R now k) (hk : k ≤ 30) {n w t : Int} (hn : 5 ≤ n ∧ n ≤ 9) (hw : 1 ≤ w ∧ w ≤ 8) (ht : 0 ≤ t ∧ t ≤ 1000) :
    ∃ L1 R1 L2 R2 L3 R3 L4 s4 L6 R6 L8 R8 L9 L11 R11,
      askO L R (101, 2, n, 0, 0) t 9 = ((L1, R1), 8, true, 0) ∧
      askO L1 R1 (102, 1, n, w, 0) t 9 = ((L2, R2), 0, true, 0) ∧
      askO L2 R2 (103, 1, n, w, 0) t 9 = ((L3, R3), 7, true, 0) ∧
      wakeO L3 R3 (t + 1) = ((L4, R3), s4, 0) ∧
      ofO L4 R3 n = ((n, 2, w, t + 1, 0, 0), 0) ∧
      askO L4 R3 (104, 2, n, 0, 0) (t + 2) 9 = ((L6, R6), 0, true, 0) ∧
      ofO L6 R6 n = ((n, 3, w, t + 1, t + 2 + 9, 104), 0) ∧
      askO L6 R6 (105, 2, n, 0, 0) (t + 2) 9 = ((L8, R8), 12, true, 0) ∧
      finO L8 R8 n = ((L9, R8), 0) ∧
      ofO L9 R8 n = ((n, 4, w, t + 1, t + 2 + 9, 104), 0) ∧
      askO L9 R8 (106, 1, n, w, 0) (t + 3) 9 = ((L11, R11), 0, true, 0) := by
  have hlen := h.len
  have habs : ∀ x ∈ L, x.1 ≠ n := fun x hx e => by have := (h.lives x hx).1; omega
  obtain ⟨L1, R1, a1, e1, b1, l1, i1, _, j1⟩ := ask_step (k := 31) (id := 101) (kd := 2) (n := n) (w := 0) (now := t) h.ok (by omega) (by omega) (fun r hr => by have := h.ids r hr; omega) (by omega) (.inr rfl) (by omega)
  obtain ⟨j1, j1'⟩ := j1 rfl
  rw [retire_absent habs] at j1 j1'
  subst j1 j1'
  obtain ⟨L2, R2, a2, e2, b2, l2, i2, j2, _⟩ := ask_step (k := 32) (id := 102) (kd := 1) (n := n) (w := w) (now := t) b1 l1 (by omega) i1 (by omega) (.inl rfl) (by omega)
  obtain ⟨j2, j2'⟩ := j2 rfl
  obtain ⟨k2, m2⟩ := join_absent habs (w := w) (by omega) hw
  rw [← j2] at m2
  have j2' : a2 = 0 := j2'.trans k2
  subst j2'
  obtain ⟨L3, R3, a3, e3, b3, l3, i3, j3, _⟩ := ask_step (k := 33) (id := 103) (kd := 1) (n := n) (w := w) (now := t) b2 l2 (by omega) i2 (by omega) (.inl rfl) (by omega)
  obtain ⟨j3, j3'⟩ := j3 rfl
  rw [join_busy b2.1.2.2 m2 rfl (show ¬ (1 : Int) = 4 by decide) (by omega) hw] at j3 j3'
  subst j3 j3'
  have w4 := wake_is b3 (now := t + 1) (by omega)
  have b4 := wake_ok b3 (now := t + 1) (by omega)
  have m4 : (n, 2, w, t + 1, 0, 0) ∈ L3.map (wakes (t + 1)) := List.mem_map.2 ⟨_, m2, if_pos rfl⟩
  obtain ⟨L4, hL4⟩ : ∃ L4, L4 = L3.map (wakes (t + 1)) := ⟨_, rfl⟩
  rw [← hL4] at w4 b4 m4
  have o4 := of_mem b4 m4 rfl
  obtain ⟨L6, R6, a6, e6, b6, l6, i6, _, j6⟩ := ask_step (k := 34) (id := 104) (kd := 2) (n := n) (w := 0) (now := t + 2) b4 l3 (by omega) i3 (by omega) (.inr rfl) (by omega)
  obtain ⟨j6, j6'⟩ := j6 rfl
  obtain ⟨k6, m6⟩ := retire_active b4.1.2.2 m4 (n := n) (id := 104) (u := t + 2 + 9) rfl rfl
  rw [← j6] at m6
  have j6' : a6 = 0 := j6'.trans k6
  subst j6'
  have m6 : (n, 3, w, t + 1, t + 2 + 9, 104) ∈ L6 := m6
  have o6 := of_mem b6 m6 rfl
  obtain ⟨L8, R8, a8, e8, b8, l8, i8, _, j8⟩ := ask_step (k := 35) (id := 105) (kd := 2) (n := n) (w := 0) (now := t + 2) b6 l6 (by omega) i6 (by omega) (.inr rfl) (by omega)
  obtain ⟨j8, j8'⟩ := j8 rfl
  rw [retire_draining b6.1.2.2 m6 rfl rfl] at j8 j8'
  subst j8 j8'
  obtain ⟨L9, e9, m9, b9⟩ := fin_is b8 m6 rfl rfl
  have m9 : (n, 4, w, t + 1, t + 2 + 9, 104) ∈ L9 := m9
  have o9 := of_mem b9 m9 rfl
  obtain ⟨L11, R11, a11, e11, b11, _, _, j11, _⟩ := ask_step (k := 36) (id := 106) (kd := 1) (n := n) (w := w) (now := t + 3) b9 l8 (by omega) i8 (by omega) (.inl rfl) (by omega)
  obtain ⟨_, j11'⟩ := j11 rfl
  rw [join_retired b9.1.2.2 m9 rfl rfl (by omega) hw] at j11'
  subst j11'
  exact ⟨_, _, _, _, _, _, _, _, _, _, _, _, _, _, _, e1, e2, e3, w4, o4, e6, o6, e8, e9, o9, e11⟩
end Go.Proofs.Ytlpedligkofegab.Walks
