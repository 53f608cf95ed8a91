/-
  Plain mathematics of a table behind some acts: what holds of its slots and of the handles that were given. No condition.
-/
import Derived.Test.YthiojfgimjoenaaPut
import Derived.Test.YthiojfgimjoenaaMove
import Derived.Test.YthiojfgimjoenaaCounts
import Derived.WalkKit
import Derived.ProofKit
import Derived.Handy
import Derived.LoopTactic
import Derived.Below
import Derived.Laws.BitsAllLaws
import Derived.RegionTactic
import Derived.Deep.RegionHeld3
import Derived.Deep.DrawnRows
import Derived.Deep.AppendLies
import Derived.Laws.OwnMore
import Derived.Deep.Onto
import Derived.Deep.QuietTactic
import Derived.BigQuiet
namespace Go.Proofs.Ythiojfgimjoenaa.Walks
open Go.RowKit
set_option linter.unusedVariables false
set_option linter.unusedSimpArgs false
attribute [local go_sem ↓] Go.wp_at_zero Go.wp_at_succ

/-- A handle that was given, whether it is good, and its backend. -/
abbrev En := Tm × Bool × Int

def owns (b : Int) (e : En) : Bool := e.2.1 && (e.2.2 == b)

/-- What holds of one handle. -/
def EnOk (T : List Sl) (e : En) : Prop := ∃ (s : Nat) (t : Sl), e.1.1 = (s : Int) ∧ T[s]? = some t ∧ (e.2.1 = true → t.2.1 = true ∧ t.1 = e.1.2 ∧ t.2.2.2 = e.2.2) ∧ (e.2.1 = false → e.1.2 < t.1)

structure Inv (i : Nat) (T : List Sl) (E : List En) : Prop where
  ok : TabOk T
  gens : ∀ t ∈ T, t.1 ≤ i
  each : ∀ e ∈ E, EnOk T e
  once : (E.map (·.1)).Nodup
  cnt : ∀ b, T.countP (mineB b) = E.countP (owns b)
  few : E.length ≤ i

theorem Inv.mono {i j : Nat} {T : List Sl} {E : List En} (h : Inv i T E) (hij : i ≤ j) : Inv j T E :=
  ⟨h.ok, fun t ht => by have := h.gens t ht; omega, h.each, h.once, h.cnt, by have := h.few; omega⟩

theorem set_ok {T : List Sl} {s : Nat} {x : Sl} (h : TabOk T) (hx : SlotOk x) : TabOk (T.set s x) := by
  refine ⟨by simpa using h.1, fun t ht => ?_⟩
  rcases List.mem_or_eq_of_mem_set ht with h1 | h1
  · exact h.2 t h1
  · rw [h1]; exact hx

theorem set_gens {T : List Sl} {s i : Nat} {x : Sl} (h : ∀ t ∈ T, t.1 ≤ i) (hx : x.1 ≤ (i + 1 : Nat)) : ∀ t ∈ T.set s x, t.1 ≤ (i + 1 : Nat) := fun t ht => by
  rcases List.mem_or_eq_of_mem_set ht with h1 | h1
  · have := h t h1
    omega
  · rw [h1]; exact hx

/-- The first free slot is taken. -/
theorem put_inv {i k : Nat} {T : List Sl} {E : List En} {g b : Int} (h : Inv i T E) (hi : i ≤ 100) (hb : isBeP b) (hf : find openB T = some k) (hg : (T.getD k (0, false, 0, 0)).1 = g) :
    Inv (i + 1) (T.set k (g, true, (i : Int), b)) (E ++ [(((k : Int), g), true, b)]) := by
  obtain ⟨hk, ho, _⟩ := find_lt hf
  have hT : T[k]? = some T[k] := List.getElem?_eq_getElem hk
  have hgk : T[k].1 = g := by rw [← hg]; simp [hk]
  have hfree : Free T[k] := by
    unfold openB at ho
    simp only [Bool.and_eq_true, decide_eq_true_eq] at ho
    exact ho.1
  have hsk := h.ok.2 T[k] (List.getElem_mem hk)
  have hg0 : 0 ≤ g := by
    unfold SlotOk at hsk
    rw [hfree.1] at hsk
    simp at hsk
    omega
  have hgi := h.gens T[k] (List.getElem_mem hk)
  have hnew : ∀ e ∈ E, e.1 ≠ ((k : Int), g) := fun e he heq => by
    obtain ⟨s, t, h1, h2, h3, h4⟩ := h.each e he
    have e1 : e.1.1 = (k : Int) := by rw [heq]
    have e2 : e.1.2 = g := by rw [heq]
    have : s = k := by omega
    subst this
    rw [hT] at h2
    injection h2 with h2
    subst h2
    cases hgd : e.2.1
    · have := h4 hgd
      omega
    · have := (h3 hgd).1
      rw [hfree.1] at this
      cases this
  refine ⟨set_ok h.ok ?_, set_gens h.gens (by show g ≤ _; omega), ?_, ?_, ?_, ?_⟩
  · unfold SlotOk
    rw [if_pos rfl]
    exact ⟨⟨hg0, by show g ≤ _; omega⟩, ⟨show (0 : Int) ≤ (i : Int) by omega, show (i : Int) ≤ 4294967295 by omega⟩, hb⟩
  · intro e he
    rcases List.mem_append.1 he with he | he
    · obtain ⟨s, t, h1, h2, h3, h4⟩ := h.each e he
      by_cases hs : s = k
      · subst hs
        rw [hT] at h2
        injection h2 with h2
        subst h2
        cases hgd : e.2.1
        · refine ⟨s, (g, true, (i : Int), b), h1, List.getElem?_set_self hk, fun h' => (by rw [hgd] at h'; cases h'), fun _ => ?_⟩
          have := h4 hgd
          show e.1.2 < g
          omega
        · have := (h3 hgd).1
          rw [hfree.1] at this
          cases this
      · exact ⟨s, t, h1, by rw [List.getElem?_set_ne (Ne.symm hs)]; exact h2, h3, h4⟩
    · rw [List.mem_singleton] at he
      subst he
      exact ⟨k, (g, true, (i : Int), b), rfl, List.getElem?_set_self hk, fun _ => ⟨rfl, rfl, rfl⟩, fun h' => by cases h'⟩
  · rw [List.map_append, List.nodup_append]
    refine ⟨h.once, by simp, fun a ha b' hb' => ?_⟩
    obtain ⟨e, he, rfl⟩ := List.mem_map.1 ha
    simp at hb'
    rw [hb']
    exact hnew e he
  · intro b'
    rw [List.countP_set hk, List.countP_append, h.cnt b']
    have h0 : mineB b' T[k] = false := by unfold mineB; rw [hfree.1]; rfl
    rw [h0]
    have : mineB b' (g, true, (i : Int), b) = owns b' (((k : Int), g), true, b) := rfl
    rw [this]
    simp [List.countP_cons]
  · have := h.few
    simp
    omega

/-- The k-th handle: its slot. -/
theorem en_at {i k : Nat} {T : List Sl} {E : List En} (h : Inv i T E) (hk : k < E.length) : EnOk T E[k] := h.each _ (List.getElem_mem hk)

theorem once_at {i j k : Nat} {T : List Sl} {E : List En} (h : Inv i T E) (hj : j < E.length) (hk : k < E.length) (he : E[j].1 = E[k].1) : j = k := by
  have h1 : j < (List.map (fun e : En => e.1) E).length := by simpa using hj
  have h2 : k < (List.map (fun e : En => e.1) E).length := by simpa using hk
  exact (List.getElem_inj (h₀ := h1) (h₁ := h2) h.once).1 (by simpa using he)

/-- What Get answers at a handle that was given. -/
theorem got_en {i k : Nat} {T : List Sl} {E : List En} (h : Inv i T E) (hk : k < E.length) :
    ∃ (s : Nat) (t : Sl), E[k].1.1 = (s : Int) ∧ T[s]? = some t ∧ (E[k].2.1 = true → t.2.1 = true ∧ t.1 = E[k].1.2 ∧ t.2.2.2 = E[k].2.2 ∧ gotE T E[k].1.1 E[k].1.2 = (t, 0)) ∧ (E[k].2.1 = false → E[k].1.2 < t.1 ∧ gotE T E[k].1.1 E[k].1.2 = ((0, false, 0, 0), 10)) := by
  obtain ⟨s, t, h1, h2, h3, h4⟩ := en_at h hk
  obtain ⟨hs, ht⟩ := List.getElem?_eq_some_iff.1 h2
  refine ⟨s, t, h1, h2, fun hg => ?_, fun hg => ?_⟩
  · obtain ⟨a, b, c⟩ := h3 hg
    refine ⟨a, b, c, ?_⟩
    rw [h1, got_some h.ok hs ht.symm, if_pos ⟨a, b⟩]
  · have := h4 hg
    refine ⟨this, ?_⟩
    rw [h1, got_some h.ok hs ht.symm, if_neg fun hh => by omega]

theorem drop_bad {i k : Nat} {T : List Sl} {E : List En} (h : Inv i T E) (hk : k < E.length) (hg : E[k].2.1 = false) : dropOut T E[k].1.1 E[k].1.2 = ([], 10) := by
  obtain ⟨s, t, _, _, _, h4⟩ := got_en h hk
  unfold dropOut
  rw [(h4 hg).2]
  rfl

theorem move_bad {i k : Nat} {T : List Sl} {E : List En} (h : Inv i T E) (hk : k < E.length) (hg : E[k].2.1 = false) (b : Int) : moveOut T E[k].1.1 E[k].1.2 b = ([], 10) := by
  obtain ⟨s, t, _, _, _, h4⟩ := got_en h hk
  unfold moveOut
  rw [(h4 hg).2]
  rfl

theorem en_other {i k : Nat} {T : List Sl} {E : List En} {s : Nat} {t : Sl} (h : Inv i T E) (hk : k < E.length) (h1 : E[k].1.1 = (s : Int)) (h2 : T[s]? = some t) (hg : E[k].2.1 = true) (hgen : t.1 = E[k].1.2) {x : Sl} {e : En} (hx : t.1 ≤ x.1) {j : Nat} (hj : j < E.length) (hjk : j ≠ k) (he : e = E[j]) : EnOk (T.set s x) e := by
  subst he
  obtain ⟨s', t', g1, g2, g3, g4⟩ := en_at h hj
  obtain ⟨hs, _⟩ := List.getElem?_eq_some_iff.1 h2
  by_cases hss : s' = s
  · subst hss
    rw [h2] at g2
    injection g2 with g2
    subst g2
    cases hgd : E[j].2.1
    · refine ⟨s', x, g1, List.getElem?_set_self hs, fun h' => (by rw [hgd] at h'; cases h'), fun _ => ?_⟩
      have := g4 hgd
      omega
    · exfalso
      refine hjk (once_at h hj hk ?_)
      obtain ⟨_, q2, _⟩ := g3 hgd
      exact Prod.ext (by rw [g1, h1]) (by rw [← q2, hgen])
  · exact ⟨s', t', g1, by rw [List.getElem?_set_ne (Ne.symm hss)]; exact g2, g3, g4⟩

theorem mem_set_at {E : List En} {k : Nat} {y e : En} (h : e ∈ E.set k y) : e = y ∨ ∃ j, ∃ hj : j < E.length, j ≠ k ∧ e = E[j] := by
  obtain ⟨j, hj, rfl⟩ := List.getElem_of_mem h
  by_cases hjk : k = j
  · subst hjk
    left
    simp
  · right
    refine ⟨j, by simpa using hj, Ne.symm hjk, ?_⟩
    rw [List.getElem_set_ne hjk]

theorem map_set_same {E : List En} {k : Nat} (hk : k < E.length) {y : En} (hy : y.1 = E[k].1) : (E.set k y).map (·.1) = E.map (·.1) := by
  rw [List.map_set, hy]
  refine List.ext_getElem (by simp) fun j h1 h2 => ?_
  rw [List.getElem_set]
  split
  · subst_vars
    simp
  · rfl

/-- A good handle is dropped. -/
theorem drop_inv {i k : Nat} {T : List Sl} {E : List En} (h : Inv i T E) (hi : i ≤ 100) (hk : k < E.length) (hg : E[k].2.1 = true) :
    ∃ T', dropOut T E[k].1.1 E[k].1.2 = (T', 0) ∧ T'.length = T.length ∧ Inv (i + 1) T' (E.set k (E[k].1, false, E[k].2.2)) := by
  obtain ⟨s, t, h1, h2, h3, _⟩ := got_en h hk
  obtain ⟨a1, a2, a3, a4⟩ := h3 hg
  obtain ⟨hs, ht⟩ := List.getElem?_eq_some_iff.1 h2
  have hgi := h.gens t (by rw [← ht]; exact List.getElem_mem hs)
  have hst := h.ok.2 t (by rw [← ht]; exact List.getElem_mem hs)
  have hub := used_bound hst a1
  refine ⟨T.set s (t.1 + 1, false, 0, 0), ?_, by simp, ?_⟩
  · unfold dropOut
    rw [a4, if_pos rfl, h1, Int.toNat_natCast]
  refine ⟨set_ok h.ok ?_, set_gens h.gens (by show t.1 + 1 ≤ _; omega), ?_, ?_, ?_, ?_⟩
  · unfold SlotOk
    simp
    omega
  · intro e he
    rcases mem_set_at he with rfl | ⟨j, hj, hjk, rfl⟩
    · exact ⟨s, _, h1, List.getElem?_set_self hs, fun h' => (by cases h'), fun _ => by show E[k].1.2 < t.1 + 1; omega⟩
    · exact en_other h hk h1 h2 hg a2 (by show t.1 ≤ t.1 + 1; omega) hj hjk rfl
  · rw [map_set_same (y := (E[k].1, false, E[k].2.2)) hk rfl]
    exact h.once
  · intro b
    rw [List.countP_set hs, List.countP_set hk, h.cnt b, ht]
    have e1 : mineB b t = owns b E[k] := by unfold mineB owns; rw [a1, hg, a3]
    have e2 : mineB b (t.1 + 1, false, 0, 0) = owns b (E[k].1, false, E[k].2.2) := rfl
    rw [e1, e2]
  · have := h.few
    simp
    omega

/-- A good handle is moved. -/
theorem move_inv {i k : Nat} {T : List Sl} {E : List En} (h : Inv i T E) (hi : i ≤ 100) (hk : k < E.length) (hg : E[k].2.1 = true) {b : Int} (hb : isBeP b) :
    ∃ T', moveOut T E[k].1.1 E[k].1.2 b = (T', 0) ∧ T'.length = T.length ∧ Inv (i + 1) T' (E.set k (E[k].1, true, b)) := by
  obtain ⟨s, t, h1, h2, h3, _⟩ := got_en h hk
  obtain ⟨a1, a2, a3, a4⟩ := h3 hg
  obtain ⟨hs, ht⟩ := List.getElem?_eq_some_iff.1 h2
  have hgi := h.gens t (by rw [← ht]; exact List.getElem_mem hs)
  have hst := h.ok.2 t (by rw [← ht]; exact List.getElem_mem hs)
  refine ⟨T.set s (t.1, true, t.2.2.1, b), ?_, by simp, ?_⟩
  · unfold moveOut
    rw [a4, if_pos rfl, if_pos hb, h1, Int.toNat_natCast]
  refine ⟨set_ok h.ok ?_, set_gens h.gens (by show t.1 ≤ _; omega), ?_, ?_, ?_, ?_⟩
  · unfold SlotOk at hst ⊢
    rw [if_pos a1] at hst
    rw [if_pos rfl]
    exact ⟨hst.1, hst.2.1, hb⟩
  · intro e he
    rcases mem_set_at he with rfl | ⟨j, hj, hjk, rfl⟩
    · exact ⟨s, _, h1, List.getElem?_set_self hs, fun _ => ⟨rfl, a2, rfl⟩, fun h' => by cases h'⟩
    · exact en_other h hk h1 h2 hg a2 (by show t.1 ≤ t.1; omega) hj hjk rfl
  · rw [map_set_same (y := (E[k].1, true, b)) hk rfl]
    exact h.once
  · intro b'
    rw [List.countP_set hs, List.countP_set hk, h.cnt b', ht]
    have e1 : mineB b' t = owns b' E[k] := by unfold mineB owns; rw [a1, hg, a3]
    have e2 : mineB b' (t.1, true, t.2.2.1, b) = owns b' (E[k].1, true, b) := rfl
    rw [e1, e2]
  · have := h.few
    simp
    omega

/-- What Put answers. -/
theorem put_out {i : Nat} {T : List Sl} {E : List En} (h : Inv i T E) (hi : i ≤ 100) {b : Int} (hb : isBeP b) :
    (find openB T = none ∧ putOut T (i : Int) b = ([], (0, 0), 9)) ∨ ∃ k, ∃ T', find openB T = some k ∧ putOut T (i : Int) b = (T', ((k : Int), (T.getD k (0, false, 0, 0)).1), 0) ∧ T'.length = T.length ∧ Inv (i + 1) T' (E ++ [(((k : Int), (T.getD k (0, false, 0, 0)).1), true, b)]) := by
  have hkey : isKeyP (i : Int) := ⟨by omega, by omega⟩
  cases hf : find openB T with
  | none =>
    left
    refine ⟨rfl, ?_⟩
    unfold putOut
    rw [if_neg (not_not_intro h.ok), if_neg (not_not_intro ⟨hkey, hb⟩), hf]
  | some k =>
    right
    refine ⟨k, _, rfl, ?_, ?_, put_inv h hi hb hf rfl⟩
    · unfold putOut
      rw [if_neg (not_not_intro h.ok), if_neg (not_not_intro ⟨hkey, hb⟩), hf]
    · simp

theorem inv_new (n : Nat) (h1 : 1 ≤ n) (h2 : n ≤ 40) : Inv 0 (List.replicate n (0, false, 0, 0)) [] := by
  refine ⟨⟨by simpa using ⟨h1, h2⟩, fun t ht => ?_⟩, fun t ht => ?_, fun e he => by (cases he), by simp, fun b => ?_, by simp⟩
  · rw [List.mem_replicate] at ht
    rw [ht.2]
    unfold SlotOk
    simp
  · rw [List.mem_replicate] at ht
    rw [ht.2]
    simp
  · simp only [List.countP_nil]
    rw [List.countP_replicate]
    simp [mineB]
end Go.Proofs.Ythiojfgimjoenaa.Walks
