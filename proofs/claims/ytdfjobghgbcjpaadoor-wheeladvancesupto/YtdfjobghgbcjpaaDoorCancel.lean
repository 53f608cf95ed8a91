/-
  Cancel: the program's answer, in plain words. Whatever wheel can be read, of lists that stay below a bound.
-/
import Derived.Test.YtdfjobghgbcjpaaDoorRemove
import Derived.Test.YtdfjobghgbcjpaaDoorFine
import Derived.Test.YtdfjobghgbcjpaaDoorRefP
import Derived.WalkKit
import Derived.ProofKit
import Derived.Handy
import Derived.LoopTactic
import Derived.Below
import Derived.Laws.BitsAllLaws
import Derived.RegionTactic
import Derived.Deep.RegionHeld3
import Derived.Deep.DrawnRows
import Derived.Deep.AppendLies
import Derived.Laws.OwnMore
import Derived.Deep.Onto
import Derived.Deep.QuietTactic
import Derived.BigQuiet
namespace Go.Proofs.YtdfjobghgbcjpaaDoor.Walks
open Go.RowKit
set_option linter.unusedVariables false
set_option linter.unusedSimpArgs false
attribute [local go_sem ↓] Go.wp_at_zero Go.wp_at_succ

theorem below_set2' {B : Nat} {w w' : World} (h : Below B w w') {g : Nat} (hg : B ≤ g) (x y : Value) : Below B w ((w'.setCell ⟨g, 0, none⟩ x).setCell ⟨g, 1, none⟩ y) := (h.setCell (p := ⟨g, 0, none⟩) hg _).setCell (p := ⟨g, 1, none⟩) hg _

/-- A timer taken off. -/
structure Gone (now id : Int) (ls ms : List (List Tm)) : Prop where
  may : May now ms
  mem : ∀ t, t ∈ ms.flatten ↔ t ∈ ls.flatten ∧ t.2 ≠ id

theorem kp_mem {l : List Tm} {id : Int} {t : Tm} : t ∈ kp l id ↔ t ∈ l ∧ t.2 ≠ id := by unfold kp; simp

theorem gone_of {now id : Int} {ls : List (List Tm)} (h : May now ls) {i : Nat} {l : List Tm} (hl : ls[i]? = some l) (hex : ∃ t ∈ l, t.2 = id) : Gone now id ls (ls.set i (kp l id)) := by
  have hi := (List.getElem?_eq_some_iff.1 hl).1
  obtain ⟨a, b, e1, e2, _⟩ := flatten_set ls i l (kp l id) hl
  have hsub : (ls.set i (kp l id)).flatten.Sublist ls.flatten := by
    have e3 : ls.flatten = a.flatten ++ (l ++ b.flatten) := by
      have := congrArg List.flatten e1
      simpa using this
    rw [e2, e3]
    simp only [List.flatten_append, List.flatten_cons]
    exact (List.Sublist.refl _).append ((List.filter_sublist).append (List.Sublist.refl _))
  have hmemk : ∀ (k : Nat) (m : List Tm), (ls.set i (kp l id))[k]? = some m → ∃ m', ls[k]? = some m' ∧ ∀ t ∈ m, t ∈ m' := fun k m hk => by
    by_cases hki : k = i
    · subst hki
      rw [List.getElem?_set_self hi] at hk
      rw [← Option.some.inj hk]
      exact ⟨l, hl, fun t ht => (kp_mem.1 ht).1⟩
    · rw [List.getElem?_set_ne (Ne.symm hki)] at hk
      exact ⟨m, hk, fun t ht => ht⟩
  refine ⟨⟨h.1, by rw [List.length_set]; exact h.2.len, fun k m hk t ht => ?_, fun m hm => ?_, ?_⟩, fun t => ?_⟩
  · obtain ⟨m', h1, h2⟩ := hmemk k m hk
    exact h.2.fit k m' h1 t (h2 t ht)
  · rcases List.mem_or_eq_of_mem_set hm with hm | rfl
    · exact h.2.ord m hm
    · exact List.Pairwise.filter _ (h.2.ord l (List.mem_of_getElem? hl))
  · exact List.Nodup.sublist (hsub.map _) h.2.ids
  · constructor
    · intro ht
      refine ⟨hsub.subset ht, fun e => ?_⟩
      obtain ⟨m, hm, htm⟩ := List.mem_flatten.1 ht
      obtain ⟨k, hk, rfl⟩ := List.getElem_of_mem hm
      obtain ⟨s, hs, es⟩ := hex
      have hst : t = s := nodup_inj h.2.ids (hsub.subset ht) (List.mem_flatten.2 ⟨l, List.mem_of_getElem? hl, hs⟩) (by rw [e, es])
      by_cases hki : k = i
      · subst hki
        rw [List.getElem_set_self] at htm
        exact (kp_mem.1 htm).2 e
      · rw [List.getElem_set_ne (Ne.symm hki)] at htm
        rw [List.length_set] at hk
        have p1 := (h.2.fit k _ (List.getElem?_eq_getElem hk) t htm).2
        have p2 := (h.2.fit i l hl s hs).2
        rw [hst] at p1
        omega
    · rintro ⟨ht, hne⟩
      obtain ⟨m, hm, htm⟩ := List.mem_flatten.1 ht
      obtain ⟨k, hk, rfl⟩ := List.getElem_of_mem hm
      by_cases hki : k = i
      · subst hki
        rw [List.getElem?_eq_getElem hk] at hl
        rw [Option.some.inj hl] at htm
        exact List.mem_flatten.2 ⟨kp l id, List.mem_of_getElem? (List.getElem?_set_self hi), kp_mem.2 ⟨htm, hne⟩⟩
      · refine List.mem_flatten.2 ⟨ls[k], List.mem_of_getElem? (i := k) ?_, htm⟩
        rw [List.getElem?_set_ne (Ne.symm hki)]
        exact List.getElem?_eq_getElem hk

set_option maxHeartbeats 4000000 in
set_option maxRecDepth 100000 in
theorem cancel_state (v : Value) (now id : Int) (ls : List (List Tm)) (w : World) (hB : Blk w) (hx : LsAt w v ls) (hlen : ∀ l ∈ ls, l.length ≤ 1048576) (hm : ¬ May now ls) :
    Calls Tryd.prog 10 #[.agg #[.int .i64 now, v], .int .i64 id] w fun r w' => r = .returned (.tuple #[.agg #[.int .i64 0, .slice none 0 0], .int .i64 6]) ∧ Below w.heap.size w w' := by
  obtain ⟨a, ca, rfl, _⟩ := hx.parts
  have hb0 : ∀ W, Below w.heap.size w W → Blk W ∧ LsAt W (.slice a ls.length ca) ls := fun W h => ⟨hB.below h, hx.below h⟩
  have HX : Hid (_ ∧ _ ∧ _) := ⟨hb0, hlen, hm⟩
  clear hb0 hlen hm hx hB
  go_enter Tryd.func10, Tryd.ntmps10
  go_wp2_with fail
  have hbw : Below w.heap.size w ((w.alloc (.cells #[.int .i64 now, .slice a ls.length ca] 24)).alloc (.cells #[.int .i64 0, .slice none 0 0] 24)) := ((Below.refl _ _).alloc (Nat.le_refl _) _).alloc (by simp) _
  refine (turningOf_any _ now ls _ (HX.out.1 _ hbw).1 (HX.out.1 _ hbw).2 HX.out.2.1).mono ?_
  rintro r w1 ⟨hb1, ⟨h1, _⟩ | ⟨_, rfl⟩⟩
  · exact absurd h1 HX.out.2.2
  · have hR : w1.heap[w.heap.size + 1]? = some (.cells #[.int .i64 0, .slice none 0 0] 24 (0, 0)) := (hb1.block _ (by simp)).trans (heap_second _ _ _)
    obtain ⟨c0, c1, f0, f1, hlt⟩ := two_cells hR
    have hlt3 : w.heap.size < w1.heap.size := by omega
    have hlt4 : w.heap.size + 1 < w1.heap.size + 1 := by omega
    have HZ : Hid (_ ∧ _ ∧ _) := ⟨hR, hb1, hbw⟩
    clear hR hb1 hbw
    go_wp2
    have hf := heap_old _ (.cells #[.int .i64 0, .slice none 0 0, .map none] 41) (two_set (c := .int .i64 0) (d := .slice none 0 0) HZ.out.1)
    obtain ⟨g0, g1, _⟩ := two_cells hf
    refine bodyPost_ret (v := .tuple #[.agg #[.int .i64 0, .slice none 0 0], .int .i64 6]) (by simp [results, Tryd.results10, go_sem, g0, g1]) rfl ⟨rfl, ?_⟩
    have h1 := (((HZ.out.2.2.trans (HZ.out.2.1.mono HZ.out.2.2.size)).setCell (p := ⟨w.heap.size + 1, 0, none⟩) (by simp) (.int .i64 0)).setCell (p := ⟨w.heap.size + 1, 1, none⟩) (by simp) (.slice none 0 0))
    exact h1.alloc h1.size _

set_option maxHeartbeats 4000000 in
set_option maxRecDepth 100000 in
theorem cancel_rest (v : Value) (now id : Int) (ls : List (List Tm)) (w : World) (hB : Blk w) (hx : LsAt w v ls) (hm : May now ls) (hid : (Lit.int .i64 id).wf = true) :
    Calls Tryd.prog 10 #[.agg #[.int .i64 now, v], .int .i64 id] w fun r w' => Below w.heap.size w w' ∧
      (((∀ t ∈ ls.flatten, t.2 ≠ id) ∧ r = .returned (.tuple #[.agg #[.int .i64 0, .slice none 0 0], .int .i64 8])) ∨
       ((∃ t ∈ ls.flatten, t.2 = id) ∧ ∃ p c ms, r = .returned (.tuple #[.agg #[.int .i64 now, .slice p 25 c], .int .i64 0]) ∧ OwnW w' w.heap.size p c ms ∧ Gone now id ls ms)) := by
  obtain ⟨a, ca, rfl, _⟩ := hx.parts
  have hlen : ∀ l ∈ ls, l.length ≤ 1048576 := fun l hl => Nat.le_trans (len_le_flatten hl) hm.2.total'
  have hb0 : ∀ W, Below w.heap.size w W → Blk W ∧ LsAt W (.slice a ls.length ca) ls := fun W h => ⟨hB.below h, hx.below h⟩
  have HX : Hid (_ ∧ _ ∧ _) := ⟨hb0, hlen, hm⟩
  clear hb0 hlen hm hx hB
  go_enter Tryd.func10, Tryd.ntmps10
  go_wp2_with fail
  have hbw : Below w.heap.size w ((w.alloc (.cells #[.int .i64 now, .slice a ls.length ca] 24)).alloc (.cells #[.int .i64 0, .slice none 0 0] 24)) := ((Below.refl _ _).alloc (Nat.le_refl _) _).alloc (by simp) _
  refine (turningOf_any _ now ls _ (HX.out.1 _ hbw).1 (HX.out.1 _ hbw).2 HX.out.2.1).mono ?_
  rintro r w1 ⟨hb1, ⟨_, T, B, M, n, vs, f, rfl, hT, hF, hnn⟩ | ⟨h1, _⟩⟩
  · have hR : w1.heap[w.heap.size + 1]? = some (.cells #[.int .i64 0, .slice none 0 0] 24 (0, 0)) := (hb1.block _ (by simp)).trans (heap_second _ _ _)
    have hbw1 := hbw.trans (hb1.mono hbw.size)
    rw [show ((w.alloc (.cells #[.int .i64 now, .slice a ls.length ca] 24)).alloc (.cells #[.int .i64 0, .slice none 0 0] 24)).heap.size + 2 = w.heap.size + 4 by simp] at hT
    obtain ⟨w2, hw2⟩ : ∃ w2, w2 = (w1.alloc (.cells #[.int .i64 now, .slice (some ⟨B, 0, none⟩) 25 25, .map (some M)] 41)) := ⟨_, rfl⟩
    have hb2 : Below w1.heap.size w1 w2 := by rw [hw2]; exact (Below.refl _ _).alloc (Nat.le_refl _) _
    have hT2 : Turn w2 (w.heap.size + 4) w1.heap.size B M n now vs ls f := by rw [hw2]; exact hT.rebox
    have hR2 := (hb2.block _ (Array.getElem?_eq_some_iff.1 hR).1).trans hR
    have hbw2 := hbw1.trans (hb2.mono hbw1.size)
    obtain ⟨q0, q1, q2, q3⟩ := three_cells hT2.box
    have hs2 : w.heap.size + 4 ≤ w2.heap.size := by have := hT2.hT; omega
    have hlt1 := (Array.getElem?_eq_some_iff.1 hR).1
    obtain ⟨c0, c1, f0, f1, hlt⟩ := two_cells hR2
    have HT : Hid (_ ∧ _ ∧ _ ∧ _ ∧ _) := ⟨hT2, hF, hR2, hbw2, hw2⟩
    clear hR hb1 hbw hT hF hnn hb2 hT2 hR2 hbw2 hbw1 hw2
    go_wp2_with fail
    rw [← HT.out.2.2.2.2]
    refine (has_any w1.heap.size M n f id _ q2 HT.out.1.map hid).mono ?_
    cases hhas : (f id).isSome
    · rintro r w4 ⟨rfl, rfl⟩
      have HN : Hid _ := (HT.out.2.1.isNone id).1 hhas
      clear q0 q1 q2
      go_wp2
      obtain ⟨g0, g1⟩ := two_set_cells (c := .int .i64 0) (d := .slice none 0 0) HT.out.2.2.1
      refine bodyPost_ret (v := .tuple #[.agg #[.int .i64 0, .slice none 0 0], .int .i64 8]) (by simp [results, Tryd.results10, go_sem, g0, g1]) rfl ⟨?_, .inl ⟨HN.out, rfl⟩⟩
      exact below_set2' HT.out.2.2.2.1 (by omega) _ _
    · rintro r w4 ⟨rfl, rfl⟩
      have hexf : ∃ t ∈ ls.flatten, t.2 = id := by
        apply Classical.byContradiction
        intro hno
        rw [(HT.out.2.1.isNone id).2 (fun t ht e => hno ⟨t, ht, e⟩)] at hhas
        cases hhas
      obtain ⟨t, ht, te⟩ := hexf
      obtain ⟨l, hlm, htl⟩ := List.mem_flatten.1 ht
      obtain ⟨i, hil, rfl⟩ := List.getElem_of_mem hlm
      have hi25 : i < 25 := by rw [← HX.out.2.2.2.len]; exact hil
      have hl := List.getElem?_eq_getElem hil
      have hfi := HT.out.2.1.here i _ hl t htl
      rw [te] at hfi
      have HG : Hid _ := gone_of HX.out.2.2 hl ⟨t, htl, te⟩
      have hrm := remove_any (w.heap.size + 4) w1.heap.size B M n now vs ls f id i w4 HT.out.1 hs2 hi25 hid hfi _ hl ⟨t, htl, te⟩
      have HP : Hid (_ ∧ _) := ⟨hrm, ht⟩
      clear hrm
      have HE : Hid (∃ t ∈ ls.flatten, t.2 = id) := ⟨t, ht, te⟩
      clear htl hfi hl
      go_wp2_with fail
      refine HP.out.1.mono ?_
      rintro r w5 ⟨rfl, vs', f', hT5, hb5⟩
      have hR5 := (hb5.block (w.heap.size + 1) (by omega)).trans HT.out.2.2.1
      obtain ⟨c0', c1', f0', f1', hlt'⟩ := two_cells hR5
      obtain ⟨p0', p1', p2', p3'⟩ := three_cells hT5.box
      have HY : Hid (_ ∧ _ ∧ _) := ⟨hR5, hT5, HT.out.2.2.2.1.trans (hb5.mono (by omega))⟩
      clear hR5 hT5 hb5 c0 c1 f0 f1 hlt q0 q1 q2
      go_wp2
      obtain ⟨g0, g1⟩ := two_set_cells (c := .int .i64 now) (d := .slice (some ⟨B, 0, none⟩) 25 25) HY.out.1
      refine bodyPost_ret (v := .tuple #[.agg #[.int .i64 now, .slice (some ⟨B, 0, none⟩) 25 25], .int .i64 0]) (by simp [results, Tryd.results10, go_sem, g0, g1]) rfl ⟨?_, .inr ⟨HE.out, some ⟨B, 0, none⟩, 25, _, rfl, ⟨vs', (HY.out.2.1.own.set2 (g := w.heap.size + 1) (by omega) _ _).mono (by omega)⟩, HG.out⟩⟩
      exact below_set2' HY.out.2.2 (by omega) _ _
  · exact absurd HX.out.2.2 h1
end Go.Proofs.YtdfjobghgbcjpaaDoor.Walks
