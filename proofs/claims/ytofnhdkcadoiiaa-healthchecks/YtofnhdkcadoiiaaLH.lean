/-
  usherlaw's four laws of health. Condition: what is read can be read.
-/
import Derived.Test.YtofnhdkcadoiiaaRefN
import Derived.WalkKit
import Derived.ProofKit
import Derived.Handy
import Derived.LoopTactic
import Derived.Below
import Derived.Laws.BitsAllLaws
import Derived.RegionTactic
import Derived.Deep.RegionHeld3
import Derived.Deep.DrawnRows
import Derived.Deep.AppendLies
import Derived.Laws.OwnMore
import Derived.Deep.Onto
import Derived.Deep.QuietTactic
import Derived.BigQuiet
namespace Go.Proofs.Ytofnhdkcadoiiaa.Walks
open Go.RowKit
set_option linter.unusedVariables false
set_option linter.unusedSimpArgs false
attribute [local go_sem ↓] Go.wp_at_zero Go.wp_at_succ

theorem checks_law (n f d : Int) (_ : (Lit.int .i64 n).wf = true) (_ : (Lit.int .i64 f).wf = true) (_ : (Lit.int .i64 d).wf = true) (w : World) :
    Calls Try.prog 3 #[watV n f d] w fun e w' => e = .returned (.bool true) ∧ Below w.heap.size w w' := by
  obtain ⟨W0, hW0⟩ : ∃ W0, W0 = w.alloc (.cells #[.int .i64 n, .int .i64 f, .int .i64 d] 23) := ⟨_, rfl⟩
  have hB0 : W0.heap[w.heap.size]? = some (.cells #[.int .i64 n, .int .i64 f, .int .i64 d] 23 (0, 0)) := by rw [hW0]; exact heap_alloc_new _ _
  have hb0 : Below w.heap.size w W0 := by rw [hW0]; exact below_new _
  have H : Hid (_ ∧ _ ∧ _) := ⟨hW0, hB0, hb0⟩
  clear hW0 hb0 hB0
  go_enter Try.func3, Try.ntmps3
  go_wp2_with fail
  rw [← H.out.1]
  refine (check_any n f d _).mono ?_
  rintro r w1 ⟨rfl, hb1⟩
  have hB1 := box_below H.out.2.1 hb1
  obtain ⟨c0, c1, c2, _⟩ := three_cells hB1
  have H1 : Hid _ := H.out.2.2.trans (hb1.mono H.out.2.2.size)
  clear hb1 hB1
  go_wp2_with fail
  refine (watch_fault n f d _).mono ?_
  rintro r w2 ⟨rfl, hb2⟩
  have H2 : Hid _ := H1.out.trans (hb2.mono H1.out.size)
  clear hb2 c0 c1 c2
  go_wp2
  go_ret
  exact ⟨rfl, H2.out⟩

theorem alloweds_law (a : Int) (_ : (Lit.int .i64 a).wf = true) (b : Int) (_ : (Lit.int .i64 b).wf = true) (c : Int) (_ : (Lit.int .i64 c).wf = true) (w : World) :
    Calls Try.prog 6 #[.int .i64 a, .int .i64 b, .int .i64 c] w fun e w' => e = .returned (.bool true) ∧ Below w.heap.size w w' := by
  have hA : Hid (∀ W, _) := fun W => allowed_any a b c W
  have hF : Hid (∀ W, _) := fun W => mayGoOut_any a b c W
  generalize allowO a b c = o at *
  obtain ⟨o1, o2⟩ := o
  simp only at hA hF
  go_enter Try.func6, Try.ntmps6
  go_wp2_with fail
  refine (hA.out _).mono ?_
  rintro r w1 ⟨rfl, rfl⟩
  go_wp2_with fail
  refine (hF.out _).mono ?_
  rintro r w1 ⟨rfl, rfl⟩
  go_wp2
  go_ret
  exact ⟨rfl, Below.refl _ _⟩

theorem set0_new {W : World} {g : Nat} {a b c d y : Value} {T : TypeId} (h : W.heap[g]? = some (.cells #[a, b, c, d] T (0, 0))) : (W.setCell ⟨g, 0, none⟩ y).heap[g]? = some (.cells #[y, b, c, d] T (0, 0)) := heap_setCell_same W g 0 _ _ y h

set_option maxHeartbeats 2000000 in
theorem healths_any (v : Value) (l : List Bool) (o : Bool) (u t : Int) (w : World) (hv : BsAt w v l) (hl : l.length ≤ 140737488355328) :
    Calls Try.prog 11 #[hltV v o u t] w fun r w' => ∃ p c, r = .returned (hltV (.slice p l.length c) o u t) ∧ BsAt w' (.slice p l.length c) l ∧ Below w.heap.size w w' := by
  obtain ⟨p, c, rfl⟩ := hv.form
  obtain ⟨W0, hW0⟩ : ∃ W0, W0 = (w.alloc (.cells #[.slice p l.length c, .bool o, .int .i64 u, .int .i64 t] 29)).alloc (.cells #[.slice none 0 0, .bool false, .int .i64 0, .int .i64 0] 29) := ⟨_, rfl⟩
  have hB0 : W0.heap[w.heap.size]? = some (.cells #[.slice p l.length c, .bool o, .int .i64 u, .int .i64 t] 29 (0, 0)) := by rw [hW0]; exact heap_old _ _ (heap_alloc_new _ _)
  have hR0 : W0.heap[w.heap.size + 1]? = some (.cells #[.slice none 0 0, .bool false, .int .i64 0, .int .i64 0] 29 (0, 0)) := by rw [hW0]; exact heap_second _ _ _
  have hb0 : Below w.heap.size w W0 := by rw [hW0]; exact ((Below.refl _ _).alloc (Nat.le_refl _) _).alloc (by simp) _
  obtain ⟨c0, c1, c2, c3, _⟩ := four_cells hB0
  have H : Hid (_ ∧ _ ∧ _ ∧ _) := ⟨hW0, hB0, hR0, hb0⟩
  have HC : Hid _ := bools_any (.slice p l.length c) l W0 (hv.below hb0) hl
  clear hW0 hB0 hR0 hb0 hv
  go_enter Try.func11, Try.ntmps11
  go_wp2_with fail
  rw [← H.out.1]
  refine Calls.mono HC.out ?_
  rintro r w1 ⟨y, rfl, ho, hb1⟩
  obtain ⟨p', c', rfl⟩ := own_form ho
  have hlt0 : w.heap.size + 1 < W0.heap.size := (Array.getElem?_eq_some_iff.1 H.out.2.2.1).1
  have HQ : Hid (_ ∧ _ ∧ _ ∧ _) := ⟨box_below H.out.2.1 hb1, box_below H.out.2.2.1 hb1, H.out.2.2.2.trans (hb1.mono H.out.2.2.2.size), ho⟩
  have HLT : Hid _ := hlt0
  clear ho hb1 c0 c1 c2 c3 hlt0
  obtain ⟨c0, c1, c2, c3, _⟩ := four_cells HQ.out.1
  obtain ⟨f0, f1, f2, f3⟩ := four_froz HQ.out.1
  obtain ⟨d0, d1, d2, d3, _⟩ := four_cells HQ.out.2.1
  obtain ⟨g0, g1, g2, g3⟩ := four_froz HQ.out.2.1
  go_wp2
  exact bodyPost_ret (v := hltV (.slice p' l.length c') o u t) (results_c Try.results11 rfl (load_row (P := Try.prog) (cs := [.slice p' l.length c', .bool o, .int .i64 u, .int .i64 t]) (four_set ((Below.heap_setCell _ _ _ _ (by simp)).trans HQ.out.2.1)) Try.underlying29 rfl (by kernel_rfl))) rfl
    ⟨_, _, rfl, bsAt_own (base := W0.heap.size) (own_set4 (own_set HQ.out.2.2.2 (by have := HLT.out; simp; omega)) HLT.out), ((((HQ.out.2.2.1.setCell (by simp) _).setCell (by simp) _).setCell (by simp) _).setCell (by simp) _).setCell (by simp) _⟩

set_option maxHeartbeats 2000000 in
theorem sameHealth_any (v v' : Value) (l : List Bool) (o : Bool) (u t : Int) (w : World) (hv : BsAt w v l) (hv' : BsAt w v' l) :
    Calls Try.prog 14 #[hltV v o u t, hltV v' o u t] w fun r w' => r = .returned (.bool true) ∧ Below w.heap.size w w' := by
  obtain ⟨p, c, rfl⟩ := hv.form
  obtain ⟨p', c', rfl⟩ := hv'.form
  obtain ⟨W0, hW0⟩ : ∃ W0, W0 = (w.alloc (.cells #[.slice p l.length c, .bool o, .int .i64 u, .int .i64 t] 29)).alloc (.cells #[.slice p' l.length c', .bool o, .int .i64 u, .int .i64 t] 29) := ⟨_, rfl⟩
  have hB0 : W0.heap[w.heap.size]? = some (.cells #[.slice p l.length c, .bool o, .int .i64 u, .int .i64 t] 29 (0, 0)) := by rw [hW0]; exact heap_old _ _ (heap_alloc_new _ _)
  have hR0 : W0.heap[w.heap.size + 1]? = some (.cells #[.slice p' l.length c', .bool o, .int .i64 u, .int .i64 t] 29 (0, 0)) := by rw [hW0]; exact heap_second _ _ _
  have hb0 : Below w.heap.size w W0 := by rw [hW0]; exact ((Below.refl _ _).alloc (Nat.le_refl _) _).alloc (by simp) _
  obtain ⟨c0, c1, c2, c3, _⟩ := four_cells hB0
  obtain ⟨d0, d1, d2, d3, _⟩ := four_cells hR0
  have H : Hid (_ ∧ _) := ⟨hW0, hb0⟩
  have HC : Hid _ := sameBools_any (.slice p l.length c) (.slice p' l.length c') l W0 (hv.below hb0) (hv'.below hb0)
  clear hW0 hB0 hR0 hb0 hv hv'
  go_enter Try.func14, Try.ntmps14
  go_wp2_with fail
  rw [← H.out.1]
  refine Calls.mono HC.out ?_
  rintro r w1 ⟨rfl, hb1⟩
  have HB : Hid _ := H.out.2.trans (hb1.mono H.out.2.size)
  clear hb1 c0 c1 c2 c3 d0 d1 d2 d3
  go_wp2
  go_ret
  exact ⟨rfl, HB.out⟩
end Go.Proofs.Ytofnhdkcadoiiaa.Walks
