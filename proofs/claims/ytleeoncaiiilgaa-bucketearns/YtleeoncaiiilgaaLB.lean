/-
  usherlaw's four laws of bucket. No condition.
-/
import Derived.Test.YtleeoncaiiilgaaRef
import Derived.WalkKit
import Derived.ProofKit
import Derived.Handy
import Derived.LoopTactic
import Derived.Below
import Derived.Laws.BitsAllLaws
import Derived.RegionTactic
import Derived.Deep.RegionHeld3
import Derived.Deep.DrawnRows
import Derived.Deep.AppendLies
import Derived.Laws.OwnMore
import Derived.Deep.Onto
import Derived.Deep.QuietTactic
import Derived.BigQuiet
namespace Go.Proofs.Ytleeoncaiiilgaa.Walks
open Go.RowKit
set_option linter.unusedVariables false
set_option linter.unusedSimpArgs false
attribute [local go_sem ↓] Go.wp_at_zero Go.wp_at_succ

theorem checks_law (n d b : Int) (_ : (Lit.int .i64 n).wf = true) (_ : (Lit.int .i64 d).wf = true) (_ : (Lit.int .i64 b).wf = true) (w : World) :
    Calls Try.prog 3 #[budV n d b] w fun e w' => e = .returned (.bool true) ∧ Below w.heap.size w w' := by
  obtain ⟨W0, hW0⟩ : ∃ W0, W0 = w.alloc (.cells #[.int .i64 n, .int .i64 d, .int .i64 b] 23) := ⟨_, rfl⟩
  have hB0 : W0.heap[w.heap.size]? = some (.cells #[.int .i64 n, .int .i64 d, .int .i64 b] 23 (0, 0)) := by rw [hW0]; exact heap_alloc_new _ _
  have hb0 : Below w.heap.size w W0 := by rw [hW0]; exact below_new _
  have H : Hid (_ ∧ _ ∧ _) := ⟨hW0, hB0, hb0⟩
  clear hW0 hb0 hB0
  go_enter Try.func3, Try.ntmps3
  go_wp2_with fail
  rw [← H.out.1]
  refine (check_any n d b _).mono ?_
  rintro r w1 ⟨rfl, hb1⟩
  have hB1 := box_below H.out.2.1 hb1
  obtain ⟨c0, c1, c2, _⟩ := three_cells hB1
  have H1 : Hid _ := H.out.2.2.trans (hb1.mono H.out.2.2.size)
  clear hb1 hB1
  go_wp2_with fail
  refine (budget_fault n d b _).mono ?_
  rintro r w2 ⟨rfl, hb2⟩
  have H2 : Hid _ := H1.out.trans (hb2.mono H1.out.size)
  clear hb2 c0 c1 c2
  go_wp2
  go_ret
  exact ⟨rfl, H2.out⟩

set_option maxHeartbeats 2000000 in
theorem fills_law (n d b : Int) (_ : (Lit.int .i64 n).wf = true) (_ : (Lit.int .i64 d).wf = true) (_ : (Lit.int .i64 b).wf = true) (w : World) :
    Calls Try.prog 4 #[budV n d b] w fun e w' => e = .returned (.bool true) ∧ Below w.heap.size w w' := by
  obtain ⟨W0, hW0⟩ : ∃ W0, W0 = w.alloc (.cells #[.int .i64 n, .int .i64 d, .int .i64 b] 23) := ⟨_, rfl⟩
  have hB0 : W0.heap[w.heap.size]? = some (.cells #[.int .i64 n, .int .i64 d, .int .i64 b] 23 (0, 0)) := by rw [hW0]; exact heap_alloc_new _ _
  have hb0 : Below w.heap.size w W0 := by rw [hW0]; exact below_new _
  have H : Hid (_ ∧ _ ∧ _) := ⟨hW0, hB0, hb0⟩
  clear hW0 hb0 hB0
  have hA : Hid (∀ W, _) := fun W => fill_any n d b W
  have hF : Hid (∀ W, _) := fun W => filled_any n d b W
  generalize fillO n d b = o at *
  obtain ⟨o1, o2⟩ := o
  simp only at hA hF
  go_enter Try.func4, Try.ntmps4
  go_wp2_with fail
  rw [← H.out.1]
  refine (hA.out _).mono ?_
  rintro r w1 ⟨rfl, hb1⟩
  have hB1 := box_below H.out.2.1 hb1
  obtain ⟨c0, c1, c2, hlt⟩ := three_cells hB1
  have hb1' := H.out.2.2.trans (hb1.mono H.out.2.2.size)
  have H1 : Hid _ := hb1'
  clear hb1 hB1 hb1' hA
  go_wp2_with fail
  obtain ⟨W2, hW2⟩ : ∃ W2, W2 = w1.alloc (.cells #[.int .i64 o1] 28) := ⟨_, rfl⟩
  have hP2 : W2.heap[w1.heap.size]? = some (.cells #[.int .i64 o1] 28 (0, 0)) := by rw [hW2]; exact heap_alloc_new _ _
  have hb2 : Below w1.heap.size w1 W2 := by rw [hW2]; exact below_new _
  rw [← hW2]
  have H2 : Hid (_ ∧ _) := ⟨hP2, H1.out.trans (hb2.mono H1.out.size)⟩
  clear hW2 hP2 hb2 H1 c0 c1 c2 hlt
  refine (hF.out _).mono ?_
  rintro r w3 ⟨rfl, hb3⟩
  have hP3 := box_below H2.out.1 hb3
  have e3 := (one_cells hP3).1
  have l3 := (one_cells hP3).2.2
  have H3 : Hid _ := H2.out.2.trans (hb3.mono H2.out.2.size)
  clear hb3 hP3 H2
  go_wp2
  go_ret
  exact ⟨rfl, H3.out.alloc H3.out.size _⟩

set_option maxHeartbeats 2000000 in
theorem earns_law (n d b : Int) (_ : (Lit.int .i64 n).wf = true) (_ : (Lit.int .i64 d).wf = true) (_ : (Lit.int .i64 b).wf = true) (x : Int) (_ : (Lit.int .i64 x).wf = true) (w : World) :
    Calls Try.prog 5 #[budV n d b, bktV x] w fun e w' => e = .returned (.bool true) ∧ Below w.heap.size w w' := by
  obtain ⟨W0, hW0⟩ : ∃ W0, W0 = (w.alloc (.cells #[.int .i64 n, .int .i64 d, .int .i64 b] 23)).alloc (.cells #[.int .i64 x] 28) := ⟨_, rfl⟩
  have hX0 : Bx w W0 n d b x := by rw [hW0]; exact bx_new _ _ _ _ _
  have H : Hid (_ ∧ Bx _ _ _ _ _ _) := ⟨hW0, hX0⟩
  clear hW0 hX0
  have hA : Hid (∀ W, _) := fun W => earn_any n d b x W
  have hF : Hid (∀ W, _) := fun W => earned_any n d b x W
  generalize earnO n d b x = o at *
  obtain ⟨o1, o2⟩ := o
  simp only at hA hF
  go_enter Try.func5, Try.ntmps5
  go_wp2_with fail
  rw [← H.out.1]
  refine (hA.out _).mono ?_
  rintro r w1 ⟨rfl, hb1⟩
  have hX1 := H.out.2.below hb1
  obtain ⟨c0, c1, c2, c3⟩ := hX1.cells
  have hlt := (three_cells hX1.1).2.2.2
  have hlt2 := (one_cells hX1.2.1).2.2
  have H1 : Hid (Bx _ _ _ _ _ _) := hX1
  clear hb1 hX1 hA
  go_wp2_with fail
  obtain ⟨W2, hW2⟩ : ∃ W2, W2 = w1.alloc (.cells #[.int .i64 o1] 28) := ⟨_, rfl⟩
  have hP2 : W2.heap[w1.heap.size]? = some (.cells #[.int .i64 o1] 28 (0, 0)) := by rw [hW2]; exact heap_alloc_new _ _
  have hb2 : Below w1.heap.size w1 W2 := by rw [hW2]; exact below_new _
  rw [← hW2]
  have H2 : Hid (_ ∧ _) := ⟨hP2, H1.out.2.2.trans (hb2.mono H1.out.2.2.size)⟩
  clear hW2 hP2 hb2 H1 c0 c1 c2 c3 hlt hlt2
  refine (hF.out _).mono ?_
  rintro r w3 ⟨rfl, hb3⟩
  have hP3 := box_below H2.out.1 hb3
  have e3 := (one_cells hP3).1
  have l3 := (one_cells hP3).2.2
  have H3 : Hid _ := H2.out.2.trans (hb3.mono H2.out.2.size)
  clear hb3 hP3 H2
  go_wp2
  go_ret
  exact ⟨rfl, H3.out.alloc H3.out.size _⟩

set_option maxHeartbeats 2000000 in
theorem spends_law (n d b : Int) (_ : (Lit.int .i64 n).wf = true) (_ : (Lit.int .i64 d).wf = true) (_ : (Lit.int .i64 b).wf = true) (x : Int) (_ : (Lit.int .i64 x).wf = true) (w : World) :
    Calls Try.prog 6 #[budV n d b, bktV x] w fun e w' => e = .returned (.bool true) ∧ Below w.heap.size w w' := by
  obtain ⟨W0, hW0⟩ : ∃ W0, W0 = (w.alloc (.cells #[.int .i64 n, .int .i64 d, .int .i64 b] 23)).alloc (.cells #[.int .i64 x] 28) := ⟨_, rfl⟩
  have hX0 : Bx w W0 n d b x := by rw [hW0]; exact bx_new _ _ _ _ _
  have H : Hid (_ ∧ Bx _ _ _ _ _ _) := ⟨hW0, hX0⟩
  clear hW0 hX0
  have hA : Hid (∀ W, _) := fun W => spend_any n d b x W
  have hF : Hid (∀ W, _) := fun W => spent_any n d b x W
  generalize spendO n d b x = o at *
  obtain ⟨o1, o2⟩ := o
  simp only at hA hF
  go_enter Try.func6, Try.ntmps6
  go_wp2_with fail
  rw [← H.out.1]
  refine (hA.out _).mono ?_
  rintro r w1 ⟨rfl, hb1⟩
  have hX1 := H.out.2.below hb1
  obtain ⟨c0, c1, c2, c3⟩ := hX1.cells
  have hlt := (three_cells hX1.1).2.2.2
  have hlt2 := (one_cells hX1.2.1).2.2
  have H1 : Hid (Bx _ _ _ _ _ _) := hX1
  clear hb1 hX1 hA
  go_wp2_with fail
  obtain ⟨W2, hW2⟩ : ∃ W2, W2 = w1.alloc (.cells #[.int .i64 o1] 28) := ⟨_, rfl⟩
  have hP2 : W2.heap[w1.heap.size]? = some (.cells #[.int .i64 o1] 28 (0, 0)) := by rw [hW2]; exact heap_alloc_new _ _
  have hb2 : Below w1.heap.size w1 W2 := by rw [hW2]; exact below_new _
  rw [← hW2]
  have H2 : Hid (_ ∧ _) := ⟨hP2, H1.out.2.2.trans (hb2.mono H1.out.2.2.size)⟩
  clear hW2 hP2 hb2 H1 c0 c1 c2 c3 hlt hlt2
  refine (hF.out _).mono ?_
  rintro r w3 ⟨rfl, hb3⟩
  have hP3 := box_below H2.out.1 hb3
  have e3 := (one_cells hP3).1
  have l3 := (one_cells hP3).2.2
  have H3 : Hid _ := H2.out.2.trans (hb3.mono H2.out.2.size)
  clear hb3 hP3 H2
  go_wp2
  go_ret
  exact ⟨rfl, H3.out.alloc H3.out.size _⟩
end Go.Proofs.Ytleeoncaiiilgaa.Walks
