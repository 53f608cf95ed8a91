/-
  TablePuts returns true. Condition: the slots can be read, at most 2^42 of them.
-/
import Derived.Test.YtilcjcbghpbkjaaFlowPut
import Derived.Test.YtilcjcbghpbkjaaSame
import Derived.WalkKit
import Derived.ProofKit
import Derived.Handy
import Derived.LoopTactic
import Derived.Below
import Derived.Laws.BitsAllLaws
import Derived.RegionTactic
import Derived.Deep.RegionHeld3
import Derived.Deep.DrawnRows
import Derived.Deep.AppendLies
import Derived.Laws.OwnMore
import Derived.Deep.Onto
import Derived.Deep.QuietTactic
import Derived.BigQuiet
namespace Go.Proofs.Ytilcjcbghpbkjaa.Walks
open Go.RowKit
set_option linter.unusedVariables false
set_option linter.unusedSimpArgs false
attribute [local go_sem ↓] Go.wp_at_zero Go.wp_at_succ

set_option maxHeartbeats 8000000 in
set_option maxRecDepth 100000 in
theorem tablePuts_row (w : World) (v : Value) (l : List Sl) (hv : SlAt w v l) (hl : l.length ≤ 4398046511104) (key : Int) (wk : (Lit.int .i64 key).wf = true) (bk : Int) (wb : (Lit.int .i64 bk).wf = true) :
    Calls Try.prog 5 #[.agg #[v], .int .i64 key, .int .i64 bk] w fun r w' => r = .returned (.bool true) ∧ Below w.heap.size w w' := by
  obtain ⟨p, c, rfl, _⟩ := hv.parts
  obtain ⟨W0, hW0⟩ : ∃ W0, W0 = w.alloc (.cells #[.slice p l.length c] 24) := ⟨_, rfl⟩
  have hb0 : Below w.heap.size w W0 := by rw [hW0]; exact below_newC w
  have hT0 : W0.heap[w.heap.size]? = some (.cells #[.slice p l.length c] 24 (0, 0)) := by rw [hW0]; exact heap_alloc_new _ _
  have hs0 : W0.heap.size = w.heap.size + 1 := by rw [hW0]; simp
  obtain ⟨m, ⟨a1, a2⟩, e, hme⟩ : ∃ m h e, putOut l key bk = (m, h, e) := ⟨_, _, _, rfl⟩
  have hP : Hid (∀ W y, SlAt W y l → Calls Try.prog 15 #[.agg #[y], .int .i64 key, .int .i64 bk] W fun r w' => ∃ p c, r = .returned (.tuple #[.agg #[.slice p m.length c], .agg #[.int .i64 a1, .int .i64 a2], .int .i64 e]) ∧ w'.ownsRow W.heap.size 39 4 (.slice p m.length c) m.length (scells m) ∧ Below W.heap.size W w') := fun W y hy => by
    have := put_any y l key bk W hy
    rw [hme] at this
    exact this
  have hQ : Hid (∀ W y, SlAt W y l → Calls Try.prog 16 #[.agg #[y], .int .i64 key, .int .i64 bk] W fun r w' => ∃ p c, r = .returned (.tuple #[.agg #[.slice p m.length c], .agg #[.int .i64 a1, .int .i64 a2], .int .i64 e]) ∧ w'.ownsRow W.heap.size 39 4 (.slice p m.length c) m.length (scells m) ∧ Below W.heap.size W w') := fun W y hy => by
    have := flowPut_any y l key bk W hy
    rw [hme] at this
    exact this
  have HV : Hid (_ ∧ _ ∧ _ ∧ _ ∧ _) := ⟨hv, hb0, hT0, hs0, hW0⟩
  clear hv hb0 hT0 wk wb hme hW0 hs0
  go_enter Try.func5, Try.ntmps5
  go_wp2_with fail
  rw [← HV.out.2.2.2.2]
  refine (tables_any _ l _ (HV.out.1.below HV.out.2.1) hl).mono ?_
  rintro r w1 ⟨y, rfl, ho1, hb1⟩
  obtain ⟨py, cy, rfl⟩ := own_form ho1
  obtain ⟨W1, hW1⟩ : ∃ W1, W1 = w1.alloc (.cells #[.slice py l.length cy] 24) := ⟨_, rfl⟩
  have hx1 : Below w1.heap.size w1 W1 := by rw [hW1]; exact below_newC w1
  have hb01 : Below W0.heap.size W0 W1 := hb1.trans (hx1.mono hb1.size)
  have hC1 : W1.heap[w1.heap.size]? = some (.cells #[.slice py l.length cy] 24 (0, 0)) := by rw [hW1]; exact heap_alloc_new _ _
  have hY1 : SlAt W1 (.slice py l.length cy) l := SlAt.below (rowAt_own ho1) hx1
  have hT1 := box_below HV.out.2.2.1 hb01
  have H1 : Hid (_ ∧ _ ∧ _ ∧ _ ∧ _) := ⟨hY1, hb01, hC1, hT1, hW1⟩
  have l11 : w.heap.size < w1.heap.size := by have := hb1.size; have := HV.out.2.2.2.1; omega
  clear hY1 hb01 hC1 hT1 hW1 hb1 hx1 ho1
  go_wp2_with fail
  rw [← H1.out.2.2.2.2]
  refine (hP.out _ _ H1.out.1).mono ?_
  rintro r w2 ⟨pa, ca, rfl, ho2, hb2⟩
  obtain ⟨W2, hW2⟩ : ∃ W2, W2 = (w2.alloc (.cells #[.slice pa m.length ca] 24)).alloc (.cells #[.int .i64 a1, .int .i64 a2] 34) := ⟨_, rfl⟩
  have hx2 : Below w2.heap.size w2 W2 := by rw [hW2]; exact ((Below.refl _ _).alloc (Nat.le_refl _) _).alloc (by simp) _
  have hb12 : Below W1.heap.size W1 W2 := hb2.trans (hx2.mono hb2.size)
  have hA2 : W2.heap[w2.heap.size]? = some (.cells #[.slice pa m.length ca] 24 (0, 0)) := by rw [hW2]; exact heap_old _ _ (heap_alloc_new _ _)
  have hD2 : W2.heap[w2.heap.size + 1]? = some (.cells #[.int .i64 a1, .int .i64 a2] 34 (0, 0)) := by rw [hW2]; exact heap_second _ _ _
  have hM2 : SlAt W2 (.slice pa m.length ca) m := SlAt.below (rowAt_own ho2) hx2
  have hY2 := H1.out.1.below hb12
  have hC2 := box_below H1.out.2.2.1 hb12
  have hT2 := box_below H1.out.2.2.2.1 hb12
  have hb02 := H1.out.2.1.trans (hb12.mono H1.out.2.1.size)
  have t2 := one_cell (box_below H1.out.2.2.2.1 hb2)
  have l20 : w1.heap.size < w2.heap.size := by have := hb2.size; have := (Array.getElem?_eq_some_iff.1 H1.out.2.2.1).1; omega
  have l22 : w.heap.size < w2.heap.size := by omega
  have H2 : Hid (_ ∧ _ ∧ _ ∧ _ ∧ _ ∧ _ ∧ _ ∧ _) := ⟨hM2, hY2, hA2, hD2, hC2, hT2, hb02, hW2⟩
  clear hM2 hY2 hA2 hD2 hC2 hT2 hb02 hW2 hb12 hx2 hb2 ho2
  go_wp2_with fail
  rw [← H2.out.2.2.2.2.2.2.2]
  refine (hQ.out _ _ (SlAt.below (SlAt.below HV.out.1 HV.out.2.1) H2.out.2.2.2.2.2.2.1)).mono ?_
  rintro r w3 ⟨pb, cb, rfl, ho3, hb3⟩
  obtain ⟨W3, hW3⟩ : ∃ W3, W3 = (w3.alloc (.cells #[.slice pb m.length cb] 24)).alloc (.cells #[.int .i64 a1, .int .i64 a2] 34) := ⟨_, rfl⟩
  have hx3 : Below w3.heap.size w3 W3 := by rw [hW3]; exact ((Below.refl _ _).alloc (Nat.le_refl _) _).alloc (by simp) _
  have hb23 : Below W2.heap.size W2 W3 := hb3.trans (hx3.mono hb3.size)
  have hN3 : SlAt W3 (.slice pb m.length cb) m := SlAt.below (rowAt_own ho3) hx3
  have hM3 := H2.out.1.below hb23
  have hY3 := H2.out.2.1.below hb23
  have hC3 := box_below H2.out.2.2.2.2.1 hb23
  have hT3 := box_below H2.out.2.2.2.2.2.1 hb23
  have hb03 := H2.out.2.2.2.2.2.2.1.trans (hb23.mono H2.out.2.2.2.2.2.2.1.size)
  have a3 := one_cell (box_below H2.out.2.2.1 hb3)
  obtain ⟨d0, d1, _⟩ := two_cells (box_below H2.out.2.2.2.1 hb3)
  have l30 : w2.heap.size + 1 < w3.heap.size := by have := hb3.size; have := (Array.getElem?_eq_some_iff.1 H2.out.2.2.2.1).1; omega
  have l31 : w2.heap.size < w3.heap.size := by omega
  have H3 : Hid (_ ∧ _ ∧ _ ∧ _ ∧ _ ∧ _ ∧ _) := ⟨hM3, hN3, hY3, hC3, hT3, hb03, hW3⟩
  clear hM3 hN3 hY3 hC3 hT3 hb03 hW3 hb23 hx3 hb3 ho3 t2
  go_wp2_with fail
  rw [← H3.out.2.2.2.2.2.2]
  refine (sameTable_any _ _ m m _ H3.out.1 H3.out.2.1).mono ?_
  rw [decide_eq_true rfl]
  rintro r w4 ⟨rfl, hb4⟩
  have c4 := one_cell (box_below H3.out.2.2.2.1 hb4)
  have t4 := one_cell (box_below H3.out.2.2.2.2.1 hb4)
  have H4 : Hid (_ ∧ _) := ⟨hb4, H3.out.2.2.2.2.2.1.trans (hb4.mono H3.out.2.2.2.2.2.1.size)⟩
  clear hb4 a3 d0 d1
  go_wp2_with fail
  refine (sameTable_any _ _ l l _ (H3.out.2.2.1.below H4.out.1) (SlAt.below (SlAt.below HV.out.1 HV.out.2.1) H4.out.2)).mono ?_
  rw [decide_eq_true rfl]
  rintro r w5 ⟨rfl, hb5⟩
  have hb05 := H4.out.2.trans (hb5.mono H4.out.2.size)
  have H5 : Hid _ := HV.out.2.1.trans (hb05.mono HV.out.2.1.size)
  clear hb5 hb05 c4 t4
  go_wp2
  go_ret
  exact ⟨rfl, H5.out⟩
end Go.Proofs.Ytilcjcbghpbkjaa.Walks
