/-
  TableChecks returns true. Condition: the slots can be read, at most 2^42 of them.
-/
import Derived.Test.YtilcjcbghpbkjaaFault
import Derived.WalkKit
import Derived.ProofKit
import Derived.Handy
import Derived.LoopTactic
import Derived.Below
import Derived.Laws.BitsAllLaws
import Derived.RegionTactic
import Derived.Deep.RegionHeld3
import Derived.Deep.DrawnRows
import Derived.Deep.AppendLies
import Derived.Laws.OwnMore
import Derived.Deep.Onto
import Derived.Deep.QuietTactic
import Derived.BigQuiet
namespace Go.Proofs.Ytilcjcbghpbkjaa.Walks
open Go.RowKit
set_option linter.unusedVariables false
set_option linter.unusedSimpArgs false
attribute [local go_sem ↓] Go.wp_at_zero Go.wp_at_succ

set_option maxHeartbeats 4000000 in
theorem tableChecks_row (w : World) (v : Value) (l : List Sl) (hv : SlAt w v l) (hl : l.length ≤ 4398046511104) :
    Calls Try.prog 3 #[.agg #[v]] w fun r w' => r = .returned (.bool true) ∧ Below w.heap.size w w' := by
  obtain ⟨p, c, rfl, _⟩ := hv.parts
  obtain ⟨W0, hW0⟩ : ∃ W0, W0 = w.alloc (.cells #[.slice p l.length c] 24) := ⟨_, rfl⟩
  have hb0 : Below w.heap.size w W0 := by rw [hW0]; exact below_newC w
  have hR0 : W0.heap[w.heap.size]? = some (.cells #[.slice p l.length c] 24 (0, 0)) := by rw [hW0]; exact heap_alloc_new _ _
  have HV : Hid (_ ∧ _ ∧ _ ∧ _) := ⟨hv, hb0, hR0, hW0⟩
  clear hv hb0 hR0 hW0
  go_enter Try.func3, Try.ntmps3
  go_wp2_with fail
  rw [← HV.out.2.2.2]
  refine (tables_any _ l _ (HV.out.1.below HV.out.2.1) hl).mono ?_
  rintro r w1 ⟨y, rfl, ho, hb1⟩
  have H1 : Hid (_ ∧ _) := ⟨ho, hb1⟩
  clear ho hb1
  go_wp2_with fail
  refine (check_any _ l _ (rowAt_own H1.out.1)).mono ?_
  obtain ⟨ans, hans⟩ : ∃ ans : Int, (if TabOk l then (0 : Int) else 6) = ans := ⟨_, rfl⟩
  have HAn : Hid _ := hans
  rw [hans]
  clear hans
  rintro r w2 ⟨rfl, hb2⟩
  have hc := one_cell (box_below (box_below HV.out.2.2.1 H1.out.2) hb2)
  have H2 : Hid _ := hb2
  clear hb2
  go_wp2_with fail
  refine (fault_any _ l _ (((HV.out.1.below HV.out.2.1).below H1.out.2).below H2.out)).mono ?_
  rw [HAn.out]
  rintro r w3 ⟨rfl, hb3⟩
  have HB : Hid _ := HV.out.2.1.trans (((H1.out.2.trans (H2.out.mono H1.out.2.size)).trans (hb3.mono (Nat.le_trans H1.out.2.size H2.out.size))).mono HV.out.2.1.size)
  clear hb3
  go_wp2
  go_ret
  exact ⟨rfl, HB.out⟩
end Go.Proofs.Ytilcjcbghpbkjaa.Walks
