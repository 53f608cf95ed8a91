/-
  CoreChecks: the law's walk. No condition.
-/
import Derived.Test.YtlphohahijeimaaCk
import Derived.Test.YtlphohahijeimaaOpensC
import Derived.WalkKit
import Derived.ProofKit
import Derived.Handy
import Derived.LoopTactic
import Derived.Below
import Derived.Laws.BitsAllLaws
import Derived.RegionTactic
import Derived.Deep.RegionHeld3
import Derived.Deep.DrawnRows
import Derived.Deep.AppendLies
import Derived.Laws.OwnMore
import Derived.Deep.Onto
import Derived.Deep.QuietTactic
import Derived.BigQuiet
namespace Go.Proofs.Ytlphohahijeimaa.Walks
open Go.RowKit
set_option linter.unusedVariables false
set_option linter.unusedSimpArgs false
attribute [local go_sem ↓] Go.wp_at_zero Go.wp_at_succ
open Go.Proofs.Ytlphohahijeimaa.Li (below_new box_below)

set_option maxHeartbeats 4000000 in
set_option maxRecDepth 100000 in
theorem coreChecks_row (c : Cf) (_ : CfWf c) (w : World) :
    Calls Try.prog 3 #[cfA c] w fun r w' => r = .returned (.bool true) ∧ Below w.heap.size w w' := by
  obtain ⟨W0, hW0⟩ : ∃ W0, W0 = w.alloc (cfO c) := ⟨_, rfl⟩
  have hb0 : Below w.heap.size w W0 := by rw [hW0]; exact below_new w
  have hR0 : W0.heap[w.heap.size]? = some (cfO c) := by rw [hW0]; exact heap_alloc_new _ _
  obtain ⟨k0, k1, k2, k3, k4, k5, k6, k7, k8, k9, k10, k11, k12, k13, k14, k15, klt⟩ := cf_cells hR0
  have HV : Hid (_ ∧ _ ∧ _) := ⟨hb0, hR0, hW0⟩
  clear hb0 hR0 hW0
  go_enter Try.func3, Try.ntmps3
  go_wp2_with fail
  rw [← HV.out.2.2]
  refine (check_any c _).mono ?_
  rintro r w1 ⟨rfl, hb1⟩
  have hR1 := box_below HV.out.2.1 hb1
  obtain ⟨j0, j1, j2, j3, j4, j5, j6, j7, j8, j9, j10, j11, j12, j13, j14, j15, jlt⟩ := cf_cells hR1
  have H1 : Hid _ := HV.out.1.trans (hb1.mono HV.out.1.size)
  clear hb1 hR1 k0 k1 k2 k3 k4 k5 k6 k7 k8 k9 k10 k11 k12 k13 k14 k15 klt
  go_wp2_with fail
  refine (configFault_any c _).mono ?_
  rintro r w2 ⟨rfl, hb2⟩
  have H2 : Hid _ := H1.out.trans (hb2.mono H1.out.size)
  clear hb2 j0 j1 j2 j3 j4 j5 j6 j7 j8 j9 j10 j11 j12 j13 j14 j15 jlt
  go_wp2
  go_ret
  exact ⟨by simp, H2.out⟩
end Go.Proofs.Ytlphohahijeimaa.Walks
