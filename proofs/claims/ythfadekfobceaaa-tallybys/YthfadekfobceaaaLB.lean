/-
  TallyBys: the law's walk. Condition: the outputs can be read; they take no more memory than there can be.
-/
import Derived.Test.YthfadekfobceaaaRefB
import Derived.Test.YthfadekfobceaaaOpensT
import Derived.WalkKit
import Derived.ProofKit
import Derived.Handy
import Derived.LoopTactic
import Derived.Below
import Derived.Laws.BitsAllLaws
import Derived.RegionTactic
import Derived.Deep.RegionHeld3
import Derived.Deep.DrawnRows
import Derived.Deep.AppendLies
import Derived.Laws.OwnMore
import Derived.Deep.Onto
import Derived.Deep.QuietTactic
import Derived.BigQuiet
namespace Go.Proofs.Ythfadekfobceaaa.Walks
open Go.RowKit
set_option linter.unusedVariables false
set_option linter.unusedSimpArgs false
attribute [local go_sem ↓] Go.wp_at_zero Go.wp_at_succ

set_option maxHeartbeats 4000000 in
set_option maxRecDepth 100000 in
theorem tallyBys_row (v : Value) (l : List Ou) (hwf : OusWf l) (hl : l.length * 56 ≤ 140737488355328) (w : World) (hv : OsAt w v l) :
    Calls Try.prog 6 #[v] w fun r w' => r = .returned (.bool true) ∧ Below w.heap.size w w' := by
  obtain ⟨p, c, rfl, hc, hm⟩ := RvAt.form hv
  obtain ⟨m, e, hme⟩ : ∃ a e, byO l = (a, e) := ⟨_, _, rfl⟩
  have HV : Hid (_ ∧ _ ∧ _ ∧ _) := ⟨hv, hl, hme, hwf⟩
  clear hv hl hme hwf
  go_enter Try.func6, Try.ntmps6
  go_wp2_with fail
  refine (outputs_any _ l _ HV.out.1 HV.out.2.1).mono ?_
  rintro r w1 ⟨p1, c1, rfl, h1, hb1⟩
  have H1 : Hid (_ ∧ _) := ⟨h1, hb1⟩
  clear h1 hb1
  go_wp2_with fail
  refine (by_any _ l _ H1.out.1 HV.out.2.2.2).mono ?_
  rw [HV.out.2.2.1]
  rintro r w2 ⟨p2, c2, rfl, h2, hb2⟩
  have H2 : Hid (_ ∧ _) := ⟨h2, H1.out.2.trans (hb2.mono H1.out.2.size)⟩
  clear h2 hb2
  go_wp2_with fail
  refine (byBackend_any _ l _ (HV.out.1.below H2.out.2)).mono ?_
  rw [HV.out.2.2.1]
  rintro r w3 ⟨p3, c3, rfl, h3, hb3⟩
  have H3 : Hid (_ ∧ _ ∧ _) := ⟨h3, H2.out.1.below hb3, H2.out.2.trans (hb3.mono H2.out.2.size)⟩
  clear h3 hb3
  go_wp2_with fail
  refine (sameInts_any _ _ m _ H3.out.2.1 H3.out.1).mono ?_
  rintro r w4 ⟨rfl, hb4⟩
  have H4 : Hid _ := H3.out.2.2.trans (hb4.mono H3.out.2.2.size)
  clear hb4
  go_wp2
  go_ret
  exact ⟨rfl, H4.out⟩
end Go.Proofs.Ythfadekfobceaaa.Walks
