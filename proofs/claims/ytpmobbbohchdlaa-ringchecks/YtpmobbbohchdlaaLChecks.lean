/-
  RingChecks returns true. Condition: the ring's spots can be read, and its copy has room.
-/
import Derived.Test.YtpmobbbohchdlaaRefW
import Derived.WalkKit
import Derived.ProofKit
import Derived.Handy
import Derived.LoopTactic
import Derived.Below
import Derived.Laws.BitsAllLaws
import Derived.RegionTactic
import Derived.Deep.RegionHeld3
import Derived.Deep.DrawnRows
import Derived.Deep.AppendLies
import Derived.Laws.OwnMore
import Derived.Deep.Onto
import Derived.Deep.QuietTactic
import Derived.BigQuiet
namespace Go.Proofs.Ytpmobbbohchdlaa.Walks
open Go.RowKit
set_option linter.unusedVariables false
set_option linter.unusedSimpArgs false
attribute [local go_sem ↓] Go.wp_at_zero Go.wp_at_succ

set_option maxHeartbeats 2000000 in
theorem ringChecks_true (v : Value) (l : List Tm) (w : World) (hv : TmAt w v l) (hl : l.length ≤ 8796093022208) :
    Calls Try.prog 3 #[.agg #[v]] w fun r w' => r = .returned (.bool true) ∧ Below w.heap.size w w' := by
  obtain ⟨p, c, rfl, hc, hm, pv⟩ := hv.parts
  have HV : Hid _ := hv
  clear pv hv hm hc
  go_enter Try.func3, Try.ntmps3
  go_wp2_with fail
  obtain ⟨W0, hW0⟩ : ∃ W0, W0 = w.alloc (.cells #[.slice p l.length c] 24) := ⟨_, rfl⟩
  have hb0 : Below w.heap.size w W0 := by rw [hW0]; exact (Below.refl _ _).alloc (Nat.le_refl _) _
  have hR0 : W0.heap[w.heap.size]? = some (.cells #[.slice p l.length c] 24 (0, 0)) := by rw [hW0]; exact heap_alloc_new _ _
  rw [← hW0]
  have hv0 := HV.out.below hb0
  clear hW0
  refine (rings_any _ l _ hv0 hl).mono ?_
  rintro r w1 ⟨y, rfl, hown, hb1⟩
  have hT1 : TmAt w1 y l := rowAt_own hown
  have hbw1 := hb0.trans (hb1.mono hb0.size)
  have hR1 := box_below hR0 hb1
  have hv1 := hv0.below hb1
  have H1 : Hid (_ ∧ _ ∧ _ ∧ _) := ⟨hT1, hbw1, hR1, hv1⟩
  clear hT1 hbw1 hR1 hv1 hb0 hR0 hv0 hb1 hown
  obtain ⟨yp, yc, rfl⟩ : ∃ yp yc, y = .slice yp l.length yc := by obtain ⟨yp, yc, e, _⟩ := H1.out.1.parts; exact ⟨yp, yc, e⟩
  have hc1 := one_cell H1.out.2.2.1
  go_wp2_with fail
  refine (check_any _ l _ H1.out.1).mono ?_
  rintro r w2 ⟨e, rfl, he0, he6, hb2⟩
  have hbw2 := H1.out.2.1.trans (hb2.mono H1.out.2.1.size)
  have hR2 := box_below H1.out.2.2.1 hb2
  have hv2 := H1.out.2.2.2.below hb2
  have H2 : Hid (_ ∧ _ ∧ _ ∧ _) := ⟨hbw2, hv2, he0, he6⟩
  have hc2 := one_cell hR2
  clear hbw2 hR2 hv2 he0 he6 hb2 hc1
  go_wp2_with fail
  refine (ringFault_any _ l _ H2.out.2.1).mono ?_
  rintro r w3 ⟨f, rfl, hf0, hf6, hb3⟩
  have hef : e = f := by
    by_cases h : RingOk l
    · rw [H2.out.2.2.1 h, hf0 h]
    · rw [H2.out.2.2.2 h, hf6 h]
  have H3 : Hid (_ ∧ _) := ⟨hef, H2.out.1.trans (hb3.mono H2.out.1.size)⟩
  clear hef hf0 hf6 hb3 hc2
  obtain rfl : e = f := H3.out.1
  go_wp2
  go_ret
  exact ⟨by simp, H3.out.2⟩
end Go.Proofs.Ytpmobbbohchdlaa.Walks
