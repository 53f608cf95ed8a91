/-
  RingRemoves returns true. Condition: the ring's spots can be read, and its copy has room.
-/
import Derived.Test.YtpmobbbohchdlaaLAdds
import Derived.Test.YtpmobbbohchdlaaRemove
import Derived.WalkKit
import Derived.ProofKit
import Derived.Handy
import Derived.LoopTactic
import Derived.Below
import Derived.Laws.BitsAllLaws
import Derived.RegionTactic
import Derived.Deep.RegionHeld3
import Derived.Deep.DrawnRows
import Derived.Deep.AppendLies
import Derived.Laws.OwnMore
import Derived.Deep.Onto
import Derived.Deep.QuietTactic
import Derived.BigQuiet
namespace Go.Proofs.Ytpmobbbohchdlaa.Walks
open Go.RowKit
set_option linter.unusedVariables false
set_option linter.unusedSimpArgs false
attribute [local go_sem ↓] Go.wp_at_zero Go.wp_at_succ

/-- What Remove answers. -/
def remOut (l : List Tm) (n : Int) [Decidable (RingOk l)] : Int × List Tm :=
  if ¬ RingOk l then (6, []) else if ¬ ((0 ≤ n ∧ n < 12) ∧ 0 < (wOf l).getD n.toNat 0) then (8, []) else (0, spotsOf ((wOf l).set n.toNat 0))

open Classical in
theorem RemRes.out {l : List Tm} {n : Int} {w : World} {r : Ending} {w' : World} (h : RemRes l n w r w') :
    ∃ y, r = .returned (.tuple #[.agg #[y], .int .i64 (remOut l n).1]) ∧ TmAt w' y (remOut l n).2 ∧ Below w.heap.size w w' := by
  obtain ⟨y, e, rfl, hb, h⟩ := h
  refine ⟨y, ?_, ?_, hb⟩
  · rcases h with ⟨h1, rfl, _⟩ | ⟨h1, h2, rfl, _⟩ | ⟨h1, h2, rfl, _⟩
    · simp [remOut, h1]
    · simp only [remOut, h1, not_true_eq_false, if_false, if_pos h2]
    · simp only [remOut, h1, not_true_eq_false, if_false, if_neg (not_not_intro h2)]
  · rcases h with ⟨h1, _, rfl⟩ | ⟨h1, h2, _, rfl⟩ | ⟨h1, h2, _, ho⟩
    · simp only [remOut, h1, not_false_eq_true, if_true]; exact tmAt_nil _
    · simp only [remOut, h1, not_true_eq_false, if_false, if_pos h2]; exact tmAt_nil _
    · simp only [remOut, h1, not_true_eq_false, if_false, if_neg (not_not_intro h2)]; exact rowAt_own ho

open Classical in
set_option maxHeartbeats 4000000 in
set_option maxRecDepth 100000 in
theorem ringRemoves_true (v : Value) (l : List Tm) (n : Int) (w : World) (hv : TmAt w v l) (hl : l.length ≤ 8796093022208) :
    Calls Try.prog 5 #[.agg #[v], .int .i64 n] w fun r w' => r = .returned (.bool true) ∧ Below w.heap.size w w' := by
  obtain ⟨p, c, rfl⟩ := hv.form
  have HV : Hid _ := hv
  clear hv
  go_enter Try.func5, Try.ntmps5
  go_wp2_with fail
  obtain ⟨W0, hW0⟩ : ∃ W0, W0 = w.alloc (.cells #[.slice p l.length c] 24) := ⟨_, rfl⟩
  have hb0 : Below w.heap.size w W0 := by rw [hW0]; exact below_new _ _
  have hR0 : BoxR W0 w.heap.size (.slice p l.length c) l := by rw [hW0]; exact BoxR.new HV.out
  rw [← hW0]
  clear hW0
  refine (rings_any _ l _ hR0.2 hl).mono ?_
  rintro r w1 ⟨y, rfl, hown, hb1⟩
  obtain ⟨yp, yc, rfl⟩ := own_form hown
  have hT1 : TmAt w1 (.slice yp l.length yc) l := rowAt_own hown
  have hR1 := hR0.below hb1
  have hbw1 := hb0.trans (hb1.mono hb0.size)
  obtain ⟨W1, hW1⟩ : ∃ W1, W1 = w1.alloc (.cells #[.slice yp l.length yc] 24) := ⟨_, rfl⟩
  have hbx : Below w1.heap.size w1 W1 := by rw [hW1]; exact below_new _ _
  have hC1 : BoxR W1 w1.heap.size (.slice yp l.length yc) l := by rw [hW1]; exact BoxR.new hT1
  have H1 : Hid (_ ∧ _ ∧ _ ∧ _) := ⟨hbw1.trans (hbx.mono hbw1.size), hR1.below hbx, hC1, hW1⟩
  have hg1 : w.heap.size < w1.heap.size := hR1.lt
  clear hbw1 hR1 hC1 hW1 hbx hb1 hb0 hR0 hown hT1
  go_wp2_with fail
  rw [← H1.out.2.2.2]
  refine (remove_any _ l n _ H1.out.2.2.1.2).mono ?_
  rintro r w2 hres
  obtain ⟨a, rfl, hTa, hb2⟩ := hres.out
  clear hres
  obtain ⟨ap, ac, rfl⟩ := hTa.form
  obtain ⟨W2, hW2⟩ : ∃ W2, W2 = w2.alloc (.cells #[.slice ap (remOut l n).2.length ac] 24) := ⟨_, rfl⟩
  have hbx : Below w2.heap.size w2 W2 := by rw [hW2]; exact below_new _ _
  have hA2 : BoxR W2 w2.heap.size (.slice ap (remOut l n).2.length ac) (remOut l n).2 := by rw [hW2]; exact BoxR.new hTa
  have hR2 := (H1.out.2.1.below hb2).below hbx
  have hC2 := (H1.out.2.2.1.below hb2).below hbx
  have hbw2 := H1.out.1.trans (hb2.mono H1.out.1.size)
  have hc2 := hR2.cell
  have H2 : Hid (_ ∧ _ ∧ _ ∧ _ ∧ _) := ⟨hbw2.trans (hbx.mono hbw2.size), hR2, hC2, hA2, hW2⟩
  have hg2 : w1.heap.size < w2.heap.size := (H1.out.2.2.1.below hb2).lt
  have hcR := (H1.out.2.1.below hb2).cell
  have hltR : w.heap.size < w2.heap.size := by omega
  clear hbw2 hR2 hC2 hA2 hW2 hbx hb2 hTa hc2 H1
  go_wp2_with fail
  rw [← H2.out.2.2.2.2]
  refine (ringRemoved_any _ l n _ H2.out.2.1.2).mono ?_
  rintro r w3 hres
  obtain ⟨b, rfl, hTb, hb3⟩ := hres.out
  clear hres
  obtain ⟨bp, bc, rfl⟩ := hTb.form
  obtain ⟨W3, hW3⟩ : ∃ W3, W3 = w3.alloc (.cells #[.slice bp (remOut l n).2.length bc] 24) := ⟨_, rfl⟩
  have hbx : Below w3.heap.size w3 W3 := by rw [hW3]; exact below_new _ _
  have hB3 : BoxR W3 w3.heap.size (.slice bp (remOut l n).2.length bc) (remOut l n).2 := by rw [hW3]; exact BoxR.new hTb
  have hR3 := (H2.out.2.1.below hb3).below hbx
  have hC3 := (H2.out.2.2.1.below hb3).below hbx
  have hA3 := (H2.out.2.2.2.1.below hb3).below hbx
  have hbw3 := H2.out.1.trans (hb3.mono H2.out.1.size)
  have H3 : Hid (_ ∧ _ ∧ _ ∧ _ ∧ _ ∧ _) := ⟨hbw3.trans (hbx.mono hbw3.size), hR3, hC3, hA3, hB3, hW3⟩
  have hg3 : w2.heap.size < w3.heap.size := (H2.out.2.2.2.1.below hb3).lt
  have hcA := (H2.out.2.2.2.1.below hb3).cell
  clear hbw3 hR3 hC3 hA3 hB3 hW3 hbx hb3 hTb H2 hcR
  go_wp2_with fail
  rw [← H3.out.2.2.2.2.2]
  refine (sameRing_any _ _ _ _ _ H3.out.2.2.2.1.2 H3.out.2.2.2.2.1.2).mono ?_
  rintro r w4 ⟨rfl, hb4⟩
  rw [decide_eq_true rfl]
  have hR4 := H3.out.2.1.below hb4
  have hC4 := H3.out.2.2.1.below hb4
  have H4 : Hid (_ ∧ _ ∧ _) := ⟨H3.out.1.trans (hb4.mono H3.out.1.size), hR4, hC4⟩
  have hcR := hR4.cell
  have hcC := hC4.cell
  clear hR4 hC4 hb4 H3 hcA
  go_wp2_with fail
  refine (sameRing_any _ _ _ _ _ H4.out.2.2.2 H4.out.2.1.2).mono ?_
  rintro r w5 ⟨rfl, hb5⟩
  rw [decide_eq_true rfl]
  go_wp2
  go_ret
  exact ⟨rfl, H4.out.1.trans (hb5.mono H4.out.1.size)⟩

theorem ringRemoves_row (w : World) (v : Value) (l : List Tm) (hv : TmAt w v l) (hl : l.length ≤ 8796093022208) (n : Int) (wn : (Lit.int .i64 n).wf = true) :
    Calls Try.prog 5 #[.agg #[v], .int .i64 n] w fun r w' => r = .returned (.bool true) ∧ Below w.heap.size w w' := ringRemoves_true v l n w hv hl
end Go.Proofs.Ytpmobbbohchdlaa.Walks
