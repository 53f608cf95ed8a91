/-
  LifeChecks, LifeOfs. No condition.
-/
import Derived.Test.YtlpedligkofegaaRefD
import Derived.Test.YtlpedligkofegaaSame
import Derived.WalkKit
import Derived.ProofKit
import Derived.Handy
import Derived.LoopTactic
import Derived.Below
import Derived.Laws.BitsAllLaws
import Derived.RegionTactic
import Derived.Deep.RegionHeld3
import Derived.Deep.DrawnRows
import Derived.Deep.AppendLies
import Derived.Laws.OwnMore
import Derived.Deep.Onto
import Derived.Deep.QuietTactic
import Derived.BigQuiet
namespace Go.Proofs.Ytlpedligkofegaa.Walks
open Go.RowKit
set_option linter.unusedVariables false
set_option linter.unusedSimpArgs false
attribute [local go_sem ↓] Go.wp_at_zero Go.wp_at_succ

set_option maxHeartbeats 4000000 in
theorem checks_law (va vb : Value) (L : List Lf) (R : List Rq) (hL : L.length * 48 ≤ 140737488355328) (hR : R.length * 40 ≤ 140737488355328) (w : World) (hv : BkAt w va vb L R) :
    Calls Try.prog 3 #[bkV va vb] w fun e w' => e = .returned (.bool true) ∧ Below w.heap.size w w' := by
  obtain ⟨pa, ca, rfl, hca, hma⟩ := RcAt.form hv.1
  obtain ⟨pb, cb, rfl, hcb, hmb⟩ := RcAt.form hv.2
  obtain ⟨W0, hW0⟩ : ∃ W0, W0 = w.alloc (bkO (.slice pa L.length ca) (.slice pb R.length cb)) := ⟨_, rfl⟩
  have hB0 : Below w.heap.size w W0 := by rw [hW0]; exact below_new _
  have hR0 : W0.heap[w.heap.size]? = some (bkO (.slice pa L.length ca) (.slice pb R.length cb)) := by rw [hW0]; exact heap_alloc_new _ _
  have H : Hid (_ ∧ _ ∧ _) := ⟨hB0, hR0, hv.below hB0⟩
  have HC : Hid _ := books_any _ _ L R W0 H.out.2.2 hL hR
  obtain ⟨e, he⟩ : ∃ e, e = chkE L R := ⟨_, rfl⟩
  have HE : Hid _ := he
  clear hv hB0 hR0 he
  go_enter Try.func3, Try.ntmps3
  go_wp2_with fail
  rw [← hW0]
  clear hW0
  refine Calls.mono HC.out ?_
  rintro r w1 ⟨p, c, q, m, rfl, hn, hb1⟩
  have HK : Hid (_ ∧ _) := ⟨check_any _ _ L R w1 hn.1, hb1⟩
  rw [← HE.out] at HK
  clear hn hb1
  go_wp2_with fail
  refine Calls.mono HK.out.1 ?_
  rintro r w2 ⟨rfl, hb2⟩
  have hb3 : Below W0.heap.size W0 w2 := HK.out.2.trans (hb2.mono HK.out.2.size)
  obtain ⟨c0, c1, _, _, _⟩ := two_cells (box_below H.out.2.1 hb3)
  have HF : Hid (_ ∧ _) := ⟨bookFault_any _ _ L R w2 (H.out.2.2.below hb3), H.out.1.trans (hb3.mono H.out.1.size)⟩
  rw [← HE.out] at HF
  clear hb2 hb3
  go_wp2_with fail
  refine Calls.mono HF.out.1 ?_
  rintro r w4 ⟨rfl, hb4⟩
  have HZ : Hid _ := HF.out.2.trans (hb4.mono HF.out.2.size)
  clear hb4
  go_wp2
  go_ret
  exact ⟨by simp, HZ.out⟩

set_option maxHeartbeats 4000000 in
theorem ofs_law (va vb : Value) (L : List Lf) (R : List Rq) (hL : L.length * 48 ≤ 140737488355328) (hR : R.length * 40 ≤ 140737488355328) (n : Int) (hn0 : (Lit.int .i64 n).wf = true) (w : World) (hv : BkAt w va vb L R) :
    Calls Try.prog 7 #[bkV va vb, .int .i64 n] w fun e w' => e = .returned (.bool true) ∧ Below w.heap.size w w' := by
  obtain ⟨pa, ca, rfl, hca, hma⟩ := RcAt.form hv.1
  obtain ⟨pb, cb, rfl, hcb, hmb⟩ := RcAt.form hv.2
  obtain ⟨W0, hW0⟩ : ∃ W0, W0 = w.alloc (bkO (.slice pa L.length ca) (.slice pb R.length cb)) := ⟨_, rfl⟩
  have hB0 : Below w.heap.size w W0 := by rw [hW0]; exact below_new _
  have hR0 : W0.heap[w.heap.size]? = some (bkO (.slice pa L.length ca) (.slice pb R.length cb)) := by rw [hW0]; exact heap_alloc_new _ _
  have H : Hid (_ ∧ _ ∧ _) := ⟨hB0, hR0, hv.below hB0⟩
  have HC : Hid _ := books_any _ _ L R W0 H.out.2.2 hL hR
  obtain ⟨⟨⟨x1, x2, x3, x4, x5, x6⟩, e⟩, he⟩ : ∃ x, x = ofO L R n := ⟨_, rfl⟩
  have HE : Hid _ := he.symm
  clear hv hB0 hR0 he
  go_enter Try.func7, Try.ntmps7
  go_wp2_with fail
  rw [← hW0]
  clear hW0
  refine Calls.mono HC.out ?_
  rintro r w1 ⟨p, c, q, m, rfl, hn, hb1⟩
  have HK : Hid (_ ∧ _) := ⟨of_any _ _ L R n w1 hn.1 x1 x2 x3 x4 x5 x6 e HE.out, hb1⟩
  clear hn hb1
  go_wp2_with fail
  refine Calls.mono HK.out.1 ?_
  rintro r w2 ⟨rfl, hb2⟩
  have hb3 : Below W0.heap.size W0 w2 := HK.out.2.trans (hb2.mono HK.out.2.size)
  obtain ⟨W3, hW3⟩ : ∃ W3, W3 = w2.alloc (lfO x1 x2 x3 x4 x5 x6) := ⟨_, rfl⟩
  have hb4 : Below W0.heap.size W0 W3 := by rw [hW3]; exact hb3.alloc hb3.size _
  have hX3 : W3.heap[w2.heap.size]? = some (lfO x1 x2 x3 x4 x5 x6) := by rw [hW3]; exact heap_alloc_new _ _
  obtain ⟨c0, c1, _, _, clt⟩ := two_cells (box_below H.out.2.1 hb3)
  have HF : Hid (_ ∧ _ ∧ _) := ⟨lifeOf_any _ _ L R n W3 (H.out.2.2.below hb4) x1 x2 x3 x4 x5 x6 e HE.out, H.out.1.trans (hb4.mono H.out.1.size), hX3⟩
  clear hb2 hb3 hb4 hX3
  go_wp2_with fail
  rw [← hW3]
  clear hW3 c0 c1 clt
  refine Calls.mono HF.out.1 ?_
  rintro r w4 ⟨rfl, hb4⟩
  obtain ⟨y0, y1, y2, y3, y4, y5, ylt⟩ := six_cells (box_below HF.out.2.2 hb4)
  have HZ : Hid _ := HF.out.2.1.trans (hb4.mono HF.out.2.1.size)
  clear hb4
  go_wp2
  go_ret
  exact ⟨by simp, HZ.out.alloc HZ.out.size _⟩
end Go.Proofs.Ytlpedligkofegaa.Walks
