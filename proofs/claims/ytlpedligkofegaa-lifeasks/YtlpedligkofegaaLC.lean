/-
  LifeAsks. No condition.
-/
import Derived.Test.YtlpedligkofegaaRefG
import Derived.Test.YtlpedligkofegaaLB
import Derived.WalkKit
import Derived.ProofKit
import Derived.Handy
import Derived.LoopTactic
import Derived.Below
import Derived.Laws.BitsAllLaws
import Derived.RegionTactic
import Derived.Deep.RegionHeld3
import Derived.Deep.DrawnRows
import Derived.Deep.AppendLies
import Derived.Laws.OwnMore
import Derived.Deep.Onto
import Derived.Deep.QuietTactic
import Derived.BigQuiet
namespace Go.Proofs.Ytlpedligkofegaa.Walks
open Go.RowKit
set_option linter.unusedVariables false
set_option linter.unusedSimpArgs false
attribute [local go_sem ↓] Go.wp_at_zero Go.wp_at_succ

set_option maxHeartbeats 8000000 in
set_option maxRecDepth 100000 in
theorem asks_law (va vb : Value) (L : List Lf) (R : List Rq) (hL : L.length * 48 ≤ 140737488355328) (hR : R.length * 40 ≤ 140737488355328) (r1 r2 r3 r4 r5 : Int) (hr1 : (Lit.int .i64 r1).wf = true) (hr2 : (Lit.int .i64 r2).wf = true) (hr3 : (Lit.int .i64 r3).wf = true) (hr4 : (Lit.int .i64 r4).wf = true) (hr5 : (Lit.int .i64 r5).wf = true) (now : Int) (hn0 : (Lit.int .i64 now).wf = true) (drain : Int) (hd0 : (Lit.int .i64 drain).wf = true) (w : World) (hv : BkAt w va vb L R) :
    Calls Try.prog 4 #[bkV va vb, rqV r1 r2 r3 r4 r5, .int .i64 now, .int .i64 drain] w fun e w' => e = .returned (.bool true) ∧ Below w.heap.size w w' := by
  obtain ⟨pa, ca, rfl, hca, hma⟩ := RcAt.form hv.1
  obtain ⟨pb, cb, rfl, hcb, hmb⟩ := RcAt.form hv.2
  obtain ⟨W0, hW0⟩ : ∃ W0, W0 = (w.alloc (bkO (.slice pa L.length ca) (.slice pb R.length cb))).alloc (rqO r1 r2 r3 r4 r5) := ⟨_, rfl⟩
  have H0 : Hid (Bx w W0 w.heap.size (.slice pa L.length ca) (.slice pb R.length cb) L R ∧ W0.heap[w.heap.size + 1]? = some (rqO r1 r2 r3 r4 r5)) := by
    rw [hW0]
    exact ⟨(bx_new hv (Below.refl _ _)).alloc _, heap_second _ _ _⟩
  have HC : Hid _ := books_any _ _ L R W0 H0.out.1.2.1 hL hR
  obtain ⟨⟨⟨L', R'⟩, a, b, e⟩, hO⟩ : ∃ x, x = askO L R (r1, r2, r3, r4, r5) now drain := ⟨_, rfl⟩
  have HA : Hid (∀ (u v : Value) (W : World), BkAt W u v L R → Calls Try.prog 12 #[bkV u v, rqV r1 r2 r3 r4 r5, .int .i64 now, .int .i64 drain] W (AskPost W ((L', R'), a, b, e))) := fun u v W h => by rw [hO]; exact ask_any u v L R r1 r2 r3 r4 r5 now drain W h
  have HB : Hid (∀ (u v : Value) (W : World), BkAt W u v L R → Calls Try.prog 13 #[bkV u v, rqV r1 r2 r3 r4 r5, .int .i64 now, .int .i64 drain] W (AskPost W ((L', R'), a, b, e))) := fun u v W h => by rw [hO]; exact asked_ref u v L R r1 r2 r3 r4 r5 now drain W h
  clear hv hO hn0 hd0 hr1 hr2 hr3 hr4 hr5
  go_enter Try.func4, Try.ntmps4
  go_wp2_with fail
  rw [← hW0]
  clear hW0
  refine Calls.mono HC.out ?_
  rintro r w1 ⟨p, c, q, m, rfl, hn1, hb1⟩
  obtain ⟨W1, hW1⟩ : ∃ W1, W1 = w1.alloc (bkO (.slice p L.length c) (.slice q R.length m)) := ⟨_, rfl⟩
  obtain ⟨a0, a1, a2, a3, a4, alt⟩ := five_cells (box_below H0.out.2 hb1)
  have H1 : Hid (Bx w W1 w.heap.size (.slice pa L.length ca) (.slice pb R.length cb) L R ∧ Bx w W1 w1.heap.size (.slice p L.length c) (.slice q R.length m) L R ∧ W1.heap[w.heap.size + 1]? = some (rqO r1 r2 r3 r4 r5)) := by
    rw [hW1]
    exact ⟨(H0.out.1.below hb1).alloc _, bx_new hn1.1 (H0.out.1.2.2.trans (hb1.mono H0.out.1.2.2.size)), box_below (box_below H0.out.2 hb1) (below_new _)⟩
  clear hn1 hb1
  go_wp2_with fail
  rw [← hW1]
  clear hW1 a0 a1 a2 a3 a4 alt
  obtain ⟨g1, hg1⟩ : ∃ g1, g1 = w1.heap.size := ⟨_, rfl⟩
  rw [← hg1] at H1 ⊢
  clear hg1
  refine Calls.mono (HA.out _ _ W1 H1.out.2.1.2.1) ?_
  intro r w2 hp2
  obtain ⟨p2, c2, q2, m2, rfl, hn2, hb2⟩ := askPost_open hp2
  obtain ⟨W2, hW2⟩ : ∃ W2, W2 = w2.alloc (bkO (.slice p2 L'.length c2) (.slice q2 R'.length m2)) := ⟨_, rfl⟩
  obtain ⟨z0, z1, zlt⟩ := (H1.out.1.below hb2).cells
  obtain ⟨a0, a1, a2, a3, a4, alt⟩ := five_cells (box_below H1.out.2.2 hb2)
  have H2 : Hid (Bx w W2 w.heap.size (.slice pa L.length ca) (.slice pb R.length cb) L R ∧ Bx w W2 g1 (.slice p L.length c) (.slice q R.length m) L R ∧ Bx w W2 w2.heap.size (.slice p2 L'.length c2) (.slice q2 R'.length m2) L' R') := by
    rw [hW2]
    exact ⟨(H1.out.1.below hb2).alloc _, (H1.out.2.1.below hb2).alloc _, bx_new hn2.1 (H1.out.1.2.2.trans (hb2.mono H1.out.1.2.2.size))⟩
  clear hn2 hb2 hp2
  go_wp2_with fail
  rw [← hW2]
  clear hW2 z0 z1 zlt a0 a1 a2 a3 a4 alt
  obtain ⟨g2, hg2⟩ : ∃ g2, g2 = w2.heap.size := ⟨_, rfl⟩
  rw [← hg2] at H2 ⊢
  clear hg2
  refine Calls.mono (HB.out _ _ W2 H2.out.1.2.1) ?_
  intro r w3 hp3
  obtain ⟨p3, c3, q3, m3, rfl, hn3, hb3⟩ := askPost_open hp3
  obtain ⟨W3, hW3⟩ : ∃ W3, W3 = w3.alloc (bkO (.slice p3 L'.length c3) (.slice q3 R'.length m3)) := ⟨_, rfl⟩
  obtain ⟨z0, z1, zlt⟩ := (H2.out.2.2.below hb3).cells
  have H3 : Hid (Bx w W3 w.heap.size (.slice pa L.length ca) (.slice pb R.length cb) L R ∧ Bx w W3 g1 (.slice p L.length c) (.slice q R.length m) L R ∧ Bx w W3 g2 (.slice p2 L'.length c2) (.slice q2 R'.length m2) L' R' ∧ Bx w W3 w3.heap.size (.slice p3 L'.length c3) (.slice q3 R'.length m3) L' R') := by
    rw [hW3]
    exact ⟨(H2.out.1.below hb3).alloc _, (H2.out.2.1.below hb3).alloc _, (H2.out.2.2.below hb3).alloc _, bx_new hn3.1 (H2.out.1.2.2.trans (hb3.mono H2.out.1.2.2.size))⟩
  clear hn3 hb3 hp3
  go_wp2_with fail
  rw [← hW3]
  clear hW3 z0 z1 zlt
  refine Calls.mono (sameBookL _ _ _ _ L' R' W3 H3.out.2.2.1.2.1 H3.out.2.2.2.2.1) ?_
  rintro r w4 ⟨rfl, hb4⟩
  have H4 : Hid (Bx w w4 w.heap.size (.slice pa L.length ca) (.slice pb R.length cb) L R ∧ Bx w w4 g1 (.slice p L.length c) (.slice q R.length m) L R) := ⟨H3.out.1.below hb4, H3.out.2.1.below hb4⟩
  clear hb4
  obtain ⟨z0, z1, zlt⟩ := H4.out.1.cells
  obtain ⟨y0, y1, ylt⟩ := H4.out.2.cells
  go_wp2_with fail
  refine Calls.mono (sameBookL _ _ _ _ L R w4 H4.out.2.2.1 H4.out.1.2.1) ?_
  rintro r w5 ⟨rfl, hb5⟩
  have HZ : Hid _ := H4.out.1.2.2.trans (hb5.mono H4.out.1.2.2.size)
  clear hb5
  go_wp2
  go_ret
  exact ⟨rfl, HZ.out⟩
end Go.Proofs.Ytlpedligkofegaa.Walks
