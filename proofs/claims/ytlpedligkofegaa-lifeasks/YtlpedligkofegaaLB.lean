/-
  LifeFinishes, LifeWakes. No condition.
-/
import Derived.Test.YtlpedligkofegaaRefF
import Derived.Test.YtlpedligkofegaaSame
import Derived.WalkKit
import Derived.ProofKit
import Derived.Handy
import Derived.LoopTactic
import Derived.Below
import Derived.Laws.BitsAllLaws
import Derived.RegionTactic
import Derived.Deep.RegionHeld3
import Derived.Deep.DrawnRows
import Derived.Deep.AppendLies
import Derived.Laws.OwnMore
import Derived.Deep.Onto
import Derived.Deep.QuietTactic
import Derived.BigQuiet
namespace Go.Proofs.Ytlpedligkofegaa.Walks
open Go.RowKit
set_option linter.unusedVariables false
set_option linter.unusedSimpArgs false
attribute [local go_sem ↓] Go.wp_at_zero Go.wp_at_succ

theorem finPost_open {w w' : World} {L : List Lf} {R : List Rq} {e : Int} {r : Ending} (h : FinPost w ((L, R), e) r w') : ∃ p c q m, r = .returned (.tuple #[bkV (.slice p L.length c) (.slice q R.length m), .int .i64 e]) ∧ BkNew w.heap.size w' (.slice p L.length c) (.slice q R.length m) L R ∧ Below w.heap.size w w' := h

theorem wakePost_open {w w' : World} {L : List Lf} {R : List Rq} {s : List Int} {e : Int} {r : Ending} (h : WakePost w ((L, R), s, e) r w') : ∃ p c q m u k, r = .returned (.tuple #[bkV (.slice p L.length c) (.slice q R.length m), .slice u s.length k, .int .i64 e]) ∧ BkNew w.heap.size w' (.slice p L.length c) (.slice q R.length m) L R ∧ InAt w' (.slice u s.length k) s ∧ Below w.heap.size w w' := h

theorem askPost_open {w w' : World} {L : List Lf} {R : List Rq} {a e : Int} {b : Bool} {r : Ending} (h : AskPost w ((L, R), a, b, e) r w') : ∃ p c q m, r = .returned (.tuple #[bkV (.slice p L.length c) (.slice q R.length m), .int .i64 a, .bool b, .int .i64 e]) ∧ BkNew w.heap.size w' (.slice p L.length c) (.slice q R.length m) L R ∧ Below w.heap.size w w' := h

/-- A book in a box of a law's own, which can be read. -/
def Bx (w W : World) (g : Nat) (va vb : Value) (L : List Lf) (R : List Rq) : Prop := W.heap[g]? = some (bkO va vb) ∧ BkAt W va vb L R ∧ Below w.heap.size w W

theorem Bx.below {w W W' : World} {g : Nat} {va vb : Value} {L : List Lf} {R : List Rq} (h : Bx w W g va vb L R) (hb : Below W.heap.size W W') : Bx w W' g va vb L R := ⟨box_below h.1 hb, h.2.1.below hb, h.2.2.trans (hb.mono h.2.2.size)⟩

theorem Bx.alloc {w W : World} {g : Nat} {va vb : Value} {L : List Lf} {R : List Rq} (h : Bx w W g va vb L R) (o : Obj) : Bx w (W.alloc o) g va vb L R := h.below (below_new _)

theorem bx_new {w W : World} {va vb : Value} {L : List Lf} {R : List Rq} (h : BkAt W va vb L R) (hb : Below w.heap.size w W) : Bx w (W.alloc (bkO va vb)) W.heap.size va vb L R := ⟨heap_alloc_new _ _, h.below (below_new _), hb.alloc hb.size _⟩

theorem Bx.cells {w W : World} {g : Nat} {va vb : Value} {L : List Lf} {R : List Rq} (h : Bx w W g va vb L R) : W.cell? ⟨g, 0, none⟩ = some va ∧ W.cell? ⟨g, 1, none⟩ = some vb ∧ g < W.heap.size := by
  obtain ⟨h0, h1, _, _, h2⟩ := two_cells h.1
  exact ⟨h0, h1, h2⟩

set_option maxHeartbeats 8000000 in
set_option maxRecDepth 100000 in
theorem finishes_law (va vb : Value) (L : List Lf) (R : List Rq) (hL : L.length * 48 ≤ 140737488355328) (hR : R.length * 40 ≤ 140737488355328) (n : Int) (hn0 : (Lit.int .i64 n).wf = true) (w : World) (hv : BkAt w va vb L R) :
    Calls Try.prog 6 #[bkV va vb, .int .i64 n] w fun e w' => e = .returned (.bool true) ∧ Below w.heap.size w w' := by
  obtain ⟨pa, ca, rfl, hca, hma⟩ := RcAt.form hv.1
  obtain ⟨pb, cb, rfl, hcb, hmb⟩ := RcAt.form hv.2
  obtain ⟨W0, hW0⟩ : ∃ W0, W0 = w.alloc (bkO (.slice pa L.length ca) (.slice pb R.length cb)) := ⟨_, rfl⟩
  have H0 : Hid (Bx w W0 w.heap.size (.slice pa L.length ca) (.slice pb R.length cb) L R) := by rw [hW0]; exact bx_new hv (Below.refl _ _)
  have HC : Hid _ := books_any _ _ L R W0 H0.out.2.1 hL hR
  obtain ⟨⟨⟨L', R'⟩, e⟩, hO⟩ : ∃ x, x = finO L R n := ⟨_, rfl⟩
  have HA : Hid (∀ (u v : Value) (W : World), BkAt W u v L R → Calls Try.prog 18 #[bkV u v, .int .i64 n] W (FinPost W ((L', R'), e))) := fun u v W h => by rw [hO]; exact finish_any u v L R n W h
  have HB : Hid (∀ (u v : Value) (W : World), BkAt W u v L R → Calls Try.prog 19 #[bkV u v, .int .i64 n] W (FinPost W ((L', R'), e))) := fun u v W h => by rw [hO]; exact finished_any u v L R n W h
  clear hv hO hn0
  go_enter Try.func6, Try.ntmps6
  go_wp2_with fail
  rw [← hW0]
  clear hW0
  refine Calls.mono HC.out ?_
  rintro r w1 ⟨p, c, q, m, rfl, hn1, hb1⟩
  obtain ⟨W1, hW1⟩ : ∃ W1, W1 = w1.alloc (bkO (.slice p L.length c) (.slice q R.length m)) := ⟨_, rfl⟩
  have H1 : Hid (Bx w W1 w.heap.size (.slice pa L.length ca) (.slice pb R.length cb) L R ∧ Bx w W1 w1.heap.size (.slice p L.length c) (.slice q R.length m) L R) := by
    rw [hW1]
    exact ⟨(H0.out.below hb1).alloc _, bx_new hn1.1 (H0.out.2.2.trans (hb1.mono H0.out.2.2.size))⟩
  clear hn1 hb1
  go_wp2_with fail
  rw [← hW1]
  clear hW1
  obtain ⟨g1, hg1⟩ : ∃ g1, g1 = w1.heap.size := ⟨_, rfl⟩
  rw [← hg1] at H1 ⊢
  clear hg1
  refine Calls.mono (HA.out _ _ W1 H1.out.2.2.1) ?_
  intro r w2 hp2
  obtain ⟨p2, c2, q2, m2, rfl, hn2, hb2⟩ := finPost_open hp2
  obtain ⟨W2, hW2⟩ : ∃ W2, W2 = w2.alloc (bkO (.slice p2 L'.length c2) (.slice q2 R'.length m2)) := ⟨_, rfl⟩
  obtain ⟨z0, z1, zlt⟩ := (H1.out.1.below hb2).cells
  have H2 : Hid (Bx w W2 w.heap.size (.slice pa L.length ca) (.slice pb R.length cb) L R ∧ Bx w W2 g1 (.slice p L.length c) (.slice q R.length m) L R ∧ Bx w W2 w2.heap.size (.slice p2 L'.length c2) (.slice q2 R'.length m2) L' R') := by
    rw [hW2]
    exact ⟨(H1.out.1.below hb2).alloc _, (H1.out.2.below hb2).alloc _, bx_new hn2.1 (H1.out.2.2.2.trans (hb2.mono H1.out.2.2.2.size))⟩
  clear hn2 hb2 hp2
  go_wp2_with fail
  rw [← hW2]
  clear hW2 z0 z1 zlt
  obtain ⟨g2, hg2⟩ : ∃ g2, g2 = w2.heap.size := ⟨_, rfl⟩
  rw [← hg2] at H2 ⊢
  clear hg2
  refine Calls.mono (HB.out _ _ W2 H2.out.1.2.1) ?_
  intro r w3 hp3
  obtain ⟨p3, c3, q3, m3, rfl, hn3, hb3⟩ := finPost_open hp3
  obtain ⟨W3, hW3⟩ : ∃ W3, W3 = w3.alloc (bkO (.slice p3 L'.length c3) (.slice q3 R'.length m3)) := ⟨_, rfl⟩
  obtain ⟨z0, z1, zlt⟩ := (H2.out.2.2.below hb3).cells
  have H3 : Hid (Bx w W3 w.heap.size (.slice pa L.length ca) (.slice pb R.length cb) L R ∧ Bx w W3 g1 (.slice p L.length c) (.slice q R.length m) L R ∧ Bx w W3 g2 (.slice p2 L'.length c2) (.slice q2 R'.length m2) L' R' ∧ Bx w W3 w3.heap.size (.slice p3 L'.length c3) (.slice q3 R'.length m3) L' R') := by
    rw [hW3]
    exact ⟨(H2.out.1.below hb3).alloc _, (H2.out.2.1.below hb3).alloc _, (H2.out.2.2.below hb3).alloc _, bx_new hn3.1 (H2.out.1.2.2.trans (hb3.mono H2.out.1.2.2.size))⟩
  clear hn3 hb3 hp3
  go_wp2_with fail
  rw [← hW3]
  clear hW3 z0 z1 zlt
  refine Calls.mono (sameBookL _ _ _ _ L' R' W3 H3.out.2.2.1.2.1 H3.out.2.2.2.2.1) ?_
  rintro r w4 ⟨rfl, hb4⟩
  have H4 : Hid (Bx w w4 w.heap.size (.slice pa L.length ca) (.slice pb R.length cb) L R ∧ Bx w w4 g1 (.slice p L.length c) (.slice q R.length m) L R) := ⟨H3.out.1.below hb4, H3.out.2.1.below hb4⟩
  clear hb4
  obtain ⟨z0, z1, zlt⟩ := H4.out.1.cells
  obtain ⟨y0, y1, ylt⟩ := H4.out.2.cells
  go_wp2_with fail
  refine Calls.mono (sameBookL _ _ _ _ L R w4 H4.out.2.2.1 H4.out.1.2.1) ?_
  rintro r w5 ⟨rfl, hb5⟩
  have HZ : Hid _ := H4.out.1.2.2.trans (hb5.mono H4.out.1.2.2.size)
  clear hb5
  go_wp2
  go_ret
  exact ⟨rfl, HZ.out⟩

set_option maxHeartbeats 8000000 in
set_option maxRecDepth 100000 in
theorem wakes_law (va vb : Value) (L : List Lf) (R : List Rq) (hL : L.length * 48 ≤ 140737488355328) (hR : R.length * 40 ≤ 140737488355328) (n : Int) (hn0 : (Lit.int .i64 n).wf = true) (w : World) (hv : BkAt w va vb L R) :
    Calls Try.prog 5 #[bkV va vb, .int .i64 n] w fun e w' => e = .returned (.bool true) ∧ Below w.heap.size w w' := by
  obtain ⟨pa, ca, rfl, hca, hma⟩ := RcAt.form hv.1
  obtain ⟨pb, cb, rfl, hcb, hmb⟩ := RcAt.form hv.2
  obtain ⟨W0, hW0⟩ : ∃ W0, W0 = w.alloc (bkO (.slice pa L.length ca) (.slice pb R.length cb)) := ⟨_, rfl⟩
  have H0 : Hid (Bx w W0 w.heap.size (.slice pa L.length ca) (.slice pb R.length cb) L R) := by rw [hW0]; exact bx_new hv (Below.refl _ _)
  have HC : Hid _ := books_any _ _ L R W0 H0.out.2.1 hL hR
  obtain ⟨⟨⟨L', R'⟩, s, e⟩, hO⟩ : ∃ x, x = wakeO L R n := ⟨_, rfl⟩
  have HA : Hid (∀ (u v : Value) (W : World), BkAt W u v L R → Calls Try.prog 15 #[bkV u v, .int .i64 n] W (WakePost W ((L', R'), s, e))) := fun u v W h => by rw [hO]; exact wakeApi_any u v L R n W h
  have HB : Hid (∀ (u v : Value) (W : World), BkAt W u v L R → Calls Try.prog 16 #[bkV u v, .int .i64 n] W (WakePost W ((L', R'), s, e))) := fun u v W h => by rw [hO]; exact woken_any u v L R n W h
  clear hv hO hn0
  go_enter Try.func5, Try.ntmps5
  go_wp2_with fail
  rw [← hW0]
  clear hW0
  refine Calls.mono HC.out ?_
  rintro r w1 ⟨p, c, q, m, rfl, hn1, hb1⟩
  obtain ⟨W1, hW1⟩ : ∃ W1, W1 = w1.alloc (bkO (.slice p L.length c) (.slice q R.length m)) := ⟨_, rfl⟩
  have H1 : Hid (Bx w W1 w.heap.size (.slice pa L.length ca) (.slice pb R.length cb) L R ∧ Bx w W1 w1.heap.size (.slice p L.length c) (.slice q R.length m) L R) := by
    rw [hW1]
    exact ⟨(H0.out.below hb1).alloc _, bx_new hn1.1 (H0.out.2.2.trans (hb1.mono H0.out.2.2.size))⟩
  clear hn1 hb1
  go_wp2_with fail
  rw [← hW1]
  clear hW1
  obtain ⟨g1, hg1⟩ : ∃ g1, g1 = w1.heap.size := ⟨_, rfl⟩
  rw [← hg1] at H1 ⊢
  clear hg1
  refine Calls.mono (HA.out _ _ W1 H1.out.2.2.1) ?_
  intro r w2 hp2
  obtain ⟨p2, c2, q2, m2, u2, k2, rfl, hn2, hi2, hb2⟩ := wakePost_open hp2
  obtain ⟨W2, hW2⟩ : ∃ W2, W2 = w2.alloc (bkO (.slice p2 L'.length c2) (.slice q2 R'.length m2)) := ⟨_, rfl⟩
  obtain ⟨z0, z1, zlt⟩ := (H1.out.1.below hb2).cells
  have H2 : Hid (Bx w W2 w.heap.size (.slice pa L.length ca) (.slice pb R.length cb) L R ∧ Bx w W2 g1 (.slice p L.length c) (.slice q R.length m) L R ∧ Bx w W2 w2.heap.size (.slice p2 L'.length c2) (.slice q2 R'.length m2) L' R' ∧ InAt W2 (.slice u2 s.length k2) s) := by
    rw [hW2]
    exact ⟨(H1.out.1.below hb2).alloc _, (H1.out.2.below hb2).alloc _, bx_new hn2.1 (H1.out.2.2.2.trans (hb2.mono H1.out.2.2.2.size)), RcAt.below hi2 (below_new _)⟩
  clear hn2 hb2 hp2 hi2
  go_wp2_with fail
  rw [← hW2]
  clear hW2 z0 z1 zlt
  obtain ⟨g2, hg2⟩ : ∃ g2, g2 = w2.heap.size := ⟨_, rfl⟩
  rw [← hg2] at H2 ⊢
  clear hg2
  refine Calls.mono (HB.out _ _ W2 H2.out.1.2.1) ?_
  intro r w3 hp3
  obtain ⟨p3, c3, q3, m3, u3, k3, rfl, hn3, hi3, hb3⟩ := wakePost_open hp3
  obtain ⟨W3, hW3⟩ : ∃ W3, W3 = w3.alloc (bkO (.slice p3 L'.length c3) (.slice q3 R'.length m3)) := ⟨_, rfl⟩
  obtain ⟨z0, z1, zlt⟩ := (H2.out.2.2.1.below hb3).cells
  have H3 : Hid (Bx w W3 w.heap.size (.slice pa L.length ca) (.slice pb R.length cb) L R ∧ Bx w W3 g1 (.slice p L.length c) (.slice q R.length m) L R ∧ Bx w W3 g2 (.slice p2 L'.length c2) (.slice q2 R'.length m2) L' R' ∧ Bx w W3 w3.heap.size (.slice p3 L'.length c3) (.slice q3 R'.length m3) L' R' ∧ InAt W3 (.slice u2 s.length k2) s ∧ InAt W3 (.slice u3 s.length k3) s) := by
    rw [hW3]
    exact ⟨(H2.out.1.below hb3).alloc _, (H2.out.2.1.below hb3).alloc _, (H2.out.2.2.1.below hb3).alloc _, bx_new hn3.1 (H2.out.1.2.2.trans (hb3.mono H2.out.1.2.2.size)), RcAt.below (RcAt.below H2.out.2.2.2 hb3) (below_new _), RcAt.below hi3 (below_new _)⟩
  clear hn3 hb3 hp3 hi3
  go_wp2_with fail
  rw [← hW3]
  clear hW3 z0 z1 zlt
  obtain ⟨g3, hg3⟩ : ∃ g3, g3 = w3.heap.size := ⟨_, rfl⟩
  rw [← hg3] at H3 ⊢
  clear hg3
  refine Calls.mono (sameInts_any _ _ s W3 H3.out.2.2.2.2.1 H3.out.2.2.2.2.2) ?_
  rintro r w4 ⟨rfl, hb4⟩
  have H4 : Hid (Bx w w4 w.heap.size (.slice pa L.length ca) (.slice pb R.length cb) L R ∧ Bx w w4 g1 (.slice p L.length c) (.slice q R.length m) L R ∧ Bx w w4 g2 (.slice p2 L'.length c2) (.slice q2 R'.length m2) L' R' ∧ Bx w w4 g3 (.slice p3 L'.length c3) (.slice q3 R'.length m3) L' R') := ⟨H3.out.1.below hb4, H3.out.2.1.below hb4, H3.out.2.2.1.below hb4, H3.out.2.2.2.1.below hb4⟩
  clear hb4
  obtain ⟨z0, z1, zlt⟩ := H4.out.2.2.1.cells
  obtain ⟨y0, y1, ylt⟩ := H4.out.2.2.2.cells
  go_wp2_with fail
  clear z0 z1 zlt y0 y1 ylt
  refine Calls.mono (sameBookL _ _ _ _ L' R' w4 H4.out.2.2.1.2.1 H4.out.2.2.2.2.1) ?_
  rintro r w5 ⟨rfl, hb5⟩
  have H5 : Hid (Bx w w5 w.heap.size (.slice pa L.length ca) (.slice pb R.length cb) L R ∧ Bx w w5 g1 (.slice p L.length c) (.slice q R.length m) L R) := ⟨H4.out.1.below hb5, H4.out.2.1.below hb5⟩
  clear hb5
  obtain ⟨z0, z1, zlt⟩ := H5.out.1.cells
  obtain ⟨y0, y1, ylt⟩ := H5.out.2.cells
  go_wp2_with fail
  refine Calls.mono (sameBookL _ _ _ _ L R w5 H5.out.2.2.1 H5.out.1.2.1) ?_
  rintro r w6 ⟨rfl, hb6⟩
  have HZ : Hid _ := H5.out.1.2.2.trans (hb6.mono H5.out.1.2.2.size)
  clear hb6
  go_wp2
  go_ret
  exact ⟨rfl, HZ.out⟩
end Go.Proofs.Ytlpedligkofegaa.Walks
