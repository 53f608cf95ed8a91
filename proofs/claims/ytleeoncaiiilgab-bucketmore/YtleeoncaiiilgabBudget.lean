/-
  usherkeep.budget; a budget and a bucket in boxes of a law's own. No condition.
-/
import Derived.Test.YtleeoncaiiilgabBucket
import Derived.WalkKit
import Derived.ProofKit
import Derived.Handy
import Derived.LoopTactic
import Derived.Below
import Derived.Laws.BitsAllLaws
import Derived.RegionTactic
import Derived.Deep.RegionHeld3
import Derived.Deep.DrawnRows
import Derived.Deep.AppendLies
import Derived.Laws.OwnMore
import Derived.Deep.Onto
import Derived.Deep.QuietTactic
import Derived.BigQuiet
namespace Go.Proofs.Ytleeoncaiiilgab.Walks
open Go.RowKit
set_option linter.unusedVariables false
set_option linter.unusedSimpArgs false
attribute [local go_sem ↓] Go.wp_at_zero Go.wp_at_succ

set_option maxHeartbeats 2000000 in
theorem budget_some (x y z : Int) (hx : (Lit.int .i64 x).wf = true) (hy : (Lit.int .i64 y).wf = true) (hz : (Lit.int .i64 z).wf = true) :
    ∃ n d b : Nat, (n ≤ 20 ∧ (1 ≤ d ∧ d ≤ 20) ∧ b ≤ 20) ∧ ∀ w, Calls Try.prog 5 #[.int .i64 x, .int .i64 y, .int .i64 z] w fun r w' => r = .returned (budV n d b) ∧ Below w.heap.size w w' := by
  obtain ⟨n, hn, p0⟩ := picked_some x 21 hx (by omega) (by omega)
  obtain ⟨d, hd, p1⟩ := picked_some y 20 hy (by omega) (by omega)
  obtain ⟨b, hb, p2⟩ := picked_some z 21 hz (by omega) (by omega)
  refine ⟨n, 1 + d, b, ⟨by omega, ⟨by omega, by omega⟩, by omega⟩, fun w => ?_⟩
  have P : Hid (_ ∧ _ ∧ _) := ⟨p0, p1, p2⟩
  clear p0 p1 p2 hx hy hz
  obtain ⟨W0, hW0⟩ : ∃ W0, W0 = w.alloc (.cells #[.int .i64 0, .int .i64 0, .int .i64 0] 23) := ⟨_, rfl⟩
  have hB0 : W0.heap[w.heap.size]? = some (.cells #[.int .i64 0, .int .i64 0, .int .i64 0] 23 (0, 0)) := by rw [hW0]; exact heap_alloc_new _ _
  have hb0 : Below w.heap.size w W0 := by rw [hW0]; exact below_new _
  obtain ⟨c0, c1, c2, hlt⟩ := three_cells hB0
  have s0 : W0.frozen? ⟨w.heap.size, 0, none⟩ = false := by simp [World.frozen?, hB0]
  have s1 : W0.frozen? ⟨w.heap.size, 1, none⟩ = false := by simp [World.frozen?, hB0]
  have s2 : W0.frozen? ⟨w.heap.size, 2, none⟩ = false := by simp [World.frozen?, hB0]
  have H : Hid (_ ∧ _ ∧ _) := ⟨hW0, hB0, hb0⟩
  clear hW0 hB0 hb0
  go_enter Try.func5, Try.ntmps5
  go_wp2_with fail
  rw [← H.out.1]
  refine (P.out.1 _).mono ?_
  rintro e w' ⟨rfl, rfl⟩
  go_wp2_with fail
  refine (P.out.2.1 _).mono ?_
  rintro e w' ⟨rfl, rfl⟩
  go_wp2_with fail
  refine (P.out.2.2 _).mono ?_
  rintro e w' ⟨rfl, rfl⟩
  go_wp2
  exact bodyPost_ret (v := .agg #[.int .i64 n, .int .i64 (1 + d), .int .i64 b]) (results_c Try.results5 rfl (load_row (P := Try.prog) (cs := [.int .i64 n, .int .i64 (1 + d), .int .i64 b]) (three_set H.out.2.1) Try.underlying23 rfl (by kernel_rfl))) rfl ⟨by simp, ((H.out.2.2.setCell (Nat.le_refl _) _).setCell (Nat.le_refl _) _).setCell (Nat.le_refl _) _⟩

/-- A budget in block g, a bucket in block h, both younger than the call. -/
def Gh (w W : World) (g h : Nat) (n d b x : Int) : Prop :=
  W.heap[g]? = some (.cells #[.int .i64 n, .int .i64 d, .int .i64 b] 23 (0, 0)) ∧ W.heap[h]? = some (.cells #[.int .i64 x] 26 (0, 0)) ∧ (g ≠ h ∧ w.heap.size ≤ g ∧ w.heap.size ≤ h) ∧ Below w.heap.size w W

theorem Gh.below {w W W' : World} {g h : Nat} {n d b x : Int} (H : Gh w W g h n d b x) (hb : Below W.heap.size W W') : Gh w W' g h n d b x :=
  ⟨box_below H.1 hb, box_below H.2.1 hb, H.2.2.1, H.2.2.2.trans (hb.mono H.2.2.2.size)⟩

theorem Gh.set {w W : World} {g h : Nat} {n d b x : Int} (H : Gh w W g h n d b x) (z : Int) : Gh w (W.setCell ⟨h, 0, none⟩ (.int .i64 z)) g h n d b z :=
  ⟨(Below.heap_setCell _ _ _ _ (by simpa using H.2.2.1.1)).trans H.1, one_set H.2.1, H.2.2.1, H.2.2.2.setCell H.2.2.1.2.2 _⟩

theorem Gh.alloc {w W : World} {g h : Nat} {n d b x : Int} (H : Gh w W g h n d b x) (o : Obj) : Gh w (W.alloc o) g h n d b x := H.below (below_new _)

/-- What a walk asks of the two boxes. -/
theorem Gh.cells {w W : World} {g h : Nat} {n d b x : Int} (H : Gh w W g h n d b x) : W.cell? ⟨g, 0, none⟩ = some (.int .i64 n) ∧ W.cell? ⟨g, 1, none⟩ = some (.int .i64 d) ∧ W.cell? ⟨g, 2, none⟩ = some (.int .i64 b) ∧ W.cell? ⟨h, 0, none⟩ = some (.int .i64 x) ∧ W.frozen? ⟨h, 0, none⟩ = false ∧ g < W.heap.size ∧ h < W.heap.size := by
  obtain ⟨c0, c1, c2, l1⟩ := three_cells H.1
  obtain ⟨c3, f3, l2⟩ := one_cells H.2.1
  exact ⟨c0, c1, c2, c3, f3, l1, l2⟩

/-- A budget made, then a bucket. -/
theorem Gh.new {w w1 w2 : World} {n d b x : Int} (h1 : Below w.heap.size w w1) (h2 : Below (w1.alloc (.cells #[.int .i64 n, .int .i64 d, .int .i64 b] 23)).heap.size (w1.alloc (.cells #[.int .i64 n, .int .i64 d, .int .i64 b] 23)) w2) :
    Gh w (w2.alloc (.cells #[.int .i64 x] 26)) w1.heap.size w2.heap.size n d b x := by
  have hs : w1.heap.size < w2.heap.size := by have := h2.size; simp at this; omega
  refine ⟨heap_old _ _ (box_below (heap_alloc_new _ _) h2), heap_alloc_new _ _, ⟨by omega, h1.size, Nat.le_trans h1.size (Nat.le_of_lt hs)⟩, ?_⟩
  have hb := h1.alloc h1.size (.cells #[.int .i64 n, .int .i64 d, .int .i64 b] 23)
  have := hb.trans (h2.mono hb.size)
  exact this.alloc this.size _

theorem spend_fine {n d b x : Int} (h : BudOk n d b) (h0 : d ≤ x) (h1 : x ≤ b * d) : spendO n d b x = (x - d, 0) := by
  have := h.2.1
  exact spend_ok (both_ok.2 ⟨h, by omega, h1⟩) h0

theorem spend_few {n d b x : Int} (h : BudOk n d b) (h0 : 0 ≤ x) (h1 : x < d) (h2 : x ≤ b * d) : spendO n d b x = (0, 11) :=
  spend_busy (both_ok.2 ⟨h, h0, h2⟩) h1

theorem earn_fine {n d b x : Int} (h : BudOk n d b) (h0 : 0 ≤ x) (h1 : x ≤ b * d) : earnO n d b x = (min (x + n) (b * d), 0) :=
  earn_ok (both_ok.2 ⟨h, h0, h1⟩)
end Go.Proofs.Ytleeoncaiiilgab.Walks
