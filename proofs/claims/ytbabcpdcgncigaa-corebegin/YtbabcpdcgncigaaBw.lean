/-
  usherkeep.budget, usherkeep.watch, usherkeep.Picked. No condition but that the numbers are an int's.
-/
import Derived.Test.YtbabcpdcgncigaaBg
import Derived.WalkKit
import Derived.ProofKit
import Derived.Handy
import Derived.LoopTactic
import Derived.Below
import Derived.Laws.BitsAllLaws
import Derived.RegionTactic
import Derived.Deep.RegionHeld3
import Derived.Deep.DrawnRows
import Derived.Deep.AppendLies
import Derived.Laws.OwnMore
import Derived.Deep.Onto
import Derived.Deep.QuietTactic
import Derived.BigQuiet
namespace Go.Proofs.Ytbabcpdcgncigaa.Walks
open Go.RowKit
set_option linter.unusedVariables false
set_option linter.unusedSimpArgs false
attribute [local go_sem ↓] Go.wp_at_zero Go.wp_at_succ

abbrev budV (n d b : Int) : Value := .agg #[.int .i64 n, .int .i64 d, .int .i64 b]
abbrev watV (n f d : Int) : Value := .agg #[.int .i64 n, .int .i64 f, .int .i64 d]

theorem bw_three {W : World} {g : Nat} {a b c : Value} {T : TypeId} (h : W.heap[g]? = some (.cells #[a, b, c] T (0, 0))) : W.cell? ⟨g, 0, none⟩ = some a ∧ W.cell? ⟨g, 1, none⟩ = some b ∧ W.cell? ⟨g, 2, none⟩ = some c ∧ g < W.heap.size :=
  ⟨by simp [World.cell?, h], by simp [World.cell?, h], by simp [World.cell?, h], (Array.getElem?_eq_some_iff.1 h).1⟩

theorem bw_set {w : World} {g : Nat} {a b c a' b' c' : Value} {T : TypeId} (h : w.heap[g]? = some (.cells #[a, b, c] T (0, 0))) : (((w.setCell ⟨g, 0, none⟩ a').setCell ⟨g, 1, none⟩ b').setCell ⟨g, 2, none⟩ c').heap[g]? = some (.cells #[a', b', c'] T (0, 0)) := by
  have h1 := heap_setCell_same w g 0 _ T a' h
  have h2 := heap_setCell_same _ g 1 _ T b' h1
  exact heap_setCell_same _ g 2 _ T c' h2

set_option maxHeartbeats 2000000 in
theorem budget_some (x y z : Int) (hx : (Lit.int .i64 x).wf = true) (hy : (Lit.int .i64 y).wf = true) (hz : (Lit.int .i64 z).wf = true) :
    ∃ n d b : Nat, (n ≤ 20 ∧ (1 ≤ d ∧ d ≤ 20) ∧ b ≤ 20) ∧ ∀ w, Calls Try.prog 29 #[.int .i64 x, .int .i64 y, .int .i64 z] w fun r w' => r = .returned (budV n d b) ∧ Below w.heap.size w w' := by
  obtain ⟨n, hn, p0⟩ := picked_some x 21 hx (by omega) (by omega)
  obtain ⟨d, hd, p1⟩ := picked_some y 20 hy (by omega) (by omega)
  obtain ⟨b, hb, p2⟩ := picked_some z 21 hz (by omega) (by omega)
  refine ⟨n, 1 + d, b, ⟨by omega, ⟨by omega, by omega⟩, by omega⟩, fun w => ?_⟩
  have P : Hid (_ ∧ _ ∧ _) := ⟨p0, p1, p2⟩
  clear p0 p1 p2 hx hy hz
  obtain ⟨W0, hW0⟩ : ∃ W0, W0 = w.alloc (.cells #[.int .i64 0, .int .i64 0, .int .i64 0] 23) := ⟨_, rfl⟩
  have hB0 : W0.heap[w.heap.size]? = some (.cells #[.int .i64 0, .int .i64 0, .int .i64 0] 23 (0, 0)) := by rw [hW0]; exact heap_alloc_new _ _
  have hb0 : Below w.heap.size w W0 := by rw [hW0]; exact below_new _
  obtain ⟨c0, c1, c2, hlt⟩ := bw_three hB0
  have s0 : W0.frozen? ⟨w.heap.size, 0, none⟩ = false := by simp [World.frozen?, hB0]
  have s1 : W0.frozen? ⟨w.heap.size, 1, none⟩ = false := by simp [World.frozen?, hB0]
  have s2 : W0.frozen? ⟨w.heap.size, 2, none⟩ = false := by simp [World.frozen?, hB0]
  have H : Hid (_ ∧ _ ∧ _) := ⟨hW0, hB0, hb0⟩
  clear hW0 hB0 hb0
  go_enter Try.func29, Try.ntmps29
  go_wp2_with fail
  rw [← H.out.1]
  refine (P.out.1 _).mono ?_
  rintro e w' ⟨rfl, rfl⟩
  go_wp2_with fail
  refine (P.out.2.1 _).mono ?_
  rintro e w' ⟨rfl, rfl⟩
  go_wp2_with fail
  refine (P.out.2.2 _).mono ?_
  rintro e w' ⟨rfl, rfl⟩
  go_wp2
  exact bodyPost_ret (v := .agg #[.int .i64 n, .int .i64 (1 + d), .int .i64 b]) (results_c Try.results29 rfl (load_row (P := Try.prog) (cs := [.int .i64 n, .int .i64 (1 + d), .int .i64 b]) (bw_set H.out.2.1) Try.underlying23 rfl (by kernel_rfl))) rfl ⟨by simp, ((H.out.2.2.setCell (Nat.le_refl _) _).setCell (Nat.le_refl _) _).setCell (Nat.le_refl _) _⟩

set_option maxHeartbeats 2000000 in
theorem watch_some (x y z : Int) (hx : (Lit.int .i64 x).wf = true) (hy : (Lit.int .i64 y).wf = true) (hz : (Lit.int .i64 z).wf = true) :
    ∃ n f d : Nat, (1 ≤ n ∧ n ≤ 16) ∧ (1 ≤ f ∧ f ≤ n) ∧ (1 ≤ d ∧ d ≤ 500) ∧ n = 1 + pick x 16 ∧ ∀ w, Calls Try.prog 30 #[.int .i64 x, .int .i64 y, .int .i64 z] w fun r w' => r = .returned (watV n f d) ∧ Below w.heap.size w w' := by
  have p0 : ∀ W, Calls Try.prog 28 #[.int .i64 x, .int .i64 16] W fun r w' => r = .returned (.int .i64 (pick x 16 : Nat)) ∧ w' = W := fun W => by
    have hb := wf_bd hx
    have := picked_any x 16 W hb.1 hb.2 (by omega) (by omega)
    exact this
  have hn := pick_lt x 16 (by omega)
  generalize pick x 16 = n at *
  obtain ⟨f, hf, p1⟩ := picked_some y (1 + n) hy (by omega) (by omega)
  obtain ⟨d, hd, p2⟩ := picked_some z 500 hz (by omega) (by omega)
  refine ⟨1 + n, 1 + f, 1 + d, ⟨by omega, by omega⟩, ⟨by omega, by omega⟩, ⟨by omega, by omega⟩, rfl, fun w => ?_⟩
  rw [Int.natCast_add] at p1
  have P : Hid (_ ∧ _ ∧ _) := ⟨p0, p1, p2⟩
  clear p0 p1 p2 hx hy hz
  obtain ⟨W0, hW0⟩ : ∃ W0, W0 = w.alloc (.cells #[.int .i64 0, .int .i64 0, .int .i64 0] 25) := ⟨_, rfl⟩
  have hB0 : W0.heap[w.heap.size]? = some (.cells #[.int .i64 0, .int .i64 0, .int .i64 0] 25 (0, 0)) := by rw [hW0]; exact heap_alloc_new _ _
  have hb0 : Below w.heap.size w W0 := by rw [hW0]; exact below_new _
  obtain ⟨c0, c1, c2, hlt⟩ := bw_three hB0
  have s0 : W0.frozen? ⟨w.heap.size, 0, none⟩ = false := by simp [World.frozen?, hB0]
  have s1 : W0.frozen? ⟨w.heap.size, 1, none⟩ = false := by simp [World.frozen?, hB0]
  have s2 : W0.frozen? ⟨w.heap.size, 2, none⟩ = false := by simp [World.frozen?, hB0]
  have H : Hid (_ ∧ _ ∧ _) := ⟨hW0, hB0, hb0⟩
  clear hW0 hB0 hb0
  go_enter Try.func30, Try.ntmps30
  go_wp2_with fail
  rw [← H.out.1]
  refine (P.out.1 _).mono ?_
  rintro e w' ⟨rfl, rfl⟩
  go_wp2_with fail
  refine (P.out.2.1 _).mono ?_
  rintro e w' ⟨rfl, rfl⟩
  go_wp2_with fail
  refine (P.out.2.2 _).mono ?_
  rintro e w' ⟨rfl, rfl⟩
  go_wp2
  exact bodyPost_ret (v := .agg #[.int .i64 (1 + n), .int .i64 (1 + f), .int .i64 (1 + d)]) (results_c Try.results30 rfl (load_row (P := Try.prog) (cs := [.int .i64 (1 + n), .int .i64 (1 + f), .int .i64 (1 + d)]) (bw_set H.out.2.1) Try.underlying25 rfl (by kernel_rfl))) rfl ⟨by simp, ((H.out.2.2.setCell (Nat.le_refl _) _).setCell (Nat.le_refl _) _).setCell (Nat.le_refl _) _⟩

end Go.Proofs.Ytbabcpdcgncigaa.Walks
