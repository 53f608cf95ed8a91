/-
  The law of arming: the program answers as the document does. The wheel can be read, and is of a bounded size.
-/
import Derived.Test.YtdfjobghgbcjpaaDoorWheels
import Derived.WalkKit
import Derived.ProofKit
import Derived.Handy
import Derived.LoopTactic
import Derived.Below
import Derived.Laws.BitsAllLaws
import Derived.RegionTactic
import Derived.Deep.RegionHeld3
import Derived.Deep.DrawnRows
import Derived.Deep.AppendLies
import Derived.Laws.OwnMore
import Derived.Deep.Onto
import Derived.Deep.QuietTactic
import Derived.BigQuiet
namespace Go.Proofs.YtdfjobghgbcjpaaDoor.Walks
open Go.RowKit
set_option linter.unusedVariables false
set_option linter.unusedSimpArgs false
attribute [local go_sem ↓] Go.wp_at_zero Go.wp_at_succ

/-- The wheel's box. -/
theorem box_below {w w' : World} {g : Nat} {o : Obj} (h : w.heap[g]? = some o) (hb : Below w.heap.size w w') : w'.heap[g]? = some o := (hb.block g (Array.getElem?_eq_some_iff.1 h).1).trans h

theorem wh_form {w : World} {y : Value} {n : Int} {ms : List (List Tm)} (h : WhAt w y n ms) : ∃ p k c, y = .agg #[.int .i64 n, .slice p k c] := by
  obtain ⟨v, rfl, hv⟩ := h
  obtain ⟨a, ca, rfl, _⟩ := hv.parts
  exact ⟨_, _, _, rfl⟩

open Classical in
set_option maxHeartbeats 8000000 in
set_option maxRecDepth 100000 in
theorem arms_walk {w : World} (now : Int) (v : Value) (ls : List (List Tm)) (hx : LsAt w v ls) (hlen : ∀ l ∈ ls, l.length ≤ 1048576) (htot : ls.flatten.length ≤ 1048576) (hn : ls.length ≤ 1048576) (id : Int) (wid : (Lit.int .i64 id).wf = true) (x : Int) (wx : (Lit.int .i64 x).wf = true) (hB : Blk w) :
    Calls Tryd.prog 3 #[.agg #[.int .i64 now, v], .int .i64 id, .int .i64 x] w fun r w' => r = .returned (.bool true) ∧ Below w.heap.size w w' := by
  obtain ⟨a, ca, rfl, _⟩ := hx.parts
  obtain ⟨out, hout⟩ : ∃ out, out = armOut now id x ls := ⟨_, rfl⟩
  obtain ⟨e, n', ms⟩ := out
  have hP := fun (W : World) (u : Value) (h1 : Blk W) (h2 : LsAt W u ls) => arm_prog u now id x ls W h1 h2 hlen wid
  have hR := fun (W : World) (u : Value) (h2 : LsAt W u ls) => refArm_any u now id x ls W h2 htot
  rw [← hout] at hP hR
  have HX : Hid (_ ∧ _ ∧ _ ∧ _ ∧ _) := ⟨hx, hB, hP, hR, hlen⟩
  clear hx hB hP hR hout hlen wid wx htot
  go_enter Tryd.func3, Tryd.ntmps3
  go_wp2_with fail
  have hb0 : Below w.heap.size w (w.alloc (.cells #[.int .i64 now, .slice a ls.length ca] 24)) := (Below.refl _ _).alloc (Nat.le_refl _) _
  refine (wheels_any _ now ls _ (HX.out.1.below hb0) HX.out.2.2.2.2 hn).mono ?_
  rintro r w1 ⟨p, c, rfl, hL1, hb1⟩
  have hbw1 := hb0.trans (hb1.mono hb0.size)
  have hQ1 : w1.heap[w.heap.size]? = some (.cells #[.int .i64 now, .slice a ls.length ca] 24 (0, 0)) := box_below (heap_alloc_new _ _) hb1
  have hlt1 := (Array.getElem?_eq_some_iff.1 hQ1).1
  have hN1 : Below w1.heap.size w1 (w1.alloc (.cells #[.int .i64 now, .slice p ls.length c] 24)) := (Below.refl _ _).alloc (Nat.le_refl _) _
  have hbw1' := hbw1.trans (hN1.mono hbw1.size)
  have H1 : Hid (_ ∧ _ ∧ _ ∧ _) := ⟨hL1.below hN1, hbw1', heap_old _ (.cells #[.int .i64 now, .slice p ls.length c] 24) hQ1, heap_alloc_new w1 (.cells #[.int .i64 now, .slice p ls.length c] 24)⟩
  clear hL1 hb1 hbw1 hN1 hbw1' hQ1 hb0
  go_wp2_with fail
  refine (HX.out.2.2.1 _ _ (HX.out.2.1.below H1.out.2.1) H1.out.1).mono ?_
  rintro r w2 ⟨y, rfl, hY, hb2⟩
  obtain ⟨yp, yk, yc, rfl⟩ := wh_form hY
  have hs2 := hb2.size
  have hlt2 : w1.heap.size < w2.heap.size := by simp at hs2; omega
  have hQ2 := box_below H1.out.2.2.1 hb2
  have hC2 := box_below H1.out.2.2.2 hb2
  obtain ⟨f0, f1, _, _, _⟩ := two_cells hQ2
  have hN2 : Below w2.heap.size w2 (w2.alloc (.cells #[.int .i64 n', .slice yp yk yc] 24)) := (Below.refl _ _).alloc (Nat.le_refl _) _
  have hb12 := hb2.trans (hN2.mono hb2.size)
  have hlt12 : w.heap.size < w2.heap.size := by omega
  have H2 : Hid (_ ∧ _ ∧ _ ∧ _ ∧ _ ∧ _) := ⟨hY.below hN2, H1.out.1.below hb12, H1.out.2.1.trans (hb12.mono H1.out.2.1.size), heap_old _ (.cells #[.int .i64 n', .slice yp yk yc] 24) hQ2, heap_old _ (.cells #[.int .i64 n', .slice yp yk yc] 24) hC2, heap_alloc_new w2 (.cells #[.int .i64 n', .slice yp yk yc] 24)⟩
  clear hY hb2 hQ2 hC2 hN2 hb12 hs2
  go_wp2_with fail
  refine (HX.out.2.2.2.1 _ _ (HX.out.1.below H2.out.2.2.1)).mono ?_
  rintro r w3 ⟨z, rfl, hZ, hb3⟩
  obtain ⟨zp, zk, zc, rfl⟩ := wh_form hZ
  have hs3 := hb3.size
  have hlt3 : w2.heap.size < w3.heap.size := by simp at hs3; omega
  have hlt13 : w1.heap.size < w3.heap.size := by omega
  have hlt03 : w.heap.size < w3.heap.size := by omega
  have hQ3 := box_below H2.out.2.2.2.1 hb3
  have hC3 := box_below H2.out.2.2.2.2.1 hb3
  have hY3 := box_below H2.out.2.2.2.2.2 hb3
  obtain ⟨g0, g1, _, _, _⟩ := two_cells hQ3
  obtain ⟨k0, k1, _, _, _⟩ := two_cells hC3
  obtain ⟨m0, m1, _, _, _⟩ := two_cells hY3
  have hN3 : Below w3.heap.size w3 (w3.alloc (.cells #[.int .i64 n', .slice zp zk zc] 24)) := (Below.refl _ _).alloc (Nat.le_refl _) _
  have hb23 := hb3.trans (hN3.mono hb3.size)
  have hbw3 := H2.out.2.2.1.trans (hb23.mono H2.out.2.2.1.size)
  have H3 : Hid (_ ∧ _ ∧ _ ∧ _ ∧ _ ∧ _ ∧ _) := ⟨H2.out.1.below hb23, hZ.below hN3, H2.out.2.1.below hb23, HX.out.1.below hbw3, hbw3, hQ3, hC3⟩
  clear hZ hb3 hQ3 hC3 hY3 hN3 hb23 hbw3 hs3 f0 f1
  go_wp2_with fail
  refine (sameWheel _ _ n' n' ms ms _ H3.out.1 H3.out.2.1).mono ?_
  rw [show decide (n' = n' ∧ ms = ms) = true from decide_eq_true ⟨rfl, rfl⟩]
  rintro r w4 ⟨rfl, hb4⟩
  have hQ4 := box_below (heap_old _ (.cells #[.int .i64 n', .slice zp zk zc] 24) H3.out.2.2.2.2.2.1) hb4
  have hC4 := box_below (heap_old _ (.cells #[.int .i64 n', .slice zp zk zc] 24) H3.out.2.2.2.2.2.2) hb4
  obtain ⟨q0, q1, _, _, _⟩ := two_cells hQ4
  obtain ⟨j0, j1, _, _, _⟩ := two_cells hC4
  have H4 : Hid (_ ∧ _ ∧ _) := ⟨H3.out.2.2.1.below hb4, H3.out.2.2.2.1.below hb4, H3.out.2.2.2.2.1.trans (hb4.mono H3.out.2.2.2.2.1.size)⟩
  clear hb4 hQ4 hC4 g0 g1 k0 k1 m0 m1
  go_wp2_with fail
  refine (sameWheel _ _ now now ls ls _ ⟨_, rfl, H4.out.1⟩ ⟨_, rfl, H4.out.2.1⟩).mono ?_
  rw [show decide (now = now ∧ ls = ls) = true from decide_eq_true ⟨rfl, rfl⟩]
  rintro r w5 ⟨rfl, hb5⟩
  have H5 : Hid _ := hb5
  clear hb5
  go_wp2
  go_ret
  exact ⟨rfl, H4.out.2.2.trans (H5.out.mono H4.out.2.2.size)⟩
end Go.Proofs.YtdfjobghgbcjpaaDoor.Walks
