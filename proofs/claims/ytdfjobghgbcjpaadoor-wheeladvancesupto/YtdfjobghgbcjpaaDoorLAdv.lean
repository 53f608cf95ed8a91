/-
  The law of advancing, against the document: the program answers as the document does. The wheel can be read, and is of a bounded size.
-/
import Derived.Test.YtdfjobghgbcjpaaDoorLArms
import Derived.Test.YtdfjobghgbcjpaaDoorRefAdv2
import Derived.WalkKit
import Derived.ProofKit
import Derived.Handy
import Derived.LoopTactic
import Derived.Below
import Derived.Laws.BitsAllLaws
import Derived.RegionTactic
import Derived.Deep.RegionHeld3
import Derived.Deep.DrawnRows
import Derived.Deep.AppendLies
import Derived.Laws.OwnMore
import Derived.Deep.Onto
import Derived.Deep.QuietTactic
import Derived.BigQuiet
namespace Go.Proofs.YtdfjobghgbcjpaaDoor.Walks
open Go.RowKit
set_option linter.unusedVariables false
set_option linter.unusedSimpArgs false
attribute [local go_sem ↓] Go.wp_at_zero Go.wp_at_succ

set_option maxHeartbeats 1000000 in
theorem lawInts (u v : Value) (l : List Int) (w : World) (hu : RowAt w u l.length (icells l)) (hv : RowAt w v l.length (icells l)) :
    Calls Tryd.prog 14 #[u, v] w fun r w' => r = .returned (.bool true) ∧ ∃ q, w' = w.drewN q := by
  obtain ⟨a, ca, rfl, hca, hma, pa⟩ := ints_at hu
  obtain ⟨b, cb, rfl, hcb, hmb, pb⟩ := ints_at hv
  unfold maxLen at hma hmb
  clear hu hv
  go_enter Tryd.func14, Tryd.ntmps14
  go_wp2
  go_loopw [5] (fun i wr => ∃ k q : Nat, i = .int .i64 k ∧ k ≤ l.length ∧ wr = w.drewN q) (fun i _ => l.length - (intOf i).toNat)
  case atStart => exact ⟨0, 0, rfl, Nat.zero_le _, rfl⟩
  case round =>
    obtain ⟨k, q, rfl, hk, rfl⟩ := hrel
    by_cases hlt : k < l.length
    · obtain ⟨b1, o1, rfl, hb1, c1⟩ := pa k hlt
      obtain ⟨b2, o2, rfl, hb2, c2⟩ := pb k hlt
      generalize l[k] = x at c1 c2
      clear hb1 hb2 pa pb
      have hkd : decide ((k : Int) < (l.length : Int)) = true := decide_eq_true (by omega)
      go_wp2
      go_region
      go_wp2
      go_roundw
      case rel => exact ⟨k + 1, q + 1, by simp, hlt, rfl⟩
      case measure => simp [intOf]; omega
    · obtain rfl : k = l.length := by omega
      clear pa pb
      go_wp2
      go_ret
      exact ⟨rfl, q, rfl⟩

open Classical in
set_option maxHeartbeats 8000000 in
set_option maxRecDepth 100000 in
theorem advances_walk {w : World} (now : Int) (v : Value) (ls : List (List Tm)) (hx : LsAt w v ls) (hlen : ∀ l ∈ ls, l.length ≤ 1048576) (htot : ls.flatten.length ≤ 1048576) (hn : ls.length ≤ 1048576) (hB : Blk w) :
    Calls Tryd.prog 5 #[.agg #[.int .i64 now, v]] w fun r w' => r = .returned (.bool true) ∧ Below w.heap.size w w' := by
  obtain ⟨a, ca, rfl, _⟩ := hx.parts
  obtain ⟨out, hout⟩ : ∃ out, out = advOut now ls := ⟨_, rfl⟩
  obtain ⟨e, n', ms, off⟩ := out
  have hP := fun (W : World) (u : Value) (h1 : Blk W) (h2 : LsAt W u ls) => adv_prog u now ls W h1 h2 hlen
  have hR := fun (W : World) (u : Value) (h2 : LsAt W u ls) => refAdv_any u now ls W h2 htot
  rw [← hout] at hP hR
  have HX : Hid (_ ∧ _ ∧ _ ∧ _ ∧ _) := ⟨hx, hB, hP, hR, hlen⟩
  clear hx hB hP hR hout hlen htot
  go_enter Tryd.func5, Tryd.ntmps5
  go_wp2_with fail
  have hb0 : Below w.heap.size w (w.alloc (.cells #[.int .i64 now, .slice a ls.length ca] 24)) := (Below.refl _ _).alloc (Nat.le_refl _) _
  refine (wheels_any _ now ls _ (HX.out.1.below hb0) HX.out.2.2.2.2 hn).mono ?_
  rintro r w1 ⟨p, c, rfl, hL1, hb1⟩
  have hbw1 := hb0.trans (hb1.mono hb0.size)
  have hQ1 : w1.heap[w.heap.size]? = some (.cells #[.int .i64 now, .slice a ls.length ca] 24 (0, 0)) := box_below (heap_alloc_new _ _) hb1
  have hlt1 := (Array.getElem?_eq_some_iff.1 hQ1).1
  have hN1 : Below w1.heap.size w1 (w1.alloc (.cells #[.int .i64 now, .slice p ls.length c] 24)) := (Below.refl _ _).alloc (Nat.le_refl _) _
  have hbw1' := hbw1.trans (hN1.mono hbw1.size)
  have H1 : Hid (_ ∧ _ ∧ _ ∧ _) := ⟨hL1.below hN1, hbw1', heap_old _ (.cells #[.int .i64 now, .slice p ls.length c] 24) hQ1, heap_alloc_new w1 (.cells #[.int .i64 now, .slice p ls.length c] 24)⟩
  clear hL1 hb1 hbw1 hN1 hbw1' hQ1 hb0
  go_wp2_with fail
  refine (HX.out.2.2.1 _ _ (HX.out.2.1.below H1.out.2.1) H1.out.1).mono ?_
  rintro r w2 ⟨y, op, oc, rfl, hY, hOf, hb2⟩
  obtain ⟨yp, yk, yc, rfl⟩ := wh_form hY
  have hs2 := hb2.size
  have hlt2 : w1.heap.size < w2.heap.size := by simp at hs2; omega
  have hQ2 := box_below H1.out.2.2.1 hb2
  have hC2 := box_below H1.out.2.2.2 hb2
  obtain ⟨f0, f1, _, _, _⟩ := two_cells hQ2
  have hN2 : Below w2.heap.size w2 (w2.alloc (.cells #[.int .i64 n', .slice yp yk yc] 24)) := (Below.refl _ _).alloc (Nat.le_refl _) _
  have hb12 := hb2.trans (hN2.mono hb2.size)
  have hlt12 : w.heap.size < w2.heap.size := by omega
  have HO2 : Hid _ := hOf.below hN2
  have H2 : Hid (_ ∧ _ ∧ _ ∧ _ ∧ _ ∧ _) := ⟨hY.below hN2, H1.out.1.below hb12, H1.out.2.1.trans (hb12.mono H1.out.2.1.size), heap_old _ (.cells #[.int .i64 n', .slice yp yk yc] 24) hQ2, heap_old _ (.cells #[.int .i64 n', .slice yp yk yc] 24) hC2, heap_alloc_new w2 (.cells #[.int .i64 n', .slice yp yk yc] 24)⟩
  clear hOf hY hb2 hQ2 hC2 hN2 hb12 hs2
  go_wp2_with fail
  refine (HX.out.2.2.2.1 _ _ (HX.out.1.below H2.out.2.2.1)).mono ?_
  rintro r w3 ⟨z, rp, rc, rfl, hZ, hRf, hb3⟩
  obtain ⟨zp, zk, zc, rfl⟩ := wh_form hZ
  have hs3 := hb3.size
  have hlt3 : w2.heap.size < w3.heap.size := by simp at hs3; omega
  have hlt13 : w1.heap.size < w3.heap.size := by omega
  have hlt03 : w.heap.size < w3.heap.size := by omega
  have hQ3 := box_below H2.out.2.2.2.1 hb3
  have hC3 := box_below H2.out.2.2.2.2.1 hb3
  have hY3 := box_below H2.out.2.2.2.2.2 hb3
  obtain ⟨g0, g1, _, _, _⟩ := two_cells hQ3
  obtain ⟨k0, k1, _, _, _⟩ := two_cells hC3
  obtain ⟨m0, m1, _, _, _⟩ := two_cells hY3
  have hN3 : Below w3.heap.size w3 (w3.alloc (.cells #[.int .i64 n', .slice zp zk zc] 24)) := (Below.refl _ _).alloc (Nat.le_refl _) _
  have hb23 := hb3.trans (hN3.mono hb3.size)
  have hbw3 := H2.out.2.2.1.trans (hb23.mono H2.out.2.2.1.size)
  have HO3 : Hid (_ ∧ _) := ⟨RowAt.below HO2.out hb23, hRf.below hN3⟩
  have H3 : Hid (_ ∧ _ ∧ _ ∧ _ ∧ _ ∧ _ ∧ _) := ⟨H2.out.1.below hb23, hZ.below hN3, H2.out.2.1.below hb23, HX.out.1.below hbw3, hbw3, hQ3, hC3⟩
  clear hRf hZ hb3 hQ3 hC3 hY3 hN3 hb23 hbw3 hs3 f0 f1
  go_wp2_with fail
  refine (lawInts _ _ off _ HO3.out.1 HO3.out.2).mono ?_
  rintro r w9 ⟨rfl, dq, rfl⟩
  have hbq : ∀ W : World, Below W.heap.size W (W.drewN dq) := fun W => below_drewN (Below.refl _ _) dq
  go_wp2_with fail
  refine (sameWheel _ _ n' n' ms ms _ (H3.out.1.below (hbq _)) (H3.out.2.1.below (hbq _))).mono ?_
  rw [show decide (n' = n' ∧ ms = ms) = true from decide_eq_true ⟨rfl, rfl⟩]
  rintro r w4 ⟨rfl, hb4⟩
  have hQ4 := box_below (box_below (heap_old _ (.cells #[.int .i64 n', .slice zp zk zc] 24) H3.out.2.2.2.2.2.1) (hbq _)) hb4
  have hC4 := box_below (box_below (heap_old _ (.cells #[.int .i64 n', .slice zp zk zc] 24) H3.out.2.2.2.2.2.2) (hbq _)) hb4
  obtain ⟨q0, q1, _, _, _⟩ := two_cells hQ4
  obtain ⟨j0, j1, _, _, _⟩ := two_cells hC4
  have hbq2 := H3.out.2.2.2.2.1.trans ((hbq _).mono H3.out.2.2.2.2.1.size)
  have H4 : Hid (_ ∧ _ ∧ _) := ⟨(H3.out.2.2.1.below (hbq _)).below hb4, (H3.out.2.2.2.1.below (hbq _)).below hb4, hbq2.trans (hb4.mono hbq2.size)⟩
  clear hbq hbq2 hb4 hQ4 hC4 g0 g1 k0 k1 m0 m1
  go_wp2_with fail
  refine (sameWheel _ _ now now ls ls _ ⟨_, rfl, H4.out.1⟩ ⟨_, rfl, H4.out.2.1⟩).mono ?_
  rw [show decide (now = now ∧ ls = ls) = true from decide_eq_true ⟨rfl, rfl⟩]
  rintro r w5 ⟨rfl, hb5⟩
  have H5 : Hid _ := hb5
  clear hb5
  go_wp2
  go_ret
  exact ⟨rfl, H4.out.2.2.trans (H5.out.mono H4.out.2.2.size)⟩
end Go.Proofs.YtdfjobghgbcjpaaDoor.Walks
