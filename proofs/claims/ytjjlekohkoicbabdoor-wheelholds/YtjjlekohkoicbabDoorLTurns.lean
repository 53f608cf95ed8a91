/-
  The law of turns: two timers armed in either order, ticks going by ahead of the second arming: the same wheel. No condition.
-/
import Derived.Test.YtjjlekohkoicbabDoorFine
import Derived.WalkKit
import Derived.ProofKit
import Derived.Handy
import Derived.LoopTactic
import Derived.Below
import Derived.Laws.BitsAllLaws
import Derived.RegionTactic
import Derived.Deep.RegionHeld3
import Derived.Deep.DrawnRows
import Derived.Deep.AppendLies
import Derived.Laws.OwnMore
import Derived.Deep.Onto
import Derived.Deep.QuietTactic
import Derived.BigQuiet
namespace Go.Proofs.YtjjlekohkoicbabDoor.Walks
open Go.RowKit
set_option linter.unusedVariables false
set_option linter.unusedSimpArgs false
attribute [local go_sem ↓] Go.wp_at_zero Go.wp_at_succ

theorem wf_bd {x : Int} (h : (Lit.int .i64 x).wf = true) : -9223372036854775808 ≤ x ∧ x ≤ 9223372036854775807 := by
  have e1 : IntKind.i64.min = -9223372036854775808 := by decide
  have e2 : IntKind.i64.max = 9223372036854775807 := by decide
  simp only [Lit.wf, e1, e2, Bool.and_eq_true, decide_eq_true_eq] at h
  exact h

/-- A number picked: some number below the bound, the same each time. -/
theorem picked_some (n : Int) (many : Nat) (hw : (Lit.int .i64 n).wf = true) (h : 0 < many) (h2 : many ≤ 1000000000000) : ∃ k : Nat, k < many ∧ ∀ W, Calls Tryd.prog 5 #[.int .i64 n, .int .i64 (many : Int)] W fun r w' => r = .returned (.int .i64 (k : Int)) ∧ w' = W := by
  refine ⟨pick n many, pick_lt _ _ h, fun W => ?_⟩
  have hb := wf_bd hw
  have := picked_any n many W hb.1 hb.2 (by omega) (by omega)
  rwa [Int.toNat_natCast] at this

/-- A wheel's box. -/
def Bx (w : World) (g : Nat) (now : Int) (p : Option Addr) (c : Nat) : Prop := w.heap[g]? = some (.cells #[.int .i64 now, .slice p 25 c] 27 (0, 0))
theorem Bx.lt {w : World} {g c : Nat} {now : Int} {p : Option Addr} (h : Bx w g now p c) : g < w.heap.size := (Array.getElem?_eq_some_iff.1 h).1
theorem Bx.below {w w' : World} {g c : Nat} {now : Int} {p : Option Addr} (h : Bx w g now p c) (hb : Below w.heap.size w w') : Bx w' g now p c := (hb.block g h.lt).trans h
theorem Bx.new (w : World) (now : Int) (p : Option Addr) (c : Nat) : Bx (w.alloc (.cells #[.int .i64 now, .slice p 25 c] 27)) w.heap.size now p c := heap_alloc_new _ _
theorem Bx.other {w : World} {g c k : Nat} {now : Int} {p : Option Addr} (h : Bx w g now p c) (hne : g ≠ k) (x y : Value) : Bx ((w.setCell ⟨k, 0, none⟩ x).setCell ⟨k, 1, none⟩ y) g now p c := by
  unfold Bx
  rw [Below.heap_setCell _ _ _ _ (by simpa using hne), Below.heap_setCell _ _ _ _ (by simpa using hne)]
  exact h
theorem Bx.set {w : World} {g c c' : Nat} {now m : Int} {p p' : Option Addr} (h : Bx w g now p c) : Bx ((w.setCell ⟨g, 0, none⟩ (.int .i64 m)).setCell ⟨g, 1, none⟩ (.slice p' 25 c')) g m p' c' := two_set h
theorem below_set2 {B : Nat} {w w' : World} (h : Below B w w') {g : Nat} (hg : B ≤ g) (x y : Value) : Below B w ((w'.setCell ⟨g, 0, none⟩ x).setCell ⟨g, 1, none⟩ y) := (h.setCell (p := ⟨g, 0, none⟩) hg _).setCell (p := ⟨g, 1, none⟩) hg _

theorem okb (n : Int) : Ok n bare := ok_bare n

theorem fits_of {now x id : Int} (h1 : now < x) (h2 : x ≤ now + 500) (h3 : x ≤ 1099511627776) (h4 : 0 ≤ id) (h5 : id ≤ 199) : fitsT now (x, id) = true := (fitsT_iff _ _).2 ⟨h1, h2, h3, h4, h5⟩

set_option maxHeartbeats 8000000 in
set_option maxRecDepth 100000 in
theorem turns_walk (now : Int) (w0 : (Lit.int .i64 now).wf = true) (a1 a2 : Int) (w1 : (Lit.int .i64 a1).wf = true) (w2 : (Lit.int .i64 a2).wf = true) (b1 b2 : Int) (w3 : (Lit.int .i64 b1).wf = true) (w4 : (Lit.int .i64 b2).wf = true) (ticks : Int) (w5 : (Lit.int .i64 ticks).wf = true) (w : World) (hB : Blk w) :
    Calls Tryd.prog 3 #[.int .i64 now, .agg #[.int .i64 a1, .int .i64 a2], .agg #[.int .i64 b1, .int .i64 b2], .int .i64 ticks] w fun r w' => r = .returned (.bool true) ∧ Below w.heap.size w w' := by
  obtain ⟨n, hn, HN⟩ := picked_some now 3000 w0 (by omega) (by omega)
  obtain ⟨i, hi, HI⟩ := picked_some a1 100 w1 (by omega) (by omega)
  obtain ⟨x0, hx0, HX⟩ := picked_some a2 500 w2 (by omega) (by omega)
  obtain ⟨k, hk, HK⟩ := picked_some b1 100 w3 (by omega) (by omega)
  obtain ⟨y0, hy0, HY⟩ := picked_some b2 500 w4 (by omega) (by omega)
  obtain ⟨m, hm, HM⟩ := picked_some ticks (min x0 y0 + 1) w5 (by omega) (by omega)
  have HM : ∀ z : Int, z = ((min x0 y0 + 1 : Nat) : Int) → ∀ W, Calls Tryd.prog 5 #[.int .i64 ticks, .int .i64 z] W fun r w' => r = .returned (.int .i64 (m : Int)) ∧ w' = W := fun z hz W => by rw [hz]; exact HM W
  have HC : Hid (_ ∧ _ ∧ _ ∧ _ ∧ _ ∧ _ ∧ _) := ⟨HN, HI, HX, HK, HY, HM, hB⟩
  clear HN HI HX HK HY HM hB w0 w1 w2 w3 w4 w5
  go_enter Tryd.func3, Tryd.ntmps3
  go_wp2_with fail
  refine (HC.out.1 _).mono ?_
  rintro r w1 ⟨rfl, rfl⟩
  go_wp2_with fail
  refine (new_fine n _ (by omega) (by omega)).mono ?_
  rintro r w1 ⟨p0, c0, rfl, hL0, hb1⟩
  have hbw1 : Below w.heap.size w w1 := (((Below.refl _ _).alloc (Nat.le_refl _) _).alloc (by simp) _).trans (hb1.mono (by simp; omega))
  have hA : w1.heap[w.heap.size]? = some (.cells #[.int .i64 a1, .int .i64 a2] 23 (0, 0)) := (hb1.block _ (by simp; omega)).trans (heap_old _ _ (heap_alloc_new _ _))
  have hE : w1.heap[w.heap.size + 1]? = some (.cells #[.int .i64 b1, .int .i64 b2] 23 (0, 0)) := (hb1.block _ (by simp)).trans (heap_second _ _ _)
  obtain ⟨k1, k2, _, _, klt⟩ := two_cells hA
  obtain ⟨k3, k4, _, _, klt2⟩ := two_cells hE
  have hlt1 : w.heap.size < w1.heap.size := klt
  have HL : Hid (_ ∧ _ ∧ _) := ⟨hL0, hb1, hbw1⟩
  clear hL0 hb1 hbw1 hA hE
  go_wp2_with fail
  refine (HC.out.2.2.1 _).mono ?_
  rintro r w2 ⟨rfl, rfl⟩
  go_wp2_with fail
  refine (HC.out.2.2.2.2.1 _).mono ?_
  rintro r w2 ⟨rfl, rfl⟩
  go_wp2_with fail
  refine (HC.out.2.1 _).mono ?_
  rintro r w2 ⟨rfl, rfl⟩
  go_wp2_with fail
  refine (HC.out.2.2.2.1 _).mono ?_
  rintro r w2 ⟨rfl, rfl⟩
  go_wp2_with fail
  have hbW2 : Below w1.heap.size w1 (w1.alloc (.cells #[.int .i64 n, .slice p0 25 c0] 27)) := (Below.refl _ _).alloc (Nat.le_refl _) _
  have hbw2 := HL.out.2.2.trans (hbW2.mono HL.out.2.2.size)
  have hX0 := Bx.new w1 n p0 c0
  refine (arm_fine _ n i (n + 1 + x0) bare _ (HC.out.2.2.2.2.2.2.below hbw2) (HL.out.1.at.below hbW2) (may_bare n (by omega) (by omega)) (fits_of (by omega) (by omega) (by omega) (by omega) (by omega)) (by simp [bare])).mono ?_
  rintro r w3 ⟨p1, c1, rfl, hL1, hM1, hb3⟩
  have hs3 := hb3.size
  have hlt3 : w1.heap.size < w3.heap.size := by simp at hs3; omega
  have hX3 := hX0.below hb3
  have hbw3 := hbw2.trans (hb3.mono hbw2.size)
  have hb13 := hbW2.trans (hb3.mono (by simp))
  have H3 : Hid (_ ∧ _ ∧ _ ∧ _ ∧ _) := ⟨hL1, hM1, hX3, hbw3, hb13⟩
  clear hL1 hM1 hX3 hbw3 hb13 hb3 hbW2 hbw2 hX0 hs3
  go_wp2_with fail
  have hbW4 : Below w3.heap.size w3 (w3.alloc (.cells #[.int .i64 n, .slice p1 25 c1] 27)) := (Below.refl _ _).alloc (Nat.le_refl _) _
  have hbw4 := H3.out.2.2.2.1.trans (hbW4.mono H3.out.2.2.2.1.size)
  have hXo := Bx.new w3 n p1 c1
  refine (arm_fine _ n (100 + k) (n + 1 + y0) _ _ (HC.out.2.2.2.2.2.2.below hbw4) (H3.out.1.at.below hbW4) H3.out.2.1 (fits_of (by omega) (by omega) (by omega) (by omega) (by omega)) (fun t ht => by
    rcases (mem_add (ok_bare _) _ _).1 ht with rfl | h
    · simp; omega
    · simp [bare] at h)).mono ?_
  rintro r w4 ⟨p2, c2, rfl, hL2, hM2, hb4⟩
  have hs4 := hb4.size
  have hlt4 : w3.heap.size < w4.heap.size := by simp at hs4; omega
  have hX4 := (H3.out.2.2.1.below hbW4).below hb4
  have hXo4 := hXo.below hb4
  obtain ⟨q0, q1, _, _, _⟩ := two_cells hX4
  obtain ⟨o0, o1, of0, of1, _⟩ := two_cells hXo4
  have hbw5 := hbw4.trans (hb4.mono hbw4.size)
  have hb34 := hbW4.trans (hb4.mono (by simp))
  have hb14 := H3.out.2.2.2.2.trans (hb34.mono (by omega))
  have H4 : Hid (_ ∧ _ ∧ _ ∧ _ ∧ _ ∧ _) := ⟨hL2, hM2, hX4, hXo4, hbw5, hb14⟩
  clear hL2 hM2 hX4 hXo4 hbw5 hb14 hb34 hb4 hbW4 hbw4 hXo hs4
  go_wp2_with fail
  have hbS : Below w3.heap.size w4 ((w4.setCell ⟨w3.heap.size, 0, none⟩ (.int .i64 n)).setCell ⟨w3.heap.size, 1, none⟩ (.slice p2 25 c2)) := below_set2 (Below.refl _ _) (Nat.le_refl _) _ _
  have hbw5 := H4.out.2.2.2.2.1.trans (hbS.mono (by have := H3.out.2.2.2.1.size; omega))
  have hb15 := H4.out.2.2.2.2.2.trans (hbS.mono (by omega))
  have hO5 := H4.out.1.set2 (g := w3.heap.size) (by simp) (.int .i64 n) (.slice p2 25 c2)
  have hX5 := H4.out.2.2.2.1.set (m := n) (p' := p2) (c' := c2)
  refine (arm_fine _ n (100 + k) (n + 1 + y0) bare _ (HC.out.2.2.2.2.2.2.below hbw5) (HL.out.1.at.below hb15) (may_bare n (by omega) (by omega)) (fits_of (by omega) (by omega) (by omega) (by omega) (by omega)) (by simp [bare])).mono ?_
  rintro r w5 ⟨p3, c3, rfl, hO3, hM3, hb5⟩
  have hs5 := hb5.size
  have hlt5 : w3.heap.size < w5.heap.size := by simp at hs5; omega
  have hbw6 := hbw5.trans (hb5.mono hbw5.size)
  have hX6 := hX5.below hb5
  have hO6 := hO5.below hb5
  have hbN : Below w5.heap.size w5 (w5.alloc (.cells #[.int .i64 n, .slice p3 25 c3] 27)) := (Below.refl _ _).alloc (Nat.le_refl _) _
  have hX7 := hX6.below hbN
  have hO7 := (hO6.off (G := w5.heap.size) (.inr (Nat.le_refl _))).below hbN
  have hO8 := (hO3.below hbN).at
  have hbw7 := hbw6.trans (hbN.mono hbw6.size)
  have hX8 := Bx.new w5 n p3 c3
  have mem1 : ∀ t, t ∈ (addT (addT bare n (n + 1 + x0, (i : Int))) n (n + 1 + y0, (100 + k : Int))).flatten ↔ t = (n + 1 + (y0 : Int), (100 + k : Int)) ∨ t = (n + 1 + (x0 : Int), (i : Int)) := fun t => by
    rw [mem_add H3.out.2.1.2, mem_add (okb n)]
    simp [bare]
  have mem2 : ∀ t, t ∈ (addT bare n (n + 1 + y0, (100 + k : Int))).flatten ↔ t = (n + 1 + (y0 : Int), (100 + k : Int)) := fun t => by
    rw [mem_add (okb n)]
    simp [bare]
  have H5 : Hid (_ ∧ _ ∧ _ ∧ _ ∧ _ ∧ _ ∧ _ ∧ _ ∧ _) := ⟨hX7, hX8, hO7, hO8, H4.out.2.1, hM3, mem1, mem2, hbw7⟩
  have hwlt : w.heap.size < w3.heap.size := by omega
  clear hX7 hX8 hO7 hO8 mem1 mem2 hbw7 hbN hO6 hX6 hbw6 hb5 hO3 hM3 hX5 hO5 hb15 hbw5 hbS hs5 k1 k2 k3 k4 q0 q1 o0 o1 of0 of1
  go_wp2_with fail
  go_loopw [21] (fun t wr => ∃ (q : Nat) (p p' : Option Addr) (c c' : Nat) (l1 l2 : List (List Tm)), t = .int .i64 q ∧ q ≤ m ∧ Bx wr w3.heap.size (n + q) p c ∧ Bx wr w5.heap.size (n + q) p' c' ∧ OffW wr w5.heap.size p c l1 ∧ LsAt wr (.slice p' 25 c') l2 ∧ May (n + q) l1 ∧ May (n + q) l2 ∧
    (∀ t, t ∈ l1.flatten ↔ t = (n + 1 + (y0 : Int), (100 + k : Int)) ∨ t = (n + 1 + (x0 : Int), (i : Int))) ∧ (∀ t, t ∈ l2.flatten ↔ t = (n + 1 + (y0 : Int), (100 + k : Int))) ∧ Below w.heap.size w wr) (fun t _ => m - (intOf t).toNat)
  case atStart =>
    obtain ⟨h1, h2, h3, h4, h5, h6, h7, h8, h9⟩ := H5.out
    exact ⟨0, p2, p3, c2, c3, _, _, rfl, Nat.zero_le _, by simpa using h1, by simpa using h2, h3, h4, by simpa using h5, by simpa using h6, h7, h8, h9⟩
  case round =>
    obtain ⟨q, p, p', c, c', l1, l2, rfl, hq, hX1, hX2, hl1, hl2, hm1, hm2, hi1, hi2, hbr⟩ := hrel
    by_cases hqm : q < m
    · have HR : Hid (_ ∧ _ ∧ _ ∧ _ ∧ _ ∧ _ ∧ _ ∧ _ ∧ _) := ⟨hX1, hX2, hl1, hl2, hm1, hm2, hi1, hi2, hbr⟩
      obtain ⟨d0, d1, df0, df1, _⟩ := two_cells hX1
      obtain ⟨e0, e1, ef0, ef1, _⟩ := two_cells hX2
      clear hX1 hX2 hl1 hl2 hm1 hm2 hi1 hi2 hbr
      have hmin : min x0 y0 ≤ x0 ∧ min x0 y0 ≤ y0 := ⟨Nat.min_le_left _ _, Nat.min_le_right _ _⟩
      have hqI : (q : Int) < (m : Int) := by omega
      have hpos : (n : Int) + q < 1099511627776 := by omega
      go_wp2_with fail
      refine (HC.out.2.2.2.2.2.1 _ (by omega) _).mono ?_
      rintro r w6 ⟨rfl, rfl⟩
      go_wp2_with fail
      obtain ⟨hX1, hX2, hl1, hl2, hm1, hm2, hi1, hi2, hbr⟩ := HR.out
      refine (advance_fine _ (n + q) l1 _ (HC.out.2.2.2.2.2.2.below hbr) hl1.at hm1 hpos).mono ?_
      rintro r w7 ⟨p4, c4, xp, xc, m1, L1, rfl, hO4, hT4, _, hb7⟩
      have hs7 := hb7.size
      have hbN7 : Below w7.heap.size w7 (w7.alloc (.cells #[.int .i64 (n + q + 1), .slice p4 25 c4] 27)) := (Below.refl _ _).alloc (Nat.le_refl _) _
      have hb67 := hb7.trans (hbN7.mono hs7)
      have hbw7 := hbr.trans (hb67.mono hbr.size)
      have hX17 := hX1.below hb7
      have hX27 := hX2.below hb7
      have hXn := Bx.new w7 (n + q + 1) p4 c4
      have hlt7 : w3.heap.size < w7.heap.size := hX17.lt
      have hlt7' : w5.heap.size < w7.heap.size := hX27.lt
      obtain ⟨g0, g1, gf0, gf1, _⟩ := two_cells hX17
      obtain ⟨h0, h1, hf0, hf1, _⟩ := two_cells hX27
      have H7 : Hid (_ ∧ _ ∧ _ ∧ _ ∧ _ ∧ _ ∧ _ ∧ _) := ⟨hO4.below hbN7, hT4, hl2.below hb67, hbw7, hX17.below hbN7, hX27.below hbN7, hXn, hs7⟩
      clear hO4 hT4 hl1 hl2 hbw7 hX17 hX27 hXn hX1 hX2 hb7 hb67 hbN7 hbr hm1 hm2 hi1 hi2 hs7 d0 d1 df0 df1 e0 e1 ef0 ef1
      go_wp2_with fail
      obtain ⟨_, _, _, _, _, hm2, _, _, _⟩ := HR.out
      refine (advance_fine _ (n + q) l2 _ (HC.out.2.2.2.2.2.2.below H7.out.2.2.2.1) H7.out.2.2.1 hm2 hpos).mono ?_
      rintro r w8 ⟨p5, c5, yp, yc, m2, L2, rfl, hO5, hT5, _, hb8⟩
      have hs8 := hb8.size
      have hlt8 : w7.heap.size < w8.heap.size := by simp at hs8; omega
      have hX18 := H7.out.2.2.2.2.1.below hb8
      have hX28 := H7.out.2.2.2.2.2.1.below hb8
      have hXn8 := H7.out.2.2.2.2.2.2.1.below hb8
      obtain ⟨t0, t1, tf0, tf1, _⟩ := two_cells hX18
      obtain ⟨v0, v1, vf0, vf1, _⟩ := two_cells hX28
      obtain ⟨z0, z1, _, _, _⟩ := two_cells hXn8
      have hlt8a : w3.heap.size < w8.heap.size := by omega
      have hlt8b : w5.heap.size < w8.heap.size := by omega
      have H8 : Hid (_ ∧ _ ∧ _ ∧ _ ∧ _ ∧ _ ∧ _) := ⟨H7.out.1.below hb8, hO5, hT5, hX18, hX28, hm2, H7.out.2.2.2.1.trans (hb8.mono H7.out.2.2.2.1.size)⟩
      clear hO5 hT5 hX18 hX28 hXn8 hb8 hs8 hm2 g0 g1 gf0 gf1 h0 h1 hf0 hf1
      go_wp2_with fail
      go_roundw
      case rel =>
        obtain ⟨g1, g2, g3, g4, g5, g6, g7⟩ := H8.out
        obtain ⟨_, _, _, _, _, _, hi1, hi2, _⟩ := HR.out
        have hsb := H7.out.2.2.2.2.2.2.2
        have hne : w3.heap.size ≠ w5.heap.size := by omega
        have hgr : ∀ W : World, Below W.heap.size W (W.alloc (.cells #[.int .i64 (n + q + 1), .slice p5 25 c5] 27)) := fun W => (Below.refl _ _).alloc (Nat.le_refl _) _
        have hc : ((n : Int) + ((q + 1 : Nat) : Int)) = n + q + 1 := by omega
        refine ⟨q + 1, p4, p5, c4, c5, m1, m2, by simp, hqm, ?_, ?_, ?_, ?_, ?_, ?_, fun t => ?_, fun t => ?_, ?_⟩
        · rw [hc]; exact ((g4.set).other hne _ _).below (hgr _)
        · rw [hc]; exact ((g5.other (Ne.symm hne) _ _).set).below (hgr _)
        · exact ((g1.set2 (g := w3.heap.size) (by omega) _ _).set2 (g := w5.heap.size) (by omega) _ _).off (.inl (by omega)) |>.below (hgr _)
        · exact (((g2.set2 (by simp; omega) _ _).set2 (by simp; omega) _ _).below (hgr _)).at
        · rw [hc]; exact H7.out.2.1.may
        · rw [hc]; exact g3.may
        · rw [H7.out.2.1.left, hi1]
          constructor
          · exact fun h => h.1
          · intro h
            refine ⟨h, ?_⟩
            rcases h with rfl | rfl <;> simp <;> omega
        · rw [g3.left, hi2]
          constructor
          · exact fun h => h.1
          · rintro rfl
            exact ⟨rfl, by simp; omega⟩
        · have hb := below_set2 (below_set2 g7 (g := w3.heap.size) (by omega) (.int .i64 (n + q + 1)) (.slice p4 25 c4)) (g := w5.heap.size) (by omega) (.int .i64 (n + q + 1)) (.slice p5 25 c5)
          exact hb.trans ((hgr _).mono hb.size)
      case measure => simp [intOf]; omega
    · obtain rfl : q = m := by omega
      have HR : Hid (_ ∧ _ ∧ _ ∧ _ ∧ _ ∧ _ ∧ _ ∧ _ ∧ _) := ⟨hX1, hX2, hl1, hl2, hm1, hm2, hi1, hi2, hbr⟩
      obtain ⟨d0, d1, df0, df1, _⟩ := two_cells hX1
      obtain ⟨e0, e1, ef0, ef1, _⟩ := two_cells hX2
      clear hX1 hX2 hl1 hl2 hm1 hm2 hi1 hi2 hbr
      have hmin : min x0 y0 ≤ x0 ∧ min x0 y0 ≤ y0 := ⟨Nat.min_le_left _ _, Nat.min_le_right _ _⟩
      go_wp2_with fail
      refine (HC.out.2.2.2.2.2.1 _ (by omega) _).mono ?_
      rintro r w6 ⟨rfl, rfl⟩
      go_wp2_with fail
      obtain ⟨hX1, hX2, hl1, hl2, hm1, hm2, hi1, hi2, hbr⟩ := HR.out
      refine (arm_fine _ (n + q) i (n + 1 + x0) l2 _ (HC.out.2.2.2.2.2.2.below hbr) hl2 hm2 (fits_of (by omega) (by omega) (by omega) (by omega) (by omega)) (fun t ht => by rw [(hi2 t).1 ht]; simp; omega)).mono ?_
      rintro r w7 ⟨p4, c4, rfl, hO4, hM4, hb7⟩
      have hX17 := hX1.below hb7
      have hX27 := hX2.below hb7
      have hlt7 : w3.heap.size < w7.heap.size := hX17.lt
      have hlt7' : w5.heap.size < w7.heap.size := hX27.lt
      obtain ⟨g0, g1, gf0, gf1, _⟩ := two_cells hX17
      obtain ⟨h0, h1, hf0, hf1, _⟩ := two_cells hX27
      have hne : w3.heap.size ≠ w5.heap.size := by omega
      have hsame : l1 = addT l2 (n + q) (n + 1 + x0, (i : Int)) := ok_unique hm1.2 hM4.2 fun t => by
        rw [mem_add hm2.2, hi1, hi2]
        exact Or.comm
      have hbw7 := hbr.trans (hb7.mono hbr.size)
      have hsr := hX2.lt
      have hW1 : LsAt ((w7.setCell ⟨w5.heap.size, 0, none⟩ (.int .i64 (n + q))).setCell ⟨w5.heap.size, 1, none⟩ (.slice p4 25 c4)) (.slice p4 25 c4) l1 := by
        rw [hsame]; exact (hO4.set2 hsr _ _).at
      have hW2 : LsAt ((w7.setCell ⟨w5.heap.size, 0, none⟩ (.int .i64 (n + q))).setCell ⟨w5.heap.size, 1, none⟩ (.slice p4 25 c4)) (.slice p 25 c) l1 := ((hl1.below hb7).set2 _ _).at
      have hbw8 := below_set2 hbw7 (g := w5.heap.size) (by omega) (.int .i64 (n + q)) (.slice p4 25 c4)
      have H9 : Hid (_ ∧ _ ∧ _) := ⟨hW1, hW2, hbw8⟩
      clear hW1 hW2 hbw8 hbw7 hsame hX17 hX27 hX1 hX2 hl1 hl2 hm1 hm2 hi1 hi2 hbr hO4 hM4 hb7 d0 d1 df0 df1 e0 e1 ef0 ef1
      go_wp2_with fail
      refine (keepSame _ _ (n + q) l1 _ ⟨_, rfl, H9.out.2.1⟩ ⟨_, rfl, H9.out.1⟩).mono ?_
      rintro r w9 ⟨rfl, hb9⟩
      have hX19 : w9.cell? ⟨w3.heap.size, 1, none⟩ = some (.slice p 25 c) := by
        rw [hb9.cell (p := ⟨w3.heap.size, 1, none⟩) (by simp; omega)]
        rw [World.cell?_of_block (Below.heap_setCell _ _ _ _ (by simpa using hne)), World.cell?_of_block (Below.heap_setCell _ _ _ _ (by simpa using hne))]
        exact g1
      have H10 : Hid _ := hb9
      clear hb9
      go_wp2
      go_ret
      exact ⟨rfl, H9.out.2.2.trans (H10.out.mono H9.out.2.2.size)⟩
end Go.Proofs.YtjjlekohkoicbabDoor.Walks
