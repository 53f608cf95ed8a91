/-
  BucketMore: who has more tokens can spend at least as often. No condition.
-/
import Derived.Test.YtleeoncaiiilgabBudget
import Derived.WalkKit
import Derived.ProofKit
import Derived.Handy
import Derived.LoopTactic
import Derived.Below
import Derived.Laws.BitsAllLaws
import Derived.RegionTactic
import Derived.Deep.RegionHeld3
import Derived.Deep.DrawnRows
import Derived.Deep.AppendLies
import Derived.Laws.OwnMore
import Derived.Deep.Onto
import Derived.Deep.QuietTactic
import Derived.BigQuiet
namespace Go.Proofs.Ytleeoncaiiilgab.Walks
open Go.RowKit
set_option linter.unusedVariables false
set_option linter.unusedSimpArgs false
attribute [local go_sem ↓] Go.wp_at_zero Go.wp_at_succ

/-- Behind k tries: so often it was spent, so much is left; nothing is left to spend where a try was refused. -/
abbrev Tried (d P0 k m : Nat) (p : Int) : Prop := 0 ≤ p ∧ p + m * d = P0 ∧ (m < k → p < d) ∧ m ≤ k

theorem tried_yes {d P0 k m : Nat} {p : Int} (h : Tried d P0 k m p) (hd : (d : Int) ≤ p) : Tried d P0 (k + 1) (m + 1) (p - d) := by
  obtain ⟨h1, h2, h3, h4⟩ := h
  refine ⟨by omega, ?_, fun hlt => ?_, by omega⟩
  · rw [Int.natCast_add, Int.add_mul]
    generalize (m : Int) * d = md at *
    simp
    omega
  · have := h3 (by omega)
    omega

theorem tried_no {d P0 k m : Nat} {p : Int} (h : Tried d P0 k m p) (hd : p < (d : Int)) : Tried d P0 (k + 1) m p :=
  ⟨h.1, h.2.1, fun _ => hd, by have := h.2.2.2; omega⟩

theorem tried_le {d P0 k m : Nat} {p : Int} (h : Tried d P0 k m p) : p ≤ P0 := by
  have : 0 ≤ (m : Int) * d := Int.mul_nonneg (by omega) (by omega)
  have := h.2.1
  omega

theorem tried_end {d b P0 Q0 m n : Nat} {p q : Int} (hd : 1 ≤ d) (hb : b ≤ 20) (hP : (P0 : Int) ≤ b * d) (hQ : Q0 ≤ P0) (h : Tried d P0 30 m p) (h' : Tried d Q0 30 n q) : n ≤ m ∧ m ≤ b ∧ p < d := by
  obtain ⟨h1, h2, h3, h4⟩ := h
  obtain ⟨g1, g2, g3, g4⟩ := h'
  have hmb : m ≤ b := by
    have e : (m : Int) * d ≤ b * d := by omega
    have := Int.le_of_mul_le_mul_right e (by omega)
    omega
  have hp := h3 (by omega)
  refine ⟨?_, hmb, hp⟩
  have e : (n : Int) * d < (m + 1) * d := by
    rw [Int.add_mul, Int.one_mul]
    omega
  have := Int.lt_of_mul_lt_mul_right e (by omega)
  omega

/-- A budget in block g, two buckets in blocks h and j. -/
def G3 (w W : World) (g h j : Nat) (n d b p q : Int) : Prop :=
  Gh w W g h n d b p ∧ W.heap[j]? = some (.cells #[.int .i64 q] 26 (0, 0)) ∧ (g ≠ j ∧ h ≠ j ∧ w.heap.size ≤ j)

theorem G3.below {w W W' : World} {g h j : Nat} {n d b p q : Int} (H : G3 w W g h j n d b p q) (hb : Below W.heap.size W W') : G3 w W' g h j n d b p q :=
  ⟨H.1.below hb, box_below H.2.1 hb, H.2.2⟩

theorem G3.alloc {w W : World} {g h j : Nat} {n d b p q : Int} (H : G3 w W g h j n d b p q) (o : Obj) : G3 w (W.alloc o) g h j n d b p q := H.below (below_new _)

theorem G3.setP {w W : World} {g h j : Nat} {n d b p q : Int} (H : G3 w W g h j n d b p q) (z : Int) : G3 w (W.setCell ⟨h, 0, none⟩ (.int .i64 z)) g h j n d b z q :=
  ⟨H.1.set z, (Below.heap_setCell _ _ _ _ (by simpa using H.2.2.2.1.symm)).trans H.2.1, H.2.2⟩

theorem G3.setQ {w W : World} {g h j : Nat} {n d b p q : Int} (H : G3 w W g h j n d b p q) (z : Int) : G3 w (W.setCell ⟨j, 0, none⟩ (.int .i64 z)) g h j n d b p z :=
  ⟨⟨(Below.heap_setCell _ _ _ _ (by simpa using H.2.2.1)).trans H.1.1, (Below.heap_setCell _ _ _ _ (by simpa using H.2.2.2.1)).trans H.1.2.1, H.1.2.2.1, H.1.2.2.2.setCell H.2.2.2.2 _⟩, one_set H.2.1, H.2.2⟩

theorem G3.cells {w W : World} {g h j : Nat} {n d b p q : Int} (H : G3 w W g h j n d b p q) : (W.cell? ⟨g, 0, none⟩ = some (.int .i64 n) ∧ W.cell? ⟨g, 1, none⟩ = some (.int .i64 d) ∧ W.cell? ⟨g, 2, none⟩ = some (.int .i64 b) ∧ W.cell? ⟨h, 0, none⟩ = some (.int .i64 p) ∧ W.frozen? ⟨h, 0, none⟩ = false ∧ g < W.heap.size ∧ h < W.heap.size) ∧ W.cell? ⟨j, 0, none⟩ = some (.int .i64 q) ∧ W.frozen? ⟨j, 0, none⟩ = false ∧ j < W.heap.size :=
  ⟨H.1.cells, one_cells H.2.1⟩

theorem G3.new {w w1 w2 : World} {n d b x p q : Int} (h1 : Below w.heap.size w w1) (h2 : Below (w1.alloc (.cells #[.int .i64 n, .int .i64 d, .int .i64 b] 23)).heap.size (w1.alloc (.cells #[.int .i64 n, .int .i64 d, .int .i64 b] 23)) w2) :
    G3 w (((w2.alloc (.cells #[.int .i64 x] 26)).alloc (.cells #[.int .i64 p] 26)).alloc (.cells #[.int .i64 q] 26)) w1.heap.size (w2.heap.size + 1) (w2.heap.size + 1 + 1) n d b p q := by
  have hG := (Gh.new (x := x) h1 h2)
  have hs : w1.heap.size < w2.heap.size := by have := h2.size; simp at this; omega
  have hw := h1.size
  refine ⟨⟨heap_old _ _ (heap_old _ _ hG.1), heap_old _ _ (heap_second _ _ _), ⟨by omega, by omega, by omega⟩, ?_⟩, heap_third _ _ _ _, ⟨by omega, by omega, by omega⟩⟩
  have hb := hG.2.2.2
  have hb2 := hb.alloc hb.size (.cells #[.int .i64 p] 26)
  exact hb2.alloc hb2.size _

set_option maxHeartbeats 8000000 in
set_option maxRecDepth 100000 in
theorem more_law (x0 : Int) (h0 : (Lit.int .i64 x0).wf = true) (x1 : Int) (h1 : (Lit.int .i64 x1).wf = true) (x2 : Int) (h2 : (Lit.int .i64 x2).wf = true) (x3 : Int) (h3 : (Lit.int .i64 x3).wf = true) (x4 : Int) (h4 : (Lit.int .i64 x4).wf = true) (w : World) :
    Calls Try.prog 4 #[.int .i64 x0, .int .i64 x1, .int .i64 x2, .int .i64 x3, .int .i64 x4] w fun e w' => e = .returned (.bool true) ∧ Below w.heap.size w w' := by
  obtain ⟨n, d, b, ⟨hn, hd, hb⟩, hbud⟩ := budget_some x0 x1 x2 h0 h1 h2
  have hok : BudOk n d b := ⟨⟨by omega, by omega⟩, ⟨by omega, by omega⟩, by omega, by omega⟩
  have hbd := prod_bd hok.2.1 hok.2.2
  obtain ⟨M, hM⟩ : ∃ M : Nat, (M : Int) = (b : Int) * d := ⟨b * d, Int.natCast_mul _ _⟩
  rw [← hM] at hbd
  obtain ⟨P0, hP0, hpick⟩ := picked_some x3 (M + 1) h3 (by omega) (by omega)
  obtain ⟨Q0, hQ0, hpick2⟩ := picked_some x4 (P0 + 1) h4 (by omega) (by omega)
  rw [show ((M + 1 : Nat) : Int) = (M : Int) + 1 from by omega] at hpick
  rw [show ((P0 + 1 : Nat) : Int) = (P0 : Int) + 1 from by omega] at hpick2
  have P : Hid (_ ∧ _ ∧ _ ∧ BudOk n d b) := ⟨hbud, hpick, hpick2, hok⟩
  have hF : Hid (∀ W, _) := fun W => fill_any n d b W
  rw [show fillO n d b = ((b : Int) * d, 0) from if_pos hok, ← hM] at hF
  have hS : Hid (∀ (x : Int) W, (d : Int) ≤ x → x ≤ M → Calls Try.prog 8 #[budV n d b, bktV x] W fun r w' => r = .returned (.tuple #[bktV (x - d), .int .i64 0]) ∧ Below W.heap.size W w') := by
    refine fun (x : Int) (W : World) hx hx2 => ?_
    have := spend_any n d b x W
    rwa [spend_fine hok hx (by rw [← hM]; exact hx2)] at this
  have hT : Hid (∀ (x : Int) W, 0 ≤ x → x < (d : Int) → x ≤ M → Calls Try.prog 8 #[budV n d b, bktV x] W fun r w' => r = .returned (.tuple #[bktV 0, .int .i64 11]) ∧ Below W.heap.size W w') := by
    refine fun (x : Int) (W : World) h0 hx hx2 => ?_
    have := spend_any n d b x W
    rwa [spend_few hok h0 hx (by rw [← hM]; exact hx2)] at this
  have HM : Hid _ := hM
  clear hbud hok h0 h1 h2 h3 h4 hpick hpick2 hM
  go_enter Try.func4, Try.ntmps4
  go_wp2_with fail
  refine (P.out.1 _).mono ?_
  rintro r w1 ⟨rfl, hb1⟩
  have H1 : Hid _ := hb1
  clear hb1
  go_wp2_with fail
  refine (hF.out _).mono ?_
  rintro r w2 ⟨rfl, hb2⟩
  have H2 : Hid _ := hb2
  clear hb2 hF
  go_wp2_with fail
  refine (P.out.2.1 _).mono ?_
  rintro r w3 ⟨rfl, rfl⟩
  go_wp2_with fail
  refine (P.out.2.2.1 _).mono ?_
  rintro r w3 ⟨rfl, rfl⟩
  have HG : Hid _ := G3.new (x := (M : Int)) (p := (P0 : Int)) (q := (Q0 : Int)) H1.out H2.out
  clear H1 H2
  go_wp2
  obtain ⟨g, hg⟩ : ∃ g, g = w1.heap.size := ⟨_, rfl⟩
  rw [← hg] at HG ⊢
  obtain ⟨j, hj⟩ : ∃ j, j = w2.heap.size + 1 + 1 := ⟨_, rfl⟩
  rw [← hj] at HG ⊢
  obtain ⟨h, hh⟩ : ∃ h, h = w2.heap.size + 1 := ⟨_, rfl⟩
  rw [← hh] at HG ⊢
  generalize (((w2.alloc (.cells #[.int .i64 (M : Int)] 26)).alloc (.cells #[.int .i64 (P0 : Int)] 26)).alloc (.cells #[.int .i64 (Q0 : Int)] 26)) = W3 at *
  clear hg hj hh
  go_loopw [16, 17, 18] (fun m n'' i wr => ∃ (k m' n' : Nat) (p q : Int), i = .int .i64 k ∧ m = .int .i64 m' ∧ n'' = .int .i64 n' ∧ k ≤ 30 ∧ Tried d P0 k m' p ∧ Tried d Q0 k n' q ∧ G3 w wr g h j n d b p q) (fun _ _ i _ => 30 - (intOf i).toNat)
  case atStart => exact ⟨0, 0, 0, P0, Q0, rfl, rfl, rfl, by omega, ⟨by omega, by simp, fun h => by omega, by omega⟩, ⟨by omega, by simp, fun h => by omega, by omega⟩, HG.out⟩
  case round =>
    obtain ⟨k, m', n', p, q, rfl, rfl, rfl, hk, hTp, hTq, hG⟩ := hrel
    obtain ⟨⟨c0, c1, c2, c3, c4, l1, l2⟩, c5, c6, l3⟩ := hG.cells
    have HK : Hid (G3 _ _ _ _ _ _ _ _ _ _) := hG
    have p0 : 0 ≤ p := hTp.1
    have q0 : 0 ≤ q := hTq.1
    have p1 : p ≤ M := by have := tried_le hTp; omega
    have q1 : q ≤ M := by have := tried_le hTq; omega
    have hm30 : m' ≤ k := hTp.2.2.2
    have hn30 : n' ≤ k := hTq.2.2.2
    have HT : Hid (Tried d P0 k m' p ∧ Tried d Q0 k n' q) := ⟨hTp, hTq⟩
    clear hG hTp hTq
    by_cases hlt : k < 30
    · have hltI : (k : Int) < 30 := by omega
      by_cases hp : p < d
      · have hpn : Tried d P0 (k + 1) m' p := tried_no HT.out.1 hp
        go_wp2_with fail
        refine (hT.out p _ p0 hp p1).mono ?_
        rintro r w4 ⟨rfl, hb4⟩
        have hG4 := HK.out.below hb4
        have HG4 : Hid (G3 w w4 g h j n d b p q) := hG4
        clear c0 c1 c2 c3 c4 l1 l2 c5 c6 l3 hb4 HK
        obtain ⟨⟨e0, e1, e2, e3, e4, m1, m2⟩, e5, e6, m3⟩ := hG4.cells
        clear hG4
        by_cases hq : q < d
        · have hqn : Tried d Q0 (k + 1) n' q := tried_no HT.out.2 hq
          have HN : Hid (_ ∧ _) := ⟨hpn, hqn⟩
          clear hqn HT
          go_wp2_with fail
          refine (hT.out q _ q0 hq q1).mono ?_
          rintro r w5 ⟨rfl, hb5⟩
          have HG5 : Hid (G3 w w5 g h j n d b p q) := (HG4.out.alloc _).below hb5
          clear hb5 e0 e1 e2 e3 e4 m1 m2 e5 e6 m3
          go_wp2
          go_roundw
          case rel => exact ⟨k + 1, m', n', p, q, by simp, rfl, rfl, by omega, HN.out.1, HN.out.2, HG5.out.alloc _⟩
          case measure => simp [intOf]; omega
        · have hq' : (d : Int) ≤ q := by omega
          have hqn : Tried d Q0 (k + 1) (n' + 1) (q - d) := tried_yes HT.out.2 hq'
          have HN : Hid (_ ∧ _) := ⟨hpn, hqn⟩
          clear hqn HT
          go_wp2_with fail
          refine (hS.out q _ hq' q1).mono ?_
          rintro r w5 ⟨rfl, hb5⟩
          have hG5 := (HG4.out.alloc _).below hb5
          have HG5 : Hid (G3 w w5 g h j n d b p q) := hG5
          clear hb5 e0 e1 e2 e3 e4 m1 m2 e5 e6 m3
          obtain ⟨⟨e0, e1, e2, e3, e4, m1, m2⟩, e5, e6, m3⟩ := hG5.cells
          clear hG5
          go_wp2
          go_roundw
          case rel => exact ⟨k + 1, m', n' + 1, p, q - d, by simp, rfl, by simp, by omega, HN.out.1, HN.out.2, (HG5.out.setQ (q - d)).alloc _⟩
          case measure => simp [intOf]; omega
      · have hp' : (d : Int) ≤ p := by omega
        have hpn : Tried d P0 (k + 1) (m' + 1) (p - d) := tried_yes HT.out.1 hp'
        go_wp2_with fail
        refine (hS.out p _ hp' p1).mono ?_
        rintro r w4 ⟨rfl, hb4⟩
        have hG4 := HK.out.below hb4
        have HG4 : Hid (G3 w w4 g h j n d b p q) := hG4
        have hne1 : g ≠ h := hG4.1.2.2.1.1
        have hne2 : j ≠ h := hG4.2.2.2.1.symm
        clear c0 c1 c2 c3 c4 l1 l2 c5 c6 l3 hb4 HK
        obtain ⟨⟨e0, e1, e2, e3, e4, m1, m2⟩, e5, e6, m3⟩ := hG4.cells
        clear hG4
        by_cases hq : q < d
        · have hqn : Tried d Q0 (k + 1) n' q := tried_no HT.out.2 hq
          have HN : Hid (_ ∧ _) := ⟨hpn, hqn⟩
          clear hqn HT
          go_wp2_with fail
          refine (hT.out q _ q0 hq q1).mono ?_
          rintro r w5 ⟨rfl, hb5⟩
          have HG5 : Hid (G3 w w5 g h j n d b (p - d) q) := ((HG4.out.setP (p - d)).alloc _).below hb5
          clear hb5 e0 e1 e2 e3 e4 m1 m2 e5 e6 m3
          go_wp2
          go_roundw
          case rel => exact ⟨k + 1, (m' + 1), n', (p - d), q, by simp, by simp, rfl, by omega, HN.out.1, HN.out.2, HG5.out.alloc _⟩
          case measure => simp [intOf]; omega
        · have hq' : (d : Int) ≤ q := by omega
          have hqn : Tried d Q0 (k + 1) (n' + 1) (q - d) := tried_yes HT.out.2 hq'
          have HN : Hid (_ ∧ _) := ⟨hpn, hqn⟩
          clear hqn HT
          go_wp2_with fail
          refine (hS.out q _ hq' q1).mono ?_
          rintro r w5 ⟨rfl, hb5⟩
          have hG5 := ((HG4.out.setP (p - d)).alloc _).below hb5
          have HG5 : Hid (G3 w w5 g h j n d b (p - d) q) := hG5
          clear hb5 e0 e1 e2 e3 e4 m1 m2 e5 e6 m3
          obtain ⟨⟨e0, e1, e2, e3, e4, m1, m2⟩, e5, e6, m3⟩ := hG5.cells
          clear hG5
          go_wp2
          go_roundw
          case rel => exact ⟨k + 1, (m' + 1), n' + 1, (p - d), q - d, by simp, by simp, by simp, by omega, HN.out.1, HN.out.2, (HG5.out.setQ (q - d)).alloc _⟩
          case measure => simp [intOf]; omega
    · obtain rfl : k = 30 := by omega
      obtain ⟨t1, t2, t3⟩ := tried_end hd.1 hb (by rw [← HM.out]; omega) (by omega) HT.out.1 HT.out.2
      have t1' : (n' : Int) ≤ (m' : Int) := by omega
      have t2' : (m' : Int) ≤ (b : Int) := by omega
      have HB : Hid _ := HK.out.1.2.2.2
      clear HK HT
      go_wp2
      go_ret
      exact ⟨rfl, HB.out⟩
end Go.Proofs.Ytleeoncaiiilgab.Walks
