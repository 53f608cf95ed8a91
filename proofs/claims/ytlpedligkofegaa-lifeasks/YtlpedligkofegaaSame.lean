/-
  sameBook, sameInts, books. Condition: what is read can be read.
-/
import Derived.Test.YtlpedligkofegaaRefC
import Derived.WalkKit
import Derived.ProofKit
import Derived.Handy
import Derived.LoopTactic
import Derived.Below
import Derived.Laws.BitsAllLaws
import Derived.RegionTactic
import Derived.Deep.RegionHeld3
import Derived.Deep.DrawnRows
import Derived.Deep.AppendLies
import Derived.Laws.OwnMore
import Derived.Deep.Onto
import Derived.Deep.QuietTactic
import Derived.BigQuiet
namespace Go.Proofs.Ytlpedligkofegaa.Walks
open Go.RowKit
set_option linter.unusedVariables false
set_option linter.unusedSimpArgs false
attribute [local go_sem ↓] Go.wp_at_zero Go.wp_at_succ

theorem InAt.parts {w : World} {v : Value} {l : List Int} (h : InAt w v l) :
    ∃ a cap, v = .slice a l.length cap ∧ l.length ≤ cap ∧ cap ≤ maxLen ∧ ∀ i (hi : i < l.length), ∃ b off, a = some ⟨b, off, none⟩ ∧ b < w.heap.size ∧ w.cell? ⟨b, off + i, none⟩ = some (.int .i64 l[i]) := by
  obtain ⟨a, cap, h1, h2, h3, h4⟩ := RcAt.parts in1 h
  refine ⟨a, cap, h1, h2, h3, fun i hi => ?_⟩
  obtain ⟨b, off, e, hb, hc⟩ := h4 i hi
  have := hc 0 (by omega)
  rw [Nat.mul_one, Nat.add_zero] at this
  exact ⟨b, off, e, hb, this⟩

set_option maxHeartbeats 2000000 in
theorem sameInts_any (u v : Value) (l : List Int) (w : World) (hu : InAt w u l) (hv : InAt w v l) :
    Calls Try.prog 17 #[u, v] w fun r w' => r = .returned (.bool true) ∧ Below w.heap.size w w' := by
  obtain ⟨a, ca, rfl, hca, hma, pa⟩ := InAt.parts hu
  obtain ⟨b, cb, rfl, hcb, hmb, pb⟩ := InAt.parts hv
  unfold maxLen at hma hmb
  clear hu hv
  go_enter Try.func17, Try.ntmps17
  go_wp2
  go_loopw [5] (fun i wr => ∃ k q : Nat, i = .int .i64 k ∧ k ≤ l.length ∧ wr = w.drewN q) (fun i _ => l.length - (intOf i).toNat)
  case atStart => exact ⟨0, 0, rfl, Nat.zero_le _, rfl⟩
  case round =>
    obtain ⟨k, q, rfl, hk, rfl⟩ := hrel
    by_cases hlt : k < l.length
    · obtain ⟨b1, o1, rfl, hb1, c1⟩ := pa k hlt
      obtain ⟨b2, o2, rfl, hb2, c2⟩ := pb k hlt
      generalize l[k] = x at c1 c2
      clear hb1 hb2 pa pb
      have hkd : decide ((k : Int) < (l.length : Int)) = true := decide_eq_true (by omega)
      go_wp2
      go_region
      go_wp2
      go_roundw
      case rel => exact ⟨k + 1, q + 1, by simp, hlt, rfl⟩
      case measure => simp [intOf]; omega
    · obtain rfl : k = l.length := by omega
      clear pa pb
      go_wp2
      go_ret
      exact ⟨rfl, below_drewN (Below.refl _ _) q⟩

set_option maxHeartbeats 4000000 in
set_option maxRecDepth 100000 in
theorem sameBookL (ua ub va vb : Value) (L : List Lf) (R : List Rq) (w : World) (hu : BkAt w ua ub L R) (hv : BkAt w va vb L R) :
    Calls Try.prog 14 #[bkV ua ub, bkV va vb] w fun r w' => r = .returned (.bool true) ∧ Below w.heap.size w w' := by
  obtain ⟨p1, c1, rfl, hc1, hm1, pl1⟩ := LvAt.parts hu.1
  obtain ⟨p2, c2, rfl, hc2, hm2, pr1⟩ := RsAt.parts hu.2
  obtain ⟨p3, c3, rfl, hc3, hm3, pl2⟩ := LvAt.parts hv.1
  obtain ⟨p4, c4, rfl, hc4, hm4, pr2⟩ := RsAt.parts hv.2
  unfold maxLen at hm1 hm2 hm3 hm4
  obtain ⟨W0, hW0⟩ : ∃ W0, W0 = (w.alloc (bkO (.slice p1 L.length c1) (.slice p2 R.length c2))).alloc (bkO (.slice p3 L.length c3) (.slice p4 R.length c4)) := ⟨_, rfl⟩
  have hx := two_boxes w (bkO (.slice p1 L.length c1) (.slice p2 R.length c2)) (bkO (.slice p3 L.length c3) (.slice p4 R.length c4))
  rw [← hW0] at hx
  obtain ⟨hR0, hR1, hB0, hs0⟩ := hx
  obtain ⟨k0, k1, _, _, hlt0⟩ := two_cells hR0
  obtain ⟨k2, k3, _, _, hlt1⟩ := two_cells hR1
  have H : Hid (_ ∧ _ ∧ _ ∧ _ ∧ _) := ⟨pl1, pr1, pl2, pr2, hB0⟩
  clear hu hv pl1 pl2 pr1 pr2 hR0 hR1 hs0
  go_enter Try.func14, Try.ntmps14
  go_wp2
  rw [← hW0]
  clear hW0
  go_loopw [5] (fun i wr => ∃ k q : Nat, i = .int .i64 k ∧ k ≤ L.length ∧ wr = W0.drewN q) (fun i _ => L.length - (intOf i).toNat)
  case atStart => exact ⟨0, 0, rfl, Nat.zero_le _, rfl⟩
  case round =>
    obtain ⟨k, q, rfl, hk, rfl⟩ := hrel
    by_cases hlt : k < L.length
    · obtain ⟨b1, o1, h1, hb1, d1, d2, d3, d4, d5, d6⟩ := H.out.1 k hlt
      obtain ⟨b2, o2, h2, hb2, z1, z2, z3, z4, z5, z6⟩ := H.out.2.2.1 k hlt
      subst h1 h2
      have e1 := (hB0.cell (p := ⟨b1, o1 + k * 6, none⟩) hb1).trans d1
      have f1 := (hB0.cell (p := ⟨b2, o2 + k * 6, none⟩) hb2).trans z1
      have e2 := (hB0.cell (p := ⟨b1, o1 + k * 6 + 1, none⟩) hb1).trans d2
      have f2 := (hB0.cell (p := ⟨b2, o2 + k * 6 + 1, none⟩) hb2).trans z2
      have e3 := (hB0.cell (p := ⟨b1, o1 + k * 6 + 2, none⟩) hb1).trans d3
      have f3 := (hB0.cell (p := ⟨b2, o2 + k * 6 + 2, none⟩) hb2).trans z3
      have e4 := (hB0.cell (p := ⟨b1, o1 + k * 6 + 3, none⟩) hb1).trans d4
      have f4 := (hB0.cell (p := ⟨b2, o2 + k * 6 + 3, none⟩) hb2).trans z4
      have e5 := (hB0.cell (p := ⟨b1, o1 + k * 6 + 4, none⟩) hb1).trans d5
      have f5 := (hB0.cell (p := ⟨b2, o2 + k * 6 + 4, none⟩) hb2).trans z5
      have e6 := (hB0.cell (p := ⟨b1, o1 + k * 6 + 5, none⟩) hb1).trans d6
      have f6 := (hB0.cell (p := ⟨b2, o2 + k * 6 + 5, none⟩) hb2).trans z6
      obtain ⟨⟨x1, x2, x3, x4, x5, x6⟩, hxk⟩ : ∃ x, x = L[k] := ⟨_, rfl⟩
      rw [← hxk] at e1 e2 e3 e4 e5 e6 f1 f2 f3 f4 f5 f6
      clear hxk d1 d2 d3 d4 d5 d6 z1 z2 z3 z4 z5 z6 hb1 hb2
      have hkI : (k : Int) < (L.length : Int) := by omega
      have hkd : decide ((k : Int) < (L.length : Int)) = true := decide_eq_true hkI
      go_wp2
      go_region
      go_wp2
      go_roundw
      case rel => exact ⟨k + 1, q + 1, by simp, hlt, rfl⟩
      case measure => simp [intOf]; omega
    · have hkd : ¬ ((k : Int) < (L.length : Int)) := by omega
      go_wp2
      go_loopw [6] (fun i wr => ∃ k q : Nat, i = .int .i64 k ∧ k ≤ R.length ∧ wr = W0.drewN q) (fun i _ => R.length - (intOf i).toNat)
      case atStart => exact ⟨0, q, rfl, Nat.zero_le _, rfl⟩
      case round =>
        obtain ⟨k, q, rfl, hk, rfl⟩ := hrel
        by_cases hlt : k < R.length
        · obtain ⟨b1, o1, h1, hb1, d1, d2, d3, d4, d5⟩ := H.out.2.1 k hlt
          obtain ⟨b2, o2, h2, hb2, z1, z2, z3, z4, z5⟩ := H.out.2.2.2.1 k hlt
          subst h1 h2
          have e1 := (hB0.cell (p := ⟨b1, o1 + k * 5, none⟩) hb1).trans d1
          have f1 := (hB0.cell (p := ⟨b2, o2 + k * 5, none⟩) hb2).trans z1
          have e2 := (hB0.cell (p := ⟨b1, o1 + k * 5 + 1, none⟩) hb1).trans d2
          have f2 := (hB0.cell (p := ⟨b2, o2 + k * 5 + 1, none⟩) hb2).trans z2
          have e3 := (hB0.cell (p := ⟨b1, o1 + k * 5 + 2, none⟩) hb1).trans d3
          have f3 := (hB0.cell (p := ⟨b2, o2 + k * 5 + 2, none⟩) hb2).trans z3
          have e4 := (hB0.cell (p := ⟨b1, o1 + k * 5 + 3, none⟩) hb1).trans d4
          have f4 := (hB0.cell (p := ⟨b2, o2 + k * 5 + 3, none⟩) hb2).trans z4
          have e5 := (hB0.cell (p := ⟨b1, o1 + k * 5 + 4, none⟩) hb1).trans d5
          have f5 := (hB0.cell (p := ⟨b2, o2 + k * 5 + 4, none⟩) hb2).trans z5
          obtain ⟨⟨x1, x2, x3, x4, x5⟩, hxk⟩ : ∃ x, x = R[k] := ⟨_, rfl⟩
          rw [← hxk] at e1 e2 e3 e4 e5 f1 f2 f3 f4 f5
          clear hxk d1 d2 d3 d4 d5 z1 z2 z3 z4 z5 hb1 hb2
          have hkI : (k : Int) < (R.length : Int) := by omega
          have hkd2 : decide ((k : Int) < (R.length : Int)) = true := decide_eq_true hkI
          go_wp2
          go_region
          go_wp2
          go_roundw
          case rel => exact ⟨k + 1, q + 1, by simp, hlt, rfl⟩
          case measure => simp [intOf]; omega
        · have hkd2 : ¬ ((k : Int) < (R.length : Int)) := by omega
          go_wp2
          go_ret
          exact ⟨rfl, below_drewN H.out.2.2.2.2 q⟩

set_option maxHeartbeats 4000000 in
set_option maxRecDepth 100000 in
theorem sameBookK (ua ub va vb : Value) (L : List Lf) (R : List Rq) (w : World) (hu : BkAt w ua ub L R) (hv : BkAt w va vb L R) :
    Calls Try.prog 24 #[bkV ua ub, bkV va vb] w fun r w' => r = .returned (.bool true) ∧ Below w.heap.size w w' := by
  obtain ⟨p1, c1, rfl, hc1, hm1, pl1⟩ := LvAt.parts hu.1
  obtain ⟨p2, c2, rfl, hc2, hm2, pr1⟩ := RsAt.parts hu.2
  obtain ⟨p3, c3, rfl, hc3, hm3, pl2⟩ := LvAt.parts hv.1
  obtain ⟨p4, c4, rfl, hc4, hm4, pr2⟩ := RsAt.parts hv.2
  unfold maxLen at hm1 hm2 hm3 hm4
  obtain ⟨W0, hW0⟩ : ∃ W0, W0 = (w.alloc (bkO (.slice p1 L.length c1) (.slice p2 R.length c2))).alloc (bkO (.slice p3 L.length c3) (.slice p4 R.length c4)) := ⟨_, rfl⟩
  have hx := two_boxes w (bkO (.slice p1 L.length c1) (.slice p2 R.length c2)) (bkO (.slice p3 L.length c3) (.slice p4 R.length c4))
  rw [← hW0] at hx
  obtain ⟨hR0, hR1, hB0, hs0⟩ := hx
  obtain ⟨k0, k1, _, _, hlt0⟩ := two_cells hR0
  obtain ⟨k2, k3, _, _, hlt1⟩ := two_cells hR1
  have H : Hid (_ ∧ _ ∧ _ ∧ _ ∧ _) := ⟨pl1, pr1, pl2, pr2, hB0⟩
  clear hu hv pl1 pl2 pr1 pr2 hR0 hR1 hs0
  go_enter Try.func24, Try.ntmps24
  go_wp2
  rw [← hW0]
  clear hW0
  go_loopw [5] (fun i wr => ∃ k q : Nat, i = .int .i64 k ∧ k ≤ L.length ∧ wr = W0.drewN q) (fun i _ => L.length - (intOf i).toNat)
  case atStart => exact ⟨0, 0, rfl, Nat.zero_le _, rfl⟩
  case round =>
    obtain ⟨k, q, rfl, hk, rfl⟩ := hrel
    by_cases hlt : k < L.length
    · obtain ⟨b1, o1, h1, hb1, d1, d2, d3, d4, d5, d6⟩ := H.out.1 k hlt
      obtain ⟨b2, o2, h2, hb2, z1, z2, z3, z4, z5, z6⟩ := H.out.2.2.1 k hlt
      subst h1 h2
      have e1 := (hB0.cell (p := ⟨b1, o1 + k * 6, none⟩) hb1).trans d1
      have f1 := (hB0.cell (p := ⟨b2, o2 + k * 6, none⟩) hb2).trans z1
      have e2 := (hB0.cell (p := ⟨b1, o1 + k * 6 + 1, none⟩) hb1).trans d2
      have f2 := (hB0.cell (p := ⟨b2, o2 + k * 6 + 1, none⟩) hb2).trans z2
      have e3 := (hB0.cell (p := ⟨b1, o1 + k * 6 + 2, none⟩) hb1).trans d3
      have f3 := (hB0.cell (p := ⟨b2, o2 + k * 6 + 2, none⟩) hb2).trans z3
      have e4 := (hB0.cell (p := ⟨b1, o1 + k * 6 + 3, none⟩) hb1).trans d4
      have f4 := (hB0.cell (p := ⟨b2, o2 + k * 6 + 3, none⟩) hb2).trans z4
      have e5 := (hB0.cell (p := ⟨b1, o1 + k * 6 + 4, none⟩) hb1).trans d5
      have f5 := (hB0.cell (p := ⟨b2, o2 + k * 6 + 4, none⟩) hb2).trans z5
      have e6 := (hB0.cell (p := ⟨b1, o1 + k * 6 + 5, none⟩) hb1).trans d6
      have f6 := (hB0.cell (p := ⟨b2, o2 + k * 6 + 5, none⟩) hb2).trans z6
      obtain ⟨⟨x1, x2, x3, x4, x5, x6⟩, hxk⟩ : ∃ x, x = L[k] := ⟨_, rfl⟩
      rw [← hxk] at e1 e2 e3 e4 e5 e6 f1 f2 f3 f4 f5 f6
      clear hxk d1 d2 d3 d4 d5 d6 z1 z2 z3 z4 z5 z6 hb1 hb2
      have hkI : (k : Int) < (L.length : Int) := by omega
      have hkd : decide ((k : Int) < (L.length : Int)) = true := decide_eq_true hkI
      go_wp2
      go_region
      go_wp2
      go_roundw
      case rel => exact ⟨k + 1, q + 1, by simp, hlt, rfl⟩
      case measure => simp [intOf]; omega
    · have hkd : ¬ ((k : Int) < (L.length : Int)) := by omega
      go_wp2
      go_loopw [6] (fun i wr => ∃ k q : Nat, i = .int .i64 k ∧ k ≤ R.length ∧ wr = W0.drewN q) (fun i _ => R.length - (intOf i).toNat)
      case atStart => exact ⟨0, q, rfl, Nat.zero_le _, rfl⟩
      case round =>
        obtain ⟨k, q, rfl, hk, rfl⟩ := hrel
        by_cases hlt : k < R.length
        · obtain ⟨b1, o1, h1, hb1, d1, d2, d3, d4, d5⟩ := H.out.2.1 k hlt
          obtain ⟨b2, o2, h2, hb2, z1, z2, z3, z4, z5⟩ := H.out.2.2.2.1 k hlt
          subst h1 h2
          have e1 := (hB0.cell (p := ⟨b1, o1 + k * 5, none⟩) hb1).trans d1
          have f1 := (hB0.cell (p := ⟨b2, o2 + k * 5, none⟩) hb2).trans z1
          have e2 := (hB0.cell (p := ⟨b1, o1 + k * 5 + 1, none⟩) hb1).trans d2
          have f2 := (hB0.cell (p := ⟨b2, o2 + k * 5 + 1, none⟩) hb2).trans z2
          have e3 := (hB0.cell (p := ⟨b1, o1 + k * 5 + 2, none⟩) hb1).trans d3
          have f3 := (hB0.cell (p := ⟨b2, o2 + k * 5 + 2, none⟩) hb2).trans z3
          have e4 := (hB0.cell (p := ⟨b1, o1 + k * 5 + 3, none⟩) hb1).trans d4
          have f4 := (hB0.cell (p := ⟨b2, o2 + k * 5 + 3, none⟩) hb2).trans z4
          have e5 := (hB0.cell (p := ⟨b1, o1 + k * 5 + 4, none⟩) hb1).trans d5
          have f5 := (hB0.cell (p := ⟨b2, o2 + k * 5 + 4, none⟩) hb2).trans z5
          obtain ⟨⟨x1, x2, x3, x4, x5⟩, hxk⟩ : ∃ x, x = R[k] := ⟨_, rfl⟩
          rw [← hxk] at e1 e2 e3 e4 e5 f1 f2 f3 f4 f5
          clear hxk d1 d2 d3 d4 d5 z1 z2 z3 z4 z5 hb1 hb2
          have hkI : (k : Int) < (R.length : Int) := by omega
          have hkd2 : decide ((k : Int) < (R.length : Int)) = true := decide_eq_true hkI
          go_wp2
          go_region
          go_wp2
          go_roundw
          case rel => exact ⟨k + 1, q + 1, by simp, hlt, rfl⟩
          case measure => simp [intOf]; omega
        · have hkd2 : ¬ ((k : Int) < (R.length : Int)) := by omega
          go_wp2
          go_ret
          exact ⟨rfl, below_drewN H.out.2.2.2.2 q⟩

set_option maxHeartbeats 2000000 in
theorem books_any (va vb : Value) (L : List Lf) (R : List Rq) (w : World) (hv : BkAt w va vb L R) (hL : L.length * 48 ≤ 140737488355328) (hR : R.length * 40 ≤ 140737488355328) :
    Calls Try.prog 10 #[bkV va vb] w fun r w' => ∃ p c q m, r = .returned (bkV (.slice p L.length c) (.slice q R.length m)) ∧ BkNew w.heap.size w' (.slice p L.length c) (.slice q R.length m) L R ∧ Below w.heap.size w w' := by
  obtain ⟨pa, ca, rfl, hca, hma⟩ := RcAt.form hv.1
  obtain ⟨pb, cb, rfl, hcb, hmb⟩ := RcAt.form hv.2
  obtain ⟨W0, hW0⟩ : ∃ W0, W0 = (w.alloc (bkO (.slice pa L.length ca) (.slice pb R.length cb))).alloc (bkO (.slice none 0 0) (.slice none 0 0)) := ⟨_, rfl⟩
  have hx := two_boxes w (bkO (.slice pa L.length ca) (.slice pb R.length cb)) (bkO (.slice none 0 0) (.slice none 0 0))
  rw [← hW0] at hx
  obtain ⟨hR0, hR1, hB0, hs0⟩ := hx
  have HC : Hid (_ ∧ _ ∧ _ ∧ _) := ⟨bookCopy_any _ _ L R W0 (hv.below hB0) hL hR, hR1, hB0, hs0⟩
  clear hv hR0 hR1 hB0 hs0
  go_enter Try.func10, Try.ntmps10
  go_wp2_with fail
  rw [← hW0]
  clear hW0
  refine Calls.mono HC.out.1 ?_
  rintro r w1 ⟨p, c, q, m, rfl, hO, hb1⟩
  have hR2 := box_below HC.out.2.1 hb1
  obtain ⟨d0, d1, df0, df1, dlt⟩ := two_cells hR2
  have hs := HC.out.2.2.2
  have HF : Hid _ := bk_out (hO.new (by omega)) hR2 (HC.out.2.2.1.trans (hb1.mono HC.out.2.2.1.size)) (Nat.le_succ _)
  clear hO hb1 hR2 hs
  go_wp2
  exact bodyPost_ret (v := bkV (.slice p L.length c) (.slice q R.length m)) (results_c Try.results10 rfl (load_bk HF.out.1)) rfl ⟨p, c, q, m, rfl, HF.out.2.1, HF.out.2.2⟩
end Go.Proofs.Ytlpedligkofegaa.Walks
