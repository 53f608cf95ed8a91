/-
  TableOnce: a handle that was dropped is never good again; no handle is given twice. Condition: the acts can be read.
-/
import Derived.Test.YthiojfgimjoenaaSeatL
import Derived.Deep.CutRange
import Derived.Shelf.SlSortCmp.QuietGrown
import Derived.WalkKit
import Derived.ProofKit
import Derived.Handy
import Derived.LoopTactic
import Derived.Below
import Derived.Laws.BitsAllLaws
import Derived.RegionTactic
import Derived.Deep.RegionHeld3
import Derived.Deep.DrawnRows
import Derived.Deep.AppendLies
import Derived.Laws.OwnMore
import Derived.Deep.Onto
import Derived.Deep.QuietTactic
import Derived.BigQuiet
namespace Go.Proofs.Ythiojfgimjoenaa.Walks
open Go.RowKit
set_option linter.unusedVariables false
set_option linter.unusedSimpArgs false
attribute [local go_sem ↓] Go.wp_at_zero Go.wp_at_succ

/-- A slot in a box, as a call's result is laid. -/
def EndS (wr : World) (a b c d : Value) (g : Nat) (wx : World) : Prop :=
  wx.heap[g]? = some (.cells #[a, b, c, d] 44 (0, 0)) ∧ Below wr.heap.size wr wx

theorem endSA {wr w5 : World} {a b c d : Value} (hb : Below wr.heap.size wr w5) : EndS wr a b c d w5.heap.size (w5.alloc (.cells #[a, b, c, d] 44)) :=
  ⟨heap_alloc_new _ _, hb.alloc hb.size _⟩

theorem endSB {wr W w5 : World} {a b c d a0 b0 c0 d0 : Value} (hT : W.heap[wr.heap.size]? = some (.cells #[a0, b0, c0, d0] 44 (0, 0))) (hW : Below W.heap.size W w5) (hb : Below wr.heap.size wr w5) :
    EndS wr a b c d wr.heap.size ((((w5.setCell ⟨wr.heap.size, 0, none⟩ a).setCell ⟨wr.heap.size, 1, none⟩ b).setCell ⟨wr.heap.size, 2, none⟩ c).setCell ⟨wr.heap.size, 3, none⟩ d) :=
  ⟨four_set (box_below hT hW), four_below hb (Nat.le_refl _)⟩

/-- What Get answers at the k-th handle. -/
theorem got_k {T : List Sl} {E : List En} (h : Inv 30 T E) {k : Nat} (hk : k < E.length) : ∃ x : Sl, ∃ er : Int, gotE T E[k].1.1 E[k].1.2 = (x, er) ∧ (E[k].2.1 = true → er = 0 ∧ x.2.1 = true ∧ x.2.2.2 = E[k].2.2) ∧ (E[k].2.1 = false → er = 10 ∧ x = (0, false, 0, 0)) := by
  obtain ⟨s, t, _, _, h3, h4⟩ := got_en h hk
  cases hg : E[k].2.1
  · exact ⟨_, _, (h4 hg).2, fun h' => (by cases h'), fun _ => ⟨rfl, rfl⟩⟩
  · obtain ⟨a, _, c, d⟩ := h3 hg
    exact ⟨_, _, d, fun _ => ⟨rfl, a, c⟩, fun h' => (by cases h')⟩

set_option maxHeartbeats 16000000 in
set_option maxRecDepth 100000 in
theorem tableOnce_row (w : World) (n : Int) (wn : (Lit.int .i64 n).wf = true) (v : Value) (l : List St) (hv : StAt w v l) (hwf : ∀ t ∈ l, (Lit.int .i64 t.1).wf = true ∧ (Lit.int .i64 t.2.1).wf = true ∧ (Lit.int .i64 t.2.2).wf = true) :
    Calls Try.prog 5 #[.int .i64 n, v] w fun r w' => r = .returned (.bool true) ∧ Below w.heap.size w w' := by
  obtain ⟨pv, cv, rfl, _⟩ := hv.parts
  have HV : Hid (_ ∧ _ ∧ _) := ⟨hv, hwf, wn⟩
  clear hv hwf wn
  go_enter Try.func5, Try.ntmps5
  go_wp2_with fail
  refine (seated_any n HV.out.2.2 _ l w HV.out.1 HV.out.2.1).mono ?_
  rintro r w1 hr
  obtain ⟨T, E, pT, pH, pG, pA, cT, cH, cG, cA, rfl, hL, hb⟩ := hr.open
  clear hr
  obtain ⟨W2, hW2⟩ : ∃ W2, W2 = w1.alloc (.cells #[.slice pT T.length cT] 24) := ⟨_, rfl⟩
  have hb2 : Below w1.heap.size w1 W2 := by rw [hW2]; exact below_newC w1
  have hT2 : W2.heap[w1.heap.size]? = some (.cells #[.slice pT T.length cT] 24 (0, 0)) := by rw [hW2]; exact heap_alloc_new _ _
  have H2 : Hid (_ ∧ _ ∧ _ ∧ _) := ⟨hW2, hL.below hb2, hT2, hb.trans (hb2.mono hb.size)⟩
  clear hW2 hT2 hb hb2 hL
  obtain ⟨⟨hT6, hE30⟩, _, _, m1, m2, m3, m4, m5, m6, _⟩ := H2.out.2.1.2
  go_wp2
  rw [← H2.out.1]
  go_loopw [10] (fun i wr => ∃ (k : Nat), i = .int .i64 k ∧ k ≤ E.length ∧ ∃ W3, Below W2.heap.size W2 W3 ∧ W3 = wr) (fun i _ => E.length - (intOf i).toNat)
  case atStart => exact ⟨0, rfl, Nat.zero_le _, W2, Below.refl _ _, rfl⟩
  case round =>
    obtain ⟨k, rfl, hk, W3, hb3, rfl⟩ := hrel
    by_cases hk' : k < E.length
    · have hkI : (k : Int) < (E.length : Int) := by omega
      have hR3 := H2.out.2.1.2.2.2.1.below hb3
      have hInv := H2.out.2.1.1
      obtain ⟨bH, oH, bG, oG, bA, oA, rfl, rfl, rfl, l1, l2, l3, g1, g2, g3, g4⟩ := hR3 k hk'
      have hT3 := box_below H2.out.2.2.1 hb3
      have t3 := one_cell hT3
      have lt3 : w1.heap.size < W3.heap.size := (Array.getElem?_eq_some_iff.1 hT3).1
      obtain ⟨⟨x1, x2, x3, x4⟩, er, hgot, hgood, hbad⟩ := got_k hInv hk'
      have hG : ∀ W, Below W3.heap.size W3 W → Calls Try.prog 17 #[.agg #[.slice pT T.length cT], .agg #[.int .i64 E[k].1.1, .int .i64 E[k].1.2]] W fun r w' => r = .returned (.tuple #[.agg #[.int .i64 x1, .bool x2, .int .i64 x3, .int .i64 x4], .int .i64 er]) ∧ Hid (Below W.heap.size W w' ∧ Below W3.heap.size W3 w') ∧ (∀ n, n < W.heap.size → n < w'.heap.size) ∧ (∀ b o, b < W.heap.size → w'.cell? ⟨b, o, none⟩ = W.cell? ⟨b, o, none⟩) ∧ (∀ b o, b < W.heap.size → w'.frozen? ⟨b, o, none⟩ = W.frozen? ⟨b, o, none⟩) := fun W hW => by
        have := get_any (.slice pT T.length cT) T E[k].1.1 E[k].1.2 W ((H2.out.2.1.2.2.1.below hb3).below hW)
        rw [hgot] at this
        refine this.mono ?_
        rintro r w' ⟨rfl, z2⟩
        exact ⟨rfl, ⟨z2, hW.trans (z2.mono hW.size)⟩, (fun n hn => Nat.lt_of_lt_of_le hn z2.size), (bcell z2).1, (bcell z2).2⟩
      have hneq : ∀ j (hj : j < E.length), j < k → E[k].1 ≠ E[j].1 := fun j hj hjk he => by
        have := once_at hInv hk' hj he
        omega
      have H3 : Hid (_ ∧ _ ∧ _ ∧ _ ∧ _ ∧ _ ∧ _) := ⟨hG, hR3, hneq, hgood, hbad, hb3, trivial⟩
      clear hG hR3 hneq hgood hbad hb3 hInv hgot hT3
      obtain ⟨e1, he1⟩ : ∃ e1, e1 = E[k].1.1 := ⟨_, rfl⟩
      obtain ⟨e2, he2⟩ : ∃ e2, e2 = E[k].1.2 := ⟨_, rfl⟩
      have hpair : E[k].1 = (e1, e2) := by rw [he1, he2]
      rw [← he1, ← he2] at H3
      rw [← he1] at g1
      rw [← he2] at g2
      rw [hpair] at H3
      clear he1 he2 hpair
      go_wp2
      go_loopw [11] (fun i wr => ∃ (j q : Nat), i = .int .i64 j ∧ j ≤ k ∧ wr = W3.drewN q) (fun i _ => k - (intOf i).toNat)
      case atStart => exact ⟨0, 0, rfl, Nat.zero_le _, rfl⟩
      case round =>
        obtain ⟨j, q, rfl, hj, rfl⟩ := hrel
        by_cases hj' : j < k
        · have hjI : (j : Int) < (k : Int) := by omega
          have hjE : j < E.length := by omega
          have hjEI : (j : Int) < (E.length : Int) := by omega
          obtain ⟨bH', oH', _, _, _, _, e', eg, ea, l1', _, _, f1, f2, _, _⟩ := H3.out.2.1 j hjE
          clear eg ea
          injection e' with e'
          injection e' with e'1 e'2
          subst e'1 e'2
          have hne := H3.out.2.2.1 j hjE hj'
          obtain ⟨d1, hd1⟩ : ∃ d1, d1 = E[j].1.1 := ⟨_, rfl⟩
          obtain ⟨d2, hd2⟩ : ∃ d2, d2 = E[j].1.2 := ⟨_, rfl⟩
          rw [← hd1] at f1
          rw [← hd2] at f2
          have hne' : ¬ (e1 = d1 ∧ e2 = d2) := fun h => hne (by rw [show E[j].1 = (d1, d2) by rw [hd1, hd2], h.1, h.2])
          clear hne hd1 hd2
          rcases unlike_pair e1 e2 d1 d2 with h | h | ⟨rfl, h⟩
          · exact absurd h hne'
          · clear hne' t3 g3 g4
            go_wp2
            go_region
            go_wp2
            go_roundw
            case rel => exact ⟨j + 1, q + 1, by simp, hj', rfl⟩
            case measure => simp [intOf]; omega
          · clear hne' t3 g3 g4
            go_wp2
            go_region
            go_wp2
            go_roundw
            case rel => exact ⟨j + 1, q + 1, by simp, hj', rfl⟩
            case measure => simp [intOf]; omega
        · obtain rfl : j = k := by omega
          obtain ⟨W5, hW5⟩ : ∃ W5, W5 = W3.drewN q := ⟨_, rfl⟩
          have hb5 : Below W3.heap.size W3 W5 := by rw [hW5]; exact below_drewN (Below.refl _ _) q
          have k1 : W5.cell? ⟨bH, oH + j * 2, none⟩ = some (.int .i64 e1) := by rw [hW5]; exact g1
          have k2 : W5.cell? ⟨bH, oH + j * 2 + 1, none⟩ = some (.int .i64 e2) := by rw [hW5]; exact g2
          have k3 : W5.cell? ⟨w1.heap.size, 0, none⟩ = some (.slice pT T.length cT) := by rw [hW5]; exact t3
          have k4 : W5.cell? ⟨bG, oG + j, none⟩ = some (.bool E[j].2.1) := by rw [hW5]; exact g3
          have k5 : W5.cell? ⟨bA, oA + j, none⟩ = some (.int .i64 E[j].2.2) := by rw [hW5]; exact g4
          have n1 : bH < W5.heap.size := Nat.lt_of_lt_of_le l1 hb5.size
          have n2 : bG < W5.heap.size := Nat.lt_of_lt_of_le l2 hb5.size
          have n3 : bA < W5.heap.size := Nat.lt_of_lt_of_le l3 hb5.size
          have n4 : w1.heap.size < W5.heap.size := Nat.lt_of_lt_of_le lt3 hb5.size
          have hG5 : ∀ W, Below W5.heap.size W5 W → Calls Try.prog 17 #[.agg #[.slice pT T.length cT], .agg #[.int .i64 e1, .int .i64 e2]] W fun r w' => r = .returned (.tuple #[.agg #[.int .i64 x1, .bool x2, .int .i64 x3, .int .i64 x4], .int .i64 er]) ∧ Hid (Below W.heap.size W w' ∧ Below W5.heap.size W5 w') ∧ (∀ n, n < W.heap.size → n < w'.heap.size) ∧ (∀ b o, b < W.heap.size → w'.cell? ⟨b, o, none⟩ = W.cell? ⟨b, o, none⟩) ∧ (∀ b o, b < W.heap.size → w'.frozen? ⟨b, o, none⟩ = W.frozen? ⟨b, o, none⟩) := fun W hW =>
            (H3.out.1 W (hb5.trans (hW.mono hb5.size))).mono fun r w' ⟨z1, z2, z3, z4, z5⟩ => ⟨z1, ⟨z2.out.1, hW.trans (z2.out.1.mono hW.size)⟩, z3, z4, z5⟩
          rw [← hW5]
          have H5 : Hid (_ ∧ _ ∧ _) := ⟨hG5, hb5, hW5⟩
          clear hG5 hb5 hW5 g1 g2 g3 g4 t3
          go_upto_region 12 with fail
          go_cut [12, 13] from 45 to 53 (fun x e wx => ∃ g, x = .pointer (some ⟨g, 0, none⟩) ∧ e = .int .i64 er ∧ EndS W5 (.int .i64 x1) (.bool x2) (.int .i64 x3) (.int .i64 x4) g wx)
          case first =>
            go_region_held3 (fun W => W.cell? ⟨w1.heap.size, 0, none⟩ = some (.slice pT T.length cT) ∧ W.cell? ⟨bH, oH + j * 2, none⟩ = some (.int .i64 e1) ∧ W.cell? ⟨bH, oH + j * 2 + 1, none⟩ = some (.int .i64 e2) ∧ Below W5.heap.size W5 W) (first | exact held3t k3 k1 k2 ((Below.refl _ _).drew) | exact held3t k3 k1 k2 (((Below.refl _ _).drew).alloc (by simp) _) | exact held3t k3 k1 k2 hq5.out.2 | exact held3t k3 k1 k2 (hq5.out.2.alloc hq5.out.2.size _) | exact held3t k3 k1 k2 (((Below.refl _ _).alloc (Nat.le_refl _) _).drew) | exact held3t k3 k1 k2 (four_below hq5.out.2 (Nat.le_refl _))) (first | (go_at_call 17; refine (H5.out.1 _ ?hbW).mono ?_; (case hbW => first | assumption | exact (Below.refl _ _).drew | exact ((Below.refl _ _).drew).alloc (by simp) _ | exact ((Below.refl _ _).alloc (Nat.le_refl _) _).drew); rintro r w5 ⟨rfl, hq5, hz5, hc5, hf5⟩))
            all_goals
              clear hz5 hc5 hf5
              go_wp2_with fail
              go_meet
              refine ⟨_, rfl, rfl, ?_⟩
              first
              | with_reducible exact endSA hq5.out.2
              | with_reducible exact endSB (by first | exact heap_alloc_new _ _ | exact heap_newd _ _) hq5.out.1 hq5.out.2
          case rest =>
          obtain ⟨g, rfl, rfl, hbx, hbc⟩ := hcut
          obtain ⟨⟨y0, y1, y2, y3⟩, _⟩ := box4 hbx
          have z4 := (hbc.cell (p := ⟨bG, oG + j, none⟩) n2).trans k4
          have z5 := (hbc.cell (p := ⟨bA, oA + j, none⟩) n3).trans k5
          have hb52 := H5.out.2.1.trans (hbc.mono H5.out.2.1.size)
          have H6 : Hid (_ ∧ True) := ⟨H3.out.2.2.2.2.2.1.trans (hb52.mono H3.out.2.2.2.2.2.1.size), trivial⟩
          clear hbx hbc k1 k2 k3 k4 k5 hb52 n1 n2 n3 n4
          cases hgd : E[j].2.1
          · obtain ⟨rfl, hx0⟩ := H3.out.2.2.2.2.1 hgd
            rw [hgd] at z4
            clear hx0
            go_wp2
            refine wp_region_quiet_lit (by kernel_rfl) (by kernel_rfl) ?_
            repeat (first | go_big_quiet_skip | quiet_step (fail))
            refine wpQuiet_nil ?_
            intro _ hw'
            obtain ⟨nq, hw''⟩ := hw'
            subst hw''
            go_wp2
            go_roundw
            case rel => exact ⟨j + 1, by simp, hk', _, below_drewN H6.out.1 nq, rfl⟩
            case measure => simp [intOf]; omega
          · obtain ⟨rfl, hx1, hx2⟩ := H3.out.2.2.2.1 hgd
            replace hx1 : x2 = true := hx1
            replace hx2 : x4 = E[j].2.2 := hx2
            subst hx1
            rw [← hx2] at z5
            rw [hgd] at z4
            clear hx2
            go_wp2
            refine wp_region_quiet_lit (by kernel_rfl) (by kernel_rfl) ?_
            repeat (first | go_big_quiet_skip | quiet_step (fail))
            refine wpQuiet_nil ?_
            intro _ hw'
            obtain ⟨nq, hw''⟩ := hw'
            subst hw''
            go_wp2
            go_roundw
            case rel => exact ⟨j + 1, by simp, hk', _, below_drewN H6.out.1 nq, rfl⟩
            case measure => simp [intOf]; omega
    · obtain rfl : k = E.length := by omega
      have HB : Hid _ := H2.out.2.2.2.trans (hb3.mono H2.out.2.2.2.size)
      clear hb3
      go_wp2
      go_ret
      exact ⟨rfl, HB.out⟩
end Go.Proofs.Ythiojfgimjoenaa.Walks
