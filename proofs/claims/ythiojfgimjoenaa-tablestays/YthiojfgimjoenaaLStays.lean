/-
  TableStays: a flow that is moved keeps its handle and its key; all others stay as they are. Condition: the acts can be read.
-/
import Derived.Test.YthiojfgimjoenaaLOnce
import Derived.WalkKit
import Derived.ProofKit
import Derived.Handy
import Derived.LoopTactic
import Derived.Below
import Derived.Laws.BitsAllLaws
import Derived.RegionTactic
import Derived.Deep.RegionHeld3
import Derived.Deep.DrawnRows
import Derived.Deep.AppendLies
import Derived.Laws.OwnMore
import Derived.Deep.Onto
import Derived.Deep.QuietTactic
import Derived.BigQuiet
namespace Go.Proofs.Ythiojfgimjoenaa.Walks
open Go.RowKit
set_option linter.unusedVariables false
set_option linter.unusedSimpArgs false
attribute [local go_sem ↓] Go.wp_at_zero Go.wp_at_succ

/-- A move, seen from each handle. -/
theorem stay {T : List Sl} {E : List En} {k : Nat} {b : Int} (h : Inv 30 T E) (hk : k < E.length) (hg : E[k].2.1 = true) (hb : isBeP b) :
    ∃ X, moveOut T E[k].1.1 E[k].1.2 b = (X, 0) ∧ ∀ i (hi : i < E.length), ∃ was is_ : Sl, ∃ f : Int, gotE T E[i].1.1 E[i].1.2 = (was, f) ∧ gotE X E[i].1.1 E[i].1.2 = (is_, f) ∧ is_.2.2.1 = was.2.2.1 ∧ (i ≠ k → is_.2.2.2 = was.2.2.2) ∧ (i = k → is_.2.2.2 = b) ∧ (E[i].2.1 = true → was.2.2.2 = E[i].2.2) := by
  obtain ⟨s, t, h1, h2, h3, _⟩ := got_en h hk
  obtain ⟨a1, a2, a3, a4⟩ := h3 hg
  obtain ⟨hs, ht⟩ := List.getElem?_eq_some_iff.1 h2
  have hout : moveOut T E[k].1.1 E[k].1.2 b = (T.set s (t.1, true, t.2.2.1, b), 0) := by
    unfold moveOut
    rw [a4, if_pos rfl, if_pos hb, h1, Int.toNat_natCast]
  obtain ⟨T', ho', _, hi'⟩ := move_inv h (by omega) hk hg hb
  rw [hout] at ho'
  injection ho' with ho' _
  subst ho'
  refine ⟨_, hout, fun i hi => ?_⟩
  have hi2 : i < (E.set k (E[k].1, true, b)).length := by simpa using hi
  obtain ⟨s1, t1, g1, g2, g3, g4⟩ := got_en h hi
  obtain ⟨s2, t2, f1, f2, f3, f4⟩ := got_en hi' hi2
  by_cases hik : i = k
  · subst hik
    have e1 : (E.set i (E[i].1, true, b))[i] = (E[i].1, true, b) := by simp
    rw [e1] at f1 f3
    obtain ⟨b1, b2, b3, b4⟩ := g3 hg
    obtain ⟨c1, c2, c3, c4⟩ := f3 rfl
    have hss : s2 = s := by have e : (s2 : Int) = s := f1.symm.trans h1; omega
    subst hss
    rw [List.getElem?_set_self hs] at f2
    injection f2 with f2
    have hs1 : s1 = s2 := by have e : (s1 : Int) = s2 := g1.symm.trans h1; omega
    subst hs1
    rw [h2] at g2
    injection g2 with g2
    subst g2
    subst f2
    exact ⟨t, _, 0, b4, c4, rfl, fun hh => absurd rfl hh, fun _ => rfl, fun _ => b3⟩
  · have e1 : (E.set k (E[k].1, true, b))[i] = E[i] := List.getElem_set_ne (Ne.symm hik) _
    rw [e1] at f1 f3 f4
    cases hgd : E[i].2.1
    · exact ⟨_, _, _, (g4 hgd).2, (f4 hgd).2, rfl, fun _ => rfl, fun hh => absurd hh hik, fun hh => (by cases hh)⟩
    · obtain ⟨b1, b2, b3, b4⟩ := g3 hgd
      obtain ⟨c1, c2, c3, c4⟩ := f3 hgd
      have hss : s2 = s1 := by have e : (s2 : Int) = s1 := f1.symm.trans g1; omega
      subst hss
      refine ⟨t1, t2, 0, b4, c4, ?_, fun _ => by rw [c3, b3], fun hh => absurd hh hik, fun _ => b3⟩
      by_cases hs2 : s = s2
      · subst hs2
        rw [List.getElem?_set_self hs] at f2
        injection f2 with f2
        rw [h2] at g2
        injection g2 with g2
        subst g2
        subst f2
        rfl
      · rw [List.getElem?_set_ne hs2] at f2
        rw [g2] at f2
        injection f2 with f2
        rw [f2]

theorem tabOk_nil : ¬ TabOk [] := fun h => by have := h.1.1; simp at this

set_option maxHeartbeats 32000000 in
set_option maxRecDepth 100000 in
theorem tableStays_row (w : World) (n : Int) (wn : (Lit.int .i64 n).wf = true) (v : Value) (l : List St) (hv : StAt w v l) (hwf : ∀ t ∈ l, (Lit.int .i64 t.1).wf = true ∧ (Lit.int .i64 t.2.1).wf = true ∧ (Lit.int .i64 t.2.2).wf = true) (wh : Int) (ww : (Lit.int .i64 wh).wf = true) (bk : Int) (wb : (Lit.int .i64 bk).wf = true) :
    Calls Try.prog 8 #[.int .i64 n, v, .int .i64 wh, .int .i64 bk] w fun r w' => r = .returned (.bool true) ∧ Below w.heap.size w w' := by
  obtain ⟨pv, cv, rfl, _⟩ := hv.parts
  obtain ⟨b, hb12, pbk⟩ := picked_some bk 12 wb (by omega) (by omega)
  have hbp : isBeP (b : Int) := ⟨by omega, by omega⟩
  have HV : Hid (_ ∧ _ ∧ _ ∧ _ ∧ _ ∧ _) := ⟨hv, hwf, wn, pbk, ww, hbp⟩
  clear hv hwf wn pbk ww wb hbp
  go_enter Try.func8, Try.ntmps8
  go_wp2_with fail
  refine (seated_any n HV.out.2.2.1 _ l w HV.out.1 HV.out.2.1).mono ?_
  rintro r w1 hr
  obtain ⟨T, E, pT, pH, pG, pA, cT, cH, cG, cA, rfl, hL, hb⟩ := hr.open
  clear hr
  obtain ⟨W2, hW2⟩ : ∃ W2, W2 = w1.alloc (.cells #[.slice pT T.length cT] 24) := ⟨_, rfl⟩
  have hb2 : Below w1.heap.size w1 W2 := by rw [hW2]; exact below_newC w1
  have hT2 : W2.heap[w1.heap.size]? = some (.cells #[.slice pT T.length cT] 24 (0, 0)) := by rw [hW2]; exact heap_alloc_new _ _
  have t2 := one_cell hT2
  have lt2 : w1.heap.size < W2.heap.size := (Array.getElem?_eq_some_iff.1 hT2).1
  have H2 : Hid (_ ∧ _ ∧ _ ∧ _) := ⟨hW2, hL.below hb2, hT2, hb.trans (hb2.mono hb.size)⟩
  clear hW2 hT2 hb hb2 hL
  obtain ⟨⟨hT6, hE30⟩, _, _, m1, m2, m3, m4, m5, m6, _⟩ := H2.out.2.1.2
  rcases Nat.eq_zero_or_pos E.length with hE0 | hE0
  · have hEz : ((E.length : Int) == 0) = true := by rw [beq_iff_eq]; omega
    clear hE0
    have hC1 := check_any _ T W2 H2.out.2.1.2.2.1
    rw [if_pos H2.out.2.1.1.ok] at hC1
    have HC : Hid (_ ∧ True) := ⟨hC1, trivial⟩
    clear hC1
    go_wp2_with fail
    rw [← H2.out.1]
    refine HC.out.1.mono ?_
    rintro r w3 ⟨rfl, hb3⟩
    have HB3 : Hid _ := H2.out.2.2.2.trans (hb3.mono H2.out.2.2.2.size)
    clear hb3 t2
    go_wp2_with fail
    refine (check_any (.slice none 0 0) [] _ (rowAt_nil _)).mono ?_
    rw [if_neg tabOk_nil]
    rintro r w4 ⟨rfl, hb4⟩
    have HB4 : Hid _ := HB3.out.trans (hb4.mono HB3.out.size)
    clear hb4
    go_wp2
    go_ret
    exact ⟨rfl, HB4.out⟩
  · have hEz : ((E.length : Int) == 0) = false := by rw [beq_eq_false_iff_ne]; omega
    obtain ⟨k, hk', pk⟩ := picked_some wh E.length HV.out.2.2.2.2.1 hE0 (by omega)
    have HK : Hid (_ ∧ True) := ⟨pk, trivial⟩
    clear pk hE0
    have hkI : (k : Int) < (E.length : Int) := by omega
    obtain ⟨bH, oH, bG, oG, bA, oA, rfl, rfl, rfl, l1, l2, l3, g1, g2, g3, g4⟩ := H2.out.2.1.2.2.2.1 k hk'
    obtain ⟨X, er, hout⟩ : ∃ X er, moveOut T E[k].1.1 E[k].1.2 (b : Int) = (X, er) := ⟨_, _, rfl⟩
    have hbad : E[k].2.1 = false → X = [] ∧ er = 10 := fun hgd => by
      rw [move_bad H2.out.2.1.1 hk' hgd] at hout
      injection hout with o1 o2
      exact ⟨o1.symm, o2.symm⟩
    have hgood : E[k].2.1 = true → er = 0 ∧ ∀ i (hi : i < E.length), ∃ was is_ : Sl, ∃ f : Int, gotE T E[i].1.1 E[i].1.2 = (was, f) ∧ gotE X E[i].1.1 E[i].1.2 = (is_, f) ∧ is_.2.2.1 = was.2.2.1 ∧ (i ≠ k → is_.2.2.2 = was.2.2.2) ∧ (i = k → is_.2.2.2 = (b : Int)) ∧ (E[i].2.1 = true → was.2.2.2 = E[i].2.2) := fun hgd => by
      obtain ⟨X2, ho2, hr2⟩ := stay H2.out.2.1.1 hk' hgd HV.out.2.2.2.2.2
      rw [hout] at ho2
      injection ho2 with o1 o2
      subst o1 o2
      exact ⟨rfl, hr2⟩
    obtain ⟨hs, hhs⟩ : ∃ hs, hs = E[k].1.1 := ⟨_, rfl⟩
    obtain ⟨hg, hhg⟩ : ∃ hg, hg = E[k].1.2 := ⟨_, rfl⟩
    rw [← hhs, ← hhg] at hout
    rw [← hhs] at g1
    rw [← hhg] at g2
    have hD : ∀ W, Below W2.heap.size W2 W → Calls Try.prog 21 #[.agg #[.slice pT T.length cT], .agg #[.int .i64 hs, .int .i64 hg], .int .i64 (b : Int)] W fun r w' => ∃ q d, r = .returned (.tuple #[.agg #[.slice q X.length d], .int .i64 er]) ∧ Hid (w'.ownsRow W.heap.size 44 4 (.slice q X.length d) X.length (scells X) ∧ Below W.heap.size W w' ∧ Below W2.heap.size W2 w') ∧ (∀ n, n < W.heap.size → n < w'.heap.size) ∧ (∀ b o, b < W.heap.size → w'.cell? ⟨b, o, none⟩ = W.cell? ⟨b, o, none⟩) ∧ (∀ b o, b < W.heap.size → w'.frozen? ⟨b, o, none⟩ = W.frozen? ⟨b, o, none⟩) := fun W hW => by
      have := move_any (.slice pT T.length cT) T hs hg (b : Int) W (H2.out.2.1.2.2.1.below hW)
      rw [hout] at this
      refine this.mono ?_
      rintro r w' ⟨q, d, rfl, z1, z2⟩
      exact ⟨q, d, rfl, ⟨z1, z2, hW.trans (z2.mono hW.size)⟩, (fun n hn => Nat.lt_of_lt_of_le hn z2.size), (bcell z2).1, (bcell z2).2⟩
    have HD : Hid (_ ∧ _ ∧ _) := ⟨hD, hbad, hgood⟩
    clear hD hbad hgood hout hhs hhg
    go_wp2_with fail
    rw [← H2.out.1]
    refine (HK.out.1 _).mono ?_
    rintro r w' ⟨rfl, hw'⟩
    rw [hw']
    clear hw' w'
    go_wp2_with fail
    refine (HV.out.2.2.2.1 _).mono ?_
    rintro r w' ⟨rfl, hw'⟩
    rw [hw']
    clear hw' w'
    go_upto_region 6 with fail
    go_cut [16, 17] from 56 to 65 (fun x e wx => ∃ g q d, x = .pointer (some ⟨g, 0, none⟩) ∧ e = .int .i64 er ∧ End1 W2 (.slice q X.length d) X g wx)
    case first =>
      go_region_held3 (fun W => W.cell? ⟨w1.heap.size, 0, none⟩ = some (.slice pT T.length cT) ∧ W.cell? ⟨bH, oH + k * 2, none⟩ = some (.int .i64 hs) ∧ W.cell? ⟨bH, oH + k * 2 + 1, none⟩ = some (.int .i64 hg) ∧ Below W2.heap.size W2 W) (first | exact held3t t2 g1 g2 ((Below.refl _ _).drew) | exact held3t t2 g1 g2 (((Below.refl _ _).drew).alloc (by simp) _) | exact held3t t2 g1 g2 hq5.out.2.2 | exact held3t t2 g1 g2 (hq5.out.2.2.alloc hq5.out.2.2.size _) | exact held3t t2 g1 g2 (((Below.refl _ _).alloc (Nat.le_refl _) _).drew) | exact held3t t2 g1 g2 (hq5.out.2.2.setCell (Nat.le_refl _) _)) (first | (go_at_call 21; refine (HD.out.1 _ ?hbW).mono ?_; (case hbW => first | assumption | exact (Below.refl _ _).drew | exact ((Below.refl _ _).drew).alloc (by simp) _ | exact ((Below.refl _ _).alloc (Nat.le_refl _) _).drew); rintro r w5 ⟨q, d, rfl, hq5, hz5, hc5, hf5⟩))
      all_goals
        clear hz5 hc5 hf5
        go_wp2_with fail
        go_meet
        refine ⟨_, q, d, rfl, rfl, ?_⟩
        first
        | with_reducible exact endA hq5.out.1 (Nat.le_refl _) hq5.out.2.2
        | with_reducible exact endB (by first | exact heap_alloc_new _ _ | exact heap_newd _ _) hq5.out.1 hq5.out.2.1 hq5.out.2.2
    case rest =>
    obtain ⟨gx, q, d, rfl, rfl, hbx, hob, hbc⟩ := hcut
    obtain ⟨W6, hW6⟩ : ∃ W6, W6 = wc := ⟨_, rfl⟩
    subst hW6
    have i3 := (hbc.cell (p := ⟨bG, oG + k, none⟩) l2).trans g3
    have ex := one_cell hbx
    have lG' := Nat.lt_of_lt_of_le l2 hbc.size
    have hX6 : SlAt W6 (.slice q X.length d) X := rowAt_own hob
    have hL6 := H2.out.2.1.below hbc
    have hT6' := box_below H2.out.2.2.1 hbc
    have hb06 := H2.out.2.2.2.trans (hbc.mono H2.out.2.2.2.size)
    cases hgd : E[k].2.1
    · obtain ⟨rfl, rfl⟩ := HD.out.2.1 hgd
      rw [hgd] at i3
      have HB : Hid _ := hb06
      clear hb06 hL6 hX6 hT6' hbc hob hbx g1 g2 g3 g4 t2 hgd
      go_wp2
      go_ret
      exact ⟨by simp, HB.out⟩
    · obtain ⟨rfl, hall⟩ := HD.out.2.2 hgd
      have hgk := hgd
      rw [hgd] at i3
      have H6 : Hid (_ ∧ _ ∧ _ ∧ _ ∧ _ ∧ _ ∧ _) := ⟨hL6, hX6, hT6', hbx, hb06, hall, hgk⟩
      clear hL6 hX6 hT6' hbx hb06 hall hgk hgd hbc hob g1 g2 g3 g4 t2
      go_wp2
      clear i3 ex
      go_loopw [18] (fun i wr => ∃ (j : Nat), i = .int .i64 j ∧ j ≤ E.length ∧ ∃ W7, Below W6.heap.size W6 W7 ∧ W7 = wr) (fun i _ => E.length - (intOf i).toNat)
      case atStart => exact ⟨0, rfl, Nat.zero_le _, W6, Below.refl _ _, rfl⟩
      case round =>
        obtain ⟨j, rfl, hj, W7, hb7, rfl⟩ := hrel
        by_cases hj' : j < E.length
        · have hjI : (j : Int) < (E.length : Int) := by omega
          have hR7 := H6.out.1.2.2.2.1.below hb7
          obtain ⟨bH', oH', bG', oG', bA', oA', x1, x2, x3, n1, n2, n3, k1, k2, k4, k5⟩ := hR7 j hj'
          injection x1 with x1
          injection x1 with x1 x1'
          injection x2 with x2
          injection x2 with x2 x2'
          injection x3 with x3
          injection x3 with x3 x3'
          subst x1 x1' x2 x2' x3 x3'
          have hT7 := box_below H6.out.2.2.1 hb7
          have hX7 := box_below H6.out.2.2.2.1 hb7
          have k3 := one_cell hT7
          have ltT : w1.heap.size < W7.heap.size := (Array.getElem?_eq_some_iff.1 hT7).1
          have ltX : gx < W7.heap.size := (Array.getElem?_eq_some_iff.1 hX7).1
          obtain ⟨⟨y1, y2, y3, y4⟩, ⟨z1, z2, z3, z4⟩, er, hgT, hgX, hkey, hoth, hown, hgood⟩ := H6.out.2.2.2.2.2.1 j hj'
          replace hkey : z3 = y3 := hkey
          replace hoth : j ≠ k → z4 = y4 := hoth
          replace hown : j = k → z4 = (b : Int) := hown
          replace hgood : E[j].2.1 = true → y4 = E[j].2.2 := hgood
          have hgj : j = k → E[j].2.1 = true := fun e => by subst e; exact H6.out.2.2.2.2.2.2
          obtain ⟨e1, he1⟩ : ∃ e1, e1 = E[j].1.1 := ⟨_, rfl⟩
          obtain ⟨e2, he2⟩ : ∃ e2, e2 = E[j].1.2 := ⟨_, rfl⟩
          obtain ⟨gd, hgd⟩ : ∃ gd, gd = E[j].2.1 := ⟨_, rfl⟩
          obtain ⟨av, hav⟩ : ∃ av, av = E[j].2.2 := ⟨_, rfl⟩
          rw [← he1] at k1 hgT hgX
          rw [← he2] at k2 hgT hgX
          rw [← hgd] at k4 hgood hgj
          rw [← hav] at k5 hgood
          have hG7 : ∀ W, Below W7.heap.size W7 W → Calls Try.prog 17 #[.agg #[.slice pT T.length cT], .agg #[.int .i64 e1, .int .i64 e2]] W fun r w' => r = .returned (.tuple #[.agg #[.int .i64 y1, .bool y2, .int .i64 y3, .int .i64 y4], .int .i64 er]) ∧ Hid (Below W.heap.size W w' ∧ Below W7.heap.size W7 w') ∧ (∀ n, n < W.heap.size → n < w'.heap.size) ∧ (∀ b o, b < W.heap.size → w'.cell? ⟨b, o, none⟩ = W.cell? ⟨b, o, none⟩) ∧ (∀ b o, b < W.heap.size → w'.frozen? ⟨b, o, none⟩ = W.frozen? ⟨b, o, none⟩) := fun W hW => by
            have := get_any (.slice pT T.length cT) T e1 e2 W ((H6.out.1.2.2.1.below hb7).below hW)
            rw [hgT] at this
            refine this.mono ?_
            rintro r w' ⟨rfl, z2⟩
            exact ⟨rfl, ⟨z2, hW.trans (z2.mono hW.size)⟩, (fun n hn => Nat.lt_of_lt_of_le hn z2.size), (bcell z2).1, (bcell z2).2⟩
          have hXat := H6.out.2.1.below hb7
          have H7 : Hid (_ ∧ _ ∧ _ ∧ _ ∧ _) := ⟨hG7, hb7, hX7, hXat, hgX⟩
          have HF : Hid (_ ∧ _ ∧ _ ∧ _ ∧ _) := ⟨hkey, hoth, hown, hgood, hgj⟩
          clear hG7 hb7 hX7 hXat hgX hgT hkey hoth hown hgood hgj hR7 hT7 he1 he2 hgd hav
          go_upto_region 12 with fail
          go_cut [19, 20] from 85 to 93 (fun x e wx => ∃ g, x = .pointer (some ⟨g, 0, none⟩) ∧ e = .int .i64 er ∧ EndS W7 (.int .i64 y1) (.bool y2) (.int .i64 y3) (.int .i64 y4) g wx)
          case first =>
            go_region_held3 (fun W => W.cell? ⟨w1.heap.size, 0, none⟩ = some (.slice pT T.length cT) ∧ W.cell? ⟨bH, oH + j * 2, none⟩ = some (.int .i64 e1) ∧ W.cell? ⟨bH, oH + j * 2 + 1, none⟩ = some (.int .i64 e2) ∧ Below W7.heap.size W7 W) (first | exact held3t k3 k1 k2 ((Below.refl _ _).drew) | exact held3t k3 k1 k2 (((Below.refl _ _).drew).alloc (by simp) _) | exact held3t k3 k1 k2 hq5.out.2 | exact held3t k3 k1 k2 (hq5.out.2.alloc hq5.out.2.size _) | exact held3t k3 k1 k2 (((Below.refl _ _).alloc (Nat.le_refl _) _).drew) | exact held3t k3 k1 k2 (four_below hq5.out.2 (Nat.le_refl _))) (first | (go_at_call 17; refine (H7.out.1 _ ?hbW).mono ?_; (case hbW => first | assumption | exact (Below.refl _ _).drew | exact ((Below.refl _ _).drew).alloc (by simp) _ | exact ((Below.refl _ _).alloc (Nat.le_refl _) _).drew); rintro r w5 ⟨rfl, hq5, hz5, hc5, hf5⟩))
            all_goals
              clear hz5 hc5 hf5
              go_wp2_with fail
              go_meet
              refine ⟨_, rfl, rfl, ?_⟩
              first
              | with_reducible exact endSA hq5.out.2
              | with_reducible exact endSB (by first | exact heap_alloc_new _ _ | exact heap_newd _ _) hq5.out.1 hq5.out.2
          case rest =>
          obtain ⟨ga, rfl, rfl, hba, hbc⟩ := hcut
          obtain ⟨W8, hW8⟩ : ∃ W8, W8 = wc := ⟨_, rfl⟩
          subst hW8
          replace k1 := (hbc.cell (p := ⟨bH, oH + j * 2, none⟩) n1).trans k1
          replace k2 := (hbc.cell (p := ⟨bH, oH + j * 2 + 1, none⟩) n1).trans k2
          replace k4 := (hbc.cell (p := ⟨bG, oG + j, none⟩) n2).trans k4
          replace k5 := (hbc.cell (p := ⟨bA, oA + j, none⟩) n3).trans k5
          replace k3 := one_cell (box_below H7.out.2.2.1 hbc)
          replace n1 := Nat.lt_of_lt_of_le n1 hbc.size
          replace n2 := Nat.lt_of_lt_of_le n2 hbc.size
          replace n3 := Nat.lt_of_lt_of_le n3 hbc.size
          replace ltX := Nat.lt_of_lt_of_le ltX hbc.size
          have lta : ga < W8.heap.size := (Array.getElem?_eq_some_iff.1 hba).1
          have hG8 : ∀ W, Below W8.heap.size W8 W → Calls Try.prog 17 #[.agg #[.slice q X.length d], .agg #[.int .i64 e1, .int .i64 e2]] W fun r w' => r = .returned (.tuple #[.agg #[.int .i64 z1, .bool z2, .int .i64 z3, .int .i64 z4], .int .i64 er]) ∧ Hid (Below W.heap.size W w' ∧ Below W8.heap.size W8 w') ∧ (∀ n, n < W.heap.size → n < w'.heap.size) ∧ (∀ b o, b < W.heap.size → w'.cell? ⟨b, o, none⟩ = W.cell? ⟨b, o, none⟩) ∧ (∀ b o, b < W.heap.size → w'.frozen? ⟨b, o, none⟩ = W.frozen? ⟨b, o, none⟩) := fun W hW => by
            have := get_any (.slice q X.length d) X e1 e2 W ((H7.out.2.2.2.1.below hbc).below hW)
            rw [H7.out.2.2.2.2] at this
            refine this.mono ?_
            rintro r w' ⟨rfl, z2⟩
            exact ⟨rfl, ⟨z2, hW.trans (z2.mono hW.size)⟩, (fun n hn => Nat.lt_of_lt_of_le hn z2.size), (bcell z2).1, (bcell z2).2⟩
          have H8 : Hid (_ ∧ _ ∧ _) := ⟨hG8, H7.out.2.1.trans (hbc.mono H7.out.2.1.size), hba⟩
          clear hG8 hbc hba
          go_upto_region 13 with fail
          go_cut [21, 22] from 94 to 102 (fun x e wx => ∃ g, x = .pointer (some ⟨g, 0, none⟩) ∧ e = .int .i64 er ∧ EndS W8 (.int .i64 z1) (.bool z2) (.int .i64 z3) (.int .i64 z4) g wx)
          case first =>
            go_region_held3 (fun W => W.cell? ⟨gx, 0, none⟩ = some (.slice q X.length d) ∧ W.cell? ⟨bH, oH + j * 2, none⟩ = some (.int .i64 e1) ∧ W.cell? ⟨bH, oH + j * 2 + 1, none⟩ = some (.int .i64 e2) ∧ Below W8.heap.size W8 W) (first | exact held3t k3 k1 k2 ((Below.refl _ _).drew) | exact held3t k3 k1 k2 (((Below.refl _ _).drew).alloc (by simp) _) | exact held3t k3 k1 k2 hq5.out.2 | exact held3t k3 k1 k2 (hq5.out.2.alloc hq5.out.2.size _) | exact held3t k3 k1 k2 (((Below.refl _ _).alloc (Nat.le_refl _) _).drew) | exact held3t k3 k1 k2 (four_below hq5.out.2 (Nat.le_refl _))) (first | (go_at_call 17; refine (H8.out.1 _ ?hbW).mono ?_; (case hbW => first | assumption | exact (Below.refl _ _).drew | exact ((Below.refl _ _).drew).alloc (by simp) _ | exact ((Below.refl _ _).alloc (Nat.le_refl _) _).drew); rintro r w5 ⟨rfl, hq5, hz5, hc5, hf5⟩))
            all_goals
              clear hz5 hc5 hf5
              go_wp2_with fail
              go_meet
              refine ⟨_, rfl, rfl, ?_⟩
              first
              | with_reducible exact endSA hq5.out.2
              | with_reducible exact endSB (by first | exact heap_alloc_new _ _ | exact heap_newd _ _) hq5.out.1 hq5.out.2
          case rest =>
          obtain ⟨gb, rfl, rfl, hbb, hbc⟩ := hcut
          have p4 := (hbc.cell (p := ⟨bG, oG + j, none⟩) n2).trans k4
          have p5 := (hbc.cell (p := ⟨bA, oA + j, none⟩) n3).trans k5
          have hba9 := box_below H8.out.2.2 hbc
          obtain ⟨⟨a0, a1, a2, a3⟩, _⟩ := box4 hba9
          obtain ⟨⟨c0, c1, c2, c3⟩, _⟩ := box4 hbb
          have H9 : Hid (_ ∧ True) := ⟨H8.out.2.1.trans (hbc.mono H8.out.2.1.size), trivial⟩
          have hkey := HF.out.1
          subst hkey
          clear hbc hbb hba9 k1 k2 k3 k4 k5 n1 n2 n3 ltX lta ltT
          by_cases hjk : j = k
          · have hz4 := HF.out.2.2.1 hjk
            have hgd := HF.out.2.2.2.2 hjk
            have hy4 := HF.out.2.2.2.1 hgd
            subst hz4 hgd hy4
            subst hjk
            go_wp2
            refine wp_region_quiet_lit (by kernel_rfl) (by kernel_rfl) ?_
            repeat (first | go_big_quiet_skip | quiet_step (fail))
            refine wpQuiet_nil ?_
            intro _ hw'
            obtain ⟨nq, hw''⟩ := hw'
            subst hw''
            go_wp2
            go_roundw
            case rel => exact ⟨j + 1, by simp, hj', _, below_drewN H9.out.1 nq, rfl⟩
            case measure => simp [intOf]; omega
          · have hz4 := HF.out.2.1 hjk
            subst hz4
            have d1 : ((j : Int) != (k : Int)) = true := by rw [bne_iff_ne]; omega
            have d2 : ((j : Int) == (k : Int)) = false := by rw [beq_eq_false_iff_ne]; omega
            cases gd
            · go_wp2
              refine wp_region_quiet_lit (by kernel_rfl) (by kernel_rfl) ?_
              repeat (first | go_big_quiet_skip | quiet_step (fail))
              refine wpQuiet_nil ?_
              intro _ hw'
              obtain ⟨nq, hw''⟩ := hw'
              subst hw''
              go_wp2
              go_roundw
              case rel => exact ⟨j + 1, by simp, hj', _, below_drewN H9.out.1 nq, rfl⟩
              case measure => simp [intOf]; omega
            · have hy4 := HF.out.2.2.2.1 rfl
              subst hy4
              go_wp2
              refine wp_region_quiet_lit (by kernel_rfl) (by kernel_rfl) ?_
              repeat (first | go_big_quiet_skip | quiet_step (fail))
              refine wpQuiet_nil ?_
              intro _ hw'
              obtain ⟨nq, hw''⟩ := hw'
              subst hw''
              go_wp2
              go_roundw
              case rel => exact ⟨j + 1, by simp, hj', _, below_drewN H9.out.1 nq, rfl⟩
              case measure => simp [intOf]; omega
        · obtain rfl : j = E.length := by omega
          have HB : Hid _ := H6.out.2.2.2.2.1.trans (hb7.mono H6.out.2.2.2.2.1.size)
          clear hb7
          go_wp2
          go_ret
          exact ⟨rfl, HB.out⟩
end Go.Proofs.Ythiojfgimjoenaa.Walks
