/-
  usherref.BookFault. Condition: what is read can be read.
-/
import Derived.Test.YtlpedligkofegaaRefA
import Derived.WalkKit
import Derived.ProofKit
import Derived.Handy
import Derived.LoopTactic
import Derived.Below
import Derived.Laws.BitsAllLaws
import Derived.RegionTactic
import Derived.Deep.RegionHeld3
import Derived.Deep.DrawnRows
import Derived.Deep.AppendLies
import Derived.Laws.OwnMore
import Derived.Deep.Onto
import Derived.Deep.QuietTactic
import Derived.BigQuiet
namespace Go.Proofs.Ytlpedligkofegaa.Walks
open Go.RowKit
set_option linter.unusedVariables false
set_option linter.unusedSimpArgs false
attribute [local go_sem ↓] Go.wp_at_zero Go.wp_at_succ
open Go.Sort (grow grow_empty grow_grow alloc_eq_grow cell?_grow heap_grow_old)

theorem reqs_ok {R : List Rq} {k : Nat} (hk : k < R.length) (h1 : RsOk (R.take k)) (h2 : RqOk R[k]) (h3 : ∀ j, j < k → ∀ hj : j < R.length, R[j].1 ≠ R[k].1) : RsOk (R.take (k + 1)) := by
  rw [List.take_succ_eq_append_getElem hk]
  refine ⟨fun x hx => ?_, List.pairwise_append.2 ⟨h1.2, by simp, fun a ha b hb => ?_⟩⟩
  · rcases List.mem_append.1 hx with hx | hx
    · exact h1.1 x hx
    · simp at hx
      rw [hx]
      exact h2
  · simp at hb
    rw [hb]
    obtain ⟨j, hj, rfl⟩ := List.mem_take_iff_getElem.1 ha
    exact h3 j (by omega) (by omega)

theorem reqs_bad {R : List Rq} {k : Nat} (hk : k < R.length) (h : ¬ RqOk R[k] ∨ ∃ j, j < k ∧ ∃ hj : j < R.length, R[j].1 = R[k].1) : ¬ RsOk R := by
  rintro ⟨h1, h2⟩
  rcases h with h | ⟨j, hjk, hj, h⟩
  · exact h (h1 _ (List.getElem_mem hk))
  · exact List.pairwise_iff_getElem.1 h2 j k hj hk hjk h

set_option maxHeartbeats 8000000 in
set_option maxRecDepth 100000 in
theorem bookFault_any (va vb : Value) (L : List Lf) (R : List Rq) (w : World) (hv : BkAt w va vb L R) :
    Calls Try.prog 11 #[bkV va vb] w fun r w' => r = .returned (.int .i64 (chkE L R)) ∧ Below w.heap.size w w' := by
  obtain ⟨pa, ca, rfl, hca, hma, pl⟩ := LvAt.parts hv.1
  obtain ⟨pb, cb, rfl, hcb, hmb, pr⟩ := RsAt.parts hv.2
  unfold maxLen at hma hmb
  obtain ⟨ans, hans⟩ : ∃ ans, ans = chkE L R := ⟨_, rfl⟩
  rw [← hans]
  have hbox := heap_alloc_new w (bkO (.slice pa L.length ca) (.slice pb R.length cb))
  have H : Hid (_ ∧ _ ∧ _ ∧ _) := ⟨hans, hbox, pl, pr⟩
  clear hans hv hbox pl pr
  by_cases h12 : L.length ≤ 12
  case neg =>
    have g1 : (12 : Int) < (L.length : Int) := by omega
    have E : Hid (ans = 6) := by rw [H.out.1]; exact chk_no fun h => h12 h.1.1
    go_enter Try.func11, Try.ntmps11
    go_wp2
    go_ret
    exact ⟨by rw [E.out]; rfl, below_new _⟩
  have g1 : ¬ (12 : Int) < (L.length : Int) := by omega
  by_cases h100 : R.length ≤ 100
  case neg =>
    have g2 : (100 : Int) < (R.length : Int) := by omega
    have E : Hid (ans = 6) := by rw [H.out.1]; exact chk_no fun h => h100 h.2.1
    go_enter Try.func11, Try.ntmps11
    go_wp2
    go_ret
    exact ⟨by rw [E.out]; rfl, below_new _⟩
  have g2 : ¬ (100 : Int) < (R.length : Int) := by omega
  obtain ⟨W0, hW0⟩ : ∃ W0, W0 = w.alloc (bkO (.slice pa L.length ca) (.slice pb R.length cb)) := ⟨_, rfl⟩
  have hB0 : Below w.heap.size w W0 := by rw [hW0]; exact below_new _
  have hs0 : W0.heap.size = w.heap.size + 1 := by rw [hW0]; simp
  have hR0 : W0.heap[w.heap.size]? = some (bkO (.slice pa L.length ca) (.slice pb R.length cb)) := by rw [hW0]; exact heap_alloc_new _ _
  have H0 : Hid (_ ∧ _ ∧ _ ∧ _) := ⟨hW0, hB0, hs0, hR0⟩
  clear hB0 hs0 hR0
  go_enter Try.func11, Try.ntmps11
  go_wp2
  rw [← hW0]
  clear hW0
  go_loopw [3] (fun i wr => ∃ k : Nat, i = .int .i64 k ∧ k ≤ L.length ∧ LsOk (L.take k) ∧ Below W0.heap.size W0 wr) (fun i _ => L.length - (intOf i).toNat)
  case atStart => exact ⟨0, rfl, Nat.zero_le _, by rw [List.take_zero]; exact ⟨by simp, .nil⟩, Below.refl _ _⟩
  case round =>
    obtain ⟨k, rfl, hk, hall, hbr⟩ := hrel
    have hbw := H0.out.2.1.trans (hbr.mono H0.out.2.1.size)
    obtain ⟨c0, c1, _, _, hlt0⟩ := two_cells (box_below H0.out.2.2.2 hbr)
    by_cases hlt : k < L.length
    · obtain ⟨b1, o1, hpa, hb1, d1, d2, d3, d4, d5, d6⟩ := H.out.2.2.1 k hlt
      subst hpa
      have e1 := (hbw.cell (p := ⟨b1, o1 + k * 6, none⟩) hb1).trans d1
      have e2 := (hbw.cell (p := ⟨b1, o1 + k * 6 + 1, none⟩) hb1).trans d2
      have e3 := (hbw.cell (p := ⟨b1, o1 + k * 6 + 2, none⟩) hb1).trans d3
      have e4 := (hbw.cell (p := ⟨b1, o1 + k * 6 + 3, none⟩) hb1).trans d4
      have e5 := (hbw.cell (p := ⟨b1, o1 + k * 6 + 4, none⟩) hb1).trans d5
      have e6 := (hbw.cell (p := ⟨b1, o1 + k * 6 + 5, none⟩) hb1).trans d6
      have hkI : (k : Int) < (L.length : Int) := by omega
      have hkd : decide ((k : Int) < (L.length : Int)) = true := decide_eq_true hkI
      have hnx := fun (h2 : LfOk L[k]) (h3 : ∀ j, j + 1 = k → ∀ hj : j < L.length, L[j].1 < L[k].1) => take_ok hlt hall h2 h3
      have hbad := fun h => take_bad (L := L) hlt h
      have hpv : ∀ j, j + 1 = k → ∃ y : Int, wr.cell? ⟨b1, o1 + j * 6, none⟩ = some (.int .i64 y) ∧ ∃ hj : j < L.length, y = L[j].1 := fun j hj => by
        obtain ⟨b2, o2, he, hb2, z1, _⟩ := H.out.2.2.1 j (by omega)
        cases he
        exact ⟨_, (hbw.cell (p := ⟨b1, o1 + j * 6, none⟩) hb1).trans z1, by omega, rfl⟩
      obtain ⟨x, hxk⟩ : ∃ x, x = L[k] := ⟨_, rfl⟩
      rw [← hxk] at e1 e2 e3 e4 e5 e6 hnx hbad
      clear hxk
      obtain ⟨x1, x2, x3, x4, x5, x6⟩ := x
      have HX : Hid (_ ∧ _ ∧ _ ∧ _) := ⟨hnx, hbad, hbr, hbw⟩
      obtain ⟨bd, hbd⟩ : ∃ bd, bd = decide (LfOk (x1, x2, x3, x4, x5, x6)) := ⟨_, rfl⟩
      have HI : Hid (∀ W, Calls Try.prog 27 #[lfV x1 x2 x3 x4 x5 x6] W fun r w' => r = .returned (.bool bd) ∧ ∃ q os, w' = grow (W.drewN q) os) := fun W => by rw [hbd]; exact lifeMay_any _ _ _ _ _ _ W
      have k0 : ∀ n' os, (grow (wr.drewN n') os).cell? ⟨w.heap.size, 0, none⟩ = some (.slice (some ⟨b1, o1, none⟩) L.length ca) := cell_grown (World.block_lt_of_cell? _ _ c0) c0
      have l1 : ∀ n' os, (grow (wr.drewN n') os).cell? ⟨b1, o1 + k * 6, none⟩ = some (.int .i64 x1) := cell_grown (World.block_lt_of_cell? _ _ e1) e1
      have l2 : ∀ n' os, (grow (wr.drewN n') os).cell? ⟨b1, o1 + k * 6 + 1, none⟩ = some (.int .i64 x2) := cell_grown (World.block_lt_of_cell? _ _ e2) e2
      have l3 : ∀ n' os, (grow (wr.drewN n') os).cell? ⟨b1, o1 + k * 6 + 2, none⟩ = some (.int .i64 x3) := cell_grown (World.block_lt_of_cell? _ _ e3) e3
      have l4 : ∀ n' os, (grow (wr.drewN n') os).cell? ⟨b1, o1 + k * 6 + 3, none⟩ = some (.int .i64 x4) := cell_grown (World.block_lt_of_cell? _ _ e4) e4
      have l5 : ∀ n' os, (grow (wr.drewN n') os).cell? ⟨b1, o1 + k * 6 + 4, none⟩ = some (.int .i64 x5) := cell_grown (World.block_lt_of_cell? _ _ e5) e5
      have l6 : ∀ n' os, (grow (wr.drewN n') os).cell? ⟨b1, o1 + k * 6 + 5, none⟩ = some (.int .i64 x6) := cell_grown (World.block_lt_of_cell? _ _ e6) e6
      have HD : Hid _ := hbd
      clear hnx hbad hall hbr hbw d1 d2 d3 d4 d5 d6 hb1 hbd
      cases bd
      case false =>
        have E : Hid (ans = 6) := by rw [H.out.1]; exact chk_no fun h => HX.out.2.1 (.inl (of_decide_eq_false HD.out.symm)) h.1.2
        clear hpv
        go_wp2_with fail
        refine wp_region_quiet_grown mixed (by kernel_rfl) ?_
        repeat (first | go_big_quiet_skip | quiet_step (first | (go_at_call 27; exact Calls.grown_of (HI.out _))))
        refine wpQuiet_nil ?_
        intro _ hw'
        obtain ⟨⟨nq, osq⟩, hw''⟩ := hw'
        subst hw''
        have HB2 : Hid (_ ∧ _) := ⟨HX.out.2.2.1.trans ((below_grow wr nq osq).mono HX.out.2.2.1.size), HX.out.2.2.2.trans ((below_grow wr nq osq).mono HX.out.2.2.2.size)⟩
        generalize grow (wr.drewN nq) osq = w3 at HB2 ⊢
        go_wp2
        go_ret
        exact ⟨by rw [E.out]; rfl, HB2.out.2⟩
      by_cases h0 : k = 0
      · have HK : Hid _ := h0
        have hpos : decide (0 < k) = false := decide_eq_false (by omega)
        clear hpv h0
        go_wp2_with fail
        refine wp_region_quiet_grown mixed (by kernel_rfl) ?_
        repeat (first | go_big_quiet_skip | quiet_step (first | (go_at_call 27; exact Calls.grown_of (HI.out _))))
        refine wpQuiet_nil ?_
        intro _ hw'
        obtain ⟨⟨nq, osq⟩, hw''⟩ := hw'
        subst hw''
        have HB2 : Hid (_ ∧ _) := ⟨HX.out.2.2.1.trans ((below_grow wr nq osq).mono HX.out.2.2.1.size), HX.out.2.2.2.trans ((below_grow wr nq osq).mono HX.out.2.2.2.size)⟩
        generalize grow (wr.drewN nq) osq = w3 at HB2 ⊢
        go_wp2
        go_roundw
        case rel => exact ⟨k + 1, by simp, hlt, HX.out.1 (of_decide_eq_true HD.out.symm) (fun j hj => absurd hj (by have := HK.out; omega)), HB2.out.1⟩
        case measure => simp [intOf]; omega
      · obtain ⟨j, hj⟩ : ∃ j, j + 1 = k := ⟨k - 1, by omega⟩
        obtain ⟨y, f1, hjl, hy⟩ := hpv j hj
        have f3 : ∀ n' os, (grow (wr.drewN n') os).cell? ⟨b1, o1 + j * 6, none⟩ = some (.int .i64 y) := cell_grown (World.block_lt_of_cell? _ _ f1) f1
        have hjI : (j : Int) < (L.length : Int) := by omega
        have hw1 : IntKind.i64.wrap ((k : Int) - 1) = (j : Int) := by rw [IntKind.wrap_i64]; omega
        have hpos : decide (0 < k) = true := decide_eq_true (by omega)
        have HY : Hid (_ ∧ _) := ⟨hy, hj⟩
        clear hpv hy hj h0
        cases hc : decide (x1 ≤ y)
        · have E : Hid _ := of_decide_eq_false hc
          go_wp2_with fail
          refine wp_region_quiet_grown mixed (by kernel_rfl) ?_
          repeat (first | go_big_quiet_skip | quiet_step (first | (go_at_call 27; exact Calls.grown_of (HI.out _))))
          refine wpQuiet_nil ?_
          intro _ hw'
          obtain ⟨⟨nq, osq⟩, hw''⟩ := hw'
          subst hw''
          have HB2 : Hid (_ ∧ _) := ⟨HX.out.2.2.1.trans ((below_grow wr nq osq).mono HX.out.2.2.1.size), HX.out.2.2.2.trans ((below_grow wr nq osq).mono HX.out.2.2.2.size)⟩
          generalize grow (wr.drewN nq) osq = w3 at HB2 ⊢
          go_wp2
          go_roundw
          case rel => exact ⟨k + 1, by simp, hlt, HX.out.1 (of_decide_eq_true HD.out.symm) (fun i hi hil => by
            have e : i = j := by have := HY.out.2; omega
            subst e
            have q1 := HY.out.1
            have q2 := E.out
            show L[i].1 < x1
            rw [← q1]
            exact Int.lt_of_not_ge q2), HB2.out.1⟩
          case measure => simp [intOf]; omega
        · have E : Hid (ans = 6) := by
            rw [H.out.1]
            refine chk_no fun h => HX.out.2.1 (.inr ⟨j, HY.out.2, hjl, ?_⟩) h.1.2
            have q1 := HY.out.1
            have q2 := of_decide_eq_true hc
            show ¬ L[j].1 < x1
            rw [← q1]
            omega
          go_wp2_with fail
          refine wp_region_quiet_grown mixed (by kernel_rfl) ?_
          repeat (first | go_big_quiet_skip | quiet_step (first | (go_at_call 27; exact Calls.grown_of (HI.out _))))
          refine wpQuiet_nil ?_
          intro _ hw'
          obtain ⟨⟨nq, osq⟩, hw''⟩ := hw'
          subst hw''
          have HB2 : Hid (_ ∧ _) := ⟨HX.out.2.2.1.trans ((below_grow wr nq osq).mono HX.out.2.2.1.size), HX.out.2.2.2.trans ((below_grow wr nq osq).mono HX.out.2.2.2.size)⟩
          generalize grow (wr.drewN nq) osq = w3 at HB2 ⊢
          go_wp2
          go_ret
          exact ⟨by rw [E.out]; rfl, HB2.out.2⟩
    · have hkd : ¬ ((k : Int) < (L.length : Int)) := by omega
      have HL : Hid (LsOk L ∧ _) := ⟨by rw [List.take_of_length_le (by omega)] at hall; exact hall, hbr⟩
      clear hall hbr hbw
      go_wp2
      go_loopw [4] (fun i wr => ∃ k : Nat, i = .int .i64 k ∧ k ≤ R.length ∧ RsOk (R.take k) ∧ Below W0.heap.size W0 wr) (fun i _ => R.length - (intOf i).toNat)
      case atStart => exact ⟨0, rfl, Nat.zero_le _, by rw [List.take_zero]; exact ⟨by simp, .nil⟩, HL.out.2⟩
      case round =>
        clear c0 c1 hlt0
        obtain ⟨k, rfl, hk, hall, hbr⟩ := hrel
        have hbw := H0.out.2.1.trans (hbr.mono H0.out.2.1.size)
        obtain ⟨c0, c1, _, _, hlt0⟩ := two_cells (box_below H0.out.2.2.2 hbr)
        by_cases hlt : k < R.length
        · obtain ⟨b1, o1, hpb, hb1, d1, d2, d3, d4, d5⟩ := H.out.2.2.2 k hlt
          subst hpb
          have e1 := (hbw.cell (p := ⟨b1, o1 + k * 5, none⟩) hb1).trans d1
          have e2 := (hbw.cell (p := ⟨b1, o1 + k * 5 + 1, none⟩) hb1).trans d2
          have e3 := (hbw.cell (p := ⟨b1, o1 + k * 5 + 2, none⟩) hb1).trans d3
          have e4 := (hbw.cell (p := ⟨b1, o1 + k * 5 + 3, none⟩) hb1).trans d4
          have e5 := (hbw.cell (p := ⟨b1, o1 + k * 5 + 4, none⟩) hb1).trans d5
          have hkI : (k : Int) < (R.length : Int) := by omega
          have hkd2 : decide ((k : Int) < (R.length : Int)) = true := decide_eq_true hkI
          have hnx := fun (h2 : RqOk R[k]) (h3 : ∀ j, j < k → ∀ hj : j < R.length, R[j].1 ≠ R[k].1) => reqs_ok hlt hall h2 h3
          have hbad := fun h => reqs_bad (R := R) hlt h
          obtain ⟨x, hxk⟩ : ∃ x, x = R[k] := ⟨_, rfl⟩
          rw [← hxk] at e1 e2 e3 e4 e5 hnx hbad d1
          clear hxk
          obtain ⟨x1, x2, x3, x4, x5⟩ := x
          obtain ⟨bd, hbd⟩ : ∃ bd, bd = decide (RqOk (x1, x2, x3, x4, x5)) := ⟨_, rfl⟩
          have HM : Hid (∀ W, _) := fun W => requestMay_any x1 x2 x3 x4 x5 W
          rw [← hbd] at HM
          have hbn := below_new wr (o := rqO x1 x2 x3 x4 x5)
          have HX : Hid (_ ∧ _ ∧ _ ∧ _ ∧ _ ∧ _) := ⟨hnx, hbad, hbd, hbr.trans (hbn.mono hbr.size), hb1, d1⟩
          clear hnx hbad hall hbr hbw d1 d2 d3 d4 d5 hbd hbn
          cases bd
          case false =>
            have E : Hid (ans = 6) := by rw [H.out.1]; exact chk_no fun h => HX.out.2.1 (.inl (of_decide_eq_false HX.out.2.2.1.symm)) h.2.2
            go_wp2_with fail
            refine (HM.out _).mono ?_
            rintro r w2 ⟨rfl, rfl⟩
            go_wp2
            go_ret
            exact ⟨by rw [E.out]; rfl, H0.out.2.1.trans (HX.out.2.2.2.1.mono H0.out.2.1.size)⟩
          go_wp2_with fail
          refine (HM.out _).mono ?_
          rintro r w2 ⟨rfl, rfl⟩
          obtain ⟨w2, hw2⟩ : ∃ w2, w2 = wr.alloc (rqO x1 x2 x3 x4 x5) := ⟨_, rfl⟩
          rw [← hw2]
          rw [← hw2] at HX
          clear hw2 c0 c1 hlt0 e1 e2 e3 e4 e5 HM
          go_wp2
          go_loopw [5] (fun i wr => ∃ j : Nat, i = .int .i64 j ∧ j ≤ k ∧ (∀ t, t < j → ∀ ht : t < R.length, R[t].1 ≠ x1) ∧ Below W0.heap.size W0 wr) (fun i _ => k - (intOf i).toNat)
          case atStart => exact ⟨0, rfl, Nat.zero_le _, fun t ht => absurd ht (by omega), HX.out.2.2.2.1⟩
          case round =>
            obtain ⟨j, rfl, hj, hall, hbr⟩ := hrel
            have hbw := H0.out.2.1.trans (hbr.mono H0.out.2.1.size)
            obtain ⟨c0, c1, _, _, hlt0⟩ := two_cells (box_below H0.out.2.2.2 hbr)
            by_cases hjk : j < k
            · have hjI : (j : Int) < (k : Int) := by omega
              have hjd : decide ((j : Int) < (k : Int)) = true := decide_eq_true hjI
              have hjl : (j : Int) < (R.length : Int) := by omega
              obtain ⟨b2, o2, he, hb2, z1, _⟩ := H.out.2.2.2 j (by omega)
              cases he
              have u1 := (hbw.cell (p := ⟨b1, o1 + j * 5, none⟩) hb2).trans z1
              have u2 := (hbw.cell (p := ⟨b1, o1 + k * 5, none⟩) hb2).trans HX.out.2.2.2.2.2
              obtain ⟨y, hy⟩ : ∃ y, y = (R[j]'(by omega)).1 := ⟨_, rfl⟩
              rw [← hy] at u1
              have HY : Hid (_ ∧ _ ∧ _ ∧ _) := ⟨hy, hall, hbr, hbw⟩
              clear hy hall hbr hbw z1
              by_cases hyx : y = x1
              · have hq : (y == x1) = true := by simpa using hyx
                have E : Hid (ans = 6) := by
                  rw [H.out.1]
                  exact chk_no fun h => HX.out.2.1 (.inr ⟨j, hjk, by omega, by rw [← HY.out.1]; exact hyx⟩) h.2.2
                subst hyx
                go_wp2
                go_region
                go_wp2
                go_ret
                exact ⟨by rw [E.out]; rfl, HY.out.2.2.2.drew⟩
              · have hq : (y == x1) = false := by simpa using hyx
                have HZ : Hid _ := hyx
                clear hyx
                go_wp2
                go_region
                go_wp2
                go_roundw
                case rel => exact ⟨j + 1, by simp, hjk, fun t ht htl => by
                  rcases Nat.lt_or_ge t j with h | h
                  · exact HY.out.2.1 t h htl
                  · have e : t = j := by omega
                    subst e
                    rw [← HY.out.1]
                    exact HZ.out, HY.out.2.2.1.drew⟩
                case measure => simp [intOf]; omega
            · have hjd : ¬ ((j : Int) < (k : Int)) := by omega
              have HY : Hid (_ ∧ _) := ⟨hall, hbr⟩
              clear hall hbr hbw
              go_wp2
              go_roundw
              case rel => exact ⟨k + 1, by simp, hlt, HX.out.1 (of_decide_eq_true HX.out.2.2.1.symm) (fun t ht htl => HY.out.1 t (by omega) htl), HY.out.2⟩
              case measure => simp [intOf]; omega
        · have hkd2 : ¬ ((k : Int) < (R.length : Int)) := by omega
          have E : Hid (ans = 0) := by
            rw [H.out.1]
            rw [List.take_of_length_le (by omega)] at hall
            exact chk_yes ⟨⟨h12, HL.out.1⟩, h100, hall⟩
          have HB : Hid _ := hbw
          clear hall hbr hbw
          go_wp2
          go_ret
          exact ⟨by rw [E.out]; rfl, HB.out⟩
end Go.Proofs.Ytlpedligkofegaa.Walks
