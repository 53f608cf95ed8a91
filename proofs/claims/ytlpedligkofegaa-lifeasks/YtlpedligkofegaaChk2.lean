/-
  Check of a book. Condition: what is read can be read.
-/
import Derived.Test.YtlpedligkofegaaChk
import Derived.Maps.OwnSet
import Derived.Maps.Views
import Derived.WalkKit
import Derived.ProofKit
import Derived.Handy
import Derived.LoopTactic
import Derived.Below
import Derived.Laws.BitsAllLaws
import Derived.RegionTactic
import Derived.Deep.RegionHeld3
import Derived.Deep.DrawnRows
import Derived.Deep.AppendLies
import Derived.Laws.OwnMore
import Derived.Deep.Onto
import Derived.Deep.QuietTactic
import Derived.BigQuiet
namespace Go.Proofs.Ytlpedligkofegaa.Walks
open Go.RowKit
set_option linter.unusedVariables false
set_option linter.unusedSimpArgs false
attribute [local go_sem ↓] Go.wp_at_zero Go.wp_at_succ
open Go.Sort (grow grow_empty grow_grow alloc_eq_grow cell?_grow heap_grow_old)

/-- Lives that can be read. -/
abbrev LvAt (w : World) (v : Value) (L : List Lf) : Prop := RcAt lfC w v L

/-- Requests that can be read. -/
abbrev RsAt (w : World) (v : Value) (R : List Rq) : Prop := RcAt rqC w v R

theorem LvAt.parts {w : World} {v : Value} {l : List Lf} (h : LvAt w v l) :
    ∃ a cap, v = .slice a l.length cap ∧ l.length ≤ cap ∧ cap ≤ maxLen ∧ ∀ i (hi : i < l.length), ∃ b off, a = some ⟨b, off, none⟩ ∧ b < w.heap.size ∧ w.cell? ⟨b, off + i * 6, none⟩ = some (.int .i64 l[i].1) ∧ w.cell? ⟨b, off + i * 6 + 1, none⟩ = some (.int .i64 l[i].2.1) ∧ w.cell? ⟨b, off + i * 6 + 2, none⟩ = some (.int .i64 l[i].2.2.1) ∧ w.cell? ⟨b, off + i * 6 + 3, none⟩ = some (.int .i64 l[i].2.2.2.1) ∧ w.cell? ⟨b, off + i * 6 + 4, none⟩ = some (.int .i64 l[i].2.2.2.2.1) ∧ w.cell? ⟨b, off + i * 6 + 5, none⟩ = some (.int .i64 l[i].2.2.2.2.2) := by
  obtain ⟨a, cap, h1, h2, h3, h4⟩ := RcAt.parts lf6 h
  refine ⟨a, cap, h1, h2, h3, fun i hi => ?_⟩
  obtain ⟨b, off, e, hb, hc⟩ := h4 i hi
  exact ⟨b, off, e, hb, hc 0 (by omega), hc 1 (by omega), hc 2 (by omega), hc 3 (by omega), hc 4 (by omega), hc 5 (by omega)⟩

theorem RsAt.parts {w : World} {v : Value} {l : List Rq} (h : RsAt w v l) :
    ∃ a cap, v = .slice a l.length cap ∧ l.length ≤ cap ∧ cap ≤ maxLen ∧ ∀ i (hi : i < l.length), ∃ b off, a = some ⟨b, off, none⟩ ∧ b < w.heap.size ∧ w.cell? ⟨b, off + i * 5, none⟩ = some (.int .i64 l[i].1) ∧ w.cell? ⟨b, off + i * 5 + 1, none⟩ = some (.int .i64 l[i].2.1) ∧ w.cell? ⟨b, off + i * 5 + 2, none⟩ = some (.int .i64 l[i].2.2.1) ∧ w.cell? ⟨b, off + i * 5 + 3, none⟩ = some (.int .i64 l[i].2.2.2.1) ∧ w.cell? ⟨b, off + i * 5 + 4, none⟩ = some (.int .i64 l[i].2.2.2.2) := by
  obtain ⟨a, cap, h1, h2, h3, h4⟩ := RcAt.parts rq5 h
  refine ⟨a, cap, h1, h2, h3, fun i hi => ?_⟩
  obtain ⟨b, off, e, hb, hc⟩ := h4 i hi
  exact ⟨b, off, e, hb, hc 0 (by omega), hc 1 (by omega), hc 2 (by omega), hc 3 (by omega), hc 4 (by omega)⟩

theorem take_ok {L : List Lf} {k : Nat} (hk : k < L.length) (h1 : LsOk (L.take k)) (h2 : LfOk L[k]) (h3 : ∀ j, j + 1 = k → ∀ hj : j < L.length, L[j].1 < L[k].1) : LsOk (L.take (k + 1)) := by
  rw [List.take_succ_eq_append_getElem hk]
  refine ⟨fun x hx => ?_, rise_snoc h1.2 fun y hy => ?_⟩
  · rcases List.mem_append.1 hx with hx | hx
    · exact h1.1 x hx
    · simp at hx
      rw [hx]
      exact h2
  · cases k with
    | zero => simp at hy
    | succ j =>
      rw [List.take_succ_eq_append_getElem (by omega : j < L.length)] at hy
      rw [List.getLast?_append] at hy
      simp at hy
      rw [← hy]
      exact h3 j rfl (by omega)

theorem take_bad {L : List Lf} {k : Nat} (hk : k < L.length) (h : ¬ LfOk L[k] ∨ ∃ j, j + 1 = k ∧ ∃ hj : j < L.length, ¬ L[j].1 < L[k].1) : ¬ LsOk L := by
  rintro ⟨h1, h2⟩
  rcases h with h | ⟨j, rfl, hj, h⟩
  · exact h (h1 _ (List.getElem_mem hk))
  · exact h (List.pairwise_iff_getElem.1 h2 j (j + 1) hj hk (by omega))

set_option maxHeartbeats 4000000 in
set_option maxRecDepth 100000 in
theorem livesMayBe_any (v : Value) (L : List Lf) (w : World) (hv : LvAt w v L) :
    Calls Try.prog 39 #[v] w fun r w' => r = .returned (.bool (decide (LsOk L))) ∧ Below w.heap.size w w' := by
  obtain ⟨a, ca, rfl, hca, hma, pa⟩ := hv.parts
  unfold maxLen at hma
  obtain ⟨ans, hans⟩ : ∃ ans, ans = decide (LsOk L) := ⟨_, rfl⟩
  rw [← hans]
  have H : Hid _ := hans
  clear hv hans
  go_enter Try.func39, Try.ntmps39
  go_wp2
  go_loopw [7] (fun i wr => ∃ k : Nat, i = .int .i64 k ∧ k ≤ L.length ∧ LsOk (L.take k) ∧ Below w.heap.size w wr) (fun i _ => L.length - (intOf i).toNat)
  case atStart => exact ⟨0, rfl, Nat.zero_le _, by rw [List.take_zero]; exact ⟨by simp, .nil⟩, Below.refl _ _⟩
  case round =>
    obtain ⟨k, rfl, hk, hall, hbr⟩ := hrel
    by_cases hlt : k < L.length
    · obtain ⟨b1, o1, rfl, hb1, c1, c2, c3, c4, c5, c6⟩ := pa k hlt
      have e1 := (hbr.cell (p := ⟨b1, o1 + k * 6, none⟩) hb1).trans c1
      have e2 := (hbr.cell (p := ⟨b1, o1 + k * 6 + 1, none⟩) hb1).trans c2
      have e3 := (hbr.cell (p := ⟨b1, o1 + k * 6 + 2, none⟩) hb1).trans c3
      have e4 := (hbr.cell (p := ⟨b1, o1 + k * 6 + 3, none⟩) hb1).trans c4
      have e5 := (hbr.cell (p := ⟨b1, o1 + k * 6 + 4, none⟩) hb1).trans c5
      have e6 := (hbr.cell (p := ⟨b1, o1 + k * 6 + 5, none⟩) hb1).trans c6
      have hkI : (k : Int) < (L.length : Int) := by omega
      have hnx := fun (h2 : LfOk L[k]) (h3 : ∀ j, j + 1 = k → ∀ hj : j < L.length, L[j].1 < L[k].1) => take_ok hlt hall h2 h3
      have hbad := fun h => take_bad (L := L) hlt h
      have hpv : ∀ j, j + 1 = k → ∃ y : Int, wr.cell? ⟨b1, o1 + j * 6, none⟩ = some (.int .i64 y) ∧ ∃ hj : j < L.length, y = L[j].1 := fun j hj => by
        obtain ⟨b2, o2, he, hb2, d1, _⟩ := pa j (by omega)
        cases he
        exact ⟨_, (hbr.cell (p := ⟨b1, o1 + j * 6, none⟩) hb1).trans d1, by omega, rfl⟩
      obtain ⟨x, hxk⟩ : ∃ x, x = L[k] := ⟨_, rfl⟩
      rw [← hxk] at e1 e2 e3 e4 e5 e6 hnx hbad
      clear hxk
      obtain ⟨x1, x2, x3, x4, x5, x6⟩ := x
      have HX : Hid (_ ∧ _ ∧ _) := ⟨hnx, hbad, hbr⟩
      obtain ⟨W0, hW0⟩ : ∃ W0, W0 = wr.alloc (lfO x1 x2 x3 x4 x5 x6) := ⟨_, rfl⟩
      have hR : W0.heap[wr.heap.size]? = some (lfO x1 x2 x3 x4 x5 x6) := by rw [hW0]; exact heap_alloc_new _ _
      have hB0 : Below wr.heap.size wr W0 := by rw [hW0]; exact below_new _
      obtain ⟨d0, d1, d2, d3, d4, d5, hlt0⟩ := six_cells hR
      obtain ⟨bd, hbd⟩ : ∃ bd, bd = decide (LfOk (x1, x2, x3, x4, x5, x6)) := ⟨_, rfl⟩
      have HI : Hid (∀ W, Calls Try.prog 48 #[lfV x1 x2 x3 x4 x5 x6] W fun r w' => r = .returned (.bool bd) ∧ ∃ q os, w' = grow (W.drewN q) os) := fun W => by rw [hbd]; exact lifeMayBe_any _ _ _ _ _ _ W
      have k0 : ∀ n' os, (grow (W0.drewN n') os).cell? ⟨wr.heap.size, 0, none⟩ = some (.int .i64 x1) := cell_grown (World.block_lt_of_cell? _ _ d0) d0
      have k1 : ∀ n' os, (grow (W0.drewN n') os).cell? ⟨wr.heap.size, 1, none⟩ = some (.int .i64 x2) := cell_grown (World.block_lt_of_cell? _ _ d1) d1
      have k2 : ∀ n' os, (grow (W0.drewN n') os).cell? ⟨wr.heap.size, 2, none⟩ = some (.int .i64 x3) := cell_grown (World.block_lt_of_cell? _ _ d2) d2
      have k3 : ∀ n' os, (grow (W0.drewN n') os).cell? ⟨wr.heap.size, 3, none⟩ = some (.int .i64 x4) := cell_grown (World.block_lt_of_cell? _ _ d3) d3
      have k4 : ∀ n' os, (grow (W0.drewN n') os).cell? ⟨wr.heap.size, 4, none⟩ = some (.int .i64 x5) := cell_grown (World.block_lt_of_cell? _ _ d4) d4
      have k5 : ∀ n' os, (grow (W0.drewN n') os).cell? ⟨wr.heap.size, 5, none⟩ = some (.int .i64 x6) := cell_grown (World.block_lt_of_cell? _ _ d5) d5
      have H0 : Hid (_ ∧ _ ∧ _) := ⟨hW0, hB0, hbd⟩
      clear hnx hbad hall hbr c1 c2 c3 c4 c5 c6 hb1 pa hW0 hbd hR
      cases bd
      case false =>
        have E : Hid (ans = false) := by rw [H.out]; exact decide_eq_false (HX.out.2.1 (.inl (of_decide_eq_false H0.out.2.2.symm)))
        clear hpv hB0
        go_wp2_with fail
        rw [← H0.out.1]
        refine wp_region_quiet_grown mixed (by kernel_rfl) ?_
        repeat (first | go_big_quiet_skip | quiet_step (first | (go_at_call 48; exact Calls.grown_of (HI.out _))))
        refine wpQuiet_nil ?_
        intro _ hw'
        obtain ⟨⟨nq, osq⟩, hw''⟩ := hw'
        subst hw''
        have HB2 : Hid (Below w.heap.size w (grow (W0.drewN nq) osq)) := (HX.out.2.2.trans (H0.out.2.1.mono HX.out.2.2.size)).trans ((below_grow W0 nq osq).mono (Nat.le_trans HX.out.2.2.size H0.out.2.1.size))
        generalize grow (W0.drewN nq) osq = w3 at HB2 ⊢
        go_wp2
        go_ret
        exact ⟨by rw [E.out]; rfl, HB2.out⟩
      by_cases h0 : k = 0
      · have HK : Hid _ := h0
        have hpos : decide (0 < k) = false := decide_eq_false (by omega)
        clear hpv hB0 h0
        go_wp2_with fail
        rw [← H0.out.1]
        refine wp_region_quiet_grown mixed (by kernel_rfl) ?_
        repeat (first | go_big_quiet_skip | quiet_step (first | (go_at_call 48; exact Calls.grown_of (HI.out _))))
        refine wpQuiet_nil ?_
        intro _ hw'
        obtain ⟨⟨nq, osq⟩, hw''⟩ := hw'
        subst hw''
        have HB2 : Hid (Below w.heap.size w (grow (W0.drewN nq) osq)) := (HX.out.2.2.trans (H0.out.2.1.mono HX.out.2.2.size)).trans ((below_grow W0 nq osq).mono (Nat.le_trans HX.out.2.2.size H0.out.2.1.size))
        generalize grow (W0.drewN nq) osq = w3 at HB2 ⊢
        go_wp2
        go_roundw
        case rel => exact ⟨k + 1, by simp, hlt, HX.out.1 (of_decide_eq_true H0.out.2.2.symm) (fun j hj => absurd hj (by have := HK.out; omega)), HB2.out⟩
        case measure => simp [intOf]; omega
      · obtain ⟨j, hj⟩ : ∃ j, j + 1 = k := ⟨k - 1, by omega⟩
        obtain ⟨y, f1, hjl, hy⟩ := hpv j hj
        have f2 : W0.cell? ⟨b1, o1 + j * 6, none⟩ = some (.int .i64 y) := (hB0.cell (p := ⟨b1, o1 + j * 6, none⟩) (World.block_lt_of_cell? _ _ f1)).trans f1
        have f3 : ∀ n' os, (grow (W0.drewN n') os).cell? ⟨b1, o1 + j * 6, none⟩ = some (.int .i64 y) := cell_grown (World.block_lt_of_cell? _ _ f2) f2
        have hjI : (j : Int) < (L.length : Int) := by omega
        have hw1 : IntKind.i64.wrap ((k : Int) - 1) = (j : Int) := by rw [IntKind.wrap_i64]; omega
        have hpos : decide (0 < k) = true := decide_eq_true (by omega)
        have HY : Hid (_ ∧ _) := ⟨hy, hj⟩
        clear hpv hB0 hy f1 f2 hj h0
        cases hc : decide (x1 ≤ y)
        · have E : Hid _ := of_decide_eq_false hc
          go_wp2_with fail
          rw [← H0.out.1]
          refine wp_region_quiet_grown mixed (by kernel_rfl) ?_
          repeat (first | go_big_quiet_skip | quiet_step (first | (go_at_call 48; exact Calls.grown_of (HI.out _))))
          refine wpQuiet_nil ?_
          intro _ hw'
          obtain ⟨⟨nq, osq⟩, hw''⟩ := hw'
          subst hw''
          have HB2 : Hid (Below w.heap.size w (grow (W0.drewN nq) osq)) := (HX.out.2.2.trans (H0.out.2.1.mono HX.out.2.2.size)).trans ((below_grow W0 nq osq).mono (Nat.le_trans HX.out.2.2.size H0.out.2.1.size))
          generalize grow (W0.drewN nq) osq = w3 at HB2 ⊢
          go_wp2
          go_roundw
          case rel => exact ⟨k + 1, by simp, hlt, HX.out.1 (of_decide_eq_true H0.out.2.2.symm) (fun i hi hil => by
            have e : i = j := by have := HY.out.2; omega
            subst e
            have q1 := HY.out.1
            have q2 := E.out
            show L[i].1 < x1
            rw [← q1]
            exact Int.lt_of_not_ge q2), HB2.out⟩
          case measure => simp [intOf]; omega
        · have E : Hid (ans = false) := by
            rw [H.out]
            refine decide_eq_false (HX.out.2.1 (.inr ⟨j, HY.out.2, hjl, ?_⟩))
            have := HY.out.1
            have := of_decide_eq_true hc
            show ¬ L[j].1 < x1
            omega
          go_wp2_with fail
          rw [← H0.out.1]
          refine wp_region_quiet_grown mixed (by kernel_rfl) ?_
          repeat (first | go_big_quiet_skip | quiet_step (first | (go_at_call 48; exact Calls.grown_of (HI.out _))))
          refine wpQuiet_nil ?_
          intro _ hw'
          obtain ⟨⟨nq, osq⟩, hw''⟩ := hw'
          subst hw''
          have HB2 : Hid (Below w.heap.size w (grow (W0.drewN nq) osq)) := (HX.out.2.2.trans (H0.out.2.1.mono HX.out.2.2.size)).trans ((below_grow W0 nq osq).mono (Nat.le_trans HX.out.2.2.size H0.out.2.1.size))
          generalize grow (W0.drewN nq) osq = w3 at HB2 ⊢
          go_wp2
          go_ret
          exact ⟨by rw [E.out]; rfl, HB2.out⟩
    · have E : Hid (ans = true) := by
        rw [H.out]
        rw [List.take_of_length_le (by omega)] at hall
        exact decide_eq_true hall
      have HB : Hid _ := hbr
      clear hall hbr pa
      go_wp2
      go_ret
      exact ⟨by rw [E.out]; rfl, HB.out⟩
end Go.Proofs.Ytlpedligkofegaa.Walks
