/-
  LifeOrder: lives stand by their backends, each once, with a weight that may be. No condition.
-/
import Derived.Test.YtlpedligkofegabKA
import Derived.Test.YtlpedligkofegabKO
import Derived.BigQuiet
import Derived.WalkKit
import Derived.ProofKit
import Derived.Handy
import Derived.LoopTactic
import Derived.Below
import Derived.Laws.BitsAllLaws
import Derived.RegionTactic
import Derived.Deep.RegionHeld3
import Derived.Deep.DrawnRows
import Derived.Deep.AppendLies
import Derived.Laws.OwnMore
import Derived.Deep.Onto
import Derived.Deep.QuietTactic
namespace Go.Proofs.Ytlpedligkofegab.Walks
open Go.RowKit
set_option linter.unusedVariables false
set_option linter.unusedSimpArgs false
attribute [local go_sem ↓] Go.wp_at_zero Go.wp_at_succ

set_option maxHeartbeats 16000000 in
set_option maxRecDepth 100000 in
theorem order_law (v : Value) (l : List Rq) (wf : ∀ y ∈ l, ∀ n ∈ rqC y, (Lit.int .i64 n).wf = true) (w : World) (hat : RcAt rqC w v l) :
    Calls Try.prog 7 #[v] w fun e w' => e = .returned (.bool true) ∧ Below w.heap.size w w' := by
  obtain ⟨pa, ca, rfl, hca, hma⟩ := RcAt.form hat
  have H : Hid _ := asked_some _ l wf w hat
  clear hat wf
  go_enter Try.func7, Try.ntmps7
  go_wp2_with fail
  refine Calls.mono H.out ?_
  rintro r w1 ⟨L, R, now, p, c, q, m, rfl, hn1, hI, hb1⟩
  obtain ⟨W1, hW1⟩ : ∃ W1, W1 = w1.alloc (bkO (.slice p L.length c) (.slice q R.length m)) := ⟨_, rfl⟩
  have hx1 : Bx w W1 w1.heap.size (.slice p L.length c) (.slice q R.length m) L R := by rw [hW1]; exact bx_new hn1.1 hb1
  obtain ⟨g3, hg3⟩ : ∃ g3, g3 = w1.heap.size := ⟨_, rfl⟩
  rw [← hg3] at hx1
  obtain ⟨hq1, hq2⟩ := (⟨by obtain ⟨_, _, he, h1, h2⟩ := RcAt.form hn1.1.1; cases he; exact h1, by obtain ⟨_, _, he, h1, h2⟩ := RcAt.form hn1.1.1; cases he; unfold maxLen at h2; exact h2⟩ : L.length ≤ c ∧ c ≤ 9223372036854775807)
  have H1 : Hid (_ ∧ _) := ⟨hx1, hI⟩
  clear hn1 hI hb1 hx1
  go_wp2
  rw [← hg3, ← hW1]
  clear hW1 hg3
  go_loopw [6] (fun i wr => ∃ k : Nat, i = .int .i64 k ∧ k ≤ L.length ∧ Bx w wr g3 (.slice p L.length c) (.slice q R.length m) L R) (fun i _ => L.length - (intOf i).toNat)
  case atStart => exact ⟨0, rfl, Nat.zero_le _, H1.out.1⟩
  case round =>
    obtain ⟨k, rfl, hk, hB⟩ := hrel
    obtain ⟨c0, c1, clt⟩ := hB.cells
    by_cases hlt : k < L.length
    · have hkI : (k : Int) < (L.length : Int) := by omega
      have hkd : decide ((k : Int) < (L.length : Int)) = true := decide_eq_true hkI
      obtain ⟨pp, cc, hee, _, _, pl⟩ := LvAt.parts hB.2.1.1
      cases hee
      obtain ⟨b1, o1, hpa, hbb, e1, e2, e3, e4, e5, e6⟩ := pl k hlt
      subst hpa
      have hmem := of_mem H1.out.2.ok (List.getElem_mem hlt) rfl
      have hokk := H1.out.2.ok.1.2.1 L[k] (List.getElem_mem hlt)
      have hlv := H1.out.2.lives L[k] (List.getElem_mem hlt)
      have hpv : ∀ j, j + 1 = k → ∃ y : Int, wr.cell? ⟨b1, o1 + j * 6, none⟩ = some (.int .i64 y) ∧ y < L[k].1 := fun j hj => by
        obtain ⟨b2, o2, he, hb2, z1, _⟩ := pl j (by omega)
        cases he
        exact ⟨_, z1, List.pairwise_iff_getElem.1 H1.out.2.ok.1.2.2 j k (by omega) hlt (by omega)⟩
      obtain ⟨⟨x1, x2, x3, x4, x5, x6⟩, hxk⟩ : ∃ x, x = L[k] := ⟨_, rfl⟩
      rw [← hxk] at e1 e2 e3 e4 e5 e6 hmem hokk hlv hpv
      have hw3 : 1 ≤ x3 ∧ x3 ≤ 8 := hokk.1.2.1
      have hw4 : x4 ≤ now := hlv.2
      have q3 : decide (x3 < 1) = false := decide_eq_false (by omega)
      have q4 : decide (8 < x3) = false := decide_eq_false (by omega)
      have q5 : decide (now < x4) = false := decide_eq_false (by omega)
      have HX : Hid (_ ∧ _) := ⟨hmem, hbb⟩
      obtain ⟨gx, hgx⟩ : ∃ gx, gx = wr.heap.size := ⟨_, rfl⟩
      obtain ⟨W2, hW2⟩ : ∃ W2, W2 = wr.alloc (lfO x1 x2 x3 x4 x5 x6) := ⟨_, rfl⟩
      have hX2 : W2.heap[gx]? = some (lfO x1 x2 x3 x4 x5 x6) := by rw [hW2, hgx]; exact heap_alloc_new _ _
      have hB2 : Bx w W2 g3 (.slice (some ⟨b1, o1, none⟩) L.length c) (.slice q R.length m) L R := by rw [hW2]; exact hB.alloc _
      have hbe : Below wr.heap.size wr W2 := by rw [hW2]; exact below_new _
      have H2 : Hid (_ ∧ _) := ⟨hB2, hX2⟩
      clear hmem hokk hlv hxk hB hbb pl
      by_cases h0 : k = 0
      · have hpos : decide (0 < k) = false := decide_eq_false (by omega)
        clear hpv h0 hbe hB2
        obtain ⟨d0, d1, d2, d3, d4, d5, dlt⟩ := six_cells hX2
        have clt2 : g3 < W2.heap.size := H2.out.1.cells.2.2
        have c02 := H2.out.1.cells.1
        rw [hgx] at d0 d1 d2 d3 d4 d5 dlt
        clear hX2
        go_wp2_with fail
        rw [← hW2]
        rw [← hgx] at d0 d1 d2 d3 d4 d5 dlt ⊢
        clear hgx hW2
        refine wp_region_quiet_lit (by kernel_rfl) (by kernel_rfl) ?_
        repeat (first | go_big_quiet_skip | quiet_step (fail))
        refine wpQuiet_nil ?_
        intro _ hw'
        obtain ⟨nq, hw''⟩ := hw'
        subst hw''
        have HS : Hid (Bx w (W2.drewN nq) g3 (.slice (some ⟨b1, o1, none⟩) L.length c) (.slice q R.length m) L R ∧ (W2.drewN nq).heap[gx]? = some (lfO x1 x2 x3 x4 x5 x6)) := ⟨H2.out.1.below (below_drewN (Below.refl _ _) nq), H2.out.2⟩
        generalize W2.drewN nq = W3 at HS ⊢
        clear d0 d1 d2 d3 d4 d5 dlt c0 c1 clt clt2 c02 e1 e2 e3 e4 e5 e6
        obtain ⟨d0, d1, d2, d3, d4, d5, dlt⟩ := six_cells HS.out.2
        obtain ⟨c0, c1, clt⟩ := HS.out.1.cells
        have HO : Hid _ := of_any _ _ L R x1 W3 HS.out.1.2.1 x1 x2 x3 x4 x5 x6 0 HX.out.1
        go_wp2_with fail
        refine Calls.mono HO.out ?_
        rintro r w4 ⟨rfl, hb4⟩
        have h4 := HS.out.1.below hb4
        have h4x := box_below HS.out.2 hb4
        clear d0 d1 d2 d3 d4 d5 dlt c0 c1 clt
        obtain ⟨d0, d1, d2, d3, d4, d5, dlt⟩ := six_cells h4x
        have H5 : Hid _ := h4.alloc (lfO x1 x2 x3 x4 x5 x6)
        clear h4 h4x hb4
        go_wp2
        go_roundw
        case rel => exact ⟨k + 1, by simp, hlt, H5.out⟩
        case measure => simp [intOf]; omega
      · obtain ⟨j, hj⟩ : ∃ j, j + 1 = k := ⟨k - 1, by omega⟩
        obtain ⟨y, fy, hy⟩ := hpv j hj
        have fy2 : W2.cell? ⟨b1, o1 + j * 6, none⟩ = some (.int .i64 y) := (hbe.cell (p := ⟨b1, o1 + j * 6, none⟩) (World.block_lt_of_cell? _ _ fy)).trans fy
        have hjI : (j : Int) < (L.length : Int) := by omega
        have hw1 : IntKind.i64.wrap ((k : Int) - 1) = (j : Int) := by rw [IntKind.wrap_i64]; omega
        have hpos : decide (0 < k) = true := decide_eq_true (by omega)
        have qy : decide (x1 ≤ y) = false := decide_eq_false (by show ¬ x1 ≤ y; have : y < x1 := hy; omega)
        clear hpv h0 hj hy hbe hB2 fy
        obtain ⟨d0, d1, d2, d3, d4, d5, dlt⟩ := six_cells hX2
        have clt2 : g3 < W2.heap.size := H2.out.1.cells.2.2
        have c02 := H2.out.1.cells.1
        rw [hgx] at d0 d1 d2 d3 d4 d5 dlt
        clear hX2
        go_wp2_with fail
        rw [← hW2]
        rw [← hgx] at d0 d1 d2 d3 d4 d5 dlt ⊢
        clear hgx hW2
        refine wp_region_quiet_lit (by kernel_rfl) (by kernel_rfl) ?_
        repeat (first | go_big_quiet_skip | quiet_step (fail))
        refine wpQuiet_nil ?_
        intro _ hw'
        obtain ⟨nq, hw''⟩ := hw'
        subst hw''
        have HS : Hid (Bx w (W2.drewN nq) g3 (.slice (some ⟨b1, o1, none⟩) L.length c) (.slice q R.length m) L R ∧ (W2.drewN nq).heap[gx]? = some (lfO x1 x2 x3 x4 x5 x6)) := ⟨H2.out.1.below (below_drewN (Below.refl _ _) nq), H2.out.2⟩
        generalize W2.drewN nq = W3 at HS ⊢
        clear d0 d1 d2 d3 d4 d5 dlt c0 c1 clt clt2 c02 fy2 e1 e2 e3 e4 e5 e6
        obtain ⟨d0, d1, d2, d3, d4, d5, dlt⟩ := six_cells HS.out.2
        obtain ⟨c0, c1, clt⟩ := HS.out.1.cells
        have HO : Hid _ := of_any _ _ L R x1 W3 HS.out.1.2.1 x1 x2 x3 x4 x5 x6 0 HX.out.1
        go_wp2_with fail
        refine Calls.mono HO.out ?_
        rintro r w4 ⟨rfl, hb4⟩
        have h4 := HS.out.1.below hb4
        have h4x := box_below HS.out.2 hb4
        clear d0 d1 d2 d3 d4 d5 dlt c0 c1 clt
        obtain ⟨d0, d1, d2, d3, d4, d5, dlt⟩ := six_cells h4x
        have H5 : Hid _ := h4.alloc (lfO x1 x2 x3 x4 x5 x6)
        clear h4 h4x hb4
        go_wp2
        go_roundw
        case rel => exact ⟨k + 1, by simp, hlt, H5.out⟩
        case measure => simp [intOf]; omega
    · have hkd : ¬ ((k : Int) < (L.length : Int)) := by omega
      have hnone := of_none H1.out.2.ok (n := 11) (fun x hx => by have := (H1.out.2.lives x hx).1; omega)
      have HO : Hid (_ ∧ _) := ⟨of_any _ _ L R 11 wr hB.2.1 0 0 0 0 0 0 8 hnone, hB⟩
      clear hnone hB
      go_wp2_with fail
      refine Calls.mono HO.out.1 ?_
      rintro r w4 ⟨rfl, hb4⟩
      have h4 := (HO.out.2.below hb4)
      obtain ⟨W4, hW4⟩ : ∃ W4, W4 = w4.alloc (lfO 0 0 0 0 0 0) := ⟨_, rfl⟩
      have h5 : Bx w W4 g3 (.slice p L.length c) (.slice q R.length m) L R := by rw [hW4]; exact h4.alloc _
      have HC : Hid (_ ∧ _) := ⟨check_any _ _ L R W4 h5.2.1, h5.2.2⟩
      rw [chk_yes H1.out.2.ok] at HC
      obtain ⟨c0, c1, clt⟩ := h4.cells
      clear hb4 h4 h5
      go_wp2_with fail
      rw [← hW4]
      clear hW4
      refine Calls.mono HC.out.1 ?_
      rintro r w5 ⟨rfl, hb5⟩
      have HZ : Hid _ := HC.out.2.trans (hb5.mono HC.out.2.size)
      clear hb5
      go_wp2
      go_ret
      exact ⟨rfl, HZ.out⟩
end Go.Proofs.Ytlpedligkofegab.Walks
