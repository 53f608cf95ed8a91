/-
  The document's FlowGot. Condition: the slots can be read.
-/
import Derived.Test.YtilcjcbghpbkjaaGet
import Derived.Deep.CutRange
import Derived.WalkKit
import Derived.ProofKit
import Derived.Handy
import Derived.LoopTactic
import Derived.Below
import Derived.Laws.BitsAllLaws
import Derived.RegionTactic
import Derived.Deep.RegionHeld3
import Derived.Deep.DrawnRows
import Derived.Deep.AppendLies
import Derived.Laws.OwnMore
import Derived.Deep.Onto
import Derived.Deep.QuietTactic
import Derived.BigQuiet
namespace Go.Proofs.Ytilcjcbghpbkjaa.Walks
open Go.RowKit
set_option linter.unusedVariables false
set_option linter.unusedSimpArgs false
attribute [local go_sem ↓] Go.wp_at_zero Go.wp_at_succ

set_option maxHeartbeats 8000000 in
set_option maxRecDepth 100000 in
theorem got_any (v : Value) (l : List Sl) (s g : Int) (w : World) (hv : SlAt w v l) :
    Calls Try.prog 18 #[.agg #[v], .agg #[.int .i64 s, .int .i64 g]] w fun r w' => r = .returned (.tuple #[slotV (gotE l s g).1, .int .i64 (gotE l s g).2]) ∧ Below w.heap.size w w' := by
  obtain ⟨p, c, rfl, hc, hm, pa⟩ := hv.parts
  unfold maxLen at hm
  obtain ⟨W0, hW0⟩ : ∃ W0, W0 = ((w.alloc (.cells #[.slice p l.length c] 24)).alloc (.cells #[.int .i64 s, .int .i64 g] 34)).alloc (.cells #[.int .i64 0, .bool false, .int .i64 0, .int .i64 0] 39) := ⟨_, rfl⟩
  have hb0 : Below w.heap.size w W0 := by rw [hW0]; exact (((Below.refl _ _).alloc (Nat.le_refl _) _).alloc (by simp) _).alloc (by simp; omega) _
  have hT0 : W0.heap[w.heap.size]? = some (.cells #[.slice p l.length c] 24 (0, 0)) := by rw [hW0]; exact heap_old _ _ (heap_old _ _ (heap_alloc_new _ _))
  have hH0 : W0.heap[w.heap.size + 1]? = some (.cells #[.int .i64 s, .int .i64 g] 34 (0, 0)) := by rw [hW0]; exact heap_old _ _ (heap_second _ _ _)
  have hS0 : W0.heap[w.heap.size + 1 + 1]? = some (.cells #[.int .i64 0, .bool false, .int .i64 0, .int .i64 0] 39 (0, 0)) := by rw [hW0]; have := heap_alloc_new ((w.alloc (.cells #[.slice p l.length c] 24)).alloc (.cells #[.int .i64 s, .int .i64 g] 34)) (.cells #[.int .i64 0, .bool false, .int .i64 0, .int .i64 0] 39); simpa using this
  have HV : Hid (_ ∧ _ ∧ _ ∧ _ ∧ _ ∧ _) := ⟨hv, hb0, hT0, hH0, hS0, hW0⟩
  clear hv hb0 hT0 hH0 hS0 hW0
  go_enter Try.func18, Try.ntmps18
  go_wp2_with fail
  rw [← HV.out.2.2.2.2.2]
  refine (fault_any _ l _ (HV.out.1.below HV.out.2.1)).mono ?_
  rintro r w1 ⟨rfl, hb1⟩
  have hS1 := box_below HV.out.2.2.2.2.1 hb1
  have hT1 := box_below HV.out.2.2.1 hb1
  have hH1 := box_below HV.out.2.2.2.1 hb1
  have s0 : w1.cell? ⟨w.heap.size + 1 + 1, 0, none⟩ = some (.int .i64 0) := by simp [World.cell?, hS1]
  have s1 : w1.cell? ⟨w.heap.size + 1 + 1, 1, none⟩ = some (.bool false) := by simp [World.cell?, hS1]
  have s2 : w1.cell? ⟨w.heap.size + 1 + 1, 2, none⟩ = some (.int .i64 0) := by simp [World.cell?, hS1]
  have s3 : w1.cell? ⟨w.heap.size + 1 + 1, 3, none⟩ = some (.int .i64 0) := by simp [World.cell?, hS1]
  have f0 : w1.frozen? ⟨w.heap.size + 1 + 1, 0, none⟩ = false := by simp [World.frozen?, hS1]
  have f1 : w1.frozen? ⟨w.heap.size + 1 + 1, 1, none⟩ = false := by simp [World.frozen?, hS1]
  have f2 : w1.frozen? ⟨w.heap.size + 1 + 1, 2, none⟩ = false := by simp [World.frozen?, hS1]
  have f3 : w1.frozen? ⟨w.heap.size + 1 + 1, 3, none⟩ = false := by simp [World.frozen?, hS1]
  have t0 := one_cell hT1
  obtain ⟨h0, h1, _⟩ := two_cells hH1
  have H1 : Hid (_ ∧ _ ∧ _ ∧ _) := ⟨hb1, hS1, hT1, hH1⟩
  clear hb1 hS1 hT1 hH1
  have HB1 : Hid _ := HV.out.2.1.trans (H1.out.1.mono HV.out.2.1.size)
  by_cases hok : TabOk l
  · rw [if_pos hok]
    have hl40 : l.length ≤ 40 := hok.1.2
    have hl1 : 1 ≤ l.length := hok.1.1
    cases hin : decide (0 ≤ s ∧ s ≤ (l.length : Int) - 1)
    · have HG : Hid _ := got_none (s := s) (g := g) hok (by have := of_decide_eq_false hin; omega)
      clear pa hok
      go_wp2_with fail
      refine (in_any _ _ _ _).mono ?_
      rw [hin]
      rintro r w2 ⟨rfl, rfl⟩
      go_wp2
      exact bodyPost_ret (v := .tuple #[slotV (0, false, 0, 0), .int .i64 8]) (results_ct Try.results18 rfl rfl (load_row (P := Try.prog) (cs := [.int .i64 0, .bool false, .int .i64 0, .int .i64 0]) (four_set H1.out.2.1) Try.underlying39 rfl (by kernel_rfl))) rfl ⟨by rw [HG.out], four_below HB1.out (by omega)⟩
    have hin2 := of_decide_eq_true hin
    obtain ⟨k, rfl⟩ := Int.eq_ofNat_of_zero_le (a := s) (by omega)
    have hk : k < l.length := by omega
    have hkI : (k : Int) < (l.length : Int) := by omega
    obtain ⟨b1, o1, rfl, hb1, c1, c2, c3, c4⟩ := pa k hk
    have hbt := HB1.out
    have e1 := (hbt.cell (p := ⟨b1, o1 + k * 4, none⟩) hb1).trans c1
    have e2 := (hbt.cell (p := ⟨b1, o1 + k * 4 + 1, none⟩) hb1).trans c2
    have e3 := (hbt.cell (p := ⟨b1, o1 + k * 4 + 2, none⟩) hb1).trans c3
    have e4 := (hbt.cell (p := ⟨b1, o1 + k * 4 + 3, none⟩) hb1).trans c4
    obtain ⟨⟨x1, x2, x3, x4⟩, hxk⟩ : ∃ x, x = l[k] := ⟨_, rfl⟩
    rw [← hxk] at e1 e2 e3 e4
    have hg := got_some (g := g) hok hk hxk
    have hfr := used_iff (hok.2 l[k] (List.getElem_mem hk))
    rw [← hxk] at hfr
    have HG : Hid (_ ∧ _) := ⟨hg, hfr⟩
    obtain ⟨W2, hW2⟩ : ∃ W2, W2 = w1.alloc (.cells #[.int .i64 x1, .bool x2, .int .i64 x3, .int .i64 x4] 39) := ⟨_, rfl⟩
    have hX2 : W2.heap[w1.heap.size]? = some (.cells #[.int .i64 x1, .bool x2, .int .i64 x3, .int .i64 x4] 39 (0, 0)) := by rw [hW2]; exact heap_alloc_new _ _
    have hb2 : Below w1.heap.size w1 W2 := by rw [hW2]; exact below_newC w1
    have H2 : Hid (_ ∧ _ ∧ _) := ⟨hW2, hX2, hb2⟩
    clear hg hfr hxk hok pa c1 c2 c3 c4 hb1 hbt hW2 hX2 hb2 hin2
    have hS3 := box_below H1.out.2.1 H2.out.2.2
    have hH3 := box_below H1.out.2.2.2 H2.out.2.2
    have u0 : W2.cell? ⟨w.heap.size + 1 + 1, 0, none⟩ = some (.int .i64 0) := by simp [World.cell?, hS3]
    have u1 : W2.cell? ⟨w.heap.size + 1 + 1, 1, none⟩ = some (.bool false) := by simp [World.cell?, hS3]
    have u2 : W2.cell? ⟨w.heap.size + 1 + 1, 2, none⟩ = some (.int .i64 0) := by simp [World.cell?, hS3]
    have u3 : W2.cell? ⟨w.heap.size + 1 + 1, 3, none⟩ = some (.int .i64 0) := by simp [World.cell?, hS3]
    have v0 : W2.frozen? ⟨w.heap.size + 1 + 1, 0, none⟩ = false := by simp [World.frozen?, hS3]
    have v1 : W2.frozen? ⟨w.heap.size + 1 + 1, 1, none⟩ = false := by simp [World.frozen?, hS3]
    have v2 : W2.frozen? ⟨w.heap.size + 1 + 1, 2, none⟩ = false := by simp [World.frozen?, hS3]
    have v3 : W2.frozen? ⟨w.heap.size + 1 + 1, 3, none⟩ = false := by simp [World.frozen?, hS3]
    have z0 : W2.cell? ⟨w1.heap.size, 0, none⟩ = some (.int .i64 x1) := by simp [World.cell?, H2.out.2.1]
    have z1 : W2.cell? ⟨w1.heap.size, 1, none⟩ = some (.bool x2) := by simp [World.cell?, H2.out.2.1]
    have z2 : W2.cell? ⟨w1.heap.size, 2, none⟩ = some (.int .i64 x3) := by simp [World.cell?, H2.out.2.1]
    have z3 : W2.cell? ⟨w1.heap.size, 3, none⟩ = some (.int .i64 x4) := by simp [World.cell?, H2.out.2.1]
    obtain ⟨y0, y1, _⟩ := two_cells hH3
    have HB3 : Hid _ := HB1.out.trans (H2.out.2.2.mono HB1.out.size)
    have HS3 : Hid _ := hS3
    clear hS3 hH3
    go_wp2_with fail
    refine (in_any _ _ _ _).mono ?_
    rw [hin]
    rintro r w2 ⟨rfl, rfl⟩
    go_upto_region 7 with fail
    rw [← H2.out.1]
    clear s0 s1 s2 s3 f0 f1 f2 f3 t0 h0 h1 e1 e2 e3 e4 hin
    cases x2
    · have hg : gotE l k g = ((0, false, 0, 0), 10) := by
        rw [HG.out.1, if_neg fun h => by have := h.1; simp at this]
      have HE : Hid _ := hg
      clear hg
      go_wp2
      exact bodyPost_ret (v := .tuple #[slotV (0, false, 0, 0), .int .i64 10]) (results_ct Try.results18 rfl rfl (load_row (P := Try.prog) (cs := [.int .i64 0, .bool false, .int .i64 0, .int .i64 0]) (four_set HS3.out) Try.underlying39 rfl (by kernel_rfl))) rfl ⟨by rw [HE.out], four_below HB3.out (by omega)⟩
    · cases hgn : (x1 != g)
      · have hg : gotE l k g = ((x1, true, x3, x4), 0) := by
          rw [HG.out.1, if_pos ⟨rfl, by simpa using hgn⟩]
        have HE : Hid _ := hg
        clear hg
        go_wp2
        exact bodyPost_ret (v := .tuple #[slotV (x1, true, x3, x4), .int .i64 0]) (results_ct Try.results18 rfl rfl (load_row (P := Try.prog) (cs := [.int .i64 x1, .bool true, .int .i64 x3, .int .i64 x4]) (four_set HS3.out) Try.underlying39 rfl (by kernel_rfl))) rfl ⟨by rw [HE.out], four_below HB3.out (by omega)⟩
      · have hg : gotE l k g = ((0, false, 0, 0), 10) := by
          rw [HG.out.1, if_neg fun h => by have := h.2; simp at hgn; exact hgn this]
        have HE : Hid _ := hg
        clear hg
        go_wp2
        exact bodyPost_ret (v := .tuple #[slotV (0, false, 0, 0), .int .i64 10]) (results_ct Try.results18 rfl rfl (load_row (P := Try.prog) (cs := [.int .i64 0, .bool false, .int .i64 0, .int .i64 0]) (four_set HS3.out) Try.underlying39 rfl (by kernel_rfl))) rfl ⟨by rw [HE.out], four_below HB3.out (by omega)⟩
  · rw [if_neg hok]
    have hg : gotE l s g = ((0, false, 0, 0), 6) := by unfold gotE; rw [if_pos hok]
    have HG : Hid _ := hg
    clear hg pa
    go_wp2
    exact bodyPost_ret (v := .tuple #[slotV (0, false, 0, 0), .int .i64 6]) (results_ct Try.results18 rfl rfl (load_row (P := Try.prog) (cs := [.int .i64 0, .bool false, .int .i64 0, .int .i64 0]) (four_set H1.out.2.1) Try.underlying39 rfl (by kernel_rfl))) rfl ⟨by rw [HG.out], four_below HB1.out (by omega)⟩
end Go.Proofs.Ytilcjcbghpbkjaa.Walks
