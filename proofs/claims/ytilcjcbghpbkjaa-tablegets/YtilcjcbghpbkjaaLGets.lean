/-
  TableGets returns true. Condition: the slots can be read, at most 2^42 of them.
-/
import Derived.Test.YtilcjcbghpbkjaaGot
import Derived.Deep.CutRange
import Derived.WalkKit
import Derived.ProofKit
import Derived.Handy
import Derived.LoopTactic
import Derived.Below
import Derived.Laws.BitsAllLaws
import Derived.RegionTactic
import Derived.Deep.RegionHeld3
import Derived.Deep.DrawnRows
import Derived.Deep.AppendLies
import Derived.Laws.OwnMore
import Derived.Deep.Onto
import Derived.Deep.QuietTactic
import Derived.BigQuiet
namespace Go.Proofs.Ytilcjcbghpbkjaa.Walks
open Go.RowKit
set_option linter.unusedVariables false
set_option linter.unusedSimpArgs false
attribute [local go_sem ↓] Go.wp_at_zero Go.wp_at_succ

theorem heap_new_drew (w : World) (o : Obj) : ((w.alloc o).drew).heap[w.heap.size]? = some o := heap_alloc_new w o

set_option maxHeartbeats 8000000 in
set_option maxRecDepth 100000 in
theorem tableGets_row (w : World) (v : Value) (l : List Sl) (hv : SlAt w v l) (hl : l.length ≤ 4398046511104) (s g : Int) (ws : (Lit.int .i64 s).wf = true) (wg : (Lit.int .i64 g).wf = true) :
    Calls Try.prog 6 #[.agg #[v], .agg #[.int .i64 s, .int .i64 g]] w fun r w' => r = .returned (.bool true) ∧ Below w.heap.size w w' := by
  obtain ⟨p, c, rfl, _⟩ := hv.parts
  obtain ⟨W0, hW0⟩ : ∃ W0, W0 = (w.alloc (.cells #[.slice p l.length c] 24)).alloc (.cells #[.int .i64 s, .int .i64 g] 34) := ⟨_, rfl⟩
  have hb0 : Below w.heap.size w W0 := by rw [hW0]; exact ((Below.refl _ _).alloc (Nat.le_refl _) _).alloc (by simp) _
  have hT0 : W0.heap[w.heap.size]? = some (.cells #[.slice p l.length c] 24 (0, 0)) := by rw [hW0]; exact heap_old _ _ (heap_alloc_new _ _)
  have hH0 : W0.heap[w.heap.size + 1]? = some (.cells #[.int .i64 s, .int .i64 g] 34 (0, 0)) := by rw [hW0]; exact heap_second _ _ _
  have t0 := one_cell hT0
  obtain ⟨h0, h1, _, _, hlt⟩ := two_cells hH0
  obtain ⟨x, e, hx⟩ : ∃ x e, gotE l s g = (x, e) := ⟨_, _, rfl⟩
  obtain ⟨x1, x2, x3, x4⟩ := x
  have hTb : Hid (∀ W, Below W0.heap.size W0 W → Calls Try.prog 10 #[.agg #[.slice p l.length c]] W fun r w' => ∃ y, r = .returned (.agg #[y]) ∧ (w'.cell? ⟨w.heap.size + 1, 0, none⟩ = some (.int .i64 s) ∧ w'.cell? ⟨w.heap.size + 1, 1, none⟩ = some (.int .i64 g) ∧ w.heap.size + 1 < w'.heap.size) ∧ Hid (SlAt w' y l ∧ Below W.heap.size W w' ∧ Below W0.heap.size W0 w') ∧ (∀ n, n < W.heap.size → n < w'.heap.size) ∧ (∀ b o, b < W.heap.size → w'.cell? ⟨b, o, none⟩ = W.cell? ⟨b, o, none⟩) ∧ (∀ b o, b < W.heap.size → w'.frozen? ⟨b, o, none⟩ = W.frozen? ⟨b, o, none⟩)) := fun W hW =>
    (tables_any _ l W ((hv.below hb0).below hW) hl).mono fun r w' ⟨y, z1, z2, z3⟩ =>
      have hh := hW.trans (z3.mono hW.size)
      ⟨y, z1, ⟨(hh.cell (p := ⟨w.heap.size + 1, 0, none⟩) hlt).trans h0, (hh.cell (p := ⟨w.heap.size + 1, 1, none⟩) hlt).trans h1, Nat.lt_of_lt_of_le hlt hh.size⟩, ⟨rowAt_own z2, z3, hh⟩, (fun n hn => Nat.lt_of_lt_of_le hn z3.size), (bcell z3).1, (bcell z3).2⟩
  have hGt : Hid (∀ W wt y, Hid (SlAt wt y l ∧ Below W0.heap.size W0 wt) → Below wt.heap.size wt W → Calls Try.prog 17 #[.agg #[y], .agg #[.int .i64 s, .int .i64 g]] W fun r w' => r = .returned (.tuple #[.agg #[.int .i64 x1, .bool x2, .int .i64 x3, .int .i64 x4], .int .i64 e]) ∧ Hid (Below W.heap.size W w' ∧ Below W0.heap.size W0 w') ∧ (∀ n, n < W.heap.size → n < w'.heap.size) ∧ (∀ b o, b < W.heap.size → w'.cell? ⟨b, o, none⟩ = W.cell? ⟨b, o, none⟩) ∧ (∀ b o, b < W.heap.size → w'.frozen? ⟨b, o, none⟩ = W.frozen? ⟨b, o, none⟩)) := fun W wt y hy hw => by
    have := get_any y l s g W (hy.out.1.below hw)
    rw [hx] at this
    refine this.mono fun r w' ⟨z1, z3⟩ => ?_
    have hh := hy.out.2.trans (hw.mono hy.out.2.size)
    exact ⟨z1, ⟨z3, hh.trans (z3.mono hh.size)⟩, (fun n hn => Nat.lt_of_lt_of_le hn z3.size), (bcell z3).1, (bcell z3).2⟩
  have hRf : Hid (∀ W y, SlAt W y l → Calls Try.prog 18 #[.agg #[y], .agg #[.int .i64 s, .int .i64 g]] W fun r w' => r = .returned (.tuple #[.agg #[.int .i64 x1, .bool x2, .int .i64 x3, .int .i64 x4], .int .i64 e]) ∧ Below W.heap.size W w') := fun W y hy => by
    have := got_any y l s g W hy
    rw [hx] at this
    exact this
  have HV : Hid (_ ∧ _ ∧ _ ∧ _ ∧ _) := ⟨hv, hb0, hT0, hH0, hW0⟩
  clear hv hb0 hT0 hH0 hx ws wg hl
  have hlt0 : w.heap.size < W0.heap.size := by omega
  go_enter Try.func6, Try.ntmps6
  go_upto_region 1 with fail
  rw [← HV.out.2.2.2.2]
  clear hW0
  go_cut [5, 6] from 9 to 15 (fun b ev wx => ∃ gg, b = .pointer (some ⟨gg, 0, none⟩) ∧ ev = .int .i64 e ∧ wx.heap[gg]? = some (.cells #[.int .i64 x1, .bool x2, .int .i64 x3, .int .i64 x4] 39 (0, 0)) ∧ Below W0.heap.size W0 wx)
  case first =>
    go_region_with (first | (go_at_call 10; refine (hTb.out _ ?hbW).mono ?_; (case hbW => first | exact (Below.refl _ _).drew | exact ((Below.refl _ _).drew).alloc (by simp) _ | exact ((Below.refl _ _).alloc (Nat.le_refl _) _).drew); rintro r w4 ⟨y, rfl, ⟨k0, k1, k2⟩, hq4, hz4, hc4, hf4⟩) | (go_at_call 17; refine (hGt.out _ w4 y ⟨hq4.out.1, hq4.out.2.2⟩ ?hbW).mono ?_; (case hbW => first | exact Below.refl _ _ | exact (Below.refl _ _).alloc (Nat.le_refl _) _); rintro r w5 ⟨rfl, hq5, hz5, hc5, hf5⟩))
    all_goals
      go_wp2_with fail
      go_meet
      refine ⟨_, rfl, rfl, ?_, ?_⟩
      · first
        | with_reducible exact heap_alloc_new _ _
        | with_reducible exact four_set (box_below (heap_alloc_new w4 _) hq5.out.1)
        | with_reducible exact four_set (box_below (box_below (heap_new_drew W0 _) hq4.out.2.1) hq5.out.1)
      · first
        | with_reducible exact hq5.out.2.alloc hq5.out.2.size _
        | with_reducible exact four_below hq5.out.2 hq4.out.2.2.size
        | with_reducible exact four_below hq5.out.2 (Nat.le_refl _)
  case rest =>
  obtain ⟨gg, rfl, rfl, hX, hbx⟩ := hcut
  have t1 := one_cell (box_below HV.out.2.2.1 hbx)
  obtain ⟨m0, m1, _⟩ := two_cells (box_below HV.out.2.2.2.1 hbx)
  obtain ⟨⟨j0, j1, j2, j3⟩, i0, i1, i2, i3⟩ := box4 hX
  have H2 : Hid (_ ∧ _) := ⟨hX, hbx⟩
  clear hX hbx t0 h0 h1
  go_wp2_with fail
  refine (hRf.out _ _ ((HV.out.1.below HV.out.2.1).below H2.out.2)).mono ?_
  rintro r w6 ⟨rfl, hb6⟩
  have hb26 := H2.out.2.trans (hb6.mono H2.out.2.size)
  have HB : Hid _ := HV.out.2.1.trans (hb26.mono HV.out.2.1.size)
  have hX6 := box_below H2.out.1 hb6
  obtain ⟨⟨q0, q1, q2, q3⟩, _⟩ := box4 hX6
  have hl6 := (Array.getElem?_eq_some_iff.1 hX6).1
  clear hb6 hb26 hX6 j0 j1 j2 j3 i0 i1 i2 i3 m0 m1 t1
  go_wp2
  go_ret
  exact ⟨by simp, HB.out.alloc HB.out.size _⟩
end Go.Proofs.Ytilcjcbghpbkjaa.Walks
