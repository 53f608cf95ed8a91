/-
  usherkeep.Config: a config that is right, whatever the numbers. No condition but that the numbers are an int's.
-/
import Derived.Test.YtbabcpdcgncigaaBw
import Derived.WalkKit
import Derived.ProofKit
import Derived.Handy
import Derived.LoopTactic
import Derived.Below
import Derived.Laws.BitsAllLaws
import Derived.RegionTactic
import Derived.Deep.RegionHeld3
import Derived.Deep.DrawnRows
import Derived.Deep.AppendLies
import Derived.Laws.OwnMore
import Derived.Deep.Onto
import Derived.Deep.QuietTactic
import Derived.BigQuiet
namespace Go.Proofs.Ytbabcpdcgncigaa.Walks
open Go.RowKit
set_option linter.unusedVariables false
set_option linter.unusedSimpArgs false
attribute [local go_sem ↓] Go.wp_at_zero Go.wp_at_succ

abbrev stA (x0 x1 x2 x3 x4 x5 x6 x7 x8 x9 x10 x11 x12 x13 x14 x15 : Int) : Value := .agg #[.int .i64 x0, .int .i64 x1, .int .i64 x2, .int .i64 x3, .int .i64 x4, .int .i64 x5, .int .i64 x6, .int .i64 x7, .int .i64 x8, .int .i64 x9, .int .i64 x10, .int .i64 x11, .int .i64 x12, .int .i64 x13, .int .i64 x14, .int .i64 x15]

abbrev stO (x0 x1 x2 x3 x4 x5 x6 x7 x8 x9 x10 x11 x12 x13 x14 x15 : Int) : Obj := .cells #[.int .i64 x0, .int .i64 x1, .int .i64 x2, .int .i64 x3, .int .i64 x4, .int .i64 x5, .int .i64 x6, .int .i64 x7, .int .i64 x8, .int .i64 x9, .int .i64 x10, .int .i64 x11, .int .i64 x12, .int .i64 x13, .int .i64 x14, .int .i64 x15] 55

theorem st_cells {w : World} {b : Nat} {x0 x1 x2 x3 x4 x5 x6 x7 x8 x9 x10 x11 x12 x13 x14 x15 : Int} (h : w.heap[b]? = some (stO x0 x1 x2 x3 x4 x5 x6 x7 x8 x9 x10 x11 x12 x13 x14 x15)) : w.cell? ⟨b, 0, none⟩ = some (.int .i64 x0) ∧ w.cell? ⟨b, 1, none⟩ = some (.int .i64 x1) ∧ w.cell? ⟨b, 2, none⟩ = some (.int .i64 x2) ∧ w.cell? ⟨b, 3, none⟩ = some (.int .i64 x3) ∧ w.cell? ⟨b, 4, none⟩ = some (.int .i64 x4) ∧ w.cell? ⟨b, 5, none⟩ = some (.int .i64 x5) ∧ w.cell? ⟨b, 6, none⟩ = some (.int .i64 x6) ∧ w.cell? ⟨b, 7, none⟩ = some (.int .i64 x7) ∧ w.cell? ⟨b, 8, none⟩ = some (.int .i64 x8) ∧ w.cell? ⟨b, 9, none⟩ = some (.int .i64 x9) ∧ w.cell? ⟨b, 10, none⟩ = some (.int .i64 x10) ∧ w.cell? ⟨b, 11, none⟩ = some (.int .i64 x11) ∧ w.cell? ⟨b, 12, none⟩ = some (.int .i64 x12) ∧ w.cell? ⟨b, 13, none⟩ = some (.int .i64 x13) ∧ w.cell? ⟨b, 14, none⟩ = some (.int .i64 x14) ∧ w.cell? ⟨b, 15, none⟩ = some (.int .i64 x15) ∧ b < w.heap.size :=
  ⟨by simp [World.cell?, h], by simp [World.cell?, h], by simp [World.cell?, h], by simp [World.cell?, h], by simp [World.cell?, h], by simp [World.cell?, h], by simp [World.cell?, h], by simp [World.cell?, h], by simp [World.cell?, h], by simp [World.cell?, h], by simp [World.cell?, h], by simp [World.cell?, h], by simp [World.cell?, h], by simp [World.cell?, h], by simp [World.cell?, h], by simp [World.cell?, h], (Array.getElem?_eq_some_iff.1 h).1⟩

theorem wf_tmod (x : Int) : (Lit.int .i64 (x.tmod 20)).wf = true := by
  by_cases h : x < 0
  · have e : x.tmod 20 = -((-x) % 20) := by
      rw [show x = -(-x) by omega, Int.neg_tmod, Int.tmod_eq_emod_of_nonneg (by omega)]
      simp
    rw [e]
    exact wf_small (by omega) (by omega)
  · rw [Int.tmod_eq_emod_of_nonneg (by omega)]
    exact wf_small (by omega) (by omega)

theorem wrap_small {n : Int} (h1 : -1000000 ≤ n) (h2 : n ≤ 1000000) : IntKind.i64.wrap n = n := by rw [IntKind.wrap_i64]; omega

/-- The sixteen cells as one row. -/
theorem cf_row (c : Cf) : (.cells #[.int .i64 c.flows, .int .i64 c.num, .int .i64 c.den, .int .i64 c.tries, .int .i64 c.warm, .int .i64 c.drain, .int .i64 c.idle, .int .i64 c.conn, .int .i64 c.ret, .int .i64 c.most, .int .i64 c.bn, .int .i64 c.bd, .int .i64 c.bb, .int .i64 c.wn, .int .i64 c.wf, .int .i64 c.wh] 27 : Obj) = .cells (List.toArray [.int .i64 c.flows, .int .i64 c.num, .int .i64 c.den, .int .i64 c.tries, .int .i64 c.warm, .int .i64 c.drain, .int .i64 c.idle, .int .i64 c.conn, .int .i64 c.ret, .int .i64 c.most, .int .i64 c.bn, .int .i64 c.bd, .int .i64 c.bb, .int .i64 c.wn, .int .i64 c.wf, .int .i64 c.wh]) 27 := rfl

theorem all_ints (l : List Int) : (l.map fun x => Value.int .i64 x).toArray.all (·.oneCell') = true := by
  apply all_oneCell_toArray
  intro v hv
  obtain ⟨x, _, rfl⟩ := List.mem_map.1 hv
  rfl

/-- What a setup says of its config. -/
structure CfOf (x0 x1 x2 x3 x4 x5 x6 x7 x8 x9 x10 x11 x12 x13 x14 x15 : Int) (c : Cf) : Prop where
  ok : CfOk c
  flows : c.flows ≤ 8
  drain : c.drain ≤ 5
  idle : c.idle ≤ 6
  conn : c.conn ≤ 4
  ret : c.ret ≤ 3
  most : c.most = ((pick x9 101 : Nat) : Int)

set_option maxHeartbeats 16000000 in
set_option maxRecDepth 100000 in
theorem config_some (x0 x1 x2 x3 x4 x5 x6 x7 x8 x9 x10 x11 x12 x13 x14 x15 : Int) (w0 : (Lit.int .i64 x0).wf = true) (w1 : (Lit.int .i64 x1).wf = true) (w2 : (Lit.int .i64 x2).wf = true) (w3 : (Lit.int .i64 x3).wf = true) (w4 : (Lit.int .i64 x4).wf = true) (w5 : (Lit.int .i64 x5).wf = true) (w6 : (Lit.int .i64 x6).wf = true) (w7 : (Lit.int .i64 x7).wf = true) (w8 : (Lit.int .i64 x8).wf = true) (w9 : (Lit.int .i64 x9).wf = true) (w10 : (Lit.int .i64 x10).wf = true) (w11 : (Lit.int .i64 x11).wf = true) (w12 : (Lit.int .i64 x12).wf = true) (w13 : (Lit.int .i64 x13).wf = true) (w14 : (Lit.int .i64 x14).wf = true) (w15 : (Lit.int .i64 x15).wf = true) :
    ∃ c : Cf, CfOf x0 x1 x2 x3 x4 x5 x6 x7 x8 x9 x10 x11 x12 x13 x14 x15 c ∧ ∀ w, Calls Try.prog 11 #[stA x0 x1 x2 x3 x4 x5 x6 x7 x8 x9 x10 x11 x12 x13 x14 x15] w fun r w' => r = .returned (cfA c) ∧ Below w.heap.size w w' := by
  obtain ⟨k2, b2, p2⟩ := picked_some x2 20 w2 (by omega) (by omega)
  obtain ⟨k0, b0, p0⟩ := picked_some x0 8 w0 (by omega) (by omega)
  obtain ⟨k3, b3, p3⟩ := picked_some x3 4 w3 (by omega) (by omega)
  obtain ⟨k4, b4, p4⟩ := picked_some x4 6 w4 (by omega) (by omega)
  obtain ⟨k5, b5, p5⟩ := picked_some x5 5 w5 (by omega) (by omega)
  obtain ⟨k6, b6, p6⟩ := picked_some x6 6 w6 (by omega) (by omega)
  obtain ⟨k7, b7, p7⟩ := picked_some x7 4 w7 (by omega) (by omega)
  obtain ⟨k8, b8, p8⟩ := picked_some x8 4 w8 (by omega) (by omega)
  obtain ⟨k1, b1, p1⟩ := picked_some x1 (20 - k2) w1 (by omega) (by omega)
  have hc1 : (((20 - k2 : Nat)) : Int) = 20 - (1 + (k2 : Int)) + 1 := by omega
  rw [hc1] at p1
  have p9 : ∀ W, Calls Try.prog 28 #[.int .i64 x9, .int .i64 101] W fun r w' => r = .returned (.int .i64 ((pick x9 101 : Nat) : Int)) ∧ w' = W := fun W => by
    have hb := wf_bd w9
    exact picked_any x9 101 W hb.1 hb.2 (by omega) (by omega)
  have b9 := pick_lt x9 101 (by omega)
  obtain ⟨bn, bd, bb, hbud, pb⟩ := budget_some x10 x11 x12 w10 w11 w12
  obtain ⟨wn, wf, wh, hw1, hw2, hw3, _, pw⟩ := watch_some x13 x14 (x15.tmod 20) w13 w14 (wf_tmod x15)
  refine ⟨⟨1 + k0, 1 + k2 + k1, 1 + k2, k3, k4, 1 + k5, 1 + k6, 1 + k7, k8, (pick x9 101 : Nat), bn, bd, bb, wn, wf, wh⟩, ⟨⟨⟨by show (1 : Int) ≤ 1 + k0; omega, by show (1 : Int) + k0 ≤ 40; omega⟩, ⟨by show (1 : Int) ≤ 1 + k2; omega, by show (1 : Int) + k2 ≤ 1 + k2 + k1; omega⟩, by show (1 : Int) + k2 + k1 ≤ 20; omega, ⟨by show (0 : Int) ≤ k3; omega, by show (k3 : Int) ≤ 12; omega⟩, ⟨by show (0 : Int) ≤ k4; omega, by show (k4 : Int) ≤ 500; omega⟩, ⟨by show (1 : Int) ≤ 1 + k5; omega, by show (1 : Int) + k5 ≤ 500; omega⟩, ⟨by show (1 : Int) ≤ 1 + k6; omega, by show (1 : Int) + k6 ≤ 500; omega⟩, ⟨by show (1 : Int) ≤ 1 + k7; omega, by show (1 : Int) + k7 ≤ 500; omega⟩, ⟨by show (0 : Int) ≤ k8; omega, by show (k8 : Int) ≤ 20; omega⟩, ⟨by show (0 : Int) ≤ ((pick x9 101 : Nat) : Int); omega, by show ((pick x9 101 : Nat) : Int) ≤ 100; omega⟩, ?_, ?_⟩, by show (1 : Int) + k0 ≤ 8; omega, by show (1 : Int) + k5 ≤ 5; omega, by show (1 : Int) + k6 ≤ 6; omega, by show (1 : Int) + k7 ≤ 4; omega, by show (k8 : Int) ≤ 3; omega, rfl⟩, fun w => ?_⟩
  · show Bk.BudOk (bn : Int) (bd : Int) (bb : Int)
    exact ⟨by omega, by omega, by omega⟩
  · show Hl.WatOk (wn : Int) (wf : Int) (wh : Int)
    exact ⟨by omega, by omega, by omega⟩
  obtain ⟨m9, hm9⟩ : ∃ m9, m9 = pick x9 101 := ⟨_, rfl⟩
  rw [← hm9] at p9 b9 ⊢
  clear hm9 hc1 w0 w1 w2 w3 w4 w5 w6 w7 w8 w9 w10 w11 w12 w13 w14 w15
  have e11 : IntKind.i64.wrap (1 + (k0 : Int)) = 1 + (k0 : Int) := wrap_small (by omega) (by omega)
  have e16 : IntKind.i64.wrap (20 - (1 + (k2 : Int))) = 20 - (1 + (k2 : Int)) := wrap_small (by omega) (by omega)
  have e17 : IntKind.i64.wrap (20 - (1 + (k2 : Int)) + 1) = 20 - (1 + (k2 : Int)) + 1 := wrap_small (by omega) (by omega)
  have e19 : IntKind.i64.wrap (1 + (k2 : Int) + (k1 : Int)) = 1 + (k2 : Int) + (k1 : Int) := wrap_small (by omega) (by omega)
  have e30 : IntKind.i64.wrap (1 + (k5 : Int)) = 1 + (k5 : Int) := wrap_small (by omega) (by omega)
  have e34 : IntKind.i64.wrap (1 + (k6 : Int)) = 1 + (k6 : Int) := wrap_small (by omega) (by omega)
  have e38 : IntKind.i64.wrap (1 + (k7 : Int)) = 1 + (k7 : Int) := wrap_small (by omega) (by omega)
  obtain ⟨W0, hW0⟩ : ∃ W0, W0 = (w.alloc (stO x0 x1 x2 x3 x4 x5 x6 x7 x8 x9 x10 x11 x12 x13 x14 x15)).alloc (cfO cf0) := ⟨_, rfl⟩
  have hb0 : Below w.heap.size w W0 := by rw [hW0]; exact (below_new w).trans ((below_new _).mono (by simp))
  have hR0 : W0.heap[w.heap.size]? = some (stO x0 x1 x2 x3 x4 x5 x6 x7 x8 x9 x10 x11 x12 x13 x14 x15) := by rw [hW0]; exact heap_old _ _ (heap_alloc_new _ _)
  have hR1 : W0.heap[w.heap.size + 1]? = some (cfO cf0) := by rw [hW0]; exact heap_second _ _ _
  obtain ⟨b, hb⟩ : ∃ b, b = w.heap.size := ⟨_, rfl⟩
  obtain ⟨g, hg⟩ : ∃ g, g = w.heap.size + 1 := ⟨_, rfl⟩
  rw [← hb] at hR0
  rw [← hg] at hR1
  obtain ⟨a0, a1, a2, a3, a4, a5, a6, a7, a8, a9, a10, a11, a12, a13, a14, a15, alt⟩ := st_cells hR0
  have HP : Hid (_ ∧ _ ∧ _ ∧ _ ∧ _ ∧ _ ∧ _ ∧ _ ∧ _ ∧ _) := ⟨p0, p1, p2, p3, p4, p5, p6, p7, p8, p9⟩
  have hgw : w.heap.size ≤ g := by omega
  have HV : Hid (_ ∧ _ ∧ _ ∧ _ ∧ _ ∧ _ ∧ _) := ⟨hb0, hR0, hR1, hW0, hb, hg, hgw⟩
  have HS : Hid (∀ X, Below W0.heap.size W0 X → X.cell? ⟨b, 0, none⟩ = some (.int .i64 x0) ∧ X.cell? ⟨b, 1, none⟩ = some (.int .i64 x1) ∧ X.cell? ⟨b, 2, none⟩ = some (.int .i64 x2) ∧ X.cell? ⟨b, 3, none⟩ = some (.int .i64 x3) ∧ X.cell? ⟨b, 4, none⟩ = some (.int .i64 x4) ∧ X.cell? ⟨b, 5, none⟩ = some (.int .i64 x5) ∧ X.cell? ⟨b, 6, none⟩ = some (.int .i64 x6) ∧ X.cell? ⟨b, 7, none⟩ = some (.int .i64 x7) ∧ X.cell? ⟨b, 8, none⟩ = some (.int .i64 x8) ∧ X.cell? ⟨b, 9, none⟩ = some (.int .i64 x9) ∧ X.cell? ⟨b, 10, none⟩ = some (.int .i64 x10) ∧ X.cell? ⟨b, 11, none⟩ = some (.int .i64 x11) ∧ X.cell? ⟨b, 12, none⟩ = some (.int .i64 x12) ∧ X.cell? ⟨b, 13, none⟩ = some (.int .i64 x13) ∧ X.cell? ⟨b, 14, none⟩ = some (.int .i64 x14) ∧ X.cell? ⟨b, 15, none⟩ = some (.int .i64 x15)) := fun X hX => by
    obtain ⟨q0, q1, q2, q3, q4, q5, q6, q7, q8, q9, q10, q11, q12, q13, q14, q15, _⟩ := st_cells (box_below hR0 hX)
    exact ⟨q0, q1, q2, q3, q4, q5, q6, q7, q8, q9, q10, q11, q12, q13, q14, q15⟩
  have HB : Hid _ := pb
  have HW : Hid _ := pw
  have hrem : ∀ X : World, (binOp .rem 3 (.int .i64 x15) (.int .i64 20)).run Try.prog X = .ok (.int .i64 (x15.tmod 20)) X := fun X => by go_simp
  clear p0 p1 p2 p3 p4 p5 p6 p7 p8 p9 hb0 hR0 hR1 hW0 pb pw hb hg hgw
  go_enter Try.func11, Try.ntmps11
  go_wp2_with fail
  rw [show (#[.int .i64 0, .int .i64 0, .int .i64 0, .int .i64 0, .int .i64 0, .int .i64 0, .int .i64 0, .int .i64 0, .int .i64 0, .int .i64 0, .int .i64 0, .int .i64 0, .int .i64 0, .int .i64 0, .int .i64 0, .int .i64 0] : Array Value) = #[.int .i64 cf0.flows, .int .i64 cf0.num, .int .i64 cf0.den, .int .i64 cf0.tries, .int .i64 cf0.warm, .int .i64 cf0.drain, .int .i64 cf0.idle, .int .i64 cf0.conn, .int .i64 cf0.ret, .int .i64 cf0.most, .int .i64 cf0.bn, .int .i64 cf0.bd, .int .i64 cf0.bb, .int .i64 cf0.wn, .int .i64 cf0.wf, .int .i64 cf0.wh] from rfl, ← HV.out.2.2.2.1, ← HV.out.2.2.2.2.2.1, ← HV.out.2.2.2.2.1]
  refine (HP.out.2.2.1 _).mono ?_
  rintro r v1 ⟨rfl, hv1⟩
  subst hv1
  go_wp2
  have hb1 : Below v1.heap.size v1 v1.drew := (Below.refl _ _).drew
  refine wp_region_held_drew (S := fun W => W.cell? ⟨b, 0, none⟩ = some (.int .i64 x0) ∧ W.cell? ⟨b, 1, none⟩ = some (.int .i64 x1) ∧ W.cell? ⟨b, 2, none⟩ = some (.int .i64 x2) ∧ W.cell? ⟨b, 3, none⟩ = some (.int .i64 x3) ∧ W.cell? ⟨b, 4, none⟩ = some (.int .i64 x4) ∧ W.cell? ⟨b, 5, none⟩ = some (.int .i64 x5) ∧ W.cell? ⟨b, 6, none⟩ = some (.int .i64 x6) ∧ W.cell? ⟨b, 7, none⟩ = some (.int .i64 x7) ∧ W.cell? ⟨b, 8, none⟩ = some (.int .i64 x8) ∧ W.cell? ⟨b, 9, none⟩ = some (.int .i64 x9) ∧ W.cell? ⟨b, 10, none⟩ = some (.int .i64 x10) ∧ W.cell? ⟨b, 11, none⟩ = some (.int .i64 x11) ∧ W.cell? ⟨b, 12, none⟩ = some (.int .i64 x12) ∧ W.cell? ⟨b, 13, none⟩ = some (.int .i64 x13) ∧ W.cell? ⟨b, 14, none⟩ = some (.int .i64 x14) ∧ W.cell? ⟨b, 15, none⟩ = some (.int .i64 x15)) (by kernel_rfl) (HS.out _ hb1) (fun hHeld => ?_)
  refine wpAnyH_take (i := 0) (oi := _) (v := .pointer (some ⟨b, 0, none⟩)) rfl (by kernel_rfl) (by kernel_rfl) (by kernel_rfl) (fun _ _ _ h => h) (Or.inl ⟨by rfl, fun X hSw => by obtain ⟨s0, s1, s2, s3, s4, s5, s6, s7, s8, s9, s10, s11, s12, s13, s14, s15⟩ := hSw; go_simp⟩) hHeld ?_
  simp only [Act.put, List.setIfInBounds_toArray, List.set_cons_zero, List.set_cons_succ]
  refine wpAnyH_take (i := 1) (oi := _) (v := .int .i64 (x0)) rfl (by kernel_rfl) (by kernel_rfl) (by kernel_rfl) (fun _ _ _ h => h) (Or.inl ⟨by rfl, fun X hSw => by obtain ⟨s0, s1, s2, s3, s4, s5, s6, s7, s8, s9, s10, s11, s12, s13, s14, s15⟩ := hSw; go_simp⟩) hHeld ?_
  simp only [Act.put, List.setIfInBounds_toArray, List.set_cons_zero, List.set_cons_succ]
  refine wpAnyH_take (i := 4) (oi := _) (v := .int .i64 (1 + (k2 : Int))) rfl (by kernel_rfl) (by kernel_rfl) (by kernel_rfl) (fun _ _ _ h => h) (Or.inl ⟨by rfl, fun X hSw => by obtain ⟨s0, s1, s2, s3, s4, s5, s6, s7, s8, s9, s10, s11, s12, s13, s14, s15⟩ := hSw; go_simp⟩) hHeld ?_
  simp only [Act.put, List.setIfInBounds_toArray, List.set_cons_zero, List.set_cons_succ]
  refine wpAnyH_take (i := 5) (oi := _) (v := .pointer (some ⟨b, 1, none⟩)) rfl (by kernel_rfl) (by kernel_rfl) (by kernel_rfl) (fun _ _ _ h => h) (Or.inl ⟨by rfl, fun X hSw => by obtain ⟨s0, s1, s2, s3, s4, s5, s6, s7, s8, s9, s10, s11, s12, s13, s14, s15⟩ := hSw; go_simp⟩) hHeld ?_
  simp only [Act.put, List.setIfInBounds_toArray, List.set_cons_zero, List.set_cons_succ]
  refine wpAnyH_take (i := 6) (oi := _) (v := .int .i64 (x1)) rfl (by kernel_rfl) (by kernel_rfl) (by kernel_rfl) (fun _ _ _ h => h) (Or.inl ⟨by rfl, fun X hSw => by obtain ⟨s0, s1, s2, s3, s4, s5, s6, s7, s8, s9, s10, s11, s12, s13, s14, s15⟩ := hSw; go_simp⟩) hHeld ?_
  simp only [Act.put, List.setIfInBounds_toArray, List.set_cons_zero, List.set_cons_succ]
  refine wpAnyH_take (i := 7) (oi := _) (v := .int .i64 (1 + (k2 : Int))) rfl (by kernel_rfl) (by kernel_rfl) (by kernel_rfl) (fun _ _ _ h => h) (Or.inl ⟨by rfl, fun X hSw => by obtain ⟨s0, s1, s2, s3, s4, s5, s6, s7, s8, s9, s10, s11, s12, s13, s14, s15⟩ := hSw; go_simp⟩) hHeld ?_
  simp only [Act.put, List.setIfInBounds_toArray, List.set_cons_zero, List.set_cons_succ]
  refine wpAnyH_take (i := 8) (oi := _) (v := .int .i64 (20 - (1 + (k2 : Int)))) rfl (by kernel_rfl) (by kernel_rfl) (by kernel_rfl) (fun _ _ _ h => h) (Or.inl ⟨by rfl, fun X hSw => by obtain ⟨s0, s1, s2, s3, s4, s5, s6, s7, s8, s9, s10, s11, s12, s13, s14, s15⟩ := hSw; go_simp⟩) hHeld ?_
  simp only [Act.put, List.setIfInBounds_toArray, List.set_cons_zero, List.set_cons_succ]
  refine wpAnyH_take (i := 9) (oi := _) (v := .int .i64 (20 - (1 + (k2 : Int)) + 1)) rfl (by kernel_rfl) (by kernel_rfl) (by kernel_rfl) (fun _ _ _ h => h) (Or.inl ⟨by rfl, fun X hSw => by obtain ⟨s0, s1, s2, s3, s4, s5, s6, s7, s8, s9, s10, s11, s12, s13, s14, s15⟩ := hSw; go_simp⟩) hHeld ?_
  simp only [Act.put, List.setIfInBounds_toArray, List.set_cons_zero, List.set_cons_succ]
  refine wpAnyH_take (i := 12) (oi := _) (v := .int .i64 (1 + (k2 : Int))) rfl (by kernel_rfl) (by kernel_rfl) (by kernel_rfl) (fun _ _ _ h => h) (Or.inl ⟨by rfl, fun X hSw => by obtain ⟨s0, s1, s2, s3, s4, s5, s6, s7, s8, s9, s10, s11, s12, s13, s14, s15⟩ := hSw; go_simp⟩) hHeld ?_
  simp only [Act.put, List.setIfInBounds_toArray, List.set_cons_zero, List.set_cons_succ]
  refine wpAnyH_take (i := 13) (oi := _) (v := .pointer (some ⟨b, 3, none⟩)) rfl (by kernel_rfl) (by kernel_rfl) (by kernel_rfl) (fun _ _ _ h => h) (Or.inl ⟨by rfl, fun X hSw => by obtain ⟨s0, s1, s2, s3, s4, s5, s6, s7, s8, s9, s10, s11, s12, s13, s14, s15⟩ := hSw; go_simp⟩) hHeld ?_
  simp only [Act.put, List.setIfInBounds_toArray, List.set_cons_zero, List.set_cons_succ]
  refine wpAnyH_take (i := 14) (oi := _) (v := .int .i64 (x3)) rfl (by kernel_rfl) (by kernel_rfl) (by kernel_rfl) (fun _ _ _ h => h) (Or.inl ⟨by rfl, fun X hSw => by obtain ⟨s0, s1, s2, s3, s4, s5, s6, s7, s8, s9, s10, s11, s12, s13, s14, s15⟩ := hSw; go_simp⟩) hHeld ?_
  simp only [Act.put, List.setIfInBounds_toArray, List.set_cons_zero, List.set_cons_succ]
  refine wpAnyH_take (i := 16) (oi := _) (v := .pointer (some ⟨b, 4, none⟩)) rfl (by kernel_rfl) (by kernel_rfl) (by kernel_rfl) (fun _ _ _ h => h) (Or.inl ⟨by rfl, fun X hSw => by obtain ⟨s0, s1, s2, s3, s4, s5, s6, s7, s8, s9, s10, s11, s12, s13, s14, s15⟩ := hSw; go_simp⟩) hHeld ?_
  simp only [Act.put, List.setIfInBounds_toArray, List.set_cons_zero, List.set_cons_succ]
  refine wpAnyH_take (i := 17) (oi := _) (v := .int .i64 (x4)) rfl (by kernel_rfl) (by kernel_rfl) (by kernel_rfl) (fun _ _ _ h => h) (Or.inl ⟨by rfl, fun X hSw => by obtain ⟨s0, s1, s2, s3, s4, s5, s6, s7, s8, s9, s10, s11, s12, s13, s14, s15⟩ := hSw; go_simp⟩) hHeld ?_
  simp only [Act.put, List.setIfInBounds_toArray, List.set_cons_zero, List.set_cons_succ]
  refine wpAnyH_take (i := 19) (oi := _) (v := .pointer (some ⟨b, 5, none⟩)) rfl (by kernel_rfl) (by kernel_rfl) (by kernel_rfl) (fun _ _ _ h => h) (Or.inl ⟨by rfl, fun X hSw => by obtain ⟨s0, s1, s2, s3, s4, s5, s6, s7, s8, s9, s10, s11, s12, s13, s14, s15⟩ := hSw; go_simp⟩) hHeld ?_
  simp only [Act.put, List.setIfInBounds_toArray, List.set_cons_zero, List.set_cons_succ]
  refine wpAnyH_take (i := 20) (oi := _) (v := .int .i64 (x5)) rfl (by kernel_rfl) (by kernel_rfl) (by kernel_rfl) (fun _ _ _ h => h) (Or.inl ⟨by rfl, fun X hSw => by obtain ⟨s0, s1, s2, s3, s4, s5, s6, s7, s8, s9, s10, s11, s12, s13, s14, s15⟩ := hSw; go_simp⟩) hHeld ?_
  simp only [Act.put, List.setIfInBounds_toArray, List.set_cons_zero, List.set_cons_succ]
  refine wpAnyH_take (i := 23) (oi := _) (v := .pointer (some ⟨b, 6, none⟩)) rfl (by kernel_rfl) (by kernel_rfl) (by kernel_rfl) (fun _ _ _ h => h) (Or.inl ⟨by rfl, fun X hSw => by obtain ⟨s0, s1, s2, s3, s4, s5, s6, s7, s8, s9, s10, s11, s12, s13, s14, s15⟩ := hSw; go_simp⟩) hHeld ?_
  simp only [Act.put, List.setIfInBounds_toArray, List.set_cons_zero, List.set_cons_succ]
  refine wpAnyH_take (i := 24) (oi := _) (v := .int .i64 (x6)) rfl (by kernel_rfl) (by kernel_rfl) (by kernel_rfl) (fun _ _ _ h => h) (Or.inl ⟨by rfl, fun X hSw => by obtain ⟨s0, s1, s2, s3, s4, s5, s6, s7, s8, s9, s10, s11, s12, s13, s14, s15⟩ := hSw; go_simp⟩) hHeld ?_
  simp only [Act.put, List.setIfInBounds_toArray, List.set_cons_zero, List.set_cons_succ]
  refine wpAnyH_take (i := 27) (oi := _) (v := .pointer (some ⟨b, 7, none⟩)) rfl (by kernel_rfl) (by kernel_rfl) (by kernel_rfl) (fun _ _ _ h => h) (Or.inl ⟨by rfl, fun X hSw => by obtain ⟨s0, s1, s2, s3, s4, s5, s6, s7, s8, s9, s10, s11, s12, s13, s14, s15⟩ := hSw; go_simp⟩) hHeld ?_
  simp only [Act.put, List.setIfInBounds_toArray, List.set_cons_zero, List.set_cons_succ]
  refine wpAnyH_take (i := 28) (oi := _) (v := .int .i64 (x7)) rfl (by kernel_rfl) (by kernel_rfl) (by kernel_rfl) (fun _ _ _ h => h) (Or.inl ⟨by rfl, fun X hSw => by obtain ⟨s0, s1, s2, s3, s4, s5, s6, s7, s8, s9, s10, s11, s12, s13, s14, s15⟩ := hSw; go_simp⟩) hHeld ?_
  simp only [Act.put, List.setIfInBounds_toArray, List.set_cons_zero, List.set_cons_succ]
  refine wpAnyH_take (i := 31) (oi := _) (v := .pointer (some ⟨b, 8, none⟩)) rfl (by kernel_rfl) (by kernel_rfl) (by kernel_rfl) (fun _ _ _ h => h) (Or.inl ⟨by rfl, fun X hSw => by obtain ⟨s0, s1, s2, s3, s4, s5, s6, s7, s8, s9, s10, s11, s12, s13, s14, s15⟩ := hSw; go_simp⟩) hHeld ?_
  simp only [Act.put, List.setIfInBounds_toArray, List.set_cons_zero, List.set_cons_succ]
  refine wpAnyH_take (i := 32) (oi := _) (v := .int .i64 (x8)) rfl (by kernel_rfl) (by kernel_rfl) (by kernel_rfl) (fun _ _ _ h => h) (Or.inl ⟨by rfl, fun X hSw => by obtain ⟨s0, s1, s2, s3, s4, s5, s6, s7, s8, s9, s10, s11, s12, s13, s14, s15⟩ := hSw; go_simp⟩) hHeld ?_
  simp only [Act.put, List.setIfInBounds_toArray, List.set_cons_zero, List.set_cons_succ]
  refine wpAnyH_take (i := 34) (oi := _) (v := .pointer (some ⟨b, 9, none⟩)) rfl (by kernel_rfl) (by kernel_rfl) (by kernel_rfl) (fun _ _ _ h => h) (Or.inl ⟨by rfl, fun X hSw => by obtain ⟨s0, s1, s2, s3, s4, s5, s6, s7, s8, s9, s10, s11, s12, s13, s14, s15⟩ := hSw; go_simp⟩) hHeld ?_
  simp only [Act.put, List.setIfInBounds_toArray, List.set_cons_zero, List.set_cons_succ]
  refine wpAnyH_take (i := 35) (oi := _) (v := .int .i64 (x9)) rfl (by kernel_rfl) (by kernel_rfl) (by kernel_rfl) (fun _ _ _ h => h) (Or.inl ⟨by rfl, fun X hSw => by obtain ⟨s0, s1, s2, s3, s4, s5, s6, s7, s8, s9, s10, s11, s12, s13, s14, s15⟩ := hSw; go_simp⟩) hHeld ?_
  simp only [Act.put, List.setIfInBounds_toArray, List.set_cons_zero, List.set_cons_succ]
  refine wpAnyH_take (i := 37) (oi := _) (v := .pointer (some ⟨b, 10, none⟩)) rfl (by kernel_rfl) (by kernel_rfl) (by kernel_rfl) (fun _ _ _ h => h) (Or.inl ⟨by rfl, fun X hSw => by obtain ⟨s0, s1, s2, s3, s4, s5, s6, s7, s8, s9, s10, s11, s12, s13, s14, s15⟩ := hSw; go_simp⟩) hHeld ?_
  simp only [Act.put, List.setIfInBounds_toArray, List.set_cons_zero, List.set_cons_succ]
  refine wpAnyH_take (i := 38) (oi := _) (v := .pointer (some ⟨b, 10, none⟩)) rfl (by kernel_rfl) (by kernel_rfl) (by kernel_rfl) (fun _ _ _ h => h) (Or.inl ⟨by rfl, fun X hSw => by obtain ⟨s0, s1, s2, s3, s4, s5, s6, s7, s8, s9, s10, s11, s12, s13, s14, s15⟩ := hSw; go_simp⟩) hHeld ?_
  simp only [Act.put, List.setIfInBounds_toArray, List.set_cons_zero, List.set_cons_succ]
  refine wpAnyH_take (i := 39) (oi := _) (v := .int .i64 (x10)) rfl (by kernel_rfl) (by kernel_rfl) (by kernel_rfl) (fun _ _ _ h => h) (Or.inl ⟨by rfl, fun X hSw => by obtain ⟨s0, s1, s2, s3, s4, s5, s6, s7, s8, s9, s10, s11, s12, s13, s14, s15⟩ := hSw; go_simp⟩) hHeld ?_
  simp only [Act.put, List.setIfInBounds_toArray, List.set_cons_zero, List.set_cons_succ]
  refine wpAnyH_take (i := 40) (oi := _) (v := .pointer (some ⟨b, 10, none⟩)) rfl (by kernel_rfl) (by kernel_rfl) (by kernel_rfl) (fun _ _ _ h => h) (Or.inl ⟨by rfl, fun X hSw => by obtain ⟨s0, s1, s2, s3, s4, s5, s6, s7, s8, s9, s10, s11, s12, s13, s14, s15⟩ := hSw; go_simp⟩) hHeld ?_
  simp only [Act.put, List.setIfInBounds_toArray, List.set_cons_zero, List.set_cons_succ]
  refine wpAnyH_take (i := 41) (oi := _) (v := .pointer (some ⟨b, 11, none⟩)) rfl (by kernel_rfl) (by kernel_rfl) (by kernel_rfl) (fun _ _ _ h => h) (Or.inl ⟨by rfl, fun X hSw => by obtain ⟨s0, s1, s2, s3, s4, s5, s6, s7, s8, s9, s10, s11, s12, s13, s14, s15⟩ := hSw; go_simp⟩) hHeld ?_
  simp only [Act.put, List.setIfInBounds_toArray, List.set_cons_zero, List.set_cons_succ]
  refine wpAnyH_take (i := 42) (oi := _) (v := .int .i64 (x11)) rfl (by kernel_rfl) (by kernel_rfl) (by kernel_rfl) (fun _ _ _ h => h) (Or.inl ⟨by rfl, fun X hSw => by obtain ⟨s0, s1, s2, s3, s4, s5, s6, s7, s8, s9, s10, s11, s12, s13, s14, s15⟩ := hSw; go_simp⟩) hHeld ?_
  simp only [Act.put, List.setIfInBounds_toArray, List.set_cons_zero, List.set_cons_succ]
  refine wpAnyH_take (i := 43) (oi := _) (v := .pointer (some ⟨b, 10, none⟩)) rfl (by kernel_rfl) (by kernel_rfl) (by kernel_rfl) (fun _ _ _ h => h) (Or.inl ⟨by rfl, fun X hSw => by obtain ⟨s0, s1, s2, s3, s4, s5, s6, s7, s8, s9, s10, s11, s12, s13, s14, s15⟩ := hSw; go_simp⟩) hHeld ?_
  simp only [Act.put, List.setIfInBounds_toArray, List.set_cons_zero, List.set_cons_succ]
  refine wpAnyH_take (i := 44) (oi := _) (v := .pointer (some ⟨b, 12, none⟩)) rfl (by kernel_rfl) (by kernel_rfl) (by kernel_rfl) (fun _ _ _ h => h) (Or.inl ⟨by rfl, fun X hSw => by obtain ⟨s0, s1, s2, s3, s4, s5, s6, s7, s8, s9, s10, s11, s12, s13, s14, s15⟩ := hSw; go_simp⟩) hHeld ?_
  simp only [Act.put, List.setIfInBounds_toArray, List.set_cons_zero, List.set_cons_succ]
  refine wpAnyH_take (i := 45) (oi := _) (v := .int .i64 (x12)) rfl (by kernel_rfl) (by kernel_rfl) (by kernel_rfl) (fun _ _ _ h => h) (Or.inl ⟨by rfl, fun X hSw => by obtain ⟨s0, s1, s2, s3, s4, s5, s6, s7, s8, s9, s10, s11, s12, s13, s14, s15⟩ := hSw; go_simp⟩) hHeld ?_
  simp only [Act.put, List.setIfInBounds_toArray, List.set_cons_zero, List.set_cons_succ]
  refine wpAnyH_take (i := 47) (oi := _) (v := .pointer (some ⟨b, 13, none⟩)) rfl (by kernel_rfl) (by kernel_rfl) (by kernel_rfl) (fun _ _ _ h => h) (Or.inl ⟨by rfl, fun X hSw => by obtain ⟨s0, s1, s2, s3, s4, s5, s6, s7, s8, s9, s10, s11, s12, s13, s14, s15⟩ := hSw; go_simp⟩) hHeld ?_
  simp only [Act.put, List.setIfInBounds_toArray, List.set_cons_zero, List.set_cons_succ]
  refine wpAnyH_take (i := 48) (oi := _) (v := .pointer (some ⟨b, 13, none⟩)) rfl (by kernel_rfl) (by kernel_rfl) (by kernel_rfl) (fun _ _ _ h => h) (Or.inl ⟨by rfl, fun X hSw => by obtain ⟨s0, s1, s2, s3, s4, s5, s6, s7, s8, s9, s10, s11, s12, s13, s14, s15⟩ := hSw; go_simp⟩) hHeld ?_
  simp only [Act.put, List.setIfInBounds_toArray, List.set_cons_zero, List.set_cons_succ]
  refine wpAnyH_take (i := 49) (oi := _) (v := .int .i64 (x13)) rfl (by kernel_rfl) (by kernel_rfl) (by kernel_rfl) (fun _ _ _ h => h) (Or.inl ⟨by rfl, fun X hSw => by obtain ⟨s0, s1, s2, s3, s4, s5, s6, s7, s8, s9, s10, s11, s12, s13, s14, s15⟩ := hSw; go_simp⟩) hHeld ?_
  simp only [Act.put, List.setIfInBounds_toArray, List.set_cons_zero, List.set_cons_succ]
  refine wpAnyH_take (i := 50) (oi := _) (v := .pointer (some ⟨b, 13, none⟩)) rfl (by kernel_rfl) (by kernel_rfl) (by kernel_rfl) (fun _ _ _ h => h) (Or.inl ⟨by rfl, fun X hSw => by obtain ⟨s0, s1, s2, s3, s4, s5, s6, s7, s8, s9, s10, s11, s12, s13, s14, s15⟩ := hSw; go_simp⟩) hHeld ?_
  simp only [Act.put, List.setIfInBounds_toArray, List.set_cons_zero, List.set_cons_succ]
  refine wpAnyH_take (i := 51) (oi := _) (v := .pointer (some ⟨b, 14, none⟩)) rfl (by kernel_rfl) (by kernel_rfl) (by kernel_rfl) (fun _ _ _ h => h) (Or.inl ⟨by rfl, fun X hSw => by obtain ⟨s0, s1, s2, s3, s4, s5, s6, s7, s8, s9, s10, s11, s12, s13, s14, s15⟩ := hSw; go_simp⟩) hHeld ?_
  simp only [Act.put, List.setIfInBounds_toArray, List.set_cons_zero, List.set_cons_succ]
  refine wpAnyH_take (i := 52) (oi := _) (v := .int .i64 (x14)) rfl (by kernel_rfl) (by kernel_rfl) (by kernel_rfl) (fun _ _ _ h => h) (Or.inl ⟨by rfl, fun X hSw => by obtain ⟨s0, s1, s2, s3, s4, s5, s6, s7, s8, s9, s10, s11, s12, s13, s14, s15⟩ := hSw; go_simp⟩) hHeld ?_
  simp only [Act.put, List.setIfInBounds_toArray, List.set_cons_zero, List.set_cons_succ]
  refine wpAnyH_take (i := 53) (oi := _) (v := .pointer (some ⟨b, 13, none⟩)) rfl (by kernel_rfl) (by kernel_rfl) (by kernel_rfl) (fun _ _ _ h => h) (Or.inl ⟨by rfl, fun X hSw => by obtain ⟨s0, s1, s2, s3, s4, s5, s6, s7, s8, s9, s10, s11, s12, s13, s14, s15⟩ := hSw; go_simp⟩) hHeld ?_
  simp only [Act.put, List.setIfInBounds_toArray, List.set_cons_zero, List.set_cons_succ]
  refine wpAnyH_take (i := 54) (oi := _) (v := .pointer (some ⟨b, 15, none⟩)) rfl (by kernel_rfl) (by kernel_rfl) (by kernel_rfl) (fun _ _ _ h => h) (Or.inl ⟨by rfl, fun X hSw => by obtain ⟨s0, s1, s2, s3, s4, s5, s6, s7, s8, s9, s10, s11, s12, s13, s14, s15⟩ := hSw; go_simp⟩) hHeld ?_
  simp only [Act.put, List.setIfInBounds_toArray, List.set_cons_zero, List.set_cons_succ]
  refine wpAnyH_take (i := 55) (oi := _) (v := .int .i64 (x15)) rfl (by kernel_rfl) (by kernel_rfl) (by kernel_rfl) (fun _ _ _ h => h) (Or.inl ⟨by rfl, fun X hSw => by obtain ⟨s0, s1, s2, s3, s4, s5, s6, s7, s8, s9, s10, s11, s12, s13, s14, s15⟩ := hSw; go_simp⟩) hHeld ?_
  simp only [Act.put, List.setIfInBounds_toArray, List.set_cons_zero, List.set_cons_succ]
  refine wpAnyH_take (i := 56) (oi := _) (v := .int .i64 (x15.tmod 20)) rfl (by kernel_rfl) (by kernel_rfl) (by kernel_rfl) (fun _ _ _ h => h) (Or.inl ⟨by rfl, fun X hSw => by obtain ⟨s0, s1, s2, s3, s4, s5, s6, s7, s8, s9, s10, s11, s12, s13, s14, s15⟩ := hSw; go_simp⟩) hHeld ?_
  simp only [Act.put, List.setIfInBounds_toArray, List.set_cons_zero, List.set_cons_succ]
  refine wpAnyH_ready (rs := [2]) (by kernel_rfl) (by simp) ?_
  refine AllReadyH.cons (o := _) rfl (fun K hK => ?_) AllReadyH.nil
  go_simp
  refine (HP.out.1 _).mono ?_
  rintro r u ⟨rfl, hu⟩
  subst hu
  go_wp2_with fail
  refine hK.out _ _ hHeld (fun hHeld => ?_)
  clear hK K
  try simp only [Act.put, List.setIfInBounds_toArray, List.set_cons_zero, List.set_cons_succ]
  refine wpAnyH_take (i := 3) (oi := _) (v := .int .i64 (1 + (k0 : Int))) rfl (by kernel_rfl) (by kernel_rfl) (by kernel_rfl) (fun _ _ _ h => h) (Or.inl ⟨by rfl, fun X hSw => by obtain ⟨s0, s1, s2, s3, s4, s5, s6, s7, s8, s9, s10, s11, s12, s13, s14, s15⟩ := hSw; go_simp⟩) hHeld ?_
  simp only [Act.put, List.setIfInBounds_toArray, List.set_cons_zero, List.set_cons_succ]
  refine wpAnyH_ready (rs := [10]) (by kernel_rfl) (by simp) ?_
  refine AllReadyH.cons (o := _) rfl (fun K hK => ?_) AllReadyH.nil
  go_simp
  refine (HP.out.2.1 _).mono ?_
  rintro r u ⟨rfl, hu⟩
  subst hu
  go_wp2_with fail
  refine hK.out _ _ hHeld (fun hHeld => ?_)
  clear hK K
  try simp only [Act.put, List.setIfInBounds_toArray, List.set_cons_zero, List.set_cons_succ]
  refine wpAnyH_take (i := 11) (oi := _) (v := .int .i64 (1 + (k2 : Int) + (k1 : Int))) rfl (by kernel_rfl) (by kernel_rfl) (by kernel_rfl) (fun _ _ _ h => h) (Or.inl ⟨by rfl, fun X hSw => by obtain ⟨s0, s1, s2, s3, s4, s5, s6, s7, s8, s9, s10, s11, s12, s13, s14, s15⟩ := hSw; go_simp⟩) hHeld ?_
  simp only [Act.put, List.setIfInBounds_toArray, List.set_cons_zero, List.set_cons_succ]
  refine wpAnyH_ready (rs := [15]) (by kernel_rfl) (by simp) ?_
  refine AllReadyH.cons (o := _) rfl (fun K hK => ?_) AllReadyH.nil
  go_simp
  refine (HP.out.2.2.2.1 _).mono ?_
  rintro r u ⟨rfl, hu⟩
  subst hu
  go_wp2_with fail
  refine hK.out _ _ hHeld (fun hHeld => ?_)
  clear hK K
  try simp only [Act.put, List.setIfInBounds_toArray, List.set_cons_zero, List.set_cons_succ]
  refine wpAnyH_ready (rs := [18]) (by kernel_rfl) (by simp) ?_
  refine AllReadyH.cons (o := _) rfl (fun K hK => ?_) AllReadyH.nil
  go_simp
  refine (HP.out.2.2.2.2.1 _).mono ?_
  rintro r u ⟨rfl, hu⟩
  subst hu
  go_wp2_with fail
  refine hK.out _ _ hHeld (fun hHeld => ?_)
  clear hK K
  try simp only [Act.put, List.setIfInBounds_toArray, List.set_cons_zero, List.set_cons_succ]
  refine wpAnyH_ready (rs := [21]) (by kernel_rfl) (by simp) ?_
  refine AllReadyH.cons (o := _) rfl (fun K hK => ?_) AllReadyH.nil
  go_simp
  refine (HP.out.2.2.2.2.2.1 _).mono ?_
  rintro r u ⟨rfl, hu⟩
  subst hu
  go_wp2_with fail
  refine hK.out _ _ hHeld (fun hHeld => ?_)
  clear hK K
  try simp only [Act.put, List.setIfInBounds_toArray, List.set_cons_zero, List.set_cons_succ]
  refine wpAnyH_take (i := 22) (oi := _) (v := .int .i64 (1 + (k5 : Int))) rfl (by kernel_rfl) (by kernel_rfl) (by kernel_rfl) (fun _ _ _ h => h) (Or.inl ⟨by rfl, fun X hSw => by obtain ⟨s0, s1, s2, s3, s4, s5, s6, s7, s8, s9, s10, s11, s12, s13, s14, s15⟩ := hSw; go_simp⟩) hHeld ?_
  simp only [Act.put, List.setIfInBounds_toArray, List.set_cons_zero, List.set_cons_succ]
  refine wpAnyH_ready (rs := [25]) (by kernel_rfl) (by simp) ?_
  refine AllReadyH.cons (o := _) rfl (fun K hK => ?_) AllReadyH.nil
  go_simp
  refine (HP.out.2.2.2.2.2.2.1 _).mono ?_
  rintro r u ⟨rfl, hu⟩
  subst hu
  go_wp2_with fail
  refine hK.out _ _ hHeld (fun hHeld => ?_)
  clear hK K
  try simp only [Act.put, List.setIfInBounds_toArray, List.set_cons_zero, List.set_cons_succ]
  refine wpAnyH_take (i := 26) (oi := _) (v := .int .i64 (1 + (k6 : Int))) rfl (by kernel_rfl) (by kernel_rfl) (by kernel_rfl) (fun _ _ _ h => h) (Or.inl ⟨by rfl, fun X hSw => by obtain ⟨s0, s1, s2, s3, s4, s5, s6, s7, s8, s9, s10, s11, s12, s13, s14, s15⟩ := hSw; go_simp⟩) hHeld ?_
  simp only [Act.put, List.setIfInBounds_toArray, List.set_cons_zero, List.set_cons_succ]
  refine wpAnyH_ready (rs := [29]) (by kernel_rfl) (by simp) ?_
  refine AllReadyH.cons (o := _) rfl (fun K hK => ?_) AllReadyH.nil
  go_simp
  refine (HP.out.2.2.2.2.2.2.2.1 _).mono ?_
  rintro r u ⟨rfl, hu⟩
  subst hu
  go_wp2_with fail
  refine hK.out _ _ hHeld (fun hHeld => ?_)
  clear hK K
  try simp only [Act.put, List.setIfInBounds_toArray, List.set_cons_zero, List.set_cons_succ]
  refine wpAnyH_take (i := 30) (oi := _) (v := .int .i64 (1 + (k7 : Int))) rfl (by kernel_rfl) (by kernel_rfl) (by kernel_rfl) (fun _ _ _ h => h) (Or.inl ⟨by rfl, fun X hSw => by obtain ⟨s0, s1, s2, s3, s4, s5, s6, s7, s8, s9, s10, s11, s12, s13, s14, s15⟩ := hSw; go_simp⟩) hHeld ?_
  simp only [Act.put, List.setIfInBounds_toArray, List.set_cons_zero, List.set_cons_succ]
  refine wpAnyH_ready (rs := [33]) (by kernel_rfl) (by simp) ?_
  refine AllReadyH.cons (o := _) rfl (fun K hK => ?_) AllReadyH.nil
  go_simp
  refine (HP.out.2.2.2.2.2.2.2.2.1 _).mono ?_
  rintro r u ⟨rfl, hu⟩
  subst hu
  go_wp2_with fail
  refine hK.out _ _ hHeld (fun hHeld => ?_)
  clear hK K
  try simp only [Act.put, List.setIfInBounds_toArray, List.set_cons_zero, List.set_cons_succ]
  refine wpAnyH_ready (rs := [36]) (by kernel_rfl) (by simp) ?_
  refine AllReadyH.cons (o := _) rfl (fun K hK => ?_) AllReadyH.nil
  go_simp
  refine (HP.out.2.2.2.2.2.2.2.2.2 _).mono ?_
  rintro r u ⟨rfl, hu⟩
  subst hu
  go_wp2_with fail
  refine hK.out _ _ hHeld (fun hHeld => ?_)
  clear hK K
  try simp only [Act.put, List.setIfInBounds_toArray, List.set_cons_zero, List.set_cons_succ]
  refine wpAnyH_ready (rs := [46]) (by kernel_rfl) (by simp) ?_
  refine AllReadyH.cons (o := _) rfl (fun K hK => ?_) AllReadyH.nil
  go_simp
  refine (HB.out _).mono ?_
  rintro r u2 ⟨rfl, hu2⟩
  have hb2 := hb1.trans (hu2.mono hb1.size)
  clear hu2
  go_wp2_with fail
  refine hK.out _ _ (HS.out _ hb2) (fun hHeld => ?_)
  clear hK K
  try simp only [Act.put, List.setIfInBounds_toArray, List.set_cons_zero, List.set_cons_succ]
  refine wpAnyH_ready (rs := [57]) (by kernel_rfl) (by simp) ?_
  refine AllReadyH.cons (o := _) rfl (fun K hK => ?_) AllReadyH.nil
  go_simp
  refine (HW.out _).mono ?_
  rintro r u3 ⟨rfl, hu3⟩
  have hb3 := hb2.trans (hu3.mono hb2.size)
  clear hu3
  go_wp2_with fail
  refine hK.out _ _ (HS.out _ hb3) (fun hHeld => ?_)
  clear hK K
  try simp only [Act.put, List.setIfInBounds_toArray, List.set_cons_zero, List.set_cons_succ]
  refine wpAnyH_take (i := 58) (oi := _) (v := .agg #[.int .i64 (1 + (k0 : Int)), .int .i64 (1 + (k2 : Int) + (k1 : Int)), .int .i64 (1 + (k2 : Int)), .int .i64 ((k3 : Int)), .int .i64 ((k4 : Int)), .int .i64 (1 + (k5 : Int)), .int .i64 (1 + (k6 : Int)), .int .i64 (1 + (k7 : Int)), .int .i64 ((k8 : Int)), .int .i64 ((m9 : Int)), .int .i64 ((bn : Int)), .int .i64 ((bd : Int)), .int .i64 ((bb : Int)), .int .i64 ((wn : Int)), .int .i64 ((wf : Int)), .int .i64 ((wh : Int))]) rfl (by kernel_rfl) (by kernel_rfl) (by kernel_rfl) (fun _ _ _ h => h) (Or.inl ⟨by rfl, fun X hSw => by obtain ⟨s0, s1, s2, s3, s4, s5, s6, s7, s8, s9, s10, s11, s12, s13, s14, s15⟩ := hSw; go_simp⟩) hHeld ?_
  simp only [Act.put, List.setIfInBounds_toArray, List.set_cons_zero, List.set_cons_succ]
  simp only [List.getElem_toArray, List.getElem_cons_succ, List.getElem_cons_zero, List.set_cons_zero, List.set_cons_succ]
  have hR1 := box_below HV.out.2.2.1 hb3
  have hB7 := HV.out.1.trans (hb3.mono HV.out.1.size)
  have hth := box_there (cs := [.int .i64 cf0.flows, .int .i64 cf0.num, .int .i64 cf0.den, .int .i64 cf0.tries, .int .i64 cf0.warm, .int .i64 cf0.drain, .int .i64 cf0.idle, .int .i64 cf0.conn, .int .i64 cf0.ret, .int .i64 cf0.most, .int .i64 cf0.bn, .int .i64 cf0.bd, .int .i64 cf0.bb, .int .i64 cf0.wn, .int .i64 cf0.wf, .int .i64 cf0.wh]) hR1
  have hst := box_stored (cs := [.int .i64 cf0.flows, .int .i64 cf0.num, .int .i64 cf0.den, .int .i64 cf0.tries, .int .i64 cf0.warm, .int .i64 cf0.drain, .int .i64 cf0.idle, .int .i64 cf0.conn, .int .i64 cf0.ret, .int .i64 cf0.most, .int .i64 cf0.bn, .int .i64 cf0.bd, .int .i64 cf0.bb, .int .i64 cf0.wn, .int .i64 cf0.wf, .int .i64 cf0.wh]) (vs := [.int .i64 (1 + (k0 : Int)), .int .i64 (1 + (k2 : Int) + (k1 : Int)), .int .i64 (1 + (k2 : Int)), .int .i64 ((k3 : Int)), .int .i64 ((k4 : Int)), .int .i64 (1 + (k5 : Int)), .int .i64 (1 + (k6 : Int)), .int .i64 (1 + (k7 : Int)), .int .i64 ((k8 : Int)), .int .i64 ((m9 : Int)), .int .i64 ((bn : Int)), .int .i64 ((bd : Int)), .int .i64 ((bb : Int)), .int .i64 ((wn : Int)), .int .i64 ((wf : Int)), .int .i64 ((wh : Int))]) hR1 rfl
  have hbl := below_setCells hB7 HV.out.2.2.2.2.2.2 0 [.int .i64 (1 + (k0 : Int)), .int .i64 (1 + (k2 : Int) + (k1 : Int)), .int .i64 (1 + (k2 : Int)), .int .i64 ((k3 : Int)), .int .i64 ((k4 : Int)), .int .i64 (1 + (k5 : Int)), .int .i64 (1 + (k6 : Int)), .int .i64 (1 + (k7 : Int)), .int .i64 ((k8 : Int)), .int .i64 ((m9 : Int)), .int .i64 ((bn : Int)), .int .i64 ((bd : Int)), .int .i64 ((bb : Int)), .int .i64 ((wn : Int)), .int .i64 ((wf : Int)), .int .i64 ((wh : Int))] hB7.size
  obtain ⟨u9, hu9⟩ : ∃ u9, u9 = u3.setCells g 0 [.int .i64 (1 + (k0 : Int)), .int .i64 (1 + (k2 : Int) + (k1 : Int)), .int .i64 (1 + (k2 : Int)), .int .i64 ((k3 : Int)), .int .i64 ((k4 : Int)), .int .i64 (1 + (k5 : Int)), .int .i64 (1 + (k6 : Int)), .int .i64 (1 + (k7 : Int)), .int .i64 ((k8 : Int)), .int .i64 ((m9 : Int)), .int .i64 ((bn : Int)), .int .i64 ((bd : Int)), .int .i64 ((bb : Int)), .int .i64 ((wn : Int)), .int .i64 ((wf : Int)), .int .i64 ((wh : Int))] := ⟨_, rfl⟩
  rw [← hu9] at hst hbl
  have HZ : Hid (_ ∧ _) := ⟨hst, hbl⟩
  clear hst hbl hR1 hB7
  have hS9 : u9.cell? ⟨b, 0, none⟩ = some (.int .i64 x0) ∧ u9.cell? ⟨b, 1, none⟩ = some (.int .i64 x1) ∧ u9.cell? ⟨b, 2, none⟩ = some (.int .i64 x2) ∧ u9.cell? ⟨b, 3, none⟩ = some (.int .i64 x3) ∧ u9.cell? ⟨b, 4, none⟩ = some (.int .i64 x4) ∧ u9.cell? ⟨b, 5, none⟩ = some (.int .i64 x5) ∧ u9.cell? ⟨b, 6, none⟩ = some (.int .i64 x6) ∧ u9.cell? ⟨b, 7, none⟩ = some (.int .i64 x7) ∧ u9.cell? ⟨b, 8, none⟩ = some (.int .i64 x8) ∧ u9.cell? ⟨b, 9, none⟩ = some (.int .i64 x9) ∧ u9.cell? ⟨b, 10, none⟩ = some (.int .i64 x10) ∧ u9.cell? ⟨b, 11, none⟩ = some (.int .i64 x11) ∧ u9.cell? ⟨b, 12, none⟩ = some (.int .i64 x12) ∧ u9.cell? ⟨b, 13, none⟩ = some (.int .i64 x13) ∧ u9.cell? ⟨b, 14, none⟩ = some (.int .i64 x14) ∧ u9.cell? ⟨b, 15, none⟩ = some (.int .i64 x15) := by
    rw [hu9]
    have hne : b ≠ g := by rw [HV.out.2.2.2.2.1, HV.out.2.2.2.2.2.1]; omega
    have hlt : b < u3.heap.size := (st_cells (box_below HV.out.2.1 hb3)).2.2.2.2.2.2.2.2.2.2.2.2.2.2.2.2
    have hk : ∀ k v, u3.cell? ⟨b, k, none⟩ = some v → (u3.setCells g 0 [.int .i64 (1 + (k0 : Int)), .int .i64 (1 + (k2 : Int) + (k1 : Int)), .int .i64 (1 + (k2 : Int)), .int .i64 ((k3 : Int)), .int .i64 ((k4 : Int)), .int .i64 (1 + (k5 : Int)), .int .i64 (1 + (k6 : Int)), .int .i64 (1 + (k7 : Int)), .int .i64 ((k8 : Int)), .int .i64 ((m9 : Int)), .int .i64 ((bn : Int)), .int .i64 ((bd : Int)), .int .i64 ((bb : Int)), .int .i64 ((wn : Int)), .int .i64 ((wf : Int)), .int .i64 ((wh : Int))]).cell? ⟨b, k, none⟩ = some v := fun k v h => (World.cell?_of_block (World.heap_setCells_other _ _ _ _ hlt hne)).trans h
    obtain ⟨s0, s1, s2, s3, s4, s5, s6, s7, s8, s9, s10, s11, s12, s13, s14, s15⟩ := hHeld
    exact ⟨hk _ _ s0, hk _ _ s1, hk _ _ s2, hk _ _ s3, hk _ _ s4, hk _ _ s5, hk _ _ s6, hk _ _ s7, hk _ _ s8, hk _ _ s9, hk _ _ s10, hk _ _ s11, hk _ _ s12, hk _ _ s13, hk _ _ s14, hk _ _ s15⟩
  refine wpAnyH_ready (rs := [59]) (by kernel_rfl) (by simp) ?_
  refine AllReadyH.cons (o := _) rfl (fun K hK => ?_) AllReadyH.nil
  rw [if_pos (by rfl)]
  refine wp_store_mid _ _ _ rfl _ _ #[.int .i64 (1 + (k0 : Int)), .int .i64 (1 + (k2 : Int) + (k1 : Int)), .int .i64 (1 + (k2 : Int)), .int .i64 ((k3 : Int)), .int .i64 ((k4 : Int)), .int .i64 (1 + (k5 : Int)), .int .i64 (1 + (k6 : Int)), .int .i64 (1 + (k7 : Int)), .int .i64 ((k8 : Int)), .int .i64 ((m9 : Int)), .int .i64 ((bn : Int)), .int .i64 ((bd : Int)), .int .i64 ((bb : Int)), .int .i64 ((wn : Int)), .int .i64 ((wf : Int)), .int .i64 ((wh : Int))] rfl rfl hth (by kernel_rfl) (all_ints [1 + (k0 : Int), 1 + (k2 : Int) + (k1 : Int), 1 + (k2 : Int), (k3 : Int), (k4 : Int), 1 + (k5 : Int), 1 + (k6 : Int), 1 + (k7 : Int), (k8 : Int), (m9 : Int), (bn : Int), (bd : Int), (bb : Int), (wn : Int), (wf : Int), (wh : Int)]) ?_
  rw [show Array.toList (#[.int .i64 (1 + (k0 : Int)), .int .i64 (1 + (k2 : Int) + (k1 : Int)), .int .i64 (1 + (k2 : Int)), .int .i64 ((k3 : Int)), .int .i64 ((k4 : Int)), .int .i64 (1 + (k5 : Int)), .int .i64 (1 + (k6 : Int)), .int .i64 (1 + (k7 : Int)), .int .i64 ((k8 : Int)), .int .i64 ((m9 : Int)), .int .i64 ((bn : Int)), .int .i64 ((bd : Int)), .int .i64 ((bb : Int)), .int .i64 ((wn : Int)), .int .i64 ((wf : Int)), .int .i64 ((wh : Int))] : Array Value) = [.int .i64 (1 + (k0 : Int)), .int .i64 (1 + (k2 : Int) + (k1 : Int)), .int .i64 (1 + (k2 : Int)), .int .i64 ((k3 : Int)), .int .i64 ((k4 : Int)), .int .i64 (1 + (k5 : Int)), .int .i64 (1 + (k6 : Int)), .int .i64 (1 + (k7 : Int)), .int .i64 ((k8 : Int)), .int .i64 ((m9 : Int)), .int .i64 ((bn : Int)), .int .i64 ((bd : Int)), .int .i64 ((bb : Int)), .int .i64 ((wn : Int)), .int .i64 ((wf : Int)), .int .i64 ((wh : Int))] from rfl, ← hu9]
  refine hK.out _ _ hS9 (fun hHeld => ?_)
  clear hK K hu9 hS9 hth
  try simp only [Act.put, List.setIfInBounds_toArray, List.set_cons_zero, List.set_cons_succ]
  refine wpAnyH_done (by kernel_rfl) ?_ _
  go_wp2
  try simp only [Act.put, List.setIfInBounds_toArray, List.set_cons_zero, List.set_cons_succ]
  exact bodyPost_ret (v := .agg #[.int .i64 (1 + (k0 : Int)), .int .i64 (1 + (k2 : Int) + (k1 : Int)), .int .i64 (1 + (k2 : Int)), .int .i64 ((k3 : Int)), .int .i64 ((k4 : Int)), .int .i64 (1 + (k5 : Int)), .int .i64 (1 + (k6 : Int)), .int .i64 (1 + (k7 : Int)), .int .i64 ((k8 : Int)), .int .i64 ((m9 : Int)), .int .i64 ((bn : Int)), .int .i64 ((bd : Int)), .int .i64 ((bb : Int)), .int .i64 ((wn : Int)), .int .i64 ((wf : Int)), .int .i64 ((wh : Int))]) (results_c Try.results11 rfl (load_row (P := Try.prog) (cs := [.int .i64 (1 + (k0 : Int)), .int .i64 (1 + (k2 : Int) + (k1 : Int)), .int .i64 (1 + (k2 : Int)), .int .i64 ((k3 : Int)), .int .i64 ((k4 : Int)), .int .i64 (1 + (k5 : Int)), .int .i64 (1 + (k6 : Int)), .int .i64 (1 + (k7 : Int)), .int .i64 ((k8 : Int)), .int .i64 ((m9 : Int)), .int .i64 ((bn : Int)), .int .i64 ((bd : Int)), .int .i64 ((bb : Int)), .int .i64 ((wn : Int)), .int .i64 ((wf : Int)), .int .i64 ((wh : Int))]) HZ.out.1 Try.underlying27 rfl (by kernel_rfl))) rfl ⟨rfl, HZ.out.2⟩
end Go.Proofs.Ytbabcpdcgncigaa.Walks
