/-
  within, isWait, isRight, Check; the document's ConfigFault. No condition.
-/
import Derived.Test.YtbabcpdcgncigaaCfg
import Derived.WalkKit
import Derived.ProofKit
import Derived.Handy
import Derived.LoopTactic
import Derived.Below
import Derived.Laws.BitsAllLaws
import Derived.RegionTactic
import Derived.Deep.RegionHeld3
import Derived.Deep.DrawnRows
import Derived.Deep.AppendLies
import Derived.Laws.OwnMore
import Derived.Deep.Onto
import Derived.Deep.QuietTactic
import Derived.BigQuiet
namespace Go.Proofs.Ytbabcpdcgncigaa.Walks
open Go.RowKit
set_option linter.unusedVariables false
set_option linter.unusedSimpArgs false
attribute [local go_sem ↓] Go.wp_at_zero Go.wp_at_succ

abbrev cfA (c : Cf) : Value := .agg #[.int .i64 c.flows, .int .i64 c.num, .int .i64 c.den, .int .i64 c.tries, .int .i64 c.warm, .int .i64 c.drain, .int .i64 c.idle, .int .i64 c.conn, .int .i64 c.ret, .int .i64 c.most, .int .i64 c.bn, .int .i64 c.bd, .int .i64 c.bb, .int .i64 c.wn, .int .i64 c.wf, .int .i64 c.wh]

abbrev cfO (c : Cf) : Obj := .cells #[.int .i64 c.flows, .int .i64 c.num, .int .i64 c.den, .int .i64 c.tries, .int .i64 c.warm, .int .i64 c.drain, .int .i64 c.idle, .int .i64 c.conn, .int .i64 c.ret, .int .i64 c.most, .int .i64 c.bn, .int .i64 c.bd, .int .i64 c.bb, .int .i64 c.wn, .int .i64 c.wf, .int .i64 c.wh] 27

theorem cf_cells {w : World} {g : Nat} {c : Cf} (h : w.heap[g]? = some (cfO c)) : w.cell? ⟨g, 0, none⟩ = some (.int .i64 c.flows) ∧ w.cell? ⟨g, 1, none⟩ = some (.int .i64 c.num) ∧ w.cell? ⟨g, 2, none⟩ = some (.int .i64 c.den) ∧ w.cell? ⟨g, 3, none⟩ = some (.int .i64 c.tries) ∧ w.cell? ⟨g, 4, none⟩ = some (.int .i64 c.warm) ∧ w.cell? ⟨g, 5, none⟩ = some (.int .i64 c.drain) ∧ w.cell? ⟨g, 6, none⟩ = some (.int .i64 c.idle) ∧ w.cell? ⟨g, 7, none⟩ = some (.int .i64 c.conn) ∧ w.cell? ⟨g, 8, none⟩ = some (.int .i64 c.ret) ∧ w.cell? ⟨g, 9, none⟩ = some (.int .i64 c.most) ∧ w.cell? ⟨g, 10, none⟩ = some (.int .i64 c.bn) ∧ w.cell? ⟨g, 11, none⟩ = some (.int .i64 c.bd) ∧ w.cell? ⟨g, 12, none⟩ = some (.int .i64 c.bb) ∧ w.cell? ⟨g, 13, none⟩ = some (.int .i64 c.wn) ∧ w.cell? ⟨g, 14, none⟩ = some (.int .i64 c.wf) ∧ w.cell? ⟨g, 15, none⟩ = some (.int .i64 c.wh) ∧ g < w.heap.size :=
  ⟨by simp [World.cell?, h], by simp [World.cell?, h], by simp [World.cell?, h], by simp [World.cell?, h], by simp [World.cell?, h], by simp [World.cell?, h], by simp [World.cell?, h], by simp [World.cell?, h], by simp [World.cell?, h], by simp [World.cell?, h], by simp [World.cell?, h], by simp [World.cell?, h], by simp [World.cell?, h], by simp [World.cell?, h], by simp [World.cell?, h], by simp [World.cell?, h], (Array.getElem?_eq_some_iff.1 h).1⟩

set_option maxHeartbeats 1000000 in
theorem within_any (n lo hi : Int) (w : World) : Calls Try.prog 31 #[.int .i64 n, .int .i64 lo, .int .i64 hi] w fun r w' => r = .returned (.bool (decide (lo ≤ n ∧ n ≤ hi))) ∧ w' = w := by
  obtain ⟨ans, hans⟩ : ∃ ans, ans = decide (lo ≤ n ∧ n ≤ hi) := ⟨_, rfl⟩
  rw [← hans]
  have H : Hid _ := hans
  clear hans
  cases h1 : decide (lo ≤ n)
  · go_enter Try.func31, Try.ntmps31
    go_wp2
    go_ret
    exact ⟨by rw [H.out, decide_eq_false (fun h => of_decide_eq_false h1 h.1)]; rfl, rfl⟩
  · cases h2 : decide (n ≤ hi)
    · go_enter Try.func31, Try.ntmps31
      go_wp2
      go_ret
      exact ⟨by rw [H.out, decide_eq_false (fun h => of_decide_eq_false h2 h.2)]; rfl, rfl⟩
    · go_enter Try.func31, Try.ntmps31
      go_wp2
      go_ret
      exact ⟨by rw [H.out, decide_eq_true ⟨of_decide_eq_true h1, of_decide_eq_true h2⟩]; rfl, rfl⟩

set_option maxHeartbeats 1000000 in
theorem isWait_any (n : Int) (w : World) : Calls Try.prog 32 #[.int .i64 n] w fun r w' => r = .returned (.bool (decide (1 ≤ n ∧ n ≤ 500))) ∧ w' = w := by
  have H : Hid _ := within_any n 1 500 w
  go_enter Try.func32, Try.ntmps32
  go_wp2_with fail
  refine Calls.mono H.out ?_
  rintro r w1 ⟨rfl, rfl⟩
  go_wp2
  go_ret
  exact ⟨by show Ending.returned (.bool (decide (1 ≤ n) && decide (n ≤ 500))) = _; rw [Bool.decide_and], rfl⟩

set_option maxHeartbeats 8000000 in
set_option maxRecDepth 100000 in
theorem isRight_any (c : Cf) (w : World) : Calls Try.prog 12 #[cfA c] w fun r w' => r = .returned (.bool (decide (CfOk c))) ∧ Below w.heap.size w w' := by
  obtain ⟨ans, hans⟩ : ∃ ans, ans = decide (CfOk c) := ⟨_, rfl⟩
  rw [← hans]
  have H : Hid _ := hans
  clear hans
  obtain ⟨W0, hW0⟩ : ∃ W0, W0 = w.alloc (cfO c) := ⟨_, rfl⟩
  have hb0 : Below w.heap.size w W0 := by rw [hW0]; exact below_new w
  have hR0 : W0.heap[w.heap.size]? = some (cfO c) := by rw [hW0]; exact heap_alloc_new _ _
  obtain ⟨k0, k1, k2, k3, k4, k5, k6, k7, k8, k9, k10, k11, k12, k13, k14, k15, klt⟩ := cf_cells hR0
  have HV : Hid (_ ∧ _ ∧ _) := ⟨hb0, hR0, hW0⟩
  clear hb0 hR0 hW0
  go_enter Try.func12, Try.ntmps12
  go_wp2_with fail
  rw [← HV.out.2.2]
  refine (within_any c.flows 1 40 _).mono ?_
  rintro r w1 ⟨rfl, rfl⟩
  by_cases t0 : 1 ≤ c.flows ∧ c.flows ≤ 40
  rotate_left
  · rw [decide_eq_false t0]
    go_wp2
    go_ret
    exact ⟨by rw [H.out, decide_eq_false (fun h => t0 h.1)]; rfl, HV.out.1⟩
  rw [decide_eq_true t0]
  go_wp2_with fail
  refine (within_any c.den 1 c.num _).mono ?_
  rintro r w1 ⟨rfl, rfl⟩
  by_cases t1 : 1 ≤ c.den ∧ c.den ≤ c.num
  rotate_left
  · rw [decide_eq_false t1]
    go_wp2
    go_ret
    exact ⟨by rw [H.out, decide_eq_false (fun h => t1 h.2.1)]; rfl, HV.out.1⟩
  rw [decide_eq_true t1]
  by_cases t2 : c.num ≤ 20
  rotate_left
  · have td2 : decide (c.num ≤ 20) = false := decide_eq_false t2
    have HT : Hid (¬ (c.num ≤ 20)) := t2
    go_wp2
    go_ret
    exact ⟨by rw [H.out, decide_eq_false (fun h => by have := h.2.2.1; omega)]; rfl, HV.out.1⟩
  have td2 : decide (c.num ≤ 20) = true := decide_eq_true t2
  go_wp2_with fail
  refine (within_any c.tries 0 12 _).mono ?_
  rintro r w1 ⟨rfl, rfl⟩
  by_cases t3 : 0 ≤ c.tries ∧ c.tries ≤ 12
  rotate_left
  · rw [decide_eq_false t3]
    go_wp2
    go_ret
    exact ⟨by rw [H.out, decide_eq_false (fun h => t3 h.2.2.2.1)]; rfl, HV.out.1⟩
  rw [decide_eq_true t3]
  go_wp2_with fail
  refine (within_any c.warm 0 500 _).mono ?_
  rintro r w1 ⟨rfl, rfl⟩
  by_cases t4 : 0 ≤ c.warm ∧ c.warm ≤ 500
  rotate_left
  · rw [decide_eq_false t4]
    go_wp2
    go_ret
    exact ⟨by rw [H.out, decide_eq_false (fun h => t4 h.2.2.2.2.1)]; rfl, HV.out.1⟩
  rw [decide_eq_true t4]
  go_wp2_with fail
  refine (isWait_any c.drain _).mono ?_
  rintro r w1 ⟨rfl, rfl⟩
  by_cases t5 : 1 ≤ c.drain ∧ c.drain ≤ 500
  rotate_left
  · rw [decide_eq_false t5]
    go_wp2
    go_ret
    exact ⟨by rw [H.out, decide_eq_false (fun h => t5 h.2.2.2.2.2.1)]; rfl, HV.out.1⟩
  rw [decide_eq_true t5]
  go_wp2_with fail
  refine (isWait_any c.idle _).mono ?_
  rintro r w1 ⟨rfl, rfl⟩
  by_cases t6 : 1 ≤ c.idle ∧ c.idle ≤ 500
  rotate_left
  · rw [decide_eq_false t6]
    go_wp2
    go_ret
    exact ⟨by rw [H.out, decide_eq_false (fun h => t6 h.2.2.2.2.2.2.1)]; rfl, HV.out.1⟩
  rw [decide_eq_true t6]
  go_wp2_with fail
  refine (isWait_any c.conn _).mono ?_
  rintro r w1 ⟨rfl, rfl⟩
  by_cases t7 : 1 ≤ c.conn ∧ c.conn ≤ 500
  rotate_left
  · rw [decide_eq_false t7]
    go_wp2
    go_ret
    exact ⟨by rw [H.out, decide_eq_false (fun h => t7 h.2.2.2.2.2.2.2.1)]; rfl, HV.out.1⟩
  rw [decide_eq_true t7]
  go_wp2_with fail
  refine (within_any c.ret 0 20 _).mono ?_
  rintro r w1 ⟨rfl, rfl⟩
  by_cases t8 : 0 ≤ c.ret ∧ c.ret ≤ 20
  rotate_left
  · rw [decide_eq_false t8]
    go_wp2
    go_ret
    exact ⟨by rw [H.out, decide_eq_false (fun h => t8 h.2.2.2.2.2.2.2.2.1)]; rfl, HV.out.1⟩
  rw [decide_eq_true t8]
  go_wp2_with fail
  refine (within_any c.most 0 100 _).mono ?_
  rintro r w1 ⟨rfl, rfl⟩
  by_cases t9 : 0 ≤ c.most ∧ c.most ≤ 100
  rotate_left
  · rw [decide_eq_false t9]
    go_wp2
    go_ret
    exact ⟨by rw [H.out, decide_eq_false (fun h => t9 h.2.2.2.2.2.2.2.2.2.1)]; rfl, HV.out.1⟩
  rw [decide_eq_true t9]
  go_wp2_with fail
  refine (Bk.check_any c.bn c.bd c.bb _).mono ?_
  rintro r w2 ⟨rfl, hb2⟩
  have hR2 := box_below HV.out.2.1 hb2
  have HB2 : Hid _ := HV.out.1.trans (hb2.mono HV.out.1.size)
  obtain ⟨j0, j1, j2, j3, j4, j5, j6, j7, j8, j9, j10, j11, j12, j13, j14, j15, jlt⟩ := cf_cells hR2
  clear hb2 k0 k1 k2 k3 k4 k5 k6 k7 k8 k9 k10 k11 k12 k13 k14 k15 klt
  by_cases tb : Bk.BudOk c.bn c.bd c.bb
  rotate_left
  · rw [show Bk.chkE c.bn c.bd c.bb = 2 from if_neg tb]
    clear hR2
    go_wp2
    go_ret
    exact ⟨by rw [H.out, decide_eq_false (fun h => tb h.2.2.2.2.2.2.2.2.2.2.1)]; rfl, HB2.out⟩
  rw [show Bk.chkE c.bn c.bd c.bb = 0 from if_pos tb]
  clear hR2
  go_wp2_with fail
  refine (Hl.check_any c.wn c.wf c.wh _).mono ?_
  rintro r w3 ⟨rfl, hb3⟩
  have HB3 : Hid _ := HB2.out.trans (hb3.mono HB2.out.size)
  clear hb3 j0 j1 j2 j3 j4 j5 j6 j7 j8 j9 j10 j11 j12 j13 j14 j15 jlt
  by_cases tw : Hl.WatOk c.wn c.wf c.wh
  rotate_left
  · rw [show Hl.watE c.wn c.wf c.wh = 2 from if_neg tw]
    go_wp2
    go_ret
    exact ⟨by rw [H.out, decide_eq_false (fun h => tw h.2.2.2.2.2.2.2.2.2.2.2)]; rfl, HB3.out⟩
  rw [show Hl.watE c.wn c.wf c.wh = 0 from if_pos tw]
  go_wp2
  go_ret
  exact ⟨by rw [H.out, decide_eq_true ⟨t0, t1, t2, t3, t4, t5, t6, t7, t8, t9, tb, tw⟩]; rfl, HB3.out⟩

def cfE (c : Cf) : Int := if CfOk c then 0 else 2

set_option maxHeartbeats 4000000 in
set_option maxRecDepth 100000 in
theorem check_any (c : Cf) (w : World) : Calls Try.prog 6 #[cfA c] w fun r w' => r = .returned (.int .i64 (cfE c)) ∧ Below w.heap.size w w' := by
  obtain ⟨W0, hW0⟩ : ∃ W0, W0 = w.alloc (cfO c) := ⟨_, rfl⟩
  have hb0 : Below w.heap.size w W0 := by rw [hW0]; exact below_new w
  have hR0 : W0.heap[w.heap.size]? = some (cfO c) := by rw [hW0]; exact heap_alloc_new _ _
  obtain ⟨k0, k1, k2, k3, k4, k5, k6, k7, k8, k9, k10, k11, k12, k13, k14, k15, klt⟩ := cf_cells hR0
  have HV : Hid (_ ∧ _ ∧ _) := ⟨hb0, hR0, hW0⟩
  clear hb0 hR0 hW0
  have HR : Hid _ := isRight_any c W0
  by_cases hok : CfOk c
  · rw [show cfE c = 0 from if_pos hok]
    rw [decide_eq_true hok] at HR
    clear hok
    go_enter Try.func6, Try.ntmps6
    go_wp2_with fail
    rw [← HV.out.2.2]
    refine Calls.mono HR.out ?_
    rintro r w1 ⟨rfl, hb1⟩
    have H1 : Hid _ := HV.out.1.trans (hb1.mono HV.out.1.size)
    clear hb1
    go_wp2
    go_ret
    exact ⟨rfl, H1.out⟩
  · rw [show cfE c = 2 from if_neg hok]
    rw [decide_eq_false hok] at HR
    clear hok
    go_enter Try.func6, Try.ntmps6
    go_wp2_with fail
    rw [← HV.out.2.2]
    refine Calls.mono HR.out ?_
    rintro r w1 ⟨rfl, hb1⟩
    have H1 : Hid _ := HV.out.1.trans (hb1.mono HV.out.1.size)
    clear hb1
    go_wp2
    go_ret
    exact ⟨rfl, H1.out⟩
end Go.Proofs.Ytbabcpdcgncigaa.Walks
