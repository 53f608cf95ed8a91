/-
  Budgets and buckets: what is right, what the program's calls answer. No condition.
-/
import Derived.Test.YtleeoncaiiilgabBase
import Derived.Shelf.SlSortCmp.QuietGrown
import Derived.WalkKit
import Derived.ProofKit
import Derived.Handy
import Derived.LoopTactic
import Derived.Below
import Derived.Laws.BitsAllLaws
import Derived.RegionTactic
import Derived.Deep.RegionHeld3
import Derived.Deep.DrawnRows
import Derived.Deep.AppendLies
import Derived.Laws.OwnMore
import Derived.Deep.Onto
import Derived.Deep.QuietTactic
import Derived.BigQuiet
namespace Go.Proofs.Ytleeoncaiiilgab.Walks
open Go.RowKit
set_option linter.unusedVariables false
set_option linter.unusedSimpArgs false
attribute [local go_sem ↓] Go.wp_at_zero Go.wp_at_succ
open Go.Sort (grow grow_empty grow_grow alloc_eq_grow cell?_grow heap_grow_old)

theorem mixed : Try.prog.follows .mixedOrders = true := by kernel_rfl

theorem below_grow (w : World) (q : Nat) (os : Array Obj) : Below w.heap.size w (grow (w.drewN q) os) :=
  ⟨rfl, rfl, rfl, by simp [grow, World.drewN], fun k hk => heap_grow_old (w.drewN q) os hk⟩

/-- A budget that is right. -/
abbrev BudOk (n d b : Int) : Prop := (0 ≤ n ∧ n ≤ 20) ∧ (1 ≤ d ∧ d ≤ 20) ∧ (0 ≤ b ∧ b ≤ 20)

def chkE (n d b : Int) : Int := if BudOk n d b then 0 else 2

def bothE (n d b x : Int) : Int := if BudOk n d b then (if 0 ≤ x ∧ x ≤ b * d then 0 else 6) else 2

def fillO (n d b : Int) : Int × Int := if BudOk n d b then (b * d, 0) else (0, 2)

def earnO (n d b x : Int) : Int × Int := if bothE n d b x = 0 then (min (x + n) (b * d), 0) else (0, bothE n d b x)

def spendO (n d b x : Int) : Int × Int := if bothE n d b x = 0 then (if x < d then (0, 11) else (x - d, 0)) else (0, bothE n d b x)

theorem both_ok {n d b x : Int} : bothE n d b x = 0 ↔ BudOk n d b ∧ 0 ≤ x ∧ x ≤ b * d := by
  unfold bothE
  by_cases h : BudOk n d b
  · rw [if_pos h]
    by_cases h2 : 0 ≤ x ∧ x ≤ b * d
    · rw [if_pos h2]; exact ⟨fun _ => ⟨h, h2⟩, fun _ => rfl⟩
    · rw [if_neg h2]; exact ⟨fun e => absurd e (by decide), fun e => absurd e.2 h2⟩
  · rw [if_neg h]; exact ⟨fun e => absurd e (by decide), fun e => absurd e.1 h⟩

theorem both_cases (n d b x : Int) : (bothE n d b x = 2 ∧ ¬ BudOk n d b) ∨ (bothE n d b x = 6 ∧ BudOk n d b) ∨ (bothE n d b x = 0 ∧ BudOk n d b ∧ 0 ≤ x ∧ x ≤ b * d) := by
  unfold bothE
  by_cases h : BudOk n d b
  · rw [if_pos h]
    by_cases h2 : 0 ≤ x ∧ x ≤ b * d
    · rw [if_pos h2]; exact .inr (.inr ⟨rfl, h, h2⟩)
    · rw [if_neg h2]; exact .inr (.inl ⟨rfl, h⟩)
  · rw [if_neg h]; exact .inl ⟨rfl, h⟩

theorem prod_bd {d b : Int} (hd : 1 ≤ d ∧ d ≤ 20) (hb : 0 ≤ b ∧ b ≤ 20) : 0 ≤ b * d ∧ b * d ≤ 400 :=
  ⟨Int.mul_nonneg hb.1 (by omega), (Int.mul_le_mul hb.2 hd.2 (by omega) (by omega) : b * d ≤ 20 * 20)⟩

abbrev budV (n d b : Int) : Value := .agg #[.int .i64 n, .int .i64 d, .int .i64 b]

set_option maxHeartbeats 1000000 in
theorem within_any (n lo : Int) (w : World) : Calls Try.prog 13 #[.int .i64 n, .int .i64 lo] w fun r w' => r = .returned (.bool (decide (lo ≤ n ∧ n ≤ 20))) ∧ w' = w := by
  obtain ⟨ans, hans⟩ : ∃ ans, ans = decide (lo ≤ n ∧ n ≤ 20) := ⟨_, rfl⟩
  rw [← hans]
  have H : Hid _ := hans
  clear hans
  cases h1 : decide (lo ≤ n)
  · go_enter Try.func13, Try.ntmps13
    go_wp2
    go_ret
    exact ⟨by rw [H.out, decide_eq_false (fun h => of_decide_eq_false h1 h.1)]; rfl, rfl⟩
  · cases h2 : decide (n ≤ 20)
    · go_enter Try.func13, Try.ntmps13
      go_wp2
      go_ret
      exact ⟨by rw [H.out, decide_eq_false (fun h => of_decide_eq_false h2 h.2)]; rfl, rfl⟩
    · go_enter Try.func13, Try.ntmps13
      go_wp2
      go_ret
      exact ⟨by rw [H.out, decide_eq_true ⟨of_decide_eq_true h1, of_decide_eq_true h2⟩]; rfl, rfl⟩

set_option maxHeartbeats 1000000 in
theorem most_grown (n d b : Int) (w : World) (hd : 1 ≤ d ∧ d ≤ 20) (hb : 0 ≤ b ∧ b ≤ 20) : Calls Try.prog 11 #[budV n d b] w fun r w' => r = .returned (.int .i64 (b * d)) ∧ ∃ q os, w' = grow (w.drewN q) os := by
  obtain ⟨h1, h2⟩ := prod_bd hd hb
  go_enter Try.func11, Try.ntmps11
  go_wp2
  go_ret
  refine ⟨rfl, 0, #[.cells #[.int .i64 n, .int .i64 d, .int .i64 b] 23], ?_⟩
  rw [alloc_eq_grow]
  rfl

theorem most_any (n d b : Int) (w : World) (hd : 1 ≤ d ∧ d ≤ 20) (hb : 0 ≤ b ∧ b ≤ 20) : Calls Try.prog 11 #[budV n d b] w fun r w' => r = .returned (.int .i64 (b * d)) ∧ Below w.heap.size w w' := by
  refine (most_grown n d b w hd hb).mono ?_
  rintro r w' ⟨rfl, q, os, rfl⟩
  exact ⟨rfl, below_grow _ _ _⟩

set_option maxHeartbeats 2000000 in
theorem check_any (n d b : Int) (w : World) : Calls Try.prog 10 #[budV n d b] w fun r w' => r = .returned (.int .i64 (chkE n d b)) ∧ Below w.heap.size w w' := by
  obtain ⟨W0, hW0⟩ : ∃ W0, W0 = w.alloc (.cells #[.int .i64 n, .int .i64 d, .int .i64 b] 23) := ⟨_, rfl⟩
  have hB0 : W0.heap[w.heap.size]? = some (.cells #[.int .i64 n, .int .i64 d, .int .i64 b] 23 (0, 0)) := by rw [hW0]; exact heap_alloc_new _ _
  have hb0 : Below w.heap.size w W0 := by rw [hW0]; exact below_new _
  obtain ⟨c0, c1, c2, _⟩ := three_cells hB0
  have H : Hid (_ ∧ _) := ⟨hW0, hb0⟩
  clear hW0 hb0 hB0
  cases h1 : decide (0 ≤ n ∧ n ≤ 20)
  · have E : Hid (chkE n d b = 2) := if_neg fun h => of_decide_eq_false h1 h.1
    go_enter Try.func10, Try.ntmps10
    go_wp2_with fail
    rw [← H.out.1]
    refine (within_any _ _ _).mono ?_
    rintro e w' ⟨rfl, rfl⟩
    rw [h1]
    go_wp2
    go_ret
    exact ⟨by rw [E.out]; rfl, H.out.2⟩
  cases h2 : decide (0 ≤ b ∧ b ≤ 20)
  · have E : Hid (chkE n d b = 2) := if_neg fun h => of_decide_eq_false h2 h.2.2
    go_enter Try.func10, Try.ntmps10
    go_wp2_with fail
    rw [← H.out.1]
    refine (within_any _ _ _).mono ?_
    rintro e w' ⟨rfl, rfl⟩
    rw [h1]
    go_wp2_with fail
    refine (within_any _ _ _).mono ?_
    rintro e w' ⟨rfl, rfl⟩
    rw [h2]
    go_wp2
    go_ret
    exact ⟨by rw [E.out]; rfl, H.out.2⟩
  cases h3 : decide (1 ≤ d ∧ d ≤ 20)
  · have E : Hid (chkE n d b = 2) := if_neg fun h => of_decide_eq_false h3 h.2.1
    go_enter Try.func10, Try.ntmps10
    go_wp2_with fail
    rw [← H.out.1]
    refine (within_any _ _ _).mono ?_
    rintro e w' ⟨rfl, rfl⟩
    rw [h1]
    go_wp2_with fail
    refine (within_any _ _ _).mono ?_
    rintro e w' ⟨rfl, rfl⟩
    rw [h2]
    go_wp2_with fail
    refine (within_any _ _ _).mono ?_
    rintro e w' ⟨rfl, rfl⟩
    rw [h3]
    go_wp2
    go_ret
    exact ⟨by rw [E.out]; rfl, H.out.2⟩
  · have E : Hid (chkE n d b = 0) := if_pos ⟨of_decide_eq_true h1, of_decide_eq_true h3, of_decide_eq_true h2⟩
    go_enter Try.func10, Try.ntmps10
    go_wp2_with fail
    rw [← H.out.1]
    refine (within_any _ _ _).mono ?_
    rintro e w' ⟨rfl, rfl⟩
    rw [h1]
    go_wp2_with fail
    refine (within_any _ _ _).mono ?_
    rintro e w' ⟨rfl, rfl⟩
    rw [h2]
    go_wp2_with fail
    refine (within_any _ _ _).mono ?_
    rintro e w' ⟨rfl, rfl⟩
    rw [h3]
    go_wp2
    go_ret
    exact ⟨by rw [E.out]; rfl, H.out.2⟩

/-- The two boxes of a call that takes a budget and a bucket. -/
def Bx (w W : World) (n d b x : Int) : Prop :=
  W.heap[w.heap.size]? = some (.cells #[.int .i64 n, .int .i64 d, .int .i64 b] 23 (0, 0)) ∧ W.heap[w.heap.size + 1]? = some (.cells #[.int .i64 x] 26 (0, 0)) ∧ Below w.heap.size w W

theorem bx_new (w : World) (n d b x : Int) : Bx w ((w.alloc (.cells #[.int .i64 n, .int .i64 d, .int .i64 b] 23)).alloc (.cells #[.int .i64 x] 26)) n d b x :=
  ⟨heap_old _ _ (heap_alloc_new _ _), heap_second _ _ _, ((Below.refl _ _).alloc (Nat.le_refl _) _).alloc (by simp) _⟩

theorem Bx.below {w W W' : World} {n d b x : Int} (h : Bx w W n d b x) (hb : Below W.heap.size W W') : Bx w W' n d b x :=
  ⟨box_below h.1 hb, box_below h.2.1 hb, h.2.2.trans (hb.mono h.2.2.size)⟩

theorem Bx.cells {w W : World} {n d b x : Int} (h : Bx w W n d b x) : W.cell? ⟨w.heap.size, 0, none⟩ = some (.int .i64 n) ∧ W.cell? ⟨w.heap.size, 1, none⟩ = some (.int .i64 d) ∧ W.cell? ⟨w.heap.size, 2, none⟩ = some (.int .i64 b) ∧ W.cell? ⟨w.heap.size + 1, 0, none⟩ = some (.int .i64 x) := by
  obtain ⟨c0, c1, c2, _⟩ := three_cells h.1
  exact ⟨c0, c1, c2, one_cell h.2.1⟩

set_option maxHeartbeats 4000000 in
theorem checkBoth_any (n d b x : Int) (w : World) : Calls Try.prog 12 #[budV n d b, .agg #[.int .i64 x]] w fun r w' => r = .returned (.int .i64 (bothE n d b x)) ∧ Below w.heap.size w w' := by
  obtain ⟨W0, hW0⟩ : ∃ W0, W0 = (w.alloc (.cells #[.int .i64 n, .int .i64 d, .int .i64 b] 23)).alloc (.cells #[.int .i64 x] 26) := ⟨_, rfl⟩
  have hX0 : Bx w W0 n d b x := by rw [hW0]; exact bx_new _ _ _ _ _
  obtain ⟨c0, c1, c2, c3⟩ := hX0.cells
  have H : Hid (_ ∧ _) := ⟨hW0, hX0⟩
  clear hW0 hX0
  go_enter Try.func12, Try.ntmps12
  go_wp2_with fail
  rw [← H.out.1]
  refine (check_any n d b _).mono ?_
  rintro r w1 ⟨rfl, hb1⟩
  have hX1 := H.out.2.below hb1
  clear c0 c1 c2 c3 hb1 H
  obtain ⟨c0, c1, c2, c3⟩ := hX1.cells
  have HB : Hid _ := hX1.2.2
  clear hX1
  by_cases hok : BudOk n d b
  · rw [show chkE n d b = 0 from if_pos hok]
    obtain ⟨hn, hd, hb⟩ := hok
    obtain ⟨m1, m2⟩ := prod_bd hd hb
    have HM : Hid (∀ W, _) := fun W => most_grown n d b W hd hb
    have E : Hid (bothE n d b x = if 0 ≤ x ∧ x ≤ b * d then 0 else 6) := if_pos ⟨hn, hd, hb⟩
    clear hn hd hb
    generalize b * d = m at *
    have k0 : ∀ n' os, (grow (w1.drewN n') os).cell? ⟨w.heap.size, 0, none⟩ = some (.int .i64 n) := cell_grown (World.block_lt_of_cell? _ _ c0) c0
    have k1 : ∀ n' os, (grow (w1.drewN n') os).cell? ⟨w.heap.size, 1, none⟩ = some (.int .i64 d) := cell_grown (World.block_lt_of_cell? _ _ c1) c1
    have k2 : ∀ n' os, (grow (w1.drewN n') os).cell? ⟨w.heap.size, 2, none⟩ = some (.int .i64 b) := cell_grown (World.block_lt_of_cell? _ _ c2) c2
    have k3 : ∀ n' os, (grow (w1.drewN n') os).cell? ⟨w.heap.size + 1, 0, none⟩ = some (.int .i64 x) := cell_grown (World.block_lt_of_cell? _ _ c3) c3
    cases h1 : decide (x < 0)
    case true =>
      have E2 : Hid (bothE n d b x = 6) := (by rw [E.out, if_neg fun h => by have := of_decide_eq_true h1; omega] : bothE n d b x = 6)
      clear E
      go_wp2_with fail
      refine wp_region_quiet_grown mixed (by kernel_rfl) ?_
      repeat (first | go_big_quiet_skip | quiet_step (first | (go_at_call 11; exact Calls.grown_of (HM.out _))))
      refine wpQuiet_nil ?_
      intro _ hw'
      obtain ⟨⟨nq, osq⟩, hw''⟩ := hw'
      subst hw''
      have HB2 : Hid (Below w.heap.size w (grow (w1.drewN nq) osq)) := HB.out.trans ((below_grow w1 nq osq).mono HB.out.size)
      generalize grow (w1.drewN nq) osq = w3 at HB2 ⊢
      go_wp2
      go_ret
      exact ⟨by rw [E2.out]; rfl, HB2.out⟩
    cases h2 : decide (m < x)
    case true =>
      have E2 : Hid (bothE n d b x = 6) := (by rw [E.out, if_neg fun h => by have := of_decide_eq_true h2; omega] : bothE n d b x = 6)
      clear E
      go_wp2_with fail
      refine wp_region_quiet_grown mixed (by kernel_rfl) ?_
      repeat (first | go_big_quiet_skip | quiet_step (first | (go_at_call 11; exact Calls.grown_of (HM.out _))))
      refine wpQuiet_nil ?_
      intro _ hw'
      obtain ⟨⟨nq, osq⟩, hw''⟩ := hw'
      subst hw''
      have HB2 : Hid (Below w.heap.size w (grow (w1.drewN nq) osq)) := HB.out.trans ((below_grow w1 nq osq).mono HB.out.size)
      generalize grow (w1.drewN nq) osq = w3 at HB2 ⊢
      go_wp2
      go_ret
      exact ⟨by rw [E2.out]; rfl, HB2.out⟩
    case false =>
      have E2 : Hid (bothE n d b x = 0) := (by rw [E.out, if_pos ⟨by have := of_decide_eq_false h1; omega, by have := of_decide_eq_false h2; omega⟩] : bothE n d b x = 0)
      clear E
      go_wp2_with fail
      refine wp_region_quiet_grown mixed (by kernel_rfl) ?_
      repeat (first | go_big_quiet_skip | quiet_step (first | (go_at_call 11; exact Calls.grown_of (HM.out _))))
      refine wpQuiet_nil ?_
      intro _ hw'
      obtain ⟨⟨nq, osq⟩, hw''⟩ := hw'
      subst hw''
      have HB2 : Hid (Below w.heap.size w (grow (w1.drewN nq) osq)) := HB.out.trans ((below_grow w1 nq osq).mono HB.out.size)
      generalize grow (w1.drewN nq) osq = w3 at HB2 ⊢
      go_wp2
      go_ret
      exact ⟨by rw [E2.out]; rfl, HB2.out⟩
  · rw [show chkE n d b = 2 from if_neg hok]
    have E2 : Hid (bothE n d b x = 2) := if_neg hok
    clear hok
    go_wp2
    go_ret
    exact ⟨by rw [E2.out]; rfl, HB.out⟩

theorem chk_yes {n d b : Int} (h : BudOk n d b) : chkE n d b = 0 := if_pos h
theorem chk_no {n d b : Int} (h : ¬ BudOk n d b) : chkE n d b = 2 := if_neg h

abbrev bktV (x : Int) : Value := .agg #[.int .i64 x]

set_option maxHeartbeats 4000000 in
theorem fill_any (n d b : Int) (w : World) : Calls Try.prog 6 #[budV n d b] w fun r w' => r = .returned (.tuple #[bktV (fillO n d b).1, .int .i64 (fillO n d b).2]) ∧ Below w.heap.size w w' := by
  obtain ⟨W0, hW0⟩ : ∃ W0, W0 = (w.alloc (.cells #[.int .i64 n, .int .i64 d, .int .i64 b] 23)).alloc (.cells #[.int .i64 0] 26) := ⟨_, rfl⟩
  have hX0 : Bx w W0 n d b 0 := by rw [hW0]; exact bx_new _ _ _ _ _
  obtain ⟨c0, c1, c2, c3⟩ := hX0.cells
  have H : Hid (_ ∧ _) := ⟨hW0, hX0⟩
  clear hW0 hX0
  go_enter Try.func6, Try.ntmps6
  go_wp2_with fail
  rw [← H.out.1]
  refine (check_any n d b _).mono ?_
  rintro r w1 ⟨rfl, hb1⟩
  have hX1 := H.out.2.below hb1
  clear c0 c1 c2 c3 hb1 H
  obtain ⟨c0, c1, c2, c3⟩ := hX1.cells
  obtain ⟨_, f3, _⟩ := one_cells hX1.2.1
  have HX : Hid (Bx _ _ _ _ _ _) := hX1
  clear hX1
  by_cases hok : BudOk n d b
  · rw [chk_yes hok]
    have E : Hid (fillO n d b = (b * d, 0)) := if_pos hok
    have HM : Hid (∀ W, _) := fun W => most_any n d b W hok.2.1 hok.2.2
    clear hok
    generalize b * d = m at *
    go_wp2_with fail
    refine (HM.out _).mono ?_
    rintro r w2 ⟨rfl, hb2⟩
    have hX2 := HX.out.below hb2
    clear c0 c1 c2 c3 f3 hb2 HX HM
    obtain ⟨c3, f3, _⟩ := one_cells hX2.2.1
    have HX : Hid (Bx _ _ _ _ _ _) := hX2
    clear hX2
    go_wp2
    exact bodyPost_ret (v := .tuple #[bktV m, .int .i64 0]) (results_ct Try.results6 rfl rfl (load_row (P := Try.prog) (cs := [.int .i64 m]) (one_set HX.out.2.1) Try.underlying26 rfl (by kernel_rfl))) rfl ⟨by rw [E.out], HX.out.2.2.setCell (by simp) _⟩
  · rw [chk_no hok]
    have E : Hid (fillO n d b = (0, 2)) := if_neg hok
    clear hok
    go_wp2
    exact bodyPost_ret (v := .tuple #[bktV 0, .int .i64 2]) (results_ct Try.results6 rfl rfl (load_row (P := Try.prog) (cs := [.int .i64 0]) (one_set HX.out.2.1) Try.underlying26 rfl (by kernel_rfl))) rfl ⟨by rw [E.out], HX.out.2.2.setCell (by simp) _⟩

/-- The boxes of Earn and Spend: the budget, the bucket, the answer. -/
def By (w W : World) (n d b x y : Int) : Prop :=
  Bx w W n d b x ∧ W.heap[w.heap.size + 1 + 1]? = some (.cells #[.int .i64 y] 26 (0, 0))

theorem by_new (w : World) (n d b x y : Int) : By w (((w.alloc (.cells #[.int .i64 n, .int .i64 d, .int .i64 b] 23)).alloc (.cells #[.int .i64 x] 26)).alloc (.cells #[.int .i64 y] 26)) n d b x y :=
  ⟨(bx_new w n d b x).below (below_new _), heap_third _ _ _ _⟩

theorem By.below {w W W' : World} {n d b x y : Int} (h : By w W n d b x y) (hb : Below W.heap.size W W') : By w W' n d b x y :=
  ⟨h.1.below hb, box_below h.2 hb⟩

theorem By.set {w W : World} {n d b x y : Int} (h : By w W n d b x y) (z : Int) : By w (W.setCell ⟨w.heap.size + 1 + 1, 0, none⟩ (.int .i64 z)) n d b x z :=
  ⟨⟨(Below.heap_setCell _ _ _ _ (by simp; omega)).trans h.1.1, (Below.heap_setCell _ _ _ _ (by simp)).trans h.1.2.1, h.1.2.2.setCell (by simp; omega) _⟩, one_set h.2⟩

theorem By.setX {w W : World} {n d b x y : Int} (h : By w W n d b x y) (z : Int) : By w (W.setCell ⟨w.heap.size + 1, 0, none⟩ (.int .i64 z)) n d b z y :=
  ⟨⟨(Below.heap_setCell _ _ _ _ (by simp)).trans h.1.1, one_set h.1.2.1, h.1.2.2.setCell (by simp) _⟩, (Below.heap_setCell _ _ _ _ (by simp)).trans h.2⟩

theorem By.drew {w W : World} {n d b x y : Int} (h : By w W n d b x y) : By w W.drew n d b x y := h.below ((Below.refl _ _).drew)

theorem By.res {w W : World} {n d b x y : Int} (h : By w W n d b x y) {fn : Func} {i z : Tmp} (hr : fn.results = #[.cell i 26, .tmp z]) {tmps : Array Value} {e : Value} (hx : tmps.getD i undef = .pointer (some ⟨w.heap.size + 1 + 1, 0, none⟩)) (hz : tmps.getD z undef = e) :
    (results fn tmps).run Try.prog W = .ok (.tuple #[bktV y, e]) W :=
  results_ct hr hx hz (load_row (P := Try.prog) (cs := [.int .i64 y]) h.2 Try.underlying26 rfl (by kernel_rfl))

theorem earn_ok {n d b x : Int} (h : bothE n d b x = 0) : earnO n d b x = (min (x + n) (b * d), 0) := if_pos h
theorem earn_no {n d b x : Int} (e : Int) (h : bothE n d b x = e) (he : e ≠ 0) : earnO n d b x = (0, e) := by unfold earnO; rw [h, if_neg he]
theorem spend_ok {n d b x : Int} (h : bothE n d b x = 0) (h2 : d ≤ x) : spendO n d b x = (x - d, 0) := by unfold spendO; rw [if_pos h, if_neg (by omega)]
theorem spend_busy {n d b x : Int} (h : bothE n d b x = 0) (h2 : x < d) : spendO n d b x = (0, 11) := by unfold spendO; rw [if_pos h, if_pos h2]
theorem spend_no {n d b x : Int} (e : Int) (h : bothE n d b x = e) (he : e ≠ 0) : spendO n d b x = (0, e) := by unfold spendO; rw [h, if_neg he]

theorem held5t {w w' : World} {a1 a2 a3 a4 a5 : Addr} {v1 v2 v3 v4 v5 : Value} (h1 : w.cell? a1 = some v1) (h2 : w.cell? a2 = some v2) (h3 : w.cell? a3 = some v3) (h4 : w.cell? a4 = some v4) (h5 : w.cell? a5 = some v5) (hb : Below w.heap.size w w') : w'.cell? a1 = some v1 ∧ w'.cell? a2 = some v2 ∧ w'.cell? a3 = some v3 ∧ w'.cell? a4 = some v4 ∧ w'.cell? a5 = some v5 ∧ Below w.heap.size w w' :=
  ⟨(hb.cell (World.block_lt_of_cell? w a1 h1)).trans h1, (hb.cell (World.block_lt_of_cell? w a2 h2)).trans h2, (hb.cell (World.block_lt_of_cell? w a3 h3)).trans h3, (hb.cell (World.block_lt_of_cell? w a4 h4)).trans h4, (hb.cell (World.block_lt_of_cell? w a5 h5)).trans h5, hb⟩

theorem Bx.held {w W : World} {n d b x : Int} (h : Bx w W n d b x) : W.cell? ⟨w.heap.size, 0, none⟩ = some (.int .i64 n) ∧ W.cell? ⟨w.heap.size, 1, none⟩ = some (.int .i64 d) ∧ W.cell? ⟨w.heap.size, 2, none⟩ = some (.int .i64 b) ∧ W.cell? ⟨w.heap.size + 1, 0, none⟩ = some (.int .i64 x) ∧ Bx w W n d b x :=
  ⟨h.cells.1, h.cells.2.1, h.cells.2.2.1, h.cells.2.2.2, h⟩

set_option maxHeartbeats 4000000 in
theorem spend_any (n d b x : Int) (w : World) : Calls Try.prog 8 #[budV n d b, bktV x] w fun r w' => r = .returned (.tuple #[bktV (spendO n d b x).1, .int .i64 (spendO n d b x).2]) ∧ Below w.heap.size w w' := by
  obtain ⟨W0, hW0⟩ : ∃ W0, W0 = ((w.alloc (.cells #[.int .i64 n, .int .i64 d, .int .i64 b] 23)).alloc (.cells #[.int .i64 x] 26)).alloc (.cells #[.int .i64 0] 26) := ⟨_, rfl⟩
  have hX0 : By w W0 n d b x 0 := by rw [hW0]; exact by_new _ _ _ _ _ _
  obtain ⟨c0, c1, c2, c3⟩ := hX0.1.cells
  have H : Hid (_ ∧ By _ _ _ _ _ _ _) := ⟨hW0, hX0⟩
  clear hW0 hX0
  go_enter Try.func8, Try.ntmps8
  go_wp2_with fail
  rw [← H.out.1]
  refine (checkBoth_any n d b x _).mono ?_
  rintro r w1 ⟨rfl, hb1⟩
  have hX1 := H.out.2.below hb1
  clear c0 c1 c2 c3 hb1 H
  obtain ⟨c0, c1, c2, c3⟩ := hX1.1.cells
  obtain ⟨c4, f4, _⟩ := one_cells hX1.2
  have HX : Hid (By _ _ _ _ _ _ _) := hX1
  clear hX1
  rcases both_cases n d b x with ⟨hE, _⟩ | ⟨hE, _⟩ | ⟨hE, hok, hx0, hx1⟩
  · have E : Hid (spendO n d b x = (0, 2)) := spend_no 2 hE (by decide)
    rw [hE]
    clear hE
    go_wp2
    exact bodyPost_ret (v := .tuple #[bktV 0, .int .i64 2]) ((HX.out.set 0).res Try.results8 rfl rfl) rfl ⟨by rw [E.out], (HX.out.set 0).1.2.2⟩
  · have E : Hid (spendO n d b x = (0, 6)) := spend_no 6 hE (by decide)
    rw [hE]
    clear hE
    go_wp2
    exact bodyPost_ret (v := .tuple #[bktV 0, .int .i64 6]) ((HX.out.set 0).res Try.results8 rfl rfl) rfl ⟨by rw [E.out], (HX.out.set 0).1.2.2⟩
  · have hx2 := prod_bd hok.2.1 hok.2.2
    have hd := hok.2.1
    have hx3 : x ≤ 400 := by omega
    cases hc : decide (x < d)
    · have E : Hid (spendO n d b x = (x - d, 0)) := spend_ok hE (by have := of_decide_eq_false hc; omega)
      rw [hE]
      clear hE hok hx1 hx2
      go_wp2
      exact bodyPost_ret (v := .tuple #[bktV (x - d), .int .i64 0]) ((HX.out.set (x - d)).res Try.results8 rfl rfl) rfl ⟨by rw [E.out], (HX.out.set (x - d)).1.2.2⟩
    · have E : Hid (spendO n d b x = (0, 11)) := spend_busy hE (of_decide_eq_true hc)
      rw [hE]
      clear hE hok hx1 hx2
      go_wp2
      exact bodyPost_ret (v := .tuple #[bktV 0, .int .i64 11]) ((HX.out.set 0).res Try.results8 rfl rfl) rfl ⟨by rw [E.out], (HX.out.set 0).1.2.2⟩

set_option maxHeartbeats 4000000 in
theorem earn_any (n d b x : Int) (w : World) : Calls Try.prog 9 #[budV n d b, bktV x] w fun r w' => r = .returned (.tuple #[bktV (earnO n d b x).1, .int .i64 (earnO n d b x).2]) ∧ Below w.heap.size w w' := by
  obtain ⟨W0, hW0⟩ : ∃ W0, W0 = ((w.alloc (.cells #[.int .i64 n, .int .i64 d, .int .i64 b] 23)).alloc (.cells #[.int .i64 x] 26)).alloc (.cells #[.int .i64 0] 26) := ⟨_, rfl⟩
  have hX0 : By w W0 n d b x 0 := by rw [hW0]; exact by_new _ _ _ _ _ _
  obtain ⟨c0, c1, c2, c3⟩ := hX0.1.cells
  have H : Hid (_ ∧ By _ _ _ _ _ _ _) := ⟨hW0, hX0⟩
  clear hW0 hX0
  go_enter Try.func9, Try.ntmps9
  go_wp2_with fail
  rw [← H.out.1]
  refine (checkBoth_any n d b x _).mono ?_
  rintro r w1 ⟨rfl, hb1⟩
  have hX1 := H.out.2.below hb1
  clear c0 c1 c2 c3 hb1 H
  obtain ⟨c0, c1, c2, c3⟩ := hX1.1.cells
  obtain ⟨c4, f4, _⟩ := one_cells hX1.2
  have HX : Hid (By _ _ _ _ _ _ _) := hX1
  clear hX1
  rcases both_cases n d b x with ⟨hE, _⟩ | ⟨hE, _⟩ | ⟨hE, hok, hx0, hx1⟩
  · have E : Hid (earnO n d b x = (0, 2)) := earn_no 2 hE (by decide)
    rw [hE]
    clear hE
    go_wp2
    exact bodyPost_ret (v := .tuple #[bktV 0, .int .i64 2]) ((HX.out.set 0).res Try.results9 rfl rfl) rfl ⟨by rw [E.out], (HX.out.set 0).1.2.2⟩
  · have E : Hid (earnO n d b x = (0, 6)) := earn_no 6 hE (by decide)
    rw [hE]
    clear hE
    go_wp2
    exact bodyPost_ret (v := .tuple #[bktV 0, .int .i64 6]) ((HX.out.set 0).res Try.results9 rfl rfl) rfl ⟨by rw [E.out], (HX.out.set 0).1.2.2⟩
  · have hx2 := prod_bd hok.2.1 hok.2.2
    have hn := hok.1
    have HM : Hid (∀ W, _) := fun W => most_any n d b W hok.2.1 hok.2.2
    have E : Hid (earnO n d b x = (min (x + n) (b * d), 0)) := earn_ok hE
    rw [hE]
    clear hE hok
    generalize b * d = m at *
    have hx3 : x ≤ 400 := by omega
    have hwr : IntKind.i64.wrap (x + n) = x + n := by rw [IntKind.wrap_i64]; omega
    by_cases hm : m < x + n
    · have hE : Hid (min (x + n) m = m) := (by omega : min (x + n) m = m)
      go_wp2_with fail
      go_region_held3 (fun W => W.cell? ⟨w.heap.size, 0, none⟩ = some (.int .i64 n) ∧ W.cell? ⟨w.heap.size, 1, none⟩ = some (.int .i64 d) ∧ W.cell? ⟨w.heap.size, 2, none⟩ = some (.int .i64 b) ∧ W.cell? ⟨w.heap.size + 1, 0, none⟩ = some (.int .i64 x) ∧ Bx w W n d b x) (first | exact (HX.out.drew).1.held | exact HX5.out.1.held | exact (HX5.out.set _).1.held) (first | (go_at_call 11; refine (HM.out _).mono ?_; rintro r w5 ⟨rfl, hb5⟩; have HX5 : Hid (By w w5 n d b x 0) := HX.out.below (below_of_drew hb5); clear hb5; have c5 := one_cell HX5.out.2; have f5 := (one_cells HX5.out.2).2.1))
      all_goals
        go_wp2
        exact bodyPost_ret (v := .tuple #[bktV m, .int .i64 0]) ((HX5.out.set m).res Try.results9 rfl rfl) rfl ⟨by rw [E.out, hE.out], (HX5.out.set _).1.2.2⟩
    · have hE : Hid (min (x + n) m = x + n) := (by omega : min (x + n) m = x + n)
      go_wp2_with fail
      go_region_held3 (fun W => W.cell? ⟨w.heap.size, 0, none⟩ = some (.int .i64 n) ∧ W.cell? ⟨w.heap.size, 1, none⟩ = some (.int .i64 d) ∧ W.cell? ⟨w.heap.size, 2, none⟩ = some (.int .i64 b) ∧ W.cell? ⟨w.heap.size + 1, 0, none⟩ = some (.int .i64 x) ∧ Bx w W n d b x) (first | exact (HX.out.drew).1.held | exact HX5.out.1.held | exact (HX5.out.set _).1.held) (first | (go_at_call 11; refine (HM.out _).mono ?_; rintro r w5 ⟨rfl, hb5⟩; have HX5 : Hid (By w w5 n d b x 0) := HX.out.below (below_of_drew hb5); clear hb5; have c5 := one_cell HX5.out.2; have f5 := (one_cells HX5.out.2).2.1))
      all_goals
        go_wp2
        exact bodyPost_ret (v := .tuple #[bktV (x + n), .int .i64 0]) ((HX5.out.set (x + n)).res Try.results9 rfl rfl) rfl ⟨by rw [E.out, hE.out], (HX5.out.set _).1.2.2⟩
end Go.Proofs.Ytleeoncaiiilgab.Walks
