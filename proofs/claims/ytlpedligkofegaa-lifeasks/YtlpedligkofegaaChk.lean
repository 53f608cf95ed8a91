/-
  life's small functions and Check of lives. Condition: what is read can be read.
-/
import Derived.Test.YtlpedligkofegaaPlain
import Derived.Shelf.SlSortCmp.QuietGrown
import Derived.WalkKit
import Derived.ProofKit
import Derived.Handy
import Derived.LoopTactic
import Derived.Below
import Derived.Laws.BitsAllLaws
import Derived.RegionTactic
import Derived.Deep.RegionHeld3
import Derived.Deep.DrawnRows
import Derived.Deep.AppendLies
import Derived.Laws.OwnMore
import Derived.Deep.Onto
import Derived.Deep.QuietTactic
import Derived.BigQuiet
namespace Go.Proofs.Ytlpedligkofegaa.Walks
open Go.RowKit
set_option linter.unusedVariables false
set_option linter.unusedSimpArgs false
attribute [local go_sem ↓] Go.wp_at_zero Go.wp_at_succ
open Go.Sort (grow grow_empty grow_grow alloc_eq_grow cell?_grow heap_grow_old)

theorem mixed : Try.prog.follows .mixedOrders = true := by kernel_rfl

theorem below_grow (w : World) (q : Nat) (os : Array Obj) : Below w.heap.size w (grow (w.drewN q) os) :=
  ⟨rfl, rfl, rfl, by simp [grow, World.drewN], fun k hk => heap_grow_old (w.drewN q) os hk⟩

theorem six_cells {w : World} {g : Nat} {a b c d e f : Value} {T : TypeId} (h : w.heap[g]? = some (.cells #[a, b, c, d, e, f] T (0, 0))) : w.cell? ⟨g, 0, none⟩ = some a ∧ w.cell? ⟨g, 1, none⟩ = some b ∧ w.cell? ⟨g, 2, none⟩ = some c ∧ w.cell? ⟨g, 3, none⟩ = some d ∧ w.cell? ⟨g, 4, none⟩ = some e ∧ w.cell? ⟨g, 5, none⟩ = some f ∧ g < w.heap.size :=
  ⟨by simp [World.cell?, h], by simp [World.cell?, h], by simp [World.cell?, h], by simp [World.cell?, h], by simp [World.cell?, h], by simp [World.cell?, h], (Array.getElem?_eq_some_iff.1 h).1⟩

theorem five_cells {w : World} {g : Nat} {a b c d e : Value} {T : TypeId} (h : w.heap[g]? = some (.cells #[a, b, c, d, e] T (0, 0))) : w.cell? ⟨g, 0, none⟩ = some a ∧ w.cell? ⟨g, 1, none⟩ = some b ∧ w.cell? ⟨g, 2, none⟩ = some c ∧ w.cell? ⟨g, 3, none⟩ = some d ∧ w.cell? ⟨g, 4, none⟩ = some e ∧ g < w.heap.size :=
  ⟨by simp [World.cell?, h], by simp [World.cell?, h], by simp [World.cell?, h], by simp [World.cell?, h], by simp [World.cell?, h], (Array.getElem?_eq_some_iff.1 h).1⟩

abbrev lfV (x1 x2 x3 x4 x5 x6 : Int) : Value := .agg #[.int .i64 x1, .int .i64 x2, .int .i64 x3, .int .i64 x4, .int .i64 x5, .int .i64 x6]

abbrev rqV (x1 x2 x3 x4 x5 : Int) : Value := .agg #[.int .i64 x1, .int .i64 x2, .int .i64 x3, .int .i64 x4, .int .i64 x5]

abbrev lfO (x1 x2 x3 x4 x5 x6 : Int) : Obj := .cells #[.int .i64 x1, .int .i64 x2, .int .i64 x3, .int .i64 x4, .int .i64 x5, .int .i64 x6] 44

abbrev rqO (x1 x2 x3 x4 x5 : Int) : Obj := .cells #[.int .i64 x1, .int .i64 x2, .int .i64 x3, .int .i64 x4, .int .i64 x5] 31

set_option maxHeartbeats 1000000 in
theorem within_any (n lo hi : Int) (w : World) : Calls Try.prog 31 #[.int .i64 n, .int .i64 lo, .int .i64 hi] w fun r w' => r = .returned (.bool (decide (lo ≤ n ∧ n ≤ hi))) ∧ w' = w := by
  obtain ⟨ans, hans⟩ : ∃ ans, ans = decide (lo ≤ n ∧ n ≤ hi) := ⟨_, rfl⟩
  rw [← hans]
  have H : Hid _ := hans
  clear hans
  cases h1 : decide (lo ≤ n)
  · go_enter Try.func31, Try.ntmps31
    go_wp2
    go_ret
    exact ⟨by rw [H.out, decide_eq_false (fun h => of_decide_eq_false h1 h.1)]; rfl, rfl⟩
  · cases h2 : decide (n ≤ hi)
    · go_enter Try.func31, Try.ntmps31
      go_wp2
      go_ret
      exact ⟨by rw [H.out, decide_eq_false (fun h => of_decide_eq_false h2 h.2)]; rfl, rfl⟩
    · go_enter Try.func31, Try.ntmps31
      go_wp2
      go_ret
      exact ⟨by rw [H.out, decide_eq_true ⟨of_decide_eq_true h1, of_decide_eq_true h2⟩]; rfl, rfl⟩

theorem isBackend_any (n : Int) (w : World) : Calls Try.prog 49 #[.int .i64 n] w fun r w' => r = .returned (.bool (decide (0 ≤ n ∧ n ≤ 11))) ∧ w' = w := by
  obtain ⟨b, hb⟩ : ∃ b, b = decide (0 ≤ n ∧ n ≤ 11) := ⟨_, rfl⟩
  rw [← hb]
  have H : Hid _ := hb
  clear hb
  go_enter Try.func49, Try.ntmps49
  go_wp2_with fail
  refine (within_any _ _ _ _).mono ?_
  rw [← H.out]
  rintro r w1 ⟨rfl, rfl⟩
  go_wp2
  go_ret
  exact ⟨rfl, rfl⟩

theorem isWeight_any (n : Int) (w : World) : Calls Try.prog 50 #[.int .i64 n] w fun r w' => r = .returned (.bool (decide (1 ≤ n ∧ n ≤ 8))) ∧ w' = w := by
  obtain ⟨b, hb⟩ : ∃ b, b = decide (1 ≤ n ∧ n ≤ 8) := ⟨_, rfl⟩
  rw [← hb]
  have H : Hid _ := hb
  clear hb
  go_enter Try.func50, Try.ntmps50
  go_wp2_with fail
  refine (within_any _ _ _ _).mono ?_
  rw [← H.out]
  rintro r w1 ⟨rfl, rfl⟩
  go_wp2
  go_ret
  exact ⟨rfl, rfl⟩

set_option maxHeartbeats 4000000 in
theorem inBounds_any (x1 x2 x3 x4 x5 x6 : Int) (w : World) : Calls Try.prog 55 #[lfV x1 x2 x3 x4 x5 x6] w fun r w' => r = .returned (.bool (decide (LfBd (x1, x2, x3, x4, x5, x6)))) ∧ w' = w.alloc (lfO x1 x2 x3 x4 x5 x6) := by
  obtain ⟨ans, hans⟩ : ∃ ans, ans = decide (LfBd (x1, x2, x3, x4, x5, x6)) := ⟨_, rfl⟩
  rw [← hans]
  have H : Hid _ := hans
  clear hans
  cases h1 : decide (0 ≤ x1 ∧ x1 ≤ 11)
  case false =>
    have E : Hid (ans = false) := by rw [H.out]; exact decide_eq_false fun h => of_decide_eq_false h1 h.1
    go_enter Try.func55, Try.ntmps55
    go_wp2_with fail
    refine (isBackend_any _ _).mono ?_
    rw [h1]
    rintro r w1 ⟨rfl, rfl⟩
    go_wp2
    go_ret
    exact ⟨by rw [E.out]; rfl, rfl⟩
  cases h2 : decide (1 ≤ x3 ∧ x3 ≤ 8)
  case false =>
    have E : Hid (ans = false) := by rw [H.out]; exact decide_eq_false fun h => of_decide_eq_false h2 h.2.1
    go_enter Try.func55, Try.ntmps55
    go_wp2_with fail
    refine (isBackend_any _ _).mono ?_
    rw [h1]
    rintro r w1 ⟨rfl, rfl⟩
    go_wp2_with fail
    refine (isWeight_any _ _).mono ?_
    rw [h2]
    rintro r w1 ⟨rfl, rfl⟩
    go_wp2
    go_ret
    exact ⟨by rw [E.out]; rfl, rfl⟩
  cases h3 : decide (0 ≤ x4 ∧ x4 ≤ 1099511627776)
  case false =>
    have E : Hid (ans = false) := by rw [H.out]; exact decide_eq_false fun h => of_decide_eq_false h3 h.2.2.1
    go_enter Try.func55, Try.ntmps55
    go_wp2_with fail
    refine (isBackend_any _ _).mono ?_
    rw [h1]
    rintro r w1 ⟨rfl, rfl⟩
    go_wp2_with fail
    refine (isWeight_any _ _).mono ?_
    rw [h2]
    rintro r w1 ⟨rfl, rfl⟩
    go_wp2_with fail
    refine (within_any _ _ _ _).mono ?_
    rw [h3]
    rintro r w1 ⟨rfl, rfl⟩
    go_wp2
    go_ret
    exact ⟨by rw [E.out]; rfl, rfl⟩
  cases h4 : decide (0 ≤ x5 ∧ x5 ≤ 1099511628276)
  case false =>
    have E : Hid (ans = false) := by rw [H.out]; exact decide_eq_false fun h => of_decide_eq_false h4 h.2.2.2.1
    go_enter Try.func55, Try.ntmps55
    go_wp2_with fail
    refine (isBackend_any _ _).mono ?_
    rw [h1]
    rintro r w1 ⟨rfl, rfl⟩
    go_wp2_with fail
    refine (isWeight_any _ _).mono ?_
    rw [h2]
    rintro r w1 ⟨rfl, rfl⟩
    go_wp2_with fail
    refine (within_any _ _ _ _).mono ?_
    rw [h3]
    rintro r w1 ⟨rfl, rfl⟩
    go_wp2_with fail
    refine (within_any _ _ _ _).mono ?_
    rw [h4]
    rintro r w1 ⟨rfl, rfl⟩
    go_wp2
    go_ret
    exact ⟨by rw [E.out]; rfl, rfl⟩
  cases h5 : decide (0 ≤ x6 ∧ x6 ≤ 1048576)
  case false =>
    have E : Hid (ans = false) := by rw [H.out]; exact decide_eq_false fun h => of_decide_eq_false h5 h.2.2.2.2
    go_enter Try.func55, Try.ntmps55
    go_wp2_with fail
    refine (isBackend_any _ _).mono ?_
    rw [h1]
    rintro r w1 ⟨rfl, rfl⟩
    go_wp2_with fail
    refine (isWeight_any _ _).mono ?_
    rw [h2]
    rintro r w1 ⟨rfl, rfl⟩
    go_wp2_with fail
    refine (within_any _ _ _ _).mono ?_
    rw [h3]
    rintro r w1 ⟨rfl, rfl⟩
    go_wp2_with fail
    refine (within_any _ _ _ _).mono ?_
    rw [h4]
    rintro r w1 ⟨rfl, rfl⟩
    go_wp2_with fail
    refine (within_any _ _ _ _).mono ?_
    rw [h5]
    rintro r w1 ⟨rfl, rfl⟩
    go_wp2
    go_ret
    exact ⟨by rw [E.out]; rfl, rfl⟩
  have E : Hid (ans = true) := by rw [H.out]; exact decide_eq_true ⟨of_decide_eq_true h1, of_decide_eq_true h2, of_decide_eq_true h3, of_decide_eq_true h4, of_decide_eq_true h5⟩
  go_enter Try.func55, Try.ntmps55
  go_wp2_with fail
  refine (isBackend_any _ _).mono ?_
  rw [h1]
  rintro r w1 ⟨rfl, rfl⟩
  go_wp2_with fail
  refine (isWeight_any _ _).mono ?_
  rw [h2]
  rintro r w1 ⟨rfl, rfl⟩
  go_wp2_with fail
  refine (within_any _ _ _ _).mono ?_
  rw [h3]
  rintro r w1 ⟨rfl, rfl⟩
  go_wp2_with fail
  refine (within_any _ _ _ _).mono ?_
  rw [h4]
  rintro r w1 ⟨rfl, rfl⟩
  go_wp2_with fail
  refine (within_any _ _ _ _).mono ?_
  rw [h5]
  rintro r w1 ⟨rfl, rfl⟩
  go_wp2
  go_ret
  exact ⟨by rw [E.out]; rfl, rfl⟩

theorem joining_any (n m : Int) (w : World) : Calls Try.prog 52 #[.int .i64 n, .int .i64 m] w fun r w' => r = .returned (lfV n 1 m 0 0 0) ∧ w' = w.alloc (lfO n 1 m 0 0 0) := by
  go_enter Try.func52, Try.ntmps52
  go_wp2
  exact bodyPost_ret (v := lfV n 1 m 0 0 0) (results_c Try.results52 rfl (load_row (P := Try.prog) (cs := [.int .i64 n, .int .i64 1, .int .i64 m, .int .i64 0, .int .i64 0, .int .i64 0]) (heap_alloc_new _ _) Try.underlying44 rfl (by kernel_rfl))) rfl ⟨rfl, rfl⟩

theorem grown_one (w : World) (o : Obj) : ∃ q os, w.alloc o = grow (w.drewN q) os := ⟨0, #[o], rfl⟩

theorem grown_alloc {w w' : World} (h : ∃ q os, w' = grow (w.drewN q) os) (o : Obj) : ∃ q os, w'.alloc o = grow (w.drewN q) os := by
  obtain ⟨q, os, rfl⟩ := h
  exact ⟨q, os ++ #[o], by rw [alloc_eq_grow, grow_grow]⟩

theorem grown_more {w w' : World} (h : ∃ q os, w' = grow (w.drewN q) os) (q : Nat) (os : Array Obj) : ∃ q' os', grow (w'.drewN q) os = grow (w.drewN q') os' := by
  obtain ⟨q1, os1, rfl⟩ := h
  exact ⟨q1 + q, os1 ++ os, by show grow (grow ((w.drewN q1).drewN q) os1) os = _; rw [grow_grow, World.drewN_drewN]⟩

theorem grown_below {w w' : World} (h : ∃ q os, w' = grow (w.drewN q) os) : Below w.heap.size w w' := by
  obtain ⟨q, os, rfl⟩ := h
  exact below_grow w q os

theorem inBounds_grown (x1 x2 x3 x4 x5 x6 : Int) (w : World) : Calls Try.prog 55 #[lfV x1 x2 x3 x4 x5 x6] w fun r w' => r = .returned (.bool (decide (LfBd (x1, x2, x3, x4, x5, x6)))) ∧ ∃ q os, w' = grow (w.drewN q) os :=
  (inBounds_any x1 x2 x3 x4 x5 x6 w).mono fun _ _ ⟨h1, h2⟩ => ⟨h1, by rw [h2]; exact grown_one _ _⟩

theorem joining_grown (n m : Int) (w : World) : Calls Try.prog 52 #[.int .i64 n, .int .i64 m] w fun r w' => r = .returned (lfV n 1 m 0 0 0) ∧ ∃ q os, w' = grow (w.drewN q) os :=
  (joining_any n m w).mono fun _ _ ⟨h1, h2⟩ => ⟨h1, by rw [h2]; exact grown_one _ _⟩

set_option maxHeartbeats 4000000 in
theorem lifeMayBe_join (x1 x3 x4 x5 x6 : Int) (w : World) : Calls Try.prog 48 #[lfV x1 1 x3 x4 x5 x6] w fun r w' => r = .returned (.bool (decide (LfOk (x1, 1, x3, x4, x5, x6)))) ∧ ∃ q os, w' = grow (w.drewN q) os := by
  obtain ⟨ans, hans⟩ : ∃ ans, ans = decide (LfOk (x1, 1, x3, x4, x5, x6)) := ⟨_, rfl⟩
  rw [← hans]
  have H : Hid _ := hans
  clear hans
  obtain ⟨bd, hbd⟩ : ∃ bd, bd = decide (LfBd (x1, 1, x3, x4, x5, x6)) := ⟨_, rfl⟩
  have HI : Hid (∀ W, Calls Try.prog 55 #[lfV x1 1 x3 x4 x5 x6] W fun r w' => r = .returned (.bool bd) ∧ ∃ q os, w' = grow (W.drewN q) os) := fun W => by rw [hbd]; exact inBounds_grown _ _ _ _ _ _ W
  have HJ : Hid (∀ W, Calls Try.prog 52 #[.int .i64 x1, .int .i64 x3] W fun r w' => r = .returned (lfV x1 1 x3 0 0 0) ∧ ∃ q os, w' = grow (W.drewN q) os) := fun W => joining_grown _ _ W
  obtain ⟨W0, hW0⟩ : ∃ W0, W0 = w.alloc (lfO x1 1 x3 x4 x5 x6) := ⟨_, rfl⟩
  have hR : W0.heap[w.heap.size]? = some (lfO x1 1 x3 x4 x5 x6) := by rw [hW0]; exact heap_alloc_new _ _
  have hG : ∃ q os, W0 = grow (w.drewN q) os := by rw [hW0]; exact grown_one _ _
  obtain ⟨c0, c1, c2, c3, c4, c5, hlt⟩ := six_cells hR
  have k0 : ∀ n' os, (grow (W0.drewN n') os).cell? ⟨w.heap.size, 0, none⟩ = some (.int .i64 x1) := cell_grown (World.block_lt_of_cell? _ _ c0) c0
  have k1 : ∀ n' os, (grow (W0.drewN n') os).cell? ⟨w.heap.size, 1, none⟩ = some (.int .i64 1) := cell_grown (World.block_lt_of_cell? _ _ c1) c1
  have k2 : ∀ n' os, (grow (W0.drewN n') os).cell? ⟨w.heap.size, 2, none⟩ = some (.int .i64 x3) := cell_grown (World.block_lt_of_cell? _ _ c2) c2
  have k3 : ∀ n' os, (grow (W0.drewN n') os).cell? ⟨w.heap.size, 3, none⟩ = some (.int .i64 x4) := cell_grown (World.block_lt_of_cell? _ _ c3) c3
  have k4 : ∀ n' os, (grow (W0.drewN n') os).cell? ⟨w.heap.size, 4, none⟩ = some (.int .i64 x5) := cell_grown (World.block_lt_of_cell? _ _ c4) c4
  have k5 : ∀ n' os, (grow (W0.drewN n') os).cell? ⟨w.heap.size, 5, none⟩ = some (.int .i64 x6) := cell_grown (World.block_lt_of_cell? _ _ c5) c5
  have H0 : Hid (_ ∧ _) := ⟨hW0, hG⟩
  have HB : Hid _ := hbd
  clear hW0 hG hR hbd
  cases bd
  case false =>
    have E : Hid (ans = false) := by rw [H.out]; exact decide_eq_false fun h => of_decide_eq_false HB.out.symm h.1
    clear H HB
    go_enter Try.func48, Try.ntmps48
    go_wp2_with fail
    rw [← H0.out.1]
    refine wp_region_quiet_grown mixed (by kernel_rfl) ?_
    repeat (first | go_big_quiet_skip | quiet_step (first | (go_at_call 55; exact Calls.grown_of (HI.out _)) | (go_at_call 52; exact Calls.grown_of (HJ.out _))))
    refine wpQuiet_nil ?_
    intro _ hw'
    obtain ⟨⟨nq, osq⟩, hw''⟩ := hw'
    subst hw''
    have HB2 : Hid _ := grown_more H0.out.2 nq osq
    generalize grow (W0.drewN nq) osq = w3 at HB2 ⊢
    go_wp2
    go_ret
    exact ⟨by rw [E.out]; rfl, HB2.out⟩
  by_cases h4 : x4 = 0
  case neg =>
    have E : Hid (ans = false) := by
      rw [H.out]
      refine decide_eq_false fun h => ?_
      rcases h.2 with h | h | h | h
      · exact h4 h.2.1
      · exact absurd h.1 (show ¬ (1 : Int) = 2 by decide)
      · exact absurd h (show ¬ (1 : Int) = 3 by decide)
      · exact absurd h (show ¬ (1 : Int) = 4 by decide)
    clear H HB
    go_enter Try.func48, Try.ntmps48
    go_wp2_with fail
    rw [← H0.out.1]
    refine wp_region_quiet_grown mixed (by kernel_rfl) ?_
    repeat (first | go_big_quiet_skip | quiet_step (first | (go_at_call 55; exact Calls.grown_of (HI.out _)) | (go_at_call 52; exact Calls.grown_of (HJ.out _))))
    refine wpQuiet_nil ?_
    intro _ hw'
    obtain ⟨⟨nq, osq⟩, hw''⟩ := hw'
    subst hw''
    have HB2 : Hid _ := grown_more H0.out.2 nq osq
    generalize grow (W0.drewN nq) osq = w3 at HB2 ⊢
    go_wp2
    go_ret
    exact ⟨by rw [E.out]; rfl, HB2.out⟩
  subst h4
  by_cases h5 : x5 = 0
  case neg =>
    have E : Hid (ans = false) := by
      rw [H.out]
      refine decide_eq_false fun h => ?_
      rcases h.2 with h | h | h | h
      · exact h5 h.2.2.1
      · exact absurd h.1 (show ¬ (1 : Int) = 2 by decide)
      · exact absurd h (show ¬ (1 : Int) = 3 by decide)
      · exact absurd h (show ¬ (1 : Int) = 4 by decide)
    clear H HB
    go_enter Try.func48, Try.ntmps48
    go_wp2_with fail
    rw [← H0.out.1]
    refine wp_region_quiet_grown mixed (by kernel_rfl) ?_
    repeat (first | go_big_quiet_skip | quiet_step (first | (go_at_call 55; exact Calls.grown_of (HI.out _)) | (go_at_call 52; exact Calls.grown_of (HJ.out _))))
    refine wpQuiet_nil ?_
    intro _ hw'
    obtain ⟨⟨nq, osq⟩, hw''⟩ := hw'
    subst hw''
    have HB2 : Hid _ := grown_more H0.out.2 nq osq
    generalize grow (W0.drewN nq) osq = w3 at HB2 ⊢
    go_wp2
    go_ret
    exact ⟨by rw [E.out]; rfl, HB2.out⟩
  subst h5
  by_cases h6 : x6 = 0
  case neg =>
    have E : Hid (ans = false) := by
      rw [H.out]
      refine decide_eq_false fun h => ?_
      rcases h.2 with h | h | h | h
      · exact h6 h.2.2.2
      · exact absurd h.1 (show ¬ (1 : Int) = 2 by decide)
      · exact absurd h (show ¬ (1 : Int) = 3 by decide)
      · exact absurd h (show ¬ (1 : Int) = 4 by decide)
    clear H HB
    go_enter Try.func48, Try.ntmps48
    go_wp2_with fail
    rw [← H0.out.1]
    refine wp_region_quiet_grown mixed (by kernel_rfl) ?_
    repeat (first | go_big_quiet_skip | quiet_step (first | (go_at_call 55; exact Calls.grown_of (HI.out _)) | (go_at_call 52; exact Calls.grown_of (HJ.out _))))
    refine wpQuiet_nil ?_
    intro _ hw'
    obtain ⟨⟨nq, osq⟩, hw''⟩ := hw'
    subst hw''
    have HB2 : Hid _ := grown_more H0.out.2 nq osq
    generalize grow (W0.drewN nq) osq = w3 at HB2 ⊢
    go_wp2
    go_ret
    exact ⟨by rw [E.out]; rfl, HB2.out⟩
  subst h6
  have E : Hid (ans = true) := by rw [H.out]; exact decide_eq_true ⟨of_decide_eq_true HB.out.symm, .inl ⟨rfl, rfl, rfl, rfl⟩⟩
  clear H HB
  go_enter Try.func48, Try.ntmps48
  go_wp2_with fail
  rw [← H0.out.1]
  refine wp_region_quiet_grown mixed (by kernel_rfl) ?_
  repeat (first | go_big_quiet_skip | quiet_step (first | (go_at_call 55; exact Calls.grown_of (HI.out _)) | (go_at_call 52; exact Calls.grown_of (HJ.out _))))
  refine wpQuiet_nil ?_
  intro _ hw'
  obtain ⟨⟨nq, osq⟩, hw''⟩ := hw'
  subst hw''
  have HB2 : Hid _ := grown_more H0.out.2 nq osq
  generalize grow (W0.drewN nq) osq = w3 at HB2 ⊢
  go_wp2
  go_ret
  exact ⟨by rw [E.out]; rfl, HB2.out⟩

set_option maxHeartbeats 4000000 in
theorem lifeMayBe_act (x1 x3 x4 x5 x6 : Int) (w : World) : Calls Try.prog 48 #[lfV x1 2 x3 x4 x5 x6] w fun r w' => r = .returned (.bool (decide (LfOk (x1, 2, x3, x4, x5, x6)))) ∧ ∃ q os, w' = grow (w.drewN q) os := by
  obtain ⟨ans, hans⟩ : ∃ ans, ans = decide (LfOk (x1, 2, x3, x4, x5, x6)) := ⟨_, rfl⟩
  rw [← hans]
  have H : Hid _ := hans
  clear hans
  obtain ⟨bd, hbd⟩ : ∃ bd, bd = decide (LfBd (x1, 2, x3, x4, x5, x6)) := ⟨_, rfl⟩
  have HI : Hid (∀ W, Calls Try.prog 55 #[lfV x1 2 x3 x4 x5 x6] W fun r w' => r = .returned (.bool bd) ∧ ∃ q os, w' = grow (W.drewN q) os) := fun W => by rw [hbd]; exact inBounds_grown _ _ _ _ _ _ W
  obtain ⟨W0, hW0⟩ : ∃ W0, W0 = w.alloc (lfO x1 2 x3 x4 x5 x6) := ⟨_, rfl⟩
  have hR : W0.heap[w.heap.size]? = some (lfO x1 2 x3 x4 x5 x6) := by rw [hW0]; exact heap_alloc_new _ _
  have hG : ∃ q os, W0 = grow (w.drewN q) os := by rw [hW0]; exact grown_one _ _
  obtain ⟨c0, c1, c2, c3, c4, c5, hlt⟩ := six_cells hR
  have H0 : Hid (_ ∧ _ ∧ _) := ⟨hW0, hG, hR⟩
  have HB : Hid _ := hbd
  clear hW0 hG hR hbd
  cases bd
  case false =>
    have E : Hid (ans = false) := by rw [H.out]; exact decide_eq_false fun h => of_decide_eq_false HB.out.symm h.1
    clear H HB
    go_enter Try.func48, Try.ntmps48
    go_wp2_with fail
    rw [← H0.out.1]
    refine (HI.out _).mono ?_
    rintro r w1 ⟨rfl, hg⟩
    obtain ⟨c0, c1, c2, c3, c4, c5, hlt⟩ := six_cells (box_below H0.out.2.2 (grown_below hg))
    obtain ⟨q, os, rfl⟩ := hg
    have HB2 : Hid _ := grown_more H0.out.2.1 q os
    generalize grow (W0.drewN q) os = w3 at *
    go_wp2
    go_ret
    exact ⟨by rw [E.out]; rfl, HB2.out⟩
  by_cases h5 : x5 = 0
  case neg =>
    have e5 : (x5 == 0) = false := by simpa using h5
    have E : Hid (ans = false) := by
      rw [H.out]
      refine decide_eq_false fun h => ?_
      rcases h.2 with h | h | h | h
      · exact absurd h.1 (show ¬ (2 : Int) = 1 by decide)
      · exact h5 h.2.1
      · exact absurd h (show ¬ (2 : Int) = 3 by decide)
      · exact absurd h (show ¬ (2 : Int) = 4 by decide)
    clear H HB
    go_enter Try.func48, Try.ntmps48
    go_wp2_with fail
    rw [← H0.out.1]
    refine (HI.out _).mono ?_
    rintro r w1 ⟨rfl, hg⟩
    obtain ⟨c0, c1, c2, c3, c4, c5, hlt⟩ := six_cells (box_below H0.out.2.2 (grown_below hg))
    obtain ⟨q, os, rfl⟩ := hg
    have HB2 : Hid _ := grown_more H0.out.2.1 q os
    generalize grow (W0.drewN q) os = w3 at *
    go_wp2
    go_ret
    exact ⟨by rw [E.out]; rfl, HB2.out⟩
  subst h5
  by_cases h6 : x6 = 0
  case neg =>
    have e6 : (x6 == 0) = false := by simpa using h6
    have E : Hid (ans = false) := by
      rw [H.out]
      refine decide_eq_false fun h => ?_
      rcases h.2 with h | h | h | h
      · exact absurd h.1 (show ¬ (2 : Int) = 1 by decide)
      · exact h6 h.2.2
      · exact absurd h (show ¬ (2 : Int) = 3 by decide)
      · exact absurd h (show ¬ (2 : Int) = 4 by decide)
    clear H HB
    go_enter Try.func48, Try.ntmps48
    go_wp2_with fail
    rw [← H0.out.1]
    refine (HI.out _).mono ?_
    rintro r w1 ⟨rfl, hg⟩
    obtain ⟨c0, c1, c2, c3, c4, c5, hlt⟩ := six_cells (box_below H0.out.2.2 (grown_below hg))
    obtain ⟨q, os, rfl⟩ := hg
    have HB2 : Hid _ := grown_more H0.out.2.1 q os
    generalize grow (W0.drewN q) os = w3 at *
    go_wp2
    go_ret
    exact ⟨by rw [E.out]; rfl, HB2.out⟩
  subst h6
  have E : Hid (ans = true) := by rw [H.out]; exact decide_eq_true ⟨of_decide_eq_true HB.out.symm, .inr (.inl ⟨rfl, rfl, rfl⟩)⟩
  clear H HB
  go_enter Try.func48, Try.ntmps48
  go_wp2_with fail
  rw [← H0.out.1]
  refine (HI.out _).mono ?_
  rintro r w1 ⟨rfl, hg⟩
  obtain ⟨c0, c1, c2, c3, c4, c5, hlt⟩ := six_cells (box_below H0.out.2.2 (grown_below hg))
  obtain ⟨q, os, rfl⟩ := hg
  have HB2 : Hid _ := grown_more H0.out.2.1 q os
  generalize grow (W0.drewN q) os = w3 at *
  go_wp2
  go_ret
  exact ⟨by rw [E.out]; rfl, HB2.out⟩

set_option maxHeartbeats 4000000 in
theorem lifeMayBe_drain (x1 x3 x4 x5 x6 : Int) (w : World) : Calls Try.prog 48 #[lfV x1 3 x3 x4 x5 x6] w fun r w' => r = .returned (.bool (decide (LfOk (x1, 3, x3, x4, x5, x6)))) ∧ ∃ q os, w' = grow (w.drewN q) os := by
  obtain ⟨ans, hans⟩ : ∃ ans, ans = decide (LfOk (x1, 3, x3, x4, x5, x6)) := ⟨_, rfl⟩
  rw [← hans]
  have H : Hid _ := hans
  clear hans
  obtain ⟨bd, hbd⟩ : ∃ bd, bd = decide (LfBd (x1, 3, x3, x4, x5, x6)) := ⟨_, rfl⟩
  have HI : Hid (∀ W, Calls Try.prog 55 #[lfV x1 3 x3 x4 x5 x6] W fun r w' => r = .returned (.bool bd) ∧ ∃ q os, w' = grow (W.drewN q) os) := fun W => by rw [hbd]; exact inBounds_grown _ _ _ _ _ _ W
  obtain ⟨W0, hW0⟩ : ∃ W0, W0 = w.alloc (lfO x1 3 x3 x4 x5 x6) := ⟨_, rfl⟩
  have hR : W0.heap[w.heap.size]? = some (lfO x1 3 x3 x4 x5 x6) := by rw [hW0]; exact heap_alloc_new _ _
  have hG : ∃ q os, W0 = grow (w.drewN q) os := by rw [hW0]; exact grown_one _ _
  obtain ⟨c0, c1, c2, c3, c4, c5, hlt⟩ := six_cells hR
  have H0 : Hid (_ ∧ _ ∧ _) := ⟨hW0, hG, hR⟩
  have HB : Hid _ := hbd
  clear hW0 hG hR hbd
  have E : Hid (ans = bd) := by
    rw [H.out, HB.out]
    exact decide_eq_decide.2 ⟨fun h => h.1, fun h => ⟨h, .inr (.inr (.inl rfl))⟩⟩
  clear H HB
  go_enter Try.func48, Try.ntmps48
  go_wp2_with fail
  rw [← H0.out.1]
  refine (HI.out _).mono ?_
  rintro r w1 ⟨rfl, hg⟩
  obtain ⟨c0, c1, c2, c3, c4, c5, hlt⟩ := six_cells (box_below H0.out.2.2 (grown_below hg))
  obtain ⟨q, os, rfl⟩ := hg
  have HB2 : Hid _ := grown_more H0.out.2.1 q os
  generalize grow (W0.drewN q) os = w3 at *
  go_wp2
  go_ret
  exact ⟨by rw [E.out]; rfl, HB2.out⟩

set_option maxHeartbeats 4000000 in
theorem lifeMayBe_ret (x1 x3 x4 x5 x6 : Int) (w : World) : Calls Try.prog 48 #[lfV x1 4 x3 x4 x5 x6] w fun r w' => r = .returned (.bool (decide (LfOk (x1, 4, x3, x4, x5, x6)))) ∧ ∃ q os, w' = grow (w.drewN q) os := by
  obtain ⟨ans, hans⟩ : ∃ ans, ans = decide (LfOk (x1, 4, x3, x4, x5, x6)) := ⟨_, rfl⟩
  rw [← hans]
  have H : Hid _ := hans
  clear hans
  obtain ⟨bd, hbd⟩ : ∃ bd, bd = decide (LfBd (x1, 4, x3, x4, x5, x6)) := ⟨_, rfl⟩
  have HI : Hid (∀ W, Calls Try.prog 55 #[lfV x1 4 x3 x4 x5 x6] W fun r w' => r = .returned (.bool bd) ∧ ∃ q os, w' = grow (W.drewN q) os) := fun W => by rw [hbd]; exact inBounds_grown _ _ _ _ _ _ W
  obtain ⟨W0, hW0⟩ : ∃ W0, W0 = w.alloc (lfO x1 4 x3 x4 x5 x6) := ⟨_, rfl⟩
  have hR : W0.heap[w.heap.size]? = some (lfO x1 4 x3 x4 x5 x6) := by rw [hW0]; exact heap_alloc_new _ _
  have hG : ∃ q os, W0 = grow (w.drewN q) os := by rw [hW0]; exact grown_one _ _
  obtain ⟨c0, c1, c2, c3, c4, c5, hlt⟩ := six_cells hR
  have H0 : Hid (_ ∧ _ ∧ _) := ⟨hW0, hG, hR⟩
  have HB : Hid _ := hbd
  clear hW0 hG hR hbd
  have E : Hid (ans = bd) := by
    rw [H.out, HB.out]
    exact decide_eq_decide.2 ⟨fun h => h.1, fun h => ⟨h, .inr (.inr (.inr rfl))⟩⟩
  clear H HB
  go_enter Try.func48, Try.ntmps48
  go_wp2_with fail
  rw [← H0.out.1]
  refine (HI.out _).mono ?_
  rintro r w1 ⟨rfl, hg⟩
  obtain ⟨c0, c1, c2, c3, c4, c5, hlt⟩ := six_cells (box_below H0.out.2.2 (grown_below hg))
  obtain ⟨q, os, rfl⟩ := hg
  have HB2 : Hid _ := grown_more H0.out.2.1 q os
  generalize grow (W0.drewN q) os = w3 at *
  go_wp2
  go_ret
  exact ⟨by rw [E.out]; rfl, HB2.out⟩

set_option maxHeartbeats 4000000 in
theorem lifeMayBe_any (x1 x2 x3 x4 x5 x6 : Int) (w : World) : Calls Try.prog 48 #[lfV x1 x2 x3 x4 x5 x6] w fun r w' => r = .returned (.bool (decide (LfOk (x1, x2, x3, x4, x5, x6)))) ∧ ∃ q os, w' = grow (w.drewN q) os := by
  by_cases h1 : x2 = 1
  · subst h1; exact lifeMayBe_join _ _ _ _ _ _
  by_cases h2 : x2 = 2
  · subst h2; exact lifeMayBe_act _ _ _ _ _ _
  by_cases h3 : x2 = 3
  · subst h3; exact lifeMayBe_drain _ _ _ _ _ _
  by_cases h4 : x2 = 4
  · subst h4; exact lifeMayBe_ret _ _ _ _ _ _
  have E : Hid (decide (LfOk (x1, x2, x3, x4, x5, x6)) = false) := by
    refine decide_eq_false fun h => ?_
    rcases h.2 with h | h | h | h
    · exact h1 h.1
    · exact h2 h.1
    · exact h3 h
    · exact h4 h
  have e1 : (x2 == 1) = false := by simpa using h1
  have e2 : (x2 == 2) = false := by simpa using h2
  have e3 : (x2 == 3) = false := by simpa using h3
  have e4 : (x2 == 4) = false := by simpa using h4
  rw [E.out]
  go_enter Try.func48, Try.ntmps48
  go_wp2
  go_ret
  exact ⟨rfl, grown_one _ _⟩
end Go.Proofs.Ytlpedligkofegaa.Walks
