/-
  Watches and healths: what is right, what may be; the program's checks. No condition.
-/
import Derived.Test.YtofnhdkcadoiiaaBools
import Derived.WalkKit
import Derived.ProofKit
import Derived.Handy
import Derived.LoopTactic
import Derived.Below
import Derived.Laws.BitsAllLaws
import Derived.RegionTactic
import Derived.Deep.RegionHeld3
import Derived.Deep.DrawnRows
import Derived.Deep.AppendLies
import Derived.Laws.OwnMore
import Derived.Deep.Onto
import Derived.Deep.QuietTactic
import Derived.BigQuiet
namespace Go.Proofs.Ytofnhdkcadoiiaa.Walks
open Go.RowKit
set_option linter.unusedVariables false
set_option linter.unusedSimpArgs false
attribute [local go_sem ↓] Go.wp_at_zero Go.wp_at_succ

/-- A watch that is right. -/
abbrev WatOk (n f d : Int) : Prop := (1 ≤ n ∧ n ≤ 16) ∧ (1 ≤ f ∧ f ≤ n) ∧ (1 ≤ d ∧ d ≤ 500)

def watE (n f d : Int) : Int := if WatOk n f d then 0 else 2

/-- A health that may be: k Marks. -/
abbrev HOk (n : Int) (k : Nat) (o : Bool) (u t : Int) : Prop := (k : Int) ≤ n ∧ (0 ≤ t ∧ t ≤ 10) ∧ (0 ≤ u ∧ u ≤ 1099511628276) ∧ (o = true ∨ u = 0)

def allE (n f d : Int) (k : Nat) (o : Bool) (u t now : Int) : Int :=
  if WatOk n f d then (if 0 ≤ now ∧ now ≤ 1099511627776 then (if HOk n k o u t then 0 else 6) else 2) else 2

theorem wat_yes {n f d : Int} (h : WatOk n f d) : watE n f d = 0 := if_pos h
theorem wat_no {n f d : Int} (h : ¬ WatOk n f d) : watE n f d = 2 := if_neg h

theorem all_cases (n f d : Int) (k : Nat) (o : Bool) (u t now : Int) : (allE n f d k o u t now = 2 ∧ (¬ WatOk n f d ∨ ¬ (0 ≤ now ∧ now ≤ 1099511627776))) ∨ (allE n f d k o u t now = 6 ∧ WatOk n f d ∧ (0 ≤ now ∧ now ≤ 1099511627776) ∧ ¬ HOk n k o u t) ∨ (allE n f d k o u t now = 0 ∧ WatOk n f d ∧ (0 ≤ now ∧ now ≤ 1099511627776) ∧ HOk n k o u t) := by
  unfold allE
  by_cases h : WatOk n f d
  · rw [if_pos h]
    by_cases h2 : 0 ≤ now ∧ now ≤ 1099511627776
    · rw [if_pos h2]
      by_cases h3 : HOk n k o u t
      · rw [if_pos h3]; exact .inr (.inr ⟨rfl, h, h2, h3⟩)
      · rw [if_neg h3]; exact .inr (.inl ⟨rfl, h, h2, h3⟩)
    · rw [if_neg h2]; exact .inl ⟨rfl, .inr h2⟩
  · rw [if_neg h]; exact .inl ⟨rfl, .inl h⟩

abbrev watV (n f d : Int) : Value := .agg #[.int .i64 n, .int .i64 f, .int .i64 d]
abbrev hltV (v : Value) (o : Bool) (u t : Int) : Value := .agg #[v, .bool o, .int .i64 u, .int .i64 t]

set_option maxHeartbeats 1000000 in
theorem within_any (n lo hi : Int) (w : World) : Calls Try.prog 21 #[.int .i64 n, .int .i64 lo, .int .i64 hi] w fun r w' => r = .returned (.bool (decide (lo ≤ n ∧ n ≤ hi))) ∧ w' = w := by
  obtain ⟨ans, hans⟩ : ∃ ans, ans = decide (lo ≤ n ∧ n ≤ hi) := ⟨_, rfl⟩
  rw [← hans]
  have H : Hid _ := hans
  clear hans
  cases h1 : decide (lo ≤ n)
  · go_enter Try.func21, Try.ntmps21
    go_wp2
    go_ret
    exact ⟨by rw [H.out, decide_eq_false (fun h => of_decide_eq_false h1 h.1)]; rfl, rfl⟩
  · cases h2 : decide (n ≤ hi)
    · go_enter Try.func21, Try.ntmps21
      go_wp2
      go_ret
      exact ⟨by rw [H.out, decide_eq_false (fun h => of_decide_eq_false h2 h.2)]; rfl, rfl⟩
    · go_enter Try.func21, Try.ntmps21
      go_wp2
      go_ret
      exact ⟨by rw [H.out, decide_eq_true ⟨of_decide_eq_true h1, of_decide_eq_true h2⟩]; rfl, rfl⟩

set_option maxHeartbeats 2000000 in
theorem check_any (n f d : Int) (w : World) : Calls Try.prog 9 #[watV n f d] w fun r w' => r = .returned (.int .i64 (watE n f d)) ∧ Below w.heap.size w w' := by
  obtain ⟨W0, hW0⟩ : ∃ W0, W0 = w.alloc (.cells #[.int .i64 n, .int .i64 f, .int .i64 d] 23) := ⟨_, rfl⟩
  have hB0 : W0.heap[w.heap.size]? = some (.cells #[.int .i64 n, .int .i64 f, .int .i64 d] 23 (0, 0)) := by rw [hW0]; exact heap_alloc_new _ _
  have hb0 : Below w.heap.size w W0 := by rw [hW0]; exact below_new _
  obtain ⟨c0, c1, c2, _⟩ := three_cells hB0
  have H : Hid (_ ∧ _) := ⟨hW0, hb0⟩
  clear hW0 hb0 hB0
  cases h1 : decide (1 ≤ n ∧ n ≤ 16)
  · have E : Hid (watE n f d = 2) := if_neg fun h => of_decide_eq_false h1 h.1
    go_enter Try.func9, Try.ntmps9
    go_wp2_with fail
    rw [← H.out.1]
    refine (within_any _ _ _ _).mono ?_
    rintro e w' ⟨rfl, rfl⟩
    rw [h1]
    go_wp2
    go_ret
    exact ⟨by rw [E.out]; rfl, H.out.2⟩
  cases h2 : decide (1 ≤ f ∧ f ≤ n)
  · have E : Hid (watE n f d = 2) := if_neg fun h => of_decide_eq_false h2 h.2.1
    go_enter Try.func9, Try.ntmps9
    go_wp2_with fail
    rw [← H.out.1]
    refine (within_any _ _ _ _).mono ?_
    rintro e w' ⟨rfl, rfl⟩
    rw [h1]
    go_wp2_with fail
    refine (within_any _ _ _ _).mono ?_
    rintro e w' ⟨rfl, rfl⟩
    rw [h2]
    go_wp2
    go_ret
    exact ⟨by rw [E.out]; rfl, H.out.2⟩
  cases h3 : decide (1 ≤ d ∧ d ≤ 500)
  · have E : Hid (watE n f d = 2) := if_neg fun h => of_decide_eq_false h3 h.2.2
    go_enter Try.func9, Try.ntmps9
    go_wp2_with fail
    rw [← H.out.1]
    refine (within_any _ _ _ _).mono ?_
    rintro e w' ⟨rfl, rfl⟩
    rw [h1]
    go_wp2_with fail
    refine (within_any _ _ _ _).mono ?_
    rintro e w' ⟨rfl, rfl⟩
    rw [h2]
    go_wp2_with fail
    refine (within_any _ _ _ _).mono ?_
    rintro e w' ⟨rfl, rfl⟩
    rw [h3]
    go_wp2
    go_ret
    exact ⟨by rw [E.out]; rfl, H.out.2⟩
  · have E : Hid (watE n f d = 0) := if_pos ⟨of_decide_eq_true h1, of_decide_eq_true h2, of_decide_eq_true h3⟩
    go_enter Try.func9, Try.ntmps9
    go_wp2_with fail
    rw [← H.out.1]
    refine (within_any _ _ _ _).mono ?_
    rintro e w' ⟨rfl, rfl⟩
    rw [h1]
    go_wp2_with fail
    refine (within_any _ _ _ _).mono ?_
    rintro e w' ⟨rfl, rfl⟩
    rw [h2]
    go_wp2_with fail
    refine (within_any _ _ _ _).mono ?_
    rintro e w' ⟨rfl, rfl⟩
    rw [h3]
    go_wp2
    go_ret
    exact ⟨by rw [E.out]; rfl, H.out.2⟩

theorem four_cells {w : World} {g : Nat} {a b c d : Value} {T : TypeId} (h : w.heap[g]? = some (.cells #[a, b, c, d] T (0, 0))) : w.cell? ⟨g, 0, none⟩ = some a ∧ w.cell? ⟨g, 1, none⟩ = some b ∧ w.cell? ⟨g, 2, none⟩ = some c ∧ w.cell? ⟨g, 3, none⟩ = some d ∧ g < w.heap.size :=
  ⟨by simp [World.cell?, h], by simp [World.cell?, h], by simp [World.cell?, h], by simp [World.cell?, h], (Array.getElem?_eq_some_iff.1 h).1⟩

theorem four_froz {w : World} {g : Nat} {a b c d : Value} {T : TypeId} (h : w.heap[g]? = some (.cells #[a, b, c, d] T (0, 0))) : w.frozen? ⟨g, 0, none⟩ = false ∧ w.frozen? ⟨g, 1, none⟩ = false ∧ w.frozen? ⟨g, 2, none⟩ = false ∧ w.frozen? ⟨g, 3, none⟩ = false :=
  ⟨by simp [World.frozen?, h], by simp [World.frozen?, h], by simp [World.frozen?, h], by simp [World.frozen?, h]⟩

/-- The two boxes of a call that takes a watch and a health. -/
def Hx (w W : World) (n f d : Int) (v : Value) (o : Bool) (u t : Int) : Prop :=
  W.heap[w.heap.size]? = some (.cells #[.int .i64 n, .int .i64 f, .int .i64 d] 23 (0, 0)) ∧ W.heap[w.heap.size + 1]? = some (.cells #[v, .bool o, .int .i64 u, .int .i64 t] 29 (0, 0)) ∧ Below w.heap.size w W

theorem hx_new (w : World) (n f d : Int) (v : Value) (o : Bool) (u t : Int) : Hx w ((w.alloc (.cells #[.int .i64 n, .int .i64 f, .int .i64 d] 23)).alloc (.cells #[v, .bool o, .int .i64 u, .int .i64 t] 29)) n f d v o u t :=
  ⟨heap_old _ _ (heap_alloc_new _ _), heap_second _ _ _, ((Below.refl _ _).alloc (Nat.le_refl _) _).alloc (by simp) _⟩

theorem Hx.below {w W W' : World} {n f d : Int} {v : Value} {o : Bool} {u t : Int} (h : Hx w W n f d v o u t) (hb : Below W.heap.size W W') : Hx w W' n f d v o u t :=
  ⟨box_below h.1 hb, box_below h.2.1 hb, h.2.2.trans (hb.mono h.2.2.size)⟩

theorem Hx.cells {w W : World} {n f d : Int} {v : Value} {o : Bool} {u t : Int} (h : Hx w W n f d v o u t) : W.cell? ⟨w.heap.size, 0, none⟩ = some (.int .i64 n) ∧ W.cell? ⟨w.heap.size, 1, none⟩ = some (.int .i64 f) ∧ W.cell? ⟨w.heap.size, 2, none⟩ = some (.int .i64 d) ∧ W.cell? ⟨w.heap.size + 1, 0, none⟩ = some v ∧ W.cell? ⟨w.heap.size + 1, 1, none⟩ = some (.bool o) ∧ W.cell? ⟨w.heap.size + 1, 2, none⟩ = some (.int .i64 u) ∧ W.cell? ⟨w.heap.size + 1, 3, none⟩ = some (.int .i64 t) := by
  obtain ⟨c0, c1, c2, _⟩ := three_cells h.1
  obtain ⟨c3, c4, c5, c6, _⟩ := four_cells h.2.1
  exact ⟨c0, c1, c2, c3, c4, c5, c6⟩

set_option maxHeartbeats 4000000 in
theorem mayBe_any (n f d : Int) (p : Option Addr) (k c : Nat) (o : Bool) (u t : Int) (w : World) (hn : n ≤ 16) : Calls Try.prog 32 #[watV n f d, hltV (.slice p k c) o u t] w fun r w' => r = .returned (.bool (decide (HOk n k o u t))) ∧ Below w.heap.size w w' := by
  obtain ⟨W0, hW0⟩ : ∃ W0, W0 = (w.alloc (.cells #[.int .i64 n, .int .i64 f, .int .i64 d] 23)).alloc (.cells #[.slice p k c, .bool o, .int .i64 u, .int .i64 t] 29) := ⟨_, rfl⟩
  have hX0 : Hx w W0 n f d (.slice p k c) o u t := by rw [hW0]; exact hx_new _ _ _ _ _ _ _ _
  obtain ⟨c0, c1, c2, c3, c4, c5, c6⟩ := hX0.cells
  have H : Hid (_ ∧ Below w.heap.size w W0) := ⟨hW0, hX0.2.2⟩
  clear hW0 hX0
  cases h1 : decide ((k : Int) ≤ n)
  · have E : Hid (decide (HOk n k o u t) = false) := decide_eq_false fun h => of_decide_eq_false h1 h.1
    go_enter Try.func32, Try.ntmps32
    go_wp2_with fail
    rw [← H.out.1]
    go_wp2
    go_ret
    exact ⟨by rw [E.out]; rfl, H.out.2⟩
  cases h2 : decide (0 ≤ t ∧ t ≤ 10)
  · have E : Hid (decide (HOk n k o u t) = false) := decide_eq_false fun h => of_decide_eq_false h2 h.2.1
    go_enter Try.func32, Try.ntmps32
    go_wp2_with fail
    rw [← H.out.1]
    refine (within_any _ _ _ _).mono ?_
    rintro e w' ⟨rfl, rfl⟩
    rw [h2]
    go_wp2
    go_ret
    exact ⟨by rw [E.out]; rfl, H.out.2⟩
  cases h3 : decide (0 ≤ u ∧ u ≤ 1099511628276)
  · have E : Hid (decide (HOk n k o u t) = false) := decide_eq_false fun h => of_decide_eq_false h3 h.2.2.1
    go_enter Try.func32, Try.ntmps32
    go_wp2_with fail
    rw [← H.out.1]
    refine (within_any _ _ _ _).mono ?_
    rintro e w' ⟨rfl, rfl⟩
    rw [h2]
    go_wp2_with fail
    refine (within_any _ _ _ _).mono ?_
    rintro e w' ⟨rfl, rfl⟩
    rw [h3]
    go_wp2
    go_ret
    exact ⟨by rw [E.out]; rfl, H.out.2⟩
  cases o
  · have E : Hid (decide (HOk n k false u t) = (u == 0)) := Bool.eq_iff_iff.2 ⟨fun h => by simpa using (of_decide_eq_true h).2.2.2.resolve_left (by decide), fun h => decide_eq_true ⟨of_decide_eq_true h1, of_decide_eq_true h2, of_decide_eq_true h3, .inr (by simpa using h)⟩⟩
    go_enter Try.func32, Try.ntmps32
    go_wp2_with fail
    rw [← H.out.1]
    refine (within_any _ _ _ _).mono ?_
    rintro e w' ⟨rfl, rfl⟩
    rw [h2]
    go_wp2_with fail
    refine (within_any _ _ _ _).mono ?_
    rintro e w' ⟨rfl, rfl⟩
    rw [h3]
    go_wp2
    go_ret
    exact ⟨by rw [E.out]; rfl, H.out.2⟩
  · have E : Hid (decide (HOk n k true u t) = true) := decide_eq_true ⟨of_decide_eq_true h1, of_decide_eq_true h2, of_decide_eq_true h3, .inl rfl⟩
    go_enter Try.func32, Try.ntmps32
    go_wp2_with fail
    rw [← H.out.1]
    refine (within_any _ _ _ _).mono ?_
    rintro e w' ⟨rfl, rfl⟩
    rw [h2]
    go_wp2_with fail
    refine (within_any _ _ _ _).mono ?_
    rintro e w' ⟨rfl, rfl⟩
    rw [h3]
    go_wp2
    go_ret
    exact ⟨by rw [E.out]; rfl, H.out.2⟩

set_option maxHeartbeats 4000000 in
theorem checkAll_any (n f d : Int) (p : Option Addr) (k c : Nat) (o : Bool) (u t now : Int) (w : World) : Calls Try.prog 24 #[watV n f d, hltV (.slice p k c) o u t, .int .i64 now] w fun r w' => r = .returned (.int .i64 (allE n f d k o u t now)) ∧ Below w.heap.size w w' := by
  obtain ⟨W0, hW0⟩ : ∃ W0, W0 = (w.alloc (.cells #[.int .i64 n, .int .i64 f, .int .i64 d] 23)).alloc (.cells #[.slice p k c, .bool o, .int .i64 u, .int .i64 t] 29) := ⟨_, rfl⟩
  have hX0 : Hx w W0 n f d (.slice p k c) o u t := by rw [hW0]; exact hx_new _ _ _ _ _ _ _ _
  obtain ⟨c0, c1, c2, c3, c4, c5, c6⟩ := hX0.cells
  have H : Hid (_ ∧ Hx _ _ _ _ _ _ _ _ _) := ⟨hW0, hX0⟩
  clear hW0 hX0
  go_enter Try.func24, Try.ntmps24
  go_wp2_with fail
  rw [← H.out.1]
  refine (check_any n f d _).mono ?_
  rintro r w1 ⟨rfl, hb1⟩
  have hX1 := H.out.2.below hb1
  clear c0 c1 c2 c3 c4 c5 c6 hb1 H
  obtain ⟨c0, c1, c2, c3, c4, c5, c6⟩ := hX1.cells
  have HX : Hid (Hx _ _ _ _ _ _ _ _ _) := hX1
  clear hX1
  by_cases hok : WatOk n f d
  · rw [wat_yes hok]
    have hn := hok.1.2
    cases h2 : decide (0 ≤ now ∧ now ≤ 1099511627776)
    · have E : Hid (allE n f d k o u t now = 2) := (by unfold allE; rw [if_pos hok, if_neg (of_decide_eq_false h2)] : allE n f d k o u t now = 2)
      clear hok
      go_wp2_with fail
      refine (within_any _ _ _ _).mono ?_
      rintro e w' ⟨rfl, rfl⟩
      rw [h2]
      go_wp2
      go_ret
      exact ⟨by rw [E.out]; rfl, HX.out.2.2⟩
    cases h3 : decide (HOk n k o u t)
    · have E : Hid (allE n f d k o u t now = 6) := (by unfold allE; rw [if_pos hok, if_pos (of_decide_eq_true h2), if_neg (of_decide_eq_false h3)] : allE n f d k o u t now = 6)
      have H3 : Hid _ := h3
      clear hok h3
      go_wp2_with fail
      refine (within_any _ _ _ _).mono ?_
      rintro e w' ⟨rfl, rfl⟩
      rw [h2]
      go_wp2_with fail
      refine (mayBe_any n f d p k c o u t _ hn).mono ?_
      rintro r w2 ⟨rfl, hb2⟩
      rw [H3.out]
      have HB : Hid _ := HX.out.2.2.trans (hb2.mono HX.out.2.2.size)
      clear hb2 c0 c1 c2 c3 c4 c5 c6
      go_wp2
      go_ret
      exact ⟨by rw [E.out]; rfl, HB.out⟩
    · have E : Hid (allE n f d k o u t now = 0) := (by unfold allE; rw [if_pos hok, if_pos (of_decide_eq_true h2), if_pos (of_decide_eq_true h3)] : allE n f d k o u t now = 0)
      have H3 : Hid _ := h3
      clear hok h3
      go_wp2_with fail
      refine (within_any _ _ _ _).mono ?_
      rintro e w' ⟨rfl, rfl⟩
      rw [h2]
      go_wp2_with fail
      refine (mayBe_any n f d p k c o u t _ hn).mono ?_
      rintro r w2 ⟨rfl, hb2⟩
      rw [H3.out]
      have HB : Hid _ := HX.out.2.2.trans (hb2.mono HX.out.2.2.size)
      clear hb2 c0 c1 c2 c3 c4 c5 c6
      go_wp2
      go_ret
      exact ⟨by rw [E.out]; rfl, HB.out⟩
  · rw [wat_no hok]
    have E : Hid (allE n f d k o u t now = 2) := if_neg hok
    clear hok
    go_wp2
    go_ret
    exact ⟨by rw [E.out]; rfl, HX.out.2.2⟩
end Go.Proofs.Ytofnhdkcadoiiaa.Walks
