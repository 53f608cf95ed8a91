/-
  bucket, part 1: contracts of its functions, and what they lean on. Conditions: what is read can be read.
-/
import Derived.Test.YtbabcpdcgncigaaChecked
import Derived.Test.YtbabcpdcgncigaaRows
import Derived.Deep.MidRow
import Derived.Deep.Upon
import Derived.WalkKit
import Derived.ProofKit
import Derived.Handy
import Derived.LoopTactic
import Derived.Below
import Derived.Laws.BitsAllLaws
import Derived.RegionTactic
import Derived.Deep.RegionHeld3
import Derived.Deep.DrawnRows
import Derived.Deep.AppendLies
import Derived.Laws.OwnMore
import Derived.Deep.Onto
import Derived.Deep.QuietTactic
import Derived.BigQuiet
import Derived.Shelf.SlSortCmp.QuietGrown
import Derived.ChangeSame
import Derived.SizedLaws
import Derived.Deep.Slices
namespace Go.Proofs.Ytbabcpdcgncigaa.Bk
open Go.RowKit
set_option linter.unusedVariables false
set_option linter.unusedSimpArgs false
attribute [local go_sem ↓] Go.wp_at_zero Go.wp_at_succ
section
def RowAt (w : World) (v : Value) (n : Nat) (xs : List Value) : Prop :=
  ∃ a cap, v = .slice a n cap ∧ n ≤ cap ∧ cap ≤ maxLen ∧ (n = 0 ∧ xs = [] ∨ ∃ b off, a = some ⟨b, off, none⟩ ∧ b < w.heap.size ∧ ∀ i, i < xs.length → w.cell? ⟨b, off + i, none⟩ = xs[i]?)

theorem RowAt.below {w w' : World} {v : Value} {n : Nat} {xs : List Value} (h : RowAt w v n xs) (hb : Below w.heap.size w w') : RowAt w' v n xs := by
  obtain ⟨a, cap, hv, hc, hm, h1 | ⟨b, off, h1, h2, h3⟩⟩ := h
  · exact ⟨a, cap, hv, hc, hm, .inl h1⟩
  · exact ⟨a, cap, hv, hc, hm, .inr ⟨b, off, h1, Nat.lt_of_lt_of_le h2 hb.size, fun i hi => by rw [hb.cell (p := ⟨b, off + i, none⟩) h2]; exact h3 i hi⟩⟩

theorem heap_old (w : World) (o : Obj) {k : Nat} {x : Obj} (h : w.heap[k]? = some x) : (w.alloc o).heap[k]? = some x := by
  rw [Below.heap_alloc _ _ _ (Array.getElem?_eq_some_iff.1 h).1]; exact h

theorem heap_second (w : World) (o p : Obj) : ((w.alloc o).alloc p).heap[w.heap.size + 1]? = some p := by
  have := heap_alloc_new (w.alloc o) p
  simpa using this

theorem box_below {w w' : World} {g : Nat} {o : Obj} (h : w.heap[g]? = some o) (hb : Below w.heap.size w w') : w'.heap[g]? = some o := (hb.block g (Array.getElem?_eq_some_iff.1 h).1).trans h

theorem load_row {P : Program} {w : World} {g : Nat} {T : TypeId} {cs : List Value} {d : TypeDesc} (h : w.heap[g]? = some (.cells cs.toArray T (0, 0))) (hu : P.underlying T = some d) (hd : d.isRow = true) (hi : (P.info? T).map (·.size) = some cs.length) : (loadVar T ⟨g, 0, none⟩).run P w = .ok (.agg cs.toArray) w :=
  run_loadVar_mid w g 0 T cs d (fun j v hv => by rw [Nat.zero_add, cell_of_row w g j _ T (0, 0) h]; simpa using hv) hu hd hi

theorem one_cell {w : World} {g : Nat} {a : Value} {T : TypeId} (h : w.heap[g]? = some (.cells #[a] T (0, 0))) : w.cell? ⟨g, 0, none⟩ = some a := by simp [World.cell?, h]

theorem results_ct {fn : Func} {x z : Tmp} {t : TypeId} (h : fn.results = #[.cell x t, .tmp z]) {tmps : Array Value} {P : Program} {w : World} {p : Addr} {v1 v3 : Value} (hx : tmps.getD x undef = .pointer (some p)) (hz : tmps.getD z undef = v3)
    (h1 : (loadVar t p).run P w = .ok v1 w) : (results fn tmps).run P w = .ok (.tuple #[v1, v3]) w := by
  have e1 : ∀ a : Addr, (asAddr (.pointer (some a))).run P w = .ok a w := fun a => rfl
  simp only [Array.getD_eq_getD_getElem?] at hx hz
  simp [results, h, hx, hz, e1, h1, Sem.run_bind]

theorem one_cells {w : World} {g : Nat} {a : Value} {T : TypeId} (h : w.heap[g]? = some (.cells #[a] T (0, 0))) : w.cell? ⟨g, 0, none⟩ = some a ∧ w.frozen? ⟨g, 0, none⟩ = false ∧ g < w.heap.size :=
  ⟨by simp [World.cell?, h], by simp [World.frozen?, h], (Array.getElem?_eq_some_iff.1 h).1⟩

theorem one_set {w : World} {g : Nat} {a a' : Value} {T : TypeId} (h : w.heap[g]? = some (.cells #[a] T (0, 0))) : (w.setCell ⟨g, 0, none⟩ a').heap[g]? = some (.cells #[a'] T (0, 0)) :=
  heap_setCell_same w g 0 _ _ a' h

theorem three_cells {w : World} {g : Nat} {a b c : Value} {T : TypeId} (h : w.heap[g]? = some (.cells #[a, b, c] T (0, 0))) : w.cell? ⟨g, 0, none⟩ = some a ∧ w.cell? ⟨g, 1, none⟩ = some b ∧ w.cell? ⟨g, 2, none⟩ = some c ∧ g < w.heap.size :=
  ⟨by simp [World.cell?, h], by simp [World.cell?, h], by simp [World.cell?, h], (Array.getElem?_eq_some_iff.1 h).1⟩

theorem below_new (w : World) {o : Obj} : Below w.heap.size w (w.alloc o) := (Below.refl _ _).alloc (Nat.le_refl _) _

end

section
open Go.Sort (grow grow_empty grow_grow alloc_eq_grow cell?_grow heap_grow_old)

theorem below_grow (w : World) (q : Nat) (os : Array Obj) : Below w.heap.size w (grow (w.drewN q) os) :=
  ⟨rfl, rfl, rfl, by simp [grow, World.drewN], fun k hk => heap_grow_old (w.drewN q) os hk⟩

abbrev BudOk (n d b : Int) : Prop := (0 ≤ n ∧ n ≤ 20) ∧ (1 ≤ d ∧ d ≤ 20) ∧ (0 ≤ b ∧ b ≤ 20)

def chkE (n d b : Int) : Int := if BudOk n d b then 0 else 2

def fillO (n d b : Int) : Int × Int := if BudOk n d b then (b * d, 0) else (0, 2)

theorem prod_bd {d b : Int} (hd : 1 ≤ d ∧ d ≤ 20) (hb : 0 ≤ b ∧ b ≤ 20) : 0 ≤ b * d ∧ b * d ≤ 400 :=
  ⟨Int.mul_nonneg hb.1 (by omega), (Int.mul_le_mul hb.2 hd.2 (by omega) (by omega) : b * d ≤ 20 * 20)⟩

abbrev budV (n d b : Int) : Value := .agg #[.int .i64 n, .int .i64 d, .int .i64 b]

set_option maxHeartbeats 1000000 in
theorem within_any (n lo : Int) (w : World) : Calls Try.prog 42 #[.int .i64 n, .int .i64 lo] w fun r w' => r = .returned (.bool (decide (lo ≤ n ∧ n ≤ 20))) ∧ w' = w := by
  obtain ⟨ans, hans⟩ : ∃ ans, ans = decide (lo ≤ n ∧ n ≤ 20) := ⟨_, rfl⟩
  rw [← hans]
  have H : Hid _ := hans
  clear hans
  cases h1 : decide (lo ≤ n)
  · go_enter Try.func42, Try.ntmps42
    go_wp2
    go_ret
    exact ⟨by rw [H.out, decide_eq_false (fun h => of_decide_eq_false h1 h.1)]; rfl, rfl⟩
  · cases h2 : decide (n ≤ 20)
    · go_enter Try.func42, Try.ntmps42
      go_wp2
      go_ret
      exact ⟨by rw [H.out, decide_eq_false (fun h => of_decide_eq_false h2 h.2)]; rfl, rfl⟩
    · go_enter Try.func42, Try.ntmps42
      go_wp2
      go_ret
      exact ⟨by rw [H.out, decide_eq_true ⟨of_decide_eq_true h1, of_decide_eq_true h2⟩]; rfl, rfl⟩

set_option maxHeartbeats 1000000 in
theorem most_grown (n d b : Int) (w : World) (hd : 1 ≤ d ∧ d ≤ 20) (hb : 0 ≤ b ∧ b ≤ 20) : Calls Try.prog 35 #[budV n d b] w fun r w' => r = .returned (.int .i64 (b * d)) ∧ ∃ q os, w' = grow (w.drewN q) os := by
  obtain ⟨h1, h2⟩ := prod_bd hd hb
  go_enter Try.func35, Try.ntmps35
  go_wp2
  go_ret
  refine ⟨rfl, 0, #[.cells #[.int .i64 n, .int .i64 d, .int .i64 b] 23], ?_⟩
  rw [alloc_eq_grow]
  rfl

theorem most_any (n d b : Int) (w : World) (hd : 1 ≤ d ∧ d ≤ 20) (hb : 0 ≤ b ∧ b ≤ 20) : Calls Try.prog 35 #[budV n d b] w fun r w' => r = .returned (.int .i64 (b * d)) ∧ Below w.heap.size w w' := by
  refine (most_grown n d b w hd hb).mono ?_
  rintro r w' ⟨rfl, q, os, rfl⟩
  exact ⟨rfl, below_grow _ _ _⟩

set_option maxHeartbeats 2000000 in
theorem check_any (n d b : Int) (w : World) : Calls Try.prog 33 #[budV n d b] w fun r w' => r = .returned (.int .i64 (chkE n d b)) ∧ Below w.heap.size w w' := by
  obtain ⟨W0, hW0⟩ : ∃ W0, W0 = w.alloc (.cells #[.int .i64 n, .int .i64 d, .int .i64 b] 23) := ⟨_, rfl⟩
  have hB0 : W0.heap[w.heap.size]? = some (.cells #[.int .i64 n, .int .i64 d, .int .i64 b] 23 (0, 0)) := by rw [hW0]; exact heap_alloc_new _ _
  have hb0 : Below w.heap.size w W0 := by rw [hW0]; exact below_new _
  obtain ⟨c0, c1, c2, _⟩ := three_cells hB0
  have H : Hid (_ ∧ _) := ⟨hW0, hb0⟩
  clear hW0 hb0 hB0
  cases h1 : decide (0 ≤ n ∧ n ≤ 20)
  · have E : Hid (chkE n d b = 2) := if_neg fun h => of_decide_eq_false h1 h.1
    go_enter Try.func33, Try.ntmps33
    go_wp2_with fail
    rw [← H.out.1]
    refine (within_any _ _ _).mono ?_
    rintro e w' ⟨rfl, rfl⟩
    rw [h1]
    go_wp2
    go_ret
    exact ⟨by rw [E.out]; rfl, H.out.2⟩
  cases h2 : decide (0 ≤ b ∧ b ≤ 20)
  · have E : Hid (chkE n d b = 2) := if_neg fun h => of_decide_eq_false h2 h.2.2
    go_enter Try.func33, Try.ntmps33
    go_wp2_with fail
    rw [← H.out.1]
    refine (within_any _ _ _).mono ?_
    rintro e w' ⟨rfl, rfl⟩
    rw [h1]
    go_wp2_with fail
    refine (within_any _ _ _).mono ?_
    rintro e w' ⟨rfl, rfl⟩
    rw [h2]
    go_wp2
    go_ret
    exact ⟨by rw [E.out]; rfl, H.out.2⟩
  cases h3 : decide (1 ≤ d ∧ d ≤ 20)
  · have E : Hid (chkE n d b = 2) := if_neg fun h => of_decide_eq_false h3 h.2.1
    go_enter Try.func33, Try.ntmps33
    go_wp2_with fail
    rw [← H.out.1]
    refine (within_any _ _ _).mono ?_
    rintro e w' ⟨rfl, rfl⟩
    rw [h1]
    go_wp2_with fail
    refine (within_any _ _ _).mono ?_
    rintro e w' ⟨rfl, rfl⟩
    rw [h2]
    go_wp2_with fail
    refine (within_any _ _ _).mono ?_
    rintro e w' ⟨rfl, rfl⟩
    rw [h3]
    go_wp2
    go_ret
    exact ⟨by rw [E.out]; rfl, H.out.2⟩
  · have E : Hid (chkE n d b = 0) := if_pos ⟨of_decide_eq_true h1, of_decide_eq_true h3, of_decide_eq_true h2⟩
    go_enter Try.func33, Try.ntmps33
    go_wp2_with fail
    rw [← H.out.1]
    refine (within_any _ _ _).mono ?_
    rintro e w' ⟨rfl, rfl⟩
    rw [h1]
    go_wp2_with fail
    refine (within_any _ _ _).mono ?_
    rintro e w' ⟨rfl, rfl⟩
    rw [h2]
    go_wp2_with fail
    refine (within_any _ _ _).mono ?_
    rintro e w' ⟨rfl, rfl⟩
    rw [h3]
    go_wp2
    go_ret
    exact ⟨by rw [E.out]; rfl, H.out.2⟩

def Bx (w W : World) (n d b x : Int) : Prop :=
  W.heap[w.heap.size]? = some (.cells #[.int .i64 n, .int .i64 d, .int .i64 b] 23 (0, 0)) ∧ W.heap[w.heap.size + 1]? = some (.cells #[.int .i64 x] 44 (0, 0)) ∧ Below w.heap.size w W

theorem bx_new (w : World) (n d b x : Int) : Bx w ((w.alloc (.cells #[.int .i64 n, .int .i64 d, .int .i64 b] 23)).alloc (.cells #[.int .i64 x] 44)) n d b x :=
  ⟨heap_old _ _ (heap_alloc_new _ _), heap_second _ _ _, ((Below.refl _ _).alloc (Nat.le_refl _) _).alloc (by simp) _⟩

theorem Bx.below {w W W' : World} {n d b x : Int} (h : Bx w W n d b x) (hb : Below W.heap.size W W') : Bx w W' n d b x :=
  ⟨box_below h.1 hb, box_below h.2.1 hb, h.2.2.trans (hb.mono h.2.2.size)⟩

theorem Bx.cells {w W : World} {n d b x : Int} (h : Bx w W n d b x) : W.cell? ⟨w.heap.size, 0, none⟩ = some (.int .i64 n) ∧ W.cell? ⟨w.heap.size, 1, none⟩ = some (.int .i64 d) ∧ W.cell? ⟨w.heap.size, 2, none⟩ = some (.int .i64 b) ∧ W.cell? ⟨w.heap.size + 1, 0, none⟩ = some (.int .i64 x) := by
  obtain ⟨c0, c1, c2, _⟩ := three_cells h.1
  exact ⟨c0, c1, c2, one_cell h.2.1⟩

theorem chk_yes {n d b : Int} (h : BudOk n d b) : chkE n d b = 0 := if_pos h

theorem chk_no {n d b : Int} (h : ¬ BudOk n d b) : chkE n d b = 2 := if_neg h

abbrev bktV (x : Int) : Value := .agg #[.int .i64 x]

set_option maxHeartbeats 4000000 in
theorem fill_any (n d b : Int) (w : World) : Calls Try.prog 18 #[budV n d b] w fun r w' => r = .returned (.tuple #[bktV (fillO n d b).1, .int .i64 (fillO n d b).2]) ∧ Below w.heap.size w w' := by
  obtain ⟨W0, hW0⟩ : ∃ W0, W0 = (w.alloc (.cells #[.int .i64 n, .int .i64 d, .int .i64 b] 23)).alloc (.cells #[.int .i64 0] 44) := ⟨_, rfl⟩
  have hX0 : Bx w W0 n d b 0 := by rw [hW0]; exact bx_new _ _ _ _ _
  obtain ⟨c0, c1, c2, c3⟩ := hX0.cells
  have H : Hid (_ ∧ _) := ⟨hW0, hX0⟩
  clear hW0 hX0
  go_enter Try.func18, Try.ntmps18
  go_wp2_with fail
  rw [← H.out.1]
  refine (check_any n d b _).mono ?_
  rintro r w1 ⟨rfl, hb1⟩
  have hX1 := H.out.2.below hb1
  clear c0 c1 c2 c3 hb1 H
  obtain ⟨c0, c1, c2, c3⟩ := hX1.cells
  obtain ⟨_, f3, _⟩ := one_cells hX1.2.1
  have HX : Hid (Bx _ _ _ _ _ _) := hX1
  clear hX1
  by_cases hok : BudOk n d b
  · rw [chk_yes hok]
    have E : Hid (fillO n d b = (b * d, 0)) := if_pos hok
    have HM : Hid (∀ W, _) := fun W => most_any n d b W hok.2.1 hok.2.2
    clear hok
    generalize b * d = m at *
    go_wp2_with fail
    refine (HM.out _).mono ?_
    rintro r w2 ⟨rfl, hb2⟩
    have hX2 := HX.out.below hb2
    clear c0 c1 c2 c3 f3 hb2 HX HM
    obtain ⟨c3, f3, _⟩ := one_cells hX2.2.1
    have HX : Hid (Bx _ _ _ _ _ _) := hX2
    clear hX2
    go_wp2
    exact bodyPost_ret (v := .tuple #[bktV m, .int .i64 0]) (results_ct Try.results18 rfl rfl (load_row (P := Try.prog) (cs := [.int .i64 m]) (one_set HX.out.2.1) Try.underlying44 rfl (by kernel_rfl))) rfl ⟨by rw [E.out], HX.out.2.2.setCell (by simp) _⟩
  · rw [chk_no hok]
    have E : Hid (fillO n d b = (0, 2)) := if_neg hok
    clear hok
    go_wp2
    exact bodyPost_ret (v := .tuple #[bktV 0, .int .i64 2]) (results_ct Try.results18 rfl rfl (load_row (P := Try.prog) (cs := [.int .i64 0]) (one_set HX.out.2.1) Try.underlying44 rfl (by kernel_rfl))) rfl ⟨by rw [E.out], HX.out.2.2.setCell (by simp) _⟩

def By (w W : World) (n d b x y : Int) : Prop :=
  Bx w W n d b x ∧ W.heap[w.heap.size + 1 + 1]? = some (.cells #[.int .i64 y] 44 (0, 0))

theorem By.below {w W W' : World} {n d b x y : Int} (h : By w W n d b x y) (hb : Below W.heap.size W W') : By w W' n d b x y :=
  ⟨h.1.below hb, box_below h.2 hb⟩

end

section
def Gh (w W : World) (g h : Nat) (n d b x : Int) : Prop :=
  W.heap[g]? = some (.cells #[.int .i64 n, .int .i64 d, .int .i64 b] 23 (0, 0)) ∧ W.heap[h]? = some (.cells #[.int .i64 x] 44 (0, 0)) ∧ (g ≠ h ∧ w.heap.size ≤ g ∧ w.heap.size ≤ h) ∧ Below w.heap.size w W

theorem Gh.below {w W W' : World} {g h : Nat} {n d b x : Int} (H : Gh w W g h n d b x) (hb : Below W.heap.size W W') : Gh w W' g h n d b x :=
  ⟨box_below H.1 hb, box_below H.2.1 hb, H.2.2.1, H.2.2.2.trans (hb.mono H.2.2.2.size)⟩

theorem Gh.alloc {w W : World} {g h : Nat} {n d b x : Int} (H : Gh w W g h n d b x) (o : Obj) : Gh w (W.alloc o) g h n d b x := H.below (below_new _)

theorem Gh.cells {w W : World} {g h : Nat} {n d b x : Int} (H : Gh w W g h n d b x) : W.cell? ⟨g, 0, none⟩ = some (.int .i64 n) ∧ W.cell? ⟨g, 1, none⟩ = some (.int .i64 d) ∧ W.cell? ⟨g, 2, none⟩ = some (.int .i64 b) ∧ W.cell? ⟨h, 0, none⟩ = some (.int .i64 x) ∧ W.frozen? ⟨h, 0, none⟩ = false ∧ g < W.heap.size ∧ h < W.heap.size := by
  obtain ⟨c0, c1, c2, l1⟩ := three_cells H.1
  obtain ⟨c3, f3, l2⟩ := one_cells H.2.1
  exact ⟨c0, c1, c2, c3, f3, l1, l2⟩

end

section
def G3 (w W : World) (g h j : Nat) (n d b p q : Int) : Prop :=
  Gh w W g h n d b p ∧ W.heap[j]? = some (.cells #[.int .i64 q] 44 (0, 0)) ∧ (g ≠ j ∧ h ≠ j ∧ w.heap.size ≤ j)

theorem G3.below {w W W' : World} {g h j : Nat} {n d b p q : Int} (H : G3 w W g h j n d b p q) (hb : Below W.heap.size W W') : G3 w W' g h j n d b p q :=
  ⟨H.1.below hb, box_below H.2.1 hb, H.2.2⟩

theorem G3.alloc {w W : World} {g h j : Nat} {n d b p q : Int} (H : G3 w W g h j n d b p q) (o : Obj) : G3 w (W.alloc o) g h j n d b p q := H.below (below_new _)

theorem G3.cells {w W : World} {g h j : Nat} {n d b p q : Int} (H : G3 w W g h j n d b p q) : (W.cell? ⟨g, 0, none⟩ = some (.int .i64 n) ∧ W.cell? ⟨g, 1, none⟩ = some (.int .i64 d) ∧ W.cell? ⟨g, 2, none⟩ = some (.int .i64 b) ∧ W.cell? ⟨h, 0, none⟩ = some (.int .i64 p) ∧ W.frozen? ⟨h, 0, none⟩ = false ∧ g < W.heap.size ∧ h < W.heap.size) ∧ W.cell? ⟨j, 0, none⟩ = some (.int .i64 q) ∧ W.frozen? ⟨j, 0, none⟩ = false ∧ j < W.heap.size :=
  ⟨H.1.cells, one_cells H.2.1⟩

end

section
open Go.ChangeShapes Go.WideShapes Go.ChangeAt Go.Deep

def bcells (l : List Bool) : List Value := l.map fun x => .bool x

def BsAt (w : World) (v : Value) (l : List Bool) : Prop := RowAt w v l.length (bcells l)

theorem BsAt.below {w w' : World} {v : Value} {l : List Bool} (h : BsAt w v l) (hb : Below w.heap.size w w') : BsAt w' v l := RowAt.below h hb

section

variable {H : Type} {enc : TypeId × Value → H} {P : Program} {w : World} {base : Nat} {spare : Nat → Bool} {held : Bool}

end

end

end Go.Proofs.Ytbabcpdcgncigaa.Bk
