/-
  health, part 1: contracts of its functions, and what they lean on. Conditions: what is read can be read.
-/
import Derived.Test.YtbabcpdcgncigaaChecked
import Derived.Test.YtbabcpdcgncigaaRows
import Derived.Deep.MidRow
import Derived.Deep.Upon
import Derived.WalkKit
import Derived.ProofKit
import Derived.Handy
import Derived.LoopTactic
import Derived.Below
import Derived.Laws.BitsAllLaws
import Derived.RegionTactic
import Derived.Deep.RegionHeld3
import Derived.Deep.DrawnRows
import Derived.Deep.AppendLies
import Derived.Laws.OwnMore
import Derived.Deep.Onto
import Derived.Deep.QuietTactic
import Derived.BigQuiet
import Derived.Shelf.SlSortCmp.QuietGrown
import Derived.Deep.CutRange
namespace Go.Proofs.Ytbabcpdcgncigaa.Hl
open Go.RowKit
set_option linter.unusedVariables false
set_option linter.unusedSimpArgs false
attribute [local go_sem ↓] Go.wp_at_zero Go.wp_at_succ
section
def RowAt (w : World) (v : Value) (n : Nat) (xs : List Value) : Prop :=
  ∃ a cap, v = .slice a n cap ∧ n ≤ cap ∧ cap ≤ maxLen ∧ (n = 0 ∧ xs = [] ∨ ∃ b off, a = some ⟨b, off, none⟩ ∧ b < w.heap.size ∧ ∀ i, i < xs.length → w.cell? ⟨b, off + i, none⟩ = xs[i]?)

theorem three_cells {w : World} {g : Nat} {a b c : Value} {T : TypeId} (h : w.heap[g]? = some (.cells #[a, b, c] T (0, 0))) : w.cell? ⟨g, 0, none⟩ = some a ∧ w.cell? ⟨g, 1, none⟩ = some b ∧ w.cell? ⟨g, 2, none⟩ = some c ∧ g < w.heap.size :=
  ⟨by simp [World.cell?, h], by simp [World.cell?, h], by simp [World.cell?, h], (Array.getElem?_eq_some_iff.1 h).1⟩

theorem below_new (w : World) {o : Obj} : Below w.heap.size w (w.alloc o) := (Below.refl _ _).alloc (Nat.le_refl _) _

end

section
def bcells (l : List Bool) : List Value := l.map fun x => .bool x

theorem bcells_len (l : List Bool) : (bcells l).length = l.length := by simp [bcells]

theorem bcells_at (l : List Bool) (i : Nat) (h : i < l.length) : (bcells l)[i]? = some (.bool l[i]) := by simp [bcells, h]

def BsAt (w : World) (v : Value) (l : List Bool) : Prop := RowAt w v l.length (bcells l)

end

section
abbrev WatOk (n f d : Int) : Prop := (1 ≤ n ∧ n ≤ 16) ∧ (1 ≤ f ∧ f ≤ n) ∧ (1 ≤ d ∧ d ≤ 500)

def watE (n f d : Int) : Int := if WatOk n f d then 0 else 2

abbrev watV (n f d : Int) : Value := .agg #[.int .i64 n, .int .i64 f, .int .i64 d]

set_option maxHeartbeats 1000000 in
theorem within_any (n lo hi : Int) (w : World) : Calls Try.prog 43 #[.int .i64 n, .int .i64 lo, .int .i64 hi] w fun r w' => r = .returned (.bool (decide (lo ≤ n ∧ n ≤ hi))) ∧ w' = w := by
  obtain ⟨ans, hans⟩ : ∃ ans, ans = decide (lo ≤ n ∧ n ≤ hi) := ⟨_, rfl⟩
  rw [← hans]
  have H : Hid _ := hans
  clear hans
  cases h1 : decide (lo ≤ n)
  · go_enter Try.func43, Try.ntmps43
    go_wp2
    go_ret
    exact ⟨by rw [H.out, decide_eq_false (fun h => of_decide_eq_false h1 h.1)]; rfl, rfl⟩
  · cases h2 : decide (n ≤ hi)
    · go_enter Try.func43, Try.ntmps43
      go_wp2
      go_ret
      exact ⟨by rw [H.out, decide_eq_false (fun h => of_decide_eq_false h2 h.2)]; rfl, rfl⟩
    · go_enter Try.func43, Try.ntmps43
      go_wp2
      go_ret
      exact ⟨by rw [H.out, decide_eq_true ⟨of_decide_eq_true h1, of_decide_eq_true h2⟩]; rfl, rfl⟩

set_option maxHeartbeats 2000000 in
theorem check_any (n f d : Int) (w : World) : Calls Try.prog 34 #[watV n f d] w fun r w' => r = .returned (.int .i64 (watE n f d)) ∧ Below w.heap.size w w' := by
  obtain ⟨W0, hW0⟩ : ∃ W0, W0 = w.alloc (.cells #[.int .i64 n, .int .i64 f, .int .i64 d] 25) := ⟨_, rfl⟩
  have hB0 : W0.heap[w.heap.size]? = some (.cells #[.int .i64 n, .int .i64 f, .int .i64 d] 25 (0, 0)) := by rw [hW0]; exact heap_alloc_new _ _
  have hb0 : Below w.heap.size w W0 := by rw [hW0]; exact below_new _
  obtain ⟨c0, c1, c2, _⟩ := three_cells hB0
  have H : Hid (_ ∧ _) := ⟨hW0, hb0⟩
  clear hW0 hb0 hB0
  cases h1 : decide (1 ≤ n ∧ n ≤ 16)
  · have E : Hid (watE n f d = 2) := if_neg fun h => of_decide_eq_false h1 h.1
    go_enter Try.func34, Try.ntmps34
    go_wp2_with fail
    rw [← H.out.1]
    refine (within_any _ _ _ _).mono ?_
    rintro e w' ⟨rfl, rfl⟩
    rw [h1]
    go_wp2
    go_ret
    exact ⟨by rw [E.out]; rfl, H.out.2⟩
  cases h2 : decide (1 ≤ f ∧ f ≤ n)
  · have E : Hid (watE n f d = 2) := if_neg fun h => of_decide_eq_false h2 h.2.1
    go_enter Try.func34, Try.ntmps34
    go_wp2_with fail
    rw [← H.out.1]
    refine (within_any _ _ _ _).mono ?_
    rintro e w' ⟨rfl, rfl⟩
    rw [h1]
    go_wp2_with fail
    refine (within_any _ _ _ _).mono ?_
    rintro e w' ⟨rfl, rfl⟩
    rw [h2]
    go_wp2
    go_ret
    exact ⟨by rw [E.out]; rfl, H.out.2⟩
  cases h3 : decide (1 ≤ d ∧ d ≤ 500)
  · have E : Hid (watE n f d = 2) := if_neg fun h => of_decide_eq_false h3 h.2.2
    go_enter Try.func34, Try.ntmps34
    go_wp2_with fail
    rw [← H.out.1]
    refine (within_any _ _ _ _).mono ?_
    rintro e w' ⟨rfl, rfl⟩
    rw [h1]
    go_wp2_with fail
    refine (within_any _ _ _ _).mono ?_
    rintro e w' ⟨rfl, rfl⟩
    rw [h2]
    go_wp2_with fail
    refine (within_any _ _ _ _).mono ?_
    rintro e w' ⟨rfl, rfl⟩
    rw [h3]
    go_wp2
    go_ret
    exact ⟨by rw [E.out]; rfl, H.out.2⟩
  · have E : Hid (watE n f d = 0) := if_pos ⟨of_decide_eq_true h1, of_decide_eq_true h2, of_decide_eq_true h3⟩
    go_enter Try.func34, Try.ntmps34
    go_wp2_with fail
    rw [← H.out.1]
    refine (within_any _ _ _ _).mono ?_
    rintro e w' ⟨rfl, rfl⟩
    rw [h1]
    go_wp2_with fail
    refine (within_any _ _ _ _).mono ?_
    rintro e w' ⟨rfl, rfl⟩
    rw [h2]
    go_wp2_with fail
    refine (within_any _ _ _ _).mono ?_
    rintro e w' ⟨rfl, rfl⟩
    rw [h3]
    go_wp2
    go_ret
    exact ⟨by rw [E.out]; rfl, H.out.2⟩

theorem four_cells {w : World} {g : Nat} {a b c d : Value} {T : TypeId} (h : w.heap[g]? = some (.cells #[a, b, c, d] T (0, 0))) : w.cell? ⟨g, 0, none⟩ = some a ∧ w.cell? ⟨g, 1, none⟩ = some b ∧ w.cell? ⟨g, 2, none⟩ = some c ∧ w.cell? ⟨g, 3, none⟩ = some d ∧ g < w.heap.size :=
  ⟨by simp [World.cell?, h], by simp [World.cell?, h], by simp [World.cell?, h], by simp [World.cell?, h], (Array.getElem?_eq_some_iff.1 h).1⟩

theorem four_froz {w : World} {g : Nat} {a b c d : Value} {T : TypeId} (h : w.heap[g]? = some (.cells #[a, b, c, d] T (0, 0))) : w.frozen? ⟨g, 0, none⟩ = false ∧ w.frozen? ⟨g, 1, none⟩ = false ∧ w.frozen? ⟨g, 2, none⟩ = false ∧ w.frozen? ⟨g, 3, none⟩ = false :=
  ⟨by simp [World.frozen?, h], by simp [World.frozen?, h], by simp [World.frozen?, h], by simp [World.frozen?, h]⟩

def Hx (w W : World) (n f d : Int) (v : Value) (o : Bool) (u t : Int) : Prop :=
  W.heap[w.heap.size]? = some (.cells #[.int .i64 n, .int .i64 f, .int .i64 d] 25 (0, 0)) ∧ W.heap[w.heap.size + 1]? = some (.cells #[v, .bool o, .int .i64 u, .int .i64 t] 71 (0, 0)) ∧ Below w.heap.size w W

theorem Hx.cells {w W : World} {n f d : Int} {v : Value} {o : Bool} {u t : Int} (h : Hx w W n f d v o u t) : W.cell? ⟨w.heap.size, 0, none⟩ = some (.int .i64 n) ∧ W.cell? ⟨w.heap.size, 1, none⟩ = some (.int .i64 f) ∧ W.cell? ⟨w.heap.size, 2, none⟩ = some (.int .i64 d) ∧ W.cell? ⟨w.heap.size + 1, 0, none⟩ = some v ∧ W.cell? ⟨w.heap.size + 1, 1, none⟩ = some (.bool o) ∧ W.cell? ⟨w.heap.size + 1, 2, none⟩ = some (.int .i64 u) ∧ W.cell? ⟨w.heap.size + 1, 3, none⟩ = some (.int .i64 t) := by
  obtain ⟨c0, c1, c2, _⟩ := three_cells h.1
  obtain ⟨c3, c4, c5, c6, _⟩ := four_cells h.2.1
  exact ⟨c0, c1, c2, c3, c4, c5, c6⟩

end

section
open Go.Sort (grow grow_empty grow_grow alloc_eq_grow cell?_grow heap_grow_old)

def Hy (w W : World) (n f d : Int) (v : Value) (o : Bool) (u t : Int) (v' : Value) (o' : Bool) (u' t' : Int) : Prop :=
  Hx w W n f d v o u t ∧ W.heap[w.heap.size + 1 + 1]? = some (.cells #[v', .bool o', .int .i64 u', .int .i64 t'] 71 (0, 0))

section

variable {w W : World} {n f d : Int} {v : Value} {o : Bool} {u t : Int} {v' : Value} {o' : Bool} {u' t' : Int}

theorem Hy.cells (h : Hy w W n f d v o u t v' o' u' t') : W.cell? ⟨w.heap.size, 0, none⟩ = some (.int .i64 n) ∧ W.cell? ⟨w.heap.size, 1, none⟩ = some (.int .i64 f) ∧ W.cell? ⟨w.heap.size, 2, none⟩ = some (.int .i64 d) ∧ W.cell? ⟨w.heap.size + 1, 0, none⟩ = some v ∧ W.cell? ⟨w.heap.size + 1, 1, none⟩ = some (.bool o) ∧ W.cell? ⟨w.heap.size + 1, 2, none⟩ = some (.int .i64 u) ∧ W.cell? ⟨w.heap.size + 1, 3, none⟩ = some (.int .i64 t) ∧ W.frozen? ⟨w.heap.size + 1, 0, none⟩ = false ∧ W.frozen? ⟨w.heap.size + 1, 1, none⟩ = false ∧ W.frozen? ⟨w.heap.size + 1, 2, none⟩ = false ∧ W.cell? ⟨w.heap.size + 1 + 1, 0, none⟩ = some v' ∧ W.cell? ⟨w.heap.size + 1 + 1, 1, none⟩ = some (.bool o') ∧ W.cell? ⟨w.heap.size + 1 + 1, 2, none⟩ = some (.int .i64 u') ∧ W.cell? ⟨w.heap.size + 1 + 1, 3, none⟩ = some (.int .i64 t') ∧ W.frozen? ⟨w.heap.size + 1 + 1, 0, none⟩ = false ∧ W.frozen? ⟨w.heap.size + 1 + 1, 1, none⟩ = false ∧ W.frozen? ⟨w.heap.size + 1 + 1, 2, none⟩ = false ∧ W.frozen? ⟨w.heap.size + 1 + 1, 3, none⟩ = false := by
  obtain ⟨c0, c1, c2, c3, c4, c5, c6⟩ := h.1.cells
  obtain ⟨f0, f1, f2, f3⟩ := four_froz h.1.2.1
  obtain ⟨d0, d1, d2, d3, _⟩ := four_cells h.2
  obtain ⟨g0, g1, g2, g3⟩ := four_froz h.2
  exact ⟨c0, c1, c2, c3, c4, c5, c6, f0, f1, f2, d0, d1, d2, d3, g0, g1, g2, g3⟩

end

end

section
def Wt (w W : World) (g : Nat) (n f d : Int) : Prop :=
  W.heap[g]? = some (.cells #[.int .i64 n, .int .i64 f, .int .i64 d] 25 (0, 0)) ∧ w.heap.size ≤ g ∧ Below w.heap.size w W

def Ht (w W : World) (m h : Nat) (v : Value) (l : List Bool) (o : Bool) (u t : Int) : Prop :=
  W.heap[h]? = some (.cells #[v, .bool o, .int .i64 u, .int .i64 t] 71 (0, 0)) ∧ BsAt W v l ∧ (∀ b, v.ownBlock = some b → m ≤ b) ∧ w.heap.size ≤ h ∧ h < m

section

variable {w W W' : World} {g m h : Nat} {n f d : Int} {v : Value} {l : List Bool} {o : Bool} {u t : Int}

theorem Wt.cells (H : Wt w W g n f d) : W.cell? ⟨g, 0, none⟩ = some (.int .i64 n) ∧ W.cell? ⟨g, 1, none⟩ = some (.int .i64 f) ∧ W.cell? ⟨g, 2, none⟩ = some (.int .i64 d) ∧ g < W.heap.size := three_cells H.1

theorem Ht.cells (H : Ht w W m h v l o u t) : W.cell? ⟨h, 0, none⟩ = some v ∧ W.cell? ⟨h, 1, none⟩ = some (.bool o) ∧ W.cell? ⟨h, 2, none⟩ = some (.int .i64 u) ∧ W.cell? ⟨h, 3, none⟩ = some (.int .i64 t) ∧ h < W.heap.size := four_cells H.1

end

end

section
theorem BsAt.cell {w : World} {b off n c : Nat} {l : List Bool} (h : BsAt w (.slice (some ⟨b, off, none⟩) n c) l) (i : Nat) (hi : i < l.length) : w.cell? ⟨b, off + i, none⟩ = some (.bool l[i]) ∧ b < w.heap.size := by
  obtain ⟨a', cap, he, hc, hm, h1 | ⟨b', off', rfl, h2, h3⟩⟩ := h
  · omega
  · cases he
    exact ⟨by rw [h3 i (by rw [bcells_len]; exact hi)]; exact bcells_at l i hi, h2⟩

end

end Go.Proofs.Ytbabcpdcgncigaa.Hl
