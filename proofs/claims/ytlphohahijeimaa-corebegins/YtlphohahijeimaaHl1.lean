/-
  health, part 1: contracts of its functions, and what they lean on. Conditions: what is read can be read.
-/
import Derived.Test.YtlphohahijeimaaChecked
import Derived.Test.YtlphohahijeimaaRows
import Derived.Deep.MidRow
import Derived.Deep.Upon
import Derived.WalkKit
import Derived.ProofKit
import Derived.Handy
import Derived.LoopTactic
import Derived.Below
import Derived.Laws.BitsAllLaws
import Derived.RegionTactic
import Derived.Deep.RegionHeld3
import Derived.Deep.DrawnRows
import Derived.Deep.AppendLies
import Derived.Laws.OwnMore
import Derived.Deep.Onto
import Derived.Deep.QuietTactic
import Derived.BigQuiet
import Derived.Shelf.SlSortCmp.QuietGrown
import Derived.Deep.CutRange
namespace Go.Proofs.Ytlphohahijeimaa.Hl
open Go.RowKit
set_option linter.unusedVariables false
set_option linter.unusedSimpArgs false
attribute [local go_sem ↓] Go.wp_at_zero Go.wp_at_succ
section
def RowAt (w : World) (v : Value) (n : Nat) (xs : List Value) : Prop :=
  ∃ a cap, v = .slice a n cap ∧ n ≤ cap ∧ cap ≤ maxLen ∧ (n = 0 ∧ xs = [] ∨ ∃ b off, a = some ⟨b, off, none⟩ ∧ b < w.heap.size ∧ ∀ i, i < xs.length → w.cell? ⟨b, off + i, none⟩ = xs[i]?)

theorem RowAt.below {w w' : World} {v : Value} {n : Nat} {xs : List Value} (h : RowAt w v n xs) (hb : Below w.heap.size w w') : RowAt w' v n xs := by
  obtain ⟨a, cap, hv, hc, hm, h1 | ⟨b, off, h1, h2, h3⟩⟩ := h
  · exact ⟨a, cap, hv, hc, hm, .inl h1⟩
  · exact ⟨a, cap, hv, hc, hm, .inr ⟨b, off, h1, Nat.lt_of_lt_of_le h2 hb.size, fun i hi => by rw [hb.cell (p := ⟨b, off + i, none⟩) h2]; exact h3 i hi⟩⟩

theorem below_drewN {B : Nat} {a w : World} (h : Below B a w) (n : Nat) : Below B a (w.drewN n) := h.trans ⟨rfl, rfl, rfl, Nat.le_refl _, fun _ _ => rfl⟩

set_option maxHeartbeats 1000000 in
theorem in_any (n lo hi : Int) (w : World) : Calls Try.prog 13 #[.int .i64 n, .int .i64 lo, .int .i64 hi] w fun r w' => r = .returned (.bool (decide (lo ≤ n ∧ n ≤ hi))) ∧ w' = w := by
  obtain ⟨ans, hans⟩ : ∃ ans, ans = decide (lo ≤ n ∧ n ≤ hi) := ⟨_, rfl⟩
  rw [← hans]
  have H : Hid _ := hans
  clear hans
  cases h1 : decide (lo ≤ n)
  · go_enter Try.func13, Try.ntmps13
    go_wp2
    go_ret
    exact ⟨by rw [H.out, decide_eq_false (fun h => of_decide_eq_false h1 h.1)]; rfl, rfl⟩
  · cases h2 : decide (n ≤ hi)
    · go_enter Try.func13, Try.ntmps13
      go_wp2
      go_ret
      exact ⟨by rw [H.out, decide_eq_false (fun h => of_decide_eq_false h2 h.2)]; rfl, rfl⟩
    · go_enter Try.func13, Try.ntmps13
      go_wp2
      go_ret
      exact ⟨by rw [H.out, decide_eq_true ⟨of_decide_eq_true h1, of_decide_eq_true h2⟩]; rfl, rfl⟩

theorem heap_old (w : World) (o : Obj) {k : Nat} {x : Obj} (h : w.heap[k]? = some x) : (w.alloc o).heap[k]? = some x := by
  rw [Below.heap_alloc _ _ _ (Array.getElem?_eq_some_iff.1 h).1]; exact h

theorem heap_second (w : World) (o p : Obj) : ((w.alloc o).alloc p).heap[w.heap.size + 1]? = some p := by
  have := heap_alloc_new (w.alloc o) p
  simpa using this

def pick (n : Int) (many : Nat) : Nat := (if n < 0 then (-(n + 1)).toNat else n.toNat) % many

theorem pick_lt (n : Int) (many : Nat) (h : 0 < many) : pick n many < many := Nat.mod_lt _ h

theorem pick_neg (n many : Int) (h : n < 0) (h2 : 0 < many) : -(n + 1).tmod many = ((pick n many.toNat : Nat) : Int) := by
  obtain ⟨m, rfl⟩ := Int.eq_ofNat_of_zero_le (Int.le_of_lt h2)
  obtain ⟨k, hk⟩ := Int.eq_ofNat_of_zero_le (a := -(n + 1)) (by omega)
  unfold pick
  rw [if_pos h, ← Int.neg_tmod, hk, Int.toNat_natCast, Int.toNat_natCast, Int.natCast_emod]
  rfl

theorem pick_pos (n many : Int) (h : 0 ≤ n) (h2 : 0 < many) : n % many = ((pick n many.toNat : Nat) : Int) := by
  obtain ⟨m, rfl⟩ := Int.eq_ofNat_of_zero_le (Int.le_of_lt h2)
  obtain ⟨k, rfl⟩ := Int.eq_ofNat_of_zero_le h
  unfold pick
  rw [if_neg (by omega), Int.toNat_natCast, Int.toNat_natCast, Int.natCast_emod]

theorem ret_int {k : IntKind} {a b : Int} (h : a = b) : Ending.returned (.int k a) = .returned (.int k b) := by rw [h]

set_option maxHeartbeats 400000 in
theorem picked_any (n many : Int) (w : World) (h0 : -9223372036854775808 ≤ n) (h1 : n ≤ 9223372036854775807) (h2 : 0 < many) (h3 : many ≤ 9223372036854775807) : Calls Try.prog 28 #[.int .i64 n, .int .i64 many] w fun e w' => e = .returned (.int .i64 ((pick n many.toNat : Nat) : Int)) ∧ w' = w := by
  by_cases h : n < 0
  · go_enter Try.func28, Try.ntmps28
    go_wp2
    go_ret
    exact ⟨ret_int (pick_neg n many h h2), rfl⟩
  · have h' : 0 ≤ n := by omega
    clear h
    go_enter Try.func28, Try.ntmps28
    go_wp2
    go_ret
    exact ⟨ret_int (pick_pos n many h' h2), rfl⟩

theorem wf_bd {x : Int} (h : (Lit.int .i64 x).wf = true) : -9223372036854775808 ≤ x ∧ x ≤ 9223372036854775807 := by
  have e1 : IntKind.i64.min = -9223372036854775808 := by decide
  have e2 : IntKind.i64.max = 9223372036854775807 := by decide
  simp only [Lit.wf, e1, e2, Bool.and_eq_true, decide_eq_true_eq] at h
  exact h

theorem picked_some (n : Int) (many : Nat) (hw : (Lit.int .i64 n).wf = true) (h : 0 < many) (h2 : many ≤ 9000000000000) : ∃ k : Nat, k < many ∧ ∀ W, Calls Try.prog 28 #[.int .i64 n, .int .i64 (many : Int)] W fun r w' => r = .returned (.int .i64 (k : Int)) ∧ w' = W := by
  refine ⟨pick n many, pick_lt _ _ h, fun W => ?_⟩
  have hb := wf_bd hw
  have := picked_any n many W hb.1 hb.2 (by omega) (by omega)
  rwa [Int.toNat_natCast] at this

theorem box_below {w w' : World} {g : Nat} {o : Obj} (h : w.heap[g]? = some o) (hb : Below w.heap.size w w') : w'.heap[g]? = some o := (hb.block g (Array.getElem?_eq_some_iff.1 h).1).trans h

theorem load_row {P : Program} {w : World} {g : Nat} {T : TypeId} {cs : List Value} {d : TypeDesc} (h : w.heap[g]? = some (.cells cs.toArray T (0, 0))) (hu : P.underlying T = some d) (hd : d.isRow = true) (hi : (P.info? T).map (·.size) = some cs.length) : (loadVar T ⟨g, 0, none⟩).run P w = .ok (.agg cs.toArray) w :=
  run_loadVar_mid w g 0 T cs d (fun j v hv => by rw [Nat.zero_add, cell_of_row w g j _ T (0, 0) h]; simpa using hv) hu hd hi

theorem results_c {fn : Func} {x : Tmp} {t : TypeId} (h : fn.results = #[.cell x t]) {tmps : Array Value} {P : Program} {w : World} {p : Addr} {v1 : Value} (hx : tmps.getD x undef = .pointer (some p))
    (h1 : (loadVar t p).run P w = .ok v1 w) : (results fn tmps).run P w = .ok v1 w := by
  have e1 : ∀ a : Addr, (asAddr (.pointer (some a))).run P w = .ok a w := fun a => rfl
  simp only [Array.getD_eq_getD_getElem?] at hx
  simp [results, h, hx, e1, h1, Sem.run_bind]

theorem three_set {w : World} {g : Nat} {a b c a' b' c' : Value} {T : TypeId} (h : w.heap[g]? = some (.cells #[a, b, c] T (0, 0))) : (((w.setCell ⟨g, 0, none⟩ a').setCell ⟨g, 1, none⟩ b').setCell ⟨g, 2, none⟩ c').heap[g]? = some (.cells #[a', b', c'] T (0, 0)) :=
  heap_setCell_same _ _ 2 _ _ c' (heap_setCell_same _ _ 1 _ _ b' (heap_setCell_same w g 0 _ _ a' h))

theorem three_cells {w : World} {g : Nat} {a b c : Value} {T : TypeId} (h : w.heap[g]? = some (.cells #[a, b, c] T (0, 0))) : w.cell? ⟨g, 0, none⟩ = some a ∧ w.cell? ⟨g, 1, none⟩ = some b ∧ w.cell? ⟨g, 2, none⟩ = some c ∧ g < w.heap.size :=
  ⟨by simp [World.cell?, h], by simp [World.cell?, h], by simp [World.cell?, h], (Array.getElem?_eq_some_iff.1 h).1⟩

theorem below_new (w : World) {o : Obj} : Below w.heap.size w (w.alloc o) := (Below.refl _ _).alloc (Nat.le_refl _) _

end

section
def bcells (l : List Bool) : List Value := l.map fun x => .bool x

theorem bcells_len (l : List Bool) : (bcells l).length = l.length := by simp [bcells]

theorem bcells_at (l : List Bool) (i : Nat) (h : i < l.length) : (bcells l)[i]? = some (.bool l[i]) := by simp [bcells, h]

def BsAt (w : World) (v : Value) (l : List Bool) : Prop := RowAt w v l.length (bcells l)

theorem BsAt.below {w w' : World} {v : Value} {l : List Bool} (h : BsAt w v l) (hb : Below w.heap.size w w') : BsAt w' v l := RowAt.below h hb

theorem BsAt.parts {w : World} {v : Value} {l : List Bool} (h : BsAt w v l) :
    ∃ a cap, v = .slice a l.length cap ∧ l.length ≤ cap ∧ cap ≤ maxLen ∧ ∀ i (hi : i < l.length), ∃ b off, a = some ⟨b, off, none⟩ ∧ b < w.heap.size ∧ w.cell? ⟨b, off + i, none⟩ = some (.bool l[i]) := by
  obtain ⟨a, cap, hv, hc, hm, h1 | ⟨b, off, h1, h2, h3⟩⟩ := h
  · exact ⟨a, cap, hv, hc, hm, fun i hi => absurd hi (by omega)⟩
  · exact ⟨a, cap, hv, hc, hm, fun i hi => ⟨b, off, h1, h2, by rw [h3 i (by rw [bcells_len]; omega)]; exact bcells_at l i hi⟩⟩

theorem BsAt.form {w : World} {v : Value} {l : List Bool} (h : BsAt w v l) : ∃ p c, v = .slice p l.length c := by
  obtain ⟨p, c, rfl, _⟩ := h
  exact ⟨p, c, rfl⟩

set_option maxHeartbeats 1000000 in
theorem sameBools_any (u v : Value) (l : List Bool) (w : World) (hu : BsAt w u l) (hv : BsAt w v l) :
    Calls Try.prog 40 #[u, v] w fun r w' => r = .returned (.bool true) ∧ Below w.heap.size w w' := by
  obtain ⟨a, ca, rfl, hca, hma, pa⟩ := BsAt.parts hu
  obtain ⟨b, cb, rfl, hcb, hmb, pb⟩ := BsAt.parts hv
  unfold maxLen at hma hmb
  clear hu hv
  go_enter Try.func40, Try.ntmps40
  go_wp2
  go_loopw [5] (fun i wr => ∃ k q : Nat, i = .int .i64 k ∧ k ≤ l.length ∧ wr = w.drewN q) (fun i _ => l.length - (intOf i).toNat)
  case atStart => exact ⟨0, 0, rfl, Nat.zero_le _, rfl⟩
  case round =>
    obtain ⟨k, q, rfl, hk, rfl⟩ := hrel
    by_cases hlt : k < l.length
    · obtain ⟨b1, o1, rfl, hb1, c1⟩ := pa k hlt
      obtain ⟨b2, o2, rfl, hb2, c2⟩ := pb k hlt
      generalize l[k] = x at c1 c2
      clear hb1 hb2 pa pb
      have hkd : decide ((k : Int) < (l.length : Int)) = true := decide_eq_true (by omega)
      go_wp2
      go_region
      go_wp2
      go_roundw
      case rel => exact ⟨k + 1, q + 1, by simp, hlt, rfl⟩
      case measure => simp [intOf]; omega
    · obtain rfl : k = l.length := by omega
      clear pa pb
      go_wp2
      go_ret
      exact ⟨rfl, below_drewN (Below.refl _ _) q⟩

end

section
abbrev WatOk (n f d : Int) : Prop := (1 ≤ n ∧ n ≤ 16) ∧ (1 ≤ f ∧ f ≤ n) ∧ (1 ≤ d ∧ d ≤ 500)

def watE (n f d : Int) : Int := if WatOk n f d then 0 else 2

abbrev watV (n f d : Int) : Value := .agg #[.int .i64 n, .int .i64 f, .int .i64 d]

abbrev hltV (v : Value) (o : Bool) (u t : Int) : Value := .agg #[v, .bool o, .int .i64 u, .int .i64 t]

set_option maxHeartbeats 1000000 in
theorem within_any (n lo hi : Int) (w : World) : Calls Try.prog 43 #[.int .i64 n, .int .i64 lo, .int .i64 hi] w fun r w' => r = .returned (.bool (decide (lo ≤ n ∧ n ≤ hi))) ∧ w' = w := by
  obtain ⟨ans, hans⟩ : ∃ ans, ans = decide (lo ≤ n ∧ n ≤ hi) := ⟨_, rfl⟩
  rw [← hans]
  have H : Hid _ := hans
  clear hans
  cases h1 : decide (lo ≤ n)
  · go_enter Try.func43, Try.ntmps43
    go_wp2
    go_ret
    exact ⟨by rw [H.out, decide_eq_false (fun h => of_decide_eq_false h1 h.1)]; rfl, rfl⟩
  · cases h2 : decide (n ≤ hi)
    · go_enter Try.func43, Try.ntmps43
      go_wp2
      go_ret
      exact ⟨by rw [H.out, decide_eq_false (fun h => of_decide_eq_false h2 h.2)]; rfl, rfl⟩
    · go_enter Try.func43, Try.ntmps43
      go_wp2
      go_ret
      exact ⟨by rw [H.out, decide_eq_true ⟨of_decide_eq_true h1, of_decide_eq_true h2⟩]; rfl, rfl⟩

set_option maxHeartbeats 2000000 in
theorem check_any (n f d : Int) (w : World) : Calls Try.prog 34 #[watV n f d] w fun r w' => r = .returned (.int .i64 (watE n f d)) ∧ Below w.heap.size w w' := by
  obtain ⟨W0, hW0⟩ : ∃ W0, W0 = w.alloc (.cells #[.int .i64 n, .int .i64 f, .int .i64 d] 25) := ⟨_, rfl⟩
  have hB0 : W0.heap[w.heap.size]? = some (.cells #[.int .i64 n, .int .i64 f, .int .i64 d] 25 (0, 0)) := by rw [hW0]; exact heap_alloc_new _ _
  have hb0 : Below w.heap.size w W0 := by rw [hW0]; exact below_new _
  obtain ⟨c0, c1, c2, _⟩ := three_cells hB0
  have H : Hid (_ ∧ _) := ⟨hW0, hb0⟩
  clear hW0 hb0 hB0
  cases h1 : decide (1 ≤ n ∧ n ≤ 16)
  · have E : Hid (watE n f d = 2) := if_neg fun h => of_decide_eq_false h1 h.1
    go_enter Try.func34, Try.ntmps34
    go_wp2_with fail
    rw [← H.out.1]
    refine (within_any _ _ _ _).mono ?_
    rintro e w' ⟨rfl, rfl⟩
    rw [h1]
    go_wp2
    go_ret
    exact ⟨by rw [E.out]; rfl, H.out.2⟩
  cases h2 : decide (1 ≤ f ∧ f ≤ n)
  · have E : Hid (watE n f d = 2) := if_neg fun h => of_decide_eq_false h2 h.2.1
    go_enter Try.func34, Try.ntmps34
    go_wp2_with fail
    rw [← H.out.1]
    refine (within_any _ _ _ _).mono ?_
    rintro e w' ⟨rfl, rfl⟩
    rw [h1]
    go_wp2_with fail
    refine (within_any _ _ _ _).mono ?_
    rintro e w' ⟨rfl, rfl⟩
    rw [h2]
    go_wp2
    go_ret
    exact ⟨by rw [E.out]; rfl, H.out.2⟩
  cases h3 : decide (1 ≤ d ∧ d ≤ 500)
  · have E : Hid (watE n f d = 2) := if_neg fun h => of_decide_eq_false h3 h.2.2
    go_enter Try.func34, Try.ntmps34
    go_wp2_with fail
    rw [← H.out.1]
    refine (within_any _ _ _ _).mono ?_
    rintro e w' ⟨rfl, rfl⟩
    rw [h1]
    go_wp2_with fail
    refine (within_any _ _ _ _).mono ?_
    rintro e w' ⟨rfl, rfl⟩
    rw [h2]
    go_wp2_with fail
    refine (within_any _ _ _ _).mono ?_
    rintro e w' ⟨rfl, rfl⟩
    rw [h3]
    go_wp2
    go_ret
    exact ⟨by rw [E.out]; rfl, H.out.2⟩
  · have E : Hid (watE n f d = 0) := if_pos ⟨of_decide_eq_true h1, of_decide_eq_true h2, of_decide_eq_true h3⟩
    go_enter Try.func34, Try.ntmps34
    go_wp2_with fail
    rw [← H.out.1]
    refine (within_any _ _ _ _).mono ?_
    rintro e w' ⟨rfl, rfl⟩
    rw [h1]
    go_wp2_with fail
    refine (within_any _ _ _ _).mono ?_
    rintro e w' ⟨rfl, rfl⟩
    rw [h2]
    go_wp2_with fail
    refine (within_any _ _ _ _).mono ?_
    rintro e w' ⟨rfl, rfl⟩
    rw [h3]
    go_wp2
    go_ret
    exact ⟨by rw [E.out]; rfl, H.out.2⟩

theorem four_cells {w : World} {g : Nat} {a b c d : Value} {T : TypeId} (h : w.heap[g]? = some (.cells #[a, b, c, d] T (0, 0))) : w.cell? ⟨g, 0, none⟩ = some a ∧ w.cell? ⟨g, 1, none⟩ = some b ∧ w.cell? ⟨g, 2, none⟩ = some c ∧ w.cell? ⟨g, 3, none⟩ = some d ∧ g < w.heap.size :=
  ⟨by simp [World.cell?, h], by simp [World.cell?, h], by simp [World.cell?, h], by simp [World.cell?, h], (Array.getElem?_eq_some_iff.1 h).1⟩

theorem four_froz {w : World} {g : Nat} {a b c d : Value} {T : TypeId} (h : w.heap[g]? = some (.cells #[a, b, c, d] T (0, 0))) : w.frozen? ⟨g, 0, none⟩ = false ∧ w.frozen? ⟨g, 1, none⟩ = false ∧ w.frozen? ⟨g, 2, none⟩ = false ∧ w.frozen? ⟨g, 3, none⟩ = false :=
  ⟨by simp [World.frozen?, h], by simp [World.frozen?, h], by simp [World.frozen?, h], by simp [World.frozen?, h]⟩

def Hx (w W : World) (n f d : Int) (v : Value) (o : Bool) (u t : Int) : Prop :=
  W.heap[w.heap.size]? = some (.cells #[.int .i64 n, .int .i64 f, .int .i64 d] 25 (0, 0)) ∧ W.heap[w.heap.size + 1]? = some (.cells #[v, .bool o, .int .i64 u, .int .i64 t] 71 (0, 0)) ∧ Below w.heap.size w W

theorem Hx.below {w W W' : World} {n f d : Int} {v : Value} {o : Bool} {u t : Int} (h : Hx w W n f d v o u t) (hb : Below W.heap.size W W') : Hx w W' n f d v o u t :=
  ⟨box_below h.1 hb, box_below h.2.1 hb, h.2.2.trans (hb.mono h.2.2.size)⟩

theorem Hx.cells {w W : World} {n f d : Int} {v : Value} {o : Bool} {u t : Int} (h : Hx w W n f d v o u t) : W.cell? ⟨w.heap.size, 0, none⟩ = some (.int .i64 n) ∧ W.cell? ⟨w.heap.size, 1, none⟩ = some (.int .i64 f) ∧ W.cell? ⟨w.heap.size, 2, none⟩ = some (.int .i64 d) ∧ W.cell? ⟨w.heap.size + 1, 0, none⟩ = some v ∧ W.cell? ⟨w.heap.size + 1, 1, none⟩ = some (.bool o) ∧ W.cell? ⟨w.heap.size + 1, 2, none⟩ = some (.int .i64 u) ∧ W.cell? ⟨w.heap.size + 1, 3, none⟩ = some (.int .i64 t) := by
  obtain ⟨c0, c1, c2, _⟩ := three_cells h.1
  obtain ⟨c3, c4, c5, c6, _⟩ := four_cells h.2.1
  exact ⟨c0, c1, c2, c3, c4, c5, c6⟩

end

section
open Go.Sort (grow grow_empty grow_grow alloc_eq_grow cell?_grow heap_grow_old)

def Hy (w W : World) (n f d : Int) (v : Value) (o : Bool) (u t : Int) (v' : Value) (o' : Bool) (u' t' : Int) : Prop :=
  Hx w W n f d v o u t ∧ W.heap[w.heap.size + 1 + 1]? = some (.cells #[v', .bool o', .int .i64 u', .int .i64 t'] 71 (0, 0))

section

variable {w W : World} {n f d : Int} {v : Value} {o : Bool} {u t : Int} {v' : Value} {o' : Bool} {u' t' : Int}

theorem Hy.below {W' : World} (h : Hy w W n f d v o u t v' o' u' t') (hb : Below W.heap.size W W') : Hy w W' n f d v o u t v' o' u' t' :=
  ⟨h.1.below hb, box_below h.2 hb⟩

theorem Hy.cells (h : Hy w W n f d v o u t v' o' u' t') : W.cell? ⟨w.heap.size, 0, none⟩ = some (.int .i64 n) ∧ W.cell? ⟨w.heap.size, 1, none⟩ = some (.int .i64 f) ∧ W.cell? ⟨w.heap.size, 2, none⟩ = some (.int .i64 d) ∧ W.cell? ⟨w.heap.size + 1, 0, none⟩ = some v ∧ W.cell? ⟨w.heap.size + 1, 1, none⟩ = some (.bool o) ∧ W.cell? ⟨w.heap.size + 1, 2, none⟩ = some (.int .i64 u) ∧ W.cell? ⟨w.heap.size + 1, 3, none⟩ = some (.int .i64 t) ∧ W.frozen? ⟨w.heap.size + 1, 0, none⟩ = false ∧ W.frozen? ⟨w.heap.size + 1, 1, none⟩ = false ∧ W.frozen? ⟨w.heap.size + 1, 2, none⟩ = false ∧ W.cell? ⟨w.heap.size + 1 + 1, 0, none⟩ = some v' ∧ W.cell? ⟨w.heap.size + 1 + 1, 1, none⟩ = some (.bool o') ∧ W.cell? ⟨w.heap.size + 1 + 1, 2, none⟩ = some (.int .i64 u') ∧ W.cell? ⟨w.heap.size + 1 + 1, 3, none⟩ = some (.int .i64 t') ∧ W.frozen? ⟨w.heap.size + 1 + 1, 0, none⟩ = false ∧ W.frozen? ⟨w.heap.size + 1 + 1, 1, none⟩ = false ∧ W.frozen? ⟨w.heap.size + 1 + 1, 2, none⟩ = false ∧ W.frozen? ⟨w.heap.size + 1 + 1, 3, none⟩ = false := by
  obtain ⟨c0, c1, c2, c3, c4, c5, c6⟩ := h.1.cells
  obtain ⟨f0, f1, f2, f3⟩ := four_froz h.1.2.1
  obtain ⟨d0, d1, d2, d3, _⟩ := four_cells h.2
  obtain ⟨g0, g1, g2, g3⟩ := four_froz h.2
  exact ⟨c0, c1, c2, c3, c4, c5, c6, f0, f1, f2, d0, d1, d2, d3, g0, g1, g2, g3⟩

end

end

section
set_option maxHeartbeats 2000000 in
theorem watch_fault (n f d : Int) (w : World) : Calls Try.prog 16 #[watV n f d] w fun r w' => r = .returned (.int .i64 (watE n f d)) ∧ Below w.heap.size w w' := by
  obtain ⟨W0, hW0⟩ : ∃ W0, W0 = w.alloc (.cells #[.int .i64 n, .int .i64 f, .int .i64 d] 25) := ⟨_, rfl⟩
  have hB0 : W0.heap[w.heap.size]? = some (.cells #[.int .i64 n, .int .i64 f, .int .i64 d] 25 (0, 0)) := by rw [hW0]; exact heap_alloc_new _ _
  have hb0 : Below w.heap.size w W0 := by rw [hW0]; exact below_new _
  obtain ⟨c0, c1, c2, _⟩ := three_cells hB0
  have H : Hid (_ ∧ _) := ⟨hW0, hb0⟩
  clear hW0 hb0 hB0
  cases h1 : decide (1 ≤ n ∧ n ≤ 16)
  · have E : Hid (watE n f d = 2) := if_neg fun h => of_decide_eq_false h1 h.1
    go_enter Try.func16, Try.ntmps16
    go_wp2_with fail
    rw [← H.out.1]
    refine (in_any _ _ _ _).mono ?_
    rintro e w' ⟨rfl, rfl⟩
    rw [h1]
    go_wp2
    go_ret
    exact ⟨by rw [E.out]; rfl, H.out.2⟩
  cases h2 : decide (1 ≤ f ∧ f ≤ n)
  · have E : Hid (watE n f d = 2) := if_neg fun h => of_decide_eq_false h2 h.2.1
    go_enter Try.func16, Try.ntmps16
    go_wp2_with fail
    rw [← H.out.1]
    refine (in_any _ _ _ _).mono ?_
    rintro e w' ⟨rfl, rfl⟩
    rw [h1]
    go_wp2_with fail
    refine (in_any _ _ _ _).mono ?_
    rintro e w' ⟨rfl, rfl⟩
    rw [h2]
    go_wp2
    go_ret
    exact ⟨by rw [E.out]; rfl, H.out.2⟩
  cases h3 : decide (1 ≤ d ∧ d ≤ 500)
  · have E : Hid (watE n f d = 2) := if_neg fun h => of_decide_eq_false h3 h.2.2
    go_enter Try.func16, Try.ntmps16
    go_wp2_with fail
    rw [← H.out.1]
    refine (in_any _ _ _ _).mono ?_
    rintro e w' ⟨rfl, rfl⟩
    rw [h1]
    go_wp2_with fail
    refine (in_any _ _ _ _).mono ?_
    rintro e w' ⟨rfl, rfl⟩
    rw [h2]
    go_wp2_with fail
    refine (in_any _ _ _ _).mono ?_
    rintro e w' ⟨rfl, rfl⟩
    rw [h3]
    go_wp2
    go_ret
    exact ⟨by rw [E.out]; rfl, H.out.2⟩
  · have E : Hid (watE n f d = 0) := if_pos ⟨of_decide_eq_true h1, of_decide_eq_true h2, of_decide_eq_true h3⟩
    go_enter Try.func16, Try.ntmps16
    go_wp2_with fail
    rw [← H.out.1]
    refine (in_any _ _ _ _).mono ?_
    rintro e w' ⟨rfl, rfl⟩
    rw [h1]
    go_wp2_with fail
    refine (in_any _ _ _ _).mono ?_
    rintro e w' ⟨rfl, rfl⟩
    rw [h2]
    go_wp2_with fail
    refine (in_any _ _ _ _).mono ?_
    rintro e w' ⟨rfl, rfl⟩
    rw [h3]
    go_wp2
    go_ret
    exact ⟨by rw [E.out]; rfl, H.out.2⟩

end

section
set_option maxHeartbeats 2000000 in
theorem sameHealth_any (v v' : Value) (l : List Bool) (o : Bool) (u t : Int) (w : World) (hv : BsAt w v l) (hv' : BsAt w v' l) :
    Calls Try.prog 23 #[hltV v o u t, hltV v' o u t] w fun r w' => r = .returned (.bool true) ∧ Below w.heap.size w w' := by
  obtain ⟨p, c, rfl⟩ := hv.form
  obtain ⟨p', c', rfl⟩ := hv'.form
  obtain ⟨W0, hW0⟩ : ∃ W0, W0 = (w.alloc (.cells #[.slice p l.length c, .bool o, .int .i64 u, .int .i64 t] 71)).alloc (.cells #[.slice p' l.length c', .bool o, .int .i64 u, .int .i64 t] 71) := ⟨_, rfl⟩
  have hB0 : W0.heap[w.heap.size]? = some (.cells #[.slice p l.length c, .bool o, .int .i64 u, .int .i64 t] 71 (0, 0)) := by rw [hW0]; exact heap_old _ _ (heap_alloc_new _ _)
  have hR0 : W0.heap[w.heap.size + 1]? = some (.cells #[.slice p' l.length c', .bool o, .int .i64 u, .int .i64 t] 71 (0, 0)) := by rw [hW0]; exact heap_second _ _ _
  have hb0 : Below w.heap.size w W0 := by rw [hW0]; exact ((Below.refl _ _).alloc (Nat.le_refl _) _).alloc (by simp) _
  obtain ⟨c0, c1, c2, c3, _⟩ := four_cells hB0
  obtain ⟨d0, d1, d2, d3, _⟩ := four_cells hR0
  have H : Hid (_ ∧ _) := ⟨hW0, hb0⟩
  have HC : Hid _ := sameBools_any (.slice p l.length c) (.slice p' l.length c') l W0 (hv.below hb0) (hv'.below hb0)
  clear hW0 hB0 hR0 hb0 hv hv'
  go_enter Try.func23, Try.ntmps23
  go_wp2_with fail
  rw [← H.out.1]
  refine Calls.mono HC.out ?_
  rintro r w1 ⟨rfl, hb1⟩
  have HB : Hid _ := H.out.2.trans (hb1.mono H.out.2.size)
  clear hb1 c0 c1 c2 c3 d0 d1 d2 d3
  go_wp2
  go_ret
  exact ⟨rfl, HB.out⟩

end

section
set_option maxHeartbeats 2000000 in
theorem watch_some (x y z : Int) (hx : (Lit.int .i64 x).wf = true) (hy : (Lit.int .i64 y).wf = true) (hz : (Lit.int .i64 z).wf = true) :
    ∃ n f d : Nat, (1 ≤ n ∧ n ≤ 16) ∧ (1 ≤ f ∧ f ≤ n) ∧ (1 ≤ d ∧ d ≤ 500) ∧ n = 1 + pick x 16 ∧ ∀ w, Calls Try.prog 30 #[.int .i64 x, .int .i64 y, .int .i64 z] w fun r w' => r = .returned (watV n f d) ∧ Below w.heap.size w w' := by
  have p0 : ∀ W, Calls Try.prog 28 #[.int .i64 x, .int .i64 16] W fun r w' => r = .returned (.int .i64 (pick x 16 : Nat)) ∧ w' = W := fun W => by
    have hb := wf_bd hx
    have := picked_any x 16 W hb.1 hb.2 (by omega) (by omega)
    exact this
  have hn := pick_lt x 16 (by omega)
  generalize pick x 16 = n at *
  obtain ⟨f, hf, p1⟩ := picked_some y (1 + n) hy (by omega) (by omega)
  obtain ⟨d, hd, p2⟩ := picked_some z 500 hz (by omega) (by omega)
  refine ⟨1 + n, 1 + f, 1 + d, ⟨by omega, by omega⟩, ⟨by omega, by omega⟩, ⟨by omega, by omega⟩, rfl, fun w => ?_⟩
  rw [Int.natCast_add] at p1
  have P : Hid (_ ∧ _ ∧ _) := ⟨p0, p1, p2⟩
  clear p0 p1 p2 hx hy hz
  obtain ⟨W0, hW0⟩ : ∃ W0, W0 = w.alloc (.cells #[.int .i64 0, .int .i64 0, .int .i64 0] 25) := ⟨_, rfl⟩
  have hB0 : W0.heap[w.heap.size]? = some (.cells #[.int .i64 0, .int .i64 0, .int .i64 0] 25 (0, 0)) := by rw [hW0]; exact heap_alloc_new _ _
  have hb0 : Below w.heap.size w W0 := by rw [hW0]; exact below_new _
  obtain ⟨c0, c1, c2, hlt⟩ := three_cells hB0
  have s0 : W0.frozen? ⟨w.heap.size, 0, none⟩ = false := by simp [World.frozen?, hB0]
  have s1 : W0.frozen? ⟨w.heap.size, 1, none⟩ = false := by simp [World.frozen?, hB0]
  have s2 : W0.frozen? ⟨w.heap.size, 2, none⟩ = false := by simp [World.frozen?, hB0]
  have H : Hid (_ ∧ _ ∧ _) := ⟨hW0, hB0, hb0⟩
  clear hW0 hB0 hb0
  go_enter Try.func30, Try.ntmps30
  go_wp2_with fail
  rw [← H.out.1]
  refine (P.out.1 _).mono ?_
  rintro e w' ⟨rfl, rfl⟩
  go_wp2_with fail
  refine (P.out.2.1 _).mono ?_
  rintro e w' ⟨rfl, rfl⟩
  go_wp2_with fail
  refine (P.out.2.2 _).mono ?_
  rintro e w' ⟨rfl, rfl⟩
  go_wp2
  exact bodyPost_ret (v := .agg #[.int .i64 (1 + n), .int .i64 (1 + f), .int .i64 (1 + d)]) (results_c Try.results30 rfl (load_row (P := Try.prog) (cs := [.int .i64 (1 + n), .int .i64 (1 + f), .int .i64 (1 + d)]) (three_set H.out.2.1) Try.underlying25 rfl (by kernel_rfl))) rfl ⟨by simp, ((H.out.2.2.setCell (Nat.le_refl _) _).setCell (Nat.le_refl _) _).setCell (Nat.le_refl _) _⟩

def Wt (w W : World) (g : Nat) (n f d : Int) : Prop :=
  W.heap[g]? = some (.cells #[.int .i64 n, .int .i64 f, .int .i64 d] 25 (0, 0)) ∧ w.heap.size ≤ g ∧ Below w.heap.size w W

def Ht (w W : World) (m h : Nat) (v : Value) (l : List Bool) (o : Bool) (u t : Int) : Prop :=
  W.heap[h]? = some (.cells #[v, .bool o, .int .i64 u, .int .i64 t] 71 (0, 0)) ∧ BsAt W v l ∧ (∀ b, v.ownBlock = some b → m ≤ b) ∧ w.heap.size ≤ h ∧ h < m

section

variable {w W W' : World} {g m h : Nat} {n f d : Int} {v : Value} {l : List Bool} {o : Bool} {u t : Int}

theorem Wt.below (H : Wt w W g n f d) (hb : Below W.heap.size W W') : Wt w W' g n f d :=
  ⟨box_below H.1 hb, H.2.1, H.2.2.trans (hb.mono H.2.2.size)⟩

theorem Ht.below (H : Ht w W m h v l o u t) (hb : Below W.heap.size W W') : Ht w W' m h v l o u t :=
  ⟨box_below H.1 hb, H.2.1.below hb, H.2.2⟩

theorem Wt.cells (H : Wt w W g n f d) : W.cell? ⟨g, 0, none⟩ = some (.int .i64 n) ∧ W.cell? ⟨g, 1, none⟩ = some (.int .i64 f) ∧ W.cell? ⟨g, 2, none⟩ = some (.int .i64 d) ∧ g < W.heap.size := three_cells H.1

theorem Ht.cells (H : Ht w W m h v l o u t) : W.cell? ⟨h, 0, none⟩ = some v ∧ W.cell? ⟨h, 1, none⟩ = some (.bool o) ∧ W.cell? ⟨h, 2, none⟩ = some (.int .i64 u) ∧ W.cell? ⟨h, 3, none⟩ = some (.int .i64 t) ∧ h < W.heap.size := four_cells H.1

end

end

section
theorem BsAt.cell {w : World} {b off n c : Nat} {l : List Bool} (h : BsAt w (.slice (some ⟨b, off, none⟩) n c) l) (i : Nat) (hi : i < l.length) : w.cell? ⟨b, off + i, none⟩ = some (.bool l[i]) ∧ b < w.heap.size := by
  obtain ⟨a', cap, he, hc, hm, h1 | ⟨b', off', rfl, h2, h3⟩⟩ := h
  · omega
  · cases he
    exact ⟨by rw [h3 i (by rw [bcells_len]; exact hi)]; exact bcells_at l i hi, h2⟩

end

end Go.Proofs.Ytlphohahijeimaa.Hl
