/-
  health.thrown, Note, Back. Condition: what is read can be read.
-/
import Derived.Test.YtofnhdkcadoiiaaLast
import Derived.Shelf.SlSortCmp.QuietGrown
import Derived.WalkKit
import Derived.ProofKit
import Derived.Handy
import Derived.LoopTactic
import Derived.Below
import Derived.Laws.BitsAllLaws
import Derived.RegionTactic
import Derived.Deep.RegionHeld3
import Derived.Deep.DrawnRows
import Derived.Deep.AppendLies
import Derived.Laws.OwnMore
import Derived.Deep.Onto
import Derived.Deep.QuietTactic
import Derived.BigQuiet
namespace Go.Proofs.Ytofnhdkcadoiiaa.Walks
open Go.RowKit
set_option linter.unusedVariables false
set_option linter.unusedSimpArgs false
attribute [local go_sem ↓] Go.wp_at_zero Go.wp_at_succ
open Go.Sort (grow grow_empty grow_grow alloc_eq_grow cell?_grow heap_grow_old)

theorem mixed : Try.prog.follows .mixedOrders = true := by kernel_rfl

theorem below_grow (w : World) (q : Nat) (os : Array Obj) : Below w.heap.size w (grow (w.drewN q) os) :=
  ⟨rfl, rfl, rfl, by simp [grow, World.drewN], fun k hk => heap_grow_old (w.drewN q) os hk⟩

/-- How long: doubled, time by time, but 500 at most. -/
def holdV (d t : Int) : Int := min (d * 2 ^ t.toNat) 500

set_option maxHeartbeats 2000000 in
set_option maxRecDepth 100000 in
theorem thrown_any (n f d t now : Int) (w : World) (hd : 1 ≤ d ∧ d ≤ 500) (ht : 0 ≤ t ∧ t ≤ 10) (hnow : 0 ≤ now ∧ now ≤ 1099511627776) :
    Calls Try.prog 27 #[watV n f d, .int .i64 t, .int .i64 now] w fun r w' => r = .returned (hltV (.slice none 0 0) true (now + holdV d t) (min (t + 1) 10)) ∧ Below w.heap.size w w' := by
  obtain ⟨k, rfl⟩ := Int.eq_ofNat_of_zero_le ht.1
  obtain ⟨now0, now1⟩ := hnow
  have hk : k ≤ 10 := by omega
  clear ht
  have hp : (1 : Int) ≤ 2 ^ k ∧ (2 : Int) ^ k ≤ 1024 := by
    have h1 : (1 : Nat) ≤ 2 ^ k := Nat.one_le_two_pow
    have h2 : 2 ^ k ≤ 2 ^ 10 := Nat.pow_le_pow_right (by decide) hk
    have h3 : ((2 ^ k : Nat) : Int) = (2 : Int) ^ k := by simp
    omega
  obtain ⟨m, hm⟩ : ∃ m, m = d * 2 ^ k := ⟨_, rfl⟩
  have m0 : 1 ≤ m := by rw [hm]; have := Int.mul_le_mul hd.1 hp.1 (by omega) (by omega); omega
  have m1 : m ≤ 512000 := by rw [hm]; have := Int.mul_le_mul hd.2 hp.2 (by omega) (by omega); omega
  have hsh : wrap64 (d * 2 ^ k) = m := by rw [← hm]; unfold wrap64; omega
  have E : Hid (holdV d (k : Int) = min m 500) := (by unfold holdV; rw [Int.toNat_natCast, ← hm] : holdV d (k : Int) = min m 500)
  clear hm hp hd
  obtain ⟨W0, hW0⟩ : ∃ W0, W0 = w.alloc (.cells #[.int .i64 n, .int .i64 f, .int .i64 d] 23) := ⟨_, rfl⟩
  have hb0 : Below w.heap.size w W0 := by rw [hW0]; exact below_new _
  have hs0 : W0.heap.size = w.heap.size + 1 := by rw [hW0]; simp
  have H : Hid (_ ∧ _ ∧ _) := ⟨hW0, hb0, hs0⟩
  have key : ∀ u t : Int, (((w.alloc (.cells #[.int .i64 n, .int .i64 f, .int .i64 d] 23)).alloc (.cells #[.slice none 0 0, .bool true, .int .i64 u, .int .i64 t] 29)).heap[w.heap.size + 1]? = some (.cells [.slice none 0 0, .bool true, .int .i64 u, .int .i64 t].toArray 29 (0, 0))) ∧ Below w.heap.size w ((w.alloc (.cells #[.int .i64 n, .int .i64 f, .int .i64 d] 23)).alloc (.cells #[.slice none 0 0, .bool true, .int .i64 u, .int .i64 t] 29)) := fun u t => ⟨heap_second _ _ _, ((Below.refl _ _).alloc (Nat.le_refl _) _).alloc (by simp) _⟩
  have KK : Hid _ := key
  clear key hW0 hb0 hs0
  by_cases h1 : m ≤ 500
  · have E1 : Hid (min m 500 = m) := (by omega : min m 500 = m)
    by_cases h2 : (k : Int) + 1 ≤ 10
    · have E2 : Hid (min ((k : Int) + 1) 10 = k + 1) := (by omega : min ((k : Int) + 1) 10 = k + 1)
      go_enter Try.func27, Try.ntmps27
      go_wp2
      exact bodyPost_ret (v := hltV (.slice none 0 0) true (now + m) (k + 1)) (results_c Try.results27 rfl (load_row (P := Try.prog) (cs := [.slice none 0 0, .bool true, .int .i64 (now + m), .int .i64 (k + 1)]) (KK.out _ _).1 Try.underlying29 rfl (by kernel_rfl))) rfl ⟨by rw [E.out, E1.out, E2.out], (KK.out _ _).2⟩
    · have E2 : Hid (min ((k : Int) + 1) 10 = 10) := (by omega : min ((k : Int) + 1) 10 = 10)
      go_enter Try.func27, Try.ntmps27
      go_wp2
      all_goals exact bodyPost_ret (v := hltV (.slice none 0 0) true (now + m) 10) (results_c Try.results27 rfl (load_row (P := Try.prog) (cs := [.slice none 0 0, .bool true, .int .i64 (now + m), .int .i64 10]) (KK.out _ _).1 Try.underlying29 rfl (by kernel_rfl))) rfl ⟨by rw [E.out, E1.out, E2.out], (KK.out _ _).2⟩
  · have E1 : Hid (min m 500 = 500) := (by omega : min m 500 = 500)
    by_cases h2 : (k : Int) + 1 ≤ 10
    · have E2 : Hid (min ((k : Int) + 1) 10 = k + 1) := (by omega : min ((k : Int) + 1) 10 = k + 1)
      go_enter Try.func27, Try.ntmps27
      go_wp2
      exact bodyPost_ret (v := hltV (.slice none 0 0) true (now + 500) (k + 1)) (results_c Try.results27 rfl (load_row (P := Try.prog) (cs := [.slice none 0 0, .bool true, .int .i64 (now + 500), .int .i64 (k + 1)]) (KK.out _ _).1 Try.underlying29 rfl (by kernel_rfl))) rfl ⟨by rw [E.out, E1.out, E2.out], (KK.out _ _).2⟩
    · have E2 : Hid (min ((k : Int) + 1) 10 = 10) := (by omega : min ((k : Int) + 1) 10 = 10)
      go_enter Try.func27, Try.ntmps27
      go_wp2
      exact bodyPost_ret (v := hltV (.slice none 0 0) true (now + 500) 10) (results_c Try.results27 rfl (load_row (P := Try.prog) (cs := [.slice none 0 0, .bool true, .int .i64 (now + 500), .int .i64 10]) (KK.out _ _).1 Try.underlying29 rfl (by kernel_rfl))) rfl ⟨by rw [E.out, E1.out, E2.out], (KK.out _ _).2⟩

theorem results_ctt {fn : Func} {x y z : Tmp} {t : TypeId} (h : fn.results = #[.cell x t, .tmp y, .tmp z]) {tmps : Array Value} {P : Program} {w : World} {p : Addr} {v1 v2 v3 : Value} (hx : tmps.getD x undef = .pointer (some p)) (hy : tmps.getD y undef = v2) (hz : tmps.getD z undef = v3)
    (h1 : (loadVar t p).run P w = .ok v1 w) : (results fn tmps).run P w = .ok (.tuple #[v1, v2, v3]) w := by
  have e1 : ∀ a : Addr, (asAddr (.pointer (some a))).run P w = .ok a w := fun a => rfl
  simp only [Array.getD_eq_getD_getElem?] at hx hy hz
  simp [results, h, hx, hy, hz, e1, h1, Sem.run_bind]

/-- The boxes of Note and Back: the watch, the health, the answer. -/
def Hy (w W : World) (n f d : Int) (v : Value) (o : Bool) (u t : Int) (v' : Value) (o' : Bool) (u' t' : Int) : Prop :=
  Hx w W n f d v o u t ∧ W.heap[w.heap.size + 1 + 1]? = some (.cells #[v', .bool o', .int .i64 u', .int .i64 t'] 29 (0, 0))

section
variable {w W : World} {n f d : Int} {v : Value} {o : Bool} {u t : Int} {v' : Value} {o' : Bool} {u' t' : Int}

theorem hy_new (w : World) (n f d : Int) (v : Value) (o : Bool) (u t : Int) (v' : Value) (o' : Bool) (u' t' : Int) : Hy w (((w.alloc (.cells #[.int .i64 n, .int .i64 f, .int .i64 d] 23)).alloc (.cells #[v, .bool o, .int .i64 u, .int .i64 t] 29)).alloc (.cells #[v', .bool o', .int .i64 u', .int .i64 t'] 29)) n f d v o u t v' o' u' t' :=
  ⟨(hx_new w n f d v o u t).below (below_new _), heap_third _ _ _ _⟩

theorem Hy.below {W' : World} (h : Hy w W n f d v o u t v' o' u' t') (hb : Below W.heap.size W W') : Hy w W' n f d v o u t v' o' u' t' :=
  ⟨h.1.below hb, box_below h.2 hb⟩

theorem four_set {w : World} {g : Nat} {a b c d a' b' c' d' : Value} {T : TypeId} (h : w.heap[g]? = some (.cells #[a, b, c, d] T (0, 0))) : ((((w.setCell ⟨g, 0, none⟩ a').setCell ⟨g, 1, none⟩ b').setCell ⟨g, 2, none⟩ c').setCell ⟨g, 3, none⟩ d').heap[g]? = some (.cells #[a', b', c', d'] T (0, 0)) :=
  heap_setCell_same _ _ 3 _ _ d' (heap_setCell_same _ _ 2 _ _ c' (heap_setCell_same _ _ 1 _ _ b' (heap_setCell_same w g 0 _ _ a' h)))

abbrev set4 (W : World) (g : Nat) (a b c d : Value) : World := (((W.setCell ⟨g, 0, none⟩ a).setCell ⟨g, 1, none⟩ b).setCell ⟨g, 2, none⟩ c).setCell ⟨g, 3, none⟩ d

theorem set4_other {W : World} {g k : Nat} {a b c d : Value} (h : k ≠ g) : (set4 W g a b c d).heap[k]? = W.heap[k]? := by
  unfold set4
  rw [Below.heap_setCell _ _ _ _ h, Below.heap_setCell _ _ _ _ h, Below.heap_setCell _ _ _ _ h, Below.heap_setCell _ _ _ _ h]

theorem Hy.set (h : Hy w W n f d v o u t v' o' u' t') (a : Value) (b : Bool) (c e : Int) : Hy w (set4 W (w.heap.size + 1 + 1) a (.bool b) (.int .i64 c) (.int .i64 e)) n f d v o u t a b c e :=
  ⟨⟨(set4_other (by omega)).trans h.1.1, (set4_other (by omega)).trans h.1.2.1, (((h.1.2.2.setCell (by simp; omega) _).setCell (by simp; omega) _).setCell (by simp; omega) _).setCell (by simp; omega) _⟩, four_set h.2⟩

theorem Hy.set0 (h : Hy w W n f d v o u t v' o' u' t') (a : Value) : Hy w (W.setCell ⟨w.heap.size + 1, 0, none⟩ a) n f d a o u t v' o' u' t' :=
  ⟨⟨(Below.heap_setCell _ _ _ _ (by simp)).trans h.1.1, heap_setCell_same W _ 0 _ _ a h.1.2.1, h.1.2.2.setCell (by simp) _⟩, (Below.heap_setCell _ _ _ _ (by simp)).trans h.2⟩

theorem Hy.res (h : Hy w W n f d v o u t v' o' u' t') {fn : Func} {i y z : Tmp} (hr : fn.results = #[.cell i 29, .tmp y, .tmp z]) {tmps : Array Value} {e1 e2 : Value} (hx : tmps.getD i undef = .pointer (some ⟨w.heap.size + 1 + 1, 0, none⟩)) (hy : tmps.getD y undef = e1) (hz : tmps.getD z undef = e2) :
    (results fn tmps).run Try.prog W = .ok (.tuple #[hltV v' o' u' t', e1, e2]) W :=
  results_ctt hr hx hy hz (load_row (P := Try.prog) (cs := [v', .bool o', .int .i64 u', .int .i64 t']) h.2 Try.underlying29 rfl (by kernel_rfl))

theorem Hy.bel (h : Hy w W n f d v o u t v' o' u' t') : Below w.heap.size w W := h.1.2.2

theorem Hy.cells (h : Hy w W n f d v o u t v' o' u' t') : W.cell? ⟨w.heap.size, 0, none⟩ = some (.int .i64 n) ∧ W.cell? ⟨w.heap.size, 1, none⟩ = some (.int .i64 f) ∧ W.cell? ⟨w.heap.size, 2, none⟩ = some (.int .i64 d) ∧ W.cell? ⟨w.heap.size + 1, 0, none⟩ = some v ∧ W.cell? ⟨w.heap.size + 1, 1, none⟩ = some (.bool o) ∧ W.cell? ⟨w.heap.size + 1, 2, none⟩ = some (.int .i64 u) ∧ W.cell? ⟨w.heap.size + 1, 3, none⟩ = some (.int .i64 t) ∧ W.frozen? ⟨w.heap.size + 1, 0, none⟩ = false ∧ W.frozen? ⟨w.heap.size + 1, 1, none⟩ = false ∧ W.frozen? ⟨w.heap.size + 1, 2, none⟩ = false ∧ W.cell? ⟨w.heap.size + 1 + 1, 0, none⟩ = some v' ∧ W.cell? ⟨w.heap.size + 1 + 1, 1, none⟩ = some (.bool o') ∧ W.cell? ⟨w.heap.size + 1 + 1, 2, none⟩ = some (.int .i64 u') ∧ W.cell? ⟨w.heap.size + 1 + 1, 3, none⟩ = some (.int .i64 t') ∧ W.frozen? ⟨w.heap.size + 1 + 1, 0, none⟩ = false ∧ W.frozen? ⟨w.heap.size + 1 + 1, 1, none⟩ = false ∧ W.frozen? ⟨w.heap.size + 1 + 1, 2, none⟩ = false ∧ W.frozen? ⟨w.heap.size + 1 + 1, 3, none⟩ = false := by
  obtain ⟨c0, c1, c2, c3, c4, c5, c6⟩ := h.1.cells
  obtain ⟨f0, f1, f2, f3⟩ := four_froz h.1.2.1
  obtain ⟨d0, d1, d2, d3, _⟩ := four_cells h.2
  obtain ⟨g0, g1, g2, g3⟩ := four_froz h.2
  exact ⟨c0, c1, c2, c3, c4, c5, c6, f0, f1, f2, d0, d1, d2, d3, g0, g1, g2, g3⟩
end

/-- What Note and Back answer: a health, whether it is told, an error. -/
abbrev HRes := (List Bool × Bool × Int × Int) × Bool × Int

def noteO (n f d : Int) (l : List Bool) (o : Bool) (u t : Int) (x : Bool) (now : Int) (may : Bool) : HRes :=
  if allE n f d l.length o u t now = 0 then
    (if o = false ∧ may = true ∧ f ≤ (cntT (lastN n l x) : Int) then (([], true, now + holdV d t, min (t + 1) 10), true, 0) else ((lastN n l x, o, u, t), false, 0))
  else (([], false, 0, 0), false, allE n f d l.length o u t now)

def backO (n f d : Int) (l : List Bool) (o : Bool) (u t : Int) (now : Int) : HRes :=
  if allE n f d l.length o u t now = 0 then
    (if o = true ∧ u ≤ now then ((l, false, 0, t), true, 0) else ((l, o, u, t), false, 0))
  else (([], false, 0, 0), false, allE n f d l.length o u t now)

/-- A call's answer, as it lies in memory. -/
def HPost (w : World) (O : HRes) (r : Ending) (w' : World) : Prop :=
  ∃ p c, r = .returned (.tuple #[hltV (.slice p O.1.1.length c) O.1.2.1 O.1.2.2.1 O.1.2.2.2, .bool O.2.1, .int .i64 O.2.2]) ∧ BsAt w' (.slice p O.1.1.length c) O.1.1 ∧ Below w.heap.size w w'

theorem hpost_nil {w w' : World} {o : Bool} {u t : Int} {b : Bool} {e : Int} {O : HRes} (h : O = (([], o, u, t), b, e)) (hb : Below w.heap.size w w') : HPost w O (.returned (.tuple #[hltV (.slice none 0 0) o u t, .bool b, .int .i64 e])) w' := by
  subst h
  exact ⟨none, 0, rfl, bsAt_nil _, hb⟩

theorem hpost_of {w w' : World} {p : Option Addr} {k c : Nat} {l : List Bool} {o : Bool} {u t : Int} {b : Bool} {e : Int} {O : HRes} (h : O = ((l, o, u, t), b, e)) (hk : k = l.length) (hl : BsAt w' (.slice p k c) l) (hb : Below w.heap.size w w') : HPost w O (.returned (.tuple #[hltV (.slice p k c) o u t, .bool b, .int .i64 e])) w' := by
  subst h hk
  exact ⟨p, c, rfl, hl, hb⟩

/-- The same, and its Marks lie in new memory. -/
def HPostF (w : World) (O : HRes) (r : Ending) (w' : World) : Prop :=
  ∃ p c, r = .returned (.tuple #[hltV (.slice p O.1.1.length c) O.1.2.1 O.1.2.2.1 O.1.2.2.2, .bool O.2.1, .int .i64 O.2.2]) ∧ BsAt w' (.slice p O.1.1.length c) O.1.1 ∧ (∀ b, Value.ownBlock (.slice p O.1.1.length c) = some b → w.heap.size ≤ b) ∧ Below w.heap.size w w'

theorem HPostF.post {w w' : World} {O : HRes} {r : Ending} (h : HPostF w O r w') : HPost w O r w' := by
  obtain ⟨p, c, h1, h2, _, h4⟩ := h
  exact ⟨p, c, h1, h2, h4⟩

theorem hpostF_nil {w w' : World} {o : Bool} {u t : Int} {b : Bool} {e : Int} {O : HRes} (h : O = (([], o, u, t), b, e)) (hb : Below w.heap.size w w') : HPostF w O (.returned (.tuple #[hltV (.slice none 0 0) o u t, .bool b, .int .i64 e])) w' := by
  subst h
  exact ⟨none, 0, rfl, bsAt_nil _, (by intro b h; cases h), hb⟩

theorem hpostF_of {w w' w2 : World} {p : Option Addr} {k c base : Nat} {l : List Bool} {xs : List Value} {o : Bool} {u t : Int} {b : Bool} {e : Int} {O : HRes} (h : O = ((l, o, u, t), b, e)) (hk : k = l.length) (hl : BsAt w' (.slice p k c) l) (hb : Below w.heap.size w w') (ho : w2.ownsRow base 4 1 (.slice p k c) k xs) (hbase : w.heap.size ≤ base) : HPostF w O (.returned (.tuple #[hltV (.slice p k c) o u t, .bool b, .int .i64 e])) w' := by
  subst h hk
  exact ⟨p, c, rfl, hl, fun b hb => Nat.le_trans hbase (ho.lt b hb).1, hb⟩

theorem own_set {w : World} {base : Nat} {e : TypeId} {k : Nat} {v : Value} {n : Nat} {xs : List Value} (h : w.ownsRow base e k v n xs) {a : Addr} {y : Value} (ha : a.block < base) : (w.setCell a y).ownsRow base e k v n xs :=
  own_block h fun g hg => Below.heap_setCell _ _ _ _ (by have := (h.lt g hg).1; omega)

theorem own_set4 {w : World} {base : Nat} {e : TypeId} {k : Nat} {v : Value} {n : Nat} {xs : List Value} (h : w.ownsRow base e k v n xs) {g : Nat} {y0 y1 y2 y3 : Value} (ha : g < base) : (set4 w g y0 y1 y2 y3).ownsRow base e k v n xs :=
  own_set (own_set (own_set (own_set h ha) ha) ha) ha

set_option maxHeartbeats 8000000 in
set_option maxRecDepth 100000 in
theorem note_fresh (n f d : Int) (v : Value) (l : List Bool) (o : Bool) (u t : Int) (x : Bool) (now : Int) (may : Bool) (w : World) (hv : BsAt w v l) (hl : l.length ≤ 140737488355328) :
    Calls Try.prog 12 #[watV n f d, hltV v o u t, .bool x, .int .i64 now, .bool may] w (HPostF w (noteO n f d l o u t x now may)) := by
  obtain ⟨p, c, rfl⟩ := hv.form
  obtain ⟨W0, hW0⟩ : ∃ W0, W0 = ((w.alloc (.cells #[.int .i64 n, .int .i64 f, .int .i64 d] 23)).alloc (.cells #[.slice p l.length c, .bool o, .int .i64 u, .int .i64 t] 29)).alloc (.cells #[.slice none 0 0, .bool false, .int .i64 0, .int .i64 0] 29) := ⟨_, rfl⟩
  have hX0 : Hy w W0 n f d (.slice p l.length c) o u t (.slice none 0 0) false 0 0 := by rw [hW0]; exact hy_new _ _ _ _ _ _ _ _ _ _ _ _
  obtain ⟨c0, c1, c2, c3, c4, c5, c6, _⟩ := hX0.cells
  have H : Hid (_ ∧ Hy _ _ _ _ _ _ _ _ _ _ _ _ _ ∧ BsAt _ _ _) := ⟨hW0, hX0, hv⟩
  clear hW0 hX0 hv
  go_enter Try.func12, Try.ntmps12
  go_wp2_with fail
  rw [← H.out.1]
  refine (checkAll_any n f d p l.length c o u t now _).mono ?_
  rintro r w1 ⟨rfl, hb1⟩
  have HX : Hid (Hy _ _ _ _ _ _ _ _ _ _ _ _ _ ∧ BsAt _ _ _) := ⟨H.out.2.1.below hb1, H.out.2.2.below (H.out.2.1.bel.trans (hb1.mono H.out.2.1.bel.size))⟩
  clear c0 c1 c2 c3 c4 c5 c6 hb1 H
  obtain ⟨c0, c1, c2, c3, c4, c5, c6, f0, f1, f2, d0, d1, d2, d3, g0, g1, g2, g3⟩ := HX.out.1.cells
  rcases all_cases n f d l.length o u t now with ⟨hE, _⟩ | ⟨hE, _⟩ | ⟨hE, hok, hnow, hh⟩
  · have E : Hid (noteO n f d l o u t x now may = (([], false, 0, 0), false, 2)) := (by unfold noteO; rw [hE, if_neg (by decide)] : noteO n f d l o u t x now may = (([], false, 0, 0), false, 2))
    rw [hE]
    clear hE
    go_wp2
    exact bodyPost_ret (v := .tuple #[hltV (.slice none 0 0) false 0 0, .bool false, .int .i64 2]) ((HX.out.1.set _ _ _ _).res Try.results12 rfl rfl rfl) rfl (hpostF_nil E.out (HX.out.1.set _ _ _ _).bel)
  · have E : Hid (noteO n f d l o u t x now may = (([], false, 0, 0), false, 6)) := (by unfold noteO; rw [hE, if_neg (by decide)] : noteO n f d l o u t x now may = (([], false, 0, 0), false, 6))
    rw [hE]
    clear hE
    go_wp2
    exact bodyPost_ret (v := .tuple #[hltV (.slice none 0 0) false 0 0, .bool false, .int .i64 6]) ((HX.out.1.set _ _ _ _).res Try.results12 rfl rfl rfl) rfl (hpostF_nil E.out (HX.out.1.set _ _ _ _).bel)
  · have E : Hid (noteO n f d l o u t x now may = if o = false ∧ may = true ∧ f ≤ (cntT (lastN n l x) : Int) then (([], true, now + holdV d t, min (t + 1) 10), true, 0) else ((lastN n l x, o, u, t), false, 0)) := if_pos hE
    rw [hE]
    clear hE
    have HL : Hid _ := last_any n (.slice p l.length c) l x w1 HX.out.2 hok.1 hh.1
    go_wp2_with fail
    refine Calls.mono HL.out ?_
    rintro r w2 ⟨p', c', rfl, ho, hb2⟩
    obtain ⟨k, hk⟩ : ∃ k, k = (lastN n l x).length := ⟨_, rfl⟩
    rw [← hk] at ho ⊢
    have HO : Hid (Hy _ _ _ _ _ _ _ _ _ _ _ _ _ ∧ _ ∧ _ ∧ w.heap.size + 1 + 1 < w1.heap.size) := ⟨HX.out.1.below hb2, ho, hk, (Array.getElem?_eq_some_iff.1 HX.out.1.2).1⟩
    clear ho hb2 hk HX HL c0 c1 c2 c3 c4 c5 c6 f0 f1 f2 d0 d1 d2 d3 g0 g1 g2 g3
    obtain ⟨c0, c1, c2, c3, c4, c5, c6, f0, f1, f2, d0, d1, d2, d3, g0, g1, g2, g3⟩ := HO.out.1.cells
    have HF : Hid (∀ (q : Nat) (os : Array Obj), Calls Try.prog 26 #[.slice p' k c'] (grow (w2.drewN q) os) fun r w' => r = .returned (.int .i64 (cntT (lastN n l x))) ∧ ∃ q' os', w' = grow ((grow (w2.drewN q) os).drewN q') os') := fun (q : Nat) (os : Array Obj) => by
      refine (failures_any _ (lastN n l x) _ ((bsAt_own (by rw [← HO.out.2.2.1]; exact HO.out.2.1)).below (below_grow _ _ _))).mono ?_
      rintro r w' ⟨rfl, rfl⟩
      exact ⟨rfl, 0, #[], (grow_empty _).symm⟩
    have hcnt : (cntT (lastN n l x) : Int) ≤ 16 := by
      have h1 := cntT_le (lastN n l x)
      have h2 := lastN_len x hh.1 hok.1.1
      omega
    have hf : f ≤ 16 := by omega
    generalize cntT (lastN n l x) = m at *
    have k1 : ∀ n' os, (grow (w2.drewN n') os).cell? ⟨w.heap.size, 1, none⟩ = some (.int .i64 f) := cell_grown (World.block_lt_of_cell? _ _ c1) c1
    have k4 : ∀ n' os, (grow (w2.drewN n') os).cell? ⟨w.heap.size + 1, 1, none⟩ = some (.bool o) := cell_grown (World.block_lt_of_cell? _ _ c4) c4
    have stays : ∀ (W' : World), Below w2.heap.size w2 W' → o = true ∨ may = false ∨ ¬ (f ≤ (m : Int)) → noteO n f d l o u t x now may = ((lastN n l x, o, u, t), false, 0) := fun _ _ h => by
      rw [E.out, if_neg]
      rintro ⟨h1, h2, h3⟩
      rcases h with h | h | h
      · rw [h1] at h; cases h
      · rw [h2] at h; cases h
      · exact h h3
    have ST : Hid _ := stays
    clear stays
    cases o
    case true =>
      have E2 := ST.out w2 (Below.refl _ _) (.inl rfl)
      have EE : Hid _ := E2
      clear E2
      go_wp2_with fail
      refine wp_region_quiet_grown mixed (by kernel_rfl) ?_
      repeat (first | go_big_quiet_skip | quiet_step (first | (go_at_call 26; exact Calls.grown_of (HF.out _ _))))
      refine wpQuiet_nil ?_
      intro _ hw'
      obtain ⟨⟨nq, osq⟩, hw''⟩ := hw'
      subst hw''
      have HO2 : Hid (Hy _ _ _ _ _ _ _ _ _ _ _ _ _ ∧ _) := ⟨HO.out.1.below (below_grow w2 nq osq), own_grownW HO.out.2.1 (below_grow w2 nq osq)⟩
      clear c0 c1 c2 c3 c4 c5 c6 f0 f1 f2 d0 d1 d2 d3 g0 g1 g2 g3 k1 k4
      generalize grow (w2.drewN nq) osq = w3 at HO2 ⊢
      obtain ⟨c0, c1, c2, c3, c4, c5, c6, f0, f1, f2, d0, d1, d2, d3, g0, g1, g2, g3⟩ := HO2.out.1.cells
      go_wp2
      exact bodyPost_ret (v := .tuple #[hltV (.slice p' k c') true u t, .bool false, .int .i64 0]) (((HO2.out.1.set0 _).set _ _ _ _).res Try.results12 rfl rfl rfl) rfl (hpostF_of EE.out HO.out.2.2.1 (bsAt_own (base := w1.heap.size) (by rw [← HO.out.2.2.1]; exact own_set4 (own_set HO2.out.2 (by have := HO.out.2.2.2; simp; omega)) HO.out.2.2.2)) ((HO2.out.1.set0 _).set _ _ _ _).bel HO.out.2.1 (by have := HO.out.2.2.2; omega))
    case false =>
      cases may
      case false =>
        have E2 := ST.out w2 (Below.refl _ _) (.inr (.inl rfl))
        have EE : Hid _ := E2
        clear E2
        go_wp2_with fail
        refine wp_region_quiet_grown mixed (by kernel_rfl) ?_
        repeat (first | go_big_quiet_skip | quiet_step (first | (go_at_call 26; exact Calls.grown_of (HF.out _ _))))
        refine wpQuiet_nil ?_
        intro _ hw'
        obtain ⟨⟨nq, osq⟩, hw''⟩ := hw'
        subst hw''
        have HO2 : Hid (Hy _ _ _ _ _ _ _ _ _ _ _ _ _ ∧ _) := ⟨HO.out.1.below (below_grow w2 nq osq), own_grownW HO.out.2.1 (below_grow w2 nq osq)⟩
        clear c0 c1 c2 c3 c4 c5 c6 f0 f1 f2 d0 d1 d2 d3 g0 g1 g2 g3 k1 k4
        generalize grow (w2.drewN nq) osq = w3 at HO2 ⊢
        obtain ⟨c0, c1, c2, c3, c4, c5, c6, f0, f1, f2, d0, d1, d2, d3, g0, g1, g2, g3⟩ := HO2.out.1.cells
        go_wp2
        exact bodyPost_ret (v := .tuple #[hltV (.slice p' k c') false u t, .bool false, .int .i64 0]) (((HO2.out.1.set0 _).set _ _ _ _).res Try.results12 rfl rfl rfl) rfl (hpostF_of EE.out HO.out.2.2.1 (bsAt_own (base := w1.heap.size) (by rw [← HO.out.2.2.1]; exact own_set4 (own_set HO2.out.2 (by have := HO.out.2.2.2; simp; omega)) HO.out.2.2.2)) ((HO2.out.1.set0 _).set _ _ _ _).bel HO.out.2.1 (by have := HO.out.2.2.2; omega))
      case true =>
        cases hm : decide (f ≤ (m : Int))
        case false =>
          have E2 := ST.out w2 (Below.refl _ _) (.inr (.inr (of_decide_eq_false hm)))
          have EE : Hid _ := E2
          clear E2
          go_wp2_with fail
          refine wp_region_quiet_grown mixed (by kernel_rfl) ?_
          repeat (first | go_big_quiet_skip | quiet_step (first | (go_at_call 26; exact Calls.grown_of (HF.out _ _))))
          refine wpQuiet_nil ?_
          intro _ hw'
          obtain ⟨⟨nq, osq⟩, hw''⟩ := hw'
          subst hw''
          have HO2 : Hid (Hy _ _ _ _ _ _ _ _ _ _ _ _ _ ∧ _) := ⟨HO.out.1.below (below_grow w2 nq osq), own_grownW HO.out.2.1 (below_grow w2 nq osq)⟩
          clear c0 c1 c2 c3 c4 c5 c6 f0 f1 f2 d0 d1 d2 d3 g0 g1 g2 g3 k1 k4
          generalize grow (w2.drewN nq) osq = w3 at HO2 ⊢
          obtain ⟨c0, c1, c2, c3, c4, c5, c6, f0, f1, f2, d0, d1, d2, d3, g0, g1, g2, g3⟩ := HO2.out.1.cells
          go_wp2
          exact bodyPost_ret (v := .tuple #[hltV (.slice p' k c') false u t, .bool false, .int .i64 0]) (((HO2.out.1.set0 _).set _ _ _ _).res Try.results12 rfl rfl rfl) rfl (hpostF_of EE.out HO.out.2.2.1 (bsAt_own (base := w1.heap.size) (by rw [← HO.out.2.2.1]; exact own_set4 (own_set HO2.out.2 (by have := HO.out.2.2.2; simp; omega)) HO.out.2.2.2)) ((HO2.out.1.set0 _).set _ _ _ _).bel HO.out.2.1 (by have := HO.out.2.2.2; omega))
        case true =>
          have E2 : noteO n f d l false u t x now true = (([], true, now + holdV d t, min (t + 1) 10), true, 0) := by rw [E.out, if_pos ⟨rfl, rfl, of_decide_eq_true hm⟩]
          have EE : Hid _ := E2
          have HT : Hid (∀ W, _) := fun W => thrown_any n f d t now W hok.2.2 hh.2.1 hnow
          clear E2
          go_wp2_with fail
          refine wp_region_quiet_grown mixed (by kernel_rfl) ?_
          repeat (first | go_big_quiet_skip | quiet_step (first | (go_at_call 26; exact Calls.grown_of (HF.out _ _))))
          refine wpQuiet_nil ?_
          intro _ hw'
          obtain ⟨⟨nq, osq⟩, hw''⟩ := hw'
          subst hw''
          have HO2 : Hid (Hy _ _ _ _ _ _ _ _ _ _ _ _ _ ∧ _) := ⟨HO.out.1.below (below_grow w2 nq osq), own_grownW HO.out.2.1 (below_grow w2 nq osq)⟩
          clear c0 c1 c2 c3 c4 c5 c6 f0 f1 f2 d0 d1 d2 d3 g0 g1 g2 g3 k1 k4
          generalize grow (w2.drewN nq) osq = w3 at HO2 ⊢
          obtain ⟨c0, c1, c2, c3, c4, c5, c6, f0, f1, f2, d0, d1, d2, d3, g0, g1, g2, g3⟩ := HO2.out.1.cells
          clear HF hm hcnt hf hok hh hnow ST
          go_wp2_with fail
          refine (HT.out _).mono ?_
          rintro r w4 ⟨rfl, hb4⟩
          have HO3 : Hid (Hy _ _ _ _ _ _ _ _ _ _ _ _ _) := HO2.out.1.below hb4
          clear c0 c1 c2 c3 c4 c5 c6 f0 f1 f2 d0 d1 d2 d3 g0 g1 g2 g3 hb4
          obtain ⟨c0, c1, c2, c3, c4, c5, c6, f0, f1, f2, d0, d1, d2, d3, g0, g1, g2, g3⟩ := HO3.out.cells
          generalize now + holdV d t = hu at *
          generalize min (t + 1) 10 = ht at *
          go_wp2
          exact bodyPost_ret (v := .tuple #[hltV (.slice none 0 0) true hu ht, .bool true, .int .i64 0]) ((HO3.out.set _ _ _ _).res Try.results12 rfl rfl rfl) rfl (hpostF_nil EE.out (HO3.out.set _ _ _ _).bel)

theorem note_any (n f d : Int) (v : Value) (l : List Bool) (o : Bool) (u t : Int) (x : Bool) (now : Int) (may : Bool) (w : World) (hv : BsAt w v l) (hl : l.length ≤ 140737488355328) :
    Calls Try.prog 12 #[watV n f d, hltV v o u t, .bool x, .int .i64 now, .bool may] w (HPost w (noteO n f d l o u t x now may)) :=
  (note_fresh n f d v l o u t x now may w hv hl).mono fun _ _ h => h.post
end Go.Proofs.Ytofnhdkcadoiiaa.Walks
