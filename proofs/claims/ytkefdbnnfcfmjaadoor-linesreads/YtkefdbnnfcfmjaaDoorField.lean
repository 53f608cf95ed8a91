/-
  The program's pointed-at fields: what within, get, set, flowFields and adminFields answer, and what becomes of memory. Conditions: an event lies in the block that is pointed at.
-/
import Derived.Test.YtkefdbnnfcfmjaaDoorRows
import Derived.Test.YtkefdbnnfcfmjaaDoorChecked
import Derived.Test.YtkefdbnnfcfmjaaDoorPlain
import Derived.WalkKit
import Derived.ProofKit
import Derived.Handy
import Derived.LoopTactic
import Derived.Below
import Derived.Laws.BitsAllLaws
import Derived.RegionTactic
import Derived.Deep.RegionHeld3
import Derived.Deep.DrawnRows
import Derived.Deep.AppendLies
import Derived.Laws.OwnMore
namespace Go.Proofs.YtkefdbnnfcfmjaaDoor.Walks
open Go.RowKit
open Go.Proofs.YtkefdbnnfcfmjaaDoor.Plain
set_option linter.unusedVariables false
attribute [local go_sem ↓] Go.wp_at_zero Go.wp_at_succ

set_option maxHeartbeats 400000 in
theorem within_yes (x y : Value) (lo hi n : Int) (w : World) (h1 : lo ≤ n) (h2 : n ≤ hi) :
    Calls Tryd.prog 27 #[.agg #[x, y, .int .i64 lo, .int .i64 hi], .int .i64 n] w fun e w' => e = .returned (.bool true) ∧ Below w.heap.size w w' := by
  go_enter Tryd.func27, Tryd.ntmps27
  go_wp2
  go_ret
  exact ⟨rfl, (Below.refl _ _).alloc (Nat.le_refl _) _⟩

set_option maxHeartbeats 400000 in
theorem within_no (x y : Value) (lo hi n : Int) (w : World) (h1 : ¬ (lo ≤ n ∧ n ≤ hi)) :
    Calls Tryd.prog 27 #[.agg #[x, y, .int .i64 lo, .int .i64 hi], .int .i64 n] w fun e w' => e = .returned (.bool false) ∧ Below w.heap.size w w' := by
  by_cases h2 : lo ≤ n
  · have h3 : ¬ n ≤ hi := by omega
    go_enter Tryd.func27, Tryd.ntmps27
    go_wp2
    go_ret
    exact ⟨rfl, (Below.refl _ _).alloc (Nat.le_refl _) _⟩
  · have h3 : decide (lo ≤ n) = false := by simpa using h2
    go_enter Tryd.func27, Tryd.ntmps27
    go_wp2
    go_ret
    exact ⟨rfl, (Below.refl _ _).alloc (Nat.le_refl _) _⟩

set_option maxHeartbeats 400000 in
theorem get_num (b o : Nat) (lo hi n : Int) (w : World) (h : w.cell? ⟨b, o, none⟩ = some (.int .i64 n)) :
    Calls Tryd.prog 28 #[.agg #[.pointer (some ⟨b, o, none⟩), .pointer none, .int .i64 lo, .int .i64 hi]] w fun e w' => e = .returned (.int .i64 n) ∧ Below w.heap.size w w' := by
  have hb : b < w.heap.size := World.block_lt_of_cell? w _ h
  go_enter Tryd.func28, Tryd.ntmps28
  go_wp2
  go_ret
  exact ⟨rfl, (Below.refl _ _).alloc (Nat.le_refl _) _⟩

set_option maxHeartbeats 400000 in
theorem get_flag (b o : Nat) (lo hi : Int) (t : Bool) (w : World) (h : w.cell? ⟨b, o, none⟩ = some (.bool t)) :
    Calls Tryd.prog 28 #[.agg #[.pointer none, .pointer (some ⟨b, o, none⟩), .int .i64 lo, .int .i64 hi]] w fun e w' => e = .returned (.int .i64 (if t then 1 else 0)) ∧ Below w.heap.size w w' := by
  have hb : b < w.heap.size := World.block_lt_of_cell? w _ h
  cases t
  all_goals
    go_enter Tryd.func28, Tryd.ntmps28
    go_wp2
    go_ret
    exact ⟨rfl, (Below.refl _ _).alloc (Nat.le_refl _) _⟩


set_option maxHeartbeats 400000 in
theorem set_num (b o : Nat) (lo hi n : Int) (v : Value) (w : World) (h : w.cell? ⟨b, o, none⟩ = some v) (hf : w.frozen? ⟨b, o, none⟩ = false) :
    Calls Tryd.prog 48 #[.agg #[.pointer (some ⟨b, o, none⟩), .pointer none, .int .i64 lo, .int .i64 hi], .int .i64 n] w fun e w' => e = .returned (.tuple #[]) ∧
      w' = (w.setCell ⟨b, o, none⟩ (.int .i64 n)).alloc (.cells #[.pointer (some ⟨b, o, none⟩), .pointer none, .int .i64 lo, .int .i64 hi] 67) := by
  have hb : b < w.heap.size := World.block_lt_of_cell? w _ h
  go_enter Tryd.func48, Tryd.ntmps48
  go_wp2
  first | go_end0 | (refine bodyPost_ret (v := .tuple #[]) (by simp [results, Tryd.results48, go_sem]) rfl ?_)
  exact ⟨rfl, rfl⟩

set_option maxHeartbeats 400000 in
theorem set_flag (b o : Nat) (lo hi n : Int) (v : Value) (w : World) (h : w.cell? ⟨b, o, none⟩ = some v) (hf : w.frozen? ⟨b, o, none⟩ = false) :
    Calls Tryd.prog 48 #[.agg #[.pointer none, .pointer (some ⟨b, o, none⟩), .int .i64 lo, .int .i64 hi], .int .i64 n] w fun e w' => e = .returned (.tuple #[]) ∧
      w' = (w.setCell ⟨b, o, none⟩ (.bool (n == 1))).alloc (.cells #[.pointer none, .pointer (some ⟨b, o, none⟩), .int .i64 lo, .int .i64 hi] 67) := by
  have hb : b < w.heap.size := World.block_lt_of_cell? w _ h
  go_enter Tryd.func48, Tryd.ntmps48
  go_wp2
  go_end0
  exact ⟨rfl, rfl⟩

/-- An event lies in block b. -/
def arr (e : Ev) : Array Value := #[.int .i64 e.kind, .int .i64 e.key, .int .i64 e.slot, .int .i64 e.gen, .bool e.good, .int .i64 e.req, .int .i64 e.be, .int .i64 e.wt]
def EvAt (w : World) (b : Nat) (e : Ev) : Prop := w.heap[b]? = some (.cells (arr e) 34)

theorem EvAt.lt {w : World} {b : Nat} {e : Ev} (h : EvAt w b e) : b < w.heap.size := by
  rcases Nat.lt_or_ge b w.heap.size with hlt | hge
  · exact hlt
  · unfold EvAt at h; rw [Array.getElem?_eq_none hge] at h; cases h
theorem EvAt.cell {w : World} {b : Nat} {e : Ev} (h : EvAt w b e) (o : Nat) : w.cell? ⟨b, o, none⟩ = (arr e)[o]? := by
  unfold EvAt at h; simp [World.cell?, h]
theorem EvAt.frozen {w : World} {b : Nat} {e : Ev} (h : EvAt w b e) (o : Nat) : w.frozen? ⟨b, o, none⟩ = false := by
  unfold EvAt at h; simp [World.frozen?, h]
theorem EvAt.below {w w' : World} {b B : Nat} {e : Ev} (h : EvAt w b e) (hb : Below B w w') (hlt : b < B) : EvAt w' b e := by
  unfold EvAt; rw [hb.block b hlt]; exact h

def pp (b : Nat) (f : Fld) : Option Addr := if f.off = 4 then none else some ⟨b, f.off, none⟩
def pq (b : Nat) (f : Fld) : Option Addr := if f.off = 4 then some ⟨b, f.off, none⟩ else none
def fcells (b : Nat) (f : Fld) : List Value := [.pointer (pp b f), .pointer (pq b f), .int .i64 f.lo, .int .i64 f.hi]

theorem get_any (b : Nat) (f : Fld) (e : Ev) (w : World) (hE : EvAt w b e) (h1 : 1 ≤ f.off) (h7 : f.off ≤ 7) :
    Calls Tryd.prog 28 #[.agg #[.pointer (pp b f), .pointer (pq b f), .int .i64 f.lo, .int .i64 f.hi]] w fun r w' => r = .returned (.int .i64 (e.num f.off)) ∧ Below w.heap.size w w' := by
  have hc := hE.cell f.off
  obtain ⟨o, lo, hi⟩ := f
  dsimp only at *
  obtain rfl | rfl | rfl | rfl | rfl | rfl | rfl : o = 1 ∨ o = 2 ∨ o = 3 ∨ o = 4 ∨ o = 5 ∨ o = 6 ∨ o = 7 := by omega
  case inr.inr.inr.inl => exact get_flag b 4 lo hi e.good w hc
  all_goals exact get_num b _ lo hi _ w hc

/-- No block but b has turned. -/
theorem grownBy_setCell {w : World} (o : Obj) (a : Addr) (v : Value) : w.grownBy ((w.setCell a v).alloc o) (some a.block) := by
  have hs : (w.setCell a v).heap.size = w.heap.size := by simp [World.setCell]
  refine ⟨rfl, rfl, rfl, ?_, fun k hk hne => ?_⟩
  · show w.heap.size ≤ ((w.setCell a v).heap.push o).size
    rw [Array.size_push, hs]; omega
  · rw [Below.heap_alloc _ _ _ (by rw [hs]; exact hk), Below.heap_setCell _ _ _ _ (fun h => hne (by rw [h]))]

theorem EvAt_setCell {w : World} {b : Nat} {e e' : Ev} (h : EvAt w b e) (x : Obj) (o : Nat) (v : Value) (hv : (arr e).setIfInBounds o v = arr e') : EvAt ((w.setCell ⟨b, o, none⟩ v).alloc x) b e' := by
  have hs : (w.setCell ⟨b, o, none⟩ v).heap.size = w.heap.size := by simp [World.setCell]
  have h' : w.heap[b]? = some (.cells (arr e) 34) := h
  unfold EvAt
  rw [Below.heap_alloc _ _ _ (by rw [hs]; exact h.lt)]
  simp only [World.setCell, Array.getElem?_modify, h', if_true, Option.map_some]
  simp [hv]

theorem set_any (b : Nat) (f : Fld) (e : Ev) (n : Int) (w : World) (hE : EvAt w b e) (h1 : 1 ≤ f.off) (h7 : f.off ≤ 7) :
    Calls Tryd.prog 48 #[.agg #[.pointer (pp b f), .pointer (pq b f), .int .i64 f.lo, .int .i64 f.hi], .int .i64 n] w fun r w' => r = .returned (.tuple #[]) ∧ EvAt w' b (e.put f.off n) ∧ w.grownBy w' (some b) := by
  have hc := hE.cell f.off
  have hf := hE.frozen f.off
  obtain ⟨o, lo, hi⟩ := f
  dsimp only at *
  obtain rfl | rfl | rfl | rfl | rfl | rfl | rfl : o = 1 ∨ o = 2 ∨ o = 3 ∨ o = 4 ∨ o = 5 ∨ o = 6 ∨ o = 7 := by omega
  case inr.inr.inr.inl =>
    refine (set_flag b 4 lo hi n _ w hc hf).mono ?_
    rintro r w' ⟨rfl, rfl⟩
    exact ⟨rfl, EvAt_setCell hE _ _ _ rfl, grownBy_setCell _ _ _⟩
  all_goals
    refine (set_num b _ lo hi n _ w hc hf).mono ?_
    rintro r w' ⟨rfl, rfl⟩
    exact ⟨rfl, EvAt_setCell hE _ _ _ rfl, grownBy_setCell _ _ _⟩

theorem heap_new (w : World) (o : Obj) : (w.alloc o).heap[w.heap.size]? = some o := by show (w.heap.push o)[w.heap.size]? = some o; simp

set_option maxHeartbeats 400000 in
theorem flow_any (b : Nat) (w : World) :
    Calls Tryd.prog 46 #[.pointer (some ⟨b, 0, none⟩)] w fun e w' => e = .returned (.slice (some ⟨w.heap.size, 0, none⟩) 2 2) ∧
      w' = (w.alloc (.cells #[.pointer (some ⟨b, 2, none⟩), .pointer none, .int .i64 0, .int .i64 39, .pointer (some ⟨b, 3, none⟩), .pointer none, .int .i64 0, .int .i64 1048576] 67)).drew := by
  go_enter Tryd.func46, Tryd.ntmps46
  go_wp2
  go_region
  go_wp2
  go_ret
  exact ⟨rfl, rfl⟩

set_option maxHeartbeats 400000 in
theorem admin_any (b : Nat) (w : World) :
    Calls Tryd.prog 47 #[.pointer (some ⟨b, 0, none⟩)] w fun e w' => e = .returned (.slice (some ⟨w.heap.size, 0, none⟩) 2 2) ∧
      w' = (w.alloc (.cells #[.pointer (some ⟨b, 5, none⟩), .pointer none, .int .i64 0, .int .i64 1048576, .pointer (some ⟨b, 6, none⟩), .pointer none, .int .i64 0, .int .i64 11] 67)).drew := by
  go_enter Tryd.func47, Tryd.ntmps47
  go_wp2
  go_region
  go_wp2
  go_ret
  exact ⟨rfl, rfl⟩
end Go.Proofs.YtkefdbnnfcfmjaaDoor.Walks
