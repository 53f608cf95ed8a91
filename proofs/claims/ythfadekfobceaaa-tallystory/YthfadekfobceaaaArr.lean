/-
  An array of integers in a block of its own.
-/
import Derived.Test.YthfadekfobceaaaBase
import Derived.Deep.MidRow
import Derived.Deep.Upon
import Derived.WalkKit
import Derived.ProofKit
import Derived.Handy
import Derived.LoopTactic
import Derived.Below
import Derived.Laws.BitsAllLaws
import Derived.RegionTactic
import Derived.Deep.RegionHeld3
import Derived.Deep.DrawnRows
import Derived.Deep.AppendLies
import Derived.Laws.OwnMore
import Derived.Deep.Onto
import Derived.Deep.QuietTactic
import Derived.BigQuiet
namespace Go.Proofs.Ythfadekfobceaaa.Walks
open Go.RowKit
set_option linter.unusedVariables false
set_option linter.unusedSimpArgs false
attribute [local go_sem ↓] Go.wp_at_zero Go.wp_at_succ

def icells (a : List Int) : List Value := a.map fun x => .int .i64 x

theorem icells_len (a : List Int) : (icells a).length = a.length := by simp [icells]

theorem icells_one (a : List Int) : ∀ v ∈ icells a, v.oneCell' = true := by
  intro v hv
  obtain ⟨x, _, rfl⟩ := List.mem_map.1 hv
  rfl

theorem heap_setCells (T : TypeId) (g : Nat) : ∀ (vs pre old : List Value) (w : World), old.length = vs.length → w.heap[g]? = some (.cells (pre ++ old).toArray T (0, 0)) → (w.setCells g pre.length vs).heap[g]? = some (.cells (pre ++ vs).toArray T (0, 0))
  | [], pre, old, w, ho, h => by
    obtain rfl : old = [] := List.length_eq_zero_iff.1 (by simpa using ho)
    exact h
  | v :: vs, pre, [], w, ho, h => by simp at ho
  | v :: vs, pre, u :: old, w, ho, h => by
    have h1 := heap_setCell_same w g pre.length _ T v h
    have e : (pre ++ u :: old).toArray.setIfInBounds pre.length v = ((pre ++ [v]) ++ old).toArray := by
      apply Array.toList_inj.1
      simp
    rw [e] at h1
    have h2 := heap_setCells T g vs (pre ++ [v]) old _ (by simpa using ho) h1
    rw [World.setCells]
    simpa using h2

/-- An array in a block. -/
def Arr (T : TypeId) (n : Nat) (w : World) (g : Nat) (a : List Int) : Prop := w.heap[g]? = some (.cells (icells a).toArray T (0, 0)) ∧ a.length = n

section
variable {T : TypeId} {n : Nat} {w w' : World} {g : Nat} {a b : List Int}
theorem Arr.lt (h : Arr T n w g a) : g < w.heap.size := (Array.getElem?_eq_some_iff.1 h.1).1

theorem Arr.keep (h : Arr T n w g a) (hk : w'.heap[g]? = w.heap[g]?) : Arr T n w' g a := ⟨hk.trans h.1, h.2⟩

theorem Arr.below (h : Arr T n w g a) (hb : Below w.heap.size w w') : Arr T n w' g a := h.keep (hb.block g h.lt)

theorem Arr.cell (h : Arr T n w g a) (i : Nat) (hi : i < a.length) : w.cell? ⟨g, i, none⟩ = some (.int .i64 a[i]) := by
  rw [cell_of_row w g i _ T (0, 0) h.1]
  simp [icells, hi]

theorem Arr.frozen (h : Arr T n w g a) (i : Nat) : w.frozen? ⟨g, i, none⟩ = false := by simp [World.frozen?, h.1]

theorem Arr.other (h : Arr T n w g a) {p : Addr} (hne : g ≠ p.block) (v : Value) : Arr T n (w.setCell p v) g a := h.keep (Below.heap_setCell _ _ _ _ hne)

theorem Arr.set (h : Arr T n w g a) (i : Nat) (x : Int) : Arr T n (w.setCell ⟨g, i, none⟩ (.int .i64 x)) g (a.set i x) := by
  refine ⟨?_, by rw [List.length_set]; exact h.2⟩
  rw [heap_setCell_same w g i _ T _ h.1]
  simp [icells, List.map_set]

theorem Arr.new (w : World) (T : TypeId) (a : List Int) : Arr T a.length (w.alloc (.cells (icells a).toArray T)) w.heap.size a := ⟨heap_alloc_new _ _, rfl⟩

theorem Arr.range (h : Arr T n w g a) : w.rangeAt g 0 (icells a) := fun j v hv => by
  rw [Nat.zero_add, cell_of_row w g j _ T (0, 0) h.1]
  simpa using hv

theorem Arr.there (h : Arr T n w g a) : w.there g 0 n := fun j hj => by
  rw [Nat.zero_add, h.cell j (by rw [h.2]; exact hj)]
  exact ⟨rfl, h.frozen j⟩

theorem Arr.load {P : Program} {d : TypeDesc} (h : Arr T n w g a) (hu : P.underlying T = some d) (hd : d.isRow = true) (hi : (P.info? T).map (·.size) = some n) : (Instr.loadAt T (.pointer (some ⟨g, 0, none⟩))).run P w = .ok (.agg (icells a).toArray) w :=
  run_loadAt_mid w g 0 T (icells a) d h.range hu hd (by rw [hi, icells_len, h.2])

theorem Arr.loadV {P : Program} {d : TypeDesc} (h : Arr T n w g a) (hu : P.underlying T = some d) (hd : d.isRow = true) (hi : (P.info? T).map (·.size) = some n) : (loadVar T ⟨g, 0, none⟩).run P w = .ok (.agg (icells a).toArray) w :=
  run_loadVar_mid w g 0 T (icells a) d h.range hu hd (by rw [hi, icells_len, h.2])

theorem Arr.store {P : Program} (h : Arr T n w g a) (hb : b.length = n) (hi : (P.info? T).map (·.size) = some n) : (Instr.storeAt T (.pointer (some ⟨g, 0, none⟩)) (.agg (icells b).toArray)).run P w = .ok () (w.setCells g 0 (icells b)) ∧ Arr T n (w.setCells g 0 (icells b)) g b := by
  constructor
  · have h1 := run_storeAt_mid (P := P) w g 0 T (icells b).toArray (by simp [icells_len, hb]; exact h.there) (by simp [icells_len, hb, hi]) (all_oneCell_toArray (icells_one b))
    simpa using h1
  · have h1 := heap_setCells T g (icells b) [] (icells a) w (by rw [icells_len, icells_len, h.2, hb]) (by simpa using h.1)
    exact ⟨by simpa using h1, hb⟩

theorem tape_setCells (g : Nat) : ∀ (vs : List Value) (o : Nat) (w : World), (w.setCells g o vs).tape = w.tape
  | [], _, _ => rfl
  | v :: vs, o, w => by rw [World.setCells, tape_setCells g vs]; simp [World.setCell]

theorem size_setCells (g : Nat) : ∀ (vs : List Value) (o : Nat) (w : World), (w.setCells g o vs).heap.size = w.heap.size
  | [], _, _ => rfl
  | v :: vs, o, w => by rw [World.setCells, size_setCells g vs]; simp

theorem below_setCells {B : Nat} {w0 : World} (h : Below B w0 w) (hg : B ≤ g) (o : Nat) (vs : List Value) (hB : B ≤ w.heap.size) : Below B w0 (w.setCells g o vs) := by
  refine h.trans ⟨World.os_setCells _ _ _ _, tape_setCells _ _ _ _, World.output_setCells _ _ _ _, by rw [size_setCells]; exact Nat.le_refl _, fun i hi => World.heap_setCells_other w g o vs (by omega) (by omega)⟩

end
end Go.Proofs.Ythfadekfobceaaa.Walks
