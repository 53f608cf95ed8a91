/-
  Which blocks begin at a tick: the program's answer. The tick is not negative.
-/
import Derived.Test.YtdfjobghgbcjpaaDoorPlace2
import Derived.WalkKit
import Derived.ProofKit
import Derived.Handy
import Derived.LoopTactic
import Derived.Below
import Derived.Laws.BitsAllLaws
import Derived.RegionTactic
import Derived.Deep.RegionHeld3
import Derived.Deep.DrawnRows
import Derived.Deep.AppendLies
import Derived.Laws.OwnMore
import Derived.Deep.Onto
import Derived.Deep.QuietTactic
import Derived.BigQuiet
namespace Go.Proofs.YtdfjobghgbcjpaaDoor.Walks
open Go.RowKit
set_option linter.unusedVariables false
set_option linter.unusedSimpArgs false
attribute [local go_sem ↓] Go.wp_at_zero Go.wp_at_succ

theorem three_cellsB {w : World} {g : Nat} {a b c : Value} {T : TypeId} (h : w.heap[g]? = some (.cells #[a, b, c] T (0, 0))) : w.cell? ⟨g, 0, none⟩ = some a ∧ w.cell? ⟨g, 1, none⟩ = some b ∧ w.cell? ⟨g, 2, none⟩ = some c ∧ g < w.heap.size := by
  refine ⟨by simp [World.cell?, h], by simp [World.cell?, h], by simp [World.cell?, h], ?_⟩
  exact (Array.getElem?_eq_some_iff.1 h).1

def beg (n : Int) (m : Int) : Bool := decide (n % m = 0)

set_option maxHeartbeats 4000000 in
theorem begun_any (n : Int) (w : World) (hB : Blk w) (hn : 0 ≤ n) (hn2 : n ≤ 4398046511104) :
    Calls Tryd.prog 39 #[.int .i64 n] w fun r w' => r = .returned (.agg #[.bool (beg n 8), .bool (beg n 64), .bool (beg n 512)]) ∧ Below w.heap.size w w' := by
  have a1 : n.tmod 8 = n % 8 := Int.tmod_eq_emod_of_nonneg hn
  have a2 : n.tmod 64 = n % 64 := Int.tmod_eq_emod_of_nonneg hn
  have a3 : n.tmod 512 = n % 512 := Int.tmod_eq_emod_of_nonneg hn
  obtain ⟨b1, hb1⟩ : ∃ b, b = beg n 8 := ⟨_, rfl⟩
  obtain ⟨b2, hb2⟩ : ∃ b, b = beg n 64 := ⟨_, rfl⟩
  obtain ⟨b3, hb3⟩ : ∃ b, b = beg n 512 := ⟨_, rfl⟩
  rw [← hb1, ← hb2, ← hb3]
  unfold beg at hb1 hb2 hb3
  have e1 : (n % 8 == 0) = b1 := by rw [hb1]; by_cases h : n % 8 = 0 <;> simp [h]
  have e2 : (n % 64 == 0) = b2 := by rw [hb2]; by_cases h : n % 64 = 0 <;> simp [h]
  have e3 : (n % 512 == 0) = b3 := by rw [hb3]; by_cases h : n % 512 = 0 <;> simp [h]
  clear hb1 hb2 hb3
  obtain ⟨c0, c1, c2⟩ := hB
  have i0 := idx0
  have i1 := idx1
  have i2 := idx2
  have hlt0 : 0 < w.heap.size := World.block_lt_of_cell? w ⟨0, 0, none⟩ c0
  go_enter Tryd.func39, Tryd.ntmps39
  go_wp2
  go_loopw [7] (fun i wr => ∃ k : Nat, i = .int .i64 k ∧ k ≤ 3 ∧ Below w.heap.size w wr ∧ wr.heap[w.heap.size]? = some (.cells #[.bool false, .bool false, .bool false] 65 (0, 0)) ∧ wr.heap[w.heap.size + 1]? = some (.cells #[.bool (decide (1 ≤ k) && b1), .bool (decide (2 ≤ k) && b2), .bool (decide (3 ≤ k) && b3)] 65 (0, 0))) (fun i _ => 3 - (intOf i).toNat)
  case atStart =>
    exact ⟨0, rfl, by omega, ((Below.refl _ _).alloc (Nat.le_refl _) _).alloc (by simp) _, heap_old _ _ (heap_alloc_new _ _), heap_second _ _ _⟩
  case round =>
    obtain ⟨k, rfl, hk, hb, h0, h1⟩ := hrel
    have hk4 : k = 0 ∨ k = 1 ∨ k = 2 ∨ k = 3 := by omega
    rcases hk4 with rfl | rfl | rfl | rfl
    · obtain ⟨d0, d1, d2, hl⟩ := three_cellsB h1
      have f0 : wr.frozen? ⟨w.heap.size + 1, 0, none⟩ = false := by simp [World.frozen?, h1]
      have HZ : Hid (_ ∧ _ ∧ _) := ⟨hb, h0, h1⟩
      clear hb h0 h1
      go_wp2
      refine ⟨⟨1, rfl, by omega, HZ.out.1.setCell (by simp) _, (Below.heap_setCell _ _ _ _ (by simp)).trans HZ.out.2.1, (heap_setCell_same _ _ 0 _ _ _ HZ.out.2.2).trans ?_⟩, by simp [intOf]⟩
      simp
    · obtain ⟨d0, d1, d2, hl⟩ := three_cellsB h1
      have f0 : wr.frozen? ⟨w.heap.size + 1, 1, none⟩ = false := by simp [World.frozen?, h1]
      have HZ : Hid (_ ∧ _ ∧ _) := ⟨hb, h0, h1⟩
      clear hb h0 h1
      go_wp2
      refine ⟨⟨2, rfl, by omega, HZ.out.1.setCell (by simp) _, (Below.heap_setCell _ _ _ _ (by simp)).trans HZ.out.2.1, (heap_setCell_same _ _ 1 _ _ _ HZ.out.2.2).trans ?_⟩, by simp [intOf]⟩
      simp
    · obtain ⟨d0, d1, d2, hl⟩ := three_cellsB h1
      have f0 : wr.frozen? ⟨w.heap.size + 1, 2, none⟩ = false := by simp [World.frozen?, h1]
      have HZ : Hid (_ ∧ _ ∧ _) := ⟨hb, h0, h1⟩
      clear hb h0 h1
      go_wp2
      refine ⟨⟨3, rfl, by omega, HZ.out.1.setCell (by simp) _, (Below.heap_setCell _ _ _ _ (by simp)).trans HZ.out.2.1, (heap_setCell_same _ _ 2 _ _ _ HZ.out.2.2).trans ?_⟩, by simp [intOf]⟩
      simp
    · obtain ⟨d0, d1, d2, hl⟩ := three_cellsB h1
      obtain ⟨x0, x1, x2, hl2⟩ := three_cellsB h0
      have f0 : wr.frozen? ⟨w.heap.size, 0, none⟩ = false := by simp [World.frozen?, h0]
      have f1 : wr.frozen? ⟨w.heap.size, 1, none⟩ = false := by simp [World.frozen?, h0]
      have f2 : wr.frozen? ⟨w.heap.size, 2, none⟩ = false := by simp [World.frozen?, h0]
      have d0' : wr.cell? ⟨w.heap.size + 1, 0, none⟩ = some (.bool b1) := by rw [d0]; simp
      have d1' : wr.cell? ⟨w.heap.size + 1, 1, none⟩ = some (.bool b2) := by rw [d1]; simp
      have d2' : wr.cell? ⟨w.heap.size + 1, 2, none⟩ = some (.bool b3) := by rw [d2]; simp
      have HZ : Hid (_ ∧ _ ∧ _) := ⟨hb, h0, h1⟩
      clear hb h0 h1 d0 d1 d2
      go_wp2
      have hz := heap_setCell_same _ _ 2 _ _ (.bool b3) (heap_setCell_same _ _ 1 _ _ (.bool b2) (heap_setCell_same wr w.heap.size 0 _ _ (.bool b1) HZ.out.2.1))
      obtain ⟨y0, y1, y2, _⟩ := three_cellsB hz
      refine bodyPost_ret (v := .agg #[.bool b1, .bool b2, .bool b3]) (by simp [results, Tryd.results39, go_sem, y0, y1, y2]) rfl ⟨rfl, ?_⟩
      exact ((HZ.out.1.setCell (by simp) _).setCell (by simp) _).setCell (by simp) _
end Go.Proofs.YtdfjobghgbcjpaaDoor.Walks
