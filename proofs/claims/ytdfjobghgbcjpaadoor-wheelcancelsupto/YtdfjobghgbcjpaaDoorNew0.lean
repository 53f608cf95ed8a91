/-
  New wheels: the program's and the document's. No condition.
-/
import Derived.Test.YtdfjobghgbcjpaaDoorOf0
import Derived.WalkKit
import Derived.ProofKit
import Derived.Handy
import Derived.LoopTactic
import Derived.Below
import Derived.Laws.BitsAllLaws
import Derived.RegionTactic
import Derived.Deep.RegionHeld3
import Derived.Deep.DrawnRows
import Derived.Deep.AppendLies
import Derived.Laws.OwnMore
import Derived.Deep.Onto
import Derived.Deep.QuietTactic
import Derived.BigQuiet
namespace Go.Proofs.YtdfjobghgbcjpaaDoor.Walks
open Go.RowKit
set_option linter.unusedVariables false
set_option linter.unusedSimpArgs false
attribute [local go_sem ↓] Go.wp_at_zero Go.wp_at_succ

/-- A wheel of 25 empty lists. -/
def bare : List (List Tm) := List.replicate 25 []

theorem wheelOf_nil (now : Int) : wheelOf now [] = bare := by
  simp [wheelOf, wheelTo, gather, bare, List.map_const']

theorem zeroWheel_at (w : World) : WhAt w (.agg #[.int .i64 0, .slice none 0 0]) 0 [] := ⟨_, rfl, [], rowAt_nil w, rfl, fun i h => absurd h (Nat.not_lt_zero _)⟩

/-- A fresh row of 25 empty lists. -/
theorem bare_own (w : World) : OwnLs (w.alloc (.cells (List.replicate 25 (Value.slice none 0 0)).toArray 38)) w.heap.size (.slice (some ⟨w.heap.size, 0, none⟩) 25 25) (List.replicate 25 (Value.slice none 0 0)) bare := by
  refine ⟨?_, ⟨by simp [bare], fun i h1 h2 => ?_⟩, ?_⟩
  · have := World.ownsRow_lit (base := w.heap.size) (e := 38) (size := 1) w (List.replicate 25 (Value.slice none 0 0)).toArray 25 (Nat.le_refl _) (by unfold maxLen; omega) (by simp)
    simpa [bare] using this
  · simp only [bare, List.getElem_replicate]
    exact World.ownsRow_nil _ _ _ _
  · refine List.pairwise_cons.2 ⟨fun x hx k hk e => ?_, List.pairwise_replicate.2 (.inr fun k hk => ?_)⟩
    · rw [(List.mem_replicate.1 hx).2] at e; cases e
    · cases hk

theorem made25 (W : World) : (Instr.makeSlice 22 (.int .i64 25) (.int .i64 25)).run Tryd.prog W = .ok (.slice (some ⟨W.heap.size, 0, none⟩) 25 25) (W.alloc (.cells (List.replicate 25 (Value.slice none 0 0)).toArray 38)) := by
  obtain ⟨i1, hj, hy0, hy1, hy2⟩ := info_parts infoTms
  have h := run_makeSlice (P := Tryd.prog) W 22 38 i1 _ Tryd.underlying22 hj hy0 .i64 .i64 25 25 (by decide) (by decide) (by rw [hy1]; decide) (by rw [hy2]; decide) (by decide)
  have e : madeCells (Value.slice none 0 0).cells (Int.toNat 25 * 1) = (List.replicate 25 (Value.slice none 0 0)).toArray := Array.toList_inj.1 (toList_madeCells_one (.slice none 0 0) 25)
  rw [h, hy1, e]
  rfl

/-- A wheel's own cells, where a result is laid. -/
theorem two_cells {w : World} {g : Nat} {a b : Value} {T : TypeId} (h : w.heap[g]? = some (.cells #[a, b] T (0, 0))) : w.cell? ⟨g, 0, none⟩ = some a ∧ w.cell? ⟨g, 1, none⟩ = some b ∧ w.frozen? ⟨g, 0, none⟩ = false ∧ w.frozen? ⟨g, 1, none⟩ = false ∧ g < w.heap.size := by
  refine ⟨by simp [World.cell?, h], by simp [World.cell?, h], by simp [World.frozen?, h], by simp [World.frozen?, h], ?_⟩
  exact (Array.getElem?_eq_some_iff.1 h).1

theorem two_set {w : World} {g : Nat} {a b c d : Value} {T : TypeId} (h : w.heap[g]? = some (.cells #[a, b] T (0, 0))) : ((w.setCell ⟨g, 0, none⟩ c).setCell ⟨g, 1, none⟩ d).heap[g]? = some (.cells #[c, d] T (0, 0)) :=
  heap_setCell_same _ _ 1 _ _ d (heap_setCell_same w g 0 _ _ c h)

theorem two_set_cells {w : World} {g : Nat} {a b c d : Value} {T : TypeId} (h : w.heap[g]? = some (.cells #[a, b] T (0, 0))) : ((w.setCell ⟨g, 0, none⟩ c).setCell ⟨g, 1, none⟩ d).cell? ⟨g, 0, none⟩ = some c ∧ ((w.setCell ⟨g, 0, none⟩ c).setCell ⟨g, 1, none⟩ d).cell? ⟨g, 1, none⟩ = some d :=
  ⟨(two_cells (two_set h)).1, (two_cells (two_set h)).2.1⟩

theorem OwnLs.set2 {w : World} {base g : Nat} {v : Value} {vs : List Value} {ls : List (List Tm)} (h : OwnLs w base v vs ls) (hg : g < base) (c d : Value) : OwnLs ((w.setCell ⟨g, 0, none⟩ c).setCell ⟨g, 1, none⟩ d) base v vs ls :=
  h.keep fun i h1 _ => by rw [Below.heap_setCell _ _ _ _ (by simp; omega), Below.heap_setCell _ _ _ _ (by simp; omega)]

set_option maxHeartbeats 1000000 in
theorem empty_any (now : Int) (w : World) : Calls Tryd.prog 28 #[.int .i64 now] w fun r w' => r = .returned (.agg #[.int .i64 now, .slice (some ⟨w.heap.size + 1, 0, none⟩) 25 25]) ∧ OwnLs w' (w.heap.size + 1) (.slice (some ⟨w.heap.size + 1, 0, none⟩) 25 25) (List.replicate 25 (Value.slice none 0 0)) bare ∧ w'.heap.size = w.heap.size + 2 ∧ Below w.heap.size w w' := by
  have hm := made25
  generalize hc : (List.replicate 25 (Value.slice none 0 0)).toArray = cs at hm
  have HC : Hid _ := hc
  clear hc
  go_enter Tryd.func28, Tryd.ntmps28
  go_wp2
  refine bodyPost_ret (v := .agg #[.int .i64 now, .slice (some ⟨w.heap.size + 1, 0, none⟩) 25 25]) (by simp [results, Tryd.results28, go_sem]) rfl ⟨rfl, ?_, by simp, ?_⟩
  · have h := bare_own (w.alloc (.cells #[.int .i64 now, .slice (some ⟨w.heap.size + 1, 0, none⟩) 25 25] 24))
    rw [HC.out] at h
    simpa using h
  · exact ((Below.refl _ _).alloc (Nat.le_refl _) _).alloc (by simp) _

end Go.Proofs.YtdfjobghgbcjpaaDoor.Walks
