/-
  The document's changedSlot. Condition: the slots can be read, and are at most 40.
-/
import Derived.Test.YthiojfgimjoenaaWith
import Derived.Deep.RegionLaw
import Derived.WalkKit
import Derived.ProofKit
import Derived.Handy
import Derived.LoopTactic
import Derived.Below
import Derived.Laws.BitsAllLaws
import Derived.RegionTactic
import Derived.Deep.RegionHeld3
import Derived.Deep.DrawnRows
import Derived.Deep.AppendLies
import Derived.Laws.OwnMore
import Derived.Deep.Onto
import Derived.Deep.QuietTactic
import Derived.BigQuiet
namespace Go.Proofs.Ythiojfgimjoenaa.Walks
open Go.RowKit
set_option linter.unusedVariables false
set_option linter.unusedSimpArgs false
attribute [local go_sem ↓] Go.wp_at_zero Go.wp_at_succ

/-- One slot more: the run. -/
theorem append_oneS {w : World} {base : Nat} {p : Option Addr} {k c : Nat} {m : List Sl} (ho : w.ownsRow base 44 4 (.slice p k c) k (scells m)) (hb : base ≤ w.heap.size) (hk : k ≤ 1000) (ty : TypeId) (x1 : Int) (x2 : Bool) (x3 x4 : Int) :
    ∃ p' c' w', (Builtin.append_ #[22, 22] ty #[.slice p k c, .slice (some ⟨w.heap.size, 0, none⟩) 1 1]).run Try.prog (w.alloc (.cells #[.int .i64 x1, .bool x2, .int .i64 x3, .int .i64 x4] 44)) = .ok (.slice p' (k + 1) c') w' ∧
      w'.ownsRow base 44 4 (.slice p' (k + 1) c') (k + 1) (scells (m ++ [(x1, x2, x3, x4)])) ∧ Below base w w' := by
  obtain ⟨i0, hi, hz0, hz1, hz2⟩ := info_parts infoSl
  have hn := news_at w (scells [(x1, x2, x3, x4)]) 44
  obtain ⟨v', w', hr, ho', hg, _⟩ := run_append_own (P := Try.prog) (w.alloc (.cells #[.int .i64 x1, .bool x2, .int .i64 x3, .int .i64 x4] 44)) base 22 ty 44 i0 _ 4 32 Try.underlying22 hi hz0 hz1 hz2 rfl (by decide) (.slice p k c) k (scells m) (ho.alloc _) ⟨w.heap.size, 0, none⟩ 1 1 (scells [(x1, x2, x3, x4)]) rfl hn (scells_one _) (by unfold maxLen; omega) (by omega) (by simp; omega)
  rw [← scells_append] at ho'
  obtain ⟨p', c', rfl⟩ := own_form ho'
  refine ⟨p', c', w', hr, ho', ?_⟩
  exact ((Below.refl _ _).alloc hb _).grown hg (by simp; omega) (fun j e => (ho.lt j e).1)

/-- A slot more in a table's box: the run, and what it leaves. -/
theorem next_slot {W0 wr : World} {B base : Nat} {p' : Option Addr} {k c' : Nat} {m m' : List Sl} (y1 : Int) (y2 : Bool) (y3 y4 : Int) (hO : wr.heap[B]? = some (.cells #[.slice p' k c'] 24 (0, 0))) (ho : wr.ownsRow base 44 4 (.slice p' k c') k (scells m)) (hB : base = B + 1) (hbr : Below B W0 wr) (hsr : base ≤ wr.heap.size) (hk : k ≤ 1000) (he : m' = m ++ [(y1, y2, y3, y4)]) :
    ∃ q d w', (Builtin.append_ #[22, 22] 22 #[.slice p' k c', .slice (some ⟨wr.heap.size, 0, none⟩) 1 1]).run Try.prog (wr.alloc (.cells #[.int .i64 y1, .bool y2, .int .i64 y3, .int .i64 y4] 44)) = .ok (.slice q (k + 1) d) w' ∧ w'.cell? ⟨B, 0, none⟩ = some (.slice p' k c') ∧ w'.frozen? ⟨B, 0, none⟩ = false ∧
      (w'.setCell ⟨B, 0, none⟩ (.slice q (k + 1) d)).heap[B]? = some (.cells #[.slice q (k + 1) d] 24 (0, 0)) ∧ (w'.setCell ⟨B, 0, none⟩ (.slice q (k + 1) d)).ownsRow base 44 4 (.slice q (k + 1) d) (k + 1) (scells m') ∧ Below B W0 (w'.setCell ⟨B, 0, none⟩ (.slice q (k + 1) d)) ∧ wr.heap.size ≤ (w'.setCell ⟨B, 0, none⟩ (.slice q (k + 1) d)).heap.size := by
  obtain ⟨q, d, w', hr, ho', hb'⟩ := append_oneS ho (by omega) hk 22 y1 y2 y3 y4
  rw [← he] at ho'
  have hO' := (hb'.block B (by omega)).trans hO
  have hsz := hb'.size
  refine ⟨q, d, w', hr, one_cell hO', by simp [World.frozen?, hO'], one_set hO', own_block ho' (fun g hg => Below.heap_setCell _ _ _ _ (by have := (ho'.lt g hg).1; simp; omega)), (hbr.trans (hb'.mono (by omega))).setCell (by simp) _, by simpa using hsz⟩

theorem take_set_at {l : List Sl} {k : Nat} (h : k < l.length) (x : Sl) : (l.set k x).take (k + 1) = (l.set k x).take k ++ [x] := by
  rw [List.take_succ_eq_append_getElem (by simpa using h)]
  simp

theorem take_set_other {l : List Sl} {k at_ : Nat} (h : k < l.length) (x : Sl) (hne : k ≠ at_) : (l.set at_ x).take (k + 1) = (l.set at_ x).take k ++ [l[k]] := by
  rw [List.take_succ_eq_append_getElem (by simpa using h), List.getElem_set_ne (Ne.symm hne)]

end Go.Proofs.Ythiojfgimjoenaa.Walks
