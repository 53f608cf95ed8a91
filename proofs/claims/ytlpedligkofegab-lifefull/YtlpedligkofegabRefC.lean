/-
  usherref: BookCopy, lifeAt, LifeOf. Condition: what is read can be read.
-/
import Derived.Test.YtlpedligkofegabAsk
import Derived.WalkKit
import Derived.ProofKit
import Derived.Handy
import Derived.LoopTactic
import Derived.Below
import Derived.Laws.BitsAllLaws
import Derived.RegionTactic
import Derived.Deep.RegionHeld3
import Derived.Deep.DrawnRows
import Derived.Deep.AppendLies
import Derived.Laws.OwnMore
import Derived.Deep.Onto
import Derived.Deep.QuietTactic
import Derived.BigQuiet
namespace Go.Proofs.Ytlpedligkofegab.Walks
open Go.RowKit
set_option linter.unusedVariables false
set_option linter.unusedSimpArgs false
attribute [local go_sem ↓] Go.wp_at_zero Go.wp_at_succ

theorem below_set1 {w W : World} {B h j : Nat} {a : Value} (H : Below B w W) (hh : B ≤ h) : Below B w (W.setCell ⟨h, j, none⟩ a) := H.setCell hh _

theorem below_set2 {w W : World} {B h : Nat} {a b : Value} (H : Below B w W) (hh : B ≤ h) : Below B w (set2 W h a b) := (H.setCell hh _).setCell hh _

/-- Lives and requests in memory of one's own, apart. -/
structure Own2 (base : Nat) (W : World) (va vb : Value) (L : List Lf) (R : List Rq) : Prop where
  lives : W.ownsRow base 39 6 va L.length (recs lfC L)
  reqs : W.ownsRow base 34 5 vb R.length (recs rqC R)
  apart : ∀ g, va.ownBlock = some g → vb.ownBlock ≠ some g

theorem Own2.below {base : Nat} {W W' : World} {va vb : Value} {L : List Lf} {R : List Rq} (h : Own2 base W va vb L R) (hb : Below W.heap.size W W') : Own2 base W' va vb L R := ⟨own_grownW h.lives hb, own_grownW h.reqs hb, h.apart⟩

theorem Own2.kept {base : Nat} {W W' : World} {va vb : Value} {L : List Lf} {R : List Rq} (h : Own2 base W va vb L R) (hk : ∀ b, (va.ownBlock = some b ∨ vb.ownBlock = some b) → W'.heap[b]? = W.heap[b]?) : Own2 base W' va vb L R := ⟨own_block h.lives (fun b hb => hk b (.inl hb)), own_block h.reqs (fun b hb => hk b (.inr hb)), h.apart⟩

theorem Own2.new {base : Nat} {W : World} {va vb : Value} {L : List Lf} {R : List Rq} (h : Own2 base W va vb L R) {B : Nat} (hB : B ≤ base) : BkNew B W va vb L R :=
  ⟨⟨rcAt_own h.lives, rcAt_own h.reqs⟩, fun b hb => Nat.le_trans hB (h.lives.lt b hb).1, fun b hb => Nat.le_trans hB (h.reqs.lt b hb).1⟩

/-- One more in a book's box. -/
theorem lives_step {base : Nat} {W : World} {B : Nat} {p : Option Addr} {n c : Nat} {vb : Value} {m : List Lf} (hbox : W.heap[B]? = some (.cells #[.slice p n c, vb] 26 (0, 0))) (ho : W.ownsRow base 39 6 (.slice p n c) n (recs lfC m)) (hB : B < base) (hbase : base ≤ W.heap.size) (hby : (n + 1) * 48 ≤ 140737488355328) (x1 x2 x3 x4 x5 x6 : Int) :
    ∃ g c' w5, (Builtin.append_ #[23, 23] 23 #[.slice p n c, .slice (some ⟨W.heap.size, 0, none⟩) 1 1]).run Try.prog ((W.alloc (lfO x1 x2 x3 x4 x5 x6)).drew) = .ok (.slice (some ⟨g, 0, none⟩) (n + 1) c') w5 ∧
      (w5.cell? ⟨B, 0, none⟩ = some (.slice p n c) ∧ w5.frozen? ⟨B, 0, none⟩ = false) ∧
      (w5.setCell ⟨B, 0, none⟩ (.slice (some ⟨g, 0, none⟩) (n + 1) c')).heap[B]? = some (.cells #[.slice (some ⟨g, 0, none⟩) (n + 1) c', vb] 26 (0, 0)) ∧
      (w5.setCell ⟨B, 0, none⟩ (.slice (some ⟨g, 0, none⟩) (n + 1) c')).ownsRow base 39 6 (.slice (some ⟨g, 0, none⟩) (n + 1) c') (n + 1) (recs lfC (m ++ [(x1, x2, x3, x4, x5, x6)])) ∧
      (∀ b, b < W.heap.size → b ≠ B → (b < base ∨ (Value.slice p n c).ownBlock ≠ some b) → (w5.setCell ⟨B, 0, none⟩ (.slice (some ⟨g, 0, none⟩) (n + 1) c')).heap[b]? = W.heap[b]?) ∧
      W.heap.size ≤ (w5.setCell ⟨B, 0, none⟩ (.slice (some ⟨g, 0, none⟩) (n + 1) c')).heap.size ∧ Below B W (w5.setCell ⟨B, 0, none⟩ (.slice (some ⟨g, 0, none⟩) (n + 1) c')) := by
  obtain ⟨g, c', w5, hr, ho5, hg, hlies⟩ := append_oneR lf6 (by decide) Try.underlying23 infoLf rfl (w := W.drew) (base := base) ho hbase 23 (x1, x2, x3, x4, x5, x6) #[.int .i64 x1, .int .i64 x2, .int .i64 x3, .int .i64 x4, .int .i64 x5, .int .i64 x6] rfl hby (by unfold maxLen; omega)
  have hgb : ∀ b, b < W.heap.size → (b < base ∨ (Value.slice p n c).ownBlock ≠ some b) → w5.heap[b]? = W.heap[b]? := fun b hb hne => hg.block b hb (fun e => by
    rcases hne with h | h
    · have := (ho.lt b e.symm).1; omega
    · exact h e.symm)
  have hBlt := (Array.getElem?_eq_some_iff.1 hbox).1
  have hT5 : w5.heap[B]? = some (.cells #[.slice p n c, vb] 26 (0, 0)) := (hgb B hBlt (.inl hB)).trans hbox
  have hBg : g ≠ B := by
    rcases hlies with e | e
    · have := (ho.lt g e).1; omega
    · have e3 : W.heap.size < g := e
      omega
  refine ⟨g, c', w5, hr, ⟨(two_cells hT5).1, (two_cells hT5).2.2.1⟩, heap_setCell_same w5 B 0 _ _ _ hT5, own_block ho5 (fun b hb => Below.heap_setCell _ _ _ _ (fun e => hBg (by cases hb; exact e))), fun b hb h1 h2 => by rw [Below.heap_setCell _ _ _ _ h1]; exact hgb b hb h2, by have : W.heap.size ≤ w5.heap.size := hg.size; simpa using this, ?_⟩
  refine below_set1 ?_ (Nat.le_refl _)
  exact ⟨hg.os, hg.tape, hg.output, hg.size, fun b hb => hgb b (by omega) (.inl (by omega))⟩

/-- One more in a book's box. -/
theorem lives_stepP {base : Nat} {W : World} {B : Nat} {p : Option Addr} {n c : Nat} {vb : Value} {m : List Lf} (hbox : W.heap[B]? = some (.cells #[.slice p n c, vb] 26 (0, 0))) (ho : W.ownsRow base 39 6 (.slice p n c) n (recs lfC m)) (hB : B < base) (hbase : base ≤ W.heap.size) (hby : (n + 1) * 48 ≤ 140737488355328) (x1 x2 x3 x4 x5 x6 : Int) :
    ∃ g c' w5, (Builtin.append_ #[23, 23] 23 #[.slice p n c, .slice (some ⟨W.heap.size, 0, none⟩) 1 1]).run Try.prog (W.alloc (lfO x1 x2 x3 x4 x5 x6)) = .ok (.slice (some ⟨g, 0, none⟩) (n + 1) c') w5 ∧
      (w5.cell? ⟨B, 0, none⟩ = some (.slice p n c) ∧ w5.frozen? ⟨B, 0, none⟩ = false) ∧
      (w5.setCell ⟨B, 0, none⟩ (.slice (some ⟨g, 0, none⟩) (n + 1) c')).heap[B]? = some (.cells #[.slice (some ⟨g, 0, none⟩) (n + 1) c', vb] 26 (0, 0)) ∧
      (w5.setCell ⟨B, 0, none⟩ (.slice (some ⟨g, 0, none⟩) (n + 1) c')).ownsRow base 39 6 (.slice (some ⟨g, 0, none⟩) (n + 1) c') (n + 1) (recs lfC (m ++ [(x1, x2, x3, x4, x5, x6)])) ∧
      (∀ b, b < W.heap.size → b ≠ B → (b < base ∨ (Value.slice p n c).ownBlock ≠ some b) → (w5.setCell ⟨B, 0, none⟩ (.slice (some ⟨g, 0, none⟩) (n + 1) c')).heap[b]? = W.heap[b]?) ∧
      W.heap.size ≤ (w5.setCell ⟨B, 0, none⟩ (.slice (some ⟨g, 0, none⟩) (n + 1) c')).heap.size ∧ Below B W (w5.setCell ⟨B, 0, none⟩ (.slice (some ⟨g, 0, none⟩) (n + 1) c')) := by
  obtain ⟨g, c', w5, hr, ho5, hg, hlies⟩ := append_oneR lf6 (by decide) Try.underlying23 infoLf rfl (w := W) (base := base) ho hbase 23 (x1, x2, x3, x4, x5, x6) #[.int .i64 x1, .int .i64 x2, .int .i64 x3, .int .i64 x4, .int .i64 x5, .int .i64 x6] rfl hby (by unfold maxLen; omega)
  have hgb : ∀ b, b < W.heap.size → (b < base ∨ (Value.slice p n c).ownBlock ≠ some b) → w5.heap[b]? = W.heap[b]? := fun b hb hne => hg.block b hb (fun e => by
    rcases hne with h | h
    · have := (ho.lt b e.symm).1; omega
    · exact h e.symm)
  have hBlt := (Array.getElem?_eq_some_iff.1 hbox).1
  have hT5 : w5.heap[B]? = some (.cells #[.slice p n c, vb] 26 (0, 0)) := (hgb B hBlt (.inl hB)).trans hbox
  have hBg : g ≠ B := by
    rcases hlies with e | e
    · have := (ho.lt g e).1; omega
    · have e3 : W.heap.size < g := e
      omega
  refine ⟨g, c', w5, hr, ⟨(two_cells hT5).1, (two_cells hT5).2.2.1⟩, heap_setCell_same w5 B 0 _ _ _ hT5, own_block ho5 (fun b hb => Below.heap_setCell _ _ _ _ (fun e => hBg (by cases hb; exact e))), fun b hb h1 h2 => by rw [Below.heap_setCell _ _ _ _ h1]; exact hgb b hb h2, by have : W.heap.size ≤ w5.heap.size := hg.size; simpa using this, ?_⟩
  refine below_set1 ?_ (Nat.le_refl _)
  exact ⟨hg.os, hg.tape, hg.output, hg.size, fun b hb => hgb b (by omega) (.inl (by omega))⟩

/-- One more in a book's box. -/
theorem reqs_step {base : Nat} {W : World} {B : Nat} {p : Option Addr} {n c : Nat} {va : Value} {m : List Rq} (hbox : W.heap[B]? = some (.cells #[va, .slice p n c] 26 (0, 0))) (ho : W.ownsRow base 34 5 (.slice p n c) n (recs rqC m)) (hB : B < base) (hbase : base ≤ W.heap.size) (hby : (n + 1) * 40 ≤ 140737488355328) (x1 x2 x3 x4 x5 : Int) :
    ∃ g c' w5, (Builtin.append_ #[24, 24] 24 #[.slice p n c, .slice (some ⟨W.heap.size, 0, none⟩) 1 1]).run Try.prog ((W.alloc (rqO x1 x2 x3 x4 x5)).drew) = .ok (.slice (some ⟨g, 0, none⟩) (n + 1) c') w5 ∧
      (w5.cell? ⟨B, 1, none⟩ = some (.slice p n c) ∧ w5.frozen? ⟨B, 1, none⟩ = false) ∧
      (w5.setCell ⟨B, 1, none⟩ (.slice (some ⟨g, 0, none⟩) (n + 1) c')).heap[B]? = some (.cells #[va, .slice (some ⟨g, 0, none⟩) (n + 1) c'] 26 (0, 0)) ∧
      (w5.setCell ⟨B, 1, none⟩ (.slice (some ⟨g, 0, none⟩) (n + 1) c')).ownsRow base 34 5 (.slice (some ⟨g, 0, none⟩) (n + 1) c') (n + 1) (recs rqC (m ++ [(x1, x2, x3, x4, x5)])) ∧
      (∀ b, b < W.heap.size → b ≠ B → (b < base ∨ (Value.slice p n c).ownBlock ≠ some b) → (w5.setCell ⟨B, 1, none⟩ (.slice (some ⟨g, 0, none⟩) (n + 1) c')).heap[b]? = W.heap[b]?) ∧
      W.heap.size ≤ (w5.setCell ⟨B, 1, none⟩ (.slice (some ⟨g, 0, none⟩) (n + 1) c')).heap.size ∧ Below B W (w5.setCell ⟨B, 1, none⟩ (.slice (some ⟨g, 0, none⟩) (n + 1) c')) := by
  obtain ⟨g, c', w5, hr, ho5, hg, hlies⟩ := append_oneR rq5 (by decide) Try.underlying24 infoRq rfl (w := W.drew) (base := base) ho hbase 24 (x1, x2, x3, x4, x5) #[.int .i64 x1, .int .i64 x2, .int .i64 x3, .int .i64 x4, .int .i64 x5] rfl hby (by unfold maxLen; omega)
  have hgb : ∀ b, b < W.heap.size → (b < base ∨ (Value.slice p n c).ownBlock ≠ some b) → w5.heap[b]? = W.heap[b]? := fun b hb hne => hg.block b hb (fun e => by
    rcases hne with h | h
    · have := (ho.lt b e.symm).1; omega
    · exact h e.symm)
  have hBlt := (Array.getElem?_eq_some_iff.1 hbox).1
  have hT5 : w5.heap[B]? = some (.cells #[va, .slice p n c] 26 (0, 0)) := (hgb B hBlt (.inl hB)).trans hbox
  have hBg : g ≠ B := by
    rcases hlies with e | e
    · have := (ho.lt g e).1; omega
    · have e3 : W.heap.size < g := e
      omega
  refine ⟨g, c', w5, hr, ⟨(two_cells hT5).2.1, (two_cells hT5).2.2.2.1⟩, heap_setCell_same w5 B 1 _ _ _ hT5, own_block ho5 (fun b hb => Below.heap_setCell _ _ _ _ (fun e => hBg (by cases hb; exact e))), fun b hb h1 h2 => by rw [Below.heap_setCell _ _ _ _ h1]; exact hgb b hb h2, by have : W.heap.size ≤ w5.heap.size := hg.size; simpa using this, ?_⟩
  refine below_set1 ?_ (Nat.le_refl _)
  exact ⟨hg.os, hg.tape, hg.output, hg.size, fun b hb => hgb b (by omega) (.inl (by omega))⟩

/-- One more in a book's box. -/
theorem reqs_stepP {base : Nat} {W : World} {B : Nat} {p : Option Addr} {n c : Nat} {va : Value} {m : List Rq} (hbox : W.heap[B]? = some (.cells #[va, .slice p n c] 26 (0, 0))) (ho : W.ownsRow base 34 5 (.slice p n c) n (recs rqC m)) (hB : B < base) (hbase : base ≤ W.heap.size) (hby : (n + 1) * 40 ≤ 140737488355328) (x1 x2 x3 x4 x5 : Int) :
    ∃ g c' w5, (Builtin.append_ #[24, 24] 24 #[.slice p n c, .slice (some ⟨W.heap.size, 0, none⟩) 1 1]).run Try.prog (W.alloc (rqO x1 x2 x3 x4 x5)) = .ok (.slice (some ⟨g, 0, none⟩) (n + 1) c') w5 ∧
      (w5.cell? ⟨B, 1, none⟩ = some (.slice p n c) ∧ w5.frozen? ⟨B, 1, none⟩ = false) ∧
      (w5.setCell ⟨B, 1, none⟩ (.slice (some ⟨g, 0, none⟩) (n + 1) c')).heap[B]? = some (.cells #[va, .slice (some ⟨g, 0, none⟩) (n + 1) c'] 26 (0, 0)) ∧
      (w5.setCell ⟨B, 1, none⟩ (.slice (some ⟨g, 0, none⟩) (n + 1) c')).ownsRow base 34 5 (.slice (some ⟨g, 0, none⟩) (n + 1) c') (n + 1) (recs rqC (m ++ [(x1, x2, x3, x4, x5)])) ∧
      (∀ b, b < W.heap.size → b ≠ B → (b < base ∨ (Value.slice p n c).ownBlock ≠ some b) → (w5.setCell ⟨B, 1, none⟩ (.slice (some ⟨g, 0, none⟩) (n + 1) c')).heap[b]? = W.heap[b]?) ∧
      W.heap.size ≤ (w5.setCell ⟨B, 1, none⟩ (.slice (some ⟨g, 0, none⟩) (n + 1) c')).heap.size ∧ Below B W (w5.setCell ⟨B, 1, none⟩ (.slice (some ⟨g, 0, none⟩) (n + 1) c')) := by
  obtain ⟨g, c', w5, hr, ho5, hg, hlies⟩ := append_oneR rq5 (by decide) Try.underlying24 infoRq rfl (w := W) (base := base) ho hbase 24 (x1, x2, x3, x4, x5) #[.int .i64 x1, .int .i64 x2, .int .i64 x3, .int .i64 x4, .int .i64 x5] rfl hby (by unfold maxLen; omega)
  have hgb : ∀ b, b < W.heap.size → (b < base ∨ (Value.slice p n c).ownBlock ≠ some b) → w5.heap[b]? = W.heap[b]? := fun b hb hne => hg.block b hb (fun e => by
    rcases hne with h | h
    · have := (ho.lt b e.symm).1; omega
    · exact h e.symm)
  have hBlt := (Array.getElem?_eq_some_iff.1 hbox).1
  have hT5 : w5.heap[B]? = some (.cells #[va, .slice p n c] 26 (0, 0)) := (hgb B hBlt (.inl hB)).trans hbox
  have hBg : g ≠ B := by
    rcases hlies with e | e
    · have := (ho.lt g e).1; omega
    · have e3 : W.heap.size < g := e
      omega
  refine ⟨g, c', w5, hr, ⟨(two_cells hT5).2.1, (two_cells hT5).2.2.2.1⟩, heap_setCell_same w5 B 1 _ _ _ hT5, own_block ho5 (fun b hb => Below.heap_setCell _ _ _ _ (fun e => hBg (by cases hb; exact e))), fun b hb h1 h2 => by rw [Below.heap_setCell _ _ _ _ h1]; exact hgb b hb h2, by have : W.heap.size ≤ w5.heap.size := hg.size; simpa using this, ?_⟩
  refine below_set1 ?_ (Nat.le_refl _)
  exact ⟨hg.os, hg.tape, hg.output, hg.size, fun b hb => hgb b (by omega) (.inl (by omega))⟩

end Go.Proofs.Ytlpedligkofegab.Walks
