/-
  usherref: BookCopy, lifeAt, LifeOf. Condition: what is read can be read.
-/
import Derived.Test.YtlpedligkofegaaAsk
import Derived.WalkKit
import Derived.ProofKit
import Derived.Handy
import Derived.LoopTactic
import Derived.Below
import Derived.Laws.BitsAllLaws
import Derived.RegionTactic
import Derived.Deep.RegionHeld3
import Derived.Deep.DrawnRows
import Derived.Deep.AppendLies
import Derived.Laws.OwnMore
import Derived.Deep.Onto
import Derived.Deep.QuietTactic
import Derived.BigQuiet
namespace Go.Proofs.Ytlpedligkofegaa.Walks
open Go.RowKit
set_option linter.unusedVariables false
set_option linter.unusedSimpArgs false
attribute [local go_sem ↓] Go.wp_at_zero Go.wp_at_succ

theorem below_set1 {w W : World} {B h j : Nat} {a : Value} (H : Below B w W) (hh : B ≤ h) : Below B w (W.setCell ⟨h, j, none⟩ a) := H.setCell hh _

theorem below_set2 {w W : World} {B h : Nat} {a b : Value} (H : Below B w W) (hh : B ≤ h) : Below B w (set2 W h a b) := (H.setCell hh _).setCell hh _

/-- Lives and requests in memory of one's own, apart. -/
structure Own2 (base : Nat) (W : World) (va vb : Value) (L : List Lf) (R : List Rq) : Prop where
  lives : W.ownsRow base 44 6 va L.length (recs lfC L)
  reqs : W.ownsRow base 31 5 vb R.length (recs rqC R)
  apart : ∀ g, va.ownBlock = some g → vb.ownBlock ≠ some g

theorem Own2.below {base : Nat} {W W' : World} {va vb : Value} {L : List Lf} {R : List Rq} (h : Own2 base W va vb L R) (hb : Below W.heap.size W W') : Own2 base W' va vb L R := ⟨own_grownW h.lives hb, own_grownW h.reqs hb, h.apart⟩

theorem Own2.kept {base : Nat} {W W' : World} {va vb : Value} {L : List Lf} {R : List Rq} (h : Own2 base W va vb L R) (hk : ∀ b, (va.ownBlock = some b ∨ vb.ownBlock = some b) → W'.heap[b]? = W.heap[b]?) : Own2 base W' va vb L R := ⟨own_block h.lives (fun b hb => hk b (.inl hb)), own_block h.reqs (fun b hb => hk b (.inr hb)), h.apart⟩

theorem Own2.new {base : Nat} {W : World} {va vb : Value} {L : List Lf} {R : List Rq} (h : Own2 base W va vb L R) {B : Nat} (hB : B ≤ base) : BkNew B W va vb L R :=
  ⟨⟨rcAt_own h.lives, rcAt_own h.reqs⟩, fun b hb => Nat.le_trans hB (h.lives.lt b hb).1, fun b hb => Nat.le_trans hB (h.reqs.lt b hb).1⟩

/-- One more in a book's box. -/
theorem lives_step {base : Nat} {W : World} {B : Nat} {p : Option Addr} {n c : Nat} {vb : Value} {m : List Lf} (hbox : W.heap[B]? = some (.cells #[.slice p n c, vb] 25 (0, 0))) (ho : W.ownsRow base 44 6 (.slice p n c) n (recs lfC m)) (hB : B < base) (hbase : base ≤ W.heap.size) (hby : (n + 1) * 48 ≤ 140737488355328) (x1 x2 x3 x4 x5 x6 : Int) :
    ∃ g c' w5, (Builtin.append_ #[22, 22] 22 #[.slice p n c, .slice (some ⟨W.heap.size, 0, none⟩) 1 1]).run Try.prog ((W.alloc (lfO x1 x2 x3 x4 x5 x6)).drew) = .ok (.slice (some ⟨g, 0, none⟩) (n + 1) c') w5 ∧
      (w5.cell? ⟨B, 0, none⟩ = some (.slice p n c) ∧ w5.frozen? ⟨B, 0, none⟩ = false) ∧
      (w5.setCell ⟨B, 0, none⟩ (.slice (some ⟨g, 0, none⟩) (n + 1) c')).heap[B]? = some (.cells #[.slice (some ⟨g, 0, none⟩) (n + 1) c', vb] 25 (0, 0)) ∧
      (w5.setCell ⟨B, 0, none⟩ (.slice (some ⟨g, 0, none⟩) (n + 1) c')).ownsRow base 44 6 (.slice (some ⟨g, 0, none⟩) (n + 1) c') (n + 1) (recs lfC (m ++ [(x1, x2, x3, x4, x5, x6)])) ∧
      (∀ b, b < W.heap.size → b ≠ B → (b < base ∨ (Value.slice p n c).ownBlock ≠ some b) → (w5.setCell ⟨B, 0, none⟩ (.slice (some ⟨g, 0, none⟩) (n + 1) c')).heap[b]? = W.heap[b]?) ∧
      W.heap.size ≤ (w5.setCell ⟨B, 0, none⟩ (.slice (some ⟨g, 0, none⟩) (n + 1) c')).heap.size ∧ Below B W (w5.setCell ⟨B, 0, none⟩ (.slice (some ⟨g, 0, none⟩) (n + 1) c')) := by
  obtain ⟨g, c', w5, hr, ho5, hg, hlies⟩ := append_oneR lf6 (by decide) Try.underlying22 infoLf rfl (w := W.drew) (base := base) ho hbase 22 (x1, x2, x3, x4, x5, x6) #[.int .i64 x1, .int .i64 x2, .int .i64 x3, .int .i64 x4, .int .i64 x5, .int .i64 x6] rfl hby (by unfold maxLen; omega)
  have hgb : ∀ b, b < W.heap.size → (b < base ∨ (Value.slice p n c).ownBlock ≠ some b) → w5.heap[b]? = W.heap[b]? := fun b hb hne => hg.block b hb (fun e => by
    rcases hne with h | h
    · have := (ho.lt b e.symm).1; omega
    · exact h e.symm)
  have hBlt := (Array.getElem?_eq_some_iff.1 hbox).1
  have hT5 : w5.heap[B]? = some (.cells #[.slice p n c, vb] 25 (0, 0)) := (hgb B hBlt (.inl hB)).trans hbox
  have hBg : g ≠ B := by
    rcases hlies with e | e
    · have := (ho.lt g e).1; omega
    · have e3 : W.heap.size < g := e
      omega
  refine ⟨g, c', w5, hr, ⟨(two_cells hT5).1, (two_cells hT5).2.2.1⟩, heap_setCell_same w5 B 0 _ _ _ hT5, own_block ho5 (fun b hb => Below.heap_setCell _ _ _ _ (fun e => hBg (by cases hb; exact e))), fun b hb h1 h2 => by rw [Below.heap_setCell _ _ _ _ h1]; exact hgb b hb h2, by have : W.heap.size ≤ w5.heap.size := hg.size; simpa using this, ?_⟩
  refine below_set1 ?_ (Nat.le_refl _)
  exact ⟨hg.os, hg.tape, hg.output, hg.size, fun b hb => hgb b (by omega) (.inl (by omega))⟩

/-- One more in a book's box. -/
theorem lives_stepP {base : Nat} {W : World} {B : Nat} {p : Option Addr} {n c : Nat} {vb : Value} {m : List Lf} (hbox : W.heap[B]? = some (.cells #[.slice p n c, vb] 25 (0, 0))) (ho : W.ownsRow base 44 6 (.slice p n c) n (recs lfC m)) (hB : B < base) (hbase : base ≤ W.heap.size) (hby : (n + 1) * 48 ≤ 140737488355328) (x1 x2 x3 x4 x5 x6 : Int) :
    ∃ g c' w5, (Builtin.append_ #[22, 22] 22 #[.slice p n c, .slice (some ⟨W.heap.size, 0, none⟩) 1 1]).run Try.prog (W.alloc (lfO x1 x2 x3 x4 x5 x6)) = .ok (.slice (some ⟨g, 0, none⟩) (n + 1) c') w5 ∧
      (w5.cell? ⟨B, 0, none⟩ = some (.slice p n c) ∧ w5.frozen? ⟨B, 0, none⟩ = false) ∧
      (w5.setCell ⟨B, 0, none⟩ (.slice (some ⟨g, 0, none⟩) (n + 1) c')).heap[B]? = some (.cells #[.slice (some ⟨g, 0, none⟩) (n + 1) c', vb] 25 (0, 0)) ∧
      (w5.setCell ⟨B, 0, none⟩ (.slice (some ⟨g, 0, none⟩) (n + 1) c')).ownsRow base 44 6 (.slice (some ⟨g, 0, none⟩) (n + 1) c') (n + 1) (recs lfC (m ++ [(x1, x2, x3, x4, x5, x6)])) ∧
      (∀ b, b < W.heap.size → b ≠ B → (b < base ∨ (Value.slice p n c).ownBlock ≠ some b) → (w5.setCell ⟨B, 0, none⟩ (.slice (some ⟨g, 0, none⟩) (n + 1) c')).heap[b]? = W.heap[b]?) ∧
      W.heap.size ≤ (w5.setCell ⟨B, 0, none⟩ (.slice (some ⟨g, 0, none⟩) (n + 1) c')).heap.size ∧ Below B W (w5.setCell ⟨B, 0, none⟩ (.slice (some ⟨g, 0, none⟩) (n + 1) c')) := by
  obtain ⟨g, c', w5, hr, ho5, hg, hlies⟩ := append_oneR lf6 (by decide) Try.underlying22 infoLf rfl (w := W) (base := base) ho hbase 22 (x1, x2, x3, x4, x5, x6) #[.int .i64 x1, .int .i64 x2, .int .i64 x3, .int .i64 x4, .int .i64 x5, .int .i64 x6] rfl hby (by unfold maxLen; omega)
  have hgb : ∀ b, b < W.heap.size → (b < base ∨ (Value.slice p n c).ownBlock ≠ some b) → w5.heap[b]? = W.heap[b]? := fun b hb hne => hg.block b hb (fun e => by
    rcases hne with h | h
    · have := (ho.lt b e.symm).1; omega
    · exact h e.symm)
  have hBlt := (Array.getElem?_eq_some_iff.1 hbox).1
  have hT5 : w5.heap[B]? = some (.cells #[.slice p n c, vb] 25 (0, 0)) := (hgb B hBlt (.inl hB)).trans hbox
  have hBg : g ≠ B := by
    rcases hlies with e | e
    · have := (ho.lt g e).1; omega
    · have e3 : W.heap.size < g := e
      omega
  refine ⟨g, c', w5, hr, ⟨(two_cells hT5).1, (two_cells hT5).2.2.1⟩, heap_setCell_same w5 B 0 _ _ _ hT5, own_block ho5 (fun b hb => Below.heap_setCell _ _ _ _ (fun e => hBg (by cases hb; exact e))), fun b hb h1 h2 => by rw [Below.heap_setCell _ _ _ _ h1]; exact hgb b hb h2, by have : W.heap.size ≤ w5.heap.size := hg.size; simpa using this, ?_⟩
  refine below_set1 ?_ (Nat.le_refl _)
  exact ⟨hg.os, hg.tape, hg.output, hg.size, fun b hb => hgb b (by omega) (.inl (by omega))⟩

/-- One more in a book's box. -/
theorem reqs_step {base : Nat} {W : World} {B : Nat} {p : Option Addr} {n c : Nat} {va : Value} {m : List Rq} (hbox : W.heap[B]? = some (.cells #[va, .slice p n c] 25 (0, 0))) (ho : W.ownsRow base 31 5 (.slice p n c) n (recs rqC m)) (hB : B < base) (hbase : base ≤ W.heap.size) (hby : (n + 1) * 40 ≤ 140737488355328) (x1 x2 x3 x4 x5 : Int) :
    ∃ g c' w5, (Builtin.append_ #[23, 23] 23 #[.slice p n c, .slice (some ⟨W.heap.size, 0, none⟩) 1 1]).run Try.prog ((W.alloc (rqO x1 x2 x3 x4 x5)).drew) = .ok (.slice (some ⟨g, 0, none⟩) (n + 1) c') w5 ∧
      (w5.cell? ⟨B, 1, none⟩ = some (.slice p n c) ∧ w5.frozen? ⟨B, 1, none⟩ = false) ∧
      (w5.setCell ⟨B, 1, none⟩ (.slice (some ⟨g, 0, none⟩) (n + 1) c')).heap[B]? = some (.cells #[va, .slice (some ⟨g, 0, none⟩) (n + 1) c'] 25 (0, 0)) ∧
      (w5.setCell ⟨B, 1, none⟩ (.slice (some ⟨g, 0, none⟩) (n + 1) c')).ownsRow base 31 5 (.slice (some ⟨g, 0, none⟩) (n + 1) c') (n + 1) (recs rqC (m ++ [(x1, x2, x3, x4, x5)])) ∧
      (∀ b, b < W.heap.size → b ≠ B → (b < base ∨ (Value.slice p n c).ownBlock ≠ some b) → (w5.setCell ⟨B, 1, none⟩ (.slice (some ⟨g, 0, none⟩) (n + 1) c')).heap[b]? = W.heap[b]?) ∧
      W.heap.size ≤ (w5.setCell ⟨B, 1, none⟩ (.slice (some ⟨g, 0, none⟩) (n + 1) c')).heap.size ∧ Below B W (w5.setCell ⟨B, 1, none⟩ (.slice (some ⟨g, 0, none⟩) (n + 1) c')) := by
  obtain ⟨g, c', w5, hr, ho5, hg, hlies⟩ := append_oneR rq5 (by decide) Try.underlying23 infoRq rfl (w := W.drew) (base := base) ho hbase 23 (x1, x2, x3, x4, x5) #[.int .i64 x1, .int .i64 x2, .int .i64 x3, .int .i64 x4, .int .i64 x5] rfl hby (by unfold maxLen; omega)
  have hgb : ∀ b, b < W.heap.size → (b < base ∨ (Value.slice p n c).ownBlock ≠ some b) → w5.heap[b]? = W.heap[b]? := fun b hb hne => hg.block b hb (fun e => by
    rcases hne with h | h
    · have := (ho.lt b e.symm).1; omega
    · exact h e.symm)
  have hBlt := (Array.getElem?_eq_some_iff.1 hbox).1
  have hT5 : w5.heap[B]? = some (.cells #[va, .slice p n c] 25 (0, 0)) := (hgb B hBlt (.inl hB)).trans hbox
  have hBg : g ≠ B := by
    rcases hlies with e | e
    · have := (ho.lt g e).1; omega
    · have e3 : W.heap.size < g := e
      omega
  refine ⟨g, c', w5, hr, ⟨(two_cells hT5).2.1, (two_cells hT5).2.2.2.1⟩, heap_setCell_same w5 B 1 _ _ _ hT5, own_block ho5 (fun b hb => Below.heap_setCell _ _ _ _ (fun e => hBg (by cases hb; exact e))), fun b hb h1 h2 => by rw [Below.heap_setCell _ _ _ _ h1]; exact hgb b hb h2, by have : W.heap.size ≤ w5.heap.size := hg.size; simpa using this, ?_⟩
  refine below_set1 ?_ (Nat.le_refl _)
  exact ⟨hg.os, hg.tape, hg.output, hg.size, fun b hb => hgb b (by omega) (.inl (by omega))⟩

/-- One more in a book's box. -/
theorem reqs_stepP {base : Nat} {W : World} {B : Nat} {p : Option Addr} {n c : Nat} {va : Value} {m : List Rq} (hbox : W.heap[B]? = some (.cells #[va, .slice p n c] 25 (0, 0))) (ho : W.ownsRow base 31 5 (.slice p n c) n (recs rqC m)) (hB : B < base) (hbase : base ≤ W.heap.size) (hby : (n + 1) * 40 ≤ 140737488355328) (x1 x2 x3 x4 x5 : Int) :
    ∃ g c' w5, (Builtin.append_ #[23, 23] 23 #[.slice p n c, .slice (some ⟨W.heap.size, 0, none⟩) 1 1]).run Try.prog (W.alloc (rqO x1 x2 x3 x4 x5)) = .ok (.slice (some ⟨g, 0, none⟩) (n + 1) c') w5 ∧
      (w5.cell? ⟨B, 1, none⟩ = some (.slice p n c) ∧ w5.frozen? ⟨B, 1, none⟩ = false) ∧
      (w5.setCell ⟨B, 1, none⟩ (.slice (some ⟨g, 0, none⟩) (n + 1) c')).heap[B]? = some (.cells #[va, .slice (some ⟨g, 0, none⟩) (n + 1) c'] 25 (0, 0)) ∧
      (w5.setCell ⟨B, 1, none⟩ (.slice (some ⟨g, 0, none⟩) (n + 1) c')).ownsRow base 31 5 (.slice (some ⟨g, 0, none⟩) (n + 1) c') (n + 1) (recs rqC (m ++ [(x1, x2, x3, x4, x5)])) ∧
      (∀ b, b < W.heap.size → b ≠ B → (b < base ∨ (Value.slice p n c).ownBlock ≠ some b) → (w5.setCell ⟨B, 1, none⟩ (.slice (some ⟨g, 0, none⟩) (n + 1) c')).heap[b]? = W.heap[b]?) ∧
      W.heap.size ≤ (w5.setCell ⟨B, 1, none⟩ (.slice (some ⟨g, 0, none⟩) (n + 1) c')).heap.size ∧ Below B W (w5.setCell ⟨B, 1, none⟩ (.slice (some ⟨g, 0, none⟩) (n + 1) c')) := by
  obtain ⟨g, c', w5, hr, ho5, hg, hlies⟩ := append_oneR rq5 (by decide) Try.underlying23 infoRq rfl (w := W) (base := base) ho hbase 23 (x1, x2, x3, x4, x5) #[.int .i64 x1, .int .i64 x2, .int .i64 x3, .int .i64 x4, .int .i64 x5] rfl hby (by unfold maxLen; omega)
  have hgb : ∀ b, b < W.heap.size → (b < base ∨ (Value.slice p n c).ownBlock ≠ some b) → w5.heap[b]? = W.heap[b]? := fun b hb hne => hg.block b hb (fun e => by
    rcases hne with h | h
    · have := (ho.lt b e.symm).1; omega
    · exact h e.symm)
  have hBlt := (Array.getElem?_eq_some_iff.1 hbox).1
  have hT5 : w5.heap[B]? = some (.cells #[va, .slice p n c] 25 (0, 0)) := (hgb B hBlt (.inl hB)).trans hbox
  have hBg : g ≠ B := by
    rcases hlies with e | e
    · have := (ho.lt g e).1; omega
    · have e3 : W.heap.size < g := e
      omega
  refine ⟨g, c', w5, hr, ⟨(two_cells hT5).2.1, (two_cells hT5).2.2.2.1⟩, heap_setCell_same w5 B 1 _ _ _ hT5, own_block ho5 (fun b hb => Below.heap_setCell _ _ _ _ (fun e => hBg (by cases hb; exact e))), fun b hb h1 h2 => by rw [Below.heap_setCell _ _ _ _ h1]; exact hgb b hb h2, by have : W.heap.size ≤ w5.heap.size := hg.size; simpa using this, ?_⟩
  refine below_set1 ?_ (Nat.le_refl _)
  exact ⟨hg.os, hg.tape, hg.output, hg.size, fun b hb => hgb b (by omega) (.inl (by omega))⟩

set_option maxHeartbeats 8000000 in
set_option maxRecDepth 100000 in
theorem bookCopy_any (va vb : Value) (L : List Lf) (R : List Rq) (w : World) (hv : BkAt w va vb L R) (hL : L.length * 48 ≤ 140737488355328) (hR : R.length * 40 ≤ 140737488355328) :
    Calls Try.prog 26 #[bkV va vb] w fun r w' => ∃ p c q m, r = .returned (bkV (.slice p L.length c) (.slice q R.length m)) ∧ Own2 w.heap.size w' (.slice p L.length c) (.slice q R.length m) L R ∧ Below w.heap.size w w' := by
  obtain ⟨pa, ca, rfl, hca, hma, pl⟩ := LvAt.parts hv.1
  obtain ⟨pb, cb, rfl, hcb, hmb, pr⟩ := RsAt.parts hv.2
  unfold maxLen at hma hmb
  obtain ⟨W0, hW0⟩ : ∃ W0, W0 = ((w.alloc (bkO (.slice pa L.length ca) (.slice pb R.length cb))).alloc (bkO (.slice none 0 0) (.slice none 0 0))).alloc (bkO (.slice none 0 0) (.slice none 0 0)) := ⟨_, rfl⟩
  have hx := three_boxes w (bkO (.slice pa L.length ca) (.slice pb R.length cb)) (bkO (.slice none 0 0) (.slice none 0 0)) (bkO (.slice none 0 0) (.slice none 0 0))
  rw [← hW0] at hx
  obtain ⟨hR0, hR1, hR2, hB0, hs0⟩ := hx
  have H : Hid (_ ∧ _ ∧ _ ∧ _ ∧ _ ∧ _ ∧ _) := ⟨hR0, hR1, hR2, hB0, hs0, pl, pr⟩
  clear hv hR0 hR1 hB0 hR2 pl pr
  go_enter Try.func26, Try.ntmps26
  go_wp2
  rw [← hW0]
  clear hW0
  go_loopw [4] (fun i wr => ∃ (k : Nat) (p : Option Addr) (c : Nat), i = .int .i64 k ∧ k ≤ L.length ∧ wr.heap[w.heap.size]? = some (bkO (.slice pa L.length ca) (.slice pb R.length cb)) ∧ wr.heap[w.heap.size + 1]? = some (bkO (.slice none 0 0) (.slice none 0 0)) ∧ wr.heap[w.heap.size + 1 + 1]? = some (bkO (.slice p k c) (.slice none 0 0)) ∧ wr.ownsRow (w.heap.size + 3) 44 6 (.slice p k c) k (recs lfC (L.take k)) ∧ Below w.heap.size w wr ∧ w.heap.size + 3 ≤ wr.heap.size) (fun i _ => L.length - (intOf i).toNat)
  case atStart => exact ⟨0, none, 0, rfl, Nat.zero_le _, H.out.1, H.out.2.1, H.out.2.2.1, World.ownsRow_nil _ _ _ _, H.out.2.2.2.1, by rw [hs0]; exact Nat.le_refl _⟩
  case round =>
    obtain ⟨k, p, c, rfl, hk, hb0, hb1, hb2, ho, hbr, hsz⟩ := hrel
    obtain ⟨c0, c1, _, _, hlt0⟩ := two_cells hb0
    obtain ⟨d0, d1, df0, df1, hlt2⟩ := two_cells hb2
    by_cases hlt : k < L.length
    · have hkI : (k : Int) < (L.length : Int) := by omega
      have hkd : decide ((k : Int) < (L.length : Int)) = true := decide_eq_true hkI
      obtain ⟨b1, o1, hpa, hbb, z1, z2, z3, z4, z5, z6⟩ := H.out.2.2.2.2.2.1 k hlt
      subst hpa
      have e1 := (hbr.cell (p := ⟨b1, o1 + k * 6, none⟩) hbb).trans z1
      have e2 := (hbr.cell (p := ⟨b1, o1 + k * 6 + 1, none⟩) hbb).trans z2
      have e3 := (hbr.cell (p := ⟨b1, o1 + k * 6 + 2, none⟩) hbb).trans z3
      have e4 := (hbr.cell (p := ⟨b1, o1 + k * 6 + 3, none⟩) hbb).trans z4
      have e5 := (hbr.cell (p := ⟨b1, o1 + k * 6 + 4, none⟩) hbb).trans z5
      have e6 := (hbr.cell (p := ⟨b1, o1 + k * 6 + 5, none⟩) hbb).trans z6
      have htk : L.take (k + 1) = L.take k ++ [L[k]] := List.take_succ_eq_append_getElem hlt
      obtain ⟨⟨x1, x2, x3, x4, x5, x6⟩, hxk⟩ : ∃ x, x = L[k] := ⟨_, rfl⟩
      rw [← hxk] at e1 e2 e3 e4 e5 e6 htk
      obtain ⟨g, c', w5, hr, ⟨hc5, hf5⟩, hb5, ho5, hk5, hs5, hB5⟩ := lives_step hb2 ho (by omega) hsz (by omega) x1 x2 x3 x4 x5 x6
      rw [← htk] at ho5
      have HR : Hid (_ ∧ _ ∧ _ ∧ _ ∧ _ ∧ _ ∧ _) := ⟨hr, (hk5 _ (by omega) (by omega) (.inl (by omega))).trans hb0, (hk5 _ (by omega) (by omega) (.inl (by omega))).trans hb1, hb5, ho5, hbr.trans (hB5.mono (by omega)), Nat.le_trans hsz hs5⟩
      clear hr hb5 ho5 hk5 hs5 hB5 hb0 hb1 hb2 ho hbr z1 z2 z3 z4 z5 z6 htk hxk hbb
      go_wp2
      go_region_law (first | (refine step_append_eq (by rfl) _ _ 22 (by rfl) _ _ _ _ (by rfl) (by rfl) HR.out.1 ?_))
      all_goals
        go_wp2
        go_roundw
        case rel => exact ⟨k + 1, some ⟨g, 0, none⟩, c', by simp, hlt, HR.out.2.1, HR.out.2.2.1, HR.out.2.2.2.1, HR.out.2.2.2.2.1, HR.out.2.2.2.2.2.1, HR.out.2.2.2.2.2.2⟩
        case measure => simp [intOf]; omega
    · have hkd : ¬ ((k : Int) < (L.length : Int)) := by omega
      obtain rfl : k = L.length := by omega
      rw [List.take_length] at ho
      have HL : Hid (_ ∧ _ ∧ _ ∧ _ ∧ _ ∧ _) := ⟨hb0, hb1, hb2, ho, hbr, hsz⟩
      clear hb0 hb1 hb2 ho hbr hsz
      obtain ⟨W2, hW2⟩ : ∃ W2, W2 = wr := ⟨_, rfl⟩
      subst hW2
      go_wp2
      go_loopw [5] (fun i wr => ∃ (k : Nat) (q : Option Addr) (m : Nat), i = .int .i64 k ∧ k ≤ R.length ∧ wr.heap[w.heap.size]? = some (bkO (.slice pa L.length ca) (.slice pb R.length cb)) ∧ wr.heap[w.heap.size + 1]? = some (bkO (.slice none 0 0) (.slice none 0 0)) ∧ wr.heap[w.heap.size + 1 + 1]? = some (bkO (.slice p L.length c) (.slice q k m)) ∧ wr.ownsRow (w.heap.size + 3) 44 6 (.slice p L.length c) L.length (recs lfC L) ∧ wr.ownsRow W2.heap.size 31 5 (.slice q k m) k (recs rqC (R.take k)) ∧ Below w.heap.size w wr ∧ W2.heap.size ≤ wr.heap.size) (fun i _ => R.length - (intOf i).toNat)
      case atStart => exact ⟨0, none, 0, rfl, Nat.zero_le _, HL.out.1, HL.out.2.1, HL.out.2.2.1, HL.out.2.2.2.1, World.ownsRow_nil _ _ _ _, HL.out.2.2.2.2.1, Nat.le_refl _⟩
      case round =>
        clear c0 c1 hlt0 d0 d1 df0 df1 hlt2
        obtain ⟨k, q, m, rfl, hk, hb0, hb1, hb2, hol, ho, hbr, hsz⟩ := hrel
        obtain ⟨c0, c1, _, _, hlt0⟩ := two_cells hb0
        obtain ⟨d0, d1, df0, df1, hlt2⟩ := two_cells hb2
        by_cases hlt : k < R.length
        · have hkI : (k : Int) < (R.length : Int) := by omega
          have hkd2 : decide ((k : Int) < (R.length : Int)) = true := decide_eq_true hkI
          obtain ⟨b1, o1, hpb, hbb, z1, z2, z3, z4, z5⟩ := H.out.2.2.2.2.2.2 k hlt
          subst hpb
          have e1 := (hbr.cell (p := ⟨b1, o1 + k * 5, none⟩) hbb).trans z1
          have e2 := (hbr.cell (p := ⟨b1, o1 + k * 5 + 1, none⟩) hbb).trans z2
          have e3 := (hbr.cell (p := ⟨b1, o1 + k * 5 + 2, none⟩) hbb).trans z3
          have e4 := (hbr.cell (p := ⟨b1, o1 + k * 5 + 3, none⟩) hbb).trans z4
          have e5 := (hbr.cell (p := ⟨b1, o1 + k * 5 + 4, none⟩) hbb).trans z5
          have htk : R.take (k + 1) = R.take k ++ [R[k]] := List.take_succ_eq_append_getElem hlt
          obtain ⟨⟨x1, x2, x3, x4, x5⟩, hxk⟩ : ∃ x, x = R[k] := ⟨_, rfl⟩
          rw [← hxk] at e1 e2 e3 e4 e5 htk
          have hs2 := HL.out.2.2.2.2.2
          obtain ⟨g, c', w5, hr, ⟨hc5, hf5⟩, hb5, ho5, hk5, hs5, hB5⟩ := reqs_step hb2 ho (by omega) hsz (by omega) x1 x2 x3 x4 x5
          rw [← htk] at ho5
          have hol5 := own_block hol (w' := w5.setCell ⟨w.heap.size + 1 + 1, 1, none⟩ (.slice (some ⟨g, 0, none⟩) (k + 1) c')) (fun b hb => hk5 b (hol.lt b hb).2 (by have := (hol.lt b hb).1; omega) (.inl (HL.out.2.2.2.1.lt b hb).2))
          have HR : Hid (_ ∧ _ ∧ _ ∧ _ ∧ _ ∧ _ ∧ _ ∧ _) := ⟨hr, (hk5 _ (by omega) (by omega) (.inl (by omega))).trans hb0, (hk5 _ (by omega) (by omega) (.inl (by omega))).trans hb1, hb5, hol5, ho5, hbr.trans (hB5.mono (by omega)), Nat.le_trans hsz hs5⟩
          clear hr hb5 ho5 hk5 hs5 hB5 hb0 hb1 hb2 ho hbr z1 z2 z3 z4 z5 htk hxk hbb hol hol5 hs2
          go_wp2
          go_region_law (first | (refine step_append_eq (by rfl) _ _ 23 (by rfl) _ _ _ _ (by rfl) (by rfl) HR.out.1 ?_))
          all_goals
            go_wp2
            go_roundw
            case rel => exact ⟨k + 1, some ⟨g, 0, none⟩, c', by simp, hlt, HR.out.2.1, HR.out.2.2.1, HR.out.2.2.2.1, HR.out.2.2.2.2.1, HR.out.2.2.2.2.2.1, HR.out.2.2.2.2.2.2.1, HR.out.2.2.2.2.2.2.2⟩
            case measure => simp [intOf]; omega
        · have hkd2 : ¬ ((k : Int) < (R.length : Int)) := by omega
          obtain rfl : k = R.length := by omega
          rw [List.take_length] at ho
          obtain ⟨r0, r1, rf0, rf1, rlt⟩ := two_cells hb1
          have hs2 := HL.out.2.2.2.2.2
          have HF : Hid (_ ∧ _ ∧ _) := ⟨two_set (a := .slice none 0 0) (b := .slice none 0 0) (c := .slice p L.length c) (d := .slice q R.length m) hb1, (⟨own_block (hol.mono (by omega)) (fun b hb => set2_other (by have := (hol.lt b hb).1; omega)), own_block (ho.mono (by omega)) (fun b hb => set2_other (by have := (ho.lt b hb).1; omega)), fun b hb e => by have := (HL.out.2.2.2.1.lt b hb).2; have := (ho.lt b e).1; omega⟩ : Own2 w.heap.size (set2 wr (w.heap.size + 1) (.slice p L.length c) (.slice q R.length m)) (.slice p L.length c) (.slice q R.length m) L R), below_set2 (a := .slice p L.length c) (b := .slice q R.length m) hbr (Nat.le_succ _)⟩
          clear hb0 hb1 hb2 hol ho hbr hs2
          go_wp2
          exact bodyPost_ret (v := bkV (.slice p L.length c) (.slice q R.length m)) (results_c Try.results26 rfl (load_bk HF.out.1)) rfl ⟨p, c, q, m, rfl, HF.out.2.1, HF.out.2.2⟩
end Go.Proofs.Ytlpedligkofegaa.Walks
