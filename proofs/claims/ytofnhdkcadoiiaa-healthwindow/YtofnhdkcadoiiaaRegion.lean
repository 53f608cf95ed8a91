/-
  A call of Note in a region that draws its order: what it needs, where it ends. No condition.
-/
import Derived.Test.YtofnhdkcadoiiaaWatch
import Derived.WalkKit
import Derived.ProofKit
import Derived.Handy
import Derived.LoopTactic
import Derived.Below
import Derived.Laws.BitsAllLaws
import Derived.RegionTactic
import Derived.Deep.RegionHeld3
import Derived.Deep.DrawnRows
import Derived.Deep.AppendLies
import Derived.Laws.OwnMore
import Derived.Deep.Onto
import Derived.Deep.QuietTactic
import Derived.BigQuiet
namespace Go.Proofs.Ytofnhdkcadoiiaa.Walks
open Go.RowKit
set_option linter.unusedVariables false
set_option linter.unusedSimpArgs false
attribute [local go_sem ↓] Go.wp_at_zero Go.wp_at_succ

theorem heap_newd (w : World) (o : Obj) : ((w.alloc o).drew).heap[w.heap.size]? = some o := heap_alloc_new w o

/-- Where a call's answer lies behind a region: a box of its own, its Marks in new memory. -/
def HEnd (wr : World) (v : Value) (l : List Bool) (o : Bool) (u t : Int) (g : Nat) (wx : World) : Prop :=
  wx.heap[g]? = some (.cells #[v, .bool o, .int .i64 u, .int .i64 t] 29 (0, 0)) ∧ BsAt wx v l ∧ (∀ b, v.ownBlock = some b → wr.heap.size ≤ b) ∧ wr.heap.size ≤ g ∧ Below wr.heap.size wr wx

theorem endA {wr W w5 : World} {v : Value} {l : List Bool} {o : Bool} {u t : Int} (hs : BsAt w5 v l) (hf : ∀ b, v.ownBlock = some b → W.heap.size ≤ b) (hWr : wr.heap.size ≤ W.heap.size) (hb : Below wr.heap.size wr w5) : HEnd wr v l o u t w5.heap.size (w5.alloc (.cells #[v, .bool o, .int .i64 u, .int .i64 t] 29)) :=
  ⟨heap_alloc_new _ _, hs.below (below_new _), fun b hb => Nat.le_trans hWr (hf b hb), hb.size, hb.alloc hb.size _⟩

theorem endB {wr W w5 : World} {v a b c d : Value} {l : List Bool} {o : Bool} {u t : Int} (hT : W.heap[wr.heap.size]? = some (.cells #[a, b, c, d] 29 (0, 0))) (hs : BsAt w5 v l) (hf : ∀ b, v.ownBlock = some b → W.heap.size ≤ b) (hW : Below W.heap.size W w5) (hb : Below wr.heap.size wr w5) :
    HEnd wr v l o u t wr.heap.size (set4 w5 wr.heap.size v (.bool o) (.int .i64 u) (.int .i64 t)) := by
  have hlt := (Array.getElem?_eq_some_iff.1 hT).1
  refine ⟨four_set (box_below hT hW), hs.keep (by rw [set4_size]; exact Nat.le_refl _) (fun b hb => set4_other (by have := hf b hb; omega)), fun b hb => Nat.le_trans (Nat.le_of_lt hlt) (hf b hb), Nat.le_refl _, ?_⟩
  exact (((hb.setCell (Nat.le_refl _) _).setCell (Nat.le_refl _) _).setCell (Nat.le_refl _) _).setCell (Nat.le_refl _) _

theorem note_at {n f d : Int} {v : Value} {l : List Bool} {o : Bool} {u t : Int} {x : Bool} {now : Int} {may : Bool} {ol : List Bool} {oo : Bool} {ou ot : Int} {ob : Bool} {oe : Int} {wr : World} (hout : noteO n f d l o u t x now may = ((ol, oo, ou, ot), ob, oe)) (hv : BsAt wr v l) (hl : l.length ≤ 1000) (j : Nat) (hj : j = ol.length) :
    ∀ W, Below wr.heap.size wr W → Calls Try.prog 12 #[watV n f d, hltV v o u t, .bool x, .int .i64 now, .bool may] W fun r w' => ∃ q k, r = .returned (.tuple #[hltV (.slice q j k) oo ou ot, .bool ob, .int .i64 oe]) ∧ Hid (BsAt w' (.slice q j k) ol ∧ (∀ b, Value.ownBlock (.slice q j k) = some b → W.heap.size ≤ b) ∧ Below W.heap.size W w' ∧ Below wr.heap.size wr w') ∧ (∀ n, n < W.heap.size → n < w'.heap.size) ∧ (∀ b o, b < W.heap.size → w'.cell? ⟨b, o, none⟩ = W.cell? ⟨b, o, none⟩) ∧ (∀ b o, b < W.heap.size → w'.frozen? ⟨b, o, none⟩ = W.frozen? ⟨b, o, none⟩) := fun W hW => by
  subst hj
  have := note_fresh n f d v l o u t x now may W (hv.below hW) (by omega)
  rw [hout] at this
  refine this.mono ?_
  intro r w' hp
  obtain ⟨q, k, rfl, z1, z2, z3⟩ := hpostF_open hp
  exact ⟨q, k, rfl, ⟨z1, z2, z3, hW.trans (z3.mono hW.size)⟩, (fun n hn => Nat.lt_of_lt_of_le hn z3.size), (bcell z3).1, (bcell z3).2⟩

theorem held8 {w w' : World} {a1 a2 a3 a4 a5 a6 a7 a8 : Addr} {v1 v2 v3 v4 v5 v6 v7 v8 : Value} (h1 : w.cell? a1 = some v1) (h2 : w.cell? a2 = some v2) (h3 : w.cell? a3 = some v3) (h4 : w.cell? a4 = some v4) (h5 : w.cell? a5 = some v5) (h6 : w.cell? a6 = some v6) (h7 : w.cell? a7 = some v7) (h8 : w.cell? a8 = some v8) (hb : Below w.heap.size w w') :
    w'.cell? a1 = some v1 ∧ w'.cell? a2 = some v2 ∧ w'.cell? a3 = some v3 ∧ w'.cell? a4 = some v4 ∧ w'.cell? a5 = some v5 ∧ w'.cell? a6 = some v6 ∧ w'.cell? a7 = some v7 ∧ w'.cell? a8 = some v8 ∧ Below w.heap.size w w' :=
  ⟨(hb.cell (World.block_lt_of_cell? w _ h1)).trans h1, (hb.cell (World.block_lt_of_cell? w _ h2)).trans h2, (hb.cell (World.block_lt_of_cell? w _ h3)).trans h3, (hb.cell (World.block_lt_of_cell? w _ h4)).trans h4, (hb.cell (World.block_lt_of_cell? w _ h5)).trans h5, (hb.cell (World.block_lt_of_cell? w _ h6)).trans h6, (hb.cell (World.block_lt_of_cell? w _ h7)).trans h7, (hb.cell (World.block_lt_of_cell? w _ h8)).trans h8, hb⟩

theorem below_set4 {w W : World} {B h : Nat} {a b c d : Value} (H : Below B w W) (hh : B ≤ h) : Below B w (set4 W h a b c d) := (((H.setCell hh _).setCell hh _).setCell hh _).setCell hh _
end Go.Proofs.Ytofnhdkcadoiiaa.Walks
