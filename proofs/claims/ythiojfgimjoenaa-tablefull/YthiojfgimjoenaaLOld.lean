/-
  TableOld: a slot that has given all its handles is used no more. No condition.
-/
import Derived.Test.YthiojfgimjoenaaPut
import Derived.Deep.CutRange
import Derived.WalkKit
import Derived.ProofKit
import Derived.Handy
import Derived.LoopTactic
import Derived.Below
import Derived.Laws.BitsAllLaws
import Derived.RegionTactic
import Derived.Deep.RegionHeld3
import Derived.Deep.DrawnRows
import Derived.Deep.AppendLies
import Derived.Laws.OwnMore
import Derived.Deep.Onto
import Derived.Deep.QuietTactic
import Derived.BigQuiet
namespace Go.Proofs.Ythiojfgimjoenaa.Walks
open Go.RowKit
set_option linter.unusedVariables false
set_option linter.unusedSimpArgs false
attribute [local go_sem ↓] Go.wp_at_zero Go.wp_at_succ

def oldSl (g : Int) : List Sl := [(g, false, 0, 0)]

theorem old_put (g key bk : Int) (h1 : 0 ≤ g) (h2 : g < 1048576) (hk : isKeyP key) (hb : isBeP bk) : putOut (oldSl g) key bk = ([(g, true, key, bk)], (0, g), 0) := by
  have hok : TabOk (oldSl g) := ⟨⟨by simp [oldSl], by simp [oldSl]⟩, fun t ht => by
    rw [oldSl, List.mem_singleton] at ht
    subst ht
    unfold SlotOk
    simp
    omega⟩
  have hf : find openB (oldSl g) = some 0 := by
    unfold oldSl find openB Free
    have : (g != 1048576) = true := by simp; omega
    simp [this]
  unfold putOut
  rw [if_neg (not_not_intro hok), if_neg (not_not_intro ⟨hk, hb⟩), hf]
  rfl

theorem old_drop (g key bk : Int) (h1 : 0 ≤ g) (h2 : g < 1048576) (hk : isKeyP key) (hb : isBeP bk) : dropOut [(g, true, key, bk)] 0 g = (oldSl (g + 1), 0) := by
  have hok : TabOk [(g, true, key, bk)] := ⟨⟨by simp, by simp⟩, fun t ht => by
    rw [List.mem_singleton] at ht
    subst ht
    unfold SlotOk
    simp
    exact ⟨by omega, hk, hb⟩⟩
  have hg := got_some (l := [(g, true, key, bk)]) (k := 0) (g := g) hok (by simp) rfl
  have hg' : gotE [(g, true, key, bk)] 0 g = ((g, true, key, bk), 0) := by
    simpa using hg
  unfold dropOut
  rw [hg']
  rfl

theorem old_full (key bk : Int) (hk : isKeyP key) (hb : isBeP bk) : putOut (oldSl 1048576) key bk = ([], (0, 0), 9) := by
  have hok : TabOk (oldSl 1048576) := ⟨⟨by simp [oldSl], by simp [oldSl]⟩, fun t ht => by
    rw [oldSl, List.mem_singleton] at ht
    subst ht
    unfold SlotOk
    simp⟩
  have hf : find openB (oldSl 1048576) = none := by
    unfold oldSl find openB Free
    simp [find]
  unfold putOut
  rw [if_neg (not_not_intro hok), if_neg (not_not_intro ⟨hk, hb⟩), hf]

theorem old_ok : TabOk (oldSl 1048576) := ⟨⟨by simp [oldSl], by simp [oldSl]⟩, fun t ht => by
  rw [oldSl, List.mem_singleton] at ht
  subst ht
  unfold SlotOk
  simp⟩

theorem slAt_one (w : World) (x : Sl) : SlAt (w.alloc (.cells #[.int .i64 x.1, .bool x.2.1, .int .i64 x.2.2.1, .int .i64 x.2.2.2] 44)) (.slice (some ⟨w.heap.size, 0, none⟩) 1 1) [x] := by
  refine ⟨_, 1, rfl, Nat.le_refl _, by unfold maxLen; omega, .inr ⟨w.heap.size, 0, rfl, by simp, fun i hi => ?_⟩⟩
  rw [Nat.zero_add, cell_of_row _ w.heap.size i _ 44 (0, 0) (heap_alloc_new w _)]
  simp [scells]

theorem heap_newo (w : World) (o : Obj) : ((w.alloc o).drew).heap[w.heap.size]? = some o := heap_alloc_new w o
theorem heap_oldd (w : World) (o p : Obj) : (((w.alloc o).alloc p).drew).heap[w.heap.size]? = some o := heap_old _ _ (heap_alloc_new w o)
theorem heap_secondd (w : World) (o p : Obj) : (((w.alloc o).alloc p).drew).heap[w.heap.size + 1]? = some p := heap_second w o p

/-- A table and a handle in boxes, as a call's results are laid. -/
def OldEnd (wr : World) (v : Value) (x y : Value) (l : List Sl) (g8 g9 : Nat) (wx : World) : Prop :=
  wx.heap[g8]? = some (.cells #[v] 24 (0, 0)) ∧ wx.heap[g9]? = some (.cells #[x, y] 42 (0, 0)) ∧ SlAt wx v l ∧ Below wr.heap.size wr wx

section
variable {wr W w5 : World} {v x y u0 u1 u2 : Value} {l : List Sl}

theorem set_keep {w : World} {B n g o : Nat} {u v : Value} {xs : List Value} (h : w.ownsRow B 44 4 v n xs) (hg : g < B) : (w.setCell ⟨g, o, none⟩ u).ownsRow B 44 4 v n xs :=
  own_block h fun k hk => Below.heap_setCell _ _ _ _ (by have := (h.lt k hk).1; simp; omega)

theorem set_other {w : World} {g o k : Nat} {u : Value} {x : Obj} (h : w.heap[k]? = some x) (hne : k ≠ g) : (w.setCell ⟨g, o, none⟩ u).heap[k]? = some x :=
  (Below.heap_setCell _ _ _ _ (by simpa using hne)).trans h

theorem set_one {w : World} {g : Nat} {a u : Value} {T : TypeId} (h : w.heap[g]? = some (.cells #[a] T (0, 0))) : (w.setCell ⟨g, 0, none⟩ u).heap[g]? = some (.cells #[u] T (0, 0)) := by
  have := heap_setCell_same w g 0 _ _ u h
  simpa using this

theorem oldA (hs : w5.ownsRow W.heap.size 44 4 v l.length (scells l)) (hb : Below wr.heap.size wr w5) : OldEnd wr v x y l w5.heap.size (w5.heap.size + 1) ((w5.alloc (.cells #[v] 24)).alloc (.cells #[x, y] 42)) :=
  ⟨heap_old _ _ (heap_alloc_new _ _), heap_second _ _ _, rowAt_own ((hs.alloc _).alloc _), (hb.alloc hb.size _).alloc (by have := hb.size; simp; omega) _⟩

theorem oldB (hs : w5.ownsRow W.heap.size 44 4 v l.length (scells l)) (hb : Below wr.heap.size wr w5) : OldEnd wr v x y l (w5.heap.size + 1) w5.heap.size ((w5.alloc (.cells #[x, y] 42)).alloc (.cells #[v] 24)) :=
  ⟨heap_second _ _ _, heap_old _ _ (heap_alloc_new _ _), rowAt_own ((hs.alloc _).alloc _), (hb.alloc hb.size _).alloc (by have := hb.size; simp; omega) _⟩

theorem oldC (hT : W.heap[wr.heap.size]? = some (.cells #[u0] 24 (0, 0))) (hs : w5.ownsRow W.heap.size 44 4 v l.length (scells l)) (hW : Below W.heap.size W w5) (hb : Below wr.heap.size wr w5) :
    OldEnd wr v x y l wr.heap.size w5.heap.size ((w5.setCell ⟨wr.heap.size, 0, none⟩ v).alloc (.cells #[x, y] 42)) := by
  have hlt := (Array.getElem?_eq_some_iff.1 hT).1
  have hs5 : (w5.setCell ⟨wr.heap.size, 0, none⟩ v).heap.size = w5.heap.size := by simp
  refine ⟨heap_old _ _ (set_one (box_below hT hW)), ?_, rowAt_own ((set_keep hs hlt).alloc _), (hb.setCell (Nat.le_refl _) _).alloc (by rw [hs5]; exact hb.size) _⟩
  have := heap_alloc_new (w5.setCell ⟨wr.heap.size, 0, none⟩ v) (.cells #[x, y] 42)
  rwa [hs5] at this

theorem oldE (hT : W.heap[wr.heap.size]? = some (.cells #[u1, u2] 42 (0, 0))) (hs : w5.ownsRow W.heap.size 44 4 v l.length (scells l)) (hW : Below W.heap.size W w5) (hb : Below wr.heap.size wr w5) :
    OldEnd wr v x y l w5.heap.size wr.heap.size (((w5.setCell ⟨wr.heap.size, 0, none⟩ x).setCell ⟨wr.heap.size, 1, none⟩ y).alloc (.cells #[v] 24)) := by
  have hlt := (Array.getElem?_eq_some_iff.1 hT).1
  have hs5 : ((w5.setCell ⟨wr.heap.size, 0, none⟩ x).setCell ⟨wr.heap.size, 1, none⟩ y).heap.size = w5.heap.size := by simp
  refine ⟨?_, heap_old _ _ (two_set (box_below hT hW)), rowAt_own ((set_keep (set_keep hs hlt) hlt).alloc _), ((hb.setCell (Nat.le_refl _) _).setCell (Nat.le_refl _) _).alloc (by rw [hs5]; exact hb.size) _⟩
  have := heap_alloc_new ((w5.setCell ⟨wr.heap.size, 0, none⟩ x).setCell ⟨wr.heap.size, 1, none⟩ y) (.cells #[v] 24)
  rwa [hs5] at this

theorem oldD (hT : W.heap[wr.heap.size]? = some (.cells #[u0] 24 (0, 0))) (hH : W.heap[wr.heap.size + 1]? = some (.cells #[u1, u2] 42 (0, 0))) (hs : w5.ownsRow W.heap.size 44 4 v l.length (scells l)) (hW : Below W.heap.size W w5) (hb : Below wr.heap.size wr w5) :
    OldEnd wr v x y l wr.heap.size (wr.heap.size + 1) (((w5.setCell ⟨wr.heap.size, 0, none⟩ v).setCell ⟨wr.heap.size + 1, 0, none⟩ x).setCell ⟨wr.heap.size + 1, 1, none⟩ y) := by
  have hlt := (Array.getElem?_eq_some_iff.1 hH).1
  exact ⟨set_other (set_other (set_one (box_below hT hW)) (by omega)) (by omega), two_set (set_other (box_below hH hW) (by omega)), rowAt_own (set_keep (set_keep (set_keep hs (by omega)) hlt) hlt), ((hb.setCell (Nat.le_refl _) _).setCell (Nat.le_succ _) _).setCell (Nat.le_succ _) _⟩

theorem oldF (hH : W.heap[wr.heap.size]? = some (.cells #[u1, u2] 42 (0, 0))) (hT : W.heap[wr.heap.size + 1]? = some (.cells #[u0] 24 (0, 0))) (hs : w5.ownsRow W.heap.size 44 4 v l.length (scells l)) (hW : Below W.heap.size W w5) (hb : Below wr.heap.size wr w5) :
    OldEnd wr v x y l (wr.heap.size + 1) wr.heap.size (((w5.setCell ⟨wr.heap.size + 1, 0, none⟩ v).setCell ⟨wr.heap.size, 0, none⟩ x).setCell ⟨wr.heap.size, 1, none⟩ y) := by
  have hlt := (Array.getElem?_eq_some_iff.1 hT).1
  exact ⟨set_other (set_other (set_one (box_below hT hW)) (by omega)) (by omega), two_set (set_other (box_below hH hW) (by omega)), rowAt_own (set_keep (set_keep (set_keep hs hlt) (by omega)) (by omega)), ((hb.setCell (Nat.le_succ _) _).setCell (Nat.le_refl _) _).setCell (Nat.le_refl _) _⟩
end

end Go.Proofs.Ythiojfgimjoenaa.Walks
