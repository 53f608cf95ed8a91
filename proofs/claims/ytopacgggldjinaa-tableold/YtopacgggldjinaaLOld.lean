/-
  TableOld: a slot that has given all its handles is used no more. No condition.
-/
import Derived.Test.YtopacgggldjinaaPut
import Derived.Deep.CutRange
import Derived.WalkKit
import Derived.ProofKit
import Derived.Handy
import Derived.LoopTactic
import Derived.Below
import Derived.Laws.BitsAllLaws
import Derived.RegionTactic
import Derived.Deep.RegionHeld3
import Derived.Deep.DrawnRows
import Derived.Deep.AppendLies
import Derived.Laws.OwnMore
import Derived.Deep.Onto
import Derived.Deep.QuietTactic
import Derived.BigQuiet
namespace Go.Proofs.Ytopacgggldjinaa.Walks
open Go.RowKit
set_option linter.unusedVariables false
set_option linter.unusedSimpArgs false
attribute [local go_sem ↓] Go.wp_at_zero Go.wp_at_succ

def oldSl (g : Int) : List Sl := [(g, false, 0, 0)]

theorem old_put (g key bk : Int) (h1 : 0 ≤ g) (h2 : g < 1048576) (hk : isKeyP key) (hb : isBeP bk) : putOut (oldSl g) key bk = ([(g, true, key, bk)], (0, g), 0) := by
  have hok : TabOk (oldSl g) := ⟨⟨by simp [oldSl], by simp [oldSl]⟩, fun t ht => by
    rw [oldSl, List.mem_singleton] at ht
    subst ht
    unfold SlotOk
    simp
    omega⟩
  have hf : find openB (oldSl g) = some 0 := by
    unfold oldSl find openB Free
    have : (g != 1048576) = true := by simp; omega
    simp [this]
  unfold putOut
  rw [if_neg (not_not_intro hok), if_neg (not_not_intro ⟨hk, hb⟩), hf]
  rfl

theorem old_drop (g key bk : Int) (h1 : 0 ≤ g) (h2 : g < 1048576) (hk : isKeyP key) (hb : isBeP bk) : dropOut [(g, true, key, bk)] 0 g = (oldSl (g + 1), 0) := by
  have hok : TabOk [(g, true, key, bk)] := ⟨⟨by simp, by simp⟩, fun t ht => by
    rw [List.mem_singleton] at ht
    subst ht
    unfold SlotOk
    simp
    exact ⟨by omega, hk, hb⟩⟩
  have hg := got_some (l := [(g, true, key, bk)]) (k := 0) (g := g) hok (by simp) rfl
  have hg' : gotE [(g, true, key, bk)] 0 g = ((g, true, key, bk), 0) := by
    simpa using hg
  unfold dropOut
  rw [hg']
  rfl

theorem old_full (key bk : Int) (hk : isKeyP key) (hb : isBeP bk) : putOut (oldSl 1048576) key bk = ([], (0, 0), 9) := by
  have hok : TabOk (oldSl 1048576) := ⟨⟨by simp [oldSl], by simp [oldSl]⟩, fun t ht => by
    rw [oldSl, List.mem_singleton] at ht
    subst ht
    unfold SlotOk
    simp⟩
  have hf : find openB (oldSl 1048576) = none := by
    unfold oldSl find openB Free
    simp [find]
  unfold putOut
  rw [if_neg (not_not_intro hok), if_neg (not_not_intro ⟨hk, hb⟩), hf]

theorem old_ok : TabOk (oldSl 1048576) := ⟨⟨by simp [oldSl], by simp [oldSl]⟩, fun t ht => by
  rw [oldSl, List.mem_singleton] at ht
  subst ht
  unfold SlotOk
  simp⟩

theorem slAt_one (w : World) (x : Sl) : SlAt (w.alloc (.cells #[.int .i64 x.1, .bool x.2.1, .int .i64 x.2.2.1, .int .i64 x.2.2.2] 24)) (.slice (some ⟨w.heap.size, 0, none⟩) 1 1) [x] := by
  refine ⟨_, 1, rfl, Nat.le_refl _, by unfold maxLen; omega, .inr ⟨w.heap.size, 0, rfl, by simp, fun i hi => ?_⟩⟩
  rw [Nat.zero_add, cell_of_row _ w.heap.size i _ 24 (0, 0) (heap_alloc_new w _)]
  simp [scells]

theorem heap_newo (w : World) (o : Obj) : ((w.alloc o).drew).heap[w.heap.size]? = some o := heap_alloc_new w o
theorem heap_oldd (w : World) (o p : Obj) : (((w.alloc o).alloc p).drew).heap[w.heap.size]? = some o := heap_old _ _ (heap_alloc_new w o)
theorem heap_secondd (w : World) (o p : Obj) : (((w.alloc o).alloc p).drew).heap[w.heap.size + 1]? = some p := heap_second w o p

/-- A table and a handle in boxes, as a call's results are laid. -/
def OldEnd (wr : World) (v : Value) (x y : Value) (l : List Sl) (g8 g9 : Nat) (wx : World) : Prop :=
  wx.heap[g8]? = some (.cells #[v] 27 (0, 0)) ∧ wx.heap[g9]? = some (.cells #[x, y] 29 (0, 0)) ∧ SlAt wx v l ∧ Below wr.heap.size wr wx

section
variable {wr W w5 : World} {v x y u0 u1 u2 : Value} {l : List Sl}

theorem set_keep {w : World} {B n g o : Nat} {u v : Value} {xs : List Value} (h : w.ownsRow B 24 4 v n xs) (hg : g < B) : (w.setCell ⟨g, o, none⟩ u).ownsRow B 24 4 v n xs :=
  own_block h fun k hk => Below.heap_setCell _ _ _ _ (by have := (h.lt k hk).1; simp; omega)

theorem set_other {w : World} {g o k : Nat} {u : Value} {x : Obj} (h : w.heap[k]? = some x) (hne : k ≠ g) : (w.setCell ⟨g, o, none⟩ u).heap[k]? = some x :=
  (Below.heap_setCell _ _ _ _ (by simpa using hne)).trans h

theorem set_one {w : World} {g : Nat} {a u : Value} {T : TypeId} (h : w.heap[g]? = some (.cells #[a] T (0, 0))) : (w.setCell ⟨g, 0, none⟩ u).heap[g]? = some (.cells #[u] T (0, 0)) := by
  have := heap_setCell_same w g 0 _ _ u h
  simpa using this

theorem oldA (hs : w5.ownsRow W.heap.size 24 4 v l.length (scells l)) (hb : Below wr.heap.size wr w5) : OldEnd wr v x y l w5.heap.size (w5.heap.size + 1) ((w5.alloc (.cells #[v] 27)).alloc (.cells #[x, y] 29)) :=
  ⟨heap_old _ _ (heap_alloc_new _ _), heap_second _ _ _, rowAt_own ((hs.alloc _).alloc _), (hb.alloc hb.size _).alloc (by have := hb.size; simp; omega) _⟩

theorem oldB (hs : w5.ownsRow W.heap.size 24 4 v l.length (scells l)) (hb : Below wr.heap.size wr w5) : OldEnd wr v x y l (w5.heap.size + 1) w5.heap.size ((w5.alloc (.cells #[x, y] 29)).alloc (.cells #[v] 27)) :=
  ⟨heap_second _ _ _, heap_old _ _ (heap_alloc_new _ _), rowAt_own ((hs.alloc _).alloc _), (hb.alloc hb.size _).alloc (by have := hb.size; simp; omega) _⟩

theorem oldC (hT : W.heap[wr.heap.size]? = some (.cells #[u0] 27 (0, 0))) (hs : w5.ownsRow W.heap.size 24 4 v l.length (scells l)) (hW : Below W.heap.size W w5) (hb : Below wr.heap.size wr w5) :
    OldEnd wr v x y l wr.heap.size w5.heap.size ((w5.setCell ⟨wr.heap.size, 0, none⟩ v).alloc (.cells #[x, y] 29)) := by
  have hlt := (Array.getElem?_eq_some_iff.1 hT).1
  have hs5 : (w5.setCell ⟨wr.heap.size, 0, none⟩ v).heap.size = w5.heap.size := by simp
  refine ⟨heap_old _ _ (set_one (box_below hT hW)), ?_, rowAt_own ((set_keep hs hlt).alloc _), (hb.setCell (Nat.le_refl _) _).alloc (by rw [hs5]; exact hb.size) _⟩
  have := heap_alloc_new (w5.setCell ⟨wr.heap.size, 0, none⟩ v) (.cells #[x, y] 29)
  rwa [hs5] at this

theorem oldE (hT : W.heap[wr.heap.size]? = some (.cells #[u1, u2] 29 (0, 0))) (hs : w5.ownsRow W.heap.size 24 4 v l.length (scells l)) (hW : Below W.heap.size W w5) (hb : Below wr.heap.size wr w5) :
    OldEnd wr v x y l w5.heap.size wr.heap.size (((w5.setCell ⟨wr.heap.size, 0, none⟩ x).setCell ⟨wr.heap.size, 1, none⟩ y).alloc (.cells #[v] 27)) := by
  have hlt := (Array.getElem?_eq_some_iff.1 hT).1
  have hs5 : ((w5.setCell ⟨wr.heap.size, 0, none⟩ x).setCell ⟨wr.heap.size, 1, none⟩ y).heap.size = w5.heap.size := by simp
  refine ⟨?_, heap_old _ _ (two_set (box_below hT hW)), rowAt_own ((set_keep (set_keep hs hlt) hlt).alloc _), ((hb.setCell (Nat.le_refl _) _).setCell (Nat.le_refl _) _).alloc (by rw [hs5]; exact hb.size) _⟩
  have := heap_alloc_new ((w5.setCell ⟨wr.heap.size, 0, none⟩ x).setCell ⟨wr.heap.size, 1, none⟩ y) (.cells #[v] 27)
  rwa [hs5] at this

theorem oldD (hT : W.heap[wr.heap.size]? = some (.cells #[u0] 27 (0, 0))) (hH : W.heap[wr.heap.size + 1]? = some (.cells #[u1, u2] 29 (0, 0))) (hs : w5.ownsRow W.heap.size 24 4 v l.length (scells l)) (hW : Below W.heap.size W w5) (hb : Below wr.heap.size wr w5) :
    OldEnd wr v x y l wr.heap.size (wr.heap.size + 1) (((w5.setCell ⟨wr.heap.size, 0, none⟩ v).setCell ⟨wr.heap.size + 1, 0, none⟩ x).setCell ⟨wr.heap.size + 1, 1, none⟩ y) := by
  have hlt := (Array.getElem?_eq_some_iff.1 hH).1
  exact ⟨set_other (set_other (set_one (box_below hT hW)) (by omega)) (by omega), two_set (set_other (box_below hH hW) (by omega)), rowAt_own (set_keep (set_keep (set_keep hs (by omega)) hlt) hlt), ((hb.setCell (Nat.le_refl _) _).setCell (Nat.le_succ _) _).setCell (Nat.le_succ _) _⟩

theorem oldF (hH : W.heap[wr.heap.size]? = some (.cells #[u1, u2] 29 (0, 0))) (hT : W.heap[wr.heap.size + 1]? = some (.cells #[u0] 27 (0, 0))) (hs : w5.ownsRow W.heap.size 24 4 v l.length (scells l)) (hW : Below W.heap.size W w5) (hb : Below wr.heap.size wr w5) :
    OldEnd wr v x y l (wr.heap.size + 1) wr.heap.size (((w5.setCell ⟨wr.heap.size + 1, 0, none⟩ v).setCell ⟨wr.heap.size, 0, none⟩ x).setCell ⟨wr.heap.size, 1, none⟩ y) := by
  have hlt := (Array.getElem?_eq_some_iff.1 hT).1
  exact ⟨set_other (set_other (set_one (box_below hT hW)) (by omega)) (by omega), two_set (set_other (box_below hH hW) (by omega)), rowAt_own (set_keep (set_keep (set_keep hs hlt) (by omega)) (by omega)), ((hb.setCell (Nat.le_succ _) _).setCell (Nat.le_refl _) _).setCell (Nat.le_refl _) _⟩
end

set_option maxHeartbeats 8000000 in
set_option maxRecDepth 100000 in
theorem tableOld_row (w : World) (a : Int) (wa : (Lit.int .i64 a).wf = true) (b : Int) (wb : (Lit.int .i64 b).wf = true) :
    Calls Try.prog 3 #[.int .i64 a, .int .i64 b] w fun r w' => r = .returned (.bool true) ∧ Below w.heap.size w w' := by
  obtain ⟨n, hn, pn⟩ := picked_some a 3 wa (by omega) (by omega)
  obtain ⟨bk, hbk, pb⟩ := picked_some b 12 wb (by omega) (by omega)
  have P : Hid (_ ∧ _) := ⟨pn, pb⟩
  clear pn pb wa wb
  go_enter Try.func3, Try.ntmps3
  go_wp2_with fail
  refine (P.out.1 _).mono ?_
  rintro r w1 ⟨rfl, rfl⟩
  go_wp2
  obtain ⟨G, hG⟩ : ∃ G : Int, G = 1048576 - n := ⟨_, rfl⟩
  obtain ⟨W0, hW0⟩ : ∃ W0, W0 = (w1.alloc (.cells #[.int .i64 G, .bool false, .int .i64 0, .int .i64 0] 24)).alloc (.cells #[.slice (some ⟨w1.heap.size, 0, none⟩) 1 1] 27) := ⟨_, rfl⟩
  have hb0 : Below w1.heap.size w1 W0 := by rw [hW0]; exact ((Below.refl _ _).alloc (Nat.le_refl _) _).alloc (by simp) _
  have hT0 : W0.heap[w1.heap.size + 1]? = some (.cells #[.slice (some ⟨w1.heap.size, 0, none⟩) 1 1] 27 (0, 0)) := by rw [hW0]; exact heap_second _ _ _
  have hS0 : SlAt W0 (.slice (some ⟨w1.heap.size, 0, none⟩) 1 1) (oldSl G) := by
    rw [hW0]
    exact (slAt_one w1 (G, false, 0, 0)).below (below_newC _)
  have HG : Hid _ := hG
  rw [← hG, ← hW0]
  have H0 : Hid (_ ∧ _ ∧ _) := ⟨hb0, hT0, hS0⟩
  clear hb0 hT0 hS0 hW0 hG
  go_loopw [7] (fun i wr => ∃ (k : Nat) (p : Option Addr) (c : Nat), i = .int .i64 k ∧ k ≤ n ∧ wr.heap[w1.heap.size + 1]? = some (.cells #[.slice p 1 c] 27 (0, 0)) ∧ SlAt wr (.slice p 1 c) (oldSl (G + k)) ∧ Below w1.heap.size w1 wr) (fun i _ => n - (intOf i).toNat)
  case atStart => exact ⟨0, _, _, rfl, Nat.zero_le _, H0.out.2.1, by simpa using H0.out.2.2, H0.out.1⟩
  case round =>
    obtain ⟨k, p, c, rfl, hk, hT, hS, hb⟩ := hrel
    have t0 := one_cell hT
    have hltT : w1.heap.size + 1 < wr.heap.size := (Array.getElem?_eq_some_iff.1 hT).1
    have hltU : w1.heap.size < wr.heap.size := by omega
    by_cases hlt : k < n
    · have hkI : (k : Int) < (n : Int) := by omega
      have hg0 : 0 ≤ G + k := by rw [HG.out]; omega
      have hg1 : G + k < 1048576 := by rw [HG.out]; omega
      have hkp : isKeyP (k : Int) := ⟨by omega, by omega⟩
      have hbp : isBeP (bk : Int) := ⟨by omega, by omega⟩
      have hP : Hid (∀ W, Below wr.heap.size wr W → Calls Try.prog 5 #[.agg #[.slice p 1 c], .int .i64 (k : Int), .int .i64 (bk : Int)] W fun r w' => ∃ q d, r = .returned (.tuple #[.agg #[.slice q 1 d], .agg #[.int .i64 0, .int .i64 (G + k)], .int .i64 0]) ∧ Hid (w'.ownsRow W.heap.size 24 4 (.slice q 1 d) 1 (scells [(G + k, true, (k : Int), (bk : Int))]) ∧ Below W.heap.size W w' ∧ Below wr.heap.size wr w') ∧ (∀ n, n < W.heap.size → n < w'.heap.size) ∧ (∀ b o, b < W.heap.size → w'.cell? ⟨b, o, none⟩ = W.cell? ⟨b, o, none⟩) ∧ (∀ b o, b < W.heap.size → w'.frozen? ⟨b, o, none⟩ = W.frozen? ⟨b, o, none⟩)) := fun W hW => by
        have := put_any (.slice p 1 c) (oldSl (G + k)) k bk W (hS.below hW)
        rw [old_put _ _ _ hg0 hg1 hkp hbp] at this
        refine this.mono ?_
        rintro r w' ⟨q, d, rfl, h1, h2⟩
        exact ⟨q, d, rfl, ⟨h1, h2, hW.trans (h2.mono hW.size)⟩, (fun n hn => Nat.lt_of_lt_of_le hn h2.size), (bcell h2).1, (bcell h2).2⟩
      have H1 : Hid (_ ∧ _ ∧ _) := ⟨hT, hS, hb⟩
      clear hT hS hb
      go_wp2
      go_cut [8, 9, 10] from 28 to 36 (fun x y e wx => ∃ g8 g9 q d, x = .pointer (some ⟨g8, 0, none⟩) ∧ y = .pointer (some ⟨g9, 0, none⟩) ∧ e = .int .i64 0 ∧ OldEnd wr (.slice q 1 d) (.int .i64 0) (.int .i64 (G + k)) [(G + k, true, (k : Int), (bk : Int))] g8 g9 wx)
      case first =>
        go_region_with (first | (go_at_call 4; refine (P.out.2 _).mono ?_; rintro r w4 ⟨rfl, rfl⟩) | (go_at_call 5; refine (hP.out _ ?hbW).mono ?_; (case hbW => first | exact (Below.refl _ _).drew | exact Below.refl _ _ | exact (((Below.refl _ _).drew).alloc (by simp) _) | exact ((Below.refl _ _).alloc (Nat.le_refl _) _).drew | exact (Below.refl _ _).alloc (Nat.le_refl _) _ | exact (((Below.refl _ _).alloc (Nat.le_refl _) _).alloc (by simp) _).drew | exact ((Below.refl _ _).alloc (Nat.le_refl _) _).alloc (by simp) _ | sorry); rintro r w5 ⟨q, d, rfl, hq5, hz5, hc5, hf5⟩))
        all_goals
          clear hz5 hc5 hf5
          go_wp2_with fail
          go_meet
          refine ⟨_, _, q, d, rfl, rfl, rfl, ?_⟩
          first
          | with_reducible exact oldA hq5.out.1 hq5.out.2.2
          | with_reducible exact oldB hq5.out.1 hq5.out.2.2
          | with_reducible exact oldC (by first | exact heap_alloc_new _ _ | exact heap_newo _ _) hq5.out.1 hq5.out.2.1 hq5.out.2.2
          | with_reducible exact oldE (by first | exact heap_alloc_new _ _ | exact heap_newo _ _) hq5.out.1 hq5.out.2.1 hq5.out.2.2
          | with_reducible exact oldD (by first | exact heap_old _ _ (heap_alloc_new _ _) | exact heap_oldd _ _ _) (by first | exact heap_second _ _ _ | exact heap_secondd _ _ _) hq5.out.1 hq5.out.2.1 hq5.out.2.2
          | with_reducible exact oldF (by first | exact heap_old _ _ (heap_alloc_new _ _) | exact heap_oldd _ _ _) (by first | exact heap_second _ _ _ | exact heap_secondd _ _ _) hq5.out.1 hq5.out.2.1 hq5.out.2.2
      case rest =>
      obtain ⟨g8, g9, q, d, rfl, rfl, rfl, hT8, hH9, hS8, hbx⟩ := hcut
      have e0 := one_cell hT8
      obtain ⟨e1, e2, _, _, hlt9⟩ := two_cells hH9
      have hlt8 : g8 < wc.heap.size := (Array.getElem?_eq_some_iff.1 hT8).1
      have hTc := box_below H1.out.1 hbx
      have hD : Hid (∀ W y, SlAt W y [(G + k, true, (k : Int), (bk : Int))] → Calls Try.prog 6 #[.agg #[y], .agg #[.int .i64 0, .int .i64 (G + k)]] W fun r w' => ∃ q d, r = .returned (.tuple #[.agg #[.slice q 1 d], .int .i64 0]) ∧ w'.ownsRow W.heap.size 24 4 (.slice q 1 d) 1 (scells (oldSl (G + k + 1))) ∧ Below W.heap.size W w') := fun W y hy => by
        have := drop_any y _ 0 (G + k) W hy
        rw [old_drop _ _ _ hg0 hg1 hkp hbp] at this
        exact this
      have H2 : Hid (_ ∧ _ ∧ _ ∧ _) := ⟨hS8, hbx, hTc, H1.out.2.2.trans (hbx.mono H1.out.2.2.size)⟩
      clear hT8 hS8 hbx hTc hP t0
      go_wp2_with fail
      refine (hD.out _ _ H2.out.1).mono ?_
      rintro r w6 ⟨q6, d6, rfl, ho6, hb6⟩
      have hH6 := box_below hH9 hb6
      obtain ⟨i1, i2, _, _, hl9⟩ := two_cells hH6
      have hT6 := box_below H2.out.2.2.1 hb6
      have t6 := one_cell hT6
      have tf6 : w6.frozen? ⟨w1.heap.size + 1, 0, none⟩ = false := by simp [World.frozen?, hT6]
      have hlt6 : w1.heap.size + 1 < w6.heap.size := (Array.getElem?_eq_some_iff.1 hT6).1
      have hlt7 : w1.heap.size < w6.heap.size := by omega
      have hb16 := H2.out.2.2.2.trans (hb6.mono H2.out.2.2.2.size)
      have hsz6 := hb6.size
      have hltc : w1.heap.size + 1 < wc.heap.size := (Array.getElem?_eq_some_iff.1 H2.out.2.2.1).1
      have hone := set_one (u := .slice q6 1 d6) hT6
      have hkeep : (w6.setCell ⟨w1.heap.size + 1, 0, none⟩ (.slice q6 1 d6)).ownsRow wc.heap.size 24 4 (.slice q6 1 d6) 1 (scells (oldSl (G + k + 1))) := set_keep ho6 hltc
      have hbs : Below w1.heap.size w1 (w6.setCell ⟨w1.heap.size + 1, 0, none⟩ (.slice q6 1 d6)) := hb16.setCell (Nat.le_succ _) _
      have H3 : Hid (_ ∧ _ ∧ _) := ⟨hone, hkeep, hbs⟩
      clear hone hkeep hbs hb16 ho6 hb6 hH6 hT6 hH9 e0 e1 e2 hsz6
      have hcmp : (G + (k : Int) != 1048576 - (n : Int) + k) = false := by rw [HG.out]; simp
      go_wp2
      go_roundw
      case rel =>
        refine ⟨k + 1, q6, d6, by simp, hlt, ?_, ?_, ?_⟩
        · exact heap_old _ _ H3.out.1
        · have := (H3.out.2.1).alloc (.cells #[.slice q6 1 d6] 27)
          have h2 := rowAt_own this
          rw [show G + (k : Int) + 1 = G + ((k + 1 : Nat) : Int) by omega] at h2
          exact h2
        · exact H3.out.2.2.alloc H3.out.2.2.size _
      case measure => simp [intOf]; omega
    · obtain rfl : k = n := by omega
      have hGk : G + (k : Int) = 1048576 := by rw [HG.out]; omega
      rw [hGk] at hS
      have hPf : Hid (∀ W y, SlAt W y (oldSl 1048576) → Calls Try.prog 5 #[.agg #[y], .int .i64 0, .int .i64 0] W fun r w' => ∃ q d, r = .returned (.tuple #[.agg #[.slice q 0 d], .agg #[.int .i64 0, .int .i64 0], .int .i64 9]) ∧ Below W.heap.size W w') := fun W y hy => by
        have := put_any y _ 0 0 W hy
        rw [old_full _ _ ⟨by omega, by omega⟩ ⟨by omega, by omega⟩] at this
        refine this.mono ?_
        rintro r w' ⟨q, d, rfl, h1, h2⟩
        exact ⟨q, d, rfl, h2⟩
      have H1 : Hid (_ ∧ _ ∧ _) := ⟨hT, hS, hb⟩
      clear hT hS hb hGk
      go_wp2_with fail
      refine (hPf.out _ _ H1.out.2.1).mono ?_
      rintro r w6 ⟨q6, d6, rfl, hb6⟩
      have hT6 := box_below H1.out.1 hb6
      have t6 := one_cell hT6
      have hlt6 : w1.heap.size + 1 < w6.heap.size := (Array.getElem?_eq_some_iff.1 hT6).1
      have hlt7 : w1.heap.size < w6.heap.size := by omega
      have hS6 := H1.out.2.1.below hb6
      have hb16 := H1.out.2.2.trans (hb6.mono H1.out.2.2.size)
      obtain ⟨W7, hW7⟩ : ∃ W7, W7 = (w6.alloc (.cells #[.slice q6 0 d6] 27)).alloc (.cells #[.int .i64 0, .int .i64 0] 29) := ⟨_, rfl⟩
      have hS7 : SlAt W7 (.slice p 1 c) (oldSl 1048576) := by rw [hW7]; exact (hS6.below (below_newC _)).below (below_newC _)
      have hb7 : Below w1.heap.size w1 W7 := by rw [hW7]; exact (hb16.alloc hb16.size _).alloc (by have := hb16.size; simp; omega) _
      have H2 : Hid (_ ∧ _ ∧ _) := ⟨hW7, hS7, hb7⟩
      clear hW7 hS7 hb7 hb16 hS6 hT6 hb6 t0
      go_wp2_with fail
      rw [← H2.out.1]
      refine (check_any _ _ _ H2.out.2.1).mono ?_
      rw [if_pos old_ok]
      rintro r w8 ⟨rfl, hb8⟩
      have HB : Hid _ := H2.out.2.2.trans (hb8.mono H2.out.2.2.size)
      clear hb8
      go_wp2
      go_ret
      exact ⟨rfl, HB.out⟩
end Go.Proofs.Ytopacgggldjinaa.Walks
