/-
  Arm: the program's answer, in plain words. Whatever wheel can be read, of lists that stay below a bound.
-/
import Derived.Test.YtdfjobghgbcjpaaDoorTurnOf
import Derived.WalkKit
import Derived.ProofKit
import Derived.Handy
import Derived.LoopTactic
import Derived.Below
import Derived.Laws.BitsAllLaws
import Derived.RegionTactic
import Derived.Deep.RegionHeld3
import Derived.Deep.DrawnRows
import Derived.Deep.AppendLies
import Derived.Laws.OwnMore
import Derived.Deep.Onto
import Derived.Deep.QuietTactic
import Derived.BigQuiet
namespace Go.Proofs.YtdfjobghgbcjpaaDoor.Walks
open Go.RowKit
set_option linter.unusedVariables false
set_option linter.unusedSimpArgs false
attribute [local go_sem ↓] Go.wp_at_zero Go.wp_at_succ
open Go.Sort (grow grow_empty grow_grow alloc_eq_grow cell?_grow heap_grow_old)

/-- A wheel that may be. -/
def May (now : Int) (ls : List (List Tm)) : Prop := (0 ≤ now ∧ now ≤ 1099511627776) ∧ Ok now ls

/-- What taking a wheel to work ends in, whatever the wheel. -/
def TakenM (now : Int) (ls : List (List Tm)) (w : World) (r : Ending) (w' : World) : Prop :=
  Below w.heap.size w w' ∧ ((May now ls ∧ ∃ T B M n vs f, r = .returned (.tuple #[.agg #[.int .i64 now, .slice (some ⟨B, 0, none⟩) 25 25, .map (some M)], .bool true]) ∧ Turn w' (w.heap.size + 2) T B M n now vs ls f ∧ FMap f ls ∧ n ≤ 26214400) ∨
    (¬ May now ls ∧ r = .returned (.tuple #[.agg #[.int .i64 0, .slice none 0 0, .map none], .bool false])))

theorem turningOf_any (v : Value) (now : Int) (ls : List (List Tm)) (w : World) (hB : Blk w) (hx : LsAt w v ls) (hlen : ∀ l ∈ ls, l.length ≤ 1048576) :
    Calls Tryd.prog 15 #[.agg #[.int .i64 now, v]] w (TakenM now ls w) := by
  by_cases h : (0 ≤ now ∧ now ≤ 1099511627776) ∧ ls.length = 25
  · refine (turningOf_late v now ls w hB hx h.1.1 h.1.2 h.2 hlen).mono fun r w' ht => ⟨ht.1, ?_⟩
    rcases ht.2 with ⟨h1, h2⟩ | ⟨h1, h2⟩
    · exact .inl ⟨⟨h.1, h1⟩, h2⟩
    · exact .inr ⟨fun hm => h1 hm.2, h2⟩
  · exact (turningOf_early v now ls w hx h).mono fun r w' ht => ⟨ht.1, .inr ⟨fun hm => h ⟨hm.1, hm.2.len⟩, ht.2⟩⟩

theorem Turn.rebox {w : World} {base T B M n : Nat} {now : Int} {vs : List Value} {ls : List (List Tm)} {f : Int → Option Int} (h : Turn w base T B M n now vs ls f) : Turn (w.alloc (.cells #[.int .i64 now, .slice (some ⟨B, 0, none⟩) 25 25, .map (some M)] 41)) base w.heap.size B M n now vs ls f := by
  have hb : Below w.heap.size w (w.alloc (.cells #[.int .i64 now, .slice (some ⟨B, 0, none⟩) 25 25, .map (some M)] 41)) := (Below.refl _ _).alloc (Nat.le_refl _) _
  have h2 := h.below hb
  have hlt : ∀ u ∈ Value.slice (some ⟨B, 0, none⟩) 25 25 :: vs, ∀ g, u.ownBlock = some g → g < w.heap.size := fun u hu g hg => by
    rcases List.mem_cons.1 hu with rfl | hu
    · exact (h.own.row.lt g hg).2
    · obtain ⟨i, hi, rfl⟩ := List.getElem_of_mem hu
      exact ((h.own.each.2 i hi (by rw [← h.own.each.1]; exact hi)).lt g hg).2
  exact ⟨heap_alloc_new w _, h2.own, h2.map, fun u hu e => absurd (hlt u hu _ e) (Nat.lt_irrefl _), h2.offM, Nat.le_of_lt (Nat.lt_of_le_of_lt h.hT (Array.getElem?_eq_some_iff.1 h.box).1), h2.hM, fun e => absurd h.map.lt (by rw [← e]; exact Nat.lt_irrefl _), h.len⟩

/-- Where a timer belongs. -/
def pos (l : List Tm) (t : Tm) : Nat := (l.takeWhile fun x => decide (cmpT x t < 0)).length

theorem pos_le (l : List Tm) (t : Tm) : pos l t ≤ l.length := by
  unfold pos
  exact (List.takeWhile_sublist _).length_le

theorem pos_before (l : List Tm) (t : Tm) : ∀ x ∈ l.take (pos l t), cmpT x t < 0 := by
  unfold pos
  induction l with
  | nil => intro x hx; cases hx
  | cons y l ih =>
    by_cases hy : cmpT y t < 0
    · rw [List.takeWhile_cons_of_pos (by simpa using hy)]
      intro x hx
      rcases List.mem_cons.1 (by simpa using hx) with rfl | hx
      · exact hy
      · exact ih x hx
    · rw [List.takeWhile_cons_of_neg (by simpa using hy)]
      intro x hx
      cases hx

theorem pos_behind {l : List Tm} (h : l.Pairwise (fun a b => cmpT a b < 0)) (t : Tm) : ∀ x ∈ l.drop (pos l t), ¬ cmpT x t < 0 := by
  unfold pos
  induction l with
  | nil => intro x hx; cases hx
  | cons y l ih =>
    have hp := List.pairwise_cons.1 h
    by_cases hy : cmpT y t < 0
    · rw [List.takeWhile_cons_of_pos (by simpa using hy)]
      simpa using ih hp.2
    · rw [List.takeWhile_cons_of_neg (by simpa using hy)]
      intro x hx hxt
      rcases List.mem_cons.1 (by simpa using hx) with rfl | hx
      · exact hy hxt
      · exact hy (cmpT_trans (hp.1 x hx) hxt)

theorem cmp_flip {a b : Tm} (h : ¬ cmpT a b < 0) (hne : a.2 ≠ b.2) : cmpT b a < 0 := by
  rw [cmpT_lt] at *
  omega

set_option maxHeartbeats 4000000 in
set_option maxRecDepth 100000 in
theorem arm_state (v : Value) (now id x : Int) (ls : List (List Tm)) (w : World) (hB : Blk w) (hx : LsAt w v ls) (hlen : ∀ l ∈ ls, l.length ≤ 1048576) (hm : ¬ May now ls) :
    Calls Tryd.prog 7 #[.agg #[.int .i64 now, v], .int .i64 id, .int .i64 x] w fun r w' => r = .returned (.tuple #[.agg #[.int .i64 0, .slice none 0 0], .int .i64 6]) ∧ Below w.heap.size w w' := by
  obtain ⟨a, ca, rfl, _⟩ := hx.parts
  have hb0 : ∀ W, Below w.heap.size w W → Blk W ∧ LsAt W (.slice a ls.length ca) ls := fun W h => ⟨hB.below h, hx.below h⟩
  have HX : Hid (_ ∧ _ ∧ _) := ⟨hb0, hlen, hm⟩
  clear hb0 hlen hm hx hB
  go_enter Tryd.func7, Tryd.ntmps7
  go_wp2_with fail
  have hbw : Below w.heap.size w ((w.alloc (.cells #[.int .i64 now, .slice a ls.length ca] 24)).alloc (.cells #[.int .i64 0, .slice none 0 0] 24)) := ((Below.refl _ _).alloc (Nat.le_refl _) _).alloc (by simp) _
  refine (turningOf_any _ now ls _ (HX.out.1 _ hbw).1 (HX.out.1 _ hbw).2 HX.out.2.1).mono ?_
  rintro r w1 ⟨hb1, ⟨h1, _⟩ | ⟨_, rfl⟩⟩
  · exact absurd h1 HX.out.2.2
  · have hR : w1.heap[w.heap.size + 1]? = some (.cells #[.int .i64 0, .slice none 0 0] 24 (0, 0)) := (hb1.block _ (by simp)).trans (heap_second _ _ _)
    obtain ⟨c0, c1, f0, f1, hlt⟩ := two_cells hR
    have hlt3 : w.heap.size < w1.heap.size := by omega
    have hlt4 : w.heap.size + 1 < w1.heap.size + 1 := by omega
    have hlt5 : w.heap.size + 1 < w1.heap.size + 2 := by omega
    have HZ : Hid (_ ∧ _ ∧ _) := ⟨hR, hb1, hbw⟩
    clear hR hb1 hbw
    go_wp2
    have hf := heap_old _ (.cells #[.int .i64 x, .int .i64 id] 45) (heap_old _ (.cells #[.int .i64 0, .slice none 0 0, .map none] 41) (two_set (c := .int .i64 0) (d := .slice none 0 0) HZ.out.1))
    obtain ⟨g0, g1, _⟩ := two_cells hf
    refine bodyPost_ret (v := .tuple #[.agg #[.int .i64 0, .slice none 0 0], .int .i64 6]) (by simp [results, Tryd.results7, go_sem, g0, g1]) rfl ⟨rfl, ?_⟩
    have h1 := (((HZ.out.2.2.trans (HZ.out.2.1.mono HZ.out.2.2.size)).setCell (p := ⟨w.heap.size + 1, 0, none⟩) (by simp) (.int .i64 0)).setCell (p := ⟨w.heap.size + 1, 1, none⟩) (by simp) (.slice none 0 0))
    exact (h1.alloc h1.size _).alloc (by have := h1.size; simp at this ⊢; omega) _

/-- The wheel with a timer more. -/
def addT (ls : List (List Tm)) (now : Int) (t : Tm) : List (List Tm) := ls.set (placeOf t.1 now).toNat (insAt (ls.getD (placeOf t.1 now).toNat []) t (pos (ls.getD (placeOf t.1 now).toNat []) t))

theorem place_range {x n : Int} : 0 ≤ placeOf x n ∧ placeOf x n < 25 := by
  unfold placeOf
  repeat' split
  all_goals omega

theorem May.add {now : Int} {ls : List (List Tm)} (h : May now ls) {t : Tm} (hf : fitsT now t = true) (hn : ∀ x ∈ ls.flatten, x.2 ≠ t.2) : May now (addT ls now t) := by
  have hp := @place_range t.1 now
  have hi : (placeOf t.1 now).toNat < ls.length := by rw [h.2.len]; omega
  have hl : ls[(placeOf t.1 now).toNat]? = some (ls.getD (placeOf t.1 now).toNat []) := by simp [List.getD, List.getElem?_eq_getElem hi]
  refine ⟨h.1, h.2.add hl hf (by omega) hn _ (pos_before _ _) fun x hx => ?_⟩
  have hx1 := pos_behind (h.2.ord _ (List.mem_of_getElem? hl)) t x hx
  exact cmp_flip hx1 (hn x (List.mem_flatten.2 ⟨_, List.mem_of_getElem? hl, List.mem_of_mem_drop hx⟩))

set_option maxHeartbeats 4000000 in
set_option maxRecDepth 100000 in
theorem arm_rest (v : Value) (now id x : Int) (ls : List (List Tm)) (w : World) (hB : Blk w) (hx : LsAt w v ls) (hlen : ∀ l ∈ ls, l.length ≤ 1048576) (hm : May now ls) (hid : (Lit.int .i64 id).wf = true) :
    Calls Tryd.prog 7 #[.agg #[.int .i64 now, v], .int .i64 id, .int .i64 x] w fun r w' => Below w.heap.size w w' ∧
      ((fitsT now (x, id) = false ∧ r = .returned (.tuple #[.agg #[.int .i64 0, .slice none 0 0], .int .i64 2])) ∨
       (fitsT now (x, id) = true ∧ ¬ (∀ t ∈ ls.flatten, t.2 ≠ id) ∧ r = .returned (.tuple #[.agg #[.int .i64 0, .slice none 0 0], .int .i64 7])) ∨
       (fitsT now (x, id) = true ∧ (∀ t ∈ ls.flatten, t.2 ≠ id) ∧ ∃ u vs, r = .returned (.tuple #[.agg #[.int .i64 now, u], .int .i64 0]) ∧ OwnLs w' w.heap.size u vs (addT ls now (x, id)))) := by
  obtain ⟨a, ca, rfl, _⟩ := hx.parts
  have hb0 : ∀ W, Below w.heap.size w W → Blk W ∧ LsAt W (.slice a ls.length ca) ls := fun W h => ⟨hB.below h, hx.below h⟩
  have HX : Hid (_ ∧ _ ∧ _) := ⟨hb0, hlen, hm⟩
  have hblt := hB.lt
  obtain ⟨hn, hn2⟩ := hm.1
  clear hb0 hlen hm hx hB
  go_enter Tryd.func7, Tryd.ntmps7
  go_wp2_with fail
  have hbw : Below w.heap.size w ((w.alloc (.cells #[.int .i64 now, .slice a ls.length ca] 24)).alloc (.cells #[.int .i64 0, .slice none 0 0] 24)) := ((Below.refl _ _).alloc (Nat.le_refl _) _).alloc (by simp) _
  refine (turningOf_any _ now ls _ (HX.out.1 _ hbw).1 (HX.out.1 _ hbw).2 HX.out.2.1).mono ?_
  rintro r w1 ⟨hb1, ⟨_, T, B, M, n, vs, f, rfl, hT, hF, hnn⟩ | ⟨h1, _⟩⟩
  · have hR : w1.heap[w.heap.size + 1]? = some (.cells #[.int .i64 0, .slice none 0 0] 24 (0, 0)) := (hb1.block _ (by simp)).trans (heap_second _ _ _)
    have hbw1 := hbw.trans (hb1.mono hbw.size)
    rw [show ((w.alloc (.cells #[.int .i64 now, .slice a ls.length ca] 24)).alloc (.cells #[.int .i64 0, .slice none 0 0] 24)).heap.size + 2 = w.heap.size + 4 by simp] at hT
    obtain ⟨w2, hw2⟩ : ∃ w2, w2 = (w1.alloc (.cells #[.int .i64 now, .slice (some ⟨B, 0, none⟩) 25 25, .map (some M)] 41)).alloc (.cells #[.int .i64 x, .int .i64 id] 45) := ⟨_, rfl⟩
    have hb2 : Below w1.heap.size w1 w2 := by rw [hw2]; exact ((Below.refl _ _).alloc (Nat.le_refl _) _).alloc (by simp) _
    have hT2 : Turn w2 (w.heap.size + 4) w1.heap.size B M n now vs ls f := by rw [hw2]; exact hT.rebox.below ((Below.refl _ _).alloc (Nat.le_refl _) _)
    have hR2 := (hb2.block _ (Array.getElem?_eq_some_iff.1 hR).1).trans hR
    have hbw2 := hbw1.trans (hb2.mono hbw1.size)
    have hK1 : w2.cell? ⟨w1.heap.size + 1, 0, none⟩ = some (.int .i64 x) := by rw [hw2]; simp
    have hK2 : w2.cell? ⟨w1.heap.size + 1, 1, none⟩ = some (.int .i64 id) := by rw [hw2]; simp
    have hKl : w1.heap.size + 1 < w2.heap.size := by rw [hw2]; simp
    obtain ⟨q0, q1, q2, q3⟩ := three_cells hT2.box
    have HT : Hid (_ ∧ _ ∧ _ ∧ _ ∧ _ ∧ _ ∧ _) := ⟨hT2, hF, hnn, hR2, hbw2, hw2, hbw1⟩
    clear hR hb1 hbw hT hF hnn hb2 hT2 hR2 hbw2 hbw1 hw2
    go_wp2_with fail
    rw [← HT.out.2.2.2.2.2.1]
    have hs1 := HT.out.2.2.2.2.2.2.size
    refine (fits_any x id now _ hn hn2).mono ?_
    cases hfit : fitsT now (x, id)
    · rintro r w3 ⟨rfl, hw3⟩
      have hb3 : Below w2.heap.size w2 w3 := by rw [hw3]; exact (Below.refl _ _).alloc (Nat.le_refl _) _
      have hR3 := (hb3.block _ (Array.getElem?_eq_some_iff.1 HT.out.2.2.2.1).1).trans HT.out.2.2.2.1
      obtain ⟨c0, c1, f0, f1, hlt⟩ := two_cells hR3
      have HZ : Hid (_ ∧ _) := ⟨hR3, HT.out.2.2.2.2.1.trans (hb3.mono HT.out.2.2.2.2.1.size)⟩
      clear hw3 hb3 hR3 q0 q1 q2 q3 hK1 hK2
      go_wp2
      obtain ⟨g0, g1⟩ := two_set_cells (c := .int .i64 0) (d := .slice none 0 0) HZ.out.1
      refine bodyPost_ret (v := .tuple #[.agg #[.int .i64 0, .slice none 0 0], .int .i64 2]) (by simp [results, Tryd.results7, go_sem, g0, g1]) rfl ⟨?_, .inl ⟨hfit, rfl⟩⟩
      exact ((HZ.out.2.setCell (p := ⟨w.heap.size + 1, 0, none⟩) (by simp) _).setCell (p := ⟨w.heap.size + 1, 1, none⟩) (by simp) _)
    · rintro r w3 ⟨rfl, hw3⟩
      have hb3 : Below w2.heap.size w2 w3 := by rw [hw3]; exact (Below.refl _ _).alloc (Nat.le_refl _) _
      have hT3 := HT.out.1.below hb3
      have hbw3 := HT.out.2.2.2.2.1.trans (hb3.mono HT.out.2.2.2.2.1.size)
      have hR3 := (hb3.block _ (Array.getElem?_eq_some_iff.1 HT.out.2.2.2.1).1).trans HT.out.2.2.2.1
      have hK3 := (hb3.cell (p := ⟨w1.heap.size + 1, 0, none⟩) hKl).trans hK1
      have hK4 := (hb3.cell (p := ⟨w1.heap.size + 1, 1, none⟩) hKl).trans hK2
      obtain ⟨c0, c1, f0, f1, hlt⟩ := two_cells hR3
      obtain ⟨p0, p1, p2, p3⟩ := three_cells hT3.box
      have HZ : Hid (_ ∧ _ ∧ _) := ⟨hR3, hbw3, hT3⟩
      clear hw3 hb3 hR3 q0 q1 q2 q3 hK1 hK2 hbw3 hT3
      go_wp2_with fail
      refine (has_any w1.heap.size M n f id _ p2 HZ.out.2.2.map hid).mono ?_
      cases hhas : (f id).isSome
      · rintro r w4 ⟨rfl, rfl⟩
        have hfresh := (HT.out.2.1.isNone id).1 hhas
        have hpr := @place_range x now
        have hbnd := fits_bounds hfit hn
        obtain ⟨i, hi⟩ : ∃ i : Nat, placeOf x now = (i : Int) := ⟨(placeOf x now).toNat, by omega⟩
        have hi25 : i < 25 := by omega
        have hil : i < ls.length := by rw [HX.out.2.2.2.len]; exact hi25
        have hl : ls[i]? = some (ls.getD i []) := by simp [List.getD, List.getElem?_eq_getElem hil]
        have hord := HX.out.2.2.2.ord _ (List.mem_of_getElem? hl)
        have hll := HX.out.2.1 _ (List.mem_of_getElem? hl)
        have HP := put_any (w.heap.size + 4) w1.heap.size B M n now vs ls f x id i (pos (ls.getD i []) (x, id)) w4 (HX.out.1 _ HZ.out.2.1).1 HZ.out.2.2 (by omega) (by have := (Array.getElem?_eq_some_iff.1 HZ.out.2.2.box).1; have := HZ.out.2.2.hT; omega) hn hn2 (by have := HT.out.2.2.1; unfold maxLen; omega) hi25 ⟨hbnd.1, hbnd.2.1⟩ hid hi _ hl hll (pos_le _ _) (fun k hk hkp => pos_before _ _ _ (List.mem_take_iff_getElem.2 ⟨k, by omega, rfl⟩)) (fun k hk hkp => pos_behind hord _ _ (List.mem_drop_iff_getElem.2 ⟨k - pos (ls.getD i []) (x, id), by omega, by congr 1; omega⟩))
        have HQ : Hid (_ ∧ _ ∧ _ ∧ _) := ⟨HP, hfresh, hi, hl⟩
        clear HP hfresh hpr hbnd hi hl hord hll hil
        go_wp2_with fail
        refine HQ.out.1.mono ?_
        rintro r w5 ⟨rfl, vs', hT5, hb5, _⟩
        have hR5 := (hb5.block (w.heap.size + 1) (by omega)).trans HZ.out.1
        have hadd : ls.set i (insAt (ls.getD i []) (x, id) (pos (ls.getD i []) (x, id))) = addT ls now (x, id) := by
          unfold addT
          rw [show (placeOf (x, id).1 now).toNat = i by rw [HQ.out.2.2.1]; rfl]
        rw [hadd] at hT5
        obtain ⟨c0', c1', f0', f1', hlt'⟩ := two_cells hR5
        obtain ⟨p0', p1', p2', p3'⟩ := three_cells hT5.box
        have HY : Hid (_ ∧ _ ∧ _) := ⟨hR5, hT5, HZ.out.2.1.trans (hb5.mono (by omega))⟩
        clear hR5 hT5 hb5 hadd c0 c1 f0 f1 hlt p0 p1 p2 p3 hK3 hK4
        go_wp2
        obtain ⟨g0, g1⟩ := two_set_cells (c := .int .i64 now) (d := .slice (some ⟨B, 0, none⟩) 25 25) HY.out.1
        refine bodyPost_ret (v := .tuple #[.agg #[.int .i64 now, .slice (some ⟨B, 0, none⟩) 25 25], .int .i64 0]) (by simp [results, Tryd.results7, go_sem, g0, g1]) rfl ⟨?_, .inr (.inr ⟨hfit, HQ.out.2.1, _, vs', rfl, ?_⟩)⟩
        · exact ((HY.out.2.2.setCell (p := ⟨w.heap.size + 1, 0, none⟩) (by simp) _).setCell (p := ⟨w.heap.size + 1, 1, none⟩) (by simp) _)
        · exact (HY.out.2.1.own.set2 (g := w.heap.size + 1) (by omega) _ _).mono (by omega)
      · rintro r w4 ⟨rfl, rfl⟩
        have hnf : ¬ (∀ t ∈ ls.flatten, t.2 ≠ id) := fun h => by rw [(HT.out.2.1.isNone id).2 h] at hhas; cases hhas
        have HN : Hid _ := hnf
        clear hnf p0 p1 p2 p3 hK3 hK4
        go_wp2
        obtain ⟨g0, g1⟩ := two_set_cells (c := .int .i64 0) (d := .slice none 0 0) HZ.out.1
        refine bodyPost_ret (v := .tuple #[.agg #[.int .i64 0, .slice none 0 0], .int .i64 7]) (by simp [results, Tryd.results7, go_sem, g0, g1]) rfl ⟨?_, .inr (.inl ⟨hfit, HN.out, rfl⟩)⟩
        exact ((HZ.out.2.1.setCell (p := ⟨w.heap.size + 1, 0, none⟩) (by simp) _).setCell (p := ⟨w.heap.size + 1, 1, none⟩) (by simp) _)
  · exact absurd HX.out.2.2 h1
end Go.Proofs.YtdfjobghgbcjpaaDoor.Walks
