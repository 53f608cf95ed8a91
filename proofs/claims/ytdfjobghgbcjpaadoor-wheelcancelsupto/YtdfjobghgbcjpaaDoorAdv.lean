/-
  Advance: the program's answer, in plain words. Whatever wheel can be read, of at most 1048576 timers.
-/
import Derived.Test.YtdfjobghgbcjpaaDoorOff
import Derived.WalkKit
import Derived.ProofKit
import Derived.Handy
import Derived.LoopTactic
import Derived.Below
import Derived.Laws.BitsAllLaws
import Derived.RegionTactic
import Derived.Deep.RegionHeld3
import Derived.Deep.DrawnRows
import Derived.Deep.AppendLies
import Derived.Laws.OwnMore
import Derived.Deep.Onto
import Derived.Deep.QuietTactic
import Derived.BigQuiet
namespace Go.Proofs.YtdfjobghgbcjpaaDoor.Walks
open Go.RowKit
set_option linter.unusedVariables false
set_option linter.unusedSimpArgs false
attribute [local go_sem ↓] Go.wp_at_zero Go.wp_at_succ

theorem Ok.good {now : Int} {ls : List (List Tm)} (h : Ok now ls) (hn : 0 ≤ now) (ht : ls.flatten.length ≤ 1048576) : Good ls := by
  refine ⟨h.srt, fun t htm => ?_, ht⟩
  obtain ⟨l, hl, htl⟩ := List.mem_flatten.1 htm
  obtain ⟨i, hi, rfl⟩ := List.getElem_of_mem hl
  exact fits_bounds (h.fit i _ (List.getElem?_eq_getElem hi) t htl).1 hn

/-- The place of the tick itself. -/
def spotNow (m : Int) : Nat := (m % 8).toNat

set_option maxHeartbeats 4000000 in
set_option maxRecDepth 100000 in
theorem advance_state (v : Value) (now : Int) (ls : List (List Tm)) (w : World) (hB : Blk w) (hx : LsAt w v ls) (hlen : ∀ l ∈ ls, l.length ≤ 1048576) (hm : ¬ May now ls) :
    Calls Tryd.prog 12 #[.agg #[.int .i64 now, v]] w fun r w' => r = .returned (.tuple #[.agg #[.int .i64 0, .slice none 0 0], .slice none 0 0, .int .i64 6]) ∧ Below w.heap.size w w' := by
  obtain ⟨a, ca, rfl, _⟩ := hx.parts
  have hb0 : ∀ W, Below w.heap.size w W → Blk W ∧ LsAt W (.slice a ls.length ca) ls := fun W h => ⟨hB.below h, hx.below h⟩
  have HX : Hid (_ ∧ _ ∧ _) := ⟨hb0, hlen, hm⟩
  clear hb0 hlen hm hx hB
  go_enter Tryd.func12, Tryd.ntmps12
  go_wp2_with fail
  have hbw : Below w.heap.size w ((w.alloc (.cells #[.int .i64 now, .slice a ls.length ca] 24)).alloc (.cells #[.int .i64 0, .slice none 0 0] 24)) := ((Below.refl _ _).alloc (Nat.le_refl _) _).alloc (by simp) _
  refine (turningOf_any _ now ls _ (HX.out.1 _ hbw).1 (HX.out.1 _ hbw).2 HX.out.2.1).mono ?_
  rintro r w1 ⟨hb1, ⟨h1, _⟩ | ⟨_, rfl⟩⟩
  · exact absurd h1 HX.out.2.2
  · have hR : w1.heap[w.heap.size + 1]? = some (.cells #[.int .i64 0, .slice none 0 0] 24 (0, 0)) := (hb1.block _ (by simp)).trans (heap_second _ _ _)
    obtain ⟨c0, c1, f0, f1, hlt⟩ := two_cells hR
    have hlt3 : w.heap.size < w1.heap.size := by omega
    have hlt4 : w.heap.size + 1 < w1.heap.size + 1 := by omega
    have HZ : Hid (_ ∧ _ ∧ _) := ⟨hR, hb1, hbw⟩
    clear hR hb1 hbw
    go_wp2
    have hf := heap_old _ (.cells #[.int .i64 0, .slice none 0 0, .map none] 41) (two_set (c := .int .i64 0) (d := .slice none 0 0) HZ.out.1)
    obtain ⟨g0, g1, _⟩ := two_cells hf
    refine bodyPost_ret (v := .tuple #[.agg #[.int .i64 0, .slice none 0 0], .slice none 0 0, .int .i64 6]) (by simp [results, Tryd.results12, go_sem, g0, g1]) rfl ⟨rfl, ?_⟩
    have h1 := (((HZ.out.2.2.trans (HZ.out.2.1.mono HZ.out.2.2.size)).setCell (p := ⟨w.heap.size + 1, 0, none⟩) (by simp) (.int .i64 0)).setCell (p := ⟨w.heap.size + 1, 1, none⟩) (by simp) (.slice none 0 0))
    exact h1.alloc h1.size _

set_option maxHeartbeats 4000000 in
set_option maxRecDepth 100000 in
theorem advance_rest (v : Value) (now : Int) (ls : List (List Tm)) (w : World) (hB : Blk w) (hx : LsAt w v ls) (htot : ls.flatten.length ≤ 1048576) (hm : May now ls) :
    Calls Tryd.prog 12 #[.agg #[.int .i64 now, v]] w fun r w' => Below w.heap.size w w' ∧
      ((now = 1099511627776 ∧ r = .returned (.tuple #[.agg #[.int .i64 0, .slice none 0 0], .slice none 0 0, .int .i64 9])) ∨
       (now < 1099511627776 ∧ ∃ u vs x, r = .returned (.tuple #[.agg #[.int .i64 (now + 1), u], x, .int .i64 0]) ∧ OwnLs w' w.heap.size u vs ((lev2 ls (now + 1)).set (spotNow (now + 1)) []) ∧
         w'.ownsRow w.heap.size 3 1 x ((lev2 ls (now + 1)).getD (spotNow (now + 1)) []).length (idCells ((lev2 ls (now + 1)).getD (spotNow (now + 1)) [])))) := by
  obtain ⟨a, ca, rfl, _⟩ := hx.parts
  have hlen : ∀ l ∈ ls, l.length ≤ 1048576 := fun l hl => Nat.le_trans (len_le_flatten hl) htot
  have hb0 : ∀ W, Below w.heap.size w W → Blk W ∧ LsAt W (.slice a ls.length ca) ls := fun W h => ⟨hB.below h, hx.below h⟩
  have hG := hm.2.good hm.1.1 htot
  have HX : Hid (_ ∧ _ ∧ _ ∧ _) := ⟨hb0, hlen, hm, hG⟩
  have hblt := hB.lt
  obtain ⟨hn, hn2⟩ := hm.1
  clear hb0 hlen hm hx hB hG
  go_enter Tryd.func12, Tryd.ntmps12
  go_wp2_with fail
  have hbw : Below w.heap.size w ((w.alloc (.cells #[.int .i64 now, .slice a ls.length ca] 24)).alloc (.cells #[.int .i64 0, .slice none 0 0] 24)) := ((Below.refl _ _).alloc (Nat.le_refl _) _).alloc (by simp) _
  refine (turningOf_any _ now ls _ (HX.out.1 _ hbw).1 (HX.out.1 _ hbw).2 HX.out.2.1).mono ?_
  rintro r w1 ⟨hb1, ⟨_, T, B, M, n, vs, f, rfl, hT, hF, hnn⟩ | ⟨h1, _⟩⟩
  · have hR : w1.heap[w.heap.size + 1]? = some (.cells #[.int .i64 0, .slice none 0 0] 24 (0, 0)) := (hb1.block _ (by simp)).trans (heap_second _ _ _)
    have hbw1 := hbw.trans (hb1.mono hbw.size)
    rw [show ((w.alloc (.cells #[.int .i64 now, .slice a ls.length ca] 24)).alloc (.cells #[.int .i64 0, .slice none 0 0] 24)).heap.size + 2 = w.heap.size + 4 by simp] at hT
    obtain ⟨w2, hw2⟩ : ∃ w2, w2 = w1.alloc (.cells #[.int .i64 now, .slice (some ⟨B, 0, none⟩) 25 25, .map (some M)] 41) := ⟨_, rfl⟩
    have hb2 : Below w1.heap.size w1 w2 := by rw [hw2]; exact (Below.refl _ _).alloc (Nat.le_refl _) _
    have hT2 : Turn w2 (w.heap.size + 4) w1.heap.size B M n now vs ls f := by rw [hw2]; exact hT.rebox
    have hR2 := (hb2.block _ (Array.getElem?_eq_some_iff.1 hR).1).trans hR
    have hbw2 := hbw1.trans (hb2.mono hbw1.size)
    have hTs := hT2.hT
    have hTl := (Array.getElem?_eq_some_iff.1 hT2.box).1
    have hlt1 := (Array.getElem?_eq_some_iff.1 hR).1
    have hlt3 : w.heap.size < w1.heap.size := by omega
    obtain ⟨c0, c1, f0, f1, hlt⟩ := two_cells hR
    have HT : Hid (_ ∧ _ ∧ _ ∧ _ ∧ _) := ⟨hT2, hnn, hR2, hbw2, hw2⟩
    have HQ : Hid (_ ∧ _) := ⟨hR, hbw1⟩
    clear hR hb1 hbw hT hF hnn hb2 hT2 hR2 hbw2 hbw1 hw2
    by_cases hfull : now = 1099511627776
    · subst hfull
      go_wp2
      have hf := heap_old _ (.cells #[.int .i64 1099511627776, .slice (some ⟨B, 0, none⟩) 25 25, .map (some M)] 41) (two_set (c := .int .i64 0) (d := .slice none 0 0) HQ.out.1)
      obtain ⟨g0, g1, _⟩ := two_cells hf
      refine bodyPost_ret (v := .tuple #[.agg #[.int .i64 0, .slice none 0 0], .slice none 0 0, .int .i64 9]) (by simp [results, Tryd.results12, go_sem, g0, g1]) rfl ⟨?_, by first | exact .inl ⟨rfl, rfl⟩ | rfl⟩
      have h1 := ((HQ.out.2.setCell (p := ⟨w.heap.size + 1, 0, none⟩) (by simp) (.int .i64 0)).setCell (p := ⟨w.heap.size + 1, 1, none⟩) (by simp) (.slice none 0 0))
      exact h1.alloc h1.size _
    · have hne : (now == 1099511627776) = false := by simp; exact hfull
      have hlt9 : now < 1099511627776 := by omega
      clear hfull
      go_wp2_with fail
      rw [← HT.out.2.2.2.2]
      refine (turn_any (w.heap.size + 4) w1.heap.size B M n now vs ls f w2 (HX.out.1 _ HT.out.2.2.2.1).1 HT.out.1 (by omega) (by omega) hn hlt9 HX.out.2.2.2 HT.out.2.1).mono ?_
      rintro r w3 ⟨rfl, vs3, n3, f3, hT3, hn3, hb3⟩
      obtain ⟨m, hm⟩ : ∃ m, m = now + 1 := ⟨_, rfl⟩
      rw [← hm] at hT3
      have hm8 : m % 8 = (spotNow m : Int) := by unfold spotNow; omega
      have hG3 := HX.out.2.2.2.lev2 m
      have hp25 : spotNow m < 25 := by unfold spotNow; omega
      have hl : (lev2 ls m)[spotNow m]? = some ((lev2 ls m).getD (spotNow m) []) := by simp [List.getD, List.getElem?_eq_getElem (show spotNow m < (lev2 ls m).length by rw [hG3.srt.len]; exact hp25)]
      have hB3 : Blk w3 := (HX.out.1 _ HT.out.2.2.2.1).1.keep (hb3.block 0 (by omega))
      have hs3 := hb3.size
      have HG := goOff_any (w.heap.size + 4) w1.heap.size B M n3 m vs3 (lev2 ls m) f3 (spotNow m) _ w3 hB3 hT3 (by omega) (by omega) (by omega) (by omega) hm8 hl (fun t ht => (hG3.bnd t (List.mem_flatten.2 ⟨_, List.mem_of_getElem? hl, ht⟩)).2.2) (Nat.le_trans (len_le_flatten (List.mem_of_getElem? hl)) hG3.tot)
      have HZ : Hid (_ ∧ _ ∧ _) := ⟨HG, hb3, hm⟩
      clear HG hb3 hm hT3 hn3 hB3 hl hG3 hm8 hp25
      go_wp2_with fail
      refine HZ.out.1.mono ?_
      rintro r w4 ⟨x, vs4, f4, rfl, hx4, hT4, hb4⟩
      have hR4 := (hb4.block (w.heap.size + 1) (by omega)).trans ((HZ.out.2.1.block (w.heap.size + 1) (by omega)).trans HT.out.2.2.1)
      obtain ⟨d0, d1, y0, y1, dlt⟩ := two_cells hR4
      obtain ⟨q0, q1, q2, q3⟩ := three_cells hT4.box
      obtain ⟨xp, xc, rfl⟩ := own_form hx4
      have hbw4 : Below w.heap.size w w4 := (HT.out.2.2.2.1.trans (HZ.out.2.1.mono (by omega))).trans (hb4.mono (by omega))
      have HY : Hid (_ ∧ _ ∧ _ ∧ _) := ⟨hR4, hT4, hbw4, hx4⟩
      clear hR4 hT4 hbw4 hx4 hb4 c0 c1 f0 f1
      go_wp2
      obtain ⟨g0, g1⟩ := two_set_cells (c := .int .i64 m) (d := .slice (some ⟨B, 0, none⟩) 25 25) HY.out.1
      refine bodyPost_ret (v := .tuple #[.agg #[.int .i64 m, .slice (some ⟨B, 0, none⟩) 25 25], .slice xp ((lev2 ls m).getD (spotNow m) []).length xc, .int .i64 0]) (by simp [results, Tryd.results12, go_sem, g0, g1]) rfl ⟨?_, .inr ⟨hlt9, .slice (some ⟨B, 0, none⟩) 25 25, vs4, .slice xp ((lev2 ls m).getD (spotNow m) []).length xc, ?_, ?_, ?_⟩⟩
      · exact ((HY.out.2.2.1.setCell (p := ⟨w.heap.size + 1, 0, none⟩) (by simp) _).setCell (p := ⟨w.heap.size + 1, 1, none⟩) (by simp) _)
      · rw [← HZ.out.2.2]
      · rw [← HZ.out.2.2]
        exact (HY.out.2.1.own.set2 (g := w.heap.size + 1) (by omega) _ _).mono (by omega)
      · rw [← HZ.out.2.2]
        refine own_block (HY.out.2.2.2.mono (by omega)) fun g hg => ?_
        have := (HY.out.2.2.2.lt g hg).1
        rw [Below.heap_setCell _ _ _ _ (by simp; omega), Below.heap_setCell _ _ _ _ (by simp; omega)]
  · exact absurd HX.out.2.2.1 h1
end Go.Proofs.YtdfjobghgbcjpaaDoor.Walks
