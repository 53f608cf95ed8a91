/-
  The document's Arm. The wheel can be read, and holds at most 1048576 timers.
-/
import Derived.Test.YtdfjobghgbcjpaaDoorRefT
import Derived.WalkKit
import Derived.ProofKit
import Derived.Handy
import Derived.LoopTactic
import Derived.Below
import Derived.Laws.BitsAllLaws
import Derived.RegionTactic
import Derived.Deep.RegionHeld3
import Derived.Deep.DrawnRows
import Derived.Deep.AppendLies
import Derived.Laws.OwnMore
import Derived.Deep.Onto
import Derived.Deep.QuietTactic
import Derived.BigQuiet
namespace Go.Proofs.YtdfjobghgbcjpaaDoor.Walks
open Go.RowKit
set_option linter.unusedVariables false
set_option linter.unusedSimpArgs false
attribute [local go_sem ↓] Go.wp_at_zero Go.wp_at_succ
open Classical

/-- What arming ends in: the error, the tick, the lists. -/
def armOut (now id x : Int) (ls : List (List Tm)) [Decidable (May now ls)] : Int × Int × List (List Tm) :=
  if May now ls then if fitsT now (x, id) = true then if ∀ t ∈ ls.flatten, t.2 ≠ id then (0, now, addT ls now (x, id)) else (7, 0, []) else (2, 0, []) else (6, 0, [])

theorem arm_prog (v : Value) (now id x : Int) (ls : List (List Tm)) (w : World) (hB : Blk w) (hx : LsAt w v ls) (hlen : ∀ l ∈ ls, l.length ≤ 1048576) (hid : (Lit.int .i64 id).wf = true) :
    Calls Tryd.prog 7 #[.agg #[.int .i64 now, v], .int .i64 id, .int .i64 x] w fun r w' => ∃ y, r = .returned (.tuple #[y, .int .i64 (armOut now id x ls).1]) ∧ WhAt w' y (armOut now id x ls).2.1 (armOut now id x ls).2.2 ∧ Below w.heap.size w w' := by
  unfold armOut
  by_cases hm : May now ls
  · rw [if_pos hm]
    refine (arm_rest v now id x ls w hB hx hlen hm hid).mono fun r w' ⟨hb, h⟩ => ?_
    rcases h with ⟨h1, h2⟩ | ⟨h1, h2, h3⟩ | ⟨h1, h2, u, vs, h3, h4⟩
    · rw [if_neg (by rw [h1]; simp)]; exact ⟨_, h2, zeroWheel_at _, hb⟩
    · rw [if_pos h1, if_neg h2]; exact ⟨_, h3, zeroWheel_at _, hb⟩
    · rw [if_pos h1, if_pos h2]; exact ⟨_, h3, ⟨_, rfl, h4.at⟩, hb⟩
  · rw [if_neg hm]
    exact (arm_state v now id x ls w hB hx hlen hm).mono fun r w' h => ⟨_, h.1, zeroWheel_at _, h.2⟩

theorem below_boxes {w : World} (a b : Obj) : Below w.heap.size w ((w.alloc a).alloc b) := ((Below.refl _ _).alloc (Nat.le_refl _) _).alloc (by simp) _

set_option maxHeartbeats 8000000 in
set_option maxRecDepth 100000 in
theorem refArm_any (v : Value) (now id x : Int) (ls : List (List Tm)) (w : World) (hx : LsAt w v ls) (htot : ls.flatten.length ≤ 1048576) :
    Calls Tryd.prog 8 #[.agg #[.int .i64 now, v], .int .i64 id, .int .i64 x] w fun r w' => ∃ y, r = .returned (.tuple #[y, .int .i64 (armOut now id x ls).1]) ∧ WhAt w' y (armOut now id x ls).2.1 (armOut now id x ls).2.2 ∧ Below w.heap.size w w' := by
  obtain ⟨a, ca, rfl, _⟩ := hx.parts
  obtain ⟨i0, hi, hz0, hz1, hz2⟩ := info_parts infoTm
  have HX : Hid (_ ∧ _) := ⟨hx, htot⟩
  obtain ⟨e, he⟩ : ∃ e, e = armOut now id x ls := ⟨_, rfl⟩
  rw [← he]
  have HE : Hid _ := he
  clear hx htot he
  go_enter Tryd.func8, Tryd.ntmps8
  go_wp2_with fail
  have hb0 := below_boxes (w := w) (.cells #[.int .i64 now, .slice a ls.length ca] 24) (.cells #[.int .i64 0, .slice none 0 0] 24)
  refine (wheelMay_any _ now ls _ (HX.out.1.below hb0) HX.out.2).mono ?_
  rintro r w1 ⟨b, rfl, hbm, hb1⟩
  have hbw1 := hb0.trans (hb1.mono hb0.size)
  have hR0 : w1.heap[w.heap.size]? = some (.cells #[.int .i64 now, .slice a ls.length ca] 24 (0, 0)) := (hb1.block _ (by simp; omega)).trans (heap_old _ _ (heap_alloc_new _ _))
  have hR1 : w1.heap[w.heap.size + 1]? = some (.cells #[.int .i64 0, .slice none 0 0] 24 (0, 0)) := (hb1.block _ (by simp)).trans (heap_second _ _ _)
  obtain ⟨c0, c1, _, _, clt⟩ := two_cells hR0
  obtain ⟨d0, d1, df0, df1, dlt⟩ := two_cells hR1
  have H1 : Hid (_ ∧ _ ∧ _ ∧ _) := ⟨hbm, hbw1, hR0, hR1⟩
  clear hb0 hbm hb1 hbw1 hR0 hR1
  cases b
  · have hno : ¬ May now ls := fun h => by have := H1.out.1.2 h; cases this
    have he : e = (6, 0, []) := by rw [HE.out]; unfold armOut; rw [if_neg hno]
    go_wp2
    obtain ⟨g0, g1⟩ := two_set_cells (c := .int .i64 0) (d := .slice none 0 0) H1.out.2.2.2
    refine bodyPost_ret (v := .tuple #[.agg #[.int .i64 0, .slice none 0 0], .int .i64 6]) (by simp [results, Tryd.results8, go_sem, g0, g1]) rfl ?_
    rw [he]
    exact ⟨_, rfl, zeroWheel_at _, (H1.out.2.1.setCell (p := ⟨w.heap.size + 1, 0, none⟩) (by simp) _).setCell (p := ⟨w.heap.size + 1, 1, none⟩) (by simp) _⟩
  · have hm : May now ls := H1.out.1.1 rfl
    obtain ⟨hn, hn2⟩ := hm.1
    have HM : Hid (May now ls) := hm
    clear hm
    cases hft : fitsT now (x, id)
    · have he : e = (2, 0, []) := by rw [HE.out]; unfold armOut; rw [if_pos HM.out, if_neg (by rw [hft]; simp)]
      have HE2 : Hid _ := he
      clear he
      go_wp2_with fail
      refine (timerMay_b x id now _ hn hn2).mono ?_
      rw [hft]
      rintro r w2 ⟨rfl, hb2⟩
      have hR2 := (hb2.block _ dlt).trans H1.out.2.2.2
      obtain ⟨k0, k1, kf0, kf1, klt⟩ := two_cells hR2
      have H2 : Hid (_ ∧ _) := ⟨H1.out.2.1.trans (hb2.mono H1.out.2.1.size), hR2⟩
      clear hb2 hR2 c0 c1 d0 d1 df0 df1
      go_wp2
      obtain ⟨g0, g1⟩ := two_set_cells (c := .int .i64 0) (d := .slice none 0 0) H2.out.2
      refine bodyPost_ret (v := .tuple #[.agg #[.int .i64 0, .slice none 0 0], .int .i64 2]) (by simp [results, Tryd.results8, go_sem, g0, g1]) rfl ?_
      rw [HE2.out]
      exact ⟨_, rfl, zeroWheel_at _, (H2.out.1.setCell (p := ⟨w.heap.size + 1, 0, none⟩) (by simp) _).setCell (p := ⟨w.heap.size + 1, 1, none⟩) (by simp) _⟩
    · go_wp2_with fail
      refine (timerMay_b x id now _ hn hn2).mono ?_
      rw [hft]
      rintro r w2 ⟨rfl, hb2⟩
      have hR2 := (hb2.block _ dlt).trans H1.out.2.2.2
      have hQ2 := (hb2.block _ clt).trans H1.out.2.2.1
      obtain ⟨j0, j1, _, _, jlt⟩ := two_cells hQ2
      have hbw2 := H1.out.2.1.trans (hb2.mono H1.out.2.1.size)
      have H2 : Hid (_ ∧ _ ∧ _) := ⟨hbw2, hR2, hQ2⟩
      clear hb2 hR2 hQ2 hbw2 c0 c1 d0 d1 df0 df1
      go_wp2_with fail
      refine (timersOf_any _ now ls _ (HX.out.1.below H2.out.1) HX.out.2).mono ?_
      rintro r w3 ⟨u, rfl, hown, hb3⟩
      obtain ⟨up, uc, rfl⟩ := own_form hown
      obtain ⟨L, hL⟩ : ∃ L, L = ls.flatten := ⟨_, rfl⟩
      rw [← hL] at hown ⊢
      have hLl : L.length ≤ 200 := by rw [hL]; exact HM.out.2.total
      obtain ⟨q0, uc', heq, huc, hum, pu⟩ := TmAt.parts (l := L) (rowAt_own hown)
      obtain ⟨rfl, _, rfl⟩ : up = q0 ∧ True ∧ uc = uc' := by cases heq; exact ⟨rfl, trivial, rfl⟩
      unfold maxLen at hum
      have hR3 := (hb3.block _ (Array.getElem?_eq_some_iff.1 H2.out.2.1).1).trans H2.out.2.1
      have hQ3 := (hb3.block _ jlt).trans H2.out.2.2
      have hbw3 := H2.out.1.trans (hb3.mono H2.out.1.size)
      obtain ⟨d0, d1, df0, df1, dlt3⟩ := two_cells hR3
      obtain ⟨j0', j1', _, _, jlt3⟩ := two_cells hQ3
      have hb3s : w2.heap.size ≤ w3.heap.size := hb3.size
      have H3 : Hid (_ ∧ _ ∧ _ ∧ _ ∧ _ ∧ _) := ⟨hown, hbw3, hR3, hQ3, hL, pu⟩
      clear hown hbw3 hR3 hQ3 hL pu hb3 heq j0 j1
      go_wp2
      go_loopw [9] (fun t wr => ∃ i : Nat, t = .int .i64 i ∧ i ≤ L.length ∧ (∀ y ∈ L.take i, y.2 ≠ id) ∧ wr = w3) (fun t _ => L.length - (intOf t).toNat)
      case atStart => exact ⟨0, rfl, Nat.zero_le _, by simp, rfl⟩
      case round =>
        obtain ⟨i, rfl, hil, hno, rfl⟩ := hrel
        by_cases hlt : i < L.length
        · obtain ⟨b0, off, rfl, hb0, p1, p2⟩ := H3.out.2.2.2.2.2 i hlt
          obtain ⟨xd, hxd⟩ : ∃ xd, xd = L[i].2 := ⟨_, rfl⟩
          rw [← hxd] at p2
          have htk : L.take (i + 1) = L.take i ++ [L[i]] := List.take_succ_eq_append_getElem hlt
          have hiI : (i : Int) < (L.length : Int) := by omega
          have hid : decide ((i : Int) < (L.length : Int)) = true := decide_eq_true hiI
          have HK : Hid (_ ∧ _ ∧ _) := ⟨hno, htk, hxd⟩
          clear hno htk hxd p1
          by_cases hdd : xd = id
          · subst hdd
            have he : e = (7, 0, []) := by
              rw [HE.out]; unfold armOut
              rw [if_pos HM.out, if_pos hft, if_neg]
              intro h
              exact h L[i] (by rw [← H3.out.2.2.2.2.1]; exact List.getElem_mem hlt) HK.out.2.2.symm
            have HE2 : Hid _ := he
            clear he
            go_wp2
            obtain ⟨g0, g1⟩ := two_set_cells (c := .int .i64 0) (d := .slice none 0 0) H3.out.2.2.1
            refine bodyPost_ret (v := .tuple #[.agg #[.int .i64 0, .slice none 0 0], .int .i64 7]) (by simp [results, Tryd.results8, go_sem, g0, g1]) rfl ?_
            rw [HE2.out]
            exact ⟨_, rfl, zeroWheel_at _, (H3.out.2.1.setCell (p := ⟨w.heap.size + 1, 0, none⟩) (by simp) _).setCell (p := ⟨w.heap.size + 1, 1, none⟩) (by simp) _⟩
          · have hne : (xd == id) = false := by simpa using hdd
            have HN : Hid _ := hdd
            clear hdd
            go_wp2
            go_roundw
            case rel =>
              refine ⟨i + 1, by simp, hlt, fun y hy => ?_, by first | rfl | trivial⟩
              rw [HK.out.2.1] at hy
              rcases List.mem_append.1 hy with hy | hy
              · exact HK.out.1 y hy
              · rw [List.mem_singleton.1 hy, ← HK.out.2.2]; exact HN.out
            case measure => simp [intOf]; omega
        · obtain rfl : i = L.length := by omega
          rw [List.take_length] at hno
          have he : e = (0, now, addT ls now (x, id)) := by
            rw [HE.out]; unfold armOut
            rw [if_pos HM.out, if_pos hft, if_pos (by rw [← H3.out.2.2.2.2.1]; exact hno)]
          have hwo : wheelOf now (L ++ [(x, id)]) = addT ls now (x, id) := by
            have hfits : ∀ t ∈ L ++ [(x, id)], fitsT now t = true := fun t ht => by
              rcases List.mem_append.1 ht with ht | ht
              · exact HM.out.2.mem_fits (by rw [← H3.out.2.2.2.2.1]; exact ht)
              · rw [List.mem_singleton.1 ht]; exact hft
            have hnd : ((L ++ [(x, id)]).map (·.2)).Nodup := nodup_snoc (by rw [H3.out.2.2.2.2.1]; exact HM.out.2.ids) hno
            refine ok_unique (wheelOf_ok hfits hnd) (HM.out.add hft (by rw [← H3.out.2.2.2.2.1]; exact hno)).2 fun t => ?_
            rw [wheelOf_mem hnd, mem_add HM.out.2, ← H3.out.2.2.2.2.1, List.mem_append, List.mem_singleton]
            exact Or.comm
          have hbd : ∀ t ∈ L ++ [(x, id)], 0 ≤ t.1 ∧ t.1 ≤ 4398046511104 := fun t ht => by
            rcases List.mem_append.1 ht with ht | ht
            · have := fits_bounds (HM.out.2.mem_fits (show t ∈ ls.flatten by rw [← H3.out.2.2.2.2.1]; exact ht)) hn
              exact ⟨this.1, this.2.1⟩
            · rw [List.mem_singleton.1 ht]
              exact ⟨(fits_bounds hft hn).1, (fits_bounds hft hn).2.1⟩
          have HW : Hid (_ ∧ _ ∧ _) := ⟨he, hwo, hbd⟩
          clear he hwo hbd hno
          have hlt23 : w.heap.size + 1 < w2.heap.size := by
            have h1 := (Array.getElem?_eq_some_iff.1 H2.out.2.1).1
            exact h1
          have qA : (wr.alloc (.cells #[.int .i64 x, .int .i64 id] 45)).cell? ⟨w.heap.size, 0, none⟩ = some (.int .i64 now) := (World.cell?_of_block (a := ⟨w.heap.size, 0, none⟩) (Below.heap_alloc wr _ w.heap.size jlt3)).trans j0'
          have hQB : (wr.alloc (.cells #[.int .i64 x, .int .i64 id] 45)).heap[w.heap.size + 1]? = some (.cells #[.int .i64 0, .slice none 0 0] 24 (0, 0)) := heap_old _ _ H3.out.2.2.1
          have hff : ∀ k, k < w2.heap.size → some k ≠ (Value.slice up L.length uc).ownBlock := fun k hk e => by have := (H3.out.1.lt k e.symm).1; omega
          have hbA : Below w.heap.size w (wr.alloc (.cells #[.int .i64 x, .int .i64 id] 45)) := H3.out.2.1.alloc H3.out.2.1.size _
          have HC : Hid (∀ (g' cap : Nat) (w4 : World), w4.ownsRow w2.heap.size 45 2 (.slice (some ⟨g', 0, none⟩) (L.length + 1) cap) (L.length + 1) (tcells L ++ tcells [(x, id)]) → Calls Tryd.prog 22 #[.int .i64 now, .slice (some ⟨g', 0, none⟩) (L.length + 1) cap] w4 fun r w' => ∃ p' c', r = .returned (.agg #[.int .i64 now, .slice p' 25 c']) ∧ OwnW w' w4.heap.size p' c' (addT ls now (x, id)) ∧ Below w4.heap.size w4 w') := fun g' cap w4 ho => by
            rw [← tcells_append] at ho
            have hT : TmAt w4 (.slice (some ⟨g', 0, none⟩) (L.length + 1) cap) (L ++ [(x, id)]) := by
              unfold TmAt
              rw [List.length_append]
              exact rowAt_own ho
            refine (wheelOf_any now _ (L ++ [(x, id)]) w4 hT hn (by omega) HW.out.2.2 (by rw [List.length_append]; simp; omega)).mono ?_
            rintro r w' ⟨y, vs, rfl, hO, hb⟩
            rw [HW.out.2.1] at hO
            obtain ⟨p', c', rfl⟩ := own_len hO (n := 25) (HM.out.add hft (fun t ht => by
              have h5 := HW.out.1
              rw [HE.out] at h5
              unfold armOut at h5
              rw [if_pos HM.out, if_pos hft] at h5
              by_cases hfr : ∀ t ∈ ls.flatten, t.2 ≠ id
              · exact hfr t ht
              · rw [if_neg hfr] at h5; cases h5)).2.len
            exact ⟨p', c', rfl, ⟨vs, hO⟩, hb⟩
          go_wp2_with fail
          go_region_held3 (fun W => W.cell? ⟨w.heap.size, 0, none⟩ = some (.int .i64 now)) (first | exact j0' | exact qA | exact q4 | exact r4 | exact cell_other (cell_other r4 (by simp)) (by simp)) (first | ((refine step_append_lies _ (by rfl) _ _ 38 (by rfl) w2.heap.size 45 i0 _ 2 16 Tryd.underlying38 hi hz0 hz1 hz2 rfl (by decide) (.slice up L.length uc) L.length (tcells L) (by rfl) ((H3.out.1.alloc _).drew) ⟨wr.heap.size, 0, none⟩ 1 1 (tcells [(x, id)]) (by rfl) rfl (fun j u hu => news_at wr _ _ j u hu) (tcells_one _) (by decide) (by unfold maxLen; omega) (by omega) (by show w2.heap.size ≤ _; simp; omega) _ rfl ?_; intro g' cap w4 hown4 hg4 hlies hlt4; have q4 := hg4.cell (a := ⟨w.heap.size, 0, none⟩) qA (hff _ (by show w.heap.size < _; omega)); have hQ4 := (hg4.block (w.heap.size + 1) (by show w.heap.size + 1 < (wr.alloc _).heap.size; simp; omega) (hff _ hlt23)).trans hQB)) | (go_at_call 22; refine (HC.out g' cap w4 hown4).mono ?_; rintro r w5 ⟨p', c', rfl, hO5, hb5⟩; have r4 := (hb5.cell (p := ⟨w.heap.size, 0, none⟩) (World.block_lt_of_cell? w4 ⟨w.heap.size, 0, none⟩ q4)).trans q4; have hQ5 := (hb5.block (w.heap.size + 1) (Array.getElem?_eq_some_iff.1 hQ4).1).trans hQ4; obtain ⟨z0, z1, zf0, zf1, zlt⟩ := two_cells hQ5))
          go_wp2
          obtain ⟨g0, g1⟩ := two_set_cells (c := .int .i64 now) (d := .slice p' 25 c') hQ5
          refine bodyPost_ret (v := .tuple #[.agg #[.int .i64 now, .slice p' 25 c'], .int .i64 0]) (by simp [results, Tryd.results8, go_sem, g0, g1]) rfl ?_
          rw [HW.out.1]
          have hb4 : Below w.heap.size w w4 := hbA.drew.grown hg4 hbA.size (fun k hk => by have := (H3.out.1.lt k hk).1; omega)
          have hb45 := hb4.trans (hb5.mono hb4.size)
          exact ⟨_, rfl, ⟨_, rfl, (hO5.set2 (g := w.heap.size + 1) (Array.getElem?_eq_some_iff.1 hQ4).1 _ _).at⟩, (hb45.setCell (p := ⟨w.heap.size + 1, 0, none⟩) (by simp) _).setCell (p := ⟨w.heap.size + 1, 1, none⟩) (by simp) _⟩
end Go.Proofs.YtdfjobghgbcjpaaDoor.Walks
