/-
  The document's Advance, walked. The wheel can be read, and holds at most 1048576 timers.
-/
import Derived.Test.YtdfjobghgbcjpaaDoorRefAdv
import Derived.WalkKit
import Derived.ProofKit
import Derived.Handy
import Derived.LoopTactic
import Derived.Below
import Derived.Laws.BitsAllLaws
import Derived.RegionTactic
import Derived.Deep.RegionHeld3
import Derived.Deep.DrawnRows
import Derived.Deep.AppendLies
import Derived.Laws.OwnMore
import Derived.Deep.Onto
import Derived.Deep.QuietTactic
import Derived.BigQuiet
namespace Go.Proofs.YtdfjobghgbcjpaaDoor.Walks
open Go.RowKit
set_option linter.unusedVariables false
set_option linter.unusedSimpArgs false
attribute [local go_sem ↓] Go.wp_at_zero Go.wp_at_succ
open Classical

theorem left_snoc (L : List Tm) (t : Tm) (x : Int) : leftL (L ++ [t]) x = leftL L x ++ if x < t.1 then [t] else [] := by
  unfold leftL
  rw [List.filter_append]
  by_cases h : x < t.1 <;> simp [h]
theorem left_len (L : List Tm) (x : Int) : (leftL L x).length ≤ L.length := List.length_filter_le _ _

def hitL (L : List Tm) (x : Int) (j : Nat) : List Tm := L.filter fun t => decide (t.2 = (j : Int)) && decide (t.1 = x)
theorem hit_snoc (L : List Tm) (t : Tm) (x : Int) (j : Nat) : hitL (L ++ [t]) x j = hitL L x j ++ if t.2 = (j : Int) ∧ t.1 = x then [t] else [] := by
  unfold hitL
  rw [List.filter_append]
  by_cases h : t.2 = (j : Int) <;> by_cases h' : t.1 = x <;> simp [h, h']
theorem hit_len (L : List Tm) (x : Int) (j : Nat) : (hitL L x j).length ≤ L.length := List.length_filter_le _ _

set_option maxHeartbeats 8000000 in
set_option maxRecDepth 100000 in
theorem refAdv_any (v : Value) (now : Int) (ls : List (List Tm)) (w : World) (hx : LsAt w v ls) (htot : ls.flatten.length ≤ 1048576) :
    Calls Tryd.prog 13 #[.agg #[.int .i64 now, v]] w fun r w' => ∃ y p c, r = .returned (.tuple #[y, .slice p (advOut now ls).2.2.2.length c, .int .i64 (advOut now ls).1]) ∧ WhAt w' y (advOut now ls).2.1 (advOut now ls).2.2.1 ∧ RowAt w' (.slice p (advOut now ls).2.2.2.length c) (advOut now ls).2.2.2.length (icells (advOut now ls).2.2.2) ∧ Below w.heap.size w w' := by
  obtain ⟨a, ca, rfl, _⟩ := hx.parts
  obtain ⟨i0, hi, hz0, hz1, hz2⟩ := info_parts infoTm
  obtain ⟨i1, hj, hy0, hy1, hy2⟩ := info_parts infoInt
  have HX : Hid (_ ∧ _) := ⟨hx, htot⟩
  obtain ⟨e, he⟩ : ∃ e, e = advOut now ls := ⟨_, rfl⟩
  rw [← he]
  have HE : Hid _ := he
  clear hx htot he
  go_enter Tryd.func13, Tryd.ntmps13
  go_wp2_with fail
  have hb0 := below_boxes (w := w) (.cells #[.int .i64 now, .slice a ls.length ca] 24) (.cells #[.int .i64 0, .slice none 0 0] 24)
  refine (wheelMay_any _ now ls _ (HX.out.1.below hb0) HX.out.2).mono ?_
  rintro r w1 ⟨b, rfl, hbm, hb1⟩
  have hbw1 := hb0.trans (hb1.mono hb0.size)
  have hR0 : w1.heap[w.heap.size]? = some (.cells #[.int .i64 now, .slice a ls.length ca] 24 (0, 0)) := (hb1.block _ (by simp; omega)).trans (heap_old _ _ (heap_alloc_new _ _))
  have hR1 : w1.heap[w.heap.size + 1]? = some (.cells #[.int .i64 0, .slice none 0 0] 24 (0, 0)) := (hb1.block _ (by simp)).trans (heap_second _ _ _)
  obtain ⟨c0, c1, _, _, clt⟩ := two_cells hR0
  obtain ⟨d0, d1, df0, df1, dlt⟩ := two_cells hR1
  have H1 : Hid (_ ∧ _ ∧ _ ∧ _) := ⟨hbm, hbw1, hR0, hR1⟩
  clear hb0 hbm hb1 hbw1 hR0 hR1
  cases b
  · have hno : ¬ May now ls := fun h => by have := H1.out.1.2 h; cases this
    have he : e = (6, 0, [], []) := by rw [HE.out]; unfold advOut; rw [if_neg hno]
    go_wp2
    obtain ⟨g0, g1⟩ := two_set_cells (c := .int .i64 0) (d := .slice none 0 0) H1.out.2.2.2
    refine bodyPost_ret (v := .tuple #[.agg #[.int .i64 0, .slice none 0 0], .slice none 0 0, .int .i64 6]) (by simp [results, Tryd.results13, go_sem, g0, g1]) rfl ?_
    rw [he]
    exact ⟨_, none, 0, rfl, zeroWheel_at _, rowAt_nil _, (H1.out.2.1.setCell (p := ⟨w.heap.size + 1, 0, none⟩) (by simp) _).setCell (p := ⟨w.heap.size + 1, 1, none⟩) (by simp) _⟩
  · have hm : May now ls := H1.out.1.1 rfl
    obtain ⟨hn, hn2⟩ := hm.1
    have HM : Hid (May now ls) := hm
    clear hm
    by_cases hfull : now = 1099511627776
    · have he : e = (9, 0, [], []) := by rw [HE.out]; unfold advOut; rw [if_pos HM.out, if_pos hfull]
      subst hfull
      go_wp2
      obtain ⟨g0, g1⟩ := two_set_cells (c := .int .i64 0) (d := .slice none 0 0) H1.out.2.2.2
      refine bodyPost_ret (v := .tuple #[.agg #[.int .i64 0, .slice none 0 0], .slice none 0 0, .int .i64 9]) (by simp [results, Tryd.results13, go_sem, g0, g1]) rfl ?_
      rw [he]
      exact ⟨_, none, 0, rfl, zeroWheel_at _, rowAt_nil _, (H1.out.2.1.setCell (p := ⟨w.heap.size + 1, 0, none⟩) (by simp) _).setCell (p := ⟨w.heap.size + 1, 1, none⟩) (by simp) _⟩
    · have he : e = (0, now + 1, wheelOf (now + 1) (leftL ls.flatten (now + 1)), (wantL ls.flatten (now + 1) 200).map (·.2)) := by rw [HE.out]; unfold advOut; rw [if_pos HM.out, if_neg hfull]
      have hne : (now == 1099511627776) = false := by simpa using hfull
      have hlt9 : now < 1099511627776 := by omega
      have HE2 : Hid _ := he
      clear he hfull
      go_wp2_with fail
      refine (timersOf_any _ now ls _ (HX.out.1.below H1.out.2.1) HX.out.2).mono ?_
      rintro r w3 ⟨u, rfl, hown, hb3⟩
      obtain ⟨up, uc, rfl⟩ := own_form hown
      obtain ⟨L, hL⟩ : ∃ L, L = ls.flatten := ⟨_, rfl⟩
      rw [← hL] at hown ⊢
      have hLl : L.length ≤ 200 := by rw [hL]; exact HM.out.2.total
      have hLn : (L.map (·.2)).Nodup := by rw [hL]; exact HM.out.2.ids
      obtain ⟨q0, uc', heq, huc, hum, pu⟩ := TmAt.parts (l := L) (rowAt_own hown)
      obtain ⟨rfl, _, rfl⟩ : up = q0 ∧ True ∧ uc = uc' := by cases heq; exact ⟨rfl, trivial, rfl⟩
      unfold maxLen at hum
      have hR3 := (hb3.block _ dlt).trans H1.out.2.2.2
      have hQ3 := (hb3.block _ clt).trans H1.out.2.2.1
      have hbw3 := H1.out.2.1.trans (hb3.mono H1.out.2.1.size)
      have hLb : ∀ t ∈ L, 0 ≤ t.1 ∧ t.1 ≤ 4398046511104 := fun t ht => by
        have := fits_bounds (HM.out.2.mem_fits (show t ∈ ls.flatten by rw [← hL]; exact ht)) hn
        exact ⟨this.1, this.2.1⟩
      have H3 : Hid (_ ∧ _ ∧ _ ∧ _ ∧ _ ∧ _ ∧ _ ∧ _) := ⟨hown, hbw3, hR3, hQ3, hL, pu, hLn, hLb⟩
      clear hown hbw3 hR3 hQ3 hL pu hb3 heq c0 c1 d0 d1 df0 df1 hLn hLb
      go_wp2
      go_loopw [7, 8] (fun x t wr => ∃ k : Nat, t = .int .i64 k ∧ k ≤ 200 ∧ wr.ownsRow w3.heap.size 3 1 x (wantL L (now + 1) k).length (idCells (wantL L (now + 1) k)) ∧ Below w3.heap.size w3 wr) (fun _ t _ => 200 - (intOf t).toNat)
      case atStart => exact ⟨0, rfl, Nat.zero_le _, World.ownsRow_nil _ _ _ _, Below.refl _ _⟩
      case round =>
        obtain ⟨k, rfl, hk, hrow, hbk⟩ := hrel
        obtain ⟨x7, hx7⟩ : ∃ x7, x7 = u7 := ⟨_, rfl⟩
        rw [← hx7] at hrow ⊢
        clear hx7
        by_cases hk2 : k < 200
        · have hkI : (k : Int) < 200 := by omega
          have hkd : decide ((k : Int) < 200) = true := decide_eq_true hkI
          have hsn : wantL L (now + 1) (k + 1) = wantL L (now + 1) k ++ hitL L (now + 1) k := wantL_snoc L (now + 1) k
          have hwl := wantL_len (x := now + 1) H3.out.2.2.2.2.2.2.1 hk
          have HK : Hid (_ ∧ _ ∧ _) := ⟨hrow, hbk, hsn⟩
          clear hrow hbk hsn
          go_wp2
          go_loopw [7, 9] (fun x t wr => ∃ i : Nat, t = .int .i64 i ∧ i ≤ L.length ∧ wr.ownsRow w3.heap.size 3 1 x (wantL L (now + 1) k ++ hitL (L.take i) (now + 1) k).length (idCells (wantL L (now + 1) k ++ hitL (L.take i) (now + 1) k)) ∧ Below w3.heap.size w3 wr) (fun _ t _ => L.length - (intOf t).toNat)
          case atStart => exact ⟨0, rfl, Nat.zero_le _, by simpa [hitL] using HK.out.1, HK.out.2.1⟩
          case round =>
            obtain ⟨i, rfl, hil, hri, hbi⟩ := hrel
            by_cases hlt : i < L.length
            · obtain ⟨b0, off, rfl, hb0, p1, p2⟩ := H3.out.2.2.2.2.2.1 i hlt
              have e1 := (hbi.cell (p := ⟨b0, off + i * 2, none⟩) hb0).trans p1
              have e2 := (hbi.cell (p := ⟨b0, off + i * 2 + 1, none⟩) hb0).trans p2
              have hQ := (hbi.block _ (Array.getElem?_eq_some_iff.1 H3.out.2.2.2.1).1).trans H3.out.2.2.2.1
              obtain ⟨f0, f1, _, _, flt⟩ := two_cells hQ
              obtain ⟨ta, hta⟩ : ∃ ta, L[i].1 = ta := ⟨_, rfl⟩
              obtain ⟨td, htd⟩ : ∃ td, L[i].2 = td := ⟨_, rfl⟩
              have hLi : L[i] = (ta, td) := Prod.ext hta htd
              rw [hta] at e1
              rw [htd] at e2
              have hhs := hit_snoc (L.take i) (ta, td) (now + 1) k
              rw [← hLi, ← List.take_succ_eq_append_getElem hlt, hLi] at hhs
              have hhl := hit_len (L.take i) (now + 1) k
              rw [List.length_take] at hhl
              have hiI : (i : Int) < (L.length : Int) := by omega
              have hid : decide ((i : Int) < (L.length : Int)) = true := decide_eq_true hiI
              have hbs := hbi.size
              have hql : (wantL L (now + 1) k ++ hitL (L.take i) (now + 1) k).length ≤ 400 := by rw [List.length_append]; omega
              have hcat : wantL L (now + 1) k ++ hitL (L.take (i + 1)) (now + 1) k = (wantL L (now + 1) k ++ hitL (L.take i) (now + 1) k) ++ (if td = (k : Int) ∧ ta = now + 1 then [(ta, td)] else []) := by rw [hhs, List.append_assoc]
              generalize wantL L (now + 1) k ++ hitL (L.take i) (now + 1) k = Q at *
              clear hta htd hLi p1 p2 hhs hhl hQ
              by_cases hd1 : td = (k : Int)
              · by_cases hd2 : ta = now + 1
                · rw [if_pos ⟨hd1, hd2⟩] at hcat
                  subst hd1
                  subst hd2
                  have HI : Hid (_ ∧ _ ∧ _) := ⟨hri, hbi, hcat⟩
                  clear hri hbi hcat
                  go_wp2_with fail
                  go_region
                  go_wp2_with (first | (at_builtin; refine wpList_append_lies _ rfl _ _ 33 rfl w3.heap.size 3 i1 _ 1 8 Tryd.underlying33 hj hy0 hy1 hy2 rfl (by decide) u7 _ _ rfl ((HI.out.1.drew).alloc _) _ 1 1 [.int .i64 (k : Int)] rfl rfl (news_at _ _ _) (by intro y hy; rw [List.mem_singleton.1 hy]; rfl) (by decide) (by unfold maxLen; omega) (by omega) (by simp; omega) _ rfl ?_; intro g' cap w4 hown4 hg4 hlies hlt4))
                  go_wp2
                  go_roundw
                  case rel =>
                    refine ⟨i + 1, by simp, hlt, ?_, ?_⟩
                    · rw [HI.out.2.2, List.length_append]
                      have hids : idCells (Q ++ [(now + 1, (k : Int))]) = idCells Q ++ [.int .i64 (k : Int)] := by simp [idCells]
                      rw [hids]
                      exact hown4
                    · have h1 := HI.out.2.1.drew.alloc HI.out.2.1.size (.cells #[.int .i64 (k : Int)] 3)
                      exact h1.grown hg4 h1.size (fun j e => (HI.out.1.lt j e).1)
                  case measure => simp [intOf]; omega
                · rw [if_neg (fun h => hd2 h.2), List.append_nil] at hcat
                  subst hd1
                  have hne2 : (ta == now + 1) = false := by simpa using hd2
                  have HI : Hid (_ ∧ _ ∧ _) := ⟨hri, hbi, hcat⟩
                  clear hri hbi hcat hd2
                  go_wp2_with fail
                  go_region
                  go_wp2
                  go_roundw
                  case rel => exact ⟨i + 1, by simp, hlt, by rw [HI.out.2.2]; exact HI.out.1.drew, HI.out.2.1.drew⟩
                  case measure => simp [intOf]; omega
              · rw [if_neg (fun h => hd1 h.1), List.append_nil] at hcat
                have hne2 : (td == (k : Int)) = false := by simpa using hd1
                have HI : Hid (_ ∧ _ ∧ _) := ⟨hri, hbi, hcat⟩
                clear hri hbi hcat hd1
                go_wp2_with fail
                go_region
                go_wp2
                go_roundw
                case rel => exact ⟨i + 1, by simp, hlt, by rw [HI.out.2.2]; exact HI.out.1.drew, HI.out.2.1.drew⟩
                case measure => simp [intOf]; omega
            · obtain rfl : i = L.length := by omega
              rw [List.take_length, ← HK.out.2.2] at hri
              have HI : Hid (_ ∧ _) := ⟨hri, hbi⟩
              clear hri hbi
              go_wp2
              go_roundw
              case rel => exact ⟨k + 1, by simp, hk2, HI.out.1, HI.out.2⟩
              case measure => simp [intOf]; omega
        · have hke : k = 200 := by omega
          rw [hke] at hrow
          have hkI : (200 : Int) ≤ (k : Int) := by omega
          clear hke hk hk2
          obtain ⟨qp, qc, hqe⟩ := own_form hrow
          subst hqe
          have hlw := wantL_len (x := now + 1) H3.out.2.2.2.2.2.2.1 (Nat.le_refl 200)
          obtain ⟨w4, hw4⟩ : ∃ w4, w4 = wr := ⟨_, rfl⟩
          subst hw4
          have HK : Hid (_ ∧ _) := ⟨hrow, hbk⟩
          clear hrow hbk
          go_wp2
          go_loopw [6, 10] (fun x t wr => ∃ i : Nat, t = .int .i64 i ∧ i ≤ L.length ∧ wr.ownsRow w4.heap.size 45 2 x (leftL (L.take i) (now + 1)).length (tcells (leftL (L.take i) (now + 1))) ∧ Below w4.heap.size w4 wr) (fun _ t _ => L.length - (intOf t).toNat)
          case atStart => exact ⟨0, rfl, Nat.zero_le _, World.ownsRow_nil _ _ _ _, Below.refl _ _⟩
          case round =>
            obtain ⟨i, rfl, hil, hri, hbi⟩ := hrel
            have hb3i := HK.out.2.trans (hbi.mono HK.out.2.size)
            have hQ := (hb3i.block _ (Array.getElem?_eq_some_iff.1 H3.out.2.2.2.1).1).trans H3.out.2.2.2.1
            obtain ⟨f0, f1, _, _, flt⟩ := two_cells hQ
            by_cases hlt : i < L.length
            · obtain ⟨b0, off, rfl, hb0, p1, p2⟩ := H3.out.2.2.2.2.2.1 i hlt
              have e1 := (hb3i.cell (p := ⟨b0, off + i * 2, none⟩) hb0).trans p1
              have e2 := (hb3i.cell (p := ⟨b0, off + i * 2 + 1, none⟩) hb0).trans p2
              obtain ⟨ta, hta⟩ : ∃ ta, L[i].1 = ta := ⟨_, rfl⟩
              obtain ⟨td, htd⟩ : ∃ td, L[i].2 = td := ⟨_, rfl⟩
              have hLi : L[i] = (ta, td) := Prod.ext hta htd
              rw [hta] at e1
              rw [htd] at e2
              have hhs := left_snoc (L.take i) (ta, td) (now + 1)
              rw [← hLi, ← List.take_succ_eq_append_getElem hlt, hLi] at hhs
              have hhl := left_len (L.take i) (now + 1)
              rw [List.length_take] at hhl
              have hiI : (i : Int) < (L.length : Int) := by omega
              have hid : decide ((i : Int) < (L.length : Int)) = true := decide_eq_true hiI
              have hbs := hbi.size
              generalize leftL (L.take i) (now + 1) = Q at *
              clear hta htd hLi p1 p2 hQ hb3i
              by_cases hd : now + 1 < ta
              · rw [if_pos hd] at hhs
                have hdd : decide (now + 1 < ta) = true := decide_eq_true hd
                have HI : Hid (_ ∧ _ ∧ _) := ⟨hri, hbi, hhs⟩
                clear hri hbi hhs
                go_wp2_with fail
                go_region
                go_wp2_with (first | (at_builtin; refine wpList_append_lies _ rfl _ _ 38 rfl w4.heap.size 45 i0 _ 2 16 Tryd.underlying38 hi hz0 hz1 hz2 rfl (by decide) u6 _ _ rfl ((HI.out.1.drew).alloc _) _ 1 1 (tcells [(ta, td)]) rfl rfl (news_at _ _ _) (tcells_one _) (by decide) (by unfold maxLen; omega) (by omega) (by simp; omega) _ rfl ?_; intro g' cap w5 hown5 hg5 hlies hlt5))
                go_wp2
                go_roundw
                case rel =>
                  refine ⟨i + 1, by simp, hlt, ?_, ?_⟩
                  · rw [HI.out.2.2, tcells_append, List.length_append]
                    exact hown5
                  · have h1 := HI.out.2.1.drew.alloc HI.out.2.1.size (.cells #[.int .i64 ta, .int .i64 td] 45)
                    exact h1.grown hg5 h1.size (fun j e => (HI.out.1.lt j e).1)
                case measure => simp [intOf]; omega
              · rw [if_neg hd, List.append_nil] at hhs
                have hd' : ta ≤ now + 1 := by omega
                have hdd : decide (now + 1 < ta) = false := decide_eq_false hd
                have HI : Hid (_ ∧ _ ∧ _) := ⟨hri, hbi, hhs⟩
                clear hri hbi hhs hd
                go_wp2_with fail
                go_region
                go_wp2
                go_roundw
                case rel => exact ⟨i + 1, by simp, hlt, by rw [HI.out.2.2]; exact HI.out.1.drew, HI.out.2.1.drew⟩
                case measure => simp [intOf]; omega
            · obtain rfl : i = L.length := by omega
              rw [List.take_length] at hri
              obtain ⟨rp, rc, hre⟩ := own_form hri
              obtain ⟨x6, hx6⟩ : ∃ x6, x6 = u6 := ⟨_, rfl⟩
              rw [← hx6] at hri hre ⊢
              clear hx6
              subst hre
              have hll := left_len L (now + 1)
              have hR := (hb3i.block _ (Array.getElem?_eq_some_iff.1 H3.out.2.2.1).1).trans H3.out.2.2.1
              obtain ⟨d0, d1, df0, df1, dlt5⟩ := two_cells hR
              have hbw5 := H3.out.2.1.trans (hb3i.mono H3.out.2.1.size)
              have hTm : TmAt wr (.slice rp (leftL L (now + 1)).length rc) (leftL L (now + 1)) := rowAt_own hri
              have hoffr := own_block HK.out.1 (fun g hg => hbi.block g (HK.out.1.lt g hg).2)
              have hbd : ∀ t ∈ leftL L (now + 1), 0 ≤ t.1 ∧ t.1 ≤ 4398046511104 := fun t ht => H3.out.2.2.2.2.2.2.2 t (by unfold leftL at ht; exact (List.mem_filter.1 ht).1)
              have HI : Hid (_ ∧ _ ∧ _ ∧ _) := ⟨hTm, hR, hbw5, hoffr⟩
              clear hri hbi hb3i hQ hR hbw5 hTm hoffr
              go_wp2_with fail
              refine (wheelOf_any (now + 1) _ (leftL L (now + 1)) _ HI.out.1 (by omega) (by omega) hbd (by omega)).mono ?_
              rintro r w6 ⟨y, vs, rfl, hO6, hb6⟩
              obtain ⟨yp, yc, rfl⟩ := own_form hO6.row
              have hR6 := (hb6.block _ dlt5).trans HI.out.2.1
              obtain ⟨z0, z1, zf0, zf1, zlt⟩ := two_cells hR6
              have H6 : Hid (_ ∧ _ ∧ _ ∧ _) := ⟨hO6, hR6, HI.out.2.2.1.trans (hb6.mono HI.out.2.2.1.size), hb6⟩
              clear hO6 hR6 hb6
              go_wp2
              obtain ⟨g0, g1⟩ := two_set_cells (c := .int .i64 (now + 1)) (d := .slice yp (wheelOf (now + 1) (leftL L (now + 1))).length yc) H6.out.2.1
              refine bodyPost_ret (v := .tuple #[.agg #[.int .i64 (now + 1), .slice yp (wheelOf (now + 1) (leftL L (now + 1))).length yc], .slice qp (wantL L (now + 1) 200).length qc, .int .i64 0]) (by simp [results, Tryd.results13, go_sem, g0, g1]) rfl ?_
              rw [HE2.out, ← H3.out.2.2.2.2.1]
              have hs13 : w.heap.size + 1 < w3.heap.size := (Array.getElem?_eq_some_iff.1 H3.out.2.2.1).1
              have hoff := own_block (own_block HI.out.2.2.2 (fun g hg => H6.out.2.2.2.block g (HI.out.2.2.2.lt g hg).2)) (w' := (w6.setCell ⟨w.heap.size + 1, 0, none⟩ (.int .i64 (now + 1))).setCell ⟨w.heap.size + 1, 1, none⟩ (.slice yp (wheelOf (now + 1) (leftL L (now + 1))).length yc)) (fun g hg => by
                have h1 := (HI.out.2.2.2.lt g hg).1
                rw [Below.heap_setCell _ _ _ _ (by simp; omega), Below.heap_setCell _ _ _ _ (by simp; omega)])
              have hrow := rowAt_own hoff
              rw [idCells_is] at hrow
              refine ⟨_, qp, qc, by rw [List.length_map], ⟨_, rfl, (H6.out.1.set2 (g := w.heap.size + 1) dlt5 _ _).at⟩, ?_, (H6.out.2.2.1.setCell (p := ⟨w.heap.size + 1, 0, none⟩) (by simp) _).setCell (p := ⟨w.heap.size + 1, 1, none⟩) (by simp) _⟩
              rw [List.length_map]
              exact hrow
end Go.Proofs.YtdfjobghgbcjpaaDoor.Walks
