/-
  The document's list of a wheel's timers, and whether a wheel may be. The wheel can be read, and holds at most 1048576 timers.
-/
import Derived.Test.YtdfjobghgbcjpaaDoorRefP
import Derived.WalkKit
import Derived.ProofKit
import Derived.Handy
import Derived.LoopTactic
import Derived.Below
import Derived.Laws.BitsAllLaws
import Derived.RegionTactic
import Derived.Deep.RegionHeld3
import Derived.Deep.DrawnRows
import Derived.Deep.AppendLies
import Derived.Laws.OwnMore
import Derived.Deep.Onto
import Derived.Deep.QuietTactic
import Derived.BigQuiet
namespace Go.Proofs.YtdfjobghgbcjpaaDoor.Walks
open Go.RowKit
set_option linter.unusedVariables false
set_option linter.unusedSimpArgs false
attribute [local go_sem ↓] Go.wp_at_zero Go.wp_at_succ

set_option maxHeartbeats 4000000 in
set_option maxRecDepth 100000 in
theorem timersOf_any (v : Value) (now : Int) (ls : List (List Tm)) (w : World) (hx : LsAt w v ls) (htot : ls.flatten.length ≤ 1048576) :
    Calls Tryd.prog 21 #[.agg #[.int .i64 now, v]] w fun r w' => ∃ u, r = .returned u ∧ w'.ownsRow w.heap.size 45 2 u ls.flatten.length (tcells ls.flatten) ∧ Below w.heap.size w w' := by
  obtain ⟨i0, hi, hz0, hz1, hz2⟩ := info_parts infoTm
  obtain ⟨a, ca, rfl, hca, hma, pa⟩ := hx.parts
  unfold maxLen at hma
  have HP : Hid _ := pa
  clear pa hx
  go_enter Tryd.func21, Tryd.ntmps21
  go_wp2
  obtain ⟨W0, hW0⟩ : ∃ W0, W0 = w.alloc (.cells #[.int .i64 now, .slice a ls.length ca] 24) := ⟨_, rfl⟩
  have hb0 : Below w.heap.size w W0 := by rw [hW0]; exact (Below.refl _ _).alloc (Nat.le_refl _) _
  have hX0 : W0.heap[w.heap.size]? = some (.cells #[.int .i64 now, .slice a ls.length ca] 24 (0, 0)) := by rw [hW0]; exact heap_alloc_new _ _
  have hs0 : W0.heap.size = w.heap.size + 1 := by rw [hW0]; simp
  rw [← hW0]
  have H0 : Hid (_ ∧ _) := ⟨hb0, hX0⟩
  clear hb0 hX0 hW0
  go_loopw [3, 4] (fun x t wr => ∃ i : Nat, t = .int .i64 i ∧ i ≤ ls.length ∧ wr.ownsRow W0.heap.size 45 2 x (ls.take i).flatten.length (tcells (ls.take i).flatten) ∧ Below W0.heap.size W0 wr) (fun _ t _ => ls.length - (intOf t).toNat)
  case atStart => exact ⟨0, rfl, Nat.zero_le _, World.ownsRow_nil _ _ _ _, Below.refl _ _⟩
  case round =>
    obtain ⟨i, rfl, hil, hrow, hbi⟩ := hrel
    obtain ⟨w7, hw7⟩ : ∃ w7, w7 = wr := ⟨_, rfl⟩
    subst hw7
    obtain ⟨x3, hx3⟩ : ∃ x3, x3 = u3 := ⟨_, rfl⟩
    subst hx3
    obtain ⟨f0, f1, _, _, flt⟩ := two_cells ((hbi.block _ (Array.getElem?_eq_some_iff.1 H0.out.2).1).trans H0.out.2)
    by_cases hlt : i < ls.length
    · obtain ⟨b0, off, u, rfl, hb0, cu, hu⟩ := HP.out i hlt
      obtain ⟨L, hLe⟩ : ∃ L, L = ls[i] := ⟨_, rfl⟩
      have hLi : ls[i]? = some L := by rw [hLe]; exact List.getElem?_eq_getElem _
      rw [← hLe] at hu
      obtain ⟨ul, uc, rfl, huc, hum, pu⟩ := hu.parts
      unfold maxLen at hum
      have hb0w := hb0
      have g1 : w7.cell? ⟨b0, off + i, none⟩ = some (.slice ul L.length uc) := ((H0.out.1.trans (hbi.mono H0.out.1.size)).cell (p := ⟨b0, off + i, none⟩) hb0).trans cu
      have hid : decide ((i : Int) < (ls.length : Int)) = true := decide_eq_true (by omega)
      have hiI : (i : Int) < (ls.length : Int) := by omega
      have htl : (ls.take (i + 1)).flatten.length ≤ ls.flatten.length := by
        have := congrArg List.length (congrArg List.flatten (List.take_append_drop (i + 1) ls))
        rw [List.flatten_append, List.length_append] at this
        omega
      have htk : (ls.take (i + 1)).flatten = (ls.take i).flatten ++ L := by
        rw [List.take_succ_eq_append_getElem hlt, List.flatten_append, ← hLe]
        simp
      rw [htk, List.length_append] at htl
      have HI : Hid (_ ∧ _ ∧ _ ∧ _) := ⟨hbi, hrow, pu, htk⟩
      clear hbi hrow pu hLi hLe hu cu htk hb0
      go_wp2
      go_loopw [3, 5] (fun x t wr => ∃ k : Nat, t = .int .i64 k ∧ k ≤ L.length ∧ wr.ownsRow W0.heap.size 45 2 x ((ls.take i).flatten ++ L.take k).length (tcells ((ls.take i).flatten ++ L.take k)) ∧ Below W0.heap.size W0 wr) (fun _ t _ => L.length - (intOf t).toNat)
      case atStart => exact ⟨0, rfl, Nat.zero_le _, by simpa using HI.out.2.1, HI.out.1⟩
      case round =>
        obtain ⟨k, rfl, hk, hrk, hbk⟩ := hrel
        obtain ⟨h0, h1, _, _, hlt7⟩ := two_cells ((hbk.block _ (Array.getElem?_eq_some_iff.1 H0.out.2).1).trans H0.out.2)
        have g2 : wr.cell? ⟨b0, off + i, none⟩ = some (.slice ul L.length uc) := (hbk.cell (p := ⟨b0, off + i, none⟩) (by show b0 < W0.heap.size; omega)).trans ((HI.out.1.cell (p := ⟨b0, off + i, none⟩) (by show b0 < W0.heap.size; omega)).symm.trans g1)
        by_cases hkL : k < L.length
        · obtain ⟨bu, ou, rfl, hbu, p1, p2⟩ := HI.out.2.2.1 k hkL
          have hbwr := H0.out.1.trans (hbk.mono H0.out.1.size)
          have e1 := (hbwr.cell (p := ⟨bu, ou + k * 2, none⟩) hbu).trans p1
          have e2 := (hbwr.cell (p := ⟨bu, ou + k * 2 + 1, none⟩) hbu).trans p2
          obtain ⟨ta, hta⟩ : ∃ ta, L[k].1 = ta := ⟨_, rfl⟩
          obtain ⟨td, htd⟩ : ∃ td, L[k].2 = td := ⟨_, rfl⟩
          rw [hta] at e1
          rw [htd] at e2
          have hcell : (ls.take i).flatten ++ L.take (k + 1) = ((ls.take i).flatten ++ L.take k) ++ [(ta, td)] := by
            rw [List.take_succ_eq_append_getElem hkL, ← hta, ← htd, List.append_assoc]
          have hkd : decide ((k : Int) < (L.length : Int)) = true := decide_eq_true (by omega)
          have hkI : (k : Int) < (L.length : Int) := by omega
          have hpl : ((ls.take i).flatten ++ L.take k).length ≤ 1048576 := by rw [List.length_append, List.length_take]; omega
          generalize hQ : (ls.take i).flatten ++ L.take k = Q at *
          have hbks := hbk.size
          have HK : Hid (_ ∧ _ ∧ _ ∧ _) := ⟨hrk, hbk, hcell, hQ⟩
          clear hrk hbk hcell hta htd p1 p2 hbwr hQ
          go_wp2_with (first | (at_builtin; refine wpList_append_lies _ rfl _ _ 38 rfl W0.heap.size 45 i0 _ 2 16 Tryd.underlying38 hi hz0 hz1 hz2 rfl (by decide) u3 _ _ rfl (HK.out.1.alloc _) _ 1 1 (tcells [(ta, td)]) rfl rfl (news_at _ _ _) (tcells_one _) (by decide) (by unfold maxLen; omega) (by omega) (by simp; omega) _ rfl ?_; intro g' cap w2 hown2 hg2 hlies hlt2))
          go_wp2
          go_roundw
          case rel =>
            refine ⟨k + 1, by simp, hkL, ?_, ?_⟩
            · rw [HK.out.2.2.1, tcells_append, List.length_append]
              exact hown2
            · have h1 := HK.out.2.1.alloc HK.out.2.1.size (.cells #[.int .i64 ta, .int .i64 td] 45)
              exact h1.grown hg2 h1.size (fun j e => (HK.out.1.lt j e).1)
          case measure => simp [intOf]; omega
        · obtain rfl : k = L.length := by omega
          have HK : Hid (_ ∧ _) := ⟨hrk, hbk⟩
          clear hrk hbk
          go_wp2
          go_roundw
          case rel => exact ⟨i + 1, by simp, hlt, by rw [HI.out.2.2.2]; simpa using HK.out.1, HK.out.2⟩
          case measure => simp [intOf]; omega
    · obtain rfl : i = ls.length := by omega
      rw [List.take_length] at hrow
      have HK : Hid (_ ∧ _) := ⟨hrow, hbi⟩
      clear hrow hbi
      go_wp2
      go_ret
      exact ⟨_, rfl, HK.out.1.mono (by omega), H0.out.1.trans (HK.out.2.mono H0.out.1.size)⟩

theorem timerMay_b (x y n : Int) (w : World) (hn : 0 ≤ n) (hn2 : n ≤ 1099511627776) :
    Calls Tryd.prog 20 #[.agg #[.int .i64 x, .int .i64 y], .int .i64 n] w fun r w' => r = .returned (.bool (fitsT n (x, y))) ∧ Below w.heap.size w w' :=
  (timerMay_any x y n w hn hn2).mono fun r w' h => ⟨h.1, by rw [h.2]; exact (Below.refl _ _).alloc (Nat.le_refl _) _⟩

theorem held3t {w w' : World} {a1 a2 a3 : Addr} {v1 v2 v3 : Value} (h1 : w.cell? a1 = some v1) (h2 : w.cell? a2 = some v2) (h3 : w.cell? a3 = some v3) (hb : Below w.heap.size w w') : w'.cell? a1 = some v1 ∧ w'.cell? a2 = some v2 ∧ w'.cell? a3 = some v3 ∧ Below w.heap.size w w' :=
  ⟨(hb.cell (World.block_lt_of_cell? w _ h1)).trans h1, (hb.cell (World.block_lt_of_cell? w _ h2)).trans h2, (hb.cell (World.block_lt_of_cell? w _ h3)).trans h3, hb⟩

theorem nodup_snoc {l : List Tm} {t : Tm} (h : (l.map (·.2)).Nodup) (hn : ∀ x ∈ l, x.2 ≠ t.2) : ((l ++ [t]).map (·.2)).Nodup := by
  rw [List.map_append, List.nodup_append]
  refine ⟨h, by simp, fun a ha b hb e => ?_⟩
  obtain ⟨x, hx, rfl⟩ := List.mem_map.1 ha
  simp at hb
  exact hn x hx (by rw [e, hb])

set_option maxHeartbeats 8000000 in
set_option maxRecDepth 100000 in
theorem wheelMay_any (v : Value) (now : Int) (ls : List (List Tm)) (w : World) (hx : LsAt w v ls) (htot : ls.flatten.length ≤ 1048576) :
    Calls Tryd.prog 19 #[.agg #[.int .i64 now, v]] w fun r w' => ∃ b : Bool, r = .returned (.bool b) ∧ (b = true ↔ May now ls) ∧ Below w.heap.size w w' := by
  obtain ⟨a, ca, rfl, hca, hma, _⟩ := hx.parts
  unfold maxLen at hma
  by_cases ht : 0 ≤ now ∧ now ≤ 1099511627776
  · have htd : decide (0 ≤ now ∧ now ≤ 1099511627776) = true := decide_eq_true ht
    by_cases h25 : ls.length = 25
    · have HX : Hid (_ ∧ _ ∧ _) := ⟨hx, htot, h25⟩
      obtain ⟨hn, hn2⟩ := ht
      rw [h25] at hca ⊢
      have hx25 := hx
      rw [h25] at hx25
      have HX2 : Hid (LsAt w (.slice a 25 ca) ls) := hx25
      clear hx htot hx25 h25
      go_enter Tryd.func19, Tryd.ntmps19
      go_wp2_with fail
      refine (in_any _ _ _ _).mono ?_
      rw [htd]
      rintro r w1 ⟨rfl, hw1⟩
      obtain ⟨W0, hW0⟩ : ∃ W0, W0 = w.alloc (.cells #[.int .i64 now, .slice a 25 ca] 24) := ⟨_, rfl⟩
      rw [← hW0] at hw1
      subst hw1
      have hb0 : Below w.heap.size w w1 := by rw [hW0]; exact (Below.refl _ _).alloc (Nat.le_refl _) _
      have hX0 : w1.heap[w.heap.size]? = some (.cells #[.int .i64 now, .slice a 25 ca] 24 (0, 0)) := by rw [hW0]; exact heap_alloc_new _ _
      obtain ⟨f0, f1, _, _, flt⟩ := two_cells hX0
      have H0 : Hid (_ ∧ _) := ⟨hb0, hX0⟩
      clear hb0 hX0 hW0
      go_wp2_with fail
      refine (timersOf_any _ now ls _ (HX2.out.below H0.out.1) HX.out.2.1).mono ?_
      rintro r w2 ⟨u, rfl, hown, hb2⟩
      obtain ⟨up, uc, rfl⟩ := own_form hown
      have hX2 := (hb2.block _ (Array.getElem?_eq_some_iff.1 H0.out.2).1).trans H0.out.2
      have hbw2 := H0.out.1.trans (hb2.mono H0.out.1.size)
      obtain ⟨L, hL⟩ : ∃ L, L = ls.flatten := ⟨_, rfl⟩
      rw [← hL] at hown
      have hLl : L.length ≤ 1048576 := by rw [hL]; exact HX.out.2.1
      rw [← hL]
      obtain ⟨q0, uc', he, huc, hum, pu⟩ := TmAt.parts (l := L) (rowAt_own hown)
      obtain ⟨rfl, _, rfl⟩ : up = q0 ∧ True ∧ uc = uc' := by cases he; exact ⟨rfl, trivial, rfl⟩
      unfold maxLen at hum
      have H2 : Hid (_ ∧ _ ∧ _ ∧ _ ∧ _) := ⟨hown, hX2, hbw2, hL, pu⟩
      clear hown hX2 hbw2 hb2 hL pu f0 f1 he
      by_cases h200 : L.length ≤ 200
      · have h200I : (L.length : Int) ≤ 200 := by omega
        go_wp2
        go_loopw [4] (fun t wr => ∃ i : Nat, t = .int .i64 i ∧ i ≤ L.length ∧ (∀ t ∈ L.take i, fitsT now t = true) ∧ ((L.take i).map (·.2)).Nodup ∧ Below w2.heap.size w2 wr) (fun t _ => L.length - (intOf t).toNat)
        case atStart => exact ⟨0, rfl, Nat.zero_le _, by simp, by simp, Below.refl _ _⟩
        case round =>
          obtain ⟨i, rfl, hil, hfit, hnd, hbi⟩ := hrel
          obtain ⟨w7, hw7⟩ : ∃ w7, w7 = wr := ⟨_, rfl⟩
          subst hw7
          obtain ⟨h0, h1, _, _, hlt7⟩ := two_cells ((hbi.block _ (Array.getElem?_eq_some_iff.1 H2.out.2.1).1).trans H2.out.2.1)
          by_cases hlt : i < L.length
          · obtain ⟨b0, off, rfl, hb0, p1, p2⟩ := H2.out.2.2.2.2 i hlt
            have e1 := (hbi.cell (p := ⟨b0, off + i * 2, none⟩) hb0).trans p1
            have e2 := (hbi.cell (p := ⟨b0, off + i * 2 + 1, none⟩) hb0).trans p2
            obtain ⟨ta, hta⟩ : ∃ ta, L[i].1 = ta := ⟨_, rfl⟩
            obtain ⟨td, htd⟩ : ∃ td, L[i].2 = td := ⟨_, rfl⟩
            have hLi : L[i] = (ta, td) := Prod.ext hta htd
            rw [hta] at e1
            rw [htd] at e2
            have htk : L.take (i + 1) = L.take i ++ [(ta, td)] := by rw [List.take_succ_eq_append_getElem hlt, hLi]
            have hiI : (i : Int) < (L.length : Int) := by omega
            have hid : decide ((i : Int) < (L.length : Int)) = true := decide_eq_true hiI
            have HI : Hid (_ ∧ _ ∧ _ ∧ _ ∧ _) := ⟨hfit, hnd, hbi, hLi, htk⟩
            have hb0w : b0 < w7.heap.size := Nat.lt_of_lt_of_le hb0 hbi.size
            clear hfit hnd hbi hta htd hLi htk p1 p2
            cases hft : fitsT now (ta, td)
            · go_wp2_with fail
              go_region_held3 (fun W => W.cell? ⟨b0, off + i * 2, none⟩ = some (.int .i64 ta) ∧ W.cell? ⟨b0, off + i * 2 + 1, none⟩ = some (.int .i64 td) ∧ W.cell? ⟨w.heap.size, 0, none⟩ = some (.int .i64 now) ∧ Below w7.heap.size w7 W) (first | exact held3t e1 e2 h0 ((Below.refl _ _).drew) | exact held3t e1 e2 h0 (below_of_drew hb8)) (first | (go_at_call 20; refine (timerMay_b ta td now _ hn hn2).mono ?_; rw [hft]; rintro r w8 ⟨rfl, hb8⟩))
              go_wp2
              go_ret
              have hbw8 := H2.out.2.2.1.trans ((HI.out.2.2.1.trans ((below_of_drew hb8).mono HI.out.2.2.1.size)).mono H2.out.2.2.1.size)
              refine ⟨false, rfl, ⟨(fun h => by cases h), fun hm => ?_⟩, hbw8⟩
              have h3 : (ta, td) ∈ ls.flatten := by rw [← H2.out.2.2.2.1, ← HI.out.2.2.2.1]; exact List.getElem_mem hlt
              rw [hm.2.mem_fits h3] at hft
              cases hft
            · go_wp2_with fail
              go_region_held3 (fun W => W.cell? ⟨b0, off + i * 2, none⟩ = some (.int .i64 ta) ∧ W.cell? ⟨b0, off + i * 2 + 1, none⟩ = some (.int .i64 td) ∧ W.cell? ⟨w.heap.size, 0, none⟩ = some (.int .i64 now) ∧ Below w7.heap.size w7 W) (first | exact held3t e1 e2 h0 ((Below.refl _ _).drew) | exact held3t e1 e2 h0 (below_of_drew hb8)) (first | (go_at_call 20; refine (timerMay_b ta td now _ hn hn2).mono ?_; rw [hft]; rintro r w8 ⟨rfl, hb8⟩))
              have hb78 : Below w7.heap.size w7 w8 := below_of_drew hb8
              have hb28 := HI.out.2.2.1.trans (hb78.mono HI.out.2.2.1.size)
              have k1 := (hb78.cell (p := ⟨b0, off + i * 2 + 1, none⟩) hb0w).trans e2
              have H8 : Hid (_ ∧ _) := ⟨hb28, hb78⟩
              clear hb8 hb78 hb28
              go_wp2
              go_loopw [5] (fun t wr => ∃ (k d : Nat), t = .int .i64 k ∧ k ≤ i ∧ (∀ x ∈ L.take k, x.2 ≠ td) ∧ wr = w8.drewN d) (fun t _ => i - (intOf t).toNat)
              case atStart => exact ⟨0, 0, rfl, Nat.zero_le _, by simp, rfl⟩
              case round =>
                obtain ⟨k, d, rfl, hki, hno, rfl⟩ := hrel
                by_cases hk2 : k < i
                · obtain ⟨b1, off1, he1, hb1, p1, p2⟩ := H2.out.2.2.2.2 k (by omega)
                  obtain ⟨rfl, rfl⟩ : b0 = b1 ∧ off = off1 := by cases he1; exact ⟨rfl, rfl⟩
                  have k2 := (H8.out.1.cell (p := ⟨b0, off + k * 2 + 1, none⟩) hb1).trans p2
                  obtain ⟨xd, hxd⟩ : ∃ xd, xd = L[k].2 := ⟨_, rfl⟩
                  rw [← hxd] at k2
                  have htk : L.take (k + 1) = L.take k ++ [L[k]] := List.take_succ_eq_append_getElem (by omega)
                  have hkI : (k : Int) < (i : Int) := by omega
                  have hkL : (k : Int) < (L.length : Int) := by omega
                  have hkd : decide ((k : Int) < (i : Int)) = true := decide_eq_true hkI
                  have HK : Hid (_ ∧ _ ∧ _) := ⟨hno, htk, hxd⟩
                  clear hno htk hxd p1 p2 he1 hb1
                  by_cases hdd : xd = td
                  · subst hdd
                    go_wp2_with fail
                    go_region
                    go_wp2
                    go_ret
                    refine ⟨false, rfl, ⟨(fun h => by cases h), fun hm => ?_⟩, below_drewN (H2.out.2.2.1.trans (H8.out.1.mono H2.out.2.2.1.size)) _⟩
                    have hids := hm.2.ids
                    rw [← H2.out.2.2.2.1] at hids
                    have h4 : (L.take i ++ [L[i]]).map (·.2) |>.Nodup := by
                      rw [← List.take_succ_eq_append_getElem hlt]
                      exact hids.sublist ((List.take_sublist _ _).map _)
                    rw [List.map_append, List.nodup_append] at h4
                    exact False.elim (h4.2.2 _ (List.mem_map.2 ⟨L[k], List.mem_take_iff_getElem.2 ⟨k, by omega, rfl⟩, rfl⟩) _ (List.mem_map.2 ⟨L[i], List.mem_singleton.2 rfl, rfl⟩) (by rw [← HK.out.2.2, HI.out.2.2.2.1]))
                  · have hne : (xd == td) = false := by simpa using hdd
                    have HN : Hid _ := hdd
                    clear hdd
                    go_wp2_with fail
                    go_region
                    go_wp2
                    go_roundw
                    case rel =>
                      refine ⟨k + 1, d + 1, by simp, hk2, fun y hy => ?_, rfl⟩
                      rw [HK.out.2.1] at hy
                      rcases List.mem_append.1 hy with hy | hy
                      · exact HK.out.1 y hy
                      · rw [List.mem_singleton.1 hy, ← HK.out.2.2]; exact HN.out
                    case measure => simp [intOf]; omega
                · obtain rfl : k = i := by omega
                  have HK : Hid _ := hno
                  clear hno
                  go_wp2
                  go_roundw
                  case rel =>
                    refine ⟨k + 1, by simp, hlt, fun y hy => ?_, ?_, below_drewN H8.out.1 _⟩
                    · rw [HI.out.2.2.2.2] at hy
                      rcases List.mem_append.1 hy with hy | hy
                      · exact HI.out.1 y hy
                      · rw [List.mem_singleton.1 hy]; exact hft
                    · rw [HI.out.2.2.2.2]
                      exact nodup_snoc HI.out.2.1 HK.out
                  case measure => simp [intOf]; omega
          · obtain rfl : i = L.length := by omega
            rw [List.take_length] at hfit hnd
            have hbw7 := H2.out.2.2.1.trans (hbi.mono H2.out.2.2.1.size)
            have hTm : TmAt w7 (.slice up L.length uc) L := TmAt.below (rowAt_own H2.out.1) hbi
            have hbnd : ∀ t ∈ L, 0 ≤ t.1 ∧ t.1 ≤ 4398046511104 := fun t ht => ⟨(fits_bounds (hfit t ht) hn).1, (fits_bounds (hfit t ht) hn).2.1⟩
            have HF : Hid (_ ∧ _ ∧ _ ∧ _) := ⟨hfit, hnd, hbw7, hTm⟩
            clear hfit hnd hbi hbw7 hTm
            go_wp2_with fail
            refine (wheelOf_any now _ L _ HF.out.2.2.2 hn (by omega) hbnd (by omega)).mono ?_
            rintro r w8 ⟨x, vs, rfl, hO8, hb8⟩
            obtain ⟨p8, c8, rfl⟩ := own_form hO8.row
            have hbw8 := HF.out.2.2.1.trans (hb8.mono HF.out.2.2.1.size)
            have hN8 : Below w8.heap.size w8 (w8.alloc (.cells #[.int .i64 now, .slice p8 (wheelOf now L).length c8] 24)) := (Below.refl _ _).alloc (Nat.le_refl _) _
            have hbw9 := hbw8.trans (hN8.mono hbw8.size)
            have k0 := (hb8.cell (p := ⟨w.heap.size, 0, none⟩) hlt7).trans h0
            have k1 := (hb8.cell (p := ⟨w.heap.size, 1, none⟩) hlt7).trans h1
            have hlt8 : w.heap.size < w8.heap.size := Nat.lt_of_lt_of_le hlt7 hb8.size
            have hA9 : WhAt (w8.alloc (.cells #[.int .i64 now, .slice p8 (wheelOf now L).length c8] 24)) (.agg #[.int .i64 now, .slice a 25 ca]) now ls := ⟨_, rfl, HX2.out.below hbw9⟩
            have hB9 : WhAt (w8.alloc (.cells #[.int .i64 now, .slice p8 (wheelOf now L).length c8] 24)) (.agg #[.int .i64 now, .slice p8 (wheelOf now L).length c8]) now (wheelOf now L) := ⟨_, rfl, hO8.at.below hN8⟩
            have H9 : Hid (_ ∧ _ ∧ _) := ⟨hA9, hB9, hbw9⟩
            clear hA9 hB9 hbw9 hbw8 hN8 hO8 hb8 h0 h1
            go_wp2_with fail
            refine (sameWheel _ _ now now ls (wheelOf now L) _ H9.out.1 H9.out.2.1).mono ?_
            rintro r w10 ⟨rfl, hb10⟩
            have H10 : Hid _ := hb10
            clear hb10
            go_wp2
            go_ret
            refine ⟨_, rfl, ?_, H9.out.2.2.trans (H10.out.mono H9.out.2.2.size)⟩
            rw [may_iff hn hn2 HX.out.2.2, ← H2.out.2.2.2.1, decide_eq_true_eq]
            exact ⟨fun h => ⟨h200, HF.out.1, HF.out.2.1, h⟩, fun h => h.2.2.2⟩
      · have h200I : (200 : Int) < (L.length : Int) := by omega
        go_wp2
        go_ret
        exact ⟨false, rfl, ⟨(fun h => by cases h), fun hm => absurd hm.2.total (by rw [← H2.out.2.2.2.1]; exact h200)⟩, H2.out.2.2.1⟩
    · have hne : ((ls.length : Int) != 25) = true := by simp [bne_iff_ne]; omega
      have HN : Hid _ := h25
      clear hx htot h25
      go_enter Tryd.func19, Tryd.ntmps19
      go_wp2_with fail
      refine (in_any _ _ _ _).mono ?_
      rw [htd]
      rintro r w1 ⟨rfl, rfl⟩
      go_wp2
      go_ret
      exact ⟨false, rfl, ⟨(fun h => by cases h), fun hm => absurd hm.2.len HN.out⟩, (Below.refl _ _).alloc (Nat.le_refl _) _⟩
  · have htd : decide (0 ≤ now ∧ now ≤ 1099511627776) = false := decide_eq_false ht
    have HN : Hid _ := ht
    clear hx htot ht
    go_enter Tryd.func19, Tryd.ntmps19
    go_wp2_with fail
    refine (in_any _ _ _ _).mono ?_
    rw [htd]
    rintro r w1 ⟨rfl, rfl⟩
    go_wp2
    go_ret
    exact ⟨false, rfl, ⟨(fun h => by cases h), fun hm => absurd hm.1 HN.out⟩, (Below.refl _ _).alloc (Nat.le_refl _) _⟩
end Go.Proofs.YtdfjobghgbcjpaaDoor.Walks
