/-
  The document's Cancel. The wheel can be read, and holds at most 1048576 timers.
-/
import Derived.Test.YtdfjobghgbcjpaaDoorRefArm
import Derived.Test.YtdfjobghgbcjpaaDoorCancel
import Derived.WalkKit
import Derived.ProofKit
import Derived.Handy
import Derived.LoopTactic
import Derived.Below
import Derived.Laws.BitsAllLaws
import Derived.RegionTactic
import Derived.Deep.RegionHeld3
import Derived.Deep.DrawnRows
import Derived.Deep.AppendLies
import Derived.Laws.OwnMore
import Derived.Deep.Onto
import Derived.Deep.QuietTactic
import Derived.BigQuiet
namespace Go.Proofs.YtdfjobghgbcjpaaDoor.Walks
open Go.RowKit
set_option linter.unusedVariables false
set_option linter.unusedSimpArgs false
attribute [local go_sem ↓] Go.wp_at_zero Go.wp_at_succ
open Classical

/-- What cancelling ends in: the error, the tick, the lists. -/
def canOut (now id : Int) (ls : List (List Tm)) [Decidable (May now ls)] : Int × Int × List (List Tm) :=
  if May now ls then if ∀ t ∈ ls.flatten, t.2 ≠ id then (8, 0, []) else (0, now, wheelOf now (kp ls.flatten id)) else (6, 0, [])

theorem kp_nodup {L : List Tm} {id : Int} (h : (L.map (·.2)).Nodup) : ((kp L id).map (·.2)).Nodup := h.sublist ((List.filter_sublist).map _)

theorem kp_ok {now id : Int} {ls : List (List Tm)} (h : May now ls) : Ok now (wheelOf now (kp ls.flatten id)) :=
  wheelOf_ok (fun t ht => h.2.mem_fits (kp_mem.1 ht).1) (kp_nodup h.2.ids)

theorem gone_is {now id : Int} {ls ms : List (List Tm)} (h : May now ls) (hg : Gone now id ls ms) : ms = wheelOf now (kp ls.flatten id) :=
  ok_unique hg.may.2 (kp_ok h) fun t => by rw [hg.mem, wheelOf_mem (kp_nodup h.2.ids), kp_mem]

theorem can_prog (v : Value) (now id : Int) (ls : List (List Tm)) (w : World) (hB : Blk w) (hx : LsAt w v ls) (hlen : ∀ l ∈ ls, l.length ≤ 1048576) (hid : (Lit.int .i64 id).wf = true) :
    Calls Tryd.prog 10 #[.agg #[.int .i64 now, v], .int .i64 id] w fun r w' => ∃ y, r = .returned (.tuple #[y, .int .i64 (canOut now id ls).1]) ∧ WhAt w' y (canOut now id ls).2.1 (canOut now id ls).2.2 ∧ Below w.heap.size w w' := by
  unfold canOut
  by_cases hm : May now ls
  · rw [if_pos hm]
    refine (cancel_rest v now id ls w hB hx hm hid).mono fun r w' ⟨hb, h⟩ => ?_
    rcases h with ⟨h1, h2⟩ | ⟨⟨t, ht, te⟩, p, c, ms, h2, h3, h4⟩
    · rw [if_pos h1]; exact ⟨_, h2, zeroWheel_at _, hb⟩
    · rw [if_neg (fun h => h t ht te)]
      refine ⟨_, h2, ⟨_, rfl, ?_⟩, hb⟩
      rw [← gone_is hm h4]
      exact h3.at
  · rw [if_neg hm]
    exact (cancel_state v now id ls w hB hx hlen hm).mono fun r w' h => ⟨_, h.1, zeroWheel_at _, h.2⟩

set_option maxHeartbeats 8000000 in
set_option maxRecDepth 100000 in
theorem refCan_any (v : Value) (now id : Int) (ls : List (List Tm)) (w : World) (hx : LsAt w v ls) (htot : ls.flatten.length ≤ 1048576) :
    Calls Tryd.prog 11 #[.agg #[.int .i64 now, v], .int .i64 id] w fun r w' => ∃ y, r = .returned (.tuple #[y, .int .i64 (canOut now id ls).1]) ∧ WhAt w' y (canOut now id ls).2.1 (canOut now id ls).2.2 ∧ Below w.heap.size w w' := by
  obtain ⟨a, ca, rfl, _⟩ := hx.parts
  obtain ⟨i0, hi, hz0, hz1, hz2⟩ := info_parts infoTm
  have HX : Hid (_ ∧ _) := ⟨hx, htot⟩
  obtain ⟨e, he⟩ : ∃ e, e = canOut now id ls := ⟨_, rfl⟩
  rw [← he]
  have HE : Hid _ := he
  clear hx htot he
  go_enter Tryd.func11, Tryd.ntmps11
  go_wp2_with fail
  have hb0 := below_boxes (w := w) (.cells #[.int .i64 now, .slice a ls.length ca] 24) (.cells #[.int .i64 0, .slice none 0 0] 24)
  refine (wheelMay_any _ now ls _ (HX.out.1.below hb0) HX.out.2).mono ?_
  rintro r w1 ⟨b, rfl, hbm, hb1⟩
  have hbw1 := hb0.trans (hb1.mono hb0.size)
  have hR0 : w1.heap[w.heap.size]? = some (.cells #[.int .i64 now, .slice a ls.length ca] 24 (0, 0)) := (hb1.block _ (by simp; omega)).trans (heap_old _ _ (heap_alloc_new _ _))
  have hR1 : w1.heap[w.heap.size + 1]? = some (.cells #[.int .i64 0, .slice none 0 0] 24 (0, 0)) := (hb1.block _ (by simp)).trans (heap_second _ _ _)
  obtain ⟨c0, c1, _, _, clt⟩ := two_cells hR0
  obtain ⟨d0, d1, df0, df1, dlt⟩ := two_cells hR1
  have H1 : Hid (_ ∧ _ ∧ _ ∧ _) := ⟨hbm, hbw1, hR0, hR1⟩
  clear hb0 hbm hb1 hbw1 hR0 hR1
  cases b
  · have hno : ¬ May now ls := fun h => by have := H1.out.1.2 h; cases this
    have he : e = (6, 0, []) := by rw [HE.out]; unfold canOut; rw [if_neg hno]
    go_wp2
    obtain ⟨g0, g1⟩ := two_set_cells (c := .int .i64 0) (d := .slice none 0 0) H1.out.2.2.2
    refine bodyPost_ret (v := .tuple #[.agg #[.int .i64 0, .slice none 0 0], .int .i64 6]) (by simp [results, Tryd.results11, go_sem, g0, g1]) rfl ?_
    rw [he]
    exact ⟨_, rfl, zeroWheel_at _, (H1.out.2.1.setCell (p := ⟨w.heap.size + 1, 0, none⟩) (by simp) _).setCell (p := ⟨w.heap.size + 1, 1, none⟩) (by simp) _⟩
  · have hm : May now ls := H1.out.1.1 rfl
    obtain ⟨hn, hn2⟩ := hm.1
    have HM : Hid (May now ls) := hm
    clear hm
    go_wp2_with fail
    refine (timersOf_any _ now ls _ (HX.out.1.below H1.out.2.1) HX.out.2).mono ?_
    rintro r w3 ⟨u, rfl, hown, hb3⟩
    obtain ⟨up, uc, rfl⟩ := own_form hown
    obtain ⟨L, hL⟩ : ∃ L, L = ls.flatten := ⟨_, rfl⟩
    rw [← hL] at hown ⊢
    have hLl : L.length ≤ 200 := by rw [hL]; exact HM.out.2.total
    obtain ⟨q0, uc', heq, huc, hum, pu⟩ := TmAt.parts (l := L) (rowAt_own hown)
    obtain ⟨rfl, _, rfl⟩ : up = q0 ∧ True ∧ uc = uc' := by cases heq; exact ⟨rfl, trivial, rfl⟩
    unfold maxLen at hum
    have hR3 := (hb3.block _ dlt).trans H1.out.2.2.2
    have hQ3 := (hb3.block _ clt).trans H1.out.2.2.1
    have hbw3 := H1.out.2.1.trans (hb3.mono H1.out.2.1.size)
    have hs3 := hb3.size
    have H3 : Hid (_ ∧ _ ∧ _ ∧ _ ∧ _ ∧ _) := ⟨hown, hbw3, hR3, hQ3, hL, pu⟩
    clear hown hbw3 hR3 hQ3 hL pu hb3 heq c0 c1 d0 d1 df0 df1
    go_wp2
    go_loopw [7, 8] (fun x t wr => ∃ i : Nat, t = .int .i64 i ∧ i ≤ L.length ∧ wr.ownsRow w3.heap.size 45 2 x (kp (L.take i) id).length (tcells (kp (L.take i) id)) ∧ Below w3.heap.size w3 wr) (fun _ t _ => L.length - (intOf t).toNat)
    case atStart => exact ⟨0, rfl, Nat.zero_le _, World.ownsRow_nil _ _ _ _, Below.refl _ _⟩
    case round =>
      obtain ⟨i, rfl, hil, hrow, hbi⟩ := hrel
      by_cases hlt : i < L.length
      · obtain ⟨b0, off, rfl, hb0, p1, p2⟩ := H3.out.2.2.2.2.2 i hlt
        have e1 := (hbi.cell (p := ⟨b0, off + i * 2, none⟩) hb0).trans p1
        have e2 := (hbi.cell (p := ⟨b0, off + i * 2 + 1, none⟩) hb0).trans p2
        obtain ⟨ta, hta⟩ : ∃ ta, L[i].1 = ta := ⟨_, rfl⟩
        obtain ⟨td, htd⟩ : ∃ td, L[i].2 = td := ⟨_, rfl⟩
        have hLi : L[i] = (ta, td) := Prod.ext hta htd
        rw [hta] at e1
        rw [htd] at e2
        have hks := kp_snoc (L.take i) (ta, td) id
        rw [← hLi, ← List.take_succ_eq_append_getElem hlt, hLi] at hks
        have hkl := kp_len (L.take i) id
        rw [List.length_take] at hkl
        have hiI : (i : Int) < (L.length : Int) := by omega
        have hid : decide ((i : Int) < (L.length : Int)) = true := decide_eq_true hiI
        have hbs := hbi.size
        generalize kp (L.take i) id = Q at *
        clear hta htd hLi p1 p2
        by_cases hdd : td = id
        · subst hdd
          rw [if_pos rfl, List.append_nil] at hks
          have HK : Hid (_ ∧ _ ∧ _) := ⟨hrow, hbi, hks⟩
          clear hrow hbi hks
          go_wp2
          go_roundw
          case rel => exact ⟨i + 1, by simp, hlt, by rw [HK.out.2.2]; exact HK.out.1, HK.out.2.1⟩
          case measure => simp [intOf]; omega
        · rw [if_neg hdd] at hks
          have hne : (td != id) = true := by simpa using hdd
          have HK : Hid (_ ∧ _ ∧ _) := ⟨hrow, hbi, hks⟩
          clear hrow hbi hks hdd
          go_wp2_with (first | (at_builtin; refine wpList_append_lies _ rfl _ _ 38 rfl w3.heap.size 45 i0 _ 2 16 Tryd.underlying38 hi hz0 hz1 hz2 rfl (by decide) u7 _ _ rfl (HK.out.1.alloc _) _ 1 1 (tcells [(ta, td)]) rfl rfl (news_at _ _ _) (tcells_one _) (by decide) (by unfold maxLen; omega) (by omega) (by simp; omega) _ rfl ?_; intro g' cap w4 hown4 hg4 hlies hlt4))
          go_wp2
          go_roundw
          case rel =>
            refine ⟨i + 1, by simp, hlt, ?_, ?_⟩
            · rw [HK.out.2.2, tcells_append, List.length_append]
              exact hown4
            · have h1 := HK.out.2.1.alloc HK.out.2.1.size (.cells #[.int .i64 ta, .int .i64 td] 45)
              exact h1.grown hg4 h1.size (fun j e => (HK.out.1.lt j e).1)
          case measure => simp [intOf]; omega
      · obtain rfl : i = L.length := by omega
        rw [List.take_length] at hrow
        obtain ⟨qp, qc, hqe⟩ := own_form hrow
        obtain ⟨x7, hx7⟩ : ∃ x7, x7 = u7 := ⟨_, rfl⟩
        rw [← hx7] at hrow hqe ⊢
        clear hx7
        subst hqe
        have hkl := kp_len L id
        have hR4 := (hbi.block _ (Array.getElem?_eq_some_iff.1 H3.out.2.2.1).1).trans H3.out.2.2.1
        have hQ4 := (hbi.block _ (Array.getElem?_eq_some_iff.1 H3.out.2.2.2.1).1).trans H3.out.2.2.2.1
        have hbw4 := H3.out.2.1.trans (hbi.mono H3.out.2.1.size)
        obtain ⟨d0, d1, df0, df1, dlt4⟩ := two_cells hR4
        obtain ⟨c0, c1, _, _, clt4⟩ := two_cells hQ4
        have hiff : (kp L id).length = L.length ↔ ∀ t ∈ L, t.2 ≠ id := by
          unfold kp
          rw [List.length_filter_eq_length_iff]
          simp
        have hTm : TmAt wr (.slice qp (kp L id).length qc) (kp L id) := rowAt_own hrow
        have HK : Hid (_ ∧ _ ∧ _ ∧ _ ∧ _) := ⟨hTm, hR4, hQ4, hbw4, hiff⟩
        clear hrow hbi hR4 hQ4 hbw4 hiff hTm
        by_cases hall : (kp L id).length = L.length
        · have he : e = (8, 0, []) := by
            rw [HE.out]; unfold canOut
            rw [if_pos HM.out, if_pos (by rw [← H3.out.2.2.2.2.1]; exact HK.out.2.2.2.2.1 hall)]
          have HE2 : Hid _ := he
          have heq : (((kp L id).length : Int) == (L.length : Int)) = true := by rw [hall]; simp
          clear he hall
          go_wp2
          obtain ⟨g0, g1⟩ := two_set_cells (c := .int .i64 0) (d := .slice none 0 0) HK.out.2.1
          refine bodyPost_ret (v := .tuple #[.agg #[.int .i64 0, .slice none 0 0], .int .i64 8]) (by simp [results, Tryd.results11, go_sem, g0, g1]) rfl ?_
          rw [HE2.out]
          exact ⟨_, rfl, zeroWheel_at _, (HK.out.2.2.2.1.setCell (p := ⟨w.heap.size + 1, 0, none⟩) (by simp) _).setCell (p := ⟨w.heap.size + 1, 1, none⟩) (by simp) _⟩
        · have he : e = (0, now, wheelOf now (kp L id)) := by
            rw [HE.out]; unfold canOut
            rw [if_pos HM.out, if_neg (by rw [← H3.out.2.2.2.2.1]; exact fun h => hall (HK.out.2.2.2.2.2 h)), ← H3.out.2.2.2.2.1]
          have HE2 : Hid _ := he
          have heq : (((kp L id).length : Int) == (L.length : Int)) = false := by rw [beq_eq_false_iff_ne]; omega
          have hbd : ∀ t ∈ kp L id, 0 ≤ t.1 ∧ t.1 ≤ 4398046511104 := fun t ht => by
            have := fits_bounds (HM.out.2.mem_fits (show t ∈ ls.flatten by rw [← H3.out.2.2.2.2.1]; exact (kp_mem.1 ht).1)) hn
            exact ⟨this.1, this.2.1⟩
          clear he hall
          go_wp2_with fail
          refine (wheelOf_any now _ (kp L id) _ HK.out.1 hn (by omega) hbd (by omega)).mono ?_
          rintro r w5 ⟨y, vs, rfl, hO5, hb5⟩
          obtain ⟨yp, yc, rfl⟩ := own_form hO5.row
          have hR5 := (hb5.block _ dlt4).trans HK.out.2.1
          obtain ⟨z0, z1, zf0, zf1, zlt⟩ := two_cells hR5
          have H5 : Hid (_ ∧ _ ∧ _) := ⟨hO5, hR5, HK.out.2.2.2.1.trans (hb5.mono HK.out.2.2.2.1.size)⟩
          clear hO5 hR5 hb5
          go_wp2
          obtain ⟨g0, g1⟩ := two_set_cells (c := .int .i64 now) (d := .slice yp (wheelOf now (kp L id)).length yc) H5.out.2.1
          refine bodyPost_ret (v := .tuple #[.agg #[.int .i64 now, .slice yp (wheelOf now (kp L id)).length yc], .int .i64 0]) (by simp [results, Tryd.results11, go_sem, g0, g1]) rfl ?_
          rw [HE2.out]
          exact ⟨_, rfl, ⟨_, rfl, (H5.out.1.set2 (g := w.heap.size + 1) dlt4 _ _).at⟩, (H5.out.2.2.setCell (p := ⟨w.heap.size + 1, 0, none⟩) (by simp) _).setCell (p := ⟨w.heap.size + 1, 1, none⟩) (by simp) _⟩
end Go.Proofs.YtdfjobghgbcjpaaDoor.Walks
