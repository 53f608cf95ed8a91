/-
  LifeWoken: all that join wake, just once. No condition.
-/
import Derived.Test.YtlpedligkofegabKA
import Derived.WalkKit
import Derived.ProofKit
import Derived.Handy
import Derived.LoopTactic
import Derived.Below
import Derived.Laws.BitsAllLaws
import Derived.RegionTactic
import Derived.Deep.RegionHeld3
import Derived.Deep.DrawnRows
import Derived.Deep.AppendLies
import Derived.Laws.OwnMore
import Derived.Deep.Onto
import Derived.Deep.QuietTactic
import Derived.BigQuiet
namespace Go.Proofs.Ytlpedligkofegab.Walks
open Go.RowKit
set_option linter.unusedVariables false
set_option linter.unusedSimpArgs false
attribute [local go_sem ↓] Go.wp_at_zero Go.wp_at_succ

theorem wakes_awake (now : Int) (x : Lf) : ¬ (wakes now x).2.1 = 1 := by
  unfold wakes
  split
  · exact (show ¬ (2 : Int) = 1 by decide)
  · assumption

theorem wakes_twice (now : Int) (L : List Lf) : (L.map (wakes now)).map (wakes now) = L.map (wakes now) := by
  rw [List.map_map]
  apply List.map_congr_left
  intro x _
  exact wakes_no (wakes_awake now x)

theorem woken_none (now : Int) (L : List Lf) : wokenL (L.map (wakes now)) = [] := by
  unfold wokenL
  rw [List.filter_eq_nil_iff.2]
  · rfl
  · intro x hx
    obtain ⟨y, _, rfl⟩ := List.mem_map.1 hx
    simpa using wakes_awake now y

theorem zero_bad : ¬ BkOk [((0 : Int), (0 : Int), (0 : Int), (0 : Int), (0 : Int), (0 : Int))] [] := by
  intro h
  have := (h.1.2.1 _ (List.mem_singleton.2 rfl)).1.2.1.1
  exact absurd this (show ¬ (1 : Int) ≤ 0 by decide)

set_option maxHeartbeats 16000000 in
set_option maxRecDepth 100000 in
theorem woken_law (v : Value) (l : List Rq) (wf : ∀ y ∈ l, ∀ n ∈ rqC y, (Lit.int .i64 n).wf = true) (tk : Int) (g1 : (Lit.int .i64 tk).wf = true) (w : World) (hat : RcAt rqC w v l) :
    Calls Try.prog 5 #[v, .int .i64 tk] w fun e w' => e = .returned (.bool true) ∧ Below w.heap.size w w' := by
  obtain ⟨i5, hi5, q5⟩ := picked_some tk 5 g1 (by omega) (by omega)
  obtain ⟨pa, ca, rfl, hca, hma⟩ := RcAt.form hat
  have H : Hid (_ ∧ _) := ⟨asked_some _ l wf w hat, q5⟩
  clear q5 g1 hat wf
  unfold maxLen at hma
  go_enter Try.func5, Try.ntmps5
  go_wp2_with fail
  refine Calls.mono H.out.1 ?_
  rintro r w1 ⟨L, R, now, p, c, q, m, rfl, hn1, hI, hb1⟩
  obtain ⟨W1, hW1⟩ : ∃ W1, W1 = w1.alloc (bkO (.slice p L.length c) (.slice q R.length m)) := ⟨_, rfl⟩
  have hk30 : min l.length 30 ≤ 30 := Nat.min_le_right _ _
  have hL12 := hI.ok.1.1
  have hn0 := hI.now0
  have hnk := hI.nowk
  have hTk : 0 ≤ now + (i5 : Int) ∧ now + (i5 : Int) ≤ 1099511627776 := by omega
  have ha1 := wake_is hI.ok hTk
  have hok2 := wake_ok hI.ok hTk
  have ha2 := wake_is hok2 hTk
  rw [wakes_twice, woken_none] at ha2
  have hc2 := chk_yes hok2
  have haw : ∀ x ∈ L.map (wakes (now + (i5 : Int))), ¬ x.2.1 = 1 := fun x hx => by
    obtain ⟨y, _, rfl⟩ := List.mem_map.1 hx
    exact wakes_awake _ y
  obtain ⟨M, hM⟩ : ∃ M, M = L.map (wakes (now + (i5 : Int))) := ⟨_, rfl⟩
  have hML : M.length = L.length := by rw [hM]; simp
  rw [← hM] at ha1 ha2 hok2 hc2 haw
  obtain ⟨bb, hbb1⟩ : ∃ bb, ((l.length : Int) == 0) = bb := ⟨_, rfl⟩
  have hbb2 : ((R.length : Int) == 0) = bb := by
    rw [← hbb1]
    have hsm := hI.some
    rcases Nat.eq_zero_or_pos R.length with e | e
    · have h2 := hsm.1 e
      have h3 : l.length = 0 := by omega
      rw [e, h3]
    · have h2 : ¬ min l.length 30 = 0 := fun h => by have := hsm.2 h; omega
      have e1 : ((R.length : Int) == 0) = false := by rw [beq_eq_false_iff_ne]; omega
      have e2 : ((l.length : Int) == 0) = false := by rw [beq_eq_false_iff_ne]; omega
      rw [e1, e2]
  have hx1 : Bx w W1 w1.heap.size (.slice p L.length c) (.slice q R.length m) L R := by rw [hW1]; exact bx_new hn1.1 hb1
  have HL : Hid (_ ∧ _ ∧ _ ∧ _ ∧ _ ∧ _) := ⟨hx1, ha1, ha2, hc2, haw, hML⟩
  clear hn1 hI hb1 ha1 ha2 hok2 hc2 haw hM hx1 hTk hML
  go_wp2_with fail
  rw [← hW1]
  clear hW1
  obtain ⟨g5, hg5⟩ : ∃ g5, g5 = w1.heap.size := ⟨_, rfl⟩
  rw [← hg5] at HL ⊢
  clear hg5
  refine (H.out.2 _).mono ?_
  rintro r w2 ⟨rfl, hw2⟩
  subst hw2
  obtain ⟨b0, b1, blt⟩ := HL.out.1.cells
  have HW : Hid _ := wakeApi_any _ _ L R (now + (i5 : Int)) w2 HL.out.1.2.1
  rw [HL.out.2.1] at HW
  go_wp2_with fail
  refine Calls.mono HW.out ?_
  intro r w3 hp
  obtain ⟨pc, cc, qc, mc, uw, kw, hr3, hn3, _, hb3⟩ := wakePost_open hp
  rw [HL.out.2.2.2.2.2] at hr3 hn3
  subst hr3
  obtain ⟨W3, hW3⟩ : ∃ W3, W3 = w3.alloc (bkO (.slice pc L.length cc) (.slice qc R.length mc)) := ⟨_, rfl⟩
  have h3x : Bx w W3 g5 (.slice p L.length c) (.slice q R.length m) L R := by rw [hW3]; exact (HL.out.1.below hb3).alloc _
  have h3c : Bx w W3 w3.heap.size (.slice pc L.length cc) (.slice qc R.length mc) M R := by rw [hW3]; exact bx_new hn3.1 (HL.out.1.below hb3).2.2
  have H3 : Hid (_ ∧ _) := ⟨h3x, h3c⟩
  clear hp hn3 hb3 h3x h3c b0 b1 blt
  go_wp2_with fail
  rw [← hW3]
  clear hW3
  obtain ⟨g9, hg9⟩ : ∃ g9, g9 = w3.heap.size := ⟨_, rfl⟩
  rw [← hg9] at H3 ⊢
  clear hg9
  have HW2 : Hid _ := wakeApi_any _ _ M R (now + (i5 : Int)) W3 H3.out.2.2.1
  rw [HL.out.2.2.1] at HW2
  refine Calls.mono HW2.out ?_
  intro r w4 hp
  obtain ⟨pd, cd, qd, md, ud, kd, hr4, hn4, _, hb4⟩ := wakePost_open hp
  rw [HL.out.2.2.2.2.2] at hr4 hn4
  subst hr4
  obtain ⟨W4, hW4⟩ : ∃ W4, W4 = w4.alloc (bkO (.slice pd L.length cd) (.slice qd R.length md)) := ⟨_, rfl⟩
  have h4x : Bx w W4 g5 (.slice p L.length c) (.slice q R.length m) L R := by rw [hW4]; exact (H3.out.1.below hb4).alloc _
  have h4c : Bx w W4 g9 (.slice pc L.length cc) (.slice qc R.length mc) M R := by rw [hW4]; exact (H3.out.2.below hb4).alloc _
  have h4d : Bx w W4 w4.heap.size (.slice pd L.length cd) (.slice qd R.length md) M R := by rw [hW4]; exact bx_new hn4.1 (H3.out.1.below hb4).2.2
  obtain ⟨g12, hg12⟩ : ∃ g12, g12 = w4.heap.size := ⟨_, rfl⟩
  rw [← hg12] at h4d
  obtain ⟨b0, b1, blt⟩ := h4x.cells
  obtain ⟨c0, c1, clt⟩ := h4c.cells
  have H4 : Hid (_ ∧ _ ∧ _) := ⟨h4x, h4c, h4d⟩
  clear hp hn4 hb4 h4x h4c h4d
  go_wp2
  rw [← hg12, ← hW4]
  clear hW4 hg12
  obtain ⟨pl', cl', hel, _, hml, pl⟩ := LvAt.parts H4.out.1.2.1.1
  cases hel
  obtain ⟨pm', cm', hem, _, hmm, pm⟩ := LvAt.parts H4.out.2.1.2.1.1
  rw [HL.out.2.2.2.2.2] at hem
  cases hem
  unfold maxLen at hml hmm
  have HP : Hid (_ ∧ _) := ⟨pl, pm⟩
  clear pl pm
  go_loopw [15, 16] (fun s i wr => W4 = wr ∧ ∃ k : Nat, i = .int .i64 k ∧ s = .int .i64 ((wokenL (L.take k)).length : Nat) ∧ k ≤ L.length) (fun _ i _ => L.length - (intOf i).toNat)
  case atStart => exact ⟨rfl, 0, rfl, rfl, Nat.zero_le _⟩
  case round =>
    obtain ⟨rfl, k, rfl, rfl, hk⟩ := hrel
    by_cases hlt : k < L.length
    · have hkI : (k : Int) < (L.length : Int) := by omega
      have hkd : decide ((k : Int) < (L.length : Int)) = true := decide_eq_true hkI
      obtain ⟨b1', o1, hpa, hbb', _, z2, _⟩ := HP.out.1 k hlt
      subst hpa
      have hwy := woken_yes hlt
      have hwn := woken_no hlt
      obtain ⟨x2, hx2⟩ : ∃ x2, x2 = L[k].2.1 := ⟨_, rfl⟩
      rw [← hx2] at z2 hwy hwn
      have hwl : (wokenL (L.take k)).length ≤ 12 := by
        have := woken_len (L.take k)
        rw [List.length_take] at this
        omega
      by_cases h1 : x2 = 1
      · have HN : Hid _ := (by rw [hwy h1]; simp : (wokenL (L.take (k + 1))).length = (wokenL (L.take k)).length + 1)
        subst h1
        clear hwy hwn hx2
        generalize (wokenL (L.take k)).length = s at *
        go_wp2
        go_roundw
        case rel => exact ⟨trivial, k + 1, by simp, by rw [HN.out]; simp, hlt⟩
        case measure => simp [intOf]; omega
      · have HN : Hid (wokenL (L.take (k + 1)) = wokenL (L.take k)) := hwn h1
        have hne : (x2 == 1) = false := by simpa using h1
        clear hwy hwn hx2
        go_wp2
        go_roundw
        case rel => exact ⟨trivial, k + 1, by simp, by rw [HN.out], hlt⟩
        case measure => simp [intOf]; omega
    · have hkd : ¬ ((k : Int) < (L.length : Int)) := by omega
      obtain rfl : k = L.length := by omega
      rw [List.take_length]
      go_wp2
      go_loopw [17] (fun i wr => W4 = wr ∧ ∃ k : Nat, i = .int .i64 k ∧ k ≤ L.length) (fun i _ => L.length - (intOf i).toNat)
      case atStart => exact ⟨rfl, 0, rfl, Nat.zero_le _⟩
      case round =>
        obtain ⟨rfl, k, rfl, hk⟩ := hrel
        by_cases hlt : k < L.length
        · have hkI : (k : Int) < (L.length : Int) := by omega
          have hkd2 : decide ((k : Int) < (L.length : Int)) = true := decide_eq_true hkI
          have hltM : k < M.length := by rw [HL.out.2.2.2.2.2]; exact hlt
          obtain ⟨b1', o1, hpa, hbb', _, z2, _⟩ := HP.out.2 k hltM
          subst hpa
          have hne := HL.out.2.2.2.2.1 M[k] (List.getElem_mem hltM)
          obtain ⟨x2, hx2⟩ : ∃ x2, x2 = M[k].2.1 := ⟨_, rfl⟩
          rw [← hx2] at z2 hne
          have hne2 : (x2 == 1) = false := by simpa using hne
          clear hx2 hne
          go_wp2
          go_roundw
          case rel => exact ⟨trivial, k + 1, by simp, hlt⟩
          case measure => simp [intOf]; omega
        · have hkd2 : ¬ ((k : Int) < (L.length : Int)) := by omega
          obtain ⟨d0, d1, dlt⟩ := H4.out.2.2.cells
          go_wp2_with fail
          refine Calls.mono (sameBookK _ _ _ _ M R W4 H4.out.2.1.2.1 H4.out.2.2.2.1) ?_
          rintro r w5 ⟨rfl, hb5⟩
          have H5 : Hid (_ ∧ _) := ⟨H4.out.1.below hb5, H4.out.2.1.below hb5⟩
          clear hb5 b0 b1 blt c0 c1 clt d0 d1 dlt
          obtain ⟨b0, b1, blt⟩ := H5.out.1.cells
          obtain ⟨c0, c1, clt⟩ := H5.out.2.cells
          have HC : Hid _ := check_any _ _ M R w5 H5.out.2.2.1
          rw [HL.out.2.2.2.1] at HC
          go_wp2_with fail
          refine Calls.mono HC.out ?_
          rintro r w6 ⟨rfl, hb6⟩
          have hz6 := H5.out.1.2.2.trans (hb6.mono H5.out.1.2.2.size)
          obtain ⟨W7, hW7⟩ : ∃ W7, W7 = w6.alloc (lfO 0 0 0 0 0 0) := ⟨_, rfl⟩
          have hzat : BkAt W7 (.slice (some ⟨w6.heap.size, 0, none⟩) 1 1) (.slice none 0 0) [(0, 0, 0, 0, 0, 0)] [] := by
            rw [hW7]
            refine ⟨⟨_, 1, rfl, Nat.le_refl _, by unfold maxLen; omega, .inr ⟨w6.heap.size, 0, rfl, by simp, fun i hi => ?_⟩⟩, rcAt_nil _⟩
            rw [Nat.zero_add, cell_of_row _ w6.heap.size i _ _ (0, 0) (heap_alloc_new w6 _), one_recs]
            simp
          have HK : Hid (_ ∧ _) := ⟨check_any _ _ _ _ W7 hzat, (by rw [hW7]; exact hz6.alloc hz6.size _ : Below w.heap.size w W7)⟩
          rw [chk_no zero_bad] at HK
          clear hb6 hz6 hzat b0 b1 blt c0 c1 clt
          go_wp2_with fail
          rw [← hW7]
          clear hW7
          refine Calls.mono HK.out.1 ?_
          rintro r w8 ⟨rfl, hb8⟩
          have HZ : Hid _ := HK.out.2.trans (hb8.mono HK.out.2.size)
          clear hb8
          go_wp2
          go_ret
          exact ⟨rfl, HZ.out⟩
end Go.Proofs.Ytlpedligkofegab.Walks
