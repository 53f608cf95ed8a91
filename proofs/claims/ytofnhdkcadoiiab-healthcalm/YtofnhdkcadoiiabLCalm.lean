/-
  HealthCalm: who never fails is never thrown out; nor is anybody who may not be. Condition: the list can be read.
-/
import Derived.Test.YtofnhdkcadoiiabRegion
import Derived.Deep.CutRange
import Derived.WalkKit
import Derived.ProofKit
import Derived.Handy
import Derived.LoopTactic
import Derived.Below
import Derived.Laws.BitsAllLaws
import Derived.RegionTactic
import Derived.Deep.RegionHeld3
import Derived.Deep.DrawnRows
import Derived.Deep.AppendLies
import Derived.Laws.OwnMore
import Derived.Deep.Onto
import Derived.Deep.QuietTactic
import Derived.BigQuiet
namespace Go.Proofs.Ytofnhdkcadoiiab.Walks
open Go.RowKit
set_option linter.unusedVariables false
set_option linter.unusedSimpArgs false
attribute [local go_sem ↓] Go.wp_at_zero Go.wp_at_succ

theorem cnt_drop (l : List Bool) (k : Nat) : cntT (l.drop k) ≤ cntT l := (List.drop_sublist k l).countP_le

theorem cnt_last (n : Int) (M : List Bool) (x : Bool) : cntT (lastN n M x) ≤ cntT M + (if x then 1 else 0) := by
  unfold lastN
  rw [cntT_snoc]
  split
  · exact Nat.le_refl _
  · have := cnt_drop M 1; omega

set_option maxHeartbeats 16000000 in
set_option maxRecDepth 100000 in
theorem calm_law (x0 : Int) (h0 : (Lit.int .i64 x0).wf = true) (x1 : Int) (h1 : (Lit.int .i64 x1).wf = true) (v : Value) (l : List Bool) {w : World} (hv : BsAt w v l) (hl : l.length ≤ 140737488355328) :
    Calls Try.prog 3 #[.int .i64 x0, .int .i64 x1, v] w fun e w' => e = .returned (.bool true) ∧ Below w.heap.size w w' := by
  obtain ⟨n, f, d, hn, hf, hd, hnp, hwat⟩ := watch_some x0 x1 5 h0 h1 (by decide)
  have hok : WatOk n f d := ⟨by omega, by omega, by omega⟩
  obtain ⟨p, c, rfl, hlc, hcm, pa⟩ := hv.parts
  unfold maxLen at hcm
  have hK1 : ∀ W, Calls Try.prog 8 #[watV n f d] W fun r w' => r = .returned (.int .i64 0) ∧ Below W.heap.size W w' := fun W => by
    have := check_any n f d W
    rwa [wat_yes hok] at this
  have hK2 : ∀ W, Calls Try.prog 8 #[watV 0 0 0] W fun r w' => r = .returned (.int .i64 2) ∧ Below W.heap.size W w' := fun W => by
    have := check_any 0 0 0 W
    rwa [wat_no (by decide)] at this
  have P : Hid (_ ∧ _ ∧ _ ∧ _ ∧ _) := ⟨hwat, hok, pa, hK1, hK2⟩
  clear hwat hok h0 h1 pa hv hnp hK1 hK2
  go_enter Try.func3, Try.ntmps3
  go_wp2_with fail
  refine (P.out.1 _).mono ?_
  rintro r w1 ⟨rfl, hb1⟩
  obtain ⟨W1, hW1⟩ : ∃ W1, W1 = ((w1.alloc (.cells #[.int .i64 n, .int .i64 f, .int .i64 d] 24)).alloc (.cells #[.slice none 0 0, .bool false, .int .i64 0, .int .i64 0] 27)).alloc (.cells #[.slice none 0 0, .bool false, .int .i64 0, .int .i64 0] 27) := ⟨_, rfl⟩
  have hbW : Below w1.heap.size w1 W1 := by rw [hW1]; exact (((Below.refl _ _).alloc (Nat.le_refl _) _).alloc (by simp) _).alloc (by simp; omega) _
  have hs1 := hb1.size
  have HG : Hid (Wt w W1 w1.heap.size n f d ∧ Ht w W1 (w1.heap.size + 1 + 1 + 1) (w1.heap.size + 1) (.slice none 0 0) [] false 0 0 ∧ Ht w W1 (w1.heap.size + 1 + 1 + 1) (w1.heap.size + 1 + 1) (.slice none 0 0) [] false 0 0) :=
    ⟨⟨by rw [hW1]; exact heap_old _ _ (heap_old _ _ (heap_alloc_new _ _)), hs1, hb1.trans (hbW.mono hs1)⟩, ⟨by rw [hW1]; exact heap_old _ _ (heap_second _ _ _), bsAt_nil _, (by intro b h; cases h), by omega, by omega⟩, by rw [hW1]; exact heap_third _ _ _ _, bsAt_nil _, (by intro b h; cases h), by omega, by omega⟩
  have HW1 : Hid _ := hW1
  clear hb1 hbW hW1 hs1
  go_wp2
  rw [← HW1.out]
  clear HW1
  obtain ⟨g, hg⟩ : ∃ g, g = w1.heap.size := ⟨_, rfl⟩
  rw [← hg] at HG ⊢
  clear hg
  obtain ⟨h1, hh1⟩ : ∃ h1, h1 = g + 1 := ⟨_, rfl⟩
  rw [← hh1] at HG ⊢
  obtain ⟨h2, hh2⟩ : ∃ h2, h2 = h1 + 1 := ⟨_, rfl⟩
  rw [← hh2] at HG ⊢
  have hg1 : g ≠ h1 := by omega
  have hg2 : g ≠ h2 := by omega
  have h12 : h1 ≠ h2 := by omega
  have h12' : h1 < h2 + 1 := by omega
  clear hh1 hh2
  go_loopw [10] (fun i wr => ∃ (k j1 j2 : Nat) (q1 q2 : Option Addr) (e1 e2 : Nat) (M1 M2 : List Bool), i = .int .i64 k ∧ k ≤ l.length ∧ k ≤ 40 ∧ j1 = M1.length ∧ j1 ≤ n ∧ cntT M1 = 0 ∧ j2 = M2.length ∧ j2 = min k n ∧ Wt w wr g n f d ∧ Ht w wr (h2 + 1) h1 (.slice q1 j1 e1) M1 false 0 0 ∧ Ht w wr (h2 + 1) h2 (.slice q2 j2 e2) M2 false 0 0) (fun i _ => l.length - (intOf i).toNat)
  case atStart => exact ⟨0, 0, 0, none, none, 0, 0, [], [], rfl, Nat.zero_le _, Nat.zero_le _, rfl, Nat.zero_le _, rfl, rfl, by omega, HG.out.1, HG.out.2.1, HG.out.2.2⟩
  case round =>
    obtain ⟨k, j1, j2, q1, q2, e1, e2, M1, M2, rfl, hk, hk40, hj1, hjn, hM1, hj2, hj2k, hG, hH1, hH2⟩ := hrel
    have HGk : Hid (Wt w wr g n f d ∧ Ht w wr (h2 + 1) h1 (.slice q1 j1 e1) M1 false 0 0 ∧ Ht w wr (h2 + 1) h2 (.slice q2 j2 e2) M2 false 0 0) := ⟨hG, hH1, hH2⟩
    have HM : Hid (j1 = M1.length ∧ cntT M1 = 0 ∧ j2 = M2.length ∧ j2 = min k n) := ⟨hj1, hM1, hj2, hj2k⟩
    clear hG hH1 hH2 hj1 hM1 hj2 hj2k
    obtain ⟨c0, c1, c2, l0⟩ := HGk.out.1.cells
    obtain ⟨a0, a1, a2, a3, la⟩ := HGk.out.2.1.cells
    have hsz : h2 + 1 ≤ wr.heap.size := HGk.out.2.2.cells.2.2.2.2
    by_cases hlt : k < l.length
    · have hkI : (k : Int) < (l.length : Int) := by omega
      by_cases hlt2 : k < 40
      · have hkJ : (k : Int) < 40 := by omega
        obtain ⟨j3, hj3⟩ : ∃ j3, j3 = (lastN n M1 false).length := ⟨_, rfl⟩
        have hM1 : (M1.length : Int) ≤ n := by rw [← HM.out.1]; omega
        have hj3n : j3 ≤ n := by have := lastN_len false hM1 (by omega); omega
        have hc0 : cntT (lastN n M1 false) = 0 := by have := cnt_last n M1 false; rw [HM.out.2.1] at this; simp at this; exact this
        have hD := note_at (note_stay (x := false) (now := (k : Int)) (may := true) P.out.2.1 (by omega) (⟨hM1, by omega, by omega, .inr rfl⟩ : HOk n M1.length false 0 0) (.inr (.inr (by rw [hc0]; omega)))) HGk.out.2.1.2.1 (by omega) j3 hj3 wr (Below.refl _ _)
        have HD : Hid (_ ∧ _ ∧ _) := ⟨hD, hj3, hc0⟩
        clear hD hj3 hM1 hc0
        go_wp2_with fail
        refine Calls.mono HD.out.1 ?_
        rintro r w2 ⟨p3, c3, rfl, hq3, hz3, hc3, hf3⟩
        clear hz3 hc3 hf3 c0 c1 c2 l0 a0 a1 a2 a3 la
        go_upto_region 8 with fail
        obtain ⟨W2, hW2⟩ : ∃ W2, W2 = w2.alloc (.cells #[.slice p3 j3 c3, .bool false, .int .i64 0, .int .i64 0] 27) := ⟨_, rfl⟩
        rw [← hW2]
        have hb2 : Below wr.heap.size wr W2 := by rw [hW2]; exact hq3.out.2.2.2.alloc hq3.out.2.2.2.size _
        have hX2 : W2.heap[w2.heap.size]? = some (.cells #[.slice p3 j3 c3, .bool false, .int .i64 0, .int .i64 0] 27 (0, 0)) := by rw [hW2]; exact heap_alloc_new _ _
        have H2 : Hid (Wt w W2 g n f d ∧ Ht w W2 (h2 + 1) h1 (.slice q1 j1 e1) M1 false 0 0 ∧ Ht w W2 (h2 + 1) h2 (.slice q2 j2 e2) M2 false 0 0 ∧ BsAt W2 (.slice p3 j3 c3) (lastN n M1 false) ∧ (∀ b, Value.ownBlock (.slice p3 j3 c3) = some b → h2 + 1 ≤ b) ∧ W2.heap[w2.heap.size]? = some (.cells #[.slice p3 j3 c3, .bool false, .int .i64 0, .int .i64 0] 27 (0, 0)) ∧ h2 + 1 ≤ w2.heap.size) := ⟨HGk.out.1.below hb2, HGk.out.2.1.below hb2, HGk.out.2.2.below hb2, by rw [hW2]; exact hq3.out.1.below (below_new _), fun b hb => Nat.le_trans hsz (hq3.out.2.1 b hb), hX2, Nat.le_trans hsz hq3.out.2.2.2.size⟩
        clear hW2 hb2 hX2 HGk hq3 hsz
        obtain ⟨gx, hgx⟩ : ∃ gx, gx = w2.heap.size := ⟨_, rfl⟩
        rw [← hgx] at H2 ⊢
        clear hgx
        obtain ⟨c0, c1, c2, l0⟩ := H2.out.1.cells
        obtain ⟨b0, b1, b2, b3, lb⟩ := H2.out.2.2.1.cells
        have hsz : h2 + 1 ≤ W2.heap.size := lb
        obtain ⟨bb, oo, rfl, hb1, hc⟩ := P.out.2.2.1 k hlt
        have hc' := (H2.out.1.2.2.cell (p := ⟨bb, oo + k, none⟩) hb1).trans hc
        have hbl : bb < W2.heap.size := Nat.lt_of_lt_of_le hb1 H2.out.1.2.2.size
        generalize l[k] = y at hc'
        obtain ⟨j4, hj4⟩ : ∃ j4, j4 = (lastN n M2 y).length := ⟨_, rfl⟩
        have hM2 : (M2.length : Int) ≤ n := by rw [← HM.out.2.2.1, HM.out.2.2.2]; omega
        have hj4k : j4 = min (k + 1) n := by have h1 := lastN_len y hM2 (by omega); have h2 := HM.out.2.2.1; have h3 := HM.out.2.2.2; omega
        have hD2 := note_at (note_stay (x := y) (now := (k : Int)) (may := false) P.out.2.1 (by omega) (⟨hM2, by omega, by omega, .inr rfl⟩ : HOk n M2.length false 0 0) (.inr (.inl rfl))) H2.out.2.2.1.2.1 (by omega) j4 hj4
        have HD2 : Hid (_ ∧ _ ∧ _) := ⟨hD2, hj4, hj4k⟩
        clear hD2 hj4 hj4k hM2 hc hb1
        go_cut [14, 15, 16] from 38 to 49 (fun x s e wx => ∃ gy p4 c4, x = .pointer (some ⟨gy, 0, none⟩) ∧ s = .bool false ∧ e = .int .i64 0 ∧ HEnd W2 (.slice p4 j4 c4) (lastN n M2 y) false 0 0 gy wx)
        case first =>
          go_region_held3 (fun W => W.cell? ⟨g, 0, none⟩ = some (.int .i64 n) ∧ W.cell? ⟨g, 1, none⟩ = some (.int .i64 f) ∧ W.cell? ⟨g, 2, none⟩ = some (.int .i64 d) ∧ W.cell? ⟨h2, 0, none⟩ = some (.slice q2 j2 e2) ∧ W.cell? ⟨h2, 1, none⟩ = some (.bool false) ∧ W.cell? ⟨h2, 2, none⟩ = some (.int .i64 0) ∧ W.cell? ⟨h2, 3, none⟩ = some (.int .i64 0) ∧ W.cell? ⟨bb, oo + k, none⟩ = some (.bool y) ∧ Below W2.heap.size W2 W) (first | exact held8 c0 c1 c2 b0 b1 b2 b3 hc' ((Below.refl _ _).drew) | exact held8 c0 c1 c2 b0 b1 b2 b3 hc' (((Below.refl _ _).drew).alloc (by simp) _) | exact held8 c0 c1 c2 b0 b1 b2 b3 hc' hq5.out.2.2.2 | exact held8 c0 c1 c2 b0 b1 b2 b3 hc' (hq5.out.2.2.2.alloc hq5.out.2.2.2.size _) | exact held8 c0 c1 c2 b0 b1 b2 b3 hc' (((Below.refl _ _).alloc (Nat.le_refl _) _).drew) | exact held8 c0 c1 c2 b0 b1 b2 b3 hc' (below_set4 hq5.out.2.2.2 (Nat.le_refl _))) (first | (go_at_call 7; refine (HD2.out.1 _ ?hbW).mono ?_; (case hbW => first | assumption | exact (Below.refl _ _).drew | exact ((Below.refl _ _).drew).alloc (by simp) _ | exact ((Below.refl _ _).alloc (Nat.le_refl _) _).drew); rintro r w5 ⟨p4, c4, rfl, hq5, hz5, hc5, hf5⟩))
          all_goals
            clear hz5 hc5 hf5
            go_wp2_with fail
            go_meet
            refine ⟨_, p4, c4, rfl, rfl, rfl, ?_⟩
            first
            | with_reducible exact endA hq5.out.1 hq5.out.2.1 (Nat.le_refl _) hq5.out.2.2.2
            | with_reducible exact endB (by first | exact heap_alloc_new _ _ | exact heap_newd _ _) hq5.out.1 hq5.out.2.1 hq5.out.2.2.1 hq5.out.2.2.2
        case rest =>
        obtain ⟨gy, p4, c4, rfl, rfl, rfl, hE⟩ := hcut
        obtain ⟨W6, hW6⟩ : ∃ W6, W6 = wc := ⟨_, rfl⟩
        subst hW6
        have H6 : Hid (Wt w W6 g n f d ∧ Ht w W6 (h2 + 1) h1 (.slice q1 j1 e1) M1 false 0 0 ∧ Ht w W6 (h2 + 1) h2 (.slice q2 j2 e2) M2 false 0 0 ∧ BsAt W6 (.slice p3 j3 c3) (lastN n M1 false) ∧ (∀ b, Value.ownBlock (.slice p3 j3 c3) = some b → h2 + 1 ≤ b) ∧ BsAt W6 (.slice p4 j4 c4) (lastN n M2 y) ∧ (∀ b, Value.ownBlock (.slice p4 j4 c4) = some b → h2 + 1 ≤ b)) := ⟨H2.out.1.below hE.2.2.2.2, H2.out.2.1.below hE.2.2.2.2, H2.out.2.2.1.below hE.2.2.2.2, H2.out.2.2.2.1.below hE.2.2.2.2, H2.out.2.2.2.2.1, hE.2.1, fun b hb => Nat.le_trans hsz (hE.2.2.1 b hb)⟩
        obtain ⟨x0', x1', x2', x3', lx⟩ := four_cells (box_below H2.out.2.2.2.2.2.1 hE.2.2.2.2)
        obtain ⟨y0, y1, y2, y3, ly⟩ := four_cells hE.1
        have hgy : h2 + 1 ≤ gy := Nat.le_trans hsz hE.2.2.2.1
        have hgx : h2 + 1 ≤ gx := H2.out.2.2.2.2.2.2
        clear hE hc' hbl c0 c1 c2 l0 b0 b1 b2 b3 lb hsz H2
        obtain ⟨c0, c1, c2, l0⟩ := H6.out.1.cells
        obtain ⟨a0, a1, a2, a3, la⟩ := H6.out.2.1.cells
        obtain ⟨fa0, fa1, fa2, fa3⟩ := H6.out.2.1.froz
        obtain ⟨b0, b1, b2, b3, lb⟩ := H6.out.2.2.1.cells
        obtain ⟨fb0, fb1, fb2, fb3⟩ := H6.out.2.2.1.froz
        have n1 : h1 ≠ gx := by omega
        have n2 : h1 ≠ gy := by omega
        have n3 : h2 ≠ gx := by omega
        have n4 : h2 ≠ gy := by omega
        have relOf : ∀ W7, W7 = set4 (set4 W6 h1 (.slice p3 j3 c3) (.bool false) (.int .i64 0) (.int .i64 0)) h2 (.slice p4 j4 c4) (.bool false) (.int .i64 0) (.int .i64 0) → Wt w W7 g n f d ∧ Ht w W7 (h2 + 1) h1 (.slice p3 j3 c3) (lastN n M1 false) false 0 0 ∧ Ht w W7 (h2 + 1) h2 (.slice p4 j4 c4) (lastN n M2 y) false 0 0 := by
          rintro W7 rfl
          have z1 := H6.out.1.set hg1 H6.out.2.1.2.2.2.1 (.slice p3 j3 c3) (.bool false) (.int .i64 0) (.int .i64 0)
          have z2 := H6.out.2.1.set H6.out.2.2.2.1 H6.out.2.2.2.2.1 false 0 0
          have z3 := H6.out.2.2.1.other (Ne.symm h12) h12' (.slice p3 j3 c3) (.bool false) (.int .i64 0) (.int .i64 0)
          refine ⟨z1.set hg2 z3.2.2.2.1 _ _ _ _, z2.other h12 (Nat.lt_succ_self _) _ _ _ _, z3.set ?_ H6.out.2.2.2.2.2.2 false 0 0⟩
          exact H6.out.2.2.2.2.2.1.keep (by rw [set4_size]; exact Nat.le_refl _) (fun b hb => set4_other (by have := H6.out.2.2.2.2.2.2 b hb; omega))
        have RO : Hid _ := relOf
        clear relOf
        by_cases hkn : k + 1 ≤ n
        · have hknI : (k : Int) + 1 ≤ (n : Int) := by omega
          have hne : ((j4 : Int) == (k : Int) + 1) = true := by have := HD2.out.2.2; simp; omega
          go_wp2
          go_roundw
          case rel => exact ⟨k + 1, j3, j4, p3, p4, c3, c4, _, _, by simp, hlt, hlt2, HD.out.2.1, hj3n, HD.out.2.2, HD2.out.2.1, HD2.out.2.2, (RO.out _ rfl).1, (RO.out _ rfl).2.1, (RO.out _ rfl).2.2⟩
          case measure => simp [intOf]; omega
        · have hknI : ¬ ((k : Int) + 1 ≤ (n : Int)) := by omega
          have hne : ((j4 : Int) == (n : Int)) = true := by have := HD2.out.2.2; simp; omega
          go_wp2
          go_roundw
          case rel => exact ⟨k + 1, j3, j4, p3, p4, c3, c4, _, _, by simp, hlt, hlt2, HD.out.2.1, hj3n, HD.out.2.2, HD2.out.2.1, HD2.out.2.2, (RO.out _ rfl).1, (RO.out _ rfl).2.1, (RO.out _ rfl).2.2⟩
          case measure => simp [intOf]; omega
      · have hnk : ¬ ((k : Int) < 40) := by omega
        have hpos : (0 : Int) < (l.length : Int) := by omega
        have hz : ¬ (l.length = 0) := by omega
        have HB : Hid (_ ∧ True) := ⟨HGk.out.1.2.2, trivial⟩
        clear HGk
        go_wp2
        go_ret
        exact ⟨rfl, HB.out.1⟩
    · have hnk : ¬ ((k : Int) < (l.length : Int)) := by omega
      by_cases hz : l.length = 0
      · have hpos : ¬ ((0 : Int) < (l.length : Int)) := by omega
        have HB : Hid (_ ∧ True) := ⟨HGk.out.1.2.2, trivial⟩
        clear HGk
        go_wp2_with fail
        refine (P.out.2.2.2.1 _).mono ?_
        rintro r w3 ⟨rfl, hb3⟩
        have HB3 : Hid (_ ∧ True) := ⟨HB.out.1.trans (hb3.mono HB.out.1.size), trivial⟩
        clear hb3
        go_wp2_with fail
        refine (P.out.2.2.2.2 _).mono ?_
        rintro r w4 ⟨rfl, hb4⟩
        have HB4 : Hid (_ ∧ True) := ⟨HB3.out.1.trans (hb4.mono HB3.out.1.size), trivial⟩
        clear hb4
        go_wp2
        go_ret
        exact ⟨rfl, HB4.out.1⟩
      · have hpos : (0 : Int) < (l.length : Int) := by omega
        have HB : Hid (_ ∧ True) := ⟨HGk.out.1.2.2, trivial⟩
        clear HGk
        go_wp2
        go_ret
        exact ⟨rfl, HB.out.1⟩
end Go.Proofs.Ytofnhdkcadoiiab.Walks
