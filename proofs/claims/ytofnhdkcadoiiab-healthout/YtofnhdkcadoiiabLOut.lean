/-
  HealthOut: while one is out nothing throws it out again. Condition: the list can be read.
-/
import Derived.Test.YtofnhdkcadoiiabRegion
import Derived.Deep.CutRange
import Derived.WalkKit
import Derived.ProofKit
import Derived.Handy
import Derived.LoopTactic
import Derived.Below
import Derived.Laws.BitsAllLaws
import Derived.RegionTactic
import Derived.Deep.RegionHeld3
import Derived.Deep.DrawnRows
import Derived.Deep.AppendLies
import Derived.Laws.OwnMore
import Derived.Deep.Onto
import Derived.Deep.QuietTactic
import Derived.BigQuiet
namespace Go.Proofs.Ytofnhdkcadoiiab.Walks
open Go.RowKit
set_option linter.unusedVariables false
set_option linter.unusedSimpArgs false
attribute [local go_sem ↓] Go.wp_at_zero Go.wp_at_succ

theorem cnt_rep (k : Nat) : cntT (List.replicate k true) = k := by
  induction k with
  | zero => rfl
  | succ k ih => rw [List.replicate_succ', cntT_snoc, ih]; rfl

theorem last_rep {n : Int} {k : Nat} (h : (k : Int) < n) : lastN n (List.replicate k true) true = List.replicate (k + 1) true := by
  unfold lastN
  rw [if_pos (by simpa using h), List.replicate_succ']

set_option maxHeartbeats 16000000 in
set_option maxRecDepth 100000 in
theorem out_law (x0 : Int) (h0 : (Lit.int .i64 x0).wf = true) (x1 : Int) (h1 : (Lit.int .i64 x1).wf = true) (x2 : Int) (h2 : (Lit.int .i64 x2).wf = true) (v : Value) (l : List Bool) {w : World} (hv : BsAt w v l) (hl : l.length ≤ 140737488355328) :
    Calls Try.prog 4 #[.int .i64 x0, .int .i64 x1, .int .i64 x2, v] w fun e w' => e = .returned (.bool true) ∧ Below w.heap.size w w' := by
  obtain ⟨n, f, d, hn, hf, hd, hnp, hwat⟩ := watch_some x0 x1 x2 h0 h1 h2
  have hok : WatOk n f d := ⟨by omega, by omega, by omega⟩
  obtain ⟨p, c, rfl, hlc, hcm, pa⟩ := hv.parts
  unfold maxLen at hcm
  have hN1 : Hid (∀ (v : Value) (k : Nat) (W : World), k + 1 < f → BsAt W v (List.replicate k true) → Calls Try.prog 7 #[watV n f d, hltV v false 0 0, .bool true, .int .i64 7, .bool true] W fun r w' => ∃ q e, r = .returned (.tuple #[hltV (.slice q (k + 1) e) false 0 0, .bool false, .int .i64 0]) ∧ BsAt w' (.slice q (k + 1) e) (List.replicate (k + 1) true) ∧ (∀ b, Value.ownBlock (.slice q (k + 1) e) = some b → W.heap.size ≤ b) ∧ Below W.heap.size W w') := fun (v : Value) (k : Nat) (W : World) hk hv => by
    have := note_fresh n f d v (List.replicate k true) false 0 0 true 7 true W hv (by simp; omega)
    rw [note_stay hok (by omega) ⟨by simp; omega, by omega, by omega, .inr rfl⟩ (.inr (.inr (by rw [last_rep (by omega), cnt_rep]; omega))), last_rep (by omega)] at this
    refine this.mono ?_
    intro r w' hp
    obtain ⟨q, e, rfl, z1, z2, z3⟩ := hpostF_open hp
    rw [List.length_replicate] at z1 z2
    exact ⟨q, e, by rw [List.length_replicate], z1, z2, z3⟩
  have hN2 : Hid (∀ (v : Value) (W : World), BsAt W v (List.replicate (f - 1) true) → Calls Try.prog 7 #[watV n f d, hltV v false 0 0, .bool true, .int .i64 7, .bool true] W fun r w' => ∃ q e, r = .returned (.tuple #[hltV (.slice q 0 e) true (7 + d) 1, .bool true, .int .i64 0]) ∧ BsAt w' (.slice q 0 e) [] ∧ (∀ b, Value.ownBlock (.slice q 0 e) = some b → W.heap.size ≤ b) ∧ Below W.heap.size W w') := fun (v : Value) (W : World) hv => by
    have := note_fresh n f d v (List.replicate (f - 1) true) false 0 0 true 7 true W hv (by simp; omega)
    rw [note_out hok (by omega) ⟨by simp; omega, by omega, by omega, .inr rfl⟩ (by rw [last_rep (by omega), cnt_rep]; omega)] at this
    rw [show holdV (d : Int) 0 = d by unfold holdV; simp; omega] at this
    exact this
  have P : Hid (_ ∧ _ ∧ _) := ⟨hwat, hok, pa⟩
  clear hwat hok h0 h1 h2 pa hv hnp
  go_enter Try.func4, Try.ntmps4
  go_wp2_with fail
  refine (P.out.1 _).mono ?_
  rintro r w1 ⟨rfl, hb1⟩
  obtain ⟨W1, hW1⟩ : ∃ W1, W1 = (w1.alloc (.cells #[.int .i64 n, .int .i64 f, .int .i64 d] 24)).alloc (.cells #[.slice none 0 0, .bool false, .int .i64 0, .int .i64 0] 27) := ⟨_, rfl⟩
  have hbW : Below w1.heap.size w1 W1 := by rw [hW1]; exact ((Below.refl _ _).alloc (Nat.le_refl _) _).alloc (by simp) _
  have HG : Hid (Wt w W1 w1.heap.size n f d ∧ Ht w W1 (w1.heap.size + 1 + 1) (w1.heap.size + 1) (.slice none 0 0) [] false 0 0) :=
    ⟨⟨by rw [hW1]; exact heap_old _ _ (heap_alloc_new _ _), hb1.size, hb1.trans (hbW.mono hb1.size)⟩, by rw [hW1]; exact heap_second _ _ _, bsAt_nil _, (by intro b h; cases h), by have := hb1.size; omega, by omega⟩
  have HW1 : Hid _ := hW1
  clear hb1 hbW hW1
  go_wp2
  rw [← HW1.out]
  clear HW1
  obtain ⟨g, hg⟩ : ∃ g, g = w1.heap.size := ⟨_, rfl⟩
  rw [← hg] at HG ⊢
  clear hg
  obtain ⟨h, hh⟩ : ∃ h, h = g + 1 := ⟨_, rfl⟩
  rw [← hh] at HG ⊢
  have hgh : g ≠ h := by omega
  clear hh
  go_loopw [11] (fun i wr => ∃ (k j : Nat) (q : Option Addr) (e : Nat), i = .int .i64 k ∧ Wt w wr g n f d ∧ ((k < f ∧ j = k ∧ Ht w wr (h + 1) h (.slice q j e) (List.replicate k true) false 0 0) ∨ (k = f ∧ j = 0 ∧ Ht w wr (h + 1) h (.slice q j e) [] true (7 + d) 1))) (fun i _ => f - (intOf i).toNat)
  case atStart => exact ⟨0, 0, none, 0, rfl, HG.out.1, .inl ⟨by omega, rfl, HG.out.2⟩⟩
  case round =>
    obtain ⟨k, j, q, e, rfl, hG, hcase⟩ := hrel
    rcases hcase with ⟨hkf, rfl, hH⟩ | ⟨hkf, hj0, hH⟩
    · have hkd : (j : Int) < (f : Int) := by omega
      have HGk : Hid (Wt w wr g n f d ∧ Ht w wr (h + 1) h (.slice q j e) (List.replicate j true) false 0 0) := ⟨hG, hH⟩
      clear hG hH
      obtain ⟨c0, c1, c2, l0⟩ := HGk.out.1.cells
      obtain ⟨e0, e1, e2, e3, l1⟩ := HGk.out.2.cells
      have hsz : h + 1 ≤ wr.heap.size := l1
      by_cases hlast : j + 1 < f
      · have hne : ((j : Int) == (f : Int) - 1) = false := by simp; omega
        go_wp2_with fail
        refine (hN1.out _ j _ hlast HGk.out.2.2.1).mono ?_
        rintro r w2 ⟨q2, e2', rfl, hat2, hfr2, hb2⟩
        have H2 : Hid (Wt w w2 g n f d ∧ Ht w w2 (h + 1) h (.slice q j e) (List.replicate j true) false 0 0 ∧ BsAt w2 (.slice q2 (j + 1) e2') (List.replicate (j + 1) true) ∧ (∀ b, Value.ownBlock (.slice q2 (j + 1) e2') = some b → h + 1 ≤ b)) := ⟨HGk.out.1.below hb2, HGk.out.2.below hb2, hat2, fun b hb => Nat.le_trans hsz (hfr2 b hb)⟩
        clear hat2 hfr2 hb2 HGk c0 c1 c2 l0 e0 e1 e2 e3 l1 hsz
        obtain ⟨c0, c1, c2, l0⟩ := H2.out.1.cells
        obtain ⟨e0, e1, e2, e3, l1⟩ := H2.out.2.1.cells
        obtain ⟨q0, q1, q2', q3⟩ := H2.out.2.1.froz
        go_wp2
        go_roundw
        case rel => exact ⟨j + 1, j + 1, q2, e2', by simp, (H2.out.1.set hgh H2.out.2.1.2.2.2.1 _ _ _ _).below (below_new _), .inl ⟨hlast, rfl, (H2.out.2.1.set H2.out.2.2.1 H2.out.2.2.2 false 0 0).below (below_new _)⟩⟩
        case measure => simp [intOf]; omega
      · obtain rfl : j = f - 1 := by omega
        have hne : (((f - 1 : Nat) : Int) == (f : Int) - 1) = true := by simp; omega
        go_wp2_with fail
        refine (hN2.out _ _ HGk.out.2.2.1).mono ?_
        rintro r w2 ⟨q2, e2', rfl, hat2, hfr2, hb2⟩
        have H2 : Hid (Wt w w2 g n f d ∧ Ht w w2 (h + 1) h (.slice q (f - 1) e) (List.replicate (f - 1) true) false 0 0 ∧ BsAt w2 (.slice q2 0 e2') [] ∧ (∀ b, Value.ownBlock (.slice q2 0 e2') = some b → h + 1 ≤ b)) := ⟨HGk.out.1.below hb2, HGk.out.2.below hb2, hat2, fun b hb => Nat.le_trans hsz (hfr2 b hb)⟩
        clear hat2 hfr2 hb2 HGk c0 c1 c2 l0 e0 e1 e2 e3 l1 hsz
        obtain ⟨c0, c1, c2, l0⟩ := H2.out.1.cells
        obtain ⟨e0, e1, e2, e3, l1⟩ := H2.out.2.1.cells
        obtain ⟨q0, q1, q2', q3⟩ := H2.out.2.1.froz
        go_wp2
        go_roundw
        case rel => exact ⟨f, 0, q2, e2', by simp; omega, (H2.out.1.set hgh H2.out.2.1.2.2.2.1 _ _ _ _).below (below_new _), .inr ⟨rfl, rfl, (H2.out.2.1.set H2.out.2.2.1 H2.out.2.2.2 true (7 + d) 1).below (below_new _)⟩⟩
        case measure => simp [intOf]; omega
    · subst hj0
      obtain rfl : k = f := hkf
      have hkd : ¬ ((k : Int) < (k : Int)) := by omega
      have HGk : Hid (Wt w wr g n k d ∧ Ht w wr (h + 1) h (.slice q 0 e) [] true (7 + d) 1) := ⟨hG, hH⟩
      clear hG hH
      obtain ⟨c0, c1, c2, l0⟩ := HGk.out.1.cells
      obtain ⟨e0, e1, e2, e3, l1⟩ := HGk.out.2.cells
      obtain ⟨U, hU⟩ : ∃ U, U = 7 + (d : Int) := ⟨_, rfl⟩
      rw [← hU] at e2 HGk
      have u0 : 0 ≤ U := by omega
      have u1 : U ≤ 507 := by omega
      have hU' : 7 + (d : Int) = U := hU.symm
      clear hU
      go_wp2
      clear c0 c1 c2 l0 e0 e1 e2 e3 l1
      go_loopw [16] (fun i wr => ∃ (m' j' : Nat) (q' : Option Addr) (e' : Nat) (M : List Bool), i = .int .i64 m' ∧ m' ≤ l.length ∧ m' ≤ 30 ∧ j' = M.length ∧ j' ≤ n ∧ Wt w wr g n k d ∧ Ht w wr (h + 1) h (.slice q' j' e') M true U 1) (fun i _ => l.length - (intOf i).toNat)
      case atStart => exact ⟨0, 0, q, e, [], rfl, Nat.zero_le _, Nat.zero_le _, rfl, Nat.zero_le _, HGk.out.1, HGk.out.2⟩
      case round =>
        obtain ⟨i, j', q', e', M, rfl, hi, hi30, hj', hjn, hG, hH⟩ := hrel
        have HGi : Hid (Wt w wr g n k d ∧ Ht w wr (h + 1) h (.slice q' j' e') M true U 1 ∧ j' = M.length) := ⟨hG, hH, hj'⟩
        clear hG hH hj'
        obtain ⟨c0, c1, c2, l0⟩ := HGi.out.1.cells
        obtain ⟨e0, e1, e2, e3, l1⟩ := HGi.out.2.1.cells
        by_cases hlt : i < l.length
        · have hiI : (i : Int) < (l.length : Int) := by omega
          by_cases hlt2 : i < 30
          · have hiJ : (i : Int) < 30 := by omega
            obtain ⟨b1, o1, rfl, hb1, hc⟩ := P.out.2.2 i hlt
            have hc' := (HGi.out.1.2.2.cell (p := ⟨b1, o1 + i, none⟩) hb1).trans hc
            have hbl : b1 < wr.heap.size := Nat.lt_of_lt_of_le hb1 HGi.out.1.2.2.size
            generalize l[i] = y at hc'
            obtain ⟨j2, hj2⟩ : ∃ j2, j2 = (lastN n M y).length := ⟨_, rfl⟩
            have hM : (M.length : Int) ≤ n := by rw [← HGi.out.2.2]; omega
            have hj2n : j2 ≤ n := by have := lastN_len y hM (by omega); omega
            have hD := note_at (note_stay (x := y) (now := 7) (may := true) P.out.2.1 (by omega) (⟨hM, by omega, by omega, .inl rfl⟩ : HOk n M.length true U 1) (.inl rfl)) HGi.out.2.1.2.1 (by omega) j2 hj2
            have HD : Hid (_ ∧ _) := ⟨hD, hj2⟩
            clear hD hj2 hc hb1
            have hsz : h + 1 ≤ wr.heap.size := l1
            go_upto_region 14 with fail
            go_cut [17, 18, 19] from 61 to 71 (fun x s e wx => ∃ gx q2 d2, x = .pointer (some ⟨gx, 0, none⟩) ∧ s = .bool false ∧ e = .int .i64 0 ∧ HEnd wr (.slice q2 j2 d2) (lastN n M y) true U 1 gx wx)
            case first =>
              go_region_held3 (fun W => W.cell? ⟨g, 0, none⟩ = some (.int .i64 n) ∧ W.cell? ⟨g, 1, none⟩ = some (.int .i64 k) ∧ W.cell? ⟨g, 2, none⟩ = some (.int .i64 d) ∧ W.cell? ⟨h, 0, none⟩ = some (.slice q' j' e') ∧ W.cell? ⟨h, 1, none⟩ = some (.bool true) ∧ W.cell? ⟨h, 2, none⟩ = some (.int .i64 U) ∧ W.cell? ⟨h, 3, none⟩ = some (.int .i64 1) ∧ W.cell? ⟨b1, o1 + i, none⟩ = some (.bool y) ∧ Below wr.heap.size wr W) (first | exact held8 c0 c1 c2 e0 e1 e2 e3 hc' ((Below.refl _ _).drew) | exact held8 c0 c1 c2 e0 e1 e2 e3 hc' (((Below.refl _ _).drew).alloc (by simp) _) | exact held8 c0 c1 c2 e0 e1 e2 e3 hc' hq5.out.2.2.2 | exact held8 c0 c1 c2 e0 e1 e2 e3 hc' (hq5.out.2.2.2.alloc hq5.out.2.2.2.size _) | exact held8 c0 c1 c2 e0 e1 e2 e3 hc' (((Below.refl _ _).alloc (Nat.le_refl _) _).drew) | exact held8 c0 c1 c2 e0 e1 e2 e3 hc' (below_set4 hq5.out.2.2.2 (Nat.le_refl _))) (first | (go_at_call 7; refine (HD.out.1 _ ?hbW).mono ?_; (case hbW => first | assumption | exact (Below.refl _ _).drew | exact ((Below.refl _ _).drew).alloc (by simp) _ | exact ((Below.refl _ _).alloc (Nat.le_refl _) _).drew); rintro r w5 ⟨q2, d2, rfl, hq5, hz5, hc5, hf5⟩))
              all_goals
                clear hz5 hc5 hf5
                go_wp2_with fail
                go_meet
                refine ⟨_, q2, d2, rfl, rfl, rfl, ?_⟩
                first
                | with_reducible exact endA hq5.out.1 hq5.out.2.1 (Nat.le_refl _) hq5.out.2.2.2
                | with_reducible exact endB (by first | exact heap_alloc_new _ _ | exact heap_newd _ _) hq5.out.1 hq5.out.2.1 hq5.out.2.2.1 hq5.out.2.2.2
            case rest =>
            obtain ⟨gx, q2, d2, rfl, rfl, rfl, hE⟩ := hcut
            obtain ⟨W6, hW6⟩ : ∃ W6, W6 = wc := ⟨_, rfl⟩
            subst hW6
            have H6 : Hid (Wt w W6 g n k d ∧ Ht w W6 (h + 1) h (.slice q' j' e') M true U 1 ∧ BsAt W6 (.slice q2 j2 d2) (lastN n M y) ∧ (∀ b, Value.ownBlock (.slice q2 j2 d2) = some b → h + 1 ≤ b)) := ⟨HGi.out.1.below hE.2.2.2.2, HGi.out.2.1.below hE.2.2.2.2, hE.2.1, fun b hb => Nat.le_trans hsz (hE.2.2.1 b hb)⟩
            obtain ⟨i0, i1, i2, i3, l2⟩ := four_cells hE.1
            have hgx : h ≠ gx := by have := hE.2.2.2.1; omega
            clear hE hc' hbl c0 c1 c2 l0 e0 e1 e2 e3 l1 hsz HGi
            obtain ⟨c0, c1, c2, l0⟩ := H6.out.1.cells
            obtain ⟨e0, e1, e2, e3, l1⟩ := H6.out.2.1.cells
            obtain ⟨f0, f1, f2, f3⟩ := H6.out.2.1.froz
            go_wp2
            go_roundw
            case rel => exact ⟨i + 1, j2, q2, d2, lastN n M y, by simp, hlt, hlt2, HD.out.2, hj2n, H6.out.1.set hgh H6.out.2.1.2.2.2.1 _ _ _ _, H6.out.2.1.set H6.out.2.2.1 H6.out.2.2.2 true U 1⟩
            case measure => simp [intOf]; omega
          · have hnk : ¬ ((i : Int) < 30) := by omega
            have HB : Hid (_ ∧ _) := ⟨HGi.out.1.2.2, trivial⟩
            clear HGi
            go_wp2
            go_ret
            exact ⟨rfl, HB.out.1⟩
        · have hnk : ¬ ((i : Int) < (l.length : Int)) := by omega
          have HB : Hid (_ ∧ _) := ⟨HGi.out.1.2.2, trivial⟩
          clear HGi
          go_wp2
          go_ret
          exact ⟨rfl, HB.out.1⟩
end Go.Proofs.Ytofnhdkcadoiiab.Walks
