/-
  usherkeep.asked: a book behind some requests. Condition: what is read can be read.
-/
import Derived.Test.YtlpedligkofegabKP
import Derived.Test.YtlpedligkofegabLB
import Derived.WalkKit
import Derived.ProofKit
import Derived.Handy
import Derived.LoopTactic
import Derived.Below
import Derived.Laws.BitsAllLaws
import Derived.RegionTactic
import Derived.Deep.RegionHeld3
import Derived.Deep.DrawnRows
import Derived.Deep.AppendLies
import Derived.Laws.OwnMore
import Derived.Deep.Onto
import Derived.Deep.QuietTactic
import Derived.BigQuiet
namespace Go.Proofs.Ytlpedligkofegab.Walks
open Go.RowKit
set_option linter.unusedVariables false
set_option linter.unusedSimpArgs false
attribute [local go_sem ↓] Go.wp_at_zero Go.wp_at_succ

abbrev plO (x1 x2 x3 x4 x5 : Int) : Obj := .cells #[.int .i64 x1, .int .i64 x2, .int .i64 x3, .int .i64 x4, .int .i64 x5] 46

/-- asked's boxes: the answer's, the book's. -/
structure St (w W : World) (va vb : Value) (L : List Lf) (R : List Rq) : Prop where
  res : W.heap[w.heap.size]? = some (bkO (.slice none 0 0) (.slice none 0 0))
  box : W.heap[w.heap.size + 1]? = some (bkO va vb)
  bk : BkNew (w.heap.size + 1 + 1) W va vb L R
  bel : Below w.heap.size w W
  sz : w.heap.size + 1 + 1 ≤ W.heap.size

theorem BkNew.below {B : Nat} {W W' : World} {va vb : Value} {L : List Lf} {R : List Rq} (h : BkNew B W va vb L R) (hb : Below W.heap.size W W') : BkNew B W' va vb L R := ⟨h.1.below hb, h.2⟩

theorem BkNew.mono {B B' : Nat} {W : World} {va vb : Value} {L : List Lf} {R : List Rq} (h : BkNew B W va vb L R) (hB : B' ≤ B) : BkNew B' W va vb L R := ⟨h.1, fun b e => Nat.le_trans hB (h.2.1 b e), fun b e => Nat.le_trans hB (h.2.2 b e)⟩

theorem St.below {w W W' : World} {va vb : Value} {L : List Lf} {R : List Rq} (h : St w W va vb L R) (hb : Below W.heap.size W W') : St w W' va vb L R :=
  ⟨box_below h.res hb, box_below h.box hb, h.bk.below hb, h.bel.trans (hb.mono h.bel.size), Nat.le_trans h.sz hb.size⟩

theorem St.set {w W : World} {va vb va' vb' : Value} {L L' : List Lf} {R R' : List Rq} (h : St w W va vb L R) (hn : BkNew (w.heap.size + 1 + 1) W va' vb' L' R') : St w (set2 W (w.heap.size + 1) va' vb') va' vb' L' R' := by
  have ho := bk_out hn h.box (w := w) h.bel (Nat.le_succ _)
  exact ⟨(set2_other (by omega)).trans h.res, ho.1, ⟨ho.2.1.1, hn.2⟩, ho.2.2, by rw [set2_size]; exact h.sz⟩

theorem set2_below {W : World} {B : Nat} {a b : Value} {g : Nat} {o : Obj} (h : W.heap[g]? = some o) (hg : g ≠ B) : (set2 W B a b).heap[g]? = some o := (set2_other hg).trans h

theorem held5p {w w' : World} {a1 a2 a3 a4 a5 : Addr} {v1 v2 v3 v4 v5 : Value} (h1 : w.cell? a1 = some v1) (h2 : w.cell? a2 = some v2) (h3 : w.cell? a3 = some v3) (h4 : w.cell? a4 = some v4) (h5 : w.cell? a5 = some v5) (hb : Below w.heap.size w w') :
    w'.cell? a1 = some v1 ∧ w'.cell? a2 = some v2 ∧ w'.cell? a3 = some v3 ∧ w'.cell? a4 = some v4 ∧ w'.cell? a5 = some v5 ∧ Below w.heap.size w w' :=
  ⟨(hb.cell (World.block_lt_of_cell? w _ h1)).trans h1, (hb.cell (World.block_lt_of_cell? w _ h2)).trans h2, (hb.cell (World.block_lt_of_cell? w _ h3)).trans h3, (hb.cell (World.block_lt_of_cell? w _ h4)).trans h4, (hb.cell (World.block_lt_of_cell? w _ h5)).trans h5, hb⟩

theorem results_ctt2 {fn : Func} {x y z : Tmp} {t : TypeId} (h : fn.results = #[.cell x t, .tmp y, .tmp z]) {tmps : Array Value} {P : Program} {w : World} {p : Addr} {v1 v2 v3 : Value} (hx : tmps.getD x undef = .pointer (some p)) (hy : tmps.getD y undef = v2) (hz : tmps.getD z undef = v3)
    (h1 : (loadVar t p).run P w = .ok v1 w) : (results fn tmps).run P w = .ok (.tuple #[v1, v2, v3]) w := results_ctt h hx hy hz h1

set_option maxHeartbeats 16000000 in
set_option maxRecDepth 100000 in
theorem asked_some (v : Value) (l : List Rq) (wf : ∀ y ∈ l, ∀ n ∈ rqC y, (Lit.int .i64 n).wf = true) (w : World) (hat : RcAt rqC w v l) :
    Calls Try.prog 8 #[v] w fun r w' => ∃ (L : List Lf) (R : List Rq) (now : Int) (p : Option Addr) (c : Nat) (q : Option Addr) (m : Nat), r = .returned (.tuple #[bkV (.slice p L.length c) (.slice q R.length m), .int .i64 now, .bool true]) ∧ BkNew w.heap.size w' (.slice p L.length c) (.slice q R.length m) L R ∧ AInv L R now (min l.length 30) ∧ Below w.heap.size w w' := by
  obtain ⟨pa, ca, rfl, hca, hma, pl⟩ := RsAt.parts hat
  unfold maxLen at hma
  obtain ⟨W0, hW0⟩ : ∃ W0, W0 = (w.alloc (bkO (.slice none 0 0) (.slice none 0 0))).alloc (bkO (.slice none 0 0) (.slice none 0 0)) := ⟨_, rfl⟩
  have hx := two_boxes w (bkO (.slice none 0 0) (.slice none 0 0)) (bkO (.slice none 0 0) (.slice none 0 0))
  rw [← hW0] at hx
  have H : Hid (_ ∧ _ ∧ _) := ⟨(⟨hx.1, hx.2.1, bkNew_nil _ _, hx.2.2.1, by rw [hx.2.2.2]; exact Nat.le_refl _⟩ : St w W0 (.slice none 0 0) (.slice none 0 0) [] []), pl, wf⟩
  clear hat pl hx wf
  go_enter Try.func8, Try.ntmps8
  go_wp2
  rw [← hW0]
  clear hW0
  go_loopw [6, 7] (fun t i wr => ∃ (k : Nat) (now : Int) (L : List Lf) (R : List Rq) (p : Option Addr) (c : Nat) (q : Option Addr) (m : Nat), i = .int .i64 k ∧ t = .int .i64 now ∧ k ≤ l.length ∧ k ≤ 30 ∧ AInv L R now k ∧ St w wr (.slice p L.length c) (.slice q R.length m) L R) (fun _ i _ => 30 - (intOf i).toNat)
  case atStart => exact ⟨0, 0, [], [], none, 0, none, 0, rfl, rfl, Nat.zero_le _, by omega, ainv_nil, H.out.1⟩
  case round =>
    obtain ⟨k, now, L, R, p, c, q, m, rfl, rfl, hk, hk30, hI, hS⟩ := hrel
    by_cases hlt : k < l.length
    · have hkI : (k : Int) < (l.length : Int) := by omega
      by_cases h30 : k < 30
      · have h30I : (k : Int) < 30 := by omega
        obtain ⟨b1, o1, hpa, hbb, z1, z2, z3, z4, z5⟩ := H.out.2.1 k hlt
        subst hpa
        have e1 := (hS.bel.cell (p := ⟨b1, o1 + k * 5, none⟩) hbb).trans z1
        have e2 := (hS.bel.cell (p := ⟨b1, o1 + k * 5 + 1, none⟩) hbb).trans z2
        have e3 := (hS.bel.cell (p := ⟨b1, o1 + k * 5 + 2, none⟩) hbb).trans z3
        have e4 := (hS.bel.cell (p := ⟨b1, o1 + k * 5 + 3, none⟩) hbb).trans z4
        have e5 := (hS.bel.cell (p := ⟨b1, o1 + k * 5 + 4, none⟩) hbb).trans z5
        have hwf := H.out.2.2 l[k] (List.getElem_mem hlt)
        obtain ⟨⟨x1, x2, x3, x4, x5⟩, hxk⟩ : ∃ x, x = l[k] := ⟨_, rfl⟩
        rw [← hxk] at e1 e2 e3 e4 e5 hwf
        obtain ⟨i1, hi1, q1⟩ := picked_some x1 12 (hwf x1 (by simp)) (by omega) (by omega)
        obtain ⟨i2, hi2, q2⟩ := picked_some x2 2 (hwf x2 (by simp)) (by omega) (by omega)
        obtain ⟨i3, hi3, q3⟩ := picked_some x3 5 (hwf x3 (by simp)) (by omega) (by omega)
        obtain ⟨i4, hi4, q4⟩ := picked_some x4 10 (hwf x4 (by simp)) (by omega) (by omega)
        obtain ⟨i5, hi5, q5⟩ := picked_some x5 3 (hwf x5 (by simp)) (by omega) (by omega)
        have HP : Hid (_ ∧ _ ∧ _ ∧ _ ∧ _) := ⟨q1, q2, q3, q4, q5⟩
        have hwr : IntKind.i64.wrap (1 + (i2 : Int)) = 1 + (i2 : Int) := by rw [IntKind.wrap_i64]; omega
        have hI0 := hI.now0
        have hIk := hI.nowk
        obtain ⟨L', R', an, fr, hak, hI', hpos⟩ := ainv_ask hI h30 (i1 := i1) (i2 := 1 + (i2 : Int)) (i3 := i3) (i4 := i4) (by omega) (by omega) (by omega)
        obtain ⟨W1, hW1⟩ : ∃ W1, W1 = wr.alloc (plO x1 x2 x3 x4 x5) := ⟨_, rfl⟩
        have hS1 : St w W1 (.slice p L.length c) (.slice q R.length m) L R := by rw [hW1]; exact hS.below (below_new _)
        have hp1 : W1.heap[wr.heap.size]? = some (plO x1 x2 x3 x4 x5) := by rw [hW1]; exact heap_alloc_new _ _
        have hsr := hS.sz
        obtain ⟨g8, hg8⟩ : ∃ g8, g8 = wr.heap.size := ⟨_, rfl⟩
        rw [← hg8] at hp1 hsr
        have HQ : Hid (_ ∧ _ ∧ _ ∧ _) := ⟨hS1, hp1, hI', hak⟩
        obtain ⟨p1, p2, p3, p4, p5, plt⟩ := five_cells hp1
        clear z1 z2 z3 z4 z5 hbb hxk hwf q1 q2 q3 q4 q5 hI hS hS1 hp1 hI' hak
        go_upto_region 7 with fail
        rw [← hg8, ← hW1]
        clear hW1 hg8 e1 e2 e3 e4 e5
        go_cut [9] from 31 to 44 (fun s wx => ∃ g W, W = wx ∧ s = .pointer (some ⟨g, 0, none⟩) ∧ W.heap[g]? = some (rqO i1 (1 + (i2 : Int)) i3 i4 0) ∧ Below W1.heap.size W1 W)
        case first =>
          go_region_held3 (fun W => W.cell? ⟨g8, 0, none⟩ = some (.int .i64 x1) ∧ W.cell? ⟨g8, 1, none⟩ = some (.int .i64 x2) ∧ W.cell? ⟨g8, 2, none⟩ = some (.int .i64 x3) ∧ W.cell? ⟨g8, 3, none⟩ = some (.int .i64 x4) ∧ W.cell? ⟨g8, 4, none⟩ = some (.int .i64 x5) ∧ Below W1.heap.size W1 W) (first | exact held5p p1 p2 p3 p4 p5 ((Below.refl _ _).drew) | exact held5p p1 p2 p3 p4 p5 (((Below.refl _ _).drew).alloc (by simp) _) | exact held5p p1 p2 p3 p4 p5 (((Below.refl _ _).alloc (Nat.le_refl _) _).drew)) (first | (go_at_call_of 9 (Value.int .i64 x1); refine (HP.out.1 _).mono ?_; rintro r w4 ⟨rfl, rfl⟩) | (go_at_call_of 9 (Value.int .i64 x2); refine (HP.out.2.1 _).mono ?_; rintro r w4 ⟨rfl, rfl⟩) | (go_at_call_of 9 (Value.int .i64 x3); refine (HP.out.2.2.1 _).mono ?_; rintro r w4 ⟨rfl, rfl⟩) | (go_at_call_of 9 (Value.int .i64 x4); refine (HP.out.2.2.2.1 _).mono ?_; rintro r w4 ⟨rfl, rfl⟩))
          all_goals
            go_wp2_with fail
            go_meet
            refine ⟨_, _, rfl, rfl, ?_, ?_⟩
            · first
              | exact heap_alloc_new W1 _
              | (rw [hwr]; exact heap_alloc_new W1 _)
            · exact ((Below.refl _ _).alloc (Nat.le_refl _) _).drew
        case rest =>
          obtain ⟨g9, wx, rfl, rfl, hrq, hbx⟩ := hcut
          have hS2 := HQ.out.1.below hbx
          have hp2 := box_below HQ.out.2.1 hbx
          clear p1 p2 p3 p4 p5 plt
          obtain ⟨b0, b1', _, _, blt⟩ := two_cells hS2.box
          obtain ⟨r0, r1, r2, r3, r4, rlt⟩ := five_cells hrq
          have HA : Hid (_ ∧ _ ∧ _) := ⟨ask_any (.slice p L.length c) (.slice q R.length m) L R i1 (1 + (i2 : Int)) i3 i4 0 now 9 wx hS2.bk.1, hS2, hp2⟩
          rw [HQ.out.2.2.2] at HA
          clear hS2 hp2 hrq hbx hwr
          go_wp2_with fail
          refine Calls.mono HA.out.1 ?_
          intro r w2 hp
          obtain ⟨pn, cn, qn, mn, rfl, hn, hb2⟩ := askPost_open hp
          have hS3 := HA.out.2.1.below hb2
          have hp3 := box_below HA.out.2.2 hb2
          have hsx := HA.out.2.1.sz
          have hn' := hn.mono (B' := w.heap.size + 1 + 1) hsx
          have hposN : ((R'.length : Int) == 0) = false := by rw [beq_eq_false_iff_ne]; omega
          have hposM : ¬ R' = [] := fun e => by rw [e] at hpos; simp at hpos
          have hS4 := hS3.set hn'
          have hp4 := set2_below (B := w.heap.size + 1) (a := .slice pn L'.length cn) (b := .slice qn R'.length mn) hp3 (by omega)
          have hb0 := two_cells hS3.box
          obtain ⟨b0, b1', bf0, bf1, blt⟩ := hb0
          obtain ⟨p1, p2, p3, p4, p5, plt⟩ := five_cells hp3
          obtain ⟨W5, hW5⟩ : ∃ W5, W5 = (set2 w2 (w.heap.size + 1) (.slice pn L'.length cn) (.slice qn R'.length mn)).alloc (bkO (.slice pn L'.length cn) (.slice qn R'.length mn)) := ⟨_, rfl⟩
          have HB : Hid (St w W5 (.slice pn L'.length cn) (.slice qn R'.length mn) L' R' ∧ W5.heap[g8]? = some (plO x1 x2 x3 x4 x5)) := by
            rw [hW5]
            exact ⟨hS4.below (below_new _), heap_old _ _ hp4⟩
          have hg8b : ¬ g8 = w.heap.size + 1 := by omega
          clear hp hn hb2 hS3 hp3 hn' hS4 hp4 r0 r1 r2 r3 r4 rlt hpos
          go_wp2_with fail
          rw [← hW5]
          clear hW5 b0 b1' bf0 bf1 blt p1 p2 p3 p4 p5 plt
          refine (HP.out.2.2.2.2 _).mono ?_
          rintro r w6 ⟨rfl, hw6⟩
          subst hw6
          by_cases h5 : i5 = 0
          · subst h5
            go_wp2
            go_roundw
            case rel => exact ⟨k + 1, now, L', R', pn, cn, qn, mn, by simp, rfl, by omega, by omega, HQ.out.2.2.1, HB.out.1⟩
            case measure => simp [intOf]; omega
          · have h5b : ((i5 : Int) == 0) = false := by rw [beq_eq_false_iff_ne]; omega
            obtain ⟨hwk, hI2⟩ := ainv_wake HQ.out.2.2.1 h30 (d := i5) (by omega) hIk
            obtain ⟨M, hM⟩ : ∃ M, M = L'.map (wakes (now + i5)) := ⟨_, rfl⟩
            rw [← hM] at hwk hI2
            clear hM
            have HI2 : Hid _ := hI2
            obtain ⟨p1, p2, p3, p4, p5, plt⟩ := five_cells HB.out.2
            clear h5 hI2
            go_wp2_with fail
            refine (HP.out.2.2.2.2 _).mono ?_
            rintro r w6 ⟨rfl, hw6⟩
            subst hw6
            clear p1 p2 p3 p4 p5 plt
            obtain ⟨b0, b1', _, _, blt⟩ := two_cells HB.out.1.box
            have HW : Hid _ := wakeApi_any (.slice pn L'.length cn) (.slice qn R'.length mn) L' R' (now + i5) w6 HB.out.1.bk.1
            rw [hwk] at HW
            clear hwk
            go_wp2_with fail
            refine Calls.mono HW.out ?_
            intro r w7 hp
            obtain ⟨pw, cw, qw, mw, uw, kw, rfl, hn, _, hb7⟩ := wakePost_open hp
            have hS7 := HB.out.1.below hb7
            have hsx := HB.out.1.sz
            have hn' := hn.mono (B' := w.heap.size + 1 + 1) hsx
            have hS8 := hS7.set hn'
            obtain ⟨b0, b1', bf0, bf1, blt⟩ := two_cells hS7.box
            have HF : Hid _ := hS8.below (below_new _ (o := bkO (.slice pw M.length cw) (.slice qw R'.length mw)))
            clear hp hn hb7 hS7 hn' hS8
            go_wp2
            go_roundw
            case rel => exact ⟨k + 1, now + i5, M, R', pw, cw, qw, mw, by simp, rfl, by omega, by omega, HI2.out, HF.out⟩
            case measure => simp [intOf]; omega
      · have h30I : ¬ (k : Int) < 30 := by omega
        obtain ⟨b0, b1', _, _, blt⟩ := two_cells hS.box
        obtain ⟨d0, d1, df0, df1, dlt⟩ := two_cells hS.res
        have HF : Hid (_ ∧ _) := ⟨bk_out (hS.bk.mono (Nat.le_succ _)) hS.res hS.bel (Nat.le_refl _), (by rw [show min l.length 30 = k by omega]; exact hI : AInv L R now (min l.length 30))⟩
        clear hI hS
        go_wp2
        exact bodyPost_ret (v := .tuple #[bkV (.slice p L.length c) (.slice q R.length m), .int .i64 now, .bool true]) (results_ctt Try.results8 rfl rfl rfl (load_bk HF.out.1.1)) rfl ⟨L, R, now, p, c, q, m, rfl, HF.out.1.2.1, HF.out.2, HF.out.1.2.2⟩
    · have hkI : ¬ (k : Int) < (l.length : Int) := by omega
      obtain ⟨b0, b1', _, _, blt⟩ := two_cells hS.box
      obtain ⟨d0, d1, df0, df1, dlt⟩ := two_cells hS.res
      have HF : Hid (_ ∧ _) := ⟨bk_out (hS.bk.mono (Nat.le_succ _)) hS.res hS.bel (Nat.le_refl _), (by rw [show min l.length 30 = k by omega]; exact hI : AInv L R now (min l.length 30))⟩
      clear hI hS
      go_wp2
      exact bodyPost_ret (v := .tuple #[bkV (.slice p L.length c) (.slice q R.length m), .int .i64 now, .bool true]) (results_ctt Try.results8 rfl rfl rfl (load_bk HF.out.1.1)) rfl ⟨L, R, now, p, c, q, m, rfl, HF.out.1.2.1, HF.out.2, HF.out.1.2.2⟩
end Go.Proofs.Ytlpedligkofegab.Walks
