/-
  The document's FlowPut. Condition: the slots can be read.
-/
import Derived.Test.YtilcjcbghpbkjaaPut
import Derived.Deep.CutRange
import Derived.WalkKit
import Derived.ProofKit
import Derived.Handy
import Derived.LoopTactic
import Derived.Below
import Derived.Laws.BitsAllLaws
import Derived.RegionTactic
import Derived.Deep.RegionHeld3
import Derived.Deep.DrawnRows
import Derived.Deep.AppendLies
import Derived.Laws.OwnMore
import Derived.Deep.Onto
import Derived.Deep.QuietTactic
import Derived.BigQuiet
namespace Go.Proofs.Ytilcjcbghpbkjaa.Walks
open Go.RowKit
set_option linter.unusedVariables false
set_option linter.unusedSimpArgs false
attribute [local go_sem ↓] Go.wp_at_zero Go.wp_at_succ

theorem open_iff {x : Sl} (h : SlotOk x) : openB x = (!x.2.1 && (x.1 != 1048576)) := by
  unfold openB
  have := used_iff h
  by_cases hu : x.2.1 = true
  · rw [decide_eq_false (this.2 hu), hu]
    rfl
  · rw [decide_eq_true (Classical.byContradiction fun hn => hu (this.1 hn))]
    simp only [Bool.not_eq_true] at hu
    rw [hu]
    rfl

theorem fin_R2 {w : World} {R H : Nat} {a u x y : Value} {T : TypeId} (hR : w.heap[R]? = some (.cells #[a] T (0, 0))) (hne : R ≠ H) : (((w.setCell ⟨H, 0, none⟩ x).setCell ⟨H, 1, none⟩ y).setCell ⟨R, 0, none⟩ u).heap[R]? = some (.cells #[u] T (0, 0)) := by
  refine one_set (u := a) ?_
  rw [Below.heap_setCell _ _ _ _ (by simpa using hne), Below.heap_setCell _ _ _ _ (by simpa using hne)]
  exact hR

theorem fin_H2 {w : World} {R H : Nat} {b c u x y : Value} {U : TypeId} (hH : w.heap[H]? = some (.cells #[b, c] U (0, 0))) (hne : R ≠ H) : (((w.setCell ⟨H, 0, none⟩ x).setCell ⟨H, 1, none⟩ y).setCell ⟨R, 0, none⟩ u).heap[H]? = some (.cells #[x, y] U (0, 0)) :=
  (Below.heap_setCell _ _ _ _ (by simpa using Ne.symm hne)).trans (two_set hH)

theorem fin_below2 {w0 w : World} {B R H : Nat} {u x y : Value} (h : Below B w0 w) (hR : B ≤ R) (hH : B ≤ H) : Below B w0 (((w.setCell ⟨H, 0, none⟩ x).setCell ⟨H, 1, none⟩ y).setCell ⟨R, 0, none⟩ u) :=
  ((h.setCell hH _).setCell hH _).setCell hR _

theorem fin_own2 {w : World} {base R H : Nat} {u x y v : Value} {n : Nat} {xs : List Value} (h : w.ownsRow base 39 4 v n xs) (hR : R < base) (hH : H < base) : (((w.setCell ⟨H, 0, none⟩ x).setCell ⟨H, 1, none⟩ y).setCell ⟨R, 0, none⟩ u).ownsRow base 39 4 v n xs :=
  ownsRow_setCell_below (ownsRow_setCell_below (ownsRow_setCell_below h hH _) hH _) hR _

set_option maxHeartbeats 16000000 in
set_option maxRecDepth 100000 in
theorem flowPut_any (v : Value) (l : List Sl) (key bk : Int) (w : World) (hv : SlAt w v l) :
    Calls Try.prog 16 #[.agg #[v], .int .i64 key, .int .i64 bk] w (PutRes (putOut l key bk) w) := by
  obtain ⟨p, c, rfl, hc, hm, pa⟩ := hv.parts
  unfold maxLen at hm
  obtain ⟨W0, hW0⟩ : ∃ W0, W0 = ((w.alloc (.cells #[.slice p l.length c] 24)).alloc (.cells #[.slice none 0 0] 24)).alloc (.cells #[.int .i64 0, .int .i64 0] 34) := ⟨_, rfl⟩
  have hb0 : Below w.heap.size w W0 := by rw [hW0]; exact (((Below.refl _ _).alloc (Nat.le_refl _) _).alloc (by simp) _).alloc (by simp; omega) _
  have hT0 : W0.heap[w.heap.size]? = some (.cells #[.slice p l.length c] 24 (0, 0)) := by rw [hW0]; exact heap_old _ _ (heap_old _ _ (heap_alloc_new _ _))
  have hR0 : W0.heap[w.heap.size + 1]? = some (.cells #[.slice none 0 0] 24 (0, 0)) := by rw [hW0]; exact heap_old _ _ (heap_second _ _ _)
  have hH0 : W0.heap[w.heap.size + 1 + 1]? = some (.cells #[.int .i64 0, .int .i64 0] 34 (0, 0)) := by rw [hW0]; have := heap_alloc_new ((w.alloc (.cells #[.slice p l.length c] 24)).alloc (.cells #[.slice none 0 0] 24)) (.cells #[.int .i64 0, .int .i64 0] 34); simpa using this
  have hs0 : W0.heap.size = w.heap.size + 3 := by rw [hW0]; simp
  have HV : Hid (_ ∧ _ ∧ _ ∧ _ ∧ _ ∧ _ ∧ _) := ⟨hv, hb0, hT0, hR0, hH0, hs0, hW0⟩
  clear hv hb0 hT0 hH0 hR0 hs0 hW0
  have hne : w.heap.size + 1 ≠ w.heap.size + 1 + 1 := by omega
  go_enter Try.func16, Try.ntmps16
  go_wp2_with fail
  rw [← HV.out.2.2.2.2.2.2]
  refine (fault_any _ l _ (HV.out.1.below HV.out.2.1)).mono ?_
  rintro r w1 ⟨rfl, hb1⟩
  have hT1 := box_below HV.out.2.2.1 hb1
  have hR1 := box_below HV.out.2.2.2.1 hb1
  have hH1 := box_below HV.out.2.2.2.2.1 hb1
  have hb01 := HV.out.2.1.trans (hb1.mono HV.out.2.1.size)
  have hl1 : w.heap.size + 1 + 1 < w1.heap.size := by have := hb1.size; have := HV.out.2.2.2.2.2.1; omega
  have H1 : Hid (_ ∧ _ ∧ _ ∧ _) := ⟨hT1, hR1, hH1, hb01⟩
  have t0 := one_cell hT1
  have r0 := one_cell hR1
  have rf : w1.frozen? ⟨w.heap.size + 1, 0, none⟩ = false := by simp [World.frozen?, hR1]
  obtain ⟨h0, h1, hf0, hf1, _⟩ := two_cells hH1
  have bad : ∀ e, putOut l key bk = ([], (0, 0), e) → PutRes (putOut l key bk) w (.returned (.tuple #[.agg #[.slice none 0 0], .agg #[.int .i64 0, .int .i64 0], .int .i64 e])) (((w1.setCell ⟨w.heap.size + 1, 0, none⟩ (.slice none 0 0)).setCell ⟨w.heap.size + 1 + 1, 0, none⟩ (.int .i64 0)).setCell ⟨w.heap.size + 1 + 1, 1, none⟩ (.int .i64 0)) := fun e he => by
    rw [he]
    exact ⟨none, 0, rfl, World.ownsRow_nil _ _ _ _, fin_below hb01 (by omega) (by omega)⟩
  have HBad : Hid _ := bad
  clear bad hT1 hR1 hH1 hb1 hb01
  by_cases hok : TabOk l
  · rw [if_pos hok]
    have hbe : decide (isBeP bk) = decide (0 ≤ bk ∧ bk ≤ 11) := decide_eq_decide.2 (by unfold isBeP; omega)
    cases hkb : decide (0 ≤ key ∧ key ≤ 4294967295)
    · have hout : Hid (putOut l key bk = ([], (0, 0), 2)) := by show putOut l key bk = _; unfold putOut; rw [if_neg (not_not_intro hok), if_pos fun h => of_decide_eq_false hkb h.1]
      clear pa hok hbe
      go_wp2_with fail
      refine (in_any _ _ _ _).mono ?_
      rw [hkb]
      rintro r w2 ⟨rfl, rfl⟩
      go_wp2
      exact bodyPost_ret (v := .tuple #[.agg #[.slice none 0 0], .agg #[.int .i64 0, .int .i64 0], .int .i64 2]) (results_cct Try.results16 rfl rfl rfl (load_row (P := Try.prog) (cs := [.slice none 0 0]) (fin_R H1.out.2.1 hne) Try.underlying24 rfl (by kernel_rfl)) (load_row (P := Try.prog) (cs := [.int .i64 0, .int .i64 0]) (fin_H H1.out.2.2.1 hne) Try.underlying34 rfl (by kernel_rfl))) rfl (HBad.out _ hout.out)
    cases hbb : decide (0 ≤ bk ∧ bk ≤ 11)
    · have hout : Hid (putOut l key bk = ([], (0, 0), 2)) := by show putOut l key bk = _; unfold putOut; rw [if_neg (not_not_intro hok), if_pos fun h => of_decide_eq_false (hbe.trans hbb) h.2]
      clear pa hok hbe
      go_wp2_with fail
      refine (in_any _ _ _ _).mono ?_
      rw [hkb]
      rintro r w2 ⟨rfl, rfl⟩
      go_wp2_with fail
      refine (in_any _ _ _ _).mono ?_
      rw [hbb]
      rintro r w2 ⟨rfl, rfl⟩
      go_wp2
      exact bodyPost_ret (v := .tuple #[.agg #[.slice none 0 0], .agg #[.int .i64 0, .int .i64 0], .int .i64 2]) (results_cct Try.results16 rfl rfl rfl (load_row (P := Try.prog) (cs := [.slice none 0 0]) (fin_R H1.out.2.1 hne) Try.underlying24 rfl (by kernel_rfl)) (load_row (P := Try.prog) (cs := [.int .i64 0, .int .i64 0]) (fin_H H1.out.2.2.1 hne) Try.underlying34 rfl (by kernel_rfl))) rfl (HBad.out _ hout.out)
    have hl40 := hok.1.2
    have hout0 : putOut l key bk = match find openB l with | none => ([], (0, 0), 9) | some k => (l.set k ((l.getD k (0, false, 0, 0)).1, true, key, bk), ((k : Int), (l.getD k (0, false, 0, 0)).1), 0) := by
      unfold putOut; rw [if_neg (not_not_intro hok), if_neg (not_not_intro ⟨of_decide_eq_true hkb, of_decide_eq_true (hbe.trans hbb)⟩)]
      rfl
    have HO : Hid (_ ∧ _) := ⟨hout0, hok⟩
    clear hok hbe hout0
    go_wp2_with fail
    refine (in_any _ _ _ _).mono ?_
    rw [hkb]
    rintro r w2 ⟨rfl, rfl⟩
    go_wp2_with fail
    refine (in_any _ _ _ _).mono ?_
    rw [hbb]
    rintro r w2 ⟨rfl, rfl⟩
    clear hkb hbb
    go_wp2
    clear t0 r0 rf h0 h1 hf0 hf1 HBad
    go_loopw [10] (fun s10 wr => ∃ k : Nat, s10 = .int .i64 k ∧ k ≤ l.length ∧ (∀ t ∈ l.take k, openB t = false) ∧ Below w2.heap.size w2 wr) (fun s10 _ => l.length - (intOf s10).toNat)
    case atStart => exact ⟨0, rfl, Nat.zero_le _, by simp, Below.refl _ _⟩
    case round =>
      obtain ⟨k, rfl, hk, hall, hbr⟩ := hrel
      have hT := box_below H1.out.1 hbr
      have hR := box_below H1.out.2.1 hbr
      have hH := box_below H1.out.2.2.1 hbr
      have t0 := one_cell hT
      have r0 := one_cell hR
      have rf : wr.frozen? ⟨w.heap.size + 1, 0, none⟩ = false := by simp [World.frozen?, hR]
      obtain ⟨h0, h1, hf0, hf1, _⟩ := two_cells hH
      have hbw := H1.out.2.2.2.trans (hbr.mono H1.out.2.2.2.size)
      have lt0 : w.heap.size + 1 + 1 < wr.heap.size := Nat.lt_of_lt_of_le hl1 hbr.size
      have lt1 : w.heap.size + 1 < wr.heap.size := by omega
      have lt2 : w.heap.size < wr.heap.size := by omega
      by_cases hlt : k < l.length
      · have hkI : (k : Int) < (l.length : Int) := by omega
        obtain ⟨b1, o1, rfl, hb1, c1, c2, c3, c4⟩ := pa k hlt
        have e1 := (hbw.cell (p := ⟨b1, o1 + k * 4, none⟩) hb1).trans c1
        have e2 := (hbw.cell (p := ⟨b1, o1 + k * 4 + 1, none⟩) hb1).trans c2
        have e3 := (hbw.cell (p := ⟨b1, o1 + k * 4 + 2, none⟩) hb1).trans c3
        have e4 := (hbw.cell (p := ⟨b1, o1 + k * 4 + 3, none⟩) hb1).trans c4
        have hop := open_iff (HO.out.2.2 _ (List.getElem_mem hlt))
        have htk : l.take (k + 1) = l.take k ++ [l[k]] := List.take_succ_eq_append_getElem hlt
        have hfs : openB l[k] = true → find openB l = some k := fun h => find_some hlt hall h
        have hgd : l.getD k (0, false, 0, 0) = l[k] := by
          rw [List.getD_eq_getElem?_getD, List.getElem?_eq_getElem hlt]
          rfl
        obtain ⟨⟨x1, x2, x3, x4⟩, hxk⟩ : ∃ x, x = l[k] := ⟨_, rfl⟩
        rw [← hxk] at e1 e2 e3 e4 hop htk hfs hgd
        have hop : openB (x1, x2, x3, x4) = (!x2 && (x1 != 1048576)) := hop
        have HX : Hid (_ ∧ _ ∧ _ ∧ _ ∧ _) := ⟨htk, hfs, hgd, hop, hall⟩
        have HB : Hid (_ ∧ _ ∧ _ ∧ _) := ⟨hR, hH, hbw, hbr⟩
        clear hT hR hH hbw hbr htk hfs hgd hop hall hxk c1 c2 c3 c4 hb1 pa
        have cont : Hid (openB (x1, x2, x3, x4) = false → ∀ t ∈ l.take (k + 1), openB t = false) := fun h t ht => by
          rw [HX.out.1] at ht
          rcases List.mem_append.1 ht with ht | ht
          · exact HX.out.2.2.2.2 t ht
          · simp at ht
            rw [ht]
            exact h
        cases x2
        case true =>
          go_wp2
          go_roundw
          case rel => exact ⟨k + 1, by simp, hlt, cont.out (by rw [HX.out.2.2.2.1]; rfl), HB.out.2.2.2.alloc HB.out.2.2.2.size _⟩
          case measure => simp [intOf]; omega
        cases hgm : (x1 != 1048576)
        · go_wp2
          go_roundw
          case rel => exact ⟨k + 1, by simp, hlt, cont.out (by rw [HX.out.2.2.2.1, hgm]; rfl), HB.out.2.2.2.alloc HB.out.2.2.2.size _⟩
          case measure => simp [intOf]; omega
        · have hfd := HX.out.2.1 (by rw [HX.out.2.2.2.1, hgm]; rfl)
          have hout := HO.out.1
          rw [hfd] at hout
          replace hout : putOut l key bk = (l.set k ((l.getD k (0, false, 0, 0)).1, true, key, bk), ((k : Int), (l.getD k (0, false, 0, 0)).1), 0) := hout
          rw [HX.out.2.2.1] at hout
          have HU : Hid _ := hout
          obtain ⟨W4, hW4⟩ : ∃ W4, W4 = wr.alloc (.cells #[.int .i64 x1, .bool false, .int .i64 x3, .int .i64 x4] 39) := ⟨_, rfl⟩
          have hx4 : Below wr.heap.size wr W4 := by rw [hW4]; exact below_newC wr
          have hR4 := box_below HB.out.1 hx4
          have hH4 := box_below HB.out.2.1 hx4
          have hT4 : W4.cell? ⟨w.heap.size, 0, none⟩ = some (.slice (some ⟨b1, o1, none⟩) l.length c) := (hx4.cell (p := ⟨w.heap.size, 0, none⟩) lt2).trans t0
          have hb04 := HB.out.2.2.1.trans (hx4.mono HB.out.2.2.1.size)
          have r4 := one_cell hR4
          have rf4 : W4.frozen? ⟨w.heap.size + 1, 0, none⟩ = false := by simp [World.frozen?, hR4]
          obtain ⟨y0, y1, yf0, yf1, _⟩ := two_cells hH4
          have g4 : W4.cell? ⟨wr.heap.size, 0, none⟩ = some (.int .i64 x1) := by rw [hW4]; exact (box4 (heap_alloc_new wr _)).1.1
          have lt4 : wr.heap.size < W4.heap.size := by rw [hW4]; simp
          have lt5 : w.heap.size + 1 + 1 < W4.heap.size := by omega
          have lt6 : w.heap.size + 1 < W4.heap.size := by omega
          have lt7 : w.heap.size < W4.heap.size := by omega
          have lt8 : w.heap.size ≤ W4.drew.heap.size := Nat.le_of_lt lt7
          have lt6d : w.heap.size + 1 < W4.drew.heap.size := lt6
          have lt5d : w.heap.size + 1 + 1 < W4.drew.heap.size := lt5
          have le1 : w.heap.size ≤ w.heap.size + 1 := Nat.le_succ _
          have le2 : w.heap.size ≤ w.heap.size + 1 + 1 := Nat.le_trans le1 (Nat.le_succ _)
          have hD1 : W4.drew.heap[w.heap.size + 1]? = some (.cells #[.slice none 0 0] 24 (0, 0)) := hR4
          have hD2 : W4.drew.heap[w.heap.size + 1 + 1]? = some (.cells #[.int .i64 0, .int .i64 0] 34 (0, 0)) := hH4
          have HD : Hid (_ ∧ _ ∧ _ ∧ _ ∧ _) := ⟨hD1, hD2, lt8, lt6d, lt5d⟩
          clear hD1 hD2 lt8 lt6d lt5d
          have hCh : Hid (∀ W, Below (w.heap.size + 1) W4 W → Calls Try.prog 32 #[.agg #[.slice (some ⟨b1, o1, none⟩) l.length c], .int .i64 k, .agg #[.int .i64 x1, .bool true, .int .i64 key, .int .i64 bk]] W fun r w' => ∃ p c, r = .returned (.agg #[.slice p l.length c]) ∧ Hid (w'.ownsRow W.heap.size 39 4 (.slice p l.length c) l.length (scells (l.set k (x1, true, key, bk))) ∧ Below W.heap.size W w' ∧ Below w.heap.size w w') ∧ (W.cell? ⟨wr.heap.size, 0, none⟩ = some (.int .i64 x1) → w'.cell? ⟨wr.heap.size, 0, none⟩ = some (.int .i64 x1)) ∧ (W.cell? ⟨w.heap.size + 1, 0, none⟩ = some (.slice none 0 0) → w'.cell? ⟨w.heap.size + 1, 0, none⟩ = some (.slice none 0 0)) ∧ (W.frozen? ⟨w.heap.size + 1, 0, none⟩ = false → w'.frozen? ⟨w.heap.size + 1, 0, none⟩ = false) ∧ (W.cell? ⟨w.heap.size + 1 + 1, 0, none⟩ = some (.int .i64 0) → w'.cell? ⟨w.heap.size + 1 + 1, 0, none⟩ = some (.int .i64 0)) ∧ (W.frozen? ⟨w.heap.size + 1 + 1, 0, none⟩ = false → w'.frozen? ⟨w.heap.size + 1 + 1, 0, none⟩ = false) ∧ (W.cell? ⟨w.heap.size + 1 + 1, 1, none⟩ = some (.int .i64 0) → w'.cell? ⟨w.heap.size + 1 + 1, 1, none⟩ = some (.int .i64 0)) ∧ (W.frozen? ⟨w.heap.size + 1 + 1, 1, none⟩ = false → w'.frozen? ⟨w.heap.size + 1 + 1, 1, none⟩ = false) ∧ (∀ n, n < W.heap.size → n < w'.heap.size) ∧ (∀ b o, b < W.heap.size → w'.cell? ⟨b, o, none⟩ = W.cell? ⟨b, o, none⟩) ∧ (∀ b o, b < W.heap.size → w'.frozen? ⟨b, o, none⟩ = W.frozen? ⟨b, o, none⟩)) := fun W hW => by
            have hbW : Below w.heap.size w W := hb04.trans (hW.mono (by omega))
            refine (changed_any _ l k x1 true key bk W (HV.out.1.below hbW) hlt hl40).mono fun r w' ⟨p, c, z1, z2, z3⟩ => ?_
            exact ⟨p, c, z1, ⟨z2, z3, hbW.trans (z3.mono hbW.size)⟩, (fun hh => (z3.cell (World.block_lt_of_cell? W _ hh)).trans hh), (fun hh => (z3.cell (p := ⟨w.heap.size + 1, 0, none⟩) (Nat.lt_of_lt_of_le lt6 hW.size)).trans hh), (fun hh => (z3.frozen (p := ⟨w.heap.size + 1, 0, none⟩) (Nat.lt_of_lt_of_le lt6 hW.size)).trans hh), (fun hh => (z3.cell (p := ⟨w.heap.size + 1 + 1, 0, none⟩) (Nat.lt_of_lt_of_le lt5 hW.size)).trans hh), (fun hh => (z3.frozen (p := ⟨w.heap.size + 1 + 1, 0, none⟩) (Nat.lt_of_lt_of_le lt5 hW.size)).trans hh), (fun hh => (z3.cell (p := ⟨w.heap.size + 1 + 1, 1, none⟩) (Nat.lt_of_lt_of_le lt5 hW.size)).trans hh), (fun hh => (z3.frozen (p := ⟨w.heap.size + 1 + 1, 1, none⟩) (Nat.lt_of_lt_of_le lt5 hW.size)).trans hh), (fun n hn => Nat.lt_of_lt_of_le hn z3.size), (bcell z3).1, (bcell z3).2⟩
          have H4 : Hid (_ ∧ _ ∧ _ ∧ _) := ⟨hR4, hH4, hb04, hW4⟩
          clear hout hfd hx4 hR4 hH4 hb04 hW4
          go_upto_region 11 with fail
          rw [← H4.out.2.2.2]
          go_region_with (first | (go_at_call 32; refine (hCh.out _ ?hbW).mono ?_; (case hbW => first | with_reducible exact (Below.refl _ _).drew | with_reducible exact (((Below.refl _ _).setCell (Nat.le_succ _) _).setCell (Nat.le_succ _) _).drew); rintro r w5 ⟨q, d, rfl, hq5, hg5, hr5, hr6, hr7, hr8, hr9, hr10, hz5, hc5, hf5⟩))
          all_goals
            clear hg5 hr5 hr6 hr7 hr8 hr9 hr10 hz5 hc5 hf5 hCh
            clear t0 r0 rf h0 h1 hf0 hf1 e1 e2 e3 e4 r4 rf4 y0 y1 yf0 yf1 g4 hT4
            go_wp2
            have hR5 := box_below HD.out.1 hq5.out.2.1
            have hH5 := box_below HD.out.2.1 hq5.out.2.1
            refine bodyPost_ret (v := .tuple #[.agg #[.slice q l.length d], .agg #[.int .i64 (k : Int), .int .i64 x1], .int .i64 0]) (results_cct Try.results16 rfl rfl rfl (load_row (P := Try.prog) (cs := [.slice q l.length d]) ?hR Try.underlying24 rfl (by kernel_rfl)) (load_row (P := Try.prog) (cs := [.int .i64 (k : Int), .int .i64 x1]) ?hH Try.underlying34 rfl (by kernel_rfl))) rfl ?hP
            case hR => first | with_reducible exact fin_R hR5 hne | with_reducible exact fin_R2 hR5 hne
            case hH => first | with_reducible exact fin_H hH5 hne | with_reducible exact fin_H2 hH5 hne
            case hP =>
              rw [HU.out]
              refine ⟨q, d, ?_, ?_, ?_⟩
              · simp
              · rw [show (l.set k (x1, true, key, bk), (((k : Int), x1) : Tm), (0 : Int)).1.length = l.length by simp]
                first
                | with_reducible exact (fin_own hq5.out.1 HD.out.2.2.2.1 HD.out.2.2.2.2).mono HD.out.2.2.1
                | with_reducible exact (fin_own2 hq5.out.1 HD.out.2.2.2.1 HD.out.2.2.2.2).mono HD.out.2.2.1
              · first
                | with_reducible exact fin_below hq5.out.2.2 le1 le2
                | with_reducible exact fin_below2 hq5.out.2.2 le1 le2
      · have hfd : find openB l = none := find_none (fun t ht => hall t (by rw [List.take_of_length_le (by omega)]; exact ht))
        have hout := HO.out.1
        rw [hfd] at hout
        replace hout : putOut l key bk = ([], (0, 0), 9) := hout
        have H9 : Hid (_ ∧ _ ∧ _ ∧ _) := ⟨hout, hR, hH, hbw⟩
        clear hout hfd hR hH hbw hT hall hbr pa
        go_wp2
        refine bodyPost_ret (v := .tuple #[.agg #[.slice none 0 0], .agg #[.int .i64 0, .int .i64 0], .int .i64 9]) (results_cct Try.results16 rfl rfl rfl (load_row (P := Try.prog) (cs := [.slice none 0 0]) (fin_R H9.out.2.1 hne) Try.underlying24 rfl (by kernel_rfl)) (load_row (P := Try.prog) (cs := [.int .i64 0, .int .i64 0]) (fin_H H9.out.2.2.1 hne) Try.underlying34 rfl (by kernel_rfl))) rfl ?_
        rw [H9.out.1]
        exact ⟨none, 0, rfl, World.ownsRow_nil _ _ _ _, fin_below H9.out.2.2.2 (by omega) (by omega)⟩
  · rw [if_neg hok]
    have hout : Hid (putOut l key bk = ([], (0, 0), 6)) := by show putOut l key bk = _; unfold putOut; rw [if_pos hok]
    clear pa
    go_wp2
    exact bodyPost_ret (v := .tuple #[.agg #[.slice none 0 0], .agg #[.int .i64 0, .int .i64 0], .int .i64 6]) (results_cct Try.results16 rfl rfl rfl (load_row (P := Try.prog) (cs := [.slice none 0 0]) (fin_R H1.out.2.1 hne) Try.underlying24 rfl (by kernel_rfl)) (load_row (P := Try.prog) (cs := [.int .i64 0, .int .i64 0]) (fin_H H1.out.2.2.1 hne) Try.underlying34 rfl (by kernel_rfl))) rfl (HBad.out _ hout.out)
end Go.Proofs.Ytilcjcbghpbkjaa.Walks
