/-
  What Of and Live answer. Condition: the outputs can be read.
-/
import Derived.Test.YthfadekfobceaaaIdx
import Derived.Test.YthfadekfobceaaaArr
import Derived.WalkKit
import Derived.ProofKit
import Derived.Handy
import Derived.LoopTactic
import Derived.Below
import Derived.Laws.BitsAllLaws
import Derived.RegionTactic
import Derived.Deep.RegionHeld3
import Derived.Deep.DrawnRows
import Derived.Deep.AppendLies
import Derived.Laws.OwnMore
import Derived.Deep.Onto
import Derived.Deep.QuietTactic
import Derived.BigQuiet
namespace Go.Proofs.Ythfadekfobceaaa.Walks
open Go.RowKit
set_option linter.unusedVariables false
set_option linter.unusedSimpArgs false
attribute [local go_sem ↓] Go.wp_at_zero Go.wp_at_succ

theorem zeros17 : (#[.int .i64 0, .int .i64 0, .int .i64 0, .int .i64 0, .int .i64 0, .int .i64 0, .int .i64 0, .int .i64 0, .int .i64 0, .int .i64 0, .int .i64 0, .int .i64 0, .int .i64 0, .int .i64 0, .int .i64 0, .int .i64 0, .int .i64 0] : Array Value) = (icells (List.replicate 17 0)).toArray := rfl

theorem infoC : (Try.prog.info? 27).map (·.size) = some 17 := by kernel_rfl

theorem isRowC : ∃ d, Try.prog.underlying 27 = some d ∧ d.isRow = true := ⟨_, Try.underlying27, rfl⟩

set_option maxHeartbeats 8000000 in
set_option maxRecDepth 100000 in
theorem of_any (v : Value) (l : List Ou) (w : World) (hv : OsAt w v l) :
    Calls Try.prog 12 #[v] w fun r w' => r = .returned (.tuple #[.agg (icells (ofO l).1).toArray, .int .i64 (ofO l).2]) ∧ Below w.heap.size w w' := by
  obtain ⟨p, c, rfl, hc, hm, pv⟩ := OsAt.parts hv
  unfold maxLen at hm
  obtain ⟨W0, hW0⟩ : ∃ W0, W0 = w.alloc (.cells (icells (List.replicate 17 0)).toArray 27) := ⟨_, rfl⟩
  have hb0 : Below w.heap.size w W0 := by rw [hW0]; exact below_new w
  have hA0 : Arr 27 17 W0 w.heap.size (List.replicate 17 0) := by rw [hW0]; exact ⟨heap_alloc_new _ _, by simp⟩
  have HV : Hid (_ ∧ _ ∧ _ ∧ _ ∧ _) := ⟨hv, pv, hb0, hA0, hW0⟩
  clear hv pv hb0 hA0 hW0
  have hone := all_oneCell_toArray (icells_one (List.replicate 17 0))
  have HO : Hid _ := hone
  clear hone
  go_enter Try.func12, Try.ntmps12
  go_wp2_with fail
  rw [zeros17, ← HV.out.2.2.2.2]
  refine (check_any _ l _ (HV.out.1.below HV.out.2.2.1)).mono ?_
  rintro r w1 ⟨rfl, hb1⟩
  have hA1 := HV.out.2.2.2.1.below hb1
  have hbw := HV.out.2.2.1.trans (hb1.mono HV.out.2.2.1.size)
  cases hbad : anyBad l
  · rw [if_neg Bool.false_ne_true]
    have hout : ofO l = (cntL l, 0) := by unfold ofO; rw [hbad]; rfl
    have HB : Hid (_ ∧ _ ∧ _ ∧ _) := ⟨hA1, hbw, hbad, hout⟩
    have hg1 := hA1.lt
    clear hA1 hbw hb1 hbad hout
    go_wp2
    rw [zeros17]
    obtain ⟨W2, hW2⟩ : ∃ W2, W2 = w1.alloc (.cells (icells (List.replicate 17 0)).toArray 27) := ⟨_, rfl⟩
    rw [← hW2]
    have hb2 : Below w1.heap.size w1 W2 := by rw [hW2]; exact below_new w1
    have hA2 : Arr 27 17 W2 w1.heap.size (cntL (l.take 0)) := by rw [hW2, List.take_zero, cntL_nil]; exact ⟨heap_alloc_new _ _, by simp⟩
    have H2 : Hid (_ ∧ _) := ⟨hb2, hA2⟩
    clear hb2 hA2 hW2
    go_loopw [16] (fun i wr => ∃ k : Nat, i = .int .i64 k ∧ k ≤ l.length ∧ Below w1.heap.size w1 wr ∧ Arr 27 17 wr w1.heap.size (cntL (l.take k))) (fun i _ => l.length - (intOf i).toNat)
    case atStart => exact ⟨0, rfl, Nat.zero_le _, H2.out.1, H2.out.2⟩
    case round =>
      obtain ⟨k, rfl, hk, hb, hA⟩ := hrel
      by_cases hlt : k < l.length
      · obtain ⟨b0, off, rfl, hb0', c1, c2, c3, c4, c5, c6, c7⟩ := HV.out.2.1 k hlt
        have hbr := HB.out.2.1.trans (hb.mono HB.out.2.1.size)
        have e1 := (hbr.cell (p := ⟨b0, off + k * 7, none⟩) hb0').trans c1
        have e2 := (hbr.cell (p := ⟨b0, off + k * 7 + 1, none⟩) hb0').trans c2
        have e3 := (hbr.cell (p := ⟨b0, off + k * 7 + 2, none⟩) hb0').trans c3
        have e4 := (hbr.cell (p := ⟨b0, off + k * 7 + 3, none⟩) hb0').trans c4
        have e5 := (hbr.cell (p := ⟨b0, off + k * 7 + 4, none⟩) hb0').trans c5
        have e6 := (hbr.cell (p := ⟨b0, off + k * 7 + 5, none⟩) hb0').trans c6
        have e7 := (hbr.cell (p := ⟨b0, off + k * 7 + 6, none⟩) hb0').trans c7
        have hok := badO_not (anyBad_at HB.out.2.2.1 (List.getElem_mem hlt))
        obtain ⟨⟨kd, sl, gn, be, rq, cd, wy⟩, hx⟩ : ∃ x, x = l[k] := ⟨_, rfl⟩
        have htk := take_snoc hlt hx
        rw [← hx] at e1 e2 e3 e4 e5 e6 e7 hok
        dsimp only at e1 e2 e3 e4 e5 e6 e7 hok
        obtain ⟨kk, rfl⟩ := Int.eq_ofNat_of_zero_le (a := kd) (by omega)
        obtain ⟨y, rfl⟩ := Int.eq_ofNat_of_zero_le (a := wy) (by omega)
        have hk11 : kk < 11 := by omega
        have hkI : (kk : Int) < 11 := by omega
        have hy6 : y < 6 := by omega
        have hyI : (y : Int) < 6 := by omega
        have hltI : (k : Int) < (l.length : Int) := by omega
        have hgl := hA.lt
        have hng : ¬ w1.heap.size = wr.heap.size := by omega
        have hng' : ¬ wr.heap.size = w1.heap.size := by omega
        by_cases h6 : kk = 6
        · subst h6
          have hcl := hA.cell 6 (by rw [cntL_len]; omega)
          rw [cntL_at _ 6 (by omega)] at hcl
          have hfz := hA.frozen 6
          have hcl2 := hA.cell (11 + y) (by rw [cntL_len]; omega)
          rw [cntL_at _ (11 + y) (by omega)] at hcl2
          have hfz2 := hA.frozen (11 + y)
          have hxk : cntAt (l.take k) 6 ≤ k := Nat.le_trans (cntAt_le _ _) (by rw [List.length_take]; omega)
          have hxk2 : cntAt (l.take k) (11 + y) ≤ k := Nat.le_trans (cntAt_le _ _) (by rw [List.length_take]; omega)
          have hst := cntL_snoc6 (l.take k) ⟨((6 : Nat) : Int), sl, gn, be, rq, cd, (y : Int)⟩ y rfl rfl hy6
          rw [← htk] at hst
          obtain ⟨n1, hn1⟩ : ∃ n1, n1 = cntAt (l.take k) 6 := ⟨_, rfl⟩
          obtain ⟨n2, hn2⟩ : ∃ n2, n2 = cntAt (l.take k) (11 + y) := ⟨_, rfl⟩
          rw [← hn1] at hcl hxk hst
          rw [← hn2] at hcl2 hxk2 hst
          have hne1 : ¬ 11 + y = 6 := by omega
          have hne2 : ¬ 6 = 11 + y := by omega
          have HR : Hid (_ ∧ _ ∧ _) := ⟨hb, hA, hst⟩
          clear hb hA hst hn1 hn2 htk hx hbr c1 c2 c3 c4 c5 c6 c7 hb0' hok
          go_wp2
          go_roundw
          case rel =>
            refine ⟨k + 1, by simp, hlt, ?_, ?_⟩
            · exact ((HR.out.1.setCell (p := ⟨w1.heap.size, 6, none⟩) (Nat.le_refl _) _).setCell (p := ⟨w1.heap.size, 11 + y, none⟩) (Nat.le_refl _) _).alloc (by simp; exact HR.out.1.size) _
            · rw [HR.out.2.2]
              exact ((HR.out.2.1.set 6 _).set (11 + y) _).below (below_new _)
          case measure => simp [intOf]; omega
        · have hcl := hA.cell kk (by rw [cntL_len]; omega)
          rw [cntL_at _ kk (by omega)] at hcl
          have hfz := hA.frozen kk
          have hxk : cntAt (l.take k) kk ≤ k := Nat.le_trans (cntAt_le _ _) (by rw [List.length_take]; omega)
          have hst := cntL_snoc1 (l.take k) ⟨(kk : Int), sl, gn, be, rq, cd, (y : Int)⟩ kk rfl hk11 (by show ¬ (kk : Int) = 6; omega)
          rw [← htk] at hst
          obtain ⟨n1, hn1⟩ : ∃ n1, n1 = cntAt (l.take k) kk := ⟨_, rfl⟩
          rw [← hn1] at hcl hxk hst
          have h6I : ¬ (kk : Int) = 6 := by omega
          have HR : Hid (_ ∧ _ ∧ _) := ⟨hb, hA, hst⟩
          clear hb hA hst hn1 htk hx hbr c1 c2 c3 c4 c5 c6 c7 hb0' hok
          go_wp2
          go_roundw
          case rel =>
            refine ⟨k + 1, by simp, hlt, ?_, ?_⟩
            · exact (HR.out.1.setCell (p := ⟨w1.heap.size, kk, none⟩) (Nat.le_refl _) _).alloc (by simp; exact HR.out.1.size) _
            · rw [HR.out.2.2]
              exact (HR.out.2.1.set kk _).below (below_new _)
          case measure => simp [intOf]; omega
      · obtain rfl : k = l.length := by omega
        rw [List.take_length] at hA
        have hA1 := HB.out.1.below hb
        obtain ⟨W5, hW5⟩ : ∃ W5, W5 = wr.setCells w.heap.size 0 (icells (cntL l)) := ⟨_, rfl⟩
        have hst := (hA1.store (P := Try.prog) (b := cntL l) (cntL_len l) infoC).2
        rw [← hW5] at hst
        have hb5 : Below w.heap.size w W5 := by rw [hW5]; exact below_setCells (HB.out.2.1.trans (hb.mono HB.out.2.1.size)) (Nat.le_refl _) _ _ (Nat.le_trans HB.out.2.1.size hb.size)
        have hi17 : (Try.prog.info? 27).map (·.size) = some (icells (cntL l)).length := by rw [infoC, icells_len, cntL_len]
        have ht17 : wr.there w.heap.size 0 (icells (cntL l)).toArray.size := by simp [icells_len, cntL_len]; exact hA1.there
        have hone := all_oneCell_toArray (icells_one (cntL l))
        have HQ : Hid (_ ∧ _ ∧ _ ∧ _ ∧ _ ∧ _ ∧ _) := ⟨hA.range, hi17, ht17, hone, hW5, hst, hb5⟩
        clear hA hA1 hst hb5 hi17 ht17 hone hW5 hb
        obtain ⟨cs, hcs⟩ : ∃ cs, cs = icells (cntL l) := ⟨_, rfl⟩
        rw [← hcs] at HQ
        have HC : Hid _ := hcs
        clear hcs
        go_wp2_with (first | ((with_reducible refine wpList_load_mid rfl 27 (.tmp 5) rfl w1.heap.size 0 ?hx cs _ ?hc Try.underlying27 ?hd ?hi ?_); (case hx => rfl); (case hc => exact HQ.out.1); (case hd => rfl); (case hi => exact HQ.out.2.1)) | ((with_reducible refine wpList_store_mid rfl 27 (.tmp 2) (.tmp 40) rfl w.heap.size 0 cs.toArray ?hx ?hy ?ht ?hi ?h1 ?_); (case hx => rfl); (case hy => rfl); (case ht => exact HQ.out.2.2.1); (case hi => rw [HQ.out.2.1]; simp); (case h1 => exact HQ.out.2.2.2.1); rw [show cs.toArray.toList = cs from rfl, ← HQ.out.2.2.2.2.1]))
        rw [HB.out.2.2.2]
        refine bodyPost_ret (v := .tuple #[.agg (icells (cntL l)).toArray, .int .i64 0]) (results_ct Try.results12 rfl rfl (HQ.out.2.2.2.2.2.1.loadV Try.underlying27 rfl infoC)) rfl ⟨rfl, HQ.out.2.2.2.2.2.2⟩
  · rw [if_pos rfl]
    have hout : ofO l = (List.replicate 17 0, 5) := by unfold ofO; rw [hbad]; rfl
    obtain ⟨W5, hW5⟩ : ∃ W5, W5 = w1.setCells w.heap.size 0 (Array.toList (#[.int .i64 0, .int .i64 0, .int .i64 0, .int .i64 0, .int .i64 0, .int .i64 0, .int .i64 0, .int .i64 0, .int .i64 0, .int .i64 0, .int .i64 0, .int .i64 0, .int .i64 0, .int .i64 0, .int .i64 0, .int .i64 0, .int .i64 0] : Array Value)) := ⟨_, rfl⟩
    have hst := (hA1.store (P := Try.prog) (b := List.replicate 17 0) (by simp) infoC).2
    have hst5 : Arr 27 17 W5 w.heap.size (List.replicate 17 0) := by rw [hW5]; exact hst
    have hb5 : Below w.heap.size w W5 := by rw [hW5]; exact below_setCells hbw (Nat.le_refl _) _ _ hbw.size
    have HQ : Hid (_ ∧ _ ∧ _ ∧ _ ∧ _) := ⟨hA1.there, hb5, hst5, hW5, hout⟩
    clear hA1 hbw hb1 hbad hout hst hst5 hb5 hW5
    go_wp2_with ((with_reducible refine wpList_store_mid rfl 27 (.tmp 2) (.tmp 12) rfl w.heap.size 0 #[.int .i64 0, .int .i64 0, .int .i64 0, .int .i64 0, .int .i64 0, .int .i64 0, .int .i64 0, .int .i64 0, .int .i64 0, .int .i64 0, .int .i64 0, .int .i64 0, .int .i64 0, .int .i64 0, .int .i64 0, .int .i64 0, .int .i64 0] ?hx ?hy ?ht ?hi ?h1 ?_); (case hx => rfl); (case hy => rfl); (case ht => exact HQ.out.1); (case hi => exact infoC); (case h1 => exact HO.out); rw [← HQ.out.2.2.2.1])
    rw [HQ.out.2.2.2.2]
    refine bodyPost_ret (v := .tuple #[.agg (icells (List.replicate 17 0)).toArray, .int .i64 5]) (results_ct Try.results12 rfl rfl (HQ.out.2.2.1.loadV Try.underlying27 rfl infoC)) rfl ⟨rfl, HQ.out.2.1⟩

theorem cell17 (xs : List Int) (w : World) (j : Nat) (T : TypeId) (hj : j < xs.length) : (w.alloc (.cells (icells xs).toArray T)).cell? ⟨w.heap.size, j, none⟩ = some (.int .i64 xs[j]) := by
  rw [cell_of_row _ w.heap.size j _ T (0, 0) (heap_alloc_new w _)]
  simp [icells, hj]

theorem anyBad_small {l : List Ou} (h : l.length ≤ 9223372036854775807) : -9223372036854775808 ≤ liveN l ∧ liveN l ≤ 9223372036854775807 ∧ cntAt l 6 + cntAt l 7 ≤ l.length := by
  have h67 : cntAt l 6 + cntAt l 7 ≤ l.length := by
    unfold cntAt
    clear h
    induction l with
    | nil => simp
    | cons o l ih =>
      simp only [List.countP_cons, List.length_cons]
      have : (if hit o 6 = true then 1 else 0) + (if hit o 7 = true then 1 else 0) ≤ 1 := by
        unfold hit
        by_cases h6 : o.kind = 6
        · simp [h6]
        · simp [h6]; split <;> omega
      omega
  have h1 := cntAt_le l 1
  unfold liveN
  omega

set_option maxHeartbeats 4000000 in
set_option maxRecDepth 100000 in
theorem live_any (v : Value) (l : List Ou) (w : World) (hv : OsAt w v l) :
    Calls Try.prog 15 #[v] w fun r w' => r = .returned (.tuple #[.int .i64 (liveO l).1, .int .i64 (liveO l).2]) ∧ Below w.heap.size w w' := by
  obtain ⟨p, c, rfl, hc, hm⟩ := RvAt.form hv
  unfold maxLen at hm
  have hs := anyBad_small (l := l) (by omega)
  have g1 := cntAt_le l 1
  have g6 := cntAt_le l 6
  have g7 := cntAt_le l 7
  have HO := of_any _ l w hv
  clear hv
  obtain ⟨xs, hxs⟩ : ∃ xs, xs = (ofO l).1 := ⟨_, rfl⟩
  obtain ⟨er, her⟩ : ∃ er, er = (ofO l).2 := ⟨_, rfl⟩
  rw [← hxs, ← her] at HO
  have hx17 : xs.length = 17 := by rw [hxs]; exact ofO_len l
  have HV : Hid _ := HO
  clear HO
  have HX : Hid (_ ∧ _ ∧ _ ∧ _) := ⟨hx17, hxs, her, hs⟩
  clear hx17 hxs her hs
  obtain ⟨LV, hLV⟩ : ∃ LV, LV = liveO l := ⟨_, rfl⟩
  rw [← hLV]
  have HL : Hid _ := hLV
  clear hLV
  go_enter Try.func15, Try.ntmps15
  go_wp2_with fail
  refine Calls.mono HV.out ?_
  rintro r w1 ⟨rfl, hb⟩
  obtain ⟨W2, hW2⟩ : ∃ W2, W2 = w1.alloc (.cells (icells (List.replicate 17 0)).toArray 27) := ⟨_, rfl⟩
  have hA2 : Arr 27 17 W2 w1.heap.size (List.replicate 17 0) := by rw [hW2]; exact ⟨heap_alloc_new _ _, by simp⟩
  obtain ⟨W3, hW3⟩ : ∃ W3, W3 = W2.setCells w1.heap.size 0 (icells xs) := ⟨_, rfl⟩
  have hst := (hA2.store (P := Try.prog) (b := xs) HX.out.1 infoC).2
  rw [← hW3] at hst
  have hb2 : Below w.heap.size w W2 := by rw [hW2]; exact hb.alloc hb.size _
  have hb3 : Below w.heap.size w W3 := by rw [hW3]; exact below_setCells hb2 hb.size _ _ hb2.size
  have ht17 : W2.there w1.heap.size 0 (icells xs).toArray.size := by simp [icells_len, HX.out.1]; exact hA2.there
  have hi17 : (Try.prog.info? 27).map (·.size) = some (icells xs).toArray.size := by rw [infoC]; simp [icells_len, HX.out.1]
  have hone := all_oneCell_toArray (icells_one xs)
  have h1 := hst.cell 1 (by rw [HX.out.1]; omega)
  have h6 := hst.cell 6 (by rw [HX.out.1]; omega)
  have h7 := hst.cell 7 (by rw [HX.out.1]; omega)
  have HB : Hid (_ ∧ _ ∧ _ ∧ _ ∧ _ ∧ _) := ⟨ht17, hi17, hone, hW2, hW3, hb3⟩
  obtain ⟨cs, hcs⟩ : ∃ cs, cs = icells xs := ⟨_, rfl⟩
  rw [← hcs] at HB
  rw [← hcs]
  have HC : Hid _ := hcs
  clear hcs ht17 hi17 hone hW2 hW3 hb2 hb3 hst hA2 hb
  have hcase : (er = 5 ∧ anyBad l = true) ∨ (er = 0 ∧ anyBad l = false ∧ xs = cntL l) := by
    rw [HX.out.2.2.1, HX.out.2.1]
    unfold ofO
    cases anyBad l
    · right; exact ⟨rfl, rfl, rfl⟩
    · left; exact ⟨rfl, rfl⟩
  rcases hcase with ⟨rfl, hbad⟩ | ⟨rfl, hbad, hxl⟩
  · have hlive : liveO l = (0, 5) := by unfold liveO; rw [hbad]; rfl
    have HE : Hid (LV = (0, 5)) := HL.out.trans hlive
    clear hlive hbad h1 h6 h7
    go_wp2_with ((with_reducible refine wpList_store_mid rfl 27 (.tmp 4) (.tmp 10) rfl w1.heap.size 0 cs.toArray ?hx ?hy ?ht ?hi ?h1 ?_); (case hx => rfl); (case hy => rfl); (case ht => rw [zeros17, ← HB.out.2.2.2.1]; exact HB.out.1); (case hi => exact HB.out.2.1); (case h1 => exact HB.out.2.2.1); rw [zeros17, ← HB.out.2.2.2.1, show cs.toArray.toList = cs from rfl, ← HB.out.2.2.2.2.1])
    go_ret2
    exact ⟨by rw [HE.out]; try rfl, HB.out.2.2.2.2.2⟩
  · have hlive : liveO l = if liveN l < 0 then (0, 6) else (liveN l, 0) := by unfold liveO; rw [hbad]; rfl
    have HE : Hid _ := HL.out.trans hlive
    clear HL
    subst hxl
    rw [cntL_at l 1 (by omega)] at h1
    rw [cntL_at l 6 (by omega)] at h6
    rw [cntL_at l 7 (by omega)] at h7
    have hs := HX.out.2.2.2
    unfold liveN at hs HE
    clear hlive hbad HV
    generalize cntAt l 1 = a1 at *
    generalize cntAt l 6 = a6 at *
    generalize cntAt l 7 = a7 at *
    have b1 : a1 ≤ 9223372036854775807 := by omega
    have b6 : a6 ≤ 9223372036854775807 := by omega
    have b7 : a7 ≤ 9223372036854775807 := by omega
    have b67 : a6 + a7 ≤ 9223372036854775807 := by omega
    clear g1 g6 g7 hs HX
    by_cases hneg : (a1 : Int) - a6 - a7 < 0
    · rw [if_pos hneg] at HE
      go_wp2_with ((with_reducible refine wpList_store_mid rfl 27 (.tmp 4) (.tmp 10) rfl w1.heap.size 0 cs.toArray ?hx ?hy ?ht ?hi ?h1 ?_); (case hx => rfl); (case hy => rfl); (case ht => rw [zeros17, ← HB.out.2.2.2.1]; exact HB.out.1); (case hi => exact HB.out.2.1); (case h1 => exact HB.out.2.2.1); rw [zeros17, ← HB.out.2.2.2.1, show cs.toArray.toList = cs from rfl, ← HB.out.2.2.2.2.1])
      go_ret2
      exact ⟨by rw [HE.out]; try rfl, HB.out.2.2.2.2.2⟩
    · rw [if_neg hneg] at HE
      go_wp2_with ((with_reducible refine wpList_store_mid rfl 27 (.tmp 4) (.tmp 10) rfl w1.heap.size 0 cs.toArray ?hx ?hy ?ht ?hi ?h1 ?_); (case hx => rfl); (case hy => rfl); (case ht => rw [zeros17, ← HB.out.2.2.2.1]; exact HB.out.1); (case hi => exact HB.out.2.1); (case h1 => exact HB.out.2.2.1); rw [zeros17, ← HB.out.2.2.2.1, show cs.toArray.toList = cs from rfl, ← HB.out.2.2.2.2.1])
      go_ret2
      exact ⟨by rw [HE.out]; try rfl, HB.out.2.2.2.2.2⟩
end Go.Proofs.Ythfadekfobceaaa.Walks
