/-
  What weightsOf answers. Condition: the ring's spots can be read.
-/
import Derived.Test.YtpmobbbohchdlabWeights
import Derived.WalkKit
import Derived.ProofKit
import Derived.Handy
import Derived.LoopTactic
import Derived.Below
import Derived.Laws.BitsAllLaws
import Derived.RegionTactic
import Derived.Deep.RegionHeld3
import Derived.Deep.DrawnRows
import Derived.Deep.AppendLies
import Derived.Laws.OwnMore
import Derived.Deep.Onto
import Derived.Deep.QuietTactic
import Derived.BigQuiet
namespace Go.Proofs.Ytpmobbbohchdlab.Walks
open Go.RowKit
set_option linter.unusedVariables false
set_option linter.unusedSimpArgs false
attribute [local go_sem ↓] Go.wp_at_zero Go.wp_at_succ

theorem zeros12 : (#[.int .i64 0, .int .i64 0, .int .i64 0, .int .i64 0, .int .i64 0, .int .i64 0, .int .i64 0, .int .i64 0, .int .i64 0, .int .i64 0, .int .i64 0, .int .i64 0] : Array Value) = (icells (List.replicate 12 0)).toArray := rfl

theorem results_ct {fn : Func} {x z : Tmp} {t : TypeId} (h : fn.results = #[.cell x t, .tmp z]) {tmps : Array Value} {P : Program} {w : World} {p : Addr} {v1 v3 : Value} (hx : tmps.getD x undef = .pointer (some p)) (hz : tmps.getD z undef = v3)
    (h1 : (loadVar t p).run P w = .ok v1 w) : (results fn tmps).run P w = .ok (.tuple #[v1, v3]) w := by
  have e1 : ∀ a : Addr, (asAddr (.pointer (some a))).run P w = .ok a w := fun a => rfl
  simp only [Array.getD_eq_getD_getElem?] at hx hz
  simp [results, h, hx, hz, e1, h1, Sem.run_bind]

theorem one_cell {w : World} {g : Nat} {a : Value} {T : TypeId} (h : w.heap[g]? = some (.cells #[a] T (0, 0))) : w.cell? ⟨g, 0, none⟩ = some a := by simp [World.cell?, h]

/-- The weights of the first k backends. -/
def wL (l : List Tm) (k : Nat) : List Int := (List.range 12).map fun b => if b < k then ((cnt l b / 4 : Nat) : Int) else 0

theorem wL_len (l : List Tm) (k : Nat) : (wL l k).length = 12 := by simp [wL]
theorem wL_zero (l : List Tm) : wL l 0 = List.replicate 12 0 := by simp [wL]; rfl
theorem wL_all (l : List Tm) : wL l 12 = wOf l := by
  unfold wL wOf
  apply List.map_congr_left
  intro b hb
  rw [if_pos (List.mem_range.1 hb)]
theorem wL_succ (l : List Tm) (k : Nat) (hk : k < 12) : wL l (k + 1) = (wL l k).set k ((cnt l k / 4 : Nat) : Int) := by
  apply List.ext_getElem?
  intro j
  by_cases hj : j < 12
  · by_cases h : j = k
    · subst h
      rw [List.getElem?_set_self (by rw [wL_len]; exact hj)]
      simp [wL, hj]
    · rw [List.getElem?_set_ne (Ne.symm h)]
      simp [wL, hj, show j < k + 1 ↔ j < k by omega]
  · rw [List.getElem?_eq_none (by rw [wL_len]; omega), List.getElem?_eq_none (by rw [List.length_set, wL_len]; omega)]

/-- What weightsOf leaves: weights, and whether the ring may be. -/
def WRes (l : List Tm) (w : World) (r : Ending) (w' : World) : Prop := ∃ (a : List Int) (b : Bool), r = .returned (.tuple #[.agg (icells a).toArray, .bool b]) ∧ a.length = 12 ∧ (b = true ↔ RingOk l) ∧ (b = true → a = wOf l) ∧ Below w.heap.size w w'

theorem wres_no {l : List Tm} {w w' : World} (h : ¬ RingOk l) (hb : Below w.heap.size w w') : WRes l w (.returned (.tuple #[.agg (icells (List.replicate 12 0)).toArray, .bool false])) w' :=
  ⟨List.replicate 12 0, false, rfl, by simp, ⟨fun e => Bool.noConfusion e, fun e => absurd e h⟩, fun e => Bool.noConfusion e, hb⟩

theorem wres_is {l : List Tm} {w w' : World} (h : ∀ b, b < 12 → cnt l b ≤ 32) (hb : Below w.heap.size w w') : WRes l w (.returned (.tuple #[.agg (icells (wOf l)).toArray, .bool (decide (l = spotsOf (wOf l)))])) w' :=
  ⟨wOf l, _, rfl, wOf_len l, by rw [decide_eq_true_iff]; exact (ringOk_iff h).symm, fun _ => rfl, hb⟩

set_option maxHeartbeats 8000000 in
set_option maxRecDepth 100000 in
theorem weightsOf_any (v : Value) (l : List Tm) (w : World) (hv : TmAt w v l) :
    Calls Try.prog 16 #[.agg #[v]] w (WRes l w) := by
  obtain ⟨p, c, rfl, hc, hm, pv⟩ := hv.parts
  unfold maxLen at hm
  have HV : Hid (_ ∧ _) := ⟨hv, pv⟩
  clear hv pv
  go_enter Try.func16, Try.ntmps16
  go_wp2
  rw [zeros12]
  obtain ⟨W0, hW0⟩ : ∃ W0, W0 = (((w.alloc (.cells #[.slice p l.length c] 25)).alloc (.cells (icells (List.replicate 12 0)).toArray 49)).alloc (.cells (icells (List.replicate 12 0)).toArray 49)).alloc (.cells (icells (List.replicate 12 0)).toArray 49) := ⟨_, rfl⟩
  rw [← hW0]
  have hbW : Below w.heap.size w W0 := by rw [hW0]; exact ((((Below.refl _ _).alloc (Nat.le_refl _) _).alloc (by simp) _).alloc (by simp; omega) _).alloc (by simp; omega) _
  have hR0 : W0.heap[w.heap.size]? = some (.cells #[.slice p l.length c] 25 (0, 0)) := by rw [hW0]; exact heap_old _ _ (heap_old _ _ (heap_old _ _ (heap_alloc_new _ _)))
  have hA1 : Arr 49 12 W0 (w.heap.size + 1) (List.replicate 12 0) := by rw [hW0]; exact ⟨heap_old _ _ (heap_old _ _ (heap_second _ _ _)), by simp⟩
  have hA2 : Arr 49 12 W0 (w.heap.size + 1 + 1) (List.replicate 12 0) := by rw [hW0]; exact ⟨heap_old _ _ (by have := heap_alloc_new ((w.alloc (.cells #[.slice p l.length c] 25)).alloc (.cells (icells (List.replicate 12 0)).toArray 49)) (.cells (icells (List.replicate 12 0)).toArray 49); simpa using this), by simp⟩
  have hA3 : Arr 49 12 W0 (w.heap.size + 1 + 1 + 1) (List.replicate 12 0) := by rw [hW0]; exact ⟨by have := heap_alloc_new (((w.alloc (.cells #[.slice p l.length c] 25)).alloc (.cells (icells (List.replicate 12 0)).toArray 49)).alloc (.cells (icells (List.replicate 12 0)).toArray 49)) (.cells (icells (List.replicate 12 0)).toArray 49); simpa using this, by simp⟩
  have H0 : Hid (_ ∧ _ ∧ _ ∧ _ ∧ _) := ⟨hbW, hR0, hA1, hA2, hA3⟩
  clear hbW hR0 hA1 hA2 hA3 hW0
  go_loopw [13] (fun t wr => ∃ k : Nat, t = .int .i64 k ∧ k ≤ l.length ∧ (∀ t ∈ l.take k, 0 ≤ t.2 ∧ t.2 < 12) ∧ Below w.heap.size w wr ∧ wr.heap[w.heap.size]? = some (.cells #[.slice p l.length c] 25 (0, 0)) ∧ Arr 49 12 wr (w.heap.size + 1) (List.replicate 12 0) ∧ Arr 49 12 wr (w.heap.size + 1 + 1) (cntL (l.take k)) ∧ Arr 49 12 wr (w.heap.size + 1 + 1 + 1) (List.replicate 12 0)) (fun t _ => l.length - (intOf t).toNat)
  case atStart => exact ⟨0, rfl, Nat.zero_le _, by simp, H0.out⟩
  case round =>
    obtain ⟨k, rfl, hk, hall, hb, hR, h1, h2, h3⟩ := hrel
    by_cases hlt : k < l.length
    · obtain ⟨b0, off, rfl, hb0, c1, c2⟩ := HV.out.2 k hlt
      have e1 := (hb.cell (p := ⟨b0, off + k * 2, none⟩) hb0).trans c1
      have e2 := (hb.cell (p := ⟨b0, off + k * 2 + 1, none⟩) hb0).trans c2
      obtain ⟨ta, hta⟩ : ∃ ta, ta = l[k].1 := ⟨_, rfl⟩
      obtain ⟨td, htd⟩ : ∃ td, td = l[k].2 := ⟨_, rfl⟩
      rw [← hta] at e1
      rw [← htd] at e2
      have htk : l.take (k + 1) = l.take k ++ [(ta, td)] := by rw [List.take_succ_eq_append_getElem hlt, hta, htd]
      have hmem : (ta, td) ∈ l := by rw [hta, htd]; exact List.getElem_mem hlt
      have hkI : (k : Int) < (l.length : Int) := by omega
      have HK : Hid (_ ∧ _ ∧ _ ∧ _ ∧ _ ∧ _ ∧ _ ∧ _) := ⟨hall, hb, hR, h1, h2, h3, htk, hmem⟩
      clear hall hb hR h1 h2 h3 htk hmem hta htd c1 c2
      go_wp2_with fail
      refine (isBackend_any _ _).mono ?_
      rintro r w1 ⟨rfl, hw1⟩
      have hX1 := heap_alloc_new wr (.cells #[.int .i64 ta, .int .i64 td] 42)
      have hs1 : w1.heap.size = wr.heap.size + 1 := by rw [hw1]; simp
      rw [← hw1] at hX1
      have hbw1 : Below wr.heap.size wr w1 := by
        rw [hw1]
        exact (Below.refl _ _).alloc (Nat.le_refl _) _
      clear hw1
      obtain ⟨d0, d1, _, _, dlt⟩ := two_cells hX1
      have q1 := HK.out.2.2.2.1.below hbw1
      have q2 := HK.out.2.2.2.2.1.below hbw1
      have q3 := HK.out.2.2.2.2.2.1.below hbw1
      have qR := box_below HK.out.2.2.1 hbw1
      have qb := HK.out.2.1.trans (hbw1.mono HK.out.2.1.size)
      by_cases hin : 0 ≤ td ∧ td < 12
      · obtain ⟨b, rfl⟩ := Int.eq_ofNat_of_zero_le hin.1
        have hb12 : b < 12 := by omega
        have hbI : (b : Int) < 12 := by omega
        have hcl := q2.cell b (by rw [cntL_len]; exact hb12)
        have hfz := q2.frozen b
        have hcn : (cntL (l.take k))[b]'(by rw [cntL_len]; exact hb12) = ((cnt (l.take k) b : Nat) : Int) := by
          have := cntL_at (l.take k) b hb12
          rwa [List.getD_eq_getElem?_getD, List.getElem?_eq_getElem (by rw [cntL_len]; exact hb12)] at this
        rw [hcn] at hcl
        have hxk : cnt (l.take k) b ≤ k := Nat.le_trans (cnt_le _ _) (by rw [List.length_take]; omega)
        obtain ⟨x, hx⟩ : ∃ x, x = cnt (l.take k) b := ⟨_, rfl⟩
        rw [← hx] at hcl hxk
        have hd : decide (0 ≤ (b : Int) ∧ (b : Int) < 12) = true := decide_eq_true hin
        rw [hd]
        have HQ : Hid (_ ∧ _ ∧ _ ∧ _ ∧ _ ∧ _) := ⟨q1, q2, q3, qR, qb, hx⟩
        clear q1 q2 q3 qR qb hx hcn hd hin hbw1 hX1
        go_wp2
        go_roundw
        case rel =>
          obtain ⟨q1, q2, q3, qR, qb, hx⟩ := HQ.out
          refine ⟨k + 1, by simp, hlt, fun t ht => ?_, qb.setCell (by simp; omega) _, ?_, q1.other (by simp) _, ?_, q3.other (by simp) _⟩
          · rw [HK.out.2.2.2.2.2.2.1, List.mem_append] at ht
            rcases ht with ht | ht
            · exact HK.out.1 t ht
            · rw [List.mem_singleton] at ht
              subst ht
              exact ⟨by simp, by simpa using hbI⟩
          · rw [Below.heap_setCell _ _ _ _ (by simp; omega)]
            exact qR
          · rw [HK.out.2.2.2.2.2.2.1, cntL_snoc _ _ b hb12 rfl, ← hx]
            exact q2.set b _
        case measure => simp [intOf]; omega
      · have hd : decide (0 ≤ td ∧ td < 12) = false := decide_eq_false hin
        rw [hd]
        have hst := (q1.store (P := Try.prog) (b := List.replicate 12 0) (by simp) infoW).2
        have hno : ¬ RingOk l := fun h => hin (ringOk_in h _ HK.out.2.2.2.2.2.2.2)
        obtain ⟨W5, hW5⟩ : ∃ W5, W5 = w1.setCells (w.heap.size + 1) 0 (Array.toList (#[.int .i64 0, .int .i64 0, .int .i64 0, .int .i64 0, .int .i64 0, .int .i64 0, .int .i64 0, .int .i64 0, .int .i64 0, .int .i64 0, .int .i64 0, .int .i64 0] : Array Value)) := ⟨_, rfl⟩
        have hst5 : Arr 49 12 W5 (w.heap.size + 1) (List.replicate 12 0) := by rw [hW5]; exact hst
        have hb5 : Below w.heap.size w W5 := by rw [hW5]; exact below_setCells qb (by omega) _ _ qb.size
        have hone := all_oneCell_toArray (icells_one (List.replicate 12 0))
        have HQ : Hid (_ ∧ _ ∧ _ ∧ _ ∧ _) := ⟨q1.there, hb5, hst5, hno, hW5⟩
        clear q1 q2 q3 qR qb hd hin hbw1 hX1 hst hno hW5 d0 d1 e1 e2 hst5 hb5
        have HO : Hid _ := hone
        clear hone
        go_wp2_with ((with_reducible refine wpList_store_mid rfl 49 (.tmp 2) (.tmp 21) rfl (w.heap.size + 1) 0 #[.int .i64 0, .int .i64 0, .int .i64 0, .int .i64 0, .int .i64 0, .int .i64 0, .int .i64 0, .int .i64 0, .int .i64 0, .int .i64 0, .int .i64 0, .int .i64 0] ?hx ?hy ?ht ?hi ?h1 ?_); (case hx => rfl); (case hy => rfl); (case ht => exact HQ.out.1); (case hi => exact infoW); (case h1 => exact HO.out); rw [← HQ.out.2.2.2.2])
        refine bodyPost_ret (v := .tuple #[.agg (icells (List.replicate 12 0)).toArray, .bool false]) (results_ct Try.results16 rfl rfl (HQ.out.2.2.1.loadV Try.underlying49 rfl infoW)) rfl (wres_no HQ.out.2.2.2.1 HQ.out.2.1)
    · obtain rfl : k = l.length := by omega
      rw [List.take_length] at hall h2
      have hi12 : (Try.prog.info? 49).map (·.size) = some (icells (cntL l)).length := by rw [infoW, icells_len, cntL_len]
      have hcn := cntL_len l
      have HK : Hid (_ ∧ _ ∧ _ ∧ _ ∧ _ ∧ _ ∧ _) := ⟨hall, hb, hR, h1, h2, h3, hi12⟩
      clear hall hb hR h1 h2 h3 hi12
      go_wp2_with ((with_reducible refine wpList_load_mid rfl 49 (.tmp 4) rfl (w.heap.size + 1 + 1) 0 ?hx (icells (cntL l)) _ ?hc Try.underlying49 ?hd ?hi ?_); (case hx => rfl); (case hc => exact HK.out.2.2.2.2.1.range); (case hd => rfl); (case hi => exact HK.out.2.2.2.2.2.2))
      go_loopw [30] (fun t W => ∃ j : Nat, t = .int .i64 j ∧ j ≤ 12 ∧ (∀ b, b < j → cnt l b ≤ 32) ∧ Below w.heap.size w W ∧ W.heap[w.heap.size]? = some (.cells #[.slice p l.length c] 25 (0, 0)) ∧ Arr 49 12 W (w.heap.size + 1) (List.replicate 12 0) ∧ Arr 49 12 W (w.heap.size + 1 + 1 + 1) (wL l j)) (fun t _ => 12 - (intOf t).toNat)
      case atStart =>
        obtain ⟨hall, hb, hR, h1, h2, h3, _⟩ := HK.out
        exact ⟨0, rfl, Nat.zero_le _, fun b h => absurd h (Nat.not_lt_zero _), hb, hR, h1, by rw [wL_zero]; exact h3⟩
      case round =>
        obtain ⟨j, rfl, hj, hcnt, hb, hR, h1, h3⟩ := hrel
        by_cases hlt2 : j < 12
        · have hix := run_index_arr (cntL l) j hcn hlt2
          rw [cntL_at l j hlt2] at hix
          have hjI : (j : Int) < 12 := by omega
          have hxl : cnt l j ≤ l.length := cnt_le l j
          obtain ⟨x, hx⟩ : ∃ x, x = cnt l j := ⟨_, rfl⟩
          rw [← hx] at hix hxl
          by_cases h32 : x ≤ 32
          · have hgt : ¬ ((32 : Int) < (x : Int)) := by omega
            have hcl := h3.cell j (by rw [wL_len]; exact hlt2)
            have hfz := h3.frozen j
            have HJ : Hid (_ ∧ _ ∧ _ ∧ _ ∧ _ ∧ _) := ⟨hcnt, hb, hR, h1, h3, hx⟩
            clear hcnt hb hR h1 h3 hx
            go_wp2
            go_roundw
            case rel =>
              obtain ⟨hcnt, hb, hR, h1, h3, hx⟩ := HJ.out
              refine ⟨j + 1, by simp, hlt2, fun b hb2 => ?_, hb.setCell (by simp; omega) _, ?_, h1.other (by simp) _, ?_⟩
              · by_cases e : b = j
                · subst e; rw [← hx]; exact h32
                · exact hcnt b (by omega)
              · rw [Below.heap_setCell _ _ _ _ (by simp; omega)]
                exact hR
              · rw [wL_succ l j hlt2, ← hx]
                have := h3.set j (((x / 4 : Nat) : Int))
                first | exact this | (simpa using this)
            case measure => simp [intOf]; omega
          · have hgt : (32 : Int) < (x : Int) := by omega
            have hno : ¬ RingOk l := fun h => h32 (by rw [hx]; exact ringOk_cnt h j hlt2)
            obtain ⟨W5, hW5⟩ : ∃ W5, W5 = wr.setCells (w.heap.size + 1) 0 (Array.toList (#[.int .i64 0, .int .i64 0, .int .i64 0, .int .i64 0, .int .i64 0, .int .i64 0, .int .i64 0, .int .i64 0, .int .i64 0, .int .i64 0, .int .i64 0, .int .i64 0] : Array Value)) := ⟨_, rfl⟩
            have hst := (h1.store (P := Try.prog) (b := List.replicate 12 0) (by simp) infoW).2
            have hst5 : Arr 49 12 W5 (w.heap.size + 1) (List.replicate 12 0) := by rw [hW5]; exact hst
            have hb5 : Below w.heap.size w W5 := by rw [hW5]; exact below_setCells hb (by omega) _ _ hb.size
            have hone := all_oneCell_toArray (icells_one (List.replicate 12 0))
            have HQ : Hid (_ ∧ _ ∧ _ ∧ _ ∧ _ ∧ _) := ⟨h1.there, hb5, hst5, hno, hW5, hone⟩
            clear hcnt hb hR h1 h3 hst hno hW5 hst5 hb5 hone hx
            go_wp2_with ((with_reducible refine wpList_store_mid rfl 49 (.tmp 2) (.tmp 36) rfl (w.heap.size + 1) 0 #[.int .i64 0, .int .i64 0, .int .i64 0, .int .i64 0, .int .i64 0, .int .i64 0, .int .i64 0, .int .i64 0, .int .i64 0, .int .i64 0, .int .i64 0, .int .i64 0] ?hx ?hy ?ht ?hi ?h1 ?_); (case hx => rfl); (case hy => rfl); (case ht => exact HQ.out.1); (case hi => exact infoW); (case h1 => exact HQ.out.2.2.2.2.2); rw [← HQ.out.2.2.2.2.1])
            refine bodyPost_ret (v := .tuple #[.agg (icells (List.replicate 12 0)).toArray, .bool false]) (results_ct Try.results16 rfl rfl (HQ.out.2.2.1.loadV Try.underlying49 rfl infoW)) rfl (wres_no HQ.out.2.2.2.1 HQ.out.2.1)
        · obtain rfl : j = 12 := by omega
          rw [wL_all] at h3
          have hwt : Wts (wOf l) := wts_of_counts hcnt
          have hv0 : TmAt wr (.slice p l.length c) l := HV.out.1.below (below_of hb (Nat.le_refl _))
          have hlw := wOf_len l
          have hc0 := one_cell hR
          have HS : Hid (_ ∧ _ ∧ _ ∧ _ ∧ _ ∧ _ ∧ _) := ⟨hwt, hv0, hcnt, hb, hR, h1, h3⟩
          have F1 : wr.cell? ⟨w.heap.size, 0, none⟩ = some (.slice p l.length c) ∧ wr.rangeAt (w.heap.size + 1 + 1 + 1) 0 (icells (wOf l)) ∧ wr.there (w.heap.size + 1) 0 12 := ⟨hc0, h3.range, h1.there⟩
          have G1 : Hid _ := F1
          have hu12 := Try.underlying49
          have hi12 : (Try.prog.info? 49).map (·.size) = some (icells (wOf l)).length := by rw [infoW, icells_len, wOf_len]
          have hl12 : (icells (wOf l)).length = 12 := by rw [icells_len, wOf_len]
          have ho12 := icells_one (wOf l)
          clear hcnt hb hR h1 h3 hwt hv0 F1
          go_wp2
          refine wp_region_held_drew (S := fun W => W.cell? ⟨w.heap.size, 0, none⟩ = some (.slice p l.length c) ∧ W.rangeAt (w.heap.size + 1 + 1 + 1) 0 (icells (wOf l)) ∧ W.there (w.heap.size + 1) 0 12) (by kernel_rfl) G1.out (fun hHeld => ?_)
          refine' wpAnyH_take (i := 0) (oi := _) (v := _) rfl (by kernel_rfl) (by kernel_rfl) (by kernel_rfl) (fun _ _ _ h => h) (yieldsIf_load_mid (by rfl) _ _ rfl _ _ rfl _ _ (fun W h => h.2.1) hu12 rfl hi12) hHeld ?_
          simp only [Act.put, List.setIfInBounds_toArray, List.set_cons_zero, List.set_cons_succ]
          refine' wpAnyH_take (i := 3) (oi := _) (v := _) rfl (by kernel_rfl) (by kernel_rfl) (by kernel_rfl) (fun _ _ _ h => h) (yieldsIf_load_mid (by rfl) _ _ rfl _ _ rfl _ _ (fun W h => h.2.1) hu12 rfl hi12) hHeld ?_
          simp only [Act.put, List.setIfInBounds_toArray, List.set_cons_zero, List.set_cons_succ]
          refine wpAnyH_take (i := 1) (oi := _) (v := .pointer (some ⟨w.heap.size, 0, none⟩)) rfl (by kernel_rfl) (by kernel_rfl) (by kernel_rfl) (fun _ _ _ h => h) (Or.inl ⟨by rfl, fun W hSw => by go_simp⟩) hHeld ?_
          simp only [Act.put, List.setIfInBounds_toArray, List.set_cons_zero, List.set_cons_succ]
          refine wpAnyH_take (i := 2) (oi := _) (v := .slice p l.length c) rfl (by kernel_rfl) (by kernel_rfl) (by kernel_rfl) (fun _ _ _ h => h) (Or.inl ⟨by rfl, fun W hSw => by have hh := hSw.1; go_simp⟩) hHeld ?_
          simp only [Act.put, List.setIfInBounds_toArray, List.set_cons_zero, List.set_cons_succ]
          refine wpAnyH_ready (rs := [4]) (by kernel_rfl) (by simp) ?_
          refine AllReadyH.cons (o := _) rfl (fun K hK => ?_) AllReadyH.nil
          go_simp
          refine (spots_any _ _ HS.out.1).mono ?_
          rintro r w2 ⟨u, rfl, hown2, hb2⟩
          have hbw2 : Below wr.heap.size wr w2 := below_of_drew hb2
          have hT1 : TmAt w2 (.slice p l.length c) l := HS.out.2.1.below hbw2
          have hT2 : TmAt w2 u (spotsOf (wOf l)) := rowAt_own hown2
          have hA1 := HS.out.2.2.2.2.2.1.below hbw2
          have hA3 := HS.out.2.2.2.2.2.2.below hbw2
          have hR2 := box_below HS.out.2.2.2.2.1 hbw2
          have hb3 := HS.out.2.2.2.1.trans (hbw2.mono HS.out.2.2.2.1.size)
          have HT : Hid (_ ∧ _ ∧ _ ∧ _ ∧ _ ∧ _) := ⟨hT1, hT2, hA1, hb3, hA3, hR2⟩
          have G2 : Hid (_ ∧ _ ∧ _) := ⟨one_cell hR2, hA3.range, hA1.there⟩
          clear hT1 hT2 hA1 hA3 hR2 hb3 hbw2 hown2 hb2 hHeld
          refine hK.out _ _ G2.out (fun hHeld => ?_)
          clear hK K
          try simp only [Act.put, List.setIfInBounds_toArray, List.set_cons_zero, List.set_cons_succ]
          refine wpAnyH_ready (rs := [5]) (by kernel_rfl) (by simp) ?_
          refine AllReadyH.cons (o := _) rfl (fun K hK => ?_) AllReadyH.nil
          go_simp
          refine (equal_any _ _ l (spotsOf (wOf l)) _ HT.out.1 HT.out.2.1).mono ?_
          rintro r w3 ⟨rfl, q, rfl⟩
          refine hK.out _ _ G2.out (fun hHeld => ?_)
          clear hK K
          try simp only [Act.put, List.setIfInBounds_toArray, List.set_cons_zero, List.set_cons_succ]
          obtain ⟨W9, hW9⟩ : ∃ W9, W9 = (w2.drewN q).setCells (w.heap.size + 1) 0 (icells (wOf l)) := ⟨_, rfl⟩
          have hA9 : Arr 49 12 W9 (w.heap.size + 1) (wOf l) := by rw [hW9]; exact ((show Arr 49 12 (w2.drewN q) (w.heap.size + 1) (List.replicate 12 0) from HT.out.2.2.1).store (P := Try.prog) (b := wOf l) hlw infoW).2
          have hb9 : Below w.heap.size w W9 := by rw [hW9]; have h := below_drewN HT.out.2.2.2.1 q; exact below_setCells h (by omega) _ _ h.size
          have hsz12 : (icells (wOf l)).toArray.size = 12 := hl12
          have hA9' : Arr 49 12 W9 (w.heap.size + 1 + 1 + 1) (wOf l) := by rw [hW9]; exact HT.out.2.2.2.2.1.keep (World.heap_setCells_other (w2.drewN q) _ _ _ HT.out.2.2.2.2.1.lt (by omega))
          have hR9 : W9.heap[w.heap.size]? = some (.cells #[.slice p l.length c] 25 (0, 0)) := by rw [hW9]; exact (World.heap_setCells_other (w2.drewN q) _ _ _ (Array.getElem?_eq_some_iff.1 HT.out.2.2.2.2.2).1 (by omega)).trans HT.out.2.2.2.2.2
          have G9 : Hid (_ ∧ _ ∧ _) := ⟨one_cell hR9, hA9'.range, hA9.there⟩
          refine wpAnyH_ready (rs := [6]) (by kernel_rfl) (by simp) ?_
          refine AllReadyH.cons (o := _) rfl (fun K hK => ?_) AllReadyH.nil
          rw [if_pos (by rfl)]
          refine wp_store_mid _ _ _ rfl _ _ (icells (wOf l)).toArray rfl rfl (by rw [hsz12]; exact G2.out.2.2) (by rw [hsz12]; exact infoW) (all_oneCell_toArray ho12) ?_
          rw [List.toList_toArray, ← hW9]
          have H9 : Hid (_ ∧ _) := ⟨hA9, hb9⟩
          clear hA9 hb9 hA9' hR9 hW9
          refine hK.out _ _ G9.out (fun hHeld => ?_)
          clear hK K
          try simp only [Act.put, List.setIfInBounds_toArray, List.set_cons_zero, List.set_cons_succ]
          refine wpAnyH_ready (rs := [7]) (by kernel_rfl) (by simp) ?_
          refine AllReadyH.cons (o := _) rfl (fun K hK => ?_) AllReadyH.nil
          go_simp
          refine hK.out _ _ G9.out (fun hHeld => ?_)
          clear hK K
          try simp only [Act.put, List.setIfInBounds_toArray, List.set_cons_zero, List.set_cons_succ]
          refine wpAnyH_done (by kernel_rfl) ?_ _
          go_wp2
          refine bodyPost_ret (v := .tuple #[.agg (icells (wOf l)).toArray, .bool (decide (l = spotsOf (wOf l)))]) (results_ct Try.results16 rfl rfl (H9.out.1.loadV Try.underlying49 rfl infoW)) rfl (wres_is HS.out.2.2.1 H9.out.2)
end Go.Proofs.Ytpmobbbohchdlab.Walks
