/-
  The document's EventRead where the kind has fields: it answers what the bytes say. Condition: at most 64 bytes, which lie in memory.
-/
import Derived.Test.YtcafnliedkhjmaaRows
import Derived.Test.YtcafnliedkhjmaaChecked
import Derived.Test.YtcafnliedkhjmaaRefA
import Derived.Deep.QuietTactic
import Derived.BigQuiet
import Derived.WalkKit
import Derived.ProofKit
import Derived.Handy
import Derived.LoopTactic
import Derived.Below
import Derived.Laws.BitsAllLaws
import Derived.RegionTactic
import Derived.Deep.RegionHeld3
import Derived.Deep.DrawnRows
import Derived.Deep.AppendLies
import Derived.Laws.OwnMore
import Derived.Deep.Onto
namespace Go.Proofs.Ytcafnliedkhjmaa.Walks
open Go.RowKit
open Go.Proofs.Ytcafnliedkhjmaa.Plain
set_option linter.unusedVariables false
attribute [local go_sem ↓] Go.wp_at_zero Go.wp_at_succ


theorem want_set {w : World} {B j n : Nat} {ns : List Int} {N : Int} (h : w.heap[B]? = some (.cells ((ns ++ List.replicate (n - j) (0 : Int)).map (Value.int .i64)).toArray 3)) (hn : ns.length = j) (hj : j < n) :
    (w.setCell ⟨B, j, none⟩ (.int .i64 N)).heap[B]? = some (.cells (((ns ++ [N]) ++ List.replicate (n - (j + 1)) (0 : Int)).map (Value.int .i64)).toArray 3) := by
  have hr : List.replicate (n - j) (0 : Int) = 0 :: List.replicate (n - (j + 1)) 0 := by rw [show n - j = (n - (j + 1)) + 1 by omega, List.replicate_succ]
  rw [hr] at h
  simp only [World.setCell, Array.getElem?_modify, h, if_true, Option.map_some]
  subst hn
  simp

set_option maxRecDepth 100000 in
set_option maxHeartbeats 4000000 in
theorem read_some (b off cap len k : Nat) (t : List Nat) (fs : List Fld) (w : World) (hl : (k :: t).length = len) (h : len ≤ 64) (hk : flds k = some fs) (hne : fs ≠ []) (hx : ∀ x ∈ k :: t, x < 256)
    (hcell : ∀ i, i < (k :: t).length → w.cell? ⟨b, off + i, none⟩ = some (.int .u8 (((k :: t).getD i 0 : Nat) : Int))) :
    Calls Try.prog 16 #[.slice (some ⟨b, off, none⟩) len cap] w (DecPost (k :: t) w) := by
  have hc0 : w.cell? ⟨b, off, none⟩ = some (.int .u8 (k : Int)) := by simpa using hcell 0 (by simp)
  have hkb : k < 256 := hx k (List.mem_cons_self ..)
  have hbl : b < w.heap.size := World.block_lt_of_cell? w _ hc0
  have h1 : decide ((64 : Int) < (len : Int)) = false := by simp; omega
  have h2 : ((len : Int) == 0) = false := by simp at hl; simp; omega
  have h3 : (1 : Int) ≤ (len : Int) := by simp at hl; omega
  have h3' : (0 : Int) < (len : Int) := by simp at hl; omega
  have hlen64 : len ≤ 64 := h
  have HD : Hid (dec (k :: t) = fill fs t { Ev.zero with kind := (k : Int) }) := dec_some k t fs (by omega) hk
  have hf3 := flds_len hk
  obtain ⟨l, hle⟩ : ∃ l, l = k :: t := ⟨_, rfl⟩
  have hdrop : l.drop 1 = t := by rw [hle]; rfl
  rw [← hle] at hl hx hcell HD ⊢
  have HL : Hid (_ ∧ _ ∧ _ ∧ _ ∧ _ ∧ _ ∧ _) := ⟨hl, h, hk, hx, hcell, hle, hdrop⟩
  clear hl h hk hx hcell hle hdrop
  go_enter Try.func16, Try.ntmps16
  go_wp2_with fail
  refine (numz_some (k : Int) fs _ HL.out.2.2.1).mono ?_
  rintro r w0 ⟨v, lo, hi, rfl, hb0, hnz⟩
  simp only [World.size_alloc] at hnz
  rcases hnz with ⟨hfs, _⟩ | ⟨rfl, rfl, rfl, g0, g1, g2, g3⟩
  · exact absurd hfs hne
  have hR0 : EvAt w0 w.heap.size Ev.zero := EvAt.below (heap_new w _) hb0 (by simp)
  have hbw : Below w.heap.size w w0 := ((Below.refl _ _).alloc (Nat.le_refl _) _).trans (hb0.mono (by simp))
  have HO : Hid (_ ∧ _ ∧ _ ∧ _ ∧ _) := ⟨g0, g1, g2, hR0, hbw⟩
  clear g0 g1 g2 hR0 hbw hb0 hne
  go_wp2
  go_loopw [9, 10] (fun x i wr => ∃ (j at' : Nat) (ns : List Int), j ≤ fs.length ∧ i = .int .i64 (j : Int) ∧ x = .int .i64 (at' : Int) ∧ 1 ≤ at' ∧ at' ≤ len ∧ ns.length = j ∧
      fill fs t { Ev.zero with kind := (k : Int) } = fill (fs.drop j) (l.drop at') (puts { Ev.zero with kind := (k : Int) } (fs.take j) ns) ∧
      wr.heap[w.heap.size + 1 + 1]? = some (.cells ((ns ++ List.replicate (fs.length - j) (0 : Int)).map (Value.int .i64)).toArray 3) ∧ w0.grownBy wr (some (w.heap.size + 1 + 1))) (fun _ i _ => fs.length - (intOf i).toNat)
  case atStart => exact ⟨0, 1, [], Nat.zero_le _, rfl, rfl, Nat.le_refl _, by omega, rfl, by rw [HL.out.2.2.2.2.2.2]; rfl, by simpa using HO.out.1, ⟨rfl, rfl, rfl, Nat.le_refl _, fun _ _ _ => rfl⟩⟩
  case round =>
    obtain ⟨j, at', ns, hj, rfl, rfl, ha1, ha2, hns, hfill, hwant, hg⟩ := hrel
    have hsz := hg.size
    have hcl : ∀ i, i < len → wr.cell? ⟨b, off + i, none⟩ = some (.int .u8 ((l.getD i 0 : Nat) : Int)) := fun i hi => by
      rw [hg.cell_far ⟨b, off + i, none⟩ (by show b < _; omega) (by simp; omega), HO.out.2.2.2.2.cell (p := ⟨b, off + i, none⟩) hbl]; exact HL.out.2.2.2.2.1 i (by rw [HL.out.1]; exact hi)
    have hRr : EvAt wr w.heap.size Ev.zero := by unfold EvAt; rw [hg.block w.heap.size HO.out.2.2.2.1.lt (by simp; omega)]; exact HO.out.2.2.2.1
    have hbr : Below w.heap.size w wr := HO.out.2.2.2.2.grown hg (by omega) (by intro k' hk'; cases hk'; omega)
    have hlr := hRr.lt
    obtain ⟨r0, r1, r2, r3, r4, r5, r6, r7⟩ := hRr.all
    have hfz := hRr.frozen
    have hfz0 := hfz 0; have hfz1 := hfz 1; have hfz2 := hfz 2; have hfz3 := hfz 3; have hfz4 := hfz 4; have hfz5 := hfz 5; have hfz6 := hfz 6; have hfz7 := hfz 7
    have HF : Hid (_ ∧ _ ∧ _ ∧ _ ∧ _ ∧ _ ∧ _) := ⟨hfill, hns, hwant, hg, hcl, hRr, hbr⟩
    clear hfill hns hwant hg hcl hRr hbr hfz
    by_cases hlt : j < fs.length
    · go_wp2
      go_loop [11] (fun x => ∃ m : Nat, x = .int .i64 ((at' + m : Nat) : Int) ∧ m ≤ 6 ∧ at' + m ≤ len ∧ ∀ i, i < m → 128 ≤ (l.drop at').getD i 0) (fun x => len - (intOf x).toNat)
      case atStart => exact ⟨0, rfl, by omega, by omega, fun i hi => by omega⟩
      case round =>
        obtain ⟨m, rfl, hm6, hml, hall⟩ := hrel
        have HM : Hid (∀ i, i < m → 128 ≤ (l.drop at').getD i 0) := hall
        clear hall
        have hdl : (l.drop at').length = len - at' := by rw [List.length_drop, HL.out.1]
        have hdr : fs.drop j = fs[j] :: fs.drop (j + 1) := List.drop_eq_getElem_cons hlt
        have hfk : fs[j]? = some fs[j] := List.getElem?_eq_getElem hlt
        have hto : fs.take (j + 1) = fs.take j ++ [fs[j]] := List.take_succ_eq_append_getElem hlt
        generalize fs[j] = f at *
        have hbad : ∀ c, rd (l.drop at') = .inl c → dec l = (Ev.zero, c) := fun c hc => by rw [HD.out, HF.out.1, hdr, fill_bad _ _ _ _ _ hc]
        have HB : Hid (_ ∧ _ ∧ _ ∧ _ ∧ _) := ⟨hbad, hdl, hdr, hfk, hto⟩
        clear hbad hdl hdr hfk hto
        by_cases hend : at' + m = len
        · have HQ : Hid (dec l = (Ev.zero, 4)) := HB.out.1 4 (rd_short _ (by rw [HB.out.2.1]; omega) (fun i hi => HM.out i (by rw [HB.out.2.1] at hi; omega)))
          have i1 : decide ((at' : Int) + (m : Int) < (len : Int)) = false := by simp; omega
          have i4 : ((at' : Int) + (m : Int) == (len : Int)) = true := by simp; omega
          have hlc : len = at' + m := hend.symm
          subst hlc
          by_cases h6 : m = 6
          · subst h6
            go_wp2
            refine bodyPost_ret (v := .tuple #[.agg (arr Ev.zero), .int .i64 4]) (by simp [results, Try.results16, go_sem, arr_zero, r0, r1, r2, r3, r4, r5, r6, r7]) rfl ⟨by rw [HQ.out], ?_⟩
            exact ((((((((HF.out.2.2.2.2.2.2.setCell (Nat.le_refl _) _).setCell (Nat.le_refl _) _).setCell (Nat.le_refl _) _).setCell (Nat.le_refl _) _).setCell (Nat.le_refl _) _).setCell (Nat.le_refl _) _).setCell (Nat.le_refl _) _).setCell (Nat.le_refl _) _)
          · have i5 : ((at' : Int) + (m : Int) - (at' : Int) == 6) = false := by simp; omega
            go_wp2
            refine bodyPost_ret (v := .tuple #[.agg (arr Ev.zero), .int .i64 4]) (by simp [results, Try.results16, go_sem, arr_zero, r0, r1, r2, r3, r4, r5, r6, r7]) rfl ⟨by rw [HQ.out], ?_⟩
            exact ((((((((HF.out.2.2.2.2.2.2.setCell (Nat.le_refl _) _).setCell (Nat.le_refl _) _).setCell (Nat.le_refl _) _).setCell (Nat.le_refl _) _).setCell (Nat.le_refl _) _).setCell (Nat.le_refl _) _).setCell (Nat.le_refl _) _).setCell (Nat.le_refl _) _)
        · have hcm := HF.out.2.2.2.2.1 (at' + m) (by omega)
          have hxb : l.getD (at' + m) 0 < 256 := by
            have hh : at' + m < l.length := by rw [HL.out.1]; omega
            rw [getD_at l _ hh]; exact HL.out.2.2.2.1 _ (List.getElem_mem hh)
          obtain ⟨x, hxe⟩ : ∃ x, x = l.getD (at' + m) 0 := ⟨_, rfl⟩
          rw [← hxe] at hcm hxb
          have HX : Hid (x = (l.drop at').getD m 0) := by rw [drop_getD]; exact hxe
          clear hxe
          have i1 : (at' : Int) + (m : Int) < (len : Int) := by omega
          have i0 : (0 : Int) ≤ (at' : Int) + (m : Int) := by omega
          have i4 : ((at' : Int) + (m : Int) == (len : Int)) = false := by simp; omega
          by_cases hm : m = 6
          · subst hm
            have HQ : Hid (dec l = (Ev.zero, 2)) := HB.out.1 2 (rd_long _ (by rw [HB.out.2.1]; omega) HM.out)
            go_wp2
            refine bodyPost_ret (v := .tuple #[.agg (arr Ev.zero), .int .i64 2]) (by simp [results, Try.results16, go_sem, arr_zero, r0, r1, r2, r3, r4, r5, r6, r7]) rfl ⟨by rw [HQ.out], ?_⟩
            exact ((((((((HF.out.2.2.2.2.2.2.setCell (Nat.le_refl _) _).setCell (Nat.le_refl _) _).setCell (Nat.le_refl _) _).setCell (Nat.le_refl _) _).setCell (Nat.le_refl _) _).setCell (Nat.le_refl _) _).setCell (Nat.le_refl _) _).setCell (Nat.le_refl _) _)
          · have i2 : (at' : Int) + (m : Int) - (at' : Int) < 6 := by omega
            have i5 : ((at' : Int) + (m : Int) - (at' : Int) == 6) = false := by simp; omega
            by_cases hx1 : 128 ≤ x
            · have i3 : (128 : Int) ≤ (x : Int) := by omega
              go_wp2
              refine ⟨⟨m + 1, by go_num, by omega, by omega, fun i hi => ?_⟩, by simp [intOf]; omega⟩
              by_cases him : i < m
              · exact HM.out i him
              · have : i = m := by omega
                subst this
                rw [← HX.out]; exact hx1
            · have i3 : decide ((128 : Int) ≤ (x : Int)) = false := by simp; omega
              by_cases hx0 : x = 0 ∧ 0 < m
              · obtain ⟨rfl, hmp⟩ := hx0
                have HQ : Hid (dec l = (Ev.zero, 3)) := HB.out.1 3 (rd_form _ m hm6 (by rw [HB.out.2.1]; omega) HM.out HX.out.symm hmp (by omega))
                have i6 : (at' : Int) < (at' : Int) + (m : Int) := by omega
                go_wp2
                refine bodyPost_ret (v := .tuple #[.agg (arr Ev.zero), .int .i64 3]) (by simp [results, Try.results16, go_sem, arr_zero, r0, r1, r2, r3, r4, r5, r6, r7]) rfl ⟨by rw [HQ.out], ?_⟩
                exact ((((((((HF.out.2.2.2.2.2.2.setCell (Nat.le_refl _) _).setCell (Nat.le_refl _) _).setCell (Nat.le_refl _) _).setCell (Nat.le_refl _) _).setCell (Nat.le_refl _) _).setCell (Nat.le_refl _) _).setCell (Nat.le_refl _) _).setCell (Nat.le_refl _) _)
              · have hgood := rd_good (l.drop at') m (by rw [HB.out.2.1]; omega) HM.out (by rw [← HX.out]; omega) (by rw [← HX.out]; exact hx0) (by omega)
                have HG : Hid _ := hgood
                clear hgood
                have hguard : ((x : Int) == 0) = false ∨ (((x : Int) == 0) = true ∧ decide ((at' : Int) < (at' : Int) + (m : Int)) = false) := by
                  by_cases h0 : x = 0
                  · exact .inr ⟨by simp; omega, by simp; omega⟩
                  · exact .inl (by simp; omega)
                clear hx0
                rcases hguard with i7 | ⟨i7, i8⟩
                all_goals
                  go_wp2
                  go_loop [12, 13] (fun y z => ∃ q : Nat, q ≤ m + 1 ∧ z = .int .i64 ((at' : Int) + (q : Int) - 1) ∧ y = .int .i64 ((val (((l.drop at').take (m + 1)).drop q) : Nat) : Int)) (fun _ z => (intOf z - (at' : Int) + 1).toNat)
                  case atStart => exact ⟨m + 1, Nat.le_refl _, by go_num, by rw [List.drop_of_length_le (by rw [List.length_take]; omega)]; rfl⟩
                  case round =>
                    obtain ⟨q, hq, rfl, rfl⟩ := hrel
                    have hXl : ((l.drop at').take (m + 1)).length = m + 1 := by rw [List.length_take, HB.out.2.1]; omega
                    by_cases hq0 : q = 0
                    · subst hq0
                      have hN : val (((l.drop at').take (m + 1)).drop 0) = val ((l.drop at').take (m + 1)) := rfl
                      rw [hN]
                      have hNl := val_take_lt (l.drop at') (m + 1) (by rw [HB.out.2.1]; omega)
                      have hNp : 128 ^ (m + 1) ≤ 128 ^ 6 := Nat.pow_le_pow_right (by omega) (by omega)
                      have HG' := HG.out
                      generalize val ((l.drop at').take (m + 1)) = N at *
                      rw [show ((at' : Int) + ((0 : Nat) : Int) - 1) = (at' : Int) - 1 from by omega]
                      have q1 : decide ((at' : Int) ≤ (at' : Int) - 1) = false := by simp; omega
                      have HN : Hid (_ ∧ _) := ⟨HG', (show N < 128 ^ 6 by omega)⟩
                      clear HG' hNl hNp hN hXl
                      have cw : wr.cell? ⟨w.heap.size + 1 + 1, j, none⟩ = some (.int .i64 0) := by
                        have h := HF.out.2.2.1
                        have hns := HF.out.2.1
                        simp only [World.cell?, h]
                        simp [List.getElem?_append_right, List.getElem?_replicate, hns]; omega
                      have cwf : wr.frozen? ⟨w.heap.size + 1 + 1, j, none⟩ = false := by
                        have h := HF.out.2.2.1
                        simp [World.frozen?, h]
                      have clo : wr.cell? ⟨w.heap.size + 1 + 1 + 1, j, none⟩ = some (.int .i64 f.lo) := by
                        have h := HO.out.2.1
                        rw [← HF.out.2.2.2.1.block (w.heap.size + 1 + 1 + 1) (by omega) (fun hh => by injection hh with hh; omega)] at h
                        simp only [World.cell?, h]
                        simp [HB.out.2.2.2.1]
                      have chi : wr.cell? ⟨w.heap.size + 1 + 1 + 1 + 1, j, none⟩ = some (.int .i64 f.hi) := by
                        have h := HO.out.2.2.1
                        rw [← HF.out.2.2.2.1.block (w.heap.size + 1 + 1 + 1 + 1) (by omega) (fun hh => by injection hh with hh; omega)] at h
                        simp only [World.cell?, h]
                        simp [HB.out.2.2.2.1]
                      have j1 : (j : Int) < (fs.length : Int) := by omega
                      have j0 : (0 : Int) ≤ (j : Int) := by omega
                      by_cases hin : f.lo ≤ (N : Int) ∧ (N : Int) ≤ f.hi
                      · go_wp2_with fail
                        go_quiet ((go_at_call 24; exact Calls.quiet_of_same (in_yes _ _ _ _ hin.1 hin.2)))
                        have HI : Hid _ := hin
                        clear hin r0 r1 r2 r3 r4 r5 r6 r7 hfz0 hfz1 hfz2 hfz3 hfz4 hfz5 hfz6 hfz7 hcm i0 i2 i3 i4 i5 q1 clo chi hc0
                        obtain ⟨wq, hwq⟩ : ∃ wq, wq = wr.drewN nq := ⟨_, rfl⟩
                        have cwq : wq.cell? ⟨w.heap.size + 1 + 1, j, none⟩ = some (.int .i64 0) := by rw [hwq]; exact cw
                        have cwqf : wq.frozen? ⟨w.heap.size + 1 + 1, j, none⟩ = false := by rw [hwq]; exact cwf
                        have HW : Hid (wq = wr.drewN nq) := hwq
                        rw [← hwq]
                        have HZ : Hid (_ ∧ _ ∧ _) := ⟨hend, hm, g3⟩
                        clear hwq cw cwf hend hm g3 hx1 hkb hbl h1 h2 h3 h3' hlr hsz HX hxb
                        try clear i8
                        clear i7
                        go_wp2
                        have hwq := HW.out
                        refine ⟨⟨j + 1, at' + m + 1, ns ++ [(N : Int)], by omega, by go_num, by go_num, by omega, by omega, by rw [List.length_append, HF.out.2.1]; rfl, ?_, ?_, ?_⟩, by simp [intOf]; omega⟩
                        · rw [HF.out.1, HB.out.2.2.1, fill_in _ _ _ _ _ _ HN.out.1 HI.out, List.drop_drop, HB.out.2.2.2.2, puts_snoc _ _ _ _ _ (by rw [List.length_take, HF.out.2.1]; omega), Nat.add_assoc]
                        · rw [hwq]; exact want_set HF.out.2.2.1 HF.out.2.1 hlt
                        · rw [hwq]
                          have hgw := HF.out.2.2.2.1
                          exact ⟨hgw.os, hgw.tape, hgw.output, by rw [World.size_setCell]; exact hgw.size, fun i hi hne => by rw [Below.heap_setCell _ _ _ _ (fun hh => hne (by rw [hh]))]; exact hgw.block i hi hne⟩
                      · have HQ : Hid (dec l = (Ev.zero, 2)) := by show dec l = _; rw [HD.out, HF.out.1, HB.out.2.2.1, fill_out _ _ _ _ _ _ HN.out.1 hin]
                        go_wp2_with fail
                        go_quiet ((go_at_call 24; exact Calls.quiet_of_same (in_no _ _ _ _ hin)))
                        go_wp2
                        refine bodyPost_ret (v := .tuple #[.agg (arr Ev.zero), .int .i64 2]) (by simp [results, Try.results16, go_sem, arr_zero, r0, r1, r2, r3, r4, r5, r6, r7]) rfl ⟨by rw [HQ.out], ?_⟩
                        exact ((((((((((below_drawn HF.out.2.2.2.2.2.2 _).setCell (Nat.le_refl _) _).setCell (Nat.le_refl _) _).setCell (Nat.le_refl _) _).setCell (Nat.le_refl _) _).setCell (Nat.le_refl _) _).setCell (Nat.le_refl _) _).setCell (Nat.le_refl _) _).setCell (Nat.le_refl _) _))
                    · obtain ⟨p, rfl⟩ : ∃ p, q = p + 1 := ⟨q - 1, by omega⟩
                      have hvd := val_drop ((l.drop at').take (m + 1)) p (by omega)
                      rw [take_getD _ _ _ (by omega), drop_getD] at hvd
                      have hcp := HF.out.2.2.2.2.1 (at' + p) (by omega)
                      have hyb : l.getD (at' + p) 0 < 256 := by
                        have hh : at' + p < l.length := by rw [HL.out.1]; omega
                        rw [getD_at l _ hh]; exact HL.out.2.2.2.1 _ (List.getElem_mem hh)
                      have hVl := val_lt (((l.drop at').take (m + 1)).drop (p + 1))
                      rw [List.length_drop, hXl] at hVl
                      have hVp : 128 ^ (m + 1 - (p + 1)) ≤ 128 ^ 5 := Nat.pow_le_pow_right (by omega) (by omega)
                      generalize val (((l.drop at').take (m + 1)).drop (p + 1)) = V at *
                      have HV : Hid (val (((l.drop at').take (m + 1)).drop p) = l.getD (at' + p) 0 % 128 + 128 * V) := hvd
                      clear hvd
                      obtain ⟨y, hy⟩ : ∃ y, y = l.getD (at' + p) 0 := ⟨_, rfl⟩
                      rw [← hy] at hcp hyb
                      have HY : Hid (y = l.getD (at' + p) 0) := hy
                      have hV : V ≤ 34359738368 := by have : 128 ^ 5 = 34359738368 := rfl; omega
                      clear hy hVl hVp hXl
                      rw [show ((at' : Int) + ((p + 1 : Nat) : Int) - 1) = (at' : Int) + (p : Int) from by omega]
                      have p1 : (at' : Int) ≤ (at' : Int) + (p : Int) := by omega
                      have p0 : (0 : Int) ≤ (at' : Int) + (p : Int) := by omega
                      have p2 : (at' : Int) + (p : Int) < (len : Int) := by omega
                      go_wp2
                      refine ⟨⟨p, by omega, rfl, by rw [HV.out, ← HY.out]; go_num⟩, by simp [intOf]; omega⟩
    · have hjn : j = fs.length := by omega
      subst hjn
      have hfd := HF.out.1
      rw [List.drop_length, List.take_length] at hfd
      by_cases hend : at' = len
      · have hd0 : l.drop at' = [] := List.drop_of_length_le (by rw [HL.out.1]; omega)
        rw [hd0, fill_nil_nil] at hfd
        have hown : wr.ownsRow 0 3 1 (.slice (some ⟨w.heap.size + 1 + 1, 0, none⟩) ns.length ns.length) ns.length (ns.map (.int .i64)) := by
          have hw := HF.out.2.2.1
          rw [Nat.sub_self, List.replicate_zero, List.append_nil] at hw
          have := ownsRow_at (w := wr) (base := 0) (n := ns.length) (size := 1) _ hw (Nat.zero_le _) (by rw [HF.out.2.1]; unfold maxLen; omega) (by simp)
          simpa using this
        have hev := ev_any (k : Int) fs ns 0 _ wr HL.out.2.2.1 HF.out.2.1 hown
        rw [HF.out.2.1] at hev
        generalize puts { Ev.zero with kind := (k : Int) } fs ns = p at *
        simp only [arr] at hev
        have HV : Hid (_ ∧ _) := ⟨hfd, hev⟩
        clear hfd hev hown hd0
        have i1 : decide ((at' : Int) < (len : Int)) = false := by simp; omega
        go_wp2_with fail
        refine Calls.mono HV.out.2 ?_
        rintro r w1 ⟨rfl, hb1⟩
        have hR1 : EvAt w1 w.heap.size Ev.zero := EvAt.below HF.out.2.2.2.2.2.1 hb1 hlr
        have hlr1 := hR1.lt
        obtain ⟨t0, t1, t2, t3, t4, t5, t6, t7⟩ := hR1.all
        have hfz := hR1.frozen
        have hfy0 := hfz 0; have hfy1 := hfz 1; have hfy2 := hfz 2; have hfy3 := hfz 3; have hfy4 := hfz 4; have hfy5 := hfz 5; have hfy6 := hfz 6; have hfy7 := hfz 7
        have HB1 : Hid (Below w.heap.size w w1) := HF.out.2.2.2.2.2.2.trans (hb1.mono HF.out.2.2.2.2.2.2.size)
        clear hfz hR1 hb1 r0 r1 r2 r3 r4 r5 r6 r7 hfz0 hfz1 hfz2 hfz3 hfz4 hfz5 hfz6 hfz7
        go_wp2
        refine bodyPost_ret (v := .tuple #[.agg (arr p), .int .i64 0]) (by simp [results, Try.results16, go_sem, arr, t0, t1, t2, t3, t4, t5, t6, t7]) rfl ⟨by rw [HD.out, HV.out.1], ?_⟩
        exact ((((((((HB1.out.setCell (Nat.le_refl _) _).setCell (Nat.le_refl _) _).setCell (Nat.le_refl _) _).setCell (Nat.le_refl _) _).setCell (Nat.le_refl _) _).setCell (Nat.le_refl _) _).setCell (Nat.le_refl _) _).setCell (Nat.le_refl _) _)
      · have hd0 : l.drop at' = l[at']'(by rw [HL.out.1]; omega) :: l.drop (at' + 1) := List.drop_eq_getElem_cons (by rw [HL.out.1]; omega)
        rw [hd0, fill_nil_cons] at hfd
        have HQ : Hid (dec l = (Ev.zero, 3)) := by show dec l = _; rw [HD.out, hfd]
        clear hfd hd0
        have i1 : (at' : Int) < (len : Int) := by omega
        go_wp2
        refine bodyPost_ret (v := .tuple #[.agg (arr Ev.zero), .int .i64 3]) (by simp [results, Try.results16, go_sem, arr_zero, r0, r1, r2, r3, r4, r5, r6, r7]) rfl ⟨by rw [HQ.out], ?_⟩
        exact ((((((((HF.out.2.2.2.2.2.2.setCell (Nat.le_refl _) _).setCell (Nat.le_refl _) _).setCell (Nat.le_refl _) _).setCell (Nat.le_refl _) _).setCell (Nat.le_refl _) _).setCell (Nat.le_refl _) _).setCell (Nat.le_refl _) _).setCell (Nat.le_refl _) _)
end Go.Proofs.Ytcafnliedkhjmaa.Walks
