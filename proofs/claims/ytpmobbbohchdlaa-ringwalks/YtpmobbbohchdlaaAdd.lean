/-
  What Add answers. Condition: the ring's spots can be read.
-/
import Derived.Test.YtpmobbbohchdlaaSame
import Derived.WalkKit
import Derived.ProofKit
import Derived.Handy
import Derived.LoopTactic
import Derived.Below
import Derived.Laws.BitsAllLaws
import Derived.RegionTactic
import Derived.Deep.RegionHeld3
import Derived.Deep.DrawnRows
import Derived.Deep.AppendLies
import Derived.Laws.OwnMore
import Derived.Deep.Onto
import Derived.Deep.QuietTactic
import Derived.BigQuiet
namespace Go.Proofs.Ytpmobbbohchdlaa.Walks
open Go.RowKit
set_option linter.unusedVariables false
set_option linter.unusedSimpArgs false
attribute [local go_sem ↓] Go.wp_at_zero Go.wp_at_succ

theorem one_set {w : World} {g : Nat} {a b : Value} {T : TypeId} (h : w.heap[g]? = some (.cells #[a] T (0, 0))) : (w.setCell ⟨g, 0, none⟩ b).heap[g]? = some (.cells #[b] T (0, 0)) := by
  rw [Sort.setCell_eq]
  unfold Sort.mapBlock
  simp [Array.getElem?_modify, h, Sort.onCells]

theorem Wts.set {a : List Int} (h : Wts a) (j : Nat) (k : Int) (h0 : 0 ≤ k) (h8 : k ≤ 8) : Wts (a.set j k) := by
  have e : ∀ b, (a.set j k).getD b 0 = a.getD b 0 ∨ (a.set j k).getD b 0 = k := fun b => by
    rw [List.getD_eq_getElem?_getD, List.getD_eq_getElem?_getD]
    by_cases hb : j = b
    · subst hb
      by_cases hl : j < a.length
      · right; rw [List.getElem?_set_self hl]; rfl
      · left; rw [List.getElem?_eq_none (by rw [List.length_set]; omega), List.getElem?_eq_none (by omega)]
    · left; rw [List.getElem?_set_ne hb]
  refine ⟨by rw [List.length_set]; exact h.len, fun b => ?_, fun b => ?_⟩
  · rcases e b with e | e <;> rw [e]
    · exact h.low b
    · exact h0
  · rcases e b with e | e <;> rw [e]
    · exact h.high b
    · exact h8

theorem RingOk.wts {l : List Tm} (h : RingOk l) : Wts (wOf l) := wts_of_counts fun b hb => ringOk_cnt h b hb

/-- What Add leaves. -/
def AddRes (l : List Tm) (n k : Int) (w : World) (r : Ending) (w' : World) : Prop := ∃ (y : Value) (e : Int), r = .returned (.tuple #[.agg #[y], .int .i64 e]) ∧ Below w.heap.size w w' ∧
  ((¬ RingOk l ∧ e = 6 ∧ y = .slice none 0 0) ∨ (RingOk l ∧ ¬ ((0 ≤ n ∧ n < 12) ∧ (1 ≤ k ∧ k ≤ 8)) ∧ e = 2 ∧ y = .slice none 0 0) ∨ (RingOk l ∧ ((0 ≤ n ∧ n < 12) ∧ (1 ≤ k ∧ k ≤ 8)) ∧ 0 < (wOf l).getD n.toNat 0 ∧ e = 7 ∧ y = .slice none 0 0) ∨
    (RingOk l ∧ ((0 ≤ n ∧ n < 12) ∧ (1 ≤ k ∧ k ≤ 8)) ∧ ¬ 0 < (wOf l).getD n.toNat 0 ∧ e = 0 ∧ w'.ownsRow w.heap.size 55 2 y (spotsOf ((wOf l).set n.toNat k)).length (tcells (spotsOf ((wOf l).set n.toNat k)))))

set_option maxHeartbeats 8000000 in
set_option maxRecDepth 100000 in
theorem add_any (v : Value) (l : List Tm) (n k : Int) (w : World) (hv : TmAt w v l) :
    Calls Try.prog 12 #[.agg #[v], .int .i64 n, .int .i64 k] w (AddRes l n k w) := by
  obtain ⟨p, c, rfl, _⟩ := hv.parts
  have HV : Hid _ := hv
  clear hv
  go_enter Try.func12, Try.ntmps12
  go_wp2_with fail
  obtain ⟨W0, hW0⟩ : ∃ W0, W0 = (w.alloc (.cells #[.slice p l.length c] 24)).alloc (.cells #[.slice none 0 0] 24) := ⟨_, rfl⟩
  rw [← hW0]
  have hb0 : Below w.heap.size w W0 := by rw [hW0]; exact ((Below.refl _ _).alloc (Nat.le_refl _) _).alloc (by simp) _
  have hR1 : W0.heap[w.heap.size + 1]? = some (.cells #[.slice none 0 0] 24 (0, 0)) := by rw [hW0]; exact heap_second _ _ _
  have hs0 : W0.heap.size = w.heap.size + 2 := by rw [hW0]; simp
  refine (weightsOf_any _ l _ (HV.out.below hb0)).mono ?_
  rintro r w1 ⟨a, b, rfl, hlen, hiff, ha, hb1⟩
  obtain ⟨f1, f2, f3⟩ := fresh_arr w1 a hlen
  have hbb := hb0.trans (hb1.mono hb0.size)
  obtain ⟨W5, hW5⟩ : ∃ W5, W5 = (w1.alloc (.cells #[.int .i64 0, .int .i64 0, .int .i64 0, .int .i64 0, .int .i64 0, .int .i64 0, .int .i64 0, .int .i64 0, .int .i64 0, .int .i64 0, .int .i64 0, .int .i64 0] 46)).setCells w1.heap.size 0 (icells a) := ⟨_, rfl⟩
  rw [← hW5] at f2 f3
  have hb5 := hbb.trans (f3.mono hbb.size)
  have hR5 := box_below (box_below hR1 hb1) f3
  have hc5 := one_cell hR5
  have hf5 : W5.frozen? ⟨w.heap.size + 1, 0, none⟩ = false := by simp [World.frozen?, hR5]
  have hsz : (icells a).toArray.size = 12 := by simp [icells_len, hlen]
  have hs1 := hb1.size
  have k1 : (w1.alloc (.cells #[.int .i64 0, .int .i64 0, .int .i64 0, .int .i64 0, .int .i64 0, .int .i64 0, .int .i64 0, .int .i64 0, .int .i64 0, .int .i64 0, .int .i64 0, .int .i64 0] 46)).there w1.heap.size 0 (icells a).toArray.size := by rw [hsz]; exact f1
  have k2 : (Try.prog.info? 46).map (·.size) = some (icells a).toArray.size := by rw [infoW, hsz]
  have HQ : Hid (_ ∧ _ ∧ _ ∧ _) := ⟨k1, k2, all_oneCell_toArray (icells_one a), hW5⟩
  have HZ : Hid (_ ∧ _ ∧ _) := ⟨f2, hb5, hR5⟩
  have hRok : RingOk l ∨ ¬ RingOk l := Classical.em _
  have HI : Hid (_ ∧ _) := ⟨hiff, ha⟩
  clear k1 k2 f1 f2 f3 hb0 hb1 hbb hW5 hiff ha hb5 hsz hR1 hR5 hW0 hRok
  cases b
  · have hno : ¬ RingOk l := fun h => Bool.noConfusion (HI.out.1.2 h)
    have HN : Hid _ := hno
    clear hno HI
    go_wp2_with ((with_reducible refine wpList_store_mid rfl 46 (.tmp 8) (.tmp 13) rfl w1.heap.size 0 (icells a).toArray ?hx ?hy ?ht ?hi ?h1 ?_); (case hx => rfl); (case hy => rfl); (case ht => exact HQ.out.1); (case hi => exact HQ.out.2.1); (case h1 => exact HQ.out.2.2.1); rw [List.toList_toArray, ← HQ.out.2.2.2])
    refine bodyPost_ret (v := .tuple #[.agg #[.slice none 0 0], .int .i64 6]) (results_ct Try.results12 rfl rfl (load_row (P := Try.prog) (cs := [.slice none 0 0]) (one_set HZ.out.2.2) Try.underlying24 rfl (by kernel_rfl))) rfl ⟨_, _, rfl, HZ.out.2.1.setCell (by simp) _, .inl ⟨HN.out, rfl, rfl⟩⟩
  · have HN : Hid (RingOk l ∧ a = wOf l) := ⟨HI.out.1.1 rfl, HI.out.2 rfl⟩
    clear HI
    go_wp2_with ((with_reducible refine wpList_store_mid rfl 46 (.tmp 8) (.tmp 13) rfl w1.heap.size 0 (icells a).toArray ?hx ?hy ?ht ?hi ?h1 ?_); (case hx => rfl); (case hy => rfl); (case ht => exact HQ.out.1); (case hi => exact HQ.out.2.1); (case h1 => exact HQ.out.2.2.1); rw [List.toList_toArray, ← HQ.out.2.2.2])
    refine (isBackend_any n _).mono ?_
    by_cases hn : 0 ≤ n ∧ n < 12
    · have hnd : decide (0 ≤ n ∧ n < 12) = true := decide_eq_true hn
      rw [hnd]
      rintro r w6 ⟨rfl, rfl⟩
      clear hnd
      go_wp2_with fail
      refine (isWeight_any k _).mono ?_
      by_cases hk : 1 ≤ k ∧ k ≤ 8
      · have hkd : decide (1 ≤ k ∧ k ≤ 8) = true := decide_eq_true hk
        rw [hkd]
        rintro r w7 ⟨rfl, rfl⟩
        have HK : Hid ((0 ≤ n ∧ n < 12) ∧ (1 ≤ k ∧ k ≤ 8)) := ⟨hn, hk⟩
        have hg0 : (Try.prog.info? 46).map (·.size) = some (icells a).length := by rw [infoW, icells_len, hlen]
        have HG : Hid _ := hg0
        clear hg0
        clear hkd hk
        go_wp2_with ((with_reducible refine wpList_load_mid rfl 46 (.tmp 8) rfl w1.heap.size 0 ?gx (icells a) _ ?gc Try.underlying46 ?gd ?gi ?_); (case gx => rfl); (case gc => exact HZ.out.1.range); (case gd => rfl); (case gi => exact HG.out))
        refine (has_any a n _ hlen).mono ?_
        by_cases hp : 0 < a.getD n.toNat 0
        · have hpd : decide (0 ≤ n ∧ n < 12 ∧ 0 < a.getD n.toNat 0) = true := decide_eq_true ⟨hn.1, hn.2, hp⟩
          rw [hpd]
          rintro r w8 ⟨rfl, hb8⟩
          have hR8 := box_below HZ.out.2.2 hb8
          have hc8 := one_cell hR8
          have hf8 : w8.frozen? ⟨w.heap.size + 1, 0, none⟩ = false := by simp [World.frozen?, hR8]
          have HB : Hid (_ ∧ _ ∧ _) := ⟨HZ.out.1.below hb8, HZ.out.2.1.trans (hb8.mono HZ.out.2.1.size), hR8⟩
          have HP : Hid _ := hp
          clear hpd hp hb8 hR8
          go_wp2
          refine bodyPost_ret (v := .tuple #[.agg #[.slice none 0 0], .int .i64 7]) (results_ct Try.results12 rfl rfl (load_row (P := Try.prog) (cs := [.slice none 0 0]) (one_set HB.out.2.2) Try.underlying24 rfl (by kernel_rfl))) rfl ⟨_, _, rfl, HB.out.2.1.setCell (by simp) _, .inr (.inr (.inl ⟨HN.out.1, HK.out, by rw [← HN.out.2]; exact HP.out, rfl, rfl⟩))⟩
        · have hpd : decide (0 ≤ n ∧ n < 12 ∧ 0 < a.getD n.toNat 0) = false := decide_eq_false fun h => hp h.2.2
          rw [hpd]
          rintro r w8 ⟨rfl, hb8⟩
          obtain ⟨j, rfl⟩ := Int.eq_ofNat_of_zero_le hn.1
          have hj : j < 12 := by omega
          have hjI : (j : Int) < 12 := by omega
          have hA8 := HZ.out.1.below hb8
          have hcj := hA8.cell j (by omega)
          have hfj := hA8.frozen j
          have hb8' := HZ.out.2.1.trans (hb8.mono HZ.out.2.1.size)
          have hR8 := box_below HZ.out.2.2 hb8
          have hs8 := hb8.size
          obtain ⟨W9, hW9⟩ : ∃ W9, W9 = w8.setCell ⟨w1.heap.size, j, none⟩ (.int .i64 k) := ⟨_, rfl⟩
          have hA9 : Arr 46 12 W9 w1.heap.size (a.set j k) := by rw [hW9]; exact hA8.set j k
          have hb9 : Below w.heap.size w W9 := by rw [hW9]; exact hb8'.setCell (by simp; omega) _
          have hR9 : W9.heap[w.heap.size + 1]? = some (.cells #[.slice none 0 0] 24 (0, 0)) := by rw [hW9, Below.heap_setCell _ _ _ _ (by simp; omega)]; exact hR8
          have hi9 : (Try.prog.info? 46).map (·.size) = some (icells (a.set j k)).length := by rw [infoW, icells_len, List.length_set, hlen]
          have hw9 : Wts (a.set j k) := by rw [HN.out.2]; exact HN.out.1.wts.set j k (by have := HK.out.2; omega) (by have := HK.out.2; omega)
          have hpj : ¬ 0 < a.getD j 0 := by simpa using hp
          have H9 : Hid (_ ∧ _ ∧ _ ∧ _ ∧ _ ∧ _ ∧ _) := ⟨hA9, hb9, hR9, hi9, hw9, hW9, hpj⟩
          clear hA9 hb9 hR9 hi9 hw9 hW9 hpj hp hpd hA8 hb8' hR8 hb8
          go_wp2_with ((with_reducible refine wpList_load_mid rfl 46 (.tmp 8) rfl w1.heap.size 0 ?jx (icells (a.set j k)) _ ?jc Try.underlying46 ?jd ?ji ?_); (case jx => rfl); (case jc => rw [← H9.out.2.2.2.2.2.1]; exact H9.out.1.range); (case jd => rfl); (case ji => exact H9.out.2.2.2.1); rw [← H9.out.2.2.2.2.2.1])
          refine (spots_any (a.set j k) _ H9.out.2.2.2.2.1).mono ?_
          rintro r w10 ⟨y, rfl, ho10, hb10⟩
          obtain ⟨yp, yc, rfl⟩ := own_form ho10
          have hR10 := box_below H9.out.2.2.1 hb10
          have hc10 := one_cell hR10
          have hf10 : w10.frozen? ⟨w.heap.size + 1, 0, none⟩ = false := by simp [World.frozen?, hR10]
          have hb11 := (H9.out.2.1.trans (hb10.mono H9.out.2.1.size)).setCell (p := ⟨w.heap.size + 1, 0, none⟩) (by simp) (.slice yp (spotsOf (a.set j k)).length yc)
          have hs9 := H9.out.1.lt
          have ho11 : (w10.setCell ⟨w.heap.size + 1, 0, none⟩ (.slice yp (spotsOf (a.set j k)).length yc)).ownsRow w.heap.size 55 2 (.slice yp (spotsOf (a.set j k)).length yc) (spotsOf (a.set j k)).length (tcells (spotsOf (a.set j k))) :=
            (own_block ho10 (fun g hg => Below.heap_setCell _ _ _ _ (by have := (ho10.lt g hg).1; simp; omega))).mono (by omega)
          have HF : Hid (_ ∧ _ ∧ _) := ⟨hR10, hb11, ho11⟩
          clear hR10 hb11 ho11 ho10 hb10
          go_wp2
          refine bodyPost_ret (v := .tuple #[.agg #[.slice yp (spotsOf (a.set j k)).length yc], .int .i64 0]) (results_ct Try.results12 rfl rfl (load_row (P := Try.prog) (cs := [.slice yp (spotsOf (a.set j k)).length yc]) (one_set HF.out.1) Try.underlying24 rfl (by kernel_rfl))) rfl ⟨_, _, rfl, HF.out.2.1, .inr (.inr (.inr ⟨HN.out.1, HK.out, by rw [← HN.out.2]; simpa using H9.out.2.2.2.2.2.2, rfl, by rw [← HN.out.2]; simpa using HF.out.2.2⟩))⟩
      · have hkd : decide (1 ≤ k ∧ k ≤ 8) = false := decide_eq_false hk
        rw [hkd]
        rintro r w7 ⟨rfl, rfl⟩
        have HNK : Hid _ := hk
        clear hkd hk
        go_wp2
        refine bodyPost_ret (v := .tuple #[.agg #[.slice none 0 0], .int .i64 2]) (results_ct Try.results12 rfl rfl (load_row (P := Try.prog) (cs := [.slice none 0 0]) (one_set HZ.out.2.2) Try.underlying24 rfl (by kernel_rfl))) rfl ⟨_, _, rfl, HZ.out.2.1.setCell (by simp) _, .inr (.inl ⟨HN.out.1, fun h => HNK.out h.2, rfl, rfl⟩)⟩
    · have hnd : decide (0 ≤ n ∧ n < 12) = false := decide_eq_false hn
      rw [hnd]
      rintro r w6 ⟨rfl, rfl⟩
      have HNK : Hid _ := hn
      clear hnd hn
      go_wp2
      refine bodyPost_ret (v := .tuple #[.agg #[.slice none 0 0], .int .i64 2]) (results_ct Try.results12 rfl rfl (load_row (P := Try.prog) (cs := [.slice none 0 0]) (one_set HZ.out.2.2) Try.underlying24 rfl (by kernel_rfl))) rfl ⟨_, _, rfl, HZ.out.2.1.setCell (by simp) _, .inr (.inl ⟨HN.out.1, fun h => HNK.out h.1, rfl, rfl⟩)⟩
end Go.Proofs.Ytpmobbbohchdlaa.Walks
