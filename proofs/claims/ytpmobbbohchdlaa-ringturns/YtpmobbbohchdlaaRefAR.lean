/-
  The document's answers to a backend that comes or goes. Condition: the ring's spots can be read.
-/
import Derived.Test.YtpmobbbohchdlaaRefW
import Derived.WalkKit
import Derived.ProofKit
import Derived.Handy
import Derived.LoopTactic
import Derived.Below
import Derived.Laws.BitsAllLaws
import Derived.RegionTactic
import Derived.Deep.RegionHeld3
import Derived.Deep.DrawnRows
import Derived.Deep.AppendLies
import Derived.Laws.OwnMore
import Derived.Deep.Onto
import Derived.Deep.QuietTactic
import Derived.BigQuiet
namespace Go.Proofs.Ytpmobbbohchdlaa.Walks
open Go.RowKit
set_option linter.unusedVariables false
set_option linter.unusedSimpArgs false
attribute [local go_sem ↓] Go.wp_at_zero Go.wp_at_succ

theorem wOf_nn (l : List Tm) (b : Nat) : 0 ≤ (wOf l).getD b 0 := by
  by_cases hb : b < 12
  · rw [wOf_at l b hb]; omega
  · rw [wOf_past l b hb]; omega

/-- What Remove leaves. -/
def RemRes (l : List Tm) (n : Int) (w : World) (r : Ending) (w' : World) : Prop := ∃ (y : Value) (e : Int), r = .returned (.tuple #[.agg #[y], .int .i64 e]) ∧ Below w.heap.size w w' ∧
  ((¬ RingOk l ∧ e = 6 ∧ y = .slice none 0 0) ∨ (RingOk l ∧ ¬ ((0 ≤ n ∧ n < 12) ∧ 0 < (wOf l).getD n.toNat 0) ∧ e = 8 ∧ y = .slice none 0 0) ∨
    (RingOk l ∧ ((0 ≤ n ∧ n < 12) ∧ 0 < (wOf l).getD n.toNat 0) ∧ e = 0 ∧ w'.ownsRow w.heap.size 55 2 y (spotsOf ((wOf l).set n.toNat 0)).length (tcells (spotsOf ((wOf l).set n.toNat 0)))))

theorem Arr.at {T : TypeId} {w : World} {g : Nat} {a : List Int} (h : Arr T 12 w g a) (j : Nat) (hj : j < 12) : w.cell? ⟨g, j, none⟩ = some (.int .i64 (a.getD j 0)) := by
  have hl : j < a.length := by rw [h.2]; exact hj
  rw [h.cell j hl, List.getD_eq_getElem?_getD, List.getElem?_eq_getElem hl]
  rfl

set_option maxHeartbeats 4000000 in
set_option maxRecDepth 100000 in
theorem ringRemoved_any (v : Value) (l : List Tm) (n : Int) (w : World) (hv : TmAt w v l) :
    Calls Try.prog 16 #[.agg #[v], .int .i64 n] w (RemRes l n w) := by
  obtain ⟨p, c, rfl, _⟩ := hv.parts
  have HV : Hid _ := hv
  clear hv
  go_enter Try.func16, Try.ntmps16
  go_wp2_with fail
  obtain ⟨W0, hW0⟩ : ∃ W0, W0 = (w.alloc (.cells #[.slice p l.length c] 24)).alloc (.cells #[.slice none 0 0] 24) := ⟨_, rfl⟩
  rw [← hW0]
  have hb0 : Below w.heap.size w W0 := by rw [hW0]; exact ((Below.refl _ _).alloc (Nat.le_refl _) _).alloc (by simp) _
  have hR1 : W0.heap[w.heap.size + 1]? = some (.cells #[.slice none 0 0] 24 (0, 0)) := by rw [hW0]; exact heap_second _ _ _
  have hs0 : W0.heap.size = w.heap.size + 2 := by rw [hW0]; simp
  refine (ringWeights_any _ l _ (HV.out.below hb0)).mono ?_
  rintro r w1 ⟨u, rfl, hb1, hu⟩
  have hbb := hb0.trans (hb1.mono hb0.size)
  have hR5 := box_below hR1 hb1
  have hc5 := one_cell hR5
  have hf5 : w1.frozen? ⟨w.heap.size + 1, 0, none⟩ = false := by simp [World.frozen?, hR5]
  have HZ : Hid (_ ∧ _) := ⟨hbb, hR5⟩
  clear hb0 hb1 hbb hR1 hR5 hW0
  rcases hu with ⟨hno, rfl⟩ | ⟨hok, g, rfl, hg, hA⟩
  · have HN : Hid _ := hno
    clear hno
    go_wp2
    refine bodyPost_ret (v := .tuple #[.agg #[.slice none 0 0], .int .i64 6]) (results_ct Try.results16 rfl rfl (load_row (P := Try.prog) (cs := [.slice none 0 0]) (one_set HZ.out.2) Try.underlying24 rfl (by kernel_rfl))) rfl ⟨_, _, rfl, HZ.out.1.setCell (by simp) _, .inl ⟨HN.out, rfl, rfl⟩⟩
  · have HN : Hid (_ ∧ _) := ⟨hok, hA⟩
    clear hok hA
    by_cases hn : 0 ≤ n ∧ n < 12
    · obtain ⟨j, rfl⟩ := Int.eq_ofNat_of_zero_le hn.1
      have hj : j < 12 := by omega
      have hjI : (j : Int) < 12 := by omega
      have hcj := HN.out.2.at j hj
      have hfj := HN.out.2.frozen j
      have hx0 := wOf_nn l j
      obtain ⟨x, hx⟩ : ∃ x, x = (wOf l).getD j 0 := ⟨_, rfl⟩
      rw [← hx] at hcj hx0
      have HX : Hid _ := hx
      clear hx
      by_cases hp : x = 0
      · subst hp
        go_wp2_with (first | (go_at_call 29; refine (in_yes _ _ _ _ (by omega) (by omega)).mono ?_; rintro r w2 ⟨rfl, rfl⟩))
        refine bodyPost_ret (v := .tuple #[.agg #[.slice none 0 0], .int .i64 8]) (results_ct Try.results16 rfl rfl (load_row (P := Try.prog) (cs := [.slice none 0 0]) (one_set HZ.out.2) Try.underlying24 rfl (by kernel_rfl))) rfl ⟨_, _, rfl, HZ.out.1.setCell (by simp) _, .inr (.inl ⟨HN.out.1, fun h => ?_, rfl, rfl⟩)⟩
        have h2 := h.2
        rw [Int.toNat_natCast, ← HX.out] at h2
        omega
      · have hp0 : (x == 0) = false := by simpa using hp
        obtain ⟨W9, hW9⟩ : ∃ W9, W9 = w1.setCell ⟨g, j, none⟩ (.int .i64 0) := ⟨_, rfl⟩
        have hA9 : Arr 3 12 W9 g ((wOf l).set j 0) := by rw [hW9]; exact HN.out.2.set j 0
        have hb9 : Below w.heap.size w W9 := by rw [hW9]; exact HZ.out.1.setCell (by simp; omega) _
        have hR9 : W9.heap[w.heap.size + 1]? = some (.cells #[.slice none 0 0] 24 (0, 0)) := by rw [hW9, Below.heap_setCell _ _ _ _ (by simp; omega)]; exact HZ.out.2
        have hw9 : Wts ((wOf l).set j 0) := HN.out.1.wts.set j 0 (by omega) (by omega)
        have H9 : Hid (_ ∧ _ ∧ _ ∧ _ ∧ _) := ⟨hA9, hb9, hR9, hw9, hW9⟩
        clear hA9 hb9 hR9 hw9 hW9
        go_wp2_with (first | (go_at_call 29; refine (in_yes _ _ _ _ (by omega) (by omega)).mono ?_; rintro r w2 ⟨rfl, rfl⟩))
        rw [← H9.out.2.2.2.2]
        refine (ringOf_any _ _ _ (H9.out.1.intsAt (by omega)) H9.out.2.2.2.1).mono ?_
        rintro r w10 ⟨y, rfl, ho10, hb10⟩
        obtain ⟨yp, yc, rfl⟩ := own_form ho10
        have hR10 := box_below H9.out.2.2.1 hb10
        have hc10 := one_cell hR10
        have hf10 : w10.frozen? ⟨w.heap.size + 1, 0, none⟩ = false := by simp [World.frozen?, hR10]
        have hb11 := (H9.out.2.1.trans (hb10.mono H9.out.2.1.size)).setCell (p := ⟨w.heap.size + 1, 0, none⟩) (by simp) (.slice yp (spotsOf ((wOf l).set j 0)).length yc)
        have hs9 := H9.out.1.lt
        have ho11 : (w10.setCell ⟨w.heap.size + 1, 0, none⟩ (.slice yp (spotsOf ((wOf l).set j 0)).length yc)).ownsRow w.heap.size 55 2 (.slice yp (spotsOf ((wOf l).set j 0)).length yc) (spotsOf ((wOf l).set j 0)).length (tcells (spotsOf ((wOf l).set j 0))) :=
          (own_block ho10 (fun g hg => Below.heap_setCell _ _ _ _ (by have := (ho10.lt g hg).1; simp; omega))).mono (by omega)
        have H11 : Hid (_ ∧ _ ∧ _) := ⟨hb11, ho11, hR10⟩
        clear hb11 ho11 hR10 hb10 ho10
        go_wp2
        refine bodyPost_ret (v := .tuple #[.agg #[.slice yp (spotsOf ((wOf l).set j 0)).length yc], .int .i64 0]) (results_ct Try.results16 rfl rfl (load_row (P := Try.prog) (cs := [.slice yp (spotsOf ((wOf l).set j 0)).length yc]) (one_set H11.out.2.2) Try.underlying24 rfl (by kernel_rfl))) rfl ⟨_, _, rfl, H11.out.1, .inr (.inr ⟨HN.out.1, ⟨hn, ?_⟩, rfl, H11.out.2.1⟩)⟩
        rw [Int.toNat_natCast, ← HX.out]
        omega
    · go_wp2_with (first | (go_at_call 29; refine (in_no _ _ _ _ (by omega)).mono ?_; rintro r w2 ⟨rfl, rfl⟩))
      refine bodyPost_ret (v := .tuple #[.agg #[.slice none 0 0], .int .i64 8]) (results_ct Try.results16 rfl rfl (load_row (P := Try.prog) (cs := [.slice none 0 0]) (one_set HZ.out.2) Try.underlying24 rfl (by kernel_rfl))) rfl ⟨_, _, rfl, HZ.out.1.setCell (by simp) _, .inr (.inl ⟨HN.out.1, fun h => hn h.1, rfl, rfl⟩)⟩

set_option maxHeartbeats 4000000 in
set_option maxRecDepth 100000 in
theorem ringAdded_any (v : Value) (l : List Tm) (n k : Int) (w : World) (hv : TmAt w v l) :
    Calls Try.prog 13 #[.agg #[v], .int .i64 n, .int .i64 k] w (AddRes l n k w) := by
  obtain ⟨p, c, rfl, _⟩ := hv.parts
  have HV : Hid _ := hv
  clear hv
  go_enter Try.func13, Try.ntmps13
  go_wp2_with fail
  obtain ⟨W0, hW0⟩ : ∃ W0, W0 = (w.alloc (.cells #[.slice p l.length c] 24)).alloc (.cells #[.slice none 0 0] 24) := ⟨_, rfl⟩
  rw [← hW0]
  have hb0 : Below w.heap.size w W0 := by rw [hW0]; exact ((Below.refl _ _).alloc (Nat.le_refl _) _).alloc (by simp) _
  have hR1 : W0.heap[w.heap.size + 1]? = some (.cells #[.slice none 0 0] 24 (0, 0)) := by rw [hW0]; exact heap_second _ _ _
  have hs0 : W0.heap.size = w.heap.size + 2 := by rw [hW0]; simp
  refine (ringWeights_any _ l _ (HV.out.below hb0)).mono ?_
  rintro r w1 ⟨u, rfl, hb1, hu⟩
  have hbb := hb0.trans (hb1.mono hb0.size)
  have hR5 := box_below hR1 hb1
  have hc5 := one_cell hR5
  have hf5 : w1.frozen? ⟨w.heap.size + 1, 0, none⟩ = false := by simp [World.frozen?, hR5]
  have HZ : Hid (_ ∧ _) := ⟨hbb, hR5⟩
  clear hb0 hb1 hbb hR1 hR5 hW0
  rcases hu with ⟨hno, rfl⟩ | ⟨hok, g, rfl, hg, hA⟩
  · have HN : Hid _ := hno
    clear hno
    go_wp2
    refine bodyPost_ret (v := .tuple #[.agg #[.slice none 0 0], .int .i64 6]) (results_ct Try.results13 rfl rfl (load_row (P := Try.prog) (cs := [.slice none 0 0]) (one_set HZ.out.2) Try.underlying24 rfl (by kernel_rfl))) rfl ⟨_, _, rfl, HZ.out.1.setCell (by simp) _, .inl ⟨HN.out, rfl, rfl⟩⟩
  · have HN : Hid (_ ∧ _) := ⟨hok, hA⟩
    clear hok hA
    by_cases hn : 0 ≤ n ∧ n < 12
    · by_cases hk : 1 ≤ k ∧ k ≤ 8
      · obtain ⟨j, rfl⟩ := Int.eq_ofNat_of_zero_le hn.1
        have hj : j < 12 := by omega
        have hjI : (j : Int) < 12 := by omega
        have hcj := HN.out.2.at j hj
        have hfj := HN.out.2.frozen j
        obtain ⟨x, hx⟩ : ∃ x, x = (wOf l).getD j 0 := ⟨_, rfl⟩
        rw [← hx] at hcj
        have HX : Hid (_ ∧ _ ∧ _) := ⟨hx, hn, hk⟩
        clear hx
        by_cases hp : 0 < x
        · go_wp2_with (first | (go_at_call 29; refine (in_yes _ _ _ _ (by omega) (by omega)).mono ?_; rintro r w2 ⟨rfl, rfl⟩))
          refine bodyPost_ret (v := .tuple #[.agg #[.slice none 0 0], .int .i64 7]) (results_ct Try.results13 rfl rfl (load_row (P := Try.prog) (cs := [.slice none 0 0]) (one_set HZ.out.2) Try.underlying24 rfl (by kernel_rfl))) rfl ⟨_, _, rfl, HZ.out.1.setCell (by simp) _, .inr (.inr (.inl ⟨HN.out.1, HX.out.2, ?_, rfl, rfl⟩))⟩
          rw [Int.toNat_natCast, ← HX.out.1]
          exact hp
        · obtain ⟨W9, hW9⟩ : ∃ W9, W9 = w1.setCell ⟨g, j, none⟩ (.int .i64 k) := ⟨_, rfl⟩
          have hA9 : Arr 3 12 W9 g ((wOf l).set j k) := by rw [hW9]; exact HN.out.2.set j k
          have hb9 : Below w.heap.size w W9 := by rw [hW9]; exact HZ.out.1.setCell (by simp; omega) _
          have hR9 : W9.heap[w.heap.size + 1]? = some (.cells #[.slice none 0 0] 24 (0, 0)) := by rw [hW9, Below.heap_setCell _ _ _ _ (by simp; omega)]; exact HZ.out.2
          have hw9 : Wts ((wOf l).set j k) := HN.out.1.wts.set j k (by omega) (by omega)
          have H9 : Hid (_ ∧ _ ∧ _ ∧ _ ∧ _) := ⟨hA9, hb9, hR9, hw9, hW9⟩
          clear hA9 hb9 hR9 hw9 hW9
          go_wp2_with (first | (go_at_call 29; refine (in_yes _ _ _ _ (by omega) (by omega)).mono ?_; rintro r w2 ⟨rfl, rfl⟩))
          rw [← H9.out.2.2.2.2]
          refine (ringOf_any _ _ _ (H9.out.1.intsAt (by omega)) H9.out.2.2.2.1).mono ?_
          rintro r w10 ⟨y, rfl, ho10, hb10⟩
          obtain ⟨yp, yc, rfl⟩ := own_form ho10
          have hR10 := box_below H9.out.2.2.1 hb10
          have hc10 := one_cell hR10
          have hf10 : w10.frozen? ⟨w.heap.size + 1, 0, none⟩ = false := by simp [World.frozen?, hR10]
          have hb11 := (H9.out.2.1.trans (hb10.mono H9.out.2.1.size)).setCell (p := ⟨w.heap.size + 1, 0, none⟩) (by simp) (.slice yp (spotsOf ((wOf l).set j k)).length yc)
          have hs9 := H9.out.1.lt
          have ho11 : (w10.setCell ⟨w.heap.size + 1, 0, none⟩ (.slice yp (spotsOf ((wOf l).set j k)).length yc)).ownsRow w.heap.size 55 2 (.slice yp (spotsOf ((wOf l).set j k)).length yc) (spotsOf ((wOf l).set j k)).length (tcells (spotsOf ((wOf l).set j k))) :=
            (own_block ho10 (fun g hg => Below.heap_setCell _ _ _ _ (by have := (ho10.lt g hg).1; simp; omega))).mono (by omega)
          have H11 : Hid (_ ∧ _ ∧ _) := ⟨hb11, ho11, hR10⟩
          clear hb11 ho11 hR10 hb10 ho10
          go_wp2
          refine bodyPost_ret (v := .tuple #[.agg #[.slice yp (spotsOf ((wOf l).set j k)).length yc], .int .i64 0]) (results_ct Try.results13 rfl rfl (load_row (P := Try.prog) (cs := [.slice yp (spotsOf ((wOf l).set j k)).length yc]) (one_set H11.out.2.2) Try.underlying24 rfl (by kernel_rfl))) rfl ⟨_, _, rfl, H11.out.1, .inr (.inr (.inr ⟨HN.out.1, HX.out.2, ?_, rfl, H11.out.2.1⟩))⟩
          rw [Int.toNat_natCast, ← HX.out.1]
          omega
      · have hbad : k < 1 ∨ 8 < k := by omega
        go_wp2_with fail
        refine (in_yes _ _ _ _ (by omega) (by omega)).mono ?_
        rintro r w2 ⟨rfl, rfl⟩
        go_wp2_with fail
        refine (in_no _ _ _ _ hbad).mono ?_
        rintro r w3 ⟨rfl, rfl⟩
        go_wp2
        refine bodyPost_ret (v := .tuple #[.agg #[.slice none 0 0], .int .i64 2]) (results_ct Try.results13 rfl rfl (load_row (P := Try.prog) (cs := [.slice none 0 0]) (one_set HZ.out.2) Try.underlying24 rfl (by kernel_rfl))) rfl ⟨_, _, rfl, HZ.out.1.setCell (by simp) _, .inr (.inl ⟨HN.out.1, fun h => hk h.2, rfl, rfl⟩)⟩
    · go_wp2_with (first | (go_at_call 29; refine (in_no _ _ _ _ (by omega)).mono ?_; rintro r w2 ⟨rfl, rfl⟩))
      refine bodyPost_ret (v := .tuple #[.agg #[.slice none 0 0], .int .i64 2]) (results_ct Try.results13 rfl rfl (load_row (P := Try.prog) (cs := [.slice none 0 0]) (one_set HZ.out.2) Try.underlying24 rfl (by kernel_rfl))) rfl ⟨_, _, rfl, HZ.out.1.setCell (by simp) _, .inr (.inl ⟨HN.out.1, fun h => hn h.1, rfl, rfl⟩)⟩
end Go.Proofs.Ytpmobbbohchdlaa.Walks
