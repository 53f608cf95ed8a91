/-
  Check of a book; slices.Clone of lives and of requests; a book that is opened. Condition: what is read can be read.
-/
import Derived.Test.YtlpedligkofegaaChk3
import Derived.Test.YtlpedligkofegaaIns
import Derived.WalkKit
import Derived.ProofKit
import Derived.Handy
import Derived.LoopTactic
import Derived.Below
import Derived.Laws.BitsAllLaws
import Derived.RegionTactic
import Derived.Deep.RegionHeld3
import Derived.Deep.DrawnRows
import Derived.Deep.AppendLies
import Derived.Laws.OwnMore
import Derived.Deep.Onto
import Derived.Deep.QuietTactic
import Derived.BigQuiet
namespace Go.Proofs.Ytlpedligkofegaa.Walks
open Go.RowKit
set_option linter.unusedVariables false
set_option linter.unusedSimpArgs false
attribute [local go_sem ↓] Go.wp_at_zero Go.wp_at_succ

abbrev bkV (va vb : Value) : Value := .agg #[va, vb]

abbrev bkO (va vb : Value) : Obj := .cells #[va, vb] 25

/-- A book that can be read. -/
abbrev BkAt (w : World) (va vb : Value) (L : List Lf) (R : List Rq) : Prop := LvAt w va L ∧ RsAt w vb R

theorem BkAt.below {w w' : World} {va vb : Value} {L : List Lf} {R : List Rq} (h : BkAt w va vb L R) (hb : Below w.heap.size w w') : BkAt w' va vb L R := ⟨RcAt.below h.1 hb, RcAt.below h.2 hb⟩

set_option maxHeartbeats 4000000 in
theorem mayBe_any (va vb : Value) (L : List Lf) (R : List Rq) (w : World) (hv : BkAt w va vb L R) :
    Calls Try.prog 25 #[bkV va vb] w fun r w' => r = .returned (.bool (decide (BkOk L R))) ∧ Below w.heap.size w w' := by
  obtain ⟨pa, ca, rfl, hca, hma⟩ := RcAt.form hv.1
  obtain ⟨pb, cb, rfl, hcb, hmb⟩ := RcAt.form hv.2
  unfold maxLen at hma hmb
  obtain ⟨ans, hans⟩ : ∃ ans, ans = decide (BkOk L R) := ⟨_, rfl⟩
  rw [← hans]
  have H : Hid _ := hans
  obtain ⟨W0, hW0⟩ : ∃ W0, W0 = w.alloc (bkO (.slice pa L.length ca) (.slice pb R.length cb)) := ⟨_, rfl⟩
  have hB0 : Below w.heap.size w W0 := by rw [hW0]; exact below_new _
  have hR0 : W0.heap[w.heap.size]? = some (bkO (.slice pa L.length ca) (.slice pb R.length cb)) := by rw [hW0]; exact heap_alloc_new _ _
  have HV : Hid (_ ∧ _ ∧ _ ∧ _) := ⟨hv.below hB0, hW0, hB0, hR0⟩
  obtain ⟨c0, c1, _, _, hlt0⟩ := two_cells hR0
  clear hans hv hW0 hB0 hR0
  cases h1 : decide (L.length ≤ 12)
  case false =>
    have g1 : ¬ (L.length ≤ 12) := of_decide_eq_false h1
    have g2 : ¬ ((L.length : Int) ≤ 12) := by omega
    have E : Hid (ans = false) := by rw [H.out]; exact decide_eq_false fun h => g1 h.1.1
    clear H h1
    go_enter Try.func25, Try.ntmps25
    go_wp2
    go_ret
    exact ⟨by rw [E.out]; rfl, below_new _⟩
  have g1 : L.length ≤ 12 := of_decide_eq_true h1
  have g2 : (L.length : Int) ≤ 12 := by omega
  clear h1
  obtain ⟨b2, hb2⟩ : ∃ b2, b2 = decide (LsOk L) := ⟨_, rfl⟩
  have HL : Hid (∀ W, LvAt W (.slice pa L.length ca) L → Calls Try.prog 39 #[.slice pa L.length ca] W fun r w' => r = .returned (.bool b2) ∧ Below W.heap.size W w') := fun W hW => by rw [hb2]; exact livesMayBe_any _ _ W hW
  have HB2 : Hid _ := hb2
  clear hb2
  cases b2
  case false =>
    have E : Hid (ans = false) := by rw [H.out]; exact decide_eq_false fun h => of_decide_eq_false HB2.out.symm h.1.2
    clear H
    go_enter Try.func25, Try.ntmps25
    go_wp2_with fail
    rw [← HV.out.2.1]
    refine (HL.out _ HV.out.1.1).mono ?_
    rintro r w1 ⟨rfl, hb1⟩
    have HB : Hid _ := HV.out.2.2.1.trans (hb1.mono HV.out.2.2.1.size)
    clear hb1
    go_wp2
    go_ret
    exact ⟨by rw [E.out]; rfl, HB.out⟩
  cases h3 : decide (R.length ≤ 100)
  case false =>
    have g3 : ¬ (R.length ≤ 100) := of_decide_eq_false h3
    have g4 : ¬ ((R.length : Int) ≤ 100) := by omega
    have E : Hid (ans = false) := by rw [H.out]; exact decide_eq_false fun h => g3 h.2.1
    clear H h3
    go_enter Try.func25, Try.ntmps25
    go_wp2_with fail
    rw [← HV.out.2.1]
    refine (HL.out _ HV.out.1.1).mono ?_
    rintro r w1 ⟨rfl, hb1⟩
    obtain ⟨c0, c1, _, _, hlt0⟩ := two_cells (box_below HV.out.2.2.2 hb1)
    have HB : Hid _ := HV.out.2.2.1.trans (hb1.mono HV.out.2.2.1.size)
    clear hb1
    go_wp2
    go_ret
    exact ⟨by rw [E.out]; rfl, HB.out⟩
  have g3 : R.length ≤ 100 := of_decide_eq_true h3
  have g4 : (R.length : Int) ≤ 100 := by omega
  clear h3
  obtain ⟨b4, hb4⟩ : ∃ b4, b4 = decide (RsOk R) := ⟨_, rfl⟩
  have HR : Hid (∀ W, RsAt W (.slice pb R.length cb) R → Calls Try.prog 40 #[.slice pb R.length cb] W fun r w' => r = .returned (.bool b4) ∧ Below W.heap.size W w') := fun W hW => by rw [hb4]; exact requestsMayBe_any _ _ W hW g3
  have E : Hid (ans = b4) := by
    rw [H.out, hb4]
    exact decide_eq_decide.2 ⟨fun h => h.2.2, fun h => ⟨⟨g1, of_decide_eq_true HB2.out.symm⟩, g3, h⟩⟩
  clear hb4 H
  go_enter Try.func25, Try.ntmps25
  go_wp2_with fail
  rw [← HV.out.2.1]
  refine (HL.out _ HV.out.1.1).mono ?_
  rintro r w1 ⟨rfl, hb1⟩
  obtain ⟨c0, c1, _, _, hlt0⟩ := two_cells (box_below HV.out.2.2.2 hb1)
  have HB : Hid (_ ∧ _) := ⟨HV.out.2.2.1.trans (hb1.mono HV.out.2.2.1.size), RcAt.below HV.out.1.2 hb1⟩
  clear hb1
  go_wp2_with fail
  refine (HR.out _ HB.out.2).mono ?_
  rintro r w2 ⟨rfl, hb2⟩
  have HC : Hid _ := HB.out.1.trans (hb2.mono HB.out.1.size)
  clear hb2
  go_wp2
  go_ret
  exact ⟨by rw [E.out]; rfl, HC.out⟩

theorem check_any (va vb : Value) (L : List Lf) (R : List Rq) (w : World) (hv : BkAt w va vb L R) :
    Calls Try.prog 9 #[bkV va vb] w fun r w' => r = .returned (.int .i64 (chkE L R)) ∧ Below w.heap.size w w' := by
  obtain ⟨pa, ca, rfl, hca, hma⟩ := RcAt.form hv.1
  obtain ⟨pb, cb, rfl, hcb, hmb⟩ := RcAt.form hv.2
  obtain ⟨b, hb⟩ : ∃ b, b = decide (BkOk L R) := ⟨_, rfl⟩
  have E : Hid (chkE L R = if b = true then 0 else 6) := by
    by_cases h : BkOk L R
    · rw [hb, decide_eq_true h, chk_yes h]; rfl
    · rw [hb, decide_eq_false h, chk_no h]; rfl
  have HM : Hid (∀ W, BkAt W (.slice pa L.length ca) (.slice pb R.length cb) L R → Calls Try.prog 25 #[bkV (.slice pa L.length ca) (.slice pb R.length cb)] W fun r w' => r = .returned (.bool b) ∧ Below W.heap.size W w') := fun W hW => by rw [hb]; exact mayBe_any _ _ _ _ W hW
  have HV : Hid _ := hv.below (below_new w (o := bkO (.slice pa L.length ca) (.slice pb R.length cb)))
  rw [E.out]
  clear hb hv
  go_enter Try.func9, Try.ntmps9
  go_wp2_with fail
  refine (HM.out _ HV.out).mono ?_
  rintro r w1 ⟨rfl, hb1⟩
  have HB : Hid _ := (below_new w).trans (hb1.mono (by simp))
  clear hb1
  cases b
  · go_wp2
    go_ret
    exact ⟨rfl, HB.out⟩
  · go_wp2
    go_ret
    exact ⟨rfl, HB.out⟩

theorem infoRq : (Try.prog.info? 31).map (fun i => (i.zero, i.size, i.bytes)) = some (some (.agg #[.int .i64 0, .int .i64 0, .int .i64 0, .int .i64 0, .int .i64 0]), 5, 40) := by kernel_rfl

theorem append_none {P : Program} (w : World) (t ty e : TypeId) (i : TypeInfo) (ht : P.underlying t = some (.slice e)) (hi : P.info? e = some i) (q : Option Addr) (n d : Nat) (hn : n ≤ d) (hd : d ≤ maxLen) (p : Option Addr) (c : Nat) :
    (Builtin.append_ #[t, t] ty #[.slice q n d, .slice p 0 c]).run P w = .ok (.slice q n d) w := by
  unfold maxLen at hd
  have h1 : ¬ (9223372036854775807 < n) := by omega
  cases p <;> cases q <;> simp [Builtin.append_, run_underlying ht, sizeOf, typeInfo, hi, Builtin.firstCells, Builtin.lenOf, loadCells, loadCellsFrom, hn, h1, storeCells]

theorem below_grown {w w' : World} {B : Nat} {row : Option Nat} (h : w.grownBy w' row) (hB : B ≤ w.heap.size) (hr : ∀ g, row = some g → B ≤ g) : Below B w w' := (Below.refl _ _).grown h hB hr

set_option maxHeartbeats 2000000 in
set_option maxRecDepth 100000 in
theorem clone_lf (v : Value) (l : List Lf) (w : World) (hv : RcAt lfC w v l) (hl : l.length ≤ 1000) :
    Calls Try.prog 41 #[v] w fun r w' => ∃ p c, r = .returned (.slice p l.length c) ∧ w'.ownsRow w.heap.size 44 6 (.slice p l.length c) l.length (recs lfC l) ∧ Below w.heap.size w w' := by
  obtain ⟨p, c, rfl, hc, hm⟩ := RcAt.form hv
  cases p with
  | none =>
    obtain rfl : l = [] := by
      obtain ⟨a, cap, he, _, _, h | ⟨b, off, rfl, _⟩⟩ := hv
      · exact List.length_eq_zero_iff.1 h.1
      · cases he
    clear hv
    have hnil : ∀ W, (binOp .eql 22 (.slice none 0 c) (.slice none 0 0)).run Try.prog W = .ok (.bool true) W := fun W => by kernel_rfl
    go_enter Try.func41, Try.ntmps41
    go_wp2
    go_ret
    exact ⟨none, 0, rfl, World.ownsRow_nil _ _ _ _, Below.refl _ _⟩
  | some q =>
    have hnil : ∀ W, (binOp .eql 22 (.slice (some q) l.length c) (.slice none 0 0)).run Try.prog W = .ok (.bool false) W := fun W => by kernel_rfl
    have hown : (w.alloc (.cells #[] 44)).ownsRow w.heap.size 44 6 (.slice (some ⟨w.heap.size, 0, none⟩) 0 0) 0 (recs lfC []) :=
      ⟨rfl, .inr ⟨w.heap.size, 0, #[], rfl, Nat.le_refl _, heap_alloc_new _ _, Nat.le_refl _, Nat.zero_le _, rfl, rfl⟩⟩
    have hrun : ∃ p' c' w4, (Builtin.append_ #[22, 22] 22 #[.slice (some ⟨w.heap.size, 0, none⟩) 0 0, .slice (some q) l.length c]).run Try.prog (w.alloc (.cells #[] 44)) = .ok (.slice p' l.length c') w4 ∧ w4.ownsRow w.heap.size 44 6 (.slice p' l.length c') l.length (recs lfC l) ∧ Below w.heap.size w w4 := by
      by_cases h0 : l.length = 0
      · obtain rfl : l = [] := List.length_eq_zero_iff.1 h0
        obtain ⟨i0, hi, _⟩ := info_parts infoLf
        exact ⟨_, _, _, append_none _ _ _ _ i0 Try.underlying22 hi _ 0 0 (Nat.le_refl _) (Nat.zero_le _) _ _, hown, below_new _⟩
      · obtain ⟨g, c', w4, hr, ho, hg, _⟩ := append_allR lf6 (by decide) Try.underlying22 infoLf rfl hown (by simp) 22 _ l (RcAt.below hv (below_new w)) (by omega) (by omega) (by unfold maxLen; omega)
        rw [Nat.zero_add] at hr ho
        rw [List.nil_append] at ho
        exact ⟨_, _, _, hr, ho, (below_new w).trans (below_grown hg (by simp) (fun g e => by cases e; exact Nat.le_refl _))⟩
    obtain ⟨p', c', w4, hr, ho, hb4⟩ := hrun
    have HQ : Hid (_ ∧ _ ∧ _) := ⟨hr, hb4, ho⟩
    clear hr hb4 ho hv hown
    go_enter Try.func41, Try.ntmps41
    go_wp2_with (at_builtin; (with_reducible refine wpList_append_eq rfl _ _ 22 rfl (.slice (some ⟨w.heap.size, 0, none⟩) 0 0) (.slice (some q) l.length c) (.slice p' l.length c') w4 ?hs ?hx ?hr ?_); (case hs => rfl); (case hx => rfl); (case hr => exact HQ.out.1))
    go_wp2
    go_ret
    exact ⟨_, _, rfl, HQ.out.2.2, HQ.out.2.1⟩

set_option maxHeartbeats 2000000 in
set_option maxRecDepth 100000 in
theorem clone_rq (v : Value) (l : List Rq) (w : World) (hv : RcAt rqC w v l) (hl : l.length ≤ 1000) :
    Calls Try.prog 42 #[v] w fun r w' => ∃ p c, r = .returned (.slice p l.length c) ∧ w'.ownsRow w.heap.size 31 5 (.slice p l.length c) l.length (recs rqC l) ∧ Below w.heap.size w w' := by
  obtain ⟨p, c, rfl, hc, hm⟩ := RcAt.form hv
  cases p with
  | none =>
    obtain rfl : l = [] := by
      obtain ⟨a, cap, he, _, _, h | ⟨b, off, rfl, _⟩⟩ := hv
      · exact List.length_eq_zero_iff.1 h.1
      · cases he
    clear hv
    have hnil : ∀ W, (binOp .eql 23 (.slice none 0 c) (.slice none 0 0)).run Try.prog W = .ok (.bool true) W := fun W => by kernel_rfl
    go_enter Try.func42, Try.ntmps42
    go_wp2
    go_ret
    exact ⟨none, 0, rfl, World.ownsRow_nil _ _ _ _, Below.refl _ _⟩
  | some q =>
    have hnil : ∀ W, (binOp .eql 23 (.slice (some q) l.length c) (.slice none 0 0)).run Try.prog W = .ok (.bool false) W := fun W => by kernel_rfl
    have hown : (w.alloc (.cells #[] 31)).ownsRow w.heap.size 31 5 (.slice (some ⟨w.heap.size, 0, none⟩) 0 0) 0 (recs rqC []) :=
      ⟨rfl, .inr ⟨w.heap.size, 0, #[], rfl, Nat.le_refl _, heap_alloc_new _ _, Nat.le_refl _, Nat.zero_le _, rfl, rfl⟩⟩
    have hrun : ∃ p' c' w4, (Builtin.append_ #[23, 23] 23 #[.slice (some ⟨w.heap.size, 0, none⟩) 0 0, .slice (some q) l.length c]).run Try.prog (w.alloc (.cells #[] 31)) = .ok (.slice p' l.length c') w4 ∧ w4.ownsRow w.heap.size 31 5 (.slice p' l.length c') l.length (recs rqC l) ∧ Below w.heap.size w w4 := by
      by_cases h0 : l.length = 0
      · obtain rfl : l = [] := List.length_eq_zero_iff.1 h0
        obtain ⟨i0, hi, _⟩ := info_parts infoRq
        exact ⟨_, _, _, append_none _ _ _ _ i0 Try.underlying23 hi _ 0 0 (Nat.le_refl _) (Nat.zero_le _) _ _, hown, below_new _⟩
      · obtain ⟨g, c', w4, hr, ho, hg, _⟩ := append_allR rq5 (by decide) Try.underlying23 infoRq rfl hown (by simp) 23 _ l (RcAt.below hv (below_new w)) (by omega) (by omega) (by unfold maxLen; omega)
        rw [Nat.zero_add] at hr ho
        rw [List.nil_append] at ho
        exact ⟨_, _, _, hr, ho, (below_new w).trans (below_grown hg (by simp) (fun g e => by cases e; exact Nat.le_refl _))⟩
    obtain ⟨p', c', w4, hr, ho, hb4⟩ := hrun
    have HQ : Hid (_ ∧ _ ∧ _) := ⟨hr, hb4, ho⟩
    clear hr hb4 ho hv hown
    go_enter Try.func42, Try.ntmps42
    go_wp2_with (at_builtin; (with_reducible refine wpList_append_eq rfl _ _ 23 rfl (.slice (some ⟨w.heap.size, 0, none⟩) 0 0) (.slice (some q) l.length c) (.slice p' l.length c') w4 ?hs ?hx ?hr ?_); (case hs => rfl); (case hx => rfl); (case hr => exact HQ.out.1))
    go_wp2
    go_ret
    exact ⟨_, _, rfl, HQ.out.2.2, HQ.out.2.1⟩
end Go.Proofs.Ytlpedligkofegaa.Walks
