/-
  health.Back, Allowed. Condition: what is read can be read.
-/
import Derived.Test.YtofnhdkcadoiiaaNote
import Derived.WalkKit
import Derived.ProofKit
import Derived.Handy
import Derived.LoopTactic
import Derived.Below
import Derived.Laws.BitsAllLaws
import Derived.RegionTactic
import Derived.Deep.RegionHeld3
import Derived.Deep.DrawnRows
import Derived.Deep.AppendLies
import Derived.Laws.OwnMore
import Derived.Deep.Onto
import Derived.Deep.QuietTactic
import Derived.BigQuiet
namespace Go.Proofs.Ytofnhdkcadoiiaa.Walks
open Go.RowKit
set_option linter.unusedVariables false
set_option linter.unusedSimpArgs false
attribute [local go_sem ↓] Go.wp_at_zero Go.wp_at_succ

section
variable {w W : World} {n f d : Int} {v : Value} {o : Bool} {u t : Int} {v' : Value} {o' : Bool} {u' t' : Int}

theorem Hy.set12 (h : Hy w W n f d v o u t v' o' u' t') (b : Bool) (c : Int) : Hy w ((W.setCell ⟨w.heap.size + 1, 1, none⟩ (.bool b)).setCell ⟨w.heap.size + 1, 2, none⟩ (.int .i64 c)) n f d v b c t v' o' u' t' :=
  ⟨⟨(Below.heap_setCell _ _ _ _ (by simp)).trans ((Below.heap_setCell _ _ _ _ (by simp)).trans h.1.1), heap_setCell_same _ _ 2 _ _ _ (heap_setCell_same W _ 1 _ _ _ h.1.2.1), (h.1.2.2.setCell (by simp) _).setCell (by simp) _⟩, (Below.heap_setCell _ _ _ _ (by simp)).trans ((Below.heap_setCell _ _ _ _ (by simp)).trans h.2)⟩
end

set_option maxHeartbeats 8000000 in
set_option maxRecDepth 100000 in
theorem back_fresh (n f d : Int) (v : Value) (l : List Bool) (o : Bool) (u t : Int) (now : Int) (w : World) (hv : BsAt w v l) :
    Calls Try.prog 15 #[watV n f d, hltV v o u t, .int .i64 now] w (HPostF w (backO n f d l o u t now)) := by
  obtain ⟨p, c, rfl⟩ := hv.form
  obtain ⟨W0, hW0⟩ : ∃ W0, W0 = ((w.alloc (.cells #[.int .i64 n, .int .i64 f, .int .i64 d] 23)).alloc (.cells #[.slice p l.length c, .bool o, .int .i64 u, .int .i64 t] 29)).alloc (.cells #[.slice none 0 0, .bool false, .int .i64 0, .int .i64 0] 29) := ⟨_, rfl⟩
  have hX0 : Hy w W0 n f d (.slice p l.length c) o u t (.slice none 0 0) false 0 0 := by rw [hW0]; exact hy_new _ _ _ _ _ _ _ _ _ _ _ _
  obtain ⟨c0, c1, c2, c3, c4, c5, c6, _⟩ := hX0.cells
  have H : Hid (_ ∧ Hy _ _ _ _ _ _ _ _ _ _ _ _ _ ∧ BsAt _ _ _) := ⟨hW0, hX0, hv⟩
  clear hW0 hX0 hv
  go_enter Try.func15, Try.ntmps15
  go_wp2_with fail
  rw [← H.out.1]
  refine (checkAll_any n f d p l.length c o u t now _).mono ?_
  rintro r w1 ⟨rfl, hb1⟩
  have HX : Hid (Hy _ _ _ _ _ _ _ _ _ _ _ _ _ ∧ BsAt _ _ _) := ⟨H.out.2.1.below hb1, H.out.2.2.below (H.out.2.1.bel.trans (hb1.mono H.out.2.1.bel.size))⟩
  clear c0 c1 c2 c3 c4 c5 c6 hb1 H
  obtain ⟨c0, c1, c2, c3, c4, c5, c6, f0, f1, f2, d0, d1, d2, d3, g0, g1, g2, g3⟩ := HX.out.1.cells
  rcases all_cases n f d l.length o u t now with ⟨hE, _⟩ | ⟨hE, _⟩ | ⟨hE, hok, hnow, hh⟩
  · have E : Hid (backO n f d l o u t now = (([], false, 0, 0), false, 2)) := (by unfold backO; rw [hE, if_neg (by decide)] : backO n f d l o u t now = (([], false, 0, 0), false, 2))
    rw [hE]
    clear hE
    go_wp2
    exact bodyPost_ret (v := .tuple #[hltV (.slice none 0 0) false 0 0, .bool false, .int .i64 2]) ((HX.out.1.set _ _ _ _).res Try.results15 rfl rfl rfl) rfl (hpostF_nil E.out (HX.out.1.set _ _ _ _).bel)
  · have E : Hid (backO n f d l o u t now = (([], false, 0, 0), false, 6)) := (by unfold backO; rw [hE, if_neg (by decide)] : backO n f d l o u t now = (([], false, 0, 0), false, 6))
    rw [hE]
    clear hE
    go_wp2
    exact bodyPost_ret (v := .tuple #[hltV (.slice none 0 0) false 0 0, .bool false, .int .i64 6]) ((HX.out.1.set _ _ _ _).res Try.results15 rfl rfl rfl) rfl (hpostF_nil E.out (HX.out.1.set _ _ _ _).bel)
  · have E : Hid (backO n f d l o u t now = if o = true ∧ u ≤ now then ((l, false, 0, t), true, 0) else ((l, o, u, t), false, 0)) := if_pos hE
    rw [hE]
    clear hE
    have HL : Hid _ := clone_any (.slice p l.length c) l w1 HX.out.2 (by have := hh.1; omega)
    go_wp2_with fail
    refine Calls.mono HL.out ?_
    rintro r w2 ⟨p', c', rfl, ho, hb2⟩
    obtain ⟨k, hk⟩ : ∃ k, k = l.length := ⟨_, rfl⟩
    have HO : Hid (Hy _ _ _ _ _ _ _ _ _ _ _ _ _ ∧ _ ∧ w.heap.size + 1 + 1 < w1.heap.size) := ⟨HX.out.1.below hb2, ho, (Array.getElem?_eq_some_iff.1 HX.out.1.2).1⟩
    clear ho hb2 hk HX HL c0 c1 c2 c3 c4 c5 c6 f0 f1 f2 d0 d1 d2 d3 g0 g1 g2 g3 hok
    obtain ⟨c0, c1, c2, c3, c4, c5, c6, f0, f1, f2, d0, d1, d2, d3, g0, g1, g2, g3⟩ := HO.out.1.cells
    cases o
    case false =>
      have EE : Hid (backO n f d l false u t now = ((l, false, u, t), false, 0)) := (by rw [E.out, if_neg (fun h => by cases h.1)] : backO n f d l false u t now = ((l, false, u, t), false, 0))
      go_wp2
      exact bodyPost_ret (v := .tuple #[hltV (.slice p' l.length c') false u t, .bool false, .int .i64 0]) (((HO.out.1.set0 _).set _ _ _ _).res Try.results15 rfl rfl rfl) rfl (hpostF_of EE.out rfl (bsAt_own (base := w1.heap.size) (own_set4 (own_set HO.out.2.1 (by have := HO.out.2.2; simp; omega)) HO.out.2.2)) ((HO.out.1.set0 _).set _ _ _ _).bel HO.out.2.1 (by have := HO.out.2.2; omega))
    case true =>
      by_cases hu : now < u
      · have EE : Hid (backO n f d l true u t now = ((l, true, u, t), false, 0)) := (by rw [E.out, if_neg (fun h => by omega)] : backO n f d l true u t now = ((l, true, u, t), false, 0))
        go_wp2
        exact bodyPost_ret (v := .tuple #[hltV (.slice p' l.length c') true u t, .bool false, .int .i64 0]) (((HO.out.1.set0 _).set _ _ _ _).res Try.results15 rfl rfl rfl) rfl (hpostF_of EE.out rfl (bsAt_own (base := w1.heap.size) (own_set4 (own_set HO.out.2.1 (by have := HO.out.2.2; simp; omega)) HO.out.2.2)) ((HO.out.1.set0 _).set _ _ _ _).bel HO.out.2.1 (by have := HO.out.2.2; omega))
      · have EE : Hid (backO n f d l true u t now = ((l, false, 0, t), true, 0)) := (by rw [E.out, if_pos ⟨rfl, by omega⟩] : backO n f d l true u t now = ((l, false, 0, t), true, 0))
        go_wp2
        exact bodyPost_ret (v := .tuple #[hltV (.slice p' l.length c') false 0 t, .bool true, .int .i64 0]) ((((HO.out.1.set0 _).set12 _ _).set _ _ _ _).res Try.results15 rfl rfl rfl) rfl (hpostF_of EE.out rfl (bsAt_own (base := w1.heap.size) (own_set4 (own_set (own_set (own_set HO.out.2.1 (by have := HO.out.2.2; simp; omega)) (by have := HO.out.2.2; simp; omega)) (by have := HO.out.2.2; simp; omega)) HO.out.2.2)) (((HO.out.1.set0 _).set12 _ _).set _ _ _ _).bel HO.out.2.1 (by have := HO.out.2.2; omega))

theorem back_any (n f d : Int) (v : Value) (l : List Bool) (o : Bool) (u t : Int) (now : Int) (w : World) (hv : BsAt w v l) :
    Calls Try.prog 15 #[watV n f d, hltV v o u t, .int .i64 now] w (HPost w (backO n f d l o u t now)) :=
  (back_fresh n f d v l o u t now w hv).mono fun _ _ h => h.post

/-- Allowed's answer. -/
def allowO (out act per : Int) : Bool × Int :=
  if (0 ≤ act ∧ act ≤ 12) ∧ (0 ≤ out ∧ out ≤ act) ∧ (0 ≤ per ∧ per ≤ 100) then (decide ((out + 1) * 100 ≤ per * act), 0) else (false, 2)

set_option maxHeartbeats 4000000 in
theorem allowed_any (out act per : Int) (w : World) : Calls Try.prog 17 #[.int .i64 out, .int .i64 act, .int .i64 per] w fun r w' => r = .returned (.tuple #[.bool (allowO out act per).1, .int .i64 (allowO out act per).2]) ∧ w' = w := by
  cases h1 : decide (0 ≤ act ∧ act ≤ 12)
  · have E : Hid (allowO out act per = (false, 2)) := if_neg fun h => of_decide_eq_false h1 h.1
    go_enter Try.func17, Try.ntmps17
    go_wp2_with fail
    refine (within_any _ _ _ _).mono ?_
    rintro e w' ⟨rfl, rfl⟩
    rw [h1]
    go_wp2
    go_ret2
    exact ⟨by rw [E.out]; rfl, rfl⟩
  cases h2 : decide (0 ≤ out ∧ out ≤ act)
  · have E : Hid (allowO out act per = (false, 2)) := if_neg fun h => of_decide_eq_false h2 h.2.1
    go_enter Try.func17, Try.ntmps17
    go_wp2_with fail
    refine (within_any _ _ _ _).mono ?_
    rintro e w' ⟨rfl, rfl⟩
    rw [h1]
    go_wp2_with fail
    refine (within_any _ _ _ _).mono ?_
    rintro e w' ⟨rfl, rfl⟩
    rw [h2]
    go_wp2
    go_ret2
    exact ⟨by rw [E.out]; rfl, rfl⟩
  cases h3 : decide (0 ≤ per ∧ per ≤ 100)
  · have E : Hid (allowO out act per = (false, 2)) := if_neg fun h => of_decide_eq_false h3 h.2.2
    go_enter Try.func17, Try.ntmps17
    go_wp2_with fail
    refine (within_any _ _ _ _).mono ?_
    rintro e w' ⟨rfl, rfl⟩
    rw [h1]
    go_wp2_with fail
    refine (within_any _ _ _ _).mono ?_
    rintro e w' ⟨rfl, rfl⟩
    rw [h2]
    go_wp2_with fail
    refine (within_any _ _ _ _).mono ?_
    rintro e w' ⟨rfl, rfl⟩
    rw [h3]
    go_wp2
    go_ret2
    exact ⟨by rw [E.out]; rfl, rfl⟩
  · have E : Hid (allowO out act per = (decide ((out + 1) * 100 ≤ per * act), 0)) := if_pos ⟨of_decide_eq_true h1, of_decide_eq_true h2, of_decide_eq_true h3⟩
    have b1 := of_decide_eq_true h1
    have b2 := of_decide_eq_true h2
    have b3 := of_decide_eq_true h3
    have m0 : 0 ≤ per * act := Int.mul_nonneg b3.1 b1.1
    have m1 : per * act ≤ 1200 := (Int.mul_le_mul b3.2 b1.2 b1.1 (by omega) : per * act ≤ 100 * 12)
    obtain ⟨a0, a1⟩ := b1
    obtain ⟨o0, o1⟩ := b2
    have o2 : out ≤ 12 := by omega
    clear b3
    go_enter Try.func17, Try.ntmps17
    go_wp2_with fail
    refine (within_any _ _ _ _).mono ?_
    rintro e w' ⟨rfl, rfl⟩
    rw [h1]
    go_wp2_with fail
    refine (within_any _ _ _ _).mono ?_
    rintro e w' ⟨rfl, rfl⟩
    rw [h2]
    go_wp2_with fail
    refine (within_any _ _ _ _).mono ?_
    rintro e w' ⟨rfl, rfl⟩
    rw [h3]
    go_wp2
    go_ret2
    exact ⟨by rw [E.out]; rfl, rfl⟩
end Go.Proofs.Ytofnhdkcadoiiaa.Walks
