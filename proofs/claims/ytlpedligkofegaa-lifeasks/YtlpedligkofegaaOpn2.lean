/-
  A book that is opened: a copy that may be changed. Condition: what is read can be read.
-/
import Derived.Test.YtlpedligkofegaaOpn
import Derived.Deep.CutRange
import Derived.WalkKit
import Derived.ProofKit
import Derived.Handy
import Derived.LoopTactic
import Derived.Below
import Derived.Laws.BitsAllLaws
import Derived.RegionTactic
import Derived.Deep.RegionHeld3
import Derived.Deep.DrawnRows
import Derived.Deep.AppendLies
import Derived.Laws.OwnMore
import Derived.Deep.Onto
import Derived.Deep.QuietTactic
import Derived.BigQuiet
namespace Go.Proofs.Ytlpedligkofegaa.Walks
open Go.RowKit
set_option linter.unusedVariables false
set_option linter.unusedSimpArgs false
attribute [local go_sem ↓] Go.wp_at_zero Go.wp_at_succ

/-- A book at work: its box, its lives and its requests in memory of its own. -/
structure Opn (base : Nat) (W : World) (T : Nat) (va vb : Value) (L : List Lf) (R : List Rq) : Prop where
  box : W.heap[T]? = some (.cells #[va, vb] 63 (0, 0))
  lives : W.ownsRow base 44 6 va L.length (recs lfC L)
  reqs : W.ownsRow base 31 5 vb R.length (recs rqC R)
  offL : va.ownBlock ≠ some T
  offR : vb.ownBlock ≠ some T
  apart : ∀ g, va.ownBlock = some g → vb.ownBlock ≠ some g
  hT : base ≤ T

section
variable {base : Nat} {W W' : World} {T : Nat} {va vb : Value} {L : List Lf} {R : List Rq}

theorem Opn.below (h : Opn base W T va vb L R) (hb : Below W.heap.size W W') : Opn base W' T va vb L R :=
  ⟨box_below h.box hb, own_grownW h.lives hb, own_grownW h.reqs hb, h.offL, h.offR, h.apart, h.hT⟩

theorem Opn.lt (h : Opn base W T va vb L R) : T < W.heap.size := (Array.getElem?_eq_some_iff.1 h.box).1

theorem Opn.at (h : Opn base W T va vb L R) : BkAt W va vb L R := ⟨rcAt_own h.lives, rcAt_own h.reqs⟩

theorem opn_a {w5 w6 : World} (hL : w5.ownsRow base 44 6 va L.length (recs lfC L)) (hR : w6.ownsRow w5.heap.size 31 5 vb R.length (recs rqC R)) (hb : Below w5.heap.size w5 w6) (hbase : base ≤ w5.heap.size) :
    Opn base (w6.alloc (.cells #[va, vb] 63)) w6.heap.size va vb L R :=
  ⟨heap_alloc_new _ _, (own_grownW hL hb).alloc _, (hR.mono hbase).alloc _, fun e => by have := (hL.lt _ e).2; have := hb.size; omega, fun e => by have := (hR.lt _ e).2; omega, fun g e f => by have := (hL.lt _ e).2; have := (hR.lt _ f).1; omega, Nat.le_trans hbase hb.size⟩

theorem opn_b {w5 w6 : World} (hR : w5.ownsRow base 31 5 vb R.length (recs rqC R)) (hL : w6.ownsRow w5.heap.size 44 6 va L.length (recs lfC L)) (hb : Below w5.heap.size w5 w6) (hbase : base ≤ w5.heap.size) :
    Opn base (w6.alloc (.cells #[va, vb] 63)) w6.heap.size va vb L R :=
  ⟨heap_alloc_new _ _, (hL.mono hbase).alloc _, (own_grownW hR hb).alloc _, fun e => by have := (hL.lt _ e).2; omega, fun e => by have := (hR.lt _ e).2; have := hb.size; omega, fun g e f => by have := (hR.lt _ f).2; have := (hL.lt _ e).1; omega, Nat.le_trans hbase hb.size⟩
end

theorem held2 {w w' : World} {a1 a2 : Addr} {v1 v2 : Value} (h1 : w.cell? a1 = some v1) (h2 : w.cell? a2 = some v2) (hb : Below w.heap.size w w') : w'.cell? a1 = some v1 ∧ w'.cell? a2 = some v2 ∧ Below w.heap.size w w' :=
  ⟨(hb.cell (World.block_lt_of_cell? w _ h1)).trans h1, (hb.cell (World.block_lt_of_cell? w _ h2)).trans h2, hb⟩

/-- What opening a book ends in. -/
def Opened (L : List Lf) (R : List Rq) (w : World) (r : Ending) (w' : World) : Prop :=
  ∃ T p k q m, r = .returned (.tuple #[.pointer (some ⟨T, 0, none⟩), .int .i64 0]) ∧ Opn w.heap.size w' T (.slice p L.length k) (.slice q R.length m) L R ∧ Below w.heap.size w w'

set_option maxHeartbeats 4000000 in
set_option maxRecDepth 100000 in
theorem openedOf_no (va vb : Value) (L : List Lf) (R : List Rq) (w : World) (hv : BkAt w va vb L R) (h : ¬ BkOk L R) :
    Calls Try.prog 29 #[bkV va vb] w fun r w' => r = .returned (.tuple #[.pointer none, .int .i64 6]) ∧ Below w.heap.size w w' := by
  obtain ⟨pa, ca, rfl, hca, hma⟩ := RcAt.form hv.1
  obtain ⟨pb, cb, rfl, hcb, hmb⟩ := RcAt.form hv.2
  have HV : Hid (_ ∧ _) := ⟨hv.below (below_new w (o := bkO (.slice pa L.length ca) (.slice pb R.length cb))), chk_no h⟩
  clear hv h
  go_enter Try.func29, Try.ntmps29
  go_wp2_with fail
  refine (check_any _ _ L R _ HV.out.1).mono ?_
  rw [HV.out.2]
  rintro r w1 ⟨rfl, hb1⟩
  have HB : Hid _ := (below_new w).trans (hb1.mono (by simp))
  clear hb1
  go_wp2
  go_ret2
  exact ⟨rfl, HB.out⟩

set_option maxHeartbeats 4000000 in
set_option maxRecDepth 100000 in
theorem openedOf_yes (va vb : Value) (L : List Lf) (R : List Rq) (w : World) (hv : BkAt w va vb L R) (h : BkOk L R) :
    Calls Try.prog 29 #[bkV va vb] w (Opened L R w) := by
  obtain ⟨pa, ca, rfl, hca, hma⟩ := RcAt.form hv.1
  obtain ⟨pb, cb, rfl, hcb, hmb⟩ := RcAt.form hv.2
  have hL : L.length ≤ 1000 := by have := h.1.1; omega
  have hR : R.length ≤ 1000 := by have := h.2.1; omega
  have HV : Hid (_ ∧ _) := ⟨hv.below (below_new w (o := bkO (.slice pa L.length ca) (.slice pb R.length cb))), chk_yes h⟩
  clear hv h
  go_enter Try.func29, Try.ntmps29
  go_wp2_with fail
  refine (check_any _ _ L R _ HV.out.1).mono ?_
  rw [HV.out.2]
  rintro r w1 ⟨rfl, hb1⟩
  have hX := HV.out.1.below hb1
  have hR0 := box_below (heap_alloc_new w (bkO (.slice pa L.length ca) (.slice pb R.length cb))) hb1
  obtain ⟨c0, c1, _, _, hlt0⟩ := two_cells hR0
  have hB : Below w.heap.size w w1 := (below_new w).trans (hb1.mono (by simp))
  have hC1 : ∀ W, Below w1.heap.size w1 W → Calls Try.prog 41 #[.slice pa L.length ca] W fun r w' => ∃ p k, r = .returned (.slice p L.length k) ∧ Hid (w'.ownsRow W.heap.size 44 6 (.slice p L.length k) L.length (recs lfC L) ∧ Below w1.heap.size w1 w' ∧ Below W.heap.size W w') := fun W hW => (clone_lf _ L W (RcAt.below hX.1 hW) hL).mono fun r w' ⟨p, k, h1, h2, h3⟩ => ⟨p, k, h1, ⟨h2, hW.trans (h3.mono hW.size), h3⟩⟩
  have hC2 : ∀ W, Below w1.heap.size w1 W → Calls Try.prog 42 #[.slice pb R.length cb] W fun r w' => ∃ p k, r = .returned (.slice p R.length k) ∧ Hid (w'.ownsRow W.heap.size 31 5 (.slice p R.length k) R.length (recs rqC R) ∧ Below w1.heap.size w1 w' ∧ Below W.heap.size W w') := fun W hW => (clone_rq _ R W (RcAt.below hX.2 hW) hR).mono fun r w' ⟨p, k, h1, h2, h3⟩ => ⟨p, k, h1, ⟨h2, hW.trans (h3.mono hW.size), h3⟩⟩
  have HC : Hid (_ ∧ _ ∧ _) := ⟨hC1, hC2, hB⟩
  clear hC1 hC2 hX hR0 hB hb1
  go_upto_region 4 with fail
  go_region_held3 (fun W => W.cell? ⟨w.heap.size, 0, none⟩ = some (.slice pa L.length ca) ∧ W.cell? ⟨w.heap.size, 1, none⟩ = some (.slice pb R.length cb) ∧ Below w1.heap.size w1 W) (first | exact held2 c0 c1 ((Below.refl _ _).drew) | exact held2 c0 c1 hq5.out.2.1 | exact held2 c0 c1 hq6.out.2.1 | exact held2 c0 c1 (hq5.out.2.1.alloc hq5.out.2.1.size _) | exact held2 c0 c1 (hq6.out.2.1.alloc hq6.out.2.1.size _)) (first | (go_at_call 41; refine (HC.out.1 _ ?hbW).mono ?_; (case hbW => first | assumption | exact (Below.refl _ _).drew | exact hq6.out.2.1); rintro r w5 ⟨p, k, rfl, hq5⟩) | (go_at_call 42; refine (HC.out.2.1 _ ?hbW).mono ?_; (case hbW => first | assumption | exact (Below.refl _ _).drew | exact hq5.out.2.1); rintro r w6 ⟨q, m, rfl, hq6⟩))
  all_goals
    go_wp2
    go_ret2
    have hz := HC.out.2.2
    first
    | exact ⟨_, p, k, q, m, rfl, opn_a (hq5.out.1.mono hz.size) hq6.out.1 hq6.out.2.2 (Nat.le_trans hz.size hq5.out.2.1.size), (hz.trans (hq6.out.2.1.mono hz.size)).alloc (Nat.le_trans hz.size hq6.out.2.1.size) _⟩
    | exact ⟨_, p, k, q, m, rfl, opn_b (hq6.out.1.mono hz.size) hq5.out.1 hq5.out.2.2 (Nat.le_trans hz.size hq6.out.2.1.size), (hz.trans (hq5.out.2.1.mono hz.size)).alloc (Nat.le_trans hz.size hq5.out.2.1.size) _⟩
end Go.Proofs.Ytlpedligkofegaa.Walks
