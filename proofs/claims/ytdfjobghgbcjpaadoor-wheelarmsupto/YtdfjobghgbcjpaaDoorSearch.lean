/-
  Where a timer belongs in an ordered list: the library's binary search, with the program's own order. The list is parted by the timer: those behind which it belongs stand ahead.
-/
import Derived.Test.YtdfjobghgbcjpaaDoorCmp
import Derived.WalkKit
import Derived.ProofKit
import Derived.Handy
import Derived.LoopTactic
import Derived.Below
import Derived.Laws.BitsAllLaws
import Derived.RegionTactic
import Derived.Deep.RegionHeld3
import Derived.Deep.DrawnRows
import Derived.Deep.AppendLies
import Derived.Laws.OwnMore
import Derived.Deep.Onto
import Derived.Deep.QuietTactic
import Derived.BigQuiet
namespace Go.Proofs.YtdfjobghgbcjpaaDoor.Walks
open Go.RowKit
set_option linter.unusedVariables false
set_option linter.unusedSimpArgs false
attribute [local go_sem ↓] Go.wp_at_zero Go.wp_at_succ

theorem heldAny {w w' : World} {a1 a2 a3 a4 : Addr} {v1 v2 v3 v4 : Value} (h1 : w.cell? a1 = some v1) (h2 : w.cell? a2 = some v2) (h3 : w.cell? a3 = some v3) (h4 : w.cell? a4 = some v4)
    (hb : Below w.heap.size w w') : w'.cell? a1 = some v1 ∧ w'.cell? a2 = some v2 ∧ w'.cell? a3 = some v3 ∧ w'.cell? a4 = some v4 ∧ Below w.heap.size w w' :=
  ⟨(hb.cell (World.block_lt_of_cell? w _ h1)).trans h1, (hb.cell (World.block_lt_of_cell? w _ h2)).trans h2, (hb.cell (World.block_lt_of_cell? w _ h3)).trans h3, (hb.cell (World.block_lt_of_cell? w _ h4)).trans h4, hb⟩

set_option maxHeartbeats 4000000 in
set_option maxRecDepth 100000 in
theorem search_any (v : Value) (l : List Tm) (ta td : Int) (i0 : Nat) (w : World) (hv : TmAt w v l) (h0 : i0 ≤ l.length) (h1 : ∀ j (hj : j < l.length), j < i0 → cmpT l[j] (ta, td) < 0) (h2 : ∀ j (hj : j < l.length), i0 ≤ j → ¬ cmpT l[j] (ta, td) < 0) (hlen : l.length ≤ 1048577) :
    Calls Tryd.prog 31 #[v, .agg #[.int .i64 ta, .int .i64 td], .func (.func 32) #[] #[]] w fun r w' => ∃ b, r = .returned (.tuple #[.int .i64 i0, .bool b]) ∧ Below w.heap.size w w' := by
  obtain ⟨a, ca, rfl, hca, hma, pa⟩ := hv.parts
  unfold maxLen at hma
  have HP : Hid (_ ∧ _ ∧ _) := ⟨pa, h1, h2⟩
  clear pa h1 h2
  go_enter Tryd.func31, Tryd.ntmps31
  go_wp2
  go_loopw [9, 10] (fun i j wr => ∃ (p q : Nat), i = .int .i64 p ∧ j = .int .i64 q ∧ p ≤ i0 ∧ i0 ≤ q ∧ q ≤ l.length ∧ Below (w.heap.size + 1) (w.alloc (.cells #[.int .i64 ta, .int .i64 td] 45)) wr) (fun i j _ => (intOf j).toNat - (intOf i).toNat)
  case atStart => exact ⟨0, l.length, rfl, rfl, Nat.zero_le _, h0, Nat.le_refl _, Below.refl _ _⟩
  case round =>
    obtain ⟨p, q, rfl, rfl, hp, hq, hql, hb⟩ := hrel
    have k1 : wr.cell? ⟨w.heap.size, 0, none⟩ = some (.int .i64 ta) := by rw [hb.cell (p := ⟨w.heap.size, 0, none⟩) (by simp)]; simp
    have k2 : wr.cell? ⟨w.heap.size, 1, none⟩ = some (.int .i64 td) := by rw [hb.cell (p := ⟨w.heap.size, 1, none⟩) (by simp)]; simp
    have hbw : Below w.heap.size w wr := (((Below.refl _ _).alloc (Nat.le_refl _) _)).trans (hb.mono (by omega))
    have HB : Hid (_ ∧ _) := ⟨hb, hbw⟩
    clear hb hbw
    by_cases hlt : p < q
    · have hpd : decide ((p : Int) < (q : Int)) = true := decide_eq_true (by omega)
      obtain ⟨m, hm⟩ : ∃ m, m = (p + q) / 2 := ⟨_, rfl⟩
      have hm1 : p ≤ m := by omega
      have hm2 : m < q := by omega
      have hmI : ((p : Int) + (q : Int)) / 2 = (m : Int) := by omega
      have HM : Hid (_ ∧ _) := ⟨hm, hmI⟩
      clear hm hmI
      obtain ⟨b0, off, rfl, hbl, p1, p2⟩ := HP.out.1 m (by omega)
      have e1 := (HB.out.2.cell (p := ⟨b0, off + m * 2, none⟩) hbl).trans p1
      have e2 := (HB.out.2.cell (p := ⟨b0, off + m * 2 + 1, none⟩) hbl).trans p2
      obtain ⟨xa, hxa⟩ : ∃ xa, (l[m]'(by omega)).1 = xa := ⟨_, rfl⟩
      obtain ⟨xd, hxd⟩ : ∃ xd, (l[m]'(by omega)).2 = xd := ⟨_, rfl⟩
      have hlm : l[m]'(by omega) = (xa, xd) := Prod.ext hxa hxd
      rw [hxa] at e1
      rw [hxd] at e2
      have HX : Hid _ := hlm
      clear hlm hxa hxd p1 p2
      have hm3 : (0 : Int) ≤ (m : Int) := by omega
      have hm4 : (m : Int) < (l.length : Int) := by omega
      have hbl2 : b0 < wr.heap.size := Nat.lt_of_lt_of_le hbl HB.out.2.size
      go_wp2_with fail
      rw [HM.out.2]
      obtain ⟨c, hc⟩ : ∃ c, c = cmpT (xa, xd) (ta, td) := ⟨_, rfl⟩
      have HC : Hid _ := hc
      clear hc
      cases hcd : decide (c < 0)
      · go_region_held3 (fun w' => w'.cell? ⟨b0, off + m * 2, none⟩ = some (.int .i64 xa) ∧ w'.cell? ⟨b0, off + m * 2 + 1, none⟩ = some (.int .i64 xd) ∧ w'.cell? ⟨w.heap.size, 0, none⟩ = some (.int .i64 ta) ∧ w'.cell? ⟨w.heap.size, 1, none⟩ = some (.int .i64 td) ∧ Below wr.heap.size wr w') (first | exact heldAny e1 e2 k1 k2 ((Below.refl _ _).drew) | exact heldAny e1 e2 k1 k2 (below_of_drew hb1)) (first | (go_at_call 32; refine (compareTimers_any xa xd ta td _).mono ?_; rw [← HC.out]; rintro r w1 ⟨rfl, hb1⟩))
        go_wp2
        refine ⟨⟨p, m, rfl, rfl, hp, ?_, by omega, HB.out.1.trans ((below_of_drew hb1).mono (by have := HB.out.1.size; simpa using this))⟩, by simp [intOf]; omega⟩
        rcases Nat.lt_or_ge m i0 with h | h
        · have h3 := HP.out.2.1 m (by omega) h
          rw [HX.out, ← HC.out] at h3
          exact absurd h3 (of_decide_eq_false hcd)
        · exact h
      · go_region_held3 (fun w' => w'.cell? ⟨b0, off + m * 2, none⟩ = some (.int .i64 xa) ∧ w'.cell? ⟨b0, off + m * 2 + 1, none⟩ = some (.int .i64 xd) ∧ w'.cell? ⟨w.heap.size, 0, none⟩ = some (.int .i64 ta) ∧ w'.cell? ⟨w.heap.size, 1, none⟩ = some (.int .i64 td) ∧ Below wr.heap.size wr w') (first | exact heldAny e1 e2 k1 k2 ((Below.refl _ _).drew) | exact heldAny e1 e2 k1 k2 (below_of_drew hb1)) (first | (go_at_call 32; refine (compareTimers_any xa xd ta td _).mono ?_; rw [← HC.out]; rintro r w1 ⟨rfl, hb1⟩))
        go_wp2
        refine ⟨⟨m + 1, q, by simp, rfl, ?_, hq, hql, HB.out.1.trans ((below_of_drew hb1).mono (by have := HB.out.1.size; simpa using this))⟩, by simp [intOf]; omega⟩
        rcases Nat.lt_or_ge m i0 with h | h
        · exact h
        · have h3 := HP.out.2.2 m (by omega) h
          rw [HX.out, ← HC.out] at h3
          have := of_decide_eq_true hcd
          omega
    · obtain rfl : p = i0 := by omega
      obtain rfl : q = p := by omega
      obtain ⟨m, hm⟩ : ∃ m, m = q := ⟨_, rfl⟩
      subst hm
      by_cases hlt2 : m < l.length
      · obtain ⟨b0, off, rfl, hbl, p1, p2⟩ := HP.out.1 m (by omega)
        have e1 := (HB.out.2.cell (p := ⟨b0, off + m * 2, none⟩) hbl).trans p1
        have e2 := (HB.out.2.cell (p := ⟨b0, off + m * 2 + 1, none⟩) hbl).trans p2
        obtain ⟨xa, hxa⟩ : ∃ xa, (l[m]'(by omega)).1 = xa := ⟨_, rfl⟩
        obtain ⟨xd, hxd⟩ : ∃ xd, (l[m]'(by omega)).2 = xd := ⟨_, rfl⟩
        rw [hxa] at e1
        rw [hxd] at e2
        clear hxa hxd p1 p2
        have hm3 : (0 : Int) ≤ (m : Int) := by omega
        have hm4 : (m : Int) < (l.length : Int) := by omega
        have hbl2 : b0 < wr.heap.size := Nat.lt_of_lt_of_le hbl HB.out.2.size
        obtain ⟨c, hc⟩ : ∃ c, c = cmpT (xa, xd) (ta, td) := ⟨_, rfl⟩
        have HC : Hid _ := hc
        clear hc
        go_wp2_with fail
        go_region_held3 (fun w' => w'.cell? ⟨b0, off + m * 2, none⟩ = some (.int .i64 xa) ∧ w'.cell? ⟨b0, off + m * 2 + 1, none⟩ = some (.int .i64 xd) ∧ w'.cell? ⟨w.heap.size, 0, none⟩ = some (.int .i64 ta) ∧ w'.cell? ⟨w.heap.size, 1, none⟩ = some (.int .i64 td) ∧ Below wr.heap.size wr w') (first | exact heldAny e1 e2 k1 k2 ((Below.refl _ _).drew) | exact heldAny e1 e2 k1 k2 (below_of_drew hb1)) (first | (go_at_call 32; refine (compareTimers_any xa xd ta td _).mono ?_; rw [← HC.out]; rintro r w1 ⟨rfl, hb1⟩))
        go_wp2
        go_ret2
        exact ⟨_, rfl, HB.out.2.trans ((below_of_drew hb1).mono HB.out.2.size)⟩
      · obtain rfl : m = l.length := by omega
        go_wp2_with fail
        go_region
        go_wp2
        go_ret2
        exact ⟨_, rfl, HB.out.2.drew⟩
end Go.Proofs.YtdfjobghgbcjpaaDoor.Walks
