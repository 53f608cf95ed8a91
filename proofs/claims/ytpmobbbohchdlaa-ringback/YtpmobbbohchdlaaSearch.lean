/-
  Where a place belongs among ordered spots: the library's binary search, with the program's own order. The spots are parted by the place.
-/
import Derived.Test.YtpmobbbohchdlaaWalkP
import Derived.WalkKit
import Derived.ProofKit
import Derived.Handy
import Derived.LoopTactic
import Derived.Below
import Derived.Laws.BitsAllLaws
import Derived.RegionTactic
import Derived.Deep.RegionHeld3
import Derived.Deep.DrawnRows
import Derived.Deep.AppendLies
import Derived.Laws.OwnMore
import Derived.Deep.Onto
import Derived.Deep.QuietTactic
import Derived.BigQuiet
namespace Go.Proofs.Ytpmobbbohchdlaa.Walks
open Go.RowKit
set_option linter.unusedVariables false
set_option linter.unusedSimpArgs false
attribute [local go_sem ↓] Go.wp_at_zero Go.wp_at_succ

set_option maxHeartbeats 1000000 in
theorem along1_any (a b c : Int) (w : World) :
    Calls Try.prog 46 #[.agg #[.int .i64 a, .int .i64 b], .int .i64 c] w fun r w' => r = .returned (.int .i64 (cmpI a c)) ∧ Below w.heap.size w w' := by
  go_enter Try.func46, Try.ntmps46
  go_wp2_with fail
  refine (compare_any a c _).mono ?_
  rintro r w1 ⟨rfl, rfl⟩
  go_wp2
  go_ret
  exact ⟨rfl, (Below.refl _ _).alloc (Nat.le_refl _) _⟩

theorem cmpI_lt (a b : Int) : cmpI a b < 0 ↔ a < b := by
  unfold cmpI
  repeat' split
  all_goals omega

set_option maxHeartbeats 4000000 in
set_option maxRecDepth 100000 in
theorem search_any (v : Value) (l : List Tm) (at_ : Int) (i0 : Nat) (w : World) (hv : TmAt w v l) (h0 : i0 ≤ l.length) (h1 : ∀ j (hj : j < l.length), j < i0 → l[j].1 < at_) (h2 : ∀ j (hj : j < l.length), i0 ≤ j → ¬ l[j].1 < at_) (hlen : l.length ≤ 1048577) :
    Calls Try.prog 45 #[v, .int .i64 at_, .func (.func 46) #[] #[]] w fun r w' => ∃ b, r = .returned (.tuple #[.int .i64 i0, .bool b]) ∧ Below w.heap.size w w' := by
  obtain ⟨a, ca, rfl, hca, hma, pa⟩ := hv.parts
  unfold maxLen at hma
  have HP : Hid (_ ∧ _ ∧ _) := ⟨pa, h1, h2⟩
  clear pa h1 h2
  go_enter Try.func45, Try.ntmps45
  go_wp2
  go_loopw [9, 10] (fun i j wr => ∃ (p q : Nat), i = .int .i64 p ∧ j = .int .i64 q ∧ p ≤ i0 ∧ i0 ≤ q ∧ q ≤ l.length ∧ Below w.heap.size w wr) (fun i j _ => (intOf j).toNat - (intOf i).toNat)
  case atStart => exact ⟨0, l.length, rfl, rfl, Nat.zero_le _, h0, Nat.le_refl _, Below.refl _ _⟩
  case round =>
    obtain ⟨p, q, rfl, rfl, hp, hq, hql, hb⟩ := hrel
    have HB : Hid _ := hb
    clear hb
    by_cases hlt : p < q
    · have hpd : decide ((p : Int) < (q : Int)) = true := decide_eq_true (by omega)
      obtain ⟨m, hm⟩ : ∃ m, m = (p + q) / 2 := ⟨_, rfl⟩
      have hm1 : p ≤ m := by omega
      have hm2 : m < q := by omega
      have hmI : ((p : Int) + (q : Int)) / 2 = (m : Int) := by omega
      have hmN : (p + q) / 2 = m := hm.symm
      clear hm
      obtain ⟨b0, off, rfl, hbl, p1, p2⟩ := HP.out.1 m (by omega)
      have e1 := (HB.out.cell (p := ⟨b0, off + m * 2, none⟩) hbl).trans p1
      have e2 := (HB.out.cell (p := ⟨b0, off + m * 2 + 1, none⟩) hbl).trans p2
      obtain ⟨xa, hxa⟩ : ∃ xa, (l[m]'(by omega)).1 = xa := ⟨_, rfl⟩
      obtain ⟨xd, hxd⟩ : ∃ xd, (l[m]'(by omega)).2 = xd := ⟨_, rfl⟩
      rw [hxa] at e1
      rw [hxd] at e2
      have HX : Hid _ := hxa
      clear hxa hxd p1 p2
      have hm3 : (0 : Int) ≤ (m : Int) := by omega
      have hm4 : (m : Int) < (l.length : Int) := by omega
      obtain ⟨c, hc⟩ : ∃ c, c = cmpI xa at_ := ⟨_, rfl⟩
      have hcal := fun W => along1_any xa xd at_ W
      rw [← hc] at hcal
      have HC : Hid (_ ∧ _) := ⟨hc, hcal⟩
      clear hc hcal
      cases hcd : decide (c < 0)
      · go_wp2_with (first | (go_at_call 46; refine (HC.out.2 _).mono ?_; rintro r w1 ⟨rfl, hb1⟩))
        refine ⟨⟨p, m, rfl, rfl, hp, ?_, by omega, HB.out.trans (hb1.mono HB.out.size)⟩, by simp [intOf]; omega⟩
        rcases Nat.lt_or_ge m i0 with h | h
        · have h3 := HP.out.2.1 m (by omega) h
          rw [HX.out] at h3
          exact absurd ((cmpI_lt _ _).2 h3) (by rw [← HC.out.1]; exact of_decide_eq_false hcd)
        · exact h
      · go_wp2_with (first | (go_at_call 46; refine (HC.out.2 _).mono ?_; rintro r w1 ⟨rfl, hb1⟩))
        refine ⟨⟨m + 1, q, by simp, rfl, ?_, hq, hql, HB.out.trans (hb1.mono HB.out.size)⟩, by simp [intOf]; omega⟩
        rcases Nat.lt_or_ge m i0 with h | h
        · exact h
        · have h3 := HP.out.2.2 m (by omega) h
          rw [HX.out] at h3
          have h4 : xa < at_ := (cmpI_lt _ _).1 (by rw [← HC.out.1]; exact of_decide_eq_true hcd)
          omega
    · obtain rfl : p = i0 := by omega
      obtain rfl : q = p := by omega
      obtain ⟨m, hm⟩ : ∃ m, m = q := ⟨_, rfl⟩
      subst hm
      by_cases hlt2 : m < l.length
      · obtain ⟨b0, off, rfl, hbl, p1, p2⟩ := HP.out.1 m (by omega)
        have e1 := (HB.out.cell (p := ⟨b0, off + m * 2, none⟩) hbl).trans p1
        have e2 := (HB.out.cell (p := ⟨b0, off + m * 2 + 1, none⟩) hbl).trans p2
        obtain ⟨xa, hxa⟩ : ∃ xa, (l[m]'(by omega)).1 = xa := ⟨_, rfl⟩
        obtain ⟨xd, hxd⟩ : ∃ xd, (l[m]'(by omega)).2 = xd := ⟨_, rfl⟩
        rw [hxa] at e1
        rw [hxd] at e2
        clear hxa hxd p1 p2
        have hm3 : (0 : Int) ≤ (m : Int) := by omega
        have hm4 : (m : Int) < (l.length : Int) := by omega
        have hcal := fun W => along1_any xa xd at_ W
        go_wp2_with (first | (go_at_call 46; refine (hcal _).mono ?_; rintro r w1 ⟨rfl, hb1⟩))
        go_ret2
        exact ⟨_, rfl, HB.out.trans (hb1.mono HB.out.size)⟩
      · obtain rfl : m = l.length := by omega
        go_wp2
        go_ret2
        exact ⟨_, rfl, HB.out⟩
end Go.Proofs.Ytpmobbbohchdlaa.Walks
