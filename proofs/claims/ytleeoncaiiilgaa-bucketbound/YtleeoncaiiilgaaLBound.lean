/-
  BucketBound: of so many that earned at most Burst, and Num / Den of them, can have spent. Condition: the list can be read.
-/
import Derived.Test.YtleeoncaiiilgaaBudget
import Derived.Test.YtleeoncaiiilgaaOpensB
import Derived.WalkKit
import Derived.ProofKit
import Derived.Handy
import Derived.LoopTactic
import Derived.Below
import Derived.Laws.BitsAllLaws
import Derived.RegionTactic
import Derived.Deep.RegionHeld3
import Derived.Deep.DrawnRows
import Derived.Deep.AppendLies
import Derived.Laws.OwnMore
import Derived.Deep.Onto
import Derived.Deep.QuietTactic
import Derived.BigQuiet
namespace Go.Proofs.Ytleeoncaiiilgaa.Walks
open Go.RowKit
set_option linter.unusedVariables false
set_option linter.unusedSimpArgs false
attribute [local go_sem ↓] Go.wp_at_zero Go.wp_at_succ

/-- What holds behind so many rounds: tokens x, earned e, spent s. -/
abbrev Kept (n d b x : Int) (e s k : Nat) : Prop :=
  (0 ≤ x ∧ x ≤ b * d) ∧ x + s * d ≤ b * d + e * n ∧ (e + s = 0 → x = b * d) ∧ e + s ≤ k

theorem kept_earn {n d b x : Int} {e s k : Nat} (hok : BudOk n d b) (h : Kept n d b x e s k) : Kept n d b (min (x + n) (b * d)) (e + 1) s (k + 1) ∧ x ≤ min (x + n) (b * d) := by
  obtain ⟨h1, h2, h3, h4⟩ := h
  have hn := hok.1
  rw [show Kept n d b (min (x + n) (b * d)) (e + 1) s (k + 1) = ((0 ≤ min (x + n) (b * d) ∧ min (x + n) (b * d) ≤ b * d) ∧ min (x + n) (b * d) + s * d ≤ b * d + ((e + 1 : Nat) : Int) * n ∧ ((e + 1) + s = 0 → min (x + n) (b * d) = b * d) ∧ (e + 1) + s ≤ k + 1) from rfl]
  rw [Int.natCast_add, Int.add_mul]
  generalize (e : Int) * n = en at *
  generalize (s : Int) * d = sd at *
  generalize b * d = m at *
  refine ⟨⟨⟨by omega, by omega⟩, by simp; omega, fun h => by omega, by omega⟩, by omega⟩

theorem kept_spend {n d b x : Int} {e s k : Nat} (hok : BudOk n d b) (h : Kept n d b x e s k) (hx : d ≤ x) : Kept n d b (x - d) e (s + 1) (k + 1) := by
  obtain ⟨h1, h2, h3, h4⟩ := h
  have hd := hok.2.1
  rw [show Kept n d b (x - d) e (s + 1) (k + 1) = ((0 ≤ x - d ∧ x - d ≤ b * d) ∧ x - d + ((s + 1 : Nat) : Int) * d ≤ b * d + e * n ∧ (e + (s + 1) = 0 → x - d = b * d) ∧ e + (s + 1) ≤ k + 1) from rfl]
  rw [Int.natCast_add, Int.add_mul]
  generalize (e : Int) * n = en at *
  generalize (s : Int) * d = sd at *
  generalize b * d = m at *
  exact ⟨⟨by omega, by omega⟩, by simp; omega, fun h => by omega, by omega⟩

theorem kept_still {n d b x : Int} {e s k : Nat} (h : Kept n d b x e s k) : Kept n d b x e s (k + 1) := ⟨h.1, h.2.1, h.2.2.1, by have := h.2.2.2; omega⟩

set_option maxHeartbeats 8000000 in
set_option maxRecDepth 100000 in
theorem bound_law (x0 : Int) (h0 : (Lit.int .i64 x0).wf = true) (x1 : Int) (h1 : (Lit.int .i64 x1).wf = true) (x2 : Int) (h2 : (Lit.int .i64 x2).wf = true) (v : Value) (l : List Bool) {w : World} (hv : BsAt w v l) (hl : l.length ≤ 140737488355328) :
    Calls Try.prog 7 #[.int .i64 x0, .int .i64 x1, .int .i64 x2, v] w fun e w' => e = .returned (.bool true) ∧ Below w.heap.size w w' := by
  obtain ⟨n, d, b, ⟨hn, hd, hb⟩, hbud⟩ := budget_some x0 x1 x2 h0 h1 h2
  have hok : BudOk n d b := ⟨⟨by omega, by omega⟩, ⟨by omega, by omega⟩, by omega, by omega⟩
  obtain ⟨p, c, rfl, hlc, hcm, pa⟩ := hv.parts
  unfold maxLen at hcm
  have hbd := prod_bd hok.2.1 hok.2.2
  have hF : Hid (∀ W, _) := fun W => fill_any n d b W
  rw [show fillO n d b = ((b : Int) * d, 0) from if_pos hok] at hF
  have P : Hid (_ ∧ BudOk n d b ∧ _) := ⟨hbud, hok, pa⟩
  obtain ⟨m, hm⟩ : ∃ m, m = (b : Int) * d := ⟨_, rfl⟩
  rw [← hm] at hF hbd
  have HM : Hid _ := hm
  clear hbud hok h0 h1 h2 hm pa hv
  go_enter Try.func7, Try.ntmps7
  go_wp2_with fail
  refine (P.out.1 _).mono ?_
  rintro r w1 ⟨rfl, hb1⟩
  have H1 : Hid _ := hb1
  clear hb1
  go_wp2_with fail
  obtain ⟨W1, hW1⟩ : ∃ W1, W1 = w1.alloc (.cells #[.int .i64 n, .int .i64 d, .int .i64 b] 23) := ⟨_, rfl⟩
  rw [← hW1]
  refine (hF.out _).mono ?_
  rintro r w2 ⟨rfl, hb2⟩
  rw [hW1] at hb2
  have HG : Hid (Gh w (w2.alloc (.cells #[.int .i64 m] 28)) w1.heap.size w2.heap.size n d b m) := Gh.new H1.out hb2
  clear hb2 hW1 W1 H1 hF
  obtain ⟨g, hg⟩ : ∃ g, g = w1.heap.size := ⟨_, rfl⟩
  rw [← hg] at HG ⊢
  clear hg
  go_wp2
  obtain ⟨h, hh⟩ : ∃ h, h = w2.heap.size := ⟨_, rfl⟩
  rw [← hh] at HG ⊢
  generalize (w2.alloc (.cells #[.int .i64 m] 28)) = W3 at *
  clear hh
  go_loopw [12, 13, 14] (fun e s i wr => ∃ (k e' s' : Nat) (x : Int), i = .int .i64 k ∧ e = .int .i64 e' ∧ s = .int .i64 s' ∧ k ≤ l.length ∧ k ≤ 200 ∧ Kept n d b x e' s' k ∧ Gh w wr g h n d b x) (fun _ _ i _ => l.length - (intOf i).toNat)
  case atStart => exact ⟨0, 0, 0, m, rfl, rfl, rfl, Nat.zero_le _, Nat.zero_le _, ⟨⟨by omega, by rw [HM.out]; exact Int.le_refl _⟩, by rw [HM.out]; simp, fun _ => HM.out, Nat.le_refl _⟩, HG.out⟩
  case round =>
    obtain ⟨k, e, s, x, rfl, rfl, rfl, hk, hk2, hK, hG⟩ := hrel
    obtain ⟨c0, c1, c2, c3, f3, l1, l2⟩ := hG.cells
    have HK : Hid (Gh _ _ _ _ _ _ _ _ ∧ Kept n d b x e s k) := ⟨hG, hK⟩
    have hx0 : 0 ≤ x := hK.1.1
    have hx1 : x ≤ m := by rw [HM.out]; exact hK.1.2
    have he : e + s ≤ k := hK.2.2.2
    clear hG hK
    by_cases hlt : k < l.length
    · have hltI : (k : Int) < (l.length : Int) := by omega
      by_cases hlt2 : k < 200
      · have hltJ : (k : Int) < 200 := by omega
        obtain ⟨b1, o1, rfl, hb1, hc⟩ := P.out.2.2 k hlt
        have hc' := (HK.out.1.2.2.2.cell (p := ⟨b1, o1 + k, none⟩) hb1).trans hc
        clear hc hb1
        cases hq : l[k]
        · rw [hq] at hc'
          by_cases hbusy : x < d
          · have hS : Hid (∀ W, Calls Try.prog 15 #[budV n d b, bktV x] W fun r w' => r = .returned (.tuple #[bktV 0, .int .i64 11]) ∧ Below W.heap.size W w') := by
              refine fun (W : World) => ?_
              have := spend_any n d b x W
              rwa [spend_few P.out.2.1 hx0 hbusy (by rw [← HM.out]; exact hx1)] at this
            clear hq
            go_wp2_with fail
            refine (hS.out _).mono ?_
            rintro r w4 ⟨rfl, hb4⟩
            have HG4 : Hid (Gh _ _ _ _ _ _ _ _) := HK.out.1.below hb4
            clear c0 c1 c2 c3 f3 l1 l2 hb4 hc'
            go_wp2
            go_roundw
            case rel => exact ⟨k + 1, e, s, x, by simp, rfl, rfl, hlt, hlt2, kept_still HK.out.2, HG4.out.alloc _⟩
            case measure => simp [intOf]; omega
          · have hS : Hid (∀ W, Calls Try.prog 15 #[budV n d b, bktV x] W fun r w' => r = .returned (.tuple #[bktV (x - d), .int .i64 0]) ∧ Below W.heap.size W w') := by
              refine fun (W : World) => ?_
              have := spend_any n d b x W
              rwa [spend_fine P.out.2.1 (by omega) (by rw [← HM.out]; exact hx1)] at this
            clear hq
            go_wp2_with fail
            refine (hS.out _).mono ?_
            rintro r w4 ⟨rfl, hb4⟩
            have hG4 := HK.out.1.below hb4
            have KK : Hid (Kept n d b (x - d) e (s + 1) (k + 1)) := kept_spend P.out.2.1 HK.out.2 (by omega)
            clear c0 c1 c2 c3 f3 l1 l2 hb4 hc' HK
            obtain ⟨c0, c1, c2, c3, f3, l1, l2⟩ := hG4.cells
            have HG4 : Hid (Gh _ _ _ _ _ _ _ _) := hG4
            clear hG4
            go_wp2
            go_roundw
            case rel => exact ⟨k + 1, e, s + 1, x - d, by simp, rfl, by simp, hlt, hlt2, KK.out, (HG4.out.set (x - d)).alloc _⟩
            case measure => simp [intOf]; omega
        · rw [hq] at hc'
          have hS : Hid (∀ W, Calls Try.prog 13 #[budV n d b, bktV x] W fun r w' => r = .returned (.tuple #[bktV (min (x + n) m), .int .i64 0]) ∧ Below W.heap.size W w') := by
            refine fun (W : World) => ?_
            have := earn_any n d b x W
            rwa [earn_fine P.out.2.1 hx0 (by rw [← HM.out]; exact hx1), ← HM.out] at this
          have hKe := kept_earn P.out.2.1 HK.out.2
          rw [← HM.out] at hKe
          obtain ⟨hKe, hge⟩ := hKe
          have hge' : ¬ min (x + (n : Int)) m < x := by omega
          have KK : Hid (Kept n d b (min (x + n) m) (e + 1) s (k + 1)) := hKe
          clear hq hKe hge
          generalize min (x + (n : Int)) m = y at *
          go_wp2_with fail
          refine (hS.out _).mono ?_
          rintro r w4 ⟨rfl, hb4⟩
          have hG4 := HK.out.1.below hb4
          clear c0 c1 c2 c3 f3 l1 l2 hb4 hc' HK
          obtain ⟨c0, c1, c2, c3, f3, l1, l2⟩ := hG4.cells
          have HG4 : Hid (Gh _ _ _ _ _ _ _ _) := hG4
          clear hG4
          go_wp2
          go_roundw
          case rel => exact ⟨k + 1, e + 1, s, y, by simp, by simp, rfl, hlt, hlt2, KK.out, (HG4.out.set y).alloc _⟩
          case measure => simp [intOf]; omega
      · have hnk : ¬ ((k : Int) < 200) := by omega
        have q0 : 0 ≤ (s : Int) * d := Int.mul_nonneg (by omega) (by omega)
        have q1 : (s : Int) * d ≤ 200 * 20 := Int.mul_le_mul (by omega) (by omega) (by omega) (by omega)
        have q2 : 0 ≤ (e : Int) * n := Int.mul_nonneg (by omega) (by omega)
        have q3 : (e : Int) * n ≤ 200 * 20 := Int.mul_le_mul (by omega) (by omega) (by omega) (by omega)
        have q4 := HK.out.2.2.1
        have q5 := HK.out.2.2.2.1
        rw [← HM.out] at q4 q5
        have q6 : (b : Int) * d = m := HM.out.symm
        obtain ⟨sd, hsd⟩ : ∃ sd, sd = (s : Int) * d := ⟨_, rfl⟩
        obtain ⟨en, hen⟩ : ∃ en, en = (e : Int) * n := ⟨_, rfl⟩
        rw [← hsd] at q0 q1 q4
        rw [← hen] at q2 q3 q4
        have q7 : (s : Int) * d = sd := hsd.symm
        have q8 : (e : Int) * n = en := hen.symm
        have q9 : sd ≤ m + en := by omega
        clear hsd hen q4
        have HB : Hid _ := HK.out.1.2.2.2
        clear HK
        by_cases hes : e + s = 0
        · obtain rfl : x = m := q5 hes
          have hes' : ¬ ((0 : Int) < (e : Int) + (s : Int)) := by omega
          have hbl : (0 : Int) ≤ (b : Int) + (l.length : Int) := by omega
          have hbl2 : (b : Int) + (l.length : Int) ≤ 200000000000000 := by omega
          clear q5 hes
          go_wp2
          go_ret
          exact ⟨rfl, HB.out⟩
        · have hes' : (0 : Int) < (e : Int) + (s : Int) := by omega
          clear q5 hes
          go_wp2
          go_ret
          exact ⟨rfl, HB.out⟩
    · have hnk : ¬ ((k : Int) < (l.length : Int)) := by omega
      have q0 : 0 ≤ (s : Int) * d := Int.mul_nonneg (by omega) (by omega)
      have q1 : (s : Int) * d ≤ 200 * 20 := Int.mul_le_mul (by omega) (by omega) (by omega) (by omega)
      have q2 : 0 ≤ (e : Int) * n := Int.mul_nonneg (by omega) (by omega)
      have q3 : (e : Int) * n ≤ 200 * 20 := Int.mul_le_mul (by omega) (by omega) (by omega) (by omega)
      have q4 := HK.out.2.2.1
      have q5 := HK.out.2.2.2.1
      rw [← HM.out] at q4 q5
      have q6 : (b : Int) * d = m := HM.out.symm
      obtain ⟨sd, hsd⟩ : ∃ sd, sd = (s : Int) * d := ⟨_, rfl⟩
      obtain ⟨en, hen⟩ : ∃ en, en = (e : Int) * n := ⟨_, rfl⟩
      rw [← hsd] at q0 q1 q4
      rw [← hen] at q2 q3 q4
      have q7 : (s : Int) * d = sd := hsd.symm
      have q8 : (e : Int) * n = en := hen.symm
      have q9 : sd ≤ m + en := by omega
      clear hsd hen q4
      have HB : Hid _ := HK.out.1.2.2.2
      clear HK
      by_cases hes : e + s = 0
      · obtain rfl : x = m := q5 hes
        have hes' : ¬ ((0 : Int) < (e : Int) + (s : Int)) := by omega
        have hbl : (0 : Int) ≤ (b : Int) + (l.length : Int) := by omega
        have hbl2 : (b : Int) + (l.length : Int) ≤ 200000000000000 := by omega
        clear q5 hes
        go_wp2
        go_ret
        exact ⟨rfl, HB.out⟩
      · have hes' : (0 : Int) < (e : Int) + (s : Int) := by omega
        clear q5 hes
        go_wp2
        go_ret
        exact ⟨rfl, HB.out⟩
end Go.Proofs.Ytleeoncaiiilgaa.Walks
