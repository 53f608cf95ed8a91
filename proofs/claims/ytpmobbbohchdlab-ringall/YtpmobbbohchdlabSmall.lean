/-
  Small functions of the ring: isBackend, isWeight, has, slices.Equal. Conditions: what is read can be read; twelve weights.
-/
import Derived.Test.YtpmobbbohchdlabSpots
import Derived.WalkKit
import Derived.ProofKit
import Derived.Handy
import Derived.LoopTactic
import Derived.Below
import Derived.Laws.BitsAllLaws
import Derived.RegionTactic
import Derived.Deep.RegionHeld3
import Derived.Deep.DrawnRows
import Derived.Deep.AppendLies
import Derived.Laws.OwnMore
import Derived.Deep.Onto
import Derived.Deep.QuietTactic
import Derived.BigQuiet
namespace Go.Proofs.Ytpmobbbohchdlab.Walks
open Go.RowKit
set_option linter.unusedVariables false
set_option linter.unusedSimpArgs false
attribute [local go_sem ↓] Go.wp_at_zero Go.wp_at_succ

set_option maxHeartbeats 1000000 in
theorem isBackend_any (n : Int) (w : World) : Calls Try.prog 19 #[.int .i64 n] w fun r w' => r = .returned (.bool (decide (0 ≤ n ∧ n < 12))) ∧ w' = w := by
  obtain ⟨ans, hans⟩ : ∃ ans, ans = decide (0 ≤ n ∧ n < 12) := ⟨_, rfl⟩
  rw [← hans]
  have H : Hid _ := hans
  clear hans
  cases h1 : decide (0 ≤ n)
  · go_enter Try.func19, Try.ntmps19
    go_wp2
    go_ret
    exact ⟨by rw [H.out, decide_eq_false (fun h => of_decide_eq_false h1 h.1)]; rfl, rfl⟩
  · cases h2 : decide (n < 12)
    · go_enter Try.func19, Try.ntmps19
      go_wp2
      go_ret
      exact ⟨by rw [H.out, decide_eq_false (fun h => of_decide_eq_false h2 h.2)]; rfl, rfl⟩
    · go_enter Try.func19, Try.ntmps19
      go_wp2
      go_ret
      exact ⟨by rw [H.out, decide_eq_true ⟨of_decide_eq_true h1, of_decide_eq_true h2⟩]; rfl, rfl⟩

set_option maxHeartbeats 1000000 in
theorem isWeight_any (n : Int) (w : World) : Calls Try.prog 20 #[.int .i64 n] w fun r w' => r = .returned (.bool (decide (1 ≤ n ∧ n ≤ 8))) ∧ w' = w := by
  obtain ⟨ans, hans⟩ : ∃ ans, ans = decide (1 ≤ n ∧ n ≤ 8) := ⟨_, rfl⟩
  rw [← hans]
  have H : Hid _ := hans
  clear hans
  cases h1 : decide (1 ≤ n)
  · go_enter Try.func20, Try.ntmps20
    go_wp2
    go_ret
    exact ⟨by rw [H.out, decide_eq_false (fun h => of_decide_eq_false h1 h.1)]; rfl, rfl⟩
  · cases h2 : decide (n ≤ 8)
    · go_enter Try.func20, Try.ntmps20
      go_wp2
      go_ret
      exact ⟨by rw [H.out, decide_eq_false (fun h => of_decide_eq_false h2 h.2)]; rfl, rfl⟩
    · go_enter Try.func20, Try.ntmps20
      go_wp2
      go_ret
      exact ⟨by rw [H.out, decide_eq_true ⟨of_decide_eq_true h1, of_decide_eq_true h2⟩]; rfl, rfl⟩

set_option maxHeartbeats 1000000 in
theorem has_any (a : List Int) (n : Int) (w : World) (hlen : a.length = 12) :
    Calls Try.prog 18 #[.agg (icells a).toArray, .int .i64 n] w fun r w' => r = .returned (.bool (decide (0 ≤ n ∧ n < 12 ∧ 0 < a.getD n.toNat 0))) ∧ Below w.heap.size w w' := by
  by_cases hn : 0 ≤ n ∧ n < 12
  · obtain ⟨k, rfl⟩ := Int.eq_ofNat_of_zero_le hn.1
    have hk : k < 12 := by omega
    have hd : decide (0 ≤ (k : Int) ∧ (k : Int) < 12) = true := decide_eq_true hn
    obtain ⟨x, hx⟩ : ∃ x, x = a.getD k 0 := ⟨_, rfl⟩
    have hA := Arr.new w 49 a
    have hc : (w.alloc (.cells (icells a).toArray 49)).cell? ⟨w.heap.size, k, none⟩ = some (.int .i64 x) := by
      rw [hA.cell k (by omega), hx, List.getD_eq_getElem?_getD, List.getElem?_eq_getElem (by omega)]
      rfl
    have hans : decide (0 ≤ (k : Int) ∧ (k : Int) < 12 ∧ 0 < a.getD (k : Int).toNat 0) = decide (0 < x) := by
      rw [Int.toNat_natCast, ← hx]
      exact decide_eq_decide.2 ⟨fun h => h.2.2, fun h => ⟨by omega, by omega, h⟩⟩
    rw [hans]
    have hb0 : Below w.heap.size w (w.alloc (.cells (icells a).toArray 49)) := (Below.refl _ _).alloc (Nat.le_refl _) _
    have HB : Hid _ := hb0
    have HD : Hid _ := hd
    clear hb0 hans hx hA hd
    go_enter Try.func18, Try.ntmps18
    go_wp2_with fail
    refine (isBackend_any _ _).mono ?_
    rw [HD.out]
    rintro r w1 ⟨rfl, hw1⟩
    rw [← hw1] at hc
    have HW : Hid _ := hw1
    clear hw1
    go_wp2
    go_ret
    exact ⟨rfl, by rw [HW.out]; exact HB.out⟩
  · have hd : decide (0 ≤ n ∧ n < 12) = false := decide_eq_false hn
    have hans : decide (0 ≤ n ∧ n < 12 ∧ 0 < a.getD n.toNat 0) = false := decide_eq_false fun h => hn ⟨h.1, h.2.1⟩
    rw [hans]
    have HD : Hid _ := hd
    clear hans hd
    go_enter Try.func18, Try.ntmps18
    go_wp2_with fail
    refine (isBackend_any _ _).mono ?_
    rw [HD.out]
    rintro r w1 ⟨rfl, rfl⟩
    go_wp2
    go_ret
    exact ⟨rfl, (Below.refl _ _).alloc (Nat.le_refl _) _⟩

set_option maxHeartbeats 1000000 in
theorem equal_any (u v : Value) (l m : List Tm) (w : World) (hu : TmAt w u l) (hv : TmAt w v m) :
    Calls Try.prog 26 #[u, v] w fun r w' => r = .returned (.bool (decide (l = m))) ∧ ∃ q, w' = w.drewN q := by
  obtain ⟨a, ca, rfl, hca, hma, pa⟩ := hu.parts
  obtain ⟨b, cb, rfl, hcb, hmb, pb⟩ := hv.parts
  unfold maxLen at hma hmb
  by_cases hlen : l.length = m.length
  · have HL : Hid (l.length = m.length) := hlen
    rw [← hlen] at hcb ⊢
    clear hlen
    go_enter Try.func26, Try.ntmps26
    go_wp2
    go_loopw [13] (fun i wr => ∃ k : Nat, i = .int .i64 k ∧ k ≤ l.length ∧ (∀ j, j < k → l[j]? = m[j]?) ∧ ∃ q, wr = w.drewN q) (fun i _ => l.length - (intOf i).toNat)
    case atStart => exact ⟨0, rfl, Nat.zero_le _, fun j hj => absurd hj (Nat.not_lt_zero _), 0, rfl⟩
    case round =>
      obtain ⟨k, rfl, hk, hall, q, rfl⟩ := hrel
      have HA : Hid _ := hall
      clear hall
      by_cases hlt : k < l.length
      · obtain ⟨b1, o1, rfl, hb1, c1, d1⟩ := pa k hlt
        obtain ⟨b2, o2, rfl, hb2, c2, d2⟩ := pb k (by rw [← HL.out]; exact hlt)
        clear hb1 hb2 pa pb
        obtain ⟨x1, hx1⟩ : ∃ x, x = l[k].1 := ⟨_, rfl⟩
        obtain ⟨y1, hy1⟩ : ∃ x, x = l[k].2 := ⟨_, rfl⟩
        obtain ⟨x2, hx2⟩ : ∃ x, x = (m[k]'(by rw [← HL.out]; exact hlt)).1 := ⟨_, rfl⟩
        obtain ⟨y2, hy2⟩ : ∃ x, x = (m[k]'(by rw [← HL.out]; exact hlt)).2 := ⟨_, rfl⟩
        rw [← hx1] at c1
        rw [← hy1] at d1
        rw [← hx2] at c2
        rw [← hy2] at d2
        have HX : Hid (_ ∧ _ ∧ _ ∧ _) := ⟨hx1, hy1, hx2, hy2⟩
        clear hx1 hy1 hx2 hy2
        rcases unlike_pair x1 y1 x2 y2 with ⟨rfl, rfl⟩ | hne
        · go_wp2
          go_region
          go_wp2
          go_roundw
          case rel =>
            refine ⟨k + 1, by simp, hlt, fun j hj => ?_, q + 1, rfl⟩
            rcases Nat.lt_succ_iff_lt_or_eq.1 hj with h | rfl
            · exact HA.out j h
            · rw [List.getElem?_eq_getElem hlt, List.getElem?_eq_getElem (by rw [← HL.out]; exact hlt)]
              obtain ⟨h1, h2, h3, h4⟩ := HX.out
              exact congrArg some (Prod.ext (h1.symm.trans h3) (h2.symm.trans h4))
          case measure => simp [intOf]; omega
        · have HN : Hid (decide (l = m) = false) := by
            refine decide_eq_false fun h => ?_
            subst h
            obtain ⟨h1, h2, h3, h4⟩ := HX.out
            rcases hne with hne | ⟨_, hne⟩
            · rw [h1, ← h3] at hne; simp at hne
            · rw [h2, ← h4] at hne; simp at hne
          rcases hne with hne | ⟨rfl, hne⟩
          all_goals
            go_wp2
            go_region
            go_wp2
            go_ret
            exact ⟨by rw [HN.out]; rfl, q + 1, rfl⟩
      · have HE : Hid (decide (l = m) = true) := by
          refine decide_eq_true (List.ext_getElem? fun j => ?_)
          rcases Nat.lt_or_ge j k with h | h
          · exact HA.out j h
          · rw [List.getElem?_eq_none (by omega), List.getElem?_eq_none (by rw [← HL.out]; omega)]
        clear pa pb
        go_wp2
        go_ret
        exact ⟨by rw [HE.out]; rfl, q, rfl⟩
  · have HN : Hid (decide (l = m) = false) := decide_eq_false fun h => hlen (by rw [h])
    clear pa pb
    have hne : ((l.length : Int) != (m.length : Int)) = true := by simp [bne_iff_ne]; omega
    go_enter Try.func26, Try.ntmps26
    go_wp2
    go_ret
    exact ⟨by rw [HN.out]; rfl, 0, rfl⟩
end Go.Proofs.Ytpmobbbohchdlab.Walks
