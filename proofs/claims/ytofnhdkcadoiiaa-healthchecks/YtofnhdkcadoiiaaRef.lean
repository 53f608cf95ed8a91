/-
  The document's answers: WatchFault, healthFault, HoldOf, CameBack, MayGoOut. Condition: what is read can be read.
-/
import Derived.Test.YtofnhdkcadoiiaaBack
import Derived.WalkKit
import Derived.ProofKit
import Derived.Handy
import Derived.LoopTactic
import Derived.Below
import Derived.Laws.BitsAllLaws
import Derived.RegionTactic
import Derived.Deep.RegionHeld3
import Derived.Deep.DrawnRows
import Derived.Deep.AppendLies
import Derived.Laws.OwnMore
import Derived.Deep.Onto
import Derived.Deep.QuietTactic
import Derived.BigQuiet
namespace Go.Proofs.Ytofnhdkcadoiiaa.Walks
open Go.RowKit
set_option linter.unusedVariables false
set_option linter.unusedSimpArgs false
attribute [local go_sem ↓] Go.wp_at_zero Go.wp_at_succ

set_option maxHeartbeats 2000000 in
theorem watch_fault (n f d : Int) (w : World) : Calls Try.prog 10 #[watV n f d] w fun r w' => r = .returned (.int .i64 (watE n f d)) ∧ Below w.heap.size w w' := by
  obtain ⟨W0, hW0⟩ : ∃ W0, W0 = w.alloc (.cells #[.int .i64 n, .int .i64 f, .int .i64 d] 23) := ⟨_, rfl⟩
  have hB0 : W0.heap[w.heap.size]? = some (.cells #[.int .i64 n, .int .i64 f, .int .i64 d] 23 (0, 0)) := by rw [hW0]; exact heap_alloc_new _ _
  have hb0 : Below w.heap.size w W0 := by rw [hW0]; exact below_new _
  obtain ⟨c0, c1, c2, _⟩ := three_cells hB0
  have H : Hid (_ ∧ _) := ⟨hW0, hb0⟩
  clear hW0 hb0 hB0
  cases h1 : decide (1 ≤ n ∧ n ≤ 16)
  · have E : Hid (watE n f d = 2) := if_neg fun h => of_decide_eq_false h1 h.1
    go_enter Try.func10, Try.ntmps10
    go_wp2_with fail
    rw [← H.out.1]
    refine (in_any _ _ _ _).mono ?_
    rintro e w' ⟨rfl, rfl⟩
    rw [h1]
    go_wp2
    go_ret
    exact ⟨by rw [E.out]; rfl, H.out.2⟩
  cases h2 : decide (1 ≤ f ∧ f ≤ n)
  · have E : Hid (watE n f d = 2) := if_neg fun h => of_decide_eq_false h2 h.2.1
    go_enter Try.func10, Try.ntmps10
    go_wp2_with fail
    rw [← H.out.1]
    refine (in_any _ _ _ _).mono ?_
    rintro e w' ⟨rfl, rfl⟩
    rw [h1]
    go_wp2_with fail
    refine (in_any _ _ _ _).mono ?_
    rintro e w' ⟨rfl, rfl⟩
    rw [h2]
    go_wp2
    go_ret
    exact ⟨by rw [E.out]; rfl, H.out.2⟩
  cases h3 : decide (1 ≤ d ∧ d ≤ 500)
  · have E : Hid (watE n f d = 2) := if_neg fun h => of_decide_eq_false h3 h.2.2
    go_enter Try.func10, Try.ntmps10
    go_wp2_with fail
    rw [← H.out.1]
    refine (in_any _ _ _ _).mono ?_
    rintro e w' ⟨rfl, rfl⟩
    rw [h1]
    go_wp2_with fail
    refine (in_any _ _ _ _).mono ?_
    rintro e w' ⟨rfl, rfl⟩
    rw [h2]
    go_wp2_with fail
    refine (in_any _ _ _ _).mono ?_
    rintro e w' ⟨rfl, rfl⟩
    rw [h3]
    go_wp2
    go_ret
    exact ⟨by rw [E.out]; rfl, H.out.2⟩
  · have E : Hid (watE n f d = 0) := if_pos ⟨of_decide_eq_true h1, of_decide_eq_true h2, of_decide_eq_true h3⟩
    go_enter Try.func10, Try.ntmps10
    go_wp2_with fail
    rw [← H.out.1]
    refine (in_any _ _ _ _).mono ?_
    rintro e w' ⟨rfl, rfl⟩
    rw [h1]
    go_wp2_with fail
    refine (in_any _ _ _ _).mono ?_
    rintro e w' ⟨rfl, rfl⟩
    rw [h2]
    go_wp2_with fail
    refine (in_any _ _ _ _).mono ?_
    rintro e w' ⟨rfl, rfl⟩
    rw [h3]
    go_wp2
    go_ret
    exact ⟨by rw [E.out]; rfl, H.out.2⟩


set_option maxHeartbeats 4000000 in
theorem health_fault (n f d : Int) (p : Option Addr) (k c : Nat) (o : Bool) (u t now : Int) (w : World) (hk : k ≤ 140737488355328) : Calls Try.prog 28 #[watV n f d, hltV (.slice p k c) o u t, .int .i64 now] w fun r w' => r = .returned (.int .i64 (allE n f d k o u t now)) ∧ Below w.heap.size w w' := by
  obtain ⟨W0, hW0⟩ : ∃ W0, W0 = (w.alloc (.cells #[.int .i64 n, .int .i64 f, .int .i64 d] 23)).alloc (.cells #[.slice p k c, .bool o, .int .i64 u, .int .i64 t] 29) := ⟨_, rfl⟩
  have hX0 : Hx w W0 n f d (.slice p k c) o u t := by rw [hW0]; exact hx_new _ _ _ _ _ _ _ _
  obtain ⟨c0, c1, c2, c3, c4, c5, c6⟩ := hX0.cells
  have H : Hid (_ ∧ Hx _ _ _ _ _ _ _ _ _) := ⟨hW0, hX0⟩
  clear hW0 hX0
  go_enter Try.func28, Try.ntmps28
  go_wp2_with fail
  rw [← H.out.1]
  refine (watch_fault n f d _).mono ?_
  rintro r w1 ⟨rfl, hb1⟩
  have hX1 := H.out.2.below hb1
  clear c0 c1 c2 c3 c4 c5 c6 hb1 H
  obtain ⟨c0, c1, c2, c3, c4, c5, c6⟩ := hX1.cells
  have HX : Hid (Hx _ _ _ _ _ _ _ _ _) := hX1
  clear hX1
  by_cases hok : WatOk n f d
  · rw [wat_yes hok]
    have hn := hok.1.2
    cases h2 : decide (0 ≤ now ∧ now ≤ 1099511627776)
    · have E : Hid (allE n f d k o u t now = 2) := (by unfold allE; rw [if_pos hok, if_neg (of_decide_eq_false h2)] : allE n f d k o u t now = 2)
      clear hok
      go_wp2_with fail
      refine (in_any _ _ _ _).mono ?_
      rintro e w' ⟨rfl, rfl⟩
      rw [h2]
      go_wp2
      go_ret
      exact ⟨by rw [E.out]; rfl, HX.out.2.2⟩
    have E : Hid (allE n f d k o u t now = if HOk n k o u t then 0 else 6) := (by unfold allE; rw [if_pos hok, if_pos (of_decide_eq_true h2)] : allE n f d k o u t now = if HOk n k o u t then 0 else 6)
    clear hok
    by_cases e1 : n < (k : Int)
    · have EE : Hid (allE n f d k o u t now = 6) := (by rw [E.out, if_neg (fun h => by have := h.1; omega)] : allE n f d k o u t now = 6)
      go_wp2_with fail
      refine (in_any _ _ _ _).mono ?_
      rintro e w' ⟨rfl, rfl⟩
      rw [h2]
      go_wp2
      go_ret
      exact ⟨by rw [EE.out]; rfl, HX.out.2.2⟩
    cases e2 : decide (0 ≤ t ∧ t ≤ 10)
    · have EE : Hid (allE n f d k o u t now = 6) := (by rw [E.out, if_neg (fun h => of_decide_eq_false e2 h.2.1)] : allE n f d k o u t now = 6)
      go_wp2_with fail
      refine (in_any _ _ _ _).mono ?_
      rintro e w' ⟨rfl, rfl⟩
      rw [h2]
      go_wp2_with fail
      refine (in_any _ _ _ _).mono ?_
      rintro e w' ⟨rfl, rfl⟩
      rw [e2]
      go_wp2
      go_ret
      exact ⟨by rw [EE.out]; rfl, HX.out.2.2⟩
    cases e3 : decide (0 ≤ u ∧ u ≤ 1099511628276)
    · have EE : Hid (allE n f d k o u t now = 6) := (by rw [E.out, if_neg (fun h => of_decide_eq_false e3 h.2.2.1)] : allE n f d k o u t now = 6)
      go_wp2_with fail
      refine (in_any _ _ _ _).mono ?_
      rintro e w' ⟨rfl, rfl⟩
      rw [h2]
      go_wp2_with fail
      refine (in_any _ _ _ _).mono ?_
      rintro e w' ⟨rfl, rfl⟩
      rw [e2]
      go_wp2_with fail
      refine (in_any _ _ _ _).mono ?_
      rintro e w' ⟨rfl, rfl⟩
      rw [e3]
      go_wp2
      go_ret
      exact ⟨by rw [EE.out]; rfl, HX.out.2.2⟩
    have base : (k : Int) ≤ n ∧ (0 ≤ t ∧ t ≤ 10) ∧ (0 ≤ u ∧ u ≤ 1099511628276) := ⟨by omega, of_decide_eq_true e2, of_decide_eq_true e3⟩
    have BS : Hid _ := base
    clear base
    cases o
    · by_cases e4 : 0 < u
      · have EE : Hid (allE n f d k false u t now = 6) := (by rw [E.out, if_neg (fun h => by have := h.2.2.2.resolve_left (by decide); omega)] : allE n f d k false u t now = 6)
        go_wp2_with fail
        refine (in_any _ _ _ _).mono ?_
        rintro e w' ⟨rfl, rfl⟩
        rw [h2]
        go_wp2_with fail
        refine (in_any _ _ _ _).mono ?_
        rintro e w' ⟨rfl, rfl⟩
        rw [e2]
        go_wp2_with fail
        refine (in_any _ _ _ _).mono ?_
        rintro e w' ⟨rfl, rfl⟩
        rw [e3]
        go_wp2
        go_ret
        exact ⟨by rw [EE.out]; rfl, HX.out.2.2⟩
      · have EE : Hid (allE n f d k false u t now = 0) := (by rw [E.out, if_pos ⟨BS.out.1, BS.out.2.1, BS.out.2.2, .inr (by have := BS.out.2.2.1; omega)⟩] : allE n f d k false u t now = 0)
        go_wp2_with fail
        refine (in_any _ _ _ _).mono ?_
        rintro e w' ⟨rfl, rfl⟩
        rw [h2]
        go_wp2_with fail
        refine (in_any _ _ _ _).mono ?_
        rintro e w' ⟨rfl, rfl⟩
        rw [e2]
        go_wp2_with fail
        refine (in_any _ _ _ _).mono ?_
        rintro e w' ⟨rfl, rfl⟩
        rw [e3]
        go_wp2
        go_ret
        exact ⟨by rw [EE.out]; rfl, HX.out.2.2⟩
    · have EE : Hid (allE n f d k true u t now = 0) := (by rw [E.out, if_pos ⟨BS.out.1, BS.out.2.1, BS.out.2.2, .inl rfl⟩] : allE n f d k true u t now = 0)
      go_wp2_with fail
      refine (in_any _ _ _ _).mono ?_
      rintro e w' ⟨rfl, rfl⟩
      rw [h2]
      go_wp2_with fail
      refine (in_any _ _ _ _).mono ?_
      rintro e w' ⟨rfl, rfl⟩
      rw [e2]
      go_wp2_with fail
      refine (in_any _ _ _ _).mono ?_
      rintro e w' ⟨rfl, rfl⟩
      rw [e3]
      go_wp2
      go_ret
      exact ⟨by rw [EE.out]; rfl, HX.out.2.2⟩
  · rw [wat_no hok]
    have E : Hid (allE n f d k o u t now = 2) := if_neg hok
    clear hok
    go_wp2
    go_ret
    exact ⟨by rw [E.out]; rfl, HX.out.2.2⟩

theorem pow_step (d : Int) (k : Nat) : d * 2 ^ (k + 1) = 2 * (d * 2 ^ k) := by rw [Int.pow_succ, ← Int.mul_assoc, Int.mul_comm]

theorem pow_mono (d : Int) (hd : 1 ≤ d) (k j : Nat) : d * 2 ^ k ≤ d * 2 ^ (k + j) := by
  induction j with
  | zero => exact Int.le_refl _
  | succ j ih =>
    rw [← Nat.add_assoc, pow_step]
    have : 0 ≤ d * 2 ^ (k + j) := Int.mul_nonneg (by omega) (Int.pow_nonneg (by decide))
    omega

set_option maxHeartbeats 2000000 in
theorem holdOf_any (d t : Int) (w : World) (hd : 1 ≤ d ∧ d ≤ 500) (ht : 0 ≤ t ∧ t ≤ 10) :
    Calls Try.prog 29 #[.int .i64 d, .int .i64 t] w fun r w' => r = .returned (.int .i64 (holdV d t)) ∧ w' = w := by
  obtain ⟨m, rfl⟩ := Int.eq_ofNat_of_zero_le ht.1
  have hm : m ≤ 10 := by omega
  clear ht
  go_enter Try.func29, Try.ntmps29
  go_wp2
  go_loopw [0, 5] (fun s i wr => ∃ (k : Nat) (x : Int), i = .int .i64 k ∧ s = .int .i64 x ∧ x = d * 2 ^ k ∧ k ≤ m ∧ 1 ≤ x ∧ x ≤ 500 ∧ w = wr) (fun _ i _ => m - (intOf i).toNat)
  case atStart => exact ⟨0, d, rfl, rfl, by simp, Nat.zero_le _, hd.1, hd.2, rfl⟩
  case round =>
    obtain ⟨k, x, rfl, rfl, hx, hk, x0, x1, rfl⟩ := hrel
    by_cases hlt : k < m
    · have hkd : (k : Int) < (m : Int) := by omega
      have hx2 : 2 * x = d * 2 ^ (k + 1) := by rw [pow_step, ← hx]
      by_cases hbig : 500 < 2 * x
      · have E : Hid (holdV d (m : Int) = 500) := by
          have h1 := pow_mono d hd.1 (k + 1) (m - (k + 1))
          rw [show k + 1 + (m - (k + 1)) = m by omega, ← hx2] at h1
          have : holdV d (m : Int) = 500 := by unfold holdV; rw [Int.toNat_natCast]; omega
          exact this
        clear hx hx2
        go_wp2
        go_ret
        exact ⟨by rw [E.out]; rfl, rfl⟩
      · have X : Hid _ := hx2
        clear hx hx2
        go_wp2
        go_roundw
        case rel => exact ⟨k + 1, 2 * x, by simp, rfl, X.out, hlt, by omega, by omega, trivial⟩
        case measure => simp [intOf]; omega
    · obtain rfl : k = m := by omega
      have E : Hid (holdV d (k : Int) = x) := (by unfold holdV; rw [Int.toNat_natCast, ← hx]; omega : holdV d (k : Int) = x)
      clear hx
      go_wp2
      go_ret
      exact ⟨by rw [E.out]; rfl, rfl⟩

set_option maxHeartbeats 8000000 in
set_option maxRecDepth 100000 in
theorem cameBack_any (n f d : Int) (v : Value) (l : List Bool) (o : Bool) (u t : Int) (now : Int) (w : World) (hv : BsAt w v l) (hl : l.length ≤ 140737488355328) :
    Calls Try.prog 16 #[watV n f d, hltV v o u t, .int .i64 now] w (HPost w (backO n f d l o u t now)) := by
  obtain ⟨p, c, rfl⟩ := hv.form
  obtain ⟨W0, hW0⟩ : ∃ W0, W0 = ((w.alloc (.cells #[.int .i64 n, .int .i64 f, .int .i64 d] 23)).alloc (.cells #[.slice p l.length c, .bool o, .int .i64 u, .int .i64 t] 29)).alloc (.cells #[.slice none 0 0, .bool false, .int .i64 0, .int .i64 0] 29) := ⟨_, rfl⟩
  have hX0 : Hy w W0 n f d (.slice p l.length c) o u t (.slice none 0 0) false 0 0 := by rw [hW0]; exact hy_new _ _ _ _ _ _ _ _ _ _ _ _
  obtain ⟨c0, c1, c2, c3, c4, c5, c6, _⟩ := hX0.cells
  have H : Hid (_ ∧ Hy _ _ _ _ _ _ _ _ _ _ _ _ _ ∧ BsAt _ _ _) := ⟨hW0, hX0, hv⟩
  clear hW0 hX0 hv
  go_enter Try.func16, Try.ntmps16
  go_wp2_with fail
  rw [← H.out.1]
  refine (health_fault n f d p l.length c o u t now _ hl).mono ?_
  rintro r w1 ⟨rfl, hb1⟩
  have HX : Hid (Hy _ _ _ _ _ _ _ _ _ _ _ _ _ ∧ BsAt w _ _) := ⟨H.out.2.1.below hb1, H.out.2.2⟩
  clear c0 c1 c2 c3 c4 c5 c6 hb1 H
  obtain ⟨c0, c1, c2, c3, c4, c5, c6, f0, f1, f2, d0, d1, d2, d3, g0, g1, g2, g3⟩ := HX.out.1.cells
  rcases all_cases n f d l.length o u t now with ⟨hE, _⟩ | ⟨hE, _⟩ | ⟨hE, hok, hnow, hh⟩
  · have E : Hid (backO n f d l o u t now = (([], false, 0, 0), false, 2)) := (by unfold backO; rw [hE, if_neg (by decide)] : backO n f d l o u t now = (([], false, 0, 0), false, 2))
    rw [hE]
    clear hE
    go_wp2
    exact bodyPost_ret (v := .tuple #[hltV (.slice none 0 0) false 0 0, .bool false, .int .i64 2]) ((HX.out.1.set _ _ _ _).res Try.results16 rfl rfl rfl) rfl (hpost_nil E.out (HX.out.1.set _ _ _ _).bel)
  · have E : Hid (backO n f d l o u t now = (([], false, 0, 0), false, 6)) := (by unfold backO; rw [hE, if_neg (by decide)] : backO n f d l o u t now = (([], false, 0, 0), false, 6))
    rw [hE]
    clear hE
    go_wp2
    exact bodyPost_ret (v := .tuple #[hltV (.slice none 0 0) false 0 0, .bool false, .int .i64 6]) ((HX.out.1.set _ _ _ _).res Try.results16 rfl rfl rfl) rfl (hpost_nil E.out (HX.out.1.set _ _ _ _).bel)
  · have E : Hid (backO n f d l o u t now = if o = true ∧ u ≤ now then ((l, false, 0, t), true, 0) else ((l, o, u, t), false, 0)) := if_pos hE
    rw [hE]
    clear hE hok hh
    cases o
    case false =>
      have EE : Hid (backO n f d l false u t now = ((l, false, u, t), false, 0)) := (by rw [E.out, if_neg (fun h => by cases h.1)] : backO n f d l false u t now = ((l, false, u, t), false, 0))
      go_wp2
      exact bodyPost_ret (v := .tuple #[hltV (.slice p l.length c) false u t, .bool false, .int .i64 0]) ((HX.out.1.set _ _ _ _).res Try.results16 rfl rfl rfl) rfl (hpost_of EE.out rfl (HX.out.2.below (HX.out.1.set _ _ _ _).bel) (HX.out.1.set _ _ _ _).bel)
    case true =>
      by_cases hu : u ≤ now
      · have EE : Hid (backO n f d l true u t now = ((l, false, 0, t), true, 0)) := (by rw [E.out, if_pos ⟨rfl, hu⟩] : backO n f d l true u t now = ((l, false, 0, t), true, 0))
        go_wp2
        exact bodyPost_ret (v := .tuple #[hltV (.slice p l.length c) false 0 t, .bool true, .int .i64 0]) ((HX.out.1.set _ _ _ _).res Try.results16 rfl rfl rfl) rfl (hpost_of EE.out rfl (HX.out.2.below (HX.out.1.set _ _ _ _).bel) (HX.out.1.set _ _ _ _).bel)
      · have EE : Hid (backO n f d l true u t now = ((l, true, u, t), false, 0)) := (by rw [E.out, if_neg (fun h => hu h.2)] : backO n f d l true u t now = ((l, true, u, t), false, 0))
        go_wp2
        exact bodyPost_ret (v := .tuple #[hltV (.slice p l.length c) true u t, .bool false, .int .i64 0]) ((HX.out.1.set _ _ _ _).res Try.results16 rfl rfl rfl) rfl (hpost_of EE.out rfl (HX.out.2.below (HX.out.1.set _ _ _ _).bel) (HX.out.1.set _ _ _ _).bel)

set_option maxHeartbeats 4000000 in
theorem mayGoOut_any (out act per : Int) (w : World) : Calls Try.prog 18 #[.int .i64 out, .int .i64 act, .int .i64 per] w fun r w' => r = .returned (.tuple #[.bool (allowO out act per).1, .int .i64 (allowO out act per).2]) ∧ w' = w := by
  cases h1 : decide (0 ≤ act ∧ act ≤ 12)
  · have E : Hid (allowO out act per = (false, 2)) := if_neg fun h => of_decide_eq_false h1 h.1
    go_enter Try.func18, Try.ntmps18
    go_wp2_with fail
    refine (in_any _ _ _ _).mono ?_
    rintro e w' ⟨rfl, rfl⟩
    rw [h1]
    go_wp2
    go_ret2
    exact ⟨by rw [E.out]; rfl, rfl⟩
  cases h2 : decide (0 ≤ out ∧ out ≤ act)
  · have E : Hid (allowO out act per = (false, 2)) := if_neg fun h => of_decide_eq_false h2 h.2.1
    go_enter Try.func18, Try.ntmps18
    go_wp2_with fail
    refine (in_any _ _ _ _).mono ?_
    rintro e w' ⟨rfl, rfl⟩
    rw [h1]
    go_wp2_with fail
    refine (in_any _ _ _ _).mono ?_
    rintro e w' ⟨rfl, rfl⟩
    rw [h2]
    go_wp2
    go_ret2
    exact ⟨by rw [E.out]; rfl, rfl⟩
  cases h3 : decide (0 ≤ per ∧ per ≤ 100)
  · have E : Hid (allowO out act per = (false, 2)) := if_neg fun h => of_decide_eq_false h3 h.2.2
    go_enter Try.func18, Try.ntmps18
    go_wp2_with fail
    refine (in_any _ _ _ _).mono ?_
    rintro e w' ⟨rfl, rfl⟩
    rw [h1]
    go_wp2_with fail
    refine (in_any _ _ _ _).mono ?_
    rintro e w' ⟨rfl, rfl⟩
    rw [h2]
    go_wp2_with fail
    refine (in_any _ _ _ _).mono ?_
    rintro e w' ⟨rfl, rfl⟩
    rw [h3]
    go_wp2
    go_ret2
    exact ⟨by rw [E.out]; rfl, rfl⟩
  · have E : Hid (allowO out act per = (decide ((out + 1) * 100 ≤ per * act), 0)) := if_pos ⟨of_decide_eq_true h1, of_decide_eq_true h2, of_decide_eq_true h3⟩
    have b1 := of_decide_eq_true h1
    have b2 := of_decide_eq_true h2
    have b3 := of_decide_eq_true h3
    have m0 : 0 ≤ per * act := Int.mul_nonneg b3.1 b1.1
    have m1 : per * act ≤ 1200 := (Int.mul_le_mul b3.2 b1.2 b1.1 (by omega) : per * act ≤ 100 * 12)
    obtain ⟨a0, a1⟩ := b1
    obtain ⟨o0, o1⟩ := b2
    have o2 : out ≤ 12 := by omega
    have hd : decide (100 * out + 100 ≤ per * act) = decide ((out + 1) * 100 ≤ per * act) := decide_eq_decide.2 (by rw [Int.add_mul]; omega)
    have HD : Hid _ := hd
    clear b3 hd
    go_enter Try.func18, Try.ntmps18
    go_wp2_with fail
    refine (in_any _ _ _ _).mono ?_
    rintro e w' ⟨rfl, rfl⟩
    rw [h1]
    go_wp2_with fail
    refine (in_any _ _ _ _).mono ?_
    rintro e w' ⟨rfl, rfl⟩
    rw [h2]
    go_wp2_with fail
    refine (in_any _ _ _ _).mono ?_
    rintro e w' ⟨rfl, rfl⟩
    rw [h3]
    go_wp2
    go_ret2
    exact ⟨by rw [E.out, ← HD.out]; rfl, rfl⟩
end Go.Proofs.Ytofnhdkcadoiiaa.Walks
