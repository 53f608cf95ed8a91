/-
  Numbers picked; In; the bounds of an argument. No condition.
-/
import Derived.Test.YtafhdlnhlemdgaaRows
import Derived.Test.YtafhdlnhlemdgaaChecked
import Derived.WalkKit
import Derived.ProofKit
import Derived.Handy
import Derived.LoopTactic
import Derived.Below
import Derived.Laws.BitsAllLaws
import Derived.RegionTactic
import Derived.Deep.RegionHeld3
import Derived.Deep.DrawnRows
import Derived.Deep.AppendLies
import Derived.Laws.OwnMore
import Derived.Deep.Onto
import Derived.Deep.QuietTactic
import Derived.BigQuiet
namespace Go.Proofs.Ytafhdlnhlemdgaa.Walks
open Go.RowKit
set_option linter.unusedVariables false
set_option linter.unusedSimpArgs false
attribute [local go_sem ↓] Go.wp_at_zero Go.wp_at_succ

set_option maxHeartbeats 1000000 in
theorem in_any (n lo hi : Int) (w : World) : Calls Try.prog 14 #[.int .i64 n, .int .i64 lo, .int .i64 hi] w fun r w' => r = .returned (.bool (decide (lo ≤ n ∧ n ≤ hi))) ∧ w' = w := by
  obtain ⟨ans, hans⟩ : ∃ ans, ans = decide (lo ≤ n ∧ n ≤ hi) := ⟨_, rfl⟩
  rw [← hans]
  have H : Hid _ := hans
  clear hans
  cases h1 : decide (lo ≤ n)
  · go_enter Try.func14, Try.ntmps14
    go_wp2
    go_ret
    exact ⟨by rw [H.out, decide_eq_false (fun h => of_decide_eq_false h1 h.1)]; rfl, rfl⟩
  · cases h2 : decide (n ≤ hi)
    · go_enter Try.func14, Try.ntmps14
      go_wp2
      go_ret
      exact ⟨by rw [H.out, decide_eq_false (fun h => of_decide_eq_false h2 h.2)]; rfl, rfl⟩
    · go_enter Try.func14, Try.ntmps14
      go_wp2
      go_ret
      exact ⟨by rw [H.out, decide_eq_true ⟨of_decide_eq_true h1, of_decide_eq_true h2⟩]; rfl, rfl⟩

def pick (n : Int) (many : Nat) : Nat := (if n < 0 then (-(n + 1)).toNat else n.toNat) % many

theorem pick_lt (n : Int) (many : Nat) (h : 0 < many) : pick n many < many := Nat.mod_lt _ h

theorem pick_neg (n many : Int) (h : n < 0) (h2 : 0 < many) : -(n + 1).tmod many = ((pick n many.toNat : Nat) : Int) := by
  obtain ⟨m, rfl⟩ := Int.eq_ofNat_of_zero_le (Int.le_of_lt h2)
  obtain ⟨k, hk⟩ := Int.eq_ofNat_of_zero_le (a := -(n + 1)) (by omega)
  unfold pick
  rw [if_pos h, ← Int.neg_tmod, hk, Int.toNat_natCast, Int.toNat_natCast, Int.natCast_emod]
  rfl

theorem pick_pos (n many : Int) (h : 0 ≤ n) (h2 : 0 < many) : n % many = ((pick n many.toNat : Nat) : Int) := by
  obtain ⟨m, rfl⟩ := Int.eq_ofNat_of_zero_le (Int.le_of_lt h2)
  obtain ⟨k, rfl⟩ := Int.eq_ofNat_of_zero_le h
  unfold pick
  rw [if_neg (by omega), Int.toNat_natCast, Int.toNat_natCast, Int.natCast_emod]

theorem ret_int {k : IntKind} {a b : Int} (h : a = b) : Ending.returned (.int k a) = .returned (.int k b) := by rw [h]

set_option maxHeartbeats 400000 in
theorem picked_any (n many : Int) (w : World) (h0 : -9223372036854775808 ≤ n) (h1 : n ≤ 9223372036854775807) (h2 : 0 < many) (h3 : many ≤ 9223372036854775807) : Calls Try.prog 12 #[.int .i64 n, .int .i64 many] w fun e w' => e = .returned (.int .i64 ((pick n many.toNat : Nat) : Int)) ∧ w' = w := by
  by_cases h : n < 0
  · go_enter Try.func12, Try.ntmps12
    go_wp2
    go_ret
    exact ⟨ret_int (pick_neg n many h h2), rfl⟩
  · have h' : 0 ≤ n := by omega
    clear h
    go_enter Try.func12, Try.ntmps12
    go_wp2
    go_ret
    exact ⟨ret_int (pick_pos n many h' h2), rfl⟩

theorem wf_small {x : Int} (h1 : -1000000 ≤ x) (h2 : x ≤ 1000000) : (Lit.int .i64 x).wf = true := by
  have e1 : IntKind.i64.min = -9223372036854775808 := by decide
  have e2 : IntKind.i64.max = 9223372036854775807 := by decide
  simp only [Lit.wf, e1, e2, Bool.and_eq_true, decide_eq_true_eq]
  omega

theorem wf_bd {x : Int} (h : (Lit.int .i64 x).wf = true) : -9223372036854775808 ≤ x ∧ x ≤ 9223372036854775807 := by
  have e1 : IntKind.i64.min = -9223372036854775808 := by decide
  have e2 : IntKind.i64.max = 9223372036854775807 := by decide
  simp only [Lit.wf, e1, e2, Bool.and_eq_true, decide_eq_true_eq] at h
  exact h

/-- A number picked: some number below the bound, the same each time. -/
theorem picked_some (n : Int) (many : Nat) (hw : (Lit.int .i64 n).wf = true) (h : 0 < many) (h2 : many ≤ 9000000000000) : ∃ k : Nat, k < many ∧ ∀ W, Calls Try.prog 12 #[.int .i64 n, .int .i64 (many : Int)] W fun r w' => r = .returned (.int .i64 (k : Int)) ∧ w' = W := by
  refine ⟨pick n many, pick_lt _ _ h, fun W => ?_⟩
  have hb := wf_bd hw
  have := picked_any n many W hb.1 hb.2 (by omega) (by omega)
  rwa [Int.toNat_natCast] at this
end Go.Proofs.Ytafhdlnhlemdgaa.Walks
