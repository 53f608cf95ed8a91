/-
  Two rows of the same integers are the same. They can be read.
-/
import Derived.Test.YtjjlekohkoicbaaDoorArr
import Derived.WalkKit
import Derived.ProofKit
import Derived.Handy
import Derived.LoopTactic
import Derived.Below
import Derived.Laws.BitsAllLaws
import Derived.RegionTactic
import Derived.Deep.RegionHeld3
import Derived.Deep.DrawnRows
import Derived.Deep.AppendLies
import Derived.Laws.OwnMore
import Derived.Deep.Onto
import Derived.Deep.QuietTactic
import Derived.BigQuiet
namespace Go.Proofs.YtjjlekohkoicbaaDoor.Walks
open Go.RowKit
set_option linter.unusedVariables false
set_option linter.unusedSimpArgs false
attribute [local go_sem ↓] Go.wp_at_zero Go.wp_at_succ

theorem ints_at {w : World} {v : Value} {l : List Int} (h : RowAt w v l.length (icells l)) :
    ∃ a cap, v = .slice a l.length cap ∧ l.length ≤ cap ∧ cap ≤ maxLen ∧ ∀ i (hi : i < l.length), ∃ b off, a = some ⟨b, off, none⟩ ∧ b < w.heap.size ∧ w.cell? ⟨b, off + i, none⟩ = some (.int .i64 l[i]) := by
  obtain ⟨a, cap, hv, hc, hm, h1 | ⟨b, off, h1, h2, h3⟩⟩ := h
  · exact ⟨a, cap, hv, hc, hm, fun i hi => absurd hi (by omega)⟩
  · refine ⟨a, cap, hv, hc, hm, fun i hi => ⟨b, off, h1, h2, ?_⟩⟩
    rw [h3 i (by rw [icells_len]; exact hi)]
    simp [icells, hi]

set_option maxHeartbeats 1000000 in
theorem keepInts (u v : Value) (l : List Int) (w : World) (hu : RowAt w u l.length (icells l)) (hv : RowAt w v l.length (icells l)) :
    Calls Tryd.prog 19 #[u, v] w fun r w' => r = .returned (.bool true) ∧ ∃ q, w' = w.drewN q := by
  obtain ⟨a, ca, rfl, hca, hma, pa⟩ := ints_at hu
  obtain ⟨b, cb, rfl, hcb, hmb, pb⟩ := ints_at hv
  unfold maxLen at hma hmb
  clear hu hv
  go_enter Tryd.func19, Tryd.ntmps19
  go_wp2
  go_loopw [5] (fun i wr => ∃ k q : Nat, i = .int .i64 k ∧ k ≤ l.length ∧ wr = w.drewN q) (fun i _ => l.length - (intOf i).toNat)
  case atStart => exact ⟨0, 0, rfl, Nat.zero_le _, rfl⟩
  case round =>
    obtain ⟨k, q, rfl, hk, rfl⟩ := hrel
    by_cases hlt : k < l.length
    · obtain ⟨b1, o1, rfl, hb1, c1⟩ := pa k hlt
      obtain ⟨b2, o2, rfl, hb2, c2⟩ := pb k hlt
      generalize l[k] = x at c1 c2
      clear hb1 hb2 pa pb
      have hkd : decide ((k : Int) < (l.length : Int)) = true := decide_eq_true (by omega)
      go_wp2
      go_region
      go_wp2
      go_roundw
      case rel => exact ⟨k + 1, q + 1, by simp, hlt, rfl⟩
      case measure => simp [intOf]; omega
    · obtain rfl : k = l.length := by omega
      clear pa pb
      go_wp2
      go_ret
      exact ⟨rfl, q, rfl⟩
end Go.Proofs.YtjjlekohkoicbaaDoor.Walks
