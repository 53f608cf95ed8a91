/-
  sameOutputs, sameInts, outputs. Condition: what is read can be read.
-/
import Derived.Test.YthfadekfobceaaaSto
import Derived.Test.YthfadekfobceaaaArr
import Derived.WalkKit
import Derived.ProofKit
import Derived.Handy
import Derived.LoopTactic
import Derived.Below
import Derived.Laws.BitsAllLaws
import Derived.RegionTactic
import Derived.Deep.RegionHeld3
import Derived.Deep.DrawnRows
import Derived.Deep.AppendLies
import Derived.Laws.OwnMore
import Derived.Deep.Onto
import Derived.Deep.QuietTactic
import Derived.BigQuiet
namespace Go.Proofs.Ythfadekfobceaaa.Walks
open Go.RowKit
set_option linter.unusedVariables false
set_option linter.unusedSimpArgs false
attribute [local go_sem ↓] Go.wp_at_zero Go.wp_at_succ

/-- A slice of integers that can be read. -/
def InAt (w : World) (v : Value) (l : List Int) : Prop := RowAt w v l.length (icells l)

theorem InAt.below {w w' : World} {v : Value} {l : List Int} (h : InAt w v l) (hb : Below w.heap.size w w') : InAt w' v l := RowAt.below h hb

theorem inAt_nil (w : World) : InAt w (.slice none 0 0) [] := rowAt_nil w

theorem InAt.parts {w : World} {v : Value} {l : List Int} (h : InAt w v l) :
    ∃ a cap, v = .slice a l.length cap ∧ l.length ≤ cap ∧ cap ≤ maxLen ∧ ∀ i (hi : i < l.length), ∃ b off, a = some ⟨b, off, none⟩ ∧ b < w.heap.size ∧ w.cell? ⟨b, off + i, none⟩ = some (.int .i64 l[i]) := by
  obtain ⟨a, cap, hv, hc, hm, h1 | ⟨b, off, h1, h2, h3⟩⟩ := h
  · exact ⟨a, cap, hv, hc, hm, fun i hi => absurd hi (by omega)⟩
  · refine ⟨a, cap, hv, hc, hm, fun i hi => ⟨b, off, h1, h2, ?_⟩⟩
    rw [h3 i (by rw [icells_len]; exact hi)]
    simp [icells, hi]

theorem Arr.inAt {w : World} {g : Nat} {l : List Int} {n : Nat} (h : Arr 3 n w g l) (hm : n ≤ maxLen) : InAt w (.slice (some ⟨g, 0, none⟩) n n) l := by
  obtain ⟨h1, rfl⟩ := h
  refine ⟨_, l.length, rfl, Nat.le_refl _, hm, .inr ⟨g, 0, rfl, (Array.getElem?_eq_some_iff.1 h1).1, fun i hi => ?_⟩⟩
  rw [Nat.zero_add, cell_of_row w g i _ 3 (0, 0) h1]
  simp

set_option maxHeartbeats 2000000 in
theorem sameInts_any (u v : Value) (l : List Int) (w : World) (hu : InAt w u l) (hv : InAt w v l) :
    Calls Try.prog 21 #[u, v] w fun r w' => r = .returned (.bool true) ∧ Below w.heap.size w w' := by
  obtain ⟨a, ca, rfl, hca, hma, pa⟩ := InAt.parts hu
  obtain ⟨b, cb, rfl, hcb, hmb, pb⟩ := InAt.parts hv
  unfold maxLen at hma hmb
  clear hu hv
  go_enter Try.func21, Try.ntmps21
  go_wp2
  go_loopw [5] (fun i wr => ∃ k q : Nat, i = .int .i64 k ∧ k ≤ l.length ∧ wr = w.drewN q) (fun i _ => l.length - (intOf i).toNat)
  case atStart => exact ⟨0, 0, rfl, Nat.zero_le _, rfl⟩
  case round =>
    obtain ⟨k, q, rfl, hk, rfl⟩ := hrel
    by_cases hlt : k < l.length
    · obtain ⟨b1, o1, rfl, hb1, c1⟩ := pa k hlt
      obtain ⟨b2, o2, rfl, hb2, c2⟩ := pb k hlt
      generalize l[k] = x at c1 c2
      clear hb1 hb2 pa pb
      have hkd : decide ((k : Int) < (l.length : Int)) = true := decide_eq_true (by omega)
      go_wp2
      go_region
      go_wp2
      go_roundw
      case rel => exact ⟨k + 1, q + 1, by simp, hlt, rfl⟩
      case measure => simp [intOf]; omega
    · obtain rfl : k = l.length := by omega
      clear pa pb
      go_wp2
      go_ret
      exact ⟨rfl, below_drewN (Below.refl _ _) q⟩

set_option maxHeartbeats 4000000 in
set_option maxRecDepth 100000 in
theorem sameOutputs_any (u v : Value) (l : List Ou) (w : World) (hu : OsAt w u l) (hv : OsAt w v l) :
    Calls Try.prog 14 #[u, v] w fun r w' => r = .returned (.bool true) ∧ Below w.heap.size w w' := by
  obtain ⟨a, ca, rfl, hca, hma, pa⟩ := OsAt.parts hu
  obtain ⟨b, cb, rfl, hcb, hmb, pb⟩ := OsAt.parts hv
  unfold maxLen at hma hmb
  clear hu hv
  go_enter Try.func14, Try.ntmps14
  go_wp2
  go_loopw [5] (fun i wr => ∃ k q : Nat, i = .int .i64 k ∧ k ≤ l.length ∧ wr = w.drewN q) (fun i _ => l.length - (intOf i).toNat)
  case atStart => exact ⟨0, 0, rfl, Nat.zero_le _, rfl⟩
  case round =>
    obtain ⟨k, q, rfl, hk, rfl⟩ := hrel
    by_cases hlt : k < l.length
    · obtain ⟨b1, o1, rfl, hb1, c1, c2, c3, c4, c5, c6, c7⟩ := pa k hlt
      obtain ⟨b2, o2, rfl, hb2, d1, d2, d3, d4, d5, d6, d7⟩ := pb k hlt
      obtain ⟨x, hx⟩ : ∃ x, x = l[k] := ⟨_, rfl⟩
      rw [← hx] at c1 c2 c3 c4 c5 c6 c7 d1 d2 d3 d4 d5 d6 d7
      clear hb1 hb2 pa pb hx
      have hkI : (k : Int) < (l.length : Int) := by omega
      have hkd : decide ((k : Int) < (l.length : Int)) = true := decide_eq_true hkI
      go_wp2
      go_region
      go_wp2
      go_roundw
      case rel => exact ⟨k + 1, q + 1, by simp, hlt, rfl⟩
      case measure => simp [intOf]; omega
    · obtain rfl : k = l.length := by omega
      clear pa pb
      go_wp2
      go_ret
      exact ⟨rfl, below_drewN (Below.refl _ _) q⟩

set_option maxHeartbeats 2000000 in
theorem outputs_any (v : Value) (l : List Ou) (w : World) (hv : OsAt w v l) (hl : l.length * 56 ≤ 140737488355328) :
    Calls Try.prog 11 #[v] w fun r w' => ∃ p c, r = .returned (.slice p l.length c) ∧ OsAt w' (.slice p l.length c) l ∧ Below w.heap.size w w' := by
  obtain ⟨pa, ca, rfl, hca, hma⟩ := RvAt.form hv
  obtain ⟨p, c', w', hr, ho, hb⟩ := append_copyV ou7 ou1 (by decide) Try.underlying22 infoOu rfl w 22 _ l hv hl (by unfold maxLen; omega)
  have HR : Hid (_ ∧ _ ∧ _) := ⟨hr, ho, hb⟩
  clear hr ho hb hv
  go_enter Try.func11, Try.ntmps11
  go_wp2_with (at_builtin; (with_reducible refine wpList_append_eq rfl _ _ 22 rfl (.slice none 0 0) (.slice pa l.length ca) (.slice p l.length c') w' ?hs ?hx ?hr ?_); (case hs => rfl); (case hx => rfl); (case hr => exact HR.out.1))
  go_ret
  exact ⟨p, c', rfl, rvAt_own HR.out.2.1, HR.out.2.2⟩
end Go.Proofs.Ythfadekfobceaaa.Walks
