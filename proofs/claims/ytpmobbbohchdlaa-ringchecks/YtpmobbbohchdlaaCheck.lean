/-
  What Check answers: whether a ring may be. Condition: the ring's spots can be read.
-/
import Derived.Test.YtpmobbbohchdlaaWeightsW
import Derived.WalkKit
import Derived.ProofKit
import Derived.Handy
import Derived.LoopTactic
import Derived.Below
import Derived.Laws.BitsAllLaws
import Derived.RegionTactic
import Derived.Deep.RegionHeld3
import Derived.Deep.DrawnRows
import Derived.Deep.AppendLies
import Derived.Laws.OwnMore
import Derived.Deep.Onto
import Derived.Deep.QuietTactic
import Derived.BigQuiet
namespace Go.Proofs.Ytpmobbbohchdlaa.Walks
open Go.RowKit
set_option linter.unusedVariables false
set_option linter.unusedSimpArgs false
attribute [local go_sem ↓] Go.wp_at_zero Go.wp_at_succ

/-- A fresh array, and then other numbers in it. -/
theorem fresh_arr (w : World) (a : List Int) (ha : a.length = 12) : (w.alloc (.cells #[.int .i64 0, .int .i64 0, .int .i64 0, .int .i64 0, .int .i64 0, .int .i64 0, .int .i64 0, .int .i64 0, .int .i64 0, .int .i64 0, .int .i64 0, .int .i64 0] 46)).there w.heap.size 0 12 ∧ Arr 46 12 ((w.alloc (.cells #[.int .i64 0, .int .i64 0, .int .i64 0, .int .i64 0, .int .i64 0, .int .i64 0, .int .i64 0, .int .i64 0, .int .i64 0, .int .i64 0, .int .i64 0, .int .i64 0] 46)).setCells w.heap.size 0 (icells a)) w.heap.size a ∧ Below w.heap.size w ((w.alloc (.cells #[.int .i64 0, .int .i64 0, .int .i64 0, .int .i64 0, .int .i64 0, .int .i64 0, .int .i64 0, .int .i64 0, .int .i64 0, .int .i64 0, .int .i64 0, .int .i64 0] 46)).setCells w.heap.size 0 (icells a)) := by
  rw [zeros12]
  have h : Arr 46 12 (w.alloc (.cells (icells (List.replicate 12 0)).toArray 46)) w.heap.size (List.replicate 12 0) := Arr.new w _ _
  have hb : Below w.heap.size w (w.alloc (.cells (icells (List.replicate 12 0)).toArray 46)) := (Below.refl _ _).alloc (Nat.le_refl _) _
  exact ⟨h.there, (h.store (P := Try.prog) (b := a) ha infoW).2, below_setCells hb (Nat.le_refl _) _ _ hb.size⟩

set_option maxHeartbeats 4000000 in
set_option maxRecDepth 100000 in
theorem check_any (v : Value) (l : List Tm) (w : World) (hv : TmAt w v l) :
    Calls Try.prog 9 #[.agg #[v]] w fun r w' => ∃ e : Int, r = .returned (.int .i64 e) ∧ (RingOk l → e = 0) ∧ (¬ RingOk l → e = 6) ∧ Below w.heap.size w w' := by
  obtain ⟨p, c, rfl, _⟩ := hv.parts
  have HV : Hid _ := hv
  clear hv
  go_enter Try.func9, Try.ntmps9
  go_wp2_with fail
  have hb0 : Below w.heap.size w (w.alloc (.cells #[.slice p l.length c] 24)) := (Below.refl _ _).alloc (Nat.le_refl _) _
  refine (weightsOf_any _ l _ (HV.out.below hb0)).mono ?_
  rintro r w1 ⟨a, b, rfl, hlen, hiff, ha, hb1⟩
  obtain ⟨f1, f2, f3⟩ := fresh_arr w1 a hlen
  have hbb := hb0.trans (hb1.mono hb0.size)
  obtain ⟨W5, hW5⟩ : ∃ W5, W5 = (w1.alloc (.cells #[.int .i64 0, .int .i64 0, .int .i64 0, .int .i64 0, .int .i64 0, .int .i64 0, .int .i64 0, .int .i64 0, .int .i64 0, .int .i64 0, .int .i64 0, .int .i64 0] 46)).setCells w1.heap.size 0 (icells a) := ⟨_, rfl⟩
  rw [← hW5] at f2 f3
  have hb5 := hbb.trans (f3.mono hbb.size)
  have hsz : (icells a).toArray.size = 12 := by simp [icells_len, hlen]
  have k1 : (w1.alloc (.cells #[.int .i64 0, .int .i64 0, .int .i64 0, .int .i64 0, .int .i64 0, .int .i64 0, .int .i64 0, .int .i64 0, .int .i64 0, .int .i64 0, .int .i64 0, .int .i64 0] 46)).there w1.heap.size 0 (icells a).toArray.size := by rw [hsz]; exact f1
  have k2 : (Try.prog.info? 46).map (·.size) = some (icells a).toArray.size := by rw [infoW, hsz]
  have HQ : Hid (_ ∧ _ ∧ _ ∧ _ ∧ _ ∧ _) := ⟨k1, k2, all_oneCell_toArray (icells_one a), hW5, hiff, hb5⟩
  clear k1 k2 f1 f2 f3 hb0 hb1 hbb hW5 hiff ha hb5 hsz
  cases b
  all_goals
    go_wp2_with ((with_reducible refine wpList_store_mid rfl 46 (.tmp 3) (.tmp 8) rfl w1.heap.size 0 (icells a).toArray ?hx ?hy ?ht ?hi ?h1 ?_); (case hx => rfl); (case hy => rfl); (case ht => exact HQ.out.1); (case hi => exact HQ.out.2.1); (case h1 => exact HQ.out.2.2.1); rw [List.toList_toArray, ← HQ.out.2.2.2.1])
    go_ret
  · exact ⟨6, rfl, fun h => Bool.noConfusion (HQ.out.2.2.2.2.1.2 h), fun _ => rfl, HQ.out.2.2.2.2.2⟩
  · exact ⟨0, rfl, fun _ => rfl, fun h => absurd (HQ.out.2.2.2.2.1.1 trivial) h, HQ.out.2.2.2.2.2⟩
end Go.Proofs.Ytpmobbbohchdlaa.Walks
