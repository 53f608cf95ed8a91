/-
  The document's event of a kind's numbers. Condition: the numbers lie in a slice of the call's own.
-/
import Derived.Test.YtkefdbnnfcfmjaaDoorRows
import Derived.Test.YtkefdbnnfcfmjaaDoorChecked
import Derived.Test.YtkefdbnnfcfmjaaDoorNums
import Derived.Deep.QuietTactic
import Derived.BigQuiet
import Derived.WalkKit
import Derived.ProofKit
import Derived.Handy
import Derived.LoopTactic
import Derived.Below
import Derived.Laws.BitsAllLaws
import Derived.RegionTactic
import Derived.Deep.RegionHeld3
import Derived.Deep.DrawnRows
import Derived.Deep.AppendLies
import Derived.Laws.OwnMore
namespace Go.Proofs.YtkefdbnnfcfmjaaDoor.Walks
open Go.RowKit
open Go.Proofs.YtkefdbnnfcfmjaaDoor.Plain
set_option linter.unusedVariables false
attribute [local go_sem ↓] Go.wp_at_zero Go.wp_at_succ


set_option maxHeartbeats 1000000 in
theorem evw1 (g cap : Nat) (x : Int) (w : World) (c0 : w.cell? ⟨g, 0, none⟩ = some (.int .i64 x)) :
    Calls Tryd.prog 36 #[.int .i64 1, .slice (some ⟨g, 0, none⟩) 1 cap] w fun r w' => r = .returned (.agg (arr (puts { Ev.zero with kind := 1 } [⟨1, 0, 4294967295⟩] [x]))) ∧ Below w.heap.size w w' := by
  have hg : g < w.heap.size := World.block_lt_of_cell? w _ c0
  have hv : arr (puts { Ev.zero with kind := 1 } [⟨1, 0, 4294967295⟩] [x]) = #[.int .i64 1, .int .i64 x, .int .i64 0, .int .i64 0, .bool false, .int .i64 0, .int .i64 0, .int .i64 0] := rfl
  rw [hv]
  clear hv
  go_enter Tryd.func36, Tryd.ntmps36
  go_wp2
  refine bodyPost_ret (v := .agg #[.int .i64 1, .int .i64 x, .int .i64 0, .int .i64 0, .bool false, .int .i64 0, .int .i64 0, .int .i64 0]) (by simp [results, Tryd.results36, go_sem]) rfl ⟨rfl, ?_⟩
  exact (((Below.refl _ _).alloc (Nat.le_refl _) _).alloc (by simp) _)

set_option maxHeartbeats 1000000 in
theorem ev2 (g cap : Nat) (x y : Int) (w : World) (c0 : w.cell? ⟨g, 0, none⟩ = some (.int .i64 x)) (c1 : w.cell? ⟨g, 1, none⟩ = some (.int .i64 y)) :
    Calls Tryd.prog 36 #[.int .i64 2, .slice (some ⟨g, 0, none⟩) 2 cap] w fun r w' => r = .returned (.agg (arr (puts { Ev.zero with kind := 2 } [⟨2, 0, 39⟩, ⟨3, 0, 1048576⟩] [x, y]))) ∧ Below w.heap.size w w' := by
  have hg : g < w.heap.size := World.block_lt_of_cell? w _ c0
  have hv : arr (puts { Ev.zero with kind := 2 } [⟨2, 0, 39⟩, ⟨3, 0, 1048576⟩] [x, y]) = #[.int .i64 2, .int .i64 0, .int .i64 x, .int .i64 y, .bool false, .int .i64 0, .int .i64 0, .int .i64 0] := rfl
  rw [hv]
  clear hv
  go_enter Tryd.func36, Tryd.ntmps36
  go_wp2
  refine bodyPost_ret (v := .agg #[.int .i64 2, .int .i64 0, .int .i64 x, .int .i64 y, .bool false, .int .i64 0, .int .i64 0, .int .i64 0]) (by simp [results, Tryd.results36, go_sem]) rfl ⟨rfl, ?_⟩
  exact (((Below.refl _ _).alloc (Nat.le_refl _) _).alloc (by simp) _)

set_option maxHeartbeats 1000000 in
theorem ev3 (g cap : Nat) (x y : Int) (w : World) (c0 : w.cell? ⟨g, 0, none⟩ = some (.int .i64 x)) (c1 : w.cell? ⟨g, 1, none⟩ = some (.int .i64 y)) :
    Calls Tryd.prog 36 #[.int .i64 3, .slice (some ⟨g, 0, none⟩) 2 cap] w fun r w' => r = .returned (.agg (arr (puts { Ev.zero with kind := 3 } [⟨2, 0, 39⟩, ⟨3, 0, 1048576⟩] [x, y]))) ∧ Below w.heap.size w w' := by
  have hg : g < w.heap.size := World.block_lt_of_cell? w _ c0
  have hv : arr (puts { Ev.zero with kind := 3 } [⟨2, 0, 39⟩, ⟨3, 0, 1048576⟩] [x, y]) = #[.int .i64 3, .int .i64 0, .int .i64 x, .int .i64 y, .bool false, .int .i64 0, .int .i64 0, .int .i64 0] := rfl
  rw [hv]
  clear hv
  go_enter Tryd.func36, Tryd.ntmps36
  go_wp2
  refine bodyPost_ret (v := .agg #[.int .i64 3, .int .i64 0, .int .i64 x, .int .i64 y, .bool false, .int .i64 0, .int .i64 0, .int .i64 0]) (by simp [results, Tryd.results36, go_sem]) rfl ⟨rfl, ?_⟩
  exact (((Below.refl _ _).alloc (Nat.le_refl _) _).alloc (by simp) _)

set_option maxHeartbeats 1000000 in
theorem ev4 (g cap : Nat) (x y z : Int) (w : World) (c0 : w.cell? ⟨g, 0, none⟩ = some (.int .i64 x)) (c1 : w.cell? ⟨g, 1, none⟩ = some (.int .i64 y)) (c2 : w.cell? ⟨g, 2, none⟩ = some (.int .i64 z)) :
    Calls Tryd.prog 36 #[.int .i64 4, .slice (some ⟨g, 0, none⟩) 3 cap] w fun r w' => r = .returned (.agg (arr (puts { Ev.zero with kind := 4 } [⟨2, 0, 39⟩, ⟨3, 0, 1048576⟩, ⟨4, 0, 1⟩] [x, y, z]))) ∧ Below w.heap.size w w' := by
  have hg : g < w.heap.size := World.block_lt_of_cell? w _ c0
  have hv : arr (puts { Ev.zero with kind := 4 } [⟨2, 0, 39⟩, ⟨3, 0, 1048576⟩, ⟨4, 0, 1⟩] [x, y, z]) = #[.int .i64 4, .int .i64 0, .int .i64 x, .int .i64 y, .bool (z == 1), .int .i64 0, .int .i64 0, .int .i64 0] := rfl
  rw [hv]
  clear hv
  go_enter Tryd.func36, Tryd.ntmps36
  go_wp2
  refine bodyPost_ret (v := .agg #[.int .i64 4, .int .i64 0, .int .i64 x, .int .i64 y, .bool (z == 1), .int .i64 0, .int .i64 0, .int .i64 0]) (by simp [results, Tryd.results36, go_sem]) rfl ⟨rfl, ?_⟩
  exact (((Below.refl _ _).alloc (Nat.le_refl _) _).alloc (by simp) _)

set_option maxHeartbeats 1000000 in
theorem ev5 (g cap : Nat) (x y z : Int) (w : World) (c0 : w.cell? ⟨g, 0, none⟩ = some (.int .i64 x)) (c1 : w.cell? ⟨g, 1, none⟩ = some (.int .i64 y)) (c2 : w.cell? ⟨g, 2, none⟩ = some (.int .i64 z)) :
    Calls Tryd.prog 36 #[.int .i64 5, .slice (some ⟨g, 0, none⟩) 3 cap] w fun r w' => r = .returned (.agg (arr (puts { Ev.zero with kind := 5 } [⟨5, 0, 1048576⟩, ⟨6, 0, 11⟩, ⟨7, 1, 8⟩] [x, y, z]))) ∧ Below w.heap.size w w' := by
  have hg : g < w.heap.size := World.block_lt_of_cell? w _ c0
  have hv : arr (puts { Ev.zero with kind := 5 } [⟨5, 0, 1048576⟩, ⟨6, 0, 11⟩, ⟨7, 1, 8⟩] [x, y, z]) = #[.int .i64 5, .int .i64 0, .int .i64 0, .int .i64 0, .bool false, .int .i64 x, .int .i64 y, .int .i64 z] := rfl
  rw [hv]
  clear hv
  go_enter Tryd.func36, Tryd.ntmps36
  go_wp2
  refine bodyPost_ret (v := .agg #[.int .i64 5, .int .i64 0, .int .i64 0, .int .i64 0, .bool false, .int .i64 x, .int .i64 y, .int .i64 z]) (by simp [results, Tryd.results36, go_sem]) rfl ⟨rfl, ?_⟩
  exact (((Below.refl _ _).alloc (Nat.le_refl _) _).alloc (by simp) _)

set_option maxHeartbeats 1000000 in
theorem ev6 (g cap : Nat) (x y : Int) (w : World) (c0 : w.cell? ⟨g, 0, none⟩ = some (.int .i64 x)) (c1 : w.cell? ⟨g, 1, none⟩ = some (.int .i64 y)) :
    Calls Tryd.prog 36 #[.int .i64 6, .slice (some ⟨g, 0, none⟩) 2 cap] w fun r w' => r = .returned (.agg (arr (puts { Ev.zero with kind := 6 } [⟨5, 0, 1048576⟩, ⟨6, 0, 11⟩] [x, y]))) ∧ Below w.heap.size w w' := by
  have hg : g < w.heap.size := World.block_lt_of_cell? w _ c0
  have hv : arr (puts { Ev.zero with kind := 6 } [⟨5, 0, 1048576⟩, ⟨6, 0, 11⟩] [x, y]) = #[.int .i64 6, .int .i64 0, .int .i64 0, .int .i64 0, .bool false, .int .i64 x, .int .i64 y, .int .i64 0] := rfl
  rw [hv]
  clear hv
  go_enter Tryd.func36, Tryd.ntmps36
  go_wp2
  refine bodyPost_ret (v := .agg #[.int .i64 6, .int .i64 0, .int .i64 0, .int .i64 0, .bool false, .int .i64 x, .int .i64 y, .int .i64 0]) (by simp [results, Tryd.results36, go_sem]) rfl ⟨rfl, ?_⟩
  exact (((Below.refl _ _).alloc (Nat.le_refl _) _).alloc (by simp) _)

set_option maxHeartbeats 1000000 in
theorem ev7 (v : Value) (w : World) :
    Calls Tryd.prog 36 #[.int .i64 7, v] w fun r w' => r = .returned (.agg (arr (puts { Ev.zero with kind := 7 } [] []))) ∧ Below w.heap.size w w' := by
  have hv : arr (puts { Ev.zero with kind := 7 } [] []) = #[.int .i64 7, .int .i64 0, .int .i64 0, .int .i64 0, .bool false, .int .i64 0, .int .i64 0, .int .i64 0] := rfl
  rw [hv]
  clear hv
  go_enter Tryd.func36, Tryd.ntmps36
  go_wp2
  refine bodyPost_ret (v := .agg #[.int .i64 7, .int .i64 0, .int .i64 0, .int .i64 0, .bool false, .int .i64 0, .int .i64 0, .int .i64 0]) (by simp [results, Tryd.results36, go_sem]) rfl ⟨rfl, ?_⟩
  exact (((Below.refl _ _).alloc (Nat.le_refl _) _).alloc (by simp) _)

theorem ev_any (k : Int) (fs : List Fld) (ns : List Int) (base : Nat) (v : Value) (w : World) (hf : flds k = some fs) (hl : ns.length = fs.length) (hown : w.ownsRow base 3 1 v ns.length (ns.map (.int .i64))) :
    Calls Tryd.prog 36 #[.int .i64 k, v] w fun r w' => r = .returned (.agg (arr (puts { Ev.zero with kind := k } fs ns))) ∧ Below w.heap.size w w' := by
  obtain ⟨a, cap, rfl, hc⟩ := ints_one hown
  rcases flds_cases k with ⟨_, h⟩ | rfl | rfl | rfl | rfl | rfl | rfl | rfl
  · rw [h] at hf; cases hf
  all_goals (unfold flds at hf; simp at hf; subst hf)
  · match ns, hl with
    | [x], _ =>
      obtain ⟨g, rfl, _, _, c0, _⟩ := hc 0 x rfl
      exact evw1 g cap x w c0
  · match ns, hl with
    | [x, y], _ =>
      obtain ⟨g, rfl, _, _, c0, _⟩ := hc 0 x rfl
      obtain ⟨g', hg, _, _, c1, _⟩ := hc 1 y rfl
      cases hg
      exact ev2 g cap x y w c0 c1
  · match ns, hl with
    | [x, y], _ =>
      obtain ⟨g, rfl, _, _, c0, _⟩ := hc 0 x rfl
      obtain ⟨g', hg, _, _, c1, _⟩ := hc 1 y rfl
      cases hg
      exact ev3 g cap x y w c0 c1
  · match ns, hl with
    | [x, y, z], _ =>
      obtain ⟨g, rfl, _, _, c0, _⟩ := hc 0 x rfl
      obtain ⟨g', hg, _, _, c1, _⟩ := hc 1 y rfl
      obtain ⟨g'', hg', _, _, c2, _⟩ := hc 2 z rfl
      cases hg; cases hg'
      exact ev4 g cap x y z w c0 c1 c2
  · match ns, hl with
    | [x, y, z], _ =>
      obtain ⟨g, rfl, _, _, c0, _⟩ := hc 0 x rfl
      obtain ⟨g', hg, _, _, c1, _⟩ := hc 1 y rfl
      obtain ⟨g'', hg', _, _, c2, _⟩ := hc 2 z rfl
      cases hg; cases hg'
      exact ev5 g cap x y z w c0 c1 c2
  · match ns, hl with
    | [x, y], _ =>
      obtain ⟨g, rfl, _, _, c0, _⟩ := hc 0 x rfl
      obtain ⟨g', hg, _, _, c1, _⟩ := hc 1 y rfl
      cases hg
      exact ev6 g cap x y w c0 c1
  · match ns, hl with
    | [], _ => exact ev7 _ w

end Go.Proofs.YtkefdbnnfcfmjaaDoor.Walks
