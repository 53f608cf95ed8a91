/-
  The document's numbers of an event that has its kind alone: three lists, each in a block of its own. No condition.
-/
import Derived.Test.YtcafnliedkhjmaaRows
import Derived.Test.YtcafnliedkhjmaaChecked
import Derived.Test.YtcafnliedkhjmaaDecode
import Derived.Deep.QuietTactic
import Derived.BigQuiet
import Derived.WalkKit
import Derived.ProofKit
import Derived.Handy
import Derived.LoopTactic
import Derived.Below
import Derived.Laws.BitsAllLaws
import Derived.RegionTactic
import Derived.Deep.RegionHeld3
import Derived.Deep.DrawnRows
import Derived.Deep.AppendLies
import Derived.Laws.OwnMore
import Derived.Deep.Onto
namespace Go.Proofs.Ytcafnliedkhjmaa.Walks
open Go.RowKit
open Go.Proofs.Ytcafnliedkhjmaa.Plain
set_option linter.unusedVariables false
attribute [local go_sem ↓] Go.wp_at_zero Go.wp_at_succ


/-- The document's numbers of an event that has its kind alone: three lists, each in a block of its own. -/
def NumzPost (fs : List Fld) (w : World) (r : Ending) (w' : World) : Prop :=
  ∃ v lo hi, r = .returned (.tuple #[v, lo, hi, .bool true]) ∧ Below w.heap.size w w' ∧
    ((fs = [] ∧ v = .slice none 0 0) ∨ (v = .slice (some ⟨w.heap.size + 1, 0, none⟩) fs.length fs.length ∧ lo = .slice (some ⟨w.heap.size + 1 + 1, 0, none⟩) fs.length fs.length ∧ hi = .slice (some ⟨w.heap.size + 1 + 1 + 1, 0, none⟩) fs.length fs.length ∧
      w'.heap[w.heap.size + 1]? = some (.cells ((List.replicate fs.length (0 : Int)).map (Value.int .i64)).toArray 3) ∧ w'.heap[w.heap.size + 1 + 1]? = some (.cells (fs.map fun f => Value.int .i64 f.lo).toArray 3) ∧ w'.heap[w.heap.size + 1 + 1 + 1]? = some (.cells (fs.map fun f => Value.int .i64 f.hi).toArray 3) ∧ w'.heap.size = w.heap.size + 1 + 1 + 1 + 1))

theorem numz_fin (fs : List Fld) (w : World) (A : Obj) (x y z : Array Value) (n : Nat) (hn : fs.length = n) (hx : x = ((List.replicate fs.length (0 : Int)).map (Value.int .i64)).toArray) (hy : y = (fs.map fun f => Value.int .i64 f.lo).toArray) (hz : z = (fs.map fun f => Value.int .i64 f.hi).toArray) :
    NumzPost fs w (.returned (.tuple #[.slice (some ⟨w.heap.size + 1, 0, none⟩) n n, .slice (some ⟨w.heap.size + 1 + 1, 0, none⟩) n n, .slice (some ⟨w.heap.size + 1 + 1 + 1, 0, none⟩) n n, .bool true])) ((((w.alloc A).alloc (.cells x 3)).alloc (.cells y 3)).alloc (.cells z 3)) := by
  subst hn
  have e1 : ((w.alloc A).alloc (.cells x 3)).heap[w.heap.size + 1]? = some (.cells x 3) := by have := heap_new (w.alloc A) (.cells x 3); simpa using this
  have e2 : (((w.alloc A).alloc (.cells x 3)).alloc (.cells y 3)).heap[w.heap.size + 1 + 1]? = some (.cells y 3) := by have := heap_new ((w.alloc A).alloc (.cells x 3)) (.cells y 3); simpa using this
  have e3 : ((((w.alloc A).alloc (.cells x 3)).alloc (.cells y 3)).alloc (.cells z 3)).heap[w.heap.size + 1 + 1 + 1]? = some (.cells z 3) := by have := heap_new (((w.alloc A).alloc (.cells x 3)).alloc (.cells y 3)) (.cells z 3); simpa using this
  refine ⟨_, _, _, rfl, ((((Below.refl w.heap.size w).alloc (Nat.le_refl _) _).alloc (by simp) _).alloc (by simp; omega) _).alloc (by simp; omega) _, .inr ⟨rfl, rfl, rfl, ?_, ?_, ?_, by simp⟩⟩
  · rw [← hx]; exact heap_old _ _ _ _ (by simp) (heap_old _ _ _ _ (by simp) e1)
  · rw [← hy]; exact heap_old _ _ _ _ (by simp) e2
  · rw [← hz]; exact e3

set_option maxHeartbeats 1000000 in
theorem numz1 (w : World) :
    Calls Try.prog 23 #[.agg #[.int .i64 1, .int .i64 0, .int .i64 0, .int .i64 0, .bool false, .int .i64 0, .int .i64 0, .int .i64 0]] w (NumzPost [⟨1, 0, 4294967295⟩] w) := by
  go_enter Try.func23, Try.ntmps23
  go_wp2
  exact bodyPost_ret (v := .tuple #[.slice (some ⟨w.heap.size + 1, 0, none⟩) 1 1, .slice (some ⟨w.heap.size + 1 + 1, 0, none⟩) 1 1, .slice (some ⟨w.heap.size + 1 + 1 + 1, 0, none⟩) 1 1, .bool true]) (by simp [results, Try.results23, go_sem]) rfl (numz_fin _ w _ _ _ _ 1 rfl rfl rfl rfl)

set_option maxHeartbeats 1000000 in
theorem numz2 (w : World) :
    Calls Try.prog 23 #[.agg #[.int .i64 2, .int .i64 0, .int .i64 0, .int .i64 0, .bool false, .int .i64 0, .int .i64 0, .int .i64 0]] w (NumzPost [⟨2, 0, 39⟩, ⟨3, 0, 1048576⟩] w) := by
  go_enter Try.func23, Try.ntmps23
  go_wp2
  exact bodyPost_ret (v := .tuple #[.slice (some ⟨w.heap.size + 1, 0, none⟩) 2 2, .slice (some ⟨w.heap.size + 1 + 1, 0, none⟩) 2 2, .slice (some ⟨w.heap.size + 1 + 1 + 1, 0, none⟩) 2 2, .bool true]) (by simp [results, Try.results23, go_sem]) rfl (numz_fin _ w _ _ _ _ 2 rfl rfl rfl rfl)

set_option maxHeartbeats 1000000 in
theorem numz3 (w : World) :
    Calls Try.prog 23 #[.agg #[.int .i64 3, .int .i64 0, .int .i64 0, .int .i64 0, .bool false, .int .i64 0, .int .i64 0, .int .i64 0]] w (NumzPost [⟨2, 0, 39⟩, ⟨3, 0, 1048576⟩] w) := by
  go_enter Try.func23, Try.ntmps23
  go_wp2
  exact bodyPost_ret (v := .tuple #[.slice (some ⟨w.heap.size + 1, 0, none⟩) 2 2, .slice (some ⟨w.heap.size + 1 + 1, 0, none⟩) 2 2, .slice (some ⟨w.heap.size + 1 + 1 + 1, 0, none⟩) 2 2, .bool true]) (by simp [results, Try.results23, go_sem]) rfl (numz_fin _ w _ _ _ _ 2 rfl rfl rfl rfl)

set_option maxHeartbeats 1000000 in
theorem numz4 (w : World) :
    Calls Try.prog 23 #[.agg #[.int .i64 4, .int .i64 0, .int .i64 0, .int .i64 0, .bool false, .int .i64 0, .int .i64 0, .int .i64 0]] w (NumzPost [⟨2, 0, 39⟩, ⟨3, 0, 1048576⟩, ⟨4, 0, 1⟩] w) := by
  go_enter Try.func23, Try.ntmps23
  go_wp2
  exact bodyPost_ret (v := .tuple #[.slice (some ⟨w.heap.size + 1, 0, none⟩) 3 3, .slice (some ⟨w.heap.size + 1 + 1, 0, none⟩) 3 3, .slice (some ⟨w.heap.size + 1 + 1 + 1, 0, none⟩) 3 3, .bool true]) (by simp [results, Try.results23, go_sem]) rfl (numz_fin _ w _ _ _ _ 3 rfl rfl rfl rfl)

set_option maxHeartbeats 1000000 in
theorem numz5 (w : World) :
    Calls Try.prog 23 #[.agg #[.int .i64 5, .int .i64 0, .int .i64 0, .int .i64 0, .bool false, .int .i64 0, .int .i64 0, .int .i64 0]] w (NumzPost [⟨5, 0, 1048576⟩, ⟨6, 0, 11⟩, ⟨7, 1, 8⟩] w) := by
  go_enter Try.func23, Try.ntmps23
  go_wp2
  exact bodyPost_ret (v := .tuple #[.slice (some ⟨w.heap.size + 1, 0, none⟩) 3 3, .slice (some ⟨w.heap.size + 1 + 1, 0, none⟩) 3 3, .slice (some ⟨w.heap.size + 1 + 1 + 1, 0, none⟩) 3 3, .bool true]) (by simp [results, Try.results23, go_sem]) rfl (numz_fin _ w _ _ _ _ 3 rfl rfl rfl rfl)

set_option maxHeartbeats 1000000 in
theorem numz6 (w : World) :
    Calls Try.prog 23 #[.agg #[.int .i64 6, .int .i64 0, .int .i64 0, .int .i64 0, .bool false, .int .i64 0, .int .i64 0, .int .i64 0]] w (NumzPost [⟨5, 0, 1048576⟩, ⟨6, 0, 11⟩] w) := by
  go_enter Try.func23, Try.ntmps23
  go_wp2
  exact bodyPost_ret (v := .tuple #[.slice (some ⟨w.heap.size + 1, 0, none⟩) 2 2, .slice (some ⟨w.heap.size + 1 + 1, 0, none⟩) 2 2, .slice (some ⟨w.heap.size + 1 + 1 + 1, 0, none⟩) 2 2, .bool true]) (by simp [results, Try.results23, go_sem]) rfl (numz_fin _ w _ _ _ _ 2 rfl rfl rfl rfl)

set_option maxHeartbeats 1000000 in
theorem numz7 (w : World) :
    Calls Try.prog 23 #[.agg #[.int .i64 7, .int .i64 0, .int .i64 0, .int .i64 0, .bool false, .int .i64 0, .int .i64 0, .int .i64 0]] w (NumzPost [] w) := by
  go_enter Try.func23, Try.ntmps23
  go_wp2
  exact bodyPost_ret (v := .tuple #[.slice none 0 0, .slice none 0 0, .slice none 0 0, .bool true]) (by simp [results, Try.results23, go_sem]) rfl ⟨_, _, _, rfl, (Below.refl _ _).alloc (Nat.le_refl _) _, .inl ⟨rfl, rfl⟩⟩

theorem numz_some (k : Int) (fs : List Fld) (w : World) (hf : flds k = some fs) :
    Calls Try.prog 23 #[.agg #[.int .i64 k, .int .i64 0, .int .i64 0, .int .i64 0, .bool false, .int .i64 0, .int .i64 0, .int .i64 0]] w (NumzPost fs w) := by
  rcases flds_cases k with ⟨_, h⟩ | h | h | h | h | h | h | h
  · rw [h] at hf; cases hf
  all_goals (subst h; unfold flds at hf; simp at hf; subst hf)
  · exact numz1 w
  · exact numz2 w
  · exact numz3 w
  · exact numz4 w
  · exact numz5 w
  · exact numz6 w
  · exact numz7 w
end Go.Proofs.Ytcafnliedkhjmaa.Walks
