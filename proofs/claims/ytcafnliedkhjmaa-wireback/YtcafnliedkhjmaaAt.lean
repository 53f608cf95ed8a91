/-
  The program's Decode, told by what the bytes say. Condition: the slice can be read, and is of at most 2^47 - 4096 bytes.
-/
import Derived.Test.YtcafnliedkhjmaaRows
import Derived.Test.YtcafnliedkhjmaaChecked
import Derived.Test.YtcafnliedkhjmaaLaws
import Derived.Test.YtcafnliedkhjmaaOctets
import Derived.Deep.QuietTactic
import Derived.BigQuiet
import Derived.WalkKit
import Derived.ProofKit
import Derived.Handy
import Derived.LoopTactic
import Derived.Below
import Derived.Laws.BitsAllLaws
import Derived.RegionTactic
import Derived.Deep.RegionHeld3
import Derived.Deep.DrawnRows
import Derived.Deep.AppendLies
import Derived.Laws.OwnMore
import Derived.Deep.Onto
namespace Go.Proofs.Ytcafnliedkhjmaa.Walks
open Go.RowKit
open Go.Proofs.Ytcafnliedkhjmaa.Plain
set_option linter.unusedVariables false
attribute [local go_sem ↓] Go.wp_at_zero Go.wp_at_succ

theorem decode_at (v : Value) (l : List Nat) (e : Ev) (c : Int) (w : World) (hd : dec l = (e, c)) (hv : BytesAt w v l) (hx : ∀ x ∈ l, x < 256) (hm : l.length ≤ 140737488351232) :
    Calls Try.prog 15 #[v] w fun r w' => r = .returned (.tuple #[.agg #[.int .i64 e.kind, .int .i64 e.key, .int .i64 e.slot, .int .i64 e.gen, .bool e.good, .int .i64 e.req, .int .i64 e.be, .int .i64 e.wt], .int .i64 c]) ∧ Below w.heap.size w w' := by
  refine (decode_any v l w hv hx (by unfold maxLen; omega)).mono ?_
  rintro r w' ⟨h, hb⟩
  rw [hd] at h
  exact ⟨h, hb⟩
end Go.Proofs.Ytcafnliedkhjmaa.Walks
