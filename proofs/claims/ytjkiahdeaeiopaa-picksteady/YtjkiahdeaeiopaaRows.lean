/-
  No cell of these rows narrows 'for every input' (looked for: loops, veiled, ifaces, maps, wideKeys, modest, calm, conditions, laid).
  DERIVED. THE GIVEN ROWS OF THIS SEAT. 6 by the template 'for every input the law returns true; each argument reads behind the call as it read before'; 0 by the template 'total and deterministic' (their statements: YtjkiahdeaeiopaaTotals.lean).
  GIVEN WITH THE SEED: the statements are not yours to turn. If you find one false, say at which input.
  Laid BY PROGRAM, IN A SANDBOX (cutbox-rows.mjs): the forced cells as the released guide's own fill.sh prints them over the translation 53aced635e75957c… (all of the seat's roots in one cut). By AI agents, Wed Nov 11 2026. No macro, syntax, notation, axiom, sorry.
-/
import Derived.Test.YtjkiahdeaeiopaaChecked
import GoSem.Claim
import GoSem.ClaimJoined
import GoSem.ClaimMapViews
import Derived.JoinedTies
import Derived.KernelRfl
namespace Go.Proofs.Ytjkiahdeaeiopaa
/- THE CELL 'sum', in the pinned program and in every row, IS THE sha256 OF THE DUMP (.gsa) THAT YtjkiahdeaeiopaaProg.lean LOADS. Nothing in Lean hashes anything: it is a label: what it is worth is what the hold of that sum in a sandbox is worth. -/
noncomputable def Try.pinned : Pinned := { name := "ytjkiahdeaeiopaa", sum := "53aced635e75957c427816b371600be7bdad08f7184f4d15109632467cde3f80", checked := Try.checked }
namespace Rows
def none {H : Type} : Left H := { results := [], args := [] }

/-- 'usherlaw.PickerPicks': WHATEVER THE INPUT: true; the input reads as it did. -/
def pickerPicksSpec : ChangeSpec := { name := "pickerPicks", fn := fun _ => fun
  | [d1, d2, d3, d4, d5, d6] => { results := [.lit (.bool true)], args := [d1, d2, d3, d4, d5, d6] }
  | _ => none }
def pickerPicksRow : OpenClaim := { program := "ytjkiahdeaeiopaa", sum := "53aced635e75957c427816b371600be7bdad08f7184f4d15109632467cde3f80", func := "usher/usherlaw.PickerPicks", spec := "pickerPicks", unfollowed := true, recurses := true, apart := false }
def PickerPicksSaid : Prop := pickerPicksRow.holds Try.pinned (OpenSpec.ofChange pickerPicksSpec)

/-- ITS FALSE NEIGHBOUR: 'it returns false'. Refute it at one input. -/
def pickerPicksWrong : ChangeSpec := { name := "pickerPicks", fn := fun _ => fun
  | [d1, d2, d3, d4, d5, d6] => { results := [.lit (.bool false)], args := [d1, d2, d3, d4, d5, d6] }
  | _ => none }
def PickerPicksWrongFalsely : Prop := pickerPicksRow.holds Try.pinned (OpenSpec.ofChange pickerPicksWrong)

/-- 'usherkeep.PickFits': WHATEVER THE INPUT: true; the input reads as it did. -/
def pickFitsSpec : ChangeSpec := { name := "pickFits", fn := fun _ => fun
  | [d1, d2, d3, d4, d5, d6] => { results := [.lit (.bool true)], args := [d1, d2, d3, d4, d5, d6] }
  | _ => none }
def pickFitsRow : OpenClaim := { program := "ytjkiahdeaeiopaa", sum := "53aced635e75957c427816b371600be7bdad08f7184f4d15109632467cde3f80", func := "usher/usherkeep.PickFits", spec := "pickFits", unfollowed := true, recurses := true, apart := false }
def PickFitsSaid : Prop := pickFitsRow.holds Try.pinned (OpenSpec.ofChange pickFitsSpec)

/-- ITS FALSE NEIGHBOUR: 'it returns false'. Refute it at one input. -/
def pickFitsWrong : ChangeSpec := { name := "pickFits", fn := fun _ => fun
  | [d1, d2, d3, d4, d5, d6] => { results := [.lit (.bool false)], args := [d1, d2, d3, d4, d5, d6] }
  | _ => none }
def PickFitsWrongFalsely : Prop := pickFitsRow.holds Try.pinned (OpenSpec.ofChange pickFitsWrong)

/-- 'usherkeep.PickFirst': WHATEVER THE INPUT: true; the input reads as it did. -/
def pickFirstSpec : ChangeSpec := { name := "pickFirst", fn := fun _ => fun
  | [d1, d2, d3] => { results := [.lit (.bool true)], args := [d1, d2, d3] }
  | _ => none }
def pickFirstRow : OpenClaim := { program := "ytjkiahdeaeiopaa", sum := "53aced635e75957c427816b371600be7bdad08f7184f4d15109632467cde3f80", func := "usher/usherkeep.PickFirst", spec := "pickFirst", unfollowed := true, recurses := true, apart := false }
def PickFirstSaid : Prop := pickFirstRow.holds Try.pinned (OpenSpec.ofChange pickFirstSpec)

/-- ITS FALSE NEIGHBOUR: 'it returns false'. Refute it at one input. -/
def pickFirstWrong : ChangeSpec := { name := "pickFirst", fn := fun _ => fun
  | [d1, d2, d3] => { results := [.lit (.bool false)], args := [d1, d2, d3] }
  | _ => none }
def PickFirstWrongFalsely : Prop := pickFirstRow.holds Try.pinned (OpenSpec.ofChange pickFirstWrong)

/-- 'usherkeep.PickLeast': WHATEVER THE INPUT: true; the input reads as it did. -/
def pickLeastSpec : ChangeSpec := { name := "pickLeast", fn := fun _ => fun
  | [d1, d2, d3] => { results := [.lit (.bool true)], args := [d1, d2, d3] }
  | _ => none }
def pickLeastRow : OpenClaim := { program := "ytjkiahdeaeiopaa", sum := "53aced635e75957c427816b371600be7bdad08f7184f4d15109632467cde3f80", func := "usher/usherkeep.PickLeast", spec := "pickLeast", unfollowed := true, recurses := true, apart := false }
def PickLeastSaid : Prop := pickLeastRow.holds Try.pinned (OpenSpec.ofChange pickLeastSpec)

/-- ITS FALSE NEIGHBOUR: 'it returns false'. Refute it at one input. -/
def pickLeastWrong : ChangeSpec := { name := "pickLeast", fn := fun _ => fun
  | [d1, d2, d3] => { results := [.lit (.bool false)], args := [d1, d2, d3] }
  | _ => none }
def PickLeastWrongFalsely : Prop := pickLeastRow.holds Try.pinned (OpenSpec.ofChange pickLeastWrong)

/-- 'usherkeep.PickSteady': WHATEVER THE INPUT: true; the input reads as it did. -/
def pickSteadySpec : ChangeSpec := { name := "pickSteady", fn := fun _ => fun
  | [d1, d2, d3, d4] => { results := [.lit (.bool true)], args := [d1, d2, d3, d4] }
  | _ => none }
def pickSteadyRow : OpenClaim := { program := "ytjkiahdeaeiopaa", sum := "53aced635e75957c427816b371600be7bdad08f7184f4d15109632467cde3f80", func := "usher/usherkeep.PickSteady", spec := "pickSteady", unfollowed := true, recurses := true, apart := false }
def PickSteadySaid : Prop := pickSteadyRow.holds Try.pinned (OpenSpec.ofChange pickSteadySpec)

/-- ITS FALSE NEIGHBOUR: 'it returns false'. Refute it at one input. -/
def pickSteadyWrong : ChangeSpec := { name := "pickSteady", fn := fun _ => fun
  | [d1, d2, d3, d4] => { results := [.lit (.bool false)], args := [d1, d2, d3, d4] }
  | _ => none }
def PickSteadyWrongFalsely : Prop := pickSteadyRow.holds Try.pinned (OpenSpec.ofChange pickSteadyWrong)

/-- 'usherkeep.PickLone': WHATEVER THE INPUT: true; the input reads as it did. -/
def pickLoneSpec : ChangeSpec := { name := "pickLone", fn := fun _ => fun
  | [d1, d2, d3, d4, d5] => { results := [.lit (.bool true)], args := [d1, d2, d3, d4, d5] }
  | _ => none }
def pickLoneRow : OpenClaim := { program := "ytjkiahdeaeiopaa", sum := "53aced635e75957c427816b371600be7bdad08f7184f4d15109632467cde3f80", func := "usher/usherkeep.PickLone", spec := "pickLone", unfollowed := true, recurses := true, apart := false }
def PickLoneSaid : Prop := pickLoneRow.holds Try.pinned (OpenSpec.ofChange pickLoneSpec)

/-- ITS FALSE NEIGHBOUR: 'it returns false'. Refute it at one input. -/
def pickLoneWrong : ChangeSpec := { name := "pickLone", fn := fun _ => fun
  | [d1, d2, d3, d4, d5] => { results := [.lit (.bool false)], args := [d1, d2, d3, d4, d5] }
  | _ => none }
def PickLoneWrongFalsely : Prop := pickLoneRow.holds Try.pinned (OpenSpec.ofChange pickLoneWrong)

/- THE SECOND FORM. 'bulk': how many values and letters a reading holds, each counted each time it is reached (what is shared counts as often as it is met; a slice's spare places count too). A statement '..UptoSaid' is the law's where the arguments, and the package variables that the reading takes, are together of bulk at most 1048576: NARROWER than '..Said'. Prove '..Said' where nothing that the law and all that it calls make is longer than what came in: it says more and counts as full. Else prove '..UptoSaid'. A law counts once. -/
mutual
def uptoBulk {H : Type} : DataW H → Nat
  | .lit (.string bytes) => bytes.length + 1
  | .lit _ => 1
  | .nil => 1
  | .ptr d => uptoBulk d + 1
  | .slice elems spare => uptoBulkAll elems + uptoBulkAll spare + 1
  | .agg parts => uptoBulkAll parts + 1
  | .iface _ d => uptoBulk d + 1
  | .map entries => uptoBulkEntries entries + 1
  | .held _ => 1
def uptoBulkAll {H : Type} : List (DataW H) → Nat
  | [] => 0
  | d :: r => uptoBulk d + uptoBulkAll r
def uptoBulkEntries {H : Type} : List (Lit × DataW H) → Nat
  | [] => 0
  | x :: r => uptoBulkEntry x + uptoBulkEntries r
def uptoBulkEntry {H : Type} : Lit × DataW H → Nat
  | (.string bytes, d) => bytes.length + uptoBulk d + 1
  | (_, d) => uptoBulk d + 1
 end
def uptoSmall : (H : Type) → List (DataW H) → Bool := fun _ ds => decide (uptoBulkAll ds ≤ 1048576)
def OpenSpec.upto (s : _root_.Go.ChangeSpec) : _root_.Go.OpenSpec := { _root_.Go.OpenSpec.ofChange s with cond := some uptoSmall }

/-- 'usherlaw.PickerPicks', WHERE WHAT IT READS IS OF BULK AT MOST 1048576: true; the input reads as it did. -/
def pickerPicksUptoRow : OpenClaim := { program := "ytjkiahdeaeiopaa", sum := "53aced635e75957c427816b371600be7bdad08f7184f4d15109632467cde3f80", func := "usher/usherlaw.PickerPicks", spec := "pickerPicks", unfollowed := true, recurses := true, apart := false, narrowed := true }
def PickerPicksUptoSaid : Prop := pickerPicksUptoRow.holds Try.pinned (OpenSpec.upto pickerPicksSpec)

/-- 'usherkeep.PickFits', WHERE WHAT IT READS IS OF BULK AT MOST 1048576: true; the input reads as it did. -/
def pickFitsUptoRow : OpenClaim := { program := "ytjkiahdeaeiopaa", sum := "53aced635e75957c427816b371600be7bdad08f7184f4d15109632467cde3f80", func := "usher/usherkeep.PickFits", spec := "pickFits", unfollowed := true, recurses := true, apart := false, narrowed := true }
def PickFitsUptoSaid : Prop := pickFitsUptoRow.holds Try.pinned (OpenSpec.upto pickFitsSpec)

/-- 'usherkeep.PickFirst', WHERE WHAT IT READS IS OF BULK AT MOST 1048576: true; the input reads as it did. -/
def pickFirstUptoRow : OpenClaim := { program := "ytjkiahdeaeiopaa", sum := "53aced635e75957c427816b371600be7bdad08f7184f4d15109632467cde3f80", func := "usher/usherkeep.PickFirst", spec := "pickFirst", unfollowed := true, recurses := true, apart := false, narrowed := true }
def PickFirstUptoSaid : Prop := pickFirstUptoRow.holds Try.pinned (OpenSpec.upto pickFirstSpec)

/-- 'usherkeep.PickLeast', WHERE WHAT IT READS IS OF BULK AT MOST 1048576: true; the input reads as it did. -/
def pickLeastUptoRow : OpenClaim := { program := "ytjkiahdeaeiopaa", sum := "53aced635e75957c427816b371600be7bdad08f7184f4d15109632467cde3f80", func := "usher/usherkeep.PickLeast", spec := "pickLeast", unfollowed := true, recurses := true, apart := false, narrowed := true }
def PickLeastUptoSaid : Prop := pickLeastUptoRow.holds Try.pinned (OpenSpec.upto pickLeastSpec)

/-- 'usherkeep.PickSteady', WHERE WHAT IT READS IS OF BULK AT MOST 1048576: true; the input reads as it did. -/
def pickSteadyUptoRow : OpenClaim := { program := "ytjkiahdeaeiopaa", sum := "53aced635e75957c427816b371600be7bdad08f7184f4d15109632467cde3f80", func := "usher/usherkeep.PickSteady", spec := "pickSteady", unfollowed := true, recurses := true, apart := false, narrowed := true }
def PickSteadyUptoSaid : Prop := pickSteadyUptoRow.holds Try.pinned (OpenSpec.upto pickSteadySpec)

/-- 'usherkeep.PickLone', WHERE WHAT IT READS IS OF BULK AT MOST 1048576: true; the input reads as it did. -/
def pickLoneUptoRow : OpenClaim := { program := "ytjkiahdeaeiopaa", sum := "53aced635e75957c427816b371600be7bdad08f7184f4d15109632467cde3f80", func := "usher/usherkeep.PickLone", spec := "pickLone", unfollowed := true, recurses := true, apart := false, narrowed := true }
def PickLoneUptoSaid : Prop := pickLoneUptoRow.holds Try.pinned (OpenSpec.upto pickLoneSpec)

end Rows
end Go.Proofs.Ytjkiahdeaeiopaa
