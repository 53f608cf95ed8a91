/-
  No cell of these rows narrows 'for every input' (looked for: loops, veiled, ifaces, maps, wideKeys, modest, calm, conditions, laid).
  DERIVED. THE GIVEN ROWS OF THIS SEAT. 5 by the template 'for every input the law returns true; each argument reads behind the call as it read before'; 0 by the template 'total and deterministic' (their statements: YtafhdlnhlemdgaaTotals.lean).
  GIVEN WITH THE SEED: the statements are not yours to turn. If you find one false, say at which input.
  Laid BY PROGRAM, IN A SANDBOX (cutbox-rows.mjs): the forced cells as the released guide's own fill.sh prints them over the translation c56702033e33b55e… (all of the seat's roots in one cut). By AI agents, Wed Nov 11 2026. No macro, syntax, notation, axiom, sorry.
-/
import Derived.Test.YtafhdlnhlemdgaaChecked
import GoSem.Claim
import GoSem.ClaimJoined
import GoSem.ClaimMapViews
import Derived.JoinedTies
import Derived.KernelRfl
namespace Go.Proofs.Ytafhdlnhlemdgaa
/- THE CELL 'sum', in the pinned program and in every row, IS THE sha256 OF THE DUMP (.gsa) THAT YtafhdlnhlemdgaaProg.lean LOADS. Nothing in Lean hashes anything: it is a label: what it is worth is what the hold of that sum in a sandbox is worth. -/
noncomputable def Try.pinned : Pinned := { name := "ytafhdlnhlemdgaa", sum := "c56702033e33b55eec0ad8182a9df2c356456321eca661d4cc75cf5e48f0a18c", checked := Try.checked }
namespace Rows
def none {H : Type} : Left H := { results := [], args := [] }

/-- 'usherlaw.RampWeights': WHATEVER THE INPUT: true; the input reads as it did. -/
def rampWeightsSpec : ChangeSpec := { name := "rampWeights", fn := fun _ => fun
  | [d1, d2, d3, d4] => { results := [.lit (.bool true)], args := [d1, d2, d3, d4] }
  | _ => none }
def rampWeightsRow : OpenClaim := { program := "ytafhdlnhlemdgaa", sum := "c56702033e33b55eec0ad8182a9df2c356456321eca661d4cc75cf5e48f0a18c", func := "usher/usherlaw.RampWeights", spec := "rampWeights", apart := false }
def RampWeightsSaid : Prop := rampWeightsRow.holds Try.pinned (OpenSpec.ofChange rampWeightsSpec)

/-- ITS FALSE NEIGHBOUR: 'it returns false'. Refute it at one input. -/
def rampWeightsWrong : ChangeSpec := { name := "rampWeights", fn := fun _ => fun
  | [d1, d2, d3, d4] => { results := [.lit (.bool false)], args := [d1, d2, d3, d4] }
  | _ => none }
def RampWeightsWrongFalsely : Prop := rampWeightsRow.holds Try.pinned (OpenSpec.ofChange rampWeightsWrong)

/-- 'usherlaw.RampFulls': WHATEVER THE INPUT: true; the input reads as it did. -/
def rampFullsSpec : ChangeSpec := { name := "rampFulls", fn := fun _ => fun
  | [d1, d2] => { results := [.lit (.bool true)], args := [d1, d2] }
  | _ => none }
def rampFullsRow : OpenClaim := { program := "ytafhdlnhlemdgaa", sum := "c56702033e33b55eec0ad8182a9df2c356456321eca661d4cc75cf5e48f0a18c", func := "usher/usherlaw.RampFulls", spec := "rampFulls", apart := false }
def RampFullsSaid : Prop := rampFullsRow.holds Try.pinned (OpenSpec.ofChange rampFullsSpec)

/-- ITS FALSE NEIGHBOUR: 'it returns false'. Refute it at one input. -/
def rampFullsWrong : ChangeSpec := { name := "rampFulls", fn := fun _ => fun
  | [d1, d2] => { results := [.lit (.bool false)], args := [d1, d2] }
  | _ => none }
def RampFullsWrongFalsely : Prop := rampFullsRow.holds Try.pinned (OpenSpec.ofChange rampFullsWrong)

/-- 'usherkeep.RampRises': WHATEVER THE INPUT: true; the input reads as it did. -/
def rampRisesSpec : ChangeSpec := { name := "rampRises", fn := fun _ => fun
  | [d1, d2, d3, d4] => { results := [.lit (.bool true)], args := [d1, d2, d3, d4] }
  | _ => none }
def rampRisesRow : OpenClaim := { program := "ytafhdlnhlemdgaa", sum := "c56702033e33b55eec0ad8182a9df2c356456321eca661d4cc75cf5e48f0a18c", func := "usher/usherkeep.RampRises", spec := "rampRises", apart := false }
def RampRisesSaid : Prop := rampRisesRow.holds Try.pinned (OpenSpec.ofChange rampRisesSpec)

/-- ITS FALSE NEIGHBOUR: 'it returns false'. Refute it at one input. -/
def rampRisesWrong : ChangeSpec := { name := "rampRises", fn := fun _ => fun
  | [d1, d2, d3, d4] => { results := [.lit (.bool false)], args := [d1, d2, d3, d4] }
  | _ => none }
def RampRisesWrongFalsely : Prop := rampRisesRow.holds Try.pinned (OpenSpec.ofChange rampRisesWrong)

/-- 'usherkeep.RampShare': WHATEVER THE INPUT: true; the input reads as it did. -/
def rampShareSpec : ChangeSpec := { name := "rampShare", fn := fun _ => fun
  | [d1, d2, d3] => { results := [.lit (.bool true)], args := [d1, d2, d3] }
  | _ => none }
def rampShareRow : OpenClaim := { program := "ytafhdlnhlemdgaa", sum := "c56702033e33b55eec0ad8182a9df2c356456321eca661d4cc75cf5e48f0a18c", func := "usher/usherkeep.RampShare", spec := "rampShare", apart := false }
def RampShareSaid : Prop := rampShareRow.holds Try.pinned (OpenSpec.ofChange rampShareSpec)

/-- ITS FALSE NEIGHBOUR: 'it returns false'. Refute it at one input. -/
def rampShareWrong : ChangeSpec := { name := "rampShare", fn := fun _ => fun
  | [d1, d2, d3] => { results := [.lit (.bool false)], args := [d1, d2, d3] }
  | _ => none }
def RampShareWrongFalsely : Prop := rampShareRow.holds Try.pinned (OpenSpec.ofChange rampShareWrong)

/-- 'usherkeep.RampAtOnce': WHATEVER THE INPUT: true; the input reads as it did. -/
def rampAtOnceSpec : ChangeSpec := { name := "rampAtOnce", fn := fun _ => fun
  | [d1, d2] => { results := [.lit (.bool true)], args := [d1, d2] }
  | _ => none }
def rampAtOnceRow : OpenClaim := { program := "ytafhdlnhlemdgaa", sum := "c56702033e33b55eec0ad8182a9df2c356456321eca661d4cc75cf5e48f0a18c", func := "usher/usherkeep.RampAtOnce", spec := "rampAtOnce", apart := false }
def RampAtOnceSaid : Prop := rampAtOnceRow.holds Try.pinned (OpenSpec.ofChange rampAtOnceSpec)

/-- ITS FALSE NEIGHBOUR: 'it returns false'. Refute it at one input. -/
def rampAtOnceWrong : ChangeSpec := { name := "rampAtOnce", fn := fun _ => fun
  | [d1, d2] => { results := [.lit (.bool false)], args := [d1, d2] }
  | _ => none }
def RampAtOnceWrongFalsely : Prop := rampAtOnceRow.holds Try.pinned (OpenSpec.ofChange rampAtOnceWrong)

/- THE SECOND FORM. 'bulk': how many values and letters a reading holds, each counted each time it is reached (what is shared counts as often as it is met; a slice's spare places count too). A statement '..UptoSaid' is the law's where the arguments, and the package variables that the reading takes, are together of bulk at most 1048576: NARROWER than '..Said'. Prove '..Said' where nothing that the law and all that it calls make is longer than what came in: it says more and counts as full. Else prove '..UptoSaid'. A law counts once. -/
mutual
def uptoBulk {H : Type} : DataW H → Nat
  | .lit (.string bytes) => bytes.length + 1
  | .lit _ => 1
  | .nil => 1
  | .ptr d => uptoBulk d + 1
  | .slice elems spare => uptoBulkAll elems + uptoBulkAll spare + 1
  | .agg parts => uptoBulkAll parts + 1
  | .iface _ d => uptoBulk d + 1
  | .map entries => uptoBulkEntries entries + 1
  | .held _ => 1
def uptoBulkAll {H : Type} : List (DataW H) → Nat
  | [] => 0
  | d :: r => uptoBulk d + uptoBulkAll r
def uptoBulkEntries {H : Type} : List (Lit × DataW H) → Nat
  | [] => 0
  | x :: r => uptoBulkEntry x + uptoBulkEntries r
def uptoBulkEntry {H : Type} : Lit × DataW H → Nat
  | (.string bytes, d) => bytes.length + uptoBulk d + 1
  | (_, d) => uptoBulk d + 1
 end
def uptoSmall : (H : Type) → List (DataW H) → Bool := fun _ ds => decide (uptoBulkAll ds ≤ 1048576)
def OpenSpec.upto (s : _root_.Go.ChangeSpec) : _root_.Go.OpenSpec := { _root_.Go.OpenSpec.ofChange s with cond := some uptoSmall }

/-- 'usherlaw.RampWeights', WHERE WHAT IT READS IS OF BULK AT MOST 1048576: true; the input reads as it did. -/
def rampWeightsUptoRow : OpenClaim := { program := "ytafhdlnhlemdgaa", sum := "c56702033e33b55eec0ad8182a9df2c356456321eca661d4cc75cf5e48f0a18c", func := "usher/usherlaw.RampWeights", spec := "rampWeights", apart := false, narrowed := true }
def RampWeightsUptoSaid : Prop := rampWeightsUptoRow.holds Try.pinned (OpenSpec.upto rampWeightsSpec)

/-- 'usherlaw.RampFulls', WHERE WHAT IT READS IS OF BULK AT MOST 1048576: true; the input reads as it did. -/
def rampFullsUptoRow : OpenClaim := { program := "ytafhdlnhlemdgaa", sum := "c56702033e33b55eec0ad8182a9df2c356456321eca661d4cc75cf5e48f0a18c", func := "usher/usherlaw.RampFulls", spec := "rampFulls", apart := false, narrowed := true }
def RampFullsUptoSaid : Prop := rampFullsUptoRow.holds Try.pinned (OpenSpec.upto rampFullsSpec)

/-- 'usherkeep.RampRises', WHERE WHAT IT READS IS OF BULK AT MOST 1048576: true; the input reads as it did. -/
def rampRisesUptoRow : OpenClaim := { program := "ytafhdlnhlemdgaa", sum := "c56702033e33b55eec0ad8182a9df2c356456321eca661d4cc75cf5e48f0a18c", func := "usher/usherkeep.RampRises", spec := "rampRises", apart := false, narrowed := true }
def RampRisesUptoSaid : Prop := rampRisesUptoRow.holds Try.pinned (OpenSpec.upto rampRisesSpec)

/-- 'usherkeep.RampShare', WHERE WHAT IT READS IS OF BULK AT MOST 1048576: true; the input reads as it did. -/
def rampShareUptoRow : OpenClaim := { program := "ytafhdlnhlemdgaa", sum := "c56702033e33b55eec0ad8182a9df2c356456321eca661d4cc75cf5e48f0a18c", func := "usher/usherkeep.RampShare", spec := "rampShare", apart := false, narrowed := true }
def RampShareUptoSaid : Prop := rampShareUptoRow.holds Try.pinned (OpenSpec.upto rampShareSpec)

/-- 'usherkeep.RampAtOnce', WHERE WHAT IT READS IS OF BULK AT MOST 1048576: true; the input reads as it did. -/
def rampAtOnceUptoRow : OpenClaim := { program := "ytafhdlnhlemdgaa", sum := "c56702033e33b55eec0ad8182a9df2c356456321eca661d4cc75cf5e48f0a18c", func := "usher/usherkeep.RampAtOnce", spec := "rampAtOnce", apart := false, narrowed := true }
def RampAtOnceUptoSaid : Prop := rampAtOnceUptoRow.holds Try.pinned (OpenSpec.upto rampAtOnceSpec)

end Rows
end Go.Proofs.Ytafhdlnhlemdgaa
