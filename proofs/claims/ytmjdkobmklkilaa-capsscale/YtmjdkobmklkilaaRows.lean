/-
  No cell of these rows narrows 'for every input' (looked for: loops, veiled, ifaces, maps, wideKeys, modest, calm, conditions, laid).
  DERIVED. THE GIVEN ROWS OF THIS SEAT. 6 by the template 'for every input the law returns true; each argument reads behind the call as it read before'; 0 by the template 'total and deterministic' (their statements: YtmjdkobmklkilaaTotals.lean).
  GIVEN WITH THE SEED: the statements are not yours to turn. If you find one false, say at which input.
  Laid BY PROGRAM, IN A SANDBOX (cutbox-rows.mjs): the forced cells as the released guide's own fill.sh prints them over the translation a8695c51f3f547a6… (all of the seat's roots in one cut). By AI agents, Wed Nov 11 2026. No macro, syntax, notation, axiom, sorry.
-/
import Derived.Test.YtmjdkobmklkilaaChecked
import GoSem.Claim
import GoSem.ClaimJoined
import GoSem.ClaimMapViews
import Derived.JoinedTies
import Derived.KernelRfl
namespace Go.Proofs.Ytmjdkobmklkilaa
/- THE CELL 'sum', in the pinned program and in every row, IS THE sha256 OF THE DUMP (.gsa) THAT YtmjdkobmklkilaaProg.lean LOADS. Nothing in Lean hashes anything: it is a label: what it is worth is what the hold of that sum in a sandbox is worth. -/
noncomputable def Try.pinned : Pinned := { name := "ytmjdkobmklkilaa", sum := "a8695c51f3f547a60b274935d5534261f2248e30de8bc25d0c52357136597438", checked := Try.checked }
namespace Rows
def none {H : Type} : Left H := { results := [], args := [] }

/-- 'usherlaw.BoundCap': WHATEVER THE INPUT: true; the input reads as it did. -/
def boundCapSpec : ChangeSpec := { name := "boundCap", fn := fun _ => fun
  | [d1, d2, d3, d4, d5] => { results := [.lit (.bool true)], args := [d1, d2, d3, d4, d5] }
  | _ => none }
def boundCapRow : OpenClaim := { program := "ytmjdkobmklkilaa", sum := "a8695c51f3f547a60b274935d5534261f2248e30de8bc25d0c52357136597438", func := "usher/usherlaw.BoundCap", spec := "boundCap", apart := false }
def BoundCapSaid : Prop := boundCapRow.holds Try.pinned (OpenSpec.ofChange boundCapSpec)

/-- ITS FALSE NEIGHBOUR: 'it returns false'. Refute it at one input. -/
def boundCapWrong : ChangeSpec := { name := "boundCap", fn := fun _ => fun
  | [d1, d2, d3, d4, d5] => { results := [.lit (.bool false)], args := [d1, d2, d3, d4, d5] }
  | _ => none }
def BoundCapWrongFalsely : Prop := boundCapRow.holds Try.pinned (OpenSpec.ofChange boundCapWrong)

/-- 'usherlaw.BoundCaps': WHATEVER THE INPUT: true; the input reads as it did. -/
def boundCapsSpec : ChangeSpec := { name := "boundCaps", fn := fun _ => fun
  | [d1, d2, d3, d4] => { results := [.lit (.bool true)], args := [d1, d2, d3, d4] }
  | _ => none }
def boundCapsRow : OpenClaim := { program := "ytmjdkobmklkilaa", sum := "a8695c51f3f547a60b274935d5534261f2248e30de8bc25d0c52357136597438", func := "usher/usherlaw.BoundCaps", spec := "boundCaps", apart := false }
def BoundCapsSaid : Prop := boundCapsRow.holds Try.pinned (OpenSpec.ofChange boundCapsSpec)

/-- ITS FALSE NEIGHBOUR: 'it returns false'. Refute it at one input. -/
def boundCapsWrong : ChangeSpec := { name := "boundCaps", fn := fun _ => fun
  | [d1, d2, d3, d4] => { results := [.lit (.bool false)], args := [d1, d2, d3, d4] }
  | _ => none }
def BoundCapsWrongFalsely : Prop := boundCapsRow.holds Try.pinned (OpenSpec.ofChange boundCapsWrong)

/-- 'usherkeep.CapsEnough': WHATEVER THE INPUT: true; the input reads as it did. -/
def capsEnoughSpec : ChangeSpec := { name := "capsEnough", fn := fun _ => fun
  | [d1, d2, d3, d4] => { results := [.lit (.bool true)], args := [d1, d2, d3, d4] }
  | _ => none }
def capsEnoughRow : OpenClaim := { program := "ytmjdkobmklkilaa", sum := "a8695c51f3f547a60b274935d5534261f2248e30de8bc25d0c52357136597438", func := "usher/usherkeep.CapsEnough", spec := "capsEnough", apart := false }
def CapsEnoughSaid : Prop := capsEnoughRow.holds Try.pinned (OpenSpec.ofChange capsEnoughSpec)

/-- ITS FALSE NEIGHBOUR: 'it returns false'. Refute it at one input. -/
def capsEnoughWrong : ChangeSpec := { name := "capsEnough", fn := fun _ => fun
  | [d1, d2, d3, d4] => { results := [.lit (.bool false)], args := [d1, d2, d3, d4] }
  | _ => none }
def CapsEnoughWrongFalsely : Prop := capsEnoughRow.holds Try.pinned (OpenSpec.ofChange capsEnoughWrong)

/-- 'usherkeep.CapRises': WHATEVER THE INPUT: true; the input reads as it did. -/
def capRisesSpec : ChangeSpec := { name := "capRises", fn := fun _ => fun
  | [d1, d2, d3, d4, d5] => { results := [.lit (.bool true)], args := [d1, d2, d3, d4, d5] }
  | _ => none }
def capRisesRow : OpenClaim := { program := "ytmjdkobmklkilaa", sum := "a8695c51f3f547a60b274935d5534261f2248e30de8bc25d0c52357136597438", func := "usher/usherkeep.CapRises", spec := "capRises", apart := false }
def CapRisesSaid : Prop := capRisesRow.holds Try.pinned (OpenSpec.ofChange capRisesSpec)

/-- ITS FALSE NEIGHBOUR: 'it returns false'. Refute it at one input. -/
def capRisesWrong : ChangeSpec := { name := "capRises", fn := fun _ => fun
  | [d1, d2, d3, d4, d5] => { results := [.lit (.bool false)], args := [d1, d2, d3, d4, d5] }
  | _ => none }
def CapRisesWrongFalsely : Prop := capRisesRow.holds Try.pinned (OpenSpec.ofChange capRisesWrong)

/-- 'usherkeep.CapsScale': WHATEVER THE INPUT: true; the input reads as it did. -/
def capsScaleSpec : ChangeSpec := { name := "capsScale", fn := fun _ => fun
  | [d1, d2, d3, d4] => { results := [.lit (.bool true)], args := [d1, d2, d3, d4] }
  | _ => none }
def capsScaleRow : OpenClaim := { program := "ytmjdkobmklkilaa", sum := "a8695c51f3f547a60b274935d5534261f2248e30de8bc25d0c52357136597438", func := "usher/usherkeep.CapsScale", spec := "capsScale", apart := false }
def CapsScaleSaid : Prop := capsScaleRow.holds Try.pinned (OpenSpec.ofChange capsScaleSpec)

/-- ITS FALSE NEIGHBOUR: 'it returns false'. Refute it at one input. -/
def capsScaleWrong : ChangeSpec := { name := "capsScale", fn := fun _ => fun
  | [d1, d2, d3, d4] => { results := [.lit (.bool false)], args := [d1, d2, d3, d4] }
  | _ => none }
def CapsScaleWrongFalsely : Prop := capsScaleRow.holds Try.pinned (OpenSpec.ofChange capsScaleWrong)

/-- 'usherkeep.CapLone': WHATEVER THE INPUT: true; the input reads as it did. -/
def capLoneSpec : ChangeSpec := { name := "capLone", fn := fun _ => fun
  | [d1, d2, d3, d4] => { results := [.lit (.bool true)], args := [d1, d2, d3, d4] }
  | _ => none }
def capLoneRow : OpenClaim := { program := "ytmjdkobmklkilaa", sum := "a8695c51f3f547a60b274935d5534261f2248e30de8bc25d0c52357136597438", func := "usher/usherkeep.CapLone", spec := "capLone", apart := false }
def CapLoneSaid : Prop := capLoneRow.holds Try.pinned (OpenSpec.ofChange capLoneSpec)

/-- ITS FALSE NEIGHBOUR: 'it returns false'. Refute it at one input. -/
def capLoneWrong : ChangeSpec := { name := "capLone", fn := fun _ => fun
  | [d1, d2, d3, d4] => { results := [.lit (.bool false)], args := [d1, d2, d3, d4] }
  | _ => none }
def CapLoneWrongFalsely : Prop := capLoneRow.holds Try.pinned (OpenSpec.ofChange capLoneWrong)

/- THE SECOND FORM. 'bulk': how many values and letters a reading holds, each counted each time it is reached (what is shared counts as often as it is met; a slice's spare places count too). A statement '..UptoSaid' is the law's where the arguments, and the package variables that the reading takes, are together of bulk at most 1048576: NARROWER than '..Said'. Prove '..Said' where nothing that the law and all that it calls make is longer than what came in: it says more and counts as full. Else prove '..UptoSaid'. A law counts once. -/
mutual
def uptoBulk {H : Type} : DataW H → Nat
  | .lit (.string bytes) => bytes.length + 1
  | .lit _ => 1
  | .nil => 1
  | .ptr d => uptoBulk d + 1
  | .slice elems spare => uptoBulkAll elems + uptoBulkAll spare + 1
  | .agg parts => uptoBulkAll parts + 1
  | .iface _ d => uptoBulk d + 1
  | .map entries => uptoBulkEntries entries + 1
  | .held _ => 1
def uptoBulkAll {H : Type} : List (DataW H) → Nat
  | [] => 0
  | d :: r => uptoBulk d + uptoBulkAll r
def uptoBulkEntries {H : Type} : List (Lit × DataW H) → Nat
  | [] => 0
  | x :: r => uptoBulkEntry x + uptoBulkEntries r
def uptoBulkEntry {H : Type} : Lit × DataW H → Nat
  | (.string bytes, d) => bytes.length + uptoBulk d + 1
  | (_, d) => uptoBulk d + 1
 end
def uptoSmall : (H : Type) → List (DataW H) → Bool := fun _ ds => decide (uptoBulkAll ds ≤ 1048576)
def OpenSpec.upto (s : _root_.Go.ChangeSpec) : _root_.Go.OpenSpec := { _root_.Go.OpenSpec.ofChange s with cond := some uptoSmall }

/-- 'usherlaw.BoundCap', WHERE WHAT IT READS IS OF BULK AT MOST 1048576: true; the input reads as it did. -/
def boundCapUptoRow : OpenClaim := { program := "ytmjdkobmklkilaa", sum := "a8695c51f3f547a60b274935d5534261f2248e30de8bc25d0c52357136597438", func := "usher/usherlaw.BoundCap", spec := "boundCap", apart := false, narrowed := true }
def BoundCapUptoSaid : Prop := boundCapUptoRow.holds Try.pinned (OpenSpec.upto boundCapSpec)

/-- 'usherlaw.BoundCaps', WHERE WHAT IT READS IS OF BULK AT MOST 1048576: true; the input reads as it did. -/
def boundCapsUptoRow : OpenClaim := { program := "ytmjdkobmklkilaa", sum := "a8695c51f3f547a60b274935d5534261f2248e30de8bc25d0c52357136597438", func := "usher/usherlaw.BoundCaps", spec := "boundCaps", apart := false, narrowed := true }
def BoundCapsUptoSaid : Prop := boundCapsUptoRow.holds Try.pinned (OpenSpec.upto boundCapsSpec)

/-- 'usherkeep.CapsEnough', WHERE WHAT IT READS IS OF BULK AT MOST 1048576: true; the input reads as it did. -/
def capsEnoughUptoRow : OpenClaim := { program := "ytmjdkobmklkilaa", sum := "a8695c51f3f547a60b274935d5534261f2248e30de8bc25d0c52357136597438", func := "usher/usherkeep.CapsEnough", spec := "capsEnough", apart := false, narrowed := true }
def CapsEnoughUptoSaid : Prop := capsEnoughUptoRow.holds Try.pinned (OpenSpec.upto capsEnoughSpec)

/-- 'usherkeep.CapRises', WHERE WHAT IT READS IS OF BULK AT MOST 1048576: true; the input reads as it did. -/
def capRisesUptoRow : OpenClaim := { program := "ytmjdkobmklkilaa", sum := "a8695c51f3f547a60b274935d5534261f2248e30de8bc25d0c52357136597438", func := "usher/usherkeep.CapRises", spec := "capRises", apart := false, narrowed := true }
def CapRisesUptoSaid : Prop := capRisesUptoRow.holds Try.pinned (OpenSpec.upto capRisesSpec)

/-- 'usherkeep.CapsScale', WHERE WHAT IT READS IS OF BULK AT MOST 1048576: true; the input reads as it did. -/
def capsScaleUptoRow : OpenClaim := { program := "ytmjdkobmklkilaa", sum := "a8695c51f3f547a60b274935d5534261f2248e30de8bc25d0c52357136597438", func := "usher/usherkeep.CapsScale", spec := "capsScale", apart := false, narrowed := true }
def CapsScaleUptoSaid : Prop := capsScaleUptoRow.holds Try.pinned (OpenSpec.upto capsScaleSpec)

/-- 'usherkeep.CapLone', WHERE WHAT IT READS IS OF BULK AT MOST 1048576: true; the input reads as it did. -/
def capLoneUptoRow : OpenClaim := { program := "ytmjdkobmklkilaa", sum := "a8695c51f3f547a60b274935d5534261f2248e30de8bc25d0c52357136597438", func := "usher/usherkeep.CapLone", spec := "capLone", apart := false, narrowed := true }
def CapLoneUptoSaid : Prop := capLoneUptoRow.holds Try.pinned (OpenSpec.upto capLoneSpec)

end Rows
end Go.Proofs.Ytmjdkobmklkilaa
