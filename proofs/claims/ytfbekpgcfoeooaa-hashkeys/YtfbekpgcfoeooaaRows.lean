/-
  No cell of these rows narrows 'for every input' (looked for: loops, veiled, ifaces, maps, wideKeys, modest, calm, conditions, laid).
  DERIVED. THE GIVEN ROWS OF THIS SEAT. 5 by the template 'for every input the law returns true; each argument reads behind the call as it read before'; 0 by the template 'total and deterministic' (their statements: YtfbekpgcfoeooaaTotals.lean).
  GIVEN WITH THE SEED: the statements are not yours to turn. If you find one false, say at which input.
  Laid BY PROGRAM, IN A SANDBOX (cutbox-rows.mjs): the forced cells as the released guide's own fill.sh prints them over the translation 5e40d78e6892bac7… (all of the seat's roots in one cut). By AI agents, Wed Nov 11 2026. No macro, syntax, notation, axiom, sorry.
-/
import Derived.Test.YtfbekpgcfoeooaaChecked
import GoSem.Claim
import GoSem.ClaimJoined
import GoSem.ClaimMapViews
import Derived.JoinedTies
import Derived.KernelRfl
namespace Go.Proofs.Ytfbekpgcfoeooaa
/- THE CELL 'sum', in the pinned program and in every row, IS THE sha256 OF THE DUMP (.gsa) THAT YtfbekpgcfoeooaaProg.lean LOADS. Nothing in Lean hashes anything: it is a label: what it is worth is what the hold of that sum in a sandbox is worth. -/
noncomputable def Try.pinned : Pinned := { name := "ytfbekpgcfoeooaa", sum := "5e40d78e6892bac762da984836f3cbcdd3a4759411b17bc5420d500d5fa18845", checked := Try.checked }
namespace Rows
def none {H : Type} : Left H := { results := [], args := [] }

/-- 'usherlaw.HashKeys': WHATEVER THE INPUT: true; the input reads as it did. -/
def hashKeysSpec : ChangeSpec := { name := "hashKeys", fn := fun _ => fun
  | [d] => { results := [.lit (.bool true)], args := [d] }
  | _ => none }
def hashKeysRow : OpenClaim := { program := "ytfbekpgcfoeooaa", sum := "5e40d78e6892bac762da984836f3cbcdd3a4759411b17bc5420d500d5fa18845", func := "usher/usherlaw.HashKeys", spec := "hashKeys", apart := false }
def HashKeysSaid : Prop := hashKeysRow.holds Try.pinned (OpenSpec.ofChange hashKeysSpec)

/-- ITS FALSE NEIGHBOUR: 'it returns false'. Refute it at one input. -/
def hashKeysWrong : ChangeSpec := { name := "hashKeys", fn := fun _ => fun
  | [d] => { results := [.lit (.bool false)], args := [d] }
  | _ => none }
def HashKeysWrongFalsely : Prop := hashKeysRow.holds Try.pinned (OpenSpec.ofChange hashKeysWrong)

/-- 'usherlaw.HashSpots': WHATEVER THE INPUT: true; the input reads as it did. -/
def hashSpotsSpec : ChangeSpec := { name := "hashSpots", fn := fun _ => fun
  | [d1, d2] => { results := [.lit (.bool true)], args := [d1, d2] }
  | _ => none }
def hashSpotsRow : OpenClaim := { program := "ytfbekpgcfoeooaa", sum := "5e40d78e6892bac762da984836f3cbcdd3a4759411b17bc5420d500d5fa18845", func := "usher/usherlaw.HashSpots", spec := "hashSpots", apart := false }
def HashSpotsSaid : Prop := hashSpotsRow.holds Try.pinned (OpenSpec.ofChange hashSpotsSpec)

/-- ITS FALSE NEIGHBOUR: 'it returns false'. Refute it at one input. -/
def hashSpotsWrong : ChangeSpec := { name := "hashSpots", fn := fun _ => fun
  | [d1, d2] => { results := [.lit (.bool false)], args := [d1, d2] }
  | _ => none }
def HashSpotsWrongFalsely : Prop := hashSpotsRow.holds Try.pinned (OpenSpec.ofChange hashSpotsWrong)

/-- 'usherkeep.HashOne': WHATEVER THE INPUT: true; the input reads as it did. -/
def hashOneSpec : ChangeSpec := { name := "hashOne", fn := fun _ => fun
  | [d1, d2, d3] => { results := [.lit (.bool true)], args := [d1, d2, d3] }
  | _ => none }
def hashOneRow : OpenClaim := { program := "ytfbekpgcfoeooaa", sum := "5e40d78e6892bac762da984836f3cbcdd3a4759411b17bc5420d500d5fa18845", func := "usher/usherkeep.HashOne", spec := "hashOne", apart := false }
def HashOneSaid : Prop := hashOneRow.holds Try.pinned (OpenSpec.ofChange hashOneSpec)

/-- ITS FALSE NEIGHBOUR: 'it returns false'. Refute it at one input. -/
def hashOneWrong : ChangeSpec := { name := "hashOne", fn := fun _ => fun
  | [d1, d2, d3] => { results := [.lit (.bool false)], args := [d1, d2, d3] }
  | _ => none }
def HashOneWrongFalsely : Prop := hashOneRow.holds Try.pinned (OpenSpec.ofChange hashOneWrong)

/-- 'usherkeep.HashBounds': WHATEVER THE INPUT: true; the input reads as it did. -/
def hashBoundsSpec : ChangeSpec := { name := "hashBounds", fn := fun _ => fun
  | [d1, d2, d3] => { results := [.lit (.bool true)], args := [d1, d2, d3] }
  | _ => none }
def hashBoundsRow : OpenClaim := { program := "ytfbekpgcfoeooaa", sum := "5e40d78e6892bac762da984836f3cbcdd3a4759411b17bc5420d500d5fa18845", func := "usher/usherkeep.HashBounds", spec := "hashBounds", apart := false }
def HashBoundsSaid : Prop := hashBoundsRow.holds Try.pinned (OpenSpec.ofChange hashBoundsSpec)

/-- ITS FALSE NEIGHBOUR: 'it returns false'. Refute it at one input. -/
def hashBoundsWrong : ChangeSpec := { name := "hashBounds", fn := fun _ => fun
  | [d1, d2, d3] => { results := [.lit (.bool false)], args := [d1, d2, d3] }
  | _ => none }
def HashBoundsWrongFalsely : Prop := hashBoundsRow.holds Try.pinned (OpenSpec.ofChange hashBoundsWrong)

/-- 'usherkeep.HashSpot': WHATEVER THE INPUT: true; the input reads as it did. -/
def hashSpotSpec : ChangeSpec := { name := "hashSpot", fn := fun _ => fun
  | [d1, d2, d3, d4] => { results := [.lit (.bool true)], args := [d1, d2, d3, d4] }
  | _ => none }
def hashSpotRow : OpenClaim := { program := "ytfbekpgcfoeooaa", sum := "5e40d78e6892bac762da984836f3cbcdd3a4759411b17bc5420d500d5fa18845", func := "usher/usherkeep.HashSpot", spec := "hashSpot", apart := false }
def HashSpotSaid : Prop := hashSpotRow.holds Try.pinned (OpenSpec.ofChange hashSpotSpec)

/-- ITS FALSE NEIGHBOUR: 'it returns false'. Refute it at one input. -/
def hashSpotWrong : ChangeSpec := { name := "hashSpot", fn := fun _ => fun
  | [d1, d2, d3, d4] => { results := [.lit (.bool false)], args := [d1, d2, d3, d4] }
  | _ => none }
def HashSpotWrongFalsely : Prop := hashSpotRow.holds Try.pinned (OpenSpec.ofChange hashSpotWrong)

/- THE SECOND FORM. 'bulk': how many values and letters a reading holds, each counted each time it is reached (what is shared counts as often as it is met; a slice's spare places count too). A statement '..UptoSaid' is the law's where the arguments, and the package variables that the reading takes, are together of bulk at most 1048576: NARROWER than '..Said'. Prove '..Said' where nothing that the law and all that it calls make is longer than what came in: it says more and counts as full. Else prove '..UptoSaid'. A law counts once. -/
mutual
def uptoBulk {H : Type} : DataW H → Nat
  | .lit (.string bytes) => bytes.length + 1
  | .lit _ => 1
  | .nil => 1
  | .ptr d => uptoBulk d + 1
  | .slice elems spare => uptoBulkAll elems + uptoBulkAll spare + 1
  | .agg parts => uptoBulkAll parts + 1
  | .iface _ d => uptoBulk d + 1
  | .map entries => uptoBulkEntries entries + 1
  | .held _ => 1
def uptoBulkAll {H : Type} : List (DataW H) → Nat
  | [] => 0
  | d :: r => uptoBulk d + uptoBulkAll r
def uptoBulkEntries {H : Type} : List (Lit × DataW H) → Nat
  | [] => 0
  | x :: r => uptoBulkEntry x + uptoBulkEntries r
def uptoBulkEntry {H : Type} : Lit × DataW H → Nat
  | (.string bytes, d) => bytes.length + uptoBulk d + 1
  | (_, d) => uptoBulk d + 1
 end
def uptoSmall : (H : Type) → List (DataW H) → Bool := fun _ ds => decide (uptoBulkAll ds ≤ 1048576)
def OpenSpec.upto (s : _root_.Go.ChangeSpec) : _root_.Go.OpenSpec := { _root_.Go.OpenSpec.ofChange s with cond := some uptoSmall }

/-- 'usherlaw.HashKeys', WHERE WHAT IT READS IS OF BULK AT MOST 1048576: true; the input reads as it did. -/
def hashKeysUptoRow : OpenClaim := { program := "ytfbekpgcfoeooaa", sum := "5e40d78e6892bac762da984836f3cbcdd3a4759411b17bc5420d500d5fa18845", func := "usher/usherlaw.HashKeys", spec := "hashKeys", apart := false, narrowed := true }
def HashKeysUptoSaid : Prop := hashKeysUptoRow.holds Try.pinned (OpenSpec.upto hashKeysSpec)

/-- 'usherlaw.HashSpots', WHERE WHAT IT READS IS OF BULK AT MOST 1048576: true; the input reads as it did. -/
def hashSpotsUptoRow : OpenClaim := { program := "ytfbekpgcfoeooaa", sum := "5e40d78e6892bac762da984836f3cbcdd3a4759411b17bc5420d500d5fa18845", func := "usher/usherlaw.HashSpots", spec := "hashSpots", apart := false, narrowed := true }
def HashSpotsUptoSaid : Prop := hashSpotsUptoRow.holds Try.pinned (OpenSpec.upto hashSpotsSpec)

/-- 'usherkeep.HashOne', WHERE WHAT IT READS IS OF BULK AT MOST 1048576: true; the input reads as it did. -/
def hashOneUptoRow : OpenClaim := { program := "ytfbekpgcfoeooaa", sum := "5e40d78e6892bac762da984836f3cbcdd3a4759411b17bc5420d500d5fa18845", func := "usher/usherkeep.HashOne", spec := "hashOne", apart := false, narrowed := true }
def HashOneUptoSaid : Prop := hashOneUptoRow.holds Try.pinned (OpenSpec.upto hashOneSpec)

/-- 'usherkeep.HashBounds', WHERE WHAT IT READS IS OF BULK AT MOST 1048576: true; the input reads as it did. -/
def hashBoundsUptoRow : OpenClaim := { program := "ytfbekpgcfoeooaa", sum := "5e40d78e6892bac762da984836f3cbcdd3a4759411b17bc5420d500d5fa18845", func := "usher/usherkeep.HashBounds", spec := "hashBounds", apart := false, narrowed := true }
def HashBoundsUptoSaid : Prop := hashBoundsUptoRow.holds Try.pinned (OpenSpec.upto hashBoundsSpec)

/-- 'usherkeep.HashSpot', WHERE WHAT IT READS IS OF BULK AT MOST 1048576: true; the input reads as it did. -/
def hashSpotUptoRow : OpenClaim := { program := "ytfbekpgcfoeooaa", sum := "5e40d78e6892bac762da984836f3cbcdd3a4759411b17bc5420d500d5fa18845", func := "usher/usherkeep.HashSpot", spec := "hashSpot", apart := false, narrowed := true }
def HashSpotUptoSaid : Prop := hashSpotUptoRow.holds Try.pinned (OpenSpec.upto hashSpotSpec)

end Rows
end Go.Proofs.Ytfbekpgcfoeooaa
