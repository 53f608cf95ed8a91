/-
  NARROWER THAN 'FOR EVERY INPUT', by the rows' own cells (each row's printed sentence says how): TopBound: laid · TopMoved: laid · TopRing: laid · TopDrain: laid · TopGone: laid · TopLone: laid · TopOnRing: laid.
  DERIVED. THE GIVEN ROWS OF THIS SEAT. 7 by the template 'for every input the law returns true; each argument reads behind the call as it read before'; 0 by the template 'total and deterministic' (their statements: YtlnbhjdhcmgljaaGreatDoorTotals.lean).
  GIVEN WITH THE SEED: the statements are not yours to turn. If you find one false, say at which input.
  Laid BY PROGRAM, IN A SANDBOX (cutbox-rows.mjs): the forced cells as the released guide's own fill.sh prints them over the translation 1f02d6a86a5f781b… (all of the seat's roots in one cut). By AI agents, Wed Nov 11 2026. No macro, syntax, notation, axiom, sorry.
-/
import Derived.Test.YtlnbhjdhcmgljaaGreatDoorChecked
import GoSem.Claim
import GoSem.ClaimJoined
import GoSem.ClaimMapViews
import Derived.JoinedTies
import Derived.KernelRfl
namespace Go.Proofs.YtlnbhjdhcmgljaaGreatDoor
/- THE CELL 'sum', in the pinned program and in every row, IS THE sha256 OF THE DUMP (.gsa) THAT YtlnbhjdhcmgljaaGreatDoorProg.lean LOADS. Nothing in Lean hashes anything: it is a label: what it is worth is what the hold of that sum in a sandbox is worth. -/
noncomputable def Tryz.pinned : Pinned := { name := "ytlnbhjdhcmgljaagreatdoor", sum := "1f02d6a86a5f781bda25af08b8a62d3d262f3bd2deefad59ba861b8467828abc", checked := Tryz.checked }
namespace Rows
def none {H : Type} : Left H := { results := [], args := [] }

/- WHAT THE LISTED PACKAGE-LEVEL VARIABLES READ AS WHEN THE CALL BEGINS. Each datum BY PROGRAM (the guide's laid-datum.mjs) off the statement by which the dump's own 'gosem.cut.vars' lays the variable. In a bare row this is a premise. The card (YtlnbhjdhcmgljaaGreatDoorCards.lean) ties it to the program's text. -/
def laid_usher_wheel_blocks {H : Type} : DataW H := .agg [.lit (.int .i64 8), .lit (.int .i64 64), .lit (.int .i64 512)]

/-- 'ushertop.TopBound': WHATEVER THE INPUT: true; the input reads as it did. -/
def topBoundSpec : ChangeSpec := { name := "topBound", fn := fun _ => fun
  | [d1, d2] => { results := [.lit (.bool true)], args := [d1, d2] }
  | _ => none }
def topBoundRow : OpenClaim := { program := "ytlnbhjdhcmgljaagreatdoor", sum := "1f02d6a86a5f781bda25af08b8a62d3d262f3bd2deefad59ba861b8467828abc", func := "usher/ushertop.TopBound", spec := "topBound", inPlace := ["slices.overlaps[usher/api.Timer]", "slices.overlaps[usher/api.Flow]", "slices.overlaps[usher/api.Life]"], unfollowed := true, recurses := true, named := ["usher/wheel.blocks"], apart := false, laid := [("usher/wheel.blocks", laid_usher_wheel_blocks)] }
def TopBoundSaid : Prop := topBoundRow.holds Tryz.pinned (OpenSpec.ofChange topBoundSpec)

/-- ITS FALSE NEIGHBOUR: 'it returns false'. Refute it at one input. -/
def topBoundWrong : ChangeSpec := { name := "topBound", fn := fun _ => fun
  | [d1, d2] => { results := [.lit (.bool false)], args := [d1, d2] }
  | _ => none }
def TopBoundWrongFalsely : Prop := topBoundRow.holds Tryz.pinned (OpenSpec.ofChange topBoundWrong)

/-- 'ushertop.TopMoved': WHATEVER THE INPUT: true; the input reads as it did. -/
def topMovedSpec : ChangeSpec := { name := "topMoved", fn := fun _ => fun
  | [d1, d2] => { results := [.lit (.bool true)], args := [d1, d2] }
  | _ => none }
def topMovedRow : OpenClaim := { program := "ytlnbhjdhcmgljaagreatdoor", sum := "1f02d6a86a5f781bda25af08b8a62d3d262f3bd2deefad59ba861b8467828abc", func := "usher/ushertop.TopMoved", spec := "topMoved", inPlace := ["slices.overlaps[usher/api.Timer]", "slices.overlaps[usher/api.Flow]", "slices.overlaps[usher/api.Life]"], unfollowed := true, recurses := true, named := ["usher/wheel.blocks"], apart := false, laid := [("usher/wheel.blocks", laid_usher_wheel_blocks)] }
def TopMovedSaid : Prop := topMovedRow.holds Tryz.pinned (OpenSpec.ofChange topMovedSpec)

/-- ITS FALSE NEIGHBOUR: 'it returns false'. Refute it at one input. -/
def topMovedWrong : ChangeSpec := { name := "topMoved", fn := fun _ => fun
  | [d1, d2] => { results := [.lit (.bool false)], args := [d1, d2] }
  | _ => none }
def TopMovedWrongFalsely : Prop := topMovedRow.holds Tryz.pinned (OpenSpec.ofChange topMovedWrong)

/-- 'ushertop.TopRing': WHATEVER THE INPUT: true; the input reads as it did. -/
def topRingSpec : ChangeSpec := { name := "topRing", fn := fun _ => fun
  | [d1, d2] => { results := [.lit (.bool true)], args := [d1, d2] }
  | _ => none }
def topRingRow : OpenClaim := { program := "ytlnbhjdhcmgljaagreatdoor", sum := "1f02d6a86a5f781bda25af08b8a62d3d262f3bd2deefad59ba861b8467828abc", func := "usher/ushertop.TopRing", spec := "topRing", inPlace := ["slices.overlaps[usher/api.Timer]", "slices.overlaps[usher/api.Flow]", "slices.overlaps[usher/api.Life]"], unfollowed := true, recurses := true, named := ["usher/wheel.blocks"], apart := false, laid := [("usher/wheel.blocks", laid_usher_wheel_blocks)] }
def TopRingSaid : Prop := topRingRow.holds Tryz.pinned (OpenSpec.ofChange topRingSpec)

/-- ITS FALSE NEIGHBOUR: 'it returns false'. Refute it at one input. -/
def topRingWrong : ChangeSpec := { name := "topRing", fn := fun _ => fun
  | [d1, d2] => { results := [.lit (.bool false)], args := [d1, d2] }
  | _ => none }
def TopRingWrongFalsely : Prop := topRingRow.holds Tryz.pinned (OpenSpec.ofChange topRingWrong)

/-- 'ushertop.TopDrain': WHATEVER THE INPUT: true; the input reads as it did. -/
def topDrainSpec : ChangeSpec := { name := "topDrain", fn := fun _ => fun
  | [d1, d2, d3, d4] => { results := [.lit (.bool true)], args := [d1, d2, d3, d4] }
  | _ => none }
def topDrainRow : OpenClaim := { program := "ytlnbhjdhcmgljaagreatdoor", sum := "1f02d6a86a5f781bda25af08b8a62d3d262f3bd2deefad59ba861b8467828abc", func := "usher/ushertop.TopDrain", spec := "topDrain", inPlace := ["slices.overlaps[usher/api.Timer]", "slices.overlaps[usher/api.Flow]", "slices.overlaps[usher/api.Life]"], unfollowed := true, recurses := true, named := ["usher/wheel.blocks"], apart := false, laid := [("usher/wheel.blocks", laid_usher_wheel_blocks)] }
def TopDrainSaid : Prop := topDrainRow.holds Tryz.pinned (OpenSpec.ofChange topDrainSpec)

/-- ITS FALSE NEIGHBOUR: 'it returns false'. Refute it at one input. -/
def topDrainWrong : ChangeSpec := { name := "topDrain", fn := fun _ => fun
  | [d1, d2, d3, d4] => { results := [.lit (.bool false)], args := [d1, d2, d3, d4] }
  | _ => none }
def TopDrainWrongFalsely : Prop := topDrainRow.holds Tryz.pinned (OpenSpec.ofChange topDrainWrong)

/-- 'ushertop.TopGone': WHATEVER THE INPUT: true; the input reads as it did. -/
def topGoneSpec : ChangeSpec := { name := "topGone", fn := fun _ => fun
  | [d1, d2] => { results := [.lit (.bool true)], args := [d1, d2] }
  | _ => none }
def topGoneRow : OpenClaim := { program := "ytlnbhjdhcmgljaagreatdoor", sum := "1f02d6a86a5f781bda25af08b8a62d3d262f3bd2deefad59ba861b8467828abc", func := "usher/ushertop.TopGone", spec := "topGone", inPlace := ["slices.overlaps[usher/api.Timer]", "slices.overlaps[usher/api.Flow]", "slices.overlaps[usher/api.Life]"], unfollowed := true, recurses := true, named := ["usher/wheel.blocks"], apart := false, laid := [("usher/wheel.blocks", laid_usher_wheel_blocks)] }
def TopGoneSaid : Prop := topGoneRow.holds Tryz.pinned (OpenSpec.ofChange topGoneSpec)

/-- ITS FALSE NEIGHBOUR: 'it returns false'. Refute it at one input. -/
def topGoneWrong : ChangeSpec := { name := "topGone", fn := fun _ => fun
  | [d1, d2] => { results := [.lit (.bool false)], args := [d1, d2] }
  | _ => none }
def TopGoneWrongFalsely : Prop := topGoneRow.holds Tryz.pinned (OpenSpec.ofChange topGoneWrong)

/-- 'ushertop.TopLone': WHATEVER THE INPUT: true; the input reads as it did. -/
def topLoneSpec : ChangeSpec := { name := "topLone", fn := fun _ => fun
  | [d1, d2] => { results := [.lit (.bool true)], args := [d1, d2] }
  | _ => none }
def topLoneRow : OpenClaim := { program := "ytlnbhjdhcmgljaagreatdoor", sum := "1f02d6a86a5f781bda25af08b8a62d3d262f3bd2deefad59ba861b8467828abc", func := "usher/ushertop.TopLone", spec := "topLone", inPlace := ["slices.overlaps[usher/api.Timer]", "slices.overlaps[usher/api.Flow]", "slices.overlaps[usher/api.Life]"], unfollowed := true, recurses := true, named := ["usher/wheel.blocks"], apart := false, laid := [("usher/wheel.blocks", laid_usher_wheel_blocks)] }
def TopLoneSaid : Prop := topLoneRow.holds Tryz.pinned (OpenSpec.ofChange topLoneSpec)

/-- ITS FALSE NEIGHBOUR: 'it returns false'. Refute it at one input. -/
def topLoneWrong : ChangeSpec := { name := "topLone", fn := fun _ => fun
  | [d1, d2] => { results := [.lit (.bool false)], args := [d1, d2] }
  | _ => none }
def TopLoneWrongFalsely : Prop := topLoneRow.holds Tryz.pinned (OpenSpec.ofChange topLoneWrong)

/-- 'ushertop.TopOnRing': WHATEVER THE INPUT: true; the input reads as it did. -/
def topOnRingSpec : ChangeSpec := { name := "topOnRing", fn := fun _ => fun
  | [d1, d2, d3] => { results := [.lit (.bool true)], args := [d1, d2, d3] }
  | _ => none }
def topOnRingRow : OpenClaim := { program := "ytlnbhjdhcmgljaagreatdoor", sum := "1f02d6a86a5f781bda25af08b8a62d3d262f3bd2deefad59ba861b8467828abc", func := "usher/ushertop.TopOnRing", spec := "topOnRing", inPlace := ["slices.overlaps[usher/api.Timer]", "slices.overlaps[usher/api.Flow]", "slices.overlaps[usher/api.Life]"], unfollowed := true, recurses := true, named := ["usher/wheel.blocks"], apart := false, laid := [("usher/wheel.blocks", laid_usher_wheel_blocks)] }
def TopOnRingSaid : Prop := topOnRingRow.holds Tryz.pinned (OpenSpec.ofChange topOnRingSpec)

/-- ITS FALSE NEIGHBOUR: 'it returns false'. Refute it at one input. -/
def topOnRingWrong : ChangeSpec := { name := "topOnRing", fn := fun _ => fun
  | [d1, d2, d3] => { results := [.lit (.bool false)], args := [d1, d2, d3] }
  | _ => none }
def TopOnRingWrongFalsely : Prop := topOnRingRow.holds Tryz.pinned (OpenSpec.ofChange topOnRingWrong)

/- THE SECOND FORM. 'bulk': how many values and letters a reading holds, each counted each time it is reached (what is shared counts as often as it is met; a slice's spare places count too). A statement '..UptoSaid' is the law's where the arguments, and the package variables that the reading takes, are together of bulk at most 1048576: NARROWER than '..Said'. Prove '..Said' where nothing that the law and all that it calls make is longer than what came in: it says more and counts as full. Else prove '..UptoSaid'. A law counts once. -/
mutual
def uptoBulk {H : Type} : DataW H → Nat
  | .lit (.string bytes) => bytes.length + 1
  | .lit _ => 1
  | .nil => 1
  | .ptr d => uptoBulk d + 1
  | .slice elems spare => uptoBulkAll elems + uptoBulkAll spare + 1
  | .agg parts => uptoBulkAll parts + 1
  | .iface _ d => uptoBulk d + 1
  | .map entries => uptoBulkEntries entries + 1
  | .held _ => 1
def uptoBulkAll {H : Type} : List (DataW H) → Nat
  | [] => 0
  | d :: r => uptoBulk d + uptoBulkAll r
def uptoBulkEntries {H : Type} : List (Lit × DataW H) → Nat
  | [] => 0
  | x :: r => uptoBulkEntry x + uptoBulkEntries r
def uptoBulkEntry {H : Type} : Lit × DataW H → Nat
  | (.string bytes, d) => bytes.length + uptoBulk d + 1
  | (_, d) => uptoBulk d + 1
 end
def uptoSmall : (H : Type) → List (DataW H) → Bool := fun _ ds => decide (uptoBulkAll ds ≤ 1048576)
def OpenSpec.upto (s : _root_.Go.ChangeSpec) : _root_.Go.OpenSpec := { _root_.Go.OpenSpec.ofChange s with cond := some uptoSmall }

/-- 'ushertop.TopBound', WHERE WHAT IT READS IS OF BULK AT MOST 1048576: true; the input reads as it did. -/
def topBoundUptoRow : OpenClaim := { program := "ytlnbhjdhcmgljaagreatdoor", sum := "1f02d6a86a5f781bda25af08b8a62d3d262f3bd2deefad59ba861b8467828abc", func := "usher/ushertop.TopBound", spec := "topBound", inPlace := ["slices.overlaps[usher/api.Timer]", "slices.overlaps[usher/api.Flow]", "slices.overlaps[usher/api.Life]"], unfollowed := true, recurses := true, named := ["usher/wheel.blocks"], apart := false, laid := [("usher/wheel.blocks", laid_usher_wheel_blocks)], narrowed := true }
def TopBoundUptoSaid : Prop := topBoundUptoRow.holds Tryz.pinned (OpenSpec.upto topBoundSpec)

/-- 'ushertop.TopMoved', WHERE WHAT IT READS IS OF BULK AT MOST 1048576: true; the input reads as it did. -/
def topMovedUptoRow : OpenClaim := { program := "ytlnbhjdhcmgljaagreatdoor", sum := "1f02d6a86a5f781bda25af08b8a62d3d262f3bd2deefad59ba861b8467828abc", func := "usher/ushertop.TopMoved", spec := "topMoved", inPlace := ["slices.overlaps[usher/api.Timer]", "slices.overlaps[usher/api.Flow]", "slices.overlaps[usher/api.Life]"], unfollowed := true, recurses := true, named := ["usher/wheel.blocks"], apart := false, laid := [("usher/wheel.blocks", laid_usher_wheel_blocks)], narrowed := true }
def TopMovedUptoSaid : Prop := topMovedUptoRow.holds Tryz.pinned (OpenSpec.upto topMovedSpec)

/-- 'ushertop.TopRing', WHERE WHAT IT READS IS OF BULK AT MOST 1048576: true; the input reads as it did. -/
def topRingUptoRow : OpenClaim := { program := "ytlnbhjdhcmgljaagreatdoor", sum := "1f02d6a86a5f781bda25af08b8a62d3d262f3bd2deefad59ba861b8467828abc", func := "usher/ushertop.TopRing", spec := "topRing", inPlace := ["slices.overlaps[usher/api.Timer]", "slices.overlaps[usher/api.Flow]", "slices.overlaps[usher/api.Life]"], unfollowed := true, recurses := true, named := ["usher/wheel.blocks"], apart := false, laid := [("usher/wheel.blocks", laid_usher_wheel_blocks)], narrowed := true }
def TopRingUptoSaid : Prop := topRingUptoRow.holds Tryz.pinned (OpenSpec.upto topRingSpec)

/-- 'ushertop.TopDrain', WHERE WHAT IT READS IS OF BULK AT MOST 1048576: true; the input reads as it did. -/
def topDrainUptoRow : OpenClaim := { program := "ytlnbhjdhcmgljaagreatdoor", sum := "1f02d6a86a5f781bda25af08b8a62d3d262f3bd2deefad59ba861b8467828abc", func := "usher/ushertop.TopDrain", spec := "topDrain", inPlace := ["slices.overlaps[usher/api.Timer]", "slices.overlaps[usher/api.Flow]", "slices.overlaps[usher/api.Life]"], unfollowed := true, recurses := true, named := ["usher/wheel.blocks"], apart := false, laid := [("usher/wheel.blocks", laid_usher_wheel_blocks)], narrowed := true }
def TopDrainUptoSaid : Prop := topDrainUptoRow.holds Tryz.pinned (OpenSpec.upto topDrainSpec)

/-- 'ushertop.TopGone', WHERE WHAT IT READS IS OF BULK AT MOST 1048576: true; the input reads as it did. -/
def topGoneUptoRow : OpenClaim := { program := "ytlnbhjdhcmgljaagreatdoor", sum := "1f02d6a86a5f781bda25af08b8a62d3d262f3bd2deefad59ba861b8467828abc", func := "usher/ushertop.TopGone", spec := "topGone", inPlace := ["slices.overlaps[usher/api.Timer]", "slices.overlaps[usher/api.Flow]", "slices.overlaps[usher/api.Life]"], unfollowed := true, recurses := true, named := ["usher/wheel.blocks"], apart := false, laid := [("usher/wheel.blocks", laid_usher_wheel_blocks)], narrowed := true }
def TopGoneUptoSaid : Prop := topGoneUptoRow.holds Tryz.pinned (OpenSpec.upto topGoneSpec)

/-- 'ushertop.TopLone', WHERE WHAT IT READS IS OF BULK AT MOST 1048576: true; the input reads as it did. -/
def topLoneUptoRow : OpenClaim := { program := "ytlnbhjdhcmgljaagreatdoor", sum := "1f02d6a86a5f781bda25af08b8a62d3d262f3bd2deefad59ba861b8467828abc", func := "usher/ushertop.TopLone", spec := "topLone", inPlace := ["slices.overlaps[usher/api.Timer]", "slices.overlaps[usher/api.Flow]", "slices.overlaps[usher/api.Life]"], unfollowed := true, recurses := true, named := ["usher/wheel.blocks"], apart := false, laid := [("usher/wheel.blocks", laid_usher_wheel_blocks)], narrowed := true }
def TopLoneUptoSaid : Prop := topLoneUptoRow.holds Tryz.pinned (OpenSpec.upto topLoneSpec)

/-- 'ushertop.TopOnRing', WHERE WHAT IT READS IS OF BULK AT MOST 1048576: true; the input reads as it did. -/
def topOnRingUptoRow : OpenClaim := { program := "ytlnbhjdhcmgljaagreatdoor", sum := "1f02d6a86a5f781bda25af08b8a62d3d262f3bd2deefad59ba861b8467828abc", func := "usher/ushertop.TopOnRing", spec := "topOnRing", inPlace := ["slices.overlaps[usher/api.Timer]", "slices.overlaps[usher/api.Flow]", "slices.overlaps[usher/api.Life]"], unfollowed := true, recurses := true, named := ["usher/wheel.blocks"], apart := false, laid := [("usher/wheel.blocks", laid_usher_wheel_blocks)], narrowed := true }
def TopOnRingUptoSaid : Prop := topOnRingUptoRow.holds Tryz.pinned (OpenSpec.upto topOnRingSpec)

end Rows
end Go.Proofs.YtlnbhjdhcmgljaaGreatDoor
