/-
  NARROWER THAN 'FOR EVERY INPUT', by the rows' own cells (each row's printed sentence says how): WheelTurns: laid · WheelHolds: laid.
  DERIVED. THE GIVEN ROWS OF THIS SEAT. 2 by the template 'for every input the law returns true; each argument reads behind the call as it read before'; 0 by the template 'total and deterministic' (their statements: YtjjlekohkoicbabDoorTotals.lean).
  GIVEN WITH THE SEED: the statements are not yours to turn. If you find one false, say at which input.
  Laid BY PROGRAM, IN A SANDBOX (cutbox-rows.mjs): the forced cells as the released guide's own fill.sh prints them over the translation e317a98715b2b5b0… (all of the seat's roots in one cut). By AI agents, Wed Nov 11 2026. No macro, syntax, notation, axiom, sorry.
-/
import Derived.Test.YtjjlekohkoicbabDoorChecked
import GoSem.Claim
import GoSem.ClaimJoined
import GoSem.ClaimMapViews
import Derived.JoinedTies
import Derived.KernelRfl
namespace Go.Proofs.YtjjlekohkoicbabDoor
/- THE CELL 'sum', in the pinned program and in every row, IS THE sha256 OF THE DUMP (.gsa) THAT YtjjlekohkoicbabDoorProg.lean LOADS. Nothing in Lean hashes anything: it is a label: what it is worth is what the hold of that sum in a sandbox is worth. -/
noncomputable def Tryd.pinned : Pinned := { name := "ytjjlekohkoicbabdoor", sum := "e317a98715b2b5b0e0b3e653b2f9c35279202426fa6f243a4ad836cca0b2cb2f", checked := Tryd.checked }
namespace Rows
def none {H : Type} : Left H := { results := [], args := [] }

/- WHAT THE LISTED PACKAGE-LEVEL VARIABLES READ AS WHEN THE CALL BEGINS. Each datum BY PROGRAM (the guide's laid-datum.mjs) off the statement by which the dump's own 'gosem.cut.vars' lays the variable. In a bare row this is a premise. The card (YtjjlekohkoicbabDoorCards.lean) ties it to the program's text. -/
def laid_usher_wheel_blocks {H : Type} : DataW H := .agg [.lit (.int .i64 8), .lit (.int .i64 64), .lit (.int .i64 512)]

/-- 'usherkeep.WheelTurns': WHATEVER THE INPUT: true; the input reads as it did. -/
def wheelTurnsSpec : ChangeSpec := { name := "wheelTurns", fn := fun _ => fun
  | [d1, d2, d3, d4] => { results := [.lit (.bool true)], args := [d1, d2, d3, d4] }
  | _ => none }
def wheelTurnsRow : OpenClaim := { program := "ytjjlekohkoicbabdoor", sum := "e317a98715b2b5b0e0b3e653b2f9c35279202426fa6f243a4ad836cca0b2cb2f", func := "usher/usherkeep.WheelTurns", spec := "wheelTurns", inPlace := ["slices.overlaps[usher/api.Timer]"], unfollowed := true, recurses := true, named := ["usher/wheel.blocks"], apart := false, laid := [("usher/wheel.blocks", laid_usher_wheel_blocks)] }
def WheelTurnsSaid : Prop := wheelTurnsRow.holds Tryd.pinned (OpenSpec.ofChange wheelTurnsSpec)

/-- ITS FALSE NEIGHBOUR: 'it returns false'. Refute it at one input. -/
def wheelTurnsWrong : ChangeSpec := { name := "wheelTurns", fn := fun _ => fun
  | [d1, d2, d3, d4] => { results := [.lit (.bool false)], args := [d1, d2, d3, d4] }
  | _ => none }
def WheelTurnsWrongFalsely : Prop := wheelTurnsRow.holds Tryd.pinned (OpenSpec.ofChange wheelTurnsWrong)

/-- 'usherkeep.WheelHolds': WHATEVER THE INPUT: true; the input reads as it did. -/
def wheelHoldsSpec : ChangeSpec := { name := "wheelHolds", fn := fun _ => fun
  | [d1, d2, d3] => { results := [.lit (.bool true)], args := [d1, d2, d3] }
  | _ => none }
def wheelHoldsRow : OpenClaim := { program := "ytjjlekohkoicbabdoor", sum := "e317a98715b2b5b0e0b3e653b2f9c35279202426fa6f243a4ad836cca0b2cb2f", func := "usher/usherkeep.WheelHolds", spec := "wheelHolds", inPlace := ["slices.overlaps[usher/api.Timer]"], unfollowed := true, recurses := true, named := ["usher/wheel.blocks"], apart := false, laid := [("usher/wheel.blocks", laid_usher_wheel_blocks)] }
def WheelHoldsSaid : Prop := wheelHoldsRow.holds Tryd.pinned (OpenSpec.ofChange wheelHoldsSpec)

/-- ITS FALSE NEIGHBOUR: 'it returns false'. Refute it at one input. -/
def wheelHoldsWrong : ChangeSpec := { name := "wheelHolds", fn := fun _ => fun
  | [d1, d2, d3] => { results := [.lit (.bool false)], args := [d1, d2, d3] }
  | _ => none }
def WheelHoldsWrongFalsely : Prop := wheelHoldsRow.holds Tryd.pinned (OpenSpec.ofChange wheelHoldsWrong)

/- THE SECOND FORM. 'bulk': how many values and letters a reading holds, each counted each time it is reached (what is shared counts as often as it is met; a slice's spare places count too). A statement '..UptoSaid' is the law's where the arguments, and the package variables that the reading takes, are together of bulk at most 1048576: NARROWER than '..Said'. Prove '..Said' where nothing that the law and all that it calls make is longer than what came in: it says more and counts as full. Else prove '..UptoSaid'. A law counts once. -/
mutual
def uptoBulk {H : Type} : DataW H → Nat
  | .lit (.string bytes) => bytes.length + 1
  | .lit _ => 1
  | .nil => 1
  | .ptr d => uptoBulk d + 1
  | .slice elems spare => uptoBulkAll elems + uptoBulkAll spare + 1
  | .agg parts => uptoBulkAll parts + 1
  | .iface _ d => uptoBulk d + 1
  | .map entries => uptoBulkEntries entries + 1
  | .held _ => 1
def uptoBulkAll {H : Type} : List (DataW H) → Nat
  | [] => 0
  | d :: r => uptoBulk d + uptoBulkAll r
def uptoBulkEntries {H : Type} : List (Lit × DataW H) → Nat
  | [] => 0
  | x :: r => uptoBulkEntry x + uptoBulkEntries r
def uptoBulkEntry {H : Type} : Lit × DataW H → Nat
  | (.string bytes, d) => bytes.length + uptoBulk d + 1
  | (_, d) => uptoBulk d + 1
 end
def uptoSmall : (H : Type) → List (DataW H) → Bool := fun _ ds => decide (uptoBulkAll ds ≤ 1048576)
def OpenSpec.upto (s : _root_.Go.ChangeSpec) : _root_.Go.OpenSpec := { _root_.Go.OpenSpec.ofChange s with cond := some uptoSmall }

/-- 'usherkeep.WheelTurns', WHERE WHAT IT READS IS OF BULK AT MOST 1048576: true; the input reads as it did. -/
def wheelTurnsUptoRow : OpenClaim := { program := "ytjjlekohkoicbabdoor", sum := "e317a98715b2b5b0e0b3e653b2f9c35279202426fa6f243a4ad836cca0b2cb2f", func := "usher/usherkeep.WheelTurns", spec := "wheelTurns", inPlace := ["slices.overlaps[usher/api.Timer]"], unfollowed := true, recurses := true, named := ["usher/wheel.blocks"], apart := false, laid := [("usher/wheel.blocks", laid_usher_wheel_blocks)], narrowed := true }
def WheelTurnsUptoSaid : Prop := wheelTurnsUptoRow.holds Tryd.pinned (OpenSpec.upto wheelTurnsSpec)

/-- 'usherkeep.WheelHolds', WHERE WHAT IT READS IS OF BULK AT MOST 1048576: true; the input reads as it did. -/
def wheelHoldsUptoRow : OpenClaim := { program := "ytjjlekohkoicbabdoor", sum := "e317a98715b2b5b0e0b3e653b2f9c35279202426fa6f243a4ad836cca0b2cb2f", func := "usher/usherkeep.WheelHolds", spec := "wheelHolds", inPlace := ["slices.overlaps[usher/api.Timer]"], unfollowed := true, recurses := true, named := ["usher/wheel.blocks"], apart := false, laid := [("usher/wheel.blocks", laid_usher_wheel_blocks)], narrowed := true }
def WheelHoldsUptoSaid : Prop := wheelHoldsUptoRow.holds Tryd.pinned (OpenSpec.upto wheelHoldsSpec)

end Rows
end Go.Proofs.YtjjlekohkoicbabDoor
