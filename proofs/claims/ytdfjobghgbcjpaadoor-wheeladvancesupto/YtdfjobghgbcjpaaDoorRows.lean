/-
  NARROWER THAN 'FOR EVERY INPUT', by the rows' own cells (each row's printed sentence says how): WheelArms: laid · WheelCancels: laid · WheelAdvances: laid.
  DERIVED. THE GIVEN ROWS OF THIS SEAT. 3 by the template 'for every input the law returns true; each argument reads behind the call as it read before'; 0 by the template 'total and deterministic' (their statements: YtdfjobghgbcjpaaDoorTotals.lean).
  GIVEN WITH THE SEED: the statements are not yours to turn. If you find one false, say at which input.
  Laid BY PROGRAM, IN A SANDBOX (cutbox-rows.mjs): the forced cells as the released guide's own fill.sh prints them over the translation 9228df701becdc46… (all of the seat's roots in one cut). By AI agents, Wed Nov 11 2026. No macro, syntax, notation, axiom, sorry.
-/
import Derived.Test.YtdfjobghgbcjpaaDoorChecked
import GoSem.Claim
import GoSem.ClaimJoined
import GoSem.ClaimMapViews
import Derived.JoinedTies
import Derived.KernelRfl
namespace Go.Proofs.YtdfjobghgbcjpaaDoor
/- THE CELL 'sum', in the pinned program and in every row, IS THE sha256 OF THE DUMP (.gsa) THAT YtdfjobghgbcjpaaDoorProg.lean LOADS. Nothing in Lean hashes anything: it is a label: what it is worth is what the hold of that sum in a sandbox is worth. -/
noncomputable def Tryd.pinned : Pinned := { name := "ytdfjobghgbcjpaadoor", sum := "9228df701becdc464057353fafe768f4bc1c72b0c25189bfec749c515312e2fb", checked := Tryd.checked }
namespace Rows
def none {H : Type} : Left H := { results := [], args := [] }

/- WHAT THE LISTED PACKAGE-LEVEL VARIABLES READ AS WHEN THE CALL BEGINS. Each datum BY PROGRAM (the guide's laid-datum.mjs) off the statement by which the dump's own 'gosem.cut.vars' lays the variable. In a bare row this is a premise. The card (YtdfjobghgbcjpaaDoorCards.lean) ties it to the program's text. -/
def laid_usher_wheel_blocks {H : Type} : DataW H := .agg [.lit (.int .i64 8), .lit (.int .i64 64), .lit (.int .i64 512)]

/-- 'usherlaw.WheelArms': WHATEVER THE INPUT: true; the input reads as it did. -/
def wheelArmsSpec : ChangeSpec := { name := "wheelArms", fn := fun _ => fun
  | [d1, d2, d3] => { results := [.lit (.bool true)], args := [d1, d2, d3] }
  | _ => none }
def wheelArmsRow : OpenClaim := { program := "ytdfjobghgbcjpaadoor", sum := "9228df701becdc464057353fafe768f4bc1c72b0c25189bfec749c515312e2fb", func := "usher/usherlaw.WheelArms", spec := "wheelArms", inPlace := ["slices.overlaps[usher/api.Timer]"], unfollowed := true, recurses := true, named := ["usher/wheel.blocks"], apart := false, laid := [("usher/wheel.blocks", laid_usher_wheel_blocks)] }
def WheelArmsSaid : Prop := wheelArmsRow.holds Tryd.pinned (OpenSpec.ofChange wheelArmsSpec)

/-- ITS FALSE NEIGHBOUR: 'it returns false'. Refute it at one input. -/
def wheelArmsWrong : ChangeSpec := { name := "wheelArms", fn := fun _ => fun
  | [d1, d2, d3] => { results := [.lit (.bool false)], args := [d1, d2, d3] }
  | _ => none }
def WheelArmsWrongFalsely : Prop := wheelArmsRow.holds Tryd.pinned (OpenSpec.ofChange wheelArmsWrong)

/-- 'usherlaw.WheelCancels': WHATEVER THE INPUT: true; the input reads as it did. -/
def wheelCancelsSpec : ChangeSpec := { name := "wheelCancels", fn := fun _ => fun
  | [d1, d2] => { results := [.lit (.bool true)], args := [d1, d2] }
  | _ => none }
def wheelCancelsRow : OpenClaim := { program := "ytdfjobghgbcjpaadoor", sum := "9228df701becdc464057353fafe768f4bc1c72b0c25189bfec749c515312e2fb", func := "usher/usherlaw.WheelCancels", spec := "wheelCancels", inPlace := ["slices.overlaps[usher/api.Timer]"], unfollowed := true, recurses := true, named := ["usher/wheel.blocks"], apart := false, laid := [("usher/wheel.blocks", laid_usher_wheel_blocks)] }
def WheelCancelsSaid : Prop := wheelCancelsRow.holds Tryd.pinned (OpenSpec.ofChange wheelCancelsSpec)

/-- ITS FALSE NEIGHBOUR: 'it returns false'. Refute it at one input. -/
def wheelCancelsWrong : ChangeSpec := { name := "wheelCancels", fn := fun _ => fun
  | [d1, d2] => { results := [.lit (.bool false)], args := [d1, d2] }
  | _ => none }
def WheelCancelsWrongFalsely : Prop := wheelCancelsRow.holds Tryd.pinned (OpenSpec.ofChange wheelCancelsWrong)

/-- 'usherlaw.WheelAdvances': WHATEVER THE INPUT: true; the input reads as it did. -/
def wheelAdvancesSpec : ChangeSpec := { name := "wheelAdvances", fn := fun _ => fun
  | [d] => { results := [.lit (.bool true)], args := [d] }
  | _ => none }
def wheelAdvancesRow : OpenClaim := { program := "ytdfjobghgbcjpaadoor", sum := "9228df701becdc464057353fafe768f4bc1c72b0c25189bfec749c515312e2fb", func := "usher/usherlaw.WheelAdvances", spec := "wheelAdvances", inPlace := ["slices.overlaps[usher/api.Timer]"], unfollowed := true, recurses := true, named := ["usher/wheel.blocks"], apart := false, laid := [("usher/wheel.blocks", laid_usher_wheel_blocks)] }
def WheelAdvancesSaid : Prop := wheelAdvancesRow.holds Tryd.pinned (OpenSpec.ofChange wheelAdvancesSpec)

/-- ITS FALSE NEIGHBOUR: 'it returns false'. Refute it at one input. -/
def wheelAdvancesWrong : ChangeSpec := { name := "wheelAdvances", fn := fun _ => fun
  | [d] => { results := [.lit (.bool false)], args := [d] }
  | _ => none }
def WheelAdvancesWrongFalsely : Prop := wheelAdvancesRow.holds Tryd.pinned (OpenSpec.ofChange wheelAdvancesWrong)

/- THE SECOND FORM. 'bulk': how many values and letters a reading holds, each counted each time it is reached (what is shared counts as often as it is met; a slice's spare places count too). A statement '..UptoSaid' is the law's where the arguments, and the package variables that the reading takes, are together of bulk at most 1048576: NARROWER than '..Said'. Prove '..Said' where nothing that the law and all that it calls make is longer than what came in: it says more and counts as full. Else prove '..UptoSaid'. A law counts once. -/
mutual
def uptoBulk {H : Type} : DataW H → Nat
  | .lit (.string bytes) => bytes.length + 1
  | .lit _ => 1
  | .nil => 1
  | .ptr d => uptoBulk d + 1
  | .slice elems spare => uptoBulkAll elems + uptoBulkAll spare + 1
  | .agg parts => uptoBulkAll parts + 1
  | .iface _ d => uptoBulk d + 1
  | .map entries => uptoBulkEntries entries + 1
  | .held _ => 1
def uptoBulkAll {H : Type} : List (DataW H) → Nat
  | [] => 0
  | d :: r => uptoBulk d + uptoBulkAll r
def uptoBulkEntries {H : Type} : List (Lit × DataW H) → Nat
  | [] => 0
  | x :: r => uptoBulkEntry x + uptoBulkEntries r
def uptoBulkEntry {H : Type} : Lit × DataW H → Nat
  | (.string bytes, d) => bytes.length + uptoBulk d + 1
  | (_, d) => uptoBulk d + 1
 end
def uptoSmall : (H : Type) → List (DataW H) → Bool := fun _ ds => decide (uptoBulkAll ds ≤ 1048576)
def OpenSpec.upto (s : _root_.Go.ChangeSpec) : _root_.Go.OpenSpec := { _root_.Go.OpenSpec.ofChange s with cond := some uptoSmall }

/-- 'usherlaw.WheelArms', WHERE WHAT IT READS IS OF BULK AT MOST 1048576: true; the input reads as it did. -/
def wheelArmsUptoRow : OpenClaim := { program := "ytdfjobghgbcjpaadoor", sum := "9228df701becdc464057353fafe768f4bc1c72b0c25189bfec749c515312e2fb", func := "usher/usherlaw.WheelArms", spec := "wheelArms", inPlace := ["slices.overlaps[usher/api.Timer]"], unfollowed := true, recurses := true, named := ["usher/wheel.blocks"], apart := false, laid := [("usher/wheel.blocks", laid_usher_wheel_blocks)], narrowed := true }
def WheelArmsUptoSaid : Prop := wheelArmsUptoRow.holds Tryd.pinned (OpenSpec.upto wheelArmsSpec)

/-- 'usherlaw.WheelCancels', WHERE WHAT IT READS IS OF BULK AT MOST 1048576: true; the input reads as it did. -/
def wheelCancelsUptoRow : OpenClaim := { program := "ytdfjobghgbcjpaadoor", sum := "9228df701becdc464057353fafe768f4bc1c72b0c25189bfec749c515312e2fb", func := "usher/usherlaw.WheelCancels", spec := "wheelCancels", inPlace := ["slices.overlaps[usher/api.Timer]"], unfollowed := true, recurses := true, named := ["usher/wheel.blocks"], apart := false, laid := [("usher/wheel.blocks", laid_usher_wheel_blocks)], narrowed := true }
def WheelCancelsUptoSaid : Prop := wheelCancelsUptoRow.holds Tryd.pinned (OpenSpec.upto wheelCancelsSpec)

/-- 'usherlaw.WheelAdvances', WHERE WHAT IT READS IS OF BULK AT MOST 1048576: true; the input reads as it did. -/
def wheelAdvancesUptoRow : OpenClaim := { program := "ytdfjobghgbcjpaadoor", sum := "9228df701becdc464057353fafe768f4bc1c72b0c25189bfec749c515312e2fb", func := "usher/usherlaw.WheelAdvances", spec := "wheelAdvances", inPlace := ["slices.overlaps[usher/api.Timer]"], unfollowed := true, recurses := true, named := ["usher/wheel.blocks"], apart := false, laid := [("usher/wheel.blocks", laid_usher_wheel_blocks)], narrowed := true }
def WheelAdvancesUptoSaid : Prop := wheelAdvancesUptoRow.holds Tryd.pinned (OpenSpec.upto wheelAdvancesSpec)

end Rows
end Go.Proofs.YtdfjobghgbcjpaaDoor
