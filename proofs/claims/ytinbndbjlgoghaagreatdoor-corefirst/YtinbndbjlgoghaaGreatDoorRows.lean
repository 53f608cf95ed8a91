/-
  NARROWER THAN 'FOR EVERY INPUT', by the rows' own cells (each row's printed sentence says how): CoreFirst: laid · TopTaken: laid · TopNever: laid · TopDraining: laid · TopReplies: laid · TopAsked: laid · TopOut: laid · TopWarm: laid · TopRest: laid · TopKept: laid · TopTold: laid.
  DERIVED. THE GIVEN ROWS OF THIS SEAT. 11 by the template 'for every input the law returns true; each argument reads behind the call as it read before'; 0 by the template 'total and deterministic' (their statements: YtinbndbjlgoghaaGreatDoorTotals.lean).
  GIVEN WITH THE SEED: the statements are not yours to turn. If you find one false, say at which input.
  Laid BY PROGRAM, IN A SANDBOX (cutbox-rows.mjs): the forced cells as the released guide's own fill.sh prints them over the translation 59b988c8ce6eca1b… (all of the seat's roots in one cut). By AI agents, Wed Nov 11 2026. No macro, syntax, notation, axiom, sorry.
-/
import Derived.Test.YtinbndbjlgoghaaGreatDoorChecked
import GoSem.Claim
import GoSem.ClaimJoined
import GoSem.ClaimMapViews
import Derived.JoinedTies
import Derived.KernelRfl
namespace Go.Proofs.YtinbndbjlgoghaaGreatDoor
/- THE CELL 'sum', in the pinned program and in every row, IS THE sha256 OF THE DUMP (.gsa) THAT YtinbndbjlgoghaaGreatDoorProg.lean LOADS. Nothing in Lean hashes anything: it is a label: what it is worth is what the hold of that sum in a sandbox is worth. -/
noncomputable def Tryz.pinned : Pinned := { name := "ytinbndbjlgoghaagreatdoor", sum := "59b988c8ce6eca1b3907d8f5d173cbbd9ae9ad6fa8e9872a33aa06bb579007ba", checked := Tryz.checked }
namespace Rows
def none {H : Type} : Left H := { results := [], args := [] }

/- WHAT THE LISTED PACKAGE-LEVEL VARIABLES READ AS WHEN THE CALL BEGINS. Each datum BY PROGRAM (the guide's laid-datum.mjs) off the statement by which the dump's own 'gosem.cut.vars' lays the variable. In a bare row this is a premise. The card (YtinbndbjlgoghaaGreatDoorCards.lean) ties it to the program's text. -/
def laid_usher_wheel_blocks {H : Type} : DataW H := .agg [.lit (.int .i64 8), .lit (.int .i64 64), .lit (.int .i64 512)]

/-- 'usherkeep.CoreFirst': WHATEVER THE INPUT: true; the input reads as it did. -/
def coreFirstSpec : ChangeSpec := { name := "coreFirst", fn := fun _ => fun
  | [d1, d2, d3, d4] => { results := [.lit (.bool true)], args := [d1, d2, d3, d4] }
  | _ => none }
def coreFirstRow : OpenClaim := { program := "ytinbndbjlgoghaagreatdoor", sum := "59b988c8ce6eca1b3907d8f5d173cbbd9ae9ad6fa8e9872a33aa06bb579007ba", func := "usher/usherkeep.CoreFirst", spec := "coreFirst", inPlace := ["slices.overlaps[usher/api.Timer]", "slices.overlaps[usher/api.Flow]", "slices.overlaps[usher/api.Life]"], unfollowed := true, recurses := true, named := ["usher/wheel.blocks"], apart := false, laid := [("usher/wheel.blocks", laid_usher_wheel_blocks)] }
def CoreFirstSaid : Prop := coreFirstRow.holds Tryz.pinned (OpenSpec.ofChange coreFirstSpec)

/-- ITS FALSE NEIGHBOUR: 'it returns false'. Refute it at one input. -/
def coreFirstWrong : ChangeSpec := { name := "coreFirst", fn := fun _ => fun
  | [d1, d2, d3, d4] => { results := [.lit (.bool false)], args := [d1, d2, d3, d4] }
  | _ => none }
def CoreFirstWrongFalsely : Prop := coreFirstRow.holds Tryz.pinned (OpenSpec.ofChange coreFirstWrong)

/-- 'ushertop.TopTaken': WHATEVER THE INPUT: true; the input reads as it did. -/
def topTakenSpec : ChangeSpec := { name := "topTaken", fn := fun _ => fun
  | [d1, d2] => { results := [.lit (.bool true)], args := [d1, d2] }
  | _ => none }
def topTakenRow : OpenClaim := { program := "ytinbndbjlgoghaagreatdoor", sum := "59b988c8ce6eca1b3907d8f5d173cbbd9ae9ad6fa8e9872a33aa06bb579007ba", func := "usher/ushertop.TopTaken", spec := "topTaken", inPlace := ["slices.overlaps[usher/api.Timer]", "slices.overlaps[usher/api.Flow]", "slices.overlaps[usher/api.Life]"], unfollowed := true, recurses := true, named := ["usher/wheel.blocks"], apart := false, laid := [("usher/wheel.blocks", laid_usher_wheel_blocks)] }
def TopTakenSaid : Prop := topTakenRow.holds Tryz.pinned (OpenSpec.ofChange topTakenSpec)

/-- ITS FALSE NEIGHBOUR: 'it returns false'. Refute it at one input. -/
def topTakenWrong : ChangeSpec := { name := "topTaken", fn := fun _ => fun
  | [d1, d2] => { results := [.lit (.bool false)], args := [d1, d2] }
  | _ => none }
def TopTakenWrongFalsely : Prop := topTakenRow.holds Tryz.pinned (OpenSpec.ofChange topTakenWrong)

/-- 'ushertop.TopNever': WHATEVER THE INPUT: true; the input reads as it did. -/
def topNeverSpec : ChangeSpec := { name := "topNever", fn := fun _ => fun
  | [d1, d2] => { results := [.lit (.bool true)], args := [d1, d2] }
  | _ => none }
def topNeverRow : OpenClaim := { program := "ytinbndbjlgoghaagreatdoor", sum := "59b988c8ce6eca1b3907d8f5d173cbbd9ae9ad6fa8e9872a33aa06bb579007ba", func := "usher/ushertop.TopNever", spec := "topNever", inPlace := ["slices.overlaps[usher/api.Timer]", "slices.overlaps[usher/api.Flow]", "slices.overlaps[usher/api.Life]"], unfollowed := true, recurses := true, named := ["usher/wheel.blocks"], apart := false, laid := [("usher/wheel.blocks", laid_usher_wheel_blocks)] }
def TopNeverSaid : Prop := topNeverRow.holds Tryz.pinned (OpenSpec.ofChange topNeverSpec)

/-- ITS FALSE NEIGHBOUR: 'it returns false'. Refute it at one input. -/
def topNeverWrong : ChangeSpec := { name := "topNever", fn := fun _ => fun
  | [d1, d2] => { results := [.lit (.bool false)], args := [d1, d2] }
  | _ => none }
def TopNeverWrongFalsely : Prop := topNeverRow.holds Tryz.pinned (OpenSpec.ofChange topNeverWrong)

/-- 'ushertop.TopDraining': WHATEVER THE INPUT: true; the input reads as it did. -/
def topDrainingSpec : ChangeSpec := { name := "topDraining", fn := fun _ => fun
  | [d1, d2] => { results := [.lit (.bool true)], args := [d1, d2] }
  | _ => none }
def topDrainingRow : OpenClaim := { program := "ytinbndbjlgoghaagreatdoor", sum := "59b988c8ce6eca1b3907d8f5d173cbbd9ae9ad6fa8e9872a33aa06bb579007ba", func := "usher/ushertop.TopDraining", spec := "topDraining", inPlace := ["slices.overlaps[usher/api.Timer]", "slices.overlaps[usher/api.Flow]", "slices.overlaps[usher/api.Life]"], unfollowed := true, recurses := true, named := ["usher/wheel.blocks"], apart := false, laid := [("usher/wheel.blocks", laid_usher_wheel_blocks)] }
def TopDrainingSaid : Prop := topDrainingRow.holds Tryz.pinned (OpenSpec.ofChange topDrainingSpec)

/-- ITS FALSE NEIGHBOUR: 'it returns false'. Refute it at one input. -/
def topDrainingWrong : ChangeSpec := { name := "topDraining", fn := fun _ => fun
  | [d1, d2] => { results := [.lit (.bool false)], args := [d1, d2] }
  | _ => none }
def TopDrainingWrongFalsely : Prop := topDrainingRow.holds Tryz.pinned (OpenSpec.ofChange topDrainingWrong)

/-- 'ushertop.TopReplies': WHATEVER THE INPUT: true; the input reads as it did. -/
def topRepliesSpec : ChangeSpec := { name := "topReplies", fn := fun _ => fun
  | [d1, d2] => { results := [.lit (.bool true)], args := [d1, d2] }
  | _ => none }
def topRepliesRow : OpenClaim := { program := "ytinbndbjlgoghaagreatdoor", sum := "59b988c8ce6eca1b3907d8f5d173cbbd9ae9ad6fa8e9872a33aa06bb579007ba", func := "usher/ushertop.TopReplies", spec := "topReplies", inPlace := ["slices.overlaps[usher/api.Timer]", "slices.overlaps[usher/api.Flow]", "slices.overlaps[usher/api.Life]"], unfollowed := true, recurses := true, named := ["usher/wheel.blocks"], apart := false, laid := [("usher/wheel.blocks", laid_usher_wheel_blocks)] }
def TopRepliesSaid : Prop := topRepliesRow.holds Tryz.pinned (OpenSpec.ofChange topRepliesSpec)

/-- ITS FALSE NEIGHBOUR: 'it returns false'. Refute it at one input. -/
def topRepliesWrong : ChangeSpec := { name := "topReplies", fn := fun _ => fun
  | [d1, d2] => { results := [.lit (.bool false)], args := [d1, d2] }
  | _ => none }
def TopRepliesWrongFalsely : Prop := topRepliesRow.holds Tryz.pinned (OpenSpec.ofChange topRepliesWrong)

/-- 'ushertop.TopAsked': WHATEVER THE INPUT: true; the input reads as it did. -/
def topAskedSpec : ChangeSpec := { name := "topAsked", fn := fun _ => fun
  | [d1, d2] => { results := [.lit (.bool true)], args := [d1, d2] }
  | _ => none }
def topAskedRow : OpenClaim := { program := "ytinbndbjlgoghaagreatdoor", sum := "59b988c8ce6eca1b3907d8f5d173cbbd9ae9ad6fa8e9872a33aa06bb579007ba", func := "usher/ushertop.TopAsked", spec := "topAsked", inPlace := ["slices.overlaps[usher/api.Timer]", "slices.overlaps[usher/api.Flow]", "slices.overlaps[usher/api.Life]"], unfollowed := true, recurses := true, named := ["usher/wheel.blocks"], apart := false, laid := [("usher/wheel.blocks", laid_usher_wheel_blocks)] }
def TopAskedSaid : Prop := topAskedRow.holds Tryz.pinned (OpenSpec.ofChange topAskedSpec)

/-- ITS FALSE NEIGHBOUR: 'it returns false'. Refute it at one input. -/
def topAskedWrong : ChangeSpec := { name := "topAsked", fn := fun _ => fun
  | [d1, d2] => { results := [.lit (.bool false)], args := [d1, d2] }
  | _ => none }
def TopAskedWrongFalsely : Prop := topAskedRow.holds Tryz.pinned (OpenSpec.ofChange topAskedWrong)

/-- 'ushertop.TopOut': WHATEVER THE INPUT: true; the input reads as it did. -/
def topOutSpec : ChangeSpec := { name := "topOut", fn := fun _ => fun
  | [d1, d2] => { results := [.lit (.bool true)], args := [d1, d2] }
  | _ => none }
def topOutRow : OpenClaim := { program := "ytinbndbjlgoghaagreatdoor", sum := "59b988c8ce6eca1b3907d8f5d173cbbd9ae9ad6fa8e9872a33aa06bb579007ba", func := "usher/ushertop.TopOut", spec := "topOut", inPlace := ["slices.overlaps[usher/api.Timer]", "slices.overlaps[usher/api.Flow]", "slices.overlaps[usher/api.Life]"], unfollowed := true, recurses := true, named := ["usher/wheel.blocks"], apart := false, laid := [("usher/wheel.blocks", laid_usher_wheel_blocks)] }
def TopOutSaid : Prop := topOutRow.holds Tryz.pinned (OpenSpec.ofChange topOutSpec)

/-- ITS FALSE NEIGHBOUR: 'it returns false'. Refute it at one input. -/
def topOutWrong : ChangeSpec := { name := "topOut", fn := fun _ => fun
  | [d1, d2] => { results := [.lit (.bool false)], args := [d1, d2] }
  | _ => none }
def TopOutWrongFalsely : Prop := topOutRow.holds Tryz.pinned (OpenSpec.ofChange topOutWrong)

/-- 'ushertop.TopWarm': WHATEVER THE INPUT: true; the input reads as it did. -/
def topWarmSpec : ChangeSpec := { name := "topWarm", fn := fun _ => fun
  | [d1, d2] => { results := [.lit (.bool true)], args := [d1, d2] }
  | _ => none }
def topWarmRow : OpenClaim := { program := "ytinbndbjlgoghaagreatdoor", sum := "59b988c8ce6eca1b3907d8f5d173cbbd9ae9ad6fa8e9872a33aa06bb579007ba", func := "usher/ushertop.TopWarm", spec := "topWarm", inPlace := ["slices.overlaps[usher/api.Timer]", "slices.overlaps[usher/api.Flow]", "slices.overlaps[usher/api.Life]"], unfollowed := true, recurses := true, named := ["usher/wheel.blocks"], apart := false, laid := [("usher/wheel.blocks", laid_usher_wheel_blocks)] }
def TopWarmSaid : Prop := topWarmRow.holds Tryz.pinned (OpenSpec.ofChange topWarmSpec)

/-- ITS FALSE NEIGHBOUR: 'it returns false'. Refute it at one input. -/
def topWarmWrong : ChangeSpec := { name := "topWarm", fn := fun _ => fun
  | [d1, d2] => { results := [.lit (.bool false)], args := [d1, d2] }
  | _ => none }
def TopWarmWrongFalsely : Prop := topWarmRow.holds Tryz.pinned (OpenSpec.ofChange topWarmWrong)

/-- 'ushertop.TopRest': WHATEVER THE INPUT: true; the input reads as it did. -/
def topRestSpec : ChangeSpec := { name := "topRest", fn := fun _ => fun
  | [d1, d2] => { results := [.lit (.bool true)], args := [d1, d2] }
  | _ => none }
def topRestRow : OpenClaim := { program := "ytinbndbjlgoghaagreatdoor", sum := "59b988c8ce6eca1b3907d8f5d173cbbd9ae9ad6fa8e9872a33aa06bb579007ba", func := "usher/ushertop.TopRest", spec := "topRest", inPlace := ["slices.overlaps[usher/api.Timer]", "slices.overlaps[usher/api.Flow]", "slices.overlaps[usher/api.Life]"], unfollowed := true, recurses := true, named := ["usher/wheel.blocks"], apart := false, laid := [("usher/wheel.blocks", laid_usher_wheel_blocks)] }
def TopRestSaid : Prop := topRestRow.holds Tryz.pinned (OpenSpec.ofChange topRestSpec)

/-- ITS FALSE NEIGHBOUR: 'it returns false'. Refute it at one input. -/
def topRestWrong : ChangeSpec := { name := "topRest", fn := fun _ => fun
  | [d1, d2] => { results := [.lit (.bool false)], args := [d1, d2] }
  | _ => none }
def TopRestWrongFalsely : Prop := topRestRow.holds Tryz.pinned (OpenSpec.ofChange topRestWrong)

/-- 'ushertop.TopKept': WHATEVER THE INPUT: true; the input reads as it did. -/
def topKeptSpec : ChangeSpec := { name := "topKept", fn := fun _ => fun
  | [d1, d2, d3] => { results := [.lit (.bool true)], args := [d1, d2, d3] }
  | _ => none }
def topKeptRow : OpenClaim := { program := "ytinbndbjlgoghaagreatdoor", sum := "59b988c8ce6eca1b3907d8f5d173cbbd9ae9ad6fa8e9872a33aa06bb579007ba", func := "usher/ushertop.TopKept", spec := "topKept", inPlace := ["slices.overlaps[usher/api.Timer]", "slices.overlaps[usher/api.Flow]", "slices.overlaps[usher/api.Life]"], unfollowed := true, recurses := true, named := ["usher/wheel.blocks"], apart := false, laid := [("usher/wheel.blocks", laid_usher_wheel_blocks)] }
def TopKeptSaid : Prop := topKeptRow.holds Tryz.pinned (OpenSpec.ofChange topKeptSpec)

/-- ITS FALSE NEIGHBOUR: 'it returns false'. Refute it at one input. -/
def topKeptWrong : ChangeSpec := { name := "topKept", fn := fun _ => fun
  | [d1, d2, d3] => { results := [.lit (.bool false)], args := [d1, d2, d3] }
  | _ => none }
def TopKeptWrongFalsely : Prop := topKeptRow.holds Tryz.pinned (OpenSpec.ofChange topKeptWrong)

/-- 'ushertop.TopTold': WHATEVER THE INPUT: true; the input reads as it did. -/
def topToldSpec : ChangeSpec := { name := "topTold", fn := fun _ => fun
  | [d1, d2] => { results := [.lit (.bool true)], args := [d1, d2] }
  | _ => none }
def topToldRow : OpenClaim := { program := "ytinbndbjlgoghaagreatdoor", sum := "59b988c8ce6eca1b3907d8f5d173cbbd9ae9ad6fa8e9872a33aa06bb579007ba", func := "usher/ushertop.TopTold", spec := "topTold", inPlace := ["slices.overlaps[usher/api.Timer]", "slices.overlaps[usher/api.Flow]", "slices.overlaps[usher/api.Life]"], unfollowed := true, recurses := true, named := ["usher/wheel.blocks"], apart := false, laid := [("usher/wheel.blocks", laid_usher_wheel_blocks)] }
def TopToldSaid : Prop := topToldRow.holds Tryz.pinned (OpenSpec.ofChange topToldSpec)

/-- ITS FALSE NEIGHBOUR: 'it returns false'. Refute it at one input. -/
def topToldWrong : ChangeSpec := { name := "topTold", fn := fun _ => fun
  | [d1, d2] => { results := [.lit (.bool false)], args := [d1, d2] }
  | _ => none }
def TopToldWrongFalsely : Prop := topToldRow.holds Tryz.pinned (OpenSpec.ofChange topToldWrong)

/- THE SECOND FORM. 'bulk': how many values and letters a reading holds, each counted each time it is reached (what is shared counts as often as it is met; a slice's spare places count too). A statement '..UptoSaid' is the law's where the arguments, and the package variables that the reading takes, are together of bulk at most 1048576: NARROWER than '..Said'. Prove '..Said' where nothing that the law and all that it calls make is longer than what came in: it says more and counts as full. Else prove '..UptoSaid'. A law counts once. -/
mutual
def uptoBulk {H : Type} : DataW H → Nat
  | .lit (.string bytes) => bytes.length + 1
  | .lit _ => 1
  | .nil => 1
  | .ptr d => uptoBulk d + 1
  | .slice elems spare => uptoBulkAll elems + uptoBulkAll spare + 1
  | .agg parts => uptoBulkAll parts + 1
  | .iface _ d => uptoBulk d + 1
  | .map entries => uptoBulkEntries entries + 1
  | .held _ => 1
def uptoBulkAll {H : Type} : List (DataW H) → Nat
  | [] => 0
  | d :: r => uptoBulk d + uptoBulkAll r
def uptoBulkEntries {H : Type} : List (Lit × DataW H) → Nat
  | [] => 0
  | x :: r => uptoBulkEntry x + uptoBulkEntries r
def uptoBulkEntry {H : Type} : Lit × DataW H → Nat
  | (.string bytes, d) => bytes.length + uptoBulk d + 1
  | (_, d) => uptoBulk d + 1
 end
def uptoSmall : (H : Type) → List (DataW H) → Bool := fun _ ds => decide (uptoBulkAll ds ≤ 1048576)
def OpenSpec.upto (s : _root_.Go.ChangeSpec) : _root_.Go.OpenSpec := { _root_.Go.OpenSpec.ofChange s with cond := some uptoSmall }

/-- 'usherkeep.CoreFirst', WHERE WHAT IT READS IS OF BULK AT MOST 1048576: true; the input reads as it did. -/
def coreFirstUptoRow : OpenClaim := { program := "ytinbndbjlgoghaagreatdoor", sum := "59b988c8ce6eca1b3907d8f5d173cbbd9ae9ad6fa8e9872a33aa06bb579007ba", func := "usher/usherkeep.CoreFirst", spec := "coreFirst", inPlace := ["slices.overlaps[usher/api.Timer]", "slices.overlaps[usher/api.Flow]", "slices.overlaps[usher/api.Life]"], unfollowed := true, recurses := true, named := ["usher/wheel.blocks"], apart := false, laid := [("usher/wheel.blocks", laid_usher_wheel_blocks)], narrowed := true }
def CoreFirstUptoSaid : Prop := coreFirstUptoRow.holds Tryz.pinned (OpenSpec.upto coreFirstSpec)

/-- 'ushertop.TopTaken', WHERE WHAT IT READS IS OF BULK AT MOST 1048576: true; the input reads as it did. -/
def topTakenUptoRow : OpenClaim := { program := "ytinbndbjlgoghaagreatdoor", sum := "59b988c8ce6eca1b3907d8f5d173cbbd9ae9ad6fa8e9872a33aa06bb579007ba", func := "usher/ushertop.TopTaken", spec := "topTaken", inPlace := ["slices.overlaps[usher/api.Timer]", "slices.overlaps[usher/api.Flow]", "slices.overlaps[usher/api.Life]"], unfollowed := true, recurses := true, named := ["usher/wheel.blocks"], apart := false, laid := [("usher/wheel.blocks", laid_usher_wheel_blocks)], narrowed := true }
def TopTakenUptoSaid : Prop := topTakenUptoRow.holds Tryz.pinned (OpenSpec.upto topTakenSpec)

/-- 'ushertop.TopNever', WHERE WHAT IT READS IS OF BULK AT MOST 1048576: true; the input reads as it did. -/
def topNeverUptoRow : OpenClaim := { program := "ytinbndbjlgoghaagreatdoor", sum := "59b988c8ce6eca1b3907d8f5d173cbbd9ae9ad6fa8e9872a33aa06bb579007ba", func := "usher/ushertop.TopNever", spec := "topNever", inPlace := ["slices.overlaps[usher/api.Timer]", "slices.overlaps[usher/api.Flow]", "slices.overlaps[usher/api.Life]"], unfollowed := true, recurses := true, named := ["usher/wheel.blocks"], apart := false, laid := [("usher/wheel.blocks", laid_usher_wheel_blocks)], narrowed := true }
def TopNeverUptoSaid : Prop := topNeverUptoRow.holds Tryz.pinned (OpenSpec.upto topNeverSpec)

/-- 'ushertop.TopDraining', WHERE WHAT IT READS IS OF BULK AT MOST 1048576: true; the input reads as it did. -/
def topDrainingUptoRow : OpenClaim := { program := "ytinbndbjlgoghaagreatdoor", sum := "59b988c8ce6eca1b3907d8f5d173cbbd9ae9ad6fa8e9872a33aa06bb579007ba", func := "usher/ushertop.TopDraining", spec := "topDraining", inPlace := ["slices.overlaps[usher/api.Timer]", "slices.overlaps[usher/api.Flow]", "slices.overlaps[usher/api.Life]"], unfollowed := true, recurses := true, named := ["usher/wheel.blocks"], apart := false, laid := [("usher/wheel.blocks", laid_usher_wheel_blocks)], narrowed := true }
def TopDrainingUptoSaid : Prop := topDrainingUptoRow.holds Tryz.pinned (OpenSpec.upto topDrainingSpec)

/-- 'ushertop.TopReplies', WHERE WHAT IT READS IS OF BULK AT MOST 1048576: true; the input reads as it did. -/
def topRepliesUptoRow : OpenClaim := { program := "ytinbndbjlgoghaagreatdoor", sum := "59b988c8ce6eca1b3907d8f5d173cbbd9ae9ad6fa8e9872a33aa06bb579007ba", func := "usher/ushertop.TopReplies", spec := "topReplies", inPlace := ["slices.overlaps[usher/api.Timer]", "slices.overlaps[usher/api.Flow]", "slices.overlaps[usher/api.Life]"], unfollowed := true, recurses := true, named := ["usher/wheel.blocks"], apart := false, laid := [("usher/wheel.blocks", laid_usher_wheel_blocks)], narrowed := true }
def TopRepliesUptoSaid : Prop := topRepliesUptoRow.holds Tryz.pinned (OpenSpec.upto topRepliesSpec)

/-- 'ushertop.TopAsked', WHERE WHAT IT READS IS OF BULK AT MOST 1048576: true; the input reads as it did. -/
def topAskedUptoRow : OpenClaim := { program := "ytinbndbjlgoghaagreatdoor", sum := "59b988c8ce6eca1b3907d8f5d173cbbd9ae9ad6fa8e9872a33aa06bb579007ba", func := "usher/ushertop.TopAsked", spec := "topAsked", inPlace := ["slices.overlaps[usher/api.Timer]", "slices.overlaps[usher/api.Flow]", "slices.overlaps[usher/api.Life]"], unfollowed := true, recurses := true, named := ["usher/wheel.blocks"], apart := false, laid := [("usher/wheel.blocks", laid_usher_wheel_blocks)], narrowed := true }
def TopAskedUptoSaid : Prop := topAskedUptoRow.holds Tryz.pinned (OpenSpec.upto topAskedSpec)

/-- 'ushertop.TopOut', WHERE WHAT IT READS IS OF BULK AT MOST 1048576: true; the input reads as it did. -/
def topOutUptoRow : OpenClaim := { program := "ytinbndbjlgoghaagreatdoor", sum := "59b988c8ce6eca1b3907d8f5d173cbbd9ae9ad6fa8e9872a33aa06bb579007ba", func := "usher/ushertop.TopOut", spec := "topOut", inPlace := ["slices.overlaps[usher/api.Timer]", "slices.overlaps[usher/api.Flow]", "slices.overlaps[usher/api.Life]"], unfollowed := true, recurses := true, named := ["usher/wheel.blocks"], apart := false, laid := [("usher/wheel.blocks", laid_usher_wheel_blocks)], narrowed := true }
def TopOutUptoSaid : Prop := topOutUptoRow.holds Tryz.pinned (OpenSpec.upto topOutSpec)

/-- 'ushertop.TopWarm', WHERE WHAT IT READS IS OF BULK AT MOST 1048576: true; the input reads as it did. -/
def topWarmUptoRow : OpenClaim := { program := "ytinbndbjlgoghaagreatdoor", sum := "59b988c8ce6eca1b3907d8f5d173cbbd9ae9ad6fa8e9872a33aa06bb579007ba", func := "usher/ushertop.TopWarm", spec := "topWarm", inPlace := ["slices.overlaps[usher/api.Timer]", "slices.overlaps[usher/api.Flow]", "slices.overlaps[usher/api.Life]"], unfollowed := true, recurses := true, named := ["usher/wheel.blocks"], apart := false, laid := [("usher/wheel.blocks", laid_usher_wheel_blocks)], narrowed := true }
def TopWarmUptoSaid : Prop := topWarmUptoRow.holds Tryz.pinned (OpenSpec.upto topWarmSpec)

/-- 'ushertop.TopRest', WHERE WHAT IT READS IS OF BULK AT MOST 1048576: true; the input reads as it did. -/
def topRestUptoRow : OpenClaim := { program := "ytinbndbjlgoghaagreatdoor", sum := "59b988c8ce6eca1b3907d8f5d173cbbd9ae9ad6fa8e9872a33aa06bb579007ba", func := "usher/ushertop.TopRest", spec := "topRest", inPlace := ["slices.overlaps[usher/api.Timer]", "slices.overlaps[usher/api.Flow]", "slices.overlaps[usher/api.Life]"], unfollowed := true, recurses := true, named := ["usher/wheel.blocks"], apart := false, laid := [("usher/wheel.blocks", laid_usher_wheel_blocks)], narrowed := true }
def TopRestUptoSaid : Prop := topRestUptoRow.holds Tryz.pinned (OpenSpec.upto topRestSpec)

/-- 'ushertop.TopKept', WHERE WHAT IT READS IS OF BULK AT MOST 1048576: true; the input reads as it did. -/
def topKeptUptoRow : OpenClaim := { program := "ytinbndbjlgoghaagreatdoor", sum := "59b988c8ce6eca1b3907d8f5d173cbbd9ae9ad6fa8e9872a33aa06bb579007ba", func := "usher/ushertop.TopKept", spec := "topKept", inPlace := ["slices.overlaps[usher/api.Timer]", "slices.overlaps[usher/api.Flow]", "slices.overlaps[usher/api.Life]"], unfollowed := true, recurses := true, named := ["usher/wheel.blocks"], apart := false, laid := [("usher/wheel.blocks", laid_usher_wheel_blocks)], narrowed := true }
def TopKeptUptoSaid : Prop := topKeptUptoRow.holds Tryz.pinned (OpenSpec.upto topKeptSpec)

/-- 'ushertop.TopTold', WHERE WHAT IT READS IS OF BULK AT MOST 1048576: true; the input reads as it did. -/
def topToldUptoRow : OpenClaim := { program := "ytinbndbjlgoghaagreatdoor", sum := "59b988c8ce6eca1b3907d8f5d173cbbd9ae9ad6fa8e9872a33aa06bb579007ba", func := "usher/ushertop.TopTold", spec := "topTold", inPlace := ["slices.overlaps[usher/api.Timer]", "slices.overlaps[usher/api.Flow]", "slices.overlaps[usher/api.Life]"], unfollowed := true, recurses := true, named := ["usher/wheel.blocks"], apart := false, laid := [("usher/wheel.blocks", laid_usher_wheel_blocks)], narrowed := true }
def TopToldUptoSaid : Prop := topToldUptoRow.holds Tryz.pinned (OpenSpec.upto topToldSpec)

end Rows
end Go.Proofs.YtinbndbjlgoghaaGreatDoor
