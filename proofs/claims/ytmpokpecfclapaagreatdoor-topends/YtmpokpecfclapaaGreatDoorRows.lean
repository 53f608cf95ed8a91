/-
  NARROWER THAN 'FOR EVERY INPUT', by the rows' own cells (each row's printed sentence says how): TopDrain: laid · TopEnds: laid · TopOutputs: laid · TopRetries: laid · TopEach: laid · TopIdle: laid · TopServed: laid · TopBackends: laid · TopClosed: laid · TopTokens: laid.
  DERIVED. THE GIVEN ROWS OF THIS SEAT. 10 by the template 'for every input the law returns true; each argument reads behind the call as it read before'; 0 by the template 'total and deterministic' (their statements: YtmpokpecfclapaaGreatDoorTotals.lean).
  GIVEN WITH THE SEED: the statements are not yours to turn. If you find one false, say at which input.
  Laid BY PROGRAM, IN A SANDBOX (cutbox-rows.mjs): the forced cells as the released guide's own fill.sh prints them over the translation 80b9953b3ed5cb46… (all of the seat's roots in one cut). By AI agents, Wed Nov 11 2026. No macro, syntax, notation, axiom, sorry.
-/
import Derived.Test.YtmpokpecfclapaaGreatDoorChecked
import GoSem.Claim
import GoSem.ClaimJoined
import GoSem.ClaimMapViews
import Derived.JoinedTies
import Derived.KernelRfl
namespace Go.Proofs.YtmpokpecfclapaaGreatDoor
/- THE CELL 'sum', in the pinned program and in every row, IS THE sha256 OF THE DUMP (.gsa) THAT YtmpokpecfclapaaGreatDoorProg.lean LOADS. Nothing in Lean hashes anything: it is a label: what it is worth is what the hold of that sum in a sandbox is worth. -/
noncomputable def Tryz.pinned : Pinned := { name := "ytmpokpecfclapaagreatdoor", sum := "80b9953b3ed5cb4672d6a04aac908fffdd711bf9d7fbc83dca35205fa3ad8a28", checked := Tryz.checked }
namespace Rows
def none {H : Type} : Left H := { results := [], args := [] }

/- WHAT THE LISTED PACKAGE-LEVEL VARIABLES READ AS WHEN THE CALL BEGINS. Each datum BY PROGRAM (the guide's laid-datum.mjs) off the statement by which the dump's own 'gosem.cut.vars' lays the variable. In a bare row this is a premise. The card (YtmpokpecfclapaaGreatDoorCards.lean) ties it to the program's text. -/
def laid_usher_wheel_blocks {H : Type} : DataW H := .agg [.lit (.int .i64 8), .lit (.int .i64 64), .lit (.int .i64 512)]

/-- 'ushertop.TopDrain': WHATEVER THE INPUT: true; the input reads as it did. -/
def topDrainSpec : ChangeSpec := { name := "topDrain", fn := fun _ => fun
  | [d1, d2, d3, d4] => { results := [.lit (.bool true)], args := [d1, d2, d3, d4] }
  | _ => none }
def topDrainRow : OpenClaim := { program := "ytmpokpecfclapaagreatdoor", sum := "80b9953b3ed5cb4672d6a04aac908fffdd711bf9d7fbc83dca35205fa3ad8a28", func := "usher/ushertop.TopDrain", spec := "topDrain", inPlace := ["slices.overlaps[usher/api.Timer]", "slices.overlaps[usher/api.Flow]", "slices.overlaps[usher/api.Life]"], unfollowed := true, recurses := true, named := ["usher/wheel.blocks"], apart := false, laid := [("usher/wheel.blocks", laid_usher_wheel_blocks)] }
def TopDrainSaid : Prop := topDrainRow.holds Tryz.pinned (OpenSpec.ofChange topDrainSpec)

/-- ITS FALSE NEIGHBOUR: 'it returns false'. Refute it at one input. -/
def topDrainWrong : ChangeSpec := { name := "topDrain", fn := fun _ => fun
  | [d1, d2, d3, d4] => { results := [.lit (.bool false)], args := [d1, d2, d3, d4] }
  | _ => none }
def TopDrainWrongFalsely : Prop := topDrainRow.holds Tryz.pinned (OpenSpec.ofChange topDrainWrong)

/-- 'ushertop.TopEnds': WHATEVER THE INPUT: true; the input reads as it did. -/
def topEndsSpec : ChangeSpec := { name := "topEnds", fn := fun _ => fun
  | [d1, d2] => { results := [.lit (.bool true)], args := [d1, d2] }
  | _ => none }
def topEndsRow : OpenClaim := { program := "ytmpokpecfclapaagreatdoor", sum := "80b9953b3ed5cb4672d6a04aac908fffdd711bf9d7fbc83dca35205fa3ad8a28", func := "usher/ushertop.TopEnds", spec := "topEnds", inPlace := ["slices.overlaps[usher/api.Timer]", "slices.overlaps[usher/api.Flow]", "slices.overlaps[usher/api.Life]"], unfollowed := true, recurses := true, named := ["usher/wheel.blocks"], apart := false, laid := [("usher/wheel.blocks", laid_usher_wheel_blocks)] }
def TopEndsSaid : Prop := topEndsRow.holds Tryz.pinned (OpenSpec.ofChange topEndsSpec)

/-- ITS FALSE NEIGHBOUR: 'it returns false'. Refute it at one input. -/
def topEndsWrong : ChangeSpec := { name := "topEnds", fn := fun _ => fun
  | [d1, d2] => { results := [.lit (.bool false)], args := [d1, d2] }
  | _ => none }
def TopEndsWrongFalsely : Prop := topEndsRow.holds Tryz.pinned (OpenSpec.ofChange topEndsWrong)

/-- 'ushertop.TopOutputs': WHATEVER THE INPUT: true; the input reads as it did. -/
def topOutputsSpec : ChangeSpec := { name := "topOutputs", fn := fun _ => fun
  | [d1, d2] => { results := [.lit (.bool true)], args := [d1, d2] }
  | _ => none }
def topOutputsRow : OpenClaim := { program := "ytmpokpecfclapaagreatdoor", sum := "80b9953b3ed5cb4672d6a04aac908fffdd711bf9d7fbc83dca35205fa3ad8a28", func := "usher/ushertop.TopOutputs", spec := "topOutputs", inPlace := ["slices.overlaps[usher/api.Timer]", "slices.overlaps[usher/api.Flow]", "slices.overlaps[usher/api.Life]"], unfollowed := true, recurses := true, named := ["usher/wheel.blocks"], apart := false, laid := [("usher/wheel.blocks", laid_usher_wheel_blocks)] }
def TopOutputsSaid : Prop := topOutputsRow.holds Tryz.pinned (OpenSpec.ofChange topOutputsSpec)

/-- ITS FALSE NEIGHBOUR: 'it returns false'. Refute it at one input. -/
def topOutputsWrong : ChangeSpec := { name := "topOutputs", fn := fun _ => fun
  | [d1, d2] => { results := [.lit (.bool false)], args := [d1, d2] }
  | _ => none }
def TopOutputsWrongFalsely : Prop := topOutputsRow.holds Tryz.pinned (OpenSpec.ofChange topOutputsWrong)

/-- 'ushertop.TopRetries': WHATEVER THE INPUT: true; the input reads as it did. -/
def topRetriesSpec : ChangeSpec := { name := "topRetries", fn := fun _ => fun
  | [d1, d2] => { results := [.lit (.bool true)], args := [d1, d2] }
  | _ => none }
def topRetriesRow : OpenClaim := { program := "ytmpokpecfclapaagreatdoor", sum := "80b9953b3ed5cb4672d6a04aac908fffdd711bf9d7fbc83dca35205fa3ad8a28", func := "usher/ushertop.TopRetries", spec := "topRetries", inPlace := ["slices.overlaps[usher/api.Timer]", "slices.overlaps[usher/api.Flow]", "slices.overlaps[usher/api.Life]"], unfollowed := true, recurses := true, named := ["usher/wheel.blocks"], apart := false, laid := [("usher/wheel.blocks", laid_usher_wheel_blocks)] }
def TopRetriesSaid : Prop := topRetriesRow.holds Tryz.pinned (OpenSpec.ofChange topRetriesSpec)

/-- ITS FALSE NEIGHBOUR: 'it returns false'. Refute it at one input. -/
def topRetriesWrong : ChangeSpec := { name := "topRetries", fn := fun _ => fun
  | [d1, d2] => { results := [.lit (.bool false)], args := [d1, d2] }
  | _ => none }
def TopRetriesWrongFalsely : Prop := topRetriesRow.holds Tryz.pinned (OpenSpec.ofChange topRetriesWrong)

/-- 'ushertop.TopEach': WHATEVER THE INPUT: true; the input reads as it did. -/
def topEachSpec : ChangeSpec := { name := "topEach", fn := fun _ => fun
  | [d1, d2] => { results := [.lit (.bool true)], args := [d1, d2] }
  | _ => none }
def topEachRow : OpenClaim := { program := "ytmpokpecfclapaagreatdoor", sum := "80b9953b3ed5cb4672d6a04aac908fffdd711bf9d7fbc83dca35205fa3ad8a28", func := "usher/ushertop.TopEach", spec := "topEach", inPlace := ["slices.overlaps[usher/api.Timer]", "slices.overlaps[usher/api.Flow]", "slices.overlaps[usher/api.Life]"], unfollowed := true, recurses := true, named := ["usher/wheel.blocks"], apart := false, laid := [("usher/wheel.blocks", laid_usher_wheel_blocks)] }
def TopEachSaid : Prop := topEachRow.holds Tryz.pinned (OpenSpec.ofChange topEachSpec)

/-- ITS FALSE NEIGHBOUR: 'it returns false'. Refute it at one input. -/
def topEachWrong : ChangeSpec := { name := "topEach", fn := fun _ => fun
  | [d1, d2] => { results := [.lit (.bool false)], args := [d1, d2] }
  | _ => none }
def TopEachWrongFalsely : Prop := topEachRow.holds Tryz.pinned (OpenSpec.ofChange topEachWrong)

/-- 'ushertop.TopIdle': WHATEVER THE INPUT: true; the input reads as it did. -/
def topIdleSpec : ChangeSpec := { name := "topIdle", fn := fun _ => fun
  | [d1, d2] => { results := [.lit (.bool true)], args := [d1, d2] }
  | _ => none }
def topIdleRow : OpenClaim := { program := "ytmpokpecfclapaagreatdoor", sum := "80b9953b3ed5cb4672d6a04aac908fffdd711bf9d7fbc83dca35205fa3ad8a28", func := "usher/ushertop.TopIdle", spec := "topIdle", inPlace := ["slices.overlaps[usher/api.Timer]", "slices.overlaps[usher/api.Flow]", "slices.overlaps[usher/api.Life]"], unfollowed := true, recurses := true, named := ["usher/wheel.blocks"], apart := false, laid := [("usher/wheel.blocks", laid_usher_wheel_blocks)] }
def TopIdleSaid : Prop := topIdleRow.holds Tryz.pinned (OpenSpec.ofChange topIdleSpec)

/-- ITS FALSE NEIGHBOUR: 'it returns false'. Refute it at one input. -/
def topIdleWrong : ChangeSpec := { name := "topIdle", fn := fun _ => fun
  | [d1, d2] => { results := [.lit (.bool false)], args := [d1, d2] }
  | _ => none }
def TopIdleWrongFalsely : Prop := topIdleRow.holds Tryz.pinned (OpenSpec.ofChange topIdleWrong)

/-- 'ushertop.TopServed': WHATEVER THE INPUT: true; the input reads as it did. -/
def topServedSpec : ChangeSpec := { name := "topServed", fn := fun _ => fun
  | [d1, d2] => { results := [.lit (.bool true)], args := [d1, d2] }
  | _ => none }
def topServedRow : OpenClaim := { program := "ytmpokpecfclapaagreatdoor", sum := "80b9953b3ed5cb4672d6a04aac908fffdd711bf9d7fbc83dca35205fa3ad8a28", func := "usher/ushertop.TopServed", spec := "topServed", inPlace := ["slices.overlaps[usher/api.Timer]", "slices.overlaps[usher/api.Flow]", "slices.overlaps[usher/api.Life]"], unfollowed := true, recurses := true, named := ["usher/wheel.blocks"], apart := false, laid := [("usher/wheel.blocks", laid_usher_wheel_blocks)] }
def TopServedSaid : Prop := topServedRow.holds Tryz.pinned (OpenSpec.ofChange topServedSpec)

/-- ITS FALSE NEIGHBOUR: 'it returns false'. Refute it at one input. -/
def topServedWrong : ChangeSpec := { name := "topServed", fn := fun _ => fun
  | [d1, d2] => { results := [.lit (.bool false)], args := [d1, d2] }
  | _ => none }
def TopServedWrongFalsely : Prop := topServedRow.holds Tryz.pinned (OpenSpec.ofChange topServedWrong)

/-- 'ushertop.TopBackends': WHATEVER THE INPUT: true; the input reads as it did. -/
def topBackendsSpec : ChangeSpec := { name := "topBackends", fn := fun _ => fun
  | [d1, d2] => { results := [.lit (.bool true)], args := [d1, d2] }
  | _ => none }
def topBackendsRow : OpenClaim := { program := "ytmpokpecfclapaagreatdoor", sum := "80b9953b3ed5cb4672d6a04aac908fffdd711bf9d7fbc83dca35205fa3ad8a28", func := "usher/ushertop.TopBackends", spec := "topBackends", inPlace := ["slices.overlaps[usher/api.Timer]", "slices.overlaps[usher/api.Flow]", "slices.overlaps[usher/api.Life]"], unfollowed := true, recurses := true, named := ["usher/wheel.blocks"], apart := false, laid := [("usher/wheel.blocks", laid_usher_wheel_blocks)] }
def TopBackendsSaid : Prop := topBackendsRow.holds Tryz.pinned (OpenSpec.ofChange topBackendsSpec)

/-- ITS FALSE NEIGHBOUR: 'it returns false'. Refute it at one input. -/
def topBackendsWrong : ChangeSpec := { name := "topBackends", fn := fun _ => fun
  | [d1, d2] => { results := [.lit (.bool false)], args := [d1, d2] }
  | _ => none }
def TopBackendsWrongFalsely : Prop := topBackendsRow.holds Tryz.pinned (OpenSpec.ofChange topBackendsWrong)

/-- 'ushertop.TopClosed': WHATEVER THE INPUT: true; the input reads as it did. -/
def topClosedSpec : ChangeSpec := { name := "topClosed", fn := fun _ => fun
  | [d1, d2] => { results := [.lit (.bool true)], args := [d1, d2] }
  | _ => none }
def topClosedRow : OpenClaim := { program := "ytmpokpecfclapaagreatdoor", sum := "80b9953b3ed5cb4672d6a04aac908fffdd711bf9d7fbc83dca35205fa3ad8a28", func := "usher/ushertop.TopClosed", spec := "topClosed", inPlace := ["slices.overlaps[usher/api.Timer]", "slices.overlaps[usher/api.Flow]", "slices.overlaps[usher/api.Life]"], unfollowed := true, recurses := true, named := ["usher/wheel.blocks"], apart := false, laid := [("usher/wheel.blocks", laid_usher_wheel_blocks)] }
def TopClosedSaid : Prop := topClosedRow.holds Tryz.pinned (OpenSpec.ofChange topClosedSpec)

/-- ITS FALSE NEIGHBOUR: 'it returns false'. Refute it at one input. -/
def topClosedWrong : ChangeSpec := { name := "topClosed", fn := fun _ => fun
  | [d1, d2] => { results := [.lit (.bool false)], args := [d1, d2] }
  | _ => none }
def TopClosedWrongFalsely : Prop := topClosedRow.holds Tryz.pinned (OpenSpec.ofChange topClosedWrong)

/-- 'ushertop.TopTokens': WHATEVER THE INPUT: true; the input reads as it did. -/
def topTokensSpec : ChangeSpec := { name := "topTokens", fn := fun _ => fun
  | [d1, d2] => { results := [.lit (.bool true)], args := [d1, d2] }
  | _ => none }
def topTokensRow : OpenClaim := { program := "ytmpokpecfclapaagreatdoor", sum := "80b9953b3ed5cb4672d6a04aac908fffdd711bf9d7fbc83dca35205fa3ad8a28", func := "usher/ushertop.TopTokens", spec := "topTokens", inPlace := ["slices.overlaps[usher/api.Timer]", "slices.overlaps[usher/api.Flow]", "slices.overlaps[usher/api.Life]"], unfollowed := true, recurses := true, named := ["usher/wheel.blocks"], apart := false, laid := [("usher/wheel.blocks", laid_usher_wheel_blocks)] }
def TopTokensSaid : Prop := topTokensRow.holds Tryz.pinned (OpenSpec.ofChange topTokensSpec)

/-- ITS FALSE NEIGHBOUR: 'it returns false'. Refute it at one input. -/
def topTokensWrong : ChangeSpec := { name := "topTokens", fn := fun _ => fun
  | [d1, d2] => { results := [.lit (.bool false)], args := [d1, d2] }
  | _ => none }
def TopTokensWrongFalsely : Prop := topTokensRow.holds Tryz.pinned (OpenSpec.ofChange topTokensWrong)

/- THE SECOND FORM. 'bulk': how many values and letters a reading holds, each counted each time it is reached (what is shared counts as often as it is met; a slice's spare places count too). A statement '..UptoSaid' is the law's where the arguments, and the package variables that the reading takes, are together of bulk at most 1048576: NARROWER than '..Said'. Prove '..Said' where nothing that the law and all that it calls make is longer than what came in: it says more and counts as full. Else prove '..UptoSaid'. A law counts once. -/
mutual
def uptoBulk {H : Type} : DataW H → Nat
  | .lit (.string bytes) => bytes.length + 1
  | .lit _ => 1
  | .nil => 1
  | .ptr d => uptoBulk d + 1
  | .slice elems spare => uptoBulkAll elems + uptoBulkAll spare + 1
  | .agg parts => uptoBulkAll parts + 1
  | .iface _ d => uptoBulk d + 1
  | .map entries => uptoBulkEntries entries + 1
  | .held _ => 1
def uptoBulkAll {H : Type} : List (DataW H) → Nat
  | [] => 0
  | d :: r => uptoBulk d + uptoBulkAll r
def uptoBulkEntries {H : Type} : List (Lit × DataW H) → Nat
  | [] => 0
  | x :: r => uptoBulkEntry x + uptoBulkEntries r
def uptoBulkEntry {H : Type} : Lit × DataW H → Nat
  | (.string bytes, d) => bytes.length + uptoBulk d + 1
  | (_, d) => uptoBulk d + 1
 end
def uptoSmall : (H : Type) → List (DataW H) → Bool := fun _ ds => decide (uptoBulkAll ds ≤ 1048576)
def OpenSpec.upto (s : _root_.Go.ChangeSpec) : _root_.Go.OpenSpec := { _root_.Go.OpenSpec.ofChange s with cond := some uptoSmall }

/-- 'ushertop.TopDrain', WHERE WHAT IT READS IS OF BULK AT MOST 1048576: true; the input reads as it did. -/
def topDrainUptoRow : OpenClaim := { program := "ytmpokpecfclapaagreatdoor", sum := "80b9953b3ed5cb4672d6a04aac908fffdd711bf9d7fbc83dca35205fa3ad8a28", func := "usher/ushertop.TopDrain", spec := "topDrain", inPlace := ["slices.overlaps[usher/api.Timer]", "slices.overlaps[usher/api.Flow]", "slices.overlaps[usher/api.Life]"], unfollowed := true, recurses := true, named := ["usher/wheel.blocks"], apart := false, laid := [("usher/wheel.blocks", laid_usher_wheel_blocks)], narrowed := true }
def TopDrainUptoSaid : Prop := topDrainUptoRow.holds Tryz.pinned (OpenSpec.upto topDrainSpec)

/-- 'ushertop.TopEnds', WHERE WHAT IT READS IS OF BULK AT MOST 1048576: true; the input reads as it did. -/
def topEndsUptoRow : OpenClaim := { program := "ytmpokpecfclapaagreatdoor", sum := "80b9953b3ed5cb4672d6a04aac908fffdd711bf9d7fbc83dca35205fa3ad8a28", func := "usher/ushertop.TopEnds", spec := "topEnds", inPlace := ["slices.overlaps[usher/api.Timer]", "slices.overlaps[usher/api.Flow]", "slices.overlaps[usher/api.Life]"], unfollowed := true, recurses := true, named := ["usher/wheel.blocks"], apart := false, laid := [("usher/wheel.blocks", laid_usher_wheel_blocks)], narrowed := true }
def TopEndsUptoSaid : Prop := topEndsUptoRow.holds Tryz.pinned (OpenSpec.upto topEndsSpec)

/-- 'ushertop.TopOutputs', WHERE WHAT IT READS IS OF BULK AT MOST 1048576: true; the input reads as it did. -/
def topOutputsUptoRow : OpenClaim := { program := "ytmpokpecfclapaagreatdoor", sum := "80b9953b3ed5cb4672d6a04aac908fffdd711bf9d7fbc83dca35205fa3ad8a28", func := "usher/ushertop.TopOutputs", spec := "topOutputs", inPlace := ["slices.overlaps[usher/api.Timer]", "slices.overlaps[usher/api.Flow]", "slices.overlaps[usher/api.Life]"], unfollowed := true, recurses := true, named := ["usher/wheel.blocks"], apart := false, laid := [("usher/wheel.blocks", laid_usher_wheel_blocks)], narrowed := true }
def TopOutputsUptoSaid : Prop := topOutputsUptoRow.holds Tryz.pinned (OpenSpec.upto topOutputsSpec)

/-- 'ushertop.TopRetries', WHERE WHAT IT READS IS OF BULK AT MOST 1048576: true; the input reads as it did. -/
def topRetriesUptoRow : OpenClaim := { program := "ytmpokpecfclapaagreatdoor", sum := "80b9953b3ed5cb4672d6a04aac908fffdd711bf9d7fbc83dca35205fa3ad8a28", func := "usher/ushertop.TopRetries", spec := "topRetries", inPlace := ["slices.overlaps[usher/api.Timer]", "slices.overlaps[usher/api.Flow]", "slices.overlaps[usher/api.Life]"], unfollowed := true, recurses := true, named := ["usher/wheel.blocks"], apart := false, laid := [("usher/wheel.blocks", laid_usher_wheel_blocks)], narrowed := true }
def TopRetriesUptoSaid : Prop := topRetriesUptoRow.holds Tryz.pinned (OpenSpec.upto topRetriesSpec)

/-- 'ushertop.TopEach', WHERE WHAT IT READS IS OF BULK AT MOST 1048576: true; the input reads as it did. -/
def topEachUptoRow : OpenClaim := { program := "ytmpokpecfclapaagreatdoor", sum := "80b9953b3ed5cb4672d6a04aac908fffdd711bf9d7fbc83dca35205fa3ad8a28", func := "usher/ushertop.TopEach", spec := "topEach", inPlace := ["slices.overlaps[usher/api.Timer]", "slices.overlaps[usher/api.Flow]", "slices.overlaps[usher/api.Life]"], unfollowed := true, recurses := true, named := ["usher/wheel.blocks"], apart := false, laid := [("usher/wheel.blocks", laid_usher_wheel_blocks)], narrowed := true }
def TopEachUptoSaid : Prop := topEachUptoRow.holds Tryz.pinned (OpenSpec.upto topEachSpec)

/-- 'ushertop.TopIdle', WHERE WHAT IT READS IS OF BULK AT MOST 1048576: true; the input reads as it did. -/
def topIdleUptoRow : OpenClaim := { program := "ytmpokpecfclapaagreatdoor", sum := "80b9953b3ed5cb4672d6a04aac908fffdd711bf9d7fbc83dca35205fa3ad8a28", func := "usher/ushertop.TopIdle", spec := "topIdle", inPlace := ["slices.overlaps[usher/api.Timer]", "slices.overlaps[usher/api.Flow]", "slices.overlaps[usher/api.Life]"], unfollowed := true, recurses := true, named := ["usher/wheel.blocks"], apart := false, laid := [("usher/wheel.blocks", laid_usher_wheel_blocks)], narrowed := true }
def TopIdleUptoSaid : Prop := topIdleUptoRow.holds Tryz.pinned (OpenSpec.upto topIdleSpec)

/-- 'ushertop.TopServed', WHERE WHAT IT READS IS OF BULK AT MOST 1048576: true; the input reads as it did. -/
def topServedUptoRow : OpenClaim := { program := "ytmpokpecfclapaagreatdoor", sum := "80b9953b3ed5cb4672d6a04aac908fffdd711bf9d7fbc83dca35205fa3ad8a28", func := "usher/ushertop.TopServed", spec := "topServed", inPlace := ["slices.overlaps[usher/api.Timer]", "slices.overlaps[usher/api.Flow]", "slices.overlaps[usher/api.Life]"], unfollowed := true, recurses := true, named := ["usher/wheel.blocks"], apart := false, laid := [("usher/wheel.blocks", laid_usher_wheel_blocks)], narrowed := true }
def TopServedUptoSaid : Prop := topServedUptoRow.holds Tryz.pinned (OpenSpec.upto topServedSpec)

/-- 'ushertop.TopBackends', WHERE WHAT IT READS IS OF BULK AT MOST 1048576: true; the input reads as it did. -/
def topBackendsUptoRow : OpenClaim := { program := "ytmpokpecfclapaagreatdoor", sum := "80b9953b3ed5cb4672d6a04aac908fffdd711bf9d7fbc83dca35205fa3ad8a28", func := "usher/ushertop.TopBackends", spec := "topBackends", inPlace := ["slices.overlaps[usher/api.Timer]", "slices.overlaps[usher/api.Flow]", "slices.overlaps[usher/api.Life]"], unfollowed := true, recurses := true, named := ["usher/wheel.blocks"], apart := false, laid := [("usher/wheel.blocks", laid_usher_wheel_blocks)], narrowed := true }
def TopBackendsUptoSaid : Prop := topBackendsUptoRow.holds Tryz.pinned (OpenSpec.upto topBackendsSpec)

/-- 'ushertop.TopClosed', WHERE WHAT IT READS IS OF BULK AT MOST 1048576: true; the input reads as it did. -/
def topClosedUptoRow : OpenClaim := { program := "ytmpokpecfclapaagreatdoor", sum := "80b9953b3ed5cb4672d6a04aac908fffdd711bf9d7fbc83dca35205fa3ad8a28", func := "usher/ushertop.TopClosed", spec := "topClosed", inPlace := ["slices.overlaps[usher/api.Timer]", "slices.overlaps[usher/api.Flow]", "slices.overlaps[usher/api.Life]"], unfollowed := true, recurses := true, named := ["usher/wheel.blocks"], apart := false, laid := [("usher/wheel.blocks", laid_usher_wheel_blocks)], narrowed := true }
def TopClosedUptoSaid : Prop := topClosedUptoRow.holds Tryz.pinned (OpenSpec.upto topClosedSpec)

/-- 'ushertop.TopTokens', WHERE WHAT IT READS IS OF BULK AT MOST 1048576: true; the input reads as it did. -/
def topTokensUptoRow : OpenClaim := { program := "ytmpokpecfclapaagreatdoor", sum := "80b9953b3ed5cb4672d6a04aac908fffdd711bf9d7fbc83dca35205fa3ad8a28", func := "usher/ushertop.TopTokens", spec := "topTokens", inPlace := ["slices.overlaps[usher/api.Timer]", "slices.overlaps[usher/api.Flow]", "slices.overlaps[usher/api.Life]"], unfollowed := true, recurses := true, named := ["usher/wheel.blocks"], apart := false, laid := [("usher/wheel.blocks", laid_usher_wheel_blocks)], narrowed := true }
def TopTokensUptoSaid : Prop := topTokensUptoRow.holds Tryz.pinned (OpenSpec.upto topTokensSpec)

end Rows
end Go.Proofs.YtmpokpecfclapaaGreatDoor
