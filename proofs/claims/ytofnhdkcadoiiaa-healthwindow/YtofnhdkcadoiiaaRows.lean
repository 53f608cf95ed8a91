/-
  No cell of these rows narrows 'for every input' (looked for: loops, veiled, ifaces, maps, wideKeys, modest, calm, conditions, laid).
  DERIVED. THE GIVEN ROWS OF THIS SEAT. 6 by the template 'for every input the law returns true; each argument reads behind the call as it read before'; 0 by the template 'total and deterministic' (their statements: YtofnhdkcadoiiaaTotals.lean).
  GIVEN WITH THE SEED: the statements are not yours to turn. If you find one false, say at which input.
  Laid BY PROGRAM, IN A SANDBOX (cutbox-rows.mjs): the forced cells as the released guide's own fill.sh prints them over the translation 585852f57830cf8a… (all of the seat's roots in one cut). By AI agents, Wed Nov 11 2026. No macro, syntax, notation, axiom, sorry.
-/
import Derived.Test.YtofnhdkcadoiiaaChecked
import GoSem.Claim
import GoSem.ClaimJoined
import GoSem.ClaimMapViews
import Derived.JoinedTies
import Derived.KernelRfl
namespace Go.Proofs.Ytofnhdkcadoiiaa
/- THE CELL 'sum', in the pinned program and in every row, IS THE sha256 OF THE DUMP (.gsa) THAT YtofnhdkcadoiiaaProg.lean LOADS. Nothing in Lean hashes anything: it is a label: what it is worth is what the hold of that sum in a sandbox is worth. -/
noncomputable def Try.pinned : Pinned := { name := "ytofnhdkcadoiiaa", sum := "585852f57830cf8ace65633000b236d63c361c50abac8ffae83d554ba9b28d29", checked := Try.checked }
namespace Rows
def none {H : Type} : Left H := { results := [], args := [] }

/-- 'usherlaw.HealthChecks': WHATEVER THE INPUT: true; the input reads as it did. -/
def healthChecksSpec : ChangeSpec := { name := "healthChecks", fn := fun _ => fun
  | [d] => { results := [.lit (.bool true)], args := [d] }
  | _ => none }
def healthChecksRow : OpenClaim := { program := "ytofnhdkcadoiiaa", sum := "585852f57830cf8ace65633000b236d63c361c50abac8ffae83d554ba9b28d29", func := "usher/usherlaw.HealthChecks", spec := "healthChecks", apart := false }
def HealthChecksSaid : Prop := healthChecksRow.holds Try.pinned (OpenSpec.ofChange healthChecksSpec)

/-- ITS FALSE NEIGHBOUR: 'it returns false'. Refute it at one input. -/
def healthChecksWrong : ChangeSpec := { name := "healthChecks", fn := fun _ => fun
  | [d] => { results := [.lit (.bool false)], args := [d] }
  | _ => none }
def HealthChecksWrongFalsely : Prop := healthChecksRow.holds Try.pinned (OpenSpec.ofChange healthChecksWrong)

/-- 'usherlaw.HealthNotes': WHATEVER THE INPUT: true; the input reads as it did. -/
def healthNotesSpec : ChangeSpec := { name := "healthNotes", fn := fun _ => fun
  | [d1, d2, d3, d4, d5] => { results := [.lit (.bool true)], args := [d1, d2, d3, d4, d5] }
  | _ => none }
def healthNotesRow : OpenClaim := { program := "ytofnhdkcadoiiaa", sum := "585852f57830cf8ace65633000b236d63c361c50abac8ffae83d554ba9b28d29", func := "usher/usherlaw.HealthNotes", spec := "healthNotes", apart := false }
def HealthNotesSaid : Prop := healthNotesRow.holds Try.pinned (OpenSpec.ofChange healthNotesSpec)

/-- ITS FALSE NEIGHBOUR: 'it returns false'. Refute it at one input. -/
def healthNotesWrong : ChangeSpec := { name := "healthNotes", fn := fun _ => fun
  | [d1, d2, d3, d4, d5] => { results := [.lit (.bool false)], args := [d1, d2, d3, d4, d5] }
  | _ => none }
def HealthNotesWrongFalsely : Prop := healthNotesRow.holds Try.pinned (OpenSpec.ofChange healthNotesWrong)

/-- 'usherlaw.HealthBacks': WHATEVER THE INPUT: true; the input reads as it did. -/
def healthBacksSpec : ChangeSpec := { name := "healthBacks", fn := fun _ => fun
  | [d1, d2, d3] => { results := [.lit (.bool true)], args := [d1, d2, d3] }
  | _ => none }
def healthBacksRow : OpenClaim := { program := "ytofnhdkcadoiiaa", sum := "585852f57830cf8ace65633000b236d63c361c50abac8ffae83d554ba9b28d29", func := "usher/usherlaw.HealthBacks", spec := "healthBacks", apart := false }
def HealthBacksSaid : Prop := healthBacksRow.holds Try.pinned (OpenSpec.ofChange healthBacksSpec)

/-- ITS FALSE NEIGHBOUR: 'it returns false'. Refute it at one input. -/
def healthBacksWrong : ChangeSpec := { name := "healthBacks", fn := fun _ => fun
  | [d1, d2, d3] => { results := [.lit (.bool false)], args := [d1, d2, d3] }
  | _ => none }
def HealthBacksWrongFalsely : Prop := healthBacksRow.holds Try.pinned (OpenSpec.ofChange healthBacksWrong)

/-- 'usherlaw.HealthAlloweds': WHATEVER THE INPUT: true; the input reads as it did. -/
def healthAllowedsSpec : ChangeSpec := { name := "healthAlloweds", fn := fun _ => fun
  | [d1, d2, d3] => { results := [.lit (.bool true)], args := [d1, d2, d3] }
  | _ => none }
def healthAllowedsRow : OpenClaim := { program := "ytofnhdkcadoiiaa", sum := "585852f57830cf8ace65633000b236d63c361c50abac8ffae83d554ba9b28d29", func := "usher/usherlaw.HealthAlloweds", spec := "healthAlloweds", apart := false }
def HealthAllowedsSaid : Prop := healthAllowedsRow.holds Try.pinned (OpenSpec.ofChange healthAllowedsSpec)

/-- ITS FALSE NEIGHBOUR: 'it returns false'. Refute it at one input. -/
def healthAllowedsWrong : ChangeSpec := { name := "healthAlloweds", fn := fun _ => fun
  | [d1, d2, d3] => { results := [.lit (.bool false)], args := [d1, d2, d3] }
  | _ => none }
def HealthAllowedsWrongFalsely : Prop := healthAllowedsRow.holds Try.pinned (OpenSpec.ofChange healthAllowedsWrong)

/-- 'usherkeep.HealthWindow': WHATEVER THE INPUT: true; the input reads as it did. -/
def healthWindowSpec : ChangeSpec := { name := "healthWindow", fn := fun _ => fun
  | [d1, d2, d3, d4, d5] => { results := [.lit (.bool true)], args := [d1, d2, d3, d4, d5] }
  | _ => none }
def healthWindowRow : OpenClaim := { program := "ytofnhdkcadoiiaa", sum := "585852f57830cf8ace65633000b236d63c361c50abac8ffae83d554ba9b28d29", func := "usher/usherkeep.HealthWindow", spec := "healthWindow", apart := false }
def HealthWindowSaid : Prop := healthWindowRow.holds Try.pinned (OpenSpec.ofChange healthWindowSpec)

/-- ITS FALSE NEIGHBOUR: 'it returns false'. Refute it at one input. -/
def healthWindowWrong : ChangeSpec := { name := "healthWindow", fn := fun _ => fun
  | [d1, d2, d3, d4, d5] => { results := [.lit (.bool false)], args := [d1, d2, d3, d4, d5] }
  | _ => none }
def HealthWindowWrongFalsely : Prop := healthWindowRow.holds Try.pinned (OpenSpec.ofChange healthWindowWrong)

/-- 'usherkeep.HealthHold': WHATEVER THE INPUT: true; the input reads as it did. -/
def healthHoldSpec : ChangeSpec := { name := "healthHold", fn := fun _ => fun
  | [d1, d2, d3] => { results := [.lit (.bool true)], args := [d1, d2, d3] }
  | _ => none }
def healthHoldRow : OpenClaim := { program := "ytofnhdkcadoiiaa", sum := "585852f57830cf8ace65633000b236d63c361c50abac8ffae83d554ba9b28d29", func := "usher/usherkeep.HealthHold", spec := "healthHold", apart := false }
def HealthHoldSaid : Prop := healthHoldRow.holds Try.pinned (OpenSpec.ofChange healthHoldSpec)

/-- ITS FALSE NEIGHBOUR: 'it returns false'. Refute it at one input. -/
def healthHoldWrong : ChangeSpec := { name := "healthHold", fn := fun _ => fun
  | [d1, d2, d3] => { results := [.lit (.bool false)], args := [d1, d2, d3] }
  | _ => none }
def HealthHoldWrongFalsely : Prop := healthHoldRow.holds Try.pinned (OpenSpec.ofChange healthHoldWrong)

/- THE SECOND FORM. 'bulk': how many values and letters a reading holds, each counted each time it is reached (what is shared counts as often as it is met; a slice's spare places count too). A statement '..UptoSaid' is the law's where the arguments, and the package variables that the reading takes, are together of bulk at most 1048576: NARROWER than '..Said'. Prove '..Said' where nothing that the law and all that it calls make is longer than what came in: it says more and counts as full. Else prove '..UptoSaid'. A law counts once. -/
mutual
def uptoBulk {H : Type} : DataW H → Nat
  | .lit (.string bytes) => bytes.length + 1
  | .lit _ => 1
  | .nil => 1
  | .ptr d => uptoBulk d + 1
  | .slice elems spare => uptoBulkAll elems + uptoBulkAll spare + 1
  | .agg parts => uptoBulkAll parts + 1
  | .iface _ d => uptoBulk d + 1
  | .map entries => uptoBulkEntries entries + 1
  | .held _ => 1
def uptoBulkAll {H : Type} : List (DataW H) → Nat
  | [] => 0
  | d :: r => uptoBulk d + uptoBulkAll r
def uptoBulkEntries {H : Type} : List (Lit × DataW H) → Nat
  | [] => 0
  | x :: r => uptoBulkEntry x + uptoBulkEntries r
def uptoBulkEntry {H : Type} : Lit × DataW H → Nat
  | (.string bytes, d) => bytes.length + uptoBulk d + 1
  | (_, d) => uptoBulk d + 1
 end
def uptoSmall : (H : Type) → List (DataW H) → Bool := fun _ ds => decide (uptoBulkAll ds ≤ 1048576)
def OpenSpec.upto (s : _root_.Go.ChangeSpec) : _root_.Go.OpenSpec := { _root_.Go.OpenSpec.ofChange s with cond := some uptoSmall }

/-- 'usherlaw.HealthChecks', WHERE WHAT IT READS IS OF BULK AT MOST 1048576: true; the input reads as it did. -/
def healthChecksUptoRow : OpenClaim := { program := "ytofnhdkcadoiiaa", sum := "585852f57830cf8ace65633000b236d63c361c50abac8ffae83d554ba9b28d29", func := "usher/usherlaw.HealthChecks", spec := "healthChecks", apart := false, narrowed := true }
def HealthChecksUptoSaid : Prop := healthChecksUptoRow.holds Try.pinned (OpenSpec.upto healthChecksSpec)

/-- 'usherlaw.HealthNotes', WHERE WHAT IT READS IS OF BULK AT MOST 1048576: true; the input reads as it did. -/
def healthNotesUptoRow : OpenClaim := { program := "ytofnhdkcadoiiaa", sum := "585852f57830cf8ace65633000b236d63c361c50abac8ffae83d554ba9b28d29", func := "usher/usherlaw.HealthNotes", spec := "healthNotes", apart := false, narrowed := true }
def HealthNotesUptoSaid : Prop := healthNotesUptoRow.holds Try.pinned (OpenSpec.upto healthNotesSpec)

/-- 'usherlaw.HealthBacks', WHERE WHAT IT READS IS OF BULK AT MOST 1048576: true; the input reads as it did. -/
def healthBacksUptoRow : OpenClaim := { program := "ytofnhdkcadoiiaa", sum := "585852f57830cf8ace65633000b236d63c361c50abac8ffae83d554ba9b28d29", func := "usher/usherlaw.HealthBacks", spec := "healthBacks", apart := false, narrowed := true }
def HealthBacksUptoSaid : Prop := healthBacksUptoRow.holds Try.pinned (OpenSpec.upto healthBacksSpec)

/-- 'usherlaw.HealthAlloweds', WHERE WHAT IT READS IS OF BULK AT MOST 1048576: true; the input reads as it did. -/
def healthAllowedsUptoRow : OpenClaim := { program := "ytofnhdkcadoiiaa", sum := "585852f57830cf8ace65633000b236d63c361c50abac8ffae83d554ba9b28d29", func := "usher/usherlaw.HealthAlloweds", spec := "healthAlloweds", apart := false, narrowed := true }
def HealthAllowedsUptoSaid : Prop := healthAllowedsUptoRow.holds Try.pinned (OpenSpec.upto healthAllowedsSpec)

/-- 'usherkeep.HealthWindow', WHERE WHAT IT READS IS OF BULK AT MOST 1048576: true; the input reads as it did. -/
def healthWindowUptoRow : OpenClaim := { program := "ytofnhdkcadoiiaa", sum := "585852f57830cf8ace65633000b236d63c361c50abac8ffae83d554ba9b28d29", func := "usher/usherkeep.HealthWindow", spec := "healthWindow", apart := false, narrowed := true }
def HealthWindowUptoSaid : Prop := healthWindowUptoRow.holds Try.pinned (OpenSpec.upto healthWindowSpec)

/-- 'usherkeep.HealthHold', WHERE WHAT IT READS IS OF BULK AT MOST 1048576: true; the input reads as it did. -/
def healthHoldUptoRow : OpenClaim := { program := "ytofnhdkcadoiiaa", sum := "585852f57830cf8ace65633000b236d63c361c50abac8ffae83d554ba9b28d29", func := "usher/usherkeep.HealthHold", spec := "healthHold", apart := false, narrowed := true }
def HealthHoldUptoSaid : Prop := healthHoldUptoRow.holds Try.pinned (OpenSpec.upto healthHoldSpec)

end Rows
end Go.Proofs.Ytofnhdkcadoiiaa
