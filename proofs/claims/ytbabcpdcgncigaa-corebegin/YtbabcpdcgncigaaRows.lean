/-
  No cell of these rows narrows 'for every input' (looked for: loops, veiled, ifaces, maps, wideKeys, modest, calm, conditions, laid).
  DERIVED. THE GIVEN ROWS OF THIS SEAT. 3 by the template 'for every input the law returns true; each argument reads behind the call as it read before'; 0 by the template 'total and deterministic' (their statements: YtbabcpdcgncigaaTotals.lean).
  GIVEN WITH THE SEED: the statements are not yours to turn. If you find one false, say at which input.
  Laid BY PROGRAM, IN A SANDBOX (cutbox-rows.mjs): the forced cells as the released guide's own fill.sh prints them over the translation 7cfd7e38dd5984e6… (all of the seat's roots in one cut). By AI agents, Wed Nov 11 2026. No macro, syntax, notation, axiom, sorry.
-/
import Derived.Test.YtbabcpdcgncigaaChecked
import GoSem.Claim
import GoSem.ClaimJoined
import GoSem.ClaimMapViews
import Derived.JoinedTies
import Derived.KernelRfl
namespace Go.Proofs.Ytbabcpdcgncigaa
/- THE CELL 'sum', in the pinned program and in every row, IS THE sha256 OF THE DUMP (.gsa) THAT YtbabcpdcgncigaaProg.lean LOADS. Nothing in Lean hashes anything: it is a label: what it is worth is what the hold of that sum in a sandbox is worth. -/
noncomputable def Try.pinned : Pinned := { name := "ytbabcpdcgncigaa", sum := "7cfd7e38dd5984e6967f0c61c5e2d384503c06d097d3eebff39e4c398371a564", checked := Try.checked }
namespace Rows
def none {H : Type} : Left H := { results := [], args := [] }

/-- 'usherlaw.CoreChecks': WHATEVER THE INPUT: true; the input reads as it did. -/
def coreChecksSpec : ChangeSpec := { name := "coreChecks", fn := fun _ => fun
  | [d] => { results := [.lit (.bool true)], args := [d] }
  | _ => none }
def coreChecksRow : OpenClaim := { program := "ytbabcpdcgncigaa", sum := "7cfd7e38dd5984e6967f0c61c5e2d384503c06d097d3eebff39e4c398371a564", func := "usher/usherlaw.CoreChecks", spec := "coreChecks", apart := false }
def CoreChecksSaid : Prop := coreChecksRow.holds Try.pinned (OpenSpec.ofChange coreChecksSpec)

/-- ITS FALSE NEIGHBOUR: 'it returns false'. Refute it at one input. -/
def coreChecksWrong : ChangeSpec := { name := "coreChecks", fn := fun _ => fun
  | [d] => { results := [.lit (.bool false)], args := [d] }
  | _ => none }
def CoreChecksWrongFalsely : Prop := coreChecksRow.holds Try.pinned (OpenSpec.ofChange coreChecksWrong)

/-- 'usherlaw.CoreBegins': WHATEVER THE INPUT: true; the input reads as it did. -/
def coreBeginsSpec : ChangeSpec := { name := "coreBegins", fn := fun _ => fun
  | [d] => { results := [.lit (.bool true)], args := [d] }
  | _ => none }
def coreBeginsRow : OpenClaim := { program := "ytbabcpdcgncigaa", sum := "7cfd7e38dd5984e6967f0c61c5e2d384503c06d097d3eebff39e4c398371a564", func := "usher/usherlaw.CoreBegins", spec := "coreBegins", apart := false }
def CoreBeginsSaid : Prop := coreBeginsRow.holds Try.pinned (OpenSpec.ofChange coreBeginsSpec)

/-- ITS FALSE NEIGHBOUR: 'it returns false'. Refute it at one input. -/
def coreBeginsWrong : ChangeSpec := { name := "coreBegins", fn := fun _ => fun
  | [d] => { results := [.lit (.bool false)], args := [d] }
  | _ => none }
def CoreBeginsWrongFalsely : Prop := coreBeginsRow.holds Try.pinned (OpenSpec.ofChange coreBeginsWrong)

/-- 'usherkeep.CoreBegin': WHATEVER THE INPUT: true; the input reads as it did. -/
def coreBeginSpec : ChangeSpec := { name := "coreBegin", fn := fun _ => fun
  | [d] => { results := [.lit (.bool true)], args := [d] }
  | _ => none }
def coreBeginRow : OpenClaim := { program := "ytbabcpdcgncigaa", sum := "7cfd7e38dd5984e6967f0c61c5e2d384503c06d097d3eebff39e4c398371a564", func := "usher/usherkeep.CoreBegin", spec := "coreBegin", apart := false }
def CoreBeginSaid : Prop := coreBeginRow.holds Try.pinned (OpenSpec.ofChange coreBeginSpec)

/-- ITS FALSE NEIGHBOUR: 'it returns false'. Refute it at one input. -/
def coreBeginWrong : ChangeSpec := { name := "coreBegin", fn := fun _ => fun
  | [d] => { results := [.lit (.bool false)], args := [d] }
  | _ => none }
def CoreBeginWrongFalsely : Prop := coreBeginRow.holds Try.pinned (OpenSpec.ofChange coreBeginWrong)

/- THE SECOND FORM. 'bulk': how many values and letters a reading holds, each counted each time it is reached (what is shared counts as often as it is met; a slice's spare places count too). A statement '..UptoSaid' is the law's where the arguments, and the package variables that the reading takes, are together of bulk at most 1048576: NARROWER than '..Said'. Prove '..Said' where nothing that the law and all that it calls make is longer than what came in: it says more and counts as full. Else prove '..UptoSaid'. A law counts once. -/
mutual
def uptoBulk {H : Type} : DataW H → Nat
  | .lit (.string bytes) => bytes.length + 1
  | .lit _ => 1
  | .nil => 1
  | .ptr d => uptoBulk d + 1
  | .slice elems spare => uptoBulkAll elems + uptoBulkAll spare + 1
  | .agg parts => uptoBulkAll parts + 1
  | .iface _ d => uptoBulk d + 1
  | .map entries => uptoBulkEntries entries + 1
  | .held _ => 1
def uptoBulkAll {H : Type} : List (DataW H) → Nat
  | [] => 0
  | d :: r => uptoBulk d + uptoBulkAll r
def uptoBulkEntries {H : Type} : List (Lit × DataW H) → Nat
  | [] => 0
  | x :: r => uptoBulkEntry x + uptoBulkEntries r
def uptoBulkEntry {H : Type} : Lit × DataW H → Nat
  | (.string bytes, d) => bytes.length + uptoBulk d + 1
  | (_, d) => uptoBulk d + 1
 end
def uptoSmall : (H : Type) → List (DataW H) → Bool := fun _ ds => decide (uptoBulkAll ds ≤ 1048576)
def OpenSpec.upto (s : _root_.Go.ChangeSpec) : _root_.Go.OpenSpec := { _root_.Go.OpenSpec.ofChange s with cond := some uptoSmall }

/-- 'usherlaw.CoreChecks', WHERE WHAT IT READS IS OF BULK AT MOST 1048576: true; the input reads as it did. -/
def coreChecksUptoRow : OpenClaim := { program := "ytbabcpdcgncigaa", sum := "7cfd7e38dd5984e6967f0c61c5e2d384503c06d097d3eebff39e4c398371a564", func := "usher/usherlaw.CoreChecks", spec := "coreChecks", apart := false, narrowed := true }
def CoreChecksUptoSaid : Prop := coreChecksUptoRow.holds Try.pinned (OpenSpec.upto coreChecksSpec)

/-- 'usherlaw.CoreBegins', WHERE WHAT IT READS IS OF BULK AT MOST 1048576: true; the input reads as it did. -/
def coreBeginsUptoRow : OpenClaim := { program := "ytbabcpdcgncigaa", sum := "7cfd7e38dd5984e6967f0c61c5e2d384503c06d097d3eebff39e4c398371a564", func := "usher/usherlaw.CoreBegins", spec := "coreBegins", apart := false, narrowed := true }
def CoreBeginsUptoSaid : Prop := coreBeginsUptoRow.holds Try.pinned (OpenSpec.upto coreBeginsSpec)

/-- 'usherkeep.CoreBegin', WHERE WHAT IT READS IS OF BULK AT MOST 1048576: true; the input reads as it did. -/
def coreBeginUptoRow : OpenClaim := { program := "ytbabcpdcgncigaa", sum := "7cfd7e38dd5984e6967f0c61c5e2d384503c06d097d3eebff39e4c398371a564", func := "usher/usherkeep.CoreBegin", spec := "coreBegin", apart := false, narrowed := true }
def CoreBeginUptoSaid : Prop := coreBeginUptoRow.holds Try.pinned (OpenSpec.upto coreBeginSpec)

end Rows
end Go.Proofs.Ytbabcpdcgncigaa
