/-
  No cell of these rows narrows 'for every input' (looked for: loops, veiled, ifaces, maps, wideKeys, modest, calm, conditions, laid).
  DERIVED. THE GIVEN ROWS OF THIS SEAT. 6 by the template 'for every input the law returns true; each argument reads behind the call as it read before'; 0 by the template 'total and deterministic' (their statements: YtleeoncaiiilgaaTotals.lean).
  GIVEN WITH THE SEED: the statements are not yours to turn. If you find one false, say at which input.
  Laid BY PROGRAM, IN A SANDBOX (cutbox-rows.mjs): the forced cells as the released guide's own fill.sh prints them over the translation b0b3ec91739d8c75… (all of the seat's roots in one cut). By AI agents, Wed Nov 11 2026. No macro, syntax, notation, axiom, sorry.
-/
import Derived.Test.YtleeoncaiiilgaaChecked
import GoSem.Claim
import GoSem.ClaimJoined
import GoSem.ClaimMapViews
import Derived.JoinedTies
import Derived.KernelRfl
namespace Go.Proofs.Ytleeoncaiiilgaa
/- THE CELL 'sum', in the pinned program and in every row, IS THE sha256 OF THE DUMP (.gsa) THAT YtleeoncaiiilgaaProg.lean LOADS. Nothing in Lean hashes anything: it is a label: what it is worth is what the hold of that sum in a sandbox is worth. -/
noncomputable def Try.pinned : Pinned := { name := "ytleeoncaiiilgaa", sum := "b0b3ec91739d8c75602d79020158147aa0f6843f390fa31ce4963a00ba4e4387", checked := Try.checked }
namespace Rows
def none {H : Type} : Left H := { results := [], args := [] }

/-- 'usherlaw.BucketChecks': WHATEVER THE INPUT: true; the input reads as it did. -/
def bucketChecksSpec : ChangeSpec := { name := "bucketChecks", fn := fun _ => fun
  | [d] => { results := [.lit (.bool true)], args := [d] }
  | _ => none }
def bucketChecksRow : OpenClaim := { program := "ytleeoncaiiilgaa", sum := "b0b3ec91739d8c75602d79020158147aa0f6843f390fa31ce4963a00ba4e4387", func := "usher/usherlaw.BucketChecks", spec := "bucketChecks", apart := false }
def BucketChecksSaid : Prop := bucketChecksRow.holds Try.pinned (OpenSpec.ofChange bucketChecksSpec)

/-- ITS FALSE NEIGHBOUR: 'it returns false'. Refute it at one input. -/
def bucketChecksWrong : ChangeSpec := { name := "bucketChecks", fn := fun _ => fun
  | [d] => { results := [.lit (.bool false)], args := [d] }
  | _ => none }
def BucketChecksWrongFalsely : Prop := bucketChecksRow.holds Try.pinned (OpenSpec.ofChange bucketChecksWrong)

/-- 'usherlaw.BucketFills': WHATEVER THE INPUT: true; the input reads as it did. -/
def bucketFillsSpec : ChangeSpec := { name := "bucketFills", fn := fun _ => fun
  | [d] => { results := [.lit (.bool true)], args := [d] }
  | _ => none }
def bucketFillsRow : OpenClaim := { program := "ytleeoncaiiilgaa", sum := "b0b3ec91739d8c75602d79020158147aa0f6843f390fa31ce4963a00ba4e4387", func := "usher/usherlaw.BucketFills", spec := "bucketFills", apart := false }
def BucketFillsSaid : Prop := bucketFillsRow.holds Try.pinned (OpenSpec.ofChange bucketFillsSpec)

/-- ITS FALSE NEIGHBOUR: 'it returns false'. Refute it at one input. -/
def bucketFillsWrong : ChangeSpec := { name := "bucketFills", fn := fun _ => fun
  | [d] => { results := [.lit (.bool false)], args := [d] }
  | _ => none }
def BucketFillsWrongFalsely : Prop := bucketFillsRow.holds Try.pinned (OpenSpec.ofChange bucketFillsWrong)

/-- 'usherlaw.BucketEarns': WHATEVER THE INPUT: true; the input reads as it did. -/
def bucketEarnsSpec : ChangeSpec := { name := "bucketEarns", fn := fun _ => fun
  | [d1, d2] => { results := [.lit (.bool true)], args := [d1, d2] }
  | _ => none }
def bucketEarnsRow : OpenClaim := { program := "ytleeoncaiiilgaa", sum := "b0b3ec91739d8c75602d79020158147aa0f6843f390fa31ce4963a00ba4e4387", func := "usher/usherlaw.BucketEarns", spec := "bucketEarns", apart := false }
def BucketEarnsSaid : Prop := bucketEarnsRow.holds Try.pinned (OpenSpec.ofChange bucketEarnsSpec)

/-- ITS FALSE NEIGHBOUR: 'it returns false'. Refute it at one input. -/
def bucketEarnsWrong : ChangeSpec := { name := "bucketEarns", fn := fun _ => fun
  | [d1, d2] => { results := [.lit (.bool false)], args := [d1, d2] }
  | _ => none }
def BucketEarnsWrongFalsely : Prop := bucketEarnsRow.holds Try.pinned (OpenSpec.ofChange bucketEarnsWrong)

/-- 'usherlaw.BucketSpends': WHATEVER THE INPUT: true; the input reads as it did. -/
def bucketSpendsSpec : ChangeSpec := { name := "bucketSpends", fn := fun _ => fun
  | [d1, d2] => { results := [.lit (.bool true)], args := [d1, d2] }
  | _ => none }
def bucketSpendsRow : OpenClaim := { program := "ytleeoncaiiilgaa", sum := "b0b3ec91739d8c75602d79020158147aa0f6843f390fa31ce4963a00ba4e4387", func := "usher/usherlaw.BucketSpends", spec := "bucketSpends", apart := false }
def BucketSpendsSaid : Prop := bucketSpendsRow.holds Try.pinned (OpenSpec.ofChange bucketSpendsSpec)

/-- ITS FALSE NEIGHBOUR: 'it returns false'. Refute it at one input. -/
def bucketSpendsWrong : ChangeSpec := { name := "bucketSpends", fn := fun _ => fun
  | [d1, d2] => { results := [.lit (.bool false)], args := [d1, d2] }
  | _ => none }
def BucketSpendsWrongFalsely : Prop := bucketSpendsRow.holds Try.pinned (OpenSpec.ofChange bucketSpendsWrong)

/-- 'usherkeep.BucketBound': WHATEVER THE INPUT: true; the input reads as it did. -/
def bucketBoundSpec : ChangeSpec := { name := "bucketBound", fn := fun _ => fun
  | [d1, d2, d3, d4] => { results := [.lit (.bool true)], args := [d1, d2, d3, d4] }
  | _ => none }
def bucketBoundRow : OpenClaim := { program := "ytleeoncaiiilgaa", sum := "b0b3ec91739d8c75602d79020158147aa0f6843f390fa31ce4963a00ba4e4387", func := "usher/usherkeep.BucketBound", spec := "bucketBound", apart := false }
def BucketBoundSaid : Prop := bucketBoundRow.holds Try.pinned (OpenSpec.ofChange bucketBoundSpec)

/-- ITS FALSE NEIGHBOUR: 'it returns false'. Refute it at one input. -/
def bucketBoundWrong : ChangeSpec := { name := "bucketBound", fn := fun _ => fun
  | [d1, d2, d3, d4] => { results := [.lit (.bool false)], args := [d1, d2, d3, d4] }
  | _ => none }
def BucketBoundWrongFalsely : Prop := bucketBoundRow.holds Try.pinned (OpenSpec.ofChange bucketBoundWrong)

/-- 'usherkeep.BucketBurst': WHATEVER THE INPUT: true; the input reads as it did. -/
def bucketBurstSpec : ChangeSpec := { name := "bucketBurst", fn := fun _ => fun
  | [d1, d2, d3] => { results := [.lit (.bool true)], args := [d1, d2, d3] }
  | _ => none }
def bucketBurstRow : OpenClaim := { program := "ytleeoncaiiilgaa", sum := "b0b3ec91739d8c75602d79020158147aa0f6843f390fa31ce4963a00ba4e4387", func := "usher/usherkeep.BucketBurst", spec := "bucketBurst", apart := false }
def BucketBurstSaid : Prop := bucketBurstRow.holds Try.pinned (OpenSpec.ofChange bucketBurstSpec)

/-- ITS FALSE NEIGHBOUR: 'it returns false'. Refute it at one input. -/
def bucketBurstWrong : ChangeSpec := { name := "bucketBurst", fn := fun _ => fun
  | [d1, d2, d3] => { results := [.lit (.bool false)], args := [d1, d2, d3] }
  | _ => none }
def BucketBurstWrongFalsely : Prop := bucketBurstRow.holds Try.pinned (OpenSpec.ofChange bucketBurstWrong)

/- THE SECOND FORM. 'bulk': how many values and letters a reading holds, each counted each time it is reached (what is shared counts as often as it is met; a slice's spare places count too). A statement '..UptoSaid' is the law's where the arguments, and the package variables that the reading takes, are together of bulk at most 1048576: NARROWER than '..Said'. Prove '..Said' where nothing that the law and all that it calls make is longer than what came in: it says more and counts as full. Else prove '..UptoSaid'. A law counts once. -/
mutual
def uptoBulk {H : Type} : DataW H → Nat
  | .lit (.string bytes) => bytes.length + 1
  | .lit _ => 1
  | .nil => 1
  | .ptr d => uptoBulk d + 1
  | .slice elems spare => uptoBulkAll elems + uptoBulkAll spare + 1
  | .agg parts => uptoBulkAll parts + 1
  | .iface _ d => uptoBulk d + 1
  | .map entries => uptoBulkEntries entries + 1
  | .held _ => 1
def uptoBulkAll {H : Type} : List (DataW H) → Nat
  | [] => 0
  | d :: r => uptoBulk d + uptoBulkAll r
def uptoBulkEntries {H : Type} : List (Lit × DataW H) → Nat
  | [] => 0
  | x :: r => uptoBulkEntry x + uptoBulkEntries r
def uptoBulkEntry {H : Type} : Lit × DataW H → Nat
  | (.string bytes, d) => bytes.length + uptoBulk d + 1
  | (_, d) => uptoBulk d + 1
 end
def uptoSmall : (H : Type) → List (DataW H) → Bool := fun _ ds => decide (uptoBulkAll ds ≤ 1048576)
def OpenSpec.upto (s : _root_.Go.ChangeSpec) : _root_.Go.OpenSpec := { _root_.Go.OpenSpec.ofChange s with cond := some uptoSmall }

/-- 'usherlaw.BucketChecks', WHERE WHAT IT READS IS OF BULK AT MOST 1048576: true; the input reads as it did. -/
def bucketChecksUptoRow : OpenClaim := { program := "ytleeoncaiiilgaa", sum := "b0b3ec91739d8c75602d79020158147aa0f6843f390fa31ce4963a00ba4e4387", func := "usher/usherlaw.BucketChecks", spec := "bucketChecks", apart := false, narrowed := true }
def BucketChecksUptoSaid : Prop := bucketChecksUptoRow.holds Try.pinned (OpenSpec.upto bucketChecksSpec)

/-- 'usherlaw.BucketFills', WHERE WHAT IT READS IS OF BULK AT MOST 1048576: true; the input reads as it did. -/
def bucketFillsUptoRow : OpenClaim := { program := "ytleeoncaiiilgaa", sum := "b0b3ec91739d8c75602d79020158147aa0f6843f390fa31ce4963a00ba4e4387", func := "usher/usherlaw.BucketFills", spec := "bucketFills", apart := false, narrowed := true }
def BucketFillsUptoSaid : Prop := bucketFillsUptoRow.holds Try.pinned (OpenSpec.upto bucketFillsSpec)

/-- 'usherlaw.BucketEarns', WHERE WHAT IT READS IS OF BULK AT MOST 1048576: true; the input reads as it did. -/
def bucketEarnsUptoRow : OpenClaim := { program := "ytleeoncaiiilgaa", sum := "b0b3ec91739d8c75602d79020158147aa0f6843f390fa31ce4963a00ba4e4387", func := "usher/usherlaw.BucketEarns", spec := "bucketEarns", apart := false, narrowed := true }
def BucketEarnsUptoSaid : Prop := bucketEarnsUptoRow.holds Try.pinned (OpenSpec.upto bucketEarnsSpec)

/-- 'usherlaw.BucketSpends', WHERE WHAT IT READS IS OF BULK AT MOST 1048576: true; the input reads as it did. -/
def bucketSpendsUptoRow : OpenClaim := { program := "ytleeoncaiiilgaa", sum := "b0b3ec91739d8c75602d79020158147aa0f6843f390fa31ce4963a00ba4e4387", func := "usher/usherlaw.BucketSpends", spec := "bucketSpends", apart := false, narrowed := true }
def BucketSpendsUptoSaid : Prop := bucketSpendsUptoRow.holds Try.pinned (OpenSpec.upto bucketSpendsSpec)

/-- 'usherkeep.BucketBound', WHERE WHAT IT READS IS OF BULK AT MOST 1048576: true; the input reads as it did. -/
def bucketBoundUptoRow : OpenClaim := { program := "ytleeoncaiiilgaa", sum := "b0b3ec91739d8c75602d79020158147aa0f6843f390fa31ce4963a00ba4e4387", func := "usher/usherkeep.BucketBound", spec := "bucketBound", apart := false, narrowed := true }
def BucketBoundUptoSaid : Prop := bucketBoundUptoRow.holds Try.pinned (OpenSpec.upto bucketBoundSpec)

/-- 'usherkeep.BucketBurst', WHERE WHAT IT READS IS OF BULK AT MOST 1048576: true; the input reads as it did. -/
def bucketBurstUptoRow : OpenClaim := { program := "ytleeoncaiiilgaa", sum := "b0b3ec91739d8c75602d79020158147aa0f6843f390fa31ce4963a00ba4e4387", func := "usher/usherkeep.BucketBurst", spec := "bucketBurst", apart := false, narrowed := true }
def BucketBurstUptoSaid : Prop := bucketBurstUptoRow.holds Try.pinned (OpenSpec.upto bucketBurstSpec)

end Rows
end Go.Proofs.Ytleeoncaiiilgaa
