/-
  No cell of these rows narrows 'for every input' (looked for: loops, veiled, ifaces, maps, wideKeys, modest, calm, conditions, laid).
  DERIVED. THE GIVEN ROWS OF THIS SEAT. 5 by the template 'for every input the law returns true; each argument reads behind the call as it read before'; 0 by the template 'total and deterministic' (their statements: YtlpedligkofegabTotals.lean).
  GIVEN WITH THE SEED: the statements are not yours to turn. If you find one false, say at which input.
  Laid BY PROGRAM, IN A SANDBOX (cutbox-rows.mjs): the forced cells as the released guide's own fill.sh prints them over the translation 7fd4dee2cae7ee5b… (all of the seat's roots in one cut). By AI agents, Wed Nov 11 2026. No macro, syntax, notation, axiom, sorry.
-/
import Derived.Test.YtlpedligkofegabChecked
import GoSem.Claim
import GoSem.ClaimJoined
import GoSem.ClaimMapViews
import Derived.JoinedTies
import Derived.KernelRfl
namespace Go.Proofs.Ytlpedligkofegab
/- THE CELL 'sum', in the pinned program and in every row, IS THE sha256 OF THE DUMP (.gsa) THAT YtlpedligkofegabProg.lean LOADS. Nothing in Lean hashes anything: it is a label: what it is worth is what the hold of that sum in a sandbox is worth. -/
noncomputable def Try.pinned : Pinned := { name := "ytlpedligkofegab", sum := "7fd4dee2cae7ee5b9832e35d4f49f46888c1af65def404225fd5c20af83a59a2", checked := Try.checked }
namespace Rows
def none {H : Type} : Left H := { results := [], args := [] }

/-- 'usherkeep.LifeCycle': WHATEVER THE INPUT: true; the input reads as it did. -/
def lifeCycleSpec : ChangeSpec := { name := "lifeCycle", fn := fun _ => fun
  | [d1, d2, d3, d4] => { results := [.lit (.bool true)], args := [d1, d2, d3, d4] }
  | _ => none }
def lifeCycleRow : OpenClaim := { program := "ytlpedligkofegab", sum := "7fd4dee2cae7ee5b9832e35d4f49f46888c1af65def404225fd5c20af83a59a2", func := "usher/usherkeep.LifeCycle", spec := "lifeCycle", inPlace := ["slices.overlaps[usher/api.Life]"], unfollowed := true, recurses := true, apart := false }
def LifeCycleSaid : Prop := lifeCycleRow.holds Try.pinned (OpenSpec.ofChange lifeCycleSpec)

/-- ITS FALSE NEIGHBOUR: 'it returns false'. Refute it at one input. -/
def lifeCycleWrong : ChangeSpec := { name := "lifeCycle", fn := fun _ => fun
  | [d1, d2, d3, d4] => { results := [.lit (.bool false)], args := [d1, d2, d3, d4] }
  | _ => none }
def LifeCycleWrongFalsely : Prop := lifeCycleRow.holds Try.pinned (OpenSpec.ofChange lifeCycleWrong)

/-- 'usherkeep.LifeOthers': WHATEVER THE INPUT: true; the input reads as it did. -/
def lifeOthersSpec : ChangeSpec := { name := "lifeOthers", fn := fun _ => fun
  | [d1, d2, d3] => { results := [.lit (.bool true)], args := [d1, d2, d3] }
  | _ => none }
def lifeOthersRow : OpenClaim := { program := "ytlpedligkofegab", sum := "7fd4dee2cae7ee5b9832e35d4f49f46888c1af65def404225fd5c20af83a59a2", func := "usher/usherkeep.LifeOthers", spec := "lifeOthers", inPlace := ["slices.overlaps[usher/api.Life]"], unfollowed := true, recurses := true, apart := false }
def LifeOthersSaid : Prop := lifeOthersRow.holds Try.pinned (OpenSpec.ofChange lifeOthersSpec)

/-- ITS FALSE NEIGHBOUR: 'it returns false'. Refute it at one input. -/
def lifeOthersWrong : ChangeSpec := { name := "lifeOthers", fn := fun _ => fun
  | [d1, d2, d3] => { results := [.lit (.bool false)], args := [d1, d2, d3] }
  | _ => none }
def LifeOthersWrongFalsely : Prop := lifeOthersRow.holds Try.pinned (OpenSpec.ofChange lifeOthersWrong)

/-- 'usherkeep.LifeWoken': WHATEVER THE INPUT: true; the input reads as it did. -/
def lifeWokenSpec : ChangeSpec := { name := "lifeWoken", fn := fun _ => fun
  | [d1, d2] => { results := [.lit (.bool true)], args := [d1, d2] }
  | _ => none }
def lifeWokenRow : OpenClaim := { program := "ytlpedligkofegab", sum := "7fd4dee2cae7ee5b9832e35d4f49f46888c1af65def404225fd5c20af83a59a2", func := "usher/usherkeep.LifeWoken", spec := "lifeWoken", inPlace := ["slices.overlaps[usher/api.Life]"], unfollowed := true, recurses := true, apart := false }
def LifeWokenSaid : Prop := lifeWokenRow.holds Try.pinned (OpenSpec.ofChange lifeWokenSpec)

/-- ITS FALSE NEIGHBOUR: 'it returns false'. Refute it at one input. -/
def lifeWokenWrong : ChangeSpec := { name := "lifeWoken", fn := fun _ => fun
  | [d1, d2] => { results := [.lit (.bool false)], args := [d1, d2] }
  | _ => none }
def LifeWokenWrongFalsely : Prop := lifeWokenRow.holds Try.pinned (OpenSpec.ofChange lifeWokenWrong)

/-- 'usherkeep.LifeFull': WHATEVER THE INPUT: true; the input reads as it did. -/
def lifeFullSpec : ChangeSpec := { name := "lifeFull", fn := fun _ => fun
  | [d1, d2, d3] => { results := [.lit (.bool true)], args := [d1, d2, d3] }
  | _ => none }
def lifeFullRow : OpenClaim := { program := "ytlpedligkofegab", sum := "7fd4dee2cae7ee5b9832e35d4f49f46888c1af65def404225fd5c20af83a59a2", func := "usher/usherkeep.LifeFull", spec := "lifeFull", inPlace := ["slices.overlaps[usher/api.Life]"], unfollowed := true, recurses := true, apart := false }
def LifeFullSaid : Prop := lifeFullRow.holds Try.pinned (OpenSpec.ofChange lifeFullSpec)

/-- ITS FALSE NEIGHBOUR: 'it returns false'. Refute it at one input. -/
def lifeFullWrong : ChangeSpec := { name := "lifeFull", fn := fun _ => fun
  | [d1, d2, d3] => { results := [.lit (.bool false)], args := [d1, d2, d3] }
  | _ => none }
def LifeFullWrongFalsely : Prop := lifeFullRow.holds Try.pinned (OpenSpec.ofChange lifeFullWrong)

/-- 'usherkeep.LifeOrder': WHATEVER THE INPUT: true; the input reads as it did. -/
def lifeOrderSpec : ChangeSpec := { name := "lifeOrder", fn := fun _ => fun
  | [d] => { results := [.lit (.bool true)], args := [d] }
  | _ => none }
def lifeOrderRow : OpenClaim := { program := "ytlpedligkofegab", sum := "7fd4dee2cae7ee5b9832e35d4f49f46888c1af65def404225fd5c20af83a59a2", func := "usher/usherkeep.LifeOrder", spec := "lifeOrder", inPlace := ["slices.overlaps[usher/api.Life]"], unfollowed := true, recurses := true, apart := false }
def LifeOrderSaid : Prop := lifeOrderRow.holds Try.pinned (OpenSpec.ofChange lifeOrderSpec)

/-- ITS FALSE NEIGHBOUR: 'it returns false'. Refute it at one input. -/
def lifeOrderWrong : ChangeSpec := { name := "lifeOrder", fn := fun _ => fun
  | [d] => { results := [.lit (.bool false)], args := [d] }
  | _ => none }
def LifeOrderWrongFalsely : Prop := lifeOrderRow.holds Try.pinned (OpenSpec.ofChange lifeOrderWrong)

/- THE SECOND FORM. 'bulk': how many values and letters a reading holds, each counted each time it is reached (what is shared counts as often as it is met; a slice's spare places count too). A statement '..UptoSaid' is the law's where the arguments, and the package variables that the reading takes, are together of bulk at most 1048576: NARROWER than '..Said'. Prove '..Said' where nothing that the law and all that it calls make is longer than what came in: it says more and counts as full. Else prove '..UptoSaid'. A law counts once. -/
mutual
def uptoBulk {H : Type} : DataW H → Nat
  | .lit (.string bytes) => bytes.length + 1
  | .lit _ => 1
  | .nil => 1
  | .ptr d => uptoBulk d + 1
  | .slice elems spare => uptoBulkAll elems + uptoBulkAll spare + 1
  | .agg parts => uptoBulkAll parts + 1
  | .iface _ d => uptoBulk d + 1
  | .map entries => uptoBulkEntries entries + 1
  | .held _ => 1
def uptoBulkAll {H : Type} : List (DataW H) → Nat
  | [] => 0
  | d :: r => uptoBulk d + uptoBulkAll r
def uptoBulkEntries {H : Type} : List (Lit × DataW H) → Nat
  | [] => 0
  | x :: r => uptoBulkEntry x + uptoBulkEntries r
def uptoBulkEntry {H : Type} : Lit × DataW H → Nat
  | (.string bytes, d) => bytes.length + uptoBulk d + 1
  | (_, d) => uptoBulk d + 1
 end
def uptoSmall : (H : Type) → List (DataW H) → Bool := fun _ ds => decide (uptoBulkAll ds ≤ 1048576)
def OpenSpec.upto (s : _root_.Go.ChangeSpec) : _root_.Go.OpenSpec := { _root_.Go.OpenSpec.ofChange s with cond := some uptoSmall }

/-- 'usherkeep.LifeCycle', WHERE WHAT IT READS IS OF BULK AT MOST 1048576: true; the input reads as it did. -/
def lifeCycleUptoRow : OpenClaim := { program := "ytlpedligkofegab", sum := "7fd4dee2cae7ee5b9832e35d4f49f46888c1af65def404225fd5c20af83a59a2", func := "usher/usherkeep.LifeCycle", spec := "lifeCycle", inPlace := ["slices.overlaps[usher/api.Life]"], unfollowed := true, recurses := true, apart := false, narrowed := true }
def LifeCycleUptoSaid : Prop := lifeCycleUptoRow.holds Try.pinned (OpenSpec.upto lifeCycleSpec)

/-- 'usherkeep.LifeOthers', WHERE WHAT IT READS IS OF BULK AT MOST 1048576: true; the input reads as it did. -/
def lifeOthersUptoRow : OpenClaim := { program := "ytlpedligkofegab", sum := "7fd4dee2cae7ee5b9832e35d4f49f46888c1af65def404225fd5c20af83a59a2", func := "usher/usherkeep.LifeOthers", spec := "lifeOthers", inPlace := ["slices.overlaps[usher/api.Life]"], unfollowed := true, recurses := true, apart := false, narrowed := true }
def LifeOthersUptoSaid : Prop := lifeOthersUptoRow.holds Try.pinned (OpenSpec.upto lifeOthersSpec)

/-- 'usherkeep.LifeWoken', WHERE WHAT IT READS IS OF BULK AT MOST 1048576: true; the input reads as it did. -/
def lifeWokenUptoRow : OpenClaim := { program := "ytlpedligkofegab", sum := "7fd4dee2cae7ee5b9832e35d4f49f46888c1af65def404225fd5c20af83a59a2", func := "usher/usherkeep.LifeWoken", spec := "lifeWoken", inPlace := ["slices.overlaps[usher/api.Life]"], unfollowed := true, recurses := true, apart := false, narrowed := true }
def LifeWokenUptoSaid : Prop := lifeWokenUptoRow.holds Try.pinned (OpenSpec.upto lifeWokenSpec)

/-- 'usherkeep.LifeFull', WHERE WHAT IT READS IS OF BULK AT MOST 1048576: true; the input reads as it did. -/
def lifeFullUptoRow : OpenClaim := { program := "ytlpedligkofegab", sum := "7fd4dee2cae7ee5b9832e35d4f49f46888c1af65def404225fd5c20af83a59a2", func := "usher/usherkeep.LifeFull", spec := "lifeFull", inPlace := ["slices.overlaps[usher/api.Life]"], unfollowed := true, recurses := true, apart := false, narrowed := true }
def LifeFullUptoSaid : Prop := lifeFullUptoRow.holds Try.pinned (OpenSpec.upto lifeFullSpec)

/-- 'usherkeep.LifeOrder', WHERE WHAT IT READS IS OF BULK AT MOST 1048576: true; the input reads as it did. -/
def lifeOrderUptoRow : OpenClaim := { program := "ytlpedligkofegab", sum := "7fd4dee2cae7ee5b9832e35d4f49f46888c1af65def404225fd5c20af83a59a2", func := "usher/usherkeep.LifeOrder", spec := "lifeOrder", inPlace := ["slices.overlaps[usher/api.Life]"], unfollowed := true, recurses := true, apart := false, narrowed := true }
def LifeOrderUptoSaid : Prop := lifeOrderUptoRow.holds Try.pinned (OpenSpec.upto lifeOrderSpec)

end Rows
end Go.Proofs.Ytlpedligkofegab
