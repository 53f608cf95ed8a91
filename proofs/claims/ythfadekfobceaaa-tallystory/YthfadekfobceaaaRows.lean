/-
  No cell of these rows narrows 'for every input' (looked for: loops, veiled, ifaces, maps, wideKeys, modest, calm, conditions, laid).
  DERIVED. THE GIVEN ROWS OF THIS SEAT. 8 by the template 'for every input the law returns true; each argument reads behind the call as it read before'; 0 by the template 'total and deterministic' (their statements: YthfadekfobceaaaTotals.lean).
  GIVEN WITH THE SEED: the statements are not yours to turn. If you find one false, say at which input.
  Laid BY PROGRAM, IN A SANDBOX (cutbox-rows.mjs): the forced cells as the released guide's own fill.sh prints them over the translation a1dff7e3873af52a… (all of the seat's roots in one cut). By AI agents, Wed Nov 11 2026. No macro, syntax, notation, axiom, sorry.
-/
import Derived.Test.YthfadekfobceaaaChecked
import GoSem.Claim
import GoSem.ClaimJoined
import GoSem.ClaimMapViews
import Derived.JoinedTies
import Derived.KernelRfl
namespace Go.Proofs.Ythfadekfobceaaa
/- THE CELL 'sum', in the pinned program and in every row, IS THE sha256 OF THE DUMP (.gsa) THAT YthfadekfobceaaaProg.lean LOADS. Nothing in Lean hashes anything: it is a label: what it is worth is what the hold of that sum in a sandbox is worth. -/
noncomputable def Try.pinned : Pinned := { name := "ythfadekfobceaaa", sum := "a1dff7e3873af52a59fc05a1e26bcad757f71b1f1087f07969e1b44c7a73e9ad", checked := Try.checked }
namespace Rows
def none {H : Type} : Left H := { results := [], args := [] }

/-- 'usherlaw.TallyOfs': WHATEVER THE INPUT: true; the input reads as it did. -/
def tallyOfsSpec : ChangeSpec := { name := "tallyOfs", fn := fun _ => fun
  | [d] => { results := [.lit (.bool true)], args := [d] }
  | _ => none }
def tallyOfsRow : OpenClaim := { program := "ythfadekfobceaaa", sum := "a1dff7e3873af52a59fc05a1e26bcad757f71b1f1087f07969e1b44c7a73e9ad", func := "usher/usherlaw.TallyOfs", spec := "tallyOfs", unfollowed := true, recurses := true, plainKeys := false, apart := false }
def TallyOfsSaid : Prop := tallyOfsRow.holds Try.pinned (OpenSpec.ofChange tallyOfsSpec)

/-- ITS FALSE NEIGHBOUR: 'it returns false'. Refute it at one input. -/
def tallyOfsWrong : ChangeSpec := { name := "tallyOfs", fn := fun _ => fun
  | [d] => { results := [.lit (.bool false)], args := [d] }
  | _ => none }
def TallyOfsWrongFalsely : Prop := tallyOfsRow.holds Try.pinned (OpenSpec.ofChange tallyOfsWrong)

/-- 'usherlaw.TallyLives': WHATEVER THE INPUT: true; the input reads as it did. -/
def tallyLivesSpec : ChangeSpec := { name := "tallyLives", fn := fun _ => fun
  | [d] => { results := [.lit (.bool true)], args := [d] }
  | _ => none }
def tallyLivesRow : OpenClaim := { program := "ythfadekfobceaaa", sum := "a1dff7e3873af52a59fc05a1e26bcad757f71b1f1087f07969e1b44c7a73e9ad", func := "usher/usherlaw.TallyLives", spec := "tallyLives", unfollowed := true, recurses := true, plainKeys := false, apart := false }
def TallyLivesSaid : Prop := tallyLivesRow.holds Try.pinned (OpenSpec.ofChange tallyLivesSpec)

/-- ITS FALSE NEIGHBOUR: 'it returns false'. Refute it at one input. -/
def tallyLivesWrong : ChangeSpec := { name := "tallyLives", fn := fun _ => fun
  | [d] => { results := [.lit (.bool false)], args := [d] }
  | _ => none }
def TallyLivesWrongFalsely : Prop := tallyLivesRow.holds Try.pinned (OpenSpec.ofChange tallyLivesWrong)

/-- 'usherlaw.TallyStories': WHATEVER THE INPUT: true; the input reads as it did. -/
def tallyStoriesSpec : ChangeSpec := { name := "tallyStories", fn := fun _ => fun
  | [d1, d2] => { results := [.lit (.bool true)], args := [d1, d2] }
  | _ => none }
def tallyStoriesRow : OpenClaim := { program := "ythfadekfobceaaa", sum := "a1dff7e3873af52a59fc05a1e26bcad757f71b1f1087f07969e1b44c7a73e9ad", func := "usher/usherlaw.TallyStories", spec := "tallyStories", unfollowed := true, recurses := true, plainKeys := false, apart := false }
def TallyStoriesSaid : Prop := tallyStoriesRow.holds Try.pinned (OpenSpec.ofChange tallyStoriesSpec)

/-- ITS FALSE NEIGHBOUR: 'it returns false'. Refute it at one input. -/
def tallyStoriesWrong : ChangeSpec := { name := "tallyStories", fn := fun _ => fun
  | [d1, d2] => { results := [.lit (.bool false)], args := [d1, d2] }
  | _ => none }
def TallyStoriesWrongFalsely : Prop := tallyStoriesRow.holds Try.pinned (OpenSpec.ofChange tallyStoriesWrong)

/-- 'usherlaw.TallyBys': WHATEVER THE INPUT: true; the input reads as it did. -/
def tallyBysSpec : ChangeSpec := { name := "tallyBys", fn := fun _ => fun
  | [d] => { results := [.lit (.bool true)], args := [d] }
  | _ => none }
def tallyBysRow : OpenClaim := { program := "ythfadekfobceaaa", sum := "a1dff7e3873af52a59fc05a1e26bcad757f71b1f1087f07969e1b44c7a73e9ad", func := "usher/usherlaw.TallyBys", spec := "tallyBys", unfollowed := true, recurses := true, plainKeys := false, apart := false }
def TallyBysSaid : Prop := tallyBysRow.holds Try.pinned (OpenSpec.ofChange tallyBysSpec)

/-- ITS FALSE NEIGHBOUR: 'it returns false'. Refute it at one input. -/
def tallyBysWrong : ChangeSpec := { name := "tallyBys", fn := fun _ => fun
  | [d] => { results := [.lit (.bool false)], args := [d] }
  | _ => none }
def TallyBysWrongFalsely : Prop := tallyBysRow.holds Try.pinned (OpenSpec.ofChange tallyBysWrong)

/-- 'usherkeep.TallyAdds': WHATEVER THE INPUT: true; the input reads as it did. -/
def tallyAddsSpec : ChangeSpec := { name := "tallyAdds", fn := fun _ => fun
  | [d1, d2] => { results := [.lit (.bool true)], args := [d1, d2] }
  | _ => none }
def tallyAddsRow : OpenClaim := { program := "ythfadekfobceaaa", sum := "a1dff7e3873af52a59fc05a1e26bcad757f71b1f1087f07969e1b44c7a73e9ad", func := "usher/usherkeep.TallyAdds", spec := "tallyAdds", unfollowed := true, recurses := true, plainKeys := false, apart := false }
def TallyAddsSaid : Prop := tallyAddsRow.holds Try.pinned (OpenSpec.ofChange tallyAddsSpec)

/-- ITS FALSE NEIGHBOUR: 'it returns false'. Refute it at one input. -/
def tallyAddsWrong : ChangeSpec := { name := "tallyAdds", fn := fun _ => fun
  | [d1, d2] => { results := [.lit (.bool false)], args := [d1, d2] }
  | _ => none }
def TallyAddsWrongFalsely : Prop := tallyAddsRow.holds Try.pinned (OpenSpec.ofChange tallyAddsWrong)

/-- 'usherkeep.TallyStory': WHATEVER THE INPUT: true; the input reads as it did. -/
def tallyStorySpec : ChangeSpec := { name := "tallyStory", fn := fun _ => fun
  | [d] => { results := [.lit (.bool true)], args := [d] }
  | _ => none }
def tallyStoryRow : OpenClaim := { program := "ythfadekfobceaaa", sum := "a1dff7e3873af52a59fc05a1e26bcad757f71b1f1087f07969e1b44c7a73e9ad", func := "usher/usherkeep.TallyStory", spec := "tallyStory", unfollowed := true, recurses := true, plainKeys := false, apart := false }
def TallyStorySaid : Prop := tallyStoryRow.holds Try.pinned (OpenSpec.ofChange tallyStorySpec)

/-- ITS FALSE NEIGHBOUR: 'it returns false'. Refute it at one input. -/
def tallyStoryWrong : ChangeSpec := { name := "tallyStory", fn := fun _ => fun
  | [d] => { results := [.lit (.bool false)], args := [d] }
  | _ => none }
def TallyStoryWrongFalsely : Prop := tallyStoryRow.holds Try.pinned (OpenSpec.ofChange tallyStoryWrong)

/-- 'usherkeep.TallyBy': WHATEVER THE INPUT: true; the input reads as it did. -/
def tallyBySpec : ChangeSpec := { name := "tallyBy", fn := fun _ => fun
  | [d] => { results := [.lit (.bool true)], args := [d] }
  | _ => none }
def tallyByRow : OpenClaim := { program := "ythfadekfobceaaa", sum := "a1dff7e3873af52a59fc05a1e26bcad757f71b1f1087f07969e1b44c7a73e9ad", func := "usher/usherkeep.TallyBy", spec := "tallyBy", unfollowed := true, recurses := true, plainKeys := false, apart := false }
def TallyBySaid : Prop := tallyByRow.holds Try.pinned (OpenSpec.ofChange tallyBySpec)

/-- ITS FALSE NEIGHBOUR: 'it returns false'. Refute it at one input. -/
def tallyByWrong : ChangeSpec := { name := "tallyBy", fn := fun _ => fun
  | [d] => { results := [.lit (.bool false)], args := [d] }
  | _ => none }
def TallyByWrongFalsely : Prop := tallyByRow.holds Try.pinned (OpenSpec.ofChange tallyByWrong)

/-- 'usherkeep.TallyLive': WHATEVER THE INPUT: true; the input reads as it did. -/
def tallyLiveSpec : ChangeSpec := { name := "tallyLive", fn := fun _ => fun
  | [d1, d2, d3] => { results := [.lit (.bool true)], args := [d1, d2, d3] }
  | _ => none }
def tallyLiveRow : OpenClaim := { program := "ythfadekfobceaaa", sum := "a1dff7e3873af52a59fc05a1e26bcad757f71b1f1087f07969e1b44c7a73e9ad", func := "usher/usherkeep.TallyLive", spec := "tallyLive", unfollowed := true, recurses := true, plainKeys := false, apart := false }
def TallyLiveSaid : Prop := tallyLiveRow.holds Try.pinned (OpenSpec.ofChange tallyLiveSpec)

/-- ITS FALSE NEIGHBOUR: 'it returns false'. Refute it at one input. -/
def tallyLiveWrong : ChangeSpec := { name := "tallyLive", fn := fun _ => fun
  | [d1, d2, d3] => { results := [.lit (.bool false)], args := [d1, d2, d3] }
  | _ => none }
def TallyLiveWrongFalsely : Prop := tallyLiveRow.holds Try.pinned (OpenSpec.ofChange tallyLiveWrong)

/- THE SECOND FORM. 'bulk': how many values and letters a reading holds, each counted each time it is reached (what is shared counts as often as it is met; a slice's spare places count too). A statement '..UptoSaid' is the law's where the arguments, and the package variables that the reading takes, are together of bulk at most 1048576: NARROWER than '..Said'. Prove '..Said' where nothing that the law and all that it calls make is longer than what came in: it says more and counts as full. Else prove '..UptoSaid'. A law counts once. -/
mutual
def uptoBulk {H : Type} : DataW H → Nat
  | .lit (.string bytes) => bytes.length + 1
  | .lit _ => 1
  | .nil => 1
  | .ptr d => uptoBulk d + 1
  | .slice elems spare => uptoBulkAll elems + uptoBulkAll spare + 1
  | .agg parts => uptoBulkAll parts + 1
  | .iface _ d => uptoBulk d + 1
  | .map entries => uptoBulkEntries entries + 1
  | .held _ => 1
def uptoBulkAll {H : Type} : List (DataW H) → Nat
  | [] => 0
  | d :: r => uptoBulk d + uptoBulkAll r
def uptoBulkEntries {H : Type} : List (Lit × DataW H) → Nat
  | [] => 0
  | x :: r => uptoBulkEntry x + uptoBulkEntries r
def uptoBulkEntry {H : Type} : Lit × DataW H → Nat
  | (.string bytes, d) => bytes.length + uptoBulk d + 1
  | (_, d) => uptoBulk d + 1
 end
def uptoSmall : (H : Type) → List (DataW H) → Bool := fun _ ds => decide (uptoBulkAll ds ≤ 1048576)
def OpenSpec.upto (s : _root_.Go.ChangeSpec) : _root_.Go.OpenSpec := { _root_.Go.OpenSpec.ofChange s with cond := some uptoSmall }

/-- 'usherlaw.TallyOfs', WHERE WHAT IT READS IS OF BULK AT MOST 1048576: true; the input reads as it did. -/
def tallyOfsUptoRow : OpenClaim := { program := "ythfadekfobceaaa", sum := "a1dff7e3873af52a59fc05a1e26bcad757f71b1f1087f07969e1b44c7a73e9ad", func := "usher/usherlaw.TallyOfs", spec := "tallyOfs", unfollowed := true, recurses := true, plainKeys := false, apart := false, narrowed := true }
def TallyOfsUptoSaid : Prop := tallyOfsUptoRow.holds Try.pinned (OpenSpec.upto tallyOfsSpec)

/-- 'usherlaw.TallyLives', WHERE WHAT IT READS IS OF BULK AT MOST 1048576: true; the input reads as it did. -/
def tallyLivesUptoRow : OpenClaim := { program := "ythfadekfobceaaa", sum := "a1dff7e3873af52a59fc05a1e26bcad757f71b1f1087f07969e1b44c7a73e9ad", func := "usher/usherlaw.TallyLives", spec := "tallyLives", unfollowed := true, recurses := true, plainKeys := false, apart := false, narrowed := true }
def TallyLivesUptoSaid : Prop := tallyLivesUptoRow.holds Try.pinned (OpenSpec.upto tallyLivesSpec)

/-- 'usherlaw.TallyStories', WHERE WHAT IT READS IS OF BULK AT MOST 1048576: true; the input reads as it did. -/
def tallyStoriesUptoRow : OpenClaim := { program := "ythfadekfobceaaa", sum := "a1dff7e3873af52a59fc05a1e26bcad757f71b1f1087f07969e1b44c7a73e9ad", func := "usher/usherlaw.TallyStories", spec := "tallyStories", unfollowed := true, recurses := true, plainKeys := false, apart := false, narrowed := true }
def TallyStoriesUptoSaid : Prop := tallyStoriesUptoRow.holds Try.pinned (OpenSpec.upto tallyStoriesSpec)

/-- 'usherlaw.TallyBys', WHERE WHAT IT READS IS OF BULK AT MOST 1048576: true; the input reads as it did. -/
def tallyBysUptoRow : OpenClaim := { program := "ythfadekfobceaaa", sum := "a1dff7e3873af52a59fc05a1e26bcad757f71b1f1087f07969e1b44c7a73e9ad", func := "usher/usherlaw.TallyBys", spec := "tallyBys", unfollowed := true, recurses := true, plainKeys := false, apart := false, narrowed := true }
def TallyBysUptoSaid : Prop := tallyBysUptoRow.holds Try.pinned (OpenSpec.upto tallyBysSpec)

/-- 'usherkeep.TallyAdds', WHERE WHAT IT READS IS OF BULK AT MOST 1048576: true; the input reads as it did. -/
def tallyAddsUptoRow : OpenClaim := { program := "ythfadekfobceaaa", sum := "a1dff7e3873af52a59fc05a1e26bcad757f71b1f1087f07969e1b44c7a73e9ad", func := "usher/usherkeep.TallyAdds", spec := "tallyAdds", unfollowed := true, recurses := true, plainKeys := false, apart := false, narrowed := true }
def TallyAddsUptoSaid : Prop := tallyAddsUptoRow.holds Try.pinned (OpenSpec.upto tallyAddsSpec)

/-- 'usherkeep.TallyStory', WHERE WHAT IT READS IS OF BULK AT MOST 1048576: true; the input reads as it did. -/
def tallyStoryUptoRow : OpenClaim := { program := "ythfadekfobceaaa", sum := "a1dff7e3873af52a59fc05a1e26bcad757f71b1f1087f07969e1b44c7a73e9ad", func := "usher/usherkeep.TallyStory", spec := "tallyStory", unfollowed := true, recurses := true, plainKeys := false, apart := false, narrowed := true }
def TallyStoryUptoSaid : Prop := tallyStoryUptoRow.holds Try.pinned (OpenSpec.upto tallyStorySpec)

/-- 'usherkeep.TallyBy', WHERE WHAT IT READS IS OF BULK AT MOST 1048576: true; the input reads as it did. -/
def tallyByUptoRow : OpenClaim := { program := "ythfadekfobceaaa", sum := "a1dff7e3873af52a59fc05a1e26bcad757f71b1f1087f07969e1b44c7a73e9ad", func := "usher/usherkeep.TallyBy", spec := "tallyBy", unfollowed := true, recurses := true, plainKeys := false, apart := false, narrowed := true }
def TallyByUptoSaid : Prop := tallyByUptoRow.holds Try.pinned (OpenSpec.upto tallyBySpec)

/-- 'usherkeep.TallyLive', WHERE WHAT IT READS IS OF BULK AT MOST 1048576: true; the input reads as it did. -/
def tallyLiveUptoRow : OpenClaim := { program := "ythfadekfobceaaa", sum := "a1dff7e3873af52a59fc05a1e26bcad757f71b1f1087f07969e1b44c7a73e9ad", func := "usher/usherkeep.TallyLive", spec := "tallyLive", unfollowed := true, recurses := true, plainKeys := false, apart := false, narrowed := true }
def TallyLiveUptoSaid : Prop := tallyLiveUptoRow.holds Try.pinned (OpenSpec.upto tallyLiveSpec)

end Rows
end Go.Proofs.Ythfadekfobceaaa
