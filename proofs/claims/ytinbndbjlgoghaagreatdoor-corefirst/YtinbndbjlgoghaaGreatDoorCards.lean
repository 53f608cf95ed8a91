/-
  DERIVED. GIVEN WITH THE SEED: THE CARDS: each row of YtinbndbjlgoghaaGreatDoorRows.lean that lists a variable, with what it lists TIED to the program's text (the seventh form; the later family's looks); each row that meets fmt, with fmt's text TOLD by the authors' own Lean function (tested against real Go, not proved from fmt's source: count such statements apart). THE CARD IS WHAT COUNTS. Prove the row's statement (the work); the ties are given (YtinbndbjlgoghaaGreatDoorTie.lean); close each card by the builder's one call (the guide's Derived/Test/ToyasCard.lean, 'card_holds'). Laid BY PROGRAM, IN A SANDBOX (cutbox-door.mjs). By AI agents, Wed Nov 11 2026. No macro, syntax, notation, axiom, sorry.
-/
import Derived.Test.YtinbndbjlgoghaaGreatDoorRows
import GoSem.ClaimSeven
namespace Go.Proofs.YtinbndbjlgoghaaGreatDoor
namespace Rows

/-- THE TIED CARD OF 'usherkeep.CoreFirst'. -/
def coreFirstCard : Claim7 := { stood := { row := coreFirstRow, standIns := [], harness := (true, "4c9de94b12c85fe6c360b43102907b87a42fd70bd831bf667c023b037f4b19f5"), looks := false }, kinds := [], alts := [], laidByText := true, laidKinds := [.data], laidTests := true, laidLooks := .later }
def CoreFirstCardSaid : Prop := Claim7.holds Tryz.pinned (.plain (OpenSpec.ofChange coreFirstSpec)) coreFirstCard

/-- THE TIED CARD OF 'ushertop.TopTaken'. -/
def topTakenCard : Claim7 := { stood := { row := topTakenRow, standIns := [], harness := (true, "4c9de94b12c85fe6c360b43102907b87a42fd70bd831bf667c023b037f4b19f5"), looks := false }, kinds := [], alts := [], laidByText := true, laidKinds := [.data], laidTests := true, laidLooks := .later }
def TopTakenCardSaid : Prop := Claim7.holds Tryz.pinned (.plain (OpenSpec.ofChange topTakenSpec)) topTakenCard

/-- THE TIED CARD OF 'ushertop.TopNever'. -/
def topNeverCard : Claim7 := { stood := { row := topNeverRow, standIns := [], harness := (true, "4c9de94b12c85fe6c360b43102907b87a42fd70bd831bf667c023b037f4b19f5"), looks := false }, kinds := [], alts := [], laidByText := true, laidKinds := [.data], laidTests := true, laidLooks := .later }
def TopNeverCardSaid : Prop := Claim7.holds Tryz.pinned (.plain (OpenSpec.ofChange topNeverSpec)) topNeverCard

/-- THE TIED CARD OF 'ushertop.TopDraining'. -/
def topDrainingCard : Claim7 := { stood := { row := topDrainingRow, standIns := [], harness := (true, "4c9de94b12c85fe6c360b43102907b87a42fd70bd831bf667c023b037f4b19f5"), looks := false }, kinds := [], alts := [], laidByText := true, laidKinds := [.data], laidTests := true, laidLooks := .later }
def TopDrainingCardSaid : Prop := Claim7.holds Tryz.pinned (.plain (OpenSpec.ofChange topDrainingSpec)) topDrainingCard

/-- THE TIED CARD OF 'ushertop.TopReplies'. -/
def topRepliesCard : Claim7 := { stood := { row := topRepliesRow, standIns := [], harness := (true, "4c9de94b12c85fe6c360b43102907b87a42fd70bd831bf667c023b037f4b19f5"), looks := false }, kinds := [], alts := [], laidByText := true, laidKinds := [.data], laidTests := true, laidLooks := .later }
def TopRepliesCardSaid : Prop := Claim7.holds Tryz.pinned (.plain (OpenSpec.ofChange topRepliesSpec)) topRepliesCard

/-- THE TIED CARD OF 'ushertop.TopAsked'. -/
def topAskedCard : Claim7 := { stood := { row := topAskedRow, standIns := [], harness := (true, "4c9de94b12c85fe6c360b43102907b87a42fd70bd831bf667c023b037f4b19f5"), looks := false }, kinds := [], alts := [], laidByText := true, laidKinds := [.data], laidTests := true, laidLooks := .later }
def TopAskedCardSaid : Prop := Claim7.holds Tryz.pinned (.plain (OpenSpec.ofChange topAskedSpec)) topAskedCard

/-- THE TIED CARD OF 'ushertop.TopOut'. -/
def topOutCard : Claim7 := { stood := { row := topOutRow, standIns := [], harness := (true, "4c9de94b12c85fe6c360b43102907b87a42fd70bd831bf667c023b037f4b19f5"), looks := false }, kinds := [], alts := [], laidByText := true, laidKinds := [.data], laidTests := true, laidLooks := .later }
def TopOutCardSaid : Prop := Claim7.holds Tryz.pinned (.plain (OpenSpec.ofChange topOutSpec)) topOutCard

/-- THE TIED CARD OF 'ushertop.TopWarm'. -/
def topWarmCard : Claim7 := { stood := { row := topWarmRow, standIns := [], harness := (true, "4c9de94b12c85fe6c360b43102907b87a42fd70bd831bf667c023b037f4b19f5"), looks := false }, kinds := [], alts := [], laidByText := true, laidKinds := [.data], laidTests := true, laidLooks := .later }
def TopWarmCardSaid : Prop := Claim7.holds Tryz.pinned (.plain (OpenSpec.ofChange topWarmSpec)) topWarmCard

/-- THE TIED CARD OF 'ushertop.TopRest'. -/
def topRestCard : Claim7 := { stood := { row := topRestRow, standIns := [], harness := (true, "4c9de94b12c85fe6c360b43102907b87a42fd70bd831bf667c023b037f4b19f5"), looks := false }, kinds := [], alts := [], laidByText := true, laidKinds := [.data], laidTests := true, laidLooks := .later }
def TopRestCardSaid : Prop := Claim7.holds Tryz.pinned (.plain (OpenSpec.ofChange topRestSpec)) topRestCard

/-- THE TIED CARD OF 'ushertop.TopKept'. -/
def topKeptCard : Claim7 := { stood := { row := topKeptRow, standIns := [], harness := (true, "4c9de94b12c85fe6c360b43102907b87a42fd70bd831bf667c023b037f4b19f5"), looks := false }, kinds := [], alts := [], laidByText := true, laidKinds := [.data], laidTests := true, laidLooks := .later }
def TopKeptCardSaid : Prop := Claim7.holds Tryz.pinned (.plain (OpenSpec.ofChange topKeptSpec)) topKeptCard

/-- THE TIED CARD OF 'ushertop.TopTold'. -/
def topToldCard : Claim7 := { stood := { row := topToldRow, standIns := [], harness := (true, "4c9de94b12c85fe6c360b43102907b87a42fd70bd831bf667c023b037f4b19f5"), looks := false }, kinds := [], alts := [], laidByText := true, laidKinds := [.data], laidTests := true, laidLooks := .later }
def TopToldCardSaid : Prop := Claim7.holds Tryz.pinned (.plain (OpenSpec.ofChange topToldSpec)) topToldCard

/-- THE SECOND FORM's CARD OF 'usherkeep.CoreFirst'. -/
def coreFirstUptoCard : Claim7 := { stood := { row := coreFirstUptoRow, standIns := [], harness := (true, "4c9de94b12c85fe6c360b43102907b87a42fd70bd831bf667c023b037f4b19f5"), looks := false }, kinds := [], alts := [], laidByText := true, laidKinds := [.data], laidTests := true, laidLooks := .later }
def CoreFirstUptoCardSaid : Prop := Claim7.holds Tryz.pinned (.plain (OpenSpec.upto coreFirstSpec)) coreFirstUptoCard

/-- THE SECOND FORM's CARD OF 'ushertop.TopTaken'. -/
def topTakenUptoCard : Claim7 := { stood := { row := topTakenUptoRow, standIns := [], harness := (true, "4c9de94b12c85fe6c360b43102907b87a42fd70bd831bf667c023b037f4b19f5"), looks := false }, kinds := [], alts := [], laidByText := true, laidKinds := [.data], laidTests := true, laidLooks := .later }
def TopTakenUptoCardSaid : Prop := Claim7.holds Tryz.pinned (.plain (OpenSpec.upto topTakenSpec)) topTakenUptoCard

/-- THE SECOND FORM's CARD OF 'ushertop.TopNever'. -/
def topNeverUptoCard : Claim7 := { stood := { row := topNeverUptoRow, standIns := [], harness := (true, "4c9de94b12c85fe6c360b43102907b87a42fd70bd831bf667c023b037f4b19f5"), looks := false }, kinds := [], alts := [], laidByText := true, laidKinds := [.data], laidTests := true, laidLooks := .later }
def TopNeverUptoCardSaid : Prop := Claim7.holds Tryz.pinned (.plain (OpenSpec.upto topNeverSpec)) topNeverUptoCard

/-- THE SECOND FORM's CARD OF 'ushertop.TopDraining'. -/
def topDrainingUptoCard : Claim7 := { stood := { row := topDrainingUptoRow, standIns := [], harness := (true, "4c9de94b12c85fe6c360b43102907b87a42fd70bd831bf667c023b037f4b19f5"), looks := false }, kinds := [], alts := [], laidByText := true, laidKinds := [.data], laidTests := true, laidLooks := .later }
def TopDrainingUptoCardSaid : Prop := Claim7.holds Tryz.pinned (.plain (OpenSpec.upto topDrainingSpec)) topDrainingUptoCard

/-- THE SECOND FORM's CARD OF 'ushertop.TopReplies'. -/
def topRepliesUptoCard : Claim7 := { stood := { row := topRepliesUptoRow, standIns := [], harness := (true, "4c9de94b12c85fe6c360b43102907b87a42fd70bd831bf667c023b037f4b19f5"), looks := false }, kinds := [], alts := [], laidByText := true, laidKinds := [.data], laidTests := true, laidLooks := .later }
def TopRepliesUptoCardSaid : Prop := Claim7.holds Tryz.pinned (.plain (OpenSpec.upto topRepliesSpec)) topRepliesUptoCard

/-- THE SECOND FORM's CARD OF 'ushertop.TopAsked'. -/
def topAskedUptoCard : Claim7 := { stood := { row := topAskedUptoRow, standIns := [], harness := (true, "4c9de94b12c85fe6c360b43102907b87a42fd70bd831bf667c023b037f4b19f5"), looks := false }, kinds := [], alts := [], laidByText := true, laidKinds := [.data], laidTests := true, laidLooks := .later }
def TopAskedUptoCardSaid : Prop := Claim7.holds Tryz.pinned (.plain (OpenSpec.upto topAskedSpec)) topAskedUptoCard

/-- THE SECOND FORM's CARD OF 'ushertop.TopOut'. -/
def topOutUptoCard : Claim7 := { stood := { row := topOutUptoRow, standIns := [], harness := (true, "4c9de94b12c85fe6c360b43102907b87a42fd70bd831bf667c023b037f4b19f5"), looks := false }, kinds := [], alts := [], laidByText := true, laidKinds := [.data], laidTests := true, laidLooks := .later }
def TopOutUptoCardSaid : Prop := Claim7.holds Tryz.pinned (.plain (OpenSpec.upto topOutSpec)) topOutUptoCard

/-- THE SECOND FORM's CARD OF 'ushertop.TopWarm'. -/
def topWarmUptoCard : Claim7 := { stood := { row := topWarmUptoRow, standIns := [], harness := (true, "4c9de94b12c85fe6c360b43102907b87a42fd70bd831bf667c023b037f4b19f5"), looks := false }, kinds := [], alts := [], laidByText := true, laidKinds := [.data], laidTests := true, laidLooks := .later }
def TopWarmUptoCardSaid : Prop := Claim7.holds Tryz.pinned (.plain (OpenSpec.upto topWarmSpec)) topWarmUptoCard

/-- THE SECOND FORM's CARD OF 'ushertop.TopRest'. -/
def topRestUptoCard : Claim7 := { stood := { row := topRestUptoRow, standIns := [], harness := (true, "4c9de94b12c85fe6c360b43102907b87a42fd70bd831bf667c023b037f4b19f5"), looks := false }, kinds := [], alts := [], laidByText := true, laidKinds := [.data], laidTests := true, laidLooks := .later }
def TopRestUptoCardSaid : Prop := Claim7.holds Tryz.pinned (.plain (OpenSpec.upto topRestSpec)) topRestUptoCard

/-- THE SECOND FORM's CARD OF 'ushertop.TopKept'. -/
def topKeptUptoCard : Claim7 := { stood := { row := topKeptUptoRow, standIns := [], harness := (true, "4c9de94b12c85fe6c360b43102907b87a42fd70bd831bf667c023b037f4b19f5"), looks := false }, kinds := [], alts := [], laidByText := true, laidKinds := [.data], laidTests := true, laidLooks := .later }
def TopKeptUptoCardSaid : Prop := Claim7.holds Tryz.pinned (.plain (OpenSpec.upto topKeptSpec)) topKeptUptoCard

/-- THE SECOND FORM's CARD OF 'ushertop.TopTold'. -/
def topToldUptoCard : Claim7 := { stood := { row := topToldUptoRow, standIns := [], harness := (true, "4c9de94b12c85fe6c360b43102907b87a42fd70bd831bf667c023b037f4b19f5"), looks := false }, kinds := [], alts := [], laidByText := true, laidKinds := [.data], laidTests := true, laidLooks := .later }
def TopToldUptoCardSaid : Prop := Claim7.holds Tryz.pinned (.plain (OpenSpec.upto topToldSpec)) topToldUptoCard
end Rows
end Go.Proofs.YtinbndbjlgoghaaGreatDoor
