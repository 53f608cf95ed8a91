/-
  DERIVED. GIVEN WITH THE SEED: THE CARDS: each row of YtlnbhjdhcmgljaaGreatDoorRows.lean that lists a variable, with what it lists TIED to the program's text (the seventh form; the later family's looks); each row that meets fmt, with fmt's text TOLD by the authors' own Lean function (tested against real Go, not proved from fmt's source: count such statements apart). THE CARD IS WHAT COUNTS. Prove the row's statement (the work); the ties are given (YtlnbhjdhcmgljaaGreatDoorTie.lean); close each card by the builder's one call (the guide's Derived/Test/ToyasCard.lean, 'card_holds'). Laid BY PROGRAM, IN A SANDBOX (cutbox-door.mjs). By AI agents, Wed Nov 11 2026. No macro, syntax, notation, axiom, sorry.
-/
import Derived.Test.YtlnbhjdhcmgljaaGreatDoorRows
import GoSem.ClaimSeven
namespace Go.Proofs.YtlnbhjdhcmgljaaGreatDoor
namespace Rows

/-- THE TIED CARD OF 'ushertop.TopBound'. -/
def topBoundCard : Claim7 := { stood := { row := topBoundRow, standIns := [], harness := (true, "1a3cace4ee84d44f7ed242a279bcadae5c829ff7fc6dbc9c362cc2b614a55113"), looks := false }, kinds := [], alts := [], laidByText := true, laidKinds := [.data], laidTests := true, laidLooks := .later }
def TopBoundCardSaid : Prop := Claim7.holds Tryz.pinned (.plain (OpenSpec.ofChange topBoundSpec)) topBoundCard

/-- THE TIED CARD OF 'ushertop.TopMoved'. -/
def topMovedCard : Claim7 := { stood := { row := topMovedRow, standIns := [], harness := (true, "1a3cace4ee84d44f7ed242a279bcadae5c829ff7fc6dbc9c362cc2b614a55113"), looks := false }, kinds := [], alts := [], laidByText := true, laidKinds := [.data], laidTests := true, laidLooks := .later }
def TopMovedCardSaid : Prop := Claim7.holds Tryz.pinned (.plain (OpenSpec.ofChange topMovedSpec)) topMovedCard

/-- THE TIED CARD OF 'ushertop.TopRing'. -/
def topRingCard : Claim7 := { stood := { row := topRingRow, standIns := [], harness := (true, "1a3cace4ee84d44f7ed242a279bcadae5c829ff7fc6dbc9c362cc2b614a55113"), looks := false }, kinds := [], alts := [], laidByText := true, laidKinds := [.data], laidTests := true, laidLooks := .later }
def TopRingCardSaid : Prop := Claim7.holds Tryz.pinned (.plain (OpenSpec.ofChange topRingSpec)) topRingCard

/-- THE TIED CARD OF 'ushertop.TopDrain'. -/
def topDrainCard : Claim7 := { stood := { row := topDrainRow, standIns := [], harness := (true, "1a3cace4ee84d44f7ed242a279bcadae5c829ff7fc6dbc9c362cc2b614a55113"), looks := false }, kinds := [], alts := [], laidByText := true, laidKinds := [.data], laidTests := true, laidLooks := .later }
def TopDrainCardSaid : Prop := Claim7.holds Tryz.pinned (.plain (OpenSpec.ofChange topDrainSpec)) topDrainCard

/-- THE TIED CARD OF 'ushertop.TopGone'. -/
def topGoneCard : Claim7 := { stood := { row := topGoneRow, standIns := [], harness := (true, "1a3cace4ee84d44f7ed242a279bcadae5c829ff7fc6dbc9c362cc2b614a55113"), looks := false }, kinds := [], alts := [], laidByText := true, laidKinds := [.data], laidTests := true, laidLooks := .later }
def TopGoneCardSaid : Prop := Claim7.holds Tryz.pinned (.plain (OpenSpec.ofChange topGoneSpec)) topGoneCard

/-- THE TIED CARD OF 'ushertop.TopLone'. -/
def topLoneCard : Claim7 := { stood := { row := topLoneRow, standIns := [], harness := (true, "1a3cace4ee84d44f7ed242a279bcadae5c829ff7fc6dbc9c362cc2b614a55113"), looks := false }, kinds := [], alts := [], laidByText := true, laidKinds := [.data], laidTests := true, laidLooks := .later }
def TopLoneCardSaid : Prop := Claim7.holds Tryz.pinned (.plain (OpenSpec.ofChange topLoneSpec)) topLoneCard

/-- THE TIED CARD OF 'ushertop.TopOnRing'. -/
def topOnRingCard : Claim7 := { stood := { row := topOnRingRow, standIns := [], harness := (true, "1a3cace4ee84d44f7ed242a279bcadae5c829ff7fc6dbc9c362cc2b614a55113"), looks := false }, kinds := [], alts := [], laidByText := true, laidKinds := [.data], laidTests := true, laidLooks := .later }
def TopOnRingCardSaid : Prop := Claim7.holds Tryz.pinned (.plain (OpenSpec.ofChange topOnRingSpec)) topOnRingCard

/-- THE SECOND FORM's CARD OF 'ushertop.TopBound'. -/
def topBoundUptoCard : Claim7 := { stood := { row := topBoundUptoRow, standIns := [], harness := (true, "1a3cace4ee84d44f7ed242a279bcadae5c829ff7fc6dbc9c362cc2b614a55113"), looks := false }, kinds := [], alts := [], laidByText := true, laidKinds := [.data], laidTests := true, laidLooks := .later }
def TopBoundUptoCardSaid : Prop := Claim7.holds Tryz.pinned (.plain (OpenSpec.upto topBoundSpec)) topBoundUptoCard

/-- THE SECOND FORM's CARD OF 'ushertop.TopMoved'. -/
def topMovedUptoCard : Claim7 := { stood := { row := topMovedUptoRow, standIns := [], harness := (true, "1a3cace4ee84d44f7ed242a279bcadae5c829ff7fc6dbc9c362cc2b614a55113"), looks := false }, kinds := [], alts := [], laidByText := true, laidKinds := [.data], laidTests := true, laidLooks := .later }
def TopMovedUptoCardSaid : Prop := Claim7.holds Tryz.pinned (.plain (OpenSpec.upto topMovedSpec)) topMovedUptoCard

/-- THE SECOND FORM's CARD OF 'ushertop.TopRing'. -/
def topRingUptoCard : Claim7 := { stood := { row := topRingUptoRow, standIns := [], harness := (true, "1a3cace4ee84d44f7ed242a279bcadae5c829ff7fc6dbc9c362cc2b614a55113"), looks := false }, kinds := [], alts := [], laidByText := true, laidKinds := [.data], laidTests := true, laidLooks := .later }
def TopRingUptoCardSaid : Prop := Claim7.holds Tryz.pinned (.plain (OpenSpec.upto topRingSpec)) topRingUptoCard

/-- THE SECOND FORM's CARD OF 'ushertop.TopDrain'. -/
def topDrainUptoCard : Claim7 := { stood := { row := topDrainUptoRow, standIns := [], harness := (true, "1a3cace4ee84d44f7ed242a279bcadae5c829ff7fc6dbc9c362cc2b614a55113"), looks := false }, kinds := [], alts := [], laidByText := true, laidKinds := [.data], laidTests := true, laidLooks := .later }
def TopDrainUptoCardSaid : Prop := Claim7.holds Tryz.pinned (.plain (OpenSpec.upto topDrainSpec)) topDrainUptoCard

/-- THE SECOND FORM's CARD OF 'ushertop.TopGone'. -/
def topGoneUptoCard : Claim7 := { stood := { row := topGoneUptoRow, standIns := [], harness := (true, "1a3cace4ee84d44f7ed242a279bcadae5c829ff7fc6dbc9c362cc2b614a55113"), looks := false }, kinds := [], alts := [], laidByText := true, laidKinds := [.data], laidTests := true, laidLooks := .later }
def TopGoneUptoCardSaid : Prop := Claim7.holds Tryz.pinned (.plain (OpenSpec.upto topGoneSpec)) topGoneUptoCard

/-- THE SECOND FORM's CARD OF 'ushertop.TopLone'. -/
def topLoneUptoCard : Claim7 := { stood := { row := topLoneUptoRow, standIns := [], harness := (true, "1a3cace4ee84d44f7ed242a279bcadae5c829ff7fc6dbc9c362cc2b614a55113"), looks := false }, kinds := [], alts := [], laidByText := true, laidKinds := [.data], laidTests := true, laidLooks := .later }
def TopLoneUptoCardSaid : Prop := Claim7.holds Tryz.pinned (.plain (OpenSpec.upto topLoneSpec)) topLoneUptoCard

/-- THE SECOND FORM's CARD OF 'ushertop.TopOnRing'. -/
def topOnRingUptoCard : Claim7 := { stood := { row := topOnRingUptoRow, standIns := [], harness := (true, "1a3cace4ee84d44f7ed242a279bcadae5c829ff7fc6dbc9c362cc2b614a55113"), looks := false }, kinds := [], alts := [], laidByText := true, laidKinds := [.data], laidTests := true, laidLooks := .later }
def TopOnRingUptoCardSaid : Prop := Claim7.holds Tryz.pinned (.plain (OpenSpec.upto topOnRingSpec)) topOnRingUptoCard
end Rows
end Go.Proofs.YtlnbhjdhcmgljaaGreatDoor
