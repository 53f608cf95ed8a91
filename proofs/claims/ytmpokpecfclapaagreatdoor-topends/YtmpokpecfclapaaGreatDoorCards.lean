/-
  DERIVED. GIVEN WITH THE SEED: THE CARDS: each row of YtmpokpecfclapaaGreatDoorRows.lean that lists a variable, with what it lists TIED to the program's text (the seventh form; the later family's looks); each row that meets fmt, with fmt's text TOLD by the authors' own Lean function (tested against real Go, not proved from fmt's source: count such statements apart). THE CARD IS WHAT COUNTS. Prove the row's statement (the work); the ties are given (YtmpokpecfclapaaGreatDoorTie.lean); close each card by the builder's one call (the guide's Derived/Test/ToyasCard.lean, 'card_holds'). Laid BY PROGRAM, IN A SANDBOX (cutbox-door.mjs). By AI agents, Wed Nov 11 2026. No macro, syntax, notation, axiom, sorry.
-/
import Derived.Test.YtmpokpecfclapaaGreatDoorRows
import GoSem.ClaimSeven
namespace Go.Proofs.YtmpokpecfclapaaGreatDoor
namespace Rows

/-- THE TIED CARD OF 'ushertop.TopDrain'. -/
def topDrainCard : Claim7 := { stood := { row := topDrainRow, standIns := [], harness := (true, "ed1e1afab69e953b7c2fdcde74ccadc9c6c2dc237bb57c124905f55441c05f34"), looks := false }, kinds := [], alts := [], laidByText := true, laidKinds := [.data], laidTests := true, laidLooks := .later }
def TopDrainCardSaid : Prop := Claim7.holds Tryz.pinned (.plain (OpenSpec.ofChange topDrainSpec)) topDrainCard

/-- THE TIED CARD OF 'ushertop.TopEnds'. -/
def topEndsCard : Claim7 := { stood := { row := topEndsRow, standIns := [], harness := (true, "ed1e1afab69e953b7c2fdcde74ccadc9c6c2dc237bb57c124905f55441c05f34"), looks := false }, kinds := [], alts := [], laidByText := true, laidKinds := [.data], laidTests := true, laidLooks := .later }
def TopEndsCardSaid : Prop := Claim7.holds Tryz.pinned (.plain (OpenSpec.ofChange topEndsSpec)) topEndsCard

/-- THE TIED CARD OF 'ushertop.TopOutputs'. -/
def topOutputsCard : Claim7 := { stood := { row := topOutputsRow, standIns := [], harness := (true, "ed1e1afab69e953b7c2fdcde74ccadc9c6c2dc237bb57c124905f55441c05f34"), looks := false }, kinds := [], alts := [], laidByText := true, laidKinds := [.data], laidTests := true, laidLooks := .later }
def TopOutputsCardSaid : Prop := Claim7.holds Tryz.pinned (.plain (OpenSpec.ofChange topOutputsSpec)) topOutputsCard

/-- THE TIED CARD OF 'ushertop.TopRetries'. -/
def topRetriesCard : Claim7 := { stood := { row := topRetriesRow, standIns := [], harness := (true, "ed1e1afab69e953b7c2fdcde74ccadc9c6c2dc237bb57c124905f55441c05f34"), looks := false }, kinds := [], alts := [], laidByText := true, laidKinds := [.data], laidTests := true, laidLooks := .later }
def TopRetriesCardSaid : Prop := Claim7.holds Tryz.pinned (.plain (OpenSpec.ofChange topRetriesSpec)) topRetriesCard

/-- THE TIED CARD OF 'ushertop.TopEach'. -/
def topEachCard : Claim7 := { stood := { row := topEachRow, standIns := [], harness := (true, "ed1e1afab69e953b7c2fdcde74ccadc9c6c2dc237bb57c124905f55441c05f34"), looks := false }, kinds := [], alts := [], laidByText := true, laidKinds := [.data], laidTests := true, laidLooks := .later }
def TopEachCardSaid : Prop := Claim7.holds Tryz.pinned (.plain (OpenSpec.ofChange topEachSpec)) topEachCard

/-- THE TIED CARD OF 'ushertop.TopIdle'. -/
def topIdleCard : Claim7 := { stood := { row := topIdleRow, standIns := [], harness := (true, "ed1e1afab69e953b7c2fdcde74ccadc9c6c2dc237bb57c124905f55441c05f34"), looks := false }, kinds := [], alts := [], laidByText := true, laidKinds := [.data], laidTests := true, laidLooks := .later }
def TopIdleCardSaid : Prop := Claim7.holds Tryz.pinned (.plain (OpenSpec.ofChange topIdleSpec)) topIdleCard

/-- THE TIED CARD OF 'ushertop.TopServed'. -/
def topServedCard : Claim7 := { stood := { row := topServedRow, standIns := [], harness := (true, "ed1e1afab69e953b7c2fdcde74ccadc9c6c2dc237bb57c124905f55441c05f34"), looks := false }, kinds := [], alts := [], laidByText := true, laidKinds := [.data], laidTests := true, laidLooks := .later }
def TopServedCardSaid : Prop := Claim7.holds Tryz.pinned (.plain (OpenSpec.ofChange topServedSpec)) topServedCard

/-- THE TIED CARD OF 'ushertop.TopBackends'. -/
def topBackendsCard : Claim7 := { stood := { row := topBackendsRow, standIns := [], harness := (true, "ed1e1afab69e953b7c2fdcde74ccadc9c6c2dc237bb57c124905f55441c05f34"), looks := false }, kinds := [], alts := [], laidByText := true, laidKinds := [.data], laidTests := true, laidLooks := .later }
def TopBackendsCardSaid : Prop := Claim7.holds Tryz.pinned (.plain (OpenSpec.ofChange topBackendsSpec)) topBackendsCard

/-- THE TIED CARD OF 'ushertop.TopClosed'. -/
def topClosedCard : Claim7 := { stood := { row := topClosedRow, standIns := [], harness := (true, "ed1e1afab69e953b7c2fdcde74ccadc9c6c2dc237bb57c124905f55441c05f34"), looks := false }, kinds := [], alts := [], laidByText := true, laidKinds := [.data], laidTests := true, laidLooks := .later }
def TopClosedCardSaid : Prop := Claim7.holds Tryz.pinned (.plain (OpenSpec.ofChange topClosedSpec)) topClosedCard

/-- THE TIED CARD OF 'ushertop.TopTokens'. -/
def topTokensCard : Claim7 := { stood := { row := topTokensRow, standIns := [], harness := (true, "ed1e1afab69e953b7c2fdcde74ccadc9c6c2dc237bb57c124905f55441c05f34"), looks := false }, kinds := [], alts := [], laidByText := true, laidKinds := [.data], laidTests := true, laidLooks := .later }
def TopTokensCardSaid : Prop := Claim7.holds Tryz.pinned (.plain (OpenSpec.ofChange topTokensSpec)) topTokensCard

/-- THE SECOND FORM's CARD OF 'ushertop.TopDrain'. -/
def topDrainUptoCard : Claim7 := { stood := { row := topDrainUptoRow, standIns := [], harness := (true, "ed1e1afab69e953b7c2fdcde74ccadc9c6c2dc237bb57c124905f55441c05f34"), looks := false }, kinds := [], alts := [], laidByText := true, laidKinds := [.data], laidTests := true, laidLooks := .later }
def TopDrainUptoCardSaid : Prop := Claim7.holds Tryz.pinned (.plain (OpenSpec.upto topDrainSpec)) topDrainUptoCard

/-- THE SECOND FORM's CARD OF 'ushertop.TopEnds'. -/
def topEndsUptoCard : Claim7 := { stood := { row := topEndsUptoRow, standIns := [], harness := (true, "ed1e1afab69e953b7c2fdcde74ccadc9c6c2dc237bb57c124905f55441c05f34"), looks := false }, kinds := [], alts := [], laidByText := true, laidKinds := [.data], laidTests := true, laidLooks := .later }
def TopEndsUptoCardSaid : Prop := Claim7.holds Tryz.pinned (.plain (OpenSpec.upto topEndsSpec)) topEndsUptoCard

/-- THE SECOND FORM's CARD OF 'ushertop.TopOutputs'. -/
def topOutputsUptoCard : Claim7 := { stood := { row := topOutputsUptoRow, standIns := [], harness := (true, "ed1e1afab69e953b7c2fdcde74ccadc9c6c2dc237bb57c124905f55441c05f34"), looks := false }, kinds := [], alts := [], laidByText := true, laidKinds := [.data], laidTests := true, laidLooks := .later }
def TopOutputsUptoCardSaid : Prop := Claim7.holds Tryz.pinned (.plain (OpenSpec.upto topOutputsSpec)) topOutputsUptoCard

/-- THE SECOND FORM's CARD OF 'ushertop.TopRetries'. -/
def topRetriesUptoCard : Claim7 := { stood := { row := topRetriesUptoRow, standIns := [], harness := (true, "ed1e1afab69e953b7c2fdcde74ccadc9c6c2dc237bb57c124905f55441c05f34"), looks := false }, kinds := [], alts := [], laidByText := true, laidKinds := [.data], laidTests := true, laidLooks := .later }
def TopRetriesUptoCardSaid : Prop := Claim7.holds Tryz.pinned (.plain (OpenSpec.upto topRetriesSpec)) topRetriesUptoCard

/-- THE SECOND FORM's CARD OF 'ushertop.TopEach'. -/
def topEachUptoCard : Claim7 := { stood := { row := topEachUptoRow, standIns := [], harness := (true, "ed1e1afab69e953b7c2fdcde74ccadc9c6c2dc237bb57c124905f55441c05f34"), looks := false }, kinds := [], alts := [], laidByText := true, laidKinds := [.data], laidTests := true, laidLooks := .later }
def TopEachUptoCardSaid : Prop := Claim7.holds Tryz.pinned (.plain (OpenSpec.upto topEachSpec)) topEachUptoCard

/-- THE SECOND FORM's CARD OF 'ushertop.TopIdle'. -/
def topIdleUptoCard : Claim7 := { stood := { row := topIdleUptoRow, standIns := [], harness := (true, "ed1e1afab69e953b7c2fdcde74ccadc9c6c2dc237bb57c124905f55441c05f34"), looks := false }, kinds := [], alts := [], laidByText := true, laidKinds := [.data], laidTests := true, laidLooks := .later }
def TopIdleUptoCardSaid : Prop := Claim7.holds Tryz.pinned (.plain (OpenSpec.upto topIdleSpec)) topIdleUptoCard

/-- THE SECOND FORM's CARD OF 'ushertop.TopServed'. -/
def topServedUptoCard : Claim7 := { stood := { row := topServedUptoRow, standIns := [], harness := (true, "ed1e1afab69e953b7c2fdcde74ccadc9c6c2dc237bb57c124905f55441c05f34"), looks := false }, kinds := [], alts := [], laidByText := true, laidKinds := [.data], laidTests := true, laidLooks := .later }
def TopServedUptoCardSaid : Prop := Claim7.holds Tryz.pinned (.plain (OpenSpec.upto topServedSpec)) topServedUptoCard

/-- THE SECOND FORM's CARD OF 'ushertop.TopBackends'. -/
def topBackendsUptoCard : Claim7 := { stood := { row := topBackendsUptoRow, standIns := [], harness := (true, "ed1e1afab69e953b7c2fdcde74ccadc9c6c2dc237bb57c124905f55441c05f34"), looks := false }, kinds := [], alts := [], laidByText := true, laidKinds := [.data], laidTests := true, laidLooks := .later }
def TopBackendsUptoCardSaid : Prop := Claim7.holds Tryz.pinned (.plain (OpenSpec.upto topBackendsSpec)) topBackendsUptoCard

/-- THE SECOND FORM's CARD OF 'ushertop.TopClosed'. -/
def topClosedUptoCard : Claim7 := { stood := { row := topClosedUptoRow, standIns := [], harness := (true, "ed1e1afab69e953b7c2fdcde74ccadc9c6c2dc237bb57c124905f55441c05f34"), looks := false }, kinds := [], alts := [], laidByText := true, laidKinds := [.data], laidTests := true, laidLooks := .later }
def TopClosedUptoCardSaid : Prop := Claim7.holds Tryz.pinned (.plain (OpenSpec.upto topClosedSpec)) topClosedUptoCard

/-- THE SECOND FORM's CARD OF 'ushertop.TopTokens'. -/
def topTokensUptoCard : Claim7 := { stood := { row := topTokensUptoRow, standIns := [], harness := (true, "ed1e1afab69e953b7c2fdcde74ccadc9c6c2dc237bb57c124905f55441c05f34"), looks := false }, kinds := [], alts := [], laidByText := true, laidKinds := [.data], laidTests := true, laidLooks := .later }
def TopTokensUptoCardSaid : Prop := Claim7.holds Tryz.pinned (.plain (OpenSpec.upto topTokensSpec)) topTokensUptoCard
end Rows
end Go.Proofs.YtmpokpecfclapaaGreatDoor
