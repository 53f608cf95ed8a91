/-
  DERIVED. GIVEN WITH THE SEED: THE CARDS: each row of YtgnclkcdnbfeeaaGreatDoorRows.lean that lists a variable, with what it lists TIED to the program's text (the seventh form; the later family's looks); each row that meets fmt, with fmt's text TOLD by the authors' own Lean function (tested against real Go, not proved from fmt's source: count such statements apart). THE CARD IS WHAT COUNTS. Prove the row's statement (the work); the ties are given (YtgnclkcdnbfeeaaGreatDoorTie.lean); close each card by the builder's one call (the guide's Derived/Test/ToyasCard.lean, 'card_holds'). Laid BY PROGRAM, IN A SANDBOX (cutbox-door.mjs). By AI agents, Wed Nov 11 2026. No macro, syntax, notation, axiom, sorry.
-/
import Derived.Test.YtgnclkcdnbfeeaaGreatDoorRows
import GoSem.ClaimSeven
namespace Go.Proofs.YtgnclkcdnbfeeaaGreatDoor
namespace Rows

/-- THE TIED CARD OF 'ushertop.TopSteps'. -/
def topStepsCard : Claim7 := { stood := { row := topStepsRow, standIns := [], harness := (true, "5f514c0b007e143c650b309fe76263c946e64f994df7fe270d5a2e0b1b47d8ba"), looks := true }, kinds := [], alts := [], laidByText := true, laidKinds := [.handle, .data], laidTests := true, laidLooks := .later }
def TopStepsCardSaid : Prop := Claim7.holds Tryz.pinned (.plain (OpenSpec.ofChange topStepsSpec)) topStepsCard

/-- THE TIED CARD OF 'ushertop.TopNoise'. -/
def topNoiseCard : Claim7 := { stood := { row := topNoiseRow, standIns := [], harness := (true, "5f514c0b007e143c650b309fe76263c946e64f994df7fe270d5a2e0b1b47d8ba"), looks := true }, kinds := [], alts := [], laidByText := true, laidKinds := [.handle, .data], laidTests := true, laidLooks := .later }
def TopNoiseCardSaid : Prop := Claim7.holds Tryz.pinned (.plain (OpenSpec.ofChange topNoiseSpec)) topNoiseCard

/-- THE TIED CARD OF 'ushertop.TopAgain'. -/
def topAgainCard : Claim7 := { stood := { row := topAgainRow, standIns := [], harness := (true, "5f514c0b007e143c650b309fe76263c946e64f994df7fe270d5a2e0b1b47d8ba"), looks := true }, kinds := [], alts := [], laidByText := true, laidKinds := [.handle, .data], laidTests := true, laidLooks := .later }
def TopAgainCardSaid : Prop := Claim7.holds Tryz.pinned (.plain (OpenSpec.ofChange topAgainSpec)) topAgainCard

/-- THE SECOND FORM's CARD OF 'ushertop.TopSteps'. -/
def topStepsUptoCard : Claim7 := { stood := { row := topStepsUptoRow, standIns := [], harness := (true, "5f514c0b007e143c650b309fe76263c946e64f994df7fe270d5a2e0b1b47d8ba"), looks := true }, kinds := [], alts := [], laidByText := true, laidKinds := [.handle, .data], laidTests := true, laidLooks := .later }
def TopStepsUptoCardSaid : Prop := Claim7.holds Tryz.pinned (.plain (OpenSpec.upto topStepsSpec)) topStepsUptoCard

/-- THE SECOND FORM's CARD OF 'ushertop.TopNoise'. -/
def topNoiseUptoCard : Claim7 := { stood := { row := topNoiseUptoRow, standIns := [], harness := (true, "5f514c0b007e143c650b309fe76263c946e64f994df7fe270d5a2e0b1b47d8ba"), looks := true }, kinds := [], alts := [], laidByText := true, laidKinds := [.handle, .data], laidTests := true, laidLooks := .later }
def TopNoiseUptoCardSaid : Prop := Claim7.holds Tryz.pinned (.plain (OpenSpec.upto topNoiseSpec)) topNoiseUptoCard

/-- THE SECOND FORM's CARD OF 'ushertop.TopAgain'. -/
def topAgainUptoCard : Claim7 := { stood := { row := topAgainUptoRow, standIns := [], harness := (true, "5f514c0b007e143c650b309fe76263c946e64f994df7fe270d5a2e0b1b47d8ba"), looks := true }, kinds := [], alts := [], laidByText := true, laidKinds := [.handle, .data], laidTests := true, laidLooks := .later }
def TopAgainUptoCardSaid : Prop := Claim7.holds Tryz.pinned (.plain (OpenSpec.upto topAgainSpec)) topAgainUptoCard
end Rows
end Go.Proofs.YtgnclkcdnbfeeaaGreatDoor
