/-
  DERIVED. GIVEN WITH THE SEED: THE CARDS: each row of YtjjlekohkoicbabDoorRows.lean that lists a variable, with what it lists TIED to the program's text (the seventh form; the later family's looks); each row that meets fmt, with fmt's text TOLD by the authors' own Lean function (tested against real Go, not proved from fmt's source: count such statements apart). THE CARD IS WHAT COUNTS. Prove the row's statement (the work); the ties are given (YtjjlekohkoicbabDoorTie.lean); close each card by the builder's one call (the guide's Derived/Test/ToyasCard.lean, 'card_holds'). Laid BY PROGRAM, IN A SANDBOX (cutbox-door.mjs). By AI agents, Wed Nov 11 2026. No macro, syntax, notation, axiom, sorry.
-/
import Derived.Test.YtjjlekohkoicbabDoorRows
import GoSem.ClaimSeven
namespace Go.Proofs.YtjjlekohkoicbabDoor
namespace Rows

/-- THE TIED CARD OF 'usherkeep.WheelTurns'. -/
def wheelTurnsCard : Claim7 := { stood := { row := wheelTurnsRow, standIns := [], harness := (true, "1860a31aeb4a554af4be785d3fed30baf1f155d403ea2874e45c3e61ae5b277c"), looks := false }, kinds := [], alts := [], laidByText := true, laidKinds := [.data], laidTests := true, laidLooks := .later }
def WheelTurnsCardSaid : Prop := Claim7.holds Tryd.pinned (.plain (OpenSpec.ofChange wheelTurnsSpec)) wheelTurnsCard

/-- THE TIED CARD OF 'usherkeep.WheelHolds'. -/
def wheelHoldsCard : Claim7 := { stood := { row := wheelHoldsRow, standIns := [], harness := (true, "1860a31aeb4a554af4be785d3fed30baf1f155d403ea2874e45c3e61ae5b277c"), looks := false }, kinds := [], alts := [], laidByText := true, laidKinds := [.data], laidTests := true, laidLooks := .later }
def WheelHoldsCardSaid : Prop := Claim7.holds Tryd.pinned (.plain (OpenSpec.ofChange wheelHoldsSpec)) wheelHoldsCard

/-- THE SECOND FORM's CARD OF 'usherkeep.WheelTurns'. -/
def wheelTurnsUptoCard : Claim7 := { stood := { row := wheelTurnsUptoRow, standIns := [], harness := (true, "1860a31aeb4a554af4be785d3fed30baf1f155d403ea2874e45c3e61ae5b277c"), looks := false }, kinds := [], alts := [], laidByText := true, laidKinds := [.data], laidTests := true, laidLooks := .later }
def WheelTurnsUptoCardSaid : Prop := Claim7.holds Tryd.pinned (.plain (OpenSpec.upto wheelTurnsSpec)) wheelTurnsUptoCard

/-- THE SECOND FORM's CARD OF 'usherkeep.WheelHolds'. -/
def wheelHoldsUptoCard : Claim7 := { stood := { row := wheelHoldsUptoRow, standIns := [], harness := (true, "1860a31aeb4a554af4be785d3fed30baf1f155d403ea2874e45c3e61ae5b277c"), looks := false }, kinds := [], alts := [], laidByText := true, laidKinds := [.data], laidTests := true, laidLooks := .later }
def WheelHoldsUptoCardSaid : Prop := Claim7.holds Tryd.pinned (.plain (OpenSpec.upto wheelHoldsSpec)) wheelHoldsUptoCard
end Rows
end Go.Proofs.YtjjlekohkoicbabDoor
