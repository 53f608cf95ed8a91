/-
  DERIVED. GIVEN WITH THE SEED: THE CARDS: each row of YtdfjobghgbcjpaaDoorRows.lean that lists a variable, with what it lists TIED to the program's text (the seventh form; the later family's looks); each row that meets fmt, with fmt's text TOLD by the authors' own Lean function (tested against real Go, not proved from fmt's source: count such statements apart). THE CARD IS WHAT COUNTS. Prove the row's statement (the work); the ties are given (YtdfjobghgbcjpaaDoorTie.lean); close each card by the builder's one call (the guide's Derived/Test/ToyasCard.lean, 'card_holds'). Laid BY PROGRAM, IN A SANDBOX (cutbox-door.mjs). By AI agents, Wed Nov 11 2026. No macro, syntax, notation, axiom, sorry.
-/
import Derived.Test.YtdfjobghgbcjpaaDoorRows
import GoSem.ClaimSeven
namespace Go.Proofs.YtdfjobghgbcjpaaDoor
namespace Rows

/-- THE TIED CARD OF 'usherlaw.WheelArms'. -/
def wheelArmsCard : Claim7 := { stood := { row := wheelArmsRow, standIns := [], harness := (true, "5e62e20ae46c055f4e87604e4141989a67ecc8420e856a59e54f2a5d35c9baae"), looks := false }, kinds := [], alts := [], laidByText := true, laidKinds := [.data], laidTests := true, laidLooks := .later }
def WheelArmsCardSaid : Prop := Claim7.holds Tryd.pinned (.plain (OpenSpec.ofChange wheelArmsSpec)) wheelArmsCard

/-- THE TIED CARD OF 'usherlaw.WheelCancels'. -/
def wheelCancelsCard : Claim7 := { stood := { row := wheelCancelsRow, standIns := [], harness := (true, "5e62e20ae46c055f4e87604e4141989a67ecc8420e856a59e54f2a5d35c9baae"), looks := false }, kinds := [], alts := [], laidByText := true, laidKinds := [.data], laidTests := true, laidLooks := .later }
def WheelCancelsCardSaid : Prop := Claim7.holds Tryd.pinned (.plain (OpenSpec.ofChange wheelCancelsSpec)) wheelCancelsCard

/-- THE TIED CARD OF 'usherlaw.WheelAdvances'. -/
def wheelAdvancesCard : Claim7 := { stood := { row := wheelAdvancesRow, standIns := [], harness := (true, "5e62e20ae46c055f4e87604e4141989a67ecc8420e856a59e54f2a5d35c9baae"), looks := false }, kinds := [], alts := [], laidByText := true, laidKinds := [.data], laidTests := true, laidLooks := .later }
def WheelAdvancesCardSaid : Prop := Claim7.holds Tryd.pinned (.plain (OpenSpec.ofChange wheelAdvancesSpec)) wheelAdvancesCard

/-- THE SECOND FORM's CARD OF 'usherlaw.WheelArms'. -/
def wheelArmsUptoCard : Claim7 := { stood := { row := wheelArmsUptoRow, standIns := [], harness := (true, "5e62e20ae46c055f4e87604e4141989a67ecc8420e856a59e54f2a5d35c9baae"), looks := false }, kinds := [], alts := [], laidByText := true, laidKinds := [.data], laidTests := true, laidLooks := .later }
def WheelArmsUptoCardSaid : Prop := Claim7.holds Tryd.pinned (.plain (OpenSpec.upto wheelArmsSpec)) wheelArmsUptoCard

/-- THE SECOND FORM's CARD OF 'usherlaw.WheelCancels'. -/
def wheelCancelsUptoCard : Claim7 := { stood := { row := wheelCancelsUptoRow, standIns := [], harness := (true, "5e62e20ae46c055f4e87604e4141989a67ecc8420e856a59e54f2a5d35c9baae"), looks := false }, kinds := [], alts := [], laidByText := true, laidKinds := [.data], laidTests := true, laidLooks := .later }
def WheelCancelsUptoCardSaid : Prop := Claim7.holds Tryd.pinned (.plain (OpenSpec.upto wheelCancelsSpec)) wheelCancelsUptoCard

/-- THE SECOND FORM's CARD OF 'usherlaw.WheelAdvances'. -/
def wheelAdvancesUptoCard : Claim7 := { stood := { row := wheelAdvancesUptoRow, standIns := [], harness := (true, "5e62e20ae46c055f4e87604e4141989a67ecc8420e856a59e54f2a5d35c9baae"), looks := false }, kinds := [], alts := [], laidByText := true, laidKinds := [.data], laidTests := true, laidLooks := .later }
def WheelAdvancesUptoCardSaid : Prop := Claim7.holds Tryd.pinned (.plain (OpenSpec.upto wheelAdvancesSpec)) wheelAdvancesUptoCard
end Rows
end Go.Proofs.YtdfjobghgbcjpaaDoor
