/-
  TopDue: the closed facts of its row, one by one. No condition.
-/
import Derived.Test.YtalhkllgnlejbaaGreatDoorRows
import Derived.Test.YtalhkllgnlejbaaGreatDoorChecked
import Derived.JoinedOf
import Derived.SevenTiedAt
import Derived.ClosedOfChecked
open Go.Proofs.Tryz renaming prog->PX,f13->FX
open Go.Proofs.YtalhkllgnlejbaaGreatDoor.Rows renaming topDueRow->RX,topDueSpec->SX
namespace Go.Proofs.YtalhkllgnlejbaaGreatDoor.topDue
set_option maxRecDepth 100000
theorem AX {a b : Bool} (ha : a = true) (hb : b = true) : (a && b) = true := by rw [ha, hb]; rfl
theorem closed3 : laidOutB Tryz.checked.prog = true ∧ mapsRowed Tryz.checked.prog = true ∧ Tryz.checked.prog.plainKeys = true := Go.ClosedOfChecked.closed_of_checked Tryz.checked (by kernel_rfl) (by kernel_rfl) (by kernel_rfl)
theorem j0 : (RX.wf (OpenSpec.ofChange SX)) = true := by kernel_rfl
theorem j1 : (laidOutB PX) = true := closed3.1
theorem j2 : (mapsRowed PX) = true := closed3.2.1
theorem j3 : (FX.params.all (PX.readableRec ·)) = true := by kernel_rfl
theorem j4 : (namedTie PX RX.named SX.vars) = true := by kernel_rfl
theorem j5 : ((RX.stops == [])) = true := by kernel_rfl
theorem j6 : ((PX.stops == [])) = true := by kernel_rfl
theorem j7 : ((RX.knobs == [])) = true := by kernel_rfl
theorem j8 : ((PX.stopKnobs == [])) = true := by kernel_rfl
theorem j9 : ((RX.inPlace == PX.inPlace 13)) = true := by kernel_rfl
theorem j10 : ((RX.unfollowed == PX.unfollowed 13)) = true := by kernel_rfl
theorem j11 : ((RX.recurses == PX.recurses 13)) = true := by kernel_rfl
theorem j12 : ((RX.named == PX.varsNamed 13)) = true := by kernel_rfl
theorem j13 : ((RX.maps == (FX.params.toList ++ SX.plain.varTypes PX).any (PX.mapsRec ·))) = true := by kernel_rfl
theorem j14 : ((RX.ifaces == (FX.params.toList ++ SX.plain.varTypes PX).any (PX.ifacesRec ·))) = true := by kernel_rfl
theorem j15 : ((RX.mapsOut == PX.mapsAmong FX.resultTypes.toList)) = true := by kernel_rfl
theorem j16 : ((RX.loops == (FX.params.toList ++ SX.plain.varTypes PX).any (PX.loopsFrom ·))) = true := by kernel_rfl
theorem j17 : ((RX.wideKeys == (FX.params.toList ++ SX.plain.varTypes PX ++ FX.resultTypes.toList).any (PX.wideKeysFrom ·))) = true := by kernel_rfl
theorem j18 : (SX.vars.all (PX.varReadable ·)) = true := by kernel_rfl
theorem j19 : (FX.resultTypes.all (fun t => PX.readableRec t && decide (t < PX.types.size))) = true := by kernel_rfl
theorem j20 : ((RX.ifacesOut == FX.resultTypes.toList.any (PX.ifacesRec ·))) = true := by kernel_rfl
theorem j21 : ((RX.loopsOut == FX.resultTypes.toList.any (PX.loopsFrom ·))) = true := by kernel_rfl
theorem j22 : ((RX.plainKeys == PX.plainKeys)) = true := by rw [show PX.plainKeys = true from closed3.2.2]; rfl
theorem j23 : (RX.shortTexts.isNone) = true := by kernel_rfl
theorem j24 : (PX.stopsHeard) = true := by kernel_rfl
theorem j25 : (PX.mayEnter) = true := by kernel_rfl
theorem j26 : ((RX.lifted == PX.liftsFinal)) = true := by kernel_rfl
theorem j27 : ((PX.make == some RX.make)) = true := by kernel_rfl
theorem j28 : ((RX.kinds == (if RX.domain.isEmpty then [] else FX.params.toList.map fun t => match PX.underlying t with | some (.int k) => some k | _ => none))) = true := by kernel_rfl
theorem j29 : ((RX.pinned == RX.pinnedBy)) = true := by kernel_rfl
theorem j30 : ((RX.veiled == (FX.params.toList ++ SX.plain.varTypes PX ++ FX.resultTypes.toList).any (PX.veiledRec ·))) = true := by kernel_rfl
theorem j31 : (RX.veiledFits PX FX.params.toList (FX.params.toList ++ SX.plain.varTypes PX ++ FX.resultTypes.toList)) = true := by kernel_rfl
theorem t1 : RX.wfByText (OpenSpec.ofChange SX) = true := by kernel_rfl
theorem t2 : Tryz.pinned.checked.prog.mainIs = some (true, "74da96cf5666e66e9e553023e10792f77cbf593d104dbf3f289c6923f54f5592".toList) := by kernel_rfl
theorem t3 : false = Tryz.pinned.checked.prog.looks [] := by kernel_rfl
theorem t4 : false = RX.goesBy Tryz.pinned.checked.prog := by kernel_rfl
theorem t5 : PX.funcNamed "usher/ushertop.TopDue" = some 13 := by kernel_rfl
theorem t6 : FX.isInstance Tryz.pinned.checked.prog RX.origin RX.targs := of_decide_eq_true (by kernel_rfl)
theorem t7 : FX.isWrapper Tryz.pinned.checked.prog RX.wrapper RX.mainSum := by unfold Func.isWrapper; first | (rw [if_pos (by decide +kernel)]; kernel_rfl) | (rw [if_neg (by decide +kernel)]; exact ⟨rfl, rfl⟩)
theorem joined : joinedFacts PX 13 FX SX RX = true :=
  AX (AX (AX (AX (AX (AX (AX (AX (AX (AX (AX (AX (AX (AX (AX (AX (AX (AX (AX (AX (AX (AX (AX (AX (AX (AX (AX (AX (AX (AX (AX j0 j1) j2) j3) j4) j5) j6) j7) j8) j9) j10) j11) j12) j13) j14) j15) j16) j17) j18) j19) j20) j21) j22) j23) j24) j25) j26) j27) j28) j29) j30) j31
end Go.Proofs.YtalhkllgnlejbaaGreatDoor.topDue
