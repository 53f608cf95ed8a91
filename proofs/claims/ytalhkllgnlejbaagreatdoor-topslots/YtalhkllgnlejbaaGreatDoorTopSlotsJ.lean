/-
  TopSlots: the closed facts of its row, one by one. No condition.
-/
import Derived.Test.YtalhkllgnlejbaaGreatDoorRows
import Derived.Test.YtalhkllgnlejbaaGreatDoorChecked
import Derived.JoinedOf
import Derived.SevenTiedAt
import Derived.ClosedOfChecked
import Derived.WalkKit
import Derived.KernelRfl
namespace Go.Proofs.YtalhkllgnlejbaaGreatDoor.topSlots
set_option maxRecDepth 100000
theorem and_tt {a b : Bool} (ha : a = true) (hb : b = true) : (a && b) = true := by rw [ha, hb]; rfl
theorem closed3 : laidOutB Tryz.checked.prog = true ∧ mapsRowed Tryz.checked.prog = true ∧ Tryz.checked.prog.plainKeys = true := Go.ClosedOfChecked.closed_of_checked Tryz.checked (by kernel_rfl) (by kernel_rfl) (by kernel_rfl)
theorem j0 : (Rows.topSlotsRow.wf (OpenSpec.ofChange Rows.topSlotsSpec)) = true := by kernel_rfl
theorem j1 : (laidOutB Tryz.prog) = true := closed3.1
theorem j2 : (mapsRowed Tryz.prog) = true := closed3.2.1
theorem j3 : (Tryz.f20.params.all (Tryz.prog.readableRec ·)) = true := by kernel_rfl
theorem j4 : (namedTie Tryz.prog Rows.topSlotsRow.named Rows.topSlotsSpec.vars) = true := by kernel_rfl
theorem j5 : ((Rows.topSlotsRow.stops == [])) = true := by kernel_rfl
theorem j6 : ((Tryz.prog.stops == [])) = true := by kernel_rfl
theorem j7 : ((Rows.topSlotsRow.knobs == [])) = true := by kernel_rfl
theorem j8 : ((Tryz.prog.stopKnobs == [])) = true := by kernel_rfl
theorem j9 : ((Rows.topSlotsRow.inPlace == Tryz.prog.inPlace 20)) = true := by kernel_rfl
theorem j10 : ((Rows.topSlotsRow.unfollowed == Tryz.prog.unfollowed 20)) = true := by kernel_rfl
theorem j11 : ((Rows.topSlotsRow.recurses == Tryz.prog.recurses 20)) = true := by kernel_rfl
theorem j12 : ((Rows.topSlotsRow.named == Tryz.prog.varsNamed 20)) = true := by kernel_rfl
theorem j13 : ((Rows.topSlotsRow.maps == (Tryz.f20.params.toList ++ Rows.topSlotsSpec.plain.varTypes Tryz.prog).any (Tryz.prog.mapsRec ·))) = true := by kernel_rfl
theorem j14 : ((Rows.topSlotsRow.ifaces == (Tryz.f20.params.toList ++ Rows.topSlotsSpec.plain.varTypes Tryz.prog).any (Tryz.prog.ifacesRec ·))) = true := by kernel_rfl
theorem j15 : ((Rows.topSlotsRow.mapsOut == Tryz.prog.mapsAmong Tryz.f20.resultTypes.toList)) = true := by kernel_rfl
theorem j16 : ((Rows.topSlotsRow.loops == (Tryz.f20.params.toList ++ Rows.topSlotsSpec.plain.varTypes Tryz.prog).any (Tryz.prog.loopsFrom ·))) = true := by kernel_rfl
theorem j17 : ((Rows.topSlotsRow.wideKeys == (Tryz.f20.params.toList ++ Rows.topSlotsSpec.plain.varTypes Tryz.prog ++ Tryz.f20.resultTypes.toList).any (Tryz.prog.wideKeysFrom ·))) = true := by kernel_rfl
theorem j18 : (Rows.topSlotsSpec.vars.all (Tryz.prog.varReadable ·)) = true := by kernel_rfl
theorem j19 : (Tryz.f20.resultTypes.all (fun t => Tryz.prog.readableRec t && decide (t < Tryz.prog.types.size))) = true := by kernel_rfl
theorem j20 : ((Rows.topSlotsRow.ifacesOut == Tryz.f20.resultTypes.toList.any (Tryz.prog.ifacesRec ·))) = true := by kernel_rfl
theorem j21 : ((Rows.topSlotsRow.loopsOut == Tryz.f20.resultTypes.toList.any (Tryz.prog.loopsFrom ·))) = true := by kernel_rfl
theorem j22 : ((Rows.topSlotsRow.plainKeys == Tryz.prog.plainKeys)) = true := by rw [show Tryz.prog.plainKeys = true from closed3.2.2]; rfl
theorem j23 : (Rows.topSlotsRow.shortTexts.isNone) = true := by kernel_rfl
theorem j24 : (Tryz.prog.stopsHeard) = true := by kernel_rfl
theorem j25 : (Tryz.prog.mayEnter) = true := by kernel_rfl
theorem j26 : ((Rows.topSlotsRow.lifted == Tryz.prog.liftsFinal)) = true := by kernel_rfl
theorem j27 : ((Tryz.prog.make == some Rows.topSlotsRow.make)) = true := by kernel_rfl
theorem j28 : ((Rows.topSlotsRow.kinds == (if Rows.topSlotsRow.domain.isEmpty then [] else Tryz.f20.params.toList.map fun t => match Tryz.prog.underlying t with | some (.int k) => some k | _ => none))) = true := by kernel_rfl
theorem j29 : ((Rows.topSlotsRow.pinned == Rows.topSlotsRow.pinnedBy)) = true := by kernel_rfl
theorem j30 : ((Rows.topSlotsRow.veiled == (Tryz.f20.params.toList ++ Rows.topSlotsSpec.plain.varTypes Tryz.prog ++ Tryz.f20.resultTypes.toList).any (Tryz.prog.veiledRec ·))) = true := by kernel_rfl
theorem j31 : (Rows.topSlotsRow.veiledFits Tryz.prog Tryz.f20.params.toList (Tryz.f20.params.toList ++ Rows.topSlotsSpec.plain.varTypes Tryz.prog ++ Tryz.f20.resultTypes.toList)) = true := by kernel_rfl
theorem t1 : Rows.topSlotsRow.wfByText (OpenSpec.ofChange Rows.topSlotsSpec) = true := by kernel_rfl
theorem t2 : Tryz.pinned.checked.prog.mainIs = some (true, "74da96cf5666e66e9e553023e10792f77cbf593d104dbf3f289c6923f54f5592".toList) := by kernel_rfl
theorem t3 : false = Tryz.pinned.checked.prog.looks [] := by kernel_rfl
theorem t4 : false = Rows.topSlotsRow.goesBy Tryz.pinned.checked.prog := by kernel_rfl
theorem t5 : Tryz.prog.funcNamed "usher/ushertop.TopSlots" = some 20 := by kernel_rfl
theorem t6 : Tryz.f20.isInstance Tryz.pinned.checked.prog Rows.topSlotsRow.origin Rows.topSlotsRow.targs := of_decide_eq_true (by kernel_rfl)
theorem t7 : Tryz.f20.isWrapper Tryz.pinned.checked.prog Rows.topSlotsRow.wrapper Rows.topSlotsRow.mainSum := by unfold Func.isWrapper; first | (rw [if_pos (by decide +kernel)]; kernel_rfl) | (rw [if_neg (by decide +kernel)]; exact ⟨rfl, rfl⟩)
theorem joined : joinedFacts Tryz.prog 20 Tryz.f20 Rows.topSlotsSpec Rows.topSlotsRow = true :=
  and_tt (and_tt (and_tt (and_tt (and_tt (and_tt (and_tt (and_tt (and_tt (and_tt (and_tt (and_tt (and_tt (and_tt (and_tt (and_tt (and_tt (and_tt (and_tt (and_tt (and_tt (and_tt (and_tt (and_tt (and_tt (and_tt (and_tt (and_tt (and_tt (and_tt (and_tt j0 j1) j2) j3) j4) j5) j6) j7) j8) j9) j10) j11) j12) j13) j14) j15) j16) j17) j18) j19) j20) j21) j22) j23) j24) j25) j26) j27) j28) j29) j30) j31
end Go.Proofs.YtalhkllgnlejbaaGreatDoor.topSlots
