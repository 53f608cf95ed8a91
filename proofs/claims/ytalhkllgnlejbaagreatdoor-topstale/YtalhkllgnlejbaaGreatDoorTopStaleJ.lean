/-
  TopStale: the closed facts of its row, one by one. No condition.
-/
import Derived.Test.YtalhkllgnlejbaaGreatDoorRows
import Derived.Test.YtalhkllgnlejbaaGreatDoorChecked
import Derived.JoinedOf
import Derived.SevenTiedAt
import Derived.ClosedOfChecked
import Derived.WalkKit
import Derived.KernelRfl
namespace Go.Proofs.YtalhkllgnlejbaaGreatDoor.topStale
set_option maxRecDepth 100000
theorem and_tt {a b : Bool} (ha : a = true) (hb : b = true) : (a && b) = true := by rw [ha, hb]; rfl
theorem closed3 : laidOutB Tryz.checked.prog = true ∧ mapsRowed Tryz.checked.prog = true ∧ Tryz.checked.prog.plainKeys = true := Go.ClosedOfChecked.closed_of_checked Tryz.checked (by kernel_rfl) (by kernel_rfl) (by kernel_rfl)
theorem j0 : (Rows.topStaleRow.wf (OpenSpec.ofChange Rows.topStaleSpec)) = true := by kernel_rfl
theorem j1 : (laidOutB Tryz.prog) = true := closed3.1
theorem j2 : (mapsRowed Tryz.prog) = true := closed3.2.1
theorem j3 : (Tryz.f11.params.all (Tryz.prog.readableRec ·)) = true := by kernel_rfl
theorem j4 : (namedTie Tryz.prog Rows.topStaleRow.named Rows.topStaleSpec.vars) = true := by kernel_rfl
theorem j5 : ((Rows.topStaleRow.stops == [])) = true := by kernel_rfl
theorem j6 : ((Tryz.prog.stops == [])) = true := by kernel_rfl
theorem j7 : ((Rows.topStaleRow.knobs == [])) = true := by kernel_rfl
theorem j8 : ((Tryz.prog.stopKnobs == [])) = true := by kernel_rfl
theorem j9 : ((Rows.topStaleRow.inPlace == Tryz.prog.inPlace 11)) = true := by kernel_rfl
theorem j10 : ((Rows.topStaleRow.unfollowed == Tryz.prog.unfollowed 11)) = true := by kernel_rfl
theorem j11 : ((Rows.topStaleRow.recurses == Tryz.prog.recurses 11)) = true := by kernel_rfl
theorem j12 : ((Rows.topStaleRow.named == Tryz.prog.varsNamed 11)) = true := by kernel_rfl
theorem j13 : ((Rows.topStaleRow.maps == (Tryz.f11.params.toList ++ Rows.topStaleSpec.plain.varTypes Tryz.prog).any (Tryz.prog.mapsRec ·))) = true := by kernel_rfl
theorem j14 : ((Rows.topStaleRow.ifaces == (Tryz.f11.params.toList ++ Rows.topStaleSpec.plain.varTypes Tryz.prog).any (Tryz.prog.ifacesRec ·))) = true := by kernel_rfl
theorem j15 : ((Rows.topStaleRow.mapsOut == Tryz.prog.mapsAmong Tryz.f11.resultTypes.toList)) = true := by kernel_rfl
theorem j16 : ((Rows.topStaleRow.loops == (Tryz.f11.params.toList ++ Rows.topStaleSpec.plain.varTypes Tryz.prog).any (Tryz.prog.loopsFrom ·))) = true := by kernel_rfl
theorem j17 : ((Rows.topStaleRow.wideKeys == (Tryz.f11.params.toList ++ Rows.topStaleSpec.plain.varTypes Tryz.prog ++ Tryz.f11.resultTypes.toList).any (Tryz.prog.wideKeysFrom ·))) = true := by kernel_rfl
theorem j18 : (Rows.topStaleSpec.vars.all (Tryz.prog.varReadable ·)) = true := by kernel_rfl
theorem j19 : (Tryz.f11.resultTypes.all (fun t => Tryz.prog.readableRec t && decide (t < Tryz.prog.types.size))) = true := by kernel_rfl
theorem j20 : ((Rows.topStaleRow.ifacesOut == Tryz.f11.resultTypes.toList.any (Tryz.prog.ifacesRec ·))) = true := by kernel_rfl
theorem j21 : ((Rows.topStaleRow.loopsOut == Tryz.f11.resultTypes.toList.any (Tryz.prog.loopsFrom ·))) = true := by kernel_rfl
theorem j22 : ((Rows.topStaleRow.plainKeys == Tryz.prog.plainKeys)) = true := by rw [show Tryz.prog.plainKeys = true from closed3.2.2]; rfl
theorem j23 : (Rows.topStaleRow.shortTexts.isNone) = true := by kernel_rfl
theorem j24 : (Tryz.prog.stopsHeard) = true := by kernel_rfl
theorem j25 : (Tryz.prog.mayEnter) = true := by kernel_rfl
theorem j26 : ((Rows.topStaleRow.lifted == Tryz.prog.liftsFinal)) = true := by kernel_rfl
theorem j27 : ((Tryz.prog.make == some Rows.topStaleRow.make)) = true := by kernel_rfl
theorem j28 : ((Rows.topStaleRow.kinds == (if Rows.topStaleRow.domain.isEmpty then [] else Tryz.f11.params.toList.map fun t => match Tryz.prog.underlying t with | some (.int k) => some k | _ => none))) = true := by kernel_rfl
theorem j29 : ((Rows.topStaleRow.pinned == Rows.topStaleRow.pinnedBy)) = true := by kernel_rfl
theorem j30 : ((Rows.topStaleRow.veiled == (Tryz.f11.params.toList ++ Rows.topStaleSpec.plain.varTypes Tryz.prog ++ Tryz.f11.resultTypes.toList).any (Tryz.prog.veiledRec ·))) = true := by kernel_rfl
theorem j31 : (Rows.topStaleRow.veiledFits Tryz.prog Tryz.f11.params.toList (Tryz.f11.params.toList ++ Rows.topStaleSpec.plain.varTypes Tryz.prog ++ Tryz.f11.resultTypes.toList)) = true := by kernel_rfl
theorem t1 : Rows.topStaleRow.wfByText (OpenSpec.ofChange Rows.topStaleSpec) = true := by kernel_rfl
theorem t2 : Tryz.pinned.checked.prog.mainIs = some (true, "74da96cf5666e66e9e553023e10792f77cbf593d104dbf3f289c6923f54f5592".toList) := by kernel_rfl
theorem t3 : false = Tryz.pinned.checked.prog.looks [] := by kernel_rfl
theorem t4 : false = Rows.topStaleRow.goesBy Tryz.pinned.checked.prog := by kernel_rfl
theorem t5 : Tryz.prog.funcNamed "usher/ushertop.TopStale" = some 11 := by kernel_rfl
theorem t6 : Tryz.f11.isInstance Tryz.pinned.checked.prog Rows.topStaleRow.origin Rows.topStaleRow.targs := of_decide_eq_true (by kernel_rfl)
theorem t7 : Tryz.f11.isWrapper Tryz.pinned.checked.prog Rows.topStaleRow.wrapper Rows.topStaleRow.mainSum := by unfold Func.isWrapper; first | (rw [if_pos (by decide +kernel)]; kernel_rfl) | (rw [if_neg (by decide +kernel)]; exact ⟨rfl, rfl⟩)
theorem joined : joinedFacts Tryz.prog 11 Tryz.f11 Rows.topStaleSpec Rows.topStaleRow = true :=
  and_tt (and_tt (and_tt (and_tt (and_tt (and_tt (and_tt (and_tt (and_tt (and_tt (and_tt (and_tt (and_tt (and_tt (and_tt (and_tt (and_tt (and_tt (and_tt (and_tt (and_tt (and_tt (and_tt (and_tt (and_tt (and_tt (and_tt (and_tt (and_tt (and_tt (and_tt j0 j1) j2) j3) j4) j5) j6) j7) j8) j9) j10) j11) j12) j13) j14) j15) j16) j17) j18) j19) j20) j21) j22) j23) j24) j25) j26) j27) j28) j29) j30) j31
end Go.Proofs.YtalhkllgnlejbaaGreatDoor.topStale
