/-
  TopFrames: the closed facts of its row, one by one. No condition.
-/
import Derived.Test.YtbdpocjfnnojbaaGreatDoorRows
import Derived.Test.YtbdpocjfnnojbaaGreatDoorChecked
import Derived.JoinedOf
import Derived.SevenTiedAt
import Derived.ClosedOfChecked
open Go.Proofs.Tryz renaming prog->X0,f3->X2
open Go.Proofs.YtbdpocjfnnojbaaGreatDoor.Rows renaming topFramesRow->X3,topFramesSpec->X4
namespace Go.Proofs.YtbdpocjfnnojbaaGreatDoor.topFrames
set_option maxRecDepth 100000
theorem X8 {a b : Bool} (ha : a = true) (hb : b = true) : (a && b)=true:=by rw [ha,hb]; rfl
theorem closed3:laidOutB Tryz.checked.prog = true ∧ mapsRowed Tryz.checked.prog = true ∧ Tryz.checked.prog.plainKeys = true:=Go.ClosedOfChecked.closed_of_checked Tryz.checked (by kernel_rfl) (by kernel_rfl) (by kernel_rfl)
theorem j0:(X3.wf (OpenSpec.ofChange X4))=true:=by kernel_rfl
theorem j1:(laidOutB X0) = true:=closed3.1
theorem j2:(mapsRowed X0) = true:=closed3.2.1
theorem j3:(X2.params.all (X0.readableRec ·))=true:=by kernel_rfl
theorem j4:(namedTie X0 X3.named X4.vars)=true:=by kernel_rfl
theorem j5:(X3.stops==[])=true:=by kernel_rfl
theorem j6:(X0.stops==[])=true:=by kernel_rfl
theorem j7:(X3.knobs==[])=true:=by kernel_rfl
theorem j8:(X0.stopKnobs==[])=true:=by kernel_rfl
theorem j9:(X3.inPlace==X0.inPlace 3)=true:=by kernel_rfl
theorem j10:(X3.unfollowed==X0.unfollowed 3)=true:=by kernel_rfl
theorem j11:(X3.recurses==X0.recurses 3)=true:=by kernel_rfl
theorem j12:(X3.named==X0.varsNamed 3)=true:=by kernel_rfl
theorem j13:(X3.maps==(X2.params.toList ++ X4.plain.varTypes X0).any (X0.mapsRec ·))=true:=by kernel_rfl
theorem j14:(X3.ifaces==(X2.params.toList ++ X4.plain.varTypes X0).any (X0.ifacesRec ·))=true:=by kernel_rfl
theorem j15:(X3.mapsOut==X0.mapsAmong X2.resultTypes.toList)=true:=by kernel_rfl
theorem j16:(X3.loops==(X2.params.toList ++ X4.plain.varTypes X0).any (X0.loopsFrom ·))=true:=by kernel_rfl
theorem j17:(X3.wideKeys==(X2.params.toList ++ X4.plain.varTypes X0 ++ X2.resultTypes.toList).any (X0.wideKeysFrom ·))=true:=by kernel_rfl
theorem j18:(X4.vars.all (X0.varReadable ·))=true:=by kernel_rfl
theorem j19:(X2.resultTypes.all (fun t=>X0.readableRec t && decide (t < X0.types.size)))=true:=by kernel_rfl
theorem j20:(X3.ifacesOut==X2.resultTypes.toList.any (X0.ifacesRec ·))=true:=by kernel_rfl
theorem j21:(X3.loopsOut==X2.resultTypes.toList.any (X0.loopsFrom ·))=true:=by kernel_rfl
theorem j22:(X3.plainKeys==X0.plainKeys)=true:=by rw [show X0.plainKeys = true from closed3.2.2]; rfl
theorem j23:(X3.shortTexts.isNone)=true:=by kernel_rfl
theorem j24:(X0.stopsHeard)=true:=by kernel_rfl
theorem j25:(X0.mayEnter)=true:=by kernel_rfl
theorem j26:(X3.lifted==X0.liftsFinal)=true:=by kernel_rfl
theorem j27:(X0.make==some X3.make)=true:=by kernel_rfl
theorem j28:(X3.kinds==(if X3.domain.isEmpty then [] else X2.params.toList.map fun t=>match X0.underlying t with | some (.int k)=>some k | _=>none))=true:=by kernel_rfl
theorem j29:(X3.pinned==X3.pinnedBy)=true:=by kernel_rfl
theorem j30:(X3.veiled==(X2.params.toList ++ X4.plain.varTypes X0 ++ X2.resultTypes.toList).any (X0.veiledRec ·))=true:=by kernel_rfl
theorem j31:(X3.veiledFits X0 X2.params.toList (X2.params.toList ++ X4.plain.varTypes X0 ++ X2.resultTypes.toList))=true:=by kernel_rfl
theorem t1:X3.wfByText (OpenSpec.ofChange X4)=true:=by kernel_rfl
theorem t2:Tryz.pinned.checked.prog.mainIs = some (true,"a9afe9851c65fc082fc9fa63c746ddb8016db933a19af078b46e166de9c363c2".toList):=by kernel_rfl
theorem t3:true = Tryz.pinned.checked.prog.looks []:=by kernel_rfl
theorem t4:false = X3.goesBy Tryz.pinned.checked.prog:=by kernel_rfl
theorem t5:X0.funcNamed "usher/ushertop.TopFrames" = some 3:=by kernel_rfl
theorem t6:X2.isInstance Tryz.pinned.checked.prog X3.origin X3.targs:=of_decide_eq_true (by kernel_rfl)
theorem t7:X2.isWrapper Tryz.pinned.checked.prog X3.wrapper X3.mainSum:=by unfold Func.isWrapper; first | (rw [if_pos (by decide +kernel)]; kernel_rfl) | (rw [if_neg (by decide +kernel)]; exact ⟨rfl,rfl⟩)
theorem joined:joinedFacts X0 3 X2 X4 X3 = true :=
  X8 (X8 (X8 (X8 (X8 (X8 (X8 (X8 (X8 (X8 (X8 (X8 (X8 (X8 (X8 (X8 (X8 (X8 (X8 (X8 (X8 (X8 (X8 (X8 (X8 (X8 (X8 (X8 (X8 (X8 (X8 j0 j1) j2) j3) j4) j5) j6) j7) j8) j9) j10) j11) j12) j13) j14) j15) j16) j17) j18) j19) j20) j21) j22) j23) j24) j25) j26) j27) j28) j29) j30) j31
end Go.Proofs.YtbdpocjfnnojbaaGreatDoor.topFrames
