/-
  TopFrames holds: for every input it returns true, each argument as before. Condition: the listed variables as laid (the card ties them).
-/
import Derived.Test.YtbdpocjfnnojbaaGreatDoorRows
import Derived.Test.YtbdpocjfnnojbaaGreatDoorCards
import Derived.Test.YtbdpocjfnnojbaaGreatDoorTie
import Derived.Test.YtbdpocjfnnojbaaGreatDoorETopFrames
import Derived.Test.YtbdpocjfnnojbaaGreatDoorTopFramesJ
open Go.Proofs.Tryz renaming prog->X0,f3->X2
open Go.Proofs.YtbdpocjfnnojbaaGreatDoor.Rows renaming topFramesRow->X3,topFramesSpec->X4
namespace Go.Proofs.YtbdpocjfnnojbaaGreatDoor.topFrames
open Go.ChangeShapes Go.WideShapes Go.ChangeAt Go.RowKit
open Go.Proofs.YtbdpocjfnnojbaaGreatDoor.Q
set_option linter.unusedVariables false

theorem own : ownKnob X0.godebug = none:=by kernel_rfl
theorem laidOut : laidOutB X0 = true:=closed3.1

set_option maxRecDepth 100000 in
theorem lifted (os : Os) (started : os.Started) (H : Type) (enc : TypeId × Value → H) :
    ReturnsInHanded {} Tryz.checked os 3 .any (fun w args=>(X4.pre enc X0 X2 [] false w args ∧ laidMetH X0 anA w) ∧ sizedMet enc X0 X2 (OpenSpec.ofChange X4) false w args) (X4.post enc X0 X2 false true false false):=by
  refine returnsInHanded_of_calls own started (by kernel_rfl)
    (ChangeSpec.witness_shaped (enc:=enc) (C:=Tryz.checked) (os:=os) (X:=fun w _=>laidMetH X0 anA w) false ((World.doorLaid X0 400 os).layVars X0 aC5) #[.agg (.replicate 16 (.int .i64 0)),.slice none 0 0] 8 (World.layVars_os _ _ _) (World.shaped_of_ZipB (by kernel_rfl) (by kernel_rfl)) (by kernel_rfl) (by kernel_rfl) (by kernel_rfl) (awR os _)) ?_
  intro w tape i _ hsh _ hok hpre _
  obtain ⟨_,_,_,fn,hfn,_,_,_,_,hval⟩:=hok
  obtain rfl : fn = X2:=Option.some.inj (hfn.symm.trans Tryz.func3)
  obtain ⟨⟨⟨ds,gs,before,hw,_⟩,hx⟩,hz⟩:=hpre
  have hW:=DataW.Whole.of_heap (w':=w.forCall tape i) (by rfl) hw
  obtain ⟨hB,hG⟩:=aCX (hx.of_heap (by rfl)) hsh
  refine (show Calls X0 3 i.args (w.forCall tape i) fun e W'=>∃ v,e = .returned v ∧ X4.post enc X0 X2 false true false false (w.forCall tape i) i.args v W' from ?_).mono fun e W' ⟨v,he,hp⟩=>by subst he; exact ChangeSpec.post_blind hp
  generalize w.forCall tape i = W at *
  generalize i.args = args at *
  have hW':=hW
  obtain ⟨p,q,hA0,hV,rfl,hfz,hnd⟩:=hW
  have hA : DataW.TrodAll enc X0 W 0 (fun _=>true) true X2.params.toList args.toList ds p:=hA0
  rw [Tryz.params3] at hA hval
  obtain ⟨v0,vs0,d0,ds0,p0,q0,hargs,rfl,rfl,h0,r0⟩:=trodAll_cons hA
  obtain ⟨v1,vs1,d1,ds1,p1,q1,rfl,rfl,rfl,h1,r1⟩:=trodAll_cons r0
  obtain ⟨rfl,rfl,rfl⟩:=trodAll_nil r1
  obtain rfl : args = #[v0,v1]:=by cases args; simp_all
  obtain ⟨rfl,rfl⟩:=trodVars_none hV
  have k0:=h0
  have lt0 : ∀ x ∈ p0,x.block < W.heap.size:=by obtain ⟨m,hm⟩:=k0; exact DataW.trod_lt m _ _ _ hm
  obtain ⟨f0,rfl,wf0⟩:=awT Tryz.underlying24 (by kernel_rfl) (by kernel_rfl) (hval 0 24 v0 rfl rfl) h0
  have k1:=h1
  have lt1 : ∀ x ∈ p1,x.block < W.heap.size:=by obtain ⟨m,hm⟩:=k1; exact DataW.trod_lt m _ _ _ hm
  obtain ⟨x1,len1,cap1,rfl⟩:=okWide_slice Tryz.underlying25 (hval 1 25 v1 rfl rfl)
  obtain ⟨fu1,hf1⟩:=h1
  obtain ⟨l1,p1,k1,e1,at1,wf1⟩:=awS Tryz.underlying25 Tryz.underlying85 (by kernel_rfl) rfl (by kernel_rfl) hf1
  injection e1 with e1a e1b e1c
  subst e1a e1b e1c
  clear hA0
  refine (aDk f0 wf0 l1 wf1 (hrow:=at1) (w:=W) (hB:=hB) (hG:=hG)).mono fun e W' ⟨he,bel⟩=>?_
  subst he
  exact ⟨_,rfl,_,_,_,[],_,[],hW',trodAll_mk1 (shut_bool Tryz.underlying4 _),(trodAll_cons_mk (Below.trod laidOut (by kernel_rfl) (of_decide_eq_true (by kernel_rfl)) k0 bel lt0) (trodAll_cons_mk (Below.trod laidOut (by kernel_rfl) (of_decide_eq_true (by kernel_rfl)) k1 bel lt1) trodAll_mk0)),rfl,bel.frame _,fun h=>by cases h⟩

theorem over : X3.holds Tryz.pinned (OpenSpec.ofChange X4) :=
  OpenClaim.holds_of_wide 3 X2 rfl rfl rfl rfl rfl rfl rfl ⟨rfl,rfl,rfl,rfl,rfl⟩ rfl rfl rfl rfl rfl t5 Tryz.func3 joined t6 t7
    (fun os started H enc _=>lifted os started H enc)

theorem proved : Rows.TopFramesCardSaid :=
  Claim7.holds_tied_plain_at .later [] [.data,.data,.data,.data,.handle,.sentinel,.sentinel,.data,.data,.pinned] true (true,"a9afe9851c65fc082fc9fa63c746ddb8016db933a19af078b46e166de9c363c2") true
    over (fun _ h=>by cases h) t1 (fun _ h=>by cases h) topFrames_row_tie rfl ⟨rfl,rfl⟩ t2 rfl
    (fun f fn hf hfn=>by
      obtain rfl : f = 3:=Option.some.inj (t5.symm.trans hf) |>.symm
      obtain rfl : fn = X2:=(Option.some.inj (Tryz.func3.symm.trans hfn)).symm
      exact ⟨t3,fun j t ht=>by
        rw [Tryz.params3] at ht
        exact (show X0.wantsStandIn t = false by simpa using List.all_eq_true.1 (show ([24,25].all fun u=>!X0.wantsStandIn u) = true by kernel_rfl) t (by simpa using Array.mem_of_getElem? ht))⟩)
    t4
#print axioms proved
end Go.Proofs.YtbdpocjfnnojbaaGreatDoor.topFrames
