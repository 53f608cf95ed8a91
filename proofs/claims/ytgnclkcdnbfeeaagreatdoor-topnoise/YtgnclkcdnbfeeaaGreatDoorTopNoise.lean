/-
  TopNoise holds: for every input it returns true, each argument as before. Condition: the laid table of blocks (the card ties it).
-/
import Derived.Test.YtgnclkcdnbfeeaaGreatDoorRows
import Derived.Test.YtgnclkcdnbfeeaaGreatDoorCards
import Derived.Test.YtgnclkcdnbfeeaaGreatDoorTie
import Derived.Test.YtgnclkcdnbfeeaaGreatDoorETopNoise
import Derived.Test.YtgnclkcdnbfeeaaGreatDoorTopNoiseJ
open Go.Proofs.Tryz renaming prog->X0,f4->X2
open Go.Proofs.YtgnclkcdnbfeeaaGreatDoor.Rows renaming topNoiseRow->X3,topNoiseSpec->X4
namespace Go.Proofs.YtgnclkcdnbfeeaaGreatDoor.topNoise
open Go.ChangeShapes Go.WideShapes Go.ChangeAt Go.RowKit
open Go.Proofs.YtgnclkcdnbfeeaaGreatDoor.Q
set_option linter.unusedVariables false

theorem own : ownKnob X0.godebug = none:=by kernel_rfl
theorem laidOut : laidOutB X0 = true:=closed3.1

set_option maxRecDepth 100000 in
theorem lifted (os : Os) (started : os.Started) (H : Type) (enc : TypeId × Value → H) :
    ReturnsInHanded {} Tryz.checked os 4 .any (fun w args=>(X4.pre enc X0 X2 [] false w args ∧ laidMetH X0 anA w) ∧ sizedMet enc X0 X2 (OpenSpec.ofChange X4) false w args) (X4.post enc X0 X2 false true false false):=by
  refine returnsInHanded_of_change_and (C:=Tryz.checked) (X:=fun w _=>laidMetH X0 anA w) (fun _ _ _ hh h=>h.of_heap hh) own started (by kernel_rfl) Tryz.func4
    (ChangeSpec.witness_shaped (enc:=enc) (C:=Tryz.checked) (os:=os) (X:=fun w _=>laidMetH X0 anA w) false (World.doorLaid X0 400 os) #[.agg (.replicate 16 (.int .i64 0)),.slice none 0 0,.slice none 0 0] 8 rfl (World.shaped_of_RefB (by kernel_rfl) (by kernel_rfl)) (by kernel_rfl) (by kernel_rfl) (by kernel_rfl) (awR os _)) ?_
  intro W base args ds gs before hval0 hW _ hsz0 hL _
  have hB:=awQ hL
  have hval : ∀ (j : Nat) t v,X2.params[j]? = some t → args[j]? = some v → Value.okWide X0 W .any base t v:=hval0
  have hW':=hW
  obtain ⟨p,q,hA0,hV,rfl,hfz,hnd⟩:=hW
  have hA : DataW.TrodAll enc X0 W 0 (fun _=>true) true X2.params.toList args.toList ds p:=hA0
  have hsz : (DataW.weightsEach X0 (X2.params.toList ++ X4.plain.varTypes X0) (ds ++ gs)).all (· ≤ reachBytes) = true:=hsz0
  rw [Tryz.params4] at hA hval hsz
  obtain ⟨v0,vs0,d0,ds0,p0,q0,hargs,rfl,rfl,h0,r0⟩:=trodAll_cons hA
  obtain ⟨v1,vs1,d1,ds1,p1,q1,rfl,rfl,rfl,h1,r1⟩:=trodAll_cons r0
  obtain ⟨v2,vs2,d2,ds2,p2,q2,rfl,rfl,rfl,h2,r2⟩:=trodAll_cons r1
  obtain ⟨rfl,rfl,rfl⟩:=trodAll_nil r2
  obtain rfl : args = #[v0,v1,v2]:=by cases args; simp_all
  obtain ⟨rfl,rfl⟩:=trodVars_none hV
  have k0:=h0
  have lt0 : ∀ x ∈ p0,x.block < W.heap.size:=by obtain ⟨m,hm⟩:=k0; exact DataW.trod_lt m _ _ _ hm
  obtain ⟨f0,rfl,wf0⟩:=awT Tryz.underlying24 (by kernel_rfl) (by kernel_rfl) (hval 0 24 v0 rfl rfl) h0
  have k1:=h1
  have lt1 : ∀ x ∈ p1,x.block < W.heap.size:=by obtain ⟨m,hm⟩:=k1; exact DataW.trod_lt m _ _ _ hm
  obtain ⟨x1,len1,cap1,rfl⟩:=okWide_slice Tryz.underlying25 (hval 1 25 v1 rfl rfl)
  obtain ⟨fu1,hf1⟩:=h1
  obtain ⟨l1,p1,k1,e1,at1,wf1⟩:=awS Tryz.underlying25 Tryz.underlying93 (by kernel_rfl) rfl (by kernel_rfl) hf1
  injection e1 with e1a e1b e1c
  subst e1a e1b e1c
  have k2:=h2
  have lt2 : ∀ x ∈ p2,x.block < W.heap.size:=by obtain ⟨m,hm⟩:=k2; exact DataW.trod_lt m _ _ _ hm
  obtain ⟨x2,len2,cap2,rfl⟩:=okWide_slice Tryz.underlying74 (hval 2 74 v2 rfl rfl)
  obtain ⟨fu2,hf2⟩:=h2
  obtain ⟨l2,p2,k2,e2,at2,wf2⟩:=aBv hf2 (fun n hn=>by simpa using List.all_eq_true.1 hsz _ (DataW.weights_mem_each (j:=2) rfl rfl n hn))
  injection e2 with e2a e2b e2c
  subst e2a e2b e2c
  clear hA0 hval0
  refine (aBO f0 wf0 l1 wf1 (hrow:=at1) l2 (hN:=at2) (hNf:=wf2) (hg0:=aBe hL) (w:=W) (hB:=hB)).mono fun e W' ⟨he,bel⟩=>?_
  subst he
  exact ⟨_,rfl,_,_,_,[],_,[],hW',trodAll_mk1 (shut_bool Tryz.underlying4 _),(trodAll_cons_mk (Below.trod laidOut (by kernel_rfl) (of_decide_eq_true (by kernel_rfl)) k0 bel lt0) (trodAll_cons_mk (Below.trod laidOut (by kernel_rfl) (of_decide_eq_true (by kernel_rfl)) k1 bel lt1) (trodAll_cons_mk (Below.trod laidOut (by kernel_rfl) (of_decide_eq_true (by kernel_rfl)) k2 bel lt2) trodAll_mk0))),rfl,bel.frame _,fun h=>by cases h⟩

theorem over : X3.holds Tryz.pinned (OpenSpec.ofChange X4) :=
  OpenClaim.holds_of_wide 4 X2 rfl rfl rfl rfl rfl rfl rfl ⟨rfl,rfl,rfl,rfl,rfl⟩ rfl rfl rfl rfl rfl t5 Tryz.func4 joined t6 t7
    (fun os started H enc _=>lifted os started H enc)

theorem proved : Rows.TopNoiseCardSaid :=
  Claim7.holds_tied_plain_at .later [] [.handle,.data] true (true,"5f514c0b007e143c650b309fe76263c946e64f994df7fe270d5a2e0b1b47d8ba") true
    over (fun _ h=>by cases h) t1 (fun _ h=>by cases h) topNoise_row_tie rfl ⟨rfl,rfl⟩ t2 rfl
    (fun f fn hf hfn=>by
      obtain rfl : f = 4:=Option.some.inj (t5.symm.trans hf) |>.symm
      obtain rfl : fn = X2:=(Option.some.inj (Tryz.func4.symm.trans hfn)).symm
      exact ⟨t3,fun j t ht=>by
        rw [Tryz.params4] at ht
        exact (show X0.wantsStandIn t = false by simpa using List.all_eq_true.1 (show ([24,25,74].all fun u=>!X0.wantsStandIn u) = true by kernel_rfl) t (by simpa using Array.mem_of_getElem? ht))⟩)
    t4
#print axioms proved
end Go.Proofs.YtgnclkcdnbfeeaaGreatDoor.topNoise
