/-
  TopHandles: what its walk leans on besides the contracts of core. Conditions: as each theorem says.
-/
import Derived.Test.YtalhkllgnlejbaaGreatDoorQ20
open Bool renaming and_eq_true->Po,false->Nb,true->Nw
open Go renaming Addr->Oc,Calls->Ni,Value->M7,World->MO,heap_alloc_new->M1,wpList_load_mid->O3,wpQuiet_nil->Oy
open Go.Calls renaming mono->Nd
open Go.Ending renaming returned->MN
open Go.IntKind renaming i64->ME
open Go.Lit renaming int->N6
open Go.Obj renaming cells->MP
open Go.Operand renaming tmp->O6
open Go.Proofs.Tryz renaming prog->MK,underlying24->Ty
open Go.RowKit renaming Below->MQ,Hid->M6
open Go.RowKit.Below renaming refl->MY
open Go.Value renaming agg->Ny,bool->M3,int->MF,slice->MG
open List renaming append_nil->OG
open Nat renaming zero_le->Nx
open Option renaming none->MH,some->MI
open Or renaming inl->Nt,inr->NF
open Prod renaming ext->Q8
namespace Go.Proofs.YtalhkllgnlejbaaGreatDoor.Q
set_option linter.unusedVariables false
set_option linter.unusedSimpArgs false
set_option maxHeartbeats 16000000
set_option maxRecDepth 100000
open Go.RowKit
attribute [local go_sem ↓] Go.wp_at_zero Go.wp_at_succ
section
variable {A:Gt}{c:Cf}{P:Py}
theorem Rn.IW(h:Rn A c P):P.giv.Pairwise (fun a b=>a≠b):=by
 refine(h.Mw (J:=fun P=>P.giv.Pairwise (fun a b=>a≠b)/\∀x∈P.giv,∃k:Nat,x.1=k/\x.2<JK (P.last.tab.getD k JT)) ⟨List.Pairwise.nil,fun x hx=>by cases hx⟩ fun Q e hQ he hl hJ=>?_).1;have hn:=hQ.runs.now;rcases Lc hQ.runs.wm hQ.runs.out (D5 he) (fun _=>by omega)with⟨hf,hk⟩|⟨k,_,hk,ho,hp⟩
 ·have hg:JH (iG Q.last e).out=[]:=by
   unfold JH;rw[List.filter_eq_nil_iff.2 (fun o ho=>by simpa using hk o ho)];rfl
  have e1:(Q.step e).giv=Q.giv:=by show Q.giv++JH (iG Q.last e).out=_;rw[hg,OG]
  rw[e1];refine⟨hJ.1,fun x hx=>?_⟩;obtain⟨k,q1,q2⟩:=hJ.2 x hx;exact⟨k,q1,by have:=hf k;show x.2<JK ((iG Q.last e).tab.getD k JT);omega⟩
 ·have hg:JH (iG Q.last e).out=[((k:Int),JK (Q.last.tab.getD k JT))]:=by rw[ho];rfl
  have e1:(Q.step e).giv=Q.giv++[((k:Int),JK (Q.last.tab.getD k JT))]:=by show Q.giv++JH (iG Q.last e).out=_;rw[hg]
  rw[e1];refine⟨List.pairwise_append.2 ⟨hJ.1,List.pairwise_singleton _ _,fun x hx y hy e=>?_⟩,fun x hx=>?_⟩
  ·rw[List.mem_singleton.1 hy]at e
   obtain⟨j,q1,q2⟩:=hJ.2 x hx;rw[e]at q1 q2;have:k=j:=Int.ofNat.inj q1;subst this;exact absurd q2 (Int.lt_irrefl _)
  ·rcases List.mem_append.1 hx with hx|hx
   ·obtain⟨j,q1,q2⟩:=hJ.2 x hx
    refine⟨j,q1,?_⟩;have:=hp j;show x.2<JK ((iG Q.last e).tab.getD j JT)
    split at this <;> omega
   ·rw[List.mem_singleton.1 hx]
    refine⟨k,rfl,?_⟩;have:=hp k;rw[Nh rfl]at this;show JK (Q.last.tab.getD k JT)<JK ((iG Q.last e).tab.getD k JT);omega
end
theorem Tw(f:Nat->Int)(hf:∀i,i<16->(N6 ME (f i)).wf=Nw)(ds:List Dd)(hds:∀d∈ds,Kg d){pd:Option Oc}{cd:Nat}{w:MO}(hrow:bj Ka w (MG pd ds.length cd) ds)(hblk:aK w)(most:Nat)(hm:most<=100) :
  ∃L:List M7,L.length=16/\BD (f 0) (f 1) (f 2) (f 3) (f 4) (f 5) (f 6) (f 7) (f 8) (f 9) (f 10) (f 11) (f 12) (f 13) (f 14) (f 15)=Ny L.toArray/\∀W,MQ w.heap.size w W->Ni MK 25 #[Ny L.toArray,MG pd ds.length cd,MF ME (most:Int)] W (Lq f most W):=
 ⟨[MF ME (f 0),MF ME (f 1),MF ME (f 2),MF ME (f 3),MF ME (f 4),MF ME (f 5),MF ME (f 6),MF ME (f 7),MF ME (f 8),MF ME (f 9),MF ME (f 10),MF ME (f 11),MF ME (f 12),MF ME (f 13),MF ME (f 14),MF ME (f 15)],rfl,rfl,fun W hB=>L6 f hf ds hds W (hrow.below hB) (hblk.below hB) most hm⟩
theorem Tx(f:Nat->Int)(hf:∀i,i<16->(N6 ME (f i)).wf=Nw)(ds:List Dd)(hds:∀d∈ds,Kg d){pd:Option Oc}{cd:Nat}{w:MO}(hrow:bj Ka w (MG pd ds.length cd) ds)(hB:aK w) :
  Ni MK 7 #[BD (f 0) (f 1) (f 2) (f 3) (f 4) (f 5) (f 6) (f 7) (f 8) (f 9) (f 10) (f 11) (f 12) (f 13) (f 14) (f 15),MG pd ds.length cd] w fun r w'=>r=MN (M3 Nw)/\MQ w.heap.size w w':=by
 obtain⟨L,hL,eL,hpl⟩:=Tw f hf ds hds hrow hB 60 (by omega);rw[eL];obtain⟨W0,hW0⟩:∃W0,W0=w.alloc (MP L.toArray 24):=⟨_,rfl⟩;have hb0:MQ w.heap.size w W0:=by rw[hW0];exact ai w
 have HI:M6 (_/\_/\_):=⟨hL,hb0,hpl W0 hb0⟩;obtain⟨nd,hnd⟩:∃nd,nd=ds.length:=⟨_,rfl⟩;rw[<-hnd]at HI⊢;clear hL eL hpl hb0 hf hds hrow hB hnd;go_enter Tryz.func7,Tryz.ntmps7
 go_wp2_with ((with_reducible refine O3 rfl 24 (O6 2) rfl w.heap.size 0 ?gx L _ ?gc Ty ?gd ?gi ?_);(case gx=>rfl);(case gc=>exact J8 (M1 _ _));(case gd=>rfl);(case gi=>rw[HI.out.1];exact K0))
 rw[<-hW0];clear hW0;refine Nd HI.out.2.2 ?_;rintro r w1 ⟨g,V,c,P,rfl,hS,hcx,hn4,hnm,hk3⟩;obtain⟨n,hn⟩:∃n,n=P.steps.length:=⟨_,rfl⟩;have HS:M6 (_/\_/\_/\_/\_):=⟨hS,hcx,hn,(show n<=60+4 by omega),hk3⟩;have hB1:=HI.out.2.1.trans (hS.bel.mono HI.out.2.1.size);have HB:M6 _:=hB1;clear hS hcx hn4 hnm hk3 hn HI hB1;obtain⟨m,hm⟩:∃m,m=P.giv.length:=⟨_,rfl⟩;have HM:M6 (m=P.giv.length):=hm;clear hm;have hnb:m<=9223372036854775807:=by rw[HM.out];have:=HS.out.1.rn.Mj;have:=HS.out.2.2.2.1;have:=HS.out.2.2.1;omega
 go_wp2_with fail
 go_loopw [7,8] (fun i _ wr=>∃k:Nat,i=MF ME (k:Int)/\k<=m/\M6 (MQ w1.heap.size w1 wr)) (fun i _ _=>m-(intOf i).toNat)
 case atStart=>exact⟨0,rfl,Nx _,MY _ _⟩
 case round =>
  obtain⟨k,rfl,hk,HW⟩:=hrel;have hSr:=HS.out.1.on HW.out;have c43:wr.cell? ⟨g,43,MH⟩=MI (MG V.pg m V.cg):=by rw[HM.out];exact hSr.pat.Mn
  have hgl:=hSr.pat.lt
  by_cases hlt:k<m
  ·have hkI:(k:Int)<(m:Int):=by omega
   clear hSr
   go_wp2_with fail
   go_loopw [8] (fun i wr=>∃j:Nat,i=MF ME (j:Int)/\j<=k/\M6 (MQ w1.heap.size w1 wr)) (fun i _=>k-(intOf i).toNat)
   case atStart=>exact⟨0,rfl,Nx _,HW⟩
   case round =>
    obtain⟨j,rfl,hj,HX⟩:=hrel;clear c43 hgl;have hSr:=HS.out.1.on HX.out;have c43:wr.cell? ⟨g,43,MH⟩=MI (MG V.pg m V.cg):=by rw[HM.out];exact hSr.pat.Mn
    have hgl:=hSr.pat.lt
    by_cases hlj:j<k
    ·have hjI:(j:Int)<(k:Int):=by omega
     have hjm:(j:Int)<(m:Int):=by omega
     have hrv:bj J5 wr (MG V.pg P.giv.length V.cg) P.giv:=gZ hSr.pat.giv;obtain⟨a,cap,hv,_,hmx,hp⟩:=bj.F6 KR hrv;injection hv with q1 q2 q3;have hkg:k<P.giv.length:=by rw[<-HM.out];exact hlt
     have hjg:j<P.giv.length:=by omega
     obtain⟨b,o,ha,hb,hc⟩:=hp k hkg;obtain⟨b',o',ha',hb',hc'⟩:=hp j hjg;have hne:=List.pairwise_iff_getElem.1 HS.out.1.rn.IW j k hjg hkg hlj;have e1:wr.cell? ⟨b,o+k*2,MH⟩=MI (MF ME P.giv[k].1):=hc 0 (by omega);have e2:wr.cell? ⟨b,o+k*2+1,MH⟩=MI (MF ME P.giv[k].2):=hc 1 (by omega);have e3:wr.cell? ⟨b',o'+j*2,MH⟩=MI (MF ME P.giv[j].1):=hc' 0 (by omega);have e4:wr.cell? ⟨b',o'+j*2+1,MH⟩=MI (MF ME P.giv[j].2):=hc' 1 (by omega);rw[q1]at c43;rw[ha]at ha' c43;cases ha';have hne2:(P.giv[k].1 == P.giv[j].1 && P.giv[k].2 == P.giv[j].2)=false:=by
      cases h:(P.giv[k].1 == P.giv[j].1 && P.giv[k].2 == P.giv[j].2)
      ·rfl
      ·rw[Po]at h
       exact absurd (Q8 (eq_of_beq h.1).symm (eq_of_beq h.2).symm) hne
     generalize P.giv[k].1=x1 at e1 hne2;generalize P.giv[k].2=x2 at e2 hne2;generalize P.giv[j].1=x3 at e3 hne2;generalize P.giv[j].2=x4 at e4 hne2;clear hrv hmx hp q1 q2 q3 ha hb hc hb' hc' hne hSr hkg hjg;have hcase:(x1 == x3)=Nb\/((x1 == x3)=Nw/\(x2 == x4)=Nb):=by
      cases h:(x1 == x3)
      ·exact Nt rfl
      ·rw[h]at hne2;exact NF ⟨rfl,hne2⟩
     clear hne2;rcases hcase with h13|⟨h13,h24⟩
     all_goals
      go_wp2_with fail
      refine wp_region_quiet_lit (by kernel_rfl) (by kernel_rfl) ?_
      repeat (first|go_big_quiet_skip|quiet_step (fail))
      refine Oy ?_;intro _ hw';obtain⟨nq,hw''⟩:=hw';subst hw'';go_wp2
      go_roundw
      case rel=>exact⟨j+1,by simp,hlj,HX.out.trans ((B3 (MY _ _) nq).mono HX.out.size)⟩
      case measure=>simp[intOf];omega
    ·obtain rfl:j=k:=by omega
     have hjI:¬(j:Int)<(j:Int):=by omega
     clear hSr;go_wp2
     go_roundw
     case rel=>exact⟨j+1,by simp,hlt,HX⟩
     case measure=>simp[intOf];omega
  ·obtain rfl:k=m:=by omega
   have hkI:¬(k:Int)<(k:Int):=by omega
   go_wp2;go_ret;exact⟨rfl,HB.out.trans (HW.out.mono HB.out.size)⟩
end Go.Proofs.YtalhkllgnlejbaaGreatDoor.Q
