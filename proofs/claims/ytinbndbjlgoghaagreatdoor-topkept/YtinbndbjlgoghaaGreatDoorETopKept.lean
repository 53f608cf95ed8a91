/-
  TopKept: its walk. Conditions: as each theorem says.
-/
import Derived.Test.YtinbndbjlgoghaaGreatDoorQ20
open Bool renaming false->Nb,true->Nw
open Go renaming Calls->Ni,Value->M7,World->MO,bodyPost_ret->Np,cell_of_row->MW,heap_alloc_new->M1,results->Pf,wpAnyH_done->PS,wpAnyH_ready->NN,wpList_load_mid->O3,yieldsIf_load_mid->Pt
open Go.Act renaming put->Nr
open Go.AllReadyH renaming cons->NP,nil->NX
open Go.Calls renaming mono->Nd
open Go.Ending renaming returned->MN
open Go.IntKind renaming i64->ME
open Go.Lit renaming int->N6
open Go.Obj renaming cells->MP
open Go.Operand renaming tmp->O6
open Go.Proofs.Tryz renaming func23->Vm,ntmps23->Vl,prog->MK,results23->Vk,underlying49->OX
open Go.RowKit renaming Below->MQ,Hid->M6
open Go.RowKit.Below renaming refl->MY
open Go.Value renaming agg->Ny,bool->M3,int->MF,slice->MG,tuple->Nv
open List renaming getElem?_eq_none->Nz,getElem_cons_succ->MT,getElem_cons_zero->MS,getElem_toArray->MZ,setIfInBounds_toArray->MJ,set_cons_succ->MM,set_cons_zero->ML,size_toArray->OQ,toList_toArray->NS
open Nat renaming le_refl->MV,lt_of_lt_of_le->M8
open Option renaming none->MH,some->MI
open Or renaming inl->Nt,inr->NF
namespace Go.Proofs.YtinbndbjlgoghaaGreatDoor.Q
set_option linter.unusedVariables false
set_option linter.unusedSimpArgs false
set_option maxHeartbeats 16000000
set_option maxRecDepth 100000
open Go.RowKit
attribute [local go_sem ↓] Go.wp_at_zero Go.wp_at_succ
section
variable {G:Gt}{c:Cf}
theorem UZ(G:Gt)(b:Int):(cj G b).out=G.out\/∃o,(cj G b).out=G.out++[o]:=by
 unfold cj
 split
 ·exact NF ⟨_,rfl⟩
 ·exact Nt rfl
theorem U1(G:Gt)(f:Fl)(k y:Int):∃l,(dn G f k y).out=G.out++(⟨k,f.slot,f.gen,f.be,0,0,y⟩:Ou)::l:=by
 unfold dn;rcases UZ (ge {G with tab:=(ed G.tab f.slot f.gen).1,fls:=bO G.fls f.slot f.gen,tms:=fun t=>G.tms t/\t.2≠f.slot} ⟨k,f.slot,f.gen,f.be,0,0,y⟩) f.be with e|⟨o,e⟩
 ·exact⟨[],e⟩
 ·exact⟨[o],by rw[e];simp[ge]⟩
theorem U3(hb:Bs G){i:Nat}(hi:i<G.fls.length)(y:Int):∃o l,(dP G i y).out=G.out++o::l/\(o.kind=5\/o.kind=6):=by
 rcases pI hb hi y with⟨z,q,hz⟩|⟨b,q,hd,hr,h2,hc,_⟩
 ·obtain⟨l,e⟩:=U1 (dg G G.fls[i].be Nw) G.fls[i] 6 z
  exact⟨_,l,by rw[q];exact e,NF rfl⟩
 ·obtain⟨T,e⟩:=KA (G:={dg G G.fls[i].be Nw with tok:=G.tok-G.cfg.bd}) hi b
  rw[q,e];rcases UZ (ge {{dg G G.fls[i].be Nw with tok:=G.tok-G.cfg.bd}with tab:=(db G.tab G.fls[i].slot G.fls[i].gen b).1,fls:=G.fls.set i {G.fls[i]with be:=b,ret:=G.fls[i].ret+1,due:=G.now+G.cfg.conn},tms:=T} ⟨5,G.fls[i].slot,G.fls[i].gen,b,0,0,0⟩) G.fls[i].be with e|⟨o,e⟩
  ·exact⟨_,[],e,Nt rfl⟩
  ·exact⟨(⟨5,G.fls[i].slot,G.fls[i].gen,b,0,0,0⟩:Ou),[o],e.trans (by simp[ge,dg]),Nt rfl⟩
end
section
variable {G:Gt}{c:Cf}
theorem U2(X:Gt)(f:Fl)(k y:Int):(dn X f k y).out≠[]:=by
 obtain⟨l,e⟩:=U1 X f k y;rw[e];simp
theorem U4{X:Gt}(hb:Bs X){i:Nat}(hi:i<X.fls.length)(y:Int):(dP X i y).out≠[]:=by
 obtain⟨o,l,e,_⟩:=U3 hb hi y;rw[e];simp
end
section
variable {G:Gt}
theorem U0{X:Gt}(h:X.out≠[])(b:Int):(cj X b).out≠[]:=by
 unfold cj
 split
 ·simp[lk,ge]
 ·exact h
theorem U9(hb:Bs G)(e:Ev)(h7:e.kind≠7):(iG G e).out≠[]:=by
 unfold iG
 split
 ·unfold mA
  split
  ·simp[kY,ge]
  ·simp only[]
   split
   ·simp[kY,ge]
   ·simp[iA,ge]
 ·split
  ·simp[fO,ge]
  ·split
   ·have ha:(fO G 2 e).out≠[]:=by simp[fO,ge]
    unfold nC
    split
    ·exact ha
    ·split
     ·simp[lk,ge]
     ·exact U0 (X:={fO G 2 e with wts:=G.wts.set e.be.toNat 0}) ha _
   ·skip
    rcases Kt hb e with⟨_,q⟩|⟨i,hi,_,_,_,⟨_,q⟩|⟨_,q⟩|⟨_,_,⟨_,q⟩|⟨_,_,q⟩|⟨_,_,q⟩⟩⟩
    ·rw[q];simp[kY,ge]
    ·rw[q];exact U2 _ _ _ _
    ·rw[q];simp[mV,iA,ge]
    ·rw[q];simp[kY,ge]
    ·rw[q];simp[mX,iA,ge]
    ·rw[q];exact U4 hb hi _
end
theorem Vi(f:Nat->Int)(hf:∀i,i<16->(N6 ME (f i)).wf=Nw)(ds:List Dd)(hds:∀d∈ds,Kg d){pd:Option Addr}{cd:Nat}{w:MO}(hrow:bj Ka w (MG pd ds.length cd) ds)(hblk:aK w)(most:Nat)(hm:most<=100) :
  ∃L:List M7,L.length=16/\BD (f 0) (f 1) (f 2) (f 3) (f 4) (f 5) (f 6) (f 7) (f 8) (f 9) (f 10) (f 11) (f 12) (f 13) (f 14) (f 15)=Ny L.toArray/\∀W,MQ w.heap.size w W->Ni MK 18 #[Ny L.toArray,MG pd ds.length cd,MF ME (most:Int)] W (Lq f most W):=
 ⟨[MF ME (f 0),MF ME (f 1),MF ME (f 2),MF ME (f 3),MF ME (f 4),MF ME (f 5),MF ME (f 6),MF ME (f 7),MF ME (f 8),MF ME (f 9),MF ME (f 10),MF ME (f 11),MF ME (f 12),MF ME (f 13),MF ME (f 14),MF ME (f 15)],rfl,rfl,fun W hB=>L6 f hf ds hds W (hrow.below hB) (hblk.below hB) most hm⟩
section
open Go.ChangeShapes Go.WideShapes Go.ChangeAt Go.Deep
section
variable {H:Type}{enc:TypeId×M7->H}{P:Program}{w:MO}{base:Nat}{spare:Nat->Bool}{held:Bool}
theorem Va{cs:Array M7}(h:cs.size=4)(f:Nat->Int)(hf:∀i,i<4->cs.toList[i]?=MI (MF ME (f i))):cs=#[MF ME (f 0),MF ME (f 1),MF ME (f 2),MF ME (f 3)]:=by
 apply Array.toList_inj.1;apply List.ext_getElem?;intro i
 by_cases hi:i<4
 ·rw[hf i hi]
  have:i=0\/i=1\/i=2\/i=3:=by omega
  rcases this with rfl|rfl|rfl|rfl <;> rfl
 ·rw[Nz (by simp[h];omega),Nz (by simp;omega)]
theorem Vh{r:Reach}{b0:Nat}{t:TypeId}{fs:Array Field}{v:M7}{d:DataW H}{p:List MemPlace}(hs:P.underlying t=MI (TypeDesc.struct fs))(hc:P.cellsOf t=4)(hfl:J2 P 3 t=Nw)
  (hv:Value.okWide P w r b0 t v) (h:DataW.Trod enc P w base spare held t v d p):∃f:Nat->Int,v=Ny #[MF ME (f 0),MF ME (f 1),MF ME (f 2),MF ME (f 3)]/\∀i,i<4->(N6 ME (f i)).wf=true:=by
 obtain⟨cs,rfl,hsz⟩:=okWide_struct hs hv;obtain⟨fuel,hf⟩:=h;have h1:=Kl 3 hfl hf;rw[hc]at h1 hsz;obtain⟨f,hff⟩:=Deep.choose_lt h1;refine⟨f,?_,fun i hi=>(hff i hi).2⟩;rw[Va hsz f (fun i hi=>(hff i hi).1)]
end
end
theorem Ve{k:Nat}(h:k<4294967296):gq ⟨1,(k:Int),0,0,Nb,0,0,0⟩=0:=by
 simp[gq,dY,Ev.GZ,Ev.num,Ev.GE,Ev.Gc,Ev.Gd,Ev.Hi];omega
theorem Vc{k:Int}{s g:Nat}{x:Bool}(hk:(k=2\/k=3)/\x=Nb\/k=4)(h:s<40)(h2:g<1048577):gq ⟨k,0,(s:Int),(g:Int),x,0,0,0⟩=0:=by
 rcases hk with⟨rfl|rfl,rfl⟩|rfl
 all_goals (simp[gq,dY,Ev.GZ,Ev.num,Ev.GE,Ev.Gc,Ev.Gd,Ev.Hi];try (cases x <;> simp))
 all_goals omega
theorem Vd{r b w:Nat}(h:r<1048577)(h2:b<12)(h3:w<8):gq ⟨5,0,0,0,Nb,(r:Int),(b:Int),1+(w:Int)⟩=0:=by
 simp[gq,dY,Ev.GZ,Ev.num,Ev.GE,Ev.Gc,Ev.Gd,Ev.Hi];omega
theorem Vf{r b:Nat}(h:r<1048577)(h2:b<12):gq ⟨6,0,0,0,Nb,(r:Int),(b:Int),0⟩=0:=by
 simp[gq,dY,Ev.GZ,Ev.num,Ev.GE,Ev.Gc,Ev.Gd,Ev.Hi];omega
theorem Vg(n:Int)(h:(N6 ME n).wf=Nw)(m:Nat)(i:Int)(hm:0<m/\m<=9000000000000/\i=m):∃k:Nat,k<m/\∀W,Ni MK 16 #[MF ME n,MF ME i] W fun r w'=>r=MN (MF ME (k:Int))/\w'=W:=by
 rw[hm.2.2];exact eW n m h hm.1 hm.2.1
theorem Vb(x y z u:Int)(hx:(N6 ME x).wf=Nw)(hy:(N6 ME y).wf=Nw)(hz:(N6 ME z).wf=Nw)(hu:(N6 ME u).wf=Nw)(w:MO) :
  Ni MK 23 #[Ny #[MF ME x,MF ME y,MF ME z,MF ME u]] w fun r w'=>∃e,gq e=0/\r=MN (Kb e)/\MQ w.heap.size w w':=by
 obtain⟨k,hk,pk⟩:=Vg x hx 7 7 ⟨by omega,by omega,rfl⟩;obtain⟨y1,hy1,py1⟩:=Vg y hy 4294967296 4294967296 ⟨by omega,by omega,rfl⟩;obtain⟨y2,hy2,py2⟩:=Vg y hy 40 40 ⟨by omega,by omega,rfl⟩;obtain⟨y3,hy3,py3⟩:=Vg y hy 1048577 1048577 ⟨by omega,by omega,rfl⟩;obtain⟨z1,hz1,pz1⟩:=Vg z hz 1048577 1048577 ⟨by omega,by omega,rfl⟩;obtain⟨z2,hz2,pz2⟩:=Vg z hz 12 12 ⟨by omega,by omega,rfl⟩;obtain⟨u1,hu1,pu1⟩:=Vg u hu 2 2 ⟨by omega,by omega,rfl⟩;obtain⟨u2,hu2,pu2⟩:=Vg u hu 8 8 ⟨by omega,by omega,rfl⟩;have HP:M6 (_/\_/\_/\_/\_/\_/\_/\_):=⟨pk,py1,py2,py3,pz1,pz2,pu1,pu2⟩;have HF:M6 (_/\_/\_/\_/\_/\_/\_):=⟨hy1,hy2,hy3,hz1,hz2,hu1,hu2⟩;have hwu:IntKind.i64.wrap (1+(u2:Int))=1+u2:=jn (by omega) (by omega);clear pk py1 py2 py3 pz1 pz2 pu1 pu2 hy1 hy2 hy3 hz1 hz2 hu1 hx hy hz hu;have hc:k=0\/k=1\/k=2\/k=3\/k=4\/k=5\/k=6:=by omega
 clear hk;rcases hc with rfl|rfl|rfl|rfl|rfl|rfl|rfl
 ·go_enter Vm,Vl
  go_wp2_with fail
  refine(HP.out.1 _).mono ?_;rintro r w1 ⟨rfl,rfl⟩
  go_wp2_with fail
  refine(HP.out.2.1 _).mono ?_;rintro r w1 ⟨rfl,rfl⟩;go_wp2;refine Np (v:=Kb ⟨1,(y1:Int),0,0,Nb,0,0,0⟩) (by simp[Pf,Vk,go_sem]) rfl ⟨⟨1,(y1:Int),0,0,Nb,0,0,0⟩,Ve HF.out.1,rfl,?_⟩;exact(((MY _ _).alloc (MV _) _).alloc (by simp) _).alloc (by simp;omega) _
 ·go_enter Vm,Vl
  go_wp2_with fail
  refine(HP.out.1 _).mono ?_;rintro r w1 ⟨rfl,rfl⟩
  go_wp2_with fail
  refine(HP.out.2.2.1 _).mono ?_;rintro r w1 ⟨rfl,rfl⟩
  go_wp2_with fail
  refine(HP.out.2.2.2.2.1 _).mono ?_;rintro r w1 ⟨rfl,rfl⟩;go_wp2;refine Np (v:=Kb ⟨2,0,(y2:Int),(z1:Int),Nb,0,0,0⟩) (by simp[Pf,Vk,go_sem]) rfl ⟨⟨2,0,(y2:Int),(z1:Int),Nb,0,0,0⟩,Vc (Nt ⟨Nt rfl,rfl⟩) HF.out.2.1 HF.out.2.2.2.1,rfl,?_⟩;exact(((MY _ _).alloc (MV _) _).alloc (by simp) _).alloc (by simp;omega) _
 ·go_enter Vm,Vl
  go_wp2_with fail
  refine(HP.out.1 _).mono ?_;rintro r w1 ⟨rfl,rfl⟩
  go_wp2_with fail
  refine(HP.out.2.2.1 _).mono ?_;rintro r w1 ⟨rfl,rfl⟩
  go_wp2_with fail
  refine(HP.out.2.2.2.2.1 _).mono ?_;rintro r w1 ⟨rfl,rfl⟩;go_wp2;refine Np (v:=Kb ⟨3,0,(y2:Int),(z1:Int),Nb,0,0,0⟩) (by simp[Pf,Vk,go_sem]) rfl ⟨⟨3,0,(y2:Int),(z1:Int),Nb,0,0,0⟩,Vc (Nt ⟨NF rfl,rfl⟩) HF.out.2.1 HF.out.2.2.2.1,rfl,?_⟩;exact(((MY _ _).alloc (MV _) _).alloc (by simp) _).alloc (by simp;omega) _
 ·go_enter Vm,Vl
  go_wp2_with fail
  refine(HP.out.1 _).mono ?_;rintro r w1 ⟨rfl,rfl⟩
  go_wp2_with fail
  refine(HP.out.2.2.1 _).mono ?_;rintro r w1 ⟨rfl,rfl⟩
  go_wp2_with fail
  refine(HP.out.2.2.2.2.1 _).mono ?_;rintro r w1 ⟨rfl,rfl⟩
  go_wp2_with fail
  refine(HP.out.2.2.2.2.2.2.1 _).mono ?_;rintro r w1 ⟨rfl,rfl⟩;go_wp2;refine Np (v:=Kb ⟨4,0,(y2:Int),(z1:Int),((u1:Int) == 1),0,0,0⟩) (by simp[Pf,Vk,go_sem]) rfl ⟨⟨4,0,(y2:Int),(z1:Int),((u1:Int) == 1),0,0,0⟩,Vc (NF rfl) HF.out.2.1 HF.out.2.2.2.1,rfl,?_⟩;exact(((MY _ _).alloc (MV _) _).alloc (by simp) _).alloc (by simp;omega) _
 ·go_enter Vm,Vl
  go_wp2_with fail
  refine(HP.out.1 _).mono ?_;rintro r w1 ⟨rfl,rfl⟩
  go_wp2_with fail
  refine(HP.out.2.2.2.1 _).mono ?_;rintro r w1 ⟨rfl,rfl⟩
  go_wp2_with fail
  refine(HP.out.2.2.2.2.2.1 _).mono ?_;rintro r w1 ⟨rfl,rfl⟩
  go_wp2_with fail
  refine(HP.out.2.2.2.2.2.2.2 _).mono ?_;rintro r w1 ⟨rfl,rfl⟩;go_wp2;refine Np (v:=Kb ⟨5,0,0,0,Nb,(y3:Int),(z2:Int),1+(u2:Int)⟩) (by simp[Pf,Vk,go_sem]) rfl ⟨⟨5,0,0,0,Nb,(y3:Int),(z2:Int),1+(u2:Int)⟩,Vd HF.out.2.2.1 HF.out.2.2.2.2.1 HF.out.2.2.2.2.2.2,rfl,?_⟩;exact(((MY _ _).alloc (MV _) _).alloc (by simp) _).alloc (by simp;omega) _
 ·go_enter Vm,Vl
  go_wp2_with fail
  refine(HP.out.1 _).mono ?_;rintro r w1 ⟨rfl,rfl⟩
  go_wp2_with fail
  refine(HP.out.2.2.2.1 _).mono ?_;rintro r w1 ⟨rfl,rfl⟩
  go_wp2_with fail
  refine(HP.out.2.2.2.2.2.1 _).mono ?_;rintro r w1 ⟨rfl,rfl⟩;go_wp2;refine Np (v:=Kb ⟨6,0,0,0,Nb,(y3:Int),(z2:Int),0⟩) (by simp[Pf,Vk,go_sem]) rfl ⟨⟨6,0,0,0,Nb,(y3:Int),(z2:Int),0⟩,Vf HF.out.2.2.1 HF.out.2.2.2.2.1,rfl,?_⟩;exact(((MY _ _).alloc (MV _) _).alloc (by simp) _).alloc (by simp;omega) _
 ·go_enter Vm,Vl
  go_wp2_with fail
  refine(HP.out.1 _).mono ?_;rintro r w1 ⟨rfl,rfl⟩;go_wp2;refine Np (v:=Kb ⟨7,0,0,0,Nb,0,0,0⟩) (by simp[Pf,Vk,go_sem]) rfl ⟨⟨7,0,0,0,Nb,0,0,0⟩,KQ,rfl,?_⟩;exact(((MY _ _).alloc (MV _) _).alloc (by simp) _).alloc (by simp;omega) _
theorem Vj(f:Nat->Int)(hf:∀i,i<16->(N6 ME (f i)).wf=Nw)(ds:List Dd)(hds:∀d∈ds,Kg d)(x y z u:Int)(hx:(N6 ME x).wf=Nw)(hy:(N6 ME y).wf=Nw)(hz:(N6 ME z).wf=Nw)(hu:(N6 ME u).wf=Nw){pd:Option Addr}{cd:Nat}{w:MO}(hrow:bj Ka w (MG pd ds.length cd) ds)(hB:aK w) :
  Ni MK 12 #[BD (f 0) (f 1) (f 2) (f 3) (f 4) (f 5) (f 6) (f 7) (f 8) (f 9) (f 10) (f 11) (f 12) (f 13) (f 14) (f 15),MG pd ds.length cd,Ny #[MF ME x,MF ME y,MF ME z,MF ME u]] w fun r w'=>r=MN (M3 Nw)/\MQ w.heap.size w w':=by
 obtain⟨L,hL,eL,hpl⟩:=Vi f hf ds hds hrow hB 60 (by omega);rw[eL];obtain⟨W0,hW0⟩:∃W0,W0=(w.alloc (MP L.toArray 24)).alloc (MP #[MF ME x,MF ME y,MF ME z,MF ME u] 86):=⟨_,rfl⟩;have hb0:MQ w.heap.size w W0:=by rw[hW0];exact(ai w).trans ((ai _).mono (ai w).size)
 have hx0:W0.heap[w.heap.size]?=MI (MP L.toArray 24 (0,0)):=by rw[hW0];exact af (M1 _ _) (ai _)
 have hx1:W0.heap[w.heap.size+1]?=MI (MP #[MF ME x,MF ME y,MF ME z,MF ME u] 86 (0,0)):=by
  rw[hW0,show w.heap.size+1=(w.alloc (MP L.toArray 24)).heap.size by simp];exact M1 _ _
 have HI:M6 (_/\_/\_/\_/\_/\_):=⟨hL,hb0,hpl W0 hb0,hW0,hx0,hx1⟩;have HV:M6 (_/\_/\_/\_):=⟨hx,hy,hz,hu⟩;obtain⟨nd,hnd⟩:∃nd,nd=ds.length:=⟨_,rfl⟩;rw[<-hnd]at HI⊢;clear hL eL hpl hb0 hf hds hrow hB hnd hW0 hx0 hx1 hx hy hz hu;go_enter Tryz.func12,Tryz.ntmps12
 go_wp2_with ((with_reducible refine O3 rfl 24 (O6 3) rfl w.heap.size 0 ?gx L _ ?gc Tryz.underlying24 ?gd ?gi ?_);(case gx=>rfl);(case gc=>rw[<-HI.out.2.2.2.1];exact J8 HI.out.2.2.2.2.1);(case gd=>rfl);(case gi=>rw[HI.out.1];exact K0))
 rw[<-HI.out.2.2.2.1];refine Nd HI.out.2.2.1 ?_;rintro r w1 ⟨g,V,c,P,rfl,hS,hcx,hn4,hnm,hk3⟩;have HS:M6 (_/\_):=⟨hS,(show P.steps.length<=64 by omega)⟩;have hB1:=HI.out.2.1.trans (hS.bel.mono HI.out.2.1.size);have HB:M6 _:=hB1;have hx1:=af HI.out.2.2.2.2.2 hS.bel;have k0:w1.cell? ⟨w.heap.size+1,0,MH⟩=MI (MF ME x):=by rw[MW w1 _ 0 _ _ (0,0) hx1];rfl
 have k1:w1.cell? ⟨w.heap.size+1,1,MH⟩=MI (MF ME y):=by rw[MW w1 _ 1 _ _ (0,0) hx1];rfl
 have k2:w1.cell? ⟨w.heap.size+1,2,MH⟩=MI (MF ME z):=by rw[MW w1 _ 2 _ _ (0,0) hx1];rfl
 have k3:w1.cell? ⟨w.heap.size+1,3,MH⟩=MI (MF ME u):=by rw[MW w1 _ 3 _ _ (0,0) hx1];rfl
 clear hS hcx hn4 hnm hk3 HI hB1 hx1
 go_wp2_with fail
 refine Nd (Vb x y z u HV.out.1 HV.out.2.1 HV.out.2.2.1 HV.out.2.2.2 _) ?_;rintro r w2 ⟨e,he,rfl,hb2⟩;obtain⟨W,hW⟩:∃W,W=w2.alloc (MP (JN e).toArray 59):=⟨_,rfl⟩;obtain⟨base,hbase⟩:∃base,base=W0.heap.size:=⟨_,rfl⟩;have hBW:MQ w2.heap.size w2 W:=by rw[hW];exact ai w2
 have hS2:=HS.out.1.on hb2;have hR:W.heap[w2.heap.size]?=MI (MP (JN e).toArray 59 (0,0)):=by rw[hW];exact M1 _ _
 have hP:=hS2.pat
 rw[<-hbase]at hP;have hD:JF base W g V c P w2.heap.size e:=⟨hP.below hBW,hR,hS2.blk.below hBW⟩;obtain⟨hh,hhe⟩:∃hh,hh=w2.heap.size:=⟨_,rfl⟩;rw[<-hhe]at hD;have hno:¬V.own g hh:=fun e=>by have:=(hP.Mb e).2;omega
 have hbb:base<=w2.heap.size:=by rw[hbase];exact hS2.bel.size
 have HI:M6 (_/\_/\_/\_/\_/\_):=⟨HS.out.1.rn.runs,(show P.steps.length<=1000 by have:=HS.out.2;omega),he,hBW,hbb,hno⟩;have HD:M6 _:=hD;have H7:M6 (e.kind=7->P.last.now+1<=1099511626776):=fun _=>by have:=HS.out.1.rn.runs.now;have:=HS.out.2;omega
 have HBW:M6 (MQ w.heap.size w W):=(HB.out.trans (hb2.mono HB.out.size)).trans (hBW.mono (HB.out.trans (hb2.mono HB.out.size)).size);obtain⟨LS,hLS⟩:∃L,L=L:=⟨L,rfl⟩;clear hLS LS;obtain⟨L,hL⟩:∃L,L=(ef V.u P.last).toList:=⟨_,rfl⟩;have HL:M6 _:=hL;clear hR hD hL hno hBW hS2 hP hbase hbb hb2 k0 k1 k2 k3 he
 go_wp2_with fail
 rw[show w2.alloc (MP #[MF ME e.kind,MF ME e.key,MF ME e.slot,MF ME e.gen,M3 e.good,MF ME e.req,MF ME e.be,MF ME e.wt] 59)=W from hW.symm,<-hhe];clear hW hhe;apply gU
 ·intro KEY
  obtain⟨W3,hW3⟩:∃W3,W3=W.drew:=⟨_,rfl⟩;have hI3:JF base W3 g V c P hh e:=by rw[hW3];exact HD.out.on (MY _ _).drew
  obtain⟨S,hS,hSo,hS3⟩:∃S:MO->Prop,(∀X,S X->JF base X g V c P hh e)/\(∀X,JF base X g V c P hh e->S X)/\S W.drew:=⟨fun X=>JF base X g V c P hh e,fun _ h=>h,fun _ h=>h,by rw[<-hW3];exact hI3⟩;have HSS:M6 (_/\_):=⟨hS,hSo⟩;clear hS hSo hI3 hW3 W3;refine wp_region_held_drew (S:=S) (by kernel_rfl) hS3 (fun hHeld=>?_);refine o5 0 (gP g) hHeld ?_;simp only[Nr,MZ,MT,MS,MJ,ML,MM];refine o5 1 (gP g) hHeld ?_;simp only[Nr,MZ,MT,MS,MJ,ML,MM];refine o5 2 (Value.pointer (MI ⟨g,17,MH⟩)) hHeld ?_;simp only[Nr,MZ,MT,MS,MJ,ML,MM];refine o5 3 (Ny L.toArray) hHeld ?_ (hy:=Pt (by rfl) 49 (O6 27) rfl g 17 rfl L _ (fun _ h=>by rw[HL.out];exact(HSS.out.1 _ h).pat.Mo) OX rfl (by rw[HL.out];exact iN));simp only[Nr,MZ,MT,MS,MJ,ML,MM];refine o5 4 (Ny (JN e).toArray) hHeld ?_ (hy:=Pt (by rfl) 59 (O6 9) rfl hh 0 rfl (JN e) _ (fun _ h=>(HSS.out.1 _ h).ev) Tryz.underlying59 rfl KT);simp only[Nr,MZ,MT,MS,MJ,ML,MM];refine NN (rs:=[5,10]) (by kernel_rfl) (by simp) ?_;refine NP (o:=_) rfl (fun K hK=>?_) (NP (o:=_) rfl (fun K hK=>?_) NX)
  ·go_simp
   refine Nd (w:=W.drew) (by rw[HL.out];exact FU (HSS.out.1 _ hHeld).pat.last.now HI.out.1.wm (HSS.out.1 _ hHeld).blk HI.out.1.out e HI.out.2.2.1 H7.out) ?_;rintro r w5 ⟨U5,po,co,rfl,hA5,hb5⟩;obtain⟨M5,hM5⟩:∃M5,M5=(ef U5 (iG P.last e)).toList:=⟨_,rfl⟩;obtain⟨n5,hn5⟩:∃n5,n5=(iG P.last e).out.length:=⟨_,rfl⟩;have HE5:M6 (_/\_/\_/\_):=⟨hM5,hA5,hb5,hn5⟩;have hS5:S w5:=HSS.out.2 _ ((HSS.out.1 _ hHeld).on hb5);rw[show lH U5 (iG P.last e)=Ny M5.toArray by rw[hM5],<-hn5];clear hA5 hb5 hM5 hn5
   go_wp2_with fail
   refine hK.out _ _ hS5 (fun hHeld5=>?_);clear hK K hS5
   try simp only[Nr,MZ,MT,MS,MJ,ML,MM]
   refine o5 6 (Nv #[Ny M5.toArray,MG po n5 co,MF ME 0]) hHeld5 ?_;simp only[Nr,MZ,MT,MS,MJ,ML,MM];refine o5 7 (Ny M5.toArray) hHeld5 ?_;simp only[Nr,MZ,MT,MS,MJ,ML,MM];refine o5 8 (MG po n5 co) hHeld5 ?_;simp only[Nr,MZ,MT,MS,MJ,ML,MM];refine o5 9 (MF ME 0) hHeld5 ?_;simp only[Nr,MZ,MT,MS,MJ,ML,MM];refine NN (rs:=[10]) (by kernel_rfl) (by simp) ?_;refine NP (o:=_) rfl (fun K hK=>?_) NX;go_simp;obtain⟨Y,hY⟩:∃Y,Y=w5.alloc (MP wz.toArray 49):=⟨_,rfl⟩;obtain⟨q,hg⟩:∃q,q=w5.heap.size:=⟨_,rfl⟩;have hY5:MQ w5.heap.size w5 Y:=by rw[hY];exact ai w5
   have hYZ:Y.heap[q]?=MI (MP wz.toArray 49 (0,0)):=by rw[hY,hg];exact M1 _ _
   have hb5:MQ W.heap.size W w5:=dt HE5.out.2.2.1;have hYb:MQ W.heap.size W Y:=hb5.trans (hY5.mono hb5.size);have hgW:W.heap.size<=q:=by rw[hg];exact hb5.size
   have hSY:S Y:=HSS.out.2 _ (HD.out.on hYb);have h5Y:∀b,b<w5.heap.size->Y.heap[b]?=w5.heap[b]?:=fun b h=>hY5.block b h
   have hsY:=hY5.size;have hge:w5.heap.size<=q:=by rw[hg];exact MV _
   rw[<-hY,<-hg];clear hY hg hY5 hb5;refine hK.out _ _ hSY (fun hHeldY=>?_);clear hK K hSY
   try simp only[Nr,MZ,MT,MS,MJ,ML,MM]
   have l5:M5.length=26:=by rw[HE5.out.1];rfl
   have hsz:M5.toArray.size=26:=(show M5.toArray.size=M5.length from OQ).trans l5;have hth:(Y).there q 0 M5.toArray.size:=by rw[hsz];exact vR hYZ
   obtain⟨u6,hu6⟩:∃u6,u6=(Y).setCells q 0 M5:=⟨_,rfl⟩;have hR6:u6.heap[q]?=MI (MP M5.toArray 49 (0,0)):=by rw[hu6];exact KM hYZ (by rw[l5];rfl)
   have hb6:MQ W.heap.size W u6:=by rw[hu6];exact tW hYb hgW _ _ hYb.size
   have hd6:JF base u6 g V c P hh e:=HD.out.on hb6;have hS6:S u6:=HSS.out.2 _ hd6;have hO6:cX (V.own g) u6 fun X=>aF X U5 (iG P.last e)/\bj gT X (MG po (iG P.last e).out.length co) (iG P.last e).out:=KL (b5:=q) HE5.out.2.1 (by rw[hu6,nj];exact hsY) (fun b h1 h2=>by rw[hu6,World.heap_setCells_other _ _ _ _ (M8 h1 hsY) h2];try exact h5Y b h1) (NF hge) (fun b hx=>(HD.out.pat.Mb hx).2)
   have HE:M6 (JB base W u6 g V c P hh e q M5 U5 po co/\n5=(iG P.last e).out.length):=⟨⟨hd6,HE5.out.1,hR6,hgW,hb6,hO6,fun x hx=>(HD.out.pat.Mb hx).2,HI.out.2.2.2.2.2⟩,HE5.out.2.2.2⟩;have ho5:M5.toArray.all (·.oneCell')=true:=by rw[HE5.out.1];exact rS _ _
   clear hR6 hb6 hO6 hYb hYZ hgW hd6;refine NN (rs:=[11]) (by kernel_rfl) (by simp) ?_;refine ve (i:=11) (o:=_) (by rfl) (by rfl) 49 (O6 10) (O6 31) (by rfl) q 0 M5.toArray (by rfl) (by rfl) hth (by rw[hsz];exact iN) ho5 (by rw[NS,<-hu6];exact hS6) ?_;rw[NS,<-hu6]
   try simp only[Nr,MZ,MT,MS,MJ,ML,MM]
   refine NN (rs:=[12]) (by kernel_rfl) (by simp) ?_;refine mE (i:=12) (o:=_) (by rfl) (by rfl) (O6 32) (by rfl) (MG po n5 co) (by rfl) hS6 ?_
   try simp only[Nr,MZ,MT,MS,MJ,ML,MM]
   refine NN (rs:=[13]) (by kernel_rfl) (by simp) ?_;refine mE (i:=13) (o:=_) (by rfl) (by rfl) (O6 33) (by rfl) (MF ME 0) (by rfl) hS6 ?_
   try simp only[Nr,MZ,MT,MS,MJ,ML,MM]
   refine PS (by kernel_rfl) ?_ _;clear hth hsz l5 HE5 hS6 hu6 ho5;clear hHeld5 hHeldY h5Y hsY hge;revert HE;revert u6;revert n5;revert co;revert po;revert U5;revert M5;revert q;exact KEY.out
  ·go_simp
   obtain⟨X1,hX1⟩:∃X1,X1=(W.alloc (MP wz.toArray 49)).drew:=⟨_,rfl⟩;have hXb:MQ W.heap.size W X1:=by rw[hX1];exact(ai W).drew
   have hXZ:X1.heap[W.heap.size]?=MI (MP wz.toArray 49 (0,0)):=by rw[hX1];exact M1 _ _
   have hSX:S X1:=HSS.out.2 _ (HD.out.on hXb);obtain⟨q,hg⟩:∃q,q=W.heap.size:=⟨_,rfl⟩;have HX:M6 (_/\_/\_):=⟨hXb,hXZ,hg⟩;clear hXb hXZ;rw[<-hX1,<-hg];clear hX1 hg;refine hK.out _ _ hSX (fun hHeld=>?_);clear hK K hSX
   try simp only[Nr,MZ,MT,MS,MJ,ML,MM]
   refine NN (rs:=[5]) (by kernel_rfl) (by simp) ?_;refine NP (o:=_) rfl (fun K hK=>?_) NX;go_simp;refine Nd (w:=X1) (by rw[HL.out];exact FU (HSS.out.1 _ hHeld).pat.last.now HI.out.1.wm (HSS.out.1 _ hHeld).blk HI.out.1.out e HI.out.2.2.1 H7.out) ?_;rintro r w5 ⟨U5,po,co,rfl,hA5,hb5⟩;obtain⟨M5,hM5⟩:∃M5,M5=(ef U5 (iG P.last e)).toList:=⟨_,rfl⟩;obtain⟨n5,hn5⟩:∃n5,n5=(iG P.last e).out.length:=⟨_,rfl⟩;have HE5:M6 (_/\_/\_/\_):=⟨hM5,hA5,hb5,hn5⟩;have hS5:S w5:=HSS.out.2 _ ((HSS.out.1 _ hHeld).on hb5);rw[show lH U5 (iG P.last e)=Ny M5.toArray by rw[hM5],<-hn5];clear hA5 hb5 hM5 hn5
   go_wp2_with fail
   refine hK.out _ _ hS5 (fun hHeld5=>?_);clear hK K hS5
   try simp only[Nr,MZ,MT,MS,MJ,ML,MM]
   refine o5 6 (Nv #[Ny M5.toArray,MG po n5 co,MF ME 0]) hHeld5 ?_;simp only[Nr,MZ,MT,MS,MJ,ML,MM];refine o5 7 (Ny M5.toArray) hHeld5 ?_;simp only[Nr,MZ,MT,MS,MJ,ML,MM];refine o5 8 (MG po n5 co) hHeld5 ?_;simp only[Nr,MZ,MT,MS,MJ,ML,MM];refine o5 9 (MF ME 0) hHeld5 ?_;simp only[Nr,MZ,MT,MS,MJ,ML,MM];have hYZ:w5.heap[q]?=MI (MP wz.toArray 49 (0,0)):=by rw[HX.out.2.2];exact af HX.out.2.1 HE5.out.2.2.1
   have hYb:MQ W.heap.size W w5:=HX.out.1.trans (HE5.out.2.2.1.mono HX.out.1.size);have hgW:W.heap.size<=q:=by rw[HX.out.2.2];exact MV _
   have hgX:q<X1.heap.size:=by rw[HX.out.2.2];exact(Array.getElem?_eq_some_iff.1 HX.out.2.1).1
   have h5Y:∀b,b<w5.heap.size->w5.heap[b]?=w5.heap[b]?:=fun _ _=>rfl
   have hsY:w5.heap.size<=w5.heap.size:=MV _;have hs1:=HX.out.1.size;have l5:M5.length=26:=by rw[HE5.out.1];rfl
   have hsz:M5.toArray.size=26:=(show M5.toArray.size=M5.length from OQ).trans l5;have hth:(w5).there q 0 M5.toArray.size:=by rw[hsz];exact vR hYZ
   obtain⟨u6,hu6⟩:∃u6,u6=(w5).setCells q 0 M5:=⟨_,rfl⟩;have hR6:u6.heap[q]?=MI (MP M5.toArray 49 (0,0)):=by rw[hu6];exact KM hYZ (by rw[l5];rfl)
   have hb6:MQ W.heap.size W u6:=by rw[hu6];exact tW hYb hgW _ _ hYb.size
   have hd6:JF base u6 g V c P hh e:=HD.out.on hb6;have hS6:S u6:=HSS.out.2 _ hd6;have hO6:cX (V.own g) u6 fun X=>aF X U5 (iG P.last e)/\bj gT X (MG po (iG P.last e).out.length co) (iG P.last e).out:=KL (b5:=q) HE5.out.2.1 (by rw[hu6,nj];exact hsY) (fun b h1 h2=>by rw[hu6,World.heap_setCells_other _ _ _ _ (M8 h1 hsY) h2];try exact h5Y b h1) (Nt hgX) (fun b hx=>M8 (HD.out.pat.Mb hx).2 hs1)
   have HE:M6 (JB base W u6 g V c P hh e q M5 U5 po co/\n5=(iG P.last e).out.length):=⟨⟨hd6,HE5.out.1,hR6,hgW,hb6,hO6,fun x hx=>(HD.out.pat.Mb hx).2,HI.out.2.2.2.2.2⟩,HE5.out.2.2.2⟩;have ho5:M5.toArray.all (·.oneCell')=true:=by rw[HE5.out.1];exact rS _ _
   clear hR6 hb6 hO6 hYb hYZ hgW hd6;refine NN (rs:=[11]) (by kernel_rfl) (by simp) ?_;refine ve (i:=11) (o:=_) (by rfl) (by rfl) 49 (O6 10) (O6 31) (by rfl) q 0 M5.toArray (by rfl) (by rfl) hth (by rw[hsz];exact iN) ho5 (by rw[NS,<-hu6];exact hS6) ?_;rw[NS,<-hu6]
   try simp only[Nr,MZ,MT,MS,MJ,ML,MM]
   refine NN (rs:=[12]) (by kernel_rfl) (by simp) ?_;refine mE (i:=12) (o:=_) (by rfl) (by rfl) (O6 32) (by rfl) (MG po n5 co) (by rfl) hS6 ?_
   try simp only[Nr,MZ,MT,MS,MJ,ML,MM]
   refine NN (rs:=[13]) (by kernel_rfl) (by simp) ?_;refine mE (i:=13) (o:=_) (by rfl) (by rfl) (O6 33) (by rfl) (MF ME 0) (by rfl) hS6 ?_
   try simp only[Nr,MZ,MT,MS,MJ,ML,MM]
   refine PS (by kernel_rfl) ?_ _;clear hth hsz l5 HE5 hS6 hu6 ho5;clear hHeld5 hgX HX h5Y hsY hs1;revert HE;revert u6;revert n5;revert co;revert po;revert U5;revert M5;revert q;exact KEY.out
 ·rintro q M5 U5 po co n5 u6 HE
  have hcs:(e.kind == 7)=Nw\/((e.kind == 7)=Nb/\(0:Int)<(n5:Int)):=by
   by_cases h7:e.kind=7
   ·exact Nt (by simp[h7])
   ·have:=U9 HI.out.1.wm.im.bs e h7
    exact NF ⟨by simp[h7],by rw[HE.out.2];have:=List.length_pos_iff.2 this;omega⟩
  have hd:=HE.out.1.ans.now;have hwm:=(HI.out.1.wm.Mm (D5 HI.out.2.2.1) H7.out).Ma;have hnw:=(KF P.last e).2;have hDo:=FU hd.1.Ma hwm HE.out.1.dos.blk rfl ⟨7,0,0,0,Nb,0,0,0⟩ KQ (fun _=>by
   show(iG P.last e).now+1<=1099511626776;rw[hnw];have:=HI.out.1.now;have:=HI.out.2.1
   split <;> omega)
  rw[show lH U5 (iG P.last e).Ma=Ny M5.toArray by rw[HE.out.1.mem];rfl]at hDo;have e0:u6.cell? ⟨hh,0,MH⟩=MI (MF ME e.kind):=by rw[MW u6 _ 0 _ _ (0,0) HE.out.1.dos.evb];rfl
  have lhh:hh<u6.heap.size:=(Array.getElem?_eq_some_iff.1 HE.out.1.dos.evb).1;have HX:M6 (_/\_/\_/\_):=⟨hDo,HE.out.1.box,(show M5.length=26 by rw[HE.out.1.mem];rfl),HE.out.1.dos.evb⟩;clear hd hwm hnw hDo e0 lhh
  go_wp2_with ((with_reducible refine O3 rfl 49 (O6 10) rfl q 0 ?gx M5 _ ?gc OX ?gd ?gi ?_);(case gx=>rfl);(case gc=>exact J8 HX.out.2.1);(case gd=>rfl);(case gi=>rw[HX.out.2.2.1];exact iN))
  refine Nd HX.out.1 ?_;rintro r w7 ⟨U7,p7,c7,rfl,hA7,hb7⟩;obtain⟨M7,hM7⟩:∃M7,M7=(ef U7 (iG (iG P.last e).Ma ⟨7,0,0,0,Nb,0,0,0⟩)).toList:=⟨_,rfl⟩;obtain⟨n7,hn7⟩:∃n,n=(iG (iG P.last e).Ma ⟨7,0,0,0,Nb,0,0,0⟩).out.length:=⟨_,rfl⟩;rw[show lH U7 (iG (iG P.last e).Ma ⟨7,0,0,0,Nb,0,0,0⟩)=Ny M7.toArray by rw[hM7],<-hn7];have hZ:(w7.alloc (MP wz.toArray 49)).heap[w7.heap.size]?=MI (MP wz.toArray 49 (0,0)):=M1 _ _;have hMl:M7.length=26:=by rw[hM7];rfl
  have hMs:M7.toArray.size=26:=(show M7.toArray.size=M7.length from OQ).trans hMl;obtain⟨u8,hu8⟩:∃u8,u8=(w7.alloc (MP wz.toArray 49)).setCells w7.heap.size 0 M7:=⟨_,rfl⟩;have hb8:MQ w7.heap.size w7 u8:=by rw[hu8];exact tW (ai w7) (MV _) _ _ (by simp)
  have hth:(w7.alloc (MP wz.toArray 49)).there w7.heap.size 0 M7.toArray.size:=by rw[hMs];exact vR hZ
  have he8:=af (af HX.out.2.2.2 hb7) hb8;have f0:u8.cell? ⟨hh,0,MH⟩=MI (MF ME e.kind):=by rw[MW u8 _ 0 _ _ (0,0) he8];rfl
  have l8:hh<u8.heap.size:=(Array.getElem?_eq_some_iff.1 he8).1;have hfin:MQ w.heap.size w u8:=by
   have h1:=HBW.out.trans (HE.out.1.bel.mono HBW.out.size);have h2:=h1.trans (hb7.mono h1.size);exact h2.trans (hb8.mono h2.size)
  have HY:M6 (_/\_/\_/\_/\_):=⟨hth,hMs,(show M7.toArray.all (·.oneCell')=Nw by rw[hM7];exact rS _ _),hu8,hfin⟩;clear hA7 hb7 hM7 hn7 hZ hMl hMs hu8 hb8 hth he8 hfin;rcases hcs with h7|⟨h7,h0⟩
  case' inr=>have h1:0<n5:=by omega
  all_goals
   go_wp2_with ((with_reducible refine wpList_store_mid rfl 49 (O6 13) (O6 38) rfl w7.heap.size 0 M7.toArray ?sx ?sy ?st ?si ?s1 ?_);(case sx=>rfl);(case sy=>rfl);(case st=>exact HY.out.1);(case si=>rw[HY.out.2.1];exact iN);(case s1=>exact HY.out.2.2.1);rw[NS,<-HY.out.2.2.2.1])
   go_ret;exact⟨rfl,HY.out.2.2.2.2⟩
end Go.Proofs.YtinbndbjlgoghaaGreatDoor.Q
