/-
  Contracts of the layers and of core, part 6. Conditions: as each theorem says.
-/
import Derived.Test.YtgnclkcdnbfeeaaGreatDoorP4
open Array renaming getElem?_eq_some_iff->ZAa
open Bool renaming false->Nb,true->Nw
open Go renaming Calls->Ni,Value->M7,World->MO,maxLen->NE
open Go.Ending renaming returned->MN
open Go.IntKind renaming i64->ME
open Go.Obj renaming cells->MP
open Go.Proofs.Tryz renaming func100->ax3,func101->QB,func102->ayy,func103->R3,func45->Se,func57->Uw,func58->Tq,func93->Ux,ntmps100->axZ,ntmps101->Qo,ntmps102->ays,ntmps103->RP,ntmps45->RU,ntmps57->Ul,ntmps58->Te,ntmps93->Un,prog->MK
open Go.RowKit renaming Below->MQ,Hid->M6
open Go.Value renaming agg->Ny,bool->M3,int->MF,slice->MG,tuple->Nv
open Go.World renaming cell?->Nl,frozen?->Ng
open List renaming mem_filter->ZAf
open Option renaming none->MH,some->MI
open Or renaming inl->Nt,inr->NF
namespace Go.Proofs.YtgnclkcdnbfeeaaGreatDoor.Q
set_option linter.unusedVariables false
set_option linter.unusedSimpArgs false
set_option maxHeartbeats 16000000
set_option maxRecDepth 100000
open Go.RowKit
attribute [local go_sem ↓] Go.wp_at_zero Go.wp_at_succ
variable {G':Gt}{l:List Int}{R:List aw0}{L:List awV}{v va vb:M7}{W X w w' w5:MO}{B k:Nat}
section
variable {base:Nat}{w:MO}{g:Nat}{V:Vs}{G:Gt}
theorem adX{Q R:Prop}(m:M6 Q->R)(k:Q):R:=m k
abbrev acE(n:Int):Obj:=MP #[MF ME n] 50
theorem akl(h:OR base w g V G)(hbs:Bs G)(hw:G.wnow=G.now)(hl:G.out.length<=800000){i:Nat}(hi:i<G.fls.length){bf:Nat}(hp:V.pf=MI ⟨bf,0,MH⟩)(why:Int) :
  Ni MK 93 #[gP g,fP bf i,MF ME why] w (aam base w g V (YP G i why)):=by
 obtain⟨O,a⟩:∃O,O=YP G i why:=⟨_,rfl⟩;rw[<-a];unfold YP at a;simp only[]at a;obtain⟨f,hf⟩:∃f,f=Xs G i:=⟨_,rfl⟩;have a8:f∈G.fls:=by rw[hf,XA hi];exact Nk hi
 have b0:=hbs.F9 a8;have f5:=hbs.rets _ a8;obtain⟨q0,q1,q2,q3,q4,q5,q6⟩:=h.Gw hp hi;rw[<-hf]at a q0 q1 q2 q3 q4 q5 q6;have i0:=h.lt;obtain⟨b,D⟩:∃b,b=Yh G f.be true:=⟨_,rfl⟩;have HN:=akO h hbs b0.2.2.2 Nw;have c0:=hbs.GA b0.2.2.2 Nw;rw[<-D]at a HN c0;have e0:b.fls=G.fls/\b.cfg=G.cfg/\b.now=G.now/\b.wnow=G.wnow/\b.out=G.out/\b.tok=G.tok:=by rw[D];exact⟨rfl,rfl,rfl,rfl,rfl,rfl⟩
 obtain⟨⟨tk,er⟩,f1⟩:∃s,s=Zh G.cfg.bn G.cfg.bd G.cfg.bb G.tok:=⟨_,rfl⟩;have d6:=hbs.tok;have H:M6 (_/\_/\_/\_/\_/\_/\_/\_):=⟨HN,a,c0,e0,hp,hi,hf,a8⟩;have u:M6 (_/\_/\_/\_/\_/\_/\_):=⟨hbs,hw,hl,b0,f1,f5,d6⟩;clear h hbs a hf hw hl b0 HN D e0 c0 hp hi a8 f1 f5 d6;go_enter Ux,Un
 go_wp2_with fail
 refine Nd H.out.1 ?_;rintro r j ⟨rfl,V1,D,c9,f9⟩;have f8:V1.pf=MI ⟨bf,0,MH⟩:=c9.1.trans H.out.2.2.2.2.1;have Z:M6 (∃y:i<b.fls.length,b.fls[i]=f):=akp H.out.2.2.2.1.1 H.out.2.2.2.2.2.1 H.out.2.2.2.2.2.2.1;have g7:j.cell? ⟨g,10,MH⟩=MI (MF ME G.cfg.bn):=by rw[<-H.out.2.2.2.1.2.1];exact D.Hf
 have g8:j.cell? ⟨g,11,MH⟩=MI (MF ME G.cfg.bd):=by rw[<-H.out.2.2.2.1.2.1];exact D.Hn
 have g9:j.cell? ⟨g,12,MH⟩=MI (MF ME G.cfg.bb):=by rw[<-H.out.2.2.2.1.2.1];exact D.Hg
 have d1:j.cell? ⟨g,23,MH⟩=MI (MF ME G.tok):=by rw[<-H.out.2.2.2.1.2.2.2.2.2];exact D.Id
 have g3:=D.lt;have HS:M6 ((∀X,MQ j.heap.size j X->X.heap[j.heap.size]?=MI (acE 0)->Ni MK 134 #[Ny #[MF ME G.cfg.bn,MF ME G.cfg.bd,MF ME G.cfg.bb],Ny #[MF ME G.tok]] X fun r w'=>r=MN (Nv #[Ny #[MF ME tk],MF ME er])/\w'.cell? ⟨j.heap.size,0,MH⟩=MI (MF ME 0)/\w'.frozen? ⟨j.heap.size,0,MH⟩=Nb/\j.heap.size<w'.heap.size /\
   ∃z w3,z=j.heap.size/\w3=w'.setCell ⟨j.heap.size,0,MH⟩ (MF ME tk)/\M6 (MQ j.heap.size j w3/\w3.heap[z]?=MI (acE tk))) /\
   (∀X,MQ j.heap.size j X->Ni MK 134 #[Ny #[MF ME G.cfg.bn,MF ME G.cfg.bd,MF ME G.cfg.bb],Ny #[MF ME G.tok]] X fun r w'=>r=MN (Nv #[Ny #[MF ME tk],MF ME er]) /\
   ∃z w3,z=w'.heap.size/\w3=w'.alloc (acE tk)/\M6 (MQ j.heap.size j w3/\w3.heap[z]?=MI (acE tk)))):=by
  constructor
  ·intro X P hR
   refine(ajV G.cfg.bn G.cfg.bd G.cfg.bb G.tok X).mono ?_;rw[<-u.out.2.2.2.2.1];rintro r w' ⟨rfl,a7⟩;have a4:=WO hR a7;exact⟨rfl,by rw[MW w' _ 0 _ _ (0,0) a4];rfl,by simp[Ng,a4],(ZAa.1 a4).1,_,_,rfl,rfl,(P.trans (a7.mono P.size)).setCell (p:=⟨j.heap.size,0,MH⟩) (MV _) _,YO a4 rfl⟩
  ·intro X P
   refine(ajV G.cfg.bn G.cfg.bd G.cfg.bb G.tok X).mono ?_;rw[<-u.out.2.2.2.2.1];rintro r w' ⟨rfl,a7⟩;have a0:=P.trans (a7.mono P.size);exact⟨rfl,_,_,rfl,rfl,a0.trans ((WQ w' (o:=acE tk)).mono a0.size),M1 _ _⟩
 have d:M6 (_/\_/\_/\_/\_):=⟨HS.out,D,c9,f9,f8⟩;clear HS D c9 f9 f8 q0 q1 q2 q3 q4 q5 q6
 go_wp2_with fail
 apply adX
 ·intro h7
  go_region_with (first|(go_at_call 134;refine(d.out.1.1 _ (by first|exact(WQ _).drew|exact WQ _) (by first|exact M1 _ _|(show(World.alloc _ _).heap[_]?=_;exact heap_alloc_new _ _))).mono ?_;rintro r w2 ⟨rfl,y0,z0,g2,z,A,d2,d5,hQ⟩)|(go_at_call 134;refine(d.out.1.2 _ (by first|exact(MY _ _).drew|exact Below.refl _ _)).mono ?_;rintro r w2 ⟨rfl,z,A,d2,d5,hQ⟩))
  all_goals
   rw[<-d5]
   try rw[<-d2]
   clear d5 d2
   try clear y0 z0 g2
   revert z A;exact h7.out
 intro z A hQ;have d4:=hQ.out.1;have f2:=hQ.out.2;clear hQ;have a3:=d.out.2.1.below d4;have xu:adU A bf i f:=by
  obtain⟨y,C⟩:=Z.out;have:=a3.Gl d.out.2.2.2.2 y;rw[C]at this;exact this
 have v5:=xu.2.2.2.2.2.1;have v8:A.cell? ⟨g,8,MH⟩=MI (MF ME G.cfg.ret):=by rw[<-H.out.2.2.2.1.2.1];exact a3.c8
 have b8:=a3.lt;have b9:bf<A.heap.size:=MX A ⟨bf,i*7+5,MH⟩ v5;have HU:M6 (_/\_):=⟨d4,f2⟩;clear d4 f2 a3 xu g7 g8 g9 d1 g3;have e9:f∈b.fls:=by rw[H.out.2.2.2.1.1];exact H.out.2.2.2.2.2.2.2
 have d9:b.out.length<=800000:=by rw[H.out.2.2.2.1.2.2.2.2.1];exact u.out.2.2.1
 have a:=H.out.2.1;rw[<-u.out.2.2.2.2.1,<-H.out.2.2.2.1.1]at a;simp only[]at a;have U:M6 (_/\_):=⟨e9,d9⟩;have HO:M6 _:=a;clear e9 d9 a
 by_cases hA:f.ret=G.cfg.ret
 ·have h8:(f.ret == G.cfg.ret)=true:=by rw[beq_iff_eq];exact hA
  go_wp2_with fail
  go_quiet (fail)
  have I:=ZE HU.out.1 nq;have T:(A.drewN nq).heap[z]?=MI (acE tk):=HU.out.2;clear v5 v8 b8 b9;generalize A.drewN nq=w3 at *;have m:=d.out.2.1.below I;have M:adU w3 bf i f:=by
   obtain⟨y,C⟩:=Z.out;have:=m.Gl d.out.2.2.2.2 y;rw[C]at this;exact this
  have e8:w3.cell? ⟨g,8,MH⟩=MI (MF ME G.cfg.ret):=by rw[<-H.out.2.2.2.1.2.1];exact m.c8
  have c1:=m.lt;have K:M6 (_/\_/\_):=⟨m,d.out.2.2.2.1.below I,T⟩;obtain⟨x0,x1,x2,x3,x4,x5,x6⟩:=M;clear m I T;have a:=HO.out;rw[Nh (Nt hA)]at a;have Q:M6 (_/\_):=⟨adY K.out.1 H.out.2.2.1 U.out.1 (by have:=U.out.2;omega) 6 why,a⟩;clear a hA
  go_wp2_with fail
  refine Nd Q.out.1 ?_;rintro r w9 ⟨rfl,V9,F,J,E⟩;have t:M6 (_/\_/\_):=⟨F,J.trans d.out.2.2.1.2.2,K.out.2.1.F0 E⟩;clear F J E;go_wp2
  go_end0
  rw[Q.out.2];exact⟨rfl,V9,t.out.1,t.out.2.1,t.out.2.2⟩
 ·have h9:(f.ret == G.cfg.ret)=false:=by rw[Oh];exact hA
  by_cases hB:er=0
  ·subst hB
   go_wp2_with fail
   go_quiet (fail)
   have I:=ZE HU.out.1 nq;have T:(A.drewN nq).heap[z]?=MI (acE tk):=HU.out.2;clear v5 v8 b8 b9;generalize A.drewN nq=w3 at *;have m:=d.out.2.1.below I;have M:adU w3 bf i f:=by
    obtain⟨y,C⟩:=Z.out;have:=m.Gl d.out.2.2.2.2 y;rw[C]at this;exact this
   have e8:w3.cell? ⟨g,8,MH⟩=MI (MF ME G.cfg.ret):=by rw[<-H.out.2.2.2.1.2.1];exact m.c8
   have c1:=m.lt;have K:M6 (_/\_/\_):=⟨m,d.out.2.2.2.1.below I,T⟩;obtain⟨x0,x1,x2,x3,x4,x5,x6⟩:=M;clear m I T;have a:=HO.out;rw[Nf (by rintro(h|h);exact hA h;exact h rfl)]at a;obtain⟨fs,a1⟩:∃fs,fs=Yl b.fls f.slot f.gen:=⟨_,rfl⟩;rw[<-a1]at a;have c6:fs.length<=40:=by rw[a1];exact Nm (ahT _ _ _) (by rw[H.out.2.2.2.1.1];exact u.out.1.Gb)
   have d0:∀x∈fs,0<=x.be/\x.be<12:=fun x M=>(H.out.2.2.1.F9 (by rw[a1]at M;exact(ZAf.1 M).1)).2.2.2
   obtain⟨⟨cb,ce⟩,a9⟩:∃ce,ce=XD b f.key fs:=⟨_,rfl⟩;rw[<-a9]at a;simp only[]at a;have f7:∀X,MQ w3.heap.size w3 X->Ni MK 132 #[gP g,Ny #[MF ME f.slot,MF ME f.gen]] X fun r w'=>∃q c,r=MN (MG (MI ⟨q,0,MH⟩) fs.length c)/\w'.cell? ⟨bf,i*7+2,MH⟩=MI (MF ME f.key)/\bf<w'.heap.size /\
     M6 (∀Y,MQ w'.heap.size w' Y->Ni MK 83 #[gP g,MF ME f.key,MG (MI ⟨q,0,MH⟩) fs.length c] Y fun r w5=>r=MN (Nv #[MF ME cb,M3 (ce == 0)])/\M6 (MQ w3.heap.size w3 w5)):=by
    intro X P;have e4:=K.out.1.below P;refine Nd (alp e4 U.out.1 (by rw[H.out.2.2.2.1.1];exact u.out.1.Gb)) ?_;rw[<-a1];rintro r w' ⟨q,c,rfl,ho,hb⟩;have a0:=P.trans (hb.mono P.size);have a2:bf<w3.heap.size:=MX w3 ⟨bf,i*7+2,MH⟩ x2;refine⟨q,c,rfl,(a0.cell (p:=⟨bf,i*7+2,MH⟩) a2).trans x2,M8 a2 a0.size,?_⟩;intro Y hY;refine Nd (ahb (e4.below hb |>.below hY) H.out.2.2.1 u.out.2.2.2.1.2.2.1 _ fs ((abw ho).below hY) d0 c6) ?_;rw[<-a9];rintro r w5 ⟨rfl,S⟩;have f4:=a0.trans (hY.mono a0.size);exact⟨rfl,f4.trans (S.mono f4.size)⟩
   have H4:M6 (_/\_/\_/\_/\_):=⟨f7,a,c6,d0,a9⟩;have g5:M6 (¬f.ret=G.cfg.ret):=hA;have a2:bf<w3.heap.size:=MX w3 ⟨bf,i*7+2,MH⟩ x2;clear f7 a a1 c6 d0 a9 hA e8 x3 x4 x5 x6
   go_wp2_with fail
   go_region_with (first|(go_at_call 132;refine(H4.out.1 _ (by first|exact(MY _ _).drew|exact Below.refl _ _)).mono ?_;rintro r w4 ⟨q,c4,rfl,k2,g1,e6⟩)|(go_at_call 83;refine(e6.out _ (by first|exact(MY _ _).drew|exact MY _ _)).mono ?_;rintro r w5 ⟨rfl,e7⟩))
   all_goals
    have S:=e7.out;clear e7 e6 k2 g1 a2 x0 x1 x2 c1;have N:=K.out.1.below S;have a5:=WO K.out.2.2 S;have H5:M6 (_/\_/\_):=⟨True.intro,True.intro,K.out.2.1⟩
    by_cases hC:ce=0
    ·subst hC
     have a:=H4.out.2.1;rw[Nf (by decide)]at a;have d1:=N.Id;have g6:=N.fz 23;have d7:=N.lt;have y0:w5.cell? ⟨z,0,MH⟩=MI (MF ME tk):=by rw[MW w5 _ 0 _ _ (0,0) a5];rfl
     have g4:z<w5.heap.size:=(ZAa.1 a5).1;obtain⟨w6,c7⟩:∃w6,w6=w5.setCell ⟨g,23,MH⟩ (MF ME tk):=⟨_,rfl⟩;have c2:=N.IC tk;have d3:=(H5.out.2.2.below S).F4 23 (MF ME tk);rw[<-c7]at c2 d3;have c3:=H.out.2.2.1.Ib (key:=f.key) H4.out.2.2.1 (by rw[<-H4.out.2.2.2.2]);rw[<-H4.out.2.2.2.2]at c3;have g0:0<=cb/\cb<12:=c3.2;have a6:=ahK u.out.1.GM u.out.2.2.2.2.2.2 (by rw[<-u.out.2.2.2.2.1]);rw[<-u.out.2.2.2.2.1]at a6;have f3:tk=G.tok-G.cfg.bd:=congrArg Prod.fst a6.1;have d8:Bs {b with tok:=tk}:=H.out.2.2.1.Hp (by rw[f3,H.out.2.2.2.1.2.1];exact ahO u.out.1 a6.2);have f6:0<=(Xs {b with tok:=tk} i).ret/\(Xs {b with tok:=tk} i).ret+1<=20:=by
      obtain⟨y,C⟩:=Z.out;have e:Xs {b with tok:=tk} i=f:=(XA (G:=b) y).trans C;rw[e];have h1:=u.out.2.2.2.2.2.1;have h2:=g5.out;have h3:=u.out.1.cfg.2.2.2.2.2.2.2.2.1;omega
     have e3:i<({b with tok:=tk}:Gt).fls.length:=by obtain⟨y,C⟩:=Z.out;exact y
     have HR:=aqq c2 d8 (by show b.wnow=b.now;rw[H.out.2.2.2.1.2.2.2.1,H.out.2.2.2.1.2.2.1];exact u.out.2.1) (by show b.out.length<=900000;have:=U.out.2;omega) e3 d.out.2.2.2.2 g0 f6;have H6:M6 (_/\_/\_):=⟨HR,d3,a⟩;clear N a5 S c2 d3 c3 g0 a6 f3 d8 f6 e3 HR a
     go_wp2_with fail
     rw[<-c7];clear c7 d1 g6 d7 y0 g4;refine Nd H6.out.1 ?_;rintro r w9 ⟨rfl,V9,F,J,E⟩;have t:M6 (_/\_/\_):=⟨F,J.trans d.out.2.2.1.2.2,H6.out.2.1.F0 E⟩;clear F J E;go_wp2
     go_end0
     rw[H6.out.2.2];exact⟨rfl,V9,t.out.1,t.out.2.1,t.out.2.2⟩
    ·have e5:(ce == 0)=false:=by rw[Oh];exact hC
     have a:=H4.out.2.1;rw[Nh hC]at a;have M:adU w5 bf i f:=by
      obtain⟨y,C⟩:=Z.out;have:=N.Gl d.out.2.2.2.2 y;rw[C]at this;exact this
     obtain⟨x0,x1,x2,x3,x4,x5,x6⟩:=M;have d7:=N.lt;have Q:M6 (_/\_/\_):=⟨adY N H.out.2.2.1 U.out.1 (by have:=U.out.2;omega) 6 4,a,H5.out.2.2.below S⟩;rw[e5];clear a hC N a5 S e5
     go_wp2_with fail
     refine Nd Q.out.1 ?_;rintro r w9 ⟨rfl,V9,F,J,E⟩;have t:M6 (_/\_/\_):=⟨F,J.trans d.out.2.2.1.2.2,Q.out.2.2.F0 E⟩;clear F J E;go_wp2
     go_end0
     rw[Q.out.2.1];exact⟨rfl,V9,t.out.1,t.out.2.1,t.out.2.2⟩
  ·have i1:(er != 0)=true:=by simpa using hB
   go_wp2_with fail
   go_quiet (fail)
   have I:=ZE HU.out.1 nq;have T:(A.drewN nq).heap[z]?=MI (acE tk):=HU.out.2;clear v5 v8 b8 b9;generalize A.drewN nq=w3 at *;have m:=d.out.2.1.below I;have M:adU w3 bf i f:=by
    obtain⟨y,C⟩:=Z.out;have:=m.Gl d.out.2.2.2.2 y;rw[C]at this;exact this
   have e8:w3.cell? ⟨g,8,MH⟩=MI (MF ME G.cfg.ret):=by rw[<-H.out.2.2.2.1.2.1];exact m.c8
   have c1:=m.lt;have K:M6 (_/\_/\_):=⟨m,d.out.2.2.2.1.below I,T⟩;obtain⟨x0,x1,x2,x3,x4,x5,x6⟩:=M;clear m I T;have a:=HO.out;rw[Nh (NF hB)]at a;have Q:M6 (_/\_):=⟨adY K.out.1 H.out.2.2.1 U.out.1 (by have:=U.out.2;omega) 6 why,a⟩;clear a hA hB
   go_wp2_with fail
   refine Nd Q.out.1 ?_;rintro r w9 ⟨rfl,V9,F,J,E⟩;have t:M6 (_/\_/\_):=⟨F,J.trans d.out.2.2.1.2.2,K.out.2.1.F0 E⟩;clear F J E;go_wp2
   go_end0
   rw[Q.out.2];exact⟨rfl,V9,t.out.1,t.out.2.1,t.out.2.2⟩
end
section
variable {base:Nat}{w:MO}{g:Nat}{V:Vs}{G:Gt}
abbrev acH(e:Ev):Value:=Ny #[MF ME e.kind,MF ME e.key,MF ME e.slot,MF ME e.gen,M3 e.good,MF ME e.req,MF ME e.be,MF ME e.wt]
abbrev aaE(e:Ev):Obj:=MP #[MF ME e.kind,MF ME e.key,MF ME e.slot,MF ME e.gen,M3 e.good,MF ME e.req,MF ME e.be,MF ME e.wt] 60
theorem abP{q:Nat}{e:Ev}(h:W.heap[q]?=MI (aaE e)):W.cell? ⟨q,0,MH⟩=MI (MF ME e.kind)/\W.cell? ⟨q,1,MH⟩=MI (MF ME e.key)/\W.cell? ⟨q,2,MH⟩=MI (MF ME e.slot)/\W.cell? ⟨q,3,MH⟩=MI (MF ME e.gen)/\W.cell? ⟨q,4,MH⟩=MI (M3 e.good)/\W.cell? ⟨q,5,MH⟩=MI (MF ME e.req)/\W.cell? ⟨q,6,MH⟩=MI (MF ME e.be)/\W.cell? ⟨q,7,MH⟩=MI (MF ME e.wt)/\q<W.heap.size :=
 ⟨by rw[MW W _ 0 _ _ (0,0) h];rfl,by rw[MW W _ 1 _ _ (0,0) h];rfl,by rw[MW W _ 2 _ _ (0,0) h];rfl,by rw[MW W _ 3 _ _ (0,0) h];rfl,by rw[MW W _ 4 _ _ (0,0) h];rfl,by rw[MW W _ 5 _ _ (0,0) h];rfl,by rw[MW W _ 6 _ _ (0,0) h];rfl,by rw[MW W _ 7 _ _ (0,0) h];rfl,(ZAa.1 h).1⟩
theorem aho{f:FuncId}{a:Array M7}(h:Ni MK f a w (aaa base w g V G')):Ni MK f a w (aam base w g V G'):=h.mono fun _ _ k=>ao8 k
theorem apj(hbs:Bs G){s n:Int}(h:∃f∈G.fls,f.slot=s/\f.gen=n){i:Nat}(hi:i=aaF G.fls s):∃f,f∈G.fls/\i<G.fls.length/\Xs G i=f:=by
 obtain⟨f,a,d,_⟩:=h;subst d;subst hi;obtain⟨b,c⟩:=hbs.GG a;exact⟨f,a,b,(XA b).trans c⟩
abbrev afN(s n:Int):Obj:=MP #[MF ME s,MF ME n] 70
abbrev alc(t:awY):Obj:=MP #[MF ME t.1,M3 t.2.1,MF ME t.2.2.1,MF ME t.2.2.2] 182
abbrev aqB(w:MO)(b:Nat)(t:awY):World:=(((w.setCell ⟨b,0,MH⟩ (MF ME t.1)).setCell ⟨b,1,MH⟩ (M3 t.2.1)).setCell ⟨b,2,MH⟩ (MF ME t.2.2.1)).setCell ⟨b,3,MH⟩ (MF ME t.2.2.2)
abbrev ajX(w:MO)(b:Nat):Prop:=w.cell? ⟨b,0,MH⟩=MI (MF ME 0)/\w.cell? ⟨b,1,MH⟩=MI (M3 Nb)/\w.cell? ⟨b,2,MH⟩=MI (MF ME 0)/\w.cell? ⟨b,3,MH⟩=MI (MF ME 0)/\w.frozen? ⟨b,0,MH⟩=Nb/\w.frozen? ⟨b,1,MH⟩=Nb/\w.frozen? ⟨b,2,MH⟩=Nb/\w.frozen? ⟨b,3,MH⟩=Nb/\b<w.heap.size
theorem aqD{b:Nat}(h:w.heap[b]?=MI (alc (0,Nb,0,0))):ajX w b :=
 ⟨by rw[MW w _ 0 _ _ (0,0) h];rfl,by rw[MW w _ 1 _ _ (0,0) h];rfl,by rw[MW w _ 2 _ _ (0,0) h];rfl,by rw[MW w _ 3 _ _ (0,0) h];rfl,by simp[Ng,h],by simp[Ng,h],by simp[Ng,h],by simp[Ng,h],(ZAa.1 h).1⟩
theorem aqC{a:MO}{b:Nat}(h:MQ B a w)(hb:B<=b)(t:awY):MQ B a (aqB w b t):=
 (((h.setCell (p:=⟨b,0,MH⟩) hb _).setCell (p:=⟨b,1,MH⟩) hb _).setCell (p:=⟨b,2,MH⟩) hb _).setCell (p:=⟨b,3,MH⟩) hb _
theorem aqa(h:OR base w g V G)(hbs:Bs G)(hw:G.wnow=G.now)(hl:G.out.length<=800000)(e:Ev) :
  Ni MK 57 #[gP g,acH e] w (aam base w g V (aaq G e)):=by
 obtain⟨O,a⟩:∃O,O=aaq G e:=⟨_,rfl⟩;rw[<-a];unfold aaq at a;simp only[]at a;obtain⟨⟨⟨A,E,C,F⟩,c⟩,Q⟩:∃o,o=Yj G.tab e.slot e.gen:=⟨_,rfl⟩;rw[<-Q]at a;simp only[]at a;obtain⟨W,hW⟩:∃W,W=(w.alloc (aaE e)).alloc (afN e.slot e.gen):=⟨_,rfl⟩;have N:=acu w (aaE e) (afN e.slot e.gen);rw[<-hW]at N;obtain⟨a6,S,hB,c2⟩:=N;have J:=h.below hB;have c6:=J.Gs;have d0:=h.lt;have a9:=J.lt;have y0:W.cell? ⟨w.heap.size+1,0,MH⟩=MI (MF ME e.slot):=by rw[MW W _ 0 _ _ (0,0) S];rfl
 have y1:W.cell? ⟨w.heap.size+1,1,MH⟩=MI (MF ME e.gen):=by rw[MW W _ 1 _ _ (0,0) S];rfl
 have c0:w.heap.size+1<W.heap.size:=(ZAa.1 S).1;have HG:M6 ((∀X,MQ W.heap.size W X->X.heap[W.heap.size]?=MI (alc (0,Nb,0,0))->Ni MK 88 #[Ny #[MG V.pt G.tab.length V.ct],Ny #[MF ME e.slot,MF ME e.gen]] X fun r w'=>r=MN (Nv #[Ny #[MF ME A,M3 E,MF ME C,MF ME F],MF ME c])/\ajX w' W.heap.size /\
   ∃D u,D=W.heap.size/\u=((((w'.setCell ⟨W.heap.size,0,MH⟩ (MF ME A)).setCell ⟨W.heap.size,1,MH⟩ (M3 E)).setCell ⟨W.heap.size,2,MH⟩ (MF ME C)).setCell ⟨W.heap.size,3,MH⟩ (MF ME F))/\M6 (MQ W.heap.size W u)) /\
   (∀X,MQ W.heap.size W X->Ni MK 88 #[Ny #[MG V.pt G.tab.length V.ct],Ny #[MF ME e.slot,MF ME e.gen]] X fun r w'=>r=MN (Nv #[Ny #[MF ME A,M3 E,MF ME C,MF ME F],MF ME c]) /\
   ∃D u,D=w'.heap.size/\u=w'.alloc (MP #[MF ME A,M3 E,MF ME C,MF ME F] 182)/\M6 (MQ W.heap.size W u))):=by
  have a4:∀X,MQ W.heap.size W X->Ni MK 88 #[Ny #[MG V.pt G.tab.length V.ct],Ny #[MF ME e.slot,MF ME e.gen]] X fun r w'=>r=MN (Nv #[Ny #[MF ME A,M3 E,MF ME C,MF ME F],MF ME c])/\MQ X.heap.size X w':=by
   intro X y;refine(ai5 _ G.tab e.slot e.gen X (J.rest.tab.now.below y)).mono ?_;rw[<-Q];exact fun r w' h=>h
  constructor
  ·intro X y hR
   refine(a4 X y).mono ?_;rintro r w' ⟨rfl,hb⟩;have c3:=WO hR hb;have Z:=y.trans (hb.mono y.size);exact⟨rfl,aqD c3,_,_,rfl,rfl,aqC Z (MV _) (A,E,C,F)⟩
  ·intro X y
   refine(a4 X y).mono ?_;rintro r w' ⟨rfl,hb⟩;have Z:=y.trans (hb.mono y.size);exact⟨rfl,_,_,rfl,rfl,Z.trans ((WQ w' (o:=MP #[MF ME A,M3 E,MF ME C,MF ME F] 182)).mono Z.size)⟩
 have H:M6 (_/\_/\_/\_/\_/\_/\_):=⟨J,hbs,hw,hl,a,Q,hB⟩;have HR:M6 (_/\_):=⟨a6,h⟩;clear h hbs hw hl a Q hB a6 S J c2;go_enter Uw,Ul
 go_wp2_with fail
 rw[<-hW];clear hW;apply adX
 ·intro c7
  go_region_with (first|(go_at_call 88;refine(HG.out.1 _ (by first|exact(WQ _).drew|exact WQ _) (by first|exact M1 _ _|(show(World.alloc _ _).heap[_]?=_;exact heap_alloc_new _ _))).mono ?_;rintro r w2 ⟨rfl,⟨s0,s1,s2,s3,z0,z1,z2,z3,b0⟩,D,u,a1,a3,M⟩)|(go_at_call 88;refine(HG.out.2 _ (by first|exact(MY _ _).drew|exact Below.refl _ _)).mono ?_;rintro r w2 ⟨rfl,D,u,a1,a3,M⟩))
  all_goals
   rw[<-a3]
   try rw[<-a1]
   clear a3 a1
   try clear s0 s1 s2 s3 z0 z1 z2 z3 b0
   revert D u;exact c7.out
 intro D u M;clear c6 y0 y1 c0 a9 HG d0;have z:=H.out.1.below M.out;have a0:WV V V g w u:=(WV.F5 H.out.2.2.2.2.2.2).below M.out;have T:=WO HR.out.1 M.out;obtain⟨k0,_,k2,k3,k4,_,_,_,a5⟩:=abP T;have b9:=z.lt
 by_cases hc:c=0
 ·subst hc
  have a:=H.out.2.2.2.2.1;rw[Nf (by decide)]at a;have b8:=H.out.2.1.Jv (s:=e.slot) (g:=e.gen) (by rw[<-H.out.2.2.2.2.2.1]);obtain⟨i,Y⟩:∃i,i=aaF G.fls e.slot:=⟨_,rfl⟩;obtain⟨f,a8,hi,a2⟩:=apj H.out.2.1 b8 Y;rw[<-Y]at a;rw[a2]at a;obtain⟨bf,hp,_,c1⟩:=z.bf (Pb (Nx _) hi);have I:M6 (_/\_/\_/\_/\_):=⟨ahm z hi Y.symm hp H.out.2.1.Gb,z,a0,T,a⟩;have t:M6 (_/\_/\_/\_):=⟨hi,a2,hp,a8⟩;clear z a0 T a hi a2 hp c1 a8 Y
  go_wp2_with fail
  refine Nd I.out.1 ?_;rintro r w4 ⟨rfl,P⟩;have U:=I.out.2.1.below P;have a7:=WO I.out.2.2.2.1 P;have N:=U.Gw t.out.2.2.1 t.out.1;rw[t.out.2.1]at N;obtain⟨x0,x1,x2,x3,x4,x5,x6⟩:=N;clear k0 k2 k3 k4 a5 b9;obtain⟨k0,_,_,_,k4,_,_,_,a5⟩:=abP a7;have d1:=U.lt;have x:M6 (_/\_):=⟨U,I.out.2.2.1.below P⟩;clear U a7 P;have a:=I.out.2.2.2.2
  by_cases h3:e.kind=3
  ·rw[Nh h3]at a
   rw[h3]at k0;have d:M6 (_/\_):=⟨adY x.out.1 H.out.2.1 t.out.2.2.2 (by have:=H.out.2.2.2.1;omega) 7 0,a⟩;clear a h3
   go_wp2_with fail
   refine Nd d.out.1 ?_;rintro r K ⟨rfl,q,m,p,j⟩;have b:M6 (_/\_/\_):=⟨m,p,x.out.2.F0 j⟩;clear m p j;go_wp2
   go_end0
   rw[d.out.2];exact⟨rfl,q,b.out.1,b.out.2.1,b.out.2.2⟩
  ·rw[Nf h3]at a
   have c9:(e.kind == 3)=false:=by rw[Oh];exact h3
   by_cases h2:e.kind=2
   ·rw[Nh h2]at a
    rw[h2]at k0;have d:M6 (_/\_):=⟨ao4 x.out.1 H.out.2.1 H.out.2.2.1 (by have:=H.out.2.2.2.1;omega) t.out.1 t.out.2.2.1,a⟩;clear a h3 c9 h2
    go_wp2_with fail
    refine Nd d.out.1 ?_;rintro r K ⟨rfl,q,m,p,j⟩;have b:M6 (_/\_/\_):=⟨m,p,x.out.2.F0 j⟩;clear m p j;go_wp2
    go_end0
    rw[d.out.2];exact⟨rfl,q,b.out.1,b.out.2.1,b.out.2.2⟩
   ·rw[Nf h2]at a
    have d3:(e.kind == 2)=false:=by rw[Oh];exact h2
    cases hs:f.srv
    ·rw[hs]at x4 a
     rw[Nf (by decide)]at a;cases hg:e.good
     ·rw[hg]at k4 a
      rw[Nf (by decide)]at a;have d:M6 (_/\_):=⟨akl x.out.1 H.out.2.1 H.out.2.2.1 H.out.2.2.2.1 t.out.1 t.out.2.2.1 3,a⟩;clear a h3 h2
      go_wp2_with fail
      refine Nd d.out.1 ?_;rintro r K ⟨rfl,q,m,p,j⟩;have b:M6 (_/\_/\_):=⟨m,p,x.out.2.F0 j⟩;clear m p j;go_wp2
      go_end0
      rw[d.out.2];exact⟨rfl,q,b.out.1,b.out.2.1,b.out.2.2⟩
     ·rw[hg]at k4 a
      rw[Nh rfl]at a;have d:M6 (_/\_):=⟨aqy x.out.1 H.out.2.1 H.out.2.2.1 (by have:=H.out.2.2.2.1;omega) t.out.1 t.out.2.2.1,a⟩;clear a h3 h2
      go_wp2_with fail
      refine Nd d.out.1 ?_;rintro r K ⟨rfl,q,m,p,j⟩;have b:M6 (_/\_/\_):=⟨m,p,x.out.2.F0 j⟩;clear m p j;go_wp2
      go_end0
      rw[d.out.2];exact⟨rfl,q,b.out.1,b.out.2.1,b.out.2.2⟩
    ·rw[hs]at x4 a
     rw[Nh rfl]at a;have d:M6 (_/\_):=⟨aho (af1 x.out.1 (by have:=H.out.2.2.2.1;omega) 10 7),a⟩;clear a h3 h2
     go_wp2_with fail
     refine Nd d.out.1 ?_;rintro r K ⟨rfl,q,m,p,j⟩;have b:M6 (_/\_/\_):=⟨m,p,x.out.2.F0 j⟩;clear m p j;go_wp2
     go_end0
     rw[d.out.2];exact⟨rfl,q,b.out.1,b.out.2.1,b.out.2.2⟩
 ·have d2:(c != 0)=true:=by simpa using hc
  have a:=H.out.2.2.2.2.1;rw[Nh hc]at a;have d:M6 (_/\_/\_):=⟨aho (af1 z (by have:=H.out.2.2.2.1;omega) 10 c),a,a0⟩;clear a hc z a0 T
  go_wp2_with fail
  refine Nd d.out.1 ?_;rintro r K ⟨rfl,q,m,p,j⟩;have b:M6 (_/\_/\_):=⟨m,p,d.out.2.2.F0 j⟩;clear m p j;go_wp2
  go_end0
  rw[d.out.2.1];exact⟨rfl,q,b.out.1,b.out.2.1,b.out.2.2⟩
end
section
variable {base:Nat}{w:MO}{g:Nat}{V:Vs}{G:Gt}
abbrev acD(a b:M7):Obj:=MP #[a,b] 44
theorem aj3{a b:M7}(h:Yw B w va vb L R)(hk:k<B):Yw B ((w.setCell ⟨k,0,MH⟩ a).setCell ⟨k,1,MH⟩ b) va vb L R:=by
 have d:∀x,B<=x->((w.setCell ⟨k,0,MH⟩ a).setCell ⟨k,1,MH⟩ b).heap[x]?=w.heap[x]?:=fun x hx=>by
  have c:x≠k:=by omega
  rw[MU _ _ _ _ c,MU _ _ _ _ c]
 exact⟨⟨aat.Gf h.1.1 (by simp) fun x hx=>d x (h.2.1 x hx),aat.Gf h.1.2 (by simp) fun x hx=>d x (h.2.2 x hx)⟩,h.2⟩
theorem aj2(h:Yw B w va vb L R)(hb:MQ w.heap.size w w'):Yw B w' va vb L R:=⟨h.1.below hb,h.2⟩
theorem afF{A:Nat}(h:Yw B w va vb L R)(hb:A<=B):Yw A w va vb L R:=⟨h.1,fun b e=>Nm hb (h.2.1 b e),fun b e=>Nm hb (h.2.2 b e)⟩
def aog(base:Nat)(w:MO)(g:Nat)(V:Vs)(G':Gt)(b:Bool)(r:Ending)(w':MO):Prop :=
 r=MN (M3 b)/\∃V',OR base w' g V' G'/\(V'.pf=V.pf/\V'.cf=V.cf/\V'.bh=V.bh)/\WV V V' g w w'
abbrev ak2(a b c d e:Int):Obj:=MP #[MF ME a,MF ME b,MF ME c,MF ME d,MF ME e] 189
theorem aok(hb:MQ W.heap.size W w5)(hk:Yw X.heap.size w5 va vb L R)(hs:W.heap.size<=X.heap.size):
  ∃bx u3,bx=w5.heap.size/\u3=w5.alloc (acD va vb)/\M6 (MQ W.heap.size W u3/\u3.heap[bx]?=MI (acD va vb)/\W.heap.size<=bx/\Yw W.heap.size u3 va vb L R):=
 ⟨_,_,rfl,rfl,hb.trans ((WQ w5).mono hb.size),M1 _ _,hb.size,afF (aj2 hk (WQ w5)) hs⟩
theorem aol(hT:X.heap[W.heap.size]?=MI (acD (MG MH 0 0) (MG MH 0 0)))(hX:MQ X.heap.size X w5)(hb:MQ W.heap.size W w5)(hk:Yw X.heap.size w5 va vb L R):
  ∃bx u3,bx=W.heap.size/\u3=(w5.setCell ⟨W.heap.size,0,MH⟩ va).setCell ⟨W.heap.size,1,MH⟩ vb/\M6 (MQ W.heap.size W u3/\u3.heap[bx]?=MI (acD va vb)/\W.heap.size<=bx/\Yw W.heap.size u3 va vb L R):=by
 have a:W.heap.size<X.heap.size:=(ZAa.1 hT).1;exact⟨_,_,rfl,rfl,afD hb (MV _) 0 1 _ _,acb (WO hT hX),MV _,afF (aj3 hk a) (PJ a)⟩
theorem ajZ(h:OR base w g V G)(hl:G.out.length<=1000000)(kind:Int)(e:Ev) :
  Ni MK 58 #[gP g,MF ME kind,acH e] w (aog base w g V (Yv G kind e) (acC G kind e)):=by
 obtain⟨⟨⟨u,x⟩,I,S,er⟩,N⟩:∃O,O=YV G kind e:=⟨_,rfl⟩;have a5:Yv G kind e=ZM {G with liv:=u,req:=x} ⟨8,0,0,0,e.req,I,0⟩:=by unfold Yv;rw[<-N]
 have a0:acC G kind e=(S && (I == 0)):=by unfold acC;rw[<-N]
 rw[a5,a0];obtain⟨W,Y⟩:∃W,W=(w.alloc (aaE e)).alloc (ak2 e.req kind e.be e.wt 0):=⟨_,rfl⟩;have hx:=acu w (aaE e) (ak2 e.req kind e.be e.wt 0);rw[<-Y]at hx;obtain⟨a1,j,Z,c2⟩:=hx;have i:=h.below Z;have a2:=i.Gn;have a3:=i.GD;have b0:=i.Gm;have c5:=i.c5;have d7:=h.lt;have E:=i.lt;have y0:W.cell? ⟨w.heap.size+1,0,MH⟩=MI (MF ME e.req):=by rw[MW W _ 0 _ _ (0,0) j];rfl
 have y1:W.cell? ⟨w.heap.size+1,1,MH⟩=MI (MF ME kind):=by rw[MW W _ 1 _ _ (0,0) j];rfl
 have y2:W.cell? ⟨w.heap.size+1,2,MH⟩=MI (MF ME e.be):=by rw[MW W _ 2 _ _ (0,0) j];rfl
 have y3:W.cell? ⟨w.heap.size+1,3,MH⟩=MI (MF ME e.wt):=by rw[MW W _ 3 _ _ (0,0) j];rfl
 have y4:W.cell? ⟨w.heap.size+1,4,MH⟩=MI (MF ME 0):=by rw[MW W _ 4 _ _ (0,0) j];rfl
 have z:w.heap.size+1<W.heap.size:=(ZAa.1 j).1;have HK:M6 (∀X,MQ W.heap.size W X->Ni MK 94 #[Ny #[MG V.pl G.liv.length V.cl,MG V.pr G.req.length V.cr],Ny #[MF ME e.req,MF ME kind,MF ME e.be,MF ME e.wt,MF ME 0],MF ME G.now,MF ME G.cfg.drain] X fun r w'=>∃p c q m,r=MN (Nv #[Ny #[MG p u.length c,MG q x.length m],MF ME I,M3 S,MF ME er]) /\
    M6 (MQ X.heap.size X w'/\MQ W.heap.size W w'/\Yw X.heap.size w' (MG p u.length c) (MG q x.length m) u x/\W.heap.size<=X.heap.size)/\(∀n,n<X.heap.size->n<w'.heap.size)/\(∀b o,b<X.heap.size->w'.cell? ⟨b,o,MH⟩=X.cell? ⟨b,o,MH⟩)/\(∀b o,b<X.heap.size->w'.frozen? ⟨b,o,MH⟩=X.frozen? ⟨b,o,MH⟩)):=fun X hX=>by
  refine(arO _ _ G.liv G.req e.req kind e.be e.wt 0 G.now G.cfg.drain X (i.below hX).rest.book.now).mono ?_;have c1:ZU G.liv G.req (e.req,kind,e.be,e.wt,0) G.now G.cfg.drain=((u,x),I,S,er):=N.symm;rw[c1];rintro r w' ⟨p,c,q,m,rfl,P,K⟩;exact⟨p,c,q,m,rfl,⟨K,hX.trans (K.mono hX.size),P,hX.size⟩,fun n hn=>M8 hn K.size,fun b o hb'=>K.cell (p:=⟨b,o,MH⟩) hb',fun b o hb'=>OM (a:=⟨b,o,MH⟩) (K.block b hb')⟩
 have t:M6 (∀X,MQ W.heap.size W X->X.cell? ⟨g,19,MH⟩=MI (MG V.pl G.liv.length V.cl)/\X.cell? ⟨g,20,MH⟩=MI (MG V.pr G.req.length V.cr)/\X.cell? ⟨g,16,MH⟩=MI (MF ME G.now)/\X.cell? ⟨g,5,MH⟩=MI (MF ME G.cfg.drain)/\X.cell? ⟨w.heap.size+1,0,MH⟩=MI (MF ME e.req)/\X.cell? ⟨w.heap.size+1,1,MH⟩=MI (MF ME kind)/\X.cell? ⟨w.heap.size+1,2,MH⟩=MI (MF ME e.be)/\X.cell? ⟨w.heap.size+1,3,MH⟩=MI (MF ME e.wt)/\X.cell? ⟨w.heap.size+1,4,MH⟩=MI (MF ME 0)/\MQ W.heap.size W X):=fun X hX =>
  ⟨(hX.cell E).trans a2,(hX.cell E).trans a3,(hX.cell E).trans b0,(hX.cell E).trans c5,(hX.cell z).trans y0,(hX.cell z).trans y1,(hX.cell z).trans y2,(hX.cell z).trans y3,(hX.cell z).trans y4,hX⟩
 have H:M6 (_/\_/\_/\_):=⟨i,hl,WV.F5 (V:=V) (g:=g) Z,a1⟩;clear N a5 a0 Z a1 j c2 i h hl;go_enter Tq,Te
 go_wp2_with fail
 rw[<-Y];clear Y;apply adX
 ·intro a9
  go_region_held3 (fun X=>X.cell? ⟨g,19,MH⟩=MI (MG V.pl G.liv.length V.cl)/\X.cell? ⟨g,20,MH⟩=MI (MG V.pr G.req.length V.cr)/\X.cell? ⟨g,16,MH⟩=MI (MF ME G.now)/\X.cell? ⟨g,5,MH⟩=MI (MF ME G.cfg.drain)/\X.cell? ⟨w.heap.size+1,0,MH⟩=MI (MF ME e.req)/\X.cell? ⟨w.heap.size+1,1,MH⟩=MI (MF ME kind)/\X.cell? ⟨w.heap.size+1,2,MH⟩=MI (MF ME e.be)/\X.cell? ⟨w.heap.size+1,3,MH⟩=MI (MF ME e.wt)/\X.cell? ⟨w.heap.size+1,4,MH⟩=MI (MF ME 0)/\MQ W.heap.size W X) (first|exact t.out _ ((MY _ _).drew)|exact t.out _ (((MY _ _).drew).alloc (by simp) _)|exact t.out _ d.out.2.1|exact t.out _ (d.out.2.1.alloc d.out.2.1.size _)|exact t.out _ (((MY _ _).alloc (MV _) _).drew)|exact t.out _ (afD d.out.2.1 (MV _) 0 1 _ _)) (first|(go_at_call 94;refine(HK.out _ ?hbW).mono ?_;(case hbW=>first|with_reducible assumption|exact(MY _ _).drew|exact((MY _ _).drew).alloc (by simp) _|exact((Below.refl _ _).alloc (Nat.le_refl _) _).drew);rintro r w5 ⟨p,c,q,m,rfl,d,c3,c0,c6⟩))
  all_goals
   clear c3 c0 c6;rename_i hHe;clear hHe
   first
   | (obtain⟨y,f,s,F,T⟩:=aok d.out.2.1 d.out.2.2.1 d.out.2.2.2
      rw[<-F]
      try rw[<-s]
      clear F s d;revert p c q m y f;exact a9.out)
   | (obtain⟨y,f,s,F,T⟩:=aol (W:=W) (by first|exact M1 _ _|(show(World.alloc _ _).heap[_]?=_;exact heap_alloc_new _ _)) d.out.1 d.out.2.1 d.out.2.2.1
      rw[<-F]
      try rw[<-s]
      clear F s d;revert p c q m y f;exact a9.out)
 intro p c q m y f T;clear a2 a3 b0 c5 y0 y1 y2 y3 y4 z E HK t;obtain⟨C,M,s,P⟩:=T.out;clear T;have A:=H.out.1.below C;have k0:f.cell? ⟨y,0,MH⟩=MI (MG p u.length c):=by rw[MW f _ 0 _ _ (0,0) M];rfl
 have k1:f.cell? ⟨y,1,MH⟩=MI (MG q x.length m):=by rw[MW f _ 1 _ _ (0,0) M];rfl
 have d3:y<f.heap.size:=(ZAa.1 M).1;have d2:=A.Gn;have d5:=A.GD;have d1:=A.fz 19;have d6:=A.fz 20;have c9:=A.lt;obtain⟨Q,J⟩:∃Q,Q=(f.setCell ⟨g,19,MH⟩ (MG p u.length c)).setCell ⟨g,20,MH⟩ (MG q x.length m):=⟨_,rfl⟩;have U:=H.out.1.Iq C P;rw[<-J]at U;have a4:WV V {V with pl:=p,cl:=c,pr:=q,cr:=m} g w Q:=by
  rw[J];exact(((H.out.2.2.1.below C).F4 19 _).F4 20 _).Gp fun _ h=>h
 have b9:Q.heap[w.heap.size]?=MI (aaE e):=by
  have a6:w.heap.size≠g:=by omega
  rw[J,MU _ _ _ _ a6,MU _ _ _ _ a6];exact WO H.out.2.2.2 C
 obtain⟨_,_,_,_,_,v5,_,_,d4⟩:=abP (WO H.out.2.2.2 C);have d0:¬w.heap.size=g:=by omega
 have c7:¬g=w.heap.size:=by omega
 have H4:M6 (_/\_):=⟨aeR U H.out.2.1 ⟨8,0,0,0,e.req,I,0⟩,a4⟩;clear A U a4 b9 C M P s
 go_wp2_with fail
 rw[<-J];clear J;refine Nd H4.out.1 ?_;rintro r w5 ⟨rfl,V5,a7,b8,a8⟩;have D:M6 (_/\_/\_):=⟨a7,b8,H4.out.2.F0 a8⟩;clear a7 b8 a8;cases S
 ·go_wp2
  go_ret;exact⟨rfl,V5,D.out.1,D.out.2.1,D.out.2.2⟩
 ·go_wp2
  go_ret;exact⟨by simp,V5,D.out.1,D.out.2.1,D.out.2.2⟩
end
section
variable {base:Nat}{w:MO}{g:Nat}{V:Vs}{G:Gt}
theorem akv{r:Ending}{w1:MO}{V1:Vs}(hF:WV V V1 g w w1)(hV:V1.pf=V.pf/\V1.cf=V.cf/\V1.bh=V.bh)(h:aaa base w1 g V1 G' r w'):aaa base w g V G' r w':=by
 obtain⟨e,b,d,a,c⟩:=h;exact⟨e,b,d,⟨a.1.trans hV.1,a.2.1.trans hV.2.1,a.2.2.trans hV.2.2⟩,hF.F0 c⟩
theorem aon(kind:Int)(e:Ev):(Yv G kind e).wts=G.wts/\(Yv G kind e).out.length=G.out.length+1/\(Yv G kind e).cfg=G.cfg:=⟨rfl,by show(G.out++[_]).length=_;simp,rfl⟩
theorem aqn(h:OR base w g V G)(him:Im G)(hl:G.out.length<=900000)(e:Ev)(he:XZ e) :
  Ni MK 59 #[gP g,acH e] w (aaa base w g V (abg G e)):=by
 obtain⟨O,d⟩:∃O,O=abg G e:=⟨_,rfl⟩;rw[<-d];unfold abg at d;obtain⟨x,hx⟩:∃x,x=WS G.liv e.be:=⟨_,rfl⟩;obtain⟨W,T⟩:∃W,W=w.alloc (aaE e):=⟨_,rfl⟩;have hB:MQ w.heap.size w W:=by rw[T];exact WQ w
 have hR:W.heap[w.heap.size]?=MI (aaE e):=by rw[T];exact M1 _ _
 have hG:=h.below hB;have a7:∀X:MO,(Instr.field 186 (abR x) 1).run MK X=.ok (MF ME x.2.1) X:=fun X=>by kernel_rfl
 obtain⟨_,_,_,_,_,_,z,_,y⟩:=abP hR;have d9:=h.lt;have c6:¬V.own g w.heap.size:=h.rest.new (MV _);have HL:=afR hG e.be;rw[<-hx]at HL;have a3:WY G.liv e.be=x.2.1:=by rw[hx]
 rw[a3]at d;have H:M6 (_/\_/\_/\_/\_/\_/\_/\_):=⟨HL,hG,hR,WV.F5 (V:=V) (g:=g) hB,him,hl,d,a3⟩;have HE:M6 _:=he;have b8:M6 _:=c6;clear HL hG hR hB him hl d a3 h he hx c6;go_enter Tryz.func59,Tryz.ntmps59
 go_wp2_with fail
 rw[<-T];clear T;refine Nd H.out.1 ?_;rintro r w1 ⟨rfl,D⟩;have a2:=H.out.2.1.below D;have K:=WO H.out.2.2.1 D;have N:=H.out.2.2.2.1.below D;clear z y;obtain⟨k0,k1,k2,k3,k4,k5,z,k7,y⟩:=abP K;have E:=ajZ a2 (by have:=H.out.2.2.2.2.2.1;omega) 2 e;obtain⟨b,U⟩:∃b,b=acC G 2 e:=⟨_,rfl⟩;have d:=H.out.2.2.2.2.2.2.1;rw[<-U]at E d;have HB:M6 _:=U;cases b
 ·rw[Nh rfl]at d
  have m:M6 (_/\_/\_):=⟨E,N,d⟩;clear E N d U a2 K D
  go_wp2_with fail
  refine Nd m.out.1 ?_;rintro r S ⟨rfl,o,i,s,q⟩;have f:M6 (_/\_/\_):=⟨i,s,m.out.2.1.F0 q⟩;clear i s q;go_wp2
  go_end0
  rw[m.out.2.2];exact⟨rfl,o,f.out.1,f.out.2.1,f.out.2.2⟩
 ·rw[Nf (by decide)]at d
  have m:M6 (_/\_/\_/\_):=⟨E,N,d,K⟩;clear E N d U a2 K D
  go_wp2_with fail
  refine Nd m.out.1 ?_;rintro r S ⟨rfl,o,i,s,q⟩;have P:=q.Gf m.out.2.2.2 b8.out;have d7:=q.Ik (ZAa.1 m.out.2.2.2).1 b8.out;clear k0 k1 k2 k3 k4 k5 z k7 y;obtain⟨_,_,_,_,_,k5,z,_,y⟩:=abP P;have j:=aon (G:=G) 2 e;have C:(Yv G 2 e).out.length<=1000000:=by rw[j.2.1];have:=H.out.2.2.2.2.2.1;omega
  have I:=m.out.2.1.F0 q;have d:=m.out.2.2.1;obtain⟨Y,J⟩:∃Y,Y=x.2.1:=⟨_,rfl⟩;rw[<-J]at d⊢
  by_cases h1:Y=1
  ·rw[Nh h1]at d
   subst h1;have f:M6 (_/\_/\_/\_):=⟨alj i C e.be e.req,s,I,d⟩;clear i s q I d P C j J a7
   go_wp2_with fail
   refine Nd f.out.1 ?_;rintro r w3 ⟨rfl,V3,F⟩;have H3:M6 _:=F;clear F;go_wp2
   go_end0
   rw[f.out.2.2.2];exact akv f.out.2.2.1 f.out.2.1 ⟨rfl,V3,H3.out⟩
  ·rw[Nf h1]at d
   have d8:(Y == 1)=false:=beq_eq_false_iff_ne.2 h1;have a5:=ahC H.out.2.2.2.2.1.bs (e:=e) HE.out.req;rw[<-HB.out]at a5;obtain⟨t,M⟩:=NL HE.out.be.1;have a0:t<12:=by have:=HE.out.be.2;omega
   have a1:WY G.liv e.be=2:=by
    rcases a5 with⟨h,_⟩|⟨_,_,_,h,_⟩
    ·cases h
    ·rcases h with h|h
     ·rw[H.out.2.2.2.2.2.2.2,<-J]at h;exact absurd h h1
     ·exact h
   have c7:0<G.wts.getD t 0:=by
    have h2:=H.out.2.2.2.2.1.ring t a0;rw[h2,<-M,Nh a1];have:=H.out.2.2.2.2.1.bs.Iv (b:=e.be) (by rw[a1];decide);omega
   obtain⟨A,hA⟩:∃A,A=Yv G 2 e:=⟨_,rfl⟩;rw[<-hA]at i C j d;have a9:e.be.toNat=t:=by rw[M];rfl
   rw[a9]at d;have b9:XI A.wts:=by rw[j.1];exact H.out.2.2.2.2.1.bs.wts
   have c1:=i.GX;have d1:=i.lt;rw[j.1]at c1;have a4:OR base S g o {A with wts:=G.wts}:=by rw[<-j.1];exact i
   have c0:M6 (∀X,MQ S.heap.size S X->Ni MK 98 #[Ny #[MG o.ps (WW G.wts).length o.cs],MF ME e.be] X fun r w'=>∃p c n,r=MN (Nv #[Ny #[MG p n c],MF ME 0])/\w'.cell? ⟨g,21,MH⟩=MI (MG o.ps (WW G.wts).length o.cs)/\w'.frozen? ⟨g,21,MH⟩=Nb/\g<w'.heap.size /\
     ∃u,u=w'.setCell ⟨g,21,MH⟩ (MG p n c)/\M6 (OR base u g {o with ps:=p,cs:=c} {A with wts:=G.wts.set t 0}/\WV V {o with ps:=p,cs:=c} g w u/\u.heap[w.heap.size]?=MI (aaE e))):=by
    intro X Z;rw[M];refine(at1 _ G.wts t X (by rw[<-j.1];exact b9) (by rw[<-j.1];exact(i.below Z).rest.ring.now) a0 c7).mono ?_;rintro r w' ⟨p,c,rfl,ho,d5⟩;have Q:=Z.trans (d5.mono Z.size);have a6:=a4.below Q;have d2:=a4.IJ (a:=G.wts.set t 0) Q (ho.mono Z.size);refine⟨p,c,_,rfl,a6.GX,a6.fz 21,a6.lt,_,rfl,d2,((I.below Q).F4 21 _).Gp fun _ h=>h,?_⟩;have c9:w.heap.size≠g:=by omega
    rw[MU _ _ _ _ c9];exact WO P Q
   have f:M6 (_/\_/\_):=⟨s,d,C⟩;clear i s q I d P C j J a7 a4 b9 c7 a1 a5 hA h1 d7 a9 M a0
   go_wp2_with fail
   apply adX
   ·intro d4
    go_region_with (first|(go_at_call 98;refine(c0.out _ (by first|exact(MY _ _).drew|exact Below.refl _ _)).mono ?_;rintro r w3 ⟨p,c,n,rfl,d3,d6,d0,u,c3,hQ⟩))
    all_goals
     rw[<-c3];clear c3 d3 d6 d0;revert p c n u;exact d4.out
   intro p c n u hQ;obtain⟨c2,b0,a8⟩:=hQ.out;clear hQ c0 c1 d1 k5 z y;obtain⟨_,_,_,_,_,_,z,_,y⟩:=abP a8;have H4:M6 (_/\_):=⟨ahg c2 f.out.2.2 e.be,b0⟩;clear c2 b0 a8
   go_wp2_with fail
   refine Nd H4.out.1 ?_;rintro r w5 ⟨rfl,V5,F⟩;have H5:M6 _:=F;clear F;go_wp2
   go_end0
   rw[f.out.2.1];exact akv H4.out.2 f.out.1 ⟨rfl,V5,H5.out⟩
end
section
variable {base:Nat}{w:MO}{g:Nat}{V:Vs}{G:Gt}
theorem aeJ{g:Nat}{V V':Vs}(h:aaf w v l)(hF:WV V V' g w w')(hn:∀b,v.ownBlock=MI b->¬V.own g b):aaf w' v l:=by
 obtain⟨a,j,e,o,p,c⟩:=h;refine⟨a,j,e,o,p,?_⟩;rcases c with c|⟨b,off,d,f,m⟩
 ·exact Nt c
 ·refine NF ⟨b,off,d,M8 f hF.size,fun i hi=>?_⟩
  rw[<-m i hi];have:=hF.block b f (hn b (by rw[e,d];rfl));simp only[Nl,this]
theorem aq3(h:Im G)(hk:k<(XW G.liv).length):∃b:Nat,b<12/\(XW G.liv)[k]=(b:Int)/\¬0<(((XW G.liv).take k).foldl YX {G with liv:=G.liv.map (XH G.now)}).wts.getD b 0:=by
 have s:=Nk hk;obtain⟨x,i,t,m⟩:=ad2.1 s;have p:=(h.bs.lf i).1.1;rw[<-m];obtain⟨b,a⟩:=NL p.1;refine⟨b,by omega,a,?_⟩;have o:∀c∈(XW G.liv).take k,0<=c/\c<12:=fun c d=>by
  obtain⟨y,u,_,e⟩:=ad2.1 (List.mem_of_mem_take d);have:=(h.bs.lf u).1.1;omega
 have f:=alq (L:=G.liv) h.bs.Gv;rw[aln _ {G with liv:=G.liv.map (XH G.now)} h.bs.wts.1 o (f.sublist (List.take_sublist _ _)) b (by omega)];have r:(b:Int)∉ (XW G.liv).take k:=by
  rw[<-a,m];intro d;obtain⟨j,z,e⟩:=List.mem_iff_getElem.1 d;rw[List.getElem_take]at e;rw[NH]at z;exact List.pairwise_iff_getElem.1 f j k (by omega) hk (by omega) e
 rw[Nf r];show ¬0<G.wts.getD b 0;rw[h.ring b (by omega),<-a];have q:WY G.liv x.1=1:=by show(WS G.liv x.1).2.1=1;rw[abd h.bs.Gv i];exact t
 rw[Nf (by rw[q];decide)]
 decide
theorem aqZ{vs:M7}(hb:MQ W.heap.size W w5)(hk:Yw X.heap.size w5 va vb L R)(hs:W.heap.size<=X.heap.size)(hi:aaf w5 vs l)(hn:∀b,vs.ownBlock=MI b->X.heap.size<=b):
  ∃bx u3,bx=w5.heap.size/\u3=w5.alloc (acD va vb)/\M6 (MQ W.heap.size W u3/\u3.heap[bx]?=MI (acD va vb)/\W.heap.size<=bx/\Yw W.heap.size u3 va vb L R/\aaf u3 vs l/\∀b,vs.ownBlock=MI b->W.heap.size<=b):=
 ⟨_,_,rfl,rfl,hb.trans ((WQ w5).mono hb.size),M1 _ _,hb.size,afF (aj2 hk (WQ w5)) hs,aat.below hi (WQ w5),fun b e=>Nm hs (hn b e)⟩
theorem aq0{vs:M7}(hT:X.heap[W.heap.size]?=MI (acD (MG MH 0 0) (MG MH 0 0)))(hX:MQ X.heap.size X w5)(hb:MQ W.heap.size W w5)(hk:Yw X.heap.size w5 va vb L R)(hi:aaf w5 vs l)(hn:∀b,vs.ownBlock=MI b->X.heap.size<=b):
  ∃bx u3,bx=W.heap.size/\u3=(w5.setCell ⟨W.heap.size,0,MH⟩ va).setCell ⟨W.heap.size,1,MH⟩ vb/\M6 (MQ W.heap.size W u3/\u3.heap[bx]?=MI (acD va vb)/\W.heap.size<=bx/\Yw W.heap.size u3 va vb L R/\aaf u3 vs l/\∀b,vs.ownBlock=MI b->W.heap.size<=b):=by
 have a:W.heap.size<X.heap.size:=(ZAa.1 hT).1;refine⟨_,_,rfl,rfl,afD hb (MV _) 0 1 _ _,acb (WO hT hX),MV _,afF (aj3 hk a) (PJ a),aat.Gf hi (by simp) fun b e=>?_,fun b e=>Nm (PJ a) (hn b e)⟩;have c:b≠W.heap.size:=by have:=hn b e;omega
 rw[MU _ _ _ _ c,MU _ _ _ _ c]
theorem aq1(b:Nat):YX G (b:Int)={G with hea:=G.hea.set b XM,wts:=G.wts.set b (WS G.liv (b:Int)).2.2.1}:=rfl
theorem aq2(h:OR base w g V G)(him:Im G) :
  Ni MK 100 #[gP g] w (aaa base w g V (YH G)):=by
 rw[af3 him.bs];have c6:abn G.liv G.req G.now=((G.liv.map (XH G.now),G.req),XW G.liv,0):=amf him.bs.book him.bs.GN;obtain⟨d,a2⟩:∃d,d=XW G.liv:=⟨_,rfl⟩;obtain⟨C,a3⟩:∃C,C=G.liv.map (XH G.now):=⟨_,rfl⟩;have d7:∀(k:Nat) (hk:k<d.length),∃b:Nat,b<12/\d[k]=(b:Int)/\¬0<((d.take k).foldl YX {G with liv:=C}).wts.getD b 0:=by rw[a2,a3];exact fun k hk=>aq3 him hk
 have e5:∀b∈d,WY C b≠0:=by rw[a2,a3];exact fun b y=>by rw[alr him.bs y];decide
 have d9:Bs {G with liv:=C}:=by rw[a3];exact him.bs.IP
 have j4:d.length<=900:=by
  rw[a2];unfold XW;rw[N0];exact Nm (O1 _ _) (by have:=him.bs.book.1.1;omega)
 rw[<-a2,<-a3]at c6⊢;have e4:=h.Gn;have f1:=h.GD;have f4:=h.Gm;have c3:=h.lt;have HK:M6 (∀X,MQ w.heap.size w X->Ni MK 148 #[Ny #[MG V.pl G.liv.length V.cl,MG V.pr G.req.length V.cr],MF ME G.now] X fun r w'=>∃p c q m s k,r=MN (Nv #[Ny #[MG p C.length c,MG q G.req.length m],MG s d.length k,MF ME 0]) /\
    M6 (MQ X.heap.size X w'/\MQ w.heap.size w w'/\Yw X.heap.size w' (MG p C.length c) (MG q G.req.length m) C G.req/\w.heap.size<=X.heap.size/\aaf w' (MG s d.length k) d/\(∀b,(MG s d.length k).ownBlock=MI b->X.heap.size<=b))/\(∀n,n<X.heap.size->n<w'.heap.size)/\(∀b o,b<X.heap.size->w'.cell? ⟨b,o,MH⟩=X.cell? ⟨b,o,MH⟩)/\(∀b o,b<X.heap.size->w'.frozen? ⟨b,o,MH⟩=X.frozen? ⟨b,o,MH⟩)):=fun X hX=>by
  refine(asE _ _ G.liv G.req G.now X (h.below hX).rest.book.now).mono ?_;rw[c6];rintro r w' ⟨p,c,q,m,s,k,rfl,b0,h9,y,f9⟩;exact⟨p,c,q,m,s,k,rfl,⟨y,hX.trans (y.mono hX.size),b0,hX.size,h9,f9⟩,fun n hn=>M8 hn y.size,fun b o Z=>y.cell (p:=⟨b,o,MH⟩) Z,fun b o Z=>OM (a:=⟨b,o,MH⟩) (y.block b Z)⟩
 have Q:M6 (∀X,MQ w.heap.size w X->X.cell? ⟨g,19,MH⟩=MI (MG V.pl G.liv.length V.cl)/\X.cell? ⟨g,20,MH⟩=MI (MG V.pr G.req.length V.cr)/\X.cell? ⟨g,16,MH⟩=MI (MF ME G.now)/\MQ w.heap.size w X):=fun X hX =>
  ⟨(hX.cell c3).trans e4,(hX.cell c3).trans f1,(hX.cell c3).trans f4,hX⟩
 have H:M6 (_/\_/\_/\_):=⟨h,d7,e5,d9⟩;clear d7 e5 d9 h him c6 a2 a3;go_enter ax3,axZ
 go_wp2_with fail
 apply adX
 ·intro a9
  go_region_held3 (fun X=>X.cell? ⟨g,19,MH⟩=MI (MG V.pl G.liv.length V.cl)/\X.cell? ⟨g,20,MH⟩=MI (MG V.pr G.req.length V.cr)/\X.cell? ⟨g,16,MH⟩=MI (MF ME G.now)/\MQ w.heap.size w X) (first|exact Q.out _ ((MY _ _).drew)|exact Q.out _ (((MY _ _).drew).alloc (by simp) _)|exact Q.out _ A.out.2.1|exact Q.out _ (A.out.2.1.alloc A.out.2.1.size _)|exact Q.out _ (((MY _ _).alloc (MV _) _).drew)|exact Q.out _ (afD A.out.2.1 (MV _) 0 1 _ _)) (first|(go_at_call 148;refine(HK.out _ ?hbW).mono ?_;(case hbW=>first|with_reducible assumption|exact(MY _ _).drew|exact((MY _ _).drew).alloc (by simp) _|exact((Below.refl _ _).alloc (Nat.le_refl _) _).drew);rintro r w5 ⟨p,c,q,m,s,k,rfl,A,i7,i0,i8⟩))
  all_goals
   clear i7 i0 i8;rename_i hHe;clear hHe
   first
   | (obtain⟨T,i,P,N,O⟩:=aqZ A.out.2.1 A.out.2.2.1 A.out.2.2.2.1 A.out.2.2.2.2.1 A.out.2.2.2.2.2
      rw[<-N]
      try rw[<-P]
      clear N P A;revert p c q m s k T i;exact a9.out)
   | (obtain⟨T,i,P,N,O⟩:=aq0 (W:=w) (by first|exact M1 _ _|(show(World.alloc _ _).heap[_]?=_;exact heap_alloc_new _ _)) A.out.1 A.out.2.1 A.out.2.2.1 A.out.2.2.2.2.1 A.out.2.2.2.2.2
      rw[<-N]
      try rw[<-P]
      clear N P A;revert p c q m s k T i;exact a9.out)
 intro p c q m s k T i O;clear e4 f1 f4 HK Q;obtain⟨K,a6,P,b0,d6,d3⟩:=O.out;clear O;have J:=H.out.1.below K;have k0:i.cell? ⟨T,0,MH⟩=MI (MG p C.length c):=by rw[MW i _ 0 _ _ (0,0) a6];rfl
 have k1:i.cell? ⟨T,1,MH⟩=MI (MG q G.req.length m):=by rw[MW i _ 1 _ _ (0,0) a6];rfl
 have d0:T<i.heap.size:=(ZAa.1 a6).1;have i4:=J.Gn;have g5:=J.GD;have g3:=J.fz 19;have h8:=J.fz 20;have c2:=J.lt;obtain⟨u4,a4⟩:∃u4,u4=(i.setCell ⟨g,19,MH⟩ (MG p C.length c)).setCell ⟨g,20,MH⟩ (MG q G.req.length m):=⟨_,rfl⟩;have a8:=H.out.1.Iq K b0;rw[<-a4]at a8;have c9:WV V {V with pl:=p,cl:=c,pr:=q,cr:=m} g w u4:=by
  rw[a4];exact(((WV.F5 K).F4 19 _).F4 20 _).Gp fun _ h=>h
 have d1:∀b,(MG s d.length k).ownBlock=MI b->¬V.own g b:=fun b y=>H.out.1.rest.new (d3 b y)
 have e0:aaf u4 (MG s d.length k) d:=by
  refine aeJ (V:=V) (V':=V) (g:=g) d6 (w':=u4) ?_ d1;rw[a4];exact((WV.Gy V g i).F4 19 _).F4 20 _
 obtain⟨S,d2⟩:∃S:Vs,S={V with pl:=p,cl:=c,pr:=q,cr:=m}:=⟨_,rfl⟩;rw[<-d2]at a8 c9;have f2:S.pf=V.pf/\S.cf=V.cf/\S.bh=V.bh/\S.po=V.po:=by rw[d2];exact⟨rfl,rfl,rfl,rfl⟩
 have U:M6 (_/\_/\_/\_/\_):=⟨a8,c9,e0,d1,f2⟩;clear J a8 c9 K a6 b0 P d6 e0 d3 d1 d2 f2
 go_wp2_with fail
 rw[<-a4];clear a4 i4 g5 g3 h8 k0 k1 d0 c2
 go_loopw [29] (fun t wr=>∃(j:Nat) (V':Vs),t=MF ME (j:Int)/\j<=d.length/\M6 (OR base wr g V' ((d.take j).foldl YX {G with liv:=C})/\(V'.pf=V.pf/\V'.cf=V.cf/\V'.bh=V.bh/\V'.po=V.po)/\WV V V' g w wr/\aaf wr (MG s d.length k) d)) (fun t _=>d.length-(intOf t).toNat)
 case atStart=>exact⟨0,S,rfl,Nx _,U.out.1,U.out.2.2.2.2,U.out.2.1,U.out.2.2.1⟩
 case round =>
  obtain⟨j,V',rfl,hj,D⟩:=hrel;obtain⟨W,hW⟩:∃W,W=wr:=⟨_,rfl⟩;subst hW
  by_cases hlt:j<d.length
  ·have g6:(j:Int)<(d.length:Int):=by omega
   obtain⟨j1,j5,g0,f7,e3,e9⟩:=aaf.F6 D.out.2.2.2;injection g0 with eg1 _ eg3;unfold NE at e3;rw[<-eg3]at f7 e3;clear eg3;obtain⟨b1,o1,i2,i1,z0⟩:=e9 j hlt;obtain⟨f,a5,a7,b9⟩:=H.out.2.1 j hlt;rw[a7]at z0;obtain⟨z,Y⟩:∃z,z=(d.take j).foldl YX {G with liv:=C}:=⟨_,rfl⟩;have c0:(d.take (j+1)).foldl YX {G with liv:=C}=YX z (f:Int):=by
    rw[M9 hlt,Pu,<-Y,a7];rfl
   have d4:=ahR (d.take j) {G with liv:=C};have c1:Bs z:=by rw[Y];exact alm _ _ H.out.2.2.2 fun b y=>H.out.2.2.1 b (List.mem_of_mem_take y)
   have d8:z.liv=C:=by rw[Y];exact d4.2.2.2.1
   obtain⟨x,hx⟩:∃x,x=WS z.liv (f:Int):=⟨_,rfl⟩;have e7:1<=x.2.2.1/\x.2.2.1<=8:=by
    have g7:WY z.liv (f:Int)≠0:=by rw[d8,<-a7];exact H.out.2.2.1 _ (Nk hlt)
    rw[hx];exact(c1.Iv g7).2
   rw[aq1,<-hx]at c0;have F:=D.out.1;rw[<-Y]at F b9;obtain⟨m0,x0,_,_,_,q0,q1,q2,q3,qf,d0⟩:=F.G5 a5;have h7:=F.GI;have g9:=F.G8;have f8:=F.lt;have i5:¬g=V'.bh:=fun e=>F.rest.hg e.symm
   have g2:¬V'.bh=g:=F.rest.hg;have j6:(f:Int)<12:=by omega
   have j7:(0:Int)<=(f:Int):=by omega
   have v0:=qf (f*4);have v1:=qf (f*4+1);have v2:=qf (f*4+2);have v3:=qf (f*4+3);obtain⟨E,a0⟩:∃E,E=(((W.setCell ⟨V'.bh,f*4,MH⟩ (MG MH 0 0)).setCell ⟨V'.bh,f*4+1,MH⟩ (M3 Nb)).setCell ⟨V'.bh,f*4+2,MH⟩ (MF ME 0)).setCell ⟨V'.bh,f*4+3,MH⟩ (MF ME 0):=⟨_,rfl⟩;have I:=F.Ir (x:=XM) (p:=MH) (c:=0) a5 (fun X _ _=>ah2 X);have b8:=D.out.2.2.1.F0 (F.Hz (MY _ _) f (MG MH 0 0) (M3 Nb) (MF ME 0) (MF ME 0) (V'.ms.set f (MH,0)));have d5:aaf E (MG s d.length k) d:=by
    refine aeJ (V:=V') (g:=g) D.out.2.2.2 (V':={V' with ms:=V'.ms.set f (MH,0)}) (w':=E) (by rw[a0];exact F.Hz (MY _ _) f _ _ _ _ _) fun b y M=>U.out.2.2.2.1 b y ?_
    have hv:=D.out.2.1;unfold Vs.own at M⊢;rw[hv.1,hv.2.2.1,hv.2.2.2]at M;exact M
   have I:OR base E g {V' with ms:=V'.ms.set f (MH,0)} {z with hea:=z.hea.set f XM}:=by rw[a0];exact I
   rw[<-a0]at b8;obtain⟨u,c7⟩:∃u:Vs,u={V' with ms:=V'.ms.set f (MH,0)}:=⟨_,rfl⟩;rw[<-c7]at I b8;have a1:u.pf=V.pf/\u.cf=V.cf/\u.bh=V.bh/\u.po=V.po:=by rw[c7];exact D.out.2.1
   have i6:=I.GX;have g1:=I.lt;have j0:∀X:MO,(Instr.field 186 (abR x) 2).run MK X=.ok (MF ME x.2.2.1) X:=fun X=>by kernel_rfl
   have f6:M6 (∀X,MQ E.heap.size E X->Ni MK 96 #[gP g,MF ME (f:Int)] X fun r w'=>r=MN (abR x)/\w'.cell? ⟨g,21,MH⟩=MI (MG u.ps (WW z.wts).length u.cs)/\M6 (MQ E.heap.size E w')):=fun X hX=>by
    refine(afR (I.below hX) (f:Int)).mono ?_;rintro r w' ⟨rfl,y⟩;have f5:=hX.trans (y.mono hX.size);exact⟨by rw[hx],(f5.cell g1).trans i6,f5⟩
   have e6:M6 (∀X,MQ E.heap.size E X->Ni MK 149 #[Ny #[MG u.ps (WW z.wts).length u.cs],MF ME (f:Int),MF ME x.2.2.1] X fun r w'=>∃p c n,r=MN (Nv #[Ny #[MG p n c],MF ME 0])/\w'.cell? ⟨g,21,MH⟩=MI (MG u.ps (WW z.wts).length u.cs)/\w'.frozen? ⟨g,21,MH⟩=Nb/\g<w'.heap.size /\
     ∃i,i=w'.setCell ⟨g,21,MH⟩ (MG p n c)/\M6 (OR base i g {u with ps:=p,cs:=c} {z with hea:=z.hea.set f XM,wts:=z.wts.set f x.2.2.1}/\WV V {u with ps:=p,cs:=c} g w i/\aaf i (MG s d.length k) d)):=fun X hX=>by
    refine(atn _ z.wts f x.2.2.1 X c1.wts (I.below hX).rest.ring.now a5 e7 (Int.not_lt.2 b9)).mono ?_;rintro r w' ⟨p,c,rfl,M,Z⟩;have K:=hX.trans (Z.mono hX.size);have J:=I.below K;have i3:=I.IJ (a:=z.wts.set f x.2.2.1) K (M.mono hX.size);refine⟨p,c,_,rfl,J.GX,J.fz 21,J.lt,_,rfl,i3,((b8.below K).F4 21 _).Gp fun _ h=>h,?_⟩;refine aeJ (V:=u) (g:=g) d5 (V':=u) (((WV.Gy u g E).below K).F4 21 _) fun b y M=>U.out.2.2.2.1 b y ?_
    unfold Vs.own at M⊢;rw[a1.1,a1.2.2.1,a1.2.2.2]at M;exact M
   have H5:M6 (_/\_):=⟨c0,a1⟩;clear I b8 d5 c0 a1 c7 F c1 d8 e7 b9 Y hx a7 d4 e9 qf a5;subst i2;subst eg1;have j2:M6 _:=D.out.2.2.2
   go_wp2_with fail
   rw[<-a0];clear a0 z0 q0 q1 q2 q3 v0 v1 v2 v3 h7 g9 i5 g2 d0 i1 f8;apply adX
   ·intro a9
    go_region_with (first|(go_at_call 96;refine(f6.out _ (by first|exact(MY _ _).drew|exact Below.refl _ _)).mono ?_;rintro r w4 ⟨rfl,j3,g4⟩)|(go_at_call 149;refine(e6.out _ g4.out).mono ?_;rintro r w3 ⟨p,c,n,rfl,g8,i9,c2,i,N,O⟩))
    all_goals
     rw[<-N];clear N g8 i9 c2;revert p c n i;exact a9.out
   intro p c n i O;have HQ:M6 _:=O.out;clear O f6 e6;go_wp2
   go_roundw
   case rel=>exact⟨j+1,{u with ps:=p,cs:=c},by go_num,hlt,by rw[H5.out.1];exact HQ.out.1,H5.out.2,HQ.out.2.1,HQ.out.2.2⟩
   case measure=>simp[intOf];omega
  ·obtain rfl:j=d.length:=by omega
   have g6:¬(d.length:Int)<(d.length:Int):=by omega
   go_wp2
   go_end0
   have f3:=D.out.1;rw[NT]at f3;exact⟨rfl,V',f3,⟨D.out.2.1.1,D.out.2.1.2.1,D.out.2.1.2.2.1⟩,D.out.2.2.1⟩
end
section
variable {base:Nat}{w:MO}{g:Nat}{V:Vs}{G:Gt}
def aaG(G:Gt)(k:Nat):List He:=(G.hea.take k).map (abO G)++G.hea.drop k
theorem apf:aaG G 0=G.hea:=by simp[aaG]
theorem apc:aaG G G.hea.length=G.hea.map (abO G):=by simp[aaG]
theorem apd(hk:k<G.hea.length):(aaG G k)[k]?=MI G.hea[k]:=by
 unfold aaG;rw[Tw (by simp;omega)];simp[hk,P1 (PJ hk)]
theorem ape(hk:k<G.hea.length):aaG G (k+1)=(aaG G k).set k (abO G G.hea[k]):=by
 unfold aaG;have a:=OK hk;have b:k-((G.hea.take k).map (abO G)).length=0:=by simp;omega
 rw[M9 hk,OI,Pw _ _ (by simp;omega),b,a,ML];simp
theorem aow(h:OR base w g V G)(hbs:Bs G) :
  Ni MK 101 #[gP g] w (aaa base w g V (aaC G)):=by
 have c0:=hbs.hel;have d5:=h.GI;have e3:=h.lt;have e0:=h.G8;have S:∀x∈G.hea,x.marks.length<=16:=fun x hx=>by have:=(hbs.hea x hx).1;have:=hbs.Gx.1.2;omega
 have H:M6 (_/\_/\_/\_):=⟨h,hbs,c0,S⟩;clear h hbs c0 S;go_enter QB,Qo;go_wp2
 go_loopw [10] (fun t wr=>∃(j:Nat) (d:Vs),t=MF ME (j:Int)/\j<=12/\M6 (OR base wr g d {G with hea:=aaG G j}/\(d.pf=V.pf/\d.cf=V.cf/\d.bh=V.bh/\d.ch=V.ch)/\WV V d g w wr)) (fun t _=>12-(intOf t).toNat)
 case atStart=>exact⟨0,V,rfl,by omega,by rw[apf];exact H.out.1,⟨rfl,rfl,rfl,rfl⟩,WV.Gy _ _ _⟩
 case round =>
  obtain⟨j,d,rfl,hj,A⟩:=hrel;obtain⟨W,hW⟩:∃W,W=wr:=⟨_,rfl⟩;subst hW
  by_cases hlt:j<12
  ·have d8:(j:Int)<12:=by omega
   have d9:(0:Int)<=(j:Int):=by omega
   have s:=A.out.1;obtain⟨m,x,em,ex,_,q0,q1,q2,q3,qf,D⟩:=s.G5 hlt;have a1:x=G.hea[j]'(by rw[H.out.2.2.1];exact hlt):=by
    have:=apd (G:=G) (k:=j) (by rw[H.out.2.2.1];exact hlt);exact NC (ex.symm.trans this)
   have a0:aaG G (j+1)=(aaG G j).set j (abO G x):=by rw[a1];exact ape _
   have d0:x.marks.length<=16:=H.out.2.2.2 x (by rw[a1];exact Nk _);have F:=A.out.2.1;have a5:=s.rest.marks j m x em ex;obtain⟨y,hy⟩:∃y,y=abO G x:=⟨_,rfl⟩;have a3:y=afO (Ze G.cfg.wn G.cfg.wf G.cfg.wh x.marks x.out x.till x.times G.now).1:=hy;rw[<-hy]at a0;obtain⟨f,T⟩:∃f,f=W.alloc (MP #[MG m.1 x.marks.length m.2,M3 x.out,MF ME x.till,MF ME x.times] 195):=⟨_,rfl⟩;have E:MQ W.heap.size W f:=by rw[T];exact WQ W
   have J:f.heap[W.heap.size]?=MI (MP #[MG m.1 x.marks.length m.2,M3 x.out,MF ME x.till,MF ME x.times] 195):=by rw[T];exact M1 _ _
   have C:=s.below E;have d6:=A.out.2.2.below E;have a9:¬g=d.bh:=fun e=>s.rest.hg e.symm
   have c6:¬d.bh=g:=s.rest.hg;rw[F.2.2.1]at q0 q1 q2 q3 D a9 c6;have c1:=s.lt;have y0:f.cell? ⟨W.heap.size,0,MH⟩=MI (MG m.1 x.marks.length m.2):=by rw[MW f _ 0 _ _ (0,0) J];rfl
   have y1:f.cell? ⟨W.heap.size,1,MH⟩=MI (M3 x.out):=by rw[MW f _ 1 _ _ (0,0) J];rfl
   have y2:f.cell? ⟨W.heap.size,2,MH⟩=MI (MF ME x.till):=by rw[MW f _ 2 _ _ (0,0) J];rfl
   have y3:f.cell? ⟨W.heap.size,3,MH⟩=MI (MF ME x.times):=by rw[MW f _ 3 _ _ (0,0) J];rfl
   have Q:W.heap.size<f.heap.size:=(ZAa.1 J).1;have a6:=C.GS;have a8:=C.GU;have a4:=C.GO;have a7:=C.Gm;have a2:=C.GI;rw[F.2.2.1,F.2.2.2]at a2;have M:=C.lt;have HB:M6 (∀X,MQ f.heap.size f X->Ni MK 107 #[Ny #[MF ME G.cfg.wn,MF ME G.cfg.wf,MF ME G.cfg.wh],abQ m.1 m.2 x,MF ME G.now] X fun r w'=>∃p c Y U,r=MN (Nv #[abQ p c y,M3 Y,MF ME U]) /\
     (w'.cell? ⟨V.bh,j*4,MH⟩=MI (MG m.1 x.marks.length m.2)/\w'.cell? ⟨V.bh,j*4+1,MH⟩=MI (M3 x.out)/\w'.cell? ⟨V.bh,j*4+2,MH⟩=MI (MF ME x.till)/\w'.cell? ⟨V.bh,j*4+3,MH⟩=MI (MF ME x.times)/\w'.frozen? ⟨V.bh,j*4,MH⟩=Nb/\w'.frozen? ⟨V.bh,j*4+1,MH⟩=Nb/\w'.frozen? ⟨V.bh,j*4+2,MH⟩=Nb/\w'.frozen? ⟨V.bh,j*4+3,MH⟩=Nb/\V.bh<w'.heap.size)/\(w'.cell? ⟨g,22,MH⟩=MI (MG (MI ⟨V.bh,0,MH⟩) 12 V.ch)/\w'.cell? ⟨g,13,MH⟩=MI (MF ME G.cfg.wn)/\w'.cell? ⟨g,14,MH⟩=MI (MF ME G.cfg.wf)/\w'.cell? ⟨g,15,MH⟩=MI (MF ME G.cfg.wh)/\w'.cell? ⟨g,16,MH⟩=MI (MF ME G.now)/\w'.cell? ⟨W.heap.size,0,MH⟩=MI (MG m.1 x.marks.length m.2)/\w'.cell? ⟨W.heap.size,1,MH⟩=MI (M3 x.out)/\w'.cell? ⟨W.heap.size,2,MH⟩=MI (MF ME x.till)/\w'.cell? ⟨W.heap.size,3,MH⟩=MI (MF ME x.times))/\(((((w'.setCell ⟨V.bh,j*4,MH⟩ (MG p y.marks.length c)).setCell ⟨V.bh,j*4+1,MH⟩ (M3 y.out)).setCell ⟨V.bh,j*4+2,MH⟩ (MF ME y.till)).setCell ⟨V.bh,j*4+3,MH⟩ (MF ME y.times)).cell? ⟨g,22,MH⟩=MI (MG (MI ⟨V.bh,0,MH⟩) 12 V.ch)/\((((w'.setCell ⟨V.bh,j*4,MH⟩ (MG p y.marks.length c)).setCell ⟨V.bh,j*4+1,MH⟩ (M3 y.out)).setCell ⟨V.bh,j*4+2,MH⟩ (MF ME y.till)).setCell ⟨V.bh,j*4+3,MH⟩ (MF ME y.times)).cell? ⟨g,13,MH⟩=MI (MF ME G.cfg.wn)/\((((w'.setCell ⟨V.bh,j*4,MH⟩ (MG p y.marks.length c)).setCell ⟨V.bh,j*4+1,MH⟩ (M3 y.out)).setCell ⟨V.bh,j*4+2,MH⟩ (MF ME y.till)).setCell ⟨V.bh,j*4+3,MH⟩ (MF ME y.times)).cell? ⟨g,14,MH⟩=MI (MF ME G.cfg.wf)/\((((w'.setCell ⟨V.bh,j*4,MH⟩ (MG p y.marks.length c)).setCell ⟨V.bh,j*4+1,MH⟩ (M3 y.out)).setCell ⟨V.bh,j*4+2,MH⟩ (MF ME y.till)).setCell ⟨V.bh,j*4+3,MH⟩ (MF ME y.times)).cell? ⟨g,15,MH⟩=MI (MF ME G.cfg.wh)/\((((w'.setCell ⟨V.bh,j*4,MH⟩ (MG p y.marks.length c)).setCell ⟨V.bh,j*4+1,MH⟩ (M3 y.out)).setCell ⟨V.bh,j*4+2,MH⟩ (MF ME y.till)).setCell ⟨V.bh,j*4+3,MH⟩ (MF ME y.times)).cell? ⟨g,16,MH⟩=MI (MF ME G.now)/\((((w'.setCell ⟨V.bh,j*4,MH⟩ (MG p y.marks.length c)).setCell ⟨V.bh,j*4+1,MH⟩ (M3 y.out)).setCell ⟨V.bh,j*4+2,MH⟩ (MF ME y.till)).setCell ⟨V.bh,j*4+3,MH⟩ (MF ME y.times)).cell? ⟨W.heap.size,0,MH⟩=MI (MG m.1 x.marks.length m.2)/\((((w'.setCell ⟨V.bh,j*4,MH⟩ (MG p y.marks.length c)).setCell ⟨V.bh,j*4+1,MH⟩ (M3 y.out)).setCell ⟨V.bh,j*4+2,MH⟩ (MF ME y.till)).setCell ⟨V.bh,j*4+3,MH⟩ (MF ME y.times)).cell? ⟨W.heap.size,1,MH⟩=MI (M3 x.out)/\((((w'.setCell ⟨V.bh,j*4,MH⟩ (MG p y.marks.length c)).setCell ⟨V.bh,j*4+1,MH⟩ (M3 y.out)).setCell ⟨V.bh,j*4+2,MH⟩ (MF ME y.till)).setCell ⟨V.bh,j*4+3,MH⟩ (MF ME y.times)).cell? ⟨W.heap.size,2,MH⟩=MI (MF ME x.till)/\((((w'.setCell ⟨V.bh,j*4,MH⟩ (MG p y.marks.length c)).setCell ⟨V.bh,j*4+1,MH⟩ (M3 y.out)).setCell ⟨V.bh,j*4+2,MH⟩ (MF ME y.till)).setCell ⟨V.bh,j*4+3,MH⟩ (MF ME y.times)).cell? ⟨W.heap.size,3,MH⟩=MI (MF ME x.times)) /\
     ∃N,N=((((w'.setCell ⟨V.bh,j*4,MH⟩ (MG p y.marks.length c)).setCell ⟨V.bh,j*4+1,MH⟩ (M3 y.out)).setCell ⟨V.bh,j*4+2,MH⟩ (MF ME y.till)).setCell ⟨V.bh,j*4+3,MH⟩ (MF ME y.times))/\M6 (OR base N g {d with ms:=d.ms.set j (p,c)} {G with hea:=(aaG G j).set j y}/\WV V {d with ms:=d.ms.set j (p,c)} g w N)):=by
    intro X hX;refine(alB G.cfg.wn G.cfg.wf G.cfg.wh (MG m.1 x.marks.length m.2) x.marks x.out x.till x.times G.now X (a5.below (E.trans (hX.mono E.size))).now).mono ?_;rintro r w' ⟨p,c,rfl,c3,c2,d4⟩;have q:=hX.trans (d4.mono hX.size);have I:=E.trans (q.mono E.size);have d7:=C.below q;have S:XG (d.off base g) w' fun Z=>Yo Z (MG p y.marks.length c) y.marks:=by
     rw[a3];exact abt c3 (fun z e=>s.rest.GF (Nm (Nm E.size hX.size) (c2 z (by rw[XV];exact e))))
    have d1:=d7.Ir hlt S;have c7:=A.out.2.2.F0 (s.Hz I j (MG p y.marks.length c) (M3 y.out) (MF ME y.till) (MF ME y.times) (d.ms.set j (p,c)));have P:∀o,w'.frozen? ⟨V.bh,o,MH⟩=false:=fun o=>(OM (a:=⟨V.bh,o,MH⟩) (I.block V.bh D)).trans (by rw[<-F.2.2.1];exact qf o)
    have i:w'.cell? ⟨g,22,MH⟩=MI (MG (MI ⟨V.bh,0,MH⟩) 12 V.ch)/\w'.cell? ⟨g,13,MH⟩=MI (MF ME G.cfg.wn)/\w'.cell? ⟨g,14,MH⟩=MI (MF ME G.cfg.wf)/\w'.cell? ⟨g,15,MH⟩=MI (MF ME G.cfg.wh)/\w'.cell? ⟨g,16,MH⟩=MI (MF ME G.now)/\w'.cell? ⟨W.heap.size,0,MH⟩=MI (MG m.1 x.marks.length m.2)/\w'.cell? ⟨W.heap.size,1,MH⟩=MI (M3 x.out)/\w'.cell? ⟨W.heap.size,2,MH⟩=MI (MF ME x.till)/\w'.cell? ⟨W.heap.size,3,MH⟩=MI (MF ME x.times):=⟨(q.cell M).trans a2,(q.cell M).trans a6,(q.cell M).trans a8,(q.cell M).trans a4,(q.cell M).trans a7,(q.cell Q).trans y0,(q.cell Q).trans y1,(q.cell Q).trans y2,(q.cell Q).trans y3⟩;have K:g≠V.bh:=a9;have O:W.heap.size≠V.bh:=by omega
    have u:∀(b o:Nat),b≠V.bh->((((w'.setCell ⟨V.bh,j*4,MH⟩ (MG p y.marks.length c)).setCell ⟨V.bh,j*4+1,MH⟩ (M3 y.out)).setCell ⟨V.bh,j*4+2,MH⟩ (MF ME y.till)).setCell ⟨V.bh,j*4+3,MH⟩ (MF ME y.times)).cell? ⟨b,o,MH⟩=w'.cell? ⟨b,o,MH⟩:=fun b o hb=>NG (by rw[MU _ _ _ _ hb,MU _ _ _ _ hb,MU _ _ _ _ hb,MU _ _ _ _ hb])
    refine⟨p,c,(Ze G.cfg.wn G.cfg.wf G.cfg.wh x.marks x.out x.till x.times G.now).2.1,(Ze G.cfg.wn G.cfg.wf G.cfg.wh x.marks x.out x.till x.times G.now).2.2,by rw[a3];rfl,⟨(I.cell D).trans q0,(I.cell D).trans q1,(I.cell D).trans q2,(I.cell D).trans q3,P _,P _,P _,P _,M8 D I.size⟩,i,⟨(u _ _ K).trans i.1,(u _ _ K).trans i.2.1,(u _ _ K).trans i.2.2.1,(u _ _ K).trans i.2.2.2.1,(u _ _ K).trans i.2.2.2.2.1,(u _ _ O).trans i.2.2.2.2.2.1,(u _ _ O).trans i.2.2.2.2.2.2.1,(u _ _ O).trans i.2.2.2.2.2.2.2.1,(u _ _ O).trans i.2.2.2.2.2.2.2.2⟩,_,rfl,?_,?_⟩
    ·rw[<-F.2.2.1];exact d1
    ·rw[<-F.2.2.1];exact c7
   have H5:M6 (_/\_):=⟨a0,F⟩;clear C d6 s J E em ex a5 a0 F hy a3 a1 qf d0
   go_wp2_with fail
   rw[<-T];clear T q0 q1 q2 q3 D c1 d5;apply aan
   ·intro d2
    go_region_held3 (fun X=>X.cell? ⟨g,22,MH⟩=MI (MG (MI ⟨V.bh,0,MH⟩) 12 V.ch)/\X.cell? ⟨g,13,MH⟩=MI (MF ME G.cfg.wn)/\X.cell? ⟨g,14,MH⟩=MI (MF ME G.cfg.wf)/\X.cell? ⟨g,15,MH⟩=MI (MF ME G.cfg.wh)/\X.cell? ⟨g,16,MH⟩=MI (MF ME G.now)/\X.cell? ⟨W.heap.size,0,MH⟩=MI (MG m.1 x.marks.length m.2)/\X.cell? ⟨W.heap.size,1,MH⟩=MI (M3 x.out)/\X.cell? ⟨W.heap.size,2,MH⟩=MI (MF ME x.till)/\X.cell? ⟨W.heap.size,3,MH⟩=MI (MF ME x.times)) (first|exact⟨a2,a6,a8,a4,a7,y0,y1,y2,y3⟩|exact i|exact b8) (first|(go_at_call 107;refine(HB.out _ (by first|exact(MY _ _).drew|exact Below.refl _ _)).mono ?_;rintro r w3 ⟨p,c,Y,U,rfl,⟨u0,u1,u2,N,v0,v1,v2,v3,c9⟩,i,b8,u4,b9,hQ⟩))
    all_goals
     rename_i hHe;clear hHe;rw[<-b9];clear b8;clear b9 u0 u1 u2 N v0 v1 v2 v3 c9 i;revert p c Y U u4;exact d2.out
   intro p c Y U u4 hQ;have HQ:M6 _:=hQ.out;clear hQ HB;go_wp2
   go_roundw
   case rel=>exact⟨j+1,{d with ms:=d.ms.set j (p,c)},by go_num,hlt,by rw[H5.out.1];exact HQ.out.1,H5.out.2,HQ.out.2⟩
   case measure=>simp[intOf];omega
  ·obtain rfl:j=12:=by omega
   go_wp2
   go_end0
   have b0:=A.out.1;have d3:aaG G 12=G.hea.map (abO G):=by rw[<-H.out.2.2.1];exact apc
   rw[d3]at b0;exact⟨rfl,d,b0,⟨A.out.2.1.1,A.out.2.1.2.1,A.out.2.1.2.2.1⟩,A.out.2.2⟩
end
section
variable {base:Nat}{w:MO}{g:Nat}{V:Vs}{G:Gt}
abbrev aq6(n:Int)(v:M7):Obj:=MP #[MF ME n,v] 53
theorem api{base:Nat}{L:List Tm}{n:Nat}(h:w.ownsRow base 3 1 v n (abM L))(hn:n=L.length):aaf w v (L.map (·.2)):=by
 have e:abM L=WT adv (L.map (·.2)):=by
  clear h hn
  induction L with
  |nil=>rfl
  |cons t L ih=>simp only[abM,OA,WT]at ih⊢;rw[ih];rfl
 have a:=Yr h;rw[e]at a;show XB w v (L.map (·.2)).length (WT adv (L.map (·.2)));rw[N0,<-hn];exact a
theorem ao6(h:OR base w g V G)(him:Im G)(hw:G.wnow+1=G.now)(hl:G.out.length<=700000) :
  Ni MK 102 #[gP g] w (aam base w g V (Zs G)):=by
 obtain⟨ls,hm,ht,hA⟩:=h.rest.whl;have Z:=him.bs;have g4:=h.GJ;have f6:=h.GH;have g5:=h.lt;have d8:G.wnow<1099511627776:=by have:=Z.now;omega
 have HC:M6 _:=anG (MG V.pw 25 V.cw) G.wnow ls w h.rest.blk hA.now hm d8;obtain⟨a,O⟩:∃a,a=aaD G.fls (G.wnow+1):=⟨_,rfl⟩;obtain⟨d,z⟩:∃d:Gt,d={G with wnow:=G.wnow+1,tms:=fun t=>G.tms t/\t.1≠G.wnow+1}:=⟨_,rfl⟩;have d4:Zs G=a.foldl X5 d:=by unfold Zs;rw[<-O,<-z]
 rw[d4];have c7:Im d:=by rw[z];exact him.IN (by omega)
 have a6:=Z.IF (G.wnow+1);rw[<-O]at a6;have c3:∀k,k<=a.length->Im ((a.take k).foldl X5 d)/\Xc d ((a.take k).foldl X5 d)/\(∀s∈a.drop k,∃f∈((a.take k).foldl X5 d).fls,f.slot=s)/\((a.take k).foldl X5 d).out.length<=d.out.length+2*k:=fun k hk =>
  akS a d k c7 a6.1 (fun s M=>by obtain⟨f,hf,e,_⟩:=a6.2 s M;exact⟨f,by rw[z];exact hf,e⟩) hk
 have e6:d.wnow=d.now:=by rw[z];exact hw
 have e0:d.out.length<=700000:=by rw[z];exact hl
 have g8:a.length<=40:=by
  rw[O];unfold aaD;rw[N0];exact Nm (O1 _ _) Z.Gb
 have H:M6 (_/\_/\_/\_/\_/\_/\_):=⟨h,Z,ht,c3,e6,e0,O⟩;have f3:M6 _:=z;clear h Z him hm ht hA c3 hw hl d4 c7 a6 e6 e0 O d8 z;go_enter ayy,ays
 go_wp2_with fail
 refine Nd HC.out ?_;rintro r J ⟨p,c,xp,xc,ms,L,rfl,c0,a2,b0,P⟩;have hL:L.map (·.2)=a:=by rw[H.out.2.2.2.2.2.2];exact apL H.out.2.1 H.out.2.2.1 a2
 have a3:=api b0 rfl;rw[hL]at a3;have d2:L.length=a.length:=by rw[<-hL,N0]
 have a0:∀b,(MG xp L.length xc).ownBlock=MI b->w.heap.size<=b:=fun b hb=>(b0.lt b hb).1
 rw[d2]at a3 a0⊢;have F:=H.out.1.below P;have g1:=F.GJ;have f5:=F.GH;have g3:=F.fz 24;have f7:=F.fz 25;have f2:=F.lt;have g2:¬J.heap.size=g:=fun e=>by omega
 have e7:¬g=J.heap.size:=fun e=>by omega
 have u:=H.out.1.Ih (T:=fun t=>G.tms t/\t.1≠G.wnow+1) P c0 a2.may (apM H.out.2.2.1 a2);have C:WV V {V with pw:=p,cw:=c} g w ((J.setCell ⟨g,24,MH⟩ (MF ME (G.wnow+1))).setCell ⟨g,25,MH⟩ (MG p 25 c)):=(((WV.F5 (V:=V) (g:=g) P).F4 24 _).F4 25 _).Gp fun _ h=>h
 have c6:aaf ((J.setCell ⟨g,24,MH⟩ (MF ME (G.wnow+1))).setCell ⟨g,25,MH⟩ (MG p 25 c)) (MG xp a.length xc) a :=
  aeJ (V:=V) (V':=V) (g:=g) a3 (((WV.Gy V g J).F4 24 _).F4 25 _) fun b hb=>H.out.1.rest.new (a0 b hb)
 obtain⟨y,Y⟩:∃y:Vs,y={V with pw:=p,cw:=c}:=⟨_,rfl⟩;obtain⟨I,Q⟩:∃I,I=((J.setCell ⟨g,24,MH⟩ (MF ME (G.wnow+1))).setCell ⟨g,25,MH⟩ (MG p 25 c)).alloc (aq6 (G.wnow+1) (MG p 25 c)):=⟨_,rfl⟩;have q:OR base I g y d:=by rw[Q,Y,f3.out];exact u.GW _
 have o:WV V y g w I:=by rw[Q,Y];exact C.below (WQ _)
 have d0:aaf I (MG xp a.length xc) a:=by rw[Q];exact aat.below c6 (WQ _)
 have c1:∀b,(MG xp a.length xc).ownBlock=MI b->¬y.own g b:=fun b hb ho=>by
  rcases o.ext b ho with e|e
  ·exact H.out.1.rest.new (a0 b hb) e
  ·rw[Y]at ho
   exact H.out.1.rest.new e ho
 have H3:M6 (_/\_/\_/\_/\_):=⟨q,o,d0,c1,(by rw[Y]:y.bh=V.bh)⟩;clear F u q C o a3 c6 d0 a0 c1 Y P c0 a2 b0 hL d2
 go_wp2_with fail
 rw[<-Q];clear Q g1 f5 g3 f7 f2 g2 e7 g4 f6 g5
 go_loopw [25] (fun t wr=>∃(k:Nat) (V':Vs),t=MF ME (k:Int)/\k<=a.length/\M6 (OR base wr g V' ((a.take k).foldl X5 d)/\V'.bh=V.bh/\WV y V' g I wr)) (fun t _=>a.length-(intOf t).toNat)
 case atStart=>exact⟨0,y,rfl,Nx _,H3.out.1,H3.out.2.2.2.2,WV.Gy _ _ _⟩
 case round =>
  obtain⟨k,V',rfl,hk,x⟩:=hrel;obtain⟨W,hW⟩:∃W,W=wr:=⟨_,rfl⟩;subst hW
  by_cases hlt:k<a.length
  ·have f8:(k:Int)<(a.length:Int):=by omega
   obtain⟨g7,g9,e9,f1,c9,d1⟩:=aaf.F6 (aeJ H3.out.2.2.1 x.out.2.2 H3.out.2.2.2.1);injection e9 with eg1 _ eg3;unfold NE at c9;rw[<-eg3]at f1 c9;clear eg3;obtain⟨b1,o1,f9,P,z0⟩:=d1 k hlt;obtain⟨s,M⟩:∃s,s=a[k]:=⟨_,rfl⟩;rw[<-M]at z0;obtain⟨m,a4⟩:∃m,m=(a.take k).foldl X5 d:=⟨_,rfl⟩;obtain⟨N,a1,b8,d6⟩:=H.out.2.2.2.1 k hk;rw[<-a4]at N a1 b8 d6;have S:=x.out.1;rw[<-a4]at S;have a9:(a.take (k+1)).foldl X5 d=X5 m s:=by
    rw[M9 hlt,Pu,<-a4,<-M];rfl
   obtain⟨f0,d7,e5⟩:=b8 s (by rw[M,OK hlt];exact NM ..);obtain⟨i,a7⟩:∃i,i=aaF m.fls s:=⟨_,rfl⟩;have d9:=N.bs.GG d7;rw[e5,<-a7]at d9;obtain⟨K,f4⟩:=d9;obtain⟨f,a5⟩:∃f,f=Xs m i:=⟨_,rfl⟩;have e4:f∈m.fls:=by rw[a5,XA K];exact Nk K
   obtain⟨bf,hp,_,g0⟩:=S.bf (Pb (Nx _) K);have b9:X5 m s=if f.srv then Yg m f 6 1 else YP m i 5:=by
    unfold X5;simp only[];rw[<-a7,<-a5]
   rw[b9]at a9;have d3:m.wnow=m.now:=by rw[a1.wnow,a1.now];exact H.out.2.2.2.2.1
   have e3:m.out.length<=800000:=by have:=H.out.2.2.2.2.2.1;omega
   have j:M6 (_/\_/\_/\_/\_/\_/\_/\_):=⟨ahm S K a7.symm hp N.bs.Gb,S,N.bs,d3,e3,K,hp,e4⟩;have HN:M6 (_/\_):=⟨a9,a5⟩;clear S N a1 b8 d6 d3 e3 K hp e4 a9 a5 a7 f4 b9 e5 d7 g0 a4 M d1;subst f9;subst eg1;have g6:=j.out.2.1.lt
   go_wp2_with fail
   refine Nd j.out.1 ?_;rintro r w2 ⟨rfl,a8⟩;have u:=j.out.2.1.below a8;have hx:=u.Gw j.out.2.2.2.2.2.2.1 j.out.2.2.2.2.2.1;rw[<-HN.out.2]at hx;obtain⟨x0,x1,x2,x3,x4,x5,x6⟩:=hx;have c2:bf<w2.heap.size:=MX w2 ⟨bf,i*7,MH⟩ x0;have C:=x.out.2.2.below a8;cases hsv:f.srv
   ·rw[hsv]at x4
    have A:=HN.out.1;rw[hsv,Nf (by decide)]at A;have D:M6 (_/\_/\_):=⟨akl u j.out.2.2.1 j.out.2.2.2.1 j.out.2.2.2.2.1 j.out.2.2.2.2.2.1 j.out.2.2.2.2.2.2.1 5,C,A⟩;clear u C a8 A hsv
    go_wp2_with fail
    refine Nd D.out.1 ?_;rintro r w3 ⟨rfl,V3,q,U,o⟩;have E:M6 (_/\_/\_):=⟨q,U.trans x.out.2.1,D.out.2.1.F0 o⟩;clear q U o x0 x1 x2 x3 x4 x5 x6 c2;go_wp2
    go_roundw
    case rel=>exact⟨k+1,V3,by go_num,hlt,by rw[D.out.2.2];exact E.out.1,E.out.2.1,E.out.2.2⟩
    case measure=>simp[intOf];omega
   ·rw[hsv]at x4
    have A:=HN.out.1;rw[hsv,Nh rfl]at A;have HE:=adY u j.out.2.2.1 j.out.2.2.2.2.2.2.2 (by have:=j.out.2.2.2.2.1;omega) 6 1;rw[show ZS f=Ny #[MF ME f.slot,MF ME f.gen,MF ME f.key,MF ME f.be,M3 Nw,MF ME f.ret,MF ME f.due]by unfold ZS;rw[hsv]]at HE;have D:M6 (_/\_/\_):=⟨HE,C,A⟩;clear u C a8 A hsv HE
    go_wp2_with fail
    refine Nd D.out.1 ?_;rintro r w3 ⟨rfl,V3,q,U,o⟩;have E:M6 (_/\_/\_):=⟨q,U.trans x.out.2.1,D.out.2.1.F0 o⟩;clear q U o x0 x1 x2 x3 x4 x5 x6 c2;go_wp2
    go_roundw
    case rel=>exact⟨k+1,V3,by go_num,hlt,by rw[D.out.2.2];exact E.out.1,E.out.2.1,E.out.2.2⟩
    case measure=>simp[intOf];omega
  ·obtain rfl:k=a.length:=by omega
   have f8:¬(a.length:Int)<(a.length:Int):=by omega
   go_wp2
   go_end0
   have d5:=x.out.1;rw[NT]at d5;exact⟨rfl,V',d5,x.out.2.1,H3.out.2.1.F0 x.out.2.2⟩
end
section
variable {base:Nat}{w:MO}{g:Nat}{V:Vs}{G:Gt}
theorem akc:∀(l:List Tm) (G:Gt),(l.foldl Ye G).out.length<=G.out.length+2*l.length
 | [],_=>MV _
 |t::l,G=>by
  have a:=akc l (Ye G t);have b:=aj9 (G:=G) t;rw[O4,Ox];omega
theorem aky(b:Int)(t:List awY):(YL b t).length<=t.length:=by
 unfold YL YM;rw[N0];exact Nm (O1 _ _) (by simp)
theorem Bs.IK(h:Bs G):G.tab.length<=40:=by have:=h.tabLen;have:=h.cfg.1.2;omega
theorem aoV(h:Bs G)(l:awV):(Zd G l).out.length<=G.out.length+80:=by
 unfold Zd
 split
 ·omega
 ·have b:=akc (YL l.1 G.tab) G
  have c:=aky l.1 G.tab;have a:=h.IK;omega
theorem akI:∀(L:List awV) (G:Gt) (k:Nat),Im G->k<=L.length->Im ((L.take k).foldl Zd G)/\Xc G ((L.take k).foldl Zd G)/\((L.take k).foldl Zd G).out.length<=G.out.length+80*k
 |L,G,0,h,_=>⟨h,Xc.Gy G,MV _⟩
 | [],G,k+1,_,hk=>by simp at hk
 |l::L,G,k+1,h,hk=>by
  obtain⟨d,b,_⟩:=ahd h l;obtain⟨c,a,e⟩:=akI L (Zd G l) k d (by simpa using hk);have f:=aoV h.bs l;rw[PT,O4];exact⟨c,b.step.F0 a,by omega⟩
theorem ali:∀l:List Tm,WP l=WP l
 | []=>rfl
 |t::l=>by first|rfl|rw[WP,WP,ali l]
theorem aqt{l:List Tm}{g:Nat}{V V':Vs}(h:Xz w v l)(hF:WV V V' g w w')(hn:∀b,v.ownBlock=MI b->¬V.own g b):Xz w' v l:=by
 obtain⟨a,j,e,o,p,c⟩:=h;refine⟨a,j,e,o,p,?_⟩;rcases c with c|⟨b,off,d,f,m⟩
 ·exact Nt c
 ·refine NF ⟨b,off,d,M8 f hF.size,fun i hi=>?_⟩
  rw[<-m i hi];have:=hF.block b f (hn b (by rw[e,d];rfl));simp only[Nl,this]
theorem aoW(h:OR base w g V G)(him:Im G)(hw:G.wnow=G.now)(hl:G.out.length<=700000) :
  Ni MK 103 #[gP g] w (aam base w g V (acG G)):=by
 have d7:=fun k hk=>akI G.liv G k him hk
 have j0:=him.bs.book.1.1;have h7:=h.Gn;have j7:=h.lt;have H:M6 (_/\_/\_/\_):=⟨h,d7,hw,hl⟩;obtain⟨al,j8,i0,j2,g9,_⟩:=adt.F6 h.rest.book.now.1;injection i0 with el1 _ el3;unfold NE at g9;rw[el1,el3]at h7;have HE:M6 _:=el1;clear el1 el3;have HA:M6 (∀X d,WV V d g w X->adt X (MG V.pl G.liv.length V.cl) G.liv):=fun X d hF=>(h.rest.book X hF.size fun b hlt hn=>hF.block b hlt fun e=>hn (Nt e)).1
 clear h d7 hw hl him;go_enter R3,RP;go_wp2
 go_loopw [15] (fun t wr=>∃(k:Nat) (d:Vs),t=MF ME (k:Int)/\k<=G.liv.length/\M6 (OR base wr g d ((G.liv.take k).foldl Zd G)/\d.bh=V.bh/\WV V d g w wr)) (fun t _=>G.liv.length-(intOf t).toNat)
 case atStart=>exact⟨0,V,rfl,Nx _,H.out.1,rfl,WV.Gy _ _ _⟩
 case round =>
  obtain⟨k,d,rfl,hk,z⟩:=hrel;obtain⟨W,hW⟩:∃W,W=wr:=⟨_,rfl⟩;subst hW
  by_cases hlt:k<G.liv.length
  ·have h8:(k:Int)<(G.liv.length:Int):=by omega
   obtain⟨j6,j1,g8,_,_,f6⟩:=adt.F6 (HA.out W d z.out.2.2);injection g8 with el1 _ _;obtain⟨b1,o1,f5,j9,I,z1,z2,z3,z4,z5⟩:=f6 k hlt;obtain⟨⟨q,y,Y,Z,C,x6⟩,c7⟩:∃x,x=G.liv[k]:=⟨_,rfl⟩;rw[<-c7]at I z1 z2 z3 z4 z5;obtain⟨a,a1⟩:∃a,a=(G.liv.take k).foldl Zd G:=⟨_,rfl⟩;obtain⟨a9,a6,c9⟩:=H.out.2.1 k hk;rw[<-a1]at a9 a6 c9;have c6:=z.out.1;rw[<-a1]at c6;have d3:(G.liv.take (k+1)).foldl Zd G=Zd a (q,y,Y,Z,C,x6):=by
    rw[M9 hlt,Pu,<-a1,<-c7];rfl
   obtain⟨o,E⟩:∃o,o=W.alloc (YQ (q,y,Y,Z,C,x6)):=⟨_,rfl⟩;have d0:MQ W.heap.size W o:=by rw[E];exact WQ W
   have S:o.heap[W.heap.size]?=MI (YQ (q,y,Y,Z,C,x6)):=by rw[E];exact M1 _ _
   have Q:=c6.below d0;have g3:=z.out.2.2.below d0;have y0:o.cell? ⟨W.heap.size,0,MH⟩=MI (MF ME q):=by rw[MW o _ 0 _ _ (0,0) S];rfl
   have y1:o.cell? ⟨W.heap.size,1,MH⟩=MI (MF ME y):=by rw[MW o _ 1 _ _ (0,0) S];rfl
   have y4:o.cell? ⟨W.heap.size,4,MH⟩=MI (MF ME C):=by rw[MW o _ 4 _ _ (0,0) S];rfl
   have d8:W.heap.size<o.heap.size:=(ZAa.1 S).1;have i5:=Q.Gm;have f7:=Q.Gs;have g7:=Q.lt;have s:M6 (_/\_/\_/\_/\_/\_):=⟨Q,g3,d3,a9,a6,c9⟩;clear Q g3 d3 a9 a6 c9 c6 a1 c7 S d0 f6;have b8:al=MI ⟨b1,o1,MH⟩:=HE.out.symm.trans (el1.trans f5);clear f5 el1;subst b8
   by_cases hc:y≠3\/a.now<C
   ·have T:=s.out.2.2.1.trans (show Zd a (q,y,Y,Z,C,x6)=a from Nh hc)
    have HN:M6 _:=T;clear T
    by_cases h3:y=3
    ·subst h3
     have i3:a.now<C:=by
      rcases hc with e|e
      ·exact absurd rfl e
      ·exact e
     clear hc
     go_wp2_with fail
     rw[<-E];clear E I z1 z2 z3 z4 z5
     go_quiet (fail)
     go_wp2
     go_roundw
     case rel=>exact⟨k+1,d,by go_num,hlt,by rw[HN.out];exact s.out.1.below (ZE (MY _ _) _),z.out.2.1,s.out.2.1.below (ZE (MY _ _) _)⟩
     case measure=>simp[intOf];omega
    ·have j3:(y != 3)=true:=by simpa using h3
     clear hc h3
     go_wp2_with fail
     rw[<-E];clear E I z1 z2 z3 z4 z5
     go_quiet (fail)
     go_wp2
     go_roundw
     case rel=>exact⟨k+1,d,by go_num,hlt,by rw[HN.out];exact s.out.1.below (ZE (MY _ _) _),z.out.2.1,s.out.2.1.below (ZE (MY _ _) _)⟩
     case measure=>simp[intOf];omega
   ·obtain rfl:y=3:=by
     by_cases e:y=3
     ·exact e
     ·exact absurd (Nt e) hc
    have i3:¬a.now<C:=fun e=>hc (NF e)
    have T:=s.out.2.2.1.trans (show Zd a (q,3,Y,Z,C,x6)=(YL q a.tab).foldl Ye a from Nf hc);have HN:M6 _:=T;clear T hc
    go_wp2_with fail
    rw[<-E];clear E I z1 z2 z3 z4 z5
    go_quiet (fail)
    have I:(o.drewN nq).cell? ⟨W.heap.size,0,MH⟩=MI (MF ME q):=y0;have f8:(o.drewN nq).cell? ⟨g,17,MH⟩=MI (MG d.pt a.tab.length d.ct):=f7;have M:=s.out.1.below (ZE (MY _ _) nq);have c2:=s.out.2.1.below (ZE (MY _ _) nq);have d5:=M.lt;have d9:W.heap.size<(o.drewN nq).heap.size:=d8;obtain⟨W2,f2⟩:∃W2,W2=o.drewN nq:=⟨_,rfl⟩;rw[<-f2]at I f8 M c2 d5 d9⊢;clear f2 y0 y1 y4 i5 f7 d8 g7;obtain⟨m,U⟩:∃m,m=YL q a.tab:=⟨_,rfl⟩;rw[<-U]at HN;have f4:aeo a.tab q=(m,0):=by rw[U];exact Nh s.out.2.2.2.1.bs.tab
    have f9:M6 (∀X,MQ W2.heap.size W2 X->Ni MK 150 #[Ny #[MG d.pt a.tab.length d.ct],MF ME q] X fun r w'=>∃p c,r=MN (Nv #[MG p m.length c,MF ME 0])/\M6 (OR base w' g d a/\WV V d g w w'/\Xz w' (MG p m.length c) m/\∀b,(MG p m.length c).ownBlock=MI b->¬d.own g b)):=fun X hX=>by
     refine(auS _ a.tab q X (M.below hX).rest.tab.now).mono ?_;rw[f4];rintro r w' ⟨p,c,rfl,ho,hb⟩;have d1:=hX.trans (hb.mono hX.size);rw[ali]at ho;exact⟨p,c,rfl,M.below d1,c2.below d1,Yr ho,fun b hb'=>M.rest.new (Nm hX.size (ho.lt b hb').1)⟩
    have a5:=s.out.2.2.2.1.bs.IW q;rw[<-U]at a5;have d2:=fun j hj=>ake m a j s.out.2.2.2.1 a5.1 (fun t O=>by obtain⟨f,hf,e,_⟩:=a5.2 t O;exact⟨f,hf,e⟩) hj
    have j5:m.length<=40:=by rw[U];exact Nm (aky _ _) s.out.2.2.2.1.bs.IK
    have e5:a.out.length<=800000:=by have:=s.out.2.2.2.2.2;have:=H.out.2.2.2;omega
    have HP:M6 (_/\_):=⟨d2,e5⟩;clear M c2 f4 a5 d2 e5 U
    go_wp2_with fail
    apply aan
    ·intro i7
     go_region_with (first|(go_at_call 150;refine(f9.out _ (by first|exact(MY _ _).drew|exact Below.refl _ _)).mono ?_;rintro r W3 ⟨p,c,rfl,hQ⟩))
     all_goals
      revert p c W3;exact i7.out
    intro W3 p c hQ;have HQ:M6 _:=hQ.out;clear hQ f9 I f8 d5 d9;go_wp2
    go_loopw [45] (fun t wx=>∃(j:Nat) (V2:Vs),t=MF ME (j:Int)/\j<=m.length/\M6 (OR base wx g V2 ((m.take j).foldl Ye a)/\V2.bh=V.bh/\WV d V2 g W3 wx)) (fun t _=>m.length-(intOf t).toNat)
    case atStart=>exact⟨0,d,rfl,Nx _,HQ.out.1,z.out.2.1,WV.Gy _ _ _⟩
    case round =>
     obtain⟨j,V2,rfl,hj,K⟩:=hrel;obtain⟨D,i8⟩:∃D,D=wr:=⟨_,rfl⟩;subst i8
     by_cases hjl:j<m.length
     ·have h9:(j:Int)<(m.length:Int):=by omega
      obtain⟨ah,ch,i2,i1,e3,ph⟩:=Xz.F6 (aqt HQ.out.2.2.1 K.out.2.2 HQ.out.2.2.2);injection i2 with eh1 _ eh3;unfold NE at e3;rw[<-eh3]at i1 e3;clear eh3;obtain⟨b2,o2,e0,d1,v0,v1⟩:=ph j hjl;obtain⟨t,O⟩:∃t,t=m[j]:=⟨_,rfl⟩;rw[<-O]at v0 v1;obtain⟨A,a0⟩:∃A,A=(m.take j).foldl Ye a:=⟨_,rfl⟩;obtain⟨P,d6,a7,e4⟩:=HP.out.1 j hj;rw[<-a0]at P d6 a7 e4;have c1:=K.out.1;rw[<-a0]at c1;have a8:(m.take (j+1)).foldl Ye a=Ye A t:=by
       rw[M9 hjl,Pu,<-a0,<-O];rfl
      obtain⟨f0,g0,g4⟩:=a7 t (by rw[O,OK hjl];exact NM ..);obtain⟨i,a4⟩:∃i,i=aaF A.fls t.1:=⟨_,rfl⟩;have g1:=P.bs.GG g0;rw[g4,<-a4]at g1;obtain⟨N,i4⟩:=g1;obtain⟨f,a2⟩:∃f,f=Xs A i:=⟨_,rfl⟩;have e6:f∈A.fls:=by rw[a2,XA N];exact Nk N
      have d4:Ye A t=Yg A f 6 2:=by unfold Ye;rw[<-a4,<-a2]
      rw[d4]at a8;obtain⟨J,a3⟩:∃J,J=D.alloc (afN t.1 t.2):=⟨_,rfl⟩;have c0:MQ D.heap.size D J:=by rw[a3];exact WQ D
      have b9:J.heap[D.heap.size]?=MI (afN t.1 t.2):=by rw[a3];exact M1 _ _
      have u:=c1.below c0;have f1:=K.out.2.2.below c0;obtain⟨bf,hp,_,i6⟩:=u.bf (Pb (Nx _) N);have r0:J.cell? ⟨D.heap.size,0,MH⟩=MI (MF ME t.1):=by rw[MW J _ 0 _ _ (0,0) b9];rfl
      have j4:D.heap.size<J.heap.size:=(ZAa.1 b9).1;have f3:A.out.length<=900000:=by have:=HP.out.2;omega
      have F:M6 (_/\_/\_/\_/\_/\_/\_/\_):=⟨ahm u N a4.symm hp P.bs.Gb,u,P.bs,f1,f3,N,hp,e6⟩;have g2:M6 (_/\_):=⟨a8,a2⟩;have i9:=u.lt;have b8:p=MI ⟨b2,o2,MH⟩:=eh1.trans e0;clear c1 u f1 P d6 a7 e4 N hp e6 a8 a2 a4 i4 d4 g4 g0 i6 a0 O ph b9 c0 f3 eh1 e0;subst b8
      go_wp2_with fail
      rw[<-a3];clear a3 v0 v1;refine Nd F.out.1 ?_;rintro r W6 ⟨rfl,c3⟩;have b0:=F.out.2.1.below c3;have hx:=b0.Gw F.out.2.2.2.2.2.2.1 F.out.2.2.2.2.2.1;rw[<-g2.out.2]at hx;obtain⟨q0,q1,q2,q3,q4,q5,q6⟩:=hx;have g6:bf<W6.heap.size:=MX W6 ⟨bf,i*7,MH⟩ q0;have H6:M6 (_/\_):=⟨adY b0 F.out.2.2.1 F.out.2.2.2.2.2.2.2 F.out.2.2.2.2.1 6 2,F.out.2.2.2.1.below c3⟩;clear b0 c3
      go_wp2_with fail
      refine Nd H6.out.1 ?_;rintro r W7 ⟨rfl,V3,g5,e7,e9⟩;have H7:M6 (_/\_/\_):=⟨g5,e7.trans K.out.2.1,H6.out.2.F0 e9⟩;clear g5 e7 e9 q0 q1 q2 q3 q4 q5 q6 g6;go_wp2
      go_roundw
      case rel=>exact⟨j+1,V3,by go_num,hjl,by rw[g2.out.1];exact H7.out.1,H7.out.2.1,H7.out.2.2⟩
      case measure=>simp[intOf];omega
     ·obtain rfl:j=m.length:=by omega
      have h9:¬(m.length:Int)<(m.length:Int):=by omega
      have u:=K.out.1;rw[NT,<-HN.out]at u;have H5:M6 _:=u;clear u;go_wp2
      go_roundw
      case rel=>exact⟨k+1,V2,by go_num,hlt,H5.out,K.out.2.1,HQ.out.2.1.F0 K.out.2.2⟩
      case measure=>simp[intOf];omega
  ·obtain rfl:k=G.liv.length:=by omega
   have h8:¬(G.liv.length:Int)<(G.liv.length:Int):=by omega
   go_wp2
   go_end0
   have u:=z.out.1;rw[NT]at u;exact⟨rfl,d,u,z.out.2.1,z.out.2.2⟩
end
section
variable {base:Nat}{w:MO}{g:Nat}{V:Vs}{G:Gt}
theorem akR:∀(l:List Int) (G:Gt),(l.foldl X5 G).out.length<=G.out.length+2*l.length
 | [],_=>MV _
 |s::l,G=>by
  have a:=akR l (X5 G s);have b:=akP (G:=G) s;rw[O4,Ox];omega
theorem ao7(h:Bs G):(Zs G).out.length<=G.out.length+80:=by
 unfold Zs;refine Nm (akR _ _) ?_;have:(aaD G.fls (G.wnow+1)).length<=40:=by
  unfold aaD;rw[N0];exact Nm (O1 _ _) h.Gb
 show G.out.length+_<=_;omega
theorem adj{r:Ending}{w1:MO}{V1:Vs}(hF:WV V V1 g w w1)(hV:V1.bh=V.bh)(h:aam base w1 g V1 G' r w'):aam base w g V G' r w':=by
 obtain⟨d,a,c,e,b⟩:=h;exact⟨d,a,c,e.trans hV,hF.F0 b⟩
theorem aqV(h:OR base w g V G)(hwm:Wm G)(hn:G.now+1<=1099511626776)(hl:G.out.length<=600000) :
  Ni MK 60 #[gP g] w (aam base w g V (abj G)):=by
 obtain⟨s,d⟩:∃s:Gt,s={G with now:=G.now+1}:=⟨_,rfl⟩;have o:Im s:=by rw[d];exact hwm.im.next hn
 obtain⟨c,j⟩:∃c:Gt,c=YH s:=⟨_,rfl⟩;have t:Im c:=by rw[j];exact o.Jf
 have e:=aeS o.bs;rw[<-j]at e;obtain⟨b,i⟩:∃b:Gt,b=aaC c:=⟨_,rfl⟩;have m:Im b:=by rw[i];exact t.I2
 have D:b.wnow+1=b.now:=by
  rw[i];show c.wnow+1=c.now;rw[e.2.1,e.1,d];show G.wnow+1=G.now+1;rw[hwm.wnow]
 have M:∀f∈b.fls,b.wnow<f.due:=by
  rw[i];show ∀f∈c.fls,c.wnow<f.due;rw[e.2.2.1,e.2.1,d];show ∀f∈G.fls,G.wnow<f.due;rw[hwm.wnow];exact hwm.due
 have U:b.out.length<=600000:=by
  rw[i];show c.out.length<=600000;rw[e.2.2.2.2.1,d];exact hl
 have u:=m.Je D M;have A:=ao7 m.bs;obtain⟨F,p⟩:∃F:Gt,F=Zs b:=⟨_,rfl⟩;rw[<-p]at u A;have O:abj G=acG F:=by unfold abj;rw[<-d,<-j,<-i,<-p]
 rw[O];have a1:=h.Gm;have a2:=h.fz 16;have a3:=h.lt;have a0:IntKind.i64.wrap (G.now+1)=G.now+1:=by have:=hwm.im.bs.now;rw[Ow];omega
 have q:=h.Ja (G.now+1);rw[<-d]at q;have E:WV V V g w (w.setCell ⟨g,16,MH⟩ (MF ME (G.now+1))):=(WV.Gy V g w).F4 16 _;obtain⟨w0,C⟩:∃w0,w0=w.setCell ⟨g,16,MH⟩ (MF ME (G.now+1)):=⟨_,rfl⟩;rw[<-C]at q E;have H:M6 (_/\_/\_):=⟨aq2 q o,E,j⟩;have a:M6 (_/\_/\_/\_/\_/\_/\_/\_):=⟨t,m,D,U,u,A,i,p⟩;clear o t m D M U u A e d j i p O q E h hwm hn hl;go_enter Tryz.func60,Tryz.ntmps60
 go_wp2_with fail
 rw[<-C];clear C;refine Nd H.out.1 ?_;rintro r w1 ⟨rfl,V1,z,N,S⟩;rw[<-H.out.2.2]at z;have J:M6 (_/\_/\_):=⟨aow z a.out.1.bs,H.out.2.1.F0 S,N.2.2⟩;clear z N S
 go_wp2_with fail
 refine Nd J.out.1 ?_;rintro r w2 ⟨rfl,V2,y,Y,P⟩;rw[<-a.out.2.2.2.2.2.2.1]at y;have I:M6 (_/\_/\_):=⟨ao6 y a.out.2.1 a.out.2.2.1 (by have:=a.out.2.2.2.1;omega),J.out.2.1.F0 P,Y.2.2.trans J.out.2.2⟩;clear y Y P
 go_wp2_with fail
 refine Nd I.out.1 ?_;rintro r w3 ⟨rfl,V3,x,Q,T⟩;rw[<-a.out.2.2.2.2.2.2.2]at x;have K:M6 (_/\_/\_):=⟨aoW x a.out.2.2.2.2.1.1 (by rw[a.out.2.2.2.2.1.2.2.1,a.out.2.2.2.2.1.2.1]) (by have:=a.out.2.2.2.2.2.1;have:=a.out.2.2.2.1;omega),I.out.2.1.F0 T,Q.trans I.out.2.2⟩;clear x Q T
 go_wp2_with fail
 refine Nd K.out.1 ?_;rintro r w4 ⟨rfl,V4,Z⟩;have H4:M6 _:=Z;clear Z;go_wp2
 go_end0
 exact adj K.out.2.1 K.out.2.2 ⟨rfl,V4,H4.out⟩
theorem aqR(h:OR base w g V G)(hwm:Wm G){e:Ev}(he:XZ e)(hn:e.kind=7->G.now+1<=1099511626776)(hl:G.out.length<=600000) :
  Ni MK 45 #[gP g,acH e] w (aam base w g V (Xb G e)):=by
 obtain⟨W,d⟩:∃W,W=w.alloc (aaE e):=⟨_,rfl⟩;have o:MQ w.heap.size w W:=by rw[d];exact WQ w
 have p:W.heap[w.heap.size]?=MI (aaE e):=by rw[d];exact M1 _ _
 have m:=h.below o;have j:WV V V g w W:=WV.F5 o;obtain⟨M,T,K,U,P,Q,S,Y,I⟩:=abP p;have J:=h.lt;obtain⟨O,b⟩:∃O,O=Xb G e:=⟨_,rfl⟩;rw[<-b];unfold Xb at b;have t:=he.kind;have E:e.kind=1\/(e.kind=2\/e.kind=3\/e.kind=4)\/e.kind=5\/e.kind=6\/e.kind=7:=by omega
 rcases E with a|a|a|a|a
 ·have u:(e.kind == 1)=true:=by rw[a];rfl
  rw[Nh a]at b;have H:M6 (_/\_/\_):=⟨aqb m hwm.im.bs hwm.wnow (by omega) he.key,j,b⟩;clear a b m j h hwm he hn hl o p t;go_enter Se,RU
  go_wp2_with fail
  rw[<-d];clear d;refine Nd H.out.1 ?_;rintro r q ⟨rfl,i,c⟩;have f:M6 _:=c;clear c;go_wp2
  go_end0
  rw[H.out.2.2];exact adj H.out.2.1 rfl ⟨rfl,i,f.out⟩
 ·have u:(e.kind == 1)=false:=beq_eq_false_iff_ne.2 (by omega)
  rw[Nf (by omega),Nf (by omega),Nf (by omega),Nf (by omega)]at b;have H:M6 (_/\_/\_):=⟨aqa m hwm.im.bs hwm.wnow (by omega) e,j,b⟩;have Z:M6 _:=a;clear b m j h hwm he hn hl o p t;rcases a with a|a|a
  ·have s:(e.kind == 2)=true:=by rw[a];rfl
   clear a;go_enter Se,RU
   go_wp2_with fail
   rw[<-d];clear d;refine Nd H.out.1 ?_;rintro r q ⟨rfl,i,c⟩;have f:M6 _:=c;clear c;go_wp2
   go_end0
   rw[H.out.2.2];exact adj H.out.2.1 rfl ⟨rfl,i,f.out⟩
  ·have s:(e.kind == 2)=false:=by rw[a];rfl
   have x:(e.kind == 3)=true:=by rw[a];rfl
   clear a;go_enter Se,RU
   go_wp2_with fail
   rw[<-d];clear d;refine Nd H.out.1 ?_;rintro r q ⟨rfl,i,c⟩;have f:M6 _:=c;clear c;go_wp2
   go_end0
   rw[H.out.2.2];exact adj H.out.2.1 rfl ⟨rfl,i,f.out⟩
  ·have s:(e.kind == 2)=false:=by rw[a];rfl
   have x:(e.kind == 3)=false:=by rw[a];rfl
   have y:(e.kind == 4)=true:=by rw[a];rfl
   clear a;go_enter Se,RU
   go_wp2_with fail
   rw[<-d];clear d;refine Nd H.out.1 ?_;rintro r q ⟨rfl,i,c⟩;have f:M6 _:=c;clear c;go_wp2
   go_end0
   rw[H.out.2.2];exact adj H.out.2.1 rfl ⟨rfl,i,f.out⟩
 ·have u:(e.kind == 1)=false:=by rw[a];rfl
  have s:(e.kind == 2)=false:=by rw[a];rfl
  have x:(e.kind == 3)=false:=by rw[a];rfl
  have y:(e.kind == 4)=false:=by rw[a];rfl
  have D:(e.kind == 5)=true:=by rw[a];rfl
  rw[Nf (by omega),Nh a]at b;have H:M6 (_/\_/\_):=⟨ajZ m (by omega) 1 e,j,b⟩;clear a b m j h hwm he hn hl o p t;go_enter Se,RU
  go_wp2_with fail
  rw[<-d];clear d;refine Nd H.out.1 ?_;rintro r q ⟨rfl,i,A,C,z⟩;have f:M6 (_/\_/\_):=⟨A,C,z⟩;clear A C z;go_wp2
  go_end0
  rw[H.out.2.2];exact⟨rfl,i,f.out.1,f.out.2.1.2.2,H.out.2.1.F0 f.out.2.2⟩
 ·have u:(e.kind == 1)=false:=by rw[a];rfl
  have s:(e.kind == 2)=false:=by rw[a];rfl
  have x:(e.kind == 3)=false:=by rw[a];rfl
  have y:(e.kind == 4)=false:=by rw[a];rfl
  have D:(e.kind == 5)=false:=by rw[a];rfl
  have F:(e.kind == 6)=true:=by rw[a];rfl
  rw[Nf (by omega),Nf (by omega),Nh a]at b;have H:M6 (_/\_/\_):=⟨aho (aqn m hwm.im (by omega) e he),j,b⟩;clear a b m j h hwm he hn hl o p t;go_enter Se,RU
  go_wp2_with fail
  rw[<-d];clear d;refine Nd H.out.1 ?_;rintro r q ⟨rfl,i,c⟩;have f:M6 _:=c;clear c;go_wp2
  go_end0
  rw[H.out.2.2];exact adj H.out.2.1 rfl ⟨rfl,i,f.out⟩
 ·have u:(e.kind == 1)=false:=by rw[a];rfl
  have s:(e.kind == 2)=false:=by rw[a];rfl
  have x:(e.kind == 3)=false:=by rw[a];rfl
  have y:(e.kind == 4)=false:=by rw[a];rfl
  have D:(e.kind == 5)=false:=by rw[a];rfl
  have F:(e.kind == 6)=false:=by rw[a];rfl
  have N:(e.kind == 7)=true:=by rw[a];rfl
  rw[Nf (by omega),Nf (by omega),Nf (by omega),Nh a]at b;have H:M6 (_/\_/\_):=⟨aqV m hwm (hn a) hl,j,b⟩;clear a b m j h hwm he hn hl o p t;go_enter Se,RU
  go_wp2_with fail
  rw[<-d];clear d;refine Nd H.out.1 ?_;rintro r q ⟨rfl,i,c⟩;have f:M6 _:=c;clear c;go_wp2
  go_end0
  rw[H.out.2.2];exact adj H.out.2.1 rfl ⟨rfl,i,f.out⟩
end
end Go.Proofs.YtgnclkcdnbfeeaaGreatDoor.Q
