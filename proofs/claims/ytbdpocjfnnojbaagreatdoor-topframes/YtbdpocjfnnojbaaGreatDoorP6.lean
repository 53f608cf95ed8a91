/-
  Contracts of the layers and of core, part 6. Conditions: as each theorem says.
-/
import Derived.Test.YtbdpocjfnnojbaaGreatDoorP4
open Array renaming getElem?_eq_some_iff->ZAa
open Bool renaming false->Nb,true->Nw
open Go renaming Calls->Ni,Value->M7,World->MO,maxLen->NE
open Go.Ending renaming returned->MN
open Go.IntKind renaming i64->ME
open Go.Obj renaming cells->MP
open Go.Proofs.Tryz renaming func127->Ug,func128->ayl,func129->azq,func56->azX,func75->WJ,func78->WK,ntmps127->T6,ntmps128->ayd,ntmps129->azl,ntmps56->azT,ntmps75->WB,ntmps78->WD,prog->MK
open Go.RowKit renaming Below->MQ,Hid->M6
open Go.Value renaming agg->Ny,bool->M3,int->MF,slice->MG,tuple->Nv
open Go.World renaming cell?->Nl,frozen?->Ng
open List renaming mem_filter->ZAf
open Option renaming none->MH,some->MI
open Or renaming inl->Nt,inr->NF
namespace Go.Proofs.YtbdpocjfnnojbaaGreatDoor.Q
set_option linter.unusedVariables false
set_option linter.unusedSimpArgs false
set_option maxHeartbeats 16000000
set_option maxRecDepth 100000
open Go.RowKit
attribute [local go_sem ↓] Go.wp_at_zero Go.wp_at_succ
variable {G':Gt}{l:List Int}{R:List aw0}{L:List awV}{v va vb:M7}{W X w w' w5:MO}{B k:Nat}
section
variable {base:Nat}{w:MO}{g:Nat}{V:Vs}{G:Gt}
theorem adX{Q R:Prop}(m:M6 Q->R)(k:Q):R:=m k
abbrev acE(n:Int):Obj:=MP #[yB n] 51
theorem akl(h:OR base w g V G)(hbs:Bs G)(hw:G.wnow=G.now)(hl:G.out.length<=800000){i:Nat}(hi:i<G.fls.length){bf:Nat}(hp:V.pf=MI ⟨bf,0,MH⟩)(why:Int) :
  Ni MK 119 #[gP g,fP bf i,yB why] w (aam base w g V (YP G i why)):=by
 obtain⟨O,a⟩:=yE (YP G i why);rw[<-a];unfold YP at a;simp only[]at a;obtain⟨f,hf⟩:=yE (Xs G i);have a7:f∈G.fls:=by rw[hf,XA hi];exact Nk hi
 have a4:=hbs.F9 a7;have e6:=hbs.rets _ a7;obtain⟨q0,q1,q2,q3,q4,q5,q6⟩:=h.Gw hp hi;rw[<-hf]at a q0 q1 q2 q3 q4 q5 q6;have h8:=h.lt;obtain⟨b,F⟩:=yE (Yh G f.be true);have HN:=akO h hbs a4.2.2.2 Nw;have b9:=hbs.GA a4.2.2.2 Nw;rw[<-F]at a HN b9;have f2:b.fls=G.fls/\b.cfg=G.cfg/\b.now=G.now/\b.wnow=G.wnow/\b.out=G.out/\b.tok=G.tok:=by rw[F];exact⟨rfl,rfl,rfl,rfl,rfl,rfl⟩
 obtain⟨⟨tk,er⟩,f6⟩:∃s,s=Zh G.cfg.bn G.cfg.bd G.cfg.bb G.tok:=⟨_,rfl⟩;have d6:=hbs.tok;have H:M6 (_/\_/\_/\_/\_/\_/\_/\_):=⟨HN,a,b9,f2,hp,hi,hf,a7⟩;have t:M6 (_/\_/\_/\_/\_/\_/\_):=⟨hbs,hw,hl,a4,f6,e6,d6⟩;clear h hbs a hf hw hl a4 HN F f2 b9 hp hi a7 f6 e6 d6;go_enter Tryz.func119,Tryz.ntmps119
 go_wp2_with fail
 refine Nd H.out.1 ?_;rintro r j ⟨rfl,V1,F,c9,e0⟩;have f3:V1.pf=MI ⟨bf,0,MH⟩:=c9.1.trans H.out.2.2.2.2.1;have a0:M6 (∃y:i<b.fls.length,b.fls[i]=f):=akp H.out.2.2.2.1.1 H.out.2.2.2.2.2.1 H.out.2.2.2.2.2.2.1;have g9:j.cell? ⟨g,10,MH⟩=MI (yB G.cfg.bn):=by rw[<-H.out.2.2.2.1.2.1];exact F.Hf
 have g7:j.cell? ⟨g,11,MH⟩=MI (yB G.cfg.bd):=by rw[<-H.out.2.2.2.1.2.1];exact F.Hn
 have g8:j.cell? ⟨g,12,MH⟩=MI (yB G.cfg.bb):=by rw[<-H.out.2.2.2.1.2.1];exact F.Hg
 have c7:j.cell? ⟨g,23,MH⟩=MI (yB G.tok):=by rw[<-H.out.2.2.2.1.2.2.2.2.2];exact F.Id
 have g1:=F.lt;have HS:M6 ((∀X,yA j X->X.heap[j.heap.size]?=MI (acE 0)->Ni MK 173 #[Ny #[yB G.cfg.bn,yB G.cfg.bd,yB G.cfg.bb],Ny #[yB G.tok]] X fun r w'=>r=MN (Nv #[Ny #[yB tk],yB er])/\w'.cell? ⟨j.heap.size,0,MH⟩=MI (yB 0)/\w'.frozen? ⟨j.heap.size,0,MH⟩=Nb/\j.heap.size<w'.heap.size /\
   ∃z w3,z=j.heap.size/\w3=w'.setCell ⟨j.heap.size,0,MH⟩ (yB tk)/\M6 (yA j w3/\w3.heap[z]?=MI (acE tk))) /\
   (∀X,yA j X->Ni MK 173 #[Ny #[yB G.cfg.bn,yB G.cfg.bd,yB G.cfg.bb],Ny #[yB G.tok]] X fun r w'=>r=MN (Nv #[Ny #[yB tk],yB er]) /\
   ∃z w3,z=w'.heap.size/\w3=w'.alloc (acE tk)/\M6 (yA j w3/\w3.heap[z]?=MI (acE tk)))):=by
  constructor
  ·intro X Q hR
   refine(ajV G.cfg.bn G.cfg.bd G.cfg.bb G.tok X).mono ?_;rw[<-t.out.2.2.2.2.1];rintro r w' ⟨rfl,a5⟩;have a9:=WO hR a5;exact⟨rfl,by rw[MW w' _ 0 _ _ (0,0) a9];rfl,by simp[Ng,a9],(ZAa.1 a9).1,_,_,rfl,rfl,(Q.trans (a5.mono Q.size)).setCell (p:=⟨j.heap.size,0,MH⟩) (MV _) _,YO a9 rfl⟩
  ·intro X Q
   refine(ajV G.cfg.bn G.cfg.bd G.cfg.bb G.tok X).mono ?_;rw[<-t.out.2.2.2.2.1];rintro r w' ⟨rfl,a5⟩;have Z:=Q.trans (a5.mono Q.size);exact⟨rfl,_,_,rfl,rfl,Z.trans ((WQ w' (o:=acE tk)).mono Z.size),M1 _ _⟩
 have d:M6 (_/\_/\_/\_/\_):=⟨HS.out,F,c9,e0,f3⟩;clear HS F c9 e0 f3 q0 q1 q2 q3 q4 q5 q6
 go_wp2_with fail
 apply adX
 ·intro g6
  go_region_with (first|(go_at_call 173;refine(d.out.1.1 _ (by first|exact(WQ _).drew|exact WQ _) (by first|exact M1 _ _|(show(World.alloc _ _).heap[_]?=_;exact heap_alloc_new _ _))).mono ?_;rintro r w2 ⟨rfl,y0,z0,g3,z,A,d1,c2,hQ⟩)|(go_at_call 173;refine(d.out.1.2 _ (by first|exact(MY _ _).drew|exact Below.refl _ _)).mono ?_;rintro r w2 ⟨rfl,z,A,d1,c2,hQ⟩))
  all_goals
   rw[<-c2]
   try rw[<-d1]
   clear c2 d1
   try clear y0 z0 g3
   revert z A;exact g6.out
 intro z A hQ;have c6:=hQ.out.1;have d9:=hQ.out.2;clear hQ;have a6:=d.out.2.1.below c6;have xu:adU A bf i f:=by
  obtain⟨y,C⟩:=a0.out;have:=a6.Gl d.out.2.2.2.2 y;rw[C]at this;exact this
 have v5:=xu.2.2.2.2.2.1;have v8:A.cell? ⟨g,8,MH⟩=MI (yB G.cfg.ret):=by rw[<-H.out.2.2.2.1.2.1];exact a6.c8
 have c0:=a6.lt;have b8:bf<A.heap.size:=MX A ⟨bf,i*7+5,MH⟩ v5;have HU:M6 (_/\_):=⟨c6,d9⟩;clear c6 d9 a6 xu g9 g7 g8 c7 g1;have f8:f∈b.fls:=by rw[H.out.2.2.2.1.1];exact H.out.2.2.2.2.2.2.2
 have f9:b.out.length<=800000:=by rw[H.out.2.2.2.1.2.2.2.2.1];exact t.out.2.2.1
 have a:=H.out.2.1;rw[<-t.out.2.2.2.2.1,<-H.out.2.2.2.1.1]at a;simp only[]at a;have U:M6 (_/\_):=⟨f8,f9⟩;have HO:M6 _:=a;clear f8 f9 a
 by_cases hA:f.ret=G.cfg.ret
 ·have i0:(f.ret == G.cfg.ret)=true:=by rw[beq_iff_eq];exact hA
  go_wp2_with fail
  go_quiet (fail)
  have E:=ZE HU.out.1 nq;have T:(A.drewN nq).heap[z]?=MI (acE tk):=HU.out.2;clear v5 v8 c0 b8;generalize A.drewN nq=w3 at *;have m:=d.out.2.1.below E;have M:adU w3 bf i f:=by
   obtain⟨y,C⟩:=a0.out;have:=m.Gl d.out.2.2.2.2 y;rw[C]at this;exact this
  have e8:w3.cell? ⟨g,8,MH⟩=MI (yB G.cfg.ret):=by rw[<-H.out.2.2.2.1.2.1];exact m.c8
  have c1:=m.lt;have K:M6 (_/\_/\_):=⟨m,d.out.2.2.2.1.below E,T⟩;obtain⟨x0,x1,x2,x3,x4,x5,x6⟩:=M;clear m E T;have a:=HO.out;rw[Nh (Nt hA)]at a;have P:M6 (_/\_):=⟨adY K.out.1 H.out.2.2.1 U.out.1 (by have:=U.out.2;omega) 6 why,a⟩;clear a hA
  go_wp2_with fail
  refine Nd P.out.1 ?_;rintro r w9 ⟨rfl,V9,I,D,J⟩;have u:M6 (_/\_/\_):=⟨I,D.trans d.out.2.2.1.2.2,K.out.2.1.F0 J⟩;clear I D J;go_wp2
  go_end0
  rw[P.out.2];exact⟨rfl,V9,u.out.1,u.out.2.1,u.out.2.2⟩
 ·have i1:(f.ret == G.cfg.ret)=false:=by rw[Oh];exact hA
  by_cases hB:er=0
  ·subst hB
   go_wp2_with fail
   go_quiet (fail)
   have E:=ZE HU.out.1 nq;have T:(A.drewN nq).heap[z]?=MI (acE tk):=HU.out.2;clear v5 v8 c0 b8;generalize A.drewN nq=w3 at *;have m:=d.out.2.1.below E;have M:adU w3 bf i f:=by
    obtain⟨y,C⟩:=a0.out;have:=m.Gl d.out.2.2.2.2 y;rw[C]at this;exact this
   have e8:w3.cell? ⟨g,8,MH⟩=MI (yB G.cfg.ret):=by rw[<-H.out.2.2.2.1.2.1];exact m.c8
   have c1:=m.lt;have K:M6 (_/\_/\_):=⟨m,d.out.2.2.2.1.below E,T⟩;obtain⟨x0,x1,x2,x3,x4,x5,x6⟩:=M;clear m E T;have a:=HO.out;rw[Nf (by rintro(h|h);exact hA h;exact h rfl)]at a;obtain⟨fs,a1⟩:=yE (Yl b.fls f.slot f.gen);rw[<-a1]at a;have d5:fs.length<=40:=by rw[a1];exact Nm (ahT _ _ _) (by rw[H.out.2.2.2.1.1];exact t.out.1.Gb)
   have d4:∀x∈fs,0<=x.be/\x.be<12:=fun x M=>(H.out.2.2.1.F9 (by rw[a1]at M;exact(ZAf.1 M).1)).2.2.2
   obtain⟨⟨cb,ce⟩,a3⟩:∃ce,ce=XD b f.key fs:=⟨_,rfl⟩;rw[<-a3]at a;simp only[]at a;have f4:∀X,yA w3 X->Ni MK 171 #[gP g,Ny #[yB f.slot,yB f.gen]] X fun r w'=>∃q c,r=MN (MG (MI ⟨q,0,MH⟩) fs.length c)/\w'.cell? ⟨bf,i*7+2,MH⟩=MI (yB f.key)/\bf<w'.heap.size /\
     M6 (∀Y,yA w' Y->Ni MK 109 #[gP g,yB f.key,MG (MI ⟨q,0,MH⟩) fs.length c] Y fun r w5=>r=MN (Nv #[yB cb,M3 (ce == 0)])/\M6 (yA w3 w5)):=by
    intro X Q;have f1:=K.out.1.below Q;refine Nd (alp f1 U.out.1 (by rw[H.out.2.2.2.1.1];exact t.out.1.Gb)) ?_;rw[<-a1];rintro r w' ⟨q,c,rfl,ho,hb⟩;have Z:=Q.trans (hb.mono Q.size);have a2:bf<w3.heap.size:=MX w3 ⟨bf,i*7+2,MH⟩ x2;refine⟨q,c,rfl,(Z.cell (p:=⟨bf,i*7+2,MH⟩) a2).trans x2,M8 a2 Z.size,?_⟩;intro Y hY;refine Nd (ahb (f1.below hb |>.below hY) H.out.2.2.1 t.out.2.2.2.1.2.2.1 _ fs ((abw ho).below hY) d4 d5) ?_;rw[<-a3];rintro r w5 ⟨rfl,S⟩;have f5:=Z.trans (hY.mono Z.size);exact⟨rfl,f5.trans (S.mono f5.size)⟩
   have H4:M6 (_/\_/\_/\_/\_):=⟨f4,a,d5,d4,a3⟩;have h7:M6 (¬f.ret=G.cfg.ret):=hA;have a2:bf<w3.heap.size:=MX w3 ⟨bf,i*7+2,MH⟩ x2;clear f4 a a1 d5 d4 a3 hA e8 x3 x4 x5 x6
   go_wp2_with fail
   go_region_with (first|(go_at_call 171;refine(H4.out.1 _ (by first|exact(MY _ _).drew|exact Below.refl _ _)).mono ?_;rintro r w4 ⟨q,c4,rfl,k2,g2,e9⟩)|(go_at_call 109;refine(e9.out _ (by first|exact(MY _ _).drew|exact MY _ _)).mono ?_;rintro r w5 ⟨rfl,g0⟩))
   all_goals
    have S:=g0.out;clear g0 e9 k2 g2 a2 x0 x1 x2 c1;have N:=K.out.1.below S;have a8:=WO K.out.2.2 S;have H5:M6 (_/\_/\_):=⟨True.intro,True.intro,K.out.2.1⟩
    by_cases hC:ce=0
    ·subst hC
     have a:=H4.out.2.1;rw[Nf (by decide)]at a;have c7:=N.Id;have g5:=N.fz 23;have d8:=N.lt;have y0:w5.cell? ⟨z,0,MH⟩=MI (yB tk):=by rw[MW w5 _ 0 _ _ (0,0) a8];rfl
     have g4:z<w5.heap.size:=(ZAa.1 a8).1;obtain⟨w6,d3⟩:=yE (w5.setCell ⟨g,23,MH⟩ (yB tk));have d0:=N.IC tk;have c3:=(H5.out.2.2.below S).F4 23 (yB tk);rw[<-d3]at d0 c3;have d2:=H.out.2.2.1.Ib (key:=f.key) H4.out.2.2.1 (by rw[<-H4.out.2.2.2.2]);rw[<-H4.out.2.2.2.2]at d2;have e7:0<=cb/\cb<12:=d2.2;have b0:=ahK t.out.1.GM t.out.2.2.2.2.2.2 (by rw[<-t.out.2.2.2.2.1]);rw[<-t.out.2.2.2.2.1]at b0;have e5:tk=G.tok-G.cfg.bd:=congrArg Prod.fst b0.1;have d7:Bs {b with tok:=tk}:=H.out.2.2.1.Hp (by rw[e5,H.out.2.2.2.1.2.1];exact ahO t.out.1 b0.2);have f7:0<=(Xs {b with tok:=tk} i).ret/\(Xs {b with tok:=tk} i).ret+1<=20:=by
      obtain⟨y,C⟩:=a0.out;have e:Xs {b with tok:=tk} i=f:=(XA (G:=b) y).trans C;rw[e];have h1:=t.out.2.2.2.2.2.1;have h2:=h7.out;have h3:=t.out.1.cfg.2.2.2.2.2.2.2.2.1;omega
     have e3:i<({b with tok:=tk}:Gt).fls.length:=by obtain⟨y,C⟩:=a0.out;exact y
     have HR:=aqq d0 d7 (by show b.wnow=b.now;rw[H.out.2.2.2.1.2.2.2.1,H.out.2.2.2.1.2.2.1];exact t.out.2.1) (by show b.out.length<=900000;have:=U.out.2;omega) e3 d.out.2.2.2.2 e7 f7;have H6:M6 (_/\_/\_):=⟨HR,c3,a⟩;clear N a8 S d0 c3 d2 e7 b0 e5 d7 f7 e3 HR a
     go_wp2_with fail
     rw[<-d3];clear d3 c7 g5 d8 y0 g4;refine Nd H6.out.1 ?_;rintro r w9 ⟨rfl,V9,I,D,J⟩;have u:M6 (_/\_/\_):=⟨I,D.trans d.out.2.2.1.2.2,H6.out.2.1.F0 J⟩;clear I D J;go_wp2
     go_end0
     rw[H6.out.2.2];exact⟨rfl,V9,u.out.1,u.out.2.1,u.out.2.2⟩
    ·have e4:(ce == 0)=false:=by rw[Oh];exact hC
     have a:=H4.out.2.1;rw[Nh hC]at a;have M:adU w5 bf i f:=by
      obtain⟨y,C⟩:=a0.out;have:=N.Gl d.out.2.2.2.2 y;rw[C]at this;exact this
     obtain⟨x0,x1,x2,x3,x4,x5,x6⟩:=M;have d8:=N.lt;have P:M6 (_/\_/\_):=⟨adY N H.out.2.2.1 U.out.1 (by have:=U.out.2;omega) 6 4,a,H5.out.2.2.below S⟩;rw[e4];clear a hC N a8 S e4
     go_wp2_with fail
     refine Nd P.out.1 ?_;rintro r w9 ⟨rfl,V9,I,D,J⟩;have u:M6 (_/\_/\_):=⟨I,D.trans d.out.2.2.1.2.2,P.out.2.2.F0 J⟩;clear I D J;go_wp2
     go_end0
     rw[P.out.2.1];exact⟨rfl,V9,u.out.1,u.out.2.1,u.out.2.2⟩
  ·have h9:(er != 0)=true:=by simpa using hB
   go_wp2_with fail
   go_quiet (fail)
   have E:=ZE HU.out.1 nq;have T:(A.drewN nq).heap[z]?=MI (acE tk):=HU.out.2;clear v5 v8 c0 b8;generalize A.drewN nq=w3 at *;have m:=d.out.2.1.below E;have M:adU w3 bf i f:=by
    obtain⟨y,C⟩:=a0.out;have:=m.Gl d.out.2.2.2.2 y;rw[C]at this;exact this
   have e8:w3.cell? ⟨g,8,MH⟩=MI (yB G.cfg.ret):=by rw[<-H.out.2.2.2.1.2.1];exact m.c8
   have c1:=m.lt;have K:M6 (_/\_/\_):=⟨m,d.out.2.2.2.1.below E,T⟩;obtain⟨x0,x1,x2,x3,x4,x5,x6⟩:=M;clear m E T;have a:=HO.out;rw[Nh (NF hB)]at a;have P:M6 (_/\_):=⟨adY K.out.1 H.out.2.2.1 U.out.1 (by have:=U.out.2;omega) 6 why,a⟩;clear a hA hB
   go_wp2_with fail
   refine Nd P.out.1 ?_;rintro r w9 ⟨rfl,V9,I,D,J⟩;have u:M6 (_/\_/\_):=⟨I,D.trans d.out.2.2.1.2.2,K.out.2.1.F0 J⟩;clear I D J;go_wp2
   go_end0
   rw[P.out.2];exact⟨rfl,V9,u.out.1,u.out.2.1,u.out.2.2⟩
end
section
variable {base:Nat}{w:MO}{g:Nat}{V:Vs}{G:Gt}
abbrev acH(e:Ev):Value:=Ny #[yB e.kind,yB e.key,yB e.slot,yB e.gen,M3 e.good,yB e.req,yB e.be,yB e.wt]
abbrev aaE(e:Ev):Obj:=MP #[yB e.kind,yB e.key,yB e.slot,yB e.gen,M3 e.good,yB e.req,yB e.be,yB e.wt] 61
theorem abP{q:Nat}{e:Ev}(h:W.heap[q]?=MI (aaE e)):W.cell? ⟨q,0,MH⟩=MI (yB e.kind)/\W.cell? ⟨q,1,MH⟩=MI (yB e.key)/\W.cell? ⟨q,2,MH⟩=MI (yB e.slot)/\W.cell? ⟨q,3,MH⟩=MI (yB e.gen)/\W.cell? ⟨q,4,MH⟩=MI (M3 e.good)/\W.cell? ⟨q,5,MH⟩=MI (yB e.req)/\W.cell? ⟨q,6,MH⟩=MI (yB e.be)/\W.cell? ⟨q,7,MH⟩=MI (yB e.wt)/\q<W.heap.size :=
 ⟨by rw[MW W _ 0 _ _ (0,0) h];rfl,by rw[MW W _ 1 _ _ (0,0) h];rfl,by rw[MW W _ 2 _ _ (0,0) h];rfl,by rw[MW W _ 3 _ _ (0,0) h];rfl,by rw[MW W _ 4 _ _ (0,0) h];rfl,by rw[MW W _ 5 _ _ (0,0) h];rfl,by rw[MW W _ 6 _ _ (0,0) h];rfl,by rw[MW W _ 7 _ _ (0,0) h];rfl,(ZAa.1 h).1⟩
theorem aho{f:FuncId}{a:Array M7}(h:Ni MK f a w (aaa base w g V G')):Ni MK f a w (aam base w g V G'):=h.mono fun _ _ k=>ao8 k
theorem apj(hbs:Bs G){s n:Int}(h:∃f∈G.fls,f.slot=s/\f.gen=n){i:Nat}(hi:i=aaF G.fls s):∃f,f∈G.fls/\i<G.fls.length/\Xs G i=f:=by
 obtain⟨f,a,c,_⟩:=h;subst c;subst hi;obtain⟨b,d⟩:=hbs.GG a;exact⟨f,a,b,(XA b).trans d⟩
abbrev afN(s n:Int):Obj:=MP #[yB s,yB n] 134
abbrev alc(t:awY):Obj:=MP #[yB t.1,M3 t.2.1,yB t.2.2.1,yB t.2.2.2] 208
abbrev aqB(w:MO)(b:Nat)(t:awY):World:=(((w.setCell ⟨b,0,MH⟩ (yB t.1)).setCell ⟨b,1,MH⟩ (M3 t.2.1)).setCell ⟨b,2,MH⟩ (yB t.2.2.1)).setCell ⟨b,3,MH⟩ (yB t.2.2.2)
abbrev ajX(w:MO)(b:Nat):Prop:=w.cell? ⟨b,0,MH⟩=MI (yB 0)/\w.cell? ⟨b,1,MH⟩=MI (M3 Nb)/\w.cell? ⟨b,2,MH⟩=MI (yB 0)/\w.cell? ⟨b,3,MH⟩=MI (yB 0)/\w.frozen? ⟨b,0,MH⟩=Nb/\w.frozen? ⟨b,1,MH⟩=Nb/\w.frozen? ⟨b,2,MH⟩=Nb/\w.frozen? ⟨b,3,MH⟩=Nb/\b<w.heap.size
theorem aqD{b:Nat}(h:w.heap[b]?=MI (alc (0,Nb,0,0))):ajX w b :=
 ⟨by rw[MW w _ 0 _ _ (0,0) h];rfl,by rw[MW w _ 1 _ _ (0,0) h];rfl,by rw[MW w _ 2 _ _ (0,0) h];rfl,by rw[MW w _ 3 _ _ (0,0) h];rfl,by simp[Ng,h],by simp[Ng,h],by simp[Ng,h],by simp[Ng,h],(ZAa.1 h).1⟩
theorem aqC{a:MO}{b:Nat}(h:MQ B a w)(hb:B<=b)(t:awY):MQ B a (aqB w b t):=
 (((h.setCell (p:=⟨b,0,MH⟩) hb _).setCell (p:=⟨b,1,MH⟩) hb _).setCell (p:=⟨b,2,MH⟩) hb _).setCell (p:=⟨b,3,MH⟩) hb _
theorem aqa(h:OR base w g V G)(hbs:Bs G)(hw:G.wnow=G.now)(hl:G.out.length<=800000)(e:Ev) :
  Ni MK 75 #[gP g,acH e] w (aam base w g V (aaq G e)):=by
 obtain⟨O,a⟩:=yE (aaq G e);rw[<-a];unfold aaq at a;simp only[]at a;obtain⟨⟨⟨C,D,F,E⟩,c⟩,S⟩:∃o,o=Yj G.tab e.slot e.gen:=⟨_,rfl⟩;rw[<-S]at a;simp only[]at a;obtain⟨W,hW⟩:=yE ((w.alloc (aaE e)).alloc (afN e.slot e.gen));have M:=acu w (aaE e) (afN e.slot e.gen);rw[<-hW]at M;obtain⟨a7,U,hB,c9⟩:=M;have J:=h.below hB;have c6:=J.Gs;have c3:=h.lt;have a9:=J.lt;have y0:W.cell? ⟨w.heap.size+1,0,MH⟩=MI (yB e.slot):=by rw[MW W _ 0 _ _ (0,0) U];rfl
 have y1:W.cell? ⟨w.heap.size+1,1,MH⟩=MI (yB e.gen):=by rw[MW W _ 1 _ _ (0,0) U];rfl
 have d0:w.heap.size+1<W.heap.size:=(ZAa.1 U).1;have HG:M6 ((∀X,yA W X->X.heap[W.heap.size]?=MI (alc (0,Nb,0,0))->Ni MK 114 #[Ny #[MG V.pt G.tab.length V.ct],Ny #[yB e.slot,yB e.gen]] X fun r w'=>r=MN (Nv #[Ny #[yB C,M3 D,yB F,yB E],yB c])/\ajX w' W.heap.size /\
   ∃A x,A=W.heap.size/\x=((((w'.setCell ⟨W.heap.size,0,MH⟩ (yB C)).setCell ⟨W.heap.size,1,MH⟩ (M3 D)).setCell ⟨W.heap.size,2,MH⟩ (yB F)).setCell ⟨W.heap.size,3,MH⟩ (yB E))/\M6 (yA W x)) /\
   (∀X,yA W X->Ni MK 114 #[Ny #[MG V.pt G.tab.length V.ct],Ny #[yB e.slot,yB e.gen]] X fun r w'=>r=MN (Nv #[Ny #[yB C,M3 D,yB F,yB E],yB c]) /\
   ∃A x,A=w'.heap.size/\x=w'.alloc (MP #[yB C,M3 D,yB F,yB E] 208)/\M6 (yA W x))):=by
  have a4:∀X,yA W X->Ni MK 114 #[Ny #[MG V.pt G.tab.length V.ct],Ny #[yB e.slot,yB e.gen]] X fun r w'=>r=MN (Nv #[Ny #[yB C,M3 D,yB F,yB E],yB c])/\yA X w':=by
   intro X y;refine(ai5 _ G.tab e.slot e.gen X (J.rest.tab.now.below y)).mono ?_;rw[<-S];exact fun r w' h=>h
  constructor
  ·intro X y hR
   refine(a4 X y).mono ?_;rintro r w' ⟨rfl,hb⟩;have c7:=WO hR hb;have P:=y.trans (hb.mono y.size);exact⟨rfl,aqD c7,_,_,rfl,rfl,aqC P (MV _) (C,D,F,E)⟩
  ·intro X y
   refine(a4 X y).mono ?_;rintro r w' ⟨rfl,hb⟩;have P:=y.trans (hb.mono y.size);exact⟨rfl,_,_,rfl,rfl,P.trans ((WQ w' (o:=MP #[yB C,M3 D,yB F,yB E] 208)).mono P.size)⟩
 have H:M6 (_/\_/\_/\_/\_/\_/\_):=⟨J,hbs,hw,hl,a,S,hB⟩;have HR:M6 (_/\_):=⟨a7,h⟩;clear h hbs hw hl a S hB a7 U J c9;go_enter WJ,WB
 go_wp2_with fail
 rw[<-hW];clear hW;apply adX
 ·intro c0
  go_region_with (first|(go_at_call 114;refine(HG.out.1 _ (by first|exact(WQ _).drew|exact WQ _) (by first|exact M1 _ _|(show(World.alloc _ _).heap[_]?=_;exact heap_alloc_new _ _))).mono ?_;rintro r w2 ⟨rfl,⟨s0,s1,s2,s3,z0,z1,z2,z3,b0⟩,A,x,a1,a2,N⟩)|(go_at_call 114;refine(HG.out.2 _ (by first|exact(MY _ _).drew|exact Below.refl _ _)).mono ?_;rintro r w2 ⟨rfl,A,x,a1,a2,N⟩))
  all_goals
   rw[<-a2]
   try rw[<-a1]
   clear a2 a1
   try clear s0 s1 s2 s3 z0 z1 z2 z3 b0
   revert A x;exact c0.out
 intro A x N;clear c6 y0 y1 d0 a9 HG c3;have z:=H.out.1.below N.out;have Q:WV V V g w x:=(WV.F5 H.out.2.2.2.2.2.2).below N.out;have a0:=WO HR.out.1 N.out;obtain⟨k0,_,k2,k3,k4,_,_,_,a5⟩:=abP a0;have b9:=z.lt
 by_cases hc:c=0
 ·subst hc
  have a:=H.out.2.2.2.2.1;rw[Nf (by decide)]at a;have b8:=H.out.2.1.Jv (s:=e.slot) (g:=e.gen) (by rw[<-H.out.2.2.2.2.2.1]);obtain⟨i,T⟩:=yE (aaF G.fls e.slot);obtain⟨f,a6,hi,a3⟩:=apj H.out.2.1 b8 T;rw[<-T]at a;rw[a3]at a;obtain⟨bf,hp,_,c1⟩:=z.bf (Pb (Nx _) hi);have I:M6 (_/\_/\_/\_/\_):=⟨ahm z hi T.symm hp H.out.2.1.Gb,z,Q,a0,a⟩;have u:M6 (_/\_/\_/\_):=⟨hi,a3,hp,a6⟩;clear z Q a0 a hi a3 hp c1 a6 T
  go_wp2_with fail
  refine Nd I.out.1 ?_;rintro r w4 ⟨rfl,Z⟩;have Y:=I.out.2.1.below Z;have a8:=WO I.out.2.2.2.1 Z;have M:=Y.Gw u.out.2.2.1 u.out.1;rw[u.out.2.1]at M;obtain⟨x0,x1,x2,x3,x4,x5,x6⟩:=M;clear k0 k2 k3 k4 a5 b9;obtain⟨k0,_,_,_,k4,_,_,_,a5⟩:=abP a8;have d1:=Y.lt;have t:M6 (_/\_):=⟨Y,I.out.2.2.1.below Z⟩;clear Y a8 Z;have a:=I.out.2.2.2.2
  by_cases h3:e.kind=3
  ·rw[Nh h3]at a
   rw[h3]at k0;have d:M6 (_/\_):=⟨adY t.out.1 H.out.2.1 u.out.2.2.2 (by have:=H.out.2.2.2.1;omega) 7 0,a⟩;clear a h3
   go_wp2_with fail
   refine Nd d.out.1 ?_;rintro r K ⟨rfl,q,m,j,p⟩;have b:M6 (_/\_/\_):=⟨m,j,t.out.2.F0 p⟩;clear m j p;go_wp2
   go_end0
   rw[d.out.2];exact⟨rfl,q,b.out.1,b.out.2.1,b.out.2.2⟩
  ·rw[Nf h3]at a
   have c2:(e.kind == 3)=false:=by rw[Oh];exact h3
   by_cases h2:e.kind=2
   ·rw[Nh h2]at a
    rw[h2]at k0;have d:M6 (_/\_):=⟨ao4 t.out.1 H.out.2.1 H.out.2.2.1 (by have:=H.out.2.2.2.1;omega) u.out.1 u.out.2.2.1,a⟩;clear a h3 c2 h2
    go_wp2_with fail
    refine Nd d.out.1 ?_;rintro r K ⟨rfl,q,m,j,p⟩;have b:M6 (_/\_/\_):=⟨m,j,t.out.2.F0 p⟩;clear m j p;go_wp2
    go_end0
    rw[d.out.2];exact⟨rfl,q,b.out.1,b.out.2.1,b.out.2.2⟩
   ·rw[Nf h2]at a
    have d3:(e.kind == 2)=false:=by rw[Oh];exact h2
    cases hs:f.srv
    ·rw[hs]at x4 a
     rw[Nf (by decide)]at a;cases hg:e.good
     ·rw[hg]at k4 a
      rw[Nf (by decide)]at a;have d:M6 (_/\_):=⟨akl t.out.1 H.out.2.1 H.out.2.2.1 H.out.2.2.2.1 u.out.1 u.out.2.2.1 3,a⟩;clear a h3 h2
      go_wp2_with fail
      refine Nd d.out.1 ?_;rintro r K ⟨rfl,q,m,j,p⟩;have b:M6 (_/\_/\_):=⟨m,j,t.out.2.F0 p⟩;clear m j p;go_wp2
      go_end0
      rw[d.out.2];exact⟨rfl,q,b.out.1,b.out.2.1,b.out.2.2⟩
     ·rw[hg]at k4 a
      rw[Nh rfl]at a;have d:M6 (_/\_):=⟨aqy t.out.1 H.out.2.1 H.out.2.2.1 (by have:=H.out.2.2.2.1;omega) u.out.1 u.out.2.2.1,a⟩;clear a h3 h2
      go_wp2_with fail
      refine Nd d.out.1 ?_;rintro r K ⟨rfl,q,m,j,p⟩;have b:M6 (_/\_/\_):=⟨m,j,t.out.2.F0 p⟩;clear m j p;go_wp2
      go_end0
      rw[d.out.2];exact⟨rfl,q,b.out.1,b.out.2.1,b.out.2.2⟩
    ·rw[hs]at x4 a
     rw[Nh rfl]at a;have d:M6 (_/\_):=⟨aho (af1 t.out.1 (by have:=H.out.2.2.2.1;omega) 10 7),a⟩;clear a h3 h2
     go_wp2_with fail
     refine Nd d.out.1 ?_;rintro r K ⟨rfl,q,m,j,p⟩;have b:M6 (_/\_/\_):=⟨m,j,t.out.2.F0 p⟩;clear m j p;go_wp2
     go_end0
     rw[d.out.2];exact⟨rfl,q,b.out.1,b.out.2.1,b.out.2.2⟩
 ·have d2:(c != 0)=true:=by simpa using hc
  have a:=H.out.2.2.2.2.1;rw[Nh hc]at a;have d:M6 (_/\_/\_):=⟨aho (af1 z (by have:=H.out.2.2.2.1;omega) 10 c),a,Q⟩;clear a hc z Q a0
  go_wp2_with fail
  refine Nd d.out.1 ?_;rintro r K ⟨rfl,q,m,j,p⟩;have b:M6 (_/\_/\_):=⟨m,j,d.out.2.2.F0 p⟩;clear m j p;go_wp2
  go_end0
  rw[d.out.2.1];exact⟨rfl,q,b.out.1,b.out.2.1,b.out.2.2⟩
end
section
variable {base:Nat}{w:MO}{g:Nat}{V:Vs}{G:Gt}
abbrev acD(a b:M7):Obj:=MP #[a,b] 45
theorem aj3{a b:M7}(h:Yw B w va vb L R)(hk:k<B):Yw B ((w.setCell ⟨k,0,MH⟩ a).setCell ⟨k,1,MH⟩ b) va vb L R:=by
 have d:∀x,B<=x->((w.setCell ⟨k,0,MH⟩ a).setCell ⟨k,1,MH⟩ b).heap[x]?=w.heap[x]?:=fun x hx=>by
  have c:x≠k:=by omega
  rw[MU _ _ _ _ c,MU _ _ _ _ c]
 exact⟨⟨aat.Gf h.1.1 (by simp) fun x hx=>d x (h.2.1 x hx),aat.Gf h.1.2 (by simp) fun x hx=>d x (h.2.2 x hx)⟩,h.2⟩
theorem aj2(h:Yw B w va vb L R)(hb:yA w w'):Yw B w' va vb L R:=⟨h.1.below hb,h.2⟩
theorem afF{A:Nat}(h:Yw B w va vb L R)(hb:A<=B):Yw A w va vb L R:=⟨h.1,fun b e=>Nm hb (h.2.1 b e),fun b e=>Nm hb (h.2.2 b e)⟩
def aog(base:Nat)(w:MO)(g:Nat)(V:Vs)(G':Gt)(b:Bool)(r:Ending)(w':MO):Prop :=
 r=MN (M3 b)/\∃V',OR base w' g V' G'/\(V'.pf=V.pf/\V'.cf=V.cf/\V'.bh=V.bh)/\WV V V' g w w'
abbrev ak2(a b c d e:Int):Obj:=MP #[yB a,yB b,yB c,yB d,yB e] 217
theorem aok(hb:yA W w5)(hk:Yw X.heap.size w5 va vb L R)(hs:W.heap.size<=X.heap.size):
  ∃bx u3,bx=w5.heap.size/\u3=w5.alloc (acD va vb)/\M6 (yA W u3/\u3.heap[bx]?=MI (acD va vb)/\W.heap.size<=bx/\Yw W.heap.size u3 va vb L R):=
 ⟨_,_,rfl,rfl,hb.trans ((WQ w5).mono hb.size),M1 _ _,hb.size,afF (aj2 hk (WQ w5)) hs⟩
theorem aol(hT:X.heap[W.heap.size]?=MI (acD (MG MH 0 0) (MG MH 0 0)))(hX:yA X w5)(hb:yA W w5)(hk:Yw X.heap.size w5 va vb L R):
  ∃bx u3,bx=W.heap.size/\u3=(w5.setCell ⟨W.heap.size,0,MH⟩ va).setCell ⟨W.heap.size,1,MH⟩ vb/\M6 (yA W u3/\u3.heap[bx]?=MI (acD va vb)/\W.heap.size<=bx/\Yw W.heap.size u3 va vb L R):=by
 have a:W.heap.size<X.heap.size:=(ZAa.1 hT).1;exact⟨_,_,rfl,rfl,afD hb (MV _) 0 1 _ _,acb (WO hT hX),MV _,afF (aj3 hk a) (PJ a)⟩
theorem ajZ(h:OR base w g V G)(hl:G.out.length<=1000000)(kind:Int)(e:Ev) :
  Ni MK 76 #[gP g,yB kind,acH e] w (aog base w g V (Yv G kind e) (acC G kind e)):=by
 obtain⟨⟨⟨x,y⟩,I,Q,er⟩,P⟩:∃O,O=YV G kind e:=⟨_,rfl⟩;have a5:Yv G kind e=ZM {G with liv:=x,req:=y} ⟨8,0,0,0,e.req,I,0⟩:=by unfold Yv;rw[<-P]
 have a0:acC G kind e=(Q && (I == 0)):=by unfold acC;rw[<-P]
 rw[a5,a0];obtain⟨W,Y⟩:=yE ((w.alloc (aaE e)).alloc (ak2 e.req kind e.be e.wt 0));have hx:=acu w (aaE e) (ak2 e.req kind e.be e.wt 0);rw[<-Y]at hx;obtain⟨b0,s,Z,c2⟩:=hx;have i:=h.below Z;have a7:=i.Gn;have b8:=i.GD;have a3:=i.Gm;have c5:=i.c5;have d4:=h.lt;have E:=i.lt;have y0:W.cell? ⟨w.heap.size+1,0,MH⟩=MI (yB e.req):=by rw[MW W _ 0 _ _ (0,0) s];rfl
 have y1:W.cell? ⟨w.heap.size+1,1,MH⟩=MI (yB kind):=by rw[MW W _ 1 _ _ (0,0) s];rfl
 have y2:W.cell? ⟨w.heap.size+1,2,MH⟩=MI (yB e.be):=by rw[MW W _ 2 _ _ (0,0) s];rfl
 have y3:W.cell? ⟨w.heap.size+1,3,MH⟩=MI (yB e.wt):=by rw[MW W _ 3 _ _ (0,0) s];rfl
 have y4:W.cell? ⟨w.heap.size+1,4,MH⟩=MI (yB 0):=by rw[MW W _ 4 _ _ (0,0) s];rfl
 have A:w.heap.size+1<W.heap.size:=(ZAa.1 s).1;have HK:M6 (∀X,yA W X->Ni MK 120 #[Ny #[MG V.pl G.liv.length V.cl,MG V.pr G.req.length V.cr],Ny #[yB e.req,yB kind,yB e.be,yB e.wt,yB 0],yB G.now,yB G.cfg.drain] X fun r w'=>∃p c q m,r=MN (Nv #[Ny #[MG p x.length c,MG q y.length m],yB I,M3 Q,yB er]) /\
    M6 (yA X w'/\yA W w'/\Yw X.heap.size w' (MG p x.length c) (MG q y.length m) x y/\W.heap.size<=X.heap.size)/\(∀n,n<X.heap.size->n<w'.heap.size)/\(∀b o,b<X.heap.size->w'.cell? ⟨b,o,MH⟩=X.cell? ⟨b,o,MH⟩)/\(∀b o,b<X.heap.size->w'.frozen? ⟨b,o,MH⟩=X.frozen? ⟨b,o,MH⟩)):=fun X hX=>by
  refine(arO _ _ G.liv G.req e.req kind e.be e.wt 0 G.now G.cfg.drain X (i.below hX).rest.book.now).mono ?_;have c0:ZU G.liv G.req (e.req,kind,e.be,e.wt,0) G.now G.cfg.drain=((x,y),I,Q,er):=P.symm;rw[c0];rintro r w' ⟨p,c,q,m,rfl,M,K⟩;exact⟨p,c,q,m,rfl,⟨K,hX.trans (K.mono hX.size),M,hX.size⟩,fun n hn=>M8 hn K.size,fun b o hb'=>K.cell (p:=⟨b,o,MH⟩) hb',fun b o hb'=>OM (a:=⟨b,o,MH⟩) (K.block b hb')⟩
 have u:M6 (∀X,yA W X->X.cell? ⟨g,19,MH⟩=MI (MG V.pl G.liv.length V.cl)/\X.cell? ⟨g,20,MH⟩=MI (MG V.pr G.req.length V.cr)/\X.cell? ⟨g,16,MH⟩=MI (yB G.now)/\X.cell? ⟨g,5,MH⟩=MI (yB G.cfg.drain)/\X.cell? ⟨w.heap.size+1,0,MH⟩=MI (yB e.req)/\X.cell? ⟨w.heap.size+1,1,MH⟩=MI (yB kind)/\X.cell? ⟨w.heap.size+1,2,MH⟩=MI (yB e.be)/\X.cell? ⟨w.heap.size+1,3,MH⟩=MI (yB e.wt)/\X.cell? ⟨w.heap.size+1,4,MH⟩=MI (yB 0)/\yA W X):=fun X hX =>
  ⟨(hX.cell E).trans a7,(hX.cell E).trans b8,(hX.cell E).trans a3,(hX.cell E).trans c5,(hX.cell A).trans y0,(hX.cell A).trans y1,(hX.cell A).trans y2,(hX.cell A).trans y3,(hX.cell A).trans y4,hX⟩
 have H:M6 (_/\_/\_/\_):=⟨i,hl,WV.F5 (V:=V) (g:=g) Z,b0⟩;clear P a5 a0 Z b0 s c2 i h hl;go_enter Tryz.func76,Tryz.ntmps76
 go_wp2_with fail
 rw[<-Y];clear Y;apply adX
 ·intro a2
  go_region_held3 (fun X=>X.cell? ⟨g,19,MH⟩=MI (MG V.pl G.liv.length V.cl)/\X.cell? ⟨g,20,MH⟩=MI (MG V.pr G.req.length V.cr)/\X.cell? ⟨g,16,MH⟩=MI (yB G.now)/\X.cell? ⟨g,5,MH⟩=MI (yB G.cfg.drain)/\X.cell? ⟨w.heap.size+1,0,MH⟩=MI (yB e.req)/\X.cell? ⟨w.heap.size+1,1,MH⟩=MI (yB kind)/\X.cell? ⟨w.heap.size+1,2,MH⟩=MI (yB e.be)/\X.cell? ⟨w.heap.size+1,3,MH⟩=MI (yB e.wt)/\X.cell? ⟨w.heap.size+1,4,MH⟩=MI (yB 0)/\yA W X) (first|exact u.out _ ((MY _ _).drew)|exact u.out _ (((MY _ _).drew).alloc (by simp) _)|exact u.out _ d.out.2.1|exact u.out _ (d.out.2.1.alloc d.out.2.1.size _)|exact u.out _ (((MY _ _).alloc (MV _) _).drew)|exact u.out _ (afD d.out.2.1 (MV _) 0 1 _ _)) (first|(go_at_call 120;refine(HK.out _ ?hbW).mono ?_;(case hbW=>first|with_reducible assumption|exact(MY _ _).drew|exact((MY _ _).drew).alloc (by simp) _|exact((Below.refl _ _).alloc (Nat.le_refl _) _).drew);rintro r w5 ⟨p,c,q,m,rfl,d,c6,c1,b9⟩))
  all_goals
   clear c6 c1 b9;rename_i hHe;clear hHe
   first
   | (obtain⟨t,f,j,F,T⟩:=aok d.out.2.1 d.out.2.2.1 d.out.2.2.2
      rw[<-F]
      try rw[<-j]
      clear F j d;revert p c q m t f;exact a2.out)
   | (obtain⟨t,f,j,F,T⟩:=aol (W:=W) (by first|exact M1 _ _|(show(World.alloc _ _).heap[_]?=_;exact heap_alloc_new _ _)) d.out.1 d.out.2.1 d.out.2.2.1
      rw[<-F]
      try rw[<-j]
      clear F j d;revert p c q m t f;exact a2.out)
 intro p c q m t f T;clear a7 b8 a3 c5 y0 y1 y2 y3 y4 A E HK u;obtain⟨z,N,j,M⟩:=T.out;clear T;have C:=H.out.1.below z;have k0:f.cell? ⟨t,0,MH⟩=MI (MG p x.length c):=by rw[MW f _ 0 _ _ (0,0) N];rfl
 have k1:f.cell? ⟨t,1,MH⟩=MI (MG q y.length m):=by rw[MW f _ 1 _ _ (0,0) N];rfl
 have d2:t<f.heap.size:=(ZAa.1 N).1;have d7:=C.Gn;have d5:=C.GD;have d6:=C.fz 19;have d3:=C.fz 20;have d0:=C.lt;obtain⟨S,J⟩:=yE ((f.setCell ⟨g,19,MH⟩ (MG p x.length c)).setCell ⟨g,20,MH⟩ (MG q y.length m));have U:=H.out.1.Iq z M;rw[<-J]at U;have a1:WV V {V with pl:=p,cl:=c,pr:=q,cr:=m} g w S:=by
  rw[J];exact(((H.out.2.2.1.below z).F4 19 _).F4 20 _).Gp fun _ h=>h
 have c3:S.heap[w.heap.size]?=MI (aaE e):=by
  have a6:w.heap.size≠g:=by omega
  rw[J,MU _ _ _ _ a6,MU _ _ _ _ a6];exact WO H.out.2.2.2 z
 obtain⟨_,_,_,_,_,v5,_,_,d1⟩:=abP (WO H.out.2.2.2 z);have c9:¬w.heap.size=g:=by omega
 have c7:¬g=w.heap.size:=by omega
 have H4:M6 (_/\_):=⟨aeR U H.out.2.1 ⟨8,0,0,0,e.req,I,0⟩,a1⟩;clear C U a1 c3 z N M j
 go_wp2_with fail
 rw[<-J];clear J;refine Nd H4.out.1 ?_;rintro r w5 ⟨rfl,V5,a9,a4,a8⟩;have D:M6 (_/\_/\_):=⟨a9,a4,H4.out.2.F0 a8⟩;clear a9 a4 a8;cases Q
 ·go_wp2
  go_ret;exact⟨rfl,V5,D.out.1,D.out.2.1,D.out.2.2⟩
 ·go_wp2
  go_ret;exact⟨by simp,V5,D.out.1,D.out.2.1,D.out.2.2⟩
end
section
variable {base:Nat}{w:MO}{g:Nat}{V:Vs}{G:Gt}
theorem akv{r:Ending}{w1:MO}{V1:Vs}(hF:WV V V1 g w w1)(hV:V1.pf=V.pf/\V1.cf=V.cf/\V1.bh=V.bh)(h:aaa base w1 g V1 G' r w'):aaa base w g V G' r w':=by
 obtain⟨b,e,c,a,d⟩:=h;exact⟨b,e,c,⟨a.1.trans hV.1,a.2.1.trans hV.2.1,a.2.2.trans hV.2.2⟩,hF.F0 d⟩
theorem aon(kind:Int)(e:Ev):(Yv G kind e).wts=G.wts/\(Yv G kind e).out.length=G.out.length+1/\(Yv G kind e).cfg=G.cfg:=⟨rfl,by show(G.out++[_]).length=_;simp,rfl⟩
theorem aqn(h:OR base w g V G)(him:Im G)(hl:G.out.length<=900000)(e:Ev)(he:XZ e) :
  Ni MK 77 #[gP g,acH e] w (aaa base w g V (abg G e)):=by
 obtain⟨O,d⟩:=yE (abg G e);rw[<-d];unfold abg at d;obtain⟨x,hx⟩:=yE (WS G.liv e.be);obtain⟨W,T⟩:=yE (w.alloc (aaE e));have hB:yA w W:=by rw[T];exact WQ w
 have hR:W.heap[w.heap.size]?=MI (aaE e):=by rw[T];exact M1 _ _
 have hG:=h.below hB;have b9:∀X:MO,(Instr.field 214 (abR x) 1).run MK X=.ok (yB x.2.1) X:=fun X=>by kernel_rfl
 obtain⟨_,_,_,_,_,_,z,_,y⟩:=abP hR;have d9:=h.lt;have a8:¬V.own g w.heap.size:=h.rest.new (MV _);have HL:=afR hG e.be;rw[<-hx]at HL;have a3:WY G.liv e.be=x.2.1:=by rw[hx]
 rw[a3]at d;have H:M6 (_/\_/\_/\_/\_/\_/\_/\_):=⟨HL,hG,hR,WV.F5 (V:=V) (g:=g) hB,him,hl,d,a3⟩;have HE:M6 _:=he;have c2:M6 _:=a8;clear HL hG hR hB him hl d a3 h he hx a8;go_enter Tryz.func77,Tryz.ntmps77
 go_wp2_with fail
 rw[<-T];clear T;refine Nd H.out.1 ?_;rintro r w1 ⟨rfl,C⟩;have a2:=H.out.2.1.below C;have Q:=WO H.out.2.2.1 C;have M:=H.out.2.2.2.1.below C;clear z y;obtain⟨k0,k1,k2,k3,k4,k5,z,k7,y⟩:=abP Q;have E:=ajZ a2 (by have:=H.out.2.2.2.2.2.1;omega) 2 e;obtain⟨b,S⟩:=yE (acC G 2 e);have d:=H.out.2.2.2.2.2.2.1;rw[<-S]at E d;have HB:M6 _:=S;cases b
 ·rw[Nh rfl]at d
  have m:M6 (_/\_/\_):=⟨E,M,d⟩;clear E M d S a2 Q C
  go_wp2_with fail
  refine Nd m.out.1 ?_;rintro r Z ⟨rfl,o,i,s,q⟩;have f:M6 (_/\_/\_):=⟨i,s,m.out.2.1.F0 q⟩;clear i s q;go_wp2
  go_end0
  rw[m.out.2.2];exact⟨rfl,o,f.out.1,f.out.2.1,f.out.2.2⟩
 ·rw[Nf (by decide)]at d
  have m:M6 (_/\_/\_/\_):=⟨E,M,d,Q⟩;clear E M d S a2 Q C
  go_wp2_with fail
  refine Nd m.out.1 ?_;rintro r Z ⟨rfl,o,i,s,q⟩;have P:=q.Gf m.out.2.2.2 c2.out;have d7:=q.Ik (ZAa.1 m.out.2.2.2).1 c2.out;clear k0 k1 k2 k3 k4 k5 z k7 y;obtain⟨_,_,_,_,_,k5,z,_,y⟩:=abP P;have j:=aon (G:=G) 2 e;have D:(Yv G 2 e).out.length<=1000000:=by rw[j.2.1];have:=H.out.2.2.2.2.2.1;omega
  have I:=m.out.2.1.F0 q;have d:=m.out.2.2.1;obtain⟨U,J⟩:=yE x.2.1;rw[<-J]at d⊢
  by_cases h1:U=1
  ·rw[Nh h1]at d
   subst h1;have f:M6 (_/\_/\_/\_):=⟨alj i D e.be e.req,s,I,d⟩;clear i s q I d P D j J b9
   go_wp2_with fail
   refine Nd f.out.1 ?_;rintro r w3 ⟨rfl,V3,F⟩;have H3:M6 _:=F;clear F;go_wp2
   go_end0
   rw[f.out.2.2.2];exact akv f.out.2.2.1 f.out.2.1 ⟨rfl,V3,H3.out⟩
  ·rw[Nf h1]at d
   have d8:(U == 1)=false:=beq_eq_false_iff_ne.2 h1;have a5:=ahC H.out.2.2.2.2.1.bs (e:=e) HE.out.req;rw[<-HB.out]at a5;obtain⟨t,N⟩:=NL HE.out.be.1;have a0:t<12:=by have:=HE.out.be.2;omega
   have a1:WY G.liv e.be=2:=by
    rcases a5 with⟨h,_⟩|⟨_,_,_,h,_⟩
    ·cases h
    ·rcases h with h|h
     ·rw[H.out.2.2.2.2.2.2.2,<-J]at h;exact absurd h h1
     ·exact h
   have c0:0<G.wts.getD t 0:=by
    have h2:=H.out.2.2.2.2.1.ring t a0;rw[h2,<-N,Nh a1];have:=H.out.2.2.2.2.1.bs.Iv (b:=e.be) (by rw[a1];decide);omega
   obtain⟨A,hA⟩:=yE (Yv G 2 e);rw[<-hA]at i D j d;have b0:e.be.toNat=t:=by rw[N];rfl
   rw[b0]at d;have a9:XI A.wts:=by rw[j.1];exact H.out.2.2.2.2.1.bs.wts
   have c1:=i.GX;have d0:=i.lt;rw[j.1]at c1;have a4:OR base Z g o {A with wts:=G.wts}:=by rw[<-j.1];exact i
   have c7:M6 (∀X,yA Z X->Ni MK 124 #[Ny #[MG o.ps (WW G.wts).length o.cs],yB e.be] X fun r w'=>∃p c n,r=MN (Nv #[Ny #[MG p n c],yB 0])/\w'.cell? ⟨g,21,MH⟩=MI (MG o.ps (WW G.wts).length o.cs)/\w'.frozen? ⟨g,21,MH⟩=Nb/\g<w'.heap.size /\
     ∃u,u=w'.setCell ⟨g,21,MH⟩ (MG p n c)/\M6 (OR base u g {o with ps:=p,cs:=c} {A with wts:=G.wts.set t 0}/\WV V {o with ps:=p,cs:=c} g w u/\u.heap[w.heap.size]?=MI (aaE e))):=by
    intro X Y;rw[N];refine(at1 _ G.wts t X (by rw[<-j.1];exact a9) (by rw[<-j.1];exact(i.below Y).rest.ring.now) a0 c0).mono ?_;rintro r w' ⟨p,c,rfl,ho,d4⟩;have K:=Y.trans (d4.mono Y.size);have a6:=a4.below K;have d6:=a4.IJ (a:=G.wts.set t 0) K (ho.mono Y.size);refine⟨p,c,_,rfl,a6.GX,a6.fz 21,a6.lt,_,rfl,d6,((I.below K).F4 21 _).Gp fun _ h=>h,?_⟩;have c9:w.heap.size≠g:=by omega
    rw[MU _ _ _ _ c9];exact WO P K
   have f:M6 (_/\_/\_):=⟨s,d,D⟩;clear i s q I d P D j J b9 a4 a9 c0 a1 a5 hA h1 d7 b0 N a0
   go_wp2_with fail
   apply adX
   ·intro d2
    go_region_with (first|(go_at_call 124;refine(c7.out _ (by first|exact(MY _ _).drew|exact Below.refl _ _)).mono ?_;rintro r w3 ⟨p,c,n,rfl,d5,d3,d1,u,b8,hQ⟩))
    all_goals
     rw[<-b8];clear b8 d5 d3 d1;revert p c n u;exact d2.out
   intro p c n u hQ;obtain⟨c3,a7,c6⟩:=hQ.out;clear hQ c7 c1 d0 k5 z y;obtain⟨_,_,_,_,_,_,z,_,y⟩:=abP c6;have H4:M6 (_/\_):=⟨ahg c3 f.out.2.2 e.be,a7⟩;clear c3 a7 c6
   go_wp2_with fail
   refine Nd H4.out.1 ?_;rintro r w5 ⟨rfl,V5,F⟩;have H5:M6 _:=F;clear F;go_wp2
   go_end0
   rw[f.out.2.1];exact akv H4.out.2 f.out.1 ⟨rfl,V5,H5.out⟩
end
section
variable {base:Nat}{w:MO}{g:Nat}{V:Vs}{G:Gt}
theorem aeJ{g:Nat}{V V':Vs}(h:aaf w v l)(hF:WV V V' g w w')(hn:∀b,v.ownBlock=MI b->¬V.own g b):aaf w' v l:=by
 obtain⟨a,j,f,m,o,c⟩:=h;refine⟨a,j,f,m,o,?_⟩;rcases c with c|⟨b,off,d,e,p⟩
 ·exact Nt c
 ·refine NF ⟨b,off,d,M8 e hF.size,fun i hi=>?_⟩
  rw[<-p i hi];have:=hF.block b e (hn b (by rw[f,d];rfl));simp only[Nl,this]
theorem aq3(h:Im G)(hk:k<(XW G.liv).length):∃b:Nat,b<12/\(XW G.liv)[k]=(b:Int)/\¬0<(((XW G.liv).take k).foldl YX {G with liv:=G.liv.map (XH G.now)}).wts.getD b 0:=by
 have t:=Nk hk;obtain⟨x,i,s,m⟩:=ad2.1 t;have p:=(h.bs.lf i).1.1;rw[<-m];obtain⟨b,a⟩:=NL p.1;refine⟨b,by omega,a,?_⟩;have o:∀c∈(XW G.liv).take k,0<=c/\c<12:=fun c d=>by
  obtain⟨y,u,_,e⟩:=ad2.1 (List.mem_of_mem_take d);have:=(h.bs.lf u).1.1;omega
 have f:=alq (L:=G.liv) h.bs.Gv;rw[aln _ {G with liv:=G.liv.map (XH G.now)} h.bs.wts.1 o (f.sublist (List.take_sublist _ _)) b (by omega)];have r:(b:Int)∉ (XW G.liv).take k:=by
  rw[<-a,m];intro d;obtain⟨j,z,e⟩:=List.mem_iff_getElem.1 d;rw[List.getElem_take]at e;rw[NH]at z;exact List.pairwise_iff_getElem.1 f j k (by omega) hk (by omega) e
 rw[Nf r];show ¬0<G.wts.getD b 0;rw[h.ring b (by omega),<-a];have q:WY G.liv x.1=1:=by show(WS G.liv x.1).2.1=1;rw[abd h.bs.Gv i];exact s
 rw[Nf (by rw[q];decide)]
 decide
theorem aqZ{vs:M7}(hb:yA W w5)(hk:Yw X.heap.size w5 va vb L R)(hs:W.heap.size<=X.heap.size)(hi:aaf w5 vs l)(hn:∀b,vs.ownBlock=MI b->X.heap.size<=b):
  ∃bx u3,bx=w5.heap.size/\u3=w5.alloc (acD va vb)/\M6 (yA W u3/\u3.heap[bx]?=MI (acD va vb)/\W.heap.size<=bx/\Yw W.heap.size u3 va vb L R/\aaf u3 vs l/\∀b,vs.ownBlock=MI b->W.heap.size<=b):=
 ⟨_,_,rfl,rfl,hb.trans ((WQ w5).mono hb.size),M1 _ _,hb.size,afF (aj2 hk (WQ w5)) hs,aat.below hi (WQ w5),fun b e=>Nm hs (hn b e)⟩
theorem aq0{vs:M7}(hT:X.heap[W.heap.size]?=MI (acD (MG MH 0 0) (MG MH 0 0)))(hX:yA X w5)(hb:yA W w5)(hk:Yw X.heap.size w5 va vb L R)(hi:aaf w5 vs l)(hn:∀b,vs.ownBlock=MI b->X.heap.size<=b):
  ∃bx u3,bx=W.heap.size/\u3=(w5.setCell ⟨W.heap.size,0,MH⟩ va).setCell ⟨W.heap.size,1,MH⟩ vb/\M6 (yA W u3/\u3.heap[bx]?=MI (acD va vb)/\W.heap.size<=bx/\Yw W.heap.size u3 va vb L R/\aaf u3 vs l/\∀b,vs.ownBlock=MI b->W.heap.size<=b):=by
 have a:W.heap.size<X.heap.size:=(ZAa.1 hT).1;refine⟨_,_,rfl,rfl,afD hb (MV _) 0 1 _ _,acb (WO hT hX),MV _,afF (aj3 hk a) (PJ a),aat.Gf hi (by simp) fun b e=>?_,fun b e=>Nm (PJ a) (hn b e)⟩;have c:b≠W.heap.size:=by have:=hn b e;omega
 rw[MU _ _ _ _ c,MU _ _ _ _ c]
theorem aq1(b:Nat):YX G (b:Int)={G with hea:=G.hea.set b XM,wts:=G.wts.set b (WS G.liv (b:Int)).2.2.1}:=rfl
theorem aq2(h:OR base w g V G)(him:Im G) :
  Ni MK 126 #[gP g] w (aaa base w g V (YH G)):=by
 rw[af3 him.bs];have d1:abn G.liv G.req G.now=((G.liv.map (XH G.now),G.req),XW G.liv,0):=amf him.bs.book him.bs.GN;obtain⟨d,a4⟩:=yE (XW G.liv);obtain⟨C,a1⟩:=yE (G.liv.map (XH G.now));have e3:∀(k:Nat) (hk:k<d.length),∃b:Nat,b<12/\d[k]=(b:Int)/\¬0<((d.take k).foldl YX {G with liv:=C}).wts.getD b 0:=by rw[a4,a1];exact fun k hk=>aq3 him hk
 have e6:∀b∈d,WY C b≠0:=by rw[a4,a1];exact fun b y=>by rw[alr him.bs y];decide
 have d6:Bs {G with liv:=C}:=by rw[a1];exact him.bs.IP
 have j1:d.length<=900:=by
  rw[a4];unfold XW;rw[N0];exact Nm (O1 _ _) (by have:=him.bs.book.1.1;omega)
 rw[<-a4,<-a1]at d1⊢;have f3:=h.Gn;have f5:=h.GD;have f1:=h.Gm;have c6:=h.lt;have HK:M6 (∀X,yA w X->Ni MK 187 #[Ny #[MG V.pl G.liv.length V.cl,MG V.pr G.req.length V.cr],yB G.now] X fun r w'=>∃p c q m s k,r=MN (Nv #[Ny #[MG p C.length c,MG q G.req.length m],MG s d.length k,yB 0]) /\
    M6 (yA X w'/\yA w w'/\Yw X.heap.size w' (MG p C.length c) (MG q G.req.length m) C G.req/\w.heap.size<=X.heap.size/\aaf w' (MG s d.length k) d/\(∀b,(MG s d.length k).ownBlock=MI b->X.heap.size<=b))/\(∀n,n<X.heap.size->n<w'.heap.size)/\(∀b o,b<X.heap.size->w'.cell? ⟨b,o,MH⟩=X.cell? ⟨b,o,MH⟩)/\(∀b o,b<X.heap.size->w'.frozen? ⟨b,o,MH⟩=X.frozen? ⟨b,o,MH⟩)):=fun X hX=>by
  refine(asE _ _ G.liv G.req G.now X (h.below hX).rest.book.now).mono ?_;rw[d1];rintro r w' ⟨p,c,q,m,s,k,rfl,a7,g4,y,f8⟩;exact⟨p,c,q,m,s,k,rfl,⟨y,hX.trans (y.mono hX.size),a7,hX.size,g4,f8⟩,fun n hn=>M8 hn y.size,fun b o Y=>y.cell (p:=⟨b,o,MH⟩) Y,fun b o Y=>OM (a:=⟨b,o,MH⟩) (y.block b Y)⟩
 have S:M6 (∀X,yA w X->X.cell? ⟨g,19,MH⟩=MI (MG V.pl G.liv.length V.cl)/\X.cell? ⟨g,20,MH⟩=MI (MG V.pr G.req.length V.cr)/\X.cell? ⟨g,16,MH⟩=MI (yB G.now)/\yA w X):=fun X hX =>
  ⟨(hX.cell c6).trans f3,(hX.cell c6).trans f5,(hX.cell c6).trans f1,hX⟩
 have H:M6 (_/\_/\_/\_):=⟨h,e3,e6,d6⟩;clear e3 e6 d6 h him d1 a4 a1;go_enter Tryz.func126,Tryz.ntmps126
 go_wp2_with fail
 apply adX
 ·intro a6
  go_region_held3 (fun X=>X.cell? ⟨g,19,MH⟩=MI (MG V.pl G.liv.length V.cl)/\X.cell? ⟨g,20,MH⟩=MI (MG V.pr G.req.length V.cr)/\X.cell? ⟨g,16,MH⟩=MI (yB G.now)/\yA w X) (first|exact S.out _ ((MY _ _).drew)|exact S.out _ (((MY _ _).drew).alloc (by simp) _)|exact S.out _ A.out.2.1|exact S.out _ (A.out.2.1.alloc A.out.2.1.size _)|exact S.out _ (((MY _ _).alloc (MV _) _).drew)|exact S.out _ (afD A.out.2.1 (MV _) 0 1 _ _)) (first|(go_at_call 187;refine(HK.out _ ?hbW).mono ?_;(case hbW=>first|with_reducible assumption|exact(MY _ _).drew|exact((MY _ _).drew).alloc (by simp) _|exact((Below.refl _ _).alloc (Nat.le_refl _) _).drew);rintro r w5 ⟨p,c,q,m,s,k,rfl,A,h9,g7,g3⟩))
  all_goals
   clear h9 g7 g3;rename_i hHe;clear hHe
   first
   | (obtain⟨Q,i,P,N,O⟩:=aqZ A.out.2.1 A.out.2.2.1 A.out.2.2.2.1 A.out.2.2.2.2.1 A.out.2.2.2.2.2
      rw[<-N]
      try rw[<-P]
      clear N P A;revert p c q m s k Q i;exact a6.out)
   | (obtain⟨Q,i,P,N,O⟩:=aq0 (W:=w) (by first|exact M1 _ _|(show(World.alloc _ _).heap[_]?=_;exact heap_alloc_new _ _)) A.out.1 A.out.2.1 A.out.2.2.1 A.out.2.2.2.2.1 A.out.2.2.2.2.2
      rw[<-N]
      try rw[<-P]
      clear N P A;revert p c q m s k Q i;exact a6.out)
 intro p c q m s k Q i O;clear f3 f5 f1 HK S;obtain⟨K,a9,P,a7,d9,d4⟩:=O.out;clear O;have J:=H.out.1.below K;have k0:i.cell? ⟨Q,0,MH⟩=MI (MG p C.length c):=by rw[MW i _ 0 _ _ (0,0) a9];rfl
 have k1:i.cell? ⟨Q,1,MH⟩=MI (MG q G.req.length m):=by rw[MW i _ 1 _ _ (0,0) a9];rfl
 have c3:Q<i.heap.size:=(ZAa.1 a9).1;have i9:=J.Gn;have h7:=J.GD;have h8:=J.fz 19;have g9:=J.fz 20;have c1:=J.lt;obtain⟨u4,a2⟩:=yE ((i.setCell ⟨g,19,MH⟩ (MG p C.length c)).setCell ⟨g,20,MH⟩ (MG q G.req.length m));have b0:=H.out.1.Iq K a7;rw[<-a2]at b0;have c9:WV V {V with pl:=p,cl:=c,pr:=q,cr:=m} g w u4:=by
  rw[a2];exact(((WV.F5 K).F4 19 _).F4 20 _).Gp fun _ h=>h
 have d0:∀b,(MG s d.length k).ownBlock=MI b->¬V.own g b:=fun b y=>H.out.1.rest.new (d4 b y)
 have d5:aaf u4 (MG s d.length k) d:=by
  refine aeJ (V:=V) (V':=V) (g:=g) d9 (w':=u4) ?_ d0;rw[a2];exact((WV.Gy V g i).F4 19 _).F4 20 _
 obtain⟨T,d2⟩:∃T:Vs,T={V with pl:=p,cl:=c,pr:=q,cr:=m}:=⟨_,rfl⟩;rw[<-d2]at b0 c9;have e7:T.pf=V.pf/\T.cf=V.cf/\T.bh=V.bh/\T.po=V.po:=by rw[d2];exact⟨rfl,rfl,rfl,rfl⟩
 have U:M6 (_/\_/\_/\_/\_):=⟨b0,c9,d5,d0,e7⟩;clear J b0 c9 K a9 a7 P d9 d5 d4 d0 d2 e7
 go_wp2_with fail
 rw[<-a2];clear a2 i9 h7 h8 g9 k0 k1 c3 c1
 go_loopw [29] (fun t wr=>∃(j:Nat) (V':Vs),t=yB (j:Int)/\j<=d.length/\M6 (OR base wr g V' ((d.take j).foldl YX {G with liv:=C})/\(V'.pf=V.pf/\V'.cf=V.cf/\V'.bh=V.bh/\V'.po=V.po)/\WV V V' g w wr/\aaf wr (MG s d.length k) d)) (fun t _=>d.length-(intOf t).toNat)
 case atStart=>exact⟨0,T,rfl,Nx _,U.out.1,U.out.2.2.2.2,U.out.2.1,U.out.2.2.1⟩
 case round =>
  obtain⟨j,V',rfl,hj,E⟩:=hrel;obtain⟨W,hW⟩:=yE wr;subst hW
  by_cases hlt:j<d.length
  ·have i3:(j:Int)<(d.length:Int):=by omega
   obtain⟨j6,j2,g1,f7,d8,e4⟩:=aaf.F6 E.out.2.2.2;injection g1 with eg1 _ eg3;unfold NE at d8;rw[<-eg3]at f7 d8;clear eg3;obtain⟨b1,o1,i1,g5,z0⟩:=e4 j hlt;obtain⟨f,a5,b8,c0⟩:=H.out.2.1 j hlt;rw[b8]at z0;obtain⟨z,a3⟩:∃z,z=(d.take j).foldl YX {G with liv:=C}:=⟨_,rfl⟩;have b9:(d.take (j+1)).foldl YX {G with liv:=C}=YX z (f:Int):=by
    rw[M9 hlt,Pu,<-a3,b8];rfl
   have d3:=ahR (d.take j) {G with liv:=C};have c2:Bs z:=by rw[a3];exact alm _ _ H.out.2.2.2 fun b y=>H.out.2.2.1 b (List.mem_of_mem_take y)
   have e0:z.liv=C:=by rw[a3];exact d3.2.2.2.1
   obtain⟨x,hx⟩:=yE (WS z.liv (f:Int));have f2:1<=x.2.2.1/\x.2.2.1<=8:=by
    have i5:WY z.liv (f:Int)≠0:=by rw[e0,<-b8];exact H.out.2.2.1 _ (Nk hlt)
    rw[hx];exact(c2.Iv i5).2
   rw[aq1,<-hx]at b9;have F:=E.out.1;rw[<-a3]at F c0;obtain⟨m0,x0,_,_,_,q0,q1,q2,q3,qf,c3⟩:=F.G5 a5;have g6:=F.GI;have i2:=F.G8;have f9:=F.lt;have i6:¬g=V'.bh:=fun e=>F.rest.hg e.symm
   have g2:¬V'.bh=g:=F.rest.hg;have j7:(f:Int)<12:=by omega
   have j4:(0:Int)<=(f:Int):=by omega
   have v0:=qf (f*4);have v1:=qf (f*4+1);have v2:=qf (f*4+2);have v3:=qf (f*4+3);obtain⟨D,Z⟩:=yE ((((W.setCell ⟨V'.bh,f*4,MH⟩ (MG MH 0 0)).setCell ⟨V'.bh,f*4+1,MH⟩ (M3 Nb)).setCell ⟨V'.bh,f*4+2,MH⟩ (yB 0)).setCell ⟨V'.bh,f*4+3,MH⟩ (yB 0));have I:=F.Ir (x:=XM) (p:=MH) (c:=0) a5 (fun X _ _=>ah2 X);have a8:=E.out.2.2.1.F0 (F.Hz (MY _ _) f (MG MH 0 0) (M3 Nb) (yB 0) (yB 0) (V'.ms.set f (MH,0)));have d7:aaf D (MG s d.length k) d:=by
    refine aeJ (V:=V') (g:=g) E.out.2.2.2 (V':={V' with ms:=V'.ms.set f (MH,0)}) (w':=D) (by rw[Z];exact F.Hz (MY _ _) f _ _ _ _ _) fun b y M=>U.out.2.2.2.1 b y ?_
    have hv:=E.out.2.1;unfold Vs.own at M⊢;rw[hv.1,hv.2.2.1,hv.2.2.2]at M;exact M
   have I:OR base D g {V' with ms:=V'.ms.set f (MH,0)} {z with hea:=z.hea.set f XM}:=by rw[Z];exact I
   rw[<-Z]at a8;obtain⟨u,c7⟩:∃u:Vs,u={V' with ms:=V'.ms.set f (MH,0)}:=⟨_,rfl⟩;rw[<-c7]at I a8;have a0:u.pf=V.pf/\u.cf=V.cf/\u.bh=V.bh/\u.po=V.po:=by rw[c7];exact E.out.2.1
   have i7:=I.GX;have g0:=I.lt;have j3:∀X:MO,(Instr.field 214 (abR x) 2).run MK X=.ok (yB x.2.2.1) X:=fun X=>by kernel_rfl
   have e5:M6 (∀X,yA D X->Ni MK 122 #[gP g,yB (f:Int)] X fun r w'=>r=MN (abR x)/\w'.cell? ⟨g,21,MH⟩=MI (MG u.ps (WW z.wts).length u.cs)/\M6 (yA D w')):=fun X hX=>by
    refine(afR (I.below hX) (f:Int)).mono ?_;rintro r w' ⟨rfl,y⟩;have e9:=hX.trans (y.mono hX.size);exact⟨by rw[hx],(e9.cell g0).trans i7,e9⟩
   have f6:M6 (∀X,yA D X->Ni MK 188 #[Ny #[MG u.ps (WW z.wts).length u.cs],yB (f:Int),yB x.2.2.1] X fun r w'=>∃p c n,r=MN (Nv #[Ny #[MG p n c],yB 0])/\w'.cell? ⟨g,21,MH⟩=MI (MG u.ps (WW z.wts).length u.cs)/\w'.frozen? ⟨g,21,MH⟩=Nb/\g<w'.heap.size /\
     ∃i,i=w'.setCell ⟨g,21,MH⟩ (MG p n c)/\M6 (OR base i g {u with ps:=p,cs:=c} {z with hea:=z.hea.set f XM,wts:=z.wts.set f x.2.2.1}/\WV V {u with ps:=p,cs:=c} g w i/\aaf i (MG s d.length k) d)):=fun X hX=>by
    refine(atn _ z.wts f x.2.2.1 X c2.wts (I.below hX).rest.ring.now a5 f2 (Int.not_lt.2 c0)).mono ?_;rintro r w' ⟨p,c,rfl,M,Y⟩;have K:=hX.trans (Y.mono hX.size);have J:=I.below K;have g8:=I.IJ (a:=z.wts.set f x.2.2.1) K (M.mono hX.size);refine⟨p,c,_,rfl,J.GX,J.fz 21,J.lt,_,rfl,g8,((a8.below K).F4 21 _).Gp fun _ h=>h,?_⟩;refine aeJ (V:=u) (g:=g) d7 (V':=u) (((WV.Gy u g D).below K).F4 21 _) fun b y M=>U.out.2.2.2.1 b y ?_
    unfold Vs.own at M⊢;rw[a0.1,a0.2.2.1,a0.2.2.2]at M;exact M
   have H5:M6 (_/\_):=⟨b9,a0⟩;clear I a8 d7 b9 a0 c7 F c2 e0 f2 c0 a3 hx b8 d3 e4 qf a5;subst i1;subst eg1;have j0:M6 _:=E.out.2.2.2
   go_wp2_with fail
   rw[<-Z];clear Z z0 q0 q1 q2 q3 v0 v1 v2 v3 g6 i2 i6 g2 c3 g5 f9;apply adX
   ·intro a6
    go_region_with (first|(go_at_call 122;refine(e5.out _ (by first|exact(MY _ _).drew|exact Below.refl _ _)).mono ?_;rintro r w4 ⟨rfl,j5,i8⟩)|(go_at_call 188;refine(f6.out _ i8.out).mono ?_;rintro r w3 ⟨p,c,n,rfl,i4,i0,c1,i,N,O⟩))
    all_goals
     rw[<-N];clear N i4 i0 c1;revert p c n i;exact a6.out
   intro p c n i O;have HQ:M6 _:=O.out;clear O e5 f6;go_wp2
   go_roundw
   case rel=>exact⟨j+1,{u with ps:=p,cs:=c},by go_num,hlt,by rw[H5.out.1];exact HQ.out.1,H5.out.2,HQ.out.2.1,HQ.out.2.2⟩
   case measure=>simp[intOf];omega
  ·obtain rfl:j=d.length:=by omega
   have i3:¬(d.length:Int)<(d.length:Int):=by omega
   go_wp2
   go_end0
   have f4:=E.out.1;rw[NT]at f4;exact⟨rfl,V',f4,⟨E.out.2.1.1,E.out.2.1.2.1,E.out.2.1.2.2.1⟩,E.out.2.2.1⟩
end
section
variable {base:Nat}{w:MO}{g:Nat}{V:Vs}{G:Gt}
def aaG(G:Gt)(k:Nat):List He:=(G.hea.take k).map (abO G)++G.hea.drop k
theorem apf:aaG G 0=G.hea:=by simp[aaG]
theorem apc:aaG G G.hea.length=G.hea.map (abO G):=by simp[aaG]
theorem apd(hk:k<G.hea.length):(aaG G k)[k]?=MI G.hea[k]:=by
 unfold aaG;rw[Tw (by simp;omega)];simp[hk,P1 (PJ hk)]
theorem ape(hk:k<G.hea.length):aaG G (k+1)=(aaG G k).set k (abO G G.hea[k]):=by
 unfold aaG;have a:=OK hk;have b:k-((G.hea.take k).map (abO G)).length=0:=by simp;omega
 rw[M9 hk,OI,Pw _ _ (by simp;omega),b,a,ML];simp
theorem aow(h:OR base w g V G)(hbs:Bs G) :
  Ni MK 127 #[gP g] w (aaa base w g V (aaC G)):=by
 have b0:=hbs.hel;have d5:=h.GI;have e3:=h.lt;have d8:=h.G8;have P:∀x∈G.hea,x.marks.length<=16:=fun x hx=>by have:=(hbs.hea x hx).1;have:=hbs.Gx.1.2;omega
 have H:M6 (_/\_/\_/\_):=⟨h,hbs,b0,P⟩;clear h hbs b0 P;go_enter Ug,T6;go_wp2
 go_loopw [10] (fun t wr=>∃(j:Nat) (d:Vs),t=yB (j:Int)/\j<=12/\M6 (OR base wr g d {G with hea:=aaG G j}/\(d.pf=V.pf/\d.cf=V.cf/\d.bh=V.bh/\d.ch=V.ch)/\WV V d g w wr)) (fun t _=>12-(intOf t).toNat)
 case atStart=>exact⟨0,V,rfl,by omega,by rw[apf];exact H.out.1,⟨rfl,rfl,rfl,rfl⟩,WV.Gy _ _ _⟩
 case round =>
  obtain⟨j,d,rfl,hj,A⟩:=hrel;obtain⟨W,hW⟩:=yE wr;subst hW
  by_cases hlt:j<12
  ·have d9:(j:Int)<12:=by omega
   have e0:(0:Int)<=(j:Int):=by omega
   have u:=A.out.1;obtain⟨m,x,em,ex,_,q0,q1,q2,q3,qf,C⟩:=u.G5 hlt;have a3:x=G.hea[j]'(by rw[H.out.2.2.1];exact hlt):=by
    have:=apd (G:=G) (k:=j) (by rw[H.out.2.2.1];exact hlt);exact NC (ex.symm.trans this)
   have a2:aaG G (j+1)=(aaG G j).set j (abO G x):=by rw[a3];exact ape _
   have d4:x.marks.length<=16:=H.out.2.2.2 x (by rw[a3];exact Nk _);have D:=A.out.2.1;have a5:=u.rest.marks j m x em ex;obtain⟨y,hy⟩:=yE (abO G x);have a1:y=afO (Ze G.cfg.wn G.cfg.wf G.cfg.wh x.marks x.out x.till x.times G.now).1:=hy;rw[<-hy]at a2;obtain⟨f,S⟩:=yE (W.alloc (MP #[MG m.1 x.marks.length m.2,M3 x.out,yB x.till,yB x.times] 224));have F:yA W f:=by rw[S];exact WQ W
   have J:f.heap[W.heap.size]?=MI (MP #[MG m.1 x.marks.length m.2,M3 x.out,yB x.till,yB x.times] 224):=by rw[S];exact M1 _ _
   have E:=u.below F;have d3:=A.out.2.2.below F;have a7:¬g=d.bh:=fun e=>u.rest.hg e.symm
   have c3:¬d.bh=g:=u.rest.hg;rw[D.2.2.1]at q0 q1 q2 q3 C a7 c3;have c2:=u.lt;have y0:f.cell? ⟨W.heap.size,0,MH⟩=MI (MG m.1 x.marks.length m.2):=by rw[MW f _ 0 _ _ (0,0) J];rfl
   have y1:f.cell? ⟨W.heap.size,1,MH⟩=MI (M3 x.out):=by rw[MW f _ 1 _ _ (0,0) J];rfl
   have y2:f.cell? ⟨W.heap.size,2,MH⟩=MI (yB x.till):=by rw[MW f _ 2 _ _ (0,0) J];rfl
   have y3:f.cell? ⟨W.heap.size,3,MH⟩=MI (yB x.times):=by rw[MW f _ 3 _ _ (0,0) J];rfl
   have T:W.heap.size<f.heap.size:=(ZAa.1 J).1;have a4:=E.GS;have c0:=E.GU;have a8:=E.GO;have a6:=E.Gm;have a0:=E.GI;rw[D.2.2.1,D.2.2.2]at a0;have K:=E.lt;have HB:M6 (∀X,yA f X->Ni MK 146 #[Ny #[yB G.cfg.wn,yB G.cfg.wf,yB G.cfg.wh],abQ m.1 m.2 x,yB G.now] X fun r w'=>∃p c U Y,r=MN (Nv #[abQ p c y,M3 U,yB Y]) /\
     (w'.cell? ⟨V.bh,j*4,MH⟩=MI (MG m.1 x.marks.length m.2)/\w'.cell? ⟨V.bh,j*4+1,MH⟩=MI (M3 x.out)/\w'.cell? ⟨V.bh,j*4+2,MH⟩=MI (yB x.till)/\w'.cell? ⟨V.bh,j*4+3,MH⟩=MI (yB x.times)/\w'.frozen? ⟨V.bh,j*4,MH⟩=Nb/\w'.frozen? ⟨V.bh,j*4+1,MH⟩=Nb/\w'.frozen? ⟨V.bh,j*4+2,MH⟩=Nb/\w'.frozen? ⟨V.bh,j*4+3,MH⟩=Nb/\V.bh<w'.heap.size)/\(w'.cell? ⟨g,22,MH⟩=MI (MG (MI ⟨V.bh,0,MH⟩) 12 V.ch)/\w'.cell? ⟨g,13,MH⟩=MI (yB G.cfg.wn)/\w'.cell? ⟨g,14,MH⟩=MI (yB G.cfg.wf)/\w'.cell? ⟨g,15,MH⟩=MI (yB G.cfg.wh)/\w'.cell? ⟨g,16,MH⟩=MI (yB G.now)/\w'.cell? ⟨W.heap.size,0,MH⟩=MI (MG m.1 x.marks.length m.2)/\w'.cell? ⟨W.heap.size,1,MH⟩=MI (M3 x.out)/\w'.cell? ⟨W.heap.size,2,MH⟩=MI (yB x.till)/\w'.cell? ⟨W.heap.size,3,MH⟩=MI (yB x.times))/\(((((w'.setCell ⟨V.bh,j*4,MH⟩ (MG p y.marks.length c)).setCell ⟨V.bh,j*4+1,MH⟩ (M3 y.out)).setCell ⟨V.bh,j*4+2,MH⟩ (yB y.till)).setCell ⟨V.bh,j*4+3,MH⟩ (yB y.times)).cell? ⟨g,22,MH⟩=MI (MG (MI ⟨V.bh,0,MH⟩) 12 V.ch)/\((((w'.setCell ⟨V.bh,j*4,MH⟩ (MG p y.marks.length c)).setCell ⟨V.bh,j*4+1,MH⟩ (M3 y.out)).setCell ⟨V.bh,j*4+2,MH⟩ (yB y.till)).setCell ⟨V.bh,j*4+3,MH⟩ (yB y.times)).cell? ⟨g,13,MH⟩=MI (yB G.cfg.wn)/\((((w'.setCell ⟨V.bh,j*4,MH⟩ (MG p y.marks.length c)).setCell ⟨V.bh,j*4+1,MH⟩ (M3 y.out)).setCell ⟨V.bh,j*4+2,MH⟩ (yB y.till)).setCell ⟨V.bh,j*4+3,MH⟩ (yB y.times)).cell? ⟨g,14,MH⟩=MI (yB G.cfg.wf)/\((((w'.setCell ⟨V.bh,j*4,MH⟩ (MG p y.marks.length c)).setCell ⟨V.bh,j*4+1,MH⟩ (M3 y.out)).setCell ⟨V.bh,j*4+2,MH⟩ (yB y.till)).setCell ⟨V.bh,j*4+3,MH⟩ (yB y.times)).cell? ⟨g,15,MH⟩=MI (yB G.cfg.wh)/\((((w'.setCell ⟨V.bh,j*4,MH⟩ (MG p y.marks.length c)).setCell ⟨V.bh,j*4+1,MH⟩ (M3 y.out)).setCell ⟨V.bh,j*4+2,MH⟩ (yB y.till)).setCell ⟨V.bh,j*4+3,MH⟩ (yB y.times)).cell? ⟨g,16,MH⟩=MI (yB G.now)/\((((w'.setCell ⟨V.bh,j*4,MH⟩ (MG p y.marks.length c)).setCell ⟨V.bh,j*4+1,MH⟩ (M3 y.out)).setCell ⟨V.bh,j*4+2,MH⟩ (yB y.till)).setCell ⟨V.bh,j*4+3,MH⟩ (yB y.times)).cell? ⟨W.heap.size,0,MH⟩=MI (MG m.1 x.marks.length m.2)/\((((w'.setCell ⟨V.bh,j*4,MH⟩ (MG p y.marks.length c)).setCell ⟨V.bh,j*4+1,MH⟩ (M3 y.out)).setCell ⟨V.bh,j*4+2,MH⟩ (yB y.till)).setCell ⟨V.bh,j*4+3,MH⟩ (yB y.times)).cell? ⟨W.heap.size,1,MH⟩=MI (M3 x.out)/\((((w'.setCell ⟨V.bh,j*4,MH⟩ (MG p y.marks.length c)).setCell ⟨V.bh,j*4+1,MH⟩ (M3 y.out)).setCell ⟨V.bh,j*4+2,MH⟩ (yB y.till)).setCell ⟨V.bh,j*4+3,MH⟩ (yB y.times)).cell? ⟨W.heap.size,2,MH⟩=MI (yB x.till)/\((((w'.setCell ⟨V.bh,j*4,MH⟩ (MG p y.marks.length c)).setCell ⟨V.bh,j*4+1,MH⟩ (M3 y.out)).setCell ⟨V.bh,j*4+2,MH⟩ (yB y.till)).setCell ⟨V.bh,j*4+3,MH⟩ (yB y.times)).cell? ⟨W.heap.size,3,MH⟩=MI (yB x.times)) /\
     ∃N,N=((((w'.setCell ⟨V.bh,j*4,MH⟩ (MG p y.marks.length c)).setCell ⟨V.bh,j*4+1,MH⟩ (M3 y.out)).setCell ⟨V.bh,j*4+2,MH⟩ (yB y.till)).setCell ⟨V.bh,j*4+3,MH⟩ (yB y.times))/\M6 (OR base N g {d with ms:=d.ms.set j (p,c)} {G with hea:=(aaG G j).set j y}/\WV V {d with ms:=d.ms.set j (p,c)} g w N)):=by
    intro X hX;refine(alB G.cfg.wn G.cfg.wf G.cfg.wh (MG m.1 x.marks.length m.2) x.marks x.out x.till x.times G.now X (a5.below (F.trans (hX.mono F.size))).now).mono ?_;rintro r w' ⟨p,c,rfl,c6,c1,d2⟩;have q:=hX.trans (d2.mono hX.size);have I:=F.trans (q.mono F.size);have d7:=E.below q;have P:XG (d.off base g) w' fun Z=>Yo Z (MG p y.marks.length c) y.marks:=by
     rw[a1];exact abt c6 (fun z e=>u.rest.GF (Nm (Nm F.size hX.size) (c1 z (by rw[XV];exact e))))
    have d6:=d7.Ir hlt P;have c9:=A.out.2.2.F0 (u.Hz I j (MG p y.marks.length c) (M3 y.out) (yB y.till) (yB y.times) (d.ms.set j (p,c)));have Q:∀o,w'.frozen? ⟨V.bh,o,MH⟩=false:=fun o=>(OM (a:=⟨V.bh,o,MH⟩) (I.block V.bh C)).trans (by rw[<-D.2.2.1];exact qf o)
    have i:w'.cell? ⟨g,22,MH⟩=MI (MG (MI ⟨V.bh,0,MH⟩) 12 V.ch)/\w'.cell? ⟨g,13,MH⟩=MI (yB G.cfg.wn)/\w'.cell? ⟨g,14,MH⟩=MI (yB G.cfg.wf)/\w'.cell? ⟨g,15,MH⟩=MI (yB G.cfg.wh)/\w'.cell? ⟨g,16,MH⟩=MI (yB G.now)/\w'.cell? ⟨W.heap.size,0,MH⟩=MI (MG m.1 x.marks.length m.2)/\w'.cell? ⟨W.heap.size,1,MH⟩=MI (M3 x.out)/\w'.cell? ⟨W.heap.size,2,MH⟩=MI (yB x.till)/\w'.cell? ⟨W.heap.size,3,MH⟩=MI (yB x.times):=⟨(q.cell K).trans a0,(q.cell K).trans a4,(q.cell K).trans c0,(q.cell K).trans a8,(q.cell K).trans a6,(q.cell T).trans y0,(q.cell T).trans y1,(q.cell T).trans y2,(q.cell T).trans y3⟩;have M:g≠V.bh:=a7;have O:W.heap.size≠V.bh:=by omega
    have s:∀(b o:Nat),b≠V.bh->((((w'.setCell ⟨V.bh,j*4,MH⟩ (MG p y.marks.length c)).setCell ⟨V.bh,j*4+1,MH⟩ (M3 y.out)).setCell ⟨V.bh,j*4+2,MH⟩ (yB y.till)).setCell ⟨V.bh,j*4+3,MH⟩ (yB y.times)).cell? ⟨b,o,MH⟩=w'.cell? ⟨b,o,MH⟩:=fun b o hb=>NG (by rw[MU _ _ _ _ hb,MU _ _ _ _ hb,MU _ _ _ _ hb,MU _ _ _ _ hb])
    refine⟨p,c,(Ze G.cfg.wn G.cfg.wf G.cfg.wh x.marks x.out x.till x.times G.now).2.1,(Ze G.cfg.wn G.cfg.wf G.cfg.wh x.marks x.out x.till x.times G.now).2.2,by rw[a1];rfl,⟨(I.cell C).trans q0,(I.cell C).trans q1,(I.cell C).trans q2,(I.cell C).trans q3,Q _,Q _,Q _,Q _,M8 C I.size⟩,i,⟨(s _ _ M).trans i.1,(s _ _ M).trans i.2.1,(s _ _ M).trans i.2.2.1,(s _ _ M).trans i.2.2.2.1,(s _ _ M).trans i.2.2.2.2.1,(s _ _ O).trans i.2.2.2.2.2.1,(s _ _ O).trans i.2.2.2.2.2.2.1,(s _ _ O).trans i.2.2.2.2.2.2.2.1,(s _ _ O).trans i.2.2.2.2.2.2.2.2⟩,_,rfl,?_,?_⟩
    ·rw[<-D.2.2.1];exact d6
    ·rw[<-D.2.2.1];exact c9
   have H5:M6 (_/\_):=⟨a2,D⟩;clear E d3 u J F em ex a5 a2 D hy a1 a3 qf d4
   go_wp2_with fail
   rw[<-S];clear S q0 q1 q2 q3 C c2 d5;apply aan
   ·intro d0
    go_region_held3 (fun X=>X.cell? ⟨g,22,MH⟩=MI (MG (MI ⟨V.bh,0,MH⟩) 12 V.ch)/\X.cell? ⟨g,13,MH⟩=MI (yB G.cfg.wn)/\X.cell? ⟨g,14,MH⟩=MI (yB G.cfg.wf)/\X.cell? ⟨g,15,MH⟩=MI (yB G.cfg.wh)/\X.cell? ⟨g,16,MH⟩=MI (yB G.now)/\X.cell? ⟨W.heap.size,0,MH⟩=MI (MG m.1 x.marks.length m.2)/\X.cell? ⟨W.heap.size,1,MH⟩=MI (M3 x.out)/\X.cell? ⟨W.heap.size,2,MH⟩=MI (yB x.till)/\X.cell? ⟨W.heap.size,3,MH⟩=MI (yB x.times)) (first|exact⟨a0,a4,c0,a8,a6,y0,y1,y2,y3⟩|exact i|exact b9) (first|(go_at_call 146;refine(HB.out _ (by first|exact(MY _ _).drew|exact Below.refl _ _)).mono ?_;rintro r w3 ⟨p,c,U,Y,rfl,⟨u0,u1,u2,N,v0,v1,v2,v3,d1⟩,i,b9,u4,b8,hQ⟩))
    all_goals
     rename_i hHe;clear hHe;rw[<-b8];clear b9;clear b8 u0 u1 u2 N v0 v1 v2 v3 d1 i;revert p c U Y u4;exact d0.out
   intro p c U Y u4 hQ;have HQ:M6 _:=hQ.out;clear hQ HB;go_wp2
   go_roundw
   case rel=>exact⟨j+1,{d with ms:=d.ms.set j (p,c)},by go_num,hlt,by rw[H5.out.1];exact HQ.out.1,H5.out.2,HQ.out.2⟩
   case measure=>simp[intOf];omega
  ·obtain rfl:j=12:=by omega
   go_wp2
   go_end0
   have a9:=A.out.1;have c7:aaG G 12=G.hea.map (abO G):=by rw[<-H.out.2.2.1];exact apc
   rw[c7]at a9;exact⟨rfl,d,a9,⟨A.out.2.1.1,A.out.2.1.2.1,A.out.2.1.2.2.1⟩,A.out.2.2⟩
end
section
variable {base:Nat}{w:MO}{g:Nat}{V:Vs}{G:Gt}
abbrev aq6(n:Int)(v:M7):Obj:=MP #[yB n,v] 54
theorem api{base:Nat}{L:List Tm}{n:Nat}(h:w.ownsRow base 3 1 v n (abM L))(hn:n=L.length):aaf w v (L.map (·.2)):=by
 have e:abM L=WT adv (L.map (·.2)):=by
  clear h hn
  induction L with
  |nil=>rfl
  |cons t L ih=>simp only[abM,OA,WT]at ih⊢;rw[ih];rfl
 have a:=Yr h;rw[e]at a;show XB w v (L.map (·.2)).length (WT adv (L.map (·.2)));rw[N0,<-hn];exact a
theorem ao6(h:OR base w g V G)(him:Im G)(hw:G.wnow+1=G.now)(hl:G.out.length<=700000) :
  Ni MK 128 #[gP g] w (aam base w g V (Zs G)):=by
 obtain⟨ls,hm,ht,hA⟩:=h.rest.whl;have Z:=him.bs;have g1:=h.GJ;have g2:=h.GH;have f8:=h.lt;have d5:G.wnow<1099511627776:=by have:=Z.now;omega
 have HC:M6 _:=anG (MG V.pw 25 V.cw) G.wnow ls w h.rest.blk hA.now hm d5;obtain⟨a,U⟩:=yE (aaD G.fls (G.wnow+1));obtain⟨d,C⟩:∃d:Gt,d={G with wnow:=G.wnow+1,tms:=fun t=>G.tms t/\t.1≠G.wnow+1}:=⟨_,rfl⟩;have d6:Zs G=a.foldl X5 d:=by unfold Zs;rw[<-U,<-C]
 rw[d6];have c2:Im d:=by rw[C];exact him.IN (by omega)
 have a7:=Z.IF (G.wnow+1);rw[<-U]at a7;have c7:∀k,k<=a.length->Im ((a.take k).foldl X5 d)/\Xc d ((a.take k).foldl X5 d)/\(∀s∈a.drop k,∃f∈((a.take k).foldl X5 d).fls,f.slot=s)/\((a.take k).foldl X5 d).out.length<=d.out.length+2*k:=fun k hk =>
  akS a d k c2 a7.1 (fun s I=>by obtain⟨f,hf,e,_⟩:=a7.2 s I;exact⟨f,by rw[C];exact hf,e⟩) hk
 have e0:d.wnow=d.now:=by rw[C];exact hw
 have e4:d.out.length<=700000:=by rw[C];exact hl
 have g9:a.length<=40:=by
  rw[U];unfold aaD;rw[N0];exact Nm (O1 _ _) Z.Gb
 have H:M6 (_/\_/\_/\_/\_/\_/\_):=⟨h,Z,ht,c7,e0,e4,U⟩;have g4:M6 _:=C;clear h Z him hm ht hA c7 hw hl d6 c2 a7 e0 e4 U d5 C;go_enter ayl,ayd
 go_wp2_with fail
 refine Nd HC.out ?_;rintro r M ⟨p,c,xp,xc,ms,L,rfl,c1,a3,b8,O⟩;have hL:L.map (·.2)=a:=by rw[H.out.2.2.2.2.2.2];exact apL H.out.2.1 H.out.2.2.1 a3
 have a0:=api b8 rfl;rw[hL]at a0;have d7:L.length=a.length:=by rw[<-hL,N0]
 have a1:∀b,(MG xp L.length xc).ownBlock=MI b->w.heap.size<=b:=fun b hb=>(b8.lt b hb).1
 rw[d7]at a0 a1⊢;have F:=H.out.1.below O;have g3:=F.GJ;have f6:=F.GH;have f9:=F.fz 24;have g5:=F.fz 25;have e9:=F.lt;have f7:¬M.heap.size=g:=fun e=>by omega
 have f2:¬g=M.heap.size:=fun e=>by omega
 have q:=H.out.1.Ih (T:=fun t=>G.tms t/\t.1≠G.wnow+1) O c1 a3.may (apM H.out.2.2.1 a3);have z:WV V {V with pw:=p,cw:=c} g w ((M.setCell ⟨g,24,MH⟩ (yB (G.wnow+1))).setCell ⟨g,25,MH⟩ (MG p 25 c)):=(((WV.F5 (V:=V) (g:=g) O).F4 24 _).F4 25 _).Gp fun _ h=>h
 have c9:aaf ((M.setCell ⟨g,24,MH⟩ (yB (G.wnow+1))).setCell ⟨g,25,MH⟩ (MG p 25 c)) (MG xp a.length xc) a :=
  aeJ (V:=V) (V':=V) (g:=g) a0 (((WV.Gy V g M).F4 24 _).F4 25 _) fun b hb=>H.out.1.rest.new (a1 b hb)
 obtain⟨y,Q⟩:∃y:Vs,y={V with pw:=p,cw:=c}:=⟨_,rfl⟩;obtain⟨J,S⟩:=yE (((M.setCell ⟨g,24,MH⟩ (yB (G.wnow+1))).setCell ⟨g,25,MH⟩ (MG p 25 c)).alloc (aq6 (G.wnow+1) (MG p 25 c)));have u:OR base J g y d:=by rw[S,Q,g4.out];exact q.GW _
 have o:WV V y g w J:=by rw[S,Q];exact z.below (WQ _)
 have c3:aaf J (MG xp a.length xc) a:=by rw[S];exact aat.below c9 (WQ _)
 have b9:∀b,(MG xp a.length xc).ownBlock=MI b->¬y.own g b:=fun b hb ho=>by
  rcases o.ext b ho with e|e
  ·exact H.out.1.rest.new (a1 b hb) e
  ·rw[Q]at ho
   exact H.out.1.rest.new e ho
 have H3:M6 (_/\_/\_/\_/\_):=⟨u,o,c3,b9,(by rw[Q]:y.bh=V.bh)⟩;clear F q u z o a0 c9 c3 a1 b9 Q O c1 a3 b8 hL d7
 go_wp2_with fail
 rw[<-S];clear S g3 f6 f9 g5 e9 f7 f2 g1 g2 f8
 go_loopw [25] (fun t wr=>∃(k:Nat) (V':Vs),t=yB (k:Int)/\k<=a.length/\M6 (OR base wr g V' ((a.take k).foldl X5 d)/\V'.bh=V.bh/\WV y V' g J wr)) (fun t _=>a.length-(intOf t).toNat)
 case atStart=>exact⟨0,y,rfl,Nx _,H3.out.1,H3.out.2.2.2.2,WV.Gy _ _ _⟩
 case round =>
  obtain⟨k,V',rfl,hk,x⟩:=hrel;obtain⟨W,hW⟩:=yE wr;subst hW
  by_cases hlt:k<a.length
  ·have g0:(k:Int)<(a.length:Int):=by omega
   obtain⟨g8,g7,f1,e7,c0,d3⟩:=aaf.F6 (aeJ H3.out.2.2.1 x.out.2.2 H3.out.2.2.2.1);injection f1 with eg1 _ eg3;unfold NE at c0;rw[<-eg3]at e7 c0;clear eg3;obtain⟨b1,o1,f4,O,z0⟩:=d3 k hlt;obtain⟨s,I⟩:=yE (a[k]);rw[<-I]at z0;obtain⟨m,a8⟩:=yE ((a.take k).foldl X5 d);obtain⟨N,a2,b0,e6⟩:=H.out.2.2.2.1 k hk;rw[<-a8]at N a2 b0 e6;have Y:=x.out.1;rw[<-a8]at Y;have a9:(a.take (k+1)).foldl X5 d=X5 m s:=by
    rw[M9 hlt,Pu,<-a8,<-I];rfl
   obtain⟨f0,d4,e5⟩:=b0 s (by rw[I,OK hlt];exact NM ..);obtain⟨i,a6⟩:=yE (aaF m.fls s);have d8:=N.bs.GG d4;rw[e5,<-a6]at d8;obtain⟨K,f3⟩:=d8;obtain⟨f,a5⟩:=yE (Xs m i);have d1:f∈m.fls:=by rw[a5,XA K];exact Nk K
   obtain⟨bf,hp,_,f5⟩:=Y.bf (Pb (Nx _) K);have d0:X5 m s=if f.srv then Yg m f 6 1 else YP m i 5:=by
    unfold X5;simp only[];rw[<-a6,<-a5]
   rw[d0]at a9;have d9:m.wnow=m.now:=by rw[a2.wnow,a2.now];exact H.out.2.2.2.2.1
   have d2:m.out.length<=800000:=by have:=H.out.2.2.2.2.2.1;omega
   have j:M6 (_/\_/\_/\_/\_/\_/\_/\_):=⟨ahm Y K a6.symm hp N.bs.Gb,Y,N.bs,d9,d2,K,hp,d1⟩;have HN:M6 (_/\_):=⟨a9,a5⟩;clear Y N a2 b0 e6 d9 d2 K hp d1 a9 a5 a6 f3 d0 e5 d4 f5 a8 I d3;subst f4;subst eg1;have g6:=j.out.2.1.lt
   go_wp2_with fail
   refine Nd j.out.1 ?_;rintro r w2 ⟨rfl,a4⟩;have q:=j.out.2.1.below a4;have hx:=q.Gw j.out.2.2.2.2.2.2.1 j.out.2.2.2.2.2.1;rw[<-HN.out.2]at hx;obtain⟨x0,x1,x2,x3,x4,x5,x6⟩:=hx;have c6:bf<w2.heap.size:=MX w2 ⟨bf,i*7,MH⟩ x0;have z:=x.out.2.2.below a4;cases hsv:f.srv
   ·rw[hsv]at x4
    have A:=HN.out.1;rw[hsv,Nf (by decide)]at A;have E:M6 (_/\_/\_):=⟨akl q j.out.2.2.1 j.out.2.2.2.1 j.out.2.2.2.2.1 j.out.2.2.2.2.2.1 j.out.2.2.2.2.2.2.1 5,z,A⟩;clear q z a4 A hsv
    go_wp2_with fail
    refine Nd E.out.1 ?_;rintro r w3 ⟨rfl,V3,u,P,o⟩;have D:M6 (_/\_/\_):=⟨u,P.trans x.out.2.1,E.out.2.1.F0 o⟩;clear u P o x0 x1 x2 x3 x4 x5 x6 c6;go_wp2
    go_roundw
    case rel=>exact⟨k+1,V3,by go_num,hlt,by rw[E.out.2.2];exact D.out.1,D.out.2.1,D.out.2.2⟩
    case measure=>simp[intOf];omega
   ·rw[hsv]at x4
    have A:=HN.out.1;rw[hsv,Nh rfl]at A;have HE:=adY q j.out.2.2.1 j.out.2.2.2.2.2.2.2 (by have:=j.out.2.2.2.2.1;omega) 6 1;rw[show ZS f=Ny #[yB f.slot,yB f.gen,yB f.key,yB f.be,M3 Nw,yB f.ret,yB f.due]by unfold ZS;rw[hsv]]at HE;have E:M6 (_/\_/\_):=⟨HE,z,A⟩;clear q z a4 A hsv HE
    go_wp2_with fail
    refine Nd E.out.1 ?_;rintro r w3 ⟨rfl,V3,u,P,o⟩;have D:M6 (_/\_/\_):=⟨u,P.trans x.out.2.1,E.out.2.1.F0 o⟩;clear u P o x0 x1 x2 x3 x4 x5 x6 c6;go_wp2
    go_roundw
    case rel=>exact⟨k+1,V3,by go_num,hlt,by rw[E.out.2.2];exact D.out.1,D.out.2.1,D.out.2.2⟩
    case measure=>simp[intOf];omega
  ·obtain rfl:k=a.length:=by omega
   have g0:¬(a.length:Int)<(a.length:Int):=by omega
   go_wp2
   go_end0
   have e3:=x.out.1;rw[NT]at e3;exact⟨rfl,V',e3,x.out.2.1,H3.out.2.1.F0 x.out.2.2⟩
end
section
variable {base:Nat}{w:MO}{g:Nat}{V:Vs}{G:Gt}
theorem akc:∀(l:List Tm) (G:Gt),(l.foldl Ye G).out.length<=G.out.length+2*l.length
 | [],_=>MV _
 |t::l,G=>by
  have a:=akc l (Ye G t);have b:=aj9 (G:=G) t;rw[O4,Ox];omega
theorem aky(b:Int)(t:List awY):(YL b t).length<=t.length:=by
 unfold YL YM;rw[N0];exact Nm (O1 _ _) (by simp)
theorem Bs.IK(h:Bs G):G.tab.length<=40:=by have:=h.tabLen;have:=h.cfg.1.2;omega
theorem aoV(h:Bs G)(l:awV):(Zd G l).out.length<=G.out.length+80:=by
 unfold Zd
 split
 ·omega
 ·have a:=akc (YL l.1 G.tab) G
  have b:=aky l.1 G.tab;have c:=h.IK;omega
theorem akI:∀(L:List awV) (G:Gt) (k:Nat),Im G->k<=L.length->Im ((L.take k).foldl Zd G)/\Xc G ((L.take k).foldl Zd G)/\((L.take k).foldl Zd G).out.length<=G.out.length+80*k
 |L,G,0,h,_=>⟨h,Xc.Gy G,MV _⟩
 | [],G,k+1,_,hk=>by simp at hk
 |l::L,G,k+1,h,hk=>by
  obtain⟨c,d,_⟩:=ahd h l;obtain⟨a,b,f⟩:=akI L (Zd G l) k c (by simpa using hk);have e:=aoV h.bs l;rw[PT,O4];exact⟨a,d.step.F0 b,by omega⟩
theorem ali:∀l:List Tm,WP l=WP l
 | []=>rfl
 |t::l=>by first|rfl|rw[WP,WP,ali l]
theorem aqt{l:List Tm}{g:Nat}{V V':Vs}(h:Xz w v l)(hF:WV V V' g w w')(hn:∀b,v.ownBlock=MI b->¬V.own g b):Xz w' v l:=by
 obtain⟨a,j,f,m,o,c⟩:=h;refine⟨a,j,f,m,o,?_⟩;rcases c with c|⟨b,off,d,e,p⟩
 ·exact Nt c
 ·refine NF ⟨b,off,d,M8 e hF.size,fun i hi=>?_⟩
  rw[<-p i hi];have:=hF.block b e (hn b (by rw[f,d];rfl));simp only[Nl,this]
theorem aoW(h:OR base w g V G)(him:Im G)(hw:G.wnow=G.now)(hl:G.out.length<=700000) :
  Ni MK 129 #[gP g] w (aam base w g V (acG G)):=by
 have d7:=fun k hk=>akI G.liv G k him hk
 have j2:=him.bs.book.1.1;have i8:=h.Gn;have j5:=h.lt;have H:M6 (_/\_/\_/\_):=⟨h,d7,hw,hl⟩;obtain⟨al,j6,i1,i9,g7,_⟩:=adt.F6 h.rest.book.now.1;injection i1 with el1 _ el3;unfold NE at g7;rw[el1,el3]at i8;have HE:M6 _:=el1;clear el1 el3;have HA:M6 (∀X m,WV V m g w X->adt X (MG V.pl G.liv.length V.cl) G.liv):=fun X m hF=>(h.rest.book X hF.size fun b hlt hn=>hF.block b hlt fun e=>hn (Nt e)).1
 clear h d7 hw hl him;go_enter azq,azl;go_wp2
 go_loopw [15] (fun t wr=>∃(k:Nat) (m:Vs),t=yB (k:Int)/\k<=G.liv.length/\M6 (OR base wr g m ((G.liv.take k).foldl Zd G)/\m.bh=V.bh/\WV V m g w wr)) (fun t _=>G.liv.length-(intOf t).toNat)
 case atStart=>exact⟨0,V,rfl,Nx _,H.out.1,rfl,WV.Gy _ _ _⟩
 case round =>
  obtain⟨k,m,rfl,hk,A⟩:=hrel;obtain⟨W,hW⟩:=yE wr;subst hW
  by_cases hlt:k<G.liv.length
  ·have i0:(k:Int)<(G.liv.length:Int):=by omega
   obtain⟨j7,j1,g9,_,_,f3⟩:=adt.F6 (HA.out W m A.out.2.2);injection g9 with el1 _ _;obtain⟨b1,o1,f7,j3,K,z1,z2,z3,z4,z5⟩:=f3 k hlt;obtain⟨⟨q,y,x3,Y,C,x6⟩,c2⟩:∃x,x=G.liv[k]:=⟨_,rfl⟩;rw[<-c2]at K z1 z2 z3 z4 z5;obtain⟨a,a3⟩:=yE ((G.liv.take k).foldl Zd G);obtain⟨a8,a7,b9⟩:=H.out.2.1 k hk;rw[<-a3]at a8 a7 b9;have c0:=A.out.1;rw[<-a3]at c0;have d3:(G.liv.take (k+1)).foldl Zd G=Zd a (q,y,x3,Y,C,x6):=by
    rw[M9 hlt,Pu,<-a3,<-c2];rfl
   obtain⟨o,F⟩:=yE (W.alloc (YQ (q,y,x3,Y,C,x6)));have c9:yA W o:=by rw[F];exact WQ W
   have S:o.heap[W.heap.size]?=MI (YQ (q,y,x3,Y,C,x6)):=by rw[F];exact M1 _ _
   have T:=c0.below c9;have e3:=A.out.2.2.below c9;have y0:o.cell? ⟨W.heap.size,0,MH⟩=MI (yB q):=by rw[MW o _ 0 _ _ (0,0) S];rfl
   have y1:o.cell? ⟨W.heap.size,1,MH⟩=MI (yB y):=by rw[MW o _ 1 _ _ (0,0) S];rfl
   have y4:o.cell? ⟨W.heap.size,4,MH⟩=MI (yB C):=by rw[MW o _ 4 _ _ (0,0) S];rfl
   have g4:W.heap.size<o.heap.size:=(ZAa.1 S).1;have i7:=T.Gm;have f2:=T.Gs;have g6:=T.lt;have s:M6 (_/\_/\_/\_/\_/\_):=⟨T,e3,d3,a8,a7,b9⟩;clear T e3 d3 a8 a7 b9 c0 a3 c2 S c9 f3;have b8:al=MI ⟨b1,o1,MH⟩:=HE.out.symm.trans (el1.trans f7);clear f7 el1;subst b8
   by_cases hc:y≠3\/a.now<C
   ·have U:=s.out.2.2.1.trans (show Zd a (q,y,x3,Y,C,x6)=a from Nh hc)
    have HN:M6 _:=U;clear U
    by_cases h3:y=3
    ·subst h3
     have i4:a.now<C:=by
      rcases hc with e|e
      ·exact absurd rfl e
      ·exact e
     clear hc
     go_wp2_with fail
     rw[<-F];clear F K z1 z2 z3 z4 z5
     go_quiet (fail)
     go_wp2
     go_roundw
     case rel=>exact⟨k+1,m,by go_num,hlt,by rw[HN.out];exact s.out.1.below (ZE (MY _ _) _),A.out.2.1,s.out.2.1.below (ZE (MY _ _) _)⟩
     case measure=>simp[intOf];omega
    ·have j4:(y != 3)=true:=by simpa using h3
     clear hc h3
     go_wp2_with fail
     rw[<-F];clear F K z1 z2 z3 z4 z5
     go_quiet (fail)
     go_wp2
     go_roundw
     case rel=>exact⟨k+1,m,by go_num,hlt,by rw[HN.out];exact s.out.1.below (ZE (MY _ _) _),A.out.2.1,s.out.2.1.below (ZE (MY _ _) _)⟩
     case measure=>simp[intOf];omega
   ·obtain rfl:y=3:=by
     by_cases e:y=3
     ·exact e
     ·exact absurd (Nt e) hc
    have i4:¬a.now<C:=fun e=>hc (NF e)
    have U:=s.out.2.2.1.trans (show Zd a (q,3,x3,Y,C,x6)=(YL q a.tab).foldl Ye a from Nf hc);have HN:M6 _:=U;clear U hc
    go_wp2_with fail
    rw[<-F];clear F K z1 z2 z3 z4 z5
    go_quiet (fail)
    have K:(o.drewN nq).cell? ⟨W.heap.size,0,MH⟩=MI (yB q):=y0;have g1:(o.drewN nq).cell? ⟨g,17,MH⟩=MI (MG m.pt a.tab.length m.ct):=f2;have M:=s.out.1.below (ZE (MY _ _) nq);have b0:=s.out.2.1.below (ZE (MY _ _) nq);have d4:=M.lt;have g3:W.heap.size<(o.drewN nq).heap.size:=g4;obtain⟨W2,e4⟩:=yE (o.drewN nq);rw[<-e4]at K g1 M b0 d4 g3⊢;clear e4 y0 y1 y4 i7 f2 g4 g6;obtain⟨d,Q⟩:=yE (YL q a.tab);rw[<-Q]at HN;have d9:aeo a.tab q=(d,0):=by rw[Q];exact Nh s.out.2.2.2.1.bs.tab
    have f4:M6 (∀X,yA W2 X->Ni MK 189 #[Ny #[MG m.pt a.tab.length m.ct],yB q] X fun r w'=>∃p c,r=MN (Nv #[MG p d.length c,yB 0])/\M6 (OR base w' g m a/\WV V m g w w'/\Xz w' (MG p d.length c) d/\∀b,(MG p d.length c).ownBlock=MI b->¬m.own g b)):=fun X hX=>by
     refine(auS _ a.tab q X (M.below hX).rest.tab.now).mono ?_;rw[d9];rintro r w' ⟨p,c,rfl,ho,hb⟩;have c6:=hX.trans (hb.mono hX.size);rw[ali]at ho;exact⟨p,c,rfl,M.below c6,b0.below c6,Yr ho,fun b hb'=>M.rest.new (Nm hX.size (ho.lt b hb').1)⟩
    have a5:=s.out.2.2.2.1.bs.IW q;rw[<-Q]at a5;have d2:=fun j hj=>ake d a j s.out.2.2.2.1 a5.1 (fun t N=>by obtain⟨f,hf,e,_⟩:=a5.2 t N;exact⟨f,hf,e⟩) hj
    have j8:d.length<=40:=by rw[Q];exact Nm (aky _ _) s.out.2.2.2.1.bs.IK
    have d8:a.out.length<=800000:=by have:=s.out.2.2.2.2.2;have:=H.out.2.2.2;omega
    have HP:M6 (_/\_):=⟨d2,d8⟩;clear M b0 d9 a5 d2 d8 Q
    go_wp2_with fail
    apply aan
    ·intro h7
     go_region_with (first|(go_at_call 189;refine(f4.out _ (by first|exact(MY _ _).drew|exact Below.refl _ _)).mono ?_;rintro r W3 ⟨p,c,rfl,hQ⟩))
     all_goals
      revert p c W3;exact h7.out
    intro W3 p c hQ;have HQ:M6 _:=hQ.out;clear hQ f4 K g1 d4 g3;go_wp2
    go_loopw [45] (fun t wx=>∃(j:Nat) (Z:Vs),t=yB (j:Int)/\j<=d.length/\M6 (OR base wx g Z ((d.take j).foldl Ye a)/\Z.bh=V.bh/\WV m Z g W3 wx)) (fun t _=>d.length-(intOf t).toNat)
    case atStart=>exact⟨0,m,rfl,Nx _,HQ.out.1,A.out.2.1,WV.Gy _ _ _⟩
    case round =>
     obtain⟨j,Z,rfl,hj,I⟩:=hrel;obtain⟨D,h9⟩:=yE wr;subst h9
     by_cases hjl:j<d.length
     ·have i6:(j:Int)<(d.length:Int):=by omega
      obtain⟨ah,ch,i2,i5,f9,ph⟩:=Xz.F6 (aqt HQ.out.2.2.1 I.out.2.2 HQ.out.2.2.2);injection i2 with eh1 _ eh3;unfold NE at f9;rw[<-eh3]at i5 f9;clear eh3;obtain⟨b2,o2,g2,c6,v0,v1⟩:=ph j hjl;obtain⟨t,N⟩:=yE (d[j]);rw[<-N]at v0 v1;obtain⟨z,a0⟩:=yE ((d.take j).foldl Ye a);obtain⟨P,d6,a6,g0⟩:=HP.out.1 j hj;rw[<-a0]at P d6 a6 g0;have c1:=I.out.1;rw[<-a0]at c1;have a9:(d.take (j+1)).foldl Ye a=Ye z t:=by
       rw[M9 hjl,Pu,<-a0,<-N];rfl
      obtain⟨f0,e0,f1⟩:=a6 t (by rw[N,OK hjl];exact NM ..);obtain⟨i,a2⟩:=yE (aaF z.fls t.1);have e6:=P.bs.GG e0;rw[f1,<-a2]at e6;obtain⟨O,i3⟩:=e6;obtain⟨f,a1⟩:=yE (Xs z i);have f5:f∈z.fls:=by rw[a1,XA O];exact Nk O
      have d5:Ye z t=Yg z f 6 2:=by unfold Ye;rw[<-a2,<-a1]
      rw[d5]at a9;obtain⟨J,a4⟩:=yE (D.alloc (afN t.1 t.2));have c7:yA D J:=by rw[a4];exact WQ D
      have d0:J.heap[D.heap.size]?=MI (afN t.1 t.2):=by rw[a4];exact M1 _ _
      have u:=c1.below c7;have e5:=I.out.2.2.below c7;obtain⟨bf,hp,_,h8⟩:=u.bf (Pb (Nx _) O);have r0:J.cell? ⟨D.heap.size,0,MH⟩=MI (yB t.1):=by rw[MW J _ 0 _ _ (0,0) d0];rfl
      have j9:D.heap.size<J.heap.size:=(ZAa.1 d0).1;have e9:z.out.length<=900000:=by have:=HP.out.2;omega
      have E:M6 (_/\_/\_/\_/\_/\_/\_/\_):=⟨ahm u O a2.symm hp P.bs.Gb,u,P.bs,e5,e9,O,hp,f5⟩;have f8:M6 (_/\_):=⟨a9,a1⟩;have j0:=u.lt;have b8:p=MI ⟨b2,o2,MH⟩:=eh1.trans g2;clear c1 u e5 P d6 a6 g0 O hp f5 a9 a1 a2 i3 d5 f1 e0 h8 a0 N ph d0 c7 e9 eh1 g2;subst b8
      go_wp2_with fail
      rw[<-a4];clear a4 v0 v1;refine Nd E.out.1 ?_;rintro r W6 ⟨rfl,d1⟩;have c3:=E.out.2.1.below d1;have hx:=c3.Gw E.out.2.2.2.2.2.2.1 E.out.2.2.2.2.2.1;rw[<-f8.out.2]at hx;obtain⟨q0,q1,q2,q3,q4,q5,q6⟩:=hx;have g8:bf<W6.heap.size:=MX W6 ⟨bf,i*7,MH⟩ q0;have H6:M6 (_/\_):=⟨adY c3 E.out.2.2.1 E.out.2.2.2.2.2.2.2 E.out.2.2.2.2.1 6 2,E.out.2.2.2.1.below d1⟩;clear c3 d1
      go_wp2_with fail
      refine Nd H6.out.1 ?_;rintro r W7 ⟨rfl,V3,g5,e7,f6⟩;have H7:M6 (_/\_/\_):=⟨g5,e7.trans I.out.2.1,H6.out.2.F0 f6⟩;clear g5 e7 f6 q0 q1 q2 q3 q4 q5 q6 g8;go_wp2
      go_roundw
      case rel=>exact⟨j+1,V3,by go_num,hjl,by rw[f8.out.1];exact H7.out.1,H7.out.2.1,H7.out.2.2⟩
      case measure=>simp[intOf];omega
     ·obtain rfl:j=d.length:=by omega
      have i6:¬(d.length:Int)<(d.length:Int):=by omega
      have u:=I.out.1;rw[NT,<-HN.out]at u;have H5:M6 _:=u;clear u;go_wp2
      go_roundw
      case rel=>exact⟨k+1,Z,by go_num,hlt,H5.out,I.out.2.1,HQ.out.2.1.F0 I.out.2.2⟩
      case measure=>simp[intOf];omega
  ·obtain rfl:k=G.liv.length:=by omega
   have i0:¬(G.liv.length:Int)<(G.liv.length:Int):=by omega
   go_wp2
   go_end0
   have u:=A.out.1;rw[NT]at u;exact⟨rfl,m,u,A.out.2.1,A.out.2.2⟩
end
section
variable {base:Nat}{w:MO}{g:Nat}{V:Vs}{G:Gt}
theorem akR:∀(l:List Int) (G:Gt),(l.foldl X5 G).out.length<=G.out.length+2*l.length
 | [],_=>MV _
 |s::l,G=>by
  have a:=akR l (X5 G s);have b:=akP (G:=G) s;rw[O4,Ox];omega
theorem ao7(h:Bs G):(Zs G).out.length<=G.out.length+80:=by
 unfold Zs;refine Nm (akR _ _) ?_;have:(aaD G.fls (G.wnow+1)).length<=40:=by
  unfold aaD;rw[N0];exact Nm (O1 _ _) h.Gb
 show G.out.length+_<=_;omega
theorem adj{r:Ending}{w1:MO}{V1:Vs}(hF:WV V V1 g w w1)(hV:V1.bh=V.bh)(h:aam base w1 g V1 G' r w'):aam base w g V G' r w':=by
 obtain⟨b,e,c,a,d⟩:=h;exact⟨b,e,c,a.trans hV,hF.F0 d⟩
theorem aqV(h:OR base w g V G)(hwm:Wm G)(hn:G.now+1<=1099511626776)(hl:G.out.length<=600000) :
  Ni MK 78 #[gP g] w (aam base w g V (abj G)):=by
 obtain⟨s,e⟩:∃s:Gt,s={G with now:=G.now+1}:=⟨_,rfl⟩;have o:Im s:=by rw[e];exact hwm.im.next hn
 obtain⟨b,j⟩:∃b:Gt,b=YH s:=⟨_,rfl⟩;have t:Im b:=by rw[j];exact o.Jf
 have d:=aeS o.bs;rw[<-j]at d;obtain⟨c,i⟩:∃c:Gt,c=aaC b:=⟨_,rfl⟩;have m:Im c:=by rw[i];exact t.I2
 have z:c.wnow+1=c.now:=by
  rw[i];show b.wnow+1=b.now;rw[d.2.1,d.1,e];show G.wnow+1=G.now+1;rw[hwm.wnow]
 have S:∀f∈c.fls,c.wnow<f.due:=by
  rw[i];show ∀f∈b.fls,b.wnow<f.due;rw[d.2.2.1,d.2.1,e];show ∀f∈G.fls,G.wnow<f.due;rw[hwm.wnow];exact hwm.due
 have M:c.out.length<=600000:=by
  rw[i];show b.out.length<=600000;rw[d.2.2.2.2.1,e];exact hl
 have y:=m.Je z S;have C:=ao7 m.bs;obtain⟨I,q⟩:∃I:Gt,I=Zs c:=⟨_,rfl⟩;rw[<-q]at y C;have Y:abj G=acG I:=by unfold abj;rw[<-e,<-j,<-i,<-q]
 rw[Y];have a1:=h.Gm;have a2:=h.fz 16;have a3:=h.lt;have a0:IntKind.i64.wrap (G.now+1)=G.now+1:=by have:=hwm.im.bs.now;rw[Ow];omega
 have p:=h.Ja (G.now+1);rw[<-e]at p;have u:WV V V g w (w.setCell ⟨g,16,MH⟩ (yB (G.now+1))):=(WV.Gy V g w).F4 16 _;obtain⟨Z,x⟩:=yE (w.setCell ⟨g,16,MH⟩ (yB (G.now+1)));rw[<-x]at p u;have H:M6 (_/\_/\_):=⟨aq2 p o,u,j⟩;have a:M6 (_/\_/\_/\_/\_/\_/\_/\_):=⟨t,m,z,M,y,C,i,q⟩;clear o t m z S M y C d e j i q Y p u h hwm hn hl;go_enter WK,WD
 go_wp2_with fail
 rw[<-x];clear x;refine Nd H.out.1 ?_;rintro r w1 ⟨rfl,V1,A,U,T⟩;rw[<-H.out.2.2]at A;have F:M6 (_/\_/\_):=⟨aow A a.out.1.bs,H.out.2.1.F0 T,U.2.2⟩;clear A U T
 go_wp2_with fail
 refine Nd F.out.1 ?_;rintro r w2 ⟨rfl,V2,D,O,P⟩;rw[<-a.out.2.2.2.2.2.2.1]at D;have K:M6 (_/\_/\_):=⟨ao6 D a.out.2.1 a.out.2.2.1 (by have:=a.out.2.2.2.1;omega),F.out.2.1.F0 P,O.2.2.trans F.out.2.2⟩;clear D O P
 go_wp2_with fail
 refine Nd K.out.1 ?_;rintro r w3 ⟨rfl,V3,E,N,Q⟩;rw[<-a.out.2.2.2.2.2.2.2]at E;have J:M6 (_/\_/\_):=⟨aoW E a.out.2.2.2.2.1.1 (by rw[a.out.2.2.2.2.1.2.2.1,a.out.2.2.2.2.1.2.1]) (by have:=a.out.2.2.2.2.2.1;have:=a.out.2.2.2.1;omega),K.out.2.1.F0 Q,N.trans K.out.2.2⟩;clear E N Q
 go_wp2_with fail
 refine Nd J.out.1 ?_;rintro r w4 ⟨rfl,V4,hP⟩;have H4:M6 _:=hP;clear hP;go_wp2
 go_end0
 exact adj J.out.2.1 J.out.2.2 ⟨rfl,V4,H4.out⟩
theorem aqR(h:OR base w g V G)(hwm:Wm G){e:Ev}(he:XZ e)(hn:e.kind=7->G.now+1<=1099511626776)(hl:G.out.length<=600000) :
  Ni MK 56 #[gP g,acH e] w (aam base w g V (Xb G e)):=by
 obtain⟨W,d⟩:=yE (w.alloc (aaE e));have o:yA w W:=by rw[d];exact WQ w
 have p:W.heap[w.heap.size]?=MI (aaE e):=by rw[d];exact M1 _ _
 have m:=h.below o;have j:WV V V g w W:=WV.F5 o;obtain⟨P,M,Q,S,U,Z,N,T,I⟩:=abP p;have J:=h.lt;obtain⟨O,c⟩:=yE (Xb G e);rw[<-c];unfold Xb at c;have t:=he.kind;have E:e.kind=1\/(e.kind=2\/e.kind=3\/e.kind=4)\/e.kind=5\/e.kind=6\/e.kind=7:=by omega
 rcases E with a|a|a|a|a
 ·have x:(e.kind == 1)=true:=by rw[a];rfl
  rw[Nh a]at c;have H:M6 (_/\_/\_):=⟨aqb m hwm.im.bs hwm.wnow (by omega) he.key,j,c⟩;clear a c m j h hwm he hn hl o p t;go_enter azX,azT
  go_wp2_with fail
  rw[<-d];clear d;refine Nd H.out.1 ?_;rintro r q ⟨rfl,i,b⟩;have f:M6 _:=b;clear b;go_wp2
  go_end0
  rw[H.out.2.2];exact adj H.out.2.1 rfl ⟨rfl,i,f.out⟩
 ·have x:(e.kind == 1)=false:=beq_eq_false_iff_ne.2 (by omega)
  rw[Nf (by omega),Nf (by omega),Nf (by omega),Nf (by omega)]at c;have H:M6 (_/\_/\_):=⟨aqa m hwm.im.bs hwm.wnow (by omega) e,j,c⟩;have K:M6 _:=a;clear c m j h hwm he hn hl o p t;rcases a with a|a|a
  ·have s:(e.kind == 2)=true:=by rw[a];rfl
   clear a;go_enter azX,azT
   go_wp2_with fail
   rw[<-d];clear d;refine Nd H.out.1 ?_;rintro r q ⟨rfl,i,b⟩;have f:M6 _:=b;clear b;go_wp2
   go_end0
   rw[H.out.2.2];exact adj H.out.2.1 rfl ⟨rfl,i,f.out⟩
  ·have s:(e.kind == 2)=false:=by rw[a];rfl
   have u:(e.kind == 3)=true:=by rw[a];rfl
   clear a;go_enter azX,azT
   go_wp2_with fail
   rw[<-d];clear d;refine Nd H.out.1 ?_;rintro r q ⟨rfl,i,b⟩;have f:M6 _:=b;clear b;go_wp2
   go_end0
   rw[H.out.2.2];exact adj H.out.2.1 rfl ⟨rfl,i,f.out⟩
  ·have s:(e.kind == 2)=false:=by rw[a];rfl
   have u:(e.kind == 3)=false:=by rw[a];rfl
   have y:(e.kind == 4)=true:=by rw[a];rfl
   clear a;go_enter azX,azT
   go_wp2_with fail
   rw[<-d];clear d;refine Nd H.out.1 ?_;rintro r q ⟨rfl,i,b⟩;have f:M6 _:=b;clear b;go_wp2
   go_end0
   rw[H.out.2.2];exact adj H.out.2.1 rfl ⟨rfl,i,f.out⟩
 ·have x:(e.kind == 1)=false:=by rw[a];rfl
  have s:(e.kind == 2)=false:=by rw[a];rfl
  have u:(e.kind == 3)=false:=by rw[a];rfl
  have y:(e.kind == 4)=false:=by rw[a];rfl
  have D:(e.kind == 5)=true:=by rw[a];rfl
  rw[Nf (by omega),Nh a]at c;have H:M6 (_/\_/\_):=⟨ajZ m (by omega) 1 e,j,c⟩;clear a c m j h hwm he hn hl o p t;go_enter azX,azT
  go_wp2_with fail
  rw[<-d];clear d;refine Nd H.out.1 ?_;rintro r q ⟨rfl,i,C,A,z⟩;have f:M6 (_/\_/\_):=⟨C,A,z⟩;clear C A z;go_wp2
  go_end0
  rw[H.out.2.2];exact⟨rfl,i,f.out.1,f.out.2.1.2.2,H.out.2.1.F0 f.out.2.2⟩
 ·have x:(e.kind == 1)=false:=by rw[a];rfl
  have s:(e.kind == 2)=false:=by rw[a];rfl
  have u:(e.kind == 3)=false:=by rw[a];rfl
  have y:(e.kind == 4)=false:=by rw[a];rfl
  have D:(e.kind == 5)=false:=by rw[a];rfl
  have F:(e.kind == 6)=true:=by rw[a];rfl
  rw[Nf (by omega),Nf (by omega),Nh a]at c;have H:M6 (_/\_/\_):=⟨aho (aqn m hwm.im (by omega) e he),j,c⟩;clear a c m j h hwm he hn hl o p t;go_enter azX,azT
  go_wp2_with fail
  rw[<-d];clear d;refine Nd H.out.1 ?_;rintro r q ⟨rfl,i,b⟩;have f:M6 _:=b;clear b;go_wp2
  go_end0
  rw[H.out.2.2];exact adj H.out.2.1 rfl ⟨rfl,i,f.out⟩
 ·have x:(e.kind == 1)=false:=by rw[a];rfl
  have s:(e.kind == 2)=false:=by rw[a];rfl
  have u:(e.kind == 3)=false:=by rw[a];rfl
  have y:(e.kind == 4)=false:=by rw[a];rfl
  have D:(e.kind == 5)=false:=by rw[a];rfl
  have F:(e.kind == 6)=false:=by rw[a];rfl
  have Y:(e.kind == 7)=true:=by rw[a];rfl
  rw[Nf (by omega),Nf (by omega),Nf (by omega),Nh a]at c;have H:M6 (_/\_/\_):=⟨aqV m hwm (hn a) hl,j,c⟩;clear a c m j h hwm he hn hl o p t;go_enter azX,azT
  go_wp2_with fail
  rw[<-d];clear d;refine Nd H.out.1 ?_;rintro r q ⟨rfl,i,b⟩;have f:M6 _:=b;clear b;go_wp2
  go_end0
  rw[H.out.2.2];exact adj H.out.2.1 rfl ⟨rfl,i,f.out⟩
end
end Go.Proofs.YtbdpocjfnnojbaaGreatDoor.Q
