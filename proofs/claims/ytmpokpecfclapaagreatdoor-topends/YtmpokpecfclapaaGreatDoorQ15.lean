/-
  Contracts of the layers and of core, part 15. Conditions: as each theorem says.
-/
import Derived.Test.YtmpokpecfclapaaGreatDoorQ14
open Bool renaming false->Nb,true->Nw
open Go renaming Calls->Ni,Value->M7,World->MO,cell_of_row->MW,heap_alloc_new->M1,maxLen->NE
open Go.Calls renaming mono->Nd
open Go.Ending renaming returned->MN
open Go.IntKind renaming i64->ME,wrap_i64->Ow
open Go.Obj renaming cells->MP
open Go.Proofs.Tryz renaming func106->Ta,func41->QN,func58->Tq,ntmps106->SG,ntmps41->QD,ntmps58->Te,prog->MK
open Go.RowKit renaming Below->MQ,Hid->M6
open Go.RowKit.Below renaming heap_setCell->MU,refl->MY
open Go.Value renaming agg->Ny,bool->M3,int->MF,slice->MG,tuple->Nv
open Go.World renaming block_lt_of_cell?->MX,cell?->Nl,cell?_of_block->NG,frozen?->Ng,frozen?_of_block->OM
open Int renaming eq_ofNat_of_zero_le->NL
open List renaming drop_eq_getElem_cons->OK,foldl_append->Pu,foldl_cons->O4,getElem?_append_right->Tw,getElem_mem->Nk,length_cons->Ox,length_filter_le->O1,length_map->N0,length_take->NH,map_append->OI,map_cons->OA,mem_cons_self->NM,set_append_right->Pw,set_cons_zero->ML,take_length->NT,take_succ_cons->PT,take_succ_eq_append_getElem->M9
open Nat renaming le_of_lt->PJ,le_refl->MV,le_trans->Nm,lt_of_le_of_lt->Pb,lt_of_lt_of_le->M8,min_eq_left->P1,zero_le->Nx
open Option renaming none->MH,some->MI
open Option.some renaming inj->NC
open Or renaming inl->Nt,inr->NF
namespace Go.Proofs.YtmpokpecfclapaaGreatDoor.Q
set_option linter.unusedVariables false
set_option linter.unusedSimpArgs false
set_option maxHeartbeats 16000000
set_option maxRecDepth 100000
open Go.RowKit
attribute [local go_sem ↓] Go.wp_at_zero Go.wp_at_succ
variable {G':Gt}{l:List Int}{R:List aw0}{L:List awV}{v va vb:M7}{W X w w' w5:MO}{B k:Nat}
section
variable {base:Nat}{w:MO}{g:Nat}{V:Vs}{G:Gt}
theorem adX{Q R:Prop}(m:M6 Q->R)(k:Q):R:=m k
abbrev acE(n:Int):Obj:=MP #[MF ME n] 53
theorem akl(h:OR base w g V G)(hbs:Bs G)(hw:G.wnow=G.now)(hl:G.out.length<=800000){i:Nat}(hi:i<G.fls.length){bf:Nat}(hp:V.pf=MI ⟨bf,0,MH⟩)(why:Int) :
  Ni MK 99 #[gP g,fP bf i,MF ME why] w (aam base w g V (YP G i why)):=by
 obtain⟨O,a⟩:∃O,O=YP G i why:=⟨_,rfl⟩;rw[<-a];unfold YP at a;simp only[]at a;obtain⟨f,hf⟩:∃f,f=Xs G i:=⟨_,rfl⟩;have a7:f∈G.fls:=by rw[hf,XA hi];exact Nk hi
 have a6:=hbs.F9 a7;have f4:=hbs.rets _ a7;obtain⟨q0,q1,q2,q3,q4,q5,q6⟩:=h.Gw hp hi;rw[<-hf]at a q0 q1 q2 q3 q4 q5 q6;have h9:=h.lt;obtain⟨b,E⟩:∃b,b=Yh G f.be true:=⟨_,rfl⟩;have HN:=akO h hbs a6.2.2.2 Nw;have c0:=hbs.GA a6.2.2.2 Nw;rw[<-E]at a HN c0;have e9:b.fls=G.fls/\b.cfg=G.cfg/\b.now=G.now/\b.wnow=G.wnow/\b.out=G.out/\b.tok=G.tok:=by rw[E];exact⟨rfl,rfl,rfl,rfl,rfl,rfl⟩
 obtain⟨⟨tk,er⟩,e7⟩:∃s,s=Zh G.cfg.bn G.cfg.bd G.cfg.bb G.tok:=⟨_,rfl⟩;have d6:=hbs.tok;have H:M6 (_/\_/\_/\_/\_/\_/\_/\_):=⟨HN,a,c0,e9,hp,hi,hf,a7⟩;have u:M6 (_/\_/\_/\_/\_/\_/\_):=⟨hbs,hw,hl,a6,e7,f4,d6⟩;clear h hbs a hf hw hl a6 HN E e9 c0 hp hi a7 e7 f4 d6;go_enter Tryz.func99,Tryz.ntmps99
 go_wp2_with fail
 refine Nd H.out.1 ?_;rintro r j ⟨rfl,V1,E,d0,f1⟩;have f2:V1.pf=MI ⟨bf,0,MH⟩:=d0.1.trans H.out.2.2.2.2.1;have Z:M6 (∃y:i<b.fls.length,b.fls[i]=f):=akp H.out.2.2.2.1.1 H.out.2.2.2.2.2.1 H.out.2.2.2.2.2.2.1;have g8:j.cell? ⟨g,10,MH⟩=MI (MF ME G.cfg.bn):=by rw[<-H.out.2.2.2.1.2.1];exact E.Hf
 have g7:j.cell? ⟨g,11,MH⟩=MI (MF ME G.cfg.bd):=by rw[<-H.out.2.2.2.1.2.1];exact E.Hn
 have g9:j.cell? ⟨g,12,MH⟩=MI (MF ME G.cfg.bb):=by rw[<-H.out.2.2.2.1.2.1];exact E.Hg
 have d1:j.cell? ⟨g,23,MH⟩=MI (MF ME G.tok):=by rw[<-H.out.2.2.2.1.2.2.2.2.2];exact E.Id
 have g2:=E.lt;have HS:M6 ((∀X,MQ j.heap.size j X->X.heap[j.heap.size]?=MI (acE 0)->Ni MK 138 #[Ny #[MF ME G.cfg.bn,MF ME G.cfg.bd,MF ME G.cfg.bb],Ny #[MF ME G.tok]] X fun r w'=>r=MN (Nv #[Ny #[MF ME tk],MF ME er])/\w'.cell? ⟨j.heap.size,0,MH⟩=MI (MF ME 0)/\w'.frozen? ⟨j.heap.size,0,MH⟩=Nb/\j.heap.size<w'.heap.size /\
   ∃z w3,z=j.heap.size/\w3=w'.setCell ⟨j.heap.size,0,MH⟩ (MF ME tk)/\M6 (MQ j.heap.size j w3/\w3.heap[z]?=MI (acE tk))) /\
   (∀X,MQ j.heap.size j X->Ni MK 138 #[Ny #[MF ME G.cfg.bn,MF ME G.cfg.bd,MF ME G.cfg.bb],Ny #[MF ME G.tok]] X fun r w'=>r=MN (Nv #[Ny #[MF ME tk],MF ME er]) /\
   ∃z w3,z=w'.heap.size/\w3=w'.alloc (acE tk)/\M6 (MQ j.heap.size j w3/\w3.heap[z]?=MI (acE tk)))):=by
  constructor
  ·intro X Q hR
   refine(ajV G.cfg.bn G.cfg.bd G.cfg.bb G.tok X).mono ?_;rw[<-u.out.2.2.2.2.1];rintro r w' ⟨rfl,a4⟩;have a5:=WO hR a4;exact⟨rfl,by rw[MW w' _ 0 _ _ (0,0) a5];rfl,by simp[Ng,a5],(Array.getElem?_eq_some_iff.1 a5).1,_,_,rfl,rfl,(Q.trans (a4.mono Q.size)).setCell (p:=⟨j.heap.size,0,MH⟩) (MV _) _,YO a5 rfl⟩
  ·intro X Q
   refine(ajV G.cfg.bn G.cfg.bd G.cfg.bb G.tok X).mono ?_;rw[<-u.out.2.2.2.2.1];rintro r w' ⟨rfl,a4⟩;have a0:=Q.trans (a4.mono Q.size);exact⟨rfl,_,_,rfl,rfl,a0.trans ((WQ w' (o:=acE tk)).mono a0.size),M1 _ _⟩
 have d:M6 (_/\_/\_/\_/\_):=⟨HS.out,E,d0,f1,f2⟩;clear HS E d0 f1 f2 q0 q1 q2 q3 q4 q5 q6
 go_wp2_with fail
 apply adX
 ·intro h7
  go_region_with (first|(go_at_call 138;refine(d.out.1.1 _ (by first|exact(WQ _).drew|exact WQ _) (by first|exact M1 _ _|(show(World.alloc _ _).heap[_]?=_;exact heap_alloc_new _ _))).mono ?_;rintro r w2 ⟨rfl,y0,z0,g4,z,A,c9,c2,hQ⟩)|(go_at_call 138;refine(d.out.1.2 _ (by first|exact(MY _ _).drew|exact Below.refl _ _)).mono ?_;rintro r w2 ⟨rfl,z,A,c9,c2,hQ⟩))
  all_goals
   rw[<-c2]
   try rw[<-c9]
   clear c2 c9
   try clear y0 z0 g4
   revert z A;exact h7.out
 intro z A hQ;have d2:=hQ.out.1;have f5:=hQ.out.2;clear hQ;have a8:=d.out.2.1.below d2;have xu:adU A bf i f:=by
  obtain⟨y,C⟩:=Z.out;have:=a8.Gl d.out.2.2.2.2 y;rw[C]at this;exact this
 have v5:=xu.2.2.2.2.2.1;have v8:A.cell? ⟨g,8,MH⟩=MI (MF ME G.cfg.ret):=by rw[<-H.out.2.2.2.1.2.1];exact a8.c8
 have c1:=a8.lt;have b9:bf<A.heap.size:=MX A ⟨bf,i*7+5,MH⟩ v5;have HU:M6 (_/\_):=⟨d2,f5⟩;clear d2 f5 a8 xu g8 g7 g9 d1 g2;have f8:f∈b.fls:=by rw[H.out.2.2.2.1.1];exact H.out.2.2.2.2.2.2.2
 have f9:b.out.length<=800000:=by rw[H.out.2.2.2.1.2.2.2.2.1];exact u.out.2.2.1
 have a:=H.out.2.1;rw[<-u.out.2.2.2.2.1,<-H.out.2.2.2.1.1]at a;simp only[]at a;have U:M6 (_/\_):=⟨f8,f9⟩;have HO:M6 _:=a;clear f8 f9 a
 by_cases hA:f.ret=G.cfg.ret
 ·have i1:(f.ret == G.cfg.ret)=true:=by rw[beq_iff_eq];exact hA
  go_wp2_with fail
  go_quiet (fail)
  have D:=ZE HU.out.1 nq;have T:(A.drewN nq).heap[z]?=MI (acE tk):=HU.out.2;clear v5 v8 c1 b9;generalize A.drewN nq=w3 at *;have m:=d.out.2.1.below D;have K:adU w3 bf i f:=by
   obtain⟨y,C⟩:=Z.out;have:=m.Gl d.out.2.2.2.2 y;rw[C]at this;exact this
  have e8:w3.cell? ⟨g,8,MH⟩=MI (MF ME G.cfg.ret):=by rw[<-H.out.2.2.2.1.2.1];exact m.c8
  have b8:=m.lt;have M:M6 (_/\_/\_):=⟨m,d.out.2.2.2.1.below D,T⟩;obtain⟨x0,x1,x2,x3,x4,x5,x6⟩:=K;clear m D T;have a:=HO.out;rw[Nh (Nt hA)]at a;have P:M6 (_/\_):=⟨adY M.out.1 H.out.2.2.1 U.out.1 (by have:=U.out.2;omega) 6 why,a⟩;clear a hA
  go_wp2_with fail
  refine Nd P.out.1 ?_;rintro r w9 ⟨rfl,V9,J,F,I⟩;have t:M6 (_/\_/\_):=⟨J,F.trans d.out.2.2.1.2.2,M.out.2.1.F0 I⟩;clear J F I;go_wp2
  go_end0
  rw[P.out.2];exact⟨rfl,V9,t.out.1,t.out.2.1,t.out.2.2⟩
 ·have i0:(f.ret == G.cfg.ret)=false:=by rw[Oh];exact hA
  by_cases hB:er=0
  ·subst hB
   go_wp2_with fail
   go_quiet (fail)
   have D:=ZE HU.out.1 nq;have T:(A.drewN nq).heap[z]?=MI (acE tk):=HU.out.2;clear v5 v8 c1 b9;generalize A.drewN nq=w3 at *;have m:=d.out.2.1.below D;have K:adU w3 bf i f:=by
    obtain⟨y,C⟩:=Z.out;have:=m.Gl d.out.2.2.2.2 y;rw[C]at this;exact this
   have e8:w3.cell? ⟨g,8,MH⟩=MI (MF ME G.cfg.ret):=by rw[<-H.out.2.2.2.1.2.1];exact m.c8
   have b8:=m.lt;have M:M6 (_/\_/\_):=⟨m,d.out.2.2.2.1.below D,T⟩;obtain⟨x0,x1,x2,x3,x4,x5,x6⟩:=K;clear m D T;have a:=HO.out;rw[Nf (by rintro(h|h);exact hA h;exact h rfl)]at a;obtain⟨fs,a1⟩:∃fs,fs=Yl b.fls f.slot f.gen:=⟨_,rfl⟩;rw[<-a1]at a;have c6:fs.length<=40:=by rw[a1];exact Nm (ahT _ _ _) (by rw[H.out.2.2.2.1.1];exact u.out.1.Gb)
   have d3:∀x∈fs,0<=x.be/\x.be<12:=fun x K=>(H.out.2.2.1.F9 (by rw[a1]at K;exact(List.mem_filter.1 K).1)).2.2.2
   obtain⟨⟨cb,ce⟩,a3⟩:∃ce,ce=XD b f.key fs:=⟨_,rfl⟩;rw[<-a3]at a;simp only[]at a;have f6:∀X,MQ w3.heap.size w3 X->Ni MK 136 #[gP g,Ny #[MF ME f.slot,MF ME f.gen]] X fun r w'=>∃q c,r=MN (MG (MI ⟨q,0,MH⟩) fs.length c)/\w'.cell? ⟨bf,i*7+2,MH⟩=MI (MF ME f.key)/\bf<w'.heap.size /\
     M6 (∀Y,MQ w'.heap.size w' Y->Ni MK 90 #[gP g,MF ME f.key,MG (MI ⟨q,0,MH⟩) fs.length c] Y fun r w5=>r=MN (Nv #[MF ME cb,M3 (ce == 0)])/\M6 (MQ w3.heap.size w3 w5)):=by
    intro X Q;have f7:=M.out.1.below Q;refine Nd (alp f7 U.out.1 (by rw[H.out.2.2.2.1.1];exact u.out.1.Gb)) ?_;rw[<-a1];rintro r w' ⟨q,c,rfl,ho,hb⟩;have a0:=Q.trans (hb.mono Q.size);have a2:bf<w3.heap.size:=MX w3 ⟨bf,i*7+2,MH⟩ x2;refine⟨q,c,rfl,(a0.cell (p:=⟨bf,i*7+2,MH⟩) a2).trans x2,M8 a2 a0.size,?_⟩;intro Y hY;refine Nd (ahb (f7.below hb |>.below hY) H.out.2.2.1 u.out.2.2.2.1.2.2.1 _ fs ((abw ho).below hY) d3 c6) ?_;rw[<-a3];rintro r w5 ⟨rfl,S⟩;have f3:=a0.trans (hY.mono a0.size);exact⟨rfl,f3.trans (S.mono f3.size)⟩
   have H4:M6 (_/\_/\_/\_/\_):=⟨f6,a,c6,d3,a3⟩;have g6:M6 (¬f.ret=G.cfg.ret):=hA;have a2:bf<w3.heap.size:=MX w3 ⟨bf,i*7+2,MH⟩ x2;clear f6 a a1 c6 d3 a3 hA e8 x3 x4 x5 x6
   go_wp2_with fail
   go_region_with (first|(go_at_call 136;refine(H4.out.1 _ (by first|exact(MY _ _).drew|exact Below.refl _ _)).mono ?_;rintro r w4 ⟨q,c4,rfl,k2,g1,e3⟩)|(go_at_call 90;refine(e3.out _ (by first|exact(MY _ _).drew|exact MY _ _)).mono ?_;rintro r w5 ⟨rfl,e4⟩))
   all_goals
    have S:=e4.out;clear e4 e3 k2 g1 a2 x0 x1 x2 b8;have N:=M.out.1.below S;have b0:=WO M.out.2.2 S;have H5:M6 (_/\_/\_):=⟨True.intro,True.intro,M.out.2.1⟩
    by_cases hC:ce=0
    ·subst hC
     have a:=H4.out.2.1;rw[Nf (by decide)]at a;have d1:=N.Id;have g5:=N.fz 23;have d7:=N.lt;have y0:w5.cell? ⟨z,0,MH⟩=MI (MF ME tk):=by rw[MW w5 _ 0 _ _ (0,0) b0];rfl
     have g3:z<w5.heap.size:=(Array.getElem?_eq_some_iff.1 b0).1;obtain⟨w6,c3⟩:∃w6,w6=w5.setCell ⟨g,23,MH⟩ (MF ME tk):=⟨_,rfl⟩;have c7:=N.IC tk;have d5:=(H5.out.2.2.below S).F4 23 (MF ME tk);rw[<-c3]at c7 d5;have d4:=H.out.2.2.1.Ib (key:=f.key) H4.out.2.2.1 (by rw[<-H4.out.2.2.2.2]);rw[<-H4.out.2.2.2.2]at d4;have e0:0<=cb/\cb<12:=d4.2;have a9:=ahK u.out.1.GM u.out.2.2.2.2.2.2 (by rw[<-u.out.2.2.2.2.1]);rw[<-u.out.2.2.2.2.1]at a9;have e5:tk=G.tok-G.cfg.bd:=congrArg Prod.fst a9.1;have d8:Bs {b with tok:=tk}:=H.out.2.2.1.Hp (by rw[e5,H.out.2.2.2.1.2.1];exact ahO u.out.1 a9.2);have d9:0<=(Xs {b with tok:=tk} i).ret/\(Xs {b with tok:=tk} i).ret+1<=20:=by
      obtain⟨y,C⟩:=Z.out;have e:Xs {b with tok:=tk} i=f:=(XA (G:=b) y).trans C;rw[e];have h1:=u.out.2.2.2.2.2.1;have h2:=g6.out;have h3:=u.out.1.cfg.2.2.2.2.2.2.2.2.1;omega
     have g0:i<({b with tok:=tk}:Gt).fls.length:=by obtain⟨y,C⟩:=Z.out;exact y
     have HR:=aqq c7 d8 (by show b.wnow=b.now;rw[H.out.2.2.2.1.2.2.2.1,H.out.2.2.2.1.2.2.1];exact u.out.2.1) (by show b.out.length<=900000;have:=U.out.2;omega) g0 d.out.2.2.2.2 e0 d9;have H6:M6 (_/\_/\_):=⟨HR,d5,a⟩;clear N b0 S c7 d5 d4 e0 a9 e5 d8 d9 g0 HR a
     go_wp2_with fail
     rw[<-c3];clear c3 d1 g5 d7 y0 g3;refine Nd H6.out.1 ?_;rintro r w9 ⟨rfl,V9,J,F,I⟩;have t:M6 (_/\_/\_):=⟨J,F.trans d.out.2.2.1.2.2,H6.out.2.1.F0 I⟩;clear J F I;go_wp2
     go_end0
     rw[H6.out.2.2];exact⟨rfl,V9,t.out.1,t.out.2.1,t.out.2.2⟩
    ·have e6:(ce == 0)=false:=by rw[Oh];exact hC
     have a:=H4.out.2.1;rw[Nh hC]at a;have K:adU w5 bf i f:=by
      obtain⟨y,C⟩:=Z.out;have:=N.Gl d.out.2.2.2.2 y;rw[C]at this;exact this
     obtain⟨x0,x1,x2,x3,x4,x5,x6⟩:=K;have d7:=N.lt;have P:M6 (_/\_/\_):=⟨adY N H.out.2.2.1 U.out.1 (by have:=U.out.2;omega) 6 4,a,H5.out.2.2.below S⟩;rw[e6];clear a hC N b0 S e6
     go_wp2_with fail
     refine Nd P.out.1 ?_;rintro r w9 ⟨rfl,V9,J,F,I⟩;have t:M6 (_/\_/\_):=⟨J,F.trans d.out.2.2.1.2.2,P.out.2.2.F0 I⟩;clear J F I;go_wp2
     go_end0
     rw[P.out.2.1];exact⟨rfl,V9,t.out.1,t.out.2.1,t.out.2.2⟩
  ·have h8:(er != 0)=true:=by simpa using hB
   go_wp2_with fail
   go_quiet (fail)
   have D:=ZE HU.out.1 nq;have T:(A.drewN nq).heap[z]?=MI (acE tk):=HU.out.2;clear v5 v8 c1 b9;generalize A.drewN nq=w3 at *;have m:=d.out.2.1.below D;have K:adU w3 bf i f:=by
    obtain⟨y,C⟩:=Z.out;have:=m.Gl d.out.2.2.2.2 y;rw[C]at this;exact this
   have e8:w3.cell? ⟨g,8,MH⟩=MI (MF ME G.cfg.ret):=by rw[<-H.out.2.2.2.1.2.1];exact m.c8
   have b8:=m.lt;have M:M6 (_/\_/\_):=⟨m,d.out.2.2.2.1.below D,T⟩;obtain⟨x0,x1,x2,x3,x4,x5,x6⟩:=K;clear m D T;have a:=HO.out;rw[Nh (NF hB)]at a;have P:M6 (_/\_):=⟨adY M.out.1 H.out.2.2.1 U.out.1 (by have:=U.out.2;omega) 6 why,a⟩;clear a hA hB
   go_wp2_with fail
   refine Nd P.out.1 ?_;rintro r w9 ⟨rfl,V9,J,F,I⟩;have t:M6 (_/\_/\_):=⟨J,F.trans d.out.2.2.1.2.2,M.out.2.1.F0 I⟩;clear J F I;go_wp2
   go_end0
   rw[P.out.2];exact⟨rfl,V9,t.out.1,t.out.2.1,t.out.2.2⟩
end
section
variable {base:Nat}{w:MO}{g:Nat}{V:Vs}{G:Gt}
abbrev acH(e:Ev):Value:=Ny #[MF ME e.kind,MF ME e.key,MF ME e.slot,MF ME e.gen,M3 e.good,MF ME e.req,MF ME e.be,MF ME e.wt]
abbrev aaE(e:Ev):Obj:=MP #[MF ME e.kind,MF ME e.key,MF ME e.slot,MF ME e.gen,M3 e.good,MF ME e.req,MF ME e.be,MF ME e.wt] 32
theorem abP{q:Nat}{e:Ev}(h:W.heap[q]?=MI (aaE e)):W.cell? ⟨q,0,MH⟩=MI (MF ME e.kind)/\W.cell? ⟨q,1,MH⟩=MI (MF ME e.key)/\W.cell? ⟨q,2,MH⟩=MI (MF ME e.slot)/\W.cell? ⟨q,3,MH⟩=MI (MF ME e.gen)/\W.cell? ⟨q,4,MH⟩=MI (M3 e.good)/\W.cell? ⟨q,5,MH⟩=MI (MF ME e.req)/\W.cell? ⟨q,6,MH⟩=MI (MF ME e.be)/\W.cell? ⟨q,7,MH⟩=MI (MF ME e.wt)/\q<W.heap.size :=
 ⟨by rw[MW W _ 0 _ _ (0,0) h];rfl,by rw[MW W _ 1 _ _ (0,0) h];rfl,by rw[MW W _ 2 _ _ (0,0) h];rfl,by rw[MW W _ 3 _ _ (0,0) h];rfl,by rw[MW W _ 4 _ _ (0,0) h];rfl,by rw[MW W _ 5 _ _ (0,0) h];rfl,by rw[MW W _ 6 _ _ (0,0) h];rfl,by rw[MW W _ 7 _ _ (0,0) h];rfl,(Array.getElem?_eq_some_iff.1 h).1⟩
theorem aho{f:FuncId}{a:Array M7}(h:Ni MK f a w (aaa base w g V G')):Ni MK f a w (aam base w g V G'):=h.mono fun _ _ k=>ao8 k
theorem apj(hbs:Bs G){s n:Int}(h:∃f∈G.fls,f.slot=s/\f.gen=n){i:Nat}(hi:i=aaF G.fls s):∃f,f∈G.fls/\i<G.fls.length/\Xs G i=f:=by
 obtain⟨f,a,c,_⟩:=h;subst c;subst hi;obtain⟨b,d⟩:=hbs.GG a;exact⟨f,a,b,(XA b).trans d⟩
abbrev afN(s n:Int):Obj:=MP #[MF ME s,MF ME n] 75
abbrev alc(t:awY):Obj:=MP #[MF ME t.1,M3 t.2.1,MF ME t.2.2.1,MF ME t.2.2.2] 79
abbrev aqB(w:MO)(b:Nat)(t:awY):World:=(((w.setCell ⟨b,0,MH⟩ (MF ME t.1)).setCell ⟨b,1,MH⟩ (M3 t.2.1)).setCell ⟨b,2,MH⟩ (MF ME t.2.2.1)).setCell ⟨b,3,MH⟩ (MF ME t.2.2.2)
abbrev ajX(w:MO)(b:Nat):Prop:=w.cell? ⟨b,0,MH⟩=MI (MF ME 0)/\w.cell? ⟨b,1,MH⟩=MI (M3 Nb)/\w.cell? ⟨b,2,MH⟩=MI (MF ME 0)/\w.cell? ⟨b,3,MH⟩=MI (MF ME 0)/\w.frozen? ⟨b,0,MH⟩=Nb/\w.frozen? ⟨b,1,MH⟩=Nb/\w.frozen? ⟨b,2,MH⟩=Nb/\w.frozen? ⟨b,3,MH⟩=Nb/\b<w.heap.size
theorem aqD{b:Nat}(h:w.heap[b]?=MI (alc (0,Nb,0,0))):ajX w b :=
 ⟨by rw[MW w _ 0 _ _ (0,0) h];rfl,by rw[MW w _ 1 _ _ (0,0) h];rfl,by rw[MW w _ 2 _ _ (0,0) h];rfl,by rw[MW w _ 3 _ _ (0,0) h];rfl,by simp[Ng,h],by simp[Ng,h],by simp[Ng,h],by simp[Ng,h],(Array.getElem?_eq_some_iff.1 h).1⟩
theorem aqC{a:MO}{b:Nat}(h:MQ B a w)(hb:B<=b)(t:awY):MQ B a (aqB w b t):=
 (((h.setCell (p:=⟨b,0,MH⟩) hb _).setCell (p:=⟨b,1,MH⟩) hb _).setCell (p:=⟨b,2,MH⟩) hb _).setCell (p:=⟨b,3,MH⟩) hb _
theorem aqa(h:OR base w g V G)(hbs:Bs G)(hw:G.wnow=G.now)(hl:G.out.length<=800000)(e:Ev) :
  Ni MK 58 #[gP g,acH e] w (aam base w g V (aaq G e)):=by
 obtain⟨O,a⟩:∃O,O=aaq G e:=⟨_,rfl⟩;rw[<-a];unfold aaq at a;simp only[]at a;obtain⟨⟨⟨F,E,C,A⟩,c⟩,a0⟩:∃o,o=Yj G.tab e.slot e.gen:=⟨_,rfl⟩;rw[<-a0]at a;simp only[]at a;obtain⟨W,hW⟩:∃W,W=(w.alloc (aaE e)).alloc (afN e.slot e.gen):=⟨_,rfl⟩;have M:=acu w (aaE e) (afN e.slot e.gen);rw[<-hW]at M;obtain⟨a7,Q,hB,c6⟩:=M;have K:=h.below hB;have c9:=K.Gs;have c7:=h.lt;have b0:=K.lt;have y0:W.cell? ⟨w.heap.size+1,0,MH⟩=MI (MF ME e.slot):=by rw[MW W _ 0 _ _ (0,0) Q];rfl
 have y1:W.cell? ⟨w.heap.size+1,1,MH⟩=MI (MF ME e.gen):=by rw[MW W _ 1 _ _ (0,0) Q];rfl
 have c3:w.heap.size+1<W.heap.size:=(Array.getElem?_eq_some_iff.1 Q).1;have HG:M6 ((∀X,MQ W.heap.size W X->X.heap[W.heap.size]?=MI (alc (0,Nb,0,0))->Ni MK 20 #[Ny #[MG V.pt G.tab.length V.ct],Ny #[MF ME e.slot,MF ME e.gen]] X fun r w'=>r=MN (Nv #[Ny #[MF ME F,M3 E,MF ME C,MF ME A],MF ME c])/\ajX w' W.heap.size /\
   ∃D u,D=W.heap.size/\u=((((w'.setCell ⟨W.heap.size,0,MH⟩ (MF ME F)).setCell ⟨W.heap.size,1,MH⟩ (M3 E)).setCell ⟨W.heap.size,2,MH⟩ (MF ME C)).setCell ⟨W.heap.size,3,MH⟩ (MF ME A))/\M6 (MQ W.heap.size W u)) /\
   (∀X,MQ W.heap.size W X->Ni MK 20 #[Ny #[MG V.pt G.tab.length V.ct],Ny #[MF ME e.slot,MF ME e.gen]] X fun r w'=>r=MN (Nv #[Ny #[MF ME F,M3 E,MF ME C,MF ME A],MF ME c]) /\
   ∃D u,D=w'.heap.size/\u=w'.alloc (MP #[MF ME F,M3 E,MF ME C,MF ME A] 79)/\M6 (MQ W.heap.size W u))):=by
  have a4:∀X,MQ W.heap.size W X->Ni MK 20 #[Ny #[MG V.pt G.tab.length V.ct],Ny #[MF ME e.slot,MF ME e.gen]] X fun r w'=>r=MN (Nv #[Ny #[MF ME F,M3 E,MF ME C,MF ME A],MF ME c])/\MQ X.heap.size X w':=by
   intro X y;refine(ai5 _ G.tab e.slot e.gen X (K.rest.tab.now.below y)).mono ?_;rw[<-a0];exact fun r w' h=>h
  constructor
  ·intro X y hR
   refine(a4 X y).mono ?_;rintro r w' ⟨rfl,hb⟩;have c1:=WO hR hb;have P:=y.trans (hb.mono y.size);exact⟨rfl,aqD c1,_,_,rfl,rfl,aqC P (MV _) (F,E,C,A)⟩
  ·intro X y
   refine(a4 X y).mono ?_;rintro r w' ⟨rfl,hb⟩;have P:=y.trans (hb.mono y.size);exact⟨rfl,_,_,rfl,rfl,P.trans ((WQ w' (o:=MP #[MF ME F,M3 E,MF ME C,MF ME A] 79)).mono P.size)⟩
 have H:M6 (_/\_/\_/\_/\_/\_/\_):=⟨K,hbs,hw,hl,a,a0,hB⟩;have HR:M6 (_/\_):=⟨a7,h⟩;clear h hbs hw hl a a0 hB a7 Q K c6;go_enter Tq,Te
 go_wp2_with fail
 rw[<-hW];clear hW;apply adX
 ·intro d0
  go_region_with (first|(go_at_call 20;refine(HG.out.1 _ (by first|exact(WQ _).drew|exact WQ _) (by first|exact M1 _ _|(show(World.alloc _ _).heap[_]?=_;exact heap_alloc_new _ _))).mono ?_;rintro r w2 ⟨rfl,⟨s0,s1,s2,s3,z0,z1,z2,z3,b8⟩,D,u,a2,a1,J⟩)|(go_at_call 20;refine(HG.out.2 _ (by first|exact(MY _ _).drew|exact Below.refl _ _)).mono ?_;rintro r w2 ⟨rfl,D,u,a2,a1,J⟩))
  all_goals
   rw[<-a1]
   try rw[<-a2]
   clear a1 a2
   try clear s0 s1 s2 s3 z0 z1 z2 z3 b8
   revert D u;exact d0.out
 intro D u J;clear c9 y0 y1 c3 b0 HG c7;have z:=H.out.1.below J.out;have T:WV V V g w u:=(WV.F5 H.out.2.2.2.2.2.2).below J.out;have S:=WO HR.out.1 J.out;obtain⟨k0,_,k2,k3,k4,_,_,_,a5⟩:=abP S;have a9:=z.lt
 by_cases hc:c=0
 ·subst hc
  have a:=H.out.2.2.2.2.1;rw[Nf (by decide)]at a;have b9:=H.out.2.1.Jv (s:=e.slot) (g:=e.gen) (by rw[<-H.out.2.2.2.2.2.1]);obtain⟨i,U⟩:∃i,i=aaF G.fls e.slot:=⟨_,rfl⟩;obtain⟨f,a8,hi,a3⟩:=apj H.out.2.1 b9 U;rw[<-U]at a;rw[a3]at a;obtain⟨bf,hp,_,c2⟩:=z.bf (Pb (Nx _) hi);have I:M6 (_/\_/\_/\_/\_):=⟨ahm z hi U.symm hp H.out.2.1.Gb,z,T,S,a⟩;have x:M6 (_/\_/\_/\_):=⟨hi,a3,hp,a8⟩;clear z T S a hi a3 hp c2 a8 U
  go_wp2_with fail
  refine Nd I.out.1 ?_;rintro r w4 ⟨rfl,Y⟩;have Z:=I.out.2.1.below Y;have a6:=WO I.out.2.2.2.1 Y;have M:=Z.Gw x.out.2.2.1 x.out.1;rw[x.out.2.1]at M;obtain⟨x0,x1,x2,x3,x4,x5,x6⟩:=M;clear k0 k2 k3 k4 a5 a9;obtain⟨k0,_,_,_,k4,_,_,_,a5⟩:=abP a6;have d1:=Z.lt;have t:M6 (_/\_):=⟨Z,I.out.2.2.1.below Y⟩;clear Z a6 Y;have a:=I.out.2.2.2.2
  by_cases h3:e.kind=3
  ·rw[Nh h3]at a
   rw[h3]at k0;have d:M6 (_/\_):=⟨adY t.out.1 H.out.2.1 x.out.2.2.2 (by have:=H.out.2.2.2.1;omega) 7 0,a⟩;clear a h3
   go_wp2_with fail
   refine Nd d.out.1 ?_;rintro r N ⟨rfl,q,p,j,m⟩;have b:M6 (_/\_/\_):=⟨p,j,t.out.2.F0 m⟩;clear p j m;go_wp2
   go_end0
   rw[d.out.2];exact⟨rfl,q,b.out.1,b.out.2.1,b.out.2.2⟩
  ·rw[Nf h3]at a
   have c0:(e.kind == 3)=false:=by rw[Oh];exact h3
   by_cases h2:e.kind=2
   ·rw[Nh h2]at a
    rw[h2]at k0;have d:M6 (_/\_):=⟨ao4 t.out.1 H.out.2.1 H.out.2.2.1 (by have:=H.out.2.2.2.1;omega) x.out.1 x.out.2.2.1,a⟩;clear a h3 c0 h2
    go_wp2_with fail
    refine Nd d.out.1 ?_;rintro r N ⟨rfl,q,p,j,m⟩;have b:M6 (_/\_/\_):=⟨p,j,t.out.2.F0 m⟩;clear p j m;go_wp2
    go_end0
    rw[d.out.2];exact⟨rfl,q,b.out.1,b.out.2.1,b.out.2.2⟩
   ·rw[Nf h2]at a
    have d2:(e.kind == 2)=false:=by rw[Oh];exact h2
    cases hs:f.srv
    ·rw[hs]at x4 a
     rw[Nf (by decide)]at a;cases hg:e.good
     ·rw[hg]at k4 a
      rw[Nf (by decide)]at a;have d:M6 (_/\_):=⟨akl t.out.1 H.out.2.1 H.out.2.2.1 H.out.2.2.2.1 x.out.1 x.out.2.2.1 3,a⟩;clear a h3 h2
      go_wp2_with fail
      refine Nd d.out.1 ?_;rintro r N ⟨rfl,q,p,j,m⟩;have b:M6 (_/\_/\_):=⟨p,j,t.out.2.F0 m⟩;clear p j m;go_wp2
      go_end0
      rw[d.out.2];exact⟨rfl,q,b.out.1,b.out.2.1,b.out.2.2⟩
     ·rw[hg]at k4 a
      rw[Nh rfl]at a;have d:M6 (_/\_):=⟨aqy t.out.1 H.out.2.1 H.out.2.2.1 (by have:=H.out.2.2.2.1;omega) x.out.1 x.out.2.2.1,a⟩;clear a h3 h2
      go_wp2_with fail
      refine Nd d.out.1 ?_;rintro r N ⟨rfl,q,p,j,m⟩;have b:M6 (_/\_/\_):=⟨p,j,t.out.2.F0 m⟩;clear p j m;go_wp2
      go_end0
      rw[d.out.2];exact⟨rfl,q,b.out.1,b.out.2.1,b.out.2.2⟩
    ·rw[hs]at x4 a
     rw[Nh rfl]at a;have d:M6 (_/\_):=⟨aho (af1 t.out.1 (by have:=H.out.2.2.2.1;omega) 10 7),a⟩;clear a h3 h2
     go_wp2_with fail
     refine Nd d.out.1 ?_;rintro r N ⟨rfl,q,p,j,m⟩;have b:M6 (_/\_/\_):=⟨p,j,t.out.2.F0 m⟩;clear p j m;go_wp2
     go_end0
     rw[d.out.2];exact⟨rfl,q,b.out.1,b.out.2.1,b.out.2.2⟩
 ·have d3:(c != 0)=true:=by simpa using hc
  have a:=H.out.2.2.2.2.1;rw[Nh hc]at a;have d:M6 (_/\_/\_):=⟨aho (af1 z (by have:=H.out.2.2.2.1;omega) 10 c),a,T⟩;clear a hc z T S
  go_wp2_with fail
  refine Nd d.out.1 ?_;rintro r N ⟨rfl,q,p,j,m⟩;have b:M6 (_/\_/\_):=⟨p,j,d.out.2.2.F0 m⟩;clear p j m;go_wp2
  go_end0
  rw[d.out.2.1];exact⟨rfl,q,b.out.1,b.out.2.1,b.out.2.2⟩
end
section
variable {base:Nat}{w:MO}{g:Nat}{V:Vs}{G:Gt}
abbrev acD(a b:M7):Obj:=MP #[a,b] 47
theorem aj3{a b:M7}(h:Yw B w va vb L R)(hk:k<B):Yw B ((w.setCell ⟨k,0,MH⟩ a).setCell ⟨k,1,MH⟩ b) va vb L R:=by
 have d:∀x,B<=x->((w.setCell ⟨k,0,MH⟩ a).setCell ⟨k,1,MH⟩ b).heap[x]?=w.heap[x]?:=fun x hx=>by
  have c:x≠k:=by omega
  rw[MU _ _ _ _ c,MU _ _ _ _ c]
 exact⟨⟨aat.Gf h.1.1 (by simp) fun x hx=>d x (h.2.1 x hx),aat.Gf h.1.2 (by simp) fun x hx=>d x (h.2.2 x hx)⟩,h.2⟩
theorem aj2(h:Yw B w va vb L R)(hb:MQ w.heap.size w w'):Yw B w' va vb L R:=⟨h.1.below hb,h.2⟩
theorem afF{A:Nat}(h:Yw B w va vb L R)(hb:A<=B):Yw A w va vb L R:=⟨h.1,fun b e=>Nm hb (h.2.1 b e),fun b e=>Nm hb (h.2.2 b e)⟩
def aog(base:Nat)(w:MO)(g:Nat)(V:Vs)(G':Gt)(b:Bool)(r:Ending)(w':MO):Prop :=
 r=MN (M3 b)/\∃V',OR base w' g V' G'/\(V'.pf=V.pf/\V'.cf=V.cf/\V'.bh=V.bh)/\WV V V' g w w'
abbrev ak2(a b c d e:Int):Obj:=MP #[MF ME a,MF ME b,MF ME c,MF ME d,MF ME e] 150
theorem aok(hb:MQ W.heap.size W w5)(hk:Yw X.heap.size w5 va vb L R)(hs:W.heap.size<=X.heap.size):
  ∃bx u3,bx=w5.heap.size/\u3=w5.alloc (acD va vb)/\M6 (MQ W.heap.size W u3/\u3.heap[bx]?=MI (acD va vb)/\W.heap.size<=bx/\Yw W.heap.size u3 va vb L R):=
 ⟨_,_,rfl,rfl,hb.trans ((WQ w5).mono hb.size),M1 _ _,hb.size,afF (aj2 hk (WQ w5)) hs⟩
theorem aol(hT:X.heap[W.heap.size]?=MI (acD (MG MH 0 0) (MG MH 0 0)))(hX:MQ X.heap.size X w5)(hb:MQ W.heap.size W w5)(hk:Yw X.heap.size w5 va vb L R):
  ∃bx u3,bx=W.heap.size/\u3=(w5.setCell ⟨W.heap.size,0,MH⟩ va).setCell ⟨W.heap.size,1,MH⟩ vb/\M6 (MQ W.heap.size W u3/\u3.heap[bx]?=MI (acD va vb)/\W.heap.size<=bx/\Yw W.heap.size u3 va vb L R):=by
 have a:W.heap.size<X.heap.size:=(Array.getElem?_eq_some_iff.1 hT).1;exact⟨_,_,rfl,rfl,afD hb (MV _) 0 1 _ _,acb (WO hT hX),MV _,afF (aj3 hk a) (PJ a)⟩
theorem ajZ(h:OR base w g V G)(hl:G.out.length<=1000000)(kind:Int)(e:Ev) :
  Ni MK 59 #[gP g,MF ME kind,acH e] w (aog base w g V (Yv G kind e) (acC G kind e)):=by
 obtain⟨⟨⟨x,u⟩,I,S,er⟩,N⟩:∃O,O=YV G kind e:=⟨_,rfl⟩;have b0:Yv G kind e=ZM {G with liv:=x,req:=u} ⟨8,0,0,0,e.req,I,0⟩:=by unfold Yv;rw[<-N]
 have a0:acC G kind e=(S && (I == 0)):=by unfold acC;rw[<-N]
 rw[b0,a0];obtain⟨W,Y⟩:∃W,W=(w.alloc (aaE e)).alloc (ak2 e.req kind e.be e.wt 0):=⟨_,rfl⟩;have hx:=acu w (aaE e) (ak2 e.req kind e.be e.wt 0);rw[<-Y]at hx;obtain⟨a5,j,Z,c2⟩:=hx;have i:=h.below Z;have a9:=i.Gn;have a2:=i.GD;have a7:=i.Gm;have c5:=i.c5;have d5:=h.lt;have E:=i.lt;have y0:W.cell? ⟨w.heap.size+1,0,MH⟩=MI (MF ME e.req):=by rw[MW W _ 0 _ _ (0,0) j];rfl
 have y1:W.cell? ⟨w.heap.size+1,1,MH⟩=MI (MF ME kind):=by rw[MW W _ 1 _ _ (0,0) j];rfl
 have y2:W.cell? ⟨w.heap.size+1,2,MH⟩=MI (MF ME e.be):=by rw[MW W _ 2 _ _ (0,0) j];rfl
 have y3:W.cell? ⟨w.heap.size+1,3,MH⟩=MI (MF ME e.wt):=by rw[MW W _ 3 _ _ (0,0) j];rfl
 have y4:W.cell? ⟨w.heap.size+1,4,MH⟩=MI (MF ME 0):=by rw[MW W _ 4 _ _ (0,0) j];rfl
 have A:w.heap.size+1<W.heap.size:=(Array.getElem?_eq_some_iff.1 j).1;have HK:M6 (∀X,MQ W.heap.size W X->Ni MK 100 #[Ny #[MG V.pl G.liv.length V.cl,MG V.pr G.req.length V.cr],Ny #[MF ME e.req,MF ME kind,MF ME e.be,MF ME e.wt,MF ME 0],MF ME G.now,MF ME G.cfg.drain] X fun r w'=>∃p c q m,r=MN (Nv #[Ny #[MG p x.length c,MG q u.length m],MF ME I,M3 S,MF ME er]) /\
    M6 (MQ X.heap.size X w'/\MQ W.heap.size W w'/\Yw X.heap.size w' (MG p x.length c) (MG q u.length m) x u/\W.heap.size<=X.heap.size)/\(∀n,n<X.heap.size->n<w'.heap.size)/\(∀b o,b<X.heap.size->w'.cell? ⟨b,o,MH⟩=X.cell? ⟨b,o,MH⟩)/\(∀b o,b<X.heap.size->w'.frozen? ⟨b,o,MH⟩=X.frozen? ⟨b,o,MH⟩)):=fun X hX=>by
  refine(arO _ _ G.liv G.req e.req kind e.be e.wt 0 G.now G.cfg.drain X (i.below hX).rest.book.now).mono ?_;have c0:ZU G.liv G.req (e.req,kind,e.be,e.wt,0) G.now G.cfg.drain=((x,u),I,S,er):=N.symm;rw[c0];rintro r w' ⟨p,c,q,m,rfl,P,K⟩;exact⟨p,c,q,m,rfl,⟨K,hX.trans (K.mono hX.size),P,hX.size⟩,fun n hn=>M8 hn K.size,fun b o hb'=>K.cell (p:=⟨b,o,MH⟩) hb',fun b o hb'=>OM (a:=⟨b,o,MH⟩) (K.block b hb')⟩
 have y:M6 (∀X,MQ W.heap.size W X->X.cell? ⟨g,19,MH⟩=MI (MG V.pl G.liv.length V.cl)/\X.cell? ⟨g,20,MH⟩=MI (MG V.pr G.req.length V.cr)/\X.cell? ⟨g,16,MH⟩=MI (MF ME G.now)/\X.cell? ⟨g,5,MH⟩=MI (MF ME G.cfg.drain)/\X.cell? ⟨w.heap.size+1,0,MH⟩=MI (MF ME e.req)/\X.cell? ⟨w.heap.size+1,1,MH⟩=MI (MF ME kind)/\X.cell? ⟨w.heap.size+1,2,MH⟩=MI (MF ME e.be)/\X.cell? ⟨w.heap.size+1,3,MH⟩=MI (MF ME e.wt)/\X.cell? ⟨w.heap.size+1,4,MH⟩=MI (MF ME 0)/\MQ W.heap.size W X):=fun X hX =>
  ⟨(hX.cell E).trans a9,(hX.cell E).trans a2,(hX.cell E).trans a7,(hX.cell E).trans c5,(hX.cell A).trans y0,(hX.cell A).trans y1,(hX.cell A).trans y2,(hX.cell A).trans y3,(hX.cell A).trans y4,hX⟩
 have H:M6 (_/\_/\_/\_):=⟨i,hl,WV.F5 (V:=V) (g:=g) Z,a5⟩;clear N b0 a0 Z a5 j c2 i h hl;go_enter Tryz.func59,Tryz.ntmps59
 go_wp2_with fail
 rw[<-Y];clear Y;apply adX
 ·intro b8
  go_region_held3 (fun X=>X.cell? ⟨g,19,MH⟩=MI (MG V.pl G.liv.length V.cl)/\X.cell? ⟨g,20,MH⟩=MI (MG V.pr G.req.length V.cr)/\X.cell? ⟨g,16,MH⟩=MI (MF ME G.now)/\X.cell? ⟨g,5,MH⟩=MI (MF ME G.cfg.drain)/\X.cell? ⟨w.heap.size+1,0,MH⟩=MI (MF ME e.req)/\X.cell? ⟨w.heap.size+1,1,MH⟩=MI (MF ME kind)/\X.cell? ⟨w.heap.size+1,2,MH⟩=MI (MF ME e.be)/\X.cell? ⟨w.heap.size+1,3,MH⟩=MI (MF ME e.wt)/\X.cell? ⟨w.heap.size+1,4,MH⟩=MI (MF ME 0)/\MQ W.heap.size W X) (first|exact y.out _ ((MY _ _).drew)|exact y.out _ (((MY _ _).drew).alloc (by simp) _)|exact y.out _ d.out.2.1|exact y.out _ (d.out.2.1.alloc d.out.2.1.size _)|exact y.out _ (((MY _ _).alloc (MV _) _).drew)|exact y.out _ (afD d.out.2.1 (MV _) 0 1 _ _)) (first|(go_at_call 100;refine(HK.out _ ?hbW).mono ?_;(case hbW=>first|with_reducible assumption|exact(MY _ _).drew|exact((MY _ _).drew).alloc (by simp) _|exact((Below.refl _ _).alloc (Nat.le_refl _) _).drew);rintro r w5 ⟨p,c,q,m,rfl,d,c3,c6,c1⟩))
  all_goals
   clear c3 c6 c1;rename_i hHe;clear hHe
   first
   | (obtain⟨t,f,s,F,Q⟩:=aok d.out.2.1 d.out.2.2.1 d.out.2.2.2
      rw[<-F]
      try rw[<-s]
      clear F s d;revert p c q m t f;exact b8.out)
   | (obtain⟨t,f,s,F,Q⟩:=aol (W:=W) (by first|exact M1 _ _|(show(World.alloc _ _).heap[_]?=_;exact heap_alloc_new _ _)) d.out.1 d.out.2.1 d.out.2.2.1
      rw[<-F]
      try rw[<-s]
      clear F s d;revert p c q m t f;exact b8.out)
 intro p c q m t f Q;clear a9 a2 a7 c5 y0 y1 y2 y3 y4 A E HK y;obtain⟨C,M,s,P⟩:=Q.out;clear Q;have z:=H.out.1.below C;have k0:f.cell? ⟨t,0,MH⟩=MI (MG p x.length c):=by rw[MW f _ 0 _ _ (0,0) M];rfl
 have k1:f.cell? ⟨t,1,MH⟩=MI (MG q u.length m):=by rw[MW f _ 1 _ _ (0,0) M];rfl
 have d3:t<f.heap.size:=(Array.getElem?_eq_some_iff.1 M).1;have d6:=z.Gn;have d7:=z.GD;have d1:=z.fz 19;have d4:=z.fz 20;have c9:=z.lt;obtain⟨T,J⟩:∃T,T=(f.setCell ⟨g,19,MH⟩ (MG p x.length c)).setCell ⟨g,20,MH⟩ (MG q u.length m):=⟨_,rfl⟩;have U:=H.out.1.Iq C P;rw[<-J]at U;have a3:WV V {V with pl:=p,cl:=c,pr:=q,cr:=m} g w T:=by
  rw[J];exact(((H.out.2.2.1.below C).F4 19 _).F4 20 _).Gp fun _ h=>h
 have b9:T.heap[w.heap.size]?=MI (aaE e):=by
  have a6:w.heap.size≠g:=by omega
  rw[J,MU _ _ _ _ a6,MU _ _ _ _ a6];exact WO H.out.2.2.2 C
 obtain⟨_,_,_,_,_,v5,_,_,d2⟩:=abP (WO H.out.2.2.2 C);have d0:¬w.heap.size=g:=by omega
 have c7:¬g=w.heap.size:=by omega
 have H4:M6 (_/\_):=⟨aeR U H.out.2.1 ⟨8,0,0,0,e.req,I,0⟩,a3⟩;clear z U a3 b9 C M P s
 go_wp2_with fail
 rw[<-J];clear J;refine Nd H4.out.1 ?_;rintro r w5 ⟨rfl,V5,a4,a8,a1⟩;have D:M6 (_/\_/\_):=⟨a4,a8,H4.out.2.F0 a1⟩;clear a4 a8 a1;cases S
 ·go_wp2
  go_ret;exact⟨rfl,V5,D.out.1,D.out.2.1,D.out.2.2⟩
 ·go_wp2
  go_ret;exact⟨by simp,V5,D.out.1,D.out.2.1,D.out.2.2⟩
end
section
variable {base:Nat}{w:MO}{g:Nat}{V:Vs}{G:Gt}
theorem akv{r:Ending}{w1:MO}{V1:Vs}(hF:WV V V1 g w w1)(hV:V1.pf=V.pf/\V1.cf=V.cf/\V1.bh=V.bh)(h:aaa base w1 g V1 G' r w'):aaa base w g V G' r w':=by
 obtain⟨d,b,e,a,c⟩:=h;exact⟨d,b,e,⟨a.1.trans hV.1,a.2.1.trans hV.2.1,a.2.2.trans hV.2.2⟩,hF.F0 c⟩
theorem aon(kind:Int)(e:Ev):(Yv G kind e).wts=G.wts/\(Yv G kind e).out.length=G.out.length+1/\(Yv G kind e).cfg=G.cfg:=⟨rfl,by show(G.out++[_]).length=_;simp,rfl⟩
theorem aqn(h:OR base w g V G)(him:Im G)(hl:G.out.length<=900000)(e:Ev)(he:XZ e) :
  Ni MK 60 #[gP g,acH e] w (aaa base w g V (abg G e)):=by
 obtain⟨O,d⟩:∃O,O=abg G e:=⟨_,rfl⟩;rw[<-d];unfold abg at d;obtain⟨x,hx⟩:∃x,x=WS G.liv e.be:=⟨_,rfl⟩;obtain⟨W,S⟩:∃W,W=w.alloc (aaE e):=⟨_,rfl⟩;have hB:MQ w.heap.size w W:=by rw[S];exact WQ w
 have hR:W.heap[w.heap.size]?=MI (aaE e):=by rw[S];exact M1 _ _
 have hG:=h.below hB;have c6:∀X:MO,(Instr.field 104 (abR x) 1).run MK X=.ok (MF ME x.2.1) X:=fun X=>by kernel_rfl
 obtain⟨_,_,_,_,_,_,z,_,y⟩:=abP hR;have d9:=h.lt;have c2:¬V.own g w.heap.size:=h.rest.new (MV _);have HL:=afR hG e.be;rw[<-hx]at HL;have a3:WY G.liv e.be=x.2.1:=by rw[hx]
 rw[a3]at d;have H:M6 (_/\_/\_/\_/\_/\_/\_/\_):=⟨HL,hG,hR,WV.F5 (V:=V) (g:=g) hB,him,hl,d,a3⟩;have HE:M6 _:=he;have c1:M6 _:=c2;clear HL hG hR hB him hl d a3 h he hx c2;go_enter Tryz.func60,Tryz.ntmps60
 go_wp2_with fail
 rw[<-S];clear S;refine Nd H.out.1 ?_;rintro r w1 ⟨rfl,C⟩;have a6:=H.out.2.1.below C;have K:=WO H.out.2.2.1 C;have P:=H.out.2.2.2.1.below C;clear z y;obtain⟨k0,k1,k2,k3,k4,k5,z,k7,y⟩:=abP K;have E:=ajZ a6 (by have:=H.out.2.2.2.2.2.1;omega) 2 e;obtain⟨b,T⟩:∃b,b=acC G 2 e:=⟨_,rfl⟩;have d:=H.out.2.2.2.2.2.2.1;rw[<-T]at E d;have HB:M6 _:=T;cases b
 ·rw[Nh rfl]at d
  have o:M6 (_/\_/\_):=⟨E,P,d⟩;clear E P d T a6 K C
  go_wp2_with fail
  refine Nd o.out.1 ?_;rintro r U ⟨rfl,m,i,s,q⟩;have f:M6 (_/\_/\_):=⟨i,s,o.out.2.1.F0 q⟩;clear i s q;go_wp2
  go_end0
  rw[o.out.2.2];exact⟨rfl,m,f.out.1,f.out.2.1,f.out.2.2⟩
 ·rw[Nf (by decide)]at d
  have o:M6 (_/\_/\_/\_):=⟨E,P,d,K⟩;clear E P d T a6 K C
  go_wp2_with fail
  refine Nd o.out.1 ?_;rintro r U ⟨rfl,m,i,s,q⟩;have M:=q.Gf o.out.2.2.2 c1.out;have d3:=q.Ik (Array.getElem?_eq_some_iff.1 o.out.2.2.2).1 c1.out;clear k0 k1 k2 k3 k4 k5 z k7 y;obtain⟨_,_,_,_,_,k5,z,_,y⟩:=abP M;have j:=aon (G:=G) 2 e;have D:(Yv G 2 e).out.length<=1000000:=by rw[j.2.1];have:=H.out.2.2.2.2.2.1;omega
  have J:=o.out.2.1.F0 q;have d:=o.out.2.2.1;obtain⟨Y,I⟩:∃Y,Y=x.2.1:=⟨_,rfl⟩;rw[<-I]at d⊢
  by_cases h1:Y=1
  ·rw[Nh h1]at d
   subst h1;have f:M6 (_/\_/\_/\_):=⟨alj i D e.be e.req,s,J,d⟩;clear i s q J d M D j I c6
   go_wp2_with fail
   refine Nd f.out.1 ?_;rintro r w3 ⟨rfl,V3,F⟩;have H3:M6 _:=F;clear F;go_wp2
   go_end0
   rw[f.out.2.2.2];exact akv f.out.2.2.1 f.out.2.1 ⟨rfl,V3,H3.out⟩
  ·rw[Nf h1]at d
   have d8:(Y == 1)=false:=beq_eq_false_iff_ne.2 h1;have a5:=ahC H.out.2.2.2.2.1.bs (e:=e) HE.out.req;rw[<-HB.out]at a5;obtain⟨u,Q⟩:=NL HE.out.be.1;have a0:u<12:=by have:=HE.out.be.2;omega
   have a1:WY G.liv e.be=2:=by
    rcases a5 with⟨h,_⟩|⟨_,_,_,h,_⟩
    ·cases h
    ·rcases h with h|h
     ·rw[H.out.2.2.2.2.2.2.2,<-I]at h;exact absurd h h1
     ·exact h
   have a7:0<G.wts.getD u 0:=by
    have h2:=H.out.2.2.2.2.1.ring u a0;rw[h2,<-Q,Nh a1];have:=H.out.2.2.2.2.1.bs.Iv (b:=e.be) (by rw[a1];decide);omega
   obtain⟨A,hA⟩:∃A,A=Yv G 2 e:=⟨_,rfl⟩;rw[<-hA]at i D j d;have b8:e.be.toNat=u:=by rw[Q];rfl
   rw[b8]at d;have b9:XI A.wts:=by rw[j.1];exact H.out.2.2.2.2.1.bs.wts
   have a8:=i.GX;have c9:=i.lt;rw[j.1]at a8;have a4:OR base U g m {A with wts:=G.wts}:=by rw[<-j.1];exact i
   have c7:M6 (∀X,MQ U.heap.size U X->Ni MK 104 #[Ny #[MG m.ps (WW G.wts).length m.cs],MF ME e.be] X fun r w'=>∃p c n,r=MN (Nv #[Ny #[MG p n c],MF ME 0])/\w'.cell? ⟨g,21,MH⟩=MI (MG m.ps (WW G.wts).length m.cs)/\w'.frozen? ⟨g,21,MH⟩=Nb/\g<w'.heap.size /\
     ∃t,t=w'.setCell ⟨g,21,MH⟩ (MG p n c)/\M6 (OR base t g {m with ps:=p,cs:=c} {A with wts:=G.wts.set u 0}/\WV V {m with ps:=p,cs:=c} g w t/\t.heap[w.heap.size]?=MI (aaE e))):=by
    intro X Z;rw[Q];refine(at1 _ G.wts u X (by rw[<-j.1];exact b9) (by rw[<-j.1];exact(i.below Z).rest.ring.now) a0 a7).mono ?_;rintro r w' ⟨p,c,rfl,ho,d2⟩;have N:=Z.trans (d2.mono Z.size);have a2:=a4.below N;have d5:=a4.IJ (a:=G.wts.set u 0) N (ho.mono Z.size);refine⟨p,c,_,rfl,a2.GX,a2.fz 21,a2.lt,_,rfl,d5,((J.below N).F4 21 _).Gp fun _ h=>h,?_⟩;have d1:w.heap.size≠g:=by omega
    rw[MU _ _ _ _ d1];exact WO M N
   have f:M6 (_/\_/\_):=⟨s,d,D⟩;clear i s q J d M D j I c6 a4 b9 a7 a1 a5 hA h1 d3 b8 Q a0
   go_wp2_with fail
   apply adX
   ·intro d7
    go_region_with (first|(go_at_call 104;refine(c7.out _ (by first|exact(MY _ _).drew|exact Below.refl _ _)).mono ?_;rintro r w3 ⟨p,c,n,rfl,d4,d6,d0,t,b0,hQ⟩))
    all_goals
     rw[<-b0];clear b0 d4 d6 d0;revert p c n t;exact d7.out
   intro p c n t hQ;obtain⟨c3,c0,a9⟩:=hQ.out;clear hQ c7 a8 c9 k5 z y;obtain⟨_,_,_,_,_,_,z,_,y⟩:=abP a9;have H4:M6 (_/\_):=⟨ahg c3 f.out.2.2 e.be,c0⟩;clear c3 c0 a9
   go_wp2_with fail
   refine Nd H4.out.1 ?_;rintro r w5 ⟨rfl,V5,F⟩;have H5:M6 _:=F;clear F;go_wp2
   go_end0
   rw[f.out.2.1];exact akv H4.out.2 f.out.1 ⟨rfl,V5,H5.out⟩
end
section
variable {base:Nat}{w:MO}{g:Nat}{V:Vs}{G:Gt}
theorem aeJ{g:Nat}{V V':Vs}(h:aaf w v l)(hF:WV V V' g w w')(hn:∀b,v.ownBlock=MI b->¬V.own g b):aaf w' v l:=by
 obtain⟨a,j,f,m,p,c⟩:=h;refine⟨a,j,f,m,p,?_⟩;rcases c with c|⟨b,off,d,e,o⟩
 ·exact Nt c
 ·refine NF ⟨b,off,d,M8 e hF.size,fun i hi=>?_⟩
  rw[<-o i hi];have:=hF.block b e (hn b (by rw[f,d];rfl));simp only[Nl,this]
theorem aq3(h:Im G)(hk:k<(XW G.liv).length):∃b:Nat,b<12/\(XW G.liv)[k]=(b:Int)/\¬0<(((XW G.liv).take k).foldl YX {G with liv:=G.liv.map (XH G.now)}).wts.getD b 0:=by
 have z:=Nk hk;obtain⟨x,m,t,i⟩:=ad2.1 z;have q:=(h.bs.lf m).1.1;rw[<-i];obtain⟨b,a⟩:=NL q.1;refine⟨b,by omega,a,?_⟩;have o:∀c∈(XW G.liv).take k,0<=c/\c<12:=fun c d=>by
  obtain⟨y,u,_,e⟩:=ad2.1 (List.mem_of_mem_take d);have:=(h.bs.lf u).1.1;omega
 have f:=alq (L:=G.liv) h.bs.Gv;rw[aln _ {G with liv:=G.liv.map (XH G.now)} h.bs.wts.1 o (f.sublist (List.take_sublist _ _)) b (by omega)];have r:(b:Int)∉ (XW G.liv).take k:=by
  rw[<-a,i];intro d;obtain⟨j,s,e⟩:=List.mem_iff_getElem.1 d;rw[List.getElem_take]at e;rw[NH]at s;exact List.pairwise_iff_getElem.1 f j k (by omega) hk (by omega) e
 rw[Nf r];show ¬0<G.wts.getD b 0;rw[h.ring b (by omega),<-a];have p:WY G.liv x.1=1:=by show(WS G.liv x.1).2.1=1;rw[abd h.bs.Gv m];exact t
 rw[Nf (by rw[p];decide)]
 decide
theorem aqZ{vs:M7}(hb:MQ W.heap.size W w5)(hk:Yw X.heap.size w5 va vb L R)(hs:W.heap.size<=X.heap.size)(hi:aaf w5 vs l)(hn:∀b,vs.ownBlock=MI b->X.heap.size<=b):
  ∃bx u3,bx=w5.heap.size/\u3=w5.alloc (acD va vb)/\M6 (MQ W.heap.size W u3/\u3.heap[bx]?=MI (acD va vb)/\W.heap.size<=bx/\Yw W.heap.size u3 va vb L R/\aaf u3 vs l/\∀b,vs.ownBlock=MI b->W.heap.size<=b):=
 ⟨_,_,rfl,rfl,hb.trans ((WQ w5).mono hb.size),M1 _ _,hb.size,afF (aj2 hk (WQ w5)) hs,aat.below hi (WQ w5),fun b e=>Nm hs (hn b e)⟩
theorem aq0{vs:M7}(hT:X.heap[W.heap.size]?=MI (acD (MG MH 0 0) (MG MH 0 0)))(hX:MQ X.heap.size X w5)(hb:MQ W.heap.size W w5)(hk:Yw X.heap.size w5 va vb L R)(hi:aaf w5 vs l)(hn:∀b,vs.ownBlock=MI b->X.heap.size<=b):
  ∃bx u3,bx=W.heap.size/\u3=(w5.setCell ⟨W.heap.size,0,MH⟩ va).setCell ⟨W.heap.size,1,MH⟩ vb/\M6 (MQ W.heap.size W u3/\u3.heap[bx]?=MI (acD va vb)/\W.heap.size<=bx/\Yw W.heap.size u3 va vb L R/\aaf u3 vs l/\∀b,vs.ownBlock=MI b->W.heap.size<=b):=by
 have a:W.heap.size<X.heap.size:=(Array.getElem?_eq_some_iff.1 hT).1;refine⟨_,_,rfl,rfl,afD hb (MV _) 0 1 _ _,acb (WO hT hX),MV _,afF (aj3 hk a) (PJ a),aat.Gf hi (by simp) fun b e=>?_,fun b e=>Nm (PJ a) (hn b e)⟩;have c:b≠W.heap.size:=by have:=hn b e;omega
 rw[MU _ _ _ _ c,MU _ _ _ _ c]
theorem aq1(b:Nat):YX G (b:Int)={G with hea:=G.hea.set b XM,wts:=G.wts.set b (WS G.liv (b:Int)).2.2.1}:=rfl
theorem aq2(h:OR base w g V G)(him:Im G) :
  Ni MK 106 #[gP g] w (aaa base w g V (YH G)):=by
 rw[af3 him.bs];have d0:abn G.liv G.req G.now=((G.liv.map (XH G.now),G.req),XW G.liv,0):=amf him.bs.book him.bs.GN;obtain⟨d,a1⟩:∃d,d=XW G.liv:=⟨_,rfl⟩;obtain⟨C,Z⟩:∃C,C=G.liv.map (XH G.now):=⟨_,rfl⟩;have d6:∀(k:Nat) (hk:k<d.length),∃b:Nat,b<12/\d[k]=(b:Int)/\¬0<((d.take k).foldl YX {G with liv:=C}).wts.getD b 0:=by rw[a1,Z];exact fun k hk=>aq3 him hk
 have e5:∀b∈d,WY C b≠0:=by rw[a1,Z];exact fun b z=>by rw[alr him.bs z];decide
 have d8:Bs {G with liv:=C}:=by rw[Z];exact him.bs.IP
 have j4:d.length<=900:=by
  rw[a1];unfold XW;rw[N0];exact Nm (O1 _ _) (by have:=him.bs.book.1.1;omega)
 rw[<-a1,<-Z]at d0⊢;have f6:=h.Gn;have e4:=h.GD;have f5:=h.Gm;have c7:=h.lt;have HK:M6 (∀X,MQ w.heap.size w X->Ni MK 152 #[Ny #[MG V.pl G.liv.length V.cl,MG V.pr G.req.length V.cr],MF ME G.now] X fun r w'=>∃p c q m s k,r=MN (Nv #[Ny #[MG p C.length c,MG q G.req.length m],MG s d.length k,MF ME 0]) /\
    M6 (MQ X.heap.size X w'/\MQ w.heap.size w w'/\Yw X.heap.size w' (MG p C.length c) (MG q G.req.length m) C G.req/\w.heap.size<=X.heap.size/\aaf w' (MG s d.length k) d/\(∀b,(MG s d.length k).ownBlock=MI b->X.heap.size<=b))/\(∀n,n<X.heap.size->n<w'.heap.size)/\(∀b o,b<X.heap.size->w'.cell? ⟨b,o,MH⟩=X.cell? ⟨b,o,MH⟩)/\(∀b o,b<X.heap.size->w'.frozen? ⟨b,o,MH⟩=X.frozen? ⟨b,o,MH⟩)):=fun X hX=>by
  refine(asE _ _ G.liv G.req G.now X (h.below hX).rest.book.now).mono ?_;rw[d0];rintro r w' ⟨p,c,q,m,s,k,rfl,a8,i9,z,f8⟩;exact⟨p,c,q,m,s,k,rfl,⟨z,hX.trans (z.mono hX.size),a8,hX.size,i9,f8⟩,fun n hn=>M8 hn z.size,fun b o Y=>z.cell (p:=⟨b,o,MH⟩) Y,fun b o Y=>OM (a:=⟨b,o,MH⟩) (z.block b Y)⟩
 have T:M6 (∀X,MQ w.heap.size w X->X.cell? ⟨g,19,MH⟩=MI (MG V.pl G.liv.length V.cl)/\X.cell? ⟨g,20,MH⟩=MI (MG V.pr G.req.length V.cr)/\X.cell? ⟨g,16,MH⟩=MI (MF ME G.now)/\MQ w.heap.size w X):=fun X hX =>
  ⟨(hX.cell c7).trans f6,(hX.cell c7).trans e4,(hX.cell c7).trans f5,hX⟩
 have H:M6 (_/\_/\_/\_):=⟨h,d6,e5,d8⟩;clear d6 e5 d8 h him d0 a1 Z;go_enter Ta,SG
 go_wp2_with fail
 apply adX
 ·intro b8
  go_region_held3 (fun X=>X.cell? ⟨g,19,MH⟩=MI (MG V.pl G.liv.length V.cl)/\X.cell? ⟨g,20,MH⟩=MI (MG V.pr G.req.length V.cr)/\X.cell? ⟨g,16,MH⟩=MI (MF ME G.now)/\MQ w.heap.size w X) (first|exact T.out _ ((MY _ _).drew)|exact T.out _ (((MY _ _).drew).alloc (by simp) _)|exact T.out _ A.out.2.1|exact T.out _ (A.out.2.1.alloc A.out.2.1.size _)|exact T.out _ (((MY _ _).alloc (MV _) _).drew)|exact T.out _ (afD A.out.2.1 (MV _) 0 1 _ _)) (first|(go_at_call 152;refine(HK.out _ ?hbW).mono ?_;(case hbW=>first|with_reducible assumption|exact(MY _ _).drew|exact((MY _ _).drew).alloc (by simp) _|exact((Below.refl _ _).alloc (Nat.le_refl _) _).drew);rintro r w5 ⟨p,c,q,m,s,k,rfl,A,g6,g7,i4⟩))
  all_goals
   clear g6 g7 i4;rename_i hHe;clear hHe
   first
   | (obtain⟨Q,i,P,N,O⟩:=aqZ A.out.2.1 A.out.2.2.1 A.out.2.2.2.1 A.out.2.2.2.2.1 A.out.2.2.2.2.2
      rw[<-N]
      try rw[<-P]
      clear N P A;revert p c q m s k Q i;exact b8.out)
   | (obtain⟨Q,i,P,N,O⟩:=aq0 (W:=w) (by first|exact M1 _ _|(show(World.alloc _ _).heap[_]?=_;exact heap_alloc_new _ _)) A.out.1 A.out.2.1 A.out.2.2.1 A.out.2.2.2.2.1 A.out.2.2.2.2.2
      rw[<-N]
      try rw[<-P]
      clear N P A;revert p c q m s k Q i;exact b8.out)
 intro p c q m s k Q i O;clear f6 e4 f5 HK T;obtain⟨K,a6,P,a8,d9,d4⟩:=O.out;clear O;have J:=H.out.1.below K;have k0:i.cell? ⟨Q,0,MH⟩=MI (MG p C.length c):=by rw[MW i _ 0 _ _ (0,0) a6];rfl
 have k1:i.cell? ⟨Q,1,MH⟩=MI (MG q G.req.length m):=by rw[MW i _ 1 _ _ (0,0) a6];rfl
 have d2:Q<i.heap.size:=(Array.getElem?_eq_some_iff.1 a6).1;have i8:=J.Gn;have h7:=J.GD;have g3:=J.fz 19;have g8:=J.fz 20;have c2:=J.lt;obtain⟨u4,a3⟩:∃u4,u4=(i.setCell ⟨g,19,MH⟩ (MG p C.length c)).setCell ⟨g,20,MH⟩ (MG q G.req.length m):=⟨_,rfl⟩;have a9:=H.out.1.Iq K a8;rw[<-a3]at a9;have c9:WV V {V with pl:=p,cl:=c,pr:=q,cr:=m} g w u4:=by
  rw[a3];exact(((WV.F5 K).F4 19 _).F4 20 _).Gp fun _ h=>h
 have c6:∀b,(MG s d.length k).ownBlock=MI b->¬V.own g b:=fun b z=>H.out.1.rest.new (d4 b z)
 have d7:aaf u4 (MG s d.length k) d:=by
  refine aeJ (V:=V) (V':=V) (g:=g) d9 (w':=u4) ?_ c6;rw[a3];exact((WV.Gy V g i).F4 19 _).F4 20 _
 obtain⟨S,c3⟩:∃S:Vs,S={V with pl:=p,cl:=c,pr:=q,cr:=m}:=⟨_,rfl⟩;rw[<-c3]at a9 c9;have f3:S.pf=V.pf/\S.cf=V.cf/\S.bh=V.bh/\S.po=V.po:=by rw[c3];exact⟨rfl,rfl,rfl,rfl⟩
 have U:M6 (_/\_/\_/\_/\_):=⟨a9,c9,d7,c6,f3⟩;clear J a9 c9 K a6 a8 P d9 d7 d4 c6 c3 f3
 go_wp2_with fail
 rw[<-a3];clear a3 i8 h7 g3 g8 k0 k1 d2 c2
 go_loopw [29] (fun t wr=>∃(j:Nat) (V':Vs),t=MF ME (j:Int)/\j<=d.length/\M6 (OR base wr g V' ((d.take j).foldl YX {G with liv:=C})/\(V'.pf=V.pf/\V'.cf=V.cf/\V'.bh=V.bh/\V'.po=V.po)/\WV V V' g w wr/\aaf wr (MG s d.length k) d)) (fun t _=>d.length-(intOf t).toNat)
 case atStart=>exact⟨0,S,rfl,Nx _,U.out.1,U.out.2.2.2.2,U.out.2.1,U.out.2.2.1⟩
 case round =>
  obtain⟨j,V',rfl,hj,D⟩:=hrel;obtain⟨W,hW⟩:∃W,W=wr:=⟨_,rfl⟩;subst hW
  by_cases hlt:j<d.length
  ·have i2:(j:Int)<(d.length:Int):=by omega
   obtain⟨j3,j6,g0,g2,e3,f1⟩:=aaf.F6 D.out.2.2.2;injection g0 with eg1 _ eg3;unfold NE at e3;rw[<-eg3]at g2 e3;clear eg3;obtain⟨b1,o1,g4,i1,z0⟩:=f1 j hlt;obtain⟨f,a5,b0,c0⟩:=H.out.2.1 j hlt;rw[b0]at z0;obtain⟨y,a4⟩:∃y,y=(d.take j).foldl YX {G with liv:=C}:=⟨_,rfl⟩;have b9:(d.take (j+1)).foldl YX {G with liv:=C}=YX y (f:Int):=by
    rw[M9 hlt,Pu,<-a4,b0];rfl
   have d3:=ahR (d.take j) {G with liv:=C};have c1:Bs y:=by rw[a4];exact alm _ _ H.out.2.2.2 fun b z=>H.out.2.2.1 b (List.mem_of_mem_take z)
   have d5:y.liv=C:=by rw[a4];exact d3.2.2.2.1
   obtain⟨x,hx⟩:∃x,x=WS y.liv (f:Int):=⟨_,rfl⟩;have e9:1<=x.2.2.1/\x.2.2.1<=8:=by
    have i6:WY y.liv (f:Int)≠0:=by rw[d5,<-b0];exact H.out.2.2.1 _ (Nk hlt)
    rw[hx];exact(c1.Iv i6).2
   rw[aq1,<-hx]at b9;have F:=D.out.1;rw[<-a4]at F c0;obtain⟨m0,x0,_,_,_,q0,q1,q2,q3,qf,d2⟩:=F.G5 a5;have g9:=F.GI;have i7:=F.G8;have f7:=F.lt;have i0:¬g=V'.bh:=fun e=>F.rest.hg e.symm
   have g1:¬V'.bh=g:=F.rest.hg;have j0:(f:Int)<12:=by omega
   have j5:(0:Int)<=(f:Int):=by omega
   have v0:=qf (f*4);have v1:=qf (f*4+1);have v2:=qf (f*4+2);have v3:=qf (f*4+3);obtain⟨E,a2⟩:∃E,E=(((W.setCell ⟨V'.bh,f*4,MH⟩ (MG MH 0 0)).setCell ⟨V'.bh,f*4+1,MH⟩ (M3 Nb)).setCell ⟨V'.bh,f*4+2,MH⟩ (MF ME 0)).setCell ⟨V'.bh,f*4+3,MH⟩ (MF ME 0):=⟨_,rfl⟩;have I:=F.Ir (x:=XM) (p:=MH) (c:=0) a5 (fun X _ _=>ah2 X);have a7:=D.out.2.2.1.F0 (F.Hz (MY _ _) f (MG MH 0 0) (M3 Nb) (MF ME 0) (MF ME 0) (V'.ms.set f (MH,0)));have e0:aaf E (MG s d.length k) d:=by
    refine aeJ (V:=V') (g:=g) D.out.2.2.2 (V':={V' with ms:=V'.ms.set f (MH,0)}) (w':=E) (by rw[a2];exact F.Hz (MY _ _) f _ _ _ _ _) fun b z M=>U.out.2.2.2.1 b z ?_
    have hv:=D.out.2.1;unfold Vs.own at M⊢;rw[hv.1,hv.2.2.1,hv.2.2.2]at M;exact M
   have I:OR base E g {V' with ms:=V'.ms.set f (MH,0)} {y with hea:=y.hea.set f XM}:=by rw[a2];exact I
   rw[<-a2]at a7;obtain⟨u,d1⟩:∃u:Vs,u={V' with ms:=V'.ms.set f (MH,0)}:=⟨_,rfl⟩;rw[<-d1]at I a7;have a0:u.pf=V.pf/\u.cf=V.cf/\u.bh=V.bh/\u.po=V.po:=by rw[d1];exact D.out.2.1
   have h8:=I.GX;have f9:=I.lt;have j7:∀X:MO,(Instr.field 104 (abR x) 2).run MK X=.ok (MF ME x.2.2.1) X:=fun X=>by kernel_rfl
   have f4:M6 (∀X,MQ E.heap.size E X->Ni MK 102 #[gP g,MF ME (f:Int)] X fun r w'=>r=MN (abR x)/\w'.cell? ⟨g,21,MH⟩=MI (MG u.ps (WW y.wts).length u.cs)/\M6 (MQ E.heap.size E w')):=fun X hX=>by
    refine(afR (I.below hX) (f:Int)).mono ?_;rintro r w' ⟨rfl,z⟩;have e6:=hX.trans (z.mono hX.size);exact⟨by rw[hx],(e6.cell f9).trans h8,e6⟩
   have e7:M6 (∀X,MQ E.heap.size E X->Ni MK 153 #[Ny #[MG u.ps (WW y.wts).length u.cs],MF ME (f:Int),MF ME x.2.2.1] X fun r w'=>∃p c n,r=MN (Nv #[Ny #[MG p n c],MF ME 0])/\w'.cell? ⟨g,21,MH⟩=MI (MG u.ps (WW y.wts).length u.cs)/\w'.frozen? ⟨g,21,MH⟩=Nb/\g<w'.heap.size /\
     ∃i,i=w'.setCell ⟨g,21,MH⟩ (MG p n c)/\M6 (OR base i g {u with ps:=p,cs:=c} {y with hea:=y.hea.set f XM,wts:=y.wts.set f x.2.2.1}/\WV V {u with ps:=p,cs:=c} g w i/\aaf i (MG s d.length k) d)):=fun X hX=>by
    refine(atn _ y.wts f x.2.2.1 X c1.wts (I.below hX).rest.ring.now a5 e9 (Int.not_lt.2 c0)).mono ?_;rintro r w' ⟨p,c,rfl,M,Y⟩;have K:=hX.trans (Y.mono hX.size);have J:=I.below K;have g5:=I.IJ (a:=y.wts.set f x.2.2.1) K (M.mono hX.size);refine⟨p,c,_,rfl,J.GX,J.fz 21,J.lt,_,rfl,g5,((a7.below K).F4 21 _).Gp fun _ h=>h,?_⟩;refine aeJ (V:=u) (g:=g) e0 (V':=u) (((WV.Gy u g E).below K).F4 21 _) fun b z M=>U.out.2.2.2.1 b z ?_
    unfold Vs.own at M⊢;rw[a0.1,a0.2.2.1,a0.2.2.2]at M;exact M
   have H5:M6 (_/\_):=⟨b9,a0⟩;clear I a7 e0 b9 a0 d1 F c1 d5 e9 c0 a4 hx b0 d3 f1 qf a5;subst g4;subst eg1;have j1:M6 _:=D.out.2.2.2
   go_wp2_with fail
   rw[<-a2];clear a2 z0 q0 q1 q2 q3 v0 v1 v2 v3 g9 i7 i0 g1 d2 i1 f7;apply adX
   ·intro b8
    go_region_with (first|(go_at_call 102;refine(f4.out _ (by first|exact(MY _ _).drew|exact Below.refl _ _)).mono ?_;rintro r w4 ⟨rfl,j2,h9⟩)|(go_at_call 153;refine(e7.out _ h9.out).mono ?_;rintro r w3 ⟨p,c,n,rfl,i3,i5,c2,i,N,O⟩))
    all_goals
     rw[<-N];clear N i3 i5 c2;revert p c n i;exact b8.out
   intro p c n i O;have HQ:M6 _:=O.out;clear O f4 e7;go_wp2
   go_roundw
   case rel=>exact⟨j+1,{u with ps:=p,cs:=c},by go_num,hlt,by rw[H5.out.1];exact HQ.out.1,H5.out.2,HQ.out.2.1,HQ.out.2.2⟩
   case measure=>simp[intOf];omega
  ·obtain rfl:j=d.length:=by omega
   have i2:¬(d.length:Int)<(d.length:Int):=by omega
   go_wp2
   go_end0
   have f2:=D.out.1;rw[NT]at f2;exact⟨rfl,V',f2,⟨D.out.2.1.1,D.out.2.1.2.1,D.out.2.1.2.2.1⟩,D.out.2.2.1⟩
end
section
variable {base:Nat}{w:MO}{g:Nat}{V:Vs}{G:Gt}
def aaG(G:Gt)(k:Nat):List He:=(G.hea.take k).map (abO G)++G.hea.drop k
theorem apf:aaG G 0=G.hea:=by simp[aaG]
theorem apc:aaG G G.hea.length=G.hea.map (abO G):=by simp[aaG]
theorem apd(hk:k<G.hea.length):(aaG G k)[k]?=MI G.hea[k]:=by
 unfold aaG;rw[Tw (by simp;omega)];simp[hk,P1 (PJ hk)]
theorem ape(hk:k<G.hea.length):aaG G (k+1)=(aaG G k).set k (abO G G.hea[k]):=by
 unfold aaG;have b:=OK hk;have a:k-((G.hea.take k).map (abO G)).length=0:=by simp;omega
 rw[M9 hk,OI,Pw _ _ (by simp;omega),a,b,ML];simp
theorem aow(h:OR base w g V G)(hbs:Bs G) :
  Ni MK 107 #[gP g] w (aaa base w g V (aaC G)):=by
 have a8:=hbs.hel;have c9:=h.GI;have e3:=h.lt;have e0:=h.G8;have P:∀x∈G.hea,x.marks.length<=16:=fun x hx=>by have:=(hbs.hea x hx).1;have:=hbs.Gx.1.2;omega
 have H:M6 (_/\_/\_/\_):=⟨h,hbs,a8,P⟩;clear h hbs a8 P;go_enter Tryz.func107,Tryz.ntmps107;go_wp2
 go_loopw [10] (fun t wr=>∃(j:Nat) (d:Vs),t=MF ME (j:Int)/\j<=12/\M6 (OR base wr g d {G with hea:=aaG G j}/\(d.pf=V.pf/\d.cf=V.cf/\d.bh=V.bh/\d.ch=V.ch)/\WV V d g w wr)) (fun t _=>12-(intOf t).toNat)
 case atStart=>exact⟨0,V,rfl,by omega,by rw[apf];exact H.out.1,⟨rfl,rfl,rfl,rfl⟩,WV.Gy _ _ _⟩
 case round =>
  obtain⟨j,d,rfl,hj,A⟩:=hrel;obtain⟨W,hW⟩:∃W,W=wr:=⟨_,rfl⟩;subst hW
  by_cases hlt:j<12
  ·have d9:(j:Int)<12:=by omega
   have d8:(0:Int)<=(j:Int):=by omega
   have u:=A.out.1;obtain⟨m,x,em,ex,_,q0,q1,q2,q3,qf,E⟩:=u.G5 hlt;have a1:x=G.hea[j]'(by rw[H.out.2.2.1];exact hlt):=by
    have:=apd (G:=G) (k:=j) (by rw[H.out.2.2.1];exact hlt);exact NC (ex.symm.trans this)
   have a0:aaG G (j+1)=(aaG G j).set j (abO G x):=by rw[a1];exact ape _
   have d1:x.marks.length<=16:=H.out.2.2.2 x (by rw[a1];exact Nk _);have C:=A.out.2.1;have c0:=u.rest.marks j m x em ex;obtain⟨y,hy⟩:∃y,y=abO G x:=⟨_,rfl⟩;have a3:y=afO (Ze G.cfg.wn G.cfg.wf G.cfg.wh x.marks x.out x.till x.times G.now).1:=hy;rw[<-hy]at a0;obtain⟨f,T⟩:∃f,f=W.alloc (MP #[MG m.1 x.marks.length m.2,M3 x.out,MF ME x.till,MF ME x.times] 157):=⟨_,rfl⟩;have D:MQ W.heap.size W f:=by rw[T];exact WQ W
   have J:f.heap[W.heap.size]?=MI (MP #[MG m.1 x.marks.length m.2,M3 x.out,MF ME x.till,MF ME x.times] 157):=by rw[T];exact M1 _ _
   have F:=u.below D;have d5:=A.out.2.2.below D;have a7:¬g=d.bh:=fun e=>u.rest.hg e.symm
   have c6:¬d.bh=g:=u.rest.hg;rw[C.2.2.1]at q0 q1 q2 q3 E a7 c6;have c2:=u.lt;have y0:f.cell? ⟨W.heap.size,0,MH⟩=MI (MG m.1 x.marks.length m.2):=by rw[MW f _ 0 _ _ (0,0) J];rfl
   have y1:f.cell? ⟨W.heap.size,1,MH⟩=MI (M3 x.out):=by rw[MW f _ 1 _ _ (0,0) J];rfl
   have y2:f.cell? ⟨W.heap.size,2,MH⟩=MI (MF ME x.till):=by rw[MW f _ 2 _ _ (0,0) J];rfl
   have y3:f.cell? ⟨W.heap.size,3,MH⟩=MI (MF ME x.times):=by rw[MW f _ 3 _ _ (0,0) J];rfl
   have Q:W.heap.size<f.heap.size:=(Array.getElem?_eq_some_iff.1 J).1;have a4:=F.GS;have a6:=F.GU;have a5:=F.GO;have b9:=F.Gm;have a2:=F.GI;rw[C.2.2.1,C.2.2.2]at a2;have K:=F.lt;have HB:M6 (∀X,MQ f.heap.size f X->Ni MK 113 #[Ny #[MF ME G.cfg.wn,MF ME G.cfg.wf,MF ME G.cfg.wh],abQ m.1 m.2 x,MF ME G.now] X fun r w'=>∃p c Y U,r=MN (Nv #[abQ p c y,M3 Y,MF ME U]) /\
     (w'.cell? ⟨V.bh,j*4,MH⟩=MI (MG m.1 x.marks.length m.2)/\w'.cell? ⟨V.bh,j*4+1,MH⟩=MI (M3 x.out)/\w'.cell? ⟨V.bh,j*4+2,MH⟩=MI (MF ME x.till)/\w'.cell? ⟨V.bh,j*4+3,MH⟩=MI (MF ME x.times)/\w'.frozen? ⟨V.bh,j*4,MH⟩=Nb/\w'.frozen? ⟨V.bh,j*4+1,MH⟩=Nb/\w'.frozen? ⟨V.bh,j*4+2,MH⟩=Nb/\w'.frozen? ⟨V.bh,j*4+3,MH⟩=Nb/\V.bh<w'.heap.size)/\(w'.cell? ⟨g,22,MH⟩=MI (MG (MI ⟨V.bh,0,MH⟩) 12 V.ch)/\w'.cell? ⟨g,13,MH⟩=MI (MF ME G.cfg.wn)/\w'.cell? ⟨g,14,MH⟩=MI (MF ME G.cfg.wf)/\w'.cell? ⟨g,15,MH⟩=MI (MF ME G.cfg.wh)/\w'.cell? ⟨g,16,MH⟩=MI (MF ME G.now)/\w'.cell? ⟨W.heap.size,0,MH⟩=MI (MG m.1 x.marks.length m.2)/\w'.cell? ⟨W.heap.size,1,MH⟩=MI (M3 x.out)/\w'.cell? ⟨W.heap.size,2,MH⟩=MI (MF ME x.till)/\w'.cell? ⟨W.heap.size,3,MH⟩=MI (MF ME x.times))/\(((((w'.setCell ⟨V.bh,j*4,MH⟩ (MG p y.marks.length c)).setCell ⟨V.bh,j*4+1,MH⟩ (M3 y.out)).setCell ⟨V.bh,j*4+2,MH⟩ (MF ME y.till)).setCell ⟨V.bh,j*4+3,MH⟩ (MF ME y.times)).cell? ⟨g,22,MH⟩=MI (MG (MI ⟨V.bh,0,MH⟩) 12 V.ch)/\((((w'.setCell ⟨V.bh,j*4,MH⟩ (MG p y.marks.length c)).setCell ⟨V.bh,j*4+1,MH⟩ (M3 y.out)).setCell ⟨V.bh,j*4+2,MH⟩ (MF ME y.till)).setCell ⟨V.bh,j*4+3,MH⟩ (MF ME y.times)).cell? ⟨g,13,MH⟩=MI (MF ME G.cfg.wn)/\((((w'.setCell ⟨V.bh,j*4,MH⟩ (MG p y.marks.length c)).setCell ⟨V.bh,j*4+1,MH⟩ (M3 y.out)).setCell ⟨V.bh,j*4+2,MH⟩ (MF ME y.till)).setCell ⟨V.bh,j*4+3,MH⟩ (MF ME y.times)).cell? ⟨g,14,MH⟩=MI (MF ME G.cfg.wf)/\((((w'.setCell ⟨V.bh,j*4,MH⟩ (MG p y.marks.length c)).setCell ⟨V.bh,j*4+1,MH⟩ (M3 y.out)).setCell ⟨V.bh,j*4+2,MH⟩ (MF ME y.till)).setCell ⟨V.bh,j*4+3,MH⟩ (MF ME y.times)).cell? ⟨g,15,MH⟩=MI (MF ME G.cfg.wh)/\((((w'.setCell ⟨V.bh,j*4,MH⟩ (MG p y.marks.length c)).setCell ⟨V.bh,j*4+1,MH⟩ (M3 y.out)).setCell ⟨V.bh,j*4+2,MH⟩ (MF ME y.till)).setCell ⟨V.bh,j*4+3,MH⟩ (MF ME y.times)).cell? ⟨g,16,MH⟩=MI (MF ME G.now)/\((((w'.setCell ⟨V.bh,j*4,MH⟩ (MG p y.marks.length c)).setCell ⟨V.bh,j*4+1,MH⟩ (M3 y.out)).setCell ⟨V.bh,j*4+2,MH⟩ (MF ME y.till)).setCell ⟨V.bh,j*4+3,MH⟩ (MF ME y.times)).cell? ⟨W.heap.size,0,MH⟩=MI (MG m.1 x.marks.length m.2)/\((((w'.setCell ⟨V.bh,j*4,MH⟩ (MG p y.marks.length c)).setCell ⟨V.bh,j*4+1,MH⟩ (M3 y.out)).setCell ⟨V.bh,j*4+2,MH⟩ (MF ME y.till)).setCell ⟨V.bh,j*4+3,MH⟩ (MF ME y.times)).cell? ⟨W.heap.size,1,MH⟩=MI (M3 x.out)/\((((w'.setCell ⟨V.bh,j*4,MH⟩ (MG p y.marks.length c)).setCell ⟨V.bh,j*4+1,MH⟩ (M3 y.out)).setCell ⟨V.bh,j*4+2,MH⟩ (MF ME y.till)).setCell ⟨V.bh,j*4+3,MH⟩ (MF ME y.times)).cell? ⟨W.heap.size,2,MH⟩=MI (MF ME x.till)/\((((w'.setCell ⟨V.bh,j*4,MH⟩ (MG p y.marks.length c)).setCell ⟨V.bh,j*4+1,MH⟩ (M3 y.out)).setCell ⟨V.bh,j*4+2,MH⟩ (MF ME y.till)).setCell ⟨V.bh,j*4+3,MH⟩ (MF ME y.times)).cell? ⟨W.heap.size,3,MH⟩=MI (MF ME x.times)) /\
     ∃N,N=((((w'.setCell ⟨V.bh,j*4,MH⟩ (MG p y.marks.length c)).setCell ⟨V.bh,j*4+1,MH⟩ (M3 y.out)).setCell ⟨V.bh,j*4+2,MH⟩ (MF ME y.till)).setCell ⟨V.bh,j*4+3,MH⟩ (MF ME y.times))/\M6 (OR base N g {d with ms:=d.ms.set j (p,c)} {G with hea:=(aaG G j).set j y}/\WV V {d with ms:=d.ms.set j (p,c)} g w N)):=by
    intro X hX;refine(alB G.cfg.wn G.cfg.wf G.cfg.wh (MG m.1 x.marks.length m.2) x.marks x.out x.till x.times G.now X (c0.below (D.trans (hX.mono D.size))).now).mono ?_;rintro r w' ⟨p,c,rfl,c3,c1,d0⟩;have q:=hX.trans (d0.mono hX.size);have I:=D.trans (q.mono D.size);have c7:=F.below q;have P:XG (d.off base g) w' fun Z=>Yo Z (MG p y.marks.length c) y.marks:=by
     rw[a3];exact abt c3 (fun z e=>u.rest.GF (Nm (Nm D.size hX.size) (c1 z (by rw[XV];exact e))))
    have d6:=c7.Ir hlt P;have d2:=A.out.2.2.F0 (u.Hz I j (MG p y.marks.length c) (M3 y.out) (MF ME y.till) (MF ME y.times) (d.ms.set j (p,c)));have S:∀o,w'.frozen? ⟨V.bh,o,MH⟩=false:=fun o=>(OM (a:=⟨V.bh,o,MH⟩) (I.block V.bh E)).trans (by rw[<-C.2.2.1];exact qf o)
    have i:w'.cell? ⟨g,22,MH⟩=MI (MG (MI ⟨V.bh,0,MH⟩) 12 V.ch)/\w'.cell? ⟨g,13,MH⟩=MI (MF ME G.cfg.wn)/\w'.cell? ⟨g,14,MH⟩=MI (MF ME G.cfg.wf)/\w'.cell? ⟨g,15,MH⟩=MI (MF ME G.cfg.wh)/\w'.cell? ⟨g,16,MH⟩=MI (MF ME G.now)/\w'.cell? ⟨W.heap.size,0,MH⟩=MI (MG m.1 x.marks.length m.2)/\w'.cell? ⟨W.heap.size,1,MH⟩=MI (M3 x.out)/\w'.cell? ⟨W.heap.size,2,MH⟩=MI (MF ME x.till)/\w'.cell? ⟨W.heap.size,3,MH⟩=MI (MF ME x.times):=⟨(q.cell K).trans a2,(q.cell K).trans a4,(q.cell K).trans a6,(q.cell K).trans a5,(q.cell K).trans b9,(q.cell Q).trans y0,(q.cell Q).trans y1,(q.cell Q).trans y2,(q.cell Q).trans y3⟩;have M:g≠V.bh:=a7;have O:W.heap.size≠V.bh:=by omega
    have s:∀(b o:Nat),b≠V.bh->((((w'.setCell ⟨V.bh,j*4,MH⟩ (MG p y.marks.length c)).setCell ⟨V.bh,j*4+1,MH⟩ (M3 y.out)).setCell ⟨V.bh,j*4+2,MH⟩ (MF ME y.till)).setCell ⟨V.bh,j*4+3,MH⟩ (MF ME y.times)).cell? ⟨b,o,MH⟩=w'.cell? ⟨b,o,MH⟩:=fun b o hb=>NG (by rw[MU _ _ _ _ hb,MU _ _ _ _ hb,MU _ _ _ _ hb,MU _ _ _ _ hb])
    refine⟨p,c,(Ze G.cfg.wn G.cfg.wf G.cfg.wh x.marks x.out x.till x.times G.now).2.1,(Ze G.cfg.wn G.cfg.wf G.cfg.wh x.marks x.out x.till x.times G.now).2.2,by rw[a3];rfl,⟨(I.cell E).trans q0,(I.cell E).trans q1,(I.cell E).trans q2,(I.cell E).trans q3,S _,S _,S _,S _,M8 E I.size⟩,i,⟨(s _ _ M).trans i.1,(s _ _ M).trans i.2.1,(s _ _ M).trans i.2.2.1,(s _ _ M).trans i.2.2.2.1,(s _ _ M).trans i.2.2.2.2.1,(s _ _ O).trans i.2.2.2.2.2.1,(s _ _ O).trans i.2.2.2.2.2.2.1,(s _ _ O).trans i.2.2.2.2.2.2.2.1,(s _ _ O).trans i.2.2.2.2.2.2.2.2⟩,_,rfl,?_,?_⟩
    ·rw[<-C.2.2.1];exact d6
    ·rw[<-C.2.2.1];exact d2
   have H5:M6 (_/\_):=⟨a0,C⟩;clear F d5 u J D em ex c0 a0 C hy a3 a1 qf d1
   go_wp2_with fail
   rw[<-T];clear T q0 q1 q2 q3 E c2 c9;apply aan
   ·intro d7
    go_region_held3 (fun X=>X.cell? ⟨g,22,MH⟩=MI (MG (MI ⟨V.bh,0,MH⟩) 12 V.ch)/\X.cell? ⟨g,13,MH⟩=MI (MF ME G.cfg.wn)/\X.cell? ⟨g,14,MH⟩=MI (MF ME G.cfg.wf)/\X.cell? ⟨g,15,MH⟩=MI (MF ME G.cfg.wh)/\X.cell? ⟨g,16,MH⟩=MI (MF ME G.now)/\X.cell? ⟨W.heap.size,0,MH⟩=MI (MG m.1 x.marks.length m.2)/\X.cell? ⟨W.heap.size,1,MH⟩=MI (M3 x.out)/\X.cell? ⟨W.heap.size,2,MH⟩=MI (MF ME x.till)/\X.cell? ⟨W.heap.size,3,MH⟩=MI (MF ME x.times)) (first|exact⟨a2,a4,a6,a5,b9,y0,y1,y2,y3⟩|exact i|exact a9) (first|(go_at_call 113;refine(HB.out _ (by first|exact(MY _ _).drew|exact Below.refl _ _)).mono ?_;rintro r w3 ⟨p,c,Y,U,rfl,⟨u0,u1,u2,N,v0,v1,v2,v3,d3⟩,i,a9,u4,b8,hQ⟩))
    all_goals
     rename_i hHe;clear hHe;rw[<-b8];clear a9;clear b8 u0 u1 u2 N v0 v1 v2 v3 d3 i;revert p c Y U u4;exact d7.out
   intro p c Y U u4 hQ;have HQ:M6 _:=hQ.out;clear hQ HB;go_wp2
   go_roundw
   case rel=>exact⟨j+1,{d with ms:=d.ms.set j (p,c)},by go_num,hlt,by rw[H5.out.1];exact HQ.out.1,H5.out.2,HQ.out.2⟩
   case measure=>simp[intOf];omega
  ·obtain rfl:j=12:=by omega
   go_wp2
   go_end0
   have b0:=A.out.1;have d4:aaG G 12=G.hea.map (abO G):=by rw[<-H.out.2.2.1];exact apc
   rw[d4]at b0;exact⟨rfl,d,b0,⟨A.out.2.1.1,A.out.2.1.2.1,A.out.2.1.2.2.1⟩,A.out.2.2⟩
end
section
variable {base:Nat}{w:MO}{g:Nat}{V:Vs}{G:Gt}
abbrev aq6(n:Int)(v:M7):Obj:=MP #[MF ME n,v] 56
theorem api{base:Nat}{L:List Tm}{n:Nat}(h:w.ownsRow base 3 1 v n (abM L))(hn:n=L.length):aaf w v (L.map (·.2)):=by
 have e:abM L=WT adv (L.map (·.2)):=by
  clear h hn
  induction L with
  |nil=>rfl
  |cons t L ih=>simp only[abM,OA,WT]at ih⊢;rw[ih];rfl
 have a:=Yr h;rw[e]at a;show XB w v (L.map (·.2)).length (WT adv (L.map (·.2)));rw[N0,<-hn];exact a
theorem ao6(h:OR base w g V G)(him:Im G)(hw:G.wnow+1=G.now)(hl:G.out.length<=700000) :
  Ni MK 108 #[gP g] w (aam base w g V (Zs G)):=by
 obtain⟨ls,hm,ht,hA⟩:=h.rest.whl;have S:=him.bs;have g5:=h.GJ;have g3:=h.GH;have g4:=h.lt;have d2:G.wnow<1099511627776:=by have:=S.now;omega
 have HC:M6 _:=anG (MG V.pw 25 V.cw) G.wnow ls w h.rest.blk hA.now hm d2;obtain⟨a,Y⟩:∃a,a=aaD G.fls (G.wnow+1):=⟨_,rfl⟩;obtain⟨d,C⟩:∃d:Gt,d={G with wnow:=G.wnow+1,tms:=fun t=>G.tms t/\t.1≠G.wnow+1}:=⟨_,rfl⟩;have e5:Zs G=a.foldl X5 d:=by unfold Zs;rw[<-Y,<-C]
 rw[e5];have c0:Im d:=by rw[C];exact him.IN (by omega)
 have a5:=S.IF (G.wnow+1);rw[<-Y]at a5;have c1:∀k,k<=a.length->Im ((a.take k).foldl X5 d)/\Xc d ((a.take k).foldl X5 d)/\(∀s∈a.drop k,∃f∈((a.take k).foldl X5 d).fls,f.slot=s)/\((a.take k).foldl X5 d).out.length<=d.out.length+2*k:=fun k hk =>
  akS a d k c0 a5.1 (fun s M=>by obtain⟨f,hf,e,_⟩:=a5.2 s M;exact⟨f,by rw[C];exact hf,e⟩) hk
 have d1:d.wnow=d.now:=by rw[C];exact hw
 have d3:d.out.length<=700000:=by rw[C];exact hl
 have g9:a.length<=40:=by
  rw[Y];unfold aaD;rw[N0];exact Nm (O1 _ _) S.Gb
 have H:M6 (_/\_/\_/\_/\_/\_/\_):=⟨h,S,ht,c1,d1,d3,Y⟩;have g1:M6 _:=C;clear h S him hm ht hA c1 hw hl e5 c0 a5 d1 d3 Y d2 C;go_enter Tryz.func108,Tryz.ntmps108
 go_wp2_with fail
 refine Nd HC.out ?_;rintro r J ⟨p,c,xp,xc,ms,L,rfl,d0,a2,b8,Q⟩;have hL:L.map (·.2)=a:=by rw[H.out.2.2.2.2.2.2];exact apL H.out.2.1 H.out.2.2.1 a2
 have a0:=api b8 rfl;rw[hL]at a0;have d9:L.length=a.length:=by rw[<-hL,N0]
 have a1:∀b,(MG xp L.length xc).ownBlock=MI b->w.heap.size<=b:=fun b hb=>(b8.lt b hb).1
 rw[d9]at a0 a1⊢;have F:=H.out.1.below Q;have f9:=F.GJ;have f6:=F.GH;have f7:=F.fz 24;have f5:=F.fz 25;have e7:=F.lt;have g0:¬J.heap.size=g:=fun e=>by omega
 have f2:¬g=J.heap.size:=fun e=>by omega
 have u:=H.out.1.Ih (T:=fun t=>G.tms t/\t.1≠G.wnow+1) Q d0 a2.may (apM H.out.2.2.1 a2);have A:WV V {V with pw:=p,cw:=c} g w ((J.setCell ⟨g,24,MH⟩ (MF ME (G.wnow+1))).setCell ⟨g,25,MH⟩ (MG p 25 c)):=(((WV.F5 (V:=V) (g:=g) Q).F4 24 _).F4 25 _).Gp fun _ h=>h
 have b9:aaf ((J.setCell ⟨g,24,MH⟩ (MF ME (G.wnow+1))).setCell ⟨g,25,MH⟩ (MG p 25 c)) (MG xp a.length xc) a :=
  aeJ (V:=V) (V':=V) (g:=g) a0 (((WV.Gy V g J).F4 24 _).F4 25 _) fun b hb=>H.out.1.rest.new (a1 b hb)
 obtain⟨x,O⟩:∃x:Vs,x={V with pw:=p,cw:=c}:=⟨_,rfl⟩;obtain⟨K,Z⟩:∃K,K=((J.setCell ⟨g,24,MH⟩ (MF ME (G.wnow+1))).setCell ⟨g,25,MH⟩ (MG p 25 c)).alloc (aq6 (G.wnow+1) (MG p 25 c)):=⟨_,rfl⟩;have q:OR base K g x d:=by rw[Z,O,g1.out];exact u.GW _
 have o:WV V x g w K:=by rw[Z,O];exact A.below (WQ _)
 have c9:aaf K (MG xp a.length xc) a:=by rw[Z];exact aat.below b9 (WQ _)
 have c6:∀b,(MG xp a.length xc).ownBlock=MI b->¬x.own g b:=fun b hb ho=>by
  rcases o.ext b ho with e|e
  ·exact H.out.1.rest.new (a1 b hb) e
  ·rw[O]at ho
   exact H.out.1.rest.new e ho
 have H3:M6 (_/\_/\_/\_/\_):=⟨q,o,c9,c6,(by rw[O]:x.bh=V.bh)⟩;clear F u q A o a0 b9 c9 a1 c6 O Q d0 a2 b8 hL d9
 go_wp2_with fail
 rw[<-Z];clear Z f9 f6 f7 f5 e7 g0 f2 g5 g3 g4
 go_loopw [25] (fun t wr=>∃(k:Nat) (V':Vs),t=MF ME (k:Int)/\k<=a.length/\M6 (OR base wr g V' ((a.take k).foldl X5 d)/\V'.bh=V.bh/\WV x V' g K wr)) (fun t _=>a.length-(intOf t).toNat)
 case atStart=>exact⟨0,x,rfl,Nx _,H3.out.1,H3.out.2.2.2.2,WV.Gy _ _ _⟩
 case round =>
  obtain⟨k,V',rfl,hk,y⟩:=hrel;obtain⟨W,hW⟩:∃W,W=wr:=⟨_,rfl⟩;subst hW
  by_cases hlt:k<a.length
  ·have f4:(k:Int)<(a.length:Int):=by omega
   obtain⟨g8,g7,e9,f1,c2,d5⟩:=aaf.F6 (aeJ H3.out.2.2.1 y.out.2.2 H3.out.2.2.2.1);injection e9 with eg1 _ eg3;unfold NE at c2;rw[<-eg3]at f1 c2;clear eg3;obtain⟨b1,o1,f3,Q,z0⟩:=d5 k hlt;obtain⟨s,M⟩:∃s,s=a[k]:=⟨_,rfl⟩;rw[<-M]at z0;obtain⟨m,a8⟩:∃m,m=(a.take k).foldl X5 d:=⟨_,rfl⟩;obtain⟨N,a3,b0,d8⟩:=H.out.2.2.2.1 k hk;rw[<-a8]at N a3 b0 d8;have U:=y.out.1;rw[<-a8]at U;have a9:(a.take (k+1)).foldl X5 d=X5 m s:=by
    rw[M9 hlt,Pu,<-a8,<-M];rfl
   obtain⟨f0,e0,d4⟩:=b0 s (by rw[M,OK hlt];exact NM ..);obtain⟨i,a7⟩:∃i,i=aaF m.fls s:=⟨_,rfl⟩;have d7:=N.bs.GG e0;rw[d4,<-a7]at d7;obtain⟨I,g2⟩:=d7;obtain⟨f,a6⟩:∃f,f=Xs m i:=⟨_,rfl⟩;have e3:f∈m.fls:=by rw[a6,XA I];exact Nk I
   obtain⟨bf,hp,_,f8⟩:=U.bf (Pb (Nx _) I);have c3:X5 m s=if f.srv then Yg m f 6 1 else YP m i 5:=by
    unfold X5;simp only[];rw[<-a7,<-a6]
   rw[c3]at a9;have e4:m.wnow=m.now:=by rw[a3.wnow,a3.now];exact H.out.2.2.2.2.1
   have e6:m.out.length<=800000:=by have:=H.out.2.2.2.2.2.1;omega
   have j:M6 (_/\_/\_/\_/\_/\_/\_/\_):=⟨ahm U I a7.symm hp N.bs.Gb,U,N.bs,e4,e6,I,hp,e3⟩;have HN:M6 (_/\_):=⟨a9,a6⟩;clear U N a3 b0 d8 e4 e6 I hp e3 a9 a6 a7 g2 c3 d4 e0 f8 a8 M d5;subst f3;subst eg1;have g6:=j.out.2.1.lt
   go_wp2_with fail
   refine Nd j.out.1 ?_;rintro r w2 ⟨rfl,a4⟩;have u:=j.out.2.1.below a4;have hx:=u.Gw j.out.2.2.2.2.2.2.1 j.out.2.2.2.2.2.1;rw[<-HN.out.2]at hx;obtain⟨x0,x1,x2,x3,x4,x5,x6⟩:=hx;have c7:bf<w2.heap.size:=MX w2 ⟨bf,i*7,MH⟩ x0;have A:=y.out.2.2.below a4;cases hsv:f.srv
   ·rw[hsv]at x4
    have z:=HN.out.1;rw[hsv,Nf (by decide)]at z;have E:M6 (_/\_/\_):=⟨akl u j.out.2.2.1 j.out.2.2.2.1 j.out.2.2.2.2.1 j.out.2.2.2.2.2.1 j.out.2.2.2.2.2.2.1 5,A,z⟩;clear u A a4 z hsv
    go_wp2_with fail
    refine Nd E.out.1 ?_;rintro r w3 ⟨rfl,V3,q,P,o⟩;have D:M6 (_/\_/\_):=⟨q,P.trans y.out.2.1,E.out.2.1.F0 o⟩;clear q P o x0 x1 x2 x3 x4 x5 x6 c7;go_wp2
    go_roundw
    case rel=>exact⟨k+1,V3,by go_num,hlt,by rw[E.out.2.2];exact D.out.1,D.out.2.1,D.out.2.2⟩
    case measure=>simp[intOf];omega
   ·rw[hsv]at x4
    have z:=HN.out.1;rw[hsv,Nh rfl]at z;have HE:=adY u j.out.2.2.1 j.out.2.2.2.2.2.2.2 (by have:=j.out.2.2.2.2.1;omega) 6 1;rw[show ZS f=Ny #[MF ME f.slot,MF ME f.gen,MF ME f.key,MF ME f.be,M3 Nw,MF ME f.ret,MF ME f.due]by unfold ZS;rw[hsv]]at HE;have E:M6 (_/\_/\_):=⟨HE,A,z⟩;clear u A a4 z hsv HE
    go_wp2_with fail
    refine Nd E.out.1 ?_;rintro r w3 ⟨rfl,V3,q,P,o⟩;have D:M6 (_/\_/\_):=⟨q,P.trans y.out.2.1,E.out.2.1.F0 o⟩;clear q P o x0 x1 x2 x3 x4 x5 x6 c7;go_wp2
    go_roundw
    case rel=>exact⟨k+1,V3,by go_num,hlt,by rw[E.out.2.2];exact D.out.1,D.out.2.1,D.out.2.2⟩
    case measure=>simp[intOf];omega
  ·obtain rfl:k=a.length:=by omega
   have f4:¬(a.length:Int)<(a.length:Int):=by omega
   go_wp2
   go_end0
   have d6:=y.out.1;rw[NT]at d6;exact⟨rfl,V',d6,y.out.2.1,H3.out.2.1.F0 y.out.2.2⟩
end
section
variable {base:Nat}{w:MO}{g:Nat}{V:Vs}{G:Gt}
theorem akc:∀(l:List Tm) (G:Gt),(l.foldl Ye G).out.length<=G.out.length+2*l.length
 | [],_=>MV _
 |t::l,G=>by
  have a:=akc l (Ye G t);have b:=aj9 (G:=G) t;rw[O4,Ox];omega
theorem aky(b:Int)(t:List awY):(YL b t).length<=t.length:=by
 unfold YL YM;rw[N0];exact Nm (O1 _ _) (by simp)
theorem Bs.IK(h:Bs G):G.tab.length<=40:=by have:=h.tabLen;have:=h.cfg.1.2;omega
theorem aoV(h:Bs G)(l:awV):(Zd G l).out.length<=G.out.length+80:=by
 unfold Zd
 split
 ·omega
 ·have b:=akc (YL l.1 G.tab) G
  have c:=aky l.1 G.tab;have a:=h.IK;omega
theorem akI:∀(L:List awV) (G:Gt) (k:Nat),Im G->k<=L.length->Im ((L.take k).foldl Zd G)/\Xc G ((L.take k).foldl Zd G)/\((L.take k).foldl Zd G).out.length<=G.out.length+80*k
 |L,G,0,h,_=>⟨h,Xc.Gy G,MV _⟩
 | [],G,k+1,_,hk=>by simp at hk
 |l::L,G,k+1,h,hk=>by
  obtain⟨a,c,_⟩:=ahd h l;obtain⟨d,b,e⟩:=akI L (Zd G l) k a (by simpa using hk);have f:=aoV h.bs l;rw[PT,O4];exact⟨d,c.step.F0 b,by omega⟩
theorem ali:∀l:List Tm,WP l=WP l
 | []=>rfl
 |t::l=>by first|rfl|rw[WP,WP,ali l]
theorem aqt{l:List Tm}{g:Nat}{V V':Vs}(h:Xz w v l)(hF:WV V V' g w w')(hn:∀b,v.ownBlock=MI b->¬V.own g b):Xz w' v l:=by
 obtain⟨a,j,f,m,p,c⟩:=h;refine⟨a,j,f,m,p,?_⟩;rcases c with c|⟨b,off,d,e,o⟩
 ·exact Nt c
 ·refine NF ⟨b,off,d,M8 e hF.size,fun i hi=>?_⟩
  rw[<-o i hi];have:=hF.block b e (hn b (by rw[f,d];rfl));simp only[Nl,this]
theorem aoW(h:OR base w g V G)(him:Im G)(hw:G.wnow=G.now)(hl:G.out.length<=700000) :
  Ni MK 109 #[gP g] w (aam base w g V (acG G)):=by
 have d6:=fun k hk=>akI G.liv G k him hk
 have i9:=him.bs.book.1.1;have i6:=h.Gn;have j6:=h.lt;have H:M6 (_/\_/\_/\_):=⟨h,d6,hw,hl⟩;obtain⟨al,j5,i2,j0,g7,_⟩:=adt.F6 h.rest.book.now.1;injection i2 with el1 _ el3;unfold NE at g7;rw[el1,el3]at i6;have HE:M6 _:=el1;clear el1 el3;have HA:M6 (∀X d,WV V d g w X->adt X (MG V.pl G.liv.length V.cl) G.liv):=fun X d hF=>(h.rest.book X hF.size fun b hlt hn=>hF.block b hlt fun e=>hn (Nt e)).1
 clear h d6 hw hl him;go_enter Tryz.func109,Tryz.ntmps109;go_wp2
 go_loopw [15] (fun t wr=>∃(k:Nat) (d:Vs),t=MF ME (k:Int)/\k<=G.liv.length/\M6 (OR base wr g d ((G.liv.take k).foldl Zd G)/\d.bh=V.bh/\WV V d g w wr)) (fun t _=>G.liv.length-(intOf t).toNat)
 case atStart=>exact⟨0,V,rfl,Nx _,H.out.1,rfl,WV.Gy _ _ _⟩
 case round =>
  obtain⟨k,d,rfl,hk,D⟩:=hrel;obtain⟨W,hW⟩:∃W,W=wr:=⟨_,rfl⟩;subst hW
  by_cases hlt:k<G.liv.length
  ·have i3:(k:Int)<(G.liv.length:Int):=by omega
   obtain⟨j3,j2,g6,_,_,g1⟩:=adt.F6 (HA.out W d D.out.2.2);injection g6 with el1 _ _;obtain⟨b1,o1,d9,j8,J,z1,z2,z3,z4,z5⟩:=g1 k hlt;obtain⟨⟨s,y,x3,Z,A,x6⟩,c7⟩:∃x,x=G.liv[k]:=⟨_,rfl⟩;rw[<-c7]at J z1 z2 z3 z4 z5;obtain⟨a,a5⟩:∃a,a=(G.liv.take k).foldl Zd G:=⟨_,rfl⟩;obtain⟨a9,a8,c9⟩:=H.out.2.1 k hk;rw[<-a5]at a9 a8 c9;have b0:=D.out.1;rw[<-a5]at b0;have d2:(G.liv.take (k+1)).foldl Zd G=Zd a (s,y,x3,Z,A,x6):=by
    rw[M9 hlt,Pu,<-a5,<-c7];rfl
   obtain⟨o,E⟩:∃o,o=W.alloc (YQ (s,y,x3,Z,A,x6)):=⟨_,rfl⟩;have d1:MQ W.heap.size W o:=by rw[E];exact WQ W
   have U:o.heap[W.heap.size]?=MI (YQ (s,y,x3,Z,A,x6)):=by rw[E];exact M1 _ _
   have S:=b0.below d1;have e5:=D.out.2.2.below d1;have y0:o.cell? ⟨W.heap.size,0,MH⟩=MI (MF ME s):=by rw[MW o _ 0 _ _ (0,0) U];rfl
   have y1:o.cell? ⟨W.heap.size,1,MH⟩=MI (MF ME y):=by rw[MW o _ 1 _ _ (0,0) U];rfl
   have y4:o.cell? ⟨W.heap.size,4,MH⟩=MI (MF ME A):=by rw[MW o _ 4 _ _ (0,0) U];rfl
   have f9:W.heap.size<o.heap.size:=(Array.getElem?_eq_some_iff.1 U).1;have h9:=S.Gm;have g3:=S.Gs;have g8:=S.lt;have q:M6 (_/\_/\_/\_/\_/\_):=⟨S,e5,d2,a9,a8,c9⟩;clear S e5 d2 a9 a8 c9 b0 a5 c7 U d1 g1;have c1:al=MI ⟨b1,o1,MH⟩:=HE.out.symm.trans (el1.trans d9);clear d9 el1;subst c1
   by_cases hc:y≠3\/a.now<A
   ·have T:=q.out.2.2.1.trans (show Zd a (s,y,x3,Z,A,x6)=a from Nh hc)
    have HN:M6 _:=T;clear T
    by_cases h3:y=3
    ·subst h3
     have h7:a.now<A:=by
      rcases hc with e|e
      ·exact absurd rfl e
      ·exact e
     clear hc
     go_wp2_with fail
     rw[<-E];clear E J z1 z2 z3 z4 z5
     go_quiet (fail)
     go_wp2
     go_roundw
     case rel=>exact⟨k+1,d,by go_num,hlt,by rw[HN.out];exact q.out.1.below (ZE (MY _ _) _),D.out.2.1,q.out.2.1.below (ZE (MY _ _) _)⟩
     case measure=>simp[intOf];omega
    ·have j4:(y != 3)=true:=by simpa using h3
     clear hc h3
     go_wp2_with fail
     rw[<-E];clear E J z1 z2 z3 z4 z5
     go_quiet (fail)
     go_wp2
     go_roundw
     case rel=>exact⟨k+1,d,by go_num,hlt,by rw[HN.out];exact q.out.1.below (ZE (MY _ _) _),D.out.2.1,q.out.2.1.below (ZE (MY _ _) _)⟩
     case measure=>simp[intOf];omega
   ·obtain rfl:y=3:=by
     by_cases e:y=3
     ·exact e
     ·exact absurd (Nt e) hc
    have h7:¬a.now<A:=fun e=>hc (NF e)
    have T:=q.out.2.2.1.trans (show Zd a (s,3,x3,Z,A,x6)=(YL s a.tab).foldl Ye a from Nf hc);have HN:M6 _:=T;clear T hc
    go_wp2_with fail
    rw[<-E];clear E J z1 z2 z3 z4 z5
    go_quiet (fail)
    have J:(o.drewN nq).cell? ⟨W.heap.size,0,MH⟩=MI (MF ME s):=y0;have f1:(o.drewN nq).cell? ⟨g,17,MH⟩=MI (MG d.pt a.tab.length d.ct):=g3;have M:=q.out.1.below (ZE (MY _ _) nq);have c2:=q.out.2.1.below (ZE (MY _ _) nq);have d5:=M.lt;have f8:W.heap.size<(o.drewN nq).heap.size:=f9;obtain⟨W2,d8⟩:∃W2,W2=o.drewN nq:=⟨_,rfl⟩;rw[<-d8]at J f1 M c2 d5 f8⊢;clear d8 y0 y1 y4 h9 g3 f9 g8;obtain⟨m,Q⟩:∃m,m=YL s a.tab:=⟨_,rfl⟩;rw[<-Q]at HN;have e7:aeo a.tab s=(m,0):=by rw[Q];exact Nh q.out.2.2.2.1.bs.tab
    have g4:M6 (∀X,MQ W2.heap.size W2 X->Ni MK 154 #[Ny #[MG d.pt a.tab.length d.ct],MF ME s] X fun r w'=>∃p c,r=MN (Nv #[MG p m.length c,MF ME 0])/\M6 (OR base w' g d a/\WV V d g w w'/\Xz w' (MG p m.length c) m/\∀b,(MG p m.length c).ownBlock=MI b->¬d.own g b)):=fun X hX=>by
     refine(auS _ a.tab s X (M.below hX).rest.tab.now).mono ?_;rw[e7];rintro r w' ⟨p,c,rfl,ho,hb⟩;have c0:=hX.trans (hb.mono hX.size);rw[ali]at ho;exact⟨p,c,rfl,M.below c0,c2.below c0,Yr ho,fun b hb'=>M.rest.new (Nm hX.size (ho.lt b hb').1)⟩
    have a0:=q.out.2.2.2.1.bs.IW s;rw[<-Q]at a0;have d3:=fun j hj=>ake m a j q.out.2.2.2.1 a0.1 (fun t O=>by obtain⟨f,hf,e,_⟩:=a0.2 t O;exact⟨f,hf,e⟩) hj
    have j9:m.length<=40:=by rw[Q];exact Nm (aky _ _) q.out.2.2.2.1.bs.IK
    have e9:a.out.length<=800000:=by have:=q.out.2.2.2.2.2;have:=H.out.2.2.2;omega
    have HP:M6 (_/\_):=⟨d3,e9⟩;clear M c2 e7 a0 d3 e9 Q
    go_wp2_with fail
    apply aan
    ·intro i8
     go_region_with (first|(go_at_call 154;refine(g4.out _ (by first|exact(MY _ _).drew|exact Below.refl _ _)).mono ?_;rintro r W3 ⟨p,c,rfl,hQ⟩))
     all_goals
      revert p c W3;exact i8.out
    intro W3 p c hQ;have HQ:M6 _:=hQ.out;clear hQ g4 J f1 d5 f8;go_wp2
    go_loopw [45] (fun t wx=>∃(j:Nat) (Y:Vs),t=MF ME (j:Int)/\j<=m.length/\M6 (OR base wx g Y ((m.take j).foldl Ye a)/\Y.bh=V.bh/\WV d Y g W3 wx)) (fun t _=>m.length-(intOf t).toNat)
    case atStart=>exact⟨0,d,rfl,Nx _,HQ.out.1,D.out.2.1,WV.Gy _ _ _⟩
    case round =>
     obtain⟨j,Y,rfl,hj,I⟩:=hrel;obtain⟨z,i1⟩:∃z,z=wr:=⟨_,rfl⟩;subst i1
     by_cases hjl:j<m.length
     ·have i4:(j:Int)<(m.length:Int):=by omega
      obtain⟨ah,ch,i0,i7,f5,ph⟩:=Xz.F6 (aqt HQ.out.2.2.1 I.out.2.2 HQ.out.2.2.2);injection i0 with eh1 _ eh3;unfold NE at f5;rw[<-eh3]at i7 f5;clear eh3;obtain⟨b2,o2,g5,c0,v0,v1⟩:=ph j hjl;obtain⟨t,O⟩:∃t,t=m[j]:=⟨_,rfl⟩;rw[<-O]at v0 v1;obtain⟨C,a4⟩:∃C,C=(m.take j).foldl Ye a:=⟨_,rfl⟩;obtain⟨P,d4,a7,f3⟩:=HP.out.1 j hj;rw[<-a4]at P d4 a7 f3;have d0:=I.out.1;rw[<-a4]at d0;have a6:(m.take (j+1)).foldl Ye a=Ye C t:=by
       rw[M9 hjl,Pu,<-a4,<-O];rfl
      obtain⟨f0,g2,f7⟩:=a7 t (by rw[O,OK hjl];exact NM ..);obtain⟨i,a3⟩:∃i,i=aaF C.fls t.1:=⟨_,rfl⟩;have e3:=P.bs.GG g2;rw[f7,<-a3]at e3;obtain⟨N,h8⟩:=e3;obtain⟨f,a2⟩:∃f,f=Xs C i:=⟨_,rfl⟩;have e6:f∈C.fls:=by rw[a2,XA N];exact Nk N
      have d7:Ye C t=Yg C f 6 2:=by unfold Ye;rw[<-a3,<-a2]
      rw[d7]at a6;obtain⟨K,a1⟩:∃K,K=z.alloc (afN t.1 t.2):=⟨_,rfl⟩;have c3:MQ z.heap.size z K:=by rw[a1];exact WQ z
      have c6:K.heap[z.heap.size]?=MI (afN t.1 t.2):=by rw[a1];exact M1 _ _
      have u:=d0.below c3;have f2:=I.out.2.2.below c3;obtain⟨bf,hp,_,i5⟩:=u.bf (Pb (Nx _) N);have r0:K.cell? ⟨z.heap.size,0,MH⟩=MI (MF ME t.1):=by rw[MW K _ 0 _ _ (0,0) c6];rfl
      have j7:z.heap.size<K.heap.size:=(Array.getElem?_eq_some_iff.1 c6).1;have e4:C.out.length<=900000:=by have:=HP.out.2;omega
      have F:M6 (_/\_/\_/\_/\_/\_/\_/\_):=⟨ahm u N a3.symm hp P.bs.Gb,u,P.bs,f2,e4,N,hp,e6⟩;have e0:M6 (_/\_):=⟨a6,a2⟩;have j1:=u.lt;have c1:p=MI ⟨b2,o2,MH⟩:=eh1.trans g5;clear d0 u f2 P d4 a7 f3 N hp e6 a6 a2 a3 h8 d7 f7 g2 i5 a4 O ph c6 c3 e4 eh1 g5;subst c1
      go_wp2_with fail
      rw[<-a1];clear a1 v0 v1;refine Nd F.out.1 ?_;rintro r W6 ⟨rfl,b9⟩;have b8:=F.out.2.1.below b9;have hx:=b8.Gw F.out.2.2.2.2.2.2.1 F.out.2.2.2.2.2.1;rw[<-e0.out.2]at hx;obtain⟨q0,q1,q2,q3,q4,q5,q6⟩:=hx;have g9:bf<W6.heap.size:=MX W6 ⟨bf,i*7,MH⟩ q0;have H6:M6 (_/\_):=⟨adY b8 F.out.2.2.1 F.out.2.2.2.2.2.2.2 F.out.2.2.2.2.1 6 2,F.out.2.2.2.1.below b9⟩;clear b8 b9
      go_wp2_with fail
      refine Nd H6.out.1 ?_;rintro r W7 ⟨rfl,V3,f4,f6,g0⟩;have H7:M6 (_/\_/\_):=⟨f4,f6.trans I.out.2.1,H6.out.2.F0 g0⟩;clear f4 f6 g0 q0 q1 q2 q3 q4 q5 q6 g9;go_wp2
      go_roundw
      case rel=>exact⟨j+1,V3,by go_num,hjl,by rw[e0.out.1];exact H7.out.1,H7.out.2.1,H7.out.2.2⟩
      case measure=>simp[intOf];omega
     ·obtain rfl:j=m.length:=by omega
      have i4:¬(m.length:Int)<(m.length:Int):=by omega
      have u:=I.out.1;rw[NT,<-HN.out]at u;have H5:M6 _:=u;clear u;go_wp2
      go_roundw
      case rel=>exact⟨k+1,Y,by go_num,hlt,H5.out,I.out.2.1,HQ.out.2.1.F0 I.out.2.2⟩
      case measure=>simp[intOf];omega
  ·obtain rfl:k=G.liv.length:=by omega
   have i3:¬(G.liv.length:Int)<(G.liv.length:Int):=by omega
   go_wp2
   go_end0
   have u:=D.out.1;rw[NT]at u;exact⟨rfl,d,u,D.out.2.1,D.out.2.2⟩
end
section
variable {base:Nat}{w:MO}{g:Nat}{V:Vs}{G:Gt}
theorem akR:∀(l:List Int) (G:Gt),(l.foldl X5 G).out.length<=G.out.length+2*l.length
 | [],_=>MV _
 |s::l,G=>by
  have a:=akR l (X5 G s);have b:=akP (G:=G) s;rw[O4,Ox];omega
theorem ao7(h:Bs G):(Zs G).out.length<=G.out.length+80:=by
 unfold Zs;refine Nm (akR _ _) ?_;have:(aaD G.fls (G.wnow+1)).length<=40:=by
  unfold aaD;rw[N0];exact Nm (O1 _ _) h.Gb
 show G.out.length+_<=_;omega
theorem adj{r:Ending}{w1:MO}{V1:Vs}(hF:WV V V1 g w w1)(hV:V1.bh=V.bh)(h:aam base w1 g V1 G' r w'):aam base w g V G' r w':=by
 obtain⟨c,a,e,d,b⟩:=h;exact⟨c,a,e,d.trans hV,hF.F0 b⟩
theorem aqV(h:OR base w g V G)(hwm:Wm G)(hn:G.now+1<=1099511626776)(hl:G.out.length<=600000) :
  Ni MK 61 #[gP g] w (aam base w g V (abj G)):=by
 obtain⟨s,i⟩:∃s:Gt,s={G with now:=G.now+1}:=⟨_,rfl⟩;have o:Im s:=by rw[i];exact hwm.im.next hn
 obtain⟨c,j⟩:∃c:Gt,c=YH s:=⟨_,rfl⟩;have t:Im c:=by rw[j];exact o.Jf
 have e:=aeS o.bs;rw[<-j]at e;obtain⟨b,d⟩:∃b:Gt,b=aaC c:=⟨_,rfl⟩;have m:Im b:=by rw[d];exact t.I2
 have A:b.wnow+1=b.now:=by
  rw[d];show c.wnow+1=c.now;rw[e.2.1,e.1,i];show G.wnow+1=G.now+1;rw[hwm.wnow]
 have O:∀f∈b.fls,b.wnow<f.due:=by
  rw[d];show ∀f∈c.fls,c.wnow<f.due;rw[e.2.2.1,e.2.1,i];show ∀f∈G.fls,G.wnow<f.due;rw[hwm.wnow];exact hwm.due
 have P:b.out.length<=600000:=by
  rw[d];show c.out.length<=600000;rw[e.2.2.2.2.1,i];exact hl
 have u:=m.Je A O;have E:=ao7 m.bs;obtain⟨F,q⟩:∃F:Gt,F=Zs b:=⟨_,rfl⟩;rw[<-q]at u E;have M:abj G=acG F:=by unfold abj;rw[<-i,<-j,<-d,<-q]
 rw[M];have a2:=h.Gm;have a1:=h.fz 16;have a3:=h.lt;have a0:IntKind.i64.wrap (G.now+1)=G.now+1:=by have:=hwm.im.bs.now;rw[Ow];omega
 have p:=h.Ja (G.now+1);rw[<-i]at p;have C:WV V V g w (w.setCell ⟨g,16,MH⟩ (MF ME (G.now+1))):=(WV.Gy V g w).F4 16 _;obtain⟨Z,y⟩:∃Z,Z=w.setCell ⟨g,16,MH⟩ (MF ME (G.now+1)):=⟨_,rfl⟩;rw[<-y]at p C;have H:M6 (_/\_/\_):=⟨aq2 p o,C,j⟩;have a:M6 (_/\_/\_/\_/\_/\_/\_/\_):=⟨t,m,A,P,u,E,d,q⟩;clear o t m A O P u E e i j d q M p C h hwm hn hl;go_enter Tryz.func61,Tryz.ntmps61
 go_wp2_with fail
 rw[<-y];clear y;refine Nd H.out.1 ?_;rintro r w1 ⟨rfl,V1,x,Y,Q⟩;rw[<-H.out.2.2]at x;have I:M6 (_/\_/\_):=⟨aow x a.out.1.bs,H.out.2.1.F0 Q,Y.2.2⟩;clear x Y Q
 go_wp2_with fail
 refine Nd I.out.1 ?_;rintro r w2 ⟨rfl,V2,D,U,T⟩;rw[<-a.out.2.2.2.2.2.2.1]at D;have J:M6 (_/\_/\_):=⟨ao6 D a.out.2.1 a.out.2.2.1 (by have:=a.out.2.2.2.1;omega),I.out.2.1.F0 T,U.2.2.trans I.out.2.2⟩;clear D U T
 go_wp2_with fail
 refine Nd J.out.1 ?_;rintro r w3 ⟨rfl,V3,z,S,N⟩;rw[<-a.out.2.2.2.2.2.2.2]at z;have K:M6 (_/\_/\_):=⟨aoW z a.out.2.2.2.2.1.1 (by rw[a.out.2.2.2.2.1.2.2.1,a.out.2.2.2.2.1.2.1]) (by have:=a.out.2.2.2.2.2.1;have:=a.out.2.2.2.1;omega),J.out.2.1.F0 N,S.trans J.out.2.2⟩;clear z S N
 go_wp2_with fail
 refine Nd K.out.1 ?_;rintro r w4 ⟨rfl,V4,hP⟩;have H4:M6 _:=hP;clear hP;go_wp2
 go_end0
 exact adj K.out.2.1 K.out.2.2 ⟨rfl,V4,H4.out⟩
theorem aqR(h:OR base w g V G)(hwm:Wm G){e:Ev}(he:XZ e)(hn:e.kind=7->G.now+1<=1099511626776)(hl:G.out.length<=600000) :
  Ni MK 41 #[gP g,acH e] w (aam base w g V (Xb G e)):=by
 obtain⟨W,d⟩:∃W,W=w.alloc (aaE e):=⟨_,rfl⟩;have o:MQ w.heap.size w W:=by rw[d];exact WQ w
 have p:W.heap[w.heap.size]?=MI (aaE e):=by rw[d];exact M1 _ _
 have j:=h.below o;have m:WV V V g w W:=WV.F5 o;obtain⟨P,M,U,Y,Z,S,T,K,I⟩:=abP p;have J:=h.lt;obtain⟨O,b⟩:∃O,O=Xb G e:=⟨_,rfl⟩;rw[<-b];unfold Xb at b;have t:=he.kind;have E:e.kind=1\/(e.kind=2\/e.kind=3\/e.kind=4)\/e.kind=5\/e.kind=6\/e.kind=7:=by omega
 rcases E with a|a|a|a|a
 ·have u:(e.kind == 1)=true:=by rw[a];rfl
  rw[Nh a]at b;have H:M6 (_/\_/\_):=⟨aqb j hwm.im.bs hwm.wnow (by omega) he.key,m,b⟩;clear a b j m h hwm he hn hl o p t;go_enter QN,QD
  go_wp2_with fail
  rw[<-d];clear d;refine Nd H.out.1 ?_;rintro r q ⟨rfl,i,c⟩;have f:M6 _:=c;clear c;go_wp2
  go_end0
  rw[H.out.2.2];exact adj H.out.2.1 rfl ⟨rfl,i,f.out⟩
 ·have u:(e.kind == 1)=false:=beq_eq_false_iff_ne.2 (by omega)
  rw[Nf (by omega),Nf (by omega),Nf (by omega),Nf (by omega)]at b;have H:M6 (_/\_/\_):=⟨aqa j hwm.im.bs hwm.wnow (by omega) e,m,b⟩;have N:M6 _:=a;clear b j m h hwm he hn hl o p t;rcases a with a|a|a
  ·have s:(e.kind == 2)=true:=by rw[a];rfl
   clear a;go_enter QN,QD
   go_wp2_with fail
   rw[<-d];clear d;refine Nd H.out.1 ?_;rintro r q ⟨rfl,i,c⟩;have f:M6 _:=c;clear c;go_wp2
   go_end0
   rw[H.out.2.2];exact adj H.out.2.1 rfl ⟨rfl,i,f.out⟩
  ·have s:(e.kind == 2)=false:=by rw[a];rfl
   have x:(e.kind == 3)=true:=by rw[a];rfl
   clear a;go_enter QN,QD
   go_wp2_with fail
   rw[<-d];clear d;refine Nd H.out.1 ?_;rintro r q ⟨rfl,i,c⟩;have f:M6 _:=c;clear c;go_wp2
   go_end0
   rw[H.out.2.2];exact adj H.out.2.1 rfl ⟨rfl,i,f.out⟩
  ·have s:(e.kind == 2)=false:=by rw[a];rfl
   have x:(e.kind == 3)=false:=by rw[a];rfl
   have y:(e.kind == 4)=true:=by rw[a];rfl
   clear a;go_enter QN,QD
   go_wp2_with fail
   rw[<-d];clear d;refine Nd H.out.1 ?_;rintro r q ⟨rfl,i,c⟩;have f:M6 _:=c;clear c;go_wp2
   go_end0
   rw[H.out.2.2];exact adj H.out.2.1 rfl ⟨rfl,i,f.out⟩
 ·have u:(e.kind == 1)=false:=by rw[a];rfl
  have s:(e.kind == 2)=false:=by rw[a];rfl
  have x:(e.kind == 3)=false:=by rw[a];rfl
  have y:(e.kind == 4)=false:=by rw[a];rfl
  have D:(e.kind == 5)=true:=by rw[a];rfl
  rw[Nf (by omega),Nh a]at b;have H:M6 (_/\_/\_):=⟨ajZ j (by omega) 1 e,m,b⟩;clear a b j m h hwm he hn hl o p t;go_enter QN,QD
  go_wp2_with fail
  rw[<-d];clear d;refine Nd H.out.1 ?_;rintro r q ⟨rfl,i,z,C,A⟩;have f:M6 (_/\_/\_):=⟨z,C,A⟩;clear z C A;go_wp2
  go_end0
  rw[H.out.2.2];exact⟨rfl,i,f.out.1,f.out.2.1.2.2,H.out.2.1.F0 f.out.2.2⟩
 ·have u:(e.kind == 1)=false:=by rw[a];rfl
  have s:(e.kind == 2)=false:=by rw[a];rfl
  have x:(e.kind == 3)=false:=by rw[a];rfl
  have y:(e.kind == 4)=false:=by rw[a];rfl
  have D:(e.kind == 5)=false:=by rw[a];rfl
  have F:(e.kind == 6)=true:=by rw[a];rfl
  rw[Nf (by omega),Nf (by omega),Nh a]at b;have H:M6 (_/\_/\_):=⟨aho (aqn j hwm.im (by omega) e he),m,b⟩;clear a b j m h hwm he hn hl o p t;go_enter QN,QD
  go_wp2_with fail
  rw[<-d];clear d;refine Nd H.out.1 ?_;rintro r q ⟨rfl,i,c⟩;have f:M6 _:=c;clear c;go_wp2
  go_end0
  rw[H.out.2.2];exact adj H.out.2.1 rfl ⟨rfl,i,f.out⟩
 ·have u:(e.kind == 1)=false:=by rw[a];rfl
  have s:(e.kind == 2)=false:=by rw[a];rfl
  have x:(e.kind == 3)=false:=by rw[a];rfl
  have y:(e.kind == 4)=false:=by rw[a];rfl
  have D:(e.kind == 5)=false:=by rw[a];rfl
  have F:(e.kind == 6)=false:=by rw[a];rfl
  have Q:(e.kind == 7)=true:=by rw[a];rfl
  rw[Nf (by omega),Nf (by omega),Nf (by omega),Nh a]at b;have H:M6 (_/\_/\_):=⟨aqV j hwm (hn a) hl,m,b⟩;clear a b j m h hwm he hn hl o p t;go_enter QN,QD
  go_wp2_with fail
  rw[<-d];clear d;refine Nd H.out.1 ?_;rintro r q ⟨rfl,i,c⟩;have f:M6 _:=c;clear c;go_wp2
  go_end0
  rw[H.out.2.2];exact adj H.out.2.1 rfl ⟨rfl,i,f.out⟩
end
end Go.Proofs.YtmpokpecfclapaaGreatDoor.Q
