/-
  Contracts of the layers and of core, part 15. Conditions: as each theorem says.
-/
import Derived.Test.YtidlemcdnhbceaaGreatDoorQ14
open Bool renaming false->Nb,true->Nw
open Go renaming Calls->Ni,Value->M7,World->MO,cell_of_row->MW,heap_alloc_new->M1,maxLen->NE
open Go.Calls renaming mono->Nd
open Go.Ending renaming returned->MN
open Go.IntKind renaming i64->ME,wrap_i64->Ow
open Go.Obj renaming cells->MP
open Go.Proofs.Tryz renaming func103->R3,func105->ayX,func106->Ta,func45->Se,func62->Vq,func64->Wa,func96->UY,ntmps103->RP,ntmps105->ayM,ntmps106->SG,ntmps45->RU,ntmps62->Vl,ntmps64->VN,ntmps96->UV,prog->MK
open Go.RowKit renaming Below->MQ,Hid->M6
open Go.RowKit.Below renaming heap_setCell->MU,refl->MY
open Go.Value renaming agg->Ny,bool->M3,int->MF,slice->MG,tuple->Nv
open Go.World renaming block_lt_of_cell?->MX,cell?->Nl,cell?_of_block->NG,frozen?->Ng,frozen?_of_block->OM
open Int renaming eq_ofNat_of_zero_le->NL
open List renaming drop_eq_getElem_cons->OK,foldl_append->Pu,foldl_cons->O4,getElem?_append_right->Tw,getElem_mem->Nk,length_cons->Ox,length_filter_le->O1,length_map->N0,length_take->NH,map_append->OI,map_cons->OA,mem_cons_self->NM,set_append_right->Pw,set_cons_zero->ML,take_length->NT,take_succ_cons->PT,take_succ_eq_append_getElem->M9
open Nat renaming le_of_lt->PJ,le_refl->MV,le_trans->Nm,lt_of_le_of_lt->Pb,lt_of_lt_of_le->M8,min_eq_left->P1,zero_le->Nx
open Option renaming none->MH,some->MI
open Option.some renaming inj->NC
open Or renaming inl->Nt,inr->NF
namespace Go.Proofs.YtidlemcdnhbceaaGreatDoor.Q
set_option linter.unusedVariables false
set_option linter.unusedSimpArgs false
set_option maxHeartbeats 16000000
set_option maxRecDepth 100000
open Go.RowKit
attribute [local go_sem ↓] Go.wp_at_zero Go.wp_at_succ
variable {G':Gt}{l:List Int}{R:List aw0}{L:List awV}{v va vb:M7}{W X w w' w5:MO}{B k:Nat}
section
variable {base:Nat}{w:MO}{g:Nat}{V:Vs}{G:Gt}
theorem adX{Q R:Prop}(m:M6 Q->R)(k:Q):R:=m k
abbrev acE(n:Int):Obj:=MP #[MF ME n] 56
theorem akl(h:OR base w g V G)(hbs:Bs G)(hw:G.wnow=G.now)(hl:G.out.length<=800000){i:Nat}(hi:i<G.fls.length){bf:Nat}(hp:V.pf=MI ⟨bf,0,MH⟩)(why:Int) :
  Ni MK 96 #[gP g,fP bf i,MF ME why] w (aam base w g V (YP G i why)):=by
 obtain⟨O,a⟩:∃O,O=YP G i why:=⟨_,rfl⟩;rw[<-a];unfold YP at a;simp only[]at a;obtain⟨f,hf⟩:∃f,f=Xs G i:=⟨_,rfl⟩;have b0:f∈G.fls:=by rw[hf,XA hi];exact Nk hi
 have a3:=hbs.F9 b0;have f7:=hbs.rets _ b0;obtain⟨q0,q1,q2,q3,q4,q5,q6⟩:=h.Gw hp hi;rw[<-hf]at a q0 q1 q2 q3 q4 q5 q6;have i1:=h.lt;obtain⟨b,E⟩:∃b,b=Yh G f.be true:=⟨_,rfl⟩;have HN:=akO h hbs a3.2.2.2 Nw;have b8:=hbs.GA a3.2.2.2 Nw;rw[<-E]at a HN b8;have f2:b.fls=G.fls/\b.cfg=G.cfg/\b.now=G.now/\b.wnow=G.wnow/\b.out=G.out/\b.tok=G.tok:=by rw[E];exact⟨rfl,rfl,rfl,rfl,rfl,rfl⟩
 obtain⟨⟨tk,er⟩,e0⟩:∃s,s=Zh G.cfg.bn G.cfg.bd G.cfg.bb G.tok:=⟨_,rfl⟩;have d8:=hbs.tok;have H:M6 (_/\_/\_/\_/\_/\_/\_/\_):=⟨HN,a,b8,f2,hp,hi,hf,b0⟩;have t:M6 (_/\_/\_/\_/\_/\_/\_):=⟨hbs,hw,hl,a3,e0,f7,d8⟩;clear h hbs a hf hw hl a3 HN E f2 b8 hp hi b0 e0 f7 d8;go_enter UY,UV
 go_wp2_with fail
 refine Nd H.out.1 ?_;rintro r j ⟨rfl,V1,E,d2,d9⟩;have e6:V1.pf=MI ⟨bf,0,MH⟩:=d2.1.trans H.out.2.2.2.2.1;have Z:M6 (∃y:i<b.fls.length,b.fls[i]=f):=akp H.out.2.2.2.1.1 H.out.2.2.2.2.2.1 H.out.2.2.2.2.2.2.1;have g6:j.cell? ⟨g,10,MH⟩=MI (MF ME G.cfg.bn):=by rw[<-H.out.2.2.2.1.2.1];exact E.Hf
 have g9:j.cell? ⟨g,11,MH⟩=MI (MF ME G.cfg.bd):=by rw[<-H.out.2.2.2.1.2.1];exact E.Hn
 have h7:j.cell? ⟨g,12,MH⟩=MI (MF ME G.cfg.bb):=by rw[<-H.out.2.2.2.1.2.1];exact E.Hg
 have c3:j.cell? ⟨g,23,MH⟩=MI (MF ME G.tok):=by rw[<-H.out.2.2.2.1.2.2.2.2.2];exact E.Id
 have g2:=E.lt;have HS:M6 ((∀X,MQ j.heap.size j X->X.heap[j.heap.size]?=MI (acE 0)->Ni MK 134 #[Ny #[MF ME G.cfg.bn,MF ME G.cfg.bd,MF ME G.cfg.bb],Ny #[MF ME G.tok]] X fun r w'=>r=MN (Nv #[Ny #[MF ME tk],MF ME er])/\w'.cell? ⟨j.heap.size,0,MH⟩=MI (MF ME 0)/\w'.frozen? ⟨j.heap.size,0,MH⟩=Nb/\j.heap.size<w'.heap.size /\
   ∃z w3,z=j.heap.size/\w3=w'.setCell ⟨j.heap.size,0,MH⟩ (MF ME tk)/\M6 (MQ j.heap.size j w3/\w3.heap[z]?=MI (acE tk))) /\
   (∀X,MQ j.heap.size j X->Ni MK 134 #[Ny #[MF ME G.cfg.bn,MF ME G.cfg.bd,MF ME G.cfg.bb],Ny #[MF ME G.tok]] X fun r w'=>r=MN (Nv #[Ny #[MF ME tk],MF ME er]) /\
   ∃z w3,z=w'.heap.size/\w3=w'.alloc (acE tk)/\M6 (MQ j.heap.size j w3/\w3.heap[z]?=MI (acE tk)))):=by
  constructor
  ·intro X P hR
   refine(ajV G.cfg.bn G.cfg.bd G.cfg.bb G.tok X).mono ?_;rw[<-t.out.2.2.2.2.1];rintro r w' ⟨rfl,a8⟩;have a4:=WO hR a8;exact⟨rfl,by rw[MW w' _ 0 _ _ (0,0) a4];rfl,by simp[Ng,a4],(Array.getElem?_eq_some_iff.1 a4).1,_,_,rfl,rfl,(P.trans (a8.mono P.size)).setCell (p:=⟨j.heap.size,0,MH⟩) (MV _) _,YO a4 rfl⟩
  ·intro X P
   refine(ajV G.cfg.bn G.cfg.bd G.cfg.bb G.tok X).mono ?_;rw[<-t.out.2.2.2.2.1];rintro r w' ⟨rfl,a8⟩;have a0:=P.trans (a8.mono P.size);exact⟨rfl,_,_,rfl,rfl,a0.trans ((WQ w' (o:=acE tk)).mono a0.size),M1 _ _⟩
 have d:M6 (_/\_/\_/\_/\_):=⟨HS.out,E,d2,d9,e6⟩;clear HS E d2 d9 e6 q0 q1 q2 q3 q4 q5 q6
 go_wp2_with fail
 apply adX
 ·intro g5
  go_region_with (first|(go_at_call 134;refine(d.out.1.1 _ (by first|exact(WQ _).drew|exact WQ _) (by first|exact M1 _ _|(show(World.alloc _ _).heap[_]?=_;exact heap_alloc_new _ _))).mono ?_;rintro r w2 ⟨rfl,y0,z0,g1,z,A,d5,d4,hQ⟩)|(go_at_call 134;refine(d.out.1.2 _ (by first|exact(MY _ _).drew|exact Below.refl _ _)).mono ?_;rintro r w2 ⟨rfl,z,A,d5,d4,hQ⟩))
  all_goals
   rw[<-d4]
   try rw[<-d5]
   clear d4 d5
   try clear y0 z0 g1
   revert z A;exact g5.out
 intro z A hQ;have c9:=hQ.out.1;have f5:=hQ.out.2;clear hQ;have a5:=d.out.2.1.below c9;have xu:adU A bf i f:=by
  obtain⟨y,C⟩:=Z.out;have:=a5.Gl d.out.2.2.2.2 y;rw[C]at this;exact this
 have v5:=xu.2.2.2.2.2.1;have v8:A.cell? ⟨g,8,MH⟩=MI (MF ME G.cfg.ret):=by rw[<-H.out.2.2.2.1.2.1];exact a5.c8
 have c1:=a5.lt;have c0:bf<A.heap.size:=MX A ⟨bf,i*7+5,MH⟩ v5;have HU:M6 (_/\_):=⟨c9,f5⟩;clear c9 f5 a5 xu g6 g9 h7 c3 g2;have f4:f∈b.fls:=by rw[H.out.2.2.2.1.1];exact H.out.2.2.2.2.2.2.2
 have e3:b.out.length<=800000:=by rw[H.out.2.2.2.1.2.2.2.2.1];exact t.out.2.2.1
 have a:=H.out.2.1;rw[<-t.out.2.2.2.2.1,<-H.out.2.2.2.1.1]at a;simp only[]at a;have U:M6 (_/\_):=⟨f4,e3⟩;have HO:M6 _:=a;clear f4 e3 a
 by_cases hA:f.ret=G.cfg.ret
 ·have h9:(f.ret == G.cfg.ret)=true:=by rw[beq_iff_eq];exact hA
  go_wp2_with fail
  go_quiet (fail)
  have I:=ZE HU.out.1 nq;have T:(A.drewN nq).heap[z]?=MI (acE tk):=HU.out.2;clear v5 v8 c1 c0;generalize A.drewN nq=w3 at *;have m:=d.out.2.1.below I;have M:adU w3 bf i f:=by
   obtain⟨y,C⟩:=Z.out;have:=m.Gl d.out.2.2.2.2 y;rw[C]at this;exact this
  have e8:w3.cell? ⟨g,8,MH⟩=MI (MF ME G.cfg.ret):=by rw[<-H.out.2.2.2.1.2.1];exact m.c8
  have b9:=m.lt;have K:M6 (_/\_/\_):=⟨m,d.out.2.2.2.1.below I,T⟩;obtain⟨x0,x1,x2,x3,x4,x5,x6⟩:=M;clear m I T;have a:=HO.out;rw[Nh (Nt hA)]at a;have Q:M6 (_/\_):=⟨adY K.out.1 H.out.2.2.1 U.out.1 (by have:=U.out.2;omega) 6 why,a⟩;clear a hA
  go_wp2_with fail
  refine Nd Q.out.1 ?_;rintro r w9 ⟨rfl,V9,J,F,D⟩;have u:M6 (_/\_/\_):=⟨J,F.trans d.out.2.2.1.2.2,K.out.2.1.F0 D⟩;clear J F D;go_wp2
  go_end0
  rw[Q.out.2];exact⟨rfl,V9,u.out.1,u.out.2.1,u.out.2.2⟩
 ·have h8:(f.ret == G.cfg.ret)=false:=by rw[Oh];exact hA
  by_cases hB:er=0
  ·subst hB
   go_wp2_with fail
   go_quiet (fail)
   have I:=ZE HU.out.1 nq;have T:(A.drewN nq).heap[z]?=MI (acE tk):=HU.out.2;clear v5 v8 c1 c0;generalize A.drewN nq=w3 at *;have m:=d.out.2.1.below I;have M:adU w3 bf i f:=by
    obtain⟨y,C⟩:=Z.out;have:=m.Gl d.out.2.2.2.2 y;rw[C]at this;exact this
   have e8:w3.cell? ⟨g,8,MH⟩=MI (MF ME G.cfg.ret):=by rw[<-H.out.2.2.2.1.2.1];exact m.c8
   have b9:=m.lt;have K:M6 (_/\_/\_):=⟨m,d.out.2.2.2.1.below I,T⟩;obtain⟨x0,x1,x2,x3,x4,x5,x6⟩:=M;clear m I T;have a:=HO.out;rw[Nf (by rintro(h|h);exact hA h;exact h rfl)]at a;obtain⟨fs,a1⟩:∃fs,fs=Yl b.fls f.slot f.gen:=⟨_,rfl⟩;rw[<-a1]at a;have c7:fs.length<=40:=by rw[a1];exact Nm (ahT _ _ _) (by rw[H.out.2.2.2.1.1];exact t.out.1.Gb)
   have c2:∀x∈fs,0<=x.be/\x.be<12:=fun x M=>(H.out.2.2.1.F9 (by rw[a1]at M;exact(List.mem_filter.1 M).1)).2.2.2
   obtain⟨⟨cb,ce⟩,a9⟩:∃ce,ce=XD b f.key fs:=⟨_,rfl⟩;rw[<-a9]at a;simp only[]at a;have e4:∀X,MQ w3.heap.size w3 X->Ni MK 132 #[gP g,Ny #[MF ME f.slot,MF ME f.gen]] X fun r w'=>∃q c,r=MN (MG (MI ⟨q,0,MH⟩) fs.length c)/\w'.cell? ⟨bf,i*7+2,MH⟩=MI (MF ME f.key)/\bf<w'.heap.size /\
     M6 (∀Y,MQ w'.heap.size w' Y->Ni MK 86 #[gP g,MF ME f.key,MG (MI ⟨q,0,MH⟩) fs.length c] Y fun r w5=>r=MN (Nv #[MF ME cb,M3 (ce == 0)])/\M6 (MQ w3.heap.size w3 w5)):=by
    intro X P;have f3:=K.out.1.below P;refine Nd (alp f3 U.out.1 (by rw[H.out.2.2.2.1.1];exact t.out.1.Gb)) ?_;rw[<-a1];rintro r w' ⟨q,c,rfl,ho,hb⟩;have a0:=P.trans (hb.mono P.size);have a2:bf<w3.heap.size:=MX w3 ⟨bf,i*7+2,MH⟩ x2;refine⟨q,c,rfl,(a0.cell (p:=⟨bf,i*7+2,MH⟩) a2).trans x2,M8 a2 a0.size,?_⟩;intro Y hY;refine Nd (ahb (f3.below hb |>.below hY) H.out.2.2.1 t.out.2.2.2.1.2.2.1 _ fs ((abw ho).below hY) c2 c7) ?_;rw[<-a9];rintro r w5 ⟨rfl,S⟩;have e9:=a0.trans (hY.mono a0.size);exact⟨rfl,e9.trans (S.mono e9.size)⟩
   have H4:M6 (_/\_/\_/\_/\_):=⟨e4,a,c7,c2,a9⟩;have g7:M6 (¬f.ret=G.cfg.ret):=hA;have a2:bf<w3.heap.size:=MX w3 ⟨bf,i*7+2,MH⟩ x2;clear e4 a a1 c7 c2 a9 hA e8 x3 x4 x5 x6
   go_wp2_with fail
   go_region_with (first|(go_at_call 132;refine(H4.out.1 _ (by first|exact(MY _ _).drew|exact Below.refl _ _)).mono ?_;rintro r w4 ⟨q,c4,rfl,k2,g4,g0⟩)|(go_at_call 86;refine(g0.out _ (by first|exact(MY _ _).drew|exact MY _ _)).mono ?_;rintro r w5 ⟨rfl,f6⟩))
   all_goals
    have S:=f6.out;clear f6 g0 k2 g4 a2 x0 x1 x2 b9;have N:=K.out.1.below S;have a6:=WO K.out.2.2 S;have H5:M6 (_/\_/\_):=⟨True.intro,True.intro,K.out.2.1⟩
    by_cases hC:ce=0
    ·subst hC
     have a:=H4.out.2.1;rw[Nf (by decide)]at a;have c3:=N.Id;have g8:=N.fz 23;have d7:=N.lt;have y0:w5.cell? ⟨z,0,MH⟩=MI (MF ME tk):=by rw[MW w5 _ 0 _ _ (0,0) a6];rfl
     have g3:z<w5.heap.size:=(Array.getElem?_eq_some_iff.1 a6).1;obtain⟨w6,d1⟩:∃w6,w6=w5.setCell ⟨g,23,MH⟩ (MF ME tk):=⟨_,rfl⟩;have d0:=N.IC tk;have d3:=(H5.out.2.2.below S).F4 23 (MF ME tk);rw[<-d1]at d0 d3;have c6:=H.out.2.2.1.Ib (key:=f.key) H4.out.2.2.1 (by rw[<-H4.out.2.2.2.2]);rw[<-H4.out.2.2.2.2]at c6;have e5:0<=cb/\cb<12:=c6.2;have a7:=ahK t.out.1.GM t.out.2.2.2.2.2.2 (by rw[<-t.out.2.2.2.2.1]);rw[<-t.out.2.2.2.2.1]at a7;have f8:tk=G.tok-G.cfg.bd:=congrArg Prod.fst a7.1;have d6:Bs {b with tok:=tk}:=H.out.2.2.1.Hp (by rw[f8,H.out.2.2.2.1.2.1];exact ahO t.out.1 a7.2);have e7:0<=(Xs {b with tok:=tk} i).ret/\(Xs {b with tok:=tk} i).ret+1<=20:=by
      obtain⟨y,C⟩:=Z.out;have e:Xs {b with tok:=tk} i=f:=(XA (G:=b) y).trans C;rw[e];have h1:=t.out.2.2.2.2.2.1;have h2:=g7.out;have h3:=t.out.1.cfg.2.2.2.2.2.2.2.2.1;omega
     have f9:i<({b with tok:=tk}:Gt).fls.length:=by obtain⟨y,C⟩:=Z.out;exact y
     have HR:=aqq d0 d6 (by show b.wnow=b.now;rw[H.out.2.2.2.1.2.2.2.1,H.out.2.2.2.1.2.2.1];exact t.out.2.1) (by show b.out.length<=900000;have:=U.out.2;omega) f9 d.out.2.2.2.2 e5 e7;have H6:M6 (_/\_/\_):=⟨HR,d3,a⟩;clear N a6 S d0 d3 c6 e5 a7 f8 d6 e7 f9 HR a
     go_wp2_with fail
     rw[<-d1];clear d1 c3 g8 d7 y0 g3;refine Nd H6.out.1 ?_;rintro r w9 ⟨rfl,V9,J,F,D⟩;have u:M6 (_/\_/\_):=⟨J,F.trans d.out.2.2.1.2.2,H6.out.2.1.F0 D⟩;clear J F D;go_wp2
     go_end0
     rw[H6.out.2.2];exact⟨rfl,V9,u.out.1,u.out.2.1,u.out.2.2⟩
    ·have f1:(ce == 0)=false:=by rw[Oh];exact hC
     have a:=H4.out.2.1;rw[Nh hC]at a;have M:adU w5 bf i f:=by
      obtain⟨y,C⟩:=Z.out;have:=N.Gl d.out.2.2.2.2 y;rw[C]at this;exact this
     obtain⟨x0,x1,x2,x3,x4,x5,x6⟩:=M;have d7:=N.lt;have Q:M6 (_/\_/\_):=⟨adY N H.out.2.2.1 U.out.1 (by have:=U.out.2;omega) 6 4,a,H5.out.2.2.below S⟩;rw[f1];clear a hC N a6 S f1
     go_wp2_with fail
     refine Nd Q.out.1 ?_;rintro r w9 ⟨rfl,V9,J,F,D⟩;have u:M6 (_/\_/\_):=⟨J,F.trans d.out.2.2.1.2.2,Q.out.2.2.F0 D⟩;clear J F D;go_wp2
     go_end0
     rw[Q.out.2.1];exact⟨rfl,V9,u.out.1,u.out.2.1,u.out.2.2⟩
  ·have i0:(er != 0)=true:=by simpa using hB
   go_wp2_with fail
   go_quiet (fail)
   have I:=ZE HU.out.1 nq;have T:(A.drewN nq).heap[z]?=MI (acE tk):=HU.out.2;clear v5 v8 c1 c0;generalize A.drewN nq=w3 at *;have m:=d.out.2.1.below I;have M:adU w3 bf i f:=by
    obtain⟨y,C⟩:=Z.out;have:=m.Gl d.out.2.2.2.2 y;rw[C]at this;exact this
   have e8:w3.cell? ⟨g,8,MH⟩=MI (MF ME G.cfg.ret):=by rw[<-H.out.2.2.2.1.2.1];exact m.c8
   have b9:=m.lt;have K:M6 (_/\_/\_):=⟨m,d.out.2.2.2.1.below I,T⟩;obtain⟨x0,x1,x2,x3,x4,x5,x6⟩:=M;clear m I T;have a:=HO.out;rw[Nh (NF hB)]at a;have Q:M6 (_/\_):=⟨adY K.out.1 H.out.2.2.1 U.out.1 (by have:=U.out.2;omega) 6 why,a⟩;clear a hA hB
   go_wp2_with fail
   refine Nd Q.out.1 ?_;rintro r w9 ⟨rfl,V9,J,F,D⟩;have u:M6 (_/\_/\_):=⟨J,F.trans d.out.2.2.1.2.2,K.out.2.1.F0 D⟩;clear J F D;go_wp2
   go_end0
   rw[Q.out.2];exact⟨rfl,V9,u.out.1,u.out.2.1,u.out.2.2⟩
end
section
variable {base:Nat}{w:MO}{g:Nat}{V:Vs}{G:Gt}
abbrev acH(e:Ev):Value:=Ny #[MF ME e.kind,MF ME e.key,MF ME e.slot,MF ME e.gen,M3 e.good,MF ME e.req,MF ME e.be,MF ME e.wt]
abbrev aaE(e:Ev):Obj:=MP #[MF ME e.kind,MF ME e.key,MF ME e.slot,MF ME e.gen,M3 e.good,MF ME e.req,MF ME e.be,MF ME e.wt] 76
theorem abP{q:Nat}{e:Ev}(h:W.heap[q]?=MI (aaE e)):W.cell? ⟨q,0,MH⟩=MI (MF ME e.kind)/\W.cell? ⟨q,1,MH⟩=MI (MF ME e.key)/\W.cell? ⟨q,2,MH⟩=MI (MF ME e.slot)/\W.cell? ⟨q,3,MH⟩=MI (MF ME e.gen)/\W.cell? ⟨q,4,MH⟩=MI (M3 e.good)/\W.cell? ⟨q,5,MH⟩=MI (MF ME e.req)/\W.cell? ⟨q,6,MH⟩=MI (MF ME e.be)/\W.cell? ⟨q,7,MH⟩=MI (MF ME e.wt)/\q<W.heap.size :=
 ⟨by rw[MW W _ 0 _ _ (0,0) h];rfl,by rw[MW W _ 1 _ _ (0,0) h];rfl,by rw[MW W _ 2 _ _ (0,0) h];rfl,by rw[MW W _ 3 _ _ (0,0) h];rfl,by rw[MW W _ 4 _ _ (0,0) h];rfl,by rw[MW W _ 5 _ _ (0,0) h];rfl,by rw[MW W _ 6 _ _ (0,0) h];rfl,by rw[MW W _ 7 _ _ (0,0) h];rfl,(Array.getElem?_eq_some_iff.1 h).1⟩
theorem aho{f:FuncId}{a:Array M7}(h:Ni MK f a w (aaa base w g V G')):Ni MK f a w (aam base w g V G'):=h.mono fun _ _ k=>ao8 k
theorem apj(hbs:Bs G){s n:Int}(h:∃f∈G.fls,f.slot=s/\f.gen=n){i:Nat}(hi:i=aaF G.fls s):∃f,f∈G.fls/\i<G.fls.length/\Xs G i=f:=by
 obtain⟨f,a,d,_⟩:=h;subst d;subst hi;obtain⟨b,c⟩:=hbs.GG a;exact⟨f,a,b,(XA b).trans c⟩
abbrev afN(s n:Int):Obj:=MP #[MF ME s,MF ME n] 96
abbrev alc(t:awY):Obj:=MP #[MF ME t.1,M3 t.2.1,MF ME t.2.2.1,MF ME t.2.2.2] 113
abbrev aqB(w:MO)(b:Nat)(t:awY):World:=(((w.setCell ⟨b,0,MH⟩ (MF ME t.1)).setCell ⟨b,1,MH⟩ (M3 t.2.1)).setCell ⟨b,2,MH⟩ (MF ME t.2.2.1)).setCell ⟨b,3,MH⟩ (MF ME t.2.2.2)
abbrev ajX(w:MO)(b:Nat):Prop:=w.cell? ⟨b,0,MH⟩=MI (MF ME 0)/\w.cell? ⟨b,1,MH⟩=MI (M3 Nb)/\w.cell? ⟨b,2,MH⟩=MI (MF ME 0)/\w.cell? ⟨b,3,MH⟩=MI (MF ME 0)/\w.frozen? ⟨b,0,MH⟩=Nb/\w.frozen? ⟨b,1,MH⟩=Nb/\w.frozen? ⟨b,2,MH⟩=Nb/\w.frozen? ⟨b,3,MH⟩=Nb/\b<w.heap.size
theorem aqD{b:Nat}(h:w.heap[b]?=MI (alc (0,Nb,0,0))):ajX w b :=
 ⟨by rw[MW w _ 0 _ _ (0,0) h];rfl,by rw[MW w _ 1 _ _ (0,0) h];rfl,by rw[MW w _ 2 _ _ (0,0) h];rfl,by rw[MW w _ 3 _ _ (0,0) h];rfl,by simp[Ng,h],by simp[Ng,h],by simp[Ng,h],by simp[Ng,h],(Array.getElem?_eq_some_iff.1 h).1⟩
theorem aqC{a:MO}{b:Nat}(h:MQ B a w)(hb:B<=b)(t:awY):MQ B a (aqB w b t):=
 (((h.setCell (p:=⟨b,0,MH⟩) hb _).setCell (p:=⟨b,1,MH⟩) hb _).setCell (p:=⟨b,2,MH⟩) hb _).setCell (p:=⟨b,3,MH⟩) hb _
theorem aqa(h:OR base w g V G)(hbs:Bs G)(hw:G.wnow=G.now)(hl:G.out.length<=800000)(e:Ev) :
  Ni MK 61 #[gP g,acH e] w (aam base w g V (aaq G e)):=by
 obtain⟨O,a⟩:∃O,O=aaq G e:=⟨_,rfl⟩;rw[<-a];unfold aaq at a;simp only[]at a;obtain⟨⟨⟨A,E,C,F⟩,c⟩,a0⟩:∃o,o=Yj G.tab e.slot e.gen:=⟨_,rfl⟩;rw[<-a0]at a;simp only[]at a;obtain⟨W,hW⟩:∃W,W=(w.alloc (aaE e)).alloc (afN e.slot e.gen):=⟨_,rfl⟩;have K:=acu w (aaE e) (afN e.slot e.gen);rw[<-hW]at K;obtain⟨a6,Q,hB,c7⟩:=K;have M:=h.below hB;have c0:=M.Gs;have c9:=h.lt;have b0:=M.lt;have y0:W.cell? ⟨w.heap.size+1,0,MH⟩=MI (MF ME e.slot):=by rw[MW W _ 0 _ _ (0,0) Q];rfl
 have y1:W.cell? ⟨w.heap.size+1,1,MH⟩=MI (MF ME e.gen):=by rw[MW W _ 1 _ _ (0,0) Q];rfl
 have c3:w.heap.size+1<W.heap.size:=(Array.getElem?_eq_some_iff.1 Q).1;have HG:M6 ((∀X,MQ W.heap.size W X->X.heap[W.heap.size]?=MI (alc (0,Nb,0,0))->Ni MK 91 #[Ny #[MG V.pt G.tab.length V.ct],Ny #[MF ME e.slot,MF ME e.gen]] X fun r w'=>r=MN (Nv #[Ny #[MF ME A,M3 E,MF ME C,MF ME F],MF ME c])/\ajX w' W.heap.size /\
   ∃D u,D=W.heap.size/\u=((((w'.setCell ⟨W.heap.size,0,MH⟩ (MF ME A)).setCell ⟨W.heap.size,1,MH⟩ (M3 E)).setCell ⟨W.heap.size,2,MH⟩ (MF ME C)).setCell ⟨W.heap.size,3,MH⟩ (MF ME F))/\M6 (MQ W.heap.size W u)) /\
   (∀X,MQ W.heap.size W X->Ni MK 91 #[Ny #[MG V.pt G.tab.length V.ct],Ny #[MF ME e.slot,MF ME e.gen]] X fun r w'=>r=MN (Nv #[Ny #[MF ME A,M3 E,MF ME C,MF ME F],MF ME c]) /\
   ∃D u,D=w'.heap.size/\u=w'.alloc (MP #[MF ME A,M3 E,MF ME C,MF ME F] 113)/\M6 (MQ W.heap.size W u))):=by
  have a4:∀X,MQ W.heap.size W X->Ni MK 91 #[Ny #[MG V.pt G.tab.length V.ct],Ny #[MF ME e.slot,MF ME e.gen]] X fun r w'=>r=MN (Nv #[Ny #[MF ME A,M3 E,MF ME C,MF ME F],MF ME c])/\MQ X.heap.size X w':=by
   intro X y;refine(ai5 _ G.tab e.slot e.gen X (M.rest.tab.now.below y)).mono ?_;rw[<-a0];exact fun r w' h=>h
  constructor
  ·intro X y hR
   refine(a4 X y).mono ?_;rintro r w' ⟨rfl,hb⟩;have c2:=WO hR hb;have Y:=y.trans (hb.mono y.size);exact⟨rfl,aqD c2,_,_,rfl,rfl,aqC Y (MV _) (A,E,C,F)⟩
  ·intro X y
   refine(a4 X y).mono ?_;rintro r w' ⟨rfl,hb⟩;have Y:=y.trans (hb.mono y.size);exact⟨rfl,_,_,rfl,rfl,Y.trans ((WQ w' (o:=MP #[MF ME A,M3 E,MF ME C,MF ME F] 113)).mono Y.size)⟩
 have H:M6 (_/\_/\_/\_/\_/\_/\_):=⟨M,hbs,hw,hl,a,a0,hB⟩;have HR:M6 (_/\_):=⟨a6,h⟩;clear h hbs hw hl a a0 hB a6 Q M c7;go_enter Tryz.func61,Tryz.ntmps61
 go_wp2_with fail
 rw[<-hW];clear hW;apply adX
 ·intro c6
  go_region_with (first|(go_at_call 91;refine(HG.out.1 _ (by first|exact(WQ _).drew|exact WQ _) (by first|exact M1 _ _|(show(World.alloc _ _).heap[_]?=_;exact heap_alloc_new _ _))).mono ?_;rintro r w2 ⟨rfl,⟨s0,s1,s2,s3,z0,z1,z2,z3,a9⟩,D,u,a3,a2,J⟩)|(go_at_call 91;refine(HG.out.2 _ (by first|exact(MY _ _).drew|exact Below.refl _ _)).mono ?_;rintro r w2 ⟨rfl,D,u,a3,a2,J⟩))
  all_goals
   rw[<-a2]
   try rw[<-a3]
   clear a2 a3
   try clear s0 s1 s2 s3 z0 z1 z2 z3 a9
   revert D u;exact c6.out
 intro D u J;clear c0 y0 y1 c3 b0 HG c9;have z:=H.out.1.below J.out;have T:WV V V g w u:=(WV.F5 H.out.2.2.2.2.2.2).below J.out;have S:=WO HR.out.1 J.out;obtain⟨k0,_,k2,k3,k4,_,_,_,a5⟩:=abP S;have b8:=z.lt
 by_cases hc:c=0
 ·subst hc
  have a:=H.out.2.2.2.2.1;rw[Nf (by decide)]at a;have b9:=H.out.2.1.Jv (s:=e.slot) (g:=e.gen) (by rw[<-H.out.2.2.2.2.2.1]);obtain⟨i,Z⟩:∃i,i=aaF G.fls e.slot:=⟨_,rfl⟩;obtain⟨f,a8,hi,a1⟩:=apj H.out.2.1 b9 Z;rw[<-Z]at a;rw[a1]at a;obtain⟨bf,hp,_,c1⟩:=z.bf (Pb (Nx _) hi);have I:M6 (_/\_/\_/\_/\_):=⟨ahm z hi Z.symm hp H.out.2.1.Gb,z,T,S,a⟩;have x:M6 (_/\_/\_/\_):=⟨hi,a1,hp,a8⟩;clear z T S a hi a1 hp c1 a8 Z
  go_wp2_with fail
  refine Nd I.out.1 ?_;rintro r w4 ⟨rfl,P⟩;have U:=I.out.2.1.below P;have a7:=WO I.out.2.2.2.1 P;have K:=U.Gw x.out.2.2.1 x.out.1;rw[x.out.2.1]at K;obtain⟨x0,x1,x2,x3,x4,x5,x6⟩:=K;clear k0 k2 k3 k4 a5 b8;obtain⟨k0,_,_,_,k4,_,_,_,a5⟩:=abP a7;have d1:=U.lt;have t:M6 (_/\_):=⟨U,I.out.2.2.1.below P⟩;clear U a7 P;have a:=I.out.2.2.2.2
  by_cases h3:e.kind=3
  ·rw[Nh h3]at a
   rw[h3]at k0;have d:M6 (_/\_):=⟨adY t.out.1 H.out.2.1 x.out.2.2.2 (by have:=H.out.2.2.2.1;omega) 7 0,a⟩;clear a h3
   go_wp2_with fail
   refine Nd d.out.1 ?_;rintro r N ⟨rfl,q,m,p,j⟩;have b:M6 (_/\_/\_):=⟨m,p,t.out.2.F0 j⟩;clear m p j;go_wp2
   go_end0
   rw[d.out.2];exact⟨rfl,q,b.out.1,b.out.2.1,b.out.2.2⟩
  ·rw[Nf h3]at a
   have d0:(e.kind == 3)=false:=by rw[Oh];exact h3
   by_cases h2:e.kind=2
   ·rw[Nh h2]at a
    rw[h2]at k0;have d:M6 (_/\_):=⟨ao4 t.out.1 H.out.2.1 H.out.2.2.1 (by have:=H.out.2.2.2.1;omega) x.out.1 x.out.2.2.1,a⟩;clear a h3 d0 h2
    go_wp2_with fail
    refine Nd d.out.1 ?_;rintro r N ⟨rfl,q,m,p,j⟩;have b:M6 (_/\_/\_):=⟨m,p,t.out.2.F0 j⟩;clear m p j;go_wp2
    go_end0
    rw[d.out.2];exact⟨rfl,q,b.out.1,b.out.2.1,b.out.2.2⟩
   ·rw[Nf h2]at a
    have d2:(e.kind == 2)=false:=by rw[Oh];exact h2
    cases hs:f.srv
    ·rw[hs]at x4 a
     rw[Nf (by decide)]at a;cases hg:e.good
     ·rw[hg]at k4 a
      rw[Nf (by decide)]at a;have d:M6 (_/\_):=⟨akl t.out.1 H.out.2.1 H.out.2.2.1 H.out.2.2.2.1 x.out.1 x.out.2.2.1 3,a⟩;clear a h3 h2
      go_wp2_with fail
      refine Nd d.out.1 ?_;rintro r N ⟨rfl,q,m,p,j⟩;have b:M6 (_/\_/\_):=⟨m,p,t.out.2.F0 j⟩;clear m p j;go_wp2
      go_end0
      rw[d.out.2];exact⟨rfl,q,b.out.1,b.out.2.1,b.out.2.2⟩
     ·rw[hg]at k4 a
      rw[Nh rfl]at a;have d:M6 (_/\_):=⟨aqy t.out.1 H.out.2.1 H.out.2.2.1 (by have:=H.out.2.2.2.1;omega) x.out.1 x.out.2.2.1,a⟩;clear a h3 h2
      go_wp2_with fail
      refine Nd d.out.1 ?_;rintro r N ⟨rfl,q,m,p,j⟩;have b:M6 (_/\_/\_):=⟨m,p,t.out.2.F0 j⟩;clear m p j;go_wp2
      go_end0
      rw[d.out.2];exact⟨rfl,q,b.out.1,b.out.2.1,b.out.2.2⟩
    ·rw[hs]at x4 a
     rw[Nh rfl]at a;have d:M6 (_/\_):=⟨aho (af1 t.out.1 (by have:=H.out.2.2.2.1;omega) 10 7),a⟩;clear a h3 h2
     go_wp2_with fail
     refine Nd d.out.1 ?_;rintro r N ⟨rfl,q,m,p,j⟩;have b:M6 (_/\_/\_):=⟨m,p,t.out.2.F0 j⟩;clear m p j;go_wp2
     go_end0
     rw[d.out.2];exact⟨rfl,q,b.out.1,b.out.2.1,b.out.2.2⟩
 ·have d3:(c != 0)=true:=by simpa using hc
  have a:=H.out.2.2.2.2.1;rw[Nh hc]at a;have d:M6 (_/\_/\_):=⟨aho (af1 z (by have:=H.out.2.2.2.1;omega) 10 c),a,T⟩;clear a hc z T S
  go_wp2_with fail
  refine Nd d.out.1 ?_;rintro r N ⟨rfl,q,m,p,j⟩;have b:M6 (_/\_/\_):=⟨m,p,d.out.2.2.F0 j⟩;clear m p j;go_wp2
  go_end0
  rw[d.out.2.1];exact⟨rfl,q,b.out.1,b.out.2.1,b.out.2.2⟩
end
section
variable {base:Nat}{w:MO}{g:Nat}{V:Vs}{G:Gt}
abbrev acD(a b:M7):Obj:=MP #[a,b] 50
theorem aj3{a b:M7}(h:Yw B w va vb L R)(hk:k<B):Yw B ((w.setCell ⟨k,0,MH⟩ a).setCell ⟨k,1,MH⟩ b) va vb L R:=by
 have d:∀x,B<=x->((w.setCell ⟨k,0,MH⟩ a).setCell ⟨k,1,MH⟩ b).heap[x]?=w.heap[x]?:=fun x hx=>by
  have c:x≠k:=by omega
  rw[MU _ _ _ _ c,MU _ _ _ _ c]
 exact⟨⟨aat.Gf h.1.1 (by simp) fun x hx=>d x (h.2.1 x hx),aat.Gf h.1.2 (by simp) fun x hx=>d x (h.2.2 x hx)⟩,h.2⟩
theorem aj2(h:Yw B w va vb L R)(hb:MQ w.heap.size w w'):Yw B w' va vb L R:=⟨h.1.below hb,h.2⟩
theorem afF{A:Nat}(h:Yw B w va vb L R)(hb:A<=B):Yw A w va vb L R:=⟨h.1,fun b e=>Nm hb (h.2.1 b e),fun b e=>Nm hb (h.2.2 b e)⟩
def aog(base:Nat)(w:MO)(g:Nat)(V:Vs)(G':Gt)(b:Bool)(r:Ending)(w':MO):Prop :=
 r=MN (M3 b)/\∃V',OR base w' g V' G'/\(V'.pf=V.pf/\V'.cf=V.cf/\V'.bh=V.bh)/\WV V V' g w w'
abbrev ak2(a b c d e:Int):Obj:=MP #[MF ME a,MF ME b,MF ME c,MF ME d,MF ME e] 153
theorem aok(hb:MQ W.heap.size W w5)(hk:Yw X.heap.size w5 va vb L R)(hs:W.heap.size<=X.heap.size):
  ∃bx u3,bx=w5.heap.size/\u3=w5.alloc (acD va vb)/\M6 (MQ W.heap.size W u3/\u3.heap[bx]?=MI (acD va vb)/\W.heap.size<=bx/\Yw W.heap.size u3 va vb L R):=
 ⟨_,_,rfl,rfl,hb.trans ((WQ w5).mono hb.size),M1 _ _,hb.size,afF (aj2 hk (WQ w5)) hs⟩
theorem aol(hT:X.heap[W.heap.size]?=MI (acD (MG MH 0 0) (MG MH 0 0)))(hX:MQ X.heap.size X w5)(hb:MQ W.heap.size W w5)(hk:Yw X.heap.size w5 va vb L R):
  ∃bx u3,bx=W.heap.size/\u3=(w5.setCell ⟨W.heap.size,0,MH⟩ va).setCell ⟨W.heap.size,1,MH⟩ vb/\M6 (MQ W.heap.size W u3/\u3.heap[bx]?=MI (acD va vb)/\W.heap.size<=bx/\Yw W.heap.size u3 va vb L R):=by
 have a:W.heap.size<X.heap.size:=(Array.getElem?_eq_some_iff.1 hT).1;exact⟨_,_,rfl,rfl,afD hb (MV _) 0 1 _ _,acb (WO hT hX),MV _,afF (aj3 hk a) (PJ a)⟩
theorem ajZ(h:OR base w g V G)(hl:G.out.length<=1000000)(kind:Int)(e:Ev) :
  Ni MK 62 #[gP g,MF ME kind,acH e] w (aog base w g V (Yv G kind e) (acC G kind e)):=by
 obtain⟨⟨⟨t,x⟩,I,T,er⟩,P⟩:∃O,O=YV G kind e:=⟨_,rfl⟩;have a1:Yv G kind e=ZM {G with liv:=t,req:=x} ⟨8,0,0,0,e.req,I,0⟩:=by unfold Yv;rw[<-P]
 have a0:acC G kind e=(T && (I == 0)):=by unfold acC;rw[<-P]
 rw[a1,a0];obtain⟨W,Y⟩:∃W,W=(w.alloc (aaE e)).alloc (ak2 e.req kind e.be e.wt 0):=⟨_,rfl⟩;have hx:=acu w (aaE e) (ak2 e.req kind e.be e.wt 0);rw[<-Y]at hx;obtain⟨a5,j,Z,c0⟩:=hx;have i:=h.below Z;have a7:=i.Gn;have b8:=i.GD;have a2:=i.Gm;have c5:=i.c5;have d7:=h.lt;have E:=i.lt;have y0:W.cell? ⟨w.heap.size+1,0,MH⟩=MI (MF ME e.req):=by rw[MW W _ 0 _ _ (0,0) j];rfl
 have y1:W.cell? ⟨w.heap.size+1,1,MH⟩=MI (MF ME kind):=by rw[MW W _ 1 _ _ (0,0) j];rfl
 have y2:W.cell? ⟨w.heap.size+1,2,MH⟩=MI (MF ME e.be):=by rw[MW W _ 2 _ _ (0,0) j];rfl
 have y3:W.cell? ⟨w.heap.size+1,3,MH⟩=MI (MF ME e.wt):=by rw[MW W _ 3 _ _ (0,0) j];rfl
 have y4:W.cell? ⟨w.heap.size+1,4,MH⟩=MI (MF ME 0):=by rw[MW W _ 4 _ _ (0,0) j];rfl
 have C:w.heap.size+1<W.heap.size:=(Array.getElem?_eq_some_iff.1 j).1;have HK:M6 (∀X,MQ W.heap.size W X->Ni MK 97 #[Ny #[MG V.pl G.liv.length V.cl,MG V.pr G.req.length V.cr],Ny #[MF ME e.req,MF ME kind,MF ME e.be,MF ME e.wt,MF ME 0],MF ME G.now,MF ME G.cfg.drain] X fun r w'=>∃p c q m,r=MN (Nv #[Ny #[MG p t.length c,MG q x.length m],MF ME I,M3 T,MF ME er]) /\
    M6 (MQ X.heap.size X w'/\MQ W.heap.size W w'/\Yw X.heap.size w' (MG p t.length c) (MG q x.length m) t x/\W.heap.size<=X.heap.size)/\(∀n,n<X.heap.size->n<w'.heap.size)/\(∀b o,b<X.heap.size->w'.cell? ⟨b,o,MH⟩=X.cell? ⟨b,o,MH⟩)/\(∀b o,b<X.heap.size->w'.frozen? ⟨b,o,MH⟩=X.frozen? ⟨b,o,MH⟩)):=fun X hX=>by
  refine(arO _ _ G.liv G.req e.req kind e.be e.wt 0 G.now G.cfg.drain X (i.below hX).rest.book.now).mono ?_;have c3:ZU G.liv G.req (e.req,kind,e.be,e.wt,0) G.now G.cfg.drain=((t,x),I,T,er):=P.symm;rw[c3];rintro r w' ⟨p,c,q,m,rfl,N,K⟩;exact⟨p,c,q,m,rfl,⟨K,hX.trans (K.mono hX.size),N,hX.size⟩,fun n hn=>M8 hn K.size,fun b o hb'=>K.cell (p:=⟨b,o,MH⟩) hb',fun b o hb'=>OM (a:=⟨b,o,MH⟩) (K.block b hb')⟩
 have y:M6 (∀X,MQ W.heap.size W X->X.cell? ⟨g,19,MH⟩=MI (MG V.pl G.liv.length V.cl)/\X.cell? ⟨g,20,MH⟩=MI (MG V.pr G.req.length V.cr)/\X.cell? ⟨g,16,MH⟩=MI (MF ME G.now)/\X.cell? ⟨g,5,MH⟩=MI (MF ME G.cfg.drain)/\X.cell? ⟨w.heap.size+1,0,MH⟩=MI (MF ME e.req)/\X.cell? ⟨w.heap.size+1,1,MH⟩=MI (MF ME kind)/\X.cell? ⟨w.heap.size+1,2,MH⟩=MI (MF ME e.be)/\X.cell? ⟨w.heap.size+1,3,MH⟩=MI (MF ME e.wt)/\X.cell? ⟨w.heap.size+1,4,MH⟩=MI (MF ME 0)/\MQ W.heap.size W X):=fun X hX =>
  ⟨(hX.cell E).trans a7,(hX.cell E).trans b8,(hX.cell E).trans a2,(hX.cell E).trans c5,(hX.cell C).trans y0,(hX.cell C).trans y1,(hX.cell C).trans y2,(hX.cell C).trans y3,(hX.cell C).trans y4,hX⟩
 have H:M6 (_/\_/\_/\_):=⟨i,hl,WV.F5 (V:=V) (g:=g) Z,a5⟩;clear P a1 a0 Z a5 j c0 i h hl;go_enter Vq,Vl
 go_wp2_with fail
 rw[<-Y];clear Y;apply adX
 ·intro a9
  go_region_held3 (fun X=>X.cell? ⟨g,19,MH⟩=MI (MG V.pl G.liv.length V.cl)/\X.cell? ⟨g,20,MH⟩=MI (MG V.pr G.req.length V.cr)/\X.cell? ⟨g,16,MH⟩=MI (MF ME G.now)/\X.cell? ⟨g,5,MH⟩=MI (MF ME G.cfg.drain)/\X.cell? ⟨w.heap.size+1,0,MH⟩=MI (MF ME e.req)/\X.cell? ⟨w.heap.size+1,1,MH⟩=MI (MF ME kind)/\X.cell? ⟨w.heap.size+1,2,MH⟩=MI (MF ME e.be)/\X.cell? ⟨w.heap.size+1,3,MH⟩=MI (MF ME e.wt)/\X.cell? ⟨w.heap.size+1,4,MH⟩=MI (MF ME 0)/\MQ W.heap.size W X) (first|exact y.out _ ((MY _ _).drew)|exact y.out _ (((MY _ _).drew).alloc (by simp) _)|exact y.out _ d.out.2.1|exact y.out _ (d.out.2.1.alloc d.out.2.1.size _)|exact y.out _ (((MY _ _).alloc (MV _) _).drew)|exact y.out _ (afD d.out.2.1 (MV _) 0 1 _ _)) (first|(go_at_call 97;refine(HK.out _ ?hbW).mono ?_;(case hbW=>first|with_reducible assumption|exact(MY _ _).drew|exact((MY _ _).drew).alloc (by simp) _|exact((Below.refl _ _).alloc (Nat.le_refl _) _).drew);rintro r w5 ⟨p,c,q,m,rfl,d,c6,c2,c1⟩))
  all_goals
   clear c6 c2 c1;rename_i hHe;clear hHe
   first
   | (obtain⟨u,f,s,J,Q⟩:=aok d.out.2.1 d.out.2.2.1 d.out.2.2.2
      rw[<-J]
      try rw[<-s]
      clear J s d;revert p c q m u f;exact a9.out)
   | (obtain⟨u,f,s,J,Q⟩:=aol (W:=W) (by first|exact M1 _ _|(show(World.alloc _ _).heap[_]?=_;exact heap_alloc_new _ _)) d.out.1 d.out.2.1 d.out.2.2.1
      rw[<-J]
      try rw[<-s]
      clear J s d;revert p c q m u f;exact a9.out)
 intro p c q m u f Q;clear a7 b8 a2 c5 y0 y1 y2 y3 y4 C E HK y;obtain⟨A,M,s,N⟩:=Q.out;clear Q;have z:=H.out.1.below A;have k0:f.cell? ⟨u,0,MH⟩=MI (MG p t.length c):=by rw[MW f _ 0 _ _ (0,0) M];rfl
 have k1:f.cell? ⟨u,1,MH⟩=MI (MG q x.length m):=by rw[MW f _ 1 _ _ (0,0) M];rfl
 have d3:u<f.heap.size:=(Array.getElem?_eq_some_iff.1 M).1;have d4:=z.Gn;have d1:=z.GD;have d6:=z.fz 19;have d2:=z.fz 20;have c9:=z.lt;obtain⟨S,F⟩:∃S,S=(f.setCell ⟨g,19,MH⟩ (MG p t.length c)).setCell ⟨g,20,MH⟩ (MG q x.length m):=⟨_,rfl⟩;have U:=H.out.1.Iq A N;rw[<-F]at U;have a8:WV V {V with pl:=p,cl:=c,pr:=q,cr:=m} g w S:=by
  rw[F];exact(((H.out.2.2.1.below A).F4 19 _).F4 20 _).Gp fun _ h=>h
 have b9:S.heap[w.heap.size]?=MI (aaE e):=by
  have b0:w.heap.size≠g:=by omega
  rw[F,MU _ _ _ _ b0,MU _ _ _ _ b0];exact WO H.out.2.2.2 A
 obtain⟨_,_,_,_,_,v5,_,_,d5⟩:=abP (WO H.out.2.2.2 A);have d0:¬w.heap.size=g:=by omega
 have c7:¬g=w.heap.size:=by omega
 have H4:M6 (_/\_):=⟨aeR U H.out.2.1 ⟨8,0,0,0,e.req,I,0⟩,a8⟩;clear z U a8 b9 A M N s
 go_wp2_with fail
 rw[<-F];clear F;refine Nd H4.out.1 ?_;rintro r w5 ⟨rfl,V5,a6,a3,a4⟩;have D:M6 (_/\_/\_):=⟨a6,a3,H4.out.2.F0 a4⟩;clear a6 a3 a4;cases T
 ·go_wp2
  go_ret;exact⟨rfl,V5,D.out.1,D.out.2.1,D.out.2.2⟩
 ·go_wp2
  go_ret;exact⟨by simp,V5,D.out.1,D.out.2.1,D.out.2.2⟩
end
section
variable {base:Nat}{w:MO}{g:Nat}{V:Vs}{G:Gt}
theorem akv{r:Ending}{w1:MO}{V1:Vs}(hF:WV V V1 g w w1)(hV:V1.pf=V.pf/\V1.cf=V.cf/\V1.bh=V.bh)(h:aaa base w1 g V1 G' r w'):aaa base w g V G' r w':=by
 obtain⟨d,e,b,a,c⟩:=h;exact⟨d,e,b,⟨a.1.trans hV.1,a.2.1.trans hV.2.1,a.2.2.trans hV.2.2⟩,hF.F0 c⟩
theorem aon(kind:Int)(e:Ev):(Yv G kind e).wts=G.wts/\(Yv G kind e).out.length=G.out.length+1/\(Yv G kind e).cfg=G.cfg:=⟨rfl,by show(G.out++[_]).length=_;simp,rfl⟩
theorem aqn(h:OR base w g V G)(him:Im G)(hl:G.out.length<=900000)(e:Ev)(he:XZ e) :
  Ni MK 63 #[gP g,acH e] w (aaa base w g V (abg G e)):=by
 obtain⟨O,d⟩:∃O,O=abg G e:=⟨_,rfl⟩;rw[<-d];unfold abg at d;obtain⟨x,hx⟩:∃x,x=WS G.liv e.be:=⟨_,rfl⟩;obtain⟨W,Y⟩:∃W,W=w.alloc (aaE e):=⟨_,rfl⟩;have hB:MQ w.heap.size w W:=by rw[Y];exact WQ w
 have hR:W.heap[w.heap.size]?=MI (aaE e):=by rw[Y];exact M1 _ _
 have hG:=h.below hB;have b8:∀X:MO,(Instr.field 150 (abR x) 1).run MK X=.ok (MF ME x.2.1) X:=fun X=>by kernel_rfl
 obtain⟨_,_,_,_,_,_,z,_,y⟩:=abP hR;have d8:=h.lt;have c2:¬V.own g w.heap.size:=h.rest.new (MV _);have HL:=afR hG e.be;rw[<-hx]at HL;have a5:WY G.liv e.be=x.2.1:=by rw[hx]
 rw[a5]at d;have H:M6 (_/\_/\_/\_/\_/\_/\_/\_):=⟨HL,hG,hR,WV.F5 (V:=V) (g:=g) hB,him,hl,d,a5⟩;have HE:M6 _:=he;have a9:M6 _:=c2;clear HL hG hR hB him hl d a5 h he hx c2;go_enter Tryz.func63,Tryz.ntmps63
 go_wp2_with fail
 rw[<-Y];clear Y;refine Nd H.out.1 ?_;rintro r w1 ⟨rfl,D⟩;have a3:=H.out.2.1.below D;have M:=WO H.out.2.2.1 D;have N:=H.out.2.2.2.1.below D;clear z y;obtain⟨k0,k1,k2,k3,k4,k5,z,k7,y⟩:=abP M;have F:=ajZ a3 (by have:=H.out.2.2.2.2.2.1;omega) 2 e;obtain⟨b,Z⟩:∃b,b=acC G 2 e:=⟨_,rfl⟩;have d:=H.out.2.2.2.2.2.2.1;rw[<-Z]at F d;have HB:M6 _:=Z;cases b
 ·rw[Nh rfl]at d
  have m:M6 (_/\_/\_):=⟨F,N,d⟩;clear F N d Z a3 M D
  go_wp2_with fail
  refine Nd m.out.1 ?_;rintro r S ⟨rfl,o,i,s,q⟩;have f:M6 (_/\_/\_):=⟨i,s,m.out.2.1.F0 q⟩;clear i s q;go_wp2
  go_end0
  rw[m.out.2.2];exact⟨rfl,o,f.out.1,f.out.2.1,f.out.2.2⟩
 ·rw[Nf (by decide)]at d
  have m:M6 (_/\_/\_/\_):=⟨F,N,d,M⟩;clear F N d Z a3 M D
  go_wp2_with fail
  refine Nd m.out.1 ?_;rintro r S ⟨rfl,o,i,s,q⟩;have Q:=q.Gf m.out.2.2.2 a9.out;have d6:=q.Ik (Array.getElem?_eq_some_iff.1 m.out.2.2.2).1 a9.out;clear k0 k1 k2 k3 k4 k5 z k7 y;obtain⟨_,_,_,_,_,k5,z,_,y⟩:=abP Q;have j:=aon (G:=G) 2 e;have C:(Yv G 2 e).out.length<=1000000:=by rw[j.2.1];have:=H.out.2.2.2.2.2.1;omega
  have I:=m.out.2.1.F0 q;have d:=m.out.2.2.1;obtain⟨U,J⟩:∃U,U=x.2.1:=⟨_,rfl⟩;rw[<-J]at d⊢
  by_cases h1:U=1
  ·rw[Nh h1]at d
   subst h1;have f:M6 (_/\_/\_/\_):=⟨alj i C e.be e.req,s,I,d⟩;clear i s q I d Q C j J b8
   go_wp2_with fail
   refine Nd f.out.1 ?_;rintro r w3 ⟨rfl,V3,E⟩;have H3:M6 _:=E;clear E;go_wp2
   go_end0
   rw[f.out.2.2.2];exact akv f.out.2.2.1 f.out.2.1 ⟨rfl,V3,H3.out⟩
  ·rw[Nf h1]at d
   have d9:(U == 1)=false:=beq_eq_false_iff_ne.2 h1;have a6:=ahC H.out.2.2.2.2.1.bs (e:=e) HE.out.req;rw[<-HB.out]at a6;obtain⟨u,P⟩:=NL HE.out.be.1;have a0:u<12:=by have:=HE.out.be.2;omega
   have a1:WY G.liv e.be=2:=by
    rcases a6 with⟨h,_⟩|⟨_,_,_,h,_⟩
    ·cases h
    ·rcases h with h|h
     ·rw[H.out.2.2.2.2.2.2.2,<-J]at h;exact absurd h h1
     ·exact h
   have a7:0<G.wts.getD u 0:=by
    have h2:=H.out.2.2.2.2.1.ring u a0;rw[h2,<-P,Nh a1];have:=H.out.2.2.2.2.1.bs.Iv (b:=e.be) (by rw[a1];decide);omega
   obtain⟨A,hA⟩:∃A,A=Yv G 2 e:=⟨_,rfl⟩;rw[<-hA]at i C j d;have a8:e.be.toNat=u:=by rw[P];rfl
   rw[a8]at d;have b9:XI A.wts:=by rw[j.1];exact H.out.2.2.2.2.1.bs.wts
   have c6:=i.GX;have c9:=i.lt;rw[j.1]at c6;have a4:OR base S g o {A with wts:=G.wts}:=by rw[<-j.1];exact i
   have b0:M6 (∀X,MQ S.heap.size S X->Ni MK 101 #[Ny #[MG o.ps (WW G.wts).length o.cs],MF ME e.be] X fun r w'=>∃p c n,r=MN (Nv #[Ny #[MG p n c],MF ME 0])/\w'.cell? ⟨g,21,MH⟩=MI (MG o.ps (WW G.wts).length o.cs)/\w'.frozen? ⟨g,21,MH⟩=Nb/\g<w'.heap.size /\
     ∃t,t=w'.setCell ⟨g,21,MH⟩ (MG p n c)/\M6 (OR base t g {o with ps:=p,cs:=c} {A with wts:=G.wts.set u 0}/\WV V {o with ps:=p,cs:=c} g w t/\t.heap[w.heap.size]?=MI (aaE e))):=by
    intro X T;rw[P];refine(at1 _ G.wts u X (by rw[<-j.1];exact b9) (by rw[<-j.1];exact(i.below T).rest.ring.now) a0 a7).mono ?_;rintro r w' ⟨p,c,rfl,ho,d7⟩;have K:=T.trans (d7.mono T.size);have a2:=a4.below K;have d3:=a4.IJ (a:=G.wts.set u 0) K (ho.mono T.size);refine⟨p,c,_,rfl,a2.GX,a2.fz 21,a2.lt,_,rfl,d3,((I.below K).F4 21 _).Gp fun _ h=>h,?_⟩;have d0:w.heap.size≠g:=by omega
    rw[MU _ _ _ _ d0];exact WO Q K
   have f:M6 (_/\_/\_):=⟨s,d,C⟩;clear i s q I d Q C j J b8 a4 b9 a7 a1 a6 hA h1 d6 a8 P a0
   go_wp2_with fail
   apply adX
   ·intro d5
    go_region_with (first|(go_at_call 101;refine(b0.out _ (by first|exact(MY _ _).drew|exact Below.refl _ _)).mono ?_;rintro r w3 ⟨p,c,n,rfl,d4,d2,d1,t,c7,hQ⟩))
    all_goals
     rw[<-c7];clear c7 d4 d2 d1;revert p c n t;exact d5.out
   intro p c n t hQ;obtain⟨c1,c3,c0⟩:=hQ.out;clear hQ b0 c6 c9 k5 z y;obtain⟨_,_,_,_,_,_,z,_,y⟩:=abP c0;have H4:M6 (_/\_):=⟨ahg c1 f.out.2.2 e.be,c3⟩;clear c1 c3 c0
   go_wp2_with fail
   refine Nd H4.out.1 ?_;rintro r w5 ⟨rfl,V5,E⟩;have H5:M6 _:=E;clear E;go_wp2
   go_end0
   rw[f.out.2.1];exact akv H4.out.2 f.out.1 ⟨rfl,V5,H5.out⟩
end
section
variable {base:Nat}{w:MO}{g:Nat}{V:Vs}{G:Gt}
theorem aeJ{g:Nat}{V V':Vs}(h:aaf w v l)(hF:WV V V' g w w')(hn:∀b,v.ownBlock=MI b->¬V.own g b):aaf w' v l:=by
 obtain⟨a,j,d,p,m,c⟩:=h;refine⟨a,j,d,p,m,?_⟩;rcases c with c|⟨b,off,e,f,o⟩
 ·exact Nt c
 ·refine NF ⟨b,off,e,M8 f hF.size,fun i hi=>?_⟩
  rw[<-o i hi];have:=hF.block b f (hn b (by rw[d,e];rfl));simp only[Nl,this]
theorem aq3(h:Im G)(hk:k<(XW G.liv).length):∃b:Nat,b<12/\(XW G.liv)[k]=(b:Int)/\¬0<(((XW G.liv).take k).foldl YX {G with liv:=G.liv.map (XH G.now)}).wts.getD b 0:=by
 have s:=Nk hk;obtain⟨x,m,u,i⟩:=ad2.1 s;have q:=(h.bs.lf m).1.1;rw[<-i];obtain⟨b,a⟩:=NL q.1;refine⟨b,by omega,a,?_⟩;have o:∀c∈(XW G.liv).take k,0<=c/\c<12:=fun c d=>by
  obtain⟨y,t,_,e⟩:=ad2.1 (List.mem_of_mem_take d);have:=(h.bs.lf t).1.1;omega
 have f:=alq (L:=G.liv) h.bs.Gv;rw[aln _ {G with liv:=G.liv.map (XH G.now)} h.bs.wts.1 o (f.sublist (List.take_sublist _ _)) b (by omega)];have r:(b:Int)∉ (XW G.liv).take k:=by
  rw[<-a,i];intro d;obtain⟨j,z,e⟩:=List.mem_iff_getElem.1 d;rw[List.getElem_take]at e;rw[NH]at z;exact List.pairwise_iff_getElem.1 f j k (by omega) hk (by omega) e
 rw[Nf r];show ¬0<G.wts.getD b 0;rw[h.ring b (by omega),<-a];have p:WY G.liv x.1=1:=by show(WS G.liv x.1).2.1=1;rw[abd h.bs.Gv m];exact u
 rw[Nf (by rw[p];decide)]
 decide
theorem aqZ{vs:M7}(hb:MQ W.heap.size W w5)(hk:Yw X.heap.size w5 va vb L R)(hs:W.heap.size<=X.heap.size)(hi:aaf w5 vs l)(hn:∀b,vs.ownBlock=MI b->X.heap.size<=b):
  ∃bx u3,bx=w5.heap.size/\u3=w5.alloc (acD va vb)/\M6 (MQ W.heap.size W u3/\u3.heap[bx]?=MI (acD va vb)/\W.heap.size<=bx/\Yw W.heap.size u3 va vb L R/\aaf u3 vs l/\∀b,vs.ownBlock=MI b->W.heap.size<=b):=
 ⟨_,_,rfl,rfl,hb.trans ((WQ w5).mono hb.size),M1 _ _,hb.size,afF (aj2 hk (WQ w5)) hs,aat.below hi (WQ w5),fun b e=>Nm hs (hn b e)⟩
theorem aq0{vs:M7}(hT:X.heap[W.heap.size]?=MI (acD (MG MH 0 0) (MG MH 0 0)))(hX:MQ X.heap.size X w5)(hb:MQ W.heap.size W w5)(hk:Yw X.heap.size w5 va vb L R)(hi:aaf w5 vs l)(hn:∀b,vs.ownBlock=MI b->X.heap.size<=b):
  ∃bx u3,bx=W.heap.size/\u3=(w5.setCell ⟨W.heap.size,0,MH⟩ va).setCell ⟨W.heap.size,1,MH⟩ vb/\M6 (MQ W.heap.size W u3/\u3.heap[bx]?=MI (acD va vb)/\W.heap.size<=bx/\Yw W.heap.size u3 va vb L R/\aaf u3 vs l/\∀b,vs.ownBlock=MI b->W.heap.size<=b):=by
 have a:W.heap.size<X.heap.size:=(Array.getElem?_eq_some_iff.1 hT).1;refine⟨_,_,rfl,rfl,afD hb (MV _) 0 1 _ _,acb (WO hT hX),MV _,afF (aj3 hk a) (PJ a),aat.Gf hi (by simp) fun b e=>?_,fun b e=>Nm (PJ a) (hn b e)⟩;have c:b≠W.heap.size:=by have:=hn b e;omega
 rw[MU _ _ _ _ c,MU _ _ _ _ c]
theorem aq1(b:Nat):YX G (b:Int)={G with hea:=G.hea.set b XM,wts:=G.wts.set b (WS G.liv (b:Int)).2.2.1}:=rfl
theorem aq2(h:OR base w g V G)(him:Im G) :
  Ni MK 103 #[gP g] w (aaa base w g V (YH G)):=by
 rw[af3 him.bs];have c6:abn G.liv G.req G.now=((G.liv.map (XH G.now),G.req),XW G.liv,0):=amf him.bs.book him.bs.GN;obtain⟨d,a0⟩:∃d,d=XW G.liv:=⟨_,rfl⟩;obtain⟨C,a4⟩:∃C,C=G.liv.map (XH G.now):=⟨_,rfl⟩;have d6:∀(k:Nat) (hk:k<d.length),∃b:Nat,b<12/\d[k]=(b:Int)/\¬0<((d.take k).foldl YX {G with liv:=C}).wts.getD b 0:=by rw[a0,a4];exact fun k hk=>aq3 him hk
 have f5:∀b∈d,WY C b≠0:=by rw[a0,a4];exact fun b y=>by rw[alr him.bs y];decide
 have e3:Bs {G with liv:=C}:=by rw[a4];exact him.bs.IP
 have j2:d.length<=900:=by
  rw[a0];unfold XW;rw[N0];exact Nm (O1 _ _) (by have:=him.bs.book.1.1;omega)
 rw[<-a0,<-a4]at c6⊢;have e6:=h.Gn;have f6:=h.GD;have e4:=h.Gm;have d2:=h.lt;have HK:M6 (∀X,MQ w.heap.size w X->Ni MK 148 #[Ny #[MG V.pl G.liv.length V.cl,MG V.pr G.req.length V.cr],MF ME G.now] X fun r w'=>∃p c q m s k,r=MN (Nv #[Ny #[MG p C.length c,MG q G.req.length m],MG s d.length k,MF ME 0]) /\
    M6 (MQ X.heap.size X w'/\MQ w.heap.size w w'/\Yw X.heap.size w' (MG p C.length c) (MG q G.req.length m) C G.req/\w.heap.size<=X.heap.size/\aaf w' (MG s d.length k) d/\(∀b,(MG s d.length k).ownBlock=MI b->X.heap.size<=b))/\(∀n,n<X.heap.size->n<w'.heap.size)/\(∀b o,b<X.heap.size->w'.cell? ⟨b,o,MH⟩=X.cell? ⟨b,o,MH⟩)/\(∀b o,b<X.heap.size->w'.frozen? ⟨b,o,MH⟩=X.frozen? ⟨b,o,MH⟩)):=fun X hX=>by
  refine(asE _ _ G.liv G.req G.now X (h.below hX).rest.book.now).mono ?_;rw[c6];rintro r w' ⟨p,c,q,m,s,k,rfl,b8,g9,y,f9⟩;exact⟨p,c,q,m,s,k,rfl,⟨y,hX.trans (y.mono hX.size),b8,hX.size,g9,f9⟩,fun n hn=>M8 hn y.size,fun b o a1=>y.cell (p:=⟨b,o,MH⟩) a1,fun b o a1=>OM (a:=⟨b,o,MH⟩) (y.block b a1)⟩
 have Q:M6 (∀X,MQ w.heap.size w X->X.cell? ⟨g,19,MH⟩=MI (MG V.pl G.liv.length V.cl)/\X.cell? ⟨g,20,MH⟩=MI (MG V.pr G.req.length V.cr)/\X.cell? ⟨g,16,MH⟩=MI (MF ME G.now)/\MQ w.heap.size w X):=fun X hX =>
  ⟨(hX.cell d2).trans e6,(hX.cell d2).trans f6,(hX.cell d2).trans e4,hX⟩
 have H:M6 (_/\_/\_/\_):=⟨h,d6,f5,e3⟩;clear d6 f5 e3 h him c6 a0 a4;go_enter R3,RP
 go_wp2_with fail
 apply adX
 ·intro b0
  go_region_held3 (fun X=>X.cell? ⟨g,19,MH⟩=MI (MG V.pl G.liv.length V.cl)/\X.cell? ⟨g,20,MH⟩=MI (MG V.pr G.req.length V.cr)/\X.cell? ⟨g,16,MH⟩=MI (MF ME G.now)/\MQ w.heap.size w X) (first|exact Q.out _ ((MY _ _).drew)|exact Q.out _ (((MY _ _).drew).alloc (by simp) _)|exact Q.out _ A.out.2.1|exact Q.out _ (A.out.2.1.alloc A.out.2.1.size _)|exact Q.out _ (((MY _ _).alloc (MV _) _).drew)|exact Q.out _ (afD A.out.2.1 (MV _) 0 1 _ _)) (first|(go_at_call 148;refine(HK.out _ ?hbW).mono ?_;(case hbW=>first|with_reducible assumption|exact(MY _ _).drew|exact((MY _ _).drew).alloc (by simp) _|exact((Below.refl _ _).alloc (Nat.le_refl _) _).drew);rintro r w5 ⟨p,c,q,m,s,k,rfl,A,i9,h9,h8⟩))
  all_goals
   clear i9 h9 h8;rename_i hHe;clear hHe
   first
   | (obtain⟨S,i,P,N,O⟩:=aqZ A.out.2.1 A.out.2.2.1 A.out.2.2.2.1 A.out.2.2.2.2.1 A.out.2.2.2.2.2
      rw[<-N]
      try rw[<-P]
      clear N P A;revert p c q m s k S i;exact b0.out)
   | (obtain⟨S,i,P,N,O⟩:=aq0 (W:=w) (by first|exact M1 _ _|(show(World.alloc _ _).heap[_]?=_;exact heap_alloc_new _ _)) A.out.1 A.out.2.1 A.out.2.2.1 A.out.2.2.2.2.1 A.out.2.2.2.2.2
      rw[<-N]
      try rw[<-P]
      clear N P A;revert p c q m s k S i;exact b0.out)
 intro p c q m s k S i O;clear e6 f6 e4 HK Q;obtain⟨K,a6,P,b8,d7,d3⟩:=O.out;clear O;have I:=H.out.1.below K;have k0:i.cell? ⟨S,0,MH⟩=MI (MG p C.length c):=by rw[MW i _ 0 _ _ (0,0) a6];rfl
 have k1:i.cell? ⟨S,1,MH⟩=MI (MG q G.req.length m):=by rw[MW i _ 1 _ _ (0,0) a6];rfl
 have c9:S<i.heap.size:=(Array.getElem?_eq_some_iff.1 a6).1;have g6:=I.Gn;have g4:=I.GD;have i1:=I.fz 19;have g5:=I.fz 20;have c1:=I.lt;obtain⟨u4,Z⟩:∃u4,u4=(i.setCell ⟨g,19,MH⟩ (MG p C.length c)).setCell ⟨g,20,MH⟩ (MG q G.req.length m):=⟨_,rfl⟩;have a9:=H.out.1.Iq K b8;rw[<-Z]at a9;have c3:WV V {V with pl:=p,cl:=c,pr:=q,cr:=m} g w u4:=by
  rw[Z];exact(((WV.F5 K).F4 19 _).F4 20 _).Gp fun _ h=>h
 have d1:∀b,(MG s d.length k).ownBlock=MI b->¬V.own g b:=fun b y=>H.out.1.rest.new (d3 b y)
 have e0:aaf u4 (MG s d.length k) d:=by
  refine aeJ (V:=V) (V':=V) (g:=g) d7 (w':=u4) ?_ d1;rw[Z];exact((WV.Gy V g i).F4 19 _).F4 20 _
 obtain⟨T,d0⟩:∃T:Vs,T={V with pl:=p,cl:=c,pr:=q,cr:=m}:=⟨_,rfl⟩;rw[<-d0]at a9 c3;have f1:T.pf=V.pf/\T.cf=V.cf/\T.bh=V.bh/\T.po=V.po:=by rw[d0];exact⟨rfl,rfl,rfl,rfl⟩
 have U:M6 (_/\_/\_/\_/\_):=⟨a9,c3,e0,d1,f1⟩;clear I a9 c3 K a6 b8 P d7 e0 d3 d1 d0 f1
 go_wp2_with fail
 rw[<-Z];clear Z g6 g4 i1 g5 k0 k1 c9 c1
 go_loopw [29] (fun t wr=>∃(j:Nat) (V':Vs),t=MF ME (j:Int)/\j<=d.length/\M6 (OR base wr g V' ((d.take j).foldl YX {G with liv:=C})/\(V'.pf=V.pf/\V'.cf=V.cf/\V'.bh=V.bh/\V'.po=V.po)/\WV V V' g w wr/\aaf wr (MG s d.length k) d)) (fun t _=>d.length-(intOf t).toNat)
 case atStart=>exact⟨0,T,rfl,Nx _,U.out.1,U.out.2.2.2.2,U.out.2.1,U.out.2.2.1⟩
 case round =>
  obtain⟨j,V',rfl,hj,D⟩:=hrel;obtain⟨W,hW⟩:∃W,W=wr:=⟨_,rfl⟩;subst hW
  by_cases hlt:j<d.length
  ·have i0:(j:Int)<(d.length:Int):=by omega
   obtain⟨j1,j0,g1,g2,d8,f2⟩:=aaf.F6 D.out.2.2.2;injection g1 with eg1 _ eg3;unfold NE at d8;rw[<-eg3]at g2 d8;clear eg3;obtain⟨b1,o1,i3,i2,z0⟩:=f2 j hlt;obtain⟨f,a5,a7,c0⟩:=H.out.2.1 j hlt;rw[a7]at z0;obtain⟨z,a3⟩:∃z,z=(d.take j).foldl YX {G with liv:=C}:=⟨_,rfl⟩;have b9:(d.take (j+1)).foldl YX {G with liv:=C}=YX z (f:Int):=by
    rw[M9 hlt,Pu,<-a3,a7];rfl
   have d4:=ahR (d.take j) {G with liv:=C};have c2:Bs z:=by rw[a3];exact alm _ _ H.out.2.2.2 fun b y=>H.out.2.2.1 b (List.mem_of_mem_take y)
   have d9:z.liv=C:=by rw[a3];exact d4.2.2.2.1
   obtain⟨x,hx⟩:∃x,x=WS z.liv (f:Int):=⟨_,rfl⟩;have e5:1<=x.2.2.1/\x.2.2.1<=8:=by
    have i5:WY z.liv (f:Int)≠0:=by rw[d9,<-a7];exact H.out.2.2.1 _ (Nk hlt)
    rw[hx];exact(c2.Iv i5).2
   rw[aq1,<-hx]at b9;have F:=D.out.1;rw[<-a3]at F c0;obtain⟨m0,x0,_,_,_,q0,q1,q2,q3,qf,c9⟩:=F.G5 a5;have i4:=F.GI;have g8:=F.G8;have f8:=F.lt;have i8:¬g=V'.bh:=fun e=>F.rest.hg e.symm
   have f7:¬V'.bh=g:=F.rest.hg;have j6:(f:Int)<12:=by omega
   have j5:(0:Int)<=(f:Int):=by omega
   have v0:=qf (f*4);have v1:=qf (f*4+1);have v2:=qf (f*4+2);have v3:=qf (f*4+3);obtain⟨E,Y⟩:∃E,E=(((W.setCell ⟨V'.bh,f*4,MH⟩ (MG MH 0 0)).setCell ⟨V'.bh,f*4+1,MH⟩ (M3 Nb)).setCell ⟨V'.bh,f*4+2,MH⟩ (MF ME 0)).setCell ⟨V'.bh,f*4+3,MH⟩ (MF ME 0):=⟨_,rfl⟩;have J:=F.Ir (x:=XM) (p:=MH) (c:=0) a5 (fun X _ _=>ah2 X);have a8:=D.out.2.2.1.F0 (F.Hz (MY _ _) f (MG MH 0 0) (M3 Nb) (MF ME 0) (MF ME 0) (V'.ms.set f (MH,0)));have d5:aaf E (MG s d.length k) d:=by
    refine aeJ (V:=V') (g:=g) D.out.2.2.2 (V':={V' with ms:=V'.ms.set f (MH,0)}) (w':=E) (by rw[Y];exact F.Hz (MY _ _) f _ _ _ _ _) fun b y M=>U.out.2.2.2.1 b y ?_
    have hv:=D.out.2.1;unfold Vs.own at M⊢;rw[hv.1,hv.2.2.1,hv.2.2.2]at M;exact M
   have J:OR base E g {V' with ms:=V'.ms.set f (MH,0)} {z with hea:=z.hea.set f XM}:=by rw[Y];exact J
   rw[<-Y]at a8;obtain⟨u,c7⟩:∃u:Vs,u={V' with ms:=V'.ms.set f (MH,0)}:=⟨_,rfl⟩;rw[<-c7]at J a8;have a2:u.pf=V.pf/\u.cf=V.cf/\u.bh=V.bh/\u.po=V.po:=by rw[c7];exact D.out.2.1
   have h7:=J.GX;have g0:=J.lt;have j7:∀X:MO,(Instr.field 150 (abR x) 2).run MK X=.ok (MF ME x.2.2.1) X:=fun X=>by kernel_rfl
   have f4:M6 (∀X,MQ E.heap.size E X->Ni MK 99 #[gP g,MF ME (f:Int)] X fun r w'=>r=MN (abR x)/\w'.cell? ⟨g,21,MH⟩=MI (MG u.ps (WW z.wts).length u.cs)/\M6 (MQ E.heap.size E w')):=fun X hX=>by
    refine(afR (J.below hX) (f:Int)).mono ?_;rintro r w' ⟨rfl,y⟩;have e7:=hX.trans (y.mono hX.size);exact⟨by rw[hx],(e7.cell g0).trans h7,e7⟩
   have e9:M6 (∀X,MQ E.heap.size E X->Ni MK 149 #[Ny #[MG u.ps (WW z.wts).length u.cs],MF ME (f:Int),MF ME x.2.2.1] X fun r w'=>∃p c n,r=MN (Nv #[Ny #[MG p n c],MF ME 0])/\w'.cell? ⟨g,21,MH⟩=MI (MG u.ps (WW z.wts).length u.cs)/\w'.frozen? ⟨g,21,MH⟩=Nb/\g<w'.heap.size /\
     ∃i,i=w'.setCell ⟨g,21,MH⟩ (MG p n c)/\M6 (OR base i g {u with ps:=p,cs:=c} {z with hea:=z.hea.set f XM,wts:=z.wts.set f x.2.2.1}/\WV V {u with ps:=p,cs:=c} g w i/\aaf i (MG s d.length k) d)):=fun X hX=>by
    refine(atn _ z.wts f x.2.2.1 X c2.wts (J.below hX).rest.ring.now a5 e5 (Int.not_lt.2 c0)).mono ?_;rintro r w' ⟨p,c,rfl,M,a1⟩;have K:=hX.trans (a1.mono hX.size);have I:=J.below K;have i7:=J.IJ (a:=z.wts.set f x.2.2.1) K (M.mono hX.size);refine⟨p,c,_,rfl,I.GX,I.fz 21,I.lt,_,rfl,i7,((a8.below K).F4 21 _).Gp fun _ h=>h,?_⟩;refine aeJ (V:=u) (g:=g) d5 (V':=u) (((WV.Gy u g E).below K).F4 21 _) fun b y M=>U.out.2.2.2.1 b y ?_
    unfold Vs.own at M⊢;rw[a2.1,a2.2.2.1,a2.2.2.2]at M;exact M
   have H5:M6 (_/\_):=⟨b9,a2⟩;clear J a8 d5 b9 a2 c7 F c2 d9 e5 c0 a3 hx a7 d4 f2 qf a5;subst i3;subst eg1;have j4:M6 _:=D.out.2.2.2
   go_wp2_with fail
   rw[<-Y];clear Y z0 q0 q1 q2 q3 v0 v1 v2 v3 i4 g8 i8 f7 c9 i2 f8;apply adX
   ·intro b0
    go_region_with (first|(go_at_call 99;refine(f4.out _ (by first|exact(MY _ _).drew|exact Below.refl _ _)).mono ?_;rintro r w4 ⟨rfl,j3,g3⟩)|(go_at_call 149;refine(e9.out _ g3.out).mono ?_;rintro r w3 ⟨p,c,n,rfl,g7,i6,c1,i,N,O⟩))
    all_goals
     rw[<-N];clear N g7 i6 c1;revert p c n i;exact b0.out
   intro p c n i O;have HQ:M6 _:=O.out;clear O f4 e9;go_wp2
   go_roundw
   case rel=>exact⟨j+1,{u with ps:=p,cs:=c},by go_num,hlt,by rw[H5.out.1];exact HQ.out.1,H5.out.2,HQ.out.2.1,HQ.out.2.2⟩
   case measure=>simp[intOf];omega
  ·obtain rfl:j=d.length:=by omega
   have i0:¬(d.length:Int)<(d.length:Int):=by omega
   go_wp2
   go_end0
   have f3:=D.out.1;rw[NT]at f3;exact⟨rfl,V',f3,⟨D.out.2.1.1,D.out.2.1.2.1,D.out.2.1.2.2.1⟩,D.out.2.2.1⟩
end
section
variable {base:Nat}{w:MO}{g:Nat}{V:Vs}{G:Gt}
def aaG(G:Gt)(k:Nat):List He:=(G.hea.take k).map (abO G)++G.hea.drop k
theorem apf:aaG G 0=G.hea:=by simp[aaG]
theorem apc:aaG G G.hea.length=G.hea.map (abO G):=by simp[aaG]
theorem apd(hk:k<G.hea.length):(aaG G k)[k]?=MI G.hea[k]:=by
 unfold aaG;rw[Tw (by simp;omega)];simp[hk,P1 (PJ hk)]
theorem ape(hk:k<G.hea.length):aaG G (k+1)=(aaG G k).set k (abO G G.hea[k]):=by
 unfold aaG;have a:=OK hk;have b:k-((G.hea.take k).map (abO G)).length=0:=by simp;omega
 rw[M9 hk,OI,Pw _ _ (by simp;omega),b,a,ML];simp
theorem aow(h:OR base w g V G)(hbs:Bs G) :
  Ni MK 104 #[gP g] w (aaa base w g V (aaC G)):=by
 have a6:=hbs.hel;have d2:=h.GI;have e3:=h.lt;have d8:=h.G8;have T:∀x∈G.hea,x.marks.length<=16:=fun x hx=>by have:=(hbs.hea x hx).1;have:=hbs.Gx.1.2;omega
 have H:M6 (_/\_/\_/\_):=⟨h,hbs,a6,T⟩;clear h hbs a6 T;go_enter Tryz.func104,Tryz.ntmps104;go_wp2
 go_loopw [10] (fun t wr=>∃(j:Nat) (d:Vs),t=MF ME (j:Int)/\j<=12/\M6 (OR base wr g d {G with hea:=aaG G j}/\(d.pf=V.pf/\d.cf=V.cf/\d.bh=V.bh/\d.ch=V.ch)/\WV V d g w wr)) (fun t _=>12-(intOf t).toNat)
 case atStart=>exact⟨0,V,rfl,by omega,by rw[apf];exact H.out.1,⟨rfl,rfl,rfl,rfl⟩,WV.Gy _ _ _⟩
 case round =>
  obtain⟨j,d,rfl,hj,A⟩:=hrel;obtain⟨W,hW⟩:∃W,W=wr:=⟨_,rfl⟩;subst hW
  by_cases hlt:j<12
  ·have e0:(j:Int)<12:=by omega
   have d9:(0:Int)<=(j:Int):=by omega
   have s:=A.out.1;obtain⟨m,x,em,ex,_,q0,q1,q2,q3,qf,D⟩:=s.G5 hlt;have a0:x=G.hea[j]'(by rw[H.out.2.2.1];exact hlt):=by
    have:=apd (G:=G) (k:=j) (by rw[H.out.2.2.1];exact hlt);exact NC (ex.symm.trans this)
   have a3:aaG G (j+1)=(aaG G j).set j (abO G x):=by rw[a0];exact ape _
   have c9:x.marks.length<=16:=H.out.2.2.2 x (by rw[a0];exact Nk _);have F:=A.out.2.1;have b8:=s.rest.marks j m x em ex;obtain⟨y,hy⟩:∃y,y=abO G x:=⟨_,rfl⟩;have a2:y=afO (Ze G.cfg.wn G.cfg.wf G.cfg.wh x.marks x.out x.till x.times G.now).1:=hy;rw[<-hy]at a3;obtain⟨f,Q⟩:∃f,f=W.alloc (MP #[MG m.1 x.marks.length m.2,M3 x.out,MF ME x.till,MF ME x.times] 160):=⟨_,rfl⟩;have C:MQ W.heap.size W f:=by rw[Q];exact WQ W
   have J:f.heap[W.heap.size]?=MI (MP #[MG m.1 x.marks.length m.2,M3 x.out,MF ME x.till,MF ME x.times] 160):=by rw[Q];exact M1 _ _
   have E:=s.below C;have d0:=A.out.2.2.below C;have b0:¬g=d.bh:=fun e=>s.rest.hg e.symm
   have c1:¬d.bh=g:=s.rest.hg;rw[F.2.2.1]at q0 q1 q2 q3 D b0 c1;have c2:=s.lt;have y0:f.cell? ⟨W.heap.size,0,MH⟩=MI (MG m.1 x.marks.length m.2):=by rw[MW f _ 0 _ _ (0,0) J];rfl
   have y1:f.cell? ⟨W.heap.size,1,MH⟩=MI (M3 x.out):=by rw[MW f _ 1 _ _ (0,0) J];rfl
   have y2:f.cell? ⟨W.heap.size,2,MH⟩=MI (MF ME x.till):=by rw[MW f _ 2 _ _ (0,0) J];rfl
   have y3:f.cell? ⟨W.heap.size,3,MH⟩=MI (MF ME x.times):=by rw[MW f _ 3 _ _ (0,0) J];rfl
   have S:W.heap.size<f.heap.size:=(Array.getElem?_eq_some_iff.1 J).1;have c0:=E.GS;have b9:=E.GU;have a8:=E.GO;have a5:=E.Gm;have a1:=E.GI;rw[F.2.2.1,F.2.2.2]at a1;have K:=E.lt;have HB:M6 (∀X,MQ f.heap.size f X->Ni MK 109 #[Ny #[MF ME G.cfg.wn,MF ME G.cfg.wf,MF ME G.cfg.wh],abQ m.1 m.2 x,MF ME G.now] X fun r w'=>∃p c e1 U,r=MN (Nv #[abQ p c y,M3 e1,MF ME U]) /\
     (w'.cell? ⟨V.bh,j*4,MH⟩=MI (MG m.1 x.marks.length m.2)/\w'.cell? ⟨V.bh,j*4+1,MH⟩=MI (M3 x.out)/\w'.cell? ⟨V.bh,j*4+2,MH⟩=MI (MF ME x.till)/\w'.cell? ⟨V.bh,j*4+3,MH⟩=MI (MF ME x.times)/\w'.frozen? ⟨V.bh,j*4,MH⟩=Nb/\w'.frozen? ⟨V.bh,j*4+1,MH⟩=Nb/\w'.frozen? ⟨V.bh,j*4+2,MH⟩=Nb/\w'.frozen? ⟨V.bh,j*4+3,MH⟩=Nb/\V.bh<w'.heap.size)/\(w'.cell? ⟨g,22,MH⟩=MI (MG (MI ⟨V.bh,0,MH⟩) 12 V.ch)/\w'.cell? ⟨g,13,MH⟩=MI (MF ME G.cfg.wn)/\w'.cell? ⟨g,14,MH⟩=MI (MF ME G.cfg.wf)/\w'.cell? ⟨g,15,MH⟩=MI (MF ME G.cfg.wh)/\w'.cell? ⟨g,16,MH⟩=MI (MF ME G.now)/\w'.cell? ⟨W.heap.size,0,MH⟩=MI (MG m.1 x.marks.length m.2)/\w'.cell? ⟨W.heap.size,1,MH⟩=MI (M3 x.out)/\w'.cell? ⟨W.heap.size,2,MH⟩=MI (MF ME x.till)/\w'.cell? ⟨W.heap.size,3,MH⟩=MI (MF ME x.times))/\(((((w'.setCell ⟨V.bh,j*4,MH⟩ (MG p y.marks.length c)).setCell ⟨V.bh,j*4+1,MH⟩ (M3 y.out)).setCell ⟨V.bh,j*4+2,MH⟩ (MF ME y.till)).setCell ⟨V.bh,j*4+3,MH⟩ (MF ME y.times)).cell? ⟨g,22,MH⟩=MI (MG (MI ⟨V.bh,0,MH⟩) 12 V.ch)/\((((w'.setCell ⟨V.bh,j*4,MH⟩ (MG p y.marks.length c)).setCell ⟨V.bh,j*4+1,MH⟩ (M3 y.out)).setCell ⟨V.bh,j*4+2,MH⟩ (MF ME y.till)).setCell ⟨V.bh,j*4+3,MH⟩ (MF ME y.times)).cell? ⟨g,13,MH⟩=MI (MF ME G.cfg.wn)/\((((w'.setCell ⟨V.bh,j*4,MH⟩ (MG p y.marks.length c)).setCell ⟨V.bh,j*4+1,MH⟩ (M3 y.out)).setCell ⟨V.bh,j*4+2,MH⟩ (MF ME y.till)).setCell ⟨V.bh,j*4+3,MH⟩ (MF ME y.times)).cell? ⟨g,14,MH⟩=MI (MF ME G.cfg.wf)/\((((w'.setCell ⟨V.bh,j*4,MH⟩ (MG p y.marks.length c)).setCell ⟨V.bh,j*4+1,MH⟩ (M3 y.out)).setCell ⟨V.bh,j*4+2,MH⟩ (MF ME y.till)).setCell ⟨V.bh,j*4+3,MH⟩ (MF ME y.times)).cell? ⟨g,15,MH⟩=MI (MF ME G.cfg.wh)/\((((w'.setCell ⟨V.bh,j*4,MH⟩ (MG p y.marks.length c)).setCell ⟨V.bh,j*4+1,MH⟩ (M3 y.out)).setCell ⟨V.bh,j*4+2,MH⟩ (MF ME y.till)).setCell ⟨V.bh,j*4+3,MH⟩ (MF ME y.times)).cell? ⟨g,16,MH⟩=MI (MF ME G.now)/\((((w'.setCell ⟨V.bh,j*4,MH⟩ (MG p y.marks.length c)).setCell ⟨V.bh,j*4+1,MH⟩ (M3 y.out)).setCell ⟨V.bh,j*4+2,MH⟩ (MF ME y.till)).setCell ⟨V.bh,j*4+3,MH⟩ (MF ME y.times)).cell? ⟨W.heap.size,0,MH⟩=MI (MG m.1 x.marks.length m.2)/\((((w'.setCell ⟨V.bh,j*4,MH⟩ (MG p y.marks.length c)).setCell ⟨V.bh,j*4+1,MH⟩ (M3 y.out)).setCell ⟨V.bh,j*4+2,MH⟩ (MF ME y.till)).setCell ⟨V.bh,j*4+3,MH⟩ (MF ME y.times)).cell? ⟨W.heap.size,1,MH⟩=MI (M3 x.out)/\((((w'.setCell ⟨V.bh,j*4,MH⟩ (MG p y.marks.length c)).setCell ⟨V.bh,j*4+1,MH⟩ (M3 y.out)).setCell ⟨V.bh,j*4+2,MH⟩ (MF ME y.till)).setCell ⟨V.bh,j*4+3,MH⟩ (MF ME y.times)).cell? ⟨W.heap.size,2,MH⟩=MI (MF ME x.till)/\((((w'.setCell ⟨V.bh,j*4,MH⟩ (MG p y.marks.length c)).setCell ⟨V.bh,j*4+1,MH⟩ (M3 y.out)).setCell ⟨V.bh,j*4+2,MH⟩ (MF ME y.till)).setCell ⟨V.bh,j*4+3,MH⟩ (MF ME y.times)).cell? ⟨W.heap.size,3,MH⟩=MI (MF ME x.times)) /\
     ∃N,N=((((w'.setCell ⟨V.bh,j*4,MH⟩ (MG p y.marks.length c)).setCell ⟨V.bh,j*4+1,MH⟩ (M3 y.out)).setCell ⟨V.bh,j*4+2,MH⟩ (MF ME y.till)).setCell ⟨V.bh,j*4+3,MH⟩ (MF ME y.times))/\M6 (OR base N g {d with ms:=d.ms.set j (p,c)} {G with hea:=(aaG G j).set j y}/\WV V {d with ms:=d.ms.set j (p,c)} g w N)):=by
    intro X Y;refine(alB G.cfg.wn G.cfg.wf G.cfg.wh (MG m.1 x.marks.length m.2) x.marks x.out x.till x.times G.now X (b8.below (C.trans (Y.mono C.size))).now).mono ?_;rintro r w' ⟨p,c,rfl,c6,c3,d6⟩;have q:=Y.trans (d6.mono Y.size);have I:=C.trans (q.mono C.size);have c7:=E.below q;have T:XG (d.off base g) w' fun Z=>Yo Z (MG p y.marks.length c) y.marks:=by
     rw[a2];exact abt c6 (fun z e=>s.rest.GF (Nm (Nm C.size Y.size) (c3 z (by rw[XV];exact e))))
    have d3:=c7.Ir hlt T;have d4:=A.out.2.2.F0 (s.Hz I j (MG p y.marks.length c) (M3 y.out) (MF ME y.till) (MF ME y.times) (d.ms.set j (p,c)));have P:∀o,w'.frozen? ⟨V.bh,o,MH⟩=false:=fun o=>(OM (a:=⟨V.bh,o,MH⟩) (I.block V.bh D)).trans (by rw[<-F.2.2.1];exact qf o)
    have i:w'.cell? ⟨g,22,MH⟩=MI (MG (MI ⟨V.bh,0,MH⟩) 12 V.ch)/\w'.cell? ⟨g,13,MH⟩=MI (MF ME G.cfg.wn)/\w'.cell? ⟨g,14,MH⟩=MI (MF ME G.cfg.wf)/\w'.cell? ⟨g,15,MH⟩=MI (MF ME G.cfg.wh)/\w'.cell? ⟨g,16,MH⟩=MI (MF ME G.now)/\w'.cell? ⟨W.heap.size,0,MH⟩=MI (MG m.1 x.marks.length m.2)/\w'.cell? ⟨W.heap.size,1,MH⟩=MI (M3 x.out)/\w'.cell? ⟨W.heap.size,2,MH⟩=MI (MF ME x.till)/\w'.cell? ⟨W.heap.size,3,MH⟩=MI (MF ME x.times):=⟨(q.cell K).trans a1,(q.cell K).trans c0,(q.cell K).trans b9,(q.cell K).trans a8,(q.cell K).trans a5,(q.cell S).trans y0,(q.cell S).trans y1,(q.cell S).trans y2,(q.cell S).trans y3⟩;have M:g≠V.bh:=b0;have O:W.heap.size≠V.bh:=by omega
    have u:∀(b o:Nat),b≠V.bh->((((w'.setCell ⟨V.bh,j*4,MH⟩ (MG p y.marks.length c)).setCell ⟨V.bh,j*4+1,MH⟩ (M3 y.out)).setCell ⟨V.bh,j*4+2,MH⟩ (MF ME y.till)).setCell ⟨V.bh,j*4+3,MH⟩ (MF ME y.times)).cell? ⟨b,o,MH⟩=w'.cell? ⟨b,o,MH⟩:=fun b o hb=>NG (by rw[MU _ _ _ _ hb,MU _ _ _ _ hb,MU _ _ _ _ hb,MU _ _ _ _ hb])
    refine⟨p,c,(Ze G.cfg.wn G.cfg.wf G.cfg.wh x.marks x.out x.till x.times G.now).2.1,(Ze G.cfg.wn G.cfg.wf G.cfg.wh x.marks x.out x.till x.times G.now).2.2,by rw[a2];rfl,⟨(I.cell D).trans q0,(I.cell D).trans q1,(I.cell D).trans q2,(I.cell D).trans q3,P _,P _,P _,P _,M8 D I.size⟩,i,⟨(u _ _ M).trans i.1,(u _ _ M).trans i.2.1,(u _ _ M).trans i.2.2.1,(u _ _ M).trans i.2.2.2.1,(u _ _ M).trans i.2.2.2.2.1,(u _ _ O).trans i.2.2.2.2.2.1,(u _ _ O).trans i.2.2.2.2.2.2.1,(u _ _ O).trans i.2.2.2.2.2.2.2.1,(u _ _ O).trans i.2.2.2.2.2.2.2.2⟩,_,rfl,?_,?_⟩
    ·rw[<-F.2.2.1];exact d3
    ·rw[<-F.2.2.1];exact d4
   have H5:M6 (_/\_):=⟨a3,F⟩;clear E d0 s J C em ex b8 a3 F hy a2 a0 qf c9
   go_wp2_with fail
   rw[<-Q];clear Q q0 q1 q2 q3 D c2 d2;apply aan
   ·intro d5
    go_region_held3 (fun X=>X.cell? ⟨g,22,MH⟩=MI (MG (MI ⟨V.bh,0,MH⟩) 12 V.ch)/\X.cell? ⟨g,13,MH⟩=MI (MF ME G.cfg.wn)/\X.cell? ⟨g,14,MH⟩=MI (MF ME G.cfg.wf)/\X.cell? ⟨g,15,MH⟩=MI (MF ME G.cfg.wh)/\X.cell? ⟨g,16,MH⟩=MI (MF ME G.now)/\X.cell? ⟨W.heap.size,0,MH⟩=MI (MG m.1 x.marks.length m.2)/\X.cell? ⟨W.heap.size,1,MH⟩=MI (M3 x.out)/\X.cell? ⟨W.heap.size,2,MH⟩=MI (MF ME x.till)/\X.cell? ⟨W.heap.size,3,MH⟩=MI (MF ME x.times)) (first|exact⟨a1,c0,b9,a8,a5,y0,y1,y2,y3⟩|exact i|exact a4) (first|(go_at_call 109;refine(HB.out _ (by first|exact(MY _ _).drew|exact Below.refl _ _)).mono ?_;rintro r w3 ⟨p,c,e1,U,rfl,⟨u0,u1,u2,N,v0,v1,v2,v3,d1⟩,i,a4,u4,a9,hQ⟩))
    all_goals
     rename_i hHe;clear hHe;rw[<-a9];clear a4;clear a9 u0 u1 u2 N v0 v1 v2 v3 d1 i;revert p c e1 U u4;exact d5.out
   intro p c e1 U u4 hQ;have HQ:M6 _:=hQ.out;clear hQ HB;go_wp2
   go_roundw
   case rel=>exact⟨j+1,{d with ms:=d.ms.set j (p,c)},by go_num,hlt,by rw[H5.out.1];exact HQ.out.1,H5.out.2,HQ.out.2⟩
   case measure=>simp[intOf];omega
  ·obtain rfl:j=12:=by omega
   go_wp2
   go_end0
   have a7:=A.out.1;have d7:aaG G 12=G.hea.map (abO G):=by rw[<-H.out.2.2.1];exact apc
   rw[d7]at a7;exact⟨rfl,d,a7,⟨A.out.2.1.1,A.out.2.1.2.1,A.out.2.1.2.2.1⟩,A.out.2.2⟩
end
section
variable {base:Nat}{w:MO}{g:Nat}{V:Vs}{G:Gt}
abbrev aq6(n:Int)(v:M7):Obj:=MP #[MF ME n,v] 59
theorem api{base:Nat}{L:List Tm}{n:Nat}(h:w.ownsRow base 3 1 v n (abM L))(hn:n=L.length):aaf w v (L.map (·.2)):=by
 have e:abM L=WT adv (L.map (·.2)):=by
  clear h hn
  induction L with
  |nil=>rfl
  |cons t L ih=>simp only[abM,OA,WT]at ih⊢;rw[ih];rfl
 have a:=Yr h;rw[e]at a;show XB w v (L.map (·.2)).length (WT adv (L.map (·.2)));rw[N0,<-hn];exact a
theorem ao6(h:OR base w g V G)(him:Im G)(hw:G.wnow+1=G.now)(hl:G.out.length<=700000) :
  Ni MK 105 #[gP g] w (aam base w g V (Zs G)):=by
 obtain⟨ls,hm,ht,hA⟩:=h.rest.whl;have P:=him.bs;have f8:=h.GJ;have g1:=h.GH;have g3:=h.lt;have d7:G.wnow<1099511627776:=by have:=P.now;omega
 have HC:M6 _:=anG (MG V.pw 25 V.cw) G.wnow ls w h.rest.blk hA.now hm d7;obtain⟨a,Q⟩:∃a,a=aaD G.fls (G.wnow+1):=⟨_,rfl⟩;obtain⟨d,A⟩:∃d:Gt,d={G with wnow:=G.wnow+1,tms:=fun t=>G.tms t/\t.1≠G.wnow+1}:=⟨_,rfl⟩;have d1:Zs G=a.foldl X5 d:=by unfold Zs;rw[<-Q,<-A]
 rw[d1];have c9:Im d:=by rw[A];exact him.IN (by omega)
 have a8:=P.IF (G.wnow+1);rw[<-Q]at a8;have c6:∀k,k<=a.length->Im ((a.take k).foldl X5 d)/\Xc d ((a.take k).foldl X5 d)/\(∀s∈a.drop k,∃f∈((a.take k).foldl X5 d).fls,f.slot=s)/\((a.take k).foldl X5 d).out.length<=d.out.length+2*k:=fun k hk =>
  akS a d k c9 a8.1 (fun s I=>by obtain⟨f,hf,e,_⟩:=a8.2 s I;exact⟨f,by rw[A];exact hf,e⟩) hk
 have d2:d.wnow=d.now:=by rw[A];exact hw
 have d4:d.out.length<=700000:=by rw[A];exact hl
 have g9:a.length<=40:=by
  rw[Q];unfold aaD;rw[N0];exact Nm (O1 _ _) P.Gb
 have H:M6 (_/\_/\_/\_/\_/\_/\_):=⟨h,P,ht,c6,d2,d4,Q⟩;have f5:M6 _:=A;clear h P him hm ht hA c6 hw hl d1 c9 a8 d2 d4 Q d7 A;go_enter ayX,ayM
 go_wp2_with fail
 refine Nd HC.out ?_;rintro r J ⟨p,c,xp,xc,ms,L,rfl,b9,a1,b8,Z⟩;have hL:L.map (·.2)=a:=by rw[H.out.2.2.2.2.2.2];exact apL H.out.2.1 H.out.2.2.1 a1
 have a0:=api b8 rfl;rw[hL]at a0;have d5:L.length=a.length:=by rw[<-hL,N0]
 have a2:∀b,(MG xp L.length xc).ownBlock=MI b->w.heap.size<=b:=fun b hb=>(b8.lt b hb).1
 rw[d5]at a0 a2⊢;have F:=H.out.1.below Z;have g0:=F.GJ;have f6:=F.GH;have g2:=F.fz 24;have g5:=F.fz 25;have f1:=F.lt;have g4:¬J.heap.size=g:=fun e=>by omega
 have e7:¬g=J.heap.size:=fun e=>by omega
 have u:=H.out.1.Ih (T:=fun t=>G.tms t/\t.1≠G.wnow+1) Z b9 a1.may (apM H.out.2.2.1 a1);have z:WV V {V with pw:=p,cw:=c} g w ((J.setCell ⟨g,24,MH⟩ (MF ME (G.wnow+1))).setCell ⟨g,25,MH⟩ (MG p 25 c)):=(((WV.F5 (V:=V) (g:=g) Z).F4 24 _).F4 25 _).Gp fun _ h=>h
 have c1:aaf ((J.setCell ⟨g,24,MH⟩ (MF ME (G.wnow+1))).setCell ⟨g,25,MH⟩ (MG p 25 c)) (MG xp a.length xc) a :=
  aeJ (V:=V) (V':=V) (g:=g) a0 (((WV.Gy V g J).F4 24 _).F4 25 _) fun b hb=>H.out.1.rest.new (a2 b hb)
 obtain⟨x,S⟩:∃x:Vs,x={V with pw:=p,cw:=c}:=⟨_,rfl⟩;obtain⟨K,O⟩:∃K,K=((J.setCell ⟨g,24,MH⟩ (MF ME (G.wnow+1))).setCell ⟨g,25,MH⟩ (MG p 25 c)).alloc (aq6 (G.wnow+1) (MG p 25 c)):=⟨_,rfl⟩;have q:OR base K g x d:=by rw[O,S,f5.out];exact u.GW _
 have o:WV V x g w K:=by rw[O,S];exact z.below (WQ _)
 have c3:aaf K (MG xp a.length xc) a:=by rw[O];exact aat.below c1 (WQ _)
 have c2:∀b,(MG xp a.length xc).ownBlock=MI b->¬x.own g b:=fun b hb ho=>by
  rcases o.ext b ho with e|e
  ·exact H.out.1.rest.new (a2 b hb) e
  ·rw[S]at ho
   exact H.out.1.rest.new e ho
 have H3:M6 (_/\_/\_/\_/\_):=⟨q,o,c3,c2,(by rw[S]:x.bh=V.bh)⟩;clear F u q z o a0 c1 c3 a2 c2 S Z b9 a1 b8 hL d5
 go_wp2_with fail
 rw[<-O];clear O g0 f6 g2 g5 f1 g4 e7 f8 g1 g3
 go_loopw [25] (fun t wr=>∃(k:Nat) (V':Vs),t=MF ME (k:Int)/\k<=a.length/\M6 (OR base wr g V' ((a.take k).foldl X5 d)/\V'.bh=V.bh/\WV x V' g K wr)) (fun t _=>a.length-(intOf t).toNat)
 case atStart=>exact⟨0,x,rfl,Nx _,H3.out.1,H3.out.2.2.2.2,WV.Gy _ _ _⟩
 case round =>
  obtain⟨k,V',rfl,hk,y⟩:=hrel;obtain⟨W,hW⟩:∃W,W=wr:=⟨_,rfl⟩;subst hW
  by_cases hlt:k<a.length
  ·have f9:(k:Int)<(a.length:Int):=by omega
   obtain⟨g8,g7,f2,e9,c7,d3⟩:=aaf.F6 (aeJ H3.out.2.2.1 y.out.2.2 H3.out.2.2.2.1);injection f2 with eg1 _ eg3;unfold NE at c7;rw[<-eg3]at e9 c7;clear eg3;obtain⟨b1,o1,f3,Z,z0⟩:=d3 k hlt;obtain⟨s,I⟩:∃s,s=a[k]:=⟨_,rfl⟩;rw[<-I]at z0;obtain⟨m,a6⟩:∃m,m=(a.take k).foldl X5 d:=⟨_,rfl⟩;obtain⟨N,a3,b0,e0⟩:=H.out.2.2.2.1 k hk;rw[<-a6]at N a3 b0 e0;have U:=y.out.1;rw[<-a6]at U;have a9:(a.take (k+1)).foldl X5 d=X5 m s:=by
    rw[M9 hlt,Pu,<-a6,<-I];rfl
   obtain⟨f0,e3,e5⟩:=b0 s (by rw[I,OK hlt];exact NM ..);obtain⟨i,a7⟩:∃i,i=aaF m.fls s:=⟨_,rfl⟩;have e4:=N.bs.GG e3;rw[e5,<-a7]at e4;obtain⟨M,f4⟩:=e4;obtain⟨f,a4⟩:∃f,f=Xs m i:=⟨_,rfl⟩;have d9:f∈m.fls:=by rw[a4,XA M];exact Nk M
   obtain⟨bf,hp,_,f7⟩:=U.bf (Pb (Nx _) M);have c0:X5 m s=if f.srv then Yg m f 6 1 else YP m i 5:=by
    unfold X5;simp only[];rw[<-a7,<-a4]
   rw[c0]at a9;have e6:m.wnow=m.now:=by rw[a3.wnow,a3.now];exact H.out.2.2.2.2.1
   have d8:m.out.length<=800000:=by have:=H.out.2.2.2.2.2.1;omega
   have j:M6 (_/\_/\_/\_/\_/\_/\_/\_):=⟨ahm U M a7.symm hp N.bs.Gb,U,N.bs,e6,d8,M,hp,d9⟩;have HN:M6 (_/\_):=⟨a9,a4⟩;clear U N a3 b0 e0 e6 d8 M hp d9 a9 a4 a7 f4 c0 e5 e3 f7 a6 I d3;subst f3;subst eg1;have g6:=j.out.2.1.lt
   go_wp2_with fail
   refine Nd j.out.1 ?_;rintro r w2 ⟨rfl,a5⟩;have u:=j.out.2.1.below a5;have hx:=u.Gw j.out.2.2.2.2.2.2.1 j.out.2.2.2.2.2.1;rw[<-HN.out.2]at hx;obtain⟨x0,x1,x2,x3,x4,x5,x6⟩:=hx;have d0:bf<w2.heap.size:=MX w2 ⟨bf,i*7,MH⟩ x0;have z:=y.out.2.2.below a5;cases hsv:f.srv
   ·rw[hsv]at x4
    have C:=HN.out.1;rw[hsv,Nf (by decide)]at C;have D:M6 (_/\_/\_):=⟨akl u j.out.2.2.1 j.out.2.2.2.1 j.out.2.2.2.2.1 j.out.2.2.2.2.2.1 j.out.2.2.2.2.2.2.1 5,z,C⟩;clear u z a5 C hsv
    go_wp2_with fail
    refine Nd D.out.1 ?_;rintro r w3 ⟨rfl,V3,q,Y,o⟩;have E:M6 (_/\_/\_):=⟨q,Y.trans y.out.2.1,D.out.2.1.F0 o⟩;clear q Y o x0 x1 x2 x3 x4 x5 x6 d0;go_wp2
    go_roundw
    case rel=>exact⟨k+1,V3,by go_num,hlt,by rw[D.out.2.2];exact E.out.1,E.out.2.1,E.out.2.2⟩
    case measure=>simp[intOf];omega
   ·rw[hsv]at x4
    have C:=HN.out.1;rw[hsv,Nh rfl]at C;have HE:=adY u j.out.2.2.1 j.out.2.2.2.2.2.2.2 (by have:=j.out.2.2.2.2.1;omega) 6 1;rw[show ZS f=Ny #[MF ME f.slot,MF ME f.gen,MF ME f.key,MF ME f.be,M3 Nw,MF ME f.ret,MF ME f.due]by unfold ZS;rw[hsv]]at HE;have D:M6 (_/\_/\_):=⟨HE,z,C⟩;clear u z a5 C hsv HE
    go_wp2_with fail
    refine Nd D.out.1 ?_;rintro r w3 ⟨rfl,V3,q,Y,o⟩;have E:M6 (_/\_/\_):=⟨q,Y.trans y.out.2.1,D.out.2.1.F0 o⟩;clear q Y o x0 x1 x2 x3 x4 x5 x6 d0;go_wp2
    go_roundw
    case rel=>exact⟨k+1,V3,by go_num,hlt,by rw[D.out.2.2];exact E.out.1,E.out.2.1,E.out.2.2⟩
    case measure=>simp[intOf];omega
  ·obtain rfl:k=a.length:=by omega
   have f9:¬(a.length:Int)<(a.length:Int):=by omega
   go_wp2
   go_end0
   have d6:=y.out.1;rw[NT]at d6;exact⟨rfl,V',d6,y.out.2.1,H3.out.2.1.F0 y.out.2.2⟩
end
section
variable {base:Nat}{w:MO}{g:Nat}{V:Vs}{G:Gt}
theorem akc:∀(l:List Tm) (G:Gt),(l.foldl Ye G).out.length<=G.out.length+2*l.length
 | [],_=>MV _
 |t::l,G=>by
  have b:=akc l (Ye G t);have a:=aj9 (G:=G) t;rw[O4,Ox];omega
theorem aky(b:Int)(t:List awY):(YL b t).length<=t.length:=by
 unfold YL YM;rw[N0];exact Nm (O1 _ _) (by simp)
theorem Bs.IK(h:Bs G):G.tab.length<=40:=by have:=h.tabLen;have:=h.cfg.1.2;omega
theorem aoV(h:Bs G)(l:awV):(Zd G l).out.length<=G.out.length+80:=by
 unfold Zd
 split
 ·omega
 ·have c:=akc (YL l.1 G.tab) G
  have a:=aky l.1 G.tab;have b:=h.IK;omega
theorem akI:∀(L:List awV) (G:Gt) (k:Nat),Im G->k<=L.length->Im ((L.take k).foldl Zd G)/\Xc G ((L.take k).foldl Zd G)/\((L.take k).foldl Zd G).out.length<=G.out.length+80*k
 |L,G,0,h,_=>⟨h,Xc.Gy G,MV _⟩
 | [],G,k+1,_,hk=>by simp at hk
 |l::L,G,k+1,h,hk=>by
  obtain⟨c,a,_⟩:=ahd h l;obtain⟨d,b,f⟩:=akI L (Zd G l) k c (by simpa using hk);have e:=aoV h.bs l;rw[PT,O4];exact⟨d,a.step.F0 b,by omega⟩
theorem ali:∀l:List Tm,WP l=WP l
 | []=>rfl
 |t::l=>by first|rfl|rw[WP,WP,ali l]
theorem aqt{l:List Tm}{g:Nat}{V V':Vs}(h:Xz w v l)(hF:WV V V' g w w')(hn:∀b,v.ownBlock=MI b->¬V.own g b):Xz w' v l:=by
 obtain⟨a,j,d,p,m,c⟩:=h;refine⟨a,j,d,p,m,?_⟩;rcases c with c|⟨b,off,e,f,o⟩
 ·exact Nt c
 ·refine NF ⟨b,off,e,M8 f hF.size,fun i hi=>?_⟩
  rw[<-o i hi];have:=hF.block b f (hn b (by rw[d,e];rfl));simp only[Nl,this]
theorem aoW(h:OR base w g V G)(him:Im G)(hw:G.wnow=G.now)(hl:G.out.length<=700000) :
  Ni MK 106 #[gP g] w (aam base w g V (acG G)):=by
 have d7:=fun k hk=>akI G.liv G k him hk
 have j1:=him.bs.book.1.1;have i2:=h.Gn;have j9:=h.lt;have H:M6 (_/\_/\_/\_):=⟨h,d7,hw,hl⟩;obtain⟨al,j8,i8,i9,g7,_⟩:=adt.F6 h.rest.book.now.1;injection i8 with el1 _ el3;unfold NE at g7;rw[el1,el3]at i2;have HE:M6 _:=el1;clear el1 el3;have HA:M6 (∀X d,WV V d g w X->adt X (MG V.pl G.liv.length V.cl) G.liv):=fun X d hF=>(h.rest.book X hF.size fun b hlt hn=>hF.block b hlt fun e=>hn (Nt e)).1
 clear h d7 hw hl him;go_enter Ta,SG;go_wp2
 go_loopw [15] (fun t wr=>∃(k:Nat) (d:Vs),t=MF ME (k:Int)/\k<=G.liv.length/\M6 (OR base wr g d ((G.liv.take k).foldl Zd G)/\d.bh=V.bh/\WV V d g w wr)) (fun t _=>G.liv.length-(intOf t).toNat)
 case atStart=>exact⟨0,V,rfl,Nx _,H.out.1,rfl,WV.Gy _ _ _⟩
 case round =>
  obtain⟨k,d,rfl,hk,z⟩:=hrel;obtain⟨W,hW⟩:∃W,W=wr:=⟨_,rfl⟩;subst hW
  by_cases hlt:k<G.liv.length
  ·have i7:(k:Int)<(G.liv.length:Int):=by omega
   obtain⟨j3,j0,g8,_,_,f4⟩:=adt.F6 (HA.out W d z.out.2.2);injection g8 with el1 _ _;obtain⟨b1,o1,f3,j7,J,z1,z2,z3,z4,z5⟩:=f4 k hlt;obtain⟨⟨s,y,x3,Z,D,Y⟩,b0⟩:∃x,x=G.liv[k]:=⟨_,rfl⟩;rw[<-b0]at J z1 z2 z3 z4 z5;obtain⟨a,a4⟩:∃a,a=(G.liv.take k).foldl Zd G:=⟨_,rfl⟩;obtain⟨a9,a8,c6⟩:=H.out.2.1 k hk;rw[<-a4]at a9 a8 c6;have c0:=z.out.1;rw[<-a4]at c0;have d2:(G.liv.take (k+1)).foldl Zd G=Zd a (s,y,x3,Z,D,Y):=by
    rw[M9 hlt,Pu,<-a4,<-b0];rfl
   obtain⟨o,E⟩:∃o,o=W.alloc (YQ (s,y,x3,Z,D,Y)):=⟨_,rfl⟩;have b9:MQ W.heap.size W o:=by rw[E];exact WQ W
   have Q:o.heap[W.heap.size]?=MI (YQ (s,y,x3,Z,D,Y)):=by rw[E];exact M1 _ _
   have T:=c0.below b9;have e3:=z.out.2.2.below b9;have y0:o.cell? ⟨W.heap.size,0,MH⟩=MI (MF ME s):=by rw[MW o _ 0 _ _ (0,0) Q];rfl
   have y1:o.cell? ⟨W.heap.size,1,MH⟩=MI (MF ME y):=by rw[MW o _ 1 _ _ (0,0) Q];rfl
   have y4:o.cell? ⟨W.heap.size,4,MH⟩=MI (MF ME D):=by rw[MW o _ 4 _ _ (0,0) Q];rfl
   have e5:W.heap.size<o.heap.size:=(Array.getElem?_eq_some_iff.1 Q).1;have h8:=T.Gm;have d9:=T.Gs;have g6:=T.lt;have q:M6 (_/\_/\_/\_/\_/\_):=⟨T,e3,d2,a9,a8,c6⟩;clear T e3 d2 a9 a8 c6 c0 a4 b0 Q b9 f4;have b8:al=MI ⟨b1,o1,MH⟩:=HE.out.symm.trans (el1.trans f3);clear f3 el1;subst b8
   by_cases hc:y≠3\/a.now<D
   ·have U:=q.out.2.2.1.trans (show Zd a (s,y,x3,Z,D,Y)=a from Nh hc)
    have HN:M6 _:=U;clear U
    by_cases h3:y=3
    ·subst h3
     have i0:a.now<D:=by
      rcases hc with e|e
      ·exact absurd rfl e
      ·exact e
     clear hc
     go_wp2_with fail
     rw[<-E];clear E J z1 z2 z3 z4 z5
     go_quiet (fail)
     go_wp2
     go_roundw
     case rel=>exact⟨k+1,d,by go_num,hlt,by rw[HN.out];exact q.out.1.below (ZE (MY _ _) _),z.out.2.1,q.out.2.1.below (ZE (MY _ _) _)⟩
     case measure=>simp[intOf];omega
    ·have j5:(y != 3)=true:=by simpa using h3
     clear hc h3
     go_wp2_with fail
     rw[<-E];clear E J z1 z2 z3 z4 z5
     go_quiet (fail)
     go_wp2
     go_roundw
     case rel=>exact⟨k+1,d,by go_num,hlt,by rw[HN.out];exact q.out.1.below (ZE (MY _ _) _),z.out.2.1,q.out.2.1.below (ZE (MY _ _) _)⟩
     case measure=>simp[intOf];omega
   ·obtain rfl:y=3:=by
     by_cases e:y=3
     ·exact e
     ·exact absurd (Nt e) hc
    have i0:¬a.now<D:=fun e=>hc (NF e)
    have U:=q.out.2.2.1.trans (show Zd a (s,3,x3,Z,D,Y)=(YL s a.tab).foldl Ye a from Nf hc);have HN:M6 _:=U;clear U hc
    go_wp2_with fail
    rw[<-E];clear E J z1 z2 z3 z4 z5
    go_quiet (fail)
    have J:(o.drewN nq).cell? ⟨W.heap.size,0,MH⟩=MI (MF ME s):=y0;have f5:(o.drewN nq).cell? ⟨g,17,MH⟩=MI (MG d.pt a.tab.length d.ct):=d9;have M:=q.out.1.below (ZE (MY _ _) nq);have c9:=q.out.2.1.below (ZE (MY _ _) nq);have d5:=M.lt;have f8:W.heap.size<(o.drewN nq).heap.size:=e5;obtain⟨W2,g3⟩:∃W2,W2=o.drewN nq:=⟨_,rfl⟩;rw[<-g3]at J f5 M c9 d5 f8⊢;clear g3 y0 y1 y4 h8 d9 e5 g6;obtain⟨m,S⟩:∃m,m=YL s a.tab:=⟨_,rfl⟩;rw[<-S]at HN;have e6:aeo a.tab s=(m,0):=by rw[S];exact Nh q.out.2.2.2.1.bs.tab
    have f6:M6 (∀X,MQ W2.heap.size W2 X->Ni MK 150 #[Ny #[MG d.pt a.tab.length d.ct],MF ME s] X fun r w'=>∃p c,r=MN (Nv #[MG p m.length c,MF ME 0])/\M6 (OR base w' g d a/\WV V d g w w'/\Xz w' (MG p m.length c) m/\∀b,(MG p m.length c).ownBlock=MI b->¬d.own g b)):=fun X hX=>by
     refine(auS _ a.tab s X (M.below hX).rest.tab.now).mono ?_;rw[e6];rintro r w' ⟨p,c,rfl,ho,hb⟩;have c2:=hX.trans (hb.mono hX.size);rw[ali]at ho;exact⟨p,c,rfl,M.below c2,c9.below c2,Yr ho,fun b hb'=>M.rest.new (Nm hX.size (ho.lt b hb').1)⟩
    have a2:=q.out.2.2.2.1.bs.IW s;rw[<-S]at a2;have d3:=fun j hj=>ake m a j q.out.2.2.2.1 a2.1 (fun t N=>by obtain⟨f,hf,e,_⟩:=a2.2 t N;exact⟨f,hf,e⟩) hj
    have j6:m.length<=40:=by rw[S];exact Nm (aky _ _) q.out.2.2.2.1.bs.IK
    have g0:a.out.length<=800000:=by have:=q.out.2.2.2.2.2;have:=H.out.2.2.2;omega
    have HP:M6 (_/\_):=⟨d3,g0⟩;clear M c9 e6 a2 d3 g0 S
    go_wp2_with fail
    apply aan
    ·intro i3
     go_region_with (first|(go_at_call 150;refine(f6.out _ (by first|exact(MY _ _).drew|exact Below.refl _ _)).mono ?_;rintro r W3 ⟨p,c,rfl,hQ⟩))
     all_goals
      revert p c W3;exact i3.out
    intro W3 p c hQ;have HQ:M6 _:=hQ.out;clear hQ f6 J f5 d5 f8;go_wp2
    go_loopw [45] (fun t wx=>∃(j:Nat) (V2:Vs),t=MF ME (j:Int)/\j<=m.length/\M6 (OR base wx g V2 ((m.take j).foldl Ye a)/\V2.bh=V.bh/\WV d V2 g W3 wx)) (fun t _=>m.length-(intOf t).toNat)
    case atStart=>exact⟨0,d,rfl,Nx _,HQ.out.1,z.out.2.1,WV.Gy _ _ _⟩
    case round =>
     obtain⟨j,V2,rfl,hj,I⟩:=hrel;obtain⟨A,i6⟩:∃A,A=wr:=⟨_,rfl⟩;subst i6
     by_cases hjl:j<m.length
     ·have i4:(j:Int)<(m.length:Int):=by omega
      obtain⟨ah,ch,h9,i1,e4,ph⟩:=Xz.F6 (aqt HQ.out.2.2.1 I.out.2.2 HQ.out.2.2.2);injection h9 with eh1 _ eh3;unfold NE at e4;rw[<-eh3]at i1 e4;clear eh3;obtain⟨b2,o2,e9,c2,v0,v1⟩:=ph j hjl;obtain⟨t,N⟩:∃t,t=m[j]:=⟨_,rfl⟩;rw[<-N]at v0 v1;obtain⟨C,a0⟩:∃C,C=(m.take j).foldl Ye a:=⟨_,rfl⟩;obtain⟨P,d6,a7,g4⟩:=HP.out.1 j hj;rw[<-a0]at P d6 a7 g4;have d0:=I.out.1;rw[<-a0]at d0;have a6:(m.take (j+1)).foldl Ye a=Ye C t:=by
       rw[M9 hjl,Pu,<-a0,<-N];rfl
      obtain⟨f0,g2,g5⟩:=a7 t (by rw[N,OK hjl];exact NM ..);obtain⟨i,a5⟩:∃i,i=aaF C.fls t.1:=⟨_,rfl⟩;have f2:=P.bs.GG g2;rw[g5,<-a5]at f2;obtain⟨O,h7⟩:=f2;obtain⟨f,a3⟩:∃f,f=Xs C i:=⟨_,rfl⟩;have g1:f∈C.fls:=by rw[a3,XA O];exact Nk O
      have d4:Ye C t=Yg C f 6 2:=by unfold Ye;rw[<-a5,<-a3]
      rw[d4]at a6;obtain⟨K,a1⟩:∃K,K=A.alloc (afN t.1 t.2):=⟨_,rfl⟩;have d1:MQ A.heap.size A K:=by rw[a1];exact WQ A
      have c1:K.heap[A.heap.size]?=MI (afN t.1 t.2):=by rw[a1];exact M1 _ _
      have u:=d0.below d1;have f9:=I.out.2.2.below d1;obtain⟨bf,hp,_,i5⟩:=u.bf (Pb (Nx _) O);have r0:K.cell? ⟨A.heap.size,0,MH⟩=MI (MF ME t.1):=by rw[MW K _ 0 _ _ (0,0) c1];rfl
      have j4:A.heap.size<K.heap.size:=(Array.getElem?_eq_some_iff.1 c1).1;have e7:C.out.length<=900000:=by have:=HP.out.2;omega
      have F:M6 (_/\_/\_/\_/\_/\_/\_/\_):=⟨ahm u O a5.symm hp P.bs.Gb,u,P.bs,f9,e7,O,hp,g1⟩;have e0:M6 (_/\_):=⟨a6,a3⟩;have j2:=u.lt;have b8:p=MI ⟨b2,o2,MH⟩:=eh1.trans e9;clear d0 u f9 P d6 a7 g4 O hp g1 a6 a3 a5 h7 d4 g5 g2 i5 a0 N ph c1 d1 e7 eh1 e9;subst b8
      go_wp2_with fail
      rw[<-a1];clear a1 v0 v1;refine Nd F.out.1 ?_;rintro r W6 ⟨rfl,c3⟩;have c7:=F.out.2.1.below c3;have hx:=c7.Gw F.out.2.2.2.2.2.2.1 F.out.2.2.2.2.2.1;rw[<-e0.out.2]at hx;obtain⟨q0,q1,q2,q3,q4,q5,q6⟩:=hx;have g9:bf<W6.heap.size:=MX W6 ⟨bf,i*7,MH⟩ q0;have H6:M6 (_/\_):=⟨adY c7 F.out.2.2.1 F.out.2.2.2.2.2.2.2 F.out.2.2.2.2.1 6 2,F.out.2.2.2.1.below c3⟩;clear c7 c3
      go_wp2_with fail
      refine Nd H6.out.1 ?_;rintro r W7 ⟨rfl,V3,d8,f1,f7⟩;have H7:M6 (_/\_/\_):=⟨d8,f1.trans I.out.2.1,H6.out.2.F0 f7⟩;clear d8 f1 f7 q0 q1 q2 q3 q4 q5 q6 g9;go_wp2
      go_roundw
      case rel=>exact⟨j+1,V3,by go_num,hjl,by rw[e0.out.1];exact H7.out.1,H7.out.2.1,H7.out.2.2⟩
      case measure=>simp[intOf];omega
     ·obtain rfl:j=m.length:=by omega
      have i4:¬(m.length:Int)<(m.length:Int):=by omega
      have u:=I.out.1;rw[NT,<-HN.out]at u;have H5:M6 _:=u;clear u;go_wp2
      go_roundw
      case rel=>exact⟨k+1,V2,by go_num,hlt,H5.out,I.out.2.1,HQ.out.2.1.F0 I.out.2.2⟩
      case measure=>simp[intOf];omega
  ·obtain rfl:k=G.liv.length:=by omega
   have i7:¬(G.liv.length:Int)<(G.liv.length:Int):=by omega
   go_wp2
   go_end0
   have u:=z.out.1;rw[NT]at u;exact⟨rfl,d,u,z.out.2.1,z.out.2.2⟩
end
section
variable {base:Nat}{w:MO}{g:Nat}{V:Vs}{G:Gt}
theorem akR:∀(l:List Int) (G:Gt),(l.foldl X5 G).out.length<=G.out.length+2*l.length
 | [],_=>MV _
 |s::l,G=>by
  have b:=akR l (X5 G s);have a:=akP (G:=G) s;rw[O4,Ox];omega
theorem ao7(h:Bs G):(Zs G).out.length<=G.out.length+80:=by
 unfold Zs;refine Nm (akR _ _) ?_;have:(aaD G.fls (G.wnow+1)).length<=40:=by
  unfold aaD;rw[N0];exact Nm (O1 _ _) h.Gb
 show G.out.length+_<=_;omega
theorem adj{r:Ending}{w1:MO}{V1:Vs}(hF:WV V V1 g w w1)(hV:V1.bh=V.bh)(h:aam base w1 g V1 G' r w'):aam base w g V G' r w':=by
 obtain⟨d,e,a,b,c⟩:=h;exact⟨d,e,a,b.trans hV,hF.F0 c⟩
theorem aqV(h:OR base w g V G)(hwm:Wm G)(hn:G.now+1<=1099511626776)(hl:G.out.length<=600000) :
  Ni MK 64 #[gP g] w (aam base w g V (abj G)):=by
 obtain⟨s,e⟩:∃s:Gt,s={G with now:=G.now+1}:=⟨_,rfl⟩;have o:Im s:=by rw[e];exact hwm.im.next hn
 obtain⟨c,j⟩:∃c:Gt,c=YH s:=⟨_,rfl⟩;have t:Im c:=by rw[j];exact o.Jf
 have i:=aeS o.bs;rw[<-j]at i;obtain⟨b,d⟩:∃b:Gt,b=aaC c:=⟨_,rfl⟩;have m:Im b:=by rw[d];exact t.I2
 have E:b.wnow+1=b.now:=by
  rw[d];show c.wnow+1=c.now;rw[i.2.1,i.1,e];show G.wnow+1=G.now+1;rw[hwm.wnow]
 have Y:∀f∈b.fls,b.wnow<f.due:=by
  rw[d];show ∀f∈c.fls,c.wnow<f.due;rw[i.2.2.1,i.2.1,e];show ∀f∈G.fls,G.wnow<f.due;rw[hwm.wnow];exact hwm.due
 have O:b.out.length<=600000:=by
  rw[d];show c.out.length<=600000;rw[i.2.2.2.2.1,e];exact hl
 have y:=m.Je E Y;have u:=ao7 m.bs;obtain⟨J,p⟩:∃J:Gt,J=Zs b:=⟨_,rfl⟩;rw[<-p]at y u;have T:abj G=acG J:=by unfold abj;rw[<-e,<-j,<-d,<-p]
 rw[T];have a2:=h.Gm;have a1:=h.fz 16;have a3:=h.lt;have a0:IntKind.i64.wrap (G.now+1)=G.now+1:=by have:=hwm.im.bs.now;rw[Ow];omega
 have q:=h.Ja (G.now+1);rw[<-e]at q;have D:WV V V g w (w.setCell ⟨g,16,MH⟩ (MF ME (G.now+1))):=(WV.Gy V g w).F4 16 _;obtain⟨w0,x⟩:∃w0,w0=w.setCell ⟨g,16,MH⟩ (MF ME (G.now+1)):=⟨_,rfl⟩;rw[<-x]at q D;have H:M6 (_/\_/\_):=⟨aq2 q o,D,j⟩;have a:M6 (_/\_/\_/\_/\_/\_/\_/\_):=⟨t,m,E,O,y,u,d,p⟩;clear o t m E Y O y u i e j d p T q D h hwm hn hl;go_enter Wa,VN
 go_wp2_with fail
 rw[<-x];clear x;refine Nd H.out.1 ?_;rintro r w1 ⟨rfl,V1,A,N,Q⟩;rw[<-H.out.2.2]at A;have K:M6 (_/\_/\_):=⟨aow A a.out.1.bs,H.out.2.1.F0 Q,N.2.2⟩;clear A N Q
 go_wp2_with fail
 refine Nd K.out.1 ?_;rintro r w2 ⟨rfl,V2,z,M,P⟩;rw[<-a.out.2.2.2.2.2.2.1]at z;have F:M6 (_/\_/\_):=⟨ao6 z a.out.2.1 a.out.2.2.1 (by have:=a.out.2.2.2.1;omega),K.out.2.1.F0 P,M.2.2.trans K.out.2.2⟩;clear z M P
 go_wp2_with fail
 refine Nd F.out.1 ?_;rintro r w3 ⟨rfl,V3,C,U,S⟩;rw[<-a.out.2.2.2.2.2.2.2]at C;have I:M6 (_/\_/\_):=⟨aoW C a.out.2.2.2.2.1.1 (by rw[a.out.2.2.2.2.1.2.2.1,a.out.2.2.2.2.1.2.1]) (by have:=a.out.2.2.2.2.2.1;have:=a.out.2.2.2.1;omega),F.out.2.1.F0 S,U.trans F.out.2.2⟩;clear C U S
 go_wp2_with fail
 refine Nd I.out.1 ?_;rintro r w4 ⟨rfl,V4,Z⟩;have H4:M6 _:=Z;clear Z;go_wp2
 go_end0
 exact adj I.out.2.1 I.out.2.2 ⟨rfl,V4,H4.out⟩
theorem aqR(h:OR base w g V G)(hwm:Wm G){e:Ev}(he:XZ e)(hn:e.kind=7->G.now+1<=1099511626776)(hl:G.out.length<=600000) :
  Ni MK 45 #[gP g,acH e] w (aam base w g V (Xb G e)):=by
 obtain⟨W,d⟩:∃W,W=w.alloc (aaE e):=⟨_,rfl⟩;have o:MQ w.heap.size w W:=by rw[d];exact WQ w
 have p:W.heap[w.heap.size]?=MI (aaE e):=by rw[d];exact M1 _ _
 have m:=h.below o;have j:WV V V g w W:=WV.F5 o;obtain⟨K,M,T,U,P,Z,Q,Y,I⟩:=abP p;have J:=h.lt;obtain⟨O,c⟩:∃O,O=Xb G e:=⟨_,rfl⟩;rw[<-c];unfold Xb at c;have s:=he.kind;have E:e.kind=1\/(e.kind=2\/e.kind=3\/e.kind=4)\/e.kind=5\/e.kind=6\/e.kind=7:=by omega
 rcases E with a|a|a|a|a
 ·have x:(e.kind == 1)=true:=by rw[a];rfl
  rw[Nh a]at c;have H:M6 (_/\_/\_):=⟨aqb m hwm.im.bs hwm.wnow (by omega) he.key,j,c⟩;clear a c m j h hwm he hn hl o p s;go_enter Se,RU
  go_wp2_with fail
  rw[<-d];clear d;refine Nd H.out.1 ?_;rintro r q ⟨rfl,i,b⟩;have f:M6 _:=b;clear b;go_wp2
  go_end0
  rw[H.out.2.2];exact adj H.out.2.1 rfl ⟨rfl,i,f.out⟩
 ·have x:(e.kind == 1)=false:=beq_eq_false_iff_ne.2 (by omega)
  rw[Nf (by omega),Nf (by omega),Nf (by omega),Nf (by omega)]at c;have H:M6 (_/\_/\_):=⟨aqa m hwm.im.bs hwm.wnow (by omega) e,j,c⟩;have N:M6 _:=a;clear c m j h hwm he hn hl o p s;rcases a with a|a|a
  ·have t:(e.kind == 2)=true:=by rw[a];rfl
   clear a;go_enter Se,RU
   go_wp2_with fail
   rw[<-d];clear d;refine Nd H.out.1 ?_;rintro r q ⟨rfl,i,b⟩;have f:M6 _:=b;clear b;go_wp2
   go_end0
   rw[H.out.2.2];exact adj H.out.2.1 rfl ⟨rfl,i,f.out⟩
  ·have t:(e.kind == 2)=false:=by rw[a];rfl
   have u:(e.kind == 3)=true:=by rw[a];rfl
   clear a;go_enter Se,RU
   go_wp2_with fail
   rw[<-d];clear d;refine Nd H.out.1 ?_;rintro r q ⟨rfl,i,b⟩;have f:M6 _:=b;clear b;go_wp2
   go_end0
   rw[H.out.2.2];exact adj H.out.2.1 rfl ⟨rfl,i,f.out⟩
  ·have t:(e.kind == 2)=false:=by rw[a];rfl
   have u:(e.kind == 3)=false:=by rw[a];rfl
   have y:(e.kind == 4)=true:=by rw[a];rfl
   clear a;go_enter Se,RU
   go_wp2_with fail
   rw[<-d];clear d;refine Nd H.out.1 ?_;rintro r q ⟨rfl,i,b⟩;have f:M6 _:=b;clear b;go_wp2
   go_end0
   rw[H.out.2.2];exact adj H.out.2.1 rfl ⟨rfl,i,f.out⟩
 ·have x:(e.kind == 1)=false:=by rw[a];rfl
  have t:(e.kind == 2)=false:=by rw[a];rfl
  have u:(e.kind == 3)=false:=by rw[a];rfl
  have y:(e.kind == 4)=false:=by rw[a];rfl
  have D:(e.kind == 5)=true:=by rw[a];rfl
  rw[Nf (by omega),Nh a]at c;have H:M6 (_/\_/\_):=⟨ajZ m (by omega) 1 e,j,c⟩;clear a c m j h hwm he hn hl o p s;go_enter Se,RU
  go_wp2_with fail
  rw[<-d];clear d;refine Nd H.out.1 ?_;rintro r q ⟨rfl,i,A,z,C⟩;have f:M6 (_/\_/\_):=⟨A,z,C⟩;clear A z C;go_wp2
  go_end0
  rw[H.out.2.2];exact⟨rfl,i,f.out.1,f.out.2.1.2.2,H.out.2.1.F0 f.out.2.2⟩
 ·have x:(e.kind == 1)=false:=by rw[a];rfl
  have t:(e.kind == 2)=false:=by rw[a];rfl
  have u:(e.kind == 3)=false:=by rw[a];rfl
  have y:(e.kind == 4)=false:=by rw[a];rfl
  have D:(e.kind == 5)=false:=by rw[a];rfl
  have F:(e.kind == 6)=true:=by rw[a];rfl
  rw[Nf (by omega),Nf (by omega),Nh a]at c;have H:M6 (_/\_/\_):=⟨aho (aqn m hwm.im (by omega) e he),j,c⟩;clear a c m j h hwm he hn hl o p s;go_enter Se,RU
  go_wp2_with fail
  rw[<-d];clear d;refine Nd H.out.1 ?_;rintro r q ⟨rfl,i,b⟩;have f:M6 _:=b;clear b;go_wp2
  go_end0
  rw[H.out.2.2];exact adj H.out.2.1 rfl ⟨rfl,i,f.out⟩
 ·have x:(e.kind == 1)=false:=by rw[a];rfl
  have t:(e.kind == 2)=false:=by rw[a];rfl
  have u:(e.kind == 3)=false:=by rw[a];rfl
  have y:(e.kind == 4)=false:=by rw[a];rfl
  have D:(e.kind == 5)=false:=by rw[a];rfl
  have F:(e.kind == 6)=false:=by rw[a];rfl
  have S:(e.kind == 7)=true:=by rw[a];rfl
  rw[Nf (by omega),Nf (by omega),Nf (by omega),Nh a]at c;have H:M6 (_/\_/\_):=⟨aqV m hwm (hn a) hl,j,c⟩;clear a c m j h hwm he hn hl o p s;go_enter Se,RU
  go_wp2_with fail
  rw[<-d];clear d;refine Nd H.out.1 ?_;rintro r q ⟨rfl,i,b⟩;have f:M6 _:=b;clear b;go_wp2
  go_end0
  rw[H.out.2.2];exact adj H.out.2.1 rfl ⟨rfl,i,f.out⟩
end
end Go.Proofs.YtidlemcdnhbceaaGreatDoor.Q
