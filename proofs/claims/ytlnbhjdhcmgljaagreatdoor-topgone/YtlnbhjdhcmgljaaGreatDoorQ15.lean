/-
  Contracts of the layers and of core, part 15. Conditions: as each theorem says.
-/
import Derived.Test.YtlnbhjdhcmgljaaGreatDoorQ14
open Bool renaming false->Nb,true->Nw
open Go renaming Calls->Ni,Value->M7,World->MO,cell_of_row->MW,heap_alloc_new->M1,maxLen->NE
open Go.Calls renaming mono->Nd
open Go.Ending renaming returned->MN
open Go.IntKind renaming i64->ME,wrap_i64->Ow
open Go.Obj renaming cells->MP
open Go.Proofs.Tryz renaming func121->T0,func62->Vq,ntmps121->TU,ntmps62->Vl,prog->MK
open Go.RowKit renaming Below->MQ,Hid->M6
open Go.RowKit.Below renaming heap_setCell->MU,refl->MY
open Go.Value renaming agg->Ny,bool->M3,int->MF,slice->MG,tuple->Nv
open Go.World renaming block_lt_of_cell?->MX,cell?->Nl,cell?_of_block->NG,frozen?->Ng,frozen?_of_block->OM
open Int renaming eq_ofNat_of_zero_le->NL
open List renaming drop_eq_getElem_cons->OK,foldl_append->Pu,foldl_cons->O4,getElem?_append_right->Tw,getElem_mem->Nk,length_cons->Ox,length_filter_le->O1,length_map->N0,length_take->NH,map_append->OI,map_cons->OA,mem_cons_self->NM,set_append_right->Pw,set_cons_zero->ML,take_length->NT,take_succ_cons->PT,take_succ_eq_append_getElem->M9
open Nat renaming le_of_lt->PJ,le_refl->MV,le_trans->Nm,lt_of_le_of_lt->Pb,lt_of_lt_of_le->M8,min_eq_left->P1,zero_le->Nx
open Option renaming none->MH,some->MI
open Option.some renaming inj->NC
open Or renaming inl->Nt,inr->NF
namespace Go.Proofs.YtlnbhjdhcmgljaaGreatDoor.Q
set_option linter.unusedVariables false
set_option linter.unusedSimpArgs false
set_option maxHeartbeats 16000000
set_option maxRecDepth 100000
open Go.RowKit
attribute [local go_sem ↓] Go.wp_at_zero Go.wp_at_succ
variable {G':Gt}{L:List FV}{R:List FY}{l:List Int}{v va vb:M7}{W X w w' w5:MO}{B k:Nat}
section
variable {base:Nat}{w:MO}{g:Nat}{V:Vs}{G:Gt}
theorem ki{Q R:Prop}(m:M6 Q->R)(k:Q):R:=m k
abbrev iY(n:Int):Obj:=MP #[MF ME n] 49
theorem vU(h:ab base w g V G)(hbs:Bs G)(hw:G.wnow=G.now)(hl:G.out.length<=800000){i:Nat}(hi:i<G.fls.length){bf:Nat}(hp:V.pf=MI ⟨bf,0,MH⟩)(why:Int) :
  Ni MK 121 #[gP g,fP bf i,MF ME why] w (eK base w g V (dP G i why)):=by
 obtain⟨O,hO⟩:∃O,O=dP G i why:=⟨_,rfl⟩;rw[<-hO];unfold dP at hO;simp only[]at hO;obtain⟨f,hf⟩:∃f,f=aQ G i:=⟨_,rfl⟩;have hfm:f∈G.fls:=by rw[hf,bJ hi];exact Nk hi
 have hbd:=hbs.F9 hfm;have hrt:=hbs.rets _ hfm;obtain⟨q0,q1,q2,q3,q4,q5,q6⟩:=h.Gw hp hi;rw[<-hf]at hO q0 q1 q2 q3 q4 q5 q6;have hgl:=h.lt;obtain⟨G1,hG1⟩:∃G1,G1=dg G f.be true:=⟨_,rfl⟩;have HN:=tq h hbs hbd.2.2.2 Nw;have hbs1:=hbs.GA hbd.2.2.2 Nw;rw[<-hG1]at hO HN hbs1;have hsm:G1.fls=G.fls/\G1.cfg=G.cfg/\G1.now=G.now/\G1.wnow=G.wnow/\G1.out=G.out/\G1.tok=G.tok:=by rw[hG1];exact⟨rfl,rfl,rfl,rfl,rfl,rfl⟩
 obtain⟨⟨tk,er⟩,hte⟩:∃s,s=dp G.cfg.bn G.cfg.bd G.cfg.bb G.tok:=⟨_,rfl⟩;have htok:=hbs.tok;have H:M6 (_/\_/\_/\_/\_/\_/\_/\_):=⟨HN,hO,hbs1,hsm,hp,hi,hf,hfm⟩;have HX:M6 (_/\_/\_/\_/\_/\_/\_):=⟨hbs,hw,hl,hbd,hte,hrt,htok⟩;clear h hbs hO hf hw hl hbd HN hG1 hsm hbs1 hp hi hfm hte hrt htok;go_enter T0,TU
 go_wp2_with fail
 refine Nd H.out.1 ?_;rintro r w1 ⟨rfl,V1,hG1,hV1,hF1⟩;have hp1:V1.pf=MI ⟨bf,0,MH⟩:=hV1.1.trans H.out.2.2.2.2.1;have HFL:M6 (∃hi1:i<G1.fls.length,G1.fls[i]=f):=uw H.out.2.2.2.1.1 H.out.2.2.2.2.2.1 H.out.2.2.2.2.2.2.1;have e10:w1.cell? ⟨g,10,MH⟩=MI (MF ME G.cfg.bn):=by rw[<-H.out.2.2.2.1.2.1];exact hG1.Hf
 have e11:w1.cell? ⟨g,11,MH⟩=MI (MF ME G.cfg.bd):=by rw[<-H.out.2.2.2.1.2.1];exact hG1.Hn
 have e12:w1.cell? ⟨g,12,MH⟩=MI (MF ME G.cfg.bb):=by rw[<-H.out.2.2.2.1.2.1];exact hG1.Hg
 have e23:w1.cell? ⟨g,23,MH⟩=MI (MF ME G.tok):=by rw[<-H.out.2.2.2.1.2.2.2.2.2];exact hG1.Id
 have hgl1:=hG1.lt;have HS:M6 ((∀X,MQ w1.heap.size w1 X->X.heap[w1.heap.size]?=MI (iY 0)->Ni MK 171 #[Ny #[MF ME G.cfg.bn,MF ME G.cfg.bd,MF ME G.cfg.bb],Ny #[MF ME G.tok]] X fun r w'=>r=MN (Nv #[Ny #[MF ME tk],MF ME er])/\w'.cell? ⟨w1.heap.size,0,MH⟩=MI (MF ME 0)/\w'.frozen? ⟨w1.heap.size,0,MH⟩=Nb/\w1.heap.size<w'.heap.size /\
   ∃bx w3,bx=w1.heap.size/\w3=w'.setCell ⟨w1.heap.size,0,MH⟩ (MF ME tk)/\M6 (MQ w1.heap.size w1 w3/\w3.heap[bx]?=MI (iY tk))) /\
   (∀X,MQ w1.heap.size w1 X->Ni MK 171 #[Ny #[MF ME G.cfg.bn,MF ME G.cfg.bd,MF ME G.cfg.bb],Ny #[MF ME G.tok]] X fun r w'=>r=MN (Nv #[Ny #[MF ME tk],MF ME er]) /\
   ∃bx w3,bx=w'.heap.size/\w3=w'.alloc (iY tk)/\M6 (MQ w1.heap.size w1 w3/\w3.heap[bx]?=MI (iY tk)))):=by
  constructor
  ·intro X hX hR
   refine(vI G.cfg.bn G.cfg.bd G.cfg.bb G.tok X).mono ?_;rw[<-HX.out.2.2.2.2.1];rintro r w' ⟨rfl,hb'⟩;have hR':=af hR hb';exact⟨rfl,by rw[MW w' _ 0 _ _ (0,0) hR'];rfl,by simp[Ng,hR'],(Array.getElem?_eq_some_iff.1 hR').1,_,_,rfl,rfl,(hX.trans (hb'.mono hX.size)).setCell (p:=⟨w1.heap.size,0,MH⟩) (MV _) _,cP hR' rfl⟩
  ·intro X hX
   refine(vI G.cfg.bn G.cfg.bd G.cfg.bb G.tok X).mono ?_;rw[<-HX.out.2.2.2.2.1];rintro r w' ⟨rfl,hb'⟩;have hb2:=hX.trans (hb'.mono hX.size);exact⟨rfl,_,_,rfl,rfl,hb2.trans ((ai w' (o:=iY tk)).mono hb2.size),M1 _ _⟩
 have H1:M6 (_/\_/\_/\_/\_):=⟨HS.out,hG1,hV1,hF1,hp1⟩;clear HS hG1 hV1 hF1 hp1 q0 q1 q2 q3 q4 q5 q6
 go_wp2_with fail
 apply ki
 ·intro KEY
  go_region_with (first|(go_at_call 171;refine(H1.out.1.1 _ (by first|exact(ai _).drew|exact ai _) (by first|exact M1 _ _|(show(World.alloc _ _).heap[_]?=_;exact heap_alloc_new _ _))).mono ?_;rintro r w2 ⟨rfl,y0,z0,hlt2,bx,u3,hbx,hw3,hQ⟩)|(go_at_call 171;refine(H1.out.1.2 _ (by first|exact(MY _ _).drew|exact Below.refl _ _)).mono ?_;rintro r w2 ⟨rfl,bx,u3,hbx,hw3,hQ⟩))
  all_goals
   rw[<-hw3]
   try rw[<-hbx]
   clear hw3 hbx
   try clear y0 z0 hlt2
   revert bx u3;exact KEY.out
 intro bx u3 hQ;have hbu:=hQ.out.1;have hRu:=hQ.out.2;clear hQ;have hGu:=H1.out.2.1.below hbu;have xu:km u3 bf i f:=by
  obtain⟨hi1,hff⟩:=HFL.out;have:=hGu.Gl H1.out.2.2.2.2 hi1;rw[hff]at this;exact this
 have v5:=xu.2.2.2.2.2.1;have v8:u3.cell? ⟨g,8,MH⟩=MI (MF ME G.cfg.ret):=by rw[<-H.out.2.2.2.1.2.1];exact hGu.c8
 have hglu:=hGu.lt;have hblu:bf<u3.heap.size:=MX u3 ⟨bf,i*7+5,MH⟩ v5;have HU:M6 (_/\_):=⟨hbu,hRu⟩;clear hbu hRu hGu xu e10 e11 e12 e23 hgl1;have hm1:f∈G1.fls:=by rw[H.out.2.2.2.1.1];exact H.out.2.2.2.2.2.2.2
 have hl1:G1.out.length<=800000:=by rw[H.out.2.2.2.1.2.2.2.2.1];exact HX.out.2.2.1
 have hO:=H.out.2.1;rw[<-HX.out.2.2.2.2.1,<-H.out.2.2.2.1.1]at hO;simp only[]at hO;have HM:M6 (_/\_):=⟨hm1,hl1⟩;have HO:M6 _:=hO;clear hm1 hl1 hO
 by_cases hA:f.ret=G.cfg.ret
 ·have hAt:(f.ret == G.cfg.ret)=true:=by rw[beq_iff_eq];exact hA
  go_wp2_with fail
  go_quiet (fail)
  have hb3:=dz HU.out.1 nq;have hR3:(u3.drewN nq).heap[bx]?=MI (iY tk):=HU.out.2;clear v5 v8 hglu hblu;generalize u3.drewN nq=w3 at *;have hG3:=H1.out.2.1.below hb3;have hx:km w3 bf i f:=by
   obtain⟨hi1,hff⟩:=HFL.out;have:=hG3.Gl H1.out.2.2.2.2 hi1;rw[hff]at this;exact this
  have e8:w3.cell? ⟨g,8,MH⟩=MI (MF ME G.cfg.ret):=by rw[<-H.out.2.2.2.1.2.1];exact hG3.c8
  have hgl3:=hG3.lt;have H3:M6 (_/\_/\_):=⟨hG3,H1.out.2.2.2.1.below hb3,hR3⟩;obtain⟨x0,x1,x2,x3,x4,x5,x6⟩:=hx;clear hG3 hb3 hR3;have hO:=HO.out;rw[Nh (Nt hA)]at hO;have HE:M6 (_/\_):=⟨kz H3.out.1 H.out.2.2.1 HM.out.1 (by have:=HM.out.2;omega) 6 why,hO⟩;clear hO hA
  go_wp2_with fail
  refine Nd HE.out.1 ?_;rintro r w9 ⟨rfl,V9,hG9,hV9,hF9⟩;have H9:M6 (_/\_/\_):=⟨hG9,hV9.trans H1.out.2.2.1.2.2,H3.out.2.1.F0 hF9⟩;clear hG9 hV9 hF9;go_wp2
  go_end0
  rw[HE.out.2];exact⟨rfl,V9,H9.out.1,H9.out.2.1,H9.out.2.2⟩
 ·have hAf:(f.ret == G.cfg.ret)=false:=by rw[Oh];exact hA
  by_cases hB:er=0
  ·subst hB
   go_wp2_with fail
   go_quiet (fail)
   have hb3:=dz HU.out.1 nq;have hR3:(u3.drewN nq).heap[bx]?=MI (iY tk):=HU.out.2;clear v5 v8 hglu hblu;generalize u3.drewN nq=w3 at *;have hG3:=H1.out.2.1.below hb3;have hx:km w3 bf i f:=by
    obtain⟨hi1,hff⟩:=HFL.out;have:=hG3.Gl H1.out.2.2.2.2 hi1;rw[hff]at this;exact this
   have e8:w3.cell? ⟨g,8,MH⟩=MI (MF ME G.cfg.ret):=by rw[<-H.out.2.2.2.1.2.1];exact hG3.c8
   have hgl3:=hG3.lt;have H3:M6 (_/\_/\_):=⟨hG3,H1.out.2.2.2.1.below hb3,hR3⟩;obtain⟨x0,x1,x2,x3,x4,x5,x6⟩:=hx;clear hG3 hb3 hR3;have hO:=HO.out;rw[Nf (by rintro(h|h);exact hA h;exact h rfl)]at hO;obtain⟨fs,hfs⟩:∃fs,fs=bO G1.fls f.slot f.gen:=⟨_,rfl⟩;rw[<-hfs]at hO;have hfl:fs.length<=40:=by rw[hfs];exact Nm (nL _ _ _) (by rw[H.out.2.2.2.1.1];exact HX.out.1.Gb)
   have hbe:∀x∈fs,0<=x.be/\x.be<12:=fun x hx=>(H.out.2.2.1.F9 (by rw[hfs]at hx;exact(List.mem_filter.1 hx).1)).2.2.2
   obtain⟨⟨cb,ce⟩,hce⟩:∃ce,ce=dL G1 f.key fs:=⟨_,rfl⟩;rw[<-hce]at hO;simp only[]at hO;have HWo:∀X,MQ w3.heap.size w3 X->Ni MK 169 #[gP g,Ny #[MF ME f.slot,MF ME f.gen]] X fun r w'=>∃q c,r=MN (MG (MI ⟨q,0,MH⟩) fs.length c)/\w'.cell? ⟨bf,i*7+2,MH⟩=MI (MF ME f.key)/\bf<w'.heap.size /\
     M6 (∀Y,MQ w'.heap.size w' Y->Ni MK 111 #[gP g,MF ME f.key,MG (MI ⟨q,0,MH⟩) fs.length c] Y fun r w5=>r=MN (Nv #[MF ME cb,M3 (ce == 0)])/\M6 (MQ w3.heap.size w3 w5)):=by
    intro X hX;have hGX:=H3.out.1.below hX;refine Nd (vW hGX HM.out.1 (by rw[H.out.2.2.2.1.1];exact HX.out.1.Gb)) ?_;rw[<-hfs];rintro r w' ⟨q,c,rfl,ho,hb⟩;have hb2:=hX.trans (hb.mono hX.size);have hbl3:bf<w3.heap.size:=MX w3 ⟨bf,i*7+2,MH⟩ x2;refine⟨q,c,rfl,(hb2.cell (p:=⟨bf,i*7+2,MH⟩) hbl3).trans x2,M8 hbl3 hb2.size,?_⟩;intro Y hY;refine Nd (nV (hGX.below hb |>.below hY) H.out.2.2.1 HX.out.2.2.2.1.2.2.1 _ fs ((gZ ho).below hY) hbe hfl) ?_;rw[<-hce];rintro r w5 ⟨rfl,hb5⟩;have hb6:=hb2.trans (hY.mono hb2.size);exact⟨rfl,hb6.trans (hb5.mono hb6.size)⟩
   have H4:M6 (_/\_/\_/\_/\_):=⟨HWo,hO,hfl,hbe,hce⟩;have hA':M6 (¬f.ret=G.cfg.ret):=hA;have hbl3:bf<w3.heap.size:=MX w3 ⟨bf,i*7+2,MH⟩ x2;clear HWo hO hfs hfl hbe hce hA e8 x3 x4 x5 x6
   go_wp2_with fail
   go_region_with (first|(go_at_call 169;refine(H4.out.1 _ (by first|exact(MY _ _).drew|exact Below.refl _ _)).mono ?_;rintro r w4 ⟨q,c4,rfl,k2,hbl4,hC4⟩)|(go_at_call 111;refine(hC4.out _ (by first|exact(MY _ _).drew|exact MY _ _)).mono ?_;rintro r w5 ⟨rfl,hQ5⟩))
   all_goals
    have hb5:=hQ5.out;clear hQ5 hC4 k2 hbl4 hbl3 x0 x1 x2 hgl3;have hG5:=H3.out.1.below hb5;have hR5:=af H3.out.2.2 hb5;have H5:M6 (_/\_/\_):=⟨True.intro,True.intro,H3.out.2.1⟩
    by_cases hC:ce=0
    ·subst hC
     have hO:=H4.out.2.1;rw[Nf (by decide)]at hO;have e23:=hG5.Id;have f23:=hG5.fz 23;have hgl5:=hG5.lt;have y0:w5.cell? ⟨bx,0,MH⟩=MI (MF ME tk):=by rw[MW w5 _ 0 _ _ (0,0) hR5];rfl
     have hlt5:bx<w5.heap.size:=(Array.getElem?_eq_some_iff.1 hR5).1;obtain⟨w6,hw6⟩:∃w6,w6=w5.setCell ⟨g,23,MH⟩ (MF ME tk):=⟨_,rfl⟩;have hG6:=hG5.IC tk;have hF6:=(H5.out.2.2.below hb5).F4 23 (MF ME tk);rw[<-hw6]at hG6 hF6;have hch:=H.out.2.2.1.Ib (key:=f.key) H4.out.2.2.1 (by rw[<-H4.out.2.2.2.2]);rw[<-H4.out.2.2.2.2]at hch;have hcb:0<=cb/\cb<12:=hch.2;have hsp:=pW HX.out.1.GM HX.out.2.2.2.2.2.2 (by rw[<-HX.out.2.2.2.2.1]);rw[<-HX.out.2.2.2.2.1]at hsp;have htk:tk=G.tok-G.cfg.bd:=congrArg Prod.fst hsp.1;have hbs6:Bs {G1 with tok:=tk}:=H.out.2.2.1.Hp (by rw[htk,H.out.2.2.2.1.2.1];exact qB HX.out.1 hsp.2);have hrr:0<=(aQ {G1 with tok:=tk} i).ret/\(aQ {G1 with tok:=tk} i).ret+1<=20:=by
      obtain⟨hi1,hff⟩:=HFL.out;have e:aQ {G1 with tok:=tk} i=f:=(bJ (G:=G1) hi1).trans hff;rw[e];have h1:=HX.out.2.2.2.2.2.1;have h2:=hA'.out;have h3:=HX.out.1.cfg.2.2.2.2.2.2.2.2.1;omega
     have hi6:i<({G1 with tok:=tk}:Gt).fls.length:=by obtain⟨hi1,hff⟩:=HFL.out;exact hi1
     have HR:=wY hG6 hbs6 (by show G1.wnow=G1.now;rw[H.out.2.2.2.1.2.2.2.1,H.out.2.2.2.1.2.2.1];exact HX.out.2.1) (by show G1.out.length<=900000;have:=HM.out.2;omega) hi6 H1.out.2.2.2.2 hcb hrr;have H6:M6 (_/\_/\_):=⟨HR,hF6,hO⟩;clear hG5 hR5 hb5 hG6 hF6 hch hcb hsp htk hbs6 hrr hi6 HR hO
     go_wp2_with fail
     rw[<-hw6];clear hw6 e23 f23 hgl5 y0 hlt5;refine Nd H6.out.1 ?_;rintro r w9 ⟨rfl,V9,hG9,hV9,hF9⟩;have H9:M6 (_/\_/\_):=⟨hG9,hV9.trans H1.out.2.2.1.2.2,H6.out.2.1.F0 hF9⟩;clear hG9 hV9 hF9;go_wp2
     go_end0
     rw[H6.out.2.2];exact⟨rfl,V9,H9.out.1,H9.out.2.1,H9.out.2.2⟩
    ·have hne:(ce == 0)=false:=by rw[Oh];exact hC
     have hO:=H4.out.2.1;rw[Nh hC]at hO;have hx:km w5 bf i f:=by
      obtain⟨hi1,hff⟩:=HFL.out;have:=hG5.Gl H1.out.2.2.2.2 hi1;rw[hff]at this;exact this
     obtain⟨x0,x1,x2,x3,x4,x5,x6⟩:=hx;have hgl5:=hG5.lt;have HE:M6 (_/\_/\_):=⟨kz hG5 H.out.2.2.1 HM.out.1 (by have:=HM.out.2;omega) 6 4,hO,H5.out.2.2.below hb5⟩;rw[hne];clear hO hC hG5 hR5 hb5 hne
     go_wp2_with fail
     refine Nd HE.out.1 ?_;rintro r w9 ⟨rfl,V9,hG9,hV9,hF9⟩;have H9:M6 (_/\_/\_):=⟨hG9,hV9.trans H1.out.2.2.1.2.2,HE.out.2.2.F0 hF9⟩;clear hG9 hV9 hF9;go_wp2
     go_end0
     rw[HE.out.2.1];exact⟨rfl,V9,H9.out.1,H9.out.2.1,H9.out.2.2⟩
  ·have hBt:(er != 0)=true:=by simpa using hB
   go_wp2_with fail
   go_quiet (fail)
   have hb3:=dz HU.out.1 nq;have hR3:(u3.drewN nq).heap[bx]?=MI (iY tk):=HU.out.2;clear v5 v8 hglu hblu;generalize u3.drewN nq=w3 at *;have hG3:=H1.out.2.1.below hb3;have hx:km w3 bf i f:=by
    obtain⟨hi1,hff⟩:=HFL.out;have:=hG3.Gl H1.out.2.2.2.2 hi1;rw[hff]at this;exact this
   have e8:w3.cell? ⟨g,8,MH⟩=MI (MF ME G.cfg.ret):=by rw[<-H.out.2.2.2.1.2.1];exact hG3.c8
   have hgl3:=hG3.lt;have H3:M6 (_/\_/\_):=⟨hG3,H1.out.2.2.2.1.below hb3,hR3⟩;obtain⟨x0,x1,x2,x3,x4,x5,x6⟩:=hx;clear hG3 hb3 hR3;have hO:=HO.out;rw[Nh (NF hB)]at hO;have HE:M6 (_/\_):=⟨kz H3.out.1 H.out.2.2.1 HM.out.1 (by have:=HM.out.2;omega) 6 why,hO⟩;clear hO hA hB
   go_wp2_with fail
   refine Nd HE.out.1 ?_;rintro r w9 ⟨rfl,V9,hG9,hV9,hF9⟩;have H9:M6 (_/\_/\_):=⟨hG9,hV9.trans H1.out.2.2.1.2.2,H3.out.2.1.F0 hF9⟩;clear hG9 hV9 hF9;go_wp2
   go_end0
   rw[HE.out.2];exact⟨rfl,V9,H9.out.1,H9.out.2.1,H9.out.2.2⟩
end
section
variable {base:Nat}{w:MO}{g:Nat}{V:Vs}{G:Gt}
abbrev kI(e:Ev):Value:=Ny #[MF ME e.kind,MF ME e.key,MF ME e.slot,MF ME e.gen,M3 e.good,MF ME e.req,MF ME e.be,MF ME e.wt]
abbrev e9(e:Ev):Obj:=MP #[MF ME e.kind,MF ME e.key,MF ME e.slot,MF ME e.gen,M3 e.good,MF ME e.req,MF ME e.be,MF ME e.wt] 59
theorem gO{q:Nat}{e:Ev}(h:W.heap[q]?=MI (e9 e)):W.cell? ⟨q,0,MH⟩=MI (MF ME e.kind)/\W.cell? ⟨q,1,MH⟩=MI (MF ME e.key)/\W.cell? ⟨q,2,MH⟩=MI (MF ME e.slot)/\W.cell? ⟨q,3,MH⟩=MI (MF ME e.gen)/\W.cell? ⟨q,4,MH⟩=MI (M3 e.good)/\W.cell? ⟨q,5,MH⟩=MI (MF ME e.req)/\W.cell? ⟨q,6,MH⟩=MI (MF ME e.be)/\W.cell? ⟨q,7,MH⟩=MI (MF ME e.wt)/\q<W.heap.size :=
 ⟨by rw[MW W _ 0 _ _ (0,0) h];rfl,by rw[MW W _ 1 _ _ (0,0) h];rfl,by rw[MW W _ 2 _ _ (0,0) h];rfl,by rw[MW W _ 3 _ _ (0,0) h];rfl,by rw[MW W _ 4 _ _ (0,0) h];rfl,by rw[MW W _ 5 _ _ (0,0) h];rfl,by rw[MW W _ 6 _ _ (0,0) h];rfl,by rw[MW W _ 7 _ _ (0,0) h];rfl,(Array.getElem?_eq_some_iff.1 h).1⟩
theorem rj{f:FuncId}{a:Array M7}(h:Ni MK f a w (ew base w g V G')):Ni MK f a w (eK base w g V G'):=h.mono fun _ _ k=>Ep k
theorem De(hbs:Bs G){s n:Int}(h:∃f∈G.fls,f.slot=s/\f.gen=n){i:Nat}(hi:i=fL G.fls s):∃f,f∈G.fls/\i<G.fls.length/\aQ G i=f:=by
 obtain⟨f,hf,hs,_⟩:=h;subst hs;subst hi;obtain⟨h1,h2⟩:=hbs.GG hf;exact⟨f,hf,h1,(bJ h1).trans h2⟩
abbrev me(s n:Int):Obj:=MP #[MF ME s,MF ME n] 97
abbrev rJ(t:FX):Obj:=MP #[MF ME t.1,M3 t.2.1,MF ME t.2.2.1,MF ME t.2.2.2] 174
abbrev CO(w:MO)(b:Nat)(t:FX):World:=(((w.setCell ⟨b,0,MH⟩ (MF ME t.1)).setCell ⟨b,1,MH⟩ (M3 t.2.1)).setCell ⟨b,2,MH⟩ (MF ME t.2.2.1)).setCell ⟨b,3,MH⟩ (MF ME t.2.2.2)
abbrev ua(w:MO)(b:Nat):Prop:=w.cell? ⟨b,0,MH⟩=MI (MF ME 0)/\w.cell? ⟨b,1,MH⟩=MI (M3 Nb)/\w.cell? ⟨b,2,MH⟩=MI (MF ME 0)/\w.cell? ⟨b,3,MH⟩=MI (MF ME 0)/\w.frozen? ⟨b,0,MH⟩=Nb/\w.frozen? ⟨b,1,MH⟩=Nb/\w.frozen? ⟨b,2,MH⟩=Nb/\w.frozen? ⟨b,3,MH⟩=Nb/\b<w.heap.size
theorem BX{b:Nat}(h:w.heap[b]?=MI (rJ (0,Nb,0,0))):ua w b :=
 ⟨by rw[MW w _ 0 _ _ (0,0) h];rfl,by rw[MW w _ 1 _ _ (0,0) h];rfl,by rw[MW w _ 2 _ _ (0,0) h];rfl,by rw[MW w _ 3 _ _ (0,0) h];rfl,by simp[Ng,h],by simp[Ng,h],by simp[Ng,h],by simp[Ng,h],(Array.getElem?_eq_some_iff.1 h).1⟩
theorem Ft{a:MO}{b:Nat}(h:MQ B a w)(hb:B<=b)(t:FX):MQ B a (CO w b t):=
 (((h.setCell (p:=⟨b,0,MH⟩) hb _).setCell (p:=⟨b,1,MH⟩) hb _).setCell (p:=⟨b,2,MH⟩) hb _).setCell (p:=⟨b,3,MH⟩) hb _
theorem zl(h:ab base w g V G)(hbs:Bs G)(hw:G.wnow=G.now)(hl:G.out.length<=800000)(e:Ev) :
  Ni MK 79 #[gP g,kI e] w (eK base w g V (mW G e)):=by
 obtain⟨O,hO⟩:∃O,O=mW G e:=⟨_,rfl⟩;rw[<-hO];unfold mW at hO;simp only[]at hO;obtain⟨⟨⟨t1,t2,t3,t4⟩,c⟩,htc⟩:∃o,o=cC G.tab e.slot e.gen:=⟨_,rfl⟩;rw[<-htc]at hO;simp only[]at hO;obtain⟨W,hW⟩:∃W,W=(w.alloc (e9 e)).alloc (me e.slot e.gen):=⟨_,rfl⟩;have hx:=iF w (e9 e) (me e.slot e.gen);rw[<-hW]at hx;obtain⟨hR0,hR1,hB,hsz⟩:=hx;have hG:=h.below hB;have c17:=hG.Gs;have hgl:=h.lt;have hglW:=hG.lt;have y0:W.cell? ⟨w.heap.size+1,0,MH⟩=MI (MF ME e.slot):=by rw[MW W _ 0 _ _ (0,0) hR1];rfl
 have y1:W.cell? ⟨w.heap.size+1,1,MH⟩=MI (MF ME e.gen):=by rw[MW W _ 1 _ _ (0,0) hR1];rfl
 have hl1:w.heap.size+1<W.heap.size:=(Array.getElem?_eq_some_iff.1 hR1).1;have HG:M6 ((∀X,MQ W.heap.size W X->X.heap[W.heap.size]?=MI (rJ (0,Nb,0,0))->Ni MK 116 #[Ny #[MG V.pt G.tab.length V.ct],Ny #[MF ME e.slot,MF ME e.gen]] X fun r w'=>r=MN (Nv #[Ny #[MF ME t1,M3 t2,MF ME t3,MF ME t4],MF ME c])/\ua w' W.heap.size /\
   ∃bx u3,bx=W.heap.size/\u3=((((w'.setCell ⟨W.heap.size,0,MH⟩ (MF ME t1)).setCell ⟨W.heap.size,1,MH⟩ (M3 t2)).setCell ⟨W.heap.size,2,MH⟩ (MF ME t3)).setCell ⟨W.heap.size,3,MH⟩ (MF ME t4))/\M6 (MQ W.heap.size W u3)) /\
   (∀X,MQ W.heap.size W X->Ni MK 116 #[Ny #[MG V.pt G.tab.length V.ct],Ny #[MF ME e.slot,MF ME e.gen]] X fun r w'=>r=MN (Nv #[Ny #[MF ME t1,M3 t2,MF ME t3,MF ME t4],MF ME c]) /\
   ∃bx u3,bx=w'.heap.size/\u3=w'.alloc (MP #[MF ME t1,M3 t2,MF ME t3,MF ME t4] 174)/\M6 (MQ W.heap.size W u3))):=by
  have hget:∀X,MQ W.heap.size W X->Ni MK 116 #[Ny #[MG V.pt G.tab.length V.ct],Ny #[MF ME e.slot,MF ME e.gen]] X fun r w'=>r=MN (Nv #[Ny #[MF ME t1,M3 t2,MF ME t3,MF ME t4],MF ME c])/\MQ X.heap.size X w':=by
   intro X hX;refine(qJ _ G.tab e.slot e.gen X (hG.rest.tab.now.below hX)).mono ?_;rw[<-htc];exact fun r w' h=>h
  constructor
  ·intro X hX hR
   refine(hget X hX).mono ?_;rintro r w' ⟨rfl,hb⟩;have hR':=af hR hb;have hb2:=hX.trans (hb.mono hX.size);exact⟨rfl,BX hR',_,_,rfl,rfl,Ft hb2 (MV _) (t1,t2,t3,t4)⟩
  ·intro X hX
   refine(hget X hX).mono ?_;rintro r w' ⟨rfl,hb⟩;have hb2:=hX.trans (hb.mono hX.size);exact⟨rfl,_,_,rfl,rfl,hb2.trans ((ai w' (o:=MP #[MF ME t1,M3 t2,MF ME t3,MF ME t4] 174)).mono hb2.size)⟩
 have H:M6 (_/\_/\_/\_/\_/\_/\_):=⟨hG,hbs,hw,hl,hO,htc,hB⟩;have HR:M6 (_/\_):=⟨hR0,h⟩;clear h hbs hw hl hO htc hB hR0 hR1 hG hsz;go_enter Tryz.func79,Tryz.ntmps79
 go_wp2_with fail
 rw[<-hW];clear hW;apply ki
 ·intro KEY
  go_region_with (first|(go_at_call 116;refine(HG.out.1 _ (by first|exact(ai _).drew|exact ai _) (by first|exact M1 _ _|(show(World.alloc _ _).heap[_]?=_;exact heap_alloc_new _ _))).mono ?_;rintro r w2 ⟨rfl,⟨s0,s1,s2,s3,z0,z1,z2,z3,hlt2⟩,bx,u3,hbx,hw3,hQ⟩)|(go_at_call 116;refine(HG.out.2 _ (by first|exact(MY _ _).drew|exact Below.refl _ _)).mono ?_;rintro r w2 ⟨rfl,bx,u3,hbx,hw3,hQ⟩))
  all_goals
   rw[<-hw3]
   try rw[<-hbx]
   clear hw3 hbx
   try clear s0 s1 s2 s3 z0 z1 z2 z3 hlt2
   revert bx u3;exact KEY.out
 intro bx u3 hQ;clear c17 y0 y1 hl1 hglW HG hgl;have hG3:=H.out.1.below hQ.out;have hF3:am V V g w u3:=(am.F5 H.out.2.2.2.2.2.2).below hQ.out;have hR3:=af HR.out.1 hQ.out;obtain⟨k0,_,k2,k3,k4,_,_,_,klt⟩:=gO hR3;have hgl3:=hG3.lt
 by_cases hc:c=0
 ·subst hc
  have hO:=H.out.2.2.2.2.1;rw[Nf (by decide)]at hO;have hgot:=H.out.2.1.Jv (s:=e.slot) (g:=e.gen) (by rw[<-H.out.2.2.2.2.2.1]);obtain⟨i,hie⟩:∃i,i=fL G.fls e.slot:=⟨_,rfl⟩;obtain⟨f,hfm,hi,hfa⟩:=De H.out.2.1 hgot hie;rw[<-hie]at hO;rw[hfa]at hO;obtain⟨bf,hp,_,hbl⟩:=hG3.bf (Pb (Nx _) hi);have HFl:M6 (_/\_/\_/\_/\_):=⟨nN hG3 hi hie.symm hp H.out.2.1.Gb,hG3,hF3,hR3,hO⟩;have HI:M6 (_/\_/\_/\_):=⟨hi,hfa,hp,hfm⟩;clear hG3 hF3 hR3 hO hi hfa hp hbl hfm hie
  go_wp2_with fail
  refine Nd HFl.out.1 ?_;rintro r w4 ⟨rfl,hb4⟩;have hG4:=HFl.out.2.1.below hb4;have hR4:=af HFl.out.2.2.2.1 hb4;have hx:=hG4.Gw HI.out.2.2.1 HI.out.1;rw[HI.out.2.1]at hx;obtain⟨x0,x1,x2,x3,x4,x5,x6⟩:=hx;clear k0 k2 k3 k4 klt hgl3;obtain⟨k0,_,_,_,k4,_,_,_,klt⟩:=gO hR4;have hgl4:=hG4.lt;have H4:M6 (_/\_):=⟨hG4,HFl.out.2.2.1.below hb4⟩;clear hG4 hR4 hb4;have hO:=HFl.out.2.2.2.2
  by_cases h3:e.kind=3
  ·rw[Nh h3]at hO
   rw[h3]at k0;have HE:M6 (_/\_):=⟨kz H4.out.1 H.out.2.1 HI.out.2.2.2 (by have:=H.out.2.2.2.1;omega) 7 0,hO⟩;clear hO h3
   go_wp2_with fail
   refine Nd HE.out.1 ?_;rintro r w9 ⟨rfl,V9,hG9,hV9,hF9⟩;have H9:M6 (_/\_/\_):=⟨hG9,hV9,H4.out.2.F0 hF9⟩;clear hG9 hV9 hF9;go_wp2
   go_end0
   rw[HE.out.2];exact⟨rfl,V9,H9.out.1,H9.out.2.1,H9.out.2.2⟩
  ·rw[Nf h3]at hO
   have h3f:(e.kind == 3)=false:=by rw[Oh];exact h3
   by_cases h2:e.kind=2
   ·rw[Nh h2]at hO
    rw[h2]at k0;have HE:M6 (_/\_):=⟨Ag H4.out.1 H.out.2.1 H.out.2.2.1 (by have:=H.out.2.2.2.1;omega) HI.out.1 HI.out.2.2.1,hO⟩;clear hO h3 h3f h2
    go_wp2_with fail
    refine Nd HE.out.1 ?_;rintro r w9 ⟨rfl,V9,hG9,hV9,hF9⟩;have H9:M6 (_/\_/\_):=⟨hG9,hV9,H4.out.2.F0 hF9⟩;clear hG9 hV9 hF9;go_wp2
    go_end0
    rw[HE.out.2];exact⟨rfl,V9,H9.out.1,H9.out.2.1,H9.out.2.2⟩
   ·rw[Nf h2]at hO
    have h2f:(e.kind == 2)=false:=by rw[Oh];exact h2
    cases hs:f.srv
    ·rw[hs]at x4 hO
     rw[Nf (by decide)]at hO;cases hg:e.good
     ·rw[hg]at k4 hO
      rw[Nf (by decide)]at hO;have HE:M6 (_/\_):=⟨vU H4.out.1 H.out.2.1 H.out.2.2.1 H.out.2.2.2.1 HI.out.1 HI.out.2.2.1 3,hO⟩;clear hO h3 h2
      go_wp2_with fail
      refine Nd HE.out.1 ?_;rintro r w9 ⟨rfl,V9,hG9,hV9,hF9⟩;have H9:M6 (_/\_/\_):=⟨hG9,hV9,H4.out.2.F0 hF9⟩;clear hG9 hV9 hF9;go_wp2
      go_end0
      rw[HE.out.2];exact⟨rfl,V9,H9.out.1,H9.out.2.1,H9.out.2.2⟩
     ·rw[hg]at k4 hO
      rw[Nh rfl]at hO;have HE:M6 (_/\_):=⟨EI H4.out.1 H.out.2.1 H.out.2.2.1 (by have:=H.out.2.2.2.1;omega) HI.out.1 HI.out.2.2.1,hO⟩;clear hO h3 h2
      go_wp2_with fail
      refine Nd HE.out.1 ?_;rintro r w9 ⟨rfl,V9,hG9,hV9,hF9⟩;have H9:M6 (_/\_/\_):=⟨hG9,hV9,H4.out.2.F0 hF9⟩;clear hG9 hV9 hF9;go_wp2
      go_end0
      rw[HE.out.2];exact⟨rfl,V9,H9.out.1,H9.out.2.1,H9.out.2.2⟩
    ·rw[hs]at x4 hO
     rw[Nh rfl]at hO;have HE:M6 (_/\_):=⟨rj (mh H4.out.1 (by have:=H.out.2.2.2.1;omega) 10 7),hO⟩;clear hO h3 h2
     go_wp2_with fail
     refine Nd HE.out.1 ?_;rintro r w9 ⟨rfl,V9,hG9,hV9,hF9⟩;have H9:M6 (_/\_/\_):=⟨hG9,hV9,H4.out.2.F0 hF9⟩;clear hG9 hV9 hF9;go_wp2
     go_end0
     rw[HE.out.2];exact⟨rfl,V9,H9.out.1,H9.out.2.1,H9.out.2.2⟩
 ·have hct:(c != 0)=true:=by simpa using hc
  have hO:=H.out.2.2.2.2.1;rw[Nh hc]at hO;have HE:M6 (_/\_/\_):=⟨rj (mh hG3 (by have:=H.out.2.2.2.1;omega) 10 c),hO,hF3⟩;clear hO hc hG3 hF3 hR3
  go_wp2_with fail
  refine Nd HE.out.1 ?_;rintro r w9 ⟨rfl,V9,hG9,hV9,hF9⟩;have H9:M6 (_/\_/\_):=⟨hG9,hV9,HE.out.2.2.F0 hF9⟩;clear hG9 hV9 hF9;go_wp2
  go_end0
  rw[HE.out.2.1];exact⟨rfl,V9,H9.out.1,H9.out.2.1,H9.out.2.2⟩
end
section
variable {base:Nat}{w:MO}{g:Nat}{V:Vs}{G:Gt}
abbrev jl(a b:M7):Obj:=MP #[a,b] 43
theorem uK{a b:M7}(h:bT B w va vb L R)(hk:k<B):bT B ((w.setCell ⟨k,0,MH⟩ a).setCell ⟨k,1,MH⟩ b) va vb L R:=by
 have hb:∀x,B<=x->((w.setCell ⟨k,0,MH⟩ a).setCell ⟨k,1,MH⟩ b).heap[x]?=w.heap[x]?:=fun x hx=>by
  have hne:x≠k:=by omega
  rw[MU _ _ _ _ hne,MU _ _ _ _ hne]
 exact⟨⟨eD.Gf h.1.1 (by simp) fun x hx=>hb x (h.2.1 x hx),eD.Gf h.1.2 (by simp) fun x hx=>hb x (h.2.2 x hx)⟩,h.2⟩
theorem uu(h:bT B w va vb L R)(hb:MQ w.heap.size w w'):bT B w' va vb L R:=⟨h.1.below hb,h.2⟩
theorem mU{A:Nat}(h:bT B w va vb L R)(hb:A<=B):bT A w va vb L R:=⟨h.1,fun b e=>Nm hb (h.2.1 b e),fun b e=>Nm hb (h.2.2 b e)⟩
def ym(base:Nat)(w:MO)(g:Nat)(V:Vs)(G':Gt)(b:Bool)(r:Ending)(w':MO):Prop :=
 r=MN (M3 b)/\∃V',ab base w' g V' G'/\(V'.pf=V.pf/\V'.cf=V.cf/\V'.bh=V.bh)/\am V V' g w w'
abbrev tg(a b c d e:Int):Obj:=MP #[MF ME a,MF ME b,MF ME c,MF ME d,MF ME e] 179
theorem zo(hb:MQ W.heap.size W w5)(hk:bT X.heap.size w5 va vb L R)(hs:W.heap.size<=X.heap.size):
  ∃bx u3,bx=w5.heap.size/\u3=w5.alloc (jl va vb)/\M6 (MQ W.heap.size W u3/\u3.heap[bx]?=MI (jl va vb)/\W.heap.size<=bx/\bT W.heap.size u3 va vb L R):=
 ⟨_,_,rfl,rfl,hb.trans ((ai w5).mono hb.size),M1 _ _,hb.size,mU (uu hk (ai w5)) hs⟩
theorem D4(hT:X.heap[W.heap.size]?=MI (jl (MG MH 0 0) (MG MH 0 0)))(hX:MQ X.heap.size X w5)(hb:MQ W.heap.size W w5)(hk:bT X.heap.size w5 va vb L R):
  ∃bx u3,bx=W.heap.size/\u3=(w5.setCell ⟨W.heap.size,0,MH⟩ va).setCell ⟨W.heap.size,1,MH⟩ vb/\M6 (MQ W.heap.size W u3/\u3.heap[bx]?=MI (jl va vb)/\W.heap.size<=bx/\bT W.heap.size u3 va vb L R):=by
 have hlt:W.heap.size<X.heap.size:=(Array.getElem?_eq_some_iff.1 hT).1;exact⟨_,_,rfl,rfl,np hb (MV _) 0 1 _ _,iw (af hT hX),MV _,mU (uK hk hlt) (PJ hlt)⟩
theorem tr(h:ab base w g V G)(hl:G.out.length<=1000000)(kind:Int)(e:Ev) :
  Ni MK 80 #[gP g,MF ME kind,kI e] w (ym base w g V (fO G kind e) (ja G kind e)):=by
 obtain⟨⟨⟨L',R'⟩,ans,fr,er⟩,hOe⟩:∃O,O=dJ G kind e:=⟨_,rfl⟩;have hgo:fO G kind e=ge {G with liv:=L',req:=R'} ⟨8,0,0,0,e.req,ans,0⟩:=by unfold fO;rw[<-hOe]
 have hyes:ja G kind e=(fr && (ans == 0)):=by unfold ja;rw[<-hOe]
 rw[hgo,hyes];obtain⟨W,hW⟩:∃W,W=(w.alloc (e9 e)).alloc (tg e.req kind e.be e.wt 0):=⟨_,rfl⟩;have hx:=iF w (e9 e) (tg e.req kind e.be e.wt 0);rw[<-hW]at hx;obtain⟨hR0,hR1,hB,hsz⟩:=hx;have hG:=h.below hB;have c19:=hG.Gn;have c20:=hG.GD;have c16:=hG.Gm;have c5:=hG.c5;have hgl:=h.lt;have hglW:=hG.lt;have y0:W.cell? ⟨w.heap.size+1,0,MH⟩=MI (MF ME e.req):=by rw[MW W _ 0 _ _ (0,0) hR1];rfl
 have y1:W.cell? ⟨w.heap.size+1,1,MH⟩=MI (MF ME kind):=by rw[MW W _ 1 _ _ (0,0) hR1];rfl
 have y2:W.cell? ⟨w.heap.size+1,2,MH⟩=MI (MF ME e.be):=by rw[MW W _ 2 _ _ (0,0) hR1];rfl
 have y3:W.cell? ⟨w.heap.size+1,3,MH⟩=MI (MF ME e.wt):=by rw[MW W _ 3 _ _ (0,0) hR1];rfl
 have y4:W.cell? ⟨w.heap.size+1,4,MH⟩=MI (MF ME 0):=by rw[MW W _ 4 _ _ (0,0) hR1];rfl
 have hl1:w.heap.size+1<W.heap.size:=(Array.getElem?_eq_some_iff.1 hR1).1;have HK:M6 (∀X,MQ W.heap.size W X->Ni MK 122 #[Ny #[MG V.pl G.liv.length V.cl,MG V.pr G.req.length V.cr],Ny #[MF ME e.req,MF ME kind,MF ME e.be,MF ME e.wt,MF ME 0],MF ME G.now,MF ME G.cfg.drain] X fun r w'=>∃p c q m,r=MN (Nv #[Ny #[MG p L'.length c,MG q R'.length m],MF ME ans,M3 fr,MF ME er]) /\
    M6 (MQ X.heap.size X w'/\MQ W.heap.size W w'/\bT X.heap.size w' (MG p L'.length c) (MG q R'.length m) L' R'/\W.heap.size<=X.heap.size)/\(∀n,n<X.heap.size->n<w'.heap.size)/\(∀b o,b<X.heap.size->w'.cell? ⟨b,o,MH⟩=X.cell? ⟨b,o,MH⟩)/\(∀b o,b<X.heap.size->w'.frozen? ⟨b,o,MH⟩=X.frozen? ⟨b,o,MH⟩)):=fun X hX=>by
  refine(Av _ _ G.liv G.req e.req kind e.be e.wt 0 G.now G.cfg.drain X (hG.below hX).rest.book.now).mono ?_;have hO2:ff G.liv G.req (e.req,kind,e.be,e.wt,0) G.now G.cfg.drain=((L',R'),ans,fr,er):=hOe.symm;rw[hO2];rintro r w' ⟨p,c,q,m,rfl,hbk,hb⟩;exact⟨p,c,q,m,rfl,⟨hb,hX.trans (hb.mono hX.size),hbk,hX.size⟩,fun n hn=>M8 hn hb.size,fun b o hb'=>hb.cell (p:=⟨b,o,MH⟩) hb',fun b o hb'=>OM (a:=⟨b,o,MH⟩) (hb.block b hb')⟩
 have HS:M6 (∀X,MQ W.heap.size W X->X.cell? ⟨g,19,MH⟩=MI (MG V.pl G.liv.length V.cl)/\X.cell? ⟨g,20,MH⟩=MI (MG V.pr G.req.length V.cr)/\X.cell? ⟨g,16,MH⟩=MI (MF ME G.now)/\X.cell? ⟨g,5,MH⟩=MI (MF ME G.cfg.drain)/\X.cell? ⟨w.heap.size+1,0,MH⟩=MI (MF ME e.req)/\X.cell? ⟨w.heap.size+1,1,MH⟩=MI (MF ME kind)/\X.cell? ⟨w.heap.size+1,2,MH⟩=MI (MF ME e.be)/\X.cell? ⟨w.heap.size+1,3,MH⟩=MI (MF ME e.wt)/\X.cell? ⟨w.heap.size+1,4,MH⟩=MI (MF ME 0)/\MQ W.heap.size W X):=fun X hX =>
  ⟨(hX.cell hglW).trans c19,(hX.cell hglW).trans c20,(hX.cell hglW).trans c16,(hX.cell hglW).trans c5,(hX.cell hl1).trans y0,(hX.cell hl1).trans y1,(hX.cell hl1).trans y2,(hX.cell hl1).trans y3,(hX.cell hl1).trans y4,hX⟩
 have H:M6 (_/\_/\_/\_):=⟨hG,hl,am.F5 (V:=V) (g:=g) hB,hR0⟩;clear hOe hgo hyes hB hR0 hR1 hsz hG h hl;go_enter Tryz.func80,Tryz.ntmps80
 go_wp2_with fail
 rw[<-hW];clear hW;apply ki
 ·intro KEY
  go_region_held3 (fun X=>X.cell? ⟨g,19,MH⟩=MI (MG V.pl G.liv.length V.cl)/\X.cell? ⟨g,20,MH⟩=MI (MG V.pr G.req.length V.cr)/\X.cell? ⟨g,16,MH⟩=MI (MF ME G.now)/\X.cell? ⟨g,5,MH⟩=MI (MF ME G.cfg.drain)/\X.cell? ⟨w.heap.size+1,0,MH⟩=MI (MF ME e.req)/\X.cell? ⟨w.heap.size+1,1,MH⟩=MI (MF ME kind)/\X.cell? ⟨w.heap.size+1,2,MH⟩=MI (MF ME e.be)/\X.cell? ⟨w.heap.size+1,3,MH⟩=MI (MF ME e.wt)/\X.cell? ⟨w.heap.size+1,4,MH⟩=MI (MF ME 0)/\MQ W.heap.size W X) (first|exact HS.out _ ((MY _ _).drew)|exact HS.out _ (((MY _ _).drew).alloc (by simp) _)|exact HS.out _ hq5.out.2.1|exact HS.out _ (hq5.out.2.1.alloc hq5.out.2.1.size _)|exact HS.out _ (((MY _ _).alloc (MV _) _).drew)|exact HS.out _ (np hq5.out.2.1 (MV _) 0 1 _ _)) (first|(go_at_call 122;refine(HK.out _ ?hbW).mono ?_;(case hbW=>first|with_reducible assumption|exact(MY _ _).drew|exact((MY _ _).drew).alloc (by simp) _|exact((Below.refl _ _).alloc (Nat.le_refl _) _).drew);rintro r w5 ⟨p,c,q,m,rfl,hq5,hz5,hc5,hf5⟩))
  all_goals
   clear hz5 hc5 hf5;rename_i hHe;clear hHe
   first
   | (obtain⟨bx,u3,hbx,hu3,hQ⟩:=zo hq5.out.2.1 hq5.out.2.2.1 hq5.out.2.2.2
      rw[<-hu3]
      try rw[<-hbx]
      clear hu3 hbx hq5;revert p c q m bx u3;exact KEY.out)
   | (obtain⟨bx,u3,hbx,hu3,hQ⟩:=D4 (W:=W) (by first|exact M1 _ _|(show(World.alloc _ _).heap[_]?=_;exact heap_alloc_new _ _)) hq5.out.1 hq5.out.2.1 hq5.out.2.2.1
      rw[<-hu3]
      try rw[<-hbx]
      clear hu3 hbx hq5;revert p c q m bx u3;exact KEY.out)
 intro p c q m bx u3 hQ;clear c19 c20 c16 c5 y0 y1 y2 y3 y4 hl1 hglW HK HS;obtain⟨hb3,hRb,hbx,hbk⟩:=hQ.out;clear hQ;have hG3:=H.out.1.below hb3;have k0:u3.cell? ⟨bx,0,MH⟩=MI (MG p L'.length c):=by rw[MW u3 _ 0 _ _ (0,0) hRb];rfl
 have k1:u3.cell? ⟨bx,1,MH⟩=MI (MG q R'.length m):=by rw[MW u3 _ 1 _ _ (0,0) hRb];rfl
 have hbl:bx<u3.heap.size:=(Array.getElem?_eq_some_iff.1 hRb).1;have e19:=hG3.Gn;have e20:=hG3.GD;have f19:=hG3.fz 19;have f20:=hG3.fz 20;have hgl3:=hG3.lt;obtain⟨u4,hu4⟩:∃u4,u4=(u3.setCell ⟨g,19,MH⟩ (MG p L'.length c)).setCell ⟨g,20,MH⟩ (MG q R'.length m):=⟨_,rfl⟩;have hG4:=H.out.1.Iq hb3 hbk;rw[<-hu4]at hG4;have hF4:am V {V with pl:=p,cl:=c,pr:=q,cr:=m} g w u4:=by
  rw[hu4];exact(((H.out.2.2.1.below hb3).F4 19 _).F4 20 _).Gp fun _ h=>h
 have hR4:u4.heap[w.heap.size]?=MI (e9 e):=by
  have hne:w.heap.size≠g:=by omega
  rw[hu4,MU _ _ _ _ hne,MU _ _ _ _ hne];exact af H.out.2.2.2 hb3
 obtain⟨_,_,_,_,_,v5,_,_,vlt⟩:=gO (af H.out.2.2.2 hb3);have hneg:¬w.heap.size=g:=by omega
 have hneg2:¬g=w.heap.size:=by omega
 have H4:M6 (_/\_):=⟨ld hG4 H.out.2.1 ⟨8,0,0,0,e.req,ans,0⟩,hF4⟩;clear hG3 hG4 hF4 hR4 hb3 hRb hbk hbx
 go_wp2_with fail
 rw[<-hu4];clear hu4;refine Nd H4.out.1 ?_;rintro r w5 ⟨rfl,V5,hG5,hV5,hF5⟩;have H5:M6 (_/\_/\_):=⟨hG5,hV5,H4.out.2.F0 hF5⟩;clear hG5 hV5 hF5;cases fr
 ·go_wp2
  go_ret;exact⟨rfl,V5,H5.out.1,H5.out.2.1,H5.out.2.2⟩
 ·go_wp2
  go_ret;exact⟨by simp,V5,H5.out.1,H5.out.2.1,H5.out.2.2⟩
end
section
variable {base:Nat}{w:MO}{g:Nat}{V:Vs}{G:Gt}
theorem rx{r:Ending}{w1:MO}{V1:Vs}(hF:am V V1 g w w1)(hV:V1.pf=V.pf/\V1.cf=V.cf/\V1.bh=V.bh)(h:ew base w1 g V1 G' r w'):ew base w g V G' r w':=by
 obtain⟨h1,V',h2,h3,h4⟩:=h;exact⟨h1,V',h2,⟨h3.1.trans hV.1,h3.2.1.trans hV.2.1,h3.2.2.trans hV.2.2⟩,hF.F0 h4⟩
theorem AT(kind:Int)(e:Ev):(fO G kind e).wts=G.wts/\(fO G kind e).out.length=G.out.length+1/\(fO G kind e).cfg=G.cfg:=⟨rfl,by show(G.out++[_]).length=_;simp,rfl⟩
theorem C8(h:ab base w g V G)(him:Im G)(hl:G.out.length<=900000)(e:Ev)(he:fB e) :
  Ni MK 81 #[gP g,kI e] w (ew base w g V (nC G e)):=by
 obtain⟨O,hO⟩:∃O,O=nC G e:=⟨_,rfl⟩;rw[<-hO];unfold nC at hO;obtain⟨x,hx⟩:∃x,x=aq G.liv e.be:=⟨_,rfl⟩;obtain⟨W,hW⟩:∃W,W=w.alloc (e9 e):=⟨_,rfl⟩;have hB:MQ w.heap.size w W:=by rw[hW];exact ai w
 have hR:W.heap[w.heap.size]?=MI (e9 e):=by rw[hW];exact M1 _ _
 have hG:=h.below hB;have hfd:∀X:MO,(Instr.field 91 (gu x) 1).run MK X=.ok (MF ME x.2.1) X:=fun X=>by kernel_rfl
 obtain⟨_,_,_,_,_,_,k6,_,klt⟩:=gO hR;have hgl:=h.lt;have hno:¬V.own g w.heap.size:=h.rest.new (MV _);have HL:=m6 hG e.be;rw[<-hx]at HL;have hst:aA G.liv e.be=x.2.1:=by rw[hx]
 rw[hst]at hO;have H:M6 (_/\_/\_/\_/\_/\_/\_/\_):=⟨HL,hG,hR,am.F5 (V:=V) (g:=g) hB,him,hl,hO,hst⟩;have HE:M6 _:=he;have HNo:M6 _:=hno;clear HL hG hR hB him hl hO hst h he hx hno;go_enter Tryz.func81,Tryz.ntmps81
 go_wp2_with fail
 rw[<-hW];clear hW;refine Nd H.out.1 ?_;rintro r w1 ⟨rfl,hb1⟩;have hG1:=H.out.2.1.below hb1;have hR1:=af H.out.2.2.1 hb1;have hF1:=H.out.2.2.2.1.below hb1;clear k6 klt;obtain⟨k0,k1,k2,k3,k4,k5,k6,k7,klt⟩:=gO hR1;have HA:=tr hG1 (by have:=H.out.2.2.2.2.2.1;omega) 2 e;obtain⟨b,hb⟩:∃b,b=ja G 2 e:=⟨_,rfl⟩;have hO:=H.out.2.2.2.2.2.2.1;rw[<-hb]at HA hO;have HB:M6 _:=hb;cases b
 ·rw[Nh rfl]at hO
  have H1:M6 (_/\_/\_):=⟨HA,hF1,hO⟩;clear HA hF1 hO hb hG1 hR1 hb1
  go_wp2_with fail
  refine Nd H1.out.1 ?_;rintro r w2 ⟨rfl,V2,hG2,hV2,hF2⟩;have H2:M6 (_/\_/\_):=⟨hG2,hV2,H1.out.2.1.F0 hF2⟩;clear hG2 hV2 hF2;go_wp2
  go_end0
  rw[H1.out.2.2];exact⟨rfl,V2,H2.out.1,H2.out.2.1,H2.out.2.2⟩
 ·rw[Nf (by decide)]at hO
  have H1:M6 (_/\_/\_/\_):=⟨HA,hF1,hO,hR1⟩;clear HA hF1 hO hb hG1 hR1 hb1
  go_wp2_with fail
  refine Nd H1.out.1 ?_;rintro r w2 ⟨rfl,V2,hG2,hV2,hF2⟩;have hR2:=hF2.Gf H1.out.2.2.2 HNo.out;have hn2:=hF2.Ik (Array.getElem?_eq_some_iff.1 H1.out.2.2.2).1 HNo.out;clear k0 k1 k2 k3 k4 k5 k6 k7 klt;obtain⟨_,_,_,_,_,k5,k6,_,klt⟩:=gO hR2;have hsm:=AT (G:=G) 2 e;have hl2:(fO G 2 e).out.length<=1000000:=by rw[hsm.2.1];have:=H.out.2.2.2.2.2.1;omega
  have hF02:=H1.out.2.1.F0 hF2;have hO:=H1.out.2.2.1;obtain⟨st,hste⟩:∃st,st=x.2.1:=⟨_,rfl⟩;rw[<-hste]at hO⊢
  by_cases h1:st=1
  ·rw[Nh h1]at hO
   subst h1;have H2:M6 (_/\_/\_/\_):=⟨ue hG2 hl2 e.be e.req,hV2,hF02,hO⟩;clear hG2 hV2 hF2 hF02 hO hR2 hl2 hsm hste hfd
   go_wp2_with fail
   refine Nd H2.out.1 ?_;rintro r w3 ⟨rfl,V3,hP⟩;have H3:M6 _:=hP;clear hP;go_wp2
   go_end0
   rw[H2.out.2.2.2];exact rx H2.out.2.2.1 H2.out.2.1 ⟨rfl,V3,H3.out⟩
  ·rw[Nf h1]at hO
   have hne:(st == 1)=false:=beq_eq_false_iff_ne.2 h1;have hcs:=Fq H.out.2.2.2.2.1.bs (e:=e) HE.out.req;rw[<-HB.out]at hcs;obtain⟨bn,hbn⟩:=NL HE.out.be.1;have hbn12:bn<12:=by have:=HE.out.be.2;omega
   have hst2:aA G.liv e.be=2:=by
    rcases hcs with⟨h,_⟩|⟨_,_,_,h,_⟩
    ·cases h
    ·rcases h with h|h
     ·rw[H.out.2.2.2.2.2.2.2,<-hste]at h;exact absurd h h1
     ·exact h
   have hw0:0<G.wts.getD bn 0:=by
    have h2:=H.out.2.2.2.2.1.ring bn hbn12;rw[h2,<-hbn,Nh hst2];have:=H.out.2.2.2.2.1.bs.Iv (b:=e.be) (by rw[hst2];decide);omega
   obtain⟨A,hA⟩:∃A,A=fO G 2 e:=⟨_,rfl⟩;rw[<-hA]at hG2 hl2 hsm hO;have hbt:e.be.toNat=bn:=by rw[hbn];rfl
   rw[hbt]at hO;have hwt:aZ A.wts:=by rw[hsm.1];exact H.out.2.2.2.2.1.bs.wts
   have d21:=hG2.GX;have hgl2:=hG2.lt;rw[hsm.1]at d21;have hGx:ab base w2 g V2 {A with wts:=G.wts}:=by rw[<-hsm.1];exact hG2
   have HRm:M6 (∀X,MQ w2.heap.size w2 X->Ni MK 126 #[Ny #[MG V2.ps (ao G.wts).length V2.cs],MF ME e.be] X fun r w'=>∃p c n,r=MN (Nv #[Ny #[MG p n c],MF ME 0])/\w'.cell? ⟨g,21,MH⟩=MI (MG V2.ps (ao G.wts).length V2.cs)/\w'.frozen? ⟨g,21,MH⟩=Nb/\g<w'.heap.size /\
     ∃u3,u3=w'.setCell ⟨g,21,MH⟩ (MG p n c)/\M6 (ab base u3 g {V2 with ps:=p,cs:=c} {A with wts:=G.wts.set bn 0}/\am V {V2 with ps:=p,cs:=c} g w u3/\u3.heap[w.heap.size]?=MI (e9 e))):=by
    intro X hX;rw[hbn];refine(AX _ G.wts bn X (by rw[<-hsm.1];exact hwt) (by rw[<-hsm.1];exact(hG2.below hX).rest.ring.now) hbn12 hw0).mono ?_;rintro r w' ⟨p,c,rfl,ho,hb'⟩;have hb3:=hX.trans (hb'.mono hX.size);have hG3:=hGx.below hb3;have hGr:=hGx.IJ (a:=G.wts.set bn 0) hb3 (ho.mono hX.size);refine⟨p,c,_,rfl,hG3.GX,hG3.fz 21,hG3.lt,_,rfl,hGr,((hF02.below hb3).F4 21 _).Gp fun _ h=>h,?_⟩;have hne3:w.heap.size≠g:=by omega
    rw[MU _ _ _ _ hne3];exact af hR2 hb3
   have H2:M6 (_/\_/\_):=⟨hV2,hO,hl2⟩;clear hG2 hV2 hF2 hF02 hO hR2 hl2 hsm hste hfd hGx hwt hw0 hst2 hcs hA h1 hn2 hbt hbn hbn12
   go_wp2_with fail
   apply ki
   ·intro KEY
    go_region_with (first|(go_at_call 126;refine(HRm.out _ (by first|exact(MY _ _).drew|exact Below.refl _ _)).mono ?_;rintro r w3 ⟨p,c,n,rfl,s21,f21,hgl3,u3,hu3,hQ⟩))
    all_goals
     rw[<-hu3];clear hu3 s21 f21 hgl3;revert p c n u3;exact KEY.out
   intro p c n u3 hQ;obtain⟨hG4,hF4,hR4⟩:=hQ.out;clear hQ HRm d21 hgl2 k5 k6 klt;obtain⟨_,_,_,_,_,_,k6,_,klt⟩:=gO hR4;have H4:M6 (_/\_):=⟨re hG4 H2.out.2.2 e.be,hF4⟩;clear hG4 hF4 hR4
   go_wp2_with fail
   refine Nd H4.out.1 ?_;rintro r w5 ⟨rfl,V5,hP⟩;have H5:M6 _:=hP;clear hP;go_wp2
   go_end0
   rw[H2.out.2.1];exact rx H4.out.2 H2.out.1 ⟨rfl,V5,H5.out⟩
end
section
variable {base:Nat}{w:MO}{g:Nat}{V:Vs}{G:Gt}
theorem lh{g:Nat}{V V':Vs}(h:et w v l)(hF:am V V' g w w')(hn:∀b,v.ownBlock=MI b->¬V.own g b):et w' v l:=by
 obtain⟨a,cap,he,h1,h2,h3⟩:=h;refine⟨a,cap,he,h1,h2,?_⟩;rcases h3 with h3|⟨b,off,h4,h5,h6⟩
 ·exact Nt h3
 ·refine NF ⟨b,off,h4,M8 h5 hF.size,fun i hi=>?_⟩
  rw[<-h6 i hi];have:=hF.block b h5 (hn b (by rw[he,h4];rfl));simp only[Nl,this]
theorem EP(h:Im G)(hk:k<(bv G.liv).length):∃b:Nat,b<12/\(bv G.liv)[k]=(b:Int)/\¬0<(((bv G.liv).take k).foldl cV {G with liv:=G.liv.map (aY G.now)}).wts.getD b 0:=by
 have hm:=Nk hk;obtain⟨x,hx,h1,hb⟩:=kc.1 hm;have hlf:=(h.bs.lf hx).1.1;rw[<-hb];obtain⟨b,hbn⟩:=NL hlf.1;refine⟨b,by omega,hbn,?_⟩;have hall:∀c∈(bv G.liv).take k,0<=c/\c<12:=fun c hc=>by
  obtain⟨y,hy,_,e⟩:=kc.1 (List.mem_of_mem_take hc);have:=(h.bs.lf hy).1.1;omega
 have hnd:=wF (L:=G.liv) h.bs.Gv;rw[wu _ {G with liv:=G.liv.map (aY G.now)} h.bs.wts.1 hall (hnd.sublist (List.take_sublist _ _)) b (by omega)];have hnm:(b:Int)∉ (bv G.liv).take k:=by
  rw[<-hbn,hb];intro hc;obtain⟨j,hj,e⟩:=List.mem_iff_getElem.1 hc;rw[List.getElem_take]at e;rw[NH]at hj;exact List.pairwise_iff_getElem.1 hnd j k (by omega) hk (by omega) e
 rw[Nf hnm];show ¬0<G.wts.getD b 0;rw[h.ring b (by omega),<-hbn];have hst:aA G.liv x.1=1:=by show(aq G.liv x.1).2.1=1;rw[iZ h.bs.Gv hx];exact h1
 rw[Nf (by rw[hst];decide)]
 decide
theorem FC{vs:M7}(hb:MQ W.heap.size W w5)(hk:bT X.heap.size w5 va vb L R)(hs:W.heap.size<=X.heap.size)(hi:et w5 vs l)(hn:∀b,vs.ownBlock=MI b->X.heap.size<=b):
  ∃bx u3,bx=w5.heap.size/\u3=w5.alloc (jl va vb)/\M6 (MQ W.heap.size W u3/\u3.heap[bx]?=MI (jl va vb)/\W.heap.size<=bx/\bT W.heap.size u3 va vb L R/\et u3 vs l/\∀b,vs.ownBlock=MI b->W.heap.size<=b):=
 ⟨_,_,rfl,rfl,hb.trans ((ai w5).mono hb.size),M1 _ _,hb.size,mU (uu hk (ai w5)) hs,eD.below hi (ai w5),fun b e=>Nm hs (hn b e)⟩
theorem yI{vs:M7}(hT:X.heap[W.heap.size]?=MI (jl (MG MH 0 0) (MG MH 0 0)))(hX:MQ X.heap.size X w5)(hb:MQ W.heap.size W w5)(hk:bT X.heap.size w5 va vb L R)(hi:et w5 vs l)(hn:∀b,vs.ownBlock=MI b->X.heap.size<=b):
  ∃bx u3,bx=W.heap.size/\u3=(w5.setCell ⟨W.heap.size,0,MH⟩ va).setCell ⟨W.heap.size,1,MH⟩ vb/\M6 (MQ W.heap.size W u3/\u3.heap[bx]?=MI (jl va vb)/\W.heap.size<=bx/\bT W.heap.size u3 va vb L R/\et u3 vs l/\∀b,vs.ownBlock=MI b->W.heap.size<=b):=by
 have hlt:W.heap.size<X.heap.size:=(Array.getElem?_eq_some_iff.1 hT).1;refine⟨_,_,rfl,rfl,np hb (MV _) 0 1 _ _,iw (af hT hX),MV _,mU (uK hk hlt) (PJ hlt),eD.Gf hi (by simp) fun b e=>?_,fun b e=>Nm (PJ hlt) (hn b e)⟩;have hne:b≠W.heap.size:=by have:=hn b e;omega
 rw[MU _ _ _ _ hne,MU _ _ _ _ hne]
theorem xZ(b:Nat):cV G (b:Int)={G with hea:=G.hea.set b bm,wts:=G.wts.set b (aq G.liv (b:Int)).2.2.1}:=rfl
theorem CM(h:ab base w g V G)(him:Im G) :
  Ni MK 128 #[gP g] w (ew base w g V (eE G)):=by
 rw[nf him.bs];have hO2:gB G.liv G.req G.now=((G.liv.map (aY G.now),G.req),bv G.liv,0):=vk him.bs.book him.bs.GN;obtain⟨ws,hws⟩:∃ws,ws=bv G.liv:=⟨_,rfl⟩;obtain⟨L',hL'⟩:∃L',L'=G.liv.map (aY G.now):=⟨_,rfl⟩;have hoff:∀(k:Nat) (hk:k<ws.length),∃b:Nat,b<12/\ws[k]=(b:Int)/\¬0<((ws.take k).foldl cV {G with liv:=L'}).wts.getD b 0:=by rw[hws,hL'];exact fun k hk=>EP him hk
 have hst:∀b∈ws,aA L' b≠0:=by rw[hws,hL'];exact fun b hb=>by rw[sd him.bs hb];decide
 have hbs0:Bs {G with liv:=L'}:=by rw[hL'];exact him.bs.IP
 have hwl:ws.length<=900:=by
  rw[hws];unfold bv;rw[N0];exact Nm (O1 _ _) (by have:=him.bs.book.1.1;omega)
 rw[<-hws,<-hL']at hO2⊢;have c19:=h.Gn;have c20:=h.GD;have c16:=h.Gm;have hgl:=h.lt;have HK:M6 (∀X,MQ w.heap.size w X->Ni MK 183 #[Ny #[MG V.pl G.liv.length V.cl,MG V.pr G.req.length V.cr],MF ME G.now] X fun r w'=>∃p c q m s k,r=MN (Nv #[Ny #[MG p L'.length c,MG q G.req.length m],MG s ws.length k,MF ME 0]) /\
    M6 (MQ X.heap.size X w'/\MQ w.heap.size w w'/\bT X.heap.size w' (MG p L'.length c) (MG q G.req.length m) L' G.req/\w.heap.size<=X.heap.size/\et w' (MG s ws.length k) ws/\(∀b,(MG s ws.length k).ownBlock=MI b->X.heap.size<=b))/\(∀n,n<X.heap.size->n<w'.heap.size)/\(∀b o,b<X.heap.size->w'.cell? ⟨b,o,MH⟩=X.cell? ⟨b,o,MH⟩)/\(∀b o,b<X.heap.size->w'.frozen? ⟨b,o,MH⟩=X.frozen? ⟨b,o,MH⟩)):=fun X hX=>by
  refine(B6 _ _ G.liv G.req G.now X (h.below hX).rest.book.now).mono ?_;rw[hO2];rintro r w' ⟨p,c,q,m,s,k,rfl,hbk,hin,hb,hnew⟩;exact⟨p,c,q,m,s,k,rfl,⟨hb,hX.trans (hb.mono hX.size),hbk,hX.size,hin,hnew⟩,fun n hn=>M8 hn hb.size,fun b o hb'=>hb.cell (p:=⟨b,o,MH⟩) hb',fun b o hb'=>OM (a:=⟨b,o,MH⟩) (hb.block b hb')⟩
 have HS:M6 (∀X,MQ w.heap.size w X->X.cell? ⟨g,19,MH⟩=MI (MG V.pl G.liv.length V.cl)/\X.cell? ⟨g,20,MH⟩=MI (MG V.pr G.req.length V.cr)/\X.cell? ⟨g,16,MH⟩=MI (MF ME G.now)/\MQ w.heap.size w X):=fun X hX =>
  ⟨(hX.cell hgl).trans c19,(hX.cell hgl).trans c20,(hX.cell hgl).trans c16,hX⟩
 have H:M6 (_/\_/\_/\_):=⟨h,hoff,hst,hbs0⟩;clear hoff hst hbs0 h him hO2 hws hL';go_enter Tryz.func128,Tryz.ntmps128
 go_wp2_with fail
 apply ki
 ·intro KEY
  go_region_held3 (fun X=>X.cell? ⟨g,19,MH⟩=MI (MG V.pl G.liv.length V.cl)/\X.cell? ⟨g,20,MH⟩=MI (MG V.pr G.req.length V.cr)/\X.cell? ⟨g,16,MH⟩=MI (MF ME G.now)/\MQ w.heap.size w X) (first|exact HS.out _ ((MY _ _).drew)|exact HS.out _ (((MY _ _).drew).alloc (by simp) _)|exact HS.out _ hq5.out.2.1|exact HS.out _ (hq5.out.2.1.alloc hq5.out.2.1.size _)|exact HS.out _ (((MY _ _).alloc (MV _) _).drew)|exact HS.out _ (np hq5.out.2.1 (MV _) 0 1 _ _)) (first|(go_at_call 183;refine(HK.out _ ?hbW).mono ?_;(case hbW=>first|with_reducible assumption|exact(MY _ _).drew|exact((MY _ _).drew).alloc (by simp) _|exact((Below.refl _ _).alloc (Nat.le_refl _) _).drew);rintro r w5 ⟨p,c,q,m,s,k,rfl,hq5,hz5,hc5,hf5⟩))
  all_goals
   clear hz5 hc5 hf5;rename_i hHe;clear hHe
   first
   | (obtain⟨bx,u3,hbx,hu3,hQ⟩:=FC hq5.out.2.1 hq5.out.2.2.1 hq5.out.2.2.2.1 hq5.out.2.2.2.2.1 hq5.out.2.2.2.2.2
      rw[<-hu3]
      try rw[<-hbx]
      clear hu3 hbx hq5;revert p c q m s k bx u3;exact KEY.out)
   | (obtain⟨bx,u3,hbx,hu3,hQ⟩:=yI (W:=w) (by first|exact M1 _ _|(show(World.alloc _ _).heap[_]?=_;exact heap_alloc_new _ _)) hq5.out.1 hq5.out.2.1 hq5.out.2.2.1 hq5.out.2.2.2.2.1 hq5.out.2.2.2.2.2
      rw[<-hu3]
      try rw[<-hbx]
      clear hu3 hbx hq5;revert p c q m s k bx u3;exact KEY.out)
 intro p c q m s k bx u3 hQ;clear c19 c20 c16 HK HS;obtain⟨hb3,hRb,hbx,hbk,hin3,hnew3⟩:=hQ.out;clear hQ;have hG3:=H.out.1.below hb3;have k0:u3.cell? ⟨bx,0,MH⟩=MI (MG p L'.length c):=by rw[MW u3 _ 0 _ _ (0,0) hRb];rfl
 have k1:u3.cell? ⟨bx,1,MH⟩=MI (MG q G.req.length m):=by rw[MW u3 _ 1 _ _ (0,0) hRb];rfl
 have hbl:bx<u3.heap.size:=(Array.getElem?_eq_some_iff.1 hRb).1;have e19:=hG3.Gn;have e20:=hG3.GD;have f19:=hG3.fz 19;have f20:=hG3.fz 20;have hgl3:=hG3.lt;obtain⟨u4,hu4⟩:∃u4,u4=(u3.setCell ⟨g,19,MH⟩ (MG p L'.length c)).setCell ⟨g,20,MH⟩ (MG q G.req.length m):=⟨_,rfl⟩;have hG4:=H.out.1.Iq hb3 hbk;rw[<-hu4]at hG4;have hF4:am V {V with pl:=p,cl:=c,pr:=q,cr:=m} g w u4:=by
  rw[hu4];exact(((am.F5 hb3).F4 19 _).F4 20 _).Gp fun _ h=>h
 have hno:∀b,(MG s ws.length k).ownBlock=MI b->¬V.own g b:=fun b hb=>H.out.1.rest.new (hnew3 b hb)
 have hin4:et u4 (MG s ws.length k) ws:=by
  refine lh (V:=V) (V':=V) (g:=g) hin3 (w':=u4) ?_ hno;rw[hu4];exact((am.Gy V g u3).F4 19 _).F4 20 _
 obtain⟨V0,hV0⟩:∃V0:Vs,V0={V with pl:=p,cl:=c,pr:=q,cr:=m}:=⟨_,rfl⟩;rw[<-hV0]at hG4 hF4;have hVs:V0.pf=V.pf/\V0.cf=V.cf/\V0.bh=V.bh/\V0.po=V.po:=by rw[hV0];exact⟨rfl,rfl,rfl,rfl⟩
 have H4:M6 (_/\_/\_/\_/\_):=⟨hG4,hF4,hin4,hno,hVs⟩;clear hG3 hG4 hF4 hb3 hRb hbk hbx hin3 hin4 hnew3 hno hV0 hVs
 go_wp2_with fail
 rw[<-hu4];clear hu4 e19 e20 f19 f20 k0 k1 hbl hgl3
 go_loopw [29] (fun t wr=>∃(j:Nat) (V':Vs),t=MF ME (j:Int)/\j<=ws.length/\M6 (ab base wr g V' ((ws.take j).foldl cV {G with liv:=L'})/\(V'.pf=V.pf/\V'.cf=V.cf/\V'.bh=V.bh/\V'.po=V.po)/\am V V' g w wr/\et wr (MG s ws.length k) ws)) (fun t _=>ws.length-(intOf t).toNat)
 case atStart=>exact⟨0,V0,rfl,Nx _,H4.out.1,H4.out.2.2.2.2,H4.out.2.1,H4.out.2.2.1⟩
 case round =>
  obtain⟨j,V',rfl,hj,HI⟩:=hrel;obtain⟨W,hW⟩:∃W,W=wr:=⟨_,rfl⟩;subst hW
  by_cases hlt:j<ws.length
  ·have hjI:(j:Int)<(ws.length:Int):=by omega
   obtain⟨ai2,ci2,hei2,hci2,hmi2,pi2⟩:=et.F6 HI.out.2.2.2;injection hei2 with eg1 _ eg3;unfold NE at hmi2;rw[<-eg3]at hci2 hmi2;clear eg3;obtain⟨b1,o1,hpa,hb1,z0⟩:=pi2 j hlt;obtain⟨bn,hbn12,hbe,hoffk⟩:=H.out.2.1 j hlt;rw[hbe]at z0;obtain⟨Gk,hGk⟩:∃Gk,Gk=(ws.take j).foldl cV {G with liv:=L'}:=⟨_,rfl⟩;have hnext:(ws.take (j+1)).foldl cV {G with liv:=L'}=cV Gk (bn:Int):=by
    rw[M9 hlt,Pu,<-hGk,hbe];rfl
   have hsame:=qH (ws.take j) {G with liv:=L'};have hbsk:Bs Gk:=by rw[hGk];exact rq _ _ H.out.2.2.2 fun b hb=>H.out.2.2.1 b (List.mem_of_mem_take hb)
   have hliv:Gk.liv=L':=by rw[hGk];exact hsame.2.2.2.1
   obtain⟨x,hx⟩:∃x,x=aq Gk.liv (bn:Int):=⟨_,rfl⟩;have hxw:1<=x.2.2.1/\x.2.2.1<=8:=by
    have hs2:aA Gk.liv (bn:Int)≠0:=by rw[hliv,<-hbe];exact H.out.2.2.1 _ (Nk hlt)
    rw[hx];exact(hbsk.Iv hs2).2
   rw[xZ,<-hx]at hnext;have hGx:=HI.out.1;rw[<-hGk]at hGx hoffk;obtain⟨m0,x0,_,_,_,q0,q1,q2,q3,qf,hbl⟩:=hGx.G5 hbn12;have d22:=hGx.GI;have hch:=hGx.G8;have hglW:=hGx.lt;have hgb:¬g=V'.bh:=fun e=>hGx.rest.hg e.symm
   have hgb2:¬V'.bh=g:=hGx.rest.hg;have hbI:(bn:Int)<12:=by omega
   have hb0:(0:Int)<=(bn:Int):=by omega
   have v0:=qf (bn*4);have v1:=qf (bn*4+1);have v2:=qf (bn*4+2);have v3:=qf (bn*4+3);obtain⟨W1,hW1⟩:∃W1,W1=(((W.setCell ⟨V'.bh,bn*4,MH⟩ (MG MH 0 0)).setCell ⟨V'.bh,bn*4+1,MH⟩ (M3 Nb)).setCell ⟨V'.bh,bn*4+2,MH⟩ (MF ME 0)).setCell ⟨V'.bh,bn*4+3,MH⟩ (MF ME 0):=⟨_,rfl⟩;have hG1:=hGx.Ir (x:=bm) (p:=MH) (c:=0) hbn12 (fun X _ _=>pC X);have hF1:=HI.out.2.2.1.F0 (hGx.Hz (MY _ _) bn (MG MH 0 0) (M3 Nb) (MF ME 0) (MF ME 0) (V'.ms.set bn (MH,0)));have hin1:et W1 (MG s ws.length k) ws:=by
    refine lh (V:=V') (g:=g) HI.out.2.2.2 (V':={V' with ms:=V'.ms.set bn (MH,0)}) (w':=W1) (by rw[hW1];exact hGx.Hz (MY _ _) bn _ _ _ _ _) fun b hb ho=>H4.out.2.2.2.1 b hb ?_
    have hv:=HI.out.2.1;unfold Vs.own at ho⊢;rw[hv.1,hv.2.2.1,hv.2.2.2]at ho;exact ho
   have hG1:ab base W1 g {V' with ms:=V'.ms.set bn (MH,0)} {Gk with hea:=Gk.hea.set bn bm}:=by rw[hW1];exact hG1
   rw[<-hW1]at hF1;obtain⟨V1,hV1⟩:∃V1:Vs,V1={V' with ms:=V'.ms.set bn (MH,0)}:=⟨_,rfl⟩;rw[<-hV1]at hG1 hF1;have hv1:V1.pf=V.pf/\V1.cf=V.cf/\V1.bh=V.bh/\V1.po=V.po:=by rw[hV1];exact HI.out.2.1
   have d21:=hG1.GX;have hgl1:=hG1.lt;have hfd:∀X:MO,(Instr.field 91 (gu x) 2).run MK X=.ok (MF ME x.2.2.1) X:=fun X=>by kernel_rfl
   have HLf:M6 (∀X,MQ W1.heap.size W1 X->Ni MK 124 #[gP g,MF ME (bn:Int)] X fun r w'=>r=MN (gu x)/\w'.cell? ⟨g,21,MH⟩=MI (MG V1.ps (ao Gk.wts).length V1.cs)/\M6 (MQ W1.heap.size W1 w')):=fun X hX=>by
    refine(m6 (hG1.below hX) (bn:Int)).mono ?_;rintro r w' ⟨rfl,hb⟩;have hb2:=hX.trans (hb.mono hX.size);exact⟨by rw[hx],(hb2.cell hgl1).trans d21,hb2⟩
   have HAd:M6 (∀X,MQ W1.heap.size W1 X->Ni MK 184 #[Ny #[MG V1.ps (ao Gk.wts).length V1.cs],MF ME (bn:Int),MF ME x.2.2.1] X fun r w'=>∃p c n,r=MN (Nv #[Ny #[MG p n c],MF ME 0])/\w'.cell? ⟨g,21,MH⟩=MI (MG V1.ps (ao Gk.wts).length V1.cs)/\w'.frozen? ⟨g,21,MH⟩=Nb/\g<w'.heap.size /\
     ∃u3,u3=w'.setCell ⟨g,21,MH⟩ (MG p n c)/\M6 (ab base u3 g {V1 with ps:=p,cs:=c} {Gk with hea:=Gk.hea.set bn bm,wts:=Gk.wts.set bn x.2.2.1}/\am V {V1 with ps:=p,cs:=c} g w u3/\et u3 (MG s ws.length k) ws)):=fun X hX=>by
    refine(Ad _ Gk.wts bn x.2.2.1 X hbsk.wts (hG1.below hX).rest.ring.now hbn12 hxw (Int.not_lt.2 hoffk)).mono ?_;rintro r w' ⟨p,c,rfl,ho,hb'⟩;have hb3:=hX.trans (hb'.mono hX.size);have hG3:=hG1.below hb3;have hGr:=hG1.IJ (a:=Gk.wts.set bn x.2.2.1) hb3 (ho.mono hX.size);refine⟨p,c,_,rfl,hG3.GX,hG3.fz 21,hG3.lt,_,rfl,hGr,((hF1.below hb3).F4 21 _).Gp fun _ h=>h,?_⟩;refine lh (V:=V1) (g:=g) hin1 (V':=V1) (((am.Gy V1 g W1).below hb3).F4 21 _) fun b hb ho=>H4.out.2.2.2.1 b hb ?_
    unfold Vs.own at ho⊢;rw[hv1.1,hv1.2.2.1,hv1.2.2.2]at ho;exact ho
   have H5:M6 (_/\_):=⟨hnext,hv1⟩;clear hG1 hF1 hin1 hnext hv1 hV1 hGx hbsk hliv hxw hoffk hGk hx hbe hsame pi2 qf hbn12;subst hpa;subst eg1;have HIj:M6 _:=HI.out.2.2.2
   go_wp2_with fail
   rw[<-hW1];clear hW1 z0 q0 q1 q2 q3 v0 v1 v2 v3 d22 hch hgb hgb2 hbl hb1 hglW;apply ki
   ·intro KEY
    go_region_with (first|(go_at_call 124;refine(HLf.out _ (by first|exact(MY _ _).drew|exact Below.refl _ _)).mono ?_;rintro r w4 ⟨rfl,t21,hQ1⟩)|(go_at_call 184;refine(HAd.out _ hQ1.out).mono ?_;rintro r w3 ⟨p,c,n,rfl,s21,f21,hgl3,u3,hu3,hQ⟩))
    all_goals
     rw[<-hu3];clear hu3 s21 f21 hgl3;revert p c n u3;exact KEY.out
   intro p c n u3 hQ;have HQ:M6 _:=hQ.out;clear hQ HLf HAd;go_wp2
   go_roundw
   case rel=>exact⟨j+1,{V1 with ps:=p,cs:=c},by go_num,hlt,by rw[H5.out.1];exact HQ.out.1,H5.out.2,HQ.out.2.1,HQ.out.2.2⟩
   case measure=>simp[intOf];omega
  ·obtain rfl:j=ws.length:=by omega
   have hjI:¬(ws.length:Int)<(ws.length:Int):=by omega
   go_wp2
   go_end0
   have hG5:=HI.out.1;rw[NT]at hG5;exact⟨rfl,V',hG5,⟨HI.out.2.1.1,HI.out.2.1.2.1,HI.out.2.1.2.2.1⟩,HI.out.2.2.1⟩
end
section
variable {base:Nat}{w:MO}{g:Nat}{V:Vs}{G:Gt}
def fq(G:Gt)(k:Nat):List He:=(G.hea.take k).map (gK G)++G.hea.drop k
theorem Fo:fq G 0=G.hea:=by simp[fq]
theorem Bb:fq G G.hea.length=G.hea.map (gK G):=by simp[fq]
theorem CH(hk:k<G.hea.length):(fq G k)[k]?=MI G.hea[k]:=by
 unfold fq;rw[Tw (by simp;omega)];simp[hk,P1 (PJ hk)]
theorem Ay(hk:k<G.hea.length):fq G (k+1)=(fq G k).set k (gK G G.hea[k]):=by
 unfold fq;have hd:=OK hk;have h0:k-((G.hea.take k).map (gK G)).length=0:=by simp;omega
 rw[M9 hk,OI,Pw _ _ (by simp;omega),h0,hd,ML];simp
theorem yU(h:ab base w g V G)(hbs:Bs G) :
  Ni MK 129 #[gP g] w (ew base w g V (lU G)):=by
 have hhl:=hbs.hel;have c22:=h.GI;have hgl:=h.lt;have hch:=h.G8;have hap:∀x∈G.hea,x.marks.length<=16:=fun x hx=>by have:=(hbs.hea x hx).1;have:=hbs.Gx.1.2;omega
 have H:M6 (_/\_/\_/\_):=⟨h,hbs,hhl,hap⟩;clear h hbs hhl hap;go_enter Tryz.func129,Tryz.ntmps129;go_wp2
 go_loopw [10] (fun t wr=>∃(j:Nat) (V':Vs),t=MF ME (j:Int)/\j<=12/\M6 (ab base wr g V' {G with hea:=fq G j}/\(V'.pf=V.pf/\V'.cf=V.cf/\V'.bh=V.bh/\V'.ch=V.ch)/\am V V' g w wr)) (fun t _=>12-(intOf t).toNat)
 case atStart=>exact⟨0,V,rfl,by omega,by rw[Fo];exact H.out.1,⟨rfl,rfl,rfl,rfl⟩,am.Gy _ _ _⟩
 case round =>
  obtain⟨j,V',rfl,hj,HI⟩:=hrel;obtain⟨W,hW⟩:∃W,W=wr:=⟨_,rfl⟩;subst hW
  by_cases hlt:j<12
  ·have hjI:(j:Int)<12:=by omega
   have hj0:(0:Int)<=(j:Int):=by omega
   have hGx:=HI.out.1;obtain⟨m,x,em,ex,_,q0,q1,q2,q3,qf,hbl⟩:=hGx.G5 hlt;have hxe:x=G.hea[j]'(by rw[H.out.2.2.1];exact hlt):=by
    have:=CH (G:=G) (k:=j) (by rw[H.out.2.2.1];exact hlt);exact NC (ex.symm.trans this)
   have hnx:fq G (j+1)=(fq G j).set j (gK G x):=by rw[hxe];exact Ay _
   have hml:x.marks.length<=16:=H.out.2.2.2 x (by rw[hxe];exact Nk _);have hvv:=HI.out.2.1;have hmk:=hGx.rest.marks j m x em ex;obtain⟨y,hy⟩:∃y,y=gK G x:=⟨_,rfl⟩;have hyO:y=mv (da G.cfg.wn G.cfg.wf G.cfg.wh x.marks x.out x.till x.times G.now).1:=hy;rw[<-hy]at hnx;obtain⟨W1,hW1⟩:∃W1,W1=W.alloc (MP #[MG m.1 x.marks.length m.2,M3 x.out,MF ME x.till,MF ME x.times] 94):=⟨_,rfl⟩;have hB1:MQ W.heap.size W W1:=by rw[hW1];exact ai W
   have hR1:W1.heap[W.heap.size]?=MI (MP #[MG m.1 x.marks.length m.2,M3 x.out,MF ME x.till,MF ME x.times] 94):=by rw[hW1];exact M1 _ _
   have hG1:=hGx.below hB1;have hF1:=HI.out.2.2.below hB1;have hgb:¬g=V'.bh:=fun e=>hGx.rest.hg e.symm
   have hgb2:¬V'.bh=g:=hGx.rest.hg;rw[hvv.2.2.1]at q0 q1 q2 q3 hbl hgb hgb2;have hglW:=hGx.lt;have y0:W1.cell? ⟨W.heap.size,0,MH⟩=MI (MG m.1 x.marks.length m.2):=by rw[MW W1 _ 0 _ _ (0,0) hR1];rfl
   have y1:W1.cell? ⟨W.heap.size,1,MH⟩=MI (M3 x.out):=by rw[MW W1 _ 1 _ _ (0,0) hR1];rfl
   have y2:W1.cell? ⟨W.heap.size,2,MH⟩=MI (MF ME x.till):=by rw[MW W1 _ 2 _ _ (0,0) hR1];rfl
   have y3:W1.cell? ⟨W.heap.size,3,MH⟩=MI (MF ME x.times):=by rw[MW W1 _ 3 _ _ (0,0) hR1];rfl
   have hl1:W.heap.size<W1.heap.size:=(Array.getElem?_eq_some_iff.1 hR1).1;have e13:=hG1.GS;have e14:=hG1.GU;have e15:=hG1.GO;have e16:=hG1.Gm;have e22:=hG1.GI;rw[hvv.2.2.1,hvv.2.2.2]at e22;have hgl1:=hG1.lt;have HB:M6 (∀X,MQ W1.heap.size W1 X->Ni MK 146 #[Ny #[MF ME G.cfg.wn,MF ME G.cfg.wf,MF ME G.cfg.wh],gF m.1 m.2 x,MF ME G.now] X fun r w'=>∃p c e1 e2,r=MN (Nv #[gF p c y,M3 e1,MF ME e2]) /\
     (w'.cell? ⟨V.bh,j*4,MH⟩=MI (MG m.1 x.marks.length m.2)/\w'.cell? ⟨V.bh,j*4+1,MH⟩=MI (M3 x.out)/\w'.cell? ⟨V.bh,j*4+2,MH⟩=MI (MF ME x.till)/\w'.cell? ⟨V.bh,j*4+3,MH⟩=MI (MF ME x.times)/\w'.frozen? ⟨V.bh,j*4,MH⟩=Nb/\w'.frozen? ⟨V.bh,j*4+1,MH⟩=Nb/\w'.frozen? ⟨V.bh,j*4+2,MH⟩=Nb/\w'.frozen? ⟨V.bh,j*4+3,MH⟩=Nb/\V.bh<w'.heap.size)/\(w'.cell? ⟨g,22,MH⟩=MI (MG (MI ⟨V.bh,0,MH⟩) 12 V.ch)/\w'.cell? ⟨g,13,MH⟩=MI (MF ME G.cfg.wn)/\w'.cell? ⟨g,14,MH⟩=MI (MF ME G.cfg.wf)/\w'.cell? ⟨g,15,MH⟩=MI (MF ME G.cfg.wh)/\w'.cell? ⟨g,16,MH⟩=MI (MF ME G.now)/\w'.cell? ⟨W.heap.size,0,MH⟩=MI (MG m.1 x.marks.length m.2)/\w'.cell? ⟨W.heap.size,1,MH⟩=MI (M3 x.out)/\w'.cell? ⟨W.heap.size,2,MH⟩=MI (MF ME x.till)/\w'.cell? ⟨W.heap.size,3,MH⟩=MI (MF ME x.times))/\(((((w'.setCell ⟨V.bh,j*4,MH⟩ (MG p y.marks.length c)).setCell ⟨V.bh,j*4+1,MH⟩ (M3 y.out)).setCell ⟨V.bh,j*4+2,MH⟩ (MF ME y.till)).setCell ⟨V.bh,j*4+3,MH⟩ (MF ME y.times)).cell? ⟨g,22,MH⟩=MI (MG (MI ⟨V.bh,0,MH⟩) 12 V.ch)/\((((w'.setCell ⟨V.bh,j*4,MH⟩ (MG p y.marks.length c)).setCell ⟨V.bh,j*4+1,MH⟩ (M3 y.out)).setCell ⟨V.bh,j*4+2,MH⟩ (MF ME y.till)).setCell ⟨V.bh,j*4+3,MH⟩ (MF ME y.times)).cell? ⟨g,13,MH⟩=MI (MF ME G.cfg.wn)/\((((w'.setCell ⟨V.bh,j*4,MH⟩ (MG p y.marks.length c)).setCell ⟨V.bh,j*4+1,MH⟩ (M3 y.out)).setCell ⟨V.bh,j*4+2,MH⟩ (MF ME y.till)).setCell ⟨V.bh,j*4+3,MH⟩ (MF ME y.times)).cell? ⟨g,14,MH⟩=MI (MF ME G.cfg.wf)/\((((w'.setCell ⟨V.bh,j*4,MH⟩ (MG p y.marks.length c)).setCell ⟨V.bh,j*4+1,MH⟩ (M3 y.out)).setCell ⟨V.bh,j*4+2,MH⟩ (MF ME y.till)).setCell ⟨V.bh,j*4+3,MH⟩ (MF ME y.times)).cell? ⟨g,15,MH⟩=MI (MF ME G.cfg.wh)/\((((w'.setCell ⟨V.bh,j*4,MH⟩ (MG p y.marks.length c)).setCell ⟨V.bh,j*4+1,MH⟩ (M3 y.out)).setCell ⟨V.bh,j*4+2,MH⟩ (MF ME y.till)).setCell ⟨V.bh,j*4+3,MH⟩ (MF ME y.times)).cell? ⟨g,16,MH⟩=MI (MF ME G.now)/\((((w'.setCell ⟨V.bh,j*4,MH⟩ (MG p y.marks.length c)).setCell ⟨V.bh,j*4+1,MH⟩ (M3 y.out)).setCell ⟨V.bh,j*4+2,MH⟩ (MF ME y.till)).setCell ⟨V.bh,j*4+3,MH⟩ (MF ME y.times)).cell? ⟨W.heap.size,0,MH⟩=MI (MG m.1 x.marks.length m.2)/\((((w'.setCell ⟨V.bh,j*4,MH⟩ (MG p y.marks.length c)).setCell ⟨V.bh,j*4+1,MH⟩ (M3 y.out)).setCell ⟨V.bh,j*4+2,MH⟩ (MF ME y.till)).setCell ⟨V.bh,j*4+3,MH⟩ (MF ME y.times)).cell? ⟨W.heap.size,1,MH⟩=MI (M3 x.out)/\((((w'.setCell ⟨V.bh,j*4,MH⟩ (MG p y.marks.length c)).setCell ⟨V.bh,j*4+1,MH⟩ (M3 y.out)).setCell ⟨V.bh,j*4+2,MH⟩ (MF ME y.till)).setCell ⟨V.bh,j*4+3,MH⟩ (MF ME y.times)).cell? ⟨W.heap.size,2,MH⟩=MI (MF ME x.till)/\((((w'.setCell ⟨V.bh,j*4,MH⟩ (MG p y.marks.length c)).setCell ⟨V.bh,j*4+1,MH⟩ (M3 y.out)).setCell ⟨V.bh,j*4+2,MH⟩ (MF ME y.till)).setCell ⟨V.bh,j*4+3,MH⟩ (MF ME y.times)).cell? ⟨W.heap.size,3,MH⟩=MI (MF ME x.times)) /\
     ∃u3,u3=((((w'.setCell ⟨V.bh,j*4,MH⟩ (MG p y.marks.length c)).setCell ⟨V.bh,j*4+1,MH⟩ (M3 y.out)).setCell ⟨V.bh,j*4+2,MH⟩ (MF ME y.till)).setCell ⟨V.bh,j*4+3,MH⟩ (MF ME y.times))/\M6 (ab base u3 g {V' with ms:=V'.ms.set j (p,c)} {G with hea:=(fq G j).set j y}/\am V {V' with ms:=V'.ms.set j (p,c)} g w u3)):=by
    intro X hX;refine(uE G.cfg.wn G.cfg.wf G.cfg.wh (MG m.1 x.marks.length m.2) x.marks x.out x.till x.times G.now X (hmk.below (hB1.trans (hX.mono hB1.size))).now).mono ?_;rintro r w' ⟨p,c,rfl,hbs',hnew,hb'⟩;have hb3:=hX.trans (hb'.mono hX.size);have hb4:=hB1.trans (hb3.mono hB1.size);have hG3:=hG1.below hb3;have hap:cX (V'.off base g) w' fun Z=>bK Z (MG p y.marks.length c) y.marks:=by
     rw[hyO];exact fU hbs' (fun z e=>hGx.rest.GF (Nm (Nm hB1.size hX.size) (hnew z (by rw[cS];exact e))))
    have hG4:=hG3.Ir hlt hap;have hF4:=HI.out.2.2.F0 (hGx.Hz hb4 j (MG p y.marks.length c) (M3 y.out) (MF ME y.till) (MF ME y.times) (V'.ms.set j (p,c)));have hfz:∀o,w'.frozen? ⟨V.bh,o,MH⟩=false:=fun o=>(OM (a:=⟨V.bh,o,MH⟩) (hb4.block V.bh hbl)).trans (by rw[<-hvv.2.2.1];exact qf o)
    have hS1:w'.cell? ⟨g,22,MH⟩=MI (MG (MI ⟨V.bh,0,MH⟩) 12 V.ch)/\w'.cell? ⟨g,13,MH⟩=MI (MF ME G.cfg.wn)/\w'.cell? ⟨g,14,MH⟩=MI (MF ME G.cfg.wf)/\w'.cell? ⟨g,15,MH⟩=MI (MF ME G.cfg.wh)/\w'.cell? ⟨g,16,MH⟩=MI (MF ME G.now)/\w'.cell? ⟨W.heap.size,0,MH⟩=MI (MG m.1 x.marks.length m.2)/\w'.cell? ⟨W.heap.size,1,MH⟩=MI (M3 x.out)/\w'.cell? ⟨W.heap.size,2,MH⟩=MI (MF ME x.till)/\w'.cell? ⟨W.heap.size,3,MH⟩=MI (MF ME x.times):=⟨(hb3.cell hgl1).trans e22,(hb3.cell hgl1).trans e13,(hb3.cell hgl1).trans e14,(hb3.cell hgl1).trans e15,(hb3.cell hgl1).trans e16,(hb3.cell hl1).trans y0,(hb3.cell hl1).trans y1,(hb3.cell hl1).trans y2,(hb3.cell hl1).trans y3⟩;have hne1:g≠V.bh:=hgb;have hne2:W.heap.size≠V.bh:=by omega
    have far:∀(b o:Nat),b≠V.bh->((((w'.setCell ⟨V.bh,j*4,MH⟩ (MG p y.marks.length c)).setCell ⟨V.bh,j*4+1,MH⟩ (M3 y.out)).setCell ⟨V.bh,j*4+2,MH⟩ (MF ME y.till)).setCell ⟨V.bh,j*4+3,MH⟩ (MF ME y.times)).cell? ⟨b,o,MH⟩=w'.cell? ⟨b,o,MH⟩:=fun b o hb=>NG (by rw[MU _ _ _ _ hb,MU _ _ _ _ hb,MU _ _ _ _ hb,MU _ _ _ _ hb])
    refine⟨p,c,(da G.cfg.wn G.cfg.wf G.cfg.wh x.marks x.out x.till x.times G.now).2.1,(da G.cfg.wn G.cfg.wf G.cfg.wh x.marks x.out x.till x.times G.now).2.2,by rw[hyO];rfl,⟨(hb4.cell hbl).trans q0,(hb4.cell hbl).trans q1,(hb4.cell hbl).trans q2,(hb4.cell hbl).trans q3,hfz _,hfz _,hfz _,hfz _,M8 hbl hb4.size⟩,hS1,⟨(far _ _ hne1).trans hS1.1,(far _ _ hne1).trans hS1.2.1,(far _ _ hne1).trans hS1.2.2.1,(far _ _ hne1).trans hS1.2.2.2.1,(far _ _ hne1).trans hS1.2.2.2.2.1,(far _ _ hne2).trans hS1.2.2.2.2.2.1,(far _ _ hne2).trans hS1.2.2.2.2.2.2.1,(far _ _ hne2).trans hS1.2.2.2.2.2.2.2.1,(far _ _ hne2).trans hS1.2.2.2.2.2.2.2.2⟩,_,rfl,?_,?_⟩
    ·rw[<-hvv.2.2.1];exact hG4
    ·rw[<-hvv.2.2.1];exact hF4
   have H5:M6 (_/\_):=⟨hnx,hvv⟩;clear hG1 hF1 hGx hR1 hB1 em ex hmk hnx hvv hy hyO hxe qf hml
   go_wp2_with fail
   rw[<-hW1];clear hW1 q0 q1 q2 q3 hbl hglW c22;apply gU
   ·intro KEY
    go_region_held3 (fun X=>X.cell? ⟨g,22,MH⟩=MI (MG (MI ⟨V.bh,0,MH⟩) 12 V.ch)/\X.cell? ⟨g,13,MH⟩=MI (MF ME G.cfg.wn)/\X.cell? ⟨g,14,MH⟩=MI (MF ME G.cfg.wf)/\X.cell? ⟨g,15,MH⟩=MI (MF ME G.cfg.wh)/\X.cell? ⟨g,16,MH⟩=MI (MF ME G.now)/\X.cell? ⟨W.heap.size,0,MH⟩=MI (MG m.1 x.marks.length m.2)/\X.cell? ⟨W.heap.size,1,MH⟩=MI (M3 x.out)/\X.cell? ⟨W.heap.size,2,MH⟩=MI (MF ME x.till)/\X.cell? ⟨W.heap.size,3,MH⟩=MI (MF ME x.times)) (first|exact⟨e22,e13,e14,e15,e16,y0,y1,y2,y3⟩|exact hS1|exact hS2) (first|(go_at_call 146;refine(HB.out _ (by first|exact(MY _ _).drew|exact Below.refl _ _)).mono ?_;rintro r w3 ⟨p,c,e1,e2,rfl,⟨u0,u1,u2,u3,v0,v1,v2,v3,vlt⟩,hS1,hS2,u4,hu4,hQ⟩))
    all_goals
     rename_i hHe;clear hHe;rw[<-hu4];clear hS2;clear hu4 u0 u1 u2 u3 v0 v1 v2 v3 vlt hS1;revert p c e1 e2 u4;exact KEY.out
   intro p c e1 e2 u4 hQ;have HQ:M6 _:=hQ.out;clear hQ HB;go_wp2
   go_roundw
   case rel=>exact⟨j+1,{V' with ms:=V'.ms.set j (p,c)},by go_num,hlt,by rw[H5.out.1];exact HQ.out.1,H5.out.2,HQ.out.2⟩
   case measure=>simp[intOf];omega
  ·obtain rfl:j=12:=by omega
   go_wp2
   go_end0
   have hG5:=HI.out.1;have e12:fq G 12=G.hea.map (gK G):=by rw[<-H.out.2.2.1];exact Bb
   rw[e12]at hG5;exact⟨rfl,V',hG5,⟨HI.out.2.1.1,HI.out.2.1.2.1,HI.out.2.1.2.2.1⟩,HI.out.2.2⟩
end
section
variable {base:Nat}{w:MO}{g:Nat}{V:Vs}{G:Gt}
abbrev CX(n:Int)(v:M7):Obj:=MP #[MF ME n,v] 52
theorem Fk{base:Nat}{L:List Tm}{n:Nat}(h:w.ownsRow base 3 1 v n (gm L))(hn:n=L.length):et w v (L.map (·.2)):=by
 have e:gm L=ak jJ (L.map (·.2)):=by
  clear h hn
  induction L with
  |nil=>rfl
  |cons t L ih=>simp only[gm,OA,ak]at ih⊢;rw[ih];rfl
 have hr:=bP h;rw[e]at hr;show aR w v (L.map (·.2)).length (ak jJ (L.map (·.2)));rw[N0,<-hn];exact hr
theorem Ae(h:ab base w g V G)(him:Im G)(hw:G.wnow+1=G.now)(hl:G.out.length<=700000) :
  Ni MK 130 #[gP g] w (eK base w g V (fk G)):=by
 obtain⟨ls,hm,ht,hA⟩:=h.rest.whl;have hbs:=him.bs;have c24:=h.GJ;have c25:=h.GH;have hgl:=h.lt;have hnw:G.wnow<1099511627776:=by have:=hbs.now;omega
 have HC:M6 _:=vZ (MG V.pw 25 V.cw) G.wnow ls w h.rest.blk hA.now hm hnw;obtain⟨ds,hds⟩:∃ds,ds=fK G.fls (G.wnow+1):=⟨_,rfl⟩;obtain⟨G0,hG0⟩:∃G0:Gt,G0={G with wnow:=G.wnow+1,tms:=fun t=>G.tms t/\t.1≠G.wnow+1}:=⟨_,rfl⟩;have hgo:fk G=ds.foldl bE G0:=by unfold fk;rw[<-hds,<-hG0]
 rw[hgo];have him0:Im G0:=by rw[hG0];exact him.IN (by omega)
 have hsl:=hbs.IF (G.wnow+1);rw[<-hds]at hsl;have hpre:∀k,k<=ds.length->Im ((ds.take k).foldl bE G0)/\aB G0 ((ds.take k).foldl bE G0)/\(∀s∈ds.drop k,∃f∈((ds.take k).foldl bE G0).fls,f.slot=s)/\((ds.take k).foldl bE G0).out.length<=G0.out.length+2*k:=fun k hk =>
  wA ds G0 k him0 hsl.1 (fun s hs=>by obtain⟨f,hf,e,_⟩:=hsl.2 s hs;exact⟨f,by rw[hG0];exact hf,e⟩) hk
 have hw0:G0.wnow=G0.now:=by rw[hG0];exact hw
 have ho0:G0.out.length<=700000:=by rw[hG0];exact hl
 have hdl:ds.length<=40:=by
  rw[hds];unfold fK;rw[N0];exact Nm (O1 _ _) hbs.Gb
 have H:M6 (_/\_/\_/\_/\_/\_/\_):=⟨h,hbs,ht,hpre,hw0,ho0,hds⟩;have HG0:M6 _:=hG0;clear h hbs him hm ht hA hpre hw hl hgo him0 hsl hw0 ho0 hds hnw hG0;go_enter Tryz.func130,Tryz.ntmps130
 go_wp2_with fail
 refine Nd HC.out ?_;rintro r w1 ⟨p,c,xp,xc,ms,L,rfl,hown,hlat,hids,hb1⟩;have hL:L.map (·.2)=ds:=by rw[H.out.2.2.2.2.2.2];exact y9 H.out.2.1 H.out.2.2.1 hlat
 have hin1:=Fk hids rfl;rw[hL]at hin1;have hLn:L.length=ds.length:=by rw[<-hL,N0]
 have hno1:∀b,(MG xp L.length xc).ownBlock=MI b->w.heap.size<=b:=fun b hb=>(hids.lt b hb).1
 rw[hLn]at hin1 hno1⊢;have hG1:=H.out.1.below hb1;have e24:=hG1.GJ;have e25:=hG1.GH;have f24:=hG1.fz 24;have f25:=hG1.fz 25;have hgl1:=hG1.lt;have hne:¬w1.heap.size=g:=fun e=>by omega
 have hne2:¬g=w1.heap.size:=fun e=>by omega
 have hG2:=H.out.1.Ih (T:=fun t=>G.tms t/\t.1≠G.wnow+1) hb1 hown hlat.may (Fe H.out.2.2.1 hlat);have hF2:am V {V with pw:=p,cw:=c} g w ((w1.setCell ⟨g,24,MH⟩ (MF ME (G.wnow+1))).setCell ⟨g,25,MH⟩ (MG p 25 c)):=(((am.F5 (V:=V) (g:=g) hb1).F4 24 _).F4 25 _).Gp fun _ h=>h
 have hin2:et ((w1.setCell ⟨g,24,MH⟩ (MF ME (G.wnow+1))).setCell ⟨g,25,MH⟩ (MG p 25 c)) (MG xp ds.length xc) ds :=
  lh (V:=V) (V':=V) (g:=g) hin1 (((am.Gy V g w1).F4 24 _).F4 25 _) fun b hb=>H.out.1.rest.new (hno1 b hb)
 obtain⟨V0,hV0⟩:∃V0:Vs,V0={V with pw:=p,cw:=c}:=⟨_,rfl⟩;obtain⟨W0,hW0⟩:∃W0,W0=((w1.setCell ⟨g,24,MH⟩ (MF ME (G.wnow+1))).setCell ⟨g,25,MH⟩ (MG p 25 c)).alloc (CX (G.wnow+1) (MG p 25 c)):=⟨_,rfl⟩;have hG3:ab base W0 g V0 G0:=by rw[hW0,hV0,HG0.out];exact hG2.GW _
 have hF3:am V V0 g w W0:=by rw[hW0,hV0];exact hF2.below (ai _)
 have hin3:et W0 (MG xp ds.length xc) ds:=by rw[hW0];exact eD.below hin2 (ai _)
 have hno3:∀b,(MG xp ds.length xc).ownBlock=MI b->¬V0.own g b:=fun b hb ho=>by
  rcases hF3.ext b ho with e|e
  ·exact H.out.1.rest.new (hno1 b hb) e
  ·rw[hV0]at ho
   exact H.out.1.rest.new e ho
 have H3:M6 (_/\_/\_/\_/\_):=⟨hG3,hF3,hin3,hno3,(by rw[hV0]:V0.bh=V.bh)⟩;clear hG1 hG2 hG3 hF2 hF3 hin1 hin2 hin3 hno1 hno3 hV0 hb1 hown hlat hids hL hLn
 go_wp2_with fail
 rw[<-hW0];clear hW0 e24 e25 f24 f25 hgl1 hne hne2 c24 c25 hgl
 go_loopw [25] (fun t wr=>∃(k:Nat) (V':Vs),t=MF ME (k:Int)/\k<=ds.length/\M6 (ab base wr g V' ((ds.take k).foldl bE G0)/\V'.bh=V.bh/\am V0 V' g W0 wr)) (fun t _=>ds.length-(intOf t).toNat)
 case atStart=>exact⟨0,V0,rfl,Nx _,H3.out.1,H3.out.2.2.2.2,am.Gy _ _ _⟩
 case round =>
  obtain⟨k,V',rfl,hk,HI⟩:=hrel;obtain⟨W,hW⟩:∃W,W=wr:=⟨_,rfl⟩;subst hW
  by_cases hlt:k<ds.length
  ·have hkI:(k:Int)<(ds.length:Int):=by omega
   obtain⟨ai2,ci2,hei2,hci2,hmi2,pi2⟩:=et.F6 (lh H3.out.2.2.1 HI.out.2.2 H3.out.2.2.2.1);injection hei2 with eg1 _ eg3;unfold NE at hmi2;rw[<-eg3]at hci2 hmi2;clear eg3;obtain⟨b1,o1,hpa,hb1,z0⟩:=pi2 k hlt;obtain⟨s,hs⟩:∃s,s=ds[k]:=⟨_,rfl⟩;rw[<-hs]at z0;obtain⟨Gk,hGk⟩:∃Gk,Gk=(ds.take k).foldl bE G0:=⟨_,rfl⟩;obtain⟨himk,hstk,hmem,hok⟩:=H.out.2.2.2.1 k hk;rw[<-hGk]at himk hstk hmem hok;have hGx:=HI.out.1;rw[<-hGk]at hGx;have hnext:(ds.take (k+1)).foldl bE G0=bE Gk s:=by
    rw[M9 hlt,Pu,<-hGk,<-hs];rfl
   obtain⟨f0,hf0,hfs⟩:=hmem s (by rw[hs,OK hlt];exact NM ..);obtain⟨i,hie⟩:∃i,i=fL Gk.fls s:=⟨_,rfl⟩;have hix:=himk.bs.GG hf0;rw[hfs,<-hie]at hix;obtain⟨hi,hfi⟩:=hix;obtain⟨f,hfe⟩:∃f,f=aQ Gk i:=⟨_,rfl⟩;have hfm:f∈Gk.fls:=by rw[hfe,bJ hi];exact Nk hi
   obtain⟨bf,hp,_,hbl⟩:=hGx.bf (Pb (Nx _) hi);have hone:bE Gk s=if f.srv then dn Gk f 6 1 else dP Gk i 5:=by
    unfold bE;simp only[];rw[<-hie,<-hfe]
   rw[hone]at hnext;have hwk:Gk.wnow=Gk.now:=by rw[hstk.wnow,hstk.now];exact H.out.2.2.2.2.1
   have hlk:Gk.out.length<=800000:=by have:=H.out.2.2.2.2.2.1;omega
   have HFl:M6 (_/\_/\_/\_/\_/\_/\_/\_):=⟨nN hGx hi hie.symm hp himk.bs.Gb,hGx,himk.bs,hwk,hlk,hi,hp,hfm⟩;have HN:M6 (_/\_):=⟨hnext,hfe⟩;clear hGx himk hstk hmem hok hwk hlk hi hp hfm hnext hfe hie hfi hone hfs hf0 hbl hGk hs pi2;subst hpa;subst eg1;have hglW:=HFl.out.2.1.lt
   go_wp2_with fail
   refine Nd HFl.out.1 ?_;rintro r w2 ⟨rfl,hb2⟩;have hG2:=HFl.out.2.1.below hb2;have hx:=hG2.Gw HFl.out.2.2.2.2.2.2.1 HFl.out.2.2.2.2.2.1;rw[<-HN.out.2]at hx;obtain⟨x0,x1,x2,x3,x4,x5,x6⟩:=hx;have hbl2:bf<w2.heap.size:=MX w2 ⟨bf,i*7,MH⟩ x0;have hF2:=HI.out.2.2.below hb2;cases hsv:f.srv
   ·rw[hsv]at x4
    have hnx:=HN.out.1;rw[hsv,Nf (by decide)]at hnx;have H5:M6 (_/\_/\_):=⟨vU hG2 HFl.out.2.2.1 HFl.out.2.2.2.1 HFl.out.2.2.2.2.1 HFl.out.2.2.2.2.2.1 HFl.out.2.2.2.2.2.2.1 5,hF2,hnx⟩;clear hG2 hF2 hb2 hnx hsv
    go_wp2_with fail
    refine Nd H5.out.1 ?_;rintro r w3 ⟨rfl,V3,hG3,hV3,hF3⟩;have H6:M6 (_/\_/\_):=⟨hG3,hV3.trans HI.out.2.1,H5.out.2.1.F0 hF3⟩;clear hG3 hV3 hF3 x0 x1 x2 x3 x4 x5 x6 hbl2;go_wp2
    go_roundw
    case rel=>exact⟨k+1,V3,by go_num,hlt,by rw[H5.out.2.2];exact H6.out.1,H6.out.2.1,H6.out.2.2⟩
    case measure=>simp[intOf];omega
   ·rw[hsv]at x4
    have hnx:=HN.out.1;rw[hsv,Nh rfl]at hnx;have HE:=kz hG2 HFl.out.2.2.1 HFl.out.2.2.2.2.2.2.2 (by have:=HFl.out.2.2.2.2.1;omega) 6 1;rw[show dM f=Ny #[MF ME f.slot,MF ME f.gen,MF ME f.key,MF ME f.be,M3 Nw,MF ME f.ret,MF ME f.due]by unfold dM;rw[hsv]]at HE;have H5:M6 (_/\_/\_):=⟨HE,hF2,hnx⟩;clear hG2 hF2 hb2 hnx hsv HE
    go_wp2_with fail
    refine Nd H5.out.1 ?_;rintro r w3 ⟨rfl,V3,hG3,hV3,hF3⟩;have H6:M6 (_/\_/\_):=⟨hG3,hV3.trans HI.out.2.1,H5.out.2.1.F0 hF3⟩;clear hG3 hV3 hF3 x0 x1 x2 x3 x4 x5 x6 hbl2;go_wp2
    go_roundw
    case rel=>exact⟨k+1,V3,by go_num,hlt,by rw[H5.out.2.2];exact H6.out.1,H6.out.2.1,H6.out.2.2⟩
    case measure=>simp[intOf];omega
  ·obtain rfl:k=ds.length:=by omega
   have hkI:¬(ds.length:Int)<(ds.length:Int):=by omega
   go_wp2
   go_end0
   have hG5:=HI.out.1;rw[NT]at hG5;exact⟨rfl,V',hG5,HI.out.2.1,H3.out.2.1.F0 HI.out.2.2⟩
end
section
variable {base:Nat}{w:MO}{g:Nat}{V:Vs}{G:Gt}
theorem vV:∀(l:List Tm) (G:Gt),(l.foldl bM G).out.length<=G.out.length+2*l.length
 | [],_=>MV _
 |t::l,G=>by
  have h1:=vV l (bM G t);have h2:=un (G:=G) t;rw[O4,Ox];omega
theorem tV(b:Int)(t:List FX):(cz b t).length<=t.length:=by
 unfold cz cB;rw[N0];exact Nm (O1 _ _) (by simp)
theorem Bs.IK(h:Bs G):G.tab.length<=40:=by have:=h.tabLen;have:=h.cfg.1.2;omega
theorem Ea(h:Bs G)(l:FV):(dV G l).out.length<=G.out.length+80:=by
 unfold dV
 split
 ·omega
 ·have h1:=vV (cz l.1 G.tab) G
  have h2:=tV l.1 G.tab;have h3:=h.IK;omega
theorem rm:∀(L:List FV) (G:Gt) (k:Nat),Im G->k<=L.length->Im ((L.take k).foldl dV G)/\aB G ((L.take k).foldl dV G)/\((L.take k).foldl dV G).out.length<=G.out.length+80*k
 |L,G,0,h,_=>⟨h,aB.Gy G,MV _⟩
 | [],G,k+1,_,hk=>by simp at hk
 |l::L,G,k+1,h,hk=>by
  obtain⟨h1,h2,_⟩:=yv h l;obtain⟨r1,r2,r3⟩:=rm L (dV G l) k h1 (by simpa using hk);have ho:=Ea h.bs l;rw[PT,O4];exact⟨r1,h2.step.F0 r2,by omega⟩
theorem wl:∀l:List Tm,ag l=ag l
 | []=>rfl
 |t::l=>by first|rfl|rw[ag,ag,wl l]
theorem Fb{l:List Tm}{g:Nat}{V V':Vs}(h:aO w v l)(hF:am V V' g w w')(hn:∀b,v.ownBlock=MI b->¬V.own g b):aO w' v l:=by
 obtain⟨a,cap,he,h1,h2,h3⟩:=h;refine⟨a,cap,he,h1,h2,?_⟩;rcases h3 with h3|⟨b,off,h4,h5,h6⟩
 ·exact Nt h3
 ·refine NF ⟨b,off,h4,M8 h5 hF.size,fun i hi=>?_⟩
  rw[<-h6 i hi];have:=hF.block b h5 (hn b (by rw[he,h4];rfl));simp only[Nl,this]
theorem wM(h:ab base w g V G)(him:Im G)(hw:G.wnow=G.now)(hl:G.out.length<=700000) :
  Ni MK 131 #[gP g] w (eK base w g V (qU G)):=by
 have hpre:=fun k hk=>rm G.liv G k him hk
 have hliv:=him.bs.book.1.1;have c19:=h.Gn;have hgl:=h.lt;have H:M6 (_/\_/\_/\_):=⟨h,hpre,hw,hl⟩;obtain⟨al,cal,hel,hcal,hmal,_⟩:=jH.F6 h.rest.book.now.1;injection hel with el1 _ el3;unfold NE at hmal;rw[el1,el3]at c19;have HE:M6 _:=el1;clear el1 el3;have HA:M6 (∀X V',am V V' g w X->jH X (MG V.pl G.liv.length V.cl) G.liv):=fun X V' hF=>(h.rest.book X hF.size fun b hlt hn=>hF.block b hlt fun e=>hn (Nt e)).1
 clear h hpre hw hl him;go_enter Tryz.func131,Tryz.ntmps131;go_wp2
 go_loopw [15] (fun t wr=>∃(k:Nat) (V':Vs),t=MF ME (k:Int)/\k<=G.liv.length/\M6 (ab base wr g V' ((G.liv.take k).foldl dV G)/\V'.bh=V.bh/\am V V' g w wr)) (fun t _=>G.liv.length-(intOf t).toNat)
 case atStart=>exact⟨0,V,rfl,Nx _,H.out.1,rfl,am.Gy _ _ _⟩
 case round =>
  obtain⟨k,V',rfl,hk,HI⟩:=hrel;obtain⟨W,hW⟩:∃W,W=wr:=⟨_,rfl⟩;subst hW
  by_cases hlt:k<G.liv.length
  ·have hkI:(k:Int)<(G.liv.length:Int):=by omega
   obtain⟨al2,cal2,hel2,_,_,pal⟩:=jH.F6 (HA.out W V' HI.out.2.2);injection hel2 with el1 _ _;obtain⟨b1,o1,hpa,hb1,z0,z1,z2,z3,z4,z5⟩:=pal k hlt;obtain⟨⟨x1,x2,x3,x4,x5,x6⟩,hxe⟩:∃x,x=G.liv[k]:=⟨_,rfl⟩;rw[<-hxe]at z0 z1 z2 z3 z4 z5;obtain⟨Gk,hGk⟩:∃Gk,Gk=(G.liv.take k).foldl dV G:=⟨_,rfl⟩;obtain⟨himk,hstk,hok⟩:=H.out.2.1 k hk;rw[<-hGk]at himk hstk hok;have hGx:=HI.out.1;rw[<-hGk]at hGx;have hnext:(G.liv.take (k+1)).foldl dV G=dV Gk (x1,x2,x3,x4,x5,x6):=by
    rw[M9 hlt,Pu,<-hGk,<-hxe];rfl
   obtain⟨W1,hW1⟩:∃W1,W1=W.alloc (cE (x1,x2,x3,x4,x5,x6)):=⟨_,rfl⟩;have hB1:MQ W.heap.size W W1:=by rw[hW1];exact ai W
   have hR1:W1.heap[W.heap.size]?=MI (cE (x1,x2,x3,x4,x5,x6)):=by rw[hW1];exact M1 _ _
   have hG1:=hGx.below hB1;have hF1:=HI.out.2.2.below hB1;have y0:W1.cell? ⟨W.heap.size,0,MH⟩=MI (MF ME x1):=by rw[MW W1 _ 0 _ _ (0,0) hR1];rfl
   have y1:W1.cell? ⟨W.heap.size,1,MH⟩=MI (MF ME x2):=by rw[MW W1 _ 1 _ _ (0,0) hR1];rfl
   have y4:W1.cell? ⟨W.heap.size,4,MH⟩=MI (MF ME x5):=by rw[MW W1 _ 4 _ _ (0,0) hR1];rfl
   have hl1:W.heap.size<W1.heap.size:=(Array.getElem?_eq_some_iff.1 hR1).1;have e16:=hG1.Gm;have e17:=hG1.Gs;have hgl1:=hG1.lt;have HX:M6 (_/\_/\_/\_/\_/\_):=⟨hG1,hF1,hnext,himk,hstk,hok⟩;clear hG1 hF1 hnext himk hstk hok hGx hGk hxe hR1 hB1 pal;have hal:al=MI ⟨b1,o1,MH⟩:=HE.out.symm.trans (el1.trans hpa);clear hpa el1;subst hal
   by_cases hc:x2≠3\/Gk.now<x5
   ·have hnx:=HX.out.2.2.1.trans (show dV Gk (x1,x2,x3,x4,x5,x6)=Gk from Nh hc)
    have HN:M6 _:=hnx;clear hnx
    by_cases h3:x2=3
    ·subst h3
     have hgt:Gk.now<x5:=by
      rcases hc with e|e
      ·exact absurd rfl e
      ·exact e
     clear hc
     go_wp2_with fail
     rw[<-hW1];clear hW1 z0 z1 z2 z3 z4 z5
     go_quiet (fail)
     go_wp2
     go_roundw
     case rel=>exact⟨k+1,V',by go_num,hlt,by rw[HN.out];exact HX.out.1.below (dz (MY _ _) _),HI.out.2.1,HX.out.2.1.below (dz (MY _ _) _)⟩
     case measure=>simp[intOf];omega
    ·have hne:(x2 != 3)=true:=by simpa using h3
     clear hc h3
     go_wp2_with fail
     rw[<-hW1];clear hW1 z0 z1 z2 z3 z4 z5
     go_quiet (fail)
     go_wp2
     go_roundw
     case rel=>exact⟨k+1,V',by go_num,hlt,by rw[HN.out];exact HX.out.1.below (dz (MY _ _) _),HI.out.2.1,HX.out.2.1.below (dz (MY _ _) _)⟩
     case measure=>simp[intOf];omega
   ·obtain rfl:x2=3:=by
     by_cases e:x2=3
     ·exact e
     ·exact absurd (Nt e) hc
    have hgt:¬Gk.now<x5:=fun e=>hc (NF e)
    have hnx:=HX.out.2.2.1.trans (show dV Gk (x1,3,x3,x4,x5,x6)=(cz x1 Gk.tab).foldl bM Gk from Nf hc);have HN:M6 _:=hnx;clear hnx hc
    go_wp2_with fail
    rw[<-hW1];clear hW1 z0 z1 z2 z3 z4 z5
    go_quiet (fail)
    have z0:(W1.drewN nq).cell? ⟨W.heap.size,0,MH⟩=MI (MF ME x1):=y0;have z17:(W1.drewN nq).cell? ⟨g,17,MH⟩=MI (MG V'.pt Gk.tab.length V'.ct):=e17;have hG2:=HX.out.1.below (dz (MY _ _) nq);have hF2:=HX.out.2.1.below (dz (MY _ _) nq);have hgl2:=hG2.lt;have hl2:W.heap.size<(W1.drewN nq).heap.size:=hl1;obtain⟨W2,hW2⟩:∃W2,W2=W1.drewN nq:=⟨_,rfl⟩;rw[<-hW2]at z0 z17 hG2 hF2 hgl2 hl2⊢;clear hW2 y0 y1 y4 e16 e17 hl1 hgl1;obtain⟨hs,hhs⟩:∃hs,hs=cz x1 Gk.tab:=⟨_,rfl⟩;rw[<-hhs]at HN;have hof:kh Gk.tab x1=(hs,0):=by rw[hhs];exact Nh HX.out.2.2.2.1.bs.tab
    have HOf:M6 (∀X,MQ W2.heap.size W2 X->Ni MK 185 #[Ny #[MG V'.pt Gk.tab.length V'.ct],MF ME x1] X fun r w'=>∃p c,r=MN (Nv #[MG p hs.length c,MF ME 0])/\M6 (ab base w' g V' Gk/\am V V' g w w'/\aO w' (MG p hs.length c) hs/\∀b,(MG p hs.length c).ownBlock=MI b->¬V'.own g b)):=fun X hX=>by
     refine(zQ _ Gk.tab x1 X (hG2.below hX).rest.tab.now).mono ?_;rw[hof];rintro r w' ⟨p,c,rfl,ho,hb⟩;have hb2:=hX.trans (hb.mono hX.size);rw[wl]at ho;exact⟨p,c,rfl,hG2.below hb2,hF2.below hb2,bP ho,fun b hb'=>hG2.rest.new (Nm hX.size (ho.lt b hb').1)⟩
    have hhl:=HX.out.2.2.2.1.bs.IW x1;rw[<-hhs]at hhl;have hpre2:=fun j hj=>sK hs Gk j HX.out.2.2.2.1 hhl.1 (fun t ht=>by obtain⟨f,hf,e,_⟩:=hhl.2 t ht;exact⟨f,hf,e⟩) hj
    have hhn:hs.length<=40:=by rw[hhs];exact Nm (tV _ _) HX.out.2.2.2.1.bs.IK
    have hlk:Gk.out.length<=800000:=by have:=HX.out.2.2.2.2.2;have:=H.out.2.2.2;omega
    have HP:M6 (_/\_):=⟨hpre2,hlk⟩;clear hG2 hF2 hof hhl hpre2 hlk hhs
    go_wp2_with fail
    apply gU
    ·intro KEY
     go_region_with (first|(go_at_call 185;refine(HOf.out _ (by first|exact(MY _ _).drew|exact Below.refl _ _)).mono ?_;rintro r W3 ⟨p,c,rfl,hQ⟩))
     all_goals
      revert p c W3;exact KEY.out
    intro W3 p c hQ;have HQ:M6 _:=hQ.out;clear hQ HOf z0 z17 hgl2 hl2;go_wp2
    go_loopw [45] (fun t wx=>∃(j:Nat) (V2:Vs),t=MF ME (j:Int)/\j<=hs.length/\M6 (ab base wx g V2 ((hs.take j).foldl bM Gk)/\V2.bh=V.bh/\am V' V2 g W3 wx)) (fun t _=>hs.length-(intOf t).toNat)
    case atStart=>exact⟨0,V',rfl,Nx _,HQ.out.1,HI.out.2.1,am.Gy _ _ _⟩
    case round =>
     obtain⟨j,V2,rfl,hj,HJ⟩:=hrel;obtain⟨W4,hW4⟩:∃W4,W4=wr:=⟨_,rfl⟩;subst hW4
     by_cases hjl:j<hs.length
     ·have hjI:(j:Int)<(hs.length:Int):=by omega
      obtain⟨ah,ch,heh,hch,hmh,ph⟩:=aO.F6 (Fb HQ.out.2.2.1 HJ.out.2.2 HQ.out.2.2.2);injection heh with eh1 _ eh3;unfold NE at hmh;rw[<-eh3]at hch hmh;clear eh3;obtain⟨b2,o2,hpb,hb2,v0,v1⟩:=ph j hjl;obtain⟨t,ht⟩:∃t,t=hs[j]:=⟨_,rfl⟩;rw[<-ht]at v0 v1;obtain⟨Gj,hGj⟩:∃Gj,Gj=(hs.take j).foldl bM Gk:=⟨_,rfl⟩;obtain⟨himj,hstj,hmem,hoj⟩:=HP.out.1 j hj;rw[<-hGj]at himj hstj hmem hoj;have hGy:=HJ.out.1;rw[<-hGj]at hGy;have hnx2:(hs.take (j+1)).foldl bM Gk=bM Gj t:=by
       rw[M9 hjl,Pu,<-hGj,<-ht];rfl
      obtain⟨f0,hf0,hfs⟩:=hmem t (by rw[ht,OK hjl];exact NM ..);obtain⟨i,hie⟩:∃i,i=fL Gj.fls t.1:=⟨_,rfl⟩;have hix:=himj.bs.GG hf0;rw[hfs,<-hie]at hix;obtain⟨hi,hfi⟩:=hix;obtain⟨f,hfe⟩:∃f,f=aQ Gj i:=⟨_,rfl⟩;have hfm:f∈Gj.fls:=by rw[hfe,bJ hi];exact Nk hi
      have hone:bM Gj t=dn Gj f 6 2:=by unfold bM;rw[<-hie,<-hfe]
      rw[hone]at hnx2;obtain⟨W5,hW5⟩:∃W5,W5=W4.alloc (me t.1 t.2):=⟨_,rfl⟩;have hB5:MQ W4.heap.size W4 W5:=by rw[hW5];exact ai W4
      have hR5:W5.heap[W4.heap.size]?=MI (me t.1 t.2):=by rw[hW5];exact M1 _ _
      have hG5:=hGy.below hB5;have hF5:=HJ.out.2.2.below hB5;obtain⟨bf,hp,_,hbl⟩:=hG5.bf (Pb (Nx _) hi);have r0:W5.cell? ⟨W4.heap.size,0,MH⟩=MI (MF ME t.1):=by rw[MW W5 _ 0 _ _ (0,0) hR5];rfl
      have hl5:W4.heap.size<W5.heap.size:=(Array.getElem?_eq_some_iff.1 hR5).1;have hlj:Gj.out.length<=900000:=by have:=HP.out.2;omega
      have HFl:M6 (_/\_/\_/\_/\_/\_/\_/\_):=⟨nN hG5 hi hie.symm hp himj.bs.Gb,hG5,himj.bs,hF5,hlj,hi,hp,hfm⟩;have HN2:M6 (_/\_):=⟨hnx2,hfe⟩;have hgl5:=hG5.lt;have hal:p=MI ⟨b2,o2,MH⟩:=eh1.trans hpb;clear hGy hG5 hF5 himj hstj hmem hoj hi hp hfm hnx2 hfe hie hfi hone hfs hf0 hbl hGj ht ph hR5 hB5 hlj eh1 hpb;subst hal
      go_wp2_with fail
      rw[<-hW5];clear hW5 v0 v1;refine Nd HFl.out.1 ?_;rintro r W6 ⟨rfl,hb6⟩;have hG6:=HFl.out.2.1.below hb6;have hx:=hG6.Gw HFl.out.2.2.2.2.2.2.1 HFl.out.2.2.2.2.2.1;rw[<-HN2.out.2]at hx;obtain⟨q0,q1,q2,q3,q4,q5,q6⟩:=hx;have hbl6:bf<W6.heap.size:=MX W6 ⟨bf,i*7,MH⟩ q0;have H6:M6 (_/\_):=⟨kz hG6 HFl.out.2.2.1 HFl.out.2.2.2.2.2.2.2 HFl.out.2.2.2.2.1 6 2,HFl.out.2.2.2.1.below hb6⟩;clear hG6 hb6
      go_wp2_with fail
      refine Nd H6.out.1 ?_;rintro r W7 ⟨rfl,V3,hG3,hV3,hF3⟩;have H7:M6 (_/\_/\_):=⟨hG3,hV3.trans HJ.out.2.1,H6.out.2.F0 hF3⟩;clear hG3 hV3 hF3 q0 q1 q2 q3 q4 q5 q6 hbl6;go_wp2
      go_roundw
      case rel=>exact⟨j+1,V3,by go_num,hjl,by rw[HN2.out.1];exact H7.out.1,H7.out.2.1,H7.out.2.2⟩
      case measure=>simp[intOf];omega
     ·obtain rfl:j=hs.length:=by omega
      have hjI:¬(hs.length:Int)<(hs.length:Int):=by omega
      have hG5:=HJ.out.1;rw[NT,<-HN.out]at hG5;have H5:M6 _:=hG5;clear hG5;go_wp2
      go_roundw
      case rel=>exact⟨k+1,V2,by go_num,hlt,H5.out,HJ.out.2.1,HQ.out.2.1.F0 HJ.out.2.2⟩
      case measure=>simp[intOf];omega
  ·obtain rfl:k=G.liv.length:=by omega
   have hkI:¬(G.liv.length:Int)<(G.liv.length:Int):=by omega
   go_wp2
   go_end0
   have hG5:=HI.out.1;rw[NT]at hG5;exact⟨rfl,V',hG5,HI.out.2.1,HI.out.2.2⟩
end
section
variable {base:Nat}{w:MO}{g:Nat}{V:Vs}{G:Gt}
theorem wj:∀(l:List Int) (G:Gt),(l.foldl bE G).out.length<=G.out.length+2*l.length
 | [],_=>MV _
 |s::l,G=>by
  have h1:=wj l (bE G s);have h2:=ux (G:=G) s;rw[O4,Ox];omega
theorem zc(h:Bs G):(fk G).out.length<=G.out.length+80:=by
 unfold fk;refine Nm (wj _ _) ?_;have:(fK G.fls (G.wnow+1)).length<=40:=by
  unfold fK;rw[N0];exact Nm (O1 _ _) h.Gb
 show G.out.length+_<=_;omega
theorem jM{r:Ending}{w1:MO}{V1:Vs}(hF:am V V1 g w w1)(hV:V1.bh=V.bh)(h:eK base w1 g V1 G' r w'):eK base w g V G' r w':=by
 obtain⟨h1,V',h2,h3,h4⟩:=h;exact⟨h1,V',h2,h3.trans hV,hF.F0 h4⟩
theorem yP(h:ab base w g V G)(hwm:Wm G)(hn:G.now+1<=1099511626776)(hl:G.out.length<=600000) :
  Ni MK 82 #[gP g] w (eK base w g V (mK G)):=by
 obtain⟨G1,hG1⟩:∃G1:Gt,G1={G with now:=G.now+1}:=⟨_,rfl⟩;have him1:Im G1:=by rw[hG1];exact hwm.im.next hn
 obtain⟨G2,hG2⟩:∃G2:Gt,G2=eE G1:=⟨_,rfl⟩;have him2:Im G2:=by rw[hG2];exact him1.Jf
 have hsm:=yj him1.bs;rw[<-hG2]at hsm;obtain⟨G3,hG3⟩:∃G3:Gt,G3=lU G2:=⟨_,rfl⟩;have him3:Im G3:=by rw[hG3];exact him2.I2
 have hw3:G3.wnow+1=G3.now:=by
  rw[hG3];show G2.wnow+1=G2.now;rw[hsm.2.1,hsm.1,hG1];show G.wnow+1=G.now+1;rw[hwm.wnow]
 have hd3:∀f∈G3.fls,G3.wnow<f.due:=by
  rw[hG3];show ∀f∈G2.fls,G2.wnow<f.due;rw[hsm.2.2.1,hsm.2.1,hG1];show ∀f∈G.fls,G.wnow<f.due;rw[hwm.wnow];exact hwm.due
 have ho3:G3.out.length<=600000:=by
  rw[hG3];show G2.out.length<=600000;rw[hsm.2.2.2.2.1,hG1];exact hl
 have hgf:=him3.Je hw3 hd3;have ho4:=zc him3.bs;obtain⟨G4,hG4⟩:∃G4:Gt,G4=fk G3:=⟨_,rfl⟩;rw[<-hG4]at hgf ho4;have htk:mK G=qU G4:=by unfold mK;rw[<-hG1,<-hG2,<-hG3,<-hG4]
 rw[htk];have c16:=h.Gm;have f16:=h.fz 16;have hgl:=h.lt;have hwr:IntKind.i64.wrap (G.now+1)=G.now+1:=by have:=hwm.im.bs.now;rw[Ow];omega
 have hGx:=h.Ja (G.now+1);rw[<-hG1]at hGx;have hFx:am V V g w (w.setCell ⟨g,16,MH⟩ (MF ME (G.now+1))):=(am.Gy V g w).F4 16 _;obtain⟨w0,hw0⟩:∃w0,w0=w.setCell ⟨g,16,MH⟩ (MF ME (G.now+1)):=⟨_,rfl⟩;rw[<-hw0]at hGx hFx;have H:M6 (_/\_/\_):=⟨CM hGx him1,hFx,hG2⟩;have HX:M6 (_/\_/\_/\_/\_/\_/\_/\_):=⟨him2,him3,hw3,ho3,hgf,ho4,hG3,hG4⟩;clear him1 him2 him3 hw3 hd3 ho3 hgf ho4 hsm hG1 hG2 hG3 hG4 htk hGx hFx h hwm hn hl;go_enter Tryz.func82,Tryz.ntmps82
 go_wp2_with fail
 rw[<-hw0];clear hw0;refine Nd H.out.1 ?_;rintro r w1 ⟨rfl,V1,hA1,hV1,hF1⟩;rw[<-H.out.2.2]at hA1;have H1:M6 (_/\_/\_):=⟨yU hA1 HX.out.1.bs,H.out.2.1.F0 hF1,hV1.2.2⟩;clear hA1 hV1 hF1
 go_wp2_with fail
 refine Nd H1.out.1 ?_;rintro r w2 ⟨rfl,V2,hA2,hV2,hF2⟩;rw[<-HX.out.2.2.2.2.2.2.1]at hA2;have H2:M6 (_/\_/\_):=⟨Ae hA2 HX.out.2.1 HX.out.2.2.1 (by have:=HX.out.2.2.2.1;omega),H1.out.2.1.F0 hF2,hV2.2.2.trans H1.out.2.2⟩;clear hA2 hV2 hF2
 go_wp2_with fail
 refine Nd H2.out.1 ?_;rintro r w3 ⟨rfl,V3,hA3,hV3,hF3⟩;rw[<-HX.out.2.2.2.2.2.2.2]at hA3;have H3:M6 (_/\_/\_):=⟨wM hA3 HX.out.2.2.2.2.1.1 (by rw[HX.out.2.2.2.2.1.2.2.1,HX.out.2.2.2.2.1.2.1]) (by have:=HX.out.2.2.2.2.2.1;have:=HX.out.2.2.2.1;omega),H2.out.2.1.F0 hF3,hV3.trans H2.out.2.2⟩;clear hA3 hV3 hF3
 go_wp2_with fail
 refine Nd H3.out.1 ?_;rintro r w4 ⟨rfl,V4,hP⟩;have H4:M6 _:=hP;clear hP;go_wp2
 go_end0
 exact jM H3.out.2.1 H3.out.2.2 ⟨rfl,V4,H4.out⟩
theorem C5(h:ab base w g V G)(hwm:Wm G){e:Ev}(he:fB e)(hn:e.kind=7->G.now+1<=1099511626776)(hl:G.out.length<=600000) :
  Ni MK 62 #[gP g,kI e] w (eK base w g V (iG G e)):=by
 obtain⟨W,hW⟩:∃W,W=w.alloc (e9 e):=⟨_,rfl⟩;have hB:MQ w.heap.size w W:=by rw[hW];exact ai w
 have hR:W.heap[w.heap.size]?=MI (e9 e):=by rw[hW];exact M1 _ _
 have hG:=h.below hB;have hF:am V V g w W:=am.F5 hB;obtain⟨k0,k1,k2,k3,k4,k5,k6,k7,klt⟩:=gO hR;have hgl:=h.lt;obtain⟨O,hO⟩:∃O,O=iG G e:=⟨_,rfl⟩;rw[<-hO];unfold iG at hO;have hk:=he.kind;have hcs:e.kind=1\/(e.kind=2\/e.kind=3\/e.kind=4)\/e.kind=5\/e.kind=6\/e.kind=7:=by omega
 rcases hcs with h1|h1|h1|h1|h1
 ·have b1:(e.kind == 1)=true:=by rw[h1];rfl
  rw[Nh h1]at hO;have H:M6 (_/\_/\_):=⟨E6 hG hwm.im.bs hwm.wnow (by omega) he.key,hF,hO⟩;clear h1 hO hG hF h hwm he hn hl hB hR hk;go_enter Vq,Vl
  go_wp2_with fail
  rw[<-hW];clear hW;refine Nd H.out.1 ?_;rintro r w4 ⟨rfl,V4,hP⟩;have H4:M6 _:=hP;clear hP;go_wp2
  go_end0
  rw[H.out.2.2];exact jM H.out.2.1 rfl ⟨rfl,V4,H4.out⟩
 ·have b1:(e.kind == 1)=false:=beq_eq_false_iff_ne.2 (by omega)
  rw[Nf (by omega),Nf (by omega),Nf (by omega),Nf (by omega)]at hO;have H:M6 (_/\_/\_):=⟨zl hG hwm.im.bs hwm.wnow (by omega) e,hF,hO⟩;have HK:M6 _:=h1;clear hO hG hF h hwm he hn hl hB hR hk;rcases h1 with h1|h1|h1
  ·have b2:(e.kind == 2)=true:=by rw[h1];rfl
   clear h1;go_enter Vq,Vl
   go_wp2_with fail
   rw[<-hW];clear hW;refine Nd H.out.1 ?_;rintro r w4 ⟨rfl,V4,hP⟩;have H4:M6 _:=hP;clear hP;go_wp2
   go_end0
   rw[H.out.2.2];exact jM H.out.2.1 rfl ⟨rfl,V4,H4.out⟩
  ·have b2:(e.kind == 2)=false:=by rw[h1];rfl
   have b3:(e.kind == 3)=true:=by rw[h1];rfl
   clear h1;go_enter Vq,Vl
   go_wp2_with fail
   rw[<-hW];clear hW;refine Nd H.out.1 ?_;rintro r w4 ⟨rfl,V4,hP⟩;have H4:M6 _:=hP;clear hP;go_wp2
   go_end0
   rw[H.out.2.2];exact jM H.out.2.1 rfl ⟨rfl,V4,H4.out⟩
  ·have b2:(e.kind == 2)=false:=by rw[h1];rfl
   have b3:(e.kind == 3)=false:=by rw[h1];rfl
   have b4:(e.kind == 4)=true:=by rw[h1];rfl
   clear h1;go_enter Vq,Vl
   go_wp2_with fail
   rw[<-hW];clear hW;refine Nd H.out.1 ?_;rintro r w4 ⟨rfl,V4,hP⟩;have H4:M6 _:=hP;clear hP;go_wp2
   go_end0
   rw[H.out.2.2];exact jM H.out.2.1 rfl ⟨rfl,V4,H4.out⟩
 ·have b1:(e.kind == 1)=false:=by rw[h1];rfl
  have b2:(e.kind == 2)=false:=by rw[h1];rfl
  have b3:(e.kind == 3)=false:=by rw[h1];rfl
  have b4:(e.kind == 4)=false:=by rw[h1];rfl
  have b5:(e.kind == 5)=true:=by rw[h1];rfl
  rw[Nf (by omega),Nh h1]at hO;have H:M6 (_/\_/\_):=⟨tr hG (by omega) 1 e,hF,hO⟩;clear h1 hO hG hF h hwm he hn hl hB hR hk;go_enter Vq,Vl
  go_wp2_with fail
  rw[<-hW];clear hW;refine Nd H.out.1 ?_;rintro r w4 ⟨rfl,V4,hP1,hP2,hP3⟩;have H4:M6 (_/\_/\_):=⟨hP1,hP2,hP3⟩;clear hP1 hP2 hP3;go_wp2
  go_end0
  rw[H.out.2.2];exact⟨rfl,V4,H4.out.1,H4.out.2.1.2.2,H.out.2.1.F0 H4.out.2.2⟩
 ·have b1:(e.kind == 1)=false:=by rw[h1];rfl
  have b2:(e.kind == 2)=false:=by rw[h1];rfl
  have b3:(e.kind == 3)=false:=by rw[h1];rfl
  have b4:(e.kind == 4)=false:=by rw[h1];rfl
  have b5:(e.kind == 5)=false:=by rw[h1];rfl
  have b6:(e.kind == 6)=true:=by rw[h1];rfl
  rw[Nf (by omega),Nf (by omega),Nh h1]at hO;have H:M6 (_/\_/\_):=⟨rj (C8 hG hwm.im (by omega) e he),hF,hO⟩;clear h1 hO hG hF h hwm he hn hl hB hR hk;go_enter Vq,Vl
  go_wp2_with fail
  rw[<-hW];clear hW;refine Nd H.out.1 ?_;rintro r w4 ⟨rfl,V4,hP⟩;have H4:M6 _:=hP;clear hP;go_wp2
  go_end0
  rw[H.out.2.2];exact jM H.out.2.1 rfl ⟨rfl,V4,H4.out⟩
 ·have b1:(e.kind == 1)=false:=by rw[h1];rfl
  have b2:(e.kind == 2)=false:=by rw[h1];rfl
  have b3:(e.kind == 3)=false:=by rw[h1];rfl
  have b4:(e.kind == 4)=false:=by rw[h1];rfl
  have b5:(e.kind == 5)=false:=by rw[h1];rfl
  have b6:(e.kind == 6)=false:=by rw[h1];rfl
  have b7:(e.kind == 7)=true:=by rw[h1];rfl
  rw[Nf (by omega),Nf (by omega),Nf (by omega),Nh h1]at hO;have H:M6 (_/\_/\_):=⟨yP hG hwm (hn h1) hl,hF,hO⟩;clear h1 hO hG hF h hwm he hn hl hB hR hk;go_enter Vq,Vl
  go_wp2_with fail
  rw[<-hW];clear hW;refine Nd H.out.1 ?_;rintro r w4 ⟨rfl,V4,hP⟩;have H4:M6 _:=hP;clear hP;go_wp2
  go_end0
  rw[H.out.2.2];exact jM H.out.2.1 rfl ⟨rfl,V4,H4.out⟩
end
end Go.Proofs.YtlnbhjdhcmgljaaGreatDoor.Q
