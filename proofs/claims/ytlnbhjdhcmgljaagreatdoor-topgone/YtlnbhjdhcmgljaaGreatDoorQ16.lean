/-
  Contracts of the layers and of core, part 16. Conditions: as each theorem says.
-/
import Derived.Test.YtlnbhjdhcmgljaaGreatDoorQ14
open Bool renaming false->Nb,true->Nw
open Decidable renaming decide->Nn
open Go renaming Addr->Oc,Calls->Ni,Program->O8,TypeId->NU,Value->M7,World->MO,bodyPost_ret->Np,cell_of_row->MW,grownCap->QR,heap_alloc_new->M1,info_parts->OF,maxLen->NE,wpList_load_mid->O3
open Go.Builtin renaming append_->N2,zeroCells->N5
open Go.Calls renaming mono->Nd,quiet_of->Qe
open Go.Ending renaming returned->MN
open Go.Fn renaming func->PD
open Go.IntKind renaming i64->ME,wrap_i64->Ow
open Go.Obj renaming cells->MP
open Go.Oper renaming wp->RB
open Go.Operand renaming tmp->O6
open Go.Proofs.Tryz renaming func101->QB,func103->R3,func124->VV,func145->SM,func149->Ue,func154->UR,func156->SN,func160->VD,func194->SV,func199->Ui,func200->SU,func83->Vw,func91->TP,func93->Ux,func96->UY,ntmps101->Qo,ntmps103->RP,ntmps124->VL,ntmps145->Sr,ntmps149->T4,ntmps154->UE,ntmps156->Ss,ntmps160->Vv,ntmps194->Sy,ntmps199->T8,ntmps200->Sx,ntmps83->Vt,ntmps91->TI,ntmps93->Un,ntmps96->UV,prog->MK,results124->VA,underlying184->U0,underlying3->Ol,underlying36->RC,underlying39->Qu,underlying44->RA
open Go.Result renaming andThen_ok->PG
open Go.RowKit renaming Below->MQ,Hid->M6
open Go.RowKit.Below renaming heap_setCell->MU,refl->MY
open Go.Sem renaming run_bind->Pn,run_pure->P3
open Go.Value renaming agg->Ny,bool->M3,func->PB,int->MF,pointer->Na,slice->MG,tuple->Nv
open Go.World renaming block_lt_of_cell?->MX,cell?->Nl,cell?_of_block->NG,frozen?->Ng,frozen?_of_block->OM,ownsRow_nil->NY
open Int renaming eq_ofNat_of_zero_le->NL
open List renaming append_nil->OG,ext_getElem->PX,ext_getElem?->Ot,find?_append->Tf,flatten_append->PV,getD_eq_getElem?_getD->NK,getElem?_append_right->Tw,getElem?_eq_getElem->MR,getElem?_eq_none->Nz,getElem?_set_ne->N3,getElem?_set_self->N7,getElem_cons_drop->Pp,getElem_cons_zero->MS,getElem_mem->Nk,getElem_of_mem->NV,getElem_set->Pc,getElem_set_ne->Pe,getElem_set_self->NW,getElem_zip->Qf,length_append->Ns,length_cons->Ox,length_map->N0,length_set->NA,length_take->NH,length_zip->Qn,map_congr_left->PU,map_cons->OA,mem_cons->OO,mem_cons_of_mem->NB,mem_cons_self->NM,mem_of_getElem?->Nu,mem_singleton->PY,nil_append->Oz,not_mem_nil->OD,range->Pm,replicate->Nj,take_append_drop->Oo,take_length->NT,take_of_length_le->N1,take_succ_eq_append_getElem->M9
open Nat renaming add_zero->Oe,le_refl->MV,le_succ->Ps,le_trans->Nm,lt_irrefl->PC,lt_of_le_of_lt->Pb,lt_of_lt_of_le->M8,mul_one->P6,not_lt_zero->QH,zero_add->Oa,zero_le->Nx
open Ne renaming symm->Pi
open Option renaming none->MH,some->MI
open Option.some renaming inj->NC
open Or renaming inl->Nt,inr->NF
open Prod.mk renaming injEq->Q7
namespace Go.Proofs.YtlnbhjdhcmgljaaGreatDoor.Q
set_option linter.unusedVariables false
set_option linter.unusedSimpArgs false
set_option maxHeartbeats 16000000
set_option maxRecDepth 100000
open Go.RowKit
attribute [local go_sem ↓] Go.wp_at_zero Go.wp_at_succ
variable {v:M7}{W w5:MO}{b base:Nat}
structure Us where
 ph:Option Oc
 ch:Nat
 pt:Option Oc
 ct:Nat
 pf:Option Oc
 cf:Nat
 pl:Option Oc
 cl:Nat
 pr:Option Oc
 cr:Nat
 ps:Option Oc
 cs:Nat
 pw:Option Oc
 cw:Nat
 ms:List Mk
def Vs.us(V:Vs):Us:=⟨MI ⟨V.bh,0,MH⟩,V.ch,V.pt,V.ct,V.pf,V.cf,V.pl,V.cl,V.pr,V.cr,V.ps,V.cs,V.pw,V.cw,V.ms⟩
abbrev ef(U:Us)(G:Gt):Array Value:=#[MF ME G.cfg.flows,MF ME G.cfg.num,MF ME G.cfg.den,MF ME G.cfg.tries,MF ME G.cfg.warm,MF ME G.cfg.drain,MF ME G.cfg.idle,MF ME G.cfg.conn,MF ME G.cfg.ret,MF ME G.cfg.most,MF ME G.cfg.bn,MF ME G.cfg.bd,MF ME G.cfg.bb,MF ME G.cfg.wn,MF ME G.cfg.wf,MF ME G.cfg.wh,MF ME G.now,MG U.pt G.tab.length U.ct,MG U.pf G.fls.length U.cf,MG U.pl G.liv.length U.cl,MG U.pr G.req.length U.cr,MG U.ps (ao G.wts).length U.cs,MG U.ph 12 U.ch,MF ME G.tok,MF ME G.wnow,MG U.pw 25 U.cw]
abbrev lH(U:Us)(G:Gt):Value:=Ny (ef U G)
abbrev lR(U:Us)(G:Gt):Array Value:=#[MF ME G.cfg.flows,MF ME G.cfg.num,MF ME G.cfg.den,MF ME G.cfg.tries,MF ME G.cfg.warm,MF ME G.cfg.drain,MF ME G.cfg.idle,MF ME G.cfg.conn,MF ME G.cfg.ret,MF ME G.cfg.most,MF ME G.cfg.bn,MF ME G.cfg.bd,MF ME G.cfg.bb,MF ME G.cfg.wn,MF ME G.cfg.wf,MF ME G.cfg.wh,MF ME G.now,MG U.pt G.tab.length U.ct,MG U.pf G.fls.length U.cf,MG U.pl G.liv.length U.cl,MG U.pr G.req.length U.cr,MG U.ps (ao G.wts).length U.cs,MG U.ph 12 U.ch,MF ME G.tok,MF ME G.wnow,MG U.pw 25 U.cw,MG MH 0 0]
structure aF(w:MO)(U:Us)(G:Gt):Prop where
 tab:bS w (MG U.pt G.tab.length U.ct) G.tab
 fls:dS w (MG U.pf G.fls.length U.cf) G.fls
 book:fb w (MG U.pl G.liv.length U.cl) (MG U.pr G.req.length U.cr) G.liv G.req
 ring:aO w (MG U.ps (ao G.wts).length U.cs) (ao G.wts)
 whl:∃ls,cQ G.wnow ls/\(∀t,t∈ls.flatten↔G.tms t)/\dh w (MG U.pw 25 U.cw) ls
 hea:bj fD w (MG U.ph 12 U.ch) (U.ms.zip G.hea)
 msl:U.ms.length=12
 hel:G.hea.length=12
 marks:∀(i:Nat) (m:Mk) (h:He),U.ms[i]?=MI m->G.hea[i]?=MI h->bK w (MG m.1 h.marks.length m.2) h.marks
section
variable {base:Nat}{w w':MO}{g:Nat}{V:Vs}{U:Us}{G:Gt}
theorem aF.below(h:aF w U G)(hb:MQ w.heap.size w w'):aF w' U G:=by
 obtain⟨ls,h1,h2,h3⟩:=h.whl;exact⟨h.tab.below hb,bj.below h.fls hb,h.book.below hb,h.ring.below hb,⟨ls,h1,h2,h3.below hb⟩,bj.below h.hea hb,h.msl,h.hel,fun i m x e1 e2=>(h.marks i m x e1 e2).below hb⟩
structure RG(w:MO)(g:Nat)(U:Us)(G:Gt):Prop where
 box:w.heap[g]?=MI (MP (lR U G) 145 (0,0))
 wat:aF w U G
theorem RG.below(h:RG w g U G)(hb:MQ w.heap.size w w'):RG w' g U G:=⟨af h.box hb,h.wat.below hb⟩
theorem RG.lt(h:RG w g U G):g<w.heap.size:=(Array.getElem?_eq_some_iff.1 h.box).1
theorem RG.c0(h:RG w g U G):w.cell? ⟨g,0,MH⟩=MI (MF ME G.cfg.flows):=by rw[MW w g 0 _ _ (0,0) h.box];rfl
theorem RG.c1(h:RG w g U G):w.cell? ⟨g,1,MH⟩=MI (MF ME G.cfg.num):=by rw[MW w g 1 _ _ (0,0) h.box];rfl
theorem RG.c2(h:RG w g U G):w.cell? ⟨g,2,MH⟩=MI (MF ME G.cfg.den):=by rw[MW w g 2 _ _ (0,0) h.box];rfl
theorem RG.c3(h:RG w g U G):w.cell? ⟨g,3,MH⟩=MI (MF ME G.cfg.tries):=by rw[MW w g 3 _ _ (0,0) h.box];rfl
theorem RG.c4(h:RG w g U G):w.cell? ⟨g,4,MH⟩=MI (MF ME G.cfg.warm):=by rw[MW w g 4 _ _ (0,0) h.box];rfl
theorem RG.c5(h:RG w g U G):w.cell? ⟨g,5,MH⟩=MI (MF ME G.cfg.drain):=by rw[MW w g 5 _ _ (0,0) h.box];rfl
theorem RG.c6(h:RG w g U G):w.cell? ⟨g,6,MH⟩=MI (MF ME G.cfg.idle):=by rw[MW w g 6 _ _ (0,0) h.box];rfl
theorem RG.c7(h:RG w g U G):w.cell? ⟨g,7,MH⟩=MI (MF ME G.cfg.conn):=by rw[MW w g 7 _ _ (0,0) h.box];rfl
theorem RG.c8(h:RG w g U G):w.cell? ⟨g,8,MH⟩=MI (MF ME G.cfg.ret):=by rw[MW w g 8 _ _ (0,0) h.box];rfl
theorem RG.c9(h:RG w g U G):w.cell? ⟨g,9,MH⟩=MI (MF ME G.cfg.most):=by rw[MW w g 9 _ _ (0,0) h.box];rfl
theorem RG.Hf(h:RG w g U G):w.cell? ⟨g,10,MH⟩=MI (MF ME G.cfg.bn):=by rw[MW w g 10 _ _ (0,0) h.box];rfl
theorem RG.Hn(h:RG w g U G):w.cell? ⟨g,11,MH⟩=MI (MF ME G.cfg.bd):=by rw[MW w g 11 _ _ (0,0) h.box];rfl
theorem RG.Hg(h:RG w g U G):w.cell? ⟨g,12,MH⟩=MI (MF ME G.cfg.bb):=by rw[MW w g 12 _ _ (0,0) h.box];rfl
theorem RG.GS(h:RG w g U G):w.cell? ⟨g,13,MH⟩=MI (MF ME G.cfg.wn):=by rw[MW w g 13 _ _ (0,0) h.box];rfl
theorem RG.GU(h:RG w g U G):w.cell? ⟨g,14,MH⟩=MI (MF ME G.cfg.wf):=by rw[MW w g 14 _ _ (0,0) h.box];rfl
theorem RG.GO(h:RG w g U G):w.cell? ⟨g,15,MH⟩=MI (MF ME G.cfg.wh):=by rw[MW w g 15 _ _ (0,0) h.box];rfl
theorem RG.Gm(h:RG w g U G):w.cell? ⟨g,16,MH⟩=MI (MF ME G.now):=by rw[MW w g 16 _ _ (0,0) h.box];rfl
theorem RG.Gs(h:RG w g U G):w.cell? ⟨g,17,MH⟩=MI (MG U.pt G.tab.length U.ct):=by rw[MW w g 17 _ _ (0,0) h.box];rfl
theorem RG.Gr(h:RG w g U G):w.cell? ⟨g,18,MH⟩=MI (MG U.pf G.fls.length U.cf):=by rw[MW w g 18 _ _ (0,0) h.box];rfl
theorem RG.Gn(h:RG w g U G):w.cell? ⟨g,19,MH⟩=MI (MG U.pl G.liv.length U.cl):=by rw[MW w g 19 _ _ (0,0) h.box];rfl
theorem RG.GD(h:RG w g U G):w.cell? ⟨g,20,MH⟩=MI (MG U.pr G.req.length U.cr):=by rw[MW w g 20 _ _ (0,0) h.box];rfl
theorem RG.GX(h:RG w g U G):w.cell? ⟨g,21,MH⟩=MI (MG U.ps (ao G.wts).length U.cs):=by rw[MW w g 21 _ _ (0,0) h.box];rfl
theorem RG.GI(h:RG w g U G):w.cell? ⟨g,22,MH⟩=MI (MG U.ph 12 U.ch):=by rw[MW w g 22 _ _ (0,0) h.box];rfl
theorem RG.Id(h:RG w g U G):w.cell? ⟨g,23,MH⟩=MI (MF ME G.tok):=by rw[MW w g 23 _ _ (0,0) h.box];rfl
theorem RG.GJ(h:RG w g U G):w.cell? ⟨g,24,MH⟩=MI (MF ME G.wnow):=by rw[MW w g 24 _ _ (0,0) h.box];rfl
theorem RG.GH(h:RG w g U G):w.cell? ⟨g,25,MH⟩=MI (MG U.pw 25 U.cw):=by rw[MW w g 25 _ _ (0,0) h.box];rfl
theorem Dq(h:RG w g U G)(b:Int) :
  Ni MK 149 #[gP g,MF ME b] w fun r w'=>r=MN (M3 (du G.fls b))/\MQ w.heap.size w w':=by
 obtain⟨W,hW⟩:∃W,W=w.alloc (MP #[MF ME b] 3):=⟨_,rfl⟩;have hB:MQ w.heap.size w W:=by rw[hW];exact ai w
 have hG:=h.below hB;have hc:W.cell? ⟨w.heap.size,0,MH⟩=MI (MF ME b):=by rw[hW];exact aM (M1 _ _)
 have HI:M6 _:=sk (MG U.pf G.fls.length U.cf) G.fls b w.heap.size W hG.wat.fls hc;have c18:=h.Gr;have hgl:=h.lt;have H:M6 _:=hB;clear hG h hc hB;go_enter Ue,T4
 go_wp2_with fail
 rw[<-hW];refine Nd HI.out ?_;rintro r w1 ⟨rfl,hb1⟩;have HB:M6 _:=H.out.trans (hb1.mono H.out.size);clear hb1;go_wp2;go_ret;exact⟨rfl,HB.out⟩
theorem zS(h:RG w g U G)(b:Int) :
  Ni MK 124 #[gP g,MF ME b] w fun r w'=>r=MN (gu (aq G.liv b))/\MQ w.heap.size w w':=by
 obtain⟨W,hW⟩:∃W,W=(w.alloc (MP #[MF ME b] 3)).alloc (cE fE):=⟨_,rfl⟩;have hx:=iF w (MP #[MF ME b] 3) (cE fE);rw[<-hW]at hx;obtain⟨hR0,hR1,hB,hsz⟩:=hx;have hG:=h.below hB;have hc:W.cell? ⟨w.heap.size,0,MH⟩=MI (MF ME b):=aM hR0;have HI:M6 _:=uj (MG U.pl G.liv.length U.cl) G.liv b w.heap.size W hG.wat.book.1 hc;have c19:=h.Gn;have hgl:=h.lt;have H:M6 (_/\_/\_):=⟨hB,hG,hR1⟩;clear h hc hB hG hR0 hR1
 by_cases hi:G.liv.findIdx (fun x=>x.1 == b)<G.liv.length
 ·obtain⟨i,hie⟩:∃i,i=G.liv.findIdx (fun x=>x.1 == b):=⟨_,rfl⟩
  have hix:bz (G.liv.findIdx (fun x=>x.1 == b)) G.liv.length=(i:Int):=by rw[<-hie];exact Nh (by rw[hie];exact hi)
  rw[hix]at HI;rw[<-hie]at hi;obtain⟨x,hxe⟩:∃x,x=aq G.liv b:=⟨_,rfl⟩;have hxi:x=G.liv[i]:=by rw[hxe,nz,<-hie];simp[hi]
  have hiI:(i:Int)<(G.liv.length:Int):=by omega
  rw[<-hxe];have HX:M6 (_/\_):=⟨hxi,hie⟩;clear hix hie hxe hxi;go_enter VV,VL
  go_wp2_with fail
  rw[<-hW];refine Nd HI.out ?_;rintro r w1 ⟨rfl,hb1⟩;have hG1:=H.out.2.1.below hb1;have d19:=hG1.Gn;have hR2:=af H.out.2.2 hb1;obtain⟨a,cap,he,hcap,hmax,pa⟩:=jH.F6 hG1.wat.book.1;injection he with e1 e2 e3;unfold NE at hmax;rw[e3]at d19;obtain⟨b1,o1,hpa,hb2,z1,z2,z3,z4,z5,z6⟩:=pa i hi;rw[e1,hpa]at d19;rw[<-HX.out.1]at z1 z2 z3 z4 z5 z6;have hlt1:w.heap.size+1<w1.heap.size:=(Array.getElem?_eq_some_iff.1 hR2).1;have f0:w1.frozen? ⟨w.heap.size+1,0,MH⟩=false:=by simp[Ng,hR2]
  have f1:w1.frozen? ⟨w.heap.size+1,1,MH⟩=false:=by simp[Ng,hR2]
  have f2:w1.frozen? ⟨w.heap.size+1,2,MH⟩=false:=by simp[Ng,hR2]
  have f3:w1.frozen? ⟨w.heap.size+1,3,MH⟩=false:=by simp[Ng,hR2]
  have f4:w1.frozen? ⟨w.heap.size+1,4,MH⟩=false:=by simp[Ng,hR2]
  have f5:w1.frozen? ⟨w.heap.size+1,5,MH⟩=false:=by simp[Ng,hR2]
  have k0:w1.cell? ⟨w.heap.size+1,0,MH⟩=MI (MF ME 0):=by rw[MW w1 _ 0 _ _ (0,0) hR2];rfl
  have k1:w1.cell? ⟨w.heap.size+1,1,MH⟩=MI (MF ME 0):=by rw[MW w1 _ 1 _ _ (0,0) hR2];rfl
  have k2:w1.cell? ⟨w.heap.size+1,2,MH⟩=MI (MF ME 0):=by rw[MW w1 _ 2 _ _ (0,0) hR2];rfl
  have k3:w1.cell? ⟨w.heap.size+1,3,MH⟩=MI (MF ME 0):=by rw[MW w1 _ 3 _ _ (0,0) hR2];rfl
  have k4:w1.cell? ⟨w.heap.size+1,4,MH⟩=MI (MF ME 0):=by rw[MW w1 _ 4 _ _ (0,0) hR2];rfl
  have k5:w1.cell? ⟨w.heap.size+1,5,MH⟩=MI (MF ME 0):=by rw[MW w1 _ 5 _ _ (0,0) hR2];rfl
  have HB:M6 (_/\_):=⟨my (a':=MF ME x.1) (b':=MF ME x.2.1) (c':=MF ME x.2.2.1) (d':=MF ME x.2.2.2.1) (e':=MF ME x.2.2.2.2.1) (f':=MF ME x.2.2.2.2.2) hR2,l6 (a:=MF ME x.1) (b:=MF ME x.2.1) (c:=MF ME x.2.2.1) (d:=MF ME x.2.2.2.1) (e:=MF ME x.2.2.2.2.1) (f:=MF ME x.2.2.2.2.2) (H.out.1.trans (hb1.mono H.out.1.size)) (Ps _)⟩;clear hb1 c19 hG1 hR2 pa e1 hpa e3;go_wp2;exact Np (ey VA rfl (l7 HB.out.1)) rfl ⟨rfl,HB.out.2⟩
 ·have hix:bz (G.liv.findIdx (fun x=>x.1 == b)) G.liv.length = -1:=Nf hi
  rw[hix]at HI;have hxe:aq G.liv b=fE:=by rw[nz];simp[hi]
  rw[hxe];clear hix hxe;go_enter VV,VL
  go_wp2_with fail
  rw[<-hW];refine Nd HI.out ?_;rintro r w1 ⟨rfl,hb1⟩;have hR2:=af H.out.2.2 hb1;have hlt1:w.heap.size+1<w1.heap.size:=(Array.getElem?_eq_some_iff.1 hR2).1;have f0:w1.frozen? ⟨w.heap.size+1,0,MH⟩=false:=by simp[Ng,hR2]
  have f1:w1.frozen? ⟨w.heap.size+1,1,MH⟩=false:=by simp[Ng,hR2]
  have f2:w1.frozen? ⟨w.heap.size+1,2,MH⟩=false:=by simp[Ng,hR2]
  have f3:w1.frozen? ⟨w.heap.size+1,3,MH⟩=false:=by simp[Ng,hR2]
  have f4:w1.frozen? ⟨w.heap.size+1,4,MH⟩=false:=by simp[Ng,hR2]
  have f5:w1.frozen? ⟨w.heap.size+1,5,MH⟩=false:=by simp[Ng,hR2]
  have k0:w1.cell? ⟨w.heap.size+1,0,MH⟩=MI (MF ME 0):=by rw[MW w1 _ 0 _ _ (0,0) hR2];rfl
  have k1:w1.cell? ⟨w.heap.size+1,1,MH⟩=MI (MF ME 0):=by rw[MW w1 _ 1 _ _ (0,0) hR2];rfl
  have k2:w1.cell? ⟨w.heap.size+1,2,MH⟩=MI (MF ME 0):=by rw[MW w1 _ 2 _ _ (0,0) hR2];rfl
  have k3:w1.cell? ⟨w.heap.size+1,3,MH⟩=MI (MF ME 0):=by rw[MW w1 _ 3 _ _ (0,0) hR2];rfl
  have k4:w1.cell? ⟨w.heap.size+1,4,MH⟩=MI (MF ME 0):=by rw[MW w1 _ 4 _ _ (0,0) hR2];rfl
  have k5:w1.cell? ⟨w.heap.size+1,5,MH⟩=MI (MF ME 0):=by rw[MW w1 _ 5 _ _ (0,0) hR2];rfl
  have HB:M6 (_/\_):=⟨my (a':=MF ME 0) (b':=MF ME 0) (c':=MF ME 0) (d':=MF ME 0) (e':=MF ME 0) (f':=MF ME 0) hR2,l6 (a:=MF ME 0) (b:=MF ME 0) (c:=MF ME 0) (d:=MF ME 0) (e:=MF ME 0) (f:=MF ME 0) (H.out.1.trans (hb1.mono H.out.1.size)) (Ps _)⟩;clear hb1 c19 hR2;go_wp2;exact Np (ey VA rfl (l7 (x:=fE) HB.out.1)) rfl ⟨rfl,HB.out.2⟩
end
section
variable {base:Nat}{w w':MO}{g:Nat}{V:Vs}{U:Us}{G:Gt}
theorem gz(n a b:Int)(w:MO):Ni MK 83 #[MF ME n,MF ME a,MF ME b] w fun r w'=>r=MN (M3 (Nn (a<=n/\n<=b)))/\w'=w:=by
 obtain⟨z,hz⟩:∃z,z=Nn (a<=n/\n<=b):=⟨_,rfl⟩;rw[<-hz]
 by_cases h1:a<=n
 ·by_cases h2:n<=b
  ·have HD:M6 (z=Nw):=hz.trans (Nq ⟨h1,h2⟩)
   clear hz;go_enter Vw,Vt;go_wp2;go_ret;exact⟨by rw[HD.out];rfl,rfl⟩
  ·have HD:M6 (z=Nb):=hz.trans (M0 fun h=>h2 h.2)
   clear hz;have h2':¬n<=b:=h2;go_enter Vw,Vt;go_wp2;go_ret;exact⟨by rw[HD.out];rfl,rfl⟩
 ·have HD:M6 (z=Nb):=hz.trans (M0 fun h=>h1 h.1)
  clear hz;go_enter Vw,Vt;go_wp2;go_ret;exact⟨by rw[HD.out];rfl,rfl⟩
theorem FA(h:RG w g U G)(hwm:Wm G):Ni MK 93 #[gP g] w fun r w'=>r=MN (M3 Nw)/\MQ w.heap.size w w':=by
 have hliv:=hwm.im.bs.book.1.1;have c19:=h.Gn;have hgl:=h.lt;obtain⟨al,cal,hel,hcal,hmal,pal⟩:=jH.F6 h.wat.book.1;injection hel with el1 eln el3;unfold NE at hmal;rw[el1,el3]at c19;clear el1 el3 eln;have H:M6 (_/\_/\_):=⟨h,hwm,pal⟩;clear h hwm pal;go_enter Ux,Un;go_wp2
 go_loopw [12] (fun t wr=>∃(k:Nat),t=MF ME (k:Int)/\k<=G.liv.length/\M6 (MQ w.heap.size w wr)) (fun t _=>G.liv.length-(intOf t).toNat)
 case atStart=>exact⟨0,rfl,Nx _,MY _ _⟩
 case round =>
  obtain⟨k,rfl,hk,HI⟩:=hrel;obtain⟨W,hW⟩:∃W,W=wr:=⟨_,rfl⟩;subst hW
  by_cases hlt:k<G.liv.length
  ·have hkI:(k:Int)<(G.liv.length:Int):=by omega
   obtain⟨b1,o1,hpa,hb1,z0,z1,z2,z3,z4,z5⟩:=H.out.2.2 k hlt;obtain⟨⟨x1,x2,x3,x4,x5,x6⟩,hxe⟩:∃x,x=G.liv[k]:=⟨_,rfl⟩;have hmem:(x1,x2,x3,x4,x5,x6)∈G.liv:=by rw[hxe];exact Nk hlt
   rw[<-hxe]at z0 z1 z2 z3 z4 z5;have hsn:x4<=G.now:=H.out.2.1.im.bs.since _ hmem;have e0:=(HI.out.cell (p:=⟨b1,o1+k*6,MH⟩) hb1).trans z0;have e1:=(HI.out.cell (p:=⟨b1,o1+k*6+1,MH⟩) hb1).trans z1;have e2:=(HI.out.cell (p:=⟨b1,o1+k*6+2,MH⟩) hb1).trans z2;have e3:=(HI.out.cell (p:=⟨b1,o1+k*6+3,MH⟩) hb1).trans z3;have e4:=(HI.out.cell (p:=⟨b1,o1+k*6+4,MH⟩) hb1).trans z4;have e5:=(HI.out.cell (p:=⟨b1,o1+k*6+5,MH⟩) hb1).trans z5;have hbk2:b1<W.heap.size:=M8 hb1 HI.out.size;obtain⟨W1,hW1⟩:∃W1,W1=W.alloc (cE (x1,x2,x3,x4,x5,x6)):=⟨_,rfl⟩;have hB1:MQ W.heap.size W W1:=by rw[hW1];exact ai W
   have hR1:W1.heap[W.heap.size]?=MI (cE (x1,x2,x3,x4,x5,x6)):=by rw[hW1];exact M1 _ _
   have hG1:=(H.out.1.below HI.out).below hB1;have y0:W1.cell? ⟨W.heap.size,0,MH⟩=MI (MF ME x1):=by rw[MW W1 _ 0 _ _ (0,0) hR1];rfl
   have y1:W1.cell? ⟨W.heap.size,1,MH⟩=MI (MF ME x2):=by rw[MW W1 _ 1 _ _ (0,0) hR1];rfl
   have y3:W1.cell? ⟨W.heap.size,3,MH⟩=MI (MF ME x4):=by rw[MW W1 _ 3 _ _ (0,0) hR1];rfl
   have y4:W1.cell? ⟨W.heap.size,4,MH⟩=MI (MF ME x5):=by rw[MW W1 _ 4 _ _ (0,0) hR1];rfl
   have hl1:W.heap.size<W1.heap.size:=(Array.getElem?_eq_some_iff.1 hR1).1;have e16:=hG1.Gm;have hgl1:=hG1.lt;have hnsn:¬G.now<x4:=by omega
   have HX:M6 (_/\_/\_):=⟨hG1,HI.out.trans (hB1.mono HI.out.size),hmem⟩;clear hG1 hB1 hR1 hmem hxe z0 z1 z2 z3 z4 z5 hsn hb1;subst hpa
   go_wp2_with fail
   rw[<-hW1];clear hW1 e0 e1 e2 e3 e4 e5 hbk2
   go_quiet (fail)
   have v0:(W1.drewN nq).cell? ⟨W.heap.size,0,MH⟩=MI (MF ME x1):=y0;have v1:(W1.drewN nq).cell? ⟨W.heap.size,1,MH⟩=MI (MF ME x2):=y1;have v4:(W1.drewN nq).cell? ⟨W.heap.size,4,MH⟩=MI (MF ME x5):=y4;have v16:(W1.drewN nq).cell? ⟨g,16,MH⟩=MI (MF ME G.now):=e16;have hl2:W.heap.size<(W1.drewN nq).heap.size:=hl1;have hgl2:g<(W1.drewN nq).heap.size:=hgl1;have HY:M6 (_/\_):=⟨HX.out.1.below (dz (MY _ _) nq),dz HX.out.2.1 nq⟩;obtain⟨W2,hW2⟩:∃W2,W2=W1.drewN nq:=⟨_,rfl⟩;rw[<-hW2]at v0 v1 v4 v16 hl2 hgl2 HY⊢;clear hW2 y0 y1 y3 y4 e16 hl1 hgl1
   by_cases h3:x2=3
   ·subst h3
    have hgt:¬x5<=G.now:=by have:=H.out.2.1.till _ HX.out.2.2 rfl;simp only at this;omega
    have hgd:Nn (x5<=G.now)=false:=M0 hgt;have hbz:du G.fls x1=true:=H.out.2.1.im.drn _ HX.out.2.2 rfl;have HB:M6 (∀X,MQ W2.heap.size W2 X->Ni MK 149 #[gP g,MF ME x1] X fun r w'=>r=MN (M3 Nw)/\(w'.cell? ⟨g,16,MH⟩=MI (MF ME G.now)/\w'.cell? ⟨W.heap.size,0,MH⟩=MI (MF ME x1)/\w'.cell? ⟨W.heap.size,1,MH⟩=MI (MF ME 3)/\w'.cell? ⟨W.heap.size,4,MH⟩=MI (MF ME x5))/\M6 (MQ W2.heap.size W2 w')):=fun X hX=>by
     refine(Dq (HY.out.1.below hX) x1).mono ?_;rw[hbz];rintro r w' ⟨rfl,hb⟩;have hb2:=hX.trans (hb.mono hX.size);exact⟨rfl,⟨(hb2.cell hgl2).trans v16,(hb2.cell hl2).trans v0,(hb2.cell hl2).trans v1,(hb2.cell hl2).trans v4⟩,hb2⟩
    clear hbz
    go_wp2_with fail
    apply gU
    ·intro KEY
     go_region_held3 (fun X=>X.cell? ⟨g,16,MH⟩=MI (MF ME G.now)/\X.cell? ⟨W.heap.size,0,MH⟩=MI (MF ME x1)/\X.cell? ⟨W.heap.size,1,MH⟩=MI (MF ME 3)/\X.cell? ⟨W.heap.size,4,MH⟩=MI (MF ME x5)) (first|exact⟨v16,v0,v1,v4⟩|exact hS1) (first|(go_at_call 149;refine(HB.out _ (by first|exact(MY _ _).drew|exact Below.refl _ _)).mono ?_;rintro r w3 ⟨rfl,hS1,hQ⟩))
     all_goals
      rename_i hHe;clear hHe hS1;revert w3;exact KEY.out
    intro w3 hQ;have HQ:M6 _:=hQ.out;clear hQ;go_wp2
    go_roundw
    case rel=>exact⟨k+1,by go_num,hlt,HY.out.2.trans (HQ.out.mono HY.out.2.size)⟩
    case measure=>simp[intOf];omega
   ·have hne:(x2 == 3)=false:=beq_eq_false_iff_ne.2 h3
    clear h3
    go_wp2_with fail
    go_quiet (fail)
    go_wp2
    go_roundw
    case rel=>exact⟨k+1,by go_num,hlt,dz HY.out.2 _⟩
    case measure=>simp[intOf];omega
  ·obtain rfl:k=G.liv.length:=by omega
   have hkI:¬(G.liv.length:Int)<(G.liv.length:Int):=by omega
   go_wp2;go_ret;exact⟨rfl,HI.out⟩
end
abbrev sE(c:Cf):Value:=Ny #[MF ME c.flows,MF ME c.num,MF ME c.den,MF ME c.tries,MF ME c.warm,MF ME c.drain,MF ME c.idle,MF ME c.conn,MF ME c.ret,MF ME c.most,MF ME c.bn,MF ME c.bd,MF ME c.bb,MF ME c.wn,MF ME c.wf,MF ME c.wh]
abbrev qw(c:Cf):Obj:=MP #[MF ME c.flows,MF ME c.num,MF ME c.den,MF ME c.tries,MF ME c.warm,MF ME c.drain,MF ME c.idle,MF ME c.conn,MF ME c.ret,MF ME c.most,MF ME c.bn,MF ME c.bd,MF ME c.bb,MF ME c.wn,MF ME c.wf,MF ME c.wh] 34
theorem sa{w:MO}{g:Nat}{c:Cf}(h:w.heap[g]?=MI (qw c)):w.cell? ⟨g,0,MH⟩=MI (MF ME c.flows)/\w.cell? ⟨g,1,MH⟩=MI (MF ME c.num)/\w.cell? ⟨g,2,MH⟩=MI (MF ME c.den)/\w.cell? ⟨g,3,MH⟩=MI (MF ME c.tries)/\w.cell? ⟨g,4,MH⟩=MI (MF ME c.warm)/\w.cell? ⟨g,5,MH⟩=MI (MF ME c.drain)/\w.cell? ⟨g,6,MH⟩=MI (MF ME c.idle)/\w.cell? ⟨g,7,MH⟩=MI (MF ME c.conn)/\w.cell? ⟨g,8,MH⟩=MI (MF ME c.ret)/\w.cell? ⟨g,9,MH⟩=MI (MF ME c.most)/\w.cell? ⟨g,10,MH⟩=MI (MF ME c.bn)/\w.cell? ⟨g,11,MH⟩=MI (MF ME c.bd)/\w.cell? ⟨g,12,MH⟩=MI (MF ME c.bb)/\w.cell? ⟨g,13,MH⟩=MI (MF ME c.wn)/\w.cell? ⟨g,14,MH⟩=MI (MF ME c.wf)/\w.cell? ⟨g,15,MH⟩=MI (MF ME c.wh)/\g<w.heap.size :=
 ⟨by simp[Nl,h],by simp[Nl,h],by simp[Nl,h],by simp[Nl,h],by simp[Nl,h],by simp[Nl,h],by simp[Nl,h],by simp[Nl,h],by simp[Nl,h],by simp[Nl,h],by simp[Nl,h],by simp[Nl,h],by simp[Nl,h],by simp[Nl,h],by simp[Nl,h],by simp[Nl,h],(Array.getElem?_eq_some_iff.1 h).1⟩
theorem pg(n:Int)(w:MO):Ni MK 84 #[MF ME n] w fun r w'=>r=MN (M3 (Nn (1<=n/\n<=500)))/\w'=w:=by
 have H:M6 _:=gz n 1 500 w;go_enter Tryz.func84,Tryz.ntmps84
 go_wp2_with fail
 refine Nd H.out ?_;rintro r w1 ⟨rfl,rfl⟩;go_wp2;go_ret;exact⟨by show MN (M3 (Nn (1<=n) && Nn (n<=500)))=_;rw[Bool.decide_and],rfl⟩
theorem AF(c:Cf)(w:MO):Ni MK 63 #[sE c] w fun r w'=>r=MN (M3 (Nn (nv c)))/\MQ w.heap.size w w':=by
 obtain⟨ans,hans⟩:∃ans,ans=Nn (nv c):=⟨_,rfl⟩;rw[<-hans];have H:M6 _:=hans;clear hans;obtain⟨W0,hW0⟩:∃W0,W0=w.alloc (qw c):=⟨_,rfl⟩;have hb0:MQ w.heap.size w W0:=by rw[hW0];exact ai w
 have hR0:W0.heap[w.heap.size]?=MI (qw c):=by rw[hW0];exact M1 _ _
 obtain⟨k0,k1,k2,k3,k4,k5,k6,k7,k8,k9,k10,k11,k12,k13,k14,k15,klt⟩:=sa hR0;have HV:M6 (_/\_/\_):=⟨hb0,hR0,hW0⟩;clear hb0 hR0 hW0;go_enter Tryz.func63,Tryz.ntmps63
 go_wp2_with fail
 rw[<-HV.out.2.2];refine(gz c.flows 1 40 _).mono ?_;rintro r w1 ⟨rfl,rfl⟩
 by_cases t0:1<=c.flows/\c.flows<=40
 rotate_left
 ·rw[M0 t0]
  go_wp2;go_ret;exact⟨by rw[H.out,M0 (fun h=>t0 h.1)];rfl,HV.out.1⟩
 rw[Nq t0]
 go_wp2_with fail
 refine(gz c.den 1 c.num _).mono ?_;rintro r w1 ⟨rfl,rfl⟩
 by_cases t1:1<=c.den/\c.den<=c.num
 rotate_left
 ·rw[M0 t1]
  go_wp2;go_ret;exact⟨by rw[H.out,M0 (fun h=>t1 h.2.1)];rfl,HV.out.1⟩
 rw[Nq t1]
 by_cases t2:c.num<=20
 rotate_left
 ·have td2:Nn (c.num<=20)=false:=M0 t2
  have HT:M6 (¬(c.num<=20)):=t2;go_wp2;go_ret;exact⟨by rw[H.out,M0 (fun h=>by have:=h.2.2.1;omega)];rfl,HV.out.1⟩
 have td2:Nn (c.num<=20)=true:=Nq t2
 go_wp2_with fail
 refine(gz c.tries 0 12 _).mono ?_;rintro r w1 ⟨rfl,rfl⟩
 by_cases t3:0<=c.tries/\c.tries<=12
 rotate_left
 ·rw[M0 t3]
  go_wp2;go_ret;exact⟨by rw[H.out,M0 (fun h=>t3 h.2.2.2.1)];rfl,HV.out.1⟩
 rw[Nq t3]
 go_wp2_with fail
 refine(gz c.warm 0 500 _).mono ?_;rintro r w1 ⟨rfl,rfl⟩
 by_cases t4:0<=c.warm/\c.warm<=500
 rotate_left
 ·rw[M0 t4]
  go_wp2;go_ret;exact⟨by rw[H.out,M0 (fun h=>t4 h.2.2.2.2.1)];rfl,HV.out.1⟩
 rw[Nq t4]
 go_wp2_with fail
 refine(pg c.drain _).mono ?_;rintro r w1 ⟨rfl,rfl⟩
 by_cases t5:1<=c.drain/\c.drain<=500
 rotate_left
 ·rw[M0 t5]
  go_wp2;go_ret;exact⟨by rw[H.out,M0 (fun h=>t5 h.2.2.2.2.2.1)];rfl,HV.out.1⟩
 rw[Nq t5]
 go_wp2_with fail
 refine(pg c.idle _).mono ?_;rintro r w1 ⟨rfl,rfl⟩
 by_cases t6:1<=c.idle/\c.idle<=500
 rotate_left
 ·rw[M0 t6]
  go_wp2;go_ret;exact⟨by rw[H.out,M0 (fun h=>t6 h.2.2.2.2.2.2.1)];rfl,HV.out.1⟩
 rw[Nq t6]
 go_wp2_with fail
 refine(pg c.conn _).mono ?_;rintro r w1 ⟨rfl,rfl⟩
 by_cases t7:1<=c.conn/\c.conn<=500
 rotate_left
 ·rw[M0 t7]
  go_wp2;go_ret;exact⟨by rw[H.out,M0 (fun h=>t7 h.2.2.2.2.2.2.2.1)];rfl,HV.out.1⟩
 rw[Nq t7]
 go_wp2_with fail
 refine(gz c.ret 0 20 _).mono ?_;rintro r w1 ⟨rfl,rfl⟩
 by_cases t8:0<=c.ret/\c.ret<=20
 rotate_left
 ·rw[M0 t8]
  go_wp2;go_ret;exact⟨by rw[H.out,M0 (fun h=>t8 h.2.2.2.2.2.2.2.2.1)];rfl,HV.out.1⟩
 rw[Nq t8]
 go_wp2_with fail
 refine(gz c.most 0 100 _).mono ?_;rintro r w1 ⟨rfl,rfl⟩
 by_cases t9:0<=c.most/\c.most<=100
 rotate_left
 ·rw[M0 t9]
  go_wp2;go_ret;exact⟨by rw[H.out,M0 (fun h=>t9 h.2.2.2.2.2.2.2.2.2.1)];rfl,HV.out.1⟩
 rw[Nq t9]
 go_wp2_with fail
 refine(nr c.bn c.bd c.bb _).mono ?_;rintro r w2 ⟨rfl,hb2⟩;have hR2:=af HV.out.2.1 hb2;have HB2:M6 _:=HV.out.1.trans (hb2.mono HV.out.1.size);obtain⟨j0,j1,j2,j3,j4,j5,j6,j7,j8,j9,j10,j11,j12,j13,j14,j15,jlt⟩:=sa hR2;clear hb2 k0 k1 k2 k3 k4 k5 k6 k7 k8 k9 k10 k11 k12 k13 k14 k15 klt
 by_cases tb:dq c.bn c.bd c.bb
 rotate_left
 ·rw[show fF c.bn c.bd c.bb=2 from Nf tb]
  clear hR2;go_wp2;go_ret;exact⟨by rw[H.out,M0 (fun h=>tb h.2.2.2.2.2.2.2.2.2.2.1)];rfl,HB2.out⟩
 rw[show fF c.bn c.bd c.bb=0 from Nh tb];clear hR2
 go_wp2_with fail
 refine(oW c.wn c.wf c.wh _).mono ?_;rintro r w3 ⟨rfl,hb3⟩;have HB3:M6 _:=HB2.out.trans (hb3.mono HB2.out.size);clear hb3 j0 j1 j2 j3 j4 j5 j6 j7 j8 j9 j10 j11 j12 j13 j14 j15 jlt
 by_cases tw:dR c.wn c.wf c.wh
 rotate_left
 ·rw[show fW c.wn c.wf c.wh=2 from Nf tw]
  go_wp2;go_ret;exact⟨by rw[H.out,M0 (fun h=>tw h.2.2.2.2.2.2.2.2.2.2.2)];rfl,HB3.out⟩
 rw[show fW c.wn c.wf c.wh=0 from Nh tw];go_wp2;go_ret;exact⟨by rw[H.out,Nq ⟨t0,t1,t2,t3,t4,t5,t6,t7,t8,t9,tb,tw⟩];rfl,HB3.out⟩
abbrev dD(t:Tm):List Value:=[MF ME t.1,MF ME t.2]
theorem rk(x:Tm):(dD x).length=2:=rfl
theorem oD(x:Tm):∀u∈dD x,u.oneCell'=true:=by
 intro u hu;simp only[OO,OD,or_false]at hu;rcases hu with rfl|rfl <;> rfl
theorem oU:∀l:List Tm,rv dD l=ag l
 | []=>rfl
 |t::l=>by simp only[rv,ag,oU l,List.cons_append,Oz]
theorem pX{w:MO}{l:List Tm}:aO w v l↔bj dD w v l:=by
 unfold aO bj;rw[oU]
 try exact Iff.rfl
theorem qm:(Tryz.prog.info? 187).map (fun i=>(i.zero,i.size,i.bytes))=MI (MI (Ny #[MF ME 0,MF ME 0]),2,16):=by kernel_rfl
section
variable {α:Type}{c:α->List M7}{k:Nat}{t e:NU}{z:M7}{bytes:Nat}
theorem sW(hk:∀x,(c x).length=k)(h1:∀x,∀u∈c x,u.oneCell'=Nw)(hk0:0<k)(ht:Tryz.prog.underlying t=MI (.slice e))(hinfo:(Tryz.prog.info? e).map (fun i=>(i.zero,i.size,i.bytes))=MI (MI z,k,bytes))(hz:z.cells.size=k){w:MO}{p:Option Oc}{n cc:Nat}{m:List α}(ho:w.ownsRow base e k (MG p n cc) n (rv c m))(hb:base<=w.heap.size)
  (ty:NU) (u:M7) (l:List α) (hu:bj c w u l) (hl:(n+l.length)*bytes<=140737488355328) (hl2:n+l.length<=NE) :
  ∃p' c' w',(N2 #[t,t] ty #[MG p n cc,u]).run MK w=.ok (MG p' (n+l.length) c') w'/\w'.ownsRow base e k (MG p' (n+l.length) c') (n+l.length) (rv c (m++l))/\MQ base w w':=by
 by_cases h0:l.length=0
 ·obtain rfl:l=[]:=List.length_eq_zero_iff.1 h0
  obtain⟨i0,hi,_⟩:=OF hinfo;obtain⟨a,cap,rfl,_,_,_⟩:=hu;have hkc:n<=cc/\cc<=maxLen:=by
   rcases ho.2 with⟨he,h2⟩|⟨g,cap,cur,he,_,_,h5,h6,_⟩
   ·cases he;exact⟨MV _,by unfold NE;omega⟩
   ·cases he;exact⟨h5,h6⟩
  exact⟨p,cc,w,kR w _ ty _ i0 ht hi p n cc hkc.1 hkc.2 a cap,by rw[OG];exact ho,MY _ _⟩
 ·obtain⟨g,c',w',hr,ho',hg,_⟩:=pL hk h1 hk0 ht hinfo hz ho hb ty u l hu (by omega) hl hl2
  exact⟨_,_,_,hr,ho',(MY _ _).grown hg hb (fun j e=>(ho.lt j e).1)⟩
theorem kL(hk:∀x,(c x).length=k)(h1:∀x,∀u∈c x,u.oneCell'=Nw)(hk0:0<k)(ht:Tryz.prog.underlying t=MI (.slice e))(hinfo:(Tryz.prog.info? e).map (fun i=>(i.zero,i.size,i.bytes))=MI (MI z,k,bytes))(hz:z.cells.size=k){w:MO}(ty:NU)(u:M7)(l:List α)(hu:bj c w u l)(hl:l.length*bytes<=140737488355328)(hl2:l.length<=NE) :
  ∃p' c' w',(N2 #[t,t] ty #[MG (MI ⟨w.heap.size,0,MH⟩) 0 0,u]).run MK (w.alloc (MP #[] e))=.ok (MG p' l.length c') w'/\w'.ownsRow w.heap.size e k (MG p' l.length c') l.length (rv c l)/\MQ w.heap.size w w':=by
 have hown:(w.alloc (MP #[] e)).ownsRow w.heap.size e k (MG (MI ⟨w.heap.size,0,MH⟩) 0 0) 0 (rv c []):=
  ⟨by simp[rv],NF ⟨w.heap.size,0,#[],rfl,MV _,M1 _ _,MV _,Nx _,by simp,by simp[rv]⟩⟩
 obtain⟨p',c',w',hr,ho,hb⟩:=sW hk h1 hk0 ht hinfo hz hown (by simp) ty u l (bj.below hu (ai w)) (by rw[Oa];exact hl) (by rw[Oa];exact hl2);rw[Oa]at hr ho;rw[Oz]at ho;exact⟨p',c',w',hr,ho,(ai w).trans hb⟩
end
theorem xJ(n:Nat)(w:MO)(hn:n<=1000) :
  Ni MK 199 #[MG MH 0 0,MF ME n] w fun r w'=>∃p c,r=MN (MG p 0 c)/\w'.ownsRow w.heap.size 187 2 (MG p 0 c) 0 (rv dD [])/\MQ w.heap.size w w':=by
 by_cases h0:n=0
 ·subst h0
  go_enter Ui,T8;go_wp2;go_ret;exact⟨MH,0,rfl,NY _ _ _ _,MY _ _⟩
 obtain⟨i0,hi,hz0,hz1,hz2⟩:=OF qm;have hrz:∀ty,(N2 #[184,3] ty #[MG MH 0 0,MF ME n]).run MK w=.ok (MG (MI ⟨w.heap.size,0,MH⟩) n (QR w n 0 187)) (w.drew.alloc (MP (([]:List M7).toArray++N5 (Ny #[MF ME 0,MF ME 0]).cells n++N5 (Ny #[MF ME 0,MF ME 0]).cells (QR w n 0 187-n)) 187)):=fun ty=>by
  have h:=Lib.run_append_grow_zeros (P:=MK) w 184 3 ty 187 i0 (Ny #[MF ME 0,MF ME 0]) ME ME U0 Ol hi hz0 MH 0 0 [] (run_firstCells_none w.drew i0.size 0 0 0) n (by omega) (by omega) (by omega) (by omega) (by rw[hz2];omega) (growslice_fits (by omega) (by rw[hz2];omega))
  simpa using h
 have hG:=grownCap_ge w n 0 187;have hG2:=grownCap_le_maxLen w n 0 187 (by unfold NE;omega);obtain⟨G,hGe⟩:∃G,G=QR w n 0 187:=⟨_,rfl⟩;rw[<-hGe]at hrz hG hG2;obtain⟨cs,hcs⟩:∃cs,cs=([]:List M7).toArray++N5 (Ny #[MF ME 0,MF ME 0]).cells n++N5 (Ny #[MF ME 0,MF ME 0]).cells (G-n):=⟨_,rfl⟩;have hsz:cs.size=G*2:=by rw[hcs];simp[size_zeroCells,Value.cells];omega
 rw[<-hcs]at hrz;have hown:(w.drew.alloc (MP cs 187)).ownsRow w.heap.size 187 2 (MG (MI ⟨w.heap.size,0,MH⟩) 0 G) 0 (rv dD []):=
  ⟨rfl,NF ⟨w.heap.size,G,cs,rfl,MV _,M1 w.drew _,Nx _,hG2,hsz,by simp[rv]⟩⟩
 have hbel:MQ w.heap.size w (w.drew.alloc (MP cs 187)):=((MY _ _).drew).alloc (MV _) _;have HQ:M6 (_/\_):=⟨hown,hbel⟩;have h1:¬((n:Int)<0):=by omega
 have h2:(0:Int)<(n:Int):=by omega
 unfold NE at hG2;clear hown hbel hsz hcs hGe hi hz0 hz1 hz2 h0;go_enter Ui,T8
 go_wp2_with (at_builtin;refine Lib.wpList_append_run _ rfl _ _ _ _ rfl _ _ rfl rfl _ _ (hrz _) ?_)
 all_goals (go_ret;exact⟨_,_,rfl,HQ.out.1,HQ.out.2⟩)
theorem mp{ls:List (List Tm)}{k:Nat}(hk:k<ls.length):(ls.take (k+1)).flatten=(ls.take k).flatten++ls[k]:=by
 rw[M9 hk,PV];simp
theorem o6{ls:List (List Tm)}(k:Nat):(ls.take k).flatten.length<=ls.flatten.length:=by
 conv=>rhs;rw[<-Oo k ls,PV,Ns]
 omega
theorem xj(v:M7)(ls:List (List Tm))(w:MO)(hv:dh w v ls)(N:Nat)(hN:N=ls.flatten.length)(hl:N<=200)(hls:ls.length<=100) :
  Ni MK 152 #[v] w fun r w'=>∃p c,r=MN (MG p N c)/\aO w' (MG p N c) ls.flatten/\MQ w.heap.size w w':=by
 have HN0:M6 _:=hN;rw[hN]at hl;clear hN;obtain⟨vs,hrow,heach⟩:=hv;obtain⟨a,cap,rfl,hc,hm,hr⟩:=hrow;unfold NE at hm;have hcell:∀k (hk:k<ls.length),∃b off pk ck,a=MI ⟨b,off,MH⟩/\b<w.heap.size/\w.cell? ⟨b,off+k,MH⟩=MI (MG pk ls[k].length ck)/\aO w (MG pk ls[k].length ck) ls[k]:=by
  intro k hk;have hkv:k<vs.length:=by rw[heach.1];exact hk
  have htm:=heach.2 k hkv hk;obtain⟨pk,ck,hvk,_,_,_⟩:=htm.F6;rw[hvk]at htm;rcases hr with⟨h0,_⟩|⟨b,off,h1,h2,h3⟩
  ·omega
  ·exact⟨b,off,pk,ck,h1,h2,by rw[h3 k hkv,MR hkv,hvk],htm⟩
 have HV:M6 (_/\_):=⟨hcell,hl⟩;obtain⟨m,hm0⟩:∃m,m=ls.length:=⟨_,rfl⟩;rw[<-hm0]at hc hls⊢;have HM:M6 _:=hm0;clear hr hcell heach hm0;have G:M6 (∀n:Nat,n<=1000->∀W:MO,Ni MK 199 #[MG MH 0 0,MF ME (n:Int)] W fun r w'=>∃p c,r=MN (MG p 0 c)/\w'.ownsRow W.heap.size 187 2 (MG p 0 c) 0 (rv dD [])/\MQ W.heap.size W w'):=fun n hn W=>xJ n W hn
 go_enter Tryz.func152,Tryz.ntmps152;go_wp2
 go_loopw [3,11] (fun s i wr=>∃(k n:Nat),w=wr/\i=MF ME (k:Int)/\s=MF ME (n:Int)/\k<=m/\n<=200/\M6 (n=(ls.take k).flatten.length)) (fun _ i _=>m-(intOf i).toNat)
 case atStart=>exact⟨0,0,rfl,rfl,rfl,Nx _,by omega,by simp[M6]⟩
 case round =>
  obtain⟨k,n,rfl,rfl,rfl,hk,hn,HN⟩:=hrel
  by_cases hlt:k<m
  ·have hkI:(k:Int)<(m:Int):=by omega
   have hlt':k<ls.length:=by rw[<-HM.out];exact hlt
   obtain⟨b,off,pk,ck,hpa,hb,hcl,htm⟩:=HV.out.1 k hlt';obtain⟨nk,hnk⟩:∃nk,nk=(ls[k]).length:=⟨_,rfl⟩;rw[<-hnk]at hcl;have hfl:(ls.take (k+1)).flatten.length=n+nk:=by rw[mp hlt',Ns,<-HN.out,hnk]
   have hle:n+nk<=200:=by rw[<-hfl];exact Nm (o6 _) HV.out.2
   have HF:M6 _:=hfl;have hneg:¬((n:Int)+(nk:Int)<0):=by omega
   clear hfl hnk htm;subst hpa;go_wp2
   go_roundw
   case rel=>exact⟨k+1,n+nk,by simp,by simp,by simp,hlt,hle,HF.out.symm⟩
   case measure=>simp[intOf];omega
  ·obtain rfl:k=m:=by omega
   have hkI:¬(k:Int)<(k:Int):=by omega
   have HT:M6 (n=ls.flatten.length):=by
    have:=HN.out;rw[HM.out,NT]at this;exact this
   go_wp2_with fail
   refine(G.out n (by omega) _).mono ?_;rintro r w1 ⟨p1,c1,rfl,ho,hb1⟩;have HW:M6 (_/\_):=⟨ho,hb1⟩;clear ho hb1;go_wp2
   go_loopw [6,27] (fun s i wr=>∃(j q:Nat) (p:Option Oc) (c:Nat),i=MF ME (j:Int)/\s=MG p q c/\j<=k/\M6 (q=(ls.take j).flatten.length/\wr.ownsRow w.heap.size 187 2 (MG p q c) q (rv dD (ls.take j).flatten)/\MQ w.heap.size w wr)) (fun _ i _=>k-(intOf i).toNat)
   case atStart=>exact⟨0,0,p1,c1,rfl,rfl,Nx _,by simp,by rw[List.take_zero];exact HW.out.1,HW.out.2⟩
   case round =>
    obtain⟨j,q,p,c,rfl,rfl,hj,HJ⟩:=hrel
    by_cases hlt:j<k
    ·have hjI:(j:Int)<(k:Int):=by omega
     have hlt':j<ls.length:=by rw[<-HM.out];exact hlt
     obtain⟨b,off,pk,ck,hpa,hb,hcl,htm⟩:=HV.out.1 j hlt';have hcl':=(HJ.out.2.2.cell (p:=⟨b,off+j,MH⟩) hb).trans hcl;obtain⟨nk,hnk⟩:∃nk,nk=(ls[j]).length:=⟨_,rfl⟩;have hfl:(ls.take (j+1)).flatten.length=q+nk:=by rw[mp hlt',Ns,<-HJ.out.1,hnk]
     have hle:q+nk<=200:=by rw[<-hfl];exact Nm (o6 _) HV.out.2
     obtain⟨p',c',w5,hr5,ho5,hb5⟩:=sW rk oD (by decide) U0 qm rfl HJ.out.2.1 HJ.out.2.2.size 184 _ ls[j] (pX.1 (htm.below HJ.out.2.2)) (by rw[<-hnk];omega) (by rw[<-hnk];unfold NE;omega);rw[<-hnk]at hr5 ho5 hcl';rw[<-mp hlt']at ho5;have HQ:M6 (_/\_/\_/\_):=⟨hr5,ho5,HJ.out.2.2.trans hb5,hfl⟩;have hbw:b<wr.heap.size:=M8 hb HJ.out.2.2.size;clear hfl hnk htm hr5 ho5 hb5 hcl hb;subst hpa
     go_wp2_with (at_builtin;(with_reducible refine d7 rfl _ _ 184 rfl (MG p q c) (MG pk nk ck) (MG p' (q+nk) c') w5 ?hs ?hx ?hr ?_);(case hs=>rfl);(case hx=>rfl);(case hr=>exact HQ.out.1))
     go_wp2
     go_roundw
     case rel=>exact⟨j+1,q+nk,p',c',by simp,rfl,hlt,HQ.out.2.2.2.symm,HQ.out.2.1,HQ.out.2.2.1⟩
     case measure=>simp[intOf];omega
    ·obtain rfl:j=k:=by omega
     have hjI:¬(j:Int)<(j:Int):=by omega
     have hq:=HJ.out.1;have ho:=HJ.out.2.1;rw[HM.out,NT]at hq ho;have hqN:q=N:=hq.trans HN0.out.symm;have hrv:=gZ (c:=dD) (l:=ls.flatten) (k:=2) (v:=MG p q c) (w:=wr) (base:=w.heap.size) (e:=187) (by rw[<-hq];exact ho);rw[hqN]at hrv;rw[hqN];have HE:M6 (_/\_):=⟨pX.2 hrv,HJ.out.2.2⟩;clear hq ho hqN hrv;go_wp2;go_ret;exact⟨p,c,rfl,HE.out.1,HE.out.2⟩
abbrev iQ(t:FX):List Value:=[MF ME t.1,M3 t.2.1,MF ME t.2.2.1,MF ME t.2.2.2]
theorem ya(x:FX):(iQ x).length=4:=rfl
theorem BI(x:FX):∀u∈iQ x,u.oneCell'=true:=by
 intro u hu;simp only[OO,OD,or_false]at hu;rcases hu with rfl|rfl|rfl|rfl <;> rfl
theorem nT:∀l:List FX,rv iQ l=aW l
 | []=>rfl
 |t::l=>by
  have:=nT l;simp only[rv,this];rfl
theorem ox:∀l:List Tm,rv dD l=ag l
 | []=>rfl
 |t::l=>by
  have:=ox l;simp only[rv,this];rfl
abbrev Sc:=Option Oc×Nat×Nat
abbrev fe(x:Sc):List Value:=[MG x.1 x.2.1 x.2.2]
theorem iz(x:Sc):(fe x).length=1:=rfl
theorem AM(x:Sc):∀u∈fe x,u.oneCell'=true:=by
 intro u hu;simp only[OO,OD,or_false]at hu;subst hu;rfl
theorem AB:(Tryz.prog.info? 174).map (fun i=>(i.zero,i.size,i.bytes))=MI (MI (Ny #[MF ME 0,M3 Nb,MF ME 0,MF ME 0]),4,32):=by kernel_rfl
theorem zR:(Tryz.prog.info? 109).map (fun i=>(i.zero,i.size,i.bytes))=MI (MI (Ny #[MF ME 0,MF ME 0]),2,16):=by kernel_rfl
theorem yo:(Tryz.prog.info? 94).map (fun i=>(i.zero,i.size,i.bytes))=MI (MI (Ny #[MG MH 0 0,M3 Nb,MF ME 0,MF ME 0]),4,48):=by kernel_rfl
theorem EU:(Tryz.prog.info? 184).map (fun i=>(i.zero,i.size,i.bytes))=MI (MI (MG MH 0 0),1,24):=by kernel_rfl
theorem AL(v:M7)(l:List FX)(w:MO)(hv:bj iQ w v l)(hl:l.length<=1000) :
  Ni MK 96 #[v] w fun r w'=>∃p c,r=MN (MG p l.length c)/\w'.ownsRow w.heap.size 174 4 (MG p l.length c) l.length (rv iQ l)/\MQ w.heap.size w w':=by
 obtain⟨p,c,rfl,hc,hm⟩:=bj.Ga hv;cases p with
 |none =>
  obtain rfl:l=[]:=by
   obtain⟨a,cap,he,_,_,h|⟨b,off,rfl,_⟩⟩:=hv
   ·exact List.length_eq_zero_iff.1 h.1
   ·cases he
  clear hv;have hnil:∀W,(binOp .eql 36 (MG MH 0 c) (MG MH 0 0)).run MK W=.ok (M3 Nw) W:=fun W=>by kernel_rfl
  go_enter UY,UV;go_wp2;go_ret;exact⟨MH,0,rfl,NY _ _ _ _,MY _ _⟩
 |some q =>
  have hnil:∀W,(binOp .eql 36 (MG (MI q) l.length c) (MG MH 0 0)).run MK W=.ok (M3 Nb) W:=fun W=>by kernel_rfl
  obtain⟨p',c',w4,hr,ho,hb4⟩:=kL ya BI (by decide) RC AB rfl 36 _ l hv (by omega) (by unfold NE;omega);have HQ:M6 (_/\_/\_):=⟨hr,hb4,ho⟩;clear hr hb4 ho hv;go_enter UY,UV
  go_wp2_with (at_builtin;(with_reducible refine d7 rfl _ _ 36 rfl (MG (MI ⟨w.heap.size,0,MH⟩) 0 0) (MG (MI q) l.length c) (MG p' l.length c') w4 ?hs ?hx ?hr ?_);(case hs=>rfl);(case hx=>rfl);(case hr=>exact HQ.out.1))
  go_wp2;go_ret;exact⟨_,_,rfl,HQ.out.2.2,HQ.out.2.1⟩
theorem Fc(v:M7)(l:List Fl)(w:MO)(hv:bj ap w v l)(hl:l.length<=1000) :
  Ni MK 97 #[v] w fun r w'=>∃p c,r=MN (MG p l.length c)/\w'.ownsRow w.heap.size 99 7 (MG p l.length c) l.length (rv ap l)/\MQ w.heap.size w w':=by
 obtain⟨p,c,rfl,hc,hm⟩:=bj.Ga hv;cases p with
 |none =>
  obtain rfl:l=[]:=by
   obtain⟨a,cap,he,_,_,h|⟨b,off,rfl,_⟩⟩:=hv
   ·exact List.length_eq_zero_iff.1 h.1
   ·cases he
  clear hv;have hnil:∀W,(binOp .eql 39 (MG MH 0 c) (MG MH 0 0)).run MK W=.ok (M3 Nw) W:=fun W=>by kernel_rfl
  go_enter Tryz.func97,Tryz.ntmps97;go_wp2;go_ret;exact⟨MH,0,rfl,NY _ _ _ _,MY _ _⟩
 |some q =>
  have hnil:∀W,(binOp .eql 39 (MG (MI q) l.length c) (MG MH 0 0)).run MK W=.ok (M3 Nb) W:=fun W=>by kernel_rfl
  obtain⟨p',c',w4,hr,ho,hb4⟩:=kL ba jh (by decide) Qu kt rfl 39 _ l hv (by omega) (by unfold NE;omega);have HQ:M6 (_/\_/\_):=⟨hr,hb4,ho⟩;clear hr hb4 ho hv;go_enter Tryz.func97,Tryz.ntmps97
  go_wp2_with (at_builtin;(with_reducible refine d7 rfl _ _ 39 rfl (MG (MI ⟨w.heap.size,0,MH⟩) 0 0) (MG (MI q) l.length c) (MG p' l.length c') w4 ?hs ?hx ?hr ?_);(case hs=>rfl);(case hx=>rfl);(case hr=>exact HQ.out.1))
  go_wp2;go_ret;exact⟨_,_,rfl,HQ.out.2.2,HQ.out.2.1⟩
theorem B5(v:M7)(l:List Tm)(w:MO)(hv:bj dD w v l)(hl:l.length<=1000) :
  Ni MK 100 #[v] w fun r w'=>∃p c,r=MN (MG p l.length c)/\w'.ownsRow w.heap.size 109 2 (MG p l.length c) l.length (rv dD l)/\MQ w.heap.size w w':=by
 obtain⟨p,c,rfl,hc,hm⟩:=bj.Ga hv;cases p with
 |none =>
  obtain rfl:l=[]:=by
   obtain⟨a,cap,he,_,_,h|⟨b,off,rfl,_⟩⟩:=hv
   ·exact List.length_eq_zero_iff.1 h.1
   ·cases he
  clear hv;have hnil:∀W,(binOp .eql 44 (MG MH 0 c) (MG MH 0 0)).run MK W=.ok (M3 Nw) W:=fun W=>by kernel_rfl
  go_enter Tryz.func100,Tryz.ntmps100;go_wp2;go_ret;exact⟨MH,0,rfl,NY _ _ _ _,MY _ _⟩
 |some q =>
  have hnil:∀W,(binOp .eql 44 (MG (MI q) l.length c) (MG MH 0 0)).run MK W=.ok (M3 Nb) W:=fun W=>by kernel_rfl
  obtain⟨p',c',w4,hr,ho,hb4⟩:=kL rk oD (by decide) RA zR rfl 44 _ l hv (by omega) (by unfold NE;omega);have HQ:M6 (_/\_/\_):=⟨hr,hb4,ho⟩;clear hr hb4 ho hv;go_enter Tryz.func100,Tryz.ntmps100
  go_wp2_with (at_builtin;(with_reducible refine d7 rfl _ _ 44 rfl (MG (MI ⟨w.heap.size,0,MH⟩) 0 0) (MG (MI q) l.length c) (MG p' l.length c') w4 ?hs ?hx ?hr ?_);(case hs=>rfl);(case hx=>rfl);(case hr=>exact HQ.out.1))
  go_wp2;go_ret;exact⟨_,_,rfl,HQ.out.2.2,HQ.out.2.1⟩
theorem Df(v:M7)(l:List (Mk×He))(w:MO)(hv:bj fD w v l)(hl:l.length<=1000) :
  Ni MK 101 #[v] w fun r w'=>∃p c,r=MN (MG p l.length c)/\w'.ownsRow w.heap.size 94 4 (MG p l.length c) l.length (rv fD l)/\MQ w.heap.size w w':=by
 obtain⟨p,c,rfl,hc,hm⟩:=bj.Ga hv;cases p with
 |none =>
  obtain rfl:l=[]:=by
   obtain⟨a,cap,he,_,_,h|⟨b,off,rfl,_⟩⟩:=hv
   ·exact List.length_eq_zero_iff.1 h.1
   ·cases he
  clear hv;have hnil:∀W,(binOp .eql 47 (MG MH 0 c) (MG MH 0 0)).run MK W=.ok (M3 Nw) W:=fun W=>by kernel_rfl
  go_enter QB,Qo;go_wp2;go_ret;exact⟨MH,0,rfl,NY _ _ _ _,MY _ _⟩
 |some q =>
  have hnil:∀W,(binOp .eql 47 (MG (MI q) l.length c) (MG MH 0 0)).run MK W=.ok (M3 Nb) W:=fun W=>by kernel_rfl
  obtain⟨p',c',w4,hr,ho,hb4⟩:=kL ii yd (by decide) Tryz.underlying47 yo rfl 47 _ l hv (by omega) (by unfold NE;omega);have HQ:M6 (_/\_/\_):=⟨hr,hb4,ho⟩;clear hr hb4 ho hv;go_enter QB,Qo
  go_wp2_with (at_builtin;(with_reducible refine d7 rfl _ _ 47 rfl (MG (MI ⟨w.heap.size,0,MH⟩) 0 0) (MG (MI q) l.length c) (MG p' l.length c') w4 ?hs ?hx ?hr ?_);(case hs=>rfl);(case hx=>rfl);(case hr=>exact HQ.out.1))
  go_wp2;go_ret;exact⟨_,_,rfl,HQ.out.2.2,HQ.out.2.1⟩
theorem DE(v:M7)(l:List Sc)(w:MO)(hv:bj fe w v l)(hl:l.length<=1000) :
  Ni MK 103 #[v] w fun r w'=>∃p c,r=MN (MG p l.length c)/\w'.ownsRow w.heap.size 184 1 (MG p l.length c) l.length (rv fe l)/\MQ w.heap.size w w':=by
 obtain⟨p,c,rfl,hc,hm⟩:=bj.Ga hv;cases p with
 |none =>
  obtain rfl:l=[]:=by
   obtain⟨a,cap,he,_,_,h|⟨b,off,rfl,_⟩⟩:=hv
   ·exact List.length_eq_zero_iff.1 h.1
   ·cases he
  clear hv;have hnil:∀W,(binOp .eql 50 (MG MH 0 c) (MG MH 0 0)).run MK W=.ok (M3 Nw) W:=fun W=>by kernel_rfl
  go_enter R3,RP;go_wp2;go_ret;exact⟨MH,0,rfl,NY _ _ _ _,MY _ _⟩
 |some q =>
  have hnil:∀W,(binOp .eql 50 (MG (MI q) l.length c) (MG MH 0 0)).run MK W=.ok (M3 Nb) W:=fun W=>by kernel_rfl
  obtain⟨p',c',w4,hr,ho,hb4⟩:=kL iz AM (by decide) Tryz.underlying50 EU rfl 50 _ l hv (by omega) (by unfold NE;omega);have HQ:M6 (_/\_/\_):=⟨hr,hb4,ho⟩;clear hr hb4 ho hv;go_enter R3,RP
  go_wp2_with (at_builtin;(with_reducible refine d7 rfl _ _ 50 rfl (MG (MI ⟨w.heap.size,0,MH⟩) 0 0) (MG (MI q) l.length c) (MG p' l.length c') w4 ?hs ?hx ?hr ?_);(case hs=>rfl);(case hx=>rfl);(case hr=>exact HQ.out.1))
  go_wp2;go_ret;exact⟨_,_,rfl,HQ.out.2.2,HQ.out.2.1⟩
theorem xl(v:M7)(l:List Tm)(w:MO)(hv:bj dD w v l)(hl:l.length<=1000) :
  Ni MK 104 #[v] w fun r w'=>∃p c,r=MN (MG p l.length c)/\w'.ownsRow w.heap.size 187 2 (MG p l.length c) l.length (rv dD l)/\MQ w.heap.size w w':=by
 obtain⟨p,c,rfl,hc,hm⟩:=bj.Ga hv;cases p with
 |none =>
  obtain rfl:l=[]:=by
   obtain⟨a,cap,he,_,_,h|⟨b,off,rfl,_⟩⟩:=hv
   ·exact List.length_eq_zero_iff.1 h.1
   ·cases he
  clear hv;have hnil:∀W,(binOp .eql 184 (MG MH 0 c) (MG MH 0 0)).run MK W=.ok (M3 Nw) W:=fun W=>by kernel_rfl
  go_enter Tryz.func104,Tryz.ntmps104;go_wp2;go_ret;exact⟨MH,0,rfl,NY _ _ _ _,MY _ _⟩
 |some q =>
  have hnil:∀W,(binOp .eql 184 (MG (MI q) l.length c) (MG MH 0 0)).run MK W=.ok (M3 Nb) W:=fun W=>by kernel_rfl
  obtain⟨p',c',w4,hr,ho,hb4⟩:=kL rk oD (by decide) U0 qm rfl 184 _ l hv (by omega) (by unfold NE;omega);have HQ:M6 (_/\_/\_):=⟨hr,hb4,ho⟩;clear hr hb4 ho hv;go_enter Tryz.func104,Tryz.ntmps104
  go_wp2_with (at_builtin;(with_reducible refine d7 rfl _ _ 184 rfl (MG (MI ⟨w.heap.size,0,MH⟩) 0 0) (MG (MI q) l.length c) (MG p' l.length c') w4 ?hs ?hx ?hr ?_);(case hs=>rfl);(case hx=>rfl);(case hr=>exact HQ.out.1))
  go_wp2;go_ret;exact⟨_,_,rfl,HQ.out.2.2,HQ.out.2.1⟩
structure Og(w0 w:MO)(g:Nat)(U:Us)(G:Gt):Prop where
 box:w.heap[g]?=MI (MP (lR U G) 145 (0,0))
 bel:MQ w0.heap.size w0 w
 low:w0.heap.size<=g
structure Rw(w:MO)(lo hi:Nat)(e:NU)(k:Nat)(p:Option Oc)(n c:Nat)(xs:List M7):Prop where
 own:w.ownsRow lo e k (MG p n c) n xs
 up:∀b,p.map (·.block)=MI b->b<hi
section
variable {base:Nat}{w0 w w':MO}{g:Nat}{V:Vs}{U:Us}{G:Gt}
theorem Og.lt(h:Og w0 w g U G):g<w.heap.size:=(Array.getElem?_eq_some_iff.1 h.box).1
theorem Og.fz(h:Og w0 w g U G)(k:Nat):w.frozen? ⟨g,k,MH⟩=false:=by simp[Ng,h.box]
theorem Og.Gs(h:Og w0 w g U G):w.cell? ⟨g,17,MH⟩=MI (MG U.pt G.tab.length U.ct):=by rw[MW w g 17 _ _ (0,0) h.box];rfl
theorem Og.Gr(h:Og w0 w g U G):w.cell? ⟨g,18,MH⟩=MI (MG U.pf G.fls.length U.cf):=by rw[MW w g 18 _ _ (0,0) h.box];rfl
theorem Og.Gn(h:Og w0 w g U G):w.cell? ⟨g,19,MH⟩=MI (MG U.pl G.liv.length U.cl):=by rw[MW w g 19 _ _ (0,0) h.box];rfl
theorem Og.GD(h:Og w0 w g U G):w.cell? ⟨g,20,MH⟩=MI (MG U.pr G.req.length U.cr):=by rw[MW w g 20 _ _ (0,0) h.box];rfl
theorem Og.GX(h:Og w0 w g U G):w.cell? ⟨g,21,MH⟩=MI (MG U.ps (ao G.wts).length U.cs):=by rw[MW w g 21 _ _ (0,0) h.box];rfl
theorem Og.GI(h:Og w0 w g U G):w.cell? ⟨g,22,MH⟩=MI (MG U.ph 12 U.ch):=by rw[MW w g 22 _ _ (0,0) h.box];rfl
theorem Og.below(h:Og w0 w g U G)(hb:MQ w.heap.size w w'):Og w0 w' g U G:=⟨af h.box hb,h.bel.trans (hb.mono h.bel.size),h.low⟩
theorem Og.Ix(h:Og w0 w g U G)(p:Option Oc)(c:Nat):Og w0 (w.setCell ⟨g,17,MH⟩ (MG p G.tab.length c)) g {U with pt:=p,ct:=c} G:=⟨cP h.box rfl,h.bel.setCell h.low _,h.low⟩
theorem Og.IU(h:Og w0 w g U G)(p:Option Oc)(c:Nat):Og w0 (w.setCell ⟨g,18,MH⟩ (MG p G.fls.length c)) g {U with pf:=p,cf:=c} G:=⟨cP h.box rfl,h.bel.setCell h.low _,h.low⟩
theorem Og.I3(h:Og w0 w g U G)(p:Option Oc)(c:Nat):Og w0 (w.setCell ⟨g,19,MH⟩ (MG p G.liv.length c)) g {U with pl:=p,cl:=c} G:=⟨cP h.box rfl,h.bel.setCell h.low _,h.low⟩
theorem Og.Ju(h:Og w0 w g U G)(p:Option Oc)(c:Nat):Og w0 (w.setCell ⟨g,20,MH⟩ (MG p G.req.length c)) g {U with pr:=p,cr:=c} G:=⟨cP h.box rfl,h.bel.setCell h.low _,h.low⟩
theorem Og.IJ(h:Og w0 w g U G)(p:Option Oc)(c:Nat):Og w0 (w.setCell ⟨g,21,MH⟩ (MG p (ao G.wts).length c)) g {U with ps:=p,cs:=c} G:=⟨cP h.box rfl,h.bel.setCell h.low _,h.low⟩
theorem Og.IY(h:Og w0 w g U G)(p:Option Oc)(c:Nat):Og w0 (w.setCell ⟨g,22,MH⟩ (MG p 12 c)) g {U with ph:=p,ch:=c} G:=⟨cP h.box rfl,h.bel.setCell h.low _,h.low⟩
theorem Og.Ih(h:Og w0 w g U G)(p:Option Oc)(c:Nat):Og w0 (w.setCell ⟨g,25,MH⟩ (MG p 25 c)) g {U with pw:=p,cw:=c} G:=⟨cP h.box rfl,h.bel.setCell h.low _,h.low⟩
theorem Og.GH(h:Og w0 w g U G):w.cell? ⟨g,25,MH⟩=MI (MG U.pw 25 U.cw):=by rw[MW w g 25 _ _ (0,0) h.box];rfl
variable {lo hi k n c:Nat}{e:NU}{p:Option Oc}{xs:List M7}
theorem kH{w1:MO}(hg:g<w.heap.size)(hs:w.heap.size<=w1.heap.size)(ho:w1.ownsRow w.heap.size e k (MG p n c) n xs)(j:Nat)(v:M7):Rw (w1.setCell ⟨g,j,MH⟩ v) w.heap.size (w1.setCell ⟨g,j,MH⟩ v).heap.size e k p n c xs :=
 ⟨aw ho fun b hb=>MU _ _ _ _ (fun e'=>by have:=(ho.lt b hb).1;have e':b=g:=e';omega),fun b hb=>by
  have:=(ho.lt b (by rw[cS];exact hb)).2
  simpa using this⟩
theorem Rw.step(h:Rw w lo hi e k p n c xs){w1:MO}(hb:MQ w.heap.size w w1)(hg:g<lo)(j:Nat)(v:M7):Rw (w1.setCell ⟨g,j,MH⟩ v) lo hi e k p n c xs :=
 ⟨aw h.own fun b hb'=>by
  rw[MU _ _ _ _ (fun e'=>by have:=(h.own.lt b hb').1;have e':b=g:=e';omega)];exact hb.block b (h.own.lt b hb').2,h.up⟩
theorem Rw.Gz(h:Rw w lo hi e k p n c xs)(hb:p.map (·.block)=MI b):lo<=b/\b<hi:=⟨(h.own.lt b (by rw[cS];exact hb)).1,h.up b hb⟩
theorem Rw.Gf(h:Rw w lo hi e k p n c xs)(hk:∀b,lo<=b->b<hi->b<w.heap.size->w'.heap[b]?=w.heap[b]?):Rw w' lo hi e k p n c xs :=
 ⟨aw h.own fun b hb=>hk b (h.own.lt b hb).1 (h.up b (by rw[<-cS];exact hb)) (h.own.lt b hb).2,h.up⟩
end
structure aE(w:MO)(s0 s1 s2 s3 s4 s5:Nat)(U:Us)(G:Gt):Prop where
 t1:Rw w s0 s1 174 4 U.pt G.tab.length U.ct (rv iQ G.tab)
 t2:Rw w s1 s2 99 7 U.pf G.fls.length U.cf (rv ap G.fls)
 t3:Rw w s2 s3 91 6 U.pl G.liv.length U.cl (ak az G.liv)
 t4:Rw w s3 s4 179 5 U.pr G.req.length U.cr (ak fY G.req)
 t5:Rw w s4 s5 109 2 U.ps (ao G.wts).length U.cs (rv dD (ao G.wts))
 l1:s0<=s1
 l2:s1<=s2
 l3:s2<=s3
 l4:s3<=s4
 l5:s4<=s5
structure L1(w0 w:MO)(g:Nat)(U:Us)(G:Gt)(s0 s1 s2 s3 s4 s5 s6 bh ch:Nat)(ms0 ms:List Mk)(j:Nat):Prop where
 og:Og w0 w g U G
 five:aE w s0 s1 s2 s3 s4 s5 U G
 hea:w.ownsRow s5 94 4 (MG (MI ⟨bh,0,MH⟩) 12 ch) 12 (rv fD (ms.zip G.hea))
 len:ms.length=12
 hel:G.hea.length=12
 new:∀(i:Nat) (m:Mk) (x:He),i<j->ms[i]?=MI m->G.hea[i]?=MI x->w.ownsRow s6 4 1 (MG m.1 x.marks.length m.2) x.marks.length (bF x.marks)
 old:∀i,j<=i->ms[i]?=ms0[i]?
 gs:g<s0
 bs:bh<s6
 ss:s6<=w.heap.size
structure L2(w0 w:MO)(g:Nat)(U:Us)(G:Gt)(s0 s1 s2 s3 s4 s5 s6 s7 bh ch bw cw:Nat)(ms:List Mk)(xs ys:List Sc)(ls:List (List Tm))(j:Nat):Prop where
 og:Og w0 w g U G
 five:aE w s0 s1 s2 s3 s4 s5 U G
 hea:w.ownsRow s5 94 4 (MG (MI ⟨bh,0,MH⟩) 12 ch) 12 (rv fD (ms.zip G.hea))
 len:ms.length=12
 hel:G.hea.length=12
 mks:∀(i:Nat) (m:Mk) (x:He),ms[i]?=MI m->G.hea[i]?=MI x->Rw w s6 s7 4 1 m.1 x.marks.length m.2 (bF x.marks)
 row:w.ownsRow s7 184 1 (MG (MI ⟨bw,0,MH⟩) 25 cw) 25 (rv fe ys)
 ylen:ys.length=25
 new:∀i (h1:i<ys.length) (h2:i<ls.length),i<j->w.ownsRow (bw+1) 187 2 (MG ys[i].1 ys[i].2.1 ys[i].2.2) ls[i].length (rv dD ls[i])
 old:∀i,j<=i->ys[i]?=xs[i]?
 gs:g<s0
 bs:bh<s6
 ss:s6<=s7
 pw:U.pw=MI ⟨bw,0,MH⟩
 cw:U.cw=cw
section
variable {base:Nat}{w0 w w':MO}{g:Nat}{U:Us}{G:Gt}{s0 s1 s2 s3 s4 s5 s6 s7 bh ch bw cw:Nat}{ms0 ms:List Mk}{xs ys:List Sc}{ls:List (List Tm)}{j:Nat}
theorem aE.Gf(h:aE w s0 s1 s2 s3 s4 s5 U G)(hk:∀b,s0<=b->b<s5->b<w.heap.size->w'.heap[b]?=w.heap[b]?):aE w' s0 s1 s2 s3 s4 s5 U G:=by
 have a1:=h.l1;have a2:=h.l2;have a3:=h.l3;have a4:=h.l4;have a5:=h.l5;exact⟨h.t1.Gf fun b q1 q2=>hk b (by omega) (by omega),h.t2.Gf fun b q1 q2=>hk b (by omega) (by omega),h.t3.Gf fun b q1 q2=>hk b (by omega) (by omega),h.t4.Gf fun b q1 q2=>hk b (by omega) (by omega),h.t5.Gf fun b q1 q2=>hk b (by omega) (by omega),a1,a2,a3,a4,a5⟩
theorem aE.le(h:aE w s0 s1 s2 s3 s4 s5 U G):s0<=s5:=by
 have a1:=h.l1;have a2:=h.l2;have a3:=h.l3;have a4:=h.l4;have a5:=h.l5;omega
theorem L1.Hb(h:L1 w0 w g U G s0 s1 s2 s3 s4 s5 s6 bh ch ms0 ms j):s5<=bh/\bh<w.heap.size:=h.hea.lt bh rfl
theorem L1.F7(h:L1 w0 w g U G s0 s1 s2 s3 s4 s5 s6 bh ch ms0 ms j)(hj:j<12):∃m x,ms0[j]?=MI m/\G.hea[j]?=MI x/\w.cell? ⟨bh,j*4,MH⟩=MI (MG m.1 x.marks.length m.2):=by
 have h1:j<ms.length:=by rw[h.len];exact hj
 have h2:j<G.hea.length:=by rw[h.hel];exact hj
 have hz:j<(ms.zip G.hea).length:=by rw[Qn,h.len,h.hel];omega
 have hn:(12:Nat)=(ms.zip G.hea).length:=by rw[Qn,h.len,h.hel];rfl
 have hc:=gC ii (l:=ms.zip G.hea) h.hea hn (i:=j) (j:=0) hz (by omega);refine⟨ms[j],G.hea[j],by rw[<-h.old j (MV _)];exact MR h1,MR h2,?_⟩;rw[Oe,Qf]at hc;exact hc
theorem L1.next(h:L1 w0 w g U G s0 s1 s2 s3 s4 s5 s6 bh ch ms0 ms j)(hj:j<12)(hb:MQ w.heap.size w w'){x:He}(hx:G.hea[j]?=MI x){p:Option Oc}{c B:Nat}(hB:w.heap.size<=B)(ho:w'.ownsRow B 4 1 (MG p x.marks.length c) x.marks.length (bF x.marks)) :
  L1 w0 (w'.setCell ⟨bh,j*4,MH⟩ (MG p x.marks.length c)) g U G s0 s1 s2 s3 s4 s5 s6 bh ch ms0 (ms.set j (p,c)) (j+1):=by
 have h5:=h.Hb;have h6:=h.bs;have h7:=h.ss;have hle:=h.five.le;have hgs:=h.gs;have h1:j<ms.length:=by rw[h.len];exact hj
 have h2:j<G.hea.length:=by rw[h.hel];exact hj
 have hz:j<(ms.zip G.hea).length:=by rw[Qn,h.len,h.hel];omega
 have hxj:G.hea[j]=x:=NC ((MR h2).symm.trans hx);have hne:∀b,b<w.heap.size->b≠bh->(w'.setCell ⟨bh,j*4,MH⟩ (MG p x.marks.length c)).heap[b]?=w.heap[b]?:=fun b q1 q2=>(MU _ _ _ _ q2).trans (hb.block b q1)
 have hh':w'.ownsRow s5 94 4 (MG (MI ⟨bh,0,MH⟩) 12 ch) 12 (rv fD (ms.zip G.hea)):=aw h.hea fun b e=>hb.block b (h.hea.lt b e).2
 have hput:=jN ii hh' (i:=j) (j:=0) hz (by omega) (MG p x.marks.length c) ((p,c),x) (by rw[Qf,hxj];rfl);have hzip:(ms.zip G.hea).set j ((p,c),x)=(ms.set j (p,c)).zip G.hea:=by
  apply PX
  ·simp
  ·intro k q1 q2
   simp only[Pc,Qf]
   split
   ·rename_i ek
    subst ek;rw[hxj]
   ·rfl
 rw[Oe,hzip]at hput;refine⟨⟨(hne g h.og.lt (by omega)).trans h.og.box,(h.og.bel.trans (hb.mono h.og.bel.size)).setCell (Nm h.og.low (by show g<=bh;omega)) _,h.og.low⟩,h.five.Gf fun b q1 q2 q3=>hne b q3 (by omega),hput,by rw[NA];exact h.len,h.hel,fun i m y hi e1 e2=>?_,fun i hi=>?_,h.gs,h.bs,by simpa using Nm h.ss hb.size⟩
 ·by_cases e:i=j
  ·subst e
   rw[N7 h1]at e1;cases e1;obtain rfl:x=y:=NC (hx.symm.trans e2);exact aw (ho.mono (by omega)) fun b eb=>MU _ _ _ _ (by have:=(ho.lt b eb).1;show b≠bh;omega)
  ·rw[N3 (Pi e)]at e1
   have h8:=h.new i m y (by omega) e1 e2;exact aw h8 fun b eb=>hne b (h8.lt b eb).2 (by have:=(h8.lt b eb).1;omega)
 ·rw[N3 (by omega)]
  exact h.old i (by omega)
theorem L1.I0(h:L1 w0 w g U G s0 s1 s2 s3 s4 s5 s6 bh ch ms0 ms 12)(hb:MQ w.heap.size w w')(hx:xs.length=25)(ho:w'.ownsRow w.heap.size 184 1 (MG (MI ⟨bw,0,MH⟩) 25 cw) 25 (rv fe xs)) :
  L2 w0 (w'.setCell ⟨g,25,MH⟩ (MG (MI ⟨bw,0,MH⟩) 25 cw)) g {U with pw:=MI ⟨bw,0,MH⟩,cw:=cw} G s0 s1 s2 s3 s4 s5 s6 w.heap.size bh ch bw cw ms xs xs ls 0:=by
 have h5:=h.Hb;have h6:=h.bs;have h7:=h.ss;have hle:=h.five.le;have hgs:=h.gs;have hne:∀b,b<w.heap.size->b≠g->(w'.setCell ⟨g,25,MH⟩ (MG (MI ⟨bw,0,MH⟩) 25 cw)).heap[b]?=w.heap[b]?:=fun b q1 q2=>(MU _ _ _ _ q2).trans (hb.block b q1)
 have hf:aE (w'.setCell ⟨g,25,MH⟩ (MG (MI ⟨bw,0,MH⟩) 25 cw)) s0 s1 s2 s3 s4 s5 U G:=h.five.Gf fun b q1 q2 q3=>hne b q3 (by omega)
 refine⟨(h.og.below hb).Ih _ _,⟨hf.t1,hf.t2,hf.t3,hf.t4,hf.t5,hf.l1,hf.l2,hf.l3,hf.l4,hf.l5⟩,aw h.hea fun b e=>hne b (h.hea.lt b e).2 (by have:=(h.hea.lt b e).1;omega),h.len,h.hel,fun i m x e1 e2=>?_,aw ho fun b e=>MU _ _ _ _ (by have:=(ho.lt b e).1;have:=h.og.lt;show b≠g;omega),hx,fun i _ _ hi=>absurd hi (QH _),fun i _=>rfl,h.gs,h.bs,h.ss,rfl,rfl⟩;have hi:i<12:=by rw[<-h.len];exact(List.getElem?_eq_some_iff.1 e1).1
 have h8:=h.new i m x hi e1 e2;exact⟨aw h8 fun b eb=>hne b (h8.lt b eb).2 (by have:=(h8.lt b eb).1;omega),fun b eb=>(h8.lt b (by rw[cS];exact eb)).2⟩
theorem L2.Hu(h:L2 w0 w g U G s0 s1 s2 s3 s4 s5 s6 s7 bh ch bw cw ms xs ys ls j):s7<=bw/\bw<w.heap.size:=h.row.lt bw rfl
theorem L2.F7(h:L2 w0 w g U G s0 s1 s2 s3 s4 s5 s6 s7 bh ch bw cw ms xs ys ls j){a:Option Oc}{n c:Nat}(hx:xs[j]?=MI (a,n,c)):w.cell? ⟨bw,j,MH⟩=MI (MG a n c):=by
 have hy:=h.old j (MV _);rw[hx]at hy;obtain⟨hjy,e⟩:=List.getElem?_eq_some_iff.1 hy;have:=gC iz (l:=ys) h.row (by rw[h.ylen]) (i:=j) (j:=0) hjy (by omega);rw[e,P6,Oe]at this;exact this
theorem L2.next(h:L2 w0 w g U G s0 s1 s2 s3 s4 s5 s6 s7 bh ch bw cw ms xs ys ls j)(hj:j<25)(hls:ls.length=25)(hb:MQ w.heap.size w w'){p:Option Oc}{n c B:Nat}(hn:∀h2:j<ls.length,n=ls[j].length)(hB:w.heap.size<=B)(ho:∀h2:j<ls.length,w'.ownsRow B 187 2 (MG p n c) n (rv dD ls[j])) :
  L2 w0 (w'.setCell ⟨bw,j,MH⟩ (MG p n c)) g U G s0 s1 s2 s3 s4 s5 s6 s7 bh ch bw cw ms xs (ys.set j (p,n,c)) ls (j+1):=by
 have h5:s5<=bh/\bh<w.heap.size:=h.hea.lt bh rfl;have h6:=h.bs;have h7:=h.ss;have h8:=h.Hu;have hle:=h.five.le;have hgs:=h.gs;have hne:∀b,b<w.heap.size->b≠bw->(w'.setCell ⟨bw,j,MH⟩ (MG p n c)).heap[b]?=w.heap[b]?:=fun b q1 q2=>(MU _ _ _ _ q2).trans (hb.block b q1)
 have hr':w'.ownsRow s7 184 1 (MG (MI ⟨bw,0,MH⟩) 25 cw) 25 (rv fe ys):=aw h.row fun b e=>hb.block b (h.row.lt b e).2
 have hput:=jN iz hr' (i:=j) (j:=0) (by rw[h.ylen];exact hj) (by omega) (MG p n c) (p,n,c) rfl;rw[P6,Oe]at hput;refine⟨⟨(hne g h.og.lt (by omega)).trans h.og.box,(h.og.bel.trans (hb.mono h.og.bel.size)).setCell (Nm h.og.low (by show g<=bw;omega)) _,h.og.low⟩,h.five.Gf fun b q1 q2 q3=>hne b q3 (by omega),aw h.hea fun b e=>hne b (h.hea.lt b e).2 (by have e:b=bh:=(NC e).symm;omega),h.len,h.hel,fun i m x e1 e2=>(h.mks i m x e1 e2).Gf fun b q1 q2 q3=>hne b q3 (by omega),hput,by rw[NA];exact h.ylen,fun i q1 q2 q3=>?_,fun i q1=>?_,h.gs,h.bs,h.ss,h.pw,h.cw⟩
 ·by_cases e:i=j
  ·subst e
   simp only[NW];rw[<-hn q2];have h9:=ho q2;exact aw (h9.mono (by omega)) fun b eb=>MU _ _ _ _ (by have:=(h9.lt b eb).1;show b≠bw;omega)
  ·simp only[Pe (Pi e)]
   have h9:=h.new i (by rw[NA]at q1;exact q1) q2 (by omega);exact aw h9 fun b eb=>hne b (h9.lt b eb).2 (by have:=(h9.lt b eb).1;omega)
 ·rw[N3 (by omega)]
  exact h.old i (by omega)
theorem L2.Jb(h:L2 w0 w g U G s0 s1 s2 s3 s4 s5 s6 s7 bh ch bw cw ms xs ys ls 25)(hph:U.ph=MI ⟨bh,0,MH⟩)(hch:U.ch=ch)(hm:cQ G.wnow ls)(ht:∀t,t∈ls.flatten↔G.tms t)(hblk:aK w0)(hout:G.out=[]) :
  ab w0.heap.size w g ⟨bh,ch,U.pt,U.ct,U.pf,U.cf,U.pl,U.cl,U.pr,U.cr,U.ps,U.cs,U.pw,U.cw,MH,0,ms⟩ G:=by
 have hlow:=h.og.low;have h5:s5<=bh/\bh<w.heap.size:=h.hea.lt bh rfl;have h6:=h.bs;have h7:=h.ss;have h8:=h.Hu;have hgs:=h.gs;have a1:=h.five.l1;have a2:=h.five.l2;have a3:=h.five.l3;have a4:=h.five.l4;have a5:=h.five.l5;have hown:∀b,Vs.off ⟨bh,ch,U.pt,U.ct,U.pf,U.cf,U.pl,U.cl,U.pr,U.cr,U.ps,U.cs,U.pw,U.cw,MH,0,ms⟩ w0.heap.size g b->b<=g\/(s1<=b/\b<s2)\/b=bh:=fun b hb=>by
  rcases hb with(e|e|e|e)|e
  ·exact Nt (by omega)
  ·exact NF (NF e)
  ·exact NF (Nt (h.five.t2.Gz e))
  ·cases e
  ·exact Nt (by omega)
 have r1:bS w (MG U.pt G.tab.length U.ct) G.tab:=by
  have:=gZ (c:=iQ) (l:=G.tab) h.five.t1.own;unfold bj at this;rw[nT]at this;exact this
 have r5:aO w (MG U.ps (ao G.wts).length U.cs) (ao G.wts):=by
  have:=gZ (c:=dD) (l:=ao G.wts) h.five.t5.own;unfold bj at this;rw[ox]at this;exact this
 have hls:=hm.2.len;refine⟨?_,?_⟩
 ·rw[h.og.box]
  simp only[qO,lR,hph,hch,hout,List.length_nil]
 ·refine⟨fU r1 fun b e hb=>?_,fun W k1 k2=>⟨fU (bP h.five.t3.own) (fun b e hb=>?_) W k1 k2,fU (bP h.five.t4.own) (fun b e hb=>?_) W k1 k2⟩,fU r5 fun b e hb=>?_,⟨ls,hm,ht,fun W k1 k2=>?_⟩,h.five.t2.own.mono (by omega),h.hea.mono (by omega),h.len,h.hel,fun i m x e1 e2=>fU (iW (h.mks i m x e1 e2).own) fun b e hb=>?_,?_,h.og.low,h.og.lt,?_,?_,?_,?_,?_,?_,hblk.below h.og.bel,Pb (Nx _) hblk.lt⟩
  ·have:=h.five.t1.Gz e
   rcases hown b hb with e|e|e <;> omega
  ·have:=h.five.t3.Gz e
   rcases hown b hb with e|e|e <;> omega
  ·have:=h.five.t4.Gz e
   rcases hown b hb with e|e|e <;> omega
  ·have:=h.five.t5.Gz e
   rcases hown b hb with e|e|e <;> omega
  ·have hk:∀b,s7<=b->b<w.heap.size->W.heap[b]?=w.heap[b]?:=fun b q1 q2=>k2 b q2 fun hb=>by rcases hown b hb with e|e|e <;> omega
   have hrowW:W.ownsRow s7 184 1 (MG (MI ⟨bw,0,MH⟩) 25 cw) 25 (rv fe ys):=aw h.row fun b e=>hk b (h.row.lt b e).1 (h.row.lt b e).2
   show dh W (MG U.pw 25 U.cw) ls;rw[h.pw,h.cw];refine⟨rv fe ys,?_,?_,fun i h1 h2=>?_⟩
   ·rw[hls]
    exact bP hrowW
   ·rw[gS iz,P6,h.ylen,hls]
   ·have h3:i<ys.length:=by rwa[gS iz,P6]at h1
    have e:(rv fe ys)[i]=MG ys[i].1 ys[i].2.1 ys[i].2.2:=by
     have:=dF iz ys i 0 h3 (by omega);rw[P6,Oe,MR h1]at this;exact NC this
    rw[e];have ho:=h.new i h3 h2 (by rw[h.ylen]at h3;exact h3);have hoW:W.ownsRow (bw+1) 187 2 (MG ys[i].1 ys[i].2.1 ys[i].2.2) ls[i].length (rv dD ls[i]):=aw ho fun b e=>hk b (by have:=(ho.lt b e).1;omega) (ho.lt b e).2
    rw[oU]at hoW;exact bP hoW
  ·have:=(h.mks i m x e1 e2).Gz e
   rcases hown b hb with e|e|e <;> omega
  ·show w.ownsRow _ _ _ (MG MH G.out.length 0) G.out.length (rv gT G.out)
   rw[hout];exact NY _ _ _ _
  ·show bh≠g
   omega
  ·intro e
   have:=h.five.t2.Gz e;omega
  ·intro e
   have e:U.pf.map (·.block)=MI bh:=e;have:=h.five.t2.Gz e;omega
  ·intro e;cases e
  ·intro e;cases e
  ·intro b _ e;cases e
theorem C1{ls:List (List Tm)}(h:dh w v ls):∃xs:List Sc,xs.length=ls.length/\bj fe w v xs/\∀i (h1:i<xs.length) (h2:i<ls.length),xs[i].2.1=ls[i].length/\aO w (MG xs[i].1 xs[i].2.1 xs[i].2.2) ls[i]:=by
 obtain⟨vs,hrow,hlen,heach⟩:=h;have key:∀(vs:List M7),(∀u∈vs,∃a n c,u=MG a n c)->∃xs:List Sc,rv fe xs=vs:=by
  intro vs
  induction vs with
  |nil=>intro _;exact⟨[],rfl⟩
  |cons u vs ih =>
   intro hu;obtain⟨a,n,c,rfl⟩:=hu u NM;obtain⟨xs,rfl⟩:=ih fun x hx=>hu x (NB _ hx)
   exact⟨(a,n,c)::xs,rfl⟩
 obtain⟨xs,rfl⟩:=key vs fun u hu=>by
  obtain⟨i,hi,rfl⟩:=NV hu;obtain⟨a,c,e,_⟩:=(heach i hi (by omega)).F6;exact⟨a,_,c,e⟩
 have hl:xs.length=ls.length:=by rw[<-hlen,gS iz,P6]
 refine⟨xs,hl,?_,fun i h1 h2=>?_⟩
 ·unfold bj
  rw[hl];exact hrow
 ·have h3:i<(rv fe xs).length:=by rw[gS iz,P6];exact h1
  have h4:=heach i h3 h2;have e:(rv fe xs)[i]=MG xs[i].1 xs[i].2.1 xs[i].2.2:=by
   have:=dF iz xs i 0 h1 (by omega);rw[P6,Oe,MR h3]at this;exact NC this
  rw[e]at h4;obtain⟨a,c,e2,_⟩:=h4.F6;injection e2 with _ e3 _;exact⟨e3,h4⟩
end
section
variable {base:Nat}{w0 w w':MO}{g:Nat}{V:Vs}{U:Us}{G:Gt}
theorem EY{l:List FX}(h:bS w v l):bj iQ w v l:=by
 unfold bj;rw[nT];exact h
theorem FB{l:List Tm}(h:aO w v l):bj dD w v l:=by
 unfold bj;rw[ox];exact h
theorem vK{e k n c:Nat}{p:Option Oc}{xs:List M7}(h:w.ownsRow base e k (MG p n c) n xs)(hn:0<n):∃b,p=MI ⟨b,0,MH⟩/\n<=c/\c<=9223372036854775807:=by
 rcases h.2 with⟨he,_⟩|⟨g',c',cur,he,_,_,h1,h2,_⟩
 ·cases he
  omega
 ·cases he
  exact⟨g',rfl,h1,h2⟩
theorem rI{e k n c:Nat}{xs:List M7}(h:w.ownsRow base e k (MG (MI ⟨b,0,MH⟩) n c) n xs)(j:Nat):w.frozen? ⟨b,j,MH⟩=false:=by
 rcases h.2 with⟨he,_⟩|⟨g',c',cur,he,_,hh,_⟩
 ·cases he
 ·cases he
  simp[Ng,hh]
theorem A4{ls:List (List Tm)}{j:Nat}(hj:j<ls.length):(ls[j]).length<=ls.flatten.length:=by
 have h1:=mp hj;have h2:=o6 (ls:=ls) (j+1);rw[h1,Ns]at h2;omega
theorem Ej(h0:aF w0 U G)(h:Og w0 w g U G)(hwm:Wm G)(hblk:aK w0)(hout:G.out=[]) :
  Ni MK 73 #[gP g] w fun r w'=>r=MN (Nv #[])/\∃V,ab w0.heap.size w' g V G/\MQ w0.heap.size w0 w':=by
 have hbs:=hwm.im.bs;have hla:G.tab.length<=1000:=by have:=hbs.tab.1;omega
 have hlb:G.fls.length<=1000:=by have:=hbs.Gb;omega
 have hlc:G.liv.length<=1000:=by have:=hbs.book.1.1;omega
 have hld:G.req.length<=1000:=by have:=hbs.book.2.1;omega
 have hle:(ao G.wts).length<=1000:=by have:=qV hbs.wts;omega
 have hz12:(U.ms.zip G.hea).length=12:=by rw[Qn,h0.msl,h0.hel];rfl
 have hlf:(U.ms.zip G.hea).length<=1000:=by rw[hz12];omega
 have hap:∀x∈G.hea,x.marks.length<=16:=fun x hx=>by have:=(hbs.hea x hx).1;have:=hbs.Gx.1.2;omega
 have HA:M6 (_/\_/\_/\_/\_/\_/\_):=⟨h0,hla,hlb,hlc,hld,hle,hlf⟩;have HM:M6 (_/\_/\_/\_/\_):=⟨hwm,hblk,hout,hz12,hap⟩;have HO:M6 _:=h;have c17:=h.Gs;have f17:=h.fz 17;have hgl:=h.lt;clear h0 h hwm hblk hout hbs hla hlb hlc hld hle hz12 hlf hap;go_enter Tryz.func73,Tryz.ntmps73;have HK1:M6 _:=AL _ G.tab _ (EY (HA.out.1.tab.below HO.out.bel)) HA.out.2.1
 go_wp2_with fail
 refine Nd HK1.out ?_;rintro r v1 ⟨p1,c1,rfl,ho1,hb1⟩;have hq:=HO.out.below hb1;have d17:=hq.Gs;have f67:=hq.fz 17;have hgv1:=hq.lt;obtain⟨w1,hw1⟩:∃w1,w1=v1.setCell ⟨g,17,MH⟩ (MG p1 G.tab.length c1):=⟨_,rfl⟩;have hg1:=hq.Ix p1 c1;rw[<-hw1]at hg1;have t1:=kH HO.out.lt hb1.size ho1 17 (MG p1 G.tab.length c1);rw[<-hw1]at t1;have H1:M6 (_/\_):=⟨hg1,t1⟩;have HS1:M6 (w.heap.size<=w1.heap.size):=by show _<=_;rw[hw1];simpa using hb1.size
 have hgw1:=hg1.lt;have e18:v1.cell? ⟨g,18,MH⟩=MI (MG U.pf G.fls.length U.cf):=hq.Gr;clear hq hg1 t1 ho1 hb1
 go_wp2_with fail
 rw[<-hw1];clear hw1 d17 f67 hgv1 e18;have HK2:M6 _:=Fc _ G.fls _ (bj.below HA.out.1.fls H1.out.1.bel) HA.out.2.2.1;refine Nd HK2.out ?_;rintro r v2 ⟨p2,c2,rfl,ho2,hb2⟩;have hq:=H1.out.1.below hb2;have d18:=hq.Gr;have f68:=hq.fz 18;have hgv2:=hq.lt;obtain⟨w2,hw2⟩:∃w2,w2=v2.setCell ⟨g,18,MH⟩ (MG p2 G.fls.length c2):=⟨_,rfl⟩;have hg2:=hq.IU p2 c2;rw[<-hw2]at hg2;have t2:=kH H1.out.1.lt hb2.size ho2 18 (MG p2 G.fls.length c2);rw[<-hw2]at t2;have t1':=H1.out.2.step hb2 (g:=g) (by have:=HO.out.lt;have:=HS1.out;omega) 18 (MG p2 G.fls.length c2);rw[<-hw2]at t1';have H2:M6 (_/\_/\_):=⟨hg2,t1',t2⟩;have HS2:M6 (w.heap.size<=w1.heap.size/\w1.heap.size<=w2.heap.size):=⟨HS1.out,(by rw[hw2];simpa using hb2.size)⟩;have hgw2:=hg2.lt;have e19:v2.cell? ⟨g,19,MH⟩=MI (MG U.pl G.liv.length U.cl):=hq.Gn;clear hq hg2 t2 ho2 hb2 t1'
 go_wp2_with fail
 rw[<-hw2];clear hw2 d18 f68 hgv2 e19;have HK3:M6 _:=ww _ G.liv _ (HA.out.1.book.below H2.out.1.bel).1 HA.out.2.2.2.1;refine Nd HK3.out ?_;rintro r v3 ⟨p3,c3,rfl,ho3,hb3⟩;have hq:=H2.out.1.below hb3;have d19:=hq.Gn;have f69:=hq.fz 19;have hgv3:=hq.lt;obtain⟨w3,hw3⟩:∃w3,w3=v3.setCell ⟨g,19,MH⟩ (MG p3 G.liv.length c3):=⟨_,rfl⟩;have hg3:=hq.I3 p3 c3;rw[<-hw3]at hg3;have t3:=kH H2.out.1.lt hb3.size ho3 19 (MG p3 G.liv.length c3);rw[<-hw3]at t3;have t1':=H2.out.2.1.step hb3 (g:=g) (by have:=HO.out.lt;have:=HS2.out;omega) 19 (MG p3 G.liv.length c3);rw[<-hw3]at t1';have t2':=H2.out.2.2.step hb3 (g:=g) (by have:=HO.out.lt;have:=HS2.out;omega) 19 (MG p3 G.liv.length c3);rw[<-hw3]at t2';have H3:M6 (_/\_/\_/\_):=⟨hg3,t1',t2',t3⟩;have HS3:M6 (w.heap.size<=w1.heap.size/\w1.heap.size<=w2.heap.size/\w2.heap.size<=w3.heap.size):=⟨HS2.out.1,HS2.out.2,(by rw[hw3];simpa using hb3.size)⟩;have hgw3:=hg3.lt;have e20:v3.cell? ⟨g,20,MH⟩=MI (MG U.pr G.req.length U.cr):=hq.GD;clear hq hg3 t3 ho3 hb3 t1' t2'
 go_wp2_with fail
 rw[<-hw3];clear hw3 d19 f69 hgv3 e20;have HK4:M6 _:=uV _ G.req _ (HA.out.1.book.below H3.out.1.bel).2 HA.out.2.2.2.2.1;refine Nd HK4.out ?_;rintro r v4 ⟨p4,c4,rfl,ho4,hb4⟩;have hq:=H3.out.1.below hb4;have d20:=hq.GD;have f70:=hq.fz 20;have hgv4:=hq.lt;obtain⟨w4,hw4⟩:∃w4,w4=v4.setCell ⟨g,20,MH⟩ (MG p4 G.req.length c4):=⟨_,rfl⟩;have hg4:=hq.Ju p4 c4;rw[<-hw4]at hg4;have t4:=kH H3.out.1.lt hb4.size ho4 20 (MG p4 G.req.length c4);rw[<-hw4]at t4;have t1':=H3.out.2.1.step hb4 (g:=g) (by have:=HO.out.lt;have:=HS3.out;omega) 20 (MG p4 G.req.length c4);rw[<-hw4]at t1';have t2':=H3.out.2.2.1.step hb4 (g:=g) (by have:=HO.out.lt;have:=HS3.out;omega) 20 (MG p4 G.req.length c4);rw[<-hw4]at t2';have t3':=H3.out.2.2.2.step hb4 (g:=g) (by have:=HO.out.lt;have:=HS3.out;omega) 20 (MG p4 G.req.length c4);rw[<-hw4]at t3';have H4:M6 (_/\_/\_/\_/\_):=⟨hg4,t1',t2',t3',t4⟩;have HS4:M6 (w.heap.size<=w1.heap.size/\w1.heap.size<=w2.heap.size/\w2.heap.size<=w3.heap.size/\w3.heap.size<=w4.heap.size):=⟨HS3.out.1,HS3.out.2.1,HS3.out.2.2,(by rw[hw4];simpa using hb4.size)⟩;have hgw4:=hg4.lt;have e21:v4.cell? ⟨g,21,MH⟩=MI (MG U.ps (ao G.wts).length U.cs):=hq.GX;clear hq hg4 t4 ho4 hb4 t1' t2' t3'
 go_wp2_with fail
 rw[<-hw4];clear hw4 d20 f70 hgv4 e21;have HK5:M6 _:=B5 _ (ao G.wts) _ (FB (HA.out.1.ring.below H4.out.1.bel)) HA.out.2.2.2.2.2.1;refine Nd HK5.out ?_;rintro r v5 ⟨p5,c5,rfl,ho5,hb5⟩;have hq:=H4.out.1.below hb5;have d21:=hq.GX;have f71:=hq.fz 21;have hgv5:=hq.lt;obtain⟨w5,hw5⟩:∃w5,w5=v5.setCell ⟨g,21,MH⟩ (MG p5 (ao G.wts).length c5):=⟨_,rfl⟩;have hg5:=hq.IJ p5 c5;rw[<-hw5]at hg5;have t5:=kH H4.out.1.lt hb5.size ho5 21 (MG p5 (ao G.wts).length c5);rw[<-hw5]at t5;have t1':=H4.out.2.1.step hb5 (g:=g) (by have:=HO.out.lt;have:=HS4.out;omega) 21 (MG p5 (ao G.wts).length c5);rw[<-hw5]at t1';have t2':=H4.out.2.2.1.step hb5 (g:=g) (by have:=HO.out.lt;have:=HS4.out;omega) 21 (MG p5 (ao G.wts).length c5);rw[<-hw5]at t2';have t3':=H4.out.2.2.2.1.step hb5 (g:=g) (by have:=HO.out.lt;have:=HS4.out;omega) 21 (MG p5 (ao G.wts).length c5);rw[<-hw5]at t3';have t4':=H4.out.2.2.2.2.step hb5 (g:=g) (by have:=HO.out.lt;have:=HS4.out;omega) 21 (MG p5 (ao G.wts).length c5);rw[<-hw5]at t4';have H5:M6 (_/\_/\_/\_/\_/\_):=⟨hg5,t1',t2',t3',t4',t5⟩;have HS5:M6 (w.heap.size<=w1.heap.size/\w1.heap.size<=w2.heap.size/\w2.heap.size<=w3.heap.size/\w3.heap.size<=w4.heap.size/\w4.heap.size<=w5.heap.size):=⟨HS4.out.1,HS4.out.2.1,HS4.out.2.2.1,HS4.out.2.2.2,(by rw[hw5];simpa using hb5.size)⟩;have hgw5:=hg5.lt;have e22:v5.cell? ⟨g,22,MH⟩=MI (MG U.ph 12 U.ch):=hq.GI;clear hq hg5 t5 ho5 hb5 t1' t2' t3' t4'
 go_wp2_with fail
 rw[<-hw5];clear hw5 d21 f71 hgv5 e22;have HK6:M6 _:=Df (MG U.ph 12 U.ch) (U.ms.zip G.hea) _ (bj.below HA.out.1.hea H5.out.1.bel) HA.out.2.2.2.2.2.2;rw[HM.out.2.2.2.1]at HK6;refine Nd HK6.out ?_;rintro r v6 ⟨p6,c6,rfl,ho6,hb6⟩;have hq:=H5.out.1.below hb6;have d22:=hq.GI;have f72:=hq.fz 22;have hgv6:=hq.lt;obtain⟨w6,hw6⟩:∃w6,w6=v6.setCell ⟨g,22,MH⟩ (MG p6 12 c6):=⟨_,rfl⟩;have hg6:=hq.IY p6 c6;rw[<-hw6]at hg6;have t6:=kH H5.out.1.lt hb6.size ho6 22 (MG p6 12 c6);rw[<-hw6]at t6;have t1':=H5.out.2.1.step hb6 (g:=g) (by have:=HO.out.lt;have:=HS5.out;omega) 22 (MG p6 12 c6);rw[<-hw6]at t1';have t2':=H5.out.2.2.1.step hb6 (g:=g) (by have:=HO.out.lt;have:=HS5.out;omega) 22 (MG p6 12 c6);rw[<-hw6]at t2';have t3':=H5.out.2.2.2.1.step hb6 (g:=g) (by have:=HO.out.lt;have:=HS5.out;omega) 22 (MG p6 12 c6);rw[<-hw6]at t3';have t4':=H5.out.2.2.2.2.1.step hb6 (g:=g) (by have:=HO.out.lt;have:=HS5.out;omega) 22 (MG p6 12 c6);rw[<-hw6]at t4';have t5':=H5.out.2.2.2.2.2.step hb6 (g:=g) (by have:=HO.out.lt;have:=HS5.out;omega) 22 (MG p6 12 c6);rw[<-hw6]at t5';have H6:M6 (_/\_/\_/\_/\_/\_/\_):=⟨hg6,t1',t2',t3',t4',t5',t6⟩;have HS6:M6 (w.heap.size<=w1.heap.size/\w1.heap.size<=w2.heap.size/\w2.heap.size<=w3.heap.size/\w3.heap.size<=w4.heap.size/\w4.heap.size<=w5.heap.size/\w5.heap.size<=w6.heap.size):=⟨HS5.out.1,HS5.out.2.1,HS5.out.2.2.1,HS5.out.2.2.2.1,HS5.out.2.2.2.2,(by rw[hw6];simpa using hb6.size)⟩;have hgw6:=hg6.lt;clear hq hg6 t6 ho6 hb6 t1' t2' t3' t4' t5'
 go_wp2_with fail
 rw[<-hw6];clear hw6 d22 f72 hgv6;obtain⟨bh,hp6,hch1,hch2⟩:=vK H6.out.2.2.2.2.2.2.own (by omega);obtain⟨U6,hL1,u1,u2,u3,u4⟩:∃U6:Us,L1 w0 w6 g U6 G w.heap.size w1.heap.size w2.heap.size w3.heap.size w4.heap.size w5.heap.size w6.heap.size bh c6 U.ms U.ms 0/\U6.ph=MI ⟨bh,0,MH⟩/\U6.ch=c6/\U6.pw=U.pw/\U6.cw=U.cw:=by
  refine⟨_,⟨H6.out.1,⟨H6.out.2.1,H6.out.2.2.1,H6.out.2.2.2.1,H6.out.2.2.2.2.1,H6.out.2.2.2.2.2.1,HS6.out.1,HS6.out.2.1,HS6.out.2.2.1,HS6.out.2.2.2.1,HS6.out.2.2.2.2.1⟩,by rw[<-hp6];exact H6.out.2.2.2.2.2.2.own,HA.out.1.msl,HA.out.1.hel,fun i m x hi=>absurd hi (QH _),fun i _=>rfl,HO.out.lt,H6.out.2.2.2.2.2.2.up bh (by rw[hp6];rfl),MV _⟩,hp6,rfl,rfl,rfl⟩
 obtain⟨s0,e0⟩:∃s,s=w.heap.size:=⟨_,rfl⟩;obtain⟨s1,e1⟩:∃s,s=w1.heap.size:=⟨_,rfl⟩;obtain⟨s2,e2⟩:∃s,s=w2.heap.size:=⟨_,rfl⟩;obtain⟨s3,e3⟩:∃s,s=w3.heap.size:=⟨_,rfl⟩;obtain⟨s4,e4⟩:∃s,s=w4.heap.size:=⟨_,rfl⟩;obtain⟨s5,e5⟩:∃s,s=w5.heap.size:=⟨_,rfl⟩;obtain⟨s6,e6⟩:∃s,s=w6.heap.size:=⟨_,rfl⟩;rw[<-e0,<-e1,<-e2,<-e3,<-e4,<-e5,<-e6]at hL1;have HG:M6 _:=hL1;have HU:M6 (_/\_/\_/\_):=⟨u1,u2,u3,u4⟩;subst hp6;clear hL1 u1 u2 u3 u4 e0 e1 e2 e3 e4 e5 e6;clear H1 H2 H3 H4 H5 H6 HS1 HS2 HS3 HS4 HS5 HS6 HK1 HK2 HK3 HK4 HK5 HK6
 go_loopw [78] (fun t wr=>∃(j:Nat) (ms:List Mk),t=MF ME (j:Int)/\j<=12/\M6 (L1 w0 wr g U6 G s0 s1 s2 s3 s4 s5 s6 bh c6 U.ms ms j)) (fun t _=>12-(intOf t).toNat)
 case atStart=>exact⟨0,U.ms,rfl,by omega,HG.out⟩
 case round =>
  obtain⟨j,ms,rfl,hj,HI⟩:=hrel;obtain⟨W,hW⟩:∃W,W=wr:=⟨_,rfl⟩;subst hW
  by_cases hlt:j<12
  ·have hjI:(j:Int)<12:=by omega
   have hj0:(0:Int)<=(j:Int):=by omega
   have hGx:=HI.out;obtain⟨m,x,em,ex,q0⟩:=hGx.F7 hlt;have hml:x.marks.length<=1000:=by have:=HM.out.2.2.2.2 x (Nu ex);omega
   have a22:=hGx.og.GI;rw[HU.out.1,HU.out.2.1]at a22;have hglW:=hGx.og.lt;have hbl:=hGx.Hb.2;have hgb:¬g=bh:=by have:=hGx.Hb.1;have:=hGx.five.le;have:=hGx.gs;omega
   have hgb2:¬bh=g:=fun e=>hgb e.symm
   have fz0:W.frozen? ⟨bh,j*4,MH⟩=false:=rI hGx.hea _;have HK:M6 (∀X,MQ W.heap.size W X->Ni MK 102 #[MG m.1 x.marks.length m.2] X fun r w'=>∃p c,r=MN (MG p x.marks.length c)/\(w'.cell? ⟨bh,j*4,MH⟩=MI (MG m.1 x.marks.length m.2)/\w'.frozen? ⟨bh,j*4,MH⟩=Nb/\bh<w'.heap.size)/\w'.cell? ⟨g,22,MH⟩=MI (MG (MI ⟨bh,0,MH⟩) 12 c6)/\(w'.setCell ⟨bh,j*4,MH⟩ (MG p x.marks.length c)).cell? ⟨g,22,MH⟩=MI (MG (MI ⟨bh,0,MH⟩) 12 c6) /\
     ∃u3,u3=w'.setCell ⟨bh,j*4,MH⟩ (MG p x.marks.length c)/\M6 (L1 w0 u3 g U6 G s0 s1 s2 s3 s4 s5 s6 bh c6 U.ms (ms.set j (p,c)) (j+1))):=fun X hX=>by
    refine(sv (MG m.1 x.marks.length m.2) x.marks X (((HA.out.1.marks j m x em ex).below hGx.og.bel).below hX) hml).mono ?_;rintro r w' ⟨p,c,rfl,ho,hb⟩;have hb':=hX.trans (hb.mono hX.size);have hS:w'.cell? ⟨g,22,MH⟩=MI (MG (MI ⟨bh,0,MH⟩) 12 c6):=(hb'.cell hglW).trans a22;refine⟨p,c,rfl,⟨(hb'.cell hbl).trans q0,(OM (a:=⟨bh,j*4,MH⟩) (hb'.block bh hbl)).trans fz0,M8 hbl hb'.size⟩,hS,?_,_,rfl,hGx.next hlt hb' ex hX.size ho⟩;rw[<-hS];exact NG (MU _ _ _ _ hgb)
   clear hGx em ex hml
   go_wp2_with fail
   apply gU
   ·intro KEY
    go_region_with (first|(go_at_call 102;refine(HK.out _ (by first|exact(MY _ _).drew|exact Below.refl _ _)).mono ?_;rintro r w3 ⟨p,c,rfl,⟨u0,v0,vlt⟩,hS1,hS2,u4,hu4,hQ⟩))
    all_goals
     rw[<-hu4];clear hS2;clear hu4 u0 v0 vlt hS1;revert p c u4;exact KEY.out
   intro p c u4 hQ;have HQ:M6 _:=hQ.out;clear hQ HK;go_wp2
   go_roundw
   case rel=>exact⟨j+1,ms.set j (p,c),by go_num,hlt,HQ.out⟩
   case measure=>simp[intOf];omega
  ·obtain rfl:j=12:=by omega
   obtain⟨ls,hmay,hT,hls⟩:=HA.out.1.whl;obtain⟨xs,hxl,hrv,hxs⟩:=C1 hls;have hl25:=hmay.2.len;have hx25:xs.length=25:=by rw[hxl,hl25]
   have a25:=HI.out.og.GH;rw[HU.out.2.2.1,HU.out.2.2.2]at a25;have hglW:=HI.out.og.lt;have HC:=DE (MG U.pw 25 U.cw) xs W (bj.below hrv HI.out.og.bel) (by omega);rw[hx25]at HC;have HC:M6 _:=HC;have HL:M6 (_/\_/\_/\_/\_):=⟨hmay,hT,hx25,hxs,hl25⟩;clear hmay hT hls hxl hrv hxs hl25 hx25
   go_wp2_with fail
   refine Nd HC.out ?_;rintro r v7 ⟨p7,cw,rfl,ho7,hb7⟩;obtain⟨bw,rfl,hcw1,hcw2⟩:=vK ho7 (by omega);have hq7:=HI.out.og.below hb7;have d25:=hq7.GH;have f25:=hq7.fz 25;have hgv7:=hq7.lt;obtain⟨w8,hw8⟩:∃w8,w8=v7.setCell ⟨g,25,MH⟩ (MG (MI ⟨bw,0,MH⟩) 25 cw):=⟨_,rfl⟩;have hL2:=HI.out.I0 (ls:=ls) hb7 HL.out.2.2.1 ho7;rw[<-hw8]at hL2;obtain⟨s7,e7⟩:∃s,s=W.heap.size:=⟨_,rfl⟩;rw[<-e7]at hL2;obtain⟨U8,hU8⟩:∃U8:Us,U8={U6 with pw:=MI ⟨bw,0,MH⟩,cw:=cw}:=⟨_,rfl⟩;rw[<-hU8]at hL2;have hgw:¬g=bw:=by have:=hL2.Hu.1;have:=hL2.ss;have:=hL2.bs;have:=(hL2.hea.lt bh rfl).1;have:=hL2.five.le;have:=hL2.gs;omega
   have hgw':¬bw=g:=fun e=>hgw e.symm
   have H8:M6 (_/\_):=⟨hL2,hU8⟩;clear hL2 hU8 ho7 hb7 hq7 e7
   go_wp2_with fail
   rw[<-hw8];clear hw8 d25 f25 hgv7 a25 hglW
   go_loopw [119] (fun t wr=>∃(j:Nat) (ys:List Sc),t=MF ME (j:Int)/\j<=25/\M6 (L2 w0 wr g U8 G s0 s1 s2 s3 s4 s5 s6 s7 bh c6 bw cw ms xs ys ls j)) (fun t _=>25-(intOf t).toNat)
   case atStart=>exact⟨0,xs,rfl,by omega,H8.out.1⟩
   case round =>
    obtain⟨j,ys,rfl,hj,HJ⟩:=hrel;obtain⟨X,hX⟩:∃X,X=wr:=⟨_,rfl⟩;subst hX
    by_cases hlt:j<25
    ·have hjI:(j:Int)<25:=by omega
     have hj0:(0:Int)<=(j:Int):=by omega
     have hGx:=HJ.out;have hjx:j<xs.length:=by rw[HL.out.2.2.1];exact hlt
     have hjl:j<ls.length:=by rw[HL.out.2.2.2.2];exact hlt
     obtain⟨hn1,htm⟩:=HL.out.2.2.2.1 j hjx hjl;obtain⟨a,n,cc,hxe⟩:∃a n cc,xs[j]=((a,n,cc):Sc):=⟨_,_,_,rfl⟩;rw[hxe]at hn1 htm;replace hn1:n=ls[j].length:=hn1;replace htm:aO w0 (MG a n cc) ls[j]:=htm;have q0:X.cell? ⟨bw,j,MH⟩=MI (MG a n cc):=hGx.F7 ((MR hjx).trans (by rw[hxe]));have fz0:X.frozen? ⟨bw,j,MH⟩=false:=rI hGx.row j;have hbl:=hGx.Hu.2;have a25:X.cell? ⟨g,25,MH⟩=MI (MG (MI ⟨bw,0,MH⟩) 25 cw):=by
      have:=hGx.og.GH;rw[hGx.pw,hGx.cw]at this;exact this
     have hgx:=hGx.og.lt;have hn200:n<=1000:=by rw[hn1];have:=HL.out.1.2.Hr;have:=A4 hjl;omega
     have HK:M6 (∀Y,MQ X.heap.size X Y->Ni MK 104 #[MG a n cc] Y fun r w'=>∃p c,r=MN (MG p n c)/\(w'.cell? ⟨bw,j,MH⟩=MI (MG a n cc)/\w'.frozen? ⟨bw,j,MH⟩=Nb/\bw<w'.heap.size)/\w'.cell? ⟨g,25,MH⟩=MI (MG (MI ⟨bw,0,MH⟩) 25 cw)/\(w'.setCell ⟨bw,j,MH⟩ (MG p n c)).cell? ⟨g,25,MH⟩=MI (MG (MI ⟨bw,0,MH⟩) 25 cw) /\
       ∃u3,u3=w'.setCell ⟨bw,j,MH⟩ (MG p n c)/\M6 (L2 w0 u3 g U8 G s0 s1 s2 s3 s4 s5 s6 s7 bh c6 bw cw ms xs (ys.set j (p,n,c)) ls (j+1))):=fun Y hY=>by
      have hcl:=xl (MG a n cc) ls[j] Y (pX.1 ((htm.below hGx.og.bel).below hY)) (by rw[<-hn1];exact hn200);rw[<-hn1]at hcl;refine hcl.mono ?_;rintro r w' ⟨p,c,rfl,ho,hb⟩;have hb':=hY.trans (hb.mono hY.size);have hS:w'.cell? ⟨g,25,MH⟩=MI (MG (MI ⟨bw,0,MH⟩) 25 cw):=(hb'.cell hgx).trans a25;refine⟨p,c,rfl,⟨(hb'.cell hbl).trans q0,(OM (a:=⟨bw,j,MH⟩) (hb'.block bw hbl)).trans fz0,M8 hbl hb'.size⟩,hS,?_,_,rfl,hGx.next hlt HL.out.2.2.2.2 hb' (fun _=>hn1) hY.size (fun _=>ho)⟩;rw[<-hS];exact NG (MU _ _ _ _ hgw)
     clear hGx hjx hxe hn1 htm hjl
     go_wp2_with fail
     apply gU
     ·intro KEY
      go_region_with (first|(go_at_call 104;refine(HK.out _ (by first|exact(MY _ _).drew|exact Below.refl _ _)).mono ?_;rintro r w3 ⟨p,c,rfl,⟨u0,v0,vlt⟩,hS1,hS2,u4,hu4,hQ⟩))
      all_goals
       rw[<-hu4];clear hS2;clear hu4 u0 v0 vlt hS1;revert p c u4;exact KEY.out
     intro p c u4 hQ;have HQ:M6 _:=hQ.out;clear hQ HK;go_wp2
     go_roundw
     case rel=>exact⟨j+1,ys.set j (p,n,c),by go_num,hlt,HQ.out⟩
     case measure=>simp[intOf];omega
    ·obtain rfl:j=25:=by omega
     go_wp2
     go_end0
     have h9:=HJ.out;exact⟨rfl,_,h9.Jb (by rw[H8.out.2];exact HU.out.1) (by rw[H8.out.2];exact HU.out.2.1) HL.out.1 HL.out.2.1 HM.out.2.1 HM.out.2.2.1,h9.og.bel⟩
end
section
variable {base:Nat}{w w':MO}{g:Nat}{V:Vs}{U:Us}{G:Gt}
theorem xX(hb:MQ W.heap.size W w5)(v:M7)(T:NU):∃bx u3,bx=w5.heap.size/\u3=w5.alloc (MP #[v] T)/\M6 (MQ W.heap.size W u3):=
 ⟨_,_,rfl,rfl,hb.alloc hb.size _⟩
theorem Es(hb:MQ W.heap.size W w5)(v:M7):∃bx u3,bx=W.heap.size/\u3=w5.setCell ⟨W.heap.size,0,MH⟩ v/\M6 (MQ W.heap.size W u3):=
 ⟨_,_,rfl,rfl,hb.setCell (MV _) _⟩
theorem Bz(h:RG w g U G)(hwm:Wm G):Ni MK 90 #[gP g] w fun r w'=>r=MN (M3 Nw)/\MQ w.heap.size w w':=by
 have hbs:=hwm.im.bs;have hE:=zF hbs.GM hbs.tok;obtain⟨tk,htk⟩:∃tk,tk=min (G.tok+G.cfg.bn) (G.cfg.bb*G.cfg.bd):=⟨_,rfl⟩;rw[<-htk]at hE;have hgl:=h.lt;have c10:=h.Hf;have c11:=h.Hn;have c12:=h.Hg;have c23:=h.Id;have HK:M6 (∀X,MQ w.heap.size w X->Ni MK 114 #[Ny #[MF ME G.cfg.bn,MF ME G.cfg.bd,MF ME G.cfg.bb],Ny #[MF ME G.tok]] X fun r w'=>r=MN (Nv #[Ny #[MF ME tk],MF ME 0])/\M6 (MQ w.heap.size w w')/\(∀n,n<X.heap.size->n<w'.heap.size)/\(∀b o,b<X.heap.size->w'.cell? ⟨b,o,MH⟩=X.cell? ⟨b,o,MH⟩)/\(∀b o,b<X.heap.size->w'.frozen? ⟨b,o,MH⟩=X.frozen? ⟨b,o,MH⟩)):=fun X hX=>by
  refine(sG G.cfg.bn G.cfg.bd G.cfg.bb G.tok X).mono ?_;rw[hE];rintro r w' ⟨rfl,hb⟩;exact⟨rfl,hX.trans (hb.mono hX.size),fun n hn=>M8 hn hb.size,fun b o hb'=>hb.cell (p:=⟨b,o,MH⟩) hb',fun b o hb'=>OM (a:=⟨b,o,MH⟩) (hb.block b hb')⟩
 have HS:M6 (∀X,MQ w.heap.size w X->X.cell? ⟨g,10,MH⟩=MI (MF ME G.cfg.bn)/\X.cell? ⟨g,11,MH⟩=MI (MF ME G.cfg.bd)/\X.cell? ⟨g,12,MH⟩=MI (MF ME G.cfg.bb)/\X.cell? ⟨g,23,MH⟩=MI (MF ME G.tok)/\MQ w.heap.size w X):=fun X hX =>
  ⟨(hX.cell hgl).trans c10,(hX.cell hgl).trans c11,(hX.cell hgl).trans c12,(hX.cell hgl).trans c23,hX⟩
 have H:M6 (_/\_):=⟨h,hwm⟩;clear h hwm hbs hE htk;go_enter Tryz.func90,Tryz.ntmps90
 go_wp2_with fail
 apply gU
 ·intro KEY
  go_region_held3 (fun X=>X.cell? ⟨g,10,MH⟩=MI (MF ME G.cfg.bn)/\X.cell? ⟨g,11,MH⟩=MI (MF ME G.cfg.bd)/\X.cell? ⟨g,12,MH⟩=MI (MF ME G.cfg.bb)/\X.cell? ⟨g,23,MH⟩=MI (MF ME G.tok)/\MQ w.heap.size w X) (first|exact HS.out _ ((MY _ _).drew)|exact HS.out _ (((MY _ _).drew).alloc (by simp) _)|exact HS.out _ hq5.out|exact HS.out _ (hq5.out.alloc hq5.out.size _)|exact HS.out _ (((MY _ _).alloc (MV _) _).drew)|exact HS.out _ (hq5.out.setCell (MV _) _)) (first|(go_at_call 114;refine(HK.out _ ?hbW).mono ?_;(case hbW=>first|with_reducible assumption|exact(MY _ _).drew|exact((MY _ _).drew).alloc (by simp) _|exact((Below.refl _ _).alloc (Nat.le_refl _) _).drew);rintro r w5 ⟨rfl,hq5,hz5,hc5,hf5⟩))
  all_goals
   clear hz5 hc5 hf5;rename_i hHe;clear hHe
   first
   | (obtain⟨bx,u3,hbx,hu3,hQ⟩:=xX hq5.out (MF ME tk) 49
      rw[<-hu3]
      try rw[<-hbx]
      clear hu3 hbx hq5;revert bx u3;exact KEY.out)
   | (obtain⟨bx,u3,hbx,hu3,hQ⟩:=Es hq5.out (MF ME tk)
      rw[<-hu3]
      try rw[<-hbx]
      clear hu3 hbx hq5;revert bx u3;exact KEY.out)
 intro bx u3 hQ;clear c10 c11 c12 c23 HK HS;have hb3:=hQ.out;clear hQ;have hG3:=H.out.1.below hb3;have hwm:=H.out.2;have hbs:=hwm.im.bs;have e0:=hG3.c0;have e17:=hG3.Gs;have e19:=hG3.Gn;have e20:=hG3.GD;have hgl3:=hG3.lt;have hlen:((G.tab.length:Int) == G.cfg.flows)=true:=by rw[hbs.tabLen];exact beq_self_eq_true _
 have HL:M6 (∀X,MQ u3.heap.size u3 X->Ni MK 143 #[Ny #[MG U.pl G.liv.length U.cl,MG U.pr G.req.length U.cr]] X fun r w'=>r=MN (MF ME 0)/\(w'.cell? ⟨g,0,MH⟩=MI (MF ME G.cfg.flows)/\w'.cell? ⟨g,17,MH⟩=MI (MG U.pt G.tab.length U.ct)/\w'.cell? ⟨g,19,MH⟩=MI (MG U.pl G.liv.length U.cl)/\w'.cell? ⟨g,20,MH⟩=MI (MG U.pr G.req.length U.cr)/\MQ u3.heap.size u3 w')):=fun X hX=>by
  refine(oX _ _ G.liv G.req X (hG3.below hX).wat.book).mono ?_;rw[show lV G.liv G.req=0 from Nh hbs.book];rintro r w' ⟨rfl,hb⟩;have hb2:=hX.trans (hb.mono hX.size);exact⟨rfl,(hb2.cell hgl3).trans e0,(hb2.cell hgl3).trans e17,(hb2.cell hgl3).trans e19,(hb2.cell hgl3).trans e20,hb2⟩
 have HT:M6 (∀X,MQ u3.heap.size u3 X->Ni MK 144 #[Ny #[MG U.pt G.tab.length U.ct]] X fun r w'=>r=MN (MF ME 0)/\(w'.cell? ⟨g,0,MH⟩=MI (MF ME G.cfg.flows)/\w'.cell? ⟨g,17,MH⟩=MI (MG U.pt G.tab.length U.ct)/\w'.cell? ⟨g,19,MH⟩=MI (MG U.pl G.liv.length U.cl)/\w'.cell? ⟨g,20,MH⟩=MI (MG U.pr G.req.length U.cr)/\MQ u3.heap.size u3 w')):=fun X hX=>by
  refine(lZ _ G.tab X (hG3.below hX).wat.tab).mono ?_;rw[Nh hbs.tab];rintro r w' ⟨rfl,hb⟩;have hb2:=hX.trans (hb.mono hX.size);exact⟨rfl,(hb2.cell hgl3).trans e0,(hb2.cell hgl3).trans e17,(hb2.cell hgl3).trans e19,(hb2.cell hgl3).trans e20,hb2⟩
 have H3:M6 _:=hb3;clear hG3 hwm hbs hb3
 go_wp2_with fail
 apply gU
 ·intro KEY
  go_region_held3 (fun X=>X.cell? ⟨g,0,MH⟩=MI (MF ME G.cfg.flows)/\X.cell? ⟨g,17,MH⟩=MI (MG U.pt G.tab.length U.ct)/\X.cell? ⟨g,19,MH⟩=MI (MG U.pl G.liv.length U.cl)/\X.cell? ⟨g,20,MH⟩=MI (MG U.pr G.req.length U.cr)/\MQ u3.heap.size u3 X) (first|exact⟨e0,e17,e19,e20,(MY _ _).drew⟩|exact⟨e0,e17,e19,e20,Below.refl _ _⟩|exact hS1|exact hS2) (first|(go_at_call 143;refine(HL.out _ ?hbW).mono ?_;(case hbW=>first|with_reducible assumption|exact(MY _ _).drew|exact Below.refl _ _);rintro r w6 ⟨rfl,hS1⟩)|(go_at_call 144;refine(HT.out _ ?hbW).mono ?_;(case hbW=>first|with_reducible assumption|exact hS1.2.2.2.2|exact(Below.refl _ _).drew);rintro r w7 ⟨rfl,hS2⟩))
  all_goals
   have hQ:M6 _:=hS2.2.2.2.2;rename_i hHe;clear hHe hS1 hS2;revert w7;exact KEY.out
 intro w7 hQ;have HQ:M6 _:=hQ.out;clear hQ;go_wp2;go_ret;exact⟨rfl,H3.out.trans (HQ.out.mono H3.out.size)⟩
end
section
variable {base:Nat}{w w':MO}{g:Nat}{V:Vs}{U:Us}{G:Gt}
theorem zr(hb:MQ W.heap.size W w5)(v0 v1 v2 v3:M7)(T:NU):∃bx u3,bx=w5.heap.size/\u3=w5.alloc (MP #[v0,v1,v2,v3] T)/\M6 (MQ W.heap.size W u3):=
 ⟨_,_,rfl,rfl,hb.alloc hb.size _⟩
theorem xG(hb:MQ W.heap.size W w5)(v0 v1 v2 v3:M7):∃bx u3,bx=W.heap.size/\u3=(((w5.setCell ⟨W.heap.size,0,MH⟩ v0).setCell ⟨W.heap.size,1,MH⟩ v1).setCell ⟨W.heap.size,2,MH⟩ v2).setCell ⟨W.heap.size,3,MH⟩ v3/\M6 (MQ W.heap.size W u3):=
 ⟨_,_,rfl,rfl,(((hb.setCell (MV _) _).setCell (MV _) _).setCell (MV _) _).setCell (MV _) _⟩
theorem xR(hwm:Wm G){x:He}(hx:x∈G.hea):da G.cfg.wn G.cfg.wf G.cfg.wh x.marks x.out x.till x.times G.now=((x.marks,x.out,x.till,x.times),Nb,0):=by
 have hn:=hwm.im.bs.now;refine EC hwm.im.bs.Gx (by omega) (hwm.im.bs.hea x hx) ?_;cases ho:x.out
 ·exact Nt rfl
 ·exact NF (hwm.out x hx ho)
theorem BW(h:RG w g U G)(hwm:Wm G){m:Mk}{x:He}(hx:x∈G.hea)(hm:bK w (MG m.1 x.marks.length m.2) x.marks)(hc:w.cell? ⟨b,0,MH⟩=MI (gP g)):
  Ni MK 145 #[gF m.1 m.2 x,Na (MI ⟨b,0,MH⟩)] w fun r w'=>r=MN (M3 Nb)/\MQ w.heap.size w w':=by
 obtain⟨W,hW⟩:∃W,W=w.alloc (MP #[MG m.1 x.marks.length m.2,M3 x.out,MF ME x.till,MF ME x.times] 94):=⟨_,rfl⟩;have hB:MQ w.heap.size w W:=by rw[hW];exact ai w
 have hR:W.heap[w.heap.size]?=MI (MP #[MG m.1 x.marks.length m.2,M3 x.out,MF ME x.till,MF ME x.times] 94):=by rw[hW];exact M1 _ _
 have hG:=h.below hB;have hgl:=hG.lt;have hblw:b<w.heap.size:=MX w ⟨b,0,MH⟩ hc;have hbl:b<W.heap.size:=M8 hblw hB.size;have hcb:W.cell? ⟨b,0,MH⟩=MI (gP g):=(hB.cell hblw).trans hc;have y0:W.cell? ⟨w.heap.size,0,MH⟩=MI (MG m.1 x.marks.length m.2):=by rw[MW W _ 0 _ _ (0,0) hR];rfl
 have y1:W.cell? ⟨w.heap.size,1,MH⟩=MI (M3 x.out):=by rw[MW W _ 1 _ _ (0,0) hR];rfl
 have y2:W.cell? ⟨w.heap.size,2,MH⟩=MI (MF ME x.till):=by rw[MW W _ 2 _ _ (0,0) hR];rfl
 have y3:W.cell? ⟨w.heap.size,3,MH⟩=MI (MF ME x.times):=by rw[MW W _ 3 _ _ (0,0) hR];rfl
 have hl1:w.heap.size<W.heap.size:=(Array.getElem?_eq_some_iff.1 hR).1;have e13:=hG.GS;have e14:=hG.GU;have e15:=hG.GO;have e16:=hG.Gm;have hO:=xR hwm hx;have HB:M6 (∀X,MQ W.heap.size W X->Ni MK 146 #[Ny #[MF ME G.cfg.wn,MF ME G.cfg.wf,MF ME G.cfg.wh],gF m.1 m.2 x,MF ME G.now] X fun r w'=>∃p c,r=MN (Nv #[gF p c x,M3 Nb,MF ME 0])/\M6 (MQ W.heap.size W w')/\(∀n,n<X.heap.size->n<w'.heap.size)/\(∀b o,b<X.heap.size->w'.cell? ⟨b,o,MH⟩=X.cell? ⟨b,o,MH⟩)/\(∀b o,b<X.heap.size->w'.frozen? ⟨b,o,MH⟩=X.frozen? ⟨b,o,MH⟩)):=fun X hX=>by
  refine(uE G.cfg.wn G.cfg.wf G.cfg.wh (MG m.1 x.marks.length m.2) x.marks x.out x.till x.times G.now X (hm.below (hB.trans (hX.mono hB.size)))).mono ?_;rw[hO];rintro r w' ⟨p,c,rfl,_,_,hb⟩;exact⟨p,c,rfl,hX.trans (hb.mono hX.size),fun n hn=>M8 hn hb.size,fun b o hb'=>hb.cell (p:=⟨b,o,MH⟩) hb',fun b o hb'=>OM (a:=⟨b,o,MH⟩) (hb.block b hb')⟩
 have HS:M6 (∀X,MQ W.heap.size W X->X.cell? ⟨b,0,MH⟩=MI (gP g)/\X.cell? ⟨g,13,MH⟩=MI (MF ME G.cfg.wn)/\X.cell? ⟨g,14,MH⟩=MI (MF ME G.cfg.wf)/\X.cell? ⟨g,15,MH⟩=MI (MF ME G.cfg.wh)/\X.cell? ⟨g,16,MH⟩=MI (MF ME G.now)/\X.cell? ⟨w.heap.size,0,MH⟩=MI (MG m.1 x.marks.length m.2)/\X.cell? ⟨w.heap.size,1,MH⟩=MI (M3 x.out)/\X.cell? ⟨w.heap.size,2,MH⟩=MI (MF ME x.till)/\X.cell? ⟨w.heap.size,3,MH⟩=MI (MF ME x.times)/\MQ W.heap.size W X):=fun X hX =>
  ⟨(hX.cell hbl).trans hcb,(hX.cell hgl).trans e13,(hX.cell hgl).trans e14,(hX.cell hgl).trans e15,(hX.cell hgl).trans e16,(hX.cell hl1).trans y0,(hX.cell hl1).trans y1,(hX.cell hl1).trans y2,(hX.cell hl1).trans y3,hX⟩
 have H:M6 _:=hB;clear hO hB hG h hwm hx hm hc hR hblw;go_enter SM,Sr
 go_wp2_with fail
 rw[<-hW];clear hW;apply gU
 ·intro KEY
  go_region_held3 (fun X=>X.cell? ⟨b,0,MH⟩=MI (gP g)/\X.cell? ⟨g,13,MH⟩=MI (MF ME G.cfg.wn)/\X.cell? ⟨g,14,MH⟩=MI (MF ME G.cfg.wf)/\X.cell? ⟨g,15,MH⟩=MI (MF ME G.cfg.wh)/\X.cell? ⟨g,16,MH⟩=MI (MF ME G.now)/\X.cell? ⟨w.heap.size,0,MH⟩=MI (MG m.1 x.marks.length m.2)/\X.cell? ⟨w.heap.size,1,MH⟩=MI (M3 x.out)/\X.cell? ⟨w.heap.size,2,MH⟩=MI (MF ME x.till)/\X.cell? ⟨w.heap.size,3,MH⟩=MI (MF ME x.times)/\MQ W.heap.size W X) (first|exact HS.out _ ((MY _ _).drew)|exact HS.out _ (((MY _ _).drew).alloc (by simp) _)|exact HS.out _ hq5.out|exact HS.out _ (hq5.out.alloc hq5.out.size _)|exact HS.out _ (((MY _ _).alloc (MV _) _).drew)|exact HS.out _ ((((hq5.out.setCell (MV _) _).setCell (MV _) _).setCell (MV _) _).setCell (MV _) _)) (first|(go_at_call 146;refine(HB.out _ ?hbW).mono ?_;(case hbW=>first|with_reducible assumption|exact(MY _ _).drew|exact((MY _ _).drew).alloc (by simp) _|exact((Below.refl _ _).alloc (Nat.le_refl _) _).drew);rintro r w5 ⟨p,c,rfl,hq5,hz5,hc5,hf5⟩))
  all_goals
   clear hz5 hc5 hf5;rename_i hHe;clear hHe
   first
   | (obtain⟨bx,u3,hbx,hu3,hQ⟩:=zr hq5.out (MG p x.marks.length c) (M3 x.out) (MF ME x.till) (MF ME x.times) 94
      rw[<-hu3]
      try rw[<-hbx]
      clear hu3 hbx hq5;revert p c bx u3;exact KEY.out)
   | (obtain⟨bx,u3,hbx,hu3,hQ⟩:=xG hq5.out (MG p x.marks.length c) (M3 x.out) (MF ME x.till) (MF ME x.times)
      rw[<-hu3]
      try rw[<-hbx]
      clear hu3 hbx hq5;revert p c bx u3;exact KEY.out)
 intro p c bx u3 hQ;have HQ:M6 _:=hQ.out;clear hQ;go_wp2;go_ret;exact⟨rfl,H.out.trans (HQ.out.mono H.out.size)⟩
theorem C6(v:M7)(l:List (Mk×He))(w:MO)(hv:bj fD w v l)(f:Nat)(hcl:∀x∈l,∀W,MQ w.heap.size w W->Ni MK 145 #[gF x.1.1 x.1.2 x.2,Na (MI ⟨f,0,MH⟩)] W fun r w'=>r=MN (M3 Nb)/\MQ W.heap.size W w') :
  Ni MK 194 #[v,PB (PD 145) #[] #[Na (MI ⟨f,0,MH⟩)]] w fun r w'=>r=MN (MF ME (-1))/\MQ w.heap.size w w':=by
 obtain⟨a,ca,rfl,hca,hma,pa⟩:=bj.F6 ii hv;unfold NE at hma;have HC:M6 _:=hcl;clear hv hcl;go_enter SV,Sy;go_wp2
 go_loopw [8] (fun i wr=>∃k:Nat,i=MF ME k/\k<=l.length/\MQ w.heap.size w wr) (fun i _=>l.length-(intOf i).toNat)
 case atStart=>exact⟨0,rfl,Nx _,MY _ _⟩
 case round =>
  obtain⟨k,rfl,hk,hbr⟩:=hrel
  by_cases hlt:k<l.length
  ·obtain⟨b1,o1,rfl,hb1,cc⟩:=pa k hlt
   have hkI:(k:Int)<(l.length:Int):=by omega
   obtain⟨x,hxe⟩:∃x,x=l[k]:=⟨_,rfl⟩;have hmem:x∈l:=by rw[hxe];exact Nk hlt
   rw[<-hxe]at cc;have e1:=(hbr.cell (p:=⟨b1,o1+k*4,MH⟩) hb1).trans ((cc 0 (by omega)).trans (rfl:_=MI (MG x.1.1 x.2.marks.length x.1.2)));have e2:=(hbr.cell (p:=⟨b1,o1+k*4+1,MH⟩) hb1).trans ((cc 1 (by omega)).trans (rfl:_=MI (M3 x.2.out)));have e3:=(hbr.cell (p:=⟨b1,o1+k*4+2,MH⟩) hb1).trans ((cc 2 (by omega)).trans (rfl:_=MI (MF ME x.2.till)));have e4:=(hbr.cell (p:=⟨b1,o1+k*4+3,MH⟩) hb1).trans ((cc 3 (by omega)).trans (rfl:_=MI (MF ME x.2.times)));have HA:M6 (_/\_):=⟨hbr,hmem⟩;clear hbr cc hb1 pa hxe hmem
   go_wp2_with fail
   refine(HC.out x HA.out.2 _ HA.out.1).mono ?_;rintro r w2 ⟨rfl,hb2⟩;have H2:M6 _:=hb2;clear hb2;go_wp2
   go_roundw
   case rel=>exact⟨k+1,by simp,hlt,HA.out.1.trans (H2.out.mono HA.out.1.size)⟩
   case measure=>simp[intOf];omega
  ·have HB:M6 _:=hbr
   clear hbr pa;go_wp2;go_ret;exact⟨rfl,HB.out⟩
theorem FQ(v:M7)(l:List (Mk×He))(w:MO)(hv:bj fD w v l)(f:Nat)(hcl:∀x∈l,∀W,MQ w.heap.size w W->Ni MK 145 #[gF x.1.1 x.1.2 x.2,Na (MI ⟨f,0,MH⟩)] W fun r w'=>r=MN (M3 Nb)/\MQ W.heap.size W w') :
  Ni MK 147 #[v,PB (PD 145) #[] #[Na (MI ⟨f,0,MH⟩)]] w fun r w'=>r=MN (M3 Nb)/\MQ w.heap.size w w':=by
 have HV:M6 _:=C6 v l w hv f hcl;clear hv hcl;go_enter Tryz.func147,Tryz.ntmps147
 go_wp2_with fail
 refine Nd HV.out ?_;rintro r w1 ⟨rfl,hb⟩;have HB:M6 _:=hb;clear hb;go_wp2;go_ret;exact⟨rfl,HB.out⟩
theorem Bl(h:RG w g U G)(hwm:Wm G):Ni MK 91 #[gP g] w fun r w'=>r=MN (M3 Nw)/\MQ w.heap.size w w':=by
 obtain⟨W,hW⟩:∃W,W=w.alloc (MP #[gP g] 140):=⟨_,rfl⟩;have hB:MQ w.heap.size w W:=by rw[hW];exact ai w
 have hG:=h.below hB;have hc:W.cell? ⟨w.heap.size,0,MH⟩=MI (gP g):=by rw[hW];exact aM (M1 _ _)
 have hlw:w.heap.size<W.heap.size:=by rw[hW];simp
 have hcl:∀x∈U.ms.zip G.hea,∀X,MQ W.heap.size W X->Ni MK 145 #[gF x.1.1 x.1.2 x.2,Na (MI ⟨w.heap.size,0,MH⟩)] X fun r w'=>r=MN (M3 Nb)/\MQ X.heap.size X w':=by
  intro x hx X hX;obtain⟨i,hi,e⟩:=NV hx;have e1:U.ms[i]?=MI x.1:=by rw[<-e,Qf];exact MR _
  have e2:G.hea[i]?=MI x.2:=by rw[<-e,Qf];exact MR _
  have hG2:=hG.below hX;exact BW hG2 hwm (Nu e2) (hG2.wat.marks i x.1 x.2 e1 e2) ((hX.cell hlw).trans hc)
 have HI:M6 (_/\_):=⟨FQ (MG U.ph 12 U.ch) (U.ms.zip G.hea) W hG.wat.hea w.heap.size hcl,hB⟩;have c22:=h.GI;have hgl:=h.lt;clear hG h hc hB hcl hlw hwm;go_enter TP,TI
 go_wp2_with fail
 rw[<-hW];refine Nd HI.out.1 ?_;rintro r w1 ⟨rfl,hb1⟩;have HB:M6 _:=HI.out.2.trans (hb1.mono HI.out.2.size);clear hb1;go_wp2;go_ret;exact⟨rfl,HB.out⟩
end
section
variable {base:Nat}{w w':MO}{g:Nat}{V:Vs}{U:Us}{G:Gt}
theorem yO(h:RG w g U G)(f:Fl)(hr:0<=f.ret/\f.ret<=G.cfg.ret)(hd:G.now+1<=f.due/\f.due<=G.now+500)(hnow:0<=G.now/\G.now<=1099511626776)(hst:aA G.liv f.be=2\/aA G.liv f.be=3) :
  Ni MK 148 #[gP g,dM f,MF ME f.slot,Ny #[MF ME f.gen,M3 Nw,MF ME f.key,MF ME f.be]] w fun r w'=>r=MN (M3 Nw)/\MQ w.heap.size w w':=by
 obtain⟨W,hW⟩:∃W,W=(w.alloc (MP #[MF ME f.slot,MF ME f.gen,MF ME f.key,MF ME f.be,M3 f.srv,MF ME f.ret,MF ME f.due] 99)).alloc (MP #[MF ME f.gen,M3 Nw,MF ME f.key,MF ME f.be] 174):=⟨_,rfl⟩;have hx:=iF w (MP #[MF ME f.slot,MF ME f.gen,MF ME f.key,MF ME f.be,M3 f.srv,MF ME f.ret,MF ME f.due] 99) (MP #[MF ME f.gen,M3 Nw,MF ME f.key,MF ME f.be] 174);rw[<-hW]at hx;obtain⟨hR0,hR1,hB,hsz⟩:=hx;clear hsz;have hG:=h.below hB;obtain⟨x,hxe⟩:∃x,x=aq G.liv f.be:=⟨_,rfl⟩;have HL:M6 _:=zS hG f.be;rw[<-hxe]at HL;have hst':x.2.1=2\/x.2.1=3:=by rw[hxe];exact hst
 have hfd:∀X:MO,(Instr.field 91 (gu x) 1).run MK X=.ok (MF ME x.2.1) X:=fun X=>by kernel_rfl
 have x3:W.cell? ⟨w.heap.size,3,MH⟩=MI (MF ME f.be):=by rw[MW W _ 3 _ _ (0,0) hR0];rfl
 have hl0:w.heap.size<W.heap.size:=(Array.getElem?_eq_some_iff.1 hR0).1;have hl1:w.heap.size+1<W.heap.size:=(Array.getElem?_eq_some_iff.1 hR1).1;have H:M6 (_/\_/\_/\_):=⟨hB,hG,hR0,hR1⟩;have HW1:M6 (∀X:MO,Ni MK 83 #[MF ME f.ret,MF ME 0,MF ME G.cfg.ret] X fun r w'=>r=MN (M3 Nw)/\w'=X):=fun X=>by
  have:=gz f.ret 0 G.cfg.ret X;rwa[Nq hr]at this
 have hw1:IntKind.i64.wrap (G.now+1)=G.now+1:=by rw[Ow];omega
 have hw2:IntKind.i64.wrap (G.now+500)=G.now+500:=by rw[Ow];omega
 have HW2:M6 (∀X:MO,Ni MK 83 #[MF ME f.due,MF ME (G.now+1),MF ME (G.now+500)] X fun r w'=>r=MN (M3 Nw)/\w'=X):=fun X=>by
  have:=gz f.due (G.now+1) (G.now+500) X;rwa[Nq hd]at this
 clear h hB hG hR0 hR1 hxe hst hr hd hnow;go_enter Tryz.func148,Tryz.ntmps148
 go_wp2_with fail
 rw[<-hW];clear hW;refine Nd HL.out ?_;rintro r w1 ⟨rfl,hb1⟩;have hG1:=H.out.2.1.below hb1;have hR0:=af H.out.2.2.1 hb1;have hR1:=af H.out.2.2.2 hb1;have y0:w1.cell? ⟨w.heap.size,0,MH⟩=MI (MF ME f.slot):=by rw[MW w1 _ 0 _ _ (0,0) hR0];rfl
 have y1:w1.cell? ⟨w.heap.size,1,MH⟩=MI (MF ME f.gen):=by rw[MW w1 _ 1 _ _ (0,0) hR0];rfl
 have y2:w1.cell? ⟨w.heap.size,2,MH⟩=MI (MF ME f.key):=by rw[MW w1 _ 2 _ _ (0,0) hR0];rfl
 have y3:w1.cell? ⟨w.heap.size,3,MH⟩=MI (MF ME f.be):=by rw[MW w1 _ 3 _ _ (0,0) hR0];rfl
 have y5:w1.cell? ⟨w.heap.size,5,MH⟩=MI (MF ME f.ret):=by rw[MW w1 _ 5 _ _ (0,0) hR0];rfl
 have y6:w1.cell? ⟨w.heap.size,6,MH⟩=MI (MF ME f.due):=by rw[MW w1 _ 6 _ _ (0,0) hR0];rfl
 have z0:w1.cell? ⟨w.heap.size+1,0,MH⟩=MI (MF ME f.gen):=by rw[MW w1 _ 0 _ _ (0,0) hR1];rfl
 have z2:w1.cell? ⟨w.heap.size+1,2,MH⟩=MI (MF ME f.key):=by rw[MW w1 _ 2 _ _ (0,0) hR1];rfl
 have z3:w1.cell? ⟨w.heap.size+1,3,MH⟩=MI (MF ME f.be):=by rw[MW w1 _ 3 _ _ (0,0) hR1];rfl
 have e8:=hG1.c8;have e16:=hG1.Gm;have hgl:=hG1.lt;have hl2:w.heap.size<w1.heap.size:=M8 hl0 hb1.size;have hl3:w.heap.size+1<w1.heap.size:=M8 hl1 hb1.size;have HB:M6 _:=H.out.1.trans (hb1.mono H.out.1.size);clear hb1 hG1 hR0 hR1 x3 hl0 hl1;obtain⟨s,hs⟩:∃s,s=x.2.1:=⟨_,rfl⟩;rw[<-hs]at hst' hfd;clear hs;rcases hst' with rfl|rfl
 ·go_wp2_with fail
  go_quiet (first|(go_at_call_of 83 (MF ME f.ret);exact Qe ((HW1.out _).mono fun r w' h=>⟨h.1,0,h.2⟩))|(go_at_call_of 83 (MF ME f.due);rw[hw1,hw2];exact Calls.quiet_of ((HW2.out _).mono fun r w' h=>⟨h.1,0,h.2⟩))|(go_at_call_of 83 (MF ME f.due);exact Qe ((HW2.out _).mono fun r w' h=>⟨h.1,0,h.2⟩)))
  go_wp2;go_ret;exact⟨rfl,dz HB.out _⟩
 ·go_wp2_with fail
  go_quiet (first|(go_at_call_of 83 (MF ME f.ret);exact Qe ((HW1.out _).mono fun r w' h=>⟨h.1,0,h.2⟩))|(go_at_call_of 83 (MF ME f.due);rw[hw1,hw2];exact Calls.quiet_of ((HW2.out _).mono fun r w' h=>⟨h.1,0,h.2⟩))|(go_at_call_of 83 (MF ME f.due);exact Qe ((HW2.out _).mono fun r w' h=>⟨h.1,0,h.2⟩)))
  go_wp2;go_ret;exact⟨rfl,dz HB.out _⟩
theorem Em{p:Option Oc}{c n:Nat}{f:Fl}{L:List Fl}(hn:n=L.length)(h:dS w (MG p (n+1) c) (f::L)) :
  ∃p2 c2,(∀W:MO,(Instr.sliceAt 39 (MG p (n+1) c) (MI (MF ME 1)) MH MH).run MK W=.ok (MG p2 n c2) W)/\dS w (MG p2 n c2) L:=by
 subst hn;obtain⟨a,cap,hv,hc,hm,hr⟩:=h;have hc:L.length+1<=cap:=hc;injection hv with e1 e2 e3;subst e1 e3;have u22:Tryz.prog.underlying 39=MI (.slice (Tryz.prog.elem 39)):=by kernel_rfl
 obtain⟨i0,hi,hz0,hz1,hz2⟩:=OF kt;have hsz:∀W:MO,(sizeOf (Tryz.prog.elem 39)).run MK W=.ok 7 W:=fun W=>by
  rw[show Tryz.prog.elem 39=99 by kernel_rfl];simp[sizeOf,typeInfo,hi,hz1]
 refine⟨if c=1 then p else p.map (·.add (1*7)),c-1,fun W=>?_,?_⟩
 ·rw[run_sliceAt_slice _ _ _ _ _ _ u22]
  rw[run_slice_l _ _ _ _ _ u22 _ _ (by omega) (by omega),hsz];simp[Result.andThen,sliced]
 ·refine⟨_,_,rfl,by omega,by unfold NE at *;omega,?_⟩
  by_cases h0:L.length=0
  ·exact Nt ⟨h0,by rw[List.length_eq_zero_iff.1 h0];rfl⟩
  ·rcases hr with⟨h1,_⟩|⟨b,off,rfl,hb,hcell⟩
   ·exact absurd h1 (by simp)
   ·refine NF ⟨b,off+1*7,by rw[Nf (by omega)];simp[Addr.add],hb,fun i hi'=>?_⟩
    have hl7:=gS ba L;have hi2:i<(rv ap L).length:=hi';have h7:=hcell (1*7+i) (by
     show 1*7+i<(ap f++rv ap L).length;rw[Ns,ba];omega)
    rw[Nat.add_assoc,h7];show(ap f++rv ap L)[1*7+i]?=_;rw[Tw (by rw[ba];omega),ba,Nat.one_mul,Nat.add_sub_cancel_left]
theorem zB{k:Nat}(hk:k<G.tab.length):aP k (G.tab.drop k)=if G.tab[k].2.1=Nw then((k:Int),G.tab[k].1,G.tab[k].2.2.1,G.tab[k].2.2.2)::aP ((k+1:Nat):Int) (G.tab.drop (k+1))else aP ((k+1:Nat):Int) (G.tab.drop (k+1)):=by
 rw[(Pp hk).symm];show(if G.tab[k].2.1=Nw then _ else _)=_;rw[show((k:Int)+1)=((k+1:Nat):Int)by push_cast;rfl]
theorem Cg{P:O8}{w:MO}{ops:Array Oper}{rest:List Oper}{o:Oper}{a:Act}{Q:Exit->Act->MO->Prop}(hgd:o.guard=MH)(T:NU)(x:Operand)(lo hi mx:Option Operand)
  (ho:o.op=.slice T x lo hi mx) (y:M7) (hr:(Instr.sliceAt T (a.eval x) (lo.map a.eval) (hi.map a.eval) (mx.map a.eval)).run P w=.ok y w)
  (h:wpList P ops Q rest (a.put o.dst y) w):wpList P ops Q (o::rest) a w :=
 wpList_plain hgd fun _ hK=>by
  unfold RB execOp;simp only[ho,Pn,P3,PG,hr];exact hK _ _ h
theorem D7(h:RG w g U G)(hwm:Wm G):Ni MK 92 #[gP g] w fun r w'=>r=MN (M3 Nw)/\MQ w.heap.size w w':=by
 have c17:=h.Gs;have c18:=h.Gr;have hgl:=h.lt;have hff:=h.wat.fls;have hseat:=hwm.im.bs.seats;obtain⟨al,cal,hel,hcal,hmal,pal⟩:=bS.F6 h.wat.tab;injection hel with el1 eln el3;unfold NE at hmal;rw[el1,el3]at c17;clear el1 el3 eln;have H:M6 (_/\_/\_/\_/\_):=⟨h,hwm,pal,hff,hseat⟩;clear h hwm pal hff hseat
 go_enter Tryz.func92,Tryz.ntmps92;go_wp2
 go_loopw [3,18] (fun v i wr=>∃(k:Nat) (L:List Fl) (p:Option Oc) (c:Nat),i=MF ME (k:Int)/\v=MG p L.length c/\k<=G.tab.length/\M6 (dS w (MG p L.length c) L/\L.map Fl.F8=aP k (G.tab.drop k)/\(∀f∈L,f∈G.fls)/\MQ w.heap.size w wr)) (fun _ i _=>G.tab.length-(intOf i).toNat)
 case atStart=>exact⟨0,G.fls,U.pf,U.cf,rfl,rfl,Nx _,H.out.2.2.2.1,by rw[List.drop_zero];exact H.out.2.2.2.2,fun f hf=>hf,MY _ _⟩
 case round =>
  obtain⟨k,L,p,c,rfl,rfl,hk,HI⟩:=hrel;obtain⟨W,hW⟩:∃W,W=wr:=⟨_,rfl⟩;subst hW
  by_cases hlt:k<G.tab.length
  ·have hkI:(k:Int)<(G.tab.length:Int):=by omega
   obtain⟨b1,o1,hpa,hb1,z0,z1,z2,z3⟩:=H.out.2.2.1 k hlt;obtain⟨⟨x1,x2,x3,x4⟩,hxe⟩:∃x,x=G.tab[k]:=⟨_,rfl⟩;have hse:=zB (G:=G) hlt;rw[<-hxe]at z0 z1 z2 z3 hse;have hbr:=HI.out.2.2.2;have e0:=(hbr.cell (p:=⟨b1,o1+k*4,MH⟩) hb1).trans z0;have e1:=(hbr.cell (p:=⟨b1,o1+k*4+1,MH⟩) hb1).trans z1;have e2:=(hbr.cell (p:=⟨b1,o1+k*4+2,MH⟩) hb1).trans z2;have e3:=(hbr.cell (p:=⟨b1,o1+k*4+3,MH⟩) hb1).trans z3;have hbk2:b1<W.heap.size:=M8 hb1 hbr.size;obtain⟨W1,hW1⟩:∃W1,W1=W.alloc (MP #[MF ME x1,M3 x2,MF ME x3,MF ME x4] 174):=⟨_,rfl⟩;have hB1:MQ W.heap.size W W1:=by rw[hW1];exact ai W
   have hR1:W1.heap[W.heap.size]?=MI (MP #[MF ME x1,M3 x2,MF ME x3,MF ME x4] 174):=by rw[hW1];exact M1 _ _
   have y0:W1.cell? ⟨W.heap.size,0,MH⟩=MI (MF ME x1):=by rw[MW W1 _ 0 _ _ (0,0) hR1];rfl
   have y1:W1.cell? ⟨W.heap.size,1,MH⟩=MI (M3 x2):=by rw[MW W1 _ 1 _ _ (0,0) hR1];rfl
   have y2:W1.cell? ⟨W.heap.size,2,MH⟩=MI (MF ME x3):=by rw[MW W1 _ 2 _ _ (0,0) hR1];rfl
   have y3:W1.cell? ⟨W.heap.size,3,MH⟩=MI (MF ME x4):=by rw[MW W1 _ 3 _ _ (0,0) hR1];rfl
   have hl1:W.heap.size<W1.heap.size:=(Array.getElem?_eq_some_iff.1 hR1).1;have HX:M6 (_/\_):=⟨hbr.trans (hB1.mono hbr.size),hse⟩;clear hB1 hR1 hxe z0 z1 z2 z3 hb1 hbr hse;subst hpa;cases x2
   ·go_wp2_with fail
    rw[<-hW1];clear hW1 e0 e1 e2 e3 hbk2;go_wp2
    go_roundw
    case rel=>exact⟨k+1,L,p,c,by go_num,rfl,hlt,HI.out.1,by rw[HI.out.2.1,HX.out.2,Nf (by show ¬Nb=Nw;decide)],HI.out.2.2.1,HX.out.1⟩
    case measure=>simp[intOf];omega
   ·have hm:=HI.out.2.1
    rw[HX.out.2,Nh rfl]at hm;cases L with
    |nil=>exact absurd hm (by simp)
    |cons f L' =>
     rw[OA]at hm;obtain⟨hm1,hm2⟩:=List.cons.inj hm;clear hm;have hm1:f.F8=((k:Int),x1,x3,x4):=hm1;unfold Fl.F8 at hm1;simp only[Q7]at hm1;obtain⟨q1,rfl,rfl,rfl⟩:=hm1;obtain⟨n,hn⟩:∃n,n=L'.length:=⟨_,rfl⟩;have hln:(f::L').length=n+1:=by rw[Ox,hn]
     have hfa:dS w (MG p (n+1) c) (f::L'):=by rw[<-hln];exact HI.out.1
     obtain⟨p2,c2,hsl,hft⟩:=Em hn hfa;obtain⟨a2,ca2,hv2,hc2,hmx2,pf2⟩:=dS.F6 hfa;injection hv2 with ev1 ev2 ev3;obtain⟨b2,o2,hpb,hb2,t0,t1,t2,t3,t4,t5,t6⟩:=pf2 0 (by simp);simp only[Nat.zero_mul,Oe,MS]at t0 t1 t2 t3 t4 t5 t6;rw[hpb]at ev1;subst ev1;have hc3:n+1<=c:=by rw[ev3];rw[hln]at hc2;exact hc2
     have hc4:c<=9223372036854775807:=by rw[ev3];exact hmx2
     have hmem:f∈G.fls:=HI.out.2.2.1 f NM;have hG1:=H.out.1.below HX.out.1;have hbw:b2<W1.heap.size:=M8 hb2 HX.out.1.size;have v0:=(HX.out.1.cell (p:=⟨b2,o2,MH⟩) hb2).trans t0;have v1:=(HX.out.1.cell (p:=⟨b2,o2+1,MH⟩) hb2).trans t1;have v2:=(HX.out.1.cell (p:=⟨b2,o2+2,MH⟩) hb2).trans t2;have v3:=(HX.out.1.cell (p:=⟨b2,o2+3,MH⟩) hb2).trans t3;have v4:=(HX.out.1.cell (p:=⟨b2,o2+4,MH⟩) hb2).trans t4;have v5:=(HX.out.1.cell (p:=⟨b2,o2+5,MH⟩) hb2).trans t5;have v6:=(HX.out.1.cell (p:=⟨b2,o2+6,MH⟩) hb2).trans t6;have HF:M6 (∀X,MQ W1.heap.size W1 X->Ni MK 148 #[gP g,dM f,MF ME (k:Int),Ny #[MF ME f.gen,M3 Nw,MF ME f.key,MF ME f.be]] X fun r w'=>r=MN (M3 Nw)/\(w'.cell? ⟨b2,o2,MH⟩=MI (MF ME f.slot)/\w'.cell? ⟨b2,o2+1,MH⟩=MI (MF ME f.gen)/\w'.cell? ⟨b2,o2+2,MH⟩=MI (MF ME f.key)/\w'.cell? ⟨b2,o2+3,MH⟩=MI (MF ME f.be)/\w'.cell? ⟨b2,o2+4,MH⟩=MI (M3 f.srv)/\w'.cell? ⟨b2,o2+5,MH⟩=MI (MF ME f.ret)/\w'.cell? ⟨b2,o2+6,MH⟩=MI (MF ME f.due)/\w'.cell? ⟨W.heap.size,0,MH⟩=MI (MF ME f.gen)/\w'.cell? ⟨W.heap.size,1,MH⟩=MI (M3 Nw)/\w'.cell? ⟨W.heap.size,2,MH⟩=MI (MF ME f.key)/\w'.cell? ⟨W.heap.size,3,MH⟩=MI (MF ME f.be))/\M6 (MQ W1.heap.size W1 w')):=fun X hX=>by
      have hd1:=H.out.2.1.due f hmem;have hd2:=H.out.2.1.im.hi f hmem;rw[<-q1];refine(yO (hG1.below hX) f (H.out.2.1.im.bs.rets f hmem) ⟨by omega,hd2⟩ H.out.2.1.im.bs.now (H.out.2.1.im.be f hmem)).mono ?_;rintro r w' ⟨rfl,hb⟩;have hb':=hX.trans (hb.mono hX.size);exact⟨rfl,⟨(hb'.cell hbw).trans v0,(hb'.cell hbw).trans v1,(hb'.cell hbw).trans v2,(hb'.cell hbw).trans v3,(hb'.cell hbw).trans v4,(hb'.cell hbw).trans v5,(hb'.cell hbw).trans v6,(hb'.cell hl1).trans y0,(hb'.cell hl1).trans y1,(hb'.cell hl1).trans y2,(hb'.cell hl1).trans y3⟩,hb'⟩
     have hnz:(((n+1:Nat):Int) == 0)=false:=beq_eq_false_iff_ne.2 (by omega);have HZ:M6 (_/\_/\_/\_):=⟨hsl,hft,hm2,hn⟩;rw[hln];clear hsl hft hm2 hfa pf2 ev2 ev3 hpb t0 t1 t2 t3 t4 t5 t6 hG1 hmem hn hln hc2 hmx2 q1 hb2
     go_wp2_with fail
     rw[<-hW1];clear hW1 e0 e1 e2 e3 hbk2
     go_wp2_with fail
     apply gU
     ·intro KEY
      go_region_held3 (fun X=>X.cell? ⟨b2,o2,MH⟩=MI (MF ME f.slot)/\X.cell? ⟨b2,o2+1,MH⟩=MI (MF ME f.gen)/\X.cell? ⟨b2,o2+2,MH⟩=MI (MF ME f.key)/\X.cell? ⟨b2,o2+3,MH⟩=MI (MF ME f.be)/\X.cell? ⟨b2,o2+4,MH⟩=MI (M3 f.srv)/\X.cell? ⟨b2,o2+5,MH⟩=MI (MF ME f.ret)/\X.cell? ⟨b2,o2+6,MH⟩=MI (MF ME f.due)/\X.cell? ⟨W.heap.size,0,MH⟩=MI (MF ME f.gen)/\X.cell? ⟨W.heap.size,1,MH⟩=MI (M3 Nw)/\X.cell? ⟨W.heap.size,2,MH⟩=MI (MF ME f.key)/\X.cell? ⟨W.heap.size,3,MH⟩=MI (MF ME f.be)) (first|exact⟨v0,v1,v2,v3,v4,v5,v6,y0,y1,y2,y3⟩|exact hS1) (first|(go_at_call 148;refine(HF.out _ (by first|exact(MY _ _).drew|exact Below.refl _ _)).mono ?_;rintro r w3 ⟨rfl,hS1,hQ⟩))
      all_goals
       rename_i hHe;clear hHe hS1;revert w3;exact KEY.out
     intro w3 hQ;have HQ:M6 _:=hQ.out;clear hQ
     go_wp2_with ((with_reducible refine Cg rfl 39 (O6 39) (MI (.const (MF ME 1))) MH MH rfl (MG p2 n c2) ?hr ?_);(case hr=>exact HZ.out.1 _))
     go_wp2
     go_roundw
     case rel=>exact⟨k+1,L',p2,c2,by go_num,by rw[HZ.out.2.2.2],hlt,by rw[<-HZ.out.2.2.2];exact HZ.out.2.1,HZ.out.2.2.1,fun x hx=>HI.out.2.2.1 x (NB _ hx),HX.out.1.trans (HQ.out.mono HX.out.1.size)⟩
     case measure=>simp[intOf];omega
  ·obtain rfl:k=G.tab.length:=by omega
   have hkI:¬(G.tab.length:Int)<(G.tab.length:Int):=by omega
   have hnil:=HI.out.2.1;rw[List.drop_length]at hnil;have hnil:L=[]:=List.map_eq_nil_iff.1 hnil;subst hnil;go_wp2;go_ret;exact⟨rfl,HI.out.2.2.2⟩
end
section
variable {base:Nat}{w w':MO}{g:Nat}{V:Vs}{U:Us}{G:Gt}
theorem wa{L:List FV}{l:FV}(b:Int)(hl:∀x∈L,x.1<l.1):aq (L++[l]) b=if b=l.1 then l else aq L b:=by
 split
 ·rename_i h
  subst h;unfold aq;rw[Tf,List.find?_eq_none.2 (fun x hx=>by have:=hl x hx;simp;omega)];simp
 ·rename_i h
  unfold aq;rw[Tf];have:[l].find? (fun x=>x.1 == b)=none:=by rw[List.find?_eq_none];intro x hx;rw[PY]at hx;subst hx;simp;exact fun e=>h e.symm
  rw[this,Option.or_none]
theorem nE{L:List FV}(hr:eo L){j:Nat}(hj:j<L.length):∀x∈L.take j,x.1<L[j].1:=by
 intro x hx;have h:L=L.take j++(L[j]::L.drop (j+1)):=by rw[Pp hj,Oo]
 have hr2:(L.take j++(L[j]::L.drop (j+1))).Pairwise (fun a b=>a.1<b.1):=by rw[<-h];exact hr
 exact(List.pairwise_append.1 hr2).2.2 x hx L[j] NM
theorem AD(h:Bs G){l:FV}(hl:l∈G.liv):(0<=l.1/\l.1<=11)/\(1<=l.2.2.1/\l.2.2.1<=8):=
 ⟨(h.book.1.2.1 l hl).1.1,(h.book.1.2.1 l hl).1.2.1⟩
def eO(G:Gt)(j:Nat):List Int:=(Pm 12).map fun b:Nat=>if aA (G.liv.take j) (b:Int)=2 then 0 else 4*G.wts.getD b 0
theorem iv(j:Nat):(eO G j).length=12:=by simp[eO]
theorem mi(j:Nat)(hb:b<12):(eO G j)[b]'(by rw[iv];exact hb)=if aA (G.liv.take j) b=2 then 0 else 4*G.wts.getD b 0:=by
 simp[eO]
theorem Dv(h:Bs G):eO G 0=d8 (ao G.wts):=by
 unfold eO d8;apply PU;intro b hb;have hb:=List.mem_range.1 hb;rw[Nf (by show ¬(0:Int)=2;decide),nb _ _ hb];have:=h.wts.low b;unfold wt;omega
theorem zV(h:Im G):eO G G.liv.length=Nj 12 0:=by
 unfold eO;rw[NT];have:∀b∈Pm 12,(if aA G.liv ((b:Nat):Int)=2 then(0:Int)else 4*G.wts.getD b 0)=0:=by
  intro b hb;have hb:=List.mem_range.1 hb
  split
  ·rfl
  ·rename_i hn
   rw[h.ring b hb,Nf hn];rfl
 rw[PU this];rfl
theorem Ao(hr:eo G.liv){j:Nat}(hj:j<G.liv.length)(hs:¬G.liv[j].2.1=2):eO G (j+1)=eO G j:=by
 unfold eO;apply PU;intro b hb;have hst:∀c:Int,aA (G.liv.take (j+1)) c=if c=G.liv[j].1 then G.liv[j].2.1 else aA (G.liv.take j) c:=fun c=>by
  show(aq _ _).2.1=_;rw[M9 hj,wa c (nE hr hj)]
  split <;> rfl
 rw[hst]
 by_cases e:(b:Int)=G.liv[j].1
 ·have h0:¬aA (G.liv.take j) (b:Int)=2:=by
   show ¬(aq _ _).2.1=2;rw[tP fun x hx=>by have:=nE hr hj x hx;omega]
   decide
  rw[Nh e,Nf hs,Nf h0]
 ·rw[Nf e]
theorem BR(h:Im G){j:Nat}(hj:j<G.liv.length)(hb:b<12)(hbe:G.liv[j].1=(b:Int))(hs:G.liv[j].2.1=2):
  (eO G j)[b]'(by rw[iv];exact hb)=G.liv[j].2.2.1*4/\eO G (j+1)=(eO G j).set b 0:=by
 have hr:eo G.liv:=h.bs.Gv;have hst:∀c:Int,aA (G.liv.take (j+1)) c=if c=G.liv[j].1 then G.liv[j].2.1 else aA (G.liv.take j) c:=fun c=>by
  show(aq _ _).2.1=_;rw[M9 hj,wa c (nE hr hj)]
  split <;> rfl
 have hlf:aq G.liv (b:Int)=G.liv[j]:=by rw[<-hbe];exact iZ hr (Nk hj)
 have hst2:aA G.liv (b:Int)=2:=by show(aq _ _).2.1=2;rw[hlf];exact hs
 have h0:¬aA (G.liv.take j) (b:Int)=2:=by
  show ¬(aq _ _).2.1=2;rw[tP fun x hx=>by have:=nE hr hj x hx;omega]
  decide
 refine⟨?_,?_⟩
 ·rw[mi j hb,Nf h0,h.ring b hb,Nh hst2,hlf]
  omega
 ·apply Ot
  intro c
  by_cases hc:c<12
  ·by_cases e:c=b
   ·subst e
    rw[N7 (by rw[iv];exact hc),MR (by rw[iv];exact hc),mi (j+1) hc,hst,Nh hbe.symm,Nh hs]
   ·rw[N3 (Pi e),MR (by rw[iv];exact hc),MR (by rw[iv];exact hc),mi (j+1) hc,mi j hc,hst,Nf (show ¬(c:Int)=G.liv[j].1 by rw[hbe];omega)]
  ·rw[Nz (by rw[iv];omega),Nz (by rw[NA,iv];omega)]
theorem r9:(#[MF ME 0,MF ME 0,MF ME 0,MF ME 0,MF ME 0,MF ME 0,MF ME 0,MF ME 0,MF ME 0,MF ME 0,MF ME 0,MF ME 0]:Array M7)=(aj (Nj 12 0)).toArray:=rfl
theorem zh:(Tryz.prog.info? 100).map (·.size)=MI 12:=by kernel_rfl
theorem C0(W:MO):(binOp .eql 100 (Ny #[MF ME 0,MF ME 0,MF ME 0,MF ME 0,MF ME 0,MF ME 0,MF ME 0,MF ME 0,MF ME 0,MF ME 0,MF ME 0,MF ME 0]) (Ny #[MF ME 0,MF ME 0,MF ME 0,MF ME 0,MF ME 0,MF ME 0,MF ME 0,MF ME 0,MF ME 0,MF ME 0,MF ME 0,MF ME 0])).run MK W=.ok (M3 Nw) W:=by kernel_rfl
theorem EA(h:RG w g U G)(hwm:Wm G):Ni MK 94 #[gP g] w fun r w'=>r=MN (M3 Nw)/\MQ w.heap.size w w':=by
 have c21:=h.GX;have hgl:=h.lt;have hok:=li hwm.im.bs.wts;have HR:M6 _:=xV (MG U.ps (ao G.wts).length U.cs) (ao G.wts) w h.wat.ring;have hz0:=Dv hwm.im.bs;obtain⟨l,hl⟩:∃l,l=ao G.wts:=⟨_,rfl⟩;have hll:l.length<=384:=by rw[hl];exact qV hwm.im.bs.wts
 have hrt:=h.wat.ring;rw[<-hl]at c21 HR hok hz0 hrt;obtain⟨al,cal,hel,hcal,hmal,pal⟩:=hrt.F6;injection hel with el1 eln el3;obtain⟨av,cav,hev,hcav,hmav,pav⟩:=jH.F6 h.wat.book.1;injection hev with ev1 evn ev3;unfold NE at hmal hmav;have H:M6 (_/\_/\_/\_/\_/\_/\_):=⟨h,hwm,hok,hz0,pal,pav,hl⟩;have HE:M6 (_/\_/\_/\_):=⟨el1,el3,ev1,ev3⟩;clear h hwm hok hz0 pal pav hl hrt el1 eln el3 ev1 evn ev3;go_enter Tryz.func94,Tryz.ntmps94
 go_wp2_with fail
 refine Nd HR.out ?_;rintro r w1 ⟨e,rfl,he,_,hb1⟩;obtain rfl:e=0:=he H.out.2.2.1;have d21:=(H.out.1.below hb1).GX;have d19:=(H.out.1.below hb1).Gn;have hgl1:=(H.out.1.below hb1).lt;rw[<-H.out.2.2.2.2.2.2,HE.out.1,HE.out.2.1]at d21;rw[HE.out.2.2.1,HE.out.2.2.2]at d19;obtain⟨A,hA⟩:∃A,A=w1.heap.size:=⟨_,rfl⟩;obtain⟨W0,hW0⟩:∃W0,W0=w1.alloc (MP (aj (Nj 12 0)).toArray 100):=⟨_,rfl⟩;have hB0:MQ w1.heap.size w1 W0:=by rw[hW0];exact ai w1
 have hA0:aC 100 12 W0 A (Nj 12 0):=by rw[hA,hW0];exact⟨M1 _ _,by simp⟩
 have f21:=(hB0.cell (p:=⟨g,21,MH⟩) hgl1).trans d21;have hgl0:g<W0.heap.size:=M8 hgl1 hB0.size;have hbW:MQ w.heap.size w W0:=hb1.trans (hB0.mono hb1.size);have hAw:w.heap.size<=A:=by rw[hA];exact hb1.size
 have H1:M6 (_/\_/\_/\_):=⟨hbW,hA0,hAw,d19⟩;clear hb1 he d19 hB0 hA0 hbW f21 hgl0
 go_wp2_with fail
 rw[r9,<-hW0,<-hA];clear hW0 hA c21 d21 hgl1
 go_loopw [22] (fun t wr=>∃k:Nat,t=MF ME (k:Int)/\k<=l.length/\M6 (MQ w.heap.size w wr/\aC 100 12 wr A (d8 (l.take k)))) (fun t _=>l.length-(intOf t).toNat)
 case atStart=>exact⟨0,rfl,Nx _,H1.out.1,by rw[List.take_zero];exact H1.out.2.1⟩
 case round =>
  obtain⟨k,rfl,hk,HI⟩:=hrel;obtain⟨W,hW⟩:∃W,W=wr:=⟨_,rfl⟩;subst hW
  by_cases hlt:k<l.length
  ·have hkI:(k:Int)<(l.length:Int):=by omega
   obtain⟨b0,off,hpa,hb0,c1,c2⟩:=H.out.2.2.2.2.1 k hlt;have hbr:=HI.out.1;have e1:=(hbr.cell (p:=⟨b0,off+k*2,MH⟩) hb0).trans c1;have e2:=(hbr.cell (p:=⟨b0,off+k*2+1,MH⟩) hb0).trans c2;have hbl:b0<W.heap.size:=M8 hb0 hbr.size;obtain⟨ta,hta⟩:∃ta,ta=l[k].1:=⟨_,rfl⟩;obtain⟨td,htd⟩:∃td,td=l[k].2:=⟨_,rfl⟩;rw[<-hta]at e1;rw[<-htd]at e2;have htk:l.take (k+1)=l.take k++[(ta,td)]:=by rw[M9 hlt,hta,htd]
   have hin:=qy H.out.2.2.1 l[k] (Nk hlt);rw[<-htd]at hin;obtain⟨b,rfl⟩:=NL hin.1;have hb12:b<12:=by omega
   have hbI:(b:Int)<12:=by omega
   obtain⟨W1,hW1⟩:∃W1,W1=W.alloc (MP #[MF ME ta,MF ME (b:Int)] 109):=⟨_,rfl⟩;have hB1:MQ W.heap.size W W1:=by rw[hW1];exact ai W
   have hR1:W1.heap[W.heap.size]?=MI (MP #[MF ME ta,MF ME (b:Int)] 109):=by rw[hW1];exact M1 _ _
   have q2:=HI.out.2.below hB1;have hAl:=HI.out.2.lt;have hcl:=HI.out.2.F7 b (by rw[fT];exact hb12);have hfz:=HI.out.2.Gu b;have hcn:(d8 (l.take k))[b]'(by rw[fT];exact hb12)=((bt (l.take k) b:Nat):Int):=by
    have:=n7 (l.take k) b hb12;rwa[NK,MR (by rw[fT];exact hb12)]at this
   rw[hcn]at hcl;have hxk:bt (l.take k) b<=k:=Nm (qj _ _) (by rw[NH];omega);obtain⟨x,hx⟩:∃x,x=bt (l.take k) b:=⟨_,rfl⟩;rw[<-hx]at hcl hxk;have HQ:M6 (_/\_):=⟨hx,htk⟩;clear q2 hx hcn hin hB1 hR1 htk hta htd c1 c2 hbr hb0 hW1;subst hpa;go_wp2
   go_roundw
   case rel =>
    obtain⟨hx,htk⟩:=HQ.out;have hq:=(HI.out.1.setCell (p:=⟨A,b,MH⟩) H1.out.2.2.1 (MF ME ((x:Int)+1)));refine⟨k+1,by go_num,hlt,hq.alloc hq.size _,?_⟩;rw[htk,tQ _ _ b hb12 rfl,<-hx];exact(HI.out.2.F4 b _).below (ai _)
   case measure=>simp[intOf];omega
  ·obtain rfl:k=l.length:=by omega
   have hkI:¬(l.length:Int)<(l.length:Int):=by omega
   obtain⟨hbr,hAr⟩:=HI.out;rw[NT,<-H.out.2.2.2.1]at hAr;have e19:=(H.out.1.below hbr).Gn;rw[HE.out.2.2.1,HE.out.2.2.2]at e19;have hgl2:=(H.out.1.below hbr).lt;have H2:M6 (_/\_):=⟨hbr,hAr⟩;clear hbr hAr;go_wp2
   go_loopw [40] (fun t wr=>∃k:Nat,t=MF ME (k:Int)/\k<=G.liv.length/\M6 (MQ w.heap.size w wr/\aC 100 12 wr A (eO G k))) (fun t _=>G.liv.length-(intOf t).toNat)
   case atStart=>exact⟨0,rfl,Nx _,H2.out.1,H2.out.2⟩
   case round =>
    obtain⟨k,rfl,hk,HJ⟩:=hrel;obtain⟨X,hX⟩:∃X,X=wr:=⟨_,rfl⟩;subst hX
    by_cases hlt:k<G.liv.length
    ·have hkI:(k:Int)<(G.liv.length:Int):=by omega
     obtain⟨b1,o1,hpa,hb1,z0,z1,z2,z3,z4,z5⟩:=H.out.2.2.2.2.2.1 k hlt;obtain⟨⟨x1,x2,x3,x4,x5,x6⟩,hxe⟩:∃x,x=G.liv[k]:=⟨_,rfl⟩;have hmem:(x1,x2,x3,x4,x5,x6)∈G.liv:=by rw[hxe];exact Nk hlt
     rw[<-hxe]at z0 z1 z2 z3 z4 z5;have hbr:=HJ.out.1;have e0:=(hbr.cell (p:=⟨b1,o1+k*6,MH⟩) hb1).trans z0;have e1:=(hbr.cell (p:=⟨b1,o1+k*6+1,MH⟩) hb1).trans z1;have e2:=(hbr.cell (p:=⟨b1,o1+k*6+2,MH⟩) hb1).trans z2;have e3:=(hbr.cell (p:=⟨b1,o1+k*6+3,MH⟩) hb1).trans z3;have e4:=(hbr.cell (p:=⟨b1,o1+k*6+4,MH⟩) hb1).trans z4;have e5:=(hbr.cell (p:=⟨b1,o1+k*6+5,MH⟩) hb1).trans z5;have hbk2:b1<X.heap.size:=M8 hb1 hbr.size;obtain⟨W1,hW1⟩:∃W1,W1=X.alloc (cE (x1,x2,x3,x4,x5,x6)):=⟨_,rfl⟩;have hB1:MQ X.heap.size X W1:=by rw[hW1];exact ai X
     have hR1:W1.heap[X.heap.size]?=MI (cE (x1,x2,x3,x4,x5,x6)):=by rw[hW1];exact M1 _ _
     have y0:W1.cell? ⟨X.heap.size,0,MH⟩=MI (MF ME x1):=by rw[MW W1 _ 0 _ _ (0,0) hR1];rfl
     have y1:W1.cell? ⟨X.heap.size,1,MH⟩=MI (MF ME x2):=by rw[MW W1 _ 1 _ _ (0,0) hR1];rfl
     have y2:W1.cell? ⟨X.heap.size,2,MH⟩=MI (MF ME x3):=by rw[MW W1 _ 2 _ _ (0,0) hR1];rfl
     have hl1:X.heap.size<W1.heap.size:=(Array.getElem?_eq_some_iff.1 hR1).1;have q2:=HJ.out.2.below hB1;have hlok:=(H.out.2.1.im.bs.book.1.1:_);have HX:M6 (_/\_/\_/\_):=⟨hbr.trans (hB1.mono hbr.size),q2,hmem,hxe⟩;clear hB1 hR1 hbr hb1 z0 z1 z2 z3 z4 z5
     by_cases h2:x2=2
     ·subst h2
      have hbw:=AD H.out.2.1.im.bs hmem;obtain⟨b,rfl⟩:=NL hbw.1.1;have hb12:b<12:=by omega
      have hbI:(b:Int)<12:=by omega
      obtain⟨hn1,hn2⟩:=BR H.out.2.1.im hlt hb12 (by rw[<-hxe]) (by rw[<-hxe]);have hcl:=q2.F7 b (by rw[iv];exact hb12);rw[hn1,<-hxe]at hcl;have hcl:W1.cell? ⟨A,b,MH⟩=MI (MF ME (x3*4)):=hcl;have hfz:=q2.Gu b;have hAl:=q2.lt;have hnA:¬X.heap.size=A:=by have:=HJ.out.2.lt;omega
      have hnA2:¬A=X.heap.size:=fun e=>hnA e.symm
      have hw3:1<=x3/\x3<=8:=hbw.2;have hm4:IntKind.i64.wrap (x3*4)=x3*4:=by rw[Ow];omega
      have hs0:IntKind.i64.wrap (x3*4-x3*4)=0:=by rw[Int.sub_self];rfl
      have HN:M6 (_/\_):=⟨hn2,q2.F4 b 0⟩;clear hn1 hn2 q2 hmem hxe hbw hlok;subst hpa
      go_wp2_with fail
      rw[<-hW1];clear hW1 e0 e1 e2 e3 e4 e5 hbk2
      go_wp2_with fail
      go_region
      go_wp2
      go_roundw
      case rel =>
       refine⟨k+1,by go_num,hlt,HX.out.1.drew.setCell H1.out.2.2.1 _,?_⟩;rw[HN.out.1];exact HN.out.2
      case measure=>simp[intOf];omega
     ·have hne:(x2 == 2)=false:=beq_eq_false_iff_ne.2 h2
      have hsm:=Ao (G:=G) H.out.2.1.im.bs.Gv hlt (by rw[<-hxe];exact h2);have HN:M6 _:=hsm;clear hsm h2 hmem hxe q2 hlok;subst hpa
      go_wp2_with fail
      rw[<-hW1];clear hW1 e0 e1 e2 e3 e4 e5 hbk2;go_wp2
      go_roundw
      case rel=>exact⟨k+1,by go_num,hlt,HX.out.1,by rw[HN.out];exact HX.out.2.1⟩
      case measure=>simp[intOf];omega
    ·obtain rfl:k=G.liv.length:=by omega
     have hkI:¬(G.liv.length:Int)<(G.liv.length:Int):=by omega
     obtain⟨hbr,hAr⟩:=HJ.out;rw[zV H.out.2.1.im]at hAr;have heq:=C0;have HF:M6 (_/\_):=⟨hbr,hAr⟩;clear hbr hAr
     go_wp2_with ((with_reducible refine O3 rfl 100 (O6 3) rfl A 0 ?gx (aj (Nj 12 0)) _ ?gc Tryz.underlying100 ?gd ?gi ?_);(case gx=>rfl);(case gc=>exact HF.out.2.Gq);(case gd=>rfl);(case gi=>exact zh);rw[<-r9])
     go_wp2;go_ret;exact⟨rfl,HF.out.1⟩
end
def iI(s d:Int)(t:Tm):Bool:=(t.2 == s) && (t.1 == d)
theorem xN(x1 x2:Int)(s d:Int)(g:Nat)(w:MO)(hc:w.cell? ⟨g,0,MH⟩=MI (MF ME s))(hd:w.cell? ⟨g,6,MH⟩=MI (MF ME d)) :
  Ni MK 155 #[Ny #[MF ME x1,MF ME x2],Na (MI ⟨g,0,MH⟩)] w fun r w'=>r=MN (M3 (iI s d (x1,x2)))/\MQ w.heap.size w w':=by
 have hlt:g<w.heap.size:=MX w ⟨g,0,MH⟩ hc;unfold iI
 by_cases e:x2=s
 ·subst e
  go_enter Tryz.func155,Tryz.ntmps155;go_wp2;go_ret;exact⟨by simp,ai w⟩
 ·have he:(x2 == s)=false:=beq_eq_false_iff_ne.2 e
  go_enter Tryz.func155,Tryz.ntmps155;go_wp2;go_ret;exact⟨by simp[he],ai w⟩
theorem Aa(v:M7)(l:List Tm)(s d:Int)(g:Nat)(w:MO)(hv:aO w v l)(hc:w.cell? ⟨g,0,MH⟩=MI (MF ME s))(hd:w.cell? ⟨g,6,MH⟩=MI (MF ME d)) :
  Ni MK 200 #[v,PB (PD 155) #[] #[Na (MI ⟨g,0,MH⟩)]] w fun r w'=>r=MN (MF ME (bz (l.findIdx (iI s d)) l.length))/\MQ w.heap.size w w':=by
 obtain⟨q,hq0⟩:∃q:Tm->Bool,q=(iI s d):=⟨_,rfl⟩;obtain⟨a,ca,rfl,hca,hma,pa⟩:=aO.F6 hv;unfold NE at hma;have hglt:=MX w ⟨g,0,MH⟩ hc;have HQ:M6 (∀(x1 x2:Int) (W:MO),MQ w.heap.size w W->Ni MK 155 #[Ny #[MF ME x1,MF ME x2],Na (MI ⟨g,0,MH⟩)] W fun r w'=>r=MN (M3 (q (x1,x2)))/\MQ W.heap.size W w'):=by
  rw[hq0];exact fun x1 x2 W hb=>xN x1 x2 s d g W ((hb.cell (p:=⟨g,0,MH⟩) hglt).trans hc) ((hb.cell (p:=⟨g,6,MH⟩) hglt).trans hd)
 rw[<-hq0];obtain⟨ans,hans⟩:∃ans,ans=bz (l.findIdx q) l.length:=⟨_,rfl⟩;rw[<-hans];have H:M6 _:=hans;clear hv hans hq0 hc hd;go_enter SU,Sx;go_wp2
 go_loopw [8] (fun i wr=>∃k:Nat,i=MF ME k/\k<=l.length/\(∀t∈l.take k,q t=Nb)/\MQ w.heap.size w wr) (fun i _=>l.length-(intOf i).toNat)
 case atStart=>exact⟨0,rfl,Nx _,by simp,MY _ _⟩
 case round =>
  obtain⟨k,rfl,hk,hall,hbr⟩:=hrel
  by_cases hlt:k<l.length
  ·obtain⟨b1,o1,rfl,hb1,c1,c2⟩:=pa k hlt
   have e1:=(hbr.cell (p:=⟨b1,o1+k*2,MH⟩) hb1).trans c1;have e2:=(hbr.cell (p:=⟨b1,o1+k*2+1,MH⟩) hb1).trans c2;have HA:M6 (_/\_):=⟨hall,hbr⟩;have hkI:(k:Int)<(l.length:Int):=by omega
   have htk:l.take (k+1)=l.take k++[l[k]]:=M9 hlt;have hfs:q l[k]=Nw->l.findIdx q=k:=fun h=>gJ hlt hall h
   have hxk:∃x,x=l[k]:=⟨_,rfl⟩;obtain⟨⟨x1,x2⟩,hxk⟩:=hxk;rw[<-hxk]at e1 e2 htk hfs;have HX:M6 (_/\_):=⟨htk,hfs⟩;clear hall hbr c1 c2 hb1 pa htk hfs hxk;cases hdd:q (x1,x2)
   ·go_wp2_with fail
    refine(HQ.out x1 x2 _ HA.out.2).mono ?_;rw[hdd];rintro r w2 ⟨rfl,hb2⟩;have H2:M6 _:=hb2;clear hb2;go_wp2
    go_roundw
    case rel =>
     refine⟨k+1,by simp,hlt,fun t ht=>?_,HA.out.2.trans (H2.out.mono HA.out.2.size)⟩;rw[HX.out.1]at ht;rcases List.mem_append.1 ht with ht|ht
     ·exact HA.out.1 t ht
     ·simp at ht
      rw[ht];exact hdd
    case measure=>simp[intOf];omega
   ·go_wp2_with fail
    refine(HQ.out x1 x2 _ HA.out.2).mono ?_;rw[hdd];rintro r w2 ⟨rfl,hb2⟩;have HE:M6 (ans=(k:Int)):=by show ans=_;rw[H.out,HX.out.2 hdd];exact Nh hlt
    have H2:M6 _:=hb2;clear hb2;go_wp2;go_ret;exact⟨by rw[HE.out];rfl,HA.out.2.trans (H2.out.mono HA.out.2.size)⟩
  ·have HE:M6 (ans = -1):=by
    show ans=_;rw[H.out,ib fun t ht=>hall t (by rw[N1 (by omega)];exact ht)];exact Nf (PC _)
   have HB:M6 _:=hbr;clear hall hbr pa;go_wp2;go_ret;exact⟨by rw[HE.out];rfl,HB.out⟩
theorem y7(v:M7)(l:List Tm)(s d:Int)(g:Nat)(w:MO)(hv:aO w v l)(hc:w.cell? ⟨g,0,MH⟩=MI (MF ME s))(hd:w.cell? ⟨g,6,MH⟩=MI (MF ME d)) :
  Ni MK 154 #[v,PB (PD 155) #[] #[Na (MI ⟨g,0,MH⟩)]] w fun r w'=>r=MN (M3 (l.any (iI s d)))/\MQ w.heap.size w w':=by
 rw[<-om];have HV:M6 _:=Aa v l s d g w hv hc hd;obtain⟨ix,hix⟩:∃ix,ix=bz (l.findIdx (iI s d)) l.length:=⟨_,rfl⟩;rw[<-hix]at HV⊢;clear hix hv;go_enter UR,UE
 go_wp2_with fail
 refine Nd HV.out ?_;rintro r w1 ⟨rfl,hb⟩;have HB:M6 _:=hb;clear hb;go_wp2;go_ret;exact⟨rfl,HB.out⟩
theorem BZ(f:Fl)(p:Option Oc)(c:Nat)(l:List Tm)(b:Nat)(w:MO)(hc:w.cell? ⟨b,0,MH⟩=MI (MG p l.length c))(hv:aO w (MG p l.length c) l)(hm:(f.due,f.slot)∈l) :
  Ni MK 153 #[dM f,Na (MI ⟨b,0,MH⟩)] w fun r w'=>r=MN (M3 Nb)/\MQ w.heap.size w w':=by
 obtain⟨W,hW⟩:∃W,W=w.alloc (MP #[MF ME f.slot,MF ME f.gen,MF ME f.key,MF ME f.be,M3 f.srv,MF ME f.ret,MF ME f.due] 99):=⟨_,rfl⟩;have hB:MQ w.heap.size w W:=by rw[hW];exact ai w
 have hR:W.heap[w.heap.size]?=MI (MP #[MF ME f.slot,MF ME f.gen,MF ME f.key,MF ME f.be,M3 f.srv,MF ME f.ret,MF ME f.due] 99):=by rw[hW];exact M1 _ _
 have hbl:b<w.heap.size:=MX w ⟨b,0,MH⟩ hc;have hany:l.any (iI f.slot f.due)=true:=List.any_eq_true.2 ⟨_,hm,by simp[iI]⟩;have hC:=y7 (MG p l.length c) l f.slot f.due w.heap.size W (hv.below hB) (by rw[MW W _ 0 _ _ (0,0) hR];rfl) (by rw[MW W _ 6 _ _ (0,0) hR];rfl);rw[hany]at hC;have H:M6 (_/\_):=⟨hC,hB⟩;clear hC hB hR hany hm hv;go_enter Tryz.func153,Tryz.ntmps153
 go_wp2_with fail
 rw[<-hW];refine Nd H.out.1 ?_;rintro r w1 ⟨rfl,hb1⟩;have HB:M6 _:=H.out.2.trans (hb1.mono H.out.2.size);clear hb1;go_wp2;go_ret;exact⟨rfl,HB.out⟩
theorem Ei(v:M7)(l:List Fl)(w:MO)(hv:dS w v l)(b:Nat)(hcl:∀f∈l,∀W,MQ w.heap.size w W->Ni MK 153 #[dM f,Na (MI ⟨b,0,MH⟩)] W fun r w'=>r=MN (M3 Nb)/\MQ W.heap.size W w') :
  Ni MK 160 #[v,PB (PD 153) #[] #[Na (MI ⟨b,0,MH⟩)]] w fun r w'=>r=MN (MF ME (-1))/\MQ w.heap.size w w':=by
 obtain⟨a,ca,rfl,hca,hma,pa⟩:=dS.F6 hv;unfold NE at hma;have HC:M6 _:=hcl;clear hv hcl;go_enter VD,Vv;go_wp2
 go_loopw [8] (fun i wr=>∃k:Nat,i=MF ME k/\k<=l.length/\MQ w.heap.size w wr) (fun i _=>l.length-(intOf i).toNat)
 case atStart=>exact⟨0,rfl,Nx _,MY _ _⟩
 case round =>
  obtain⟨k,rfl,hk,hbr⟩:=hrel
  by_cases hlt:k<l.length
  ·obtain⟨b1,o1,rfl,hb1,c1,c2,c3,c4,c5,c6,c7⟩:=pa k hlt
   have hkI:(k:Int)<(l.length:Int):=by omega
   obtain⟨x,hxe⟩:∃x,x=l[k]:=⟨_,rfl⟩;have hmem:x∈l:=by rw[hxe];exact Nk hlt
   rw[<-hxe]at c1 c2 c3 c4 c5 c6 c7;have e1:=(hbr.cell (p:=⟨b1,o1+k*7,MH⟩) hb1).trans c1;have e2:=(hbr.cell (p:=⟨b1,o1+k*7+1,MH⟩) hb1).trans c2;have e3:=(hbr.cell (p:=⟨b1,o1+k*7+2,MH⟩) hb1).trans c3;have e4:=(hbr.cell (p:=⟨b1,o1+k*7+3,MH⟩) hb1).trans c4;have e5:=(hbr.cell (p:=⟨b1,o1+k*7+4,MH⟩) hb1).trans c5;have e6:=(hbr.cell (p:=⟨b1,o1+k*7+5,MH⟩) hb1).trans c6;have e7:=(hbr.cell (p:=⟨b1,o1+k*7+6,MH⟩) hb1).trans c7;have HA:M6 (_/\_):=⟨hbr,hmem⟩;clear hbr c1 c2 c3 c4 c5 c6 c7 hb1 pa hxe hmem
   go_wp2_with fail
   refine(HC.out x HA.out.2 _ HA.out.1).mono ?_;rintro r w2 ⟨rfl,hb2⟩;have H2:M6 _:=hb2;clear hb2;go_wp2
   go_roundw
   case rel=>exact⟨k+1,by simp,hlt,HA.out.1.trans (H2.out.mono HA.out.1.size)⟩
   case measure=>simp[intOf];omega
  ·have HB:M6 _:=hbr
   clear hbr pa;go_wp2;go_ret;exact⟨rfl,HB.out⟩
theorem yG(v:M7)(l:List Fl)(w:MO)(hv:dS w v l)(b:Nat)(hcl:∀f∈l,∀W,MQ w.heap.size w W->Ni MK 153 #[dM f,Na (MI ⟨b,0,MH⟩)] W fun r w'=>r=MN (M3 Nb)/\MQ W.heap.size W w') :
  Ni MK 156 #[v,PB (PD 153) #[] #[Na (MI ⟨b,0,MH⟩)]] w fun r w'=>r=MN (M3 Nb)/\MQ w.heap.size w w':=by
 have HV:M6 _:=Ei v l w hv b hcl;clear hv hcl;go_enter SN,Ss
 go_wp2_with fail
 refine Nd HV.out ?_;rintro r w1 ⟨rfl,hb⟩;have HB:M6 _:=hb;clear hb;go_wp2;go_ret;exact⟨rfl,HB.out⟩
section
variable {base:Nat}{w w':MO}{g:Nat}{V:Vs}{U:Us}{G:Gt}
theorem Fa(hwm:Wm G){ls:List (List Tm)}(hm:cQ G.wnow ls)(hT:∀t,t∈ls.flatten↔G.tms t):ls.flatten.length=G.fls.length/\∀f∈G.fls,(f.due,f.slot)∈ls.flatten:=by
 have hin:∀t,t∈ls.flatten↔∃f∈G.fls,t=(f.due,f.slot):=fun t=>by
  rw[hT,hwm.im.bs.tms];constructor
  ·rintro⟨f,hf,e,_⟩;exact⟨f,hf,e⟩
  ·rintro⟨f,hf,e⟩;exact⟨f,hf,e,by rw[hwm.wnow];exact hwm.due f hf⟩
 refine⟨?_,fun f hf=>(hin _).2 ⟨f,hf,rfl⟩⟩;have hnd1:(ls.flatten.map (·.2)).Nodup:=hm.2.ids;have hnd2:(G.fls.map (·.slot)).Nodup:=by
  have:=hwm.im.bs.Ge;rw[List.Nodup,List.pairwise_map];exact this.imp fun h=>by omega
 have hp:(ls.flatten.map (·.2)).Perm (G.fls.map (·.slot)):=by
  refine(List.perm_ext_iff_of_nodup hnd1 hnd2).2 fun s=>?_
  simp only[List.mem_map];constructor
  ·rintro⟨t,ht,rfl⟩
   obtain⟨f,hf,rfl⟩:=(hin t).1 ht;exact⟨f,hf,rfl⟩
  ·rintro⟨f,hf,rfl⟩
   exact⟨_,(hin _).2 ⟨f,hf,rfl⟩,rfl⟩
 have:=hp.length_eq;rwa[N0,N0]at this
theorem BT(h:RG w g U G)(hwm:Wm G)(hblk:aK w):Ni MK 95 #[gP g] w fun r w'=>r=MN (M3 Nw)/\MQ w.heap.size w w':=by
 obtain⟨ls,hmay,hT,hls⟩:=h.wat.whl;obtain⟨hlen,hall⟩:=Fa hwm hmay hT;have hn:=hwm.im.bs.now;have hwn:=hwm.wnow;have c24:=h.GJ;have c25:=h.GH;have hgl:=h.lt;have HA:M6 _:=vZ (MG U.pw 25 U.cw) G.wnow ls w hblk hls hmay (by omega);have hfn:(G.wnow != G.now)=false:=by rw[hwn];simp
 have H:M6 (_/\_/\_/\_/\_):=⟨h,hmay,hls,hlen,hall⟩;clear hmay hT hls hlen hall h hwm hblk hn hwn;go_enter Tryz.func95,Tryz.ntmps95
 go_wp2_with fail
 refine Nd HA.out ?_;rintro r w1 ⟨p,c,xp,xc,ms,L,rfl,_,_,_,hb1⟩;obtain⟨W1,hW1⟩:∃W1,W1=w1.alloc (MP #[MF ME (G.wnow+1),MG p 25 c] 52):=⟨_,rfl⟩;have hb2:MQ w.heap.size w W1:=by rw[hW1];exact hb1.alloc hb1.size _
 have hG1:=H.out.1.below hb2;have d24:=hG1.GJ;have d16:=hG1.Gm;have hgl1:=hG1.lt;have HB:M6 _:=hb2;clear hb1 hb2 hG1
 go_wp2_with fail
 rw[<-hW1];clear hW1
 go_quiet (fail)
 have HB2:M6 _:=dz HB.out nq;obtain⟨W2,hW2⟩:∃W2,W2=W1.drewN nq:=⟨_,rfl⟩;rw[<-hW2]at HB2⊢;clear hW2 d24 d16 hgl1;have hG2:=H.out.1.below HB2.out;have e25:=hG2.GH;have hgl2:=hG2.lt;obtain⟨n,hnn⟩:∃n,n=ls.flatten.length:=⟨_,rfl⟩;have HC:M6 _:=xj (MG U.pw 25 U.cw) ls W2 (H.out.2.2.1.below HB2.out) n hnn (by rw[hnn];exact H.out.2.1.2.Hr) (by rw[H.out.2.1.2.len];omega);have HN:M6 _:=hnn;clear hnn;clear hG2
 go_wp2_with fail
 refine Nd HC.out ?_;rintro r w3 ⟨q,d,rfl,htm,hb3⟩;obtain⟨W3,hW3⟩:∃W3,W3=w3.alloc (MP #[MG q n d] 184):=⟨_,rfl⟩;have hbn:MQ w3.heap.size w3 W3:=by rw[hW3];exact ai w3
 have hb4:MQ w.heap.size w W3:=(HB2.out.trans (hb3.mono HB2.out.size)).trans (hbn.mono (Nm HB2.out.size hb3.size));have hbx:W3.cell? ⟨w3.heap.size,0,MH⟩=MI (MG q n d):=by rw[hW3];exact aM (M1 _ _)
 have hblt:w3.heap.size<W3.heap.size:=by rw[hW3];simp
 have hG3:=H.out.1.below hb4;have f18:=hG3.Gr;have hgl3:=hG3.lt;obtain⟨B,hB⟩:∃B,B=w3.heap.size:=⟨_,rfl⟩;rw[<-hB]at hbx hblt;have hnf:n=G.fls.length:=HN.out.trans H.out.2.2.2.1;have hne:((n:Int) == (G.fls.length:Int))=true:=by rw[hnf];exact beq_self_eq_true _
 have HK:M6 (∀X,MQ W3.heap.size W3 X->Ni MK 156 #[MG U.pf G.fls.length U.cf,PB (PD 153) #[] #[Na (MI ⟨B,0,MH⟩)]] X fun r w'=>r=MN (M3 Nb)/\(w'.cell? ⟨g,18,MH⟩=MI (MG U.pf G.fls.length U.cf)/\w'.cell? ⟨B,0,MH⟩=MI (MG q n d))/\M6 (MQ W3.heap.size W3 w')):=fun X hX=>by
  refine(yG _ G.fls X (hG3.below hX).wat.fls B fun f hf Y hY=>?_).mono ?_
  ·have hbY:=hX.trans (hY.mono hX.size)
   have hv:aO Y (MG q n d) ls.flatten:=(htm.below hbn).below hbY;rw[HN.out]at hv;exact BZ f q d ls.flatten B Y (by rw[<-HN.out];exact(hbY.cell hblt).trans hbx) hv (H.out.2.2.2.2 f hf)
  ·rintro r w' ⟨rfl,hb⟩
   have hb':=hX.trans (hb.mono hX.size);exact⟨rfl,⟨(hb'.cell hgl3).trans f18,(hb'.cell hblt).trans hbx⟩,hb'⟩
 have HD:M6 _:=hb4;clear htm hb3 hbn hb4 hG3 hnf e25
 go_wp2_with fail
 rw[<-hW3,<-hB];clear hW3 hB
 go_wp2_with fail
 apply gU
 ·intro KEY
  go_region_held3 (fun X=>X.cell? ⟨g,18,MH⟩=MI (MG U.pf G.fls.length U.cf)/\X.cell? ⟨B,0,MH⟩=MI (MG q n d)) (first|exact⟨f18,hbx⟩|exact hS1) (first|(go_at_call 156;refine(HK.out _ (by first|exact(MY _ _).drew|exact Below.refl _ _)).mono ?_;rintro r w5 ⟨rfl,hS1,hQ⟩))
  all_goals
   rename_i hHe;clear hHe hS1;revert w5;exact KEY.out
 intro w5 hQ;have HQ:M6 _:=hQ.out;clear hQ;go_wp2;go_ret;exact⟨rfl,HD.out.trans (HQ.out.mono HD.out.size)⟩
end
section
variable {base:Nat}{w w':MO}{g:Nat}{V:Vs}{U:Us}{G:Gt}
theorem wX(h:RG w g U G)(hwm:Wm G)(hblk:aK w):Ni MK 72 #[gP g] w fun r w'=>r=MN (M3 Nw)/\MQ w.heap.size w w':=by
 have k0:=h.c0;have k1:=h.c1;have k2:=h.c2;have k3:=h.c3;have k4:=h.c4;have k5:=h.c5;have k6:=h.c6;have k7:=h.c7;have k8:=h.c8;have k9:=h.c9;have k10:=h.Hf;have k11:=h.Hn;have k12:=h.Hg;have k13:=h.GS;have k14:=h.GU;have k15:=h.GO;have hgl:=h.lt;have HR:M6 _:=AF G.cfg w;rw[Nq hwm.im.bs.cfg]at HR;have HW:M6 (∀X:MO,Ni MK 83 #[MF ME G.now,MF ME 0,MF ME 1099511626776] X fun r w'=>r=MN (M3 Nw)/\w'=X):=fun X=>by
  have:=gz G.now 0 1099511626776 X;rwa[Nq hwm.im.bs.now]at this
 have H:M6 (_/\_/\_):=⟨h,hwm,hblk⟩;clear h hwm hblk;go_enter Tryz.func72,Tryz.ntmps72
 go_wp2_with fail
 refine Nd HR.out ?_;rintro r w1 ⟨rfl,hb1⟩;have e16:=(H.out.1.below hb1).Gm;have hgl1:=(H.out.1.below hb1).lt;have HB1:M6 _:=hb1;clear hb1 k0 k1 k2 k3 k4 k5 k6 k7 k8 k9 k10 k11 k12 k13 k14 k15
 go_wp2_with fail
 refine(HW.out _).mono ?_;rintro r w1' ⟨rfl,rfl⟩;clear e16;have HP:M6 _:=Bz (H.out.1.below HB1.out) H.out.2.1
 go_wp2_with fail
 refine Nd HP.out ?_;rintro r w2 ⟨rfl,hb2⟩;have HB2:M6 _:=HB1.out.trans (hb2.mono HB1.out.size);clear hb2;have HP:M6 _:=Bl (H.out.1.below HB2.out) H.out.2.1
 go_wp2_with fail
 refine Nd HP.out ?_;rintro r w3 ⟨rfl,hb3⟩;have HB3:M6 _:=HB2.out.trans (hb3.mono HB2.out.size);clear hb3;have HP:M6 _:=D7 (H.out.1.below HB3.out) H.out.2.1
 go_wp2_with fail
 refine Nd HP.out ?_;rintro r w4 ⟨rfl,hb4⟩;have HB4:M6 _:=HB3.out.trans (hb4.mono HB3.out.size);clear hb4;have HP:M6 _:=FA (H.out.1.below HB4.out) H.out.2.1
 go_wp2_with fail
 refine Nd HP.out ?_;rintro r w5 ⟨rfl,hb5⟩;have HB5:M6 _:=HB4.out.trans (hb5.mono HB4.out.size);clear hb5;have HP:M6 _:=EA (H.out.1.below HB5.out) H.out.2.1
 go_wp2_with fail
 refine Nd HP.out ?_;rintro r w6 ⟨rfl,hb6⟩;have HB6:M6 _:=HB5.out.trans (hb6.mono HB5.out.size);clear hb6;have HP:M6 _:=BT (H.out.1.below HB6.out) H.out.2.1 (H.out.2.2.below HB6.out)
 go_wp2_with fail
 refine Nd HP.out ?_;rintro r w7 ⟨rfl,hb7⟩;have HB7:M6 _:=HB6.out.trans (hb7.mono HB6.out.size);clear hb7;go_wp2;go_ret;exact⟨rfl,HB7.out⟩
end
end Go.Proofs.YtlnbhjdhcmgljaaGreatDoor.Q
