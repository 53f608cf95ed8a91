/-
  Contracts of the layers and of core, part 8. Conditions: as each theorem says.
-/
import Derived.Test.YtbdpocjfnnojbaaGreatDoorP6
import Derived.Test.YtbdpocjfnnojbaaGreatDoorP7
import Derived.Test.YtbdpocjfnnojbaaGreatDoorP5
import Derived.Deep.Fields
import Derived.LaidMore
import Derived.Stop.Joined
open Array renaming getElem?_eq_getElem->PN,getElem?_eq_some_iff->ZAa
open Bool renaming false->Nb,true->Nw
open Decidable renaming decide->Nn
open Go renaming Addr->Oc,Calls->Ni,Program->O8,TypeId->NU,Value->M7,World->MO,maxLen->NE,results->Pf,undef->PL,wpQuiet_nil->Oy
open Go.Act renaming put->Nr
open Go.AllReadyH renaming cons->NP,nil->NX
open Go.Builtin renaming append_->N2
open Go.DataW renaming trod->Ry,trod_array->Ti,trod_int->QW,trod_struct->Tg
open Go.Ending renaming returned->MN
open Go.Instr renaming build->QA,buildSlice->Q0
open Go.IntKind renaming i64->ME
open Go.Lit renaming int->N6
open Go.Obj renaming cells->MP
open Go.Oper renaming wp->RB
open Go.Operand renaming tmp->O6
open Go.Proofs.Tryz renaming func33->TQ,func48->Sd,func55->Tp,ntmps33->TJ,ntmps55->S8,prog->MK,underlying36->RC,underlying56->azZ,underlying61->aAq
open Go.Region renaming wanted->Pz
open Go.RowKit renaming Below->MQ,Hid->M6
open Go.Value renaming agg->Ny,bool->M3,int->MF,pointer->Na,slice->MG,tuple->Nv
open Go.World renaming frozen?->Ng,heap_setCells_other->N8,setCells->Qd
open List renaming eq_of_mem_replicate->Pd,getElem?_eq_some_iff->ZAb,length_eq_zero_iff->ZAc,length_replicate->Qr,mem_filter->ZAf,mem_map->ZAd,pairwise_cons->ZAe,range->Pm,replicate->Nj
open Nat renaming div_lt_of_lt_mul->Sj,mul_comm->R5
open Option renaming none->MH,some->MI
open Or renaming inl->Nt,inr->NF
namespace Go.Proofs.YtbdpocjfnnojbaaGreatDoor.Q
set_option linter.unusedVariables false
set_option linter.unusedSimpArgs false
set_option maxHeartbeats 16000000
set_option maxRecDepth 100000
open Go.RowKit
attribute [local go_sem ↓] Go.wp_at_zero Go.wp_at_succ
section
variable {listed:Array Bool}{ops:Array Oper}{Q:Exit->Act->MO->Prop}{w:MO}{S:MO->Prop}{T:NU}{fuel g:Nat}{o:Oper}{md:Region.Mode}
section
variable {base:Nat}{w0 w w':MO}{g:Nat}{V:Vs}{U:Us}{G:Gt}
theorem aj4{L:List M7}(h:w.heap[g]?=MI (MP L.toArray T (0,0))):w.rangeAt g 0 L:=fun j v hv=>by
 rw[Oa,MW w g j _ T (0,0) h]
 simpa using hv
theorem tk{P:O8}(i:Nat)(v:M7){oi:Oper}{a:Act}(hS:S w)
  (h:wpAnyH P md ops Q S fuel (listed.setIfInBounds i Nw) (a.put oi.dst v) w) (hi:ops[i]?=MI oi:=by rfl) (hs:Region.noSelect ops=true:=by kernel_rfl) (hf:Region.free md ops listed i=true:=by kernel_rfl) (hr:(Region.ready md ops listed).contains i=true:=by kernel_rfl)
  (hQ:∀c a w,Q (.panic c) (a.put oi.dst v) w->Q (.panic c) a w:=by exact fun _ _ _ h=>h) (hy:YieldsIf P ops S oi v a:=by exact Or.inl ⟨by rfl,fun X hSw=>by go_simp⟩):wpAnyH P md ops Q S (fuel+1) listed a w :=
 ND hi hs hf hr hQ hy hS h
theorem Z0:(MK.info? 56).map (·.size)=MI 26:=by kernel_rfl
theorem aox(U:Us)(G:Gt)(W:MO):(QA 165 #[(0,Ny (XR U G))]).run MK W=.ok (Ny (aeL U G)) W:=by kernel_rfl
def aba(B:Nat)(w W:MO):Prop:=w.heap.size<=W.heap.size/\∀b,B<=b->b<w.heap.size->W.heap[b]?=w.heap[b]?
def ag5(w:MO)(G':Gt)(r:Ending)(w':MO):Prop :=
 ∃U' po co,r=MN (Nv #[acN U' G',MG po G'.out.length co,yB 0])/\(∀W,aba w.heap.size w' W->Xd W U' G'/\Xw Z1 W (MG po G'.out.length co) G'.out)/\yA w w'
theorem ado(U:Us)(G:Gt):(XR U G).all (·.oneCell')=true:=by
 show(List.toArray _).all _=Nw;refine OE fun v hv=>?_
 simp only[OO,OD,or_false]at hv;rcases hv with rfl|rfl|rfl|rfl|rfl|rfl|rfl|rfl|rfl|rfl|rfl|rfl|rfl|rfl|rfl|rfl|rfl|rfl|rfl|rfl|rfl|rfl|rfl|rfl|rfl|rfl <;> rfl
theorem OR.Gq(h:OR base w g V G):w.rangeAt g 0 (XR V.us G).toList:=fun j v hv=>by
 rw[Oa];have c:j<26:=(ZAb.1 hv).1;have a:j=0\/j=1\/j=2\/j=3\/j=4\/j=5\/j=6\/j=7\/j=8\/j=9\/j=10\/j=11\/j=12\/j=13\/j=14\/j=15\/j=16\/j=17\/j=18\/j=19\/j=20\/j=21\/j=22\/j=23\/j=24\/j=25:=by omega
 rcases a with rfl|rfl|rfl|rfl|rfl|rfl|rfl|rfl|rfl|rfl|rfl|rfl|rfl|rfl|rfl|rfl|rfl|rfl|rfl|rfl|rfl|rfl|rfl|rfl|rfl|rfl
 ·exact h.c0.trans hv
 ·exact h.c1.trans hv
 ·exact h.c2.trans hv
 ·exact h.c3.trans hv
 ·exact h.c4.trans hv
 ·exact h.c5.trans hv
 ·exact h.c6.trans hv
 ·exact h.c7.trans hv
 ·exact h.c8.trans hv
 ·exact h.c9.trans hv
 ·exact h.Hf.trans hv
 ·exact h.Hn.trans hv
 ·exact h.Hg.trans hv
 ·exact h.GS.trans hv
 ·exact h.GU.trans hv
 ·exact h.GO.trans hv
 ·exact h.Gm.trans hv
 ·exact h.Gs.trans hv
 ·exact h.Gr.trans hv
 ·exact h.Gn.trans hv
 ·exact h.GD.trans hv
 ·exact h.GX.trans hv
 ·exact h.GI.trans hv
 ·exact h.Id.trans hv
 ·exact h.GJ.trans hv
 ·exact h.GH.trans hv
theorem als{P:O8}{rest:List Oper}{a:Act}(hgd:o.guard=MH)(T:NU)(parts:Array (Nat×Operand))
  (ho:o.op=.build T parts) (y:M7) (hr:(QA T (parts.map fun(i,x)=>(i,a.eval x))).run P w=.ok y w)
  (h:wpList P ops Q rest (a.put o.dst y) w):wpList P ops Q (o::rest) a w :=
 wpList_plain hgd fun _ hK=>by
  unfold RB execOp;simp only[ho,Pn,P3,PG,hr];exact hK _ _ h
theorem ao5(h:Xd w U G)(hwm:Wm G)(hblk:Xo w)(hout:G.out=[]) :
  Ni MK 55 #[acN U G] w fun r w'=>∃g V,r=MN (Nv #[gP g,M3 Nw])/\OR w.heap.size w' g V G/\yA w w':=by
 obtain⟨L,p⟩:=yE ((XR U G).toList);have m:L.toArray=XR U G:=by rw[p]
 have s:L.length=26:=by rw[p];rfl
 obtain⟨D,n⟩:=yE (aeL U G);have v:∀W:MO,(QA 165 #[(0,Ny L.toArray)]).run MK W=.ok (Ny D) W:=fun W=>by rw[m,n];exact aox U G W
 show Ni MK 55 #[Ny (XR U G)] w _;rw[<-m];obtain⟨a,c⟩:=yE (w.alloc (MP L.toArray 56));obtain⟨e,j⟩:=yE (a.alloc (MP D 165));have i:yA w a:=by rw[c];exact WQ w
 have y:a.heap[w.heap.size]?=MI (MP L.toArray 56 (0,0)):=by rw[c];exact M1 _ _
 have u:yA a e:=by rw[j];exact WQ a
 have f:=i.trans (u.mono i.size);have d:e.heap[a.heap.size]?=MI (MP D 165 (0,0)):=by rw[j];exact M1 _ _
 obtain⟨g,k⟩:=yE a.heap.size;rw[<-k]at d;have q:w.heap.size<=g:=by rw[k];exact i.size
 have C:M6 (w.heap.size+1=g):=by show w.heap.size+1=g;rw[k,c];simp
 rw[n]at d;have t:RG e g U G:=⟨d,h.below f⟩;have F:M6 _:=ap4 t hwm (hblk.below f);have H:M6 (_/\_/\_/\_/\_/\_/\_/\_):=⟨h,hwm,hblk,hout,f,d,q,y⟩;have I:M6 _:=s;have E:M6 _:=v;clear v h hwm hblk hout i u f y d p m s n t q k;go_enter Tp,S8
 go_wp2_with (first|((with_reducible refine als rfl 165 #[(0,O6 5)] rfl (Ny D) ?br ?_);(case br=>simp only[PW,OA,P5];exact E.out _))|((with_reducible refine O3 rfl 56 (O6 1) rfl w.heap.size 0 ?gx L _ ?gc azZ ?gd ?gi ?_);(case gx=>rfl);(case gc=>exact aj4 (M1 _ _));(case gd=>rfl);(case gi=>rw[I.out];exact Z0)))
 rw[<-c,<-j,C.out];clear c j;refine Nd F.out ?_;rintro r K ⟨rfl,l⟩;have x:Og w K g U G:=⟨WO H.out.2.2.2.2.2.1 l,H.out.2.2.2.2.1.trans (l.mono H.out.2.2.2.2.1.size),H.out.2.2.2.2.2.2.1⟩;have J:M6 _:=aqh H.out.1 x H.out.2.1 H.out.2.2.1 H.out.2.2.2.1;clear l x
 go_wp2_with fail
 refine Nd J.out ?_;rintro r M ⟨rfl,V,B,z⟩;have A:M6 (_/\_):=⟨B,z⟩;clear B z;go_wp2
 go_ret2
 exact⟨g,V,rfl,A.out.1,A.out.2⟩
theorem OR.Iz(h:OR base w g V G)(hk:aba base w w'):Xd w' V.us G:=by
 have r:=h.rest;have a:∀b,b<w.heap.size->¬V.off base g b->w'.heap[b]?=w.heap[b]?:=fun b q1 q2=>hk.2 b (by
  by_cases e:base<=b
  ·exact e
  ·exact absurd (NF (by omega)) q2) q1
 obtain⟨j,f,n,d⟩:=r.whl;exact⟨r.tab w' hk.1 a,abw (W8 r.fls fun b e=>hk.2 b (r.fls.lt b e).1 (r.fls.lt b e).2),r.book w' hk.1 a,r.ring w' hk.1 a,⟨j,f,n,d w' hk.1 a⟩,by
  have k:(V.ms.zip G.hea).length=12:=by rw[Qn,r.msl,r.hel];rfl
  have c:=W8 r.hea fun b e=>hk.2 b (r.hea.lt b e).1 (r.hea.lt b e).2
  exact abw (l:=V.ms.zip G.hea) (by rw[k];exact c),r.msl,r.hel,fun i m x e1 e2=>r.marks i m x e1 e2 w' hk.1 a⟩
theorem OR.Iy(h:OR base w g V G)(hk:aba base w w'):Xw Z1 w' (MG V.po G.out.length V.co) G.out :=
 abw (W8 h.rest.out fun b e=>hk.2 b (h.rest.out.lt b e).1 (h.rest.out.lt b e).2)
theorem afX{P:O8}{a:Act}{i:Nat}(ho:ops[i]?=MI o)(hg:o.guard=MH)(ty:NU)(x y:Operand)(hop:o.op=.store ty x y)
  (b off:Nat) (cells:Array M7) (hx:a.eval x=Na (MI ⟨b,off,MH⟩)) (hy:a.eval y=Ny cells) (ht:w.there b off cells.size) (hi:(P.info? ty).map (·.size)=MI cells.size) (h1:cells.all (·.oneCell')=Nw) (hS:S (w.setCells b off cells.toList))
  (h:wpAnyH P md ops Q S fuel (listed.setIfInBounds i Nw) (a.put o.dst PL) (w.setCells b off cells.toList)):AllReadyH P md ops Q S fuel listed a w [i]:=by
 refine NP ho (fun K hK=>?_) NX;rw[Nh (by unfold Pz;rw[hg])];exact wp_store_mid ty x y hop b off cells hx hy ht hi h1 (hK.out _ _ hS (fun _=>h))
theorem acK{P:O8}{a:Act}{i:Nat}(ho:ops[i]?=MI o)(hg:o.guard=MH)(x:Operand)(hop:o.op=.assign x)(v:M7)(hx:a.eval x=v)(hS:S w)
  (h:wpAnyH P md ops Q S fuel (listed.setIfInBounds i Nw) (a.put o.dst v) w):AllReadyH P md ops Q S fuel listed a w [i]:=by
 refine NP ho (fun K hK=>?_) NX;rw[Nh (by unfold Pz;rw[hg])];unfold RB execOp;simp only[hop,hx,Pn,P3,PG];exact hK.out _ _ hS (fun _=>h)
theorem aeH{e:Ev}(h:Yk e=0):XZ e:=by
 obtain⟨k,f,slot,c,good,d,i,wt⟩:=e;unfold Yk at h;rcases afx k with⟨_,a⟩|rfl|rfl|rfl|rfl|rfl|rfl|rfl
 ·simp[a]at h
 all_goals
  simp[Zz,Ev.GZ,Ev.num,Ev.GE,Ev.Gc,Ev.Gd,Ev.Hi]at h;constructor <;> simp <;> omega
theorem akY{fn:Func}{x y z:Tmp}{t:NU}(h:fn.results=#[.cell x t,.tmp y,.tmp z]){tmps:Array M7}{P:O8}{p:Oc}{v1 v2 v3:M7}(hx:tmps.getD x PL=Na (MI p))(hy:tmps.getD y PL=v2)(hz:tmps.getD z PL=v3)
  (h1:(loadVar t p).run P w=.ok v1 w):(Pf fn tmps).run P w=.ok (Nv #[v1,v2,v3]) w:=by
 have c:∀a:Oc,(asAddr (Na (MI a))).run P w=.ok a w:=fun a=>rfl
 simp only[Pg]at hx hy hz;simp[Pf,h,hx,hy,hz,c,h1,Pn]
theorem akJ{P:O8}{cs:List M7}{d:TypeDesc}(h:w.heap[g]?=MI (MP cs.toArray T (0,0)))(hu:P.underlying T=MI d)(hd:d.isRow=Nw)(hi:(P.info? T).map (·.size)=MI cs.length):(loadVar T ⟨g,0,MH⟩).run P w=.ok (Ny cs.toArray) w :=
 run_loadVar_mid w g 0 T cs d (fun j v hv=>by rw[Oa,MW w g j _ T (0,0) h];simpa using hv) hu hd hi
theorem afG{vs old:List M7}(h:w.heap[g]?=MI (MP old.toArray T (0,0)))(hl:old.length=vs.length):(w.setCells g 0 vs).heap[g]?=MI (MP vs.toArray T (0,0)):=by
 have:=ac0 T g vs [] old w hl (by simpa using h)
 simpa using this
theorem afH{old:List M7}(h:w.heap[g]?=MI (MP old.toArray T (0,0))):w.there g 0 old.length:=fun j hj=>by
 refine⟨?_,by simp[Ng,h]⟩;rw[Oa,MW w g j _ T (0,0) h];simp[hj]
abbrev wz:List Value:=[yB 0,yB 0,yB 0,yB 0,yB 0,yB 0,yB 0,yB 0,yB 0,yB 0,yB 0,yB 0,yB 0,yB 0,yB 0,yB 0,yB 0,MG MH 0 0,MG MH 0 0,MG MH 0 0,MG MH 0 0,MG MH 0 0,MG MH 0 0,yB 0,yB 0,MG MH 0 0]
theorem akh(h:Xd w U G)(hwm:Wm G)(hblk:Xo w)(hout:G.out=[])(e:Ev)(hf:Yk e=0)(hn:e.kind=7->G.now+1<=1099511626776) :
  Ni MK 33 #[acN U G,acH e] w (ag5 w (Xb G e)):=by
 obtain⟨L,hL⟩:=yE ((XR U G).toList);have d4:L.toArray=XR U G:=by rw[hL]
 have d7:L.length=26:=by rw[hL];rfl
 show Ni MK 33 #[Ny (XR U G),acH e] w _;rw[<-d4];obtain⟨Z,hZ⟩:=yE wz;obtain⟨q,a6⟩:=yE (((w.alloc (MP L.toArray 56)).alloc (aaE e)).alloc (MP Z.toArray 56));have hx:=acu w (MP L.toArray 56) (aaE e);obtain⟨X,hX⟩:=yE ((w.alloc (MP L.toArray 56)).alloc (aaE e));rw[<-hX]at hx;rw[<-hX]at a6;obtain⟨b3,b5,hB,e4⟩:=hx;have b1:yA X q:=by rw[a6];exact WQ X
 have b0:yA w q:=hB.trans (b1.mono hB.size);replace b3:=WO b3 b1;replace b5:=WO b5 b1;have b4:q.heap[X.heap.size]?=MI (MP Z.toArray 56 (0,0)):=by rw[a6];exact M1 _ _
 have d5:X.heap.size<q.heap.size:=(ZAa.1 b4).1;obtain⟨f,u⟩:=yE X.heap.size;have d6:w.heap.size+1+1=f:=by rw[u,e4]
 rw[<-u]at b4 d5;have I:=ao5 (h.below b0) hwm (hblk.below b0) hout;replace I:Ni MK 55 #[Ny (XR U G)] q _:=I;rw[<-d4]at I;replace I:M6 _:=I;have e5:w.heap.size<=f:=by omega
 have H:M6 (_/\_/\_/\_/\_/\_/\_/\_/\_/\_):=⟨hwm,hout,hf,hn,b0,b3,b5,b4,d5,e5⟩;have HI:M6 _:=d7;have N:M6 _:=hZ;have K:M6 (_/\_/\_):=⟨hX,a6,d6⟩;clear h hwm hblk hout hf hn hB b1 b0 b3 b5 b4 d5 e4 hL d4 d7 hX a6 u d6 e5 hZ;go_enter TQ,TJ
 go_wp2_with ((with_reducible refine O3 rfl 56 (O6 2) rfl w.heap.size 0 ?gx L _ ?gc azZ ?gd ?gi ?_);(case gx=>rfl);(case gc=>first|(rw[show(#[yB 0,yB 0,yB 0,yB 0,yB 0,yB 0,yB 0,yB 0,yB 0,yB 0,yB 0,yB 0,yB 0,yB 0,yB 0,yB 0,yB 0,MG MH 0 0,MG MH 0 0,MG MH 0 0,MG MH 0 0,MG MH 0 0,MG MH 0 0,yB 0,yB 0,MG MH 0 0]:Array M7)=wz.toArray from rfl,<-N.out,<-K.out.1,<-K.out.2.1];exact aj4 H.out.2.2.2.2.2.1));(case gd=>rfl);(case gi=>rw[HI.out];exact Z0))
 rw[show(#[yB 0,yB 0,yB 0,yB 0,yB 0,yB 0,yB 0,yB 0,yB 0,yB 0,yB 0,yB 0,yB 0,yB 0,yB 0,yB 0,yB 0,MG MH 0 0,MG MH 0 0,MG MH 0 0,MG MH 0 0,MG MH 0 0,MG MH 0 0,yB 0,yB 0,MG MH 0 0]:Array M7)=wz.toArray from rfl,<-N.out,<-K.out.1,<-K.out.2.1,K.out.2.2];clear K;refine Nd I.out ?_;rintro r w1 ⟨g,V,rfl,d9,d1⟩;obtain⟨k0,k1,k2,k3,k4,k5,k6,k7,e6⟩:=abP (WO H.out.2.2.2.2.2.2.1 d1);have HC:=awv e w1;rw[H.out.2.2.1]at HC;replace HC:M6 _:=HC;have H1:M6 (_/\_):=⟨d9,d1⟩;clear d9 d1 I
 go_wp2_with fail
 refine Nd HC.out ?_;rintro r w2 ⟨rfl,u⟩;have b7:=H1.out.2.trans (u.mono H1.out.2.size);have a4:=H1.out.1.below u;obtain⟨j0,j1,j2,j3,j4,j5,j6,j7,e0⟩:=abP (WO H.out.2.2.2.2.2.2.1 b7);have d8:=a4.Gm;have e3:=a4.lt;have HT:M6 _:=aqR a4 H.out.1 (aeH H.out.2.2.1) H.out.2.2.2.1 (by rw[H.out.2.1];simp);have H2:M6 (_/\_):=⟨a4,b7⟩;clear a4 b7 u HC k0 k1 k2 k3 k4 k5 k6 k7 e6;have b6:e.kind=7->(G.now == 1099511626776)=false:=fun h7=>beq_eq_false_iff_ne.2 (by have:=H.out.2.2.2.1 h7;omega)
 by_cases h7:e.kind=7
 ·have s:(e.kind == 7)=true:=by rw[h7];rfl
  have l:=b6 h7;clear b6 h7
  go_wp2_with fail
  refine Nd HT.out ?_;rintro r d ⟨rfl,a,j,_,a2⟩;obtain⟨T,F⟩:=yE (Xb G e);rw[<-F]at j;have A:=H2.out.2.trans (a2.IT H2.out.1);have D:=(A.block f H.out.2.2.2.2.2.2.2.2.1).trans H.out.2.2.2.2.2.2.2.1;obtain⟨M,t⟩:=yE ((XR a.us T).toList);have z:M.toArray=XR a.us T:=by rw[t]
  have m:M.length=26:=by rw[t];rfl
  have b9:M.toArray.all (·.oneCell')=true:=by rw[z];exact ado _ _
  have C:d.drew.rangeAt g 0 M:=by rw[t];exact j.GY.Gq
  have x:=j.GY.Ip;have R:=j.lt;have d3:d.drew.there f 0 M.toArray.size:=by
   have h1:d.drew.heap[f]?=MI (MP Z.toArray 56 (0,0)):=D;have h2:=afH h1;rw[OQ,m];rw[N.out]at h2;exact h2
  obtain⟨c,k⟩:=yE (d.drew.setCells f 0 M);have a8:c.heap[f]?=MI (MP M.toArray 56 (0,0)):=by
   rw[k];exact afG (old:=Z) D (by rw[m,N.out];rfl)
  have n:∀b,b<d.heap.size->b≠f->c.heap[b]?=d.heap[b]?:=fun b s l=>by rw[k];exact N8 d.drew _ _ _ s l
  have y:d.heap.size<=c.heap.size:=by rw[k,ac3];exact MV _
  have b8:=H.out.2.2.2.2.2.2.2.2.1;have E:∀Y,aba w.heap.size c Y->aba q.heap.size d Y:=fun Y hY=>⟨Nm y hY.1,fun b s l=>(hY.2 b (Nm H.out.2.2.2.2.1.size s) (M8 l y)).trans (n b l (by omega))⟩
  have a3:∀Y,aba w.heap.size c Y->Xd Y a.us T/\Xw Z1 Y (MG a.po T.out.length a.co) T.out:=fun Y hY=>⟨j.Iz (E Y hY),j.Iy (E Y hY)⟩
  have O:yA w c:=by
   rw[k];have hq:=H.out.2.2.2.2.1.trans (A.mono H.out.2.2.2.2.1.size);exact adF hq.drew H.out.2.2.2.2.2.2.2.2.2 _ _ hq.size
  have a0:g≠f:=by have:=j.rest.low;have:=H.out.2.2.2.2.2.2.2.2.1;omega
  have P:c.rangeAt g 0 M:=fun jj v hv=>(NG (n g R a0)).trans (C jj v hv)
  have a1:c.cell? ⟨g,26,MH⟩=MI (MG a.po T.out.length a.co):=(NG (n g R a0)).trans x;have a7:M6 (d.drew.rangeAt g 0 M/\d.drew.cell? ⟨g,26,MH⟩=MI (MG a.po T.out.length a.co)):=⟨C,x⟩;have a5:M6 (c.rangeAt g 0 M/\c.cell? ⟨g,26,MH⟩=MI (MG a.po T.out.length a.co)):=⟨P,a1⟩;have p:M6 (_/\_/\_/\_):=⟨a3,O,a8,z⟩;have J:M6 _:=m;have d0:M6 _:=F;clear j a2 A D t z m C x n y E b8 a3 O P a1 a8 F;clear j0 j1 j2 j3 j4 j5 j6 j7 e0 d8 e3
  go_wp2_with fail
  obtain⟨S,hS,d2,B⟩:∃S:MO->Prop,(∀X,S X->X.rangeAt g 0 M/\X.cell? ⟨g,26,MH⟩=MI (MG a.po T.out.length a.co))/\S d.drew/\S c:=⟨fun X=>X.rangeAt g 0 M/\X.cell? ⟨g,26,MH⟩=MI (MG a.po T.out.length a.co),fun _ h=>h,a7.out,a5.out⟩;have a9:M6 _:=hS;clear hS a7 a5;refine O2 (S:=S) (by kernel_rfl) d2 (fun hHeld=>?_);refine tk 0 (gP g) hHeld ?_;simp only[yZ];refine tk 1 (gP g) hHeld ?_;simp only[yZ];refine tk 2 (Na (MI ⟨g,0,MH⟩)) hHeld ?_;simp only[yZ];refine tk 3 (Ny M.toArray) hHeld ?_ (hy:=(Pt (by rfl) 56 (O6 41) rfl g 0 rfl M _ (fun _ h=>(a9.out _ h).1) azZ rfl (by rw[J.out];exact Z0)));simp only[yZ];refine tk 4 (gP g) hHeld ?_;simp only[yZ];refine tk 5 (gP g) hHeld ?_;simp only[yZ];refine tk 6 (Na (MI ⟨g,26,MH⟩)) hHeld ?_;simp only[yZ];refine tk 7 (MG a.po T.out.length a.co) hHeld ?_ (hy:=(Nt ⟨by rfl,fun X hSw=>by have s1:=(a9.out X hSw).2;go_simp⟩));simp only[yZ];refine yR [8] ?_;refine afX (i:=8) (o:=_) (by rfl) (by rfl) 56 (O6 4) (O6 42) (by rfl) f 0 M.toArray (by rfl) (by rfl) d3 (by rw[OQ,J.out];exact Z0) b9 (by rw[NS,<-k];exact B) ?_;rw[NS,<-k]
  try simp only[yZ]
  refine yR [9] ?_;refine acK (i:=9) (o:=_) (by rfl) (by rfl) (O6 46) (by rfl) (MG a.po T.out.length a.co) (by rfl) B ?_
  try simp only[yZ]
  refine yR [10] ?_;refine acK (i:=10) (o:=_) (by rfl) (by rfl) (.const (yB 0)) (by rfl) (yB 0) (by rfl) B ?_
  try simp only[yZ]
  refine PS (by kernel_rfl) ?_ _;go_wp2;refine Np (v:=Nv #[Ny M.toArray,MG a.po T.out.length a.co,yB 0]) (akY Tryz.results33 rfl rfl rfl (akJ p.out.2.2.1 azZ rfl (by rw[J.out];exact Z0))) rfl ?_;show ag5 w (Xb G e) _ _;rw[<-d0.out];exact⟨a.us,a.po,a.co,by rw[p.out.2.2.2],p.out.1,p.out.2.1⟩
 ·have s:(e.kind == 7)=false:=beq_eq_false_iff_ne.2 h7
  clear b6 h7
  go_wp2_with fail
  refine Nd HT.out ?_;rintro r d ⟨rfl,a,j,_,a2⟩;obtain⟨T,F⟩:=yE (Xb G e);rw[<-F]at j;have A:=H2.out.2.trans (a2.IT H2.out.1);have D:=(A.block f H.out.2.2.2.2.2.2.2.2.1).trans H.out.2.2.2.2.2.2.2.1;obtain⟨M,t⟩:=yE ((XR a.us T).toList);have z:M.toArray=XR a.us T:=by rw[t]
  have m:M.length=26:=by rw[t];rfl
  have b9:M.toArray.all (·.oneCell')=true:=by rw[z];exact ado _ _
  have C:d.drew.rangeAt g 0 M:=by rw[t];exact j.GY.Gq
  have x:=j.GY.Ip;have R:=j.lt;have d3:d.drew.there f 0 M.toArray.size:=by
   have h1:d.drew.heap[f]?=MI (MP Z.toArray 56 (0,0)):=D;have h2:=afH h1;rw[OQ,m];rw[N.out]at h2;exact h2
  obtain⟨c,k⟩:=yE (d.drew.setCells f 0 M);have a8:c.heap[f]?=MI (MP M.toArray 56 (0,0)):=by
   rw[k];exact afG (old:=Z) D (by rw[m,N.out];rfl)
  have n:∀b,b<d.heap.size->b≠f->c.heap[b]?=d.heap[b]?:=fun b s l=>by rw[k];exact N8 d.drew _ _ _ s l
  have y:d.heap.size<=c.heap.size:=by rw[k,ac3];exact MV _
  have b8:=H.out.2.2.2.2.2.2.2.2.1;have E:∀Y,aba w.heap.size c Y->aba q.heap.size d Y:=fun Y hY=>⟨Nm y hY.1,fun b s l=>(hY.2 b (Nm H.out.2.2.2.2.1.size s) (M8 l y)).trans (n b l (by omega))⟩
  have a3:∀Y,aba w.heap.size c Y->Xd Y a.us T/\Xw Z1 Y (MG a.po T.out.length a.co) T.out:=fun Y hY=>⟨j.Iz (E Y hY),j.Iy (E Y hY)⟩
  have O:yA w c:=by
   rw[k];have hq:=H.out.2.2.2.2.1.trans (A.mono H.out.2.2.2.2.1.size);exact adF hq.drew H.out.2.2.2.2.2.2.2.2.2 _ _ hq.size
  have a0:g≠f:=by have:=j.rest.low;have:=H.out.2.2.2.2.2.2.2.2.1;omega
  have P:c.rangeAt g 0 M:=fun jj v hv=>(NG (n g R a0)).trans (C jj v hv)
  have a1:c.cell? ⟨g,26,MH⟩=MI (MG a.po T.out.length a.co):=(NG (n g R a0)).trans x;have a7:M6 (d.drew.rangeAt g 0 M/\d.drew.cell? ⟨g,26,MH⟩=MI (MG a.po T.out.length a.co)):=⟨C,x⟩;have a5:M6 (c.rangeAt g 0 M/\c.cell? ⟨g,26,MH⟩=MI (MG a.po T.out.length a.co)):=⟨P,a1⟩;have p:M6 (_/\_/\_/\_):=⟨a3,O,a8,z⟩;have J:M6 _:=m;have d0:M6 _:=F;clear j a2 A D t z m C x n y E b8 a3 O P a1 a8 F;clear j0 j1 j2 j3 j4 j5 j6 j7 e0 d8 e3
  go_wp2_with fail
  obtain⟨S,hS,d2,B⟩:∃S:MO->Prop,(∀X,S X->X.rangeAt g 0 M/\X.cell? ⟨g,26,MH⟩=MI (MG a.po T.out.length a.co))/\S d.drew/\S c:=⟨fun X=>X.rangeAt g 0 M/\X.cell? ⟨g,26,MH⟩=MI (MG a.po T.out.length a.co),fun _ h=>h,a7.out,a5.out⟩;have a9:M6 _:=hS;clear hS a7 a5;refine O2 (S:=S) (by kernel_rfl) d2 (fun hHeld=>?_);refine tk 0 (gP g) hHeld ?_;simp only[yZ];refine tk 1 (gP g) hHeld ?_;simp only[yZ];refine tk 2 (Na (MI ⟨g,0,MH⟩)) hHeld ?_;simp only[yZ];refine tk 3 (Ny M.toArray) hHeld ?_ (hy:=(Pt (by rfl) 56 (O6 41) rfl g 0 rfl M _ (fun _ h=>(a9.out _ h).1) azZ rfl (by rw[J.out];exact Z0)));simp only[yZ];refine tk 4 (gP g) hHeld ?_;simp only[yZ];refine tk 5 (gP g) hHeld ?_;simp only[yZ];refine tk 6 (Na (MI ⟨g,26,MH⟩)) hHeld ?_;simp only[yZ];refine tk 7 (MG a.po T.out.length a.co) hHeld ?_ (hy:=(Nt ⟨by rfl,fun X hSw=>by have s1:=(a9.out X hSw).2;go_simp⟩));simp only[yZ];refine yR [8] ?_;refine afX (i:=8) (o:=_) (by rfl) (by rfl) 56 (O6 4) (O6 42) (by rfl) f 0 M.toArray (by rfl) (by rfl) d3 (by rw[OQ,J.out];exact Z0) b9 (by rw[NS,<-k];exact B) ?_;rw[NS,<-k]
  try simp only[yZ]
  refine yR [9] ?_;refine acK (i:=9) (o:=_) (by rfl) (by rfl) (O6 46) (by rfl) (MG a.po T.out.length a.co) (by rfl) B ?_
  try simp only[yZ]
  refine yR [10] ?_;refine acK (i:=10) (o:=_) (by rfl) (by rfl) (.const (yB 0)) (by rfl) (yB 0) (by rfl) B ?_
  try simp only[yZ]
  refine PS (by kernel_rfl) ?_ _;go_wp2;refine Np (v:=Nv #[Ny M.toArray,MG a.po T.out.length a.co,yB 0]) (akY Tryz.results33 rfl rfl rfl (akJ p.out.2.2.1 azZ rfl (by rw[J.out];exact Z0))) rfl ?_;show ag5 w (Xb G e) _ _;rw[<-d0.out];exact⟨a.us,a.po,a.co,by rw[p.out.2.2.2],p.out.1,p.out.2.1⟩
end
def Sm(G G':Gt):Prop:=G'.cfg=G.cfg/\G'.now=G.now
section
variable {G:Gt}
theorem Sm.Gy(G:Gt):Sm G G:=⟨rfl,rfl⟩
theorem Sm.F0{A B C:Gt}(h:Sm A B)(k:Sm B C):Sm A C:=⟨k.1.trans h.1,k.2.trans h.2⟩
theorem aeO{α:Type}{f:Gt->α->Gt}(h:∀G x,Sm G (f G x)):∀(l:List α) (G:Gt),Sm G (l.foldl f G)
 | [],G=>Sm.Gy G
 |x::l,G=>(h G x).F0 (aeO h l (f G x))
theorem ahJ(G:Gt)(b:Int):Sm G (Yf G b):=by
 unfold Yf
 split
 ·exact⟨rfl,rfl⟩
 ·exact Sm.Gy G
theorem aeN(G:Gt)(f:Fl)(k y:Int):Sm G (Yg G f k y):=by
 unfold Yg;exact Sm.F0 (B:=ZM {G with tab:=(ZQ G.tab f.slot f.gen).1,fls:=Yl G.fls f.slot f.gen,tms:=fun t=>G.tms t/\t.2≠f.slot} ⟨k,f.slot,f.gen,f.be,0,0,y⟩) ⟨rfl,rfl⟩ (ahJ _ _)
theorem aqL(G:Gt)(i:Nat)(b:Int):Sm G (ZL G i b):=by
 unfold ZL;simp only[];refine Sm.F0 ?_ (ahJ _ _);exact⟨rfl,rfl⟩
theorem ald(G:Gt)(i:Nat)(y:Int):Sm G (YP G i y):=by
 unfold YP;simp only[]
 split
 ·exact Sm.F0 (B:=Yh G (Xs G i).be Nw) ⟨rfl,rfl⟩ (aeN _ _ _ _)
 ·split
  ·exact Sm.F0 (B:=Yh G (Xs G i).be Nw) ⟨rfl,rfl⟩ (aeN _ _ _ _)
  ·exact Sm.F0 (B:={Yh G (Xs G i).be Nw with tok:=(Zh G.cfg.bn G.cfg.bd G.cfg.bb G.tok).1}) ⟨rfl,rfl⟩ (aqL _ _ _)
theorem aqM(G:Gt)(i:Nat):Sm G (abh G i):=⟨rfl,rfl⟩
theorem aqG(G:Gt)(i:Nat):Sm G (aaZ G i):=by
 unfold aaZ;simp only[]
 split
 ·exact⟨rfl,rfl⟩
 ·exact⟨rfl,rfl⟩
theorem aqJ(G:Gt)(k:Int):Sm G (aaI G k):=by
 unfold aaI
 split
 ·exact⟨rfl,rfl⟩
 ·simp only[]
  split
  ·exact⟨rfl,rfl⟩
  ·exact⟨rfl,rfl⟩
theorem aqI(G:Gt)(e:Ev):Sm G (aaq G e):=by
 unfold aaq;simp only[]
 split
 ·exact⟨rfl,rfl⟩
 ·split
  ·exact aeN _ _ _ _
  ·split
   ·exact aqG _ _
   ·split
    ·exact⟨rfl,rfl⟩
    ·split
     ·exact aqM _ _
     ·exact ald _ _ _
theorem aqK(G:Gt)(e:Ev):Sm G (abg G e):=by
 unfold abg
 split
 ·exact⟨rfl,rfl⟩
 ·split
  ·exact⟨rfl,rfl⟩
  ·exact Sm.F0 (B:={Yv G 2 e with wts:=G.wts.set e.be.toNat 0}) ⟨rfl,rfl⟩ (ahJ _ _)
theorem aqN(G:Gt):Sm G (YH G):=by
 unfold YH;exact Sm.F0 (B:={G with liv:=(abn G.liv G.req G.now).1.1,req:=(abn G.liv G.req G.now).1.2}) ⟨rfl,rfl⟩ (aeO (f:=YX) (fun _ _=>⟨rfl,rfl⟩) _ _)
theorem aqH(G:Gt):Sm G (Zs G):=by
 unfold Zs;refine Sm.F0 (B:={G with wnow:=G.wnow+1,tms:=fun t=>G.tms t/\t.1≠G.wnow+1}) ⟨rfl,rfl⟩ (aeO (fun G s=>?_) _ _);unfold X5;simp only[]
 split
 ·exact aeN _ _ _ _
 ·exact ald _ _ _
theorem aqF(G:Gt):Sm G (acG G):=by
 unfold acG;refine aeO (fun G l=>?_) _ _;unfold Zd
 split
 ·exact Sm.Gy _
 ·exact aeO (fun G h=>aeN _ _ _ _) _ _
theorem aqW(G:Gt):(abj G).cfg=G.cfg/\(abj G).now=G.now+1:=by
 unfold abj;have a:=aqN {G with now:=G.now+1};have c:Sm (YH {G with now:=G.now+1}) (aaC (YH {G with now:=G.now+1})):=⟨rfl,rfl⟩;have e:=aqH (aaC (YH {G with now:=G.now+1}));have d:=aqF (Zs (aaC (YH {G with now:=G.now+1})));exact((a.F0 c).F0 e).F0 d
theorem alh(G:Gt)(e:Ev):(Xb G e).cfg=G.cfg/\(Xb G e).now=if e.kind=7 then G.now+1 else G.now:=by
 unfold Xb
 split
 ·rename_i h
  rw[Nf (by omega)];exact aqJ _ _
 ·split
  ·rename_i h
   rw[Nf (by omega)];exact⟨rfl,rfl⟩
  ·split
   ·rename_i h
    rw[Nf (by omega)];exact aqK _ _
   ·split
    ·exact aqW G
    ·exact aqI _ _
end
structure Dd where
 k:Int
 a:Int
 b:Int
 c:Int
structure Sp where
 ev:Ev
 bef:Gt
 aft:Gt
 out:List Ou
structure Py where
 steps:List Sp
 last:Gt
 giv:List (Int×Int)
def Gt.Ma(G:Gt):Gt:={G with out:=[]}
def Zi(l:List Ou):List (Int×Int):=(l.filter fun o=>o.kind == 1).map fun o=>(o.slot,o.gen)
def Py.step(P:Py)(e:Ev):Py :=
 ⟨P.steps++[⟨e,P.last,(Xb P.last e).Ma,(Xb P.last e).out⟩],(Xb P.last e).Ma,P.giv++Zi (Xb P.last e).out⟩
section
variable {G:Gt}
theorem Wm.Ma(h:Wm G):Wm G.Ma:=h.Jh []
theorem Xd.Ma{U:Us}(h:Xd w U G):Xd w U G.Ma:=⟨h.tab,h.fls,h.book,h.ring,h.whl,h.hea,h.msl,h.hel,h.marks⟩
end
structure aaB(c:Cf)(s:Sp):Prop where
 out0:s.bef.out=[]
 wm:Wm s.bef
 cfg:s.bef.cfg=c
 ev:Yk s.ev=0
 aft:s.aft=(Xb s.bef s.ev).Ma
 out:s.out=(Xb s.bef s.ev).out
 late:s.ev.kind=7->s.bef.now+1<=1099511626776
structure XU(c:Cf)(P:Py):Prop where
 wm:Wm P.last
 out:P.last.out=[]
 cfg:P.last.cfg=c
 now:P.last.now<=P.steps.length
 chain:∀s∈P.steps,aaB c s
 next:∀(i:Nat) (s t:Sp),P.steps[i]?=MI s->P.steps[i+1]?=MI t->t.bef=s.aft
 tail:∀s,P.steps[P.steps.length-1]?=MI s->P.last=s.aft
 giv:P.giv=(P.steps.map fun s=>Zi s.out).flatten
theorem XU.step{c:Cf}{P:Py}(h:XU c P){e:Ev}(he:Yk e=0)(hl:P.steps.length<=1000000):XU c (P.step e):=by
 have p:=h.now;have m:e.kind=7->P.last.now+1<=1099511626776:=fun _=>by omega
 have l:=alh P.last e;obtain⟨z,f⟩:∃z:Sp,z=⟨e,P.last,(Xb P.last e).Ma,(Xb P.last e).out⟩:=⟨_,rfl⟩;have d:(P.step e).steps=P.steps++[z]:=by rw[f];rfl
 have j:(P.steps++[z]).length=P.steps.length+1:=by simp
 refine⟨(h.wm.Mm (aeH he) m).Ma,rfl,l.1.trans h.cfg,?_,fun s a=>?_,fun i s t hi hj=>?_,fun s a=>?_,?_⟩
 ·rw[d,j]
  show(Xb P.last e).now<=_;rw[l.2]
  split <;> omega
 ·rw[d]at a
  rcases QF.1 a with a|a
  ·exact h.chain s a
  ·rw[PY]at a
   subst a;subst f;exact⟨h.out,h.wm,h.cfg,he,rfl,rfl,m⟩
 ·rw[d]at hi hj
  have n:i+1<P.steps.length+1:=by rw[<-j];exact(ZAb.1 hj).1
  rw[OJ (by omega)]at hi
  by_cases hlt:i+1<P.steps.length
  ·rw[OJ hlt]at hj
   exact h.next i s t hi hj
  ·have k:P.steps.length=i+1:=by omega
   rw[Tw (by omega),k,Nat.sub_self]at hj;cases hj;rw[f];exact h.tail s (by rw[k];exact hi)
 ·rw[d,j,Tw (by omega)]at a
  rw[show P.steps.length+1-1-P.steps.length=0 by omega]at a;cases a;rw[f];rfl
 ·rw[d,OI,PV,<-h.giv,f]
  simp;rfl
end
section
variable {e:Ev}{f:Fl}{X:Gt}{y:Int}{i:Nat}
def Yb(c:Cf):Gt:=⟨c,0,Nj c.flows.toNat (0,Nb,0,0),[],[],[],Nj 12 0,Nj 12 XM,c.bb*c.bd,0,fun _=>False,[]⟩
theorem ak7:∀(n:Int) (k:Nat),Xx n (Nj k ((0,Nb,0,0):awY))=[]
 |_,0=>rfl
 |n,k+1=>by
  rw[List.replicate_succ];show(if Nb=Nw then _ else _)=_;rw[Nf (by decide)];exact ak7 (n+1) k
theorem ale:WW (Nj 12 0)=[]:=by
 have h:=agK aiW;cases hs:WW (Nj 12 0)with
 |nil=>rfl
 |cons t l =>
  exfalso;have d:=aiQ (afi aiW) t (by rw[hs];exact NM);have a:=agx (Nj 12 0) t.2.toNat (by omega);rw[hs]at a;have b:wt (Nj 12 0) t.2.toNat=0:=by
   unfold wt;rw[NK,Pj]
   split <;> rfl
  rw[b]at a;unfold XX at a;rw[List.countP_cons_of_pos (by rw[decide_eq_true_iff];omega)]at a;omega
theorem aoq:Y9 0 aaW:=by
 refine⟨⟨by omega,by omega⟩,⟨by simp[aaW],fun i l hl t ht=>?_,fun l hl=>?_,by simp[aaW]⟩⟩
 ·have:l=[]:=Pd (Nu hl)
  subst this;cases ht
 ·have:l=[]:=Pd hl
  subst this;exact List.Pairwise.nil
theorem akw{c:Cf}(hc:adg c):Wm (Yb c):=by
 have m:=hc.2.2.2.2.2.2.2.2.2.2.1;have n:=hc.2.2.2.2.2.2.2.2.2.2.2;have j:0<=c.bb*c.bd:=Int.mul_nonneg (by omega) (by omega);have g:(Nj c.flows.toNat ((0,Nb,0,0):awY)).length=c.flows.toNat:=Qr;refine⟨⟨⟨hc,⟨by show(0:Int)<=0;omega,by show(0:Int)<=1099511626776;omega⟩,⟨?_,fun t d=>?_⟩,?_,⟨⟨by simp[Yb],fun x hx=>absurd hx (by simp[Yb]),by simp[Yb]⟩,by simp[Yb],fun x hx=>absurd hx (by simp[Yb]),by simp[Yb]⟩,⟨j,Qh _⟩,Qr,fun h a=>?_,?_,fun f hf=>absurd hf (by simp[Yb]),fun l hl=>absurd hl (by simp[Yb]),aiW,⟨Qh _,Qh _⟩,fun t=>⟨fun h=>absurd h (by simp[Yb]),fun⟨f,hf,_⟩=>absurd hf (by simp[Yb])⟩⟩,fun f hf=>absurd hf (by simp[Yb]),fun b m=>?_,fun l hl=>absurd hl (by simp[Yb]),fun f hf=>absurd hf (by simp[Yb])⟩,rfl,fun f hf=>absurd hf (by simp[Yb]),fun l hl=>absurd hl (by simp[Yb]),fun h a ho=>?_⟩
 ·show _<=_/\_<=_
  simp only[Yb,g];omega
 ·have d:t=(0,Nb,0,0):=Pd d
  subst d
  decide
 ·show((Nj c.flows.toNat ((0,Nb,0,0):awY)).length:Int)=c.flows
  rw[g];omega
 ·have a:h=XM:=Pd a
  subst a;exact⟨by show((0:Nat):Int)<=c.wn;omega,by decide,by decide,NF rfl⟩
 ·show([]:List Fl).map Fl.F8=Xx 0 (Nj c.flows.toNat ((0,Nb,0,0):awY))
  rw[ak7];rfl
 ·show(Nj 12 (0:Int)).getD b 0=if WY [] (b:Int)=2 then _ else 0
  rw[Nf (show ¬WY [] (b:Int)=2 from by show ¬(0:Int)=2;decide),NK,Pj]
  split <;> rfl
 ·have a:h=XM:=Pd a
  subst a;cases ho
theorem apg:rv aeW (Nj 12 ())=rv aa0 ((Nj 12 ((MH,0):Mk)).zip (Nj 12 XM)):=rfl
theorem aor(c:Cf)(hc:adg c)(w:MO) :
  Ni MK 12 #[ag9 c] w fun r w'=>∃U,r=MN (Nv #[acN U (Yb c),yB 0])/\(∀W,aba w.heap.size w' W->Xd W U (Yb c))/\yA w w':=by
 have d:acO ⟨c.flows,c.num,c.den,c.tries,c.warm,c.drain,c.idle,c.conn,c.ret,c.most,c.bn,c.bd,c.bb,c.wn,c.wf,c.wh⟩:=hc;refine(arg ⟨c.flows,c.num,c.den,c.tries,c.warm,c.drain,c.idle,c.conn,c.ret,c.most,c.bn,c.bd,c.bb,c.wn,c.wf,c.wh⟩ w d).mono ?_;intro r w' a;unfold af5 at a;rw[Nh d]at a;obtain⟨K,H,I,rfl,g,D⟩:=a;obtain⟨n,o,p⟩:=g w' ⟨MV _,fun _ _ _=>rfl⟩;obtain⟨F,E,rfl,_⟩:=n.F6;obtain⟨j,l,rfl,_,_⟩:=Xw.Ga o;obtain⟨L,⟨s,z,rfl,_,_,_⟩,_⟩:=p;have b:(WW (Yb c).wts).length=0:=by show(WW (Nj 12 0)).length=0;rw[ale];rfl
 refine⟨⟨j,l,F,E,MH,0,MH,0,MH,0,MH,0,s,z,Nj 12 (MH,0)⟩,?_,fun W hW=>?_,D⟩
 ·simp only[acN,XR,b]
  rfl
 ·obtain⟨v,C,u⟩:=g W hW
  refine⟨v,ak3 W,⟨Z3 W,Z3 W⟩,?_,⟨aaW,aoq,fun t=>⟨fun h=>?_,fun h=>h.elim⟩,u⟩,?_,Qr,Qr,fun i m x e1 e2=>?_⟩
  ·rw[b]
   show XB W (MG MH 0 0) (WW (Nj 12 0)).length (WP (WW (Nj 12 0)));rw[ale];exact Z3 W
  ·simp[aaW]at h
  ·show XB W (MG j 12 l) ((Nj 12 ((MH,0):Mk)).zip (Nj 12 XM)).length (rv aa0 ((Nj 12 ((MH,0):Mk)).zip (Nj 12 XM)))
   rw[<-apg];exact C
  ·have B:m=(MH,0):=Pd (Nu e1)
   have q:x=XM:=Pd (Nu e2);subst B;subst q;exact ah2 W
abbrev Ey(f:Fl)(y:Int):Prop:=(y=1/\f.srv=Nw)\/y=2
section
variable {R:Gt->Prop}
theorem ahx(h1:∀X f y,Im X->f∈X.fls->Ey f y->R X->R (Yg X f 6 y))(h2:∀X (i:Nat) (_:Im X) (hi:i<X.fls.length),X.fls[i].srv=Nb->R X->R (YP X i 5)) :
  ∀(l:List Int) (G:Gt),Im G->l.Nodup->(∀s∈l,∃f∈G.fls,f.slot=s)->R G->R (l.foldl X5 G)
 | [],G,_,_,_,hR=>hR
 |s::l,G,h,hn,hs,hR=>by
  obtain⟨f,a,rfl⟩:=hs s (by simp);obtain⟨j,n,b,_⟩:=ahy h a;obtain⟨g,m⟩:=List.nodup_cons.1 hn;refine ahx h1 h2 l _ j m (fun c hc=>?_) ?_
  ·obtain⟨k,d,rfl⟩:=hs c (NB _ hc)
   exact⟨k,(b k fun e=>g (by rw[<-e];exact hc)).2 d,rfl⟩
  ·obtain⟨hi,e⟩:=h.bs.GG a
   unfold X5;simp only[]
   split
   ·rename_i hv
    rw[XA hi,e]at hv⊢;exact h1 _ _ _ h a (Nt ⟨rfl,hv⟩) hR
   ·rename_i hv
    rw[XA hi]at hv;exact h2 _ _ h hi (by simpa using hv) hR
theorem akf(h1:∀X f y,Im X->f∈X.fls->Ey f y->R X->R (Yg X f 6 y)) :
  ∀(l:List Tm) (G:Gt),Im G->l.Pairwise (fun a b=>a.1<b.1)->(∀t∈l,∃f∈G.fls,f.slot=t.1)->R G->R (l.foldl Ye G)
 | [],G,_,_,_,hR=>hR
 |t::l,G,h,hn,hs,hR=>by
  obtain⟨f,d,e⟩:=hs t (by simp);obtain⟨p,m⟩:=h.bs.GG d;have g:Ye G t=Yg G f 6 2:=by unfold Ye;rw[<-e,XA p,m]
  have j:adi G (Ye G t) t.1:=by rw[g,<-e];exact ad3 h.bs d _ _
  obtain⟨q,r⟩:=ZAe.1 hn;refine akf h1 l _ (by rw[g];exact h.Hc d _ _) r (fun c hc=>?_) (by rw[g];exact h1 _ _ _ h d (NF rfl) hR);obtain⟨k,n,o⟩:=hs c (NB _ hc);refine⟨k,(j k fun e3=>?_).2 n,o⟩;have:=q c hc;omega
theorem akb(h1:∀X f y,Im X->f∈X.fls->Ey f y->R X->R (Yg X f 6 y)):∀(L:List awV) (G:Gt),Im G->R G->R (L.foldl Zd G)
 | [],G,_,hR=>hR
 |l::L,G,h,hR=>by
  refine akb h1 L _ (ahd h l).1 ?_;unfold Zd
  split
  ·exact hR
  ·obtain⟨d,a⟩:=h.bs.IW l.1
   refine akf h1 _ G h d (fun t ht=>?_) hR;obtain⟨f,b,e,_⟩:=a t ht;exact⟨f,b,e⟩
variable {G:Gt}
def ZC(G:Gt):Gt:=aaC (YH {G with now:=G.now+1})
def adV(G:Gt):Gt:={ZC G with wnow:=(ZC G).wnow+1,tms:=fun t=>(ZC G).tms t/\t.1≠(ZC G).wnow+1}
theorem Wm.My(h:Wm G)(hn:G.now+1<=1099511626776):Im (adV G)/\(∀s∈aaD (ZC G).fls ((ZC G).wnow+1),∃f∈(ZC G).fls,f.slot=s)/\(aaD (ZC G).fls ((ZC G).wnow+1)).Nodup/\(ZC G).now=G.now+1/\(ZC G).wnow=G.now/\(ZC G).fls=G.fls:=by
 have g:=h.im.next hn;obtain⟨l,m,p,q,_⟩:=aeS g.bs;have d:=g.Jf.I2;have a:(ZC G).now=G.now+1:=l;have b:(ZC G).wnow=G.now:=m.trans h.wnow;obtain⟨o,j⟩:=Bs.IF (G:=ZC G) d.bs ((ZC G).wnow+1);refine⟨Im.IN (G:=ZC G) d (by rw[b,a];exact Qh _),fun s hs=>?_,o,a,b,p⟩;obtain⟨f,n,e,_⟩:=j s hs;exact⟨f,n,e⟩
theorem alk(h:Wm G)(hn:G.now+1<=1099511626776)(h0:R (adV G))(h1:∀X f y,Im X->f∈X.fls->Ey f y->R X->R (Yg X f 6 y))(h2:∀X (i:Nat) (_:Im X) (hi:i<X.fls.length),X.fls[i].srv=Nb->R X->R (YP X i 5)):R (abj G):=by
 obtain⟨a,b,d,_,_,_⟩:=h.My hn;have g:R (Zs (ZC G)):=ahx h1 h2 _ (adV G) a d b h0;have hi:Im (Zs (ZC G)):=by
  have:(fun X=>Im X) (Zs (ZC G)):=ahx (R:=fun X=>Im X) (fun X f y hX hf _ _=>hX.Hc hf 6 y) (fun X i hX hi _ _=>hX.I8 hi 5) _ (adV G) a d b a;exact this
 exact akb h1 _ _ hi g
end
section
variable {G:Gt}
theorem ahQ(hi:i<G.fls.length)(n:Int):∃T,YW G i n={G with fls:=G.fls.set i {G.fls[i]with due:=G.now+n},tms:=T}/\Xs (YW G i n) i={G.fls[i]with due:=G.now+n}:=by
 have e:YW G i n={G with fls:=G.fls.set i {G.fls[i]with due:=G.now+n},tms:=(YW G i n).tms}:=by
  unfold YW;rw[XA hi]
 refine⟨_,e,?_⟩;rw[e,XA (by simpa using hi)];simp
theorem ak0(hi:i<G.fls.length)(b:Int):∃T,ZL G i b=Yf (ZM {G with tab:=(Y0 G.tab G.fls[i].slot G.fls[i].gen b).1,fls:=G.fls.set i {G.fls[i]with be:=b,ret:=G.fls[i].ret+1,due:=G.now+G.cfg.conn},tms:=T} ⟨5,G.fls[i].slot,G.fls[i].gen,b,0,0,0⟩) G.fls[i].be:=by
 obtain⟨d,a⟩:∃d,d=Y4 {G with tab:=(Y0 G.tab G.fls[i].slot G.fls[i].gen b).1} i {G.fls[i]with be:=b,ret:=G.fls[i].ret+1}:=⟨_,rfl⟩;have j:i<d.fls.length:=by rw[a];simpa [Y4]using hi
 have g:d.fls[i]={G.fls[i]with be:=b,ret:=G.fls[i].ret+1}:=by simp[a,Y4]
 obtain⟨T,m,l⟩:=ahQ j G.cfg.conn;refine⟨T,?_⟩;unfold ZL;simp only[XA hi];rw[<-a,l,g,m,g];unfold abi;simp only[a,Y4,List.set_set]
theorem alb(hi:i<G.fls.length):∃T,abh G i=ZM {Yh G G.fls[i].be Nb with fls:=G.fls.set i {G.fls[i]with srv:=Nw,due:=G.now+G.cfg.idle},tms:=T} ⟨4,G.fls[i].slot,G.fls[i].gen,G.fls[i].be,0,0,0⟩:=by
 obtain⟨b,a⟩:∃b,b=Y4 (Yh G G.fls[i].be Nb) i {G.fls[i]with srv:=Nw}:=⟨_,rfl⟩;have g:i<b.fls.length:=by rw[a];simpa [Y4,Yh]using hi
 have d:b.fls[i]={G.fls[i]with srv:=Nw}:=by simp[a,Y4,Yh]
 obtain⟨T,l,j⟩:=ahQ g G.cfg.idle;refine⟨T,?_⟩;unfold abh;simp only[XA hi];rw[<-a,j,d,l,d];unfold abi;simp only[a,Y4,Yh,List.set_set]
theorem aks(hi:i<G.fls.length):∃T,aaZ G i=ZM {G with fls:=G.fls.set i (if G.fls[i].srv then {G.fls[i]with due:=G.now+G.cfg.idle}else G.fls[i]),tms:=T} ⟨3,G.fls[i].slot,G.fls[i].gen,G.fls[i].be,0,0,0⟩:=by
 unfold aaZ;simp only[XA hi]
 split
 ·obtain⟨T,b,a⟩:=ahQ hi G.cfg.idle
  refine⟨T,?_⟩;rw[a,b];rfl
 ·refine⟨G.tms,?_⟩
  rw[List.set_getElem_self,XA hi];rfl
theorem akr(h:Bs G)(e:Ev):((Yj G.tab e.slot e.gen).2≠0/\aaq G e=acm G 10 (Yj G.tab e.slot e.gen).2) \/
  (∃(i:Nat) (hi:i<G.fls.length),(Yj G.tab e.slot e.gen).2=0/\G.fls[i].slot=e.slot/\G.fls[i].gen=e.gen /\
   ((e.kind=3/\aaq G e=Yg G G.fls[i] 7 0)\/(e.kind=2/\aaq G e=aaZ G i) \/
    (e.kind≠3/\e.kind≠2/\((G.fls[i].srv=Nw/\aaq G e=acm G 10 7)\/(G.fls[i].srv=Nb/\e.good=Nw/\aaq G e=abh G i)\/(G.fls[i].srv=Nb/\e.good=Nb/\aaq G e=YP G i 3))))):=by
 unfold aaq;simp only[]
 by_cases hc:(Yj G.tab e.slot e.gen).2=0
 ·rw[Nf (fun h=>h hc)]
  obtain⟨f,g,b,d⟩:=h.Jv hc;obtain⟨hi,a⟩:=h.GG g;rw[b]at hi;have a:G.fls[aaF G.fls e.slot]=f:=by simp only[b]at a;exact a
  refine NF ⟨_,hi,hc,by rw[a,b],by rw[a,d],?_⟩;rw[XA hi]
  by_cases k3:e.kind=3
  ·rw[Nh k3];exact Nt ⟨k3,rfl⟩
  ·rw[Nf k3]
   by_cases k2:e.kind=2
   ·rw[Nh k2];exact NF (Nt ⟨k2,rfl⟩)
   ·rw[Nf k2]
    refine NF (NF ⟨k3,k2,?_⟩);cases hs:G.fls[aaF G.fls e.slot].srv
    ·cases hg:e.good
     ·exact NF (NF ⟨rfl,rfl,by simp⟩)
     ·exact NF (Nt ⟨rfl,rfl,by simp⟩)
    ·exact Nt ⟨rfl,by simp⟩
 ·rw[Nh hc]
  exact Nt ⟨hc,rfl⟩
end
structure Zc(k:Int)(Q:Ou->Prop):Prop where
 gone:∀b r,Q ⟨9,0,0,b,r,0,0⟩
 flow:∀x s g b y:Int,(3<=x/\x<=7)->(0<=s/\s<40)->(0<=g/\g<=1048575)->(0<=b/\b<12)->(x=6↔y≠0)->Q ⟨x,s,g,b,0,0,y⟩
 acc:k=1->∀s g b:Int,(0<=s/\s<40)->(0<=g/\g<=1048575)->(0<=b/\b<12)->Q ⟨1,s,g,b,0,0,0⟩
 no:k=1->∀c,c≠0->Q ⟨2,0,0,0,0,c,0⟩
 bad:k≠1->∀c,c≠0->Q ⟨10,0,0,0,0,c,0⟩
 rep:k≠1->∀r c,Q ⟨8,0,0,0,r,c,0⟩
def abb(Q:Ou->Prop)(G:Gt):Prop:=∀o∈G.out,Q o
section
variable {G:Gt}{Q:Ou->Prop}{k:Int}
theorem abb.GT(h:abb Q G){o:Ou}(ho:Q o):abb Q (ZM G o):=fun x a=>by
 rcases QF.1 a with a|a
 ·exact h x a
 ·rw[PY.1 a];exact ho
theorem abb.drain(h:abb Q G)(hs:Zc k Q)(b:Int):abb Q (Yf G b):=by
 unfold Yf
 split
 ·exact abb.GT (G:={G with liv:=_,req:=_}) h (hs.gone _ _)
 ·exact h
theorem Zc.Me(hs:Zc k Q)(hb:Bs G)(hf:f∈G.fls){x:Int}(hk:3<=x/\x<=7)(hy:x=6↔y≠0):Q ⟨x,f.slot,f.gen,f.be,0,0,y⟩:=by
 obtain⟨d,b,_,a⟩:=hb.F9 hf;exact hs.flow _ _ _ _ _ hk d b a hy
theorem abb.ends(h:abb Q G)(hs:Zc k Q)(hb:Bs G)(hf:f∈G.fls){x:Int}(hk:x=6/\y≠0\/x=7/\y=0):abb Q (Yg G f x y):=by
 unfold Yg;exact abb.drain (abb.GT (G:={G with tab:=(ZQ G.tab f.slot f.gen).1,fls:=Yl G.fls f.slot f.gen,tms:=fun t=>G.tms t/\t.2≠f.slot}) h (hs.Me hb hf (by omega) (by omega))) hs _
theorem abb.Mg(h:abb Q G)(hs:Zc k Q)(hb:Bs G)(hl:i<G.fls.length)(hy:y≠0):abb Q (YP G i y):=by
 have a:=Nk hl;obtain⟨l,b,_,g⟩:=hb.F9 a;rcases aeI hb hl y with⟨z,q,j⟩|⟨c,q,o,m,n,d,_⟩
 ·rw[q]
  exact abb.ends (G:=Yh G G.fls[i].be Nw) h hs (hb.GA g Nw) a (Nt ⟨rfl,by rcases j with rfl|rfl;exact hy;decide⟩)
 ·obtain⟨T,e⟩:=ak0 (G:={Yh G G.fls[i].be Nw with tok:=G.tok-G.cfg.bd}) hl c
  rw[q,e];refine abb.drain (abb.GT ?_ (hs.flow 5 _ _ _ 0 (by decide) l b d (by decide))) hs _;exact h
theorem alg(hm:Wm G)(he:XZ e)(h7:e.kind=7->G.now+1<=1099511626776)(hs:Zc e.kind Q)(h:abb Q G):abb Q (Xb G e):=by
 have a:=hm.im.bs;unfold Xb
 split
 ·rename_i k1
  rcases afU a he.key with⟨q,_⟩|⟨q,_⟩|⟨k,p,_,_,g,_,_,m,_,q⟩
  ·rw[q];exact h.GT (hs.no k1 _ (by decide))
  ·rw[q];exact h.GT (hs.no k1 _ (by decide))
  ·rw[q]
   refine abb.GT h (hs.acc k1 _ _ _ ⟨by omega,?_⟩ m g);have:=a.tab.1.2;omega
 ·rename_i k1
  split
  ·exact h.GT (hs.rep k1 _ _)
  ·split
   ·have j:abb Q (Yv G 2 e):=h.GT (hs.rep k1 _ _)
    unfold abg
    split
    ·exact j
    ·split
     ·exact j.GT (hs.gone _ _)
     ·exact abb.drain (G:={Yv G 2 e with wts:=G.wts.set e.be.toNat 0}) j hs _
   ·split
    ·rename_i k7
     refine alk (R:=abb Q) hm (h7 k7) ?_ (fun X f y hX hf hy hR=>hR.ends hs hX.bs hf (Nt ⟨rfl,by omega⟩)) (fun X i hX b _ hR=>hR.Mg hs hX.bs b (by decide));have n:(adV G).out=G.out:=(aeS (a.next (h7 k7))).2.2.2.2.1;intro o l;rw[n]at l;exact h o l
    ·rcases akr a e with⟨g,q⟩|⟨i,b,_,_,_,⟨_,q⟩|⟨_,q⟩|⟨_,_,⟨_,q⟩|⟨_,_,q⟩|⟨_,_,q⟩⟩⟩
     ·rw[q];exact h.GT (hs.bad k1 _ g)
     ·rw[q];exact h.ends hs a (Nk b) (NF ⟨rfl,rfl⟩)
     ·obtain⟨T,d⟩:=aks b
      rw[q,d];exact abb.GT h (hs.Me a (Nk b) (by decide) (by decide))
     ·rw[q];exact h.GT (hs.bad k1 _ (by decide))
     ·obtain⟨T,d⟩:=alb b
      rw[q,d];exact abb.GT h (hs.Me a (Nk b) (by decide) (by decide))
     ·rw[q];exact h.Mg hs a b (by decide)
end
structure Rn(A:Gt)(c:Cf)(P:Py):Prop where
 runs:XU c P
 zero:XU c ⟨[],A,[]⟩
 built:∃es:List Ev,P=es.foldl Py.step ⟨[],A,[]⟩/\(∀e∈es,Yk e=0)/\es.length<=1000000
section
variable {A:Gt}{c:Cf}{P:Py}
theorem aqQ(es:List Ev):∀P:Py,(es.foldl Py.step P).steps.length=P.steps.length+es.length:=by
 induction es with
 |nil=>intro P;rfl
 |cons e es ih=>intro P;rw[O4,ih];simp[Py.step];omega
theorem Rn.Ml(h:XU c ⟨[],A,[]⟩):Rn A c ⟨[],A,[]⟩:=⟨h,h,[],rfl,(fun _ h=>absurd h OD),Nx _⟩
theorem Rn.step(h:Rn A c P)(he:Yk e=0)(hl:P.steps.length<1000000):Rn A c (P.step e):=by
 obtain⟨d,q,g,_⟩:=h.built;have b:=aqQ d ⟨[],A,[]⟩;rw[<-q]at b;have b:P.steps.length=0+d.length:=b;refine⟨h.runs.step he (by omega),h.zero,d++[e],by rw[Pu,<-q];rfl,fun x a=>?_,by simp;omega⟩;rcases QF.1 a with a|a
 ·exact g x a
 ·rw[PY.1 a];exact he
theorem Rn.Mw{J:Py->Prop}(h:Rn A c P)(h0:J ⟨[],A,[]⟩)(hs:∀Q e,Rn A c Q->Yk e=0->Q.steps.length<1000000->J Q->J (Q.step e)):J P:=by
 obtain⟨a,q,n,j⟩:=h.built;have m:∀a:List Ev,(∀e∈a,Yk e=0)->∀Q,Rn A c Q->Q.steps.length+a.length<=1000000->J Q->J (a.foldl Py.step Q):=by
  intro a
  induction a with
  |nil=>exact fun _ Q _ _ b=>b
  |cons e a ih =>
   intro g Q d j b;rw[Ox]at j;have l:=g e (by simp);refine ih (fun x hx=>g x (NB _ hx)) _ (d.step l (by omega)) ?_ (hs Q e d l (by omega) b);show(Q.steps++[_]).length+a.length<=1000000;simp;omega
 rw[q];exact m a n _ (Rn.Ml h.zero) (by show 0+a.length<=1000000;omega) h0
theorem aaB.Jl{s:Sp}(h:aaB c s){Q:Ou->Prop}(hs:Zc s.ev.kind Q):∀o∈s.out,Q o:=by
 rw[h.out];exact alg h.wm (aeH h.ev) h.late hs fun o ho=>by rw[h.out0]at ho;cases ho
theorem XU.Mx(h:XU c P):∀x∈P.giv,(0<=x.1/\x.1<40)/\(0<=x.2/\x.2<=1048575):=by
 intro x a;rw[h.giv]at a;obtain⟨l,t,a⟩:=List.mem_flatten.1 a;obtain⟨s,p,rfl⟩:=ZAd.1 t;unfold Zi at a;obtain⟨o,n,rfl⟩:=ZAd.1 a;obtain⟨n,j⟩:=ZAf.1 n;have j:o.kind=1:=by simpa using j
 refine(h.chain s p).Jl (Q:=fun o=>o.kind=1->(0<=o.slot/\o.slot<40)/\(0<=o.gen/\o.gen<=1048575)) ⟨?_,?_,?_,?_,?_,?_⟩ o n j
 ·intro b r h;exact absurd h (by simp)
 ·intro x s g b y a d m q u _;exact⟨d,m⟩
 ·intro _ s g b d m q _;exact⟨d,m⟩
 ·intro _ c _ h;exact absurd h (by simp)
 ·intro _ c _ h;exact absurd h (by simp)
 ·intro _ r c h;exact absurd h (by simp)
end
abbrev aby:awY:=(0,Nb,0,0)
def aad(t:awY):Int:=t.1+if t.2.1=Nw then 1 else 0
def Fx(G G':Gt):Prop:=∀k:Nat,aad (G'.tab.getD k aby)=aad (G.tab.getD k aby)
section
variable {G:Gt}
theorem ahB{T:List awY}{k:Nat}(hk:k<T.length)(x:awY)(j:Nat):aad ((T.set k x).getD j aby)=if j=k then aad x else aad (T.getD j aby):=by
 simp only[NK,List.getElem?_set]
 by_cases e:k=j
 ·subst e;simp[hk]
 ·rw[Nf e,Nf (fun h=>e h.symm)]
theorem Fx.drain(h:Fx G X)(b:Int):Fx G (Yf X b):=fun k=>by rw[(ahi b).2.2.2.2.2.1];exact h k
theorem Fx.ends(h:Fx G X)(hb:Bs X)(hf:f∈X.fls)(k y:Int):Fx G (Yg X f k y):=by
 unfold Yg;refine Fx.drain (fun j=>?_) _;obtain⟨i,a,b,d⟩:=hb.slot hf;show aad ((ZQ X.tab f.slot f.gen).1.getD j aby)=_;rw[hb.Hj hf,b,NR,ahB a]
 split
 ·rename_i e
  subst e;rw[<-h,NK,MR a,OV,d];unfold aad;simp
 ·exact h j
theorem Fx.Mg(h:Fx G X)(hb:Bs X)(hi:i<X.fls.length)(y:Int):Fx G (YP X i y):=by
 have a:=Nk hi;obtain⟨_,_,_,m⟩:=hb.F9 a;rcases aeI hb hi y with⟨z,q,o⟩|⟨c,q,n,p,r,l,_⟩
 ·rw[q]
  exact Fx.ends (X:=Yh X X.fls[i].be Nw) h (hb.GA m Nw) a _ _
 ·obtain⟨T,e⟩:=ak0 (G:={Yh X X.fls[i].be Nw with tok:=X.tok-X.cfg.bd}) hi c
  rw[q,e];refine Fx.drain (fun j=>?_) _;obtain⟨k,b,d,g⟩:=hb.slot a;show aad ((Y0 X.tab X.fls[i].slot X.fls[i].gen c).1.getD j aby)=_;rw[hb.Ho a l,d,NR,ahB b]
  split
  ·rename_i e
   subst e;rw[<-h,NK,MR b,OV,g];unfold aad;simp
  ·exact h j
theorem aqS(hm:Wm G)(he:XZ e)(h7:e.kind=7->G.now+1<=1099511626776)(h1:e.kind≠1):Fx G (Xb G e):=by
 have d:=hm.im.bs;have a:Fx G G:=fun _=>rfl
 unfold Xb;rw[Nf h1]
 split
 ·exact a
 ·split
  ·unfold abg
   split
   ·exact a
   ·split
    ·exact a
    ·exact Fx.drain (X:={Yv G 2 e with wts:=G.wts.set e.be.toNat 0}) a _
  ·split
   ·rename_i k7
    refine alk (R:=Fx G) hm (h7 k7) ?_ (fun X f y hX hf hy hR=>hR.ends hX.bs hf _ _) (fun X i hX b _ hR=>hR.Mg hX.bs b _);have j:(adV G).tab=G.tab:=(aeS (d.next (h7 k7))).2.2.2.2.2.1;intro k;rw[j]
   ·rcases akr d e with⟨l,q⟩|⟨i,b,_,_,_,⟨_,q⟩|⟨_,q⟩|⟨_,_,⟨_,q⟩|⟨_,_,q⟩|⟨_,_,q⟩⟩⟩
    ·rw[q];exact a
    ·rw[q];exact a.ends d (Nk b) _ _
    ·obtain⟨T,g⟩:=aks b
     rw[q,g];exact a
    ·rw[q];exact a
    ·obtain⟨T,g⟩:=alb b
     rw[q,g];exact a
    ·rw[q];exact a.Mg d b _
theorem aqT(hm:Wm G)(ho:G.out=[])(he:XZ e)(h7:e.kind=7->G.now+1<=1099511626776):
  (Fx G (Xb G e)/\∀o∈(Xb G e).out,o.kind≠1) \/
  (∃k:Nat,e.kind=1/\k<G.tab.length/\(Xb G e).out=[⟨1,k,aad (G.tab.getD k aby),(XD G e.key G.fls).1,0,0,0⟩]/\∀j:Nat,aad ((Xb G e).tab.getD j aby)=aad (G.tab.getD j aby)+if j=k then 1 else 0):=by
 have l:=hm.im.bs
 by_cases h1:e.kind=1
 ·unfold Xb
  rw[Nh h1];rcases afU l he.key with⟨q,_⟩|⟨q,_⟩|⟨k,a,_,_,p,_,m,n,_,q⟩
  ·rw[q]
   refine Nt ⟨fun _=>rfl,fun o h=>?_⟩;have h:o∈G.out++[(⟨2,0,0,0,0,9,0⟩:Ou)]:=h;rw[ho,Oz,PY]at h;rw[h];decide
  ·rw[q]
   refine Nt ⟨fun _=>rfl,fun o h=>?_⟩;have h:o∈G.out++[(⟨2,0,0,0,0,11,0⟩:Ou)]:=h;rw[ho,Oz,PY]at h;rw[h];decide
  ·rw[q]
   have d:aad (G.tab.getD k aby)=G.tab[k].1:=by
    rw[NK,MR a,OV];unfold aad;rw[m];simp
   refine NF ⟨k,h1,a,?_,fun j=>?_⟩
   ·show G.out++[_]=_
    rw[ho,d];rfl
   ·show aad ((G.tab.set k _).getD j aby)=_
    rw[ahB a]
    split
    ·rename_i e2
     rw[e2,d];unfold aad;simp
    ·omega
 ·refine Nt ⟨aqS hm he h7 h1,?_⟩
  refine alg hm he h7 (Q:=fun o=>o.kind≠1) ⟨fun _ _=>by simp,fun x s g b y hx _ _ _ _=>?_,fun h=>absurd h h1,fun h=>absurd h h1,fun _ _ _=>by simp,fun _ _ _=>by simp⟩ fun o h=>by rw[ho]at h;cases h
  show x≠1;omega
end
theorem Rn.Mj{A:Gt}{c:Cf}{P:Py}(h:Rn A c P):P.giv.length<=P.steps.length:=by
 refine h.Mw (J:=fun P=>P.giv.length<=P.steps.length) (MV _) fun Q e hQ he hl hJ=>?_
 show(Q.giv++Zi (Xb Q.last e).out).length<=(Q.steps++[_]).length;have a:=hQ.runs.now;have:(Zi (Xb Q.last e).out).length<=1:=by
  rcases aqT hQ.runs.wm hQ.runs.out (aeH he) (fun _=>by omega)with⟨_,hk⟩|⟨k,_,_,ho,_⟩
  ·unfold Zi
   rw[List.filter_eq_nil_iff.2 (fun o ho=>by simpa using hk o ho)];exact Nx _
  ·rw[ho]
   exact MV _
 rw[Ns,Ns,OU];omega
theorem Rn.Mv{A:Gt}{c:Cf}{P:Py}(h:Rn A c P)(hl:P.steps.length<=1000)(he:Yk e=0):P.giv.length+(Zi (Xb P.last e).out).length<=100000:=by
 have:=(h.step he (by omega)).Mj;have b:(P.step e).giv.length=P.giv.length+(Zi (Xb P.last e).out).length:=by show(P.giv++Zi (Xb P.last e).out).length=_;rw[Ns]
 have a:(P.step e).steps.length=P.steps.length+1:=by show(P.steps++[_]).length=_;rw[Ns,OU]
 omega
theorem apz:(MK.info? 24).map (·.size)=MI 16:=by kernel_rfl
theorem afW{w:MO}{g:Nat}{cs:List M7}{T:NU}(h:w.heap[g]?=MI (MP cs.toArray T (0,0))):w.rangeAt g 0 cs:=agb h
end
section
variable {a:Act}{fs:Array Field}{ops:Array Oper}{Q:Exit->Act->MO->Prop}{Y w1:MO}{S:MO->Prop}{t:NU}{fuel:Nat}{o:Oper}
section
open Go.ChangeShapes Go.WideShapes Go.ChangeAt Go.Deep
def aep(P:O8):Nat->NU->Bool
 |0,_=>Nb
 |d+1,t=>match P.underlying t with
  |some (.int ME)=>P.cellsOf t == 1
  |some (.struct fs)=>(Pm (P.cellsOf t)).all fun i=>(Pm fs.size).any fun j=>match fs[j]? with
   |some f=>Nn (f.offset<=i) && Nn (i<f.offset+P.cellsOf f.type) && aep P d f.type
   |none=>Nb
  |some (.array n e)=>aep P d e && Nn (0<P.cellsOf e) && Nn (P.cellsOf t=n*P.cellsOf e)
  |_=>Nb
section
variable {H:Type}{enc:NU×M7->H}{P:O8}{w:MO}{base:Nat}{spare:Nat->Bool}{held:Bool}
theorem aji:∀(d:Nat) {t:NU} {fuel:Nat} {cs:List M7} {x:DataW H×List MemPlace},aep P d t=Nw->Ry enc P w base spare held fuel t cs=MI x->∀i,i<P.cellsOf t->∃n:Int,cs[i]?=MI (yB n)/\(N6 ME n).wf=Nw
 |0,_,_,_,_,f,_,_,_=>by simp[aep]at f
 |d+1,t,fuel,cs,x,f,h,i,hi=>by
  unfold aep at f
  split at f
  ·rename_i hu
   obtain⟨n,rfl,_,F⟩:=QW hu h;have:P.cellsOf t=1:=by simpa using f
   obtain rfl:i=0:=by omega
   exact⟨n,rfl,F⟩
  ·rename_i fs hu
   obtain⟨G,k,_,_,_,s,y⟩:=Tg hu h;have D:=List.all_eq_true.1 f i (List.mem_range.2 hi);obtain⟨j,I,u⟩:=List.any_eq_true.1 D;have r:=List.mem_range.1 I;rw[PN r]at u;simp only[Po,decide_eq_true_eq]at u;obtain⟨⟨K,L⟩,E⟩:=u;have q:=y j fs[j] (PN r);rw[MR (by rw[s];exact r)]at q;obtain⟨n,l,v⟩:=aji d E q (i-fs[j].offset) (by omega);refine⟨n,?_,v⟩;rw[O0 (by omega),Pa]at l;rwa[show fs[j].offset+(i-fs[j].offset)=i by omega]at l
  ·rename_i n e hu
   simp only[Po,decide_eq_true_eq]at f;obtain⟨⟨f,B⟩,C⟩:=f;obtain⟨G,k,_,_,J,s,y⟩:=Ti hu h;have z:i / P.cellsOf e<n:=Sj (by rw[R5,<-C];exact hi);have A:=Nat.mod_lt i B;have q:=y (i / P.cellsOf e) z;rw[MR (by rw[s];exact z)]at q;obtain⟨m,l,v⟩:=aji d f q (i % P.cellsOf e) A;refine⟨m,?_,v⟩;rw[O0 A,Pa]at l;rwa[show i / P.cellsOf e*P.cellsOf e+i % P.cellsOf e=i by rw[R5];exact Nat.div_add_mod i _]at l
  ·cases f
theorem au2{cs:Array M7}(h:cs.size=16)(f:Nat->Int)(hf:∀i,i<16->cs.toList[i]?=MI (yB (f i))):cs=#[yB (f 0),yB (f 1),yB (f 2),yB (f 3),yB (f 4),yB (f 5),yB (f 6),yB (f 7),yB (f 8),yB (f 9),yB (f 10),yB (f 11),yB (f 12),yB (f 13),yB (f 14),yB (f 15)]:=by
 apply Array.toList_inj.1;apply Ot;intro i
 by_cases hi:i<16
 ·rw[hf i hi]
  have:i=0\/i=1\/i=2\/i=3\/i=4\/i=5\/i=6\/i=7\/i=8\/i=9\/i=10\/i=11\/i=12\/i=13\/i=14\/i=15:=by omega
  rcases this with rfl|rfl|rfl|rfl|rfl|rfl|rfl|rfl|rfl|rfl|rfl|rfl|rfl|rfl|rfl|rfl <;> rfl
 ·rw[Nz (by simp[h];omega),Nz (by simp;omega)]
theorem awT{r:Reach}{b0:Nat}{v:M7}{d:DataW H}{p:List MemPlace}(hs:P.underlying t=MI (.struct fs))(hc:P.cellsOf t=16)(hfl:aep P 3 t=Nw)
  (hv:Value.okWide P w r b0 t v) (h:DataW.Trod enc P w base spare held t v d p):∃f:Nat->Int,v=agc (f 0) (f 1) (f 2) (f 3) (f 4) (f 5) (f 6) (f 7) (f 8) (f 9) (f 10) (f 11) (f 12) (f 13) (f 14) (f 15)/\∀i,i<16->(N6 ME (f i)).wf=true:=by
 obtain⟨m,rfl,e⟩:=okWide_struct hs hv;obtain⟨fuel,l⟩:=h;have k:=aji 3 hfl l;rw[hc]at k e;obtain⟨f,j⟩:=choose_lt k;refine⟨f,?_,fun i hi=>(j i hi).2⟩;rw[au2 e f (fun i hi=>(j i hi).1)]
end
end
section
open Go.ChangeShapes Go.WideShapes Go.ChangeAt Go.Deep
abbrev agP(d:Dd):List Value:=[yB d.k,yB d.a,yB d.b,yB d.c]
theorem anr(d:Dd):(agP d).length=4:=rfl
abbrev ajd(d:Dd):Prop:=(N6 ME d.k).wf=Nw/\(N6 ME d.a).wf=Nw/\(N6 ME d.b).wf=Nw/\(N6 ME d.c).wf=Nw
def ajl(P:O8)(fs:Array Field):Bool :=
 (Pm fs.size).all fun j=>match fs[j]? with
  |some f=>f.offset == j && P.cellsOf f.type == 1 && (match P.underlying f.type with|some (.int ME)=>Nw|_=>Nb)
  |none=>Nb
theorem avj{P:O8}(h:ajl P fs=Nw)(j:Nat)(f:Field)(hj:fs[j]?=MI f):f.offset=j/\P.cellsOf f.type=1/\P.underlying f.type=MI (.int ME):=by
 have e:j<fs.size:=(ZAa.1 hj).1;have:=List.all_eq_true.1 h j (List.mem_range.2 e);simp only[hj,Po,beq_iff_eq]at this;obtain⟨⟨i,k⟩,d⟩:=this;refine⟨i,k,?_⟩;revert d;generalize P.underlying f.type=u;intro d
 split at d
 ·rfl
 ·cases d
section
variable {H:Type}{enc:NU×M7->H}{P:O8}{w:MO}{base:Nat}{spare:Nat->Bool}{held:Bool}
theorem avm{α:Type}{c:α->List M7}{k:Nat}(hk:∀x,(c x).length=k)(hk0:0<k)(mk:(Nat->Int)->α)(hmk:∀f j,j<k->(c (mk f))[j]?=MI (yB (f j))){e:NU}{v:M7}{x:DataW H×List MemPlace}(ht:P.underlying t=MI (.slice e))(he:P.underlying e=MI (.struct fs))(ce:P.cellsOf e=k)(hfs:fs.size=k)(hint:ajl P fs=Nw)
  (h:Ry enc P w base spare held fuel t [v]=MI x) :
  ∃l:List α,Xw c w v l/\(∀y∈l,∃f:Nat->Int,y=mk f/\∀j,j<k->(N6 ME (f j)).wf=Nw)/\((∃D sp,x.1=.slice ((Pm l.length).map D) sp)\/l=[]):=by
 rcases open_slice ht h with⟨s,_⟩|⟨a,len,a3,m,n,D,Pl,s,hb,hl,hm,a4,rfl,hx⟩
 ·simp at s
  subst s;exact⟨[],ak3 w,by simp,NF rfl⟩
 ·simp at s
  subst s;have a8:len<=m:=by rw[a4];split <;> omega
  have Z:∀i,i<m->∃q:Nat->Int,∀j,j<k->w.cell? (a.add (i*k+j))=MI (yB (q j))/\(N6 ME (q j)).wf=true:=by
   intro i d;obtain⟨K,L,h2⟩:=hx i d;rw[ce]at L;obtain⟨_,r,O⟩:=World.cells?_some L;obtain⟨xs,k',b1,a9,_,a0,hf⟩:=Tg he h2;have a5:∀j,j<k->∃q:Int,w.cell? (a.add (i*k+j))=MI (yB q)/\(N6 ME q).wf=true:=by
    intro j N;have C:j<fs.size:=by omega
    have g:=hf j fs[j] (PN C);obtain⟨o,c1,u⟩:=avj hint j fs[j] (PN C);rw[MR (by rw[a0];exact C),o,c1]at g;obtain⟨G,z0,_,w0⟩:=QW u g;have F:=O j (by omega);rw[add_add]at F;have a7:K[j]?=MI (yB G):=by
     have:(K.drop j).head?=MI (yB G):=by
      have M:=congrArg List.head? z0;rw[List.head?_take]at M
      simpa using M
     rw[List.head?_drop]at this;exact this
    rw[a7]at F;exact⟨G,F,w0⟩
   obtain⟨q,z⟩:=choose_lt a5;exact⟨q,z⟩
  obtain⟨q,z⟩:=choose_lt Z;have r:((Pm len).map (fun i=>mk (q i))).length=len:=by simp
  refine⟨(Pm len).map (fun i=>mk (q i)),?_,?_,Nt ⟨D,_,by rw[r]⟩⟩
  ·unfold Xw
   rw[r];refine⟨MI a,a3,rfl,hl,hm,?_⟩
   by_cases h0:len=0
   ·exact Nt ⟨h0,by rw[h0];rfl⟩
   ·obtain⟨b,off,T⟩:=a
    have E:=(z 0 (by omega) 0 hk0).1;have R:T=none:=by simpa [Addr.add]using World.cell?_spot E
    subst R;have J:∀i,(⟨b,off,MH⟩:Oc).add i=⟨b,off+i,MH⟩:=fun i=>by unfold Addr.add;split <;> simp_all
    refine NF ⟨b,off,rfl,?_,fun i d=>?_⟩
    ·rw[J]at E
     exact MX w ⟨b,off+(0*k+0),MH⟩ E
    ·rw[abx hk,r]at d
     have U:i / k<len:=Sj (by rw[R5];exact d);have B:i % k<k:=Nat.mod_lt _ hk0;have A:=ZA hk ((Pm len).map (fun i=>mk (q i))) (i / k) (i % k) (by rw[r];exact U) B;have I:=(z (i / k) (by omega) (i % k) B).1;have a6:i / k*k+i % k=i:=by rw[R5];exact Nat.div_add_mod i k
     rw[a6]at A I;rw[J]at I;simp only[QZ,List.getElem_range]at A
     rw[hmk _ _ B]at A
     rw[I,A]
  ·intro y hy
   obtain⟨i,d,rfl⟩:=ZAd.1 hy;exact⟨q i,rfl,fun j N=>(z i (by have:=List.mem_range.1 d;omega) j N).2⟩
abbrev anB(f:Nat->Int):Dd:=⟨f 0,f 1,f 2,f 3⟩
theorem avl(f:Nat->Int)(j:Nat)(hj:j<4):(agP (anB f))[j]?=MI (yB (f j)):=by
 match j,hj with
 |0,_=>rfl
 |1,_=>rfl
 |2,_=>rfl
 |3,_=>rfl
theorem awS{e:NU}{v:M7}{x:DataW H×List MemPlace}(ht:P.underlying t=MI (.slice e))(he:P.underlying e=MI (.struct fs))(ce:P.cellsOf e=4)(hfs:fs.size=4)(hint:ajl P fs=Nw)
  (h:Ry enc P w base spare held fuel t [v]=MI x):∃(l:List Dd) (p:Option Oc) (k:Nat),v=MG p l.length k/\Xw agP w (MG p l.length k) l/\∀d∈l,ajd d:=by
 obtain⟨l,j,m,_⟩:=avm anr (by decide) anB avl ht he ce hfs hint h;obtain⟨p,k,rfl,_,_⟩:=Xw.Ga j;refine⟨l,p,k,rfl,j,fun d hd=>?_⟩;obtain⟨f,rfl,i⟩:=m d hd;exact⟨i 0 (by omega),i 1 (by omega),i 2 (by omega),i 3 (by omega)⟩
end
end
abbrev afq(h:Int×Int):List Value:=[yB h.1,yB h.2]
abbrev aaV(e:Ev):List Value:=[yB e.kind,yB e.key,yB e.slot,yB e.gen,M3 e.good,yB e.req,yB e.be,yB e.wt]
abbrev ac8(c:Cf):List Value:=[yB c.flows,yB c.num,yB c.den,yB c.tries,yB c.warm,yB c.drain,yB c.idle,yB c.conn,yB c.ret,yB c.most,yB c.bn,yB c.bd,yB c.bb,yB c.wn,yB c.wf,yB c.wh]
structure Sq where
 s:Sp
 u:Us
 v:Us
 po:Option Oc
 co:Nat
def abK(q:Sq):List Value:=aaV q.s.ev++((XR q.u q.s.bef).toList++((XR q.v q.s.aft).toList++[MG q.po q.s.out.length q.co]))
theorem anw(x:Int×Int):(afq x).length=2:=rfl
theorem avt(x:Sq):(abK x).length=61:=rfl
theorem avg(x:Int×Int):∀u∈afq x,u.oneCell'=true:=by
 intro u d;simp only[OO,OD,or_false]at d;rcases d with rfl|rfl <;> rfl
theorem anD(U:Us)(G:Gt):∀u∈(XR U G).toList,u.oneCell'=true:=fun u hu=>Array.all_eq_true_iff_forall_mem.1 (ado U G) u (by simpa using hu)
theorem au7(e:Ev):∀u∈aaV e,u.oneCell'=true:=by
 intro u d;simp only[OO,OD,or_false]at d;rcases d with rfl|rfl|rfl|rfl|rfl|rfl|rfl|rfl <;> rfl
theorem avs(x:Sq):∀u∈abK x,u.oneCell'=true:=by
 intro u d;unfold abK at d;rcases QF.1 d with h|h
 ·exact au7 _ u h
 ·rcases QF.1 h with h|h
  ·exact anD _ _ u h
  ·rcases QF.1 h with h|h
   ·exact anD _ _ u h
   ·rw[PY.1 h];rfl
def aje(W:MO)(q:Sq):Prop:=Xd W q.u q.s.bef/\Xd W q.v q.s.aft/\Xw Z1 W (MG q.po q.s.out.length q.co) q.s.out
structure Pv where
 ps:Option Oc
 cs:Nat
 pg:Option Oc
 cg:Nat
 u:Us
 qs:List Sq
def Pv.own(V:Pv)(g b:Nat):Prop:=b=g\/V.ps.map (·.block)=MI b\/V.pg.map (·.block)=MI b
def adM(V:Pv)(c:Cf)(P:Py):List Value:=ac8 c++(MG V.ps V.qs.length V.cs::((XR V.u P.last).toList++[MG V.pg P.giv.length V.cg]))
structure WU(base:Nat)(w:MO)(g:Nat)(V:Pv)(c:Cf)(P:Py):Prop where
 box:w.heap[g]?=MI (MP (adM V c P).toArray 59 (0,0))
 low:base<=g
 eqs:V.qs.map (·.s)=P.steps
 rows:w.ownsRow base 64 61 (MG V.ps V.qs.length V.cs) V.qs.length (rv abK V.qs)
 giv:w.ownsRow base 134 2 (MG V.pg P.giv.length V.cg) P.giv.length (rv afq P.giv)
 og:V.ps.map (·.block)≠MI g
 oh:V.pg.map (·.block)≠MI g
 op:∀b,V.ps.map (·.block)=MI b->V.pg.map (·.block)≠MI b
 last:XG (V.own g) w fun X=>Xd X V.u P.last
 all:∀q∈V.qs,XG (V.own g) w fun X=>aje X q
structure XK(V V':Pv)(g:Nat)(w w':MO):Prop where
 os:w'.os=w.os
 tape:w'.tape=w.tape
 output:w'.output=w.output
 size:w.heap.size<=w'.heap.size
 block:∀b,b<w.heap.size->¬V.own g b->w'.heap[b]?=w.heap[b]?
 ext:∀b,V'.own g b->V.own g b\/w.heap.size<=b
section
variable {base:Nat}{w w' w1 w2:MO}{g:Nat}{V V' V1 V2:Pv}{c:Cf}{P:Py}
theorem WU.lt(h:WU base w g V c P):g<w.heap.size:=(ZAa.1 h.box).1
theorem WU.steps(h:WU base w g V c P):P.steps.length=V.qs.length:=by rw[<-h.eqs,N0]
theorem XK.F5(h:yA w w1):XK V V g w w1:=⟨h.os,h.tape,h.output,h.size,fun b hb _=>h.block b hb,fun _ h=>Nt h⟩
theorem XK.F0(h:XK V V1 g w w1)(k:XK V1 V2 g w1 w2):XK V V2 g w w2 :=
 ⟨k.os.trans h.os,k.tape.trans h.tape,k.output.trans h.output,Nm h.size k.size,fun b hb hn=>(k.block b (M8 hb h.size) fun e=>by
  rcases h.ext b e with e|e
  ·exact hn e
  ·omega).trans (h.block b hb hn),fun b e=>by
  rcases k.ext b e with e|e
  ·exact h.ext b e
  ·exact NF (Nm h.size e)⟩
theorem WU.Mb(h:WU base w g V c P){b:Nat}(hb:V.own g b):base<=b/\b<w.heap.size:=by
 rcases hb with rfl|e|e
 ·exact⟨h.low,h.lt⟩
 ·exact h.rows.lt b (by rw[XV];exact e)
 ·exact h.giv.lt b (by rw[XV];exact e)
theorem XK.IT(h:XK V V1 g w w1)(hP:WU base w g V c P)(hb:base<=w.heap.size):MQ base w w1 :=
 ⟨h.os,h.tape,h.output,h.size,fun b q=>h.block b (by omega) fun e=>by have:=(hP.Mb e).1;omega⟩
theorem WU.below(h:WU base w g V c P)(hb:yA w w'):WU base w' g V c P :=
 ⟨(hb.block g h.lt).trans h.box,h.low,h.eqs,W8 h.rows fun b e=>hb.block b (h.rows.lt b e).2,W8 h.giv fun b e=>hb.block b (h.giv.lt b e).2,h.og,h.oh,h.op,h.last.below hb,fun q hq=>(h.all q hq).below hb⟩
theorem WU.MB(h:WU base w g V c P)(hs:w.heap.size<=w'.heap.size)(hb:∀b,b<w.heap.size->V.ps.map (·.block)≠MI b->w'.heap[b]?=w.heap[b]?){p:Option Oc}{k:Nat}{q:Sq}
  (ho:w'.ownsRow base 64 61 (MG p (V.qs++[q]).length k) (V.qs++[q]).length (rv abK (V.qs++[q]))) (hp:∀b,p.map (·.block)=MI b->V.ps.map (·.block)=MI b\/w.heap.size<=b)
  (hq:XG (V.own g) w fun X=>aje X q) (hl:q.s.bef=P.last) :
  WU base (w'.setCell ⟨g,16,MH⟩ (MG p (V.qs++[q]).length k)) g {V with ps:=p,cs:=k,qs:=V.qs++[q]} c {P with steps:=P.steps++[q.s]}:=by
 have n:=(hb g h.lt h.og).trans h.box;have j:∀b,p.map (·.block)=MI b->b≠g:=fun b e e2=>by
  subst e2;rcases hp b e with e|e
  ·exact h.og e
  ·have:=h.lt;omega
 have f:∀b,b≠g->(w'.setCell ⟨g,16,MH⟩ (MG p (V.qs++[q]).length k)).heap[b]?=w'.heap[b]?:=fun b e=>MU _ _ _ _ (fun e2=>e e2)
 have m:(w'.setCell ⟨g,16,MH⟩ (MG p (V.qs++[q]).length k)).heap.size=w'.heap.size:=by simp
 have i:∀ {p':MO->Prop},XG (V.own g) w p'->XG (Pv.own {V with ps:=p,cs:=k,qs:=V.qs++[q]} g) (w'.setCell ⟨g,16,MH⟩ (MG p (V.qs++[q]).length k)) p':=fun hA =>
  hA.step (by rw[m];exact hs) (fun b q1 q2=>(f b fun e=>q2 (Nt e)).trans (hb b q1 fun e=>q2 (NF (Nt e)))) fun b q1 e=>by
   rcases e with e|e|e
   ·exact Nt e
   ·exact(hp b e).elim (fun e=>NF (Nt e)) fun e=>by omega
   ·exact NF (NF e)
 refine⟨?_,h.low,by rw[OI,h.eqs];rfl,W8 ho fun b e=>f b (j b (by rw[<-XV];exact e)),W8 h.giv fun b e=>?_,fun e=>j g e rfl,h.oh,fun b e1 e2=>?_,i h.last,fun x d=>?_⟩
 ·exact YO n rfl
 ·have l:V.pg.map (·.block)=MI b:=by rw[<-XV];exact e
  rw[f b fun e2=>h.oh (by rw[l,e2])];exact hb b (h.giv.lt b e).2 fun e2=>h.op b e2 l
 ·rcases hp b e1 with e|e
  ·exact h.op b e e2
  ·have:=(h.giv.lt b (by rw[XV];exact e2)).2
   omega
 ·rcases QF.1 d with d|d
  ·exact i (h.all x d)
  ·rw[PY.1 d];exact i hq
theorem anx(T:NU)(g:Nat):∀(vs pre old post:List M7) (w:MO),old.length=vs.length->w.heap[g]?=MI (MP (pre++(old++post)).toArray T (0,0))->(w.setCells g pre.length vs).heap[g]?=MI (MP (pre++(vs++post)).toArray T (0,0))
 | [],pre,old,post,w,ho,h=>by
  obtain rfl:old=[]:=ZAc.1 (by simpa using ho);exact h
 |v::vs,pre,[],post,w,ho,h=>by simp at ho
 |v::vs,pre,u::old,post,w,ho,h=>by
  have d:=NI w g pre.length _ T v h;have e:(pre++(u::old++post)).toArray.setIfInBounds pre.length v=((pre++[v])++(old++post)).toArray:=by
   apply Array.toList_inj.1;simp
  rw[e]at d;have f:=anx T g vs (pre++[v]) old post _ (by simpa using ho) d;rw[Qd]
  simpa using f
theorem WU.MC(h:WU base w g V c P)(U:Us)(G:Gt)(hG:XG (V.own g) w fun X=>Xd X U G) :
  WU base (w.setCells g 17 (XR U G).toList) g {V with u:=U} c {P with last:=G}:=by
 have d:∀b,b<w.heap.size->b≠g->(w.setCells g 17 (XR U G).toList).heap[b]?=w.heap[b]?:=fun b f e=>N8 w g 17 _ f e
 have j:(w.setCells g 17 (XR U G).toList).heap.size=w.heap.size:=ac3 _ _ _ _;have i:∀ {p':MO->Prop},XG (V.own g) w p'->XG (Pv.own {V with u:=U} g) (w.setCells g 17 (XR U G).toList) p':=fun hA =>
  hA.step (by rw[j];exact MV _) (fun b q1 q2=>d b q1 fun e=>q2 (Nt e)) fun b q1 e=>e
 refine⟨?_,h.low,h.eqs,W8 h.rows fun b e=>d b (h.rows.lt b e).2 fun e2=>h.og (by rw[<-XV,e,e2]),W8 h.giv fun b e=>d b (h.giv.lt b e).2 fun e2=>h.oh (by rw[<-XV,e,e2]),h.og,h.oh,h.op,i hG,fun x hx=>i (h.all x hx)⟩;have f:w.heap[g]?=MI (MP ((ac8 c++[MG V.ps V.qs.length V.cs])++((XR V.u P.last).toList++[MG V.pg P.giv.length V.cg])).toArray 59 (0,0)):=h.box;exact anx 59 g (XR U G).toList (ac8 c++[MG V.ps V.qs.length V.cs]) (XR V.u P.last).toList [MG V.pg P.giv.length V.cg] w rfl f
theorem WU.MA(h:WU base w g V c P)(hs:w.heap.size<=w'.heap.size)(hb:∀b,b<w.heap.size->V.pg.map (·.block)≠MI b->w'.heap[b]?=w.heap[b]?){p:Option Oc}{k:Nat}{l:List (Int×Int)}
  (ho:w'.ownsRow base 134 2 (MG p l.length k) l.length (rv afq l)) (hp:∀b,p.map (·.block)=MI b->V.pg.map (·.block)=MI b\/w.heap.size<=b) :
  WU base (w'.setCell ⟨g,43,MH⟩ (MG p l.length k)) g {V with pg:=p,cg:=k} c {P with giv:=l}:=by
 have n:=(hb g h.lt h.oh).trans h.box;have f:∀b,p.map (·.block)=MI b->b≠g:=fun b e e2=>by
  subst e2;rcases hp b e with e|e
  ·exact h.oh e
  ·have:=h.lt;omega
 have d:∀b,b≠g->(w'.setCell ⟨g,43,MH⟩ (MG p l.length k)).heap[b]?=w'.heap[b]?:=fun b e=>MU _ _ _ _ (fun e2=>e e2)
 have m:(w'.setCell ⟨g,43,MH⟩ (MG p l.length k)).heap.size=w'.heap.size:=by simp
 have i:∀ {p':MO->Prop},XG (V.own g) w p'->XG (Pv.own {V with pg:=p,cg:=k} g) (w'.setCell ⟨g,43,MH⟩ (MG p l.length k)) p':=fun hA =>
  hA.step (by rw[m];exact hs) (fun b q1 q2=>(d b fun e=>q2 (Nt e)).trans (hb b q1 fun e=>q2 (NF (NF e)))) fun b q1 e=>by
   rcases e with e|e|e
   ·exact Nt e
   ·exact NF (Nt e)
   ·exact(hp b e).elim (fun e=>NF (NF e)) fun e=>by omega
 refine⟨?_,h.low,h.eqs,W8 h.rows fun b e=>?_,W8 ho fun b e=>d b (f b (by rw[<-XV];exact e)),h.og,fun e=>f g e rfl,fun b e1 e2=>?_,i h.last,fun x hx=>i (h.all x hx)⟩
 ·exact YO n rfl
 ·have j:V.ps.map (·.block)=MI b:=by rw[<-XV];exact e
  rw[d b fun e2=>h.og (by rw[j,e2])];exact hb b (h.rows.lt b e).2 fun e2=>h.op b j e2
 ·rcases hp b e2 with e|e
  ·exact h.op b e1 e
  ·have:=(h.rows.lt b (by rw[XV];exact e1)).2
   omega
end
theorem WU.Mo{base:Nat}{w:MO}{g:Nat}{V:Pv}{c:Cf}{P:Py}(h:WU base w g V c P):w.rangeAt g 17 (XR V.u P.last).toList:=fun j v hv=>by
 have d:j<26:=(ZAb.1 hv).1;rw[MW w g (17+j) _ _ (0,0) h.box];have e:adM V c P=(ac8 c++[MG V.ps V.qs.length V.cs])++((XR V.u P.last).toList++[MG V.pg P.giv.length V.cg]):=rfl;rw[List.getElem?_toArray,e,Tw (by show 17<=17+j;omega),show 17+j-(ac8 c++[MG V.ps V.qs.length V.cs]).length=j by show 17+j-17=j;omega,OJ d];exact hv
structure Yc(base:Nat)(X:MO)(g:Nat)(V:Pv)(c:Cf)(P:Py)(h:Nat)(e:Ev):Prop where
 pat:WU base X g V c P
 evb:X.heap[h]?=MI (MP (aaV e).toArray 61 (0,0))
 blk:Xo X
theorem Yc.on{base:Nat}{X:MO}{g:Nat}{V:Pv}{c:Cf}{P:Py}{h:Nat}{e:Ev}(k:Yc base X g V c P h e)(hb:yA X Y):Yc base Y g V c P h e:=⟨k.pat.below hb,WO k.evb hb,k.blk.below hb⟩
theorem Yc.ev{base:Nat}{X:MO}{g:Nat}{V:Pv}{c:Cf}{P:Py}{h:Nat}{e:Ev}(k:Yc base X g V c P h e):X.rangeAt h 0 (aaV e):=agb k.evb
structure Xl(base:Nat)(W u:MO)(g:Nat)(V:Pv)(c:Cf)(P:Py)(h:Nat)(e:Ev)(b:Nat)(M:List M7)(U:Us)(po:Option Oc)(co:Nat):Prop where
 dos:Yc base u g V c P h e
 mem:M=(XR U (Xb P.last e)).toList
 box:u.heap[b]?=MI (MP M.toArray 56 (0,0))
 low:W.heap.size<=b
 bel:yA W u
 ans:XG (V.own g) u fun X=>Xd X U (Xb P.last e)/\Xw Z1 X (MG po (Xb P.last e).out.length co) (Xb P.last e).out
 lt:∀x,V.own g x->x<W.heap.size
 no:¬V.own g h
theorem anz:(MK.info? 61).map (·.size)=MI 8:=by kernel_rfl
theorem anp{S:Nat->Prop}{w5 u:MO}{B b5:Nat}{p:MO->Prop}(hA:∀X,aba B w5 X->p X)(hs:w5.heap.size<=u.heap.size)(hu:∀b,b<w5.heap.size->b≠b5->u.heap[b]?=w5.heap[b]?)(h5:b5<B\/w5.heap.size<=b5)(hS:∀b,S b->b<B):XG S u p :=
 fun X h1 h2=>hA X ⟨Nm hs h1,fun b q1 q2=>(h2 b (M8 q2 hs) fun e=>by have:=hS b e;omega).trans (hu b q2 (by omega))⟩
theorem anq{w:MO}{g:Nat}{a b:List M7}{T:NU}(h:w.heap[g]?=MI (MP a.toArray T (0,0)))(he:a.length=b.length):(w.setCells g 0 b).heap[g]?=MI (MP b.toArray T (0,0)):=ac0 T g b [] a w he h
theorem au4(q:Sq)(W:MO):(QA 64 #[(0,Ny (aaV q.s.ev).toArray),(1,Ny (XR q.u q.s.bef)),(2,Ny (XR q.v q.s.aft)),(3,MG q.po q.s.out.length q.co)]).run MK W=.ok (Ny (abK q).toArray) W:=by kernel_rfl
theorem avr(q:Sq)(W:MO):(Q0 37 1 #[(0,Ny (abK q).toArray)]).run MK W=.ok (MG (MI ⟨W.heap.size,0,MH⟩) 1 1) (W.alloc (MP (abK q).toArray 64)):=by kernel_rfl
abbrev avu:Value:=Ny ((aaV ⟨0,0,0,0,Nb,0,0,0⟩++(wz++(wz++[MG MH 0 0]))).toArray)
theorem avi:(MK.info? 64).map (fun i=>(i.zero,i.size,i.bytes))=MI (MI avu,61,728):=by kernel_rfl
theorem avh:(MK.info? 134).map (fun i=>(i.zero,i.size,i.bytes))=MI (MI (Ny #[yB 0,yB 0]),2,16):=by kernel_rfl
theorem avp{P:O8}{md:Region.Mode}{listed:Array Bool}{w:MO}{i:Nat}(ho:ops[i]?=MI o)(hg:o.guard=MH)(t:NU)(n:Nat)(parts:Array (Nat×Operand))(hop:o.op=.buildSlice t n parts)
  (y:M7) (hr:(Q0 t n (parts.map fun(i,x)=>(i,a.eval x))).run P w=.ok y w1) (hS:S w1)
  (h:wpAnyH P md ops Q S fuel (listed.setIfInBounds i Nw) (a.put o.dst y) w1):AllReadyH P md ops Q S fuel listed a w [i]:=by
 refine NP ho (fun K hK=>?_) NX;have d:Pz o (yielded ops a.tmps)=true:=by simp[Pz,hg]
 rw[Nh d];unfold RB execOp;simp only[hop,Pn,P3,PG,hr];exact hK.out _ _ hS (fun _=>h)
theorem avv{P:O8}{w:MO}{K:Act->MO->Prop}{E:Prop}(hg:o.guard=MH)(t:NU)(n:Nat)(parts:Array (Nat×Operand))(hop:o.op=.buildSlice t n parts)
  (y:M7) (hr:(Q0 t n (parts.map fun(i,x)=>(i,a.eval x))).run P w=.ok y w1) (h:K (a.put o.dst y) w1):if Pz o (yielded ops a.tmps)=Nw then RB P o a w K Q else E:=by
 have d:Pz o (yielded ops a.tmps)=true:=by simp[Pz,hg]
 rw[Nh d];unfold RB execOp;simp only[hop,Pn,P3,PG,hr];exact h
theorem avx{P:O8}{op:Oper}(hw:Pz op (yielded ops a.tmps)=Nw)(T:NU)(parts:Array (Nat×Operand))(ho:op.op=.build T parts)(y:M7)
  (hr:∀w,(QA T (parts.map fun(i,x)=>(i,a.eval x))).run P w=.ok y w):YieldsIf P ops S op y a :=
 Nt ⟨hw,fun w hw'=>by
  unfold execOp;simp only[ho,Pn,P3,PG,hr w]⟩
theorem anC{P:O8}{md:Region.Mode}{listed:Array Bool}{w:MO}{i:Nat}(ho:ops[i]?=MI o)(hg:o.guard=MH)(s x:Operand)(t:NU)
  (hop:o.op=.call {callee:=.builtin .append,args:=#[s,x],argTypes:=#[t,t]}) (v u y:M7) (hs:a.eval s=v) (hx:a.eval x=u) (hr:(N2 #[t,t] o.type #[v,u]).run P w=.ok y w1) (hS:S w1)
  (h:wpAnyH P md ops Q S fuel (listed.setIfInBounds i Nw) (a.put o.dst y) w1):AllReadyH P md ops Q S fuel listed a w [i]:=by
 refine NP ho (fun K hK=>?_) NX;refine aec hg s x t hop v u y w1 hs hx hr ?_;exact hK.out _ _ hS (fun _=>h)
theorem Xl.on{base:Nat}{W u:MO}{g:Nat}{V:Pv}{c:Cf}{P:Py}{h:Nat}{e:Ev}{b:Nat}{M:List M7}{U:Us}{po:Option Oc}{co:Nat}(k:Xl base W u g V c P h e b M U po co)(hb:yA u Y):Xl base W Y g V c P h e b M U po co :=
 ⟨k.dos.on hb,k.mem,WO k.box hb,k.low,k.bel.trans (hb.mono k.bel.size),k.ans.below hb,k.lt,k.no⟩
theorem Xl.Gm{base:Nat}{W u:MO}{g:Nat}{V:Pv}{c:Cf}{P:Py}{h:Nat}{e:Ev}{b:Nat}{M:List M7}{U:Us}{po:Option Oc}{co:Nat}(k:Xl base W u g V c P h e b M U po co):u.cell? ⟨g,16,MH⟩=MI (MG V.ps V.qs.length V.cs):=by
 rw[MW u g 16 _ _ (0,0) k.dos.pat.box];rfl
def abs(X:MO)(h g q:Nat)(e:Ev)(L M:List M7):Prop:=X.rangeAt h 0 (aaV e)/\X.rangeAt g 17 L/\X.rangeAt q 0 M
theorem afr{X:MO}{b o:Nat}{cs:List M7}(h:X.rangeAt b o cs)(e:Y.heap[b]?=X.heap[b]?):Y.rangeAt b o cs:=fun j v hv=>(NG e).trans (h j v hv)
theorem Xl.Gz{base:Nat}{W u:MO}{g:Nat}{V:Pv}{c:Cf}{P:Py}{h:Nat}{e:Ev}{b:Nat}{M:List M7}{U:Us}{po:Option Oc}{co:Nat}(k:Xl base W u g V c P h e b M U po co):abs u h g b e (XR V.u P.last).toList M :=
 ⟨k.dos.ev,k.dos.pat.Mo,agb k.box⟩
theorem abs.Gf{X:MO}{h g q:Nat}{e:Ev}{L M:List M7}(k:abs X h g q e L M)(e1:Y.heap[h]?=X.heap[h]?)(e2:Y.heap[g]?=X.heap[g]?)(e3:Y.heap[q]?=X.heap[q]?):abs Y h g q e L M:=⟨afr k.1 e1,afr k.2.1 e2,afr k.2.2 e3⟩
theorem abs.F4{X:MO}{h g q:Nat}{e:Ev}{L M:List M7}(k:abs X h g q e L M)(h1:h≠g)(h2:q≠g)(v:M7):abs (X.setCell ⟨g,16,MH⟩ v) h g q e L M :=
 ⟨afr k.1 (MU _ _ _ _ (fun e=>h1 e)),fun j y hy=>(World.cell?_setCell_other _ _ _ _ (fun e=>by injection e with _ e2 _;omega)).trans (k.2.1 j y hy),afr k.2.2 (MU _ _ _ _ (fun e=>h2 e))⟩
structure abr(base:Nat)(W u:MO)(g:Nat)(V V8:Pv)(c:Cf)(P8:Py)(b:Nat)(M:List M7)(U:Us)(T:Gt)(po:Option Oc)(co:Nat):Prop where
 pat:WU base u g V8 c P8
 box:u.heap[b]?=MI (MP M.toArray 56 (0,0))
 no:¬V8.own g b
 ans:XG (V8.own g) u fun X=>Xd X U T/\Xw Z1 X (MG po T.out.length co) T.out
 frm:XK V V8 g W u
structure aai(base:Nat)(W u:MO)(g:Nat)(V V9:Pv)(c:Cf)(P:Py)(s:Sp)(B:Gt)(l:List Ou)(k:Nat)(po:Option Oc)(co:Nat):Prop where
 pat:WU base u g V9 c ⟨P.steps++[s],B,P.giv++Zi (l.take k)⟩
 frm:XK V V9 g W u
 out:XG (V9.own g) u fun X=>Xw Z1 X (MG po l.length co) l
theorem avb{V8:Pv}{U:Us}{g:Nat}{u:MO}(vs:List M7):XK V8 {V8 with u:=U} g u (u.setCells g 17 vs):=by
 have d:=adF (B:=0) (w0:=u) (g:=g) (MY 0 u) (Nx _) 17 vs (Nx _);exact⟨d.os,d.tape,d.output,d.size,fun b q1 q2=>N8 u g 17 _ q1 fun e=>q2 (Nt e),fun b e=>Nt e⟩
theorem ave{l:List Ou}{k:Nat}(hk:k<l.length):Zi (l.take (k+1))=Zi (l.take k)++(if l[k].kind=1 then [(l[k].slot,l[k].gen)]else []):=by
 unfold Zi;rw[M9 hk,OY,OI]
 congr 1
 by_cases h:l[k].kind=1
 ·rw[Nh h,List.filter_cons_of_pos (by simp[h])];rfl
 ·rw[Nf h,List.filter_cons_of_neg (by simp[h])];rfl
theorem avo{base:Nat}{W u:MO}{g:Nat}{V:Pv}{c:Cf}{P:Py}{h:Nat}{e:Ev}{b:Nat}{M:List M7}{U:Us}{po:Option Oc}{co:Nat}(k:Xl base W u g V c P h e b M U po co)(hl:V.qs.length<=100000)(hbase:base<=u.heap.size)(z:Sq)
  (hz:z=⟨⟨e,P.last,(Xb P.last e).Ma,(Xb P.last e).out⟩,V.u,U,po,co⟩) (hfr:W.heap.size<=u.heap.size) :
  ∃q' c' w9,(N2 #[37,37] 37 #[MG V.ps V.qs.length V.cs,MG (MI ⟨u.heap.size,0,MH⟩) 1 1]).run MK (u.alloc (MP (abK z).toArray 64))=.ok (MG (MI ⟨q',0,MH⟩) (V.qs.length+1) c') w9 /\
   (w9.cell? ⟨g,16,MH⟩=MI (MG V.ps V.qs.length V.cs)/\w9.frozen? ⟨g,16,MH⟩=Nb)/\(∀x,x<u.heap.size->V.ps.map (·.block)≠MI x->w9.heap[x]?=u.heap[x]?) /\
   abr base W (w9.setCell ⟨g,16,MH⟩ (MG (MI ⟨q',0,MH⟩) (V.qs.length+1) c')) g V {V with ps:=MI ⟨q',0,MH⟩,cs:=c',qs:=V.qs++[z]} c {P with steps:=P.steps++[z.s]} b M U (Xb P.last e) po co:=by
 have f:=k.dos.pat
 obtain⟨q',c',w9,G,J,d,D⟩:=afC avt avs (by decide) Tryz.underlying37 avi rfl (w:=u) (base:=base) f.rows hbase 37 z (abK z).toArray rfl (by omega) (by unfold NE;omega);have i:∀x,x<u.heap.size->V.ps.map (·.block)≠MI x->w9.heap[x]?=u.heap[x]?:=fun x hx hne=>d.block x hx (fun e=>hne (by rw[e,XV]))
 have v:=(i g f.lt f.og).trans f.box;have B:∀x,(MI (⟨q',0,MH⟩:Oc)).map (·.block)=MI x->V.ps.map (·.block)=MI x\/u.heap.size<=x:=fun x e=>by
  cases e;rcases D with e|e
  ·exact Nt (by rw[<-XV _ V.qs.length V.cs];exact e)
  ·exact NF (PJ e)
 have n:(V.qs++[z]).length=V.qs.length+1:=by simp
 have F:XG (V.own g) u fun X=>aje X z:=fun X h1 h2=>by
  have I:=f.last X h1 h2;have A:=k.ans X h1 h2;rw[hz];exact⟨I,A.1.Ma,A.2⟩
 have C:=f.MB (w':=w9) (p:=MI ⟨q',0,MH⟩) (k:=c') (q:=z) d.size i (by rw[n];exact J) B F (by rw[hz]);rw[n]at C;have y:b<u.heap.size:=(ZAa.1 k.box).1;have l:¬V.own g b:=fun e=>by have:=k.lt b e;have:=k.low;omega
 have K:b≠g:=fun e=>l (Nt e)
 have E:∀x,x≠g->(w9.setCell ⟨g,16,MH⟩ (MG (MI ⟨q',0,MH⟩) (V.qs.length+1) c')).heap[x]?=w9.heap[x]?:=fun x e=>MU _ _ _ _ (fun e2=>e e2)
 have r:(w9.setCell ⟨g,16,MH⟩ (MG (MI ⟨q',0,MH⟩) (V.qs.length+1) c')).heap.size=w9.heap.size:=by simp
 have j:∀x,x<u.heap.size->Pv.own {V with ps:=MI ⟨q',0,MH⟩,cs:=c',qs:=V.qs++[z]} g x->V.own g x:=fun x q1 e=>by
  rcases e with e|e|e
  ·exact Nt e
  ·exact(B x e).elim (fun e=>NF (Nt e)) fun e=>by omega
  ·exact NF (NF e)
 have m:∀x,x<u.heap.size->¬V.own g x->(w9.setCell ⟨g,16,MH⟩ (MG (MI ⟨q',0,MH⟩) (V.qs.length+1) c')).heap[x]?=u.heap[x]?:=fun x q1 q2=>(E x fun e=>q2 (Nt e)).trans (i x q1 fun e=>q2 (NF (Nt e)))
 refine⟨q',c',w9,G,⟨by rw[MW w9 g 16 _ _ (0,0) v];rfl,by simp[Ng,v]⟩,i,C,(m b y l).trans k.box,fun e=>l (j b y e),k.ans.step (by rw[r];exact d.size) m j,?_⟩;refine⟨d.os.trans k.bel.os,d.tape.trans k.bel.tape,d.output.trans k.bel.output,by rw[r];exact Nm hfr d.size,fun x q1 q2=>(m x (M8 q1 hfr) q2).trans (k.bel.block x q1),fun x e=>?_⟩
 ·by_cases hxu:x<u.heap.size
  ·exact Nt (j x hxu e)
  ·exact NF (by omega)
theorem au1{V V':Pv}{g:Nat}{w w':MO}{p:MO->Prop}(h:XG (V.own g) w p)(hf:XK V V' g w w'):XG (V'.own g) w' p :=
 h.step hf.size hf.block fun b hb e=>(hf.ext b e).elim id fun e=>by omega
theorem avf(l:List Ou)(k:Nat):(Zi (l.take k)).length<=(Zi l).length:=by
 unfold Zi;rw[N0,N0];exact((List.take_sublist k l).filter _).length_le
theorem WU.Mn{base:Nat}{w:MO}{g:Nat}{V:Pv}{c:Cf}{P:Py}(h:WU base w g V c P):w.cell? ⟨g,43,MH⟩=MI (MG V.pg P.giv.length V.cg):=by
 rw[MW w g 43 _ _ (0,0) h.box];rfl
theorem avd{base:Nat}{W:MO}{g:Nat}{V:Pv}{c:Cf}{P:Py}(h:WU base W g V c P)(hl:P.giv.length<=1000000)(x:Int×Int) :
  ∃q c' w5,(N2 #[57,57] 57 #[MG V.pg P.giv.length V.cg,MG (MI ⟨W.heap.size,0,MH⟩) 1 1]).run MK ((W.alloc (MP #[yB x.1,yB x.2] 134)).drew)=.ok (MG (MI ⟨q,0,MH⟩) (P.giv.length+1) c') w5 /\
   (w5.cell? ⟨g,43,MH⟩=MI (MG V.pg P.giv.length V.cg)/\w5.frozen? ⟨g,43,MH⟩=Nb) /\
   WU base (w5.setCell ⟨g,43,MH⟩ (MG (MI ⟨q,0,MH⟩) (P.giv.length+1) c')) g {V with pg:=MI ⟨q,0,MH⟩,cg:=c'} c {P with giv:=P.giv++[x]} /\
   XK V {V with pg:=MI ⟨q,0,MH⟩,cg:=c'} g W (w5.setCell ⟨g,43,MH⟩ (MG (MI ⟨q,0,MH⟩) (P.giv.length+1) c')):=by
 have r:base<=W.heap.size:=Nm h.low (PJ h.lt);obtain⟨q,c',w5,v,u,d,s⟩:=afC anw avg (by decide) Tryz.underlying57 avh rfl (w:=W.drew) (base:=base) (h.below (MY _ _).drew).giv r 57 x #[yB x.1,yB x.2] rfl (by omega) (by unfold NE;omega);have f:∀b,b<W.heap.size->V.pg.map (·.block)≠MI b->w5.heap[b]?=W.heap[b]?:=fun b hb hne=>d.block b hb (fun e=>hne (by rw[e,XV]))
 have j:=(f g h.lt h.oh).trans h.box;have m:∀b,(MI (⟨q,0,MH⟩:Oc)).map (·.block)=MI b->V.pg.map (·.block)=MI b\/W.heap.size<=b:=fun b e=>by
  cases e;rcases s with e|e
  ·exact Nt (by rw[<-XV _ P.giv.length V.cg];exact e)
  ·exact NF (PJ e)
 have i:(P.giv++[x]).length=P.giv.length+1:=by simp
 have n:=h.MA (w':=w5) (p:=MI ⟨q,0,MH⟩) (k:=c') (l:=P.giv++[x]) d.size f (by rw[i];exact u) m;rw[i]at n;refine⟨q,c',w5,v,⟨by rw[MW w5 g 43 _ _ (0,0) j];rfl,by simp[Ng,j]⟩,n,d.os,d.tape,d.output,by simp;exact d.size,fun b hb hn=>?_,fun b e=>?_⟩
 ·rw[MU _ _ _ _ (fun e=>hn (Nt e))]
  exact f b hb fun e=>hn (NF (NF e))
 ·rcases e with e|e|e
  ·exact Nt (Nt e)
  ·exact Nt (NF (Nt e))
  ·exact(m b e).imp (fun e=>NF (NF e)) id
theorem au6{base:Nat}{w:MO}{g:Nat}{V:Pv}{c:Cf}{P:Py}(h:WU base w g V c P)(hr:XU c P)(hlen:P.steps.length<=1000)(hblk:Xo w)(hb:base<=w.heap.size)(e:Ev)(he:Yk e=0)(hgv:P.giv.length+(Zi (Xb P.last e).out).length<=100000) :
  Ni MK 13 #[gP g,agQ e] w fun r w'=>r=MN (M3 Nw)/\∃V',WU base w' g V' c (P.step e)/\XK V V' g w w':=by
 obtain⟨W,hW⟩:=yE (w.alloc (MP (aaV e).toArray 61));have hB:yA w W:=by rw[hW];exact WQ w
 have hR:W.heap[w.heap.size]?=MI (MP (aaV e).toArray 61 (0,0)):=by rw[hW];exact M1 _ _
 have hD:Yc base W g V c P w.heap.size e:=⟨h.below hB,hR,hblk.below hB⟩;obtain⟨v,f6⟩:=yE w.heap.size;rw[<-f6]at hD;have j8:¬V.own g v:=fun e=>by have:=(h.Mb e).2;omega
 have M:M6 (_/\_/\_/\_/\_/\_):=⟨hr,hlen,he,hB,hb,j8⟩;have HD:M6 _:=hD;have l8:M6 _:=hgv;have H7:M6 (e.kind=7->P.last.now+1<=1099511626776):=fun _=>by have:=hr.now;omega
 obtain⟨L,hL⟩:=yE ((XR V.u P.last).toList);have HL:M6 _:=hL;clear hR hblk h hr hlen he hB hb hD hL j8 hgv;go_enter Tryz.func13,Tryz.ntmps13
 go_wp2_with fail
 rw[<-hW,<-f6];clear hW f6;apply aan
 ·intro c7
  obtain⟨W3,g1⟩:=yE W.drew;have j5:Yc base W3 g V c P v e:=by rw[g1];exact HD.out.on (MY _ _).drew
  obtain⟨S,hS,a6,f7⟩:∃S:MO->Prop,(∀X,S X->Yc base X g V c P v e)/\(∀X,Yc base X g V c P v e->S X)/\S W.drew:=⟨fun X=>Yc base X g V c P v e,fun _ h=>h,fun _ h=>h,by rw[<-g1];exact j5⟩;have D:M6 (_/\_):=⟨hS,a6⟩;clear hS a6 j5 g1 W3;refine O2 (S:=S) (by kernel_rfl) f7 (fun hHeld=>?_);refine awW 0 (gP g) hHeld ?_;simp only[yZ];refine awW 1 (gP g) hHeld ?_;simp only[yZ];refine awW 2 (Na (MI ⟨g,17,MH⟩)) hHeld ?_;simp only[yZ];refine awW 3 (Ny L.toArray) hHeld ?_ (hy:=Pt (by rfl) 56 (O6 12) rfl g 17 rfl L _ (fun _ h=>by rw[HL.out];exact(D.out.1 _ h).pat.Mo) azZ rfl (by rw[HL.out];exact Z0));simp only[yZ];refine awW 4 (Ny (aaV e).toArray) hHeld ?_ (hy:=Pt (by rfl) 61 (O6 3) rfl v 0 rfl (aaV e) _ (fun _ h=>(D.out.1 _ h).ev) aAq rfl anz);simp only[yZ];refine yR [5,10] ?_;refine NP (o:=_) rfl (fun K hK=>?_) (NP (o:=_) rfl (fun K hK=>?_) NX)
  ·go_simp
   refine Nd (w:=W.drew) (by rw[HL.out];exact akh (D.out.1 _ hHeld).pat.last.now M.out.1.wm (D.out.1 _ hHeld).blk M.out.1.out e M.out.2.2.1 H7.out) ?_;rintro r B ⟨n,y,A,rfl,d6,U⟩;obtain⟨d,b2⟩:=yE ((XR n (Xb P.last e)).toList);obtain⟨m,b3⟩:=yE ((Xb P.last e).out.length);have E:M6 (_/\_/\_/\_):=⟨b2,d6,U,b3⟩;have e4:S B:=D.out.2 _ ((D.out.1 _ hHeld).on U);rw[show acN n (Xb P.last e)=Ny d.toArray by rw[b2],<-b3];clear d6 U b2 b3
   go_wp2_with fail
   refine hK.out _ _ e4 (fun hHeld5=>?_);clear hK K e4
   try simp only[yZ]
   refine awW 6 (Nv #[Ny d.toArray,MG y m A,yB 0]) hHeld5 ?_;simp only[yZ];refine awW 7 (Ny d.toArray) hHeld5 ?_;simp only[yZ];refine awW 8 (MG y m A) hHeld5 ?_;simp only[yZ];refine awW 9 (yB 0) hHeld5 ?_;simp only[yZ];refine yQ 10 fun K hK=>?_;go_simp;obtain⟨Y,hY⟩:=yE (B.alloc (MP wz.toArray 56));obtain⟨q,hg⟩:=yE B.heap.size;have f2:yA B Y:=by rw[hY];exact WQ B
   have b4:Y.heap[q]?=MI (MP wz.toArray 56 (0,0)):=by rw[hY,hg];exact M1 _ _
   have U:yA W B:=Za E.out.2.2.1;have a7:yA W Y:=U.trans (f2.mono U.size);have b6:W.heap.size<=q:=by rw[hg];exact U.size
   have k3:S Y:=D.out.2 _ (HD.out.on a7);have d9:∀b,b<B.heap.size->Y.heap[b]?=B.heap[b]?:=fun b h=>f2.block b h
   have c2:=f2.size;have j4:B.heap.size<=q:=by rw[hg];exact MV _
   rw[<-hY,<-hg];clear hY hg f2 U;refine hK.out _ _ k3 (fun hHeldY=>?_);clear hK K k3
   try simp only[yZ]
   have l5:d.length=26:=by rw[E.out.1];rfl
   have a3:d.toArray.size=26:=(show d.toArray.size=d.length from OQ).trans l5;have a8:(Y).there q 0 d.toArray.size:=by rw[a3];exact aeU b4
   obtain⟨f,I⟩:=yE ((Y).setCells q 0 d);have d7:f.heap[q]?=MI (MP d.toArray 56 (0,0)):=by rw[I];exact anq b4 (by rw[l5];rfl)
   have b9:yA W f:=by rw[I];exact adp a7 b6 _ _ a7.size
   have b1:Yc base f g V c P v e:=HD.out.on b9;have a4:S f:=D.out.2 _ b1;have d8:XG (V.own g) f fun X=>Xd X n (Xb P.last e)/\Xw Z1 X (MG y (Xb P.last e).out.length A) (Xb P.last e).out:=anp (b5:=q) E.out.2.1 (by rw[I,ac3];exact c2) (fun b h1 h2=>by rw[I,N8 _ _ _ _ (M8 h1 c2) h2];try exact d9 b h1) (NF j4) (fun b hx=>(HD.out.pat.Mb hx).2)
   have J:M6 (Xl base W f g V c P v e q d n y A/\m=(Xb P.last e).out.length):=⟨⟨b1,E.out.1,d7,b6,b9,d8,fun x hx=>(HD.out.pat.Mb hx).2,M.out.2.2.2.2.2⟩,E.out.2.2.2⟩;have e7:d.toArray.all (·.oneCell')=true:=by rw[E.out.1];exact ado _ _
   clear d7 b9 d8 a7 b4 b6 b1;refine yR [11] ?_;refine afX (i:=11) (o:=_) (by rfl) (by rfl) 56 (O6 5) (O6 16) (by rfl) q 0 d.toArray (by rfl) (by rfl) a8 (by rw[a3];exact Z0) e7 (by rw[NS,<-I];exact a4) ?_;rw[NS,<-I]
   try simp only[yZ]
   refine yR [12] ?_;refine acK (i:=12) (o:=_) (by rfl) (by rfl) (O6 17) (by rfl) (MG y m A) (by rfl) a4 ?_
   try simp only[yZ]
   refine yR [13] ?_;refine acK (i:=13) (o:=_) (by rfl) (by rfl) (O6 18) (by rfl) (yB 0) (by rfl) a4 ?_
   try simp only[yZ]
   refine PS (by kernel_rfl) ?_ _;clear a8 a3 l5 E a4 I e7;clear hHeld5 hHeldY d9 c2 j4;revert J;revert f;revert m;revert A;revert y;revert n;revert d;revert q;exact c7.out
  ·go_simp
   obtain⟨X1,f1⟩:=yE ((W.alloc (MP wz.toArray 56)).drew);have g0:yA W X1:=by rw[f1];exact(WQ W).drew
   have j9:X1.heap[W.heap.size]?=MI (MP wz.toArray 56 (0,0)):=by rw[f1];exact M1 _ _
   have i6:S X1:=D.out.2 _ (HD.out.on g0);obtain⟨q,hg⟩:=yE W.heap.size;have HX:M6 (_/\_/\_):=⟨g0,j9,hg⟩;clear g0 j9;rw[<-f1,<-hg];clear f1 hg;refine hK.out _ _ i6 (fun hHeld=>?_);clear hK K i6
   try simp only[yZ]
   refine yQ 5 fun K hK=>?_;go_simp;refine Nd (w:=X1) (by rw[HL.out];exact akh (D.out.1 _ hHeld).pat.last.now M.out.1.wm (D.out.1 _ hHeld).blk M.out.1.out e M.out.2.2.1 H7.out) ?_;rintro r B ⟨n,y,A,rfl,d6,U⟩;obtain⟨d,b2⟩:=yE ((XR n (Xb P.last e)).toList);obtain⟨m,b3⟩:=yE ((Xb P.last e).out.length);have E:M6 (_/\_/\_/\_):=⟨b2,d6,U,b3⟩;have e4:S B:=D.out.2 _ ((D.out.1 _ hHeld).on U);rw[show acN n (Xb P.last e)=Ny d.toArray by rw[b2],<-b3];clear d6 U b2 b3
   go_wp2_with fail
   refine hK.out _ _ e4 (fun hHeld5=>?_);clear hK K e4
   try simp only[yZ]
   refine awW 6 (Nv #[Ny d.toArray,MG y m A,yB 0]) hHeld5 ?_;simp only[yZ];refine awW 7 (Ny d.toArray) hHeld5 ?_;simp only[yZ];refine awW 8 (MG y m A) hHeld5 ?_;simp only[yZ];refine awW 9 (yB 0) hHeld5 ?_;simp only[yZ];have b4:B.heap[q]?=MI (MP wz.toArray 56 (0,0)):=by rw[HX.out.2.2];exact WO HX.out.2.1 E.out.2.2.1
   have a7:yA W B:=HX.out.1.trans (E.out.2.2.1.mono HX.out.1.size);have b6:W.heap.size<=q:=by rw[HX.out.2.2];exact MV _
   have j3:q<X1.heap.size:=by rw[HX.out.2.2];exact(ZAa.1 HX.out.2.1).1
   have d9:∀b,b<B.heap.size->B.heap[b]?=B.heap[b]?:=fun _ _=>rfl
   have c2:B.heap.size<=B.heap.size:=MV _;have k8:=HX.out.1.size;have l5:d.length=26:=by rw[E.out.1];rfl
   have a3:d.toArray.size=26:=(show d.toArray.size=d.length from OQ).trans l5;have a8:(B).there q 0 d.toArray.size:=by rw[a3];exact aeU b4
   obtain⟨f,I⟩:=yE ((B).setCells q 0 d);have d7:f.heap[q]?=MI (MP d.toArray 56 (0,0)):=by rw[I];exact anq b4 (by rw[l5];rfl)
   have b9:yA W f:=by rw[I];exact adp a7 b6 _ _ a7.size
   have b1:Yc base f g V c P v e:=HD.out.on b9;have a4:S f:=D.out.2 _ b1;have d8:XG (V.own g) f fun X=>Xd X n (Xb P.last e)/\Xw Z1 X (MG y (Xb P.last e).out.length A) (Xb P.last e).out:=anp (b5:=q) E.out.2.1 (by rw[I,ac3];exact c2) (fun b h1 h2=>by rw[I,N8 _ _ _ _ (M8 h1 c2) h2];try exact d9 b h1) (Nt j3) (fun b hx=>M8 (HD.out.pat.Mb hx).2 k8)
   have J:M6 (Xl base W f g V c P v e q d n y A/\m=(Xb P.last e).out.length):=⟨⟨b1,E.out.1,d7,b6,b9,d8,fun x hx=>(HD.out.pat.Mb hx).2,M.out.2.2.2.2.2⟩,E.out.2.2.2⟩;have e7:d.toArray.all (·.oneCell')=true:=by rw[E.out.1];exact ado _ _
   clear d7 b9 d8 a7 b4 b6 b1;refine yR [11] ?_;refine afX (i:=11) (o:=_) (by rfl) (by rfl) 56 (O6 5) (O6 16) (by rfl) q 0 d.toArray (by rfl) (by rfl) a8 (by rw[a3];exact Z0) e7 (by rw[NS,<-I];exact a4) ?_;rw[NS,<-I]
   try simp only[yZ]
   refine yR [12] ?_;refine acK (i:=12) (o:=_) (by rfl) (by rfl) (O6 17) (by rfl) (MG y m A) (by rfl) a4 ?_
   try simp only[yZ]
   refine yR [13] ?_;refine acK (i:=13) (o:=_) (by rfl) (by rfl) (O6 18) (by rfl) (yB 0) (by rfl) a4 ?_
   try simp only[yZ]
   refine PS (by kernel_rfl) ?_ _;clear a8 a3 l5 E a4 I e7;clear hHeld5 j3 HX d9 c2 k8;revert J;revert f;revert m;revert A;revert y;revert n;revert d;revert q;exact c7.out
 ·rintro q d n y A m f J
  obtain⟨T,hT⟩:=yE (Xb P.last e);have g8:Wm T:=by rw[hT];exact M.out.1.wm.Mm (aeH M.out.2.2.1) H7.out
  have f9:T.cfg=c:=by rw[hT];exact(alh P.last e).1.trans M.out.1.cfg
  have i0:(T.tab.length:Int)=c.flows:=by rw[<-f9];exact g8.im.bs.tabLen
  have c0:f.cell? ⟨g,0,MH⟩=MI (yB c.flows):=by rw[MW f g 0 _ _ (0,0) J.out.1.dos.pat.box];rfl
  have m0:f.cell? ⟨q,17,MH⟩=MI (MG n.pt T.tab.length n.ct):=by rw[MW f q 17 _ _ (0,0) J.out.1.box,J.out.1.mem,hT];rfl
  have a5:=J.out.1.dos.pat.lt;have e5:q<f.heap.size:=(ZAa.1 J.out.1.box).1;have l9:((T.tab.length:Int) != c.flows)=false:=by rw[i0];simp
  have HT:M6 (_/\_/\_/\_):=⟨hT,g8,f9,i0⟩;clear hT g8 f9 i0
  go_wp2_with fail
  refine wp_region_quiet_lit (by kernel_rfl) (by kernel_rfl) ?_
  repeat (first|go_big_quiet_skip|quiet_step (fail))
  refine Oy ?_;intro _ m4;obtain⟨nq,l7⟩:=m4;subst l7
  go_wp2_with fail
  obtain⟨C,g7⟩:=yE (f.drewN nq);have i5:yA f C:=by rw[g7];exact amB (MY _ _) nq
  have c4:Xl base W C g V c P v e q d n y A:=J.out.1.on i5;obtain⟨z,hz⟩:∃z:Sq,z=⟨⟨e,P.last,(Xb P.last e).Ma,(Xb P.last e).out⟩,V.u,n,y,A⟩:=⟨_,rfl⟩;obtain⟨R,hR⟩:=yE (abK z);have i2:∀X,(QA 64 #[(0,Ny (aaV e).toArray),(1,Ny L.toArray),(2,Ny d.toArray),(3,MG y m A)]).run MK X=.ok (Ny R.toArray) X:=fun X=>by
   rw[HL.out,J.out.1.mem,J.out.2,hR,hz];exact au4 ⟨⟨e,P.last,(Xb P.last e).Ma,(Xb P.last e).out⟩,V.u,n,y,A⟩ X
  have k6:∀X,(Q0 37 1 #[(0,Ny R.toArray)]).run MK X=.ok (MG (MI ⟨X.heap.size,0,MH⟩) 1 1) (X.alloc (MP R.toArray 64)):=fun X=>by
   rw[hR];exact avr z X
  have l6:V.qs.length<=1000:=by rw[<-c4.dos.pat.steps];exact M.out.2.1
  have k1:base<=C.drew.heap.size:=Nm (Nm M.out.2.2.2.2.1 M.out.2.2.2.1.size) c4.bel.size;have HP:M6 _:=avo (c4.on (MY _ _).drew) (by omega) k1 z hz c4.bel.size;rw[<-hR]at HP;have HZ:M6 (_/\_/\_/\_):=⟨i2,k6,hz,(show d.length=26 by rw[J.out.1.mem];rfl)⟩;have m1:M6 _:=c4;rw[<-g7];clear g7 c0 m0 a5 e5 l9 i2 k6 hz hR c4 i5 l6 k1;apply aan
  ·intro c7
   obtain⟨q8,c8,w9,e6,i1,e9,d5⟩:=HP.out;obtain⟨S,hS,a6⟩:∃S:MO->Prop,(∀X,S X->abs X v g q e L d)/\(∀X,abs X v g q e L d->S X):=⟨fun X=>abs X v g q e L d,fun _ h=>h,fun _ h=>h⟩;have Z:Xl base W C.drew g V c P v e q d n y A:=m1.out.on (MY _ _).drew;have f3:abs C.drew v g q e L d:=by have:=Z.Gz;rw[HL.out];exact this
   have e5:q<C.drew.heap.size:=(ZAa.1 Z.box).1;have g9:v<C.drew.heap.size:=(ZAa.1 Z.dos.evb).1;have a5:=Z.dos.pat.lt;have f5:¬V.own g q:=fun e=>by have:=Z.lt q e;have:=Z.low;omega
   have a0:MQ C.drew.heap.size C.drew (C.drew.alloc (MP R.toArray 64)):=WQ _;have j2:abs (C.drew.alloc (MP R.toArray 64)) v g q e L d:=f3.Gf (a0.block _ g9) (a0.block _ a5) (a0.block _ e5);have f4:abs w9 v g q e L d:=f3.Gf (e9 _ g9 fun e=>Z.no (NF (Nt e))) (e9 _ a5 Z.dos.pat.og) (e9 _ e5 fun e=>f5 (NF (Nt e)));have k0:abs (w9.setCell ⟨g,16,MH⟩ (MG (MI ⟨q8,0,MH⟩) (V.qs.length+1) c8)) v g q e L d:=f4.F4 (fun e=>Z.no (Nt e)) (fun e=>f5 (Nt e)) _;have G:M6 (_/\_/\_/\_/\_):=⟨e6,i1,a6 _ f4,a6 _ k0,d5⟩;have l4:g<C.heap.size:=a5;have HC:M6 (_/\_/\_):=⟨Z.Gm,(Z.on a0).Gm,a6 _ j2⟩;have f7:=a6 _ f3;have D:M6 (_/\True):=⟨hS,trivial⟩;clear hS a6 e6 i1 e9 d5 Z f3 e5 g9 a5 l4 f5 a0 j2 f4 k0;refine O2 (S:=S) (by kernel_rfl) f7 (fun hHeld=>?_);refine awW 0 (gP g) hHeld ?_;simp only[yZ];refine awW 1 (gP g) hHeld ?_;simp only[yZ];refine awW 2 (gP g) hHeld ?_;simp only[yZ];refine awW 3 (Na (MI ⟨g,16,MH⟩)) hHeld ?_;simp only[yZ];refine awW 5 (Ny (aaV e).toArray) hHeld ?_ (hy:=Pt (by rfl) 61 (O6 3) rfl v 0 rfl (aaV e) _ (fun _ h=>(D.out.1 _ h).1) aAq rfl anz);simp only[yZ];refine awW 6 (gP g) hHeld ?_;simp only[yZ];refine awW 7 (gP g) hHeld ?_;simp only[yZ];refine awW 8 (Na (MI ⟨g,17,MH⟩)) hHeld ?_;simp only[yZ];refine awW 9 (Ny L.toArray) hHeld ?_ (hy:=Pt (by rfl) 56 (O6 41) rfl g 17 rfl L _ (fun _ h=>(D.out.1 _ h).2.1) azZ rfl (by rw[HL.out];exact Z0));simp only[yZ];refine awW 10 (Ny d.toArray) hHeld ?_ (hy:=Pt (by rfl) 56 (O6 5) rfl q 0 rfl d _ (fun _ h=>(D.out.1 _ h).2.2) azZ rfl (by rw[HZ.out.2.2.2];exact Z0));simp only[yZ];refine awW 11 (MG y m A) hHeld ?_;simp only[yZ];refine awW 12 (Ny R.toArray) hHeld ?_ (hy:=avx (by rfl) 64 #[(0,O6 38),(1,O6 42),(2,O6 43),(3,O6 44)] rfl (Ny R.toArray) (fun X=>by simp only[PW,OA,P5];exact HZ.out.1 X));simp only[yZ];refine yR [4,13] ?_;refine NP (o:=_) rfl (fun K hK=>?_) (NP (o:=_) rfl (fun K hK=>?_) NX)
   ·have g3:=HC.out.1
    go_simp;refine hK.out _ _ hHeld (fun hHeld=>?_);clear hK K g3
    try simp only[yZ]
    refine yR [13] ?_;refine avp (i:=13) (o:=_) (by rfl) (by rfl) 37 1 #[(0,O6 45)] (by rfl) (MG (MI ⟨C.drew.heap.size,0,MH⟩) 1 1) (w1:=C.drew.alloc (MP R.toArray 64)) (by simp only[PW,OA,P5];exact HZ.out.2.1 _) HC.out.2.2 ?_
    try simp only[yZ]
    refine yR [14] ?_;refine anC (i:=14) (o:=_) (by rfl) (by rfl) (O6 37) (O6 46) 37 (by rfl) _ _ _ (by rfl) (by rfl) G.out.1 G.out.2.2.1 ?_;have a9:=G.out.2.2.1
    try simp only[yZ]
    refine awW 15 (gP g) a9 ?_;simp only[yZ];refine awW 16 (Na (MI ⟨g,16,MH⟩)) a9 ?_;simp only[yZ];refine yQ 17 fun K hK=>?_;have f0:=G.out.2.1.1;have b8:=G.out.2.1.2;go_simp;obtain⟨F,b7⟩:=yE (w9.setCell ⟨g,16,MH⟩ (MG (MI ⟨q8,0,MH⟩) (V.qs.length+1) c8));have N:M6 _:=G.out.2.2.2.2;have c3:=G.out.2.2.2.1;rw[<-b7]at N c3;rw[<-b7];refine hK.out _ _ c3 (fun hHeld8=>?_)
    try simp only[yZ]
    refine PS (by kernel_rfl) ?_ _;clear hK K hHeld8 c3 b7 f0 b8 a9 G;revert N;revert F;revert c8;revert q8;exact c7.out
   ·refine avv (by rfl) 37 1 #[(0,O6 45)] (by rfl) (MG (MI ⟨C.drew.heap.size,0,MH⟩) 1 1) (w1:=C.drew.alloc (MP R.toArray 64)) (by simp only[PW,OA,P5];exact HZ.out.2.1 _) ?_
    refine hK.out _ _ HC.out.2.2 (fun hHeldB=>?_);clear hK K
    try simp only[yZ]
    refine yQ 4 fun K hK=>?_;obtain⟨X7,a0⟩:=yE (C.drew.alloc (MP R.toArray 64));have g3:X7.cell? ⟨g,16,MH⟩=MI (MG V.ps V.qs.length V.cs):=by rw[a0];exact HC.out.2.1
    have g5:=hHeldB;rw[<-a0]at g5⊢;have i9:M6 _:=a0;clear a0;go_simp;refine hK.out _ _ g5 (fun hHeldC=>?_);clear hK K g3 g5 hHeldC;have a0:=i9.out;clear i9;subst a0
    try simp only[yZ]
    refine yR [14] ?_;refine anC (i:=14) (o:=_) (by rfl) (by rfl) (O6 37) (O6 46) 37 (by rfl) _ _ _ (by rfl) (by rfl) G.out.1 G.out.2.2.1 ?_;have a9:=G.out.2.2.1
    try simp only[yZ]
    refine awW 15 (gP g) a9 ?_;simp only[yZ];refine awW 16 (Na (MI ⟨g,16,MH⟩)) a9 ?_;simp only[yZ];refine yQ 17 fun K hK=>?_;have f0:=G.out.2.1.1;have b8:=G.out.2.1.2;go_simp;obtain⟨F,b7⟩:=yE (w9.setCell ⟨g,16,MH⟩ (MG (MI ⟨q8,0,MH⟩) (V.qs.length+1) c8));have N:M6 _:=G.out.2.2.2.2;have c3:=G.out.2.2.2.1;rw[<-b7]at N c3;rw[<-b7];refine hK.out _ _ c3 (fun hHeld8=>?_)
    try simp only[yZ]
    refine PS (by kernel_rfl) ?_ _;clear hK K hHeld8 c3 b7 f0 b8 a9 G hHeldB;revert N;revert F;revert c8;revert q8;exact c7.out
  ·rintro q8 c8 F N
   obtain⟨V8,m3⟩:∃V8:Pv,V8={V with ps:=MI ⟨q8,0,MH⟩,cs:=c8,qs:=V.qs++[z]}:=⟨_,rfl⟩;rw[<-m3]at N;have hM:d=(XR n (Xb P.last e).Ma).toList:=J.out.1.mem;obtain⟨u9,c6⟩:=yE (F.setCells g 17 d);have g4:WU base u9 g {V8 with u:=n} c {{P with steps:=P.steps++[z.s]}with last:=(Xb P.last e).Ma}:=by
    rw[c6,hM];exact N.out.pat.MC n (Xb P.last e).Ma fun X h1 h2=>(N.out.ans X h1 h2).1.Ma
   have a3:d.toArray.size=26:=(show d.toArray.size=d.length from OQ).trans HZ.out.2.2.2;have i3:d.toArray.all (·.oneCell')=true:=by rw[hM];exact ado _ _
   have a8:F.there g 17 d.toArray.size:=by
    rw[a3];exact fun j hj=>by
     have hb:=N.out.pat.box;have d4:17+j<(adM V8 c {P with steps:=P.steps++[z.s]}).toArray.size:=by show 17+j<44;omega
     exact⟨by rw[MW F g (17+j) _ _ (0,0) hb,PN d4];rfl,by simp[Ng,hb]⟩
   have j7:F.rangeAt q 0 d:=agb N.out.box;have i4:∀b,b<F.heap.size->b≠g->u9.heap[b]?=F.heap[b]?:=fun b hb e=>by rw[c6];exact N8 F g 17 _ hb e
   have k4:u9.heap.size=F.heap.size:=by rw[c6];exact ac3 _ _ _ _
   have f8:XG (Pv.own {V8 with u:=n} g) u9 fun X=>Xw Z1 X (MG y (Xb P.last e).out.length A) (Xb P.last e).out:=by
    refine XG.step (S:=V8.own g) (fun X h1 h2=>(N.out.ans X h1 h2).2) (by rw[k4];exact MV _) (fun b q1 q2=>i4 b q1 fun e=>q2 (Nt e)) fun b q1 e=>e
   have b8:XK V {V8 with u:=n} g W u9:=by rw[c6];exact N.out.frm.F0 (avb d)
   have j6:M6 (aai base W u9 g V {V8 with u:=n} c P z.s (Xb P.last e).Ma (Xb P.last e).out 0 y A):=⟨by rw[show P.giv++Zi ((Xb P.last e).out.take 0)=P.giv by show P.giv++[]=P.giv;simp];exact g4,b8,f8⟩;have H5:M6 (_/\_/\_/\_/\_/\_):=⟨g4,f8,a8,a3,i3,j7⟩;have i7:M6 _:=c6;clear b8 hM c6 g4 a3 i3 a8 j7 i4 k4 f8
   go_wp2_with (first|((with_reducible refine O3 rfl 56 (O6 5) rfl q 0 ?gx d _ ?gc azZ ?gd ?gi ?_);(case gx=>rfl);(case gc=>exact H5.out.2.2.2.2.2);(case gd=>rfl);(case gi=>rw[HZ.out.2.2.2];exact Z0))|((with_reducible refine OW rfl 56 (O6 53) (O6 51) rfl g 17 d.toArray ?sx ?sy ?st ?si ?s1 ?_);(case sx=>rfl);(case sy=>rfl);(case st=>exact H5.out.2.2.1);(case si=>rw[H5.out.2.2.2.1];exact Z0);(case s1=>exact H5.out.2.2.2.2.1);rw[NS,<-i7.out]))
   obtain⟨l,hl⟩:=yE ((Xb P.last e).out);have hn:=J.out.2;rw[<-hl]at j6 hn;have HN:M6 (m=l.length):=hn;have k2:M6 (l=(Xb P.last e).out):=hl;clear hn hl H5 i7
   go_loopw [8] (fun i wr=>∃(k:Nat) (O:Pv),i=yB (k:Int)/\k<=m/\M6 (aai base W wr g V O c P z.s (Xb P.last e).Ma l k y A)) (fun i _=>m-(intOf i).toNat)
   case atStart=>exact⟨0,_,rfl,Nx _,j6⟩
   case round =>
    obtain⟨k,O,rfl,hk,HK⟩:=hrel
    by_cases d4:k<m
    ·have m2:(k:Int)<(m:Int):=by omega
     have g2:k<l.length:=by rw[<-HN.out];exact d4
     obtain⟨a,m6,hv,hc,hm,hp⟩:=Xw.F6 akV HK.out.out.now;injection hv with ha hn2 hcap;obtain⟨bo,oo,i8,m7,e8⟩:=hp k g2;rw[<-ha]at i8;have d0:wr.cell? ⟨bo,oo+k*7,MH⟩=MI (yB l[k].kind):=e8 0 (by omega);have d1:wr.cell? ⟨bo,oo+k*7+1,MH⟩=MI (yB l[k].slot):=e8 1 (by omega);have d2:wr.cell? ⟨bo,oo+k*7+2,MH⟩=MI (yB l[k].gen):=e8 2 (by omega);have g6:=ave g2;obtain⟨x,hx⟩:=yE (l[k]);rw[<-hx]at d0 d1 d2 g6;subst i8;have HG:M6 _:=g6;have m9:m<=9223372036854775807:=by rw[HN.out];unfold NE at hm;omega
     clear ha hn2 hcap e8 hp hc hm g2 g6 hx
     by_cases hk1:x.kind=1
     ·have l3:(x.kind == 1)=true:=by simp[hk1]
      have a5:(P.giv++Zi (l.take k)).length<=1000000:=by
       rw[Ns];have:=avf l k;have:=l8.out;rw[<-k2.out]at this;omega
      obtain⟨q9,c9,w9,k7,⟨l0,b8⟩,k9,j0⟩:=avd HK.out.pat a5 (x.slot,x.gen);have j1:=HK.out.pat.Mn;have m5:=HK.out.pat.lt;obtain⟨n9,c5⟩:=yE ((P.giv++Zi (l.take k)).length);have e6:(N2 #[57,57] 57 #[MG O.pg n9 O.cg,MG (MI ⟨wr.heap.size,0,MH⟩) 1 1]).run MK ((wr.alloc (MP #[yB x.slot,yB x.gen] 134)).drew)=.ok (MG (MI ⟨q9,0,MH⟩) (n9+1) c9) w9:=by rw[c5];exact k7
      have k5:WU base (w9.setCell ⟨g,43,MH⟩ (MG (MI ⟨q9,0,MH⟩) (n9+1) c9)) g {O with pg:=MI ⟨q9,0,MH⟩,cg:=c9} c ⟨P.steps++[z.s],(Xb P.last e).Ma,(P.giv++Zi (l.take k))++[(x.slot,x.gen)]⟩:=by rw[c5];exact k9
      have d5:XK O {O with pg:=MI ⟨q9,0,MH⟩,cg:=c9} g wr (w9.setCell ⟨g,43,MH⟩ (MG (MI ⟨q9,0,MH⟩) (n9+1) c9)):=by rw[c5];exact j0
      have f0:w9.cell? ⟨g,43,MH⟩=MI (MG O.pg n9 O.cg):=by rw[c5];exact l0
      have m8:wr.cell? ⟨g,43,MH⟩=MI (MG O.pg n9 O.cg):=by rw[c5];exact j1
      have HR:M6 (_/\_/\_):=⟨e6,k5,d5⟩;clear e6 k5 d5 a5 c5 k7 l0 k9 j0 j1;go_wp2
      go_region_law (first|(refine aec (by rfl) _ _ 57 (by rfl) _ _ _ _ (by rfl) (by rfl) HR.out.1 ?_))
      all_goals
       go_wp2
       go_roundw
       case rel=>exact⟨k+1,_,by simp,d4,⟨by have h:=HR.out.2.1;rw[HG.out,Nh hk1,<-OC];exact h,HK.out.frm.F0 HR.out.2.2,au1 HK.out.out HR.out.2.2⟩⟩
       case measure=>simp[intOf];omega
     ·have l3:(x.kind == 1)=false:=by simp[hk1]
      go_wp2
      go_roundw
      case rel=>exact⟨k+1,O,by simp,d4,⟨by have h:=HK.out.pat;rw[HG.out,Nf hk1,OG];exact h,HK.out.frm,HK.out.out⟩⟩
      case measure=>simp[intOf];omega
    ·obtain rfl:k=m:=by omega
     have m2:¬(k:Int)<(k:Int):=by omega
     go_wp2;go_ret;have e1:(⟨P.steps++[z.s],(Xb P.last e).Ma,P.giv++Zi (l.take k)⟩:Py)=P.step e:=by
      rw[show l.take k=l from N1 (Nat.le_of_eq HN.out.symm),k2.out,HZ.out.2.2.1];rfl
     have h9:=HK.out.pat
     rw[e1]at h9;exact⟨rfl,O,h9,(XK.F5 M.out.2.2.2.1).F0 HK.out.frm⟩
structure XQ(w W:MO)(g:Nat)(V:Pv)(c:Cf)(P:Py):Prop where
 pat:WU w.heap.size W g V c P
 rn:Rn (Yb c) c P
 bel:yA w W
 blk:Xo W
 pos:10<w.heap.size
theorem XQ.on{w W:MO}{g:Nat}{V:Pv}{c:Cf}{P:Py}(h:XQ w W g V c P)(hb:yA W Y):XQ w Y g V c P :=
 ⟨h.pat.below hb,h.rn,h.bel.trans (hb.mono h.bel.size),h.blk.below hb,h.pos⟩
theorem XQ.Mf{w W:MO}{g:Nat}{V:Pv}{c:Cf}{P:Py}(h:XQ w W g V c P)(hl:P.steps.length<=1000)(e:Ev)(he:Yk e=0) :
  Ni MK 13 #[gP g,acH e] W fun r w'=>r=MN (M3 Nw)/\∃V',XQ w w' g V' c (P.step e):=by
 refine(au6 h.pat h.rn.runs hl h.blk h.bel.size e he (h.rn.Mv hl he)).mono ?_;rintro r w' ⟨rfl,V',i,f⟩;have d:=f.IT h.pat h.bel.size;exact⟨rfl,V',i,h.rn.step he (by omega),h.bel.trans d,h.blk.Gf (d.block 10 h.pos),h.pos⟩
theorem XQ.MD{w W:MO}{g:Nat}{V:Pv}{c:Cf}{P:Py}(h:XQ w W g V c P)(hl:P.steps.length<=1000)(d:Dd)(hd:ajd d) :
  Ni MK 14 #[gP g,Ny #[yB d.k,yB d.a,yB d.b,yB d.c]] W fun r w'=>∃e,(Yk e=0/\e.req<2000)/\r=MN (acH e)/\XQ w w' g V c P:=by
 have l:Xw afq W (MG V.pg P.giv.length V.cg) P.giv:=abw h.pat.giv;refine(au8 h.pat.Mn h.pat.lt (by have:=h.rn.Mj;omega) (fun i hi=>?_) h.rn.runs.Mx d.k d.a d.b d.c (adr hd.1) (adr hd.2.1) (adr hd.2.2.1) (adr hd.2.2.2)).mono ?_
 ·obtain⟨a,u,q,_,_,m⟩:=Xw.F6 anw l
  obtain⟨b,o,s,f,j⟩:=m i hi;injection q with q1 _ _;exact⟨b,o,q1.trans s,f,j 0 (by omega),j 1 (by omega)⟩
 ·rintro r w' ⟨e,n,rfl,f⟩
  exact⟨e,n,rfl,h.on f⟩
structure abq(f:Nat->Int)(c:Cf):Prop where
 ok:adg c
 flows:c.flows<=8
 drain:c.drain<=5
 idle:c.idle<=6
 conn:c.conn<=4
 ret:c.ret<=3
 most:c.most=((ZN (f 9) 101:Nat):Int)
theorem au5(f:Nat->Int)(hf:∀i,i<16->(N6 ME (f i)).wf=Nw):∃c:Cf,abq f c/\∀w,Ni MK 11 #[agc (f 0) (f 1) (f 2) (f 3) (f 4) (f 5) (f 6) (f 7) (f 8) (f 9) (f 10) (f 11) (f 12) (f 13) (f 14) (f 15)] w fun r w'=>r=MN (ag9 c)/\yA w w':=by
 obtain⟨c,d,h⟩:=ark (f 0) (f 1) (f 2) (f 3) (f 4) (f 5) (f 6) (f 7) (f 8) (f 9) (f 10) (f 11) (f 12) (f 13) (f 14) (f 15) (hf 0 (by omega)) (hf 1 (by omega)) (hf 2 (by omega)) (hf 3 (by omega)) (hf 4 (by omega)) (hf 5 (by omega)) (hf 6 (by omega)) (hf 7 (by omega)) (hf 8 (by omega)) (hf 9 (by omega)) (hf 10 (by omega)) (hf 11 (by omega)) (hf 12 (by omega)) (hf 13 (by omega)) (hf 14 (by omega)) (hf 15 (by omega));exact⟨⟨c.flows,c.num,c.den,c.tries,c.warm,c.drain,c.idle,c.conn,c.ret,c.most,c.bn,c.bd,c.bb,c.wn,c.wf,c.wh⟩,⟨d.ok,d.flows,d.drain,d.idle,d.conn,d.ret,d.most⟩,h⟩
abbrev kz:List Value:=[yB 0,yB 0,yB 0,yB 0,yB 0,yB 0,yB 0,yB 0,yB 0,yB 0,yB 0,yB 0,yB 0,yB 0,yB 0,yB 0]
theorem ajj:(MK.info? 36).map (·.size)=MI 16:=by kernel_rfl
theorem avk(c:Cf):(ac8 c).toArray.all (·.oneCell')=true:=by
 apply OE;intro u d;simp only[OO,OD,or_false]at d;rcases d with rfl|rfl|rfl|rfl|rfl|rfl|rfl|rfl|rfl|rfl|rfl|rfl|rfl|rfl|rfl|rfl <;> rfl
abbrev adN(U:Us):Pv:=⟨MH,0,MH,0,U,[]⟩
theorem au3(U:Us)(c:Cf)(W:MO):(QA 59 #[(0,Ny (ac8 c).toArray),(2,Ny (XR U (Yb c)))]).run MK W=.ok (Ny (adM (adN U) c ⟨[],Yb c,[]⟩).toArray) W:=by kernel_rfl
theorem avq{c:Cf}(hc:adg c):XU c ⟨[],Yb c,[]⟩:=
 ⟨akw hc,rfl,rfl,Qh _,fun _ h=>absurd h OD,fun _ _ _ h=>absurd h (by simp),fun _ h=>absurd h (by simp),rfl⟩
theorem avn{w w2 W:MO}{U:Us}{c:Cf}{g B:Nat}(hbox:W.heap[g]?=MI (MP (adM (adN U) c ⟨[],Yb c,[]⟩).toArray 59 (0,0)))(hg:w.heap.size<=g)(hA:∀X,aba B w2 X->Xd X U (Yb c))(hb:yA w2 W)(h2:w2.heap.size<=g) :
  WU w.heap.size W g (adN U) c ⟨[],Yb c,[]⟩:=by
 refine⟨hbox,hg,rfl,⟨rfl,Nt ⟨rfl,rfl⟩⟩,⟨rfl,Nt ⟨rfl,rfl⟩⟩,by simp,by simp,by simp,fun X h1 h3=>?_,fun q hq=>absurd hq OD⟩;refine hA X ⟨Nm hb.size h1,fun b q1 q2=>?_⟩;rw[h3 b (M8 q2 hb.size),hb.block b q2];rintro(rfl|e|e)
 ·omega
 ·simp at e
 ·simp at e
def Sd(P:Py)(k:Nat):Prop:=(∀j,j<k->∃s,P.steps[j]?=MI s/\s.ev.kind=5)/\∀s∈P.steps,s.ev.req<2000
theorem ajm(P:Py)(e:Ev):(P.step e).steps.length=P.steps.length+1:=by
 show(P.steps++[_]).length=_;rw[Ns,OU]
theorem Sd.step{P:Py}{k:Nat}(h:Sd P k)(hk:k<=P.steps.length){e:Ev}(he:e.req<2000):Sd (P.step e) k:=by
 refine⟨fun j hj=>?_,fun s d=>?_⟩
 ·show ∃s,(P.steps++[_])[j]?=MI s/\s.ev.kind=5
  rw[OJ (by omega)];exact h.1 j hj
 ·rcases QF.1 d with d|d
  ·exact h.2 s d
  ·rw[PY.1 d];exact he
theorem Sd.Ms{P:Py}{k:Nat}(h:Sd P k)(hk:P.steps.length=k){e:Ev}(he:e.req<2000)(h5:e.kind=5):Sd (P.step e) (k+1):=by
 have d:=h.step (by omega) he;refine⟨fun j hj=>?_,d.2⟩
 by_cases e1:j<k
 ·exact d.1 j e1
 ·obtain rfl:j=k:=by omega
  refine⟨⟨e,P.last,(Xb P.last e).Ma,(Xb P.last e).out⟩,?_,h5⟩;show(P.steps++[_])[j]?=_;rw[Tw (by omega),show j-P.steps.length=0 by omega];rfl
def au0(f:Nat->Int)(most:Nat)(w:MO)(r:Ending)(w':MO):Prop :=
 ∃g V c P,r=MN (Nv #[gP g,M3 Nw])/\XQ w w' g V c P/\abq f c/\4<=P.steps.length/\P.steps.length<=most+4/\Sd P 3
theorem awU(f:Nat->Int)(hf:∀i,i<16->(N6 ME (f i)).wf=Nw)(ds:List Dd)(hds:∀d∈ds,ajd d){pd:Option Oc}{cd:Nat}(w:MO)(hrow:Xw agP w (MG pd ds.length cd) ds)(hblk:Xo w)(most:Nat)(hm:most<=100) :
  Ni MK 4 #[agc (f 0) (f 1) (f 2) (f 3) (f 4) (f 5) (f 6) (f 7) (f 8) (f 9) (f 10) (f 11) (f 12) (f 13) (f 14) (f 15),MG pd ds.length cd,yB (most:Int)] w (au0 f most w):=by
 obtain⟨c,hc,c7⟩:=au5 f hf;obtain⟨L,hL⟩:∃L:List M7,L=[yB (f 0),yB (f 1),yB (f 2),yB (f 3),yB (f 4),yB (f 5),yB (f 6),yB (f 7),yB (f 8),yB (f 9),yB (f 10),yB (f 11),yB (f 12),yB (f 13),yB (f 14),yB (f 15)]:=⟨_,rfl⟩;have d6:L.length=16:=by rw[hL];rfl
 obtain⟨K,hK⟩:∃K:List M7,K=ac8 c:=⟨_,rfl⟩;have HC:M6 (∀W:MO,Ni MK 11 #[Ny L.toArray] W fun r w'=>r=MN (Ny K.toArray)/\yA W w'):=fun W=>by rw[hL,hK];exact c7 W
 have HB:M6 (∀W:MO,Ni MK 12 #[Ny K.toArray] W _):=fun W=>by rw[hK];exact aor c hc.ok W
 show Ni MK 4 #[Ny (List.toArray [yB (f 0),yB (f 1),yB (f 2),yB (f 3),yB (f 4),yB (f 5),yB (f 6),yB (f 7),yB (f 8),yB (f 9),yB (f 10),yB (f 11),yB (f 12),yB (f 13),yB (f 14),yB (f 15)]),MG pd ds.length cd,yB (most:Int)] w _;rw[<-hL];have y:M6 (_/\_/\_/\_/\_):=⟨d6,hc,hds,hrow,hm⟩;have HK:M6 _:=hK;obtain⟨W0,b6⟩:=yE (w.alloc (MP L.toArray 24));have e5:yA w W0:=by rw[b6];exact WQ w
 have A:M6 (_/\_):=⟨e5,hblk⟩;obtain⟨nd,a6⟩:=yE ds.length;rw[<-a6];have d5:M6 _:=a6;clear hL d6 c7 hc hf e5 hK hblk hds hrow hm a6;go_enter Tryz.func4,Tryz.ntmps4
 go_wp2_with ((with_reducible refine O3 rfl 24 (O6 3) rfl w.heap.size 0 ?gx L _ ?gc Tryz.underlying24 ?gd ?gi ?_);(case gx=>rfl);(case gc=>exact afW (M1 _ _));(case gd=>rfl);(case gi=>rw[y.out.1];exact apz))
 rw[<-b6];clear b6;refine(HC.out _).mono ?_;rintro r w1 ⟨rfl,J⟩;have a8:(w1.alloc (MP kz.toArray 36)).heap[w1.heap.size]?=MI (MP kz.toArray 36 (0,0)):=M1 _ _;obtain⟨D,T⟩:=yE ((w1.alloc (MP kz.toArray 36)).setCells w1.heap.size 0 K);have a4:K.length=16:=by rw[HK.out];rfl
 have b3:K.toArray.size=16:=(show K.toArray.size=K.length from OQ).trans a4;have f0:D.heap[w1.heap.size]?=MI (MP K.toArray 36 (0,0)):=by rw[T];exact afG a8 (by rw[a4];rfl)
 have c3:yA w1 D:=by rw[T];exact adp (WQ w1) (MV _) _ _ (by simp)
 have c6:(w1.alloc (MP kz.toArray 36)).there w1.heap.size 0 K.toArray.size:=by rw[b3];exact afH a8
 have d9:yA w D:=(A.out.1.trans (J.mono A.out.1.size)).trans (c3.mono (Nm A.out.1.size J.size));have n:M6 (_/\_/\_/\_/\_/\_):=⟨c6,b3,f0,d9,T,(show w.heap.size<=w1.heap.size from Nm A.out.1.size J.size)⟩;clear a8 T a4 b3 f0 c3 c6 d9 J
 go_wp2_with (first|((with_reducible refine OW rfl 36 (O6 8) (O6 17) rfl w1.heap.size 0 K.toArray ?sx ?sy ?st ?si ?s1 ?_);(case sx=>rfl);(case sy=>rfl);(case st=>exact n.out.1);(case si=>rw[n.out.2.1];exact ajj);(case s1=>rw[HK.out];exact avk c);rw[NS,<-n.out.2.2.2.2.1])|((with_reducible refine O3 rfl 36 (O6 8) rfl w1.heap.size 0 ?gx K _ ?gc RC ?gd ?gi ?_);(case gx=>rfl);(case gc=>exact afW n.out.2.2.1);(case gd=>rfl);(case gi=>rw[show K.length=16 from n.out.2.1];exact ajj)))
 refine(HB.out D).mono ?_;rintro r w2 ⟨U,rfl,hM,I⟩;obtain⟨M,C⟩:=yE ((XR U (Yb c)).toList);rw[show acN U (Yb c)=Ny M.toArray by rw[C]];have a5:M.length=26:=by rw[C];rfl
 have b4:M.toArray.size=26:=(show M.toArray.size=M.length from OQ).trans a5;have e8:M.toArray.all (·.oneCell')=true:=by rw[C];exact ado _ _
 have b2:(w2.alloc (MP wz.toArray 56)).heap[w2.heap.size]?=MI (MP wz.toArray 56 (0,0)):=M1 _ _;obtain⟨l,O⟩:=yE ((w2.alloc (MP wz.toArray 56)).setCells w2.heap.size 0 M);have N:l.heap[w2.heap.size]?=MI (MP M.toArray 56 (0,0)):=by rw[O];exact afG b2 (by rw[a5];rfl)
 have B:yA w2 l:=by rw[O];exact adp (WQ w2) (MV _) _ _ (by simp)
 have d4:(w2.alloc (MP wz.toArray 56)).there w2.heap.size 0 M.toArray.size:=by rw[b4];exact afH b2
 have a0:l.heap[w1.heap.size]?=MI (MP K.toArray 36 (0,0)):=WO (WO n.out.2.2.1 I) B;have Z:yA w l:=(n.out.2.2.2.1.trans (I.mono n.out.2.2.2.1.size)).trans (B.mono (Nm n.out.2.2.2.1.size I.size));obtain⟨g,G⟩:=yE l.heap.size;obtain⟨R,hR⟩:=yE (adM (adN U) c ⟨[],Yb c,[]⟩);have c5:∀X,(QA 59 #[(0,Ny K.toArray),(2,Ny M.toArray)]).run MK X=.ok (Ny R.toArray) X:=fun X=>by rw[HK.out,C,hR];exact au3 U c X
 obtain⟨z,a3⟩:=yE (l.alloc (MP R.toArray 59));have a7:yA l z:=by rw[a3];exact WQ l
 have c2:z.heap[g]?=MI (MP (adM (adN U) c ⟨[],Yb c,[]⟩).toArray 59 (0,0)):=by rw[a3,G,hR];exact M1 _ _
 have b9:yA w z:=Z.trans (a7.mono Z.size);have d7:w2.heap.size<=g:=by rw[G];exact B.size
 have c4:w.heap.size<=g:=by rw[G];exact Z.size
 have hP:WU w.heap.size z g (adN U) c ⟨[],Yb c,[]⟩:=avn c2 c4 hM (B.trans (a7.mono B.size)) d7;have H3:M6 (XQ w z g (adN U) c ⟨[],Yb c,[]⟩):=⟨hP,Rn.Ml (avq y.out.2.1.ok),b9,A.out.2.Gf (b9.block 10 A.out.2.lt),A.out.2.lt⟩;have e6:l.cell? ⟨w2.heap.size,17,MH⟩=MI (MG U.pt (Yb c).tab.length U.ct):=by rw[MW l _ 17 _ _ (0,0) N,C];rfl
 have c0:l.cell? ⟨w1.heap.size,0,MH⟩=MI (yB c.flows):=by rw[MW l _ 0 _ _ (0,0) a0,HK.out];rfl
 have l2:w2.heap.size<l.heap.size:=(ZAa.1 N).1;have l1:w1.heap.size<l.heap.size:=(ZAa.1 a0).1;have a9:((Yb c).tab.length:Int)=c.flows:=(akw y.out.2.1.ok).im.bs.tabLen;obtain⟨tl,d8⟩:=yE ((Yb c).tab.length);rw[<-d8]at e6 a9;have f3:((tl:Int) != c.flows)=false:=by rw[a9];simp
 have u:M6 (_/\_/\_/\_/\_/\_/\_/\_):=⟨d4,b4,e8,O,N,a0,c5,a3⟩;have HG:M6 _:=G;clear C a5 b4 e8 b2 O N B d4 a0 Z hR c5 a3 a7 c2 b9 d7 c4 hP hM I d8 a9 G
 go_wp2_with (first|((with_reducible refine OW rfl 56 (O6 9) (O6 21) rfl w2.heap.size 0 M.toArray ?sx ?sy ?st ?si ?s1 ?_);(case sx=>rfl);(case sy=>rfl);(case st=>exact u.out.1);(case si=>rw[u.out.2.1];exact Z0);(case s1=>exact u.out.2.2.1);rw[NS,<-u.out.2.2.2.1])|((with_reducible refine O3 rfl 36 (O6 8) rfl w1.heap.size 0 ?gx K _ ?gc RC ?gd ?gi ?_);(case gx=>rfl);(case gc=>exact afW u.out.2.2.2.2.2.1);(case gd=>rfl);(case gi=>rw[show K.length=16 from n.out.2.1];exact ajj))|((with_reducible refine O3 rfl 56 (O6 9) rfl w2.heap.size 0 ?hx M _ ?hc azZ ?hd ?hi ?_);(case hx=>rfl);(case hc=>exact afW u.out.2.2.2.2.1);(case hd=>rfl);(case hi=>rw[show M.length=26 from u.out.2.1];exact Z0))|((with_reducible refine als rfl 59 #[(0,O6 23),(2,O6 24)] rfl (Ny R.toArray) ?br ?_);(case br=>simp only[PW,OA,P5];exact u.out.2.2.2.2.2.2.1 _)))
 rw[<-u.out.2.2.2.2.2.2.2,<-HG.out];clear e6 c0 f3 n u HG HB HC l1 l2
 go_loopw [12,13] (fun i _ wr=>∃(b:Nat) (V:Pv) (P:Py),i=yB (b:Int)/\b<=3/\M6 (XQ w wr g V c P/\P.steps.length=b/\Sd P b)) (fun i _ _=>3-(intOf i).toNat)
 case atStart=>exact⟨0,_,_,rfl,by omega,⟨H3.out,rfl,fun j hj=>by omega,fun s hs=>by cases hs⟩⟩
 case round =>
  obtain⟨b,V,P,rfl,hb,q⟩:=hrel
  by_cases hlt:b<3
  ·have f4:(b:Int)<3:=by omega
   have g0:IntKind.i64.wrap (1000+(b:Int))=1000+b:=abk (by omega) (by omega);have f9:IntKind.i64.wrap (2+(b:Int))=2+b:=abk (by omega) (by omega);have v:M6 _:=q.out.1.Mf (by rw[q.out.2.1];omega) ⟨5,0,0,0,Nb,1000+b,b,2+b⟩ (anu ⟨by omega,by omega⟩ ⟨by omega,by omega⟩ ⟨by omega,by omega⟩)
   go_wp2_with fail
   refine Nd v.out ?_;rintro r w5 ⟨rfl,V5,F⟩;have H5:M6 _:=F;clear F v
   go_wp2_with fail
   go_roundw
   case rel =>
    exact⟨b+1,V5,_,by simp,by omega,⟨H5.out,by rw[ajm,q.out.2.1],q.out.2.2.Ms q.out.2.1 (by show(1000:Int)+b<2000;omega) rfl⟩⟩
   case measure=>simp[intOf];omega
  ·obtain rfl:b=3:=by omega
   have f4:¬((3:Nat):Int)<3:=by omega
   have v:M6 _:=q.out.1.Mf (by rw[q.out.2.1];omega) ⟨7,0,0,0,Nb,0,0,0⟩ anv
   go_wp2_with fail
   refine Nd v.out ?_;rintro r w5 ⟨rfl,V5,F⟩;have HT:M6 (XQ w w5 g V5 c (P.step ⟨7,0,0,0,Nb,0,0,0⟩)/\(P.step ⟨7,0,0,0,Nb,0,0,0⟩).steps.length=4/\Sd (P.step ⟨7,0,0,0,Nb,0,0,0⟩) 3):=⟨F,by rw[ajm,q.out.2.1],q.out.2.2.step (by rw[q.out.2.1];omega) (by show(0:Int)<2000;decide)⟩;obtain⟨P4,e7⟩:=yE (P.step ⟨7,0,0,0,Nb,0,0,0⟩);rw[<-e7]at HT;clear F v q e7
   go_wp2_with fail
   go_loopw [14,15] (fun k i wr=>∃(j:Nat) (V:Pv) (P:Py),k=M3 Nw/\i=yB (j:Int)/\j<=nd/\j<=most/\M6 (XQ w wr g V c P/\P.steps.length=4+j/\Sd P 3)) (fun _ i _=>nd-(intOf i).toNat)
   case atStart=>exact⟨0,_,_,rfl,rfl,Nx _,Nx _,HT⟩
   case round =>
    obtain⟨j,V,P,rfl,rfl,hj,f8,m⟩:=hrel
    by_cases hlt:j<nd
    ·have f2:(j:Int)<(nd:Int):=by omega
     by_cases hlm:j<most
     ·have f6:(j:Int)<(most:Int):=by omega
      have b7:j<ds.length:=by rw[<-d5.out];exact hlt
      obtain⟨a,f7,hv,_,e9,hp⟩:=Xw.F6 anr (y.out.2.2.2.1.below m.out.1.bel);injection hv with ha hn2 hcap;obtain⟨bo,oo,e4,f1,E⟩:=hp j b7;rw[<-ha]at e4;have d0:wr.cell? ⟨bo,oo+j*4,MH⟩=MI (yB ds[j].k):=E 0 (by omega);have d1:wr.cell? ⟨bo,oo+j*4+1,MH⟩=MI (yB ds[j].a):=E 1 (by omega);have d2:wr.cell? ⟨bo,oo+j*4+2,MH⟩=MI (yB ds[j].b):=E 2 (by omega);have d3:wr.cell? ⟨bo,oo+j*4+3,MH⟩=MI (yB ds[j].c):=E 3 (by omega);have b1:=y.out.2.2.1 _ (Nk b7);obtain⟨x,hx⟩:=yE (ds[j]);rw[<-hx]at d0 d1 d2 d3 b1;have g1:nd<=9223372036854775807:=by rw[d5.out];unfold NE at e9;omega
      have b8:P.steps.length<=1000:=by have:=y.out.2.2.2.2;rw[m.out.2.1];omega
      have HE:M6 _:=m.out.1.MD b8 x b1;have HL:M6 _:=b8;clear ha hn2 hcap E hp hx b1 b7 e9 b8 f1;subst e4
      go_wp2_with fail
      refine Nd HE.out ?_;rintro r w6 ⟨e,he,rfl,h6⟩;have v:M6 _:=h6.Mf HL.out e he.1;have f5:M6 _:=he.2;clear h6 he HE d0 d1 d2 d3
      go_wp2_with fail
      refine Nd v.out ?_;rintro r w7 ⟨rfl,V7,h7⟩;have H7:M6 _:=h7;clear h7 v
      go_wp2_with fail
      go_roundw
      case rel =>
       exact⟨j+1,V7,_,rfl,by simp,by omega,by omega,⟨H7.out,by rw[ajm,m.out.2.1];omega,m.out.2.2.step (by rw[m.out.2.1];omega) f5.out⟩⟩
      case measure=>simp[intOf];omega
     ·have f6:¬(j:Int)<(most:Int):=by omega
      go_wp2_with fail
      go_ret2
      exact⟨g,V,c,P,rfl,m.out.1,y.out.2.1,by rw[m.out.2.1];omega,by rw[m.out.2.1];omega,m.out.2.2⟩
    ·have f2:¬(j:Int)<(nd:Int):=by omega
     go_wp2_with fail
     go_ret2
     exact⟨g,V,c,P,rfl,m.out.1,y.out.2.1,by rw[m.out.2.1];omega,by rw[m.out.2.1];omega,m.out.2.2⟩
end
end Go.Proofs.YtbdpocjfnnojbaaGreatDoor.Q
