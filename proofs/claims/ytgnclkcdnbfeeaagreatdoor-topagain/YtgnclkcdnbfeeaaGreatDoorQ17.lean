/-
  Contracts of the layers and of core, part 17. Conditions: as each theorem says.
-/
import Derived.Test.YtgnclkcdnbfeeaaGreatDoorQ15
import Derived.Test.YtgnclkcdnbfeeaaGreatDoorQ16
open Array renaming getD_eq_getD_getElem?->Pg
open Bool renaming true->Nw
open Go renaming Addr->Oc,Calls->Ni,Program->O8,TypeId->NU,Value->M7,World->MO,all_oneCell_toArray->OE,bodyPost_ret->Np,cell_of_row->MW,heap_alloc_new->M1,results->Pf,undef->PL,wpAnyH_done->PS,wpAnyH_ready->NN,wpAnyH_take->ND,wpList_load_mid->O3,wp_region_held_drew->O2,yieldsIf_load_mid->Pt
open Go.Act renaming put->Nr
open Go.AllReadyH renaming cons->NP,nil->NX
open Go.Calls renaming mono->Nd
open Go.Ending renaming returned->MN
open Go.Instr renaming build->QA
open Go.IntKind renaming i64->ME
open Go.Obj renaming cells->MP
open Go.Oper renaming wp->RB
open Go.Operand renaming tmp->O6
open Go.Proofs.Tryz renaming func31->WI,func44->Tk,ntmps31->WA,ntmps44->SQ,prog->MK,underlying55->Lv
open Go.Region renaming wanted->Pz
open Go.Result renaming andThen_ok->PG
open Go.RowKit renaming Below->MQ,Hid->M6
open Go.Sem renaming run_bind->Pn,run_pure->P3
open Go.Value renaming agg->Ny,bool->M3,int->MF,pointer->Na,slice->MG,tuple->Nv
open Go.World renaming cell?_of_block->NG,frozen?->Ng,heap_setCells_other->N8
open List renaming flatten_append->PV,getElem?_append_left->OJ,getElem?_append_right->Tw,getElem_cons_succ->MT,getElem_cons_zero->MS,getElem_toArray->MZ,length_zip->Qn,map_append->OI,map_cons->OA,map_nil->P5,map_toArray->PW,mem_cons->OO,mem_singleton->PY,not_mem_nil->OD,setIfInBounds_toArray->MJ,set_cons_succ->MM,set_cons_zero->ML,size_toArray->OQ,toList_toArray->NS
open Nat renaming le_refl->MV,le_trans->Nm,lt_of_lt_of_le->M8,zero_add->Oa
open Option renaming none->MH,some->MI
open Or renaming inl->Nt,inr->NF
namespace Go.Proofs.YtgnclkcdnbfeeaaGreatDoor.Q
set_option linter.unusedVariables false
set_option linter.unusedSimpArgs false
set_option maxHeartbeats 16000000
set_option maxRecDepth 100000
open Go.RowKit
attribute [local go_sem ↓] Go.wp_at_zero Go.wp_at_succ
variable {listed:Array Bool}{ops:Array Oper}{Q:Exit->Act->MO->Prop}{w:MO}{S:MO->Prop}{T:NU}{fuel g:Nat}{o:Oper}{md:Region.Mode}
section
variable {base:Nat}{w0 w w':MO}{g:Nat}{V:Vs}{U:Us}{G:Gt}
theorem aj4{L:List M7}(h:w.heap[g]?=MI (MP L.toArray T (0,0))):w.rangeAt g 0 L:=fun j v hv=>by
 rw[Oa,MW w g j _ T (0,0) h]
 simpa using hv
theorem tk{P:O8}(i:Nat)(v:M7){oi:Oper}{a:Act}(hS:S w)
  (h:wpAnyH P md ops Q S fuel (listed.setIfInBounds i Nw) (a.put oi.dst v) w) (hi:ops[i]?=MI oi:=by rfl) (hs:Region.noSelect ops=true:=by kernel_rfl) (hf:Region.free md ops listed i=true:=by kernel_rfl) (hr:(Region.ready md ops listed).contains i=true:=by kernel_rfl)
  (hQ:∀c a w,Q (.panic c) (a.put oi.dst v) w->Q (.panic c) a w:=by exact fun _ _ _ h=>h) (hy:YieldsIf P ops S oi v a:=by exact Or.inl ⟨by rfl,fun X hSw=>by go_simp⟩):wpAnyH P md ops Q S (fuel+1) listed a w :=
 ND hi hs hf hr hQ hy hS h
theorem Z0:(Tryz.prog.info? 55).map (·.size)=MI 26:=by kernel_rfl
theorem aox(U:Us)(G:Gt)(W:MO):(QA 147 #[(0,Ny (XR U G))]).run MK W=.ok (Ny (aeL U G)) W:=by kernel_rfl
def aba(B:Nat)(w W:MO):Prop:=w.heap.size<=W.heap.size/\∀b,B<=b->b<w.heap.size->W.heap[b]?=w.heap[b]?
def ag5(w:MO)(G':Gt)(r:Ending)(w':MO):Prop :=
 ∃U' po co,r=MN (Nv #[acN U' G',MG po G'.out.length co,MF ME 0])/\(∀W,aba w.heap.size w' W->Xd W U' G'/\Xw Z1 W (MG po G'.out.length co) G'.out)/\MQ w.heap.size w w'
theorem ado(U:Us)(G:Gt):(XR U G).all (·.oneCell')=true:=by
 show(List.toArray _).all _=Nw;refine OE fun v hv=>?_
 simp only[OO,OD,or_false]at hv;rcases hv with rfl|rfl|rfl|rfl|rfl|rfl|rfl|rfl|rfl|rfl|rfl|rfl|rfl|rfl|rfl|rfl|rfl|rfl|rfl|rfl|rfl|rfl|rfl|rfl|rfl|rfl <;> rfl
theorem OR.Gq(h:OR base w g V G):w.rangeAt g 0 (XR V.us G).toList:=fun j v hv=>by
 rw[Oa];have c:j<26:=(List.getElem?_eq_some_iff.1 hv).1;have a:j=0\/j=1\/j=2\/j=3\/j=4\/j=5\/j=6\/j=7\/j=8\/j=9\/j=10\/j=11\/j=12\/j=13\/j=14\/j=15\/j=16\/j=17\/j=18\/j=19\/j=20\/j=21\/j=22\/j=23\/j=24\/j=25:=by omega
 rcases a with rfl|rfl|rfl|rfl|rfl|rfl|rfl|rfl|rfl|rfl|rfl|rfl|rfl|rfl|rfl|rfl|rfl|rfl|rfl|rfl|rfl|rfl|rfl|rfl|rfl|rfl
 ·exact h.c0.trans hv
 ·exact h.c1.trans hv
 ·exact h.c2.trans hv
 ·exact h.c3.trans hv
 ·exact h.c4.trans hv
 ·exact h.c5.trans hv
 ·exact h.c6.trans hv
 ·exact h.c7.trans hv
 ·exact h.c8.trans hv
 ·exact h.c9.trans hv
 ·exact h.Hf.trans hv
 ·exact h.Hn.trans hv
 ·exact h.Hg.trans hv
 ·exact h.GS.trans hv
 ·exact h.GU.trans hv
 ·exact h.GO.trans hv
 ·exact h.Gm.trans hv
 ·exact h.Gs.trans hv
 ·exact h.Gr.trans hv
 ·exact h.Gn.trans hv
 ·exact h.GD.trans hv
 ·exact h.GX.trans hv
 ·exact h.GI.trans hv
 ·exact h.Id.trans hv
 ·exact h.GJ.trans hv
 ·exact h.GH.trans hv
theorem als{P:O8}{rest:List Oper}{a:Act}(hgd:o.guard=MH)(T:NU)(parts:Array (Nat×Operand))
  (ho:o.op=.build T parts) (y:M7) (hr:(QA T (parts.map fun(i,x)=>(i,a.eval x))).run P w=.ok y w)
  (h:wpList P ops Q rest (a.put o.dst y) w):wpList P ops Q (o::rest) a w :=
 wpList_plain hgd fun _ hK=>by
  unfold RB execOp;simp only[ho,Pn,P3,PG,hr];exact hK _ _ h
theorem ao5(h:Xd w U G)(hwm:Wm G)(hblk:Xo w)(hout:G.out=[]) :
  Ni MK 44 #[acN U G] w fun r w'=>∃g V,r=MN (Nv #[gP g,M3 Nw])/\OR w.heap.size w' g V G/\MQ w.heap.size w w':=by
 obtain⟨L,n⟩:∃L,L=(XR U G).toList:=⟨_,rfl⟩;have l:L.toArray=XR U G:=by rw[n]
 have v:L.length=26:=by rw[n];rfl
 obtain⟨D,p⟩:∃D,D=aeL U G:=⟨_,rfl⟩;have z:∀W:MO,(QA 147 #[(0,Ny L.toArray)]).run MK W=.ok (Ny D) W:=fun W=>by rw[l,p];exact aox U G W
 show Ni MK 44 #[Ny (XR U G)] w _;rw[<-l];obtain⟨a,c⟩:∃a,a=w.alloc (MP L.toArray 55):=⟨_,rfl⟩;obtain⟨e,j⟩:∃e,e=a.alloc (MP D 147):=⟨_,rfl⟩;have i:MQ w.heap.size w a:=by rw[c];exact WQ w
 have u:a.heap[w.heap.size]?=MI (MP L.toArray 55 (0,0)):=by rw[c];exact M1 _ _
 have y:MQ a.heap.size a e:=by rw[j];exact WQ a
 have f:=i.trans (y.mono i.size);have d:e.heap[a.heap.size]?=MI (MP D 147 (0,0)):=by rw[j];exact M1 _ _
 obtain⟨g,k⟩:∃g,g=a.heap.size:=⟨_,rfl⟩;rw[<-k]at d;have q:w.heap.size<=g:=by rw[k];exact i.size
 have C:M6 (w.heap.size+1=g):=by show w.heap.size+1=g;rw[k,c];simp
 rw[p]at d;have s:RG e g U G:=⟨d,h.below f⟩;have K:M6 _:=ap4 s hwm (hblk.below f);have H:M6 (_/\_/\_/\_/\_/\_/\_/\_):=⟨h,hwm,hblk,hout,f,d,q,u⟩;have E:M6 _:=v;have J:M6 _:=z;clear z h hwm hblk hout i y f u d n l v p s q k;go_enter Tk,SQ
 go_wp2_with (first|((with_reducible refine als rfl 147 #[(0,O6 5)] rfl (Ny D) ?br ?_);(case br=>simp only[PW,OA,P5];exact J.out _))|((with_reducible refine O3 rfl 55 (O6 1) rfl w.heap.size 0 ?gx L _ ?gc Lv ?gd ?gi ?_);(case gx=>rfl);(case gc=>exact aj4 (M1 _ _));(case gd=>rfl);(case gi=>rw[E.out];exact Z0)))
 rw[<-c,<-j,C.out];clear c j;refine Nd K.out ?_;rintro r F ⟨rfl,m⟩;have x:Og w F g U G:=⟨WO H.out.2.2.2.2.2.1 m,H.out.2.2.2.2.1.trans (m.mono H.out.2.2.2.2.1.size),H.out.2.2.2.2.2.2.1⟩;have I:M6 _:=aqh H.out.1 x H.out.2.1 H.out.2.2.1 H.out.2.2.2.1;clear m x
 go_wp2_with fail
 refine Nd I.out ?_;rintro r M ⟨rfl,V,B,t⟩;have A:M6 (_/\_):=⟨B,t⟩;clear B t;go_wp2
 go_ret2
 exact⟨g,V,rfl,A.out.1,A.out.2⟩
theorem OR.Iz(h:OR base w g V G)(hk:aba base w w'):Xd w' V.us G:=by
 have r:=h.rest;have a:∀b,b<w.heap.size->¬V.off base g b->w'.heap[b]?=w.heap[b]?:=fun b q1 q2=>hk.2 b (by
  by_cases e:base<=b
  ·exact e
  ·exact absurd (NF (by omega)) q2) q1
 obtain⟨k,c,n,f⟩:=r.whl;exact⟨r.tab w' hk.1 a,abw (W8 r.fls fun b e=>hk.2 b (r.fls.lt b e).1 (r.fls.lt b e).2),r.book w' hk.1 a,r.ring w' hk.1 a,⟨k,c,n,f w' hk.1 a⟩,by
  have j:(V.ms.zip G.hea).length=12:=by rw[Qn,r.msl,r.hel];rfl
  have d:=W8 r.hea fun b e=>hk.2 b (r.hea.lt b e).1 (r.hea.lt b e).2
  exact abw (l:=V.ms.zip G.hea) (by rw[j];exact d),r.msl,r.hel,fun i m x e1 e2=>r.marks i m x e1 e2 w' hk.1 a⟩
theorem OR.Iy(h:OR base w g V G)(hk:aba base w w'):Xw Z1 w' (MG V.po G.out.length V.co) G.out :=
 abw (W8 h.rest.out fun b e=>hk.2 b (h.rest.out.lt b e).1 (h.rest.out.lt b e).2)
theorem afX{P:O8}{a:Act}{i:Nat}(ho:ops[i]?=MI o)(hg:o.guard=MH)(ty:NU)(x y:Operand)(hop:o.op=.store ty x y)
  (b off:Nat) (cells:Array M7) (hx:a.eval x=Na (MI ⟨b,off,MH⟩)) (hy:a.eval y=Ny cells) (ht:w.there b off cells.size) (hi:(P.info? ty).map (·.size)=MI cells.size) (h1:cells.all (·.oneCell')=Nw) (hS:S (w.setCells b off cells.toList))
  (h:wpAnyH P md ops Q S fuel (listed.setIfInBounds i Nw) (a.put o.dst PL) (w.setCells b off cells.toList)):AllReadyH P md ops Q S fuel listed a w [i]:=by
 refine NP ho (fun K hK=>?_) NX;rw[Nh (by unfold Pz;rw[hg])];exact wp_store_mid ty x y hop b off cells hx hy ht hi h1 (hK.out _ _ hS (fun _=>h))
theorem acK{P:O8}{a:Act}{i:Nat}(ho:ops[i]?=MI o)(hg:o.guard=MH)(x:Operand)(hop:o.op=.assign x)(v:M7)(hx:a.eval x=v)(hS:S w)
  (h:wpAnyH P md ops Q S fuel (listed.setIfInBounds i Nw) (a.put o.dst v) w):AllReadyH P md ops Q S fuel listed a w [i]:=by
 refine NP ho (fun K hK=>?_) NX;rw[Nh (by unfold Pz;rw[hg])];unfold RB execOp;simp only[hop,hx,Pn,P3,PG];exact hK.out _ _ hS (fun _=>h)
theorem aeH{e:Ev}(h:Yk e=0):XZ e:=by
 obtain⟨k,f,slot,d,good,c,i,wt⟩:=e;unfold Yk at h;rcases afx k with⟨_,a⟩|rfl|rfl|rfl|rfl|rfl|rfl|rfl
 ·simp[a]at h
 all_goals
  simp[Zz,Ev.GZ,Ev.num,Ev.GE,Ev.Gc,Ev.Gd,Ev.Hi]at h;constructor <;> simp <;> omega
theorem akY{fn:Func}{x y z:Tmp}{t:NU}(h:fn.results=#[.cell x t,.tmp y,.tmp z]){tmps:Array M7}{P:O8}{p:Oc}{v1 v2 v3:M7}(hx:tmps.getD x PL=Na (MI p))(hy:tmps.getD y PL=v2)(hz:tmps.getD z PL=v3)
  (h1:(loadVar t p).run P w=.ok v1 w):(Pf fn tmps).run P w=.ok (Nv #[v1,v2,v3]) w:=by
 have c:∀a:Oc,(asAddr (Na (MI a))).run P w=.ok a w:=fun a=>rfl
 simp only[Pg]at hx hy hz;simp[Pf,h,hx,hy,hz,c,h1,Pn]
theorem akJ{P:O8}{cs:List M7}{d:TypeDesc}(h:w.heap[g]?=MI (MP cs.toArray T (0,0)))(hu:P.underlying T=MI d)(hd:d.isRow=Nw)(hi:(P.info? T).map (·.size)=MI cs.length):(loadVar T ⟨g,0,MH⟩).run P w=.ok (Ny cs.toArray) w :=
 run_loadVar_mid w g 0 T cs d (fun j v hv=>by rw[Oa,MW w g j _ T (0,0) h];simpa using hv) hu hd hi
theorem afG{vs old:List M7}(h:w.heap[g]?=MI (MP old.toArray T (0,0)))(hl:old.length=vs.length):(w.setCells g 0 vs).heap[g]?=MI (MP vs.toArray T (0,0)):=by
 have:=ac0 T g vs [] old w hl (by simpa using h)
 simpa using this
theorem afH{old:List M7}(h:w.heap[g]?=MI (MP old.toArray T (0,0))):w.there g 0 old.length:=fun j hj=>by
 refine⟨?_,by simp[Ng,h]⟩;rw[Oa,MW w g j _ T (0,0) h];simp[hj]
abbrev wz:List Value:=[MF ME 0,MF ME 0,MF ME 0,MF ME 0,MF ME 0,MF ME 0,MF ME 0,MF ME 0,MF ME 0,MF ME 0,MF ME 0,MF ME 0,MF ME 0,MF ME 0,MF ME 0,MF ME 0,MF ME 0,MG MH 0 0,MG MH 0 0,MG MH 0 0,MG MH 0 0,MG MH 0 0,MG MH 0 0,MF ME 0,MF ME 0,MG MH 0 0]
theorem akh(h:Xd w U G)(hwm:Wm G)(hblk:Xo w)(hout:G.out=[])(e:Ev)(hf:Yk e=0)(hn:e.kind=7->G.now+1<=1099511626776) :
  Ni MK 31 #[acN U G,acH e] w (ag5 w (Xb G e)):=by
 obtain⟨L,hL⟩:∃L,L=(XR U G).toList:=⟨_,rfl⟩;have d0:L.toArray=XR U G:=by rw[hL]
 have e0:L.length=26:=by rw[hL];rfl
 show Ni MK 31 #[Ny (XR U G),acH e] w _;rw[<-d0];obtain⟨Z,hZ⟩:∃Z,Z=wz:=⟨_,rfl⟩;obtain⟨p,a4⟩:∃p,p=((w.alloc (MP L.toArray 55)).alloc (aaE e)).alloc (MP Z.toArray 55):=⟨_,rfl⟩;have hx:=acu w (MP L.toArray 55) (aaE e);obtain⟨X,hX⟩:∃X,X=(w.alloc (MP L.toArray 55)).alloc (aaE e):=⟨_,rfl⟩;rw[<-hX]at hx;rw[<-hX]at a4;obtain⟨b1,b4,hB,d8⟩:=hx;have b3:MQ X.heap.size X p:=by rw[a4];exact WQ X
 have b0:MQ w.heap.size w p:=hB.trans (b3.mono hB.size);replace b1:=WO b1 b3;replace b4:=WO b4 b3;have b5:p.heap[X.heap.size]?=MI (MP Z.toArray 55 (0,0)):=by rw[a4];exact M1 _ _
 have d3:X.heap.size<p.heap.size:=(Array.getElem?_eq_some_iff.1 b5).1;obtain⟨f,B⟩:∃f,f=X.heap.size:=⟨_,rfl⟩;have d6:w.heap.size+1+1=f:=by rw[B,d8]
 rw[<-B]at b5 d3;have F:=ao5 (h.below b0) hwm (hblk.below b0) hout;replace F:Ni MK 44 #[Ny (XR U G)] p _:=F;rw[<-d0]at F;replace F:M6 _:=F;have d9:w.heap.size<=f:=by omega
 have H:M6 (_/\_/\_/\_/\_/\_/\_/\_/\_/\_):=⟨hwm,hout,hf,hn,b0,b1,b4,b5,d3,d9⟩;have HI:M6 _:=e0;have N:M6 _:=hZ;have K:M6 (_/\_/\_):=⟨hX,a4,d6⟩;clear h hwm hblk hout hf hn hB b3 b0 b1 b4 b5 d3 d8 hL d0 e0 hX a4 B d6 d9 hZ;go_enter WI,WA
 go_wp2_with ((with_reducible refine O3 rfl 55 (O6 2) rfl w.heap.size 0 ?gx L _ ?gc Lv ?gd ?gi ?_);(case gx=>rfl);(case gc=>first|(rw[show(#[MF ME 0,MF ME 0,MF ME 0,MF ME 0,MF ME 0,MF ME 0,MF ME 0,MF ME 0,MF ME 0,MF ME 0,MF ME 0,MF ME 0,MF ME 0,MF ME 0,MF ME 0,MF ME 0,MF ME 0,MG MH 0 0,MG MH 0 0,MG MH 0 0,MG MH 0 0,MG MH 0 0,MG MH 0 0,MF ME 0,MF ME 0,MG MH 0 0]:Array M7)=wz.toArray from rfl,<-N.out,<-K.out.1,<-K.out.2.1];exact aj4 H.out.2.2.2.2.2.1));(case gd=>rfl);(case gi=>rw[HI.out];exact Z0))
 rw[show(#[MF ME 0,MF ME 0,MF ME 0,MF ME 0,MF ME 0,MF ME 0,MF ME 0,MF ME 0,MF ME 0,MF ME 0,MF ME 0,MF ME 0,MF ME 0,MF ME 0,MF ME 0,MF ME 0,MF ME 0,MG MH 0 0,MG MH 0 0,MG MH 0 0,MG MH 0 0,MG MH 0 0,MG MH 0 0,MF ME 0,MF ME 0,MG MH 0 0]:Array M7)=wz.toArray from rfl,<-N.out,<-K.out.1,<-K.out.2.1,K.out.2.2];clear K;refine Nd F.out ?_;rintro r w1 ⟨g,V,rfl,d7,d2⟩;obtain⟨k0,k1,k2,k3,k4,k5,k6,k7,e6⟩:=abP (WO H.out.2.2.2.2.2.2.1 d2);have HC:=awv e w1;rw[H.out.2.2.1]at HC;replace HC:M6 _:=HC;have H1:M6 (_/\_):=⟨d7,d2⟩;clear d7 d2 F
 go_wp2_with fail
 refine Nd HC.out ?_;rintro r w2 ⟨rfl,B⟩;have b9:=H1.out.2.trans (B.mono H1.out.2.size);have a8:=H1.out.1.below B;obtain⟨j0,j1,j2,j3,j4,j5,j6,j7,e4⟩:=abP (WO H.out.2.2.2.2.2.2.1 b9);have e3:=a8.Gm;have e5:=a8.lt;have HT:M6 _:=aqR a8 H.out.1 (aeH H.out.2.2.1) H.out.2.2.2.1 (by rw[H.out.2.1];simp);have H2:M6 (_/\_):=⟨a8,b9⟩;clear a8 b9 B HC k0 k1 k2 k3 k4 k5 k6 k7 e6;have b6:e.kind=7->(G.now == 1099511626776)=false:=fun h7=>beq_eq_false_iff_ne.2 (by have:=H.out.2.2.2.1 h7;omega)
 by_cases h7:e.kind=7
 ·have q:(e.kind == 7)=true:=by rw[h7];rfl
  have l:=b6 h7;clear b6 h7
  go_wp2_with fail
  refine Nd HT.out ?_;rintro r d ⟨rfl,a,j,_,a7⟩;obtain⟨T,J⟩:∃T,T=Xb G e:=⟨_,rfl⟩;rw[<-J]at j;have D:=H2.out.2.trans (a7.IT H2.out.1);have y:=(D.block f H.out.2.2.2.2.2.2.2.2.1).trans H.out.2.2.2.2.2.2.2.1;obtain⟨M,s⟩:∃M,M=(XR a.us T).toList:=⟨_,rfl⟩;have C:M.toArray=XR a.us T:=by rw[s]
  have m:M.length=26:=by rw[s];rfl
  have b7:M.toArray.all (·.oneCell')=true:=by rw[C];exact ado _ _
  have E:d.drew.rangeAt g 0 M:=by rw[s];exact j.GY.Gq
  have u:=j.GY.Ip;have P:=j.lt;have d5:d.drew.there f 0 M.toArray.size:=by
   have h1:d.drew.heap[f]?=MI (MP Z.toArray 55 (0,0)):=y;have h2:=afH h1;rw[OQ,m];rw[N.out]at h2;exact h2
  obtain⟨c,k⟩:∃c,c=d.drew.setCells f 0 M:=⟨_,rfl⟩;have a3:c.heap[f]?=MI (MP M.toArray 55 (0,0)):=by
   rw[k];exact afG (old:=Z) y (by rw[m,N.out];rfl)
  have n:∀b,b<d.heap.size->b≠f->c.heap[b]?=d.heap[b]?:=fun b q l=>by rw[k];exact N8 d.drew _ _ _ q l
  have z:d.heap.size<=c.heap.size:=by rw[k,ac3];exact MV _
  have b8:=H.out.2.2.2.2.2.2.2.2.1;have x:∀Y,aba w.heap.size c Y->aba p.heap.size d Y:=fun Y hY=>⟨Nm z hY.1,fun b q l=>(hY.2 b (Nm H.out.2.2.2.2.1.size q) (M8 l z)).trans (n b l (by omega))⟩
  have a9:∀Y,aba w.heap.size c Y->Xd Y a.us T/\Xw Z1 Y (MG a.po T.out.length a.co) T.out:=fun Y hY=>⟨j.Iz (x Y hY),j.Iy (x Y hY)⟩
  have O:MQ w.heap.size w c:=by
   rw[k];have hq:=H.out.2.2.2.2.1.trans (D.mono H.out.2.2.2.2.1.size);exact adF hq.drew H.out.2.2.2.2.2.2.2.2.2 _ _ hq.size
  have a1:g≠f:=by have:=j.rest.low;have:=H.out.2.2.2.2.2.2.2.2.1;omega
  have a0:c.rangeAt g 0 M:=fun jj v hv=>(NG (n g P a1)).trans (E jj v hv)
  have R:c.cell? ⟨g,26,MH⟩=MI (MG a.po T.out.length a.co):=(NG (n g P a1)).trans u;have a2:M6 (d.drew.rangeAt g 0 M/\d.drew.cell? ⟨g,26,MH⟩=MI (MG a.po T.out.length a.co)):=⟨E,u⟩;have a5:M6 (c.rangeAt g 0 M/\c.cell? ⟨g,26,MH⟩=MI (MG a.po T.out.length a.co)):=⟨a0,R⟩;have t:M6 (_/\_/\_/\_):=⟨a9,O,a3,C⟩;have I:M6 _:=m;have d1:M6 _:=J;clear j a7 D y s C m E u n z x b8 a9 O a0 R a3 J;clear j0 j1 j2 j3 j4 j5 j6 j7 e4 e3 e5
  go_wp2_with fail
  obtain⟨S,hS,d4,A⟩:∃S:MO->Prop,(∀X,S X->X.rangeAt g 0 M/\X.cell? ⟨g,26,MH⟩=MI (MG a.po T.out.length a.co))/\S d.drew/\S c:=⟨fun X=>X.rangeAt g 0 M/\X.cell? ⟨g,26,MH⟩=MI (MG a.po T.out.length a.co),fun _ h=>h,a2.out,a5.out⟩;have a6:M6 _:=hS;clear hS a2 a5;refine O2 (S:=S) (by kernel_rfl) d4 (fun hHeld=>?_);refine tk 0 (gP g) hHeld ?_;simp only[Nr,MZ,MT,MS,MJ,ML,MM];refine tk 1 (gP g) hHeld ?_;simp only[Nr,MZ,MT,MS,MJ,ML,MM];refine tk 2 (Na (MI ⟨g,0,MH⟩)) hHeld ?_;simp only[Nr,MZ,MT,MS,MJ,ML,MM];refine tk 3 (Ny M.toArray) hHeld ?_ (hy:=(Pt (by rfl) 55 (O6 41) rfl g 0 rfl M _ (fun _ h=>(a6.out _ h).1) Lv rfl (by rw[I.out];exact Z0)));simp only[Nr,MZ,MT,MS,MJ,ML,MM];refine tk 4 (gP g) hHeld ?_;simp only[Nr,MZ,MT,MS,MJ,ML,MM];refine tk 5 (gP g) hHeld ?_;simp only[Nr,MZ,MT,MS,MJ,ML,MM];refine tk 6 (Na (MI ⟨g,26,MH⟩)) hHeld ?_;simp only[Nr,MZ,MT,MS,MJ,ML,MM];refine tk 7 (MG a.po T.out.length a.co) hHeld ?_ (hy:=(Nt ⟨by rfl,fun X hSw=>by have s1:=(a6.out X hSw).2;go_simp⟩));simp only[Nr,MZ,MT,MS,MJ,ML,MM];refine NN (rs:=[8]) (by kernel_rfl) (by simp) ?_;refine afX (i:=8) (o:=_) (by rfl) (by rfl) 55 (O6 4) (O6 42) (by rfl) f 0 M.toArray (by rfl) (by rfl) d5 (by rw[OQ,I.out];exact Z0) b7 (by rw[NS,<-k];exact A) ?_;rw[NS,<-k]
  try simp only[Nr,MZ,MT,MS,MJ,ML,MM]
  refine NN (rs:=[9]) (by kernel_rfl) (by simp) ?_;refine acK (i:=9) (o:=_) (by rfl) (by rfl) (O6 46) (by rfl) (MG a.po T.out.length a.co) (by rfl) A ?_
  try simp only[Nr,MZ,MT,MS,MJ,ML,MM]
  refine NN (rs:=[10]) (by kernel_rfl) (by simp) ?_;refine acK (i:=10) (o:=_) (by rfl) (by rfl) (.const (MF ME 0)) (by rfl) (MF ME 0) (by rfl) A ?_
  try simp only[Nr,MZ,MT,MS,MJ,ML,MM]
  refine PS (by kernel_rfl) ?_ _;go_wp2;refine Np (v:=Nv #[Ny M.toArray,MG a.po T.out.length a.co,MF ME 0]) (akY Tryz.results31 rfl rfl rfl (akJ t.out.2.2.1 Lv rfl (by rw[I.out];exact Z0))) rfl ?_;show ag5 w (Xb G e) _ _;rw[<-d1.out];exact⟨a.us,a.po,a.co,by rw[t.out.2.2.2],t.out.1,t.out.2.1⟩
 ·have q:(e.kind == 7)=false:=beq_eq_false_iff_ne.2 h7
  clear b6 h7
  go_wp2_with fail
  refine Nd HT.out ?_;rintro r d ⟨rfl,a,j,_,a7⟩;obtain⟨T,J⟩:∃T,T=Xb G e:=⟨_,rfl⟩;rw[<-J]at j;have D:=H2.out.2.trans (a7.IT H2.out.1);have y:=(D.block f H.out.2.2.2.2.2.2.2.2.1).trans H.out.2.2.2.2.2.2.2.1;obtain⟨M,s⟩:∃M,M=(XR a.us T).toList:=⟨_,rfl⟩;have C:M.toArray=XR a.us T:=by rw[s]
  have m:M.length=26:=by rw[s];rfl
  have b7:M.toArray.all (·.oneCell')=true:=by rw[C];exact ado _ _
  have E:d.drew.rangeAt g 0 M:=by rw[s];exact j.GY.Gq
  have u:=j.GY.Ip;have P:=j.lt;have d5:d.drew.there f 0 M.toArray.size:=by
   have h1:d.drew.heap[f]?=MI (MP Z.toArray 55 (0,0)):=y;have h2:=afH h1;rw[OQ,m];rw[N.out]at h2;exact h2
  obtain⟨c,k⟩:∃c,c=d.drew.setCells f 0 M:=⟨_,rfl⟩;have a3:c.heap[f]?=MI (MP M.toArray 55 (0,0)):=by
   rw[k];exact afG (old:=Z) y (by rw[m,N.out];rfl)
  have n:∀b,b<d.heap.size->b≠f->c.heap[b]?=d.heap[b]?:=fun b q l=>by rw[k];exact N8 d.drew _ _ _ q l
  have z:d.heap.size<=c.heap.size:=by rw[k,ac3];exact MV _
  have b8:=H.out.2.2.2.2.2.2.2.2.1;have x:∀Y,aba w.heap.size c Y->aba p.heap.size d Y:=fun Y hY=>⟨Nm z hY.1,fun b q l=>(hY.2 b (Nm H.out.2.2.2.2.1.size q) (M8 l z)).trans (n b l (by omega))⟩
  have a9:∀Y,aba w.heap.size c Y->Xd Y a.us T/\Xw Z1 Y (MG a.po T.out.length a.co) T.out:=fun Y hY=>⟨j.Iz (x Y hY),j.Iy (x Y hY)⟩
  have O:MQ w.heap.size w c:=by
   rw[k];have hq:=H.out.2.2.2.2.1.trans (D.mono H.out.2.2.2.2.1.size);exact adF hq.drew H.out.2.2.2.2.2.2.2.2.2 _ _ hq.size
  have a1:g≠f:=by have:=j.rest.low;have:=H.out.2.2.2.2.2.2.2.2.1;omega
  have a0:c.rangeAt g 0 M:=fun jj v hv=>(NG (n g P a1)).trans (E jj v hv)
  have R:c.cell? ⟨g,26,MH⟩=MI (MG a.po T.out.length a.co):=(NG (n g P a1)).trans u;have a2:M6 (d.drew.rangeAt g 0 M/\d.drew.cell? ⟨g,26,MH⟩=MI (MG a.po T.out.length a.co)):=⟨E,u⟩;have a5:M6 (c.rangeAt g 0 M/\c.cell? ⟨g,26,MH⟩=MI (MG a.po T.out.length a.co)):=⟨a0,R⟩;have t:M6 (_/\_/\_/\_):=⟨a9,O,a3,C⟩;have I:M6 _:=m;have d1:M6 _:=J;clear j a7 D y s C m E u n z x b8 a9 O a0 R a3 J;clear j0 j1 j2 j3 j4 j5 j6 j7 e4 e3 e5
  go_wp2_with fail
  obtain⟨S,hS,d4,A⟩:∃S:MO->Prop,(∀X,S X->X.rangeAt g 0 M/\X.cell? ⟨g,26,MH⟩=MI (MG a.po T.out.length a.co))/\S d.drew/\S c:=⟨fun X=>X.rangeAt g 0 M/\X.cell? ⟨g,26,MH⟩=MI (MG a.po T.out.length a.co),fun _ h=>h,a2.out,a5.out⟩;have a6:M6 _:=hS;clear hS a2 a5;refine O2 (S:=S) (by kernel_rfl) d4 (fun hHeld=>?_);refine tk 0 (gP g) hHeld ?_;simp only[Nr,MZ,MT,MS,MJ,ML,MM];refine tk 1 (gP g) hHeld ?_;simp only[Nr,MZ,MT,MS,MJ,ML,MM];refine tk 2 (Na (MI ⟨g,0,MH⟩)) hHeld ?_;simp only[Nr,MZ,MT,MS,MJ,ML,MM];refine tk 3 (Ny M.toArray) hHeld ?_ (hy:=(Pt (by rfl) 55 (O6 41) rfl g 0 rfl M _ (fun _ h=>(a6.out _ h).1) Lv rfl (by rw[I.out];exact Z0)));simp only[Nr,MZ,MT,MS,MJ,ML,MM];refine tk 4 (gP g) hHeld ?_;simp only[Nr,MZ,MT,MS,MJ,ML,MM];refine tk 5 (gP g) hHeld ?_;simp only[Nr,MZ,MT,MS,MJ,ML,MM];refine tk 6 (Na (MI ⟨g,26,MH⟩)) hHeld ?_;simp only[Nr,MZ,MT,MS,MJ,ML,MM];refine tk 7 (MG a.po T.out.length a.co) hHeld ?_ (hy:=(Nt ⟨by rfl,fun X hSw=>by have s1:=(a6.out X hSw).2;go_simp⟩));simp only[Nr,MZ,MT,MS,MJ,ML,MM];refine NN (rs:=[8]) (by kernel_rfl) (by simp) ?_;refine afX (i:=8) (o:=_) (by rfl) (by rfl) 55 (O6 4) (O6 42) (by rfl) f 0 M.toArray (by rfl) (by rfl) d5 (by rw[OQ,I.out];exact Z0) b7 (by rw[NS,<-k];exact A) ?_;rw[NS,<-k]
  try simp only[Nr,MZ,MT,MS,MJ,ML,MM]
  refine NN (rs:=[9]) (by kernel_rfl) (by simp) ?_;refine acK (i:=9) (o:=_) (by rfl) (by rfl) (O6 46) (by rfl) (MG a.po T.out.length a.co) (by rfl) A ?_
  try simp only[Nr,MZ,MT,MS,MJ,ML,MM]
  refine NN (rs:=[10]) (by kernel_rfl) (by simp) ?_;refine acK (i:=10) (o:=_) (by rfl) (by rfl) (.const (MF ME 0)) (by rfl) (MF ME 0) (by rfl) A ?_
  try simp only[Nr,MZ,MT,MS,MJ,ML,MM]
  refine PS (by kernel_rfl) ?_ _;go_wp2;refine Np (v:=Nv #[Ny M.toArray,MG a.po T.out.length a.co,MF ME 0]) (akY Tryz.results31 rfl rfl rfl (akJ t.out.2.2.1 Lv rfl (by rw[I.out];exact Z0))) rfl ?_;show ag5 w (Xb G e) _ _;rw[<-d1.out];exact⟨a.us,a.po,a.co,by rw[t.out.2.2.2],t.out.1,t.out.2.1⟩
end
def Sm(G G':Gt):Prop:=G'.cfg=G.cfg/\G'.now=G.now
section
variable {G:Gt}
theorem Sm.Gy(G:Gt):Sm G G:=⟨rfl,rfl⟩
theorem Sm.F0{A B C:Gt}(h:Sm A B)(k:Sm B C):Sm A C:=⟨k.1.trans h.1,k.2.trans h.2⟩
theorem aeO{α:Type}{f:Gt->α->Gt}(h:∀G x,Sm G (f G x)):∀(l:List α) (G:Gt),Sm G (l.foldl f G)
 | [],G=>Sm.Gy G
 |x::l,G=>(h G x).F0 (aeO h l (f G x))
theorem ahJ(G:Gt)(b:Int):Sm G (Yf G b):=by
 unfold Yf
 split
 ·exact⟨rfl,rfl⟩
 ·exact Sm.Gy G
theorem aeN(G:Gt)(f:Fl)(k y:Int):Sm G (Yg G f k y):=by
 unfold Yg;exact Sm.F0 (B:=ZM {G with tab:=(ZQ G.tab f.slot f.gen).1,fls:=Yl G.fls f.slot f.gen,tms:=fun t=>G.tms t/\t.2≠f.slot} ⟨k,f.slot,f.gen,f.be,0,0,y⟩) ⟨rfl,rfl⟩ (ahJ _ _)
theorem aqL(G:Gt)(i:Nat)(b:Int):Sm G (ZL G i b):=by
 unfold ZL;simp only[];refine Sm.F0 ?_ (ahJ _ _);exact⟨rfl,rfl⟩
theorem ald(G:Gt)(i:Nat)(y:Int):Sm G (YP G i y):=by
 unfold YP;simp only[]
 split
 ·exact Sm.F0 (B:=Yh G (Xs G i).be Nw) ⟨rfl,rfl⟩ (aeN _ _ _ _)
 ·split
  ·exact Sm.F0 (B:=Yh G (Xs G i).be Nw) ⟨rfl,rfl⟩ (aeN _ _ _ _)
  ·exact Sm.F0 (B:={Yh G (Xs G i).be Nw with tok:=(Zh G.cfg.bn G.cfg.bd G.cfg.bb G.tok).1}) ⟨rfl,rfl⟩ (aqL _ _ _)
theorem aqM(G:Gt)(i:Nat):Sm G (abh G i):=⟨rfl,rfl⟩
theorem aqG(G:Gt)(i:Nat):Sm G (aaZ G i):=by
 unfold aaZ;simp only[]
 split
 ·exact⟨rfl,rfl⟩
 ·exact⟨rfl,rfl⟩
theorem aqJ(G:Gt)(k:Int):Sm G (aaI G k):=by
 unfold aaI
 split
 ·exact⟨rfl,rfl⟩
 ·simp only[]
  split
  ·exact⟨rfl,rfl⟩
  ·exact⟨rfl,rfl⟩
theorem aqI(G:Gt)(e:Ev):Sm G (aaq G e):=by
 unfold aaq;simp only[]
 split
 ·exact⟨rfl,rfl⟩
 ·split
  ·exact aeN _ _ _ _
  ·split
   ·exact aqG _ _
   ·split
    ·exact⟨rfl,rfl⟩
    ·split
     ·exact aqM _ _
     ·exact ald _ _ _
theorem aqK(G:Gt)(e:Ev):Sm G (abg G e):=by
 unfold abg
 split
 ·exact⟨rfl,rfl⟩
 ·split
  ·exact⟨rfl,rfl⟩
  ·exact Sm.F0 (B:={Yv G 2 e with wts:=G.wts.set e.be.toNat 0}) ⟨rfl,rfl⟩ (ahJ _ _)
theorem aqN(G:Gt):Sm G (YH G):=by
 unfold YH;exact Sm.F0 (B:={G with liv:=(abn G.liv G.req G.now).1.1,req:=(abn G.liv G.req G.now).1.2}) ⟨rfl,rfl⟩ (aeO (f:=YX) (fun _ _=>⟨rfl,rfl⟩) _ _)
theorem aqH(G:Gt):Sm G (Zs G):=by
 unfold Zs;refine Sm.F0 (B:={G with wnow:=G.wnow+1,tms:=fun t=>G.tms t/\t.1≠G.wnow+1}) ⟨rfl,rfl⟩ (aeO (fun G s=>?_) _ _);unfold X5;simp only[]
 split
 ·exact aeN _ _ _ _
 ·exact ald _ _ _
theorem aqF(G:Gt):Sm G (acG G):=by
 unfold acG;refine aeO (fun G l=>?_) _ _;unfold Zd
 split
 ·exact Sm.Gy _
 ·exact aeO (fun G h=>aeN _ _ _ _) _ _
theorem aqW(G:Gt):(abj G).cfg=G.cfg/\(abj G).now=G.now+1:=by
 unfold abj;have d:=aqN {G with now:=G.now+1};have e:Sm (YH {G with now:=G.now+1}) (aaC (YH {G with now:=G.now+1})):=⟨rfl,rfl⟩;have c:=aqH (aaC (YH {G with now:=G.now+1}));have a:=aqF (Zs (aaC (YH {G with now:=G.now+1})));exact((d.F0 e).F0 c).F0 a
theorem alh(G:Gt)(e:Ev):(Xb G e).cfg=G.cfg/\(Xb G e).now=if e.kind=7 then G.now+1 else G.now:=by
 unfold Xb
 split
 ·rename_i h
  rw[Nf (by omega)];exact aqJ _ _
 ·split
  ·rename_i h
   rw[Nf (by omega)];exact⟨rfl,rfl⟩
  ·split
   ·rename_i h
    rw[Nf (by omega)];exact aqK _ _
   ·split
    ·exact aqW G
    ·exact aqI _ _
end
structure Dd where
 k:Int
 a:Int
 b:Int
 c:Int
structure Sp where
 ev:Ev
 bef:Gt
 aft:Gt
 out:List Ou
structure Py where
 steps:List Sp
 last:Gt
 giv:List (Int×Int)
def Gt.Ma(G:Gt):Gt:={G with out:=[]}
def Zi(l:List Ou):List (Int×Int):=(l.filter fun o=>o.kind == 1).map fun o=>(o.slot,o.gen)
def Py.step(P:Py)(e:Ev):Py :=
 ⟨P.steps++[⟨e,P.last,(Xb P.last e).Ma,(Xb P.last e).out⟩],(Xb P.last e).Ma,P.giv++Zi (Xb P.last e).out⟩
section
variable {G:Gt}
theorem Wm.Ma(h:Wm G):Wm G.Ma:=h.Jh []
theorem Xd.Ma{U:Us}(h:Xd w U G):Xd w U G.Ma:=⟨h.tab,h.fls,h.book,h.ring,h.whl,h.hea,h.msl,h.hel,h.marks⟩
end
structure aaB(c:Cf)(s:Sp):Prop where
 out0:s.bef.out=[]
 wm:Wm s.bef
 cfg:s.bef.cfg=c
 ev:Yk s.ev=0
 aft:s.aft=(Xb s.bef s.ev).Ma
 out:s.out=(Xb s.bef s.ev).out
 late:s.ev.kind=7->s.bef.now+1<=1099511626776
structure XU(c:Cf)(P:Py):Prop where
 wm:Wm P.last
 out:P.last.out=[]
 cfg:P.last.cfg=c
 now:P.last.now<=P.steps.length
 chain:∀s∈P.steps,aaB c s
 next:∀(i:Nat) (s t:Sp),P.steps[i]?=MI s->P.steps[i+1]?=MI t->t.bef=s.aft
 tail:∀s,P.steps[P.steps.length-1]?=MI s->P.last=s.aft
 giv:P.giv=(P.steps.map fun s=>Zi s.out).flatten
theorem XU.step{c:Cf}{P:Py}(h:XU c P){e:Ev}(he:Yk e=0)(hl:P.steps.length<=1000000):XU c (P.step e):=by
 have p:=h.now;have k:e.kind=7->P.last.now+1<=1099511626776:=fun _=>by omega
 have l:=alh P.last e;obtain⟨z,f⟩:∃z:Sp,z=⟨e,P.last,(Xb P.last e).Ma,(Xb P.last e).out⟩:=⟨_,rfl⟩;have d:(P.step e).steps=P.steps++[z]:=by rw[f];rfl
 have j:(P.steps++[z]).length=P.steps.length+1:=by simp
 refine⟨(h.wm.Mm (aeH he) k).Ma,rfl,l.1.trans h.cfg,?_,fun s a=>?_,fun i s t hi hj=>?_,fun s a=>?_,?_⟩
 ·rw[d,j]
  show(Xb P.last e).now<=_;rw[l.2]
  split <;> omega
 ·rw[d]at a
  rcases List.mem_append.1 a with a|a
  ·exact h.chain s a
  ·rw[PY]at a
   subst a;subst f;exact⟨h.out,h.wm,h.cfg,he,rfl,rfl,k⟩
 ·rw[d]at hi hj
  have n:i+1<P.steps.length+1:=by rw[<-j];exact(List.getElem?_eq_some_iff.1 hj).1
  rw[OJ (by omega)]at hi
  by_cases hlt:i+1<P.steps.length
  ·rw[OJ hlt]at hj
   exact h.next i s t hi hj
  ·have m:P.steps.length=i+1:=by omega
   rw[Tw (by omega),m,Nat.sub_self]at hj;cases hj;rw[f];exact h.tail s (by rw[m];exact hi)
 ·rw[d,j,Tw (by omega)]at a
  rw[show P.steps.length+1-1-P.steps.length=0 by omega]at a;cases a;rw[f];rfl
 ·rw[d,OI,PV,<-h.giv,f]
  simp;rfl
end Go.Proofs.YtgnclkcdnbfeeaaGreatDoor.Q
