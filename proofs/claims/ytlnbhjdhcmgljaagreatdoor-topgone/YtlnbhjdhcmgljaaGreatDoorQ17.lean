/-
  Contracts of the layers and of core, part 17. Conditions: as each theorem says.
-/
import Derived.Test.YtlnbhjdhcmgljaaGreatDoorQ15
import Derived.Test.YtlnbhjdhcmgljaaGreatDoorQ16
open Array renaming getD_eq_getD_getElem?->Pg
open Bool renaming true->Nw
open Go renaming Addr->Oc,Calls->Ni,Program->O8,TypeId->NU,Value->M7,World->MO,all_oneCell_toArray->OE,bodyPost_ret->Np,cell_of_row->MW,heap_alloc_new->M1,results->Pf,undef->PL,wpAnyH_done->PS,wpAnyH_ready->NN,wpAnyH_take->ND,wpList_load_mid->O3,wp_region_held_drew->O2,yieldsIf_load_mid->Pt
open Go.Act renaming put->Nr
open Go.AllReadyH renaming cons->NP,nil->NX
open Go.Calls renaming mono->Nd
open Go.Ending renaming returned->MN
open Go.Instr renaming build->QA
open Go.IntKind renaming i64->ME
open Go.Obj renaming cells->MP
open Go.Oper renaming wp->RB
open Go.Operand renaming tmp->O6
open Go.Proofs.Tryz renaming func38->Uu,ntmps38->Ud,prog->MK,underlying54->U1
open Go.Region renaming wanted->Pz
open Go.Result renaming andThen_ok->PG
open Go.RowKit renaming Below->MQ,Hid->M6
open Go.Sem renaming run_bind->Pn,run_pure->P3
open Go.Value renaming agg->Ny,bool->M3,int->MF,pointer->Na,slice->MG,tuple->Nv
open Go.World renaming cell?_of_block->NG,frozen?->Ng,heap_setCells_other->N8
open List renaming flatten_append->PV,getElem?_append_left->OJ,getElem?_append_right->Tw,getElem_cons_succ->MT,getElem_cons_zero->MS,getElem_toArray->MZ,length_zip->Qn,map_append->OI,map_cons->OA,map_nil->P5,map_toArray->PW,mem_cons->OO,mem_singleton->PY,not_mem_nil->OD,setIfInBounds_toArray->MJ,set_cons_succ->MM,set_cons_zero->ML,size_toArray->OQ,toList_toArray->NS
open Nat renaming le_refl->MV,le_trans->Nm,lt_of_lt_of_le->M8,zero_add->Oa
open Option renaming none->MH,some->MI
open Or renaming inl->Nt,inr->NF
namespace Go.Proofs.YtlnbhjdhcmgljaaGreatDoor.Q
set_option linter.unusedVariables false
set_option linter.unusedSimpArgs false
set_option maxHeartbeats 16000000
set_option maxRecDepth 100000
open Go.RowKit
attribute [local go_sem ↓] Go.wp_at_zero Go.wp_at_succ
variable {listed:Array Bool}{ops:Array Oper}{Q:Exit->Act->MO->Prop}{w:MO}{S:MO->Prop}{T:NU}{fuel g:Nat}{o:Oper}{md:Region.Mode}
section
variable {base:Nat}{w0 w w':MO}{g:Nat}{V:Vs}{U:Us}{G:Gt}
theorem uz{L:List M7}(h:w.heap[g]?=MI (MP L.toArray T (0,0))):w.rangeAt g 0 L:=fun j v hv=>by
 rw[Oa,MW w g j _ T (0,0) h]
 simpa using hv
theorem tk{P:O8}(i:Nat)(v:M7){oi:Oper}{a:Act}(hS:S w)
  (h:wpAnyH P md ops Q S fuel (listed.setIfInBounds i Nw) (a.put oi.dst v) w) (hi:ops[i]?=MI oi:=by rfl) (hs:Region.noSelect ops=true:=by kernel_rfl) (hf:Region.free md ops listed i=true:=by kernel_rfl) (hr:(Region.ready md ops listed).contains i=true:=by kernel_rfl)
  (hQ:∀c a w,Q (.panic c) (a.put oi.dst v) w->Q (.panic c) a w:=by exact fun _ _ _ h=>h) (hy:YieldsIf P ops S oi v a:=by exact Or.inl ⟨by rfl,fun X hSw=>by go_simp⟩):wpAnyH P md ops Q S (fuel+1) listed a w :=
 ND hi hs hf hr hQ hy hS h
theorem iN:(Tryz.prog.info? 54).map (·.size)=MI 26:=by kernel_rfl
theorem Bu(U:Us)(G:Gt)(W:MO):(QA 145 #[(0,Ny (ef U G))]).run MK W=.ok (Ny (lR U G)) W:=by kernel_rfl
def ia(B:Nat)(w W:MO):Prop:=w.heap.size<=W.heap.size/\∀b,B<=b->b<w.heap.size->W.heap[b]?=w.heap[b]?
def qe(w:MO)(G':Gt)(r:Ending)(w':MO):Prop :=
 ∃U' po co,r=MN (Nv #[lH U' G',MG po G'.out.length co,MF ME 0])/\(∀W,ia w.heap.size w' W->aF W U' G'/\bj gT W (MG po G'.out.length co) G'.out)/\MQ w.heap.size w w'
theorem rS(U:Us)(G:Gt):(ef U G).all (·.oneCell')=true:=by
 show(List.toArray _).all _=Nw;refine OE fun v hv=>?_
 simp only[OO,OD,or_false]at hv;rcases hv with rfl|rfl|rfl|rfl|rfl|rfl|rfl|rfl|rfl|rfl|rfl|rfl|rfl|rfl|rfl|rfl|rfl|rfl|rfl|rfl|rfl|rfl|rfl|rfl|rfl|rfl <;> rfl
theorem ab.Gq(h:ab base w g V G):w.rangeAt g 0 (ef V.us G).toList:=fun j v hv=>by
 rw[Oa];have hj:j<26:=(List.getElem?_eq_some_iff.1 hv).1;have hc:j=0\/j=1\/j=2\/j=3\/j=4\/j=5\/j=6\/j=7\/j=8\/j=9\/j=10\/j=11\/j=12\/j=13\/j=14\/j=15\/j=16\/j=17\/j=18\/j=19\/j=20\/j=21\/j=22\/j=23\/j=24\/j=25:=by omega
 rcases hc with rfl|rfl|rfl|rfl|rfl|rfl|rfl|rfl|rfl|rfl|rfl|rfl|rfl|rfl|rfl|rfl|rfl|rfl|rfl|rfl|rfl|rfl|rfl|rfl|rfl|rfl
 ·exact h.c0.trans hv
 ·exact h.c1.trans hv
 ·exact h.c2.trans hv
 ·exact h.c3.trans hv
 ·exact h.c4.trans hv
 ·exact h.c5.trans hv
 ·exact h.c6.trans hv
 ·exact h.c7.trans hv
 ·exact h.c8.trans hv
 ·exact h.c9.trans hv
 ·exact h.Hf.trans hv
 ·exact h.Hn.trans hv
 ·exact h.Hg.trans hv
 ·exact h.GS.trans hv
 ·exact h.GU.trans hv
 ·exact h.GO.trans hv
 ·exact h.Gm.trans hv
 ·exact h.Gs.trans hv
 ·exact h.Gr.trans hv
 ·exact h.Gn.trans hv
 ·exact h.GD.trans hv
 ·exact h.GX.trans hv
 ·exact h.GI.trans hv
 ·exact h.Id.trans hv
 ·exact h.GJ.trans hv
 ·exact h.GH.trans hv
theorem xo{P:O8}{rest:List Oper}{a:Act}(hgd:o.guard=MH)(T:NU)(parts:Array (Nat×Operand))
  (ho:o.op=.build T parts) (y:M7) (hr:(QA T (parts.map fun(i,x)=>(i,a.eval x))).run P w=.ok y w)
  (h:wpList P ops Q rest (a.put o.dst y) w):wpList P ops Q (o::rest) a w :=
 wpList_plain hgd fun _ hK=>by
  unfold RB execOp;simp only[ho,Pn,P3,PG,hr];exact hK _ _ h
theorem Er(h:aF w U G)(hwm:Wm G)(hblk:aK w)(hout:G.out=[]) :
  Ni MK 60 #[lH U G] w fun r w'=>∃g V,r=MN (Nv #[gP g,M3 Nw])/\ab w.heap.size w' g V G/\MQ w.heap.size w w':=by
 obtain⟨L,hL⟩:∃L,L=(ef U G).toList:=⟨_,rfl⟩;have hLa:L.toArray=ef U G:=by rw[hL]
 have hLl:L.length=26:=by rw[hL];rfl
 obtain⟨D,hD⟩:∃D,D=lR U G:=⟨_,rfl⟩;have hbd:∀W:MO,(QA 145 #[(0,Ny L.toArray)]).run MK W=.ok (Ny D) W:=fun W=>by rw[hLa,hD];exact Bu U G W
 show Ni MK 60 #[Ny (ef U G)] w _;rw[<-hLa];obtain⟨W1,hW1⟩:∃W1,W1=w.alloc (MP L.toArray 54):=⟨_,rfl⟩;obtain⟨W2,hW2⟩:∃W2,W2=W1.alloc (MP D 145):=⟨_,rfl⟩;have hB1:MQ w.heap.size w W1:=by rw[hW1];exact ai w
 have hR1:W1.heap[w.heap.size]?=MI (MP L.toArray 54 (0,0)):=by rw[hW1];exact M1 _ _
 have hB2:MQ W1.heap.size W1 W2:=by rw[hW2];exact ai W1
 have hB12:=hB1.trans (hB2.mono hB1.size);have hR2:W2.heap[W1.heap.size]?=MI (MP D 145 (0,0)):=by rw[hW2];exact M1 _ _
 obtain⟨g,hg⟩:∃g,g=W1.heap.size:=⟨_,rfl⟩;rw[<-hg]at hR2;have hlow:w.heap.size<=g:=by rw[hg];exact hB1.size
 have HG1:M6 (w.heap.size+1=g):=by show w.heap.size+1=g;rw[hg,hW1];simp
 rw[hD]at hR2;have hRG:RG W2 g U G:=⟨hR2,h.below hB12⟩;have HM:M6 _:=wX hRG hwm (hblk.below hB12);have H:M6 (_/\_/\_/\_/\_/\_/\_/\_):=⟨h,hwm,hblk,hout,hB12,hR2,hlow,hR1⟩;have HI:M6 _:=hLl;have HD:M6 _:=hbd;clear hbd h hwm hblk hout hB1 hB2 hB12 hR1 hR2 hL hLa hLl hD hRG hlow hg;go_enter Tryz.func60,Tryz.ntmps60
 go_wp2_with (first|((with_reducible refine xo rfl 145 #[(0,O6 5)] rfl (Ny D) ?br ?_);(case br=>simp only[PW,OA,P5];exact HD.out _))|((with_reducible refine O3 rfl 54 (O6 1) rfl w.heap.size 0 ?gx L _ ?gc U1 ?gd ?gi ?_);(case gx=>rfl);(case gc=>exact uz (M1 _ _));(case gd=>rfl);(case gi=>rw[HI.out];exact iN)))
 rw[<-hW1,<-hW2,HG1.out];clear hW1 hW2;refine Nd HM.out ?_;rintro r w3 ⟨rfl,hb3⟩;have hOg:Og w w3 g U G:=⟨af H.out.2.2.2.2.2.1 hb3,H.out.2.2.2.2.1.trans (hb3.mono H.out.2.2.2.2.1.size),H.out.2.2.2.2.2.2.1⟩;have HO:M6 _:=Ej H.out.1 hOg H.out.2.1 H.out.2.2.1 H.out.2.2.2.1;clear hb3 hOg
 go_wp2_with fail
 refine Nd HO.out ?_;rintro r w4 ⟨rfl,V,hV,hb4⟩;have HV:M6 (_/\_):=⟨hV,hb4⟩;clear hV hb4;go_wp2
 go_ret2
 exact⟨g,V,rfl,HV.out.1,HV.out.2⟩
theorem ab.Iz(h:ab base w g V G)(hk:ia base w w'):aF w' V.us G:=by
 have r:=h.rest;have hq:∀b,b<w.heap.size->¬V.off base g b->w'.heap[b]?=w.heap[b]?:=fun b q1 q2=>hk.2 b (by
  by_cases e:base<=b
  ·exact e
  ·exact absurd (NF (by omega)) q2) q1
 obtain⟨ls,h1,h2,h3⟩:=r.whl;exact⟨r.tab w' hk.1 hq,gZ (aw r.fls fun b e=>hk.2 b (r.fls.lt b e).1 (r.fls.lt b e).2),r.book w' hk.1 hq,r.ring w' hk.1 hq,⟨ls,h1,h2,h3 w' hk.1 hq⟩,by
  have hl:(V.ms.zip G.hea).length=12:=by rw[Qn,r.msl,r.hel];rfl
  have ho:=aw r.hea fun b e=>hk.2 b (r.hea.lt b e).1 (r.hea.lt b e).2
  exact gZ (l:=V.ms.zip G.hea) (by rw[hl];exact ho),r.msl,r.hel,fun i m x e1 e2=>r.marks i m x e1 e2 w' hk.1 hq⟩
theorem ab.Iy(h:ab base w g V G)(hk:ia base w w'):bj gT w' (MG V.po G.out.length V.co) G.out :=
 gZ (aw h.rest.out fun b e=>hk.2 b (h.rest.out.lt b e).1 (h.rest.out.lt b e).2)
theorem ve{P:O8}{a:Act}{i:Nat}(ho:ops[i]?=MI o)(hg:o.guard=MH)(ty:NU)(x y:Operand)(hop:o.op=.store ty x y)
  (b off:Nat) (cells:Array M7) (hx:a.eval x=Na (MI ⟨b,off,MH⟩)) (hy:a.eval y=Ny cells) (ht:w.there b off cells.size) (hi:(P.info? ty).map (·.size)=MI cells.size) (h1:cells.all (·.oneCell')=Nw) (hS:S (w.setCells b off cells.toList))
  (h:wpAnyH P md ops Q S fuel (listed.setIfInBounds i Nw) (a.put o.dst PL) (w.setCells b off cells.toList)):AllReadyH P md ops Q S fuel listed a w [i]:=by
 refine NP ho (fun K hK=>?_) NX;rw[Nh (by unfold Pz;rw[hg])];exact wp_store_mid ty x y hop b off cells hx hy ht hi h1 (hK.out _ _ hS (fun _=>h))
theorem mE{P:O8}{a:Act}{i:Nat}(ho:ops[i]?=MI o)(hg:o.guard=MH)(x:Operand)(hop:o.op=.assign x)(v:M7)(hx:a.eval x=v)(hS:S w)
  (h:wpAnyH P md ops Q S fuel (listed.setIfInBounds i Nw) (a.put o.dst v) w):AllReadyH P md ops Q S fuel listed a w [i]:=by
 refine NP ho (fun K hK=>?_) NX;rw[Nh (by unfold Pz;rw[hg])];unfold RB execOp;simp only[hop,hx,Pn,P3,PG];exact hK.out _ _ hS (fun _=>h)
theorem D5{e:Ev}(h:gq e=0):fB e:=by
 obtain⟨k,key,slot,gen,good,req,be,wt⟩:=e;unfold gq at h;rcases lW k with⟨_,hn⟩|rfl|rfl|rfl|rfl|rfl|rfl|rfl
 ·simp[hn]at h
 all_goals
  simp[dY,Ev.GZ,Ev.num,Ev.GE,Ev.Gc,Ev.Gd,Ev.Hi]at h;constructor <;> simp <;> omega
theorem sY{fn:Func}{x y z:Tmp}{t:NU}(h:fn.results=#[.cell x t,.tmp y,.tmp z]){tmps:Array M7}{P:O8}{p:Oc}{v1 v2 v3:M7}(hx:tmps.getD x PL=Na (MI p))(hy:tmps.getD y PL=v2)(hz:tmps.getD z PL=v3)
  (h1:(loadVar t p).run P w=.ok v1 w):(Pf fn tmps).run P w=.ok (Nv #[v1,v2,v3]) w:=by
 have e1:∀a:Oc,(asAddr (Na (MI a))).run P w=.ok a w:=fun a=>rfl
 simp only[Pg]at hx hy hz;simp[Pf,h,hx,hy,hz,e1,h1,Pn]
theorem uR{P:O8}{cs:List M7}{d:TypeDesc}(h:w.heap[g]?=MI (MP cs.toArray T (0,0)))(hu:P.underlying T=MI d)(hd:d.isRow=Nw)(hi:(P.info? T).map (·.size)=MI cs.length):(loadVar T ⟨g,0,MH⟩).run P w=.ok (Ny cs.toArray) w :=
 run_loadVar_mid w g 0 T cs d (fun j v hv=>by rw[Oa,MW w g j _ T (0,0) h];simpa using hv) hu hd hi
theorem uQ{vs old:List M7}(h:w.heap[g]?=MI (MP old.toArray T (0,0)))(hl:old.length=vs.length):(w.setCells g 0 vs).heap[g]?=MI (MP vs.toArray T (0,0)):=by
 have:=ks T g vs [] old w hl (by simpa using h)
 simpa using this
theorem sF{old:List M7}(h:w.heap[g]?=MI (MP old.toArray T (0,0))):w.there g 0 old.length:=fun j hj=>by
 refine⟨?_,by simp[Ng,h]⟩;rw[Oa,MW w g j _ T (0,0) h];simp[hj]
abbrev wz:List Value:=[MF ME 0,MF ME 0,MF ME 0,MF ME 0,MF ME 0,MF ME 0,MF ME 0,MF ME 0,MF ME 0,MF ME 0,MF ME 0,MF ME 0,MF ME 0,MF ME 0,MF ME 0,MF ME 0,MF ME 0,MG MH 0 0,MG MH 0 0,MG MH 0 0,MG MH 0 0,MG MH 0 0,MG MH 0 0,MF ME 0,MF ME 0,MG MH 0 0]
theorem FU(h:aF w U G)(hwm:Wm G)(hblk:aK w)(hout:G.out=[])(e:Ev)(hf:gq e=0)(hn:e.kind=7->G.now+1<=1099511626776) :
  Ni MK 38 #[lH U G,kI e] w (qe w (iG G e)):=by
 obtain⟨L,hL⟩:∃L,L=(ef U G).toList:=⟨_,rfl⟩;have hLa:L.toArray=ef U G:=by rw[hL]
 have hLl:L.length=26:=by rw[hL];rfl
 show Ni MK 38 #[Ny (ef U G),kI e] w _;rw[<-hLa];obtain⟨Z,hZ⟩:∃Z,Z=wz:=⟨_,rfl⟩;obtain⟨W0,hW0⟩:∃W0,W0=((w.alloc (MP L.toArray 54)).alloc (e9 e)).alloc (MP Z.toArray 54):=⟨_,rfl⟩;have hx:=iF w (MP L.toArray 54) (e9 e);obtain⟨X,hX⟩:∃X,X=(w.alloc (MP L.toArray 54)).alloc (e9 e):=⟨_,rfl⟩;rw[<-hX]at hx;rw[<-hX]at hW0;obtain⟨hR0,hR1,hB,hsz⟩:=hx;have hBx:MQ X.heap.size X W0:=by rw[hW0];exact ai X
 have hB0:MQ w.heap.size w W0:=hB.trans (hBx.mono hB.size);replace hR0:=af hR0 hBx;replace hR1:=af hR1 hBx;have hR2:W0.heap[X.heap.size]?=MI (MP Z.toArray 54 (0,0)):=by rw[hW0];exact M1 _ _
 have hlX:X.heap.size<W0.heap.size:=(Array.getElem?_eq_some_iff.1 hR2).1;obtain⟨b2,hb2⟩:∃b2,b2=X.heap.size:=⟨_,rfl⟩;have hb2w:w.heap.size+1+1=b2:=by rw[hb2,hsz]
 rw[<-hb2]at hR2 hlX;have HG:=Er (h.below hB0) hwm (hblk.below hB0) hout;replace HG:Ni MK 60 #[Ny (ef U G)] W0 _:=HG;rw[<-hLa]at HG;replace HG:M6 _:=HG;have hbw:w.heap.size<=b2:=by omega
 have H:M6 (_/\_/\_/\_/\_/\_/\_/\_/\_/\_):=⟨hwm,hout,hf,hn,hB0,hR0,hR1,hR2,hlX,hbw⟩;have HI:M6 _:=hLl;have HZ:M6 _:=hZ;have HX:M6 (_/\_/\_):=⟨hX,hW0,hb2w⟩;clear h hwm hblk hout hf hn hB hBx hB0 hR0 hR1 hR2 hlX hsz hL hLa hLl hX hW0 hb2 hb2w hbw hZ;go_enter Uu,Ud
 go_wp2_with ((with_reducible refine O3 rfl 54 (O6 2) rfl w.heap.size 0 ?gx L _ ?gc U1 ?gd ?gi ?_);(case gx=>rfl);(case gc=>first|(rw[show(#[MF ME 0,MF ME 0,MF ME 0,MF ME 0,MF ME 0,MF ME 0,MF ME 0,MF ME 0,MF ME 0,MF ME 0,MF ME 0,MF ME 0,MF ME 0,MF ME 0,MF ME 0,MF ME 0,MF ME 0,MG MH 0 0,MG MH 0 0,MG MH 0 0,MG MH 0 0,MG MH 0 0,MG MH 0 0,MF ME 0,MF ME 0,MG MH 0 0]:Array M7)=wz.toArray from rfl,<-HZ.out,<-HX.out.1,<-HX.out.2.1];exact uz H.out.2.2.2.2.2.1));(case gd=>rfl);(case gi=>rw[HI.out];exact iN))
 rw[show(#[MF ME 0,MF ME 0,MF ME 0,MF ME 0,MF ME 0,MF ME 0,MF ME 0,MF ME 0,MF ME 0,MF ME 0,MF ME 0,MF ME 0,MF ME 0,MF ME 0,MF ME 0,MF ME 0,MF ME 0,MG MH 0 0,MG MH 0 0,MG MH 0 0,MG MH 0 0,MG MH 0 0,MG MH 0 0,MF ME 0,MF ME 0,MG MH 0 0]:Array M7)=wz.toArray from rfl,<-HZ.out,<-HX.out.1,<-HX.out.2.1,HX.out.2.2];clear HX;refine Nd HG.out ?_;rintro r w1 ⟨g,V,rfl,hG1,hb1⟩;obtain⟨k0,k1,k2,k3,k4,k5,k6,k7,klt⟩:=gO (af H.out.2.2.2.2.2.2.1 hb1);have HC:=EZ e w1;rw[H.out.2.2.1]at HC;replace HC:M6 _:=HC;have H1:M6 (_/\_):=⟨hG1,hb1⟩;clear hG1 hb1 HG
 go_wp2_with fail
 refine Nd HC.out ?_;rintro r w2 ⟨rfl,hb2⟩;have hb12:=H1.out.2.trans (hb2.mono H1.out.2.size);have hG2:=H1.out.1.below hb2;obtain⟨j0,j1,j2,j3,j4,j5,j6,j7,jlt⟩:=gO (af H.out.2.2.2.2.2.2.1 hb12);have c16:=hG2.Gm;have hgl:=hG2.lt;have HT:M6 _:=C5 hG2 H.out.1 (D5 H.out.2.2.1) H.out.2.2.2.1 (by rw[H.out.2.1];simp);have H2:M6 (_/\_):=⟨hG2,hb12⟩;clear hG2 hb12 hb2 HC k0 k1 k2 k3 k4 k5 k6 k7 klt;have hlast:e.kind=7->(G.now == 1099511626776)=false:=fun h7=>beq_eq_false_iff_ne.2 (by have:=H.out.2.2.2.1 h7;omega)
 by_cases h7:e.kind=7
 ·have q1:(e.kind == 7)=true:=by rw[h7];rfl
  have q2:=hlast h7;clear hlast h7
  go_wp2_with fail
  refine Nd HT.out ?_;rintro r w3 ⟨rfl,V3,hG3,_,hF3⟩;obtain⟨T,hT⟩:∃T,T=iG G e:=⟨_,rfl⟩;rw[<-hT]at hG3;have hbu:=H2.out.2.trans (hF3.IT H2.out.1);have hR3:=(hbu.block b2 H.out.2.2.2.2.2.2.2.2.1).trans H.out.2.2.2.2.2.2.2.1;obtain⟨M,hM⟩:∃M,M=(ef V3.us T).toList:=⟨_,rfl⟩;have hMa:M.toArray=ef V3.us T:=by rw[hM]
  have hMl:M.length=26:=by rw[hM];rfl
  have hone:M.toArray.all (·.oneCell')=true:=by rw[hMa];exact rS _ _
  have hrg:w3.drew.rangeAt g 0 M:=by rw[hM];exact hG3.GY.Gq
  have c26:=hG3.GY.Ip;have hglt:=hG3.lt;have hth:w3.drew.there b2 0 M.toArray.size:=by
   have h1:w3.drew.heap[b2]?=MI (MP Z.toArray 54 (0,0)):=hR3;have h2:=sF h1;rw[OQ,hMl];rw[HZ.out]at h2;exact h2
  obtain⟨u4,hu4⟩:∃u4,u4=w3.drew.setCells b2 0 M:=⟨_,rfl⟩;have hR4:u4.heap[b2]?=MI (MP M.toArray 54 (0,0)):=by
   rw[hu4];exact uQ (old:=Z) hR3 (by rw[hMl,HZ.out];rfl)
  have hk4:∀b,b<w3.heap.size->b≠b2->u4.heap[b]?=w3.heap[b]?:=fun b q1 q2=>by rw[hu4];exact N8 w3.drew _ _ _ q1 q2
  have hs4:w3.heap.size<=u4.heap.size:=by rw[hu4,nj];exact MV _
  have hlt2:=H.out.2.2.2.2.2.2.2.2.1;have hK4:∀Y,ia w.heap.size u4 Y->ia W0.heap.size w3 Y:=fun Y hY=>⟨Nm hs4 hY.1,fun b q1 q2=>(hY.2 b (Nm H.out.2.2.2.2.1.size q1) (M8 q2 hs4)).trans (hk4 b q2 (by omega))⟩
  have hW4:∀Y,ia w.heap.size u4 Y->aF Y V3.us T/\bj gT Y (MG V3.po T.out.length V3.co) T.out:=fun Y hY=>⟨hG3.Iz (hK4 Y hY),hG3.Iy (hK4 Y hY)⟩
  have hbel4:MQ w.heap.size w u4:=by
   rw[hu4];have hq:=H.out.2.2.2.2.1.trans (hbu.mono H.out.2.2.2.2.1.size);exact kF hq.drew H.out.2.2.2.2.2.2.2.2.2 _ _ hq.size
  have hgb2:g≠b2:=by have:=hG3.rest.low;have:=H.out.2.2.2.2.2.2.2.2.1;omega
  have hrg4:u4.rangeAt g 0 M:=fun jj v hv=>(NG (hk4 g hglt hgb2)).trans (hrg jj v hv)
  have c264:u4.cell? ⟨g,26,MH⟩=MI (MG V3.po T.out.length V3.co):=(NG (hk4 g hglt hgb2)).trans c26;have HS3:M6 (w3.drew.rangeAt g 0 M/\w3.drew.cell? ⟨g,26,MH⟩=MI (MG V3.po T.out.length V3.co)):=⟨hrg,c26⟩;have HS4:M6 (u4.rangeAt g 0 M/\u4.cell? ⟨g,26,MH⟩=MI (MG V3.po T.out.length V3.co)):=⟨hrg4,c264⟩;have HQ:M6 (_/\_/\_/\_):=⟨hW4,hbel4,hR4,hMa⟩;have HM:M6 _:=hMl;have HT3:M6 _:=hT;clear hG3 hF3 hbu hR3 hM hMa hMl hrg c26 hk4 hs4 hK4 hlt2 hW4 hbel4 hrg4 c264 hR4 hT;clear j0 j1 j2 j3 j4 j5 j6 j7 jlt c16 hgl
  go_wp2_with fail
  obtain⟨S,hS,hS3,hS4⟩:∃S:MO->Prop,(∀X,S X->X.rangeAt g 0 M/\X.cell? ⟨g,26,MH⟩=MI (MG V3.po T.out.length V3.co))/\S w3.drew/\S u4:=⟨fun X=>X.rangeAt g 0 M/\X.cell? ⟨g,26,MH⟩=MI (MG V3.po T.out.length V3.co),fun _ h=>h,HS3.out,HS4.out⟩;have HSS:M6 _:=hS;clear hS HS3 HS4;refine O2 (S:=S) (by kernel_rfl) hS3 (fun hHeld=>?_);refine tk 0 (gP g) hHeld ?_;simp only[Nr,MZ,MT,MS,MJ,ML,MM];refine tk 1 (gP g) hHeld ?_;simp only[Nr,MZ,MT,MS,MJ,ML,MM];refine tk 2 (Na (MI ⟨g,0,MH⟩)) hHeld ?_;simp only[Nr,MZ,MT,MS,MJ,ML,MM];refine tk 3 (Ny M.toArray) hHeld ?_ (hy:=(Pt (by rfl) 54 (O6 41) rfl g 0 rfl M _ (fun _ h=>(HSS.out _ h).1) U1 rfl (by rw[HM.out];exact iN)));simp only[Nr,MZ,MT,MS,MJ,ML,MM];refine tk 4 (gP g) hHeld ?_;simp only[Nr,MZ,MT,MS,MJ,ML,MM];refine tk 5 (gP g) hHeld ?_;simp only[Nr,MZ,MT,MS,MJ,ML,MM];refine tk 6 (Na (MI ⟨g,26,MH⟩)) hHeld ?_;simp only[Nr,MZ,MT,MS,MJ,ML,MM];refine tk 7 (MG V3.po T.out.length V3.co) hHeld ?_ (hy:=(Nt ⟨by rfl,fun X hSw=>by have s1:=(HSS.out X hSw).2;go_simp⟩));simp only[Nr,MZ,MT,MS,MJ,ML,MM];refine NN (rs:=[8]) (by kernel_rfl) (by simp) ?_;refine ve (i:=8) (o:=_) (by rfl) (by rfl) 54 (O6 4) (O6 42) (by rfl) b2 0 M.toArray (by rfl) (by rfl) hth (by rw[OQ,HM.out];exact iN) hone (by rw[NS,<-hu4];exact hS4) ?_;rw[NS,<-hu4]
  try simp only[Nr,MZ,MT,MS,MJ,ML,MM]
  refine NN (rs:=[9]) (by kernel_rfl) (by simp) ?_;refine mE (i:=9) (o:=_) (by rfl) (by rfl) (O6 46) (by rfl) (MG V3.po T.out.length V3.co) (by rfl) hS4 ?_
  try simp only[Nr,MZ,MT,MS,MJ,ML,MM]
  refine NN (rs:=[10]) (by kernel_rfl) (by simp) ?_;refine mE (i:=10) (o:=_) (by rfl) (by rfl) (.const (MF ME 0)) (by rfl) (MF ME 0) (by rfl) hS4 ?_
  try simp only[Nr,MZ,MT,MS,MJ,ML,MM]
  refine PS (by kernel_rfl) ?_ _;go_wp2;refine Np (v:=Nv #[Ny M.toArray,MG V3.po T.out.length V3.co,MF ME 0]) (sY Tryz.results38 rfl rfl rfl (uR HQ.out.2.2.1 U1 rfl (by rw[HM.out];exact iN))) rfl ?_;show qe w (iG G e) _ _;rw[<-HT3.out];exact⟨V3.us,V3.po,V3.co,by rw[HQ.out.2.2.2],HQ.out.1,HQ.out.2.1⟩
 ·have q1:(e.kind == 7)=false:=beq_eq_false_iff_ne.2 h7
  clear hlast h7
  go_wp2_with fail
  refine Nd HT.out ?_;rintro r w3 ⟨rfl,V3,hG3,_,hF3⟩;obtain⟨T,hT⟩:∃T,T=iG G e:=⟨_,rfl⟩;rw[<-hT]at hG3;have hbu:=H2.out.2.trans (hF3.IT H2.out.1);have hR3:=(hbu.block b2 H.out.2.2.2.2.2.2.2.2.1).trans H.out.2.2.2.2.2.2.2.1;obtain⟨M,hM⟩:∃M,M=(ef V3.us T).toList:=⟨_,rfl⟩;have hMa:M.toArray=ef V3.us T:=by rw[hM]
  have hMl:M.length=26:=by rw[hM];rfl
  have hone:M.toArray.all (·.oneCell')=true:=by rw[hMa];exact rS _ _
  have hrg:w3.drew.rangeAt g 0 M:=by rw[hM];exact hG3.GY.Gq
  have c26:=hG3.GY.Ip;have hglt:=hG3.lt;have hth:w3.drew.there b2 0 M.toArray.size:=by
   have h1:w3.drew.heap[b2]?=MI (MP Z.toArray 54 (0,0)):=hR3;have h2:=sF h1;rw[OQ,hMl];rw[HZ.out]at h2;exact h2
  obtain⟨u4,hu4⟩:∃u4,u4=w3.drew.setCells b2 0 M:=⟨_,rfl⟩;have hR4:u4.heap[b2]?=MI (MP M.toArray 54 (0,0)):=by
   rw[hu4];exact uQ (old:=Z) hR3 (by rw[hMl,HZ.out];rfl)
  have hk4:∀b,b<w3.heap.size->b≠b2->u4.heap[b]?=w3.heap[b]?:=fun b q1 q2=>by rw[hu4];exact N8 w3.drew _ _ _ q1 q2
  have hs4:w3.heap.size<=u4.heap.size:=by rw[hu4,nj];exact MV _
  have hlt2:=H.out.2.2.2.2.2.2.2.2.1;have hK4:∀Y,ia w.heap.size u4 Y->ia W0.heap.size w3 Y:=fun Y hY=>⟨Nm hs4 hY.1,fun b q1 q2=>(hY.2 b (Nm H.out.2.2.2.2.1.size q1) (M8 q2 hs4)).trans (hk4 b q2 (by omega))⟩
  have hW4:∀Y,ia w.heap.size u4 Y->aF Y V3.us T/\bj gT Y (MG V3.po T.out.length V3.co) T.out:=fun Y hY=>⟨hG3.Iz (hK4 Y hY),hG3.Iy (hK4 Y hY)⟩
  have hbel4:MQ w.heap.size w u4:=by
   rw[hu4];have hq:=H.out.2.2.2.2.1.trans (hbu.mono H.out.2.2.2.2.1.size);exact kF hq.drew H.out.2.2.2.2.2.2.2.2.2 _ _ hq.size
  have hgb2:g≠b2:=by have:=hG3.rest.low;have:=H.out.2.2.2.2.2.2.2.2.1;omega
  have hrg4:u4.rangeAt g 0 M:=fun jj v hv=>(NG (hk4 g hglt hgb2)).trans (hrg jj v hv)
  have c264:u4.cell? ⟨g,26,MH⟩=MI (MG V3.po T.out.length V3.co):=(NG (hk4 g hglt hgb2)).trans c26;have HS3:M6 (w3.drew.rangeAt g 0 M/\w3.drew.cell? ⟨g,26,MH⟩=MI (MG V3.po T.out.length V3.co)):=⟨hrg,c26⟩;have HS4:M6 (u4.rangeAt g 0 M/\u4.cell? ⟨g,26,MH⟩=MI (MG V3.po T.out.length V3.co)):=⟨hrg4,c264⟩;have HQ:M6 (_/\_/\_/\_):=⟨hW4,hbel4,hR4,hMa⟩;have HM:M6 _:=hMl;have HT3:M6 _:=hT;clear hG3 hF3 hbu hR3 hM hMa hMl hrg c26 hk4 hs4 hK4 hlt2 hW4 hbel4 hrg4 c264 hR4 hT;clear j0 j1 j2 j3 j4 j5 j6 j7 jlt c16 hgl
  go_wp2_with fail
  obtain⟨S,hS,hS3,hS4⟩:∃S:MO->Prop,(∀X,S X->X.rangeAt g 0 M/\X.cell? ⟨g,26,MH⟩=MI (MG V3.po T.out.length V3.co))/\S w3.drew/\S u4:=⟨fun X=>X.rangeAt g 0 M/\X.cell? ⟨g,26,MH⟩=MI (MG V3.po T.out.length V3.co),fun _ h=>h,HS3.out,HS4.out⟩;have HSS:M6 _:=hS;clear hS HS3 HS4;refine O2 (S:=S) (by kernel_rfl) hS3 (fun hHeld=>?_);refine tk 0 (gP g) hHeld ?_;simp only[Nr,MZ,MT,MS,MJ,ML,MM];refine tk 1 (gP g) hHeld ?_;simp only[Nr,MZ,MT,MS,MJ,ML,MM];refine tk 2 (Na (MI ⟨g,0,MH⟩)) hHeld ?_;simp only[Nr,MZ,MT,MS,MJ,ML,MM];refine tk 3 (Ny M.toArray) hHeld ?_ (hy:=(Pt (by rfl) 54 (O6 41) rfl g 0 rfl M _ (fun _ h=>(HSS.out _ h).1) U1 rfl (by rw[HM.out];exact iN)));simp only[Nr,MZ,MT,MS,MJ,ML,MM];refine tk 4 (gP g) hHeld ?_;simp only[Nr,MZ,MT,MS,MJ,ML,MM];refine tk 5 (gP g) hHeld ?_;simp only[Nr,MZ,MT,MS,MJ,ML,MM];refine tk 6 (Na (MI ⟨g,26,MH⟩)) hHeld ?_;simp only[Nr,MZ,MT,MS,MJ,ML,MM];refine tk 7 (MG V3.po T.out.length V3.co) hHeld ?_ (hy:=(Nt ⟨by rfl,fun X hSw=>by have s1:=(HSS.out X hSw).2;go_simp⟩));simp only[Nr,MZ,MT,MS,MJ,ML,MM];refine NN (rs:=[8]) (by kernel_rfl) (by simp) ?_;refine ve (i:=8) (o:=_) (by rfl) (by rfl) 54 (O6 4) (O6 42) (by rfl) b2 0 M.toArray (by rfl) (by rfl) hth (by rw[OQ,HM.out];exact iN) hone (by rw[NS,<-hu4];exact hS4) ?_;rw[NS,<-hu4]
  try simp only[Nr,MZ,MT,MS,MJ,ML,MM]
  refine NN (rs:=[9]) (by kernel_rfl) (by simp) ?_;refine mE (i:=9) (o:=_) (by rfl) (by rfl) (O6 46) (by rfl) (MG V3.po T.out.length V3.co) (by rfl) hS4 ?_
  try simp only[Nr,MZ,MT,MS,MJ,ML,MM]
  refine NN (rs:=[10]) (by kernel_rfl) (by simp) ?_;refine mE (i:=10) (o:=_) (by rfl) (by rfl) (.const (MF ME 0)) (by rfl) (MF ME 0) (by rfl) hS4 ?_
  try simp only[Nr,MZ,MT,MS,MJ,ML,MM]
  refine PS (by kernel_rfl) ?_ _;go_wp2;refine Np (v:=Nv #[Ny M.toArray,MG V3.po T.out.length V3.co,MF ME 0]) (sY Tryz.results38 rfl rfl rfl (uR HQ.out.2.2.1 U1 rfl (by rw[HM.out];exact iN))) rfl ?_;show qe w (iG G e) _ _;rw[<-HT3.out];exact⟨V3.us,V3.po,V3.co,by rw[HQ.out.2.2.2],HQ.out.1,HQ.out.2.1⟩
end
def Sm(G G':Gt):Prop:=G'.cfg=G.cfg/\G'.now=G.now
section
variable {G:Gt}
theorem Sm.Gy(G:Gt):Sm G G:=⟨rfl,rfl⟩
theorem Sm.F0{A B C:Gt}(h:Sm A B)(k:Sm B C):Sm A C:=⟨k.1.trans h.1,k.2.trans h.2⟩
theorem J4{α:Type}{f:Gt->α->Gt}(h:∀G x,Sm G (f G x)):∀(l:List α) (G:Gt),Sm G (l.foldl f G)
 | [],G=>Sm.Gy G
 |x::l,G=>(h G x).F0 (J4 h l (f G x))
theorem Ke(G:Gt)(b:Int):Sm G (cj G b):=by
 unfold cj
 split
 ·exact⟨rfl,rfl⟩
 ·exact Sm.Gy G
theorem J3(G:Gt)(f:Fl)(k y:Int):Sm G (dn G f k y):=by
 unfold dn;exact Sm.F0 (B:=ge {G with tab:=(ed G.tab f.slot f.gen).1,fls:=bO G.fls f.slot f.gen,tms:=fun t=>G.tms t/\t.2≠f.slot} ⟨k,f.slot,f.gen,f.be,0,0,y⟩) ⟨rfl,rfl⟩ (Ke _ _)
theorem K7(G:Gt)(i:Nat)(b:Int):Sm G (eQ G i b):=by
 unfold eQ;simp only[];refine Sm.F0 ?_ (Ke _ _);exact⟨rfl,rfl⟩
theorem KD(G:Gt)(i:Nat)(y:Int):Sm G (dP G i y):=by
 unfold dP;simp only[]
 split
 ·exact Sm.F0 (B:=dg G (aQ G i).be Nw) ⟨rfl,rfl⟩ (J3 _ _ _ _)
 ·split
  ·exact Sm.F0 (B:=dg G (aQ G i).be Nw) ⟨rfl,rfl⟩ (J3 _ _ _ _)
  ·exact Sm.F0 (B:={dg G (aQ G i).be Nw with tok:=(dp G.cfg.bn G.cfg.bd G.cfg.bb G.tok).1}) ⟨rfl,rfl⟩ (K7 _ _ _)
theorem K8(G:Gt)(i:Nat):Sm G (mX G i):=⟨rfl,rfl⟩
theorem K2(G:Gt)(i:Nat):Sm G (mV G i):=by
 unfold mV;simp only[]
 split
 ·exact⟨rfl,rfl⟩
 ·exact⟨rfl,rfl⟩
theorem K5(G:Gt)(k:Int):Sm G (mA G k):=by
 unfold mA
 split
 ·exact⟨rfl,rfl⟩
 ·simp only[]
  split
  ·exact⟨rfl,rfl⟩
  ·exact⟨rfl,rfl⟩
theorem K4(G:Gt)(e:Ev):Sm G (mW G e):=by
 unfold mW;simp only[]
 split
 ·exact⟨rfl,rfl⟩
 ·split
  ·exact J3 _ _ _ _
  ·split
   ·exact K2 _ _
   ·split
    ·exact⟨rfl,rfl⟩
    ·split
     ·exact K8 _ _
     ·exact KD _ _ _
theorem K6(G:Gt)(e:Ev):Sm G (nC G e):=by
 unfold nC
 split
 ·exact⟨rfl,rfl⟩
 ·split
  ·exact⟨rfl,rfl⟩
  ·exact Sm.F0 (B:={fO G 2 e with wts:=G.wts.set e.be.toNat 0}) ⟨rfl,rfl⟩ (Ke _ _)
theorem K9(G:Gt):Sm G (eE G):=by
 unfold eE;exact Sm.F0 (B:={G with liv:=(gB G.liv G.req G.now).1.1,req:=(gB G.liv G.req G.now).1.2}) ⟨rfl,rfl⟩ (J4 (f:=cV) (fun _ _=>⟨rfl,rfl⟩) _ _)
theorem K3(G:Gt):Sm G (fk G):=by
 unfold fk;refine Sm.F0 (B:={G with wnow:=G.wnow+1,tms:=fun t=>G.tms t/\t.1≠G.wnow+1}) ⟨rfl,rfl⟩ (J4 (fun G s=>?_) _ _);unfold bE;simp only[]
 split
 ·exact J3 _ _ _ _
 ·exact KD _ _ _
theorem K1(G:Gt):Sm G (qU G):=by
 unfold qU;refine J4 (fun G l=>?_) _ _;unfold dV
 split
 ·exact Sm.Gy _
 ·exact J4 (fun G h=>J3 _ _ _ _) _ _
theorem Le(G:Gt):(mK G).cfg=G.cfg/\(mK G).now=G.now+1:=by
 unfold mK;have h1:=K9 {G with now:=G.now+1};have h2:Sm (eE {G with now:=G.now+1}) (lU (eE {G with now:=G.now+1})):=⟨rfl,rfl⟩;have h3:=K3 (lU (eE {G with now:=G.now+1}));have h4:=K1 (fk (lU (eE {G with now:=G.now+1})));exact((h1.F0 h2).F0 h3).F0 h4
theorem KF(G:Gt)(e:Ev):(iG G e).cfg=G.cfg/\(iG G e).now=if e.kind=7 then G.now+1 else G.now:=by
 unfold iG
 split
 ·rename_i h
  rw[Nf (by omega)];exact K5 _ _
 ·split
  ·rename_i h
   rw[Nf (by omega)];exact⟨rfl,rfl⟩
  ·split
   ·rename_i h
    rw[Nf (by omega)];exact K6 _ _
   ·split
    ·exact Le G
    ·exact K4 _ _
end
structure Dd where
 k:Int
 a:Int
 b:Int
 c:Int
structure Sp where
 ev:Ev
 bef:Gt
 aft:Gt
 out:List Ou
structure Py where
 steps:List Sp
 last:Gt
 giv:List (Int×Int)
def Gt.Ma(G:Gt):Gt:={G with out:=[]}
def JH(l:List Ou):List (Int×Int):=(l.filter fun o=>o.kind == 1).map fun o=>(o.slot,o.gen)
def Py.step(P:Py)(e:Ev):Py :=
 ⟨P.steps++[⟨e,P.last,(iG P.last e).Ma,(iG P.last e).out⟩],(iG P.last e).Ma,P.giv++JH (iG P.last e).out⟩
section
variable {G:Gt}
theorem Wm.Ma(h:Wm G):Wm G.Ma:=h.Jh []
theorem aF.Ma{U:Us}(h:aF w U G):aF w U G.Ma:=⟨h.tab,h.fls,h.book,h.ring,h.whl,h.hea,h.msl,h.hel,h.marks⟩
end
structure JM(c:Cf)(s:Sp):Prop where
 out0:s.bef.out=[]
 wm:Wm s.bef
 cfg:s.bef.cfg=c
 ev:gq s.ev=0
 aft:s.aft=(iG s.bef s.ev).Ma
 out:s.out=(iG s.bef s.ev).out
 late:s.ev.kind=7->s.bef.now+1<=1099511626776
structure JE(c:Cf)(P:Py):Prop where
 wm:Wm P.last
 out:P.last.out=[]
 cfg:P.last.cfg=c
 now:P.last.now<=P.steps.length
 chain:∀s∈P.steps,JM c s
 next:∀(i:Nat) (s t:Sp),P.steps[i]?=MI s->P.steps[i+1]?=MI t->t.bef=s.aft
 tail:∀s,P.steps[P.steps.length-1]?=MI s->P.last=s.aft
 giv:P.giv=(P.steps.map fun s=>JH s.out).flatten
theorem JE.step{c:Cf}{P:Py}(h:JE c P){e:Ev}(he:gq e=0)(hl:P.steps.length<=1000000):JE c (P.step e):=by
 have hn:=h.now;have h7:e.kind=7->P.last.now+1<=1099511626776:=fun _=>by omega
 have ht:=KF P.last e;obtain⟨z,hz⟩:∃z:Sp,z=⟨e,P.last,(iG P.last e).Ma,(iG P.last e).out⟩:=⟨_,rfl⟩;have hst:(P.step e).steps=P.steps++[z]:=by rw[hz];rfl
 have hlen:(P.steps++[z]).length=P.steps.length+1:=by simp
 refine⟨(h.wm.Mm (D5 he) h7).Ma,rfl,ht.1.trans h.cfg,?_,fun s hs=>?_,fun i s t hi hj=>?_,fun s hs=>?_,?_⟩
 ·rw[hst,hlen]
  show(iG P.last e).now<=_;rw[ht.2]
  split <;> omega
 ·rw[hst]at hs
  rcases List.mem_append.1 hs with hs|hs
  ·exact h.chain s hs
  ·rw[PY]at hs
   subst hs;subst hz;exact⟨h.out,h.wm,h.cfg,he,rfl,rfl,h7⟩
 ·rw[hst]at hi hj
  have hj1:i+1<P.steps.length+1:=by rw[<-hlen];exact(List.getElem?_eq_some_iff.1 hj).1
  rw[OJ (by omega)]at hi
  by_cases hlt:i+1<P.steps.length
  ·rw[OJ hlt]at hj
   exact h.next i s t hi hj
  ·have ei:P.steps.length=i+1:=by omega
   rw[Tw (by omega),ei,Nat.sub_self]at hj;cases hj;rw[hz];exact h.tail s (by rw[ei];exact hi)
 ·rw[hst,hlen,Tw (by omega)]at hs
  rw[show P.steps.length+1-1-P.steps.length=0 by omega]at hs;cases hs;rw[hz];rfl
 ·rw[hst,OI,PV,<-h.giv,hz]
  simp;rfl
end Go.Proofs.YtlnbhjdhcmgljaaGreatDoor.Q
