/-
  Contracts of the layers and of core, part 20. Conditions: as each theorem says.
-/
import Derived.Deep.Fields
import Derived.LaidMore
import Derived.Stop.Joined
import Derived.Test.YtidlemcdnhbceaaGreatDoorQ18
import Derived.Test.YtidlemcdnhbceaaGreatDoorQ19
open Array renaming getElem?_eq_getElem->PN
open Bool renaming and_eq_true->Po,false->Nb,true->Nw
open Decidable renaming decide->Nn
open Go renaming Addr->Oc,Calls->Ni,Program->O8,TypeId->NU,Value->M7,World->MO,all_oneCell_toArray->OE,cell_of_row->MW,heap_alloc_new->M1,heap_setCell_same->NI,maxLen->NE,wpAnyH_done->PS,wpAnyH_ready->NN,wpList_load_mid->O3,wpList_store_mid->OW,wpQuiet_nil->Oy,wp_region_held_drew->O2,yieldsIf_load_mid->Pt
open Go.Act renaming put->Nr
open Go.AllReadyH renaming cons->NP,nil->NX
open Go.Builtin renaming append_->N2
open Go.Calls renaming mono->Nd
open Go.DataW renaming trod->Ry,trod_array->Ti,trod_int->QW,trod_struct->Tg
open Go.Ending renaming returned->MN
open Go.Instr renaming build->QA,buildSlice->Q0
open Go.IntKind renaming i64->ME
open Go.Lit renaming int->N6
open Go.Obj renaming cells->MP
open Go.Oper renaming wp->RB
open Go.Operand renaming tmp->O6
open Go.Proofs.Tryz renaming func48->Sd,prog->MK,underlying3->Ol,underlying42->axO,underlying61->Lv,underlying76->T3
open Go.Region renaming wanted->Pz
open Go.Result renaming andThen_ok->PG
open Go.RowKit renaming Below->MQ,Hid->M6
open Go.RowKit.Below renaming heap_setCell->MU,refl->MY
open Go.Sem renaming run_bind->Pn,run_pure->P3
open Go.Value renaming agg->Ny,bool->M3,int->MF,pointer->Na,slice->MG,tuple->Nv
open Go.World renaming block_lt_of_cell?->MX,cell?_of_block->NG,frozen?->Ng,heap_setCells_other->N8,setCells->Qd
open Int renaming le_refl->Qh
open List renaming append_assoc->OC,append_nil->OG,ext_getElem?->Ot,filter_append->OY,getElem?_append_left->OJ,getElem?_append_right->Tw,getElem?_drop->Pa,getElem?_eq_getElem->MR,getElem?_eq_none->Nz,getElem?_take_of_lt->O0,getElem_cons_succ->MT,getElem_cons_zero->MS,getElem_map->QZ,getElem_mem->Nk,getElem_toArray->MZ,length_append->Ns,length_map->N0,length_singleton->OU,map_append->OI,map_cons->OA,map_nil->P5,map_toArray->PW,mem_cons->OO,not_mem_nil->OD,range->Pm,setIfInBounds_toArray->MJ,set_cons_succ->MM,set_cons_zero->ML,size_toArray->OQ,take_of_length_le->N1,take_succ_eq_append_getElem->M9,toList_toArray->NS
open Nat renaming div_lt_of_lt_mul->Sj,le_of_lt->PJ,le_refl->MV,le_trans->Nm,lt_of_lt_of_le->M8,mul_comm->R5,zero_le->Nx
open Option renaming none->MH,some->MI
open Option.some renaming inj->NC
open Or renaming inl->Nt,inr->NF
open Prod.mk renaming injEq->Q7
namespace Go.Proofs.YtidlemcdnhbceaaGreatDoor.Q
set_option linter.unusedVariables false
set_option linter.unusedSimpArgs false
set_option maxHeartbeats 16000000
set_option maxRecDepth 100000
open Go.RowKit
attribute [local go_sem ↓] Go.wp_at_zero Go.wp_at_succ
variable {a:Act}{fs:Array Field}{ops:Array Oper}{Q:Exit->Act->MO->Prop}{Y w1:MO}{S:MO->Prop}{t:NU}{fuel:Nat}{o:Oper}
section
open Go.ChangeShapes Go.WideShapes Go.ChangeAt Go.Deep
def aep(P:O8):Nat->NU->Bool
 |0,_=>Nb
 |d+1,t=>match P.underlying t with
  |some (.int ME)=>P.cellsOf t == 1
  |some (.struct fs)=>(Pm (P.cellsOf t)).all fun i=>(Pm fs.size).any fun j=>match fs[j]? with
   |some f=>Nn (f.offset<=i) && Nn (i<f.offset+P.cellsOf f.type) && aep P d f.type
   |none=>Nb
  |some (.array n e)=>aep P d e && Nn (0<P.cellsOf e) && Nn (P.cellsOf t=n*P.cellsOf e)
  |_=>Nb
section
variable {H:Type}{enc:NU×M7->H}{P:O8}{w:MO}{base:Nat}{spare:Nat->Bool}{held:Bool}
theorem aji:∀(d:Nat) {t:NU} {fuel:Nat} {cs:List M7} {x:DataW H×List MemPlace},aep P d t=Nw->Ry enc P w base spare held fuel t cs=MI x->∀i,i<P.cellsOf t->∃n:Int,cs[i]?=MI (MF ME n)/\(N6 ME n).wf=Nw
 |0,_,_,_,_,f,_,_,_=>by simp[aep]at f
 |d+1,t,fuel,cs,x,f,h,i,hi=>by
  unfold aep at f
  split at f
  ·rename_i hu
   obtain⟨n,rfl,_,D⟩:=QW hu h;have:P.cellsOf t=1:=by simpa using f
   obtain rfl:i=0:=by omega
   exact⟨n,rfl,D⟩
  ·rename_i fs hu
   obtain⟨F,k,_,_,_,v,y⟩:=Tg hu h;have G:=List.all_eq_true.1 f i (List.mem_range.2 hi);obtain⟨j,I,u⟩:=List.any_eq_true.1 G;have r:=List.mem_range.1 I;rw[PN r]at u;simp only[Po,decide_eq_true_eq]at u;obtain⟨⟨K,L⟩,E⟩:=u;have q:=y j fs[j] (PN r);rw[MR (by rw[v];exact r)]at q;obtain⟨n,l,s⟩:=aji d E q (i-fs[j].offset) (by omega);refine⟨n,?_,s⟩;rw[O0 (by omega),Pa]at l;rwa[show fs[j].offset+(i-fs[j].offset)=i by omega]at l
  ·rename_i n e hu
   simp only[Po,decide_eq_true_eq]at f;obtain⟨⟨f,B⟩,C⟩:=f;obtain⟨F,k,_,_,J,v,y⟩:=Ti hu h;have A:i / P.cellsOf e<n:=Sj (by rw[R5,<-C];exact hi);have z:=Nat.mod_lt i B;have q:=y (i / P.cellsOf e) A;rw[MR (by rw[v];exact A)]at q;obtain⟨m,l,s⟩:=aji d f q (i % P.cellsOf e) z;refine⟨m,?_,s⟩;rw[O0 z,Pa]at l;rwa[show i / P.cellsOf e*P.cellsOf e+i % P.cellsOf e=i by rw[R5];exact Nat.div_add_mod i _]at l
  ·cases f
theorem au2{cs:Array M7}(h:cs.size=16)(f:Nat->Int)(hf:∀i,i<16->cs.toList[i]?=MI (MF ME (f i))):cs=#[MF ME (f 0),MF ME (f 1),MF ME (f 2),MF ME (f 3),MF ME (f 4),MF ME (f 5),MF ME (f 6),MF ME (f 7),MF ME (f 8),MF ME (f 9),MF ME (f 10),MF ME (f 11),MF ME (f 12),MF ME (f 13),MF ME (f 14),MF ME (f 15)]:=by
 apply Array.toList_inj.1;apply Ot;intro i
 by_cases hi:i<16
 ·rw[hf i hi]
  have:i=0\/i=1\/i=2\/i=3\/i=4\/i=5\/i=6\/i=7\/i=8\/i=9\/i=10\/i=11\/i=12\/i=13\/i=14\/i=15:=by omega
  rcases this with rfl|rfl|rfl|rfl|rfl|rfl|rfl|rfl|rfl|rfl|rfl|rfl|rfl|rfl|rfl|rfl <;> rfl
 ·rw[Nz (by simp[h];omega),Nz (by simp;omega)]
theorem awT{r:Reach}{b0:Nat}{v:M7}{d:DataW H}{p:List MemPlace}(hs:P.underlying t=MI (.struct fs))(hc:P.cellsOf t=16)(hfl:aep P 3 t=Nw)
  (hv:Value.okWide P w r b0 t v) (h:DataW.Trod enc P w base spare held t v d p):∃f:Nat->Int,v=agc (f 0) (f 1) (f 2) (f 3) (f 4) (f 5) (f 6) (f 7) (f 8) (f 9) (f 10) (f 11) (f 12) (f 13) (f 14) (f 15)/\∀i,i<16->(N6 ME (f i)).wf=true:=by
 obtain⟨m,rfl,e⟩:=okWide_struct hs hv;obtain⟨fuel,l⟩:=h;have k:=aji 3 hfl l;rw[hc]at k e;obtain⟨f,j⟩:=choose_lt k;refine⟨f,?_,fun i hi=>(j i hi).2⟩;rw[au2 e f (fun i hi=>(j i hi).1)]
end
theorem avc:Tryz.prog.globalNamed "usher/wheel.blocks"=MI 0:=by kernel_rfl
theorem avw:(Tryz.prog.globals[0]?).map (·.type)=MI 22:=by kernel_rfl
abbrev anA:List (String×DataW Unit):=[("usher/wheel.blocks",Rows.laid_usher_wheel_blocks)]
theorem awR(os:Os)(args:Array M7):laidMetH MK anA ((World.doorLaid MK 400 os).forCall (fun _ _=>0) ⟨#[],args,[]⟩).memory :=
 laidMetH_of_parts3 (fuel:=8) (laidMet_of_run' 8 (by kernel_rfl) (by kernel_rfl)) (by kernel_rfl) (by kernel_rfl)
theorem awQ{W:MO}(h:laidMetH MK anA W):Xo W:=by
 rw[MakeChecks.laidMetH_plain _ _ _ (by kernel_rfl)]at h;obtain⟨ps,⟨g1,t1,E,f1,p1,q1,A,F,J,B,_,_⟩,_,_⟩:=h;obtain rfl:=NC (avc.symm.trans A);obtain rfl:=NC (avw.symm.trans F);obtain⟨O,z,rfl,k,Z,I,s⟩:=Ti Tryz.underlying22 B;have c3:Tryz.prog.cellsOf 3=1:=by kernel_rfl
 have y:=s 0 (by decide);have u:=s 1 (by decide);have v:=s 2 (by decide);have r:=fun i=>World.var?_cell A J i
 simp only[Rows.laid_usher_wheel_blocks,Q7,DataW.agg.injEq]at k
 match O,I,k,y,u,v with
 | [x0,x1,x2],_,k,y,u,v =>
  simp only[OA,P5,List.cons.injEq]at k;obtain⟨K,j,N,_⟩:=QW Ol (show Ry _ MK W 0 _ Nb z 3 _=MI x0 from y);obtain⟨L,e,U,_⟩:=QW Ol (show Ry _ MK W 0 _ Nb z 3 _=MI x1 from u);obtain⟨R,f,T,_⟩:=QW Ol (show Ry _ MK W 0 _ Nb z 3 _=MI x2 from v);have G:K=8:=by rw[N]at k;simpa using k.1.1.symm
  have D:L=64:=by rw[U]at k;simpa using k.1.2.1.symm
  have C:R=512:=by rw[T]at k;simpa using k.1.2.2.1.symm
  subst G D C;obtain⟨M⟩:=E;rw[c3]at j e f;have m:=r 0;have n:=r 1;have q:=r 2
  match M,j,e,f with
  | [a,b,c],j,e,f =>
   simp at j e f m n q;subst j e f;exact⟨m,n,q⟩
  | [],j,e,f=>simp at j
  | [a],j,e,f=>simp at e
  | [a,b],j,e,f=>simp at f
  |a::b::c::d::l,j,e,f =>
   simp at j e f m n q;subst j e f;exact⟨m,n,q⟩
end
section
open Go.ChangeShapes Go.WideShapes Go.ChangeAt Go.Deep
abbrev agP(d:Dd):List Value:=[MF ME d.k,MF ME d.a,MF ME d.b,MF ME d.c]
theorem anr(d:Dd):(agP d).length=4:=rfl
abbrev ajd(d:Dd):Prop:=(N6 ME d.k).wf=Nw/\(N6 ME d.a).wf=Nw/\(N6 ME d.b).wf=Nw/\(N6 ME d.c).wf=Nw
def ajl(P:O8)(fs:Array Field):Bool :=
 (Pm fs.size).all fun j=>match fs[j]? with
  |some f=>f.offset == j && P.cellsOf f.type == 1 && (match P.underlying f.type with|some (.int ME)=>Nw|_=>Nb)
  |none=>Nb
theorem avj{P:O8}(h:ajl P fs=Nw)(j:Nat)(f:Field)(hj:fs[j]?=MI f):f.offset=j/\P.cellsOf f.type=1/\P.underlying f.type=MI (.int ME):=by
 have e:j<fs.size:=(Array.getElem?_eq_some_iff.1 hj).1;have:=List.all_eq_true.1 h j (List.mem_range.2 e);simp only[hj,Po,beq_iff_eq]at this;obtain⟨⟨k,i⟩,d⟩:=this;refine⟨k,i,?_⟩;revert d;generalize P.underlying f.type=u;intro d
 split at d
 ·rfl
 ·cases d
section
variable {H:Type}{enc:NU×M7->H}{P:O8}{w:MO}{base:Nat}{spare:Nat->Bool}{held:Bool}
theorem avm{α:Type}{c:α->List M7}{k:Nat}(hk:∀x,(c x).length=k)(hk0:0<k)(mk:(Nat->Int)->α)(hmk:∀f j,j<k->(c (mk f))[j]?=MI (MF ME (f j))){e:NU}{v:M7}{x:DataW H×List MemPlace}(ht:P.underlying t=MI (.slice e))(he:P.underlying e=MI (.struct fs))(ce:P.cellsOf e=k)(hfs:fs.size=k)(hint:ajl P fs=Nw)
  (h:Ry enc P w base spare held fuel t [v]=MI x) :
  ∃l:List α,Xw c w v l/\(∀y∈l,∃f:Nat->Int,y=mk f/\∀j,j<k->(N6 ME (f j)).wf=Nw)/\((∃D sp,x.1=.slice ((Pm l.length).map D) sp)\/l=[]):=by
 rcases open_slice ht h with⟨s,_⟩|⟨a,len,a4,m,n,D,Pl,s,hb,hl,hm,a5,rfl,hx⟩
 ·simp at s
  subst s;exact⟨[],ak3 w,by simp,NF rfl⟩
 ·simp at s
  subst s;have b1:len<=m:=by rw[a5];split <;> omega
  have T:∀i,i<m->∃q:Nat->Int,∀j,j<k->w.cell? (a.add (i*k+j))=MI (MF ME (q j))/\(N6 ME (q j)).wf=true:=by
   intro i d;obtain⟨K,L,h2⟩:=hx i d;rw[ce]at L;obtain⟨_,r,O⟩:=World.cells?_some L;obtain⟨xs,k',a9,a8,_,a6,hf⟩:=Tg he h2;have a3:∀j,j<k->∃q:Int,w.cell? (a.add (i*k+j))=MI (MF ME q)/\(N6 ME q).wf=true:=by
    intro j N;have C:j<fs.size:=by omega
    have g:=hf j fs[j] (PN C);obtain⟨o,c1,u⟩:=avj hint j fs[j] (PN C);rw[MR (by rw[a6];exact C),o,c1]at g;obtain⟨I,z0,_,w0⟩:=QW u g;have G:=O j (by omega);rw[add_add]at G;have a0:K[j]?=MI (MF ME I):=by
     have:(K.drop j).head?=MI (MF ME I):=by
      have M:=congrArg List.head? z0;rw[List.head?_take]at M
      simpa using M
     rw[List.head?_drop]at this;exact this
    rw[a0]at G;exact⟨I,G,w0⟩
   obtain⟨q,z⟩:=choose_lt a3;exact⟨q,z⟩
  obtain⟨q,z⟩:=choose_lt T;have r:((Pm len).map (fun i=>mk (q i))).length=len:=by simp
  refine⟨(Pm len).map (fun i=>mk (q i)),?_,?_,Nt ⟨D,_,by rw[r]⟩⟩
  ·unfold Xw
   rw[r];refine⟨MI a,a4,rfl,hl,hm,?_⟩
   by_cases h0:len=0
   ·exact Nt ⟨h0,by rw[h0];rfl⟩
   ·obtain⟨b,off,U⟩:=a
    have E:=(z 0 (by omega) 0 hk0).1;have R:U=none:=by simpa [Addr.add]using World.cell?_spot E
    subst R;have J:∀i,(⟨b,off,MH⟩:Oc).add i=⟨b,off+i,MH⟩:=fun i=>by unfold Addr.add;split <;> simp_all
    refine NF ⟨b,off,rfl,?_,fun i d=>?_⟩
    ·rw[J]at E
     exact MX w ⟨b,off+(0*k+0),MH⟩ E
    ·rw[abx hk,r]at d
     have Z:i / k<len:=Sj (by rw[R5];exact d);have B:i % k<k:=Nat.mod_lt _ hk0;have A:=ZA hk ((Pm len).map (fun i=>mk (q i))) (i / k) (i % k) (by rw[r];exact Z) B;have F:=(z (i / k) (by omega) (i % k) B).1;have a7:i / k*k+i % k=i:=by rw[R5];exact Nat.div_add_mod i k
     rw[a7]at A F;rw[J]at F;simp only[QZ,List.getElem_range]at A
     rw[hmk _ _ B]at A
     rw[F,A]
  ·intro y hy
   obtain⟨i,d,rfl⟩:=List.mem_map.1 hy;exact⟨q i,rfl,fun j N=>(z i (by have:=List.mem_range.1 d;omega) j N).2⟩
abbrev anB(f:Nat->Int):Dd:=⟨f 0,f 1,f 2,f 3⟩
theorem avl(f:Nat->Int)(j:Nat)(hj:j<4):(agP (anB f))[j]?=MI (MF ME (f j)):=by
 match j,hj with
 |0,_=>rfl
 |1,_=>rfl
 |2,_=>rfl
 |3,_=>rfl
theorem awS{e:NU}{v:M7}{x:DataW H×List MemPlace}(ht:P.underlying t=MI (.slice e))(he:P.underlying e=MI (.struct fs))(ce:P.cellsOf e=4)(hfs:fs.size=4)(hint:ajl P fs=Nw)
  (h:Ry enc P w base spare held fuel t [v]=MI x):∃(l:List Dd) (p:Option Oc) (k:Nat),v=MG p l.length k/\Xw agP w (MG p l.length k) l/\∀d∈l,ajd d:=by
 obtain⟨l,j,m,_⟩:=avm anr (by decide) anB avl ht he ce hfs hint h;obtain⟨p,k,rfl,_,_⟩:=Xw.Ga j;refine⟨l,p,k,rfl,j,fun d hd=>?_⟩;obtain⟨f,rfl,i⟩:=m d hd;exact⟨i 0 (by omega),i 1 (by omega),i 2 (by omega),i 3 (by omega)⟩
end
end
abbrev afq(h:Int×Int):List Value:=[MF ME h.1,MF ME h.2]
abbrev aaV(e:Ev):List Value:=[MF ME e.kind,MF ME e.key,MF ME e.slot,MF ME e.gen,M3 e.good,MF ME e.req,MF ME e.be,MF ME e.wt]
abbrev ac8(c:Cf):List Value:=[MF ME c.flows,MF ME c.num,MF ME c.den,MF ME c.tries,MF ME c.warm,MF ME c.drain,MF ME c.idle,MF ME c.conn,MF ME c.ret,MF ME c.most,MF ME c.bn,MF ME c.bd,MF ME c.bb,MF ME c.wn,MF ME c.wf,MF ME c.wh]
structure Sq where
 s:Sp
 u:Us
 v:Us
 po:Option Oc
 co:Nat
def abK(q:Sq):List Value:=aaV q.s.ev++((XR q.u q.s.bef).toList++((XR q.v q.s.aft).toList++[MG q.po q.s.out.length q.co]))
theorem anw(x:Int×Int):(afq x).length=2:=rfl
theorem avt(x:Sq):(abK x).length=61:=rfl
theorem avg(x:Int×Int):∀u∈afq x,u.oneCell'=true:=by
 intro u d;simp only[OO,OD,or_false]at d;rcases d with rfl|rfl <;> rfl
theorem anD(U:Us)(G:Gt):∀u∈(XR U G).toList,u.oneCell'=true:=fun u hu=>Array.all_eq_true_iff_forall_mem.1 (ado U G) u (by simpa using hu)
theorem au7(e:Ev):∀u∈aaV e,u.oneCell'=true:=by
 intro u d;simp only[OO,OD,or_false]at d;rcases d with rfl|rfl|rfl|rfl|rfl|rfl|rfl|rfl <;> rfl
theorem avs(x:Sq):∀u∈abK x,u.oneCell'=true:=by
 intro u d;unfold abK at d;rcases List.mem_append.1 d with h|h
 ·exact au7 _ u h
 ·rcases List.mem_append.1 h with h|h
  ·exact anD _ _ u h
  ·rcases List.mem_append.1 h with h|h
   ·exact anD _ _ u h
   ·rw[List.mem_singleton.1 h];rfl
def aje(W:MO)(q:Sq):Prop:=Xd W q.u q.s.bef/\Xd W q.v q.s.aft/\Xw Z1 W (MG q.po q.s.out.length q.co) q.s.out
structure Pv where
 ps:Option Oc
 cs:Nat
 pg:Option Oc
 cg:Nat
 u:Us
 qs:List Sq
def Pv.own(V:Pv)(g b:Nat):Prop:=b=g\/V.ps.map (·.block)=MI b\/V.pg.map (·.block)=MI b
def adM(V:Pv)(c:Cf)(P:Py):List Value:=ac8 c++(MG V.ps V.qs.length V.cs::((XR V.u P.last).toList++[MG V.pg P.giv.length V.cg]))
structure WU(base:Nat)(w:MO)(g:Nat)(V:Pv)(c:Cf)(P:Py):Prop where
 box:w.heap[g]?=MI (MP (adM V c P).toArray 65 (0,0))
 low:base<=g
 eqs:V.qs.map (·.s)=P.steps
 rows:w.ownsRow base 81 61 (MG V.ps V.qs.length V.cs) V.qs.length (rv abK V.qs)
 giv:w.ownsRow base 96 2 (MG V.pg P.giv.length V.cg) P.giv.length (rv afq P.giv)
 og:V.ps.map (·.block)≠MI g
 oh:V.pg.map (·.block)≠MI g
 op:∀b,V.ps.map (·.block)=MI b->V.pg.map (·.block)≠MI b
 last:XG (V.own g) w fun X=>Xd X V.u P.last
 all:∀q∈V.qs,XG (V.own g) w fun X=>aje X q
structure XK(V V':Pv)(g:Nat)(w w':MO):Prop where
 os:w'.os=w.os
 tape:w'.tape=w.tape
 output:w'.output=w.output
 size:w.heap.size<=w'.heap.size
 block:∀b,b<w.heap.size->¬V.own g b->w'.heap[b]?=w.heap[b]?
 ext:∀b,V'.own g b->V.own g b\/w.heap.size<=b
section
variable {base:Nat}{w w' w1 w2:MO}{g:Nat}{V V' V1 V2:Pv}{c:Cf}{P:Py}
theorem WU.lt(h:WU base w g V c P):g<w.heap.size:=(Array.getElem?_eq_some_iff.1 h.box).1
theorem WU.steps(h:WU base w g V c P):P.steps.length=V.qs.length:=by rw[<-h.eqs,N0]
theorem XK.F5(h:MQ w.heap.size w w1):XK V V g w w1:=⟨h.os,h.tape,h.output,h.size,fun b hb _=>h.block b hb,fun _ h=>Nt h⟩
theorem XK.F0(h:XK V V1 g w w1)(k:XK V1 V2 g w1 w2):XK V V2 g w w2 :=
 ⟨k.os.trans h.os,k.tape.trans h.tape,k.output.trans h.output,Nm h.size k.size,fun b hb hn=>(k.block b (M8 hb h.size) fun e=>by
  rcases h.ext b e with e|e
  ·exact hn e
  ·omega).trans (h.block b hb hn),fun b e=>by
  rcases k.ext b e with e|e
  ·exact h.ext b e
  ·exact NF (Nm h.size e)⟩
theorem WU.Mb(h:WU base w g V c P){b:Nat}(hb:V.own g b):base<=b/\b<w.heap.size:=by
 rcases hb with rfl|e|e
 ·exact⟨h.low,h.lt⟩
 ·exact h.rows.lt b (by rw[XV];exact e)
 ·exact h.giv.lt b (by rw[XV];exact e)
theorem XK.IT(h:XK V V1 g w w1)(hP:WU base w g V c P)(hb:base<=w.heap.size):MQ base w w1 :=
 ⟨h.os,h.tape,h.output,h.size,fun b q=>h.block b (by omega) fun e=>by have:=(hP.Mb e).1;omega⟩
theorem WU.below(h:WU base w g V c P)(hb:MQ w.heap.size w w'):WU base w' g V c P :=
 ⟨(hb.block g h.lt).trans h.box,h.low,h.eqs,W8 h.rows fun b e=>hb.block b (h.rows.lt b e).2,W8 h.giv fun b e=>hb.block b (h.giv.lt b e).2,h.og,h.oh,h.op,h.last.below hb,fun q hq=>(h.all q hq).below hb⟩
theorem WU.MB(h:WU base w g V c P)(hs:w.heap.size<=w'.heap.size)(hb:∀b,b<w.heap.size->V.ps.map (·.block)≠MI b->w'.heap[b]?=w.heap[b]?){p:Option Oc}{k:Nat}{q:Sq}
  (ho:w'.ownsRow base 81 61 (MG p (V.qs++[q]).length k) (V.qs++[q]).length (rv abK (V.qs++[q]))) (hp:∀b,p.map (·.block)=MI b->V.ps.map (·.block)=MI b\/w.heap.size<=b)
  (hq:XG (V.own g) w fun X=>aje X q) (hl:q.s.bef=P.last) :
  WU base (w'.setCell ⟨g,16,MH⟩ (MG p (V.qs++[q]).length k)) g {V with ps:=p,cs:=k,qs:=V.qs++[q]} c {P with steps:=P.steps++[q.s]}:=by
 have n:=(hb g h.lt h.og).trans h.box;have j:∀b,p.map (·.block)=MI b->b≠g:=fun b e e2=>by
  subst e2;rcases hp b e with e|e
  ·exact h.og e
  ·have:=h.lt;omega
 have f:∀b,b≠g->(w'.setCell ⟨g,16,MH⟩ (MG p (V.qs++[q]).length k)).heap[b]?=w'.heap[b]?:=fun b e=>MU _ _ _ _ (fun e2=>e e2)
 have m:(w'.setCell ⟨g,16,MH⟩ (MG p (V.qs++[q]).length k)).heap.size=w'.heap.size:=by simp
 have i:∀ {p':MO->Prop},XG (V.own g) w p'->XG (Pv.own {V with ps:=p,cs:=k,qs:=V.qs++[q]} g) (w'.setCell ⟨g,16,MH⟩ (MG p (V.qs++[q]).length k)) p':=fun hA =>
  hA.step (by rw[m];exact hs) (fun b q1 q2=>(f b fun e=>q2 (Nt e)).trans (hb b q1 fun e=>q2 (NF (Nt e)))) fun b q1 e=>by
   rcases e with e|e|e
   ·exact Nt e
   ·exact(hp b e).elim (fun e=>NF (Nt e)) fun e=>by omega
   ·exact NF (NF e)
 refine⟨?_,h.low,by rw[OI,h.eqs];rfl,W8 ho fun b e=>f b (j b (by rw[<-XV];exact e)),W8 h.giv fun b e=>?_,fun e=>j g e rfl,h.oh,fun b e1 e2=>?_,i h.last,fun x d=>?_⟩
 ·exact YO n rfl
 ·have l:V.pg.map (·.block)=MI b:=by rw[<-XV];exact e
  rw[f b fun e2=>h.oh (by rw[l,e2])];exact hb b (h.giv.lt b e).2 fun e2=>h.op b e2 l
 ·rcases hp b e1 with e|e
  ·exact h.op b e e2
  ·have:=(h.giv.lt b (by rw[XV];exact e2)).2
   omega
 ·rcases List.mem_append.1 d with d|d
  ·exact i (h.all x d)
  ·rw[List.mem_singleton.1 d];exact i hq
theorem anx(T:NU)(g:Nat):∀(vs pre old post:List M7) (w:MO),old.length=vs.length->w.heap[g]?=MI (MP (pre++(old++post)).toArray T (0,0))->(w.setCells g pre.length vs).heap[g]?=MI (MP (pre++(vs++post)).toArray T (0,0))
 | [],pre,old,post,w,ho,h=>by
  obtain rfl:old=[]:=List.length_eq_zero_iff.1 (by simpa using ho);exact h
 |v::vs,pre,[],post,w,ho,h=>by simp at ho
 |v::vs,pre,u::old,post,w,ho,h=>by
  have d:=NI w g pre.length _ T v h;have e:(pre++(u::old++post)).toArray.setIfInBounds pre.length v=((pre++[v])++(old++post)).toArray:=by
   apply Array.toList_inj.1;simp
  rw[e]at d;have f:=anx T g vs (pre++[v]) old post _ (by simpa using ho) d;rw[Qd]
  simpa using f
theorem WU.MC(h:WU base w g V c P)(U:Us)(G:Gt)(hG:XG (V.own g) w fun X=>Xd X U G) :
  WU base (w.setCells g 17 (XR U G).toList) g {V with u:=U} c {P with last:=G}:=by
 have d:∀b,b<w.heap.size->b≠g->(w.setCells g 17 (XR U G).toList).heap[b]?=w.heap[b]?:=fun b f e=>N8 w g 17 _ f e
 have j:(w.setCells g 17 (XR U G).toList).heap.size=w.heap.size:=ac3 _ _ _ _;have i:∀ {p':MO->Prop},XG (V.own g) w p'->XG (Pv.own {V with u:=U} g) (w.setCells g 17 (XR U G).toList) p':=fun hA =>
  hA.step (by rw[j];exact MV _) (fun b q1 q2=>d b q1 fun e=>q2 (Nt e)) fun b q1 e=>e
 refine⟨?_,h.low,h.eqs,W8 h.rows fun b e=>d b (h.rows.lt b e).2 fun e2=>h.og (by rw[<-XV,e,e2]),W8 h.giv fun b e=>d b (h.giv.lt b e).2 fun e2=>h.oh (by rw[<-XV,e,e2]),h.og,h.oh,h.op,i hG,fun x hx=>i (h.all x hx)⟩;have f:w.heap[g]?=MI (MP ((ac8 c++[MG V.ps V.qs.length V.cs])++((XR V.u P.last).toList++[MG V.pg P.giv.length V.cg])).toArray 65 (0,0)):=h.box;exact anx 65 g (XR U G).toList (ac8 c++[MG V.ps V.qs.length V.cs]) (XR V.u P.last).toList [MG V.pg P.giv.length V.cg] w rfl f
theorem WU.MA(h:WU base w g V c P)(hs:w.heap.size<=w'.heap.size)(hb:∀b,b<w.heap.size->V.pg.map (·.block)≠MI b->w'.heap[b]?=w.heap[b]?){p:Option Oc}{k:Nat}{l:List (Int×Int)}
  (ho:w'.ownsRow base 96 2 (MG p l.length k) l.length (rv afq l)) (hp:∀b,p.map (·.block)=MI b->V.pg.map (·.block)=MI b\/w.heap.size<=b) :
  WU base (w'.setCell ⟨g,43,MH⟩ (MG p l.length k)) g {V with pg:=p,cg:=k} c {P with giv:=l}:=by
 have n:=(hb g h.lt h.oh).trans h.box;have f:∀b,p.map (·.block)=MI b->b≠g:=fun b e e2=>by
  subst e2;rcases hp b e with e|e
  ·exact h.oh e
  ·have:=h.lt;omega
 have d:∀b,b≠g->(w'.setCell ⟨g,43,MH⟩ (MG p l.length k)).heap[b]?=w'.heap[b]?:=fun b e=>MU _ _ _ _ (fun e2=>e e2)
 have m:(w'.setCell ⟨g,43,MH⟩ (MG p l.length k)).heap.size=w'.heap.size:=by simp
 have i:∀ {p':MO->Prop},XG (V.own g) w p'->XG (Pv.own {V with pg:=p,cg:=k} g) (w'.setCell ⟨g,43,MH⟩ (MG p l.length k)) p':=fun hA =>
  hA.step (by rw[m];exact hs) (fun b q1 q2=>(d b fun e=>q2 (Nt e)).trans (hb b q1 fun e=>q2 (NF (NF e)))) fun b q1 e=>by
   rcases e with e|e|e
   ·exact Nt e
   ·exact NF (Nt e)
   ·exact(hp b e).elim (fun e=>NF (NF e)) fun e=>by omega
 refine⟨?_,h.low,h.eqs,W8 h.rows fun b e=>?_,W8 ho fun b e=>d b (f b (by rw[<-XV];exact e)),h.og,fun e=>f g e rfl,fun b e1 e2=>?_,i h.last,fun x hx=>i (h.all x hx)⟩
 ·exact YO n rfl
 ·have j:V.ps.map (·.block)=MI b:=by rw[<-XV];exact e
  rw[d b fun e2=>h.og (by rw[j,e2])];exact hb b (h.rows.lt b e).2 fun e2=>h.op b j e2
 ·rcases hp b e2 with e|e
  ·exact h.op b e1 e
  ·have:=(h.rows.lt b (by rw[XV];exact e1)).2
   omega
end
theorem WU.Mo{base:Nat}{w:MO}{g:Nat}{V:Pv}{c:Cf}{P:Py}(h:WU base w g V c P):w.rangeAt g 17 (XR V.u P.last).toList:=fun j v hv=>by
 have d:j<26:=(List.getElem?_eq_some_iff.1 hv).1;rw[MW w g (17+j) _ _ (0,0) h.box];have e:adM V c P=(ac8 c++[MG V.ps V.qs.length V.cs])++((XR V.u P.last).toList++[MG V.pg P.giv.length V.cg]):=rfl;rw[List.getElem?_toArray,e,Tw (by show 17<=17+j;omega),show 17+j-(ac8 c++[MG V.ps V.qs.length V.cs]).length=j by show 17+j-17=j;omega,OJ d];exact hv
structure Yc(base:Nat)(X:MO)(g:Nat)(V:Pv)(c:Cf)(P:Py)(h:Nat)(e:Ev):Prop where
 pat:WU base X g V c P
 evb:X.heap[h]?=MI (MP (aaV e).toArray 76 (0,0))
 blk:Xo X
theorem Yc.on{base:Nat}{X:MO}{g:Nat}{V:Pv}{c:Cf}{P:Py}{h:Nat}{e:Ev}(k:Yc base X g V c P h e)(hb:MQ X.heap.size X Y):Yc base Y g V c P h e:=⟨k.pat.below hb,WO k.evb hb,k.blk.below hb⟩
theorem Yc.ev{base:Nat}{X:MO}{g:Nat}{V:Pv}{c:Cf}{P:Py}{h:Nat}{e:Ev}(k:Yc base X g V c P h e):X.rangeAt h 0 (aaV e):=agb k.evb
structure Xl(base:Nat)(W u:MO)(g:Nat)(V:Pv)(c:Cf)(P:Py)(h:Nat)(e:Ev)(b:Nat)(M:List M7)(U:Us)(po:Option Oc)(co:Nat):Prop where
 dos:Yc base u g V c P h e
 mem:M=(XR U (Xb P.last e)).toList
 box:u.heap[b]?=MI (MP M.toArray 61 (0,0))
 low:W.heap.size<=b
 bel:MQ W.heap.size W u
 ans:XG (V.own g) u fun X=>Xd X U (Xb P.last e)/\Xw Z1 X (MG po (Xb P.last e).out.length co) (Xb P.last e).out
 lt:∀x,V.own g x->x<W.heap.size
 no:¬V.own g h
theorem anz:(Tryz.prog.info? 76).map (·.size)=MI 8:=by kernel_rfl
theorem anp{S:Nat->Prop}{w5 u:MO}{B b5:Nat}{p:MO->Prop}(hA:∀X,aba B w5 X->p X)(hs:w5.heap.size<=u.heap.size)(hu:∀b,b<w5.heap.size->b≠b5->u.heap[b]?=w5.heap[b]?)(h5:b5<B\/w5.heap.size<=b5)(hS:∀b,S b->b<B):XG S u p :=
 fun X h1 h2=>hA X ⟨Nm hs h1,fun b q1 q2=>(h2 b (M8 q2 hs) fun e=>by have:=hS b e;omega).trans (hu b q2 (by omega))⟩
theorem anq{w:MO}{g:Nat}{a b:List M7}{T:NU}(h:w.heap[g]?=MI (MP a.toArray T (0,0)))(he:a.length=b.length):(w.setCells g 0 b).heap[g]?=MI (MP b.toArray T (0,0)):=ac0 T g b [] a w he h
theorem au4(q:Sq)(W:MO):(QA 81 #[(0,Ny (aaV q.s.ev).toArray),(1,Ny (XR q.u q.s.bef)),(2,Ny (XR q.v q.s.aft)),(3,MG q.po q.s.out.length q.co)]).run MK W=.ok (Ny (abK q).toArray) W:=by kernel_rfl
theorem avr(q:Sq)(W:MO):(Q0 62 1 #[(0,Ny (abK q).toArray)]).run MK W=.ok (MG (MI ⟨W.heap.size,0,MH⟩) 1 1) (W.alloc (MP (abK q).toArray 81)):=by kernel_rfl
abbrev avu:Value:=Ny ((aaV ⟨0,0,0,0,Nb,0,0,0⟩++(wz++(wz++[MG MH 0 0]))).toArray)
theorem avi:(Tryz.prog.info? 81).map (fun i=>(i.zero,i.size,i.bytes))=MI (MI avu,61,728):=by kernel_rfl
theorem avh:(Tryz.prog.info? 96).map (fun i=>(i.zero,i.size,i.bytes))=MI (MI (Ny #[MF ME 0,MF ME 0]),2,16):=by kernel_rfl
theorem avp{P:O8}{md:Region.Mode}{listed:Array Bool}{w:MO}{i:Nat}(ho:ops[i]?=MI o)(hg:o.guard=MH)(t:NU)(n:Nat)(parts:Array (Nat×Operand))(hop:o.op=.buildSlice t n parts)
  (y:M7) (hr:(Q0 t n (parts.map fun(i,x)=>(i,a.eval x))).run P w=.ok y w1) (hS:S w1)
  (h:wpAnyH P md ops Q S fuel (listed.setIfInBounds i Nw) (a.put o.dst y) w1):AllReadyH P md ops Q S fuel listed a w [i]:=by
 refine NP ho (fun K hK=>?_) NX;have d:Pz o (yielded ops a.tmps)=true:=by simp[Pz,hg]
 rw[Nh d];unfold RB execOp;simp only[hop,Pn,P3,PG,hr];exact hK.out _ _ hS (fun _=>h)
theorem avv{P:O8}{w:MO}{K:Act->MO->Prop}{E:Prop}(hg:o.guard=MH)(t:NU)(n:Nat)(parts:Array (Nat×Operand))(hop:o.op=.buildSlice t n parts)
  (y:M7) (hr:(Q0 t n (parts.map fun(i,x)=>(i,a.eval x))).run P w=.ok y w1) (h:K (a.put o.dst y) w1):if Pz o (yielded ops a.tmps)=Nw then RB P o a w K Q else E:=by
 have d:Pz o (yielded ops a.tmps)=true:=by simp[Pz,hg]
 rw[Nh d];unfold RB execOp;simp only[hop,Pn,P3,PG,hr];exact h
theorem avx{P:O8}{op:Oper}(hw:Pz op (yielded ops a.tmps)=Nw)(T:NU)(parts:Array (Nat×Operand))(ho:op.op=.build T parts)(y:M7)
  (hr:∀w,(QA T (parts.map fun(i,x)=>(i,a.eval x))).run P w=.ok y w):YieldsIf P ops S op y a :=
 Nt ⟨hw,fun w hw'=>by
  unfold execOp;simp only[ho,Pn,P3,PG,hr w]⟩
theorem anC{P:O8}{md:Region.Mode}{listed:Array Bool}{w:MO}{i:Nat}(ho:ops[i]?=MI o)(hg:o.guard=MH)(s x:Operand)(t:NU)
  (hop:o.op=.call {callee:=.builtin .append,args:=#[s,x],argTypes:=#[t,t]}) (v u y:M7) (hs:a.eval s=v) (hx:a.eval x=u) (hr:(N2 #[t,t] o.type #[v,u]).run P w=.ok y w1) (hS:S w1)
  (h:wpAnyH P md ops Q S fuel (listed.setIfInBounds i Nw) (a.put o.dst y) w1):AllReadyH P md ops Q S fuel listed a w [i]:=by
 refine NP ho (fun K hK=>?_) NX;refine aec hg s x t hop v u y w1 hs hx hr ?_;exact hK.out _ _ hS (fun _=>h)
theorem Xl.on{base:Nat}{W u:MO}{g:Nat}{V:Pv}{c:Cf}{P:Py}{h:Nat}{e:Ev}{b:Nat}{M:List M7}{U:Us}{po:Option Oc}{co:Nat}(k:Xl base W u g V c P h e b M U po co)(hb:MQ u.heap.size u Y):Xl base W Y g V c P h e b M U po co :=
 ⟨k.dos.on hb,k.mem,WO k.box hb,k.low,k.bel.trans (hb.mono k.bel.size),k.ans.below hb,k.lt,k.no⟩
theorem Xl.Gm{base:Nat}{W u:MO}{g:Nat}{V:Pv}{c:Cf}{P:Py}{h:Nat}{e:Ev}{b:Nat}{M:List M7}{U:Us}{po:Option Oc}{co:Nat}(k:Xl base W u g V c P h e b M U po co):u.cell? ⟨g,16,MH⟩=MI (MG V.ps V.qs.length V.cs):=by
 rw[MW u g 16 _ _ (0,0) k.dos.pat.box];rfl
def abs(X:MO)(h g q:Nat)(e:Ev)(L M:List M7):Prop:=X.rangeAt h 0 (aaV e)/\X.rangeAt g 17 L/\X.rangeAt q 0 M
theorem afr{X:MO}{b o:Nat}{cs:List M7}(h:X.rangeAt b o cs)(e:Y.heap[b]?=X.heap[b]?):Y.rangeAt b o cs:=fun j v hv=>(NG e).trans (h j v hv)
theorem Xl.Gz{base:Nat}{W u:MO}{g:Nat}{V:Pv}{c:Cf}{P:Py}{h:Nat}{e:Ev}{b:Nat}{M:List M7}{U:Us}{po:Option Oc}{co:Nat}(k:Xl base W u g V c P h e b M U po co):abs u h g b e (XR V.u P.last).toList M :=
 ⟨k.dos.ev,k.dos.pat.Mo,agb k.box⟩
theorem abs.Gf{X:MO}{h g q:Nat}{e:Ev}{L M:List M7}(k:abs X h g q e L M)(e1:Y.heap[h]?=X.heap[h]?)(e2:Y.heap[g]?=X.heap[g]?)(e3:Y.heap[q]?=X.heap[q]?):abs Y h g q e L M:=⟨afr k.1 e1,afr k.2.1 e2,afr k.2.2 e3⟩
theorem abs.F4{X:MO}{h g q:Nat}{e:Ev}{L M:List M7}(k:abs X h g q e L M)(h1:h≠g)(h2:q≠g)(v:M7):abs (X.setCell ⟨g,16,MH⟩ v) h g q e L M :=
 ⟨afr k.1 (MU _ _ _ _ (fun e=>h1 e)),fun j y hy=>(World.cell?_setCell_other _ _ _ _ (fun e=>by injection e with _ e2 _;omega)).trans (k.2.1 j y hy),afr k.2.2 (MU _ _ _ _ (fun e=>h2 e))⟩
structure abr(base:Nat)(W u:MO)(g:Nat)(V V8:Pv)(c:Cf)(P8:Py)(b:Nat)(M:List M7)(U:Us)(T:Gt)(po:Option Oc)(co:Nat):Prop where
 pat:WU base u g V8 c P8
 box:u.heap[b]?=MI (MP M.toArray 61 (0,0))
 no:¬V8.own g b
 ans:XG (V8.own g) u fun X=>Xd X U T/\Xw Z1 X (MG po T.out.length co) T.out
 frm:XK V V8 g W u
structure aai(base:Nat)(W u:MO)(g:Nat)(V V9:Pv)(c:Cf)(P:Py)(s:Sp)(B:Gt)(l:List Ou)(k:Nat)(po:Option Oc)(co:Nat):Prop where
 pat:WU base u g V9 c ⟨P.steps++[s],B,P.giv++Zi (l.take k)⟩
 frm:XK V V9 g W u
 out:XG (V9.own g) u fun X=>Xw Z1 X (MG po l.length co) l
theorem avb{V8:Pv}{U:Us}{g:Nat}{u:MO}(vs:List M7):XK V8 {V8 with u:=U} g u (u.setCells g 17 vs):=by
 have d:=adF (B:=0) (w0:=u) (g:=g) (MY 0 u) (Nx _) 17 vs (Nx _);exact⟨d.os,d.tape,d.output,d.size,fun b q1 q2=>N8 u g 17 _ q1 fun e=>q2 (Nt e),fun b e=>Nt e⟩
theorem ave{l:List Ou}{k:Nat}(hk:k<l.length):Zi (l.take (k+1))=Zi (l.take k)++(if l[k].kind=1 then [(l[k].slot,l[k].gen)]else []):=by
 unfold Zi;rw[M9 hk,OY,OI]
 congr 1
 by_cases h:l[k].kind=1
 ·rw[Nh h,List.filter_cons_of_pos (by simp[h])];rfl
 ·rw[Nf h,List.filter_cons_of_neg (by simp[h])];rfl
theorem avo{base:Nat}{W u:MO}{g:Nat}{V:Pv}{c:Cf}{P:Py}{h:Nat}{e:Ev}{b:Nat}{M:List M7}{U:Us}{po:Option Oc}{co:Nat}(k:Xl base W u g V c P h e b M U po co)(hl:V.qs.length<=100000)(hbase:base<=u.heap.size)(z:Sq)
  (hz:z=⟨⟨e,P.last,(Xb P.last e).Ma,(Xb P.last e).out⟩,V.u,U,po,co⟩) (hfr:W.heap.size<=u.heap.size) :
  ∃q' c' w9,(N2 #[62,62] 62 #[MG V.ps V.qs.length V.cs,MG (MI ⟨u.heap.size,0,MH⟩) 1 1]).run MK (u.alloc (MP (abK z).toArray 81))=.ok (MG (MI ⟨q',0,MH⟩) (V.qs.length+1) c') w9 /\
   (w9.cell? ⟨g,16,MH⟩=MI (MG V.ps V.qs.length V.cs)/\w9.frozen? ⟨g,16,MH⟩=Nb)/\(∀x,x<u.heap.size->V.ps.map (·.block)≠MI x->w9.heap[x]?=u.heap[x]?) /\
   abr base W (w9.setCell ⟨g,16,MH⟩ (MG (MI ⟨q',0,MH⟩) (V.qs.length+1) c')) g V {V with ps:=MI ⟨q',0,MH⟩,cs:=c',qs:=V.qs++[z]} c {P with steps:=P.steps++[z.s]} b M U (Xb P.last e) po co:=by
 have f:=k.dos.pat
 obtain⟨q',c',w9,I,F,d,D⟩:=afC avt avs (by decide) Tryz.underlying62 avi rfl (w:=u) (base:=base) f.rows hbase 62 z (abK z).toArray rfl (by omega) (by unfold NE;omega);have i:∀x,x<u.heap.size->V.ps.map (·.block)≠MI x->w9.heap[x]?=u.heap[x]?:=fun x hx hne=>d.block x hx (fun e=>hne (by rw[e,XV]))
 have r:=(i g f.lt f.og).trans f.box;have A:∀x,(MI (⟨q',0,MH⟩:Oc)).map (·.block)=MI x->V.ps.map (·.block)=MI x\/u.heap.size<=x:=fun x e=>by
  cases e;rcases D with e|e
  ·exact Nt (by rw[<-XV _ V.qs.length V.cs];exact e)
  ·exact NF (PJ e)
 have n:(V.qs++[z]).length=V.qs.length+1:=by simp
 have G:XG (V.own g) u fun X=>aje X z:=fun X h1 h2=>by
  have J:=f.last X h1 h2;have B:=k.ans X h1 h2;rw[hz];exact⟨J,B.1.Ma,B.2⟩
 have C:=f.MB (w':=w9) (p:=MI ⟨q',0,MH⟩) (k:=c') (q:=z) d.size i (by rw[n];exact F) A G (by rw[hz]);rw[n]at C;have v:b<u.heap.size:=(Array.getElem?_eq_some_iff.1 k.box).1;have m:¬V.own g b:=fun e=>by have:=k.lt b e;have:=k.low;omega
 have K:b≠g:=fun e=>m (Nt e)
 have E:∀x,x≠g->(w9.setCell ⟨g,16,MH⟩ (MG (MI ⟨q',0,MH⟩) (V.qs.length+1) c')).heap[x]?=w9.heap[x]?:=fun x e=>MU _ _ _ _ (fun e2=>e e2)
 have y:(w9.setCell ⟨g,16,MH⟩ (MG (MI ⟨q',0,MH⟩) (V.qs.length+1) c')).heap.size=w9.heap.size:=by simp
 have j:∀x,x<u.heap.size->Pv.own {V with ps:=MI ⟨q',0,MH⟩,cs:=c',qs:=V.qs++[z]} g x->V.own g x:=fun x q1 e=>by
  rcases e with e|e|e
  ·exact Nt e
  ·exact(A x e).elim (fun e=>NF (Nt e)) fun e=>by omega
  ·exact NF (NF e)
 have l:∀x,x<u.heap.size->¬V.own g x->(w9.setCell ⟨g,16,MH⟩ (MG (MI ⟨q',0,MH⟩) (V.qs.length+1) c')).heap[x]?=u.heap[x]?:=fun x q1 q2=>(E x fun e=>q2 (Nt e)).trans (i x q1 fun e=>q2 (NF (Nt e)))
 refine⟨q',c',w9,I,⟨by rw[MW w9 g 16 _ _ (0,0) r];rfl,by simp[Ng,r]⟩,i,C,(l b v m).trans k.box,fun e=>m (j b v e),k.ans.step (by rw[y];exact d.size) l j,?_⟩;refine⟨d.os.trans k.bel.os,d.tape.trans k.bel.tape,d.output.trans k.bel.output,by rw[y];exact Nm hfr d.size,fun x q1 q2=>(l x (M8 q1 hfr) q2).trans (k.bel.block x q1),fun x e=>?_⟩
 ·by_cases hxu:x<u.heap.size
  ·exact Nt (j x hxu e)
  ·exact NF (by omega)
theorem au1{V V':Pv}{g:Nat}{w w':MO}{p:MO->Prop}(h:XG (V.own g) w p)(hf:XK V V' g w w'):XG (V'.own g) w' p :=
 h.step hf.size hf.block fun b hb e=>(hf.ext b e).elim id fun e=>by omega
theorem avf(l:List Ou)(k:Nat):(Zi (l.take k)).length<=(Zi l).length:=by
 unfold Zi;rw[N0,N0];exact((List.take_sublist k l).filter _).length_le
theorem WU.Mn{base:Nat}{w:MO}{g:Nat}{V:Pv}{c:Cf}{P:Py}(h:WU base w g V c P):w.cell? ⟨g,43,MH⟩=MI (MG V.pg P.giv.length V.cg):=by
 rw[MW w g 43 _ _ (0,0) h.box];rfl
theorem avd{base:Nat}{W:MO}{g:Nat}{V:Pv}{c:Cf}{P:Py}(h:WU base W g V c P)(hl:P.giv.length<=1000000)(x:Int×Int) :
  ∃q c' w5,(N2 #[63,63] 63 #[MG V.pg P.giv.length V.cg,MG (MI ⟨W.heap.size,0,MH⟩) 1 1]).run MK ((W.alloc (MP #[MF ME x.1,MF ME x.2] 96)).drew)=.ok (MG (MI ⟨q,0,MH⟩) (P.giv.length+1) c') w5 /\
   (w5.cell? ⟨g,43,MH⟩=MI (MG V.pg P.giv.length V.cg)/\w5.frozen? ⟨g,43,MH⟩=Nb) /\
   WU base (w5.setCell ⟨g,43,MH⟩ (MG (MI ⟨q,0,MH⟩) (P.giv.length+1) c')) g {V with pg:=MI ⟨q,0,MH⟩,cg:=c'} c {P with giv:=P.giv++[x]} /\
   XK V {V with pg:=MI ⟨q,0,MH⟩,cg:=c'} g W (w5.setCell ⟨g,43,MH⟩ (MG (MI ⟨q,0,MH⟩) (P.giv.length+1) c')):=by
 have s:base<=W.heap.size:=Nm h.low (PJ h.lt);obtain⟨q,c',w5,u,v,d,r⟩:=afC anw avg (by decide) Tryz.underlying63 avh rfl (w:=W.drew) (base:=base) (h.below (MY _ _).drew).giv s 63 x #[MF ME x.1,MF ME x.2] rfl (by omega) (by unfold NE;omega);have f:∀b,b<W.heap.size->V.pg.map (·.block)≠MI b->w5.heap[b]?=W.heap[b]?:=fun b hb hne=>d.block b hb (fun e=>hne (by rw[e,XV]))
 have j:=(f g h.lt h.oh).trans h.box;have m:∀b,(MI (⟨q,0,MH⟩:Oc)).map (·.block)=MI b->V.pg.map (·.block)=MI b\/W.heap.size<=b:=fun b e=>by
  cases e;rcases r with e|e
  ·exact Nt (by rw[<-XV _ P.giv.length V.cg];exact e)
  ·exact NF (PJ e)
 have i:(P.giv++[x]).length=P.giv.length+1:=by simp
 have n:=h.MA (w':=w5) (p:=MI ⟨q,0,MH⟩) (k:=c') (l:=P.giv++[x]) d.size f (by rw[i];exact v) m;rw[i]at n;refine⟨q,c',w5,u,⟨by rw[MW w5 g 43 _ _ (0,0) j];rfl,by simp[Ng,j]⟩,n,d.os,d.tape,d.output,by simp;exact d.size,fun b hb hn=>?_,fun b e=>?_⟩
 ·rw[MU _ _ _ _ (fun e=>hn (Nt e))]
  exact f b hb fun e=>hn (NF (NF e))
 ·rcases e with e|e|e
  ·exact Nt (Nt e)
  ·exact Nt (NF (Nt e))
  ·exact(m b e).imp (fun e=>NF (NF e)) id
theorem au6{base:Nat}{w:MO}{g:Nat}{V:Pv}{c:Cf}{P:Py}(h:WU base w g V c P)(hr:XU c P)(hlen:P.steps.length<=1000)(hblk:Xo w)(hb:base<=w.heap.size)(e:Ev)(he:Yk e=0)(hgv:P.giv.length+(Zi (Xb P.last e).out).length<=100000) :
  Ni MK 12 #[gP g,agQ e] w fun r w'=>r=MN (M3 Nw)/\∃V',WU base w' g V' c (P.step e)/\XK V V' g w w':=by
 obtain⟨W,hW⟩:∃W,W=w.alloc (MP (aaV e).toArray 76):=⟨_,rfl⟩;have hB:MQ w.heap.size w W:=by rw[hW];exact WQ w
 have hR:W.heap[w.heap.size]?=MI (MP (aaV e).toArray 76 (0,0)):=by rw[hW];exact M1 _ _
 have hD:Yc base W g V c P w.heap.size e:=⟨h.below hB,hR,hblk.below hB⟩;obtain⟨A,g3⟩:∃A,A=w.heap.size:=⟨_,rfl⟩;rw[<-g3]at hD;have k9:¬V.own g A:=fun e=>by have:=(h.Mb e).2;omega
 have J:M6 (_/\_/\_/\_/\_/\_):=⟨hr,hlen,he,hB,hb,k9⟩;have HD:M6 _:=hD;have m6:M6 _:=hgv;have H7:M6 (e.kind=7->P.last.now+1<=1099511626776):=fun _=>by have:=hr.now;omega
 obtain⟨L,hL⟩:∃L,L=(XR V.u P.last).toList:=⟨_,rfl⟩;have HL:M6 _:=hL;clear hR hblk h hr hlen he hB hb hD hL k9 hgv;go_enter Tryz.func12,Tryz.ntmps12
 go_wp2_with fail
 rw[<-hW,<-g3];clear hW g3;apply aan
 ·intro e5
  obtain⟨W3,g4⟩:∃W3,W3=W.drew:=⟨_,rfl⟩;have j6:Yc base W3 g V c P A e:=by rw[g4];exact HD.out.on (MY _ _).drew
  obtain⟨S,hS,a8,g9⟩:∃S:MO->Prop,(∀X,S X->Yc base X g V c P A e)/\(∀X,Yc base X g V c P A e->S X)/\S W.drew:=⟨fun X=>Yc base X g V c P A e,fun _ h=>h,fun _ h=>h,by rw[<-g4];exact j6⟩;have D:M6 (_/\_):=⟨hS,a8⟩;clear hS a8 j6 g4 W3;refine O2 (S:=S) (by kernel_rfl) g9 (fun hHeld=>?_);refine awW 0 (gP g) hHeld ?_;simp only[Nr,MZ,MT,MS,MJ,ML,MM];refine awW 1 (gP g) hHeld ?_;simp only[Nr,MZ,MT,MS,MJ,ML,MM];refine awW 2 (Na (MI ⟨g,17,MH⟩)) hHeld ?_;simp only[Nr,MZ,MT,MS,MJ,ML,MM];refine awW 3 (Ny L.toArray) hHeld ?_ (hy:=Pt (by rfl) 61 (O6 12) rfl g 17 rfl L _ (fun _ h=>by rw[HL.out];exact(D.out.1 _ h).pat.Mo) Lv rfl (by rw[HL.out];exact Z0));simp only[Nr,MZ,MT,MS,MJ,ML,MM];refine awW 4 (Ny (aaV e).toArray) hHeld ?_ (hy:=Pt (by rfl) 76 (O6 3) rfl A 0 rfl (aaV e) _ (fun _ h=>(D.out.1 _ h).ev) T3 rfl anz);simp only[Nr,MZ,MT,MS,MJ,ML,MM];refine NN (rs:=[5,10]) (by kernel_rfl) (by simp) ?_;refine NP (o:=_) rfl (fun K hK=>?_) (NP (o:=_) rfl (fun K hK=>?_) NX)
  ·go_simp
   refine Nd (w:=W.drew) (by rw[HL.out];exact akh (D.out.1 _ hHeld).pat.last.now J.out.1.wm (D.out.1 _ hHeld).blk J.out.1.out e J.out.2.2.1 H7.out) ?_;rintro r B ⟨n,v,y,rfl,d7,U⟩;obtain⟨d,b1⟩:∃d,d=(XR n (Xb P.last e)).toList:=⟨_,rfl⟩;obtain⟨m,b9⟩:∃m,m=(Xb P.last e).out.length:=⟨_,rfl⟩;have E:M6 (_/\_/\_/\_):=⟨b1,d7,U,b9⟩;have d9:S B:=D.out.2 _ ((D.out.1 _ hHeld).on U);rw[show acN n (Xb P.last e)=Ny d.toArray by rw[b1],<-b9];clear d7 U b1 b9
   go_wp2_with fail
   refine hK.out _ _ d9 (fun hHeld5=>?_);clear hK K d9
   try simp only[Nr,MZ,MT,MS,MJ,ML,MM]
   refine awW 6 (Nv #[Ny d.toArray,MG v m y,MF ME 0]) hHeld5 ?_;simp only[Nr,MZ,MT,MS,MJ,ML,MM];refine awW 7 (Ny d.toArray) hHeld5 ?_;simp only[Nr,MZ,MT,MS,MJ,ML,MM];refine awW 8 (MG v m y) hHeld5 ?_;simp only[Nr,MZ,MT,MS,MJ,ML,MM];refine awW 9 (MF ME 0) hHeld5 ?_;simp only[Nr,MZ,MT,MS,MJ,ML,MM];refine NN (rs:=[10]) (by kernel_rfl) (by simp) ?_;refine NP (o:=_) rfl (fun K hK=>?_) NX;go_simp;obtain⟨Y,hY⟩:∃Y,Y=B.alloc (MP wz.toArray 61):=⟨_,rfl⟩;obtain⟨q,hg⟩:∃q,q=B.heap.size:=⟨_,rfl⟩;have f3:MQ B.heap.size B Y:=by rw[hY];exact WQ B
   have b7:Y.heap[q]?=MI (MP wz.toArray 61 (0,0)):=by rw[hY,hg];exact M1 _ _
   have U:MQ W.heap.size W B:=Za E.out.2.2.1;have a7:MQ W.heap.size W Y:=U.trans (f3.mono U.size);have b2:W.heap.size<=q:=by rw[hg];exact U.size
   have i9:S Y:=D.out.2 _ (HD.out.on a7);have e6:∀b,b<B.heap.size->Y.heap[b]?=B.heap[b]?:=fun b h=>f3.block b h
   have c2:=f3.size;have j2:B.heap.size<=q:=by rw[hg];exact MV _
   rw[<-hY,<-hg];clear hY hg f3 U;refine hK.out _ _ i9 (fun hHeldY=>?_);clear hK K i9
   try simp only[Nr,MZ,MT,MS,MJ,ML,MM]
   have l5:d.length=26:=by rw[E.out.1];rfl
   have a3:d.toArray.size=26:=(show d.toArray.size=d.length from OQ).trans l5;have a6:(Y).there q 0 d.toArray.size:=by rw[a3];exact aeU b7
   obtain⟨f,I⟩:∃f,f=(Y).setCells q 0 d:=⟨_,rfl⟩;have d8:f.heap[q]?=MI (MP d.toArray 61 (0,0)):=by rw[I];exact anq b7 (by rw[l5];rfl)
   have b3:MQ W.heap.size W f:=by rw[I];exact adp a7 b2 _ _ a7.size
   have b6:Yc base f g V c P A e:=HD.out.on b3;have a4:S f:=D.out.2 _ b6;have e8:XG (V.own g) f fun X=>Xd X n (Xb P.last e)/\Xw Z1 X (MG v (Xb P.last e).out.length y) (Xb P.last e).out:=anp (b5:=q) E.out.2.1 (by rw[I,ac3];exact c2) (fun b h1 h2=>by rw[I,N8 _ _ _ _ (M8 h1 c2) h2];try exact e6 b h1) (NF j2) (fun b hx=>(HD.out.pat.Mb hx).2)
   have M:M6 (Xl base W f g V c P A e q d n v y/\m=(Xb P.last e).out.length):=⟨⟨b6,E.out.1,d8,b2,b3,e8,fun x hx=>(HD.out.pat.Mb hx).2,J.out.2.2.2.2.2⟩,E.out.2.2.2⟩;have e7:d.toArray.all (·.oneCell')=true:=by rw[E.out.1];exact ado _ _
   clear d8 b3 e8 a7 b7 b2 b6;refine NN (rs:=[11]) (by kernel_rfl) (by simp) ?_;refine afX (i:=11) (o:=_) (by rfl) (by rfl) 61 (O6 5) (O6 16) (by rfl) q 0 d.toArray (by rfl) (by rfl) a6 (by rw[a3];exact Z0) e7 (by rw[NS,<-I];exact a4) ?_;rw[NS,<-I]
   try simp only[Nr,MZ,MT,MS,MJ,ML,MM]
   refine NN (rs:=[12]) (by kernel_rfl) (by simp) ?_;refine acK (i:=12) (o:=_) (by rfl) (by rfl) (O6 17) (by rfl) (MG v m y) (by rfl) a4 ?_
   try simp only[Nr,MZ,MT,MS,MJ,ML,MM]
   refine NN (rs:=[13]) (by kernel_rfl) (by simp) ?_;refine acK (i:=13) (o:=_) (by rfl) (by rfl) (O6 18) (by rfl) (MF ME 0) (by rfl) a4 ?_
   try simp only[Nr,MZ,MT,MS,MJ,ML,MM]
   refine PS (by kernel_rfl) ?_ _;clear a6 a3 l5 E a4 I e7;clear hHeld5 hHeldY e6 c2 j2;revert M;revert f;revert m;revert y;revert v;revert n;revert d;revert q;exact e5.out
  ·go_simp
   obtain⟨X1,f4⟩:∃X1,X1=(W.alloc (MP wz.toArray 61)).drew:=⟨_,rfl⟩;have i1:MQ W.heap.size W X1:=by rw[f4];exact(WQ W).drew
   have k7:X1.heap[W.heap.size]?=MI (MP wz.toArray 61 (0,0)):=by rw[f4];exact M1 _ _
   have j7:S X1:=D.out.2 _ (HD.out.on i1);obtain⟨q,hg⟩:∃q,q=W.heap.size:=⟨_,rfl⟩;have HX:M6 (_/\_/\_):=⟨i1,k7,hg⟩;clear i1 k7;rw[<-f4,<-hg];clear f4 hg;refine hK.out _ _ j7 (fun hHeld=>?_);clear hK K j7
   try simp only[Nr,MZ,MT,MS,MJ,ML,MM]
   refine NN (rs:=[5]) (by kernel_rfl) (by simp) ?_;refine NP (o:=_) rfl (fun K hK=>?_) NX;go_simp;refine Nd (w:=X1) (by rw[HL.out];exact akh (D.out.1 _ hHeld).pat.last.now J.out.1.wm (D.out.1 _ hHeld).blk J.out.1.out e J.out.2.2.1 H7.out) ?_;rintro r B ⟨n,v,y,rfl,d7,U⟩;obtain⟨d,b1⟩:∃d,d=(XR n (Xb P.last e)).toList:=⟨_,rfl⟩;obtain⟨m,b9⟩:∃m,m=(Xb P.last e).out.length:=⟨_,rfl⟩;have E:M6 (_/\_/\_/\_):=⟨b1,d7,U,b9⟩;have d9:S B:=D.out.2 _ ((D.out.1 _ hHeld).on U);rw[show acN n (Xb P.last e)=Ny d.toArray by rw[b1],<-b9];clear d7 U b1 b9
   go_wp2_with fail
   refine hK.out _ _ d9 (fun hHeld5=>?_);clear hK K d9
   try simp only[Nr,MZ,MT,MS,MJ,ML,MM]
   refine awW 6 (Nv #[Ny d.toArray,MG v m y,MF ME 0]) hHeld5 ?_;simp only[Nr,MZ,MT,MS,MJ,ML,MM];refine awW 7 (Ny d.toArray) hHeld5 ?_;simp only[Nr,MZ,MT,MS,MJ,ML,MM];refine awW 8 (MG v m y) hHeld5 ?_;simp only[Nr,MZ,MT,MS,MJ,ML,MM];refine awW 9 (MF ME 0) hHeld5 ?_;simp only[Nr,MZ,MT,MS,MJ,ML,MM];have b7:B.heap[q]?=MI (MP wz.toArray 61 (0,0)):=by rw[HX.out.2.2];exact WO HX.out.2.1 E.out.2.2.1
   have a7:MQ W.heap.size W B:=HX.out.1.trans (E.out.2.2.1.mono HX.out.1.size);have b2:W.heap.size<=q:=by rw[HX.out.2.2];exact MV _
   have k3:q<X1.heap.size:=by rw[HX.out.2.2];exact(Array.getElem?_eq_some_iff.1 HX.out.2.1).1
   have e6:∀b,b<B.heap.size->B.heap[b]?=B.heap[b]?:=fun _ _=>rfl
   have c2:B.heap.size<=B.heap.size:=MV _;have l7:=HX.out.1.size;have l5:d.length=26:=by rw[E.out.1];rfl
   have a3:d.toArray.size=26:=(show d.toArray.size=d.length from OQ).trans l5;have a6:(B).there q 0 d.toArray.size:=by rw[a3];exact aeU b7
   obtain⟨f,I⟩:∃f,f=(B).setCells q 0 d:=⟨_,rfl⟩;have d8:f.heap[q]?=MI (MP d.toArray 61 (0,0)):=by rw[I];exact anq b7 (by rw[l5];rfl)
   have b3:MQ W.heap.size W f:=by rw[I];exact adp a7 b2 _ _ a7.size
   have b6:Yc base f g V c P A e:=HD.out.on b3;have a4:S f:=D.out.2 _ b6;have e8:XG (V.own g) f fun X=>Xd X n (Xb P.last e)/\Xw Z1 X (MG v (Xb P.last e).out.length y) (Xb P.last e).out:=anp (b5:=q) E.out.2.1 (by rw[I,ac3];exact c2) (fun b h1 h2=>by rw[I,N8 _ _ _ _ (M8 h1 c2) h2];try exact e6 b h1) (Nt k3) (fun b hx=>M8 (HD.out.pat.Mb hx).2 l7)
   have M:M6 (Xl base W f g V c P A e q d n v y/\m=(Xb P.last e).out.length):=⟨⟨b6,E.out.1,d8,b2,b3,e8,fun x hx=>(HD.out.pat.Mb hx).2,J.out.2.2.2.2.2⟩,E.out.2.2.2⟩;have e7:d.toArray.all (·.oneCell')=true:=by rw[E.out.1];exact ado _ _
   clear d8 b3 e8 a7 b7 b2 b6;refine NN (rs:=[11]) (by kernel_rfl) (by simp) ?_;refine afX (i:=11) (o:=_) (by rfl) (by rfl) 61 (O6 5) (O6 16) (by rfl) q 0 d.toArray (by rfl) (by rfl) a6 (by rw[a3];exact Z0) e7 (by rw[NS,<-I];exact a4) ?_;rw[NS,<-I]
   try simp only[Nr,MZ,MT,MS,MJ,ML,MM]
   refine NN (rs:=[12]) (by kernel_rfl) (by simp) ?_;refine acK (i:=12) (o:=_) (by rfl) (by rfl) (O6 17) (by rfl) (MG v m y) (by rfl) a4 ?_
   try simp only[Nr,MZ,MT,MS,MJ,ML,MM]
   refine NN (rs:=[13]) (by kernel_rfl) (by simp) ?_;refine acK (i:=13) (o:=_) (by rfl) (by rfl) (O6 18) (by rfl) (MF ME 0) (by rfl) a4 ?_
   try simp only[Nr,MZ,MT,MS,MJ,ML,MM]
   refine PS (by kernel_rfl) ?_ _;clear a6 a3 l5 E a4 I e7;clear hHeld5 k3 HX e6 c2 l7;revert M;revert f;revert m;revert y;revert v;revert n;revert d;revert q;exact e5.out
 ·rintro q d n v y m f M
  obtain⟨T,hT⟩:∃T,T=Xb P.last e:=⟨_,rfl⟩;have g8:Wm T:=by rw[hT];exact J.out.1.wm.Mm (aeH J.out.2.2.1) H7.out
  have f8:T.cfg=c:=by rw[hT];exact(alh P.last e).1.trans J.out.1.cfg
  have g2:(T.tab.length:Int)=c.flows:=by rw[<-f8];exact g8.im.bs.tabLen
  have c0:f.cell? ⟨g,0,MH⟩=MI (MF ME c.flows):=by rw[MW f g 0 _ _ (0,0) M.out.1.dos.pat.box];rfl
  have m9:f.cell? ⟨q,17,MH⟩=MI (MG n.pt T.tab.length n.ct):=by rw[MW f q 17 _ _ (0,0) M.out.1.box,M.out.1.mem,hT];rfl
  have a5:=M.out.1.dos.pat.lt;have e4:q<f.heap.size:=(Array.getElem?_eq_some_iff.1 M.out.1.box).1;have m8:((T.tab.length:Int) != c.flows)=false:=by rw[g2];simp
  have HT:M6 (_/\_/\_/\_):=⟨hT,g8,f8,g2⟩;clear hT g8 f8 g2
  go_wp2_with fail
  refine wp_region_quiet_lit (by kernel_rfl) (by kernel_rfl) ?_
  repeat (first|go_big_quiet_skip|quiet_step (fail))
  refine Oy ?_;intro _ m7;obtain⟨nq,m4⟩:=m7;subst m4
  go_wp2_with fail
  obtain⟨C,g6⟩:∃C,C=f.drewN nq:=⟨_,rfl⟩;have i8:MQ f.heap.size f C:=by rw[g6];exact amB (MY _ _) nq
  have c6:Xl base W C g V c P A e q d n v y:=M.out.1.on i8;obtain⟨z,hz⟩:∃z:Sq,z=⟨⟨e,P.last,(Xb P.last e).Ma,(Xb P.last e).out⟩,V.u,n,v,y⟩:=⟨_,rfl⟩;obtain⟨R,hR⟩:∃R,R=abK z:=⟨_,rfl⟩;have i5:∀X,(QA 81 #[(0,Ny (aaV e).toArray),(1,Ny L.toArray),(2,Ny d.toArray),(3,MG v m y)]).run MK X=.ok (Ny R.toArray) X:=fun X=>by
   rw[HL.out,M.out.1.mem,M.out.2,hR,hz];exact au4 ⟨⟨e,P.last,(Xb P.last e).Ma,(Xb P.last e).out⟩,V.u,n,v,y⟩ X
  have l9:∀X,(Q0 62 1 #[(0,Ny R.toArray)]).run MK X=.ok (MG (MI ⟨X.heap.size,0,MH⟩) 1 1) (X.alloc (MP R.toArray 81)):=fun X=>by
   rw[hR];exact avr z X
  have m2:V.qs.length<=1000:=by rw[<-c6.dos.pat.steps];exact J.out.2.1
  have j5:base<=C.drew.heap.size:=Nm (Nm J.out.2.2.2.2.1 J.out.2.2.2.1.size) c6.bel.size;have HP:M6 _:=avo (c6.on (MY _ _).drew) (by omega) j5 z hz c6.bel.size;rw[<-hR]at HP;have HZ:M6 (_/\_/\_/\_):=⟨i5,l9,hz,(show d.length=26 by rw[M.out.1.mem];rfl)⟩;have m5:M6 _:=c6;rw[<-g6];clear g6 c0 m9 a5 e4 m8 i5 l9 hz hR c6 i8 m2 j5;apply aan
  ·intro e5
   obtain⟨q8,c8,w9,d6,i7,f0,d4⟩:=HP.out;obtain⟨S,hS,a8⟩:∃S:MO->Prop,(∀X,S X->abs X A g q e L d)/\(∀X,abs X A g q e L d->S X):=⟨fun X=>abs X A g q e L d,fun _ h=>h,fun _ h=>h⟩;have Z:Xl base W C.drew g V c P A e q d n v y:=m5.out.on (MY _ _).drew;have f5:abs C.drew A g q e L d:=by have:=Z.Gz;rw[HL.out];exact this
   have e4:q<C.drew.heap.size:=(Array.getElem?_eq_some_iff.1 Z.box).1;have g0:A<C.drew.heap.size:=(Array.getElem?_eq_some_iff.1 Z.dos.evb).1;have a5:=Z.dos.pat.lt;have g5:¬V.own g q:=fun e=>by have:=Z.lt q e;have:=Z.low;omega
   have a0:MQ C.drew.heap.size C.drew (C.drew.alloc (MP R.toArray 81)):=WQ _;have l6:abs (C.drew.alloc (MP R.toArray 81)) A g q e L d:=f5.Gf (a0.block _ g0) (a0.block _ a5) (a0.block _ e4);have f6:abs w9 A g q e L d:=f5.Gf (f0 _ g0 fun e=>Z.no (NF (Nt e))) (f0 _ a5 Z.dos.pat.og) (f0 _ e4 fun e=>g5 (NF (Nt e)));have j4:abs (w9.setCell ⟨g,16,MH⟩ (MG (MI ⟨q8,0,MH⟩) (V.qs.length+1) c8)) A g q e L d:=f6.F4 (fun e=>Z.no (Nt e)) (fun e=>g5 (Nt e)) _;have G:M6 (_/\_/\_/\_/\_):=⟨d6,i7,a8 _ f6,a8 _ j4,d4⟩;have m3:g<C.heap.size:=a5;have HC:M6 (_/\_/\_):=⟨Z.Gm,(Z.on a0).Gm,a8 _ l6⟩;have g9:=a8 _ f5;have D:M6 (_/\True):=⟨hS,trivial⟩;clear hS a8 d6 i7 f0 d4 Z f5 e4 g0 a5 m3 g5 a0 l6 f6 j4;refine O2 (S:=S) (by kernel_rfl) g9 (fun hHeld=>?_);refine awW 0 (gP g) hHeld ?_;simp only[Nr,MZ,MT,MS,MJ,ML,MM];refine awW 1 (gP g) hHeld ?_;simp only[Nr,MZ,MT,MS,MJ,ML,MM];refine awW 2 (gP g) hHeld ?_;simp only[Nr,MZ,MT,MS,MJ,ML,MM];refine awW 3 (Na (MI ⟨g,16,MH⟩)) hHeld ?_;simp only[Nr,MZ,MT,MS,MJ,ML,MM];refine awW 5 (Ny (aaV e).toArray) hHeld ?_ (hy:=Pt (by rfl) 76 (O6 3) rfl A 0 rfl (aaV e) _ (fun _ h=>(D.out.1 _ h).1) T3 rfl anz);simp only[Nr,MZ,MT,MS,MJ,ML,MM];refine awW 6 (gP g) hHeld ?_;simp only[Nr,MZ,MT,MS,MJ,ML,MM];refine awW 7 (gP g) hHeld ?_;simp only[Nr,MZ,MT,MS,MJ,ML,MM];refine awW 8 (Na (MI ⟨g,17,MH⟩)) hHeld ?_;simp only[Nr,MZ,MT,MS,MJ,ML,MM];refine awW 9 (Ny L.toArray) hHeld ?_ (hy:=Pt (by rfl) 61 (O6 41) rfl g 17 rfl L _ (fun _ h=>(D.out.1 _ h).2.1) Lv rfl (by rw[HL.out];exact Z0));simp only[Nr,MZ,MT,MS,MJ,ML,MM];refine awW 10 (Ny d.toArray) hHeld ?_ (hy:=Pt (by rfl) 61 (O6 5) rfl q 0 rfl d _ (fun _ h=>(D.out.1 _ h).2.2) Lv rfl (by rw[HZ.out.2.2.2];exact Z0));simp only[Nr,MZ,MT,MS,MJ,ML,MM];refine awW 11 (MG v m y) hHeld ?_;simp only[Nr,MZ,MT,MS,MJ,ML,MM];refine awW 12 (Ny R.toArray) hHeld ?_ (hy:=avx (by rfl) 81 #[(0,O6 38),(1,O6 42),(2,O6 43),(3,O6 44)] rfl (Ny R.toArray) (fun X=>by simp only[PW,OA,P5];exact HZ.out.1 X));simp only[Nr,MZ,MT,MS,MJ,ML,MM];refine NN (rs:=[4,13]) (by kernel_rfl) (by simp) ?_;refine NP (o:=_) rfl (fun K hK=>?_) (NP (o:=_) rfl (fun K hK=>?_) NX)
   ·have f9:=HC.out.1
    go_simp;refine hK.out _ _ hHeld (fun hHeld=>?_);clear hK K f9
    try simp only[Nr,MZ,MT,MS,MJ,ML,MM]
    refine NN (rs:=[13]) (by kernel_rfl) (by simp) ?_;refine avp (i:=13) (o:=_) (by rfl) (by rfl) 62 1 #[(0,O6 45)] (by rfl) (MG (MI ⟨C.drew.heap.size,0,MH⟩) 1 1) (w1:=C.drew.alloc (MP R.toArray 81)) (by simp only[PW,OA,P5];exact HZ.out.2.1 _) HC.out.2.2 ?_
    try simp only[Nr,MZ,MT,MS,MJ,ML,MM]
    refine NN (rs:=[14]) (by kernel_rfl) (by simp) ?_;refine anC (i:=14) (o:=_) (by rfl) (by rfl) (O6 37) (O6 46) 62 (by rfl) _ _ _ (by rfl) (by rfl) G.out.1 G.out.2.2.1 ?_;have a9:=G.out.2.2.1
    try simp only[Nr,MZ,MT,MS,MJ,ML,MM]
    refine awW 15 (gP g) a9 ?_;simp only[Nr,MZ,MT,MS,MJ,ML,MM];refine awW 16 (Na (MI ⟨g,16,MH⟩)) a9 ?_;simp only[Nr,MZ,MT,MS,MJ,ML,MM];refine NN (rs:=[17]) (by kernel_rfl) (by simp) ?_;refine NP (o:=_) rfl (fun K hK=>?_) NX;have f2:=G.out.2.1.1;have b8:=G.out.2.1.2;go_simp;obtain⟨F,b4⟩:∃F,F=w9.setCell ⟨g,16,MH⟩ (MG (MI ⟨q8,0,MH⟩) (V.qs.length+1) c8):=⟨_,rfl⟩;have O:M6 _:=G.out.2.2.2.2;have c4:=G.out.2.2.2.1;rw[<-b4]at O c4;rw[<-b4];refine hK.out _ _ c4 (fun hHeld8=>?_)
    try simp only[Nr,MZ,MT,MS,MJ,ML,MM]
    refine PS (by kernel_rfl) ?_ _;clear hK K hHeld8 c4 b4 f2 b8 a9 G;revert O;revert F;revert c8;revert q8;exact e5.out
   ·refine avv (by rfl) 62 1 #[(0,O6 45)] (by rfl) (MG (MI ⟨C.drew.heap.size,0,MH⟩) 1 1) (w1:=C.drew.alloc (MP R.toArray 81)) (by simp only[PW,OA,P5];exact HZ.out.2.1 _) ?_
    refine hK.out _ _ HC.out.2.2 (fun hHeldB=>?_);clear hK K
    try simp only[Nr,MZ,MT,MS,MJ,ML,MM]
    refine NN (rs:=[4]) (by kernel_rfl) (by simp) ?_;refine NP (o:=_) rfl (fun K hK=>?_) NX;obtain⟨X7,a0⟩:∃X7,X7=C.drew.alloc (MP R.toArray 81):=⟨_,rfl⟩;have f9:X7.cell? ⟨g,16,MH⟩=MI (MG V.ps V.qs.length V.cs):=by rw[a0];exact HC.out.2.1
    have i0:=hHeldB;rw[<-a0]at i0⊢;have j8:M6 _:=a0;clear a0;go_simp;refine hK.out _ _ i0 (fun hHeldC=>?_);clear hK K f9 i0 hHeldC;have a0:=j8.out;clear j8;subst a0
    try simp only[Nr,MZ,MT,MS,MJ,ML,MM]
    refine NN (rs:=[14]) (by kernel_rfl) (by simp) ?_;refine anC (i:=14) (o:=_) (by rfl) (by rfl) (O6 37) (O6 46) 62 (by rfl) _ _ _ (by rfl) (by rfl) G.out.1 G.out.2.2.1 ?_;have a9:=G.out.2.2.1
    try simp only[Nr,MZ,MT,MS,MJ,ML,MM]
    refine awW 15 (gP g) a9 ?_;simp only[Nr,MZ,MT,MS,MJ,ML,MM];refine awW 16 (Na (MI ⟨g,16,MH⟩)) a9 ?_;simp only[Nr,MZ,MT,MS,MJ,ML,MM];refine NN (rs:=[17]) (by kernel_rfl) (by simp) ?_;refine NP (o:=_) rfl (fun K hK=>?_) NX;have f2:=G.out.2.1.1;have b8:=G.out.2.1.2;go_simp;obtain⟨F,b4⟩:∃F,F=w9.setCell ⟨g,16,MH⟩ (MG (MI ⟨q8,0,MH⟩) (V.qs.length+1) c8):=⟨_,rfl⟩;have O:M6 _:=G.out.2.2.2.2;have c4:=G.out.2.2.2.1;rw[<-b4]at O c4;rw[<-b4];refine hK.out _ _ c4 (fun hHeld8=>?_)
    try simp only[Nr,MZ,MT,MS,MJ,ML,MM]
    refine PS (by kernel_rfl) ?_ _;clear hK K hHeld8 c4 b4 f2 b8 a9 G hHeldB;revert O;revert F;revert c8;revert q8;exact e5.out
  ·rintro q8 c8 F O
   obtain⟨V8,n2⟩:∃V8:Pv,V8={V with ps:=MI ⟨q8,0,MH⟩,cs:=c8,qs:=V.qs++[z]}:=⟨_,rfl⟩;rw[<-n2]at O;have hM:d=(XR n (Xb P.last e).Ma).toList:=M.out.1.mem;obtain⟨u9,c5⟩:∃u9,u9=F.setCells g 17 d:=⟨_,rfl⟩;have i3:WU base u9 g {V8 with u:=n} c {{P with steps:=P.steps++[z.s]}with last:=(Xb P.last e).Ma}:=by
    rw[c5,hM];exact O.out.pat.MC n (Xb P.last e).Ma fun X h1 h2=>(O.out.ans X h1 h2).1.Ma
   have a3:d.toArray.size=26:=(show d.toArray.size=d.length from OQ).trans HZ.out.2.2.2;have i4:d.toArray.all (·.oneCell')=true:=by rw[hM];exact ado _ _
   have a6:F.there g 17 d.toArray.size:=by
    rw[a3];exact fun j hj=>by
     have hb:=O.out.pat.box;have d5:17+j<(adM V8 c {P with steps:=P.steps++[z.s]}).toArray.size:=by show 17+j<44;omega
     exact⟨by rw[MW F g (17+j) _ _ (0,0) hb,PN d5];rfl,by simp[Ng,hb]⟩
   have l0:F.rangeAt q 0 d:=agb O.out.box;have i6:∀b,b<F.heap.size->b≠g->u9.heap[b]?=F.heap[b]?:=fun b hb e=>by rw[c5];exact N8 F g 17 _ hb e
   have j0:u9.heap.size=F.heap.size:=by rw[c5];exact ac3 _ _ _ _
   have f7:XG (Pv.own {V8 with u:=n} g) u9 fun X=>Xw Z1 X (MG v (Xb P.last e).out.length y) (Xb P.last e).out:=by
    refine XG.step (S:=V8.own g) (fun X h1 h2=>(O.out.ans X h1 h2).2) (by rw[j0];exact MV _) (fun b q1 q2=>i6 b q1 fun e=>q2 (Nt e)) fun b q1 e=>e
   have b8:XK V {V8 with u:=n} g W u9:=by rw[c5];exact O.out.frm.F0 (avb d)
   have l4:M6 (aai base W u9 g V {V8 with u:=n} c P z.s (Xb P.last e).Ma (Xb P.last e).out 0 v y):=⟨by rw[show P.giv++Zi ((Xb P.last e).out.take 0)=P.giv by show P.giv++[]=P.giv;simp];exact i3,b8,f7⟩;have H5:M6 (_/\_/\_/\_/\_/\_):=⟨i3,f7,a6,a3,i4,l0⟩;have k5:M6 _:=c5;clear b8 hM c5 i3 a3 i4 a6 l0 i6 j0 f7
   go_wp2_with (first|((with_reducible refine O3 rfl 61 (O6 5) rfl q 0 ?gx d _ ?gc Lv ?gd ?gi ?_);(case gx=>rfl);(case gc=>exact H5.out.2.2.2.2.2);(case gd=>rfl);(case gi=>rw[HZ.out.2.2.2];exact Z0))|((with_reducible refine OW rfl 61 (O6 53) (O6 51) rfl g 17 d.toArray ?sx ?sy ?st ?si ?s1 ?_);(case sx=>rfl);(case sy=>rfl);(case st=>exact H5.out.2.2.1);(case si=>rw[H5.out.2.2.2.1];exact Z0);(case s1=>exact H5.out.2.2.2.2.1);rw[NS,<-k5.out]))
   obtain⟨l,hl⟩:∃l,l=(Xb P.last e).out:=⟨_,rfl⟩;have hn:=M.out.2;rw[<-hl]at l4 hn;have HN:M6 (m=l.length):=hn;have l8:M6 (l=(Xb P.last e).out):=hl;clear hn hl H5 k5
   go_loopw [8] (fun i wr=>∃(k:Nat) (N:Pv),i=MF ME (k:Int)/\k<=m/\M6 (aai base W wr g V N c P z.s (Xb P.last e).Ma l k v y)) (fun i _=>m-(intOf i).toNat)
   case atStart=>exact⟨0,_,rfl,Nx _,l4⟩
   case round =>
    obtain⟨k,N,rfl,hk,HK⟩:=hrel
    by_cases d5:k<m
    ·have n1:(k:Int)<(m:Int):=by omega
     have g7:k<l.length:=by rw[<-HN.out];exact d5
     obtain⟨a,n8,hv,hc,hm,hp⟩:=Xw.F6 akV HK.out.out.now;injection hv with ha hn2 hcap;obtain⟨bo,oo,l3,n6,e9⟩:=hp k g7;rw[<-ha]at l3;have d0:wr.cell? ⟨bo,oo+k*7,MH⟩=MI (MF ME l[k].kind):=e9 0 (by omega);have d1:wr.cell? ⟨bo,oo+k*7+1,MH⟩=MI (MF ME l[k].slot):=e9 1 (by omega);have d2:wr.cell? ⟨bo,oo+k*7+2,MH⟩=MI (MF ME l[k].gen):=e9 2 (by omega);have i2:=ave g7;obtain⟨x,hx⟩:∃x,x=l[k]:=⟨_,rfl⟩;rw[<-hx]at d0 d1 d2 i2;subst l3;have HG:M6 _:=i2;have n7:m<=9223372036854775807:=by rw[HN.out];unfold NE at hm;omega
     clear ha hn2 hcap e9 hp hc hm g7 i2 hx
     by_cases hk1:x.kind=1
     ·have m0:(x.kind == 1)=true:=by simp[hk1]
      have a5:(P.giv++Zi (l.take k)).length<=1000000:=by
       rw[Ns];have:=avf l k;have:=m6.out;rw[<-l8.out]at this;omega
      obtain⟨q9,c9,w9,k4,⟨k6,b8⟩,j9,j1⟩:=avd HK.out.pat a5 (x.slot,x.gen);have j3:=HK.out.pat.Mn;have n3:=HK.out.pat.lt;obtain⟨n9,c7⟩:∃n9,n9=(P.giv++Zi (l.take k)).length:=⟨_,rfl⟩;have d6:(N2 #[63,63] 63 #[MG N.pg n9 N.cg,MG (MI ⟨wr.heap.size,0,MH⟩) 1 1]).run MK ((wr.alloc (MP #[MF ME x.slot,MF ME x.gen] 96)).drew)=.ok (MG (MI ⟨q9,0,MH⟩) (n9+1) c9) w9:=by rw[c7];exact k4
      have k8:WU base (w9.setCell ⟨g,43,MH⟩ (MG (MI ⟨q9,0,MH⟩) (n9+1) c9)) g {N with pg:=MI ⟨q9,0,MH⟩,cg:=c9} c ⟨P.steps++[z.s],(Xb P.last e).Ma,(P.giv++Zi (l.take k))++[(x.slot,x.gen)]⟩:=by rw[c7];exact j9
      have d4:XK N {N with pg:=MI ⟨q9,0,MH⟩,cg:=c9} g wr (w9.setCell ⟨g,43,MH⟩ (MG (MI ⟨q9,0,MH⟩) (n9+1) c9)):=by rw[c7];exact j1
      have f2:w9.cell? ⟨g,43,MH⟩=MI (MG N.pg n9 N.cg):=by rw[c7];exact k6
      have n4:wr.cell? ⟨g,43,MH⟩=MI (MG N.pg n9 N.cg):=by rw[c7];exact j3
      have HR:M6 (_/\_/\_):=⟨d6,k8,d4⟩;clear d6 k8 d4 a5 c7 k4 k6 j9 j1 j3;go_wp2
      go_region_law (first|(refine aec (by rfl) _ _ 63 (by rfl) _ _ _ _ (by rfl) (by rfl) HR.out.1 ?_))
      all_goals
       go_wp2
       go_roundw
       case rel=>exact⟨k+1,_,by simp,d5,⟨by have h:=HR.out.2.1;rw[HG.out,Nh hk1,<-OC];exact h,HK.out.frm.F0 HR.out.2.2,au1 HK.out.out HR.out.2.2⟩⟩
       case measure=>simp[intOf];omega
     ·have m0:(x.kind == 1)=false:=by simp[hk1]
      go_wp2
      go_roundw
      case rel=>exact⟨k+1,N,by simp,d5,⟨by have h:=HK.out.pat;rw[HG.out,Nf hk1,OG];exact h,HK.out.frm,HK.out.out⟩⟩
      case measure=>simp[intOf];omega
    ·obtain rfl:k=m:=by omega
     have n1:¬(k:Int)<(k:Int):=by omega
     go_wp2;go_ret;have e1:(⟨P.steps++[z.s],(Xb P.last e).Ma,P.giv++Zi (l.take k)⟩:Py)=P.step e:=by
      rw[show l.take k=l from N1 (Nat.le_of_eq HN.out.symm),l8.out,HZ.out.2.2.1];rfl
     have h9:=HK.out.pat
     rw[e1]at h9;exact⟨rfl,N,h9,(XK.F5 J.out.2.2.2.1).F0 HK.out.frm⟩
structure XQ(w W:MO)(g:Nat)(V:Pv)(c:Cf)(P:Py):Prop where
 pat:WU w.heap.size W g V c P
 rn:Rn (Yb c) c P
 bel:MQ w.heap.size w W
 blk:Xo W
 pos:0<w.heap.size
theorem XQ.on{w W:MO}{g:Nat}{V:Pv}{c:Cf}{P:Py}(h:XQ w W g V c P)(hb:MQ W.heap.size W Y):XQ w Y g V c P :=
 ⟨h.pat.below hb,h.rn,h.bel.trans (hb.mono h.bel.size),h.blk.below hb,h.pos⟩
theorem XQ.Mf{w W:MO}{g:Nat}{V:Pv}{c:Cf}{P:Py}(h:XQ w W g V c P)(hl:P.steps.length<=1000)(e:Ev)(he:Yk e=0) :
  Ni MK 12 #[gP g,acH e] W fun r w'=>r=MN (M3 Nw)/\∃V',XQ w w' g V' c (P.step e):=by
 refine(au6 h.pat h.rn.runs hl h.blk h.bel.size e he (h.rn.Mv hl he)).mono ?_;rintro r w' ⟨rfl,V',f,i⟩;have d:=i.IT h.pat h.bel.size;exact⟨rfl,V',f,h.rn.step he (by omega),h.bel.trans d,h.blk.Gf (d.block 0 h.pos),h.pos⟩
theorem XQ.MD{w W:MO}{g:Nat}{V:Pv}{c:Cf}{P:Py}(h:XQ w W g V c P)(hl:P.steps.length<=1000)(d:Dd)(hd:ajd d) :
  Ni MK 13 #[gP g,Ny #[MF ME d.k,MF ME d.a,MF ME d.b,MF ME d.c]] W fun r w'=>∃e,(Yk e=0/\e.req<2000)/\r=MN (acH e)/\XQ w w' g V c P:=by
 have l:Xw afq W (MG V.pg P.giv.length V.cg) P.giv:=abw h.pat.giv;refine(au8 h.pat.Mn h.pat.lt (by have:=h.rn.Mj;omega) (fun i hi=>?_) h.rn.runs.Mx d.k d.a d.b d.c (adr hd.1) (adr hd.2.1) (adr hd.2.2.1) (adr hd.2.2.2)).mono ?_
 ·obtain⟨a,u,s,_,_,m⟩:=Xw.F6 anw l
  obtain⟨b,o,q,f,j⟩:=m i hi;injection s with q1 _ _;exact⟨b,o,q1.trans q,f,j 0 (by omega),j 1 (by omega)⟩
 ·rintro r w' ⟨e,n,rfl,f⟩
  exact⟨e,n,rfl,h.on f⟩
structure abq(f:Nat->Int)(c:Cf):Prop where
 ok:adg c
 flows:c.flows<=8
 drain:c.drain<=5
 idle:c.idle<=6
 conn:c.conn<=4
 ret:c.ret<=3
 most:c.most=((ZN (f 9) 101:Nat):Int)
theorem au5(f:Nat->Int)(hf:∀i,i<16->(N6 ME (f i)).wf=Nw):∃c:Cf,abq f c/\∀w,Ni MK 10 #[agc (f 0) (f 1) (f 2) (f 3) (f 4) (f 5) (f 6) (f 7) (f 8) (f 9) (f 10) (f 11) (f 12) (f 13) (f 14) (f 15)] w fun r w'=>r=MN (ag9 c)/\MQ w.heap.size w w':=by
 obtain⟨c,d,h⟩:=ark (f 0) (f 1) (f 2) (f 3) (f 4) (f 5) (f 6) (f 7) (f 8) (f 9) (f 10) (f 11) (f 12) (f 13) (f 14) (f 15) (hf 0 (by omega)) (hf 1 (by omega)) (hf 2 (by omega)) (hf 3 (by omega)) (hf 4 (by omega)) (hf 5 (by omega)) (hf 6 (by omega)) (hf 7 (by omega)) (hf 8 (by omega)) (hf 9 (by omega)) (hf 10 (by omega)) (hf 11 (by omega)) (hf 12 (by omega)) (hf 13 (by omega)) (hf 14 (by omega)) (hf 15 (by omega));exact⟨⟨c.flows,c.num,c.den,c.tries,c.warm,c.drain,c.idle,c.conn,c.ret,c.most,c.bn,c.bd,c.bb,c.wn,c.wf,c.wh⟩,⟨d.ok,d.flows,d.drain,d.idle,d.conn,d.ret,d.most⟩,h⟩
abbrev kz:List Value:=[MF ME 0,MF ME 0,MF ME 0,MF ME 0,MF ME 0,MF ME 0,MF ME 0,MF ME 0,MF ME 0,MF ME 0,MF ME 0,MF ME 0,MF ME 0,MF ME 0,MF ME 0,MF ME 0]
theorem ajj:(Tryz.prog.info? 42).map (·.size)=MI 16:=by kernel_rfl
theorem avk(c:Cf):(ac8 c).toArray.all (·.oneCell')=true:=by
 apply OE;intro u d;simp only[OO,OD,or_false]at d;rcases d with rfl|rfl|rfl|rfl|rfl|rfl|rfl|rfl|rfl|rfl|rfl|rfl|rfl|rfl|rfl|rfl <;> rfl
abbrev adN(U:Us):Pv:=⟨MH,0,MH,0,U,[]⟩
theorem au3(U:Us)(c:Cf)(W:MO):(QA 65 #[(0,Ny (ac8 c).toArray),(2,Ny (XR U (Yb c)))]).run MK W=.ok (Ny (adM (adN U) c ⟨[],Yb c,[]⟩).toArray) W:=by kernel_rfl
theorem avq{c:Cf}(hc:adg c):XU c ⟨[],Yb c,[]⟩:=
 ⟨akw hc,rfl,rfl,Qh _,fun _ h=>absurd h OD,fun _ _ _ h=>absurd h (by simp),fun _ h=>absurd h (by simp),rfl⟩
theorem avn{w w2 W:MO}{U:Us}{c:Cf}{g B:Nat}(hbox:W.heap[g]?=MI (MP (adM (adN U) c ⟨[],Yb c,[]⟩).toArray 65 (0,0)))(hg:w.heap.size<=g)(hA:∀X,aba B w2 X->Xd X U (Yb c))(hb:MQ w2.heap.size w2 W)(h2:w2.heap.size<=g) :
  WU w.heap.size W g (adN U) c ⟨[],Yb c,[]⟩:=by
 refine⟨hbox,hg,rfl,⟨rfl,Nt ⟨rfl,rfl⟩⟩,⟨rfl,Nt ⟨rfl,rfl⟩⟩,by simp,by simp,by simp,fun X h1 h3=>?_,fun q hq=>absurd hq OD⟩;refine hA X ⟨Nm hb.size h1,fun b q1 q2=>?_⟩;rw[h3 b (M8 q2 hb.size),hb.block b q2];rintro(rfl|e|e)
 ·omega
 ·simp at e
 ·simp at e
def Sd(P:Py)(k:Nat):Prop:=(∀j,j<k->∃s,P.steps[j]?=MI s/\s.ev.kind=5)/\∀s∈P.steps,s.ev.req<2000
theorem ajm(P:Py)(e:Ev):(P.step e).steps.length=P.steps.length+1:=by
 show(P.steps++[_]).length=_;rw[Ns,OU]
theorem Sd.step{P:Py}{k:Nat}(h:Sd P k)(hk:k<=P.steps.length){e:Ev}(he:e.req<2000):Sd (P.step e) k:=by
 refine⟨fun j hj=>?_,fun s d=>?_⟩
 ·show ∃s,(P.steps++[_])[j]?=MI s/\s.ev.kind=5
  rw[OJ (by omega)];exact h.1 j hj
 ·rcases List.mem_append.1 d with d|d
  ·exact h.2 s d
  ·rw[List.mem_singleton.1 d];exact he
theorem Sd.Ms{P:Py}{k:Nat}(h:Sd P k)(hk:P.steps.length=k){e:Ev}(he:e.req<2000)(h5:e.kind=5):Sd (P.step e) (k+1):=by
 have d:=h.step (by omega) he;refine⟨fun j hj=>?_,d.2⟩
 by_cases e1:j<k
 ·exact d.1 j e1
 ·obtain rfl:j=k:=by omega
  refine⟨⟨e,P.last,(Xb P.last e).Ma,(Xb P.last e).out⟩,?_,h5⟩;show(P.steps++[_])[j]?=_;rw[Tw (by omega),show j-P.steps.length=0 by omega];rfl
def au0(f:Nat->Int)(most:Nat)(w:MO)(r:Ending)(w':MO):Prop :=
 ∃g V c P,r=MN (Nv #[gP g,M3 Nw])/\XQ w w' g V c P/\abq f c/\4<=P.steps.length/\P.steps.length<=most+4/\Sd P 3
theorem awU(f:Nat->Int)(hf:∀i,i<16->(N6 ME (f i)).wf=Nw)(ds:List Dd)(hds:∀d∈ds,ajd d){pd:Option Oc}{cd:Nat}(w:MO)(hrow:Xw agP w (MG pd ds.length cd) ds)(hblk:Xo w)(most:Nat)(hm:most<=100) :
  Ni MK 4 #[agc (f 0) (f 1) (f 2) (f 3) (f 4) (f 5) (f 6) (f 7) (f 8) (f 9) (f 10) (f 11) (f 12) (f 13) (f 14) (f 15),MG pd ds.length cd,MF ME (most:Int)] w (au0 f most w):=by
 obtain⟨c,hc,d5⟩:=au5 f hf;obtain⟨L,hL⟩:∃L:List M7,L=[MF ME (f 0),MF ME (f 1),MF ME (f 2),MF ME (f 3),MF ME (f 4),MF ME (f 5),MF ME (f 6),MF ME (f 7),MF ME (f 8),MF ME (f 9),MF ME (f 10),MF ME (f 11),MF ME (f 12),MF ME (f 13),MF ME (f 14),MF ME (f 15)]:=⟨_,rfl⟩;have f0:L.length=16:=by rw[hL];rfl
 obtain⟨K,hK⟩:∃K:List M7,K=ac8 c:=⟨_,rfl⟩;have HC:M6 (∀W:MO,Ni MK 10 #[Ny L.toArray] W fun r w'=>r=MN (Ny K.toArray)/\MQ W.heap.size W w'):=fun W=>by rw[hL,hK];exact d5 W
 have HB:M6 (∀W:MO,Ni MK 11 #[Ny K.toArray] W _):=fun W=>by rw[hK];exact aor c hc.ok W
 show Ni MK 4 #[Ny (List.toArray [MF ME (f 0),MF ME (f 1),MF ME (f 2),MF ME (f 3),MF ME (f 4),MF ME (f 5),MF ME (f 6),MF ME (f 7),MF ME (f 8),MF ME (f 9),MF ME (f 10),MF ME (f 11),MF ME (f 12),MF ME (f 13),MF ME (f 14),MF ME (f 15)]),MG pd ds.length cd,MF ME (most:Int)] w _;rw[<-hL];have y:M6 (_/\_/\_/\_/\_):=⟨f0,hc,hds,hrow,hm⟩;have HK:M6 _:=hK;obtain⟨W0,a4⟩:∃W0,W0=w.alloc (MP L.toArray 24):=⟨_,rfl⟩;have d8:MQ w.heap.size w W0:=by rw[a4];exact WQ w
 have A:M6 (_/\_):=⟨d8,hblk⟩;obtain⟨nd,a8⟩:∃nd,nd=ds.length:=⟨_,rfl⟩;rw[<-a8];have e4:M6 _:=a8;clear hL f0 d5 hc hf d8 hK hblk hds hrow hm a8;go_enter Tryz.func4,Tryz.ntmps4
 go_wp2_with ((with_reducible refine O3 rfl 24 (O6 3) rfl w.heap.size 0 ?gx L _ ?gc Tryz.underlying24 ?gd ?gi ?_);(case gx=>rfl);(case gc=>exact afW (M1 _ _));(case gd=>rfl);(case gi=>rw[y.out.1];exact apz))
 rw[<-a4];clear a4;refine(HC.out _).mono ?_;rintro r w1 ⟨rfl,a3⟩;have b6:(w1.alloc (MP kz.toArray 42)).heap[w1.heap.size]?=MI (MP kz.toArray 42 (0,0)):=M1 _ _;obtain⟨D,N⟩:∃D,D=(w1.alloc (MP kz.toArray 42)).setCells w1.heap.size 0 K:=⟨_,rfl⟩;have a9:K.length=16:=by rw[HK.out];rfl
 have b4:K.toArray.size=16:=(show K.toArray.size=K.length from OQ).trans a9;have e6:D.heap[w1.heap.size]?=MI (MP K.toArray 42 (0,0)):=by rw[N];exact afG b6 (by rw[a9];rfl)
 have c4:MQ w1.heap.size w1 D:=by rw[N];exact adp (WQ w1) (MV _) _ _ (by simp)
 have c6:(w1.alloc (MP kz.toArray 42)).there w1.heap.size 0 K.toArray.size:=by rw[b4];exact afH b6
 have d9:MQ w.heap.size w D:=(A.out.1.trans (a3.mono A.out.1.size)).trans (c4.mono (Nm A.out.1.size a3.size));have q:M6 (_/\_/\_/\_/\_/\_):=⟨c6,b4,e6,d9,N,(show w.heap.size<=w1.heap.size from Nm A.out.1.size a3.size)⟩;clear b6 N a9 b4 e6 c4 c6 d9 a3
 go_wp2_with (first|((with_reducible refine OW rfl 42 (O6 8) (O6 17) rfl w1.heap.size 0 K.toArray ?sx ?sy ?st ?si ?s1 ?_);(case sx=>rfl);(case sy=>rfl);(case st=>exact q.out.1);(case si=>rw[q.out.2.1];exact ajj);(case s1=>rw[HK.out];exact avk c);rw[NS,<-q.out.2.2.2.2.1])|((with_reducible refine O3 rfl 42 (O6 8) rfl w1.heap.size 0 ?gx K _ ?gc axO ?gd ?gi ?_);(case gx=>rfl);(case gc=>exact afW q.out.2.2.1);(case gd=>rfl);(case gi=>rw[show K.length=16 from q.out.2.1];exact ajj)))
 refine(HB.out D).mono ?_;rintro r w2 ⟨U,rfl,hM,O⟩;obtain⟨M,C⟩:∃M,M=(XR U (Yb c)).toList:=⟨_,rfl⟩;rw[show acN U (Yb c)=Ny M.toArray by rw[C]];have b1:M.length=26:=by rw[C];rfl
 have b3:M.toArray.size=26:=(show M.toArray.size=M.length from OQ).trans b1;have e9:M.toArray.all (·.oneCell')=true:=by rw[C];exact ado _ _
 have a5:(w2.alloc (MP wz.toArray 61)).heap[w2.heap.size]?=MI (MP wz.toArray 61 (0,0)):=M1 _ _;obtain⟨l,Z⟩:∃l,l=(w2.alloc (MP wz.toArray 61)).setCells w2.heap.size 0 M:=⟨_,rfl⟩;have T:l.heap[w2.heap.size]?=MI (MP M.toArray 61 (0,0)):=by rw[Z];exact afG a5 (by rw[b1];rfl)
 have B:MQ w2.heap.size w2 l:=by rw[Z];exact adp (WQ w2) (MV _) _ _ (by simp)
 have d4:(w2.alloc (MP wz.toArray 61)).there w2.heap.size 0 M.toArray.size:=by rw[b3];exact afH a5
 have I:l.heap[w1.heap.size]?=MI (MP K.toArray 42 (0,0)):=WO (WO q.out.2.2.1 O) B;have J:MQ w.heap.size w l:=(q.out.2.2.2.1.trans (O.mono q.out.2.2.2.1.size)).trans (B.mono (Nm q.out.2.2.2.1.size O.size));obtain⟨g,F⟩:∃g,g=l.heap.size:=⟨_,rfl⟩;obtain⟨R,hR⟩:∃R,R=adM (adN U) c ⟨[],Yb c,[]⟩:=⟨_,rfl⟩;have c5:∀X,(QA 65 #[(0,Ny K.toArray),(2,Ny M.toArray)]).run MK X=.ok (Ny R.toArray) X:=fun X=>by rw[HK.out,C,hR];exact au3 U c X
 obtain⟨z,a0⟩:∃z,z=l.alloc (MP R.toArray 65):=⟨_,rfl⟩;have a7:MQ l.heap.size l z:=by rw[a0];exact WQ l
 have c2:z.heap[g]?=MI (MP (adM (adN U) c ⟨[],Yb c,[]⟩).toArray 65 (0,0)):=by rw[a0,F,hR];exact M1 _ _
 have b7:MQ w.heap.size w z:=J.trans (a7.mono J.size);have d6:w2.heap.size<=g:=by rw[F];exact B.size
 have c7:w.heap.size<=g:=by rw[F];exact J.size
 have hP:WU w.heap.size z g (adN U) c ⟨[],Yb c,[]⟩:=avn c2 c7 hM (B.trans (a7.mono B.size)) d6;have H3:M6 (XQ w z g (adN U) c ⟨[],Yb c,[]⟩):=⟨hP,Rn.Ml (avq y.out.2.1.ok),b7,A.out.2.Gf (b7.block 0 A.out.2.lt),A.out.2.lt⟩;have d7:l.cell? ⟨w2.heap.size,17,MH⟩=MI (MG U.pt (Yb c).tab.length U.ct):=by rw[MW l _ 17 _ _ (0,0) T,C];rfl
 have c0:l.cell? ⟨w1.heap.size,0,MH⟩=MI (MF ME c.flows):=by rw[MW l _ 0 _ _ (0,0) I,HK.out];rfl
 have l2:w2.heap.size<l.heap.size:=(Array.getElem?_eq_some_iff.1 T).1;have l1:w1.heap.size<l.heap.size:=(Array.getElem?_eq_some_iff.1 I).1;have b2:((Yb c).tab.length:Int)=c.flows:=(akw y.out.2.1.ok).im.bs.tabLen;obtain⟨tl,f2⟩:∃tl,tl=(Yb c).tab.length:=⟨_,rfl⟩;rw[<-f2]at d7 b2;have f8:((tl:Int) != c.flows)=false:=by rw[b2];simp
 have u:M6 (_/\_/\_/\_/\_/\_/\_/\_):=⟨d4,b3,e9,Z,T,I,c5,a0⟩;have HG:M6 _:=F;clear C b1 b3 e9 a5 Z T B d4 I J hR c5 a0 a7 c2 b7 d6 c7 hP hM O f2 b2 F
 go_wp2_with (first|((with_reducible refine OW rfl 61 (O6 9) (O6 21) rfl w2.heap.size 0 M.toArray ?sx ?sy ?st ?si ?s1 ?_);(case sx=>rfl);(case sy=>rfl);(case st=>exact u.out.1);(case si=>rw[u.out.2.1];exact Z0);(case s1=>exact u.out.2.2.1);rw[NS,<-u.out.2.2.2.1])|((with_reducible refine O3 rfl 42 (O6 8) rfl w1.heap.size 0 ?gx K _ ?gc axO ?gd ?gi ?_);(case gx=>rfl);(case gc=>exact afW u.out.2.2.2.2.2.1);(case gd=>rfl);(case gi=>rw[show K.length=16 from q.out.2.1];exact ajj))|((with_reducible refine O3 rfl 61 (O6 9) rfl w2.heap.size 0 ?hx M _ ?hc Lv ?hd ?hi ?_);(case hx=>rfl);(case hc=>exact afW u.out.2.2.2.2.1);(case hd=>rfl);(case hi=>rw[show M.length=26 from u.out.2.1];exact Z0))|((with_reducible refine als rfl 65 #[(0,O6 23),(2,O6 24)] rfl (Ny R.toArray) ?br ?_);(case br=>simp only[PW,OA,P5];exact u.out.2.2.2.2.2.2.1 _)))
 rw[<-u.out.2.2.2.2.2.2.2,<-HG.out];clear d7 c0 f8 q u HG HB HC l1 l2
 go_loopw [12,13] (fun i _ wr=>∃(b:Nat) (V:Pv) (P:Py),i=MF ME (b:Int)/\b<=3/\M6 (XQ w wr g V c P/\P.steps.length=b/\Sd P b)) (fun i _ _=>3-(intOf i).toNat)
 case atStart=>exact⟨0,_,_,rfl,by omega,⟨H3.out,rfl,fun j hj=>by omega,fun s hs=>by cases hs⟩⟩
 case round =>
  obtain⟨b,V,P,rfl,hb,n⟩:=hrel
  by_cases hlt:b<3
  ·have f4:(b:Int)<3:=by omega
   have f9:IntKind.i64.wrap (1000+(b:Int))=1000+b:=abk (by omega) (by omega);have g2:IntKind.i64.wrap (2+(b:Int))=2+b:=abk (by omega) (by omega);have v:M6 _:=n.out.1.Mf (by rw[n.out.2.1];omega) ⟨5,0,0,0,Nb,1000+b,b,2+b⟩ (anu ⟨by omega,by omega⟩ ⟨by omega,by omega⟩ ⟨by omega,by omega⟩)
   go_wp2_with fail
   refine Nd v.out ?_;rintro r w5 ⟨rfl,V5,G⟩;have H5:M6 _:=G;clear G v
   go_wp2_with fail
   go_roundw
   case rel =>
    exact⟨b+1,V5,_,by simp,by omega,⟨H5.out,by rw[ajm,n.out.2.1],n.out.2.2.Ms n.out.2.1 (by show(1000:Int)+b<2000;omega) rfl⟩⟩
   case measure=>simp[intOf];omega
  ·obtain rfl:b=3:=by omega
   have f4:¬((3:Nat):Int)<3:=by omega
   have v:M6 _:=n.out.1.Mf (by rw[n.out.2.1];omega) ⟨7,0,0,0,Nb,0,0,0⟩ anv
   go_wp2_with fail
   refine Nd v.out ?_;rintro r w5 ⟨rfl,V5,G⟩;have HT:M6 (XQ w w5 g V5 c (P.step ⟨7,0,0,0,Nb,0,0,0⟩)/\(P.step ⟨7,0,0,0,Nb,0,0,0⟩).steps.length=4/\Sd (P.step ⟨7,0,0,0,Nb,0,0,0⟩) 3):=⟨G,by rw[ajm,n.out.2.1],n.out.2.2.step (by rw[n.out.2.1];omega) (by show(0:Int)<2000;decide)⟩;obtain⟨P4,e8⟩:∃P4,P4=P.step ⟨7,0,0,0,Nb,0,0,0⟩:=⟨_,rfl⟩;rw[<-e8]at HT;clear G v n e8
   go_wp2_with fail
   go_loopw [14,15] (fun k i wr=>∃(j:Nat) (V:Pv) (P:Py),k=M3 Nw/\i=MF ME (j:Int)/\j<=nd/\j<=most/\M6 (XQ w wr g V c P/\P.steps.length=4+j/\Sd P 3)) (fun _ i _=>nd-(intOf i).toNat)
   case atStart=>exact⟨0,_,_,rfl,rfl,Nx _,Nx _,HT⟩
   case round =>
    obtain⟨j,V,P,rfl,rfl,hj,g0,m⟩:=hrel
    by_cases hlt:j<nd
    ·have f7:(j:Int)<(nd:Int):=by omega
     by_cases hlm:j<most
     ·have f3:(j:Int)<(most:Int):=by omega
      have b8:j<ds.length:=by rw[<-e4.out];exact hlt
      obtain⟨a,g3,hv,_,e5,hp⟩:=Xw.F6 anr (y.out.2.2.2.1.below m.out.1.bel);injection hv with ha hn2 hcap;obtain⟨bo,oo,e7,f5,E⟩:=hp j b8;rw[<-ha]at e7;have d0:wr.cell? ⟨bo,oo+j*4,MH⟩=MI (MF ME ds[j].k):=E 0 (by omega);have d1:wr.cell? ⟨bo,oo+j*4+1,MH⟩=MI (MF ME ds[j].a):=E 1 (by omega);have d2:wr.cell? ⟨bo,oo+j*4+2,MH⟩=MI (MF ME ds[j].b):=E 2 (by omega);have d3:wr.cell? ⟨bo,oo+j*4+3,MH⟩=MI (MF ME ds[j].c):=E 3 (by omega);have a6:=y.out.2.2.1 _ (Nk b8);obtain⟨x,hx⟩:∃x,x=ds[j]:=⟨_,rfl⟩;rw[<-hx]at d0 d1 d2 d3 a6;have g4:nd<=9223372036854775807:=by rw[e4.out];unfold NE at e5;omega
      have b9:P.steps.length<=1000:=by have:=y.out.2.2.2.2;rw[m.out.2.1];omega
      have HE:M6 _:=m.out.1.MD b9 x a6;have HL:M6 _:=b9;clear ha hn2 hcap E hp hx a6 b8 e5 b9 f5;subst e7
      go_wp2_with fail
      refine Nd HE.out ?_;rintro r w6 ⟨e,he,rfl,h6⟩;have v:M6 _:=h6.Mf HL.out e he.1;have f6:M6 _:=he.2;clear h6 he HE d0 d1 d2 d3
      go_wp2_with fail
      refine Nd v.out ?_;rintro r w7 ⟨rfl,V7,h7⟩;have H7:M6 _:=h7;clear h7 v
      go_wp2_with fail
      go_roundw
      case rel =>
       exact⟨j+1,V7,_,rfl,by simp,by omega,by omega,⟨H7.out,by rw[ajm,m.out.2.1];omega,m.out.2.2.step (by rw[m.out.2.1];omega) f6.out⟩⟩
      case measure=>simp[intOf];omega
     ·have f3:¬(j:Int)<(most:Int):=by omega
      go_wp2_with fail
      go_ret2
      exact⟨g,V,c,P,rfl,m.out.1,y.out.2.1,by rw[m.out.2.1];omega,by rw[m.out.2.1];omega,m.out.2.2⟩
    ·have f7:¬(j:Int)<(nd:Int):=by omega
     go_wp2_with fail
     go_ret2
     exact⟨g,V,c,P,rfl,m.out.1,y.out.2.1,by rw[m.out.2.1];omega,by rw[m.out.2.1];omega,m.out.2.2⟩
end Go.Proofs.YtidlemcdnhbceaaGreatDoor.Q
