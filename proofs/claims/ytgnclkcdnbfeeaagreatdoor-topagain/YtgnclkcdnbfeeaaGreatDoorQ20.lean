/-
  Contracts of the layers and of core, part 20. Conditions: as each theorem says.
-/
import Derived.Test.YtgnclkcdnbfeeaaGreatDoorRows
import Derived.Deep.Fields
import Derived.LaidMore
import Derived.Stop.Joined
import Derived.Test.YtgnclkcdnbfeeaaGreatDoorQ18
import Derived.Test.YtgnclkcdnbfeeaaGreatDoorQ19
open Array renaming getElem?_eq_getElem->PN
open Bool renaming and_eq_true->Po,false->Nb,true->Nw
open Decidable renaming decide->Nn
open Go renaming Addr->Oc,Calls->Ni,Program->O8,TypeId->NU,Value->M7,World->MO,all_oneCell_toArray->OE,cell_of_row->MW,heap_alloc_new->M1,heap_setCell_same->NI,maxLen->NE,wpAnyH_done->PS,wpAnyH_ready->NN,wpList_load_mid->O3,wpList_store_mid->OW,wpQuiet_nil->Oy,wp_region_held_drew->O2,yieldsIf_load_mid->Pt
open Go.Act renaming put->Nr
open Go.AllReadyH renaming cons->NP,nil->NX
open Go.Builtin renaming append_->N2
open Go.Calls renaming mono->Nd
open Go.DataW renaming trod->Ry,trod_array->Ti,trod_int->QW,trod_struct->Tg
open Go.Ending renaming returned->MN
open Go.Instr renaming build->QA,buildSlice->Q0
open Go.IntKind renaming i64->ME
open Go.Lit renaming int->N6
open Go.Obj renaming cells->MP
open Go.Oper renaming wp->RB
open Go.Operand renaming tmp->O6
open Go.Proofs.Tryz renaming func48->Sd,prog->MK,underlying3->Ol,underlying35->Ph,underlying36->RC,underlying55->Lv,underlying60->azj
open Go.Region renaming wanted->Pz
open Go.Result renaming andThen_ok->PG
open Go.RowKit renaming Below->MQ,Hid->M6
open Go.RowKit.Below renaming heap_setCell->MU,refl->MY
open Go.Sem renaming run_bind->Pn,run_pure->P3
open Go.Value renaming agg->Ny,bool->M3,int->MF,pointer->Na,slice->MG,tuple->Nv
open Go.World renaming block_lt_of_cell?->MX,cell?_of_block->NG,frozen?->Ng,heap_setCells_other->N8,setCells->Qd
open Int renaming le_refl->Qh
open List renaming append_assoc->OC,append_nil->OG,ext_getElem?->Ot,filter_append->OY,getElem?_append_left->OJ,getElem?_append_right->Tw,getElem?_drop->Pa,getElem?_eq_getElem->MR,getElem?_eq_none->Nz,getElem?_take_of_lt->O0,getElem_cons_succ->MT,getElem_cons_zero->MS,getElem_map->QZ,getElem_mem->Nk,getElem_toArray->MZ,length_append->Ns,length_map->N0,length_singleton->OU,map_append->OI,map_cons->OA,map_nil->P5,map_toArray->PW,mem_cons->OO,not_mem_nil->OD,range->Pm,setIfInBounds_toArray->MJ,set_cons_succ->MM,set_cons_zero->ML,size_toArray->OQ,take_of_length_le->N1,take_succ_eq_append_getElem->M9,toList_toArray->NS
open Nat renaming div_lt_of_lt_mul->Sj,le_of_lt->PJ,le_refl->MV,le_trans->Nm,lt_of_lt_of_le->M8,mul_comm->R5,zero_le->Nx
open Option renaming none->MH,some->MI
open Option.some renaming inj->NC
open Or renaming inl->Nt,inr->NF
open Prod.mk renaming injEq->Q7
namespace Go.Proofs.YtgnclkcdnbfeeaaGreatDoor.Q
set_option linter.unusedVariables false
set_option linter.unusedSimpArgs false
set_option maxHeartbeats 16000000
set_option maxRecDepth 100000
open Go.RowKit
attribute [local go_sem ↓] Go.wp_at_zero Go.wp_at_succ
variable {a:Act}{fs:Array Field}{ops:Array Oper}{Q:Exit->Act->MO->Prop}{Y w1:MO}{S:MO->Prop}{t:NU}{fuel:Nat}{o:Oper}
section
open Go.ChangeShapes Go.WideShapes Go.ChangeAt Go.Deep
def aep(P:O8):Nat->NU->Bool
 |0,_=>Nb
 |d+1,t=>match P.underlying t with
  |some (.int ME)=>P.cellsOf t == 1
  |some (.struct fs)=>(Pm (P.cellsOf t)).all fun i=>(Pm fs.size).any fun j=>match fs[j]? with
   |some f=>Nn (f.offset<=i) && Nn (i<f.offset+P.cellsOf f.type) && aep P d f.type
   |none=>Nb
  |some (.array n e)=>aep P d e && Nn (0<P.cellsOf e) && Nn (P.cellsOf t=n*P.cellsOf e)
  |_=>Nb
section
variable {H:Type}{enc:NU×M7->H}{P:O8}{w:MO}{base:Nat}{spare:Nat->Bool}{held:Bool}
theorem aji:∀(d:Nat) {t:NU} {fuel:Nat} {cs:List M7} {x:DataW H×List MemPlace},aep P d t=Nw->Ry enc P w base spare held fuel t cs=MI x->∀i,i<P.cellsOf t->∃n:Int,cs[i]?=MI (MF ME n)/\(N6 ME n).wf=Nw
 |0,_,_,_,_,f,_,_,_=>by simp[aep]at f
 |d+1,t,fuel,cs,x,f,h,i,hi=>by
  unfold aep at f
  split at f
  ·rename_i hu
   obtain⟨n,rfl,_,I⟩:=QW hu h;have:P.cellsOf t=1:=by simpa using f
   obtain rfl:i=0:=by omega
   exact⟨n,rfl,I⟩
  ·rename_i fs hu
   obtain⟨F,k,_,_,_,v,u⟩:=Tg hu h;have E:=List.all_eq_true.1 f i (List.mem_range.2 hi);obtain⟨j,G,y⟩:=List.any_eq_true.1 E;have r:=List.mem_range.1 G;rw[PN r]at y;simp only[Po,decide_eq_true_eq]at y;obtain⟨⟨L,K⟩,D⟩:=y;have q:=u j fs[j] (PN r);rw[MR (by rw[v];exact r)]at q;obtain⟨n,l,s⟩:=aji d D q (i-fs[j].offset) (by omega);refine⟨n,?_,s⟩;rw[O0 (by omega),Pa]at l;rwa[show fs[j].offset+(i-fs[j].offset)=i by omega]at l
  ·rename_i n e hu
   simp only[Po,decide_eq_true_eq]at f;obtain⟨⟨f,B⟩,C⟩:=f;obtain⟨F,k,_,_,J,v,u⟩:=Ti hu h;have z:i / P.cellsOf e<n:=Sj (by rw[R5,<-C];exact hi);have A:=Nat.mod_lt i B;have q:=u (i / P.cellsOf e) z;rw[MR (by rw[v];exact z)]at q;obtain⟨m,l,s⟩:=aji d f q (i % P.cellsOf e) A;refine⟨m,?_,s⟩;rw[O0 A,Pa]at l;rwa[show i / P.cellsOf e*P.cellsOf e+i % P.cellsOf e=i by rw[R5];exact Nat.div_add_mod i _]at l
  ·cases f
theorem au2{cs:Array M7}(h:cs.size=16)(f:Nat->Int)(hf:∀i,i<16->cs.toList[i]?=MI (MF ME (f i))):cs=#[MF ME (f 0),MF ME (f 1),MF ME (f 2),MF ME (f 3),MF ME (f 4),MF ME (f 5),MF ME (f 6),MF ME (f 7),MF ME (f 8),MF ME (f 9),MF ME (f 10),MF ME (f 11),MF ME (f 12),MF ME (f 13),MF ME (f 14),MF ME (f 15)]:=by
 apply Array.toList_inj.1;apply Ot;intro i
 by_cases hi:i<16
 ·rw[hf i hi]
  have:i=0\/i=1\/i=2\/i=3\/i=4\/i=5\/i=6\/i=7\/i=8\/i=9\/i=10\/i=11\/i=12\/i=13\/i=14\/i=15:=by omega
  rcases this with rfl|rfl|rfl|rfl|rfl|rfl|rfl|rfl|rfl|rfl|rfl|rfl|rfl|rfl|rfl|rfl <;> rfl
 ·rw[Nz (by simp[h];omega),Nz (by simp;omega)]
theorem awT{r:Reach}{b0:Nat}{v:M7}{d:DataW H}{p:List MemPlace}(hs:P.underlying t=MI (.struct fs))(hc:P.cellsOf t=16)(hfl:aep P 3 t=Nw)
  (hv:Value.okWide P w r b0 t v) (h:DataW.Trod enc P w base spare held t v d p):∃f:Nat->Int,v=agc (f 0) (f 1) (f 2) (f 3) (f 4) (f 5) (f 6) (f 7) (f 8) (f 9) (f 10) (f 11) (f 12) (f 13) (f 14) (f 15)/\∀i,i<16->(N6 ME (f i)).wf=true:=by
 obtain⟨m,rfl,e⟩:=okWide_struct hs hv;obtain⟨fuel,l⟩:=h;have k:=aji 3 hfl l;rw[hc]at k e;obtain⟨f,j⟩:=choose_lt k;refine⟨f,?_,fun i hi=>(j i hi).2⟩;rw[au2 e f (fun i hi=>(j i hi).1)]
end
theorem avc:Tryz.prog.globalNamed "usher/wheel.blocks"=MI 1:=by kernel_rfl
theorem avw:(Tryz.prog.globals[1]?).map (·.type)=MI 22:=by kernel_rfl
abbrev anA:List (String×DataW Unit):=[("errors.errorType",Rows.laid_errors_errorType),("usher/wheel.blocks",Rows.laid_usher_wheel_blocks)]
theorem awR(os:Os)(args:Array M7):laidMetH MK anA ((World.doorLaid MK 400 os).forCall (fun _ _=>0) ⟨#[],args,[]⟩).memory :=
 laidMetH_of_parts3 (fuel:=8) (laidMet_of_run' 8 (by kernel_rfl) (by kernel_rfl)) (by kernel_rfl) (by kernel_rfl)
theorem awQ{W:MO}(h:laidMetH MK anA W):Xo W:=by
 obtain⟨ps,⟨g1,t1,F,f1,p1,q1,A,C,J,B,_,_⟩,_,_⟩:=(show laidMet MK [("usher/wheel.blocks",Rows.laid_usher_wheel_blocks)] W/\_ from h).1;obtain rfl:=NC (avc.symm.trans A);obtain rfl:=NC (avw.symm.trans C);obtain⟨R,y,rfl,k,Z,D,r⟩:=Ti Tryz.underlying22 B;have c3:Tryz.prog.cellsOf 3=1:=by kernel_rfl
 have u:=r 0 (by decide);have v:=r 1 (by decide);have z:=r 2 (by decide);have s:=fun i=>World.var?_cell A J i
 simp only[Rows.laid_usher_wheel_blocks,Q7,DataW.agg.injEq]at k
 match R,D,k,u,v,z with
 | [x0,x1,x2],_,k,u,v,z =>
  simp only[OA,P5,List.cons.injEq]at k;obtain⟨K,j,U,_⟩:=QW Ol (show Ry _ MK W 0 _ Nb y 3 _=MI x0 from u);obtain⟨N,f,M,_⟩:=QW Ol (show Ry _ MK W 0 _ Nb y 3 _=MI x1 from v);obtain⟨L,e,T,_⟩:=QW Ol (show Ry _ MK W 0 _ Nb y 3 _=MI x2 from z);have I:K=8:=by rw[U]at k;simpa using k.1.1.symm
  have E:N=64:=by rw[M]at k;simpa using k.1.2.1.symm
  have G:L=512:=by rw[T]at k;simpa using k.1.2.2.1.symm
  subst I E G;obtain⟨O⟩:=F;rw[c3]at j f e;have n:=s 0;have m:=s 1;have q:=s 2
  match O,j,f,e with
  | [a,b,c],j,f,e =>
   simp at j f e n m q;subst j f e;exact⟨n,m,q⟩
  | [],j,f,e=>simp at j
  | [a],j,f,e=>simp at f
  | [a,b],j,f,e=>simp at e
  |a::b::c::d::l,j,f,e =>
   simp at j f e n m q;subst j f e;exact⟨n,m,q⟩
end
section
open Go.ChangeShapes Go.WideShapes Go.ChangeAt Go.Deep
abbrev agP(d:Dd):List Value:=[MF ME d.k,MF ME d.a,MF ME d.b,MF ME d.c]
theorem anr(d:Dd):(agP d).length=4:=rfl
abbrev ajd(d:Dd):Prop:=(N6 ME d.k).wf=Nw/\(N6 ME d.a).wf=Nw/\(N6 ME d.b).wf=Nw/\(N6 ME d.c).wf=Nw
def ajl(P:O8)(fs:Array Field):Bool :=
 (Pm fs.size).all fun j=>match fs[j]? with
  |some f=>f.offset == j && P.cellsOf f.type == 1 && (match P.underlying f.type with|some (.int ME)=>Nw|_=>Nb)
  |none=>Nb
theorem avj{P:O8}(h:ajl P fs=Nw)(j:Nat)(f:Field)(hj:fs[j]?=MI f):f.offset=j/\P.cellsOf f.type=1/\P.underlying f.type=MI (.int ME):=by
 have e:j<fs.size:=(Array.getElem?_eq_some_iff.1 hj).1;have:=List.all_eq_true.1 h j (List.mem_range.2 e);simp only[hj,Po,beq_iff_eq]at this;obtain⟨⟨i,k⟩,d⟩:=this;refine⟨i,k,?_⟩;revert d;generalize P.underlying f.type=u;intro d
 split at d
 ·rfl
 ·cases d
section
variable {H:Type}{enc:NU×M7->H}{P:O8}{w:MO}{base:Nat}{spare:Nat->Bool}{held:Bool}
theorem avm{α:Type}{c:α->List M7}{k:Nat}(hk:∀x,(c x).length=k)(hk0:0<k)(mk:(Nat->Int)->α)(hmk:∀f j,j<k->(c (mk f))[j]?=MI (MF ME (f j))){e:NU}{v:M7}{x:DataW H×List MemPlace}(ht:P.underlying t=MI (.slice e))(he:P.underlying e=MI (.struct fs))(ce:P.cellsOf e=k)(hfs:fs.size=k)(hint:ajl P fs=Nw)
  (h:Ry enc P w base spare held fuel t [v]=MI x) :
  ∃l:List α,Xw c w v l/\(∀y∈l,∃f:Nat->Int,y=mk f/\∀j,j<k->(N6 ME (f j)).wf=Nw)/\((∃D sp,x.1=.slice ((Pm l.length).map D) sp)\/l=[]):=by
 rcases open_slice ht h with⟨s,_⟩|⟨a,len,a3,m,n,D,Pl,s,hb,hl,hm,a4,rfl,hx⟩
 ·simp at s
  subst s;exact⟨[],ak3 w,by simp,NF rfl⟩
 ·simp at s
  subst s;have b1:len<=m:=by rw[a4];split <;> omega
  have T:∀i,i<m->∃q:Nat->Int,∀j,j<k->w.cell? (a.add (i*k+j))=MI (MF ME (q j))/\(N6 ME (q j)).wf=true:=by
   intro i d;obtain⟨K,N,h2⟩:=hx i d;rw[ce]at N;obtain⟨_,r,R⟩:=World.cells?_some N;obtain⟨xs,k',a8,a9,_,a5,hf⟩:=Tg he h2;have a7:∀j,j<k->∃q:Int,w.cell? (a.add (i*k+j))=MI (MF ME q)/\(N6 ME q).wf=true:=by
    intro j L;have C:j<fs.size:=by omega
    have g:=hf j fs[j] (PN C);obtain⟨o,c1,u⟩:=avj hint j fs[j] (PN C);rw[MR (by rw[a5];exact C),o,c1]at g;obtain⟨I,z0,_,w0⟩:=QW u g;have G:=R j (by omega);rw[add_add]at G;have a0:K[j]?=MI (MF ME I):=by
     have:(K.drop j).head?=MI (MF ME I):=by
      have M:=congrArg List.head? z0;rw[List.head?_take]at M
      simpa using M
     rw[List.head?_drop]at this;exact this
    rw[a0]at G;exact⟨I,G,w0⟩
   obtain⟨q,z⟩:=choose_lt a7;exact⟨q,z⟩
  obtain⟨q,z⟩:=choose_lt T;have r:((Pm len).map (fun i=>mk (q i))).length=len:=by simp
  refine⟨(Pm len).map (fun i=>mk (q i)),?_,?_,Nt ⟨D,_,by rw[r]⟩⟩
  ·unfold Xw
   rw[r];refine⟨MI a,a3,rfl,hl,hm,?_⟩
   by_cases h0:len=0
   ·exact Nt ⟨h0,by rw[h0];rfl⟩
   ·obtain⟨b,off,Z⟩:=a
    have E:=(z 0 (by omega) 0 hk0).1;have O:Z=none:=by simpa [Addr.add]using World.cell?_spot E
    subst O;have J:∀i,(⟨b,off,MH⟩:Oc).add i=⟨b,off+i,MH⟩:=fun i=>by unfold Addr.add;split <;> simp_all
    refine NF ⟨b,off,rfl,?_,fun i d=>?_⟩
    ·rw[J]at E
     exact MX w ⟨b,off+(0*k+0),MH⟩ E
    ·rw[abx hk,r]at d
     have U:i / k<len:=Sj (by rw[R5];exact d);have B:i % k<k:=Nat.mod_lt _ hk0;have A:=ZA hk ((Pm len).map (fun i=>mk (q i))) (i / k) (i % k) (by rw[r];exact U) B;have F:=(z (i / k) (by omega) (i % k) B).1;have a6:i / k*k+i % k=i:=by rw[R5];exact Nat.div_add_mod i k
     rw[a6]at A F;rw[J]at F;simp only[QZ,List.getElem_range]at A
     rw[hmk _ _ B]at A
     rw[F,A]
  ·intro y hy
   obtain⟨i,d,rfl⟩:=List.mem_map.1 hy;exact⟨q i,rfl,fun j L=>(z i (by have:=List.mem_range.1 d;omega) j L).2⟩
abbrev anB(f:Nat->Int):Dd:=⟨f 0,f 1,f 2,f 3⟩
theorem avl(f:Nat->Int)(j:Nat)(hj:j<4):(agP (anB f))[j]?=MI (MF ME (f j)):=by
 match j,hj with
 |0,_=>rfl
 |1,_=>rfl
 |2,_=>rfl
 |3,_=>rfl
theorem awS{e:NU}{v:M7}{x:DataW H×List MemPlace}(ht:P.underlying t=MI (.slice e))(he:P.underlying e=MI (.struct fs))(ce:P.cellsOf e=4)(hfs:fs.size=4)(hint:ajl P fs=Nw)
  (h:Ry enc P w base spare held fuel t [v]=MI x):∃(l:List Dd) (p:Option Oc) (k:Nat),v=MG p l.length k/\Xw agP w (MG p l.length k) l/\∀d∈l,ajd d:=by
 obtain⟨l,j,m,_⟩:=avm anr (by decide) anB avl ht he ce hfs hint h;obtain⟨p,k,rfl,_,_⟩:=Xw.Ga j;refine⟨l,p,k,rfl,j,fun d hd=>?_⟩;obtain⟨f,rfl,i⟩:=m d hd;exact⟨i 0 (by omega),i 1 (by omega),i 2 (by omega),i 3 (by omega)⟩
end
end
abbrev afq(h:Int×Int):List Value:=[MF ME h.1,MF ME h.2]
abbrev aaV(e:Ev):List Value:=[MF ME e.kind,MF ME e.key,MF ME e.slot,MF ME e.gen,M3 e.good,MF ME e.req,MF ME e.be,MF ME e.wt]
abbrev ac8(c:Cf):List Value:=[MF ME c.flows,MF ME c.num,MF ME c.den,MF ME c.tries,MF ME c.warm,MF ME c.drain,MF ME c.idle,MF ME c.conn,MF ME c.ret,MF ME c.most,MF ME c.bn,MF ME c.bd,MF ME c.bb,MF ME c.wn,MF ME c.wf,MF ME c.wh]
structure Sq where
 s:Sp
 u:Us
 v:Us
 po:Option Oc
 co:Nat
def abK(q:Sq):List Value:=aaV q.s.ev++((XR q.u q.s.bef).toList++((XR q.v q.s.aft).toList++[MG q.po q.s.out.length q.co]))
theorem anw(x:Int×Int):(afq x).length=2:=rfl
theorem avt(x:Sq):(abK x).length=61:=rfl
theorem avg(x:Int×Int):∀u∈afq x,u.oneCell'=true:=by
 intro u d;simp only[OO,OD,or_false]at d;rcases d with rfl|rfl <;> rfl
theorem anD(U:Us)(G:Gt):∀u∈(XR U G).toList,u.oneCell'=true:=fun u hu=>Array.all_eq_true_iff_forall_mem.1 (ado U G) u (by simpa using hu)
theorem au7(e:Ev):∀u∈aaV e,u.oneCell'=true:=by
 intro u d;simp only[OO,OD,or_false]at d;rcases d with rfl|rfl|rfl|rfl|rfl|rfl|rfl|rfl <;> rfl
theorem avs(x:Sq):∀u∈abK x,u.oneCell'=true:=by
 intro u d;unfold abK at d;rcases List.mem_append.1 d with h|h
 ·exact au7 _ u h
 ·rcases List.mem_append.1 h with h|h
  ·exact anD _ _ u h
  ·rcases List.mem_append.1 h with h|h
   ·exact anD _ _ u h
   ·rw[List.mem_singleton.1 h];rfl
def aje(W:MO)(q:Sq):Prop:=Xd W q.u q.s.bef/\Xd W q.v q.s.aft/\Xw Z1 W (MG q.po q.s.out.length q.co) q.s.out
structure Pv where
 ps:Option Oc
 cs:Nat
 pg:Option Oc
 cg:Nat
 u:Us
 qs:List Sq
def Pv.own(V:Pv)(g b:Nat):Prop:=b=g\/V.ps.map (·.block)=MI b\/V.pg.map (·.block)=MI b
def adM(V:Pv)(c:Cf)(P:Py):List Value:=ac8 c++(MG V.ps V.qs.length V.cs::((XR V.u P.last).toList++[MG V.pg P.giv.length V.cg]))
structure WU(base:Nat)(w:MO)(g:Nat)(V:Pv)(c:Cf)(P:Py):Prop where
 box:w.heap[g]?=MI (MP (adM V c P).toArray 58 (0,0))
 low:base<=g
 eqs:V.qs.map (·.s)=P.steps
 rows:w.ownsRow base 63 61 (MG V.ps V.qs.length V.cs) V.qs.length (rv abK V.qs)
 giv:w.ownsRow base 70 2 (MG V.pg P.giv.length V.cg) P.giv.length (rv afq P.giv)
 og:V.ps.map (·.block)≠MI g
 oh:V.pg.map (·.block)≠MI g
 op:∀b,V.ps.map (·.block)=MI b->V.pg.map (·.block)≠MI b
 last:XG (V.own g) w fun X=>Xd X V.u P.last
 all:∀q∈V.qs,XG (V.own g) w fun X=>aje X q
structure XK(V V':Pv)(g:Nat)(w w':MO):Prop where
 os:w'.os=w.os
 tape:w'.tape=w.tape
 output:w'.output=w.output
 size:w.heap.size<=w'.heap.size
 block:∀b,b<w.heap.size->¬V.own g b->w'.heap[b]?=w.heap[b]?
 ext:∀b,V'.own g b->V.own g b\/w.heap.size<=b
section
variable {base:Nat}{w w' w1 w2:MO}{g:Nat}{V V' V1 V2:Pv}{c:Cf}{P:Py}
theorem WU.lt(h:WU base w g V c P):g<w.heap.size:=(Array.getElem?_eq_some_iff.1 h.box).1
theorem WU.steps(h:WU base w g V c P):P.steps.length=V.qs.length:=by rw[<-h.eqs,N0]
theorem XK.F5(h:MQ w.heap.size w w1):XK V V g w w1:=⟨h.os,h.tape,h.output,h.size,fun b hb _=>h.block b hb,fun _ h=>Nt h⟩
theorem XK.F0(h:XK V V1 g w w1)(k:XK V1 V2 g w1 w2):XK V V2 g w w2 :=
 ⟨k.os.trans h.os,k.tape.trans h.tape,k.output.trans h.output,Nm h.size k.size,fun b hb hn=>(k.block b (M8 hb h.size) fun e=>by
  rcases h.ext b e with e|e
  ·exact hn e
  ·omega).trans (h.block b hb hn),fun b e=>by
  rcases k.ext b e with e|e
  ·exact h.ext b e
  ·exact NF (Nm h.size e)⟩
theorem WU.Mb(h:WU base w g V c P){b:Nat}(hb:V.own g b):base<=b/\b<w.heap.size:=by
 rcases hb with rfl|e|e
 ·exact⟨h.low,h.lt⟩
 ·exact h.rows.lt b (by rw[XV];exact e)
 ·exact h.giv.lt b (by rw[XV];exact e)
theorem XK.IT(h:XK V V1 g w w1)(hP:WU base w g V c P)(hb:base<=w.heap.size):MQ base w w1 :=
 ⟨h.os,h.tape,h.output,h.size,fun b q=>h.block b (by omega) fun e=>by have:=(hP.Mb e).1;omega⟩
theorem WU.below(h:WU base w g V c P)(hb:MQ w.heap.size w w'):WU base w' g V c P :=
 ⟨(hb.block g h.lt).trans h.box,h.low,h.eqs,W8 h.rows fun b e=>hb.block b (h.rows.lt b e).2,W8 h.giv fun b e=>hb.block b (h.giv.lt b e).2,h.og,h.oh,h.op,h.last.below hb,fun q hq=>(h.all q hq).below hb⟩
theorem WU.MB(h:WU base w g V c P)(hs:w.heap.size<=w'.heap.size)(hb:∀b,b<w.heap.size->V.ps.map (·.block)≠MI b->w'.heap[b]?=w.heap[b]?){p:Option Oc}{k:Nat}{q:Sq}
  (ho:w'.ownsRow base 63 61 (MG p (V.qs++[q]).length k) (V.qs++[q]).length (rv abK (V.qs++[q]))) (hp:∀b,p.map (·.block)=MI b->V.ps.map (·.block)=MI b\/w.heap.size<=b)
  (hq:XG (V.own g) w fun X=>aje X q) (hl:q.s.bef=P.last) :
  WU base (w'.setCell ⟨g,16,MH⟩ (MG p (V.qs++[q]).length k)) g {V with ps:=p,cs:=k,qs:=V.qs++[q]} c {P with steps:=P.steps++[q.s]}:=by
 have n:=(hb g h.lt h.og).trans h.box;have j:∀b,p.map (·.block)=MI b->b≠g:=fun b e e2=>by
  subst e2;rcases hp b e with e|e
  ·exact h.og e
  ·have:=h.lt;omega
 have f:∀b,b≠g->(w'.setCell ⟨g,16,MH⟩ (MG p (V.qs++[q]).length k)).heap[b]?=w'.heap[b]?:=fun b e=>MU _ _ _ _ (fun e2=>e e2)
 have m:(w'.setCell ⟨g,16,MH⟩ (MG p (V.qs++[q]).length k)).heap.size=w'.heap.size:=by simp
 have i:∀ {p':MO->Prop},XG (V.own g) w p'->XG (Pv.own {V with ps:=p,cs:=k,qs:=V.qs++[q]} g) (w'.setCell ⟨g,16,MH⟩ (MG p (V.qs++[q]).length k)) p':=fun hA =>
  hA.step (by rw[m];exact hs) (fun b q1 q2=>(f b fun e=>q2 (Nt e)).trans (hb b q1 fun e=>q2 (NF (Nt e)))) fun b q1 e=>by
   rcases e with e|e|e
   ·exact Nt e
   ·exact(hp b e).elim (fun e=>NF (Nt e)) fun e=>by omega
   ·exact NF (NF e)
 refine⟨?_,h.low,by rw[OI,h.eqs];rfl,W8 ho fun b e=>f b (j b (by rw[<-XV];exact e)),W8 h.giv fun b e=>?_,fun e=>j g e rfl,h.oh,fun b e1 e2=>?_,i h.last,fun x d=>?_⟩
 ·exact YO n rfl
 ·have l:V.pg.map (·.block)=MI b:=by rw[<-XV];exact e
  rw[f b fun e2=>h.oh (by rw[l,e2])];exact hb b (h.giv.lt b e).2 fun e2=>h.op b e2 l
 ·rcases hp b e1 with e|e
  ·exact h.op b e e2
  ·have:=(h.giv.lt b (by rw[XV];exact e2)).2
   omega
 ·rcases List.mem_append.1 d with d|d
  ·exact i (h.all x d)
  ·rw[List.mem_singleton.1 d];exact i hq
theorem anx(T:NU)(g:Nat):∀(vs pre old post:List M7) (w:MO),old.length=vs.length->w.heap[g]?=MI (MP (pre++(old++post)).toArray T (0,0))->(w.setCells g pre.length vs).heap[g]?=MI (MP (pre++(vs++post)).toArray T (0,0))
 | [],pre,old,post,w,ho,h=>by
  obtain rfl:old=[]:=List.length_eq_zero_iff.1 (by simpa using ho);exact h
 |v::vs,pre,[],post,w,ho,h=>by simp at ho
 |v::vs,pre,u::old,post,w,ho,h=>by
  have d:=NI w g pre.length _ T v h;have e:(pre++(u::old++post)).toArray.setIfInBounds pre.length v=((pre++[v])++(old++post)).toArray:=by
   apply Array.toList_inj.1;simp
  rw[e]at d;have f:=anx T g vs (pre++[v]) old post _ (by simpa using ho) d;rw[Qd]
  simpa using f
theorem WU.MC(h:WU base w g V c P)(U:Us)(G:Gt)(hG:XG (V.own g) w fun X=>Xd X U G) :
  WU base (w.setCells g 17 (XR U G).toList) g {V with u:=U} c {P with last:=G}:=by
 have d:∀b,b<w.heap.size->b≠g->(w.setCells g 17 (XR U G).toList).heap[b]?=w.heap[b]?:=fun b f e=>N8 w g 17 _ f e
 have j:(w.setCells g 17 (XR U G).toList).heap.size=w.heap.size:=ac3 _ _ _ _;have i:∀ {p':MO->Prop},XG (V.own g) w p'->XG (Pv.own {V with u:=U} g) (w.setCells g 17 (XR U G).toList) p':=fun hA =>
  hA.step (by rw[j];exact MV _) (fun b q1 q2=>d b q1 fun e=>q2 (Nt e)) fun b q1 e=>e
 refine⟨?_,h.low,h.eqs,W8 h.rows fun b e=>d b (h.rows.lt b e).2 fun e2=>h.og (by rw[<-XV,e,e2]),W8 h.giv fun b e=>d b (h.giv.lt b e).2 fun e2=>h.oh (by rw[<-XV,e,e2]),h.og,h.oh,h.op,i hG,fun x hx=>i (h.all x hx)⟩;have f:w.heap[g]?=MI (MP ((ac8 c++[MG V.ps V.qs.length V.cs])++((XR V.u P.last).toList++[MG V.pg P.giv.length V.cg])).toArray 58 (0,0)):=h.box;exact anx 58 g (XR U G).toList (ac8 c++[MG V.ps V.qs.length V.cs]) (XR V.u P.last).toList [MG V.pg P.giv.length V.cg] w rfl f
theorem WU.MA(h:WU base w g V c P)(hs:w.heap.size<=w'.heap.size)(hb:∀b,b<w.heap.size->V.pg.map (·.block)≠MI b->w'.heap[b]?=w.heap[b]?){p:Option Oc}{k:Nat}{l:List (Int×Int)}
  (ho:w'.ownsRow base 70 2 (MG p l.length k) l.length (rv afq l)) (hp:∀b,p.map (·.block)=MI b->V.pg.map (·.block)=MI b\/w.heap.size<=b) :
  WU base (w'.setCell ⟨g,43,MH⟩ (MG p l.length k)) g {V with pg:=p,cg:=k} c {P with giv:=l}:=by
 have n:=(hb g h.lt h.oh).trans h.box;have i:∀b,p.map (·.block)=MI b->b≠g:=fun b e e2=>by
  subst e2;rcases hp b e with e|e
  ·exact h.oh e
  ·have:=h.lt;omega
 have d:∀b,b≠g->(w'.setCell ⟨g,43,MH⟩ (MG p l.length k)).heap[b]?=w'.heap[b]?:=fun b e=>MU _ _ _ _ (fun e2=>e e2)
 have m:(w'.setCell ⟨g,43,MH⟩ (MG p l.length k)).heap.size=w'.heap.size:=by simp
 have f:∀ {p':MO->Prop},XG (V.own g) w p'->XG (Pv.own {V with pg:=p,cg:=k} g) (w'.setCell ⟨g,43,MH⟩ (MG p l.length k)) p':=fun hA =>
  hA.step (by rw[m];exact hs) (fun b q1 q2=>(d b fun e=>q2 (Nt e)).trans (hb b q1 fun e=>q2 (NF (NF e)))) fun b q1 e=>by
   rcases e with e|e|e
   ·exact Nt e
   ·exact NF (Nt e)
   ·exact(hp b e).elim (fun e=>NF (NF e)) fun e=>by omega
 refine⟨?_,h.low,h.eqs,W8 h.rows fun b e=>?_,W8 ho fun b e=>d b (i b (by rw[<-XV];exact e)),h.og,fun e=>i g e rfl,fun b e1 e2=>?_,f h.last,fun x hx=>f (h.all x hx)⟩
 ·exact YO n rfl
 ·have j:V.ps.map (·.block)=MI b:=by rw[<-XV];exact e
  rw[d b fun e2=>h.og (by rw[j,e2])];exact hb b (h.rows.lt b e).2 fun e2=>h.op b j e2
 ·rcases hp b e2 with e|e
  ·exact h.op b e1 e
  ·have:=(h.rows.lt b (by rw[XV];exact e1)).2
   omega
end
theorem WU.Mo{base:Nat}{w:MO}{g:Nat}{V:Pv}{c:Cf}{P:Py}(h:WU base w g V c P):w.rangeAt g 17 (XR V.u P.last).toList:=fun j v hv=>by
 have d:j<26:=(List.getElem?_eq_some_iff.1 hv).1;rw[MW w g (17+j) _ _ (0,0) h.box];have e:adM V c P=(ac8 c++[MG V.ps V.qs.length V.cs])++((XR V.u P.last).toList++[MG V.pg P.giv.length V.cg]):=rfl;rw[List.getElem?_toArray,e,Tw (by show 17<=17+j;omega),show 17+j-(ac8 c++[MG V.ps V.qs.length V.cs]).length=j by show 17+j-17=j;omega,OJ d];exact hv
structure Yc(base:Nat)(X:MO)(g:Nat)(V:Pv)(c:Cf)(P:Py)(h:Nat)(e:Ev):Prop where
 pat:WU base X g V c P
 evb:X.heap[h]?=MI (MP (aaV e).toArray 60 (0,0))
 blk:Xo X
theorem Yc.on{base:Nat}{X:MO}{g:Nat}{V:Pv}{c:Cf}{P:Py}{h:Nat}{e:Ev}(k:Yc base X g V c P h e)(hb:MQ X.heap.size X Y):Yc base Y g V c P h e:=⟨k.pat.below hb,WO k.evb hb,k.blk.below hb⟩
theorem Yc.ev{base:Nat}{X:MO}{g:Nat}{V:Pv}{c:Cf}{P:Py}{h:Nat}{e:Ev}(k:Yc base X g V c P h e):X.rangeAt h 0 (aaV e):=agb k.evb
structure Xl(base:Nat)(W u:MO)(g:Nat)(V:Pv)(c:Cf)(P:Py)(h:Nat)(e:Ev)(b:Nat)(M:List M7)(U:Us)(po:Option Oc)(co:Nat):Prop where
 dos:Yc base u g V c P h e
 mem:M=(XR U (Xb P.last e)).toList
 box:u.heap[b]?=MI (MP M.toArray 55 (0,0))
 low:W.heap.size<=b
 bel:MQ W.heap.size W u
 ans:XG (V.own g) u fun X=>Xd X U (Xb P.last e)/\Xw Z1 X (MG po (Xb P.last e).out.length co) (Xb P.last e).out
 lt:∀x,V.own g x->x<W.heap.size
 no:¬V.own g h
theorem anz:(Tryz.prog.info? 60).map (·.size)=MI 8:=by kernel_rfl
theorem anp{S:Nat->Prop}{w5 u:MO}{B b5:Nat}{p:MO->Prop}(hA:∀X,aba B w5 X->p X)(hs:w5.heap.size<=u.heap.size)(hu:∀b,b<w5.heap.size->b≠b5->u.heap[b]?=w5.heap[b]?)(h5:b5<B\/w5.heap.size<=b5)(hS:∀b,S b->b<B):XG S u p :=
 fun X h1 h2=>hA X ⟨Nm hs h1,fun b q1 q2=>(h2 b (M8 q2 hs) fun e=>by have:=hS b e;omega).trans (hu b q2 (by omega))⟩
theorem anq{w:MO}{g:Nat}{a b:List M7}{T:NU}(h:w.heap[g]?=MI (MP a.toArray T (0,0)))(he:a.length=b.length):(w.setCells g 0 b).heap[g]?=MI (MP b.toArray T (0,0)):=ac0 T g b [] a w he h
theorem au4(q:Sq)(W:MO):(QA 63 #[(0,Ny (aaV q.s.ev).toArray),(1,Ny (XR q.u q.s.bef)),(2,Ny (XR q.v q.s.aft)),(3,MG q.po q.s.out.length q.co)]).run MK W=.ok (Ny (abK q).toArray) W:=by kernel_rfl
theorem avr(q:Sq)(W:MO):(Q0 36 1 #[(0,Ny (abK q).toArray)]).run MK W=.ok (MG (MI ⟨W.heap.size,0,MH⟩) 1 1) (W.alloc (MP (abK q).toArray 63)):=by kernel_rfl
abbrev avu:Value:=Ny ((aaV ⟨0,0,0,0,Nb,0,0,0⟩++(wz++(wz++[MG MH 0 0]))).toArray)
theorem avi:(Tryz.prog.info? 63).map (fun i=>(i.zero,i.size,i.bytes))=MI (MI avu,61,728):=by kernel_rfl
theorem avh:(Tryz.prog.info? 70).map (fun i=>(i.zero,i.size,i.bytes))=MI (MI (Ny #[MF ME 0,MF ME 0]),2,16):=by kernel_rfl
theorem avp{P:O8}{md:Region.Mode}{listed:Array Bool}{w:MO}{i:Nat}(ho:ops[i]?=MI o)(hg:o.guard=MH)(t:NU)(n:Nat)(parts:Array (Nat×Operand))(hop:o.op=.buildSlice t n parts)
  (y:M7) (hr:(Q0 t n (parts.map fun(i,x)=>(i,a.eval x))).run P w=.ok y w1) (hS:S w1)
  (h:wpAnyH P md ops Q S fuel (listed.setIfInBounds i Nw) (a.put o.dst y) w1):AllReadyH P md ops Q S fuel listed a w [i]:=by
 refine NP ho (fun K hK=>?_) NX;have d:Pz o (yielded ops a.tmps)=true:=by simp[Pz,hg]
 rw[Nh d];unfold RB execOp;simp only[hop,Pn,P3,PG,hr];exact hK.out _ _ hS (fun _=>h)
theorem avv{P:O8}{w:MO}{K:Act->MO->Prop}{E:Prop}(hg:o.guard=MH)(t:NU)(n:Nat)(parts:Array (Nat×Operand))(hop:o.op=.buildSlice t n parts)
  (y:M7) (hr:(Q0 t n (parts.map fun(i,x)=>(i,a.eval x))).run P w=.ok y w1) (h:K (a.put o.dst y) w1):if Pz o (yielded ops a.tmps)=Nw then RB P o a w K Q else E:=by
 have d:Pz o (yielded ops a.tmps)=true:=by simp[Pz,hg]
 rw[Nh d];unfold RB execOp;simp only[hop,Pn,P3,PG,hr];exact h
theorem avx{P:O8}{op:Oper}(hw:Pz op (yielded ops a.tmps)=Nw)(T:NU)(parts:Array (Nat×Operand))(ho:op.op=.build T parts)(y:M7)
  (hr:∀w,(QA T (parts.map fun(i,x)=>(i,a.eval x))).run P w=.ok y w):YieldsIf P ops S op y a :=
 Nt ⟨hw,fun w hw'=>by
  unfold execOp;simp only[ho,Pn,P3,PG,hr w]⟩
theorem anC{P:O8}{md:Region.Mode}{listed:Array Bool}{w:MO}{i:Nat}(ho:ops[i]?=MI o)(hg:o.guard=MH)(s x:Operand)(t:NU)
  (hop:o.op=.call {callee:=.builtin .append,args:=#[s,x],argTypes:=#[t,t]}) (v u y:M7) (hs:a.eval s=v) (hx:a.eval x=u) (hr:(N2 #[t,t] o.type #[v,u]).run P w=.ok y w1) (hS:S w1)
  (h:wpAnyH P md ops Q S fuel (listed.setIfInBounds i Nw) (a.put o.dst y) w1):AllReadyH P md ops Q S fuel listed a w [i]:=by
 refine NP ho (fun K hK=>?_) NX;refine aec hg s x t hop v u y w1 hs hx hr ?_;exact hK.out _ _ hS (fun _=>h)
theorem Xl.on{base:Nat}{W u:MO}{g:Nat}{V:Pv}{c:Cf}{P:Py}{h:Nat}{e:Ev}{b:Nat}{M:List M7}{U:Us}{po:Option Oc}{co:Nat}(k:Xl base W u g V c P h e b M U po co)(hb:MQ u.heap.size u Y):Xl base W Y g V c P h e b M U po co :=
 ⟨k.dos.on hb,k.mem,WO k.box hb,k.low,k.bel.trans (hb.mono k.bel.size),k.ans.below hb,k.lt,k.no⟩
theorem Xl.Gm{base:Nat}{W u:MO}{g:Nat}{V:Pv}{c:Cf}{P:Py}{h:Nat}{e:Ev}{b:Nat}{M:List M7}{U:Us}{po:Option Oc}{co:Nat}(k:Xl base W u g V c P h e b M U po co):u.cell? ⟨g,16,MH⟩=MI (MG V.ps V.qs.length V.cs):=by
 rw[MW u g 16 _ _ (0,0) k.dos.pat.box];rfl
def abs(X:MO)(h g q:Nat)(e:Ev)(L M:List M7):Prop:=X.rangeAt h 0 (aaV e)/\X.rangeAt g 17 L/\X.rangeAt q 0 M
theorem afr{X:MO}{b o:Nat}{cs:List M7}(h:X.rangeAt b o cs)(e:Y.heap[b]?=X.heap[b]?):Y.rangeAt b o cs:=fun j v hv=>(NG e).trans (h j v hv)
theorem Xl.Gz{base:Nat}{W u:MO}{g:Nat}{V:Pv}{c:Cf}{P:Py}{h:Nat}{e:Ev}{b:Nat}{M:List M7}{U:Us}{po:Option Oc}{co:Nat}(k:Xl base W u g V c P h e b M U po co):abs u h g b e (XR V.u P.last).toList M :=
 ⟨k.dos.ev,k.dos.pat.Mo,agb k.box⟩
theorem abs.Gf{X:MO}{h g q:Nat}{e:Ev}{L M:List M7}(k:abs X h g q e L M)(e1:Y.heap[h]?=X.heap[h]?)(e2:Y.heap[g]?=X.heap[g]?)(e3:Y.heap[q]?=X.heap[q]?):abs Y h g q e L M:=⟨afr k.1 e1,afr k.2.1 e2,afr k.2.2 e3⟩
theorem abs.F4{X:MO}{h g q:Nat}{e:Ev}{L M:List M7}(k:abs X h g q e L M)(h1:h≠g)(h2:q≠g)(v:M7):abs (X.setCell ⟨g,16,MH⟩ v) h g q e L M :=
 ⟨afr k.1 (MU _ _ _ _ (fun e=>h1 e)),fun j y hy=>(World.cell?_setCell_other _ _ _ _ (fun e=>by injection e with _ e2 _;omega)).trans (k.2.1 j y hy),afr k.2.2 (MU _ _ _ _ (fun e=>h2 e))⟩
structure abr(base:Nat)(W u:MO)(g:Nat)(V V8:Pv)(c:Cf)(P8:Py)(b:Nat)(M:List M7)(U:Us)(T:Gt)(po:Option Oc)(co:Nat):Prop where
 pat:WU base u g V8 c P8
 box:u.heap[b]?=MI (MP M.toArray 55 (0,0))
 no:¬V8.own g b
 ans:XG (V8.own g) u fun X=>Xd X U T/\Xw Z1 X (MG po T.out.length co) T.out
 frm:XK V V8 g W u
structure aai(base:Nat)(W u:MO)(g:Nat)(V V9:Pv)(c:Cf)(P:Py)(s:Sp)(B:Gt)(l:List Ou)(k:Nat)(po:Option Oc)(co:Nat):Prop where
 pat:WU base u g V9 c ⟨P.steps++[s],B,P.giv++Zi (l.take k)⟩
 frm:XK V V9 g W u
 out:XG (V9.own g) u fun X=>Xw Z1 X (MG po l.length co) l
theorem avb{V8:Pv}{U:Us}{g:Nat}{u:MO}(vs:List M7):XK V8 {V8 with u:=U} g u (u.setCells g 17 vs):=by
 have d:=adF (B:=0) (w0:=u) (g:=g) (MY 0 u) (Nx _) 17 vs (Nx _);exact⟨d.os,d.tape,d.output,d.size,fun b q1 q2=>N8 u g 17 _ q1 fun e=>q2 (Nt e),fun b e=>Nt e⟩
theorem ave{l:List Ou}{k:Nat}(hk:k<l.length):Zi (l.take (k+1))=Zi (l.take k)++(if l[k].kind=1 then [(l[k].slot,l[k].gen)]else []):=by
 unfold Zi;rw[M9 hk,OY,OI]
 congr 1
 by_cases h:l[k].kind=1
 ·rw[Nh h,List.filter_cons_of_pos (by simp[h])];rfl
 ·rw[Nf h,List.filter_cons_of_neg (by simp[h])];rfl
theorem avo{base:Nat}{W u:MO}{g:Nat}{V:Pv}{c:Cf}{P:Py}{h:Nat}{e:Ev}{b:Nat}{M:List M7}{U:Us}{po:Option Oc}{co:Nat}(k:Xl base W u g V c P h e b M U po co)(hl:V.qs.length<=100000)(hbase:base<=u.heap.size)(z:Sq)
  (hz:z=⟨⟨e,P.last,(Xb P.last e).Ma,(Xb P.last e).out⟩,V.u,U,po,co⟩) (hfr:W.heap.size<=u.heap.size) :
  ∃q' c' w9,(N2 #[36,36] 36 #[MG V.ps V.qs.length V.cs,MG (MI ⟨u.heap.size,0,MH⟩) 1 1]).run MK (u.alloc (MP (abK z).toArray 63))=.ok (MG (MI ⟨q',0,MH⟩) (V.qs.length+1) c') w9 /\
   (w9.cell? ⟨g,16,MH⟩=MI (MG V.ps V.qs.length V.cs)/\w9.frozen? ⟨g,16,MH⟩=Nb)/\(∀x,x<u.heap.size->V.ps.map (·.block)≠MI x->w9.heap[x]?=u.heap[x]?) /\
   abr base W (w9.setCell ⟨g,16,MH⟩ (MG (MI ⟨q',0,MH⟩) (V.qs.length+1) c')) g V {V with ps:=MI ⟨q',0,MH⟩,cs:=c',qs:=V.qs++[z]} c {P with steps:=P.steps++[z.s]} b M U (Xb P.last e) po co:=by
 have f:=k.dos.pat
 obtain⟨q',c',w9,J,I,d,D⟩:=afC avt avs (by decide) RC avi rfl (w:=u) (base:=base) f.rows hbase 36 z (abK z).toArray rfl (by omega) (by unfold NE;omega);have i:∀x,x<u.heap.size->V.ps.map (·.block)≠MI x->w9.heap[x]?=u.heap[x]?:=fun x hx hne=>d.block x hx (fun e=>hne (by rw[e,XV]))
 have v:=(i g f.lt f.og).trans f.box;have A:∀x,(MI (⟨q',0,MH⟩:Oc)).map (·.block)=MI x->V.ps.map (·.block)=MI x\/u.heap.size<=x:=fun x e=>by
  cases e;rcases D with e|e
  ·exact Nt (by rw[<-XV _ V.qs.length V.cs];exact e)
  ·exact NF (PJ e)
 have n:(V.qs++[z]).length=V.qs.length+1:=by simp
 have F:XG (V.own g) u fun X=>aje X z:=fun X h1 h2=>by
  have G:=f.last X h1 h2;have C:=k.ans X h1 h2;rw[hz];exact⟨G,C.1.Ma,C.2⟩
 have B:=f.MB (w':=w9) (p:=MI ⟨q',0,MH⟩) (k:=c') (q:=z) d.size i (by rw[n];exact I) A F (by rw[hz]);rw[n]at B;have r:b<u.heap.size:=(Array.getElem?_eq_some_iff.1 k.box).1;have j:¬V.own g b:=fun e=>by have:=k.lt b e;have:=k.low;omega
 have K:b≠g:=fun e=>j (Nt e)
 have E:∀x,x≠g->(w9.setCell ⟨g,16,MH⟩ (MG (MI ⟨q',0,MH⟩) (V.qs.length+1) c')).heap[x]?=w9.heap[x]?:=fun x e=>MU _ _ _ _ (fun e2=>e e2)
 have y:(w9.setCell ⟨g,16,MH⟩ (MG (MI ⟨q',0,MH⟩) (V.qs.length+1) c')).heap.size=w9.heap.size:=by simp
 have l:∀x,x<u.heap.size->Pv.own {V with ps:=MI ⟨q',0,MH⟩,cs:=c',qs:=V.qs++[z]} g x->V.own g x:=fun x q1 e=>by
  rcases e with e|e|e
  ·exact Nt e
  ·exact(A x e).elim (fun e=>NF (Nt e)) fun e=>by omega
  ·exact NF (NF e)
 have m:∀x,x<u.heap.size->¬V.own g x->(w9.setCell ⟨g,16,MH⟩ (MG (MI ⟨q',0,MH⟩) (V.qs.length+1) c')).heap[x]?=u.heap[x]?:=fun x q1 q2=>(E x fun e=>q2 (Nt e)).trans (i x q1 fun e=>q2 (NF (Nt e)))
 refine⟨q',c',w9,J,⟨by rw[MW w9 g 16 _ _ (0,0) v];rfl,by simp[Ng,v]⟩,i,B,(m b r j).trans k.box,fun e=>j (l b r e),k.ans.step (by rw[y];exact d.size) m l,?_⟩;refine⟨d.os.trans k.bel.os,d.tape.trans k.bel.tape,d.output.trans k.bel.output,by rw[y];exact Nm hfr d.size,fun x q1 q2=>(m x (M8 q1 hfr) q2).trans (k.bel.block x q1),fun x e=>?_⟩
 ·by_cases hxu:x<u.heap.size
  ·exact Nt (l x hxu e)
  ·exact NF (by omega)
theorem au1{V V':Pv}{g:Nat}{w w':MO}{p:MO->Prop}(h:XG (V.own g) w p)(hf:XK V V' g w w'):XG (V'.own g) w' p :=
 h.step hf.size hf.block fun b hb e=>(hf.ext b e).elim id fun e=>by omega
theorem avf(l:List Ou)(k:Nat):(Zi (l.take k)).length<=(Zi l).length:=by
 unfold Zi;rw[N0,N0];exact((List.take_sublist k l).filter _).length_le
theorem WU.Mn{base:Nat}{w:MO}{g:Nat}{V:Pv}{c:Cf}{P:Py}(h:WU base w g V c P):w.cell? ⟨g,43,MH⟩=MI (MG V.pg P.giv.length V.cg):=by
 rw[MW w g 43 _ _ (0,0) h.box];rfl
theorem avd{base:Nat}{W:MO}{g:Nat}{V:Pv}{c:Cf}{P:Py}(h:WU base W g V c P)(hl:P.giv.length<=1000000)(x:Int×Int) :
  ∃q c' w5,(N2 #[56,56] 56 #[MG V.pg P.giv.length V.cg,MG (MI ⟨W.heap.size,0,MH⟩) 1 1]).run MK ((W.alloc (MP #[MF ME x.1,MF ME x.2] 70)).drew)=.ok (MG (MI ⟨q,0,MH⟩) (P.giv.length+1) c') w5 /\
   (w5.cell? ⟨g,43,MH⟩=MI (MG V.pg P.giv.length V.cg)/\w5.frozen? ⟨g,43,MH⟩=Nb) /\
   WU base (w5.setCell ⟨g,43,MH⟩ (MG (MI ⟨q,0,MH⟩) (P.giv.length+1) c')) g {V with pg:=MI ⟨q,0,MH⟩,cg:=c'} c {P with giv:=P.giv++[x]} /\
   XK V {V with pg:=MI ⟨q,0,MH⟩,cg:=c'} g W (w5.setCell ⟨g,43,MH⟩ (MG (MI ⟨q,0,MH⟩) (P.giv.length+1) c')):=by
 have s:base<=W.heap.size:=Nm h.low (PJ h.lt);obtain⟨q,c',w5,v,u,d,r⟩:=afC anw avg (by decide) Tryz.underlying56 avh rfl (w:=W.drew) (base:=base) (h.below (MY _ _).drew).giv s 56 x #[MF ME x.1,MF ME x.2] rfl (by omega) (by unfold NE;omega);have f:∀b,b<W.heap.size->V.pg.map (·.block)≠MI b->w5.heap[b]?=W.heap[b]?:=fun b hb hne=>d.block b hb (fun e=>hne (by rw[e,XV]))
 have j:=(f g h.lt h.oh).trans h.box;have m:∀b,(MI (⟨q,0,MH⟩:Oc)).map (·.block)=MI b->V.pg.map (·.block)=MI b\/W.heap.size<=b:=fun b e=>by
  cases e;rcases r with e|e
  ·exact Nt (by rw[<-XV _ P.giv.length V.cg];exact e)
  ·exact NF (PJ e)
 have i:(P.giv++[x]).length=P.giv.length+1:=by simp
 have n:=h.MA (w':=w5) (p:=MI ⟨q,0,MH⟩) (k:=c') (l:=P.giv++[x]) d.size f (by rw[i];exact u) m;rw[i]at n;refine⟨q,c',w5,v,⟨by rw[MW w5 g 43 _ _ (0,0) j];rfl,by simp[Ng,j]⟩,n,d.os,d.tape,d.output,by simp;exact d.size,fun b hb hn=>?_,fun b e=>?_⟩
 ·rw[MU _ _ _ _ (fun e=>hn (Nt e))]
  exact f b hb fun e=>hn (NF (NF e))
 ·rcases e with e|e|e
  ·exact Nt (Nt e)
  ·exact Nt (NF (Nt e))
  ·exact(m b e).imp (fun e=>NF (NF e)) id
theorem au6{base:Nat}{w:MO}{g:Nat}{V:Pv}{c:Cf}{P:Py}(h:WU base w g V c P)(hr:XU c P)(hlen:P.steps.length<=1000)(hblk:Xo w)(hb:base<=w.heap.size)(e:Ev)(he:Yk e=0)(hgv:P.giv.length+(Zi (Xb P.last e).out).length<=100000) :
  Ni MK 15 #[gP g,agQ e] w fun r w'=>r=MN (M3 Nw)/\∃V',WU base w' g V' c (P.step e)/\XK V V' g w w':=by
 obtain⟨W,hW⟩:∃W,W=w.alloc (MP (aaV e).toArray 60):=⟨_,rfl⟩;have hB:MQ w.heap.size w W:=by rw[hW];exact WQ w
 have hR:W.heap[w.heap.size]?=MI (MP (aaV e).toArray 60 (0,0)):=by rw[hW];exact M1 _ _
 have hD:Yc base W g V c P w.heap.size e:=⟨h.below hB,hR,hblk.below hB⟩;obtain⟨y,i0⟩:∃y,y=w.heap.size:=⟨_,rfl⟩;rw[<-i0]at hD;have l8:¬V.own g y:=fun e=>by have:=(h.Mb e).2;omega
 have J:M6 (_/\_/\_/\_/\_/\_):=⟨hr,hlen,he,hB,hb,l8⟩;have HD:M6 _:=hD;have m7:M6 _:=hgv;have H7:M6 (e.kind=7->P.last.now+1<=1099511626776):=fun _=>by have:=hr.now;omega
 obtain⟨L,hL⟩:∃L,L=(XR V.u P.last).toList:=⟨_,rfl⟩;have HL:M6 _:=hL;clear hR hblk h hr hlen he hB hb hD hL l8 hgv;go_enter Tryz.func15,Tryz.ntmps15
 go_wp2_with fail
 rw[<-hW,<-i0];clear hW i0;apply aan
 ·intro e7
  obtain⟨W3,g8⟩:∃W3,W3=W.drew:=⟨_,rfl⟩;have l4:Yc base W3 g V c P y e:=by rw[g8];exact HD.out.on (MY _ _).drew
  obtain⟨S,hS,a6,g9⟩:∃S:MO->Prop,(∀X,S X->Yc base X g V c P y e)/\(∀X,Yc base X g V c P y e->S X)/\S W.drew:=⟨fun X=>Yc base X g V c P y e,fun _ h=>h,fun _ h=>h,by rw[<-g8];exact l4⟩;have D:M6 (_/\_):=⟨hS,a6⟩;clear hS a6 l4 g8 W3;refine O2 (S:=S) (by kernel_rfl) g9 (fun hHeld=>?_);refine awW 0 (gP g) hHeld ?_;simp only[Nr,MZ,MT,MS,MJ,ML,MM];refine awW 1 (gP g) hHeld ?_;simp only[Nr,MZ,MT,MS,MJ,ML,MM];refine awW 2 (Na (MI ⟨g,17,MH⟩)) hHeld ?_;simp only[Nr,MZ,MT,MS,MJ,ML,MM];refine awW 3 (Ny L.toArray) hHeld ?_ (hy:=Pt (by rfl) 55 (O6 12) rfl g 17 rfl L _ (fun _ h=>by rw[HL.out];exact(D.out.1 _ h).pat.Mo) Lv rfl (by rw[HL.out];exact Z0));simp only[Nr,MZ,MT,MS,MJ,ML,MM];refine awW 4 (Ny (aaV e).toArray) hHeld ?_ (hy:=Pt (by rfl) 60 (O6 3) rfl y 0 rfl (aaV e) _ (fun _ h=>(D.out.1 _ h).ev) azj rfl anz);simp only[Nr,MZ,MT,MS,MJ,ML,MM];refine NN (rs:=[5,10]) (by kernel_rfl) (by simp) ?_;refine NP (o:=_) rfl (fun K hK=>?_) (NP (o:=_) rfl (fun K hK=>?_) NX)
  ·go_simp
   refine Nd (w:=W.drew) (by rw[HL.out];exact akh (D.out.1 _ hHeld).pat.last.now J.out.1.wm (D.out.1 _ hHeld).blk J.out.1.out e J.out.2.2.1 H7.out) ?_;rintro r B ⟨n,A,v,rfl,d4,U⟩;obtain⟨d,b3⟩:∃d,d=(XR n (Xb P.last e)).toList:=⟨_,rfl⟩;obtain⟨m,b7⟩:∃m,m=(Xb P.last e).out.length:=⟨_,rfl⟩;have E:M6 (_/\_/\_/\_):=⟨b3,d4,U,b7⟩;have e5:S B:=D.out.2 _ ((D.out.1 _ hHeld).on U);rw[show acN n (Xb P.last e)=Ny d.toArray by rw[b3],<-b7];clear d4 U b3 b7
   go_wp2_with fail
   refine hK.out _ _ e5 (fun hHeld5=>?_);clear hK K e5
   try simp only[Nr,MZ,MT,MS,MJ,ML,MM]
   refine awW 6 (Nv #[Ny d.toArray,MG A m v,MF ME 0]) hHeld5 ?_;simp only[Nr,MZ,MT,MS,MJ,ML,MM];refine awW 7 (Ny d.toArray) hHeld5 ?_;simp only[Nr,MZ,MT,MS,MJ,ML,MM];refine awW 8 (MG A m v) hHeld5 ?_;simp only[Nr,MZ,MT,MS,MJ,ML,MM];refine awW 9 (MF ME 0) hHeld5 ?_;simp only[Nr,MZ,MT,MS,MJ,ML,MM];refine NN (rs:=[10]) (by kernel_rfl) (by simp) ?_;refine NP (o:=_) rfl (fun K hK=>?_) NX;go_simp;obtain⟨Y,hY⟩:∃Y,Y=B.alloc (MP wz.toArray 55):=⟨_,rfl⟩;obtain⟨q,hg⟩:∃q,q=B.heap.size:=⟨_,rfl⟩;have f2:MQ B.heap.size B Y:=by rw[hY];exact WQ B
   have b1:Y.heap[q]?=MI (MP wz.toArray 55 (0,0)):=by rw[hY,hg];exact M1 _ _
   have U:MQ W.heap.size W B:=Za E.out.2.2.1;have a7:MQ W.heap.size W Y:=U.trans (f2.mono U.size);have b4:W.heap.size<=q:=by rw[hg];exact U.size
   have l7:S Y:=D.out.2 _ (HD.out.on a7);have d9:∀b,b<B.heap.size->Y.heap[b]?=B.heap[b]?:=fun b h=>f2.block b h
   have c2:=f2.size;have l3:B.heap.size<=q:=by rw[hg];exact MV _
   rw[<-hY,<-hg];clear hY hg f2 U;refine hK.out _ _ l7 (fun hHeldY=>?_);clear hK K l7
   try simp only[Nr,MZ,MT,MS,MJ,ML,MM]
   have l5:d.length=26:=by rw[E.out.1];rfl
   have a3:d.toArray.size=26:=(show d.toArray.size=d.length from OQ).trans l5;have a8:(Y).there q 0 d.toArray.size:=by rw[a3];exact aeU b1
   obtain⟨f,I⟩:∃f,f=(Y).setCells q 0 d:=⟨_,rfl⟩;have e8:f.heap[q]?=MI (MP d.toArray 55 (0,0)):=by rw[I];exact anq b1 (by rw[l5];rfl)
   have b8:MQ W.heap.size W f:=by rw[I];exact adp a7 b4 _ _ a7.size
   have b9:Yc base f g V c P y e:=HD.out.on b8;have a4:S f:=D.out.2 _ b9;have e6:XG (V.own g) f fun X=>Xd X n (Xb P.last e)/\Xw Z1 X (MG A (Xb P.last e).out.length v) (Xb P.last e).out:=anp (b5:=q) E.out.2.1 (by rw[I,ac3];exact c2) (fun b h1 h2=>by rw[I,N8 _ _ _ _ (M8 h1 c2) h2];try exact d9 b h1) (NF l3) (fun b hx=>(HD.out.pat.Mb hx).2)
   have M:M6 (Xl base W f g V c P y e q d n A v/\m=(Xb P.last e).out.length):=⟨⟨b9,E.out.1,e8,b4,b8,e6,fun x hx=>(HD.out.pat.Mb hx).2,J.out.2.2.2.2.2⟩,E.out.2.2.2⟩;have d7:d.toArray.all (·.oneCell')=true:=by rw[E.out.1];exact ado _ _
   clear e8 b8 e6 a7 b1 b4 b9;refine NN (rs:=[11]) (by kernel_rfl) (by simp) ?_;refine afX (i:=11) (o:=_) (by rfl) (by rfl) 55 (O6 5) (O6 16) (by rfl) q 0 d.toArray (by rfl) (by rfl) a8 (by rw[a3];exact Z0) d7 (by rw[NS,<-I];exact a4) ?_;rw[NS,<-I]
   try simp only[Nr,MZ,MT,MS,MJ,ML,MM]
   refine NN (rs:=[12]) (by kernel_rfl) (by simp) ?_;refine acK (i:=12) (o:=_) (by rfl) (by rfl) (O6 17) (by rfl) (MG A m v) (by rfl) a4 ?_
   try simp only[Nr,MZ,MT,MS,MJ,ML,MM]
   refine NN (rs:=[13]) (by kernel_rfl) (by simp) ?_;refine acK (i:=13) (o:=_) (by rfl) (by rfl) (O6 18) (by rfl) (MF ME 0) (by rfl) a4 ?_
   try simp only[Nr,MZ,MT,MS,MJ,ML,MM]
   refine PS (by kernel_rfl) ?_ _;clear a8 a3 l5 E a4 I d7;clear hHeld5 hHeldY d9 c2 l3;revert M;revert f;revert m;revert v;revert A;revert n;revert d;revert q;exact e7.out
  ·go_simp
   obtain⟨X1,f4⟩:∃X1,X1=(W.alloc (MP wz.toArray 55)).drew:=⟨_,rfl⟩;have g4:MQ W.heap.size W X1:=by rw[f4];exact(WQ W).drew
   have j6:X1.heap[W.heap.size]?=MI (MP wz.toArray 55 (0,0)):=by rw[f4];exact M1 _ _
   have j0:S X1:=D.out.2 _ (HD.out.on g4);obtain⟨q,hg⟩:∃q,q=W.heap.size:=⟨_,rfl⟩;have HX:M6 (_/\_/\_):=⟨g4,j6,hg⟩;clear g4 j6;rw[<-f4,<-hg];clear f4 hg;refine hK.out _ _ j0 (fun hHeld=>?_);clear hK K j0
   try simp only[Nr,MZ,MT,MS,MJ,ML,MM]
   refine NN (rs:=[5]) (by kernel_rfl) (by simp) ?_;refine NP (o:=_) rfl (fun K hK=>?_) NX;go_simp;refine Nd (w:=X1) (by rw[HL.out];exact akh (D.out.1 _ hHeld).pat.last.now J.out.1.wm (D.out.1 _ hHeld).blk J.out.1.out e J.out.2.2.1 H7.out) ?_;rintro r B ⟨n,A,v,rfl,d4,U⟩;obtain⟨d,b3⟩:∃d,d=(XR n (Xb P.last e)).toList:=⟨_,rfl⟩;obtain⟨m,b7⟩:∃m,m=(Xb P.last e).out.length:=⟨_,rfl⟩;have E:M6 (_/\_/\_/\_):=⟨b3,d4,U,b7⟩;have e5:S B:=D.out.2 _ ((D.out.1 _ hHeld).on U);rw[show acN n (Xb P.last e)=Ny d.toArray by rw[b3],<-b7];clear d4 U b3 b7
   go_wp2_with fail
   refine hK.out _ _ e5 (fun hHeld5=>?_);clear hK K e5
   try simp only[Nr,MZ,MT,MS,MJ,ML,MM]
   refine awW 6 (Nv #[Ny d.toArray,MG A m v,MF ME 0]) hHeld5 ?_;simp only[Nr,MZ,MT,MS,MJ,ML,MM];refine awW 7 (Ny d.toArray) hHeld5 ?_;simp only[Nr,MZ,MT,MS,MJ,ML,MM];refine awW 8 (MG A m v) hHeld5 ?_;simp only[Nr,MZ,MT,MS,MJ,ML,MM];refine awW 9 (MF ME 0) hHeld5 ?_;simp only[Nr,MZ,MT,MS,MJ,ML,MM];have b1:B.heap[q]?=MI (MP wz.toArray 55 (0,0)):=by rw[HX.out.2.2];exact WO HX.out.2.1 E.out.2.2.1
   have a7:MQ W.heap.size W B:=HX.out.1.trans (E.out.2.2.1.mono HX.out.1.size);have b4:W.heap.size<=q:=by rw[HX.out.2.2];exact MV _
   have k9:q<X1.heap.size:=by rw[HX.out.2.2];exact(Array.getElem?_eq_some_iff.1 HX.out.2.1).1
   have d9:∀b,b<B.heap.size->B.heap[b]?=B.heap[b]?:=fun _ _=>rfl
   have c2:B.heap.size<=B.heap.size:=MV _;have j4:=HX.out.1.size;have l5:d.length=26:=by rw[E.out.1];rfl
   have a3:d.toArray.size=26:=(show d.toArray.size=d.length from OQ).trans l5;have a8:(B).there q 0 d.toArray.size:=by rw[a3];exact aeU b1
   obtain⟨f,I⟩:∃f,f=(B).setCells q 0 d:=⟨_,rfl⟩;have e8:f.heap[q]?=MI (MP d.toArray 55 (0,0)):=by rw[I];exact anq b1 (by rw[l5];rfl)
   have b8:MQ W.heap.size W f:=by rw[I];exact adp a7 b4 _ _ a7.size
   have b9:Yc base f g V c P y e:=HD.out.on b8;have a4:S f:=D.out.2 _ b9;have e6:XG (V.own g) f fun X=>Xd X n (Xb P.last e)/\Xw Z1 X (MG A (Xb P.last e).out.length v) (Xb P.last e).out:=anp (b5:=q) E.out.2.1 (by rw[I,ac3];exact c2) (fun b h1 h2=>by rw[I,N8 _ _ _ _ (M8 h1 c2) h2];try exact d9 b h1) (Nt k9) (fun b hx=>M8 (HD.out.pat.Mb hx).2 j4)
   have M:M6 (Xl base W f g V c P y e q d n A v/\m=(Xb P.last e).out.length):=⟨⟨b9,E.out.1,e8,b4,b8,e6,fun x hx=>(HD.out.pat.Mb hx).2,J.out.2.2.2.2.2⟩,E.out.2.2.2⟩;have d7:d.toArray.all (·.oneCell')=true:=by rw[E.out.1];exact ado _ _
   clear e8 b8 e6 a7 b1 b4 b9;refine NN (rs:=[11]) (by kernel_rfl) (by simp) ?_;refine afX (i:=11) (o:=_) (by rfl) (by rfl) 55 (O6 5) (O6 16) (by rfl) q 0 d.toArray (by rfl) (by rfl) a8 (by rw[a3];exact Z0) d7 (by rw[NS,<-I];exact a4) ?_;rw[NS,<-I]
   try simp only[Nr,MZ,MT,MS,MJ,ML,MM]
   refine NN (rs:=[12]) (by kernel_rfl) (by simp) ?_;refine acK (i:=12) (o:=_) (by rfl) (by rfl) (O6 17) (by rfl) (MG A m v) (by rfl) a4 ?_
   try simp only[Nr,MZ,MT,MS,MJ,ML,MM]
   refine NN (rs:=[13]) (by kernel_rfl) (by simp) ?_;refine acK (i:=13) (o:=_) (by rfl) (by rfl) (O6 18) (by rfl) (MF ME 0) (by rfl) a4 ?_
   try simp only[Nr,MZ,MT,MS,MJ,ML,MM]
   refine PS (by kernel_rfl) ?_ _;clear a8 a3 l5 E a4 I d7;clear hHeld5 k9 HX d9 c2 j4;revert M;revert f;revert m;revert v;revert A;revert n;revert d;revert q;exact e7.out
 ·rintro q d n A v m f M
  obtain⟨T,hT⟩:∃T,T=Xb P.last e:=⟨_,rfl⟩;have f8:Wm T:=by rw[hT];exact J.out.1.wm.Mm (aeH J.out.2.2.1) H7.out
  have g5:T.cfg=c:=by rw[hT];exact(alh P.last e).1.trans J.out.1.cfg
  have g7:(T.tab.length:Int)=c.flows:=by rw[<-g5];exact f8.im.bs.tabLen
  have c0:f.cell? ⟨g,0,MH⟩=MI (MF ME c.flows):=by rw[MW f g 0 _ _ (0,0) M.out.1.dos.pat.box];rfl
  have n1:f.cell? ⟨q,17,MH⟩=MI (MG n.pt T.tab.length n.ct):=by rw[MW f q 17 _ _ (0,0) M.out.1.box,M.out.1.mem,hT];rfl
  have a5:=M.out.1.dos.pat.lt;have d6:q<f.heap.size:=(Array.getElem?_eq_some_iff.1 M.out.1.box).1;have m6:((T.tab.length:Int) != c.flows)=false:=by rw[g7];simp
  have HT:M6 (_/\_/\_/\_):=⟨hT,f8,g5,g7⟩;clear hT f8 g5 g7
  go_wp2_with fail
  refine wp_region_quiet_lit (by kernel_rfl) (by kernel_rfl) ?_
  repeat (first|go_big_quiet_skip|quiet_step (fail))
  refine Oy ?_;intro _ m8;obtain⟨nq,m3⟩:=m8;subst m3
  go_wp2_with fail
  obtain⟨C,i3⟩:∃C,C=f.drewN nq:=⟨_,rfl⟩;have j5:MQ f.heap.size f C:=by rw[i3];exact amB (MY _ _) nq
  have c5:Xl base W C g V c P y e q d n A v:=M.out.1.on j5;obtain⟨z,hz⟩:∃z:Sq,z=⟨⟨e,P.last,(Xb P.last e).Ma,(Xb P.last e).out⟩,V.u,n,A,v⟩:=⟨_,rfl⟩;obtain⟨R,hR⟩:∃R,R=abK z:=⟨_,rfl⟩;have i6:∀X,(QA 63 #[(0,Ny (aaV e).toArray),(1,Ny L.toArray),(2,Ny d.toArray),(3,MG A m v)]).run MK X=.ok (Ny R.toArray) X:=fun X=>by
   rw[HL.out,M.out.1.mem,M.out.2,hR,hz];exact au4 ⟨⟨e,P.last,(Xb P.last e).Ma,(Xb P.last e).out⟩,V.u,n,A,v⟩ X
  have k8:∀X,(Q0 36 1 #[(0,Ny R.toArray)]).run MK X=.ok (MG (MI ⟨X.heap.size,0,MH⟩) 1 1) (X.alloc (MP R.toArray 63)):=fun X=>by
   rw[hR];exact avr z X
  have m2:V.qs.length<=1000:=by rw[<-c5.dos.pat.steps];exact J.out.2.1
  have j7:base<=C.drew.heap.size:=Nm (Nm J.out.2.2.2.2.1 J.out.2.2.2.1.size) c5.bel.size;have HP:M6 _:=avo (c5.on (MY _ _).drew) (by omega) j7 z hz c5.bel.size;rw[<-hR]at HP;have HZ:M6 (_/\_/\_/\_):=⟨i6,k8,hz,(show d.length=26 by rw[M.out.1.mem];rfl)⟩;have n2:M6 _:=c5;rw[<-i3];clear i3 c0 n1 a5 d6 m6 i6 k8 hz hR c5 j5 m2 j7;apply aan
  ·intro e7
   obtain⟨q8,c8,w9,d5,i5,f0,d8⟩:=HP.out;obtain⟨S,hS,a6⟩:∃S:MO->Prop,(∀X,S X->abs X y g q e L d)/\(∀X,abs X y g q e L d->S X):=⟨fun X=>abs X y g q e L d,fun _ h=>h,fun _ h=>h⟩;have a0:Xl base W C.drew g V c P y e q d n A v:=n2.out.on (MY _ _).drew;have f3:abs C.drew y g q e L d:=by have:=a0.Gz;rw[HL.out];exact this
   have d6:q<C.drew.heap.size:=(Array.getElem?_eq_some_iff.1 a0.box).1;have i2:y<C.drew.heap.size:=(Array.getElem?_eq_some_iff.1 a0.dos.evb).1;have a5:=a0.dos.pat.lt;have g6:¬V.own g q:=fun e=>by have:=a0.lt q e;have:=a0.low;omega
   have Z:MQ C.drew.heap.size C.drew (C.drew.alloc (MP R.toArray 63)):=WQ _;have l0:abs (C.drew.alloc (MP R.toArray 63)) y g q e L d:=f3.Gf (Z.block _ i2) (Z.block _ a5) (Z.block _ d6);have f6:abs w9 y g q e L d:=f3.Gf (f0 _ i2 fun e=>a0.no (NF (Nt e))) (f0 _ a5 a0.dos.pat.og) (f0 _ d6 fun e=>g6 (NF (Nt e)));have k4:abs (w9.setCell ⟨g,16,MH⟩ (MG (MI ⟨q8,0,MH⟩) (V.qs.length+1) c8)) y g q e L d:=f6.F4 (fun e=>a0.no (Nt e)) (fun e=>g6 (Nt e)) _;have F:M6 (_/\_/\_/\_/\_):=⟨d5,i5,a6 _ f6,a6 _ k4,d8⟩;have m4:g<C.heap.size:=a5;have HC:M6 (_/\_/\_):=⟨a0.Gm,(a0.on Z).Gm,a6 _ l0⟩;have g9:=a6 _ f3;have D:M6 (_/\True):=⟨hS,trivial⟩;clear hS a6 d5 i5 f0 d8 a0 f3 d6 i2 a5 m4 g6 Z l0 f6 k4;refine O2 (S:=S) (by kernel_rfl) g9 (fun hHeld=>?_);refine awW 0 (gP g) hHeld ?_;simp only[Nr,MZ,MT,MS,MJ,ML,MM];refine awW 1 (gP g) hHeld ?_;simp only[Nr,MZ,MT,MS,MJ,ML,MM];refine awW 2 (gP g) hHeld ?_;simp only[Nr,MZ,MT,MS,MJ,ML,MM];refine awW 3 (Na (MI ⟨g,16,MH⟩)) hHeld ?_;simp only[Nr,MZ,MT,MS,MJ,ML,MM];refine awW 5 (Ny (aaV e).toArray) hHeld ?_ (hy:=Pt (by rfl) 60 (O6 3) rfl y 0 rfl (aaV e) _ (fun _ h=>(D.out.1 _ h).1) azj rfl anz);simp only[Nr,MZ,MT,MS,MJ,ML,MM];refine awW 6 (gP g) hHeld ?_;simp only[Nr,MZ,MT,MS,MJ,ML,MM];refine awW 7 (gP g) hHeld ?_;simp only[Nr,MZ,MT,MS,MJ,ML,MM];refine awW 8 (Na (MI ⟨g,17,MH⟩)) hHeld ?_;simp only[Nr,MZ,MT,MS,MJ,ML,MM];refine awW 9 (Ny L.toArray) hHeld ?_ (hy:=Pt (by rfl) 55 (O6 41) rfl g 17 rfl L _ (fun _ h=>(D.out.1 _ h).2.1) Lv rfl (by rw[HL.out];exact Z0));simp only[Nr,MZ,MT,MS,MJ,ML,MM];refine awW 10 (Ny d.toArray) hHeld ?_ (hy:=Pt (by rfl) 55 (O6 5) rfl q 0 rfl d _ (fun _ h=>(D.out.1 _ h).2.2) Lv rfl (by rw[HZ.out.2.2.2];exact Z0));simp only[Nr,MZ,MT,MS,MJ,ML,MM];refine awW 11 (MG A m v) hHeld ?_;simp only[Nr,MZ,MT,MS,MJ,ML,MM];refine awW 12 (Ny R.toArray) hHeld ?_ (hy:=avx (by rfl) 63 #[(0,O6 38),(1,O6 42),(2,O6 43),(3,O6 44)] rfl (Ny R.toArray) (fun X=>by simp only[PW,OA,P5];exact HZ.out.1 X));simp only[Nr,MZ,MT,MS,MJ,ML,MM];refine NN (rs:=[4,13]) (by kernel_rfl) (by simp) ?_;refine NP (o:=_) rfl (fun K hK=>?_) (NP (o:=_) rfl (fun K hK=>?_) NX)
   ·have i1:=HC.out.1
    go_simp;refine hK.out _ _ hHeld (fun hHeld=>?_);clear hK K i1
    try simp only[Nr,MZ,MT,MS,MJ,ML,MM]
    refine NN (rs:=[13]) (by kernel_rfl) (by simp) ?_;refine avp (i:=13) (o:=_) (by rfl) (by rfl) 36 1 #[(0,O6 45)] (by rfl) (MG (MI ⟨C.drew.heap.size,0,MH⟩) 1 1) (w1:=C.drew.alloc (MP R.toArray 63)) (by simp only[PW,OA,P5];exact HZ.out.2.1 _) HC.out.2.2 ?_
    try simp only[Nr,MZ,MT,MS,MJ,ML,MM]
    refine NN (rs:=[14]) (by kernel_rfl) (by simp) ?_;refine anC (i:=14) (o:=_) (by rfl) (by rfl) (O6 37) (O6 46) 36 (by rfl) _ _ _ (by rfl) (by rfl) F.out.1 F.out.2.2.1 ?_;have a9:=F.out.2.2.1
    try simp only[Nr,MZ,MT,MS,MJ,ML,MM]
    refine awW 15 (gP g) a9 ?_;simp only[Nr,MZ,MT,MS,MJ,ML,MM];refine awW 16 (Na (MI ⟨g,16,MH⟩)) a9 ?_;simp only[Nr,MZ,MT,MS,MJ,ML,MM];refine NN (rs:=[17]) (by kernel_rfl) (by simp) ?_;refine NP (o:=_) rfl (fun K hK=>?_) NX;have f5:=F.out.2.1.1;have b2:=F.out.2.1.2;go_simp;obtain⟨G,c4⟩:∃G,G=w9.setCell ⟨g,16,MH⟩ (MG (MI ⟨q8,0,MH⟩) (V.qs.length+1) c8):=⟨_,rfl⟩;have O:M6 _:=F.out.2.2.2.2;have b6:=F.out.2.2.2.1;rw[<-c4]at O b6;rw[<-c4];refine hK.out _ _ b6 (fun hHeld8=>?_)
    try simp only[Nr,MZ,MT,MS,MJ,ML,MM]
    refine PS (by kernel_rfl) ?_ _;clear hK K hHeld8 b6 c4 f5 b2 a9 F;revert O;revert G;revert c8;revert q8;exact e7.out
   ·refine avv (by rfl) 36 1 #[(0,O6 45)] (by rfl) (MG (MI ⟨C.drew.heap.size,0,MH⟩) 1 1) (w1:=C.drew.alloc (MP R.toArray 63)) (by simp only[PW,OA,P5];exact HZ.out.2.1 _) ?_
    refine hK.out _ _ HC.out.2.2 (fun hHeldB=>?_);clear hK K
    try simp only[Nr,MZ,MT,MS,MJ,ML,MM]
    refine NN (rs:=[4]) (by kernel_rfl) (by simp) ?_;refine NP (o:=_) rfl (fun K hK=>?_) NX;obtain⟨X7,Z⟩:∃X7,X7=C.drew.alloc (MP R.toArray 63):=⟨_,rfl⟩;have i1:X7.cell? ⟨g,16,MH⟩=MI (MG V.ps V.qs.length V.cs):=by rw[Z];exact HC.out.2.1
    have g0:=hHeldB;rw[<-Z]at g0⊢;have k5:M6 _:=Z;clear Z;go_simp;refine hK.out _ _ g0 (fun hHeldC=>?_);clear hK K i1 g0 hHeldC;have Z:=k5.out;clear k5;subst Z
    try simp only[Nr,MZ,MT,MS,MJ,ML,MM]
    refine NN (rs:=[14]) (by kernel_rfl) (by simp) ?_;refine anC (i:=14) (o:=_) (by rfl) (by rfl) (O6 37) (O6 46) 36 (by rfl) _ _ _ (by rfl) (by rfl) F.out.1 F.out.2.2.1 ?_;have a9:=F.out.2.2.1
    try simp only[Nr,MZ,MT,MS,MJ,ML,MM]
    refine awW 15 (gP g) a9 ?_;simp only[Nr,MZ,MT,MS,MJ,ML,MM];refine awW 16 (Na (MI ⟨g,16,MH⟩)) a9 ?_;simp only[Nr,MZ,MT,MS,MJ,ML,MM];refine NN (rs:=[17]) (by kernel_rfl) (by simp) ?_;refine NP (o:=_) rfl (fun K hK=>?_) NX;have f5:=F.out.2.1.1;have b2:=F.out.2.1.2;go_simp;obtain⟨G,c4⟩:∃G,G=w9.setCell ⟨g,16,MH⟩ (MG (MI ⟨q8,0,MH⟩) (V.qs.length+1) c8):=⟨_,rfl⟩;have O:M6 _:=F.out.2.2.2.2;have b6:=F.out.2.2.2.1;rw[<-c4]at O b6;rw[<-c4];refine hK.out _ _ b6 (fun hHeld8=>?_)
    try simp only[Nr,MZ,MT,MS,MJ,ML,MM]
    refine PS (by kernel_rfl) ?_ _;clear hK K hHeld8 b6 c4 f5 b2 a9 F hHeldB;revert O;revert G;revert c8;revert q8;exact e7.out
  ·rintro q8 c8 G O
   obtain⟨V8,m9⟩:∃V8:Pv,V8={V with ps:=MI ⟨q8,0,MH⟩,cs:=c8,qs:=V.qs++[z]}:=⟨_,rfl⟩;rw[<-m9]at O;have hM:d=(XR n (Xb P.last e).Ma).toList:=M.out.1.mem;obtain⟨u9,c7⟩:∃u9,u9=G.setCells g 17 d:=⟨_,rfl⟩;have f7:WU base u9 g {V8 with u:=n} c {{P with steps:=P.steps++[z.s]}with last:=(Xb P.last e).Ma}:=by
    rw[c7,hM];exact O.out.pat.MC n (Xb P.last e).Ma fun X h1 h2=>(O.out.ans X h1 h2).1.Ma
   have a3:d.toArray.size=26:=(show d.toArray.size=d.length from OQ).trans HZ.out.2.2.2;have i4:d.toArray.all (·.oneCell')=true:=by rw[hM];exact ado _ _
   have a8:G.there g 17 d.toArray.size:=by
    rw[a3];exact fun j hj=>by
     have hb:=O.out.pat.box;have e4:17+j<(adM V8 c {P with steps:=P.steps++[z.s]}).toArray.size:=by show 17+j<44;omega
     exact⟨by rw[MW G g (17+j) _ _ (0,0) hb,PN e4];rfl,by simp[Ng,hb]⟩
   have j3:G.rangeAt q 0 d:=agb O.out.box;have i7:∀b,b<G.heap.size->b≠g->u9.heap[b]?=G.heap[b]?:=fun b hb e=>by rw[c7];exact N8 G g 17 _ hb e
   have l9:u9.heap.size=G.heap.size:=by rw[c7];exact ac3 _ _ _ _
   have f9:XG (Pv.own {V8 with u:=n} g) u9 fun X=>Xw Z1 X (MG A (Xb P.last e).out.length v) (Xb P.last e).out:=by
    refine XG.step (S:=V8.own g) (fun X h1 h2=>(O.out.ans X h1 h2).2) (by rw[l9];exact MV _) (fun b q1 q2=>i7 b q1 fun e=>q2 (Nt e)) fun b q1 e=>e
   have b2:XK V {V8 with u:=n} g W u9:=by rw[c7];exact O.out.frm.F0 (avb d)
   have k3:M6 (aai base W u9 g V {V8 with u:=n} c P z.s (Xb P.last e).Ma (Xb P.last e).out 0 A v):=⟨by rw[show P.giv++Zi ((Xb P.last e).out.take 0)=P.giv by show P.giv++[]=P.giv;simp];exact f7,b2,f9⟩;have H5:M6 (_/\_/\_/\_/\_/\_):=⟨f7,f9,a8,a3,i4,j3⟩;have j1:M6 _:=c7;clear b2 hM c7 f7 a3 i4 a8 j3 i7 l9 f9
   go_wp2_with (first|((with_reducible refine O3 rfl 55 (O6 5) rfl q 0 ?gx d _ ?gc Lv ?gd ?gi ?_);(case gx=>rfl);(case gc=>exact H5.out.2.2.2.2.2);(case gd=>rfl);(case gi=>rw[HZ.out.2.2.2];exact Z0))|((with_reducible refine OW rfl 55 (O6 53) (O6 51) rfl g 17 d.toArray ?sx ?sy ?st ?si ?s1 ?_);(case sx=>rfl);(case sy=>rfl);(case st=>exact H5.out.2.2.1);(case si=>rw[H5.out.2.2.2.1];exact Z0);(case s1=>exact H5.out.2.2.2.2.1);rw[NS,<-j1.out]))
   obtain⟨l,hl⟩:∃l,l=(Xb P.last e).out:=⟨_,rfl⟩;have hn:=M.out.2;rw[<-hl]at k3 hn;have HN:M6 (m=l.length):=hn;have i9:M6 (l=(Xb P.last e).out):=hl;clear hn hl H5 j1
   go_loopw [8] (fun i wr=>∃(k:Nat) (N:Pv),i=MF ME (k:Int)/\k<=m/\M6 (aai base W wr g V N c P z.s (Xb P.last e).Ma l k A v)) (fun i _=>m-(intOf i).toNat)
   case atStart=>exact⟨0,_,rfl,Nx _,k3⟩
   case round =>
    obtain⟨k,N,rfl,hk,HK⟩:=hrel
    by_cases e4:k<m
    ·have m5:(k:Int)<(m:Int):=by omega
     have g3:k<l.length:=by rw[<-HN.out];exact e4
     obtain⟨a,n8,hv,hc,hm,hp⟩:=Xw.F6 akV HK.out.out.now;injection hv with ha hn2 hcap;obtain⟨bo,oo,j8,n7,e9⟩:=hp k g3;rw[<-ha]at j8;have d0:wr.cell? ⟨bo,oo+k*7,MH⟩=MI (MF ME l[k].kind):=e9 0 (by omega);have d1:wr.cell? ⟨bo,oo+k*7+1,MH⟩=MI (MF ME l[k].slot):=e9 1 (by omega);have d2:wr.cell? ⟨bo,oo+k*7+2,MH⟩=MI (MF ME l[k].gen):=e9 2 (by omega);have g2:=ave g3;obtain⟨x,hx⟩:∃x,x=l[k]:=⟨_,rfl⟩;rw[<-hx]at d0 d1 d2 g2;subst j8;have HG:M6 _:=g2;have n6:m<=9223372036854775807:=by rw[HN.out];unfold NE at hm;omega
     clear ha hn2 hcap e9 hp hc hm g3 g2 hx
     by_cases hk1:x.kind=1
     ·have m0:(x.kind == 1)=true:=by simp[hk1]
      have a5:(P.giv++Zi (l.take k)).length<=1000000:=by
       rw[Ns];have:=avf l k;have:=m7.out;rw[<-i9.out]at this;omega
      obtain⟨q9,c9,w9,l6,⟨k7,b2⟩,i8,k6⟩:=avd HK.out.pat a5 (x.slot,x.gen);have j9:=HK.out.pat.Mn;have n3:=HK.out.pat.lt;obtain⟨n9,c6⟩:∃n9,n9=(P.giv++Zi (l.take k)).length:=⟨_,rfl⟩;have d5:(N2 #[56,56] 56 #[MG N.pg n9 N.cg,MG (MI ⟨wr.heap.size,0,MH⟩) 1 1]).run MK ((wr.alloc (MP #[MF ME x.slot,MF ME x.gen] 70)).drew)=.ok (MG (MI ⟨q9,0,MH⟩) (n9+1) c9) w9:=by rw[c6];exact l6
      have j2:WU base (w9.setCell ⟨g,43,MH⟩ (MG (MI ⟨q9,0,MH⟩) (n9+1) c9)) g {N with pg:=MI ⟨q9,0,MH⟩,cg:=c9} c ⟨P.steps++[z.s],(Xb P.last e).Ma,(P.giv++Zi (l.take k))++[(x.slot,x.gen)]⟩:=by rw[c6];exact i8
      have d8:XK N {N with pg:=MI ⟨q9,0,MH⟩,cg:=c9} g wr (w9.setCell ⟨g,43,MH⟩ (MG (MI ⟨q9,0,MH⟩) (n9+1) c9)):=by rw[c6];exact k6
      have f5:w9.cell? ⟨g,43,MH⟩=MI (MG N.pg n9 N.cg):=by rw[c6];exact k7
      have n4:wr.cell? ⟨g,43,MH⟩=MI (MG N.pg n9 N.cg):=by rw[c6];exact j9
      have HR:M6 (_/\_/\_):=⟨d5,j2,d8⟩;clear d5 j2 d8 a5 c6 l6 k7 i8 k6 j9;go_wp2
      go_region_law (first|(refine aec (by rfl) _ _ 56 (by rfl) _ _ _ _ (by rfl) (by rfl) HR.out.1 ?_))
      all_goals
       go_wp2
       go_roundw
       case rel=>exact⟨k+1,_,by simp,e4,⟨by have h:=HR.out.2.1;rw[HG.out,Nh hk1,<-OC];exact h,HK.out.frm.F0 HR.out.2.2,au1 HK.out.out HR.out.2.2⟩⟩
       case measure=>simp[intOf];omega
     ·have m0:(x.kind == 1)=false:=by simp[hk1]
      go_wp2
      go_roundw
      case rel=>exact⟨k+1,N,by simp,e4,⟨by have h:=HK.out.pat;rw[HG.out,Nf hk1,OG];exact h,HK.out.frm,HK.out.out⟩⟩
      case measure=>simp[intOf];omega
    ·obtain rfl:k=m:=by omega
     have m5:¬(k:Int)<(k:Int):=by omega
     go_wp2;go_ret;have e1:(⟨P.steps++[z.s],(Xb P.last e).Ma,P.giv++Zi (l.take k)⟩:Py)=P.step e:=by
      rw[show l.take k=l from N1 (Nat.le_of_eq HN.out.symm),i9.out,HZ.out.2.2.1];rfl
     have h9:=HK.out.pat
     rw[e1]at h9;exact⟨rfl,N,h9,(XK.F5 J.out.2.2.2.1).F0 HK.out.frm⟩
structure XQ(w W:MO)(g:Nat)(V:Pv)(c:Cf)(P:Py):Prop where
 pat:WU w.heap.size W g V c P
 rn:Rn (Yb c) c P
 bel:MQ w.heap.size w W
 blk:Xo W
 pos:1<w.heap.size
theorem XQ.on{w W:MO}{g:Nat}{V:Pv}{c:Cf}{P:Py}(h:XQ w W g V c P)(hb:MQ W.heap.size W Y):XQ w Y g V c P :=
 ⟨h.pat.below hb,h.rn,h.bel.trans (hb.mono h.bel.size),h.blk.below hb,h.pos⟩
theorem XQ.Mf{w W:MO}{g:Nat}{V:Pv}{c:Cf}{P:Py}(h:XQ w W g V c P)(hl:P.steps.length<=1000)(e:Ev)(he:Yk e=0) :
  Ni MK 15 #[gP g,acH e] W fun r w'=>r=MN (M3 Nw)/\∃V',XQ w w' g V' c (P.step e):=by
 refine(au6 h.pat h.rn.runs hl h.blk h.bel.size e he (h.rn.Mv hl he)).mono ?_;rintro r w' ⟨rfl,V',i,f⟩;have d:=f.IT h.pat h.bel.size;exact⟨rfl,V',i,h.rn.step he (by omega),h.bel.trans d,h.blk.Gf (d.block 1 h.pos),h.pos⟩
theorem XQ.MD{w W:MO}{g:Nat}{V:Pv}{c:Cf}{P:Py}(h:XQ w W g V c P)(hl:P.steps.length<=1000)(d:Dd)(hd:ajd d) :
  Ni MK 16 #[gP g,Ny #[MF ME d.k,MF ME d.a,MF ME d.b,MF ME d.c]] W fun r w'=>∃e,(Yk e=0/\e.req<2000)/\r=MN (acH e)/\XQ w w' g V c P:=by
 have l:Xw afq W (MG V.pg P.giv.length V.cg) P.giv:=abw h.pat.giv;refine(au8 h.pat.Mn h.pat.lt (by have:=h.rn.Mj;omega) (fun i hi=>?_) h.rn.runs.Mx d.k d.a d.b d.c (adr hd.1) (adr hd.2.1) (adr hd.2.2.1) (adr hd.2.2.2)).mono ?_
 ·obtain⟨a,u,q,_,_,n⟩:=Xw.F6 anw l
  obtain⟨b,o,s,f,j⟩:=n i hi;injection q with q1 _ _;exact⟨b,o,q1.trans s,f,j 0 (by omega),j 1 (by omega)⟩
 ·rintro r w' ⟨e,m,rfl,f⟩
  exact⟨e,m,rfl,h.on f⟩
structure abq(f:Nat->Int)(c:Cf):Prop where
 ok:adg c
 flows:c.flows<=8
 drain:c.drain<=5
 idle:c.idle<=6
 conn:c.conn<=4
 ret:c.ret<=3
 most:c.most=((ZN (f 9) 101:Nat):Int)
theorem au5(f:Nat->Int)(hf:∀i,i<16->(N6 ME (f i)).wf=Nw):∃c:Cf,abq f c/\∀w,Ni MK 13 #[agc (f 0) (f 1) (f 2) (f 3) (f 4) (f 5) (f 6) (f 7) (f 8) (f 9) (f 10) (f 11) (f 12) (f 13) (f 14) (f 15)] w fun r w'=>r=MN (ag9 c)/\MQ w.heap.size w w':=by
 obtain⟨c,d,h⟩:=ark (f 0) (f 1) (f 2) (f 3) (f 4) (f 5) (f 6) (f 7) (f 8) (f 9) (f 10) (f 11) (f 12) (f 13) (f 14) (f 15) (hf 0 (by omega)) (hf 1 (by omega)) (hf 2 (by omega)) (hf 3 (by omega)) (hf 4 (by omega)) (hf 5 (by omega)) (hf 6 (by omega)) (hf 7 (by omega)) (hf 8 (by omega)) (hf 9 (by omega)) (hf 10 (by omega)) (hf 11 (by omega)) (hf 12 (by omega)) (hf 13 (by omega)) (hf 14 (by omega)) (hf 15 (by omega));exact⟨⟨c.flows,c.num,c.den,c.tries,c.warm,c.drain,c.idle,c.conn,c.ret,c.most,c.bn,c.bd,c.bb,c.wn,c.wf,c.wh⟩,⟨d.ok,d.flows,d.drain,d.idle,d.conn,d.ret,d.most⟩,h⟩
abbrev kz:List Value:=[MF ME 0,MF ME 0,MF ME 0,MF ME 0,MF ME 0,MF ME 0,MF ME 0,MF ME 0,MF ME 0,MF ME 0,MF ME 0,MF ME 0,MF ME 0,MF ME 0,MF ME 0,MF ME 0]
theorem ajj:(Tryz.prog.info? 35).map (·.size)=MI 16:=by kernel_rfl
theorem avk(c:Cf):(ac8 c).toArray.all (·.oneCell')=true:=by
 apply OE;intro u d;simp only[OO,OD,or_false]at d;rcases d with rfl|rfl|rfl|rfl|rfl|rfl|rfl|rfl|rfl|rfl|rfl|rfl|rfl|rfl|rfl|rfl <;> rfl
abbrev adN(U:Us):Pv:=⟨MH,0,MH,0,U,[]⟩
theorem au3(U:Us)(c:Cf)(W:MO):(QA 58 #[(0,Ny (ac8 c).toArray),(2,Ny (XR U (Yb c)))]).run MK W=.ok (Ny (adM (adN U) c ⟨[],Yb c,[]⟩).toArray) W:=by kernel_rfl
theorem avq{c:Cf}(hc:adg c):XU c ⟨[],Yb c,[]⟩:=
 ⟨akw hc,rfl,rfl,Qh _,fun _ h=>absurd h OD,fun _ _ _ h=>absurd h (by simp),fun _ h=>absurd h (by simp),rfl⟩
theorem avn{w w2 W:MO}{U:Us}{c:Cf}{g B:Nat}(hbox:W.heap[g]?=MI (MP (adM (adN U) c ⟨[],Yb c,[]⟩).toArray 58 (0,0)))(hg:w.heap.size<=g)(hA:∀X,aba B w2 X->Xd X U (Yb c))(hb:MQ w2.heap.size w2 W)(h2:w2.heap.size<=g) :
  WU w.heap.size W g (adN U) c ⟨[],Yb c,[]⟩:=by
 refine⟨hbox,hg,rfl,⟨rfl,Nt ⟨rfl,rfl⟩⟩,⟨rfl,Nt ⟨rfl,rfl⟩⟩,by simp,by simp,by simp,fun X h1 h3=>?_,fun q hq=>absurd hq OD⟩;refine hA X ⟨Nm hb.size h1,fun b q1 q2=>?_⟩;rw[h3 b (M8 q2 hb.size),hb.block b q2];rintro(rfl|e|e)
 ·omega
 ·simp at e
 ·simp at e
def Sd(P:Py)(k:Nat):Prop:=(∀j,j<k->∃s,P.steps[j]?=MI s/\s.ev.kind=5)/\∀s∈P.steps,s.ev.req<2000
theorem ajm(P:Py)(e:Ev):(P.step e).steps.length=P.steps.length+1:=by
 show(P.steps++[_]).length=_;rw[Ns,OU]
theorem Sd.step{P:Py}{k:Nat}(h:Sd P k)(hk:k<=P.steps.length){e:Ev}(he:e.req<2000):Sd (P.step e) k:=by
 refine⟨fun j hj=>?_,fun s d=>?_⟩
 ·show ∃s,(P.steps++[_])[j]?=MI s/\s.ev.kind=5
  rw[OJ (by omega)];exact h.1 j hj
 ·rcases List.mem_append.1 d with d|d
  ·exact h.2 s d
  ·rw[List.mem_singleton.1 d];exact he
theorem Sd.Ms{P:Py}{k:Nat}(h:Sd P k)(hk:P.steps.length=k){e:Ev}(he:e.req<2000)(h5:e.kind=5):Sd (P.step e) (k+1):=by
 have d:=h.step (by omega) he;refine⟨fun j hj=>?_,d.2⟩
 by_cases e1:j<k
 ·exact d.1 j e1
 ·obtain rfl:j=k:=by omega
  refine⟨⟨e,P.last,(Xb P.last e).Ma,(Xb P.last e).out⟩,?_,h5⟩;show(P.steps++[_])[j]?=_;rw[Tw (by omega),show j-P.steps.length=0 by omega];rfl
def au0(f:Nat->Int)(most:Nat)(w:MO)(r:Ending)(w':MO):Prop :=
 ∃g V c P,r=MN (Nv #[gP g,M3 Nw])/\XQ w w' g V c P/\abq f c/\4<=P.steps.length/\P.steps.length<=most+4/\Sd P 3
theorem awU(f:Nat->Int)(hf:∀i,i<16->(N6 ME (f i)).wf=Nw)(ds:List Dd)(hds:∀d∈ds,ajd d){pd:Option Oc}{cd:Nat}(w:MO)(hrow:Xw agP w (MG pd ds.length cd) ds)(hblk:Xo w)(most:Nat)(hm:most<=100) :
  Ni MK 6 #[agc (f 0) (f 1) (f 2) (f 3) (f 4) (f 5) (f 6) (f 7) (f 8) (f 9) (f 10) (f 11) (f 12) (f 13) (f 14) (f 15),MG pd ds.length cd,MF ME (most:Int)] w (au0 f most w):=by
 obtain⟨c,hc,d4⟩:=au5 f hf;obtain⟨L,hL⟩:∃L:List M7,L=[MF ME (f 0),MF ME (f 1),MF ME (f 2),MF ME (f 3),MF ME (f 4),MF ME (f 5),MF ME (f 6),MF ME (f 7),MF ME (f 8),MF ME (f 9),MF ME (f 10),MF ME (f 11),MF ME (f 12),MF ME (f 13),MF ME (f 14),MF ME (f 15)]:=⟨_,rfl⟩;have f0:L.length=16:=by rw[hL];rfl
 obtain⟨K,hK⟩:∃K:List M7,K=ac8 c:=⟨_,rfl⟩;have HC:M6 (∀W:MO,Ni MK 13 #[Ny L.toArray] W fun r w'=>r=MN (Ny K.toArray)/\MQ W.heap.size W w'):=fun W=>by rw[hL,hK];exact d4 W
 have HB:M6 (∀W:MO,Ni MK 14 #[Ny K.toArray] W _):=fun W=>by rw[hK];exact aor c hc.ok W
 show Ni MK 6 #[Ny (List.toArray [MF ME (f 0),MF ME (f 1),MF ME (f 2),MF ME (f 3),MF ME (f 4),MF ME (f 5),MF ME (f 6),MF ME (f 7),MF ME (f 8),MF ME (f 9),MF ME (f 10),MF ME (f 11),MF ME (f 12),MF ME (f 13),MF ME (f 14),MF ME (f 15)]),MG pd ds.length cd,MF ME (most:Int)] w _;rw[<-hL];have v:M6 (_/\_/\_/\_/\_):=⟨f0,hc,hds,hrow,hm⟩;have HK:M6 _:=hK;obtain⟨W0,a8⟩:∃W0,W0=w.alloc (MP L.toArray 24):=⟨_,rfl⟩;have f2:MQ w.heap.size w W0:=by rw[a8];exact WQ w
 have z:M6 (_/\_):=⟨f2,hblk⟩;obtain⟨nd,b6⟩:∃nd,nd=ds.length:=⟨_,rfl⟩;rw[<-b6];have d7:M6 _:=b6;clear hL f0 d4 hc hf f2 hK hblk hds hrow hm b6;go_enter Tryz.func6,Tryz.ntmps6
 go_wp2_with ((with_reducible refine O3 rfl 24 (O6 3) rfl w.heap.size 0 ?gx L _ ?gc Tryz.underlying24 ?gd ?gi ?_);(case gx=>rfl);(case gc=>exact afW (M1 _ _));(case gd=>rfl);(case gi=>rw[v.out.1];exact apz))
 rw[<-a8];clear a8;refine(HC.out _).mono ?_;rintro r w1 ⟨rfl,O⟩;have a4:(w1.alloc (MP kz.toArray 35)).heap[w1.heap.size]?=MI (MP kz.toArray 35 (0,0)):=M1 _ _;obtain⟨D,a0⟩:∃D,D=(w1.alloc (MP kz.toArray 35)).setCells w1.heap.size 0 K:=⟨_,rfl⟩;have a9:K.length=16:=by rw[HK.out];rfl
 have a5:K.toArray.size=16:=(show K.toArray.size=K.length from OQ).trans a9;have d9:D.heap[w1.heap.size]?=MI (MP K.toArray 35 (0,0)):=by rw[a0];exact afG a4 (by rw[a9];rfl)
 have d5:MQ w1.heap.size w1 D:=by rw[a0];exact adp (WQ w1) (MV _) _ _ (by simp)
 have c5:(w1.alloc (MP kz.toArray 35)).there w1.heap.size 0 K.toArray.size:=by rw[a5];exact afH a4
 have e4:MQ w.heap.size w D:=(z.out.1.trans (O.mono z.out.1.size)).trans (d5.mono (Nm z.out.1.size O.size));have n:M6 (_/\_/\_/\_/\_/\_):=⟨c5,a5,d9,e4,a0,(show w.heap.size<=w1.heap.size from Nm z.out.1.size O.size)⟩;clear a4 a0 a9 a5 d9 d5 c5 e4 O
 go_wp2_with (first|((with_reducible refine OW rfl 35 (O6 8) (O6 17) rfl w1.heap.size 0 K.toArray ?sx ?sy ?st ?si ?s1 ?_);(case sx=>rfl);(case sy=>rfl);(case st=>exact n.out.1);(case si=>rw[n.out.2.1];exact ajj);(case s1=>rw[HK.out];exact avk c);rw[NS,<-n.out.2.2.2.2.1])|((with_reducible refine O3 rfl 35 (O6 8) rfl w1.heap.size 0 ?gx K _ ?gc Ph ?gd ?gi ?_);(case gx=>rfl);(case gc=>exact afW n.out.2.2.1);(case gd=>rfl);(case gi=>rw[show K.length=16 from n.out.2.1];exact ajj)))
 refine(HB.out D).mono ?_;rintro r w2 ⟨U,rfl,hM,a3⟩;obtain⟨M,C⟩:∃M,M=(XR U (Yb c)).toList:=⟨_,rfl⟩;rw[show acN U (Yb c)=Ny M.toArray by rw[C]];have b7:M.length=26:=by rw[C];rfl
 have b4:M.toArray.size=26:=(show M.toArray.size=M.length from OQ).trans b7;have e5:M.toArray.all (·.oneCell')=true:=by rw[C];exact ado _ _
 have b9:(w2.alloc (MP wz.toArray 55)).heap[w2.heap.size]?=MI (MP wz.toArray 55 (0,0)):=M1 _ _;obtain⟨l,N⟩:∃l,l=(w2.alloc (MP wz.toArray 55)).setCells w2.heap.size 0 M:=⟨_,rfl⟩;have I:l.heap[w2.heap.size]?=MI (MP M.toArray 55 (0,0)):=by rw[N];exact afG b9 (by rw[b7];rfl)
 have B:MQ w2.heap.size w2 l:=by rw[N];exact adp (WQ w2) (MV _) _ _ (by simp)
 have c4:(w2.alloc (MP wz.toArray 55)).there w2.heap.size 0 M.toArray.size:=by rw[b4];exact afH b9
 have J:l.heap[w1.heap.size]?=MI (MP K.toArray 35 (0,0)):=WO (WO n.out.2.2.1 a3) B;have T:MQ w.heap.size w l:=(n.out.2.2.2.1.trans (a3.mono n.out.2.2.2.1.size)).trans (B.mono (Nm n.out.2.2.2.1.size a3.size));obtain⟨g,F⟩:∃g,g=l.heap.size:=⟨_,rfl⟩;obtain⟨R,hR⟩:∃R,R=adM (adN U) c ⟨[],Yb c,[]⟩:=⟨_,rfl⟩;have c6:∀X,(QA 58 #[(0,Ny K.toArray),(2,Ny M.toArray)]).run MK X=.ok (Ny R.toArray) X:=fun X=>by rw[HK.out,C,hR];exact au3 U c X
 obtain⟨A,Z⟩:∃A,A=l.alloc (MP R.toArray 58):=⟨_,rfl⟩;have b8:MQ l.heap.size l A:=by rw[Z];exact WQ l
 have c2:A.heap[g]?=MI (MP (adM (adN U) c ⟨[],Yb c,[]⟩).toArray 58 (0,0)):=by rw[Z,F,hR];exact M1 _ _
 have a6:MQ w.heap.size w A:=T.trans (b8.mono T.size);have d8:w2.heap.size<=g:=by rw[F];exact B.size
 have c7:w.heap.size<=g:=by rw[F];exact T.size
 have hP:WU w.heap.size A g (adN U) c ⟨[],Yb c,[]⟩:=avn c2 c7 hM (B.trans (b8.mono B.size)) d8;have H3:M6 (XQ w A g (adN U) c ⟨[],Yb c,[]⟩):=⟨hP,Rn.Ml (avq v.out.2.1.ok),a6,z.out.2.Gf (a6.block 1 z.out.2.lt),z.out.2.lt⟩;have e7:l.cell? ⟨w2.heap.size,17,MH⟩=MI (MG U.pt (Yb c).tab.length U.ct):=by rw[MW l _ 17 _ _ (0,0) I,C];rfl
 have c0:l.cell? ⟨w1.heap.size,0,MH⟩=MI (MF ME c.flows):=by rw[MW l _ 0 _ _ (0,0) J,HK.out];rfl
 have l2:w2.heap.size<l.heap.size:=(Array.getElem?_eq_some_iff.1 I).1;have l1:w1.heap.size<l.heap.size:=(Array.getElem?_eq_some_iff.1 J).1;have a7:((Yb c).tab.length:Int)=c.flows:=(akw v.out.2.1.ok).im.bs.tabLen;obtain⟨tl,e9⟩:∃tl,tl=(Yb c).tab.length:=⟨_,rfl⟩;rw[<-e9]at e7 a7;have f5:((tl:Int) != c.flows)=false:=by rw[a7];simp
 have u:M6 (_/\_/\_/\_/\_/\_/\_/\_):=⟨c4,b4,e5,N,I,J,c6,Z⟩;have HG:M6 _:=F;clear C b7 b4 e5 b9 N I B c4 J T hR c6 Z b8 c2 a6 d8 c7 hP hM a3 e9 a7 F
 go_wp2_with (first|((with_reducible refine OW rfl 55 (O6 9) (O6 21) rfl w2.heap.size 0 M.toArray ?sx ?sy ?st ?si ?s1 ?_);(case sx=>rfl);(case sy=>rfl);(case st=>exact u.out.1);(case si=>rw[u.out.2.1];exact Z0);(case s1=>exact u.out.2.2.1);rw[NS,<-u.out.2.2.2.1])|((with_reducible refine O3 rfl 35 (O6 8) rfl w1.heap.size 0 ?gx K _ ?gc Ph ?gd ?gi ?_);(case gx=>rfl);(case gc=>exact afW u.out.2.2.2.2.2.1);(case gd=>rfl);(case gi=>rw[show K.length=16 from n.out.2.1];exact ajj))|((with_reducible refine O3 rfl 55 (O6 9) rfl w2.heap.size 0 ?hx M _ ?hc Lv ?hd ?hi ?_);(case hx=>rfl);(case hc=>exact afW u.out.2.2.2.2.1);(case hd=>rfl);(case hi=>rw[show M.length=26 from u.out.2.1];exact Z0))|((with_reducible refine als rfl 58 #[(0,O6 23),(2,O6 24)] rfl (Ny R.toArray) ?br ?_);(case br=>simp only[PW,OA,P5];exact u.out.2.2.2.2.2.2.1 _)))
 rw[<-u.out.2.2.2.2.2.2.2,<-HG.out];clear e7 c0 f5 n u HG HB HC l1 l2
 go_loopw [12,13] (fun i _ wr=>∃(b:Nat) (V:Pv) (P:Py),i=MF ME (b:Int)/\b<=3/\M6 (XQ w wr g V c P/\P.steps.length=b/\Sd P b)) (fun i _ _=>3-(intOf i).toNat)
 case atStart=>exact⟨0,_,_,rfl,by omega,⟨H3.out,rfl,fun j hj=>by omega,fun s hs=>by cases hs⟩⟩
 case round =>
  obtain⟨b,V,P,rfl,hb,q⟩:=hrel
  by_cases hlt:b<3
  ·have f3:(b:Int)<3:=by omega
   have g4:IntKind.i64.wrap (1000+(b:Int))=1000+b:=abk (by omega) (by omega);have f9:IntKind.i64.wrap (2+(b:Int))=2+b:=abk (by omega) (by omega);have y:M6 _:=q.out.1.Mf (by rw[q.out.2.1];omega) ⟨5,0,0,0,Nb,1000+b,b,2+b⟩ (anu ⟨by omega,by omega⟩ ⟨by omega,by omega⟩ ⟨by omega,by omega⟩)
   go_wp2_with fail
   refine Nd y.out ?_;rintro r w5 ⟨rfl,V5,G⟩;have H5:M6 _:=G;clear G y
   go_wp2_with fail
   go_roundw
   case rel =>
    exact⟨b+1,V5,_,by simp,by omega,⟨H5.out,by rw[ajm,q.out.2.1],q.out.2.2.Ms q.out.2.1 (by show(1000:Int)+b<2000;omega) rfl⟩⟩
   case measure=>simp[intOf];omega
  ·obtain rfl:b=3:=by omega
   have f3:¬((3:Nat):Int)<3:=by omega
   have y:M6 _:=q.out.1.Mf (by rw[q.out.2.1];omega) ⟨7,0,0,0,Nb,0,0,0⟩ anv
   go_wp2_with fail
   refine Nd y.out ?_;rintro r w5 ⟨rfl,V5,G⟩;have HT:M6 (XQ w w5 g V5 c (P.step ⟨7,0,0,0,Nb,0,0,0⟩)/\(P.step ⟨7,0,0,0,Nb,0,0,0⟩).steps.length=4/\Sd (P.step ⟨7,0,0,0,Nb,0,0,0⟩) 3):=⟨G,by rw[ajm,q.out.2.1],q.out.2.2.step (by rw[q.out.2.1];omega) (by show(0:Int)<2000;decide)⟩;obtain⟨P4,e6⟩:∃P4,P4=P.step ⟨7,0,0,0,Nb,0,0,0⟩:=⟨_,rfl⟩;rw[<-e6]at HT;clear G y q e6
   go_wp2_with fail
   go_loopw [14,15] (fun k i wr=>∃(j:Nat) (V:Pv) (P:Py),k=M3 Nw/\i=MF ME (j:Int)/\j<=nd/\j<=most/\M6 (XQ w wr g V c P/\P.steps.length=4+j/\Sd P 3)) (fun _ i _=>nd-(intOf i).toNat)
   case atStart=>exact⟨0,_,_,rfl,rfl,Nx _,Nx _,HT⟩
   case round =>
    obtain⟨j,V,P,rfl,rfl,hj,g3,m⟩:=hrel
    by_cases hlt:j<nd
    ·have f6:(j:Int)<(nd:Int):=by omega
     by_cases hlm:j<most
     ·have f8:(j:Int)<(most:Int):=by omega
      have b1:j<ds.length:=by rw[<-d7.out];exact hlt
      obtain⟨a,g2,hv,_,d6,hp⟩:=Xw.F6 anr (v.out.2.2.2.1.below m.out.1.bel);injection hv with ha hn2 hcap;obtain⟨bo,oo,e8,f4,E⟩:=hp j b1;rw[<-ha]at e8;have d0:wr.cell? ⟨bo,oo+j*4,MH⟩=MI (MF ME ds[j].k):=E 0 (by omega);have d1:wr.cell? ⟨bo,oo+j*4+1,MH⟩=MI (MF ME ds[j].a):=E 1 (by omega);have d2:wr.cell? ⟨bo,oo+j*4+2,MH⟩=MI (MF ME ds[j].b):=E 2 (by omega);have d3:wr.cell? ⟨bo,oo+j*4+3,MH⟩=MI (MF ME ds[j].c):=E 3 (by omega);have b2:=v.out.2.2.1 _ (Nk b1);obtain⟨x,hx⟩:∃x,x=ds[j]:=⟨_,rfl⟩;rw[<-hx]at d0 d1 d2 d3 b2;have g0:nd<=9223372036854775807:=by rw[d7.out];unfold NE at d6;omega
      have b3:P.steps.length<=1000:=by have:=v.out.2.2.2.2;rw[m.out.2.1];omega
      have HE:M6 _:=m.out.1.MD b3 x b2;have HL:M6 _:=b3;clear ha hn2 hcap E hp hx b2 b1 d6 b3 f4;subst e8
      go_wp2_with fail
      refine Nd HE.out ?_;rintro r w6 ⟨e,he,rfl,h6⟩;have y:M6 _:=h6.Mf HL.out e he.1;have f7:M6 _:=he.2;clear h6 he HE d0 d1 d2 d3
      go_wp2_with fail
      refine Nd y.out ?_;rintro r w7 ⟨rfl,V7,h7⟩;have H7:M6 _:=h7;clear h7 y
      go_wp2_with fail
      go_roundw
      case rel =>
       exact⟨j+1,V7,_,rfl,by simp,by omega,by omega,⟨H7.out,by rw[ajm,m.out.2.1];omega,m.out.2.2.step (by rw[m.out.2.1];omega) f7.out⟩⟩
      case measure=>simp[intOf];omega
     ·have f8:¬(j:Int)<(most:Int):=by omega
      go_wp2_with fail
      go_ret2
      exact⟨g,V,c,P,rfl,m.out.1,v.out.2.1,by rw[m.out.2.1];omega,by rw[m.out.2.1];omega,m.out.2.2⟩
    ·have f6:¬(j:Int)<(nd:Int):=by omega
     go_wp2_with fail
     go_ret2
     exact⟨g,V,c,P,rfl,m.out.1,v.out.2.1,by rw[m.out.2.1];omega,by rw[m.out.2.1];omega,m.out.2.2⟩
end Go.Proofs.YtgnclkcdnbfeeaaGreatDoor.Q
