/-
  Contracts of the layers and of core, part 2. Conditions: as each theorem says.
-/
import Derived.Deep.Upon
import Derived.BigQuiet
import Derived.Shelf.Spec.SlicesInsert
import Derived.Shelf.SlSortCmp.QuietGrown
import Derived.Maps.OwnSet
import Derived.Deep.CutRange
import Derived.Test.YtlnbhjdhcmgljaaGreatDoorQ0
open Array renaming getD_eq_getD_getElem?->Pg,length_toList->Om
open Bool renaming and_eq_true->Po,false->Nb,true->Nw
open Decidable renaming decide->Nn
open Go renaming Addr->Oc,Calls->Ni,Program->O8,TypeId->NU,Value->M7,World->MO,bodyPost_ret->Np,cell_grown->Ob,cell_of_row->MW,heap_alloc_new->M1,heap_setCell_same->NI,info_parts->OF,maxLen->NE,results->Pf,undef->PL,wpList_append_lies->O9,wpQuiet_nil->Oy,wp_region_quiet_grown->NQ
open Go.Addr.mk renaming injEq->Q1
open Go.Builtin renaming append_->N2
open Go.Calls renaming grown_of->NZ,mono->Nd
open Go.Ending renaming returned->MN
open Go.Extern.SlicesOverlaps renaming overlaps->P9
open Go.Fn renaming func->PD
open Go.IntKind renaming i64->ME,wrap_i64->Ow
open Go.Lit renaming int->N6
open Go.Maps renaming keyOf_int_mk->Qg,size->Tu
open Go.Obj renaming cells->MP
open Go.Oper renaming wp->RB
open Go.Proofs.Tryz renaming func122->Vk,func174->Wr,func175->Wq,func183->Ws,func191->VP,func217->RZ,func219->VB,func220->Uh,func223->Um,func228->S6,func248->VO,func251->U7,func261->Vr,ntmps122->Vg,ntmps174->Wf,ntmps175->We,ntmps183->Wg,ntmps191->VH,ntmps217->RM,ntmps219->Vu,ntmps220->T7,ntmps223->Ub,ntmps228->SE,ntmps248->VG,ntmps251->U4,ntmps261->Vm,prog->MK,results122->Vc,results182->Uq,results183->VX,underlying179->Wo,underlying273->Va,underlying3->Ol,underlying40->U3,underlying41->PK
open Go.Region renaming wanted->Pz
open Go.Result renaming andThen_ok->PG
open Go.RowKit renaming Below->MQ,Hid->M6,intOf->On
open Go.RowKit.Below renaming heap_alloc->Ov,heap_setCell->MU,refl->MY
open Go.Sem renaming run_bind->Pn,run_pure->P3
open Go.Sort renaming grow->Oj
open Go.Value renaming agg->Ny,bool->M3,func->PB,int->MF,map->P0,pointer->Na,slice->MG,tuple->Nv
open Go.Value.slice renaming injEq->N4
open Go.World renaming block_lt_of_cell?->MX,cell?->Nl,cell?_of_block->NG,frozen?->Ng,ownsRow_nil->NY,shape?->QO
open List renaming append_assoc->OC,append_nil->OG,drop_append->Qa,drop_eq_getElem_cons->OK,drop_eq_nil_of_le->PI,filter_append->OY,getElem?_append_left->OJ,getElem?_append_right->Tw,getElem?_cons_succ->N9,getElem?_cons_zero->Od,getElem?_drop->Pa,getElem?_eq_getElem->MR,getElem?_eq_none->Nz,getElem_cons_succ->MT,getElem_cons_zero->MS,getElem_mem->Nk,getElem_of_mem->NV,getElem_set->Pc,getElem_set_self->NW,length_append->Ns,length_cons->Ox,length_drop->NJ,length_filter_le->O1,length_map->N0,length_set->NA,length_singleton->OU,length_take->NH,map_append->OI,map_cons->OA,map_nil->P5,map_toArray->PW,mem_append->QF,mem_or_eq_of_mem_set->OB,nil_append->Oz,set_append_right->Pw,set_cons_succ->MM,set_cons_zero->ML,take_append_of_le_length->ZqA,take_left->Qb,take_length->NT,take_of_length_le->N1,take_succ_cons->PT,take_succ_eq_append_getElem->M9
open Nat renaming add_mul->ON,add_zero->Oe,le_of_lt->PJ,le_of_succ_le->SO,le_refl->MV,le_succ->Ps,le_trans->Nm,lt_irrefl->PC,lt_of_lt_of_le->M8,lt_or_ge->Oq,min_def->PR,min_eq_left->P1,mul_le_mul_right->O7,mul_one->P6,zero_add->Oa,zero_le->Nx
open Option renaming getD_some->OV,map_some->OH,none->MH,some->MI
open Option.some renaming injEq->Qs
open Or renaming inl->Nt,inr->NF
namespace Go.Proofs.YtlnbhjdhcmgljaaGreatDoor.Q
set_option linter.unusedVariables false
set_option linter.unusedSimpArgs false
set_option maxHeartbeats 16000000
set_option maxRecDepth 100000
open Go.RowKit
attribute [local go_sem ↓] Go.wp_at_zero Go.wp_at_succ
variable {drain id n now u:Int}{ids:List Int}{a b d e v:M7}{B c g i j k:Nat}{p:Option Oc}{α:Type}
theorem dz{a w:MO}(h:MQ B a w)(n:Nat):MQ B a (w.drewN n):=h.trans ⟨rfl,rfl,rfl,MV _,fun _ _=>rfl⟩
theorem mM{P:O8}{w:MO}{ops:Array Oper}{o:Oper}{a:Act}{K:Act->MO->Prop}{Q:Exit->Act->MO->Prop}{E:Prop}(hgd:o.guard=MH)(s x:Operand)(t:NU)
  (ho:o.op=.call {callee:=.builtin .append,args:=#[s,x],argTypes:=#[t,t]}) (v u y:M7) (w':MO) (hs:a.eval s=v) (hx:a.eval x=u) (hr:(N2 #[t,t] o.type #[v,u]).run P w=.ok y w')
  (h:K (a.put o.dst y) w'):if Pz o (yielded ops a.tmps)=Nw then RB P o a w K Q else E:=by
 have hw:Pz o (yielded ops a.tmps)=true:=by simp[Pz,hgd]
 rw[Nh hw];unfold RB execOp;simp only[ho,resolve,invoke,builtin,Pn,P3,PG,PW,OA,P5,hs,hx,hr];exact h
def ak{α:Type}(c:α->List Int):List α->List M7
 | []=>[]
 |x::l=>(c x).map (MF ME)++ak c l
section
variable {α:Type}{c:α->List Int}{k:Nat}
theorem ng(hk:∀x,(c x).length=k):∀l:List α,(ak c l).length=l.length*k
 | []=>by simp[ak]
 |x::l=>by
  simp only[ak,Ns,N0,hk,ng hk l,Ox,ON];omega
theorem jg:∀l m:List α,ak c (l++m)=ak c l++ak c m
 | [],_=>rfl
 |x::l,m=>by simp only[List.cons_append,ak,jg l m,OC]
theorem pZ(hk:∀x,(c x).length=k):∀(l:List α) (i j:Nat) (hi:i<l.length),j<k->(ak c l)[i*k+j]?=((c l[i])[j]?).map (MF ME)
 |x::l,0,j,_,hj=>by
  simp only[ak,Nat.zero_mul,Oa,MS];rw[OJ (by simp[hk,hj]),List.getElem?_map]
 |x::l,i+1,j,hi,hj=>by
  have h2:=pZ hk l i j (by simpa using hi) hj;simp only[ak,MT];rw[Tw (by simp only[N0,hk,ON];omega),<-h2]
  congr 1
  simp only[N0,hk,ON];omega
theorem jz(l:List α):∀u∈ak c l,u.oneCell'=true:=by
 induction l with
 |nil=>simp[ak]
 |cons x l ih =>
  intro u hu;simp only[ak,QF,List.mem_map]at hu;rcases hu with⟨n,_,rfl⟩|hu
  ·rfl
  ·exact ih u hu
theorem tA(hk:∀x,(c x).length=k):∀(l:List α) (i:Nat),(ak c l).take (i*k)=ak c (l.take i)
 | [],i=>by simp[ak]
 |x::l,0=>by simp[ak]
 |x::l,i+1=>by
  simp only[ak,PT];rw[show(i+1)*k=((c x).map (MF ME)).length+i*k by simp only[N0,hk,ON];omega,List.take_length_add_append,tA hk l i]
theorem se(hk:∀x,(c x).length=k):∀(l:List α) (i:Nat),(ak c l).drop (i*k)=ak c (l.drop i)
 | [],i=>by simp[ak]
 |x::l,0=>by simp[ak]
 |x::l,i+1=>by
  simp only[ak,List.drop_succ_cons];rw[show(i+1)*k=((c x).map (MF ME)).length+i*k by simp only[N0,hk,ON];omega,List.drop_length_add_append,se hk l i]
theorem rY(hk:∀x,(c x).length=k):∀(l:List α) (i j:Nat) (v:Int) (y:α) (hi:i<l.length),j<k->c y=(c l[i]).set j v->(ak c l).set (i*k+j) (MF ME v)=ak c (l.set i y)
 |x::l,0,j,v,y,_,hj,hy=>by
  simp only[ak,Nat.zero_mul,Oa,ML,MS]at hy⊢;rw[List.set_append_left _ _ (by simp[hk,hj]),hy,List.map_set]
 |x::l,i+1,j,v,y,hi,hj,hy=>by
  have h2:=rY hk l i j v y (by simpa using hi) hj (by simpa using hy);simp only[ak,MM];rw[Pw _ _ (by simp only[N0,hk,ON];omega),<-h2]
  congr 2
  simp only[N0,hk,ON];omega
end
def eD{α:Type}(c:α->List Int)(w:MO)(v:M7)(l:List α):Prop:=aR w v l.length (ak c l)
section
variable {α:Type}{c:α->List Int}{k:Nat}{w w':MO}{v:M7}{l:List α}
theorem eD.below(h:eD c w v l)(hb:MQ w.heap.size w w'):eD c w' v l:=aR.below h hb
theorem mP(w:MO):eD c w (MG MH 0 0) ([]:List α):=dZ w
theorem eD.F6(hk:∀x,(c x).length=k)(h:eD c w v l) :
  ∃a cap,v=MG a l.length cap/\l.length<=cap/\cap<=NE/\∀i (hi:i<l.length),∃b off,a=MI ⟨b,off,MH⟩/\b<w.heap.size/\∀j,j<k->w.cell? ⟨b,off+i*k+j,MH⟩=((c l[i])[j]?).map (MF ME):=by
 obtain⟨a,cap,hv,hc,hm,h1|⟨b,off,h1,h2,h3⟩⟩:=h
 ·exact⟨a,cap,hv,hc,hm,fun i hi=>absurd hi (by omega)⟩
 ·refine⟨a,cap,hv,hc,hm,fun i hi=>⟨b,off,h1,h2,fun j hj=>?_⟩⟩
  have hlt:i*k+j<l.length*k:=by
   have:(i+1)*k<=l.length*k:=O7 _ hi;rw[ON]at this;omega
  rw[Nat.add_assoc,h3 (i*k+j) (by rw[ng hk];exact hlt)];exact pZ hk l i j hi hj
theorem eD.Ga(h:eD c w v l):∃a cap,v=MG a l.length cap/\l.length<=cap/\cap<=maxLen:=by
 obtain⟨a,cap,hv,hc,hm,_⟩:=h;exact⟨a,cap,hv,hc,hm⟩
theorem eD.Gf(h:eD c w v l)(hs:w.heap.size<=w'.heap.size)(hb:∀b,v.ownBlock=MI b->w'.heap[b]?=w.heap[b]?):eD c w' v l:=by
 obtain⟨a,cap,rfl,hc,hm,h1|⟨b,off,rfl,h2,h3⟩⟩:=h
 ·exact⟨a,cap,rfl,hc,hm,Nt h1⟩
 ·refine⟨_,cap,rfl,hc,hm,NF ⟨b,off,rfl,M8 h2 hs,fun i hi=>?_⟩⟩
  rw[<-h3 i hi];have:=hb b rfl;simp only[Nl,this]
theorem pO{base:Nat}{e:NU}(h:w.ownsRow base e k v l.length (ak c l)):eD c w v l:=bP h
theorem DW(hk:∀x,(c x).length=k){base n cap:Nat}{e:NU}(h:w.ownsRow base e k (MG (MI ⟨g,0,MH⟩) n cap) n (ak c l))(hi:i<l.length)(hj:j<k)(a:Int)(y:α)(hy:c y=(c l[i]).set j a):
  (w.setCell ⟨g,i*k+j,MH⟩ (MF ME a)).ownsRow base e k (MG (MI ⟨g,0,MH⟩) n cap) n (ak c (l.set i y)):=by
 have:=(h.stored (i*k+j) (MF ME a)).1;rwa[rY hk l i j a y hi hj hy]at this
theorem bi(hk:∀x,(c x).length=k){base n cap:Nat}{e:NU}(h:w.ownsRow base e k (MG (MI ⟨g,0,MH⟩) n cap) n (ak c l))(hn:n=l.length)(hi:i<l.length)(hj:j<k):w.cell? ⟨g,i*k+j,MH⟩=((c l[i])[j]?).map (MF ME):=by
 have hlt:i*k+j<n*k:=by
  have:(i+1)*k<=l.length*k:=O7 _ hi;rw[ON]at this;rw[hn];omega
 rw[h.cellAt _ hlt];exact pZ hk l i j hi hj
variable {t e:NU}{z:M7}{bytes:Nat}
theorem nY(hk:∀x,(c x).length=k)(hk0:0<k)(ht:Tryz.prog.underlying t=MI (.slice e))(hinfo:(Tryz.prog.info? e).map (fun i=>(i.zero,i.size,i.bytes))=MI (MI z,k,bytes))(hz:z.cells.size=k){w:MO}{base:Nat}{n cc:Nat}{m:List α}(ho:w.ownsRow base e k (MG p n cc) n (ak c m))(hb:base<=w.heap.size)
  (ty:NU) (u:M7) (l:List α) (hu:eD c w u l) (h0:0<l.length) (hl:(n+l.length)*bytes<=140737488355328) (hl2:n+l.length<=NE) :
  ∃g c' w',(N2 #[t,t] ty #[MG p n cc,u]).run MK w=.ok (MG (MI ⟨g,0,MH⟩) (n+l.length) c') w'/\w'.ownsRow base e k (MG (MI ⟨g,0,MH⟩) (n+l.length) c') (n+l.length) (ak c (m++l))/\w.grownBy w' (MG p n cc).ownBlock/\((MG p n cc).ownBlock=MI g\/g=w.heap.size):=by
 obtain⟨i0,hi,hz0,hz1,hz2⟩:=OF hinfo;obtain⟨a,cap,rfl,hc,hm,h⟩:=hu;rcases h with⟨h,_⟩|⟨b,off,rfl,hb2,hcell⟩
 ·omega
 ·obtain⟨g,c',w',hr,ho',hg,hlies,_⟩:=run_append_lies (P:=MK) w t ty base e i0 _ k bytes ht hi hz0 hz1 hz2 hz hk0 (MG p n cc) n (ak c m) ho ⟨b,off,MH⟩ l.length cap (ak c l) (ng hk l) (fun j x hx=>by
   have hj:=(List.getElem?_eq_some_iff.1 hx).1;rw[eJ,hcell j hj,hx]) (jz l) h0 hl2 hl hb _ rfl
  rw[<-jg]at ho';exact⟨g,c',w',hr,ho',hg,hlies⟩
theorem tp(hk:∀x,(c x).length=k)(hk0:0<k)(ht:Tryz.prog.underlying t=MI (.slice e))(hinfo:(Tryz.prog.info? e).map (fun i=>(i.zero,i.size,i.bytes))=MI (MI z,k,bytes))(hz:z.cells.size=k){w:MO}{base:Nat}{n cc:Nat}{m:List α}(ho:w.ownsRow base e k (MG p n cc) n (ak c m))(hb:base<=w.heap.size)
  (ty:NU) (x:α) (cs:Array M7) (hcs:cs.toList=(c x).map (MF ME)) (hl:(n+1)*bytes<=140737488355328) (hl2:n+1<=NE) :
  ∃g c' w',(N2 #[t,t] ty #[MG p n cc,MG (MI ⟨w.heap.size,0,MH⟩) 1 1]).run MK (w.alloc (MP cs e))=.ok (MG (MI ⟨g,0,MH⟩) (n+1) c') w' /\
   w'.ownsRow base e k (MG (MI ⟨g,0,MH⟩) (n+1) c') (n+1) (ak c (m++[x]))/\w.grownBy w' (MG p n cc).ownBlock/\((MG p n cc).ownBlock=MI g\/w.heap.size<g):=by
 have hr:ak c [x]=cs.toList:=by rw[hcs];simp[ak]
 have hu:eD c (w.alloc (MP cs e)) (MG (MI ⟨w.heap.size,0,MH⟩) 1 1) [x]:=by
  refine⟨_,1,rfl,MV _,by unfold NE;omega,NF ⟨w.heap.size,0,rfl,by simp,fun i hi=>?_⟩⟩;rw[Oa,MW _ w.heap.size i cs e (0,0) (M1 w _),hr];simp
 obtain⟨g,c',w',h1,h2,h3,h4⟩:=nY hk hk0 ht hinfo hz (ho.alloc _) (by simp;omega) ty _ [x] hu (by simp) hl hl2;refine⟨g,c',w',h1,h2,⟨h3.os,h3.tape,h3.output,?_,fun j hj hne=>?_⟩,h4.imp id fun h=>?_⟩
 ·have:=h3.size;simp at this;omega
 ·rw[h3.block j (by simp;omega) hne];exact Ov _ _ _ hj
 ·rw[h];simp
end
abbrev Lf:=Int×Int×Int×Int×Int×Int
variable {x y:Lf}
abbrev Rq:=Int×Int×Int×Int×Int
variable {r:Rq}
abbrev az(x:Lf):List Int:=[x.1,x.2.1,x.2.2.1,x.2.2.2.1,x.2.2.2.2.1,x.2.2.2.2.2]
abbrev fY(x:Rq):List Int:=[x.1,x.2.1,x.2.2.1,x.2.2.2.1,x.2.2.2.2]
theorem bg(x:Lf):(az x).length=6:=rfl
theorem iH(x:Rq):(fY x).length=5:=rfl
abbrev iO(x:Lf):Prop:=(0<=x.1/\x.1<=11)/\(1<=x.2.2.1/\x.2.2.1<=8)/\(0<=x.2.2.2.1/\x.2.2.2.1<=1099511627776)/\(0<=x.2.2.2.2.1/\x.2.2.2.2.1<=1099511628276)/\(0<=x.2.2.2.2.2/\x.2.2.2.2.2<=1048576)
abbrev dx(x:Lf):Prop:=iO x/\((x.2.1=1/\x.2.2.2.1=0/\x.2.2.2.2.1=0/\x.2.2.2.2.2=0)\/(x.2.1=2/\x.2.2.2.2.1=0/\x.2.2.2.2.2=0)\/x.2.1=3\/x.2.1=4)
abbrev je(r:Rq):Prop:=(0<=r.1/\r.1<=1048576)/\(r.2.1=1\/r.2.1=2)
abbrev fy(L:List Lf):Prop:=(∀x∈L,dx x)/\L.Pairwise (fun a b=>a.1<b.1)
abbrev mJ(R:List Rq):Prop:=(∀r∈R,je r)/\R.Pairwise (fun a b=>a.1≠b.1)
abbrev bX(L:List Lf)(R:List Rq):Prop:=(L.length<=12/\fy L)/\(R.length<=100/\mJ R)
def lV(L:List Lf)(R:List Rq):Int:=if bX L R then 0 else 6
theorem ut{L:List Lf}{R:List Rq}(h:bX L R):lV L R=0:=Nh h
theorem rR{L:List Lf}{R:List Rq}(h:¬bX L R):lV L R=6:=Nf h
theorem Dn{l:List Lf}(h:l.Pairwise (fun a b=>a.1<b.1))(hl:∀y,l.getLast?=MI y->y.1<x.1):(l++[x]).Pairwise (fun a b=>a.1<b.1):=by
 refine List.pairwise_append.2 ⟨h,by simp,?_⟩;intro a ha b hb;simp at hb;subst hb;rcases List.eq_nil_or_concat l with rfl|⟨l',y,rfl⟩
 ·cases ha
 ·have hy:=hl y (by simp)
  simp only[List.concat_eq_append]at ha h;rcases List.mem_append.1 ha with ha|ha
  ·have:=(List.pairwise_append.1 h).2.2 a ha y (by simp)
   omega
  ·simp at ha
   subst ha;exact hy
def aU(L:List Lf)(n:Int):Nat:=L.findIdx (fun x=>Nn (n<=x.1))
def cK(L:List Lf)(n:Int):Bool:=match L[aU L n]? with
 |some x=>x.1 == n
 |none=>Nb
theorem rl(L:List Lf)(n:Int):aU L n<=L.length:=List.findIdx_le_length
theorem fV{L:List Lf}(h:cK L n=Nw):aU L n<L.length:=by
 unfold cK at h
 split at h
 ·rename_i x hx
  exact(List.getElem?_eq_some_iff.1 hx).1
 ·cases h
theorem EK{L:List Lf}(h:cK L n=Nw):(L[aU L n]'(fV h)).1=n:=by
 have hlt:=fV h;unfold cK at h;rw[MR hlt]at h
 simpa using h
theorem B0{L:List Lf}(hlt:aU L n<L.length)(h:(L[aU L n]).1=n):cK L n=true:=by
 unfold cK;rw[MR hlt]
 simpa using h
theorem zx{L:List Lf}(hi:i<aU L n):(L[i]'(M8 hi (rl L n))).1<n:=by
 have:=List.not_of_lt_findIdx hi
 simpa using this
theorem BE{L:List Lf}(h:aU L n<L.length):n<=(L[aU L n]).1:=by
 have:=List.findIdx_getElem (w:=h);unfold aU
 simpa using this
theorem vn{L:List Lf}(h:L.Pairwise (fun a b=>a.1<b.1))(hi:i<L.length):cK L L[i].1=Nw/\aU L L[i].1=i:=by
 have hle:aU L L[i].1<=i:=by
  refine Nat.le_of_not_lt fun hlt=>?_
  have:=zx hlt;omega
 have hp:aU L L[i].1=i:=by
  rcases Oq (aU L L[i].1) i with hlt|hge
  ·have h1:=BE (n:=L[i].1) (Nat.lt_trans hlt hi)
   have h2:=List.pairwise_iff_getElem.1 h _ _ (Nat.lt_trans hlt hi) hi hlt;omega
  ·omega
 refine⟨B0 (by rw[hp];exact hi) ?_,hp⟩;simp only[hp]
theorem Lj{L:List Lf}(h:cK L n=Nb)(hr:L.Pairwise (fun a b=>a.1<b.1)):∀x∈L,x.1≠n:=by
 intro x hx e;obtain⟨i,hi,rfl⟩:=NV hx;have:=(vn hr hi).1;rw[e,h]at this;cases this
def aT{α:Type}(l:List α)(x:α)(i:Nat):List α:=l.take i++x::l.drop i
def gE(L:List Lf)(n w:Int):List Lf×Int :=
 if ¬(0<=n/\n<=11)\/¬(1<=w/\w<=8)then(L,2)
 else if cK L n then
  (if(L[aU L n]?.getD (0,0,0,0,0,0)).2.1=4 then(L.set (aU L n) (n,1,w,0,0,0),0)else(L,7))
 else(aT L (n,1,w,0,0,0) (aU L n),0)
def mH(x:Lf)(u id:Int):Lf:=(x.1,if x.2.1=2 then 3 else 4,x.2.2.1,x.2.2.2.1,u,id)
def ec(L:List Lf)(n id u:Int):List Lf×Int :=
 if cK L n then
  (if(L[aU L n]?.getD (0,0,0,0,0,0)).2.1=4 then(L,8)
  else if(L[aU L n]?.getD (0,0,0,0,0,0)).2.1=3 then(L,12)
  else(L.set (aU L n) (mH (L[aU L n]?.getD (0,0,0,0,0,0)) u id),0))
 else(L,8)
def eA(L:List Lf)(R:List Rq)(r:Rq)(u:Int):(List Lf×List Rq)×Int :=
 if r.2.1=1 then(((gE L r.2.2.1 r.2.2.2.1).1,R++[(r.1,r.2.1,r.2.2.1,r.2.2.2.1,(gE L r.2.2.1 r.2.2.2.1).2)]),(gE L r.2.2.1 r.2.2.2.1).2)
 else(((ec L r.2.2.1 r.1 u).1,R++[(r.1,r.2.1,r.2.2.1,0,(ec L r.2.2.1 r.1 u).2)]),(ec L r.2.2.1 r.1 u).2)
def dK(R:List Rq)(id:Int):Nat:=R.findIdx (fun q=>q.1 == id)
abbrev lz:=(List Lf×List Rq)×Int×Bool×Int
abbrev jL(r:Rq)(now drain:Int):Prop:=je r/\(0<=now/\now<=1099511627776)/\(0<=drain/\drain<=500)
def ff(L:List Lf)(R:List Rq)(r:Rq)(now drain:Int):lz :=
 if bX L R then
  (if jL r now drain then
   (if dK R r.1<R.length then((L,R),(R[dK R r.1]?.getD (0,0,0,0,0)).2.2.2.2,Nb,0)
   else if R.length=100 then((L,R),9,Nb,0)
   else((eA L R r (now+drain)).1,(eA L R r (now+drain)).2,Nw,0))
  else(([],[]),0,Nb,2))
 else(([],[]),0,Nb,6)
def aY(now:Int)(x:Lf):Lf:=if x.2.1=1 then(x.1,2,x.2.2.1,now,x.2.2.2.2.1,x.2.2.2.2.2)else x
def bv(L:List Lf):List Int:=(L.filter (fun x=>x.2.1 == 1)).map (·.1)
def gB(L:List Lf)(R:List Rq)(now:Int):(List Lf×List Rq)×List Int×Int :=
 if bX L R then
  (if 0<=now/\now<=1099511627776 then((L.map (aY now),R),bv L,0)else(([],[]),[],2))
 else(([],[]),[],6)
def dC(x:Lf):Lf:=(x.1,4,x.2.2.1,x.2.2.2.1,x.2.2.2.2.1,x.2.2.2.2.2)
def eL(L:List Lf)(R:List Rq)(n:Int):(List Lf×List Rq)×Int :=
 if bX L R then
  (if cK L n=Nw/\(L[aU L n]?.getD (0,0,0,0,0,0)).2.1=3 then((L.set (aU L n) (dC (L[aU L n]?.getD (0,0,0,0,0,0))),R),0)else(([],[]),8))
 else(([],[]),6)
theorem lB:(Tryz.prog.info? 91).map (fun i=>(i.zero,i.size,i.bytes))=MI (MI (Ny #[MF ME 0,MF ME 0,MF ME 0,MF ME 0,MF ME 0,MF ME 0]),6,48):=by kernel_rfl
theorem eP(l:List Lf):(ak az l).length=l.length*6:=ng bg l
theorem nK(l:List Lf)(i:Nat):(ak az l).take (i*6)=ak az (l.take i):=tA bg l i
theorem wq(l:List Lf)(i:Nat):(ak az l).drop (i*6)=ak az (l.drop i):=se bg l i
theorem ol(x:Lf):ak az [x]=(az x).map (MF ME):=by simp[ak]
theorem uI(l:List α)(x:α):aT l x l.length=l++[x]:=by simp[aT]
def nd(base:Nat)(v:M7)(l:List Lf)(t:Lf)(i:Nat)(w:MO)(r:Ending)(w':MO):Prop :=
 ∃g cap,r=MN (MG (MI ⟨g,0,MH⟩) (l.length+1) cap)/\w'.ownsRow base 91 6 (MG (MI ⟨g,0,MH⟩) (l.length+1) cap) (l.length+1) (ak az (aT l t i))/\w.grownBy w' v.ownBlock/\(v.ownBlock=MI g\/w.heap.size<=g)
theorem Ap(base:Nat)(v:M7)(l:List Lf)(x:Lf)(cs:Array M7)(hxs:cs.toList=(az x).map (MF ME))(k:Nat)(w:MO)(hown:w.ownsRow base 91 6 v l.length (ak az l))(hbase:base<=w.heap.size)
  (hk:w.heap[k]?=MI (MP cs 91 (0,0))) (hlen:l.length<=1000) :
  Ni MK 248 #[v,MF ME l.length,MG (MI ⟨k,0,MH⟩) 1 1] w (nd base v l x l.length w):=by
 obtain⟨i0,hi,hz0,hz1,hz2⟩:=OF lB;have hnews:∀j u,(ak az [x])[j]?=MI u->w.cell? ((⟨k,0,MH⟩:Oc).add j)=MI u:=fun j u hu=>by
  have hadd:(⟨k,0,MH⟩:Oc).add j=⟨k,j,MH⟩:=by unfold Addr.add;split <;> simp_all
  rw[hadd,MW w k j _ _ (0,0) hk];rw[ol,<-hxs]at hu;simpa using hu
 obtain⟨p,c,rfl⟩:=cR hown;have hnc:l.length<=c:=by
  rcases hown.2 with⟨h,_⟩|⟨g,cap,cur,h,_,_,h2,_⟩
  ·simp only[N4]at h;omega
  ·simp only[N4]at h;omega
 have hcm:c<=9223372036854775807:=by
  rcases hown.2 with⟨h,_⟩|⟨g,cap,cur,h,_,_,_,h2,_⟩
  ·simp only[N4]at h;omega
  ·simp only[N4]at h;unfold NE at h2;omega
 by_cases hcl:c=l.length
 ·subst hcl
  have HO:M6 (_/\_):=⟨hown,hnews⟩;clear hown hnews;go_enter VO,VG
  go_wp2_with (first|(at_builtin;refine O9 _ rfl _ _ 40 rfl base 91 i0 _ 6 48 U3 hi hz0 hz1 hz2 rfl (by decide) (MG p l.length l.length) _ _ rfl HO.out.1 _ 1 1 (ak az [x]) rfl rfl HO.out.2 (jz _) (by decide) (by unfold NE;omega) (by omega) hbase _ rfl ?_;intro g' cap w2 hown2 hg2 hlies hlt2))
  all_goals
   go_ret;exact⟨g',cap,rfl,by rw[uI,jg];exact hown2,hg2,hlies.imp id (fun h=>by omega)⟩
 ·have HO:M6 (_/\_):=⟨hown,hnews⟩
  clear hown hnews;go_enter VO,VG
  go_wp2_with (first|(at_builtin;refine O9 _ rfl _ _ 40 rfl base 91 i0 _ 6 48 U3 hi hz0 hz1 hz2 rfl (by decide) (MG p l.length c) _ _ rfl HO.out.1 _ 1 1 (ak az [x]) rfl rfl HO.out.2 (jz _) (by decide) (by unfold NE;omega) (by omega) hbase _ rfl ?_;intro g' cap w2 hown2 hg2 hlies hlt2))
  all_goals
   go_ret;exact⟨g',cap,rfl,by rw[uI,jg];exact hown2,hg2,hlies.imp id (fun h=>by omega)⟩
theorem xb(base g c:Nat)(l:List Lf)(x:Lf)(cs:Array M7)(hxs:cs.toList=(az x).map (MF ME))(i k:Nat)(w:MO)(hown:w.ownsRow base 91 6 (MG (MI ⟨g,0,MH⟩) l.length c) l.length (ak az l))(hbase:base<=w.heap.size)(hi:i<l.length)(hroom:c<l.length+1)
  (hk:w.heap[k]?=MI (MP cs 91 (0,0))) (hlen:l.length<=1000) :
  Ni MK 248 #[MG (MI ⟨g,0,MH⟩) l.length c,MF ME i,MG (MI ⟨k,0,MH⟩) 1 1] w (nd base (MG (MI ⟨g,0,MH⟩) l.length c) l x i w):=by
 obtain⟨i0,hif,hz0,hz1,hz2⟩:=OF lB;have hcl:c=l.length:=by
  rcases hown.2 with⟨h,_⟩|⟨g',cap,cur,h,_,_,h2,_⟩
  ·cases h
  ·simp only[N4]at h;omega
 subst hcl;have hsz:(Tryz.prog.info? 91).map (·.size)=MI 6:=by rw[hif];simp[hz1]
 have hglt:=(hown.lt g rfl).2;have hklt:k<w.heap.size:=(Array.getElem?_eq_some_iff.1 hk).1;obtain⟨cap,zs,w2,hr1,ho2,hzl,hcap,hg2,hs2⟩:=nn (P:=MK) w 40 3 40 91 i0 _ ME 6 48 U3 Ol hif hz0 hz1 hz2 rfl (by decide) base ⟨g,0,MH⟩ i l.length (l.length+1-i) (ak az (l.take i)) (by rw[eP,NH];omega)
  (fun j u hu=>by
   rw[fG,hown.cellAt j (by have:=(List.getElem?_eq_some_iff.1 hu).1;rw[eP,NH]at this;omega)];rw[<-nK]at hu;rw[List.getElem?_take]at hu
   split at hu
   ·exact hu
   ·cases hu) (by omega) (by omega) (by unfold NE;omega) (by omega) hbase
 have him:i+(l.length+1-i)=l.length+1:=by omega
 rw[him]at hr1 ho2 hcap;rw[show((l.length+1-i:Nat):Int)=(l.length:Int)+1-(i:Int)by omega]at hr1;obtain⟨w3,hr2,ho3,hg3⟩:=fA (P:=MK) w2 40 3 91 6 U3 hsz base w.heap.size (l.length+1) cap _ ho2 (i*6) (l.length+1-i) (cap-i) ⟨k,0,MH⟩ 1 1 1 (ak az [x]) (by simp only[PR];split <;> omega) rfl (by simp[ak];omega)
  (fun j u hu=>by
   rw[fG,(hg2.cell (a:=⟨k,j,MH⟩) (v:=u) (by rw[MW w k j _ _ (0,0) hk];rw[ol,<-hxs]at hu;simpa using hu) (by simp))]) (jz _)
 obtain⟨w4,hr3,ho4,hg4⟩:=fA (P:=MK) w3.drew 40 3 91 6 U3 hsz base w.heap.size (l.length+1) cap _ ho3 ((i+1)*6) (l.length-i) (cap-(i+1)) ⟨g,i*6,MH⟩ (l.length-i) (l.length-i) (l.length-i) (ak az (l.drop i)) (by simp only[PR];split <;> omega) (by rw[eP,NJ]) (by rw[eP,NJ];omega)
  (fun j u hu=>by
   rw[eJ];have hj:=(List.getElem?_eq_some_iff.1 hu).1;rw[eP,NJ]at hj;have h1:w.cell? ⟨g,i*6+j,MH⟩=MI u:=by
    rw[hown.cellAt _ (by omega),<-hu,<-wq,Pa]
   exact hg3.cell (a:=⟨g,i*6+j,MH⟩) (hg2.cell h1 (by simp)) (by simp;omega)) (jz _)
 have hend:(ak az (l.take i)++zs).take (i*6)++ak az [x]++(ak az (l.take i)++zs).drop (i*6+(ak az [x]).length)=ak az (l.take i++[x])++zs.drop 6:=by
  have e0:(ak az (l.take i)).length=i*6:=by rw[eP,NH];omega
  rw[<-e0,Qb,jg,Qa];simp[ak]
 have hend2:∀ys:List M7,((ak az (l.take i++[x])++ys).take ((i+1)*6)++ak az (l.drop i)++(ak az (l.take i++[x])++ys).drop ((i+1)*6+(ak az (l.drop i)).length))=ak az (aT l x i)++ys.drop ((l.length-i)*6):=fun ys=>by
  have e0:(ak az (l.take i++[x])).length=(i+1)*6:=by rw[eP];simp;omega
  rw[<-e0,Qb,Qa,eP (l.drop i),NJ,aT,jg,jg];simp[ak]
 rw[hend,hend2]at ho4;rw[List.drop_drop,PI (by rw[hzl];omega),OG]at ho4;have hgw:w.grownBy w4 (MG (MI ⟨g,0,MH⟩) l.length l.length).ownBlock :=
  ⟨hg4.os.trans (hg3.os.trans hg2.os),hg4.tape.trans (hg3.tape.trans hg2.tape),hg4.output.trans (hg3.output.trans hg2.output),Nm hg2.size (Nm hg3.size hg4.size),fun j hj _=>by
   rw[hg4.block j (M8 hj (Nm hg2.size hg3.size)) (by simp;omega)];show w3.heap[j]?=_;rw[hg3.block j (M8 hj hg2.size) (by simp;omega),hg2.block j hj (by simp)]⟩
 have HO:M6 (_/\_/\_/\_/\_):=⟨hr1,hr2,hr3,ho4,hgw⟩;have hI1:(i:Int)<=(l.length:Int):=by omega
 have hI2:(i:Int)<(l.length:Int)+1:=by omega
 have hne1:¬cap=i:=by omega
 have hne2:¬cap=i+1:=by omega
 have hne3:¬l.length=i:=by omega
 have hne4:((i:Int) == (l.length:Int))=false:=by simp;omega
 clear hr1 ho2 ho3 ho4 hg2 hg3 hg4 hzl hown hk hend hend2 hgw;go_enter VO,VG
 go_wp2_with (first|(at_builtin;refine Lib.wpList_append_run _ rfl _ _ _ _ rfl _ _ rfl rfl _ _ HO.out.1 ?_))
 go_region
 go_wp2;go_ret;exact⟨w.heap.size,cap,rfl,HO.out.2.2.2.1,HO.out.2.2.2.2,NF (MV _)⟩
theorem AQ(base g c:Nat)(l:List Lf)(x:Lf)(cs:Array M7)(hxs:cs.toList=(az x).map (MF ME))(i k:Nat)(w:MO)(hown:w.ownsRow base 91 6 (MG (MI ⟨g,0,MH⟩) l.length c) l.length (ak az l))(hbase:base<=w.heap.size)(hi:i<l.length)(hroom:l.length+1<=c)(hkg:k≠g)
  (hk:w.heap[k]?=MI (MP cs 91 (0,0))) (hlen:l.length<=1000) :
  Ni MK 248 #[MG (MI ⟨g,0,MH⟩) l.length c,MF ME i,MG (MI ⟨k,0,MH⟩) 1 1] w (nd base (MG (MI ⟨g,0,MH⟩) l.length c) l x i w):=by
 obtain⟨i0,hif,hz0,hz1,hz2⟩:=OF lB;have hsz:(Tryz.prog.info? 91).map (·.size)=MI 6:=by rw[hif];simp[hz1]
 obtain⟨cur,hgc,hcm,hcs,htk,hbg⟩:∃cur:Array M7,w.heap[g]?=MI (MP cur 91 (0,0))/\c<=NE/\cur.size=c*6/\cur.toList.take (l.length*6)=ak az l/\base<=g:=by
  rcases hown.2 with⟨h,_⟩|⟨g',cap,cur,h,hb,hg,h2,h3,h4,h5⟩
  ·cases h
  ·simp only[N4,Qs,Q1,and_true,true_and]at h
   obtain⟨rfl,rfl⟩:=h;exact⟨cur,hg,h3,h4,h5,hb⟩
 have hown1:w.ownsRow base 91 6 (MG (MI ⟨g,0,MH⟩) (l.length+1) c) (l.length+1) (cur.toList.take ((l.length+1)*6)):=
  ⟨by simp only[NH,Om,hcs];omega,NF ⟨g,c,cur,rfl,hbg,hgc,hroom,hcm,hcs,rfl⟩⟩
 have hx:cur.toList.take ((l.length+1)*6)=ak az l++(cur.toList.drop (l.length*6)).take 6:=by
  rw[<-htk,show(l.length+1)*6=l.length*6+6 by omega,List.take_add]
 rw[hx]at hown1;have hspl:((cur.toList.drop (l.length*6)).take 6).length=6:=by simp only[NH,NJ,Om,hcs];omega
 generalize (cur.toList.drop (l.length*6)).take 6=sp at hown1 hspl;have hglt:=(hown.lt g rfl).2;obtain⟨w2,hr1,ho2,hg2⟩:=fA (P:=MK) w.drew 40 3 91 6 U3 hsz base g (l.length+1) c _ hown1 ((i+1)*6) (l.length-i) (c-(i+1)) ⟨g,i*6,MH⟩ (l.length+1-i) (c-i) (l.length-i) (ak az (l.drop i)) (by simp only[PR];split <;> omega) (by rw[eP,NJ]) (by rw[eP,NJ];omega)
  (fun j u hu=>by
   rw[eJ];have hj:=(List.getElem?_eq_some_iff.1 hu).1;rw[eP,NJ]at hj;have h1:w.cell? ⟨g,i*6+j,MH⟩=MI u:=by
    rw[hown.cellAt _ (by omega),<-hu,<-wq,Pa]
   exact h1) (jz _)
 obtain⟨w3,hr2,ho3,hg3⟩:=fA (P:=MK) w2 40 3 91 6 U3 hsz base g (l.length+1) c _ ho2 (i*6) (l.length+1-i) (c-i) ⟨k,0,MH⟩ 1 1 1 (ak az [x]) (by simp only[PR];split <;> omega) rfl (by simp[ak];omega)
  (fun j u hu=>by
   rw[fG,(hg2.cell (a:=⟨k,j,MH⟩) (v:=u) (show w.cell? _=_ by rw[MW w k j _ _ (0,0) hk];rw[ol,<-hxs]at hu;simpa using hu) (by simp;omega))]) (jz _)
 have hend:∀xs:List M7,xs=(ak az l++sp).take ((i+1)*6)++ak az (l.drop i)++(ak az l++sp).drop ((i+1)*6+(ak az (l.drop i)).length)->xs.take (i*6)++ak az [x]++xs.drop (i*6+(ak az [x]).length)=ak az (aT l x i):=fun xs hxs=>by
  have e1:(ak az l++sp).drop ((i+1)*6+(ak az (l.drop i)).length)=[]:=PI (by rw[Ns,eP,eP,NJ,hspl];omega);have e2:(ak az l++sp).take ((i+1)*6)=ak az (l.take (i+1)):=by
   rw[ZqA (by rw[eP];omega),nK]
  rw[e1,e2,OG]at hxs;have e3:(ak az (l.take (i+1))).length=(i+1)*6:=by rw[eP,NH];omega
  have e4:xs.take (i*6)=ak az (l.take i):=by
   rw[hxs,ZqA (by rw[e3];omega),nK,List.take_take,show min i (i+1)=i by omega]
  have e5:xs.drop (i*6+(ak az [x]).length)=ak az (l.drop i):=by
   rw[hxs,show i*6+(ak az [x]).length=(ak az (l.take (i+1))).length by rw[e3];simp[ak];omega,List.drop_left]
  rw[e4,e5,aT,jg];simp[ak]
 rw[hend _ rfl]at ho3;have hgw:w.grownBy w3 (MG (MI ⟨g,0,MH⟩) l.length c).ownBlock :=
  ⟨hg3.os.trans hg2.os,hg3.tape.trans hg2.tape,hg3.output.trans hg2.output,Nm hg2.size hg3.size,fun j hj hne=>by
   rw[hg3.block j (M8 hj hg2.size) hne];exact hg2.block j hj hne⟩
 have hcz:cs.size=6:=by rw[<-Om,hxs];rfl
 have hov:∀lb cb,(callFunc 259 #[MG (MI ⟨k,0,MH⟩) 1 1,MG (MI ⟨g,(i+1)*6,MH⟩) lb cb]).run MK w=.ok (.value (M3 Nb)) w:=fun lb cb=>by
  rw[run_callFunc_extern Tryz.func259 (by kernel_rfl) (by kernel_rfl) (by kernel_rfl) (e:=P9 #[40,40] #[4]) (by kernel_rfl),
   Lib.run_overlaps_apart w 40 4 91 U3 6 Tryz.sizeOf91 ⟨k,0,MH⟩ ⟨g,(i+1)*6,MH⟩ 1 1 lb cb hkg 91 91 6 cur.size (by simp[QO,hk,hcz]) (by simp[QO,hgc]) (by omega) (by simp[Ng,hk]) (by simp[Ng,hk])]
  rfl
 have HO:M6 (_/\_):=⟨ho3,hgw⟩;have hI1:(i:Int)<=(l.length:Int):=by omega
 have hI2:(i:Int)<=(l.length:Int)+1:=by omega
 have hne1:¬c=i:=by omega
 have hne2:¬c=i+1:=by omega
 have hne4:((i:Int) == (l.length:Int))=false:=by simp;omega
 have hrm:(l.length:Int)+1<=(c:Int):=by omega
 unfold NE at hcm;clear ho2 ho3 hg2 hg3 hown hown1 hk hend hgw hgc htk hx hspl;go_enter VO,VG
 go_wp2_with (simp only[hov])
 go_region
 go_wp2;go_ret;exact⟨g,c,rfl,HO.out.1,HO.out.2,Nt rfl⟩
theorem Aj(base:Nat)(v:M7)(l:List Lf)(x:Lf)(cs:Array M7)(hxs:cs.toList=(az x).map (MF ME))(i k:Nat)(w:MO)(hown:w.ownsRow base 91 6 v l.length (ak az l))(hbase:base<=w.heap.size)(hi:i<=l.length)(hkv:v.ownBlock≠MI k)
  (hk:w.heap[k]?=MI (MP cs 91 (0,0))) (hlen:l.length<=1000) :
  Ni MK 248 #[v,MF ME i,MG (MI ⟨k,0,MH⟩) 1 1] w (nd base v l x i w):=by
 rcases Oq i l.length with hlt|hge
 ·obtain⟨g,c,rfl,_⟩:=hown.form (by omega)
  rcases Oq c (l.length+1)with h|h
  ·exact xb base g c l x cs hxs i k w hown hbase hlt h hk hlen
  ·exact AQ base g c l x cs hxs i k w hown hbase hlt h (fun e=>hkv (by rw[e];rfl)) hk hlen
 ·obtain rfl:i=l.length:=by omega
  exact Ap base v l x cs hxs k w hown hbase hk hlen
section
open Go.Sort (grow grow_empty grow_grow alloc_eq_grow cell?_grow heap_grow_old)
theorem lu(w:MO)(q:Nat)(os:Array Obj):MQ w.heap.size w (Oj (w.drewN q) os):=
 ⟨rfl,rfl,rfl,by simp[Oj,World.drewN],fun k hk=>heap_grow_old (w.drewN q) os hk⟩
theorem fS{w:MO}{c f:M7}{T:NU}(h:w.heap[g]?=MI (MP #[a,b,c,d,e,f] T (0,0))):w.cell? ⟨g,0,MH⟩=MI a/\w.cell? ⟨g,1,MH⟩=MI b/\w.cell? ⟨g,2,MH⟩=MI c/\w.cell? ⟨g,3,MH⟩=MI d/\w.cell? ⟨g,4,MH⟩=MI e/\w.cell? ⟨g,5,MH⟩=MI f/\g<w.heap.size :=
 ⟨by simp[Nl,h],by simp[Nl,h],by simp[Nl,h],by simp[Nl,h],by simp[Nl,h],by simp[Nl,h],(Array.getElem?_eq_some_iff.1 h).1⟩
theorem bY{w:MO}{c:M7}{T:NU}(h:w.heap[g]?=MI (MP #[a,b,c,d,e] T (0,0))):w.cell? ⟨g,0,MH⟩=MI a/\w.cell? ⟨g,1,MH⟩=MI b/\w.cell? ⟨g,2,MH⟩=MI c/\w.cell? ⟨g,3,MH⟩=MI d/\w.cell? ⟨g,4,MH⟩=MI e/\g<w.heap.size :=
 ⟨by simp[Nl,h],by simp[Nl,h],by simp[Nl,h],by simp[Nl,h],by simp[Nl,h],(Array.getElem?_eq_some_iff.1 h).1⟩
abbrev dB(x1 x2 x3 x4 x5 x6:Int):Value:=Ny #[MF ME x1,MF ME x2,MF ME x3,MF ME x4,MF ME x5,MF ME x6]
abbrev gQ(x1 x2 x3 x4 x5:Int):Value:=Ny #[MF ME x1,MF ME x2,MF ME x3,MF ME x4,MF ME x5]
abbrev fj(x1 x2 x3 x4 x5 x6:Int):Obj:=MP #[MF ME x1,MF ME x2,MF ME x3,MF ME x4,MF ME x5,MF ME x6] 91
abbrev bl(x1 x2 x3 x4 x5:Int):Obj:=MP #[MF ME x1,MF ME x2,MF ME x3,MF ME x4,MF ME x5] 179
theorem cM(n lo hi:Int)(w:MO):Ni MK 175 #[MF ME n,MF ME lo,MF ME hi] w fun r w'=>r=MN (M3 (Nn (lo<=n/\n<=hi)))/\w'=w:=by
 obtain⟨ans,hans⟩:∃ans,ans=Nn (lo<=n/\n<=hi):=⟨_,rfl⟩;rw[<-hans];have H:M6 _:=hans;clear hans;cases h1:Nn (lo<=n)
 ·go_enter Wq,We
  go_wp2;go_ret;exact⟨by rw[H.out,M0 (fun h=>Nc h1 h.1)];rfl,rfl⟩
 ·cases h2:Nn (n<=hi)
  ·go_enter Wq,We
   go_wp2;go_ret;exact⟨by rw[H.out,M0 (fun h=>Nc h2 h.2)];rfl,rfl⟩
  ·go_enter Wq,We
   go_wp2;go_ret;exact⟨by rw[H.out,Nq ⟨M2 h1,M2 h2⟩];rfl,rfl⟩
theorem gp(n:Int)(w:MO):Ni MK 245 #[MF ME n] w fun r w'=>r=MN (M3 (Nn (0<=n/\n<=11)))/\w'=w:=by
 obtain⟨b,hb⟩:∃b,b=Nn (0<=n/\n<=11):=⟨_,rfl⟩;rw[<-hb];have H:M6 _:=hb;clear hb;go_enter Tryz.func245,Tryz.ntmps245
 go_wp2_with fail
 refine(cM _ _ _ _).mono ?_;rw[<-H.out];rintro r w1 ⟨rfl,rfl⟩;go_wp2;go_ret;exact⟨rfl,rfl⟩
theorem ij(n:Int)(w:MO):Ni MK 246 #[MF ME n] w fun r w'=>r=MN (M3 (Nn (1<=n/\n<=8)))/\w'=w:=by
 obtain⟨b,hb⟩:∃b,b=Nn (1<=n/\n<=8):=⟨_,rfl⟩;rw[<-hb];have H:M6 _:=hb;clear hb;go_enter Tryz.func246,Tryz.ntmps246
 go_wp2_with fail
 refine(cM _ _ _ _).mono ?_;rw[<-H.out];rintro r w1 ⟨rfl,rfl⟩;go_wp2;go_ret;exact⟨rfl,rfl⟩
theorem CP(x1 x2 x3 x4 x5 x6:Int)(w:MO):Ni MK 261 #[dB x1 x2 x3 x4 x5 x6] w fun r w'=>r=MN (M3 (Nn (iO (x1,x2,x3,x4,x5,x6))))/\w'=w.alloc (fj x1 x2 x3 x4 x5 x6):=by
 obtain⟨ans,hans⟩:∃ans,ans=Nn (iO (x1,x2,x3,x4,x5,x6)):=⟨_,rfl⟩;rw[<-hans];have H:M6 _:=hans;clear hans;cases h1:Nn (0<=x1/\x1<=11)
 case false =>
  have E:M6 (ans=Nb):=by rw[H.out];exact M0 fun h=>Nc h1 h.1
  go_enter Vr,Vm
  go_wp2_with fail
  refine(gp _ _).mono ?_;rw[h1];rintro r w1 ⟨rfl,rfl⟩;go_wp2;go_ret;exact⟨by rw[E.out];rfl,rfl⟩
 cases h2:Nn (1<=x3/\x3<=8)
 case false =>
  have E:M6 (ans=Nb):=by rw[H.out];exact M0 fun h=>Nc h2 h.2.1
  go_enter Vr,Vm
  go_wp2_with fail
  refine(gp _ _).mono ?_;rw[h1];rintro r w1 ⟨rfl,rfl⟩
  go_wp2_with fail
  refine(ij _ _).mono ?_;rw[h2];rintro r w1 ⟨rfl,rfl⟩;go_wp2;go_ret;exact⟨by rw[E.out];rfl,rfl⟩
 cases h3:Nn (0<=x4/\x4<=1099511627776)
 case false =>
  have E:M6 (ans=Nb):=by rw[H.out];exact M0 fun h=>Nc h3 h.2.2.1
  go_enter Vr,Vm
  go_wp2_with fail
  refine(gp _ _).mono ?_;rw[h1];rintro r w1 ⟨rfl,rfl⟩
  go_wp2_with fail
  refine(ij _ _).mono ?_;rw[h2];rintro r w1 ⟨rfl,rfl⟩
  go_wp2_with fail
  refine(cM _ _ _ _).mono ?_;rw[h3];rintro r w1 ⟨rfl,rfl⟩;go_wp2;go_ret;exact⟨by rw[E.out];rfl,rfl⟩
 cases h4:Nn (0<=x5/\x5<=1099511628276)
 case false =>
  have E:M6 (ans=Nb):=by rw[H.out];exact M0 fun h=>Nc h4 h.2.2.2.1
  go_enter Vr,Vm
  go_wp2_with fail
  refine(gp _ _).mono ?_;rw[h1];rintro r w1 ⟨rfl,rfl⟩
  go_wp2_with fail
  refine(ij _ _).mono ?_;rw[h2];rintro r w1 ⟨rfl,rfl⟩
  go_wp2_with fail
  refine(cM _ _ _ _).mono ?_;rw[h3];rintro r w1 ⟨rfl,rfl⟩
  go_wp2_with fail
  refine(cM _ _ _ _).mono ?_;rw[h4];rintro r w1 ⟨rfl,rfl⟩;go_wp2;go_ret;exact⟨by rw[E.out];rfl,rfl⟩
 cases h5:Nn (0<=x6/\x6<=1048576)
 case false =>
  have E:M6 (ans=Nb):=by rw[H.out];exact M0 fun h=>Nc h5 h.2.2.2.2
  go_enter Vr,Vm
  go_wp2_with fail
  refine(gp _ _).mono ?_;rw[h1];rintro r w1 ⟨rfl,rfl⟩
  go_wp2_with fail
  refine(ij _ _).mono ?_;rw[h2];rintro r w1 ⟨rfl,rfl⟩
  go_wp2_with fail
  refine(cM _ _ _ _).mono ?_;rw[h3];rintro r w1 ⟨rfl,rfl⟩
  go_wp2_with fail
  refine(cM _ _ _ _).mono ?_;rw[h4];rintro r w1 ⟨rfl,rfl⟩
  go_wp2_with fail
  refine(cM _ _ _ _).mono ?_;rw[h5];rintro r w1 ⟨rfl,rfl⟩;go_wp2;go_ret;exact⟨by rw[E.out];rfl,rfl⟩
 have E:M6 (ans=Nw):=by rw[H.out];exact Nq ⟨M2 h1,M2 h2,M2 h3,M2 h4,M2 h5⟩
 go_enter Vr,Vm
 go_wp2_with fail
 refine(gp _ _).mono ?_;rw[h1];rintro r w1 ⟨rfl,rfl⟩
 go_wp2_with fail
 refine(ij _ _).mono ?_;rw[h2];rintro r w1 ⟨rfl,rfl⟩
 go_wp2_with fail
 refine(cM _ _ _ _).mono ?_;rw[h3];rintro r w1 ⟨rfl,rfl⟩
 go_wp2_with fail
 refine(cM _ _ _ _).mono ?_;rw[h4];rintro r w1 ⟨rfl,rfl⟩
 go_wp2_with fail
 refine(cM _ _ _ _).mono ?_;rw[h5];rintro r w1 ⟨rfl,rfl⟩;go_wp2;go_ret;exact⟨by rw[E.out];rfl,rfl⟩
theorem qE(n m:Int)(w:MO):Ni MK 249 #[MF ME n,MF ME m] w fun r w'=>r=MN (dB n 1 m 0 0 0)/\w'=w.alloc (fj n 1 m 0 0 0):=by
 go_enter Tryz.func249,Tryz.ntmps249;go_wp2;exact Np (v:=dB n 1 m 0 0 0) (ey Tryz.results249 rfl (aI (P:=MK) (cs:=[MF ME n,MF ME 1,MF ME m,MF ME 0,MF ME 0,MF ME 0]) (M1 _ _) Tryz.underlying91 rfl (by kernel_rfl))) rfl ⟨rfl,rfl⟩
theorem js(w:MO)(o:Obj):∃q os,w.alloc o=Oj (w.drewN q) os:=⟨0,#[o],rfl⟩
theorem gh{w w':MO}(h:∃q os,w'=Oj (w.drewN q) os)(q:Nat)(os:Array Obj):∃q' os',Oj (w'.drewN q) os=Oj (w.drewN q') os':=by
 obtain⟨q1,os1,rfl⟩:=h;exact⟨q1+q,os1++os,by show Oj (Oj ((w.drewN q1).drewN q) os1) os=_;rw[grow_grow,World.drewN_drewN]⟩
theorem kB{w w':MO}(h:∃q os,w'=Oj (w.drewN q) os):MQ w.heap.size w w':=by
 obtain⟨q,os,rfl⟩:=h;exact lu w q os
theorem nF(x1 x2 x3 x4 x5 x6:Int)(w:MO):Ni MK 261 #[dB x1 x2 x3 x4 x5 x6] w fun r w'=>r=MN (M3 (Nn (iO (x1,x2,x3,x4,x5,x6))))/\∃q os,w'=Oj (w.drewN q) os :=
 (CP x1 x2 x3 x4 x5 x6 w).mono fun _ _ ⟨h1,h2⟩=>⟨h1,by rw[h2];exact js _ _⟩
theorem xi(n m:Int)(w:MO):Ni MK 249 #[MF ME n,MF ME m] w fun r w'=>r=MN (dB n 1 m 0 0 0)/\∃q os,w'=Oj (w.drewN q) os :=
 (qE n m w).mono fun _ _ ⟨h1,h2⟩=>⟨h1,by rw[h2];exact js _ _⟩
theorem xT(x1 x3 x4 x5 x6:Int)(w:MO):Ni MK 251 #[dB x1 1 x3 x4 x5 x6] w fun r w'=>r=MN (M3 (Nn (dx (x1,1,x3,x4,x5,x6))))/\∃q os,w'=Oj (w.drewN q) os:=by
 obtain⟨ans,hans⟩:∃ans,ans=Nn (dx (x1,1,x3,x4,x5,x6)):=⟨_,rfl⟩;rw[<-hans];have H:M6 _:=hans;clear hans;obtain⟨bd,hbd⟩:∃bd,bd=Nn (iO (x1,1,x3,x4,x5,x6)):=⟨_,rfl⟩;have HI:M6 (∀W,Ni MK 261 #[dB x1 1 x3 x4 x5 x6] W fun r w'=>r=MN (M3 bd)/\∃q os,w'=Oj (W.drewN q) os):=fun W=>by rw[hbd];exact nF _ _ _ _ _ _ W
 have HJ:M6 (∀W,Ni MK 249 #[MF ME x1,MF ME x3] W fun r w'=>r=MN (dB x1 1 x3 0 0 0)/\∃q os,w'=Oj (W.drewN q) os):=fun W=>xi _ _ W
 obtain⟨W0,hW0⟩:∃W0,W0=w.alloc (fj x1 1 x3 x4 x5 x6):=⟨_,rfl⟩;have hR:W0.heap[w.heap.size]?=MI (fj x1 1 x3 x4 x5 x6):=by rw[hW0];exact M1 _ _
 have hG:∃q os,W0=Oj (w.drewN q) os:=by rw[hW0];exact js _ _
 obtain⟨c0,c1,c2,c3,c4,c5,hlt⟩:=fS hR;have k0:∀n' os,(Oj (W0.drewN n') os).cell? ⟨w.heap.size,0,MH⟩=MI (MF ME x1):=Ob (MX _ _ c0) c0;have k1:∀n' os,(Oj (W0.drewN n') os).cell? ⟨w.heap.size,1,MH⟩=MI (MF ME 1):=Ob (MX _ _ c1) c1;have k2:∀n' os,(Oj (W0.drewN n') os).cell? ⟨w.heap.size,2,MH⟩=MI (MF ME x3):=Ob (MX _ _ c2) c2;have k3:∀n' os,(Oj (W0.drewN n') os).cell? ⟨w.heap.size,3,MH⟩=MI (MF ME x4):=Ob (MX _ _ c3) c3;have k4:∀n' os,(Oj (W0.drewN n') os).cell? ⟨w.heap.size,4,MH⟩=MI (MF ME x5):=Ob (MX _ _ c4) c4;have k5:∀n' os,(Oj (W0.drewN n') os).cell? ⟨w.heap.size,5,MH⟩=MI (MF ME x6):=Ob (MX _ _ c5) c5;have H0:M6 (_/\_):=⟨hW0,hG⟩;have HB:M6 _:=hbd;clear hW0 hG hR hbd;cases bd
 case false =>
  have E:M6 (ans=Nb):=by rw[H.out];exact M0 fun h=>Nc HB.out.symm h.1
  clear H HB;go_enter U7,U4
  go_wp2_with fail
  rw[<-H0.out.1];refine NQ bB (by kernel_rfl) ?_
  repeat (first|go_big_quiet_skip|quiet_step (first|(go_at_call 261;exact NZ (HI.out _))|(go_at_call 249;exact Calls.grown_of (HJ.out _))))
  refine Oy ?_;intro _ hw';obtain⟨⟨nq,osq⟩,hw''⟩:=hw';subst hw'';have HB2:M6 _:=gh H0.out.2 nq osq;generalize Oj (W0.drewN nq) osq=w3 at HB2⊢;go_wp2;go_ret;exact⟨by rw[E.out];rfl,HB2.out⟩
 by_cases h4:x4=0
 case neg =>
  have E:M6 (ans=Nb):=by
   rw[H.out];refine M0 fun h=>?_
   rcases h.2 with h|h|h|h
   ·exact h4 h.2.1
   ·exact absurd h.1 (show ¬(1:Int)=2 by decide)
   ·exact absurd h (show ¬(1:Int)=3 by decide)
   ·exact absurd h (show ¬(1:Int)=4 by decide)
  clear H HB;go_enter U7,U4
  go_wp2_with fail
  rw[<-H0.out.1];refine NQ bB (by kernel_rfl) ?_
  repeat (first|go_big_quiet_skip|quiet_step (first|(go_at_call 261;exact NZ (HI.out _))|(go_at_call 249;exact NZ (HJ.out _))))
  refine Oy ?_;intro _ hw';obtain⟨⟨nq,osq⟩,hw''⟩:=hw';subst hw'';have HB2:M6 _:=gh H0.out.2 nq osq;generalize Oj (W0.drewN nq) osq=w3 at HB2⊢;go_wp2;go_ret;exact⟨by rw[E.out];rfl,HB2.out⟩
 subst h4
 by_cases h5:x5=0
 case neg =>
  have E:M6 (ans=Nb):=by
   rw[H.out];refine M0 fun h=>?_
   rcases h.2 with h|h|h|h
   ·exact h5 h.2.2.1
   ·exact absurd h.1 (show ¬(1:Int)=2 by decide)
   ·exact absurd h (show ¬(1:Int)=3 by decide)
   ·exact absurd h (show ¬(1:Int)=4 by decide)
  clear H HB;go_enter U7,U4
  go_wp2_with fail
  rw[<-H0.out.1];refine NQ bB (by kernel_rfl) ?_
  repeat (first|go_big_quiet_skip|quiet_step (first|(go_at_call 261;exact NZ (HI.out _))|(go_at_call 249;exact NZ (HJ.out _))))
  refine Oy ?_;intro _ hw';obtain⟨⟨nq,osq⟩,hw''⟩:=hw';subst hw'';have HB2:M6 _:=gh H0.out.2 nq osq;generalize Oj (W0.drewN nq) osq=w3 at HB2⊢;go_wp2;go_ret;exact⟨by rw[E.out];rfl,HB2.out⟩
 subst h5
 by_cases h6:x6=0
 case neg =>
  have E:M6 (ans=Nb):=by
   rw[H.out];refine M0 fun h=>?_
   rcases h.2 with h|h|h|h
   ·exact h6 h.2.2.2
   ·exact absurd h.1 (show ¬(1:Int)=2 by decide)
   ·exact absurd h (show ¬(1:Int)=3 by decide)
   ·exact absurd h (show ¬(1:Int)=4 by decide)
  clear H HB;go_enter U7,U4
  go_wp2_with fail
  rw[<-H0.out.1];refine NQ bB (by kernel_rfl) ?_
  repeat (first|go_big_quiet_skip|quiet_step (first|(go_at_call 261;exact NZ (HI.out _))|(go_at_call 249;exact NZ (HJ.out _))))
  refine Oy ?_;intro _ hw';obtain⟨⟨nq,osq⟩,hw''⟩:=hw';subst hw'';have HB2:M6 _:=gh H0.out.2 nq osq;generalize Oj (W0.drewN nq) osq=w3 at HB2⊢;go_wp2;go_ret;exact⟨by rw[E.out];rfl,HB2.out⟩
 subst h6;have E:M6 (ans=Nw):=by rw[H.out];exact Nq ⟨M2 HB.out.symm,Nt ⟨rfl,rfl,rfl,rfl⟩⟩
 clear H HB;go_enter U7,U4
 go_wp2_with fail
 rw[<-H0.out.1];refine NQ bB (by kernel_rfl) ?_
 repeat (first|go_big_quiet_skip|quiet_step (first|(go_at_call 261;exact NZ (HI.out _))|(go_at_call 249;exact NZ (HJ.out _))))
 refine Oy ?_;intro _ hw';obtain⟨⟨nq,osq⟩,hw''⟩:=hw';subst hw'';have HB2:M6 _:=gh H0.out.2 nq osq;generalize Oj (W0.drewN nq) osq=w3 at HB2⊢;go_wp2;go_ret;exact⟨by rw[E.out];rfl,HB2.out⟩
theorem FP(x1 x3 x4 x5 x6:Int)(w:MO):Ni MK 251 #[dB x1 2 x3 x4 x5 x6] w fun r w'=>r=MN (M3 (Nn (dx (x1,2,x3,x4,x5,x6))))/\∃q os,w'=Oj (w.drewN q) os:=by
 obtain⟨ans,hans⟩:∃ans,ans=Nn (dx (x1,2,x3,x4,x5,x6)):=⟨_,rfl⟩;rw[<-hans];have H:M6 _:=hans;clear hans;obtain⟨bd,hbd⟩:∃bd,bd=Nn (iO (x1,2,x3,x4,x5,x6)):=⟨_,rfl⟩;have HI:M6 (∀W,Ni MK 261 #[dB x1 2 x3 x4 x5 x6] W fun r w'=>r=MN (M3 bd)/\∃q os,w'=Oj (W.drewN q) os):=fun W=>by rw[hbd];exact nF _ _ _ _ _ _ W
 obtain⟨W0,hW0⟩:∃W0,W0=w.alloc (fj x1 2 x3 x4 x5 x6):=⟨_,rfl⟩;have hR:W0.heap[w.heap.size]?=MI (fj x1 2 x3 x4 x5 x6):=by rw[hW0];exact M1 _ _
 have hG:∃q os,W0=Oj (w.drewN q) os:=by rw[hW0];exact js _ _
 obtain⟨c0,c1,c2,c3,c4,c5,hlt⟩:=fS hR;have H0:M6 (_/\_/\_):=⟨hW0,hG,hR⟩;have HB:M6 _:=hbd;clear hW0 hG hR hbd;cases bd
 case false =>
  have E:M6 (ans=Nb):=by rw[H.out];exact M0 fun h=>Nc HB.out.symm h.1
  clear H HB;go_enter U7,U4
  go_wp2_with fail
  rw[<-H0.out.1];refine(HI.out _).mono ?_;rintro r w1 ⟨rfl,hg⟩;obtain⟨c0,c1,c2,c3,c4,c5,hlt⟩:=fS (af H0.out.2.2 (kB hg));obtain⟨q,os,rfl⟩:=hg;have HB2:M6 _:=gh H0.out.2.1 q os;generalize Oj (W0.drewN q) os=w3 at *;go_wp2;go_ret;exact⟨by rw[E.out];rfl,HB2.out⟩
 by_cases h5:x5=0
 case neg =>
  have e5:(x5 == 0)=false:=by simpa using h5
  have E:M6 (ans=Nb):=by
   rw[H.out];refine M0 fun h=>?_
   rcases h.2 with h|h|h|h
   ·exact absurd h.1 (show ¬(2:Int)=1 by decide)
   ·exact h5 h.2.1
   ·exact absurd h (show ¬(2:Int)=3 by decide)
   ·exact absurd h (show ¬(2:Int)=4 by decide)
  clear H HB;go_enter U7,U4
  go_wp2_with fail
  rw[<-H0.out.1];refine(HI.out _).mono ?_;rintro r w1 ⟨rfl,hg⟩;obtain⟨c0,c1,c2,c3,c4,c5,hlt⟩:=fS (af H0.out.2.2 (kB hg));obtain⟨q,os,rfl⟩:=hg;have HB2:M6 _:=gh H0.out.2.1 q os;generalize Oj (W0.drewN q) os=w3 at *;go_wp2;go_ret;exact⟨by rw[E.out];rfl,HB2.out⟩
 subst h5
 by_cases h6:x6=0
 case neg =>
  have e6:(x6 == 0)=false:=by simpa using h6
  have E:M6 (ans=Nb):=by
   rw[H.out];refine M0 fun h=>?_
   rcases h.2 with h|h|h|h
   ·exact absurd h.1 (show ¬(2:Int)=1 by decide)
   ·exact h6 h.2.2
   ·exact absurd h (show ¬(2:Int)=3 by decide)
   ·exact absurd h (show ¬(2:Int)=4 by decide)
  clear H HB;go_enter U7,U4
  go_wp2_with fail
  rw[<-H0.out.1];refine(HI.out _).mono ?_;rintro r w1 ⟨rfl,hg⟩;obtain⟨c0,c1,c2,c3,c4,c5,hlt⟩:=fS (af H0.out.2.2 (kB hg));obtain⟨q,os,rfl⟩:=hg;have HB2:M6 _:=gh H0.out.2.1 q os;generalize Oj (W0.drewN q) os=w3 at *;go_wp2;go_ret;exact⟨by rw[E.out];rfl,HB2.out⟩
 subst h6;have E:M6 (ans=Nw):=by rw[H.out];exact Nq ⟨M2 HB.out.symm,NF (Nt ⟨rfl,rfl,rfl⟩)⟩
 clear H HB;go_enter U7,U4
 go_wp2_with fail
 rw[<-H0.out.1];refine(HI.out _).mono ?_;rintro r w1 ⟨rfl,hg⟩;obtain⟨c0,c1,c2,c3,c4,c5,hlt⟩:=fS (af H0.out.2.2 (kB hg));obtain⟨q,os,rfl⟩:=hg;have HB2:M6 _:=gh H0.out.2.1 q os;generalize Oj (W0.drewN q) os=w3 at *;go_wp2;go_ret;exact⟨by rw[E.out];rfl,HB2.out⟩
theorem Eu(x1 x3 x4 x5 x6:Int)(w:MO):Ni MK 251 #[dB x1 3 x3 x4 x5 x6] w fun r w'=>r=MN (M3 (Nn (dx (x1,3,x3,x4,x5,x6))))/\∃q os,w'=Oj (w.drewN q) os:=by
 obtain⟨ans,hans⟩:∃ans,ans=Nn (dx (x1,3,x3,x4,x5,x6)):=⟨_,rfl⟩;rw[<-hans];have H:M6 _:=hans;clear hans;obtain⟨bd,hbd⟩:∃bd,bd=Nn (iO (x1,3,x3,x4,x5,x6)):=⟨_,rfl⟩;have HI:M6 (∀W,Ni MK 261 #[dB x1 3 x3 x4 x5 x6] W fun r w'=>r=MN (M3 bd)/\∃q os,w'=Oj (W.drewN q) os):=fun W=>by rw[hbd];exact nF _ _ _ _ _ _ W
 obtain⟨W0,hW0⟩:∃W0,W0=w.alloc (fj x1 3 x3 x4 x5 x6):=⟨_,rfl⟩;have hR:W0.heap[w.heap.size]?=MI (fj x1 3 x3 x4 x5 x6):=by rw[hW0];exact M1 _ _
 have hG:∃q os,W0=Oj (w.drewN q) os:=by rw[hW0];exact js _ _
 obtain⟨c0,c1,c2,c3,c4,c5,hlt⟩:=fS hR;have H0:M6 (_/\_/\_):=⟨hW0,hG,hR⟩;have HB:M6 _:=hbd;clear hW0 hG hR hbd;have E:M6 (ans=bd):=by
  rw[H.out,HB.out];exact decide_eq_decide.2 ⟨fun h=>h.1,fun h=>⟨h,NF (NF (Nt rfl))⟩⟩
 clear H HB;go_enter U7,U4
 go_wp2_with fail
 rw[<-H0.out.1];refine(HI.out _).mono ?_;rintro r w1 ⟨rfl,hg⟩;obtain⟨c0,c1,c2,c3,c4,c5,hlt⟩:=fS (af H0.out.2.2 (kB hg));obtain⟨q,os,rfl⟩:=hg;have HB2:M6 _:=gh H0.out.2.1 q os;generalize Oj (W0.drewN q) os=w3 at *;go_wp2;go_ret;exact⟨by rw[E.out];rfl,HB2.out⟩
theorem yV(x1 x3 x4 x5 x6:Int)(w:MO):Ni MK 251 #[dB x1 4 x3 x4 x5 x6] w fun r w'=>r=MN (M3 (Nn (dx (x1,4,x3,x4,x5,x6))))/\∃q os,w'=Oj (w.drewN q) os:=by
 obtain⟨ans,hans⟩:∃ans,ans=Nn (dx (x1,4,x3,x4,x5,x6)):=⟨_,rfl⟩;rw[<-hans];have H:M6 _:=hans;clear hans;obtain⟨bd,hbd⟩:∃bd,bd=Nn (iO (x1,4,x3,x4,x5,x6)):=⟨_,rfl⟩;have HI:M6 (∀W,Ni MK 261 #[dB x1 4 x3 x4 x5 x6] W fun r w'=>r=MN (M3 bd)/\∃q os,w'=Oj (W.drewN q) os):=fun W=>by rw[hbd];exact nF _ _ _ _ _ _ W
 obtain⟨W0,hW0⟩:∃W0,W0=w.alloc (fj x1 4 x3 x4 x5 x6):=⟨_,rfl⟩;have hR:W0.heap[w.heap.size]?=MI (fj x1 4 x3 x4 x5 x6):=by rw[hW0];exact M1 _ _
 have hG:∃q os,W0=Oj (w.drewN q) os:=by rw[hW0];exact js _ _
 obtain⟨c0,c1,c2,c3,c4,c5,hlt⟩:=fS hR;have H0:M6 (_/\_/\_):=⟨hW0,hG,hR⟩;have HB:M6 _:=hbd;clear hW0 hG hR hbd;have E:M6 (ans=bd):=by
  rw[H.out,HB.out];exact decide_eq_decide.2 ⟨fun h=>h.1,fun h=>⟨h,NF (NF (NF rfl))⟩⟩
 clear H HB;go_enter U7,U4
 go_wp2_with fail
 rw[<-H0.out.1];refine(HI.out _).mono ?_;rintro r w1 ⟨rfl,hg⟩;obtain⟨c0,c1,c2,c3,c4,c5,hlt⟩:=fS (af H0.out.2.2 (kB hg));obtain⟨q,os,rfl⟩:=hg;have HB2:M6 _:=gh H0.out.2.1 q os;generalize Oj (W0.drewN q) os=w3 at *;go_wp2;go_ret;exact⟨by rw[E.out];rfl,HB2.out⟩
theorem CE(x1 x2 x3 x4 x5 x6:Int)(w:MO):Ni MK 251 #[dB x1 x2 x3 x4 x5 x6] w fun r w'=>r=MN (M3 (Nn (dx (x1,x2,x3,x4,x5,x6))))/\∃q os,w'=Oj (w.drewN q) os:=by
 by_cases h1:x2=1
 ·subst h1;exact xT _ _ _ _ _ _
 by_cases h2:x2=2
 ·subst h2;exact FP _ _ _ _ _ _
 by_cases h3:x2=3
 ·subst h3;exact Eu _ _ _ _ _ _
 by_cases h4:x2=4
 ·subst h4;exact yV _ _ _ _ _ _
 have E:M6 (Nn (dx (x1,x2,x3,x4,x5,x6))=Nb):=by
  refine M0 fun h=>?_
  rcases h.2 with h|h|h|h
  ·exact h1 h.1
  ·exact h2 h.1
  ·exact h3 h
  ·exact h4 h
 have e1:(x2 == 1)=false:=by simpa using h1
 have e2:(x2 == 2)=false:=by simpa using h2
 have e3:(x2 == 3)=false:=by simpa using h3
 have e4:(x2 == 4)=false:=by simpa using h4
 rw[E.out];go_enter U7,U4;go_wp2;go_ret;exact⟨rfl,js _ _⟩
end
section
open Go.Sort (grow grow_empty grow_grow alloc_eq_grow cell?_grow heap_grow_old)
abbrev jH(w:MO)(v:M7)(L:List Lf):Prop:=eD az w v L
abbrev lE(w:MO)(v:M7)(R:List Rq):Prop:=eD fY w v R
theorem jH.F6{w:MO}{l:List Lf}(h:jH w v l):
  ∃a cap,v=MG a l.length cap/\l.length<=cap/\cap<=NE/\∀i (hi:i<l.length),∃b off,a=MI ⟨b,off,MH⟩/\b<w.heap.size/\w.cell? ⟨b,off+i*6,MH⟩=MI (MF ME l[i].1)/\w.cell? ⟨b,off+i*6+1,MH⟩=MI (MF ME l[i].2.1)/\w.cell? ⟨b,off+i*6+2,MH⟩=MI (MF ME l[i].2.2.1)/\w.cell? ⟨b,off+i*6+3,MH⟩=MI (MF ME l[i].2.2.2.1)/\w.cell? ⟨b,off+i*6+4,MH⟩=MI (MF ME l[i].2.2.2.2.1)/\w.cell? ⟨b,off+i*6+5,MH⟩=MI (MF ME l[i].2.2.2.2.2):=by
 obtain⟨a,cap,h1,h2,h3,h4⟩:=eD.F6 bg h;refine⟨a,cap,h1,h2,h3,fun i hi=>?_⟩;obtain⟨b,off,e,hb,hc⟩:=h4 i hi;exact⟨b,off,e,hb,hc 0 (by omega),hc 1 (by omega),hc 2 (by omega),hc 3 (by omega),hc 4 (by omega),hc 5 (by omega)⟩
theorem lE.F6{w:MO}{l:List Rq}(h:lE w v l):
  ∃a cap,v=MG a l.length cap/\l.length<=cap/\cap<=NE/\∀i (hi:i<l.length),∃b off,a=MI ⟨b,off,MH⟩/\b<w.heap.size/\w.cell? ⟨b,off+i*5,MH⟩=MI (MF ME l[i].1)/\w.cell? ⟨b,off+i*5+1,MH⟩=MI (MF ME l[i].2.1)/\w.cell? ⟨b,off+i*5+2,MH⟩=MI (MF ME l[i].2.2.1)/\w.cell? ⟨b,off+i*5+3,MH⟩=MI (MF ME l[i].2.2.2.1)/\w.cell? ⟨b,off+i*5+4,MH⟩=MI (MF ME l[i].2.2.2.2):=by
 obtain⟨a,cap,h1,h2,h3,h4⟩:=eD.F6 iH h;refine⟨a,cap,h1,h2,h3,fun i hi=>?_⟩;obtain⟨b,off,e,hb,hc⟩:=h4 i hi;exact⟨b,off,e,hb,hc 0 (by omega),hc 1 (by omega),hc 2 (by omega),hc 3 (by omega),hc 4 (by omega)⟩
theorem zO{L:List Lf}(hk:k<L.length)(h1:fy (L.take k))(h2:dx L[k])(h3:∀j,j+1=k->∀hj:j<L.length,L[j].1<L[k].1):fy (L.take (k+1)):=by
 rw[M9 hk];refine⟨fun x hx=>?_,Dn h1.2 fun y hy=>?_⟩
 ·rcases List.mem_append.1 hx with hx|hx
  ·exact h1.1 x hx
  ·simp at hx
   rw[hx];exact h2
 ·cases k with
  |zero=>simp at hy
  |succ j =>
   rw[M9 (by omega:j<L.length)]at hy;rw[List.getLast?_append]at hy;simp at hy;rw[<-hy];exact h3 j rfl (by omega)
theorem xS{L:List Lf}(hk:k<L.length)(h:¬dx L[k]\/∃j,j+1=k/\∃hj:j<L.length,¬L[j].1<L[k].1):¬fy L:=by
 rintro⟨h1,h2⟩;rcases h with h|⟨j,rfl,hj,h⟩
 ·exact h (h1 _ (Nk hk))
 ·exact h (List.pairwise_iff_getElem.1 h2 j (j+1) hj hk (by omega))
theorem xf(v:M7)(L:List Lf)(w:MO)(hv:jH w v L) :
  Ni MK 228 #[v] w fun r w'=>r=MN (M3 (Nn (fy L)))/\MQ w.heap.size w w':=by
 obtain⟨a,ca,rfl,hca,hma,pa⟩:=hv.F6;unfold NE at hma;obtain⟨ans,hans⟩:∃ans,ans=Nn (fy L):=⟨_,rfl⟩;rw[<-hans];have H:M6 _:=hans;clear hv hans;go_enter S6,SE;go_wp2
 go_loopw [7] (fun i wr=>∃k:Nat,i=MF ME k/\k<=L.length/\fy (L.take k)/\MQ w.heap.size w wr) (fun i _=>L.length-(On i).toNat)
 case atStart=>exact⟨0,rfl,Nx _,by rw[List.take_zero];exact⟨by simp,.nil⟩,MY _ _⟩
 case round =>
  obtain⟨k,rfl,hk,hall,hbr⟩:=hrel
  by_cases hlt:k<L.length
  ·obtain⟨b1,o1,rfl,hb1,c1,c2,c3,c4,c5,c6⟩:=pa k hlt
   have e1:=(hbr.cell (p:=⟨b1,o1+k*6,MH⟩) hb1).trans c1;have e2:=(hbr.cell (p:=⟨b1,o1+k*6+1,MH⟩) hb1).trans c2;have e3:=(hbr.cell (p:=⟨b1,o1+k*6+2,MH⟩) hb1).trans c3;have e4:=(hbr.cell (p:=⟨b1,o1+k*6+3,MH⟩) hb1).trans c4;have e5:=(hbr.cell (p:=⟨b1,o1+k*6+4,MH⟩) hb1).trans c5;have e6:=(hbr.cell (p:=⟨b1,o1+k*6+5,MH⟩) hb1).trans c6;have hkI:(k:Int)<(L.length:Int):=by omega
   have hnx:=fun(h2:dx L[k]) (h3:∀j,j+1=k->∀hj:j<L.length,L[j].1<L[k].1)=>zO hlt hall h2 h3
   have hbad:=fun h=>xS (L:=L) hlt h
   have hpv:∀j,j+1=k->∃y:Int,wr.cell? ⟨b1,o1+j*6,MH⟩=MI (MF ME y)/\∃hj:j<L.length,y=L[j].1:=fun j hj=>by
    obtain⟨b2,o2,he,hb2,d1,_⟩:=pa j (by omega);cases he;exact⟨_,(hbr.cell (p:=⟨b1,o1+j*6,MH⟩) hb1).trans d1,by omega,rfl⟩
   obtain⟨x,hxk⟩:∃x,x=L[k]:=⟨_,rfl⟩;rw[<-hxk]at e1 e2 e3 e4 e5 e6 hnx hbad;clear hxk;obtain⟨x1,x2,x3,x4,x5,x6⟩:=x;have HX:M6 (_/\_/\_):=⟨hnx,hbad,hbr⟩;obtain⟨W0,hW0⟩:∃W0,W0=wr.alloc (fj x1 x2 x3 x4 x5 x6):=⟨_,rfl⟩;have hR:W0.heap[wr.heap.size]?=MI (fj x1 x2 x3 x4 x5 x6):=by rw[hW0];exact M1 _ _
   have hB0:MQ wr.heap.size wr W0:=by rw[hW0];exact ai _
   obtain⟨d0,d1,d2,d3,d4,d5,hlt0⟩:=fS hR;obtain⟨bd,hbd⟩:∃bd,bd=Nn (dx (x1,x2,x3,x4,x5,x6)):=⟨_,rfl⟩;have HI:M6 (∀W,Ni MK 251 #[dB x1 x2 x3 x4 x5 x6] W fun r w'=>r=MN (M3 bd)/\∃q os,w'=Oj (W.drewN q) os):=fun W=>by rw[hbd];exact CE _ _ _ _ _ _ W
   have k0:∀n' os,(Oj (W0.drewN n') os).cell? ⟨wr.heap.size,0,MH⟩=MI (MF ME x1):=Ob (MX _ _ d0) d0;have k1:∀n' os,(Oj (W0.drewN n') os).cell? ⟨wr.heap.size,1,MH⟩=MI (MF ME x2):=Ob (MX _ _ d1) d1;have k2:∀n' os,(Oj (W0.drewN n') os).cell? ⟨wr.heap.size,2,MH⟩=MI (MF ME x3):=Ob (MX _ _ d2) d2;have k3:∀n' os,(Oj (W0.drewN n') os).cell? ⟨wr.heap.size,3,MH⟩=MI (MF ME x4):=Ob (MX _ _ d3) d3;have k4:∀n' os,(Oj (W0.drewN n') os).cell? ⟨wr.heap.size,4,MH⟩=MI (MF ME x5):=Ob (MX _ _ d4) d4;have k5:∀n' os,(Oj (W0.drewN n') os).cell? ⟨wr.heap.size,5,MH⟩=MI (MF ME x6):=Ob (MX _ _ d5) d5;have H0:M6 (_/\_/\_):=⟨hW0,hB0,hbd⟩;clear hnx hbad hall hbr c1 c2 c3 c4 c5 c6 hb1 pa hW0 hbd hR;cases bd
   case false =>
    have E:M6 (ans=Nb):=by rw[H.out];exact M0 (HX.out.2.1 (Nt (Nc H0.out.2.2.symm)))
    clear hpv hB0
    go_wp2_with fail
    rw[<-H0.out.1];refine NQ bB (by kernel_rfl) ?_
    repeat (first|go_big_quiet_skip|quiet_step (first|(go_at_call 251;exact NZ (HI.out _))))
    refine Oy ?_;intro _ hw';obtain⟨⟨nq,osq⟩,hw''⟩:=hw';subst hw'';have HB2:M6 (MQ w.heap.size w (Oj (W0.drewN nq) osq)):=(HX.out.2.2.trans (H0.out.2.1.mono HX.out.2.2.size)).trans ((lu W0 nq osq).mono (Nm HX.out.2.2.size H0.out.2.1.size));generalize Oj (W0.drewN nq) osq=w3 at HB2⊢;go_wp2;go_ret;exact⟨by rw[E.out];rfl,HB2.out⟩
   by_cases h0:k=0
   ·have HK:M6 _:=h0
    have hpos:Nn (0<k)=false:=M0 (by omega);clear hpv hB0 h0
    go_wp2_with fail
    rw[<-H0.out.1];refine NQ bB (by kernel_rfl) ?_
    repeat (first|go_big_quiet_skip|quiet_step (first|(go_at_call 251;exact NZ (HI.out _))))
    refine Oy ?_;intro _ hw';obtain⟨⟨nq,osq⟩,hw''⟩:=hw';subst hw'';have HB2:M6 (MQ w.heap.size w (Oj (W0.drewN nq) osq)):=(HX.out.2.2.trans (H0.out.2.1.mono HX.out.2.2.size)).trans ((lu W0 nq osq).mono (Nm HX.out.2.2.size H0.out.2.1.size));generalize Oj (W0.drewN nq) osq=w3 at HB2⊢;go_wp2
    go_roundw
    case rel=>exact⟨k+1,by simp,hlt,HX.out.1 (M2 H0.out.2.2.symm) (fun j hj=>absurd hj (by have:=HK.out;omega)),HB2.out⟩
    case measure=>simp[On];omega
   ·obtain⟨j,hj⟩:∃j,j+1=k:=⟨k-1,by omega⟩
    obtain⟨y,f1,hjl,hy⟩:=hpv j hj;have f2:W0.cell? ⟨b1,o1+j*6,MH⟩=MI (MF ME y):=(hB0.cell (p:=⟨b1,o1+j*6,MH⟩) (MX _ _ f1)).trans f1;have f3:∀n' os,(Oj (W0.drewN n') os).cell? ⟨b1,o1+j*6,MH⟩=MI (MF ME y):=Ob (MX _ _ f2) f2;have hjI:(j:Int)<(L.length:Int):=by omega
    have hw1:IntKind.i64.wrap ((k:Int)-1)=(j:Int):=by rw[Ow];omega
    have hpos:Nn (0<k)=true:=Nq (by omega);have HY:M6 (_/\_):=⟨hy,hj⟩;clear hpv hB0 hy f1 f2 hj h0;cases hc:Nn (x1<=y)
    ·have E:M6 _:=Nc hc
     go_wp2_with fail
     rw[<-H0.out.1];refine NQ bB (by kernel_rfl) ?_
     repeat (first|go_big_quiet_skip|quiet_step (first|(go_at_call 251;exact NZ (HI.out _))))
     refine Oy ?_;intro _ hw';obtain⟨⟨nq,osq⟩,hw''⟩:=hw';subst hw'';have HB2:M6 (MQ w.heap.size w (Oj (W0.drewN nq) osq)):=(HX.out.2.2.trans (H0.out.2.1.mono HX.out.2.2.size)).trans ((lu W0 nq osq).mono (Nm HX.out.2.2.size H0.out.2.1.size));generalize Oj (W0.drewN nq) osq=w3 at HB2⊢;go_wp2
     go_roundw
     case rel=>exact⟨k+1,by simp,hlt,HX.out.1 (M2 H0.out.2.2.symm) (fun i hi hil=>by
      have e:i=j:=by have:=HY.out.2;omega
      subst e;have q1:=HY.out.1;have q2:=E.out;show L[i].1<x1;rw[<-q1];exact Int.lt_of_not_ge q2),HB2.out⟩
     case measure=>simp[On];omega
    ·have E:M6 (ans=Nb):=by
      rw[H.out];refine M0 (HX.out.2.1 (NF ⟨j,HY.out.2,hjl,?_⟩));have:=HY.out.1;have:=M2 hc;show ¬L[j].1<x1;omega
     go_wp2_with fail
     rw[<-H0.out.1];refine NQ bB (by kernel_rfl) ?_
     repeat (first|go_big_quiet_skip|quiet_step (first|(go_at_call 251;exact NZ (HI.out _))))
     refine Oy ?_;intro _ hw';obtain⟨⟨nq,osq⟩,hw''⟩:=hw';subst hw'';have HB2:M6 (MQ w.heap.size w (Oj (W0.drewN nq) osq)):=(HX.out.2.2.trans (H0.out.2.1.mono HX.out.2.2.size)).trans ((lu W0 nq osq).mono (Nm HX.out.2.2.size H0.out.2.1.size));generalize Oj (W0.drewN nq) osq=w3 at HB2⊢;go_wp2;go_ret;exact⟨by rw[E.out];rfl,HB2.out⟩
  ·have E:M6 (ans=Nw):=by
    rw[H.out];rw[N1 (by omega)]at hall;exact Nq hall
   have HB:M6 _:=hbr;clear hall hbr pa;go_wp2;go_ret;exact⟨by rw[E.out];rfl,HB.out⟩
end
section
open Go.Sort (grow grow_empty grow_grow alloc_eq_grow cell?_grow heap_grow_old)
open Go.Maps (Keyed int_keyed keyOf_int_mk)
theorem qK(x1 x2 x3 x4 x5:Int)(w:MO):Ni MK 174 #[gQ x1 x2 x3 x4 x5] w fun r w'=>r=MN (M3 (Nn (je (x1,x2,x3,x4,x5))))/\w'=w.alloc (bl x1 x2 x3 x4 x5):=by
 obtain⟨ans,hans⟩:∃ans,ans=Nn (je (x1,x2,x3,x4,x5)):=⟨_,rfl⟩;rw[<-hans];have H:M6 _:=hans;clear hans;cases h1:Nn (0<=x1/\x1<=1048576)
 case false =>
  have E:M6 (ans=Nb):=by rw[H.out];exact M0 fun h=>Nc h1 h.1
  go_enter Wr,Wf
  go_wp2_with fail
  refine(cM _ _ _ _).mono ?_;rw[h1];rintro r w1 ⟨rfl,rfl⟩;go_wp2;go_ret;exact⟨by rw[E.out];rfl,rfl⟩
 by_cases h2:x2=1
 ·subst h2
  have E:M6 (ans=Nw):=by rw[H.out];exact Nq ⟨M2 h1,Nt rfl⟩
  go_enter Wr,Wf
  go_wp2_with fail
  refine(cM _ _ _ _).mono ?_;rw[h1];rintro r w1 ⟨rfl,rfl⟩;go_wp2;go_ret;exact⟨by rw[E.out];rfl,rfl⟩
 ·have e2:(x2 == 1)=false:=by simpa using h2
  obtain⟨b,hb⟩:∃b,b=(x2 == 2):=⟨_,rfl⟩;have E:M6 (ans=(x2 == 2)):=by
   rw[H.out];cases hq:(x2 == 2)
   ·exact M0 fun h=>h.2.elim h2 fun h=>by rw[show x2=2 from h]at hq;cases hq
   ·exact Nq ⟨M2 h1,NF (by simpa using hq)⟩
  go_enter Wr,Wf
  go_wp2_with fail
  refine(cM _ _ _ _).mono ?_;rw[h1];rintro r w1 ⟨rfl,rfl⟩;go_wp2;go_ret;exact⟨by rw[E.out];rfl,rfl⟩
theorem vS{x:Int}(h1:0<=x)(h2:x<=10000000):(N6 ME x).wf=true:=by
 have e1:IntKind.i64.min = -9223372036854775808:=by decide
 have e2:IntKind.i64.max=9223372036854775807:=by decide
 simp only[Lit.wf,e1,e2,Po,decide_eq_true_eq];omega
theorem wD:Keyed MK 3:=int_keyed Ol
def jb(w:MO)(b:Nat)(ids:List Int):Prop :=
 ∃(n:Nat) (D:DataW Unit),w.ownsMap MK 3 (plainElem MK 3) b n D/\n<=ids.length/\(∀id,(N6 ME id).wf=Nw->Maps.has D (N6 ME id)=Nn (id∈ids))/\Tu D<=ids.length/\(Tu D=ids.length↔ids.Pairwise (·≠·))
theorem xt(w:MO):jb (w.alloc (.map #[] 0)) w.heap.size []:=
 ⟨0,.map [],World.ownsMap_made w _ _ _,MV _,fun id hid=>rfl,MV _,⟨fun _=>.nil,fun _=>rfl⟩⟩
theorem jb.Gf{w w':MO}{b:Nat}(h:jb w b ids)(hb:w'.heap[b]?=w.heap[b]?):jb w' b ids:=by
 obtain⟨n,D,⟨es,clock,h1,h2⟩,h3⟩:=h;exact⟨n,D,⟨es,clock,hb.trans h1,h2⟩,h3⟩
theorem jb.lt{w:MO}{b:Nat}(h:jb w b ids):b<w.heap.size:=by
 obtain⟨n,D,⟨es,clock,h1,h2⟩,h3⟩:=h;exact(Array.getElem?_eq_some_iff.1 h1).1
theorem jb.Gd{w:MO}{b:Nat}(h:jb w b ids)(hn:ids.length<=1000){x:Int}(hid:(N6 ME id).wf=Nw)(hx:(N6 ME x).wf=Nw):
  ∃w',(Instr.mapUpdate 273 (P0 (MI b)) (MF ME id) (MF ME x)).run MK w=.ok () w'/\jb w' b (ids++[id])/\w.grownBy w' (MI b):=by
 obtain⟨n,D,hown,hnl,hf,hs,hp⟩:=h;obtain⟨w',hr,ho,hg⟩:=hown.update wD Va (by unfold NE;omega) (Qg Ol hid) (plainElem_int Ol hx);have hm:Maps.IsMap D:=hown.isMap;have hsz:=Maps.size_put (k:=N6 ME id) (hown.tidy wD) (d:=.lit (N6 ME x));rw[hf id hid]at hsz;refine⟨w',hr,⟨n+1,_,ho,by simp;omega,fun k hk=>?_,?_,?_⟩,hg⟩
 ·by_cases e:k=id
  ·subst e
   rw[Maps.has_put_same (k:=N6 ME k) hm trivial];simp
  ·have hne:N6 ME k≠N6 ME id:=fun h=>e (by cases h;rfl)
   rw[Maps.has_put_other hne,hf k hk];simp[e]
 ·rw[hsz]
  simp
  split <;> omega
 ·rw[hsz,List.pairwise_append,<-hp]
  by_cases hm:id∈ids
  ·simp only[hm,decide_true,if_true,Ns,OU]
   constructor
   ·intro h;omega
   ·rintro⟨_,_,h⟩;exact absurd rfl (h id hm id (by simp))
  ·simp only[hm,decide_false,Ns,OU]
   constructor
   ·intro h
    refine⟨by simpa using h,by simp,fun a ha b hb=>?_⟩;simp at hb;subst hb;exact fun e=>hm (e ▸ ha)
   ·rintro⟨h,_,_⟩
    simp[h]
theorem jb.len{w:MO}{b:Nat}(h:jb w b ids):∃(n:Nat) (D:DataW Unit) (s:Nat),w.ownsMap MK 3 (plainElem MK 3) b n D/\Tu D=s/\s<=ids.length/\(s=ids.length↔ids.Pairwise (·≠·)):=by
 obtain⟨n,D,h1,_,_,h4,h5⟩:=h;exact⟨n,D,_,h1,rfl,h4,h5⟩
theorem Eq(R:List Rq):(R.map (·.1)).Pairwise (·≠·)↔R.Pairwise (fun a b=>a.1≠b.1):=List.pairwise_map
theorem xg(v:M7)(R:List Rq)(w:MO)(hv:lE w v R)(hR:R.length<=100) :
  Ni MK 229 #[v] w fun r w'=>r=MN (M3 (Nn (mJ R)))/\MQ w.heap.size w w':=by
 obtain⟨a,ca,rfl,hca,hma,pa⟩:=hv.F6;unfold NE at hma;obtain⟨ans,hans⟩:∃ans,ans=Nn (mJ R):=⟨_,rfl⟩;rw[<-hans];have H:M6 _:=hans;clear hv hans;have hmm:∀W:MO,(Instr.makeMap 273 MH).run MK W=.ok (P0 (MI W.heap.size)) (W.alloc (.map #[] 0)):=fun _=>rfl
 have HM:M6 _:=xt w;go_enter Tryz.func229,Tryz.ntmps229;go_wp2
 go_loopw [9] (fun i wr=>∃k:Nat,i=MF ME k/\k<=R.length/\(∀r∈R.take k,je r)/\jb wr w.heap.size ((R.take k).map (·.1))/\MQ w.heap.size w wr) (fun i _=>R.length-(On i).toNat)
 case atStart=>exact⟨0,rfl,Nx _,by simp,HM.out,ai _⟩
 case round =>
  obtain⟨k,rfl,hk,hall,hM,hbr⟩:=hrel;clear hmm
  by_cases hlt:k<R.length
  ·obtain⟨b1,o1,rfl,hb1,c1,c2,c3,c4,c5⟩:=pa k hlt
   have e1:=(hbr.cell (p:=⟨b1,o1+k*5,MH⟩) hb1).trans c1;have e2:=(hbr.cell (p:=⟨b1,o1+k*5+1,MH⟩) hb1).trans c2;have e3:=(hbr.cell (p:=⟨b1,o1+k*5+2,MH⟩) hb1).trans c3;have e4:=(hbr.cell (p:=⟨b1,o1+k*5+3,MH⟩) hb1).trans c4;have e5:=(hbr.cell (p:=⟨b1,o1+k*5+4,MH⟩) hb1).trans c5;have hkI:(k:Int)<(R.length:Int):=by omega
   have htk:R.take (k+1)=R.take k++[R[k]]:=M9 hlt;have hmem:R[k]∈R:=Nk hlt;obtain⟨x,hxk⟩:∃x,x=R[k]:=⟨_,rfl⟩;rw[<-hxk]at e1 e2 e3 e4 e5 htk hmem;clear hxk;obtain⟨x1,x2,x3,x4,x5⟩:=x;obtain⟨W0,hW0⟩:∃W0,W0=(wr.alloc (bl x1 x2 x3 x4 x5)).alloc (bl x1 x2 x3 x4 x5):=⟨_,rfl⟩;have hB0:MQ wr.heap.size wr W0:=by rw[hW0];exact((MY _ _).alloc (MV _) _).alloc (by simp) _
   have hR0:W0.heap[wr.heap.size]?=MI (bl x1 x2 x3 x4 x5):=by rw[hW0];exact aN _ _ (M1 _ _)
   have hM0:=hM.Gf (hB0.block _ hM.lt);obtain⟨bd,hbd⟩:∃bd,bd=Nn (je (x1,x2,x3,x4,x5)):=⟨_,rfl⟩;have HR:M6 (_/\_/\_/\_/\_/\_/\_/\_):=⟨htk,hall,hM0,hbr,hmem,hbd,hW0,hB0⟩;clear hall hbr c1 c2 c3 c4 c5 hb1 pa htk hM hM0 hmem hbd hB0;cases bd
   case false =>
    have E:M6 (ans=Nb):=by rw[H.out];exact M0 fun h=>Nc HR.out.2.2.2.2.2.1.symm (h.1 _ HR.out.2.2.2.2.1)
    clear hR0 hW0
    go_wp2_with fail
    refine(qK _ _ _ _ _ _).mono ?_;rw[<-HR.out.2.2.2.2.2.1];rintro r w1 ⟨rfl,rfl⟩;go_wp2;go_ret;exact⟨by rw[E.out];rfl,by rw[<-HR.out.2.2.2.2.2.2.1];exact HR.out.2.2.2.1.trans (HR.out.2.2.2.2.2.2.2.mono HR.out.2.2.2.1.size)⟩
   have hok:je (x1,x2,x3,x4,x5):=M2 HR.out.2.2.2.2.2.1.symm;obtain⟨w2,hup,hM2,hg2⟩:=HR.out.2.2.1.Gd (id:=x1) (x:=k) (by simp;omega) (vS (by have:=hok.1;omega) (by have:=hok.1;omega)) (vS (by omega) (by omega));have HN:M6 (_/\_/\_):=⟨hok,hM2,hg2⟩;obtain⟨d0,d1,d2,d3,d4,hlt0⟩:=bY hR0;clear hok hM2 hg2 hR0
   go_wp2_with fail
   refine(qK _ _ _ _ _ _).mono ?_;rw[<-HR.out.2.2.2.2.2.1];rintro r w1 ⟨rfl,rfl⟩;rw[<-hW0];clear hW0;go_wp2
   go_roundw
   case rel =>
    refine⟨k+1,by simp,hlt,fun r hr=>?_,?_,?_⟩
    ·rw[HR.out.1]at hr
     rcases List.mem_append.1 hr with hr|hr
     ·exact HR.out.2.1 r hr
     ·simp at hr
      rw[hr];exact HN.out.1
    ·rw[HR.out.1,OI]
     exact HN.out.2.1
    ·have hz:=(HR.out.2.2.2.1.trans (HR.out.2.2.2.2.2.2.2.mono HR.out.2.2.2.1.size))
     exact hz.grown HN.out.2.2 hz.size (fun j e=>by cases e;exact MV _)
   case measure=>simp[On];omega
  ·obtain rfl:k=R.length:=by omega
   rw[NT]at hM hall;obtain⟨n,D,s,hown,hs,hsl,hiff⟩:=hM.len;rw[Eq,N0]at hiff;have HB:M6 (_/\_):=⟨hown,hbr⟩;have hE:ans=Nn (s=R.length):=by
    rw[H.out];exact decide_eq_decide.2 ⟨fun h=>hiff.2 h.2,fun h=>⟨hall,hiff.1 h⟩⟩
   clear hall hbr pa hown hM hiff hsl
   by_cases hq:s=R.length
   ·have E:M6 (ans=Nw):=by rw[hE];exact Nq hq
    clear hE;rw[hq]at hs;clear hq
    go_wp2_with (at_len;refine wpList_len_own _ rfl _ 273 rfl 3 3 Va _ w.heap.size n D rfl HB.out.1 ?_;rw[hs])
    go_wp2;go_ret;exact⟨by rw[E.out];rfl,HB.out.2⟩
   ·have E:M6 (ans=Nb):=by rw[hE];exact M0 hq
    have hq1:(s == R.length)=false:=by simpa using hq
    have hq2:((s:Int) == (R.length:Int))=false:=by simp;omega
    clear hE
    go_wp2_with (at_len;refine wpList_len_own _ rfl _ 273 rfl 3 3 Va _ w.heap.size n D rfl HB.out.1 ?_;rw[hs])
    go_wp2;go_ret;exact⟨by rw[E.out];rfl,HB.out.2⟩
end
abbrev cg(va vb:M7):Value:=Ny #[va,vb]
abbrev de(va vb:M7):Obj:=MP #[va,vb] 43
abbrev fb(w:MO)(va vb:M7)(L:List Lf)(R:List Rq):Prop:=jH w va L/\lE w vb R
theorem fb.below{w w':MO}{va vb:M7}{L:List Lf}{R:List Rq}(h:fb w va vb L R)(hb:MQ w.heap.size w w'):fb w' va vb L R:=⟨eD.below h.1 hb,eD.below h.2 hb⟩
theorem xz(va vb:M7)(L:List Lf)(R:List Rq)(w:MO)(hv:fb w va vb L R) :
  Ni MK 191 #[cg va vb] w fun r w'=>r=MN (M3 (Nn (bX L R)))/\MQ w.heap.size w w':=by
 obtain⟨pa,ca,rfl,hca,hma⟩:=eD.Ga hv.1;obtain⟨pb,cb,rfl,hcb,hmb⟩:=eD.Ga hv.2;unfold NE at hma hmb;obtain⟨ans,hans⟩:∃ans,ans=Nn (bX L R):=⟨_,rfl⟩;rw[<-hans];have H:M6 _:=hans;obtain⟨W0,hW0⟩:∃W0,W0=w.alloc (de (MG pa L.length ca) (MG pb R.length cb)):=⟨_,rfl⟩;have hB0:MQ w.heap.size w W0:=by rw[hW0];exact ai _
 have hR0:W0.heap[w.heap.size]?=MI (de (MG pa L.length ca) (MG pb R.length cb)):=by rw[hW0];exact M1 _ _
 have HV:M6 (_/\_/\_/\_):=⟨hv.below hB0,hW0,hB0,hR0⟩;obtain⟨c0,c1,_,_,hlt0⟩:=au hR0;clear hans hv hW0 hB0 hR0;cases h1:Nn (L.length<=12)
 case false =>
  have g1:¬(L.length<=12):=Nc h1;have g2:¬((L.length:Int)<=12):=by omega
  have E:M6 (ans=Nb):=by rw[H.out];exact M0 fun h=>g1 h.1.1
  clear H h1;go_enter VP,VH;go_wp2;go_ret;exact⟨by rw[E.out];rfl,ai _⟩
 have g1:L.length<=12:=M2 h1;have g2:(L.length:Int)<=12:=by omega
 clear h1;obtain⟨b2,hb2⟩:∃b2,b2=Nn (fy L):=⟨_,rfl⟩;have HL:M6 (∀W,jH W (MG pa L.length ca) L->Ni MK 228 #[MG pa L.length ca] W fun r w'=>r=MN (M3 b2)/\MQ W.heap.size W w'):=fun W hW=>by rw[hb2];exact xf _ _ W hW
 have HB2:M6 _:=hb2;clear hb2;cases b2
 case false =>
  have E:M6 (ans=Nb):=by rw[H.out];exact M0 fun h=>Nc HB2.out.symm h.1.2
  clear H;go_enter VP,VH
  go_wp2_with fail
  rw[<-HV.out.2.1];refine(HL.out _ HV.out.1.1).mono ?_;rintro r w1 ⟨rfl,hb1⟩;have HB:M6 _:=HV.out.2.2.1.trans (hb1.mono HV.out.2.2.1.size);clear hb1;go_wp2;go_ret;exact⟨by rw[E.out];rfl,HB.out⟩
 cases h3:Nn (R.length<=100)
 case false =>
  have g3:¬(R.length<=100):=Nc h3;have g4:¬((R.length:Int)<=100):=by omega
  have E:M6 (ans=Nb):=by rw[H.out];exact M0 fun h=>g3 h.2.1
  clear H h3;go_enter VP,VH
  go_wp2_with fail
  rw[<-HV.out.2.1];refine(HL.out _ HV.out.1.1).mono ?_;rintro r w1 ⟨rfl,hb1⟩;obtain⟨c0,c1,_,_,hlt0⟩:=au (af HV.out.2.2.2 hb1);have HB:M6 _:=HV.out.2.2.1.trans (hb1.mono HV.out.2.2.1.size);clear hb1;go_wp2;go_ret;exact⟨by rw[E.out];rfl,HB.out⟩
 have g3:R.length<=100:=M2 h3;have g4:(R.length:Int)<=100:=by omega
 clear h3;obtain⟨b4,hb4⟩:∃b4,b4=Nn (mJ R):=⟨_,rfl⟩;have HR:M6 (∀W,lE W (MG pb R.length cb) R->Ni MK 229 #[MG pb R.length cb] W fun r w'=>r=MN (M3 b4)/\MQ W.heap.size W w'):=fun W hW=>by rw[hb4];exact xg _ _ W hW g3
 have E:M6 (ans=b4):=by
  rw[H.out,hb4];exact decide_eq_decide.2 ⟨fun h=>h.2.2,fun h=>⟨⟨g1,M2 HB2.out.symm⟩,g3,h⟩⟩
 clear hb4 H;go_enter VP,VH
 go_wp2_with fail
 rw[<-HV.out.2.1];refine(HL.out _ HV.out.1.1).mono ?_;rintro r w1 ⟨rfl,hb1⟩;obtain⟨c0,c1,_,_,hlt0⟩:=au (af HV.out.2.2.2 hb1);have HB:M6 (_/\_):=⟨HV.out.2.2.1.trans (hb1.mono HV.out.2.2.1.size),eD.below HV.out.1.2 hb1⟩;clear hb1
 go_wp2_with fail
 refine(HR.out _ HB.out.2).mono ?_;rintro r w2 ⟨rfl,hb2⟩;have HC:M6 _:=HB.out.1.trans (hb2.mono HB.out.1.size);clear hb2;go_wp2;go_ret;exact⟨by rw[E.out];rfl,HC.out⟩
theorem oX(va vb:M7)(L:List Lf)(R:List Rq)(w:MO)(hv:fb w va vb L R) :
  Ni MK 143 #[cg va vb] w fun r w'=>r=MN (MF ME (lV L R))/\MQ w.heap.size w w':=by
 obtain⟨pa,ca,rfl,hca,hma⟩:=eD.Ga hv.1;obtain⟨pb,cb,rfl,hcb,hmb⟩:=eD.Ga hv.2;obtain⟨b,hb⟩:∃b,b=Nn (bX L R):=⟨_,rfl⟩;have E:M6 (lV L R=if b=Nw then 0 else 6):=by
  by_cases h:bX L R
  ·rw[hb,Nq h,ut h];rfl
  ·rw[hb,M0 h,rR h];rfl
 have HM:M6 (∀W,fb W (MG pa L.length ca) (MG pb R.length cb) L R->Ni MK 191 #[cg (MG pa L.length ca) (MG pb R.length cb)] W fun r w'=>r=MN (M3 b)/\MQ W.heap.size W w'):=fun W hW=>by rw[hb];exact xz _ _ _ _ W hW
 have HV:M6 _:=hv.below (ai w (o:=de (MG pa L.length ca) (MG pb R.length cb)));rw[E.out];clear hb hv;go_enter Tryz.func143,Tryz.ntmps143
 go_wp2_with fail
 refine(HM.out _ HV.out).mono ?_;rintro r w1 ⟨rfl,hb1⟩;have HB:M6 _:=(ai w).trans (hb1.mono (by simp));clear hb1;cases b
 ·go_wp2
  go_ret;exact⟨rfl,HB.out⟩
 ·go_wp2
  go_ret;exact⟨rfl,HB.out⟩
theorem qZ:(Tryz.prog.info? 179).map (fun i=>(i.zero,i.size,i.bytes))=MI (MI (Ny #[MF ME 0,MF ME 0,MF ME 0,MF ME 0,MF ME 0]),5,40):=by kernel_rfl
theorem ww(v:M7)(l:List Lf)(w:MO)(hv:eD az w v l)(hl:l.length<=1000) :
  Ni MK 98 #[v] w fun r w'=>∃p c,r=MN (MG p l.length c)/\w'.ownsRow w.heap.size 91 6 (MG p l.length c) l.length (ak az l)/\MQ w.heap.size w w':=by
 obtain⟨p,c,rfl,hc,hm⟩:=eD.Ga hv;cases p with
 |none =>
  obtain rfl:l=[]:=by
   obtain⟨a,cap,he,_,_,h|⟨b,off,rfl,_⟩⟩:=hv
   ·exact List.length_eq_zero_iff.1 h.1
   ·cases he
  clear hv;have hnil:∀W,(binOp .eql 40 (MG MH 0 c) (MG MH 0 0)).run MK W=.ok (M3 Nw) W:=fun W=>by kernel_rfl
  go_enter Tryz.func98,Tryz.ntmps98;go_wp2;go_ret;exact⟨MH,0,rfl,NY _ _ _ _,MY _ _⟩
 |some q =>
  have hnil:∀W,(binOp .eql 40 (MG (MI q) l.length c) (MG MH 0 0)).run MK W=.ok (M3 Nb) W:=fun W=>by kernel_rfl
  have hown:(w.alloc (MP #[] 91)).ownsRow w.heap.size 91 6 (MG (MI ⟨w.heap.size,0,MH⟩) 0 0) 0 (ak az []):=
   ⟨rfl,NF ⟨w.heap.size,0,#[],rfl,MV _,M1 _ _,MV _,Nx _,rfl,rfl⟩⟩
  have hrun:∃p' c' w4,(N2 #[40,40] 40 #[MG (MI ⟨w.heap.size,0,MH⟩) 0 0,MG (MI q) l.length c]).run MK (w.alloc (MP #[] 91))=.ok (MG p' l.length c') w4/\w4.ownsRow w.heap.size 91 6 (MG p' l.length c') l.length (ak az l)/\MQ w.heap.size w w4:=by
   by_cases h0:l.length=0
   ·obtain rfl:l=[]:=List.length_eq_zero_iff.1 h0
    obtain⟨i0,hi,_⟩:=OF lB;exact⟨_,_,_,kR _ _ _ _ i0 U3 hi _ 0 0 (MV _) (Nx _) _ _,hown,ai _⟩
   ·obtain⟨g,c',w4,hr,ho,hg,_⟩:=nY bg (by decide) U3 lB rfl hown (by simp) 40 _ l (eD.below hv (ai w)) (by omega) (by omega) (by unfold NE;omega)
    rw[Oa]at hr ho;rw[Oz]at ho;exact⟨_,_,_,hr,ho,(ai w).trans (kN hg (by simp) (fun g e=>by cases e;exact MV _))⟩
  obtain⟨p',c',w4,hr,ho,hb4⟩:=hrun;have HQ:M6 (_/\_/\_):=⟨hr,hb4,ho⟩;clear hr hb4 ho hv hown;go_enter Tryz.func98,Tryz.ntmps98
  go_wp2_with (at_builtin;(with_reducible refine d7 rfl _ _ 40 rfl (MG (MI ⟨w.heap.size,0,MH⟩) 0 0) (MG (MI q) l.length c) (MG p' l.length c') w4 ?hs ?hx ?hr ?_);(case hs=>rfl);(case hx=>rfl);(case hr=>exact HQ.out.1))
  go_wp2;go_ret;exact⟨_,_,rfl,HQ.out.2.2,HQ.out.2.1⟩
theorem uV(v:M7)(l:List Rq)(w:MO)(hv:eD fY w v l)(hl:l.length<=1000) :
  Ni MK 99 #[v] w fun r w'=>∃p c,r=MN (MG p l.length c)/\w'.ownsRow w.heap.size 179 5 (MG p l.length c) l.length (ak fY l)/\MQ w.heap.size w w':=by
 obtain⟨p,c,rfl,hc,hm⟩:=eD.Ga hv;cases p with
 |none =>
  obtain rfl:l=[]:=by
   obtain⟨a,cap,he,_,_,h|⟨b,off,rfl,_⟩⟩:=hv
   ·exact List.length_eq_zero_iff.1 h.1
   ·cases he
  clear hv;have hnil:∀W,(binOp .eql 41 (MG MH 0 c) (MG MH 0 0)).run MK W=.ok (M3 Nw) W:=fun W=>by kernel_rfl
  go_enter Tryz.func99,Tryz.ntmps99;go_wp2;go_ret;exact⟨MH,0,rfl,NY _ _ _ _,MY _ _⟩
 |some q =>
  have hnil:∀W,(binOp .eql 41 (MG (MI q) l.length c) (MG MH 0 0)).run MK W=.ok (M3 Nb) W:=fun W=>by kernel_rfl
  have hown:(w.alloc (MP #[] 179)).ownsRow w.heap.size 179 5 (MG (MI ⟨w.heap.size,0,MH⟩) 0 0) 0 (ak fY []):=
   ⟨rfl,NF ⟨w.heap.size,0,#[],rfl,MV _,M1 _ _,MV _,Nx _,rfl,rfl⟩⟩
  have hrun:∃p' c' w4,(N2 #[41,41] 41 #[MG (MI ⟨w.heap.size,0,MH⟩) 0 0,MG (MI q) l.length c]).run MK (w.alloc (MP #[] 179))=.ok (MG p' l.length c') w4/\w4.ownsRow w.heap.size 179 5 (MG p' l.length c') l.length (ak fY l)/\MQ w.heap.size w w4:=by
   by_cases h0:l.length=0
   ·obtain rfl:l=[]:=List.length_eq_zero_iff.1 h0
    obtain⟨i0,hi,_⟩:=OF qZ;exact⟨_,_,_,kR _ _ _ _ i0 PK hi _ 0 0 (MV _) (Nx _) _ _,hown,ai _⟩
   ·obtain⟨g,c',w4,hr,ho,hg,_⟩:=nY iH (by decide) PK qZ rfl hown (by simp) 41 _ l (eD.below hv (ai w)) (by omega) (by omega) (by unfold NE;omega)
    rw[Oa]at hr ho;rw[Oz]at ho;exact⟨_,_,_,hr,ho,(ai w).trans (kN hg (by simp) (fun g e=>by cases e;exact MV _))⟩
  obtain⟨p',c',w4,hr,ho,hb4⟩:=hrun;have HQ:M6 (_/\_/\_):=⟨hr,hb4,ho⟩;clear hr hb4 ho hv hown;go_enter Tryz.func99,Tryz.ntmps99
  go_wp2_with (at_builtin;(with_reducible refine d7 rfl _ _ 41 rfl (MG (MI ⟨w.heap.size,0,MH⟩) 0 0) (MG (MI q) l.length c) (MG p' l.length c') w4 ?hs ?hx ?hr ?_);(case hs=>rfl);(case hx=>rfl);(case hr=>exact HQ.out.1))
  go_wp2;go_ret;exact⟨_,_,rfl,HQ.out.2.2,HQ.out.2.1⟩
structure ae(base:Nat)(W:MO)(T:Nat)(va vb:M7)(L:List Lf)(R:List Rq):Prop where
 box:W.heap[T]?=MI (MP #[va,vb] 253 (0,0))
 lives:W.ownsRow base 91 6 va L.length (ak az L)
 reqs:W.ownsRow base 179 5 vb R.length (ak fY R)
 offL:va.ownBlock≠MI T
 offR:vb.ownBlock≠MI T
 apart:∀g,va.ownBlock=MI g->vb.ownBlock≠MI g
 hT:base<=T
section
variable {base:Nat}{W W':MO}{T:Nat}{va vb:M7}{L:List Lf}{R:List Rq}
theorem ae.below(h:ae base W T va vb L R)(hb:MQ W.heap.size W W'):ae base W' T va vb L R :=
 ⟨af h.box hb,cq h.lives hb,cq h.reqs hb,h.offL,h.offR,h.apart,h.hT⟩
theorem ae.lt(h:ae base W T va vb L R):T<W.heap.size:=(Array.getElem?_eq_some_iff.1 h.box).1
theorem ae.at(h:ae base W T va vb L R):fb W va vb L R:=⟨pO h.lives,pO h.reqs⟩
theorem Ce{w5 w6:MO}(hL:w5.ownsRow base 91 6 va L.length (ak az L))(hR:w6.ownsRow w5.heap.size 179 5 vb R.length (ak fY R))(hb:MQ w5.heap.size w5 w6)(hbase:base<=w5.heap.size) :
  ae base (w6.alloc (MP #[va,vb] 253)) w6.heap.size va vb L R :=
 ⟨M1 _ _,(cq hL hb).alloc _,(hR.mono hbase).alloc _,fun e=>by have:=(hL.lt _ e).2;have:=hb.size;omega,fun e=>by have:=(hR.lt _ e).2;omega,fun g e f=>by have:=(hL.lt _ e).2;have:=(hR.lt _ f).1;omega,Nm hbase hb.size⟩
theorem DX{w5 w6:MO}(hR:w5.ownsRow base 179 5 vb R.length (ak fY R))(hL:w6.ownsRow w5.heap.size 91 6 va L.length (ak az L))(hb:MQ w5.heap.size w5 w6)(hbase:base<=w5.heap.size) :
  ae base (w6.alloc (MP #[va,vb] 253)) w6.heap.size va vb L R :=
 ⟨M1 _ _,(hL.mono hbase).alloc _,(cq hR hb).alloc _,fun e=>by have:=(hL.lt _ e).2;omega,fun e=>by have:=(hR.lt _ e).2;have:=hb.size;omega,fun g e f=>by have:=(hR.lt _ f).2;have:=(hL.lt _ e).1;omega,Nm hbase hb.size⟩
end
theorem ll{w w':MO}{a1 a2:Oc}{v1 v2:M7}(h1:w.cell? a1=MI v1)(h2:w.cell? a2=MI v2)(hb:MQ w.heap.size w w'):w'.cell? a1=MI v1/\w'.cell? a2=MI v2/\MQ w.heap.size w w' :=
 ⟨(hb.cell (MX w _ h1)).trans h1,(hb.cell (MX w _ h2)).trans h2,hb⟩
def sO(L:List Lf)(R:List Rq)(w:MO)(r:Ending)(w':MO):Prop :=
 ∃T p k q m,r=MN (Nv #[Na (MI ⟨T,0,MH⟩),MF ME 0])/\ae w.heap.size w' T (MG p L.length k) (MG q R.length m) L R/\MQ w.heap.size w w'
theorem rb(va vb:M7)(L:List Lf)(R:List Rq)(w:MO)(hv:fb w va vb L R)(h:¬bX L R) :
  Ni MK 173 #[cg va vb] w fun r w'=>r=MN (Nv #[Na MH,MF ME 6])/\MQ w.heap.size w w':=by
 obtain⟨pa,ca,rfl,hca,hma⟩:=eD.Ga hv.1;obtain⟨pb,cb,rfl,hcb,hmb⟩:=eD.Ga hv.2;have HV:M6 (_/\_):=⟨hv.below (ai w (o:=de (MG pa L.length ca) (MG pb R.length cb))),rR h⟩;clear hv h;go_enter Tryz.func173,Tryz.ntmps173
 go_wp2_with fail
 refine(oX _ _ L R _ HV.out.1).mono ?_;rw[HV.out.2];rintro r w1 ⟨rfl,hb1⟩;have HB:M6 _:=(ai w).trans (hb1.mono (by simp));clear hb1;go_wp2
 go_ret2
 exact⟨rfl,HB.out⟩
theorem qi(va vb:M7)(L:List Lf)(R:List Rq)(w:MO)(hv:fb w va vb L R)(h:bX L R) :
  Ni MK 173 #[cg va vb] w (sO L R w):=by
 obtain⟨pa,ca,rfl,hca,hma⟩:=eD.Ga hv.1;obtain⟨pb,cb,rfl,hcb,hmb⟩:=eD.Ga hv.2;have hL:L.length<=1000:=by have:=h.1.1;omega
 have hR:R.length<=1000:=by have:=h.2.1;omega
 have HV:M6 (_/\_):=⟨hv.below (ai w (o:=de (MG pa L.length ca) (MG pb R.length cb))),ut h⟩;clear hv h;go_enter Tryz.func173,Tryz.ntmps173
 go_wp2_with fail
 refine(oX _ _ L R _ HV.out.1).mono ?_;rw[HV.out.2];rintro r w1 ⟨rfl,hb1⟩;have hX:=HV.out.1.below hb1;have hR0:=af (M1 w (de (MG pa L.length ca) (MG pb R.length cb))) hb1;obtain⟨c0,c1,_,_,hlt0⟩:=au hR0;have hB:MQ w.heap.size w w1:=(ai w).trans (hb1.mono (by simp));have hC1:∀W,MQ w1.heap.size w1 W->Ni MK 98 #[MG pa L.length ca] W fun r w'=>∃p k,r=MN (MG p L.length k)/\M6 (w'.ownsRow W.heap.size 91 6 (MG p L.length k) L.length (ak az L)/\MQ w1.heap.size w1 w'/\MQ W.heap.size W w'):=fun W hW=>(ww _ L W (eD.below hX.1 hW) hL).mono fun r w' ⟨p,k,h1,h2,h3⟩=>⟨p,k,h1,⟨h2,hW.trans (h3.mono hW.size),h3⟩⟩
 have hC2:∀W,MQ w1.heap.size w1 W->Ni MK 99 #[MG pb R.length cb] W fun r w'=>∃p k,r=MN (MG p R.length k)/\M6 (w'.ownsRow W.heap.size 179 5 (MG p R.length k) R.length (ak fY R)/\MQ w1.heap.size w1 w'/\MQ W.heap.size W w'):=fun W hW=>(uV _ R W (eD.below hX.2 hW) hR).mono fun r w' ⟨p,k,h1,h2,h3⟩=>⟨p,k,h1,⟨h2,hW.trans (h3.mono hW.size),h3⟩⟩
 have HC:M6 (_/\_/\_):=⟨hC1,hC2,hB⟩;clear hC1 hC2 hX hR0 hB hb1
 go_upto_region 4 with fail
 go_region_held3 (fun W=>W.cell? ⟨w.heap.size,0,MH⟩=MI (MG pa L.length ca)/\W.cell? ⟨w.heap.size,1,MH⟩=MI (MG pb R.length cb)/\MQ w1.heap.size w1 W) (first|exact ll c0 c1 ((MY _ _).drew)|exact ll c0 c1 hq5.out.2.1|exact ll c0 c1 hq6.out.2.1|exact ll c0 c1 (hq5.out.2.1.alloc hq5.out.2.1.size _)|exact ll c0 c1 (hq6.out.2.1.alloc hq6.out.2.1.size _)) (first|(go_at_call 98;refine(HC.out.1 _ ?hbW).mono ?_;(case hbW=>first|assumption|exact(MY _ _).drew|exact hq6.out.2.1);rintro r w5 ⟨p,k,rfl,hq5⟩)|(go_at_call 99;refine(HC.out.2.1 _ ?hbW).mono ?_;(case hbW=>first|assumption|exact(MY _ _).drew|exact hq5.out.2.1);rintro r w6 ⟨q,m,rfl,hq6⟩))
 all_goals
  go_wp2
  go_ret2
  have hz:=HC.out.2.2
  first
  |exact⟨_,p,k,q,m,rfl,Ce (hq5.out.1.mono hz.size) hq6.out.1 hq6.out.2.2 (Nm hz.size hq5.out.2.1.size),(hz.trans (hq6.out.2.1.mono hz.size)).alloc (Nm hz.size hq6.out.2.1.size) _⟩
  |exact⟨_,p,k,q,m,rfl,DX (hq6.out.1.mono hz.size) hq5.out.1 hq5.out.2.2 (Nat.le_trans hz.size hq6.out.2.1.size),(hz.trans (hq5.out.2.1.mono hz.size)).alloc (Nat.le_trans hz.size hq5.out.2.1.size) _⟩
theorem sJ{w:MO}{c a' b' c' d' e':M7}{T:NU}(h:w.heap[g]?=MI (MP #[a,b,c,d,e] T (0,0))):(((((w.setCell ⟨g,0,MH⟩ a').setCell ⟨g,1,MH⟩ b').setCell ⟨g,2,MH⟩ c').setCell ⟨g,3,MH⟩ d').setCell ⟨g,4,MH⟩ e').heap[g]?=MI (MP #[a',b',c',d',e'] T (0,0)):=
 NI _ _ 4 _ _ e' (NI _ _ 3 _ _ d' (NI _ _ 2 _ _ c' (NI _ _ 1 _ _ b' (NI w g 0 _ _ a' h))))
theorem tX{w W:MO}{h:Nat}{c:M7}(H:MQ B w W)(hh:B<=h):MQ B w (((((W.setCell ⟨h,0,MH⟩ a).setCell ⟨h,1,MH⟩ b).setCell ⟨h,2,MH⟩ c).setCell ⟨h,3,MH⟩ d).setCell ⟨h,4,MH⟩ e):=((((H.setCell hh _).setCell hh _).setCell hh _).setCell hh _).setCell hh _
def bz(i n:Nat):Int:=if i<n then(i:Int)else -1
theorem gJ{α:Type}{p:α->Bool}{l:List α}(hk:k<l.length)(h1:∀t∈l.take k,p t=Nb)(h2:p l[k]=Nw):l.findIdx p=k:=by
 rw[List.findIdx_eq hk];refine⟨h2,fun j hj=>h1 _ ?_⟩;exact List.mem_take_iff_getElem.2 ⟨j,by omega,rfl⟩
theorem ib{α:Type}{p:α->Bool}{l:List α}(h:∀t∈l,p t=Nb):l.findIdx p=l.length:=List.findIdx_eq_length.2 h
theorem yl(x1 x2 x3 x4 x5 n:Int)(g:Nat)(w:MO)(hc:w.cell? ⟨g,0,MH⟩=MI (MF ME n)) :
  Ni MK 218 #[gQ x1 x2 x3 x4 x5,Na (MI ⟨g,0,MH⟩)] w fun r w'=>r=MN (M3 (x1 == n))/\MQ w.heap.size w w':=by
 have hlt:g<w.heap.size:=MX w ⟨g,0,MH⟩ hc;go_enter Tryz.func218,Tryz.ntmps218;go_wp2;go_ret;exact⟨rfl,ai w⟩
theorem yC(v:M7)(l:List Rq)(n:Int)(g:Nat)(w:MO)(hv:lE w v l)(hc:w.cell? ⟨g,0,MH⟩=MI (MF ME n)) :
  Ni MK 217 #[v,PB (PD 218) #[] #[Na (MI ⟨g,0,MH⟩)]] w fun r w'=>r=MN (MF ME (bz (l.findIdx (fun q=>q.1 == n)) l.length))/\MQ w.heap.size w w':=by
 obtain⟨q,hq0⟩:∃q:Rq->Bool,q=(fun q=>q.1 == n):=⟨_,rfl⟩;obtain⟨a,ca,rfl,hca,hma,pa⟩:=lE.F6 hv;unfold NE at hma;have hglt:=MX w ⟨g,0,MH⟩ hc;have HQ:M6 (∀(x1 x2 x3 x4 x5:Int) (W:MO),MQ w.heap.size w W->Ni MK 218 #[gQ x1 x2 x3 x4 x5,Na (MI ⟨g,0,MH⟩)] W fun r w'=>r=MN (M3 (q (x1,x2,x3,x4,x5)))/\MQ W.heap.size W w'):=by
  rw[hq0];exact fun x1 x2 x3 x4 x5 W hb=>yl x1 x2 x3 x4 x5 n g W ((hb.cell (p:=⟨g,0,MH⟩) hglt).trans hc)
 rw[<-hq0];obtain⟨ans,hans⟩:∃ans,ans=bz (l.findIdx q) l.length:=⟨_,rfl⟩;rw[<-hans];have H:M6 _:=hans;clear hv hans hq0 hc;go_enter RZ,RM;go_wp2
 go_loopw [8] (fun i wr=>∃k:Nat,i=MF ME k/\k<=l.length/\(∀t∈l.take k,q t=Nb)/\MQ w.heap.size w wr) (fun i _=>l.length-(On i).toNat)
 case atStart=>exact⟨0,rfl,Nx _,by simp,MY _ _⟩
 case round =>
  obtain⟨k,rfl,hk,hall,hbr⟩:=hrel
  by_cases hlt:k<l.length
  ·obtain⟨b1,o1,rfl,hb1,c1,c2,c3,c4,c5⟩:=pa k hlt
   have e1:=(hbr.cell (p:=⟨b1,o1+k*5,MH⟩) hb1).trans c1;have e2:=(hbr.cell (p:=⟨b1,o1+k*5+1,MH⟩) hb1).trans c2;have e3:=(hbr.cell (p:=⟨b1,o1+k*5+2,MH⟩) hb1).trans c3;have e4:=(hbr.cell (p:=⟨b1,o1+k*5+3,MH⟩) hb1).trans c4;have e5:=(hbr.cell (p:=⟨b1,o1+k*5+4,MH⟩) hb1).trans c5;have HA:M6 (_/\_):=⟨hall,hbr⟩;have hkI:(k:Int)<(l.length:Int):=by omega
   have htk:l.take (k+1)=l.take k++[l[k]]:=M9 hlt;have hfs:q l[k]=Nw->l.findIdx q=k:=fun h=>gJ hlt hall h
   have hxk:∃x,x=l[k]:=⟨_,rfl⟩;obtain⟨⟨x1,x2,x3,x4,x5⟩,hxk⟩:=hxk;rw[<-hxk]at e1 e2 e3 e4 e5 htk hfs;have HX:M6 (_/\_):=⟨htk,hfs⟩;clear hall hbr c1 c2 c3 c4 c5 hb1 pa htk hfs hxk;cases hd:q (x1,x2,x3,x4,x5)
   ·go_wp2_with fail
    refine(HQ.out x1 x2 x3 x4 x5 _ HA.out.2).mono ?_;rw[hd];rintro r w2 ⟨rfl,hb2⟩;have H2:M6 _:=hb2;clear hb2;go_wp2
    go_roundw
    case rel =>
     refine⟨k+1,by simp,hlt,fun t ht=>?_,HA.out.2.trans (H2.out.mono HA.out.2.size)⟩;rw[HX.out.1]at ht;rcases List.mem_append.1 ht with ht|ht
     ·exact HA.out.1 t ht
     ·simp at ht
      rw[ht];exact hd
    case measure=>simp[On];omega
   ·go_wp2_with fail
    refine(HQ.out x1 x2 x3 x4 x5 _ HA.out.2).mono ?_;rw[hd];rintro r w2 ⟨rfl,hb2⟩;have HE:M6 (ans=(k:Int)):=by show ans=_;rw[H.out,HX.out.2 hd];exact Nh hlt
    have H2:M6 _:=hb2;clear hb2;go_wp2;go_ret;exact⟨by rw[HE.out];rfl,HA.out.2.trans (H2.out.mono HA.out.2.size)⟩
  ·have HE:M6 (ans = -1):=by
    show ans=_;rw[H.out,ib fun t ht=>hall t (by rw[N1 (by omega)];exact ht)];exact Nf (PC _)
   have HB:M6 _:=hbr;clear hall hbr pa;go_wp2;go_ret;exact⟨by rw[HE.out];rfl,HB.out⟩
theorem Fw(x1 x2 x3 x4 x5 x6 n:Int)(g:Nat)(w:MO)(hc:w.cell? ⟨g,0,MH⟩=MI (MF ME n)) :
  Ni MK 258 #[dB x1 x2 x3 x4 x5 x6,Na (MI ⟨g,0,MH⟩)] w fun r w'=>r=MN (M3 (Nn (n<=x1)))/\MQ w.heap.size w w':=by
 have hlt:g<w.heap.size:=MX w ⟨g,0,MH⟩ hc;go_enter Tryz.func258,Tryz.ntmps258;go_wp2;go_ret;exact⟨rfl,ai w⟩
theorem B4(v:M7)(l:List Lf)(n:Int)(g:Nat)(w:MO)(hv:jH w v l)(hc:w.cell? ⟨g,0,MH⟩=MI (MF ME n)) :
  Ni MK 178 #[v,PB (PD 258) #[] #[Na (MI ⟨g,0,MH⟩)]] w fun r w'=>r=MN (MF ME (bz (l.findIdx (fun x=>Nn (n<=x.1))) l.length))/\MQ w.heap.size w w':=by
 obtain⟨q,hq0⟩:∃q:Lf->Bool,q=(fun x=>Nn (n<=x.1)):=⟨_,rfl⟩;obtain⟨a,ca,rfl,hca,hma,pa⟩:=jH.F6 hv;unfold NE at hma;have hglt:=MX w ⟨g,0,MH⟩ hc;have HQ:M6 (∀(x1 x2 x3 x4 x5 x6:Int) (W:MO),MQ w.heap.size w W->Ni MK 258 #[dB x1 x2 x3 x4 x5 x6,Na (MI ⟨g,0,MH⟩)] W fun r w'=>r=MN (M3 (q (x1,x2,x3,x4,x5,x6)))/\MQ W.heap.size W w'):=by
  rw[hq0];exact fun x1 x2 x3 x4 x5 x6 W hb=>Fw x1 x2 x3 x4 x5 x6 n g W ((hb.cell (p:=⟨g,0,MH⟩) hglt).trans hc)
 rw[<-hq0];obtain⟨ans,hans⟩:∃ans,ans=bz (l.findIdx q) l.length:=⟨_,rfl⟩;rw[<-hans];have H:M6 _:=hans;clear hv hans hq0 hc;go_enter Tryz.func178,Tryz.ntmps178;go_wp2
 go_loopw [8] (fun i wr=>∃k:Nat,i=MF ME k/\k<=l.length/\(∀t∈l.take k,q t=Nb)/\MQ w.heap.size w wr) (fun i _=>l.length-(On i).toNat)
 case atStart=>exact⟨0,rfl,Nx _,by simp,MY _ _⟩
 case round =>
  obtain⟨k,rfl,hk,hall,hbr⟩:=hrel
  by_cases hlt:k<l.length
  ·obtain⟨b1,o1,rfl,hb1,c1,c2,c3,c4,c5,c6⟩:=pa k hlt
   have e1:=(hbr.cell (p:=⟨b1,o1+k*6,MH⟩) hb1).trans c1;have e2:=(hbr.cell (p:=⟨b1,o1+k*6+1,MH⟩) hb1).trans c2;have e3:=(hbr.cell (p:=⟨b1,o1+k*6+2,MH⟩) hb1).trans c3;have e4:=(hbr.cell (p:=⟨b1,o1+k*6+3,MH⟩) hb1).trans c4;have e5:=(hbr.cell (p:=⟨b1,o1+k*6+4,MH⟩) hb1).trans c5;have e6:=(hbr.cell (p:=⟨b1,o1+k*6+5,MH⟩) hb1).trans c6;have HA:M6 (_/\_):=⟨hall,hbr⟩;have hkI:(k:Int)<(l.length:Int):=by omega
   have htk:l.take (k+1)=l.take k++[l[k]]:=M9 hlt;have hfs:q l[k]=Nw->l.findIdx q=k:=fun h=>gJ hlt hall h
   have hxk:∃x,x=l[k]:=⟨_,rfl⟩;obtain⟨⟨x1,x2,x3,x4,x5,x6⟩,hxk⟩:=hxk;rw[<-hxk]at e1 e2 e3 e4 e5 e6 htk hfs;have HX:M6 (_/\_):=⟨htk,hfs⟩;clear hall hbr c1 c2 c3 c4 c5 c6 hb1 pa htk hfs hxk;cases hd:q (x1,x2,x3,x4,x5,x6)
   ·go_wp2_with fail
    refine(HQ.out x1 x2 x3 x4 x5 x6 _ HA.out.2).mono ?_;rw[hd];rintro r w2 ⟨rfl,hb2⟩;have H2:M6 _:=hb2;clear hb2;go_wp2
    go_roundw
    case rel =>
     refine⟨k+1,by simp,hlt,fun t ht=>?_,HA.out.2.trans (H2.out.mono HA.out.2.size)⟩;rw[HX.out.1]at ht;rcases List.mem_append.1 ht with ht|ht
     ·exact HA.out.1 t ht
     ·simp at ht
      rw[ht];exact hd
    case measure=>simp[On];omega
   ·go_wp2_with fail
    refine(HQ.out x1 x2 x3 x4 x5 x6 _ HA.out.2).mono ?_;rw[hd];rintro r w2 ⟨rfl,hb2⟩;have HE:M6 (ans=(k:Int)):=by show ans=_;rw[H.out,HX.out.2 hd];exact Nh hlt
    have H2:M6 _:=hb2;clear hb2;go_wp2;go_ret;exact⟨by rw[HE.out];rfl,HA.out.2.trans (H2.out.mono HA.out.2.size)⟩
  ·have HE:M6 (ans = -1):=by
    show ans=_;rw[H.out,ib fun t ht=>hall t (by rw[N1 (by omega)];exact ht)];exact Nf (PC _)
   have HB:M6 _:=hbr;clear hall hbr pa;go_wp2;go_ret;exact⟨by rw[HE.out];rfl,HB.out⟩
theorem kd{w:MO}{base:Nat}{e:NU}{n:Nat}{xs:List M7}(h:w.ownsRow base e k (MG p n c) n xs):n<=c/\c<=9223372036854775807:=by
 rcases h.2 with⟨e,h0⟩|⟨g,cap,cur,e,_,_,h1,h2,_⟩
 ·cases e;omega
 ·unfold NE at h2;cases e;exact⟨h1,h2⟩
theorem nO(base T:Nat)(p:Option Oc)(c:Nat)(q:Option Oc)(m:Nat)(L:List Lf)(R:List Rq)(id:Int)(w:MO)(h:ae base w T (MG p L.length c) (MG q R.length m) L R)(x1 x2 x3 x4 x5:Int)(b:Bool)
  (hx:(x1,x2,x3,x4,x5)=R[dK R id]?.getD (0,0,0,0,0)) (hb:b=Nn (dK R id<R.length)) :
  Ni MK 176 #[Na (MI ⟨T,0,MH⟩),MF ME id] w fun r w'=>r=MN (Nv #[gQ x1 x2 x3 x4 x5,M3 b])/\MQ w.heap.size w w':=by
 obtain⟨hc1,hc2⟩:=kd h.reqs;have hlt:=h.lt;obtain⟨W0,hW0⟩:∃W0,W0=(w.alloc (MP #[MF ME id] 3)).alloc (bl 0 0 0 0 0):=⟨_,rfl⟩;have hB0:MQ w.heap.size w W0:=by rw[hW0];exact((MY _ _).alloc (MV _) _).alloc (by simp) _
 have hR0:W0.heap[w.heap.size]?=MI (MP #[MF ME id] 3 (0,0)):=by rw[hW0];exact aN _ _ (M1 _ _)
 have hR1:W0.heap[w.heap.size+1]?=MI (bl 0 0 0 0 0):=by rw[hW0];exact bV _ _ _
 have hO:=h.below hB0;obtain⟨i,hi⟩:∃i,i=dK R id:=⟨_,rfl⟩;have HI:M6 (∀W,MQ W0.heap.size W0 W->Ni MK 217 #[MG q R.length m,PB (PD 218) #[] #[Na (MI ⟨w.heap.size,0,MH⟩)]] W fun r w'=>r=MN (MF ME (bz i R.length))/\MQ W.heap.size W w'):=fun W hW=>by
  rw[hi];exact yC _ R id w.heap.size W (eD.below hO.at.2 hW) (aM (af hR0 hW))
 rw[<-hi]at hx hb;have H:M6 (_/\_/\_/\_):=⟨hW0,hO,hB0,hR1⟩;obtain⟨c0,c1,_,_,_⟩:=au h.box;clear hW0 hO hB0 hR0 hR1 h hi
 by_cases hlti:i<R.length
 ·obtain rfl:b=true:=by rw[hb];exact Nq hlti
  have hidx:bz i R.length=(i:Int):=Nh hlti;rw[hidx]at HI;rw[MR hlti,OV]at hx;have hiI:(i:Int)<(R.length:Int):=by omega
  have HX:M6 _:=hx;clear hb hx hidx;go_enter Tryz.func176,Tryz.ntmps176
  go_wp2_with fail
  rw[<-H.out.1];refine(HI.out _ (MY _ _)).mono ?_;rintro r w1 ⟨rfl,hb1⟩;have hO:=H.out.2.1.below hb1;obtain⟨c0,c1,_,_,hltT⟩:=au hO.box;obtain⟨d0,d1,d2,d3,d4,dlt⟩:=bY (af H.out.2.2.2 hb1);obtain⟨g,c',he,_,hglt⟩:=hO.reqs.form (by omega);cases he;have e0:=bi iH hO.reqs rfl hlti (j:=0) (by omega);have e1:=bi iH hO.reqs rfl hlti (j:=1) (by omega);have e2:=bi iH hO.reqs rfl hlti (j:=2) (by omega);have e3:=bi iH hO.reqs rfl hlti (j:=3) (by omega);have e4:=bi iH hO.reqs rfl hlti (j:=4) (by omega);rw[<-HX.out]at e0 e1 e2 e3 e4;simp only[Od,N9,OH,Oe]at e0 e1 e2 e3 e4;have hf0:w1.frozen? ⟨w.heap.size+1,0,MH⟩=false:=by simp[Ng,af H.out.2.2.2 hb1]
  have hf1:w1.frozen? ⟨w.heap.size+1,1,MH⟩=false:=by simp[Ng,af H.out.2.2.2 hb1]
  have hf2:w1.frozen? ⟨w.heap.size+1,2,MH⟩=false:=by simp[Ng,af H.out.2.2.2 hb1]
  have hf3:w1.frozen? ⟨w.heap.size+1,3,MH⟩=false:=by simp[Ng,af H.out.2.2.2 hb1]
  have hf4:w1.frozen? ⟨w.heap.size+1,4,MH⟩=false:=by simp[Ng,af H.out.2.2.2 hb1]
  have HB:M6 (_/\_):=⟨H.out.2.2.1.trans (hb1.mono H.out.2.2.1.size),af H.out.2.2.2 hb1⟩;clear hO hb1;go_wp2;exact Np (v:=Nv #[gQ x1 x2 x3 x4 x5,M3 Nw]) (bp Tryz.results176 rfl rfl (aI (P:=MK) (cs:=[MF ME x1,MF ME x2,MF ME x3,MF ME x4,MF ME x5]) (sJ HB.out.2) Wo rfl (by kernel_rfl))) rfl ⟨rfl,tX HB.out.1 (Ps _)⟩
 ·obtain rfl:b=false:=by rw[hb];exact M0 hlti
  have hidx:bz i R.length = -1:=Nf hlti;rw[hidx]at HI;rw[Nz (by omega),Option.getD_none]at hx;cases hx;clear hb hidx;go_enter Tryz.func176,Tryz.ntmps176
  go_wp2_with fail
  rw[<-H.out.1];refine(HI.out _ (MY _ _)).mono ?_;rintro r w1 ⟨rfl,hb1⟩;obtain⟨d0,d1,d2,d3,d4,dlt⟩:=bY (af H.out.2.2.2 hb1);have hf0:w1.frozen? ⟨w.heap.size+1,0,MH⟩=false:=by simp[Ng,af H.out.2.2.2 hb1]
  have hf1:w1.frozen? ⟨w.heap.size+1,1,MH⟩=false:=by simp[Ng,af H.out.2.2.2 hb1]
  have hf2:w1.frozen? ⟨w.heap.size+1,2,MH⟩=false:=by simp[Ng,af H.out.2.2.2 hb1]
  have hf3:w1.frozen? ⟨w.heap.size+1,3,MH⟩=false:=by simp[Ng,af H.out.2.2.2 hb1]
  have hf4:w1.frozen? ⟨w.heap.size+1,4,MH⟩=false:=by simp[Ng,af H.out.2.2.2 hb1]
  have HB:M6 (_/\_):=⟨H.out.2.2.1.trans (hb1.mono H.out.2.2.1.size),af H.out.2.2.2 hb1⟩;clear hb1;go_wp2;exact Np (v:=Nv #[gQ 0 0 0 0 0,M3 Nb]) (bp Tryz.results176 rfl rfl (aI (P:=MK) (cs:=[MF ME 0,MF ME 0,MF ME 0,MF ME 0,MF ME 0]) (sJ HB.out.2) Wo rfl (by kernel_rfl))) rfl ⟨rfl,tX HB.out.1 (Ps _)⟩
theorem qg(base T:Nat)(p:Option Oc)(c:Nat)(q:Option Oc)(m:Nat)(L:List Lf)(R:List Rq)(n:Int)(w:MO)(h:ae base w T (MG p L.length c) (MG q R.length m) L R)(i:Nat)(b:Bool)(hi:i=aU L n)(hb:b=cK L n) :
  Ni MK 247 #[Na (MI ⟨T,0,MH⟩),MF ME n] w fun r w'=>r=MN (Nv #[MF ME i,M3 b])/\MQ w.heap.size w w':=by
 obtain⟨hc1,hc2⟩:=kd h.lives;have hlt:=h.lt;obtain⟨W0,hW0⟩:∃W0,W0=w.alloc (MP #[MF ME n] 3):=⟨_,rfl⟩;have hB0:MQ w.heap.size w W0:=by rw[hW0];exact ai _
 have hR0:W0.heap[w.heap.size]?=MI (MP #[MF ME n] 3 (0,0)):=by rw[hW0];exact M1 _ _
 have hO:=h.below hB0;have HI:M6 (∀W,MQ W0.heap.size W0 W->Ni MK 178 #[MG p L.length c,PB (PD 258) #[] #[Na (MI ⟨w.heap.size,0,MH⟩)]] W fun r w'=>r=MN (MF ME (bz i L.length))/\MQ W.heap.size W w'):=fun W hW=>by
  rw[hi];exact B4 _ L n w.heap.size W (eD.below hO.at.1 hW) (aM (af hR0 hW))
 have H:M6 (_/\_/\_/\_):=⟨hW0,hO,hB0,hR0⟩;obtain⟨c0,c1,_,_,_⟩:=au h.box;clear hW0 hO hB0 hR0 h
 by_cases hlti:i<L.length
 ·have hidx:bz i L.length=(i:Int):=Nh hlti
  rw[hidx]at HI;have hiI:(i:Int)<(L.length:Int):=by omega
  obtain⟨x,hx⟩:∃x,x=L[i].1:=⟨_,rfl⟩;have hbx:b=(x == n):=by
   rw[hb,hx];subst hi;unfold cK;rw[MR hlti]
  have HX:M6 (_/\_):=⟨hx,hbx⟩;clear hb hx hidx hbx hi;go_enter Tryz.func247,Tryz.ntmps247
  go_wp2_with fail
  rw[<-H.out.1];refine(HI.out _ (MY _ _)).mono ?_;rintro r w1 ⟨rfl,hb1⟩;have hO:=H.out.2.1.below hb1;obtain⟨c0,c1,_,_,hltT⟩:=au hO.box;have d0:=aM (af H.out.2.2.2 hb1);obtain⟨g,c',he,_,hglt⟩:=hO.lives.form (by omega);cases he;have e0:=bi bg hO.lives rfl hlti (j:=0) (by omega);simp only[Od,N9,OH,Oe]at e0;rw[<-HX.out.1]at e0;have HB:M6 _:=H.out.2.2.1.trans (hb1.mono H.out.2.2.1.size);clear hO hb1;go_wp2
  go_region
  go_wp2
  go_ret2
  exact⟨by rw[HX.out.2];rfl,HB.out.drew⟩
 ·have hidx:bz i L.length = -1:=Nf hlti
  rw[hidx]at HI;have hil:i=L.length:=by have:=rl L n;omega
  obtain rfl:b=false:=by
   rw[hb];unfold cK;rw[<-hi,Nz (by omega)]
  have HX:M6 _:=hil;clear hb hidx hi hil;go_enter Tryz.func247,Tryz.ntmps247
  go_wp2_with fail
  rw[<-H.out.1];refine(HI.out _ (MY _ _)).mono ?_;rintro r w1 ⟨rfl,hb1⟩;have hO:=H.out.2.1.below hb1;obtain⟨c0,c1,_,_,hltT⟩:=au hO.box;have HB:M6 _:=H.out.2.2.1.trans (hb1.mono H.out.2.2.1.size);clear hO hb1;go_wp2
  go_ret2
  exact⟨by rw[HX.out];rfl,HB.out⟩
theorem tR(base T:Nat)(p:Option Oc)(c:Nat)(q:Option Oc)(m:Nat)(L:List Lf)(R:List Rq)(n:Int)(w:MO)(h:ae base w T (MG p L.length c) (MG q R.length m) L R)(hh:cK L n=Nb) :
  Ni MK 222 #[Na (MI ⟨T,0,MH⟩),MF ME n] w fun r w'=>r=MN (Na MH)/\MQ w.heap.size w w':=by
 have HP:M6 _:=qg base T p c q m L R n w h (aU L n) Nb rfl hh.symm;generalize aU L n=i at *;clear h hh;go_enter Tryz.func222,Tryz.ntmps222
 go_wp2_with fail
 refine Nd HP.out ?_;rintro r w1 ⟨rfl,hb1⟩;have HB:M6 _:=hb1;clear hb1;go_wp2;go_ret;exact⟨rfl,HB.out⟩
theorem rD(base T g:Nat)(c:Nat)(q:Option Oc)(m:Nat)(L:List Lf)(R:List Rq)(n:Int)(w:MO)(h:ae base w T (MG (MI ⟨g,0,MH⟩) L.length c) (MG q R.length m) L R)(hh:cK L n=Nw)(i:Nat)(hi:i=aU L n) :
  Ni MK 222 #[Na (MI ⟨T,0,MH⟩),MF ME n] w fun r w'=>r=MN (Na (MI ⟨g,i*6,MH⟩))/\MQ w.heap.size w w':=by
 obtain⟨hc1,hc2⟩:=kd h.lives;have HP:M6 (_/\_):=⟨qg base T _ c q m L R n w h i Nw hi hh.symm,h⟩;have hlti:i<L.length:=by rw[hi];exact fV hh
 have hiI:(i:Int)<(L.length:Int):=by omega
 clear h hh hi;go_enter Tryz.func222,Tryz.ntmps222
 go_wp2_with fail
 refine Nd HP.out.1 ?_;rintro r w1 ⟨rfl,hb1⟩;obtain⟨c0,c1,_,_,hltT⟩:=au (HP.out.2.below hb1).box;have HB:M6 _:=hb1;clear hb1;go_wp2;go_ret;exact⟨by simp,HB.out⟩
structure aD(S:Nat->Prop)(w w':MO):Prop where
 os:w'.os=w.os
 tape:w'.tape=w.tape
 output:w'.output=w.output
 size:w.heap.size<=w'.heap.size
 block:∀g,g<w.heap.size->¬S g->w'.heap[g]?=w.heap[g]?
section
variable {S:Nat->Prop}{w w' w'':MO}
theorem gW(h:MQ w.heap.size w w'):aD S w w':=⟨h.os,h.tape,h.output,h.size,fun g hg _=>h.block g hg⟩
theorem aD.GC(h:aD S w w'){a:Oc}(ha:S a.block)(v:M7):aD S w (w'.setCell a v):=
 ⟨h.os,h.tape,h.output,by simpa using h.size,fun g hg hs=>(MU _ _ _ _ (fun e=>hs (by rw[e];exact ha))).trans (h.block g hg hs)⟩
theorem aD.GW(h:aD S w w')(o:Obj):aD S w (w'.alloc o):=
 ⟨h.os,h.tape,h.output,by simpa using Nat.le_succ_of_le h.size,fun g hg hs=>(Ov _ _ _ (M8 hg h.size)).trans (h.block g hg hs)⟩
theorem aD.GY(h:aD S w w'):aD S w w'.drew:=⟨h.os,h.tape,h.output,h.size,h.block⟩
theorem aD.IZ{row:Option Nat}(h:aD S w w')(hg:w'.grownBy w'' row)(hr:∀g,row=MI g->g<w.heap.size->S g):aD S w w'' :=
 ⟨hg.os.trans h.os,hg.tape.trans h.tape,hg.output.trans h.output,Nm h.size hg.size,fun g hlt hs=>(hg.block g (M8 hlt h.size) (fun e=>hs (hr g e.symm hlt))).trans (h.block g hlt hs)⟩
theorem aD.below(h:aD S w w')(hB:B<=w.heap.size)(hS:∀g,S g->B<=g):MQ B w w' :=
 ⟨h.os,h.tape,h.output,h.size,fun g hg=>h.block g (M8 hg hB) (fun hs=>by have:=hS g hs;omega)⟩
theorem aD.box(h:aD S w w'){o:Obj}(hg:w.heap[g]?=MI o)(hs:¬S g):w'.heap[g]?=MI o:=(h.block g (Array.getElem?_eq_some_iff.1 hg).1 hs).trans hg
end
def fm(T:Nat)(v:M7)(g:Nat):Prop:=g=T\/v.ownBlock=MI g
theorem ae.Gd{base:Nat}{W:MO}{T n:Nat}{vb:M7}{L:List Lf}{R:List Rq}(h:ae base W T (MG (MI ⟨g,0,MH⟩) n c) vb L R)(hi:i<L.length)(hj:j<6)(a:Int)(y:Lf)(hy:az y=(az L[i]).set j a):
  ae base (W.setCell ⟨g,i*6+j,MH⟩ (MF ME a)) T (MG (MI ⟨g,0,MH⟩) n c) vb (L.set i y) R:=by
 have hg:g≠T:=fun e=>h.offL (by rw[e];rfl)
 have hn:n=L.length:=by
  rcases h.lives.2 with⟨e,_⟩|⟨g',cap,cur,e,_⟩
  ·cases e
  ·injection e
 refine⟨(MU _ _ _ _ (fun e=>hg e.symm)).trans h.box,?_,aw h.reqs (fun b hb=>MU _ _ _ _ (fun e=>h.apart g rfl (by rw[hb,e]))),h.offL,h.offR,h.apart,h.hT⟩;rw[NA,<-hn];have hl:=h.lives;rw[<-hn]at hl;exact DW bg hl hi hj a y hy
theorem ae.GY{base:Nat}{W:MO}{T:Nat}{va vb:M7}{L:List Lf}{R:List Rq}(h:ae base W T va vb L R):ae base W.drew T va vb L R:=⟨h.box,h.lives,h.reqs,h.offL,h.offR,h.apart,h.hT⟩
theorem ml{base:Nat}{W:MO}{T n:Nat}{vb:M7}{L:List Lf}{R:List Rq}{x1 s x3 x4 x5 x6:Int}(h:ae base W T (MG (MI ⟨g,0,MH⟩) n c) vb (L.set i (x1,s,x3,x4,x5,x6)) R)(hi:i<L.length)(u id:Int):
  ae base ((W.setCell ⟨g,i*6+4,MH⟩ (MF ME u)).setCell ⟨g,i*6+5,MH⟩ (MF ME id)) T (MG (MI ⟨g,0,MH⟩) n c) vb (L.set i (x1,s,x3,x4,u,id)) R /\
  ae base ((W.setCell ⟨g,i*6+5,MH⟩ (MF ME id)).setCell ⟨g,i*6+4,MH⟩ (MF ME u)) T (MG (MI ⟨g,0,MH⟩) n c) vb (L.set i (x1,s,x3,x4,u,id)) R:=by
 constructor
 ·have h2:=h.Gd (i:=i) (by simpa using hi) (j:=4) (by omega) u (x1,s,x3,x4,u,x6) (by simp)
  have h3:=h2.Gd (i:=i) (by simpa using hi) (j:=5) (by omega) id (x1,s,x3,x4,u,id) (by simp)
  simpa using h3
 ·have h2:=h.Gd (i:=i) (by simpa using hi) (j:=5) (by omega) id (x1,s,x3,x4,x5,id) (by simp)
  have h3:=h2.Gd (i:=i) (by simpa using hi) (j:=4) (by omega) u (x1,s,x3,x4,u,id) (by simp)
  simpa using h3
theorem zT(base T:Nat)(p:Option Oc)(c:Nat)(q:Option Oc)(m:Nat)(L:List Lf)(R:List Rq)(r1 r2 r3 r4 r5 u:Int)(w:MO)(h:ae base w T (MG p L.length c) (MG q R.length m) L R)(hok:fy L)(L':List Lf)(e:Int)(hout:ec L r3 r1 u=(L',e)) :
  Ni MK 220 #[Na (MI ⟨T,0,MH⟩),gQ r1 r2 r3 r4 r5,MF ME u] w fun r w'=>r=MN (MF ME e)/\ae base w' T (MG p L.length c) (MG q R.length m) L' R/\aD (fm T (MG p L.length c)) w w':=by
 obtain⟨W0,hW0⟩:∃W0,W0=w.alloc (bl r1 r2 r3 r4 r5):=⟨_,rfl⟩;have hB0:MQ w.heap.size w W0:=by rw[hW0];exact ai _
 have hR0:W0.heap[w.heap.size]?=MI (bl r1 r2 r3 r4 r5):=by rw[hW0];exact M1 _ _
 have hO:=h.below hB0;have H:M6 (_/\_/\_/\_):=⟨hW0,hO,hB0,hR0⟩;clear hW0 hB0 hR0 hO;cases hh:cK L r3
 ·have hE:L'=L/\e=8:=by
   unfold ec at hout;rw[hh]at hout;injection hout with h1 h2;exact⟨h1.symm,h2.symm⟩
  obtain⟨rfl,rfl⟩:=hE;have HL:M6 (∀W,MQ W0.heap.size W0 W->_):=fun W hW=>tR base T p c q m L' R r3 W (H.out.2.1.below hW) hh
  clear h hout hh hok;go_enter Uh,T7
  go_wp2_with fail
  rw[<-H.out.1];refine(HL.out _ (MY _ _)).mono ?_;rintro r w1 ⟨rfl,hb1⟩;have HB:M6 (_/\_):=⟨H.out.2.1.below hb1,gW (S:=fm T (MG p L'.length c)) (H.out.2.2.1.trans (hb1.mono H.out.2.2.1.size))⟩;clear hb1;go_wp2;go_ret;exact⟨rfl,HB.out.1,HB.out.2⟩
 ·obtain⟨i,hi⟩:∃i,i=aU L r3:=⟨_,rfl⟩
  have hlti:i<L.length:=by rw[hi];exact fV hh
  obtain⟨g,c',he,_,hglt⟩:=h.lives.form (by omega);cases he;obtain⟨⟨x1,x2,x3,x4,x5,x6⟩,hx⟩:∃x,x=L[i]:=⟨_,rfl⟩;have hst:x2=1\/x2=2\/x2=3\/x2=4:=by
   have:=(hok.1 _ (Nk hlti)).2;rw[<-hx]at this;rcases this with h|h|h|h
   ·exact Nt h.1
   ·exact NF (Nt h.1)
   ·exact NF (NF (Nt h))
   ·exact NF (NF (NF h))
  have hout2:(if x2=4 then(L,(8:Int))else if x2=3 then(L,12)else(L.set i (x1,if x2=2 then 3 else 4,x3,x4,u,r1),0))=(L',e):=by
   rw[<-hout];unfold ec;rw[hh,Nh rfl,<-hi,MR hlti,OV,<-hx];rfl
  have HL:M6 (∀W,MQ W0.heap.size W0 W->_):=fun W hW=>rD base T g c q m L R r3 W (H.out.2.1.below hW) hh i hi
  have HX:M6 (_/\_):=⟨hx,hlti⟩;clear h hout hh hok hi hx;rcases hst with rfl|rfl|rfl|rfl
  ·obtain⟨rfl,rfl⟩:L'=L.set i (x1,4,x3,x4,u,r1)/\e=0:=by
    rw[Nf (by decide),Nf (by decide)]at hout2;injection hout2 with h1 h2;exact⟨h1.symm,h2.symm⟩
   clear hout2;go_enter Uh,T7
   go_wp2_with fail
   rw[<-H.out.1];refine(HL.out _ (MY _ _)).mono ?_;rintro r w1 ⟨rfl,hb1⟩;have hO:=H.out.2.1.below hb1;have e1:=bi bg hO.lives rfl hlti (j:=1) (by omega);have e4:=bi bg hO.lives rfl hlti (j:=4) (by omega);have e5:=bi bg hO.lives rfl hlti (j:=5) (by omega);rw[<-HX.out.1]at e1 e4 e5;simp only[Od,N9,OH,Oe]at e1 e4 e5;have f1:=hO.lives.frozenAt (i*6+1);have f4:=hO.lives.frozenAt (i*6+4);have f5:=hO.lives.frozenAt (i*6+5);obtain⟨d0,d1,d2,d3,d4,dlt⟩:=bY (af H.out.2.2.2 hb1);have hgw:g≠w.heap.size:=by omega
   have HB:M6 (_/\_):=⟨hO,gW (S:=fm T (MG (MI ⟨g,0,MH⟩) L.length c)) (H.out.2.2.1.trans (hb1.mono H.out.2.2.1.size))⟩;clear hb1 hO;obtain⟨W2,hW2⟩:∃W2,W2=w1.setCell ⟨g,i*6+1,MH⟩ (MF ME 4):=⟨_,rfl⟩;have hO2:ae base W2 T (MG (MI ⟨g,0,MH⟩) L.length c) (MG q R.length m) (L.set i (x1,4,x3,x4,x5,x6)) R:=by rw[hW2];exact HB.out.1.Gd hlti (j:=1) (by omega) 4 (x1,4,x3,x4,x5,x6) (by rw[<-HX.out.1];rfl)
   have k0:W2.cell? ⟨w.heap.size,0,MH⟩=MI (MF ME r1):=by rw[hW2];exact(NG (MU _ _ _ _ (fun e=>hgw e.symm))).trans d0
   have hl2:(L.set i (x1,4,x3,x4,x5,x6)).length=L.length:=NA;have hL2:=hO2.lives;rw[hl2]at hL2;have k4:=bi bg hL2 hl2.symm (i:=i) (by rw[hl2];exact hlti) (j:=4) (by omega);have k5:=bi bg hL2 hl2.symm (i:=i) (by rw[hl2];exact hlti) (j:=5) (by omega);simp only[NW,Od,N9,OH,Oe]at k4 k5;have l4:W2.frozen? ⟨g,i*6+4,MH⟩=false:=hL2.frozenAt (i*6+4);have l5:W2.frozen? ⟨g,i*6+5,MH⟩=false:=hL2.frozenAt (i*6+5);have H2:M6 (_/\_):=⟨hO2,hW2 ▸ HB.out.2.GC (a:=⟨g,i*6+1,MH⟩) (NF rfl) (MF ME 4)⟩;clear hO2 hl2 hL2;go_wp2;rw[<-hW2];clear hW2 e1 e4 e5 f1 f4 f5 d0 d1 d2 d3 d4
   go_region
   all_goals
    go_wp2;go_ret;refine⟨rfl,?_,?_⟩
    ·first
     |with_reducible exact(ml H2.out.1 hlti u r1).1.GY
     |with_reducible exact(ml H2.out.1 hlti u r1).2.drew
    ·first
     |exact((H2.out.2.GC (a:=⟨g,i*6+4,MH⟩) (NF rfl) _).GC (a:=⟨g,i*6+5,MH⟩) (NF rfl) _).GY
     |exact((H2.out.2.setCell (a:=⟨g,i*6+5,none⟩) (Or.inr rfl) _).setCell (a:=⟨g,i*6+4,none⟩) (Or.inr rfl) _).drew
  ·obtain⟨rfl,rfl⟩:L'=L.set i (x1,3,x3,x4,u,r1)/\e=0:=by
    rw[Nf (by decide),Nf (by decide)]at hout2;injection hout2 with h1 h2;exact⟨h1.symm,h2.symm⟩
   clear hout2;go_enter Uh,T7
   go_wp2_with fail
   rw[<-H.out.1];refine(HL.out _ (MY _ _)).mono ?_;rintro r w1 ⟨rfl,hb1⟩;have hO:=H.out.2.1.below hb1;have e1:=bi bg hO.lives rfl hlti (j:=1) (by omega);have e4:=bi bg hO.lives rfl hlti (j:=4) (by omega);have e5:=bi bg hO.lives rfl hlti (j:=5) (by omega);rw[<-HX.out.1]at e1 e4 e5;simp only[Od,N9,OH,Oe]at e1 e4 e5;have f1:=hO.lives.frozenAt (i*6+1);have f4:=hO.lives.frozenAt (i*6+4);have f5:=hO.lives.frozenAt (i*6+5);obtain⟨d0,d1,d2,d3,d4,dlt⟩:=bY (af H.out.2.2.2 hb1);have hgw:g≠w.heap.size:=by omega
   have HB:M6 (_/\_):=⟨hO,gW (S:=fm T (MG (MI ⟨g,0,MH⟩) L.length c)) (H.out.2.2.1.trans (hb1.mono H.out.2.2.1.size))⟩;clear hb1 hO;obtain⟨W2,hW2⟩:∃W2,W2=w1.setCell ⟨g,i*6+1,MH⟩ (MF ME 3):=⟨_,rfl⟩;have hO2:ae base W2 T (MG (MI ⟨g,0,MH⟩) L.length c) (MG q R.length m) (L.set i (x1,3,x3,x4,x5,x6)) R:=by rw[hW2];exact HB.out.1.Gd hlti (j:=1) (by omega) 3 (x1,3,x3,x4,x5,x6) (by rw[<-HX.out.1];rfl)
   have k0:W2.cell? ⟨w.heap.size,0,MH⟩=MI (MF ME r1):=by rw[hW2];exact(NG (MU _ _ _ _ (fun e=>hgw e.symm))).trans d0
   have hl2:(L.set i (x1,3,x3,x4,x5,x6)).length=L.length:=NA;have hL2:=hO2.lives;rw[hl2]at hL2;have k4:=bi bg hL2 hl2.symm (i:=i) (by rw[hl2];exact hlti) (j:=4) (by omega);have k5:=bi bg hL2 hl2.symm (i:=i) (by rw[hl2];exact hlti) (j:=5) (by omega);simp only[NW,Od,N9,OH,Oe]at k4 k5;have l4:W2.frozen? ⟨g,i*6+4,MH⟩=false:=hL2.frozenAt (i*6+4);have l5:W2.frozen? ⟨g,i*6+5,MH⟩=false:=hL2.frozenAt (i*6+5);have H2:M6 (_/\_):=⟨hO2,hW2 ▸ HB.out.2.GC (a:=⟨g,i*6+1,MH⟩) (NF rfl) (MF ME 3)⟩;clear hO2 hl2 hL2;go_wp2;rw[<-hW2];clear hW2 e1 e4 e5 f1 f4 f5 d0 d1 d2 d3 d4
   go_region
   all_goals
    go_wp2;go_ret;refine⟨rfl,?_,?_⟩
    ·first
     |with_reducible exact(ml H2.out.1 hlti u r1).1.GY
     |with_reducible exact(ml H2.out.1 hlti u r1).2.drew
    ·first
     |exact((H2.out.2.GC (a:=⟨g,i*6+4,MH⟩) (NF rfl) _).GC (a:=⟨g,i*6+5,MH⟩) (NF rfl) _).GY
     |exact((H2.out.2.setCell (a:=⟨g,i*6+5,none⟩) (Or.inr rfl) _).setCell (a:=⟨g,i*6+4,none⟩) (Or.inr rfl) _).drew
  ·obtain⟨rfl,rfl⟩:L'=L/\e=12:=by
    rw[Nf (by decide),Nh rfl]at hout2;injection hout2 with h1 h2;exact⟨h1.symm,h2.symm⟩
   clear hout2;go_enter Uh,T7
   go_wp2_with fail
   rw[<-H.out.1];refine(HL.out _ (MY _ _)).mono ?_;rintro r w1 ⟨rfl,hb1⟩;have hO:=H.out.2.1.below hb1;have e1:=bi bg hO.lives rfl hlti (j:=1) (by omega);have e4:=bi bg hO.lives rfl hlti (j:=4) (by omega);have e5:=bi bg hO.lives rfl hlti (j:=5) (by omega);rw[<-HX.out.1]at e1 e4 e5;simp only[Od,N9,OH,Oe]at e1 e4 e5;have f1:=hO.lives.frozenAt (i*6+1);have f4:=hO.lives.frozenAt (i*6+4);have f5:=hO.lives.frozenAt (i*6+5);obtain⟨d0,d1,d2,d3,d4,dlt⟩:=bY (af H.out.2.2.2 hb1);have hgw:g≠w.heap.size:=by omega
   have HB:M6 (_/\_):=⟨hO,gW (S:=fm T (MG (MI ⟨g,0,MH⟩) L'.length c)) (H.out.2.2.1.trans (hb1.mono H.out.2.2.1.size))⟩;clear hb1 hO;go_wp2;go_ret;exact⟨rfl,HB.out.1,HB.out.2⟩
  ·obtain⟨rfl,rfl⟩:L'=L/\e=8:=by
    rw[Nh rfl]at hout2;injection hout2 with h1 h2;exact⟨h1.symm,h2.symm⟩
   clear hout2;go_enter Uh,T7
   go_wp2_with fail
   rw[<-H.out.1];refine(HL.out _ (MY _ _)).mono ?_;rintro r w1 ⟨rfl,hb1⟩;have hO:=H.out.2.1.below hb1;have e1:=bi bg hO.lives rfl hlti (j:=1) (by omega);have e4:=bi bg hO.lives rfl hlti (j:=4) (by omega);have e5:=bi bg hO.lives rfl hlti (j:=5) (by omega);rw[<-HX.out.1]at e1 e4 e5;simp only[Od,N9,OH,Oe]at e1 e4 e5;have f1:=hO.lives.frozenAt (i*6+1);have f4:=hO.lives.frozenAt (i*6+4);have f5:=hO.lives.frozenAt (i*6+5);obtain⟨d0,d1,d2,d3,d4,dlt⟩:=bY (af H.out.2.2.2 hb1);have hgw:g≠w.heap.size:=by omega
   have HB:M6 (_/\_):=⟨hO,gW (S:=fm T (MG (MI ⟨g,0,MH⟩) L'.length c)) (H.out.2.2.1.trans (hb1.mono H.out.2.2.1.size))⟩;clear hb1 hO;go_wp2;go_ret;exact⟨rfl,HB.out.1,HB.out.2⟩
abbrev tB(W:MO)(g o:Nat)(a b c d e f:M7):World:=(((((W.setCell ⟨g,o,MH⟩ a).setCell ⟨g,o+1,MH⟩ b).setCell ⟨g,o+2,MH⟩ c).setCell ⟨g,o+3,MH⟩ d).setCell ⟨g,o+4,MH⟩ e).setCell ⟨g,o+5,MH⟩ f
theorem ae.IG{base:Nat}{W:MO}{T n:Nat}{vb:M7}{L:List Lf}{R:List Rq}(h:ae base W T (MG (MI ⟨g,0,MH⟩) n c) vb L R)(hi:i<L.length)(y1 y2 y3 y4 y5 y6:Int):
  ae base (tB W g (i*6) (MF ME y1) (MF ME y2) (MF ME y3) (MF ME y4) (MF ME y5) (MF ME y6)) T (MG (MI ⟨g,0,MH⟩) n c) vb (L.set i (y1,y2,y3,y4,y5,y6)) R:=by
 obtain⟨x1,x2,x3,x4,x5,x6,hx⟩:∃x1 x2 x3 x4 x5 x6,L[i]=(x1,x2,x3,x4,x5,x6):=⟨_,_,_,_,_,_,rfl⟩;have h0:=h.Gd hi (j:=0) (by omega) y1 (y1,x2,x3,x4,x5,x6) (by rw[hx];rfl);have h1:=h0.Gd (i:=i) (by simpa using hi) (j:=1) (by omega) y2 (y1,y2,x3,x4,x5,x6) (by simp);have h2:=h1.Gd (i:=i) (by simpa using hi) (j:=2) (by omega) y3 (y1,y2,y3,x4,x5,x6) (by simp);have h3:=h2.Gd (i:=i) (by simpa using hi) (j:=3) (by omega) y4 (y1,y2,y3,y4,x5,x6) (by simp);have h4:=h3.Gd (i:=i) (by simpa using hi) (j:=4) (by omega) y5 (y1,y2,y3,y4,y5,x6) (by simp);have h5:=h4.Gd (i:=i) (by simpa using hi) (j:=5) (by omega) y6 (y1,y2,y3,y4,y5,y6) (by simp)
 simpa only[List.set_set,Oe]using h5
theorem aD.Gd{S:Nat->Prop}{w w':MO}(h:aD S w w'){o:Nat}(hg:g<w.heap.size->S g)(v:M7):aD S w (w'.setCell ⟨g,o,MH⟩ v):=
 ⟨h.os,h.tape,h.output,by simpa using h.size,fun b hb hs=>(MU _ _ _ _ (fun e=>hs (by rw[e];exact hg (by rw[e]at hb;exact hb)))).trans (h.block b hb hs)⟩
theorem aD.IL{S:Nat->Prop}{w W:MO}(h:aD S w W){o:Nat}(hg:g<w.heap.size->S g)(a b c d e f:M7):aD S w (tB W g o a b c d e f):=
 (((((h.Gd hg _).Gd hg _).Gd hg _).Gd hg _).Gd hg _).Gd hg _
theorem ae.GW{base:Nat}{W:MO}{T:Nat}{va vb:M7}{L:List Lf}{R:List Rq}(h:ae base W T va vb L R)(o:Obj):ae base (W.alloc o) T va vb L R:=h.below (ai _)
theorem zv{L:List Lf}{z:Lf}(hi:i<=L.length):(aT L z i).set i y=aT L y i:=by
 unfold aT;rw[Pw _ _ (by rw[NH];omega)];simp[NH,P1 hi]
theorem gX{L:List Lf}(hi:i<=L.length):(aT L y i).length=L.length+1:=by
 unfold aT;simp;omega
theorem DB(base T:Nat)(p:Option Oc)(c:Nat)(q:Option Oc)(m:Nat)(L:List Lf)(R:List Rq)(r1 r2 r3 r4 r5:Int)(w:MO)(hbase:base<=w.heap.size)(h:ae base w T (MG p L.length c) (MG q R.length m) L R)(hlen:L.length<=900)(L':List Lf)(e:Int)(hout:gE L r3 r4=(L',e)) :
  Ni MK 219 #[Na (MI ⟨T,0,MH⟩),gQ r1 r2 r3 r4 r5] w fun r w'=>r=MN (MF ME e)/\(∃p' c',ae base w' T (MG p' L'.length c') (MG q R.length m) L' R/\∀b,(MG p' L'.length c').ownBlock=MI b->(MG p L.length c).ownBlock=MI b\/w.heap.size<=b)/\aD (fm T (MG p L.length c)) w w':=by
 obtain⟨W0,hW0⟩:∃W0,W0=w.alloc (bl r1 r2 r3 r4 r5):=⟨_,rfl⟩;have hB0:MQ w.heap.size w W0:=by rw[hW0];exact ai _
 have hR0:W0.heap[w.heap.size]?=MI (bl r1 r2 r3 r4 r5):=by rw[hW0];exact M1 _ _
 have hO:=h.below hB0;have hTlt:=h.lt;have H:M6 (_/\_/\_/\_):=⟨hW0,hO,hB0,hR0⟩;obtain⟨a0,a1,a2,a3,a4,alt⟩:=bY hR0;clear hW0 hB0 hR0 hO;cases h1:Nn (0<=r3/\r3<=11)
 case false =>
  obtain⟨rfl,rfl⟩:L'=L/\e=2:=by
   unfold gE at hout;rw[Nh (Nt (Nc h1))]at hout;injection hout with h1 h2;exact⟨h1.symm,h2.symm⟩
  clear h hout;go_enter VB,Vu
  go_wp2_with fail
  rw[<-H.out.1];refine(gp _ _).mono ?_;rw[h1];rintro r w1 ⟨rfl,rfl⟩;go_wp2;go_ret;exact⟨rfl,⟨_,_,H.out.2.1,fun b hb=>Nt hb⟩,gW H.out.2.2.1⟩
 cases h2:Nn (1<=r4/\r4<=8)
 case false =>
  obtain⟨rfl,rfl⟩:L'=L/\e=2:=by
   unfold gE at hout;rw[Nh (NF (Nc h2))]at hout;injection hout with h1 h2;exact⟨h1.symm,h2.symm⟩
  clear h hout;go_enter VB,Vu
  go_wp2_with fail
  rw[<-H.out.1];refine(gp _ _).mono ?_;rw[h1];rintro r w1 ⟨rfl,rfl⟩
  go_wp2_with fail
  refine(ij _ _).mono ?_;rw[h2];rintro r w1 ⟨rfl,rfl⟩;go_wp2;go_ret;exact⟨rfl,⟨_,_,H.out.2.1,fun b hb=>Nt hb⟩,gW H.out.2.2.1⟩
 have hout2:(if cK L r3=Nw then(if(L[aU L r3]?.getD (0,0,0,0,0,0)).2.1=4 then(L.set (aU L r3) (r3,1,r4,0,0,0),(0:Int))else(L,7))else(aT L (r3,1,r4,0,0,0) (aU L r3),0))=(L',e):=by
  rw[<-hout];unfold gE;rw[Nf (c:=¬(0<=r3/\r3<=11)\/¬(1<=r4/\r4<=8)) (by rintro(h|h);exact h (M2 h1);exact h (M2 h2))]
 clear hout;obtain⟨i,hi⟩:∃i,i=aU L r3:=⟨_,rfl⟩;have hile:i<=L.length:=by rw[hi];exact rl L r3
 have hcap:=(kd h.lives);obtain⟨hc1,hc2⟩:=hcap;have ent:∀b,b=cK L r3->M6 (∀W,MQ W0.heap.size W0 W->Ni MK 247 #[Na (MI ⟨T,0,MH⟩),MF ME r3] W fun r w'=>r=MN (Nv #[MF ME i,M3 b])/\MQ W.heap.size W w'):=fun b hb W hW=>qg base T p c q m L R r3 W (H.out.2.1.below hW) i b hi hb
 cases hh:cK L r3
 case true =>
  have HP:=ent Nw hh.symm;have hlti:i<L.length:=by rw[hi];exact fV hh
  have hiI:(i:Int)<(L.length:Int):=by omega
  obtain⟨g,c',he,_,hglt⟩:=h.lives.form (by omega);cases he;obtain⟨⟨x1,x2,x3,x4,x5,x6⟩,hx⟩:∃x,x=L[i]:=⟨_,rfl⟩;rw[hh,Nh rfl,<-hi,MR hlti,OV,<-hx]at hout2;have HX:M6 _:=hx;have hgT:T≠g:=fun e=>h.offL (by rw[e];rfl)
  clear h ent hh hi hx
  by_cases h4:x2=4
  ·subst h4
   obtain⟨rfl,rfl⟩:L'=L.set i (r3,1,r4,0,0,0)/\e=0:=by
    rw[Nh rfl]at hout2;injection hout2 with h1 h2;exact⟨h1.symm,h2.symm⟩
   clear hout2;go_enter VB,Vu
   go_wp2_with fail
   rw[<-H.out.1];refine(gp _ _).mono ?_;rw[h1];rintro r w1 ⟨rfl,rfl⟩
   go_wp2_with fail
   refine(ij _ _).mono ?_;rw[h2];rintro r w1 ⟨rfl,rfl⟩
   go_wp2_with fail
   refine(HP.out _ (MY _ _)).mono ?_;rintro r w1 ⟨rfl,hb1⟩;have hO:=H.out.2.1.below hb1;obtain⟨b0,b1,_,_,hltT⟩:=au hO.box;clear a0 a1 a2 a3 a4 alt;obtain⟨a0,a1,a2,a3,a4,alt⟩:=bY (af H.out.2.2.2 hb1);have e0:=bi bg hO.lives rfl hlti (j:=0) (by omega);have e1:=bi bg hO.lives rfl hlti (j:=1) (by omega);have e2:=bi bg hO.lives rfl hlti (j:=2) (by omega);have e3:=bi bg hO.lives rfl hlti (j:=3) (by omega);have e4:=bi bg hO.lives rfl hlti (j:=4) (by omega);have e5:=bi bg hO.lives rfl hlti (j:=5) (by omega);rw[<-HX.out]at e0 e1 e2 e3 e4 e5;simp only[Od,N9,OH,Oe]at e0 e1 e2 e3 e4 e5;have f0:=hO.lives.frozenAt (i*6);have f1:=hO.lives.frozenAt (i*6+1);have f2:=hO.lives.frozenAt (i*6+2);have f3:=hO.lives.frozenAt (i*6+3);have f4:=hO.lives.frozenAt (i*6+4);have f5:=hO.lives.frozenAt (i*6+5);have hgB:w.heap.size≠g:=by omega
   have hg1:g<w1.heap.size:=(hO.lives.lt g rfl).2;have HB:M6 (_/\_):=⟨hO,gW (S:=fm T (MG (MI ⟨g,0,MH⟩) L.length c)) (H.out.2.2.1.trans (hb1.mono H.out.2.2.1.size))⟩;clear hb1 hO
   go_upto_region 8 with fail
   go_region_with (first|(go_at_call 249;refine(qE _ _ _).mono ?_;rintro r w5 ⟨rfl,rfl⟩))
   all_goals
    go_wp2;go_ret;refine⟨rfl,⟨MI ⟨g,0,MH⟩,c,?_,fun b hb=>Nt hb⟩,?_⟩
    ·rw[NA]
     exact((HB.out.1.IG hlti r3 1 r4 0 0 0).GW _).GY
    ·exact((HB.out.2.IL (g:=g) (fun _=>NF rfl) _ _ _ _ _ _).GW _).GY
  ·obtain⟨rfl,rfl⟩:L'=L/\e=7:=by
    rw[Nf h4]at hout2;injection hout2 with h1 h2;exact⟨h1.symm,h2.symm⟩
   have hne:(x2 != 4)=true:=by simpa using h4
   clear hout2;go_enter VB,Vu
   go_wp2_with fail
   rw[<-H.out.1];refine(gp _ _).mono ?_;rw[h1];rintro r w1 ⟨rfl,rfl⟩
   go_wp2_with fail
   refine(ij _ _).mono ?_;rw[h2];rintro r w1 ⟨rfl,rfl⟩
   go_wp2_with fail
   refine(HP.out _ (MY _ _)).mono ?_;rintro r w1 ⟨rfl,hb1⟩;have hO:=H.out.2.1.below hb1;obtain⟨b0,b1,_,_,hltT⟩:=au hO.box;have e1:=bi bg hO.lives rfl hlti (j:=1) (by omega);rw[<-HX.out]at e1;simp only[Od,N9,OH,Oe]at e1;have HB:M6 (_/\_):=⟨hO,gW (S:=fm T (MG (MI ⟨g,0,MH⟩) L'.length c)) (H.out.2.2.1.trans (hb1.mono H.out.2.2.1.size))⟩;clear hb1 hO;go_wp2;go_ret;exact⟨rfl,⟨_,_,HB.out.1,fun b hb=>Nt hb⟩,HB.out.2⟩
 case false =>
  have HP:=ent Nb hh.symm;obtain⟨rfl,rfl⟩:L'=aT L (r3,1,r4,0,0,0) i/\e=0:=by
   rw[hh,Nf (by decide),<-hi]at hout2;injection hout2 with h1 h2;exact⟨h1.symm,h2.symm⟩
  have hvlt:∀g,(MG p L.length c).ownBlock=MI g->g<w.heap.size:=fun g e=>(h.lives.lt g e).2
  have HVL:M6 _:=hvlt;clear h ent hh hi hout2 hvlt;go_enter VB,Vu
  go_wp2_with fail
  rw[<-H.out.1];refine(gp _ _).mono ?_;rw[h1];rintro r w1 ⟨rfl,rfl⟩
  go_wp2_with fail
  refine(ij _ _).mono ?_;rw[h2];rintro r w1 ⟨rfl,rfl⟩
  go_wp2_with fail
  refine(HP.out _ (MY _ _)).mono ?_;rintro r w1 ⟨rfl,hb1⟩;have hO:=H.out.2.1.below hb1;obtain⟨b0,b1,_,_,hltT⟩:=au hO.box;have hw1T:w.heap.size<w1.heap.size:=M8 alt hb1.size;clear a0 a1 a2 a3 a4 alt;have hbw:=H.out.2.2.1.trans (hb1.mono H.out.2.2.1.size);obtain⟨w2,hw2⟩:∃w2,w2=w1.alloc (fj 0 0 0 0 0 0):=⟨_,rfl⟩;have hb2:MQ w1.heap.size w1 w2:=by rw[hw2];exact ai _
  have hz2:w2.heap[w1.heap.size]?=MI (fj 0 0 0 0 0 0):=by rw[hw2];exact M1 _ _
  have hO2:=hO.below hb2;have hbox2:=af (af H.out.2.2.2 hb1) hb2;have hIns:=Aj base (MG p L.length c) L (0,0,0,0,0,0) #[MF ME 0,MF ME 0,MF ME 0,MF ME 0,MF ME 0,MF ME 0] rfl i w1.heap.size w2 hO2.lives (Nm hbase (Nm hbw.size hb2.size)) hile (fun e=>by have:=(hO.lives.lt _ e).2;omega) hz2 (by omega);have HB:M6 (_/\_/\_/\_):=⟨hO2,gW (S:=fm T (MG p L.length c)) (hbw.trans (hb2.mono hbw.size)),hbox2,hIns⟩;clear hb1 hO hb2 hz2 hO2 hbox2 hIns hbw
  go_wp2_with fail
  rw[<-hw2];refine HB.out.2.2.2.mono ?_;rintro r w3 ⟨g,cap,rfl,ho3,hg3,hlies⟩;have hO2:=HB.out.1;have hTg:T≠g:=by
   rcases hlies with e|e
   ·exact fun e2=>hO2.offL (by rw[e,e2])
   ·have:=hO2.lt;omega
  have hwg:w.heap.size≠g:=by
   rcases hlies with e|e
   ·have:=HVL.out g e;omega
   ·have:=(Array.getElem?_eq_some_iff.1 HB.out.2.2.1).1;omega
  have hbox3:w3.heap[T]?=MI (MP #[MG p L.length c,MG q R.length m] 253 (0,0)):=(hg3.block T hO2.lt (fun e=>hO2.offL e.symm)).trans hO2.box;have hrq3:w3.heap[w.heap.size]?=MI (bl r1 r2 r3 r4 r5):=(hg3.block _ (Array.getElem?_eq_some_iff.1 HB.out.2.2.1).1 (fun e=>by have:=HVL.out _ e.symm;omega)).trans HB.out.2.2.1;obtain⟨t0,t1,tf0,tf1,hlt3⟩:=au hbox3;obtain⟨w4,hw4⟩:∃w4,w4=w3.setCell ⟨T,0,MH⟩ (MG (MI ⟨g,0,MH⟩) (L.length+1) cap):=⟨_,rfl⟩;have hk4:aD (fm T (MG p L.length c)) w w4:=by
   rw[hw4];exact(HB.out.2.1.IZ hg3 (fun b e _=>NF e)).GC (a:=⟨T,0,MH⟩) (Nt rfl) _
  have hO4:ae base w4 T (MG (MI ⟨g,0,MH⟩) (L.length+1) cap) (MG q R.length m) (aT L (0,0,0,0,0,0) i) R:=by
   rw[hw4];refine⟨?_,?_,?_,?_,hO2.offR,?_,hO2.hT⟩
   ·exact NI w3 T 0 _ _ _ hbox3
   ·rw[gX hile]
    exact aw ho3 (fun b hb=>MU _ _ _ _ (fun e=>hTg (by cases hb;exact e.symm)))
   ·refine aw (aw hO2.reqs (w':=w3) fun b hb=>hg3.block b (hO2.reqs.lt b hb).2 (fun e=>hO2.apart b e.symm hb)) (fun b hb=>MU _ _ _ _ (fun e=>hO2.offR (by rw[hb,e])))
   ·intro e;cases e;exact hTg rfl
   ·intro b hb e
    cases hb;rcases hlies with e2|e2
    ·exact hO2.apart _ e2 e
    ·have:=(hO2.reqs.lt g e).2;omega
  have hrq4:w4.heap[w.heap.size]?=MI (bl r1 r2 r3 r4 r5):=by rw[hw4];exact(MU _ _ _ _ (by show w.heap.size≠T;omega)).trans hrq3
  obtain⟨a0,a1,a2,a3,a4,alt⟩:=bY hrq4;obtain⟨b0',b1',_,_,hltT4⟩:=au hO4.box;have hil:i<(aT L (0,0,0,0,0,0) i).length:=by rw[gX hile];omega
  have hlv:=hO4.lives;rw[gX hile]at hlv;have hcap4:=kd hlv;obtain⟨hcp1,hcp2⟩:=hcap4;have e0:=bi bg hlv (gX hile).symm hil (j:=0) (by omega);have e1:=bi bg hlv (gX hile).symm hil (j:=1) (by omega);have e2:=bi bg hlv (gX hile).symm hil (j:=2) (by omega);have e3:=bi bg hlv (gX hile).symm hil (j:=3) (by omega);have e4:=bi bg hlv (gX hile).symm hil (j:=4) (by omega);have e5:=bi bg hlv (gX hile).symm hil (j:=5) (by omega);obtain⟨⟨x1,x2,x3,x4,x5,x6⟩,hx⟩:∃x,x=(aT L (0,0,0,0,0,0) i)[i]:=⟨_,rfl⟩;rw[<-hx]at e0 e1 e2 e3 e4 e5;simp only[Od,N9,OH,Oe]at e0 e1 e2 e3 e4 e5;have f0:=hlv.frozenAt (i*6);have f1:=hlv.frozenAt (i*6+1);have f2:=hlv.frozenAt (i*6+2);have f3:=hlv.frozenAt (i*6+3);have f4:=hlv.frozenAt (i*6+4);have f5:=hlv.frozenAt (i*6+5);have hiI:(i:Int)<(L.length:Int)+1:=by omega
  have hg4:g<w4.heap.size:=(hlv.lt g rfl).2;have hmg:g<w.heap.size->fm T (MG p L.length c) g:=fun hlt=>by
   rcases hlies with e|e
   ·exact NF e
   ·have:=HB.out.2.1.size;omega
  have hnw:(MG p L.length c).ownBlock=MI g\/w.heap.size<=g:=hlies.imp id (fun e=>by have:=HB.out.2.1.size;omega);have HC:M6 (_/\_/\_/\_/\_):=⟨hO4,hk4,hil,hmg,hnw⟩;clear hO2 hbox3 hrq3 hk4 hO4 hrq4 hil hlv hx ho3 hg3 hlies hmg hnw;go_wp2;rw[<-hw4];clear hw4 hw2 t0 t1 tf0 tf1 hlt3
  go_region_with (first|(go_at_call 249;refine(qE _ _ _).mono ?_;rintro r w5 ⟨rfl,rfl⟩))
  all_goals
   go_wp2;go_ret;refine⟨rfl,⟨MI ⟨g,0,MH⟩,cap,?_,fun b hb=>?_⟩,?_⟩
   ·rw[gX hile,<-zv (z:=(0,0,0,0,0,0)) hile]
    exact((HC.out.1.IG HC.out.2.2.1 r3 1 r4 0 0 0).GW _).GY
   ·have hb:MI g=MI b:=hb
    cases hb;exact HC.out.2.2.2.2
   ·exact((HC.out.2.1.IL (g:=g) HC.out.2.2.2.1 _ _ _ _ _ _).GW _).GY
theorem vl{base:Nat}{W:MO}{T:Nat}{va:M7}{q:Option Oc}{m:Nat}{L:List Lf}{R:List Rq}(h:ae base W T va (MG q R.length m) L R)(hbase:base<=W.heap.size)(hR:R.length<=900)(x1 x2 x3 x4 x5:Int) :
  ∃g c' w5,(N2 #[41,41] 41 #[MG q R.length m,MG (MI ⟨W.heap.size,0,MH⟩) 1 1]).run MK ((W.alloc (bl x1 x2 x3 x4 x5)).drew)=.ok (MG (MI ⟨g,0,MH⟩) (R.length+1) c') w5 /\
   (w5.cell? ⟨T,1,MH⟩=MI (MG q R.length m)/\w5.frozen? ⟨T,1,MH⟩=Nb) /\
   ae base (w5.setCell ⟨T,1,MH⟩ (MG (MI ⟨g,0,MH⟩) (R.length+1) c')) T va (MG (MI ⟨g,0,MH⟩) (R.length+1) c') L (R++[(x1,x2,x3,x4,x5)]) /\
   (∀b,b<W.heap.size->b≠T->(MG q R.length m).ownBlock≠MI b->(w5.setCell ⟨T,1,MH⟩ (MG (MI ⟨g,0,MH⟩) (R.length+1) c')).heap[b]?=W.heap[b]?) /\
   MQ base W (w5.setCell ⟨T,1,MH⟩ (MG (MI ⟨g,0,MH⟩) (R.length+1) c')):=by
 obtain⟨g,c',w5,hr,ho,hg,hlies⟩:=tp iH (by decide) PK qZ rfl (w:=W.drew) (base:=base) h.GY.reqs hbase 41 (x1,x2,x3,x4,x5) #[MF ME x1,MF ME x2,MF ME x3,MF ME x4,MF ME x5] rfl (by omega) (by unfold NE;omega);have hgb:∀b,b<W.heap.size->(MG q R.length m).ownBlock≠MI b->w5.heap[b]?=W.heap[b]?:=fun b hb hne=>hg.block b hb (fun e=>hne e.symm)
 have hT5:w5.heap[T]?=MI (MP #[va,MG q R.length m] 253 (0,0)):=(hgb T h.lt h.offR).trans h.box;have hTg:g≠T:=by
  rcases hlies with e|e
  ·exact fun e2=>h.offR (by rw[e,e2])
  ·have:=h.lt;exact fun e2=>by have e3:W.heap.size<g:=e;omega
 refine⟨g,c',w5,hr,⟨(au hT5).2.1,(au hT5).2.2.2.1⟩,⟨?_,?_,?_,?_,?_,?_,h.hT⟩,?_,?_⟩
 ·exact NI w5 T 1 _ _ _ hT5
 ·exact aw (aw h.lives (w':=w5) fun b hb=>hgb b (h.lives.lt b hb).2 (h.apart b hb)) (fun b hb=>MU _ _ _ _ (fun e=>h.offL (by rw[hb,e])))
 ·rw[Ns,OU]
  exact aw ho (fun b hb=>MU _ _ _ _ (fun e=>hTg (by cases hb;exact e)))
 ·exact h.offL
 ·intro e;cases e;exact hTg rfl
 ·intro b hb e
  cases e;rcases hlies with e2|e2
  ·exact h.apart g hb e2
  ·have:=(h.lives.lt g hb).2
   have e3:W.heap.size<g:=e2;omega
 ·intro b hb h1 h2
  rw[MU _ _ _ _ h1];exact hgb b hb h2
 ·refine Below.setCell ?_ h.hT _
  exact⟨hg.os,hg.tape,hg.output,hg.size,fun b hb=>hgb b (M8 hb hbase) (fun e=>by have:=(h.reqs.lt b e).1;omega)⟩
theorem zD(base T:Nat)(p:Option Oc)(c:Nat)(q:Option Oc)(m:Nat)(L:List Lf)(R:List Rq)(r1 r2 r3 r4 r5 u:Int)(w:MO)(hbase:base<=w.heap.size)(h:ae base w T (MG p L.length c) (MG q R.length m) L R)(hok:fy L)(hlen:L.length<=900)(hR:R.length<=900)(L':List Lf)(R':List Rq)(e:Int)(hout:eA L R (r1,r2,r3,r4,r5) u=((L',R'),e)) :
  Ni MK 177 #[Na (MI ⟨T,0,MH⟩),gQ r1 r2 r3 r4 r5,MF ME u] w fun r w'=>r=MN (MF ME e)/\(∃p' c' q' m',ae base w' T (MG p' L'.length c') (MG q' R'.length m') L' R')/\MQ base w w':=by
 have hTlt:=h.lt;obtain⟨W0,hW0⟩:∃W0,W0=w.alloc (bl r1 r2 r3 r4 r5):=⟨_,rfl⟩;have hB0:MQ w.heap.size w W0:=by rw[hW0];exact ai _
 have hR0:W0.heap[w.heap.size]?=MI (bl r1 r2 r3 r4 r5):=by rw[hW0];exact M1 _ _
 have hO:=h.below hB0;have hvl:∀b,(MG p L.length c).ownBlock=MI b->b<w.heap.size:=fun b e=>(h.lives.lt b e).2
 have hvr:∀b,(MG q R.length m).ownBlock=MI b->b<w.heap.size:=fun b e=>(h.reqs.lt b e).2
 have hbl:∀b,fm T (MG p L.length c) b->base<=b:=by
  rintro b (e|e)
  ·rw[e];exact h.hT
  ·exact(h.lives.lt b e).1
 have hnm:¬fm T (MG p L.length c) w.heap.size:=by
  rintro(e|e)
  ·omega
  ·have:=hvl _ e;omega
 obtain⟨a0,a1,a2,a3,a4,alt⟩:=bY hR0
 by_cases hk:r2=1
 ·subst hk
  obtain⟨⟨L1,e1⟩,hj⟩:∃x,x=gE L r3 r4:=⟨_,rfl⟩;obtain⟨rfl,rfl,rfl⟩:L'=L1/\R'=R++[(r1,1,r3,r4,e1)]/\e=e1:=by
   unfold eA at hout;rw[Nh rfl]at hout;simp only[<-hj]at hout;injection hout with h1 h2;injection h1 with h1 h3;exact⟨h1.symm,h3.symm,h2.symm⟩
  have HJ:M6 _:=DB base T p c q m L R r1 1 r3 r4 r5 W0 (Nm hbase hB0.size) hO hlen L' e hj.symm;have H:M6 (_/\_/\_/\_/\_/\_):=⟨hW0,hB0,hR0,hbl,hnm,hvl⟩;have HV:M6 _:=hvr;clear h hO hout hj hvl hvr hbl hnm hW0 hB0 hR0;go_enter Tryz.func177,Tryz.ntmps177
  go_wp2_with fail
  rw[<-H.out.1];refine Nd HJ.out ?_;rintro r w1 ⟨rfl,⟨p',c',hO1,hnw⟩,hk1⟩;have hOx:∀b,(MG p' L'.length c').ownBlock=MI b->b=w.heap.size->False:=fun b hb e=>by
   rcases hnw b hb with h|h
   ·have:=H.out.2.2.2.2.2 b h;omega
   ·omega
  have hR1:=hk1.box H.out.2.2.1 H.out.2.2.2.2.1;clear a0 a1 a2 a3 a4 alt;obtain⟨a0,a1,a2,a3,a4,alt⟩:=bY hR1;have a4f:w1.frozen? ⟨w.heap.size,4,MH⟩=false:=by simp[Ng,hR1]
  obtain⟨w2,hw2⟩:∃w2,w2=w1.setCell ⟨w.heap.size,4,MH⟩ (MF ME e):=⟨_,rfl⟩;have HB:M6 (ae base w2 T (MG p' L'.length c') (MG q R.length m) L' R/\w2.heap[w.heap.size]?=MI (bl r1 1 r3 r4 e)/\MQ base w w2):=by
   rw[hw2];refine⟨?_,NI w1 w.heap.size 4 _ _ _ hR1,?_⟩
   ·refine⟨(MU _ _ _ _ (by show T≠w.heap.size;omega)).trans hO1.box,aw hO1.lives (fun b hb=>MU _ _ _ _ (fun e=>hOx b hb e)),aw hO1.reqs (fun b hb=>MU _ _ _ _ (fun e=>by have:=HV.out b hb;have e:b=w.heap.size:=e;omega)),hO1.offL,hO1.offR,hO1.apart,hO1.hT⟩
   ·exact((H.out.2.1.mono hbase).trans (hk1.below (Nm hbase H.out.2.1.size) H.out.2.2.2.1)).setCell hbase _
  clear hO1 hk1 hR1 hOx hnw;have hb2:w2.heap[w.heap.size]?=MI (bl r1 1 r3 r4 e):=HB.out.2.1;obtain⟨g,c5,w5,hr,⟨hc5,hf5⟩,hO5,hk5,hB5⟩:=vl HB.out.1 (Nm hbase HB.out.2.2.size) hR r1 1 r3 r4 e;have hb6:=(hk5 w.heap.size (Array.getElem?_eq_some_iff.1 hb2).1 (by omega) (fun e=>by have:=HV.out _ e;omega)).trans hb2;obtain⟨a0,a1,a2,a3,a4,alt⟩:=bY hb2;obtain⟨i0,i1,i2,i3,i4,ilt⟩:=bY hb6;obtain⟨t0,t1,_,_,tlt⟩:=au HB.out.1.box;have HR:M6 (_/\_/\_):=⟨hr,hO5,HB.out.2.2.trans hB5⟩;clear hr hO5 hk5 hB5 hb2 hb6;go_wp2;rw[<-hw2];clear hw2 a4f
  go_region_law (first|(refine mM (by rfl) _ _ 41 (by rfl) _ _ _ _ (by rfl) (by rfl) HR.out.1 ?_))
  all_goals
   go_wp2;go_ret;exact⟨rfl,⟨_,_,MI ⟨g,0,MH⟩,c5,by rw[Ns,OU];exact HR.out.2.1⟩,HR.out.2.2⟩
 ·obtain⟨⟨L1,e1⟩,hj⟩:∃x,x=ec L r3 r1 u:=⟨_,rfl⟩
  obtain⟨rfl,rfl,rfl⟩:L'=L1/\R'=R++[(r1,r2,r3,0,e1)]/\e=e1:=by
   unfold eA at hout;rw[Nf hk]at hout;simp only[<-hj]at hout;injection hout with h1 h2;injection h1 with h1 h3;exact⟨h1.symm,h3.symm,h2.symm⟩
  have hkb:(r2 == 1)=false:=by simpa using hk
  obtain⟨W1,hW1⟩:∃W1,W1=w.alloc (bl r1 r2 r3 0 r5):=⟨_,rfl⟩;have hR1:W1.heap[w.heap.size]?=MI (bl r1 r2 r3 0 r5):=by rw[hW1];exact M1 _ _
  have hB1:MQ w.heap.size w W1:=by rw[hW1];exact ai _
  have hO1:=h.below hB1;have HJ:M6 _:=zT base T p c q m L R r1 r2 r3 0 r5 u W1 hO1 hok L' e hj.symm;have H:M6 (_/\_/\_/\_/\_/\_/\_):=⟨hW0,hB1,hR1,hbl,hnm,hW1,hvl⟩;have HV:M6 _:=hvr;have hlL:L'.length=L.length:=by
   have:(ec L r3 r1 u).1.length=L.length:=by
    unfold ec
    split
    ·split
     ·rfl
     ·split
      ·rfl
      ·simp
    ·rfl
   rw[<-hj]at this;exact this
  clear h hO hout hj hvl hvr hbl hnm hW0 hB0 hR0 hO1 hB1 hR1;go_enter Tryz.func177,Tryz.ntmps177
  go_wp2_with fail
  rw[<-hW1];refine Nd HJ.out ?_;rintro r w1 ⟨rfl,hO1,hk1⟩;have hR1:=hk1.box H.out.2.2.1 H.out.2.2.2.2.1;clear a0 a1 a2 a3 a4 alt hW1;obtain⟨a0,a1,a2,a3,a4,alt⟩:=bY hR1;have a4f:w1.frozen? ⟨w.heap.size,4,MH⟩=false:=by simp[Ng,hR1]
  obtain⟨w2,hw2⟩:∃w2,w2=w1.setCell ⟨w.heap.size,4,MH⟩ (MF ME e):=⟨_,rfl⟩;have HB:M6 (ae base w2 T (MG p L'.length c) (MG q R.length m) L' R/\w2.heap[w.heap.size]?=MI (bl r1 r2 r3 0 e)/\MQ base w w2):=by
   rw[hw2,hlL];refine⟨?_,NI w1 w.heap.size 4 _ _ _ hR1,?_⟩
   ·refine⟨(MU _ _ _ _ (by show T≠w.heap.size;omega)).trans hO1.box,aw hO1.lives (fun b hb=>MU _ _ _ _ (fun e=>by have:=H.out.2.2.2.2.2.2 b hb;have e:b=w.heap.size:=e;omega)),aw hO1.reqs (fun b hb=>MU _ _ _ _ (fun e=>by have:=HV.out b hb;have e:b=w.heap.size:=e;omega)),hO1.offL,hO1.offR,hO1.apart,hO1.hT⟩
   ·exact((H.out.2.1.mono hbase).trans (hk1.below (Nm hbase H.out.2.1.size) H.out.2.2.2.1)).setCell hbase _
  clear hO1 hk1 hR1;have hb2:w2.heap[w.heap.size]?=MI (bl r1 r2 r3 0 e):=HB.out.2.1;obtain⟨g,c5,w5,hr,⟨hc5,hf5⟩,hO5,hk5,hB5⟩:=vl HB.out.1 (Nm hbase HB.out.2.2.size) hR r1 r2 r3 0 e;have hb6:=(hk5 w.heap.size (Array.getElem?_eq_some_iff.1 hb2).1 (by omega) (fun e=>by have:=HV.out _ e;omega)).trans hb2;obtain⟨a0,a1,a2,a3,a4,alt⟩:=bY hb2;obtain⟨i0,i1,i2,i3,i4,ilt⟩:=bY hb6;obtain⟨t0,t1,_,_,tlt⟩:=au HB.out.1.box;have HR:M6 (_/\_/\_):=⟨hr,hO5,HB.out.2.2.trans hB5⟩;clear hr hO5 hk5 hB5 hb2 hb6;go_wp2;rw[<-hw2];clear hw2 a4f
  go_region_law (first|(refine mM (by rfl) _ _ 41 (by rfl) _ _ _ _ (by rfl) (by rfl) HR.out.1 ?_))
  all_goals
   go_wp2;go_ret;exact⟨rfl,⟨_,_,MI ⟨g,0,MH⟩,c5,by rw[Ns,OU];exact HR.out.2.1⟩,HR.out.2.2⟩
abbrev jJ(n:Int):List Int:=[n]
theorem rn(n:Int):(jJ n).length=1:=rfl
abbrev et(w:MO)(v:M7)(l:List Int):Prop:=eD jJ w v l
theorem ae.If{base:Nat}{W W':MO}{T:Nat}{va vb:M7}{L:List Lf}{R:List Rq}(h:ae base W T va vb L R)(hk:∀b,(b=T\/va.ownBlock=MI b\/vb.ownBlock=MI b)->W'.heap[b]?=W.heap[b]?):ae base W' T va vb L R :=
 ⟨(hk T (Nt rfl)).trans h.box,aw h.lives (fun b hb=>hk b (NF (Nt hb))),aw h.reqs (fun b hb=>hk b (NF (NF hb))),h.offL,h.offR,h.apart,h.hT⟩
def eN(L:List Lf)(now:Int)(k:Nat):List Lf:=(L.take k).map (aY now)++L.drop k
theorem jR(L:List Lf)(now:Int)(k:Nat):(eN L now k).length=L.length:=by
 unfold eN;simp;omega
theorem ot{L:List Lf}(hk:k<L.length):(eN L now k)[k]'(by rw[jR];exact hk)=L[k]:=by
 unfold eN;rw[List.getElem_append_right (by simp;omega)];simp[P1 (PJ hk)]
theorem vz{L:List Lf}(hk:k<L.length):eN L now (k+1)=(eN L now k).set k (aY now L[k]):=by
 unfold eN;rw[M9 hk,OI,OC,Pw _ _ (by simp;omega)]
 congr 1
 simp only[N0,NH,P1 (PJ hk),Nat.sub_self,OK hk,ML];rfl
theorem Bc(h:¬x.2.1=1):aY now x=x:=Nf h
theorem EW{L:List Lf}(hk:k<L.length)(h:¬L[k].2.1=1):eN L now (k+1)=eN L now k:=by
 rw[vz hk,Bc h,<-ot (now:=now) hk];exact List.set_getElem_self _
theorem BO{L:List Lf}(hk:k<L.length)(h:L[k].2.1=1):bv (L.take (k+1))=bv (L.take k)++[L[k].1]:=by
 unfold bv;rw[M9 hk,OY,OI];simp[h]
theorem DJ{L:List Lf}(hk:k<L.length)(h:¬L[k].2.1=1):bv (L.take (k+1))=bv (L.take k):=by
 unfold bv;rw[M9 hk,OY];simp[h]
theorem xP(L:List Lf):(bv L).length<=L.length:=by
 unfold bv;rw[N0];exact O1 _ _
theorem Da(base T:Nat)(p:Option Oc)(c:Nat)(q:Option Oc)(m:Nat)(L:List Lf)(R:List Rq)(now:Int)(w:MO)(hbase:base<=w.heap.size)(h:ae base w T (MG p L.length c) (MG q R.length m) L R)(hlen:L.length<=900) :
  Ni MK 223 #[Na (MI ⟨T,0,MH⟩),MF ME now] w fun r w'=>(∃pw cw,r=MN (MG pw (bv L).length cw)/\w'.ownsRow w.heap.size 3 1 (MG pw (bv L).length cw) (bv L).length (ak jJ (bv L)))/\ae base w' T (MG p L.length c) (MG q R.length m) (L.map (aY now)) R/\MQ base w w':=by
 obtain⟨hc1,hc2⟩:=kd h.lives;have hTlt:=h.lt;have hvl:∀b,(b=T\/(MG p L.length c).ownBlock=MI b\/(MG q R.length m).ownBlock=MI b)->base<=b/\b<w.heap.size:=by
  rintro b (e|e|e)
  ·rw[e];exact⟨h.hT,h.lt⟩
  ·exact h.lives.lt b e
  ·exact h.reqs.lt b e
 obtain⟨b0,b1,_,_,_⟩:=au h.box;have H:M6 (_/\_):=⟨h,hvl⟩;clear h hvl;go_enter Um,Ub;go_wp2
 go_loopw [5,14] (fun s i wr=>∃(k:Nat) (pw:Option Oc) (kw cw:Nat),i=MF ME k/\s=MG pw kw cw/\k<=L.length/\kw=(bv (L.take k)).length/\wr.ownsRow w.heap.size 3 1 (MG pw kw cw) kw (ak jJ (bv (L.take k)))/\ae base wr T (MG p L.length c) (MG q R.length m) (eN L now k) R/\MQ base w wr/\w.heap.size<=wr.heap.size) (fun _ i _=>L.length-(On i).toNat)
 case atStart=>exact⟨0,MH,0,0,rfl,rfl,Nx _,by simp[bv],NY _ _ _ _,H.out.1,MY _ _,MV _⟩
 case round =>
  obtain⟨k,pw,kw,cw,rfl,rfl,hk,hkw,ho,hO,hbr,hsz⟩:=hrel;clear b0 b1
  by_cases hlt:k<L.length
  ·have hkI:(k:Int)<(L.length:Int):=by omega
   obtain⟨g,c',he,_,hglt⟩:=hO.lives.form (by rw[jR];omega);have hpg:p=MI ⟨g,0,MH⟩:=by injection he
   subst hpg;have hlv:=hO.lives;rw[jR]at hlv;obtain⟨⟨x1,x2,x3,x4,x5,x6⟩,hx⟩:∃x,x=L[k]:=⟨_,rfl⟩;obtain⟨b0,b1,_,_,hltT⟩:=au hO.box;have hks:k<(eN L now k).length:=by rw[jR];exact hlt
   have e0:=bi bg hlv (jR L now k).symm hks (j:=0) (by omega);have e1:=bi bg hlv (jR L now k).symm hks (j:=1) (by omega);have e3:=bi bg hlv (jR L now k).symm hks (j:=3) (by omega);rw[ot hlt,<-hx]at e0 e1 e3;simp only[Od,N9,OH,Oe]at e0 e1 e3;have f1:=hlv.frozenAt (k*6+1);have f3:=hlv.frozenAt (k*6+3);have hgw:g<w.heap.size:=(H.out.2 g (NF (Nt rfl))).2
   by_cases h1:x2=1
   ·subst h1
    have hst:L[k].2.1=1:=by rw[<-hx]
    have hw2:=BO hlt hst;have hs2:=vz (now:=now) hlt;rw[<-hx]at hw2 hs2;rw[show aY now (x1,1,x3,x4,x5,x6)=(x1,2,x3,now,x5,x6)from Nh rfl]at hs2;obtain⟨w2,hw2e⟩:∃w2,w2=(wr.setCell ⟨g,k*6+1,MH⟩ (MF ME 2)).setCell ⟨g,k*6+3,MH⟩ (MF ME now):=⟨_,rfl⟩;have hO2:ae base w2 T (MG (MI ⟨g,0,MH⟩) L.length c) (MG q R.length m) (eN L now (k+1)) R:=by
     have z1:=hO.Gd hks (j:=1) (by omega) 2 (x1,2,x3,x4,x5,x6) (by rw[ot hlt,<-hx];rfl);have z2:=z1.Gd (i:=k) (by simpa using hks) (j:=3) (by omega) now (x1,2,x3,now,x5,x6) (by simp);rw[hw2e,hs2]
     simpa using z2
    have hb2:MQ base wr w2:=by
     rw[hw2e];have hgb:=(H.out.2 g (NF (Nt rfl))).1;exact((MY _ _).setCell hgb _).setCell hgb _
    have hs2z:w2.heap.size=wr.heap.size:=by rw[hw2e];simp
    have ho2:w2.ownsRow w.heap.size 3 1 (MG pw kw cw) kw (ak jJ (bv (L.take k))):=by
     rw[hw2e];refine aw ho fun b hb=>?_
     have:=(ho.lt b hb).1;rw[MU _ _ _ _ (by show b≠g;omega),MU _ _ _ _ (by show b≠g;omega)]
    have hkl:kw<=900:=by
     have:=xP (L.take k);rw[NH]at this;omega
    obtain⟨gw,cw2,w5,hr,ho5,hg5,hl5⟩:=tp rn (by decide) Tryz.underlying71 jE rfl ho2 (by omega) 71 x1 #[MF ME x1] rfl (by omega) (by unfold NE;omega);rw[<-hw2]at ho5;have hO5:ae base w5 T (MG (MI ⟨g,0,MH⟩) L.length c) (MG q R.length m) (eN L now (k+1)) R:=hO2.If fun b hb=>by
     have hlt2:=(H.out.2 b hb).2;exact hg5.block b (by omega) (fun e=>by have:=(ho2.lt b e.symm).1;omega)
    have hB5:MQ base w w5:=(hbr.trans hb2).trans (kN hg5 (Nm hbase (by omega)) (fun b e=>Nm hbase (ho2.lt b e).1));have hr':(N2 #[71,71] 71 #[MG pw kw cw,MG (MI ⟨wr.heap.size,0,MH⟩) 1 1]).run MK (((wr.setCell ⟨g,k*6+1,MH⟩ (MF ME 2)).setCell ⟨g,k*6+3,MH⟩ (MF ME now)).alloc (MP #[MF ME x1] 3))=.ok (MG (MI ⟨gw,0,MH⟩) (kw+1) cw2) w5:=by rw[<-hw2e,<-hs2z];exact hr
    have HR:M6 (_/\_/\_/\_/\_/\_):=⟨hr',ho5,hO5,hB5,(by have:=hg5.size;omega:w.heap.size<=w5.heap.size),(by rw[hw2];simp;omega:kw+1=(bv (L.take (k+1))).length)⟩;clear hr hr' ho5 hO5 hB5 ho hO hbr hkw hlv hx hO2 hb2 ho2 hg5 hl5 hst hw2 hs2 he hks hs2z hw2e
    go_wp2_with (at_builtin;(with_reducible refine d7 rfl _ _ 71 rfl (MG pw kw cw) (MG (MI ⟨wr.heap.size,0,MH⟩) 1 1) (MG (MI ⟨gw,0,MH⟩) (kw+1) cw2) w5 ?hs ?hx ?hr ?_);(case hs=>rfl);(case hx=>rfl);(case hr=>exact HR.out.1))
    go_wp2
    go_roundw
    case rel=>exact⟨k+1,MI ⟨gw,0,MH⟩,kw+1,cw2,by simp,rfl,hlt,HR.out.2.2.2.2.2,HR.out.2.1,HR.out.2.2.1,HR.out.2.2.2.1,HR.out.2.2.2.2.1⟩
    case measure=>simp[On];omega
   ·have hst:¬L[k].2.1=1:=by rw[<-hx];exact h1
    have hw2:=DJ hlt hst;have hs2:=EW (now:=now) hlt hst;rw[<-hw2]at ho hkw;rw[<-hs2]at hO;have hne:(x2 == 1)=false:=by simpa using h1
    have HR:M6 (_/\_/\_/\_/\_):=⟨hkw,ho,hO,hbr,hsz⟩;clear ho hO hbr hkw hlv hx hst hw2 hs2 he hks;go_wp2
    go_roundw
    case rel=>exact⟨k+1,pw,kw,cw,by simp,rfl,hlt,HR.out.1,HR.out.2.1,HR.out.2.2.1,HR.out.2.2.2.1,HR.out.2.2.2.2⟩
    case measure=>simp[On];omega
  ·obtain rfl:k=L.length:=by omega
   have hs:eN L now L.length=L.map (aY now):=by simp[eN]
   rw[hs]at hO;rw[NT]at hkw ho;subst hkw;have HR:M6 (_/\_/\_):=⟨ho,hO,hbr⟩;clear ho hO hbr hs;go_wp2;go_ret;exact⟨⟨_,_,rfl,HR.out.1⟩,HR.out.2.1,HR.out.2.2⟩
theorem jr{fn:Func}{x y z u:Tmp}{t:NU}(h:fn.results=#[.cell x t,.tmp y,.tmp z,.tmp u]){tmps:Array M7}{P:O8}{w:MO}{p:Oc}{v1 v2 v3 v4:M7}(hx:tmps.getD x PL=Na (MI p))(hy:tmps.getD y PL=v2)(hz:tmps.getD z PL=v3)(hu:tmps.getD u PL=v4)
  (h1:(loadVar t p).run P w=.ok v1 w):(Pf fn tmps).run P w=.ok (Nv #[v1,v2,v3,v4]) w:=by
 have e1:∀a:Oc,(asAddr (Na (MI a))).run P w=.ok a w:=fun a=>rfl
 simp only[Pg]at hx hy hz hu;simp[Pf,h,hx,hy,hz,hu,e1,h1,Pn]
abbrev bT(B:Nat)(w:MO)(va vb:M7)(L:List Lf)(R:List Rq):Prop:=fb w va vb L R/\(∀b,va.ownBlock=MI b->B<=b)/\(∀b,vb.ownBlock=MI b->B<=b)
abbrev ik(W:MO)(g:Nat)(a b:M7):World:=(W.setCell ⟨g,0,MH⟩ a).setCell ⟨g,1,MH⟩ b
theorem oY{W:MO}(h:k≠g):(ik W g a b).heap[k]?=W.heap[k]?:=by
 unfold ik;rw[MU _ _ _ _ h,MU _ _ _ _ h]
theorem tT{W:MO}:(ik W g a b).heap.size=W.heap.size:=by
 unfold ik;simp
theorem ft{w W:MO}{va vb:M7}{L:List Lf}{R:List Rq}(h:bT (B+1) W va vb L R)(hres:W.heap[B]?=MI (de a b))(hb:MQ w.heap.size w W)(hB:w.heap.size<=B):
  (ik W B va vb).heap[B]?=MI (de va vb)/\bT w.heap.size (ik W B va vb) va vb L R/\MQ w.heap.size w (ik W B va vb):=
 ⟨iw hres,⟨⟨eD.Gf h.1.1 (by rw[tT];exact MV _) (fun g hg=>oY (by have:=h.2.1 g hg;omega)),eD.Gf h.1.2 (by rw[tT];exact MV _) (fun g hg=>oY (by have:=h.2.2 g hg;omega))⟩,fun g hg=>Nm hB (SO (h.2.1 g hg)),fun g hg=>Nm hB (SO (h.2.2 g hg))⟩,(hb.setCell hB _).setCell hB _⟩
theorem ae.new{base:Nat}{W:MO}{T:Nat}{va vb:M7}{L:List Lf}{R:List Rq}(h:ae base W T va vb L R)(hB:B<=base):bT B W va vb L R :=
 ⟨h.at,fun b hb=>Nm hB (h.lives.lt b hb).1,fun b hb=>Nm hB (h.reqs.lt b hb).1⟩
theorem ip(B:Nat)(w:MO):bT B w (MG MH 0 0) (MG MH 0 0) [] []:=⟨⟨mP w,mP w⟩,(fun b h=>by cases h),(fun b h=>by cases h)⟩
theorem eV{W:MO}{va vb:M7}(h:W.heap[g]?=MI (de va vb)):(loadVar 43 ⟨g,0,MH⟩).run MK W=.ok (cg va vb) W :=
 aI (P:=MK) (cs:=[va,vb]) h Tryz.underlying43 rfl (by kernel_rfl)
theorem iF(w:MO)(o r:Obj):((w.alloc o).alloc r).heap[w.heap.size]?=MI o/\((w.alloc o).alloc r).heap[w.heap.size+1]?=MI r/\MQ w.heap.size w ((w.alloc o).alloc r)/\((w.alloc o).alloc r).heap.size=w.heap.size+2 :=
 ⟨aN _ _ (M1 _ _),bV _ _ _,((MY _ _).alloc (MV _) _).alloc (by simp) _,by simp⟩
theorem iD{w w':MO}{L:List Lf}{R:List Rq}{r:Ending}(h:sO L R w r w'):∃T p k q m,r=MN (Nv #[Na (MI ⟨T,0,MH⟩),MF ME 0])/\ae w.heap.size w' T (MG p L.length k) (MG q R.length m) L R/\MQ w.heap.size w w':=h
def BH(w:MO)(O:(List Lf×List Rq)×Int)(r:Ending)(w':MO):Prop :=
 ∃p c q m,r=MN (Nv #[cg (MG p O.1.1.length c) (MG q O.1.2.length m),MF ME O.2])/\bT w.heap.size w' (MG p O.1.1.length c) (MG q O.1.2.length m) O.1.1 O.1.2/\MQ w.heap.size w w'
def Dm(w:MO)(O:(List Lf×List Rq)×List Int×Int)(r:Ending)(w':MO):Prop :=
 ∃p c q m s k,r=MN (Nv #[cg (MG p O.1.1.length c) (MG q O.1.2.length m),MG s O.2.1.length k,MF ME O.2.2])/\bT w.heap.size w' (MG p O.1.1.length c) (MG q O.1.2.length m) O.1.1 O.1.2/\et w' (MG s O.2.1.length k) O.2.1/\MQ w.heap.size w w'/\(∀b,(MG s O.2.1.length k).ownBlock=MI b->w.heap.size<=b)
theorem ae.Jo{base:Nat}{W:MO}{T n:Nat}{vb:M7}{L:List Lf}{R:List Rq}(h:ae base W T (MG (MI ⟨g,0,MH⟩) n c) vb L R)(hi:i<L.length){x1 x2 x3 x4 x5 x6:Int}(hx:L[i]=(x1,x2,x3,x4,x5,x6))(s:Int):
  ae base (W.setCell ⟨g,i*6+1,MH⟩ (MF ME s)) T (MG (MI ⟨g,0,MH⟩) n c) vb (L.set i (x1,s,x3,x4,x5,x6)) R:=h.Gd hi (j:=1) (by omega) s _ (by rw[hx];rfl)
theorem BK(va vb:M7)(L:List Lf)(R:List Rq)(n:Int)(w:MO)(hv:fb w va vb L R) :
  Ni MK 182 #[cg va vb,MF ME n] w (BH w (eL L R n)):=by
 obtain⟨O,hout⟩:∃O,O=eL L R n:=⟨_,rfl⟩;rw[<-hout];obtain⟨pa,ca,rfl,hca,hma⟩:=eD.Ga hv.1;obtain⟨pb,cb,rfl,hcb,hmb⟩:=eD.Ga hv.2;obtain⟨W0,hW0⟩:∃W0,W0=(w.alloc (de (MG pa L.length ca) (MG pb R.length cb))).alloc (de (MG MH 0 0) (MG MH 0 0)):=⟨_,rfl⟩;have hx:=iF w (de (MG pa L.length ca) (MG pb R.length cb)) (de (MG MH 0 0) (MG MH 0 0));rw[<-hW0]at hx;obtain⟨hR0,hR1,hB0,hs0⟩:=hx;obtain⟨c0,c1,_,_,hlt0⟩:=au hR0;have H:M6 (_/\_/\_/\_/\_):=⟨hW0,hR1,hB0,hs0,hv.below hB0⟩;clear hv hR0 hR1 hB0 hs0
 by_cases hok:bX L R
 ·have HO:M6 _:=qi _ _ L R W0 H.out.2.2.2.2 hok
  unfold eL at hout;rw[Nh hok]at hout;have HQ:M6 _:=hout;clear hW0 hout;go_enter Tryz.func182,Tryz.ntmps182
  go_wp2_with fail
  rw[<-H.out.1];refine Nd HO.out ?_;intro r w1 hop;obtain⟨T,p,k,q,m,rfl,hO,hb1⟩:=iD hop;have hR1:=af H.out.2.1 hb1;have hbw:=H.out.2.2.1.trans (hb1.mono H.out.2.2.1.size);clear hop c0 c1 hlt0;have hout:=HQ.out;clear HQ;cases hh:cK L n
  ·rw[hh,Nf (by simp)]at hout
   subst hout;have HL:M6 _:=tR W0.heap.size T p k q m L R n w1 hO hh;have HB:M6 (_/\_):=⟨hR1,hbw⟩;clear hO hb1 hR1 hbw
   go_wp2_with fail
   refine Nd HL.out ?_;rintro r w2 ⟨rfl,hb2⟩;have hR2:=af HB.out.1 hb2;obtain⟨d0,d1,df0,df1,dlt⟩:=au hR2;have HC:M6 _:=ft (ip _ w2) hR2 (HB.out.2.trans (hb2.mono HB.out.2.size)) (Ps _);clear hb2 hR2;go_wp2;exact Np (v:=Nv #[cg (MG MH 0 0) (MG MH 0 0),MF ME 8]) (bp Uq rfl rfl (eV HC.out.1)) rfl ⟨MH,0,MH,0,rfl,HC.out.2.1,HC.out.2.2⟩
  ·obtain⟨i,hi⟩:∃i,i=aU L n:=⟨_,rfl⟩
   have hlti:i<L.length:=by rw[hi];exact fV hh
   rw[hh,<-hi,MR hlti,OV]at hout;obtain⟨⟨x1,x2,x3,x4,x5,x6⟩,hx⟩:∃x,x=L[i]:=⟨_,rfl⟩;rw[<-hx]at hout;obtain⟨g,c',he,_,hglt⟩:=hO.lives.form (by omega);cases he;have HL:M6 _:=rD W0.heap.size T g k q m L R n w1 hO hh i hi;have HB:M6 (_/\_/\_/\_):=⟨hR1,hbw,hO,hx⟩;clear hO hb1 hR1 hbw hx hi hh
   by_cases h3:x2=3
   ·subst h3
    rw[Nh ⟨rfl,rfl⟩]at hout;subst hout
    go_wp2_with fail
    refine Nd HL.out ?_;rintro r w2 ⟨rfl,hb2⟩;have hR2:=af HB.out.1 hb2;have hO2:=HB.out.2.2.1.below hb2;have hbw2:=HB.out.2.1.trans (hb2.mono HB.out.2.1.size);have e1:=bi bg hO2.lives rfl hlti (j:=1) (by omega);rw[<-HB.out.2.2.2]at e1;simp only[Od,N9,OH,Oe]at e1;have f1:=hO2.lives.frozenAt (i*6+1);obtain⟨w3,hw3⟩:∃w3,w3=w2.setCell ⟨g,i*6+1,MH⟩ (MF ME 4):=⟨_,rfl⟩;have hO3:ae W0.heap.size w3 T (MG (MI ⟨g,0,MH⟩) L.length k) (MG q R.length m) (L.set i (x1,4,x3,x4,x5,x6)) R:=by rw[hw3];exact hO2.Jo hlti HB.out.2.2.2.symm 4
    have hgb:=(hO2.lives.lt g rfl).1;have hR3:w3.heap[w.heap.size+1]?=MI (de (MG MH 0 0) (MG MH 0 0)):=by rw[hw3];exact(MU _ _ _ _ (by show w.heap.size+1≠g;have:=H.out.2.2.2.1;omega)).trans hR2
    have hbw3:MQ w.heap.size w w3:=by rw[hw3];exact hbw2.setCell (by show w.heap.size<=g;have:=H.out.2.2.2.1;omega) _
    obtain⟨t0,t1,_,_,tlt⟩:=au hO2.box;obtain⟨d0,d1,df0,df1,dlt⟩:=au hR2;have hTg:¬T=g:=fun e=>hO2.offL (by rw[e];rfl)
    have hBg:¬w.heap.size+1=g:=by have:=H.out.2.2.2.1;omega
    have HC:M6 _:=ft (hO3.new (by have:=H.out.2.2.2.1;omega)) hR3 hbw3 (Ps _);clear hb2 hR2 hO2 hO3 hR3 hbw2 hbw3 hgb;go_wp2;rw[<-hw3];exact Np (v:=Nv #[cg (MG (MI ⟨g,0,MH⟩) L.length k) (MG q R.length m),MF ME 0]) (bp Uq rfl rfl (eV HC.out.1)) rfl ⟨MI ⟨g,0,MH⟩,k,q,m,by simp only[NA],by simp only[NA];exact HC.out.2.1,HC.out.2.2⟩
   ·rw[Nf (fun h=>h3 h.2)]at hout
    subst hout;have hne:(x2 != 3)=true:=by simpa using h3
    go_wp2_with fail
    refine Nd HL.out ?_;rintro r w2 ⟨rfl,hb2⟩;have hR2:=af HB.out.1 hb2;have hO2:=HB.out.2.2.1.below hb2;have e1:=bi bg hO2.lives rfl hlti (j:=1) (by omega);rw[<-HB.out.2.2.2]at e1;simp only[Od,N9,OH,Oe]at e1;obtain⟨d0,d1,df0,df1,dlt⟩:=au hR2;have HC:M6 _:=ft (ip _ w2) hR2 (HB.out.2.1.trans (hb2.mono HB.out.2.1.size)) (Ps _);clear hb2 hR2 hO2;go_wp2;exact Np (v:=Nv #[cg (MG MH 0 0) (MG MH 0 0),MF ME 8]) (bp Uq rfl rfl (eV HC.out.1)) rfl ⟨MH,0,MH,0,rfl,HC.out.2.1,HC.out.2.2⟩
 ·have HO:M6 _:=rb _ _ L R W0 H.out.2.2.2.2 hok
  unfold eL at hout;rw[Nf hok]at hout;subst hout;clear hW0;go_enter Tryz.func182,Tryz.ntmps182
  go_wp2_with fail
  rw[<-H.out.1];refine Nd HO.out ?_;rintro r w1 ⟨rfl,hb1⟩;have hR2:=af H.out.2.1 hb1;obtain⟨d0,d1,df0,df1,dlt⟩:=au hR2;have HC:M6 _:=ft (ip _ w1) hR2 (H.out.2.2.1.trans (hb1.mono H.out.2.2.1.size)) (Ps _);clear hb1 hR2;go_wp2;exact Np (v:=Nv #[cg (MG MH 0 0) (MG MH 0 0),MF ME 6]) (bp Uq rfl rfl (eV HC.out.1)) rfl ⟨MH,0,MH,0,rfl,HC.out.2.1,HC.out.2.2⟩
theorem B6(va vb:M7)(L:List Lf)(R:List Rq)(now:Int)(w:MO)(hv:fb w va vb L R) :
  Ni MK 183 #[cg va vb,MF ME now] w (Dm w (gB L R now)):=by
 obtain⟨O,hout⟩:∃O,O=gB L R now:=⟨_,rfl⟩;rw[<-hout];obtain⟨pa,ca,rfl,hca,hma⟩:=eD.Ga hv.1;obtain⟨pb,cb,rfl,hcb,hmb⟩:=eD.Ga hv.2;obtain⟨W0,hW0⟩:∃W0,W0=(w.alloc (de (MG pa L.length ca) (MG pb R.length cb))).alloc (de (MG MH 0 0) (MG MH 0 0)):=⟨_,rfl⟩;have hx:=iF w (de (MG pa L.length ca) (MG pb R.length cb)) (de (MG MH 0 0) (MG MH 0 0));rw[<-hW0]at hx;obtain⟨hR0,hR1,hB0,hs0⟩:=hx;obtain⟨c0,c1,_,_,hlt0⟩:=au hR0;have H:M6 (_/\_/\_/\_/\_):=⟨hW0,hR1,hB0,hs0,hv.below hB0⟩;clear hv hR0 hR1 hB0 hs0
 by_cases hok:bX L R
 ·have HO:M6 _:=qi _ _ L R W0 H.out.2.2.2.2 hok
  unfold gB at hout;rw[Nh hok]at hout;have hL9:L.length<=900:=by have:=hok.1.1;omega
  cases hn:Nn (0<=now/\now<=1099511627776)
  ·rw[Nf (Nc hn)]at hout
   subst hout;clear hW0;go_enter Ws,Wg
   go_wp2_with fail
   rw[<-H.out.1];refine Nd HO.out ?_;intro r w1 hop;obtain⟨T,p,k,q,m,rfl,hO,hb1⟩:=iD hop;have hR1:=af H.out.2.1 hb1;have hbw:=H.out.2.2.1.trans (hb1.mono H.out.2.2.1.size);obtain⟨d0,d1,df0,df1,dlt⟩:=au hR1;have HC:M6 _:=ft (ip _ w1) hR1 hbw (Ps _);clear hop c0 c1 hlt0 hR1 hbw hb1 hO
   go_wp2_with fail
   refine(cM _ _ _ _).mono ?_;rw[hn];rintro r w2 ⟨rfl,rfl⟩;go_wp2;exact Np (v:=Nv #[cg (MG MH 0 0) (MG MH 0 0),MG MH 0 0,MF ME 2]) (kP VX rfl rfl rfl (eV HC.out.1)) rfl ⟨MH,0,MH,0,MH,0,rfl,HC.out.2.1,mP _,HC.out.2.2,fun b hb=>by cases hb⟩
  ·rw[Nh (M2 hn)]at hout
   subst hout;clear hW0;go_enter Ws,Wg
   go_wp2_with fail
   rw[<-H.out.1];refine Nd HO.out ?_;intro r w1 hop;obtain⟨T,p,k,q,m,rfl,hO,hb1⟩:=iD hop;have hR1:=af H.out.2.1 hb1;have hbw:=H.out.2.2.1.trans (hb1.mono H.out.2.2.1.size);have HW:M6 (_/\_/\_/\_):=⟨Da W0.heap.size T p k q m L R now w1 hb1.size hO hL9,hR1,hbw,hb1⟩;clear hop c0 c1 hlt0 hR1 hbw hb1 hO
   go_wp2_with fail
   refine(cM _ _ _ _).mono ?_;rw[hn];rintro r w2 ⟨rfl,rfl⟩
   go_wp2_with fail
   refine Nd HW.out.1 ?_;rintro r w2 ⟨⟨pw,cw,rfl,hw⟩,hO2,hb2⟩;have hs:=H.out.2.2.2.1;have hR2:=(hb2.block (w.heap.size+1) (by omega)).trans HW.out.2.1;have hbw2:MQ w.heap.size w w2:=HW.out.2.2.1.trans (hb2.mono (by omega));obtain⟨t0,t1,_,_,tlt⟩:=au hO2.box;obtain⟨d0,d1,df0,df1,dlt⟩:=au hR2;have HC:M6 (_/\_):=⟨ft (hO2.new (by omega)) hR2 hbw2 (Ps _),aw hw (w':=ik w2 (w.heap.size+1) (MG p L.length k) (MG q R.length m)) (fun b hb=>oY (by have:=(hw.lt b hb).1;have:=HW.out.2.2.2.size;omega))⟩;clear hR2 hO2 hbw2 hb2 hw hs;go_wp2;exact Np (v:=Nv #[cg (MG p L.length k) (MG q R.length m),MG pw (bv L).length cw,MF ME 0]) (kP VX rfl rfl rfl (eV HC.out.1.1)) rfl ⟨p,k,q,m,pw,cw,by simp only[N0],by simp only[N0];exact HC.out.1.2.1,pO HC.out.2,HC.out.1.2.2,fun b hb=>by have:=(HC.out.2.lt b hb).1;have:=HW.out.2.2.1.size;omega⟩
 ·have HO:M6 _:=rb _ _ L R W0 H.out.2.2.2.2 hok
  unfold gB at hout;rw[Nf hok]at hout;subst hout;clear hW0;go_enter Ws,Wg
  go_wp2_with fail
  rw[<-H.out.1];refine Nd HO.out ?_;rintro r w1 ⟨rfl,hb1⟩;have hR2:=af H.out.2.1 hb1;obtain⟨d0,d1,df0,df1,dlt⟩:=au hR2;have HC:M6 _:=ft (ip _ w1) hR2 (H.out.2.2.1.trans (hb1.mono H.out.2.2.1.size)) (Ps _);clear hb1 hR2;go_wp2;exact Np (v:=Nv #[cg (MG MH 0 0) (MG MH 0 0),MG MH 0 0,MF ME 6]) (kP VX rfl rfl rfl (eV HC.out.1)) rfl ⟨MH,0,MH,0,MH,0,rfl,HC.out.2.1,mP _,HC.out.2.2,fun b hb=>by cases hb⟩
def ql(w:MO)(O:lz)(r:Ending)(w':MO):Prop :=
 ∃p c q m,r=MN (Nv #[cg (MG p O.1.1.length c) (MG q O.1.2.length m),MF ME O.2.1,M3 O.2.2.1,MF ME O.2.2.2])/\bT w.heap.size w' (MG p O.1.1.length c) (MG q O.1.2.length m) O.1.1 O.1.2/\MQ w.heap.size w w'
theorem Fv(w:MO)(o r s:Obj):(((w.alloc o).alloc r).alloc s).heap[w.heap.size]?=MI o/\(((w.alloc o).alloc r).alloc s).heap[w.heap.size+1]?=MI r/\(((w.alloc o).alloc r).alloc s).heap[w.heap.size+1+1]?=MI s/\MQ w.heap.size w (((w.alloc o).alloc r).alloc s)/\(((w.alloc o).alloc r).alloc s).heap.size=w.heap.size+3 :=
 ⟨aN _ _ (aN _ _ (M1 _ _)),aN _ _ (bV _ _ _),lC _ _ _ _,(((MY _ _).alloc (MV _) _).alloc (by simp) _).alloc (by simp;omega) _,by simp⟩
theorem bT.GY{w:MO}{va vb:M7}{L:List Lf}{R:List Rq}(h:bT B w va vb L R):bT B w.drew va vb L R:=⟨⟨eD.Gf h.1.1 (MV _) (fun _ _=>rfl),eD.Gf h.1.2 (MV _) (fun _ _=>rfl)⟩,h.2⟩
theorem nH{w w':MO}{e:Int}{O:lz}(h:O=(([],[]),0,Nb,e))(hn:bT w.heap.size w' (MG MH 0 0) (MG MH 0 0) [] [])(hb:MQ w.heap.size w w') :
  ql w O (MN (Nv #[cg (MG MH 0 0) (MG MH 0 0),MF ME 0,M3 Nb,MF ME e])) w':=by
 subst h;exact⟨MH,0,MH,0,rfl,hn,hb⟩
theorem nW{w w':MO}{n:Nat}{q:Option Oc}{m:Nat}{L:List Lf}{R:List Rq}{a e:Int}{b:Bool}{O:lz}(h:O=((L,R),a,b,e))(hl:n=L.length)(hr:k=R.length)(hn:bT w.heap.size w' (MG p n c) (MG q k m) L R)(hb:MQ w.heap.size w w'):
  ql w O (MN (Nv #[cg (MG p n c) (MG q k m),MF ME a,M3 b,MF ME e])) w':=by
 subst h hl hr;exact⟨p,c,q,m,rfl,hn,hb⟩
theorem Av(va vb:M7)(L:List Lf)(R:List Rq)(r1 r2 r3 r4 r5 now drain:Int)(w:MO)(hv:fb w va vb L R) :
  Ni MK 122 #[cg va vb,gQ r1 r2 r3 r4 r5,MF ME now,MF ME drain] w (ql w (ff L R (r1,r2,r3,r4,r5) now drain)):=by
 obtain⟨O,hout⟩:∃O,O=ff L R (r1,r2,r3,r4,r5) now drain:=⟨_,rfl⟩;rw[<-hout];obtain⟨pa,ca,rfl,hca,hma⟩:=eD.Ga hv.1;obtain⟨pb,cb,rfl,hcb,hmb⟩:=eD.Ga hv.2;obtain⟨W0,hW0⟩:∃W0,W0=((w.alloc (de (MG pa L.length ca) (MG pb R.length cb))).alloc (bl r1 r2 r3 r4 r5)).alloc (de (MG MH 0 0) (MG MH 0 0)):=⟨_,rfl⟩;have hx:=Fv w (de (MG pa L.length ca) (MG pb R.length cb)) (bl r1 r2 r3 r4 r5) (de (MG MH 0 0) (MG MH 0 0));rw[<-hW0]at hx;obtain⟨hR0,hR1,hR2,hB0,hs0⟩:=hx;obtain⟨c0,c1,_,_,hlt0⟩:=au hR0;have H:M6 (_/\_/\_/\_/\_/\_):=⟨hW0,hR1,hR2,hB0,hs0,hv.below hB0⟩;clear hv hR0 hR1 hB0 hs0 hR2
 by_cases hok:bX L R
 case neg =>
  have HO:M6 _:=rb _ _ L R W0 H.out.2.2.2.2.2 hok;have HQ:M6 (O=(([],[]),0,Nb,6)):=by
   rw[hout];exact Nf hok
  clear hW0 hout;go_enter Vk,Vg
  go_wp2_with fail
  rw[<-H.out.1];refine Nd HO.out ?_;rintro r w1 ⟨rfl,hb1⟩;have hR2:=af H.out.2.2.1 hb1;obtain⟨d0,d1,df0,df1,dlt⟩:=au hR2;have HC:M6 _:=ft (ip _ w1) hR2 (H.out.2.2.2.1.trans (hb1.mono H.out.2.2.2.1.size)) (by omega);clear hb1 hR2;go_wp2;exact Np (v:=Nv #[cg (MG MH 0 0) (MG MH 0 0),MF ME 0,M3 Nb,MF ME 6]) (jr Vc rfl rfl rfl rfl (eV HC.out.1)) rfl (nH HQ.out HC.out.2.1 HC.out.2.2)
 have HO:M6 _:=qi _ _ L R W0 H.out.2.2.2.2.2 hok;have hL9:L.length<=900:=by have:=hok.1.1;omega
 have hR9:R.length<=100:=hok.2.1;have hls:=hok.1.2;have hout1:O=if jL (r1,r2,r3,r4,r5) now drain then(if dK R r1<R.length then((L,R),(R[dK R r1]?.getD (0,0,0,0,0)).2.2.2.2,Nb,0)else if R.length=100 then((L,R),9,Nb,0)else((eA L R (r1,r2,r3,r4,r5) (now+drain)).1,(eA L R (r1,r2,r3,r4,r5) (now+drain)).2,Nw,0))else(([],[]),0,Nb,2):=by
  rw[hout];unfold ff;rw[Nh hok]
 have HQ:M6 _:=hout1;clear hout hout1 hW0 hok;obtain⟨bq,hbq⟩:∃bq,bq=Nn (je (r1,r2,r3,r4,r5)):=⟨_,rfl⟩;have HRM:M6 (∀W,_):=fun W=>qK r1 r2 r3 r4 r5 W
 rw[<-hbq]at HRM;have HBQ:M6 _:=hbq;clear hbq;cases bq
 case false =>
  have HE:M6 (O=(([],[]),0,Nb,2)):=by rw[HQ.out];exact Nf fun h=>Nc HBQ.out.symm h.1
  clear HQ;go_enter Vk,Vg
  go_wp2_with fail
  rw[<-H.out.1];refine Nd HO.out ?_;intro r w1 hop;obtain⟨T,p,k,q,m,rfl,hO,hb1⟩:=iD hop;obtain⟨a0,a1,a2,a3,a4,alt⟩:=bY (af H.out.2.1 hb1);have hB1:=ai w1 (o:=bl r1 r2 r3 r4 r5);have hR1:=af (af H.out.2.1 hb1) hB1;have hR2:=af (af H.out.2.2.1 hb1) hB1;have hbw:=(H.out.2.2.2.1.trans (hb1.mono H.out.2.2.2.1.size));have hbw2:=hbw.trans (hB1.mono hbw.size);have hO1:=hO.below hB1;have hz1:=Nm hb1.size hB1.size;clear hop c0 c1 hlt0;obtain⟨w2,hw2⟩:∃w2,w2=w1.alloc (bl r1 r2 r3 r4 r5):=⟨_,rfl⟩;rw[<-hw2]at hR1 hR2 hbw2 hO1 hz1;have H1:M6 (_/\_/\_/\_/\_):=⟨hO1,hR1,hR2,hbw2,hz1⟩;clear hO1 hR1 hR2 hbw2 hz1 hO hb1 hbw hB1
  go_wp2_with fail
  refine(HRM.out _).mono ?_;rintro r w3 ⟨rfl,rfl⟩;rw[<-hw2];clear hw2 a0 a1 a2 a3 a4 alt;obtain⟨d0,d1,df0,df1,dlt⟩:=au H1.out.2.2.1;have HC:M6 _:=ft (ip _ w2) H1.out.2.2.1 H1.out.2.2.2.1 (by omega);go_wp2;exact Np (v:=Nv #[cg (MG MH 0 0) (MG MH 0 0),MF ME 0,M3 Nb,MF ME 2]) (jr Vc rfl rfl rfl rfl (eV HC.out.1)) rfl (nH HE.out HC.out.2.1 HC.out.2.2)
 cases h2:Nn (0<=now/\now<=1099511627776)
 case false =>
  have HE:M6 (O=(([],[]),0,Nb,2)):=by rw[HQ.out];exact Nf fun h=>Nc h2 h.2.1
  clear HQ;go_enter Vk,Vg
  go_wp2_with fail
  rw[<-H.out.1];refine Nd HO.out ?_;intro r w1 hop;obtain⟨T,p,k,q,m,rfl,hO,hb1⟩:=iD hop;obtain⟨a0,a1,a2,a3,a4,alt⟩:=bY (af H.out.2.1 hb1);have hB1:=ai w1 (o:=bl r1 r2 r3 r4 r5);have hR1:=af (af H.out.2.1 hb1) hB1;have hR2:=af (af H.out.2.2.1 hb1) hB1;have hbw:=(H.out.2.2.2.1.trans (hb1.mono H.out.2.2.2.1.size));have hbw2:=hbw.trans (hB1.mono hbw.size);have hO1:=hO.below hB1;have hz1:=Nm hb1.size hB1.size;clear hop c0 c1 hlt0;obtain⟨w2,hw2⟩:∃w2,w2=w1.alloc (bl r1 r2 r3 r4 r5):=⟨_,rfl⟩;rw[<-hw2]at hR1 hR2 hbw2 hO1 hz1;have H1:M6 (_/\_/\_/\_/\_):=⟨hO1,hR1,hR2,hbw2,hz1⟩;clear hO1 hR1 hR2 hbw2 hz1 hO hb1 hbw hB1
  go_wp2_with fail
  refine(HRM.out _).mono ?_;rintro r w3 ⟨rfl,rfl⟩;rw[<-hw2];clear hw2 a0 a1 a2 a3 a4 alt;obtain⟨d0,d1,df0,df1,dlt⟩:=au H1.out.2.2.1;have HC:M6 _:=ft (ip _ w2) H1.out.2.2.1 H1.out.2.2.2.1 (by omega)
  go_wp2_with fail
  refine(cM _ _ _ _).mono ?_;rw[h2];rintro r w2 ⟨rfl,rfl⟩;go_wp2;exact Np (v:=Nv #[cg (MG MH 0 0) (MG MH 0 0),MF ME 0,M3 Nb,MF ME 2]) (jr Vc rfl rfl rfl rfl (eV HC.out.1)) rfl (nH HE.out HC.out.2.1 HC.out.2.2)
 cases h3:Nn (0<=drain/\drain<=500)
 case false =>
  have HE:M6 (O=(([],[]),0,Nb,2)):=by rw[HQ.out];exact Nf fun h=>Nc h3 h.2.2
  clear HQ;go_enter Vk,Vg
  go_wp2_with fail
  rw[<-H.out.1];refine Nd HO.out ?_;intro r w1 hop;obtain⟨T,p,k,q,m,rfl,hO,hb1⟩:=iD hop;obtain⟨a0,a1,a2,a3,a4,alt⟩:=bY (af H.out.2.1 hb1);have hB1:=ai w1 (o:=bl r1 r2 r3 r4 r5);have hR1:=af (af H.out.2.1 hb1) hB1;have hR2:=af (af H.out.2.2.1 hb1) hB1;have hbw:=(H.out.2.2.2.1.trans (hb1.mono H.out.2.2.2.1.size));have hbw2:=hbw.trans (hB1.mono hbw.size);have hO1:=hO.below hB1;have hz1:=Nm hb1.size hB1.size;clear hop c0 c1 hlt0;obtain⟨w2,hw2⟩:∃w2,w2=w1.alloc (bl r1 r2 r3 r4 r5):=⟨_,rfl⟩;rw[<-hw2]at hR1 hR2 hbw2 hO1 hz1;have H1:M6 (_/\_/\_/\_/\_):=⟨hO1,hR1,hR2,hbw2,hz1⟩;clear hO1 hR1 hR2 hbw2 hz1 hO hb1 hbw hB1
  go_wp2_with fail
  refine(HRM.out _).mono ?_;rintro r w3 ⟨rfl,rfl⟩;rw[<-hw2];clear hw2 a0 a1 a2 a3 a4 alt;obtain⟨d0,d1,df0,df1,dlt⟩:=au H1.out.2.2.1;have HC:M6 _:=ft (ip _ w2) H1.out.2.2.1 H1.out.2.2.2.1 (by omega)
  go_wp2_with fail
  refine(cM _ _ _ _).mono ?_;rw[h2];rintro r w2 ⟨rfl,rfl⟩
  go_wp2_with fail
  refine(cM _ _ _ _).mono ?_;rw[h3];rintro r w2 ⟨rfl,rfl⟩;go_wp2;exact Np (v:=Nv #[cg (MG MH 0 0) (MG MH 0 0),MF ME 0,M3 Nb,MF ME 2]) (jr Vc rfl rfl rfl rfl (eV HC.out.1)) rfl (nH HE.out HC.out.2.1 HC.out.2.2)
 have hnow:=M2 h2;have hdr:=M2 h3;have hout2:=HQ.out;rw[Nh ⟨M2 HBQ.out.symm,hnow,hdr⟩]at hout2;have hwr:IntKind.i64.wrap (now+drain)=now+drain:=by rw[Ow];omega
 clear HQ;obtain⟨⟨x1,x2,x3,x4,x5⟩,hx⟩:∃x,x=R[dK R r1]?.getD (0,0,0,0,0):=⟨_,rfl⟩;obtain⟨bo,hbo⟩:∃bo,bo=Nn (dK R r1<R.length):=⟨_,rfl⟩;rw[<-hx]at hout2;have HX:M6 (_/\_/\_):=⟨hx,hbo,hout2⟩;obtain⟨n0,n1⟩:=hnow;obtain⟨n2,n3⟩:=hdr;clear hx hbo hout2;cases bo
 case true =>
  have HE:M6 (O=((L,R),x5,Nb,0)):=by rw[HX.out.2.2];exact Nh (M2 HX.out.2.1.symm)
  go_enter Vk,Vg
  go_wp2_with fail
  rw[<-H.out.1];refine Nd HO.out ?_;intro r w1 hop;obtain⟨T,p,k,q,m,rfl,hO,hb1⟩:=iD hop;obtain⟨a0,a1,a2,a3,a4,alt⟩:=bY (af H.out.2.1 hb1);have hB1:=ai w1 (o:=bl r1 r2 r3 r4 r5);have hR1:=af (af H.out.2.1 hb1) hB1;have hR2:=af (af H.out.2.2.1 hb1) hB1;have hbw:=(H.out.2.2.2.1.trans (hb1.mono H.out.2.2.2.1.size));have hbw2:=hbw.trans (hB1.mono hbw.size);have hO1:=hO.below hB1;have hz1:=Nm hb1.size hB1.size;clear hop c0 c1 hlt0;obtain⟨w2,hw2⟩:∃w2,w2=w1.alloc (bl r1 r2 r3 r4 r5):=⟨_,rfl⟩;rw[<-hw2]at hR1 hR2 hbw2 hO1 hz1;have H1:M6 (_/\_/\_/\_/\_):=⟨hO1,hR1,hR2,hbw2,hz1⟩;clear hO1 hR1 hR2 hbw2 hz1 hO hb1 hbw hB1
  go_wp2_with fail
  refine(HRM.out _).mono ?_;rintro r w3 ⟨rfl,rfl⟩;rw[<-hw2];clear hw2 a0 a1 a2 a3 a4 alt
  go_wp2_with fail
  refine(cM _ _ _ _).mono ?_;rw[h2];rintro r w2 ⟨rfl,rfl⟩
  go_wp2_with fail
  refine(cM _ _ _ _).mono ?_;rw[h3];rintro r w2 ⟨rfl,rfl⟩;obtain⟨a0,a1,a2,a3,a4,alt⟩:=bY H1.out.2.1;have HA:M6 _:=nO W0.heap.size T p k q m L R r1 w2 H1.out.1 x1 x2 x3 x4 x5 Nw HX.out.1 HX.out.2.1
  go_wp2_with fail
  refine Nd HA.out ?_;rintro r w3 ⟨rfl,hb3⟩;obtain⟨w4,hw4⟩:∃w4,w4=w3.alloc (bl x1 x2 x3 x4 x5):=⟨_,rfl⟩;have hb4:MQ w2.heap.size w2 w4:=by rw[hw4];exact hb3.alloc hb3.size _
  have hO4:=H1.out.1.below hb4;have hR4:=af H1.out.2.2.1 hb4;have hq4:=af H1.out.2.1 hb4;have hbw4:=H1.out.2.2.2.1.trans (hb4.mono H1.out.2.2.2.1.size);have hz4:=Nm H1.out.2.2.2.2 hb4.size;have hx4:w4.heap[w3.heap.size]?=MI (bl x1 x2 x3 x4 x5):=by rw[hw4];exact M1 _ _
  clear a0 a1 a2 a3 a4 alt;obtain⟨d0,d1,df0,df1,dlt⟩:=au hR4;obtain⟨t0,t1,_,_,tlt⟩:=au hO4.box;obtain⟨y0,y1,y2,y3,y4,ylt⟩:=bY hx4;have hs:=H.out.2.2.2.2.1;have HC:M6 _:=ft (hO4.new (by omega)) hR4 hbw4 (by omega);clear hO4 hR4 hbw4 hz4 hx4 hb3 hb4 hs hq4
  go_upto_region 8 with fail
  rw[<-hw4];clear hw4
  go_region
  all_goals
   go_wp2;exact Np (v:=Nv #[cg (MG p L.length k) (MG q R.length m),MF ME x5,M3 Nb,MF ME 0]) (jr Vc rfl rfl rfl rfl (eV (W:=(ik w4 (w.heap.size+1+1) (MG p L.length k) (MG q R.length m)).drew) HC.out.1)) rfl (nW HE.out rfl rfl HC.out.2.1.GY HC.out.2.2.drew)
 case false =>
  by_cases h100:R.length=100
  ·have HE:M6 (O=((L,R),9,Nb,0)):=by rw[HX.out.2.2,Nf (Nc HX.out.2.1.symm)];exact Nh h100
   have HH:M6 _:=h100;rw[h100]at H HO c1 hcb⊢;clear h100;go_enter Vk,Vg
   go_wp2_with fail
   rw[<-H.out.1];refine Nd HO.out ?_;intro r w1 hop;obtain⟨T,p,k,q,m,rfl,hO,hb1⟩:=iD hop;rw[HH.out]at hO;obtain⟨a0,a1,a2,a3,a4,alt⟩:=bY (af H.out.2.1 hb1);have hB1:=ai w1 (o:=bl r1 r2 r3 r4 r5);have hR1:=af (af H.out.2.1 hb1) hB1;have hR2:=af (af H.out.2.2.1 hb1) hB1;have hbw:=(H.out.2.2.2.1.trans (hb1.mono H.out.2.2.2.1.size));have hbw2:=hbw.trans (hB1.mono hbw.size);have hO1:=hO.below hB1;have hz1:=Nm hb1.size hB1.size;clear hop c0 c1 hlt0;obtain⟨w2,hw2⟩:∃w2,w2=w1.alloc (bl r1 r2 r3 r4 r5):=⟨_,rfl⟩;rw[<-hw2]at hR1 hR2 hbw2 hO1 hz1;have H1:M6 (_/\_/\_/\_/\_):=⟨hO1,hR1,hR2,hbw2,hz1⟩;clear hO1 hR1 hR2 hbw2 hz1 hO hb1 hbw hB1
   go_wp2_with fail
   refine(HRM.out _).mono ?_;rintro r w3 ⟨rfl,rfl⟩;rw[<-hw2];clear hw2 a0 a1 a2 a3 a4 alt
   go_wp2_with fail
   refine(cM _ _ _ _).mono ?_;rw[h2];rintro r w2 ⟨rfl,rfl⟩
   go_wp2_with fail
   refine(cM _ _ _ _).mono ?_;rw[h3];rintro r w2 ⟨rfl,rfl⟩;obtain⟨a0,a1,a2,a3,a4,alt⟩:=bY H1.out.2.1;have HA:M6 _:=nO W0.heap.size T p k q m L R r1 w2 (by rw[HH.out];exact H1.out.1) x1 x2 x3 x4 x5 Nb HX.out.1 HX.out.2.1
   go_wp2_with fail
   refine Nd HA.out ?_;rintro r w3 ⟨rfl,hb3⟩;obtain⟨w4,hw4⟩:∃w4,w4=w3.alloc (bl x1 x2 x3 x4 x5):=⟨_,rfl⟩;have hb4:MQ w2.heap.size w2 w4:=by rw[hw4];exact hb3.alloc hb3.size _
   have hO4:=H1.out.1.below hb4;have hR4:=af H1.out.2.2.1 hb4;have hq4:=af H1.out.2.1 hb4;have hbw4:=H1.out.2.2.2.1.trans (hb4.mono H1.out.2.2.2.1.size);have hz4:=Nm H1.out.2.2.2.2 hb4.size;clear a0 a1 a2 a3 a4 alt;obtain⟨d0,d1,df0,df1,dlt⟩:=au hR4;obtain⟨t0,t1,_,_,tlt⟩:=au hO4.box;have hs:=H.out.2.2.2.2.1;have HC:M6 _:=ft (hO4.new (by omega)) hR4 hbw4 (by omega);rw[hw4]at d0 d1 df0 df1 dlt t0 t1 tlt;clear hO4 hR4 hbw4 hz4 hb3 hb4 hs hq4;go_wp2;rw[<-hw4];exact Np (v:=Nv #[cg (MG p L.length k) (MG q 100 m),MF ME 9,M3 Nb,MF ME 0]) (jr Vc rfl rfl rfl rfl (eV HC.out.1)) rfl (nW HE.out rfl HH.out.symm HC.out.2.1 HC.out.2.2)
  ·have hb100:((R.length:Int) == 100)=false:=by simp;omega
   obtain⟨⟨⟨L',R'⟩,ans⟩,htk⟩:∃x,x=eA L R (r1,r2,r3,r4,r5) (now+drain):=⟨_,rfl⟩;have HE:M6 (O=((L',R'),ans,Nw,0)):=by
    rw[HX.out.2.2,Nf (Nc HX.out.2.1.symm),Nf h100,<-htk];exact rfl
   have HT:M6 _:=htk.symm;clear htk;go_enter Vk,Vg
   go_wp2_with fail
   rw[<-H.out.1];refine Nd HO.out ?_;intro r w1 hop;obtain⟨T,p,k,q,m,rfl,hO,hb1⟩:=iD hop;obtain⟨a0,a1,a2,a3,a4,alt⟩:=bY (af H.out.2.1 hb1);have hB1:=ai w1 (o:=bl r1 r2 r3 r4 r5);have hR1:=af (af H.out.2.1 hb1) hB1;have hR2:=af (af H.out.2.2.1 hb1) hB1;have hbw:=(H.out.2.2.2.1.trans (hb1.mono H.out.2.2.2.1.size));have hbw2:=hbw.trans (hB1.mono hbw.size);have hO1:=hO.below hB1;have hz1:=Nm hb1.size hB1.size;clear hop c0 c1 hlt0;obtain⟨w2,hw2⟩:∃w2,w2=w1.alloc (bl r1 r2 r3 r4 r5):=⟨_,rfl⟩;rw[<-hw2]at hR1 hR2 hbw2 hO1 hz1;have H1:M6 (_/\_/\_/\_/\_):=⟨hO1,hR1,hR2,hbw2,hz1⟩;clear hO1 hR1 hR2 hbw2 hz1 hO hb1 hbw hB1
   go_wp2_with fail
   refine(HRM.out _).mono ?_;rintro r w3 ⟨rfl,rfl⟩;rw[<-hw2];clear hw2 a0 a1 a2 a3 a4 alt
   go_wp2_with fail
   refine(cM _ _ _ _).mono ?_;rw[h2];rintro r w2 ⟨rfl,rfl⟩
   go_wp2_with fail
   refine(cM _ _ _ _).mono ?_;rw[h3];rintro r w2 ⟨rfl,rfl⟩;obtain⟨a0,a1,a2,a3,a4,alt⟩:=bY H1.out.2.1;have HA:M6 _:=nO W0.heap.size T p k q m L R r1 w2 H1.out.1 x1 x2 x3 x4 x5 Nb HX.out.1 HX.out.2.1
   go_wp2_with fail
   refine Nd HA.out ?_;rintro r w3 ⟨rfl,hb3⟩;obtain⟨w4,hw4⟩:∃w4,w4=w3.alloc (bl x1 x2 x3 x4 x5):=⟨_,rfl⟩;have hb4:MQ w2.heap.size w2 w4:=by rw[hw4];exact hb3.alloc hb3.size _
   have hO4:=H1.out.1.below hb4;have hR4:=af H1.out.2.2.1 hb4;have hq4:=af H1.out.2.1 hb4;have hbw4:=H1.out.2.2.2.1.trans (hb4.mono H1.out.2.2.2.1.size);have hz4:=Nm H1.out.2.2.2.2 hb4.size;clear a0 a1 a2 a3 a4 alt;obtain⟨a0,a1,a2,a3,a4,alt⟩:=bY hq4;obtain⟨t0,t1,_,_,tlt⟩:=au hO4.box;have hs:=H.out.2.2.2.2.1;have HTK:M6 (_/\_/\_):=⟨zD W0.heap.size T p k q m L R r1 r2 r3 r4 r5 (now+drain) w4 hz4 hO4 hls hL9 (by omega) L' R' ans HT.out,hR4,hbw4⟩;rw[hw4]at a0 a1 a2 a3 a4 alt t0 t1 tlt;clear hO4 hR4 hbw4 hz4 hb3 hb4 hs hq4 h100
   go_wp2_with fail
   rw[<-hw4];refine Nd HTK.out.1 ?_;rintro r w5 ⟨rfl,⟨p',c',q',m',hO5⟩,hb5⟩;have hs:=H.out.2.2.2.2.1;have hR5:=(hb5.block (w.heap.size+1+1) (by omega)).trans HTK.out.2.1;have hbw5:MQ w.heap.size w w5:=HTK.out.2.2.trans (hb5.mono (by omega));obtain⟨d0,d1,df0,df1,dlt⟩:=au hR5;clear t0 t1 tlt a0 a1 a2 a3 a4 alt;obtain⟨t0,t1,_,_,tlt⟩:=au hO5.box;have HC:M6 _:=ft (hO5.new (by omega)) hR5 hbw5 (by omega);clear hO5 hR5 hbw5 hb5 hs hw4;go_wp2;exact Np (v:=Nv #[cg (MG p' L'.length c') (MG q' R'.length m'),MF ME ans,M3 Nw,MF ME 0]) (jr Vc rfl rfl rfl rfl (eV HC.out.1)) rfl (nW HE.out rfl rfl HC.out.2.1 HC.out.2.2)
theorem et.F6{w:MO}{l:List Int}(h:et w v l):
  ∃a cap,v=MG a l.length cap/\l.length<=cap/\cap<=NE/\∀i (hi:i<l.length),∃b off,a=MI ⟨b,off,MH⟩/\b<w.heap.size/\w.cell? ⟨b,off+i,MH⟩=MI (MF ME l[i]):=by
 obtain⟨a,cap,h1,h2,h3,h4⟩:=eD.F6 rn h;refine⟨a,cap,h1,h2,h3,fun i hi=>?_⟩;obtain⟨b,off,e,hb,hc⟩:=h4 i hi;have:=hc 0 (by omega);rw[P6,Oe]at this;exact⟨b,off,e,hb,this⟩
theorem vm:∀(L:List Lf) (a:Int),L.Pairwise (fun x y=>x.1<y.1)->(∀x∈L,a<=x.1/\x.1<=11)->L=[]\/(L.length:Int)<=12-a
 | [],_,_,_=>Nt rfl
 |x::l,a,h,hb=>by
  right;have h1:=List.pairwise_cons.1 h;have hx:=hb x (by simp);have:=vm l (x.1+1) h1.2 fun y hy=>⟨by have:=h1.1 y hy;omega,(hb y (by simp[hy])).2⟩
  rcases this with rfl|h2
  ·simp;omega
  ·simp;omega
theorem zJ{L:List Lf}(h:fy L):L.length<=12:=by
 rcases vm L 0 h.2 (fun x hx=>(h.1 x hx).1.1)with rfl|h2
 ·simp
 ·omega
theorem yu{L:List Lf}(h:L.Pairwise (fun x y=>x.1<y.1))(hi:i<L.length)(hy:y.1=L[i].1):(L.set i y).Pairwise (fun x y=>x.1<y.1):=by
 rw[List.pairwise_iff_getElem]at h⊢;intro a b ha hb hab;rw[NA]at ha hb;have:=h a b ha hb hab;rw[Pc,Pc]
 split <;> split
 ·omega
 ·rename_i e _;subst e;rw[hy];exact this
 ·rename_i _ e;subst e;rw[hy];exact this
 ·exact this
theorem z8{α:Type}{L:List α}{x y:α}(h:x∈L.set i y):x∈L\/x=y:=OB h
theorem FM{L:List Lf}(h:fy L)(hi:i<L.length)(hy:y.1=L[i].1)(hok:dx y):fy (L.set i y):=
 ⟨fun x hx=>(z8 hx).elim (h.1 x) (fun e=>by rw[e];exact hok),yu h.2 hi hy⟩
theorem KI{α:Type}{L:List α}{x y:α}(h:x∈aT L y i):x∈L\/x=y:=by
 unfold aT at h;rcases List.mem_append.1 h with h|h
 ·exact Nt (List.mem_of_mem_take h)
 ·rcases List.mem_cons.1 h with h|h
  ·exact NF h
  ·exact Nt (List.mem_of_mem_drop h)
theorem Lo{L:List Lf}(h:L.Pairwise (fun x y=>x.1<y.1))(hh:cK L n=Nb)(hy:y.1=n):(aT L y (aU L n)).Pairwise (fun x y=>x.1<y.1):=by
 unfold aT;have hne:=Lj hh h;have hp:=rl L n;have hlo:∀a∈L.take (aU L n),a.1<n:=by
  intro a ha;obtain⟨j,hj,rfl⟩:=List.mem_take_iff_getElem.1 ha;exact zx (by omega)
 have hhi:∀b∈L.drop (aU L n),n<b.1:=by
  intro b hb;obtain⟨j,hj,rfl⟩:=List.mem_drop_iff_getElem.1 hb;have h1:=BE (L:=L) (n:=n) (by omega);have h2:=hne L[aU L n+j] (Nk _);rcases Nat.eq_zero_or_pos j with e|e
  ·subst e
   simp only[Oe]at h2⊢;omega
  ·have h3:=List.pairwise_iff_getElem.1 h (aU L n) (aU L n+j) (by omega) (by omega) (by omega)
   omega
 refine List.pairwise_append.2 ⟨h.sublist (List.take_sublist _ _),List.pairwise_cons.2 ⟨fun b hb=>by rw[hy];exact hhi b hb,h.sublist (List.drop_sublist _ _)⟩,fun a ha b hb=>?_⟩;rcases List.mem_cons.1 hb with rfl|hb
 ·rw[hy];exact hlo a ha
 ·have:=hlo a ha
  have:=hhi b hb;omega
theorem Ll{L:List Lf}(h:fy L)(hh:cK L n=Nb)(hy:y.1=n)(hok:dx y):fy (aT L y (aU L n)):=
 ⟨fun x hx=>(KI hx).elim (h.1 x) (fun e=>by rw[e];exact hok),Lo h.2 hh hy⟩
theorem zm{L:List Lf}(h:cK L n=Nw):L[aU L n]?.getD (0,0,0,0,0,0)=L[aU L n]'(fV h):=by
 rw[MR (fV h)];rfl
theorem Lk{L:List Lf}{m:Int}(h:x∈(gE L n m).1):x∈L\/(x=(n,1,m,0,0,0)/\(0<=n/\n<=11)/\(1<=m/\m<=8)):=by
 unfold gE at h
 split at h
 ·exact Nt h
 ·rename_i hc
  have hb:(0<=n/\n<=11)/\(1<=m/\m<=8):=by omega
  split at h
  ·split at h
   ·exact(z8 h).imp id (fun e=>⟨e,hb⟩)
   ·exact Nt h
  ·exact(KI h).imp id (fun e=>⟨e,hb⟩)
theorem KH{L:List Lf}(h:fy L)(n m:Int):fy (gE L n m).1:=by
 unfold gE
 split
 ·exact h
 ·rename_i hc
  have hb:(0<=n/\n<=11)/\(1<=m/\m<=8):=by omega
  have hok:dx (n,1,m,0,0,0):=⟨⟨hb.1,hb.2,(show(0:Int)<=0/\(0:Int)<=1099511627776 by decide),(show(0:Int)<=0/\(0:Int)<=1099511628276 by decide),(show(0:Int)<=0/\(0:Int)<=1048576 by decide)⟩,Nt ⟨rfl,rfl,rfl,rfl⟩⟩
  split
  ·rename_i hh
   split
   ·exact FM h (fV hh) (EK hh).symm hok
   ·exact h
  ·rename_i hh
   exact Ll h (by simpa using hh) rfl hok
theorem Lm{L:List Lf}(h:x∈(ec L n id u).1):x∈L\/∃y∈L,x=mH y u id:=by
 unfold ec at h
 split at h
 ·rename_i hh
  split at h
  ·exact Nt h
  ·split at h
   ·exact Nt h
   ·rw[zm hh]at h
    exact(z8 h).imp (fun e=>e) (fun e=>⟨_,Nk _,e⟩)
 ·exact Nt h
theorem Lh(h:dx y)(hu:0<=u/\u<=1099511628276)(hid:0<=id/\id<=1048576):dx (mH y u id):=by
 refine⟨⟨h.1.1,h.1.2.1,h.1.2.2.1,hu,hid⟩,?_⟩;unfold mH
 by_cases h2:y.2.1=2
 ·rw[Nh h2];exact NF (NF (Nt rfl))
 ·rw[Nf h2];exact NF (NF (NF rfl))
theorem Ln{L:List Lf}(h:fy L)(n:Int)(hu:0<=u/\u<=1099511628276)(hid:0<=id/\id<=1048576):fy (ec L n id u).1:=by
 unfold ec
 split
 ·rename_i hh
  split
  ·exact h
  ·split
   ·exact h
   ·rw[zm hh]
    exact FM h (fV hh) rfl (Lh (h.1 _ (Nk _)) hu hid)
 ·exact h
theorem wO{R:List Rq}(h:¬dK R id<R.length):∀r∈R,r.1≠id:=by
 intro r hr e;have:dK R id<R.length:=List.findIdx_lt_length_of_exists ⟨r,hr,by simpa using e⟩;exact h this
theorem sS{R:List Rq}(h:∀r∈R,r.1≠id):¬dK R id<R.length:=by
 intro hlt;have:=List.findIdx_getElem (w:=hlt);unfold dK at hlt;exact h _ (Nk hlt) (by simpa using this)
theorem KJ{R:List Rq}(h:mJ R)(hr:je r)(hn:∀q∈R,q.1≠r.1):mJ (R++[r]):=by
 refine⟨fun x hx=>?_,List.pairwise_append.2 ⟨h.2,by simp,fun a ha b hb=>?_⟩⟩
 ·rcases List.mem_append.1 hx with hx|hx
  ·exact h.1 x hx
  ·simp at hx
   rw[hx];exact hr
 ·simp at hb
  rw[hb];exact hn a ha
theorem Lp{L:List Lf}{R:List Rq}(hb:bX L R)(hR:R.length<100)(hr:je r)(hn:∀q∈R,q.1≠r.1)(hu:0<=u/\u<=1099511628276):
  bX (eA L R r u).1.1 (eA L R r u).1.2/\(eA L R r u).1.2.length=R.length+1/\(∀q∈(eA L R r u).1.2,q∈R\/q.1=r.1)/\(∀x∈(eA L R r u).1.1,x∈L\/(r.2.1=1/\x=(r.2.2.1,1,r.2.2.2.1,0,0,0))\/∃y∈L,x=mH y u r.1):=by
 unfold eA
 split
 ·rename_i hk
  have hl:=KH hb.1.2 r.2.2.1 r.2.2.2.1;refine⟨⟨⟨zJ hl,hl⟩,by simp;omega,KJ hb.2.2 hr hn⟩,by simp,fun q hq=>?_,fun x hx=>?_⟩
  ·rcases List.mem_append.1 hq with hq|hq
   ·exact Nt hq
   ·simp at hq;exact NF (by rw[hq])
  ·exact(Lk hx).imp id (fun h=>Nt ⟨hk,h.1⟩)
 ·have hl:=Ln hb.1.2 r.2.2.1 hu hr.1
  refine⟨⟨⟨zJ hl,hl⟩,by simp;omega,KJ hb.2.2 hr hn⟩,by simp,fun q hq=>?_,fun x hx=>?_⟩
  ·rcases List.mem_append.1 hq with hq|hq
   ·exact Nt hq
   ·simp at hq;exact NF (by rw[hq])
  ·exact(Lm hx).imp id NF
theorem xO{L:List Lf}{R:List Rq}(hb:bX L R)(hR:R.length<100)(ha:jL r now drain)(hn:∀q∈R,q.1≠r.1):ff L R r now drain=((eA L R r (now+drain)).1,(eA L R r (now+drain)).2,Nw,0):=by
 unfold ff;rw[Nh hb,Nh ha,Nf (sS hn),Nf (by omega)]
theorem yJ{L:List Lf}{R:List Rq}(hb:bX L R)(ha:jL r now drain)(hn:dK R r.1<R.length):ff L R r now drain=((L,R),(R[dK R r.1]?.getD (0,0,0,0,0)).2.2.2.2,Nb,0):=by
 unfold ff;rw[Nh hb,Nh ha,Nh hn]
theorem vQ(now:Int)(x:Lf):(aY now x).1=x.1:=by unfold aY;split <;> rfl
theorem CW(hn:0<=now/\now<=1099511627776)(h:dx x):dx (aY now x):=by
 unfold aY
 split
 ·rename_i h1
  rcases h.2 with h2|h2|h2|h2
  ·exact⟨⟨h.1.1,h.1.2.1,hn,h.1.2.2.2.1,h.1.2.2.2.2⟩,NF (Nt ⟨rfl,h2.2.2.1,h2.2.2.2⟩)⟩
  ·rw[h1]at h2;exact absurd h2.1 (by decide)
  ·rw[h1]at h2;exact absurd h2 (by decide)
  ·rw[h1]at h2;exact absurd h2 (by decide)
 ·exact h
theorem Dw{L:List Lf}{R:List Rq}(hb:bX L R)(hn:0<=now/\now<=1099511627776):bX (L.map (aY now)) R:=by
 refine⟨⟨by rw[N0];exact hb.1.1,fun x hx=>?_,?_⟩,hb.2⟩
 ·obtain⟨y,hy,rfl⟩:=List.mem_map.1 hx
  exact CW hn (hb.1.2.1 y hy)
 ·rw[List.pairwise_map]
  refine hb.1.2.2.imp fun {a b} h=>?_
  rw[vQ,vQ];exact h
theorem vk{L:List Lf}{R:List Rq}(hb:bX L R)(hn:0<=now/\now<=1099511627776):gB L R now=((L.map (aY now),R),bv L,0):=by
 unfold gB;rw[Nh hb,Nh hn]
theorem EV{L:List Lf}(hr:L.Pairwise (fun a b=>a.1<b.1))(hx:x∈L)(hn:x.1=n):∃h:cK L n=Nw,L[aU L n]'(fV h)=x:=by
 obtain⟨i,hi,rfl⟩:=NV hx;have hm:=vn hr hi;rw[hn]at hm;refine⟨hm.1,?_⟩;simp only[hm.2]
theorem Cb{L:List Lf}(hi:i<L.length)(y:Lf):y∈L.set i y:=by
 have:=Nk (l:=L.set i y) (n:=i) (by rw[NA];exact hi);rwa[NW]at this
theorem Bn{L:List Lf}{R:List Rq}(hb:bX L R)(hx:x∈L)(hxn:x.1=n)(hs:x.2.1=3):∃L',eL L R n=((L',R),0)/\dC x∈L'/\bX L' R:=by
 obtain⟨hh,ha⟩:=EV hb.1.2.2 hx hxn;refine⟨L.set (aU L n) (dC x),?_,Cb (fV hh) _,?_⟩
 ·unfold eL
  rw[Nh hb,zm hh,ha,Nh ⟨hh,hs⟩]
 ·have hl:=FM hb.1.2 (fV hh) (y:=dC x) (by rw[ha];rfl) ⟨(hb.1.2.1 x hx).1,NF (NF (NF rfl))⟩
  exact⟨⟨zJ hl,hl⟩,hb.2⟩
theorem Et{L:List Lf}{R:List Rq}(hb:bX L R)(hR:R.length=100)(ha:jL r now drain)(hn:∀q∈R,q.1≠r.1):ff L R r now drain=((L,R),9,Nb,0):=by
 unfold ff;rw[Nh hb,Nh ha,Nf (sS hn),Nh hR]
end Go.Proofs.YtlnbhjdhcmgljaaGreatDoor.Q
