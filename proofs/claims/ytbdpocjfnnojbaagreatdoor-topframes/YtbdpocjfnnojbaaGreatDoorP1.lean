/-
  Contracts of the layers and of core, part 1. Conditions: as each theorem says.
-/
import Derived.BigQuiet
import Derived.Deep.Upon
import Derived.Shelf.Spec.SlicesInsert
import Derived.Shelf.SlSortCmp.QuietGrown
import Derived.Maps.OwnSet
import Derived.Test.YtbdpocjfnnojbaaGreatDoorP0
import Derived.Deep.CutRange
open Array renaming getElem?_eq_some_iff->ZAa
open Bool renaming false->Nb,true->Nw
open Decidable renaming decide->Nn
open Go renaming Addr->Oc,Calls->Ni,Program->O8,TypeId->NU,Value->M7,World->MO,cell_grown->Ob,maxLen->NE,results->Pf,undef->PL,wpQuiet_nil->Oy,wp_region_quiet_grown->NQ
open Go.Builtin renaming append_->N2
open Go.Calls renaming grown_of->NZ
open Go.Ending renaming returned->MN
open Go.Extern.SlicesOverlaps renaming overlaps->P9
open Go.Fn renaming func->PD
open Go.IntKind renaming i64->ME
open Go.Lit renaming int->N6
open Go.Maps renaming keyOf_int_mk->Qg,size->Tu
open Go.Obj renaming cells->MP
open Go.Oper renaming wp->RB
open Go.Proofs.Tryz renaming func100->ax3,func120->aAa,func175->Wq,func176->aAQ,func177->aAP,func179->UW,func186->Td,func187->UN,func202->UQ,func236->US,func237->ay0,func238->axU,func239->azP,func244->VT,func254->aze,func255->ax8,func287->aAx,func293->az2,func310->aAf,func99->azW,ntmps100->axZ,ntmps120->az8,ntmps175->We,ntmps176->aAG,ntmps177->aAF,ntmps179->UI,ntmps186->SH,ntmps187->UB,ntmps202->UD,ntmps236->UF,ntmps237->TO,ntmps238->axT,ntmps239->azF,ntmps244->VK,ntmps254->aza,ntmps255->ax4,ntmps287->aAr,ntmps293->az1,ntmps310->aAb,ntmps99->azR,prog->MK,results120->TL,results186->aAk,results187->Qm,underlying217->aAN,underlying338->az3,underlying42->axO,underlying43->axS,underlying45->ayo
open Go.Region renaming wanted->Pz
open Go.RowKit renaming Below->MQ,Hid->M6,intOf->On
open Go.Sort renaming grow->Oj
open Go.Value renaming agg->Ny,bool->M3,func->PB,int->MF,map->P0,pointer->Na,slice->MG,tuple->Nv
open Go.World renaming cell?->Nl,frozen?->Ng,shape?->QO
open List renaming getElem?_cons_zero->Od,getElem?_eq_some_iff->ZAb,length_eq_zero_iff->ZAc,mem_map->ZAd,pairwise_cons->ZAe
open Nat renaming le_of_succ_le->SO
open Option renaming none->MH,some->MI
open Or renaming inl->Nt,inr->NF
namespace Go.Proofs.YtbdpocjfnnojbaaGreatDoor.Q
set_option linter.unusedVariables false
set_option linter.unusedSimpArgs false
set_option maxHeartbeats 16000000
set_option maxRecDepth 100000
open Go.RowKit
attribute [local go_sem ↓] Go.wp_at_zero Go.wp_at_succ
section
variable {e:NU}{base n:Nat}
section
variable {α:Type}{c:α->List M7}{k:Nat}
theorem abx(hk:∀x,(c x).length=k):∀l:List α,(rv c l).length=l.length*k
 | []=>by simp[rv]
 |x::l=>by
  simp only[rv,Ns,hk,abx hk l,Ox,ON];omega
theorem acL:∀l m:List α,rv c (l++m)=rv c l++rv c m
 | [],_=>rfl
 |x::l,m=>by simp only[List.cons_append,rv,acL l m,OC]
theorem ZA(hk:∀x,(c x).length=k):∀(l:List α) (i j:Nat) (hi:i<l.length),j<k->(rv c l)[i*k+j]?=(c l[i])[j]?
 |x::l,0,j,_,hj=>by
  simp only[rv,Nat.zero_mul,Oa,MS];rw[OJ (by simp[hk,hj])]
 |x::l,i+1,j,hi,hj=>by
  have a:=ZA hk l i j (by simpa using hi) hj;simp only[rv,MT];rw[Tw (by simp only[hk,ON];omega),<-a]
  congr 1
  simp only[hk,ON];omega
theorem adm(h1:∀x,∀u∈c x,u.oneCell'=Nw)(l:List α):∀u∈rv c l,u.oneCell'=true:=by
 induction l with
 |nil=>simp[rv]
 |cons x l ih =>
  intro u a;simp only[rv,QF]at a;rcases a with a|a
  ·exact h1 x u a
  ·exact ih u a
theorem ahF(hk:∀x,(c x).length=k):∀(l:List α) (i:Nat),(rv c l).take (i*k)=rv c (l.take i)
 | [],i=>by simp[rv]
 |x::l,0=>by simp[rv]
 |x::l,i+1=>by
  simp only[rv,PT];rw[show(i+1)*k=(c x).length+i*k by simp only[hk,ON];omega,List.take_length_add_append,ahF hk l i]
theorem ak4(hk:∀x,(c x).length=k):∀(l:List α) (i:Nat),(rv c l).drop (i*k)=rv c (l.drop i)
 | [],i=>by simp[rv]
 |x::l,0=>by simp[rv]
 |x::l,i+1=>by
  simp only[rv,List.drop_succ_cons];rw[show(i+1)*k=(c x).length+i*k by simp only[hk,ON];omega,List.drop_length_add_append,ak4 hk l i]
theorem ack(hk:∀x,(c x).length=k):∀(l:List α) (i j:Nat) (v:M7) (y:α) (hi:i<l.length),j<k->c y=(c l[i]).set j v->(rv c l).set (i*k+j) v=rv c (l.set i y)
 |x::l,0,j,v,y,_,hj,hy=>by
  simp only[rv,Nat.zero_mul,Oa,ML,MS]at hy⊢;rw[List.set_append_left _ _ (by simp[hk,hj]),hy]
 |x::l,i+1,j,v,y,hi,hj,hy=>by
  have a:=ack hk l i j v y (by simpa using hi) hj (by simpa using hy);simp only[rv,MM];rw[Pw _ _ (by simp only[hk,ON];omega),<-a]
  congr 2
  simp only[hk,ON];omega
end
section
variable {α:Type}{c:α->List M7}{k:Nat}{w w':MO}{v:M7}{l:List α}
theorem Xw.below(h:Xw c w v l)(hb:yA w w'):Xw c w' v l:=XB.below h hb
theorem ak3(w:MO):Xw c w (MG MH 0 0) ([]:List α):=Z3 w
theorem Xw.F6(hk:∀x,(c x).length=k)(h:Xw c w v l) :
  ∃a cap,v=MG a l.length cap/\l.length<=cap/\cap<=NE/\∀i (hi:i<l.length),∃b off,a=MI ⟨b,off,MH⟩/\b<w.heap.size/\∀j,j<k->w.cell? ⟨b,off+i*k+j,MH⟩=(c l[i])[j]?:=by
 obtain⟨a,cap,m,g,f,d|⟨b,off,d,q,p⟩⟩:=h
 ·exact⟨a,cap,m,g,f,fun i hi=>absurd hi (by omega)⟩
 ·refine⟨a,cap,m,g,f,fun i hi=>⟨b,off,d,q,fun j hj=>?_⟩⟩
  have o:i*k+j<l.length*k:=by
   have:(i+1)*k<=l.length*k:=O7 _ hi;rw[ON]at this;omega
  rw[Nat.add_assoc,p (i*k+j) (by rw[abx hk];exact o)];exact ZA hk l i j hi hj
theorem abw(h:w.ownsRow base e k v l.length (rv c l)):Xw c w v l:=Yr h
theorem adn(hk:∀x,(c x).length=k){g cap:Nat}(h:w.ownsRow base e k (MG (MI ⟨g,0,MH⟩) n cap) n (rv c l)){i j:Nat}(hi:i<l.length)(hj:j<k)(a:M7)(y:α)(hy:c y=(c l[i]).set j a):
  (w.setCell ⟨g,i*k+j,MH⟩ a).ownsRow base e k (MG (MI ⟨g,0,MH⟩) n cap) n (rv c (l.set i y)):=by
 have:=(h.stored (i*k+j) a).1;rwa[ack hk l i j a y hi hj hy]at this
theorem abU(hk:∀x,(c x).length=k){g cap:Nat}(h:w.ownsRow base e k (MG (MI ⟨g,0,MH⟩) n cap) n (rv c l))(hn:n=l.length){i j:Nat}(hi:i<l.length)(hj:j<k):w.cell? ⟨g,i*k+j,MH⟩=(c l[i])[j]?:=by
 have a:i*k+j<n*k:=by
  have:(i+1)*k<=l.length*k:=O7 _ hi;rw[ON]at this;rw[hn];omega
 rw[h.cellAt _ a];exact ZA hk l i j hi hj
variable {t e:NU}{z:M7}{bytes:Nat}
theorem ag6(hk:∀x,(c x).length=k)(h1:∀x,∀u∈c x,u.oneCell'=Nw)(hk0:0<k)(ht:MK.underlying t=MI (.slice e))(hinfo:(MK.info? e).map (fun i=>(i.zero,i.size,i.bytes))=MI (MI z,k,bytes))(hz:z.cells.size=k){w:MO}{p:Option Oc}{cc:Nat}{m:List α}(ho:w.ownsRow base e k (MG p n cc) n (rv c m))(hb:base<=w.heap.size)
  (ty:NU) (u:M7) (l:List α) (hu:Xw c w u l) (h0:0<l.length) (hl:(n+l.length)*bytes<=140737488355328) (hl2:n+l.length<=NE) :
  ∃g c' w',(N2 #[t,t] ty #[MG p n cc,u]).run MK w=.ok (MG (MI ⟨g,0,MH⟩) (n+l.length) c') w'/\w'.ownsRow base e k (MG (MI ⟨g,0,MH⟩) (n+l.length) c') (n+l.length) (rv c (m++l))/\w.grownBy w' (MG p n cc).ownBlock/\((MG p n cc).ownBlock=MI g\/g=w.heap.size):=by
 obtain⟨A,C,s,q,y⟩:=OF hinfo;obtain⟨a,r,rfl,H,G,h⟩:=hu;rcases h with⟨h,_⟩|⟨b,off,rfl,F,f⟩
 ·omega
 ·obtain⟨g,c',w',B,d,D,o,_⟩:=run_append_lies (P:=MK) w t ty base e A _ k bytes ht C s q y hz hk0 (MG p n cc) n (rv c m) ho ⟨b,off,MH⟩ l.length r (rv c l) (abx hk l) (fun j x hx=>by
   have E:=(ZAb.1 hx).1;rw[aas,f j E,hx]) (adm h1 l) h0 hl2 hl hb _ rfl
  rw[<-acL]at d;exact⟨g,c',w',B,d,D,o⟩
theorem afC(hk:∀x,(c x).length=k)(h1:∀x,∀u∈c x,u.oneCell'=Nw)(hk0:0<k)(ht:MK.underlying t=MI (.slice e))(hinfo:(MK.info? e).map (fun i=>(i.zero,i.size,i.bytes))=MI (MI z,k,bytes))(hz:z.cells.size=k){w:MO}{p:Option Oc}{cc:Nat}{m:List α}(ho:w.ownsRow base e k (MG p n cc) n (rv c m))(hb:base<=w.heap.size)
  (ty:NU) (x:α) (cs:Array M7) (hcs:cs.toList=c x) (hl:(n+1)*bytes<=140737488355328) (hl2:n+1<=NE) :
  ∃g c' w',(N2 #[t,t] ty #[MG p n cc,MG (MI ⟨w.heap.size,0,MH⟩) 1 1]).run MK (w.alloc (MP cs e))=.ok (MG (MI ⟨g,0,MH⟩) (n+1) c') w' /\
   w'.ownsRow base e k (MG (MI ⟨g,0,MH⟩) (n+1) c') (n+1) (rv c (m++[x]))/\w.grownBy w' (MG p n cc).ownBlock/\((MG p n cc).ownBlock=MI g\/w.heap.size<g):=by
 have f:rv c [x]=cs.toList:=by rw[hcs];simp[rv]
 have d:Xw c (w.alloc (MP cs e)) (MG (MI ⟨w.heap.size,0,MH⟩) 1 1) [x]:=by
  refine⟨_,1,rfl,MV _,by unfold NE;omega,NF ⟨w.heap.size,0,rfl,by simp,fun i hi=>?_⟩⟩;rw[Oa,MW _ w.heap.size i cs e (0,0) (M1 w _),f];simp
 obtain⟨g,c',w',h1,o,a,b⟩:=ag6 hk h1 hk0 ht hinfo hz (ho.alloc _) (by simp;omega) ty _ [x] d (by simp) hl hl2;refine⟨g,c',w',h1,o,⟨a.os,a.tape,a.output,?_,fun j hj hne=>?_⟩,b.imp id fun h=>?_⟩
 ·have:=a.size;simp at this;omega
 ·rw[a.block j (by simp;omega) hne];exact Ov _ _ _ hj
 ·rw[h];simp
end
end
section
variable {drain id n now u:Int}{ids:List Int}{a b d e v:M7}{B c g i j k:Nat}{p:Option Oc}{α:Type}
theorem ZE{a w:MO}(h:MQ B a w)(n:Nat):MQ B a (w.drewN n):=h.trans ⟨rfl,rfl,rfl,MV _,fun _ _=>rfl⟩
theorem aec{P:O8}{w:MO}{ops:Array Oper}{o:Oper}{a:Act}{K:Act->MO->Prop}{Q:Exit->Act->MO->Prop}{E:Prop}(hgd:o.guard=MH)(s x:Operand)(t:NU)
  (ho:o.op=.call {callee:=.builtin .append,args:=#[s,x],argTypes:=#[t,t]}) (v u y:M7) (w':MO) (hs:a.eval s=v) (hx:a.eval x=u) (hr:(N2 #[t,t] o.type #[v,u]).run P w=.ok y w')
  (h:K (a.put o.dst y) w'):if Pz o (yielded ops a.tmps)=Nw then RB P o a w K Q else E:=by
 have f:Pz o (yielded ops a.tmps)=true:=by simp[Pz,hgd]
 rw[Nh f];unfold RB execOp;simp only[ho,resolve,invoke,builtin,Pn,P3,PG,PW,OA,P5,hs,hx,hr];exact h
def WT{α:Type}(c:α->List Int):List α->List M7
 | []=>[]
 |x::l=>(c x).map (MF ME)++WT c l
section
variable {α:Type}{c:α->List Int}{k:Nat}
theorem agm(hk:∀x,(c x).length=k):∀l:List α,(WT c l).length=l.length*k
 | []=>by simp[WT]
 |x::l=>by
  simp only[WT,Ns,N0,hk,agm hk l,Ox,ON];omega
theorem acW:∀l m:List α,WT c (l++m)=WT c l++WT c m
 | [],_=>rfl
 |x::l,m=>by simp only[List.cons_append,WT,acW l m,OC]
theorem aio(hk:∀x,(c x).length=k):∀(l:List α) (i j:Nat) (hi:i<l.length),j<k->(WT c l)[i*k+j]?=((c l[i])[j]?).map (MF ME)
 |x::l,0,j,_,hj=>by
  simp only[WT,Nat.zero_mul,Oa,MS];rw[OJ (by simp[hk,hj]),List.getElem?_map]
 |x::l,i+1,j,hi,hj=>by
  have f:=aio hk l i j (by simpa using hi) hj;simp only[WT,MT];rw[Tw (by simp only[N0,hk,ON];omega),<-f]
  congr 1
  simp only[N0,hk,ON];omega
theorem adw(l:List α):∀u∈WT c l,u.oneCell'=true:=by
 induction l with
 |nil=>simp[WT]
 |cons x l ih =>
  intro u f;simp only[WT,QF,ZAd]at f;rcases f with⟨n,_,rfl⟩|f
  ·rfl
  ·exact ih u f
theorem al8(hk:∀x,(c x).length=k):∀(l:List α) (i:Nat),(WT c l).take (i*k)=WT c (l.take i)
 | [],i=>by simp[WT]
 |x::l,0=>by simp[WT]
 |x::l,i+1=>by
  simp only[WT,PT];rw[show(i+1)*k=((c x).map (MF ME)).length+i*k by simp only[N0,hk,ON];omega,List.take_length_add_append,al8 hk l i]
theorem al6(hk:∀x,(c x).length=k):∀(l:List α) (i:Nat),(WT c l).drop (i*k)=WT c (l.drop i)
 | [],i=>by simp[WT]
 |x::l,0=>by simp[WT]
 |x::l,i+1=>by
  simp only[WT,List.drop_succ_cons];rw[show(i+1)*k=((c x).map (MF ME)).length+i*k by simp only[N0,hk,ON];omega,List.drop_length_add_append,al6 hk l i]
theorem al7(hk:∀x,(c x).length=k):∀(l:List α) (i j:Nat) (v:Int) (y:α) (hi:i<l.length),j<k->c y=(c l[i]).set j v->(WT c l).set (i*k+j) (yB v)=WT c (l.set i y)
 |x::l,0,j,v,y,_,hj,hy=>by
  simp only[WT,Nat.zero_mul,Oa,ML,MS]at hy⊢;rw[List.set_append_left _ _ (by simp[hk,hj]),hy,List.map_set]
 |x::l,i+1,j,v,y,hi,hj,hy=>by
  have f:=al7 hk l i j v y (by simpa using hi) hj (by simpa using hy);simp only[WT,MM];rw[Pw _ _ (by simp only[N0,hk,ON];omega),<-f]
  congr 2
  simp only[N0,hk,ON];omega
end
def aat{α:Type}(c:α->List Int)(w:MO)(v:M7)(l:List α):Prop:=XB w v l.length (WT c l)
section
variable {α:Type}{c:α->List Int}{k:Nat}{w w':MO}{v:M7}{l:List α}
theorem aat.below(h:aat c w v l)(hb:yA w w'):aat c w' v l:=XB.below h hb
theorem agl(w:MO):aat c w (MG MH 0 0) ([]:List α):=Z3 w
theorem aat.F6(hk:∀x,(c x).length=k)(h:aat c w v l) :
  ∃a cap,v=MG a l.length cap/\l.length<=cap/\cap<=NE/\∀i (hi:i<l.length),∃b off,a=MI ⟨b,off,MH⟩/\b<w.heap.size/\∀j,j<k->w.cell? ⟨b,off+i*k+j,MH⟩=((c l[i])[j]?).map (MF ME):=by
 obtain⟨a,cap,q,o,m,f|⟨b,off,f,C,A⟩⟩:=h
 ·exact⟨a,cap,q,o,m,fun i hi=>absurd hi (by omega)⟩
 ·refine⟨a,cap,q,o,m,fun i hi=>⟨b,off,f,C,fun j hj=>?_⟩⟩
  have s:i*k+j<l.length*k:=by
   have:(i+1)*k<=l.length*k:=O7 _ hi;rw[ON]at this;omega
  rw[Nat.add_assoc,A (i*k+j) (by rw[agm hk];exact s)];exact aio hk l i j hi hj
theorem aat.Ga(h:aat c w v l):∃a cap,v=MG a l.length cap/\l.length<=cap/\cap<=maxLen:=by
 obtain⟨a,cap,o,m,f,_⟩:=h;exact⟨a,cap,o,m,f⟩
theorem aat.Gf(h:aat c w v l)(hs:w.heap.size<=w'.heap.size)(hb:∀b,v.ownBlock=MI b->w'.heap[b]?=w.heap[b]?):aat c w' v l:=by
 obtain⟨a,f,rfl,o,m,s|⟨b,off,rfl,A,q⟩⟩:=h
 ·exact⟨a,f,rfl,o,m,Nt s⟩
 ·refine⟨_,f,rfl,o,m,NF ⟨b,off,rfl,M8 A hs,fun i hi=>?_⟩⟩
  rw[<-q i hi];have:=hb b rfl;simp only[Nl,this]
theorem ain{base:Nat}{e:NU}(h:w.ownsRow base e k v l.length (WT c l)):aat c w v l:=Yr h
theorem asq(hk:∀x,(c x).length=k){base n cap:Nat}{e:NU}(h:w.ownsRow base e k (MG (MI ⟨g,0,MH⟩) n cap) n (WT c l))(hi:i<l.length)(hj:j<k)(a:Int)(y:α)(hy:c y=(c l[i]).set j a):
  (w.setCell ⟨g,i*k+j,MH⟩ (yB a)).ownsRow base e k (MG (MI ⟨g,0,MH⟩) n cap) n (WT c (l.set i y)):=by
 have:=(h.stored (i*k+j) (yB a)).1;rwa[al7 hk l i j a y hi hj hy]at this
theorem XP(hk:∀x,(c x).length=k){base n cap:Nat}{e:NU}(h:w.ownsRow base e k (MG (MI ⟨g,0,MH⟩) n cap) n (WT c l))(hn:n=l.length)(hi:i<l.length)(hj:j<k):w.cell? ⟨g,i*k+j,MH⟩=((c l[i])[j]?).map (MF ME):=by
 have f:i*k+j<n*k:=by
  have:(i+1)*k<=l.length*k:=O7 _ hi;rw[ON]at this;rw[hn];omega
 rw[h.cellAt _ f];exact aio hk l i j hi hj
variable {t e:NU}{z:M7}{bytes:Nat}
theorem ah6(hk:∀x,(c x).length=k)(hk0:0<k)(ht:MK.underlying t=MI (.slice e))(hinfo:(MK.info? e).map (fun i=>(i.zero,i.size,i.bytes))=MI (MI z,k,bytes))(hz:z.cells.size=k){w:MO}{base:Nat}{n cc:Nat}{m:List α}(ho:w.ownsRow base e k (MG p n cc) n (WT c m))(hb:base<=w.heap.size)
  (ty:NU) (u:M7) (l:List α) (hu:aat c w u l) (h0:0<l.length) (hl:(n+l.length)*bytes<=140737488355328) (hl2:n+l.length<=NE) :
  ∃g c' w',(N2 #[t,t] ty #[MG p n cc,u]).run MK w=.ok (MG (MI ⟨g,0,MH⟩) (n+l.length) c') w'/\w'.ownsRow base e k (MG (MI ⟨g,0,MH⟩) (n+l.length) c') (n+l.length) (WT c (m++l))/\w.grownBy w' (MG p n cc).ownBlock/\((MG p n cc).ownBlock=MI g\/g=w.heap.size):=by
 obtain⟨E,G,C,s,D⟩:=OF hinfo;obtain⟨a,A,rfl,M,K,h⟩:=hu;rcases h with⟨h,_⟩|⟨b,off,rfl,J,o⟩
 ·omega
 ·obtain⟨g,c',w',F,f,H,q,_⟩:=run_append_lies (P:=MK) w t ty base e E _ k bytes ht G C s D hz hk0 (MG p n cc) n (WT c m) ho ⟨b,off,MH⟩ l.length A (WT c l) (agm hk l) (fun j x hx=>by
   have I:=(ZAb.1 hx).1;rw[aas,o j I,hx]) (adw l) h0 hl2 hl hb _ rfl
  rw[<-acW]at f;exact⟨g,c',w',F,f,H,q⟩
theorem alN(hk:∀x,(c x).length=k)(hk0:0<k)(ht:MK.underlying t=MI (.slice e))(hinfo:(MK.info? e).map (fun i=>(i.zero,i.size,i.bytes))=MI (MI z,k,bytes))(hz:z.cells.size=k){w:MO}{base:Nat}{n cc:Nat}{m:List α}(ho:w.ownsRow base e k (MG p n cc) n (WT c m))(hb:base<=w.heap.size)
  (ty:NU) (x:α) (cs:Array M7) (hcs:cs.toList=(c x).map (MF ME)) (hl:(n+1)*bytes<=140737488355328) (hl2:n+1<=NE) :
  ∃g c' w',(N2 #[t,t] ty #[MG p n cc,MG (MI ⟨w.heap.size,0,MH⟩) 1 1]).run MK (w.alloc (MP cs e))=.ok (MG (MI ⟨g,0,MH⟩) (n+1) c') w' /\
   w'.ownsRow base e k (MG (MI ⟨g,0,MH⟩) (n+1) c') (n+1) (WT c (m++[x]))/\w.grownBy w' (MG p n cc).ownBlock/\((MG p n cc).ownBlock=MI g\/w.heap.size<g):=by
 have A:WT c [x]=cs.toList:=by rw[hcs];simp[WT]
 have s:aat c (w.alloc (MP cs e)) (MG (MI ⟨w.heap.size,0,MH⟩) 1 1) [x]:=by
  refine⟨_,1,rfl,MV _,by unfold NE;omega,NF ⟨w.heap.size,0,rfl,by simp,fun i hi=>?_⟩⟩;rw[Oa,MW _ w.heap.size i cs e (0,0) (M1 w _),A];simp
 obtain⟨g,c',w',o,C,f,q⟩:=ah6 hk hk0 ht hinfo hz (ho.alloc _) (by simp;omega) ty _ [x] s (by simp) hl hl2;refine⟨g,c',w',o,C,⟨f.os,f.tape,f.output,?_,fun j hj hne=>?_⟩,q.imp id fun h=>?_⟩
 ·have:=f.size;simp at this;omega
 ·rw[f.block j (by simp;omega) hne];exact Ov _ _ _ hj
 ·rw[h];simp
end
abbrev Lf:=Int×Int×Int×Int×Int×Int
variable {x y:Lf}
abbrev Rq:=Int×Int×Int×Int×Int
variable {r:Rq}
abbrev Xg(x:Lf):List Int:=[x.1,x.2.1,x.2.2.1,x.2.2.2.1,x.2.2.2.2.1,x.2.2.2.2.2]
abbrev abC(x:Rq):List Int:=[x.1,x.2.1,x.2.2.1,x.2.2.2.1,x.2.2.2.2]
theorem XN(x:Lf):(Xg x).length=6:=rfl
theorem acX(x:Rq):(abC x).length=5:=rfl
abbrev acU(x:Lf):Prop:=(0<=x.1/\x.1<=11)/\(1<=x.2.2.1/\x.2.2.1<=8)/\(0<=x.2.2.2.1/\x.2.2.2.1<=1099511627776)/\(0<=x.2.2.2.2.1/\x.2.2.2.2.1<=1099511628276)/\(0<=x.2.2.2.2.2/\x.2.2.2.2.2<=1048576)
abbrev Y7(x:Lf):Prop:=acU x/\((x.2.1=1/\x.2.2.2.1=0/\x.2.2.2.2.1=0/\x.2.2.2.2.2=0)\/(x.2.1=2/\x.2.2.2.2.1=0/\x.2.2.2.2.2=0)\/x.2.1=3\/x.2.1=4)
abbrev abY(r:Rq):Prop:=(0<=r.1/\r.1<=1048576)/\(r.2.1=1\/r.2.1=2)
abbrev ZD(L:List Lf):Prop:=(∀x∈L,Y7 x)/\L.Pairwise (fun a b=>a.1<b.1)
abbrev ad9(R:List Rq):Prop:=(∀r∈R,abY r)/\R.Pairwise (fun a b=>a.1≠b.1)
abbrev Ym(L:List Lf)(R:List Rq):Prop:=(L.length<=12/\ZD L)/\(R.length<=100/\ad9 R)
def ae5(L:List Lf)(R:List Rq):Int:=if Ym L R then 0 else 6
theorem alQ{L:List Lf}{R:List Rq}(h:Ym L R):ae5 L R=0:=Nh h
theorem alP{L:List Lf}{R:List Rq}(h:¬Ym L R):ae5 L R=6:=Nf h
theorem asx{l:List Lf}(h:l.Pairwise (fun a b=>a.1<b.1))(hl:∀y,l.getLast?=MI y->y.1<x.1):(l++[x]).Pairwise (fun a b=>a.1<b.1):=by
 refine List.pairwise_append.2 ⟨h,by simp,?_⟩;intro a f b m;simp at m;subst m;rcases List.eq_nil_or_concat l with rfl|⟨q,y,rfl⟩
 ·cases f
 ·have o:=hl y (by simp)
  simp only[List.concat_eq_append]at f h;rcases QF.1 f with f|f
  ·have:=(List.pairwise_append.1 h).2.2 a f y (by simp)
   omega
  ·simp at f
   subst f;exact o
def Xk(L:List Lf)(n:Int):Nat:=L.findIdx (fun x=>Nn (n<=x.1))
def Ys(L:List Lf)(n:Int):Bool:=match L[Xk L n]? with
 |some x=>x.1 == n
 |none=>Nb
theorem agk(L:List Lf)(n:Int):Xk L n<=L.length:=List.findIdx_le_length
theorem aa2{L:List Lf}(h:Ys L n=Nw):Xk L n<L.length:=by
 unfold Ys at h
 split at h
 ·rename_i x hx
  exact(ZAb.1 hx).1
 ·cases h
theorem aib{L:List Lf}(h:Ys L n=Nw):(L[Xk L n]'(aa2 h)).1=n:=by
 have f:=aa2 h;unfold Ys at h;rw[MR f]at h
 simpa using h
theorem arZ{L:List Lf}(hlt:Xk L n<L.length)(h:(L[Xk L n]).1=n):Ys L n=true:=by
 unfold Ys;rw[MR hlt]
 simpa using h
theorem al4{L:List Lf}(hi:i<Xk L n):(L[i]'(M8 hi (agk L n))).1<n:=by
 have:=List.not_of_lt_findIdx hi
 simpa using this
theorem al5{L:List Lf}(h:Xk L n<L.length):n<=(L[Xk L n]).1:=by
 have:=List.findIdx_getElem (w:=h);unfold Xk
 simpa using this
theorem aic{L:List Lf}(h:L.Pairwise (fun a b=>a.1<b.1))(hi:i<L.length):Ys L L[i].1=Nw/\Xk L L[i].1=i:=by
 have o:Xk L L[i].1<=i:=by
  refine Nat.le_of_not_lt fun f=>?_
  have:=al4 f;omega
 have m:Xk L L[i].1=i:=by
  rcases Oq (Xk L L[i].1) i with f|q
  ·have s:=al5 (n:=L[i].1) (Nat.lt_trans f hi)
   have A:=List.pairwise_iff_getElem.1 h _ _ (Nat.lt_trans f hi) hi f;omega
  ·omega
 refine⟨arZ (by rw[m];exact hi) ?_,m⟩;simp only[m]
theorem arY{L:List Lf}(h:Ys L n=Nb)(hr:L.Pairwise (fun a b=>a.1<b.1)):∀x∈L,x.1≠n:=by
 intro x f e;obtain⟨i,m,rfl⟩:=NV f;have:=(aic hr m).1;rw[e,h]at this;cases this
def Xi{α:Type}(l:List α)(x:α)(i:Nat):List α:=l.take i++x::l.drop i
def Zu(L:List Lf)(n w:Int):List Lf×Int :=
 if ¬(0<=n/\n<=11)\/¬(1<=w/\w<=8)then(L,2)
 else if Ys L n then
  (if(L[Xk L n]?.getD (0,0,0,0,0,0)).2.1=4 then(L.set (Xk L n) (n,1,w,0,0,0),0)else(L,7))
 else(Xi L (n,1,w,0,0,0) (Xk L n),0)
def aag(x:Lf)(u id:Int):Lf:=(x.1,if x.2.1=2 then 3 else 4,x.2.2.1,x.2.2.2.1,u,id)
def ZH(L:List Lf)(n id u:Int):List Lf×Int :=
 if Ys L n then
  (if(L[Xk L n]?.getD (0,0,0,0,0,0)).2.1=4 then(L,8)
  else if(L[Xk L n]?.getD (0,0,0,0,0,0)).2.1=3 then(L,12)
  else(L.set (Xk L n) (aag (L[Xk L n]?.getD (0,0,0,0,0,0)) u id),0))
 else(L,8)
def Zl(L:List Lf)(R:List Rq)(r:Rq)(u:Int):(List Lf×List Rq)×Int :=
 if r.2.1=1 then(((Zu L r.2.2.1 r.2.2.2.1).1,R++[(r.1,r.2.1,r.2.2.1,r.2.2.2.1,(Zu L r.2.2.1 r.2.2.2.1).2)]),(Zu L r.2.2.1 r.2.2.2.1).2)
 else(((ZH L r.2.2.1 r.1 u).1,R++[(r.1,r.2.1,r.2.2.1,0,(ZH L r.2.2.1 r.1 u).2)]),(ZH L r.2.2.1 r.1 u).2)
def ZV(R:List Rq)(id:Int):Nat:=R.findIdx (fun q=>q.1 == id)
abbrev ae1:=(List Lf×List Rq)×Int×Bool×Int
abbrev acT(r:Rq)(now drain:Int):Prop:=abY r/\(0<=now/\now<=1099511627776)/\(0<=drain/\drain<=500)
def ZU(L:List Lf)(R:List Rq)(r:Rq)(now drain:Int):ae1 :=
 if Ym L R then
  (if acT r now drain then
   (if ZV R r.1<R.length then((L,R),(R[ZV R r.1]?.getD (0,0,0,0,0)).2.2.2.2,Nb,0)
   else if R.length=100 then((L,R),9,Nb,0)
   else((Zl L R r (now+drain)).1,(Zl L R r (now+drain)).2,Nw,0))
  else(([],[]),0,Nb,2))
 else(([],[]),0,Nb,6)
def XH(now:Int)(x:Lf):Lf:=if x.2.1=1 then(x.1,2,x.2.2.1,now,x.2.2.2.2.1,x.2.2.2.2.2)else x
def XW(L:List Lf):List Int:=(L.filter (fun x=>x.2.1 == 1)).map (·.1)
def abn(L:List Lf)(R:List Rq)(now:Int):(List Lf×List Rq)×List Int×Int :=
 if Ym L R then
  (if 0<=now/\now<=1099511627776 then((L.map (XH now),R),XW L,0)else(([],[]),[],2))
 else(([],[]),[],6)
def ZF(x:Lf):Lf:=(x.1,4,x.2.2.1,x.2.2.2.1,x.2.2.2.2.1,x.2.2.2.2.2)
def aau(L:List Lf)(R:List Rq)(n:Int):(List Lf×List Rq)×Int :=
 if Ym L R then
  (if Ys L n=Nw/\(L[Xk L n]?.getD (0,0,0,0,0,0)).2.1=3 then((L.set (Xk L n) (ZF (L[Xk L n]?.getD (0,0,0,0,0,0))),R),0)else(([],[]),8))
 else(([],[]),6)
theorem ae7:(MK.info? 214).map (fun i=>(i.zero,i.size,i.bytes))=MI (MI (Ny #[yB 0,yB 0,yB 0,yB 0,yB 0,yB 0]),6,48):=by kernel_rfl
theorem aav(l:List Lf):(WT Xg l).length=l.length*6:=agm XN l
theorem aif(l:List Lf)(i:Nat):(WT Xg l).take (i*6)=WT Xg (l.take i):=al8 XN l i
theorem alY(l:List Lf)(i:Nat):(WT Xg l).drop (i*6)=WT Xg (l.drop i):=al6 XN l i
theorem aij(x:Lf):WT Xg [x]=(Xg x).map (MF ME):=by simp[WT]
theorem alV(l:List α)(x:α):Xi l x l.length=l++[x]:=by simp[Xi]
def agh(base:Nat)(v:M7)(l:List Lf)(t:Lf)(i:Nat)(w:MO)(r:Ending)(w':MO):Prop :=
 ∃g cap,r=MN (MG (MI ⟨g,0,MH⟩) (l.length+1) cap)/\w'.ownsRow base 214 6 (MG (MI ⟨g,0,MH⟩) (l.length+1) cap) (l.length+1) (WT Xg (Xi l t i))/\w.grownBy w' v.ownBlock/\(v.ownBlock=MI g\/w.heap.size<=g)
theorem ar6(base:Nat)(v:M7)(l:List Lf)(x:Lf)(cs:Array M7)(hxs:cs.toList=(Xg x).map (MF ME))(k:Nat)(w:MO)(hown:w.ownsRow base 214 6 v l.length (WT Xg l))(hbase:base<=w.heap.size)
  (hk:w.heap[k]?=MI (MP cs 214 (0,0))) (hlen:l.length<=1000) :
  Ni MK 287 #[v,yB l.length,MG (MI ⟨k,0,MH⟩) 1 1] w (agh base v l x l.length w):=by
 obtain⟨G,H,E,D,F⟩:=OF ae7;have o:∀j u,(WT Xg [x])[j]?=MI u->w.cell? ((⟨k,0,MH⟩:Oc).add j)=MI u:=fun j u hu=>by
  have J:(⟨k,0,MH⟩:Oc).add j=⟨k,j,MH⟩:=by unfold Addr.add;split <;> simp_all
  rw[J,MW w k j _ _ (0,0) hk];rw[aij,<-hxs]at hu;simpa using hu
 obtain⟨p,c,rfl⟩:=Y6 hown;have O:l.length<=c:=by
  rcases hown.2 with⟨h,_⟩|⟨g,f,M,h,_,_,I,_⟩
  ·simp only[N4]at h;omega
  ·simp only[N4]at h;omega
 have P:c<=9223372036854775807:=by
  rcases hown.2 with⟨h,_⟩|⟨g,f,M,h,_,_,_,I,_⟩
  ·simp only[N4]at h;omega
  ·simp only[N4]at h;unfold NE at I;omega
 by_cases hcl:c=l.length
 ·subst hcl
  have m:M6 (_/\_):=⟨hown,o⟩;clear hown o;go_enter aAx,aAr
  go_wp2_with (first|(at_builtin;refine O9 _ rfl _ _ 42 rfl base 214 G _ 6 48 axO H E D F rfl (by decide) (MG p l.length l.length) _ _ rfl m.out.1 _ 1 1 (WT Xg [x]) rfl rfl m.out.2 (adw _) (by decide) (by unfold NE;omega) (by omega) hbase _ rfl ?_;intro C f N q A s K))
  all_goals
   go_ret;exact⟨C,f,rfl,by rw[alV,acW];exact q,A,s.imp id (fun h=>by omega)⟩
 ·have m:M6 (_/\_):=⟨hown,o⟩
  clear hown o;go_enter aAx,aAr
  go_wp2_with (first|(at_builtin;refine O9 _ rfl _ _ 42 rfl base 214 G _ 6 48 axO H E D F rfl (by decide) (MG p l.length c) _ _ rfl m.out.1 _ 1 1 (WT Xg [x]) rfl rfl m.out.2 (adw _) (by decide) (by unfold NE;omega) (by omega) hbase _ rfl ?_;intro C f N q A s K))
  all_goals
   go_ret;exact⟨C,f,rfl,by rw[alV,acW];exact q,A,s.imp id (fun h=>by omega)⟩
theorem ar7(base g c:Nat)(l:List Lf)(x:Lf)(cs:Array M7)(hxs:cs.toList=(Xg x).map (MF ME))(i k:Nat)(w:MO)(hown:w.ownsRow base 214 6 (MG (MI ⟨g,0,MH⟩) l.length c) l.length (WT Xg l))(hbase:base<=w.heap.size)(hi:i<l.length)(hroom:c<l.length+1)
  (hk:w.heap[k]?=MI (MP cs 214 (0,0))) (hlen:l.length<=1000) :
  Ni MK 287 #[MG (MI ⟨g,0,MH⟩) l.length c,yB i,MG (MI ⟨k,0,MH⟩) 1 1] w (agh base (MG (MI ⟨g,0,MH⟩) l.length c) l x i w):=by
 obtain⟨i0,J,a5,N,a8⟩:=OF ae7;have a6:c=l.length:=by
  rcases hown.2 with⟨h,_⟩|⟨g',m,c8,h,_,_,h2,_⟩
  ·cases h
  ·simp only[N4]at h;omega
 subst a6;have O:(MK.info? 214).map (·.size)=MI 6:=by rw[J];simp[N]
 have a9:=(hown.lt g rfl).2;have b6:k<w.heap.size:=(ZAa.1 hk).1;obtain⟨m,E,w2,A,D,Q,V,f,c9⟩:=ag0 (P:=MK) w 42 3 42 214 i0 _ ME 6 48 axO Ol J a5 N a8 rfl (by decide) base ⟨g,0,MH⟩ i l.length (l.length+1-i) (WT Xg (l.take i)) (by rw[aav,NH];omega)
  (fun j u hu=>by
   rw[abl,hown.cellAt j (by have:=(ZAb.1 hu).1;rw[aav,NH]at this;omega)];rw[<-aif]at hu;rw[List.getElem?_take]at hu
   split at hu
   ·exact hu
   ·cases hu) (by omega) (by omega) (by unfold NE;omega) (by omega) hbase
 have Z:i+(l.length+1-i)=l.length+1:=by omega
 rw[Z]at A D V;rw[show((l.length+1-i:Nat):Int)=(l.length:Int)+1-(i:Int)by omega]at A;obtain⟨U,Y,K,o⟩:=aa8 (P:=MK) w2 42 3 214 6 axO O base w.heap.size (l.length+1) m _ D (i*6) (l.length+1-i) (m-i) ⟨k,0,MH⟩ 1 1 1 (WT Xg [x]) (by simp only[PR];split <;> omega) rfl (by simp[WT];omega)
  (fun j u hu=>by
   rw[abl,(f.cell (a:=⟨k,j,MH⟩) (v:=u) (by rw[MW w k j _ _ (0,0) hk];rw[aij,<-hxs]at hu;simpa using hu) (by simp))]) (adw _)
 obtain⟨w4,a7,C,q⟩:=aa8 (P:=MK) U.drew 42 3 214 6 axO O base w.heap.size (l.length+1) m _ K ((i+1)*6) (l.length-i) (m-(i+1)) ⟨g,i*6,MH⟩ (l.length-i) (l.length-i) (l.length-i) (WT Xg (l.drop i)) (by simp only[PR];split <;> omega) (by rw[aav,NJ]) (by rw[aav,NJ];omega)
  (fun j u hu=>by
   rw[aas];have s:=(ZAb.1 hu).1;rw[aav,NJ]at s;have h1:w.cell? ⟨g,i*6+j,MH⟩=MI u:=by
    rw[hown.cellAt _ (by omega),<-hu,<-alY,Pa]
   exact o.cell (a:=⟨g,i*6+j,MH⟩) (f.cell h1 (by simp)) (by simp;omega)) (adw _)
 have I:(WT Xg (l.take i)++E).take (i*6)++WT Xg [x]++(WT Xg (l.take i)++E).drop (i*6+(WT Xg [x]).length)=WT Xg (l.take i++[x])++E.drop 6:=by
  have F:(WT Xg (l.take i)).length=i*6:=by rw[aav,NH];omega
  rw[<-F,Qb,acW,Qa];simp[WT]
 have H:∀ys:List M7,((WT Xg (l.take i++[x])++ys).take ((i+1)*6)++WT Xg (l.drop i)++(WT Xg (l.take i++[x])++ys).drop ((i+1)*6+(WT Xg (l.drop i)).length))=WT Xg (Xi l x i)++ys.drop ((l.length-i)*6):=fun ys=>by
  have F:(WT Xg (l.take i++[x])).length=(i+1)*6:=by rw[aav];simp;omega
  rw[<-F,Qb,Qa,aav (l.drop i),NJ,Xi,acW,acW];simp[WT]
 rw[I,H]at C;rw[List.drop_drop,PI (by rw[Q];omega),OG]at C;have M:w.grownBy w4 (MG (MI ⟨g,0,MH⟩) l.length l.length).ownBlock :=
  ⟨q.os.trans (o.os.trans f.os),q.tape.trans (o.tape.trans f.tape),q.output.trans (o.output.trans f.output),Nm f.size (Nm o.size q.size),fun j s _=>by
   rw[q.block j (M8 s (Nm f.size o.size)) (by simp;omega)];show U.heap[j]?=_;rw[o.block j (M8 s f.size) (by simp;omega),f.block j s (by simp)]⟩
 have G:M6 (_/\_/\_/\_/\_):=⟨A,Y,a7,C,M⟩;have b9:(i:Int)<=(l.length:Int):=by omega
 have c7:(i:Int)<(l.length:Int)+1:=by omega
 have b7:¬m=i:=by omega
 have b5:¬m=i+1:=by omega
 have b3:¬l.length=i:=by omega
 have b8:((i:Int) == (l.length:Int))=false:=by simp;omega
 clear A D K C f o q Q hown hk I H M;go_enter aAx,aAr
 go_wp2_with (first|(at_builtin;refine Lib.wpList_append_run _ rfl _ _ _ _ rfl _ _ rfl rfl _ _ G.out.1 ?_))
 go_region
 go_wp2;go_ret;exact⟨w.heap.size,m,rfl,G.out.2.2.2.1,G.out.2.2.2.2,NF (MV _)⟩
theorem ar8(base g c:Nat)(l:List Lf)(x:Lf)(cs:Array M7)(hxs:cs.toList=(Xg x).map (MF ME))(i k:Nat)(w:MO)(hown:w.ownsRow base 214 6 (MG (MI ⟨g,0,MH⟩) l.length c) l.length (WT Xg l))(hbase:base<=w.heap.size)(hi:i<l.length)(hroom:l.length+1<=c)(hkg:k≠g)
  (hk:w.heap[k]?=MI (MP cs 214 (0,0))) (hlen:l.length<=1000) :
  Ni MK 287 #[MG (MI ⟨g,0,MH⟩) l.length c,yB i,MG (MI ⟨k,0,MH⟩) 1 1] w (agh base (MG (MI ⟨g,0,MH⟩) l.length c) l x i w):=by
 obtain⟨i0,Q,b7,Y,b8⟩:=OF ae7;have J:(MK.info? 214).map (·.size)=MI 6:=by rw[Q];simp[Y]
 obtain⟨f,D,H,E,K,U⟩:∃f:Array M7,w.heap[g]?=MI (MP f 214 (0,0))/\c<=NE/\f.size=c*6/\f.toList.take (l.length*6)=WT Xg l/\base<=g:=by
  rcases hown.2 with⟨h,_⟩|⟨g',b5,f,h,hb,hg,h2,h3,h4,h5⟩
  ·cases h
  ·simp only[N4,Qs,Q1,and_true,true_and]at h
   obtain⟨rfl,rfl⟩:=h;exact⟨f,hg,h3,h4,h5,hb⟩
 have q:w.ownsRow base 214 6 (MG (MI ⟨g,0,MH⟩) (l.length+1) c) (l.length+1) (f.toList.take ((l.length+1)*6)):=
  ⟨by simp only[NH,Om,E];omega,NF ⟨g,c,f,rfl,U,D,hroom,H,E,rfl⟩⟩
 have N:f.toList.take ((l.length+1)*6)=WT Xg l++(f.toList.drop (l.length*6)).take 6:=by
  rw[<-K,show(l.length+1)*6=l.length*6+6 by omega,List.take_add]
 rw[N]at q;have A:((f.toList.drop (l.length*6)).take 6).length=6:=by simp only[NH,NJ,Om,E];omega
 generalize (f.toList.drop (l.length*6)).take 6=sp at q A;have a5:=(hown.lt g rfl).2;obtain⟨w2,c7,I,m⟩:=aa8 (P:=MK) w.drew 42 3 214 6 axO J base g (l.length+1) c _ q ((i+1)*6) (l.length-i) (c-(i+1)) ⟨g,i*6,MH⟩ (l.length+1-i) (c-i) (l.length-i) (WT Xg (l.drop i)) (by simp only[PR];split <;> omega) (by rw[aav,NJ]) (by rw[aav,NJ];omega)
  (fun j u hu=>by
   rw[aas];have s:=(ZAb.1 hu).1;rw[aav,NJ]at s;have h1:w.cell? ⟨g,i*6+j,MH⟩=MI u:=by
    rw[hown.cellAt _ (by omega),<-hu,<-alY,Pa]
   exact h1) (adw _)
 obtain⟨w3,b3,C,o⟩:=aa8 (P:=MK) w2 42 3 214 6 axO J base g (l.length+1) c _ I (i*6) (l.length+1-i) (c-i) ⟨k,0,MH⟩ 1 1 1 (WT Xg [x]) (by simp only[PR];split <;> omega) rfl (by simp[WT];omega)
  (fun j u hu=>by
   rw[abl,(m.cell (a:=⟨k,j,MH⟩) (v:=u) (show w.cell? _=_ by rw[MW w k j _ _ (0,0) hk];rw[aij,<-hxs]at hu;simpa using hu) (by simp;omega))]) (adw _)
 have F:∀xs:List M7,xs=(WT Xg l++sp).take ((i+1)*6)++WT Xg (l.drop i)++(WT Xg l++sp).drop ((i+1)*6+(WT Xg (l.drop i)).length)->xs.take (i*6)++WT Xg [x]++xs.drop (i*6+(WT Xg [x]).length)=WT Xg (Xi l x i):=fun xs hxs=>by
  have e1:(WT Xg l++sp).drop ((i+1)*6+(WT Xg (l.drop i)).length)=[]:=PI (by rw[Ns,aav,aav,NJ,A];omega);have e2:(WT Xg l++sp).take ((i+1)*6)=WT Xg (l.take (i+1)):=by
   rw[ZqA (by rw[aav];omega),aif]
  rw[e1,e2,OG]at hxs;have M:(WT Xg (l.take (i+1))).length=(i+1)*6:=by rw[aav,NH];omega
  have e4:xs.take (i*6)=WT Xg (l.take i):=by
   rw[hxs,ZqA (by rw[M];omega),aif,List.take_take,show min i (i+1)=i by omega]
  have e5:xs.drop (i*6+(WT Xg [x]).length)=WT Xg (l.drop i):=by
   rw[hxs,show i*6+(WT Xg [x]).length=(WT Xg (l.take (i+1))).length by rw[M];simp[WT];omega,List.drop_left]
  rw[e4,e5,Xi,acW];simp[WT]
 rw[F _ rfl]at C;have G:w.grownBy w3 (MG (MI ⟨g,0,MH⟩) l.length c).ownBlock :=
  ⟨o.os.trans m.os,o.tape.trans m.tape,o.output.trans m.output,Nm m.size o.size,fun j s hne=>by
   rw[o.block j (M8 s m.size) hne];exact m.block j s hne⟩
 have Z:cs.size=6:=by rw[<-Om,hxs];rfl
 have V:∀lb cb,(callFunc 306 #[MG (MI ⟨k,0,MH⟩) 1 1,MG (MI ⟨g,(i+1)*6,MH⟩) lb cb]).run MK w=.ok (.value (M3 Nb)) w:=fun lb cb=>by
  rw[run_callFunc_extern Tryz.func306 (by kernel_rfl) (by kernel_rfl) (by kernel_rfl) (e:=P9 #[42,42] #[4]) (by kernel_rfl),
   Lib.run_overlaps_apart w 42 4 214 axO 6 Tryz.sizeOf214 ⟨k,0,MH⟩ ⟨g,(i+1)*6,MH⟩ 1 1 lb cb hkg 214 214 6 f.size (by simp[QO,hk,Z]) (by simp[QO,D]) (by omega) (by simp[Ng,hk]) (by simp[Ng,hk])]
  rfl
 have O:M6 (_/\_):=⟨C,G⟩;have a9:(i:Int)<=(l.length:Int):=by omega
 have b6:(i:Int)<=(l.length:Int)+1:=by omega
 have a7:¬c=i:=by omega
 have a6:¬c=i+1:=by omega
 have a8:((i:Int) == (l.length:Int))=false:=by simp;omega
 have b9:(l.length:Int)+1<=(c:Int):=by omega
 unfold NE at H;clear I C m o hown q hk F G D K N A;go_enter aAx,aAr
 go_wp2_with (simp only[V])
 go_region
 go_wp2;go_ret;exact⟨g,c,rfl,O.out.1,O.out.2,Nt rfl⟩
theorem ar5(base:Nat)(v:M7)(l:List Lf)(x:Lf)(cs:Array M7)(hxs:cs.toList=(Xg x).map (MF ME))(i k:Nat)(w:MO)(hown:w.ownsRow base 214 6 v l.length (WT Xg l))(hbase:base<=w.heap.size)(hi:i<=l.length)(hkv:v.ownBlock≠MI k)
  (hk:w.heap[k]?=MI (MP cs 214 (0,0))) (hlen:l.length<=1000) :
  Ni MK 287 #[v,yB i,MG (MI ⟨k,0,MH⟩) 1 1] w (agh base v l x i w):=by
 rcases Oq i l.length with f|m
 ·obtain⟨g,c,rfl,_⟩:=hown.form (by omega)
  rcases Oq c (l.length+1)with h|h
  ·exact ar7 base g c l x cs hxs i k w hown hbase f h hk hlen
  ·exact ar8 base g c l x cs hxs i k w hown hbase f h (fun e=>hkv (by rw[e];rfl)) hk hlen
 ·obtain rfl:i=l.length:=by omega
  exact ar6 base v l x cs hxs k w hown hbase hk hlen
section
open Go.Sort (grow grow_empty grow_grow alloc_eq_grow cell?_grow heap_grow_old)
theorem ae3(w:MO)(q:Nat)(os:Array Obj):yA w (Oj (w.drewN q) os):=
 ⟨rfl,rfl,rfl,by simp[Oj,World.drewN],fun k hk=>heap_grow_old (w.drewN q) os hk⟩
theorem abD{w:MO}{c f:M7}{T:NU}(h:w.heap[g]?=MI (MP #[a,b,c,d,e,f] T (0,0))):w.cell? ⟨g,0,MH⟩=MI a/\w.cell? ⟨g,1,MH⟩=MI b/\w.cell? ⟨g,2,MH⟩=MI c/\w.cell? ⟨g,3,MH⟩=MI d/\w.cell? ⟨g,4,MH⟩=MI e/\w.cell? ⟨g,5,MH⟩=MI f/\g<w.heap.size :=
 ⟨by simp[Nl,h],by simp[Nl,h],by simp[Nl,h],by simp[Nl,h],by simp[Nl,h],by simp[Nl,h],(ZAa.1 h).1⟩
theorem YD{w:MO}{c:M7}{T:NU}(h:w.heap[g]?=MI (MP #[a,b,c,d,e] T (0,0))):w.cell? ⟨g,0,MH⟩=MI a/\w.cell? ⟨g,1,MH⟩=MI b/\w.cell? ⟨g,2,MH⟩=MI c/\w.cell? ⟨g,3,MH⟩=MI d/\w.cell? ⟨g,4,MH⟩=MI e/\g<w.heap.size :=
 ⟨by simp[Nl,h],by simp[Nl,h],by simp[Nl,h],by simp[Nl,h],by simp[Nl,h],(ZAa.1 h).1⟩
abbrev ZG(x1 x2 x3 x4 x5 x6:Int):Value:=Ny #[yB x1,yB x2,yB x3,yB x4,yB x5,yB x6]
abbrev ab2(x1 x2 x3 x4 x5:Int):Value:=Ny #[yB x1,yB x2,yB x3,yB x4,yB x5]
abbrev aaP(x1 x2 x3 x4 x5 x6:Int):Obj:=MP #[yB x1,yB x2,yB x3,yB x4,yB x5,yB x6] 214
abbrev XS(x1 x2 x3 x4 x5:Int):Obj:=MP #[yB x1,yB x2,yB x3,yB x4,yB x5] 217
theorem YY(n lo hi:Int)(w:MO):Ni MK 177 #[yB n,yB lo,yB hi] w fun r w'=>r=MN (M3 (Nn (lo<=n/\n<=hi)))/\w'=w:=by
 obtain⟨m,f⟩:=yE (Nn (lo<=n/\n<=hi));rw[<-f];have H:M6 _:=f;clear f;cases h1:Nn (lo<=n)
 ·go_enter aAP,aAF
  go_wp2;go_ret;exact⟨by rw[H.out,M0 (fun h=>Nc h1 h.1)];rfl,rfl⟩
 ·cases h2:Nn (n<=hi)
  ·go_enter aAP,aAF
   go_wp2;go_ret;exact⟨by rw[H.out,M0 (fun h=>Nc h2 h.2)];rfl,rfl⟩
  ·go_enter aAP,aAF
   go_wp2;go_ret;exact⟨by rw[H.out,Nq ⟨M2 h1,M2 h2⟩];rfl,rfl⟩
theorem abB(n:Int)(w:MO):Ni MK 284 #[yB n] w fun r w'=>r=MN (M3 (Nn (0<=n/\n<=11)))/\w'=w:=by
 obtain⟨b,f⟩:=yE (Nn (0<=n/\n<=11));rw[<-f];have H:M6 _:=f;clear f;go_enter Tryz.func284,Tryz.ntmps284
 go_wp2_with fail
 refine(YY _ _ _ _).mono ?_;rw[<-H.out];rintro r m ⟨rfl,rfl⟩;go_wp2;go_ret;exact⟨rfl,rfl⟩
theorem acq(n:Int)(w:MO):Ni MK 285 #[yB n] w fun r w'=>r=MN (M3 (Nn (1<=n/\n<=8)))/\w'=w:=by
 obtain⟨b,f⟩:=yE (Nn (1<=n/\n<=8));rw[<-f];have H:M6 _:=f;clear f;go_enter Tryz.func285,Tryz.ntmps285
 go_wp2_with fail
 refine(YY _ _ _ _).mono ?_;rw[<-H.out];rintro r m ⟨rfl,rfl⟩;go_wp2;go_ret;exact⟨rfl,rfl⟩
theorem ar1(x1 x2 x3 x4 x5 x6:Int)(w:MO):Ni MK 310 #[ZG x1 x2 x3 x4 x5 x6] w fun r w'=>r=MN (M3 (Nn (acU (x1,x2,x3,x4,x5,x6))))/\w'=w.alloc (aaP x1 x2 x3 x4 x5 x6):=by
 obtain⟨m,o⟩:=yE (Nn (acU (x1,x2,x3,x4,x5,x6)));rw[<-o];have H:M6 _:=o;clear o;cases h1:Nn (0<=x1/\x1<=11)
 case false =>
  have E:M6 (m=Nb):=by rw[H.out];exact M0 fun h=>Nc h1 h.1
  go_enter aAf,aAb
  go_wp2_with fail
  refine(abB _ _).mono ?_;rw[h1];rintro r f ⟨rfl,rfl⟩;go_wp2;go_ret;exact⟨by rw[E.out];rfl,rfl⟩
 cases h2:Nn (1<=x3/\x3<=8)
 case false =>
  have E:M6 (m=Nb):=by rw[H.out];exact M0 fun h=>Nc h2 h.2.1
  go_enter aAf,aAb
  go_wp2_with fail
  refine(abB _ _).mono ?_;rw[h1];rintro r f ⟨rfl,rfl⟩
  go_wp2_with fail
  refine(acq _ _).mono ?_;rw[h2];rintro r f ⟨rfl,rfl⟩;go_wp2;go_ret;exact⟨by rw[E.out];rfl,rfl⟩
 cases h3:Nn (0<=x4/\x4<=1099511627776)
 case false =>
  have E:M6 (m=Nb):=by rw[H.out];exact M0 fun h=>Nc h3 h.2.2.1
  go_enter aAf,aAb
  go_wp2_with fail
  refine(abB _ _).mono ?_;rw[h1];rintro r f ⟨rfl,rfl⟩
  go_wp2_with fail
  refine(acq _ _).mono ?_;rw[h2];rintro r f ⟨rfl,rfl⟩
  go_wp2_with fail
  refine(YY _ _ _ _).mono ?_;rw[h3];rintro r f ⟨rfl,rfl⟩;go_wp2;go_ret;exact⟨by rw[E.out];rfl,rfl⟩
 cases h4:Nn (0<=x5/\x5<=1099511628276)
 case false =>
  have E:M6 (m=Nb):=by rw[H.out];exact M0 fun h=>Nc h4 h.2.2.2.1
  go_enter aAf,aAb
  go_wp2_with fail
  refine(abB _ _).mono ?_;rw[h1];rintro r f ⟨rfl,rfl⟩
  go_wp2_with fail
  refine(acq _ _).mono ?_;rw[h2];rintro r f ⟨rfl,rfl⟩
  go_wp2_with fail
  refine(YY _ _ _ _).mono ?_;rw[h3];rintro r f ⟨rfl,rfl⟩
  go_wp2_with fail
  refine(YY _ _ _ _).mono ?_;rw[h4];rintro r f ⟨rfl,rfl⟩;go_wp2;go_ret;exact⟨by rw[E.out];rfl,rfl⟩
 cases h5:Nn (0<=x6/\x6<=1048576)
 case false =>
  have E:M6 (m=Nb):=by rw[H.out];exact M0 fun h=>Nc h5 h.2.2.2.2
  go_enter aAf,aAb
  go_wp2_with fail
  refine(abB _ _).mono ?_;rw[h1];rintro r f ⟨rfl,rfl⟩
  go_wp2_with fail
  refine(acq _ _).mono ?_;rw[h2];rintro r f ⟨rfl,rfl⟩
  go_wp2_with fail
  refine(YY _ _ _ _).mono ?_;rw[h3];rintro r f ⟨rfl,rfl⟩
  go_wp2_with fail
  refine(YY _ _ _ _).mono ?_;rw[h4];rintro r f ⟨rfl,rfl⟩
  go_wp2_with fail
  refine(YY _ _ _ _).mono ?_;rw[h5];rintro r f ⟨rfl,rfl⟩;go_wp2;go_ret;exact⟨by rw[E.out];rfl,rfl⟩
 have E:M6 (m=Nw):=by rw[H.out];exact Nq ⟨M2 h1,M2 h2,M2 h3,M2 h4,M2 h5⟩
 go_enter aAf,aAb
 go_wp2_with fail
 refine(abB _ _).mono ?_;rw[h1];rintro r f ⟨rfl,rfl⟩
 go_wp2_with fail
 refine(acq _ _).mono ?_;rw[h2];rintro r f ⟨rfl,rfl⟩
 go_wp2_with fail
 refine(YY _ _ _ _).mono ?_;rw[h3];rintro r f ⟨rfl,rfl⟩
 go_wp2_with fail
 refine(YY _ _ _ _).mono ?_;rw[h4];rintro r f ⟨rfl,rfl⟩
 go_wp2_with fail
 refine(YY _ _ _ _).mono ?_;rw[h5];rintro r f ⟨rfl,rfl⟩;go_wp2;go_ret;exact⟨by rw[E.out];rfl,rfl⟩
theorem aie(n m:Int)(w:MO):Ni MK 288 #[yB n,yB m] w fun r w'=>r=MN (ZG n 1 m 0 0 0)/\w'=w.alloc (aaP n 1 m 0 0 0):=by
 go_enter Tryz.func288,Tryz.ntmps288;go_wp2;exact Np (v:=ZG n 1 m 0 0 0) (Z2 Tryz.results288 rfl (Xp (P:=MK) (cs:=[yB n,yB 1,yB m,yB 0,yB 0,yB 0]) (M1 _ _) Tryz.underlying214 rfl (by kernel_rfl))) rfl ⟨rfl,rfl⟩
theorem adu(w:MO)(o:Obj):∃q os,w.alloc o=Oj (w.drewN q) os:=⟨0,#[o],rfl⟩
theorem abA{w w':MO}(h:∃q os,w'=Oj (w.drewN q) os)(q:Nat)(os:Array Obj):∃q' os',Oj (w'.drewN q) os=Oj (w.drewN q') os':=by
 obtain⟨m,f,rfl⟩:=h;exact⟨m+q,f++os,by show Oj (Oj ((w.drewN m).drewN q) f) os=_;rw[grow_grow,World.drewN_drewN]⟩
theorem aea{w w':MO}(h:∃q os,w'=Oj (w.drewN q) os):yA w w':=by
 obtain⟨q,os,rfl⟩:=h;exact ae3 w q os
theorem agj(x1 x2 x3 x4 x5 x6:Int)(w:MO):Ni MK 310 #[ZG x1 x2 x3 x4 x5 x6] w fun r w'=>r=MN (M3 (Nn (acU (x1,x2,x3,x4,x5,x6))))/\∃q os,w'=Oj (w.drewN q) os :=
 (ar1 x1 x2 x3 x4 x5 x6 w).mono fun _ _ ⟨h1,h2⟩=>⟨h1,by rw[h2];exact adu _ _⟩
theorem asb(n m:Int)(w:MO):Ni MK 288 #[yB n,yB m] w fun r w'=>r=MN (ZG n 1 m 0 0 0)/\∃q os,w'=Oj (w.drewN q) os :=
 (aie n m w).mono fun _ _ ⟨h1,h2⟩=>⟨h1,by rw[h2];exact adu _ _⟩
theorem asf(x1 x3 x4 x5 x6:Int)(w:MO):Ni MK 293 #[ZG x1 1 x3 x4 x5 x6] w fun r w'=>r=MN (M3 (Nn (Y7 (x1,1,x3,x4,x5,x6))))/\∃q os,w'=Oj (w.drewN q) os:=by
 obtain⟨F,N⟩:=yE (Nn (Y7 (x1,1,x3,x4,x5,x6)));rw[<-N];have H:M6 _:=N;clear N;obtain⟨M,O⟩:=yE (Nn (acU (x1,1,x3,x4,x5,x6)));have I:M6 (∀W,Ni MK 310 #[ZG x1 1 x3 x4 x5 x6] W fun r w'=>r=MN (M3 M)/\∃q os,w'=Oj (W.drewN q) os):=fun W=>by rw[O];exact agj _ _ _ _ _ _ W
 have J:M6 (∀W,Ni MK 288 #[yB x1,yB x3] W fun r w'=>r=MN (ZG x1 1 x3 0 0 0)/\∃q os,w'=Oj (W.drewN q) os):=fun W=>asb _ _ W
 obtain⟨f,K⟩:=yE (w.alloc (aaP x1 1 x3 x4 x5 x6));have Q:f.heap[w.heap.size]?=MI (aaP x1 1 x3 x4 x5 x6):=by rw[K];exact M1 _ _
 have P:∃q os,f=Oj (w.drewN q) os:=by rw[K];exact adu _ _
 obtain⟨c0,c1,c2,c3,c4,c5,U⟩:=abD Q;have Y:∀n' os,(Oj (f.drewN n') os).cell? ⟨w.heap.size,0,MH⟩=MI (yB x1):=Ob (MX _ _ c0) c0;have V:∀n' os,(Oj (f.drewN n') os).cell? ⟨w.heap.size,1,MH⟩=MI (yB 1):=Ob (MX _ _ c1) c1;have k2:∀n' os,(Oj (f.drewN n') os).cell? ⟨w.heap.size,2,MH⟩=MI (yB x3):=Ob (MX _ _ c2) c2;have k3:∀n' os,(Oj (f.drewN n') os).cell? ⟨w.heap.size,3,MH⟩=MI (yB x4):=Ob (MX _ _ c3) c3;have k4:∀n' os,(Oj (f.drewN n') os).cell? ⟨w.heap.size,4,MH⟩=MI (yB x5):=Ob (MX _ _ c4) c4;have Z:∀n' os,(Oj (f.drewN n') os).cell? ⟨w.heap.size,5,MH⟩=MI (yB x6):=Ob (MX _ _ c5) c5;have A:M6 (_/\_):=⟨K,P⟩;have G:M6 _:=O;clear K P Q O;cases M
 case false =>
  have E:M6 (F=Nb):=by rw[H.out];exact M0 fun h=>Nc G.out.symm h.1
  clear H G;go_enter az2,az1
  go_wp2_with fail
  rw[<-A.out.1];refine NQ XY (by kernel_rfl) ?_
  repeat (first|go_big_quiet_skip|quiet_step (first|(go_at_call 310;exact NZ (I.out _))|(go_at_call 288;exact Calls.grown_of (J.out _))))
  refine Oy ?_;intro _ D;obtain⟨⟨s,m⟩,C⟩:=D;subst C;have o:M6 _:=abA A.out.2 s m;generalize Oj (f.drewN s) m=w3 at o⊢;go_wp2;go_ret;exact⟨by rw[E.out];rfl,o.out⟩
 by_cases h4:x4=0
 case neg =>
  have E:M6 (F=Nb):=by
   rw[H.out];refine M0 fun h=>?_
   rcases h.2 with h|h|h|h
   ·exact h4 h.2.1
   ·exact absurd h.1 (show ¬(1:Int)=2 by decide)
   ·exact absurd h (show ¬(1:Int)=3 by decide)
   ·exact absurd h (show ¬(1:Int)=4 by decide)
  clear H G;go_enter az2,az1
  go_wp2_with fail
  rw[<-A.out.1];refine NQ XY (by kernel_rfl) ?_
  repeat (first|go_big_quiet_skip|quiet_step (first|(go_at_call 310;exact NZ (I.out _))|(go_at_call 288;exact NZ (J.out _))))
  refine Oy ?_;intro _ D;obtain⟨⟨s,m⟩,C⟩:=D;subst C;have o:M6 _:=abA A.out.2 s m;generalize Oj (f.drewN s) m=w3 at o⊢;go_wp2;go_ret;exact⟨by rw[E.out];rfl,o.out⟩
 subst h4
 by_cases h5:x5=0
 case neg =>
  have E:M6 (F=Nb):=by
   rw[H.out];refine M0 fun h=>?_
   rcases h.2 with h|h|h|h
   ·exact h5 h.2.2.1
   ·exact absurd h.1 (show ¬(1:Int)=2 by decide)
   ·exact absurd h (show ¬(1:Int)=3 by decide)
   ·exact absurd h (show ¬(1:Int)=4 by decide)
  clear H G;go_enter az2,az1
  go_wp2_with fail
  rw[<-A.out.1];refine NQ XY (by kernel_rfl) ?_
  repeat (first|go_big_quiet_skip|quiet_step (first|(go_at_call 310;exact NZ (I.out _))|(go_at_call 288;exact NZ (J.out _))))
  refine Oy ?_;intro _ D;obtain⟨⟨s,m⟩,C⟩:=D;subst C;have o:M6 _:=abA A.out.2 s m;generalize Oj (f.drewN s) m=w3 at o⊢;go_wp2;go_ret;exact⟨by rw[E.out];rfl,o.out⟩
 subst h5
 by_cases h6:x6=0
 case neg =>
  have E:M6 (F=Nb):=by
   rw[H.out];refine M0 fun h=>?_
   rcases h.2 with h|h|h|h
   ·exact h6 h.2.2.2
   ·exact absurd h.1 (show ¬(1:Int)=2 by decide)
   ·exact absurd h (show ¬(1:Int)=3 by decide)
   ·exact absurd h (show ¬(1:Int)=4 by decide)
  clear H G;go_enter az2,az1
  go_wp2_with fail
  rw[<-A.out.1];refine NQ XY (by kernel_rfl) ?_
  repeat (first|go_big_quiet_skip|quiet_step (first|(go_at_call 310;exact NZ (I.out _))|(go_at_call 288;exact NZ (J.out _))))
  refine Oy ?_;intro _ D;obtain⟨⟨s,m⟩,C⟩:=D;subst C;have o:M6 _:=abA A.out.2 s m;generalize Oj (f.drewN s) m=w3 at o⊢;go_wp2;go_ret;exact⟨by rw[E.out];rfl,o.out⟩
 subst h6;have E:M6 (F=Nw):=by rw[H.out];exact Nq ⟨M2 G.out.symm,Nt ⟨rfl,rfl,rfl,rfl⟩⟩
 clear H G;go_enter az2,az1
 go_wp2_with fail
 rw[<-A.out.1];refine NQ XY (by kernel_rfl) ?_
 repeat (first|go_big_quiet_skip|quiet_step (first|(go_at_call 310;exact NZ (I.out _))|(go_at_call 288;exact NZ (J.out _))))
 refine Oy ?_;intro _ D;obtain⟨⟨s,m⟩,C⟩:=D;subst C;have o:M6 _:=abA A.out.2 s m;generalize Oj (f.drewN s) m=w3 at o⊢;go_wp2;go_ret;exact⟨by rw[E.out];rfl,o.out⟩
theorem asc(x1 x3 x4 x5 x6:Int)(w:MO):Ni MK 293 #[ZG x1 2 x3 x4 x5 x6] w fun r w'=>r=MN (M3 (Nn (Y7 (x1,2,x3,x4,x5,x6))))/\∃q os,w'=Oj (w.drewN q) os:=by
 obtain⟨A,J⟩:=yE (Nn (Y7 (x1,2,x3,x4,x5,x6)));rw[<-J];have H:M6 _:=J;clear J;obtain⟨I,K⟩:=yE (Nn (acU (x1,2,x3,x4,x5,x6)));have G:M6 (∀W,Ni MK 310 #[ZG x1 2 x3 x4 x5 x6] W fun r w'=>r=MN (M3 I)/\∃q os,w'=Oj (W.drewN q) os):=fun W=>by rw[K];exact agj _ _ _ _ _ _ W
 obtain⟨o,D⟩:=yE (w.alloc (aaP x1 2 x3 x4 x5 x6));have N:o.heap[w.heap.size]?=MI (aaP x1 2 x3 x4 x5 x6):=by rw[D];exact M1 _ _
 have O:∃q os,o=Oj (w.drewN q) os:=by rw[D];exact adu _ _
 obtain⟨c0,c1,c2,c3,c4,c5,F⟩:=abD N;have f:M6 (_/\_/\_):=⟨D,O,N⟩;have C:M6 _:=K;clear D O N K;cases I
 case false =>
  have E:M6 (A=Nb):=by rw[H.out];exact M0 fun h=>Nc C.out.symm h.1
  clear H C;go_enter az2,az1
  go_wp2_with fail
  rw[<-f.out.1];refine(G.out _).mono ?_;rintro r M ⟨rfl,m⟩;obtain⟨c0,c1,c2,c3,c4,c5,F⟩:=abD (WO f.out.2.2 (aea m));obtain⟨q,os,rfl⟩:=m;have s:M6 _:=abA f.out.2.1 q os;generalize Oj (o.drewN q) os=w3 at *;go_wp2;go_ret;exact⟨by rw[E.out];rfl,s.out⟩
 by_cases h5:x5=0
 case neg =>
  have Q:(x5 == 0)=false:=by simpa using h5
  have E:M6 (A=Nb):=by
   rw[H.out];refine M0 fun h=>?_
   rcases h.2 with h|h|h|h
   ·exact absurd h.1 (show ¬(2:Int)=1 by decide)
   ·exact h5 h.2.1
   ·exact absurd h (show ¬(2:Int)=3 by decide)
   ·exact absurd h (show ¬(2:Int)=4 by decide)
  clear H C;go_enter az2,az1
  go_wp2_with fail
  rw[<-f.out.1];refine(G.out _).mono ?_;rintro r M ⟨rfl,m⟩;obtain⟨c0,c1,c2,c3,c4,c5,F⟩:=abD (WO f.out.2.2 (aea m));obtain⟨q,os,rfl⟩:=m;have s:M6 _:=abA f.out.2.1 q os;generalize Oj (o.drewN q) os=w3 at *;go_wp2;go_ret;exact⟨by rw[E.out];rfl,s.out⟩
 subst h5
 by_cases h6:x6=0
 case neg =>
  have P:(x6 == 0)=false:=by simpa using h6
  have E:M6 (A=Nb):=by
   rw[H.out];refine M0 fun h=>?_
   rcases h.2 with h|h|h|h
   ·exact absurd h.1 (show ¬(2:Int)=1 by decide)
   ·exact h6 h.2.2
   ·exact absurd h (show ¬(2:Int)=3 by decide)
   ·exact absurd h (show ¬(2:Int)=4 by decide)
  clear H C;go_enter az2,az1
  go_wp2_with fail
  rw[<-f.out.1];refine(G.out _).mono ?_;rintro r M ⟨rfl,m⟩;obtain⟨c0,c1,c2,c3,c4,c5,F⟩:=abD (WO f.out.2.2 (aea m));obtain⟨q,os,rfl⟩:=m;have s:M6 _:=abA f.out.2.1 q os;generalize Oj (o.drewN q) os=w3 at *;go_wp2;go_ret;exact⟨by rw[E.out];rfl,s.out⟩
 subst h6;have E:M6 (A=Nw):=by rw[H.out];exact Nq ⟨M2 C.out.symm,NF (Nt ⟨rfl,rfl,rfl⟩)⟩
 clear H C;go_enter az2,az1
 go_wp2_with fail
 rw[<-f.out.1];refine(G.out _).mono ?_;rintro r M ⟨rfl,m⟩;obtain⟨c0,c1,c2,c3,c4,c5,F⟩:=abD (WO f.out.2.2 (aea m));obtain⟨q,os,rfl⟩:=m;have s:M6 _:=abA f.out.2.1 q os;generalize Oj (o.drewN q) os=w3 at *;go_wp2;go_ret;exact⟨by rw[E.out];rfl,s.out⟩
theorem ase(x1 x3 x4 x5 x6:Int)(w:MO):Ni MK 293 #[ZG x1 3 x3 x4 x5 x6] w fun r w'=>r=MN (M3 (Nn (Y7 (x1,3,x3,x4,x5,x6))))/\∃q os,w'=Oj (w.drewN q) os:=by
 obtain⟨A,s⟩:=yE (Nn (Y7 (x1,3,x3,x4,x5,x6)));rw[<-s];have H:M6 _:=s;clear s;obtain⟨o,C⟩:=yE (Nn (acU (x1,3,x3,x4,x5,x6)));have N:M6 (∀W,Ni MK 310 #[ZG x1 3 x3 x4 x5 x6] W fun r w'=>r=MN (M3 o)/\∃q os,w'=Oj (W.drewN q) os):=fun W=>by rw[C];exact agj _ _ _ _ _ _ W
 obtain⟨f,m⟩:=yE (w.alloc (aaP x1 3 x3 x4 x5 x6));have D:f.heap[w.heap.size]?=MI (aaP x1 3 x3 x4 x5 x6):=by rw[m];exact M1 _ _
 have J:∃q os,f=Oj (w.drewN q) os:=by rw[m];exact adu _ _
 obtain⟨c0,c1,c2,c3,c4,c5,M⟩:=abD D;have F:M6 (_/\_/\_):=⟨m,J,D⟩;have G:M6 _:=C;clear m J D C;have E:M6 (A=o):=by
  rw[H.out,G.out];exact decide_eq_decide.2 ⟨fun h=>h.1,fun h=>⟨h,NF (NF (Nt rfl))⟩⟩
 clear H G;go_enter az2,az1
 go_wp2_with fail
 rw[<-F.out.1];refine(N.out _).mono ?_;rintro r O ⟨rfl,I⟩;obtain⟨c0,c1,c2,c3,c4,c5,M⟩:=abD (WO F.out.2.2 (aea I));obtain⟨q,os,rfl⟩:=I;have K:M6 _:=abA F.out.2.1 q os;generalize Oj (f.drewN q) os=w3 at *;go_wp2;go_ret;exact⟨by rw[E.out];rfl,K.out⟩
theorem asg(x1 x3 x4 x5 x6:Int)(w:MO):Ni MK 293 #[ZG x1 4 x3 x4 x5 x6] w fun r w'=>r=MN (M3 (Nn (Y7 (x1,4,x3,x4,x5,x6))))/\∃q os,w'=Oj (w.drewN q) os:=by
 obtain⟨A,s⟩:=yE (Nn (Y7 (x1,4,x3,x4,x5,x6)));rw[<-s];have H:M6 _:=s;clear s;obtain⟨o,C⟩:=yE (Nn (acU (x1,4,x3,x4,x5,x6)));have N:M6 (∀W,Ni MK 310 #[ZG x1 4 x3 x4 x5 x6] W fun r w'=>r=MN (M3 o)/\∃q os,w'=Oj (W.drewN q) os):=fun W=>by rw[C];exact agj _ _ _ _ _ _ W
 obtain⟨f,m⟩:=yE (w.alloc (aaP x1 4 x3 x4 x5 x6));have D:f.heap[w.heap.size]?=MI (aaP x1 4 x3 x4 x5 x6):=by rw[m];exact M1 _ _
 have J:∃q os,f=Oj (w.drewN q) os:=by rw[m];exact adu _ _
 obtain⟨c0,c1,c2,c3,c4,c5,M⟩:=abD D;have F:M6 (_/\_/\_):=⟨m,J,D⟩;have G:M6 _:=C;clear m J D C;have E:M6 (A=o):=by
  rw[H.out,G.out];exact decide_eq_decide.2 ⟨fun h=>h.1,fun h=>⟨h,NF (NF (NF rfl))⟩⟩
 clear H G;go_enter az2,az1
 go_wp2_with fail
 rw[<-F.out.1];refine(N.out _).mono ?_;rintro r O ⟨rfl,I⟩;obtain⟨c0,c1,c2,c3,c4,c5,M⟩:=abD (WO F.out.2.2 (aea I));obtain⟨q,os,rfl⟩:=I;have K:M6 _:=abA F.out.2.1 q os;generalize Oj (f.drewN q) os=w3 at *;go_wp2;go_ret;exact⟨by rw[E.out];rfl,K.out⟩
theorem asd(x1 x2 x3 x4 x5 x6:Int)(w:MO):Ni MK 293 #[ZG x1 x2 x3 x4 x5 x6] w fun r w'=>r=MN (M3 (Nn (Y7 (x1,x2,x3,x4,x5,x6))))/\∃q os,w'=Oj (w.drewN q) os:=by
 by_cases h1:x2=1
 ·subst h1;exact asf _ _ _ _ _ _
 by_cases h2:x2=2
 ·subst h2;exact asc _ _ _ _ _ _
 by_cases h3:x2=3
 ·subst h3;exact ase _ _ _ _ _ _
 by_cases h4:x2=4
 ·subst h4;exact asg _ _ _ _ _ _
 have E:M6 (Nn (Y7 (x1,x2,x3,x4,x5,x6))=Nb):=by
  refine M0 fun h=>?_
  rcases h.2 with h|h|h|h
  ·exact h1 h.1
  ·exact h2 h.1
  ·exact h3 h
  ·exact h4 h
 have o:(x2 == 1)=false:=by simpa using h1
 have s:(x2 == 2)=false:=by simpa using h2
 have m:(x2 == 3)=false:=by simpa using h3
 have f:(x2 == 4)=false:=by simpa using h4
 rw[E.out];go_enter az2,az1;go_wp2;go_ret;exact⟨rfl,adu _ _⟩
end
section
open Go.Sort (grow grow_empty grow_grow alloc_eq_grow cell?_grow heap_grow_old)
abbrev adt(w:MO)(v:M7)(L:List Lf):Prop:=aat Xg w v L
abbrev ae2(w:MO)(v:M7)(R:List Rq):Prop:=aat abC w v R
theorem adt.F6{w:MO}{l:List Lf}(h:adt w v l):
  ∃a cap,v=MG a l.length cap/\l.length<=cap/\cap<=NE/\∀i (hi:i<l.length),∃b off,a=MI ⟨b,off,MH⟩/\b<w.heap.size/\w.cell? ⟨b,off+i*6,MH⟩=MI (yB l[i].1)/\w.cell? ⟨b,off+i*6+1,MH⟩=MI (yB l[i].2.1)/\w.cell? ⟨b,off+i*6+2,MH⟩=MI (yB l[i].2.2.1)/\w.cell? ⟨b,off+i*6+3,MH⟩=MI (yB l[i].2.2.2.1)/\w.cell? ⟨b,off+i*6+4,MH⟩=MI (yB l[i].2.2.2.2.1)/\w.cell? ⟨b,off+i*6+5,MH⟩=MI (yB l[i].2.2.2.2.2):=by
 obtain⟨a,cap,o,A,m,q⟩:=aat.F6 XN h;refine⟨a,cap,o,A,m,fun i hi=>?_⟩;obtain⟨b,off,e,s,f⟩:=q i hi;exact⟨b,off,e,s,f 0 (by omega),f 1 (by omega),f 2 (by omega),f 3 (by omega),f 4 (by omega),f 5 (by omega)⟩
theorem ae2.F6{w:MO}{l:List Rq}(h:ae2 w v l):
  ∃a cap,v=MG a l.length cap/\l.length<=cap/\cap<=NE/\∀i (hi:i<l.length),∃b off,a=MI ⟨b,off,MH⟩/\b<w.heap.size/\w.cell? ⟨b,off+i*5,MH⟩=MI (yB l[i].1)/\w.cell? ⟨b,off+i*5+1,MH⟩=MI (yB l[i].2.1)/\w.cell? ⟨b,off+i*5+2,MH⟩=MI (yB l[i].2.2.1)/\w.cell? ⟨b,off+i*5+3,MH⟩=MI (yB l[i].2.2.2.1)/\w.cell? ⟨b,off+i*5+4,MH⟩=MI (yB l[i].2.2.2.2):=by
 obtain⟨a,cap,o,A,m,q⟩:=aat.F6 acX h;refine⟨a,cap,o,A,m,fun i hi=>?_⟩;obtain⟨b,off,e,s,f⟩:=q i hi;exact⟨b,off,e,s,f 0 (by omega),f 1 (by omega),f 2 (by omega),f 3 (by omega),f 4 (by omega)⟩
theorem asC{L:List Lf}(hk:k<L.length)(h1:ZD (L.take k))(h2:Y7 L[k])(h3:∀j,j+1=k->∀hj:j<L.length,L[j].1<L[k].1):ZD (L.take (k+1)):=by
 rw[M9 hk];refine⟨fun x f=>?_,asx h1.2 fun y hy=>?_⟩
 ·rcases QF.1 f with f|f
  ·exact h1.1 x f
  ·simp at f
   rw[f];exact h2
 ·cases k with
  |zero=>simp at hy
  |succ j =>
   rw[M9 (by omega:j<L.length)]at hy;rw[List.getLast?_append]at hy;simp at hy;rw[<-hy];exact h3 j rfl (by omega)
theorem asA{L:List Lf}(hk:k<L.length)(h:¬Y7 L[k]\/∃j,j+1=k/\∃hj:j<L.length,¬L[j].1<L[k].1):¬ZD L:=by
 rintro⟨h1,h2⟩;rcases h with h|⟨j,rfl,hj,h⟩
 ·exact h (h1 _ (Nk hk))
 ·exact h (List.pairwise_iff_getElem.1 h2 j (j+1) hj hk (by omega))
theorem ash(v:M7)(L:List Lf)(w:MO)(hv:adt w v L) :
  Ni MK 254 #[v] w fun r w'=>r=MN (M3 (Nn (ZD L)))/\yA w w':=by
 obtain⟨a,ca,rfl,c8,b7,pa⟩:=hv.F6;unfold NE at b7;obtain⟨Q,a7⟩:=yE (Nn (ZD L));rw[<-a7];have H:M6 _:=a7;clear hv a7;go_enter aze,aza;go_wp2
 go_loopw [7] (fun i wr=>∃k:Nat,i=yB k/\k<=L.length/\ZD (L.take k)/\yA w wr) (fun i _=>L.length-(On i).toNat)
 case atStart=>exact⟨0,rfl,Nx _,by rw[List.take_zero];exact⟨by simp,.nil⟩,MY _ _⟩
 case round =>
  obtain⟨k,rfl,hk,O,D⟩:=hrel
  by_cases hlt:k<L.length
  ·obtain⟨G,F,rfl,I,c1,c2,c3,c4,c5,c6⟩:=pa k hlt
   have e1:=(D.cell (p:=⟨G,F+k*6,MH⟩) I).trans c1;have e2:=(D.cell (p:=⟨G,F+k*6+1,MH⟩) I).trans c2;have e3:=(D.cell (p:=⟨G,F+k*6+2,MH⟩) I).trans c3;have e4:=(D.cell (p:=⟨G,F+k*6+3,MH⟩) I).trans c4;have e5:=(D.cell (p:=⟨G,F+k*6+4,MH⟩) I).trans c5;have e6:=(D.cell (p:=⟨G,F+k*6+5,MH⟩) I).trans c6;have d6:(k:Int)<(L.length:Int):=by omega
   have b3:=fun(h2:Y7 L[k]) (h3:∀j,j+1=k->∀K:j<L.length,L[j].1<L[k].1)=>asC hlt O h2 h3
   have a8:=fun h=>asA (L:=L) hlt h
   have a6:∀j,j+1=k->∃y:Int,wr.cell? ⟨G,F+j*6,MH⟩=MI (yB y)/\∃K:j<L.length,y=L[j].1:=fun j K=>by
    obtain⟨b2,o2,he,c7,d1,_⟩:=pa j (by omega);cases he;exact⟨_,(D.cell (p:=⟨G,F+j*6,MH⟩) I).trans d1,by omega,rfl⟩
   obtain⟨x,b5⟩:=yE (L[k]);rw[<-b5]at e1 e2 e3 e4 e5 e6 b3 a8;clear b5;obtain⟨J,V,x3,Y,Z,U⟩:=x;have m:M6 (_/\_/\_):=⟨b3,a8,D⟩;obtain⟨f,a5⟩:=yE (wr.alloc (aaP J V x3 Y Z U));have hR:f.heap[wr.heap.size]?=MI (aaP J V x3 Y Z U):=by rw[a5];exact M1 _ _
   have P:yA wr f:=by rw[a5];exact WQ _
   obtain⟨d0,d1,d2,d3,d4,d5,b9⟩:=abD hR;obtain⟨bd,a9⟩:=yE (Nn (Y7 (J,V,x3,Y,Z,U)));have HI:M6 (∀W,Ni MK 293 #[ZG J V x3 Y Z U] W fun r w'=>r=MN (M3 bd)/\∃q os,w'=Oj (W.drewN q) os):=fun W=>by rw[a9];exact asd _ _ _ _ _ _ W
   have k0:∀n' os,(Oj (f.drewN n') os).cell? ⟨wr.heap.size,0,MH⟩=MI (yB J):=Ob (MX _ _ d0) d0;have k1:∀n' os,(Oj (f.drewN n') os).cell? ⟨wr.heap.size,1,MH⟩=MI (yB V):=Ob (MX _ _ d1) d1;have k2:∀n' os,(Oj (f.drewN n') os).cell? ⟨wr.heap.size,2,MH⟩=MI (yB x3):=Ob (MX _ _ d2) d2;have k3:∀n' os,(Oj (f.drewN n') os).cell? ⟨wr.heap.size,3,MH⟩=MI (yB Y):=Ob (MX _ _ d3) d3;have k4:∀n' os,(Oj (f.drewN n') os).cell? ⟨wr.heap.size,4,MH⟩=MI (yB Z):=Ob (MX _ _ d4) d4;have k5:∀n' os,(Oj (f.drewN n') os).cell? ⟨wr.heap.size,5,MH⟩=MI (yB U):=Ob (MX _ _ d5) d5;have s:M6 (_/\_/\_):=⟨a5,P,a9⟩;clear b3 a8 O D c1 c2 c3 c4 c5 c6 I pa a5 a9 hR;cases bd
   case false =>
    have E:M6 (Q=Nb):=by rw[H.out];exact M0 (m.out.2.1 (Nt (Nc s.out.2.2.symm)))
    clear a6 P
    go_wp2_with fail
    rw[<-s.out.1];refine NQ XY (by kernel_rfl) ?_
    repeat (first|go_big_quiet_skip|quiet_step (first|(go_at_call 293;exact NZ (HI.out _))))
    refine Oy ?_;intro _ N;obtain⟨⟨A,o⟩,M⟩:=N;subst M;have C:M6 (yA w (Oj (f.drewN A) o)):=(m.out.2.2.trans (s.out.2.1.mono m.out.2.2.size)).trans ((ae3 f A o).mono (Nm m.out.2.2.size s.out.2.1.size));generalize Oj (f.drewN A) o=w3 at C⊢;go_wp2;go_ret;exact⟨by rw[E.out];rfl,C.out⟩
   by_cases h0:k=0
   ·have HK:M6 _:=h0
    have b6:Nn (0<k)=false:=M0 (by omega);clear a6 P h0
    go_wp2_with fail
    rw[<-s.out.1];refine NQ XY (by kernel_rfl) ?_
    repeat (first|go_big_quiet_skip|quiet_step (first|(go_at_call 293;exact NZ (HI.out _))))
    refine Oy ?_;intro _ N;obtain⟨⟨A,o⟩,M⟩:=N;subst M;have C:M6 (yA w (Oj (f.drewN A) o)):=(m.out.2.2.trans (s.out.2.1.mono m.out.2.2.size)).trans ((ae3 f A o).mono (Nm m.out.2.2.size s.out.2.1.size));generalize Oj (f.drewN A) o=w3 at C⊢;go_wp2
    go_roundw
    case rel=>exact⟨k+1,by simp,hlt,m.out.1 (M2 s.out.2.2.symm) (fun j K=>absurd K (by have:=HK.out;omega)),C.out⟩
    case measure=>simp[On];omega
   ·obtain⟨j,K⟩:∃j,j+1=k:=⟨k-1,by omega⟩
    obtain⟨y,f1,b8,hy⟩:=a6 j K;have f2:f.cell? ⟨G,F+j*6,MH⟩=MI (yB y):=(P.cell (p:=⟨G,F+j*6,MH⟩) (MX _ _ f1)).trans f1;have f3:∀n' os,(Oj (f.drewN n') os).cell? ⟨G,F+j*6,MH⟩=MI (yB y):=Ob (MX _ _ f2) f2;have c9:(j:Int)<(L.length:Int):=by omega
    have d7:IntKind.i64.wrap ((k:Int)-1)=(j:Int):=by rw[Ow];omega
    have b6:Nn (0<k)=true:=Nq (by omega);have HY:M6 (_/\_):=⟨hy,K⟩;clear a6 P hy f1 f2 K h0;cases hc:Nn (J<=y)
    ·have E:M6 _:=Nc hc
     go_wp2_with fail
     rw[<-s.out.1];refine NQ XY (by kernel_rfl) ?_
     repeat (first|go_big_quiet_skip|quiet_step (first|(go_at_call 293;exact NZ (HI.out _))))
     refine Oy ?_;intro _ N;obtain⟨⟨A,o⟩,M⟩:=N;subst M;have C:M6 (yA w (Oj (f.drewN A) o)):=(m.out.2.2.trans (s.out.2.1.mono m.out.2.2.size)).trans ((ae3 f A o).mono (Nm m.out.2.2.size s.out.2.1.size));generalize Oj (f.drewN A) o=w3 at C⊢;go_wp2
     go_roundw
     case rel=>exact⟨k+1,by simp,hlt,m.out.1 (M2 s.out.2.2.symm) (fun i hi hil=>by
      have e:i=j:=by have:=HY.out.2;omega
      subst e;have q1:=HY.out.1;have q2:=E.out;show L[i].1<J;rw[<-q1];exact Int.lt_of_not_ge q2),C.out⟩
     case measure=>simp[On];omega
    ·have E:M6 (Q=Nb):=by
      rw[H.out];refine M0 (m.out.2.1 (NF ⟨j,HY.out.2,b8,?_⟩));have:=HY.out.1;have:=M2 hc;show ¬L[j].1<J;omega
     go_wp2_with fail
     rw[<-s.out.1];refine NQ XY (by kernel_rfl) ?_
     repeat (first|go_big_quiet_skip|quiet_step (first|(go_at_call 293;exact NZ (HI.out _))))
     refine Oy ?_;intro _ N;obtain⟨⟨A,o⟩,M⟩:=N;subst M;have C:M6 (yA w (Oj (f.drewN A) o)):=(m.out.2.2.trans (s.out.2.1.mono m.out.2.2.size)).trans ((ae3 f A o).mono (Nm m.out.2.2.size s.out.2.1.size));generalize Oj (f.drewN A) o=w3 at C⊢;go_wp2;go_ret;exact⟨by rw[E.out];rfl,C.out⟩
  ·have E:M6 (Q=Nw):=by
    rw[H.out];rw[N1 (by omega)]at O;exact Nq O
   have HB:M6 _:=D;clear O D pa;go_wp2;go_ret;exact⟨by rw[E.out];rfl,HB.out⟩
end
section
open Go.Sort (grow grow_empty grow_grow alloc_eq_grow cell?_grow heap_grow_old)
open Go.Maps (Keyed int_keyed keyOf_int_mk)
theorem aip(x1 x2 x3 x4 x5:Int)(w:MO):Ni MK 176 #[ab2 x1 x2 x3 x4 x5] w fun r w'=>r=MN (M3 (Nn (abY (x1,x2,x3,x4,x5))))/\w'=w.alloc (XS x1 x2 x3 x4 x5):=by
 obtain⟨f,m⟩:=yE (Nn (abY (x1,x2,x3,x4,x5)));rw[<-m];have H:M6 _:=m;clear m;cases h1:Nn (0<=x1/\x1<=1048576)
 case false =>
  have E:M6 (f=Nb):=by rw[H.out];exact M0 fun h=>Nc h1 h.1
  go_enter aAQ,aAG
  go_wp2_with fail
  refine(YY _ _ _ _).mono ?_;rw[h1];rintro r o ⟨rfl,rfl⟩;go_wp2;go_ret;exact⟨by rw[E.out];rfl,rfl⟩
 by_cases h2:x2=1
 ·subst h2
  have E:M6 (f=Nw):=by rw[H.out];exact Nq ⟨M2 h1,Nt rfl⟩
  go_enter aAQ,aAG
  go_wp2_with fail
  refine(YY _ _ _ _).mono ?_;rw[h1];rintro r o ⟨rfl,rfl⟩;go_wp2;go_ret;exact⟨by rw[E.out];rfl,rfl⟩
 ·have s:(x2 == 1)=false:=by simpa using h2
  obtain⟨b,q⟩:=yE ((x2 == 2));have E:M6 (f=(x2 == 2)):=by
   rw[H.out];cases hq:(x2 == 2)
   ·exact M0 fun h=>h.2.elim h2 fun h=>by rw[show x2=2 from h]at hq;cases hq
   ·exact Nq ⟨M2 h1,NF (by simpa using hq)⟩
  go_enter aAQ,aAG
  go_wp2_with fail
  refine(YY _ _ _ _).mono ?_;rw[h1];rintro r o ⟨rfl,rfl⟩;go_wp2;go_ret;exact⟨by rw[E.out];rfl,rfl⟩
theorem amh{x:Int}(h1:0<=x)(h2:x<=10000000):(N6 ME x).wf=true:=by
 have m:IntKind.i64.min = -9223372036854775808:=by decide
 have f:IntKind.i64.max=9223372036854775807:=by decide
 simp only[Lit.wf,m,f,Po,decide_eq_true_eq];omega
theorem alX:Keyed MK 3:=int_keyed Ol
def acV(w:MO)(b:Nat)(ids:List Int):Prop :=
 ∃(n:Nat) (D:DataW Unit),w.ownsMap MK 3 (plainElem MK 3) b n D/\n<=ids.length/\(∀id,(N6 ME id).wf=Nw->Maps.has D (N6 ME id)=Nn (id∈ids))/\Tu D<=ids.length/\(Tu D=ids.length↔ids.Pairwise (·≠·))
theorem asm(w:MO):acV (w.alloc (.map #[] 0)) w.heap.size []:=
 ⟨0,.map [],World.ownsMap_made w _ _ _,MV _,fun id hid=>rfl,MV _,⟨fun _=>.nil,fun _=>rfl⟩⟩
theorem acV.Gf{w w':MO}{b:Nat}(h:acV w b ids)(hb:w'.heap[b]?=w.heap[b]?):acV w' b ids:=by
 obtain⟨n,D,⟨s,f,m,o⟩,q⟩:=h;exact⟨n,D,⟨s,f,hb.trans m,o⟩,q⟩
theorem acV.lt{w:MO}{b:Nat}(h:acV w b ids):b<w.heap.size:=by
 obtain⟨n,D,⟨s,m,f,o⟩,q⟩:=h;exact(ZAa.1 f).1
theorem acV.Gd{w:MO}{b:Nat}(h:acV w b ids)(hn:ids.length<=1000){x:Int}(hid:(N6 ME id).wf=Nw)(hx:(N6 ME x).wf=Nw):
  ∃w',(Instr.mapUpdate 338 (P0 (MI b)) (yB id) (yB x)).run MK w=.ok () w'/\acV w' b (ids++[id])/\w.grownBy w' (MI b):=by
 obtain⟨n,D,m,G,q,H,E⟩:=h;obtain⟨w',F,A,C⟩:=m.update alX az3 (by unfold NE;omega) (Qg Ol hid) (plainElem_int Ol hx);have f:Maps.IsMap D:=m.isMap;have o:=Maps.size_put (k:=N6 ME id) (m.tidy alX) (d:=.lit (N6 ME x));rw[q id hid]at o;refine⟨w',F,⟨n+1,_,A,by simp;omega,fun k hk=>?_,?_,?_⟩,C⟩
 ·by_cases e:k=id
  ·subst e
   rw[Maps.has_put_same (k:=N6 ME k) f trivial];simp
  ·have s:N6 ME k≠N6 ME id:=fun h=>e (by cases h;rfl)
   rw[Maps.has_put_other s,q k hk];simp[e]
 ·rw[o]
  simp
  split <;> omega
 ·rw[o,List.pairwise_append,<-E]
  by_cases f:id∈ids
  ·simp only[f,decide_true,if_true,Ns,OU]
   constructor
   ·intro h;omega
   ·rintro⟨_,_,h⟩;exact absurd rfl (h id f id (by simp))
  ·simp only[f,decide_false,Ns,OU]
   constructor
   ·intro h
    refine⟨by simpa using h,by simp,fun a ha b hb=>?_⟩;simp at hb;subst hb;exact fun e=>f (e ▸ ha)
   ·rintro⟨h,_,_⟩
    simp[h]
theorem acV.len{w:MO}{b:Nat}(h:acV w b ids):∃(n:Nat) (D:DataW Unit) (s:Nat),w.ownsMap MK 3 (plainElem MK 3) b n D/\Tu D=s/\s<=ids.length/\(s=ids.length↔ids.Pairwise (·≠·)):=by
 obtain⟨n,D,f,_,_,m,o⟩:=h;exact⟨n,D,_,f,rfl,m,o⟩
theorem ar0(R:List Rq):(R.map (·.1)).Pairwise (·≠·)↔R.Pairwise (fun a b=>a.1≠b.1):=List.pairwise_map
theorem asr(v:M7)(R:List Rq)(w:MO)(hv:ae2 w v R)(hR:R.length<=100) :
  Ni MK 255 #[v] w fun r w'=>r=MN (M3 (Nn (ad9 R)))/\yA w w':=by
 obtain⟨a,ca,rfl,d8,c8,pa⟩:=hv.F6;unfold NE at c8;obtain⟨A,a6⟩:=yE (Nn (ad9 R));rw[<-a6];have H:M6 _:=a6;clear hv a6;have c7:∀W:MO,(Instr.makeMap 338 MH).run MK W=.ok (P0 (MI W.heap.size)) (W.alloc (.map #[] 0)):=fun _=>rfl
 have HM:M6 _:=asm w;go_enter ax8,ax4;go_wp2
 go_loopw [9] (fun i wr=>∃k:Nat,i=yB k/\k<=R.length/\(∀r∈R.take k,abY r)/\acV wr w.heap.size ((R.take k).map (·.1))/\yA w wr) (fun i _=>R.length-(On i).toNat)
 case atStart=>exact⟨0,rfl,Nx _,by simp,HM.out,WQ _⟩
 case round =>
  obtain⟨k,rfl,hk,I,G,m⟩:=hrel;clear c7
  by_cases hlt:k<R.length
  ·obtain⟨K,J,rfl,q,c1,c2,c3,c4,c5⟩:=pa k hlt
   have e1:=(m.cell (p:=⟨K,J+k*5,MH⟩) q).trans c1;have e2:=(m.cell (p:=⟨K,J+k*5+1,MH⟩) q).trans c2;have e3:=(m.cell (p:=⟨K,J+k*5+2,MH⟩) q).trans c3;have e4:=(m.cell (p:=⟨K,J+k*5+3,MH⟩) q).trans c4;have e5:=(m.cell (p:=⟨K,J+k*5+4,MH⟩) q).trans c5;have e7:(k:Int)<(R.length:Int):=by omega
   have a8:R.take (k+1)=R.take k++[R[k]]:=M9 hlt;have a5:R[k]∈R:=Nk hlt;obtain⟨x,b5⟩:=yE (R[k]);rw[<-b5]at e1 e2 e3 e4 e5 a8 a5;clear b5;obtain⟨F,M,P,N,O⟩:=x;obtain⟨Y,C⟩:=yE ((wr.alloc (XS F M P N O)).alloc (XS F M P N O));have a7:yA wr Y:=by rw[C];exact((MY _ _).alloc (MV _) _).alloc (by simp) _
   have a9:Y.heap[wr.heap.size]?=MI (XS F M P N O):=by rw[C];exact Xy _ _ (M1 _ _)
   have b8:=G.Gf (a7.block _ G.lt);obtain⟨bd,b6⟩:=yE (Nn (abY (F,M,P,N,O)));have f:M6 (_/\_/\_/\_/\_/\_/\_/\_):=⟨a8,I,b8,m,a5,b6,C,a7⟩;clear I m c1 c2 c3 c4 c5 q pa a8 G b8 a5 b6 a7;cases bd
   case false =>
    have E:M6 (A=Nb):=by rw[H.out];exact M0 fun h=>Nc f.out.2.2.2.2.2.1.symm (h.1 _ f.out.2.2.2.2.1)
    clear a9 C
    go_wp2_with fail
    refine(aip _ _ _ _ _ _).mono ?_;rw[<-f.out.2.2.2.2.2.1];rintro r w1 ⟨rfl,rfl⟩;go_wp2;go_ret;exact⟨by rw[E.out];rfl,by rw[<-f.out.2.2.2.2.2.2.1];exact f.out.2.2.2.1.trans (f.out.2.2.2.2.2.2.2.mono f.out.2.2.2.1.size)⟩
   have U:abY (F,M,P,N,O):=M2 f.out.2.2.2.2.2.1.symm;obtain⟨w2,d7,b7,b9⟩:=f.out.2.2.1.Gd (id:=F) (x:=k) (by simp;omega) (amh (by have:=U.1;omega) (by have:=U.1;omega)) (amh (by omega) (by omega));have HN:M6 (_/\_/\_):=⟨U,b7,b9⟩;obtain⟨d0,d1,d2,d3,d4,d6⟩:=YD a9;clear U b7 b9 a9
   go_wp2_with fail
   refine(aip _ _ _ _ _ _).mono ?_;rw[<-f.out.2.2.2.2.2.1];rintro r w1 ⟨rfl,rfl⟩;rw[<-C];clear C;go_wp2
   go_roundw
   case rel =>
    refine⟨k+1,by simp,hlt,fun r o=>?_,?_,?_⟩
    ·rw[f.out.1]at o
     rcases QF.1 o with o|o
     ·exact f.out.2.1 r o
     ·simp at o
      rw[o];exact HN.out.1
    ·rw[f.out.1,OI]
     exact HN.out.2.1
    ·have hz:=(f.out.2.2.2.1.trans (f.out.2.2.2.2.2.2.2.mono f.out.2.2.2.1.size))
     exact hz.grown HN.out.2.2 hz.size (fun j e=>by cases e;exact MV _)
   case measure=>simp[On];omega
  ·obtain rfl:k=R.length:=by omega
   rw[NT]at G I;obtain⟨n,D,s,b3,hs,c9,Q⟩:=G.len;rw[ar0,N0]at Q;have V:M6 (_/\_):=⟨b3,m⟩;have Z:A=Nn (s=R.length):=by
    rw[H.out];exact decide_eq_decide.2 ⟨fun h=>Q.2 h.2,fun h=>⟨I,Q.1 h⟩⟩
   clear I m pa b3 G Q c9
   by_cases hq:s=R.length
   ·have E:M6 (A=Nw):=by rw[Z];exact Nq hq
    clear Z;rw[hq]at hs;clear hq
    go_wp2_with (at_len;refine wpList_len_own _ rfl _ 338 rfl 3 3 az3 _ w.heap.size n D rfl V.out.1 ?_;rw[hs])
    go_wp2;go_ret;exact⟨by rw[E.out];rfl,V.out.2⟩
   ·have E:M6 (A=Nb):=by rw[Z];exact M0 hq
    have d9:(s == R.length)=false:=by simpa using hq
    have e8:((s:Int) == (R.length:Int))=false:=by simp;omega
    clear Z
    go_wp2_with (at_len;refine wpList_len_own _ rfl _ 338 rfl 3 3 az3 _ w.heap.size n D rfl V.out.1 ?_;rw[hs])
    go_wp2;go_ret;exact⟨by rw[E.out];rfl,V.out.2⟩
end
abbrev YC(va vb:M7):Value:=Ny #[va,vb]
abbrev Zk(va vb:M7):Obj:=MP #[va,vb] 45
abbrev aaM(w:MO)(va vb:M7)(L:List Lf)(R:List Rq):Prop:=adt w va L/\ae2 w vb R
theorem aaM.below{w w':MO}{va vb:M7}{L:List Lf}{R:List Rq}(h:aaM w va vb L R)(hb:yA w w'):aaM w' va vb L R:=⟨aat.below h.1 hb,aat.below h.2 hb⟩
theorem asj(va vb:M7)(L:List Lf)(R:List Rq)(w:MO)(hv:aaM w va vb L R) :
  Ni MK 202 #[YC va vb] w fun r w'=>r=MN (M3 (Nn (Ym L R)))/\yA w w':=by
 obtain⟨I,J,rfl,a7,a6⟩:=aat.Ga hv.1;obtain⟨D,M,rfl,a8,a5⟩:=aat.Ga hv.2;unfold NE at a6 a5;obtain⟨q,N⟩:=yE (Nn (Ym L R));rw[<-N];have H:M6 _:=N;obtain⟨K,A⟩:=yE (w.alloc (Zk (MG I L.length J) (MG D R.length M)));have O:yA w K:=by rw[A];exact WQ _
 have P:K.heap[w.heap.size]?=MI (Zk (MG I L.length J) (MG D R.length M)):=by rw[A];exact M1 _ _
 have f:M6 (_/\_/\_/\_):=⟨hv.below O,A,O,P⟩;obtain⟨c0,c1,_,_,Y⟩:=Xa P;clear N hv A O P;cases h1:Nn (L.length<=12)
 case false =>
  have V:¬(L.length<=12):=Nc h1;have g2:¬((L.length:Int)<=12):=by omega
  have E:M6 (q=Nb):=by rw[H.out];exact M0 fun h=>V h.1.1
  clear H h1;go_enter UQ,UD;go_wp2;go_ret;exact⟨by rw[E.out];rfl,WQ _⟩
 have V:L.length<=12:=M2 h1;have g2:(L.length:Int)<=12:=by omega
 clear h1;obtain⟨G,s⟩:=yE (Nn (ZD L));have U:M6 (∀W,adt W (MG I L.length J) L->Ni MK 254 #[MG I L.length J] W fun r w'=>r=MN (M3 G)/\yA W w'):=fun W hW=>by rw[s];exact ash _ _ W hW
 have Z:M6 _:=s;clear s;cases G
 case false =>
  have E:M6 (q=Nb):=by rw[H.out];exact M0 fun h=>Nc Z.out.symm h.1.2
  clear H;go_enter UQ,UD
  go_wp2_with fail
  rw[<-f.out.2.1];refine(U.out _ f.out.1.1).mono ?_;rintro r w1 ⟨rfl,m⟩;have o:M6 _:=f.out.2.2.1.trans (m.mono f.out.2.2.1.size);clear m;go_wp2;go_ret;exact⟨by rw[E.out];rfl,o.out⟩
 cases h3:Nn (R.length<=100)
 case false =>
  have F:¬(R.length<=100):=Nc h3;have g4:¬((R.length:Int)<=100):=by omega
  have E:M6 (q=Nb):=by rw[H.out];exact M0 fun h=>F h.2.1
  clear H h3;go_enter UQ,UD
  go_wp2_with fail
  rw[<-f.out.2.1];refine(U.out _ f.out.1.1).mono ?_;rintro r w1 ⟨rfl,m⟩;obtain⟨c0,c1,_,_,Y⟩:=Xa (WO f.out.2.2.2 m);have o:M6 _:=f.out.2.2.1.trans (m.mono f.out.2.2.1.size);clear m;go_wp2;go_ret;exact⟨by rw[E.out];rfl,o.out⟩
 have F:R.length<=100:=M2 h3;have g4:(R.length:Int)<=100:=by omega
 clear h3;obtain⟨C,Q⟩:=yE (Nn (ad9 R));have HR:M6 (∀W,ae2 W (MG D R.length M) R->Ni MK 255 #[MG D R.length M] W fun r w'=>r=MN (M3 C)/\yA W w'):=fun W hW=>by rw[Q];exact asr _ _ W hW F
 have E:M6 (q=C):=by
  rw[H.out,Q];exact decide_eq_decide.2 ⟨fun h=>h.2.2,fun h=>⟨⟨V,M2 Z.out.symm⟩,F,h⟩⟩
 clear Q H;go_enter UQ,UD
 go_wp2_with fail
 rw[<-f.out.2.1];refine(U.out _ f.out.1.1).mono ?_;rintro r w1 ⟨rfl,m⟩;obtain⟨c0,c1,_,_,Y⟩:=Xa (WO f.out.2.2.2 m);have o:M6 (_/\_):=⟨f.out.2.2.1.trans (m.mono f.out.2.2.1.size),aat.below f.out.1.2 m⟩;clear m
 go_wp2_with fail
 refine(HR.out _ o.out.2).mono ?_;rintro r w2 ⟨rfl,s⟩;have HC:M6 _:=o.out.1.trans (s.mono o.out.1.size);clear s;go_wp2;go_ret;exact⟨by rw[E.out];rfl,HC.out⟩
theorem ah9(va vb:M7)(L:List Lf)(R:List Rq)(w:MO)(hv:aaM w va vb L R) :
  Ni MK 143 #[YC va vb] w fun r w'=>r=MN (yB (ae5 L R))/\yA w w':=by
 obtain⟨m,q,rfl,K,I⟩:=aat.Ga hv.1;obtain⟨s,A,rfl,J,H⟩:=aat.Ga hv.2;obtain⟨b,f⟩:=yE (Nn (Ym L R));have E:M6 (ae5 L R=if b=Nw then 0 else 6):=by
  by_cases h:Ym L R
  ·rw[f,Nq h,alQ h];rfl
  ·rw[f,M0 h,alP h];rfl
 have F:M6 (∀W,aaM W (MG m L.length q) (MG s R.length A) L R->Ni MK 202 #[YC (MG m L.length q) (MG s R.length A)] W fun r w'=>r=MN (M3 b)/\yA W w'):=fun W hW=>by rw[f];exact asj _ _ _ _ W hW
 have G:M6 _:=hv.below (WQ w (o:=Zk (MG m L.length q) (MG s R.length A)));rw[E.out];clear f hv;go_enter Tryz.func143,Tryz.ntmps143
 go_wp2_with fail
 refine(F.out _ G.out).mono ?_;rintro r M ⟨rfl,C⟩;have D:M6 _:=(WQ w).trans (C.mono (by simp));clear C;cases b
 ·go_wp2
  go_ret;exact⟨rfl,D.out⟩
 ·go_wp2
  go_ret;exact⟨rfl,D.out⟩
theorem aid:(MK.info? 217).map (fun i=>(i.zero,i.size,i.bytes))=MI (MI (Ny #[yB 0,yB 0,yB 0,yB 0,yB 0]),5,40):=by kernel_rfl
theorem alR(v:M7)(l:List Lf)(w:MO)(hv:aat Xg w v l)(hl:l.length<=1000) :
  Ni MK 99 #[v] w fun r w'=>∃p c,r=MN (MG p l.length c)/\w'.ownsRow w.heap.size 214 6 (MG p l.length c) l.length (WT Xg l)/\yA w w':=by
 obtain⟨p,c,rfl,N,M⟩:=aat.Ga hv;cases p with
 |none =>
  obtain rfl:l=[]:=by
   obtain⟨a,K,H,_,_,h|⟨b,off,rfl,_⟩⟩:=hv
   ·exact ZAc.1 h.1
   ·cases H
  clear hv;have F:∀W,(binOp .eql 42 (MG MH 0 c) (MG MH 0 0)).run MK W=.ok (M3 Nw) W:=fun W=>by kernel_rfl
  go_enter azW,azR;go_wp2;go_ret;exact⟨MH,0,rfl,NY _ _ _ _,MY _ _⟩
 |some q =>
  have F:∀W,(binOp .eql 42 (MG (MI q) l.length c) (MG MH 0 0)).run MK W=.ok (M3 Nb) W:=fun W=>by kernel_rfl
  have A:(w.alloc (MP #[] 214)).ownsRow w.heap.size 214 6 (MG (MI ⟨w.heap.size,0,MH⟩) 0 0) 0 (WT Xg []):=
   ⟨rfl,NF ⟨w.heap.size,0,#[],rfl,MV _,M1 _ _,MV _,Nx _,rfl,rfl⟩⟩
  have E:∃s o m,(N2 #[42,42] 42 #[MG (MI ⟨w.heap.size,0,MH⟩) 0 0,MG (MI q) l.length c]).run MK (w.alloc (MP #[] 214))=.ok (MG s l.length o) m/\m.ownsRow w.heap.size 214 6 (MG s l.length o) l.length (WT Xg l)/\yA w m:=by
   by_cases h0:l.length=0
   ·obtain rfl:l=[]:=ZAc.1 h0
    obtain⟨G,I,_⟩:=OF ae7;exact⟨_,_,_,aeY _ _ _ _ G axO I _ 0 0 (MV _) (Nx _) _ _,A,WQ _⟩
   ·obtain⟨g,o,m,hr,f,J,_⟩:=ah6 XN (by decide) axO ae7 rfl A (by simp) 42 _ l (aat.below hv (WQ w)) (by omega) (by omega) (by unfold NE;omega)
    rw[Oa]at hr f;rw[Oz]at f;exact⟨_,_,_,hr,f,(WQ w).trans (ae4 J (by simp) (fun g e=>by cases e;exact MV _))⟩
  obtain⟨s,o,m,hr,f,D⟩:=E;have C:M6 (_/\_/\_):=⟨hr,D,f⟩;clear hr D f hv A;go_enter azW,azR
  go_wp2_with (at_builtin;(with_reducible refine Z4 rfl _ _ 42 rfl (MG (MI ⟨w.heap.size,0,MH⟩) 0 0) (MG (MI q) l.length c) (MG s l.length o) m ?hs ?hx ?hr ?_);(case hs=>rfl);(case hx=>rfl);(case hr=>exact C.out.1))
  go_wp2;go_ret;exact⟨_,_,rfl,C.out.2.2,C.out.2.1⟩
theorem alS(v:M7)(l:List Rq)(w:MO)(hv:aat abC w v l)(hl:l.length<=1000) :
  Ni MK 100 #[v] w fun r w'=>∃p c,r=MN (MG p l.length c)/\w'.ownsRow w.heap.size 217 5 (MG p l.length c) l.length (WT abC l)/\yA w w':=by
 obtain⟨p,c,rfl,N,M⟩:=aat.Ga hv;cases p with
 |none =>
  obtain rfl:l=[]:=by
   obtain⟨a,K,H,_,_,h|⟨b,off,rfl,_⟩⟩:=hv
   ·exact ZAc.1 h.1
   ·cases H
  clear hv;have F:∀W,(binOp .eql 43 (MG MH 0 c) (MG MH 0 0)).run MK W=.ok (M3 Nw) W:=fun W=>by kernel_rfl
  go_enter ax3,axZ;go_wp2;go_ret;exact⟨MH,0,rfl,NY _ _ _ _,MY _ _⟩
 |some q =>
  have F:∀W,(binOp .eql 43 (MG (MI q) l.length c) (MG MH 0 0)).run MK W=.ok (M3 Nb) W:=fun W=>by kernel_rfl
  have A:(w.alloc (MP #[] 217)).ownsRow w.heap.size 217 5 (MG (MI ⟨w.heap.size,0,MH⟩) 0 0) 0 (WT abC []):=
   ⟨rfl,NF ⟨w.heap.size,0,#[],rfl,MV _,M1 _ _,MV _,Nx _,rfl,rfl⟩⟩
  have E:∃s o m,(N2 #[43,43] 43 #[MG (MI ⟨w.heap.size,0,MH⟩) 0 0,MG (MI q) l.length c]).run MK (w.alloc (MP #[] 217))=.ok (MG s l.length o) m/\m.ownsRow w.heap.size 217 5 (MG s l.length o) l.length (WT abC l)/\yA w m:=by
   by_cases h0:l.length=0
   ·obtain rfl:l=[]:=ZAc.1 h0
    obtain⟨G,I,_⟩:=OF aid;exact⟨_,_,_,aeY _ _ _ _ G axS I _ 0 0 (MV _) (Nx _) _ _,A,WQ _⟩
   ·obtain⟨g,o,m,hr,f,J,_⟩:=ah6 acX (by decide) axS aid rfl A (by simp) 43 _ l (aat.below hv (WQ w)) (by omega) (by omega) (by unfold NE;omega)
    rw[Oa]at hr f;rw[Oz]at f;exact⟨_,_,_,hr,f,(WQ w).trans (ae4 J (by simp) (fun g e=>by cases e;exact MV _))⟩
  obtain⟨s,o,m,hr,f,D⟩:=E;have C:M6 (_/\_/\_):=⟨hr,D,f⟩;clear hr D f hv A;go_enter ax3,axZ
  go_wp2_with (at_builtin;(with_reducible refine Z4 rfl _ _ 43 rfl (MG (MI ⟨w.heap.size,0,MH⟩) 0 0) (MG (MI q) l.length c) (MG s l.length o) m ?hs ?hx ?hr ?_);(case hs=>rfl);(case hx=>rfl);(case hr=>exact C.out.1))
  go_wp2;go_ret;exact⟨_,_,rfl,C.out.2.2,C.out.2.1⟩
structure WN(base:Nat)(W:MO)(T:Nat)(va vb:M7)(L:List Lf)(R:List Rq):Prop where
 box:W.heap[T]?=MI (MP #[va,vb] 307 (0,0))
 lives:W.ownsRow base 214 6 va L.length (WT Xg L)
 reqs:W.ownsRow base 217 5 vb R.length (WT abC R)
 offL:va.ownBlock≠MI T
 offR:vb.ownBlock≠MI T
 apart:∀g,va.ownBlock=MI g->vb.ownBlock≠MI g
 hT:base<=T
section
variable {base:Nat}{W W':MO}{T:Nat}{va vb:M7}{L:List Lf}{R:List Rq}
theorem WN.below(h:WN base W T va vb L R)(hb:yA W W'):WN base W' T va vb L R :=
 ⟨WO h.box hb,YI h.lives hb,YI h.reqs hb,h.offL,h.offR,h.apart,h.hT⟩
theorem WN.lt(h:WN base W T va vb L R):T<W.heap.size:=(ZAa.1 h.box).1
theorem WN.at(h:WN base W T va vb L R):aaM W va vb L R:=⟨ain h.lives,ain h.reqs⟩
theorem aso{w5 w6:MO}(hL:w5.ownsRow base 214 6 va L.length (WT Xg L))(hR:w6.ownsRow w5.heap.size 217 5 vb R.length (WT abC R))(hb:yA w5 w6)(hbase:base<=w5.heap.size) :
  WN base (w6.alloc (MP #[va,vb] 307)) w6.heap.size va vb L R :=
 ⟨M1 _ _,(YI hL hb).alloc _,(hR.mono hbase).alloc _,fun e=>by have:=(hL.lt _ e).2;have:=hb.size;omega,fun e=>by have:=(hR.lt _ e).2;omega,fun g e f=>by have:=(hL.lt _ e).2;have:=(hR.lt _ f).1;omega,Nm hbase hb.size⟩
theorem asp{w5 w6:MO}(hR:w5.ownsRow base 217 5 vb R.length (WT abC R))(hL:w6.ownsRow w5.heap.size 214 6 va L.length (WT Xg L))(hb:yA w5 w6)(hbase:base<=w5.heap.size) :
  WN base (w6.alloc (MP #[va,vb] 307)) w6.heap.size va vb L R :=
 ⟨M1 _ _,(hL.mono hbase).alloc _,(YI hR hb).alloc _,fun e=>by have:=(hL.lt _ e).2;omega,fun e=>by have:=(hR.lt _ e).2;have:=hb.size;omega,fun g e f=>by have:=(hR.lt _ f).2;have:=(hL.lt _ e).1;omega,Nm hbase hb.size⟩
end
theorem ae6{w w':MO}{a1 a2:Oc}{v1 v2:M7}(h1:w.cell? a1=MI v1)(h2:w.cell? a2=MI v2)(hb:yA w w'):w'.cell? a1=MI v1/\w'.cell? a2=MI v2/\yA w w' :=
 ⟨(hb.cell (MX w _ h1)).trans h1,(hb.cell (MX w _ h2)).trans h2,hb⟩
def alM(L:List Lf)(R:List Rq)(w:MO)(r:Ending)(w':MO):Prop :=
 ∃T p k q m,r=MN (Nv #[Na (MI ⟨T,0,MH⟩),yB 0])/\WN w.heap.size w' T (MG p L.length k) (MG q R.length m) L R/\yA w w'
theorem aik(va vb:M7)(L:List Lf)(R:List Rq)(w:MO)(hv:aaM w va vb L R)(h:¬Ym L R) :
  Ni MK 175 #[YC va vb] w fun r w'=>r=MN (Nv #[Na MH,yB 6])/\yA w w':=by
 obtain⟨C,D,rfl,H,F⟩:=aat.Ga hv.1;obtain⟨s,A,rfl,G,E⟩:=aat.Ga hv.2;have m:M6 (_/\_):=⟨hv.below (WQ w (o:=Zk (MG C L.length D) (MG s R.length A))),alP h⟩;clear hv h;go_enter Wq,We
 go_wp2_with fail
 refine(ah9 _ _ L R _ m.out.1).mono ?_;rw[m.out.2];rintro r I ⟨rfl,f⟩;have q:M6 _:=(WQ w).trans (f.mono (by simp));clear f;go_wp2
 go_ret2
 exact⟨rfl,q.out⟩
theorem ail(va vb:M7)(L:List Lf)(R:List Rq)(w:MO)(hv:aaM w va vb L R)(h:Ym L R) :
  Ni MK 175 #[YC va vb] w (alM L R w):=by
 obtain⟨E,F,rfl,a6,Z⟩:=aat.Ga hv.1;obtain⟨G,H,rfl,a5,Y⟩:=aat.Ga hv.2;have Q:L.length<=1000:=by have:=h.1.1;omega
 have U:R.length<=1000:=by have:=h.2.1;omega
 have K:M6 (_/\_):=⟨hv.below (WQ w (o:=Zk (MG E L.length F) (MG G R.length H))),alQ h⟩;clear hv h;go_enter Wq,We
 go_wp2_with fail
 refine(ah9 _ _ L R _ K.out.1).mono ?_;rw[K.out.2];rintro r f ⟨rfl,D⟩;have J:=K.out.1.below D;have M:=WO (M1 w (Zk (MG E L.length F) (MG G R.length H))) D;obtain⟨c0,c1,_,_,V⟩:=Xa M;have P:yA w f:=(WQ w).trans (D.mono (by simp));have N:∀W,yA f W->Ni MK 99 #[MG E L.length F] W fun r w'=>∃p k,r=MN (MG p L.length k)/\M6 (w'.ownsRow W.heap.size 214 6 (MG p L.length k) L.length (WT Xg L)/\yA f w'/\yA W w'):=fun W hW=>(alR _ L W (aat.below J.1 hW) Q).mono fun r w' ⟨p,k,h1,h2,h3⟩=>⟨p,k,h1,⟨h2,hW.trans (h3.mono hW.size),h3⟩⟩
 have O:∀W,yA f W->Ni MK 100 #[MG G R.length H] W fun r w'=>∃p k,r=MN (MG p R.length k)/\M6 (w'.ownsRow W.heap.size 217 5 (MG p R.length k) R.length (WT abC R)/\yA f w'/\yA W w'):=fun W hW=>(alS _ R W (aat.below J.2 hW) U).mono fun r w' ⟨p,k,h1,h2,h3⟩=>⟨p,k,h1,⟨h2,hW.trans (h3.mono hW.size),h3⟩⟩
 have I:M6 (_/\_/\_):=⟨N,O,P⟩;clear N O J M P D
 go_upto_region 4 with fail
 go_region_held3 (fun W=>W.cell? ⟨w.heap.size,0,MH⟩=MI (MG E L.length F)/\W.cell? ⟨w.heap.size,1,MH⟩=MI (MG G R.length H)/\yA f W) (first|exact ae6 c0 c1 ((MY _ _).drew)|exact ae6 c0 c1 A.out.2.1|exact ae6 c0 c1 s.out.2.1|exact ae6 c0 c1 (A.out.2.1.alloc A.out.2.1.size _)|exact ae6 c0 c1 (s.out.2.1.alloc s.out.2.1.size _)) (first|(go_at_call 99;refine(I.out.1 _ ?hbW).mono ?_;(case hbW=>first|assumption|exact(MY _ _).drew|exact s.out.2.1);rintro r w5 ⟨p,k,rfl,A⟩)|(go_at_call 100;refine(I.out.2.1 _ ?hbW).mono ?_;(case hbW=>first|assumption|exact(MY _ _).drew|exact A.out.2.1);rintro r w6 ⟨q,m,rfl,s⟩))
 all_goals
  go_wp2
  go_ret2
  have C:=I.out.2.2
  first
  |exact⟨_,p,k,q,m,rfl,aso (A.out.1.mono C.size) s.out.1 s.out.2.2 (Nm C.size A.out.2.1.size),(C.trans (s.out.2.1.mono C.size)).alloc (Nm C.size s.out.2.1.size) _⟩
  |exact⟨_,p,k,q,m,rfl,asp (s.out.1.mono C.size) A.out.1 A.out.2.2 (Nat.le_trans C.size s.out.2.1.size),(C.trans (A.out.2.1.mono C.size)).alloc (Nat.le_trans C.size A.out.2.1.size) _⟩
theorem alT{w:MO}{c a' b' c' d' e':M7}{T:NU}(h:w.heap[g]?=MI (MP #[a,b,c,d,e] T (0,0))):(((((w.setCell ⟨g,0,MH⟩ a').setCell ⟨g,1,MH⟩ b').setCell ⟨g,2,MH⟩ c').setCell ⟨g,3,MH⟩ d').setCell ⟨g,4,MH⟩ e').heap[g]?=MI (MP #[a',b',c',d',e'] T (0,0)):=
 NI _ _ 4 _ _ e' (NI _ _ 3 _ _ d' (NI _ _ 2 _ _ c' (NI _ _ 1 _ _ b' (NI w g 0 _ _ a' h))))
theorem alO{w W:MO}{h:Nat}{c:M7}(H:MQ B w W)(hh:B<=h):MQ B w (((((W.setCell ⟨h,0,MH⟩ a).setCell ⟨h,1,MH⟩ b).setCell ⟨h,2,MH⟩ c).setCell ⟨h,3,MH⟩ d).setCell ⟨h,4,MH⟩ e):=((((H.setCell hh _).setCell hh _).setCell hh _).setCell hh _).setCell hh _
def X6(i n:Nat):Int:=if i<n then(i:Int)else -1
theorem abZ{α:Type}{p:α->Bool}{l:List α}(hk:k<l.length)(h1:∀t∈l.take k,p t=Nb)(h2:p l[k]=Nw):l.findIdx p=k:=by
 rw[List.findIdx_eq hk];refine⟨h2,fun j hj=>h1 _ ?_⟩;exact List.mem_take_iff_getElem.2 ⟨j,by omega,rfl⟩
theorem acp{α:Type}{p:α->Bool}{l:List α}(h:∀t∈l,p t=Nb):l.findIdx p=l.length:=List.findIdx_eq_length.2 h
theorem arU(x1 x2 x3 x4 x5 n:Int)(g:Nat)(w:MO)(hc:w.cell? ⟨g,0,MH⟩=MI (yB n)) :
  Ni MK 237 #[ab2 x1 x2 x3 x4 x5,Na (MI ⟨g,0,MH⟩)] w fun r w'=>r=MN (M3 (x1 == n))/\yA w w':=by
 have f:g<w.heap.size:=MX w ⟨g,0,MH⟩ hc;go_enter ay0,TO;go_wp2;go_ret;exact⟨rfl,WQ w⟩
theorem ar3(v:M7)(l:List Rq)(n:Int)(g:Nat)(w:MO)(hv:ae2 w v l)(hc:w.cell? ⟨g,0,MH⟩=MI (yB n)) :
  Ni MK 236 #[v,PB (PD 237) #[] #[Na (MI ⟨g,0,MH⟩)]] w fun r w'=>r=MN (yB (X6 (l.findIdx (fun q=>q.1 == n)) l.length))/\yA w w':=by
 obtain⟨q,U⟩:∃q:Rq->Bool,q=(fun q=>q.1 == n):=⟨_,rfl⟩;obtain⟨a,ca,rfl,a8,a6,V⟩:=ae2.F6 hv;unfold NE at a6;have a5:=MX w ⟨g,0,MH⟩ hc;have HQ:M6 (∀(o D C s A:Int) (W:MO),yA w W->Ni MK 237 #[ab2 o D C s A,Na (MI ⟨g,0,MH⟩)] W fun r w'=>r=MN (M3 (q (o,D,C,s,A)))/\yA W w'):=by
  rw[U];exact fun o D C s A W hb=>arU o D C s A n g W ((hb.cell (p:=⟨g,0,MH⟩) a5).trans hc)
 rw[<-U];obtain⟨F,O⟩:=yE (X6 (l.findIdx q) l.length);rw[<-O];have H:M6 _:=O;clear hv O U hc;go_enter US,UF;go_wp2
 go_loopw [8] (fun i wr=>∃k:Nat,i=yB k/\k<=l.length/\(∀t∈l.take k,q t=Nb)/\yA w wr) (fun i _=>l.length-(On i).toNat)
 case atStart=>exact⟨0,rfl,Nx _,by simp,MY _ _⟩
 case round =>
  obtain⟨k,rfl,hk,I,f⟩:=hrel
  by_cases hlt:k<l.length
  ·obtain⟨M,K,rfl,G,c1,c2,c3,c4,c5⟩:=V k hlt
   have e1:=(f.cell (p:=⟨M,K+k*5,MH⟩) G).trans c1;have e2:=(f.cell (p:=⟨M,K+k*5+1,MH⟩) G).trans c2;have e3:=(f.cell (p:=⟨M,K+k*5+2,MH⟩) G).trans c3;have e4:=(f.cell (p:=⟨M,K+k*5+3,MH⟩) G).trans c4;have e5:=(f.cell (p:=⟨M,K+k*5+4,MH⟩) G).trans c5;have E:M6 (_/\_):=⟨I,f⟩;have a7:(k:Int)<(l.length:Int):=by omega
   have Q:l.take (k+1)=l.take k++[l[k]]:=M9 hlt;have P:q l[k]=Nw->l.findIdx q=k:=fun h=>abZ hlt I h
   have N:∃x,x=l[k]:=⟨_,rfl⟩;obtain⟨⟨o,D,C,s,A⟩,N⟩:=N;rw[<-N]at e1 e2 e3 e4 e5 Q P;have HX:M6 (_/\_):=⟨Q,P⟩;clear I f c1 c2 c3 c4 c5 G V Q P N;cases hd:q (o,D,C,s,A)
   ·go_wp2_with fail
    refine(HQ.out o D C s A _ E.out.2).mono ?_;rw[hd];rintro r w2 ⟨rfl,J⟩;have Y:M6 _:=J;clear J;go_wp2
    go_roundw
    case rel =>
     refine⟨k+1,by simp,hlt,fun t m=>?_,E.out.2.trans (Y.out.mono E.out.2.size)⟩;rw[HX.out.1]at m;rcases QF.1 m with m|m
     ·exact E.out.1 t m
     ·simp at m
      rw[m];exact hd
    case measure=>simp[On];omega
   ·go_wp2_with fail
    refine(HQ.out o D C s A _ E.out.2).mono ?_;rw[hd];rintro r w2 ⟨rfl,J⟩;have Z:M6 (F=(k:Int)):=by show F=_;rw[H.out,HX.out.2 hd];exact Nh hlt
    have Y:M6 _:=J;clear J;go_wp2;go_ret;exact⟨by rw[Z.out];rfl,E.out.2.trans (Y.out.mono E.out.2.size)⟩
  ·have Z:M6 (F = -1):=by
    show F=_;rw[H.out,acp fun t m=>I t (by rw[N1 (by omega)];exact m)];exact Nf (PC _)
   have HB:M6 _:=f;clear I f V;go_wp2;go_ret;exact⟨by rw[Z.out];rfl,HB.out⟩
theorem arT(x1 x2 x3 x4 x5 x6 n:Int)(g:Nat)(w:MO)(hc:w.cell? ⟨g,0,MH⟩=MI (yB n)) :
  Ni MK 305 #[ZG x1 x2 x3 x4 x5 x6,Na (MI ⟨g,0,MH⟩)] w fun r w'=>r=MN (M3 (Nn (n<=x1)))/\yA w w':=by
 have f:g<w.heap.size:=MX w ⟨g,0,MH⟩ hc;go_enter Tryz.func305,Tryz.ntmps305;go_wp2;go_ret;exact⟨rfl,WQ w⟩
theorem ar2(v:M7)(l:List Lf)(n:Int)(g:Nat)(w:MO)(hv:adt w v l)(hc:w.cell? ⟨g,0,MH⟩=MI (yB n)) :
  Ni MK 180 #[v,PB (PD 305) #[] #[Na (MI ⟨g,0,MH⟩)]] w fun r w'=>r=MN (yB (X6 (l.findIdx (fun x=>Nn (n<=x.1))) l.length))/\yA w w':=by
 obtain⟨q,V⟩:∃q:Lf->Bool,q=(fun x=>Nn (n<=x.1)):=⟨_,rfl⟩;obtain⟨a,ca,rfl,a8,a6,Y⟩:=adt.F6 hv;unfold NE at a6;have a5:=MX w ⟨g,0,MH⟩ hc;have HQ:M6 (∀(o E C s A D:Int) (W:MO),yA w W->Ni MK 305 #[ZG o E C s A D,Na (MI ⟨g,0,MH⟩)] W fun r w'=>r=MN (M3 (q (o,E,C,s,A,D)))/\yA W w'):=by
  rw[V];exact fun o E C s A D W hb=>arT o E C s A D n g W ((hb.cell (p:=⟨g,0,MH⟩) a5).trans hc)
 rw[<-V];obtain⟨I,P⟩:=yE (X6 (l.findIdx q) l.length);rw[<-P];have H:M6 _:=P;clear hv P V hc;go_enter Tryz.func180,Tryz.ntmps180;go_wp2
 go_loopw [8] (fun i wr=>∃k:Nat,i=yB k/\k<=l.length/\(∀t∈l.take k,q t=Nb)/\yA w wr) (fun i _=>l.length-(On i).toNat)
 case atStart=>exact⟨0,rfl,Nx _,by simp,MY _ _⟩
 case round =>
  obtain⟨k,rfl,hk,M,f⟩:=hrel
  by_cases hlt:k<l.length
  ·obtain⟨K,J,rfl,F,c1,c2,c3,c4,c5,c6⟩:=Y k hlt
   have e1:=(f.cell (p:=⟨K,J+k*6,MH⟩) F).trans c1;have e2:=(f.cell (p:=⟨K,J+k*6+1,MH⟩) F).trans c2;have e3:=(f.cell (p:=⟨K,J+k*6+2,MH⟩) F).trans c3;have e4:=(f.cell (p:=⟨K,J+k*6+3,MH⟩) F).trans c4;have e5:=(f.cell (p:=⟨K,J+k*6+4,MH⟩) F).trans c5;have e6:=(f.cell (p:=⟨K,J+k*6+5,MH⟩) F).trans c6;have G:M6 (_/\_):=⟨M,f⟩;have a7:(k:Int)<(l.length:Int):=by omega
   have U:l.take (k+1)=l.take k++[l[k]]:=M9 hlt;have Q:q l[k]=Nw->l.findIdx q=k:=fun h=>abZ hlt M h
   have O:∃x,x=l[k]:=⟨_,rfl⟩;obtain⟨⟨o,E,C,s,A,D⟩,O⟩:=O;rw[<-O]at e1 e2 e3 e4 e5 e6 U Q;have HX:M6 (_/\_):=⟨U,Q⟩;clear M f c1 c2 c3 c4 c5 c6 F Y U Q O;cases hd:q (o,E,C,s,A,D)
   ·go_wp2_with fail
    refine(HQ.out o E C s A D _ G.out.2).mono ?_;rw[hd];rintro r w2 ⟨rfl,N⟩;have Z:M6 _:=N;clear N;go_wp2
    go_roundw
    case rel =>
     refine⟨k+1,by simp,hlt,fun t m=>?_,G.out.2.trans (Z.out.mono G.out.2.size)⟩;rw[HX.out.1]at m;rcases QF.1 m with m|m
     ·exact G.out.1 t m
     ·simp at m
      rw[m];exact hd
    case measure=>simp[On];omega
   ·go_wp2_with fail
    refine(HQ.out o E C s A D _ G.out.2).mono ?_;rw[hd];rintro r w2 ⟨rfl,N⟩;have HE:M6 (I=(k:Int)):=by show I=_;rw[H.out,HX.out.2 hd];exact Nh hlt
    have Z:M6 _:=N;clear N;go_wp2;go_ret;exact⟨by rw[HE.out];rfl,G.out.2.trans (Z.out.mono G.out.2.size)⟩
  ·have HE:M6 (I = -1):=by
    show I=_;rw[H.out,acp fun t m=>M t (by rw[N1 (by omega)];exact m)];exact Nf (PC _)
   have HB:M6 _:=f;clear M f Y;go_wp2;go_ret;exact⟨by rw[HE.out];rfl,HB.out⟩
theorem aeb{w:MO}{base:Nat}{e:NU}{n:Nat}{xs:List M7}(h:w.ownsRow base e k (MG p n c) n xs):n<=c/\c<=9223372036854775807:=by
 rcases h.2 with⟨e,s⟩|⟨g,o,q,e,_,_,m,f,_⟩
 ·cases e;omega
 ·unfold NE at f;cases e;exact⟨m,f⟩
theorem ah8(base T:Nat)(p:Option Oc)(c:Nat)(q:Option Oc)(m:Nat)(L:List Lf)(R:List Rq)(id:Int)(w:MO)(h:WN base w T (MG p L.length c) (MG q R.length m) L R)(x1 x2 x3 x4 x5:Int)(b:Bool)
  (hx:(x1,x2,x3,x4,x5)=R[ZV R id]?.getD (0,0,0,0,0)) (hb:b=Nn (ZV R id<R.length)) :
  Ni MK 178 #[Na (MI ⟨T,0,MH⟩),yB id] w fun r w'=>r=MN (Nv #[ab2 x1 x2 x3 x4 x5,M3 b])/\yA w w':=by
 obtain⟨b6,b5⟩:=aeb h.reqs;have b7:=h.lt;obtain⟨A,D⟩:=yE ((w.alloc (MP #[yB id] 3)).alloc (XS 0 0 0 0 0));have G:yA w A:=by rw[D];exact((MY _ _).alloc (MV _) _).alloc (by simp) _
 have J:A.heap[w.heap.size]?=MI (MP #[yB id] 3 (0,0)):=by rw[D];exact Xy _ _ (M1 _ _)
 have K:A.heap[w.heap.size+1]?=MI (XS 0 0 0 0 0):=by rw[D];exact Yu _ _ _
 have o:=h.below G;obtain⟨i,I⟩:=yE (ZV R id);have F:M6 (∀W,yA A W->Ni MK 236 #[MG q R.length m,PB (PD 237) #[] #[Na (MI ⟨w.heap.size,0,MH⟩)]] W fun r w'=>r=MN (yB (X6 i R.length))/\yA W w'):=fun W hW=>by
  rw[I];exact ar3 _ R id w.heap.size W (aat.below o.at.2 hW) (Xu (WO J hW))
 rw[<-I]at hx hb;have H:M6 (_/\_/\_/\_):=⟨D,o,G,K⟩;obtain⟨c0,c1,_,_,_⟩:=Xa h.box;clear D o G J K h I
 by_cases hlti:i<R.length
 ·obtain rfl:b=true:=by rw[hb];exact Nq hlti
  have C:X6 i R.length=(i:Int):=Nh hlti;rw[C]at F;rw[MR hlti,OV]at hx;have b3:(i:Int)<(R.length:Int):=by omega
  have HX:M6 _:=hx;clear hb hx C;go_enter Tryz.func178,Tryz.ntmps178
  go_wp2_with fail
  rw[<-H.out.1];refine(F.out _ (MY _ _)).mono ?_;rintro r s ⟨rfl,f⟩;have o:=H.out.2.1.below f;obtain⟨c0,c1,_,_,a9⟩:=Xa o.box;obtain⟨d0,d1,d2,d3,d4,Y⟩:=YD (WO H.out.2.2.2 f);obtain⟨g,c',he,_,a8⟩:=o.reqs.form (by omega);cases he;have Q:=XP acX o.reqs rfl hlti (j:=0) (by omega);have U:=XP acX o.reqs rfl hlti (j:=1) (by omega);have N:=XP acX o.reqs rfl hlti (j:=2) (by omega);have O:=XP acX o.reqs rfl hlti (j:=3) (by omega);have M:=XP acX o.reqs rfl hlti (j:=4) (by omega);rw[<-HX.out]at Q U N O M;simp only[Od,N9,OH,Oe]at Q U N O M;have a5:s.frozen? ⟨w.heap.size+1,0,MH⟩=false:=by simp[Ng,WO H.out.2.2.2 f]
  have a7:s.frozen? ⟨w.heap.size+1,1,MH⟩=false:=by simp[Ng,WO H.out.2.2.2 f]
  have Z:s.frozen? ⟨w.heap.size+1,2,MH⟩=false:=by simp[Ng,WO H.out.2.2.2 f]
  have a6:s.frozen? ⟨w.heap.size+1,3,MH⟩=false:=by simp[Ng,WO H.out.2.2.2 f]
  have V:s.frozen? ⟨w.heap.size+1,4,MH⟩=false:=by simp[Ng,WO H.out.2.2.2 f]
  have E:M6 (_/\_):=⟨H.out.2.2.1.trans (f.mono H.out.2.2.1.size),WO H.out.2.2.2 f⟩;clear o f;go_wp2;exact Np (v:=Nv #[ab2 x1 x2 x3 x4 x5,M3 Nw]) (XT Tryz.results178 rfl rfl (Xp (P:=MK) (cs:=[yB x1,yB x2,yB x3,yB x4,yB x5]) (alT E.out.2) aAN rfl (by kernel_rfl))) rfl ⟨rfl,alO E.out.1 (Ps _)⟩
 ·obtain rfl:b=false:=by rw[hb];exact M0 hlti
  have C:X6 i R.length = -1:=Nf hlti;rw[C]at F;rw[Nz (by omega),Option.getD_none]at hx;cases hx;clear hb C;go_enter Tryz.func178,Tryz.ntmps178
  go_wp2_with fail
  rw[<-H.out.1];refine(F.out _ (MY _ _)).mono ?_;rintro r s ⟨rfl,f⟩;obtain⟨d0,d1,d2,d3,d4,Y⟩:=YD (WO H.out.2.2.2 f);have a5:s.frozen? ⟨w.heap.size+1,0,MH⟩=false:=by simp[Ng,WO H.out.2.2.2 f]
  have a7:s.frozen? ⟨w.heap.size+1,1,MH⟩=false:=by simp[Ng,WO H.out.2.2.2 f]
  have Z:s.frozen? ⟨w.heap.size+1,2,MH⟩=false:=by simp[Ng,WO H.out.2.2.2 f]
  have a6:s.frozen? ⟨w.heap.size+1,3,MH⟩=false:=by simp[Ng,WO H.out.2.2.2 f]
  have V:s.frozen? ⟨w.heap.size+1,4,MH⟩=false:=by simp[Ng,WO H.out.2.2.2 f]
  have E:M6 (_/\_):=⟨H.out.2.2.1.trans (f.mono H.out.2.2.1.size),WO H.out.2.2.2 f⟩;clear f;go_wp2;exact Np (v:=Nv #[ab2 0 0 0 0 0,M3 Nb]) (XT Tryz.results178 rfl rfl (Xp (P:=MK) (cs:=[yB 0,yB 0,yB 0,yB 0,yB 0]) (alT E.out.2) aAN rfl (by kernel_rfl))) rfl ⟨rfl,alO E.out.1 (Ps _)⟩
theorem aim(base T:Nat)(p:Option Oc)(c:Nat)(q:Option Oc)(m:Nat)(L:List Lf)(R:List Rq)(n:Int)(w:MO)(h:WN base w T (MG p L.length c) (MG q R.length m) L R)(i:Nat)(b:Bool)(hi:i=Xk L n)(hb:b=Ys L n) :
  Ni MK 286 #[Na (MI ⟨T,0,MH⟩),yB n] w fun r w'=>r=MN (Nv #[yB i,M3 b])/\yA w w':=by
 obtain⟨a5,Z⟩:=aeb h.lives;have Y:=h.lt;obtain⟨s,C⟩:=yE (w.alloc (MP #[yB n] 3));have F:yA w s:=by rw[C];exact WQ _
 have G:s.heap[w.heap.size]?=MI (MP #[yB n] 3 (0,0)):=by rw[C];exact M1 _ _
 have f:=h.below F;have D:M6 (∀W,yA s W->Ni MK 180 #[MG p L.length c,PB (PD 305) #[] #[Na (MI ⟨w.heap.size,0,MH⟩)]] W fun r w'=>r=MN (yB (X6 i L.length))/\yA W w'):=fun W hW=>by
  rw[hi];exact ar2 _ L n w.heap.size W (aat.below f.at.1 hW) (Xu (WO G hW))
 have H:M6 (_/\_/\_/\_):=⟨C,f,F,G⟩;obtain⟨c0,c1,_,_,_⟩:=Xa h.box;clear C f F G h
 by_cases hlti:i<L.length
 ·have A:X6 i L.length=(i:Int):=Nh hlti
  rw[A]at D;have V:(i:Int)<(L.length:Int):=by omega
  obtain⟨x,J⟩:=yE (L[i].1);have K:b=(x == n):=by
   rw[hb,J];subst hi;unfold Ys;rw[MR hlti]
  have E:M6 (_/\_):=⟨J,K⟩;clear hb J A K hi;go_enter Tryz.func286,Tryz.ntmps286
  go_wp2_with fail
  rw[<-H.out.1];refine(D.out _ (MY _ _)).mono ?_;rintro r Q ⟨rfl,o⟩;have f:=H.out.2.1.below o;obtain⟨c0,c1,_,_,O⟩:=Xa f.box;have d0:=Xu (WO H.out.2.2.2 o);obtain⟨g,c',P,_,U⟩:=f.lives.form (by omega);cases P;have N:=XP XN f.lives rfl hlti (j:=0) (by omega);simp only[Od,N9,OH,Oe]at N;rw[<-E.out.1]at N;have I:M6 _:=H.out.2.2.1.trans (o.mono H.out.2.2.1.size);clear f o;go_wp2
  go_region
  go_wp2
  go_ret2
  exact⟨by rw[E.out.2];rfl,I.out.drew⟩
 ·have A:X6 i L.length = -1:=Nf hlti
  rw[A]at D;have M:i=L.length:=by have:=agk L n;omega
  obtain rfl:b=false:=by
   rw[hb];unfold Ys;rw[<-hi,Nz (by omega)]
  have E:M6 _:=M;clear hb A hi M;go_enter Tryz.func286,Tryz.ntmps286
  go_wp2_with fail
  rw[<-H.out.1];refine(D.out _ (MY _ _)).mono ?_;rintro r Q ⟨rfl,o⟩;have f:=H.out.2.1.below o;obtain⟨c0,c1,_,_,O⟩:=Xa f.box;have I:M6 _:=H.out.2.2.1.trans (o.mono H.out.2.2.1.size);clear f o;go_wp2
  go_ret2
  exact⟨by rw[E.out];rfl,I.out⟩
theorem alZ(base T:Nat)(p:Option Oc)(c:Nat)(q:Option Oc)(m:Nat)(L:List Lf)(R:List Rq)(n:Int)(w:MO)(h:WN base w T (MG p L.length c) (MG q R.length m) L R)(hh:Ys L n=Nb) :
  Ni MK 244 #[Na (MI ⟨T,0,MH⟩),yB n] w fun r w'=>r=MN (Na MH)/\yA w w':=by
 have s:M6 _:=aim base T p c q m L R n w h (Xk L n) Nb rfl hh.symm;generalize Xk L n=i at *;clear h hh;go_enter VT,VK
 go_wp2_with fail
 refine Nd s.out ?_;rintro r A ⟨rfl,f⟩;have o:M6 _:=f;clear f;go_wp2;go_ret;exact⟨rfl,o.out⟩
theorem al0(base T g:Nat)(c:Nat)(q:Option Oc)(m:Nat)(L:List Lf)(R:List Rq)(n:Int)(w:MO)(h:WN base w T (MG (MI ⟨g,0,MH⟩) L.length c) (MG q R.length m) L R)(hh:Ys L n=Nw)(i:Nat)(hi:i=Xk L n) :
  Ni MK 244 #[Na (MI ⟨T,0,MH⟩),yB n] w fun r w'=>r=MN (Na (MI ⟨g,i*6,MH⟩))/\yA w w':=by
 obtain⟨F,E⟩:=aeb h.lives;have o:M6 (_/\_):=⟨aim base T _ c q m L R n w h i Nw hi hh.symm,h⟩;have A:i<L.length:=by rw[hi];exact aa2 hh
 have D:(i:Int)<(L.length:Int):=by omega
 clear h hh hi;go_enter VT,VK
 go_wp2_with fail
 refine Nd o.out.1 ?_;rintro r G ⟨rfl,f⟩;obtain⟨c0,c1,_,_,C⟩:=Xa (o.out.2.below f).box;have s:M6 _:=f;clear f;go_wp2;go_ret;exact⟨by simp,s.out⟩
structure Xn(S:Nat->Prop)(w w':MO):Prop where
 os:w'.os=w.os
 tape:w'.tape=w.tape
 output:w'.output=w.output
 size:w.heap.size<=w'.heap.size
 block:∀g,g<w.heap.size->¬S g->w'.heap[g]?=w.heap[g]?
section
variable {S:Nat->Prop}{w w' w'':MO}
theorem ab1(h:yA w w'):Xn S w w':=⟨h.os,h.tape,h.output,h.size,fun g hg _=>h.block g hg⟩
theorem Xn.GC(h:Xn S w w'){a:Oc}(ha:S a.block)(v:M7):Xn S w (w'.setCell a v):=
 ⟨h.os,h.tape,h.output,by simpa using h.size,fun g hg hs=>(MU _ _ _ _ (fun e=>hs (by rw[e];exact ha))).trans (h.block g hg hs)⟩
theorem Xn.GW(h:Xn S w w')(o:Obj):Xn S w (w'.alloc o):=
 ⟨h.os,h.tape,h.output,by simpa using Nat.le_succ_of_le h.size,fun g hg hs=>(Ov _ _ _ (M8 hg h.size)).trans (h.block g hg hs)⟩
theorem Xn.GY(h:Xn S w w'):Xn S w w'.drew:=⟨h.os,h.tape,h.output,h.size,h.block⟩
theorem Xn.IZ{row:Option Nat}(h:Xn S w w')(hg:w'.grownBy w'' row)(hr:∀g,row=MI g->g<w.heap.size->S g):Xn S w w'' :=
 ⟨hg.os.trans h.os,hg.tape.trans h.tape,hg.output.trans h.output,Nm h.size hg.size,fun g hlt hs=>(hg.block g (M8 hlt h.size) (fun e=>hs (hr g e.symm hlt))).trans (h.block g hlt hs)⟩
theorem Xn.below(h:Xn S w w')(hB:B<=w.heap.size)(hS:∀g,S g->B<=g):MQ B w w' :=
 ⟨h.os,h.tape,h.output,h.size,fun g hg=>h.block g (M8 hg hB) (fun hs=>by have:=hS g hs;omega)⟩
theorem Xn.box(h:Xn S w w'){o:Obj}(hg:w.heap[g]?=MI o)(hs:¬S g):w'.heap[g]?=MI o:=(h.block g (ZAa.1 hg).1 hs).trans hg
end
def aaN(T:Nat)(v:M7)(g:Nat):Prop:=g=T\/v.ownBlock=MI g
theorem WN.Gd{base:Nat}{W:MO}{T n:Nat}{vb:M7}{L:List Lf}{R:List Rq}(h:WN base W T (MG (MI ⟨g,0,MH⟩) n c) vb L R)(hi:i<L.length)(hj:j<6)(a:Int)(y:Lf)(hy:Xg y=(Xg L[i]).set j a):
  WN base (W.setCell ⟨g,i*6+j,MH⟩ (yB a)) T (MG (MI ⟨g,0,MH⟩) n c) vb (L.set i y) R:=by
 have o:g≠T:=fun e=>h.offL (by rw[e];rfl)
 have m:n=L.length:=by
  rcases h.lives.2 with⟨e,_⟩|⟨A,q,s,e,_⟩
  ·cases e
  ·injection e
 refine⟨(MU _ _ _ _ (fun e=>o e.symm)).trans h.box,?_,W8 h.reqs (fun b hb=>MU _ _ _ _ (fun e=>h.apart g rfl (by rw[hb,e]))),h.offL,h.offR,h.apart,h.hT⟩;rw[NA,<-m];have f:=h.lives;rw[<-m]at f;exact asq XN f hi hj a y hy
theorem WN.GY{base:Nat}{W:MO}{T:Nat}{va vb:M7}{L:List Lf}{R:List Rq}(h:WN base W T va vb L R):WN base W.drew T va vb L R:=⟨h.box,h.lives,h.reqs,h.offL,h.offR,h.apart,h.hT⟩
theorem agn{base:Nat}{W:MO}{T n:Nat}{vb:M7}{L:List Lf}{R:List Rq}{x1 s x3 x4 x5 x6:Int}(h:WN base W T (MG (MI ⟨g,0,MH⟩) n c) vb (L.set i (x1,s,x3,x4,x5,x6)) R)(hi:i<L.length)(u id:Int):
  WN base ((W.setCell ⟨g,i*6+4,MH⟩ (yB u)).setCell ⟨g,i*6+5,MH⟩ (yB id)) T (MG (MI ⟨g,0,MH⟩) n c) vb (L.set i (x1,s,x3,x4,u,id)) R /\
  WN base ((W.setCell ⟨g,i*6+5,MH⟩ (yB id)).setCell ⟨g,i*6+4,MH⟩ (yB u)) T (MG (MI ⟨g,0,MH⟩) n c) vb (L.set i (x1,s,x3,x4,u,id)) R:=by
 constructor
 ·have f:=h.Gd (i:=i) (by simpa using hi) (j:=4) (by omega) u (x1,s,x3,x4,u,x6) (by simp)
  have m:=f.Gd (i:=i) (by simpa using hi) (j:=5) (by omega) id (x1,s,x3,x4,u,id) (by simp)
  simpa using m
 ·have f:=h.Gd (i:=i) (by simpa using hi) (j:=5) (by omega) id (x1,s,x3,x4,x5,id) (by simp)
  have m:=f.Gd (i:=i) (by simpa using hi) (j:=4) (by omega) u (x1,s,x3,x4,u,id) (by simp)
  simpa using m
theorem ass(base T:Nat)(p:Option Oc)(c:Nat)(q:Option Oc)(m:Nat)(L:List Lf)(R:List Rq)(r1 r2 r3 r4 r5 u:Int)(w:MO)(h:WN base w T (MG p L.length c) (MG q R.length m) L R)(hok:ZD L)(L':List Lf)(e:Int)(hout:ZH L r3 r1 u=(L',e)) :
  Ni MK 239 #[Na (MI ⟨T,0,MH⟩),ab2 r1 r2 r3 r4 r5,yB u] w fun r w'=>r=MN (yB e)/\WN base w' T (MG p L.length c) (MG q R.length m) L' R/\Xn (aaN T (MG p L.length c)) w w':=by
 obtain⟨Q,a6⟩:=yE (w.alloc (XS r1 r2 r3 r4 r5));have a8:yA w Q:=by rw[a6];exact WQ _
 have a9:Q.heap[w.heap.size]?=MI (XS r1 r2 r3 r4 r5):=by rw[a6];exact M1 _ _
 have f:=h.below a8;have H:M6 (_/\_/\_/\_):=⟨a6,f,a8,a9⟩;clear a6 a8 a9 f;cases hh:Ys L r3
 ·have hE:L'=L/\e=8:=by
   unfold ZH at hout;rw[hh]at hout;injection hout with h1 h2;exact⟨h1.symm,h2.symm⟩
  obtain⟨rfl,rfl⟩:=hE;have HL:M6 (∀W,yA Q W->_):=fun W hW=>alZ base T p c q m L' R r3 W (H.out.2.1.below hW) hh
  clear h hout hh hok;go_enter azP,azF
  go_wp2_with fail
  rw[<-H.out.1];refine(HL.out _ (MY _ _)).mono ?_;rintro r w1 ⟨rfl,s⟩;have A:M6 (_/\_):=⟨H.out.2.1.below s,ab1 (S:=aaN T (MG p L'.length c)) (H.out.2.2.1.trans (s.mono H.out.2.2.1.size))⟩;clear s;go_wp2;go_ret;exact⟨rfl,A.out.1,A.out.2⟩
 ·obtain⟨i,hi⟩:=yE (Xk L r3)
  have o:i<L.length:=by rw[hi];exact aa2 hh
  obtain⟨g,c',he,_,b5⟩:=h.lives.form (by omega);cases he;obtain⟨⟨M,Y,P,N,x5,x6⟩,hx⟩:∃x,x=L[i]:=⟨_,rfl⟩;have b3:Y=1\/Y=2\/Y=3\/Y=4:=by
   have:=(hok.1 _ (Nk o)).2;rw[<-hx]at this;rcases this with h|h|h|h
   ·exact Nt h.1
   ·exact NF (Nt h.1)
   ·exact NF (NF (Nt h))
   ·exact NF (NF (NF h))
  have J:(if Y=4 then(L,(8:Int))else if Y=3 then(L,12)else(L.set i (M,if Y=2 then 3 else 4,P,N,u,r1),0))=(L',e):=by
   rw[<-hout];unfold ZH;rw[hh,Nh rfl,<-hi,MR o,OV,<-hx];rfl
  have HL:M6 (∀W,yA Q W->_):=fun W hW=>al0 base T g c q m L R r3 W (H.out.2.1.below hW) hh i hi
  have Z:M6 (_/\_):=⟨hx,o⟩;clear h hout hh hok hi hx;rcases b3 with rfl|rfl|rfl|rfl
  ·obtain⟨rfl,rfl⟩:L'=L.set i (M,4,P,N,u,r1)/\e=0:=by
    rw[Nf (by decide),Nf (by decide)]at J;injection J with h1 h2;exact⟨h1.symm,h2.symm⟩
   clear J;go_enter azP,azF
   go_wp2_with fail
   rw[<-H.out.1];refine(HL.out _ (MY _ _)).mono ?_;rintro r w1 ⟨rfl,s⟩;have f:=H.out.2.1.below s;have I:=XP XN f.lives rfl o (j:=1) (by omega);have E:=XP XN f.lives rfl o (j:=4) (by omega);have G:=XP XN f.lives rfl o (j:=5) (by omega);rw[<-Z.out.1]at I E G;simp only[Od,N9,OH,Oe]at I E G;have f1:=f.lives.frozenAt (i*6+1);have f4:=f.lives.frozenAt (i*6+4);have f5:=f.lives.frozenAt (i*6+5);obtain⟨V,d1,d2,d3,d4,a7⟩:=YD (WO H.out.2.2.2 s);have a5:g≠w.heap.size:=by omega
   have A:M6 (_/\_):=⟨f,ab1 (S:=aaN T (MG (MI ⟨g,0,MH⟩) L.length c)) (H.out.2.2.1.trans (s.mono H.out.2.2.1.size))⟩;clear s f;obtain⟨F,K⟩:=yE (w1.setCell ⟨g,i*6+1,MH⟩ (yB 4));have U:WN base F T (MG (MI ⟨g,0,MH⟩) L.length c) (MG q R.length m) (L.set i (M,4,P,N,x5,x6)) R:=by rw[K];exact A.out.1.Gd o (j:=1) (by omega) 4 (M,4,P,N,x5,x6) (by rw[<-Z.out.1];rfl)
   have k0:F.cell? ⟨w.heap.size,0,MH⟩=MI (yB r1):=by rw[K];exact(NG (MU _ _ _ _ (fun e=>a5 e.symm))).trans V
   have D:(L.set i (M,4,P,N,x5,x6)).length=L.length:=NA;have C:=U.lives;rw[D]at C;have k4:=XP XN C D.symm (i:=i) (by rw[D];exact o) (j:=4) (by omega);have k5:=XP XN C D.symm (i:=i) (by rw[D];exact o) (j:=5) (by omega);simp only[NW,Od,N9,OH,Oe]at k4 k5;have l4:F.frozen? ⟨g,i*6+4,MH⟩=false:=C.frozenAt (i*6+4);have l5:F.frozen? ⟨g,i*6+5,MH⟩=false:=C.frozenAt (i*6+5);have O:M6 (_/\_):=⟨U,K ▸ A.out.2.GC (a:=⟨g,i*6+1,MH⟩) (NF rfl) (yB 4)⟩;clear U D C;go_wp2;rw[<-K];clear K I E G f1 f4 f5 V d1 d2 d3 d4
   go_region
   all_goals
    go_wp2;go_ret;refine⟨rfl,?_,?_⟩
    ·first
     |with_reducible exact(agn O.out.1 o u r1).1.GY
     |with_reducible exact(agn O.out.1 o u r1).2.drew
    ·first
     |exact((O.out.2.GC (a:=⟨g,i*6+4,MH⟩) (NF rfl) _).GC (a:=⟨g,i*6+5,MH⟩) (NF rfl) _).GY
     |exact((O.out.2.setCell (a:=⟨g,i*6+5,none⟩) (Or.inr rfl) _).setCell (a:=⟨g,i*6+4,none⟩) (Or.inr rfl) _).drew
  ·obtain⟨rfl,rfl⟩:L'=L.set i (M,3,P,N,u,r1)/\e=0:=by
    rw[Nf (by decide),Nf (by decide)]at J;injection J with h1 h2;exact⟨h1.symm,h2.symm⟩
   clear J;go_enter azP,azF
   go_wp2_with fail
   rw[<-H.out.1];refine(HL.out _ (MY _ _)).mono ?_;rintro r w1 ⟨rfl,s⟩;have f:=H.out.2.1.below s;have I:=XP XN f.lives rfl o (j:=1) (by omega);have E:=XP XN f.lives rfl o (j:=4) (by omega);have G:=XP XN f.lives rfl o (j:=5) (by omega);rw[<-Z.out.1]at I E G;simp only[Od,N9,OH,Oe]at I E G;have f1:=f.lives.frozenAt (i*6+1);have f4:=f.lives.frozenAt (i*6+4);have f5:=f.lives.frozenAt (i*6+5);obtain⟨V,d1,d2,d3,d4,a7⟩:=YD (WO H.out.2.2.2 s);have a5:g≠w.heap.size:=by omega
   have A:M6 (_/\_):=⟨f,ab1 (S:=aaN T (MG (MI ⟨g,0,MH⟩) L.length c)) (H.out.2.2.1.trans (s.mono H.out.2.2.1.size))⟩;clear s f;obtain⟨F,K⟩:=yE (w1.setCell ⟨g,i*6+1,MH⟩ (yB 3));have U:WN base F T (MG (MI ⟨g,0,MH⟩) L.length c) (MG q R.length m) (L.set i (M,3,P,N,x5,x6)) R:=by rw[K];exact A.out.1.Gd o (j:=1) (by omega) 3 (M,3,P,N,x5,x6) (by rw[<-Z.out.1];rfl)
   have k0:F.cell? ⟨w.heap.size,0,MH⟩=MI (yB r1):=by rw[K];exact(NG (MU _ _ _ _ (fun e=>a5 e.symm))).trans V
   have D:(L.set i (M,3,P,N,x5,x6)).length=L.length:=NA;have C:=U.lives;rw[D]at C;have k4:=XP XN C D.symm (i:=i) (by rw[D];exact o) (j:=4) (by omega);have k5:=XP XN C D.symm (i:=i) (by rw[D];exact o) (j:=5) (by omega);simp only[NW,Od,N9,OH,Oe]at k4 k5;have l4:F.frozen? ⟨g,i*6+4,MH⟩=false:=C.frozenAt (i*6+4);have l5:F.frozen? ⟨g,i*6+5,MH⟩=false:=C.frozenAt (i*6+5);have O:M6 (_/\_):=⟨U,K ▸ A.out.2.GC (a:=⟨g,i*6+1,MH⟩) (NF rfl) (yB 3)⟩;clear U D C;go_wp2;rw[<-K];clear K I E G f1 f4 f5 V d1 d2 d3 d4
   go_region
   all_goals
    go_wp2;go_ret;refine⟨rfl,?_,?_⟩
    ·first
     |with_reducible exact(agn O.out.1 o u r1).1.GY
     |with_reducible exact(agn O.out.1 o u r1).2.drew
    ·first
     |exact((O.out.2.GC (a:=⟨g,i*6+4,MH⟩) (NF rfl) _).GC (a:=⟨g,i*6+5,MH⟩) (NF rfl) _).GY
     |exact((O.out.2.setCell (a:=⟨g,i*6+5,none⟩) (Or.inr rfl) _).setCell (a:=⟨g,i*6+4,none⟩) (Or.inr rfl) _).drew
  ·obtain⟨rfl,rfl⟩:L'=L/\e=12:=by
    rw[Nf (by decide),Nh rfl]at J;injection J with h1 h2;exact⟨h1.symm,h2.symm⟩
   clear J;go_enter azP,azF
   go_wp2_with fail
   rw[<-H.out.1];refine(HL.out _ (MY _ _)).mono ?_;rintro r w1 ⟨rfl,s⟩;have f:=H.out.2.1.below s;have I:=XP XN f.lives rfl o (j:=1) (by omega);have E:=XP XN f.lives rfl o (j:=4) (by omega);have G:=XP XN f.lives rfl o (j:=5) (by omega);rw[<-Z.out.1]at I E G;simp only[Od,N9,OH,Oe]at I E G;have f1:=f.lives.frozenAt (i*6+1);have f4:=f.lives.frozenAt (i*6+4);have f5:=f.lives.frozenAt (i*6+5);obtain⟨V,d1,d2,d3,d4,a7⟩:=YD (WO H.out.2.2.2 s);have a5:g≠w.heap.size:=by omega
   have A:M6 (_/\_):=⟨f,ab1 (S:=aaN T (MG (MI ⟨g,0,MH⟩) L'.length c)) (H.out.2.2.1.trans (s.mono H.out.2.2.1.size))⟩;clear s f;go_wp2;go_ret;exact⟨rfl,A.out.1,A.out.2⟩
  ·obtain⟨rfl,rfl⟩:L'=L/\e=8:=by
    rw[Nh rfl]at J;injection J with h1 h2;exact⟨h1.symm,h2.symm⟩
   clear J;go_enter azP,azF
   go_wp2_with fail
   rw[<-H.out.1];refine(HL.out _ (MY _ _)).mono ?_;rintro r w1 ⟨rfl,s⟩;have f:=H.out.2.1.below s;have I:=XP XN f.lives rfl o (j:=1) (by omega);have E:=XP XN f.lives rfl o (j:=4) (by omega);have G:=XP XN f.lives rfl o (j:=5) (by omega);rw[<-Z.out.1]at I E G;simp only[Od,N9,OH,Oe]at I E G;have f1:=f.lives.frozenAt (i*6+1);have f4:=f.lives.frozenAt (i*6+4);have f5:=f.lives.frozenAt (i*6+5);obtain⟨V,d1,d2,d3,d4,a7⟩:=YD (WO H.out.2.2.2 s);have a5:g≠w.heap.size:=by omega
   have A:M6 (_/\_):=⟨f,ab1 (S:=aaN T (MG (MI ⟨g,0,MH⟩) L'.length c)) (H.out.2.2.1.trans (s.mono H.out.2.2.1.size))⟩;clear s f;go_wp2;go_ret;exact⟨rfl,A.out.1,A.out.2⟩
abbrev amc(W:MO)(g o:Nat)(a b c d e f:M7):World:=(((((W.setCell ⟨g,o,MH⟩ a).setCell ⟨g,o+1,MH⟩ b).setCell ⟨g,o+2,MH⟩ c).setCell ⟨g,o+3,MH⟩ d).setCell ⟨g,o+4,MH⟩ e).setCell ⟨g,o+5,MH⟩ f
theorem WN.IG{base:Nat}{W:MO}{T n:Nat}{vb:M7}{L:List Lf}{R:List Rq}(h:WN base W T (MG (MI ⟨g,0,MH⟩) n c) vb L R)(hi:i<L.length)(y1 y2 y3 y4 y5 y6:Int):
  WN base (amc W g (i*6) (yB y1) (yB y2) (yB y3) (yB y4) (yB y5) (yB y6)) T (MG (MI ⟨g,0,MH⟩) n c) vb (L.set i (y1,y2,y3,y4,y5,y6)) R:=by
 obtain⟨A,s,q,o,m,f,D⟩:∃A s q o m f,L[i]=(A,s,q,o,m,f):=⟨_,_,_,_,_,_,rfl⟩;have H:=h.Gd hi (j:=0) (by omega) y1 (y1,s,q,o,m,f) (by rw[D];rfl);have E:=H.Gd (i:=i) (by simpa using hi) (j:=1) (by omega) y2 (y1,y2,q,o,m,f) (by simp);have I:=E.Gd (i:=i) (by simpa using hi) (j:=2) (by omega) y3 (y1,y2,y3,o,m,f) (by simp);have C:=I.Gd (i:=i) (by simpa using hi) (j:=3) (by omega) y4 (y1,y2,y3,y4,m,f) (by simp);have F:=C.Gd (i:=i) (by simpa using hi) (j:=4) (by omega) y5 (y1,y2,y3,y4,y5,f) (by simp);have G:=F.Gd (i:=i) (by simpa using hi) (j:=5) (by omega) y6 (y1,y2,y3,y4,y5,y6) (by simp)
 simpa only[List.set_set,Oe]using G
theorem Xn.Gd{S:Nat->Prop}{w w':MO}(h:Xn S w w'){o:Nat}(hg:g<w.heap.size->S g)(v:M7):Xn S w (w'.setCell ⟨g,o,MH⟩ v):=
 ⟨h.os,h.tape,h.output,by simpa using h.size,fun b hb hs=>(MU _ _ _ _ (fun e=>hs (by rw[e];exact hg (by rw[e]at hb;exact hb)))).trans (h.block b hb hs)⟩
theorem Xn.IL{S:Nat->Prop}{w W:MO}(h:Xn S w W){o:Nat}(hg:g<w.heap.size->S g)(a b c d e f:M7):Xn S w (amc W g o a b c d e f):=
 (((((h.Gd hg _).Gd hg _).Gd hg _).Gd hg _).Gd hg _).Gd hg _
theorem WN.GW{base:Nat}{W:MO}{T:Nat}{va vb:M7}{L:List Lf}{R:List Rq}(h:WN base W T va vb L R)(o:Obj):WN base (W.alloc o) T va vb L R:=h.below (WQ _)
theorem ar4{L:List Lf}{z:Lf}(hi:i<=L.length):(Xi L z i).set i y=Xi L y i:=by
 unfold Xi;rw[Pw _ _ (by rw[NH];omega)];simp[NH,P1 hi]
theorem ab0{L:List Lf}(hi:i<=L.length):(Xi L y i).length=L.length+1:=by
 unfold Xi;simp;omega
theorem ar9(base T:Nat)(p:Option Oc)(c:Nat)(q:Option Oc)(m:Nat)(L:List Lf)(R:List Rq)(r1 r2 r3 r4 r5:Int)(w:MO)(hbase:base<=w.heap.size)(h:WN base w T (MG p L.length c) (MG q R.length m) L R)(hlen:L.length<=900)(L':List Lf)(e:Int)(hout:Zu L r3 r4=(L',e)) :
  Ni MK 238 #[Na (MI ⟨T,0,MH⟩),ab2 r1 r2 r3 r4 r5] w fun r w'=>r=MN (yB e)/\(∃p' c',WN base w' T (MG p' L'.length c') (MG q R.length m) L' R/\∀b,(MG p' L'.length c').ownBlock=MI b->(MG p L.length c).ownBlock=MI b\/w.heap.size<=b)/\Xn (aaN T (MG p L.length c)) w w':=by
 obtain⟨P,a9⟩:=yE (w.alloc (XS r1 r2 r3 r4 r5));have b7:yA w P:=by rw[a9];exact WQ _
 have b8:P.heap[w.heap.size]?=MI (XS r1 r2 r3 r4 r5):=by rw[a9];exact M1 _ _
 have f:=h.below b7;have i5:=h.lt;have H:M6 (_/\_/\_/\_):=⟨a9,f,b7,b8⟩;obtain⟨a0,a1,a2,a3,a4,Z⟩:=YD b8;clear a9 b7 b8 f;cases h1:Nn (0<=r3/\r3<=11)
 case false =>
  obtain⟨rfl,rfl⟩:L'=L/\e=2:=by
   unfold Zu at hout;rw[Nh (Nt (Nc h1))]at hout;injection hout with h1 h2;exact⟨h1.symm,h2.symm⟩
  clear h hout;go_enter axU,axT
  go_wp2_with fail
  rw[<-H.out.1];refine(abB _ _).mono ?_;rw[h1];rintro r A ⟨rfl,rfl⟩;go_wp2;go_ret;exact⟨rfl,⟨_,_,H.out.2.1,fun b o=>Nt o⟩,ab1 H.out.2.2.1⟩
 cases h2:Nn (1<=r4/\r4<=8)
 case false =>
  obtain⟨rfl,rfl⟩:L'=L/\e=2:=by
   unfold Zu at hout;rw[Nh (NF (Nc h2))]at hout;injection hout with h1 h2;exact⟨h1.symm,h2.symm⟩
  clear h hout;go_enter axU,axT
  go_wp2_with fail
  rw[<-H.out.1];refine(abB _ _).mono ?_;rw[h1];rintro r A ⟨rfl,rfl⟩
  go_wp2_with fail
  refine(acq _ _).mono ?_;rw[h2];rintro r A ⟨rfl,rfl⟩;go_wp2;go_ret;exact⟨rfl,⟨_,_,H.out.2.1,fun b o=>Nt o⟩,ab1 H.out.2.2.1⟩
 have G:(if Ys L r3=Nw then(if(L[Xk L r3]?.getD (0,0,0,0,0,0)).2.1=4 then(L.set (Xk L r3) (r3,1,r4,0,0,0),(0:Int))else(L,7))else(Xi L (r3,1,r4,0,0,0) (Xk L r3),0))=(L',e):=by
  rw[<-hout];unfold Zu;rw[Nf (c:=¬(0<=r3/\r3<=11)\/¬(1<=r4/\r4<=8)) (by rintro(h|h);exact h (M2 h1);exact h (M2 h2))]
 clear hout;obtain⟨i,N⟩:=yE (Xk L r3);have F:i<=L.length:=by rw[N];exact agk L r3
 have g0:=(aeb h.lives);obtain⟨j3,i8⟩:=g0;have a6:∀b,b=Ys L r3->M6 (∀W,yA P W->Ni MK 286 #[Na (MI ⟨T,0,MH⟩),yB r3] W fun r w'=>r=MN (Nv #[yB i,M3 b])/\yA W w'):=fun b o W hW=>aim base T p c q m L R r3 W (H.out.2.1.below hW) i b N o
 cases hh:Ys L r3
 case true =>
  have HP:=a6 Nw hh.symm;have J:i<L.length:=by rw[N];exact aa2 hh
  have g5:(i:Int)<(L.length:Int):=by omega
  obtain⟨g,c',he,_,h9⟩:=h.lives.form (by omega);cases he;obtain⟨⟨x1,x2,x3,x4,x5,x6⟩,U⟩:∃x,x=L[i]:=⟨_,rfl⟩;rw[hh,Nh rfl,<-N,MR J,OV,<-U]at G;have HX:M6 _:=U;have i6:T≠g:=fun e=>h.offL (by rw[e];rfl)
  clear h a6 hh N U
  by_cases h4:x2=4
  ·subst h4
   obtain⟨rfl,rfl⟩:L'=L.set i (r3,1,r4,0,0,0)/\e=0:=by
    rw[Nh rfl]at G;injection G with h1 h2;exact⟨h1.symm,h2.symm⟩
   clear G;go_enter axU,axT
   go_wp2_with fail
   rw[<-H.out.1];refine(abB _ _).mono ?_;rw[h1];rintro r A ⟨rfl,rfl⟩
   go_wp2_with fail
   refine(acq _ _).mono ?_;rw[h2];rintro r A ⟨rfl,rfl⟩
   go_wp2_with fail
   refine(HP.out _ (MY _ _)).mono ?_;rintro r A ⟨rfl,D⟩;have f:=H.out.2.1.below D;obtain⟨b0,b1,_,_,c7⟩:=Xa f.box;clear a0 a1 a2 a3 a4 Z;obtain⟨a0,a1,a2,a3,a4,Z⟩:=YD (WO H.out.2.2.2 D);have e0:=XP XN f.lives rfl J (j:=0) (by omega);have M:=XP XN f.lives rfl J (j:=1) (by omega);have I:=XP XN f.lives rfl J (j:=2) (by omega);have e3:=XP XN f.lives rfl J (j:=3) (by omega);have e4:=XP XN f.lives rfl J (j:=4) (by omega);have e5:=XP XN f.lives rfl J (j:=5) (by omega);rw[<-HX.out]at e0 M I e3 e4 e5;simp only[Od,N9,OH,Oe]at e0 M I e3 e4 e5;have f0:=f.lives.frozenAt (i*6);have f1:=f.lives.frozenAt (i*6+1);have f2:=f.lives.frozenAt (i*6+2);have f3:=f.lives.frozenAt (i*6+3);have f4:=f.lives.frozenAt (i*6+4);have f5:=f.lives.frozenAt (i*6+5);have i7:w.heap.size≠g:=by omega
   have j0:g<A.heap.size:=(f.lives.lt g rfl).2;have E:M6 (_/\_):=⟨f,ab1 (S:=aaN T (MG (MI ⟨g,0,MH⟩) L.length c)) (H.out.2.2.1.trans (D.mono H.out.2.2.1.size))⟩;clear D f
   go_upto_region 8 with fail
   go_region_with (first|(go_at_call 288;refine(aie _ _ _).mono ?_;rintro r w5 ⟨rfl,rfl⟩))
   all_goals
    go_wp2;go_ret;refine⟨rfl,⟨MI ⟨g,0,MH⟩,c,?_,fun b o=>Nt o⟩,?_⟩
    ·rw[NA]
     exact((E.out.1.IG J r3 1 r4 0 0 0).GW _).GY
    ·exact((E.out.2.IL (g:=g) (fun _=>NF rfl) _ _ _ _ _ _).GW _).GY
  ·obtain⟨rfl,rfl⟩:L'=L/\e=7:=by
    rw[Nf h4]at G;injection G with h1 h2;exact⟨h1.symm,h2.symm⟩
   have i9:(x2 != 4)=true:=by simpa using h4
   clear G;go_enter axU,axT
   go_wp2_with fail
   rw[<-H.out.1];refine(abB _ _).mono ?_;rw[h1];rintro r A ⟨rfl,rfl⟩
   go_wp2_with fail
   refine(acq _ _).mono ?_;rw[h2];rintro r A ⟨rfl,rfl⟩
   go_wp2_with fail
   refine(HP.out _ (MY _ _)).mono ?_;rintro r A ⟨rfl,D⟩;have f:=H.out.2.1.below D;obtain⟨b0,b1,_,_,c7⟩:=Xa f.box;have M:=XP XN f.lives rfl J (j:=1) (by omega);rw[<-HX.out]at M;simp only[Od,N9,OH,Oe]at M;have E:M6 (_/\_):=⟨f,ab1 (S:=aaN T (MG (MI ⟨g,0,MH⟩) L'.length c)) (H.out.2.2.1.trans (D.mono H.out.2.2.1.size))⟩;clear D f;go_wp2;go_ret;exact⟨rfl,⟨_,_,E.out.1,fun b o=>Nt o⟩,E.out.2⟩
 case false =>
  have HP:=a6 Nb hh.symm;obtain⟨rfl,rfl⟩:L'=Xi L (r3,1,r4,0,0,0) i/\e=0:=by
   rw[hh,Nf (by decide),<-N]at G;injection G with h1 h2;exact⟨h1.symm,h2.symm⟩
  have c8:∀g,(MG p L.length c).ownBlock=MI g->g<w.heap.size:=fun g e=>(h.lives.lt g e).2
  have e8:M6 _:=c8;clear h a6 hh N G c8;go_enter axU,axT
  go_wp2_with fail
  rw[<-H.out.1];refine(abB _ _).mono ?_;rw[h1];rintro r A ⟨rfl,rfl⟩
  go_wp2_with fail
  refine(acq _ _).mono ?_;rw[h2];rintro r A ⟨rfl,rfl⟩
  go_wp2_with fail
  refine(HP.out _ (MY _ _)).mono ?_;rintro r A ⟨rfl,D⟩;have f:=H.out.2.1.below D;obtain⟨b0,b1,_,_,c7⟩:=Xa f.box;have h8:w.heap.size<A.heap.size:=M8 Z D.size;clear a0 a1 a2 a3 a4 Z;have b3:=H.out.2.2.1.trans (D.mono H.out.2.2.1.size);obtain⟨w2,a7⟩:=yE (A.alloc (aaP 0 0 0 0 0 0));have Y:yA A w2:=by rw[a7];exact WQ _
  have f6:w2.heap[A.heap.size]?=MI (aaP 0 0 0 0 0 0):=by rw[a7];exact M1 _ _
  have s:=f.below Y;have b9:=WO (WO H.out.2.2.2 D) Y;have d6:=ar5 base (MG p L.length c) L (0,0,0,0,0,0) #[yB 0,yB 0,yB 0,yB 0,yB 0,yB 0] rfl i A.heap.size w2 s.lives (Nm hbase (Nm b3.size Y.size)) F (fun e=>by have:=(f.lives.lt _ e).2;omega) f6 (by omega);have E:M6 (_/\_/\_/\_):=⟨s,ab1 (S:=aaN T (MG p L.length c)) (b3.trans (Y.mono b3.size)),b9,d6⟩;clear D f Y f6 s b9 d6 b3
  go_wp2_with fail
  rw[<-a7];refine E.out.2.2.2.mono ?_;rintro r w3 ⟨g,b6,rfl,e7,a5,O⟩;have s:=E.out.1;have e9:T≠g:=by
   rcases O with e|e
   ·exact fun I=>s.offL (by rw[e,I])
   ·have:=s.lt;omega
  have j2:w.heap.size≠g:=by
   rcases O with e|e
   ·have:=e8.out g e;omega
   ·have:=(ZAa.1 E.out.2.2.1).1;omega
  have b5:w3.heap[T]?=MI (MP #[MG p L.length c,MG q R.length m] 307 (0,0)):=(a5.block T s.lt (fun e=>s.offL e.symm)).trans s.box;have c9:w3.heap[w.heap.size]?=MI (XS r1 r2 r3 r4 r5):=(a5.block _ (ZAa.1 E.out.2.2.1).1 (fun e=>by have:=e8.out _ e.symm;omega)).trans E.out.2.2.1;obtain⟨t0,t1,g7,g6,f9⟩:=Xa b5;obtain⟨Q,V⟩:=yE (w3.setCell ⟨T,0,MH⟩ (MG (MI ⟨g,0,MH⟩) (L.length+1) b6));have d9:Xn (aaN T (MG p L.length c)) w Q:=by
   rw[V];exact(E.out.2.1.IZ a5 (fun b e _=>NF e)).GC (a:=⟨T,0,MH⟩) (Nt rfl) _
  have a8:WN base Q T (MG (MI ⟨g,0,MH⟩) (L.length+1) b6) (MG q R.length m) (Xi L (0,0,0,0,0,0) i) R:=by
   rw[V];refine⟨?_,?_,?_,?_,s.offR,?_,s.hT⟩
   ·exact NI w3 T 0 _ _ _ b5
   ·rw[ab0 F]
    exact W8 e7 (fun b o=>MU _ _ _ _ (fun e=>e9 (by cases o;exact e.symm)))
   ·refine W8 (W8 s.reqs (w':=w3) fun b o=>a5.block b (s.reqs.lt b o).2 (fun e=>s.apart b e.symm o)) (fun b o=>MU _ _ _ _ (fun e=>s.offR (by rw[o,e])))
   ·intro e;cases e;exact e9 rfl
   ·intro b o e
    cases o;rcases O with I|I
    ·exact s.apart _ I e
    ·have:=(s.reqs.lt g e).2;omega
  have d7:Q.heap[w.heap.size]?=MI (XS r1 r2 r3 r4 r5):=by rw[V];exact(MU _ _ _ _ (by show w.heap.size≠T;omega)).trans c9
  obtain⟨a0,a1,a2,a3,a4,Z⟩:=YD d7;obtain⟨j1,j4,_,_,g8⟩:=Xa a8.box;have K:i<(Xi L (0,0,0,0,0,0) i).length:=by rw[ab0 F];omega
  have C:=a8.lives;rw[ab0 F]at C;have f8:=aeb C;obtain⟨h7,g9⟩:=f8;have e0:=XP XN C (ab0 F).symm K (j:=0) (by omega);have M:=XP XN C (ab0 F).symm K (j:=1) (by omega);have I:=XP XN C (ab0 F).symm K (j:=2) (by omega);have e3:=XP XN C (ab0 F).symm K (j:=3) (by omega);have e4:=XP XN C (ab0 F).symm K (j:=4) (by omega);have e5:=XP XN C (ab0 F).symm K (j:=5) (by omega);obtain⟨⟨x1,x2,x3,x4,x5,x6⟩,U⟩:∃x,x=(Xi L (0,0,0,0,0,0) i)[i]:=⟨_,rfl⟩;rw[<-U]at e0 M I e3 e4 e5;simp only[Od,N9,OH,Oe]at e0 M I e3 e4 e5;have f0:=C.frozenAt (i*6);have f1:=C.frozenAt (i*6+1);have f2:=C.frozenAt (i*6+2);have f3:=C.frozenAt (i*6+3);have f4:=C.frozenAt (i*6+4);have f5:=C.frozenAt (i*6+5);have g5:(i:Int)<(L.length:Int)+1:=by omega
  have j5:g<Q.heap.size:=(C.lt g rfl).2;have f7:g<w.heap.size->aaN T (MG p L.length c) g:=fun hlt=>by
   rcases O with e|e
   ·exact NF e
   ·have:=E.out.2.1.size;omega
  have d8:(MG p L.length c).ownBlock=MI g\/w.heap.size<=g:=O.imp id (fun e=>by have:=E.out.2.1.size;omega);have HC:M6 (_/\_/\_/\_/\_):=⟨a8,d9,K,f7,d8⟩;clear s b5 c9 d9 a8 d7 K C U e7 a5 O f7 d8;go_wp2;rw[<-V];clear V a7 t0 t1 g7 g6 f9
  go_region_with (first|(go_at_call 288;refine(aie _ _ _).mono ?_;rintro r w5 ⟨rfl,rfl⟩))
  all_goals
   go_wp2;go_ret;refine⟨rfl,⟨MI ⟨g,0,MH⟩,b6,?_,fun b o=>?_⟩,?_⟩
   ·rw[ab0 F,<-ar4 (z:=(0,0,0,0,0,0)) F]
    exact((HC.out.1.IG HC.out.2.2.1 r3 1 r4 0 0 0).GW _).GY
   ·have o:MI g=MI b:=o
    cases o;exact HC.out.2.2.2.2
   ·exact((HC.out.2.1.IL (g:=g) HC.out.2.2.2.1 _ _ _ _ _ _).GW _).GY
theorem ame{base:Nat}{W:MO}{T:Nat}{va:M7}{q:Option Oc}{m:Nat}{L:List Lf}{R:List Rq}(h:WN base W T va (MG q R.length m) L R)(hbase:base<=W.heap.size)(hR:R.length<=900)(x1 x2 x3 x4 x5:Int) :
  ∃g c' w5,(N2 #[43,43] 43 #[MG q R.length m,MG (MI ⟨W.heap.size,0,MH⟩) 1 1]).run MK ((W.alloc (XS x1 x2 x3 x4 x5)).drew)=.ok (MG (MI ⟨g,0,MH⟩) (R.length+1) c') w5 /\
   (w5.cell? ⟨T,1,MH⟩=MI (MG q R.length m)/\w5.frozen? ⟨T,1,MH⟩=Nb) /\
   WN base (w5.setCell ⟨T,1,MH⟩ (MG (MI ⟨g,0,MH⟩) (R.length+1) c')) T va (MG (MI ⟨g,0,MH⟩) (R.length+1) c') L (R++[(x1,x2,x3,x4,x5)]) /\
   (∀b,b<W.heap.size->b≠T->(MG q R.length m).ownBlock≠MI b->(w5.setCell ⟨T,1,MH⟩ (MG (MI ⟨g,0,MH⟩) (R.length+1) c')).heap[b]?=W.heap[b]?) /\
   MQ base W (w5.setCell ⟨T,1,MH⟩ (MG (MI ⟨g,0,MH⟩) (R.length+1) c')):=by
 obtain⟨g,c',w5,G,J,s,D⟩:=alN acX (by decide) axS aid rfl (w:=W.drew) (base:=base) h.GY.reqs hbase 43 (x1,x2,x3,x4,x5) #[yB x1,yB x2,yB x3,yB x4,yB x5] rfl (by omega) (by unfold NE;omega);have A:∀b,b<W.heap.size->(MG q R.length m).ownBlock≠MI b->w5.heap[b]?=W.heap[b]?:=fun b f hne=>s.block b f (fun e=>hne e.symm)
 have C:w5.heap[T]?=MI (MP #[va,MG q R.length m] 307 (0,0)):=(A T h.lt h.offR).trans h.box;have E:g≠T:=by
  rcases D with e|e
  ·exact fun o=>h.offR (by rw[e,o])
  ·have:=h.lt;exact fun o=>by have I:W.heap.size<g:=e;omega
 refine⟨g,c',w5,G,⟨(Xa C).2.1,(Xa C).2.2.2.1⟩,⟨?_,?_,?_,?_,?_,?_,h.hT⟩,?_,?_⟩
 ·exact NI w5 T 1 _ _ _ C
 ·exact W8 (W8 h.lives (w':=w5) fun b f=>A b (h.lives.lt b f).2 (h.apart b f)) (fun b f=>MU _ _ _ _ (fun e=>h.offL (by rw[f,e])))
 ·rw[Ns,OU]
  exact W8 J (fun b f=>MU _ _ _ _ (fun e=>E (by cases f;exact e)))
 ·exact h.offL
 ·intro e;cases e;exact E rfl
 ·intro b f e
  cases e;rcases D with o|o
  ·exact h.apart g f o
  ·have:=(h.lives.lt g f).2
   have I:W.heap.size<g:=o;omega
 ·intro b f F H
  rw[MU _ _ _ _ F];exact A b f H
 ·refine Below.setCell ?_ h.hT _
  exact⟨s.os,s.tape,s.output,s.size,fun b f=>A b (M8 f hbase) (fun e=>by have:=(h.reqs.lt b e).1;omega)⟩
theorem asz(base T:Nat)(p:Option Oc)(c:Nat)(q:Option Oc)(m:Nat)(L:List Lf)(R:List Rq)(r1 r2 r3 r4 r5 u:Int)(w:MO)(hbase:base<=w.heap.size)(h:WN base w T (MG p L.length c) (MG q R.length m) L R)(hok:ZD L)(hlen:L.length<=900)(hR:R.length<=900)(L':List Lf)(R':List Rq)(e:Int)(hout:Zl L R (r1,r2,r3,r4,r5) u=((L',R'),e)) :
  Ni MK 179 #[Na (MI ⟨T,0,MH⟩),ab2 r1 r2 r3 r4 r5,yB u] w fun r w'=>r=MN (yB e)/\(∃p' c' q' m',WN base w' T (MG p' L'.length c') (MG q' R'.length m') L' R')/\MQ base w w':=by
 have d8:=h.lt;obtain⟨W0,J⟩:=yE (w.alloc (XS r1 r2 r3 r4 r5));have Z:yA w W0:=by rw[J];exact WQ _
 have a8:W0.heap[w.heap.size]?=MI (XS r1 r2 r3 r4 r5):=by rw[J];exact M1 _ _
 have hO:=h.below Z;have U:∀b,(MG p L.length c).ownBlock=MI b->b<w.heap.size:=fun b e=>(h.lives.lt b e).2
 have a9:∀b,(MG q R.length m).ownBlock=MI b->b<w.heap.size:=fun b e=>(h.reqs.lt b e).2
 have b3:∀b,aaN T (MG p L.length c) b->base<=b:=by
  rintro b (e|e)
  ·rw[e];exact h.hT
  ·exact(h.lives.lt b e).1
 have b5:¬aaN T (MG p L.length c) w.heap.size:=by
  rintro(e|e)
  ·omega
  ·have:=U _ e;omega
 obtain⟨N,O,M,P,Q,K⟩:=YD a8
 by_cases hk:r2=1
 ·subst hk
  obtain⟨⟨L1,e1⟩,D⟩:∃x,x=Zu L r3 r4:=⟨_,rfl⟩;obtain⟨rfl,rfl,rfl⟩:L'=L1/\R'=R++[(r1,1,r3,r4,e1)]/\e=e1:=by
   unfold Zl at hout;rw[Nh rfl]at hout;simp only[<-D]at hout;injection hout with h1 h2;injection h1 with h1 h3;exact⟨h1.symm,h3.symm,h2.symm⟩
  have HJ:M6 _:=ar9 base T p c q m L R r1 1 r3 r4 r5 W0 (Nm hbase Z.size) hO hlen L' e D.symm;have H:M6 (_/\_/\_/\_/\_/\_):=⟨J,Z,a8,b3,b5,U⟩;have HV:M6 _:=a9;clear h hO hout D U a9 b3 b5 J Z a8;go_enter UW,UI
  go_wp2_with fail
  rw[<-H.out.1];refine Nd HJ.out ?_;rintro r I ⟨rfl,⟨p',c',f,b8⟩,E⟩;have b9:∀b,(MG p' L'.length c').ownBlock=MI b->b=w.heap.size->False:=fun b hb e=>by
   rcases b8 b hb with h|h
   ·have:=H.out.2.2.2.2.2 b h;omega
   ·omega
  have s:=E.box H.out.2.2.1 H.out.2.2.2.2.1;clear N O M P Q K;obtain⟨N,O,M,P,Q,K⟩:=YD s;have b6:I.frozen? ⟨w.heap.size,4,MH⟩=false:=by simp[Ng,s]
  obtain⟨o,F⟩:=yE (I.setCell ⟨w.heap.size,4,MH⟩ (yB e));have A:M6 (WN base o T (MG p' L'.length c') (MG q R.length m) L' R/\o.heap[w.heap.size]?=MI (XS r1 1 r3 r4 e)/\MQ base w o):=by
   rw[F];refine⟨?_,NI I w.heap.size 4 _ _ _ s,?_⟩
   ·refine⟨(MU _ _ _ _ (by show T≠w.heap.size;omega)).trans f.box,W8 f.lives (fun b hb=>MU _ _ _ _ (fun e=>b9 b hb e)),W8 f.reqs (fun b hb=>MU _ _ _ _ (fun e=>by have:=HV.out b hb;have e:b=w.heap.size:=e;omega)),f.offL,f.offR,f.apart,f.hT⟩
   ·exact((H.out.2.1.mono hbase).trans (E.below (Nm hbase H.out.2.1.size) H.out.2.2.2.1)).setCell hbase _
  clear f E s b9 b8;have C:o.heap[w.heap.size]?=MI (XS r1 1 r3 r4 e):=A.out.2.1;obtain⟨g,c5,w5,hr,⟨d7,c7⟩,a5,a7,a6⟩:=ame A.out.1 (Nm hbase A.out.2.2.size) hR r1 1 r3 r4 e;have Y:=(a7 w.heap.size (ZAa.1 C).1 (by omega) (fun e=>by have:=HV.out _ e;omega)).trans C;obtain⟨N,O,M,P,Q,K⟩:=YD C;obtain⟨i0,i1,i2,i3,i4,c8⟩:=YD Y;obtain⟨t0,t1,_,_,c9⟩:=Xa A.out.1.box;have G:M6 (_/\_/\_):=⟨hr,a5,A.out.2.2.trans a6⟩;clear hr a5 a7 a6 C Y;go_wp2;rw[<-F];clear F b6
  go_region_law (first|(refine aec (by rfl) _ _ 43 (by rfl) _ _ _ _ (by rfl) (by rfl) G.out.1 ?_))
  all_goals
   go_wp2;go_ret;exact⟨rfl,⟨_,_,MI ⟨g,0,MH⟩,c5,by rw[Ns,OU];exact G.out.2.1⟩,G.out.2.2⟩
 ·obtain⟨⟨L1,e1⟩,D⟩:∃x,x=ZH L r3 r1 u:=⟨_,rfl⟩
  obtain⟨rfl,rfl,rfl⟩:L'=L1/\R'=R++[(r1,r2,r3,0,e1)]/\e=e1:=by
   unfold Zl at hout;rw[Nf hk]at hout;simp only[<-D]at hout;injection hout with h1 h2;injection h1 with h1 h3;exact⟨h1.symm,h3.symm,h2.symm⟩
  have d9:(r2 == 1)=false:=by simpa using hk
  obtain⟨W1,V⟩:=yE (w.alloc (XS r1 r2 r3 0 r5));have s:W1.heap[w.heap.size]?=MI (XS r1 r2 r3 0 r5):=by rw[V];exact M1 _ _
  have b7:yA w W1:=by rw[V];exact WQ _
  have f:=h.below b7;have HJ:M6 _:=ass base T p c q m L R r1 r2 r3 0 r5 u W1 f hok L' e D.symm;have H:M6 (_/\_/\_/\_/\_/\_/\_):=⟨J,b7,s,b3,b5,V,U⟩;have HV:M6 _:=a9;have d6:L'.length=L.length:=by
   have:(ZH L r3 r1 u).1.length=L.length:=by
    unfold ZH
    split
    ·split
     ·rfl
     ·split
      ·rfl
      ·simp
    ·rfl
   rw[<-D]at this;exact this
  clear h hO hout D U a9 b3 b5 J Z a8 f b7 s;go_enter UW,UI
  go_wp2_with fail
  rw[<-V];refine Nd HJ.out ?_;rintro r I ⟨rfl,f,E⟩;have s:=E.box H.out.2.2.1 H.out.2.2.2.2.1;clear N O M P Q K V;obtain⟨N,O,M,P,Q,K⟩:=YD s;have b6:I.frozen? ⟨w.heap.size,4,MH⟩=false:=by simp[Ng,s]
  obtain⟨o,F⟩:=yE (I.setCell ⟨w.heap.size,4,MH⟩ (yB e));have A:M6 (WN base o T (MG p L'.length c) (MG q R.length m) L' R/\o.heap[w.heap.size]?=MI (XS r1 r2 r3 0 e)/\MQ base w o):=by
   rw[F,d6];refine⟨?_,NI I w.heap.size 4 _ _ _ s,?_⟩
   ·refine⟨(MU _ _ _ _ (by show T≠w.heap.size;omega)).trans f.box,W8 f.lives (fun b hb=>MU _ _ _ _ (fun e=>by have:=H.out.2.2.2.2.2.2 b hb;have e:b=w.heap.size:=e;omega)),W8 f.reqs (fun b hb=>MU _ _ _ _ (fun e=>by have:=HV.out b hb;have e:b=w.heap.size:=e;omega)),f.offL,f.offR,f.apart,f.hT⟩
   ·exact((H.out.2.1.mono hbase).trans (E.below (Nm hbase H.out.2.1.size) H.out.2.2.2.1)).setCell hbase _
  clear f E s;have C:o.heap[w.heap.size]?=MI (XS r1 r2 r3 0 e):=A.out.2.1;obtain⟨g,c5,w5,hr,⟨d7,c7⟩,a5,a7,a6⟩:=ame A.out.1 (Nm hbase A.out.2.2.size) hR r1 r2 r3 0 e;have Y:=(a7 w.heap.size (ZAa.1 C).1 (by omega) (fun e=>by have:=HV.out _ e;omega)).trans C;obtain⟨N,O,M,P,Q,K⟩:=YD C;obtain⟨i0,i1,i2,i3,i4,c8⟩:=YD Y;obtain⟨t0,t1,_,_,c9⟩:=Xa A.out.1.box;have G:M6 (_/\_/\_):=⟨hr,a5,A.out.2.2.trans a6⟩;clear hr a5 a7 a6 C Y;go_wp2;rw[<-F];clear F b6
  go_region_law (first|(refine aec (by rfl) _ _ 43 (by rfl) _ _ _ _ (by rfl) (by rfl) G.out.1 ?_))
  all_goals
   go_wp2;go_ret;exact⟨rfl,⟨_,_,MI ⟨g,0,MH⟩,c5,by rw[Ns,OU];exact G.out.2.1⟩,G.out.2.2⟩
abbrev adv(n:Int):List Int:=[n]
theorem alU(n:Int):(adv n).length=1:=rfl
abbrev aaf(w:MO)(v:M7)(l:List Int):Prop:=aat adv w v l
theorem WN.If{base:Nat}{W W':MO}{T:Nat}{va vb:M7}{L:List Lf}{R:List Rq}(h:WN base W T va vb L R)(hk:∀b,(b=T\/va.ownBlock=MI b\/vb.ownBlock=MI b)->W'.heap[b]?=W.heap[b]?):WN base W' T va vb L R :=
 ⟨(hk T (Nt rfl)).trans h.box,W8 h.lives (fun b hb=>hk b (NF (Nt hb))),W8 h.reqs (fun b hb=>hk b (NF (NF hb))),h.offL,h.offR,h.apart,h.hT⟩
def aaw(L:List Lf)(now:Int)(k:Nat):List Lf:=(L.take k).map (XH now)++L.drop k
theorem ady(L:List Lf)(now:Int)(k:Nat):(aaw L now k).length=L.length:=by
 unfold aaw;simp;omega
theorem air{L:List Lf}(hk:k<L.length):(aaw L now k)[k]'(by rw[ady];exact hk)=L[k]:=by
 unfold aaw;rw[List.getElem_append_right (by simp;omega)];simp[P1 (PJ hk)]
theorem amd{L:List Lf}(hk:k<L.length):aaw L now (k+1)=(aaw L now k).set k (XH now L[k]):=by
 unfold aaw;rw[M9 hk,OI,OC,Pw _ _ (by simp;omega)]
 congr 1
 simp only[N0,NH,P1 (PJ hk),Nat.sub_self,OK hk,ML];rfl
theorem asH(h:¬x.2.1=1):XH now x=x:=Nf h
theorem asy{L:List Lf}(hk:k<L.length)(h:¬L[k].2.1=1):aaw L now (k+1)=aaw L now k:=by
 rw[amd hk,asH h,<-air (now:=now) hk];exact List.set_getElem_self _
theorem asL{L:List Lf}(hk:k<L.length)(h:L[k].2.1=1):XW (L.take (k+1))=XW (L.take k)++[L[k].1]:=by
 unfold XW;rw[M9 hk,OY,OI];simp[h]
theorem asK{L:List Lf}(hk:k<L.length)(h:¬L[k].2.1=1):XW (L.take (k+1))=XW (L.take k):=by
 unfold XW;rw[M9 hk,OY];simp[h]
theorem asJ(L:List Lf):(XW L).length<=L.length:=by
 unfold XW;rw[N0];exact O1 _ _
theorem asF(base T:Nat)(p:Option Oc)(c:Nat)(q:Option Oc)(m:Nat)(L:List Lf)(R:List Rq)(now:Int)(w:MO)(hbase:base<=w.heap.size)(h:WN base w T (MG p L.length c) (MG q R.length m) L R)(hlen:L.length<=900) :
  Ni MK 245 #[Na (MI ⟨T,0,MH⟩),yB now] w fun r w'=>(∃pw cw,r=MN (MG pw (XW L).length cw)/\w'.ownsRow w.heap.size 3 1 (MG pw (XW L).length cw) (XW L).length (WT adv (XW L)))/\WN base w' T (MG p L.length c) (MG q R.length m) (L.map (XH now)) R/\MQ base w w':=by
 obtain⟨f6,e9⟩:=aeb h.lives;have d8:=h.lt;have a8:∀b,(b=T\/(MG p L.length c).ownBlock=MI b\/(MG q R.length m).ownBlock=MI b)->base<=b/\b<w.heap.size:=by
  rintro b (e|e|e)
  ·rw[e];exact⟨h.hT,h.lt⟩
  ·exact h.lives.lt b e
  ·exact h.reqs.lt b e
 obtain⟨b0,b1,_,_,_⟩:=Xa h.box;have H:M6 (_/\_):=⟨h,a8⟩;clear h a8;go_enter Tryz.func245,Tryz.ntmps245;go_wp2
 go_loopw [5,14] (fun s i wr=>∃(k:Nat) (pw:Option Oc) (o cw:Nat),i=yB k/\s=MG pw o cw/\k<=L.length/\o=(XW (L.take k)).length/\wr.ownsRow w.heap.size 3 1 (MG pw o cw) o (WT adv (XW (L.take k)))/\WN base wr T (MG p L.length c) (MG q R.length m) (aaw L now k) R/\MQ base w wr/\w.heap.size<=wr.heap.size) (fun _ i _=>L.length-(On i).toNat)
 case atStart=>exact⟨0,MH,0,0,rfl,rfl,Nx _,by simp[XW],NY _ _ _ _,H.out.1,MY _ _,MV _⟩
 case round =>
  obtain⟨k,pw,o,cw,rfl,rfl,hk,M,C,A,N,c7⟩:=hrel;clear b0 b1
  by_cases hlt:k<L.length
  ·have e7:(k:Int)<(L.length:Int):=by omega
   obtain⟨g,c',he,_,c9⟩:=A.lives.form (by rw[ady];omega);have b9:p=MI ⟨g,0,MH⟩:=by injection he
   subst b9;have D:=A.lives;rw[ady]at D;obtain⟨⟨I,x2,Y,x4,V,Z⟩,hx⟩:∃x,x=L[k]:=⟨_,rfl⟩;obtain⟨b0,b1,_,_,d7⟩:=Xa A.box;have G:k<(aaw L now k).length:=by rw[ady];exact hlt
   have e0:=XP XN D (ady L now k).symm G (j:=0) (by omega);have e1:=XP XN D (ady L now k).symm G (j:=1) (by omega);have e3:=XP XN D (ady L now k).symm G (j:=3) (by omega);rw[air hlt,<-hx]at e0 e1 e3;simp only[Od,N9,OH,Oe]at e0 e1 e3;have f1:=D.frozenAt (k*6+1);have f3:=D.frozenAt (k*6+3);have d9:g<w.heap.size:=(H.out.2 g (NF (Nt rfl))).2
   by_cases h1:x2=1
   ·subst h1
    have K:L[k].2.1=1:=by rw[<-hx]
    have E:=asL hlt K;have F:=amd (now:=now) hlt;rw[<-hx]at E F;rw[show XH now (I,1,Y,x4,V,Z)=(I,2,Y,now,V,Z)from Nh rfl]at F;obtain⟨O,J⟩:=yE ((wr.setCell ⟨g,k*6+1,MH⟩ (yB 2)).setCell ⟨g,k*6+3,MH⟩ (yB now));have b7:WN base O T (MG (MI ⟨g,0,MH⟩) L.length c) (MG q R.length m) (aaw L now (k+1)) R:=by
     have z1:=A.Gd G (j:=1) (by omega) 2 (I,2,Y,x4,V,Z) (by rw[air hlt,<-hx];rfl);have z2:=z1.Gd (i:=k) (by simpa using G) (j:=3) (by omega) now (I,2,Y,now,V,Z) (by simp);rw[J,F]
     simpa using z2
    have a9:MQ base wr O:=by
     rw[J];have b8:=(H.out.2 g (NF (Nt rfl))).1;exact((MY _ _).setCell b8 _).setCell b8 _
    have a7:O.heap.size=wr.heap.size:=by rw[J];simp
    have Q:O.ownsRow w.heap.size 3 1 (MG pw o cw) o (WT adv (XW (L.take k))):=by
     rw[J];refine W8 C fun b hb=>?_
     have:=(C.lt b hb).1;rw[MU _ _ _ _ (by show b≠g;omega),MU _ _ _ _ (by show b≠g;omega)]
    have e8:o<=900:=by
     have:=asJ (L.take k);rw[NH]at this;omega
    obtain⟨gw,a6,P,hr,a5,U,c8⟩:=alN alU (by decide) Tryz.underlying276 adB rfl Q (by omega) 276 I #[yB I] rfl (by omega) (by unfold NE;omega);rw[<-E]at a5;have b5:WN base P T (MG (MI ⟨g,0,MH⟩) L.length c) (MG q R.length m) (aaw L now (k+1)) R:=b7.If fun b hb=>by
     have d6:=(H.out.2 b hb).2;exact U.block b (by omega) (fun e=>by have:=(Q.lt b e.symm).1;omega)
    have b6:MQ base w P:=(N.trans a9).trans (ae4 U (Nm hbase (by omega)) (fun b e=>Nm hbase (Q.lt b e).1));have b3:(N2 #[276,276] 276 #[MG pw o cw,MG (MI ⟨wr.heap.size,0,MH⟩) 1 1]).run MK (((wr.setCell ⟨g,k*6+1,MH⟩ (yB 2)).setCell ⟨g,k*6+3,MH⟩ (yB now)).alloc (MP #[yB I] 3))=.ok (MG (MI ⟨gw,0,MH⟩) (o+1) a6) P:=by rw[<-J,<-a7];exact hr
    have f:M6 (_/\_/\_/\_/\_/\_):=⟨b3,a5,b5,b6,(by have:=U.size;omega:w.heap.size<=P.heap.size),(by rw[E];simp;omega:o+1=(XW (L.take (k+1))).length)⟩;clear hr b3 a5 b5 b6 C A N M D hx b7 a9 Q U c8 K E F he G a7 J
    go_wp2_with (at_builtin;(with_reducible refine Z4 rfl _ _ 276 rfl (MG pw o cw) (MG (MI ⟨wr.heap.size,0,MH⟩) 1 1) (MG (MI ⟨gw,0,MH⟩) (o+1) a6) P ?hs ?hx ?hr ?_);(case hs=>rfl);(case hx=>rfl);(case hr=>exact f.out.1))
    go_wp2
    go_roundw
    case rel=>exact⟨k+1,MI ⟨gw,0,MH⟩,o+1,a6,by simp,rfl,hlt,f.out.2.2.2.2.2,f.out.2.1,f.out.2.2.1,f.out.2.2.2.1,f.out.2.2.2.2.1⟩
    case measure=>simp[On];omega
   ·have K:¬L[k].2.1=1:=by rw[<-hx];exact h1
    have E:=asK hlt K;have F:=asy (now:=now) hlt K;rw[<-E]at C M;rw[<-F]at A;have f7:(x2 == 1)=false:=by simpa using h1
    have f:M6 (_/\_/\_/\_/\_):=⟨M,C,A,N,c7⟩;clear C A N M D hx K E F he G;go_wp2
    go_roundw
    case rel=>exact⟨k+1,pw,o,cw,by simp,rfl,hlt,f.out.1,f.out.2.1,f.out.2.2.1,f.out.2.2.2.1,f.out.2.2.2.2⟩
    case measure=>simp[On];omega
  ·obtain rfl:k=L.length:=by omega
   have hs:aaw L now L.length=L.map (XH now):=by simp[aaw]
   rw[hs]at A;rw[NT]at M C;subst M;have f:M6 (_/\_/\_):=⟨C,A,N⟩;clear C A N hs;go_wp2;go_ret;exact⟨⟨_,_,rfl,f.out.1⟩,f.out.2.1,f.out.2.2⟩
theorem adx{fn:Func}{x y z u:Tmp}{t:NU}(h:fn.results=#[.cell x t,.tmp y,.tmp z,.tmp u]){tmps:Array M7}{P:O8}{w:MO}{p:Oc}{v1 v2 v3 v4:M7}(hx:tmps.getD x PL=Na (MI p))(hy:tmps.getD y PL=v2)(hz:tmps.getD z PL=v3)(hu:tmps.getD u PL=v4)
  (h1:(loadVar t p).run P w=.ok v1 w):(Pf fn tmps).run P w=.ok (Nv #[v1,v2,v3,v4]) w:=by
 have f:∀a:Oc,(asAddr (Na (MI a))).run P w=.ok a w:=fun a=>rfl
 simp only[Pg]at hx hy hz hu;simp[Pf,h,hx,hy,hz,hu,f,h1,Pn]
abbrev Yw(B:Nat)(w:MO)(va vb:M7)(L:List Lf)(R:List Rq):Prop:=aaM w va vb L R/\(∀b,va.ownBlock=MI b->B<=b)/\(∀b,vb.ownBlock=MI b->B<=b)
abbrev acs(W:MO)(g:Nat)(a b:M7):World:=(W.setCell ⟨g,0,MH⟩ a).setCell ⟨g,1,MH⟩ b
theorem aiq{W:MO}(h:k≠g):(acs W g a b).heap[k]?=W.heap[k]?:=by
 unfold acs;rw[MU _ _ _ _ h,MU _ _ _ _ h]
theorem amb{W:MO}:(acs W g a b).heap.size=W.heap.size:=by
 unfold acs;simp
theorem aaO{w W:MO}{va vb:M7}{L:List Lf}{R:List Rq}(h:Yw (B+1) W va vb L R)(hres:W.heap[B]?=MI (Zk a b))(hb:yA w W)(hB:w.heap.size<=B):
  (acs W B va vb).heap[B]?=MI (Zk va vb)/\Yw w.heap.size (acs W B va vb) va vb L R/\yA w (acs W B va vb):=
 ⟨acb hres,⟨⟨aat.Gf h.1.1 (by rw[amb];exact MV _) (fun g hg=>aiq (by have:=h.2.1 g hg;omega)),aat.Gf h.1.2 (by rw[amb];exact MV _) (fun g hg=>aiq (by have:=h.2.2 g hg;omega))⟩,fun g hg=>Nm hB (SO (h.2.1 g hg)),fun g hg=>Nm hB (SO (h.2.2 g hg))⟩,(hb.setCell hB _).setCell hB _⟩
theorem WN.new{base:Nat}{W:MO}{T:Nat}{va vb:M7}{L:List Lf}{R:List Rq}(h:WN base W T va vb L R)(hB:B<=base):Yw B W va vb L R :=
 ⟨h.at,fun b hb=>Nm hB (h.lives.lt b hb).1,fun b hb=>Nm hB (h.reqs.lt b hb).1⟩
theorem aco(B:Nat)(w:MO):Yw B w (MG MH 0 0) (MG MH 0 0) [] []:=⟨⟨agl w,agl w⟩,(fun b h=>by cases h),(fun b h=>by cases h)⟩
theorem aaQ{W:MO}{va vb:M7}(h:W.heap[g]?=MI (Zk va vb)):(loadVar 45 ⟨g,0,MH⟩).run MK W=.ok (YC va vb) W :=
 Xp (P:=MK) (cs:=[va,vb]) h ayo rfl (by kernel_rfl)
theorem acu(w:MO)(o r:Obj):((w.alloc o).alloc r).heap[w.heap.size]?=MI o/\((w.alloc o).alloc r).heap[w.heap.size+1]?=MI r/\yA w ((w.alloc o).alloc r)/\((w.alloc o).alloc r).heap.size=w.heap.size+2 :=
 ⟨Xy _ _ (M1 _ _),Yu _ _ _,((MY _ _).alloc (MV _) _).alloc (by simp) _,by simp⟩
theorem acr{w w':MO}{L:List Lf}{R:List Rq}{r:Ending}(h:alM L R w r w'):∃T p k q m,r=MN (Nv #[Na (MI ⟨T,0,MH⟩),yB 0])/\WN w.heap.size w' T (MG p L.length k) (MG q R.length m) L R/\yA w w':=h
def arM(w:MO)(O:(List Lf×List Rq)×Int)(r:Ending)(w':MO):Prop :=
 ∃p c q m,r=MN (Nv #[YC (MG p O.1.1.length c) (MG q O.1.2.length m),yB O.2])/\Yw w.heap.size w' (MG p O.1.1.length c) (MG q O.1.2.length m) O.1.1 O.1.2/\yA w w'
def arN(w:MO)(O:(List Lf×List Rq)×List Int×Int)(r:Ending)(w':MO):Prop :=
 ∃p c q m s k,r=MN (Nv #[YC (MG p O.1.1.length c) (MG q O.1.2.length m),MG s O.2.1.length k,yB O.2.2])/\Yw w.heap.size w' (MG p O.1.1.length c) (MG q O.1.2.length m) O.1.1 O.1.2/\aaf w' (MG s O.2.1.length k) O.2.1/\yA w w'/\(∀b,(MG s O.2.1.length k).ownBlock=MI b->w.heap.size<=b)
theorem WN.Jo{base:Nat}{W:MO}{T n:Nat}{vb:M7}{L:List Lf}{R:List Rq}(h:WN base W T (MG (MI ⟨g,0,MH⟩) n c) vb L R)(hi:i<L.length){x1 x2 x3 x4 x5 x6:Int}(hx:L[i]=(x1,x2,x3,x4,x5,x6))(s:Int):
  WN base (W.setCell ⟨g,i*6+1,MH⟩ (yB s)) T (MG (MI ⟨g,0,MH⟩) n c) vb (L.set i (x1,s,x3,x4,x5,x6)) R:=h.Gd hi (j:=1) (by omega) s _ (by rw[hx];rfl)
theorem arW(va vb:M7)(L:List Lf)(R:List Rq)(n:Int)(w:MO)(hv:aaM w va vb L R) :
  Ni MK 186 #[YC va vb,yB n] w (arM w (aau L R n)):=by
 obtain⟨O,f⟩:=yE (aau L R n);rw[<-f];obtain⟨pa,ca,rfl,d8,d7⟩:=aat.Ga hv.1;obtain⟨pb,cb,rfl,f6,e8⟩:=aat.Ga hv.2;obtain⟨G,U⟩:=yE ((w.alloc (Zk (MG pa L.length ca) (MG pb R.length cb))).alloc (Zk (MG MH 0 0) (MG MH 0 0)));have I:=acu w (Zk (MG pa L.length ca) (MG pb R.length cb)) (Zk (MG MH 0 0) (MG MH 0 0));rw[<-U]at I;obtain⟨b7,F,a5,b8⟩:=I;obtain⟨c0,c1,_,_,c7⟩:=Xa b7;have H:M6 (_/\_/\_/\_/\_):=⟨U,F,a5,b8,hv.below a5⟩;clear hv b7 F a5 b8
 by_cases hok:Ym L R
 ·have HO:M6 _:=ail _ _ L R G H.out.2.2.2.2 hok
  unfold aau at f;rw[Nh hok]at f;have HQ:M6 _:=f;clear U f;go_enter Td,SH
  go_wp2_with fail
  rw[<-H.out.1];refine Nd HO.out ?_;intro r w1 b6;obtain⟨T,p,k,q,m,rfl,J,E⟩:=acr b6;have F:=WO H.out.2.1 E;have V:=H.out.2.2.1.trans (E.mono H.out.2.2.1.size);clear b6 c0 c1 c7;have f:=HQ.out;clear HQ;cases hh:Ys L n
  ·rw[hh,Nf (by simp)]at f
   subst f;have Z:M6 _:=alZ G.heap.size T p k q m L R n w1 J hh;have s:M6 (_/\_):=⟨F,V⟩;clear J E F V
   go_wp2_with fail
   refine Nd Z.out ?_;rintro r M ⟨rfl,C⟩;have o:=WO s.out.1 C;obtain⟨d0,d1,a8,a7,a6⟩:=Xa o;have A:M6 _:=aaO (aco _ M) o (s.out.2.trans (C.mono s.out.2.size)) (Ps _);clear C o;go_wp2;exact Np (v:=Nv #[YC (MG MH 0 0) (MG MH 0 0),yB 8]) (XT aAk rfl rfl (aaQ A.out.1)) rfl ⟨MH,0,MH,0,rfl,A.out.2.1,A.out.2.2⟩
  ·obtain⟨i,Y⟩:=yE (Xk L n)
   have P:i<L.length:=by rw[Y];exact aa2 hh
   rw[hh,<-Y,MR P,OV]at f;obtain⟨⟨x1,x2,x3,x4,x5,x6⟩,I⟩:∃x,x=L[i]:=⟨_,rfl⟩;rw[<-I]at f;obtain⟨g,c',he,_,c9⟩:=J.lives.form (by omega);cases he;have Z:M6 _:=al0 G.heap.size T g k q m L R n w1 J hh i Y;have s:M6 (_/\_/\_/\_):=⟨F,V,J,I⟩;clear J E F V I Y hh
   by_cases h3:x2=3
   ·subst h3
    rw[Nh ⟨rfl,rfl⟩]at f;subst f
    go_wp2_with fail
    refine Nd Z.out ?_;rintro r M ⟨rfl,C⟩;have o:=WO s.out.1 C;have D:=s.out.2.2.1.below C;have b3:=s.out.2.1.trans (C.mono s.out.2.1.size);have K:=XP XN D.lives rfl P (j:=1) (by omega);rw[<-s.out.2.2.2]at K;simp only[Od,N9,OH,Oe]at K;have f1:=D.lives.frozenAt (i*6+1);obtain⟨N,Q⟩:=yE (M.setCell ⟨g,i*6+1,MH⟩ (yB 4));have b5:WN G.heap.size N T (MG (MI ⟨g,0,MH⟩) L.length k) (MG q R.length m) (L.set i (x1,4,x3,x4,x5,x6)) R:=by rw[Q];exact D.Jo P s.out.2.2.2.symm 4
    have c8:=(D.lives.lt g rfl).1;have b9:N.heap[w.heap.size+1]?=MI (Zk (MG MH 0 0) (MG MH 0 0)):=by rw[Q];exact(MU _ _ _ _ (by show w.heap.size+1≠g;have:=H.out.2.2.2.1;omega)).trans o
    have a9:yA w N:=by rw[Q];exact b3.setCell (by show w.heap.size<=g;have:=H.out.2.2.2.1;omega) _
    obtain⟨t0,t1,_,_,d9⟩:=Xa D.box;obtain⟨d0,d1,a8,a7,a6⟩:=Xa o;have e9:¬T=g:=fun e=>D.offL (by rw[e];rfl)
    have d6:¬w.heap.size+1=g:=by have:=H.out.2.2.2.1;omega
    have A:M6 _:=aaO (b5.new (by have:=H.out.2.2.2.1;omega)) b9 a9 (Ps _);clear C o D b5 b9 b3 a9 c8;go_wp2;rw[<-Q];exact Np (v:=Nv #[YC (MG (MI ⟨g,0,MH⟩) L.length k) (MG q R.length m),yB 0]) (XT aAk rfl rfl (aaQ A.out.1)) rfl ⟨MI ⟨g,0,MH⟩,k,q,m,by simp only[NA],by simp only[NA];exact A.out.2.1,A.out.2.2⟩
   ·rw[Nf (fun h=>h3 h.2)]at f
    subst f;have e7:(x2 != 3)=true:=by simpa using h3
    go_wp2_with fail
    refine Nd Z.out ?_;rintro r M ⟨rfl,C⟩;have o:=WO s.out.1 C;have D:=s.out.2.2.1.below C;have K:=XP XN D.lives rfl P (j:=1) (by omega);rw[<-s.out.2.2.2]at K;simp only[Od,N9,OH,Oe]at K;obtain⟨d0,d1,a8,a7,a6⟩:=Xa o;have A:M6 _:=aaO (aco _ M) o (s.out.2.1.trans (C.mono s.out.2.1.size)) (Ps _);clear C o D;go_wp2;exact Np (v:=Nv #[YC (MG MH 0 0) (MG MH 0 0),yB 8]) (XT aAk rfl rfl (aaQ A.out.1)) rfl ⟨MH,0,MH,0,rfl,A.out.2.1,A.out.2.2⟩
 ·have HO:M6 _:=aik _ _ L R G H.out.2.2.2.2 hok
  unfold aau at f;rw[Nf hok]at f;subst f;clear U;go_enter Td,SH
  go_wp2_with fail
  rw[<-H.out.1];refine Nd HO.out ?_;rintro r w1 ⟨rfl,E⟩;have o:=WO H.out.2.1 E;obtain⟨d0,d1,a8,a7,a6⟩:=Xa o;have A:M6 _:=aaO (aco _ w1) o (H.out.2.2.1.trans (E.mono H.out.2.2.1.size)) (Ps _);clear E o;go_wp2;exact Np (v:=Nv #[YC (MG MH 0 0) (MG MH 0 0),yB 6]) (XT aAk rfl rfl (aaQ A.out.1)) rfl ⟨MH,0,MH,0,rfl,A.out.2.1,A.out.2.2⟩
theorem asE(va vb:M7)(L:List Lf)(R:List Rq)(now:Int)(w:MO)(hv:aaM w va vb L R) :
  Ni MK 187 #[YC va vb,yB now] w (arN w (abn L R now)):=by
 obtain⟨O,s⟩:=yE (abn L R now);rw[<-s];obtain⟨pa,ca,rfl,b7,b6⟩:=aat.Ga hv.1;obtain⟨pb,cb,rfl,b9,b5⟩:=aat.Ga hv.2;obtain⟨I,E⟩:=yE ((w.alloc (Zk (MG pa L.length ca) (MG pb R.length cb))).alloc (Zk (MG MH 0 0) (MG MH 0 0)));have hx:=acu w (Zk (MG pa L.length ca) (MG pb R.length cb)) (Zk (MG MH 0 0) (MG MH 0 0));rw[<-E]at hx;obtain⟨a6,A,Q,a8⟩:=hx;obtain⟨c0,c1,_,_,Y⟩:=Xa a6;have H:M6 (_/\_/\_/\_/\_):=⟨E,A,Q,a8,hv.below Q⟩;clear hv a6 A Q a8
 by_cases hok:Ym L R
 ·have M:M6 _:=ail _ _ L R I H.out.2.2.2.2 hok
  unfold abn at s;rw[Nh hok]at s;have b3:L.length<=900:=by have:=hok.1.1;omega
  cases hn:Nn (0<=now/\now<=1099511627776)
  ·rw[Nf (Nc hn)]at s
   subst s;clear E;go_enter UN,UB
   go_wp2_with fail
   rw[<-H.out.1];refine Nd M.out ?_;intro r J D;obtain⟨T,p,k,q,m,rfl,N,f⟩:=acr D;have A:=WO H.out.2.1 f;have F:=H.out.2.2.1.trans (f.mono H.out.2.2.1.size);obtain⟨d0,d1,a9,a7,a5⟩:=Xa A;have o:M6 _:=aaO (aco _ J) A F (Ps _);clear D c0 c1 Y A F f N
   go_wp2_with fail
   refine(YY _ _ _ _).mono ?_;rw[hn];rintro r K ⟨rfl,rfl⟩;go_wp2;exact Np (v:=Nv #[YC (MG MH 0 0) (MG MH 0 0),MG MH 0 0,yB 2]) (ae0 Qm rfl rfl rfl (aaQ o.out.1)) rfl ⟨MH,0,MH,0,MH,0,rfl,o.out.2.1,agl _,o.out.2.2,fun b hb=>by cases hb⟩
  ·rw[Nh (M2 hn)]at s
   subst s;clear E;go_enter UN,UB
   go_wp2_with fail
   rw[<-H.out.1];refine Nd M.out ?_;intro r J D;obtain⟨T,p,k,q,m,rfl,N,f⟩:=acr D;have A:=WO H.out.2.1 f;have F:=H.out.2.2.1.trans (f.mono H.out.2.2.1.size);have G:M6 (_/\_/\_/\_):=⟨asF I.heap.size T p k q m L R now J f.size N b3,A,F,f⟩;clear D c0 c1 Y A F f N
   go_wp2_with fail
   refine(YY _ _ _ _).mono ?_;rw[hn];rintro r K ⟨rfl,rfl⟩
   go_wp2_with fail
   refine Nd G.out.1 ?_;rintro r K ⟨⟨pw,cw,rfl,V⟩,U,P⟩;have hs:=H.out.2.2.2.1;have C:=(P.block (w.heap.size+1) (by omega)).trans G.out.2.1;have Z:yA w K:=G.out.2.2.1.trans (P.mono (by omega));obtain⟨t0,t1,_,_,b8⟩:=Xa U.box;obtain⟨d0,d1,a9,a7,a5⟩:=Xa C;have o:M6 (_/\_):=⟨aaO (U.new (by omega)) C Z (Ps _),W8 V (w':=acs K (w.heap.size+1) (MG p L.length k) (MG q R.length m)) (fun b hb=>aiq (by have:=(V.lt b hb).1;have:=G.out.2.2.2.size;omega))⟩;clear C U Z P V hs;go_wp2;exact Np (v:=Nv #[YC (MG p L.length k) (MG q R.length m),MG pw (XW L).length cw,yB 0]) (ae0 Qm rfl rfl rfl (aaQ o.out.1.1)) rfl ⟨p,k,q,m,pw,cw,by simp only[N0],by simp only[N0];exact o.out.1.2.1,ain o.out.2,o.out.1.2.2,fun b hb=>by have:=(o.out.2.lt b hb).1;have:=G.out.2.2.1.size;omega⟩
 ·have M:M6 _:=aik _ _ L R I H.out.2.2.2.2 hok
  unfold abn at s;rw[Nf hok]at s;subst s;clear E;go_enter UN,UB
  go_wp2_with fail
  rw[<-H.out.1];refine Nd M.out ?_;rintro r J ⟨rfl,f⟩;have C:=WO H.out.2.1 f;obtain⟨d0,d1,a9,a7,a5⟩:=Xa C;have o:M6 _:=aaO (aco _ J) C (H.out.2.2.1.trans (f.mono H.out.2.2.1.size)) (Ps _);clear f C;go_wp2;exact Np (v:=Nv #[YC (MG MH 0 0) (MG MH 0 0),MG MH 0 0,yB 6]) (ae0 Qm rfl rfl rfl (aaQ o.out.1)) rfl ⟨MH,0,MH,0,MH,0,rfl,o.out.2.1,agl _,o.out.2.2,fun b hb=>by cases hb⟩
def ah5(w:MO)(O:ae1)(r:Ending)(w':MO):Prop :=
 ∃p c q m,r=MN (Nv #[YC (MG p O.1.1.length c) (MG q O.1.2.length m),yB O.2.1,M3 O.2.2.1,yB O.2.2.2])/\Yw w.heap.size w' (MG p O.1.1.length c) (MG q O.1.2.length m) O.1.1 O.1.2/\yA w w'
theorem asD(w:MO)(o r s:Obj):(((w.alloc o).alloc r).alloc s).heap[w.heap.size]?=MI o/\(((w.alloc o).alloc r).alloc s).heap[w.heap.size+1]?=MI r/\(((w.alloc o).alloc r).alloc s).heap[w.heap.size+1+1]?=MI s/\yA w (((w.alloc o).alloc r).alloc s)/\(((w.alloc o).alloc r).alloc s).heap.size=w.heap.size+3 :=
 ⟨Xy _ _ (Xy _ _ (M1 _ _)),Xy _ _ (Yu _ _ _),aeC _ _ _ _,(((MY _ _).alloc (MV _) _).alloc (by simp) _).alloc (by simp;omega) _,by simp⟩
theorem Yw.GY{w:MO}{va vb:M7}{L:List Lf}{R:List Rq}(h:Yw B w va vb L R):Yw B w.drew va vb L R:=⟨⟨aat.Gf h.1.1 (MV _) (fun _ _=>rfl),aat.Gf h.1.2 (MV _) (fun _ _=>rfl)⟩,h.2⟩
theorem agi{w w':MO}{e:Int}{O:ae1}(h:O=(([],[]),0,Nb,e))(hn:Yw w.heap.size w' (MG MH 0 0) (MG MH 0 0) [] [])(hb:yA w w') :
  ah5 w O (MN (Nv #[YC (MG MH 0 0) (MG MH 0 0),yB 0,M3 Nb,yB e])) w':=by
 subst h;exact⟨MH,0,MH,0,rfl,hn,hb⟩
theorem ah7{w w':MO}{n:Nat}{q:Option Oc}{m:Nat}{L:List Lf}{R:List Rq}{a e:Int}{b:Bool}{O:ae1}(h:O=((L,R),a,b,e))(hl:n=L.length)(hr:k=R.length)(hn:Yw w.heap.size w' (MG p n c) (MG q k m) L R)(hb:yA w w'):
  ah5 w O (MN (Nv #[YC (MG p n c) (MG q k m),yB a,M3 b,yB e])) w':=by
 subst h hl hr;exact⟨p,c,q,m,rfl,hn,hb⟩
theorem arO(va vb:M7)(L:List Lf)(R:List Rq)(r1 r2 r3 r4 r5 now drain:Int)(w:MO)(hv:aaM w va vb L R) :
  Ni MK 120 #[YC va vb,ab2 r1 r2 r3 r4 r5,yB now,yB drain] w (ah5 w (ZU L R (r1,r2,r3,r4,r5) now drain)):=by
 obtain⟨O,d6⟩:=yE (ZU L R (r1,r2,r3,r4,r5) now drain);rw[<-d6];obtain⟨pa,ca,rfl,j1,j0⟩:=aat.Ga hv.1;obtain⟨pb,cb,rfl,i7,j3⟩:=aat.Ga hv.2;obtain⟨W0,d8⟩:=yE (((w.alloc (Zk (MG pa L.length ca) (MG pb R.length cb))).alloc (XS r1 r2 r3 r4 r5)).alloc (Zk (MG MH 0 0) (MG MH 0 0)));have hx:=asD w (Zk (MG pa L.length ca) (MG pb R.length cb)) (XS r1 r2 r3 r4 r5) (Zk (MG MH 0 0) (MG MH 0 0));rw[<-d8]at hx;obtain⟨h8,F,D,d9,h9⟩:=hx;obtain⟨c0,c1,_,_,b9⟩:=Xa h8;have H:M6 (_/\_/\_/\_/\_/\_):=⟨d8,F,D,d9,h9,hv.below d9⟩;clear hv h8 F d9 h9 D
 by_cases hok:Ym L R
 case neg =>
  have HO:M6 _:=aik _ _ L R W0 H.out.2.2.2.2.2 hok;have HQ:M6 (O=(([],[]),0,Nb,6)):=by
   rw[d6];exact Nf hok
  clear d8 d6;go_enter aAa,az8
  go_wp2_with fail
  rw[<-H.out.1];refine Nd HO.out ?_;rintro r w1 ⟨rfl,f⟩;have D:=WO H.out.2.2.1 f;obtain⟨d0,d1,b7,b6,b5⟩:=Xa D;have E:M6 _:=aaO (aco _ w1) D (H.out.2.2.2.1.trans (f.mono H.out.2.2.2.1.size)) (by omega);clear f D;go_wp2;exact Np (v:=Nv #[YC (MG MH 0 0) (MG MH 0 0),yB 0,M3 Nb,yB 6]) (adx TL rfl rfl rfl rfl (aaQ E.out.1)) rfl (agi HQ.out E.out.2.1 E.out.2.2)
 have HO:M6 _:=ail _ _ L R W0 H.out.2.2.2.2.2 hok;have i6:L.length<=900:=by have:=hok.1.1;omega
 have j4:R.length<=100:=hok.2.1;have i5:=hok.1.2;have g0:O=if acT (r1,r2,r3,r4,r5) now drain then(if ZV R r1<R.length then((L,R),(R[ZV R r1]?.getD (0,0,0,0,0)).2.2.2.2,Nb,0)else if R.length=100 then((L,R),9,Nb,0)else((Zl L R (r1,r2,r3,r4,r5) (now+drain)).1,(Zl L R (r1,r2,r3,r4,r5) (now+drain)).2,Nw,0))else(([],[]),0,Nb,2):=by
  rw[d6];unfold ZU;rw[Nh hok]
 have HQ:M6 _:=g0;clear d6 g0 d8 hok;obtain⟨bq,e7⟩:=yE (Nn (abY (r1,r2,r3,r4,r5)));have b8:M6 (∀W,_):=fun W=>aip r1 r2 r3 r4 r5 W
 rw[<-e7]at b8;have g8:M6 _:=e7;clear e7;cases bq
 case false =>
  have HE:M6 (O=(([],[]),0,Nb,2)):=by rw[HQ.out];exact Nf fun h=>Nc g8.out.symm h.1
  clear HQ;go_enter aAa,az8
  go_wp2_with fail
  rw[<-H.out.1];refine Nd HO.out ?_;intro r w1 a5;obtain⟨T,p,k,q,m,rfl,hO,f⟩:=acr a5;obtain⟨V,U,Q,Y,Z,N⟩:=YD (WO H.out.2.1 f);have s:=WQ w1 (o:=XS r1 r2 r3 r4 r5);have F:=WO (WO H.out.2.1 f) s;have D:=WO (WO H.out.2.2.1 f) s;have M:=(H.out.2.2.2.1.trans (f.mono H.out.2.2.2.1.size));have G:=M.trans (s.mono M.size);have I:=hO.below s;have K:=Nm f.size s.size;clear a5 c0 c1 b9;obtain⟨C,J⟩:=yE (w1.alloc (XS r1 r2 r3 r4 r5));rw[<-J]at F D G I K;have A:M6 (_/\_/\_/\_/\_):=⟨I,F,D,G,K⟩;clear I F D G K hO f M s
  go_wp2_with fail
  refine(b8.out _).mono ?_;rintro r w3 ⟨rfl,rfl⟩;rw[<-J];clear J V U Q Y Z N;obtain⟨d0,d1,b7,b6,b5⟩:=Xa A.out.2.2.1;have E:M6 _:=aaO (aco _ C) A.out.2.2.1 A.out.2.2.2.1 (by omega);go_wp2;exact Np (v:=Nv #[YC (MG MH 0 0) (MG MH 0 0),yB 0,M3 Nb,yB 2]) (adx TL rfl rfl rfl rfl (aaQ E.out.1)) rfl (agi HE.out E.out.2.1 E.out.2.2)
 cases h2:Nn (0<=now/\now<=1099511627776)
 case false =>
  have HE:M6 (O=(([],[]),0,Nb,2)):=by rw[HQ.out];exact Nf fun h=>Nc h2 h.2.1
  clear HQ;go_enter aAa,az8
  go_wp2_with fail
  rw[<-H.out.1];refine Nd HO.out ?_;intro r w1 a5;obtain⟨T,p,k,q,m,rfl,hO,f⟩:=acr a5;obtain⟨V,U,Q,Y,Z,N⟩:=YD (WO H.out.2.1 f);have s:=WQ w1 (o:=XS r1 r2 r3 r4 r5);have F:=WO (WO H.out.2.1 f) s;have D:=WO (WO H.out.2.2.1 f) s;have M:=(H.out.2.2.2.1.trans (f.mono H.out.2.2.2.1.size));have G:=M.trans (s.mono M.size);have I:=hO.below s;have K:=Nm f.size s.size;clear a5 c0 c1 b9;obtain⟨C,J⟩:=yE (w1.alloc (XS r1 r2 r3 r4 r5));rw[<-J]at F D G I K;have A:M6 (_/\_/\_/\_/\_):=⟨I,F,D,G,K⟩;clear I F D G K hO f M s
  go_wp2_with fail
  refine(b8.out _).mono ?_;rintro r w3 ⟨rfl,rfl⟩;rw[<-J];clear J V U Q Y Z N;obtain⟨d0,d1,b7,b6,b5⟩:=Xa A.out.2.2.1;have E:M6 _:=aaO (aco _ C) A.out.2.2.1 A.out.2.2.2.1 (by omega)
  go_wp2_with fail
  refine(YY _ _ _ _).mono ?_;rw[h2];rintro r C ⟨rfl,rfl⟩;go_wp2;exact Np (v:=Nv #[YC (MG MH 0 0) (MG MH 0 0),yB 0,M3 Nb,yB 2]) (adx TL rfl rfl rfl rfl (aaQ E.out.1)) rfl (agi HE.out E.out.2.1 E.out.2.2)
 cases h3:Nn (0<=drain/\drain<=500)
 case false =>
  have HE:M6 (O=(([],[]),0,Nb,2)):=by rw[HQ.out];exact Nf fun h=>Nc h3 h.2.2
  clear HQ;go_enter aAa,az8
  go_wp2_with fail
  rw[<-H.out.1];refine Nd HO.out ?_;intro r w1 a5;obtain⟨T,p,k,q,m,rfl,hO,f⟩:=acr a5;obtain⟨V,U,Q,Y,Z,N⟩:=YD (WO H.out.2.1 f);have s:=WQ w1 (o:=XS r1 r2 r3 r4 r5);have F:=WO (WO H.out.2.1 f) s;have D:=WO (WO H.out.2.2.1 f) s;have M:=(H.out.2.2.2.1.trans (f.mono H.out.2.2.2.1.size));have G:=M.trans (s.mono M.size);have I:=hO.below s;have K:=Nm f.size s.size;clear a5 c0 c1 b9;obtain⟨C,J⟩:=yE (w1.alloc (XS r1 r2 r3 r4 r5));rw[<-J]at F D G I K;have A:M6 (_/\_/\_/\_/\_):=⟨I,F,D,G,K⟩;clear I F D G K hO f M s
  go_wp2_with fail
  refine(b8.out _).mono ?_;rintro r w3 ⟨rfl,rfl⟩;rw[<-J];clear J V U Q Y Z N;obtain⟨d0,d1,b7,b6,b5⟩:=Xa A.out.2.2.1;have E:M6 _:=aaO (aco _ C) A.out.2.2.1 A.out.2.2.2.1 (by omega)
  go_wp2_with fail
  refine(YY _ _ _ _).mono ?_;rw[h2];rintro r C ⟨rfl,rfl⟩
  go_wp2_with fail
  refine(YY _ _ _ _).mono ?_;rw[h3];rintro r C ⟨rfl,rfl⟩;go_wp2;exact Np (v:=Nv #[YC (MG MH 0 0) (MG MH 0 0),yB 0,M3 Nb,yB 2]) (adx TL rfl rfl rfl rfl (aaQ E.out.1)) rfl (agi HE.out E.out.2.1 E.out.2.2)
 have g5:=M2 h2;have g9:=M2 h3;have d7:=HQ.out;rw[Nh ⟨M2 g8.out.symm,g5,g9⟩]at d7;have j2:IntKind.i64.wrap (now+drain)=now+drain:=by rw[Ow];omega
 clear HQ;obtain⟨⟨x1,x2,x3,x4,x5⟩,hx⟩:∃x,x=R[ZV R r1]?.getD (0,0,0,0,0):=⟨_,rfl⟩;obtain⟨bo,h7⟩:=yE (Nn (ZV R r1<R.length));rw[<-hx]at d7;have HX:M6 (_/\_/\_):=⟨hx,h7,d7⟩;obtain⟨n0,n1⟩:=g5;obtain⟨n2,n3⟩:=g9;clear hx h7 d7;cases bo
 case true =>
  have HE:M6 (O=((L,R),x5,Nb,0)):=by rw[HX.out.2.2];exact Nh (M2 HX.out.2.1.symm)
  go_enter aAa,az8
  go_wp2_with fail
  rw[<-H.out.1];refine Nd HO.out ?_;intro r w1 a5;obtain⟨T,p,k,q,m,rfl,hO,f⟩:=acr a5;obtain⟨V,U,Q,Y,Z,N⟩:=YD (WO H.out.2.1 f);have s:=WQ w1 (o:=XS r1 r2 r3 r4 r5);have F:=WO (WO H.out.2.1 f) s;have D:=WO (WO H.out.2.2.1 f) s;have M:=(H.out.2.2.2.1.trans (f.mono H.out.2.2.2.1.size));have G:=M.trans (s.mono M.size);have I:=hO.below s;have K:=Nm f.size s.size;clear a5 c0 c1 b9;obtain⟨C,J⟩:=yE (w1.alloc (XS r1 r2 r3 r4 r5));rw[<-J]at F D G I K;have A:M6 (_/\_/\_/\_/\_):=⟨I,F,D,G,K⟩;clear I F D G K hO f M s
  go_wp2_with fail
  refine(b8.out _).mono ?_;rintro r w3 ⟨rfl,rfl⟩;rw[<-J];clear J V U Q Y Z N
  go_wp2_with fail
  refine(YY _ _ _ _).mono ?_;rw[h2];rintro r C ⟨rfl,rfl⟩
  go_wp2_with fail
  refine(YY _ _ _ _).mono ?_;rw[h3];rintro r C ⟨rfl,rfl⟩;obtain⟨V,U,Q,Y,Z,N⟩:=YD A.out.2.1;have HA:M6 _:=ah8 W0.heap.size T p k q m L R r1 C A.out.1 x1 x2 x3 x4 x5 Nw HX.out.1 HX.out.2.1
  go_wp2_with fail
  refine Nd HA.out ?_;rintro r w3 ⟨rfl,a7⟩;obtain⟨w4,a6⟩:=yE (w3.alloc (XS x1 x2 x3 x4 x5));have P:yA C w4:=by rw[a6];exact a7.alloc a7.size _
  have a8:=A.out.1.below P;have a9:=WO A.out.2.2.1 P;have c9:=WO A.out.2.1 P;have b3:=A.out.2.2.2.1.trans (P.mono A.out.2.2.2.1.size);have c7:=Nm A.out.2.2.2.2 P.size;have g7:w4.heap[w3.heap.size]?=MI (XS x1 x2 x3 x4 x5):=by rw[a6];exact M1 _ _
  clear V U Q Y Z N;obtain⟨d0,d1,b7,b6,b5⟩:=Xa a9;obtain⟨t0,t1,_,_,c8⟩:=Xa a8.box;obtain⟨y0,y1,y2,y3,y4,i9⟩:=YD g7;have hs:=H.out.2.2.2.2.1;have E:M6 _:=aaO (a8.new (by omega)) a9 b3 (by omega);clear a8 a9 b3 c7 g7 a7 P hs c9
  go_upto_region 8 with fail
  rw[<-a6];clear a6
  go_region
  all_goals
   go_wp2;exact Np (v:=Nv #[YC (MG p L.length k) (MG q R.length m),yB x5,M3 Nb,yB 0]) (adx TL rfl rfl rfl rfl (aaQ (W:=(acs w4 (w.heap.size+1+1) (MG p L.length k) (MG q R.length m)).drew) E.out.1)) rfl (ah7 HE.out rfl rfl E.out.2.1.GY E.out.2.2.drew)
 case false =>
  by_cases h100:R.length=100
  ·have HE:M6 (O=((L,R),9,Nb,0)):=by rw[HX.out.2.2,Nf (Nc HX.out.2.1.symm)];exact Nh h100
   have HH:M6 _:=h100;rw[h100]at H HO c1 i7⊢;clear h100;go_enter aAa,az8
   go_wp2_with fail
   rw[<-H.out.1];refine Nd HO.out ?_;intro r w1 a5;obtain⟨T,p,k,q,m,rfl,hO,f⟩:=acr a5;rw[HH.out]at hO;obtain⟨V,U,Q,Y,Z,N⟩:=YD (WO H.out.2.1 f);have s:=WQ w1 (o:=XS r1 r2 r3 r4 r5);have F:=WO (WO H.out.2.1 f) s;have D:=WO (WO H.out.2.2.1 f) s;have M:=(H.out.2.2.2.1.trans (f.mono H.out.2.2.2.1.size));have G:=M.trans (s.mono M.size);have I:=hO.below s;have K:=Nm f.size s.size;clear a5 c0 c1 b9;obtain⟨C,J⟩:=yE (w1.alloc (XS r1 r2 r3 r4 r5));rw[<-J]at F D G I K;have A:M6 (_/\_/\_/\_/\_):=⟨I,F,D,G,K⟩;clear I F D G K hO f M s
   go_wp2_with fail
   refine(b8.out _).mono ?_;rintro r w3 ⟨rfl,rfl⟩;rw[<-J];clear J V U Q Y Z N
   go_wp2_with fail
   refine(YY _ _ _ _).mono ?_;rw[h2];rintro r C ⟨rfl,rfl⟩
   go_wp2_with fail
   refine(YY _ _ _ _).mono ?_;rw[h3];rintro r C ⟨rfl,rfl⟩;obtain⟨V,U,Q,Y,Z,N⟩:=YD A.out.2.1;have HA:M6 _:=ah8 W0.heap.size T p k q m L R r1 C (by rw[HH.out];exact A.out.1) x1 x2 x3 x4 x5 Nb HX.out.1 HX.out.2.1
   go_wp2_with fail
   refine Nd HA.out ?_;rintro r w3 ⟨rfl,a7⟩;obtain⟨w4,a6⟩:=yE (w3.alloc (XS x1 x2 x3 x4 x5));have P:yA C w4:=by rw[a6];exact a7.alloc a7.size _
   have a8:=A.out.1.below P;have a9:=WO A.out.2.2.1 P;have c9:=WO A.out.2.1 P;have b3:=A.out.2.2.2.1.trans (P.mono A.out.2.2.2.1.size);have c7:=Nm A.out.2.2.2.2 P.size;clear V U Q Y Z N;obtain⟨d0,d1,b7,b6,b5⟩:=Xa a9;obtain⟨t0,t1,_,_,c8⟩:=Xa a8.box;have hs:=H.out.2.2.2.2.1;have E:M6 _:=aaO (a8.new (by omega)) a9 b3 (by omega);rw[a6]at d0 d1 b7 b6 b5 t0 t1 c8;clear a8 a9 b3 c7 a7 P hs c9;go_wp2;rw[<-a6];exact Np (v:=Nv #[YC (MG p L.length k) (MG q 100 m),yB 9,M3 Nb,yB 0]) (adx TL rfl rfl rfl rfl (aaQ E.out.1)) rfl (ah7 HE.out rfl HH.out.symm E.out.2.1 E.out.2.2)
  ·have i8:((R.length:Int) == 100)=false:=by simp;omega
   obtain⟨⟨⟨L',R'⟩,f7⟩,e9⟩:∃x,x=Zl L R (r1,r2,r3,r4,r5) (now+drain):=⟨_,rfl⟩;have HE:M6 (O=((L',R'),f7,Nw,0)):=by
    rw[HX.out.2.2,Nf (Nc HX.out.2.1.symm),Nf h100,<-e9];exact rfl
   have HT:M6 _:=e9.symm;clear e9;go_enter aAa,az8
   go_wp2_with fail
   rw[<-H.out.1];refine Nd HO.out ?_;intro r w1 a5;obtain⟨T,p,k,q,m,rfl,hO,f⟩:=acr a5;obtain⟨V,U,Q,Y,Z,N⟩:=YD (WO H.out.2.1 f);have s:=WQ w1 (o:=XS r1 r2 r3 r4 r5);have F:=WO (WO H.out.2.1 f) s;have D:=WO (WO H.out.2.2.1 f) s;have M:=(H.out.2.2.2.1.trans (f.mono H.out.2.2.2.1.size));have G:=M.trans (s.mono M.size);have I:=hO.below s;have K:=Nm f.size s.size;clear a5 c0 c1 b9;obtain⟨C,J⟩:=yE (w1.alloc (XS r1 r2 r3 r4 r5));rw[<-J]at F D G I K;have A:M6 (_/\_/\_/\_/\_):=⟨I,F,D,G,K⟩;clear I F D G K hO f M s
   go_wp2_with fail
   refine(b8.out _).mono ?_;rintro r w3 ⟨rfl,rfl⟩;rw[<-J];clear J V U Q Y Z N
   go_wp2_with fail
   refine(YY _ _ _ _).mono ?_;rw[h2];rintro r C ⟨rfl,rfl⟩
   go_wp2_with fail
   refine(YY _ _ _ _).mono ?_;rw[h3];rintro r C ⟨rfl,rfl⟩;obtain⟨V,U,Q,Y,Z,N⟩:=YD A.out.2.1;have HA:M6 _:=ah8 W0.heap.size T p k q m L R r1 C A.out.1 x1 x2 x3 x4 x5 Nb HX.out.1 HX.out.2.1
   go_wp2_with fail
   refine Nd HA.out ?_;rintro r w3 ⟨rfl,a7⟩;obtain⟨w4,a6⟩:=yE (w3.alloc (XS x1 x2 x3 x4 x5));have P:yA C w4:=by rw[a6];exact a7.alloc a7.size _
   have a8:=A.out.1.below P;have a9:=WO A.out.2.2.1 P;have c9:=WO A.out.2.1 P;have b3:=A.out.2.2.2.1.trans (P.mono A.out.2.2.2.1.size);have c7:=Nm A.out.2.2.2.2 P.size;clear V U Q Y Z N;obtain⟨V,U,Q,Y,Z,N⟩:=YD c9;obtain⟨t0,t1,_,_,c8⟩:=Xa a8.box;have hs:=H.out.2.2.2.2.1;have f9:M6 (_/\_/\_):=⟨asz W0.heap.size T p k q m L R r1 r2 r3 r4 r5 (now+drain) w4 c7 a8 i5 i6 (by omega) L' R' f7 HT.out,a9,b3⟩;rw[a6]at V U Q Y Z N t0 t1 c8;clear a8 a9 b3 c7 a7 P hs c9 h100
   go_wp2_with fail
   rw[<-a6];refine Nd f9.out.1 ?_;rintro r w5 ⟨rfl,⟨p',c',q',m',f8⟩,e8⟩;have hs:=H.out.2.2.2.2.1;have f6:=(e8.block (w.heap.size+1+1) (by omega)).trans f9.out.2.1;have g6:yA w w5:=f9.out.2.2.trans (e8.mono (by omega));obtain⟨d0,d1,b7,b6,b5⟩:=Xa f6;clear t0 t1 c8 V U Q Y Z N;obtain⟨t0,t1,_,_,c8⟩:=Xa f8.box;have E:M6 _:=aaO (f8.new (by omega)) f6 g6 (by omega);clear f8 f6 g6 e8 hs a6;go_wp2;exact Np (v:=Nv #[YC (MG p' L'.length c') (MG q' R'.length m'),yB f7,M3 Nw,yB 0]) (adx TL rfl rfl rfl rfl (aaQ E.out.1)) rfl (ah7 HE.out rfl rfl E.out.2.1 E.out.2.2)
theorem aaf.F6{w:MO}{l:List Int}(h:aaf w v l):
  ∃a cap,v=MG a l.length cap/\l.length<=cap/\cap<=NE/\∀i (hi:i<l.length),∃b off,a=MI ⟨b,off,MH⟩/\b<w.heap.size/\w.cell? ⟨b,off+i,MH⟩=MI (yB l[i]):=by
 obtain⟨a,cap,m,A,f,o⟩:=aat.F6 alU h;refine⟨a,cap,m,A,f,fun i hi=>?_⟩;obtain⟨b,off,e,q,s⟩:=o i hi;have:=s 0 (by omega);rw[P6,Oe]at this;exact⟨b,off,e,q,this⟩
theorem al9:∀(L:List Lf) (a:Int),L.Pairwise (fun x y=>x.1<y.1)->(∀x∈L,a<=x.1/\x.1<=11)->L=[]\/(L.length:Int)<=12-a
 | [],_,_,_=>Nt rfl
 |x::l,a,h,hb=>by
  right;have f:=ZAe.1 h;have o:=hb x (by simp);have:=al9 l (x.1+1) f.2 fun y hy=>⟨by have:=f.1 y hy;omega,(hb y (by simp[hy])).2⟩
  rcases this with rfl|m
  ·simp;omega
  ·simp;omega
theorem aig{L:List Lf}(h:ZD L):L.length<=12:=by
 rcases al9 L 0 h.2 (fun x hx=>(h.1 x hx).1.1)with rfl|h2
 ·simp
 ·omega
theorem asw{L:List Lf}(h:L.Pairwise (fun x y=>x.1<y.1))(hi:i<L.length)(hy:y.1=L[i].1):(L.set i y).Pairwise (fun x y=>x.1<y.1):=by
 rw[List.pairwise_iff_getElem]at h⊢;intro a b m f o;rw[NA]at m f;have:=h a b m f o;rw[Pc,Pc]
 split <;> split
 ·omega
 ·rename_i e _;subst e;rw[hy];exact this
 ·rename_i _ e;subst e;rw[hy];exact this
 ·exact this
theorem aii{α:Type}{L:List α}{x y:α}(h:x∈L.set i y):x∈L\/x=y:=OB h
theorem aih{L:List Lf}(h:ZD L)(hi:i<L.length)(hy:y.1=L[i].1)(hok:Y7 y):ZD (L.set i y):=
 ⟨fun x hx=>(aii hx).elim (h.1 x) (fun e=>by rw[e];exact hok),asw h.2 hi hy⟩
theorem al1{α:Type}{L:List α}{x y:α}(h:x∈Xi L y i):x∈L\/x=y:=by
 unfold Xi at h;rcases QF.1 h with h|h
 ·exact Nt (List.mem_of_mem_take h)
 ·rcases OO.1 h with h|h
  ·exact NF h
  ·exact Nt (List.mem_of_mem_drop h)
theorem asv{L:List Lf}(h:L.Pairwise (fun x y=>x.1<y.1))(hh:Ys L n=Nb)(hy:y.1=n):(Xi L y (Xk L n)).Pairwise (fun x y=>x.1<y.1):=by
 unfold Xi;have s:=arY hh h;have F:=agk L n;have q:∀a∈L.take (Xk L n),a.1<n:=by
  intro a m;obtain⟨j,A,rfl⟩:=List.mem_take_iff_getElem.1 m;exact al4 (by omega)
 have o:∀b∈L.drop (Xk L n),n<b.1:=by
  intro b f;obtain⟨j,A,rfl⟩:=List.mem_drop_iff_getElem.1 f;have E:=al5 (L:=L) (n:=n) (by omega);have C:=s L[Xk L n+j] (Nk _);rcases Nat.eq_zero_or_pos j with e|e
  ·subst e
   simp only[Oe]at C⊢;omega
  ·have D:=List.pairwise_iff_getElem.1 h (Xk L n) (Xk L n+j) (by omega) (by omega) (by omega)
   omega
 refine List.pairwise_append.2 ⟨h.sublist (List.take_sublist _ _),ZAe.2 ⟨fun b f=>by rw[hy];exact o b f,h.sublist (List.drop_sublist _ _)⟩,fun a m b f=>?_⟩;rcases OO.1 f with rfl|f
 ·rw[hy];exact q a m
 ·have:=q a m
  have:=o b f;omega
theorem asi{L:List Lf}(h:ZD L)(hh:Ys L n=Nb)(hy:y.1=n)(hok:Y7 y):ZD (Xi L y (Xk L n)):=
 ⟨fun x hx=>(al1 hx).elim (h.1 x) (fun e=>by rw[e];exact hok),asv h.2 hh hy⟩
theorem aia{L:List Lf}(h:Ys L n=Nw):L[Xk L n]?.getD (0,0,0,0,0,0)=L[Xk L n]'(aa2 h):=by
 rw[MR (aa2 h)];rfl
theorem asa{L:List Lf}{m:Int}(h:x∈(Zu L n m).1):x∈L\/(x=(n,1,m,0,0,0)/\(0<=n/\n<=11)/\(1<=m/\m<=8)):=by
 unfold Zu at h
 split at h
 ·exact Nt h
 ·rename_i hc
  have f:(0<=n/\n<=11)/\(1<=m/\m<=8):=by omega
  split at h
  ·split at h
   ·exact(aii h).imp id (fun e=>⟨e,f⟩)
   ·exact Nt h
  ·exact(al1 h).imp id (fun e=>⟨e,f⟩)
theorem alW{L:List Lf}(h:ZD L)(n m:Int):ZD (Zu L n m).1:=by
 unfold Zu
 split
 ·exact h
 ·rename_i hc
  have o:(0<=n/\n<=11)/\(1<=m/\m<=8):=by omega
  have f:Y7 (n,1,m,0,0,0):=⟨⟨o.1,o.2,(show(0:Int)<=0/\(0:Int)<=1099511627776 by decide),(show(0:Int)<=0/\(0:Int)<=1099511628276 by decide),(show(0:Int)<=0/\(0:Int)<=1048576 by decide)⟩,Nt ⟨rfl,rfl,rfl,rfl⟩⟩
  split
  ·rename_i hh
   split
   ·exact aih h (aa2 hh) (aib hh).symm f
   ·exact h
  ·rename_i hh
   exact asi h (by simpa using hh) rfl f
theorem ast{L:List Lf}(h:x∈(ZH L n id u).1):x∈L\/∃y∈L,x=aag y u id:=by
 unfold ZH at h
 split at h
 ·rename_i hh
  split at h
  ·exact Nt h
  ·split at h
   ·exact Nt h
   ·rw[aia hh]at h
    exact(aii h).imp (fun e=>e) (fun e=>⟨_,Nk _,e⟩)
 ·exact Nt h
theorem arX(h:Y7 y)(hu:0<=u/\u<=1099511628276)(hid:0<=id/\id<=1048576):Y7 (aag y u id):=by
 refine⟨⟨h.1.1,h.1.2.1,h.1.2.2.1,hu,hid⟩,?_⟩;unfold aag
 by_cases h2:y.2.1=2
 ·rw[Nh h2];exact NF (NF (Nt rfl))
 ·rw[Nf h2];exact NF (NF (NF rfl))
theorem asu{L:List Lf}(h:ZD L)(n:Int)(hu:0<=u/\u<=1099511628276)(hid:0<=id/\id<=1048576):ZD (ZH L n id u).1:=by
 unfold ZH
 split
 ·rename_i hh
  split
  ·exact h
  ·split
   ·exact h
   ·rw[aia hh]
    exact aih h (aa2 hh) rfl (arX (h.1 _ (Nk _)) hu hid)
 ·exact h
theorem asn{R:List Rq}(h:¬ZV R id<R.length):∀r∈R,r.1≠id:=by
 intro r f e;have:ZV R id<R.length:=List.findIdx_lt_length_of_exists ⟨r,f,by simpa using e⟩;exact h this
theorem al3{R:List Rq}(h:∀r∈R,r.1≠id):¬ZV R id<R.length:=by
 intro f;have:=List.findIdx_getElem (w:=f);unfold ZV at f;exact h _ (Nk f) (by simpa using this)
theorem ama{R:List Rq}(h:ad9 R)(hr:abY r)(hn:∀q∈R,q.1≠r.1):ad9 (R++[r]):=by
 refine⟨fun x f=>?_,List.pairwise_append.2 ⟨h.2,by simp,fun a ha b hb=>?_⟩⟩
 ·rcases QF.1 f with f|f
  ·exact h.1 x f
  ·simp at f
   rw[f];exact hr
 ·simp at hb
  rw[hb];exact hn a ha
theorem asB{L:List Lf}{R:List Rq}(hb:Ym L R)(hR:R.length<100)(hr:abY r)(hn:∀q∈R,q.1≠r.1)(hu:0<=u/\u<=1099511628276):
  Ym (Zl L R r u).1.1 (Zl L R r u).1.2/\(Zl L R r u).1.2.length=R.length+1/\(∀q∈(Zl L R r u).1.2,q∈R\/q.1=r.1)/\(∀x∈(Zl L R r u).1.1,x∈L\/(r.2.1=1/\x=(r.2.2.1,1,r.2.2.2.1,0,0,0))\/∃y∈L,x=aag y u r.1):=by
 unfold Zl
 split
 ·rename_i hk
  have m:=alW hb.1.2 r.2.2.1 r.2.2.2.1;refine⟨⟨⟨aig m,m⟩,by simp;omega,ama hb.2.2 hr hn⟩,by simp,fun q f=>?_,fun x hx=>?_⟩
  ·rcases QF.1 f with f|f
   ·exact Nt f
   ·simp at f;exact NF (by rw[f])
  ·exact(asa hx).imp id (fun h=>Nt ⟨hk,h.1⟩)
 ·have m:=asu hb.1.2 r.2.2.1 hu hr.1
  refine⟨⟨⟨aig m,m⟩,by simp;omega,ama hb.2.2 hr hn⟩,by simp,fun q f=>?_,fun x hx=>?_⟩
  ·rcases QF.1 f with f|f
   ·exact Nt f
   ·simp at f;exact NF (by rw[f])
  ·exact(ast hx).imp id NF
theorem arQ{L:List Lf}{R:List Rq}(hb:Ym L R)(hR:R.length<100)(ha:acT r now drain)(hn:∀q∈R,q.1≠r.1):ZU L R r now drain=((Zl L R r (now+drain)).1,(Zl L R r (now+drain)).2,Nw,0):=by
 unfold ZU;rw[Nh hb,Nh ha,Nf (al3 hn),Nf (by omega)]
theorem arR{L:List Lf}{R:List Rq}(hb:Ym L R)(ha:acT r now drain)(hn:ZV R r.1<R.length):ZU L R r now drain=((L,R),(R[ZV R r.1]?.getD (0,0,0,0,0)).2.2.2.2,Nb,0):=by
 unfold ZU;rw[Nh hb,Nh ha,Nh hn]
theorem amg(now:Int)(x:Lf):(XH now x).1=x.1:=by unfold XH;split <;> rfl
theorem asI(hn:0<=now/\now<=1099511627776)(h:Y7 x):Y7 (XH now x):=by
 unfold XH
 split
 ·rename_i h1
  rcases h.2 with f|f|f|f
  ·exact⟨⟨h.1.1,h.1.2.1,hn,h.1.2.2.2.1,h.1.2.2.2.2⟩,NF (Nt ⟨rfl,f.2.2.1,f.2.2.2⟩)⟩
  ·rw[h1]at f;exact absurd f.1 (by decide)
  ·rw[h1]at f;exact absurd f (by decide)
  ·rw[h1]at f;exact absurd f (by decide)
 ·exact h
theorem asG{L:List Lf}{R:List Rq}(hb:Ym L R)(hn:0<=now/\now<=1099511627776):Ym (L.map (XH now)) R:=by
 refine⟨⟨by rw[N0];exact hb.1.1,fun x hx=>?_,?_⟩,hb.2⟩
 ·obtain⟨y,f,rfl⟩:=ZAd.1 hx
  exact asI hn (hb.1.2.1 y f)
 ·rw[List.pairwise_map]
  refine hb.1.2.2.imp fun {a b} h=>?_
  rw[amg,amg];exact h
theorem amf{L:List Lf}{R:List Rq}(hb:Ym L R)(hn:0<=now/\now<=1099511627776):abn L R now=((L.map (XH now),R),XW L,0):=by
 unfold abn;rw[Nh hb,Nh hn]
theorem arS{L:List Lf}(hr:L.Pairwise (fun a b=>a.1<b.1))(hx:x∈L)(hn:x.1=n):∃h:Ys L n=Nw,L[Xk L n]'(aa2 h)=x:=by
 obtain⟨i,m,rfl⟩:=NV hx;have f:=aic hr m;rw[hn]at f;refine⟨f.1,?_⟩;simp only[f.2]
theorem asl{L:List Lf}(hi:i<L.length)(y:Lf):y∈L.set i y:=by
 have:=Nk (l:=L.set i y) (n:=i) (by rw[NA];exact hi);rwa[NW]at this
theorem arV{L:List Lf}{R:List Rq}(hb:Ym L R)(hx:x∈L)(hxn:x.1=n)(hs:x.2.1=3):∃L',aau L R n=((L',R),0)/\ZF x∈L'/\Ym L' R:=by
 obtain⟨f,o⟩:=arS hb.1.2.2 hx hxn;refine⟨L.set (Xk L n) (ZF x),?_,asl (aa2 f) _,?_⟩
 ·unfold aau
  rw[Nh hb,aia f,o,Nh ⟨f,hs⟩]
 ·have m:=aih hb.1.2 (aa2 f) (y:=ZF x) (by rw[o];rfl) ⟨(hb.1.2.1 x hx).1,NF (NF (NF rfl))⟩
  exact⟨⟨aig m,m⟩,hb.2⟩
theorem arP{L:List Lf}{R:List Rq}(hb:Ym L R)(hR:R.length=100)(ha:acT r now drain)(hn:∀q∈R,q.1≠r.1):ZU L R r now drain=((L,R),9,Nb,0):=by
 unfold ZU;rw[Nh hb,Nh ha,Nf (al3 hn),Nh hR]
end
end Go.Proofs.YtbdpocjfnnojbaaGreatDoor.Q
