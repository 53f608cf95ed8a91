/-
  Contracts of the layers and of core, part 3. Conditions: as each theorem says.
-/
import Derived.BigQuiet
import Derived.Deep.Upon
import Derived.Shelf.Spec.SlicesInsert
import Derived.Shelf.SlSortCmp.QuietGrown
import Derived.Maps.OwnSet
import Derived.Test.YtgnclkcdnbfeeaaGreatDoorQ0
open Bool renaming true->Nw
open Go renaming Addr->Oc,TypeId->NU,Value->M7,World->MO,cell_of_row->MW,heap_alloc_new->M1,info_parts->OF,maxLen->NE
open Go.Builtin renaming append_->N2
open Go.Obj renaming cells->MP
open Go.Proofs.Tryz renaming prog->MK
open Go.RowKit renaming Below->MQ
open Go.RowKit.Below renaming heap_alloc->Ov
open Go.Value renaming slice->MG
open List renaming append_assoc->OC,getElem?_append_left->OJ,getElem?_append_right->Tw,getElem_cons_succ->MT,getElem_cons_zero->MS,length_append->Ns,length_cons->Ox,mem_append->QF,set_append_right->Pw,set_cons_succ->MM,set_cons_zero->ML,take_succ_cons->PT
open Nat renaming add_mul->ON,le_refl->MV,mul_le_mul_right->O7,zero_add->Oa
open Option renaming none->MH,some->MI
open Or renaming inr->NF
namespace Go.Proofs.YtgnclkcdnbfeeaaGreatDoor.Q
set_option linter.unusedVariables false
set_option linter.unusedSimpArgs false
set_option maxHeartbeats 16000000
set_option maxRecDepth 100000
open Go.RowKit
attribute [local go_sem ↓] Go.wp_at_zero Go.wp_at_succ
variable {e:NU}{base n:Nat}
section
variable {α:Type}{c:α->List M7}{k:Nat}
theorem abx(hk:∀x,(c x).length=k):∀l:List α,(rv c l).length=l.length*k
 | []=>by simp[rv]
 |x::l=>by
  simp only[rv,Ns,hk,abx hk l,Ox,ON];omega
theorem acL:∀l m:List α,rv c (l++m)=rv c l++rv c m
 | [],_=>rfl
 |x::l,m=>by simp only[List.cons_append,rv,acL l m,OC]
theorem ZA(hk:∀x,(c x).length=k):∀(l:List α) (i j:Nat) (hi:i<l.length),j<k->(rv c l)[i*k+j]?=(c l[i])[j]?
 |x::l,0,j,_,hj=>by
  simp only[rv,Nat.zero_mul,Oa,MS];rw[OJ (by simp[hk,hj])]
 |x::l,i+1,j,hi,hj=>by
  have a:=ZA hk l i j (by simpa using hi) hj;simp only[rv,MT];rw[Tw (by simp only[hk,ON];omega),<-a]
  congr 1
  simp only[hk,ON];omega
theorem adm(h1:∀x,∀u∈c x,u.oneCell'=Nw)(l:List α):∀u∈rv c l,u.oneCell'=true:=by
 induction l with
 |nil=>simp[rv]
 |cons x l ih =>
  intro u a;simp only[rv,QF]at a;rcases a with a|a
  ·exact h1 x u a
  ·exact ih u a
theorem ahF(hk:∀x,(c x).length=k):∀(l:List α) (i:Nat),(rv c l).take (i*k)=rv c (l.take i)
 | [],i=>by simp[rv]
 |x::l,0=>by simp[rv]
 |x::l,i+1=>by
  simp only[rv,PT];rw[show(i+1)*k=(c x).length+i*k by simp only[hk,ON];omega,List.take_length_add_append,ahF hk l i]
theorem ak4(hk:∀x,(c x).length=k):∀(l:List α) (i:Nat),(rv c l).drop (i*k)=rv c (l.drop i)
 | [],i=>by simp[rv]
 |x::l,0=>by simp[rv]
 |x::l,i+1=>by
  simp only[rv,List.drop_succ_cons];rw[show(i+1)*k=(c x).length+i*k by simp only[hk,ON];omega,List.drop_length_add_append,ak4 hk l i]
theorem ack(hk:∀x,(c x).length=k):∀(l:List α) (i j:Nat) (v:M7) (y:α) (hi:i<l.length),j<k->c y=(c l[i]).set j v->(rv c l).set (i*k+j) v=rv c (l.set i y)
 |x::l,0,j,v,y,_,hj,hy=>by
  simp only[rv,Nat.zero_mul,Oa,ML,MS]at hy⊢;rw[List.set_append_left _ _ (by simp[hk,hj]),hy]
 |x::l,i+1,j,v,y,hi,hj,hy=>by
  have a:=ack hk l i j v y (by simpa using hi) hj (by simpa using hy);simp only[rv,MM];rw[Pw _ _ (by simp only[hk,ON];omega),<-a]
  congr 2
  simp only[hk,ON];omega
end
section
variable {α:Type}{c:α->List M7}{k:Nat}{w w':MO}{v:M7}{l:List α}
theorem Xw.below(h:Xw c w v l)(hb:MQ w.heap.size w w'):Xw c w' v l:=XB.below h hb
theorem ak3(w:MO):Xw c w (MG MH 0 0) ([]:List α):=Z3 w
theorem Xw.F6(hk:∀x,(c x).length=k)(h:Xw c w v l) :
  ∃a cap,v=MG a l.length cap/\l.length<=cap/\cap<=NE/\∀i (hi:i<l.length),∃b off,a=MI ⟨b,off,MH⟩/\b<w.heap.size/\∀j,j<k->w.cell? ⟨b,off+i*k+j,MH⟩=(c l[i])[j]?:=by
 obtain⟨a,cap,m,f,d,g|⟨b,off,g,q,p⟩⟩:=h
 ·exact⟨a,cap,m,f,d,fun i hi=>absurd hi (by omega)⟩
 ·refine⟨a,cap,m,f,d,fun i hi=>⟨b,off,g,q,fun j hj=>?_⟩⟩
  have o:i*k+j<l.length*k:=by
   have:(i+1)*k<=l.length*k:=O7 _ hi;rw[ON]at this;omega
  rw[Nat.add_assoc,p (i*k+j) (by rw[abx hk];exact o)];exact ZA hk l i j hi hj
theorem abw(h:w.ownsRow base e k v l.length (rv c l)):Xw c w v l:=Yr h
theorem adn(hk:∀x,(c x).length=k){g cap:Nat}(h:w.ownsRow base e k (MG (MI ⟨g,0,MH⟩) n cap) n (rv c l)){i j:Nat}(hi:i<l.length)(hj:j<k)(a:M7)(y:α)(hy:c y=(c l[i]).set j a):
  (w.setCell ⟨g,i*k+j,MH⟩ a).ownsRow base e k (MG (MI ⟨g,0,MH⟩) n cap) n (rv c (l.set i y)):=by
 have:=(h.stored (i*k+j) a).1;rwa[ack hk l i j a y hi hj hy]at this
theorem abU(hk:∀x,(c x).length=k){g cap:Nat}(h:w.ownsRow base e k (MG (MI ⟨g,0,MH⟩) n cap) n (rv c l))(hn:n=l.length){i j:Nat}(hi:i<l.length)(hj:j<k):w.cell? ⟨g,i*k+j,MH⟩=(c l[i])[j]?:=by
 have a:i*k+j<n*k:=by
  have:(i+1)*k<=l.length*k:=O7 _ hi;rw[ON]at this;rw[hn];omega
 rw[h.cellAt _ a];exact ZA hk l i j hi hj
variable {t e:NU}{z:M7}{bytes:Nat}
theorem ag6(hk:∀x,(c x).length=k)(h1:∀x,∀u∈c x,u.oneCell'=Nw)(hk0:0<k)(ht:Tryz.prog.underlying t=MI (.slice e))(hinfo:(Tryz.prog.info? e).map (fun i=>(i.zero,i.size,i.bytes))=MI (MI z,k,bytes))(hz:z.cells.size=k){w:MO}{p:Option Oc}{cc:Nat}{m:List α}(ho:w.ownsRow base e k (MG p n cc) n (rv c m))(hb:base<=w.heap.size)
  (ty:NU) (u:M7) (l:List α) (hu:Xw c w u l) (h0:0<l.length) (hl:(n+l.length)*bytes<=140737488355328) (hl2:n+l.length<=NE) :
  ∃g c' w',(N2 #[t,t] ty #[MG p n cc,u]).run MK w=.ok (MG (MI ⟨g,0,MH⟩) (n+l.length) c') w'/\w'.ownsRow base e k (MG (MI ⟨g,0,MH⟩) (n+l.length) c') (n+l.length) (rv c (m++l))/\w.grownBy w' (MG p n cc).ownBlock/\((MG p n cc).ownBlock=MI g\/g=w.heap.size):=by
 obtain⟨B,D,q,r,s⟩:=OF hinfo;obtain⟨a,y,rfl,H,G,h⟩:=hu;rcases h with⟨h,_⟩|⟨b,off,rfl,F,o⟩
 ·omega
 ·obtain⟨g,c',w',E,d,A,f,_⟩:=run_append_lies (P:=MK) w t ty base e B _ k bytes ht D q r s hz hk0 (MG p n cc) n (rv c m) ho ⟨b,off,MH⟩ l.length y (rv c l) (abx hk l) (fun j x hx=>by
   have C:=(List.getElem?_eq_some_iff.1 hx).1;rw[aas,o j C,hx]) (adm h1 l) h0 hl2 hl hb _ rfl
  rw[<-acL]at d;exact⟨g,c',w',E,d,A,f⟩
theorem afC(hk:∀x,(c x).length=k)(h1:∀x,∀u∈c x,u.oneCell'=Nw)(hk0:0<k)(ht:Tryz.prog.underlying t=MI (.slice e))(hinfo:(Tryz.prog.info? e).map (fun i=>(i.zero,i.size,i.bytes))=MI (MI z,k,bytes))(hz:z.cells.size=k){w:MO}{p:Option Oc}{cc:Nat}{m:List α}(ho:w.ownsRow base e k (MG p n cc) n (rv c m))(hb:base<=w.heap.size)
  (ty:NU) (x:α) (cs:Array M7) (hcs:cs.toList=c x) (hl:(n+1)*bytes<=140737488355328) (hl2:n+1<=NE) :
  ∃g c' w',(N2 #[t,t] ty #[MG p n cc,MG (MI ⟨w.heap.size,0,MH⟩) 1 1]).run MK (w.alloc (MP cs e))=.ok (MG (MI ⟨g,0,MH⟩) (n+1) c') w' /\
   w'.ownsRow base e k (MG (MI ⟨g,0,MH⟩) (n+1) c') (n+1) (rv c (m++[x]))/\w.grownBy w' (MG p n cc).ownBlock/\((MG p n cc).ownBlock=MI g\/w.heap.size<g):=by
 have f:rv c [x]=cs.toList:=by rw[hcs];simp[rv]
 have d:Xw c (w.alloc (MP cs e)) (MG (MI ⟨w.heap.size,0,MH⟩) 1 1) [x]:=by
  refine⟨_,1,rfl,MV _,by unfold NE;omega,NF ⟨w.heap.size,0,rfl,by simp,fun i hi=>?_⟩⟩;rw[Oa,MW _ w.heap.size i cs e (0,0) (M1 w _),f];simp
 obtain⟨g,c',w',h1,o,a,b⟩:=ag6 hk h1 hk0 ht hinfo hz (ho.alloc _) (by simp;omega) ty _ [x] d (by simp) hl hl2;refine⟨g,c',w',h1,o,⟨a.os,a.tape,a.output,?_,fun j hj hne=>?_⟩,b.imp id fun h=>?_⟩
 ·have:=a.size;simp at this;omega
 ·rw[a.block j (by simp;omega) hne];exact Ov _ _ _ hj
 ·rw[h];simp
end
end Go.Proofs.YtgnclkcdnbfeeaaGreatDoor.Q
