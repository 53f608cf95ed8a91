/-
  TopRing: its walk. Conditions: as each theorem says.
-/
import Derived.Test.YtlnbhjdhcmgljaaGreatDoorQ20
open Bool renaming false->Nb,true->Nw
open Go renaming Addr->Oc,Calls->Ni,Value->M7,World->MO,cell_of_row->MW,heap_alloc_new->M1,maxLen->NE,wpAnyH_ready->NN,wpList_load_mid->O3,wpList_store_mid->OW,yieldsIf_load_mid->Pt
open Go.Act renaming put->Nr
open Go.AllReadyH renaming cons->NP,nil->NX
open Go.Calls renaming mono->Nd
open Go.Ending renaming returned->MN
open Go.IntKind renaming i64->ME
open Go.Obj renaming cells->MP
open Go.Operand renaming tmp->O6
open Go.Proofs.Tryz renaming prog->MK,underlying54->U1,underlying62->Yc
open Go.RowKit renaming Below->MQ,Hid->M6
open Go.RowKit.Below renaming refl->MY
open Go.Value renaming agg->Ny,bool->M3,int->MF,pointer->Na,slice->MG,tuple->Nv
open Int renaming eq_ofNat_of_zero_le->NL,le_refl->Qh,mul_le_mul_of_nonneg_left->XZ,mul_le_mul_of_nonneg_right->XY,one_mul->Yd
open List renaming countP_append->Qi,countP_cons_of_pos->X5,foldl_cons->O4,getElem?_eq_getElem->MR,getElem_cons_succ->MT,getElem_cons_zero->MS,getElem_mem->Nk,getElem_toArray->MZ,map_congr_left->PU,map_cons->OA,map_map->Ya,mem_cons_of_mem->NB,mem_cons_self->NM,pairwise_map->XX,range->Pm,setIfInBounds_toArray->MJ,set_cons_succ->MM,set_cons_zero->ML,size_toArray->OQ,sum_cons->XW,take_length->NT,take_succ_eq_append_getElem->M9,toList_toArray->NS
open List.Pairwise renaming filter->X6,imp->Yb
open Nat renaming zero_le->Nx
open Option renaming none->MH,some->MI
open Or renaming inl->Nt,inr->NF
namespace Go.Proofs.YtlnbhjdhcmgljaaGreatDoor.Q
set_option linter.unusedVariables false
set_option linter.unusedSimpArgs false
set_option maxHeartbeats 16000000
set_option maxRecDepth 100000
open Go.RowKit
attribute [local go_sem ↓] Go.wp_at_zero Go.wp_at_succ
variable {G:Gt}{a c:Int}{l:List Ld}{w:MO}{g i:Nat}{x:Ou}{V:Pv}{P:Py}{U:Us}
theorem Xm{out:List Int}{t:Tm}{x:Int}:x∈ma out t↔x∈out\/x=t.2:=by
 unfold ma
 split
 ·rename_i h
  exact⟨Nt,fun h2=>h2.elim id (fun e=>by rw[e];exact h)⟩
 ·simp
theorem Xl:∀(m:List Tm) (x:List Int),x.Nodup->(m.foldl ma x).Nodup
 | [],_,h=>h
 |t::m,x,h=>by
  rw[O4];refine Xl m _ ?_;unfold ma
  split
  ·exact h
  ·rename_i hn
   rw[List.nodup_append];exact⟨h,by simp,fun a ha b hb e=>hn (by rw[List.mem_singleton]at hb;rw[<-hb,<-e];exact ha)⟩
theorem Xk:∀(m:List Tm) (x:List Int) (n:Int),n∈m.foldl ma x↔n∈x\/∃t∈m,t.2=n
 | [],x,n=>by simp
 |t::m,x,n=>by
  rw[O4,Xk m,Xm];constructor
  ·rintro((h|h)|⟨t',h1,h2⟩)
   ·exact Nt h
   ·exact NF ⟨t,NM ..,h.symm⟩
   ·exact NF ⟨t',NB _ h1,h2⟩
  ·rintro(h|⟨t',h1,h2⟩)
   ·exact Nt (Nt h)
   ·rcases List.mem_cons.1 h1 with rfl|h1
    ·exact Nt (NF h2.symm)
    ·exact NF ⟨t',h1,h2⟩
theorem Xo(l:List Tm)(at_:Int):(ie l at_).Nodup:=Xl _ [] List.nodup_nil
theorem Xn(l:List Tm)(at_ n:Int):n∈ie l at_↔∃t∈l,t.2=n:=by
 unfold ie vY;rw[Xk];constructor
 ·rintro(h|⟨t,h1,h2⟩)
  ·cases h
  ·exact⟨t,Cv.1 h1,h2⟩
 ·rintro⟨t,h1,h2⟩
  exact NF ⟨t,Cv.2 h1,h2⟩
theorem Xb{b d e:Int}(h:l9 a b c d e):a*(c+1)*d<=ns a b c d e*(b*e)/\(ns a b c d e-1)*(b*e)<a*(c+1)*d/\1<=ns a b c d e/\ns a b c d e<=78720:=by
 obtain⟨_,⟨p1,p2⟩,p3,p4⟩:=zn h;unfold ns;generalize a*(c+1)*d=p at *;generalize b*e=q at *;have h1:=Int.ediv_mul_le (p+q-1) (b:=q) (by omega);have h2:=Int.lt_ediv_add_one_mul_self (p+q-1) (b:=q) (by omega);have h3:1<=(p+q-1) / q:=Int.le_ediv_of_mul_le p3 (by omega);have h4:(p+q-1) / q<=(p+q-1) / q*q:=by
  have:=XZ (a:=1) (b:=q) (c:=(p+q-1) / q) (by omega) (by omega);omega
 generalize (p+q-1) / q=u at *;rw[Int.add_mul,Yd]at h2;rw[Int.sub_mul,Yd];refine⟨by omega,by omega,h3,?_⟩;rcases Int.lt_or_le 1 u with h|h
 ·have:=XZ (a:=1) (b:=q) (c:=u-1) (by omega) (by omega)
  rw[Int.mul_one,Int.sub_mul,Yd]at this;omega
 ·omega
def Xg(l:List Ld):Int:=(l.map fun x=>if 0<x.2.1 then x.2.2 else 0).sum
theorem Xe(a b c t:Int):∀l:List Ld,(∀x∈l,gI x)->(∀x∈l,x.2.1≠0->l9 a b c x.2.1 t)->a*(c+1)*cY l<=(l.map (jp a b c t)).sum*(b*t)
 | [],_,_=>by simp[cY]
 |x::l,h,hf=>by
  have ih:=Xe a b c t l (fun y hy=>h y (NB _ hy)) (fun y hy=>hf y (NB _ hy));have e1:cY (x::l)=x.2.1+cY l:=by simp[cY]
  have e2:((x::l).map (jp a b c t)).sum=jp a b c t x+(l.map (jp a b c t)).sum:=by simp
  rw[e1,e2,Int.mul_add,Int.add_mul];have h1:a*(c+1)*x.2.1<=jp a b c t x*(b*t):=by
   unfold jp
   split
   case isTrue h0=>rw[h0];simp
   case isFalse h0=>exact(Xb (hf x (NM ..) h0)).1
  omega
theorem Xc{b:Int}(hok:ir l)(hf:g8 a b c)(h0:0<cY l):c+1<=(eI a b c l).sum:=by
 have hall:=ju hok.2;have hbd:=nI l hall;have h:=Xe a b c (cY l) l hall fun x hx hx0=>yS hok hf hx hx0
 unfold eI;generalize (l.map (jp a b c (cY l))).sum=u at *;generalize cY l=t at *;obtain⟨⟨h1,h2,h3⟩,h4,h5⟩:=hf;have m1:b*(c+1)<=a*(c+1):=XY h2 (by omega);have m2:b*(c+1)*t<=a*(c+1)*t:=XY m1 (by omega);have m3:(c+1)*(b*t)<=u*(b*t):=by
  have e:b*(c+1)*t=(c+1)*(b*t):=by rw[Int.mul_comm b (c+1),Int.mul_assoc]
  rw[<-e];omega
 exact Int.le_of_mul_le_mul_right m3 (Int.mul_pos (by omega) (by omega))
theorem Xd(a b c t:Int):∀l:List Ld,(∀x∈l,jp a b c t x<=if 0<x.2.1 then x.2.2 else 0)->(l.map (jp a b c t)).sum<=Xg l
 | [],_=>by simp[Xg]
 |x::l,h=>by
  have ih:=Xd a b c t l fun y hy=>h y (NB _ hy)
  have h1:=h x (NM ..);have e2:((x::l).map (jp a b c t)).sum=jp a b c t x+(l.map (jp a b c t)).sum:=by simp
  have e3:Xg (x::l)=(if 0<x.2.1 then x.2.2 else 0)+Xg l:=by simp[Xg]
  rw[e2,e3];omega
theorem Xi{b:Int}(hi:i<l.length):cm l (eI a b c l) i=Decidable.decide (l[i].2.2<jp a b c (cY l) l[i]):=by
 unfold cm;rw[zI,dif_pos hi];simp[hi]
theorem Xj{b:Int}(hok:ir l)(hf:g8 a b c)(h0:0<cY l)(hfl:Xg l<=c):∃i,i<l.length/\cm l (eI a b c l) i=true:=by
 refine Classical.byContradiction fun hn=>?_
 have h1:=Xc hok hf h0;have h2:=Xd a b c (cY l) l fun x hx=>by
  obtain⟨i,hi,rfl⟩:=List.getElem_of_mem hx;have hd:=ju hok.2 l[i] hx;have hr:¬(l[i].2.2<jp a b c (cY l) l[i]):=fun h=>hn ⟨i,hi,by rw[Xi hi];exact Nq h⟩
  have hw:=hd.1.1
  split
  case isTrue=>omega
  case isFalse h =>
   have:l[i].2.1=0:=by omega
   unfold jp;rw[Nh this];exact Qh _
 unfold eI at h1;omega
theorem Xf{b:Int}(hok:ir l)(hf:g8 a b c)(h0:0<cY l)(hfl:Xg l<=c)(ws:List Int)(t:Nat):
  ∃i,∃hi:i<l.length,iu l (eI a b c l) ws t=MI i/\l[i].2.2<jp a b c (cY l) l[i]/\0<l[i].2.1:=by
 obtain⟨j,hj,hrj⟩:=Xj hok hf h0 hfl;have hw:=ru (a:=a) (b:=b) (c:=c) hok;have key:∀i,i<l.length->cm l (eI a b c l) i=Nw->∃hi:i<l.length,l[i].2.2<jp a b c (cY l) l[i]/\0<l[i].2.1:=fun i hi hr=>by
  have h1:=hw i hr;rw[Xi hi]at hr;exact⟨hi,M2 hr,by simpa [hi]using h1⟩
 unfold iu;cases ha:df l (eI a b c l) ws t with
 |some i =>
  obtain⟨h1,h2,_⟩:=mo ha;obtain⟨h3,h4⟩:=key i h1 h2;exact⟨i,h3,rfl,h4⟩
 |none =>
  have hb:=qc hw l.length;cases hl:bL l (eI a b c l) l.length with
  |none =>
   rw[hl]at hb;rw[hb j (Nx _) hj]at hrj;cases hrj
  |some i =>
   obtain⟨h1,h2⟩:=yi hw hl;obtain⟨h3,h4⟩:=key i h1 h2;exact⟨i,h3,rfl,h4⟩
theorem Xa(hok:∀x∈l,gI x):l.any dj=Decidable.decide (0<cY l):=by
 induction l with
 |nil=>rfl
 |cons x l ih =>
  have h1:=ih fun y hy=>hok y (NB _ hy)
  have h2:=nI l fun y hy=>hok y (NB _ hy)
  have h3:=(hok x (NM ..)).1.1;have e1:cY (x::l)=x.2.1+cY l:=by simp[cY]
  rw[List.any_cons,h1,e1];unfold dj
  by_cases h0:x.2.1=0
  ·rw[h0];simp
  ·have h4:0<x.2.1:=by omega
   have h5:0<x.2.1+cY l:=by omega
   simp[h0,h5]
theorem Xh{ws:List Int}{b t:Int}(hok:ir l)(hf:g8 a b c)(ht:0<=t/\t<=12)(hw:ws.length<=12):
  gY ws l a b c t=if 0<cY l then gk l (iu l (eI a b c l) ws t.toNat)else(0,11):=by
 unfold gY;rw[Nh (lN.2 hok),Nh hf,Nh ⟨ht.1,ht.2,hw⟩,Xa (ju hok.2)]
 by_cases h:0<cY l <;> simp[h]
def W8(G:Gt)(b:Int):Int:=if aA G.liv b=2 then gL G (aq G.liv b)else 0
def WY(G:Gt):Int:=((Pm 12).map fun b:Nat=>W8 G b).sum
section
variable {G:Gt}
theorem WW{g:Nat->Int}:∀(l:List Nat) (n:Nat),l.Nodup->n∈l->(∀b∈l,b≠n->g b=0)->(l.map g).sum=g n
 | [],n,_,h,_=>by cases h
 |a::l,n,hn,h,hz=>by
  obtain⟨h1,h2⟩:=List.nodup_cons.1 hn;rw[OA,XW]
  by_cases e:a=n
  ·subst e
   have:(l.map g).sum=0:=by
    have h0:∀b∈l,g b=0:=fun b hb=>hz b (NB _ hb) fun e=>h1 (e ▸ hb)
    clear hz hn h h1 h2
    induction l with
    |nil=>rfl
    |cons b l ih=>rw[OA,XW,h0 b (by simp),ih fun x hx=>h0 x (NB _ hx)];rfl
   omega
  ·rcases List.mem_cons.1 h with h|h
   ·exact absurd h.symm e
   ·rw[hz a (by simp) e,WW l n h2 h fun b hb=>hz b (NB _ hb)]
    omega
theorem WU{f g:Nat->Int}(l:List Nat):(l.map fun b=>f b+g b).sum=(l.map f).sum+(l.map g).sum:=by
 induction l with
 |nil=>rfl
 |cons a l ih=>simp only[OA,XW,ih];omega
theorem WV(W:FV->Int):∀(L:List FV),eo L->(∀x∈L,0<=x.1/\x.1<12)->((Pm 12).map fun b:Nat=>if aA L b=2 then W (aq L b)else 0).sum=((L.filter fun l=>l.2.1 == 2).map W).sum
 | [],_,_=>by
  have:((Pm 12).map fun b:Nat=>if aA [] b=2 then W (aq [] b)else 0)=(Pm 12).map fun _=>0:=PU fun b _=>by rw[Nf (by show ¬(0:Int)=2;decide)]
  rw[this];rfl
 |y::L,hr,hb=>by
  obtain⟨h1,h2⟩:=List.pairwise_cons.1 hr;have ih:=WV W L h2 fun x hx=>hb x (NB _ hx)
  have hy:=hb y (by simp);have hnone:aq L y.1=fE:=tP fun x hx=>by have:=h1 x hx;omega
  have key:∀b∈Pm 12,(if aA (y::L) b=2 then W (aq (y::L) b)else 0)=(if(b:Int)=y.1 then(if y.2.1=2 then W y else 0)else 0)+(if aA L b=2 then W (aq L b)else 0):=fun b _=>by
   by_cases e:(b:Int)=y.1
   ·have q:aq (y::L) b=y:=by rw[e];exact iZ hr (by simp)
    have q2:aq L b=fE:=by rw[e];exact hnone
    rw[show aA (y::L) b=(aq (y::L) b).2.1 from rfl,q,show aA L b=(aq L b).2.1 from rfl,q2,Nh e,Nf (show ¬fE.2.1=2 by decide)];omega
   ·have q:aq (y::L) b=aq L b:=by
     unfold aq;rw[List.find?_cons_of_neg (by simpa using fun h:y.1=(b:Int)=>e h.symm)]
    rw[show aA (y::L) b=(aq (y::L) b).2.1 from rfl,q,Nf e,Int.zero_add]
  rw[PU key,WU,ih,WW (g:=fun b:Nat=>if(b:Int)=y.1 then(if y.2.1=2 then W y else 0)else 0) (Pm 12) y.1.toNat List.nodup_range (List.mem_range.2 (by omega)) fun b _ hne=>Nf (by omega),Nh (by omega)]
  by_cases e:y.2.1=2
  ·rw[Nh e,List.filter_cons_of_pos (by simpa using e),OA,XW]
  ·rw[Nf e,List.filter_cons_of_neg (by simpa using e)]
   omega
theorem WX(h:Bs G)(fs:List Fl):cY (ej G fs)=WY G:=by
 unfold WY W8 cY ej;rw[WV (gL G) G.liv h.Gv fun x hx=>by have:=(h.lf hx).1.1;omega,Ya];rfl
theorem WO(h:Bs G)(fs:List Fl):Xg (ej G fs)<=fs.length:=by
 have h1:∀L:List FV,eo L->∀fs:List Fl,((L.map fun l=>(fX fs l.1:Int)).sum<=fs.length):=by
  intro L hr fs;have:((L.map fun l=>fX fs l.1).sum<=fs.length):=by
   have hn:(L.map (·.1)).Nodup:=List.pairwise_map.2 (hr.imp fun h=>by omega);have e:(L.map fun l=>fX fs l.1)=(L.map (·.1)).map (fX fs):=by rw[Ya];rfl
   rw[e];clear e;generalize L.map (·.1)=B at hn
   induction fs with
   |nil =>
    have:∀B:List Int,(B.map (fX [])).sum=0:=fun B=>by induction B with
     |nil=>rfl
     |cons b B ih=>rw[OA,XW,ih];rfl
    rw[this];exact Nx _
   |cons f fs ih =>
    have:∀B:List Int,B.Nodup->(B.map (fX (f::fs))).sum<=(B.map (fX fs)).sum+1/\(f.be∉ B->(B.map (fX (f::fs))).sum=(B.map (fX fs)).sum):=fun B hB=>by
     induction B with
     |nil=>exact⟨by simp,fun _=>rfl⟩
     |cons b B ihB =>
      obtain⟨n1,n2⟩:=List.nodup_cons.1 hB;obtain⟨i1,i2⟩:=ihB n2;simp only[OA,XW]
      by_cases e:f.be=b
      ·have i3:=i2 (by rw[e];exact n1)
       have:fX (f::fs) b=fX fs b+1:=X5 (by simpa using e);exact⟨by omega,fun hh=>absurd (by rw[e];simp) hh⟩
      ·have:fX (f::fs) b=fX fs b:=List.countP_cons_of_neg (by simpa using e)
       exact⟨by omega,fun hh=>by have:=i2 (fun h=>hh (NB _ h));omega⟩
    have:=(this B hn).1;rw[List.length_cons];omega
  have e2:∀l:List FV,(l.map fun l=>(fX fs l.1:Int)).sum=((l.map fun l=>fX fs l.1).sum:Nat):=fun l=>by induction l with
   |nil=>rfl
   |cons a l ih=>rw[OA,XW,ih,OA,XW];omega
  rw[e2];omega
 unfold Xg ej;rw[Ya];have hr:eo (G.liv.filter fun l=>l.2.1 == 2):=h.Gv.filter _;refine Int.le_trans ?_ (h1 _ hr fs);generalize (G.liv.filter fun l=>l.2.1 == 2)=L
 induction L with
 |nil=>exact Qh _
 |cons l L ih =>
  rw[OA,OA,XW,XW];have:((fun x:Ld=>if 0<x.2.1 then x.2.2 else 0) ∘ fun l:FV=>(l.1,gL G l,(fX fs l.1:Int))) l<=(fX fs l.1:Int):=by
   simp only[Function.comp]
   split <;> omega
  omega
theorem WM(h:Bs G){key:Int}(hw:(pR G key).length<=12){fs:List Fl}(hfs:fs.length<=40) :
  (WY G<=0/\dL G key fs=(0,11)) \/
  (0<WY G/\∃b:Int,dL G key fs=(b,0)/\(0<=b/\b<12)/\aA G.liv b=2/\0<W8 G b/\(fX fs b:Int)<ns G.cfg.num G.cfg.den fs.length (W8 G b) (WY G)):=by
 have hok:=h.Jt hfs;have ht:=WX h fs;have hfl:=WO h fs;unfold dL;rw[Xh hok (h.Jm hfs) h.cfg.2.2.2.1 hw,ht]
 by_cases h0:0<WY G
 ·rw[Nh h0]
  obtain⟨i,hi,e,h1,h2⟩:=Xf hok (h.Jm hfs) (by rw[ht];exact h0) hfl (pR G key) G.cfg.tries.toNat
  rw[e];have hm:(ej G fs)[i]∈ej G fs:=Nk hi;obtain⟨l,hl,e2⟩:=List.mem_map.1 hm;obtain⟨hl,hs⟩:=List.mem_filter.1 hl;have h3:=(h.lf hl).1.1;have e3:aq G.liv l.1=l:=iZ h.Gv hl;have hs2:aA G.liv l.1=2:=by show(aq G.liv l.1).2.1=2;rw[e3];simpa using hs
  have e4:W8 G l.1=gL G l:=by unfold W8;rw[Nh hs2,e3]
  rw[<-e2]at h1 h2;refine NF ⟨h0,l.1,?_,⟨h3.1,by omega⟩,hs2,by rw[e4];exact h2,?_⟩
  ·simp[gk,hi,<-e2]
  ·rw[e4,<-ht]
   unfold jp at h1;rw[Nf (by show ¬gL G l=0;have:0<gL G l:=h2;omega)]at h1;exact h1
 ·rw[Nf h0]
  exact Nt ⟨by omega,rfl⟩
end
theorem WS:∀(n:Nat) (l:List Int),l.Nodup->(∀x∈l,0<=x/\x<(n:Int))->l.length<=n
 |0,l,_,h=>by
  cases l with
  |nil=>simp
  |cons x l=>have:=h x (by simp);omega
 |n+1,l,hd,h=>by
  have h1:=WS n (l.erase n) (hd.erase _) fun x hx=>by
   obtain⟨h2,h3⟩:=(hd.mem_erase_iff).1 hx;have:=h x h3;omega
  rw[List.length_erase]at h1
  split at h1 <;> omega
theorem WZ(G:Gt)(key:Int):(pR G key).length<=12:=WS 12 _ (Xo _ _) fun x hx=>by
 obtain⟨t,ht,e⟩:=(Xn _ _ _).1 hx;obtain⟨b,i,h1,_,rfl⟩:=ln.1 ht;simp only at e;omega
section
variable {c:Cf}{s:Sp}{o:Ou}
theorem JM.XP(h:JM c s)(ho:s.out=[o])(h1:o.kind=1):s.ev.kind=1 :=
 h.Jl (Q:=fun o=>o.kind=1->s.ev.kind=1)
  ⟨fun _ _ e=>absurd e (show ¬(9:Int)=1 by decide),fun x _ _ _ _ hx _ _ _ _ e=>by have e:x=1:=e;omega,fun e _ _ _ _ _ _ _=>e,fun e _ _ _=>e,fun _ _ _ e=>absurd e (show ¬(10:Int)=1 by decide),fun _ _ _ e=>absurd e (show ¬(8:Int)=1 by decide)⟩
  o (by rw[ho];exact List.mem_singleton.2 rfl) h1
theorem WN{l:List Fl}{f:Fl}:fX (aT l f i) f.be=fX l f.be+1:=by
 unfold fX aT;rw[Qi,X5 (by simp)];have:=congrArg (List.countP fun x:Fl=>x.be == f.be) (List.take_append_drop i l);rw[Qi]at this;omega
theorem JM.XO(h:JM c s)(ho:s.out=[o])(h1:o.kind=1):dL s.bef s.ev.key s.bef.fls=(o.be,0)/\(0<=o.be/\o.be<12)/\0<W8 s.bef o.be/\0<WY s.bef /\
  ((fX s.aft.fls o.be:Nat):Int)<=ns c.num c.den s.bef.fls.length (W8 s.bef o.be) (WY s.bef):=by
 have hb:=h.wm.im.bs;have he:=D5 h.ev;have hk:=h.XP ho h1;have ht:iG s.bef s.ev=mA s.bef s.ev.key:=by unfold iG;rw[Nh hk]
 have hout:=h.out;have haft:=h.aft;rw[ht]at hout haft;rcases J7 hb he.key with⟨q,_⟩|⟨q,_,_⟩|⟨k,hlt,q1,_,_,_,_,_,_,q8⟩
 ·rw[q]at hout
  have:s.out=s.bef.out++[⟨2,0,0,0,0,9,0⟩]:=hout;rw[ho,h.out0]at this;injection this with e;rw[e]at h1;cases h1
 ·rw[q]at hout
  have:s.out=s.bef.out++[⟨2,0,0,0,0,11,0⟩]:=hout;rw[ho,h.out0]at this;injection this with e;rw[e]at h1;cases h1
 ·rw[q8]at hout haft
  have hx:s.out=s.bef.out++[⟨1,k,s.bef.tab[k].1,(dL s.bef s.ev.key s.bef.fls).1,0,0,0⟩]:=hout;rw[ho,h.out0]at hx;injection hx with e;have ebe:o.be=(dL s.bef s.ev.key s.bef.fls).1:=by rw[e]
  have hfl:s.aft.fls=aT s.bef.fls ⟨k,s.bef.tab[k].1,s.ev.key,(dL s.bef s.ev.key s.bef.fls).1,Nb,0,s.bef.now+s.bef.cfg.conn⟩ (f9 s.bef.fls k):=by rw[haft];rfl
  rcases WM hb (WZ s.bef s.ev.key) hb.Gb with⟨_,e2⟩|⟨h0,x,e2,hx1,_,hw,hc⟩
  ·rw[e2]at q1;cases q1
  ·have exb:o.be=x:=by rw[ebe,e2]
   subst exb;refine⟨e2,hx1,hw,h0,?_⟩;rw[hfl];have hci:=WN (l:=s.bef.fls) (f:=⟨k,s.bef.tab[k].1,s.ev.key,(dL s.bef s.ev.key s.bef.fls).1,Nb,0,s.bef.now+s.bef.cfg.conn⟩) (i:=f9 s.bef.fls k);rw[show(⟨k,s.bef.tab[k].1,s.ev.key,(dL s.bef s.ev.key s.bef.fls).1,Nb,0,s.bef.now+s.bef.cfg.conn⟩:Fl).be=o.be from ebe.symm]at hci;rw[hci];rw[h.cfg]at hc;omega
end
theorem WT{α:Type}(k:α->Int):∀l m:List α,l.Pairwise (fun a b=>k a<k b)->m.Pairwise (fun a b=>k a<k b)->(∀x,x∈l↔x∈m)->l=m
 | [],[],_,_,_=>rfl
 | [],y::m,_,_,h=>by have:=(h y).2 (NM ..);cases this
 |x::l,[],_,_,h=>by have:=(h x).1 (NM ..);cases this
 |x::l,y::m,hl,hm,h=>by
  obtain⟨l1,l2⟩:=List.pairwise_cons.1 hl;obtain⟨m1,m2⟩:=List.pairwise_cons.1 hm;have e:x=y:=by
   rcases List.mem_cons.1 ((h x).1 (NM ..))with e|e
   ·exact e
   ·rcases List.mem_cons.1 ((h y).2 (NM ..))with e2|e2
    ·exact e2.symm
    ·have:=m1 x e;have:=l1 y e2;omega
  subst e;rw[WT k l m l2 m2 fun z=>⟨fun hz=>?_,fun hz=>?_⟩]
  ·rcases List.mem_cons.1 ((h z).1 (NB _ hz))with e|e
   ·subst e;have:=l1 _ hz;omega
   ·exact e
  ·rcases List.mem_cons.1 ((h z).2 (NB _ hz))with e|e
   ·subst e;have:=m1 _ hz;omega
   ·exact e
def WP(G:Gt)(fs:List Fl)(n:Nat):List (Int×Int×Int):=((Pm n).filter fun b:Nat=>aA G.liv (b:Int) == 2).map fun b:Nat=>((b:Int),W8 G b,((fX fs (b:Int):Nat):Int))
theorem WR(G:Gt)(fs:List Fl)(n:Nat):WP G fs (n+1)=WP G fs n++if aA G.liv (n:Int)=2 then [((n:Int),W8 G n,((fX fs (n:Int):Nat):Int))]else []:=by
 unfold WP;rw[List.range_succ,List.filter_append,List.map_append]
 congr 1
 by_cases h:aA G.liv (n:Int)=2
 ·rw[Nh h,List.filter_cons_of_pos (by simpa using h)];rfl
 ·rw[Nf h,List.filter_cons_of_neg (by simpa using h)];rfl
theorem WQ(h:Bs G)(fs:List Fl):WP G fs 12=ej G fs:=by
 refine WT (fun x=>x.1) _ _ ?_ ?_ fun x=>?_
 ·unfold WP
  rw[XX];refine X6 _ ?_;exact Yb (fun {a b} hab=>by show(a:Int)<(b:Int);omega) List.pairwise_lt_range
 ·unfold ej
  rw[XX];exact X6 _ h.Gv
 ·unfold WP ej
  rw[List.mem_map,List.mem_map];constructor
  ·rintro⟨b,hb,rfl⟩
   obtain⟨_,hb2⟩:=List.mem_filter.1 hb;have h2:aA G.liv (b:Int)=2:=by simpa using hb2
   obtain⟨hm,hl1⟩:=kQ (L:=G.liv) (b:=(b:Int)) (by omega);refine⟨aq G.liv (b:Int),List.mem_filter.2 ⟨hm,by simpa using h2⟩,?_⟩;unfold W8;rw[Nh h2,hl1]
  ·rintro⟨l,hl,rfl⟩
   obtain⟨hm,hl2⟩:=List.mem_filter.1 hl;have hl2:l.2.1=2:=by simpa using hl2
   have hr:=(h.lf hm).1.1;obtain⟨b,hb⟩:=NL hr.1;have he:=iZ h.Gv hm;have h2:aA G.liv (b:Int)=2:=by rw[<-hb];show(aq G.liv l.1).2.1=2;rw[he];exact hl2
   refine⟨b,List.mem_filter.2 ⟨List.mem_range.2 (by omega),by simpa using h2⟩,?_⟩;unfold W8;rw[Nh h2,<-hb,he]
theorem JM.XQ{c:Cf}{s:Sp}(h:JM c s){o:Ou}(ho:s.out=[o])(h1:o.kind=1):gY (pR s.bef s.ev.key) (WP s.bef s.bef.fls 12) c.num c.den (s.bef.fls.length:Int) c.tries=(o.be,0):=by
 have:=(h.XO ho h1).1;unfold dL at this;rw[h.cfg]at this;rw[WQ h.wm.im.bs];exact this
abbrev XD:List Value:=[MF ME 0,MF ME 0,MF ME 0,MF ME 0,M3 Nb,MF ME 0,MF ME 0,MF ME 0,MF ME 0,MF ME 0,MF ME 0,MF ME 0,MF ME 0,MF ME 0,MF ME 0,MF ME 0,MF ME 0,MF ME 0,MF ME 0,MF ME 0,MF ME 0,MF ME 0,MF ME 0,MF ME 0,MF ME 0,MG MH 0 0,MG MH 0 0,MG MH 0 0,MG MH 0 0,MG MH 0 0,MG MH 0 0,MF ME 0,MF ME 0,MG MH 0 0,MF ME 0,MF ME 0,MF ME 0,MF ME 0,MF ME 0,MF ME 0,MF ME 0,MF ME 0,MF ME 0,MF ME 0,MF ME 0,MF ME 0,MF ME 0,MF ME 0,MF ME 0,MF ME 0,MF ME 0,MG MH 0 0,MG MH 0 0,MG MH 0 0,MG MH 0 0,MG MH 0 0,MG MH 0 0,MF ME 0,MF ME 0,MG MH 0 0,MG MH 0 0]
theorem Xw:(Tryz.prog.info? 62).map (·.size)=MI 61:=by kernel_rfl
theorem Jz.Gm{base:Nat}{c:Cf}(h:Jz base w g V c P):w.cell? ⟨g,16,MH⟩=MI (MG V.ps P.steps.length V.cs):=by
 rw[MW w g 16 _ _ (0,0) h.box,h.steps];rfl
structure Xq(W:MO)(ps:Option Oc)(k:Nat)(q:Sq)(b o:Nat):Prop where
 at_:ps=MI ⟨b,o,MH⟩
 cells:W.rangeAt b (o+k*61) (JU q)
 rd:Kh W q
theorem JD.step{W:MO}{c:Cf}(h:JD w W g V c P){k:Nat}(hk:k<P.steps.length):∃q b o,Xq W V.ps k q b o/\P.steps[k]?=MI q.s/\JM c q.s:=by
 have hl:=h.pat.steps;have hkq:k<V.qs.length:=by omega
 have hrv:bj JU W (MG V.ps V.qs.length V.cs) V.qs:=gZ h.pat.rows;obtain⟨a,cap,hv,_,_,hp⟩:=bj.F6 LV hrv;injection hv with q1 _ _;obtain⟨b,o,ha,hb,hc⟩:=hp k hkq;have e:P.steps[k]?=MI V.qs[k].s:=by rw[<-h.pat.eqs,List.getElem?_map,MR hkq];rfl
 refine⟨V.qs[k],b,o,⟨q1.trans ha,fun j v hv=>?_,(h.pat.all _ (Nk hkq)).now⟩,e,h.rn.runs.chain _ (List.mem_of_getElem? e)⟩;have hj:j<61:=(List.getElem?_eq_some_iff.1 hv).1;rw[hc j hj];exact hv
structure Xr(W:MO)(b:Nat)(q:Sq):Prop where
 box:W.heap[b]?=MI (MP (JU q).toArray 62 (0,0))
 rd:Kh W q
theorem Kh.below{W Y:MO}{q:Sq}(h:Kh W q)(hb:MQ W.heap.size W Y):Kh Y q:=⟨h.1.below hb,h.2.1.below hb,h.2.2.below hb⟩
theorem Xr.on{W Y:MO}{b:Nat}{q:Sq}(h:Xr W b q)(hb:MQ W.heap.size W Y):Xr Y b q:=⟨af h.box hb,h.rd.below hb⟩
theorem XC(q:Sq):(JU q).toArray.all (·.oneCell')=true:=by
 apply all_oneCell_toArray;exact LU q
theorem Xq.box{W:MO}{ps:Option Oc}{k:Nat}{q:Sq}{b o:Nat}(h:Xq W ps k q b o):∃Y,Y=(W.alloc (MP XD.toArray 62)).setCells W.heap.size 0 (JU q)/\Xr Y W.heap.size q/\MQ W.heap.size W Y/\(W.alloc (MP XD.toArray 62)).there W.heap.size 0 (JU q).toArray.size:=by
 have hZ:(W.alloc (MP XD.toArray 62)).heap[W.heap.size]?=MI (MP XD.toArray 62 (0,0)):=M1 _ _;have hB:MQ W.heap.size W ((W.alloc (MP XD.toArray 62)).setCells W.heap.size 0 (JU q)):=tW (ai W) (Nat.le_refl _) _ _ (by simp);exact⟨_,rfl,⟨KM hZ rfl,h.rd.below hB⟩,hB,(show(W.alloc (MP XD.toArray 62)).there W.heap.size 0 (JU q).toArray.size from sF (old:=XD) hZ)⟩
theorem Xr.F7{W:MO}{b:Nat}{q:Sq}(h:Xr W b q)(j:Nat):W.cell? ⟨b,j,MH⟩=(JU q)[j]?:=by
 rw[MW W b j _ _ (0,0) h.box];simp
theorem XA(f:Nat->Int)(hf:∀i,i<16->(Lit.int ME (f i)).wf=Nw)(ds:List Dd)(hds:∀d∈ds,Kg d){pd:Option Oc}{cd:Nat}(hrow:bj Ka w (MG pd ds.length cd) ds)(hblk:aK w)(most:Nat)(hm:most<=100):
  ∃L:List M7,L.length=16/\BD (f 0) (f 1) (f 2) (f 3) (f 4) (f 5) (f 6) (f 7) (f 8) (f 9) (f 10) (f 11) (f 12) (f 13) (f 14) (f 15)=Ny L.toArray/\∀W,MQ w.heap.size w W->Ni MK 10 #[Ny L.toArray,MG pd ds.length cd,MF ME (most:Int)] W (Lq f most W):=
 ⟨[MF ME (f 0),MF ME (f 1),MF ME (f 2),MF ME (f 3),MF ME (f 4),MF ME (f 5),MF ME (f 6),MF ME (f 7),MF ME (f 8),MF ME (f 9),MF ME (f 10),MF ME (f 11),MF ME (f 12),MF ME (f 13),MF ME (f 14),MF ME (f 15)],rfl,rfl,fun W hB=>L6 f hf ds hds W (hrow.below hB) (hblk.below hB) most hm⟩
theorem Jz.XR{base:Nat}{c:Cf}(h:Jz base w g V c P)(j:Nat):w.cell? ⟨g,j,MH⟩=(JZ V c P)[j]?:=by
 rw[MW w g j _ _ (0,0) h.box];simp
theorem Xy{W:MO}{p:Option Oc}{c:Nat}{L:List Ou}(h:bj gT W (MG p L.length c) L)(hi:i<L.length):
  ∃b o,p=MI ⟨b,o,MH⟩/\W.cell? ⟨b,o+i*7,MH⟩=MI (MF ME L[i].kind)/\W.cell? ⟨b,o+i*7+1,MH⟩=MI (MF ME L[i].slot)/\W.cell? ⟨b,o+i*7+2,MH⟩=MI (MF ME L[i].gen)/\W.cell? ⟨b,o+i*7+3,MH⟩=MI (MF ME L[i].be)/\W.cell? ⟨b,o+i*7+4,MH⟩=MI (MF ME L[i].req)/\W.cell? ⟨b,o+i*7+5,MH⟩=MI (MF ME L[i].code)/\W.cell? ⟨b,o+i*7+6,MH⟩=MI (MF ME L[i].why):=by
 obtain⟨a,cap,hv,_,_,hp⟩:=bj.F6 Bq h;injection hv with q1 _ _;obtain⟨b,o,ha,_,hc⟩:=hp i hi;exact⟨b,o,q1.trans ha,hc 0 (by omega),hc 1 (by omega),hc 2 (by omega),hc 3 (by omega),hc 4 (by omega),hc 5 (by omega),hc 6 (by omega)⟩
theorem Xz{W:MO}{p:Option Oc}{c:Nat}{L l:List Ou}(h:bj gT W (MG p L.length c) L)(e:L=x::l):
  ∃b o,p=MI ⟨b,o,MH⟩/\W.cell? ⟨b,o,MH⟩=MI (MF ME x.kind)/\W.cell? ⟨b,o+1,MH⟩=MI (MF ME x.slot)/\W.cell? ⟨b,o+2,MH⟩=MI (MF ME x.gen)/\W.cell? ⟨b,o+3,MH⟩=MI (MF ME x.be)/\W.cell? ⟨b,o+4,MH⟩=MI (MF ME x.req)/\W.cell? ⟨b,o+5,MH⟩=MI (MF ME x.code)/\W.cell? ⟨b,o+6,MH⟩=MI (MF ME x.why):=by
 subst e;obtain⟨b,o,h1,h2⟩:=Xy h (i:=0) (Nat.succ_pos _);simp only[Nat.zero_mul,Nat.add_zero,MS]at h2;exact⟨b,o,h1,h2⟩
theorem XE{L:List FV}{b:Int}{k:Nat}(hk:k<L.length)(h:∀t∈L.take k,t.1≠b)(e:L[k].1=b):aA L b=L[k].2.1:=by
 unfold aA aq;have:L.find? (fun x=>x.1 == b)=MI L[k]:=by
  rw[List.find?_eq_some_iff_getElem];refine⟨by simpa using e,k,hk,rfl,fun j hj=>?_⟩;have:=h L[j] (List.mem_iff_getElem.2 ⟨j,by simp;omega,by simp⟩)
  simpa using this
 rw[this];rfl
theorem XF{L:List FV}{b:Int}(h:∀t∈L,t.1≠b):aA L b=0:=by
 show(aq L b).2.1=0;rw[tP h]
theorem XG{W:MO}{M:List M7}(hM:M=(ef U G).toList)(h:aF W U G)(b:Int):Ni MK 16 #[Ny M.toArray,MF ME b] W fun r w'=>r=MN (MF ME (aA G.liv b))/\MQ W.heap.size W w':=by
 obtain⟨Y,hY⟩:∃Y,Y=W.alloc (MP M.toArray 54):=⟨_,rfl⟩;have hYb:MQ W.heap.size W Y:=by rw[hY];exact ai W
 have hYx:Y.heap[W.heap.size]?=MI (MP M.toArray 54 (0,0)):=by rw[hY];exact M1 _ _
 have c19:Y.cell? ⟨W.heap.size,19,MH⟩=MI (MG U.pl G.liv.length U.cl):=by rw[MW Y _ 19 _ _ (0,0) hYx,hM];rfl
 obtain⟨a,cap,hv,hca,hmx,hp⟩:=jH.F6 (h.book.1.below hYb);injection hv with q1 q2 q3;obtain⟨m,hm⟩:∃m,m=G.liv.length:=⟨_,rfl⟩;rw[<-hm]at c19;have hmb:m<=9223372036854775807:=by rw[hm];unfold NE at hmx;omega
 obtain⟨s,hs⟩:∃s,s=aA G.liv b:=⟨_,rfl⟩;rw[<-hs];have HP:M6 (_/\_/\_/\_/\_):=⟨hp,q1,hm,hYb,hs⟩;clear hYx hp q1 q2 q3 hm hmx hca h hM hYb hs;go_enter Tryz.func16,Tryz.ntmps16;go_wp2;rw[<-hY];clear hY
 go_loopw [5] (fun i wr=>∃k:Nat,i=MF ME (k:Int)/\k<=m/\M6 (∀t∈G.liv.take k,t.1≠b)/\wr=Y) (fun i _=>m-(intOf i).toNat)
 case atStart=>exact⟨0,rfl,Nx _,(fun t ht=>absurd ht (by simp)),rfl⟩
 case round =>
  obtain⟨k,rfl,hk,HA,rfl⟩:=hrel
  by_cases hlt:k<m
  ·have hkI:(k:Int)<(m:Int):=by omega
   have hkl:k<G.liv.length:=by rw[<-HP.out.2.2.1];exact hlt
   obtain⟨bo,oo,ha,hb,hc⟩:=HP.out.1 k hkl;have e0:wr.cell? ⟨bo,oo+k*6,MH⟩=MI (MF ME G.liv[k].1):=hc.1;have e1:wr.cell? ⟨bo,oo+k*6+1,MH⟩=MI (MF ME G.liv[k].2.1):=hc.2.1;have htk:G.liv.take (k+1)=G.liv.take k++[G.liv[k]]:=M9 hkl;have hfd:=fun e=>XE hkl HA.out e
   obtain⟨x,hx⟩:∃x,x=G.liv[k]:=⟨_,rfl⟩;rw[<-hx]at e0 e1 htk hfd;rw[HP.out.2.1,ha]at c19;have HX:M6 (_/\_):=⟨htk,hfd⟩;clear hc hb ha hkl hx htk hfd
   by_cases hq:x.1=b
   ·have hq':(x.1 == b)=true:=by simp[hq]
    have HE:M6 (s=x.2.1):=HP.out.2.2.2.2.trans (HX.out.2 hq);clear hq;go_wp2;go_ret;exact⟨by rw[HE.out];rfl,HP.out.2.2.2.1⟩
   ·have hq':(x.1 == b)=false:=by simp[hq]
    go_wp2
    go_roundw
    case rel =>
     refine⟨k+1,by simp,hlt,?_,trivial⟩;intro t ht;rw[HX.out.1]at ht;rcases List.mem_append.1 ht with ht|ht
     ·exact HA.out t ht
     ·rw[List.mem_singleton.1 ht];exact hq
    case measure=>simp[intOf];omega
  ·obtain rfl:k=m:=by omega
   have hkI:¬(k:Int)<(k:Int):=by omega
   have HE:M6 (s=0):=HP.out.2.2.2.2.trans (XF fun t ht=>HA.out t (by rw[HP.out.2.2.1,NT];exact ht));go_wp2;go_ret;exact⟨by rw[HE.out];rfl,HP.out.2.2.2.1⟩
theorem Xt{l:List Fl}{k:Nat}(hk:k<l.length)(b:Int):fX (l.take (k+1)) b=fX (l.take k) b+if l[k].be=b then 1 else 0:=by
 unfold fX;rw[M9 hk,Qi,List.countP_cons,List.countP_nil];simp
theorem Xu{W:MO}{M:List M7}(hM:M=(ef U G).toList)(h:aF W U G)(HL40:G.fls.length<=40)(b:Int):Ni MK 14 #[Ny M.toArray,MF ME b] W fun r w'=>r=MN (MF ME ((fX G.fls b:Nat):Int))/\MQ W.heap.size W w':=by
 obtain⟨Y,hY⟩:∃Y,Y=W.alloc (MP M.toArray 54):=⟨_,rfl⟩;have hYb:MQ W.heap.size W Y:=by rw[hY];exact ai W
 have hYx:Y.heap[W.heap.size]?=MI (MP M.toArray 54 (0,0)):=by rw[hY];exact M1 _ _
 have c18:Y.cell? ⟨W.heap.size,18,MH⟩=MI (MG U.pf G.fls.length U.cf):=by rw[MW Y _ 18 _ _ (0,0) hYx,hM];rfl
 obtain⟨a,cap,hv,hca,hmx,hp⟩:=bj.F6 ba (bj.below h.fls hYb);injection hv with q1 q2 q3;obtain⟨m,hm⟩:∃m,m=G.fls.length:=⟨_,rfl⟩;rw[<-hm]at c18;have hmb:m<=9223372036854775806:=by rw[hm];have:=HL40;omega
 have HP:M6 (_/\_/\_/\_):=⟨hp,q1,hm,hYb⟩;clear hYx hp q1 q2 q3 hm hmx hca h hM hYb HL40;go_enter Tryz.func14,Tryz.ntmps14;go_wp2;rw[<-hY];clear hY
 go_loopw [5,6] (fun c i wr=>∃k n:Nat,c=MF ME (n:Int)/\i=MF ME (k:Int)/\k<=m/\n<=k/\M6 (fX (G.fls.take k) b=n)/\wr=Y) (fun _ i _=>m-(intOf i).toNat)
 case atStart=>exact⟨0,0,rfl,rfl,Nx _,Nx _,rfl,rfl⟩
 case round =>
  obtain⟨k,n,rfl,rfl,hk,hnk,HA,rfl⟩:=hrel
  by_cases hlt:k<m
  ·have hkI:(k:Int)<(m:Int):=by omega
   have hkl:k<G.fls.length:=by rw[<-HP.out.2.2.1];exact hlt
   obtain⟨bo,oo,ha,hb,hc⟩:=HP.out.1 k hkl;have e3:wr.cell? ⟨bo,oo+k*7+3,MH⟩=MI (MF ME G.fls[k].be):=hc 3 (by omega);have htk:=Xt hkl b;obtain⟨x,hx⟩:∃x,x=G.fls[k].be:=⟨_,rfl⟩;rw[<-hx]at e3 htk;rw[HP.out.2.1,ha]at c18;rw[HA.out]at htk;have HX:M6 _:=htk;clear hc hb ha hkl hx htk
   by_cases hq:x=b
   ·have hq':(x == b)=true:=by simp[hq]
    have HE:M6 (fX (G.fls.take (k+1)) b=n+1):=HX.out.trans (by rw[Nh hq]);clear hq;go_wp2
    go_roundw
    case rel=>exact⟨k+1,n+1,by simp,by simp,hlt,by omega,HE,trivial⟩
    case measure=>simp[intOf];omega
   ·have hq':(x == b)=false:=by simp[hq]
    have HE:M6 (fX (G.fls.take (k+1)) b=n):=HX.out.trans (by rw[Nf hq];rfl);clear hq;go_wp2
    go_roundw
    case rel=>exact⟨k+1,n,rfl,by simp,hlt,by omega,HE,trivial⟩
    case measure=>simp[intOf];omega
  ·obtain rfl:k=m:=by omega
   have hkI:¬(k:Int)<(k:Int):=by omega
   have HE:M6 (fX G.fls b=n):=by have:=HA.out;rw[HP.out.2.2.1,NT]at this;exact this
   go_wp2;go_ret;exact⟨by rw[HE.out];rfl,HP.out.2.2.2⟩
theorem XJ(h:Bs G){x:FV}(hx:x∈G.liv):W8 G x.1=if x.2.1=2 then(if(G.hea.getD x.1.toNat bm).out then 0 else FZ x.2.2.1 (G.now-x.2.2.2.1) G.cfg.warm)else 0:=by
 unfold W8;show(if(aq G.liv x.1).2.1=2 then _ else _)=_;rw[iZ h.Gv hx];rfl
theorem XK{b:Int}(h:∀t∈G.liv,t.1=b->W8 G b=0):W8 G b=0:=by
 rcases qM G.liv b with⟨h1,h2⟩|⟨_,h2⟩
 ·exact h _ h1 h2
 ·unfold W8
  show(if(aq G.liv b).2.1=2 then _ else _)=_;rw[h2];rfl
theorem Xv{W:MO}(h:aF W U G){b:Nat}(hb:b<12):∃bo oo,U.ph=MI ⟨bo,oo,MH⟩/\bo<W.heap.size/\12<=U.ch/\U.ch<=9223372036854775807/\W.cell? ⟨bo,oo+b*4+1,MH⟩=MI (M3 (G.hea.getD b bm).out)/\W.cell? ⟨bo,oo+b*4+2,MH⟩=MI (MF ME (G.hea.getD b bm).till):=by
 have hl:(U.ms.zip G.hea).length=12:=by rw[List.length_zip,h.msl,h.hel];rfl
 obtain⟨a,cap,hv,hc1,hc2,hp⟩:=bj.F6 ii h.hea;injection hv with q1 _ q3;have hbz:b<(U.ms.zip G.hea).length:=by rw[hl];exact hb
 obtain⟨bo,oo,ha,hlt,hc⟩:=hp b hbz;have e:(U.ms.zip G.hea)[b].2=G.hea.getD b bm:=by
  rw[List.getElem_zip,List.getD_eq_getElem?_getD,MR (by rw[h.hel];exact hb)];rfl
 refine⟨bo,oo,q1.trans ha,hlt,by rw[q3,<-hl];exact hc1,by rw[q3];unfold NE at hc2;exact hc2,?_,?_⟩
 ·rw[<-e];exact hc 1 (by omega)
 ·rw[<-e];exact hc 2 (by omega)
theorem XI{W:MO}{M:List M7}(hM:M=(ef U G).toList)(h:aF W U G)(hbs:Bs G){b:Nat}(hb:b<12):Ni MK 12 #[Ny M.toArray,MF ME (b:Int)] W fun r w'=>r=MN (MF ME (W8 G b))/\MQ W.heap.size W w':=by
 obtain⟨Y,hY⟩:∃Y,Y=W.alloc (MP M.toArray 54):=⟨_,rfl⟩;have hYb:MQ W.heap.size W Y:=by rw[hY];exact ai W
 have hYx:Y.heap[W.heap.size]?=MI (MP M.toArray 54 (0,0)):=by rw[hY];exact M1 _ _
 have hmb:G.liv.length<=12:=hbs.book.1.1;obtain⟨m,hm⟩:∃m,m=G.liv.length:=⟨_,rfl⟩;obtain⟨s,hs⟩:∃s,s=W8 G b:=⟨_,rfl⟩;rw[<-hs];rw[<-hm]at hmb;obtain⟨B8,hB8⟩:∃B8,B8=W.heap.size:=⟨_,rfl⟩;have HP:M6 (_/\_/\_/\_/\_/\_/\_):=⟨h.below hYb,hbs,hm,hYb,hs,hM,(show Y.heap[B8]?=MI (MP M.toArray 54 (0,0))by rw[hB8];exact hYx)⟩;clear hYx hm h hM hYb hs hbs;go_enter Tryz.func12,Tryz.ntmps12;go_wp2;rw[<-hY,<-hB8];clear hY hB8
 go_loopw [5,6,7,8] (fun i _ _ _ wr=>∃k:Nat,i=MF ME (k:Int)/\k<=m/\M6 (∀t∈G.liv.take k,t.1=(b:Int)->W8 G b=0)/\M6 (MQ Y.heap.size Y wr)) (fun i _ _ _ _=>m-(intOf i).toNat)
 case atStart=>exact⟨0,rfl,Nx _,(fun t ht=>absurd ht (by simp)),MY _ _⟩
 case round =>
  obtain⟨k,rfl,hk,HA,HW⟩:=hrel;have hx8:=af HP.out.2.2.2.2.2.2 HW.out;have c19:wr.cell? ⟨B8,19,MH⟩=MI (MG U.pl m U.cl):=by rw[MW wr _ 19 _ _ (0,0) hx8,HP.out.2.2.2.2.2.1,HP.out.2.2.1];rfl
  have l8:B8<wr.heap.size:=(Array.getElem?_eq_some_iff.1 hx8).1
  by_cases hlt:k<m
  ·have hkI:(k:Int)<(m:Int):=by omega
   have hkl:k<G.liv.length:=by rw[<-HP.out.2.2.1];exact hlt
   have hwat:=HP.out.1.below HW.out;obtain⟨a,cap,hv,hca,hmx,hp⟩:=jH.F6 hwat.book.1;injection hv with q1 q2 q3;obtain⟨bo,oo,ha,hbo,e0,e1,e2,e3,e4,e5⟩:=hp k hkl;have hcap:U.cl<=9223372036854775807:=by rw[q3];unfold NE at hmx;exact hmx
   have hcap2:m<=U.cl:=by rw[q3,HP.out.2.2.1];exact hca
   have htk:G.liv.take (k+1)=G.liv.take k++[G.liv[k]]:=M9 hkl;have hwt:=XJ HP.out.2.1 (Nk hkl);have hlf:=(HP.out.2.1.lf (Nk hkl)).1;have hsn:=HP.out.2.1.since _ (Nk hkl);obtain⟨x,hx⟩:∃x,x=G.liv[k]:=⟨_,rfl⟩;rw[<-hx]at e0 e1 e2 e3 e4 e5 htk hwt hlf hsn;rw[q1,ha]at c19;obtain⟨x1,x2,x3,x4,x5,x6⟩:=x;obtain⟨bh,oh,hph,hbh,hc1,hc2,g1,_⟩:=Xv hwat hb;have d22:wr.cell? ⟨B8,22,MH⟩=MI (MG U.ph 12 U.ch):=by rw[MW wr _ 22 _ _ (0,0) hx8,HP.out.2.2.2.2.2.1];rfl
   have d16:wr.cell? ⟨B8,16,MH⟩=MI (MF ME G.now):=by rw[MW wr _ 16 _ _ (0,0) hx8,HP.out.2.2.2.2.2.1];rfl
   have d4:wr.cell? ⟨B8,4,MH⟩=MI (MF ME G.cfg.warm):=by rw[MW wr _ 4 _ _ (0,0) hx8,HP.out.2.2.2.2.2.1];rfl
   rw[hph]at d22;have hnow:=HP.out.2.1.now;have hwm:=HP.out.2.1.cfg.2.2.2.2.1;have HC:M6 (∀W':MO,Ni MK 26 #[MF ME x3,MF ME x4,MF ME G.now,MF ME G.cfg.warm] W' fun r w'=>r=MN (Nv #[MF ME (FZ x3 (G.now-x4) G.cfg.warm),MF ME 0])/\w'=W'):=fun W' =>
    zg x3 x4 G.now G.cfg.warm W' hlf.2.1.1 hlf.2.1.2 ⟨hlf.2.2.1.1,hlf.2.2.1.2,hwm.1,hwm.2⟩ hsn (by omega)
   have hwt':W8 G x1=if x2=2 then(if(G.hea.getD x1.toNat bm).out=Nw then 0 else FZ x3 (G.now-x4) G.cfg.warm)else 0:=hwt
   obtain⟨ot,hot⟩:∃ot,ot=(G.hea.getD b bm).out:=⟨_,rfl⟩;rw[<-hot]at g1;have hb0:(b:Int)<12:=by omega
   have hb1:¬(12:Int)<=(b:Int):=by omega
   have hb2:(0:Int)<=(b:Int):=by omega
   have HX:M6 (_/\_/\_):=⟨htk,hwt',hot⟩;clear hwt hwt' hlf hsn hx hkl hwat hca hmx hp q1 q2 q3 ha hnow hwm hx8 hph hot htk;have hcs:((x1 != (b:Int))=Nw/\M6 (x1≠b))\/(x1=b/\(x2 != 2)=Nw/\M6 (s=0))\/(x1=b/\x2=2/\ot=Nw/\M6 (s=0))\/(x1=b/\x2=2/\ot=Nb/\M6 (s=FZ x3 (G.now-x4) G.cfg.warm)):=by
    by_cases h1:x1=b
    ·have hw:=HX.out.2.1
     rw[h1,<-HP.out.2.2.2.2.1,Int.toNat_natCast,<-HX.out.2.2]at hw
     by_cases h2:x2=2
     ·rw[Nh h2]at hw
      cases h3:ot
      ·rw[h3]at hw;exact NF (NF (NF ⟨h1,h2,rfl,hw⟩))
      ·rw[h3]at hw;exact NF (NF (Nt ⟨h1,h2,rfl,hw⟩))
     ·rw[Nf h2]at hw
      exact NF (Nt ⟨h1,by simp[h2],hw⟩)
    ·exact Nt ⟨by simp[h1],h1⟩
   rcases hcs with⟨h1,HE⟩|⟨rfl,h2,HE⟩|⟨rfl,rfl,rfl,HE⟩|⟨rfl,rfl,rfl,HE⟩
   case inr.inr.inr =>
    go_wp2_with fail
    refine Nd (HC.out _) ?_;rintro r w5 ⟨rfl,rfl⟩;go_wp2;go_ret;exact⟨by rw[HE.out];rfl,HP.out.2.2.2.1.trans ((HW.out.trans ((ai wr).mono HW.out.size)).mono HP.out.2.2.2.1.size)⟩
   all_goals
    go_wp2
    go_roundw
    case rel =>
     refine⟨k+1,by simp,hlt,?_,HW.out.trans ((ai wr).mono HW.out.size)⟩;intro t ht h1;rw[HX.out.1]at ht;rcases List.mem_append.1 ht with ht|ht
     ·exact HA.out t ht h1
     ·first|exact HP.out.2.2.2.2.1.symm.trans HE.out|(rw[List.mem_singleton.1 ht]at h1;exact absurd h1 HE.out)
    case measure=>simp[intOf];omega
  ·obtain rfl:k=m:=by omega
   have hkI:¬(k:Int)<(k:Int):=by omega
   have HE:M6 (s=0):=HP.out.2.2.2.2.1.trans (XK fun t ht=>HA.out t (by rw[HP.out.2.2.1,NT];exact ht));clear hx8;go_wp2;go_ret;exact⟨by rw[HE.out];rfl,HP.out.2.2.2.1.trans (HW.out.mono HP.out.2.2.2.1.size)⟩
structure Xs(W:MO)(b:Nat)(q:Sq)(M L:List M7):Prop where
 sb:Xr W b q
 e1:M=(ef q.u q.s.bef).toList
 e2:L=(ef q.v q.s.aft).toList
section
variable {W Y:MO}{b:Nat}{q:Sq}{M L:List M7}
theorem Xs.on(h:Xs W b q M L)(hb:MQ W.heap.size W Y):Xs Y b q M L:=⟨h.sb.on hb,h.e1,h.e2⟩
theorem Xs.lt(h:Xs W b q M L):b<W.heap.size:=(Array.getElem?_eq_some_iff.1 h.sb.box).1
theorem Xs.r1(h:Xs W b q M L):W.rangeAt b 8 M:=fun j v hv=>by
 rw[h.e1]at hv;have hj:j<26:=(List.getElem?_eq_some_iff.1 hv).1;rw[h.sb.F7 (8+j)];unfold JU;rw[List.getElem?_append_right (show 8<=8+j by omega),show 8+j-(JN q.s.ev).length=j from Nat.add_sub_cancel_left 8 j,List.getElem?_append_left (show j<26 from hj)];exact hv
theorem Xs.i1(h:Xs W b q M L):(Tryz.prog.info? 54).map (·.size)=MI M.length:=by rw[h.e1];exact iN
theorem Xs.XU(h:Xs W b q M L)(x:Int):Ni MK 16 #[Ny M.toArray,MF ME x] W fun r w'=>r=MN (MF ME (aA q.s.bef.liv x))/\MQ W.heap.size W w':=XG h.e1 h.sb.rd.1 x
theorem Xs.XS(h:Xs W b q M L)(hl:q.s.bef.fls.length<=40)(x:Int):Ni MK 14 #[Ny M.toArray,MF ME x] W fun r w'=>r=MN (MF ME ((fX q.s.bef.fls x:Nat):Int))/\MQ W.heap.size W w':=Xu h.e1 h.sb.rd.1 hl x
theorem Xs.XV(h:Xs W b q M L)(hb:Bs q.s.bef){x:Nat}(hx:x<12):Ni MK 12 #[Ny M.toArray,MF ME (x:Int)] W fun r w'=>r=MN (MF ME (W8 q.s.bef x))/\MQ W.heap.size W w':=XI h.e1 h.sb.rd.1 hb hx
end
theorem Xs.XT{W:MO}{b:Nat}{q:Sq}{M L:List M7}(h:Xs W b q M L)(hx:q.s.out=[x]):W.cell? ⟨b,60,MH⟩=MI (MG q.po 1 q.co):=(h.sb.F7 60).trans (by show MI (MG q.po q.s.out.length q.co)=_;rw[hx];rfl)
theorem Xs.o1{W:MO}{b:Nat}{q:Sq}{M L:List M7}(h:Xs W b q M L)(hx:q.s.out=[x]){bo oo:Nat}(hp:q.po=MI ⟨bo,oo,MH⟩):W.cell? ⟨bo,oo,MH⟩=MI (MF ME x.kind)/\W.cell? ⟨bo,oo+3,MH⟩=MI (MF ME x.be):=by
 obtain⟨b',o',hp',u0,_,_,u3,_⟩:=Xz h.sb.rd.2.2 hx;rw[hp]at hp';injection hp' with e;injection e with e1 e2;subst e1 e2;exact⟨u0,u3⟩
section
variable {P:Program}{ops:Array Oper}{C:MO->Prop}{Q:Act->Prop}{o:Oper}{rest:List Oper}{a:Act}
theorem XM{id:Nat}{R:Exit->Act->MO->Prop}{l:List Oper}(hC:C w.drew)(h:wpQuiet P l.toArray C (fun a'=>∀w',C w'->R .normal a' w') l a)(hm:P.follows .mixedOrders=true:=by kernel_rfl)(hB:Region.lexB .any l.toArray=true:=by kernel_rfl):(Code.region id l.toArray Nw).wp P R a w :=
 wp_region_quiet hm hB hC (by simpa using h)
theorem XL{K:Act->Prop}(v:M7)(h:K (a.put o.dst v))(hv:∀w,C w->(execOp a.eval o).run P w=.ok (.value v) w):o.quiet P a C K :=
 ⟨v,fun w hC=>by unfold Oper.quietAt;rw[hv w hC];exact⟨rfl,rfl⟩,h⟩
theorem XN{K:Act->Prop}(v:M7)(f:FuncId)(args:Array M7)(hc:∀w,C w->Ni P f args w fun e w'=>e=MN v/\C w')(h:K (a.put o.dst v))(hv:∀w,(execOp a.eval o).run P w=.ok (.enter f args) w:=by exact fun X=>by go_simp):o.quiet P a C K :=
 ⟨v,fun w hC=>by unfold Oper.quietAt;rw[hv w];exact⟨rfl,hc w hC⟩,h⟩
end
structure Xp(w5 X:MO)(b:Nat)(q:Sq)(M L:List M7)(p:Option Oc)(z k:Nat)(j:Nat):Prop where
 tw5:Xs w5 b q M L
 own:X.ownsRow w5.heap.size 76 3 (MG p z k) z (rv jF (WP q.s.bef q.s.bef.fls j))
 len:z=(WP q.s.bef q.s.bef.fls j).length
 bel:MQ w5.heap.size w5 X
theorem Xp.on{w5 X Z:MO}{b:Nat}{q:Sq}{M L:List M7}{p:Option Oc}{z k j:Nat}(h:Xp w5 X b q M L p z k j)(hb:MQ X.heap.size X Z):Xp w5 Z b q M L p z k j :=
 ⟨h.tw5,cq h.own hb,h.len,h.bel.trans (hb.mono h.bel.size)⟩
theorem Xp.tw{w5 X:MO}{b:Nat}{q:Sq}{M L:List M7}{p:Option Oc}{z k j:Nat}(h:Xp w5 X b q M L p z k j):Xs X b q M L:=h.tw5.on h.bel
theorem Xx(G:Gt)(fs:List Fl)(n:Nat):(WP G fs n).length<=n:=by
 unfold WP;rw[List.length_map];exact Nat.le_trans (List.length_filter_le _ _) (by simp)
theorem XB(a b c:Int)(W:MO):(Instr.buildSlice 74 1 #[(0,Ny #[MF ME a,MF ME b,MF ME c])]).run MK W=.ok (MG (MI ⟨W.heap.size,0,MH⟩) 1 1) (W.alloc (MP #[MF ME a,MF ME b,MF ME c] 76)):=by kernel_rfl
theorem Xp.MB{w5 X:MO}{b:Nat}{q:Sq}{M L:List M7}{p:Option Oc}{z k j:Nat}(h:Xp w5 X b q M L p z k j)(hj:j<12)(h2:aA q.s.bef.liv (j:Int)=2) :
  ∃p' k' w9,(Builtin.append_ #[74,74] 74 #[MG p z k,MG (MI ⟨X.heap.size,0,MH⟩) 1 1]).run MK (X.alloc (MP #[MF ME (j:Int),MF ME (W8 q.s.bef j),MF ME ((fX q.s.bef.fls (j:Int):Nat):Int)] 76))=.ok (MG p' (z+1) k') w9/\Xp w5 w9 b q M L p' (z+1) k' (j+1):=by
 have hl:=Xx q.s.bef q.s.bef.fls j;rw[<-h.len]at hl;obtain⟨g',k',w9,hr,ho,hg,hlies⟩:=rN yT yh (by decide) Tryz.underlying74 Cn rfl h.own h.bel.size 74 ((j:Int),W8 q.s.bef j,((fX q.s.bef.fls (j:Int):Nat):Int)) #[MF ME (j:Int),MF ME (W8 q.s.bef j),MF ME ((fX q.s.bef.fls (j:Int):Nat):Int)] rfl (by omega) (by unfold NE;omega);have hs:WP q.s.bef q.s.bef.fls (j+1)=WP q.s.bef q.s.bef.fls j++[((j:Int),W8 q.s.bef j,((fX q.s.bef.fls (j:Int):Nat):Int))]:=by rw[WR,Nh h2]
 have hB:MQ w5.heap.size w5 w9:=h.bel.trans ((MY _ _).grown hg h.bel.size (fun y e=>(h.own.lt y e).1));exact⟨_,k',w9,hr,h.tw5,by rw[hs];exact ho,by rw[hs,List.length_append,<-h.len];rfl,hB⟩
theorem XH(f:Nat->Int)(hf:∀i,i<16->(Lit.int ME (f i)).wf=Nw)(ds:List Dd)(hds:∀d∈ds,Kg d){pd:Option Oc}{cd:Nat}(hrow:bj Ka w (MG pd ds.length cd) ds)(hB:aK w):
  Ni MK 5 #[BD (f 0) (f 1) (f 2) (f 3) (f 4) (f 5) (f 6) (f 7) (f 8) (f 9) (f 10) (f 11) (f 12) (f 13) (f 14) (f 15),MG pd ds.length cd] w fun r w'=>r=MN (M3 Nw)/\MQ w.heap.size w w':=by
 obtain⟨L,hL,eL,hpl⟩:=XA f hf ds hds hrow hB 60 (by omega);rw[eL];obtain⟨W0,hW0⟩:∃W0,W0=w.alloc (MP L.toArray 24):=⟨_,rfl⟩;have hb0:MQ w.heap.size w W0:=by rw[hW0];exact ai w
 have HI:M6 (_/\_/\_):=⟨hL,hb0,hpl W0 hb0⟩;obtain⟨nd,hnd⟩:∃nd,nd=ds.length:=⟨_,rfl⟩;rw[<-hnd]at HI⊢;clear hL eL hpl hb0 hf hds hrow hB hnd;go_enter Tryz.func5,Tryz.ntmps5
 go_wp2_with ((with_reducible refine O3 rfl 24 (O6 2) rfl w.heap.size 0 ?gx L _ ?gc Tryz.underlying24 ?gd ?gi ?_);(case gx=>rfl);(case gc=>exact J8 (M1 _ _));(case gd=>rfl);(case gi=>rw[HI.out.1];exact K0))
 rw[<-hW0];clear hW0;refine Nd HI.out.2.2 ?_;rintro r w1 ⟨g,V,c,P,rfl,hS,hcx,hn4,hnm,hk3⟩;obtain⟨n,hn⟩:∃n,n=P.steps.length:=⟨_,rfl⟩;have HS:M6 (_/\_/\_/\_/\_):=⟨hS,hcx,hn,(show n<=60+4 by omega),hk3⟩;have hB1:=HI.out.2.1.trans (hS.bel.mono HI.out.2.1.size);have HB:M6 _:=hB1;clear hS hcx hn4 hnm hk3 hn HI hB1
 go_wp2_with fail
 go_loopw [7,8,9,10,11,12,13,14] (fun i _ _ _ _ _ _ _ wr=>∃k:Nat,i=MF ME (k:Int)/\k<=n/\M6 (MQ w1.heap.size w1 wr)) (fun i _ _ _ _ _ _ _ _=>n-(intOf i).toNat)
 case atStart=>exact⟨0,rfl,Nx _,MY _ _⟩
 case round =>
  obtain⟨k,rfl,hk,HW⟩:=hrel;have hSr:=HS.out.1.on HW.out;have c16:wr.cell? ⟨g,16,MH⟩=MI (MG V.ps n V.cs):=by rw[HS.out.2.2.1];exact hSr.pat.Gm
  have hgl:=hSr.pat.lt
  by_cases hlt:k<n
  ·have hkI:(k:Int)<(n:Int):=by omega
   have hnb:n<=9223372036854775807:=by have:=HS.out.2.2.2.1;omega
   obtain⟨q,b,o,hq,hst,hok⟩:=hSr.step (k:=k) (by rw[<-HS.out.2.2.1];exact hlt);obtain⟨Y,hY,hSB,hYb,hth⟩:=hq.box;obtain⟨R,hR⟩:∃R,R=JU q:=⟨_,rfl⟩;have hat:=hq.at_;have y1:Y.cell? ⟨wr.heap.size,1,MH⟩=MI (MF ME q.s.ev.key):=(hSB.F7 1).trans rfl;have y29:Y.cell? ⟨wr.heap.size,29,MH⟩=MI (MG q.u.ps (ao q.s.bef.wts).length q.u.cs):=(hSB.F7 29).trans rfl;have y60:Y.cell? ⟨wr.heap.size,60,MH⟩=MI (MG q.po q.s.out.length q.co):=(hSB.F7 60).trans rfl;have hcs:=hq.cells;rw[<-hR]at hY hth hcs;have HQ:M6 (_/\_/\_/\_/\_/\_):=⟨hcs,hth,hY,hR,HW.out.trans (hYb.mono HW.out.size),(show R.length=61 by rw[hR];rfl)⟩;have HT:M6 (_/\_/\_/\_):=⟨hst,hok,hSB,hYb⟩;clear hq hst hok hY hSB hYb hth hR hcs;rw[hat]at c16;clear hat
   have hout:=HT.out.2.2.1.rd.2.2;clear hSr;obtain⟨m1,hm1⟩:∃m,m=q.s.out.length:=⟨_,rfl⟩;have hcs:((m1:Int) != 1)=Nw\/∃x,q.s.out=[x]/\m1=1/\((x.kind != 1)=Nw\/((x.kind != 1)=Nb/\x.kind=1)):=by
    by_cases hl1:q.s.out.length=1
    ·obtain⟨x,hx⟩:∃x,q.s.out=[x]:=by
      match hq:q.s.out,hl1 with
      | [x],_=>exact⟨x,rfl⟩
     refine NF ⟨x,hx,by omega,?_⟩
     by_cases h1:x.kind=1
     ·exact NF ⟨by simp[h1],h1⟩
     ·exact Nt (by simp[h1])
    ·exact Nt (by simp;omega)
   rw[<-hm1]at y60;clear hm1;rcases hcs with h1|⟨x,hx,rfl,hkd⟩
   case' inr =>
    obtain⟨bo,oo,hpo,u0,_,_,u3,_⟩:=Xz hout hx;rw[hpo]at y60;have hbo:bo<Y.heap.size:=World.block_lt_of_cell? Y ⟨bo,oo,MH⟩ u0;have hYl:wr.heap.size<Y.heap.size:=(Array.getElem?_eq_some_iff.1 HT.out.2.2.1.box).1;have HP:M6 (_/\_):=⟨hx,hpo⟩;clear hx hpo hout;rcases hkd with h1|⟨h1,h2⟩
   case' inr.inr =>
    obtain⟨M,M2,hTw⟩:∃M M2,Xs Y wr.heap.size q M M2:=⟨_,_,HT.out.2.2.1,rfl,rfl⟩;have hrg:=HT.out.2.1.XQ HP.out.1 h2;have hke:=(D5 HT.out.2.1.ev).key;obtain⟨kn,hkn⟩:=NL hke.1;rw[hkn]at y1 hrg;have hk32:kn<4294967296:=by omega
    have HR:M6 (_/\_):=⟨hrg,hk32⟩;have HM:M6 _:=hTw;clear hTw hrg hke hkn hk32;obtain⟨sn,hsn⟩:∃s,s=(ao q.s.bef.wts).length:=⟨_,rfl⟩;rw[<-hsn]at y29;have HSN:M6 _:=hsn;clear hsn
    go_wp2_with (first|((with_reducible refine O3 rfl 62 (O6 35) rfl b (o+k*61) ?gx R _ ?gc Yc ?gd ?gi ?_);(case gx=>rfl);(case gc=>exact HQ.out.1);(case gd=>rfl);(case gi=>rw[HQ.out.2.2.2.2.2];exact Xw))|((with_reducible refine OW rfl 62 (O6 8) (O6 36) rfl wr.heap.size 0 R.toArray ?sx ?sy ?st ?si ?s1 ?_);(case sx=>rfl);(case sy=>rfl);(case st=>exact HQ.out.2.1);(case si=>rw[OQ,HQ.out.2.2.2.2.2];exact Xw);(case s1=>rw[HQ.out.2.2.2.1];exact XC q);rw[NS,<-HQ.out.2.2.1]))
    obtain⟨B8,hB8⟩:∃B8,B8=wr.heap.size:=⟨_,rfl⟩;rw[<-hB8];rw[<-hB8]at HM;clear hB8 c16 hgl y1 y29 y60 u0 u3 hbo hYl h1;refine Nd (by rw[HSN.out];exact Cq _ _ kn Y HT.out.2.1.wm.im.bs.wts HM.out.sb.rd.1.ring HR.out.2) ?_;rintro r w5 ⟨p,cc,rfl,hown,hb5⟩;obtain⟨lw,hlw⟩:∃l,l=ie (ao q.s.bef.wts) (fH kn:Nat):=⟨_,rfl⟩;rw[<-hlw]at hown⊢;obtain⟨nl,hnl⟩:∃n,n=lw.length:=⟨_,rfl⟩;rw[<-hnl]at hown⊢;have HW5:M6 (_/\_/\_/\_/\_):=⟨HM.out.on hb5,hown,hlw,hnl,hb5⟩;clear hown hlw hnl hb5
    go_wp2_with fail
    go_loopw [11,12] (fun ls i wr=>∃(j z:Nat) (pl:Option Oc) (cl:Nat),ls=MG pl z cl/\i=MF ME (j:Int)/\j<=12/\M6 (Xp w5 wr B8 q M M2 pl z cl j)) (fun _ i _=>12-(intOf i).toNat)
    case atStart=>exact⟨0,0,MH,0,rfl,rfl,Nx _,HW5.out.1,⟨rfl,Nt ⟨rfl,rfl⟩⟩,rfl,MY _ _⟩
    case round =>
     obtain⟨j,z,pl,cl,rfl,rfl,hj,HG⟩:=hrel
     by_cases hlj:j<12
     ·have hjI:(j:Int)<12:=by omega
      obtain⟨s1,hs1⟩:∃s,s=aA q.s.bef.liv (j:Int):=⟨_,rfl⟩;obtain⟨wb,hwb⟩:∃s,s=W8 q.s.bef (j:Int):=⟨_,rfl⟩;obtain⟨cf,hcf⟩:∃s,s=fX q.s.bef.fls (j:Int):=⟨_,rfl⟩;have HS1:M6 _:=hs1
      by_cases h2s:s1=2
      ·have h2t:(s1 == 2)=true:=by simp[h2s]
       have HZ:M6 (_/\_/\aA q.s.bef.liv (j:Int)=2):=⟨hwb,hcf,hs1.symm.trans h2s⟩;clear hs1 hwb hcf h2s
       go_wp2_with ((with_reducible refine O3 rfl 54 (O6 63) rfl B8 8 ?gx M _ ?gc U1 ?gd ?gi ?_);(case gx=>rfl);(case gc=>exact HG.out.tw.r1);(case gd=>rfl);(case gi=>exact HG.out.tw.i1))
       refine Nd (HG.out.tw.XU _) ?_;rintro r w6 ⟨rfl,hb6⟩;rw[<-HS1.out];replace HG:M6 _:=HG.out.on hb6;clear hb6
       go_wp2_with fail
       obtain⟨S,hS1,hS2⟩:∃S:MO->Prop,(∀X,S X->Xs X B8 q M M2)/\(∀X,Xs X B8 q M M2->S X):=⟨_,fun _ h=>h,fun _ h=>h⟩;have HSS:M6 (_/\_):=⟨hS1,hS2⟩;clear hS1 hS2;have HL6:M6 _:=HG.out.on (MY _ _).drew;refine wp_region_held_drew (S:=S) (by kernel_rfl) (HSS.out.2 _ HL6.out.tw) (fun hHeld=>?_);refine o5 0 (MG pl z cl) hHeld ?_;simp only[Nr,MZ,MT,MS,MJ,ML,MM];refine o5 1 (MF ME (j:Int)) hHeld ?_;simp only[Nr,MZ,MT,MS,MJ,ML,MM];refine o5 2 (Na (MI ⟨B8,8,MH⟩)) hHeld ?_;simp only[Nr,MZ,MT,MS,MJ,ML,MM];refine o5 3 (Ny M.toArray) hHeld ?_ (hy:=Pt (by rfl) 54 (O6 70) rfl B8 8 rfl M _ (fun _ h=>(HSS.out.1 _ h).r1) U1 rfl HG.out.tw.i1);simp only[Nr,MZ,MT,MS,MJ,ML,MM];refine o5 4 (MF ME (j:Int)) hHeld ?_;simp only[Nr,MZ,MT,MS,MJ,ML,MM];refine o5 6 (Na (MI ⟨B8,8,MH⟩)) hHeld ?_;simp only[Nr,MZ,MT,MS,MJ,ML,MM];refine o5 7 (Ny M.toArray) hHeld ?_ (hy:=Pt (by rfl) 54 (O6 74) rfl B8 8 rfl M _ (fun _ h=>(HSS.out.1 _ h).r1) U1 rfl HG.out.tw.i1);simp only[Nr,MZ,MT,MS,MJ,ML,MM];refine o5 8 (MF ME (j:Int)) hHeld ?_;simp only[Nr,MZ,MT,MS,MJ,ML,MM];refine NN (rs:=[5]) (by kernel_rfl) (by simp) ?_;refine NP (o:=_) rfl (fun K hK=>?_) NX;go_simp;refine Nd (HL6.out.tw.XV HT.out.2.1.wm.im.bs hlj) ?_;rintro r w7 ⟨rfl,hb⟩;rw[<-HZ.out.1];have HL7:M6 (Xp w5 w7 B8 q M M2 pl z cl j):=HL6.out.on hb;have hw7:S w7:=HSS.out.2 _ HL7.out.tw;clear hb
       go_wp2_with fail
       refine hK.out _ _ hw7 (fun _=>?_);clear hK K
       try simp only[Nr,MZ,MT,MS,MJ,ML,MM]
       refine NN (rs:=[9]) (by kernel_rfl) (by simp) ?_;refine NP (o:=_) rfl (fun K hK=>?_) NX;go_simp;refine Nd (HL7.out.tw.XS HT.out.2.1.wm.im.bs.Gb _) ?_;rintro r w8 ⟨rfl,hb⟩;rw[<-HZ.out.2.1];have HL8:M6 (Xp w5 w8 B8 q M M2 pl z cl j):=HL7.out.on hb;have hw8:S w8:=HSS.out.2 _ HL8.out.tw;clear hb
       go_wp2_with fail
       refine hK.out _ _ hw8 (fun _=>?_);clear hK K
       try simp only[Nr,MZ,MT,MS,MJ,ML,MM]
       refine o5 10 (Ny #[MF ME (j:Int),MF ME wb,MF ME (cf:Int)]) hw8 ?_;simp only[Nr,MZ,MT,MS,MJ,ML,MM];obtain⟨p9,k9,w9,hr9,hL9⟩:=HL8.out.MB hlj HZ.out.2.2;rw[<-HZ.out.1,<-HZ.out.2.1]at hr9;have HL9:M6 _:=hL9;have HR9:M6 _:=hr9;clear hr9 hL9;refine NN (rs:=[11]) (by kernel_rfl) (by simp) ?_;refine LR (i:=11) (o:=_) (by rfl) (by rfl) 74 1 #[(0,O6 78)] (by rfl) (MG (MI ⟨w8.heap.size,0,MH⟩) 1 1) (by simp only[List.map_toArray,OA,List.map_nil];exact XB _ _ _ w8) (HSS.out.2 _ (HL8.out.tw.on (ai w8))) ?_
       try simp only[Nr,MZ,MT,MS,MJ,ML,MM]
       refine NN (rs:=[12]) (by kernel_rfl) (by simp) ?_;refine KW (i:=12) (o:=_) (by rfl) (by rfl) (O6 68) (O6 79) 74 (by rfl) (MG pl z cl) (MG (MI ⟨w8.heap.size,0,MH⟩) 1 1) (MG p9 (z+1) k9) (by rfl) (by rfl) HR9.out (HSS.out.2 _ HL9.out.tw) ?_
       try simp only[Nr,MZ,MT,MS,MJ,ML,MM]
       refine NN (rs:=[13]) (by kernel_rfl) (by simp) ?_;refine mE (i:=13) (o:=_) (by rfl) (by rfl) (O6 80) (by rfl) (MG p9 (z+1) k9) (by rfl) (HSS.out.2 _ HL9.out.tw) ?_;refine wpAnyH_done (by kernel_rfl) ?_ _;clear HR9 hw8 HL8 hw7 HL7 hHeld HL6;generalize w8.heap.size=h8;go_wp2
       go_roundw
       case rel=>exact⟨j+1,z+1,p9,k9,rfl,by simp,hlj,HL9⟩
       case measure=>simp[intOf];omega
      ·have h2t:(s1 == 2)=false:=by simp[h2s]
       have hse:WP q.s.bef q.s.bef.fls (j+1)=WP q.s.bef q.s.bef.fls j:=by rw[WR,Nf (fun e=>h2s (hs1.trans e)),List.append_nil]
       have HE:M6 _:=hse;clear hs1 hwb hcf h2s hse
       go_wp2_with ((with_reducible refine O3 rfl 54 (O6 63) rfl B8 8 ?gx M _ ?gc U1 ?gd ?gi ?_);(case gx=>rfl);(case gc=>exact HG.out.tw.r1);(case gd=>rfl);(case gi=>exact HG.out.tw.i1))
       refine Nd (HG.out.tw.XU _) ?_;rintro r w6 ⟨rfl,hb6⟩;rw[<-HS1.out];replace HG:M6 _:=HG.out.on hb6;clear hb6;go_wp2
       go_roundw
       case rel=>exact⟨j+1,z,pl,cl,rfl,by simp,hlj,HG.out.tw5,by rw[HE.out];exact HG.out.own,by rw[HE.out];exact HG.out.len,HG.out.bel⟩
       case measure=>simp[intOf];omega
     ·obtain rfl:j=12:=by omega
      have hjI:¬((12:Nat):Int)<12:=by omega
      obtain⟨ll,hll⟩:∃l,l=WP q.s.bef q.s.bef.fls 12:=⟨_,rfl⟩;obtain⟨m,hm⟩:∃z,z=q.s.bef.fls.length:=⟨_,rfl⟩;have hpo:=HR.out.1;rw[<-hll,<-hm,show pR q.s.bef (kn:Int)=lw from HW5.out.2.2.1.symm]at hpo;have HPO:M6 _:=hpo;have hld:eZ wr (MG pl z cl) ll:=by
       have h1:=HG.out.own;have h2:=HG.out.len;rw[<-hll]at h1 h2;have h3:=gZ (c:=jF) (l:=ll) (k:=3) (v:=MG pl z cl) (w:=wr) (base:=w5.heap.size) (e:=76) (by rw[<-h2];exact h1);show aR wr _ ll.length (f8 ll);rw[<-tI];exact h3
      have hit:fZ wr (MG p nl cc) lw:=by
       have h1:=aR.below (bP HW5.out.2.1) HG.out.bel;rw[HW5.out.2.2.2.1]at h1⊢;exact h1
      have HGG:M6 (_/\_/\_/\_):=⟨HG.out.tw,HG.out.bel,hit,hld⟩;have HLM:M6 _:=hm;obtain⟨C,hC1,hC2⟩:∃C:MO->Prop,(∀X,C X->Xs X B8 q M M2/\MQ w5.heap.size w5 X/\fZ X (MG p nl cc) lw/\eZ X (MG pl z cl) ll)/\(∀X,Xs X B8 q M M2/\MQ w5.heap.size w5 X/\fZ X (MG p nl cc) lw/\eZ X (MG pl z cl) ll->C X):=⟨_,fun _ h=>h,fun _ h=>h⟩;have HCC:M6 (_/\_):=⟨hC1,hC2⟩;have HQ5:M6 (MQ w1.heap.size w1 w5):=HQ.out.2.2.2.2.1.trans (HW5.out.2.2.2.2.mono HQ.out.2.2.2.2.1.size);have HPC:M6 (∀X,C X->X.cell? ⟨g,1,MH⟩=MI (MF ME c.num)/\X.cell? ⟨g,2,MH⟩=MI (MF ME c.den)/\X.cell? ⟨g,3,MH⟩=MI (MF ME c.tries)/\X.cell? ⟨B8,26,MH⟩=MI (MG q.u.pf m q.u.cf)):=fun X hX=>by
       have hp:=(HS.out.1.on (HQ5.out.trans ((HCC.out.1 X hX).2.1.mono HQ5.out.size))).pat
       exact⟨(hp.XR 1).trans rfl,(hp.XR 2).trans rfl,(hp.XR 3).trans rfl,by rw[HLM.out];exact((HCC.out.1 X hX).1.sb.F7 26).trans rfl⟩
      clear hC1 hC2 hpo hld hit hll hm
      go_wp2_with fail
      refine XM (C:=C) (HCC.out.2 _ ⟨HGG.out.1.on (MY _ _).drew,HGG.out.2.1.trans (((MY _ _).drew).mono HGG.out.2.1.size),HGG.out.2.2.1,HGG.out.2.2.2⟩) ?_
      go_big_quiet_want
      refine XL (MG p nl cc) ?_ (fun X hSw=>by go_simp);simp only[Nr,MZ,MT,MS,MJ,ML,MM]
      go_big_quiet_on
      go_big_quiet_want
      refine XL (MG pl z cl) ?_ (fun X hSw=>by go_simp);simp only[Nr,MZ,MT,MS,MJ,ML,MM]
      go_big_quiet_on
      go_big_quiet_want
      refine XL (gP g) ?_ (fun X hSw=>by go_simp);simp only[Nr,MZ,MT,MS,MJ,ML,MM]
      go_big_quiet_on
      go_big_quiet_want
      refine XL (Na (MI ⟨g,0,MH⟩)) ?_ (fun X hSw=>by go_simp);simp only[Nr,MZ,MT,MS,MJ,ML,MM]
      go_big_quiet_on
      go_big_quiet_want
      refine XL (Na (MI ⟨g,0,MH⟩)) ?_ (fun X hSw=>by go_simp);simp only[Nr,MZ,MT,MS,MJ,ML,MM]
      go_big_quiet_on
      go_big_quiet_want
      refine XL (Na (MI ⟨g,1,MH⟩)) ?_ (fun X hSw=>by go_simp);simp only[Nr,MZ,MT,MS,MJ,ML,MM]
      go_big_quiet_on
      go_big_quiet_want
      refine XL (MF ME c.num) ?_ (fun X hSw=>by have h:=(HPC.out X hSw).1;go_simp);simp only[Nr,MZ,MT,MS,MJ,ML,MM]
      go_big_quiet_on
      go_big_quiet_want
      refine XL (gP g) ?_ (fun X hSw=>by go_simp);simp only[Nr,MZ,MT,MS,MJ,ML,MM]
      go_big_quiet_on
      go_big_quiet_want
      refine XL (Na (MI ⟨g,0,MH⟩)) ?_ (fun X hSw=>by go_simp);simp only[Nr,MZ,MT,MS,MJ,ML,MM]
      go_big_quiet_on
      go_big_quiet_want
      refine XL (Na (MI ⟨g,0,MH⟩)) ?_ (fun X hSw=>by go_simp);simp only[Nr,MZ,MT,MS,MJ,ML,MM]
      go_big_quiet_on
      go_big_quiet_want
      refine XL (Na (MI ⟨g,2,MH⟩)) ?_ (fun X hSw=>by go_simp);simp only[Nr,MZ,MT,MS,MJ,ML,MM]
      go_big_quiet_on
      go_big_quiet_want
      refine XL (MF ME c.den) ?_ (fun X hSw=>by have h:=(HPC.out X hSw).2.1;go_simp);simp only[Nr,MZ,MT,MS,MJ,ML,MM]
      go_big_quiet_on
      go_big_quiet_want
      refine XL (Na (MI ⟨B8,8,MH⟩)) ?_ (fun X hSw=>by go_simp);simp only[Nr,MZ,MT,MS,MJ,ML,MM]
      go_big_quiet_on
      go_big_quiet_want
      refine XL (Na (MI ⟨B8,26,MH⟩)) ?_ (fun X hSw=>by go_simp);simp only[Nr,MZ,MT,MS,MJ,ML,MM]
      go_big_quiet_on
      go_big_quiet_want
      refine XL (MG q.u.pf m q.u.cf) ?_ (fun X hSw=>by have h:=(HPC.out X hSw).2.2.2;go_simp);simp only[Nr,MZ,MT,MS,MJ,ML,MM]
      go_big_quiet_on
      go_big_quiet_want
      refine XL (MF ME (m:Int)) ?_ (fun X hSw=>by go_simp);simp only[Nr,MZ,MT,MS,MJ,ML,MM]
      go_big_quiet_on
      go_big_quiet_want
      refine XL (gP g) ?_ (fun X hSw=>by go_simp);simp only[Nr,MZ,MT,MS,MJ,ML,MM]
      go_big_quiet_on
      go_big_quiet_want
      refine XL (Na (MI ⟨g,0,MH⟩)) ?_ (fun X hSw=>by go_simp);simp only[Nr,MZ,MT,MS,MJ,ML,MM]
      go_big_quiet_on
      go_big_quiet_want
      refine XL (Na (MI ⟨g,0,MH⟩)) ?_ (fun X hSw=>by go_simp);simp only[Nr,MZ,MT,MS,MJ,ML,MM]
      go_big_quiet_on
      go_big_quiet_want
      refine XL (Na (MI ⟨g,3,MH⟩)) ?_ (fun X hSw=>by go_simp);simp only[Nr,MZ,MT,MS,MJ,ML,MM]
      go_big_quiet_on
      go_big_quiet_want
      refine XL (MF ME c.tries) ?_ (fun X hSw=>by have h:=(HPC.out X hSw).2.2.1;go_simp);simp only[Nr,MZ,MT,MS,MJ,ML,MM]
      go_big_quiet_on
      go_big_quiet_want
      refine XN (Nv #[MF ME x.be,MF ME 0]) 17 #[MG p nl cc,MG pl z cl,MF ME c.num,MF ME c.den,MF ME (m:Int),MF ME c.tries] (fun X hX=>(EM _ _ lw ll c.num c.den m c.tries X (HCC.out.1 X hX).2.2.1 (HCC.out.1 X hX).2.2.2).mono fun r w' h=>⟨h.1.trans (by rw[HPO.out]),HCC.out.2 w' ⟨(HCC.out.1 X hX).1.on h.2,(HCC.out.1 X hX).2.1.trans (h.2.mono (HCC.out.1 X hX).2.1.size),aR.below (HCC.out.1 X hX).2.2.1 h.2,aR.below (HCC.out.1 X hX).2.2.2 h.2⟩⟩) ?_;simp only[Nr,MZ,MT,MS,MJ,ML,MM]
      go_big_quiet_on
      go_big_quiet_want
      refine XL (Nv #[MF ME x.be,MF ME 0]) ?_ (fun X hSw=>by go_simp);simp only[Nr,MZ,MT,MS,MJ,ML,MM]
      go_big_quiet_on
      go_big_quiet_want
      refine XL (MF ME x.be) ?_ (fun X hSw=>by go_simp);simp only[Nr,MZ,MT,MS,MJ,ML,MM]
      go_big_quiet_on
      go_big_quiet_want
      refine XL (MF ME 0) ?_ (fun X hSw=>by go_simp);simp only[Nr,MZ,MT,MS,MJ,ML,MM]
      go_big_quiet_on
      go_big_quiet_want
      refine XL (MF ME x.be) ?_ (fun X hSw=>by go_simp);simp only[Nr,MZ,MT,MS,MJ,ML,MM]
      go_big_quiet_on
      go_big_quiet_want
      refine XL (MF ME 0) ?_ (fun X hSw=>by go_simp);simp only[Nr,MZ,MT,MS,MJ,ML,MM]
      go_big_quiet_on
      refine wpQuiet_nil ?_;intro X hX;have hT:=(HCC.out.1 X hX).1;have z60:=hT.XT HP.out.1;rw[HP.out.2]at z60;have z3:=(hT.o1 HP.out.1 HP.out.2).2;have l8:=hT.lt;have lb:bo<X.heap.size:=World.block_lt_of_cell? X ⟨bo,oo+3,MH⟩ z3;have hbb:(x.be != x.be)=false:=by simp
      have HF:M6 _:=HQ5.out.trans ((HCC.out.1 X hX).2.1.mono HQ5.out.size);clear hX hT;go_wp2
      go_roundw
      case rel=>exact⟨k+1,by simp,hlt,HF⟩
      case measure=>simp[intOf];omega
   all_goals
    go_wp2_with (first|((with_reducible refine O3 rfl 62 (O6 35) rfl b (o+k*61) ?gx R _ ?gc Yc ?gd ?gi ?_);(case gx=>rfl);(case gc=>exact HQ.out.1);(case gd=>rfl);(case gi=>rw[HQ.out.2.2.2.2.2];exact Xw))|((with_reducible refine OW rfl 62 (O6 8) (O6 36) rfl wr.heap.size 0 R.toArray ?sx ?sy ?st ?si ?s1 ?_);(case sx=>rfl);(case sy=>rfl);(case st=>exact HQ.out.2.1);(case si=>rw[OQ,HQ.out.2.2.2.2.2];exact Xw);(case s1=>rw[HQ.out.2.2.2.1];exact XC q);rw[NS,<-HQ.out.2.2.1]))
    go_roundw
    case rel=>exact⟨k+1,by simp,hlt,HQ.out.2.2.2.2.1⟩
    case measure=>simp[intOf];omega
  ·obtain rfl:k=n:=by omega
   have hkI:¬(k:Int)<(k:Int):=by omega
   go_wp2;go_ret;exact⟨rfl,HB.out.trans (HW.out.mono HB.out.size)⟩
end Go.Proofs.YtlnbhjdhcmgljaaGreatDoor.Q
