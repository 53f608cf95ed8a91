/-
  TopBound: its walk. Conditions: as each theorem says.
-/
import Derived.Test.YtlnbhjdhcmgljaaGreatDoorQ20
open Bool renaming false->Nb,true->Nw
open Decidable renaming decide->Nn
open Go renaming Addr->Oc,Calls->Ni,Value->M7,World->MO,cell_of_row->MW,heap_alloc_new->M1,wpList_load_mid->O3,wpList_store_mid->OW
open Go.Act renaming put->Nr
open Go.Calls renaming mono->Nd
open Go.Ending renaming returned->MN
open Go.IntKind renaming i64->ME
open Go.Obj renaming cells->MP
open Go.Operand renaming tmp->O6
open Go.Proofs.Tryz renaming prog->MK,underlying54->U1,underlying62->XZ
open Go.RowKit renaming Below->MQ,Hid->M6
open Go.RowKit.Below renaming refl->MY
open Go.Value renaming agg->Ny,bool->M3,int->MF,pointer->Na,slice->MG,tuple->Nv
open Int renaming le_refl->Qh,mul_le_mul_of_nonneg_left->XV,mul_le_mul_of_nonneg_right->XU,one_mul->X5
open List renaming countP_append->Qi,countP_cons_of_pos->XX,foldl_cons->O4,getElem?_append_left->OJ,getElem?_append_right->Tw,getElem?_eq_getElem->MR,getElem_cons_succ->MT,getElem_cons_zero->MS,getElem_mem->Nk,getElem_toArray->MZ,map_congr_left->PU,map_cons->OA,map_map->XY,mem_cons_of_mem->NB,mem_cons_self->NM,range->Pm,setIfInBounds_toArray->MJ,set_cons_succ->MM,set_cons_zero->ML,size_toArray->OQ,sum_cons->XT,take_length->NT,take_succ_eq_append_getElem->M9,toList_toArray->NS
open Nat renaming add_sub_cancel_left->XW,zero_le->Nx
open Option renaming none->MH,some->MI
open Or renaming inl->Nt,inr->NF
namespace Go.Proofs.YtlnbhjdhcmgljaaGreatDoor.Q
set_option linter.unusedVariables false
set_option linter.unusedSimpArgs false
set_option maxHeartbeats 16000000
set_option maxRecDepth 100000
open Go.RowKit
attribute [local go_sem ↓] Go.wp_at_zero Go.wp_at_succ
variable {K:Act->Prop}{G:Gt}{a c:Int}{l:List Ld}{w:MO}{g i:Nat}{V:Pv}{P:Py}{U:Us}
theorem Xk{out:List Int}{t:Tm}{x:Int}:x∈ma out t↔x∈out\/x=t.2:=by
 unfold ma
 split
 ·rename_i h
  exact⟨Nt,fun h2=>h2.elim id (fun e=>by rw[e];exact h)⟩
 ·simp
theorem Xj:∀(m:List Tm) (x:List Int),x.Nodup->(m.foldl ma x).Nodup
 | [],_,h=>h
 |t::m,x,h=>by
  rw[O4];refine Xj m _ ?_;unfold ma
  split
  ·exact h
  ·rename_i hn
   rw[List.nodup_append];exact⟨h,by simp,fun a ha b hb e=>hn (by rw[List.mem_singleton]at hb;rw[<-hb,<-e];exact ha)⟩
theorem Xi:∀(m:List Tm) (x:List Int) (n:Int),n∈m.foldl ma x↔n∈x\/∃t∈m,t.2=n
 | [],x,n=>by simp
 |t::m,x,n=>by
  rw[O4,Xi m,Xk];constructor
  ·rintro((h|h)|⟨t',h1,h2⟩)
   ·exact Nt h
   ·exact NF ⟨t,NM ..,h.symm⟩
   ·exact NF ⟨t',NB _ h1,h2⟩
  ·rintro(h|⟨t',h1,h2⟩)
   ·exact Nt (Nt h)
   ·rcases List.mem_cons.1 h1 with rfl|h1
    ·exact Nt (NF h2.symm)
    ·exact NF ⟨t',h1,h2⟩
theorem Xm(l:List Tm)(at_:Int):(ie l at_).Nodup:=Xj _ [] List.nodup_nil
theorem Xl(l:List Tm)(at_ n:Int):n∈ie l at_↔∃t∈l,t.2=n:=by
 unfold ie vY;rw[Xi];constructor
 ·rintro(h|⟨t,h1,h2⟩)
  ·cases h
  ·exact⟨t,Cv.1 h1,h2⟩
 ·rintro⟨t,h1,h2⟩
  exact NF ⟨t,Cv.2 h1,h2⟩
theorem W8{b d e:Int}(h:l9 a b c d e):a*(c+1)*d<=ns a b c d e*(b*e)/\(ns a b c d e-1)*(b*e)<a*(c+1)*d/\1<=ns a b c d e/\ns a b c d e<=78720:=by
 obtain⟨_,⟨p1,p2⟩,p3,p4⟩:=zn h;unfold ns;generalize a*(c+1)*d=p at *;generalize b*e=q at *;have h1:=Int.ediv_mul_le (p+q-1) (b:=q) (by omega);have h2:=Int.lt_ediv_add_one_mul_self (p+q-1) (b:=q) (by omega);have h3:1<=(p+q-1) / q:=Int.le_ediv_of_mul_le p3 (by omega);have h4:(p+q-1) / q<=(p+q-1) / q*q:=by
  have:=XV (a:=1) (b:=q) (c:=(p+q-1) / q) (by omega) (by omega);omega
 generalize (p+q-1) / q=u at *;rw[Int.add_mul,X5]at h2;rw[Int.sub_mul,X5];refine⟨by omega,by omega,h3,?_⟩;rcases Int.lt_or_le 1 u with h|h
 ·have:=XV (a:=1) (b:=q) (c:=u-1) (by omega) (by omega)
  rw[Int.mul_one,Int.sub_mul,X5]at this;omega
 ·omega
def Xe(l:List Ld):Int:=(l.map fun x=>if 0<x.2.1 then x.2.2 else 0).sum
theorem Xc(a b c t:Int):∀l:List Ld,(∀x∈l,gI x)->(∀x∈l,x.2.1≠0->l9 a b c x.2.1 t)->a*(c+1)*cY l<=(l.map (jp a b c t)).sum*(b*t)
 | [],_,_=>by simp[cY]
 |x::l,h,hf=>by
  have ih:=Xc a b c t l (fun y hy=>h y (NB _ hy)) (fun y hy=>hf y (NB _ hy));have e1:cY (x::l)=x.2.1+cY l:=by simp[cY]
  have e2:((x::l).map (jp a b c t)).sum=jp a b c t x+(l.map (jp a b c t)).sum:=by simp
  rw[e1,e2,Int.mul_add,Int.add_mul];have h1:a*(c+1)*x.2.1<=jp a b c t x*(b*t):=by
   unfold jp
   split
   case isTrue h0=>rw[h0];simp
   case isFalse h0=>exact(W8 (hf x (NM ..) h0)).1
  omega
theorem Xa{b:Int}(hok:ir l)(hf:g8 a b c)(h0:0<cY l):c+1<=(eI a b c l).sum:=by
 have hall:=ju hok.2;have hbd:=nI l hall;have h:=Xc a b c (cY l) l hall fun x hx hx0=>yS hok hf hx hx0
 unfold eI;generalize (l.map (jp a b c (cY l))).sum=u at *;generalize cY l=t at *;obtain⟨⟨h1,h2,h3⟩,h4,h5⟩:=hf;have m1:b*(c+1)<=a*(c+1):=XU h2 (by omega);have m2:b*(c+1)*t<=a*(c+1)*t:=XU m1 (by omega);have m3:(c+1)*(b*t)<=u*(b*t):=by
  have e:b*(c+1)*t=(c+1)*(b*t):=by rw[Int.mul_comm b (c+1),Int.mul_assoc]
  rw[<-e];omega
 exact Int.le_of_mul_le_mul_right m3 (Int.mul_pos (by omega) (by omega))
theorem Xb(a b c t:Int):∀l:List Ld,(∀x∈l,jp a b c t x<=if 0<x.2.1 then x.2.2 else 0)->(l.map (jp a b c t)).sum<=Xe l
 | [],_=>by simp[Xe]
 |x::l,h=>by
  have ih:=Xb a b c t l fun y hy=>h y (NB _ hy)
  have h1:=h x (NM ..);have e2:((x::l).map (jp a b c t)).sum=jp a b c t x+(l.map (jp a b c t)).sum:=by simp
  have e3:Xe (x::l)=(if 0<x.2.1 then x.2.2 else 0)+Xe l:=by simp[Xe]
  rw[e2,e3];omega
theorem Xg{b:Int}(hi:i<l.length):cm l (eI a b c l) i=Nn (l[i].2.2<jp a b c (cY l) l[i]):=by
 unfold cm;rw[zI,dif_pos hi];simp[hi]
theorem Xh{b:Int}(hok:ir l)(hf:g8 a b c)(h0:0<cY l)(hfl:Xe l<=c):∃i,i<l.length/\cm l (eI a b c l) i=true:=by
 refine Classical.byContradiction fun hn=>?_
 have h1:=Xa hok hf h0;have h2:=Xb a b c (cY l) l fun x hx=>by
  obtain⟨i,hi,rfl⟩:=List.getElem_of_mem hx;have hd:=ju hok.2 l[i] hx;have hr:¬(l[i].2.2<jp a b c (cY l) l[i]):=fun h=>hn ⟨i,hi,by rw[Xg hi];exact Nq h⟩
  have hw:=hd.1.1
  split
  case isTrue=>omega
  case isFalse h =>
   have:l[i].2.1=0:=by omega
   unfold jp;rw[Nh this];exact Qh _
 unfold eI at h1;omega
theorem Xd{b:Int}(hok:ir l)(hf:g8 a b c)(h0:0<cY l)(hfl:Xe l<=c)(ws:List Int)(t:Nat):
  ∃i,∃hi:i<l.length,iu l (eI a b c l) ws t=MI i/\l[i].2.2<jp a b c (cY l) l[i]/\0<l[i].2.1:=by
 obtain⟨j,hj,hrj⟩:=Xh hok hf h0 hfl;have hw:=ru (a:=a) (b:=b) (c:=c) hok;have key:∀i,i<l.length->cm l (eI a b c l) i=Nw->∃hi:i<l.length,l[i].2.2<jp a b c (cY l) l[i]/\0<l[i].2.1:=fun i hi hr=>by
  have h1:=hw i hr;rw[Xg hi]at hr;exact⟨hi,M2 hr,by simpa [hi]using h1⟩
 unfold iu;cases ha:df l (eI a b c l) ws t with
 |some i =>
  obtain⟨h1,h2,_⟩:=mo ha;obtain⟨h3,h4⟩:=key i h1 h2;exact⟨i,h3,rfl,h4⟩
 |none =>
  have hb:=qc hw l.length;cases hl:bL l (eI a b c l) l.length with
  |none =>
   rw[hl]at hb;rw[hb j (Nx _) hj]at hrj;cases hrj
  |some i =>
   obtain⟨h1,h2⟩:=yi hw hl;obtain⟨h3,h4⟩:=key i h1 h2;exact⟨i,h3,rfl,h4⟩
theorem WZ(hok:∀x∈l,gI x):l.any dj=Nn (0<cY l):=by
 induction l with
 |nil=>rfl
 |cons x l ih =>
  have h1:=ih fun y hy=>hok y (NB _ hy)
  have h2:=nI l fun y hy=>hok y (NB _ hy)
  have h3:=(hok x (NM ..)).1.1;have e1:cY (x::l)=x.2.1+cY l:=by simp[cY]
  rw[List.any_cons,h1,e1];unfold dj
  by_cases h0:x.2.1=0
  ·rw[h0];simp
  ·have h4:0<x.2.1:=by omega
   have h5:0<x.2.1+cY l:=by omega
   simp[h0,h5]
theorem Xf{ws:List Int}{b t:Int}(hok:ir l)(hf:g8 a b c)(ht:0<=t/\t<=12)(hw:ws.length<=12):
  gY ws l a b c t=if 0<cY l then gk l (iu l (eI a b c l) ws t.toNat)else(0,11):=by
 unfold gY;rw[Nh (lN.2 hok),Nh hf,Nh ⟨ht.1,ht.2,hw⟩,WZ (ju hok.2)]
 by_cases h:0<cY l <;> simp[h]
section
variable {A:Gt}{c:Cf}{P:Py}
theorem JM.next{s:Sp}(h:JM c s):Wm s.aft:=by rw[h.aft];exact(h.wm.Mm (D5 h.ev) h.late).Ma
end
def WW(G:Gt)(b:Int):Int:=if aA G.liv b=2 then gL G (aq G.liv b)else 0
def WU(G:Gt):Int:=((Pm 12).map fun b:Nat=>WW G b).sum
section
variable {G:Gt}
theorem WS{g:Nat->Int}:∀(l:List Nat) (n:Nat),l.Nodup->n∈l->(∀b∈l,b≠n->g b=0)->(l.map g).sum=g n
 | [],n,_,h,_=>by cases h
 |a::l,n,hn,h,hz=>by
  obtain⟨h1,h2⟩:=List.nodup_cons.1 hn;rw[OA,XT]
  by_cases e:a=n
  ·subst e
   have:(l.map g).sum=0:=by
    have h0:∀b∈l,g b=0:=fun b hb=>hz b (NB _ hb) fun e=>h1 (e ▸ hb)
    clear hz hn h h1 h2
    induction l with
    |nil=>rfl
    |cons b l ih=>rw[OA,XT,h0 b (by simp),ih fun x hx=>h0 x (NB _ hx)];rfl
   omega
  ·rcases List.mem_cons.1 h with h|h
   ·exact absurd h.symm e
   ·rw[hz a (by simp) e,WS l n h2 h fun b hb=>hz b (NB _ hb)]
    omega
theorem WQ{f g:Nat->Int}(l:List Nat):(l.map fun b=>f b+g b).sum=(l.map f).sum+(l.map g).sum:=by
 induction l with
 |nil=>rfl
 |cons a l ih=>simp only[OA,XT,ih];omega
theorem WR(W:FV->Int):∀(L:List FV),eo L->(∀x∈L,0<=x.1/\x.1<12)->((Pm 12).map fun b:Nat=>if aA L b=2 then W (aq L b)else 0).sum=((L.filter fun l=>l.2.1 == 2).map W).sum
 | [],_,_=>by
  have:((Pm 12).map fun b:Nat=>if aA [] b=2 then W (aq [] b)else 0)=(Pm 12).map fun _=>0:=PU fun b _=>by rw[Nf (by show ¬(0:Int)=2;decide)]
  rw[this];rfl
 |y::L,hr,hb=>by
  obtain⟨h1,h2⟩:=List.pairwise_cons.1 hr;have ih:=WR W L h2 fun x hx=>hb x (NB _ hx)
  have hy:=hb y (by simp);have hnone:aq L y.1=fE:=tP fun x hx=>by have:=h1 x hx;omega
  have key:∀b∈Pm 12,(if aA (y::L) b=2 then W (aq (y::L) b)else 0)=(if(b:Int)=y.1 then(if y.2.1=2 then W y else 0)else 0)+(if aA L b=2 then W (aq L b)else 0):=fun b _=>by
   by_cases e:(b:Int)=y.1
   ·have q:aq (y::L) b=y:=by rw[e];exact iZ hr (by simp)
    have q2:aq L b=fE:=by rw[e];exact hnone
    rw[show aA (y::L) b=(aq (y::L) b).2.1 from rfl,q,show aA L b=(aq L b).2.1 from rfl,q2,Nh e,Nf (show ¬fE.2.1=2 by decide)];omega
   ·have q:aq (y::L) b=aq L b:=by
     unfold aq;rw[List.find?_cons_of_neg (by simpa using fun h:y.1=(b:Int)=>e h.symm)]
    rw[show aA (y::L) b=(aq (y::L) b).2.1 from rfl,q,Nf e,Int.zero_add]
  rw[PU key,WQ,ih,WS (g:=fun b:Nat=>if(b:Int)=y.1 then(if y.2.1=2 then W y else 0)else 0) (Pm 12) y.1.toNat List.nodup_range (List.mem_range.2 (by omega)) fun b _ hne=>Nf (by omega),Nh (by omega)]
  by_cases e:y.2.1=2
  ·rw[Nh e,List.filter_cons_of_pos (by simpa using e),OA,XT]
  ·rw[Nf e,List.filter_cons_of_neg (by simpa using e)]
   omega
theorem WT(h:Bs G)(fs:List Fl):cY (ej G fs)=WU G:=by
 unfold WU WW cY ej;rw[WR (gL G) G.liv h.Gv fun x hx=>by have:=(h.lf hx).1.1;omega,XY];rfl
theorem WO(h:Bs G)(fs:List Fl):Xe (ej G fs)<=fs.length:=by
 have h1:∀L:List FV,eo L->∀fs:List Fl,((L.map fun l=>(fX fs l.1:Int)).sum<=fs.length):=by
  intro L hr fs;have:((L.map fun l=>fX fs l.1).sum<=fs.length):=by
   have hn:(L.map (·.1)).Nodup:=List.pairwise_map.2 (hr.imp fun h=>by omega);have e:(L.map fun l=>fX fs l.1)=(L.map (·.1)).map (fX fs):=by rw[XY];rfl
   rw[e];clear e;generalize L.map (·.1)=B at hn
   induction fs with
   |nil =>
    have:∀B:List Int,(B.map (fX [])).sum=0:=fun B=>by induction B with
     |nil=>rfl
     |cons b B ih=>rw[OA,XT,ih];rfl
    rw[this];exact Nx _
   |cons f fs ih =>
    have:∀B:List Int,B.Nodup->(B.map (fX (f::fs))).sum<=(B.map (fX fs)).sum+1/\(f.be∉ B->(B.map (fX (f::fs))).sum=(B.map (fX fs)).sum):=fun B hB=>by
     induction B with
     |nil=>exact⟨by simp,fun _=>rfl⟩
     |cons b B ihB =>
      obtain⟨n1,n2⟩:=List.nodup_cons.1 hB;obtain⟨i1,i2⟩:=ihB n2;simp only[OA,XT]
      by_cases e:f.be=b
      ·have i3:=i2 (by rw[e];exact n1)
       have:fX (f::fs) b=fX fs b+1:=XX (by simpa using e);exact⟨by omega,fun hh=>absurd (by rw[e];simp) hh⟩
      ·have:fX (f::fs) b=fX fs b:=List.countP_cons_of_neg (by simpa using e)
       exact⟨by omega,fun hh=>by have:=i2 (fun h=>hh (NB _ h));omega⟩
    have:=(this B hn).1;rw[List.length_cons];omega
  have e2:∀l:List FV,(l.map fun l=>(fX fs l.1:Int)).sum=((l.map fun l=>fX fs l.1).sum:Nat):=fun l=>by induction l with
   |nil=>rfl
   |cons a l ih=>rw[OA,XT,ih,OA,XT];omega
  rw[e2];omega
 unfold Xe ej;rw[XY];have hr:eo (G.liv.filter fun l=>l.2.1 == 2):=h.Gv.filter _;refine Int.le_trans ?_ (h1 _ hr fs);generalize (G.liv.filter fun l=>l.2.1 == 2)=L
 induction L with
 |nil=>exact Qh _
 |cons l L ih =>
  rw[OA,OA,XT,XT];have:((fun x:Ld=>if 0<x.2.1 then x.2.2 else 0) ∘ fun l:FV=>(l.1,gL G l,(fX fs l.1:Int))) l<=(fX fs l.1:Int):=by
   simp only[Function.comp]
   split <;> omega
  omega
theorem WM(h:Bs G){key:Int}(hw:(pR G key).length<=12){fs:List Fl}(hfs:fs.length<=40) :
  (WU G<=0/\dL G key fs=(0,11)) \/
  (0<WU G/\∃b:Int,dL G key fs=(b,0)/\(0<=b/\b<12)/\aA G.liv b=2/\0<WW G b/\(fX fs b:Int)<ns G.cfg.num G.cfg.den fs.length (WW G b) (WU G)):=by
 have hok:=h.Jt hfs;have ht:=WT h fs;have hfl:=WO h fs;unfold dL;rw[Xf hok (h.Jm hfs) h.cfg.2.2.2.1 hw,ht]
 by_cases h0:0<WU G
 ·rw[Nh h0]
  obtain⟨i,hi,e,h1,h2⟩:=Xd hok (h.Jm hfs) (by rw[ht];exact h0) hfl (pR G key) G.cfg.tries.toNat
  rw[e];have hm:(ej G fs)[i]∈ej G fs:=Nk hi;obtain⟨l,hl,e2⟩:=List.mem_map.1 hm;obtain⟨hl,hs⟩:=List.mem_filter.1 hl;have h3:=(h.lf hl).1.1;have e3:aq G.liv l.1=l:=iZ h.Gv hl;have hs2:aA G.liv l.1=2:=by show(aq G.liv l.1).2.1=2;rw[e3];simpa using hs
  have e4:WW G l.1=gL G l:=by unfold WW;rw[Nh hs2,e3]
  rw[<-e2]at h1 h2;refine NF ⟨h0,l.1,?_,⟨h3.1,by omega⟩,hs2,by rw[e4];exact h2,?_⟩
  ·simp[gk,hi,<-e2]
  ·rw[e4,<-ht]
   unfold jp at h1;rw[Nf (by show ¬gL G l=0;have:0<gL G l:=h2;omega)]at h1;exact h1
 ·rw[Nf h0]
  exact Nt ⟨by omega,rfl⟩
end
theorem WP:∀(n:Nat) (l:List Int),l.Nodup->(∀x∈l,0<=x/\x<(n:Int))->l.length<=n
 |0,l,_,h=>by
  cases l with
  |nil=>simp
  |cons x l=>have:=h x (by simp);omega
 |n+1,l,hd,h=>by
  have h1:=WP n (l.erase n) (hd.erase _) fun x hx=>by
   obtain⟨h2,h3⟩:=(hd.mem_erase_iff).1 hx;have:=h x h3;omega
  rw[List.length_erase]at h1
  split at h1 <;> omega
theorem WV(G:Gt)(key:Int):(pR G key).length<=12:=WP 12 _ (Xm _ _) fun x hx=>by
 obtain⟨t,ht,e⟩:=(Xl _ _ _).1 hx;obtain⟨b,i,h1,_,rfl⟩:=ln.1 ht;simp only at e;omega
section
variable {c:Cf}{s:Sp}{o:Ou}
theorem JM.XO(h:JM c s)(ho:s.out=[o])(h1:o.kind=1):s.ev.kind=1 :=
 h.Jl (Q:=fun o=>o.kind=1->s.ev.kind=1)
  ⟨fun _ _ e=>absurd e (show ¬(9:Int)=1 by decide),fun x _ _ _ _ hx _ _ _ _ e=>by have e:x=1:=e;omega,fun e _ _ _ _ _ _ _=>e,fun e _ _ _=>e,fun _ _ _ e=>absurd e (show ¬(10:Int)=1 by decide),fun _ _ _ e=>absurd e (show ¬(8:Int)=1 by decide)⟩
  o (by rw[ho];exact List.mem_singleton.2 rfl) h1
theorem WN{l:List Fl}{f:Fl}:fX (aT l f i) f.be=fX l f.be+1:=by
 unfold fX aT;rw[Qi,XX (by simp)];have:=congrArg (List.countP fun x:Fl=>x.be == f.be) (List.take_append_drop i l);rw[Qi]at this;omega
theorem JM.XN(h:JM c s)(ho:s.out=[o])(h1:o.kind=1):dL s.bef s.ev.key s.bef.fls=(o.be,0)/\(0<=o.be/\o.be<12)/\0<WW s.bef o.be/\0<WU s.bef /\
  ((fX s.aft.fls o.be:Nat):Int)<=ns c.num c.den s.bef.fls.length (WW s.bef o.be) (WU s.bef):=by
 have hb:=h.wm.im.bs;have he:=D5 h.ev;have hk:=h.XO ho h1;have ht:iG s.bef s.ev=mA s.bef s.ev.key:=by unfold iG;rw[Nh hk]
 have hout:=h.out;have haft:=h.aft;rw[ht]at hout haft;rcases J7 hb he.key with⟨q,_⟩|⟨q,_,_⟩|⟨k,hlt,q1,_,_,_,_,_,_,q8⟩
 ·rw[q]at hout
  have:s.out=s.bef.out++[⟨2,0,0,0,0,9,0⟩]:=hout;rw[ho,h.out0]at this;injection this with e;rw[e]at h1;cases h1
 ·rw[q]at hout
  have:s.out=s.bef.out++[⟨2,0,0,0,0,11,0⟩]:=hout;rw[ho,h.out0]at this;injection this with e;rw[e]at h1;cases h1
 ·rw[q8]at hout haft
  have hx:s.out=s.bef.out++[⟨1,k,s.bef.tab[k].1,(dL s.bef s.ev.key s.bef.fls).1,0,0,0⟩]:=hout;rw[ho,h.out0]at hx;injection hx with e;have ebe:o.be=(dL s.bef s.ev.key s.bef.fls).1:=by rw[e]
  have hfl:s.aft.fls=aT s.bef.fls ⟨k,s.bef.tab[k].1,s.ev.key,(dL s.bef s.ev.key s.bef.fls).1,Nb,0,s.bef.now+s.bef.cfg.conn⟩ (f9 s.bef.fls k):=by rw[haft];rfl
  rcases WM hb (WV s.bef s.ev.key) hb.Gb with⟨_,e2⟩|⟨h0,x,e2,hx1,_,hw,hc⟩
  ·rw[e2]at q1;cases q1
  ·have exb:o.be=x:=by rw[ebe,e2]
   subst exb;refine⟨e2,hx1,hw,h0,?_⟩;rw[hfl];have hci:=WN (l:=s.bef.fls) (f:=⟨k,s.bef.tab[k].1,s.ev.key,(dL s.bef s.ev.key s.bef.fls).1,Nb,0,s.bef.now+s.bef.cfg.conn⟩) (i:=f9 s.bef.fls k);rw[show(⟨k,s.bef.tab[k].1,s.ev.key,(dL s.bef s.ev.key s.bef.fls).1,Nb,0,s.bef.now+s.bef.cfg.conn⟩:Fl).be=o.be from ebe.symm]at hci;rw[hci];rw[h.cfg]at hc;omega
theorem WY(h:Bs G)(y:Int):0<=WW G y:=by
 unfold WW
 split
 ·rename_i h2
  exact(h.Jp (kQ (L:=G.liv) (b:=y) (by omega)).1).1
 ·exact Qh 0
theorem WX(h:Bs G){b:Nat}(hb:b<12):WW G b<=WU G:=by
 have key:∀l:List Nat,0<=(l.map fun b:Nat=>WW G b).sum/\(b∈l->WW G b<=(l.map fun b:Nat=>WW G b).sum):=by
  intro l
  induction l with
  |nil=>exact⟨Qh 0,fun h=>by cases h⟩
  |cons y l ih =>
   rw[OA,XT];have h1:=WY h (y:Int);refine⟨by omega,fun hm=>?_⟩;rcases List.mem_cons.1 hm with rfl|hm
   ·omega
   ·have:=ih.2 hm;omega
 exact(key (Pm 12)).2 (List.mem_range.2 hb)
end
abbrev Xy:List Value:=[MF ME 0,MF ME 0,MF ME 0,MF ME 0,M3 Nb,MF ME 0,MF ME 0,MF ME 0,MF ME 0,MF ME 0,MF ME 0,MF ME 0,MF ME 0,MF ME 0,MF ME 0,MF ME 0,MF ME 0,MF ME 0,MF ME 0,MF ME 0,MF ME 0,MF ME 0,MF ME 0,MF ME 0,MF ME 0,MG MH 0 0,MG MH 0 0,MG MH 0 0,MG MH 0 0,MG MH 0 0,MG MH 0 0,MF ME 0,MF ME 0,MG MH 0 0,MF ME 0,MF ME 0,MF ME 0,MF ME 0,MF ME 0,MF ME 0,MF ME 0,MF ME 0,MF ME 0,MF ME 0,MF ME 0,MF ME 0,MF ME 0,MF ME 0,MF ME 0,MF ME 0,MF ME 0,MG MH 0 0,MG MH 0 0,MG MH 0 0,MG MH 0 0,MG MH 0 0,MG MH 0 0,MF ME 0,MF ME 0,MG MH 0 0,MG MH 0 0]
theorem Xt:(Tryz.prog.info? 62).map (·.size)=MI 61:=by kernel_rfl
theorem Jz.Gm{base:Nat}{c:Cf}(h:Jz base w g V c P):w.cell? ⟨g,16,MH⟩=MI (MG V.ps P.steps.length V.cs):=by
 rw[MW w g 16 _ _ (0,0) h.box,h.steps];rfl
structure Xn(W:MO)(ps:Option Oc)(k:Nat)(q:Sq)(b o:Nat):Prop where
 at_:ps=MI ⟨b,o,MH⟩
 cells:W.rangeAt b (o+k*61) (JU q)
 rd:Kh W q
theorem JD.step{W:MO}{c:Cf}(h:JD w W g V c P){k:Nat}(hk:k<P.steps.length):∃q b o,Xn W V.ps k q b o/\P.steps[k]?=MI q.s/\JM c q.s:=by
 have hl:=h.pat.steps;have hkq:k<V.qs.length:=by omega
 have hrv:bj JU W (MG V.ps V.qs.length V.cs) V.qs:=gZ h.pat.rows;obtain⟨a,cap,hv,_,_,hp⟩:=bj.F6 LV hrv;injection hv with q1 _ _;obtain⟨b,o,ha,hb,hc⟩:=hp k hkq;have e:P.steps[k]?=MI V.qs[k].s:=by rw[<-h.pat.eqs,List.getElem?_map,MR hkq];rfl
 refine⟨V.qs[k],b,o,⟨q1.trans ha,fun j v hv=>?_,(h.pat.all _ (Nk hkq)).now⟩,e,h.rn.runs.chain _ (List.mem_of_getElem? e)⟩;have hj:j<61:=(List.getElem?_eq_some_iff.1 hv).1;rw[hc j hj];exact hv
structure Xo(W:MO)(b:Nat)(q:Sq):Prop where
 box:W.heap[b]?=MI (MP (JU q).toArray 62 (0,0))
 rd:Kh W q
theorem Kh.below{W Y:MO}{q:Sq}(h:Kh W q)(hb:MQ W.heap.size W Y):Kh Y q:=⟨h.1.below hb,h.2.1.below hb,h.2.2.below hb⟩
theorem Xo.on{W Y:MO}{b:Nat}{q:Sq}(h:Xo W b q)(hb:MQ W.heap.size W Y):Xo Y b q:=⟨af h.box hb,h.rd.below hb⟩
theorem Xx(q:Sq):(JU q).toArray.all (·.oneCell')=true:=by
 apply all_oneCell_toArray;exact LU q
theorem Xn.box{W:MO}{ps:Option Oc}{k:Nat}{q:Sq}{b o:Nat}(h:Xn W ps k q b o):∃Y,Y=(W.alloc (MP Xy.toArray 62)).setCells W.heap.size 0 (JU q)/\Xo Y W.heap.size q/\MQ W.heap.size W Y/\(W.alloc (MP Xy.toArray 62)).there W.heap.size 0 (JU q).toArray.size:=by
 have hZ:(W.alloc (MP Xy.toArray 62)).heap[W.heap.size]?=MI (MP Xy.toArray 62 (0,0)):=M1 _ _;have hB:MQ W.heap.size W ((W.alloc (MP Xy.toArray 62)).setCells W.heap.size 0 (JU q)):=tW (ai W) (Nat.le_refl _) _ _ (by simp);exact⟨_,rfl,⟨KM hZ rfl,h.rd.below hB⟩,hB,(show(W.alloc (MP Xy.toArray 62)).there W.heap.size 0 (JU q).toArray.size from sF (old:=Xy) hZ)⟩
theorem Xo.F7{W:MO}{b:Nat}{q:Sq}(h:Xo W b q)(j:Nat):W.cell? ⟨b,j,MH⟩=(JU q)[j]?:=by
 rw[MW W b j _ _ (0,0) h.box];simp
theorem Xw(f:Nat->Int)(hf:∀i,i<16->(Lit.int ME (f i)).wf=Nw)(ds:List Dd)(hds:∀d∈ds,Kg d){pd:Option Oc}{cd:Nat}(hrow:bj Ka w (MG pd ds.length cd) ds)(hblk:aK w)(most:Nat)(hm:most<=100):
  ∃L:List M7,L.length=16/\BD (f 0) (f 1) (f 2) (f 3) (f 4) (f 5) (f 6) (f 7) (f 8) (f 9) (f 10) (f 11) (f 12) (f 13) (f 14) (f 15)=Ny L.toArray/\∀W,MQ w.heap.size w W->Ni MK 10 #[Ny L.toArray,MG pd ds.length cd,MF ME (most:Int)] W (Lq f most W):=
 ⟨[MF ME (f 0),MF ME (f 1),MF ME (f 2),MF ME (f 3),MF ME (f 4),MF ME (f 5),MF ME (f 6),MF ME (f 7),MF ME (f 8),MF ME (f 9),MF ME (f 10),MF ME (f 11),MF ME (f 12),MF ME (f 13),MF ME (f 14),MF ME (f 15)],rfl,rfl,fun W hB=>L6 f hf ds hds W (hrow.below hB) (hblk.below hB) most hm⟩
theorem Jz.XP{base:Nat}{c:Cf}(h:Jz base w g V c P)(j:Nat):w.cell? ⟨g,j,MH⟩=(JZ V c P)[j]?:=by
 rw[MW w g j _ _ (0,0) h.box];simp
theorem Xu{W:MO}{p:Option Oc}{c:Nat}{L:List Ou}(h:bj gT W (MG p L.length c) L)(hi:i<L.length):
  ∃b o,p=MI ⟨b,o,MH⟩/\W.cell? ⟨b,o+i*7,MH⟩=MI (MF ME L[i].kind)/\W.cell? ⟨b,o+i*7+1,MH⟩=MI (MF ME L[i].slot)/\W.cell? ⟨b,o+i*7+2,MH⟩=MI (MF ME L[i].gen)/\W.cell? ⟨b,o+i*7+3,MH⟩=MI (MF ME L[i].be)/\W.cell? ⟨b,o+i*7+4,MH⟩=MI (MF ME L[i].req)/\W.cell? ⟨b,o+i*7+5,MH⟩=MI (MF ME L[i].code)/\W.cell? ⟨b,o+i*7+6,MH⟩=MI (MF ME L[i].why):=by
 obtain⟨a,cap,hv,_,_,hp⟩:=bj.F6 Bq h;injection hv with q1 _ _;obtain⟨b,o,ha,_,hc⟩:=hp i hi;exact⟨b,o,q1.trans ha,hc 0 (by omega),hc 1 (by omega),hc 2 (by omega),hc 3 (by omega),hc 4 (by omega),hc 5 (by omega),hc 6 (by omega)⟩
theorem Xv{W:MO}{p:Option Oc}{c:Nat}{L l:List Ou}{x:Ou}(h:bj gT W (MG p L.length c) L)(e:L=x::l) :
  ∃b o,p=MI ⟨b,o,MH⟩/\W.cell? ⟨b,o,MH⟩=MI (MF ME x.kind)/\W.cell? ⟨b,o+1,MH⟩=MI (MF ME x.slot)/\W.cell? ⟨b,o+2,MH⟩=MI (MF ME x.gen)/\W.cell? ⟨b,o+3,MH⟩=MI (MF ME x.be)/\W.cell? ⟨b,o+4,MH⟩=MI (MF ME x.req)/\W.cell? ⟨b,o+5,MH⟩=MI (MF ME x.code)/\W.cell? ⟨b,o+6,MH⟩=MI (MF ME x.why):=by
 subst e;obtain⟨b,o,h1,h2⟩:=Xu h (i:=0) (Nat.succ_pos _);simp only[Nat.zero_mul,Nat.add_zero,MS]at h2;exact⟨b,o,h1,h2⟩
theorem Xq{l:List Fl}{k:Nat}(hk:k<l.length)(b:Int):fX (l.take (k+1)) b=fX (l.take k) b+if l[k].be=b then 1 else 0:=by
 unfold fX;rw[M9 hk,Qi,List.countP_cons,List.countP_nil];simp
theorem Xr{W:MO}{M:List M7}(hM:M=(ef U G).toList)(h:aF W U G)(HL40:G.fls.length<=40)(b:Int):Ni MK 14 #[Ny M.toArray,MF ME b] W fun r w'=>r=MN (MF ME ((fX G.fls b:Nat):Int))/\MQ W.heap.size W w':=by
 obtain⟨Y,hY⟩:∃Y,Y=W.alloc (MP M.toArray 54):=⟨_,rfl⟩;have hYb:MQ W.heap.size W Y:=by rw[hY];exact ai W
 have hYx:Y.heap[W.heap.size]?=MI (MP M.toArray 54 (0,0)):=by rw[hY];exact M1 _ _
 have c18:Y.cell? ⟨W.heap.size,18,MH⟩=MI (MG U.pf G.fls.length U.cf):=by rw[MW Y _ 18 _ _ (0,0) hYx,hM];rfl
 obtain⟨a,cap,hv,hca,hmx,hp⟩:=bj.F6 ba (bj.below h.fls hYb);injection hv with q1 q2 q3;obtain⟨m,hm⟩:∃m,m=G.fls.length:=⟨_,rfl⟩;rw[<-hm]at c18;have hmb:m<=9223372036854775806:=by rw[hm];have:=HL40;omega
 have HP:M6 (_/\_/\_/\_):=⟨hp,q1,hm,hYb⟩;clear hYx hp q1 q2 q3 hm hmx hca h hM hYb HL40;go_enter Tryz.func14,Tryz.ntmps14;go_wp2;rw[<-hY];clear hY
 go_loopw [5,6] (fun c i wr=>∃k n:Nat,c=MF ME (n:Int)/\i=MF ME (k:Int)/\k<=m/\n<=k/\M6 (fX (G.fls.take k) b=n)/\wr=Y) (fun _ i _=>m-(intOf i).toNat)
 case atStart=>exact⟨0,0,rfl,rfl,Nx _,Nx _,rfl,rfl⟩
 case round =>
  obtain⟨k,n,rfl,rfl,hk,hnk,HA,rfl⟩:=hrel
  by_cases hlt:k<m
  ·have hkI:(k:Int)<(m:Int):=by omega
   have hkl:k<G.fls.length:=by rw[<-HP.out.2.2.1];exact hlt
   obtain⟨bo,oo,ha,hb,hc⟩:=HP.out.1 k hkl;have e3:wr.cell? ⟨bo,oo+k*7+3,MH⟩=MI (MF ME G.fls[k].be):=hc 3 (by omega);have htk:=Xq hkl b;obtain⟨x,hx⟩:∃x,x=G.fls[k].be:=⟨_,rfl⟩;rw[<-hx]at e3 htk;rw[HP.out.2.1,ha]at c18;rw[HA.out]at htk;have HX:M6 _:=htk;clear hc hb ha hkl hx htk
   by_cases hq:x=b
   ·have hq':(x == b)=true:=by simp[hq]
    have HE:M6 (fX (G.fls.take (k+1)) b=n+1):=HX.out.trans (by rw[Nh hq]);clear hq;go_wp2
    go_roundw
    case rel=>exact⟨k+1,n+1,by simp,by simp,hlt,by omega,HE,trivial⟩
    case measure=>simp[intOf];omega
   ·have hq':(x == b)=false:=by simp[hq]
    have HE:M6 (fX (G.fls.take (k+1)) b=n):=HX.out.trans (by rw[Nf hq];rfl);clear hq;go_wp2
    go_roundw
    case rel=>exact⟨k+1,n,rfl,by simp,hlt,by omega,HE,trivial⟩
    case measure=>simp[intOf];omega
  ·obtain rfl:k=m:=by omega
   have hkI:¬(k:Int)<(k:Int):=by omega
   have HE:M6 (fX G.fls b=n):=by have:=HA.out;rw[HP.out.2.2.1,NT]at this;exact this
   go_wp2;go_ret;exact⟨by rw[HE.out];rfl,HP.out.2.2.2⟩
theorem XF(h:Bs G){x:FV}(hx:x∈G.liv):WW G x.1=if x.2.1=2 then(if(G.hea.getD x.1.toNat bm).out then 0 else FZ x.2.2.1 (G.now-x.2.2.2.1) G.cfg.warm)else 0:=by
 unfold WW;show(if(aq G.liv x.1).2.1=2 then _ else _)=_;rw[iZ h.Gv hx];rfl
theorem XH{b:Int}(h:∀t∈G.liv,t.1=b->WW G b=0):WW G b=0:=by
 rcases qM G.liv b with⟨h1,h2⟩|⟨_,h2⟩
 ·exact h _ h1 h2
 ·unfold WW
  show(if(aq G.liv b).2.1=2 then _ else _)=_;rw[h2];rfl
theorem Xs{W:MO}(h:aF W U G){b:Nat}(hb:b<12):∃bo oo,U.ph=MI ⟨bo,oo,MH⟩/\bo<W.heap.size/\12<=U.ch/\U.ch<=9223372036854775807/\W.cell? ⟨bo,oo+b*4+1,MH⟩=MI (M3 (G.hea.getD b bm).out)/\W.cell? ⟨bo,oo+b*4+2,MH⟩=MI (MF ME (G.hea.getD b bm).till):=by
 have hl:(U.ms.zip G.hea).length=12:=by rw[List.length_zip,h.msl,h.hel];rfl
 obtain⟨a,cap,hv,hc1,hc2,hp⟩:=bj.F6 ii h.hea;injection hv with q1 _ q3;have hbz:b<(U.ms.zip G.hea).length:=by rw[hl];exact hb
 obtain⟨bo,oo,ha,hlt,hc⟩:=hp b hbz;have e:(U.ms.zip G.hea)[b].2=G.hea.getD b bm:=by
  rw[List.getElem_zip,List.getD_eq_getElem?_getD,MR (by rw[h.hel];exact hb)];rfl
 refine⟨bo,oo,q1.trans ha,hlt,by rw[q3,<-hl];exact hc1,by rw[q3];unfold maxLen at hc2;exact hc2,?_,?_⟩
 ·rw[<-e];exact hc 1 (by omega)
 ·rw[<-e];exact hc 2 (by omega)
theorem XE{W:MO}{M:List M7}(hM:M=(ef U G).toList)(h:aF W U G)(hbs:Bs G){b:Nat}(hb:b<12):Ni MK 12 #[Ny M.toArray,MF ME (b:Int)] W fun r w'=>r=MN (MF ME (WW G b))/\MQ W.heap.size W w':=by
 obtain⟨Y,hY⟩:∃Y,Y=W.alloc (MP M.toArray 54):=⟨_,rfl⟩;have hYb:MQ W.heap.size W Y:=by rw[hY];exact ai W
 have hYx:Y.heap[W.heap.size]?=MI (MP M.toArray 54 (0,0)):=by rw[hY];exact M1 _ _
 have hmb:G.liv.length<=12:=hbs.book.1.1;obtain⟨m,hm⟩:∃m,m=G.liv.length:=⟨_,rfl⟩;obtain⟨s,hs⟩:∃s,s=WW G b:=⟨_,rfl⟩;rw[<-hs];rw[<-hm]at hmb;obtain⟨B8,hB8⟩:∃B8,B8=W.heap.size:=⟨_,rfl⟩;have HP:M6 (_/\_/\_/\_/\_/\_/\_):=⟨h.below hYb,hbs,hm,hYb,hs,hM,(show Y.heap[B8]?=MI (MP M.toArray 54 (0,0))by rw[hB8];exact hYx)⟩;clear hYx hm h hM hYb hs hbs;go_enter Tryz.func12,Tryz.ntmps12;go_wp2;rw[<-hY,<-hB8];clear hY hB8
 go_loopw [5,6,7,8] (fun i _ _ _ wr=>∃k:Nat,i=MF ME (k:Int)/\k<=m/\M6 (∀t∈G.liv.take k,t.1=(b:Int)->WW G b=0)/\M6 (MQ Y.heap.size Y wr)) (fun i _ _ _ _=>m-(intOf i).toNat)
 case atStart=>exact⟨0,rfl,Nx _,(fun t ht=>absurd ht (by simp)),MY _ _⟩
 case round =>
  obtain⟨k,rfl,hk,HA,HW⟩:=hrel;have hx8:=af HP.out.2.2.2.2.2.2 HW.out;have c19:wr.cell? ⟨B8,19,MH⟩=MI (MG U.pl m U.cl):=by rw[MW wr _ 19 _ _ (0,0) hx8,HP.out.2.2.2.2.2.1,HP.out.2.2.1];rfl
  have l8:B8<wr.heap.size:=(Array.getElem?_eq_some_iff.1 hx8).1
  by_cases hlt:k<m
  ·have hkI:(k:Int)<(m:Int):=by omega
   have hkl:k<G.liv.length:=by rw[<-HP.out.2.2.1];exact hlt
   have hwat:=HP.out.1.below HW.out;obtain⟨a,cap,hv,hca,hmx,hp⟩:=jH.F6 hwat.book.1;injection hv with q1 q2 q3;obtain⟨bo,oo,ha,hbo,e0,e1,e2,e3,e4,e5⟩:=hp k hkl;have hcap:U.cl<=9223372036854775807:=by rw[q3];unfold maxLen at hmx;exact hmx
   have hcap2:m<=U.cl:=by rw[q3,HP.out.2.2.1];exact hca
   have htk:G.liv.take (k+1)=G.liv.take k++[G.liv[k]]:=M9 hkl;have hwt:=XF HP.out.2.1 (Nk hkl);have hlf:=(HP.out.2.1.lf (Nk hkl)).1;have hsn:=HP.out.2.1.since _ (Nk hkl);obtain⟨x,hx⟩:∃x,x=G.liv[k]:=⟨_,rfl⟩;rw[<-hx]at e0 e1 e2 e3 e4 e5 htk hwt hlf hsn;rw[q1,ha]at c19;obtain⟨x1,x2,x3,x4,x5,x6⟩:=x;obtain⟨bh,oh,hph,hbh,hc1,hc2,g1,_⟩:=Xs hwat hb;have d22:wr.cell? ⟨B8,22,MH⟩=MI (MG U.ph 12 U.ch):=by rw[MW wr _ 22 _ _ (0,0) hx8,HP.out.2.2.2.2.2.1];rfl
   have d16:wr.cell? ⟨B8,16,MH⟩=MI (MF ME G.now):=by rw[MW wr _ 16 _ _ (0,0) hx8,HP.out.2.2.2.2.2.1];rfl
   have d4:wr.cell? ⟨B8,4,MH⟩=MI (MF ME G.cfg.warm):=by rw[MW wr _ 4 _ _ (0,0) hx8,HP.out.2.2.2.2.2.1];rfl
   rw[hph]at d22;have hnow:=HP.out.2.1.now;have hwm:=HP.out.2.1.cfg.2.2.2.2.1;have HC:M6 (∀W':MO,Ni MK 26 #[MF ME x3,MF ME x4,MF ME G.now,MF ME G.cfg.warm] W' fun r w'=>r=MN (Nv #[MF ME (FZ x3 (G.now-x4) G.cfg.warm),MF ME 0])/\w'=W'):=fun W' =>
    zg x3 x4 G.now G.cfg.warm W' hlf.2.1.1 hlf.2.1.2 ⟨hlf.2.2.1.1,hlf.2.2.1.2,hwm.1,hwm.2⟩ hsn (by omega)
   have hwt':WW G x1=if x2=2 then(if(G.hea.getD x1.toNat bm).out=Nw then 0 else FZ x3 (G.now-x4) G.cfg.warm)else 0:=hwt
   obtain⟨ot,hot⟩:∃ot,ot=(G.hea.getD b bm).out:=⟨_,rfl⟩;rw[<-hot]at g1;have hb0:(b:Int)<12:=by omega
   have hb1:¬(12:Int)<=(b:Int):=by omega
   have hb2:(0:Int)<=(b:Int):=by omega
   have HX:M6 (_/\_/\_):=⟨htk,hwt',hot⟩;clear hwt hwt' hlf hsn hx hkl hwat hca hmx hp q1 q2 q3 ha hnow hwm hx8 hph hot htk;have hcs:((x1 != (b:Int))=Nw/\M6 (x1≠b))\/(x1=b/\(x2 != 2)=Nw/\M6 (s=0))\/(x1=b/\x2=2/\ot=Nw/\M6 (s=0))\/(x1=b/\x2=2/\ot=Nb/\M6 (s=FZ x3 (G.now-x4) G.cfg.warm)):=by
    by_cases h1:x1=b
    ·have hw:=HX.out.2.1
     rw[h1,<-HP.out.2.2.2.2.1,Int.toNat_natCast,<-HX.out.2.2]at hw
     by_cases h2:x2=2
     ·rw[Nh h2]at hw
      cases h3:ot
      ·rw[h3]at hw;exact NF (NF (NF ⟨h1,h2,rfl,hw⟩))
      ·rw[h3]at hw;exact NF (NF (Nt ⟨h1,h2,rfl,hw⟩))
     ·rw[Nf h2]at hw
      exact NF (Nt ⟨h1,by simp[h2],hw⟩)
    ·exact Nt ⟨by simp[h1],h1⟩
   rcases hcs with⟨h1,HE⟩|⟨rfl,h2,HE⟩|⟨rfl,rfl,rfl,HE⟩|⟨rfl,rfl,rfl,HE⟩
   case inr.inr.inr =>
    go_wp2_with fail
    refine Nd (HC.out _) ?_;rintro r w5 ⟨rfl,rfl⟩;go_wp2;go_ret;exact⟨by rw[HE.out];rfl,HP.out.2.2.2.1.trans ((HW.out.trans ((ai wr).mono HW.out.size)).mono HP.out.2.2.2.1.size)⟩
   all_goals
    go_wp2
    go_roundw
    case rel =>
     refine⟨k+1,by simp,hlt,?_,HW.out.trans ((ai wr).mono HW.out.size)⟩;intro t ht h1;rw[HX.out.1]at ht;rcases List.mem_append.1 ht with ht|ht
     ·exact HA.out t ht h1
     ·first|exact HP.out.2.2.2.2.1.symm.trans HE.out|(rw[List.mem_singleton.1 ht]at h1;exact absurd h1 HE.out)
    case measure=>simp[intOf];omega
  ·obtain rfl:k=m:=by omega
   have hkI:¬(k:Int)<(k:Int):=by omega
   have HE:M6 (s=0):=HP.out.2.2.2.2.1.trans (XH fun t ht=>HA.out t (by rw[HP.out.2.2.1,NT];exact ht));clear hx8;go_wp2;go_ret;exact⟨by rw[HE.out];rfl,HP.out.2.2.2.1.trans (HW.out.mono HP.out.2.2.2.1.size)⟩
def XA(G:Gt)(n:Nat):Int:=((Pm n).map fun b:Nat=>WW G b).sum
theorem XC(G:Gt)(n:Nat):XA G (n+1)=XA G n+WW G n:=by
 unfold XA;rw[List.range_succ,List.map_append,List.sum_append];simp
theorem XG(h:Bs G)(b:Int):0<=WW G b/\WW G b<=8:=by
 unfold WW
 split
 ·rename_i h2
  have hm:=(kQ (L:=G.liv) (b:=b) (by omega)).1;have:=h.Jp hm;omega
 ·omega
theorem XB{G:Gt}(h:Bs G):∀n:Nat,0<=XA G n/\XA G n<=8*n
 |0=>⟨Qh 0,Qh 0⟩
 |n+1=>by
  have h1:=XB h n;have h2:=XG h (n:Int);rw[XC];omega
theorem XD{W:MO}{M:List M7}(hM:M=(ef U G).toList)(h:aF W U G)(hbs:Bs G):Ni MK 13 #[Ny M.toArray] W fun r w'=>r=MN (MF ME (WU G))/\MQ W.heap.size W w':=by
 obtain⟨Y,hY⟩:∃Y,Y=W.alloc (MP M.toArray 54):=⟨_,rfl⟩;have hYb:MQ W.heap.size W Y:=by rw[hY];exact ai W
 obtain⟨B8,hB8⟩:∃B8,B8=W.heap.size:=⟨_,rfl⟩;have hYx:Y.heap[B8]?=MI (MP M.toArray 54 (0,0)):=by rw[hY,hB8];exact M1 _ _
 obtain⟨s,hs⟩:∃s,s=WU G:=⟨_,rfl⟩;rw[<-hs];have HP:M6 (_/\_/\_/\_/\_/\_/\_):=⟨h.below hYb,hbs,hs,hYb,hYx,hM,(show M.length=26 by rw[hM];rfl)⟩;clear hYx h hM hYb hs hbs;go_enter Tryz.func13,Tryz.ntmps13;go_wp2;rw[<-hY,<-hB8];clear hY hB8
 go_loopw [3,4] (fun c i wr=>∃(k:Nat) (n:Int),c=MF ME n/\i=MF ME (k:Int)/\k<=12/\M6 (n=XA G k)/\M6 (MQ Y.heap.size Y wr)) (fun _ i _=>12-(intOf i).toNat)
 case atStart=>exact⟨0,0,rfl,rfl,Nx _,rfl,MY _ _⟩
 case round =>
  obtain⟨k,n,rfl,rfl,hk,HN,HW⟩:=hrel
  by_cases hlt:k<12
  ·have hkI:(k:Int)<12:=by omega
   have hx8:=af HP.out.2.2.2.2.1 HW.out;have hg:=XE HP.out.2.2.2.2.2.1 (HP.out.1.below HW.out) HP.out.2.1 hlt;have h1:=XB HP.out.2.1 k;have h2:=XG HP.out.2.1 (k:Int);rw[<-HN.out]at h1;have h3:=XC G k;rw[<-HN.out]at h3;obtain⟨x,hx⟩:∃x,x=WW G k:=⟨_,rfl⟩;rw[<-hx]at hg h2 h3;have hw:IntKind.i64.wrap (n+x)=n+x:=jn (by omega) (by omega);have HG:M6 (_/\_/\_):=⟨hg,hx8,h3⟩;clear hg hx8 h1 h2 h3 hx
   go_wp2_with ((with_reducible refine O3 rfl 54 (O6 1) rfl B8 0 ?gx M _ ?gc U1 ?gd ?gi ?_);(case gx=>rfl);(case gc=>exact J8 HG.out.2.1);(case gd=>rfl);(case gi=>rw[HP.out.2.2.2.2.2.2];exact iN))
   refine Nd HG.out.1 ?_;rintro r w5 ⟨rfl,hb5⟩;have HX:M6 _:=HW.out.trans (hb5.mono HW.out.size);clear hb5;go_wp2
   go_roundw
   case rel=>exact⟨k+1,n+x,by first|rfl|rw[hw],by simp,hlt,HG.out.2.2.symm,HX⟩
   case measure=>simp[intOf];omega
  ·obtain rfl:k=12:=by omega
   have hkI:¬((12:Nat):Int)<12:=by omega
   have HE:M6 (s=n):=HP.out.2.2.1.trans HN.out.symm;go_wp2;go_ret;exact⟨by rw[HE.out];rfl,HP.out.2.2.2.1.trans (HW.out.mono HP.out.2.2.2.1.size)⟩
theorem XI{P:Program}{ops:Array Oper}{rest:List Oper}{op:Oper}{a:Act}{Q:Exit->Act->MO->Prop}(hw:Region.wanted op (yielded ops a.tmps)=Nw)(ty:TypeId)(x:Operand)(ho:op.op=.load ty x)
  (b o:Nat) (hx:a.eval x=Na (MI ⟨b,o,MH⟩)) (cs:List M7) (d:TypeDesc) (hc:w.rangeAt b o cs) (hu:P.underlying ty=MI d) (hd:d.isRow=Nw) (hi:(P.info? ty).map (·.size)=MI cs.length)
  (h:wpList P ops Q rest (a.put op.dst (Ny cs.toArray)) w):wpList P ops Q (op::rest) a w :=
 wpList_step fun _ hK=>by
  rw[Nh hw];exact wp_load_mid ty x ho b o hx cs d hc hu hd hi (hK _ _ h)
structure Xp(W:MO)(b:Nat)(q:Sq)(M L:List M7):Prop where
 sb:Xo W b q
 e1:M=(ef q.u q.s.bef).toList
 e2:L=(ef q.v q.s.aft).toList
section
variable {W Y:MO}{b:Nat}{q:Sq}{M L:List M7}
theorem Xp.on(h:Xp W b q M L)(hb:MQ W.heap.size W Y):Xp Y b q M L:=⟨h.sb.on hb,h.e1,h.e2⟩
theorem Xp.r1(h:Xp W b q M L):W.rangeAt b 8 M:=fun j v hv=>by
 rw[h.e1]at hv;have hj:j<26:=(List.getElem?_eq_some_iff.1 hv).1;rw[h.sb.F7 (8+j)];unfold JU;rw[Tw (show 8<=8+j by omega),show 8+j-(JN q.s.ev).length=j from XW 8 j,OJ (show j<26 from hj)];exact hv
theorem Xp.r2(h:Xp W b q M L):W.rangeAt b 34 L:=fun j v hv=>by
 rw[h.e2]at hv;have hj:j<26:=(List.getElem?_eq_some_iff.1 hv).1;rw[h.sb.F7 (34+j)];unfold JU;rw[<-List.append_assoc,Tw (show 34<=34+j by omega),show 34+j-(JN q.s.ev++(ef q.u q.s.bef).toList).length=j from XW 34 j,OJ (show j<26 from hj)];exact hv
theorem Xp.i1(h:Xp W b q M L):(Tryz.prog.info? 54).map (·.size)=MI M.length:=by rw[h.e1];exact iN
theorem Xp.i2(h:Xp W b q M L):(Tryz.prog.info? 54).map (·.size)=MI L.length:=by rw[h.e2];exact iN
theorem Xp.XQ(h:Xp W b q M L)(hl:q.s.aft.fls.length<=40)(x:Int):Ni MK 14 #[Ny L.toArray,MF ME x] W fun r w'=>r=MN (MF ME ((fX q.s.aft.fls x:Nat):Int))/\MQ W.heap.size W w':=Xr h.e2 h.sb.rd.2.1 hl x
theorem Xp.XS(h:Xp W b q M L)(hb:Bs q.s.bef){x:Nat}(hx:x<12):Ni MK 12 #[Ny M.toArray,MF ME (x:Int)] W fun r w'=>r=MN (MF ME (WW q.s.bef x))/\MQ W.heap.size W w':=XE h.e1 h.sb.rd.1 hb hx
theorem Xp.XR(h:Xp W b q M L)(hb:Bs q.s.bef):Ni MK 13 #[Ny M.toArray] W fun r w'=>r=MN (MF ME (WU q.s.bef))/\MQ W.heap.size W w':=XD h.e1 h.sb.rd.1 hb
end
section
variable {P:Program}{ops:Array Oper}{C:MO->Prop}{Q:Act->Prop}{o:Oper}{rest:List Oper}{a:Act}
theorem XK{id:Nat}{R:Exit->Act->MO->Prop}{l:List Oper}(hC:C w.drew)(h:wpQuiet P l.toArray C (fun a'=>∀w',C w'->R .normal a' w') l a)(hm:P.follows .mixedOrders=true:=by kernel_rfl)(hB:Region.lexB .any l.toArray=true:=by kernel_rfl):(Code.region id l.toArray Nw).wp P R a w :=
 wp_region_quiet hm hB hC (by simpa using h)
theorem XJ(v:M7)(h:K (a.put o.dst v))(hv:∀w,C w->(execOp a.eval o).run P w=.ok (.value v) w):o.quiet P a C K :=
 ⟨v,fun w hC=>by unfold Oper.quietAt;rw[hv w hC];exact⟨rfl,rfl⟩,h⟩
theorem XM(ty:TypeId)(x:Operand)(b p:Nat)(cs:List M7){d:TypeDesc}(hS:∀w,C w->w.rangeAt b p cs)(hi:(P.info? ty).map (·.size)=MI cs.length)(hu:P.underlying ty=MI d)(h:K (a.put o.dst (Ny cs.toArray)))(ho:o.op=.load ty x:=by rfl)(hx:a.eval x=Na (MI ⟨b,p,MH⟩):=by rfl)(hd:d.isRow=true:=by rfl):o.quiet P a C K :=
 XJ _ h fun w hC=>by
  unfold execOp;simp only[ho,hx,Instr.loadAt,Instr.sureAddr,Sem.run_bind,Sem.run_pure,Result.andThen_ok,run_loadVar_mid w b p ty cs d (hS w hC) hu hd hi]
theorem XL(v:M7)(f:FuncId)(args:Array M7)(hc:∀w,C w->Ni P f args w fun e w'=>e=MN v/\C w')(h:K (a.put o.dst v))(hv:∀w,(execOp a.eval o).run P w=.ok (.enter f args) w:=by exact fun X=>by go_simp):o.quiet P a C K :=
 ⟨v,fun w hC=>by unfold Oper.quietAt;rw[hv w];exact⟨rfl,hc w hC⟩,h⟩
end
theorem Xz(f:Nat->Int)(hf:∀i,i<16->(Lit.int ME (f i)).wf=Nw)(ds:List Dd)(hds:∀d∈ds,Kg d){pd:Option Oc}{cd:Nat}(hrow:bj Ka w (MG pd ds.length cd) ds)(hB:aK w):
  Ni MK 3 #[BD (f 0) (f 1) (f 2) (f 3) (f 4) (f 5) (f 6) (f 7) (f 8) (f 9) (f 10) (f 11) (f 12) (f 13) (f 14) (f 15),MG pd ds.length cd] w fun r w'=>r=MN (M3 Nw)/\MQ w.heap.size w w':=by
 obtain⟨L,hL,eL,hpl⟩:=Xw f hf ds hds hrow hB 60 (by omega);rw[eL];obtain⟨W0,hW0⟩:∃W0,W0=w.alloc (MP L.toArray 24):=⟨_,rfl⟩;have hb0:MQ w.heap.size w W0:=by rw[hW0];exact ai w
 have HI:M6 (_/\_/\_):=⟨hL,hb0,hpl W0 hb0⟩;obtain⟨nd,hnd⟩:∃nd,nd=ds.length:=⟨_,rfl⟩;rw[<-hnd]at HI⊢;clear hL eL hpl hb0 hf hds hrow hB hnd;go_enter Tryz.func3,Tryz.ntmps3
 go_wp2_with ((with_reducible refine O3 rfl 24 (O6 2) rfl w.heap.size 0 ?gx L _ ?gc Tryz.underlying24 ?gd ?gi ?_);(case gx=>rfl);(case gc=>exact J8 (M1 _ _));(case gd=>rfl);(case gi=>rw[HI.out.1];exact K0))
 rw[<-hW0];clear hW0;refine Nd HI.out.2.2 ?_;rintro r w1 ⟨g,V,c,P,rfl,hS,hcx,hn4,hnm,hk3⟩;obtain⟨n,hn⟩:∃n,n=P.steps.length:=⟨_,rfl⟩;have HS:M6 (_/\_/\_/\_/\_):=⟨hS,hcx,hn,(show n<=60+4 by omega),hk3⟩;have hB1:=HI.out.2.1.trans (hS.bel.mono HI.out.2.1.size);have HB:M6 _:=hB1;clear hS hcx hn4 hnm hk3 hn HI hB1
 go_wp2_with fail
 go_loopw [7,8,9,10,11] (fun i _ _ _ _ wr=>∃k:Nat,i=MF ME (k:Int)/\k<=n/\M6 (MQ w1.heap.size w1 wr)) (fun i _ _ _ _ _=>n-(intOf i).toNat)
 case atStart=>exact⟨0,rfl,Nx _,MY _ _⟩
 case round =>
  obtain⟨k,rfl,hk,HW⟩:=hrel;have hSr:=HS.out.1.on HW.out;have c16:wr.cell? ⟨g,16,MH⟩=MI (MG V.ps n V.cs):=by rw[HS.out.2.2.1];exact hSr.pat.Gm
  have hgl:=hSr.pat.lt
  by_cases hlt:k<n
  ·have hkI:(k:Int)<(n:Int):=by omega
   have hnb:n<=9223372036854775807:=by have:=HS.out.2.2.2.1;omega
   obtain⟨q,b,o,hq,hst,hok⟩:=hSr.step (k:=k) (by rw[<-HS.out.2.2.1];exact hlt);obtain⟨Y,hY,hSB,hYb,hth⟩:=hq.box;obtain⟨R,hR⟩:∃R,R=JU q:=⟨_,rfl⟩;have hat:=hq.at_;have y60:Y.cell? ⟨wr.heap.size,60,MH⟩=MI (MG q.po q.s.out.length q.co):=(hSB.F7 60).trans rfl;have hcs:=hq.cells;rw[<-hR]at hY hth hcs;have HQ:M6 (_/\_/\_/\_/\_/\_):=⟨hcs,hth,hY,hR,HW.out.trans (hYb.mono HW.out.size),(show R.length=61 by rw[hR];rfl)⟩;have HT:M6 (_/\_/\_/\_):=⟨hst,hok,hSB,hYb⟩;clear hq hst hok hY hSB hYb hth hR hcs;rw[hat]at c16;clear hat
   have hout:=HT.out.2.2.1.rd.2.2;clear hSr;obtain⟨m1,hm1⟩:∃m,m=q.s.out.length:=⟨_,rfl⟩;have hcs:((m1:Int) != 1)=Nw\/∃x,q.s.out=[x]/\m1=1/\((x.kind != 1)=Nw\/((x.kind != 1)=Nb/\x.kind=1)):=by
    by_cases hl1:q.s.out.length=1
    ·obtain⟨x,hx⟩:∃x,q.s.out=[x]:=by
      match hq:q.s.out,hl1 with
      | [x],_=>exact⟨x,rfl⟩
     refine NF ⟨x,hx,by omega,?_⟩
     by_cases h1:x.kind=1
     ·exact NF ⟨by simp[h1],h1⟩
     ·exact Nt (by simp[h1])
    ·exact Nt (by simp;omega)
   rw[<-hm1]at y60;clear hm1;rcases hcs with h1|⟨x,hx,rfl,hkd⟩
   case' inr =>
    obtain⟨bo,oo,hpo,u0,_,_,u3,_⟩:=Xv hout hx;rw[hpo]at y60;have hbo:bo<Y.heap.size:=World.block_lt_of_cell? Y ⟨bo,oo,MH⟩ u0;have hYl:wr.heap.size<Y.heap.size:=(Array.getElem?_eq_some_iff.1 HT.out.2.2.1.box).1;have HP:M6 (_/\_):=⟨hx,hpo⟩;clear hx hpo hout;rcases hkd with h1|⟨h1,h2⟩
   case' inr.inr =>
    obtain⟨M,M2,hTw⟩:∃M M2,Xp Y wr.heap.size q M M2:=⟨_,_,HT.out.2.2.1,rfl,rfl⟩;obtain⟨_,⟨g1,g2⟩,g3,g4,g5⟩:=HT.out.2.1.XN HP.out.1 h2;obtain⟨xk,xs,xg,xb,xr,xc,xy⟩:=x;obtain⟨bn,rfl⟩:=Int.eq_ofNat_of_zero_le (show 0<=xb from g1);have g2:(bn:Int)<12:=g2;have hb12:bn<12:=by omega
    have hwl:=WX HT.out.2.1.wm.im.bs hb12;have htl:WU q.s.bef<=96:=by have:=(XB HT.out.2.1.wm.im.bs 12).2;exact this
    have hfc:=HT.out.2.1.wm.im.bs.Jm HT.out.2.1.wm.im.bs.Gb;rw[HT.out.2.1.cfg]at hfc;have g3:0<WW q.s.bef (bn:Int):=g3;have g5:((fX q.s.aft.fls (bn:Int):Nat):Int)<=ns c.num c.den q.s.bef.fls.length (WW q.s.bef (bn:Int)) (WU q.s.bef):=g5;obtain⟨wb,hwb⟩:∃z,z=WW q.s.bef (bn:Int):=⟨_,rfl⟩;obtain⟨tt,htt⟩:∃z,z=WU q.s.bef:=⟨_,rfl⟩;obtain⟨m,hm⟩:∃z,z=q.s.bef.fls.length:=⟨_,rfl⟩;obtain⟨cf,hcf⟩:∃z,z=fX q.s.aft.fls (bn:Int):=⟨_,rfl⟩;rw[<-hwb,<-htt,<-hm,<-hcf]at g5;rw[<-hwb]at g3 hwl;rw[<-htt]at g4 hwl htl;rw[<-hm]at hfc;obtain⟨cp,hcp⟩:∃z,z=ns c.num c.den m wb tt:=⟨_,rfl⟩;rw[<-hcp]at g5;have HL:M6 (_/\_/\_/\_/\_/\_):=⟨hwb,htt,hm,hcf,hcp,(show l9 c.num c.den m wb tt from⟨hfc,by omega,hwl,htl⟩)⟩;have w1':¬wb<1:=by omega
    have w2':¬tt<1:=by omega
    have w3':(wb == 0)=false:=by simp;omega
    have w4':1<=wb:=by omega
    have w5':1<=tt:=by omega
    have w6':max wb 1=wb:=by omega
    have w7':max tt 1=tt:=by omega
    have w8':¬cp<(cf:Int):=by omega
    have w9':Nn (cp<(cf:Int))=false:=M0 w8';have HM:M6 _:=hTw;clear hTw g1 g2 g3 g4 hwl htl hfc hwb htt hm hcf hcp h2;have u3:Y.cell? ⟨bo,oo+3,MH⟩=MI (MF ME (bn:Int)):=u3;have u0:Y.cell? ⟨bo,oo,MH⟩=MI (MF ME xk):=u0;have h1:(xk != 1)=false:=h1
    go_wp2_with (first|((with_reducible refine O3 rfl 62 (O6 32) rfl b (o+k*61) ?gx R _ ?gc XZ ?gd ?gi ?_);(case gx=>rfl);(case gc=>exact HQ.out.1);(case gd=>rfl);(case gi=>rw[HQ.out.2.2.2.2.2];exact Xt))|((with_reducible refine OW rfl 62 (O6 8) (O6 33) rfl wr.heap.size 0 R.toArray ?sx ?sy ?st ?si ?s1 ?_);(case sx=>rfl);(case sy=>rfl);(case st=>exact HQ.out.2.1);(case si=>rw[OQ,HQ.out.2.2.2.2.2];exact Xt);(case s1=>rw[HQ.out.2.2.2.1];exact Xx q);rw[NS,<-HQ.out.2.2.1]))
    obtain⟨B8,hB8⟩:∃B8,B8=wr.heap.size:=⟨_,rfl⟩;rw[<-hB8];rw[<-hB8]at HM;clear hB8 c16 hgl y60 u0 u3 hbo hYl h1;have HG:M6 (_/\_):=⟨HM.out,(MY _ _:MQ Y.heap.size Y Y)⟩;obtain⟨C,hC1,hC2⟩:∃C:MO->Prop,(∀X,C X->Xp X B8 q M M2/\MQ Y.heap.size Y X)/\(∀X,Xp X B8 q M M2/\MQ Y.heap.size Y X->C X):=⟨_,fun _ h=>h,fun _ h=>h⟩;have HCC:M6 (_/\_):=⟨hC1,hC2⟩;clear hC1 hC2;have HPC:M6 (∀X,C X->X.cell? ⟨g,1,MH⟩=MI (MF ME c.num)/\X.cell? ⟨g,2,MH⟩=MI (MF ME c.den)/\X.cell? ⟨B8,26,MH⟩=MI (MG q.u.pf m q.u.cf)):=fun X hX=>by
     have hp:=(HS.out.1.on (HQ.out.2.2.2.2.1.trans ((HCC.out.1 X hX).2.mono HQ.out.2.2.2.2.1.size))).pat
     exact⟨(hp.XP 1).trans rfl,(hp.XP 2).trans rfl,by rw[HL.out.2.2.1];exact((HCC.out.1 X hX).1.sb.F7 26).trans rfl⟩
    refine XK (C:=C) (HCC.out.2 _ ⟨HG.out.1.on (MY _ _).drew,HG.out.2.trans (((MY _ _).drew).mono HG.out.2.size)⟩) ?_
    go_big_quiet_want
    refine XJ (gP g) ?_ (fun X hSw=>by go_simp);simp only[Nr,MZ,MT,MS,MJ,ML,MM]
    go_big_quiet_on
    go_big_quiet_want
    refine XJ (Na (MI ⟨g,0,MH⟩)) ?_ (fun X hSw=>by go_simp);simp only[Nr,MZ,MT,MS,MJ,ML,MM]
    go_big_quiet_on
    go_big_quiet_want
    refine XJ (Na (MI ⟨g,0,MH⟩)) ?_ (fun X hSw=>by go_simp);simp only[Nr,MZ,MT,MS,MJ,ML,MM]
    go_big_quiet_on
    go_big_quiet_want
    refine XJ (Na (MI ⟨g,1,MH⟩)) ?_ (fun X hSw=>by go_simp);simp only[Nr,MZ,MT,MS,MJ,ML,MM]
    go_big_quiet_on
    go_big_quiet_want
    refine XJ (MF ME c.num) ?_ (fun X hSw=>by have h:=(HPC.out X hSw).1;go_simp);simp only[Nr,MZ,MT,MS,MJ,ML,MM]
    go_big_quiet_on
    go_big_quiet_want
    refine XJ (gP g) ?_ (fun X hSw=>by go_simp);simp only[Nr,MZ,MT,MS,MJ,ML,MM]
    go_big_quiet_on
    go_big_quiet_want
    refine XJ (Na (MI ⟨g,0,MH⟩)) ?_ (fun X hSw=>by go_simp);simp only[Nr,MZ,MT,MS,MJ,ML,MM]
    go_big_quiet_on
    go_big_quiet_want
    refine XJ (Na (MI ⟨g,0,MH⟩)) ?_ (fun X hSw=>by go_simp);simp only[Nr,MZ,MT,MS,MJ,ML,MM]
    go_big_quiet_on
    go_big_quiet_want
    refine XJ (Na (MI ⟨g,2,MH⟩)) ?_ (fun X hSw=>by go_simp);simp only[Nr,MZ,MT,MS,MJ,ML,MM]
    go_big_quiet_on
    go_big_quiet_want
    refine XJ (MF ME c.den) ?_ (fun X hSw=>by have h:=(HPC.out X hSw).2.1;go_simp);simp only[Nr,MZ,MT,MS,MJ,ML,MM]
    go_big_quiet_on
    go_big_quiet_want
    refine XJ (Na (MI ⟨B8,8,MH⟩)) ?_ (fun X hSw=>by go_simp);simp only[Nr,MZ,MT,MS,MJ,ML,MM]
    go_big_quiet_on
    go_big_quiet_want
    refine XJ (Na (MI ⟨B8,26,MH⟩)) ?_ (fun X hSw=>by go_simp);simp only[Nr,MZ,MT,MS,MJ,ML,MM]
    go_big_quiet_on
    go_big_quiet_want
    refine XJ (MG q.u.pf m q.u.cf) ?_ (fun X hSw=>by have h:=(HPC.out X hSw).2.2;go_simp);simp only[Nr,MZ,MT,MS,MJ,ML,MM]
    go_big_quiet_on
    go_big_quiet_want
    refine XJ (MF ME (m:Int)) ?_ (fun X hSw=>by go_simp);simp only[Nr,MZ,MT,MS,MJ,ML,MM]
    go_big_quiet_on
    go_big_quiet_want
    refine XJ (Na (MI ⟨B8,8,MH⟩)) ?_ (fun X hSw=>by go_simp);simp only[Nr,MZ,MT,MS,MJ,ML,MM]
    go_big_quiet_on
    go_big_quiet_want
    refine XM 54 (O6 66) B8 8 M (fun X hX=>(HCC.out.1 X hX).1.r1) HG.out.1.i1 U1 ?_;simp only[Nr,MZ,MT,MS,MJ,ML,MM]
    go_big_quiet_on
    go_big_quiet_want
    refine XJ (MF ME (bn:Int)) ?_ (fun X hSw=>by go_simp);simp only[Nr,MZ,MT,MS,MJ,ML,MM]
    go_big_quiet_on
    go_big_quiet_want
    refine XL (MF ME wb) 12 #[Ny M.toArray,MF ME (bn:Int)] (fun X hX=>((HCC.out.1 X hX).1.XS HT.out.2.1.wm.im.bs hb12).mono fun r w' h=>⟨h.1.trans (by rw[<-HL.out.1]),HCC.out.2 w' ⟨(HCC.out.1 X hX).1.on h.2,(HCC.out.1 X hX).2.trans (h.2.mono (HCC.out.1 X hX).2.size)⟩⟩) ?_;simp only[Nr,MZ,MT,MS,MJ,ML,MM]
    go_big_quiet_on
    go_big_quiet_want
    refine XJ (MF ME wb) ?_ (fun X hSw=>by go_simp);simp only[Nr,MZ,MT,MS,MJ,ML,MM]
    go_big_quiet_on
    go_big_quiet_want
    refine XJ (Na (MI ⟨B8,8,MH⟩)) ?_ (fun X hSw=>by go_simp);simp only[Nr,MZ,MT,MS,MJ,ML,MM]
    go_big_quiet_on
    go_big_quiet_want
    refine XM 54 (O6 71) B8 8 M (fun X hX=>(HCC.out.1 X hX).1.r1) HG.out.1.i1 U1 ?_;simp only[Nr,MZ,MT,MS,MJ,ML,MM]
    go_big_quiet_on
    go_big_quiet_want
    refine XL (MF ME tt) 13 #[Ny M.toArray] (fun X hX=>((HCC.out.1 X hX).1.XR HT.out.2.1.wm.im.bs).mono fun r w' h=>⟨h.1.trans (by rw[<-HL.out.2.1]),HCC.out.2 w' ⟨(HCC.out.1 X hX).1.on h.2,(HCC.out.1 X hX).2.trans (h.2.mono (HCC.out.1 X hX).2.size)⟩⟩) ?_;simp only[Nr,MZ,MT,MS,MJ,ML,MM]
    go_big_quiet_on
    go_big_quiet_want
    refine XJ (MF ME tt) ?_ (fun X hSw=>by go_simp);simp only[Nr,MZ,MT,MS,MJ,ML,MM]
    go_big_quiet_on
    go_big_quiet_want
    refine XL (Nv #[MF ME cp,MF ME 0]) 11 #[MF ME c.num,MF ME c.den,MF ME (m:Int),MF ME wb,MF ME tt] (fun X hX=>(yw _ _ _ _ _ X HL.out.2.2.2.2.2).mono fun r w' h=>⟨h.1.trans (by rw[<-HL.out.2.2.2.2.1]),by rw[h.2];exact hX⟩) ?_;simp only[Nr,MZ,MT,MS,MJ,ML,MM]
    go_big_quiet_on
    go_big_quiet_want
    refine XJ (Nv #[MF ME cp,MF ME 0]) ?_ (fun X hSw=>by go_simp);simp only[Nr,MZ,MT,MS,MJ,ML,MM]
    go_big_quiet_on
    go_big_quiet_want
    refine XJ (MF ME cp) ?_ (fun X hSw=>by go_simp);simp only[Nr,MZ,MT,MS,MJ,ML,MM]
    go_big_quiet_on
    go_big_quiet_want
    refine XJ (MF ME 0) ?_ (fun X hSw=>by go_simp);simp only[Nr,MZ,MT,MS,MJ,ML,MM]
    go_big_quiet_on
    go_big_quiet_want
    refine XJ (MF ME cp) ?_ (fun X hSw=>by go_simp);simp only[Nr,MZ,MT,MS,MJ,ML,MM]
    go_big_quiet_on
    go_big_quiet_want
    refine XJ (MF ME 0) ?_ (fun X hSw=>by go_simp);simp only[Nr,MZ,MT,MS,MJ,ML,MM]
    go_big_quiet_on
    refine wpQuiet_nil ?_;intro X hX;replace HG:M6 (_/\_):=HCC.out.1 X hX;clear hX
    go_wp2_with ((with_reducible refine XI ?gw 54 (O6 81) rfl B8 34 ?gx M2 _ ?gc U1 ?gd ?gi ?_);(case gw=>rfl);(case gx=>rfl);(case gc=>exact HG.out.1.r2);(case gd=>rfl);(case gi=>exact HG.out.1.i2))
    refine Nd (HG.out.1.XQ HT.out.2.1.next.im.bs.Gb _) ?_;rintro r w5 ⟨rfl,hb5⟩;rw[<-HL.out.2.2.2.1];replace HG:M6 (_/\_):=⟨HG.out.1.on hb5,HG.out.2.trans (hb5.mono HG.out.2.size)⟩;clear hb5
    go_wp2_with ((with_reducible refine XI ?gw 54 (O6 89) rfl B8 8 ?gx M _ ?gc U1 ?gd ?gi ?_);(case gw=>rfl);(case gx=>rfl);(case gc=>exact HG.out.1.r1);(case gd=>rfl);(case gi=>exact HG.out.1.i1))
    refine Nd (HG.out.1.XS HT.out.2.1.wm.im.bs hb12) ?_;rintro r w6 ⟨rfl,hb6⟩;rw[<-HL.out.1];replace HG:M6 (_/\_):=⟨HG.out.1.on hb6,HG.out.2.trans (hb6.mono HG.out.2.size)⟩;clear hb6;go_wp2
    go_roundw
    case rel=>exact⟨k+1,by simp,hlt,HQ.out.2.2.2.2.1.trans (HG.out.2.mono HQ.out.2.2.2.2.1.size)⟩
    case measure=>simp[intOf];omega
   all_goals
    go_wp2_with (first|((with_reducible refine O3 rfl 62 (O6 32) rfl b (o+k*61) ?gx R _ ?gc XZ ?gd ?gi ?_);(case gx=>rfl);(case gc=>exact HQ.out.1);(case gd=>rfl);(case gi=>rw[HQ.out.2.2.2.2.2];exact Xt))|((with_reducible refine OW rfl 62 (O6 8) (O6 33) rfl wr.heap.size 0 R.toArray ?sx ?sy ?st ?si ?s1 ?_);(case sx=>rfl);(case sy=>rfl);(case st=>exact HQ.out.2.1);(case si=>rw[OQ,HQ.out.2.2.2.2.2];exact Xt);(case s1=>rw[HQ.out.2.2.2.1];exact Xx q);rw[NS,<-HQ.out.2.2.1]))
    go_roundw
    case rel=>exact⟨k+1,by simp,hlt,HQ.out.2.2.2.2.1⟩
    case measure=>simp[intOf];omega
  ·obtain rfl:k=n:=by omega
   have hkI:¬(k:Int)<(k:Int):=by omega
   go_wp2;go_ret;exact⟨rfl,HB.out.trans (HW.out.mono HB.out.size)⟩
end Go.Proofs.YtlnbhjdhcmgljaaGreatDoor.Q
