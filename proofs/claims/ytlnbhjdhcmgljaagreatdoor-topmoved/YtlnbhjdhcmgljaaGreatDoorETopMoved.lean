/-
  TopMoved: its walk. Conditions: as each theorem says.
-/
import Derived.Test.YtlnbhjdhcmgljaaGreatDoorQ20
open Bool renaming false->Nb,true->Nw
open Decidable renaming decide->Nn
open Go renaming Addr->Oc,Calls->Ni,Value->M7,World->MO,cell_of_row->MW,heap_alloc_new->M1,wpList_load_mid->O3,wpList_store_mid->OW
open Go.Act renaming put->Nr
open Go.Calls renaming mono->Nd
open Go.Ending renaming returned->MN
open Go.IntKind renaming i64->ME
open Go.Obj renaming cells->MP
open Go.Operand renaming tmp->O6
open Go.Proofs.Tryz renaming prog->MK,underlying54->U1,underlying62->Yb
open Go.RowKit renaming Below->MQ,Hid->M6
open Go.RowKit.Below renaming refl->MY
open Go.Value renaming agg->Ny,bool->M3,int->MF,pointer->Na,slice->MG,tuple->Nv
open Int renaming le_refl->Qh,mul_le_mul_of_nonneg_left->XY,mul_le_mul_of_nonneg_right->XX,one_mul->Yc
open List renaming countP_cons->XZ,eraseIdx_cons_succ->X5,eraseIdx_cons_zero->X6,foldl_cons->O4,getElem?_eq_getElem->MR,getElem_cons_succ->MT,getElem_cons_zero->MS,getElem_mem->Nk,getElem_toArray->MZ,map_congr_left->PU,map_cons->OA,map_map->Ya,mem_cons_of_mem->NB,mem_cons_self->NM,range->Pm,setIfInBounds_toArray->MJ,set_cons_succ->MM,set_cons_zero->ML,size_toArray->OQ,sum_cons->XW,take_length->NT,take_succ_eq_append_getElem->M9,toList_toArray->NS
open Nat renaming zero_le->Nx
open Option renaming none->MH,some->MI
open Or renaming inl->Nt,inr->NF
namespace Go.Proofs.YtlnbhjdhcmgljaaGreatDoor.Q
set_option linter.unusedVariables false
set_option linter.unusedSimpArgs false
set_option maxHeartbeats 16000000
set_option maxRecDepth 100000
open Go.RowKit
attribute [local go_sem ↓] Go.wp_at_zero Go.wp_at_succ
variable {K:Act->Prop}{G:Gt}{a c:Int}{l:List Ld}{w:MO}{g:Nat}{V:Pv}{P:Py}{U:Us}
theorem Xp{out:List Int}{t:Tm}{x:Int}:x∈ma out t↔x∈out\/x=t.2:=by
 unfold ma
 split
 ·rename_i h
  exact⟨Nt,fun h2=>h2.elim id (fun e=>by rw[e];exact h)⟩
 ·simp
theorem Xo:∀(m:List Tm) (x:List Int),x.Nodup->(m.foldl ma x).Nodup
 | [],_,h=>h
 |t::m,x,h=>by
  rw[O4];refine Xo m _ ?_;unfold ma
  split
  ·exact h
  ·rename_i hn
   rw[List.nodup_append];exact⟨h,by simp,fun a ha b hb e=>hn (by rw[List.mem_singleton]at hb;rw[<-hb,<-e];exact ha)⟩
theorem Xn:∀(m:List Tm) (x:List Int) (n:Int),n∈m.foldl ma x↔n∈x\/∃t∈m,t.2=n
 | [],x,n=>by simp
 |t::m,x,n=>by
  rw[O4,Xn m,Xp];constructor
  ·rintro((h|h)|⟨t',h1,h2⟩)
   ·exact Nt h
   ·exact NF ⟨t,NM ..,h.symm⟩
   ·exact NF ⟨t',NB _ h1,h2⟩
  ·rintro(h|⟨t',h1,h2⟩)
   ·exact Nt (Nt h)
   ·rcases List.mem_cons.1 h1 with rfl|h1
    ·exact Nt (NF h2.symm)
    ·exact NF ⟨t',h1,h2⟩
theorem Xr(l:List Tm)(at_:Int):(ie l at_).Nodup:=Xo _ [] List.nodup_nil
theorem Xq(l:List Tm)(at_ n:Int):n∈ie l at_↔∃t∈l,t.2=n:=by
 unfold ie vY;rw[Xn];constructor
 ·rintro(h|⟨t,h1,h2⟩)
  ·cases h
  ·exact⟨t,Cv.1 h1,h2⟩
 ·rintro⟨t,h1,h2⟩
  exact NF ⟨t,Cv.2 h1,h2⟩
theorem Xe{b d e:Int}(h:l9 a b c d e):a*(c+1)*d<=ns a b c d e*(b*e)/\(ns a b c d e-1)*(b*e)<a*(c+1)*d/\1<=ns a b c d e/\ns a b c d e<=78720:=by
 obtain⟨_,⟨p1,p2⟩,p3,p4⟩:=zn h;unfold ns;generalize a*(c+1)*d=p at *;generalize b*e=q at *;have h1:=Int.ediv_mul_le (p+q-1) (b:=q) (by omega);have h2:=Int.lt_ediv_add_one_mul_self (p+q-1) (b:=q) (by omega);have h3:1<=(p+q-1) / q:=Int.le_ediv_of_mul_le p3 (by omega);have h4:(p+q-1) / q<=(p+q-1) / q*q:=by
  have:=XY (a:=1) (b:=q) (c:=(p+q-1) / q) (by omega) (by omega);omega
 generalize (p+q-1) / q=u at *;rw[Int.add_mul,Yc]at h2;rw[Int.sub_mul,Yc];refine⟨by omega,by omega,h3,?_⟩;rcases Int.lt_or_le 1 u with h|h
 ·have:=XY (a:=1) (b:=q) (c:=u-1) (by omega) (by omega)
  rw[Int.mul_one,Int.sub_mul,Yc]at this;omega
 ·omega
def Xj(l:List Ld):Int:=(l.map fun x=>if 0<x.2.1 then x.2.2 else 0).sum
theorem Xh(a b c t:Int):∀l:List Ld,(∀x∈l,gI x)->(∀x∈l,x.2.1≠0->l9 a b c x.2.1 t)->a*(c+1)*cY l<=(l.map (jp a b c t)).sum*(b*t)
 | [],_,_=>by simp[cY]
 |x::l,h,hf=>by
  have ih:=Xh a b c t l (fun y hy=>h y (NB _ hy)) (fun y hy=>hf y (NB _ hy));have e1:cY (x::l)=x.2.1+cY l:=by simp[cY]
  have e2:((x::l).map (jp a b c t)).sum=jp a b c t x+(l.map (jp a b c t)).sum:=by simp
  rw[e1,e2,Int.mul_add,Int.add_mul];have h1:a*(c+1)*x.2.1<=jp a b c t x*(b*t):=by
   unfold jp
   split
   case isTrue h0=>rw[h0];simp
   case isFalse h0=>exact(Xe (hf x (NM ..) h0)).1
  omega
theorem Xf{b:Int}(hok:ir l)(hf:g8 a b c)(h0:0<cY l):c+1<=(eI a b c l).sum:=by
 have hall:=ju hok.2;have hbd:=nI l hall;have h:=Xh a b c (cY l) l hall fun x hx hx0=>yS hok hf hx hx0
 unfold eI;generalize (l.map (jp a b c (cY l))).sum=u at *;generalize cY l=t at *;obtain⟨⟨h1,h2,h3⟩,h4,h5⟩:=hf;have m1:b*(c+1)<=a*(c+1):=XX h2 (by omega);have m2:b*(c+1)*t<=a*(c+1)*t:=XX m1 (by omega);have m3:(c+1)*(b*t)<=u*(b*t):=by
  have e:b*(c+1)*t=(c+1)*(b*t):=by rw[Int.mul_comm b (c+1),Int.mul_assoc]
  rw[<-e];omega
 exact Int.le_of_mul_le_mul_right m3 (Int.mul_pos (by omega) (by omega))
theorem Xg(a b c t:Int):∀l:List Ld,(∀x∈l,jp a b c t x<=if 0<x.2.1 then x.2.2 else 0)->(l.map (jp a b c t)).sum<=Xj l
 | [],_=>by simp[Xj]
 |x::l,h=>by
  have ih:=Xg a b c t l fun y hy=>h y (NB _ hy)
  have h1:=h x (NM ..);have e2:((x::l).map (jp a b c t)).sum=jp a b c t x+(l.map (jp a b c t)).sum:=by simp
  have e3:Xj (x::l)=(if 0<x.2.1 then x.2.2 else 0)+Xj l:=by simp[Xj]
  rw[e2,e3];omega
theorem Xl{b:Int}{i:Nat}(hi:i<l.length):cm l (eI a b c l) i=Nn (l[i].2.2<jp a b c (cY l) l[i]):=by
 unfold cm;rw[zI,dif_pos hi];simp[hi]
theorem Xm{b:Int}(hok:ir l)(hf:g8 a b c)(h0:0<cY l)(hfl:Xj l<=c):∃i,i<l.length/\cm l (eI a b c l) i=true:=by
 refine Classical.byContradiction fun hn=>?_
 have h1:=Xf hok hf h0;have h2:=Xg a b c (cY l) l fun x hx=>by
  obtain⟨i,hi,rfl⟩:=List.getElem_of_mem hx;have hd:=ju hok.2 l[i] hx;have hr:¬(l[i].2.2<jp a b c (cY l) l[i]):=fun h=>hn ⟨i,hi,by rw[Xl hi];exact Nq h⟩
  have hw:=hd.1.1
  split
  case isTrue=>omega
  case isFalse h =>
   have:l[i].2.1=0:=by omega
   unfold jp;rw[Nh this];exact Qh _
 unfold eI at h1;omega
theorem Xi{b:Int}(hok:ir l)(hf:g8 a b c)(h0:0<cY l)(hfl:Xj l<=c)(ws:List Int)(t:Nat):
  ∃i,∃hi:i<l.length,iu l (eI a b c l) ws t=MI i/\l[i].2.2<jp a b c (cY l) l[i]/\0<l[i].2.1:=by
 obtain⟨j,hj,hrj⟩:=Xm hok hf h0 hfl;have hw:=ru (a:=a) (b:=b) (c:=c) hok;have key:∀i,i<l.length->cm l (eI a b c l) i=Nw->∃hi:i<l.length,l[i].2.2<jp a b c (cY l) l[i]/\0<l[i].2.1:=fun i hi hr=>by
  have h1:=hw i hr;rw[Xl hi]at hr;exact⟨hi,M2 hr,by simpa [hi]using h1⟩
 unfold iu;cases ha:df l (eI a b c l) ws t with
 |some i =>
  obtain⟨h1,h2,_⟩:=mo ha;obtain⟨h3,h4⟩:=key i h1 h2;exact⟨i,h3,rfl,h4⟩
 |none =>
  have hb:=qc hw l.length;cases hl:bL l (eI a b c l) l.length with
  |none =>
   rw[hl]at hb;rw[hb j (Nx _) hj]at hrj;cases hrj
  |some i =>
   obtain⟨h1,h2⟩:=yi hw hl;obtain⟨h3,h4⟩:=key i h1 h2;exact⟨i,h3,rfl,h4⟩
theorem Xd(hok:∀x∈l,gI x):l.any dj=Nn (0<cY l):=by
 induction l with
 |nil=>rfl
 |cons x l ih =>
  have h1:=ih fun y hy=>hok y (NB _ hy)
  have h2:=nI l fun y hy=>hok y (NB _ hy)
  have h3:=(hok x (NM ..)).1.1;have e1:cY (x::l)=x.2.1+cY l:=by simp[cY]
  rw[List.any_cons,h1,e1];unfold dj
  by_cases h0:x.2.1=0
  ·rw[h0];simp
  ·have h4:0<x.2.1:=by omega
   have h5:0<x.2.1+cY l:=by omega
   simp[h0,h5]
theorem Xk{ws:List Int}{b t:Int}(hok:ir l)(hf:g8 a b c)(ht:0<=t/\t<=12)(hw:ws.length<=12):
  gY ws l a b c t=if 0<cY l then gk l (iu l (eI a b c l) ws t.toNat)else(0,11):=by
 unfold gY;rw[Nh (lN.2 hok),Nh hf,Nh ⟨ht.1,ht.2,hw⟩,Xd (ju hok.2)]
 by_cases h:0<cY l <;> simp[h]
section
variable {A:Gt}{c:Cf}{P:Py}
theorem JM.next{s:Sp}(h:JM c s):Wm s.aft:=by rw[h.aft];exact(h.wm.Mm (D5 h.ev) h.late).Ma
end
def W8(G:Gt)(b:Int):Int:=if aA G.liv b=2 then gL G (aq G.liv b)else 0
def WY(G:Gt):Int:=((Pm 12).map fun b:Nat=>W8 G b).sum
section
variable {G:Gt}
theorem WW{g:Nat->Int}:∀(l:List Nat) (n:Nat),l.Nodup->n∈l->(∀b∈l,b≠n->g b=0)->(l.map g).sum=g n
 | [],n,_,h,_=>by cases h
 |a::l,n,hn,h,hz=>by
  obtain⟨h1,h2⟩:=List.nodup_cons.1 hn;rw[OA,XW]
  by_cases e:a=n
  ·subst e
   have:(l.map g).sum=0:=by
    have h0:∀b∈l,g b=0:=fun b hb=>hz b (NB _ hb) fun e=>h1 (e ▸ hb)
    clear hz hn h h1 h2
    induction l with
    |nil=>rfl
    |cons b l ih=>rw[OA,XW,h0 b (by simp),ih fun x hx=>h0 x (NB _ hx)];rfl
   omega
  ·rcases List.mem_cons.1 h with h|h
   ·exact absurd h.symm e
   ·rw[hz a (by simp) e,WW l n h2 h fun b hb=>hz b (NB _ hb)]
    omega
theorem WU{f g:Nat->Int}(l:List Nat):(l.map fun b=>f b+g b).sum=(l.map f).sum+(l.map g).sum:=by
 induction l with
 |nil=>rfl
 |cons a l ih=>simp only[OA,XW,ih];omega
theorem WV(W:FV->Int):∀(L:List FV),eo L->(∀x∈L,0<=x.1/\x.1<12)->((Pm 12).map fun b:Nat=>if aA L b=2 then W (aq L b)else 0).sum=((L.filter fun l=>l.2.1 == 2).map W).sum
 | [],_,_=>by
  have:((Pm 12).map fun b:Nat=>if aA [] b=2 then W (aq [] b)else 0)=(Pm 12).map fun _=>0:=PU fun b _=>by rw[Nf (by show ¬(0:Int)=2;decide)]
  rw[this];rfl
 |y::L,hr,hb=>by
  obtain⟨h1,h2⟩:=List.pairwise_cons.1 hr;have ih:=WV W L h2 fun x hx=>hb x (NB _ hx)
  have hy:=hb y (by simp);have hnone:aq L y.1=fE:=tP fun x hx=>by have:=h1 x hx;omega
  have key:∀b∈Pm 12,(if aA (y::L) b=2 then W (aq (y::L) b)else 0)=(if(b:Int)=y.1 then(if y.2.1=2 then W y else 0)else 0)+(if aA L b=2 then W (aq L b)else 0):=fun b _=>by
   by_cases e:(b:Int)=y.1
   ·have q:aq (y::L) b=y:=by rw[e];exact iZ hr (by simp)
    have q2:aq L b=fE:=by rw[e];exact hnone
    rw[show aA (y::L) b=(aq (y::L) b).2.1 from rfl,q,show aA L b=(aq L b).2.1 from rfl,q2,Nh e,Nf (show ¬fE.2.1=2 by decide)];omega
   ·have q:aq (y::L) b=aq L b:=by
     unfold aq;rw[List.find?_cons_of_neg (by simpa using fun h:y.1=(b:Int)=>e h.symm)]
    rw[show aA (y::L) b=(aq (y::L) b).2.1 from rfl,q,Nf e,Int.zero_add]
  rw[PU key,WU,ih,WW (g:=fun b:Nat=>if(b:Int)=y.1 then(if y.2.1=2 then W y else 0)else 0) (Pm 12) y.1.toNat List.nodup_range (List.mem_range.2 (by omega)) fun b _ hne=>Nf (by omega),Nh (by omega)]
  by_cases e:y.2.1=2
  ·rw[Nh e,List.filter_cons_of_pos (by simpa using e),OA,XW]
  ·rw[Nf e,List.filter_cons_of_neg (by simpa using e)]
   omega
theorem WX(h:Bs G)(fs:List Fl):cY (ej G fs)=WY G:=by
 unfold WY W8 cY ej;rw[WV (gL G) G.liv h.Gv fun x hx=>by have:=(h.lf hx).1.1;omega,Ya];rfl
theorem WS(h:Bs G)(fs:List Fl):Xj (ej G fs)<=fs.length:=by
 have h1:∀L:List FV,eo L->∀fs:List Fl,((L.map fun l=>(fX fs l.1:Int)).sum<=fs.length):=by
  intro L hr fs;have:((L.map fun l=>fX fs l.1).sum<=fs.length):=by
   have hn:(L.map (·.1)).Nodup:=List.pairwise_map.2 (hr.imp fun h=>by omega);have e:(L.map fun l=>fX fs l.1)=(L.map (·.1)).map (fX fs):=by rw[Ya];rfl
   rw[e];clear e;generalize L.map (·.1)=B at hn
   induction fs with
   |nil =>
    have:∀B:List Int,(B.map (fX [])).sum=0:=fun B=>by induction B with
     |nil=>rfl
     |cons b B ih=>rw[OA,XW,ih];rfl
    rw[this];exact Nx _
   |cons f fs ih =>
    have:∀B:List Int,B.Nodup->(B.map (fX (f::fs))).sum<=(B.map (fX fs)).sum+1/\(f.be∉ B->(B.map (fX (f::fs))).sum=(B.map (fX fs)).sum):=fun B hB=>by
     induction B with
     |nil=>exact⟨by simp,fun _=>rfl⟩
     |cons b B ihB =>
      obtain⟨n1,n2⟩:=List.nodup_cons.1 hB;obtain⟨i1,i2⟩:=ihB n2;simp only[OA,XW]
      by_cases e:f.be=b
      ·have i3:=i2 (by rw[e];exact n1)
       have:fX (f::fs) b=fX fs b+1:=List.countP_cons_of_pos (by simpa using e);exact⟨by omega,fun hh=>absurd (by rw[e];simp) hh⟩
      ·have:fX (f::fs) b=fX fs b:=List.countP_cons_of_neg (by simpa using e)
       exact⟨by omega,fun hh=>by have:=i2 (fun h=>hh (NB _ h));omega⟩
    have:=(this B hn).1;rw[List.length_cons];omega
  have e2:∀l:List FV,(l.map fun l=>(fX fs l.1:Int)).sum=((l.map fun l=>fX fs l.1).sum:Nat):=fun l=>by induction l with
   |nil=>rfl
   |cons a l ih=>rw[OA,XW,ih,OA,XW];omega
  rw[e2];omega
 unfold Xj ej;rw[Ya];have hr:eo (G.liv.filter fun l=>l.2.1 == 2):=h.Gv.filter _;refine Int.le_trans ?_ (h1 _ hr fs);generalize (G.liv.filter fun l=>l.2.1 == 2)=L
 induction L with
 |nil=>exact Qh _
 |cons l L ih =>
  rw[OA,OA,XW,XW];have:((fun x:Ld=>if 0<x.2.1 then x.2.2 else 0) ∘ fun l:FV=>(l.1,gL G l,(fX fs l.1:Int))) l<=(fX fs l.1:Int):=by
   simp only[Function.comp]
   split <;> omega
  omega
theorem WM(h:Bs G){key:Int}(hw:(pR G key).length<=12){fs:List Fl}(hfs:fs.length<=40) :
  (WY G<=0/\dL G key fs=(0,11)) \/
  (0<WY G/\∃b:Int,dL G key fs=(b,0)/\(0<=b/\b<12)/\aA G.liv b=2/\0<W8 G b/\(fX fs b:Int)<ns G.cfg.num G.cfg.den fs.length (W8 G b) (WY G)):=by
 have hok:=h.Jt hfs;have ht:=WX h fs;have hfl:=WS h fs;unfold dL;rw[Xk hok (h.Jm hfs) h.cfg.2.2.2.1 hw,ht]
 by_cases h0:0<WY G
 ·rw[Nh h0]
  obtain⟨i,hi,e,h1,h2⟩:=Xi hok (h.Jm hfs) (by rw[ht];exact h0) hfl (pR G key) G.cfg.tries.toNat
  rw[e];have hm:(ej G fs)[i]∈ej G fs:=Nk hi;obtain⟨l,hl,e2⟩:=List.mem_map.1 hm;obtain⟨hl,hs⟩:=List.mem_filter.1 hl;have h3:=(h.lf hl).1.1;have e3:aq G.liv l.1=l:=iZ h.Gv hl;have hs2:aA G.liv l.1=2:=by show(aq G.liv l.1).2.1=2;rw[e3];simpa using hs
  have e4:W8 G l.1=gL G l:=by unfold W8;rw[Nh hs2,e3]
  rw[<-e2]at h1 h2;refine NF ⟨h0,l.1,?_,⟨h3.1,by omega⟩,hs2,by rw[e4];exact h2,?_⟩
  ·simp[gk,hi,<-e2]
  ·rw[e4,<-ht]
   unfold jp at h1;rw[Nf (by show ¬gL G l=0;have:0<gL G l:=h2;omega)]at h1;exact h1
 ·rw[Nf h0]
  exact Nt ⟨by omega,rfl⟩
end
theorem WT:∀(n:Nat) (l:List Int),l.Nodup->(∀x∈l,0<=x/\x<(n:Int))->l.length<=n
 |0,l,_,h=>by
  cases l with
  |nil=>simp
  |cons x l=>have:=h x (by simp);omega
 |n+1,l,hd,h=>by
  have h1:=WT n (l.erase n) (hd.erase _) fun x hx=>by
   obtain⟨h2,h3⟩:=(hd.mem_erase_iff).1 hx;have:=h x h3;omega
  rw[List.length_erase]at h1
  split at h1 <;> omega
theorem WZ(G:Gt)(key:Int):(pR G key).length<=12:=WT 12 _ (Xr _ _) fun x hx=>by
 obtain⟨t,ht,e⟩:=(Xq _ _ _).1 hx;obtain⟨b,i,h1,_,rfl⟩:=ln.1 ht;simp only at e;omega
section
variable {c:Cf}{s:Sp}{o:Ou}
theorem Xc(h:Bs G)(y:Int):0<=W8 G y:=by
 unfold W8
 split
 ·rename_i h2
  exact(h.Jp (kQ (L:=G.liv) (b:=y) (by omega)).1).1
 ·exact Qh 0
theorem Xb(h:Bs G){b:Nat}(hb:b<12):W8 G b<=WY G:=by
 have key:∀l:List Nat,0<=(l.map fun b:Nat=>W8 G b).sum/\(b∈l->W8 G b<=(l.map fun b:Nat=>W8 G b).sum):=by
  intro l
  induction l with
  |nil=>exact⟨Qh 0,fun h=>by cases h⟩
  |cons y l ih =>
   rw[OA,XW];have h1:=Xc h (y:Int);refine⟨by omega,fun hm=>?_⟩;rcases List.mem_cons.1 hm with rfl|hm
   ·omega
   ·have:=ih.2 hm;omega
 exact(key (Pm 12)).2 (List.mem_range.2 hb)
end
section
variable {G:Gt}{c:Cf}
theorem WO{X:Gt}(hb:bX X.liv X.req)(d b:Int):aq (cj X d).liv b=aq X.liv b\/(b=d/\aA X.liv b=3/\aA (cj X d).liv b=4):=by
 unfold cj
 split
 ·rename_i hc
  show aq (eL X.liv X.req d).1.1 b=aq X.liv b\/(b=d/\aA X.liv b=3/\(aq (eL X.liv X.req d).1.1 b).2.1=4);rw[(vD hb hc.1).1];show aq (cU X.liv d dC) b=aq X.liv b\/(b=d/\aA X.liv b=3/\(aq (cU X.liv d dC) b).2.1=4);rw[zZ hb.1.2.2 hc.1]
  by_cases e:b=d
  ·subst e
   rw[Nh rfl];exact NF ⟨rfl,hc.1,rfl⟩
  ·rw[Nf e];exact Nt rfl
 ·exact Nt rfl
end
section
variable {G:Gt}{c:Cf}
theorem WP(G:Gt)(b:Int):(cj G b).out=G.out\/∃o,(cj G b).out=G.out++[o]:=by
 unfold cj
 split
 ·exact NF ⟨_,rfl⟩
 ·exact Nt rfl
theorem WQ(G:Gt)(f:Fl)(k y:Int):∃l,(dn G f k y).out=G.out++(⟨k,f.slot,f.gen,f.be,0,0,y⟩:Ou)::l:=by
 unfold dn;rcases WP (ge {G with tab:=(ed G.tab f.slot f.gen).1,fls:=bO G.fls f.slot f.gen,tms:=fun t=>G.tms t/\t.2≠f.slot} ⟨k,f.slot,f.gen,f.be,0,0,y⟩) f.be with e|⟨o,e⟩
 ·exact⟨[],e⟩
 ·exact⟨[o],by rw[e];simp[ge]⟩
end
theorem WR:∀(l:List Fl) (i:Nat) (hi:i<l.length),l.Pairwise (fun a b=>a.slot<b.slot)->(l.filter fun x=>x.slot != l[i].slot)=l.eraseIdx i
 |a::t,0,_,h=>by
  obtain⟨h1,_⟩:=List.pairwise_cons.1 h;rw[List.filter_cons_of_neg (by simp),X6];exact List.filter_eq_self.2 fun x hx=>by have:=h1 x hx;simp;omega
 |a::t,i+1,hi,h=>by
  obtain⟨h1,h2⟩:=List.pairwise_cons.1 h;have hit:i<t.length:=by simpa using hi
  have:=h1 _ (Nk hit);rw[List.filter_cons_of_pos (by simp;omega),X5]
  congr 1
  exact WR t i hit h2
theorem WN(y:Fl)(b:Int):∀(l:List Fl) (i:Nat),i<l.length->fX (l.set i y) b=fX (l.eraseIdx i) b+if y.be=b then 1 else 0
 |a::t,0,_=>by
  unfold fX;rw[ML,X6,XZ];simp
 |a::t,i+1,hi=>by
  have ih:=WN y b t i (by simpa using hi);unfold fX at ih⊢;rw[MM,X5,XZ,XZ,ih];omega
theorem Xa{X:Gt}(hb:bX X.liv X.req)(d y:Int):W8 (cj X d) y=W8 X y:=by
 obtain⟨e1,_,e3,e4,_⟩:=ET (G:=X) d;unfold W8;rcases WO hb d y with e|⟨_,h3,h4⟩
 ·show(if(aq (cj X d).liv y).2.1=2 then gL (cj X d) (aq (cj X d).liv y)else 0)=_
  rw[e];show(if aA X.liv y=2 then gL (cj X d) (aq X.liv y)else 0)=_;unfold gL;rw[e1,e3,e4]
 ·rw[Nf (by omega),Nf (by omega)]
section
variable {c:Cf}{s:Sp}{o:Ou}
theorem JM.Ho(h:JM c s)(h4:s.ev.kind=4){l:List Ou}(ho:s.out=o::l)(h5:o.kind=5):(0<=o.be/\o.be<12)/\0<W8 s.aft o.be/\s.aft.fls.length=s.bef.fls.length/\0<s.bef.fls.length /\
  ((fX s.aft.fls o.be:Nat):Int)<=ns c.num c.den ((s.bef.fls.length-1:Nat):Int) (W8 s.aft o.be) (WY s.aft):=by
 have hb:=h.wm.im.bs;have ht:iG s.bef s.ev=mW s.bef s.ev:=by
  unfold iG;rw[Nf (by omega),Nf (by omega),Nf (by omega),Nf (by omega)]
 have hout:=h.out;have haft:=h.aft;rw[ht]at hout haft;have bad:∀(x:Ou) (m:List Ou),s.out=s.bef.out++x::m->x.kind=5:=fun x m e=>by
  rw[ho,h.out0]at e;injection e with e1 _;rw[<-e1];exact h5
 rcases Kt hb s.ev with⟨_,q⟩|⟨i,hi,_,_,_,⟨q,_⟩|⟨q,_⟩|⟨_,_,⟨_,q⟩|⟨_,_,q⟩|⟨_,_,q⟩⟩⟩
 ·rw[q]at hout
  have:=bad _ [] hout;exact absurd this (show ¬(10:Int)=5 by decide)
 ·omega
 ·omega
 ·rw[q]at hout
  have:=bad _ [] hout;exact absurd this (show ¬(10:Int)=5 by decide)
 ·obtain⟨T,e⟩:=KC hi
  rw[q,e]at hout;have:=bad _ [] hout;exact absurd this (show ¬(4:Int)=5 by decide)
 ·have b4:=(hb.F9 (Nk hi)).2.2.2
  rcases pI hb hi 3 with⟨z,q2,_⟩|⟨b,q2,_,_,_,hc,hch⟩
  ·obtain⟨m,e⟩:=WQ (dg s.bef s.bef.fls[i].be Nw) s.bef.fls[i] 6 z
   rw[q,q2,e]at hout;have:=bad _ _ hout;exact absurd this (show ¬(6:Int)=5 by decide)
  ·obtain⟨G1,hG1⟩:∃G1,G1=dg s.bef s.bef.fls[i].be true:=⟨_,rfl⟩
   have hb1:Bs G1:=by rw[hG1];exact hb.GA b4 Nw
   rw[<-hG1]at q2 hch;have hG1o:G1.out=s.bef.out:=by rw[hG1];rfl
   have hi1:i<({G1 with tok:=s.bef.tok-s.bef.cfg.bd}:Gt).fls.length:=by rw[hG1];exact hi
   obtain⟨T,e⟩:=KA hi1 b;obtain⟨X,hX⟩:∃X:Gt,X=ge {({G1 with tok:=s.bef.tok-s.bef.cfg.bd}:Gt)with tab:=(db G1.tab (G1.fls[i]'hi1).slot (G1.fls[i]'hi1).gen b).1,fls:=G1.fls.set i {(G1.fls[i]'hi1)with be:=b,ret:=(G1.fls[i]'hi1).ret+1,due:=G1.now+G1.cfg.conn},tms:=T} ⟨5,(G1.fls[i]'hi1).slot,(G1.fls[i]'hi1).gen,b,0,0,0⟩:=⟨_,rfl⟩;have eX:eQ {G1 with tok:=s.bef.tok-s.bef.cfg.bd} i b=cj X (G1.fls[i]'hi1).be:=by rw[e,hX]
   rw[q,q2,eX]at hout haft;have hobe:o.be=b:=by
    rcases WP X (G1.fls[i]'hi1).be with e2|⟨u,e2⟩
    ·rw[e2,hX]at hout
     have hout:s.out=G1.out++[⟨5,(G1.fls[i]'hi1).slot,(G1.fls[i]'hi1).gen,b,0,0,0⟩]:=hout;rw[ho,hG1o,h.out0]at hout;injection hout with e3 _;rw[e3]
    ·rw[e2,hX]at hout
     have hout:s.out=(G1.out++[⟨5,(G1.fls[i]'hi1).slot,(G1.fls[i]'hi1).gen,b,0,0,0⟩])++[u]:=hout;rw[ho,hG1o,h.out0]at hout;injection hout with e3 _;rw[e3]
   subst hobe;have hbk:bX X.liv X.req:=by rw[hX];exact hb1.book
   have hw:∀y,W8 s.aft y=W8 G1 y:=fun y=>by
    rw[haft];show W8 (cj X (G1.fls[i]'hi1).be) y=_;rw[Xa hbk,hX];rfl
   have htot:WY s.aft=WY G1:=by
    unfold WY
    congr 1
    exact PU fun y _=>hw _
   have hfls:s.aft.fls=s.bef.fls.set i {s.bef.fls[i]with be:=o.be,ret:=s.bef.fls[i].ret+1,due:=s.bef.now+s.bef.cfg.conn}:=by
    rw[haft];show(cj X (G1.fls[i]'hi1).be).fls=_;rw[(ET (G:=X) _).2.2.2.2.1,hX];subst hG1;rfl
   have hwo:bO s.bef.fls s.bef.fls[i].slot s.bef.fls[i].gen=s.bef.fls.eraseIdx i:=by
    rw[hb.GL (Nk hi)];exact WR _ _ hi hb.Ge
   have hlen:(s.bef.fls.eraseIdx i).length=s.bef.fls.length-1:=List.length_eraseIdx_of_lt hi;rw[hwo]at hch;have hl40:=hb.Gb;rcases WM hb1 (WZ G1 s.bef.fls[i].key) (fs:=s.bef.fls.eraseIdx i) (by rw[hlen];omega)with⟨_,e2⟩|⟨_,x,e2,_,_,hwx,hcx⟩
   ·rw[e2]at hch
    injection hch with _ e3;exact absurd e3 (by decide)
   ·rw[hch]at e2
    have ex:o.be=x:=by injection e2
    subst ex;refine⟨hc,by rw[hw];exact hwx,by rw[hfls,List.length_set],by omega,?_⟩;rw[hw,htot,hfls,WN _ _ _ _ hi,Nh rfl];rw[hlen,show G1.cfg=c by rw[hG1];exact h.cfg]at hcx;omega
end
abbrev XD:List Value:=[MF ME 0,MF ME 0,MF ME 0,MF ME 0,M3 Nb,MF ME 0,MF ME 0,MF ME 0,MF ME 0,MF ME 0,MF ME 0,MF ME 0,MF ME 0,MF ME 0,MF ME 0,MF ME 0,MF ME 0,MF ME 0,MF ME 0,MF ME 0,MF ME 0,MF ME 0,MF ME 0,MF ME 0,MF ME 0,MG MH 0 0,MG MH 0 0,MG MH 0 0,MG MH 0 0,MG MH 0 0,MG MH 0 0,MF ME 0,MF ME 0,MG MH 0 0,MF ME 0,MF ME 0,MF ME 0,MF ME 0,MF ME 0,MF ME 0,MF ME 0,MF ME 0,MF ME 0,MF ME 0,MF ME 0,MF ME 0,MF ME 0,MF ME 0,MF ME 0,MF ME 0,MF ME 0,MG MH 0 0,MG MH 0 0,MG MH 0 0,MG MH 0 0,MG MH 0 0,MG MH 0 0,MF ME 0,MF ME 0,MG MH 0 0,MG MH 0 0]
theorem Xy:(Tryz.prog.info? 62).map (·.size)=MI 61:=by kernel_rfl
theorem Jz.Gm{base:Nat}{c:Cf}(h:Jz base w g V c P):w.cell? ⟨g,16,MH⟩=MI (MG V.ps P.steps.length V.cs):=by
 rw[MW w g 16 _ _ (0,0) h.box,h.steps];rfl
structure Xs(W:MO)(ps:Option Oc)(k:Nat)(q:Sq)(b o:Nat):Prop where
 at_:ps=MI ⟨b,o,MH⟩
 cells:W.rangeAt b (o+k*61) (JU q)
 rd:Kh W q
theorem JD.step{W:MO}{c:Cf}(h:JD w W g V c P){k:Nat}(hk:k<P.steps.length):∃q b o,Xs W V.ps k q b o/\P.steps[k]?=MI q.s/\JM c q.s:=by
 have hl:=h.pat.steps;have hkq:k<V.qs.length:=by omega
 have hrv:bj JU W (MG V.ps V.qs.length V.cs) V.qs:=gZ h.pat.rows;obtain⟨a,cap,hv,_,_,hp⟩:=bj.F6 LV hrv;injection hv with q1 _ _;obtain⟨b,o,ha,hb,hc⟩:=hp k hkq;have e:P.steps[k]?=MI V.qs[k].s:=by rw[<-h.pat.eqs,List.getElem?_map,MR hkq];rfl
 refine⟨V.qs[k],b,o,⟨q1.trans ha,fun j v hv=>?_,(h.pat.all _ (Nk hkq)).now⟩,e,h.rn.runs.chain _ (List.mem_of_getElem? e)⟩;have hj:j<61:=(List.getElem?_eq_some_iff.1 hv).1;rw[hc j hj];exact hv
structure Xt(W:MO)(b:Nat)(q:Sq):Prop where
 box:W.heap[b]?=MI (MP (JU q).toArray 62 (0,0))
 rd:Kh W q
theorem Kh.below{W Y:MO}{q:Sq}(h:Kh W q)(hb:MQ W.heap.size W Y):Kh Y q:=⟨h.1.below hb,h.2.1.below hb,h.2.2.below hb⟩
theorem Xt.on{W Y:MO}{b:Nat}{q:Sq}(h:Xt W b q)(hb:MQ W.heap.size W Y):Xt Y b q:=⟨af h.box hb,h.rd.below hb⟩
theorem XC(q:Sq):(JU q).toArray.all (·.oneCell')=true:=by
 apply all_oneCell_toArray;exact LU q
theorem Xs.box{W:MO}{ps:Option Oc}{k:Nat}{q:Sq}{b o:Nat}(h:Xs W ps k q b o):∃Y,Y=(W.alloc (MP XD.toArray 62)).setCells W.heap.size 0 (JU q)/\Xt Y W.heap.size q/\MQ W.heap.size W Y/\(W.alloc (MP XD.toArray 62)).there W.heap.size 0 (JU q).toArray.size:=by
 have hZ:(W.alloc (MP XD.toArray 62)).heap[W.heap.size]?=MI (MP XD.toArray 62 (0,0)):=M1 _ _;have hB:MQ W.heap.size W ((W.alloc (MP XD.toArray 62)).setCells W.heap.size 0 (JU q)):=tW (ai W) (Nat.le_refl _) _ _ (by simp);exact⟨_,rfl,⟨KM hZ rfl,h.rd.below hB⟩,hB,(show(W.alloc (MP XD.toArray 62)).there W.heap.size 0 (JU q).toArray.size from sF (old:=XD) hZ)⟩
theorem Xt.F7{W:MO}{b:Nat}{q:Sq}(h:Xt W b q)(j:Nat):W.cell? ⟨b,j,MH⟩=(JU q)[j]?:=by
 rw[MW W b j _ _ (0,0) h.box];simp
theorem XB(f:Nat->Int)(hf:∀i,i<16->(Lit.int ME (f i)).wf=Nw)(ds:List Dd)(hds:∀d∈ds,Kg d){pd:Option Oc}{cd:Nat}(hrow:bj Ka w (MG pd ds.length cd) ds)(hblk:aK w)(most:Nat)(hm:most<=100):
  ∃L:List M7,L.length=16/\BD (f 0) (f 1) (f 2) (f 3) (f 4) (f 5) (f 6) (f 7) (f 8) (f 9) (f 10) (f 11) (f 12) (f 13) (f 14) (f 15)=Ny L.toArray/\∀W,MQ w.heap.size w W->Ni MK 10 #[Ny L.toArray,MG pd ds.length cd,MF ME (most:Int)] W (Lq f most W):=
 ⟨[MF ME (f 0),MF ME (f 1),MF ME (f 2),MF ME (f 3),MF ME (f 4),MF ME (f 5),MF ME (f 6),MF ME (f 7),MF ME (f 8),MF ME (f 9),MF ME (f 10),MF ME (f 11),MF ME (f 12),MF ME (f 13),MF ME (f 14),MF ME (f 15)],rfl,rfl,fun W hB=>L6 f hf ds hds W (hrow.below hB) (hblk.below hB) most hm⟩
theorem Jz.XS{base:Nat}{c:Cf}(h:Jz base w g V c P)(j:Nat):w.cell? ⟨g,j,MH⟩=(JZ V c P)[j]?:=by
 rw[MW w g j _ _ (0,0) h.box];simp
theorem Xz{W:MO}{p:Option Oc}{c:Nat}{L:List Ou}(h:bj gT W (MG p L.length c) L){i:Nat}(hi:i<L.length) :
  ∃b o,p=MI ⟨b,o,MH⟩/\W.cell? ⟨b,o+i*7,MH⟩=MI (MF ME L[i].kind)/\W.cell? ⟨b,o+i*7+1,MH⟩=MI (MF ME L[i].slot)/\W.cell? ⟨b,o+i*7+2,MH⟩=MI (MF ME L[i].gen)/\W.cell? ⟨b,o+i*7+3,MH⟩=MI (MF ME L[i].be)/\W.cell? ⟨b,o+i*7+4,MH⟩=MI (MF ME L[i].req)/\W.cell? ⟨b,o+i*7+5,MH⟩=MI (MF ME L[i].code)/\W.cell? ⟨b,o+i*7+6,MH⟩=MI (MF ME L[i].why):=by
 obtain⟨a,cap,hv,_,_,hp⟩:=bj.F6 Bq h;injection hv with q1 _ _;obtain⟨b,o,ha,_,hc⟩:=hp i hi;exact⟨b,o,q1.trans ha,hc 0 (by omega),hc 1 (by omega),hc 2 (by omega),hc 3 (by omega),hc 4 (by omega),hc 5 (by omega),hc 6 (by omega)⟩
theorem XA{W:MO}{p:Option Oc}{c:Nat}{L l:List Ou}{x:Ou}(h:bj gT W (MG p L.length c) L)(e:L=x::l) :
  ∃b o,p=MI ⟨b,o,MH⟩/\W.cell? ⟨b,o,MH⟩=MI (MF ME x.kind)/\W.cell? ⟨b,o+1,MH⟩=MI (MF ME x.slot)/\W.cell? ⟨b,o+2,MH⟩=MI (MF ME x.gen)/\W.cell? ⟨b,o+3,MH⟩=MI (MF ME x.be)/\W.cell? ⟨b,o+4,MH⟩=MI (MF ME x.req)/\W.cell? ⟨b,o+5,MH⟩=MI (MF ME x.code)/\W.cell? ⟨b,o+6,MH⟩=MI (MF ME x.why):=by
 subst e;obtain⟨b,o,h1,h2⟩:=Xz h (i:=0) (Nat.succ_pos _);simp only[Nat.zero_mul,Nat.add_zero,MS]at h2;exact⟨b,o,h1,h2⟩
theorem Xv{l:List Fl}{k:Nat}(hk:k<l.length)(b:Int):fX (l.take (k+1)) b=fX (l.take k) b+if l[k].be=b then 1 else 0:=by
 unfold fX;rw[M9 hk,List.countP_append,XZ,List.countP_nil];simp
theorem Xw{W:MO}{M:List M7}(hM:M=(ef U G).toList)(h:aF W U G)(HL40:G.fls.length<=40)(b:Int):Ni MK 14 #[Ny M.toArray,MF ME b] W fun r w'=>r=MN (MF ME ((fX G.fls b:Nat):Int))/\MQ W.heap.size W w':=by
 obtain⟨Y,hY⟩:∃Y,Y=W.alloc (MP M.toArray 54):=⟨_,rfl⟩;have hYb:MQ W.heap.size W Y:=by rw[hY];exact ai W
 have hYx:Y.heap[W.heap.size]?=MI (MP M.toArray 54 (0,0)):=by rw[hY];exact M1 _ _
 have c18:Y.cell? ⟨W.heap.size,18,MH⟩=MI (MG U.pf G.fls.length U.cf):=by rw[MW Y _ 18 _ _ (0,0) hYx,hM];rfl
 obtain⟨a,cap,hv,hca,hmx,hp⟩:=bj.F6 ba (bj.below h.fls hYb);injection hv with q1 q2 q3;obtain⟨m,hm⟩:∃m,m=G.fls.length:=⟨_,rfl⟩;rw[<-hm]at c18;have hmb:m<=9223372036854775806:=by rw[hm];have:=HL40;omega
 have HP:M6 (_/\_/\_/\_):=⟨hp,q1,hm,hYb⟩;clear hYx hp q1 q2 q3 hm hmx hca h hM hYb HL40;go_enter Tryz.func14,Tryz.ntmps14;go_wp2;rw[<-hY];clear hY
 go_loopw [5,6] (fun c i wr=>∃k n:Nat,c=MF ME (n:Int)/\i=MF ME (k:Int)/\k<=m/\n<=k/\M6 (fX (G.fls.take k) b=n)/\wr=Y) (fun _ i _=>m-(intOf i).toNat)
 case atStart=>exact⟨0,0,rfl,rfl,Nx _,Nx _,rfl,rfl⟩
 case round =>
  obtain⟨k,n,rfl,rfl,hk,hnk,HA,rfl⟩:=hrel
  by_cases hlt:k<m
  ·have hkI:(k:Int)<(m:Int):=by omega
   have hkl:k<G.fls.length:=by rw[<-HP.out.2.2.1];exact hlt
   obtain⟨bo,oo,ha,hb,hc⟩:=HP.out.1 k hkl;have e3:wr.cell? ⟨bo,oo+k*7+3,MH⟩=MI (MF ME G.fls[k].be):=hc 3 (by omega);have htk:=Xv hkl b;obtain⟨x,hx⟩:∃x,x=G.fls[k].be:=⟨_,rfl⟩;rw[<-hx]at e3 htk;rw[HP.out.2.1,ha]at c18;rw[HA.out]at htk;have HX:M6 _:=htk;clear hc hb ha hkl hx htk
   by_cases hq:x=b
   ·have hq':(x == b)=true:=by simp[hq]
    have HE:M6 (fX (G.fls.take (k+1)) b=n+1):=HX.out.trans (by rw[Nh hq]);clear hq;go_wp2
    go_roundw
    case rel=>exact⟨k+1,n+1,by simp,by simp,hlt,by omega,HE,trivial⟩
    case measure=>simp[intOf];omega
   ·have hq':(x == b)=false:=by simp[hq]
    have HE:M6 (fX (G.fls.take (k+1)) b=n):=HX.out.trans (by rw[Nf hq];rfl);clear hq;go_wp2
    go_roundw
    case rel=>exact⟨k+1,n,rfl,by simp,hlt,by omega,HE,trivial⟩
    case measure=>simp[intOf];omega
  ·obtain rfl:k=m:=by omega
   have hkI:¬(k:Int)<(k:Int):=by omega
   have HE:M6 (fX G.fls b=n):=by have:=HA.out;rw[HP.out.2.2.1,NT]at this;exact this
   go_wp2;go_ret;exact⟨by rw[HE.out];rfl,HP.out.2.2.2⟩
theorem XK(h:Bs G){x:FV}(hx:x∈G.liv):W8 G x.1=if x.2.1=2 then(if(G.hea.getD x.1.toNat bm).out then 0 else FZ x.2.2.1 (G.now-x.2.2.2.1) G.cfg.warm)else 0:=by
 unfold W8;show(if(aq G.liv x.1).2.1=2 then _ else _)=_;rw[iZ h.Gv hx];rfl
theorem XM{b:Int}(h:∀t∈G.liv,t.1=b->W8 G b=0):W8 G b=0:=by
 rcases qM G.liv b with⟨h1,h2⟩|⟨_,h2⟩
 ·exact h _ h1 h2
 ·unfold W8
  show(if(aq G.liv b).2.1=2 then _ else _)=_;rw[h2];rfl
theorem Xx{W:MO}(h:aF W U G){b:Nat}(hb:b<12):∃bo oo,U.ph=MI ⟨bo,oo,MH⟩/\bo<W.heap.size/\12<=U.ch/\U.ch<=9223372036854775807/\W.cell? ⟨bo,oo+b*4+1,MH⟩=MI (M3 (G.hea.getD b bm).out)/\W.cell? ⟨bo,oo+b*4+2,MH⟩=MI (MF ME (G.hea.getD b bm).till):=by
 have hl:(U.ms.zip G.hea).length=12:=by rw[List.length_zip,h.msl,h.hel];rfl
 obtain⟨a,cap,hv,hc1,hc2,hp⟩:=bj.F6 ii h.hea;injection hv with q1 _ q3;have hbz:b<(U.ms.zip G.hea).length:=by rw[hl];exact hb
 obtain⟨bo,oo,ha,hlt,hc⟩:=hp b hbz;have e:(U.ms.zip G.hea)[b].2=G.hea.getD b bm:=by
  rw[List.getElem_zip,List.getD_eq_getElem?_getD,MR (by rw[h.hel];exact hb)];rfl
 refine⟨bo,oo,q1.trans ha,hlt,by rw[q3,<-hl];exact hc1,by rw[q3];unfold maxLen at hc2;exact hc2,?_,?_⟩
 ·rw[<-e];exact hc 1 (by omega)
 ·rw[<-e];exact hc 2 (by omega)
theorem XJ{W:MO}{M:List M7}(hM:M=(ef U G).toList)(h:aF W U G)(hbs:Bs G){b:Nat}(hb:b<12):Ni MK 12 #[Ny M.toArray,MF ME (b:Int)] W fun r w'=>r=MN (MF ME (W8 G b))/\MQ W.heap.size W w':=by
 obtain⟨Y,hY⟩:∃Y,Y=W.alloc (MP M.toArray 54):=⟨_,rfl⟩;have hYb:MQ W.heap.size W Y:=by rw[hY];exact ai W
 have hYx:Y.heap[W.heap.size]?=MI (MP M.toArray 54 (0,0)):=by rw[hY];exact M1 _ _
 have hmb:G.liv.length<=12:=hbs.book.1.1;obtain⟨m,hm⟩:∃m,m=G.liv.length:=⟨_,rfl⟩;obtain⟨s,hs⟩:∃s,s=W8 G b:=⟨_,rfl⟩;rw[<-hs];rw[<-hm]at hmb;obtain⟨B8,hB8⟩:∃B8,B8=W.heap.size:=⟨_,rfl⟩;have HP:M6 (_/\_/\_/\_/\_/\_/\_):=⟨h.below hYb,hbs,hm,hYb,hs,hM,(show Y.heap[B8]?=MI (MP M.toArray 54 (0,0))by rw[hB8];exact hYx)⟩;clear hYx hm h hM hYb hs hbs;go_enter Tryz.func12,Tryz.ntmps12;go_wp2;rw[<-hY,<-hB8];clear hY hB8
 go_loopw [5,6,7,8] (fun i _ _ _ wr=>∃k:Nat,i=MF ME (k:Int)/\k<=m/\M6 (∀t∈G.liv.take k,t.1=(b:Int)->W8 G b=0)/\M6 (MQ Y.heap.size Y wr)) (fun i _ _ _ _=>m-(intOf i).toNat)
 case atStart=>exact⟨0,rfl,Nx _,(fun t ht=>absurd ht (by simp)),MY _ _⟩
 case round =>
  obtain⟨k,rfl,hk,HA,HW⟩:=hrel;have hx8:=af HP.out.2.2.2.2.2.2 HW.out;have c19:wr.cell? ⟨B8,19,MH⟩=MI (MG U.pl m U.cl):=by rw[MW wr _ 19 _ _ (0,0) hx8,HP.out.2.2.2.2.2.1,HP.out.2.2.1];rfl
  have l8:B8<wr.heap.size:=(Array.getElem?_eq_some_iff.1 hx8).1
  by_cases hlt:k<m
  ·have hkI:(k:Int)<(m:Int):=by omega
   have hkl:k<G.liv.length:=by rw[<-HP.out.2.2.1];exact hlt
   have hwat:=HP.out.1.below HW.out;obtain⟨a,cap,hv,hca,hmx,hp⟩:=jH.F6 hwat.book.1;injection hv with q1 q2 q3;obtain⟨bo,oo,ha,hbo,e0,e1,e2,e3,e4,e5⟩:=hp k hkl;have hcap:U.cl<=9223372036854775807:=by rw[q3];unfold maxLen at hmx;exact hmx
   have hcap2:m<=U.cl:=by rw[q3,HP.out.2.2.1];exact hca
   have htk:G.liv.take (k+1)=G.liv.take k++[G.liv[k]]:=M9 hkl;have hwt:=XK HP.out.2.1 (Nk hkl);have hlf:=(HP.out.2.1.lf (Nk hkl)).1;have hsn:=HP.out.2.1.since _ (Nk hkl);obtain⟨x,hx⟩:∃x,x=G.liv[k]:=⟨_,rfl⟩;rw[<-hx]at e0 e1 e2 e3 e4 e5 htk hwt hlf hsn;rw[q1,ha]at c19;obtain⟨x1,x2,x3,x4,x5,x6⟩:=x;obtain⟨bh,oh,hph,hbh,hc1,hc2,g1,_⟩:=Xx hwat hb;have d22:wr.cell? ⟨B8,22,MH⟩=MI (MG U.ph 12 U.ch):=by rw[MW wr _ 22 _ _ (0,0) hx8,HP.out.2.2.2.2.2.1];rfl
   have d16:wr.cell? ⟨B8,16,MH⟩=MI (MF ME G.now):=by rw[MW wr _ 16 _ _ (0,0) hx8,HP.out.2.2.2.2.2.1];rfl
   have d4:wr.cell? ⟨B8,4,MH⟩=MI (MF ME G.cfg.warm):=by rw[MW wr _ 4 _ _ (0,0) hx8,HP.out.2.2.2.2.2.1];rfl
   rw[hph]at d22;have hnow:=HP.out.2.1.now;have hwm:=HP.out.2.1.cfg.2.2.2.2.1;have HC:M6 (∀W':MO,Ni MK 26 #[MF ME x3,MF ME x4,MF ME G.now,MF ME G.cfg.warm] W' fun r w'=>r=MN (Nv #[MF ME (FZ x3 (G.now-x4) G.cfg.warm),MF ME 0])/\w'=W'):=fun W' =>
    zg x3 x4 G.now G.cfg.warm W' hlf.2.1.1 hlf.2.1.2 ⟨hlf.2.2.1.1,hlf.2.2.1.2,hwm.1,hwm.2⟩ hsn (by omega)
   have hwt':W8 G x1=if x2=2 then(if(G.hea.getD x1.toNat bm).out=Nw then 0 else FZ x3 (G.now-x4) G.cfg.warm)else 0:=hwt
   obtain⟨ot,hot⟩:∃ot,ot=(G.hea.getD b bm).out:=⟨_,rfl⟩;rw[<-hot]at g1;have hb0:(b:Int)<12:=by omega
   have hb1:¬(12:Int)<=(b:Int):=by omega
   have hb2:(0:Int)<=(b:Int):=by omega
   have HX:M6 (_/\_/\_):=⟨htk,hwt',hot⟩;clear hwt hwt' hlf hsn hx hkl hwat hca hmx hp q1 q2 q3 ha hnow hwm hx8 hph hot htk;have hcs:((x1 != (b:Int))=Nw/\M6 (x1≠b))\/(x1=b/\(x2 != 2)=Nw/\M6 (s=0))\/(x1=b/\x2=2/\ot=Nw/\M6 (s=0))\/(x1=b/\x2=2/\ot=Nb/\M6 (s=FZ x3 (G.now-x4) G.cfg.warm)):=by
    by_cases h1:x1=b
    ·have hw:=HX.out.2.1
     rw[h1,<-HP.out.2.2.2.2.1,Int.toNat_natCast,<-HX.out.2.2]at hw
     by_cases h2:x2=2
     ·rw[Nh h2]at hw
      cases h3:ot
      ·rw[h3]at hw;exact NF (NF (NF ⟨h1,h2,rfl,hw⟩))
      ·rw[h3]at hw;exact NF (NF (Nt ⟨h1,h2,rfl,hw⟩))
     ·rw[Nf h2]at hw
      exact NF (Nt ⟨h1,by simp[h2],hw⟩)
    ·exact Nt ⟨by simp[h1],h1⟩
   rcases hcs with⟨h1,HE⟩|⟨rfl,h2,HE⟩|⟨rfl,rfl,rfl,HE⟩|⟨rfl,rfl,rfl,HE⟩
   case inr.inr.inr =>
    go_wp2_with fail
    refine Nd (HC.out _) ?_;rintro r w5 ⟨rfl,rfl⟩;go_wp2;go_ret;exact⟨by rw[HE.out];rfl,HP.out.2.2.2.1.trans ((HW.out.trans ((ai wr).mono HW.out.size)).mono HP.out.2.2.2.1.size)⟩
   all_goals
    go_wp2
    go_roundw
    case rel =>
     refine⟨k+1,by simp,hlt,?_,HW.out.trans ((ai wr).mono HW.out.size)⟩;intro t ht h1;rw[HX.out.1]at ht;rcases List.mem_append.1 ht with ht|ht
     ·exact HA.out t ht h1
     ·first|exact HP.out.2.2.2.2.1.symm.trans HE.out|(rw[List.mem_singleton.1 ht]at h1;exact absurd h1 HE.out)
    case measure=>simp[intOf];omega
  ·obtain rfl:k=m:=by omega
   have hkI:¬(k:Int)<(k:Int):=by omega
   have HE:M6 (s=0):=HP.out.2.2.2.2.1.trans (XM fun t ht=>HA.out t (by rw[HP.out.2.2.1,NT];exact ht));clear hx8;go_wp2;go_ret;exact⟨by rw[HE.out];rfl,HP.out.2.2.2.1.trans (HW.out.mono HP.out.2.2.2.1.size)⟩
def XF(G:Gt)(n:Nat):Int:=((Pm n).map fun b:Nat=>W8 G b).sum
theorem XH(G:Gt)(n:Nat):XF G (n+1)=XF G n+W8 G n:=by
 unfold XF;rw[List.range_succ,List.map_append,List.sum_append];simp
theorem XL(h:Bs G)(b:Int):0<=W8 G b/\W8 G b<=8:=by
 unfold W8
 split
 ·rename_i h2
  have hm:=(kQ (L:=G.liv) (b:=b) (by omega)).1;have:=h.Jp hm;omega
 ·omega
theorem XG{G:Gt}(h:Bs G):∀n:Nat,0<=XF G n/\XF G n<=8*n
 |0=>⟨Qh 0,Qh 0⟩
 |n+1=>by
  have h1:=XG h n;have h2:=XL h (n:Int);rw[XH];omega
theorem XI{W:MO}{M:List M7}(hM:M=(ef U G).toList)(h:aF W U G)(hbs:Bs G):Ni MK 13 #[Ny M.toArray] W fun r w'=>r=MN (MF ME (WY G))/\MQ W.heap.size W w':=by
 obtain⟨Y,hY⟩:∃Y,Y=W.alloc (MP M.toArray 54):=⟨_,rfl⟩;have hYb:MQ W.heap.size W Y:=by rw[hY];exact ai W
 obtain⟨B8,hB8⟩:∃B8,B8=W.heap.size:=⟨_,rfl⟩;have hYx:Y.heap[B8]?=MI (MP M.toArray 54 (0,0)):=by rw[hY,hB8];exact M1 _ _
 obtain⟨s,hs⟩:∃s,s=WY G:=⟨_,rfl⟩;rw[<-hs];have HP:M6 (_/\_/\_/\_/\_/\_/\_):=⟨h.below hYb,hbs,hs,hYb,hYx,hM,(show M.length=26 by rw[hM];rfl)⟩;clear hYx h hM hYb hs hbs;go_enter Tryz.func13,Tryz.ntmps13;go_wp2;rw[<-hY,<-hB8];clear hY hB8
 go_loopw [3,4] (fun c i wr=>∃(k:Nat) (n:Int),c=MF ME n/\i=MF ME (k:Int)/\k<=12/\M6 (n=XF G k)/\M6 (MQ Y.heap.size Y wr)) (fun _ i _=>12-(intOf i).toNat)
 case atStart=>exact⟨0,0,rfl,rfl,Nx _,rfl,MY _ _⟩
 case round =>
  obtain⟨k,n,rfl,rfl,hk,HN,HW⟩:=hrel
  by_cases hlt:k<12
  ·have hkI:(k:Int)<12:=by omega
   have hx8:=af HP.out.2.2.2.2.1 HW.out;have hg:=XJ HP.out.2.2.2.2.2.1 (HP.out.1.below HW.out) HP.out.2.1 hlt;have h1:=XG HP.out.2.1 k;have h2:=XL HP.out.2.1 (k:Int);rw[<-HN.out]at h1;have h3:=XH G k;rw[<-HN.out]at h3;obtain⟨x,hx⟩:∃x,x=W8 G k:=⟨_,rfl⟩;rw[<-hx]at hg h2 h3;have hw:IntKind.i64.wrap (n+x)=n+x:=jn (by omega) (by omega);have HG:M6 (_/\_/\_):=⟨hg,hx8,h3⟩;clear hg hx8 h1 h2 h3 hx
   go_wp2_with ((with_reducible refine O3 rfl 54 (O6 1) rfl B8 0 ?gx M _ ?gc U1 ?gd ?gi ?_);(case gx=>rfl);(case gc=>exact J8 HG.out.2.1);(case gd=>rfl);(case gi=>rw[HP.out.2.2.2.2.2.2];exact iN))
   refine Nd HG.out.1 ?_;rintro r w5 ⟨rfl,hb5⟩;have HX:M6 _:=HW.out.trans (hb5.mono HW.out.size);clear hb5;go_wp2
   go_roundw
   case rel=>exact⟨k+1,n+x,by first|rfl|rw[hw],by simp,hlt,HG.out.2.2.symm,HX⟩
   case measure=>simp[intOf];omega
  ·obtain rfl:k=12:=by omega
   have hkI:¬((12:Nat):Int)<12:=by omega
   have HE:M6 (s=n):=HP.out.2.2.1.trans HN.out.symm;go_wp2;go_ret;exact⟨by rw[HE.out];rfl,HP.out.2.2.2.1.trans (HW.out.mono HP.out.2.2.2.1.size)⟩
theorem XN{P:Program}{ops:Array Oper}{rest:List Oper}{op:Oper}{a:Act}{Q:Exit->Act->MO->Prop}(hw:Region.wanted op (yielded ops a.tmps)=Nw)(ty:TypeId)(x:Operand)(ho:op.op=.load ty x)
  (b o:Nat) (hx:a.eval x=Na (MI ⟨b,o,MH⟩)) (cs:List M7) (d:TypeDesc) (hc:w.rangeAt b o cs) (hu:P.underlying ty=MI d) (hd:d.isRow=Nw) (hi:(P.info? ty).map (·.size)=MI cs.length)
  (h:wpList P ops Q rest (a.put op.dst (Ny cs.toArray)) w):wpList P ops Q (op::rest) a w :=
 wpList_step fun _ hK=>by
  rw[Nh hw];exact wp_load_mid ty x ho b o hx cs d hc hu hd hi (hK _ _ h)
structure Xu(W:MO)(b:Nat)(q:Sq)(M L:List M7):Prop where
 sb:Xt W b q
 e1:M=(ef q.u q.s.bef).toList
 e2:L=(ef q.v q.s.aft).toList
section
variable {W Y:MO}{b:Nat}{q:Sq}{M L:List M7}
theorem Xu.on(h:Xu W b q M L)(hb:MQ W.heap.size W Y):Xu Y b q M L:=⟨h.sb.on hb,h.e1,h.e2⟩
theorem Xu.lt(h:Xu W b q M L):b<W.heap.size:=(Array.getElem?_eq_some_iff.1 h.sb.box).1
theorem Xu.r2(h:Xu W b q M L):W.rangeAt b 34 L:=fun j v hv=>by
 rw[h.e2]at hv;have hj:j<26:=(List.getElem?_eq_some_iff.1 hv).1;rw[h.sb.F7 (34+j)];unfold JU;rw[<-List.append_assoc,List.getElem?_append_right (show 34<=34+j by omega),show 34+j-(JN q.s.ev++(ef q.u q.s.bef).toList).length=j from Nat.add_sub_cancel_left 34 j,List.getElem?_append_left (show j<26 from hj)];exact hv
theorem Xu.i2(h:Xu W b q M L):(Tryz.prog.info? 54).map (·.size)=MI L.length:=by rw[h.e2];exact iN
theorem Xu.XT(h:Xu W b q M L)(hl:q.s.aft.fls.length<=40)(x:Int):Ni MK 14 #[Ny L.toArray,MF ME x] W fun r w'=>r=MN (MF ME ((fX q.s.aft.fls x:Nat):Int))/\MQ W.heap.size W w':=Xw h.e2 h.sb.rd.2.1 hl x
theorem Xu.XV(h:Xu W b q M L)(hb:Bs q.s.aft){x:Nat}(hx:x<12):Ni MK 12 #[Ny L.toArray,MF ME (x:Int)] W fun r w'=>r=MN (MF ME (W8 q.s.aft x))/\MQ W.heap.size W w':=XJ h.e2 h.sb.rd.2.1 hb hx
end
theorem Xu.XU{W:MO}{b:Nat}{q:Sq}{M L:List M7}(h:Xu W b q M L)(hb:Bs q.s.aft):Ni MK 13 #[Ny L.toArray] W fun r w'=>r=MN (MF ME (WY q.s.aft))/\MQ W.heap.size W w':=XI h.e2 h.sb.rd.2.1 hb
section
variable {P:Program}{ops:Array Oper}{C:MO->Prop}{Q:Act->Prop}{o:Oper}{rest:List Oper}{a:Act}
theorem XP{id:Nat}{R:Exit->Act->MO->Prop}{l:List Oper}(hC:C w.drew)(h:wpQuiet P l.toArray C (fun a'=>∀w',C w'->R .normal a' w') l a)(hm:P.follows .mixedOrders=true:=by kernel_rfl)(hB:Region.lexB .any l.toArray=true:=by kernel_rfl):(Code.region id l.toArray Nw).wp P R a w :=
 wp_region_quiet hm hB hC (by simpa using h)
theorem XO(v:M7)(h:K (a.put o.dst v))(hv:∀w,C w->(execOp a.eval o).run P w=.ok (.value v) w):o.quiet P a C K :=
 ⟨v,fun w hC=>by unfold Oper.quietAt;rw[hv w hC];exact⟨rfl,rfl⟩,h⟩
theorem XR(ty:TypeId)(x:Operand)(b p:Nat)(cs:List M7){d:TypeDesc}(hS:∀w,C w->w.rangeAt b p cs)(hi:(P.info? ty).map (·.size)=MI cs.length)(hu:P.underlying ty=MI d)(h:K (a.put o.dst (Ny cs.toArray)))(ho:o.op=.load ty x:=by rfl)(hx:a.eval x=Na (MI ⟨b,p,MH⟩):=by rfl)(hd:d.isRow=true:=by rfl):o.quiet P a C K :=
 XO _ h fun w hC=>by
  unfold execOp;simp only[ho,hx,Instr.loadAt,Instr.sureAddr,Sem.run_bind,Sem.run_pure,Result.andThen_ok,run_loadVar_mid w b p ty cs d (hS w hC) hu hd hi]
theorem XQ(v:M7)(f:FuncId)(args:Array M7)(hc:∀w,C w->Ni P f args w fun e w'=>e=MN v/\C w')(h:K (a.put o.dst v))(hv:∀w,(execOp a.eval o).run P w=.ok (.enter f args) w:=by exact fun X=>by go_simp):o.quiet P a C K :=
 ⟨v,fun w hC=>by unfold Oper.quietAt;rw[hv w];exact⟨rfl,hc w hC⟩,h⟩
end
theorem XE(f:Nat->Int)(hf:∀i,i<16->(Lit.int ME (f i)).wf=Nw)(ds:List Dd)(hds:∀d∈ds,Kg d){pd:Option Oc}{cd:Nat}(hrow:bj Ka w (MG pd ds.length cd) ds)(hB:aK w):
  Ni MK 4 #[BD (f 0) (f 1) (f 2) (f 3) (f 4) (f 5) (f 6) (f 7) (f 8) (f 9) (f 10) (f 11) (f 12) (f 13) (f 14) (f 15),MG pd ds.length cd] w fun r w'=>r=MN (M3 Nw)/\MQ w.heap.size w w':=by
 obtain⟨L,hL,eL,hpl⟩:=XB f hf ds hds hrow hB 60 (by omega);rw[eL];obtain⟨W0,hW0⟩:∃W0,W0=w.alloc (MP L.toArray 24):=⟨_,rfl⟩;have hb0:MQ w.heap.size w W0:=by rw[hW0];exact ai w
 have HI:M6 (_/\_/\_):=⟨hL,hb0,hpl W0 hb0⟩;obtain⟨nd,hnd⟩:∃nd,nd=ds.length:=⟨_,rfl⟩;rw[<-hnd]at HI⊢;clear hL eL hpl hb0 hf hds hrow hB hnd;go_enter Tryz.func4,Tryz.ntmps4
 go_wp2_with ((with_reducible refine O3 rfl 24 (O6 2) rfl w.heap.size 0 ?gx L _ ?gc Tryz.underlying24 ?gd ?gi ?_);(case gx=>rfl);(case gc=>exact J8 (M1 _ _));(case gd=>rfl);(case gi=>rw[HI.out.1];exact K0))
 rw[<-hW0];clear hW0;refine Nd HI.out.2.2 ?_;rintro r w1 ⟨g,V,c,P,rfl,hS,hcx,hn4,hnm,hk3⟩;obtain⟨n,hn⟩:∃n,n=P.steps.length:=⟨_,rfl⟩;have HS:M6 (_/\_/\_/\_/\_):=⟨hS,hcx,hn,(show n<=60+4 by omega),hk3⟩;have hB1:=HI.out.2.1.trans (hS.bel.mono HI.out.2.1.size);have HB:M6 _:=hB1;clear hS hcx hn4 hnm hk3 hn HI hB1
 go_wp2_with fail
 go_loopw [7,8,9,10,11] (fun i _ _ _ _ wr=>∃k:Nat,i=MF ME (k:Int)/\k<=n/\M6 (MQ w1.heap.size w1 wr)) (fun i _ _ _ _ _=>n-(intOf i).toNat)
 case atStart=>exact⟨0,rfl,Nx _,MY _ _⟩
 case round =>
  obtain⟨k,rfl,hk,HW⟩:=hrel;have hSr:=HS.out.1.on HW.out;have c16:wr.cell? ⟨g,16,MH⟩=MI (MG V.ps n V.cs):=by rw[HS.out.2.2.1];exact hSr.pat.Gm
  have hgl:=hSr.pat.lt
  by_cases hlt:k<n
  ·have hkI:(k:Int)<(n:Int):=by omega
   have hnb:n<=9223372036854775807:=by have:=HS.out.2.2.2.1;omega
   obtain⟨q,b,o,hq,hst,hok⟩:=hSr.step (k:=k) (by rw[<-HS.out.2.2.1];exact hlt);obtain⟨Y,hY,hSB,hYb,hth⟩:=hq.box;obtain⟨R,hR⟩:∃R,R=JU q:=⟨_,rfl⟩;have hat:=hq.at_;have y0:Y.cell? ⟨wr.heap.size,0,MH⟩=MI (MF ME q.s.ev.kind):=(hSB.F7 0).trans rfl;have y60:Y.cell? ⟨wr.heap.size,60,MH⟩=MI (MG q.po q.s.out.length q.co):=(hSB.F7 60).trans rfl;have hcs:=hq.cells;rw[<-hR]at hY hth hcs;have HQ:M6 (_/\_/\_/\_/\_/\_):=⟨hcs,hth,hY,hR,HW.out.trans (hYb.mono HW.out.size),(show R.length=61 by rw[hR];rfl)⟩;have HT:M6 (_/\_/\_/\_):=⟨hst,hok,hSB,hYb⟩;clear hq hst hok hY hSB hYb hth hR hcs;rw[hat]at c16;clear hat
   have hout:=HT.out.2.2.1.rd.2.2;clear hSr;obtain⟨m1,hm1⟩:∃m,m=q.s.out.length:=⟨_,rfl⟩;obtain⟨ek,hek⟩:∃e,e=q.s.ev.kind:=⟨_,rfl⟩;have hcs:(ek != 4)=Nw\/((ek != 4)=Nb/\m1=0)\/((ek != 4)=Nb/\ek=4/\∃x l,q.s.out=x::l/\((x.kind != 5)=Nw\/((x.kind != 5)=Nb/\x.kind=5))):=by
    by_cases h4:ek=4
    ·match hq:q.s.out with
     | []=>exact NF (Nt ⟨by simp[h4],by rw[hm1,hq];rfl⟩)
     |x::l =>
      refine NF (NF ⟨by simp[h4],h4,x,l,rfl,?_⟩)
      by_cases h1:x.kind=5
      ·exact NF ⟨by simp[h1],h1⟩
      ·exact Nt (by simp[h1])
    ·exact Nt (by simp[h4])
   rw[<-hm1]at y60;rw[<-hek]at y0;have HEK:M6 _:=hek;have HM1:M6 _:=hm1;clear hm1 hek;rcases hcs with h1|⟨h1,rfl⟩|⟨h4,h4',x,l,hx,hkd⟩
   case' inr.inr =>
    have hn0:((m1:Int) == 0)=false:=by rw[HM1.out,hx];simp <;> omega
    have hn1:(0:Int)<(m1:Int):=by rw[HM1.out,hx];simp <;> omega
    have hn2:0<m1:=by omega
    obtain⟨bo,oo,hpo,u0,_,_,u3,_⟩:=XA hout hx;rw[hpo]at y60;have hbo:bo<Y.heap.size:=World.block_lt_of_cell? Y ⟨bo,oo,MH⟩ u0;have hYl:wr.heap.size<Y.heap.size:=(Array.getElem?_eq_some_iff.1 HT.out.2.2.1.box).1;have HP:M6 (_/\_):=⟨hx,hpo⟩;clear hx hpo hout;rcases hkd with h1|⟨h1,h2⟩
   case' inr.inr.inr =>
    obtain⟨M,M2,hTw⟩:∃M M2,Xu Y wr.heap.size q M M2:=⟨_,_,HT.out.2.2.1,rfl,rfl⟩;obtain⟨⟨g1,g2⟩,g3,gl,g4,g5⟩:=HT.out.2.1.Ho (HEK.out.symm.trans h4') HP.out.1 h2;obtain⟨xk,xs,xg,xb,xr,xc,xy⟩:=x;obtain⟨bn,rfl⟩:=Int.eq_ofNat_of_zero_le (show 0<=xb from g1);have g2:(bn:Int)<12:=g2;have hb12:bn<12:=by omega
    have hwl:=Xb HT.out.2.1.next.im.bs hb12;have htl:WY q.s.aft<=96:=(XG HT.out.2.1.next.im.bs 12).2;have hfl40:q.s.bef.fls.length<=40:=HT.out.2.1.wm.im.bs.Gb;have hfc:=HT.out.2.1.wm.im.bs.Jm (n:=q.s.bef.fls.length-1) (by omega);rw[HT.out.2.1.cfg]at hfc;have g3:0<W8 q.s.aft (bn:Int):=g3;have g5:((fX q.s.aft.fls (bn:Int):Nat):Int)<=ns c.num c.den ((q.s.bef.fls.length-1:Nat):Int) (W8 q.s.aft (bn:Int)) (WY q.s.aft):=g5;obtain⟨wb,hwb⟩:∃z,z=W8 q.s.aft (bn:Int):=⟨_,rfl⟩;obtain⟨tt,htt⟩:∃z,z=WY q.s.aft:=⟨_,rfl⟩;obtain⟨m,hm⟩:∃z,z=q.s.bef.fls.length:=⟨_,rfl⟩;obtain⟨mm,hmm⟩:∃z,z=q.s.bef.fls.length-1:=⟨_,rfl⟩;obtain⟨cf,hcf⟩:∃z,z=fX q.s.aft.fls (bn:Int):=⟨_,rfl⟩;rw[<-hwb,<-htt,<-hmm,<-hcf]at g5;rw[<-hwb]at g3 hwl;rw[<-htt]at hwl htl;rw[<-hmm]at hfc;obtain⟨cp,hcp⟩:∃z,z=ns c.num c.den mm wb tt:=⟨_,rfl⟩;rw[<-hcp]at g5;have hsub:IntKind.i64.wrap ((m:Int)-1)=(mm:Int):=by rw[jn (by omega) (by omega)];omega
    have hmne:((m:Int) != (m:Int))=false:=by simp
    have HL:M6 (_/\_/\_/\_/\_/\_):=⟨hwb,htt,hm,hcf,hcp,(show l9 c.num c.den mm wb tt from⟨hfc,by omega,hwl,htl⟩)⟩;have HGL:M6 (q.s.aft.fls.length=m):=gl.trans hm.symm;have w1':¬wb<1:=by omega
    have w2':¬tt<1:=by omega
    have w3':(wb == 0)=false:=by simp;omega
    have w4':1<=wb:=by omega
    have w5':1<=tt:=by omega
    have w6':max wb 1=wb:=by omega
    have w7':max tt 1=tt:=by omega
    have w8':¬cp<(cf:Int):=by omega
    have w9':Nn (cp<(cf:Int))=false:=M0 w8';have HM:M6 _:=hTw;clear hTw g1 g2 g3 g4 gl hwl htl hfc hwb htt hm hmm hcf hcp h2 hfl40;have u3:Y.cell? ⟨bo,oo+3,MH⟩=MI (MF ME (bn:Int)):=u3;have u0:Y.cell? ⟨bo,oo,MH⟩=MI (MF ME xk):=u0;have h1:(xk != 5)=false:=h1
    go_wp2_with (first|((with_reducible refine O3 rfl 62 (O6 32) rfl b (o+k*61) ?gx R _ ?gc Yb ?gd ?gi ?_);(case gx=>rfl);(case gc=>exact HQ.out.1);(case gd=>rfl);(case gi=>rw[HQ.out.2.2.2.2.2];exact Xy))|((with_reducible refine OW rfl 62 (O6 8) (O6 33) rfl wr.heap.size 0 R.toArray ?sx ?sy ?st ?si ?s1 ?_);(case sx=>rfl);(case sy=>rfl);(case st=>exact HQ.out.2.1);(case si=>rw[OQ,HQ.out.2.2.2.2.2];exact Xy);(case s1=>rw[HQ.out.2.2.2.1];exact XC q);rw[NS,<-HQ.out.2.2.1]))
    obtain⟨B8,hB8⟩:∃B8,B8=wr.heap.size:=⟨_,rfl⟩;rw[<-hB8];rw[<-hB8]at HM;clear hB8 c16 hgl y60 y0 u0 u3 hbo hYl h1 hn0 hn1 hn2;have HG:M6 (_/\_):=⟨HM.out,(MY _ _:MQ Y.heap.size Y Y)⟩;obtain⟨C,hC1,hC2⟩:∃C:MO->Prop,(∀X,C X->Xu X B8 q M M2/\MQ Y.heap.size Y X)/\(∀X,Xu X B8 q M M2/\MQ Y.heap.size Y X->C X):=⟨_,fun _ h=>h,fun _ h=>h⟩;have HCC:M6 (_/\_):=⟨hC1,hC2⟩;clear hC1 hC2;have HPC:M6 (∀X,C X->X.cell? ⟨g,1,MH⟩=MI (MF ME c.num)/\X.cell? ⟨g,2,MH⟩=MI (MF ME c.den)/\X.cell? ⟨B8,26,MH⟩=MI (MG q.u.pf m q.u.cf)):=fun X hX=>by
     have hp:=(HS.out.1.on (HQ.out.2.2.2.2.1.trans ((HCC.out.1 X hX).2.mono HQ.out.2.2.2.2.1.size))).pat
     exact⟨(hp.XS 1).trans rfl,(hp.XS 2).trans rfl,by rw[HL.out.2.2.1];exact((HCC.out.1 X hX).1.sb.F7 26).trans rfl⟩
    refine XP (C:=C) (HCC.out.2 _ ⟨HG.out.1.on (MY _ _).drew,HG.out.2.trans (((MY _ _).drew).mono HG.out.2.size)⟩) ?_
    go_big_quiet_want
    refine XO (gP g) ?_ (fun X hSw=>by go_simp);simp only[Nr,MZ,MT,MS,MJ,ML,MM]
    go_big_quiet_on
    go_big_quiet_want
    refine XO (Na (MI ⟨g,0,MH⟩)) ?_ (fun X hSw=>by go_simp);simp only[Nr,MZ,MT,MS,MJ,ML,MM]
    go_big_quiet_on
    go_big_quiet_want
    refine XO (Na (MI ⟨g,0,MH⟩)) ?_ (fun X hSw=>by go_simp);simp only[Nr,MZ,MT,MS,MJ,ML,MM]
    go_big_quiet_on
    go_big_quiet_want
    refine XO (Na (MI ⟨g,1,MH⟩)) ?_ (fun X hSw=>by go_simp);simp only[Nr,MZ,MT,MS,MJ,ML,MM]
    go_big_quiet_on
    go_big_quiet_want
    refine XO (MF ME c.num) ?_ (fun X hSw=>by have h:=(HPC.out X hSw).1;go_simp);simp only[Nr,MZ,MT,MS,MJ,ML,MM]
    go_big_quiet_on
    go_big_quiet_want
    refine XO (gP g) ?_ (fun X hSw=>by go_simp);simp only[Nr,MZ,MT,MS,MJ,ML,MM]
    go_big_quiet_on
    go_big_quiet_want
    refine XO (Na (MI ⟨g,0,MH⟩)) ?_ (fun X hSw=>by go_simp);simp only[Nr,MZ,MT,MS,MJ,ML,MM]
    go_big_quiet_on
    go_big_quiet_want
    refine XO (Na (MI ⟨g,0,MH⟩)) ?_ (fun X hSw=>by go_simp);simp only[Nr,MZ,MT,MS,MJ,ML,MM]
    go_big_quiet_on
    go_big_quiet_want
    refine XO (Na (MI ⟨g,2,MH⟩)) ?_ (fun X hSw=>by go_simp);simp only[Nr,MZ,MT,MS,MJ,ML,MM]
    go_big_quiet_on
    go_big_quiet_want
    refine XO (MF ME c.den) ?_ (fun X hSw=>by have h:=(HPC.out X hSw).2.1;go_simp);simp only[Nr,MZ,MT,MS,MJ,ML,MM]
    go_big_quiet_on
    go_big_quiet_want
    refine XO (Na (MI ⟨B8,8,MH⟩)) ?_ (fun X hSw=>by go_simp);simp only[Nr,MZ,MT,MS,MJ,ML,MM]
    go_big_quiet_on
    go_big_quiet_want
    refine XO (Na (MI ⟨B8,26,MH⟩)) ?_ (fun X hSw=>by go_simp);simp only[Nr,MZ,MT,MS,MJ,ML,MM]
    go_big_quiet_on
    go_big_quiet_want
    refine XO (MG q.u.pf m q.u.cf) ?_ (fun X hSw=>by have h:=(HPC.out X hSw).2.2;go_simp);simp only[Nr,MZ,MT,MS,MJ,ML,MM]
    go_big_quiet_on
    go_big_quiet_want
    refine XO (MF ME (m:Int)) ?_ (fun X hSw=>by go_simp);simp only[Nr,MZ,MT,MS,MJ,ML,MM]
    go_big_quiet_on
    go_big_quiet_want
    refine XO (MF ME (mm:Int)) ?_ (fun X hSw=>by go_simp);simp only[Nr,MZ,MT,MS,MJ,ML,MM]
    go_big_quiet_on
    go_big_quiet_want
    refine XO (Na (MI ⟨B8,34,MH⟩)) ?_ (fun X hSw=>by go_simp);simp only[Nr,MZ,MT,MS,MJ,ML,MM]
    go_big_quiet_on
    go_big_quiet_want
    refine XR 54 (O6 73) B8 34 M2 (fun X hX=>(HCC.out.1 X hX).1.r2) HG.out.1.i2 U1 ?_;simp only[Nr,MZ,MT,MS,MJ,ML,MM]
    go_big_quiet_on
    go_big_quiet_want
    refine XO (MF ME (bn:Int)) ?_ (fun X hSw=>by go_simp);simp only[Nr,MZ,MT,MS,MJ,ML,MM]
    go_big_quiet_on
    go_big_quiet_want
    refine XQ (MF ME wb) 12 #[Ny M2.toArray,MF ME (bn:Int)] (fun X hX=>((HCC.out.1 X hX).1.XV HT.out.2.1.next.im.bs hb12).mono fun r w' h=>⟨h.1.trans (by rw[<-HL.out.1]),HCC.out.2 w' ⟨(HCC.out.1 X hX).1.on h.2,(HCC.out.1 X hX).2.trans (h.2.mono (HCC.out.1 X hX).2.size)⟩⟩) ?_;simp only[Nr,MZ,MT,MS,MJ,ML,MM]
    go_big_quiet_on
    go_big_quiet_want
    refine XO (MF ME wb) ?_ (fun X hSw=>by go_simp);simp only[Nr,MZ,MT,MS,MJ,ML,MM]
    go_big_quiet_on
    go_big_quiet_want
    refine XO (Na (MI ⟨B8,34,MH⟩)) ?_ (fun X hSw=>by go_simp);simp only[Nr,MZ,MT,MS,MJ,ML,MM]
    go_big_quiet_on
    go_big_quiet_want
    refine XR 54 (O6 78) B8 34 M2 (fun X hX=>(HCC.out.1 X hX).1.r2) HG.out.1.i2 U1 ?_;simp only[Nr,MZ,MT,MS,MJ,ML,MM]
    go_big_quiet_on
    go_big_quiet_want
    refine XQ (MF ME tt) 13 #[Ny M2.toArray] (fun X hX=>((HCC.out.1 X hX).1.XU HT.out.2.1.next.im.bs).mono fun r w' h=>⟨h.1.trans (by rw[<-HL.out.2.1]),HCC.out.2 w' ⟨(HCC.out.1 X hX).1.on h.2,(HCC.out.1 X hX).2.trans (h.2.mono (HCC.out.1 X hX).2.size)⟩⟩) ?_;simp only[Nr,MZ,MT,MS,MJ,ML,MM]
    go_big_quiet_on
    go_big_quiet_want
    refine XO (MF ME tt) ?_ (fun X hSw=>by go_simp);simp only[Nr,MZ,MT,MS,MJ,ML,MM]
    go_big_quiet_on
    go_big_quiet_want
    refine XQ (Nv #[MF ME cp,MF ME 0]) 11 #[MF ME c.num,MF ME c.den,MF ME (mm:Int),MF ME wb,MF ME tt] (fun X hX=>(yw _ _ _ _ _ X HL.out.2.2.2.2.2).mono fun r w' h=>⟨h.1.trans (by rw[<-HL.out.2.2.2.2.1]),by rw[h.2];exact hX⟩) ?_;simp only[Nr,MZ,MT,MS,MJ,ML,MM]
    go_big_quiet_on
    go_big_quiet_want
    refine XO (Nv #[MF ME cp,MF ME 0]) ?_ (fun X hSw=>by go_simp);simp only[Nr,MZ,MT,MS,MJ,ML,MM]
    go_big_quiet_on
    go_big_quiet_want
    refine XO (MF ME cp) ?_ (fun X hSw=>by go_simp);simp only[Nr,MZ,MT,MS,MJ,ML,MM]
    go_big_quiet_on
    go_big_quiet_want
    refine XO (MF ME 0) ?_ (fun X hSw=>by go_simp);simp only[Nr,MZ,MT,MS,MJ,ML,MM]
    go_big_quiet_on
    go_big_quiet_want
    refine XO (MF ME cp) ?_ (fun X hSw=>by go_simp);simp only[Nr,MZ,MT,MS,MJ,ML,MM]
    go_big_quiet_on
    go_big_quiet_want
    refine XO (MF ME 0) ?_ (fun X hSw=>by go_simp);simp only[Nr,MZ,MT,MS,MJ,ML,MM]
    go_big_quiet_on
    refine wpQuiet_nil ?_;intro X hX;replace HG:M6 (_/\_):=HCC.out.1 X hX;clear hX
    go_wp2_with ((with_reducible refine XN ?gw 54 (O6 88) rfl B8 34 ?gx M2 _ ?gc U1 ?gd ?gi ?_);(case gw=>rfl);(case gx=>rfl);(case gc=>exact HG.out.1.r2);(case gd=>rfl);(case gi=>exact HG.out.1.i2))
    refine Nd (HG.out.1.XT HT.out.2.1.next.im.bs.Gb _) ?_;rintro r w5 ⟨rfl,hb5⟩;rw[<-HL.out.2.2.2.1];replace HG:M6 (_/\_):=⟨HG.out.1.on hb5,HG.out.2.trans (hb5.mono HG.out.2.size)⟩;clear hb5
    go_wp2_with ((with_reducible refine XN ?gw 54 (O6 96) rfl B8 34 ?gx M2 _ ?gc U1 ?gd ?gi ?_);(case gw=>rfl);(case gx=>rfl);(case gc=>exact HG.out.1.r2);(case gd=>rfl);(case gi=>exact HG.out.1.i2))
    refine Nd (HG.out.1.XV HT.out.2.1.next.im.bs hb12) ?_;rintro r w6 ⟨rfl,hb6⟩;rw[<-HL.out.1];replace HG:M6 (_/\_):=⟨HG.out.1.on hb6,HG.out.2.trans (hb6.mono HG.out.2.size)⟩;have v52:w6.cell? ⟨B8,52,MH⟩=MI (MG q.v.pf m q.v.cf):=(HG.out.1.sb.F7 52).trans (by show MI (MG q.v.pf q.s.aft.fls.length q.v.cf)=_;rw[HGL.out]);have v26:w6.cell? ⟨B8,26,MH⟩=MI (MG q.u.pf m q.u.cf):=(HG.out.1.sb.F7 26).trans (by show MI (MG q.u.pf q.s.bef.fls.length q.u.cf)=_;rw[<-HL.out.2.2.1]);have l8:=HG.out.1.lt;clear hb6;go_wp2
    go_roundw
    case rel=>exact⟨k+1,by simp,hlt,HQ.out.2.2.2.2.1.trans (HG.out.2.mono HQ.out.2.2.2.2.1.size)⟩
    case measure=>simp[intOf];omega
   all_goals
    go_wp2_with (first|((with_reducible refine O3 rfl 62 (O6 32) rfl b (o+k*61) ?gx R _ ?gc Yb ?gd ?gi ?_);(case gx=>rfl);(case gc=>exact HQ.out.1);(case gd=>rfl);(case gi=>rw[HQ.out.2.2.2.2.2];exact Xy))|((with_reducible refine OW rfl 62 (O6 8) (O6 33) rfl wr.heap.size 0 R.toArray ?sx ?sy ?st ?si ?s1 ?_);(case sx=>rfl);(case sy=>rfl);(case st=>exact HQ.out.2.1);(case si=>rw[OQ,HQ.out.2.2.2.2.2];exact Xy);(case s1=>rw[HQ.out.2.2.2.1];exact XC q);rw[NS,<-HQ.out.2.2.1]))
    go_roundw
    case rel=>exact⟨k+1,by simp,hlt,HQ.out.2.2.2.2.1⟩
    case measure=>simp[intOf];omega
  ·obtain rfl:k=n:=by omega
   have hkI:¬(k:Int)<(k:Int):=by omega
   go_wp2;go_ret;exact⟨rfl,HB.out.trans (HW.out.mono HB.out.size)⟩
end Go.Proofs.YtlnbhjdhcmgljaaGreatDoor.Q
