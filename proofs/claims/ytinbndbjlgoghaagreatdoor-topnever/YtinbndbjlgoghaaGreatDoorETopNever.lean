/-
  TopNever: its walk. Conditions: as each theorem says.
-/
import Derived.Test.YtinbndbjlgoghaaGreatDoorQ20
open Bool renaming false->Nb,true->Nw
open Classical renaming byContradiction->PM
open Go renaming Addr->Oc,Calls->Ni,Value->M7,World->MO,cell_of_row->MW,heap_alloc_new->M1,wpList_load_mid->O3
open Go.Ending renaming returned->MN
open Go.IntKind renaming i64->ME
open Go.Obj renaming cells->MP
open Go.Operand renaming tmp->O6
open Go.Proofs.Tryz renaming prog->MK,underlying49->OX
open Go.RowKit renaming Below->MQ,Hid->M6
open Go.Value renaming agg->Ny,bool->M3,int->MF,slice->MG
open Int renaming le_refl->Qh,mul_le_mul_of_nonneg_left->VT,mul_le_mul_of_nonneg_right->VS,one_mul->VW
open List renaming foldl_cons->O4,getElem?_append_left->OJ,getElem?_append_right->Tw,getElem?_eq_getElem->MR,getElem_mem->Nk,map_congr_left->PU,map_cons->OA,map_map->VV,mem_cons_of_mem->NB,mem_cons_self->NM,range->Pm,sum_cons->VR,take_length->NT
open Nat renaming add_sub_cancel_left->VU,le_refl->MV,le_trans->Nm,zero_le->Nx
open Option renaming none->MH,some->MI
open Or renaming inl->Nt,inr->NF
namespace Go.Proofs.YtinbndbjlgoghaaGreatDoor.Q
set_option linter.unusedVariables false
set_option linter.unusedSimpArgs false
set_option maxHeartbeats 16000000
set_option maxRecDepth 100000
open Go.RowKit
attribute [local go_sem ↓] Go.wp_at_zero Go.wp_at_succ
variable {X:Gt}{a c:Int}{l:List Ld}{w:MO}{i:Nat}
theorem Vw{out:List Int}{t:Tm}{x:Int}:x∈ma out t↔x∈out\/x=t.2:=by
 unfold ma
 split
 ·rename_i h
  exact⟨Nt,fun h2=>h2.elim id (fun e=>by rw[e];exact h)⟩
 ·simp
theorem Vv:∀(m:List Tm) (x:List Int),x.Nodup->(m.foldl ma x).Nodup
 | [],_,h=>h
 |t::m,x,h=>by
  rw[O4];refine Vv m _ ?_;unfold ma
  split
  ·exact h
  ·rename_i hn
   rw[List.nodup_append];exact⟨h,by simp,fun a ha b hb e=>hn (by rw[List.mem_singleton]at hb;rw[<-hb,<-e];exact ha)⟩
theorem Vu:∀(m:List Tm) (x:List Int) (n:Int),n∈m.foldl ma x↔n∈x\/∃t∈m,t.2=n
 | [],x,n=>by simp
 |t::m,x,n=>by
  rw[O4,Vu m,Vw];constructor
  ·rintro((h|h)|⟨t',h1,h2⟩)
   ·exact Nt h
   ·exact NF ⟨t,NM ..,h.symm⟩
   ·exact NF ⟨t',NB _ h1,h2⟩
  ·rintro(h|⟨t',h1,h2⟩)
   ·exact Nt (Nt h)
   ·rcases List.mem_cons.1 h1 with rfl|h1
    ·exact Nt (NF h2.symm)
    ·exact NF ⟨t',h1,h2⟩
theorem Vy(l:List Tm)(at_:Int):(ie l at_).Nodup:=Vv _ [] List.nodup_nil
theorem Vx(l:List Tm)(at_ n:Int):n∈ie l at_↔∃t∈l,t.2=n:=by
 unfold ie vY;rw[Vu];constructor
 ·rintro(h|⟨t,h1,h2⟩)
  ·cases h
  ·exact⟨t,Cv.1 h1,h2⟩
 ·rintro⟨t,h1,h2⟩
  exact NF ⟨t,Cv.2 h1,h2⟩
theorem Vk{b d e:Int}(h:l9 a b c d e):a*(c+1)*d<=ns a b c d e*(b*e)/\(ns a b c d e-1)*(b*e)<a*(c+1)*d/\1<=ns a b c d e/\ns a b c d e<=78720:=by
 obtain⟨_,⟨p1,p2⟩,p3,p4⟩:=zn h;unfold ns;generalize a*(c+1)*d=p at *;generalize b*e=q at *;have h1:=Int.ediv_mul_le (p+q-1) (b:=q) (by omega);have h2:=Int.lt_ediv_add_one_mul_self (p+q-1) (b:=q) (by omega);have h3:1<=(p+q-1) / q:=Int.le_ediv_of_mul_le p3 (by omega);have h4:(p+q-1) / q<=(p+q-1) / q*q:=by
  have:=VT (a:=1) (b:=q) (c:=(p+q-1) / q) (by omega) (by omega);omega
 generalize (p+q-1) / q=u at *;rw[Int.add_mul,VW]at h2;rw[Int.sub_mul,VW];refine⟨by omega,by omega,h3,?_⟩;rcases Int.lt_or_le 1 u with h|h
 ·have:=VT (a:=1) (b:=q) (c:=u-1) (by omega) (by omega)
  rw[Int.mul_one,Int.sub_mul,VW]at this;omega
 ·omega
def Vp(l:List Ld):Int:=(l.map fun x=>if 0<x.2.1 then x.2.2 else 0).sum
theorem Vn(a b c t:Int):∀l:List Ld,(∀x∈l,gI x)->(∀x∈l,x.2.1≠0->l9 a b c x.2.1 t)->a*(c+1)*cY l<=(l.map (jp a b c t)).sum*(b*t)
 | [],_,_=>by simp[cY]
 |x::l,h,hf=>by
  have ih:=Vn a b c t l (fun y hy=>h y (NB _ hy)) (fun y hy=>hf y (NB _ hy));have e1:cY (x::l)=x.2.1+cY l:=by simp[cY]
  have e2:((x::l).map (jp a b c t)).sum=jp a b c t x+(l.map (jp a b c t)).sum:=by simp
  rw[e1,e2,Int.mul_add,Int.add_mul];have h1:a*(c+1)*x.2.1<=jp a b c t x*(b*t):=by
   unfold jp
   split
   case isTrue h0=>rw[h0];simp
   case isFalse h0=>exact(Vk (hf x (NM ..) h0)).1
  omega
theorem Vl{b:Int}(hok:ir l)(hf:g8 a b c)(h0:0<cY l):c+1<=(eI a b c l).sum:=by
 have hall:=ju hok.2;have hbd:=nI l hall;have h:=Vn a b c (cY l) l hall fun x hx hx0=>yS hok hf hx hx0
 unfold eI;generalize (l.map (jp a b c (cY l))).sum=u at *;generalize cY l=t at *;obtain⟨⟨h1,h2,h3⟩,h4,h5⟩:=hf;have m1:b*(c+1)<=a*(c+1):=VS h2 (by omega);have m2:b*(c+1)*t<=a*(c+1)*t:=VS m1 (by omega);have m3:(c+1)*(b*t)<=u*(b*t):=by
  have e:b*(c+1)*t=(c+1)*(b*t):=by rw[Int.mul_comm b (c+1),Int.mul_assoc]
  rw[<-e];omega
 exact Int.le_of_mul_le_mul_right m3 (Int.mul_pos (by omega) (by omega))
theorem Vm(a b c t:Int):∀l:List Ld,(∀x∈l,jp a b c t x<=if 0<x.2.1 then x.2.2 else 0)->(l.map (jp a b c t)).sum<=Vp l
 | [],_=>by simp[Vp]
 |x::l,h=>by
  have ih:=Vm a b c t l fun y hy=>h y (NB _ hy)
  have h1:=h x (NM ..);have e2:((x::l).map (jp a b c t)).sum=jp a b c t x+(l.map (jp a b c t)).sum:=by simp
  have e3:Vp (x::l)=(if 0<x.2.1 then x.2.2 else 0)+Vp l:=by simp[Vp]
  rw[e2,e3];omega
theorem Vr{b:Int}(hi:i<l.length):cm l (eI a b c l) i=Decidable.decide (l[i].2.2<jp a b c (cY l) l[i]):=by
 unfold cm;rw[zI,dif_pos hi];simp[hi]
theorem Vt{b:Int}(hok:ir l)(hf:g8 a b c)(h0:0<cY l)(hfl:Vp l<=c):∃i,i<l.length/\cm l (eI a b c l) i=true:=by
 refine PM fun hn=>?_
 have h1:=Vl hok hf h0;have h2:=Vm a b c (cY l) l fun x hx=>by
  obtain⟨i,hi,rfl⟩:=List.getElem_of_mem hx;have hd:=ju hok.2 l[i] hx;have hr:¬(l[i].2.2<jp a b c (cY l) l[i]):=fun h=>hn ⟨i,hi,by rw[Vr hi];exact Nq h⟩
  have hw:=hd.1.1
  split
  case isTrue=>omega
  case isFalse h =>
   have:l[i].2.1=0:=by omega
   unfold jp;rw[Nh this];exact Qh _
 unfold eI at h1;omega
theorem Vo{b:Int}(hok:ir l)(hf:g8 a b c)(h0:0<cY l)(hfl:Vp l<=c)(ws:List Int)(t:Nat):
  ∃i,∃hi:i<l.length,iu l (eI a b c l) ws t=MI i/\l[i].2.2<jp a b c (cY l) l[i]/\0<l[i].2.1:=by
 obtain⟨j,hj,hrj⟩:=Vt hok hf h0 hfl;have hw:=ru (a:=a) (b:=b) (c:=c) hok;have key:∀i,i<l.length->cm l (eI a b c l) i=Nw->∃hi:i<l.length,l[i].2.2<jp a b c (cY l) l[i]/\0<l[i].2.1:=fun i hi hr=>by
  have h1:=hw i hr;rw[Vr hi]at hr;exact⟨hi,M2 hr,by simpa [hi]using h1⟩
 unfold iu;cases ha:df l (eI a b c l) ws t with
 |some i =>
  obtain⟨h1,h2,_⟩:=mo ha;obtain⟨h3,h4⟩:=key i h1 h2;exact⟨i,h3,rfl,h4⟩
 |none =>
  have hb:=qc hw l.length;cases hl:bL l (eI a b c l) l.length with
  |none =>
   rw[hl]at hb;rw[hb j (Nx _) hj]at hrj;cases hrj
  |some i =>
   obtain⟨h1,h2⟩:=yi hw hl;obtain⟨h3,h4⟩:=key i h1 h2;exact⟨i,h3,rfl,h4⟩
theorem Vj(hok:∀x∈l,gI x):l.any dj=Decidable.decide (0<cY l):=by
 induction l with
 |nil=>rfl
 |cons x l ih =>
  have h1:=ih fun y hy=>hok y (NB _ hy)
  have h2:=nI l fun y hy=>hok y (NB _ hy)
  have h3:=(hok x (NM ..)).1.1;have e1:cY (x::l)=x.2.1+cY l:=by simp[cY]
  rw[List.any_cons,h1,e1];unfold dj
  by_cases h0:x.2.1=0
  ·rw[h0];simp
  ·have h4:0<x.2.1:=by omega
   have h5:0<x.2.1+cY l:=by omega
   simp[h0,h5]
theorem Vq{ws:List Int}{b t:Int}(hok:ir l)(hf:g8 a b c)(ht:0<=t/\t<=12)(hw:ws.length<=12):
  gY ws l a b c t=if 0<cY l then gk l (iu l (eI a b c l) ws t.toNat)else(0,11):=by
 unfold gY;rw[Nh (lN.2 hok),Nh hf,Nh ⟨ht.1,ht.2,hw⟩,Vj (ju hok.2)]
 by_cases h:0<cY l <;> simp[h]
section
variable {G:Gt}{c:Cf}
theorem U1(hb:bX X.liv X.req)(d b:Int):aq (cj X d).liv b=aq X.liv b\/(b=d/\aA X.liv b=3/\aA (cj X d).liv b=4):=by
 unfold cj
 split
 ·rename_i hc
  show aq (eL X.liv X.req d).1.1 b=aq X.liv b\/(b=d/\aA X.liv b=3/\(aq (eL X.liv X.req d).1.1 b).2.1=4);rw[(vD hb hc.1).1];show aq (cU X.liv d dC) b=aq X.liv b\/(b=d/\aA X.liv b=3/\(aq (cU X.liv d dC) b).2.1=4);rw[zZ hb.1.2.2 hc.1]
  by_cases e:b=d
  ·subst e
   rw[Nh rfl];exact NF ⟨rfl,hc.1,rfl⟩
  ·rw[Nf e];exact Nt rfl
 ·exact Nt rfl
theorem U2(hb:bX X.liv X.req)(d b:Int):aA (cj X d).liv b=2↔aA X.liv b=2:=by
 rcases U1 hb d b with h|⟨_,h1,h2⟩
 ·rw[show aA (cj X d).liv b=(aq (cj X d).liv b).2.1 from rfl,h]
 ·rw[h1,h2];decide
end
def Vi(G:Gt)(b:Int):Int:=if aA G.liv b=2 then gL G (aq G.liv b)else 0
def Vg(G:Gt):Int:=((Pm 12).map fun b:Nat=>Vi G b).sum
section
variable {G:Gt}
theorem Vb{g:Nat->Int}:∀(l:List Nat) (n:Nat),l.Nodup->n∈l->(∀b∈l,b≠n->g b=0)->(l.map g).sum=g n
 | [],n,_,h,_=>by cases h
 |a::l,n,hn,h,hz=>by
  obtain⟨h1,h2⟩:=List.nodup_cons.1 hn;rw[OA,VR]
  by_cases e:a=n
  ·subst e
   have:(l.map g).sum=0:=by
    have h0:∀b∈l,g b=0:=fun b hb=>hz b (NB _ hb) fun e=>h1 (e ▸ hb)
    clear hz hn h h1 h2
    induction l with
    |nil=>rfl
    |cons b l ih=>rw[OA,VR,h0 b (by simp),ih fun x hx=>h0 x (NB _ hx)];rfl
   omega
  ·rcases List.mem_cons.1 h with h|h
   ·exact absurd h.symm e
   ·rw[hz a (by simp) e,Vb l n h2 h fun b hb=>hz b (NB _ hb)]
    omega
theorem U9{f g:Nat->Int}(l:List Nat):(l.map fun b=>f b+g b).sum=(l.map f).sum+(l.map g).sum:=by
 induction l with
 |nil=>rfl
 |cons a l ih=>simp only[OA,VR,ih];omega
theorem Va(W:FV->Int):∀(L:List FV),eo L->(∀x∈L,0<=x.1/\x.1<12)->((Pm 12).map fun b:Nat=>if aA L b=2 then W (aq L b)else 0).sum=((L.filter fun l=>l.2.1 == 2).map W).sum
 | [],_,_=>by
  have:((Pm 12).map fun b:Nat=>if aA [] b=2 then W (aq [] b)else 0)=(Pm 12).map fun _=>0:=PU fun b _=>by rw[Nf (by show ¬(0:Int)=2;decide)]
  rw[this];rfl
 |y::L,hr,hb=>by
  obtain⟨h1,h2⟩:=List.pairwise_cons.1 hr;have ih:=Va W L h2 fun x hx=>hb x (NB _ hx)
  have hy:=hb y (by simp);have hnone:aq L y.1=fE:=tP fun x hx=>by have:=h1 x hx;omega
  have key:∀b∈Pm 12,(if aA (y::L) b=2 then W (aq (y::L) b)else 0)=(if(b:Int)=y.1 then(if y.2.1=2 then W y else 0)else 0)+(if aA L b=2 then W (aq L b)else 0):=fun b _=>by
   by_cases e:(b:Int)=y.1
   ·have q:aq (y::L) b=y:=by rw[e];exact iZ hr (by simp)
    have q2:aq L b=fE:=by rw[e];exact hnone
    rw[show aA (y::L) b=(aq (y::L) b).2.1 from rfl,q,show aA L b=(aq L b).2.1 from rfl,q2,Nh e,Nf (show ¬fE.2.1=2 by decide)];omega
   ·have q:aq (y::L) b=aq L b:=by
     unfold aq;rw[List.find?_cons_of_neg (by simpa using fun h:y.1=(b:Int)=>e h.symm)]
    rw[show aA (y::L) b=(aq (y::L) b).2.1 from rfl,q,Nf e,Int.zero_add]
  rw[PU key,U9,ih,Vb (g:=fun b:Nat=>if(b:Int)=y.1 then(if y.2.1=2 then W y else 0)else 0) (Pm 12) y.1.toNat List.nodup_range (List.mem_range.2 (by omega)) fun b _ hne=>Nf (by omega),Nh (by omega)]
  by_cases e:y.2.1=2
  ·rw[Nh e,List.filter_cons_of_pos (by simpa using e),OA,VR]
  ·rw[Nf e,List.filter_cons_of_neg (by simpa using e)]
   omega
theorem Vf(h:Bs G)(fs:List Fl):cY (ej G fs)=Vg G:=by
 unfold Vg Vi cY ej;rw[Va (gL G) G.liv h.Gv fun x hx=>by have:=(h.lf hx).1.1;omega,VV];rfl
theorem U3(h:Bs G)(fs:List Fl):Vp (ej G fs)<=fs.length:=by
 have h1:∀L:List FV,eo L->∀fs:List Fl,((L.map fun l=>(fX fs l.1:Int)).sum<=fs.length):=by
  intro L hr fs;have:((L.map fun l=>fX fs l.1).sum<=fs.length):=by
   have hn:(L.map (·.1)).Nodup:=List.pairwise_map.2 (hr.imp fun h=>by omega);have e:(L.map fun l=>fX fs l.1)=(L.map (·.1)).map (fX fs):=by rw[VV];rfl
   rw[e];clear e;generalize L.map (·.1)=B at hn
   induction fs with
   |nil =>
    have:∀B:List Int,(B.map (fX [])).sum=0:=fun B=>by induction B with
     |nil=>rfl
     |cons b B ih=>rw[OA,VR,ih];rfl
    rw[this];exact Nx _
   |cons f fs ih =>
    have:∀B:List Int,B.Nodup->(B.map (fX (f::fs))).sum<=(B.map (fX fs)).sum+1/\(f.be∉ B->(B.map (fX (f::fs))).sum=(B.map (fX fs)).sum):=fun B hB=>by
     induction B with
     |nil=>exact⟨by simp,fun _=>rfl⟩
     |cons b B ihB =>
      obtain⟨n1,n2⟩:=List.nodup_cons.1 hB;obtain⟨i1,i2⟩:=ihB n2;simp only[OA,VR]
      by_cases e:f.be=b
      ·have i3:=i2 (by rw[e];exact n1)
       have:fX (f::fs) b=fX fs b+1:=List.countP_cons_of_pos (by simpa using e);exact⟨by omega,fun hh=>absurd (by rw[e];simp) hh⟩
      ·have:fX (f::fs) b=fX fs b:=List.countP_cons_of_neg (by simpa using e)
       exact⟨by omega,fun hh=>by have:=i2 (fun h=>hh (NB _ h));omega⟩
    have:=(this B hn).1;rw[List.length_cons];omega
  have e2:∀l:List FV,(l.map fun l=>(fX fs l.1:Int)).sum=((l.map fun l=>fX fs l.1).sum:Nat):=fun l=>by induction l with
   |nil=>rfl
   |cons a l ih=>rw[OA,VR,ih,OA,VR];omega
  rw[e2];omega
 unfold Vp ej;rw[VV];have hr:eo (G.liv.filter fun l=>l.2.1 == 2):=h.Gv.filter _;refine Int.le_trans ?_ (h1 _ hr fs);generalize (G.liv.filter fun l=>l.2.1 == 2)=L
 induction L with
 |nil=>exact Qh _
 |cons l L ih =>
  rw[OA,OA,VR,VR];have:((fun x:Ld=>if 0<x.2.1 then x.2.2 else 0) ∘ fun l:FV=>(l.1,gL G l,(fX fs l.1:Int))) l<=(fX fs l.1:Int):=by
   simp only[Function.comp]
   split <;> omega
  omega
theorem UZ(h:Bs G){key:Int}(hw:(pR G key).length<=12){fs:List Fl}(hfs:fs.length<=40) :
  (Vg G<=0/\dL G key fs=(0,11)) \/
  (0<Vg G/\∃b:Int,dL G key fs=(b,0)/\(0<=b/\b<12)/\aA G.liv b=2/\0<Vi G b/\(fX fs b:Int)<ns G.cfg.num G.cfg.den fs.length (Vi G b) (Vg G)):=by
 have hok:=h.Jt hfs;have ht:=Vf h fs;have hfl:=U3 h fs;unfold dL;rw[Vq hok (h.Jm hfs) h.cfg.2.2.2.1 hw,ht]
 by_cases h0:0<Vg G
 ·rw[Nh h0]
  obtain⟨i,hi,e,h1,h2⟩:=Vo hok (h.Jm hfs) (by rw[ht];exact h0) hfl (pR G key) G.cfg.tries.toNat
  rw[e];have hm:(ej G fs)[i]∈ej G fs:=Nk hi;obtain⟨l,hl,e2⟩:=List.mem_map.1 hm;obtain⟨hl,hs⟩:=List.mem_filter.1 hl;have h3:=(h.lf hl).1.1;have e3:aq G.liv l.1=l:=iZ h.Gv hl;have hs2:aA G.liv l.1=2:=by show(aq G.liv l.1).2.1=2;rw[e3];simpa using hs
  have e4:Vi G l.1=gL G l:=by unfold Vi;rw[Nh hs2,e3]
  rw[<-e2]at h1 h2;refine NF ⟨h0,l.1,?_,⟨h3.1,by omega⟩,hs2,by rw[e4];exact h2,?_⟩
  ·simp[gk,hi,<-e2]
  ·rw[e4,<-ht]
   unfold jp at h1;rw[Nf (by show ¬gL G l=0;have:0<gL G l:=h2;omega)]at h1;exact h1
 ·rw[Nf h0]
  exact Nt ⟨by omega,rfl⟩
end
section
variable {G:Gt}{c:Cf}
def Gv(X:Gt):Prop:=∀o∈X.out,o.kind=1\/o.kind=5->aA X.liv o.be=2
theorem Gv.GT(h:Gv X){o:Ou}(ho:o.kind=1\/o.kind=5->aA X.liv o.be=2):Gv (ge X o):=fun x hx hk=>by
 rcases List.mem_append.1 hx with hx|hx
 ·exact h x hx hk
 ·rw[List.mem_singleton.1 hx]at hk⊢;exact ho hk
theorem Gv.drain(h:Gv X)(hb:bX X.liv X.req)(d:Int):Gv (cj X d):=fun x hx hk=>by
 rw[U2 hb];unfold cj at hx
 split at hx
 ·rcases List.mem_append.1 hx with hx|hx
  ·exact h x hx hk
  ·rw[List.mem_singleton.1 hx]at hk
   rcases hk with hk|hk <;> cases hk
 ·exact h x hx hk
theorem Gv.ends(h:Gv X)(hb:Bs X)(f:Fl){k:Int}(hk:k=6\/k=7)(y:Int):Gv (dn X f k y):=by
 unfold dn;refine Gv.drain (Gv.GT ?_ ?_) ?_ _
 ·exact h
 ·intro h;rcases hk with rfl|rfl <;> rcases h with h|h <;> cases h
 ·exact hb.book
theorem Gv.Mg(h:Gv X)(hb:Bs X)(hi:i<X.fls.length)(y:Int):Gv (dP X i y):=by
 have b4:=(hb.F9 (Nk hi)).2.2.2;rcases pI hb hi y with⟨z,q,hz⟩|⟨b,q,hd,hr,h2,hc,_⟩
 ·rw[q];exact Gv.ends (X:=dg X X.fls[i].be Nw) h (hb.GA b4 Nw) _ (Nt rfl) _
 ·obtain⟨T,e⟩:=KA (G:={dg X X.fls[i].be Nw with tok:=X.tok-X.cfg.bd}) hi b
  rw[q,e];refine Gv.drain (Gv.GT ?_ ?_) ?_ _
  ·exact h
  ·exact fun _=>h2
  ·exact hb.book
theorem Vc(hm:Wm G)(ho:G.out=[]){e:Ev}(he:fB e)(h7:e.kind=7->G.now+1<=1099511626776):Gv (iG G e)/\∀o∈(iG G e).out,o.kind=1\/o.kind=5->e.kind=7\/aA G.liv o.be=2:=by
 have hb:=hm.im.bs;have h0:Gv G:=fun o h=>by rw[ho]at h;cases h
 have hrest:(e.kind≠7->e.kind≠5->e.kind≠6->∀b,aA (iG G e).liv b=2->aA G.liv b=2)->(e.kind=5\/e.kind=6->∀o∈(iG G e).out,¬(o.kind=1\/o.kind=5))->Gv (iG G e)->Gv (iG G e)/\∀o∈(iG G e).out,o.kind=1\/o.kind=5->e.kind=7\/aA G.liv o.be=2:=fun h1 h2 h3=>by
  refine⟨h3,fun o hx hk=>?_⟩
  by_cases k7:e.kind=7
  ·exact Nt k7
  ·by_cases k56:e.kind=5\/e.kind=6
   ·exact absurd hk (h2 k56 o hx)
   ·exact NF (h1 k7 (fun h=>k56 (Nt h)) (fun h=>k56 (NF h)) _ (h3 o hx hk))
 have hreply:∀kd,Gv (fO G kd e):=fun kd x hx hk=>by
  rcases List.mem_append.1 (show x∈G.out++[_]from hx)with hx|hx
  ·rw[ho]at hx;cases hx
  ·rw[List.mem_singleton.1 hx]at hk
   rcases hk with hk|hk <;> cases hk
 have hno:∀X:Gt,(∀o∈X.out,¬(o.kind=1\/o.kind=5))->Gv X:=fun X h o hx hk=>absurd hk (h o hx)
 have hask:∀kd,∀o∈(fO G kd e).out,¬(o.kind=1\/o.kind=5):=fun kd x hx hk=>by
  rcases List.mem_append.1 (show x∈G.out++[_]from hx)with hx|hx
  ·rw[ho]at hx;cases hx
  ·rw[List.mem_singleton.1 hx]at hk
   rcases hk with hk|hk <;> cases hk
 have hret:∀o∈(nC G e).out,¬(o.kind=1\/o.kind=5):=by
  have hg:∀X:Gt,(∀o∈X.out,¬(o.kind=1\/o.kind=5))->∀b r,∀o∈(lk X b r).out,¬(o.kind=1\/o.kind=5):=fun X h b r o hx hk=>by
   rcases List.mem_append.1 hx with hx|hx
   ·exact h o hx hk
   ·rw[List.mem_singleton.1 hx]at hk
    rcases hk with hk|hk <;> cases hk
  unfold nC
  split
  ·exact hask 2
  ·split
   ·exact hg _ (hask 2) _ _
   ·unfold cj
    split
    ·exact hg _ (hask 2) _ _
    ·exact hask 2
 by_cases k1:e.kind=1
 ·have e1:iG G e=mA G e.key:=by unfold iG;rw[Nh k1]
  refine hrest (fun _ _ _ b hb2=>?_) (fun h=>absurd h (by omega)) ?_
  ·rw[e1]at hb2
   rcases J7 hb he.key with⟨q,_⟩|⟨q,_⟩|⟨k,hlt,_,_,hc,_,_,hg,_,q⟩ <;> (rw[q]at hb2;exact hb2)
  ·rw[e1]
   rcases J7 hb he.key with⟨q,_⟩|⟨q,_⟩|⟨k,hlt,_,hs,hc,_,_,hg,_,q⟩
   ·rw[q];exact h0.GT (fun h=>by rcases h with h|h <;> cases h)
   ·rw[q];exact h0.GT (fun h=>by rcases h with h|h <;> cases h)
   ·rw[q]
    refine Gv.GT ?_ ?_
    ·exact h0
    ·exact fun _=>hs
 ·by_cases k5:e.kind=5
  ·have e1:iG G e=fO G 1 e:=by unfold iG;rw[Nf k1,Nh k5]
   exact hrest (fun _ h=>absurd k5 h) (fun _=>by rw[e1];exact hask 1) (by rw[e1];exact hno _ (hask 1))
  ·by_cases k6:e.kind=6
   ·have e1:iG G e=nC G e:=by unfold iG;rw[Nf k1,Nf k5,Nh k6]
    exact hrest (fun _ _ h=>absurd k6 h) (fun _=>by rw[e1];exact hret) (by rw[e1];exact hno _ hret)
   ·by_cases k7:e.kind=7
    ·have e1:iG G e=mK G:=by unfold iG;rw[Nf k1,Nf k5,Nf k6,Nh k7]
     refine hrest (fun h=>absurd k7 h) (fun h=>absurd h (by omega)) ?_;rw[e1];refine KG (R:=Gv) hm (h7 k7) ?_ (fun X f y hX hf hy hR=>hR.ends hX.bs _ (Nt rfl) _) (fun X i hX hi _ hR=>hR.Mg hX.bs hi _);have e6:(J1 G).out=G.out:=(yj (hb.next (h7 k7))).2.2.2.2.1;intro o h;rw[e6,ho]at h;cases h
    ·have e1:iG G e=mW G e:=by unfold iG;rw[Nf k1,Nf k5,Nf k6,Nf k7]
     have hdr:∀X d,bX X.liv X.req->X.liv=G.liv->∀b,aA (cj X d).liv b=2->aA G.liv b=2:=fun X d h1 h2 b h3=>by
      rw[<-h2];exact(U2 h1 d b).1 h3
     refine hrest (fun _ _ _ b hb2=>?_) (fun h=>absurd h (by omega)) ?_
     ·rw[e1]at hb2
      rcases Kt hb e with⟨hc,q⟩|⟨i,hi,_,_,_,⟨_,q⟩|⟨_,q⟩|⟨_,_,⟨_,q⟩|⟨_,_,q⟩|⟨hv,_,q⟩⟩⟩
      ·rw[q]at hb2;exact hb2
      ·rw[q]at hb2
       unfold dn at hb2;refine hdr _ _ ?_ ?_ b hb2
       ·exact hb.book
       ·rfl
      ·obtain⟨T,e2⟩:=Ku hi
       rw[q,e2]at hb2;exact hb2
      ·rw[q]at hb2;exact hb2
      ·obtain⟨T,e2⟩:=KC hi
       rw[q,e2]at hb2;exact hb2
      ·rw[q]at hb2
       rcases pI hb hi 3 with⟨z,q,hz⟩|⟨d,q,hd,hr,h2,hc,_⟩
       ·rw[q]at hb2
        unfold dn at hb2;refine hdr _ _ ?_ ?_ b hb2
        ·exact hb.book
        ·rfl
       ·obtain⟨T,e⟩:=KA (G:={dg G G.fls[i].be Nw with tok:=G.tok-G.cfg.bd}) hi d
        rw[q,e]at hb2;refine hdr _ _ ?_ ?_ b hb2
        ·exact hb.book
        ·rfl
     ·rw[e1]
      rcases Kt hb e with⟨hc,q⟩|⟨i,hi,_,_,_,⟨_,q⟩|⟨_,q⟩|⟨_,_,⟨_,q⟩|⟨_,_,q⟩|⟨hv,_,q⟩⟩⟩
      ·rw[q];exact h0.GT (fun h=>by rcases h with h|h <;> cases h)
      ·rw[q];exact h0.ends hb _ (NF rfl) _
      ·obtain⟨T,e2⟩:=Ku hi
       rw[q,e2];refine Gv.GT ?_ ?_
       ·exact h0
       ·exact fun h=>by rcases h with h|h <;> cases h
      ·rw[q];exact h0.GT (fun h=>by rcases h with h|h <;> cases h)
      ·obtain⟨T,e2⟩:=KC hi
       rw[q,e2];refine Gv.GT ?_ ?_
       ·exact h0
       ·exact fun h=>by rcases h with h|h <;> cases h
      ·rw[q];exact h0.Mg hb hi _
theorem JM.VN{s:Sp}(h:JM c s)(hw:s.ev.kind=1->(pR s.bef s.ev.key).length<=12){o:Ou}(ho:o∈s.out)(hk:o.kind=1\/o.kind=5) :
  aA s.aft.liv o.be=2/\(s.ev.kind=7\/aA s.bef.liv o.be=2)/\(0<=o.be/\o.be<12)/\(o.kind=1->(s.bef.hea.getD o.be.toNat bm).out=Nb):=by
 have hb:=h.wm.im.bs;have hE:=D5 h.ev;obtain⟨g1,g2⟩:=Vc h.wm h.out0 hE h.late;have ho':o∈(iG s.bef s.ev).out:=by rw[<-h.out];exact ho
 refine⟨by rw[h.aft];exact g1 o ho' hk,g2 o ho' hk,?_,fun h1=>?_⟩
 ·refine h.Jl (Q:=fun o=>o.kind=1\/o.kind=5->0<=o.be/\o.be<12) ⟨fun b r h=>?_,fun x s g b y _ _ _ h3 _ _=>h3,fun _ s g b _ _ h3 _=>h3,fun _ c _ h=>?_,fun _ c _ h=>?_,fun _ r c h=>?_⟩ o ho hk
  all_goals (rcases h with h|h <;> cases h)
 ·have k1:s.ev.kind=1:=by
   refine PM fun hn=>?_
   refine h.Jl (Q:=fun o=>o.kind≠1) ⟨fun _ _=>by simp,fun x s g b y hx _ _ _ _=>?_,fun h=>absurd h hn,fun h=>absurd h hn,fun _ _ _=>by simp,fun _ _ _=>by simp⟩ o ho h1;show x≠1;omega
  have e1:iG s.bef s.ev=mA s.bef s.ev.key:=by unfold iG;rw[Nh k1]
  rw[e1]at ho';rcases J7 hb hE.key with⟨q,_⟩|⟨q,_⟩|⟨k,hlt,hc0,hs,hc,_,_,hg,_,q⟩
  ·rw[q]at ho'
   rcases List.mem_append.1 (show o∈s.bef.out++[_]from ho')with hx|hx
   ·rw[h.out0]at hx;cases hx
   ·rw[List.mem_singleton.1 hx]at h1;cases h1
  ·rw[q]at ho'
   rcases List.mem_append.1 (show o∈s.bef.out++[_]from ho')with hx|hx
   ·rw[h.out0]at hx;cases hx
   ·rw[List.mem_singleton.1 hx]at h1;cases h1
  ·rw[q]at ho'
   rcases List.mem_append.1 (show o∈s.bef.out++[_]from ho')with hx|hx
   ·rw[h.out0]at hx;cases hx
   ·rw[List.mem_singleton.1 hx]
    show(s.bef.hea.getD (dL s.bef s.ev.key s.bef.fls).1.toNat bm).out=Nb;rcases UZ hb (hw k1) hb.Gb with⟨_,h3⟩|⟨_,b,h3,_,h5,h4,_⟩
    ·rw[h3]at hc0;cases hc0
    ·rw[h3]
     unfold Vi gL at h4;rw[Nh h5,(kQ (L:=s.bef.liv) (b:=b) (by rw[h5];decide)).2]at h4;cases hq:(s.bef.hea.getD b.toNat bm).out
     ·rfl
     ·rw[hq]at h4;simp at h4
end
section
variable {G:Gt}
theorem U0(h:Im G):(qU G).out.length<=G.out.length+960:=by
 have h1:=(rm G.liv G G.liv.length h (MV _)).2.2;rw[NT]at h1;have h2:G.liv.length<=12:=h.bs.book.1.1;show(G.liv.foldl dV G).out.length<=_;omega
theorem Ve(h:Wm G)(hn:G.now+1<=1099511626776):(mK G).out.length<=G.out.length+1040:=by
 have h1:=h.im.next hn;obtain⟨s1,s2,s3,s4,s5,_⟩:=yj h1.bs;have h2:=h1.Jf;have h3:=h2.I2;have hnow:(lU (eE {G with now:=G.now+1})).now=G.now+1:=s1;have hwn:(lU (eE {G with now:=G.now+1})).wnow=G.now:=s2.trans h.wnow;obtain⟨g1,_⟩:=h3.Je (by rw[hwn,hnow]) (fun f hf=>by
  have hf:f∈(eE {G with now:=G.now+1}).fls:=hf;rw[s3]at hf;rw[hwn];exact h.due f hf)
 have e1:=U0 g1;have e2:=zc h3.bs;have e3:(lU (eE {G with now:=G.now+1})).out.length=G.out.length:=congrArg List.length s5;show(qU _).out.length<=_;omega
theorem Vd(hm:Wm G)(e:Ev)(h7:e.kind=7->G.now+1<=1099511626776):(iG G e).out.length<=G.out.length+1040:=by
 unfold iG
 split
 ·unfold mA
  split
  ·simp[kY,ge]
  ·simp only[]
   split
   ·simp[kY,ge]
   ·simp[jD,iA,ge,dU]
 ·split
  ·simp[fO,ge]
  ·split
   ·unfold nC
    split
    ·simp[fO,ge]
    ·split
     ·simp[lk,fO,ge]
     ·refine Nm (tm _) ?_
      simp[fO,ge]
   ·split
    ·rename_i h
     exact Ve hm (h7 h)
    ·unfold mW
     simp only[]
     split
     ·simp[kY,ge]
     ·split
      ·exact Nm (lX _ _ _) (by omega)
      ·split
       ·unfold mV
        simp only[]
        split <;> simp[iA,ge,dU,eT]
       ·split
        ·simp[kY,ge]
        ·split
         ·simp[mX,iA,ge,dU,eT,dg]
         ·exact Nm (wS _ _) (by omega)
theorem JM.VO{c:Cf}{s:Sp}(h:JM c s):s.out.length<=1040:=by
 rw[h.out];have:=Vd h.wm s.ev h.late;rw[h.out0]at this
 simpa using this
end
theorem U4:∀(n:Nat) (l:List Int),l.Nodup->(∀x∈l,0<=x/\x<(n:Int))->l.length<=n
 |0,l,_,h=>by
  cases l with
  |nil=>simp
  |cons x l=>have:=h x (by simp);omega
 |n+1,l,hd,h=>by
  have h1:=U4 n (l.erase n) (hd.erase _) fun x hx=>by
   obtain⟨h2,h3⟩:=(hd.mem_erase_iff).1 hx;have:=h x h3;omega
  rw[List.length_erase]at h1
  split at h1 <;> omega
theorem Vh(G:Gt)(key:Int):(pR G key).length<=12:=U4 12 _ (Vy _ _) fun x hx=>by
 obtain⟨t,ht,e⟩:=(Vx _ _ _).1 hx;obtain⟨b,i,h1,_,rfl⟩:=ln.1 ht;simp only at e;omega
abbrev VH:List Value:=[MF ME 0,MF ME 0,MF ME 0,MF ME 0,M3 Nb,MF ME 0,MF ME 0,MF ME 0,MF ME 0,MF ME 0,MF ME 0,MF ME 0,MF ME 0,MF ME 0,MF ME 0,MF ME 0,MF ME 0,MF ME 0,MF ME 0,MF ME 0,MF ME 0,MF ME 0,MF ME 0,MF ME 0,MF ME 0,MG MH 0 0,MG MH 0 0,MG MH 0 0,MG MH 0 0,MG MH 0 0,MG MH 0 0,MF ME 0,MF ME 0,MG MH 0 0,MF ME 0,MF ME 0,MF ME 0,MF ME 0,MF ME 0,MF ME 0,MF ME 0,MF ME 0,MF ME 0,MF ME 0,MF ME 0,MF ME 0,MF ME 0,MF ME 0,MF ME 0,MF ME 0,MF ME 0,MG MH 0 0,MG MH 0 0,MG MH 0 0,MG MH 0 0,MG MH 0 0,MG MH 0 0,MF ME 0,MF ME 0,MG MH 0 0,MG MH 0 0]
theorem VD:(Tryz.prog.info? 72).map (·.size)=MI 61:=by kernel_rfl
theorem Jz.Gm{base:Nat}{g:Nat}{V:Pv}{c:Cf}{P:Py}(h:Jz base w g V c P):w.cell? ⟨g,16,MH⟩=MI (MG V.ps P.steps.length V.cs):=by
 rw[MW w g 16 _ _ (0,0) h.box,h.steps];rfl
structure Vz(W:MO)(ps:Option Oc)(k:Nat)(q:Sq)(b o:Nat):Prop where
 at_:ps=MI ⟨b,o,MH⟩
 cells:W.rangeAt b (o+k*61) (JU q)
 rd:Kh W q
theorem JD.step{W:MO}{g:Nat}{V:Pv}{c:Cf}{P:Py}(h:JD w W g V c P){k:Nat}(hk:k<P.steps.length):∃q b o,Vz W V.ps k q b o/\P.steps[k]?=MI q.s/\JM c q.s:=by
 have hl:=h.pat.steps;have hkq:k<V.qs.length:=by omega
 have hrv:bj JU W (MG V.ps V.qs.length V.cs) V.qs:=gZ h.pat.rows;obtain⟨a,cap,hv,_,_,hp⟩:=bj.F6 LV hrv;injection hv with q1 _ _;obtain⟨b,o,ha,hb,hc⟩:=hp k hkq;have e:P.steps[k]?=MI V.qs[k].s:=by rw[<-h.pat.eqs,List.getElem?_map,MR hkq];rfl
 refine⟨V.qs[k],b,o,⟨q1.trans ha,fun j v hv=>?_,(h.pat.all _ (Nk hkq)).now⟩,e,h.rn.runs.chain _ (List.mem_of_getElem? e)⟩;have hj:j<61:=(List.getElem?_eq_some_iff.1 hv).1;rw[hc j hj];exact hv
structure VA(W:MO)(b:Nat)(q:Sq):Prop where
 box:W.heap[b]?=MI (MP (JU q).toArray 72 (0,0))
 rd:Kh W q
theorem Kh.below{W Y:MO}{q:Sq}(h:Kh W q)(hb:MQ W.heap.size W Y):Kh Y q:=⟨h.1.below hb,h.2.1.below hb,h.2.2.below hb⟩
theorem VA.on{W Y:MO}{b:Nat}{q:Sq}(h:VA W b q)(hb:MQ W.heap.size W Y):VA Y b q:=⟨af h.box hb,h.rd.below hb⟩
theorem VG(q:Sq):(JU q).toArray.all (·.oneCell')=true:=by
 apply all_oneCell_toArray;exact LU q
theorem Vz.box{W:MO}{ps:Option Oc}{k:Nat}{q:Sq}{b o:Nat}(h:Vz W ps k q b o):∃Y,Y=(W.alloc (MP VH.toArray 72)).setCells W.heap.size 0 (JU q)/\VA Y W.heap.size q/\MQ W.heap.size W Y/\(W.alloc (MP VH.toArray 72)).there W.heap.size 0 (JU q).toArray.size:=by
 have hZ:(W.alloc (MP VH.toArray 72)).heap[W.heap.size]?=MI (MP VH.toArray 72 (0,0)):=M1 _ _;have hB:MQ W.heap.size W ((W.alloc (MP VH.toArray 72)).setCells W.heap.size 0 (JU q)):=tW (ai W) (MV _) _ _ (by simp);exact⟨_,rfl,⟨KM hZ rfl,h.rd.below hB⟩,hB,(show(W.alloc (MP VH.toArray 72)).there W.heap.size 0 (JU q).toArray.size from sF (old:=VH) hZ)⟩
theorem VA.F7{W:MO}{b:Nat}{q:Sq}(h:VA W b q)(j:Nat):W.cell? ⟨b,j,MH⟩=(JU q)[j]?:=by
 rw[MW W b j _ _ (0,0) h.box];simp
theorem VF(f:Nat->Int)(hf:∀i,i<16->(Lit.int ME (f i)).wf=Nw)(ds:List Dd)(hds:∀d∈ds,Kg d){pd:Option Oc}{cd:Nat}(hrow:bj Ka w (MG pd ds.length cd) ds)(hblk:aK w)(most:Nat)(hm:most<=100):
  ∃L:List M7,L.length=16/\BD (f 0) (f 1) (f 2) (f 3) (f 4) (f 5) (f 6) (f 7) (f 8) (f 9) (f 10) (f 11) (f 12) (f 13) (f 14) (f 15)=Ny L.toArray/\∀W,MQ w.heap.size w W->Ni MK 18 #[Ny L.toArray,MG pd ds.length cd,MF ME (most:Int)] W (Lq f most W):=
 ⟨[MF ME (f 0),MF ME (f 1),MF ME (f 2),MF ME (f 3),MF ME (f 4),MF ME (f 5),MF ME (f 6),MF ME (f 7),MF ME (f 8),MF ME (f 9),MF ME (f 10),MF ME (f 11),MF ME (f 12),MF ME (f 13),MF ME (f 14),MF ME (f 15)],rfl,rfl,fun W hB=>L6 f hf ds hds W (hrow.below hB) (hblk.below hB) most hm⟩
theorem VE{W:MO}{p:Option Oc}{c:Nat}{L:List Ou}(h:bj gT W (MG p L.length c) L)(hi:i<L.length):
  ∃b o,p=MI ⟨b,o,MH⟩/\W.cell? ⟨b,o+i*7,MH⟩=MI (MF ME L[i].kind)/\W.cell? ⟨b,o+i*7+1,MH⟩=MI (MF ME L[i].slot)/\W.cell? ⟨b,o+i*7+2,MH⟩=MI (MF ME L[i].gen)/\W.cell? ⟨b,o+i*7+3,MH⟩=MI (MF ME L[i].be)/\W.cell? ⟨b,o+i*7+4,MH⟩=MI (MF ME L[i].req)/\W.cell? ⟨b,o+i*7+5,MH⟩=MI (MF ME L[i].code)/\W.cell? ⟨b,o+i*7+6,MH⟩=MI (MF ME L[i].why):=by
 obtain⟨a,cap,hv,_,_,hp⟩:=bj.F6 Bq h;injection hv with q1 _ _;obtain⟨b,o,ha,_,hc⟩:=hp i hi;exact⟨b,o,q1.trans ha,hc 0 (by omega),hc 1 (by omega),hc 2 (by omega),hc 3 (by omega),hc 4 (by omega),hc 5 (by omega),hc 6 (by omega)⟩
theorem VI{L:List FV}{b:Int}{k:Nat}(hk:k<L.length)(h:∀t∈L.take k,t.1≠b)(e:L[k].1=b):aA L b=L[k].2.1:=by
 unfold aA aq;have:L.find? (fun x=>x.1 == b)=MI L[k]:=by
  rw[List.find?_eq_some_iff_getElem];refine⟨by simpa using e,k,hk,rfl,fun j hj=>?_⟩;have:=h L[j] (List.mem_iff_getElem.2 ⟨j,by simp;omega,by simp⟩)
  simpa using this
 rw[this];rfl
theorem VJ{L:List FV}{b:Int}(h:∀t∈L,t.1≠b):aA L b=0:=by
 show(aq L b).2.1=0;rw[tP h]
theorem VK{W:MO}{M:List M7}{U:Us}{G:Gt}(hM:M=(ef U G).toList)(h:aF W U G)(b:Int):Ni MK 20 #[Ny M.toArray,MF ME b] W fun r w'=>r=MN (MF ME (aA G.liv b))/\MQ W.heap.size W w':=by
 obtain⟨Y,hY⟩:∃Y,Y=W.alloc (MP M.toArray 49):=⟨_,rfl⟩;have hYb:MQ W.heap.size W Y:=by rw[hY];exact ai W
 have hYx:Y.heap[W.heap.size]?=MI (MP M.toArray 49 (0,0)):=by rw[hY];exact M1 _ _
 have c19:Y.cell? ⟨W.heap.size,19,MH⟩=MI (MG U.pl G.liv.length U.cl):=by rw[MW Y _ 19 _ _ (0,0) hYx,hM];rfl
 obtain⟨a,cap,hv,hca,hmx,hp⟩:=jH.F6 (h.book.1.below hYb);injection hv with q1 q2 q3;obtain⟨m,hm⟩:∃m,m=G.liv.length:=⟨_,rfl⟩;rw[<-hm]at c19;have hmb:m<=9223372036854775807:=by rw[hm];unfold maxLen at hmx;omega
 obtain⟨s,hs⟩:∃s,s=aA G.liv b:=⟨_,rfl⟩;rw[<-hs];have HP:M6 (_/\_/\_/\_/\_):=⟨hp,q1,hm,hYb,hs⟩;clear hYx hp q1 q2 q3 hm hmx hca h hM hYb hs;go_enter Tryz.func20,Tryz.ntmps20;go_wp2;rw[<-hY];clear hY
 go_loopw [5] (fun i wr=>∃k:Nat,i=MF ME (k:Int)/\k<=m/\M6 (∀t∈G.liv.take k,t.1≠b)/\wr=Y) (fun i _=>m-(intOf i).toNat)
 case atStart=>exact⟨0,rfl,Nx _,(fun t ht=>absurd ht (by simp)),rfl⟩
 case round =>
  obtain⟨k,rfl,hk,HA,rfl⟩:=hrel
  by_cases hlt:k<m
  ·have hkI:(k:Int)<(m:Int):=by omega
   have hkl:k<G.liv.length:=by rw[<-HP.out.2.2.1];exact hlt
   obtain⟨bo,oo,ha,hb,hc⟩:=HP.out.1 k hkl;have e0:wr.cell? ⟨bo,oo+k*6,MH⟩=MI (MF ME G.liv[k].1):=hc.1;have e1:wr.cell? ⟨bo,oo+k*6+1,MH⟩=MI (MF ME G.liv[k].2.1):=hc.2.1;have htk:G.liv.take (k+1)=G.liv.take k++[G.liv[k]]:=List.take_succ_eq_append_getElem hkl;have hfd:=fun e=>VI hkl HA.out e
   obtain⟨x,hx⟩:∃x,x=G.liv[k]:=⟨_,rfl⟩;rw[<-hx]at e0 e1 htk hfd;rw[HP.out.2.1,ha]at c19;have HX:M6 (_/\_):=⟨htk,hfd⟩;clear hc hb ha hkl hx htk hfd
   by_cases hq:x.1=b
   ·have hq':(x.1 == b)=true:=by simp[hq]
    have HE:M6 (s=x.2.1):=HP.out.2.2.2.2.trans (HX.out.2 hq);clear hq;go_wp2;go_ret;exact⟨by rw[HE.out];rfl,HP.out.2.2.2.1⟩
   ·have hq':(x.1 == b)=false:=by simp[hq]
    go_wp2
    go_roundw
    case rel =>
     refine⟨k+1,by simp,hlt,?_,trivial⟩;intro t ht;rw[HX.out.1]at ht;rcases List.mem_append.1 ht with ht|ht
     ·exact HA.out t ht
     ·rw[List.mem_singleton.1 ht];exact hq
    case measure=>simp[intOf];omega
  ·obtain rfl:k=m:=by omega
   have hkI:¬(k:Int)<(k:Int):=by omega
   have HE:M6 (s=0):=HP.out.2.2.2.2.trans (VJ fun t ht=>HA.out t (by rw[HP.out.2.2.1,NT];exact ht));go_wp2;go_ret;exact⟨by rw[HE.out];rfl,HP.out.2.2.2.1⟩
theorem VC{W:MO}{U:Us}{G:Gt}(h:aF W U G){b:Nat}(hb:b<12):∃bo oo,U.ph=MI ⟨bo,oo,MH⟩/\bo<W.heap.size/\12<=U.ch/\U.ch<=9223372036854775807/\W.cell? ⟨bo,oo+b*4+1,MH⟩=MI (M3 (G.hea.getD b bm).out)/\W.cell? ⟨bo,oo+b*4+2,MH⟩=MI (MF ME (G.hea.getD b bm).till):=by
 have hl:(U.ms.zip G.hea).length=12:=by rw[List.length_zip,h.msl,h.hel];rfl
 obtain⟨a,cap,hv,hc1,hc2,hp⟩:=bj.F6 ii h.hea;injection hv with q1 _ q3;have hbz:b<(U.ms.zip G.hea).length:=by rw[hl];exact hb
 obtain⟨bo,oo,ha,hlt,hc⟩:=hp b hbz;have e:(U.ms.zip G.hea)[b].2=G.hea.getD b bm:=by
  rw[List.getElem_zip,List.getD_eq_getElem?_getD,MR (by rw[h.hel];exact hb)];rfl
 refine⟨bo,oo,q1.trans ha,hlt,by rw[q3,<-hl];exact hc1,by rw[q3];unfold maxLen at hc2;exact hc2,?_,?_⟩
 ·rw[<-e];exact hc 1 (by omega)
 ·rw[<-e];exact hc 2 (by omega)
theorem VM{P:Program}{ops:Array Oper}{rest:List Oper}{op:Oper}{a:Act}{Q:Exit->Act->MO->Prop}(hw:Region.wanted op (yielded ops a.tmps)=Nw)(ty:TypeId)(x:Operand)(ho:op.op=.load ty x)
  (b o:Nat) (hx:a.eval x=Value.pointer (MI ⟨b,o,MH⟩)) (cs:List M7) (d:TypeDesc) (hc:w.rangeAt b o cs) (hu:P.underlying ty=MI d) (hd:d.isRow=Nw) (hi:(P.info? ty).map (·.size)=MI cs.length)
  (h:wpList P ops Q rest (a.put op.dst (Ny cs.toArray)) w):wpList P ops Q (op::rest) a w :=
 wpList_step fun _ hK=>by
  rw[Nh hw];exact wp_load_mid ty x ho b o hx cs d hc hu hd hi (hK _ _ h)
structure VB(W:MO)(b:Nat)(q:Sq)(M L:List M7):Prop where
 sb:VA W b q
 e1:M=(ef q.u q.s.bef).toList
 e2:L=(ef q.v q.s.aft).toList
section
variable {W Y:MO}{b:Nat}{q:Sq}{M L:List M7}
theorem VB.on(h:VB W b q M L)(hb:MQ W.heap.size W Y):VB Y b q M L:=⟨h.sb.on hb,h.e1,h.e2⟩
theorem VB.lt(h:VB W b q M L):b<W.heap.size:=(Array.getElem?_eq_some_iff.1 h.sb.box).1
theorem VB.r1(h:VB W b q M L):W.rangeAt b 8 M:=fun j v hv=>by
 rw[h.e1]at hv;have hj:j<26:=(List.getElem?_eq_some_iff.1 hv).1;rw[h.sb.F7 (8+j)];unfold JU;rw[Tw (show 8<=8+j by omega),show 8+j-(JN q.s.ev).length=j from VU 8 j,OJ (show j<26 from hj)];exact hv
theorem VB.r2(h:VB W b q M L):W.rangeAt b 34 L:=fun j v hv=>by
 rw[h.e2]at hv;have hj:j<26:=(List.getElem?_eq_some_iff.1 hv).1;rw[h.sb.F7 (34+j)];unfold JU;rw[<-List.append_assoc,Tw (show 34<=34+j by omega),show 34+j-(JN q.s.ev++(ef q.u q.s.bef).toList).length=j from VU 34 j,OJ (show j<26 from hj)];exact hv
theorem VB.i1(h:VB W b q M L):(Tryz.prog.info? 49).map (·.size)=MI M.length:=by rw[h.e1];exact iN
theorem VB.i2(h:VB W b q M L):(Tryz.prog.info? 49).map (·.size)=MI L.length:=by rw[h.e2];exact iN
theorem VB.VP(h:VB W b q M L)(x:Int):Ni MK 20 #[Ny M.toArray,MF ME x] W fun r w'=>r=MN (MF ME (aA q.s.bef.liv x))/\MQ W.heap.size W w':=VK h.e1 h.sb.rd.1 x
theorem VB.VQ(h:VB W b q M L)(x:Int):Ni MK 20 #[Ny L.toArray,MF ME x] W fun r w'=>r=MN (MF ME (aA q.s.aft.liv x))/\MQ W.heap.size W w':=VK h.e2 h.sb.rd.2.1 x
end
theorem VL(f:Nat->Int)(hf:∀i,i<16->(Lit.int ME (f i)).wf=Nw)(ds:List Dd)(hds:∀d∈ds,Kg d){pd:Option Oc}{cd:Nat}(hrow:bj Ka w (MG pd ds.length cd) ds)(hB:aK w):
  Ni MK 5 #[BD (f 0) (f 1) (f 2) (f 3) (f 4) (f 5) (f 6) (f 7) (f 8) (f 9) (f 10) (f 11) (f 12) (f 13) (f 14) (f 15),MG pd ds.length cd] w fun r w'=>r=MN (M3 Nw)/\MQ w.heap.size w w':=by
 obtain⟨L,hL,eL,hpl⟩:=VF f hf ds hds hrow hB 60 (by omega);rw[eL];obtain⟨W0,hW0⟩:∃W0,W0=w.alloc (MP L.toArray 24):=⟨_,rfl⟩;have hb0:MQ w.heap.size w W0:=by rw[hW0];exact ai w
 have HI:M6 (_/\_/\_):=⟨hL,hb0,hpl W0 hb0⟩;obtain⟨nd,hnd⟩:∃nd,nd=ds.length:=⟨_,rfl⟩;rw[<-hnd]at HI⊢;clear hL eL hpl hb0 hf hds hrow hB hnd;go_enter Tryz.func5,Tryz.ntmps5
 go_wp2_with ((with_reducible refine O3 rfl 24 (O6 2) rfl w.heap.size 0 ?gx L _ ?gc Tryz.underlying24 ?gd ?gi ?_);(case gx=>rfl);(case gc=>exact J8 (M1 _ _));(case gd=>rfl);(case gi=>rw[HI.out.1];exact K0))
 rw[<-hW0];clear hW0;refine Calls.mono HI.out.2.2 ?_;rintro r w1 ⟨g,V,c,P,rfl,hS,hcx,hn4,hnm,hk3⟩;obtain⟨n,hn⟩:∃n,n=P.steps.length:=⟨_,rfl⟩;have HS:M6 (_/\_/\_/\_/\_):=⟨hS,hcx,hn,(show n<=60+4 by omega),hk3⟩;have hB1:=HI.out.2.1.trans (hS.bel.mono HI.out.2.1.size);have HB:M6 _:=hB1;clear hS hcx hn4 hnm hk3 hn HI hB1
 go_wp2_with fail
 go_loopw [7,8,9,10] (fun i _ _ _ wr=>∃k:Nat,i=MF ME (k:Int)/\k<=n/\M6 (MQ w1.heap.size w1 wr)) (fun i _ _ _ _=>n-(intOf i).toNat)
 case atStart=>exact⟨0,rfl,Nx _,RowKit.Below.refl _ _⟩
 case round =>
  obtain⟨k,rfl,hk,HW⟩:=hrel;have hSr:=HS.out.1.on HW.out;have c16:wr.cell? ⟨g,16,MH⟩=MI (MG V.ps n V.cs):=by rw[HS.out.2.2.1];exact hSr.pat.Gm
  have hgl:=hSr.pat.lt
  by_cases hlt:k<n
  ·have hkI:(k:Int)<(n:Int):=by omega
   have hnb:n<=9223372036854775807:=by have:=HS.out.2.2.2.1;omega
   obtain⟨q,b,o,hq,hst,hok⟩:=hSr.step (k:=k) (by rw[<-HS.out.2.2.1];exact hlt);obtain⟨Y,hY,hSB,hYb,hth⟩:=hq.box;obtain⟨R,hR⟩:∃R,R=JU q:=⟨_,rfl⟩;have hat:=hq.at_;have hcs:=hq.cells;rw[<-hR]at hY hth hcs;have HQ:M6 (_/\_/\_/\_/\_/\_):=⟨hcs,hth,hY,hR,HW.out.trans (hYb.mono HW.out.size),(show R.length=61 by rw[hR];rfl)⟩;have HT:M6 (_/\_/\_/\_):=⟨hst,hok,hSB,hYb⟩;clear hq hst hok hY hSB hYb hth hR hcs;rw[hat]at c16;clear hat
   clear hSr;obtain⟨M,M2,hTw⟩:∃M M2,VB Y wr.heap.size q M M2:=⟨_,_,HT.out.2.2.1,rfl,rfl⟩;obtain⟨m,hm⟩:∃m,m=q.s.out.length:=⟨_,rfl⟩;have hmb:m<=9223372036854775807:=by have h1:=HT.out.2.1.VO;omega
   have HM:M6 (_/\_):=⟨hm,hTw⟩;clear hm hTw
   go_wp2_with (first|((with_reducible refine O3 rfl 72 (O6 31) rfl b (o+k*61) ?gx R _ ?gc Tryz.underlying72 ?gd ?gi ?_);(case gx=>rfl);(case gc=>exact HQ.out.1);(case gd=>rfl);(case gi=>rw[HQ.out.2.2.2.2.2];exact VD))|((with_reducible refine wpList_store_mid rfl 72 (O6 8) (O6 32) rfl wr.heap.size 0 R.toArray ?sx ?sy ?st ?si ?s1 ?_);(case sx=>rfl);(case sy=>rfl);(case st=>exact HQ.out.2.1);(case si=>rw[List.size_toArray,HQ.out.2.2.2.2.2];exact VD);(case s1=>rw[HQ.out.2.2.2.1];exact VG q);rw[List.toList_toArray,<-HQ.out.2.2.1]))
   obtain⟨B8,hB8⟩:∃B8,B8=wr.heap.size:=⟨_,rfl⟩;rw[<-hB8];rw[<-hB8]at HM;clear hB8 c16 hgl
   go_loopw [9,10] (fun i _ wr=>∃j:Nat,i=MF ME (j:Int)/\j<=m/\M6 (MQ Y.heap.size Y wr)) (fun i _ _=>m-(intOf i).toNat)
   case atStart=>exact⟨0,rfl,Nx _,RowKit.Below.refl _ _⟩
   case round =>
    obtain⟨j,rfl,hj,HX⟩:=hrel;have hG:=HM.out.2.on HX.out;have l8:=hG.lt;have v60:wr.cell? ⟨B8,60,MH⟩=MI (MG q.po m q.co):=by rw[hG.sb.F7 60,HM.out.1];rfl
    by_cases hlj:j<m
    ·have hjI:(j:Int)<(m:Int):=by omega
     have hjl:j<q.s.out.length:=by rw[<-HM.out.1];exact hlj
     obtain⟨bo,oo,hpo,u0,u1,u2,u3,u4,u5,u6⟩:=VE hG.sb.rd.2.2 hjl;have hbo:bo<wr.heap.size:=World.block_lt_of_cell? wr ⟨bo,_,MH⟩ u0;have hN:=fun h=>HT.out.2.1.VN (fun _=>Vh _ _) (Nk hjl) h
     rw[hpo]at v60;generalize q.s.out[j]=x at u0 u1 u2 u3 u4 u5 u6 hN;obtain⟨xk,xs,xg,xb,xr,xc,xy⟩:=x;have u0:wr.cell? ⟨bo,oo+j*7,MH⟩=MI (MF ME xk):=u0;have u1:wr.cell? ⟨bo,oo+j*7+1,MH⟩=MI (MF ME xs):=u1;have u2:wr.cell? ⟨bo,oo+j*7+2,MH⟩=MI (MF ME xg):=u2;have u3:wr.cell? ⟨bo,oo+j*7+3,MH⟩=MI (MF ME xb):=u3;have u4:wr.cell? ⟨bo,oo+j*7+4,MH⟩=MI (MF ME xr):=u4;have u5:wr.cell? ⟨bo,oo+j*7+5,MH⟩=MI (MF ME xc):=u5;have u6:wr.cell? ⟨bo,oo+j*7+6,MH⟩=MI (MF ME xy):=u6;have hN:xk=1\/xk=5->aA q.s.aft.liv xb=2/\(q.s.ev.kind=7\/aA q.s.bef.liv xb=2)/\(0<=xb/\xb<12)/\(xk=1->(q.s.bef.hea.getD xb.toNat bm).out=Nb):=hN;obtain⟨Z,hZ⟩:∃Z,Z=wr.alloc (MP #[MF ME xk,MF ME xs,MF ME xg,MF ME xb,MF ME xr,MF ME xc,MF ME xy] 61):=⟨_,rfl⟩;have hZb:MQ wr.heap.size wr Z:=by rw[hZ];exact ai wr
     have hx9:Z.heap[wr.heap.size]?=MI (MP #[MF ME xk,MF ME xs,MF ME xg,MF ME xb,MF ME xr,MF ME xc,MF ME xy] 61 (0,0)):=by rw[hZ];exact M1 _ _
     have HZ:M6 (_/\_/\_/\_):=⟨hZ,hG.on hZb,HX.out.trans (hZb.mono HX.out.size),hx9⟩;clear hZ hZb hx9 hG hpo hjl
     by_cases h15:xk=1\/xk=5
     rotate_left
     have h1:(xk != 1)=true:=by simp;exact fun h=>h15 (Nt h)
     have h5:(xk != 5)=true:=by simp;exact fun h=>h15 (NF h)
     clear hN h15
     rotate_left
     obtain⟨n2,n1,⟨n3,n4⟩,n5⟩:=hN h15;obtain⟨bn,rfl⟩:=Int.eq_ofNat_of_zero_le n3;have hb12:bn<12:=by omega
     rw[Int.toNat_natCast]at n5;have HN:M6 (_/\_/\_):=⟨n2,n1,n5⟩;clear hN n1 n2 n3 n4 n5;obtain⟨ot,hot⟩:∃ot,ot=(q.s.bef.hea.getD bn bm).out:=⟨_,rfl⟩;have hk15:((xk != 1)=Nb/\(xk == 1)=Nw/\ot=Nb)\/((xk != 1)=Nw/\(xk != 5)=Nb/\(xk == 1)=Nb):=by
      rcases h15 with h|h
      ·exact Nt ⟨by simp[h],by simp[h],hot.trans (HN.out.2.2 h)⟩
      ·exact NF ⟨by simp[h],by simp[h],by simp[h]⟩
     have HO:M6 _:=hot;clear h15 hot;rcases hk15 with⟨k1,k2,rfl⟩|⟨k1,k2,k3⟩
     case' neg=>go_wp2
     case' pos.inl|pos.inr =>
      go_wp2_with (first|((with_reducible refine O3 rfl 49 (O6 53) rfl B8 34 ?gx M2 _ ?gc OX ?gd ?gi ?_);(case gx=>rfl);(case gc=>rw[<-HZ.out.1];exact HZ.out.2.1.r2);(case gd=>rfl);(case gi=>exact HZ.out.2.1.i2)))
      rw[<-HZ.out.1];refine Calls.mono (HZ.out.2.1.VQ _) ?_;rintro r w5 ⟨rfl,hb5⟩;rw[HN.out.1];have hT5:=HZ.out.2.1.on hb5;have hx5:=af HZ.out.2.2.2 hb5;have a3:w5.cell? ⟨wr.heap.size,3,MH⟩=MI (MF ME (bn:Int)):=by rw[MW w5 _ 3 _ _ (0,0) hx5];rfl
      have l9:wr.heap.size<w5.heap.size:=(Array.getElem?_eq_some_iff.1 hx5).1;have l8':=hT5.lt;have H5:M6 (_/\_/\_):=⟨hT5,HZ.out.2.2.1.trans (hb5.mono HZ.out.2.2.1.size),hx5⟩;clear hb5 hT5 hx5 u0 u1 u2 u3 u4 u5 u6 v60 hbo l8
      go_wp2_with (first|((with_reducible refine VM ?gw 49 (O6 60) rfl B8 8 ?gx M _ ?gc OX ?gd ?gi ?_);(case gw=>rfl);(case gx=>rfl);(case gc=>exact H5.out.1.r1);(case gd=>rfl);(case gi=>exact H5.out.1.i1)))
      refine Calls.mono (H5.out.1.VP _) ?_;rintro r w6 ⟨rfl,hb6⟩;have hT6:=H5.out.1.on hb6;have hx6:=af H5.out.2.2 hb6;have z0:w6.cell? ⟨wr.heap.size,0,MH⟩=MI (MF ME xk):=by rw[MW w6 _ 0 _ _ (0,0) hx6];rfl
      have z3:w6.cell? ⟨wr.heap.size,3,MH⟩=MI (MF ME (bn:Int)):=by rw[MW w6 _ 3 _ _ (0,0) hx6];rfl
      have k9:wr.heap.size<w6.heap.size:=(Array.getElem?_eq_some_iff.1 hx6).1;have k8:=hT6.lt;obtain⟨bh,oh,hph,hbh,hc1,hc2,g1,_⟩:=VC hT6.sb.rd.1 hb12;rw[<-HO.out]at g1;have b0:w6.cell? ⟨B8,0,MH⟩=MI (MF ME q.s.ev.kind):=(hT6.sb.F7 0).trans rfl;have b30:w6.cell? ⟨B8,30,MH⟩=MI (MG q.u.ph 12 q.u.ch):=(hT6.sb.F7 30).trans rfl;rw[hph]at b30;have hb0:(bn:Int)<12:=by omega
      have hcs:aA q.s.bef.liv (bn:Int)=2\/((aA q.s.bef.liv (bn:Int) != 2)=Nw/\q.s.ev.kind=7):=by
       by_cases h:aA q.s.bef.liv (bn:Int)=2
       ·exact Nt h
       ·exact NF ⟨by simp[h],by rcases HN.out.2.1 with h7|h7;exact h7;exact absurd h7 h⟩
      have H6:M6 _:=H5.out.2.1.trans (hb6.mono H5.out.2.1.size);clear hb6 hT6 hx6 a3 l9 l8' hph;generalize q.s.ev.kind=e at b0 hcs;generalize aA q.s.bef.liv (bn:Int)=s1 at hcs⊢;rcases hcs with rfl|⟨h2,rfl⟩
      all_goals go_wp2
     all_goals
      go_roundw
      case rel=>exact⟨j+1,by simp,hlj,by first|exact H6|(rw[<-HZ.out.1];exact HZ.out.2.2.1)⟩
      case measure=>simp[intOf];omega
    ·obtain rfl:j=m:=by omega
     have hjI:¬(j:Int)<(j:Int):=by omega
     clear hG;go_wp2
     go_roundw
     case rel=>exact⟨k+1,by simp,hlt,HQ.out.2.2.2.2.1.trans (HX.out.mono HQ.out.2.2.2.2.1.size)⟩
     case measure=>simp[intOf];omega
  ·obtain rfl:k=n:=by omega
   have hkI:¬(k:Int)<(k:Int):=by omega
   go_wp2;go_ret;exact⟨rfl,HB.out.trans (HW.out.mono HB.out.size)⟩
end Go.Proofs.YtinbndbjlgoghaaGreatDoor.Q
