/-
  CoreFirst: its walk. Conditions: as each theorem says.
-/
import Derived.Test.YtinbndbjlgoghaaGreatDoorQ20
open Bool renaming false->Nb,true->Nw
open Go renaming Addr->Oc,Calls->Ni,Value->M7,World->MO,heap_alloc_new->M1,wpAnyH_done->PS,wpAnyH_ready->NN,wpList_load_mid->O3,wpList_store_mid->OW,wp_region_held_drew->O2
open Go.Act renaming put->Nr
open Go.AllReadyH renaming cons->NP,nil->NX
open Go.Calls renaming mono->Nd
open Go.Ending renaming returned->MN
open Go.IntKind renaming i64->ME
open Go.Lit renaming int->N6
open Go.Obj renaming cells->MP
open Go.Operand renaming tmp->O6
open Go.Proofs.Tryz renaming prog->MK,underlying49->OX
open Go.RowKit renaming Below->MQ,Hid->M6
open Go.RowKit.Below renaming refl->MY
open Go.Value renaming agg->Ny,bool->M3,int->MF,pointer->Na,slice->MG,tuple->Nv
open Go.World renaming block_lt_of_cell?->MX,heap_setCells_other->N8
open Int renaming le_refl->Qh,mul_le_mul_of_nonneg_left->VU,mul_le_mul_of_nonneg_right->VT,one_mul->VZ
open List renaming ext_getElem?->Ot,find?_cons_of_neg->Pr,foldl_cons->O4,getElem?_replicate->Pj,getElem_cons_succ->MT,getElem_cons_zero->MS,getElem_mem->Nk,getElem_toArray->MZ,length_replicate->Qr,map_congr_left->PU,map_cons->OA,map_map->VW,mem_cons_of_mem->NB,mem_cons_self->NM,nodup_range->VY,range->Pm,replicate->Nj,setIfInBounds_toArray->MJ,set_cons_succ->MM,set_cons_zero->ML,size_toArray->OQ,sum_cons->VS,toList_toArray->NS
open Nat renaming le_refl->MV,le_trans->Nm,lt_of_lt_of_le->M8,zero_le->Nx
open Option renaming none->MH,some->MI
open Or renaming inl->Nt,inr->NF
namespace Go.Proofs.YtinbndbjlgoghaaGreatDoor.Q
set_option linter.unusedVariables false
set_option linter.unusedSimpArgs false
set_option maxHeartbeats 16000000
set_option maxRecDepth 100000
open Go.RowKit
attribute [local go_sem ↓] Go.wp_at_zero Go.wp_at_succ
variable {a d key s:Int}{Y:MO}{i:Nat}
theorem VD{out:List Int}{t:Tm}{x:Int}:x∈ma out t↔x∈out\/x=t.2:=by
 unfold ma
 split
 ·rename_i h
  exact⟨Nt,fun h2=>h2.elim id (fun e=>by rw[e];exact h)⟩
 ·simp
theorem VC:∀(m:List Tm) (x:List Int),x.Nodup->(m.foldl ma x).Nodup
 | [],_,h=>h
 |t::m,x,h=>by
  rw[O4];refine VC m _ ?_;unfold ma
  split
  ·exact h
  ·rename_i hn
   rw[List.nodup_append];exact⟨h,by simp,fun a ha b hb e=>hn (by rw[List.mem_singleton]at hb;rw[<-hb,<-e];exact ha)⟩
theorem VB:∀(m:List Tm) (x:List Int) (n:Int),n∈m.foldl ma x↔n∈x\/∃t∈m,t.2=n
 | [],x,n=>by simp
 |t::m,x,n=>by
  rw[O4,VB m,VD];constructor
  ·rintro((h|h)|⟨t',h1,h2⟩)
   ·exact Nt h
   ·exact NF ⟨t,NM ..,h.symm⟩
   ·exact NF ⟨t',NB _ h1,h2⟩
  ·rintro(h|⟨t',h1,h2⟩)
   ·exact Nt (Nt h)
   ·rcases List.mem_cons.1 h1 with rfl|h1
    ·exact Nt (NF h2.symm)
    ·exact NF ⟨t',h1,h2⟩
theorem VF(l:List Tm)(at_:Int):(ie l at_).Nodup:=VC _ [] List.nodup_nil
theorem VE(l:List Tm)(at_ n:Int):n∈ie l at_↔∃t∈l,t.2=n:=by
 unfold ie vY;rw[VB];constructor
 ·rintro(h|⟨t,h1,h2⟩)
  ·cases h
  ·exact⟨t,Cv.1 h1,h2⟩
 ·rintro⟨t,h1,h2⟩
  exact NF ⟨t,Cv.2 h1,h2⟩
theorem Vr{b c e:Int}(h:l9 a b c d e):a*(c+1)*d<=ns a b c d e*(b*e)/\(ns a b c d e-1)*(b*e)<a*(c+1)*d/\1<=ns a b c d e/\ns a b c d e<=78720:=by
 obtain⟨_,⟨p1,p2⟩,p3,p4⟩:=zn h;unfold ns;generalize a*(c+1)*d=p at *;generalize b*e=q at *;have h1:=Int.ediv_mul_le (p+q-1) (b:=q) (by omega);have h2:=Int.lt_ediv_add_one_mul_self (p+q-1) (b:=q) (by omega);have h3:1<=(p+q-1) / q:=Int.le_ediv_of_mul_le p3 (by omega);have h4:(p+q-1) / q<=(p+q-1) / q*q:=by
  have:=VU (a:=1) (b:=q) (c:=(p+q-1) / q) (by omega) (by omega);omega
 generalize (p+q-1) / q=u at *;rw[Int.add_mul,VZ]at h2;rw[Int.sub_mul,VZ];refine⟨by omega,by omega,h3,?_⟩;rcases Int.lt_or_le 1 u with h|h
 ·have:=VU (a:=1) (b:=q) (c:=u-1) (by omega) (by omega)
  rw[Int.mul_one,Int.sub_mul,VZ]at this;omega
 ·omega
def Vx(l:List Ld):Int:=(l.map fun x=>if 0<x.2.1 then x.2.2 else 0).sum
theorem Vv(a b c t:Int):∀l:List Ld,(∀x∈l,gI x)->(∀x∈l,x.2.1≠0->l9 a b c x.2.1 t)->a*(c+1)*cY l<=(l.map (jp a b c t)).sum*(b*t)
 | [],_,_=>by simp[cY]
 |x::l,h,hf=>by
  have ih:=Vv a b c t l (fun y hy=>h y (NB _ hy)) (fun y hy=>hf y (NB _ hy));have e1:cY (x::l)=x.2.1+cY l:=by simp[cY]
  have e2:((x::l).map (jp a b c t)).sum=jp a b c t x+(l.map (jp a b c t)).sum:=by simp
  rw[e1,e2,Int.mul_add,Int.add_mul];have h1:a*(c+1)*x.2.1<=jp a b c t x*(b*t):=by
   unfold jp
   split
   case isTrue h0=>rw[h0];simp
   case isFalse h0=>exact(Vr (hf x (NM ..) h0)).1
  omega
theorem Vt{l:List Ld}{b c:Int}(hok:ir l)(hf:g8 a b c)(h0:0<cY l):c+1<=(eI a b c l).sum:=by
 have hall:=ju hok.2;have hbd:=nI l hall;have h:=Vv a b c (cY l) l hall fun x hx hx0=>yS hok hf hx hx0
 unfold eI;generalize (l.map (jp a b c (cY l))).sum=u at *;generalize cY l=t at *;obtain⟨⟨h1,h2,h3⟩,h4,h5⟩:=hf;have m1:b*(c+1)<=a*(c+1):=VT h2 (by omega);have m2:b*(c+1)*t<=a*(c+1)*t:=VT m1 (by omega);have m3:(c+1)*(b*t)<=u*(b*t):=by
  have e:b*(c+1)*t=(c+1)*(b*t):=by rw[Int.mul_comm b (c+1),Int.mul_assoc]
  rw[<-e];omega
 exact Int.le_of_mul_le_mul_right m3 (Int.mul_pos (by omega) (by omega))
theorem Vu(a b c t:Int):∀l:List Ld,(∀x∈l,jp a b c t x<=if 0<x.2.1 then x.2.2 else 0)->(l.map (jp a b c t)).sum<=Vx l
 | [],_=>by simp[Vx]
 |x::l,h=>by
  have ih:=Vu a b c t l fun y hy=>h y (NB _ hy)
  have h1:=h x (NM ..);have e2:((x::l).map (jp a b c t)).sum=jp a b c t x+(l.map (jp a b c t)).sum:=by simp
  have e3:Vx (x::l)=(if 0<x.2.1 then x.2.2 else 0)+Vx l:=by simp[Vx]
  rw[e2,e3];omega
theorem Vz{l:List Ld}{b c:Int}(hi:i<l.length):cm l (eI a b c l) i=Decidable.decide (l[i].2.2<jp a b c (cY l) l[i]):=by
 unfold cm;rw[zI,dif_pos hi];simp[hi]
theorem VA{l:List Ld}{b c:Int}(hok:ir l)(hf:g8 a b c)(h0:0<cY l)(hfl:Vx l<=c):∃i,i<l.length/\cm l (eI a b c l) i=true:=by
 refine Classical.byContradiction fun hn=>?_
 have h1:=Vt hok hf h0;have h2:=Vu a b c (cY l) l fun x hx=>by
  obtain⟨i,hi,rfl⟩:=List.getElem_of_mem hx;have hd:=ju hok.2 l[i] hx;have hr:¬(l[i].2.2<jp a b c (cY l) l[i]):=fun h=>hn ⟨i,hi,by rw[Vz hi];exact Nq h⟩
  have hw:=hd.1.1
  split
  case isTrue=>omega
  case isFalse h =>
   have:l[i].2.1=0:=by omega
   unfold jp;rw[Nh this];exact Qh _
 unfold eI at h1;omega
theorem Vw{l:List Ld}{b c:Int}(hok:ir l)(hf:g8 a b c)(h0:0<cY l)(hfl:Vx l<=c)(ws:List Int)(t:Nat):
  ∃i,∃hi:i<l.length,iu l (eI a b c l) ws t=MI i/\l[i].2.2<jp a b c (cY l) l[i]/\0<l[i].2.1:=by
 obtain⟨j,hj,hrj⟩:=VA hok hf h0 hfl;have hw:=ru (a:=a) (b:=b) (c:=c) hok;have key:∀i,i<l.length->cm l (eI a b c l) i=Nw->∃hi:i<l.length,l[i].2.2<jp a b c (cY l) l[i]/\0<l[i].2.1:=fun i hi hr=>by
  have h1:=hw i hr;rw[Vz hi]at hr;exact⟨hi,M2 hr,by simpa [hi]using h1⟩
 unfold iu;cases ha:df l (eI a b c l) ws t with
 |some i =>
  obtain⟨h1,h2,_⟩:=mo ha;obtain⟨h3,h4⟩:=key i h1 h2;exact⟨i,h3,rfl,h4⟩
 |none =>
  have hb:=qc hw l.length;cases hl:bL l (eI a b c l) l.length with
  |none =>
   rw[hl]at hb;rw[hb j (Nx _) hj]at hrj;cases hrj
  |some i =>
   obtain⟨h1,h2⟩:=yi hw hl;obtain⟨h3,h4⟩:=key i h1 h2;exact⟨i,h3,rfl,h4⟩
theorem Vq{l:List Ld}(hok:∀x∈l,gI x):l.any dj=Decidable.decide (0<cY l):=by
 induction l with
 |nil=>rfl
 |cons x l ih =>
  have h1:=ih fun y hy=>hok y (NB _ hy)
  have h2:=nI l fun y hy=>hok y (NB _ hy)
  have h3:=(hok x (NM ..)).1.1;have e1:cY (x::l)=x.2.1+cY l:=by simp[cY]
  rw[List.any_cons,h1,e1];unfold dj
  by_cases h0:x.2.1=0
  ·rw[h0];simp
  ·have h4:0<x.2.1:=by omega
   have h5:0<x.2.1+cY l:=by omega
   simp[h0,h5]
theorem Vy{ws:List Int}{l:List Ld}{b c t:Int}(hok:ir l)(hf:g8 a b c)(ht:0<=t/\t<=12)(hw:ws.length<=12):
  gY ws l a b c t=if 0<cY l then gk l (iu l (eI a b c l) ws t.toNat)else(0,11):=by
 unfold gY;rw[Nh (lN.2 hok),Nh hf,Nh ⟨ht.1,ht.2,hw⟩,Vq (ju hok.2)]
 by_cases h:0<cY l <;> simp[h]
section
variable {base:Nat}{w0 w w':MO}{g:Nat}{V:Vs}{U:Us}{G:Gt}
theorem ia.Gy(B:Nat)(w:MO):ia B w w:=⟨MV _,fun _ _ _=>rfl⟩
end
def Vp(G:Gt)(b:Int):Int:=if aA G.liv b=2 then gL G (aq G.liv b)else 0
def Vn(G:Gt):Int:=((Pm 12).map fun b:Nat=>Vp G b).sum
section
variable {G:Gt}
theorem Vl{g:Nat->Int}:∀(l:List Nat) (n:Nat),l.Nodup->n∈l->(∀b∈l,b≠n->g b=0)->(l.map g).sum=g n
 | [],n,_,h,_=>by cases h
 |a::l,n,hn,h,hz=>by
  obtain⟨h1,h2⟩:=List.nodup_cons.1 hn;rw[OA,VS]
  by_cases e:a=n
  ·subst e
   have:(l.map g).sum=0:=by
    have h0:∀b∈l,g b=0:=fun b hb=>hz b (NB _ hb) fun e=>h1 (e ▸ hb)
    clear hz hn h h1 h2
    induction l with
    |nil=>rfl
    |cons b l ih=>rw[OA,VS,h0 b (by simp),ih fun x hx=>h0 x (NB _ hx)];rfl
   omega
  ·rcases List.mem_cons.1 h with h|h
   ·exact absurd h.symm e
   ·rw[hz a (by simp) e,Vl l n h2 h fun b hb=>hz b (NB _ hb)]
    omega
theorem Vj{f g:Nat->Int}(l:List Nat):(l.map fun b=>f b+g b).sum=(l.map f).sum+(l.map g).sum:=by
 induction l with
 |nil=>rfl
 |cons a l ih=>simp only[OA,VS,ih];omega
theorem Vk(W:FV->Int):∀(L:List FV),eo L->(∀x∈L,0<=x.1/\x.1<12)->((Pm 12).map fun b:Nat=>if aA L b=2 then W (aq L b)else 0).sum=((L.filter fun l=>l.2.1 == 2).map W).sum
 | [],_,_=>by
  have:((Pm 12).map fun b:Nat=>if aA [] b=2 then W (aq [] b)else 0)=(Pm 12).map fun _=>0:=PU fun b _=>by rw[Nf (by show ¬(0:Int)=2;decide)]
  rw[this];rfl
 |y::L,hr,hb=>by
  obtain⟨h1,h2⟩:=List.pairwise_cons.1 hr;have ih:=Vk W L h2 fun x hx=>hb x (NB _ hx)
  have hy:=hb y (by simp);have hnone:aq L y.1=fE:=tP fun x hx=>by have:=h1 x hx;omega
  have key:∀b∈Pm 12,(if aA (y::L) b=2 then W (aq (y::L) b)else 0)=(if(b:Int)=y.1 then(if y.2.1=2 then W y else 0)else 0)+(if aA L b=2 then W (aq L b)else 0):=fun b _=>by
   by_cases e:(b:Int)=y.1
   ·have q:aq (y::L) b=y:=by rw[e];exact iZ hr (by simp)
    have q2:aq L b=fE:=by rw[e];exact hnone
    rw[show aA (y::L) b=(aq (y::L) b).2.1 from rfl,q,show aA L b=(aq L b).2.1 from rfl,q2,Nh e,Nf (show ¬fE.2.1=2 by decide)];omega
   ·have q:aq (y::L) b=aq L b:=by
     unfold aq;rw[Pr (by simpa using fun h:y.1=(b:Int)=>e h.symm)]
    rw[show aA (y::L) b=(aq (y::L) b).2.1 from rfl,q,Nf e,Int.zero_add]
  rw[PU key,Vj,ih,Vl (g:=fun b:Nat=>if(b:Int)=y.1 then(if y.2.1=2 then W y else 0)else 0) (Pm 12) y.1.toNat VY (List.mem_range.2 (by omega)) fun b _ hne=>Nf (by omega),Nh (by omega)]
  by_cases e:y.2.1=2
  ·rw[Nh e,List.filter_cons_of_pos (by simpa using e),OA,VS]
  ·rw[Nf e,List.filter_cons_of_neg (by simpa using e)]
   omega
theorem Vm(h:Bs G)(fs:List Fl):cY (ej G fs)=Vn G:=by
 unfold Vn Vp cY ej;rw[Vk (gL G) G.liv h.Gv fun x hx=>by have:=(h.lf hx).1.1;omega,VW];rfl
theorem Vf(h:Bs G)(fs:List Fl):Vx (ej G fs)<=fs.length:=by
 have h1:∀L:List FV,eo L->∀fs:List Fl,((L.map fun l=>(fX fs l.1:Int)).sum<=fs.length):=by
  intro L hr fs;have:((L.map fun l=>fX fs l.1).sum<=fs.length):=by
   have hn:(L.map (·.1)).Nodup:=List.pairwise_map.2 (hr.imp fun h=>by omega);have e:(L.map fun l=>fX fs l.1)=(L.map (·.1)).map (fX fs):=by rw[VW];rfl
   rw[e];clear e;generalize L.map (·.1)=B at hn
   induction fs with
   |nil =>
    have:∀B:List Int,(B.map (fX [])).sum=0:=fun B=>by induction B with
     |nil=>rfl
     |cons b B ih=>rw[OA,VS,ih];rfl
    rw[this];exact Nx _
   |cons f fs ih =>
    have:∀B:List Int,B.Nodup->(B.map (fX (f::fs))).sum<=(B.map (fX fs)).sum+1/\(f.be∉ B->(B.map (fX (f::fs))).sum=(B.map (fX fs)).sum):=fun B hB=>by
     induction B with
     |nil=>exact⟨by simp,fun _=>rfl⟩
     |cons b B ihB =>
      obtain⟨n1,n2⟩:=List.nodup_cons.1 hB;obtain⟨i1,i2⟩:=ihB n2;simp only[OA,VS]
      by_cases e:f.be=b
      ·have i3:=i2 (by rw[e];exact n1)
       have:fX (f::fs) b=fX fs b+1:=List.countP_cons_of_pos (by simpa using e);exact⟨by omega,fun hh=>absurd (by rw[e];simp) hh⟩
      ·have:fX (f::fs) b=fX fs b:=List.countP_cons_of_neg (by simpa using e)
       exact⟨by omega,fun hh=>by have:=i2 (fun h=>hh (NB _ h));omega⟩
    have:=(this B hn).1;rw[List.length_cons];omega
  have e2:∀l:List FV,(l.map fun l=>(fX fs l.1:Int)).sum=((l.map fun l=>fX fs l.1).sum:Nat):=fun l=>by induction l with
   |nil=>rfl
   |cons a l ih=>rw[OA,VS,ih,OA,VS];omega
  rw[e2];omega
 unfold Vx ej;rw[VW];have hr:eo (G.liv.filter fun l=>l.2.1 == 2):=h.Gv.filter _;refine Int.le_trans ?_ (h1 _ hr fs);generalize (G.liv.filter fun l=>l.2.1 == 2)=L
 induction L with
 |nil=>exact Qh _
 |cons l L ih =>
  rw[OA,OA,VS,VS];have:((fun x:Ld=>if 0<x.2.1 then x.2.2 else 0) ∘ fun l:FV=>(l.1,gL G l,(fX fs l.1:Int))) l<=(fX fs l.1:Int):=by
   simp only[Function.comp]
   split <;> omega
  omega
theorem U3(h:Bs G)(hw:(pR G key).length<=12){fs:List Fl}(hfs:fs.length<=40):
  (Vn G<=0/\dL G key fs=(0,11)) \/
  (0<Vn G/\∃b:Int,dL G key fs=(b,0)/\(0<=b/\b<12)/\aA G.liv b=2/\0<Vp G b/\(fX fs b:Int)<ns G.cfg.num G.cfg.den fs.length (Vp G b) (Vn G)):=by
 have hok:=h.Jt hfs;have ht:=Vm h fs;have hfl:=Vf h fs;unfold dL;rw[Vy hok (h.Jm hfs) h.cfg.2.2.2.1 hw,ht]
 by_cases h0:0<Vn G
 ·rw[Nh h0]
  obtain⟨i,hi,e,h1,h2⟩:=Vw hok (h.Jm hfs) (by rw[ht];exact h0) hfl (pR G key) G.cfg.tries.toNat
  rw[e];have hm:(ej G fs)[i]∈ej G fs:=Nk hi;obtain⟨l,hl,e2⟩:=List.mem_map.1 hm;obtain⟨hl,hs⟩:=List.mem_filter.1 hl;have h3:=(h.lf hl).1.1;have e3:aq G.liv l.1=l:=iZ h.Gv hl;have hs2:aA G.liv l.1=2:=by show(aq G.liv l.1).2.1=2;rw[e3];simpa using hs
  have e4:Vp G l.1=gL G l:=by unfold Vp;rw[Nh hs2,e3]
  rw[<-e2]at h1 h2;refine NF ⟨h0,l.1,?_,⟨h3.1,by omega⟩,hs2,by rw[e4];exact h2,?_⟩
  ·simp[gk,hi,<-e2]
  ·rw[e4,<-ht]
   unfold jp at h1;rw[Nf (by show ¬gL G l=0;have:0<gL G l:=h2;omega)]at h1;exact h1
 ·rw[Nf h0]
  exact Nt ⟨by omega,rfl⟩
end
theorem Vi:∀(n:Nat) (l:List Int),l.Nodup->(∀x∈l,0<=x/\x<(n:Int))->l.length<=n
 |0,l,_,h=>by
  cases l with
  |nil=>simp
  |cons x l=>have:=h x (by simp);omega
 |n+1,l,hd,h=>by
  have h1:=Vi n (l.erase n) (hd.erase _) fun x hx=>by
   obtain⟨h2,h3⟩:=(hd.mem_erase_iff).1 hx;have:=h x h3;omega
  rw[List.length_erase]at h1
  split at h1 <;> omega
theorem Vo(G:Gt)(key:Int):(pR G key).length<=12:=Vi 12 _ (VF _ _) fun x hx=>by
 obtain⟨t,ht,e⟩:=(VE _ _ _).1 hx;obtain⟨b,i,h1,_,rfl⟩:=ln.1 ht;simp only at e;omega
structure U0(c:Cf)(t:Int)(l:FV)(fs:List Fl)(G:Gt):Prop where
 wm:Wm G
 cfg:G.cfg=c
 out:G.out=[]
 liv:G.liv=[l]
 fls:G.fls=fs
 now:G.now=t
structure U1(c:Cf)(t:Int)(l:FV)(G:Gt):Prop where
 one:U0 c t l [] G
 req:G.req.length<=2
 tab:G.tab=Nj c.flows.toNat (0,Nb,0,0)
 hea:G.hea=Nj 12 bm
section
variable {c:Cf}
theorem Vc(hc:nv c){b w:Nat}(hb:b<12)(hw:w<8):U1 c 0 ((b:Int),1,1+(w:Int),0,0,0) (iG (qt c) ⟨5,0,0,0,Nb,1,b,1+(w:Int)⟩).Ma/\(iG (qt c) ⟨5,0,0,0,Nb,1,b,1+(w:Int)⟩).out=[⟨8,0,0,0,1,0,0⟩]:=by
 have hm:=Kw hc;have he:fB ⟨5,0,0,0,Nb,1,b,1+(w:Int)⟩:=D5 (by
  simp[gq,dY,Ev.GZ,Ev.num,Ev.GE,Ev.Gc,Ev.Gd,Ev.Hi];omega)
 have ht:iG (qt c) ⟨5,0,0,0,Nb,1,b,1+(w:Int)⟩=fO (qt c) 1 ⟨5,0,0,0,Nb,1,b,1+(w:Int)⟩:=by
  unfold iG;rw[Nf (show ¬((5:Int)=1)by decide),Nh rfl]
 have hk:dJ (qt c) 1 ⟨5,0,0,0,Nb,1,b,1+(w:Int)⟩=(([((b:Int),1,1+(w:Int),0,0,0)],[((1:Int),1,(b:Int),1+(w:Int),0)]),0,Nw,0):=by
  unfold dJ;have hd:=hc.2.2.2.2.2.1;show ff [] [] ((1:Int),1,(b:Int),1+(w:Int),0) 0 c.drain=_;rw[xO (show bX [] []from hm.im.bs.book) (show(0:Nat)<100 by decide) (show je ((1:Int),1,(b:Int),1+(w:Int),0)/\((0:Int)<=0/\(0:Int)<=1099511627776)/\(0<=c.drain/\c.drain<=500)from⟨by simp[je],by decide,by omega⟩) (by intro q hq;cases hq)];unfold eA;rw[Nh rfl];have hj:gE [] (b:Int) (1+(w:Int))=([((b:Int),1,1+(w:Int),0,0,0)],0):=by
   unfold gE;rw[Nf (by omega)];rfl
  show(((gE [] (b:Int) (1+(w:Int))).1,[]++[((1:Int),1,(b:Int),1+(w:Int),(gE [] (b:Int) (1+(w:Int))).2)]),(gE [] (b:Int) (1+(w:Int))).2,Nw,0)=_;rw[hj];rfl
 have ho:(iG (qt c) ⟨5,0,0,0,Nb,1,b,1+(w:Int)⟩).out=[⟨8,0,0,0,1,0,0⟩]:=by
  rw[ht];unfold fO;rw[hk];rfl
 refine⟨⟨⟨(hm.Mm he (by intro h;cases h)).Ma,?_,rfl,?_,?_,?_⟩,?_,?_,?_⟩,ho⟩
 ·rw[ht];rfl
 ·rw[ht];show(fO _ _ _).liv=_;unfold fO;rw[hk];rfl
 ·rw[ht];rfl
 ·rw[ht];rfl
 ·rw[ht];show(fO _ _ _).req.length<=2;unfold fO;rw[hk];exact(show(1:Nat)<=2 by decide)
 ·rw[ht];rfl
 ·rw[ht];rfl
theorem Ve{G:Gt}{b:Nat}(hb:b<12){w:Int}(h:U1 c 0 ((b:Int),1,w,0,0,0) G):U1 c 1 ((b:Int),2,w,1,0,0) (iG G ⟨7,0,0,0,Nb,0,0,0⟩).Ma/\(iG G ⟨7,0,0,0,Nb,0,0,0⟩).out=[]:=by
 have hn0:G.now=0:=h.one.now;have hn:G.now+1<=1099511626776:=by omega
 have hm:=h.one.wm;have h1:=hm.im.next hn;have ht:iG G ⟨7,0,0,0,Nb,0,0,0⟩=mK G:=by
  unfold iG;rw[Nf (by decide),Nf (by decide),Nf (by decide),Nh rfl]
 obtain⟨X,hX⟩:∃X,X=eE {G with now:=G.now+1}:=⟨_,rfl⟩;have hs:=yj h1.bs;have hX2:=nf h1.bs;rw[<-hX]at hs hX2;have hliv:X.liv=[((b:Int),2,w,1,0,0)]:=by
  rw[hs.2.2.2.2.2.2.2];show G.liv.map (aY (G.now+1))=_;rw[h.one.liv,hn0];rfl
 have hfls:X.fls=[]:=by rw[hs.2.2.1];exact h.one.fls
 have hhea:X.hea=Nj 12 bm:=by
  rw[hX2];show((bv G.liv).foldl cV _).hea=_;rw[h.one.liv];show(cV _ (b:Int)).hea=_;unfold cV;show G.hea.set _ bm=_;rw[h.hea,List.set_replicate_self]
 have hreq:X.req=G.req:=by
  rw[hX2];show((bv G.liv).foldl cV _).req=_;rw[h.one.liv];rfl
 have him:Im X:=by rw[hX];exact h1.Jf
 have hback:(lU X).hea=Nj 12 bm:=by
  unfold lU;show X.hea.map (gK X)=_;rw[hhea,List.map_replicate]
  congr 1
  unfold gK;rw[EC him.bs.cfg.2.2.2.2.2.2.2.2.2.2.2 ⟨him.bs.now.1,by have:=him.bs.now.2;omega⟩ (him.bs.hea bm (by rw[hhea];exact List.mem_replicate.2 ⟨by decide,rfl⟩)) (Nt rfl)];rfl
 have hoff:fk (lU X)={lU X with wnow:=X.wnow+1,tms:=fun t=>X.tms t/\t.1≠X.wnow+1}:=by
  unfold fk;have:fK (lU X).fls ((lU X).wnow+1)=[]:=by
   show fK X.fls _=[];rw[hfls];rfl
  rw[this];rfl
 have hcut:qU (fk (lU X))=fk (lU X):=by
  unfold qU;have:(fk (lU X)).liv=[((b:Int),2,w,1,0,0)]:=by rw[hoff];exact hliv
  rw[this,O4,List.foldl_nil];unfold dV;rw[Nh (Nt (show(2:Int)≠3 by decide))]
 have htk:mK G={lU X with wnow:=X.wnow+1,tms:=fun t=>X.tms t/\t.1≠X.wnow+1}:=by
  unfold mK;rw[<-hX,hcut,hoff]
 refine⟨⟨⟨(hm.Mm (D5 (by decide)) (fun _=>hn)).Ma,?_,rfl,?_,?_,?_⟩,?_,?_,?_⟩,?_⟩
 ·rw[ht,htk];show X.cfg=c;rw[hs.2.2.2.1];exact h.one.cfg
 ·rw[ht,htk];exact hliv
 ·rw[ht,htk];exact hfls
 ·rw[ht,htk];show X.now=1;rw[hs.1];show G.now+1=1;omega
 ·rw[ht,htk];show X.req.length<=2;rw[hreq];exact h.req
 ·rw[ht,htk];show X.tab=_;rw[hs.2.2.2.2.2.1];exact h.tab
 ·rw[ht,htk];exact hback
 ·rw[ht,htk];show X.out=[];rw[hs.2.2.2.2.1];exact h.one.out
theorem Vg{G:Gt}{t:Int}{l:FV}{fs:List Fl}(h:U0 c t l fs G)(x:Int):aq G.liv x=if l.1=x then l else fE:=by
 rw[h.liv];unfold aq
 by_cases e:l.1=x
 ·rw[Nh e,List.find?_cons_of_pos (by simpa using e)]
  rfl
 ·rw[Nf e,Pr (by simpa using e)]
  rfl
theorem Vh{G:Gt}{b:Nat}(hb:b<12){w t:Int}(h:U1 c t ((b:Int),2,w,s,0,0) G):0<Vn G:=by
 have hbs:=h.one.wm.im.bs;have hmem:((b:Int),2,w,s,0,0)∈G.liv:=by rw[h.one.liv];exact List.mem_singleton.2 rfl
 have hlf:=(hbs.lf hmem).1;have hsn:=hbs.since _ hmem;have hw:Vp G b=FZ w (G.now-s) G.cfg.warm:=by
  unfold Vp;show(if(aq G.liv (b:Int)).2.1=2 then gL G (aq G.liv (b:Int))else 0)=_;rw[Vg h.one,Nh rfl,Nh rfl];unfold gL;have:(G.hea.getD (((b:Int),2,w,s,0,0):FV).1.toNat bm).out=false:=by
   rw[h.hea,List.getD_eq_getElem?_getD,Pj]
   split <;> rfl
  rw[this];rfl
 have h1:1<=FZ w (G.now-s) G.cfg.warm:=(A0 hlf.2.1 (by have:s<=G.now:=hsn;omega:0<=G.now-s) hbs.cfg.2.2.2.2.1.1).1;unfold Vn;rw[Vl (g:=fun b:Nat=>Vp G b) (Pm 12) b VY (List.mem_range.2 hb) fun x _ hx=>by
  show Vp G (x:Int)=0;unfold Vp;show(if(aq G.liv (x:Int)).2.1=2 then gL G (aq G.liv (x:Int))else 0)=0;have e:=Vg h.one (x:Int);rw[Nf (by intro e;apply hx;have e:(b:Int)=x:=e;omega)]at e;rw[e];rfl]
 show 0<Vp G b;omega
theorem Vd{G:Gt}(hc:nv c){b:Nat}(hb:b<12){w t:Int}{key:Nat}(hk:key<4294967296)(h:U1 c t ((b:Int),2,w,s,0,0) G):
  U0 c t ((b:Int),2,w,s,0,0) [⟨0,0,key,b,Nb,0,t+c.conn⟩] (iG G ⟨1,key,0,0,Nb,0,0,0⟩).Ma/\(iG G ⟨1,key,0,0,Nb,0,0,0⟩).out=[⟨1,0,0,b,0,0,0⟩]:=by
 have hbs:=h.one.wm.im.bs;have he:fB ⟨1,key,0,0,Nb,0,0,0⟩:=D5 (by
  simp[gq,dY,Ev.GZ,Ev.num,Ev.GE,Ev.Gc,Ev.Gd,Ev.Hi];omega)
 have ht:iG G ⟨1,key,0,0,Nb,0,0,0⟩=mA G key:=by
  unfold iG;rw[Nh rfl]
 have hfl:0<c.flows.toNat:=by have:=hc.1.1;omega
 have h0:∀j (hj:j<G.tab.length),G.tab[j]=(0,Nb,0,0):=fun j hj=>by
  have:G.tab[j]?=MI (0,Nb,0,0):=by
   rw[h.tab,Pj,Nh (by rw[h.tab,Qr]at hj;exact hj)]
  rw[List.getElem?_eq_getElem hj]at this;exact Option.some.inj this
 have hl0:0<G.tab.length:=by rw[h.tab,Qr];exact hfl
 have hany:G.tab.any eu=true:=by
  rw[List.any_eq_true];exact⟨_,Nk hl0,by rw[h0 0 hl0];rfl⟩
 have hch:=U3 hbs (key:=(key:Int)) (Vo _ _) (fs:=G.fls) (by rw[h.one.fls];decide);have hwm:=(h.one.wm.Mm he (by intro e;cases e)).Ma;rcases J7 hbs (key:=(key:Int)) ⟨by omega,by omega⟩with⟨_,q⟩|⟨_,_,q⟩|⟨k,hlt,q1,q2,_,_,_,_,q7,q8⟩
 ·rw[q]at hany;cases hany
 ·rcases hch with⟨h1,_⟩|⟨_,x,e,_⟩
  ·have:=Vh hb h;omega
  ·rw[e]at q;exact absurd rfl q
 ·have hk0:k=0:=by
   cases k with
   |zero=>rfl
   |succ k=>have:=q7 0 (by omega);rw[h0 0 hl0]at this;cases this
  subst hk0;have hxb:(dL G (key:Int) G.fls).1=b:=by
   have e:aA G.liv (dL G (key:Int) G.fls).1=(aq G.liv (dL G (key:Int) G.fls).1).2.1:=rfl;rw[e,Vg h.one]at q2
   by_cases e2:(b:Int)=(dL G (key:Int) G.fls).1
   ·exact e2.symm
   ·rw[Nf e2]at q2;cases q2
  rw[hxb,h0 0 hlt,h.one.fls]at q8;rw[ht]at hwm⊢;rw[q8]at hwm⊢;refine⟨⟨hwm,h.one.cfg,rfl,h.one.liv,?_,h.one.now⟩,?_⟩
  ·show aT [] _ _=_
   rw[h.one.now,h.one.cfg];rfl
  ·show G.out++[_]=_
   rw[h.one.out];rfl
theorem Va{G:Gt}{b:Nat}{l:FV}{t:Int}(h:U0 c t l [⟨0,0,key,b,Nb,0,d⟩] G):
  ∃d',U0 c t l [⟨0,0,key,b,Nw,0,d'⟩] (iG G ⟨4,0,0,0,Nw,0,0,0⟩).Ma/\(iG G ⟨4,0,0,0,Nw,0,0,0⟩).out=[⟨4,0,0,b,0,0,0⟩]:=by
 have hbs:=h.wm.im.bs;have ht:iG G ⟨4,0,0,0,Nw,0,0,0⟩=mW G ⟨4,0,0,0,Nw,0,0,0⟩:=by
  unfold iG;rw[Nf (by decide),Nf (by decide),Nf (by decide),Nf (by decide)]
 have hg:=hbs.IV (f:=⟨0,0,key,b,Nb,0,d⟩) (by rw[h.fls];exact List.mem_singleton.2 rfl);have hwm:=(h.wm.Mm (e:=⟨4,0,0,0,Nw,0,0,0⟩) (D5 (by decide)) (by intro e;cases e)).Ma;rw[ht]at hwm⊢;rcases Kt hbs ⟨4,0,0,0,Nw,0,0,0⟩with⟨q,_⟩|⟨i,hi,_,_,_,⟨q,_⟩|⟨q,_⟩|⟨_,_,⟨q,_⟩|⟨_,_,q⟩|⟨_,q,_⟩⟩⟩
 ·exact absurd (by rw[hg]) q
 ·cases q
 ·cases q
 ·have:G.fls[i]=⟨0,0,key,b,Nb,0,d⟩:=List.mem_singleton.1 (by rw[<-h.fls];exact Nk hi)
  rw[this]at q;cases q
 ·have hfi:G.fls[i]=⟨0,0,key,b,Nb,0,d⟩:=List.mem_singleton.1 (by rw[<-h.fls];exact Nk hi)
  have hi0:i=0:=by have:=hi;rw[h.fls]at this;simp at this;exact this
  obtain⟨T,e⟩:=KC hi;rw[e]at q;rw[q]at hwm⊢;subst hi0;refine⟨t+c.idle,⟨hwm,h.cfg,rfl,h.liv,?_,h.now⟩,?_⟩
  ·show G.fls.set 0 _=_
   rw[hfi,h.now,h.cfg,h.fls];rfl
  ·show G.out++[_]=_
   rw[hfi,h.out];rfl
 ·cases q
theorem Vb{G:Gt}{b:Nat}{w t:Int}(h:U0 c t ((b:Int),2,w,s,0,0) [⟨0,0,key,b,Nw,0,d⟩] G):(iG G ⟨3,0,0,0,Nb,0,0,0⟩).out=[⟨7,0,0,b,0,0,0⟩]:=by
 have hbs:=h.wm.im.bs;have ht:iG G ⟨3,0,0,0,Nb,0,0,0⟩=mW G ⟨3,0,0,0,Nb,0,0,0⟩:=by
  unfold iG;rw[Nf (by decide),Nf (by decide),Nf (by decide),Nf (by decide)]
 have hg:=hbs.IV (f:=⟨0,0,key,b,Nw,0,d⟩) (by rw[h.fls];exact List.mem_singleton.2 rfl);rw[ht];rcases Kt hbs ⟨3,0,0,0,Nb,0,0,0⟩with⟨q,_⟩|⟨i,hi,_,_,_,⟨_,q⟩|⟨q,_⟩|⟨q,_⟩⟩
 ·exact absurd (by rw[hg]) q
 ·have hfi:G.fls[i]=⟨0,0,key,b,Nw,0,d⟩:=List.mem_singleton.1 (by rw[<-h.fls];exact Nk hi)
  rw[q,hfi];unfold dn cj;rw[Nf]
  ·show G.out++[_]=_
   rw[h.out];rfl
  ·intro⟨e,_⟩
   have e2:(aq G.liv (b:Int)).2.1=3:=e;rw[Vg h,Nh rfl]at e2;cases e2
 ·cases q
 ·exact absurd rfl q
end
theorem U4(f:Nat->Int)(hf:∀i,i<16->(N6 ME (f i)).wf=Nw):∃c:Cf,nv c/\∀w,Ni MK 15 #[BD (f 0) (f 1) (f 2) (f 3) (f 4) (f 5) (f 6) (f 7) (f 8) (f 9) (f 10) (f 11) (f 12) (f 13) (f 14) (f 15)] w fun r w'=>r=MN (sE c)/\MQ w.heap.size w w':=by
 obtain⟨c,hc,h⟩:=X9 (f 0) (f 1) (f 2) (f 3) (f 4) (f 5) (f 6) (f 7) (f 8) (f 9) (f 10) (f 11) (f 12) (f 13) (f 14) (f 15) (hf 0 (by omega)) (hf 1 (by omega)) (hf 2 (by omega)) (hf 3 (by omega)) (hf 4 (by omega)) (hf 5 (by omega)) (hf 6 (by omega)) (hf 7 (by omega)) (hf 8 (by omega)) (hf 9 (by omega)) (hf 10 (by omega)) (hf 11 (by omega)) (hf 12 (by omega)) (hf 13 (by omega)) (hf 14 (by omega)) (hf 15 (by omega));exact⟨⟨c.flows,c.num,c.den,c.tries,c.warm,c.drain,c.idle,c.conn,c.ret,c.most,c.bn,c.bd,c.bb,c.wn,c.wf,c.wh⟩,hc.ok,h⟩
def UZ(w:MO)(M:List M7)(G:Gt):Prop:=∃U,M=(ef U G).toList/\aF w U G
theorem UZ.len{w:MO}{M:List M7}{G:Gt}(h:UZ w M G):M.length=26:=by
 obtain⟨U,rfl,_⟩:=h;rfl
theorem UZ.Jo{w:MO}{M:List M7}{G:Gt}(h:UZ w M G):M.toArray.all (·.oneCell')=true:=by
 obtain⟨U,rfl,_⟩:=h;exact rS U G
section
variable {c:Cf}
theorem U2(hc:nv c)(w:MO):Ni MK 14 #[sE c] w fun r w'=>∃M:List M7,r=MN (Nv #[Ny M.toArray,MF ME 0])/\(∀W,ia w.heap.size w' W->UZ W M (qt c))/\MQ w.heap.size w w':=by
 refine(FT c hc w).mono ?_;rintro r w' ⟨U,rfl,h,hb⟩;exact⟨(ef U (qt c)).toList,rfl,fun W hW=>⟨U,rfl,h W hW⟩,hb⟩
theorem U9{w:MO}{M:List M7}{G:Gt}(h:UZ w M G)(hwm:Wm G)(hblk:aK w)(hout:G.out=[])(e:Ev)(hf:gq e=0)(hn:e.kind=7->G.now+1<=1099511626776) :
  Ni MK 17 #[Ny M.toArray,kI e] w fun r w'=>∃(M':List M7) (po:Option Oc) (co:Nat),r=MN (Nv #[Ny M'.toArray,MG po (iG G e).out.length co,MF ME 0])/\(∀W,ia w.heap.size w' W->UZ W M' (iG G e)/\bj gT W (MG po (iG G e).out.length co) (iG G e).out)/\MQ w.heap.size w w':=by
 obtain⟨U,rfl,hU⟩:=h;refine(FU hU hwm hblk hout e hf hn).mono ?_;rintro r w' ⟨U',po,co,rfl,hA,hb⟩;exact⟨(ef U' (iG G e)).toList,po,co,rfl,fun W hW=>⟨⟨U',rfl,(hA W hW).1⟩,(hA W hW).2⟩,hb⟩
end
theorem VO{P:Program}{md:Region.Mode}{ops:Array Oper}{Q:Exit->Act->MO->Prop}{S:MO->Prop}{fuel:Nat}{listed:Array Bool}{a:Act}{w:MO}{o:Oper}(ho:ops[i]?=MI o)(hg:o.guard=MH)(ty:TypeId)(x:Operand)(hop:o.op=.load ty x)
  (b p:Nat) (cs:List M7) {d:TypeDesc} (hx:a.eval x=Na (MI ⟨b,p,MH⟩)) (hc:w.rangeAt b p cs) (hu:P.underlying ty=MI d) (hd:d.isRow=Nw) (hi:(P.info? ty).map (·.size)=MI cs.length) (hS:S w)
  (h:wpAnyH P md ops Q S fuel (listed.setIfInBounds i Nw) (a.put o.dst (Ny cs.toArray)) w):AllReadyH P md ops Q S fuel listed a w [i]:=by
 refine NP ho (fun K hK=>?_) NX;rw[Nh (by unfold Region.wanted;rw[hg])];exact wp_load_mid ty x hop b p hx cs d hc hu hd hi (hK.out _ _ hS (fun _=>h))
theorem VP{P:Program}{w:MO}{ops:Array Oper}{o:Oper}{a:Act}{K:Act->MO->Prop}{Q:Exit->Act->MO->Prop}{E:Prop}(hg:o.guard=MH)(ty:TypeId)(x:Operand)(hop:o.op=.load ty x)
  (b p:Nat) (cs:List M7) {d:TypeDesc} (hx:a.eval x=Na (MI ⟨b,p,MH⟩)) (hc:w.rangeAt b p cs) (hu:P.underlying ty=MI d) (hd:d.isRow=Nw) (hi:(P.info? ty).map (·.size)=MI cs.length)
  (h:K (a.put o.dst (Ny cs.toArray)) w):if Region.wanted o (yielded ops a.tmps)=Nw then Oper.wp P o a w K Q else E:=by
 rw[Nh (by unfold Region.wanted;rw[hg])];exact wp_load_mid ty x hop b p hx cs d hc hu hd hi h
def VG(g:Nat)(X Y:MO):Prop:=X.heap.size<=Y.heap.size/\∀b,b<X.heap.size->b≠g->Y.heap[b]?=X.heap[b]?
theorem VG.Gy(g:Nat)(X:MO):VG g X X:=⟨MV _,fun _ _ _=>rfl⟩
theorem VG.F0{g:Nat}{X Z:MO}(h:VG g X Y)(k:VG g Y Z):VG g X Z:=⟨Nm h.1 k.1,fun b h1 h2=>(k.2 b (M8 h1 h.1) h2).trans (h.2 b h1 h2)⟩
theorem VG.of{g:Nat}{X:MO}(h:MQ X.heap.size X Y):VG g X Y:=⟨h.size,fun b h1 _=>h.block b h1⟩
theorem VG.F4{g:Nat}{X:MO}(h:VG g X Y)(vs:List M7):VG g X (Y.setCells g 0 vs):=⟨by rw[nj];exact h.1,fun b h1 h2=>(N8 Y g 0 _ (M8 h1 h.1) h2).trans (h.2 b h1 h2)⟩
theorem VG.Gf{g B:Nat}{X:MO}(h:VG g X Y)(hg:g<B):ia B X Y:=⟨h.1,fun b h1 h2=>h.2 b h2 (by omega)⟩
structure Ot(g:Nat)(X:MO)(p:Option Oc)(c:Nat)(l:List Ou):Prop where
 all:∀Y,VG g X Y->bj gT Y (MG p l.length c) l
theorem Ot.on{g:Nat}{X:MO}{p:Option Oc}{c:Nat}{l:List Ou}(h:Ot g X p c l)(k:VG g X Y):Ot g Y p c l:=⟨fun Z hz=>h.all Z (k.F0 hz)⟩
structure VQ(w W:MO)(g:Nat)(M:List M7)(G:Gt):Prop where
 box:W.heap[g]?=MI (MP M.toArray 49 (0,0))
 lie:∀Y,VG g W Y->UZ Y M G
 old:w.heap.size<=g
 low:0<w.heap.size
 bel:MQ w.heap.size w W
 blk:aK W
theorem VQ.lt{w W:MO}{g:Nat}{M:List M7}{G:Gt}(h:VQ w W g M G):g<W.heap.size:=(Array.getElem?_eq_some_iff.1 h.box).1
theorem VQ.on{w W:MO}{g:Nat}{M:List M7}{G:Gt}(h:VQ w W g M G)(hb:MQ W.heap.size W Y):VQ w Y g M G :=
 ⟨af h.box hb,fun Z hz=>h.lie Z ((VG.of hb).F0 hz),h.old,h.low,h.bel.trans (hb.mono h.bel.size),h.blk.below hb⟩
theorem VQ.next{w W w5:MO}{g:Nat}{M M':List M7}{G T:Gt}{po:Option Oc}{co:Nat}(h:VQ w W g M G)(hl:M'.length=26)(hA:∀X,ia W.heap.size w5 X->UZ X M' T/\bj gT X (MG po T.out.length co) T.out)(hb:MQ W.heap.size W w5) :
  VQ w (w5.setCells g 0 M') g M' T.Ma/\Ot g (w5.setCells g 0 M') po co T.out/\VG g W (w5.setCells g 0 M')/\w5.there g 0 M'.toArray.size:=by
 have hbox:w5.heap[g]?=MI (MP M.toArray 49 (0,0)):=af h.box hb;have hM:M.length=26:=(h.lie W (VG.Gy g W)).len;have ho5:VG g w5 (w5.setCells g 0 M'):=(VG.Gy g w5).F4 M';have hBl:MQ w.heap.size w (w5.setCells g 0 M'):=tW (h.bel.trans (hb.mono h.bel.size)) h.old _ _ (Nm h.bel.size hb.size);refine⟨⟨ks 49 g M' [] M w5 (by rw[hM,hl]) hbox,fun Z hz=>?_,h.old,h.low,hBl,?_⟩,⟨fun Z hz=>?_⟩,(VG.of hb).F0 ho5,?_⟩
 ·obtain⟨U,e,hU⟩:=(hA Z ((ho5.F0 hz).Gf h.lt)).1
  exact⟨U,e,hU.Ma⟩
 ·exact(h.blk.below hb).Gf (N8 w5 g 0 _ (M8 h.blk.lt hb.size) (by have:=h.old;have:=h.low;omega))
 ·exact(hA Z ((ho5.F0 hz).Gf h.lt)).2
 ·rw[show M'.toArray.size=M.toArray.size by rw[OQ,OQ,hM,hl]]
  exact vR hbox
structure Nx(w X:MO)(g:Nat)(M:List M7)(G:Gt)(l:List Ou)(p:Option Oc)(q:Nat)(w5:MO):Prop where
 fb:VQ w (w5.setCells g 0 M) g M G
 ot:Ot g (w5.setCells g 0 M) p q l
 off:VG g X (w5.setCells g 0 M)
 th:w5.there g 0 M.toArray.size
 len:M.toArray.size=26
 one:M.toArray.all (·.oneCell')=Nw
 kp:∀Y,MQ w5.heap.size w5 Y->bj gT Y (MG p l.length q) l
 bel:MQ X.heap.size X w5
theorem VQ.Mf{w W:MO}{g:Nat}{M:List M7}{G:Gt}(h:VQ w W g M G)(hwm:Wm G)(hout:G.out=[])(e:Ev)(hf:gq e=0)(h7:e.kind=7->G.now+1<=1099511626776){l:List Ou}(hl:(iG G e).out=l) :
  Ni MK 17 #[Ny M.toArray,Kb e] W fun r w5=>∃M' p q,r=MN (Nv #[Ny M'.toArray,MG p l.length q,MF ME 0])/\Nx w W g M' (iG G e).Ma l p q w5:=by
 refine(U9 (h.lie W (VG.Gy g W)) hwm h.blk hout e hf h7).mono ?_;rintro r w5 ⟨M',p,q,rfl,hA,hb⟩;have h5:=(hA w5 (ia.Gy _ _)).1;obtain⟨k1,k2,k3,k4⟩:=h.next h5.len hA hb;rw[hl]at k2 hA⊢;exact⟨M',p,q,rfl,k1,k2,k3,k4,(show M'.toArray.size=M'.length from OQ).trans h5.len,h5.Jo,fun Y hY=>(hA Y ⟨hY.size,fun b _ h=>hY.block b h⟩).2,hb⟩
theorem VK{k:Nat}(h:k<4294967296):gq ⟨1,(k:Int),0,0,Nb,0,0,0⟩=0:=by
 simp[gq,dY,Ev.GZ,Ev.num,Ev.GE,Ev.Gc,Ev.Gd,Ev.Hi];omega
theorem VJ{r b w:Nat}(h:r<1048577)(h2:b<12)(h3:w<8):gq ⟨5,0,0,0,Nb,(r:Int),(b:Int),1+(w:Int)⟩=0:=by
 simp[gq,dY,Ev.GZ,Ev.num,Ev.GE,Ev.Gc,Ev.Gd,Ev.Hi];omega
theorem VL(n:Int)(h:(N6 ME n).wf=Nw)(m:Nat)(i:Int)(hm:0<m/\m<=9000000000000/\i=m):∃k:Nat,k<m/\∀W,Ni MK 16 #[MF ME n,MF ME i] W fun r w'=>r=MN (MF ME (k:Int))/\w'=W:=by
 rw[hm.2.2];exact eW n m h hm.1 hm.2.1
theorem VM{W:MO}{p:Option Oc}{c:Nat}{L:List Ou}(h:bj gT W (MG p L.length c) L)(hi:i<L.length):
  ∃b o,p=MI ⟨b,o,MH⟩/\W.cell? ⟨b,o+i*7,MH⟩=MI (MF ME L[i].kind)/\W.cell? ⟨b,o+i*7+1,MH⟩=MI (MF ME L[i].slot)/\W.cell? ⟨b,o+i*7+2,MH⟩=MI (MF ME L[i].gen)/\W.cell? ⟨b,o+i*7+3,MH⟩=MI (MF ME L[i].be)/\W.cell? ⟨b,o+i*7+4,MH⟩=MI (MF ME L[i].req)/\W.cell? ⟨b,o+i*7+5,MH⟩=MI (MF ME L[i].code)/\W.cell? ⟨b,o+i*7+6,MH⟩=MI (MF ME L[i].why):=by
 obtain⟨a,cap,hv,_,_,hp⟩:=bj.F6 Bq h;injection hv with q1 _ _;obtain⟨b,o,ha,_,hc⟩:=hp i hi;exact⟨b,o,q1.trans ha,hc 0 (by omega),hc 1 (by omega),hc 2 (by omega),hc 3 (by omega),hc 4 (by omega),hc 5 (by omega),hc 6 (by omega)⟩
theorem VN{W:MO}{p:Option Oc}{c:Nat}{L l:List Ou}{x:Ou}(h:bj gT W (MG p L.length c) L)(e:L=x::l) :
  ∃b o,p=MI ⟨b,o,MH⟩/\W.cell? ⟨b,o,MH⟩=MI (MF ME x.kind)/\W.cell? ⟨b,o+1,MH⟩=MI (MF ME x.slot)/\W.cell? ⟨b,o+2,MH⟩=MI (MF ME x.gen)/\W.cell? ⟨b,o+3,MH⟩=MI (MF ME x.be)/\W.cell? ⟨b,o+4,MH⟩=MI (MF ME x.req)/\W.cell? ⟨b,o+5,MH⟩=MI (MF ME x.code)/\W.cell? ⟨b,o+6,MH⟩=MI (MF ME x.why):=by
 subst e;obtain⟨b,o,h1,h2⟩:=VM h (i:=0) (Nat.succ_pos _);simp only[Nat.zero_mul,Nat.add_zero,MS]at h2;exact⟨b,o,h1,h2⟩
structure VR(c:Cf)(b w k:Nat)(G1 G2 G3 G4:Gt):Prop where
 e1:G1=(iG (qt c) ⟨5,0,0,0,Nb,1,b,1+(w:Int)⟩).Ma
 e2:G2=(iG G1 ⟨7,0,0,0,Nb,0,0,0⟩).Ma
 e3:G3=(iG G2 ⟨1,k,0,0,Nb,0,0,0⟩).Ma
 e4:G4=(iG G3 ⟨4,0,0,0,Nw,0,0,0⟩).Ma
 o1:(iG (qt c) ⟨5,0,0,0,Nb,1,b,1+(w:Int)⟩).out=[⟨8,0,0,0,1,0,0⟩]
 o2:(iG G1 ⟨7,0,0,0,Nb,0,0,0⟩).out=[]
 o3:(iG G2 ⟨1,k,0,0,Nb,0,0,0⟩).out=[⟨1,0,0,b,0,0,0⟩]
 o4:(iG G3 ⟨4,0,0,0,Nw,0,0,0⟩).out=[⟨4,0,0,b,0,0,0⟩]
 o5:(iG G4 ⟨3,0,0,0,Nb,0,0,0⟩).out=[⟨7,0,0,b,0,0,0⟩]
 w1:Wm G1/\G1.out=[]
 w2:Wm G2/\G2.out=[]
 w3:Wm G3/\G3.out=[]
 w4:Wm G4/\G4.out=[]
 n1:G1.now=0
theorem VI{c:Cf}(hc:nv c){b w k:Nat}(hb:b<12)(hw:w<8)(hk:k<4294967296):∃G1 G2 G3 G4,VR c b w k G1 G2 G3 G4:=by
 obtain⟨a1,b1⟩:=Vc hc hb hw;obtain⟨a2,b2⟩:=Ve hb a1;obtain⟨a3,b3⟩:=Vd hc hb hk a2;obtain⟨d,a4,b4⟩:=Va a3;exact⟨_,_,_,_,rfl,rfl,rfl,rfl,b1,b2,b3,b4,Vb a4,⟨a1.one.wm,a1.one.out⟩,⟨a2.one.wm,a2.one.out⟩,⟨a3.wm,a3.out⟩,⟨a4.wm,a4.out⟩,a1.one.now⟩
theorem VQ.GY{w W:MO}{g:Nat}{M:List M7}{G:Gt}(h:VQ w W g M G):VQ w W.drew g M G:=h.on (MY _ _).drew
theorem VH(f:Nat->Int)(hf:∀i,i<16->(N6 ME (f i)).wf=Nw)(b:Int)(hb:(N6 ME b).wf=Nw)(wt:Int)(hw:(N6 ME wt).wf=Nw)(key:Int)(hk:(N6 ME key).wf=Nw){w:MO}(hB:aK w) :
  Ni MK 3 #[BD (f 0) (f 1) (f 2) (f 3) (f 4) (f 5) (f 6) (f 7) (f 8) (f 9) (f 10) (f 11) (f 12) (f 13) (f 14) (f 15),MF ME b,MF ME wt,MF ME key] w fun r w'=>r=MN (M3 Nw)/\MQ w.heap.size w w':=by
 obtain⟨c,hc,hcon⟩:=U4 f hf;obtain⟨bn,hbn,hp1⟩:=VL b hb 12 12 ⟨by omega,by omega,rfl⟩;obtain⟨wn,hwn,hp2⟩:=VL wt hw 8 8 ⟨by omega,by omega,rfl⟩;obtain⟨kn,hkn,hp3⟩:=VL key hk 4294967296 4294967296 ⟨by omega,by omega,rfl⟩;obtain⟨G1,G2,G3,G4,hV⟩:=VI hc hbn hwn hkn;obtain⟨L,hL⟩:∃L:List M7,L=[MF ME (f 0),MF ME (f 1),MF ME (f 2),MF ME (f 3),MF ME (f 4),MF ME (f 5),MF ME (f 6),MF ME (f 7),MF ME (f 8),MF ME (f 9),MF ME (f 10),MF ME (f 11),MF ME (f 12),MF ME (f 13),MF ME (f 14),MF ME (f 15)]:=⟨_,rfl⟩;have hLl:L.length=16:=by rw[hL];rfl
 obtain⟨K,hK⟩:∃K:List M7,K=[MF ME c.flows,MF ME c.num,MF ME c.den,MF ME c.tries,MF ME c.warm,MF ME c.drain,MF ME c.idle,MF ME c.conn,MF ME c.ret,MF ME c.most,MF ME c.bn,MF ME c.bd,MF ME c.bb,MF ME c.wn,MF ME c.wf,MF ME c.wh]:=⟨_,rfl⟩;have HC:M6 (∀W:MO,Ni MK 15 #[Ny L.toArray] W fun r w'=>r=MN (Ny K.toArray)/\MQ W.heap.size W w'):=fun W=>by rw[hL,hK];exact hcon W
 have HB:M6 (∀W:MO,Ni MK 14 #[Ny K.toArray] W _):=fun W=>by rw[hK];exact U2 hc W
 have HP1:M6 _:=hp1;have HP2:M6 _:=hp2;have HP3:M6 _:=hp3;have HV:M6 (_/\_/\_/\_/\_):=⟨hV,hbn,hwn,hkn,Kw hc⟩;have hwu:IntKind.i64.wrap (1+(wn:Int))=1+wn:=jn (by omega) (by omega);show Ni MK 3 #[Ny (List.toArray [MF ME (f 0),MF ME (f 1),MF ME (f 2),MF ME (f 3),MF ME (f 4),MF ME (f 5),MF ME (f 6),MF ME (f 7),MF ME (f 8),MF ME (f 9),MF ME (f 10),MF ME (f 11),MF ME (f 12),MF ME (f 13),MF ME (f 14),MF ME (f 15)]),MF ME b,MF ME wt,MF ME key] w _;rw[<-hL];have HI:M6 (_/\_):=⟨hLl,hB.lt⟩;obtain⟨W0,hW0⟩:∃W0,W0=w.alloc (MP L.toArray 24):=⟨_,rfl⟩;have hb0:MQ w.heap.size w W0:=by rw[hW0];exact ai w
 have H0:M6 (_/\_):=⟨hb0,hB.below hb0⟩;clear hL hLl hcon hc hf hb0 hK hp1 hp2 hp3 hB hb hw hk hV hbn hwn hkn;go_enter Tryz.func3,Tryz.ntmps3
 go_wp2_with ((with_reducible refine O3 rfl 24 (O6 4) rfl w.heap.size 0 ?gx L _ ?gc Tryz.underlying24 ?gd ?gi ?_);(case gx=>rfl);(case gc=>exact J8 (M1 _ _));(case gd=>rfl);(case gi=>rw[HI.out.1];exact K0))
 rw[<-hW0];clear hW0;refine(HC.out _).mono ?_;rintro r w1 ⟨rfl,hb1⟩
 go_wp2_with fail
 refine(HB.out _).mono ?_;rintro r w2 ⟨M,rfl,hM,hb2⟩;have hb12:=(H0.out.1.trans (hb1.mono H0.out.1.size)).trans (hb2.mono (Nm H0.out.1.size hb1.size));obtain⟨W2,hW2⟩:∃W2,W2=(w2.alloc (MP wz.toArray 49)).setCells w2.heap.size 0 M:=⟨_,rfl⟩;have hZ2:(w2.alloc (MP wz.toArray 49)).heap[w2.heap.size]?=MI (MP wz.toArray 49 (0,0)):=M1 _ _;have hMl:=(hM w2 (ia.Gy _ _)).len;have hMs:M.toArray.size=26:=(show M.toArray.size=M.length from OQ).trans hMl;have hMo:=(hM w2 (ia.Gy _ _)).Jo;have hbW2:MQ w2.heap.size w2 W2:=by rw[hW2];exact tW (ai w2) (MV _) _ _ (by simp)
 have hF:VQ w W2 w2.heap.size M (qt c):=by
  refine⟨by rw[hW2];exact uQ hZ2 (by rw[hMl];rfl),fun Y hY=>?_,hb12.size,HI.out.2,hb12.trans (hbW2.mono hb12.size),(H0.out.2.below (hb1.trans (hb2.mono hb1.size))).below hbW2⟩;exact hM Y ⟨Nm hbW2.size hY.1,fun x _ h2=>(hY.2 x (M8 h2 hbW2.size) (by omega)).trans (hbW2.block x h2)⟩
 have hth:(w2.alloc (MP wz.toArray 49)).there w2.heap.size 0 M.toArray.size:=by rw[hMs];exact vR hZ2
 obtain⟨g,hg⟩:∃g,g=w2.heap.size:=⟨_,rfl⟩;have HS:M6 (_/\_/\_/\_/\_):=⟨hth,hMs,hMo,hW2,hg⟩;rw[<-hg]at hF;have HF0:M6 _:=hF;clear hb1 hb2 hb12 hW2 hZ2 hMl hMs hMo hbW2 hM hth H0 hF hg
 go_wp2_with ((with_reducible refine OW rfl 49 (O6 9) (O6 27) rfl w2.heap.size 0 M.toArray ?sx ?sy ?st ?si ?s1 ?_);(case sx=>rfl);(case sy=>rfl);(case st=>exact HS.out.1);(case si=>rw[HS.out.2.1];exact iN);(case s1=>exact HS.out.2.2.1);rw[NS,<-HS.out.2.2.2.1,<-HS.out.2.2.2.2])
 refine(HP1.out _).mono ?_;rintro r w3 ⟨rfl,rfl⟩;clear HS HC HB HP1;have HD1:M6 _:=HF0.out.GY.Mf HV.out.2.2.2.2 rfl ⟨5,0,0,0,Nb,1,bn,1+(wn:Int)⟩ (VJ (r:=1) (by omega) HV.out.2.1 HV.out.2.2.1) (fun e=>by cases e) HV.out.1.o1
 go_wp2_with fail
 apply gU
 ·intro KEY
  refine O2 (S:=fun _=>True) (by kernel_rfl) trivial (fun hHeld=>?_);clear hHeld;refine o5 1 (MF ME (bn:Int)) trivial ?_;simp only[Nr,MZ,MT,MS,MJ,ML,MM];refine o5 2 (MF ME wt) trivial ?_;simp only[Nr,MZ,MT,MS,MJ,ML,MM];refine NN (rs:=[0,3]) (by kernel_rfl) (by simp) ?_;refine NP (o:=_) rfl (fun K hK=>?_) (NP (o:=_) rfl (fun K hK=>?_) NX)
  ·refine VP (by rfl) 49 (O6 9) (by rfl) g 0 M (by rfl) (J8 (HF0.out.on (MY _ _).drew).box) OX rfl (by rw[(HF0.out.lie _ (VG.Gy _ _)).len];exact iN) ?_
   refine hK.out _ _ trivial (fun _=>?_);clear hK K;simp only[Nr,MZ,MT,MS,MJ,ML,MM];refine NN (rs:=[3]) (by kernel_rfl) (by simp) ?_;refine NP (o:=_) rfl (fun K hK=>?_) NX;go_simp;refine Nd (HP2.out _) ?_;rintro r w4 ⟨rfl,rfl⟩
   go_wp2_with fail
   refine hK.out _ _ trivial (fun _=>?_);clear hK K;refine o5 4 (MF ME (1+(wn:Int))) trivial ?_;simp only[Nr,MZ,MT,MS,MJ,ML,MM];refine o5 5 (Ny #[MF ME 5,MF ME 0,MF ME 0,MF ME 0,M3 Nb,MF ME 1,MF ME (bn:Int),MF ME (1+(wn:Int))]) trivial ?_;simp only[Nr,MZ,MT,MS,MJ,ML,MM];refine NN (rs:=[6]) (by kernel_rfl) (by simp) ?_;refine NP (o:=_) rfl (fun K hK=>?_) NX;go_simp;refine Nd (HD1.out) ?_;rintro r w5 ⟨mw1,p1,q1,rfl,hN1⟩;have HN1:M6 _:=hN1;clear hN1
   go_wp2_with fail
   refine hK.out _ _ trivial (fun _=>?_);clear hK K;refine o5 7 (Nv #[Ny mw1.toArray,MG p1 1 q1,MF ME 0]) trivial ?_;simp only[Nr,MZ,MT,MS,MJ,ML,MM];refine o5 8 (Ny mw1.toArray) trivial ?_;simp only[Nr,MZ,MT,MS,MJ,ML,MM];refine o5 9 (MG p1 1 q1) trivial ?_;simp only[Nr,MZ,MT,MS,MJ,ML,MM];refine o5 10 (MF ME 0) trivial ?_;simp only[Nr,MZ,MT,MS,MJ,ML,MM];refine NN (rs:=[11]) (by kernel_rfl) (by simp) ?_;refine ve (i:=11) (o:=_) (by rfl) (by rfl) 49 (O6 9) (O6 39) (by rfl) g 0 mw1.toArray (by rfl) (by rfl) HN1.out.th (by rw[HN1.out.len];exact iN) HN1.out.one trivial ?_;rw[NS]
   try simp only[Nr,MZ,MT,MS,MJ,ML,MM]
   refine NN (rs:=[12]) (by kernel_rfl) (by simp) ?_;refine mE (i:=12) (o:=_) (by rfl) (by rfl) (O6 40) (by rfl) (MG p1 1 q1) (by rfl) trivial ?_;refine NN (rs:=[13]) (by kernel_rfl) (by simp) ?_;refine mE (i:=13) (o:=_) (by rfl) (by rfl) (O6 41) (by rfl) (MF ME 0) (by rfl) trivial ?_;refine PS (by kernel_rfl) ?_ _;revert HN1;revert w5;revert q1;revert p1;revert mw1;exact KEY.out
  ·go_simp
   refine Nd (HP2.out _) ?_;rintro r w4 ⟨rfl,rfl⟩
   go_wp2_with fail
   refine hK.out _ _ trivial (fun _=>?_);clear hK K;refine o5 4 (MF ME (1+(wn:Int))) trivial ?_;simp only[Nr,MZ,MT,MS,MJ,ML,MM];refine o5 5 (Ny #[MF ME 5,MF ME 0,MF ME 0,MF ME 0,M3 Nb,MF ME 1,MF ME (bn:Int),MF ME (1+(wn:Int))]) trivial ?_;simp only[Nr,MZ,MT,MS,MJ,ML,MM];refine NN (rs:=[0]) (by kernel_rfl) (by simp) ?_;refine VO (i:=0) (o:=_) (by rfl) (by rfl) 49 (O6 9) (by rfl) g 0 M (by rfl) (J8 (HF0.out.on (MY _ _).drew).box) OX rfl (by rw[(HF0.out.lie _ (VG.Gy _ _)).len];exact iN) trivial ?_;simp only[Nr,MZ,MT,MS,MJ,ML,MM];refine NN (rs:=[6]) (by kernel_rfl) (by simp) ?_;refine NP (o:=_) rfl (fun K hK=>?_) NX;go_simp;refine Nd (HD1.out) ?_;rintro r w5 ⟨mw1,p1,q1,rfl,hN1⟩;have HN1:M6 _:=hN1;clear hN1
   go_wp2_with fail
   refine hK.out _ _ trivial (fun _=>?_);clear hK K;refine o5 7 (Nv #[Ny mw1.toArray,MG p1 1 q1,MF ME 0]) trivial ?_;simp only[Nr,MZ,MT,MS,MJ,ML,MM];refine o5 8 (Ny mw1.toArray) trivial ?_;simp only[Nr,MZ,MT,MS,MJ,ML,MM];refine o5 9 (MG p1 1 q1) trivial ?_;simp only[Nr,MZ,MT,MS,MJ,ML,MM];refine o5 10 (MF ME 0) trivial ?_;simp only[Nr,MZ,MT,MS,MJ,ML,MM];refine NN (rs:=[11]) (by kernel_rfl) (by simp) ?_;refine ve (i:=11) (o:=_) (by rfl) (by rfl) 49 (O6 9) (O6 39) (by rfl) g 0 mw1.toArray (by rfl) (by rfl) HN1.out.th (by rw[HN1.out.len];exact iN) HN1.out.one trivial ?_;rw[NS]
   try simp only[Nr,MZ,MT,MS,MJ,ML,MM]
   refine NN (rs:=[12]) (by kernel_rfl) (by simp) ?_;refine mE (i:=12) (o:=_) (by rfl) (by rfl) (O6 40) (by rfl) (MG p1 1 q1) (by rfl) trivial ?_;refine NN (rs:=[13]) (by kernel_rfl) (by simp) ?_;refine mE (i:=13) (o:=_) (by rfl) (by rfl) (O6 41) (by rfl) (MF ME 0) (by rfl) trivial ?_;refine PS (by kernel_rfl) ?_ _;revert HN1;revert w5;revert q1;revert p1;revert mw1;exact KEY.out
 rintro mw1 p1 q1 w5 HN1;obtain⟨u1,hu1⟩:∃u,u=w5.setCells g 0 mw1:=⟨_,rfl⟩;have hF1:=HN1.out.fb;have hO1:=HN1.out.ot;have hX1:=HN1.out.off;rw[<-HV.out.1.e1,<-hu1]at hF1;rw[<-hu1]at hO1 hX1⊢;have HF1:M6 _:=hF1;have HO1:M6 _:=hO1;clear hF1 hO1 hX1 hu1 HN1 HF0 HD1 HP2;have HD2:M6 _:=HF1.out.Mf HV.out.1.w1.1 HV.out.1.w1.2 ⟨7,0,0,0,Nb,0,0,0⟩ KQ (fun _=>by rw[HV.out.1.n1];decide) HV.out.1.o2
 go_wp2_with (first|((with_reducible refine O3 rfl 49 (O6 9) rfl g 0 ?gx mw1 _ ?gc OX ?gd ?gi ?_);(case gx=>rfl);(case gc=>exact J8 HF1.out.box);(case gd=>rfl);(case gi=>rw[(HF1.out.lie _ (VG.Gy _ _)).len];exact iN)))
 refine Nd HD2.out ?_;rintro r w5 ⟨mw2,p2,q2,rfl,hN2⟩;have HN2:M6 _:=hN2;clear hN2
 go_wp2_with ((with_reducible refine OW rfl 49 (O6 9) (O6 46) rfl g 0 mw2.toArray ?sx ?sy ?st ?si ?s1 ?_);(case sx=>rfl);(case sy=>rfl);(case st=>exact HN2.out.th);(case si=>rw[HN2.out.len];exact iN);(case s1=>exact HN2.out.one);rw[NS])
 obtain⟨u2,hu2⟩:∃u,u=w5.setCells g 0 mw2:=⟨_,rfl⟩;have hF2:=HN2.out.fb;have hO2:=HN2.out.ot;have hX2:=HN2.out.off;rw[<-HV.out.1.e2,<-hu2]at hF2;rw[<-hu2]at hO2 hX2⊢;have HF2:M6 _:=hF2;have HO2:M6 _:=hO2;replace HO1:M6 _:=HO1.out.on ((VG.Gy _ _:VG g _ _).F0 hX2);clear hF2 hO2 hX2 hu2 HN2 HF1 HD2;have HD3:M6 _:=HF2.out.GY.Mf HV.out.1.w2.1 HV.out.1.w2.2 ⟨1,kn,0,0,Nb,0,0,0⟩ (VK HV.out.2.2.2.1) (fun e=>by cases e) HV.out.1.o3
 go_wp2_with fail
 apply gU
 ·intro KEY
  refine O2 (S:=fun _=>True) (by kernel_rfl) trivial (fun hHeld=>?_);clear hHeld;refine o5 1 (MF ME key) trivial ?_;simp only[Nr,MZ,MT,MS,MJ,ML,MM];refine NN (rs:=[0,2]) (by kernel_rfl) (by simp) ?_;refine NP (o:=_) rfl (fun K hK=>?_) (NP (o:=_) rfl (fun K hK=>?_) NX)
  ·refine VP (by rfl) 49 (O6 9) (by rfl) g 0 mw2 (by rfl) (J8 (HF2.out.on (MY _ _).drew).box) OX rfl (by rw[(HF2.out.lie _ (VG.Gy _ _)).len];exact iN) ?_
   refine hK.out _ _ trivial (fun _=>?_);clear hK K;simp only[Nr,MZ,MT,MS,MJ,ML,MM];refine NN (rs:=[2]) (by kernel_rfl) (by simp) ?_;refine NP (o:=_) rfl (fun K hK=>?_) NX;go_simp;refine Nd (HP3.out _) ?_;rintro r w4 ⟨rfl,rfl⟩
   go_wp2_with fail
   refine hK.out _ _ trivial (fun _=>?_);clear hK K;refine o5 3 (Ny #[MF ME 1,MF ME (kn:Int),MF ME 0,MF ME 0,M3 Nb,MF ME 0,MF ME 0,MF ME 0]) trivial ?_;simp only[Nr,MZ,MT,MS,MJ,ML,MM];refine NN (rs:=[4]) (by kernel_rfl) (by simp) ?_;refine NP (o:=_) rfl (fun K hK=>?_) NX;go_simp;refine Nd (HD3.out) ?_;rintro r w5 ⟨mw3,p3,q3,rfl,hN3⟩;have HN3:M6 _:=hN3;clear hN3
   go_wp2_with fail
   refine hK.out _ _ trivial (fun _=>?_);clear hK K;refine o5 5 (Nv #[Ny mw3.toArray,MG p3 1 q3,MF ME 0]) trivial ?_;simp only[Nr,MZ,MT,MS,MJ,ML,MM];refine o5 6 (Ny mw3.toArray) trivial ?_;simp only[Nr,MZ,MT,MS,MJ,ML,MM];refine o5 7 (MG p3 1 q3) trivial ?_;simp only[Nr,MZ,MT,MS,MJ,ML,MM];refine o5 8 (MF ME 0) trivial ?_;simp only[Nr,MZ,MT,MS,MJ,ML,MM];refine NN (rs:=[9]) (by kernel_rfl) (by simp) ?_;refine ve (i:=9) (o:=_) (by rfl) (by rfl) 49 (O6 9) (O6 55) (by rfl) g 0 mw3.toArray (by rfl) (by rfl) HN3.out.th (by rw[HN3.out.len];exact iN) HN3.out.one trivial ?_;rw[NS]
   try simp only[Nr,MZ,MT,MS,MJ,ML,MM]
   refine NN (rs:=[10]) (by kernel_rfl) (by simp) ?_;refine mE (i:=10) (o:=_) (by rfl) (by rfl) (O6 56) (by rfl) (MG p3 1 q3) (by rfl) trivial ?_;refine NN (rs:=[11]) (by kernel_rfl) (by simp) ?_;refine mE (i:=11) (o:=_) (by rfl) (by rfl) (O6 57) (by rfl) (MF ME 0) (by rfl) trivial ?_;refine PS (by kernel_rfl) ?_ _;revert HN3;revert w5;revert q3;revert p3;revert mw3;exact KEY.out
  ·go_simp
   refine Nd (HP3.out _) ?_;rintro r w4 ⟨rfl,rfl⟩
   go_wp2_with fail
   refine hK.out _ _ trivial (fun _=>?_);clear hK K;refine o5 3 (Ny #[MF ME 1,MF ME (kn:Int),MF ME 0,MF ME 0,M3 Nb,MF ME 0,MF ME 0,MF ME 0]) trivial ?_;simp only[Nr,MZ,MT,MS,MJ,ML,MM];refine NN (rs:=[0]) (by kernel_rfl) (by simp) ?_;refine VO (i:=0) (o:=_) (by rfl) (by rfl) 49 (O6 9) (by rfl) g 0 mw2 (by rfl) (J8 (HF2.out.on (MY _ _).drew).box) OX rfl (by rw[(HF2.out.lie _ (VG.Gy _ _)).len];exact iN) trivial ?_;simp only[Nr,MZ,MT,MS,MJ,ML,MM];refine NN (rs:=[4]) (by kernel_rfl) (by simp) ?_;refine NP (o:=_) rfl (fun K hK=>?_) NX;go_simp;refine Nd (HD3.out) ?_;rintro r w5 ⟨mw3,p3,q3,rfl,hN3⟩;have HN3:M6 _:=hN3;clear hN3
   go_wp2_with fail
   refine hK.out _ _ trivial (fun _=>?_);clear hK K;refine o5 5 (Nv #[Ny mw3.toArray,MG p3 1 q3,MF ME 0]) trivial ?_;simp only[Nr,MZ,MT,MS,MJ,ML,MM];refine o5 6 (Ny mw3.toArray) trivial ?_;simp only[Nr,MZ,MT,MS,MJ,ML,MM];refine o5 7 (MG p3 1 q3) trivial ?_;simp only[Nr,MZ,MT,MS,MJ,ML,MM];refine o5 8 (MF ME 0) trivial ?_;simp only[Nr,MZ,MT,MS,MJ,ML,MM];refine NN (rs:=[9]) (by kernel_rfl) (by simp) ?_;refine ve (i:=9) (o:=_) (by rfl) (by rfl) 49 (O6 9) (O6 55) (by rfl) g 0 mw3.toArray (by rfl) (by rfl) HN3.out.th (by rw[HN3.out.len];exact iN) HN3.out.one trivial ?_;rw[NS]
   try simp only[Nr,MZ,MT,MS,MJ,ML,MM]
   refine NN (rs:=[10]) (by kernel_rfl) (by simp) ?_;refine mE (i:=10) (o:=_) (by rfl) (by rfl) (O6 56) (by rfl) (MG p3 1 q3) (by rfl) trivial ?_;refine NN (rs:=[11]) (by kernel_rfl) (by simp) ?_;refine mE (i:=11) (o:=_) (by rfl) (by rfl) (O6 57) (by rfl) (MF ME 0) (by rfl) trivial ?_;refine PS (by kernel_rfl) ?_ _;revert HN3;revert w5;revert q3;revert p3;revert mw3;exact KEY.out
 rintro mw3 p3 q3 w5 HN3;obtain⟨u3,hu3⟩:∃u,u=w5.setCells g 0 mw3:=⟨_,rfl⟩;have hF3:=HN3.out.fb;have hO3:=HN3.out.ot;have hX3:=HN3.out.off;rw[<-HV.out.1.e3,<-hu3]at hF3;rw[<-hu3]at hO3 hX3⊢;have HF3:M6 _:=hF3;have HO3:M6 _:=hO3;replace HO1:M6 _:=HO1.out.on ((VG.of (MY _ _).drew:VG g _ _).F0 hX3);clear hF3 hO3 hX3 hu3 HN3 HF2 HD3 HP3;have HD4:M6 _:=HF3.out.Mf HV.out.1.w3.1 HV.out.1.w3.2 ⟨4,0,0,0,Nw,0,0,0⟩ (by decide) (fun e=>by cases e) HV.out.1.o4
 go_wp2_with (first|((with_reducible refine O3 rfl 49 (O6 9) rfl g 0 ?gx mw3 _ ?gc OX ?gd ?gi ?_);(case gx=>rfl);(case gc=>exact J8 HF3.out.box);(case gd=>rfl);(case gi=>rw[(HF3.out.lie _ (VG.Gy _ _)).len];exact iN)))
 refine Nd HD4.out ?_;rintro r w5 ⟨mw4,p4,q4,rfl,hN4⟩;obtain⟨u4,hu4⟩:∃u,u=w5.setCells g 0 mw4:=⟨_,rfl⟩;have HS4:M6 (_/\_/\_/\_):=⟨hN4.th,hN4.len,hN4.one,hu4⟩;have hF4:=hN4.fb;have hO4:=hN4.ot;have hX4:=hN4.off;rw[<-HV.out.1.e4,<-hu4]at hF4;rw[<-hu4]at hO4 hX4;have HF4:M6 _:=hF4;have HO4:M6 _:=hO4;replace HO1:M6 _:=HO1.out.on hX4;replace HO3:M6 _:=HO3.out.on hX4;clear hF4 hO4 hX4 hu4 hN4 HF3 HD4;have HD5:M6 _:=HF4.out.Mf HV.out.1.w4.1 HV.out.1.w4.2 ⟨3,0,0,0,Nb,0,0,0⟩ (by decide) (fun e=>by cases e) HV.out.1.o5
 go_wp2_with (first|((with_reducible refine OW rfl 49 (O6 9) (O6 62) rfl g 0 mw4.toArray ?sx ?sy ?st ?si ?s1 ?_);(case sx=>rfl);(case sy=>rfl);(case st=>exact HS4.out.1);(case si=>rw[HS4.out.2.1];exact iN);(case s1=>exact HS4.out.2.2.1);rw[NS,<-HS4.out.2.2.2])|((with_reducible refine O3 rfl 49 (O6 9) rfl g 0 ?gx mw4 _ ?gc OX ?gd ?gi ?_);(case gx=>rfl);(case gc=>exact J8 HF4.out.box);(case gd=>rfl);(case gi=>rw[(HF4.out.lie _ (VG.Gy _ _)).len];exact iN)))
 refine Nd HD5.out ?_;rintro r w7 ⟨mw7,p7,q7,rfl,hN⟩;obtain⟨u8,hu8⟩:∃u8,u8=(w7.alloc (MP wz.toArray 49)).setCells w7.heap.size 0 mw7:=⟨_,rfl⟩;have hZ:(w7.alloc (MP wz.toArray 49)).heap[w7.heap.size]?=MI (MP wz.toArray 49 (0,0)):=M1 _ _;have hb8:MQ w7.heap.size w7 u8:=by rw[hu8];exact tW (ai w7) (MV _) _ _ (by simp)
 have hth:(w7.alloc (MP wz.toArray 49)).there w7.heap.size 0 mw7.toArray.size:=by rw[hN.len];exact vR hZ
 have hO:VG g u4 u8:=VG.of (hN.bel.trans (hb8.mono hN.bel.size));have hr1:=HO1.out.all u8 hO;have hr3:=HO3.out.all u8 hO;have hr4:=HO4.out.all u8 hO;have hr7:=hN.kp u8 hb8;obtain⟨b1,o1,rfl,x10,_⟩:=VN hr1 rfl;obtain⟨b3,o3,rfl,x30,x31,x32,x33,x34,x35,x36⟩:=VN hr3 rfl;obtain⟨b4,o4,rfl,x40,x41,x42,x43,x44,x45,x46⟩:=VN hr4 rfl;obtain⟨b7,o7,rfl,x70,x71,x72,x73,x74,x75,x76⟩:=VN hr7 rfl;have l1:b1<u8.heap.size:=MX u8 ⟨b1,o1,MH⟩ x10;have l3:b3<u8.heap.size:=MX u8 ⟨b3,o3,MH⟩ x30;have l4:b4<u8.heap.size:=MX u8 ⟨b4,o4,MH⟩ x40;have l7:b7<u8.heap.size:=MX u8 ⟨b7,o7,MH⟩ x70;have hbf:MQ w.heap.size w u8:=HF4.out.bel.trans ((hN.bel.trans (hb8.mono hN.bel.size)).mono HF4.out.bel.size);have HY:M6 (_/\_/\_/\_/\_):=⟨hth,hN.len,hN.one,hu8,hbf⟩;clear hu8 hZ hb8 hth hO hr1 hr3 hr4 hr7 hbf hN HD5 HF4 HO1 HO3 HO4
 go_wp2_with ((with_reducible refine OW rfl 49 (O6 20) (O6 69) rfl w7.heap.size 0 mw7.toArray ?sx ?sy ?st ?si ?s1 ?_);(case sx=>rfl);(case sy=>rfl);(case st=>exact HY.out.1);(case si=>rw[HY.out.2.1];exact iN);(case s1=>exact HY.out.2.2.1);rw[NS,<-HY.out.2.2.2.1])
 go_ret;exact⟨rfl,HY.out.2.2.2.2⟩
end Go.Proofs.YtinbndbjlgoghaaGreatDoor.Q
