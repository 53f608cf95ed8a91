/-
  TopOut: its walk. Conditions: as each theorem says.
-/
import Derived.Test.YtinbndbjlgoghaaGreatDoorQ20
open Bool renaming false->Nb,true->Nw
open Go renaming Calls->Ni,Value->M7,World->MO,cell_of_row->MW,heap_alloc_new->M1,wpList_load_mid->O3
open Go.Ending renaming returned->MN
open Go.IntKind renaming i64->ME,wrap_i64->Ow
open Go.Obj renaming cells->MP
open Go.Operand renaming tmp->O6
open Go.Proofs.Tryz renaming prog->MK,underlying49->OX
open Go.RowKit renaming Below->MQ,Hid->M6
open Go.RowKit.Below renaming refl->MY
open Go.Value renaming agg->Ny,bool->M3,int->MF,slice->MG
open Int renaming le_refl->Qh
open List renaming getD_eq_getElem?_getD->NK,getElem?_append_left->OJ,getElem?_append_right->Tw,getElem?_eq_getElem->MR,getElem_mem->Nk,map_congr_left->PU,map_cons->OA,mem_cons_of_mem->NB,mem_of_getElem?->Nu,range->Pm,sum_cons->VO
open Nat renaming add_sub_cancel_left->VN,zero_le->Nx
open Option renaming none->MH,some->MI
open Or renaming inl->Nt,inr->NF
namespace Go.Proofs.YtinbndbjlgoghaaGreatDoor.Q
set_option linter.unusedVariables false
set_option linter.unusedSimpArgs false
set_option maxHeartbeats 16000000
set_option maxRecDepth 100000
open Go.RowKit
attribute [local go_sem ↓] Go.wp_at_zero Go.wp_at_succ
variable {w:MO}{V:Pv}{P:Py}
section
variable {A:Gt}{c:Cf}{P:Py}
theorem Rn.VG(h:Rn A c P):(∀s,P.steps[0]?=MI s->s.bef=A)/\(P.steps=[]->P.last=A):=by
 refine h.Mw (J:=fun P=>(∀s,P.steps[0]?=MI s->s.bef=A)/\(P.steps=[]->P.last=A)) ⟨(fun s hs=>absurd hs (by simp)),fun _=>rfl⟩ fun Q e hQ he hl hJ=>?_
 refine⟨fun s hs=>?_,fun hn=>?_⟩
 ·have hs:(Q.steps++[(⟨e,Q.last,(iG Q.last e).Ma,(iG Q.last e).out⟩:Sp)])[0]?=MI s:=hs
  by_cases h0:Q.steps=[]
  ·rw[h0]at hs
   cases hs;exact hJ.2 h0
  ·rw[OJ (List.length_pos_iff.2 h0)]at hs
   exact hJ.1 s hs
 ·have hn:Q.steps++[(⟨e,Q.last,(iG Q.last e).Ma,(iG Q.last e).out⟩:Sp)]=[]:=hn
  simp at hn
theorem Rn.VI{J:Nat->Gt->Prop}(h:Rn A c P)(h0:J 0 A)(hs:∀n s,JM c s->J n s.bef->J (n+1) s.aft) :
  (∀i s,P.steps[i]?=MI s->J i s.bef/\J (i+1) s.aft)/\J P.steps.length P.last:=by
 have h1:∀i s,P.steps[i]?=MI s->J i s.bef:=by
  intro i
  induction i with
  |zero=>intro s q;rw[h.VG.1 s q];exact h0
  |succ i ih =>
   intro s q;have hi:=(List.getElem?_eq_some_iff.1 q).1;have q1:P.steps[i]?=MI P.steps[i]:=MR (by omega);rw[h.runs.next i _ s q1 q];exact hs i _ (h.runs.chain _ (Nk _)) (ih _ q1)
 have h2:∀i s,P.steps[i]?=MI s->J i s.bef/\J (i+1) s.aft:=fun i s q=>⟨h1 i s q,hs i s (h.runs.chain s (Nu q)) (h1 i s q)⟩
 refine⟨h2,?_⟩
 by_cases hn:P.steps=[]
 ·rw[h.VG.2 hn,hn];exact h0
 ·have hp:=List.length_pos_iff.2 hn
  have q:P.steps[P.steps.length-1]?=MI P.steps[P.steps.length-1]:=MR (by omega);rw[h.runs.tail _ q];have:=(h2 _ _ q).2;rwa[show P.steps.length-1+1=P.steps.length by omega]at this
theorem JM.next{s:Sp}(h:JM c s):Wm s.aft:=by rw[h.aft];exact(h.wm.Mm (D5 h.ev) h.late).Ma
end
section
variable {G:Gt}{c:Cf}
theorem U9{X:Gt}(hb:bX X.liv X.req)(d b:Int):aq (cj X d).liv b=aq X.liv b\/(b=d/\aA X.liv b=3/\aA (cj X d).liv b=4):=by
 unfold cj
 split
 ·rename_i hc
  show aq (eL X.liv X.req d).1.1 b=aq X.liv b\/(b=d/\aA X.liv b=3/\(aq (eL X.liv X.req d).1.1 b).2.1=4);rw[(vD hb hc.1).1];show aq (cU X.liv d dC) b=aq X.liv b\/(b=d/\aA X.liv b=3/\(aq (cU X.liv d dC) b).2.1=4);rw[zZ hb.1.2.2 hc.1]
  by_cases e:b=d
  ·subst e
   rw[Nh rfl];exact NF ⟨rfl,hc.1,rfl⟩
  ·rw[Nf e];exact Nt rfl
 ·exact Nt rfl
theorem Va{X:Gt}(hb:bX X.liv X.req)(d b:Int):aA (cj X d).liv b=2↔aA X.liv b=2:=by
 rcases U9 hb d b with h|⟨_,h1,h2⟩
 ·rw[show aA (cj X d).liv b=(aq (cj X d).liv b).2.1 from rfl,h]
 ·rw[h1,h2];decide
end
section
variable {G:Gt}{c:Cf}
theorem Vb(h:Bs G){b:Int}(hb:0<=b/\b<12)(x:Bool) :
  (∃k,(G.hea.getD b.toNat bm).out=Nb/\gy G b=Nw/\(1<=k/\k<=500)/\mr G b x=⟨[],Nw,G.now+k,min ((G.hea.getD b.toNat bm).times+1) 10⟩) \/
  ∃l,mr G b x={G.hea.getD b.toNat bm with marks:=l}:=by
 have h1:=h.IE hb;have hd:=tC (d:=G.cfg.wh) (t:=(G.hea.getD b.toNat bm).times) h.Gx.2.2.1;have ha:cD G.cfg.wn G.cfg.wf G.cfg.wh (G.hea.getD b.toNat bm).marks.length (G.hea.getD b.toNat bm).out (G.hea.getD b.toNat bm).till (G.hea.getD b.toNat bm).times G.now=0:=by unfold cD;rw[Nh h.Gx,Nh h.GN,Nh h1]
 unfold mr di;rw[Nh ha]
 split
 ·rename_i hc
  exact Nt ⟨_,hc.1,hc.2.1,hd,rfl⟩
 ·exact NF ⟨_,rfl⟩
variable {Q:Int->He->Prop}
structure U0(c:Cf)(Q:Int->He->Prop):Prop where
 zero:∀n,Q n bm
 next:∀n h,Q n h->Q (n+1) h
 marks:∀n h l,Q n h->Q n {h with marks:=l}
 back:∀n h,Q n h->Q n ⟨h.marks,Nb,0,h.times⟩
 thrown:∀(X:Gt) b (h:He) k,X.cfg=c->gy X b=Nw->h.out=Nb->(1<=k/\k<=500)->Q X.now h->Q X.now ⟨[],Nw,X.now+k,min (h.times+1) 10⟩
def UZ(c:Cf)(n:Int)(Q:Int->He->Prop)(X:Gt):Prop:=X.cfg=c/\X.now=n/\∀h∈X.hea,Q n h
variable {X:Gt}{n:Int}
theorem UZ.GA(h:UZ c n Q X)(hs:U0 c Q)(hb:Bs X){b:Int}(hbb:0<=b/\b<12)(x:Bool):UZ c n Q (dg X b x):=by
 refine⟨h.1,h.2.1,fun y hy=>?_⟩;rcases iC hy with rfl|hy
 ·have hlt:b.toNat<X.hea.length:=by rw[hb.hel];omega
  have hq:Q n (X.hea.getD b.toNat bm):=by
   rw[NK,MR hlt];exact h.2.2 _ (Nk hlt)
  rcases Vb hb hbb x with⟨k,h1,h2,h3,e⟩|⟨l,e⟩
  ·rw[e]
   have:=hs.thrown X b _ k h.1 h2 h1 h3 (by rw[h.2.1];exact hq);rw[h.2.1]at this⊢;exact this
  ·rw[e];exact hs.marks _ _ _ hq
 ·exact h.2.2 y hy
theorem UZ.drain(h:UZ c n Q X)(b:Int):UZ c n Q (cj X b):=by
 obtain⟨e1,_,e3,e4,_⟩:=ET (G:=X) b;exact⟨e3.trans h.1,e1.trans h.2.1,fun y hy=>h.2.2 y (by rw[<-e4];exact hy)⟩
theorem UZ.ends(h:UZ c n Q X)(f:Fl)(k y:Int):UZ c n Q (dn X f k y):=by
 unfold dn;refine UZ.drain ?_ _;exact h
theorem UZ.Mg(h:UZ c n Q X)(hs:U0 c Q)(hb:Bs X){i:Nat}(hi:i<X.fls.length)(y:Int):UZ c n Q (dP X i y):=by
 have b4:=(hb.F9 (Nk hi)).2.2.2;have hn:=h.GA hs hb b4 Nw;rcases pI hb hi y with⟨z,q,hz⟩|⟨b,q,hd,hr,h2,hc,_⟩
 ·rw[q];exact hn.ends _ _ _
 ·obtain⟨T,e⟩:=KA (G:={dg X X.fls[i].be Nw with tok:=X.tok-X.cfg.bd}) hi b
  rw[q,e];refine UZ.drain ?_ _;exact hn
theorem Vl(hm:Wm G){e:Ev}(he:fB e)(h7:e.kind=7->G.now+1<=1099511626776)(hs:U0 G.cfg Q)(h:∀x∈G.hea,Q G.now x):∀x∈(iG G e).hea,Q (iG G e).now x:=by
 have hb:=hm.im.bs
 suffices ∃n,UZ G.cfg n Q (iG G e)by
  obtain⟨n,h1⟩:=this;rw[h1.2.1];exact h1.2.2
 have h0:UZ G.cfg G.now Q G:=⟨rfl,rfl,h⟩;unfold iG
 split
 ·refine⟨G.now,?_⟩
  rcases J7 hb he.key with⟨q,_⟩|⟨q,_⟩|⟨k,hlt,_,_,hc,_,_,hg,_,q⟩ <;> (rw[q];exact h0)
 ·split
  ·exact⟨_,h0⟩
  ·split
   ·refine⟨G.now,?_⟩
    unfold nC
    split
    ·exact h0
    ·split
     ·exact h0
     ·exact UZ.drain (X:={fO G 2 e with wts:=G.wts.set e.be.toNat 0}) h0 _
   ·split
    ·rename_i k7
     refine⟨G.now+1,KG (R:=UZ G.cfg (G.now+1) Q) hm (h7 k7) ?_ (fun X f y hX hf hy hR=>hR.ends _ _ _) (fun X i hX hi hv hR=>hR.Mg hs hX.bs hi _)⟩;have hb1:=hb.next (h7 k7);obtain⟨e1,_,e3,e4,_⟩:=yj hb1;refine⟨e4,e1,fun x hx=>?_⟩;obtain⟨y,hy,rfl⟩:=List.mem_map.1 (show x∈(eE {G with now:=G.now+1}).hea.map (gK (eE {G with now:=G.now+1}))from hx);have hy2:Q (G.now+1) y:=by
      rw[nf hb1]at hy;have key:∀(l:List Int) (X:Gt),(∀h∈X.hea,Q (G.now+1) h)->∀h∈(l.foldl cV X).hea,Q (G.now+1) h:=by
       intro l
       induction l with
       |nil=>exact fun X h=>h
       |cons b l ih =>
        intro X hX;refine ih _ fun h hh=>?_
        rcases iC (show h∈X.hea.set b.toNat bm from hh)with rfl|hh
        ·exact hs.zero _
        ·exact hX h hh
      refine key _ _ (fun h hh=>?_) y hy;exact hs.next _ _ (h0.2.2 h hh)
     rw[A2 hb1.Jf hy]
     split
     ·exact hs.back _ _ hy2
     ·exact hy2
    ·refine⟨G.now,?_⟩
     rcases Kt hb e with⟨hc,q⟩|⟨i,hi,_,_,_,⟨_,q⟩|⟨_,q⟩|⟨_,_,⟨_,q⟩|⟨_,_,q⟩|⟨hv,_,q⟩⟩⟩
     ·rw[q];exact h0
     ·rw[q];exact h0.ends _ _ _
     ·obtain⟨T,e1⟩:=Ku hi
      rw[q,e1];exact h0
     ·rw[q];exact h0
     ·obtain⟨T,e1⟩:=KC hi
      rw[q,e1];exact h0.GA hs hb (hb.F9 (Nk hi)).2.2.2 Nb
     ·rw[q];exact h0.Mg hs hb hi _
theorem Rn.till{A:Gt}(h:Rn A c P)(h0:∀x∈A.hea,x.out=Nb):∀s∈P.steps,∀x∈s.aft.hea,x.out=Nw->s.aft.now<x.till/\x.till<=s.aft.now+500:=by
 intro s hs x hx ho;obtain⟨i,hi,rfl⟩:=List.getElem_of_mem hs;have hk:=h.runs.chain _ hs;have hs:U0 c (fun n h=>h.out=Nw->h.till<=n+500):=by
  refine⟨fun n h=>(by simp at h),fun n h hq ho=>?_,fun _ _ _ h=>h,fun _ _ _ h=>(by simp at h),fun X b h k hX hm _ hk _ _=>?_⟩
  ·have:=hq ho;omega
  ·show X.now+k<=X.now+500
   omega
 refine⟨hk.next.out x hx ho,?_⟩;exact(((h.VI (J:=fun _ G=>∀x∈G.hea,x.out=Nw->x.till<=G.now+500) (fun x hx ho=>by rw[h0 x hx]at ho;cases ho) fun n s hs' hJ=>by
  rw[hs'.aft];exact Vl (Q:=fun n h=>h.out=Nw->h.till<=n+500) hs'.wm (D5 hs'.ev) hs'.late (by rw[hs'.cfg];exact hs) hJ).1 i _ (MR hi)).2 x hx ho)
end
section
variable {G:Gt}
theorem Vk{g:Nat->Int}:∀(l:List Nat) (n:Nat),l.Nodup->n∈l->(∀b∈l,b≠n->g b=0)->(l.map g).sum=g n
 | [],n,_,h,_=>by cases h
 |a::l,n,hn,h,hz=>by
  obtain⟨h1,h2⟩:=List.nodup_cons.1 hn;rw[OA,VO]
  by_cases e:a=n
  ·subst e
   have:(l.map g).sum=0:=by
    have h0:∀b∈l,g b=0:=fun b hb=>hz b (NB _ hb) fun e=>h1 (e ▸ hb)
    clear hz hn h h1 h2
    induction l with
    |nil=>rfl
    |cons b l ih=>rw[OA,VO,h0 b (by simp),ih fun x hx=>h0 x (NB _ hx)];rfl
   omega
  ·rcases List.mem_cons.1 h with h|h
   ·exact absurd h.symm e
   ·rw[hz a (by simp) e,Vk l n h2 h fun b hb=>hz b (NB _ hb)]
    omega
theorem Vg{f g:Nat->Int}(l:List Nat):(l.map fun b=>f b+g b).sum=(l.map f).sum+(l.map g).sum:=by
 induction l with
 |nil=>rfl
 |cons a l ih=>simp only[OA,VO,ih];omega
theorem Vi(W:FV->Int):∀(L:List FV),eo L->(∀x∈L,0<=x.1/\x.1<12)->((Pm 12).map fun b:Nat=>if aA L b=2 then W (aq L b)else 0).sum=((L.filter fun l=>l.2.1 == 2).map W).sum
 | [],_,_=>by
  have:((Pm 12).map fun b:Nat=>if aA [] b=2 then W (aq [] b)else 0)=(Pm 12).map fun _=>0:=PU fun b _=>by rw[Nf (by show ¬(0:Int)=2;decide)]
  rw[this];rfl
 |y::L,hr,hb=>by
  obtain⟨h1,h2⟩:=List.pairwise_cons.1 hr;have ih:=Vi W L h2 fun x hx=>hb x (NB _ hx)
  have hy:=hb y (by simp);have hnone:aq L y.1=fE:=tP fun x hx=>by have:=h1 x hx;omega
  have key:∀b∈Pm 12,(if aA (y::L) b=2 then W (aq (y::L) b)else 0)=(if(b:Int)=y.1 then(if y.2.1=2 then W y else 0)else 0)+(if aA L b=2 then W (aq L b)else 0):=fun b _=>by
   by_cases e:(b:Int)=y.1
   ·have q:aq (y::L) b=y:=by rw[e];exact iZ hr (by simp)
    have q2:aq L b=fE:=by rw[e];exact hnone
    rw[show aA (y::L) b=(aq (y::L) b).2.1 from rfl,q,show aA L b=(aq L b).2.1 from rfl,q2,Nh e,Nf (show ¬fE.2.1=2 by decide)];omega
   ·have q:aq (y::L) b=aq L b:=by
     unfold aq;rw[List.find?_cons_of_neg (by simpa using fun h:y.1=(b:Int)=>e h.symm)]
    rw[show aA (y::L) b=(aq (y::L) b).2.1 from rfl,q,Nf e,Int.zero_add]
  rw[PU key,Vg,ih,Vk (g:=fun b:Nat=>if(b:Int)=y.1 then(if y.2.1=2 then W y else 0)else 0) (Pm 12) y.1.toNat List.nodup_range (List.mem_range.2 (by omega)) fun b _ hne=>Nf (by omega),Nh (by omega)]
  by_cases e:y.2.1=2
  ·rw[Nh e,List.filter_cons_of_pos (by simpa using e),OA,VO]
  ·rw[Nf e,List.filter_cons_of_neg (by simpa using e)]
   omega
end
def Vc(G:Gt)(b:Int):Int:=if aA G.liv b=2 then(if(G.hea.getD b.toNat bm).out then 1 else 0)else 0
def U2(G:Gt)(b:Int):Int:=if aA G.liv b=2 then 1 else 0
def Ve(g:Int->Int)(n:Nat):Int:=((Pm n).map fun b:Nat=>g b).sum
theorem Vf(g:Int->Int)(n:Nat):Ve g (n+1)=Ve g n+g n:=by
 unfold Ve;rw[List.range_succ,List.map_append,List.sum_append];simp
section
variable {G:Gt}{c:Cf}
theorem U4(p:FV->Bool):∀L:List FV,((L.countP fun l=>(l.2.1 == 2) && p l:Nat):Int)=((L.filter fun l=>l.2.1 == 2).map fun l=>if p l then(1:Int)else 0).sum
 | []=>rfl
 |l::L=>by
  have ih:=U4 p L;rw[List.countP_cons,List.filter_cons]
  by_cases h1:l.2.1=2
  ·cases h2:p l <;> simp[h1,h2,ih]
   omega
  ·simp[h1,ih]
theorem Vd(h:Bs G):Ve (Vc G) 12=(fN G.liv G.hea:Int):=by
 have h1:=Vi (fun l=>if(G.hea.getD l.1.toNat bm).out then(1:Int)else 0) G.liv h.Gv fun x hx=>by have:=(h.lf hx).1.1;omega
 unfold fN;rw[U4 (fun l=>(G.hea.getD l.1.toNat bm).out),<-h1];unfold Ve;refine congrArg List.sum (PU fun b _=>?_);unfold Vc
 split
 ·rename_i h2
  rw[(kQ (by rw[h2];decide)).2]
 ·rfl
theorem U3(h:Bs G):Ve (U2 G) 12=(gv G.liv:Int):=by
 have h1:=Vi (fun _=>(1:Int)) G.liv h.Gv fun x hx=>by have:=(h.lf hx).1.1;omega
 have h2:=U4 (fun _=>Nw) G.liv;simp only[Bool.and_true,if_true]at h2;unfold gv;rw[h2,<-h1];rfl
def U1(G X:Gt):Prop:=(∀b:Int,aA X.liv b=2↔aA G.liv b=2)/\X.cfg=G.cfg/\((∀b:Int,0<=b/\b<12->(X.hea.getD b.toNat bm).out=(G.hea.getD b.toNat bm).out) \/
 ∃b:Int,(0<=b/\b<12)/\gy G b=Nw/\∀x:Int,0<=x/\x<12->x≠b->(X.hea.getD x.toNat bm).out=(G.hea.getD x.toNat bm).out)
theorem U1.Gy(G:Gt):U1 G G:=⟨fun _=>Iff.rfl,rfl,Nt fun _ _=>rfl⟩
theorem Vn(h:Bs G){b:Int}(hb:0<=b/\b<12)(x:Bool):U1 G (dg G b x):=by
 refine⟨fun _=>Iff.rfl,rfl,?_⟩;have hlt:b.toNat<G.hea.length:=by rw[h.hel];omega
 have hset:∀y:Int,0<=y/\y<12->((dg G b x).hea.getD y.toNat bm)=if y=b then mr G b x else G.hea.getD y.toNat bm:=fun y hy=>by
  show(G.hea.set b.toNat (mr G b x)).getD y.toNat bm=_;rw[NK,List.getElem?_set]
  by_cases e:y=b
  ·subst e;simp[hlt]
  ·rw[Nf (by omega),Nf e,NK]
 rcases Vb h hb x with⟨k,h1,h2,h3,e⟩|⟨l,e⟩
 ·exact NF ⟨b,hb,h2,fun y hy hne=>by rw[hset y hy,Nf hne]⟩
 ·refine Nt fun y hy=>?_
  rw[hset y hy]
  split
  ·rename_i hyb
   rw[hyb,e]
  ·rfl
theorem U1.drain{X:Gt}(h:U1 G X)(hb:bX X.liv X.req)(d:Int):U1 G (cj X d):=by
 obtain⟨_,_,e3,e4,_⟩:=ET (G:=X) d;refine⟨fun b=>(Va hb d b).trans (h.1 b),e3.trans h.2.1,?_⟩;rw[e4];exact h.2.2
theorem Vm(hm:Wm G){e:Ev}(h4:e.kind=4):U1 G (iG G e):=by
 have hb:=hm.im.bs;have e1:iG G e=mW G e:=by unfold iG;rw[Nf (by omega),Nf (by omega),Nf (by omega),Nf (by omega)]
 rw[e1];rcases Kt hb e with⟨hc,q⟩|⟨i,hi,_,_,_,⟨k3,q⟩|⟨k2,q⟩|⟨_,_,⟨_,q⟩|⟨_,_,q⟩|⟨hv,_,q⟩⟩⟩
 ·rw[q];exact U1.Gy G
 ·omega
 ·omega
 ·rw[q];exact U1.Gy G
 ·obtain⟨T,e1⟩:=KC hi
  rw[q,e1];exact Vn hb (hb.F9 (Nk hi)).2.2.2 Nb
 ·have hf:=Nk hi
  have b4:=(hb.F9 hf).2.2.2;have hn:=Vn hb b4 Nw;have hbn:=hb.GA b4 Nw;rw[q];rcases pI hb hi 3 with⟨z,q,hz⟩|⟨b,q,hd,hr,h2,hc,_⟩
  ·rw[q]
   unfold dn;refine U1.drain ?_ ?_ _
   ·exact hn
   ·exact hb.book
  ·obtain⟨T,e⟩:=KA (G:={dg G G.fls[i].be Nw with tok:=G.tok-G.cfg.bd}) hi b
   rw[q,e];refine U1.drain ?_ ?_ _
   ·exact hn
   ·exact hb.book
theorem Vh{g k:Int->Int}:∀n:Nat,(∀b:Nat,b<n->g b<=k b)->Ve g n<=Ve k n
 |0,_=>Qh _
 |n+1,h=>by
  rw[Vf,Vf];have:=Vh n fun b hb=>h b (by omega)
  have:=h n (by omega);omega
theorem Vj{g k:Int->Int}{x:Nat}:∀n:Nat,(∀b:Nat,b<n->b≠x->g b<=k b)->g x<=k x+1->Ve g n<=Ve k n+1
 |0,_,_=>by show(0:Int)<=0+1;omega
 |n+1,h,h1=>by
  rw[Vf,Vf]
  by_cases e:n=x
  ·subst e
   have:=Vh n fun b hb=>h b (by omega) (by omega)
   omega
  ·have:=Vj n (fun b hb=>h b (by omega)) h1
   have:=h n (by omega) e;omega
theorem JM.thrown{s:Sp}(h:JM c s)(h4:s.ev.kind=4)(hlt:Ve (Vc s.bef) 12<Ve (Vc s.aft) 12):Ve (Vc s.aft) 12*100<=c.most*Ve (U2 s.aft) 12:=by
 have hb:=h.wm.im.bs;obtain⟨t1,t2,t3⟩:=Vm h.wm h4;have e1:Ve (Vc s.aft) 12=Ve (Vc (iG s.bef s.ev)) 12:=by rw[h.aft];rfl
 have e2:Ve (U2 s.aft) 12=Ve (U2 s.bef) 12:=by
  rw[h.aft];unfold Ve;refine congrArg List.sum (PU fun b _=>?_);unfold U2;show(if aA (iG s.bef s.ev).liv b=2 then(1:Int)else 0)=_
  by_cases e:aA s.bef.liv b=2
  ·rw[Nh e,Nh ((t1 b).2 e)]
  ·rw[Nf e,Nf fun h=>e ((t1 b).1 h)]
 rw[e1]at hlt⊢;rw[e2];have hI:∀b:Nat,(((iG s.bef s.ev).hea.getD (b:Int).toNat bm).out=(s.bef.hea.getD (b:Int).toNat bm).out)->Vc (iG s.bef s.ev) b<=Vc s.bef b:=fun b e=>by
  unfold Vc;rw[e]
  by_cases e2:aA s.bef.liv b=2
  ·rw[Nh e2,Nh ((t1 b).2 e2)];exact Qh _
  ·rw[Nf e2,Nf fun h=>e2 ((t1 b).1 h)];exact Qh _
 rcases t3 with t3|⟨x,hx,hm,t3⟩
 ·have:=Vh 12 fun b hb=>hI b (t3 b ⟨by omega,by omega⟩)
  omega
 ·have h1:Vc (iG s.bef s.ev) x<=1:=by unfold Vc;split <;> (try split) <;> omega
  have h0:0<=Vc s.bef x:=by unfold Vc;split <;> (try split) <;> omega
  have hxx:((x.toNat:Nat):Int)=x:=by omega
  have:=Vj (x:=x.toNat) 12 (fun b hb hne=>hI b (t3 b ⟨by omega,by omega⟩ (by omega))) (by rw[hxx];omega);rw[Vd hb]at this hlt;rw[U3 hb];unfold gy iU at hm;rw[h.cfg]at hm
  split at hm
  ·simp only[Bool.and_eq_true,decide_eq_true_eq]at hm
   have:=hm.1;omega
  ·simp at hm
end
abbrev VA:List Value:=[MF ME 0,MF ME 0,MF ME 0,MF ME 0,M3 Nb,MF ME 0,MF ME 0,MF ME 0,MF ME 0,MF ME 0,MF ME 0,MF ME 0,MF ME 0,MF ME 0,MF ME 0,MF ME 0,MF ME 0,MF ME 0,MF ME 0,MF ME 0,MF ME 0,MF ME 0,MF ME 0,MF ME 0,MF ME 0,MG MH 0 0,MG MH 0 0,MG MH 0 0,MG MH 0 0,MG MH 0 0,MG MH 0 0,MF ME 0,MF ME 0,MG MH 0 0,MF ME 0,MF ME 0,MF ME 0,MF ME 0,MF ME 0,MF ME 0,MF ME 0,MF ME 0,MF ME 0,MF ME 0,MF ME 0,MF ME 0,MF ME 0,MF ME 0,MF ME 0,MF ME 0,MF ME 0,MG MH 0 0,MG MH 0 0,MG MH 0 0,MG MH 0 0,MG MH 0 0,MG MH 0 0,MF ME 0,MF ME 0,MG MH 0 0,MG MH 0 0]
theorem Vw:(Tryz.prog.info? 72).map (·.size)=MI 61:=by kernel_rfl
theorem Jz.Gm{base:Nat}{g:Nat}{c:Cf}(h:Jz base w g V c P):w.cell? ⟨g,16,MH⟩=MI (MG V.ps P.steps.length V.cs):=by
 rw[MW w g 16 _ _ (0,0) h.box,h.steps];rfl
structure Vo(W:MO)(ps:Option Addr)(k:Nat)(q:Sq)(b o:Nat):Prop where
 at_:ps=MI ⟨b,o,MH⟩
 cells:W.rangeAt b (o+k*61) (JU q)
 rd:Kh W q
theorem JD.step{W:MO}{g:Nat}{c:Cf}(h:JD w W g V c P){k:Nat}(hk:k<P.steps.length):∃q b o,Vo W V.ps k q b o/\P.steps[k]?=MI q.s/\JM c q.s:=by
 have hl:=h.pat.steps;have hkq:k<V.qs.length:=by omega
 have hrv:bj JU W (MG V.ps V.qs.length V.cs) V.qs:=gZ h.pat.rows;obtain⟨a,cap,hv,_,_,hp⟩:=bj.F6 LV hrv;injection hv with q1 _ _;obtain⟨b,o,ha,hb,hc⟩:=hp k hkq;have e:P.steps[k]?=MI V.qs[k].s:=by rw[<-h.pat.eqs,List.getElem?_map,MR hkq];rfl
 refine⟨V.qs[k],b,o,⟨q1.trans ha,fun j v hv=>?_,(h.pat.all _ (Nk hkq)).now⟩,e,h.rn.runs.chain _ (Nu e)⟩;have hj:j<61:=(List.getElem?_eq_some_iff.1 hv).1;rw[hc j hj];exact hv
structure Vp(W:MO)(b:Nat)(q:Sq):Prop where
 box:W.heap[b]?=MI (MP (JU q).toArray 72 (0,0))
 rd:Kh W q
theorem Kh.below{W Y:MO}{q:Sq}(h:Kh W q)(hb:MQ W.heap.size W Y):Kh Y q:=⟨h.1.below hb,h.2.1.below hb,h.2.2.below hb⟩
theorem Vp.on{W Y:MO}{b:Nat}{q:Sq}(h:Vp W b q)(hb:MQ W.heap.size W Y):Vp Y b q:=⟨af h.box hb,h.rd.below hb⟩
theorem Vz(q:Sq):(JU q).toArray.all (·.oneCell')=true:=by
 apply all_oneCell_toArray;exact LU q
theorem Vo.box{W:MO}{ps:Option Addr}{k:Nat}{q:Sq}{b o:Nat}(h:Vo W ps k q b o):∃Y,Y=(W.alloc (MP VA.toArray 72)).setCells W.heap.size 0 (JU q)/\Vp Y W.heap.size q/\MQ W.heap.size W Y/\(W.alloc (MP VA.toArray 72)).there W.heap.size 0 (JU q).toArray.size:=by
 have hZ:(W.alloc (MP VA.toArray 72)).heap[W.heap.size]?=MI (MP VA.toArray 72 (0,0)):=M1 _ _;have hB:MQ W.heap.size W ((W.alloc (MP VA.toArray 72)).setCells W.heap.size 0 (JU q)):=tW (ai W) (Nat.le_refl _) _ _ (by simp);exact⟨_,rfl,⟨KM hZ rfl,h.rd.below hB⟩,hB,(show(W.alloc (MP VA.toArray 72)).there W.heap.size 0 (JU q).toArray.size from sF (old:=VA) hZ)⟩
theorem Vp.F7{W:MO}{b:Nat}{q:Sq}(h:Vp W b q)(j:Nat):W.cell? ⟨b,j,MH⟩=(JU q)[j]?:=by
 rw[MW W b j _ _ (0,0) h.box];simp
theorem Vy(f:Nat->Int)(hf:∀i,i<16->(Lit.int ME (f i)).wf=Nw)(ds:List Dd)(hds:∀d∈ds,Kg d){pd:Option Addr}{cd:Nat}(hrow:bj Ka w (MG pd ds.length cd) ds)(hblk:aK w)(most:Nat)(hm:most<=100):
  ∃L:List M7,L.length=16/\BD (f 0) (f 1) (f 2) (f 3) (f 4) (f 5) (f 6) (f 7) (f 8) (f 9) (f 10) (f 11) (f 12) (f 13) (f 14) (f 15)=Ny L.toArray/\∀W,MQ w.heap.size w W->Ni MK 18 #[Ny L.toArray,MG pd ds.length cd,MF ME (most:Int)] W (Lq f most W):=
 ⟨[MF ME (f 0),MF ME (f 1),MF ME (f 2),MF ME (f 3),MF ME (f 4),MF ME (f 5),MF ME (f 6),MF ME (f 7),MF ME (f 8),MF ME (f 9),MF ME (f 10),MF ME (f 11),MF ME (f 12),MF ME (f 13),MF ME (f 14),MF ME (f 15)],rfl,rfl,fun W hB=>L6 f hf ds hds W (hrow.below hB) (hblk.below hB) most hm⟩
theorem Jz.VK{base:Nat}{g:Nat}{c:Cf}(h:Jz base w g V c P)(j:Nat):w.cell? ⟨g,j,MH⟩=(JZ V c P)[j]?:=by
 rw[MW w g j _ _ (0,0) h.box];simp
theorem VB{L:List FV}{b:Int}{k:Nat}(hk:k<L.length)(h:∀t∈L.take k,t.1≠b)(e:L[k].1=b):aA L b=L[k].2.1:=by
 unfold aA aq;have:L.find? (fun x=>x.1 == b)=MI L[k]:=by
  rw[List.find?_eq_some_iff_getElem];refine⟨by simpa using e,k,hk,rfl,fun j hj=>?_⟩;have:=h L[j] (List.mem_iff_getElem.2 ⟨j,by simp;omega,by simp⟩)
  simpa using this
 rw[this];rfl
theorem VC{L:List FV}{b:Int}(h:∀t∈L,t.1≠b):aA L b=0:=by
 show(aq L b).2.1=0;rw[tP h]
theorem VD{W:MO}{M:List M7}{U:Us}{G:Gt}(hM:M=(ef U G).toList)(h:aF W U G)(b:Int):Ni MK 20 #[Ny M.toArray,MF ME b] W fun r w'=>r=MN (MF ME (aA G.liv b))/\MQ W.heap.size W w':=by
 obtain⟨Y,hY⟩:∃Y,Y=W.alloc (MP M.toArray 49):=⟨_,rfl⟩;have hYb:MQ W.heap.size W Y:=by rw[hY];exact ai W
 have hYx:Y.heap[W.heap.size]?=MI (MP M.toArray 49 (0,0)):=by rw[hY];exact M1 _ _
 have c19:Y.cell? ⟨W.heap.size,19,MH⟩=MI (MG U.pl G.liv.length U.cl):=by rw[MW Y _ 19 _ _ (0,0) hYx,hM];rfl
 obtain⟨a,cap,hv,hca,hmx,hp⟩:=jH.F6 (h.book.1.below hYb);injection hv with q1 q2 q3;obtain⟨m,hm⟩:∃m,m=G.liv.length:=⟨_,rfl⟩;rw[<-hm]at c19;have hmb:m<=9223372036854775807:=by rw[hm];unfold maxLen at hmx;omega
 obtain⟨s,hs⟩:∃s,s=aA G.liv b:=⟨_,rfl⟩;rw[<-hs];have HP:M6 (_/\_/\_/\_/\_):=⟨hp,q1,hm,hYb,hs⟩;clear hYx hp q1 q2 q3 hm hmx hca h hM hYb hs;go_enter Tryz.func20,Tryz.ntmps20;go_wp2;rw[<-hY];clear hY
 go_loopw [5] (fun i wr=>∃k:Nat,i=MF ME (k:Int)/\k<=m/\M6 (∀t∈G.liv.take k,t.1≠b)/\wr=Y) (fun i _=>m-(intOf i).toNat)
 case atStart=>exact⟨0,rfl,Nx _,(fun t ht=>absurd ht (by simp)),rfl⟩
 case round =>
  obtain⟨k,rfl,hk,HA,rfl⟩:=hrel
  by_cases hlt:k<m
  ·have hkI:(k:Int)<(m:Int):=by omega
   have hkl:k<G.liv.length:=by rw[<-HP.out.2.2.1];exact hlt
   obtain⟨bo,oo,ha,hb,hc⟩:=HP.out.1 k hkl;have e0:wr.cell? ⟨bo,oo+k*6,MH⟩=MI (MF ME G.liv[k].1):=hc.1;have e1:wr.cell? ⟨bo,oo+k*6+1,MH⟩=MI (MF ME G.liv[k].2.1):=hc.2.1;have htk:G.liv.take (k+1)=G.liv.take k++[G.liv[k]]:=List.take_succ_eq_append_getElem hkl;have hfd:=fun e=>VB hkl HA.out e
   obtain⟨x,hx⟩:∃x,x=G.liv[k]:=⟨_,rfl⟩;rw[<-hx]at e0 e1 htk hfd;rw[HP.out.2.1,ha]at c19;have HX:M6 (_/\_):=⟨htk,hfd⟩;clear hc hb ha hkl hx htk hfd
   by_cases hq:x.1=b
   ·have hq':(x.1 == b)=true:=by simp[hq]
    have HE:M6 (s=x.2.1):=HP.out.2.2.2.2.trans (HX.out.2 hq);clear hq;go_wp2;go_ret;exact⟨by rw[HE.out];rfl,HP.out.2.2.2.1⟩
   ·have hq':(x.1 == b)=false:=by simp[hq]
    go_wp2
    go_roundw
    case rel =>
     refine⟨k+1,by simp,hlt,?_,trivial⟩;intro t ht;rw[HX.out.1]at ht;rcases List.mem_append.1 ht with ht|ht
     ·exact HA.out t ht
     ·rw[List.mem_singleton.1 ht];exact hq
    case measure=>simp[intOf];omega
  ·obtain rfl:k=m:=by omega
   have hkI:¬(k:Int)<(k:Int):=by omega
   have HE:M6 (s=0):=HP.out.2.2.2.2.trans (VC fun t ht=>HA.out t (by rw[HP.out.2.2.1,List.take_length];exact ht));go_wp2;go_ret;exact⟨by rw[HE.out];rfl,HP.out.2.2.2.1⟩
theorem Vt{W:MO}{U:Us}{G:Gt}(h:aF W U G){b:Nat}(hb:b<12):∃bo oo,U.ph=MI ⟨bo,oo,MH⟩/\bo<W.heap.size/\12<=U.ch/\U.ch<=9223372036854775807/\W.cell? ⟨bo,oo+b*4+1,MH⟩=MI (M3 (G.hea.getD b bm).out)/\W.cell? ⟨bo,oo+b*4+2,MH⟩=MI (MF ME (G.hea.getD b bm).till):=by
 have hl:(U.ms.zip G.hea).length=12:=by rw[List.length_zip,h.msl,h.hel];rfl
 obtain⟨a,cap,hv,hc1,hc2,hp⟩:=bj.F6 ii h.hea;injection hv with q1 _ q3;have hbz:b<(U.ms.zip G.hea).length:=by rw[hl];exact hb
 obtain⟨bo,oo,ha,hlt,hc⟩:=hp b hbz;have e:(U.ms.zip G.hea)[b].2=G.hea.getD b bm:=by
  rw[List.getElem_zip,NK,MR (by rw[h.hel];exact hb)];rfl
 refine⟨bo,oo,q1.trans ha,hlt,by rw[q3,<-hl];exact hc1,by rw[q3];unfold maxLen at hc2;exact hc2,?_,?_⟩
 ·rw[<-e];exact hc 1 (by omega)
 ·rw[<-e];exact hc 2 (by omega)
structure Vq(W:MO)(b:Nat)(q:Sq)(M L:List M7):Prop where
 sb:Vp W b q
 e1:M=(ef q.u q.s.bef).toList
 e2:L=(ef q.v q.s.aft).toList
section
variable {W Y:MO}{b:Nat}{q:Sq}{M L:List M7}
theorem Vq.on(h:Vq W b q M L)(hb:MQ W.heap.size W Y):Vq Y b q M L:=⟨h.sb.on hb,h.e1,h.e2⟩
theorem Vq.lt(h:Vq W b q M L):b<W.heap.size:=(Array.getElem?_eq_some_iff.1 h.sb.box).1
theorem Vq.r1(h:Vq W b q M L):W.rangeAt b 8 M:=fun j v hv=>by
 rw[h.e1]at hv;have hj:j<26:=(List.getElem?_eq_some_iff.1 hv).1;rw[h.sb.F7 (8+j)];unfold JU;rw[Tw (show 8<=8+j by omega),show 8+j-(JN q.s.ev).length=j from VN 8 j,OJ (show j<26 from hj)];exact hv
theorem Vq.r2(h:Vq W b q M L):W.rangeAt b 34 L:=fun j v hv=>by
 rw[h.e2]at hv;have hj:j<26:=(List.getElem?_eq_some_iff.1 hv).1;rw[h.sb.F7 (34+j)];unfold JU;rw[<-List.append_assoc,Tw (show 34<=34+j by omega),show 34+j-(JN q.s.ev++(ef q.u q.s.bef).toList).length=j from VN 34 j,OJ (show j<26 from hj)];exact hv
theorem Vq.i1(h:Vq W b q M L):(Tryz.prog.info? 49).map (·.size)=MI M.length:=by rw[h.e1];exact iN
theorem Vq.i2(h:Vq W b q M L):(Tryz.prog.info? 49).map (·.size)=MI L.length:=by rw[h.e2];exact iN
theorem Vq.VL(h:Vq W b q M L)(x:Int):Ni MK 20 #[Ny M.toArray,MF ME x] W fun r w'=>r=MN (MF ME (aA q.s.bef.liv x))/\MQ W.heap.size W w':=VD h.e1 h.sb.rd.1 x
theorem Vq.VM(h:Vq W b q M L)(x:Int):Ni MK 20 #[Ny L.toArray,MF ME x] W fun r w'=>r=MN (MF ME (aA q.s.aft.liv x))/\MQ W.heap.size W w':=VD h.e2 h.sb.rd.2.1 x
end
theorem VE{g:Int->Int}(h:∀b,0<=g b/\g b<=1):∀n:Nat,0<=Ve g n/\Ve g n<=n
 |0=>⟨Qh 0,Qh 0⟩
 |n+1=>by
  have h1:=VE h n;have h2:=h (n:Int);rw[Vf];omega
theorem Vu{s x:Int}(h:(s == 2)=Nw):(if s=2 then x else 0)=x:=Nh (by simpa using h)
theorem Vv{s x:Int}(h:(s == 2)=Nb):(if s=2 then x else 0)=0:=Nf (by simpa using h)
theorem Vx(G:Gt)(b:Int):0<=Vc G b/\Vc G b<=1:=by
 unfold Vc
 split
 ·split <;> decide
 ·decide
theorem Vr(G:Gt)(b:Int):0<=U2 G b/\U2 G b<=1:=by
 unfold U2
 split <;> decide
theorem VF(f:Nat->Int)(hf:∀i,i<16->(Lit.int ME (f i)).wf=Nw)(ds:List Dd)(hds:∀d∈ds,Kg d){pd:Option Addr}{cd:Nat}(hrow:bj Ka w (MG pd ds.length cd) ds)(hB:aK w):
  Ni MK 9 #[BD (f 0) (f 1) (f 2) (f 3) (f 4) (f 5) (f 6) (f 7) (f 8) (f 9) (f 10) (f 11) (f 12) (f 13) (f 14) (f 15),MG pd ds.length cd] w fun r w'=>r=MN (M3 Nw)/\MQ w.heap.size w w':=by
 obtain⟨L,hL,eL,hpl⟩:=Vy f hf ds hds hrow hB 60 (by omega);rw[eL];obtain⟨W0,hW0⟩:∃W0,W0=w.alloc (MP L.toArray 24):=⟨_,rfl⟩;have hb0:MQ w.heap.size w W0:=by rw[hW0];exact ai w
 have HI:M6 (_/\_/\_):=⟨hL,hb0,hpl W0 hb0⟩;obtain⟨nd,hnd⟩:∃nd,nd=ds.length:=⟨_,rfl⟩;rw[<-hnd]at HI⊢;clear hL eL hpl hb0 hf hds hrow hB hnd;go_enter Tryz.func9,Tryz.ntmps9
 go_wp2_with ((with_reducible refine O3 rfl 24 (O6 2) rfl w.heap.size 0 ?gx L _ ?gc Tryz.underlying24 ?gd ?gi ?_);(case gx=>rfl);(case gc=>exact J8 (M1 _ _));(case gd=>rfl);(case gi=>rw[HI.out.1];exact K0))
 rw[<-hW0];clear hW0;refine Calls.mono HI.out.2.2 ?_;rintro r w1 ⟨g,V,c,P,rfl,hS,hcx,hn4,hnm,hk3⟩;obtain⟨n,hn⟩:∃n,n=P.steps.length:=⟨_,rfl⟩;have HS:M6 (_/\_/\_/\_/\_):=⟨hS,hcx,hn,(show n<=60+4 by omega),hk3⟩;have hB1:=HI.out.2.1.trans (hS.bel.mono HI.out.2.1.size);have HB:M6 _:=hB1;clear hS hcx hn4 hnm hk3 hn HI hB1;have HR:M6 _:=HS.out.1.rn.till (fun x hx=>by rw[List.eq_of_mem_replicate hx])
 go_wp2_with fail
 go_loopw [7,8,9,10,11,12] (fun i _ _ _ _ _ wr=>∃k:Nat,i=MF ME (k:Int)/\k<=n/\M6 (MQ w1.heap.size w1 wr)) (fun i _ _ _ _ _ _=>n-(intOf i).toNat)
 case atStart=>exact⟨0,rfl,Nx _,MY _ _⟩
 case round =>
  obtain⟨k,rfl,hk,HW⟩:=hrel;have hSr:=HS.out.1.on HW.out;have c16:wr.cell? ⟨g,16,MH⟩=MI (MG V.ps n V.cs):=by rw[HS.out.2.2.1];exact hSr.pat.Gm
  have hgl:=hSr.pat.lt
  by_cases hlt:k<n
  ·have hkI:(k:Int)<(n:Int):=by omega
   have hnb:n<=9223372036854775807:=by have:=HS.out.2.2.2.1;omega
   obtain⟨q,b,o,hq,hst,hok⟩:=hSr.step (k:=k) (by rw[<-HS.out.2.2.1];exact hlt);obtain⟨Y,hY,hSB,hYb,hth⟩:=hq.box;obtain⟨R,hR⟩:∃R,R=JU q:=⟨_,rfl⟩;have hat:=hq.at_;have hcs:=hq.cells;rw[<-hR]at hY hth hcs;have HQ:M6 (_/\_/\_/\_/\_/\_):=⟨hcs,hth,hY,hR,HW.out.trans (hYb.mono HW.out.size),(show R.length=61 by rw[hR];rfl)⟩;have HT:M6 (_/\_/\_/\_):=⟨hst,hok,hSB,hYb⟩;clear hq hst hok hY hSB hYb hth hR hcs;rw[hat]at c16;clear hat
   clear hSr;obtain⟨M,M2,hTw⟩:∃M M2,Vq Y wr.heap.size q M M2:=⟨_,_,HT.out.2.2.1,rfl,rfl⟩;have HM:M6 _:=hTw;clear hTw
   go_wp2_with (first|((with_reducible refine O3 rfl 72 (O6 33) rfl b (o+k*61) ?gx R _ ?gc Tryz.underlying72 ?gd ?gi ?_);(case gx=>rfl);(case gc=>exact HQ.out.1);(case gd=>rfl);(case gi=>rw[HQ.out.2.2.2.2.2];exact Vw))|((with_reducible refine wpList_store_mid rfl 72 (O6 8) (O6 34) rfl wr.heap.size 0 R.toArray ?sx ?sy ?st ?si ?s1 ?_);(case sx=>rfl);(case sy=>rfl);(case st=>exact HQ.out.2.1);(case si=>rw[List.size_toArray,HQ.out.2.2.2.2.2];exact Vw);(case s1=>rw[HQ.out.2.2.2.1];exact Vz q);rw[List.toList_toArray,<-HQ.out.2.2.1]))
   obtain⟨B8,hB8⟩:∃B8,B8=wr.heap.size:=⟨_,rfl⟩;rw[<-hB8];rw[<-hB8]at HM;clear hB8 c16 hgl
   go_loopw [9,10,11,12] (fun x y z i wr=>∃(j:Nat) (a b c:Int),x=MF ME a/\y=MF ME b/\z=MF ME c/\i=MF ME (j:Int)/\j<=12/\(a=Ve (Vc q.s.bef) j/\b=Ve (Vc q.s.aft) j/\c=Ve (U2 q.s.aft) j)/\M6 (MQ Y.heap.size Y wr)) (fun _ _ _ i _=>12-(intOf i).toNat)
   case atStart=>exact⟨0,0,0,0,rfl,rfl,rfl,rfl,Nx _,⟨rfl,rfl,rfl⟩,MY _ _⟩
   case round =>
    obtain⟨j,a,b',ac,rfl,rfl,rfl,rfl,hj,⟨ha,hb,hc⟩,HX⟩:=hrel;have r1:=VE (Vx q.s.bef) j;have r2:=VE (Vx q.s.aft) j;have r3:=VE (Vr q.s.aft) j;rw[<-ha]at r1;rw[<-hb]at r2;rw[<-hc]at r3
    by_cases hlj:j<12
    ·have hjI:(j:Int)<12:=by omega
     have z1:Ve (Vc q.s.bef) (j+1)=a+(if aA q.s.bef.liv (j:Int)=2 then(if(q.s.bef.hea.getD j bm).out then 1 else 0)else 0):=by rw[Vf,<-ha];rfl
     have z2:Ve (Vc q.s.aft) (j+1)=b'+(if aA q.s.aft.liv (j:Int)=2 then(if(q.s.aft.hea.getD j bm).out then 1 else 0)else 0):=by rw[Vf,<-hb];rfl
     have z3:Ve (U2 q.s.aft) (j+1)=ac+(if aA q.s.aft.liv (j:Int)=2 then 1 else 0):=by rw[Vf,<-hc];rfl
     have w1':IntKind.i64.wrap (a+1)=a+1:=jn (by omega) (by omega);have w2':IntKind.i64.wrap (b'+1)=b'+1:=jn (by omega) (by omega);have w3':IntKind.i64.wrap (ac+1)=ac+1:=jn (by omega) (by omega);obtain⟨s1,hs1⟩:∃s,s=aA q.s.bef.liv (j:Int):=⟨_,rfl⟩;obtain⟨s2,hs2⟩:∃s,s=aA q.s.aft.liv (j:Int):=⟨_,rfl⟩;obtain⟨o1,ho1⟩:∃s,s=(q.s.bef.hea.getD j bm).out:=⟨_,rfl⟩;obtain⟨o2,ho2⟩:∃s,s=(q.s.aft.hea.getD j bm).out:=⟨_,rfl⟩;obtain⟨t2,ht2⟩:∃s,s=(q.s.aft.hea.getD j bm).till:=⟨_,rfl⟩;obtain⟨nw,hnw⟩:∃s,s=q.s.aft.now:=⟨_,rfl⟩;rw[<-hs1,<-ho1]at z1;rw[<-hs2,<-ho2]at z2;rw[<-hs2]at z3;have htl:o2=Nw->nw<t2/\t2<=nw+500:=fun h=>by
      rw[hnw,ht2];have hjh:j<q.s.aft.hea.length:=by rw[HT.out.2.1.next.im.bs.hel];exact hlj
      have e:q.s.aft.hea.getD j bm=q.s.aft.hea[j]:=by rw[NK,MR hjh];rfl
      rw[ho2,e]at h;rw[e];exact HR.out q.s (Nu HT.out.1) _ (Nk hjh) h
     have hnb:=HT.out.2.1.next.im.bs.now;rw[<-hnw]at hnb;have wn:IntKind.i64.wrap (nw+500)=nw+500:=by rw[Ow];omega
     have HL:M6 (_/\_/\_/\_/\_/\_/\_/\_/\_):=⟨hs1,hs2,ho1,ho2,ht2,hnw,z1,z2,z3⟩;have HG:M6 (_/\_):=⟨HM.out.on HX.out,HX.out⟩;have hA:((s2 == 2)=Nb\/(s2 == 2)=Nw):=by cases(s2 == 2) <;> simp
     have hB:(s1 == 2)=Nb\/((s1 == 2)=Nw/\o1=Nb)\/((s1 == 2)=Nw/\o1=Nw):=by cases(s1 == 2) <;> cases o1 <;> simp
     have hC:o2=Nb\/(o2=Nw/\¬t2<=nw/\¬nw+500<t2):=by
      cases h:o2
      ·exact Nt rfl
      ·have:=htl h;exact NF ⟨rfl,by omega,by omega⟩
     clear hs1 hs2 ho1 ho2 ht2 hnw z1 z2 z3 htl hnb r1 r2 r3 ha hb hc;rcases hA with a2|a2
     all_goals
      go_wp2_with (first|((with_reducible refine O3 rfl 49 (O6 39) rfl B8 34 ?gx M2 _ ?gc OX ?gd ?gi ?_);(case gx=>rfl);(case gc=>exact HG.out.1.r2);(case gd=>rfl);(case gi=>exact HG.out.1.i2)))
      refine Calls.mono (HG.out.1.VM _) ?_;rintro r w5 ⟨rfl,hb5⟩;rw[<-HL.out.2.1];replace HG:M6 (_/\_):=⟨HG.out.1.on hb5,HG.out.2.trans (hb5.mono HG.out.2.size)⟩;clear hb5;obtain⟨bh,oh,hph,hbh,hc1,hc2,g1,_⟩:=Vt HG.out.1.sb.rd.2.1 hlj;have l8:=HG.out.1.lt;have v56:w5.cell? ⟨B8,56,MH⟩=MI (MG q.v.ph 12 q.v.ch):=(HG.out.1.sb.F7 56).trans rfl;rw[hph]at v56;rw[<-HL.out.2.2.2.1]at g1;clear hph;rcases hC with rfl|⟨rfl,hn1,hn2⟩
      all_goals
       go_wp2_with (first|((with_reducible refine O3 rfl 49 (O6 55) rfl B8 8 ?gx M _ ?gc OX ?gd ?gi ?_);(case gx=>rfl);(case gc=>exact HG.out.1.r1);(case gd=>rfl);(case gi=>exact HG.out.1.i1)))
       clear l8 hbh hc1 hc2 g1 v56;refine Calls.mono (HG.out.1.VL _) ?_;rintro r w6 ⟨rfl,hb6⟩;rw[<-HL.out.1];replace HG:M6 (_/\_):=⟨HG.out.1.on hb6,HG.out.2.trans (hb6.mono HG.out.2.size)⟩;clear hb6;obtain⟨bi,oi,hpi,hbi,hi1,hi2,j1,_⟩:=Vt HG.out.1.sb.rd.1 hlj;obtain⟨bh,oh,hph,hbh,hc1,hc2,g1,g2⟩:=Vt HG.out.1.sb.rd.2.1 hlj;have l8:=HG.out.1.lt;have v56:w6.cell? ⟨B8,56,MH⟩=MI (MG q.v.ph 12 q.v.ch):=(HG.out.1.sb.F7 56).trans rfl;have v30:w6.cell? ⟨B8,30,MH⟩=MI (MG q.u.ph 12 q.u.ch):=(HG.out.1.sb.F7 30).trans rfl;have v50:w6.cell? ⟨B8,50,MH⟩=MI (MF ME nw):=(HG.out.1.sb.F7 50).trans (by rw[HL.out.2.2.2.2.2.1];rfl);rw[hph]at v56;rw[hpi]at v30;rw[<-HL.out.2.2.2.1]at g1;rw[<-HL.out.2.2.2.2.1]at g2;rw[<-HL.out.2.2.1]at j1;clear hph hpi;rcases hB with b1|⟨b1,rfl⟩|⟨b1,rfl⟩
       all_goals
        go_wp2_with fail
        refine wp_region_quiet_lit (by kernel_rfl) (by kernel_rfl) ?_
        repeat (first|go_big_quiet_skip|quiet_step (fail))
        refine wpQuiet_nil ?_;intro _ hw';obtain⟨nq,hw''⟩:=hw';subst hw'';go_wp2
        go_roundw
        case rel =>
         have y1:=HL.out.2.2.2.2.2.2.1;have y2:=HL.out.2.2.2.2.2.2.2.1;have y3:=HL.out.2.2.2.2.2.2.2.2
         first|rw[Vu b1]at y1|rw[Vv b1]at y1
         first|rw[Vu a2]at y2 y3|rw[Vv a2]at y2 y3
         try simp at y1
         try simp at y2
         try simp at y3
         exact⟨j+1,_,_,_,rfl,rfl,rfl,by simp,hlj,⟨y1.symm,y2.symm,y3.symm⟩,HG.out.2.trans ((B3 (MY _ _) nq).mono HG.out.2.size)⟩
        case measure=>simp[intOf];omega
    ·obtain rfl:j=12:=by omega
     have hjI:¬((12:Nat):Int)<12:=by omega
     have hG:=HM.out.on HX.out;have hE:=HQ.out.2.2.2.2.1.trans (HX.out.mono HQ.out.2.2.2.2.1.size);have hSr:=HS.out.1.on hE;have c9:wr.cell? ⟨g,9,MH⟩=MI (MF ME c.most):=(hSr.pat.VK 9).trans rfl;have hgl:=hSr.pat.lt;have l8:=hG.lt;have v0:wr.cell? ⟨B8,0,MH⟩=MI (MF ME q.s.ev.kind):=(hG.sb.F7 0).trans rfl;have hth:=fun h=>HT.out.2.1.thrown h
     rw[<-ha,<-hb,<-hc]at hth;have hmo:0<=c.most/\c.most<=100:=HS.out.2.1.ok.2.2.2.2.2.2.2.2.2.1;obtain⟨e,he⟩:∃e,e=q.s.ev.kind:=⟨_,rfl⟩;obtain⟨mo,hmo'⟩:∃e,e=c.most:=⟨_,rfl⟩;rw[<-he]at hth v0;rw[<-hmo']at hth c9 hmo;have wb:IntKind.i64.wrap (b'*100)=b'*100:=jn (by omega) (by omega);have h0:0<=mo*ac:=Int.mul_nonneg hmo.1 r3.1;have h9:mo*ac<=100*12:=Int.le_trans (Int.mul_le_mul_of_nonneg_right hmo.2 r3.1) (Int.mul_le_mul_of_nonneg_left (by omega) (by omega));have wm:IntKind.i64.wrap (mo*ac)=mo*ac:=jn (by omega) (by omega);have hcs:(e == 4)=Nb\/((e == 4)=Nw/\¬a<b')\/((e == 4)=Nw/\a<b'/\¬mo*ac<b'*100):=by
      by_cases h4:e=4
      ·by_cases hlt:a<b'
       ·exact NF (NF ⟨by simp[h4],hlt,by have:=hth h4 hlt;omega⟩)
       ·exact NF (Nt ⟨by simp[h4],hlt⟩)
      ·exact Nt (by simp[h4])
     have HE:M6 _:=hE;clear hth hmo hmo' he ha hb hc r1 r2 r3 hG hSr hE h0 h9;rcases hcs with h4|⟨h4,h5⟩|⟨h4,h5,h6⟩
     all_goals
      go_wp2
      go_roundw
      case rel=>exact⟨k+1,by simp,hlt,HE⟩
      case measure=>simp[intOf];omega
  ·obtain rfl:k=n:=by omega
   have hkI:¬(k:Int)<(k:Int):=by omega
   go_wp2;go_ret;exact⟨rfl,HB.out.trans (HW.out.mono HB.out.size)⟩
end Go.Proofs.YtinbndbjlgoghaaGreatDoor.Q
