/-
  TopHealthy: what its walk leans on besides the contracts of core. Conditions: as each theorem says.
-/
import Derived.Test.YtalhkllgnlejbaaGreatDoorQ20
open Bool renaming false->Nb,true->Nw
open Go renaming Addr->Oc,Calls->Ni,Value->M7,World->MO,cell_of_row->MW,heap_alloc_new->M1,wpList_load_mid->O3
open Go.Calls renaming mono->Nd
open Go.Ending renaming returned->MN
open Go.IntKind renaming i64->ME
open Go.Lit renaming int->N6
open Go.Obj renaming cells->MP
open Go.Operand renaming tmp->O6
open Go.Proofs.Tryz renaming prog->MK,underlying24->TI
open Go.RowKit renaming Below->MQ,Hid->M6
open Go.RowKit.Below renaming refl->MY
open Go.Value renaming agg->Ny,bool->M3,int->MF,slice->MG
open List renaming eq_of_mem_replicate->Pd,getD_eq_getElem?_getD->NK,getElem?_append_left->OJ,getElem?_eq_getElem->MR,getElem_mem->Nk,getElem_zip->Qf,length_zip->Qn,mem_of_getElem?->Nu,replicate->Nj
open Nat renaming zero_le->Nx
open Option renaming none->MH,some->MI
open Or renaming inl->Nt,inr->NF
namespace Go.Proofs.YtalhkllgnlejbaaGreatDoor.Q
set_option linter.unusedVariables false
set_option linter.unusedSimpArgs false
set_option maxHeartbeats 16000000
set_option maxRecDepth 100000
open Go.RowKit
attribute [local go_sem ↓] Go.wp_at_zero Go.wp_at_succ
variable {w:MO}
section
variable {A:Gt}{c:Cf}{P:Py}
theorem Rn.TC(h:Rn A c P):(∀s,P.steps[0]?=MI s->s.bef=A)/\(P.steps=[]->P.last=A):=by
 refine h.Mw (J:=fun P=>(∀s,P.steps[0]?=MI s->s.bef=A)/\(P.steps=[]->P.last=A)) ⟨(fun s hs=>absurd hs (by simp)),fun _=>rfl⟩ fun Q e hQ he hl hJ=>?_
 refine⟨fun s hs=>?_,fun hn=>?_⟩
 ·have hs:(Q.steps++[(⟨e,Q.last,(iG Q.last e).Ma,(iG Q.last e).out⟩:Sp)])[0]?=MI s:=hs
  by_cases h0:Q.steps=[]
  ·rw[h0]at hs
   cases hs;exact hJ.2 h0
  ·rw[OJ (List.length_pos_iff.2 h0)]at hs
   exact hJ.1 s hs
 ·have hn:Q.steps++[(⟨e,Q.last,(iG Q.last e).Ma,(iG Q.last e).out⟩:Sp)]=[]:=hn
  simp at hn
theorem Rn.TD(h:Rn A c P):∀s,P.steps[0]?=MI s->s.bef=A:=h.TC.1
theorem Rn.TG(h:Rn A c P):P.steps=[]->P.last=A:=h.TC.2
theorem Rn.TF{J:Nat->Gt->Prop}(h:Rn A c P)(h0:J 0 A)(hs:∀n s,JM c s->J n s.bef->J (n+1) s.aft) :
  (∀i s,P.steps[i]?=MI s->J i s.bef/\J (i+1) s.aft)/\J P.steps.length P.last:=by
 have h1:∀i s,P.steps[i]?=MI s->J i s.bef:=by
  intro i
  induction i with
  |zero=>intro s q;rw[h.TD s q];exact h0
  |succ i ih =>
   intro s q;have hi:=(List.getElem?_eq_some_iff.1 q).1;have q1:P.steps[i]?=MI P.steps[i]:=MR (by omega);rw[h.runs.next i _ s q1 q];exact hs i _ (h.runs.chain _ (Nk _)) (ih _ q1)
 have h2:∀i s,P.steps[i]?=MI s->J i s.bef/\J (i+1) s.aft:=fun i s q=>⟨h1 i s q,hs i s (h.runs.chain s (Nu q)) (h1 i s q)⟩
 refine⟨h2,?_⟩
 by_cases hn:P.steps=[]
 ·rw[h.TG hn,hn];exact h0
 ·have hp:=List.length_pos_iff.2 hn
  have q:P.steps[P.steps.length-1]?=MI P.steps[P.steps.length-1]:=MR (by omega);rw[h.runs.tail _ q];have:=(h2 _ _ q).2;rwa[show P.steps.length-1+1=P.steps.length by omega]at this
end
section
variable {G:Gt}{c:Cf}
theorem Ty(h:Bs G){b:Int}(hb:0<=b/\b<12)(x:Bool) :
  (∃k,(G.hea.getD b.toNat bm).out=Nb/\gy G b=Nw/\(1<=k/\k<=500)/\mr G b x=⟨[],Nw,G.now+k,min ((G.hea.getD b.toNat bm).times+1) 10⟩) \/
  ∃l,mr G b x={G.hea.getD b.toNat bm with marks:=l}:=by
 have h1:=h.IE hb;have hd:=tC (d:=G.cfg.wh) (t:=(G.hea.getD b.toNat bm).times) h.Gx.2.2.1;have ha:cD G.cfg.wn G.cfg.wf G.cfg.wh (G.hea.getD b.toNat bm).marks.length (G.hea.getD b.toNat bm).out (G.hea.getD b.toNat bm).till (G.hea.getD b.toNat bm).times G.now=0:=by unfold cD;rw[Nh h.Gx,Nh h.GN,Nh h1]
 unfold mr di;rw[Nh ha]
 split
 ·rename_i hc
  exact Nt ⟨_,hc.1,hc.2.1,hd,rfl⟩
 ·exact NF ⟨_,rfl⟩
variable {Q:Int->He->Prop}
structure Tx(c:Cf)(Q:Int->He->Prop):Prop where
 zero:∀n,Q n bm
 next:∀n h,Q n h->Q (n+1) h
 marks:∀n h l,Q n h->Q n {h with marks:=l}
 back:∀n h,Q n h->Q n ⟨h.marks,Nb,0,h.times⟩
 thrown:∀(X:Gt) b (h:He) k,X.cfg=c->gy X b=Nw->h.out=Nb->(1<=k/\k<=500)->Q X.now h->Q X.now ⟨[],Nw,X.now+k,min (h.times+1) 10⟩
def Tw(c:Cf)(n:Int)(Q:Int->He->Prop)(X:Gt):Prop:=X.cfg=c/\X.now=n/\∀h∈X.hea,Q n h
variable {X:Gt}{n:Int}
theorem Tw.GA(h:Tw c n Q X)(hs:Tx c Q)(hb:Bs X){b:Int}(hbb:0<=b/\b<12)(x:Bool):Tw c n Q (dg X b x):=by
 refine⟨h.1,h.2.1,fun y hy=>?_⟩;rcases iC hy with rfl|hy
 ·have hlt:b.toNat<X.hea.length:=by rw[hb.hel];omega
  have hq:Q n (X.hea.getD b.toNat bm):=by
   rw[NK,MR hlt];exact h.2.2 _ (Nk hlt)
  rcases Ty hb hbb x with⟨k,h1,h2,h3,e⟩|⟨l,e⟩
  ·rw[e]
   have:=hs.thrown X b _ k h.1 h2 h1 h3 (by rw[h.2.1];exact hq);rw[h.2.1]at this⊢;exact this
  ·rw[e];exact hs.marks _ _ _ hq
 ·exact h.2.2 y hy
theorem Tw.drain(h:Tw c n Q X)(b:Int):Tw c n Q (cj X b):=by
 obtain⟨e1,_,e3,e4,_⟩:=ET (G:=X) b;exact⟨e3.trans h.1,e1.trans h.2.1,fun y hy=>h.2.2 y (by rw[<-e4];exact hy)⟩
theorem Tw.ends(h:Tw c n Q X)(f:Fl)(k y:Int):Tw c n Q (dn X f k y):=by
 unfold dn;refine Tw.drain ?_ _;exact h
theorem Tw.Mg(h:Tw c n Q X)(hs:Tx c Q)(hb:Bs X){i:Nat}(hi:i<X.fls.length)(y:Int):Tw c n Q (dP X i y):=by
 have b4:=(hb.F9 (Nk hi)).2.2.2;have hn:=h.GA hs hb b4 Nw;rcases pI hb hi y with⟨z,q,hz⟩|⟨b,q,hd,hr,h2,hc,_⟩
 ·rw[q];exact hn.ends _ _ _
 ·obtain⟨T,e⟩:=KA (G:={dg X X.fls[i].be Nw with tok:=X.tok-X.cfg.bd}) hi b
  rw[q,e];refine Tw.drain ?_ _;exact hn
theorem Tz(hm:Wm G){e:Ev}(he:fB e)(h7:e.kind=7->G.now+1<=1099511626776)(hs:Tx G.cfg Q)(h:∀x∈G.hea,Q G.now x):∀x∈(iG G e).hea,Q (iG G e).now x:=by
 have hb:=hm.im.bs
 suffices ∃n,Tw G.cfg n Q (iG G e)by
  obtain⟨n,h1⟩:=this;rw[h1.2.1];exact h1.2.2
 have h0:Tw G.cfg G.now Q G:=⟨rfl,rfl,h⟩;unfold iG
 split
 ·refine⟨G.now,?_⟩
  rcases J7 hb he.key with⟨q,_⟩|⟨q,_⟩|⟨k,hlt,_,_,hc,_,_,hg,_,q⟩ <;> (rw[q];exact h0)
 ·split
  ·exact⟨_,h0⟩
  ·split
   ·refine⟨G.now,?_⟩
    unfold nC
    split
    ·exact h0
    ·split
     ·exact h0
     ·exact Tw.drain (X:={fO G 2 e with wts:=G.wts.set e.be.toNat 0}) h0 _
   ·split
    ·rename_i k7
     refine⟨G.now+1,KG (R:=Tw G.cfg (G.now+1) Q) hm (h7 k7) ?_ (fun X f y hX hf hy hR=>hR.ends _ _ _) (fun X i hX hi hv hR=>hR.Mg hs hX.bs hi _)⟩;have hb1:=hb.next (h7 k7);obtain⟨e1,_,e3,e4,_⟩:=yj hb1;refine⟨e4,e1,fun x hx=>?_⟩;obtain⟨y,hy,rfl⟩:=List.mem_map.1 (show x∈(eE {G with now:=G.now+1}).hea.map (gK (eE {G with now:=G.now+1}))from hx);have hy2:Q (G.now+1) y:=by
      rw[nf hb1]at hy;have key:∀(l:List Int) (X:Gt),(∀h∈X.hea,Q (G.now+1) h)->∀h∈(l.foldl cV X).hea,Q (G.now+1) h:=by
       intro l
       induction l with
       |nil=>exact fun X h=>h
       |cons b l ih =>
        intro X hX;refine ih _ fun h hh=>?_
        rcases iC (show h∈X.hea.set b.toNat bm from hh)with rfl|hh
        ·exact hs.zero _
        ·exact hX h hh
      refine key _ _ (fun h hh=>?_) y hy;exact hs.next _ _ (h0.2.2 h hh)
     rw[A2 hb1.Jf hy]
     split
     ·exact hs.back _ _ hy2
     ·exact hy2
    ·refine⟨G.now,?_⟩
     rcases Kt hb e with⟨hc,q⟩|⟨i,hi,_,_,_,⟨_,q⟩|⟨_,q⟩|⟨_,_,⟨_,q⟩|⟨_,_,q⟩|⟨hv,_,q⟩⟩⟩
     ·rw[q];exact h0
     ·rw[q];exact h0.ends _ _ _
     ·obtain⟨T,e1⟩:=Ku hi
      rw[q,e1];exact h0
     ·rw[q];exact h0
     ·obtain⟨T,e1⟩:=KC hi
      rw[q,e1];exact h0.GA hs hb (hb.F9 (Nk hi)).2.2.2 Nb
     ·rw[q];exact h0.Mg hs hb hi _
theorem Rn.TE{A:Gt}{P:Py}(h:Rn A c P)(hc:c.most=0)(h0:∀x∈A.hea,x.out=Nb/\x.times=0):∀x∈P.last.hea,x.out=Nb/\x.times=0:=by
 have hs:Tx c (fun _ h=>h.out=Nb/\h.times=0):=by
  refine⟨fun _=>⟨rfl,rfl⟩,fun _ _ h=>h,fun _ _ _ h=>h,fun _ _ h=>⟨rfl,h.2⟩,fun X b h k hX hm _ _ _=>?_⟩;exfalso;unfold gy iU at hm;rw[hX,hc]at hm
  split at hm
  ·simp at hm
   omega
  ·simp at hm
 exact(h.TF (J:=fun _ G=>∀x∈G.hea,x.out=Nb/\x.times=0) h0 fun n s hs' hJ=>by
  rw[hs'.aft];exact Tz (Q:=fun _ h=>h.out=Nb/\h.times=0) hs'.wm (D5 hs'.ev) hs'.late (by rw[hs'.cfg];exact hs) hJ).2
end
theorem TA(f:Nat->Int)(hf:∀i,i<16->(N6 ME (f i)).wf=Nw)(ds:List Dd)(hds:∀d∈ds,Kg d){pd:Option Oc}{cd:Nat}(hrow:bj Ka w (MG pd ds.length cd) ds)(hblk:aK w)(most:Nat)(hm:most<=100):
  ∃L:List M7,L.length=16/\BD (f 0) (f 1) (f 2) (f 3) (f 4) (f 5) (f 6) (f 7) (f 8) (f 9) (f 10) (f 11) (f 12) (f 13) (f 14) (f 15)=Ny L.toArray/\∀W,MQ w.heap.size w W->Ni MK 25 #[Ny L.toArray,MG pd ds.length cd,MF ME (most:Int)] W (Lq f most W):=
 ⟨[MF ME (f 0),MF ME (f 1),MF ME (f 2),MF ME (f 3),MF ME (f 4),MF ME (f 5),MF ME (f 6),MF ME (f 7),MF ME (f 8),MF ME (f 9),MF ME (f 10),MF ME (f 11),MF ME (f 12),MF ME (f 13),MF ME (f 14),MF ME (f 15)],rfl,rfl,fun W hB=>L6 f hf ds hds W (hrow.below hB) (hblk.below hB) most hm⟩
theorem Jz.TH{base:Nat}{g:Nat}{V:Pv}{c:Cf}{P:Py}(h:Jz base w g V c P)(j:Nat):w.cell? ⟨g,j,MH⟩=(JZ V c P)[j]?:=by
 rw[MW w g j _ _ (0,0) h.box];simp
theorem TB(f:Nat->Int)(hf:∀i,i<16->(N6 ME (f i)).wf=Nw)(ds:List Dd)(hds:∀d∈ds,Kg d){pd:Option Oc}{cd:Nat}(hrow:bj Ka w (MG pd ds.length cd) ds)(hB:aK w):
  Ni MK 15 #[BD (f 0) (f 1) (f 2) (f 3) (f 4) (f 5) (f 6) (f 7) (f 8) (f 9) (f 10) (f 11) (f 12) (f 13) (f 14) (f 15),MG pd ds.length cd] w fun r w'=>r=MN (M3 Nw)/\MQ w.heap.size w w':=by
 obtain⟨f',hf'⟩:∃f':Nat->Int,f'=fun i=>if i=9 then 0 else f i:=⟨_,rfl⟩
 have hwf:∀i,i<16->(N6 ME (f' i)).wf=true:=fun i hi=>by
  rw[hf'];show(N6 ME (if i=9 then 0 else f i)).wf=Nw
  split
  ·rfl
  ·exact hf i hi
 obtain⟨L,hL,eL,hpl⟩:=TA f' hwf ds hds hrow hB 60 (by omega);obtain⟨K,hK⟩:∃K:List M7,K=[MF ME (f 0),MF ME (f 1),MF ME (f 2),MF ME (f 3),MF ME (f 4),MF ME (f 5),MF ME (f 6),MF ME (f 7),MF ME (f 8),MF ME (f 9),MF ME (f 10),MF ME (f 11),MF ME (f 12),MF ME (f 13),MF ME (f 14),MF ME (f 15)]:=⟨_,rfl⟩;have hKL:K.set 9 (MF ME 0)=L:=by
  have:L.toArray=([MF ME (f' 0),MF ME (f' 1),MF ME (f' 2),MF ME (f' 3),MF ME (f' 4),MF ME (f' 5),MF ME (f' 6),MF ME (f' 7),MF ME (f' 8),MF ME (f' 9),MF ME (f' 10),MF ME (f' 11),MF ME (f' 12),MF ME (f' 13),MF ME (f' 14),MF ME (f' 15)]:List M7).toArray:=by injection eL.symm
  have:L=_:=List.toArray_inj this;rw[this,hK,hf'];rfl
 show Ni MK 15 #[Ny (List.toArray [MF ME (f 0),MF ME (f 1),MF ME (f 2),MF ME (f 3),MF ME (f 4),MF ME (f 5),MF ME (f 6),MF ME (f 7),MF ME (f 8),MF ME (f 9),MF ME (f 10),MF ME (f 11),MF ME (f 12),MF ME (f 13),MF ME (f 14),MF ME (f 15)]),MG pd ds.length cd] w _;rw[<-hK];obtain⟨W0,hW0⟩:∃W0,W0=w.alloc (MP L.toArray 24):=⟨_,rfl⟩;have hb0:MQ w.heap.size w W0:=by rw[hW0];exact ai w
 have hK9:9<K.length:=by rw[hK];show 9<16;omega
 have hKg:K[9]?=MI (MF ME (f 9)):=by rw[hK];rfl
 have hm9:f' 9=0:=by rw[hf'];rfl
 have HI:M6 (_/\_/\_):=⟨hL,hb0,hpl W0 hb0⟩;have H9:M6 (K.set 9 (MF ME 0)=L/\f' 9=0):=⟨hKL,hm9⟩;obtain⟨nd,hnd⟩:∃nd,nd=ds.length:=⟨_,rfl⟩;rw[<-hnd]at HI⊢;clear hL eL hpl hb0 hf hds hrow hB hnd hwf hKL hK hf' hm9;go_enter Tryz.func15,Tryz.ntmps15
 go_wp2_with ((with_reducible refine O3 rfl 24 (O6 2) rfl w.heap.size 0 ?gx L _ ?gc TI ?gd ?gi ?_);(case gx=>rfl);(case gc=>rw[H9.out.1];exact J8 (M1 _ _));(case gd=>rfl);(case gi=>rw[HI.out.1];exact K0))
 rw[H9.out.1,<-hW0];clear hW0 hK9 hKg;refine Nd HI.out.2.2 ?_;rintro r w1 ⟨g,V,c,P,rfl,hS,hcx,hn4,hnm,hk3⟩;obtain⟨n,hn⟩:∃n,n=P.steps.length:=⟨_,rfl⟩;have HS:M6 (_/\_/\_/\_/\_):=⟨hS,hcx,hn,(show n<=60+4 by omega),hk3⟩;have hB1:=HI.out.2.1.trans (hS.bel.mono HI.out.2.1.size);have HB:M6 _:=hB1;clear hS hcx hn4 hnm hk3 hn HI hB1;have hmo:c.most=0:=by
  have:=HS.out.2.1.most;rw[H9.out.2]at this;rw[this]
  decide
 have HH:M6 _:=HS.out.1.rn.TE hmo (fun x hx=>by rw[Pd (show x∈Nj 12 bm from hx)];exact⟨rfl,rfl⟩);clear hmo H9
 go_wp2_with fail
 go_loopw [7] (fun i wr=>∃k:Nat,i=MF ME (k:Int)/\k<=12/\M6 (MQ w1.heap.size w1 wr)) (fun i _=>12-(intOf i).toNat)
 case atStart=>exact⟨0,rfl,Nx _,MY _ _⟩
 case round =>
  obtain⟨k,rfl,hk,HW⟩:=hrel;have hSr:=HS.out.1.on HW.out;have c39:wr.cell? ⟨g,39,MH⟩=MI (MG V.u.ph 12 V.u.ch):=(hSr.pat.TH 39).trans rfl;have hgl:=hSr.pat.lt
  by_cases hlt:k<12
  ·have hkI:(k:Int)<12:=by omega
   have hA:=hSr.pat.last.now;have hlen:(V.u.ms.zip P.last.hea).length=12:=by rw[Qn,hA.msl,hA.hel];rfl
   have hhe:=hA.hea;rw[<-hlen]at hhe;obtain⟨a,cap,hv,_,_,hp⟩:=bj.F6 ii hhe;injection hv with q1 q2 q3;obtain⟨b,o,ha,hb,hc⟩:=hp k (by rw[hlen];exact hlt);have hkh:k<P.last.hea.length:=by rw[hA.hel];exact hlt
   have h2:=HH.out P.last.hea[k] (Nk hkh);have e1:wr.cell? ⟨b,o+k*4+1,MH⟩=MI (M3 Nb):=by
    rw[hc 1 (by omega),Qf,<-h2.1];rfl
   have e3:wr.cell? ⟨b,o+k*4+3,MH⟩=MI (MF ME 0):=by
    rw[hc 3 (by omega),Qf,<-h2.2];rfl
   rw[q1,ha]at c39;clear hA hlen hhe hp q1 q2 q3 ha hb hc hkh h2 hSr;go_wp2
   go_roundw
   case rel=>exact⟨k+1,by simp,hlt,HW⟩
   case measure=>simp[intOf];omega
  ·obtain rfl:k=12:=by omega
   have hkI:¬((12:Nat):Int)<12:=by omega
   clear hSr;go_wp2;go_ret;exact⟨rfl,HB.out.trans (HW.out.mono HB.out.size)⟩
end Go.Proofs.YtalhkllgnlejbaaGreatDoor.Q
