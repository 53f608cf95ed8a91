/-
  TopSlots: its walk. Conditions: as each theorem says.
-/
import Derived.Test.YtalhkllgnlejbaaGreatDoorQ20
open Bool renaming false->Nb,true->Nw
open Go renaming Addr->Oc,World->MO,cell_of_row->MW,heap_alloc_new->M1,wpList_load_mid->O3
open Go.IntKind renaming i64->ME
open Go.Obj renaming cells->MP
open Go.Operand renaming tmp->O6
open Go.RowKit renaming Below->MQ,Hid->M6
open Go.RowKit.Below renaming refl->MY
open Go.Value renaming agg->Ny,bool->M3,int->MF,slice->MG
open List renaming getD_eq_getElem?_getD->NK,getElem?_eq_getElem->MR,getElem_mem->Nk,mem_of_getElem?->Nu
open Option renaming none->MH,some->MI
namespace Go.Proofs.YtalhkllgnlejbaaGreatDoor.Q
set_option linter.unusedVariables false
set_option linter.unusedSimpArgs false
set_option maxHeartbeats 16000000
set_option maxRecDepth 100000
open Go.RowKit
attribute [local go_sem ↓] Go.wp_at_zero Go.wp_at_succ
variable {w:MO}
section
variable {A:Gt}{c:Cf}{P:Py}
theorem Rn.TG(h:Rn A c P):(∀s,P.steps[0]?=MI s->s.bef=A)/\(P.steps=[]->P.last=A):=by
 refine h.Mw (J:=fun P=>(∀s,P.steps[0]?=MI s->s.bef=A)/\(P.steps=[]->P.last=A)) ⟨(fun s hs=>absurd hs (by simp)),fun _=>rfl⟩ fun Q e hQ he hl hJ=>?_
 refine⟨fun s hs=>?_,fun hn=>?_⟩
 ·have hs:(Q.steps++[(⟨e,Q.last,(iG Q.last e).Ma,(iG Q.last e).out⟩:Sp)])[0]?=MI s:=hs
  by_cases h0:Q.steps=[]
  ·rw[h0]at hs
   cases hs;exact hJ.2 h0
  ·rw[List.getElem?_append_left (List.length_pos_iff.2 h0)]at hs
   exact hJ.1 s hs
 ·have hn:Q.steps++[(⟨e,Q.last,(iG Q.last e).Ma,(iG Q.last e).out⟩:Sp)]=[]:=hn
  simp at hn
theorem Rn.TI{J:Nat->Gt->Prop}(h:Rn A c P)(h0:J 0 A)(hs:∀n s,JM c s->J n s.bef->J (n+1) s.aft) :
  (∀i s,P.steps[i]?=MI s->J i s.bef/\J (i+1) s.aft)/\J P.steps.length P.last:=by
 have h1:∀i s,P.steps[i]?=MI s->J i s.bef:=by
  intro i
  induction i with
  |zero=>intro s q;rw[h.TG.1 s q];exact h0
  |succ i ih =>
   intro s q;have hi:=(List.getElem?_eq_some_iff.1 q).1;have q1:P.steps[i]?=MI P.steps[i]:=MR (by omega);rw[h.runs.next i _ s q1 q];exact hs i _ (h.runs.chain _ (Nk _)) (ih _ q1)
 have h2:∀i s,P.steps[i]?=MI s->J i s.bef/\J (i+1) s.aft:=fun i s q=>⟨h1 i s q,hs i s (h.runs.chain s (Nu q)) (h1 i s q)⟩
 refine⟨h2,?_⟩
 by_cases hn:P.steps=[]
 ·rw[h.TG.2 hn,hn];exact h0
 ·have hp:=List.length_pos_iff.2 hn
  have q:P.steps[P.steps.length-1]?=MI P.steps[P.steps.length-1]:=MR (by omega);rw[h.runs.tail _ q];have:=(h2 _ _ q).2;rwa[show P.steps.length-1+1=P.steps.length by omega]at this
end
section
variable {A:Gt}{c:Cf}{P:Py}
theorem Rn.TK(h:Rn A c P)(h0:∀k,JK (A.tab.getD k JT)<=0):∀(i:Nat) (s:Sp),P.steps[i]?=MI s->∀k,JK (s.bef.tab.getD k JT)<=i:=by
 intro i s hs k;refine((h.TI (J:=fun n G=>∀k,JK (G.tab.getD k JT)<=n) (fun k=>h0 k) fun n s hs hJ k=>?_).1 i s hs).1 k;rw[hs.aft];show JK ((iG s.bef s.ev).tab.getD k JT)<=_;have:=hJ k;rcases Lc hs.wm hs.out0 (D5 hs.ev) hs.late with⟨hf,_⟩|⟨j,_,_,_,hp⟩
 ·rw[hf k];push_cast;omega
 ·rw[hp k];push_cast;split <;> omega
theorem Tw{G:Gt}{n:Nat}(hn:n<=1000000)(h:∀k,JK (G.tab.getD k JT)<=n){t:FX}(ht:t∈G.tab):eu t = !t.2.1:=by
 obtain⟨k,hk,rfl⟩:=List.getElem_of_mem ht;have:=h k;rw[NK,MR hk,Option.getD_some]at this;unfold JK at this;unfold eu;have h1:(G.tab[k].1 != 1048576)=true:=by
  simp
  split at this <;> omega
 rw[h1];simp
theorem JM.slot{s:Sp}(h:JM c s){n:Nat}(hn:n<=1000000)(hp:∀k,JK (s.bef.tab.getD k JT)<=n){o:Ou}(ho:s.out=[o])(h1:o.kind=1) :
  ∃(k:Nat) (hk:k<s.bef.tab.length),o.slot=k/\s.bef.tab[k].2.1=Nb/\s.bef.tab[k].1=o.gen/\∀j (hj:j<k),(s.bef.tab[j]'(by omega)).2.1=true:=by
 have hb:=h.wm.im.bs;have hk1:s.ev.kind=1:=by
  rcases Lc h.wm h.out0 (D5 h.ev) h.late with⟨_,hf⟩|⟨_,h1,_⟩
  ·rw[<-h.out,ho]at hf
   exact absurd h1 (hf o (by simp))
  ·exact h1
 have ho2:=h.out;rw[ho]at ho2;unfold iG at ho2;rw[Nh hk1]at ho2;rcases J7 hb (D5 h.ev).key with⟨q,_⟩|⟨q,_⟩|⟨k,hlt,_,_,hc,_,hu,hg,hj,q⟩
 ·rw[q]at ho2
  have ho2:[o]=s.bef.out++[(⟨2,0,0,0,0,9,0⟩:Ou)]:=ho2;rw[h.out0]at ho2;cases ho2;cases h1
 ·rw[q]at ho2
  have ho2:[o]=s.bef.out++[(⟨2,0,0,0,0,11,0⟩:Ou)]:=ho2;rw[h.out0]at ho2;cases ho2;cases h1
 ·rw[q]at ho2
  have ho2:[o]=s.bef.out++[(⟨1,k,s.bef.tab[k].1,(dL s.bef s.ev.key s.bef.fls).1,0,0,0⟩:Ou)]:=ho2;rw[h.out0]at ho2;cases ho2;refine⟨k,hlt,rfl,hu,rfl,fun j hj'=>?_⟩;have:=hj j hj';rw[Tw hn hp (Nk _)]at this
  simpa using this
end
abbrev TE:List Value:=[MF ME 0,MF ME 0,MF ME 0,MF ME 0,M3 Nb,MF ME 0,MF ME 0,MF ME 0,MF ME 0,MF ME 0,MF ME 0,MF ME 0,MF ME 0,MF ME 0,MF ME 0,MF ME 0,MF ME 0,MF ME 0,MF ME 0,MF ME 0,MF ME 0,MF ME 0,MF ME 0,MF ME 0,MF ME 0,MG MH 0 0,MG MH 0 0,MG MH 0 0,MG MH 0 0,MG MH 0 0,MG MH 0 0,MF ME 0,MF ME 0,MG MH 0 0,MF ME 0,MF ME 0,MF ME 0,MF ME 0,MF ME 0,MF ME 0,MF ME 0,MF ME 0,MF ME 0,MF ME 0,MF ME 0,MF ME 0,MF ME 0,MF ME 0,MF ME 0,MF ME 0,MF ME 0,MG MH 0 0,MG MH 0 0,MG MH 0 0,MG MH 0 0,MG MH 0 0,MG MH 0 0,MF ME 0,MF ME 0,MG MH 0 0,MG MH 0 0]
theorem Tz:(Tryz.prog.info? 73).map (·.size)=MI 61:=by kernel_rfl
theorem Jz.Gm{base:Nat}{g:Nat}{V:Pv}{c:Cf}{P:Py}(h:Jz base w g V c P):w.cell? ⟨g,16,MH⟩=MI (MG V.ps P.steps.length V.cs):=by
 rw[MW w g 16 _ _ (0,0) h.box,h.steps];rfl
structure Tx(W:MO)(ps:Option Oc)(k:Nat)(q:Sq)(b o:Nat):Prop where
 at_:ps=MI ⟨b,o,MH⟩
 cells:W.rangeAt b (o+k*61) (JU q)
 rd:Kh W q
theorem JD.step{W:MO}{g:Nat}{V:Pv}{c:Cf}{P:Py}(h:JD w W g V c P){k:Nat}(hk:k<P.steps.length):∃q b o,Tx W V.ps k q b o/\P.steps[k]?=MI q.s/\JM c q.s:=by
 have hl:=h.pat.steps;have hkq:k<V.qs.length:=by omega
 have hrv:bj JU W (MG V.ps V.qs.length V.cs) V.qs:=gZ h.pat.rows;obtain⟨a,cap,hv,_,_,hp⟩:=bj.F6 LV hrv;injection hv with q1 _ _;obtain⟨b,o,ha,hb,hc⟩:=hp k hkq;have e:P.steps[k]?=MI V.qs[k].s:=by rw[<-h.pat.eqs,List.getElem?_map,MR hkq];rfl
 refine⟨V.qs[k],b,o,⟨q1.trans ha,fun j v hv=>?_,(h.pat.all _ (Nk hkq)).now⟩,e,h.rn.runs.chain _ (Nu e)⟩;have hj:j<61:=(List.getElem?_eq_some_iff.1 hv).1;rw[hc j hj];exact hv
structure Ty(W:MO)(b:Nat)(q:Sq):Prop where
 box:W.heap[b]?=MI (MP (JU q).toArray 73 (0,0))
 rd:Kh W q
theorem Kh.below{W Y:MO}{q:Sq}(h:Kh W q)(hb:MQ W.heap.size W Y):Kh Y q:=⟨h.1.below hb,h.2.1.below hb,h.2.2.below hb⟩
theorem Ty.on{W Y:MO}{b:Nat}{q:Sq}(h:Ty W b q)(hb:MQ W.heap.size W Y):Ty Y b q:=⟨af h.box hb,h.rd.below hb⟩
theorem TD(q:Sq):(JU q).toArray.all (·.oneCell')=true:=by
 apply all_oneCell_toArray;exact LU q
theorem Tx.box{W:MO}{ps:Option Oc}{k:Nat}{q:Sq}{b o:Nat}(h:Tx W ps k q b o):∃Y,Y=(W.alloc (MP TE.toArray 73)).setCells W.heap.size 0 (JU q)/\Ty Y W.heap.size q/\MQ W.heap.size W Y/\(W.alloc (MP TE.toArray 73)).there W.heap.size 0 (JU q).toArray.size:=by
 have hZ:(W.alloc (MP TE.toArray 73)).heap[W.heap.size]?=MI (MP TE.toArray 73 (0,0)):=M1 _ _;have hB:MQ W.heap.size W ((W.alloc (MP TE.toArray 73)).setCells W.heap.size 0 (JU q)):=tW (ai W) (Nat.le_refl _) _ _ (by simp);exact⟨_,rfl,⟨KM hZ rfl,h.rd.below hB⟩,hB,(show(W.alloc (MP TE.toArray 73)).there W.heap.size 0 (JU q).toArray.size from sF (old:=TE) hZ)⟩
theorem Ty.F7{W:MO}{b:Nat}{q:Sq}(h:Ty W b q)(j:Nat):W.cell? ⟨b,j,MH⟩=(JU q)[j]?:=by
 rw[MW W b j _ _ (0,0) h.box];simp
theorem TC(f:Nat->Int)(hf:∀i,i<16->(Lit.int ME (f i)).wf=Nw)(ds:List Dd)(hds:∀d∈ds,Kg d){pd:Option Oc}{cd:Nat}(hrow:bj Ka w (MG pd ds.length cd) ds)(hblk:aK w)(most:Nat)(hm:most<=100):
  ∃L:List Value,L.length=16/\BD (f 0) (f 1) (f 2) (f 3) (f 4) (f 5) (f 6) (f 7) (f 8) (f 9) (f 10) (f 11) (f 12) (f 13) (f 14) (f 15)=Ny L.toArray/\∀W,MQ w.heap.size w W->Calls Tryz.prog 25 #[Ny L.toArray,MG pd ds.length cd,MF ME (most:Int)] W (Lq f most W):=
 ⟨[MF ME (f 0),MF ME (f 1),MF ME (f 2),MF ME (f 3),MF ME (f 4),MF ME (f 5),MF ME (f 6),MF ME (f 7),MF ME (f 8),MF ME (f 9),MF ME (f 10),MF ME (f 11),MF ME (f 12),MF ME (f 13),MF ME (f 14),MF ME (f 15)],rfl,rfl,fun W hB=>L6 f hf ds hds W (hrow.below hB) (hblk.below hB) most hm⟩
theorem TA{W:MO}{p:Option Oc}{c:Nat}{L:List Ou}(h:bj gT W (MG p L.length c) L){i:Nat}(hi:i<L.length) :
  ∃b o,p=MI ⟨b,o,MH⟩/\W.cell? ⟨b,o+i*7,MH⟩=MI (MF ME L[i].kind)/\W.cell? ⟨b,o+i*7+1,MH⟩=MI (MF ME L[i].slot)/\W.cell? ⟨b,o+i*7+2,MH⟩=MI (MF ME L[i].gen)/\W.cell? ⟨b,o+i*7+3,MH⟩=MI (MF ME L[i].be)/\W.cell? ⟨b,o+i*7+4,MH⟩=MI (MF ME L[i].req)/\W.cell? ⟨b,o+i*7+5,MH⟩=MI (MF ME L[i].code)/\W.cell? ⟨b,o+i*7+6,MH⟩=MI (MF ME L[i].why):=by
 obtain⟨a,cap,hv,_,_,hp⟩:=bj.F6 Bq h;injection hv with q1 _ _;obtain⟨b,o,ha,_,hc⟩:=hp i hi;exact⟨b,o,q1.trans ha,hc 0 (by omega),hc 1 (by omega),hc 2 (by omega),hc 3 (by omega),hc 4 (by omega),hc 5 (by omega),hc 6 (by omega)⟩
theorem TB{W:MO}{p:Option Oc}{c:Nat}{L l:List Ou}{x:Ou}(h:bj gT W (MG p L.length c) L)(e:L=x::l) :
  ∃b o,p=MI ⟨b,o,MH⟩/\W.cell? ⟨b,o,MH⟩=MI (MF ME x.kind)/\W.cell? ⟨b,o+1,MH⟩=MI (MF ME x.slot)/\W.cell? ⟨b,o+2,MH⟩=MI (MF ME x.gen)/\W.cell? ⟨b,o+3,MH⟩=MI (MF ME x.be)/\W.cell? ⟨b,o+4,MH⟩=MI (MF ME x.req)/\W.cell? ⟨b,o+5,MH⟩=MI (MF ME x.code)/\W.cell? ⟨b,o+6,MH⟩=MI (MF ME x.why):=by
 subst e;obtain⟨b,o,h1,h2⟩:=TA h (i:=0) (Nat.succ_pos _);simp only[Nat.zero_mul,Nat.add_zero,List.getElem_cons_zero]at h2;exact⟨b,o,h1,h2⟩
theorem TF(f:Nat->Int)(hf:∀i,i<16->(Lit.int ME (f i)).wf=Nw)(ds:List Dd)(hds:∀d∈ds,Kg d){pd:Option Oc}{cd:Nat}(hrow:bj Ka w (MG pd ds.length cd) ds)(hB:aK w):
  Calls Tryz.prog 20 #[BD (f 0) (f 1) (f 2) (f 3) (f 4) (f 5) (f 6) (f 7) (f 8) (f 9) (f 10) (f 11) (f 12) (f 13) (f 14) (f 15),MG pd ds.length cd] w fun r w'=>r=Ending.returned (M3 Nw)/\MQ w.heap.size w w':=by
 obtain⟨L,hL,eL,hpl⟩:=TC f hf ds hds hrow hB 60 (by omega);rw[eL];obtain⟨W0,hW0⟩:∃W0,W0=w.alloc (MP L.toArray 24):=⟨_,rfl⟩;have hb0:MQ w.heap.size w W0:=by rw[hW0];exact ai w
 have HI:M6 (_/\_/\_):=⟨hL,hb0,hpl W0 hb0⟩;obtain⟨nd,hnd⟩:∃nd,nd=ds.length:=⟨_,rfl⟩;rw[<-hnd]at HI⊢;clear hL eL hpl hb0 hf hds hrow hB hnd;go_enter Tryz.func20,Tryz.ntmps20
 go_wp2_with ((with_reducible refine O3 rfl 24 (O6 2) rfl w.heap.size 0 ?gx L _ ?gc Tryz.underlying24 ?gd ?gi ?_);(case gx=>rfl);(case gc=>exact J8 (M1 _ _));(case gd=>rfl);(case gi=>rw[HI.out.1];exact K0))
 rw[<-hW0];clear hW0;refine Calls.mono HI.out.2.2 ?_;rintro r w1 ⟨g,V,c,P,rfl,hS,hcx,hn4,hnm,hk3⟩;obtain⟨n,hn⟩:∃n,n=P.steps.length:=⟨_,rfl⟩;have HS:M6 (_/\_/\_/\_/\_):=⟨hS,hcx,hn,(show n<=60+4 by omega),hk3⟩;have hB1:=HI.out.2.1.trans (hS.bel.mono HI.out.2.1.size);have HB:M6 _:=hB1;clear hS hcx hn4 hnm hk3 hn HI hB1
 go_wp2_with fail
 go_loopw [7,8,9,10] (fun i _ _ _ wr=>∃k:Nat,i=MF ME (k:Int)/\k<=n/\M6 (MQ w1.heap.size w1 wr)) (fun i _ _ _ _=>n-(intOf i).toNat)
 case atStart=>exact⟨0,rfl,Nat.zero_le _,MY _ _⟩
 case round =>
  obtain⟨k,rfl,hk,HW⟩:=hrel;have hSr:=HS.out.1.on HW.out;have c16:wr.cell? ⟨g,16,MH⟩=MI (MG V.ps n V.cs):=by rw[HS.out.2.2.1];exact hSr.pat.Gm
  have hgl:=hSr.pat.lt
  by_cases hlt:k<n
  ·have hkI:(k:Int)<(n:Int):=by omega
   have hnb:n<=9223372036854775807:=by have:=HS.out.2.2.2.1;omega
   obtain⟨q,b,o,hq,hst,hok⟩:=hSr.step (k:=k) (by rw[<-HS.out.2.2.1];exact hlt);obtain⟨Y,hY,hSB,hYb,hth⟩:=hq.box;obtain⟨R,hR⟩:∃R,R=JU q:=⟨_,rfl⟩;have hat:=hq.at_;have y25:Y.cell? ⟨wr.heap.size,25,MH⟩=MI (MG q.u.pt q.s.bef.tab.length q.u.ct):=(hSB.F7 25).trans rfl;have y60:Y.cell? ⟨wr.heap.size,60,MH⟩=MI (MG q.po q.s.out.length q.co):=(hSB.F7 60).trans rfl;have hcs:=hq.cells;rw[<-hR]at hY hth hcs;have HQ:M6 (_/\_/\_/\_/\_/\_):=⟨hcs,hth,hY,hR,HW.out.trans (hYb.mono HW.out.size),(show R.length=61 by rw[hR];rfl)⟩;have HT:M6 (_/\_/\_/\_):=⟨hst,hok,hSB,hYb⟩;clear hq hst hok hY hSB hYb hth hR hcs;rw[hat]at c16;clear hat
   have hout:=HT.out.2.2.1.rd.2.2;clear hSr
   by_cases hl1:q.s.out.length=1
   rotate_left
   have hl1':((q.s.out.length:Int) != 1)=true:=by simp;omega
   clear hout hl1
   rotate_left
   obtain⟨x,hx⟩:∃x,q.s.out=[x]:=by
    match hq:q.s.out,hl1 with
    | [x],_=>exact⟨x,rfl⟩
   obtain⟨bo,oo,hpo,u0,u1,u2,u3,u4',u5,u6⟩:=TB hout hx;rw[hl1,hpo]at y60;have hbo:bo<Y.heap.size:=World.block_lt_of_cell? Y ⟨bo,oo,MH⟩ u0
   by_cases h1:x.kind=1
   rotate_left
   have h1':(x.kind != 1)=true:=by simp[h1]
   clear hl1 hx hpo hout
   rotate_left 2
   have h1':(x.kind != 1)=false:=by simp[h1]
   have hphi:=HS.out.1.rn.TK (fun k=>by
    show JK ((List.replicate c.flows.toNat JT).getD k JT)<=0;rw[NK,List.getElem?_replicate]
    split <;> decide) k q.s HT.out.1
   obtain⟨k0,hk0,s1,s2,s3,s4⟩:=HT.out.2.1.slot (n:=k) (by have:=HS.out.2.2.2.1;omega) hphi hx h1;obtain⟨m,hm⟩:∃m,m=q.s.bef.tab.length:=⟨_,rfl⟩;have HM:M6 (m=q.s.bef.tab.length):=hm;rw[<-hm]at y25;have hmb:m<=40:=by rw[hm];exact HT.out.2.1.wm.im.bs.tab.1.2
   have hk0m:k0<m:=by rw[hm];exact hk0
   rw[s1]at u1;have HK:M6 (∀(i:Nat) (hi:i<q.s.bef.tab.length),(i=k0->q.s.bef.tab[i].2.1=Nb/\q.s.bef.tab[i].1=x.gen)/\(i<k0->q.s.bef.tab[i].2.1=Nw)):=fun i hi=>⟨fun e=>by subst e;exact⟨s2,s3⟩,fun h=>s4 i h⟩
   have hYl:wr.heap.size<Y.heap.size:=(Array.getElem?_eq_some_iff.1 HT.out.2.2.1.box).1;clear s1 s2 s3 s4 hphi hm hl1 hx hpo hout hk0
   all_goals go_wp2_with (first|((with_reducible refine O3 rfl 73 (O6 31) rfl b (o+k*61) ?gx R _ ?gc Tryz.underlying73 ?gd ?gi ?_);(case gx=>rfl);(case gc=>exact HQ.out.1);(case gd=>rfl);(case gi=>rw[HQ.out.2.2.2.2.2];exact Tz))|((with_reducible refine wpList_store_mid rfl 73 (O6 8) (O6 32) rfl wr.heap.size 0 R.toArray ?sx ?sy ?st ?si ?s1 ?_);(case sx=>rfl);(case sy=>rfl);(case st=>exact HQ.out.2.1);(case si=>rw[List.size_toArray,HQ.out.2.2.2.2.2];exact Tz);(case s1=>rw[HQ.out.2.2.2.1];exact TD q);rw[List.toList_toArray,<-HQ.out.2.2.1]))
   ·obtain⟨Z,hZ⟩:∃Z,Z=Y.alloc (MP #[MF ME 1,MF ME (k0:Int),MF ME x.gen,MF ME x.be,MF ME x.req,MF ME x.code,MF ME x.why] 61):=⟨_,rfl⟩
    have hZb:MQ Y.heap.size Y Z:=by rw[hZ];exact ai Y
    have hZx:Z.heap[Y.heap.size]?=MI (MP #[MF ME 1,MF ME (k0:Int),MF ME x.gen,MF ME x.be,MF ME x.req,MF ME x.code,MF ME x.why] 61 (0,0)):=by rw[hZ];exact M1 _ _
    rw[<-hZ];have HZ:M6 (_/\_/\_):=⟨hZb,hZx,HQ.out.2.2.2.2.1.trans (hZb.mono HQ.out.2.2.2.2.1.size)⟩;obtain⟨B8,hB8⟩:∃B8,B8=wr.heap.size:=⟨_,rfl⟩;have hSZ:=HT.out.2.2.1.on hZb;obtain⟨B9,hB9⟩:∃B9,B9=Y.heap.size:=⟨_,rfl⟩;have hx9:=hZx;rw[<-hB9]at hx9⊢;rw[<-hB8]at hSZ⊢;have HSZ:M6 (_/\_):=⟨hSZ,hx9⟩;clear hZ hZb hZx hB8 hB9 hSZ hx9 y25 y60 u0 u1 u2 u3 u4' u5 u6 hbo hYl c16 hgl
    go_loopw [10] (fun i wr=>∃j:Nat,i=MF ME (j:Int)/\j<=k0/\M6 (MQ Z.heap.size Z wr)) (fun i _=>k0-(intOf i).toNat)
    case atStart=>exact⟨0,rfl,Nat.zero_le _,MY _ _⟩
    case round =>
     obtain⟨j,rfl,hj,HX⟩:=hrel;have hS8:=HSZ.out.1.on HX.out;have hx9:=af HSZ.out.2 HX.out;have v25:wr.cell? ⟨B8,25,MH⟩=MI (MG q.u.pt m q.u.ct):=by rw[hS8.F7 25,HM.out];rfl
     have v1:wr.cell? ⟨B9,1,MH⟩=MI (MF ME (k0:Int)):=by rw[MW wr _ 1 _ _ (0,0) hx9];rfl
     have v2:wr.cell? ⟨B9,2,MH⟩=MI (MF ME x.gen):=by rw[MW wr _ 2 _ _ (0,0) hx9];rfl
     obtain⟨a,cap,hv,_,_,hp⟩:=bS.F6 hS8.rd.1.tab;injection hv with q1 q2 q3;have hjt:j<q.s.bef.tab.length:=by rw[<-HM.out];omega
     obtain⟨bt,ot,ha,hbt,t0,t1,t2,t3⟩:=hp j hjt;have hK:=HK.out j hjt;obtain⟨tb,htb⟩:∃tb,tb=q.s.bef.tab[j]:=⟨_,rfl⟩;rw[<-htb]at t0 t1 hK;clear t2 t3;rw[q1,ha]at v25
     by_cases hlj:j<k0
     ·have hjI:(j:Int)<(k0:Int):=by omega
      have hjm:(j:Int)<(m:Int):=by omega
      rw[hK.2 hlj]at t1;clear hp q1 q2 q3 ha hbt hK htb hS8 hx9 hjt
      go_wp2_with fail
      go_roundw
      case rel=>exact⟨j+1,by simp,hlj,HX⟩
      case measure=>simp[intOf];omega
     ·obtain rfl:j=k0:=by omega
      have hjI:¬(j:Int)<(j:Int):=by omega
      have hjm:(j:Int)<(m:Int):=by omega
      have hjm2:¬(m:Int)<=(j:Int):=by omega
      rw[(hK.1 rfl).1]at t1;rw[(hK.1 rfl).2]at t0;clear hp q1 q2 q3 ha hbt hK htb hS8 hx9 hjt
      go_wp2_with fail
      refine wp_region_quiet_lit (by kernel_rfl) (by kernel_rfl) ?_
      repeat (first|go_big_quiet_skip|quiet_step (fail))
      refine wpQuiet_nil ?_;intro _ hw';obtain⟨nq,hw''⟩:=hw';subst hw'';go_wp2
      go_roundw
      case rel=>exact⟨k+1,by simp,hlt,HZ.out.2.2.trans ((HX.out.trans ((B3 (MY _ _) nq).mono HX.out.size)).mono HZ.out.2.2.size)⟩
      case measure=>simp[intOf];omega
   all_goals
    go_roundw
    case rel=>exact⟨k+1,by simp,hlt,HQ.out.2.2.2.2.1⟩
    case measure=>simp[intOf];omega
  ·obtain rfl:k=n:=by omega
   have hkI:¬(k:Int)<(k:Int):=by omega
   go_wp2;go_ret;exact⟨rfl,HB.out.trans (HW.out.mono HB.out.size)⟩
end Go.Proofs.YtalhkllgnlejbaaGreatDoor.Q
