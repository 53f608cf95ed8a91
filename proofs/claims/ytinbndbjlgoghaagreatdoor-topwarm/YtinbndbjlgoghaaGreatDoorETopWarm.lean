/-
  TopWarm: its walk. Conditions: as each theorem says.
-/
import Derived.Test.YtinbndbjlgoghaaGreatDoorQ20
open Bool renaming false->Nb,true->Nw
open Go renaming Calls->Ni,Value->M7,World->MO,cell_of_row->MW,heap_alloc_new->M1,wpList_load_mid->O3
open Go.Ending renaming returned->MN
open Go.IntKind renaming i64->ME
open Go.Obj renaming cells->MP
open Go.Operand renaming tmp->O6
open Go.Proofs.Tryz renaming prog->MK,underlying49->OX
open Go.RowKit renaming Below->MQ,Hid->M6
open Go.RowKit.Below renaming refl->MY
open Go.Value renaming agg->Ny,bool->M3,int->MF,slice->MG
open List renaming getElem?_append_left->OJ,getElem?_append_right->Tw,getElem?_eq_getElem->MR,getElem_mem->Nk
open Nat renaming add_sub_cancel_left->Vn,zero_le->Nx
open Option renaming none->MH,some->MI
open Or renaming inl->Nt,inr->NF
namespace Go.Proofs.YtinbndbjlgoghaaGreatDoor.Q
set_option linter.unusedVariables false
set_option linter.unusedSimpArgs false
set_option maxHeartbeats 16000000
set_option maxRecDepth 100000
open Go.RowKit
attribute [local go_sem ↓] Go.wp_at_zero Go.wp_at_succ
variable {G X:Gt}{w:MO}
section
variable {G:Gt}
theorem U0{x:FV}(u id:Int):(mH x u id).2.1=if x.2.1=2 then 3 else 4:=rfl
end
section
variable {A:Gt}{c:Cf}{P:Py}
theorem JM.next{s:Sp}(h:JM c s):Wm s.aft:=by rw[h.aft];exact(h.wm.Mm (D5 h.ev) h.late).Ma
end
section
variable {G:Gt}{c:Cf}
theorem UZ(hb:bX X.liv X.req)(d b:Int):aq (cj X d).liv b=aq X.liv b\/(b=d/\aA X.liv b=3/\aA (cj X d).liv b=4):=by
 unfold cj
 split
 ·rename_i hc
  show aq (eL X.liv X.req d).1.1 b=aq X.liv b\/(b=d/\aA X.liv b=3/\(aq (eL X.liv X.req d).1.1 b).2.1=4);rw[(vD hb hc.1).1];show aq (cU X.liv d dC) b=aq X.liv b\/(b=d/\aA X.liv b=3/\(aq (cU X.liv d dC) b).2.1=4);rw[zZ hb.1.2.2 hc.1]
  by_cases e:b=d
  ·subst e
   rw[Nh rfl];exact NF ⟨rfl,hc.1,rfl⟩
  ·rw[Nf e];exact Nt rfl
 ·exact Nt rfl
def Lv(G X:Gt):Prop:=∀b:Int,aA G.liv b=2->aq X.liv b=aq G.liv b
theorem Lv.drain(h:Lv G X)(hb:bX X.liv X.req)(d:Int):Lv G (cj X d):=fun b h2=>by
 rcases UZ hb d b with e|⟨_,e,_⟩
 ·rw[e];exact h b h2
 ·have:=h b h2
  rw[show aA X.liv b=(aq X.liv b).2.1 from rfl,this]at e;have h2:(aq G.liv b).2.1=2:=h2;omega
theorem Lv.ends(h:Lv G X)(hb:Bs X)(f:Fl)(k y:Int):Lv G (dn X f k y):=by
 unfold dn;refine Lv.drain ?_ ?_ _
 ·exact h
 ·exact hb.book
theorem Lv.Mg(h:Lv G X)(hb:Bs X){i:Nat}(hi:i<X.fls.length)(y:Int):Lv G (dP X i y):=by
 have b4:=(hb.F9 (Nk hi)).2.2.2;rcases pI hb hi y with⟨z,q,hz⟩|⟨b,q,hd,hr,h2,hc,_⟩
 ·rw[q];exact Lv.ends (X:=dg X X.fls[i].be Nw) h (hb.GA b4 Nw) _ _ _
 ·obtain⟨T,e⟩:=KA (G:={dg X X.fls[i].be Nw with tok:=X.tok-X.cfg.bd}) hi b
  rw[q,e];refine Lv.drain ?_ ?_ _
  ·exact h
  ·exact hb.book
theorem U1(hb:Bs G)(hn:G.now+1<=1099511626776):Lv G (J1 G):=fun b h2=>by
 have e:=(yj (hb.next hn)).2.2.2.2.2.2.2;show aq (eE {G with now:=G.now+1}).liv b=_;rw[e];show aq (G.liv.map (aY (G.now+1))) b=_;have h3:=vr (hb.next hn) b;have h3:aq (G.liv.map (aY (G.now+1))) b=aY (G.now+1) (aq G.liv b):=h3;rw[h3];unfold aY;rw[Nf (by have h2:(aq G.liv b).2.1=2:=h2;omega)]
theorem U2(hm:Wm G){e:Ev}(he:fB e)(h7:e.kind=7->G.now+1<=1099511626776){b:Int}(h2:aA G.liv b=2) :
  aq (iG G e).liv b=aq G.liv b\/(e.kind=6/\e.be=b/\aA (iG G e).liv b≠2):=by
 have hb:=hm.im.bs;have h0:Lv G G:=fun _ _=>rfl
 unfold iG
 split
 ·refine Nt ?_
  rcases J7 hb he.key with⟨q,_⟩|⟨q,_⟩|⟨k,hlt,_,_,hc,_,_,hg,_,q⟩ <;> (rw[q];rfl)
 ·split
  ·rename_i k5
   refine Nt ?_;show aq (dJ G 1 e).1.1 b=_;rcases Cr hb he.req (Nt rfl:(1:Int)=1\/(1:Int)=2)with⟨_,q⟩|⟨_,_,q,_⟩|⟨_,k,_⟩
   ·rw[q]
   ·rw[q]
    rcases Ky hb.book.1.2 he.be (he.wt k5)with⟨h1,_,h3,_⟩|⟨_,h3⟩
    ·rw[h3,Nf]
     intro e1;rw[e1]at h2;omega
    ·rw[h3]
   ·exact absurd k (by decide)
  ·split
   ·rename_i k6
    unfold nC;rcases Fq hb he.req with⟨hy,q⟩|⟨hy,_,_,hst,q⟩
    ·rw[Nh hy]
     refine Nt ?_;show aq (dJ G 2 e).1.1 b=_;rw[q]
    ·rw[Nf (by rw[hy];decide)]
     have hq:aq (fO G 2 e).liv b=if b=e.be then mH (aq G.liv b) (G.now+G.cfg.drain) e.req else aq G.liv b:=by
      show aq (dJ G 2 e).1.1 b=_;rw[q]
      by_cases e1:b=e.be
      ·rw[Nh e1]
       subst e1;obtain⟨hm1,hm2⟩:=kQ (L:=G.liv) (b:=e.be) (by omega);have:=zL hb.Gv hm1 (y:=fun x=>mH x (G.now+G.cfg.drain) e.req) (fun _=>rfl);rw[hm2]at this;exact this
      ·rw[Nf e1];exact vq _ e1 (fun _=>rfl)
     split
     ·rename_i h1
      refine Nt ?_;show aq (fO G 2 e).liv b=_;rw[hq,Nf];intro e1;rw[e1,h1]at h2;cases h2
     ·have hbk:bX (fO G 2 e).liv (fO G 2 e).req:=(hb.Mc he.req (NF rfl:(2:Int)=1\/(2:Int)=2)).book
      have hd:=UZ (X:={fO G 2 e with wts:=G.wts.set e.be.toNat 0}) hbk e.be b
      by_cases e1:b=e.be
      ·refine NF ⟨k6,e1.symm,?_⟩
       rw[Nh e1]at hq;have h3:aA (fO G 2 e).liv b=3:=by
        show(aq (fO G 2 e).liv b).2.1=3;rw[hq,U0,Nh h2]
       rcases hd with h4|⟨_,_,h4⟩
       ·have h4:aq (cj {fO G 2 e with wts:=G.wts.set e.be.toNat 0} e.be).liv b=aq (fO G 2 e).liv b:=h4
        show(aq (cj {fO G 2 e with wts:=G.wts.set e.be.toNat 0} e.be).liv b).2.1≠2;rw[h4,show(aq (fO G 2 e).liv b).2.1=3 from h3]
        decide
       ·rw[h4];decide
      ·rw[Nf e1]at hq
       rcases hd with h4|⟨h4,_⟩
       ·exact Nt (h4.trans hq)
       ·exact absurd h4 e1
   ·split
    ·rename_i k7
     exact Nt (KG (R:=Lv G) hm (h7 k7) (U1 hb (h7 k7)) (fun X f y hX hf hy hR=>hR.ends hX.bs _ _ _) (fun X i hX hi _ hR=>hR.Mg hX.bs hi _) b h2)
    ·refine Nt ?_
     rcases Kt hb e with⟨hc,q⟩|⟨i,hi,_,_,_,⟨_,q⟩|⟨_,q⟩|⟨_,_,⟨_,q⟩|⟨_,_,q⟩|⟨hv,_,q⟩⟩⟩
     ·rw[q];rfl
     ·rw[q];exact h0.ends hb _ _ _ b h2
     ·obtain⟨T,e1⟩:=Ku hi
      rw[q,e1];rfl
     ·rw[q];rfl
     ·obtain⟨T,e1⟩:=KC hi
      rw[q,e1];rfl
     ·rw[q];exact h0.Mg hb hi _ b h2
end
def U3(G:Gt)(b:Int):Int:=if aA G.liv b=2 then gL G (aq G.liv b)else 0
section
variable {G:Gt}{c:Cf}
theorem U4{w g k m:Int}(hw:1<=w/\w<=8)(hg:0<=g)(hk:g<=k)(hm:0<=m):FZ w g m<=FZ w k m:=by
 by_cases h:m<=k
 ·have:=(A0 hw hg hm).2
  unfold FZ at this⊢;rw[Nh h];exact this
 ·unfold FZ
  rw[Nf h,Nf (by omega)];have h1:w*g / m<=w*k / m:=Int.ediv_le_ediv (by omega) (Int.mul_le_mul_of_nonneg_left hk (by omega));omega
theorem JM.warm{s:Sp}(h:JM c s){y:FV}(hy:y∈s.aft.liv)(h2:y.2.1=2) :
  U3 s.aft y.1<=y.2.2.1/\(U3 s.bef y.1<=U3 s.aft y.1\/(s.aft.hea.getD y.1.toNat bm).out=Nw):=by
 have hb:=h.wm.im.bs;have hb':=h.next.im.bs;have e1:=iZ hb'.Gv hy;have hs:aA s.aft.liv y.1=2:=by show(aq s.aft.liv y.1).2.1=2;rw[e1];exact h2
 have ew:U3 s.aft y.1=gL s.aft y:=by unfold U3;rw[Nh hs,e1]
 have hw:=hb'.Jp hy;rw[ew];refine⟨hw.2.1,?_⟩
 by_cases ho:(s.aft.hea.getD y.1.toNat bm).out=Nw
 ·exact NF ho
 ·refine Nt ?_
  unfold U3
  by_cases hs2:aA s.bef.liv y.1=2
  ·rw[Nh hs2]
   have ht:=U2 h.wm (D5 h.ev) h.late hs2;have ea:s.aft.liv=(iG s.bef s.ev).liv:=by rw[h.aft];rfl
   rw[<-ea]at ht;rcases ht with ht|⟨_,_,ht⟩
   ·rw[e1]at ht
    rw[<-ht];unfold gL;have hn:s.aft.now=if s.ev.kind=7 then s.bef.now+1 else s.bef.now:=by rw[h.aft];exact(KF _ _).2
    have hc:s.aft.cfg=s.bef.cfg:=by rw[h.aft];exact(KF _ _).1
    rw[Nf ho,hc];have hm:=(kQ (L:=s.bef.liv) (b:=y.1) (by rw[hs2];decide)).1;rw[<-ht]at hm;have hsi:=hb.since _ hm;have hlf:=(hb.lf hm).1;have hwm:=hb.cfg.2.2.2.2.1
    split
    ·have:=(A0 (wg:=y.2.2.1) (gone:=s.aft.now-y.2.2.2.1) (warm:=s.bef.cfg.warm) hlf.2.1 (by rw[hn];split <;> omega) hwm.1).1
     omega
    ·exact U4 hlf.2.1 (by omega) (by rw[hn];split <;> omega) hwm.1
   ·exact absurd hs ht
  ·rw[Nf hs2]
   exact hw.1
end
abbrev Vg:List Value:=[MF ME 0,MF ME 0,MF ME 0,MF ME 0,M3 Nb,MF ME 0,MF ME 0,MF ME 0,MF ME 0,MF ME 0,MF ME 0,MF ME 0,MF ME 0,MF ME 0,MF ME 0,MF ME 0,MF ME 0,MF ME 0,MF ME 0,MF ME 0,MF ME 0,MF ME 0,MF ME 0,MF ME 0,MF ME 0,MG MH 0 0,MG MH 0 0,MG MH 0 0,MG MH 0 0,MG MH 0 0,MG MH 0 0,MF ME 0,MF ME 0,MG MH 0 0,MF ME 0,MF ME 0,MF ME 0,MF ME 0,MF ME 0,MF ME 0,MF ME 0,MF ME 0,MF ME 0,MF ME 0,MF ME 0,MF ME 0,MF ME 0,MF ME 0,MF ME 0,MF ME 0,MF ME 0,MG MH 0 0,MG MH 0 0,MG MH 0 0,MG MH 0 0,MG MH 0 0,MG MH 0 0,MF ME 0,MF ME 0,MG MH 0 0,MG MH 0 0]
theorem Vd:(Tryz.prog.info? 72).map (·.size)=MI 61:=by kernel_rfl
theorem Jz.Gm{base:Nat}{g:Nat}{V:Pv}{c:Cf}{P:Py}(h:Jz base w g V c P):w.cell? ⟨g,16,MH⟩=MI (MG V.ps P.steps.length V.cs):=by
 rw[MW w g 16 _ _ (0,0) h.box,h.steps];rfl
structure U9(W:MO)(ps:Option Addr)(k:Nat)(q:Sq)(b o:Nat):Prop where
 at_:ps=MI ⟨b,o,MH⟩
 cells:W.rangeAt b (o+k*61) (JU q)
 rd:Kh W q
theorem JD.step{W:MO}{g:Nat}{V:Pv}{c:Cf}{P:Py}(h:JD w W g V c P){k:Nat}(hk:k<P.steps.length):∃q b o,U9 W V.ps k q b o/\P.steps[k]?=MI q.s/\JM c q.s:=by
 have hl:=h.pat.steps;have hkq:k<V.qs.length:=by omega
 have hrv:bj JU W (MG V.ps V.qs.length V.cs) V.qs:=gZ h.pat.rows;obtain⟨a,cap,hv,_,_,hp⟩:=bj.F6 LV hrv;injection hv with q1 _ _;obtain⟨b,o,ha,hb,hc⟩:=hp k hkq;have e:P.steps[k]?=MI V.qs[k].s:=by rw[<-h.pat.eqs,List.getElem?_map,MR hkq];rfl
 refine⟨V.qs[k],b,o,⟨q1.trans ha,fun j v hv=>?_,(h.pat.all _ (Nk hkq)).now⟩,e,h.rn.runs.chain _ (List.mem_of_getElem? e)⟩;have hj:j<61:=(List.getElem?_eq_some_iff.1 hv).1;rw[hc j hj];exact hv
structure Va(W:MO)(b:Nat)(q:Sq):Prop where
 box:W.heap[b]?=MI (MP (JU q).toArray 72 (0,0))
 rd:Kh W q
theorem Kh.below{W Y:MO}{q:Sq}(h:Kh W q)(hb:MQ W.heap.size W Y):Kh Y q:=⟨h.1.below hb,h.2.1.below hb,h.2.2.below hb⟩
theorem Va.on{W Y:MO}{b:Nat}{q:Sq}(h:Va W b q)(hb:MQ W.heap.size W Y):Va Y b q:=⟨af h.box hb,h.rd.below hb⟩
theorem Vf(q:Sq):(JU q).toArray.all (·.oneCell')=true:=by
 apply all_oneCell_toArray;exact LU q
theorem U9.box{W:MO}{ps:Option Addr}{k:Nat}{q:Sq}{b o:Nat}(h:U9 W ps k q b o):∃Y,Y=(W.alloc (MP Vg.toArray 72)).setCells W.heap.size 0 (JU q)/\Va Y W.heap.size q/\MQ W.heap.size W Y/\(W.alloc (MP Vg.toArray 72)).there W.heap.size 0 (JU q).toArray.size:=by
 have hZ:(W.alloc (MP Vg.toArray 72)).heap[W.heap.size]?=MI (MP Vg.toArray 72 (0,0)):=M1 _ _;have hB:MQ W.heap.size W ((W.alloc (MP Vg.toArray 72)).setCells W.heap.size 0 (JU q)):=tW (ai W) (Nat.le_refl _) _ _ (by simp);exact⟨_,rfl,⟨KM hZ rfl,h.rd.below hB⟩,hB,(show(W.alloc (MP Vg.toArray 72)).there W.heap.size 0 (JU q).toArray.size from sF (old:=Vg) hZ)⟩
theorem Va.F7{W:MO}{b:Nat}{q:Sq}(h:Va W b q)(j:Nat):W.cell? ⟨b,j,MH⟩=(JU q)[j]?:=by
 rw[MW W b j _ _ (0,0) h.box];simp
theorem Ve(f:Nat->Int)(hf:∀i,i<16->(Lit.int ME (f i)).wf=Nw)(ds:List Dd)(hds:∀d∈ds,Kg d){pd:Option Addr}{cd:Nat}(hrow:bj Ka w (MG pd ds.length cd) ds)(hblk:aK w)(most:Nat)(hm:most<=100):
  ∃L:List M7,L.length=16/\BD (f 0) (f 1) (f 2) (f 3) (f 4) (f 5) (f 6) (f 7) (f 8) (f 9) (f 10) (f 11) (f 12) (f 13) (f 14) (f 15)=Ny L.toArray/\∀W,MQ w.heap.size w W->Ni MK 18 #[Ny L.toArray,MG pd ds.length cd,MF ME (most:Int)] W (Lq f most W):=
 ⟨[MF ME (f 0),MF ME (f 1),MF ME (f 2),MF ME (f 3),MF ME (f 4),MF ME (f 5),MF ME (f 6),MF ME (f 7),MF ME (f 8),MF ME (f 9),MF ME (f 10),MF ME (f 11),MF ME (f 12),MF ME (f 13),MF ME (f 14),MF ME (f 15)],rfl,rfl,fun W hB=>L6 f hf ds hds W (hrow.below hB) (hblk.below hB) most hm⟩
theorem Vj(h:Bs G){x:FV}(hx:x∈G.liv):U3 G x.1=if x.2.1=2 then(if(G.hea.getD x.1.toNat bm).out then 0 else FZ x.2.2.1 (G.now-x.2.2.2.1) G.cfg.warm)else 0:=by
 unfold U3;show(if(aq G.liv x.1).2.1=2 then _ else _)=_;rw[iZ h.Gv hx];rfl
theorem Vk{b:Int}(h:∀t∈G.liv,t.1=b->U3 G b=0):U3 G b=0:=by
 rcases qM G.liv b with⟨h1,h2⟩|⟨_,h2⟩
 ·exact h _ h1 h2
 ·unfold U3
  show(if(aq G.liv b).2.1=2 then _ else _)=_;rw[h2];rfl
theorem Vc{W:MO}{U:Us}(h:aF W U G){b:Nat}(hb:b<12):∃bo oo,U.ph=MI ⟨bo,oo,MH⟩/\bo<W.heap.size/\12<=U.ch/\U.ch<=9223372036854775807/\W.cell? ⟨bo,oo+b*4+1,MH⟩=MI (M3 (G.hea.getD b bm).out)/\W.cell? ⟨bo,oo+b*4+2,MH⟩=MI (MF ME (G.hea.getD b bm).till):=by
 have hl:(U.ms.zip G.hea).length=12:=by rw[List.length_zip,h.msl,h.hel];rfl
 obtain⟨a,cap,hv,hc1,hc2,hp⟩:=bj.F6 ii h.hea;injection hv with q1 _ q3;have hbz:b<(U.ms.zip G.hea).length:=by rw[hl];exact hb
 obtain⟨bo,oo,ha,hlt,hc⟩:=hp b hbz;have e:(U.ms.zip G.hea)[b].2=G.hea.getD b bm:=by
  rw[List.getElem_zip,List.getD_eq_getElem?_getD,MR (by rw[h.hel];exact hb)];rfl
 refine⟨bo,oo,q1.trans ha,hlt,by rw[q3,<-hl];exact hc1,by rw[q3];unfold maxLen at hc2;exact hc2,?_,?_⟩
 ·rw[<-e];exact hc 1 (by omega)
 ·rw[<-e];exact hc 2 (by omega)
theorem Vi{W:MO}{M:List M7}{U:Us}(hM:M=(ef U G).toList)(h:aF W U G)(hbs:Bs G){b:Nat}(hb:b<12):Ni MK 22 #[Ny M.toArray,MF ME (b:Int)] W fun r w'=>r=MN (MF ME (U3 G b))/\MQ W.heap.size W w':=by
 obtain⟨Y,hY⟩:∃Y,Y=W.alloc (MP M.toArray 49):=⟨_,rfl⟩;have hYb:MQ W.heap.size W Y:=by rw[hY];exact ai W
 have hYx:Y.heap[W.heap.size]?=MI (MP M.toArray 49 (0,0)):=by rw[hY];exact M1 _ _
 have hmb:G.liv.length<=12:=hbs.book.1.1;obtain⟨m,hm⟩:∃m,m=G.liv.length:=⟨_,rfl⟩;obtain⟨s,hs⟩:∃s,s=U3 G b:=⟨_,rfl⟩;rw[<-hs];rw[<-hm]at hmb;obtain⟨B8,hB8⟩:∃B8,B8=W.heap.size:=⟨_,rfl⟩;have HP:M6 (_/\_/\_/\_/\_/\_/\_):=⟨h.below hYb,hbs,hm,hYb,hs,hM,(show Y.heap[B8]?=MI (MP M.toArray 49 (0,0))by rw[hB8];exact hYx)⟩;clear hYx hm h hM hYb hs hbs;go_enter Tryz.func22,Tryz.ntmps22;go_wp2;rw[<-hY,<-hB8];clear hY hB8
 go_loopw [5,6,7,8] (fun i _ _ _ wr=>∃k:Nat,i=MF ME (k:Int)/\k<=m/\M6 (∀t∈G.liv.take k,t.1=(b:Int)->U3 G b=0)/\M6 (MQ Y.heap.size Y wr)) (fun i _ _ _ _=>m-(intOf i).toNat)
 case atStart=>exact⟨0,rfl,Nx _,(fun t ht=>absurd ht (by simp)),MY _ _⟩
 case round =>
  obtain⟨k,rfl,hk,HA,HW⟩:=hrel;have hx8:=af HP.out.2.2.2.2.2.2 HW.out;have c19:wr.cell? ⟨B8,19,MH⟩=MI (MG U.pl m U.cl):=by rw[MW wr _ 19 _ _ (0,0) hx8,HP.out.2.2.2.2.2.1,HP.out.2.2.1];rfl
  have l8:B8<wr.heap.size:=(Array.getElem?_eq_some_iff.1 hx8).1
  by_cases hlt:k<m
  ·have hkI:(k:Int)<(m:Int):=by omega
   have hkl:k<G.liv.length:=by rw[<-HP.out.2.2.1];exact hlt
   have hwat:=HP.out.1.below HW.out;obtain⟨a,cap,hv,hca,hmx,hp⟩:=jH.F6 hwat.book.1;injection hv with q1 q2 q3;obtain⟨bo,oo,ha,hbo,e0,e1,e2,e3,e4,e5⟩:=hp k hkl;have hcap:U.cl<=9223372036854775807:=by rw[q3];unfold maxLen at hmx;exact hmx
   have hcap2:m<=U.cl:=by rw[q3,HP.out.2.2.1];exact hca
   have htk:G.liv.take (k+1)=G.liv.take k++[G.liv[k]]:=List.take_succ_eq_append_getElem hkl;have hwt:=Vj HP.out.2.1 (Nk hkl);have hlf:=(HP.out.2.1.lf (Nk hkl)).1;have hsn:=HP.out.2.1.since _ (Nk hkl);obtain⟨x,hx⟩:∃x,x=G.liv[k]:=⟨_,rfl⟩;rw[<-hx]at e0 e1 e2 e3 e4 e5 htk hwt hlf hsn;rw[q1,ha]at c19;obtain⟨x1,x2,x3,x4,x5,x6⟩:=x;obtain⟨bh,oh,hph,hbh,hc1,hc2,g1,_⟩:=Vc hwat hb;have d22:wr.cell? ⟨B8,22,MH⟩=MI (MG U.ph 12 U.ch):=by rw[MW wr _ 22 _ _ (0,0) hx8,HP.out.2.2.2.2.2.1];rfl
   have d16:wr.cell? ⟨B8,16,MH⟩=MI (MF ME G.now):=by rw[MW wr _ 16 _ _ (0,0) hx8,HP.out.2.2.2.2.2.1];rfl
   have d4:wr.cell? ⟨B8,4,MH⟩=MI (MF ME G.cfg.warm):=by rw[MW wr _ 4 _ _ (0,0) hx8,HP.out.2.2.2.2.2.1];rfl
   rw[hph]at d22;have hnow:=HP.out.2.1.now;have hwm:=HP.out.2.1.cfg.2.2.2.2.1;have HC:M6 (∀W':MO,Ni MK 36 #[MF ME x3,MF ME x4,MF ME G.now,MF ME G.cfg.warm] W' fun r w'=>r=MN (Value.tuple #[MF ME (FZ x3 (G.now-x4) G.cfg.warm),MF ME 0])/\w'=W'):=fun W' =>
    zg x3 x4 G.now G.cfg.warm W' hlf.2.1.1 hlf.2.1.2 ⟨hlf.2.2.1.1,hlf.2.2.1.2,hwm.1,hwm.2⟩ hsn (by omega)
   have hwt':U3 G x1=if x2=2 then(if(G.hea.getD x1.toNat bm).out=Nw then 0 else FZ x3 (G.now-x4) G.cfg.warm)else 0:=hwt
   obtain⟨ot,hot⟩:∃ot,ot=(G.hea.getD b bm).out:=⟨_,rfl⟩;rw[<-hot]at g1;have hb0:(b:Int)<12:=by omega
   have hb1:¬(12:Int)<=(b:Int):=by omega
   have hb2:(0:Int)<=(b:Int):=by omega
   have HX:M6 (_/\_/\_):=⟨htk,hwt',hot⟩;clear hwt hwt' hlf hsn hx hkl hwat hca hmx hp q1 q2 q3 ha hnow hwm hx8 hph hot htk;have hcs:((x1 != (b:Int))=Nw/\M6 (x1≠b))\/(x1=b/\(x2 != 2)=Nw/\M6 (s=0))\/(x1=b/\x2=2/\ot=Nw/\M6 (s=0))\/(x1=b/\x2=2/\ot=Nb/\M6 (s=FZ x3 (G.now-x4) G.cfg.warm)):=by
    by_cases h1:x1=b
    ·have hw:=HX.out.2.1
     rw[h1,<-HP.out.2.2.2.2.1,Int.toNat_natCast,<-HX.out.2.2]at hw
     by_cases h2:x2=2
     ·rw[Nh h2]at hw
      cases h3:ot
      ·rw[h3]at hw;exact NF (NF (NF ⟨h1,h2,rfl,hw⟩))
      ·rw[h3]at hw;exact NF (NF (Nt ⟨h1,h2,rfl,hw⟩))
     ·rw[Nf h2]at hw
      exact NF (Nt ⟨h1,by simp[h2],hw⟩)
    ·exact Nt ⟨by simp[h1],h1⟩
   rcases hcs with⟨h1,HE⟩|⟨rfl,h2,HE⟩|⟨rfl,rfl,rfl,HE⟩|⟨rfl,rfl,rfl,HE⟩
   case inr.inr.inr =>
    go_wp2_with fail
    refine Calls.mono (HC.out _) ?_;rintro r w5 ⟨rfl,rfl⟩;go_wp2;go_ret;exact⟨by rw[HE.out];rfl,HP.out.2.2.2.1.trans ((HW.out.trans ((ai wr).mono HW.out.size)).mono HP.out.2.2.2.1.size)⟩
   all_goals
    go_wp2
    go_roundw
    case rel =>
     refine⟨k+1,by simp,hlt,?_,HW.out.trans ((ai wr).mono HW.out.size)⟩;intro t ht h1;rw[HX.out.1]at ht;rcases List.mem_append.1 ht with ht|ht
     ·exact HA.out t ht h1
     ·first|exact HP.out.2.2.2.2.1.symm.trans HE.out|(rw[List.mem_singleton.1 ht]at h1;exact absurd h1 HE.out)
    case measure=>simp[intOf];omega
  ·obtain rfl:k=m:=by omega
   have hkI:¬(k:Int)<(k:Int):=by omega
   have HE:M6 (s=0):=HP.out.2.2.2.2.1.trans (Vk fun t ht=>HA.out t (by rw[HP.out.2.2.1,List.take_length];exact ht));clear hx8;go_wp2;go_ret;exact⟨by rw[HE.out];rfl,HP.out.2.2.2.1.trans (HW.out.mono HP.out.2.2.2.1.size)⟩
structure Vb(W:MO)(b:Nat)(q:Sq)(M L:List M7):Prop where
 sb:Va W b q
 e1:M=(ef q.u q.s.bef).toList
 e2:L=(ef q.v q.s.aft).toList
section
variable {W Y:MO}{b:Nat}{q:Sq}{M L:List M7}
theorem Vb.on(h:Vb W b q M L)(hb:MQ W.heap.size W Y):Vb Y b q M L:=⟨h.sb.on hb,h.e1,h.e2⟩
theorem Vb.lt(h:Vb W b q M L):b<W.heap.size:=(Array.getElem?_eq_some_iff.1 h.sb.box).1
theorem Vb.r1(h:Vb W b q M L):W.rangeAt b 8 M:=fun j v hv=>by
 rw[h.e1]at hv;have hj:j<26:=(List.getElem?_eq_some_iff.1 hv).1;rw[h.sb.F7 (8+j)];unfold JU;rw[Tw (show 8<=8+j by omega),show 8+j-(JN q.s.ev).length=j from Vn 8 j,OJ (show j<26 from hj)];exact hv
theorem Vb.r2(h:Vb W b q M L):W.rangeAt b 34 L:=fun j v hv=>by
 rw[h.e2]at hv;have hj:j<26:=(List.getElem?_eq_some_iff.1 hv).1;rw[h.sb.F7 (34+j)];unfold JU;rw[<-List.append_assoc,Tw (show 34<=34+j by omega),show 34+j-(JN q.s.ev++(ef q.u q.s.bef).toList).length=j from Vn 34 j,OJ (show j<26 from hj)];exact hv
theorem Vb.i1(h:Vb W b q M L):(Tryz.prog.info? 49).map (·.size)=MI M.length:=by rw[h.e1];exact iN
theorem Vb.i2(h:Vb W b q M L):(Tryz.prog.info? 49).map (·.size)=MI L.length:=by rw[h.e2];exact iN
theorem Vb.Vl(h:Vb W b q M L)(hb:Bs q.s.bef){x:Nat}(hx:x<12):Ni MK 22 #[Ny M.toArray,MF ME (x:Int)] W fun r w'=>r=MN (MF ME (U3 q.s.bef x))/\MQ W.heap.size W w':=Vi h.e1 h.sb.rd.1 hb hx
theorem Vb.Vm(h:Vb W b q M L)(hb:Bs q.s.aft){x:Nat}(hx:x<12):Ni MK 22 #[Ny L.toArray,MF ME (x:Int)] W fun r w'=>r=MN (MF ME (U3 q.s.aft x))/\MQ W.heap.size W w':=Vi h.e2 h.sb.rd.2.1 hb hx
end
theorem Vh(f:Nat->Int)(hf:∀i,i<16->(Lit.int ME (f i)).wf=Nw)(ds:List Dd)(hds:∀d∈ds,Kg d){pd:Option Addr}{cd:Nat}(hrow:bj Ka w (MG pd ds.length cd) ds)(hB:aK w):
  Ni MK 10 #[BD (f 0) (f 1) (f 2) (f 3) (f 4) (f 5) (f 6) (f 7) (f 8) (f 9) (f 10) (f 11) (f 12) (f 13) (f 14) (f 15),MG pd ds.length cd] w fun r w'=>r=MN (M3 Nw)/\MQ w.heap.size w w':=by
 obtain⟨L,hL,eL,hpl⟩:=Ve f hf ds hds hrow hB 60 (by omega);rw[eL];obtain⟨W0,hW0⟩:∃W0,W0=w.alloc (MP L.toArray 24):=⟨_,rfl⟩;have hb0:MQ w.heap.size w W0:=by rw[hW0];exact ai w
 have HI:M6 (_/\_/\_):=⟨hL,hb0,hpl W0 hb0⟩;obtain⟨nd,hnd⟩:∃nd,nd=ds.length:=⟨_,rfl⟩;rw[<-hnd]at HI⊢;clear hL eL hpl hb0 hf hds hrow hB hnd;go_enter Tryz.func10,Tryz.ntmps10
 go_wp2_with ((with_reducible refine O3 rfl 24 (O6 2) rfl w.heap.size 0 ?gx L _ ?gc Tryz.underlying24 ?gd ?gi ?_);(case gx=>rfl);(case gc=>exact J8 (M1 _ _));(case gd=>rfl);(case gi=>rw[HI.out.1];exact K0))
 rw[<-hW0];clear hW0;refine Calls.mono HI.out.2.2 ?_;rintro r w1 ⟨g,V,c,P,rfl,hS,hcx,hn4,hnm,hk3⟩;obtain⟨n,hn⟩:∃n,n=P.steps.length:=⟨_,rfl⟩;have HS:M6 (_/\_/\_/\_/\_):=⟨hS,hcx,hn,(show n<=60+4 by omega),hk3⟩;have hB1:=HI.out.2.1.trans (hS.bel.mono HI.out.2.1.size);have HB:M6 _:=hB1;clear hS hcx hn4 hnm hk3 hn HI hB1
 go_wp2_with fail
 go_loopw [7,8,9,10,11,12] (fun i _ _ _ _ _ wr=>∃k:Nat,i=MF ME (k:Int)/\k<=n/\M6 (MQ w1.heap.size w1 wr)) (fun i _ _ _ _ _ _=>n-(intOf i).toNat)
 case atStart=>exact⟨0,rfl,Nx _,MY _ _⟩
 case round =>
  obtain⟨k,rfl,hk,HW⟩:=hrel;have hSr:=HS.out.1.on HW.out;have c16:wr.cell? ⟨g,16,MH⟩=MI (MG V.ps n V.cs):=by rw[HS.out.2.2.1];exact hSr.pat.Gm
  have hgl:=hSr.pat.lt
  by_cases hlt:k<n
  ·have hkI:(k:Int)<(n:Int):=by omega
   have hnb:n<=9223372036854775807:=by have:=HS.out.2.2.2.1;omega
   obtain⟨q,b,o,hq,hst,hok⟩:=hSr.step (k:=k) (by rw[<-HS.out.2.2.1];exact hlt);obtain⟨Y,hY,hSB,hYb,hth⟩:=hq.box;obtain⟨R,hR⟩:∃R,R=JU q:=⟨_,rfl⟩;have hat:=hq.at_;have hcs:=hq.cells;rw[<-hR]at hY hth hcs;have HQ:M6 (_/\_/\_/\_/\_/\_):=⟨hcs,hth,hY,hR,HW.out.trans (hYb.mono HW.out.size),(show R.length=61 by rw[hR];rfl)⟩;have HT:M6 (_/\_/\_/\_):=⟨hst,hok,hSB,hYb⟩;clear hq hst hok hY hSB hYb hth hR hcs;rw[hat]at c16;clear hat
   clear hSr;obtain⟨M,M2,hTw⟩:∃M M2,Vb Y wr.heap.size q M M2:=⟨_,_,HT.out.2.2.1,rfl,rfl⟩;obtain⟨m,hm⟩:∃m,m=q.s.aft.liv.length:=⟨_,rfl⟩;have hmb:m<=12:=by rw[hm];exact HT.out.2.1.next.im.bs.book.1.1
   have HM:M6 (_/\_):=⟨hm,hTw⟩;clear hm hTw
   go_wp2_with (first|((with_reducible refine O3 rfl 72 (O6 33) rfl b (o+k*61) ?gx R _ ?gc Tryz.underlying72 ?gd ?gi ?_);(case gx=>rfl);(case gc=>exact HQ.out.1);(case gd=>rfl);(case gi=>rw[HQ.out.2.2.2.2.2];exact Vd))|((with_reducible refine wpList_store_mid rfl 72 (O6 8) (O6 34) rfl wr.heap.size 0 R.toArray ?sx ?sy ?st ?si ?s1 ?_);(case sx=>rfl);(case sy=>rfl);(case st=>exact HQ.out.2.1);(case si=>rw[List.size_toArray,HQ.out.2.2.2.2.2];exact Vd);(case s1=>rw[HQ.out.2.2.2.1];exact Vf q);rw[List.toList_toArray,<-HQ.out.2.2.1]))
   obtain⟨B8,hB8⟩:∃B8,B8=wr.heap.size:=⟨_,rfl⟩;rw[<-hB8];rw[<-hB8]at HM;clear hB8 c16 hgl
   go_loopw [9,10,11,12] (fun i _ _ _ wr=>∃j:Nat,i=MF ME (j:Int)/\j<=m/\M6 (MQ Y.heap.size Y wr)) (fun i _ _ _ _=>m-(intOf i).toNat)
   case atStart=>exact⟨0,rfl,Nx _,MY _ _⟩
   case round =>
    obtain⟨j,rfl,hj,HX⟩:=hrel;have hG:=HM.out.2.on HX.out;have l8:=hG.lt;have v53:wr.cell? ⟨B8,53,MH⟩=MI (MG q.v.pl m q.v.cl):=by rw[hG.sb.F7 53,HM.out.1];rfl
    by_cases hlj:j<m
    ·have hjI:(j:Int)<(m:Int):=by omega
     have hjl:j<q.s.aft.liv.length:=by rw[<-HM.out.1];exact hlj
     obtain⟨a,cap,hv,hca,hmx,hp⟩:=jH.F6 hG.sb.rd.2.1.book.1;injection hv with q1 _ q3;obtain⟨bo,oo,ha,hbo,e0,e1,e2,e3,e4,e5⟩:=hp j hjl;have hN:=fun h=>HT.out.2.1.warm (Nk hjl) h
     have hlf:=(HT.out.2.1.next.im.bs.lf (Nk hjl)).1.1;generalize q.s.aft.liv[j]=x at e0 e1 e2 e3 e4 e5 hN hlf;obtain⟨x1,x2,x3,x4,x5,x6⟩:=x;rw[q1,ha]at v53;have hlf:0<=x1/\x1<=11:=hlf;obtain⟨bn,rfl⟩:=Int.eq_ofNat_of_zero_le hlf.1;have hb12:bn<12:=by omega
     have e0:wr.cell? ⟨bo,oo+j*6,MH⟩=MI (MF ME (bn:Int)):=e0;have e1:wr.cell? ⟨bo,oo+j*6+1,MH⟩=MI (MF ME x2):=e1;have e2:wr.cell? ⟨bo,oo+j*6+2,MH⟩=MI (MF ME x3):=e2;have e3:wr.cell? ⟨bo,oo+j*6+3,MH⟩=MI (MF ME x4):=e3;have e4:wr.cell? ⟨bo,oo+j*6+4,MH⟩=MI (MF ME x5):=e4;have e5:wr.cell? ⟨bo,oo+j*6+5,MH⟩=MI (MF ME x6):=e5;have hN:x2=2->U3 q.s.aft (bn:Int)<=x3/\(U3 q.s.bef (bn:Int)<=U3 q.s.aft (bn:Int)\/(q.s.aft.hea.getD bn bm).out=Nw):=hN;obtain⟨Z,hZ⟩:∃Z,Z=wr.alloc (MP #[MF ME (bn:Int),MF ME x2,MF ME x3,MF ME x4,MF ME x5,MF ME x6] 80):=⟨_,rfl⟩;have hZb:MQ wr.heap.size wr Z:=by rw[hZ];exact ai wr
     have hx9:Z.heap[wr.heap.size]?=MI (MP #[MF ME (bn:Int),MF ME x2,MF ME x3,MF ME x4,MF ME x5,MF ME x6] 80 (0,0)):=by rw[hZ];exact M1 _ _
     have HZ:M6 (_/\_/\_/\_):=⟨hZ,hG.on hZb,HX.out.trans (hZb.mono HX.out.size),hx9⟩;have HN:M6 _:=hN;clear hZ hZb hx9 hG q1 q3 ha hjl hN hca hmx hp hlf
     by_cases h2:x2=2
     rotate_left
     have h2':(x2 != 2)=true:=by simp[h2]
     rotate_left
     subst h2
     case' neg=>go_wp2
     case' pos =>
      go_wp2_with (first|((with_reducible refine O3 rfl 49 (O6 54) rfl B8 8 ?gx M _ ?gc OX ?gd ?gi ?_);(case gx=>rfl);(case gc=>rw[<-HZ.out.1];exact HZ.out.2.1.r1);(case gd=>rfl);(case gi=>exact HZ.out.2.1.i1)))
      rw[<-HZ.out.1];refine Calls.mono (HZ.out.2.1.Vl HT.out.2.1.wm.im.bs hb12) ?_;rintro r w5 ⟨rfl,hb5⟩;have hT5:=HZ.out.2.1.on hb5;have hx5:=af HZ.out.2.2.2 hb5;have a0:w5.cell? ⟨wr.heap.size,0,MH⟩=MI (MF ME (bn:Int)):=by rw[MW w5 _ 0 _ _ (0,0) hx5];rfl
      have l9:wr.heap.size<w5.heap.size:=(Array.getElem?_eq_some_iff.1 hx5).1;have l8':=hT5.lt;have H5:M6 (_/\_/\_):=⟨hT5,HZ.out.2.2.1.trans (hb5.mono HZ.out.2.2.1.size),hx5⟩;clear hb5 hT5 hx5 e0 e1 e2 e3 e4 e5 v53 hbo l8
      go_wp2_with (first|((with_reducible refine O3 rfl 49 (O6 59) rfl B8 34 ?gx M2 _ ?gc OX ?gd ?gi ?_);(case gx=>rfl);(case gc=>exact H5.out.1.r2);(case gd=>rfl);(case gi=>exact H5.out.1.i2)))
      refine Calls.mono (H5.out.1.Vm HT.out.2.1.next.im.bs hb12) ?_;rintro r w6 ⟨rfl,hb6⟩;have hT6:=H5.out.1.on hb6;have hx6:=af H5.out.2.2 hb6;have z0:w6.cell? ⟨wr.heap.size,0,MH⟩=MI (MF ME (bn:Int)):=by rw[MW w6 _ 0 _ _ (0,0) hx6];rfl
      have z2:w6.cell? ⟨wr.heap.size,2,MH⟩=MI (MF ME x3):=by rw[MW w6 _ 2 _ _ (0,0) hx6];rfl
      have k9:wr.heap.size<w6.heap.size:=(Array.getElem?_eq_some_iff.1 hx6).1;have k8:=hT6.lt;obtain⟨bh,oh,hph,hbh,hc1,hc2,g1,_⟩:=Vc hT6.sb.rd.2.1 hb12;have b56:w6.cell? ⟨B8,56,MH⟩=MI (MG q.v.ph 12 q.v.ch):=(hT6.sb.F7 56).trans rfl;rw[hph]at b56;have hb0:(bn:Int)<12:=by omega
      obtain⟨hn1,hn2⟩:=HN.out (by trivial);generalize (q.s.aft.hea.getD bn bm).out=ot at g1 hn2;have H6:M6 _:=H5.out.2.1.trans (hb6.mono H5.out.2.1.size);clear hb6 hT6 hx6 a0 l9 l8' hph;generalize U3 q.s.bef (bn:Int)=s1 at hn2⊢;generalize U3 q.s.aft (bn:Int)=s2 at hn1 hn2⊢;have hn1':¬x3<s2:=by omega
      have hcs:¬s2<s1\/(s2<s1/\ot=Nw):=by
       by_cases h:s2<s1
       ·exact NF ⟨h,by rcases hn2 with h'|h';omega;exact h'⟩
       ·exact Nt h
      clear hn1 hn2;rcases hcs with h|⟨h,rfl⟩
      all_goals go_wp2
     all_goals
      go_roundw
      case rel=>exact⟨j+1,by simp,hlj,by first|exact H6|(rw[<-HZ.out.1];exact HZ.out.2.2.1)⟩
      case measure=>simp[intOf];omega
    ·obtain rfl:j=m:=by omega
     have hjI:¬(j:Int)<(j:Int):=by omega
     clear hG;go_wp2
     go_roundw
     case rel=>exact⟨k+1,by simp,hlt,HQ.out.2.2.2.2.1.trans (HX.out.mono HQ.out.2.2.2.2.1.size)⟩
     case measure=>simp[intOf];omega
  ·obtain rfl:k=n:=by omega
   have hkI:¬(k:Int)<(k:Int):=by omega
   go_wp2;go_ret;exact⟨rfl,HB.out.trans (HW.out.mono HB.out.size)⟩
end Go.Proofs.YtinbndbjlgoghaaGreatDoor.Q
