/-
  TopDue: its walk. Conditions: as each theorem says.
-/
import Derived.Test.YtalhkllgnlejbaaGreatDoorQ20
open Bool renaming false->Nb,true->Nw
open Go renaming World->MO,cell_of_row->MW,heap_alloc_new->M1,wpList_load_mid->O3,wpList_store_mid->OW
open Go.IntKind renaming i64->ME,wrap_i64->Ow
open Go.Obj renaming cells->MP
open Go.Operand renaming tmp->O6
open Go.RowKit renaming Below->MQ,Hid->M6
open Go.RowKit.Below renaming refl->MY
open Go.Value renaming agg->Ny,bool->M3,int->MF,slice->MG
open List renaming getElem?_append_left->OJ,getElem?_eq_getElem->MR,getElem_mem->Nk,mem_of_getElem?->Nu,size_toArray->OQ,toList_toArray->NS
open Option renaming none->MH,some->MI
namespace Go.Proofs.YtalhkllgnlejbaaGreatDoor.Q
set_option linter.unusedVariables false
set_option linter.unusedSimpArgs false
set_option maxHeartbeats 16000000
set_option maxRecDepth 100000
open Go.RowKit
attribute [local go_sem ↓] Go.wp_at_zero Go.wp_at_succ
variable {c:Cf}{w:MO}{g:Nat}{V:Pv}{P:Py}
section
variable {A:Gt}{c:Cf}{P:Py}
theorem Rn.TG(h:Rn A c P):(∀s,P.steps[0]?=MI s->s.bef=A)/\(P.steps=[]->P.last=A):=by
 refine h.Mw (J:=fun P=>(∀s,P.steps[0]?=MI s->s.bef=A)/\(P.steps=[]->P.last=A)) ⟨(fun s hs=>absurd hs (by simp)),fun _=>rfl⟩ fun Q e hQ he hl hJ=>?_
 refine⟨fun s hs=>?_,fun hn=>?_⟩
 ·have hs:(Q.steps++[(⟨e,Q.last,(iG Q.last e).Ma,(iG Q.last e).out⟩:Sp)])[0]?=MI s:=hs
  by_cases h0:Q.steps=[]
  ·rw[h0]at hs
   cases hs;exact hJ.2 h0
  ·rw[OJ (List.length_pos_iff.2 h0)]at hs
   exact hJ.1 s hs
 ·have hn:Q.steps++[(⟨e,Q.last,(iG Q.last e).Ma,(iG Q.last e).out⟩:Sp)]=[]:=hn
  simp at hn
theorem Rn.TI{J:Nat->Gt->Prop}(h:Rn A c P)(h0:J 0 A)(hs:∀n s,JM c s->J n s.bef->J (n+1) s.aft) :
  (∀i s,P.steps[i]?=MI s->J i s.bef/\J (i+1) s.aft)/\J P.steps.length P.last:=by
 have h1:∀i s,P.steps[i]?=MI s->J i s.bef:=by
  intro i
  induction i with
  |zero=>intro s q;rw[h.TG.1 s q];exact h0
  |succ i ih =>
   intro s q;have hi:=(List.getElem?_eq_some_iff.1 q).1;have q1:P.steps[i]?=MI P.steps[i]:=MR (by omega);rw[h.runs.next i _ s q1 q];exact hs i _ (h.runs.chain _ (Nk _)) (ih _ q1)
 have h2:∀i s,P.steps[i]?=MI s->J i s.bef/\J (i+1) s.aft:=fun i s q=>⟨h1 i s q,hs i s (h.runs.chain s (Nu q)) (h1 i s q)⟩
 refine⟨h2,?_⟩
 by_cases hn:P.steps=[]
 ·rw[h.TG.2 hn,hn];exact h0
 ·have hp:=List.length_pos_iff.2 hn
  have q:P.steps[P.steps.length-1]?=MI P.steps[P.steps.length-1]:=MR (by omega);rw[h.runs.tail _ q];have:=(h2 _ _ q).2;rwa[show P.steps.length-1+1=P.steps.length by omega]at this
theorem JM.next{s:Sp}(h:JM c s):Wm s.aft:=by rw[h.aft];exact(h.wm.Mm (D5 h.ev) h.late).Ma
end
def TF(G:Gt):Prop:=∀f∈G.fls,f.due<=G.now+if f.srv then G.cfg.idle else G.cfg.conn
section
variable {G:Gt}{c:Cf}
theorem TF.drain(h:TF G)(b:Int):TF (cj G b):=by
 obtain⟨e1,_,e3,_,e5,_⟩:=ET (G:=G) b;intro f hf;rw[e5]at hf;rw[e1,e3];exact h f hf
theorem TF.ends(h:TF G)(f:Fl)(k y:Int):TF (dn G f k y):=by
 unfold dn;refine TF.drain (fun x hx=>?_) _;exact h x (List.mem_filter.1 (show x∈bO G.fls f.slot f.gen from hx)).1
theorem TF.F4(h:TF G){i:Nat}{x:Fl}{T:Tm->Prop}(hx:x.due<=G.now+if x.srv then G.cfg.idle else G.cfg.conn):TF {G with fls:=G.fls.set i x,tms:=T}:=fun f hf=>by
 rcases iC (show f∈G.fls.set i x from hf)with rfl|hf
 ·exact hx
 ·exact h f hf
theorem TF.Mg(h:TF G)(hb:Bs G){i:Nat}(hi:i<G.fls.length)(hv:G.fls[i].srv=Nb)(y:Int):TF (dP G i y):=by
 rcases pI hb hi y with⟨z,q,hz⟩|⟨b,q,hd,hr,h2,hc,_⟩
 ·rw[q];exact TF.ends (G:=dg G G.fls[i].be Nw) h _ _ _
 ·obtain⟨T,e⟩:=KA (G:={dg G G.fls[i].be Nw with tok:=G.tok-G.cfg.bd}) hi b
  rw[q,e];refine TF.drain (fun f hf=>?_) _;rcases iC (show f∈G.fls.set i {G.fls[i]with be:=b,ret:=G.fls[i].ret+1,due:=G.now+G.cfg.conn}from hf)with rfl|hf
  ·show G.now+G.cfg.conn<=G.now+if G.fls[i].srv then G.cfg.idle else G.cfg.conn
   rw[hv];exact Int.le_refl _
  ·exact h f hf
theorem Tw(hm:Wm G){e:Ev}(he:fB e)(h7:e.kind=7->G.now+1<=1099511626776)(h:TF G):TF (iG G e):=by
 have hb:=hm.im.bs;unfold iG
 split
 ·rcases J7 hb he.key with⟨q,_⟩|⟨q,_⟩|⟨k,hlt,_,_,hc,_,_,hg,_,q⟩
  ·rw[q];exact h
  ·rw[q];exact h
  ·rw[q]
   intro f hf;rcases rc.1 (show f∈aT G.fls _ _ from hf)with rfl|hf
   ·exact Int.le_refl _
   ·exact h f hf
 ·split
  ·exact h
  ·split
   ·unfold nC
    split
    ·exact h
    ·split
     ·exact h
     ·exact TF.drain (G:={fO G 2 e with wts:=G.wts.set e.be.toNat 0}) h _
   ·split
    ·rename_i k7
     refine KG (R:=TF) hm (h7 k7) ?_ (fun X f y hX hf hy hR=>hR.ends _ _ _) (fun X i hX hi hv hR=>hR.Mg hX.bs hi hv _);obtain⟨e1,_,e3,e4,_⟩:=yj (hb.next (h7 k7));intro f hf;have hf:f∈(eE {G with now:=G.now+1}).fls:=hf;rw[e3]at hf;show f.due<=(eE {G with now:=G.now+1}).now+if f.srv then(eE {G with now:=G.now+1}).cfg.idle else(eE {G with now:=G.now+1}).cfg.conn
     rw[e1,e4];have:=h f hf;show f.due<=G.now+1+if f.srv then G.cfg.idle else G.cfg.conn
     omega
    ·rcases Kt hb e with⟨hc,q⟩|⟨i,hi,_,_,_,⟨_,q⟩|⟨_,q⟩|⟨_,_,⟨_,q⟩|⟨_,_,q⟩|⟨hv,_,q⟩⟩⟩
     ·rw[q];exact h
     ·rw[q];exact h.ends _ _ _
     ·obtain⟨T,e1⟩:=Ku hi
      rw[q,e1];refine TF.F4 (T:=T) h ?_;have:=h _ (Nk hi);cases hv:G.fls[i].srv
      ·rw[hv]at this;simpa [hv]using this
      ·simp[hv]
     ·rw[q];exact h
     ·obtain⟨T,e1⟩:=KC hi
      rw[q,e1];exact TF.F4 (T:=T) (G:=dg G G.fls[i].be Nb) h (Int.le_refl _)
     ·rw[q];exact h.Mg hb hi hv _
theorem Rn.due{A:Gt}(h:Rn A c P)(h0:A.fls=[]):∀s∈P.steps,∀f∈s.aft.fls,s.aft.now<f.due/\f.due<=s.aft.now+(if f.srv then c.idle else c.conn)/\f.ret<=c.ret:=by
 intro s hs f hf;obtain⟨i,hi,rfl⟩:=List.getElem_of_mem hs;have h1:=((h.TI (J:=fun _ G=>TF G) (fun f hf=>by rw[h0]at hf;cases hf) fun n s hs hJ=>by rw[hs.aft];exact Tw hs.wm (D5 hs.ev) hs.late hJ).1 i _ (MR hi)).2 f hf;have hk:=h.runs.chain _ hs;have hc:P.steps[i].aft.cfg=c:=by rw[hk.aft,<-hk.cfg];exact(KF _ _).1
 have h2:=hk.next.im.bs.rets f hf;rw[hc]at h1 h2;exact⟨hk.next.due f hf,h1,h2.2⟩
end
theorem Jz.Gm{base:Nat}(h:Jz base w g V c P):w.cell? ⟨g,16,MH⟩=MI (MG V.ps P.steps.length V.cs):=by
 rw[MW w g 16 _ _ (0,0) h.box,h.steps];rfl
structure Tx(W:MO)(ps:Option Addr)(k:Nat)(q:Sq)(b o:Nat):Prop where
 at_:ps=MI ⟨b,o,MH⟩
 cells:W.rangeAt b (o+k*61) (JU q)
 rd:Kh W q
theorem JD.step{W:MO}(h:JD w W g V c P){k:Nat}(hk:k<P.steps.length):∃q b o,Tx W V.ps k q b o/\P.steps[k]?=MI q.s/\JM c q.s:=by
 have hl:=h.pat.steps;have hkq:k<V.qs.length:=by omega
 have hrv:bj JU W (MG V.ps V.qs.length V.cs) V.qs:=gZ h.pat.rows;obtain⟨a,cap,hv,_,_,hp⟩:=bj.F6 LV hrv;injection hv with q1 _ _;obtain⟨b,o,ha,hb,hc⟩:=hp k hkq;have e:P.steps[k]?=MI V.qs[k].s:=by rw[<-h.pat.eqs,List.getElem?_map,MR hkq];rfl
 refine⟨V.qs[k],b,o,⟨q1.trans ha,fun j v hv=>?_,(h.pat.all _ (Nk hkq)).now⟩,e,h.rn.runs.chain _ (Nu e)⟩;have hj:j<61:=(List.getElem?_eq_some_iff.1 hv).1;rw[hc j hj];exact hv
theorem TB(f:Nat->Int)(hf:∀i,i<16->(Lit.int ME (f i)).wf=Nw)(ds:List Dd)(hds:∀d∈ds,Kg d){pd:Option Addr}{cd:Nat}(hrow:bj Ka w (MG pd ds.length cd) ds)(hblk:aK w)(most:Nat)(hm:most<=100):
  ∃L:List Value,L.length=16/\BD (f 0) (f 1) (f 2) (f 3) (f 4) (f 5) (f 6) (f 7) (f 8) (f 9) (f 10) (f 11) (f 12) (f 13) (f 14) (f 15)=Ny L.toArray/\∀W,MQ w.heap.size w W->Calls Tryz.prog 25 #[Ny L.toArray,MG pd ds.length cd,MF ME (most:Int)] W (Lq f most W):=
 ⟨[MF ME (f 0),MF ME (f 1),MF ME (f 2),MF ME (f 3),MF ME (f 4),MF ME (f 5),MF ME (f 6),MF ME (f 7),MF ME (f 8),MF ME (f 9),MF ME (f 10),MF ME (f 11),MF ME (f 12),MF ME (f 13),MF ME (f 14),MF ME (f 15)],rfl,rfl,fun W hB=>L6 f hf ds hds W (hrow.below hB) (hblk.below hB) most hm⟩
theorem Tx.TL{W:MO}{ps:Option Addr}{k:Nat}{q:Sq}{b o:Nat}(h:Tx W ps k q b o):W.rangeAt b (o+k*61+34) (ef q.v q.s.aft).toList:=fun j v hv=>by
 have hj:j<26:=(List.getElem?_eq_some_iff.1 hv).1;have e:(JU q)[34+j]?=MI v:=by
  have e1:JU q=(JN q.s.ev++(ef q.u q.s.bef).toList)++((ef q.v q.s.aft).toList++[MG q.po q.s.out.length q.co]):=by unfold JU;rw[List.append_assoc]
  rw[e1,List.getElem?_append_right (show 34<=34+j by omega),show 34+j-(JN q.s.ev++(ef q.u q.s.bef).toList).length=j from Nat.add_sub_cancel_left 34 j,OJ (show j<26 from hj)];exact hv
 have:=h.cells (34+j) v e;rwa[show o+k*61+(34+j)=o+k*61+34+j by omega]at this
theorem TE(W:MO)(U:Us)(G:Gt):∃Y,Y=(W.alloc (MP wz.toArray 49)).setCells W.heap.size 0 (ef U G).toList/\Y.heap[W.heap.size]?=MI (MP (ef U G).toList.toArray 49 (0,0))/\MQ W.heap.size W Y/\(W.alloc (MP wz.toArray 49)).there W.heap.size 0 (ef U G).toList.toArray.size:=by
 have hZ:(W.alloc (MP wz.toArray 49)).heap[W.heap.size]?=MI (MP wz.toArray 49 (0,0)):=M1 _ _;exact⟨_,rfl,KM hZ rfl,tW (ai W) (Nat.le_refl _) _ _ (by simp),(show(W.alloc (MP wz.toArray 49)).there W.heap.size 0 (ef U G).toList.toArray.size from sF (old:=wz) hZ)⟩
theorem TD{W:MO}{b:Nat}{U:Us}{G:Gt}(h:W.heap[b]?=MI (MP (ef U G).toList.toArray 49 (0,0)))(j:Nat):W.cell? ⟨b,j,MH⟩=(ef U G).toList[j]?:=by
 rw[MW W b j _ _ (0,0) h];simp
theorem Jz.TK{base:Nat}(h:Jz base w g V c P)(j:Nat):w.cell? ⟨g,j,MH⟩=(JZ V c P)[j]?:=by
 rw[MW w g j _ _ (0,0) h.box];simp
theorem TA:(Tryz.prog.info? 87).map (·.size)=MI 7:=by kernel_rfl
abbrev Tz:List Value:=[MF ME 0,MF ME 0,MF ME 0,MF ME 0,M3 Nb,MF ME 0,MF ME 0]
theorem Ty(W:MO)(f:Fl):∃Y,Y=(W.alloc (MP Tz.toArray 87)).setCells W.heap.size 0 (ap f)/\Y.heap[W.heap.size]?=MI (MP (ap f).toArray 87 (0,0))/\MQ W.heap.size W Y/\(W.alloc (MP Tz.toArray 87)).there W.heap.size 0 (ap f).toArray.size:=by
 have hZ:(W.alloc (MP Tz.toArray 87)).heap[W.heap.size]?=MI (MP Tz.toArray 87 (0,0)):=M1 _ _;exact⟨_,rfl,KM hZ rfl,tW (ai W) (Nat.le_refl _) _ _ (by simp),(show(W.alloc (MP Tz.toArray 87)).there W.heap.size 0 (ap f).toArray.size from sF (old:=Tz) hZ)⟩
theorem TC(f:Nat->Int)(hf:∀i,i<16->(Lit.int ME (f i)).wf=Nw)(ds:List Dd)(hds:∀d∈ds,Kg d){pd:Option Addr}{cd:Nat}(hrow:bj Ka w (MG pd ds.length cd) ds)(hB:aK w):
  Calls Tryz.prog 13 #[BD (f 0) (f 1) (f 2) (f 3) (f 4) (f 5) (f 6) (f 7) (f 8) (f 9) (f 10) (f 11) (f 12) (f 13) (f 14) (f 15),MG pd ds.length cd] w fun r w'=>r=Ending.returned (M3 Nw)/\MQ w.heap.size w w':=by
 obtain⟨L,hL,eL,hpl⟩:=TB f hf ds hds hrow hB 60 (by omega);rw[eL];obtain⟨W0,hW0⟩:∃W0,W0=w.alloc (MP L.toArray 24):=⟨_,rfl⟩;have hb0:MQ w.heap.size w W0:=by rw[hW0];exact ai w
 have HI:M6 (_/\_/\_):=⟨hL,hb0,hpl W0 hb0⟩;obtain⟨nd,hnd⟩:∃nd,nd=ds.length:=⟨_,rfl⟩;rw[<-hnd]at HI⊢;clear hL eL hpl hb0 hf hds hrow hB hnd;go_enter Tryz.func13,Tryz.ntmps13
 go_wp2_with ((with_reducible refine O3 rfl 24 (O6 2) rfl w.heap.size 0 ?gx L _ ?gc Tryz.underlying24 ?gd ?gi ?_);(case gx=>rfl);(case gc=>exact J8 (M1 _ _));(case gd=>rfl);(case gi=>rw[HI.out.1];exact K0))
 rw[<-hW0];clear hW0;refine Calls.mono HI.out.2.2 ?_;rintro r w1 ⟨g,V,c,P,rfl,hS,hcx,hn4,hnm,hk3⟩;obtain⟨n,hn⟩:∃n,n=P.steps.length:=⟨_,rfl⟩;have HS:M6 (_/\_/\_/\_/\_):=⟨hS,hcx,hn,(show n<=60+4 by omega),hk3⟩;have hB1:=HI.out.2.1.trans (hS.bel.mono HI.out.2.1.size);have HB:M6 _:=hB1;clear hS hcx hn4 hnm hk3 hn HI hB1
 go_wp2_with fail
 go_loopw [7,8,9,10,11] (fun i _ _ _ _ wr=>∃k:Nat,i=MF ME (k:Int)/\k<=n/\M6 (MQ w1.heap.size w1 wr)) (fun i _ _ _ _ _=>n-(intOf i).toNat)
 case atStart=>exact⟨0,rfl,Nat.zero_le _,MY _ _⟩
 case round =>
  obtain⟨k,rfl,hk,HW⟩:=hrel;have hSr:=HS.out.1.on HW.out;have c16:wr.cell? ⟨g,16,MH⟩=MI (MG V.ps n V.cs):=by rw[HS.out.2.2.1];exact hSr.pat.Gm
  have hgl:=hSr.pat.lt;have hnb:n<=9223372036854775807:=by have:=HS.out.2.2.2.1;omega
  by_cases hlt:k<n
  ·have hkI:(k:Int)<(n:Int):=by omega
   obtain⟨q,b,o,hq,hst,hok⟩:=hSr.step (k:=k) (by rw[<-HS.out.2.2.1];exact hlt);obtain⟨Y,hY,hYx,hYb,hth⟩:=TE wr q.v q.s.aft;obtain⟨M,hM⟩:∃M,M=(ef q.v q.s.aft).toList:=⟨_,rfl⟩;have hat:=hq.at_;have hcs:=hq.TL;have hdue:=HS.out.1.rn.due rfl q.s (Nu hst);have hA:=(hq.rd.2.1).below hYb;have HY:M6 (_/\_/\_/\_/\_):=⟨hYx,hYb,hdue,hA,hok⟩;rw[<-hM]at hY hth hcs;have HQ:M6 (_/\_/\_/\_/\_/\_):=⟨hcs,hth,hY,hM,HW.out.trans (hYb.mono HW.out.size),(show M.length=26 by rw[hM];rfl)⟩;clear hq hst hok hY hYx hYb hth hM hcs hdue hA hSr;rw[hat]at c16;clear hat
   go_wp2_with (first|((with_reducible refine O3 rfl 49 (O6 33) rfl b (o+k*61+34) ?gx M _ ?gc Tryz.underlying49 ?gd ?gi ?_);(case gx=>rfl);(case gc=>exact HQ.out.1);(case gd=>rfl);(case gi=>rw[HQ.out.2.2.2.2.2];exact iN))|((with_reducible refine OW rfl 49 (O6 8) (O6 34) rfl wr.heap.size 0 M.toArray ?sx ?sy ?st ?si ?s1 ?_);(case sx=>rfl);(case sy=>rfl);(case st=>exact HQ.out.2.1);(case si=>rw[OQ,HQ.out.2.2.2.2.2];exact iN);(case s1=>rw[HQ.out.2.2.2.1];exact rS _ _);rw[NS,<-HQ.out.2.2.1]))
   obtain⟨m,hm⟩:∃m,m=q.s.aft.fls.length:=⟨_,rfl⟩;have HM:M6 (m=q.s.aft.fls.length):=hm;have hmb:m<=40:=by rw[hm];exact HY.out.2.2.2.2.next.im.bs.Gb
   obtain⟨B8,hB8⟩:∃B8,B8=wr.heap.size:=⟨_,rfl⟩;have hYx:=HY.out.1;rw[<-hB8]at hYx⊢;have HX0:M6 _:=hYx;have HSY:M6 _:=HS.out.1.on HQ.out.2.2.2.2.1;clear hm c16 hgl hB8 hYx
   go_loopw [9,10,11] (fun i _ _ wr=>∃j:Nat,i=MF ME (j:Int)/\j<=m/\M6 (MQ Y.heap.size Y wr)) (fun i _ _ _=>m-(intOf i).toNat)
   case atStart=>exact⟨0,rfl,Nat.zero_le _,MY _ _⟩
   case round =>
    obtain⟨j,rfl,hj,HX⟩:=hrel;have hSx:=HSY.out.on HX.out;have hBx:=af HX0.out HX.out;have c18:wr.cell? ⟨B8,18,MH⟩=MI (MG q.v.pf m q.v.cf):=by rw[TD hBx 18,HM.out];rfl
    have hgl:=hSx.pat.lt;have hBl:B8<wr.heap.size:=(Array.getElem?_eq_some_iff.1 hBx).1
    by_cases hlj:j<m
    ·have hjI:(j:Int)<(m:Int):=by omega
     have hfl:=(HY.out.2.2.2.1.fls).below HX.out;have hjl:j<q.s.aft.fls.length:=by rw[<-HM.out];exact hlj
     obtain⟨a,cap,hv,_,_,hp⟩:=bj.F6 ba hfl;injection hv with q1 q2 q3;obtain⟨bo,oo,ha,hb,hc⟩:=hp j hjl;obtain⟨f,hf⟩:∃f,f=q.s.aft.fls[j]:=⟨_,rfl⟩;rw[<-hf]at hc;obtain⟨d1,d2,d3⟩:=HY.out.2.2.1 f (by rw[hf];exact Nk hjl);have hnow:=HY.out.2.2.2.2.next.im.bs.now;obtain⟨F,hF⟩:∃F,F=ap f:=⟨_,rfl⟩;have hrg:wr.rangeAt bo (oo+j*7) F:=fun i v hv=>by
      have hi:i<7:=by have:=(List.getElem?_eq_some_iff.1 hv).1;rw[hF]at this;exact this
      rw[hc i hi,<-hF];exact hv
     rw[q1,ha]at c18;obtain⟨Z,hZ,hZx,hZb,hzt⟩:=Ty wr f;rw[<-hF]at hZ hZx hzt;have c16:Z.cell? ⟨B8,16,MH⟩=MI (MF ME q.s.aft.now):=by rw[TD (af hBx hZb) 16];rfl
     have k6:Z.cell? ⟨g,6,MH⟩=MI (MF ME c.idle):=((hSx.pat.below hZb).TK 6).trans rfl;have k7:Z.cell? ⟨g,7,MH⟩=MI (MF ME c.conn):=((hSx.pat.below hZb).TK 7).trans rfl;have k8:Z.cell? ⟨g,8,MH⟩=MI (MF ME c.ret):=((hSx.pat.below hZb).TK 8).trans rfl;have z4:Z.cell? ⟨wr.heap.size,4,MH⟩=MI (M3 f.srv):=by rw[MW Z _ 4 _ _ (0,0) hZx,hF];rfl
     have z5:Z.cell? ⟨wr.heap.size,5,MH⟩=MI (MF ME f.ret):=by rw[MW Z _ 5 _ _ (0,0) hZx,hF];rfl
     have z6:Z.cell? ⟨wr.heap.size,6,MH⟩=MI (MF ME f.due):=by rw[MW Z _ 6 _ _ (0,0) hZx,hF];rfl
     have hgZ:g<Z.heap.size:=Nat.lt_of_lt_of_le hgl hZb.size;have hci:=HS.out.2.1.idle;have hcc:=HS.out.2.1.conn;have hco:=HS.out.2.1.ok;obtain⟨u,hu⟩:∃u,u=q.s.aft.now:=⟨_,rfl⟩;rw[<-hu]at c16 d1 d2 hnow;have HF:M6 (_/\_/\_/\_/\_/\_):=⟨hrg,(show F.length=7 by rw[hF];rfl),hzt,(show F.toArray.all (·.oneCell')=Nw by rw[hF];exact all_oneCell_toArray (jh f)),hZ,HX.out.trans (hZb.mono HX.out.size)⟩;have e1:¬f.due<=u:=by omega
     have e3:¬c.ret<f.ret:=by omega
     cases hsv:f.srv
     all_goals
      rw[hsv]at z4 d2;simp only[if_true,if_false,Bool.false_eq_true]at d2;have hw:IntKind.i64.wrap (u+c.conn)=u+c.conn:=by rw[Ow];omega
      have hx:IntKind.i64.wrap (u+c.idle)=u+c.idle:=by rw[Ow];omega
      first
      |have e2:¬u+c.conn<f.due:=by omega
      |have e2:¬u+c.idle<f.due:=by omega
      clear hfl hp q1 q2 q3 ha hb hc hf d1 d2 d3 hnow hF hrg hZ hZx hZb hzt hci hcc hco hu hBx hSx hsv hjl
      go_wp2_with (first|((with_reducible refine O3 rfl 87 (O6 45) rfl bo (oo+j*7) ?gx F _ ?gc Tryz.underlying87 ?gd ?gi ?_);(case gx=>rfl);(case gc=>exact HF.out.1);(case gd=>rfl);(case gi=>rw[HF.out.2.1];exact TA))|((with_reducible refine OW rfl 87 (O6 10) (O6 46) rfl wr.heap.size 0 F.toArray ?sx ?sy ?st ?si ?s1 ?_);(case sx=>rfl);(case sy=>rfl);(case st=>exact HF.out.2.2.1);(case si=>rw[OQ,HF.out.2.1];exact TA);(case s1=>exact HF.out.2.2.2.1);rw[NS,<-HF.out.2.2.2.2.1]))
      refine wp_region_quiet_lit (by kernel_rfl) (by kernel_rfl) ?_
      repeat (first|go_big_quiet_skip|quiet_step (fail))
      refine wpQuiet_nil ?_;intro _ hw';obtain⟨nq,hw''⟩:=hw';subst hw'';go_wp2
      go_roundw
      case rel=>exact⟨j+1,by simp,hlj,HF.out.2.2.2.2.2.trans ((B3 (MY _ _) nq).mono HF.out.2.2.2.2.2.size)⟩
      case measure=>simp[intOf];omega
    ·obtain rfl:j=m:=by omega
     have hjI:¬(j:Int)<(j:Int):=by omega
     clear hSx hBx;go_wp2
     go_roundw
     case rel=>exact⟨k+1,by simp,hlt,HQ.out.2.2.2.2.1.trans (HX.out.mono HQ.out.2.2.2.2.1.size)⟩
     case measure=>simp[intOf];omega
  ·obtain rfl:k=n:=by omega
   have hkI:¬(k:Int)<(k:Int):=by omega
   go_wp2;go_ret;exact⟨rfl,HB.out.trans (HW.out.mono HB.out.size)⟩
end Go.Proofs.YtalhkllgnlejbaaGreatDoor.Q
