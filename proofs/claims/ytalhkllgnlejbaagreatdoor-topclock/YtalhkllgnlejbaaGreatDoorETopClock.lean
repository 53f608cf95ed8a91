/-
  TopClock: what its walk leans on besides the contracts of core. Conditions: as each theorem says.
-/
import Derived.Test.YtalhkllgnlejbaaGreatDoorQ20
open Bool renaming false->Nb,true->Nw
open Go renaming Addr->Oc,Calls->Ni,Value->M7,World->MO,all_oneCell_toArray->OE,cell_of_row->MW,heap_alloc_new->M1,wpList_load_mid->O3,wpList_store_mid->OW
open Go.Calls renaming mono->Nd
open Go.Ending renaming returned->MN
open Go.IntKind renaming i64->ME,wrap_i64->Ow
open Go.Lit renaming int->N6
open Go.Obj renaming cells->MP
open Go.Operand renaming tmp->O6
open Go.Proofs.Tryz renaming prog->MK,underlying24->TD,underlying73->TE
open Go.RowKit renaming Below->MQ,Hid->M6
open Go.RowKit.Below renaming refl->MY
open Go.Value renaming agg->Ny,bool->M3,int->MF,slice->MG
open List renaming getElem?_eq_getElem->MR,getElem_mem->Nk,mem_of_getElem?->Nu,size_toArray->OQ,toList_toArray->NS
open Nat renaming le_refl->MV,zero_le->Nx
open Option renaming none->MH,some->MI
namespace Go.Proofs.YtalhkllgnlejbaaGreatDoor.Q
set_option linter.unusedVariables false
set_option linter.unusedSimpArgs false
set_option maxHeartbeats 16000000
set_option maxRecDepth 100000
open Go.RowKit
attribute [local go_sem ↓] Go.wp_at_zero Go.wp_at_succ
variable {w:MO}
section
variable {A:Gt}{c:Cf}{P:Py}
theorem JM.next{s:Sp}(h:JM c s):Wm s.aft:=by rw[h.aft];exact(h.wm.Mm (D5 h.ev) h.late).Ma
end
abbrev TB:List Value:=[MF ME 0,MF ME 0,MF ME 0,MF ME 0,M3 Nb,MF ME 0,MF ME 0,MF ME 0,MF ME 0,MF ME 0,MF ME 0,MF ME 0,MF ME 0,MF ME 0,MF ME 0,MF ME 0,MF ME 0,MF ME 0,MF ME 0,MF ME 0,MF ME 0,MF ME 0,MF ME 0,MF ME 0,MF ME 0,MG MH 0 0,MG MH 0 0,MG MH 0 0,MG MH 0 0,MG MH 0 0,MG MH 0 0,MF ME 0,MF ME 0,MG MH 0 0,MF ME 0,MF ME 0,MF ME 0,MF ME 0,MF ME 0,MF ME 0,MF ME 0,MF ME 0,MF ME 0,MF ME 0,MF ME 0,MF ME 0,MF ME 0,MF ME 0,MF ME 0,MF ME 0,MF ME 0,MG MH 0 0,MG MH 0 0,MG MH 0 0,MG MH 0 0,MG MH 0 0,MG MH 0 0,MF ME 0,MF ME 0,MG MH 0 0,MG MH 0 0]
theorem Ty:(Tryz.prog.info? 73).map (·.size)=MI 61:=by kernel_rfl
theorem Jz.Gm{base:Nat}{g:Nat}{V:Pv}{c:Cf}{P:Py}(h:Jz base w g V c P):w.cell? ⟨g,16,MH⟩=MI (MG V.ps P.steps.length V.cs):=by
 rw[MW w g 16 _ _ (0,0) h.box,h.steps];rfl
structure Tw(W:MO)(ps:Option Oc)(k:Nat)(q:Sq)(b o:Nat):Prop where
 at_:ps=MI ⟨b,o,MH⟩
 cells:W.rangeAt b (o+k*61) (JU q)
 rd:Kh W q
theorem JD.step{W:MO}{g:Nat}{V:Pv}{c:Cf}{P:Py}(h:JD w W g V c P){k:Nat}(hk:k<P.steps.length):∃q b o,Tw W V.ps k q b o/\P.steps[k]?=MI q.s/\JM c q.s:=by
 have hl:=h.pat.steps;have hkq:k<V.qs.length:=by omega
 have hrv:bj JU W (MG V.ps V.qs.length V.cs) V.qs:=gZ h.pat.rows;obtain⟨a,cap,hv,_,_,hp⟩:=bj.F6 LV hrv;injection hv with q1 _ _;obtain⟨b,o,ha,hb,hc⟩:=hp k hkq;have e:P.steps[k]?=MI V.qs[k].s:=by rw[<-h.pat.eqs,List.getElem?_map,MR hkq];rfl
 refine⟨V.qs[k],b,o,⟨q1.trans ha,fun j v hv=>?_,(h.pat.all _ (Nk hkq)).now⟩,e,h.rn.runs.chain _ (Nu e)⟩;have hj:j<61:=(List.getElem?_eq_some_iff.1 hv).1;rw[hc j hj];exact hv
structure Tx(W:MO)(b:Nat)(q:Sq):Prop where
 box:W.heap[b]?=MI (MP (JU q).toArray 73 (0,0))
 rd:Kh W q
theorem Kh.below{W Y:MO}{q:Sq}(h:Kh W q)(hb:MQ W.heap.size W Y):Kh Y q:=⟨h.1.below hb,h.2.1.below hb,h.2.2.below hb⟩
theorem TA(q:Sq):(JU q).toArray.all (·.oneCell')=true:=by
 apply OE;exact LU q
theorem Tw.box{W:MO}{ps:Option Oc}{k:Nat}{q:Sq}{b o:Nat}(h:Tw W ps k q b o):∃Y,Y=(W.alloc (MP TB.toArray 73)).setCells W.heap.size 0 (JU q)/\Tx Y W.heap.size q/\MQ W.heap.size W Y/\(W.alloc (MP TB.toArray 73)).there W.heap.size 0 (JU q).toArray.size:=by
 have hZ:(W.alloc (MP TB.toArray 73)).heap[W.heap.size]?=MI (MP TB.toArray 73 (0,0)):=M1 _ _;have hB:MQ W.heap.size W ((W.alloc (MP TB.toArray 73)).setCells W.heap.size 0 (JU q)):=tW (ai W) (MV _) _ _ (by simp);exact⟨_,rfl,⟨KM hZ rfl,h.rd.below hB⟩,hB,(show(W.alloc (MP TB.toArray 73)).there W.heap.size 0 (JU q).toArray.size from sF (old:=TB) hZ)⟩
theorem Tx.F7{W:MO}{b:Nat}{q:Sq}(h:Tx W b q)(j:Nat):W.cell? ⟨b,j,MH⟩=(JU q)[j]?:=by
 rw[MW W b j _ _ (0,0) h.box];simp
theorem Tz(f:Nat->Int)(hf:∀i,i<16->(N6 ME (f i)).wf=Nw)(ds:List Dd)(hds:∀d∈ds,Kg d){pd:Option Oc}{cd:Nat}(hrow:bj Ka w (MG pd ds.length cd) ds)(hblk:aK w)(most:Nat)(hm:most<=100):
  ∃L:List M7,L.length=16/\BD (f 0) (f 1) (f 2) (f 3) (f 4) (f 5) (f 6) (f 7) (f 8) (f 9) (f 10) (f 11) (f 12) (f 13) (f 14) (f 15)=Ny L.toArray/\∀W,MQ w.heap.size w W->Ni MK 25 #[Ny L.toArray,MG pd ds.length cd,MF ME (most:Int)] W (Lq f most W):=
 ⟨[MF ME (f 0),MF ME (f 1),MF ME (f 2),MF ME (f 3),MF ME (f 4),MF ME (f 5),MF ME (f 6),MF ME (f 7),MF ME (f 8),MF ME (f 9),MF ME (f 10),MF ME (f 11),MF ME (f 12),MF ME (f 13),MF ME (f 14),MF ME (f 15)],rfl,rfl,fun W hB=>L6 f hf ds hds W (hrow.below hB) (hblk.below hB) most hm⟩
theorem TC(f:Nat->Int)(hf:∀i,i<16->(N6 ME (f i)).wf=Nw)(ds:List Dd)(hds:∀d∈ds,Kg d){pd:Option Oc}{cd:Nat}(hrow:bj Ka w (MG pd ds.length cd) ds)(hB:aK w):
  Ni MK 12 #[BD (f 0) (f 1) (f 2) (f 3) (f 4) (f 5) (f 6) (f 7) (f 8) (f 9) (f 10) (f 11) (f 12) (f 13) (f 14) (f 15),MG pd ds.length cd] w fun r w'=>r=MN (M3 Nw)/\MQ w.heap.size w w':=by
 obtain⟨L,hL,eL,hpl⟩:=Tz f hf ds hds hrow hB 60 (by omega);rw[eL];obtain⟨W0,hW0⟩:∃W0,W0=w.alloc (MP L.toArray 24):=⟨_,rfl⟩;have hb0:MQ w.heap.size w W0:=by rw[hW0];exact ai w
 have HI:M6 (_/\_/\_):=⟨hL,hb0,hpl W0 hb0⟩;obtain⟨nd,hnd⟩:∃nd,nd=ds.length:=⟨_,rfl⟩;rw[<-hnd]at HI⊢;clear hL eL hpl hb0 hf hds hrow hB hnd;go_enter Tryz.func12,Tryz.ntmps12
 go_wp2_with ((with_reducible refine O3 rfl 24 (O6 2) rfl w.heap.size 0 ?gx L _ ?gc TD ?gd ?gi ?_);(case gx=>rfl);(case gc=>exact J8 (M1 _ _));(case gd=>rfl);(case gi=>rw[HI.out.1];exact K0))
 rw[<-hW0];clear hW0;refine Nd HI.out.2.2 ?_;rintro r w1 ⟨g,V,c,P,rfl,hS,hcx,hn4,hnm,hk3⟩;obtain⟨n,hn⟩:∃n,n=P.steps.length:=⟨_,rfl⟩;have HS:M6 (_/\_/\_/\_):=⟨hS,hcx,hn,(show n<=1000 by omega)⟩;have hB1:=HI.out.2.1.trans (hS.bel.mono HI.out.2.1.size);have HB:M6 _:=hB1;clear hS hcx hn4 hnm hk3 hn HI hB1
 go_wp2_with fail
 go_loopw [7,8,9] (fun i _ _ wr=>∃k:Nat,i=MF ME (k:Int)/\k<=n/\M6 (MQ w1.heap.size w1 wr)) (fun i _ _ _=>n-(intOf i).toNat)
 case atStart=>exact⟨0,rfl,Nx _,MY _ _⟩
 case round =>
  obtain⟨k,rfl,hk,HW⟩:=hrel;have hSr:=HS.out.1.on HW.out;have c16:wr.cell? ⟨g,16,MH⟩=MI (MG V.ps n V.cs):=by rw[HS.out.2.2.1];exact hSr.pat.Gm
  have hgl:=hSr.pat.lt
  by_cases hlt:k<n
  ·have hkI:(k:Int)<(n:Int):=by omega
   have hnb:n<=9223372036854775807:=by have:=HS.out.2.2.2;omega
   obtain⟨q,b,o,hq,hst,hok⟩:=hSr.step (k:=k) (by rw[<-HS.out.2.2.1];exact hlt);obtain⟨Y,hY,hSB,hYb,hth⟩:=hq.box;obtain⟨R,hR⟩:∃R,R=JU q:=⟨_,rfl⟩;have hat:=hq.at_;have y0:Y.cell? ⟨wr.heap.size,0,MH⟩=MI (MF ME q.s.ev.kind):=(hSB.F7 0).trans rfl;have y24:Y.cell? ⟨wr.heap.size,24,MH⟩=MI (MF ME q.s.bef.now):=(hSB.F7 24).trans rfl;have y50:Y.cell? ⟨wr.heap.size,50,MH⟩=MI (MF ME q.s.aft.now):=(hSB.F7 50).trans rfl;have y58:Y.cell? ⟨wr.heap.size,58,MH⟩=MI (MF ME q.s.aft.wnow):=(hSB.F7 58).trans rfl;have hnow:q.s.aft.now=if q.s.ev.kind=7 then q.s.bef.now+1 else q.s.bef.now:=by rw[hok.aft];exact(KF _ _).2
   have hwn:q.s.aft.wnow=q.s.aft.now:=hok.next.wnow;have hbn:=hok.wm.im.bs.now;rw[hwn]at y58;rw[hnow]at y50 y58;obtain⟨e,he⟩:∃e,e=q.s.ev.kind:=⟨_,rfl⟩;obtain⟨u,hu⟩:∃u,u=q.s.bef.now:=⟨_,rfl⟩;rw[<-he]at y0 y50 y58;rw[<-hu]at y24 y50 y58 hbn;have hcs:=hq.cells;rw[<-hR]at hY hth hcs;have HQ:M6 (_/\_/\_/\_/\_/\_):=⟨hcs,hth,hY,hR,HW.out.trans (hYb.mono HW.out.size),(show R.length=61 by rw[hR];rfl)⟩;clear hq hst hok hY hSB hYb hth hR hnow hwn he hu hcs hSr;rw[hat]at c16;clear hat
   by_cases h7:e=7
   ·have h7':(e == 7)=true:=by simp[h7]
    rw[Nh h7]at y50 y58;have hw1:IntKind.i64.wrap (u+1)=u+1:=by rw[Ow];omega
    go_wp2_with (first|((with_reducible refine O3 rfl 73 (O6 30) rfl b (o+k*61) ?gx R _ ?gc TE ?gd ?gi ?_);(case gx=>rfl);(case gc=>exact HQ.out.1);(case gd=>rfl);(case gi=>rw[HQ.out.2.2.2.2.2];exact Ty))|((with_reducible refine OW rfl 73 (O6 8) (O6 31) rfl wr.heap.size 0 R.toArray ?sx ?sy ?st ?si ?s1 ?_);(case sx=>rfl);(case sy=>rfl);(case st=>exact HQ.out.2.1);(case si=>rw[OQ,HQ.out.2.2.2.2.2];exact Ty);(case s1=>rw[HQ.out.2.2.2.1];exact TA q);rw[NS,<-HQ.out.2.2.1]))
    go_roundw
    case rel=>exact⟨k+1,by simp,hlt,HQ.out.2.2.2.2.1⟩
    case measure=>simp[intOf];omega
   ·have h7':(e == 7)=false:=by simp[h7]
    rw[Nf h7]at y50 y58
    go_wp2_with (first|((with_reducible refine O3 rfl 73 (O6 30) rfl b (o+k*61) ?gx R _ ?gc TE ?gd ?gi ?_);(case gx=>rfl);(case gc=>exact HQ.out.1);(case gd=>rfl);(case gi=>rw[HQ.out.2.2.2.2.2];exact Ty))|((with_reducible refine OW rfl 73 (O6 8) (O6 31) rfl wr.heap.size 0 R.toArray ?sx ?sy ?st ?si ?s1 ?_);(case sx=>rfl);(case sy=>rfl);(case st=>exact HQ.out.2.1);(case si=>rw[OQ,HQ.out.2.2.2.2.2];exact Ty);(case s1=>rw[HQ.out.2.2.2.1];exact TA q);rw[NS,<-HQ.out.2.2.1]))
    go_roundw
    case rel=>exact⟨k+1,by simp,hlt,HQ.out.2.2.2.2.1⟩
    case measure=>simp[intOf];omega
  ·obtain rfl:k=n:=by omega
   have hkI:¬(k:Int)<(k:Int):=by omega
   go_wp2;go_ret;exact⟨rfl,HB.out.trans (HW.out.mono HB.out.size)⟩
end Go.Proofs.YtalhkllgnlejbaaGreatDoor.Q
