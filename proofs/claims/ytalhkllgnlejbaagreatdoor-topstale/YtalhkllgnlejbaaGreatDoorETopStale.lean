/-
  TopStale: its walk. Conditions: as each theorem says.
-/
import Derived.Test.YtalhkllgnlejbaaGreatDoorQ20
open Bool renaming true->Nw
open Go renaming Addr->Oc,World->MO,cell_of_row->MW,heap_alloc_new->M1,wpList_load_mid->O3,wpList_store_mid->OW
open Go.IntKind renaming i64->ME
open Go.Obj renaming cells->MP
open Go.Operand renaming tmp->O6
open Go.RowKit renaming Below->MQ,Hid->M6
open Go.RowKit.Below renaming refl->MY
open Go.Value renaming agg->Ny,bool->M3,int->MF,slice->MG
open Go.World renaming block_lt_of_cell?->MX
open List renaming size_toArray->OQ,toList_toArray->NS
open Nat renaming le_refl->MV
open Option renaming none->MH,some->MI
open Or renaming inl->Nt,inr->NF
namespace Go.Proofs.YtalhkllgnlejbaaGreatDoor.Q
set_option linter.unusedVariables false
set_option linter.unusedSimpArgs false
set_option maxHeartbeats 16000000
set_option maxRecDepth 100000
open Go.RowKit
attribute [local go_sem ↓] Go.wp_at_zero Go.wp_at_succ
variable {w:MO}
section
variable {G:Gt}{c:Cf}
theorem Tw(G:Gt)(b:Int):(cj G b).out=G.out\/∃o,(cj G b).out=G.out++[o]:=by
 unfold cj
 split
 ·exact NF ⟨_,rfl⟩
 ·exact Nt rfl
theorem Tx(G:Gt)(f:Fl)(k y:Int):∃l,(dn G f k y).out=G.out++(⟨k,f.slot,f.gen,f.be,0,0,y⟩:Ou)::l:=by
 unfold dn;rcases Tw (ge {G with tab:=(ed G.tab f.slot f.gen).1,fls:=bO G.fls f.slot f.gen,tms:=fun t=>G.tms t/\t.2≠f.slot} ⟨k,f.slot,f.gen,f.be,0,0,y⟩) f.be with e|⟨o,e⟩
 ·exact⟨[],e⟩
 ·exact⟨[o],by rw[e];simp[ge]⟩
theorem Ty(hb:Bs G){i:Nat}(hi:i<G.fls.length)(y:Int):∃o l,(dP G i y).out=G.out++o::l/\(o.kind=5\/o.kind=6):=by
 rcases pI hb hi y with⟨z,q,hz⟩|⟨b,q,hd,hr,h2,hc,_⟩
 ·obtain⟨l,e⟩:=Tx (dg G G.fls[i].be Nw) G.fls[i] 6 z
  exact⟨_,l,by rw[q];exact e,NF rfl⟩
 ·obtain⟨T,e⟩:=KA (G:={dg G G.fls[i].be Nw with tok:=G.tok-G.cfg.bd}) hi b
  rw[q,e];rcases Tw (ge {{dg G G.fls[i].be Nw with tok:=G.tok-G.cfg.bd}with tab:=(db G.tab G.fls[i].slot G.fls[i].gen b).1,fls:=G.fls.set i {G.fls[i]with be:=b,ret:=G.fls[i].ret+1,due:=G.now+G.cfg.conn},tms:=T} ⟨5,G.fls[i].slot,G.fls[i].gen,b,0,0,0⟩) G.fls[i].be with e|⟨o,e⟩
  ·exact⟨_,[],e,Nt rfl⟩
  ·exact⟨(⟨5,G.fls[i].slot,G.fls[i].gen,b,0,0,0⟩:Ou),[o],e.trans (by simp[ge,dg]),Nt rfl⟩
theorem JM.TI{s:Sp}(h:JM c s)(hk:2<=s.ev.kind/\s.ev.kind<=4) :
  ((cC s.bef.tab s.ev.slot s.ev.gen).2≠0/\s.out=[⟨10,0,0,0,0,(cC s.bef.tab s.ev.slot s.ev.gen).2,0⟩]/\s.aft.fls=s.bef.fls/\s.aft.tok=s.bef.tok) \/
  ((cC s.bef.tab s.ev.slot s.ev.gen).2=0/\((s.out=[⟨10,0,0,0,0,7,0⟩]/\s.aft.fls=s.bef.fls/\s.aft.tok=s.bef.tok)\/∃o l,s.out=o::l/\o.kind≠10)):=by
 have hb:=h.wm.im.bs;have ho:=h.out;have ha:=h.aft;unfold iG at ho ha;rw[Nf (by omega),Nf (by omega),Nf (by omega),Nf (by omega)]at ho ha;rcases Kt hb s.ev with⟨hc,q⟩|⟨i,hi,hc,_,_,⟨_,q⟩|⟨_,q⟩|⟨_,_,⟨_,q⟩|⟨_,_,q⟩|⟨_,_,q⟩⟩⟩
 ·rw[q]at ho ha
  refine Nt ⟨hc,?_,by rw[ha];rfl,by rw[ha];rfl⟩;rw[ho];show s.bef.out++[_]=_;rw[h.out0];rfl
 ·obtain⟨l,e⟩:=Tx s.bef s.bef.fls[i] 7 0
  rw[q,e,h.out0]at ho;exact NF ⟨hc,NF ⟨_,l,ho,by simp⟩⟩
 ·obtain⟨T,e⟩:=Ku hi
  rw[q,e]at ho;have ho:s.out=s.bef.out++[_]:=ho;rw[h.out0]at ho;exact NF ⟨hc,NF ⟨_,[],ho,by simp⟩⟩
 ·rw[q]at ho ha
  refine NF ⟨hc,Nt ⟨?_,by rw[ha];rfl,by rw[ha];rfl⟩⟩;rw[ho];show s.bef.out++[_]=_;rw[h.out0];rfl
 ·obtain⟨T,e⟩:=KC hi
  rw[q,e]at ho;have ho:s.out=s.bef.out++[_]:=ho;rw[h.out0]at ho;exact NF ⟨hc,NF ⟨_,[],ho,by simp⟩⟩
 ·obtain⟨o,l,e,hk⟩:=Ty hb hi 3
  rw[q,e,h.out0]at ho;exact NF ⟨hc,NF ⟨o,l,ho,by omega⟩⟩
end
abbrev TG:List Value:=[MF ME 0,MF ME 0,MF ME 0,MF ME 0,M3 Bool.false,MF ME 0,MF ME 0,MF ME 0,MF ME 0,MF ME 0,MF ME 0,MF ME 0,MF ME 0,MF ME 0,MF ME 0,MF ME 0,MF ME 0,MF ME 0,MF ME 0,MF ME 0,MF ME 0,MF ME 0,MF ME 0,MF ME 0,MF ME 0,MG MH 0 0,MG MH 0 0,MG MH 0 0,MG MH 0 0,MG MH 0 0,MG MH 0 0,MF ME 0,MF ME 0,MG MH 0 0,MF ME 0,MF ME 0,MF ME 0,MF ME 0,MF ME 0,MF ME 0,MF ME 0,MF ME 0,MF ME 0,MF ME 0,MF ME 0,MF ME 0,MF ME 0,MF ME 0,MF ME 0,MF ME 0,MF ME 0,MG MH 0 0,MG MH 0 0,MG MH 0 0,MG MH 0 0,MG MH 0 0,MG MH 0 0,MF ME 0,MF ME 0,MG MH 0 0,MG MH 0 0]
theorem TB:(Tryz.prog.info? 73).map (·.size)=MI 61:=by kernel_rfl
theorem Jz.Gm{base:Nat}{g:Nat}{V:Pv}{c:Cf}{P:Py}(h:Jz base w g V c P):w.cell? ⟨g,16,MH⟩=MI (MG V.ps P.steps.length V.cs):=by
 rw[MW w g 16 _ _ (0,0) h.box,h.steps];rfl
structure Tz(W:MO)(ps:Option Oc)(k:Nat)(q:Sq)(b o:Nat):Prop where
 at_:ps=MI ⟨b,o,MH⟩
 cells:W.rangeAt b (o+k*61) (JU q)
 rd:Kh W q
theorem JD.step{W:MO}{g:Nat}{V:Pv}{c:Cf}{P:Py}(h:JD w W g V c P){k:Nat}(hk:k<P.steps.length):∃q b o,Tz W V.ps k q b o/\P.steps[k]?=MI q.s/\JM c q.s:=by
 have hl:=h.pat.steps;have hkq:k<V.qs.length:=by omega
 have hrv:bj JU W (MG V.ps V.qs.length V.cs) V.qs:=gZ h.pat.rows;obtain⟨a,cap,hv,_,_,hp⟩:=bj.F6 LV hrv;injection hv with q1 _ _;obtain⟨b,o,ha,hb,hc⟩:=hp k hkq;have e:P.steps[k]?=MI V.qs[k].s:=by rw[<-h.pat.eqs,List.getElem?_map,List.getElem?_eq_getElem hkq];rfl
 refine⟨V.qs[k],b,o,⟨q1.trans ha,fun j v hv=>?_,(h.pat.all _ (List.getElem_mem hkq)).now⟩,e,h.rn.runs.chain _ (List.mem_of_getElem? e)⟩;have hj:j<61:=(List.getElem?_eq_some_iff.1 hv).1;rw[hc j hj];exact hv
structure TA(W:MO)(b:Nat)(q:Sq):Prop where
 box:W.heap[b]?=MI (MP (JU q).toArray 73 (0,0))
 rd:Kh W q
theorem Kh.below{W Y:MO}{q:Sq}(h:Kh W q)(hb:MQ W.heap.size W Y):Kh Y q:=⟨h.1.below hb,h.2.1.below hb,h.2.2.below hb⟩
theorem TA.on{W Y:MO}{b:Nat}{q:Sq}(h:TA W b q)(hb:MQ W.heap.size W Y):TA Y b q:=⟨af h.box hb,h.rd.below hb⟩
theorem TF(q:Sq):(JU q).toArray.all (·.oneCell')=true:=by
 apply all_oneCell_toArray;exact LU q
theorem Tz.box{W:MO}{ps:Option Oc}{k:Nat}{q:Sq}{b o:Nat}(h:Tz W ps k q b o):∃Y,Y=(W.alloc (MP TG.toArray 73)).setCells W.heap.size 0 (JU q)/\TA Y W.heap.size q/\MQ W.heap.size W Y/\(W.alloc (MP TG.toArray 73)).there W.heap.size 0 (JU q).toArray.size:=by
 have hZ:(W.alloc (MP TG.toArray 73)).heap[W.heap.size]?=MI (MP TG.toArray 73 (0,0)):=M1 _ _;have hB:MQ W.heap.size W ((W.alloc (MP TG.toArray 73)).setCells W.heap.size 0 (JU q)):=tW (ai W) (MV _) _ _ (by simp);exact⟨_,rfl,⟨KM hZ rfl,h.rd.below hB⟩,hB,(show(W.alloc (MP TG.toArray 73)).there W.heap.size 0 (JU q).toArray.size from sF (old:=TG) hZ)⟩
theorem TA.F7{W:MO}{b:Nat}{q:Sq}(h:TA W b q)(j:Nat):W.cell? ⟨b,j,MH⟩=(JU q)[j]?:=by
 rw[MW W b j _ _ (0,0) h.box];simp
theorem TE(f:Nat->Int)(hf:∀i,i<16->(Lit.int ME (f i)).wf=Nw)(ds:List Dd)(hds:∀d∈ds,Kg d){pd:Option Oc}{cd:Nat}(hrow:bj Ka w (MG pd ds.length cd) ds)(hblk:aK w)(most:Nat)(hm:most<=100):
  ∃L:List Value,L.length=16/\BD (f 0) (f 1) (f 2) (f 3) (f 4) (f 5) (f 6) (f 7) (f 8) (f 9) (f 10) (f 11) (f 12) (f 13) (f 14) (f 15)=Ny L.toArray/\∀W,MQ w.heap.size w W->Calls Tryz.prog 25 #[Ny L.toArray,MG pd ds.length cd,MF ME (most:Int)] W (Lq f most W):=
 ⟨[MF ME (f 0),MF ME (f 1),MF ME (f 2),MF ME (f 3),MF ME (f 4),MF ME (f 5),MF ME (f 6),MF ME (f 7),MF ME (f 8),MF ME (f 9),MF ME (f 10),MF ME (f 11),MF ME (f 12),MF ME (f 13),MF ME (f 14),MF ME (f 15)],rfl,rfl,fun W hB=>L6 f hf ds hds W (hrow.below hB) (hblk.below hB) most hm⟩
theorem TC{W:MO}{p:Option Oc}{c:Nat}{L:List Ou}(h:bj gT W (MG p L.length c) L){i:Nat}(hi:i<L.length) :
  ∃b o,p=MI ⟨b,o,MH⟩/\W.cell? ⟨b,o+i*7,MH⟩=MI (MF ME L[i].kind)/\W.cell? ⟨b,o+i*7+1,MH⟩=MI (MF ME L[i].slot)/\W.cell? ⟨b,o+i*7+2,MH⟩=MI (MF ME L[i].gen)/\W.cell? ⟨b,o+i*7+3,MH⟩=MI (MF ME L[i].be)/\W.cell? ⟨b,o+i*7+4,MH⟩=MI (MF ME L[i].req)/\W.cell? ⟨b,o+i*7+5,MH⟩=MI (MF ME L[i].code)/\W.cell? ⟨b,o+i*7+6,MH⟩=MI (MF ME L[i].why):=by
 obtain⟨a,cap,hv,_,_,hp⟩:=bj.F6 Bq h;injection hv with q1 _ _;obtain⟨b,o,ha,_,hc⟩:=hp i hi;exact⟨b,o,q1.trans ha,hc 0 (by omega),hc 1 (by omega),hc 2 (by omega),hc 3 (by omega),hc 4 (by omega),hc 5 (by omega),hc 6 (by omega)⟩
theorem TD{W:MO}{p:Option Oc}{c:Nat}{L l:List Ou}{x:Ou}(h:bj gT W (MG p L.length c) L)(e:L=x::l) :
  ∃b o,p=MI ⟨b,o,MH⟩/\W.cell? ⟨b,o,MH⟩=MI (MF ME x.kind)/\W.cell? ⟨b,o+1,MH⟩=MI (MF ME x.slot)/\W.cell? ⟨b,o+2,MH⟩=MI (MF ME x.gen)/\W.cell? ⟨b,o+3,MH⟩=MI (MF ME x.be)/\W.cell? ⟨b,o+4,MH⟩=MI (MF ME x.req)/\W.cell? ⟨b,o+5,MH⟩=MI (MF ME x.code)/\W.cell? ⟨b,o+6,MH⟩=MI (MF ME x.why):=by
 subst e;obtain⟨b,o,h1,h2⟩:=TC h (i:=0) (Nat.succ_pos _);simp only[Nat.zero_mul,Nat.add_zero,List.getElem_cons_zero]at h2;exact⟨b,o,h1,h2⟩
theorem TH(f:Nat->Int)(hf:∀i,i<16->(Lit.int ME (f i)).wf=Nw)(ds:List Dd)(hds:∀d∈ds,Kg d){pd:Option Oc}{cd:Nat}(hrow:bj Ka w (MG pd ds.length cd) ds)(hB:aK w):
  Calls Tryz.prog 11 #[BD (f 0) (f 1) (f 2) (f 3) (f 4) (f 5) (f 6) (f 7) (f 8) (f 9) (f 10) (f 11) (f 12) (f 13) (f 14) (f 15),MG pd ds.length cd] w fun r w'=>r=Ending.returned (M3 Nw)/\MQ w.heap.size w w':=by
 obtain⟨L,hL,eL,hpl⟩:=TE f hf ds hds hrow hB 60 (by omega);rw[eL];obtain⟨W0,hW0⟩:∃W0,W0=w.alloc (MP L.toArray 24):=⟨_,rfl⟩;have hb0:MQ w.heap.size w W0:=by rw[hW0];exact ai w
 have HI:M6 (_/\_/\_):=⟨hL,hb0,hpl W0 hb0⟩;obtain⟨nd,hnd⟩:∃nd,nd=ds.length:=⟨_,rfl⟩;rw[<-hnd]at HI⊢;clear hL eL hpl hb0 hf hds hrow hB hnd;go_enter Tryz.func11,Tryz.ntmps11
 go_wp2_with ((with_reducible refine O3 rfl 24 (O6 2) rfl w.heap.size 0 ?gx L _ ?gc Tryz.underlying24 ?gd ?gi ?_);(case gx=>rfl);(case gc=>exact J8 (M1 _ _));(case gd=>rfl);(case gi=>rw[HI.out.1];exact K0))
 rw[<-hW0];clear hW0;refine Calls.mono HI.out.2.2 ?_;rintro r w1 ⟨g,V,c,P,rfl,hS,hcx,hn4,hnm,hk3⟩;obtain⟨n,hn⟩:∃n,n=P.steps.length:=⟨_,rfl⟩;have HS:M6 (_/\_/\_/\_/\_):=⟨hS,hcx,hn,(show n<=60+4 by omega),hk3⟩;have hB1:=HI.out.2.1.trans (hS.bel.mono HI.out.2.1.size);have HB:M6 _:=hB1;clear hS hcx hn4 hnm hk3 hn HI hB1
 go_wp2_with fail
 go_loopw [7,8,9,10,11] (fun i _ _ _ _ wr=>∃k:Nat,i=MF ME (k:Int)/\k<=n/\M6 (MQ w1.heap.size w1 wr)) (fun i _ _ _ _ _=>n-(intOf i).toNat)
 case atStart=>exact⟨0,rfl,Nat.zero_le _,MY _ _⟩
 case round =>
  obtain⟨k,rfl,hk,HW⟩:=hrel;have hSr:=HS.out.1.on HW.out;have c16:wr.cell? ⟨g,16,MH⟩=MI (MG V.ps n V.cs):=by rw[HS.out.2.2.1];exact hSr.pat.Gm
  have hgl:=hSr.pat.lt
  by_cases hlt:k<n
  ·have hkI:(k:Int)<(n:Int):=by omega
   have hnb:n<=9223372036854775807:=by have:=HS.out.2.2.2.1;omega
   obtain⟨q,b,o,hq,hst,hok⟩:=hSr.step (k:=k) (by rw[<-HS.out.2.2.1];exact hlt);obtain⟨Y,hY,hSB,hYb,hth⟩:=hq.box;obtain⟨R,hR⟩:∃R,R=JU q:=⟨_,rfl⟩;have hat:=hq.at_;have y0:Y.cell? ⟨wr.heap.size,0,MH⟩=MI (MF ME q.s.ev.kind):=(hSB.F7 0).trans rfl;have y2:Y.cell? ⟨wr.heap.size,2,MH⟩=MI (MF ME q.s.ev.slot):=(hSB.F7 2).trans rfl;have y3:Y.cell? ⟨wr.heap.size,3,MH⟩=MI (MF ME q.s.ev.gen):=(hSB.F7 3).trans rfl;have y25:Y.cell? ⟨wr.heap.size,25,MH⟩=MI (MG q.u.pt q.s.bef.tab.length q.u.ct):=(hSB.F7 25).trans rfl;have hcs:=hq.cells;rw[<-hR]at hY hth hcs;have HQ:M6 (_/\_/\_/\_/\_/\_):=⟨hcs,hth,hY,hR,HW.out.trans (hYb.mono HW.out.size),(show R.length=61 by rw[hR];rfl)⟩;have HT:M6 (_/\_/\_/\_):=⟨hst,hok,hSB,hYb⟩;clear hq hst hok hY hSB hYb hth hR hcs;rw[hat]at c16;clear hat
   have HG:M6 _:=qJ (MG q.u.pt q.s.bef.tab.length q.u.ct) q.s.bef.tab q.s.ev.slot q.s.ev.gen Y HT.out.2.2.1.rd.1.tab;have hstl:=HT.out.2.1.TI;obtain⟨B8,hB8⟩:∃B8,B8=wr.heap.size:=⟨_,rfl⟩;obtain⟨e,he⟩:∃e,e=q.s.ev.kind:=⟨_,rfl⟩;obtain⟨cd',hcd⟩:∃x,x=(cC q.s.bef.tab q.s.ev.slot q.s.ev.gen).2:=⟨_,rfl⟩;obtain⟨sl,hsl⟩:∃x,x=(cC q.s.bef.tab q.s.ev.slot q.s.ev.gen).1:=⟨_,rfl⟩;rw[<-hcd,<-hsl]at HG;rw[<-hcd,<-he]at hstl;rw[<-he]at y0;have HL:M6 _:=hstl;clear hstl hcd hsl he hSr;have hcase:e=2\/e=3\/e=4\/((e != 2)=Nw/\(e != 3)=Nw/\(e != 4)=Nw):=by
    by_cases h2:e=2
    ·exact Nt h2
    ·by_cases h3:e=3
     ·exact NF (Nt h3)
     ·by_cases h4:e=4
      ·exact NF (NF (Nt h4))
      ·exact NF (NF (NF ⟨by simp[h2],by simp[h3],by simp[h4]⟩))
   rcases hcase with h2|h2|h2|⟨h2,h3,h4⟩
   case' inr.inr.inr =>
    go_wp2_with (first|((with_reducible refine O3 rfl 73 (O6 32) rfl b (o+k*61) ?gx R _ ?gc Tryz.underlying73 ?gd ?gi ?_);(case gx=>rfl);(case gc=>exact HQ.out.1);(case gd=>rfl);(case gi=>rw[HQ.out.2.2.2.2.2];exact TB))|((with_reducible refine OW rfl 73 (O6 8) (O6 33) rfl wr.heap.size 0 R.toArray ?sx ?sy ?st ?si ?s1 ?_);(case sx=>rfl);(case sy=>rfl);(case st=>exact HQ.out.2.1);(case si=>rw[OQ,HQ.out.2.2.2.2.2];exact TB);(case s1=>rw[HQ.out.2.2.2.1];exact TF q);rw[NS,<-HQ.out.2.2.1]))
    go_roundw
    case rel=>exact⟨k+1,by simp,hlt,HQ.out.2.2.2.2.1⟩
    case measure=>simp[intOf];omega
   all_goals
    have hS3:=HL.out (by omega);subst h2;have H3:M6 _:=hS3;clear hS3 HL
    go_wp2_with (first|((with_reducible refine O3 rfl 73 (O6 32) rfl b (o+k*61) ?gx R _ ?gc Tryz.underlying73 ?gd ?gi ?_);(case gx=>rfl);(case gc=>exact HQ.out.1);(case gd=>rfl);(case gi=>rw[HQ.out.2.2.2.2.2];exact TB))|((with_reducible refine OW rfl 73 (O6 8) (O6 33) rfl wr.heap.size 0 R.toArray ?sx ?sy ?st ?si ?s1 ?_);(case sx=>rfl);(case sy=>rfl);(case st=>exact HQ.out.2.1);(case si=>rw[OQ,HQ.out.2.2.2.2.2];exact TB);(case s1=>rw[HQ.out.2.2.2.1];exact TF q);rw[NS,<-HQ.out.2.2.1]))
    refine Calls.mono HG.out ?_;rintro r w5 ⟨rfl,hb5⟩;have hSB5:=HT.out.2.2.1.on hb5;have hbb:=HQ.out.2.2.2.2.1.trans (hb5.mono HQ.out.2.2.2.2.1.size);have hl8:wr.heap.size<w5.heap.size:=(Array.getElem?_eq_some_iff.1 hSB5.box).1;have hne8:w5.heap.size≠wr.heap.size:=by omega
    have z26:w5.cell? ⟨wr.heap.size,26,MH⟩=MI (MG q.u.pf q.s.bef.fls.length q.u.cf):=(hSB5.F7 26).trans rfl;have z52:w5.cell? ⟨wr.heap.size,52,MH⟩=MI (MG q.v.pf q.s.aft.fls.length q.v.cf):=(hSB5.F7 52).trans rfl;have z31:w5.cell? ⟨wr.heap.size,31,MH⟩=MI (MF ME q.s.bef.tok):=(hSB5.F7 31).trans rfl;have z57:w5.cell? ⟨wr.heap.size,57,MH⟩=MI (MF ME q.s.aft.tok):=(hSB5.F7 57).trans rfl;have z60:w5.cell? ⟨wr.heap.size,60,MH⟩=MI (MG q.po q.s.out.length q.co):=(hSB5.F7 60).trans rfl;have hout:=hSB5.rd.2.2;have HO:M6 (_/\_):=⟨hout,hbb⟩;clear hSB5 hbb hout HG y0 y2 y3 y25 hb5;rw[show jB sl=Ny #[MF ME sl.1,M3 sl.2.1,MF ME sl.2.2.1,MF ME sl.2.2.2]from rfl];have hout:=HO.out.1;rcases H3.out with⟨hc0,ho,hf,ht⟩|⟨hc0,⟨ho,hf,ht⟩|⟨o1,l1,ho,ho1⟩⟩
    ·obtain⟨bo,oo,hpo,u0,_,_,_,_,u5,_⟩:=TD hout ho
     have hbo:bo<w5.heap.size:=MX w5 ⟨bo,oo,MH⟩ u0;rw[ho,hpo]at z60;rw[hf]at z52;rw[ht]at z57;have v1:(cd' != 0)=true:=by simpa using hc0
     have v2:(cd' == 0)=false:=by simpa using hc0
     clear hc0 ho hf ht hpo hout
     go_wp2_with fail
     go_roundw
     case rel=>exact⟨k+1,by simp,hlt,HO.out.2.trans (((MY _ _).alloc (MV _) _).mono HO.out.2.size)⟩
     case measure=>simp[intOf];omega
    ·obtain⟨bo,oo,hpo,u0,_,_,_,_,u5,_⟩:=TD hout ho
     have hbo:bo<w5.heap.size:=MX w5 ⟨bo,oo,MH⟩ u0;rw[ho,hpo]at z60;rw[hf]at z52;rw[ht]at z57;subst hc0;clear ho hf ht hpo hout
     go_wp2_with fail
     go_roundw
     case rel=>exact⟨k+1,by simp,hlt,HO.out.2.trans (((MY _ _).alloc (MV _) _).mono HO.out.2.size)⟩
     case measure=>simp[intOf];omega
    ·obtain⟨bo,oo,hpo,u0,_,_,_,_,u5,_⟩:=TD hout ho
     have hbo:bo<w5.heap.size:=MX w5 ⟨bo,oo,MH⟩ u0;rw[ho,hpo]at z60;have v3:(o1.kind == 10)=false:=by simpa using ho1
     obtain⟨nl,hnl⟩:∃nl,nl=(o1::l1).length:=⟨_,rfl⟩;rw[<-hnl]at z60;have hn1:0<nl:=by rw[hnl];exact Nat.succ_pos _
     have hn1I:(0:Int)<(nl:Int):=by omega
     subst hc0;cases hq1:((nl:Int) == 1)
     all_goals
      clear ho ho1 hpo hout hnl
      go_wp2_with fail
      go_roundw
      case rel=>exact⟨k+1,by simp,hlt,HO.out.2.trans (((MY _ _).alloc (MV _) _).mono HO.out.2.size)⟩
      case measure=>simp[intOf];omega
  ·obtain rfl:k=n:=by omega
   have hkI:¬(k:Int)<(k:Int):=by omega
   go_wp2;go_ret;exact⟨rfl,HB.out.trans (HW.out.mono HB.out.size)⟩
end Go.Proofs.YtalhkllgnlejbaaGreatDoor.Q
