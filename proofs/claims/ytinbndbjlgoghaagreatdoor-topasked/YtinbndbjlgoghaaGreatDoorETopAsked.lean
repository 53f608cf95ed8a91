/-
  TopAsked: its walk. Conditions: as each theorem says.
-/
import Derived.Test.YtinbndbjlgoghaaGreatDoorQ20
open Bool renaming false->Nb,true->Nw
open Go renaming Addr->Oc,World->MO,cell_of_row->MW,heap_alloc_new->M1,wpList_load_mid->O3,wpList_store_mid->OW
open Go.IntKind renaming i64->ME
open Go.Obj renaming cells->MP
open Go.Operand renaming tmp->O6
open Go.Proofs.Tryz renaming prog->MK,underlying49->OX,underlying72->Vp
open Go.RowKit renaming Below->MQ,Hid->M6
open Go.Value renaming agg->Ny,bool->M3,int->MF,slice->MG
open List renaming findIdx_getElem->Vn,getElem?_append_left->OJ,getElem?_append_right->Tw,getElem?_eq_getElem->MR,getElem_mem->Nk,size_toArray->OQ,toList_toArray->NS
open Nat renaming add_sub_cancel_left->Vo,zero_le->Nx
open Option renaming none->MH,some->MI
open Or renaming inl->Nt,inr->NF
namespace Go.Proofs.YtinbndbjlgoghaaGreatDoor.Q
set_option linter.unusedVariables false
set_option linter.unusedSimpArgs false
set_option maxHeartbeats 16000000
set_option maxRecDepth 100000
open Go.RowKit
attribute [local go_sem ↓] Go.wp_at_zero Go.wp_at_succ
variable {c:Cf}{w:MO}
section
variable {G:Gt}{c:Cf}
theorem U0(hb:bX G.liv G.req)(b:Int):(cj G b).req=G.req:=by
 unfold cj
 split
 ·rename_i h
  show(eL G.liv G.req b).1.2=G.req;rw[(vD hb h.1).1]
 ·rfl
theorem U1(hm:Wm G)(ho:G.out=[]){e:Ev}(he:fB e)(hk:e.kind=5\/e.kind=6) :
  (∃q∈G.req,q.1=e.req/\(iG G e).req=G.req/\(iG G e).out=[⟨8,0,0,0,e.req,q.2.2.2.2,0⟩]) \/
  (G.req.length=100/\(∀q∈G.req,q.1≠e.req)/\(iG G e).req=G.req/\(iG G e).out=[⟨8,0,0,0,e.req,9,0⟩]) \/
  ((∀q∈G.req,q.1≠e.req)/\∃(q:FY) (l:List Ou),q.1=e.req/\(iG G e).req=G.req++[q]/\(iG G e).out=⟨8,0,0,0,e.req,q.2.2.2.2,0⟩::l /\
   ((e.kind=5/\q.2.2.2.2=(gE G.liv e.be e.wt).2/\(iG G e).liv=(gE G.liv e.be e.wt).1) \/
     (e.kind=6/\q.2.2.2.2=(ec G.liv e.be e.req (G.now+G.cfg.drain)).2/\(q.2.2.2.2≠0->(iG G e).liv=G.liv)))):=by
 have hb:=hm.im.bs;have hd:∀X b,∃l,(cj X b).out=X.out++l:=fun X b=>by
  unfold cj
  split
  ·exact⟨_,rfl⟩
  ·exact⟨[],by simp⟩
 rcases hk with hk|hk
 ·have e1:iG G e=fO G 1 e:=by unfold iG;rw[Nf (by omega),Nh hk]
  have e2:(fO G 1 e).out=[⟨8,0,0,0,e.req,(dJ G 1 e).2.1,0⟩]:=by show G.out++[_]=_;rw[ho];rfl
  have e3:(fO G 1 e).req=(dJ G 1 e).1.2:=rfl;rw[e1,e2,e3];have e4:(fO G 1 e).liv=(dJ G 1 e).1.1:=rfl;rw[e4];unfold dJ;rcases AA hb.book (hb.Jd (e:=e) he.req (Nt rfl:(1:Int)=1\/(1:Int)=2))with⟨hlt,q⟩|⟨h1,h2,q⟩|⟨h1,h2,q⟩
  ·refine Nt ⟨_,Nk hlt,?_,by rw[q],by rw[q,MR hlt];rfl⟩
   exact eq_of_beq (Vn (w:=hlt))
  ·exact NF (Nt ⟨h2,h1,by rw[q],by rw[q]⟩)
  ·refine NF (NF ⟨h1,(e.req,1,e.be,e.wt,(gE G.liv e.be e.wt).2),[],rfl,?_,?_,Nt ⟨hk,rfl,?_⟩⟩)
   ·rw[q];unfold eA;rw[Nh rfl]
   ·rw[q];unfold eA;rw[Nh rfl]
   ·rw[q];unfold eA;rw[Nh rfl]
 ·have e1:iG G e=nC G e:=by unfold iG;rw[Nf (by omega),Nf (by omega),Nh hk]
  have e2:(fO G 2 e).out=[⟨8,0,0,0,e.req,(dJ G 2 e).2.1,0⟩]:=by show G.out++[_]=_;rw[ho];rfl
  have hcs:=AA hb.book (hb.Jd (e:=e) he.req (NF rfl:(2:Int)=1\/(2:Int)=2));have hno:(dJ G 2 e).2.2.1=Nb->iG G e=fO G 2 e:=fun h=>by
   rw[e1];unfold nC ja;rw[h,Nh (by simp)]
  rcases hcs with⟨hlt,q⟩|⟨h1,h2,q⟩|⟨h1,h2,q⟩
  ·have hq:dJ G 2 e=_:=q
   refine Nt ⟨_,Nk hlt,?_,by rw[hno (by rw[hq]),show(fO G 2 e).req=(dJ G 2 e).1.2 from rfl,hq],by rw[hno (by rw[hq]),e2,hq,MR hlt];rfl⟩;exact eq_of_beq (Vn (w:=hlt))
  ·have hq:dJ G 2 e=_:=q
   exact NF (Nt ⟨h2,h1,by rw[hno (by rw[hq]),show(fO G 2 e).req=(dJ G 2 e).1.2 from rfl,hq],by rw[hno (by rw[hq]),e2,hq]⟩)
  ·have hq:dJ G 2 e=_:=q
   have hq1:(dJ G 2 e).1.2=G.req++[(e.req,2,e.be,0,(ec G.liv e.be e.req (G.now+G.cfg.drain)).2)]:=by rw[hq];unfold eA;rw[Nf (show ¬(2:Int)=1 by decide)]
   have hq2:(dJ G 2 e).2.1=(ec G.liv e.be e.req (G.now+G.cfg.drain)).2:=by rw[hq];unfold eA;rw[Nf (show ¬(2:Int)=1 by decide)]
   have hbk:=(KY hb.book (hb.Jd (e:=e) he.req (NF rfl:(2:Int)=1\/(2:Int)=2)) hb.since).2.1;have hR:(iG G e).req=(dJ G 2 e).1.2:=by
    rw[e1];unfold nC
    split
    ·rfl
    ·split
     ·rfl
     ·exact U0 (G:={fO G 2 e with wts:=G.wts.set e.be.toNat 0}) hbk _
   have hO:∃l,(iG G e).out=⟨8,0,0,0,e.req,(dJ G 2 e).2.1,0⟩::l:=by
    rw[e1];unfold nC
    split
    ·exact⟨[],e2⟩
    ·split
     ·exact⟨[⟨9,0,0,e.be,e.req,0,0⟩],by show(fO G 2 e).out++[_]=_;rw[e2];rfl⟩
     ·obtain⟨l,h3⟩:=hd {fO G 2 e with wts:=G.wts.set e.be.toNat 0} e.be
      exact⟨l,by rw[h3];show(fO G 2 e).out++_=_;rw[e2];rfl⟩
   obtain⟨l,hO⟩:=hO;rw[hq2]at hO;refine NF (NF ⟨h1,_,l,rfl,hR.trans hq1,hO,NF ⟨hk,rfl,fun hne=>?_⟩⟩);have hne:(ec G.liv e.be e.req (G.now+G.cfg.drain)).2≠0:=hne;have hy:ja G 2 e=false:=by
    unfold ja;rw[hq2];simp[hne]
   rw[e1];unfold nC;rw[Nh hy];rcases Fq hb he.req with⟨_,h3⟩|⟨h3,_⟩
   ·exact h3
   ·rw[hy]at h3;cases h3
end
section
variable {A:Gt}{c:Cf}{P:Py}
abbrev UZ(e:Ev):Prop:=e.kind=5\/e.kind=6
theorem JM.Vk{s:Sp}(h:JM c s)(hk:UZ s.ev)(hn:s.aft.req.length≠s.bef.req.length) :
  ∃o l,s.out=o::l/\o.code=(if s.ev.kind=5 then(if aA s.bef.liv s.ev.be=0\/aA s.bef.liv s.ev.be=4 then 0 else 7)else if aA s.bef.liv s.ev.be=0\/aA s.bef.liv s.ev.be=4 then 8 else if aA s.bef.liv s.ev.be=3 then 12 else 0)/\(o.code≠0->aA s.aft.liv s.ev.be=aA s.bef.liv s.ev.be):=by
 have hb:=h.wm.im.bs;have hE:=D5 h.ev;rw[h.aft]at hn;have hn:(iG s.bef s.ev).req.length≠s.bef.req.length:=hn;have ha:s.aft.liv=(iG s.bef s.ev).liv:=by rw[h.aft];rfl
 rw[h.out,ha];rcases U1 h.wm h.out0 hE hk with⟨q,_,_,e1,_⟩|⟨_,_,e1,_⟩|⟨_,q,l,_,e1,e2,⟨k5,q1,q2⟩|⟨k6,q1,q2⟩⟩
 ·rw[e1]at hn;exact absurd rfl hn
 ·rw[e1]at hn;exact absurd rfl hn
 ·refine⟨_,l,e2,?_,?_⟩
  ·show q.2.2.2.2=_
   rw[q1,Nh k5];rcases Ky hb.book.1.2 hE.be (hE.wt k5)with⟨h1,h2,_⟩|⟨h1,h2⟩
   ·rw[Nh h1,h2]
   ·rw[Nf h1,h2]
  ·intro hne
   have hne:q.2.2.2.2≠0:=hne;rw[q1]at hne;rw[q2];rcases Ky hb.book.1.2 hE.be (hE.wt k5)with⟨h1,h2,_⟩|⟨h1,h2⟩
   ·exact absurd h2 hne
   ·rw[h2]
 ·refine⟨_,l,e2,?_,fun hne=>by rw[q2 hne]⟩
  show q.2.2.2.2=_;rw[q1,Nf (by omega)]
  by_cases hs:aA s.bef.liv s.ev.be=1\/aA s.bef.liv s.ev.be=2
  ·rw[Au hb.Gv hs,Nf (by omega),Nf (by omega)]
  ·rw[DK hb.Gv hs hb.book.1.2.1]
   have h5:aA s.bef.liv s.ev.be=0\/aA s.bef.liv s.ev.be=3\/aA s.bef.liv s.ev.be=4:=by
    rcases qM s.bef.liv s.ev.be with⟨hm,_⟩|⟨_,e⟩
    ·have:=(hb.lf hm).2
     have e:aA s.bef.liv s.ev.be=(aq s.bef.liv s.ev.be).2.1:=rfl;omega
    ·exact Nt (by show(aq s.bef.liv s.ev.be).2.1=0;rw[e])
   show(if aA s.bef.liv s.ev.be=3 then 12 else 8)=_;rcases h5 with h5|h5|h5 <;> simp[h5]
end
abbrev Ve:List Value:=[MF ME 0,MF ME 0,MF ME 0,MF ME 0,M3 Nb,MF ME 0,MF ME 0,MF ME 0,MF ME 0,MF ME 0,MF ME 0,MF ME 0,MF ME 0,MF ME 0,MF ME 0,MF ME 0,MF ME 0,MF ME 0,MF ME 0,MF ME 0,MF ME 0,MF ME 0,MF ME 0,MF ME 0,MF ME 0,MG MH 0 0,MG MH 0 0,MG MH 0 0,MG MH 0 0,MG MH 0 0,MG MH 0 0,MF ME 0,MF ME 0,MG MH 0 0,MF ME 0,MF ME 0,MF ME 0,MF ME 0,MF ME 0,MF ME 0,MF ME 0,MF ME 0,MF ME 0,MF ME 0,MF ME 0,MF ME 0,MF ME 0,MF ME 0,MF ME 0,MF ME 0,MF ME 0,MG MH 0 0,MG MH 0 0,MG MH 0 0,MG MH 0 0,MG MH 0 0,MG MH 0 0,MF ME 0,MF ME 0,MG MH 0 0,MG MH 0 0]
theorem U9:(Tryz.prog.info? 72).map (·.size)=MI 61:=by kernel_rfl
theorem Jz.Gm{base:Nat}{g:Nat}{V:Pv}{P:Py}(h:Jz base w g V c P):w.cell? ⟨g,16,MH⟩=MI (MG V.ps P.steps.length V.cs):=by
 rw[MW w g 16 _ _ (0,0) h.box,h.steps];rfl
structure U2(W:MO)(ps:Option Oc)(k:Nat)(q:Sq)(b o:Nat):Prop where
 at_:ps=MI ⟨b,o,MH⟩
 cells:W.rangeAt b (o+k*61) (JU q)
 rd:Kh W q
theorem JD.step{W:MO}{g:Nat}{V:Pv}{P:Py}(h:JD w W g V c P){k:Nat}(hk:k<P.steps.length):∃q b o,U2 W V.ps k q b o/\P.steps[k]?=MI q.s/\JM c q.s:=by
 have hl:=h.pat.steps;have hkq:k<V.qs.length:=by omega
 have hrv:bj JU W (MG V.ps V.qs.length V.cs) V.qs:=gZ h.pat.rows;obtain⟨a,cap,hv,_,_,hp⟩:=bj.F6 LV hrv;injection hv with q1 _ _;obtain⟨b,o,ha,hb,hc⟩:=hp k hkq;have e:P.steps[k]?=MI V.qs[k].s:=by rw[<-h.pat.eqs,List.getElem?_map,MR hkq];rfl
 refine⟨V.qs[k],b,o,⟨q1.trans ha,fun j v hv=>?_,(h.pat.all _ (Nk hkq)).now⟩,e,h.rn.runs.chain _ (List.mem_of_getElem? e)⟩;have hj:j<61:=(List.getElem?_eq_some_iff.1 hv).1;rw[hc j hj];exact hv
structure U3(W:MO)(b:Nat)(q:Sq):Prop where
 box:W.heap[b]?=MI (MP (JU q).toArray 72 (0,0))
 rd:Kh W q
theorem Kh.below{W Y:MO}{q:Sq}(h:Kh W q)(hb:MQ W.heap.size W Y):Kh Y q:=⟨h.1.below hb,h.2.1.below hb,h.2.2.below hb⟩
theorem U3.on{W Y:MO}{b:Nat}{q:Sq}(h:U3 W b q)(hb:MQ W.heap.size W Y):U3 Y b q:=⟨af h.box hb,h.rd.below hb⟩
theorem Vd(q:Sq):(JU q).toArray.all (·.oneCell')=true:=by
 apply all_oneCell_toArray;exact LU q
theorem U2.box{W:MO}{ps:Option Oc}{k:Nat}{q:Sq}{b o:Nat}(h:U2 W ps k q b o):∃Y,Y=(W.alloc (MP Ve.toArray 72)).setCells W.heap.size 0 (JU q)/\U3 Y W.heap.size q/\MQ W.heap.size W Y/\(W.alloc (MP Ve.toArray 72)).there W.heap.size 0 (JU q).toArray.size:=by
 have hZ:(W.alloc (MP Ve.toArray 72)).heap[W.heap.size]?=MI (MP Ve.toArray 72 (0,0)):=M1 _ _;have hB:MQ W.heap.size W ((W.alloc (MP Ve.toArray 72)).setCells W.heap.size 0 (JU q)):=tW (ai W) (Nat.le_refl _) _ _ (by simp);exact⟨_,rfl,⟨KM hZ rfl,h.rd.below hB⟩,hB,(show(W.alloc (MP Ve.toArray 72)).there W.heap.size 0 (JU q).toArray.size from sF (old:=Ve) hZ)⟩
theorem U3.F7{W:MO}{b:Nat}{q:Sq}(h:U3 W b q)(j:Nat):W.cell? ⟨b,j,MH⟩=(JU q)[j]?:=by
 rw[MW W b j _ _ (0,0) h.box];simp
theorem Vc(f:Nat->Int)(hf:∀i,i<16->(Lit.int ME (f i)).wf=Nw)(ds:List Dd)(hds:∀d∈ds,Kg d){pd:Option Oc}{cd:Nat}(hrow:bj Ka w (MG pd ds.length cd) ds)(hblk:aK w)(most:Nat)(hm:most<=100):
  ∃L:List Value,L.length=16/\BD (f 0) (f 1) (f 2) (f 3) (f 4) (f 5) (f 6) (f 7) (f 8) (f 9) (f 10) (f 11) (f 12) (f 13) (f 14) (f 15)=Ny L.toArray/\∀W,MQ w.heap.size w W->Calls MK 18 #[Ny L.toArray,MG pd ds.length cd,MF ME (most:Int)] W (Lq f most W):=
 ⟨[MF ME (f 0),MF ME (f 1),MF ME (f 2),MF ME (f 3),MF ME (f 4),MF ME (f 5),MF ME (f 6),MF ME (f 7),MF ME (f 8),MF ME (f 9),MF ME (f 10),MF ME (f 11),MF ME (f 12),MF ME (f 13),MF ME (f 14),MF ME (f 15)],rfl,rfl,fun W hB=>L6 f hf ds hds W (hrow.below hB) (hblk.below hB) most hm⟩
theorem Va{W:MO}{p:Option Oc}{c:Nat}{L:List Ou}(h:bj gT W (MG p L.length c) L){i:Nat}(hi:i<L.length) :
  ∃b o,p=MI ⟨b,o,MH⟩/\W.cell? ⟨b,o+i*7,MH⟩=MI (MF ME L[i].kind)/\W.cell? ⟨b,o+i*7+1,MH⟩=MI (MF ME L[i].slot)/\W.cell? ⟨b,o+i*7+2,MH⟩=MI (MF ME L[i].gen)/\W.cell? ⟨b,o+i*7+3,MH⟩=MI (MF ME L[i].be)/\W.cell? ⟨b,o+i*7+4,MH⟩=MI (MF ME L[i].req)/\W.cell? ⟨b,o+i*7+5,MH⟩=MI (MF ME L[i].code)/\W.cell? ⟨b,o+i*7+6,MH⟩=MI (MF ME L[i].why):=by
 obtain⟨a,cap,hv,_,_,hp⟩:=bj.F6 Bq h;injection hv with q1 _ _;obtain⟨b,o,ha,_,hc⟩:=hp i hi;exact⟨b,o,q1.trans ha,hc 0 (by omega),hc 1 (by omega),hc 2 (by omega),hc 3 (by omega),hc 4 (by omega),hc 5 (by omega),hc 6 (by omega)⟩
theorem Vb{W:MO}{p:Option Oc}{c:Nat}{L l:List Ou}{x:Ou}(h:bj gT W (MG p L.length c) L)(e:L=x::l) :
  ∃b o,p=MI ⟨b,o,MH⟩/\W.cell? ⟨b,o,MH⟩=MI (MF ME x.kind)/\W.cell? ⟨b,o+1,MH⟩=MI (MF ME x.slot)/\W.cell? ⟨b,o+2,MH⟩=MI (MF ME x.gen)/\W.cell? ⟨b,o+3,MH⟩=MI (MF ME x.be)/\W.cell? ⟨b,o+4,MH⟩=MI (MF ME x.req)/\W.cell? ⟨b,o+5,MH⟩=MI (MF ME x.code)/\W.cell? ⟨b,o+6,MH⟩=MI (MF ME x.why):=by
 subst e;obtain⟨b,o,h1,h2⟩:=Va h (i:=0) (Nat.succ_pos _);simp only[Nat.zero_mul,Nat.add_zero,List.getElem_cons_zero]at h2;exact⟨b,o,h1,h2⟩
theorem Vf{L:List FV}{b:Int}{k:Nat}(hk:k<L.length)(h:∀t∈L.take k,t.1≠b)(e:L[k].1=b):aA L b=L[k].2.1:=by
 unfold aA aq;have:L.find? (fun x=>x.1 == b)=MI L[k]:=by
  rw[List.find?_eq_some_iff_getElem];refine⟨by simpa using e,k,hk,rfl,fun j hj=>?_⟩;have:=h L[j] (List.mem_iff_getElem.2 ⟨j,by simp;omega,by simp⟩)
  simpa using this
 rw[this];rfl
theorem Vg{L:List FV}{b:Int}(h:∀t∈L,t.1≠b):aA L b=0:=by
 show(aq L b).2.1=0;rw[tP h]
theorem Vh{W:MO}{M:List Value}{U:Us}{G:Gt}(hM:M=(ef U G).toList)(h:aF W U G)(b:Int):Calls MK 20 #[Ny M.toArray,MF ME b] W fun r w'=>r=Ending.returned (MF ME (aA G.liv b))/\MQ W.heap.size W w':=by
 obtain⟨Y,hY⟩:∃Y,Y=W.alloc (MP M.toArray 49):=⟨_,rfl⟩;have hYb:MQ W.heap.size W Y:=by rw[hY];exact ai W
 have hYx:Y.heap[W.heap.size]?=MI (MP M.toArray 49 (0,0)):=by rw[hY];exact M1 _ _
 have c19:Y.cell? ⟨W.heap.size,19,MH⟩=MI (MG U.pl G.liv.length U.cl):=by rw[MW Y _ 19 _ _ (0,0) hYx,hM];rfl
 obtain⟨a,cap,hv,hca,hmx,hp⟩:=jH.F6 (h.book.1.below hYb);injection hv with q1 q2 q3;obtain⟨m,hm⟩:∃m,m=G.liv.length:=⟨_,rfl⟩;rw[<-hm]at c19;have hmb:m<=9223372036854775807:=by rw[hm];unfold maxLen at hmx;omega
 obtain⟨s,hs⟩:∃s,s=aA G.liv b:=⟨_,rfl⟩;rw[<-hs];have HP:M6 (_/\_/\_/\_/\_):=⟨hp,q1,hm,hYb,hs⟩;clear hYx hp q1 q2 q3 hm hmx hca h hM hYb hs;go_enter Tryz.func20,Tryz.ntmps20;go_wp2;rw[<-hY];clear hY
 go_loopw [5] (fun i wr=>∃k:Nat,i=MF ME (k:Int)/\k<=m/\M6 (∀t∈G.liv.take k,t.1≠b)/\wr=Y) (fun i _=>m-(intOf i).toNat)
 case atStart=>exact⟨0,rfl,Nx _,(fun t ht=>absurd ht (by simp)),rfl⟩
 case round =>
  obtain⟨k,rfl,hk,HA,rfl⟩:=hrel
  by_cases hlt:k<m
  ·have hkI:(k:Int)<(m:Int):=by omega
   have hkl:k<G.liv.length:=by rw[<-HP.out.2.2.1];exact hlt
   obtain⟨bo,oo,ha,hb,hc⟩:=HP.out.1 k hkl;have e0:wr.cell? ⟨bo,oo+k*6,MH⟩=MI (MF ME G.liv[k].1):=hc.1;have e1:wr.cell? ⟨bo,oo+k*6+1,MH⟩=MI (MF ME G.liv[k].2.1):=hc.2.1;have htk:G.liv.take (k+1)=G.liv.take k++[G.liv[k]]:=List.take_succ_eq_append_getElem hkl;have hfd:=fun e=>Vf hkl HA.out e
   obtain⟨x,hx⟩:∃x,x=G.liv[k]:=⟨_,rfl⟩;rw[<-hx]at e0 e1 htk hfd;rw[HP.out.2.1,ha]at c19;have HX:M6 (_/\_):=⟨htk,hfd⟩;clear hc hb ha hkl hx htk hfd
   by_cases hq:x.1=b
   ·have hq':(x.1 == b)=true:=by simp[hq]
    have HE:M6 (s=x.2.1):=HP.out.2.2.2.2.trans (HX.out.2 hq);clear hq;go_wp2;go_ret;exact⟨by rw[HE.out];rfl,HP.out.2.2.2.1⟩
   ·have hq':(x.1 == b)=false:=by simp[hq]
    go_wp2
    go_roundw
    case rel =>
     refine⟨k+1,by simp,hlt,?_,trivial⟩;intro t ht;rw[HX.out.1]at ht;rcases List.mem_append.1 ht with ht|ht
     ·exact HA.out t ht
     ·rw[List.mem_singleton.1 ht];exact hq
    case measure=>simp[intOf];omega
  ·obtain rfl:k=m:=by omega
   have hkI:¬(k:Int)<(k:Int):=by omega
   have HE:M6 (s=0):=HP.out.2.2.2.2.trans (Vg fun t ht=>HA.out t (by rw[HP.out.2.2.1,List.take_length];exact ht));go_wp2;go_ret;exact⟨by rw[HE.out];rfl,HP.out.2.2.2.1⟩
theorem Vj{P:Program}{ops:Array Oper}{rest:List Oper}{op:Oper}{a:Act}{Q:Exit->Act->MO->Prop}(hw:Region.wanted op (yielded ops a.tmps)=Nw)(ty:TypeId)(x:Operand)(ho:op.op=.load ty x)
  (b o:Nat) (hx:a.eval x=Value.pointer (MI ⟨b,o,MH⟩)) (cs:List Value) (d:TypeDesc) (hc:w.rangeAt b o cs) (hu:P.underlying ty=MI d) (hd:d.isRow=Nw) (hi:(P.info? ty).map (·.size)=MI cs.length)
  (h:wpList P ops Q rest (a.put op.dst (Ny cs.toArray)) w):wpList P ops Q (op::rest) a w :=
 wpList_step fun _ hK=>by
  rw[Nh hw];exact wp_load_mid ty x ho b o hx cs d hc hu hd hi (hK _ _ h)
theorem U3.Vm{W:MO}{b:Nat}{q:Sq}(h:U3 W b q):W.rangeAt b 8 (ef q.u q.s.bef).toList:=fun j v hv=>by
 have hj:j<26:=(List.getElem?_eq_some_iff.1 hv).1;rw[h.F7 (8+j)];unfold JU;rw[Tw (show 8<=8+j by omega),show 8+j-(JN q.s.ev).length=j from Vo 8 j,OJ (show j<26 from hj)];exact hv
theorem U3.Vl{W:MO}{b:Nat}{q:Sq}(h:U3 W b q):W.rangeAt b 34 (ef q.v q.s.aft).toList:=fun j v hv=>by
 have hj:j<26:=(List.getElem?_eq_some_iff.1 hv).1;rw[h.F7 (34+j)];unfold JU;rw[<-List.append_assoc,Tw (show 34<=34+j by omega),show 34+j-(JN q.s.ev++(ef q.u q.s.bef).toList).length=j from Vo 34 j,OJ (show j<26 from hj)];exact hv
theorem U4{s:Sp}(h:JM c s)(hk:UZ s.ev)(hn:s.aft.req.length≠s.bef.req.length):∃a d o l,a=aA s.bef.liv s.ev.be/\d=aA s.aft.liv s.ev.be/\s.out=o::l /\
  ((s.ev.kind=5/\(a=0\/a=4)/\o.code=0)\/(s.ev.kind=5/\(a != 0)=Nw/\(a != 4)=Nw/\o.code=7/\d=a)\/(s.ev.kind=6/\(a=0\/a=4)/\o.code=8/\d=a)\/(s.ev.kind=6/\a=3/\o.code=12/\d=a)\/(s.ev.kind=6/\(a == 0)=Nb/\(a == 4)=Nb/\(a == 3)=Nb/\o.code=0)):=by
 obtain⟨o,l,h1,h2,h3⟩:=h.Vk hk hn;obtain⟨a,ha⟩:∃a,a=aA s.bef.liv s.ev.be:=⟨_,rfl⟩;refine⟨a,_,o,l,ha,rfl,h1,?_⟩;rw[<-ha]at h2 h3;rcases hk with k|k
 ·rw[Nh k]at h2
  by_cases h:a=0\/a=4
  ·rw[Nh h]at h2;exact Nt ⟨k,h,h2⟩
  ·rw[Nf h]at h2;exact NF (Nt ⟨k,by simp;omega,by simp;omega,h2,h3 (by omega)⟩)
 ·rw[Nf (by omega)]at h2
  by_cases h:a=0\/a=4
  ·rw[Nh h]at h2;exact NF (NF (Nt ⟨k,h,h2,h3 (by omega)⟩))
  ·rw[Nf h]at h2
   by_cases h':a=3
   ·rw[Nh h']at h2;exact NF (NF (NF (Nt ⟨k,h',h2,h3 (by omega)⟩)))
   ·rw[Nf h']at h2;exact NF (NF (NF (NF ⟨k,by simp;omega,by simp;omega,by simp;omega,h2⟩)))
theorem Vi(f:Nat->Int)(hf:∀i,i<16->(Lit.int ME (f i)).wf=Nw)(ds:List Dd)(hds:∀d∈ds,Kg d){pd:Option Oc}{cd:Nat}(hrow:bj Ka w (MG pd ds.length cd) ds)(hB:aK w):
  Calls MK 8 #[BD (f 0) (f 1) (f 2) (f 3) (f 4) (f 5) (f 6) (f 7) (f 8) (f 9) (f 10) (f 11) (f 12) (f 13) (f 14) (f 15),MG pd ds.length cd] w fun r w'=>r=Ending.returned (M3 Nw)/\MQ w.heap.size w w':=by
 obtain⟨L,hL,eL,hpl⟩:=Vc f hf ds hds hrow hB 60 (by omega);rw[eL];obtain⟨W0,hW0⟩:∃W0,W0=w.alloc (MP L.toArray 24):=⟨_,rfl⟩;have hb0:MQ w.heap.size w W0:=by rw[hW0];exact ai w
 have HI:M6 (_/\_/\_):=⟨hL,hb0,hpl W0 hb0⟩;obtain⟨nd,hnd⟩:∃nd,nd=ds.length:=⟨_,rfl⟩;rw[<-hnd]at HI⊢;clear hL eL hpl hb0 hf hds hrow hB hnd;go_enter Tryz.func8,Tryz.ntmps8
 go_wp2_with ((with_reducible refine O3 rfl 24 (O6 2) rfl w.heap.size 0 ?gx L _ ?gc Tryz.underlying24 ?gd ?gi ?_);(case gx=>rfl);(case gc=>exact J8 (M1 _ _));(case gd=>rfl);(case gi=>rw[HI.out.1];exact K0))
 rw[<-hW0];clear hW0;refine Calls.mono HI.out.2.2 ?_;rintro r w1 ⟨g,V,c,P,rfl,hS,hcx,hn4,hnm,hk3⟩;obtain⟨n,hn⟩:∃n,n=P.steps.length:=⟨_,rfl⟩;have HS:M6 (_/\_/\_/\_/\_):=⟨hS,hcx,hn,(show n<=60+4 by omega),hk3⟩;have hB1:=HI.out.2.1.trans (hS.bel.mono HI.out.2.1.size);have HB:M6 _:=hB1;clear hS hcx hn4 hnm hk3 hn HI hB1
 go_wp2_with fail
 go_loopw [7,8,9,10] (fun i _ _ _ wr=>∃k:Nat,i=MF ME (k:Int)/\k<=n/\M6 (MQ w1.heap.size w1 wr)) (fun i _ _ _ _=>n-(intOf i).toNat)
 case atStart=>exact⟨0,rfl,Nx _,RowKit.Below.refl _ _⟩
 case round =>
  obtain⟨k,rfl,hk,HW⟩:=hrel;have hSr:=HS.out.1.on HW.out;have c16:wr.cell? ⟨g,16,MH⟩=MI (MG V.ps n V.cs):=by rw[HS.out.2.2.1];exact hSr.pat.Gm
  have hgl:=hSr.pat.lt
  by_cases hlt:k<n
  ·have hkI:(k:Int)<(n:Int):=by omega
   have hnb:n<=9223372036854775807:=by have:=HS.out.2.2.2.1;omega
   obtain⟨q,b,o,hq,hst,hok⟩:=hSr.step (k:=k) (by rw[<-HS.out.2.2.1];exact hlt);obtain⟨Y,hY,hSB,hYb,hth⟩:=hq.box;obtain⟨R,hR⟩:∃R,R=JU q:=⟨_,rfl⟩;have hat:=hq.at_;have y0:Y.cell? ⟨wr.heap.size,0,MH⟩=MI (MF ME q.s.ev.kind):=(hSB.F7 0).trans rfl;have y6:Y.cell? ⟨wr.heap.size,6,MH⟩=MI (MF ME q.s.ev.be):=(hSB.F7 6).trans rfl;have y28:Y.cell? ⟨wr.heap.size,28,MH⟩=MI (MG q.u.pr q.s.bef.req.length q.u.cr):=(hSB.F7 28).trans rfl;have y54:Y.cell? ⟨wr.heap.size,54,MH⟩=MI (MG q.v.pr q.s.aft.req.length q.v.cr):=(hSB.F7 54).trans rfl;have y60:Y.cell? ⟨wr.heap.size,60,MH⟩=MI (MG q.po q.s.out.length q.co):=(hSB.F7 60).trans rfl;have hcs:=hq.cells;rw[<-hR]at hY hth hcs;have HQ:M6 (_/\_/\_/\_/\_/\_):=⟨hcs,hth,hY,hR,HW.out.trans (hYb.mono HW.out.size),(show R.length=61 by rw[hR];rfl)⟩;have HT:M6 (_/\_/\_/\_):=⟨hst,hok,hSB,hYb⟩;clear hq hst hok hY hSB hYb hth hR hcs;rw[hat]at c16;clear hat
   have hcs:((q.s.ev.kind != 5)=Nw/\(q.s.ev.kind != 6)=Nw)\/((q.s.ev.kind=5\/q.s.ev.kind=6)/\((q.s.aft.req.length:Int) == (q.s.bef.req.length:Int))=Nw)\/(((q.s.aft.req.length:Int) == (q.s.bef.req.length:Int))=Nb/\UZ q.s.ev/\q.s.aft.req.length≠q.s.bef.req.length):=by
    by_cases ha:UZ q.s.ev
    ·by_cases hl:q.s.aft.req.length=q.s.bef.req.length
     ·exact NF (Nt ⟨ha,by simp[hl]⟩)
     ·exact NF (NF ⟨by simp;omega,ha,hl⟩)
    ·exact Nt ⟨by simp;exact fun h=>ha (Nt h),by simp;exact fun h=>ha (NF h)⟩
   obtain⟨e,he⟩:∃e,e=q.s.ev.kind:=⟨_,rfl⟩;obtain⟨be,hbe⟩:∃e,e=q.s.ev.be:=⟨_,rfl⟩;obtain⟨M,hM⟩:∃M,M=(ef q.u q.s.bef).toList:=⟨_,rfl⟩;obtain⟨M2,hM2⟩:∃M,M=(ef q.v q.s.aft).toList:=⟨_,rfl⟩;have hG1:=Vh hM HT.out.2.2.1.rd.1 be;have hR8:=HT.out.2.2.1.Vm;rw[<-hM]at hR8;have HG:M6 (_/\_/\_/\_):=⟨hR8,hG1,(show M2.length=26 by rw[hM2];rfl),(show M.length=26 by rw[hM];rfl)⟩;have hYl:wr.heap.size<Y.heap.size:=(Array.getElem?_eq_some_iff.1 HT.out.2.2.1.box).1;rw[<-he]at hcs y0;rw[<-hbe]at y6;clear hSr hG1 hR8;rcases hcs with⟨v5,v6⟩|⟨h5|h5,hle⟩|⟨hle,ha,hl⟩
   case' inr.inr =>
    obtain⟨a,d,x,l,ea,ed,hx,hD⟩:=U4 HT.out.2.1 ha hl;obtain⟨nl,hnl⟩:∃nl,nl=q.s.out.length:=⟨_,rfl⟩;have hn0:((nl:Int) == 0)=false:=by rw[hnl,hx];simp <;> omega
    have hn1:(0:Int)<(nl:Int):=by rw[hnl,hx];simp <;> omega
    have HE:M6 (_/\_/\_/\_/\_/\_/\_):=⟨ea,ed,hx,hnl,hM2,hbe,he⟩;rw[<-he]at hD;clear ea ed hx hnl ha hl hM2 hbe he hM;rcases hD with⟨h5,h0|h0,hc⟩|⟨h5,v0,v4,hc,h2⟩|⟨h5,h0|h0,hc,h2⟩|⟨h5,h0,hc,h2⟩|⟨h5,v0,v4,v3,hc⟩
    all_goals
     subst h5
     go_wp2_with (first|((with_reducible refine O3 rfl 72 (O6 31) rfl b (o+k*61) ?gx R _ ?gc Vp ?gd ?gi ?_);(case gx=>rfl);(case gc=>exact HQ.out.1);(case gd=>rfl);(case gi=>rw[HQ.out.2.2.2.2.2];exact U9))|((with_reducible refine OW rfl 72 (O6 8) (O6 32) rfl wr.heap.size 0 R.toArray ?sx ?sy ?st ?si ?s1 ?_);(case sx=>rfl);(case sy=>rfl);(case st=>exact HQ.out.2.1);(case si=>rw[OQ,HQ.out.2.2.2.2.2];exact U9);(case s1=>rw[HQ.out.2.2.2.1];exact Vd q);rw[NS,<-HQ.out.2.2.1])|((with_reducible refine O3 rfl 49 (O6 56) rfl wr.heap.size 8 ?gx M _ ?gc OX ?gd ?gi ?_);(case gx=>rfl);(case gc=>exact HG.out.1);(case gd=>rfl);(case gi=>rw[HG.out.2.2.2];exact iN)))
     refine Calls.mono HG.out.2.1 ?_;rintro r w5 ⟨rfl,hb5⟩;have hSB5:=HT.out.2.2.1.on hb5;have hl8:wr.heap.size<w5.heap.size:=(Array.getElem?_eq_some_iff.1 hSB5.box).1;have z0:w5.cell? ⟨wr.heap.size,0,MH⟩=MI (MF ME q.s.ev.kind):=(hSB5.F7 0).trans rfl;have z6:w5.cell? ⟨wr.heap.size,6,MH⟩=MI (MF ME q.s.ev.be):=(hSB5.F7 6).trans rfl;have z60:w5.cell? ⟨wr.heap.size,60,MH⟩=MI (MG q.po q.s.out.length q.co):=(hSB5.F7 60).trans rfl;obtain⟨bo,oo,hpo,u0,_,_,_,_,u5,_⟩:=Vb hSB5.rd.2.2 HE.out.2.2.1;have hbo:bo<w5.heap.size:=World.block_lt_of_cell? w5 ⟨bo,oo,MH⟩ u0;rw[<-HE.out.2.2.2.2.2.2]at z0;rw[<-HE.out.2.2.2.2.2.1]at z6;rw[hpo,<-HE.out.2.2.2.1]at z60;rw[hc]at u5;have hR34:w5.rangeAt wr.heap.size 34 M2:=by rw[HE.out.2.2.2.2.1];exact hSB5.Vl
     have hG2:=Vh HE.out.2.2.2.2.1 hSB5.rd.2.1 be;rw[show aA q.s.aft.liv be=d by rw[HE.out.2.2.2.2.2.1];exact HE.out.2.1.symm]at hG2;rw[show aA q.s.bef.liv be=a by rw[HE.out.2.2.2.2.2.1];exact HE.out.1.symm];have hss:(a != a)=false:=by simp
     try rw[h2]at hG2
     have HO:M6 (_/\_/\_):=⟨hR34,hG2,HQ.out.2.2.2.2.1.trans (hb5.mono HQ.out.2.2.2.2.1.size)⟩;clear hSB5 hR34 hG2 hpo hc y0 y6 y28 y54 y60 c16 hgl hYl hle u0 hb5
     try clear h2
     try subst h0
     go_wp2_with ((with_reducible refine Vj ?gw 49 (O6 110) rfl wr.heap.size 34 ?gx M2 _ ?gc OX ?gd ?gi ?_);(case gw=>rfl);(case gx=>rfl);(case gc=>exact HO.out.1);(case gd=>rfl);(case gi=>rw[HG.out.2.2.1];exact iN))
     try
      refine Calls.mono HO.out.2.1 ?_;rintro r w6 ⟨rfl,hb6⟩;have HP:M6 _:=HO.out.2.2.trans (hb6.mono HO.out.2.2.size);clear hb6;go_wp2
     go_roundw
     case rel=>exact⟨k+1,by simp,hlt,by first|exact HP|exact HO.out.2.2⟩
     case measure=>simp[intOf];omega
   all_goals
    try subst h5
    clear HG HT hYl
    go_wp2_with (first|((with_reducible refine O3 rfl 72 (O6 31) rfl b (o+k*61) ?gx R _ ?gc Vp ?gd ?gi ?_);(case gx=>rfl);(case gc=>exact HQ.out.1);(case gd=>rfl);(case gi=>rw[HQ.out.2.2.2.2.2];exact U9))|((with_reducible refine OW rfl 72 (O6 8) (O6 32) rfl wr.heap.size 0 R.toArray ?sx ?sy ?st ?si ?s1 ?_);(case sx=>rfl);(case sy=>rfl);(case st=>exact HQ.out.2.1);(case si=>rw[OQ,HQ.out.2.2.2.2.2];exact U9);(case s1=>rw[HQ.out.2.2.2.1];exact Vd q);rw[NS,<-HQ.out.2.2.1]))
    go_roundw
    case rel=>exact⟨k+1,by simp,hlt,HQ.out.2.2.2.2.1⟩
    case measure=>simp[intOf];omega
  ·obtain rfl:k=n:=by omega
   have hkI:¬(k:Int)<(k:Int):=by omega
   go_wp2;go_ret;exact⟨rfl,HB.out.trans (HW.out.mono HB.out.size)⟩
end Go.Proofs.YtinbndbjlgoghaaGreatDoor.Q
