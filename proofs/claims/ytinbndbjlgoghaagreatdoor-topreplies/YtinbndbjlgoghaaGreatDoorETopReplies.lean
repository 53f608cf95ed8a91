/-
  TopReplies: its walk. Conditions: as each theorem says.
-/
import Derived.Test.YtinbndbjlgoghaaGreatDoorQ20
open Bool renaming false->Nb,true->Nw
open Go renaming Addr->Oc,World->MO,cell_of_row->MW,heap_alloc_new->M1,wpList_load_mid->O3,wpList_store_mid->OW,wpQuiet_nil->Oy
open Go.IntKind renaming i64->ME
open Go.Obj renaming cells->MP
open Go.Operand renaming tmp->O6
open Go.Proofs.Tryz renaming func231->R2,prog->MK,underlying72->Vk
open Go.RowKit renaming Below->MQ,Hid->M6
open Go.RowKit.Below renaming refl->MY
open Go.Value renaming agg->Ny,bool->M3,int->MF,slice->MG
open Go.World renaming block_lt_of_cell?->MX
open List renaming findIdx_getElem->Vj,getElem?_append_left->OJ,getElem?_eq_getElem->MR,getElem_mem->Nk,getElem_of_mem->NV,mem_of_getElem?->Nu,size_toArray->OQ,toList_toArray->NS
open Nat renaming le_refl->MV,zero_le->Nx
open Option renaming none->MH,some->MI
open Or renaming inl->Nt,inr->NF
namespace Go.Proofs.YtinbndbjlgoghaaGreatDoor.Q
set_option linter.unusedVariables false
set_option linter.unusedSimpArgs false
set_option maxHeartbeats 16000000
set_option maxRecDepth 100000
open Go.RowKit
attribute [local go_sem ↓] Go.wp_at_zero Go.wp_at_succ
variable {w:MO}
section
variable {G:Gt}{c:Cf}
theorem U1(hb:bX G.liv G.req)(b:Int):(cj G b).req=G.req:=by
 unfold cj
 split
 ·rename_i h
  show(eL G.liv G.req b).1.2=G.req;rw[(vD hb h.1).1]
 ·rfl
theorem U4(hm:Wm G){e:Ev}(he:fB e)(h7:e.kind=7->G.now+1<=1099511626776)(h5:e.kind≠5)(h6:e.kind≠6):(iG G e).req=G.req:=by
 have hb:=hm.im.bs;have hend:∀(X:Gt) (f:Fl) (k y:Int),Bs X->f∈X.fls->(dn X f k y).req=X.req:=fun X f k y hX hf=>U1 (G:=ge {X with tab:=(ed X.tab f.slot f.gen).1,fls:=bO X.fls f.slot f.gen,tms:=fun t=>X.tms t/\t.2≠f.slot} ⟨k,f.slot,f.gen,f.be,0,0,y⟩) hX.book _
 have hfail:∀(X:Gt) (i:Nat) (y:Int),Bs X->i<X.fls.length->(dP X i y).req=X.req:=fun X i y hX hi=>by
  have b4:=(hX.F9 (Nk hi)).2.2.2;rcases pI hX hi y with⟨z,q,hz⟩|⟨b,q,hd,hr,h2,hc,_⟩
  ·rw[q];exact hend (dg X X.fls[i].be Nw) _ _ _ (hX.GA b4 Nw) (Nk hi)
  ·obtain⟨T,e⟩:=KA (G:={dg X X.fls[i].be Nw with tok:=X.tok-X.cfg.bd}) hi b
   rw[q,e];exact U1 (G:=ge {dg X X.fls[i].be Nw with tok:=X.tok-X.cfg.bd,tab:=(db X.tab X.fls[i].slot X.fls[i].gen b).1,fls:=X.fls.set i {X.fls[i]with be:=b,ret:=X.fls[i].ret+1,due:=X.now+X.cfg.conn},tms:=T} ⟨5,X.fls[i].slot,X.fls[i].gen,b,0,0,0⟩) hX.book _
 unfold iG
 split
 ·rcases J7 hb he.key with⟨q,_⟩|⟨q,_⟩|⟨k,hlt,_,_,hc,_,_,hg,_,q⟩ <;> (rw[q];rfl)
 ·split
  ·rename_i k7
   refine KG (R:=fun X=>X.req=G.req) hm (h7 k7) ?_ (fun X f y hX hf hy hR=>(hend X f 6 y hX.bs hf).trans hR) (fun X i hX hi hv hR=>(hfail X i 5 hX.bs hi).trans hR);show(eE {G with now:=G.now+1}).req=G.req;rw[nf (hb.next (h7 k7))];exact(qH _ _).2.2.2.2.2.2.2.2.1
  ·rcases Kt hb e with⟨hc,q⟩|⟨i,hi,_,_,_,⟨_,q⟩|⟨_,q⟩|⟨_,_,⟨_,q⟩|⟨_,_,q⟩|⟨hv,_,q⟩⟩⟩
   ·rw[q];rfl
   ·rw[q];exact hend G _ _ _ hb (Nk hi)
   ·obtain⟨T,e1⟩:=Ku hi
    rw[q,e1];rfl
   ·rw[q];rfl
   ·obtain⟨T,e1⟩:=KC hi
    rw[q,e1];rfl
   ·rw[q];exact hfail G i 3 hb hi
theorem U3(hm:Wm G)(ho:G.out=[]){e:Ev}(he:fB e)(hk:e.kind=5\/e.kind=6) :
  (∃q∈G.req,q.1=e.req/\(iG G e).req=G.req/\(iG G e).out=[⟨8,0,0,0,e.req,q.2.2.2.2,0⟩]) \/
  (G.req.length=100/\(∀q∈G.req,q.1≠e.req)/\(iG G e).req=G.req/\(iG G e).out=[⟨8,0,0,0,e.req,9,0⟩]) \/
  ((∀q∈G.req,q.1≠e.req)/\∃(q:FY) (l:List Ou),q.1=e.req/\(iG G e).req=G.req++[q]/\(iG G e).out=⟨8,0,0,0,e.req,q.2.2.2.2,0⟩::l /\
   ((e.kind=5/\q.2.2.2.2=(gE G.liv e.be e.wt).2/\(iG G e).liv=(gE G.liv e.be e.wt).1) \/
     (e.kind=6/\q.2.2.2.2=(ec G.liv e.be e.req (G.now+G.cfg.drain)).2/\(q.2.2.2.2≠0->(iG G e).liv=G.liv)))):=by
 have hb:=hm.im.bs;have hd:∀X b,∃l,(cj X b).out=X.out++l:=fun X b=>by
  unfold cj
  split
  ·exact⟨_,rfl⟩
  ·exact⟨[],by simp⟩
 rcases hk with hk|hk
 ·have e1:iG G e=fO G 1 e:=by unfold iG;rw[Nf (by omega),Nh hk]
  have e2:(fO G 1 e).out=[⟨8,0,0,0,e.req,(dJ G 1 e).2.1,0⟩]:=by show G.out++[_]=_;rw[ho];rfl
  have e3:(fO G 1 e).req=(dJ G 1 e).1.2:=rfl;rw[e1,e2,e3];have e4:(fO G 1 e).liv=(dJ G 1 e).1.1:=rfl;rw[e4];unfold dJ;rcases AA hb.book (hb.Jd (e:=e) he.req (Nt rfl:(1:Int)=1\/(1:Int)=2))with⟨hlt,q⟩|⟨h1,h2,q⟩|⟨h1,h2,q⟩
  ·refine Nt ⟨_,Nk hlt,?_,by rw[q],by rw[q,MR hlt];rfl⟩
   exact eq_of_beq (Vj (w:=hlt))
  ·exact NF (Nt ⟨h2,h1,by rw[q],by rw[q]⟩)
  ·refine NF (NF ⟨h1,(e.req,1,e.be,e.wt,(gE G.liv e.be e.wt).2),[],rfl,?_,?_,Nt ⟨hk,rfl,?_⟩⟩)
   ·rw[q];unfold eA;rw[Nh rfl]
   ·rw[q];unfold eA;rw[Nh rfl]
   ·rw[q];unfold eA;rw[Nh rfl]
 ·have e1:iG G e=nC G e:=by unfold iG;rw[Nf (by omega),Nf (by omega),Nh hk]
  have e2:(fO G 2 e).out=[⟨8,0,0,0,e.req,(dJ G 2 e).2.1,0⟩]:=by show G.out++[_]=_;rw[ho];rfl
  have hcs:=AA hb.book (hb.Jd (e:=e) he.req (NF rfl:(2:Int)=1\/(2:Int)=2));have hno:(dJ G 2 e).2.2.1=Nb->iG G e=fO G 2 e:=fun h=>by
   rw[e1];unfold nC ja;rw[h,Nh (by simp)]
  rcases hcs with⟨hlt,q⟩|⟨h1,h2,q⟩|⟨h1,h2,q⟩
  ·have hq:dJ G 2 e=_:=q
   refine Nt ⟨_,Nk hlt,?_,by rw[hno (by rw[hq]),show(fO G 2 e).req=(dJ G 2 e).1.2 from rfl,hq],by rw[hno (by rw[hq]),e2,hq,MR hlt];rfl⟩;exact eq_of_beq (Vj (w:=hlt))
  ·have hq:dJ G 2 e=_:=q
   exact NF (Nt ⟨h2,h1,by rw[hno (by rw[hq]),show(fO G 2 e).req=(dJ G 2 e).1.2 from rfl,hq],by rw[hno (by rw[hq]),e2,hq]⟩)
  ·have hq:dJ G 2 e=_:=q
   have hq1:(dJ G 2 e).1.2=G.req++[(e.req,2,e.be,0,(ec G.liv e.be e.req (G.now+G.cfg.drain)).2)]:=by rw[hq];unfold eA;rw[Nf (show ¬(2:Int)=1 by decide)]
   have hq2:(dJ G 2 e).2.1=(ec G.liv e.be e.req (G.now+G.cfg.drain)).2:=by rw[hq];unfold eA;rw[Nf (show ¬(2:Int)=1 by decide)]
   have hbk:=(KY hb.book (hb.Jd (e:=e) he.req (NF rfl:(2:Int)=1\/(2:Int)=2)) hb.since).2.1;have hR:(iG G e).req=(dJ G 2 e).1.2:=by
    rw[e1];unfold nC
    split
    ·rfl
    ·split
     ·rfl
     ·exact U1 (G:={fO G 2 e with wts:=G.wts.set e.be.toNat 0}) hbk _
   have hO:∃l,(iG G e).out=⟨8,0,0,0,e.req,(dJ G 2 e).2.1,0⟩::l:=by
    rw[e1];unfold nC
    split
    ·exact⟨[],e2⟩
    ·split
     ·exact⟨[⟨9,0,0,e.be,e.req,0,0⟩],by show(fO G 2 e).out++[_]=_;rw[e2];rfl⟩
     ·obtain⟨l,h3⟩:=hd {fO G 2 e with wts:=G.wts.set e.be.toNat 0} e.be
      exact⟨l,by rw[h3];show(fO G 2 e).out++_=_;rw[e2];rfl⟩
   obtain⟨l,hO⟩:=hO;rw[hq2]at hO;refine NF (NF ⟨h1,_,l,rfl,hR.trans hq1,hO,NF ⟨hk,rfl,fun hne=>?_⟩⟩);have hne:(ec G.liv e.be e.req (G.now+G.cfg.drain)).2≠0:=hne;have hy:ja G 2 e=false:=by
    unfold ja;rw[hq2];simp[hne]
   rw[e1];unfold nC;rw[Nh hy];rcases Fq hb he.req with⟨_,h3⟩|⟨h3,_⟩
   ·exact h3
   ·rw[hy]at h3;cases h3
end
section
variable {A:Gt}{c:Cf}{P:Py}
theorem U2{R:List FY}(h:R.Pairwise (fun a b=>a.1≠b.1)){p q:FY}(hp:p∈R)(hq:q∈R)(e:p.1=q.1):p=q:=by
 obtain⟨i,hi,rfl⟩:=NV hp;obtain⟨j,hj,rfl⟩:=NV hq;have hr:=List.pairwise_iff_getElem.1 h;rcases Nat.lt_trichotomy i j with hlt|rfl|hlt
 ·exact absurd e (hr i j hi hj hlt)
 ·rfl
 ·exact absurd e.symm (hr j i hj hi hlt)
abbrev U0(e:Ev):Prop:=e.kind=5\/e.kind=6
def UZ(P:Py):Prop:=P.last.req.length<=P.steps.length/\∀s∈P.steps,U0 s.ev->∃(q:FY) (l:List Ou),q∈P.last.req/\q.1=s.ev.req/\s.out=⟨8,0,0,0,s.ev.req,q.2.2.2.2,0⟩::l
theorem Rn.Vi(h:Rn A c P)(h0:A.req=[])(hl:P.steps.length<=100):∀(i:Nat) (s:Sp),P.steps[i]?=MI s->U0 s.ev ->
  (∃o l,s.out=o::l/\o.kind=8/\o.req=s.ev.req)/\∀(k:Nat) (y:Sp),k<i->P.steps[k]?=MI y->U0 y.ev->y.ev.req=s.ev.req->∃o l,s.out=[o]/\y.out=o::l/\s.aft.req.length=s.bef.req.length:=by
 have key:=h.Mw (J:=fun P=>P.steps.length<=100->UZ P/\∀(i:Nat) (s:Sp),P.steps[i]?=MI s->U0 s.ev ->
  (∃o l,s.out=o::l/\o.kind=8/\o.req=s.ev.req)/\∀(k:Nat) (y:Sp),k<i->P.steps[k]?=MI y->U0 y.ev->y.ev.req=s.ev.req->∃o l,s.out=[o]/\y.out=o::l/\s.aft.req.length=s.bef.req.length)
  (fun _=>⟨⟨by show A.req.length<=0;rw[h0];exact MV _,fun s hs=>by cases hs⟩,fun i s hs=>by cases hs⟩) fun Q e hQ he hlt hJ hl=>?_
 ·exact(key hl).2
 have hst:(Q.step e).steps=Q.steps++[⟨e,Q.last,(iG Q.last e).Ma,(iG Q.last e).out⟩]:=rfl;have hlen:(Q.step e).steps.length=Q.steps.length+1:=by rw[hst];simp
 obtain⟨⟨hJ1,hJ2⟩,hJ3⟩:=hJ (by omega);have hm:=hQ.runs.wm;have hn:=hQ.runs.now;have hE:=D5 he;have h7:e.kind=7->Q.last.now+1<=1099511626776:=fun _=>by omega
 have hpre:∃l,(iG Q.last e).req=Q.last.req++l/\l.length<=1:=by
  by_cases hk:U0 e
  ·rcases U3 hm hQ.runs.out hE hk with⟨q,_,_,e1,_⟩|⟨_,_,e1,_⟩|⟨_,q,l,_,e1,_⟩
   ·exact⟨[],by rw[e1];simp,by simp⟩
   ·exact⟨[],by rw[e1];simp,by simp⟩
   ·exact⟨[q],e1,by simp⟩
  ·exact⟨[],by rw[U4 hm hE h7 (fun h=>hk (Nt h)) (fun h=>hk (NF h))];simp,by simp⟩
 obtain⟨l0,hp1,hp2⟩:=hpre;have hnew:U0 e->∃(q:FY) (l:List Ou),q∈(iG Q.last e).req/\q.1=e.req/\(iG Q.last e).out=⟨8,0,0,0,e.req,q.2.2.2.2,0⟩::l:=fun hk=>by
  rcases U3 hm hQ.runs.out hE hk with⟨q,hq,e0,e1,e2⟩|⟨hf,_⟩|⟨_,q,l,e0,e1,e2,_⟩
  ·exact⟨q,[],by rw[e1];exact hq,e0,e2⟩
  ·omega
  ·exact⟨q,l,by rw[e1];simp,e0,e2⟩
 refine⟨⟨?_,fun s hs hk=>?_⟩,fun i s hs hk=>?_⟩
 ·rw[hlen]
  show(iG Q.last e).req.length<=_;rw[hp1,List.length_append];omega
 ·rw[hst]at hs
  rcases List.mem_append.1 hs with hs|hs
  ·obtain⟨q,l,h1,h2,h3⟩:=hJ2 s hs hk
   exact⟨q,l,by show q∈(iG Q.last e).req;rw[hp1];exact List.mem_append_left _ h1,h2,h3⟩
  ·rw[List.mem_singleton]at hs
   subst hs;exact hnew hk
 ·rw[hst]at hs
  have hi:i<Q.steps.length+1:=by have:=(List.getElem?_eq_some_iff.1 hs).1;simpa using this
  by_cases hlt:i<Q.steps.length
  ·rw[OJ hlt]at hs
   refine⟨(hJ3 i s hs hk).1,fun k y hki hy=>?_⟩;rw[hst,OJ (by omega)]at hy;exact(hJ3 i s hs hk).2 k y hki hy
  ·obtain rfl:i=Q.steps.length:=by omega
   rw[List.getElem?_append_right (MV _),Nat.sub_self]at hs;cases hs;obtain⟨q,l,h1,h2,h3⟩:=hnew hk;refine⟨⟨_,l,h3,rfl,rfl⟩,fun k y hki hy hky er=>?_⟩;rw[hst,OJ hki]at hy;obtain⟨q',l',g1,g2,g3⟩:=hJ2 y (Nu hy) hky;have er:y.ev.req=e.req:=er;rcases U3 hm hQ.runs.out hE hk with⟨p,hp,e0,e1,e2⟩|⟨_,hno,_⟩|⟨hno,_⟩
   ·have:p=q':=U2 hm.im.bs.book.2.2.2 hp g1 (by rw[e0,g2,er])
    subst this;rw[er]at g3;exact⟨_,l',e2,g3,by show(iG Q.last e).req.length=Q.last.req.length;rw[e1]⟩
   ·exact absurd (g2.trans er) (hno q' g1)
   ·exact absurd (g2.trans er) (hno q' g1)
end
abbrev Vg:List Value:=[MF ME 0,MF ME 0,MF ME 0,MF ME 0,M3 Nb,MF ME 0,MF ME 0,MF ME 0,MF ME 0,MF ME 0,MF ME 0,MF ME 0,MF ME 0,MF ME 0,MF ME 0,MF ME 0,MF ME 0,MF ME 0,MF ME 0,MF ME 0,MF ME 0,MF ME 0,MF ME 0,MF ME 0,MF ME 0,MG MH 0 0,MG MH 0 0,MG MH 0 0,MG MH 0 0,MG MH 0 0,MG MH 0 0,MF ME 0,MF ME 0,MG MH 0 0,MF ME 0,MF ME 0,MF ME 0,MF ME 0,MF ME 0,MF ME 0,MF ME 0,MF ME 0,MF ME 0,MF ME 0,MF ME 0,MF ME 0,MF ME 0,MF ME 0,MF ME 0,MF ME 0,MF ME 0,MG MH 0 0,MG MH 0 0,MG MH 0 0,MG MH 0 0,MG MH 0 0,MG MH 0 0,MF ME 0,MF ME 0,MG MH 0 0,MG MH 0 0]
theorem Vb:(Tryz.prog.info? 72).map (·.size)=MI 61:=by kernel_rfl
theorem Jz.Gm{base:Nat}{g:Nat}{V:Pv}{c:Cf}{P:Py}(h:Jz base w g V c P):w.cell? ⟨g,16,MH⟩=MI (MG V.ps P.steps.length V.cs):=by
 rw[MW w g 16 _ _ (0,0) h.box,h.steps];rfl
structure U9(W:MO)(ps:Option Oc)(k:Nat)(q:Sq)(b o:Nat):Prop where
 at_:ps=MI ⟨b,o,MH⟩
 cells:W.rangeAt b (o+k*61) (JU q)
 rd:Kh W q
theorem JD.step{W:MO}{g:Nat}{V:Pv}{c:Cf}{P:Py}(h:JD w W g V c P){k:Nat}(hk:k<P.steps.length):∃q b o,U9 W V.ps k q b o/\P.steps[k]?=MI q.s/\JM c q.s:=by
 have hl:=h.pat.steps;have hkq:k<V.qs.length:=by omega
 have hrv:bj JU W (MG V.ps V.qs.length V.cs) V.qs:=gZ h.pat.rows;obtain⟨a,cap,hv,_,_,hp⟩:=bj.F6 LV hrv;injection hv with q1 _ _;obtain⟨b,o,ha,hb,hc⟩:=hp k hkq;have e:P.steps[k]?=MI V.qs[k].s:=by rw[<-h.pat.eqs,List.getElem?_map,MR hkq];rfl
 refine⟨V.qs[k],b,o,⟨q1.trans ha,fun j v hv=>?_,(h.pat.all _ (Nk hkq)).now⟩,e,h.rn.runs.chain _ (Nu e)⟩;have hj:j<61:=(List.getElem?_eq_some_iff.1 hv).1;rw[hc j hj];exact hv
structure Va(W:MO)(b:Nat)(q:Sq):Prop where
 box:W.heap[b]?=MI (MP (JU q).toArray 72 (0,0))
 rd:Kh W q
theorem Kh.below{W Y:MO}{q:Sq}(h:Kh W q)(hb:MQ W.heap.size W Y):Kh Y q:=⟨h.1.below hb,h.2.1.below hb,h.2.2.below hb⟩
theorem Va.on{W Y:MO}{b:Nat}{q:Sq}(h:Va W b q)(hb:MQ W.heap.size W Y):Va Y b q:=⟨af h.box hb,h.rd.below hb⟩
theorem Vf(q:Sq):(JU q).toArray.all (·.oneCell')=true:=by
 apply all_oneCell_toArray;exact LU q
theorem U9.box{W:MO}{ps:Option Oc}{k:Nat}{q:Sq}{b o:Nat}(h:U9 W ps k q b o):∃Y,Y=(W.alloc (MP Vg.toArray 72)).setCells W.heap.size 0 (JU q)/\Va Y W.heap.size q/\MQ W.heap.size W Y/\(W.alloc (MP Vg.toArray 72)).there W.heap.size 0 (JU q).toArray.size:=by
 have hZ:(W.alloc (MP Vg.toArray 72)).heap[W.heap.size]?=MI (MP Vg.toArray 72 (0,0)):=M1 _ _;have hB:MQ W.heap.size W ((W.alloc (MP Vg.toArray 72)).setCells W.heap.size 0 (JU q)):=tW (ai W) (MV _) _ _ (by simp);exact⟨_,rfl,⟨KM hZ rfl,h.rd.below hB⟩,hB,(show(W.alloc (MP Vg.toArray 72)).there W.heap.size 0 (JU q).toArray.size from sF (old:=Vg) hZ)⟩
theorem Va.F7{W:MO}{b:Nat}{q:Sq}(h:Va W b q)(j:Nat):W.cell? ⟨b,j,MH⟩=(JU q)[j]?:=by
 rw[MW W b j _ _ (0,0) h.box];simp
theorem Ve(f:Nat->Int)(hf:∀i,i<16->(Lit.int ME (f i)).wf=Nw)(ds:List Dd)(hds:∀d∈ds,Kg d){pd:Option Oc}{cd:Nat}(hrow:bj Ka w (MG pd ds.length cd) ds)(hblk:aK w)(most:Nat)(hm:most<=100):
  ∃L:List Value,L.length=16/\BD (f 0) (f 1) (f 2) (f 3) (f 4) (f 5) (f 6) (f 7) (f 8) (f 9) (f 10) (f 11) (f 12) (f 13) (f 14) (f 15)=Ny L.toArray/\∀W,MQ w.heap.size w W->Calls MK 18 #[Ny L.toArray,MG pd ds.length cd,MF ME (most:Int)] W (Lq f most W):=
 ⟨[MF ME (f 0),MF ME (f 1),MF ME (f 2),MF ME (f 3),MF ME (f 4),MF ME (f 5),MF ME (f 6),MF ME (f 7),MF ME (f 8),MF ME (f 9),MF ME (f 10),MF ME (f 11),MF ME (f 12),MF ME (f 13),MF ME (f 14),MF ME (f 15)],rfl,rfl,fun W hB=>L6 f hf ds hds W (hrow.below hB) (hblk.below hB) most hm⟩
theorem Vc{W:MO}{p:Option Oc}{c:Nat}{L:List Ou}(h:bj gT W (MG p L.length c) L){i:Nat}(hi:i<L.length) :
  ∃b o,p=MI ⟨b,o,MH⟩/\W.cell? ⟨b,o+i*7,MH⟩=MI (MF ME L[i].kind)/\W.cell? ⟨b,o+i*7+1,MH⟩=MI (MF ME L[i].slot)/\W.cell? ⟨b,o+i*7+2,MH⟩=MI (MF ME L[i].gen)/\W.cell? ⟨b,o+i*7+3,MH⟩=MI (MF ME L[i].be)/\W.cell? ⟨b,o+i*7+4,MH⟩=MI (MF ME L[i].req)/\W.cell? ⟨b,o+i*7+5,MH⟩=MI (MF ME L[i].code)/\W.cell? ⟨b,o+i*7+6,MH⟩=MI (MF ME L[i].why):=by
 obtain⟨a,cap,hv,_,_,hp⟩:=bj.F6 Bq h;injection hv with q1 _ _;obtain⟨b,o,ha,_,hc⟩:=hp i hi;exact⟨b,o,q1.trans ha,hc 0 (by omega),hc 1 (by omega),hc 2 (by omega),hc 3 (by omega),hc 4 (by omega),hc 5 (by omega),hc 6 (by omega)⟩
theorem Vd{W:MO}{p:Option Oc}{c:Nat}{L l:List Ou}{x:Ou}(h:bj gT W (MG p L.length c) L)(e:L=x::l) :
  ∃b o,p=MI ⟨b,o,MH⟩/\W.cell? ⟨b,o,MH⟩=MI (MF ME x.kind)/\W.cell? ⟨b,o+1,MH⟩=MI (MF ME x.slot)/\W.cell? ⟨b,o+2,MH⟩=MI (MF ME x.gen)/\W.cell? ⟨b,o+3,MH⟩=MI (MF ME x.be)/\W.cell? ⟨b,o+4,MH⟩=MI (MF ME x.req)/\W.cell? ⟨b,o+5,MH⟩=MI (MF ME x.code)/\W.cell? ⟨b,o+6,MH⟩=MI (MF ME x.why):=by
 subst e;obtain⟨b,o,h1,h2⟩:=Vc h (i:=0) (Nat.succ_pos _);simp only[Nat.zero_mul,Nat.add_zero,List.getElem_cons_zero]at h2;exact⟨b,o,h1,h2⟩
theorem Vh(f:Nat->Int)(hf:∀i,i<16->(Lit.int ME (f i)).wf=Nw)(ds:List Dd)(hds:∀d∈ds,Kg d){pd:Option Oc}{cd:Nat}(hrow:bj Ka w (MG pd ds.length cd) ds)(hB:aK w):
  Calls MK 7 #[BD (f 0) (f 1) (f 2) (f 3) (f 4) (f 5) (f 6) (f 7) (f 8) (f 9) (f 10) (f 11) (f 12) (f 13) (f 14) (f 15),MG pd ds.length cd] w fun r w'=>r=Ending.returned (M3 Nw)/\MQ w.heap.size w w':=by
 obtain⟨L,hL,eL,hpl⟩:=Ve f hf ds hds hrow hB 60 (by omega);rw[eL];obtain⟨W0,hW0⟩:∃W0,W0=w.alloc (MP L.toArray 24):=⟨_,rfl⟩;have hb0:MQ w.heap.size w W0:=by rw[hW0];exact ai w
 have HI:M6 (_/\_/\_):=⟨hL,hb0,hpl W0 hb0⟩;obtain⟨nd,hnd⟩:∃nd,nd=ds.length:=⟨_,rfl⟩;rw[<-hnd]at HI⊢;clear hL eL hpl hb0 hf hds hrow hB hnd;go_enter Tryz.func7,Tryz.ntmps7
 go_wp2_with ((with_reducible refine O3 rfl 24 (O6 2) rfl w.heap.size 0 ?gx L _ ?gc Tryz.underlying24 ?gd ?gi ?_);(case gx=>rfl);(case gc=>exact J8 (M1 _ _));(case gd=>rfl);(case gi=>rw[HI.out.1];exact K0))
 rw[<-hW0];clear hW0;refine Calls.mono HI.out.2.2 ?_;rintro r w1 ⟨g,V,c,P,rfl,hS,hcx,hn4,hnm,hk3⟩;obtain⟨n,hn⟩:∃n,n=P.steps.length:=⟨_,rfl⟩;have HS:M6 (_/\_/\_/\_/\_):=⟨hS,hcx,hn,(show n<=60+4 by omega),hk3⟩;have hB1:=HI.out.2.1.trans (hS.bel.mono HI.out.2.1.size);have HB:M6 _:=hB1;clear hS hcx hn4 hnm hk3 hn HI hB1;have HR:M6 _:=HS.out.1.rn.Vi rfl (by rw[<-HS.out.2.2.1];have:=HS.out.2.2.2.1;omega)
 go_wp2_with fail
 go_loopw [7,8,9,10] (fun i _ _ _ wr=>∃k:Nat,i=MF ME (k:Int)/\k<=n/\M6 (MQ w1.heap.size w1 wr)) (fun i _ _ _ _=>n-(intOf i).toNat)
 case atStart=>exact⟨0,rfl,Nx _,MY _ _⟩
 case round =>
  obtain⟨k,rfl,hk,HW⟩:=hrel;have hSr:=HS.out.1.on HW.out;have c16:wr.cell? ⟨g,16,MH⟩=MI (MG V.ps n V.cs):=by rw[HS.out.2.2.1];exact hSr.pat.Gm
  have hgl:=hSr.pat.lt
  by_cases hlt:k<n
  ·have hkI:(k:Int)<(n:Int):=by omega
   have hnb:n<=9223372036854775807:=by have:=HS.out.2.2.2.1;omega
   obtain⟨q,b,o,hq,hst,hok⟩:=hSr.step (k:=k) (by rw[<-HS.out.2.2.1];exact hlt);obtain⟨Y,hY,hSB,hYb,hth⟩:=hq.box;obtain⟨R,hR⟩:∃R,R=JU q:=⟨_,rfl⟩;have hat:=hq.at_;have y0:Y.cell? ⟨wr.heap.size,0,MH⟩=MI (MF ME q.s.ev.kind):=(hSB.F7 0).trans rfl;have y5:Y.cell? ⟨wr.heap.size,5,MH⟩=MI (MF ME q.s.ev.req):=(hSB.F7 5).trans rfl;have hcs:=hq.cells;rw[<-hR]at hY hth hcs;have HQ:M6 (_/\_/\_/\_/\_/\_):=⟨hcs,hth,hY,hR,HW.out.trans (hYb.mono HW.out.size),(show R.length=61 by rw[hR];rfl)⟩;have HT:M6 (_/\_/\_/\_):=⟨hst,hok,hSB,hYb⟩;clear hq hst hok hY hSB hYb hth hR hcs;rw[hat]at c16;clear hat
   clear hSr
   by_cases ha:U0 q.s.ev
   rotate_left
   have n5:(q.s.ev.kind != 5)=true:=by simp;exact fun h=>ha (Nt h)
   have n6:(q.s.ev.kind != 6)=true:=by simp;exact fun h=>ha (NF h)
   clear ha
   rotate_left
   obtain⟨⟨x,l,hx,hx8,hxr⟩,hR2⟩:=HR.out k q.s HT.out.1 ha;have ha':(q.s.ev.kind != 5)=Nb\/((q.s.ev.kind != 5)=Nw/\(q.s.ev.kind != 6)=Nb):=by
    rcases ha with h|h
    ·exact Nt (by simp[h])
    ·exact NF ⟨by simp[h],by simp[h]⟩
   obtain⟨bo,oo,hpo,u0,u1,u2,u3,u4,u5,u6⟩:=Vd HT.out.2.2.1.rd.2.2 hx;have y60:Y.cell? ⟨wr.heap.size,60,MH⟩=MI (MG q.po q.s.out.length q.co):=(HT.out.2.2.1.F7 60).trans rfl;have hbo:bo<Y.heap.size:=MX Y ⟨bo,oo,MH⟩ u0;have hYl:wr.heap.size<Y.heap.size:=(Array.getElem?_eq_some_iff.1 HT.out.2.2.1.box).1;obtain⟨nl,hnl⟩:∃nl,nl=q.s.out.length:=⟨_,rfl⟩;have hn0:((nl:Int) == 0)=false:=by rw[hnl,hx];simp <;> omega
   have hn1:(0:Int)<(nl:Int):=by rw[hnl,hx];simp <;> omega
   have hn2:0<nl:=by omega
   obtain⟨e,he⟩:∃e,e=q.s.ev.kind:=⟨_,rfl⟩;obtain⟨rq,hrq⟩:∃r,r=q.s.ev.req:=⟨_,rfl⟩;rw[hpo,<-hnl]at y60;rw[hx8]at u0;rw[hxr,<-hrq]at u4;rw[<-hrq]at y5 hR2;rw[<-he]at y0 ha';have hss:(rq != rq)=false:=by simp
   have HE:M6 (_/\_/\_/\_/\_/\_/\_/\_):=⟨hx,hR2,hnl,hrq,hpo,hx8,hxr,he⟩;clear hx hR2 hnl hrq hpo hx8 hxr ha he;rcases ha' with h5|⟨h5,h6⟩
   case' neg =>
    go_wp2_with (first|((with_reducible refine O3 rfl 72 (O6 31) rfl b (o+k*61) ?gx R _ ?gc Vk ?gd ?gi ?_);(case gx=>rfl);(case gc=>exact HQ.out.1);(case gd=>rfl);(case gi=>rw[HQ.out.2.2.2.2.2];exact Vb))|((with_reducible refine OW rfl 72 (O6 8) (O6 32) rfl wr.heap.size 0 R.toArray ?sx ?sy ?st ?si ?s1 ?_);(case sx=>rfl);(case sy=>rfl);(case st=>exact HQ.out.2.1);(case si=>rw[OQ,HQ.out.2.2.2.2.2];exact Vb);(case s1=>rw[HQ.out.2.2.2.1];exact Vf q);rw[NS,<-HQ.out.2.2.1]))
    go_roundw
    case rel=>exact⟨k+1,by simp,hlt,HQ.out.2.2.2.2.1⟩
    case measure=>simp[intOf];omega
   all_goals
    go_wp2_with (first|((with_reducible refine O3 rfl 72 (O6 31) rfl b (o+k*61) ?gx R _ ?gc Vk ?gd ?gi ?_);(case gx=>rfl);(case gc=>exact HQ.out.1);(case gd=>rfl);(case gi=>rw[HQ.out.2.2.2.2.2];exact Vb))|((with_reducible refine OW rfl 72 (O6 8) (O6 32) rfl wr.heap.size 0 R.toArray ?sx ?sy ?st ?si ?s1 ?_);(case sx=>rfl);(case sy=>rfl);(case st=>exact HQ.out.2.1);(case si=>rw[OQ,HQ.out.2.2.2.2.2];exact Vb);(case s1=>rw[HQ.out.2.2.2.1];exact Vf q);rw[NS,<-HQ.out.2.2.1]))
    refine wp_region_quiet_lit (by kernel_rfl) (by kernel_rfl) ?_
    repeat (first|go_big_quiet_skip|quiet_step (fail))
    refine Oy ?_;intro _ hw';obtain⟨nq,hw''⟩:=hw';subst hw''
    go_wp2_with fail
    obtain⟨B8,hB8⟩:∃B8,B8=wr.heap.size:=⟨_,rfl⟩;have hD:MQ Y.heap.size Y (Y.drewN nq):=B3 (MY _ _) nq;have HD:M6 (_/\_):=⟨HT.out.2.2.1,HQ.out.2.2.2.2.1.trans (hD.mono HQ.out.2.2.2.2.1.size)⟩;rw[<-hB8]at HD⊢;clear c16 hgl y0 y5 y60 u0 u1 u2 u3 u4 u5 u6 hbo hYl hn0 hn1 hn2 h5 hB8
    go_loopw [9,10] (fun i _ wr=>∃j:Nat,i=MF ME (j:Int)/\j<=k/\M6 (MQ w1.heap.size w1 wr)/\M6 (MQ Y.heap.size Y wr)) (fun i _ _=>k-(intOf i).toNat)
    case atStart=>exact⟨0,rfl,Nx _,HD.out.2,hD⟩
    case round =>
     obtain⟨j,rfl,hj,HX,HV⟩:=hrel;have hSr:=HS.out.1.on HX.out;have c16:wr.cell? ⟨g,16,MH⟩=MI (MG V.ps n V.cs):=by rw[HS.out.2.2.1];exact hSr.pat.Gm
     have hgl:=hSr.pat.lt;clear hD
     by_cases hlj:j<k
     ·have hjI:(j:Int)<(k:Int):=by omega
      have hjn:(j:Int)<(n:Int):=by omega
      obtain⟨q2,b2,o2,hq2,hst2,hok2⟩:=hSr.step (k:=j) (by rw[<-HS.out.2.2.1];omega);obtain⟨Y2,hY2,hSB2,hYb2,hth2⟩:=hq2.box;obtain⟨R2,hR2⟩:∃R,R=JU q2:=⟨_,rfl⟩;have hat2:=hq2.at_;have x0:Y2.cell? ⟨wr.heap.size,0,MH⟩=MI (MF ME q2.s.ev.kind):=(hSB2.F7 0).trans rfl;have x5:Y2.cell? ⟨wr.heap.size,5,MH⟩=MI (MF ME q2.s.ev.req):=(hSB2.F7 5).trans rfl;have hcs2:=hq2.cells;rw[<-hR2]at hY2 hth2 hcs2;have HQ2:M6 (_/\_/\_/\_/\_/\_):=⟨hcs2,hth2,hY2,hR2,HX.out.trans (hYb2.mono HX.out.size),(show R2.length=61 by rw[hR2];rfl)⟩;have HT2:M6 (_/\_/\_/\_):=⟨hst2,hok2,hSB2,hYb2⟩;clear hq2 hst2 hok2 hY2 hSB2 hYb2 hth2 hR2 hcs2;rw[hat2]at c16;clear hat2;clear hSr;have hS8:=(HD.out.1.on HV.out).on HT2.out.2.2.2;have v5:Y2.cell? ⟨B8,5,MH⟩=MI (MF ME rq):=by rw[HE.out.2.2.2.1];exact(hS8.F7 5).trans rfl
      have l8:B8<Y2.heap.size:=(Array.getElem?_eq_some_iff.1 hS8.box).1;have l10:wr.heap.size<Y2.heap.size:=(Array.getElem?_eq_some_iff.1 HT2.out.2.2.1.box).1;obtain⟨e2,he2⟩:∃e,e=q2.s.ev.kind:=⟨_,rfl⟩;obtain⟨r2,hr2⟩:∃r,r=q2.s.ev.req:=⟨_,rfl⟩;have hcs:((e2 == 5)=Nb/\(e2 == 6)=Nb)\/(((e2 == 5)=Nw\/((e2 == 5)=Nb/\(e2 == 6)=Nw))/\(r2 == rq)=Nb)\/(((e2 == 5)=Nw\/((e2 == 5)=Nb/\(e2 == 6)=Nw))/\(r2 == rq)=Nw/\∃x l,q.s.out=[x]/\q2.s.out=x::l/\q.s.aft.req.length=q.s.bef.req.length):=by
       rw[he2,hr2]
       by_cases ha:U0 q2.s.ev
       ·have h1:(q2.s.ev.kind == 5)=Nw\/((q2.s.ev.kind == 5)=Nb/\(q2.s.ev.kind == 6)=Nw):=by
         rcases ha with h|h
         ·exact Nt (by simp[h])
         ·exact NF ⟨by simp[h],by simp[h]⟩
        by_cases hr:q2.s.ev.req=rq
        ·exact NF (NF ⟨h1,by simp[hr],HE.out.2.1 j q2.s hlj HT2.out.1 ha hr⟩)
        ·exact NF (Nt ⟨h1,by simp[hr]⟩)
       ·exact Nt ⟨by simp;exact fun h=>ha (Nt h),by simp;exact fun h=>ha (NF h)⟩
      rw[<-he2]at x0;rw[<-hr2]at x5;clear he2 hr2;rcases hcs with⟨a5,a6⟩|⟨a5|⟨a5,a6⟩,hr⟩|⟨ha5,hr,y,l2,hy1,hy2,hyl⟩
      case' inr.inr =>
       obtain⟨bp,op,hpp,p0,p1,p2,p3,p4,p5,p6⟩:=Vd hS8.rd.2.2 hy1;obtain⟨br,or,hpr,r0,r1,r2',r3,r4,r5,r6⟩:=Vd HT2.out.2.2.1.rd.2.2 hy2;have v60:Y2.cell? ⟨B8,60,MH⟩=MI (MG q.po 1 q.co):=(hS8.F7 60).trans (by show MI (MG q.po q.s.out.length q.co)=_;rw[hy1];rfl);have x60:Y2.cell? ⟨wr.heap.size,60,MH⟩=MI (MG q2.po (l2.length+1) q2.co):=(HT2.out.2.2.1.F7 60).trans (by show MI (MG q2.po q2.s.out.length q2.co)=_;rw[hy2];rfl);have v54:Y2.cell? ⟨B8,54,MH⟩=MI (MG q.v.pr q.s.bef.req.length q.v.cr):=(hS8.F7 54).trans (by show MI (MG q.v.pr q.s.aft.req.length q.v.cr)=_;rw[hyl]);have v28:Y2.cell? ⟨B8,28,MH⟩=MI (MG q.u.pr q.s.bef.req.length q.u.cr):=(hS8.F7 28).trans rfl;have hbp:bp<Y2.heap.size:=MX Y2 ⟨bp,op,MH⟩ p0;have hbr:br<Y2.heap.size:=MX Y2 ⟨br,or,MH⟩ r0;have hl2:(0:Int)<((l2.length+1:Nat):Int):=by omega
       rw[hpp]at v60;rw[hpr]at x60;obtain⟨ml,hml⟩:∃ml,ml=l2.length+1:=⟨_,rfl⟩;rw[<-hml]at x60 hl2;have hl3:0<ml:=by omega
       obtain⟨mr,hmr⟩:∃ml,ml=q.s.bef.req.length:=⟨_,rfl⟩;rw[<-hmr]at v54 v28;have hmm:((mr:Int) != (mr:Int))=false:=by simp
       clear hpp hpr hy1 hy2 hyl hml hmr;rcases ha5 with a5|⟨a5,a6⟩
       all_goals
        clear hS8
        go_wp2_with (first|((with_reducible refine O3 rfl 72 (O6 76) rfl b2 (o2+j*61) ?gx R2 _ ?gc Vk ?gd ?gi ?_);(case gx=>rfl);(case gc=>exact HQ2.out.1);(case gd=>rfl);(case gi=>rw[HQ2.out.2.2.2.2.2];exact Vb))|((with_reducible refine OW rfl 72 (O6 10) (O6 77) rfl wr.heap.size 0 R2.toArray ?sx ?sy ?st ?si ?s1 ?_);(case sx=>rfl);(case sy=>rfl);(case st=>exact HQ2.out.2.1);(case si=>rw[OQ,HQ2.out.2.2.2.2.2];exact Vb);(case s1=>rw[HQ2.out.2.2.2.1];exact Vf q2);rw[NS,<-HQ2.out.2.2.1]))
        refine wp_region_quiet_lit (by kernel_rfl) (by kernel_rfl) ?_
        repeat (first|go_big_quiet_skip|quiet_step (fail))
        refine Oy ?_;intro _ hw';obtain⟨nq,hw''⟩:=hw';subst hw'';go_wp2
        go_roundw
        case rel=>exact⟨j+1,by simp,hlj,HQ2.out.2.2.2.2.1.trans ((B3 (MY _ _) nq).mono HQ2.out.2.2.2.2.1.size),(HV.out.trans (HT2.out.2.2.2.mono HV.out.size)).trans ((B3 (MY _ _) nq).mono (HV.out.trans (HT2.out.2.2.2.mono HV.out.size)).size)⟩
        case measure=>simp[intOf];omega
      all_goals
       clear hS8
       go_wp2_with (first|((with_reducible refine O3 rfl 72 (O6 76) rfl b2 (o2+j*61) ?gx R2 _ ?gc Vk ?gd ?gi ?_);(case gx=>rfl);(case gc=>exact HQ2.out.1);(case gd=>rfl);(case gi=>rw[HQ2.out.2.2.2.2.2];exact Vb))|((with_reducible refine OW rfl 72 (O6 10) (O6 77) rfl wr.heap.size 0 R2.toArray ?sx ?sy ?st ?si ?s1 ?_);(case sx=>rfl);(case sy=>rfl);(case st=>exact HQ2.out.2.1);(case si=>rw[OQ,HQ2.out.2.2.2.2.2];exact Vb);(case s1=>rw[HQ2.out.2.2.2.1];exact Vf q2);rw[NS,<-HQ2.out.2.2.1]))
       go_roundw
       case rel=>exact⟨j+1,by simp,hlj,HQ2.out.2.2.2.2.1,HV.out.trans (HT2.out.2.2.2.mono HV.out.size)⟩
       case measure=>simp[intOf];omega
     ·obtain rfl:j=k:=by omega
      have hjI:¬(j:Int)<(j:Int):=by omega
      clear hSr;go_wp2
      go_roundw
      case rel=>exact⟨j+1,by simp,hlt,HX⟩
      case measure=>simp[intOf];omega
  ·obtain rfl:k=n:=by omega
   have hkI:¬(k:Int)<(k:Int):=by omega
   go_wp2;go_ret;exact⟨rfl,HB.out.trans (HW.out.mono HB.out.size)⟩
end Go.Proofs.YtinbndbjlgoghaaGreatDoor.Q
