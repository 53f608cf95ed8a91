/-
  TopDraining: its walk. Conditions: as each theorem says.
-/
import Derived.Test.YtinbndbjlgoghaaGreatDoorQ20
open Bool renaming false->Nb,true->Nw
open Go renaming Calls->Ni,Value->M7,World->MO,cell_of_row->MW,heap_alloc_new->M1,wpList_load_mid->O3,wpQuiet_nil->Oy
open Go.Act renaming put->Nr
open Go.Calls renaming mono->Nd
open Go.Ending renaming returned->MN
open Go.IntKind renaming i64->ME
open Go.Obj renaming cells->MP
open Go.Operand renaming tmp->O6
open Go.Proofs.Tryz renaming prog->MK,underlying49->OX
open Go.RowKit renaming Below->MQ,Hid->M6
open Go.RowKit.Below renaming refl->MY
open Go.Value renaming agg->Ny,bool->M3,int->MF,pointer->Na,slice->MG
open List renaming countP_append->Qi,countP_cons->Vw,countP_cons_of_neg->Vx,getElem?_append_left->OJ,getElem?_append_right->Tw,getElem_cons_succ->MT,getElem_cons_zero->MS,getElem_mem->Nk,getElem_toArray->MZ,setIfInBounds_toArray->MJ,set_cons_succ->MM,set_cons_zero->ML,take_length->NT,take_succ_eq_append_getElem->M9
open Nat renaming add_sub_cancel_left->Vv,le_refl->MV,le_trans->Nm,zero_le->Nx
open Option renaming none->MH,some->MI
open Or renaming inl->Nt,inr->NF
namespace Go.Proofs.YtinbndbjlgoghaaGreatDoor.Q
set_option linter.unusedVariables false
set_option linter.unusedSimpArgs false
set_option maxHeartbeats 16000000
set_option maxRecDepth 100000
open Go.RowKit
attribute [local go_sem ↓] Go.wp_at_zero Go.wp_at_succ
variable {K:Act->Prop}{X:Gt}{w:MO}{n:Nat}
section
variable {A:Gt}{c:Cf}{P:Py}
theorem JM.next{s:Sp}(h:JM c s):Wm s.aft:=by rw[h.aft];exact(h.wm.Mm (D5 h.ev) h.late).Ma
end
section
variable {G:Gt}{c:Cf}
theorem U1(hb:bX X.liv X.req)(d b:Int):aq (cj X d).liv b=aq X.liv b\/(b=d/\aA X.liv b=3/\aA (cj X d).liv b=4):=by
 unfold cj
 split
 ·rename_i hc
  show aq (eL X.liv X.req d).1.1 b=aq X.liv b\/(b=d/\aA X.liv b=3/\(aq (eL X.liv X.req d).1.1 b).2.1=4);rw[(vD hb hc.1).1];show aq (cU X.liv d dC) b=aq X.liv b\/(b=d/\aA X.liv b=3/\(aq (cU X.liv d dC) b).2.1=4);rw[zZ hb.1.2.2 hc.1]
  by_cases e:b=d
  ·subst e
   rw[Nh rfl];exact NF ⟨rfl,hc.1,rfl⟩
  ·rw[Nf e];exact Nt rfl
 ·exact Nt rfl
end
section
variable {G:Gt}{c:Cf}
theorem U0{b:Int}:∀(l:List Fl) (i:Nat) (y:Fl),y.be≠b->fX (l.set i y) b<=fX l b
 | [],_,_,_=>MV _
 |x::l,0,y,h=>by
  unfold fX;rw[ML,Vx (by simpa using h),Vw];omega
 |x::l,i+1,y,h=>by
  have:=U0 l i y h;unfold fX at this⊢;rw[MM,Vw,Vw];omega
theorem UZ{fs:List Fl}{i:Nat}(hi:i<fs.length){y:Fl}{b:Int}(hy:y.be=fs[i].be):fX (fs.set i y) b<=fX fs b:=by
 have e:(fs.set i y).map (·.be)=fs.map (·.be):=tJ (·.be) hi hy;have:∀l:List Fl,fX l b=(l.map (·.be)).countP (· == b):=fun l=>by unfold fX;rw[List.countP_map];rfl
 rw[this,this,e];exact MV _
def Ls(b:Int)(n:Nat)(X:Gt):Prop:=(aA X.liv b=3\/aA X.liv b=4)/\fX X.fls b<=n
theorem Ls.drain{b:Int}(h:Ls b n X)(hb:bX X.liv X.req)(d:Int):Ls b n (cj X d):=by
 refine⟨?_,by rw[mF];exact h.2⟩;rcases U1 hb d b with e|⟨_,_,e⟩
 ·rw[show aA (cj X d).liv b=(aq (cj X d).liv b).2.1 from rfl,e];exact h.1
 ·exact NF e
theorem Ls.ends{b:Int}(h:Ls b n X)(hb:Bs X)(f:Fl)(k y:Int):Ls b n (dn X f k y):=by
 unfold dn;refine Ls.drain ⟨?_,?_⟩ ?_ _
 ·exact h.1
 ·exact Nm (List.Sublist.countP_le List.filter_sublist) h.2
 ·exact hb.book
theorem Ls.Mg{b:Int}(h:Ls b n X)(hb:Bs X){i:Nat}(hi:i<X.fls.length)(y:Int):Ls b n (dP X i y):=by
 have b4:=(hb.F9 (Nk hi)).2.2.2;rcases pI hb hi y with⟨z,q,hz⟩|⟨d,q,hd,hr,h2,hc,_⟩
 ·rw[q];exact Ls.ends (X:=dg X X.fls[i].be Nw) h (hb.GA b4 Nw) _ _ _
 ·obtain⟨T,e⟩:=KA (G:={dg X X.fls[i].be Nw with tok:=X.tok-X.cfg.bd}) hi d
  rw[q,e];refine Ls.drain ⟨?_,?_⟩ ?_ _
  ·exact h.1
  ·refine Nm (U0 _ _ _ ?_) h.2
   show d≠b;intro e;rw[e]at h2;have:=h.1;omega
  ·exact hb.book
theorem U2(hm:Wm G){e:Ev}(he:fB e)(h7:e.kind=7->G.now+1<=1099511626776){b:Int}(h3:aA G.liv b=3):fX (iG G e).fls b<=fX G.fls b:=by
 have hb:=hm.im.bs;have h0:Ls b (fX G.fls b) G:=⟨Nt h3,MV _⟩;unfold iG
 split
 ·rcases J7 hb he.key with⟨q,_⟩|⟨q,_⟩|⟨k,hlt,_,hs,hc,_,_,hg,_,q⟩
  ·rw[q];exact MV _
  ·rw[q];exact MV _
  ·rw[q]
   show fX (aT G.fls _ _) b<=_;unfold fX aT;rw[Qi,Vx,<-Qi,List.take_append_drop]
   ·exact MV _
   ·intro h
    have h:(dL G e.key G.fls).1=b:=by simpa using h
    rw[h,h3]at hs;cases hs
 ·split
  ·exact MV _
  ·split
   ·unfold nC
    split
    ·exact MV _
    ·split
     ·exact MV _
     ·rw[mF];exact MV _
   ·split
    ·rename_i k7
     refine(KG (R:=Ls b (fX G.fls b)) hm (h7 k7) ?_ (fun X f y hX hf hy hR=>hR.ends hX.bs _ _ _) (fun X i hX hi _ hR=>hR.Mg hX.bs hi _)).2;obtain⟨_,_,e3,_,_,_,_,e8⟩:=yj (hb.next (h7 k7));have h4:aq (G.liv.map (aY (G.now+1))) b=aY (G.now+1) (aq G.liv b):=vr (hb.next (h7 k7)) b;refine⟨Nt ?_,?_⟩
     ·show(aq (eE {G with now:=G.now+1}).liv b).2.1=3
      rw[e8];show(aq (G.liv.map (aY (G.now+1))) b).2.1=3;rw[h4];have h3:(aq G.liv b).2.1=3:=h3;unfold aY;rw[Nf (by omega)];exact h3
     ·show fX (eE {G with now:=G.now+1}).fls b<=_
      rw[e3];exact MV _
    ·rcases Kt hb e with⟨hc,q⟩|⟨i,hi,_,_,_,⟨_,q⟩|⟨_,q⟩|⟨_,_,⟨_,q⟩|⟨_,_,q⟩|⟨hv,_,q⟩⟩⟩
     ·rw[q];exact MV _
     ·rw[q];exact(h0.ends hb _ _ _).2
     ·obtain⟨T,e1⟩:=Ku hi
      rw[q,e1];exact UZ hi (by split <;> rfl)
     ·rw[q];exact MV _
     ·obtain⟨T,e1⟩:=KC hi
      rw[q,e1];exact UZ hi rfl
     ·rw[q];exact(h0.Mg hb hi _).2
theorem JM.Vp{s:Sp}(h:JM c s){b:Int}:(aA s.bef.liv b=3->fX s.aft.fls b<=fX s.bef.fls b)/\(aA s.aft.liv b=3->fX s.aft.fls b≠0)/\(aA s.aft.liv b=4\/aA s.aft.liv b=0->fX s.aft.fls b=0):=by
 have hi:=h.next.im;refine⟨fun h3=>by rw[h.aft];exact U2 h.wm (D5 h.ev) h.late h3,fun h3=>?_,fun h4=>?_⟩
 ·obtain⟨h1,h2⟩:=kQ (L:=s.aft.liv) (b:=b) (by rw[h3];decide)
  have:=hi.drn _ h1 h3;rw[h2]at this;obtain⟨f,hf,e⟩:=lP.1 this;unfold fX;exact Nat.ne_of_gt (List.countP_pos_iff.2 ⟨f,hf,by simpa using e⟩)
 ·unfold fX
  refine List.countP_eq_zero.2 fun f hf e=>?_
  have e:f.be=b:=by simpa using e
  have:=hi.be f hf;rw[e]at this;omega
end
abbrev Vf:List Value:=[MF ME 0,MF ME 0,MF ME 0,MF ME 0,M3 Nb,MF ME 0,MF ME 0,MF ME 0,MF ME 0,MF ME 0,MF ME 0,MF ME 0,MF ME 0,MF ME 0,MF ME 0,MF ME 0,MF ME 0,MF ME 0,MF ME 0,MF ME 0,MF ME 0,MF ME 0,MF ME 0,MF ME 0,MF ME 0,MG MH 0 0,MG MH 0 0,MG MH 0 0,MG MH 0 0,MG MH 0 0,MG MH 0 0,MF ME 0,MF ME 0,MG MH 0 0,MF ME 0,MF ME 0,MF ME 0,MF ME 0,MF ME 0,MF ME 0,MF ME 0,MF ME 0,MF ME 0,MF ME 0,MF ME 0,MF ME 0,MF ME 0,MF ME 0,MF ME 0,MF ME 0,MF ME 0,MG MH 0 0,MG MH 0 0,MG MH 0 0,MG MH 0 0,MG MH 0 0,MG MH 0 0,MF ME 0,MF ME 0,MG MH 0 0,MG MH 0 0]
theorem Vc:(Tryz.prog.info? 72).map (·.size)=MI 61:=by kernel_rfl
theorem Jz.Gm{base:Nat}{g:Nat}{V:Pv}{c:Cf}{P:Py}(h:Jz base w g V c P):w.cell? ⟨g,16,MH⟩=MI (MG V.ps P.steps.length V.cs):=by
 rw[MW w g 16 _ _ (0,0) h.box,h.steps];rfl
structure U3(W:MO)(ps:Option Addr)(k:Nat)(q:Sq)(b o:Nat):Prop where
 at_:ps=MI ⟨b,o,MH⟩
 cells:W.rangeAt b (o+k*61) (JU q)
 rd:Kh W q
theorem JD.step{W:MO}{g:Nat}{V:Pv}{c:Cf}{P:Py}(h:JD w W g V c P){k:Nat}(hk:k<P.steps.length):∃q b o,U3 W V.ps k q b o/\P.steps[k]?=MI q.s/\JM c q.s:=by
 have hl:=h.pat.steps;have hkq:k<V.qs.length:=by omega
 have hrv:bj JU W (MG V.ps V.qs.length V.cs) V.qs:=gZ h.pat.rows;obtain⟨a,cap,hv,_,_,hp⟩:=bj.F6 LV hrv;injection hv with q1 _ _;obtain⟨b,o,ha,hb,hc⟩:=hp k hkq;have e:P.steps[k]?=MI V.qs[k].s:=by rw[<-h.pat.eqs,List.getElem?_map,List.getElem?_eq_getElem hkq];rfl
 refine⟨V.qs[k],b,o,⟨q1.trans ha,fun j v hv=>?_,(h.pat.all _ (Nk hkq)).now⟩,e,h.rn.runs.chain _ (List.mem_of_getElem? e)⟩;have hj:j<61:=(List.getElem?_eq_some_iff.1 hv).1;rw[hc j hj];exact hv
structure U4(W:MO)(b:Nat)(q:Sq):Prop where
 box:W.heap[b]?=MI (MP (JU q).toArray 72 (0,0))
 rd:Kh W q
theorem Kh.below{W Y:MO}{q:Sq}(h:Kh W q)(hb:MQ W.heap.size W Y):Kh Y q:=⟨h.1.below hb,h.2.1.below hb,h.2.2.below hb⟩
theorem U4.on{W Y:MO}{b:Nat}{q:Sq}(h:U4 W b q)(hb:MQ W.heap.size W Y):U4 Y b q:=⟨af h.box hb,h.rd.below hb⟩
theorem Ve(q:Sq):(JU q).toArray.all (·.oneCell')=true:=by
 apply all_oneCell_toArray;exact LU q
theorem U3.box{W:MO}{ps:Option Addr}{k:Nat}{q:Sq}{b o:Nat}(h:U3 W ps k q b o):∃Y,Y=(W.alloc (MP Vf.toArray 72)).setCells W.heap.size 0 (JU q)/\U4 Y W.heap.size q/\MQ W.heap.size W Y/\(W.alloc (MP Vf.toArray 72)).there W.heap.size 0 (JU q).toArray.size:=by
 have hZ:(W.alloc (MP Vf.toArray 72)).heap[W.heap.size]?=MI (MP Vf.toArray 72 (0,0)):=M1 _ _;have hB:MQ W.heap.size W ((W.alloc (MP Vf.toArray 72)).setCells W.heap.size 0 (JU q)):=tW (ai W) (MV _) _ _ (by simp);exact⟨_,rfl,⟨KM hZ rfl,h.rd.below hB⟩,hB,(show(W.alloc (MP Vf.toArray 72)).there W.heap.size 0 (JU q).toArray.size from sF (old:=Vf) hZ)⟩
theorem U4.F7{W:MO}{b:Nat}{q:Sq}(h:U4 W b q)(j:Nat):W.cell? ⟨b,j,MH⟩=(JU q)[j]?:=by
 rw[MW W b j _ _ (0,0) h.box];simp
theorem Vd(f:Nat->Int)(hf:∀i,i<16->(Lit.int ME (f i)).wf=Nw)(ds:List Dd)(hds:∀d∈ds,Kg d){pd:Option Addr}{cd:Nat}(hrow:bj Ka w (MG pd ds.length cd) ds)(hblk:aK w)(most:Nat)(hm:most<=100):
  ∃L:List M7,L.length=16/\BD (f 0) (f 1) (f 2) (f 3) (f 4) (f 5) (f 6) (f 7) (f 8) (f 9) (f 10) (f 11) (f 12) (f 13) (f 14) (f 15)=Ny L.toArray/\∀W,MQ w.heap.size w W->Ni MK 18 #[Ny L.toArray,MG pd ds.length cd,MF ME (most:Int)] W (Lq f most W):=
 ⟨[MF ME (f 0),MF ME (f 1),MF ME (f 2),MF ME (f 3),MF ME (f 4),MF ME (f 5),MF ME (f 6),MF ME (f 7),MF ME (f 8),MF ME (f 9),MF ME (f 10),MF ME (f 11),MF ME (f 12),MF ME (f 13),MF ME (f 14),MF ME (f 15)],rfl,rfl,fun W hB=>L6 f hf ds hds W (hrow.below hB) (hblk.below hB) most hm⟩
theorem Vg{L:List FV}{b:Int}{k:Nat}(hk:k<L.length)(h:∀t∈L.take k,t.1≠b)(e:L[k].1=b):aA L b=L[k].2.1:=by
 unfold aA aq;have:L.find? (fun x=>x.1 == b)=MI L[k]:=by
  rw[List.find?_eq_some_iff_getElem];refine⟨by simpa using e,k,hk,rfl,fun j hj=>?_⟩;have:=h L[j] (List.mem_iff_getElem.2 ⟨j,by simp;omega,by simp⟩)
  simpa using this
 rw[this];rfl
theorem Vh{L:List FV}{b:Int}(h:∀t∈L,t.1≠b):aA L b=0:=by
 show(aq L b).2.1=0;rw[tP h]
theorem Vi{W:MO}{M:List M7}{U:Us}{G:Gt}(hM:M=(ef U G).toList)(h:aF W U G)(b:Int):Ni MK 20 #[Ny M.toArray,MF ME b] W fun r w'=>r=MN (MF ME (aA G.liv b))/\MQ W.heap.size W w':=by
 obtain⟨Y,hY⟩:∃Y,Y=W.alloc (MP M.toArray 49):=⟨_,rfl⟩;have hYb:MQ W.heap.size W Y:=by rw[hY];exact ai W
 have hYx:Y.heap[W.heap.size]?=MI (MP M.toArray 49 (0,0)):=by rw[hY];exact M1 _ _
 have c19:Y.cell? ⟨W.heap.size,19,MH⟩=MI (MG U.pl G.liv.length U.cl):=by rw[MW Y _ 19 _ _ (0,0) hYx,hM];rfl
 obtain⟨a,cap,hv,hca,hmx,hp⟩:=jH.F6 (h.book.1.below hYb);injection hv with q1 q2 q3;obtain⟨m,hm⟩:∃m,m=G.liv.length:=⟨_,rfl⟩;rw[<-hm]at c19;have hmb:m<=9223372036854775807:=by rw[hm];unfold maxLen at hmx;omega
 obtain⟨s,hs⟩:∃s,s=aA G.liv b:=⟨_,rfl⟩;rw[<-hs];have HP:M6 (_/\_/\_/\_/\_):=⟨hp,q1,hm,hYb,hs⟩;clear hYx hp q1 q2 q3 hm hmx hca h hM hYb hs;go_enter Tryz.func20,Tryz.ntmps20;go_wp2;rw[<-hY];clear hY
 go_loopw [5] (fun i wr=>∃k:Nat,i=MF ME (k:Int)/\k<=m/\M6 (∀t∈G.liv.take k,t.1≠b)/\wr=Y) (fun i _=>m-(intOf i).toNat)
 case atStart=>exact⟨0,rfl,Nx _,(fun t ht=>absurd ht (by simp)),rfl⟩
 case round =>
  obtain⟨k,rfl,hk,HA,rfl⟩:=hrel
  by_cases hlt:k<m
  ·have hkI:(k:Int)<(m:Int):=by omega
   have hkl:k<G.liv.length:=by rw[<-HP.out.2.2.1];exact hlt
   obtain⟨bo,oo,ha,hb,hc⟩:=HP.out.1 k hkl;have e0:wr.cell? ⟨bo,oo+k*6,MH⟩=MI (MF ME G.liv[k].1):=hc.1;have e1:wr.cell? ⟨bo,oo+k*6+1,MH⟩=MI (MF ME G.liv[k].2.1):=hc.2.1;have htk:G.liv.take (k+1)=G.liv.take k++[G.liv[k]]:=M9 hkl;have hfd:=fun e=>Vg hkl HA.out e
   obtain⟨x,hx⟩:∃x,x=G.liv[k]:=⟨_,rfl⟩;rw[<-hx]at e0 e1 htk hfd;rw[HP.out.2.1,ha]at c19;have HX:M6 (_/\_):=⟨htk,hfd⟩;clear hc hb ha hkl hx htk hfd
   by_cases hq:x.1=b
   ·have hq':(x.1 == b)=true:=by simp[hq]
    have HE:M6 (s=x.2.1):=HP.out.2.2.2.2.trans (HX.out.2 hq);clear hq;go_wp2;go_ret;exact⟨by rw[HE.out];rfl,HP.out.2.2.2.1⟩
   ·have hq':(x.1 == b)=false:=by simp[hq]
    go_wp2
    go_roundw
    case rel =>
     refine⟨k+1,by simp,hlt,?_,trivial⟩;intro t ht;rw[HX.out.1]at ht;rcases List.mem_append.1 ht with ht|ht
     ·exact HA.out t ht
     ·rw[List.mem_singleton.1 ht];exact hq
    case measure=>simp[intOf];omega
  ·obtain rfl:k=m:=by omega
   have hkI:¬(k:Int)<(k:Int):=by omega
   have HE:M6 (s=0):=HP.out.2.2.2.2.trans (Vh fun t ht=>HA.out t (by rw[HP.out.2.2.1,NT];exact ht));go_wp2;go_ret;exact⟨by rw[HE.out];rfl,HP.out.2.2.2.1⟩
theorem Va{l:List Fl}{k:Nat}(hk:k<l.length)(b:Int):fX (l.take (k+1)) b=fX (l.take k) b+if l[k].be=b then 1 else 0:=by
 unfold fX;rw[M9 hk,Qi,Vw,List.countP_nil];simp
theorem Vb{W:MO}{M:List M7}{U:Us}{G:Gt}(hM:M=(ef U G).toList)(h:aF W U G)(HL40:G.fls.length<=40)(b:Int):Ni MK 21 #[Ny M.toArray,MF ME b] W fun r w'=>r=MN (MF ME ((fX G.fls b:Nat):Int))/\MQ W.heap.size W w':=by
 obtain⟨Y,hY⟩:∃Y,Y=W.alloc (MP M.toArray 49):=⟨_,rfl⟩;have hYb:MQ W.heap.size W Y:=by rw[hY];exact ai W
 have hYx:Y.heap[W.heap.size]?=MI (MP M.toArray 49 (0,0)):=by rw[hY];exact M1 _ _
 have c18:Y.cell? ⟨W.heap.size,18,MH⟩=MI (MG U.pf G.fls.length U.cf):=by rw[MW Y _ 18 _ _ (0,0) hYx,hM];rfl
 obtain⟨a,cap,hv,hca,hmx,hp⟩:=bj.F6 ba (bj.below h.fls hYb);injection hv with q1 q2 q3;obtain⟨m,hm⟩:∃m,m=G.fls.length:=⟨_,rfl⟩;rw[<-hm]at c18;have hmb:m<=9223372036854775806:=by rw[hm];have:=HL40;omega
 have HP:M6 (_/\_/\_/\_):=⟨hp,q1,hm,hYb⟩;clear hYx hp q1 q2 q3 hm hmx hca h hM hYb HL40;go_enter Tryz.func21,Tryz.ntmps21;go_wp2;rw[<-hY];clear hY
 go_loopw [5,6] (fun c i wr=>∃k n:Nat,c=MF ME (n:Int)/\i=MF ME (k:Int)/\k<=m/\n<=k/\M6 (fX (G.fls.take k) b=n)/\wr=Y) (fun _ i _=>m-(intOf i).toNat)
 case atStart=>exact⟨0,0,rfl,rfl,Nx _,Nx _,rfl,rfl⟩
 case round =>
  obtain⟨k,n,rfl,rfl,hk,hnk,HA,rfl⟩:=hrel
  by_cases hlt:k<m
  ·have hkI:(k:Int)<(m:Int):=by omega
   have hkl:k<G.fls.length:=by rw[<-HP.out.2.2.1];exact hlt
   obtain⟨bo,oo,ha,hb,hc⟩:=HP.out.1 k hkl;have e3:wr.cell? ⟨bo,oo+k*7+3,MH⟩=MI (MF ME G.fls[k].be):=hc 3 (by omega);have htk:=Va hkl b;obtain⟨x,hx⟩:∃x,x=G.fls[k].be:=⟨_,rfl⟩;rw[<-hx]at e3 htk;rw[HP.out.2.1,ha]at c18;rw[HA.out]at htk;have HX:M6 _:=htk;clear hc hb ha hkl hx htk
   by_cases hq:x=b
   ·have hq':(x == b)=true:=by simp[hq]
    have HE:M6 (fX (G.fls.take (k+1)) b=n+1):=HX.out.trans (by rw[Nh hq]);clear hq;go_wp2
    go_roundw
    case rel=>exact⟨k+1,n+1,by simp,by simp,hlt,by omega,HE,trivial⟩
    case measure=>simp[intOf];omega
   ·have hq':(x == b)=false:=by simp[hq]
    have HE:M6 (fX (G.fls.take (k+1)) b=n):=HX.out.trans (by rw[Nf hq];rfl);clear hq;go_wp2
    go_roundw
    case rel=>exact⟨k+1,n,rfl,by simp,hlt,by omega,HE,trivial⟩
    case measure=>simp[intOf];omega
  ·obtain rfl:k=m:=by omega
   have hkI:¬(k:Int)<(k:Int):=by omega
   have HE:M6 (fX G.fls b=n):=by have:=HA.out;rw[HP.out.2.2.1,NT]at this;exact this
   go_wp2;go_ret;exact⟨by rw[HE.out];rfl,HP.out.2.2.2⟩
theorem Vk{P:Program}{ops:Array Oper}{rest:List Oper}{op:Oper}{a:Act}{Q:Exit->Act->MO->Prop}(hw:Region.wanted op (yielded ops a.tmps)=Nw)(ty:TypeId)(x:Operand)(ho:op.op=.load ty x)
  (b o:Nat) (hx:a.eval x=Na (MI ⟨b,o,MH⟩)) (cs:List M7) (d:TypeDesc) (hc:w.rangeAt b o cs) (hu:P.underlying ty=MI d) (hd:d.isRow=Nw) (hi:(P.info? ty).map (·.size)=MI cs.length)
  (h:wpList P ops Q rest (a.put op.dst (Ny cs.toArray)) w):wpList P ops Q (op::rest) a w :=
 wpList_step fun _ hK=>by
  rw[Nh hw];exact wp_load_mid ty x ho b o hx cs d hc hu hd hi (hK _ _ h)
structure U9(W:MO)(b:Nat)(q:Sq)(M L:List M7):Prop where
 sb:U4 W b q
 e1:M=(ef q.u q.s.bef).toList
 e2:L=(ef q.v q.s.aft).toList
section
variable {W Y:MO}{b:Nat}{q:Sq}{M L:List M7}
theorem U9.on(h:U9 W b q M L)(hb:MQ W.heap.size W Y):U9 Y b q M L:=⟨h.sb.on hb,h.e1,h.e2⟩
theorem U9.r1(h:U9 W b q M L):W.rangeAt b 8 M:=fun j v hv=>by
 rw[h.e1]at hv;have hj:j<26:=(List.getElem?_eq_some_iff.1 hv).1;rw[h.sb.F7 (8+j)];unfold JU;rw[Tw (show 8<=8+j by omega),show 8+j-(JN q.s.ev).length=j from Vv 8 j,OJ (show j<26 from hj)];exact hv
theorem U9.r2(h:U9 W b q M L):W.rangeAt b 34 L:=fun j v hv=>by
 rw[h.e2]at hv;have hj:j<26:=(List.getElem?_eq_some_iff.1 hv).1;rw[h.sb.F7 (34+j)];unfold JU;rw[<-List.append_assoc,Tw (show 34<=34+j by omega),show 34+j-(JN q.s.ev++(ef q.u q.s.bef).toList).length=j from Vv 34 j,OJ (show j<26 from hj)];exact hv
theorem U9.i1(h:U9 W b q M L):(Tryz.prog.info? 49).map (·.size)=MI M.length:=by rw[h.e1];exact iN
theorem U9.i2(h:U9 W b q M L):(Tryz.prog.info? 49).map (·.size)=MI L.length:=by rw[h.e2];exact iN
theorem U9.Vt(h:U9 W b q M L)(x:Int):Ni MK 20 #[Ny M.toArray,MF ME x] W fun r w'=>r=MN (MF ME (aA q.s.bef.liv x))/\MQ W.heap.size W w':=Vi h.e1 h.sb.rd.1 x
theorem U9.Vu(h:U9 W b q M L)(x:Int):Ni MK 20 #[Ny L.toArray,MF ME x] W fun r w'=>r=MN (MF ME (aA q.s.aft.liv x))/\MQ W.heap.size W w':=Vi h.e2 h.sb.rd.2.1 x
theorem U9.Vq(h:U9 W b q M L)(hl:q.s.bef.fls.length<=40)(x:Int):Ni MK 21 #[Ny M.toArray,MF ME x] W fun r w'=>r=MN (MF ME ((fX q.s.bef.fls x:Nat):Int))/\MQ W.heap.size W w':=Vb h.e1 h.sb.rd.1 hl x
theorem U9.Vr(h:U9 W b q M L)(hl:q.s.aft.fls.length<=40)(x:Int):Ni MK 21 #[Ny L.toArray,MF ME x] W fun r w'=>r=MN (MF ME ((fX q.s.aft.fls x:Nat):Int))/\MQ W.heap.size W w':=Vb h.e2 h.sb.rd.2.1 hl x
end
section
variable {P:Program}{ops:Array Oper}{C:MO->Prop}{Q:Act->Prop}{o:Oper}{rest:List Oper}{a:Act}
theorem Vm{id:Nat}{R:Exit->Act->MO->Prop}{l:List Oper}(hC:C w.drew)(h:wpQuiet P l.toArray C (fun a'=>∀w',C w'->R .normal a' w') l a)(hm:P.follows .mixedOrders=true:=by kernel_rfl)(hB:Region.lexB .any l.toArray=true:=by kernel_rfl):(Code.region id l.toArray Nw).wp P R a w :=
 wp_region_quiet hm hB hC (by simpa using h)
theorem Vl(v:M7)(h:K (a.put o.dst v))(hv:∀w,C w->(execOp a.eval o).run P w=.ok (.value v) w):o.quiet P a C K :=
 ⟨v,fun w hC=>by unfold Oper.quietAt;rw[hv w hC];exact⟨rfl,rfl⟩,h⟩
theorem Vo(ty:TypeId)(x:Operand)(b p:Nat)(cs:List M7){d:TypeDesc}(hS:∀w,C w->w.rangeAt b p cs)(hi:(P.info? ty).map (·.size)=MI cs.length)(hu:P.underlying ty=MI d)(h:K (a.put o.dst (Ny cs.toArray)))(ho:o.op=.load ty x:=by rfl)(hx:a.eval x=Na (MI ⟨b,p,MH⟩):=by rfl)(hd:d.isRow=true:=by rfl):o.quiet P a C K :=
 Vl _ h fun w hC=>by
  unfold execOp;simp only[ho,hx,Instr.loadAt,Instr.sureAddr,Sem.run_bind,Sem.run_pure,Result.andThen_ok,run_loadVar_mid w b p ty cs d (hS w hC) hu hd hi]
theorem Vn(v:M7)(f:FuncId)(args:Array M7)(hc:∀w,C w->Ni P f args w fun e w'=>e=MN v/\C w')(h:K (a.put o.dst v))(hv:∀w,(execOp a.eval o).run P w=.ok (.enter f args) w:=by exact fun X=>by go_simp):o.quiet P a C K :=
 ⟨v,fun w hC=>by unfold Oper.quietAt;rw[hv w];exact⟨rfl,hc w hC⟩,h⟩
end
theorem Vj(f:Nat->Int)(hf:∀i,i<16->(Lit.int ME (f i)).wf=Nw)(ds:List Dd)(hds:∀d∈ds,Kg d){pd:Option Addr}{cd:Nat}(hrow:bj Ka w (MG pd ds.length cd) ds)(hB:aK w):
  Ni MK 6 #[BD (f 0) (f 1) (f 2) (f 3) (f 4) (f 5) (f 6) (f 7) (f 8) (f 9) (f 10) (f 11) (f 12) (f 13) (f 14) (f 15),MG pd ds.length cd] w fun r w'=>r=MN (M3 Nw)/\MQ w.heap.size w w':=by
 obtain⟨L,hL,eL,hpl⟩:=Vd f hf ds hds hrow hB 60 (by omega);rw[eL];obtain⟨W0,hW0⟩:∃W0,W0=w.alloc (MP L.toArray 24):=⟨_,rfl⟩;have hb0:MQ w.heap.size w W0:=by rw[hW0];exact ai w
 have HI:M6 (_/\_/\_):=⟨hL,hb0,hpl W0 hb0⟩;obtain⟨nd,hnd⟩:∃nd,nd=ds.length:=⟨_,rfl⟩;rw[<-hnd]at HI⊢;clear hL eL hpl hb0 hf hds hrow hB hnd;go_enter Tryz.func6,Tryz.ntmps6
 go_wp2_with ((with_reducible refine O3 rfl 24 (O6 2) rfl w.heap.size 0 ?gx L _ ?gc Tryz.underlying24 ?gd ?gi ?_);(case gx=>rfl);(case gc=>exact J8 (M1 _ _));(case gd=>rfl);(case gi=>rw[HI.out.1];exact K0))
 rw[<-hW0];clear hW0;refine Nd HI.out.2.2 ?_;rintro r w1 ⟨g,V,c,P,rfl,hS,hcx,hn4,hnm,hk3⟩;obtain⟨n,hn⟩:∃n,n=P.steps.length:=⟨_,rfl⟩;have HS:M6 (_/\_/\_/\_/\_):=⟨hS,hcx,hn,(show n<=60+4 by omega),hk3⟩;have hB1:=HI.out.2.1.trans (hS.bel.mono HI.out.2.1.size);have HB:M6 _:=hB1;clear hS hcx hn4 hnm hk3 hn HI hB1
 go_wp2_with fail
 go_loopw [7,8,9] (fun i _ _ wr=>∃k:Nat,i=MF ME (k:Int)/\k<=n/\M6 (MQ w1.heap.size w1 wr)) (fun i _ _ _=>n-(intOf i).toNat)
 case atStart=>exact⟨0,rfl,Nx _,MY _ _⟩
 case round =>
  obtain⟨k,rfl,hk,HW⟩:=hrel;have hSr:=HS.out.1.on HW.out;have c16:wr.cell? ⟨g,16,MH⟩=MI (MG V.ps n V.cs):=by rw[HS.out.2.2.1];exact hSr.pat.Gm
  have hgl:=hSr.pat.lt
  by_cases hlt:k<n
  ·have hkI:(k:Int)<(n:Int):=by omega
   have hnb:n<=9223372036854775807:=by have:=HS.out.2.2.2.1;omega
   obtain⟨q,b,o,hq,hst,hok⟩:=hSr.step (k:=k) (by rw[<-HS.out.2.2.1];exact hlt);obtain⟨Y,hY,hSB,hYb,hth⟩:=hq.box;obtain⟨R,hR⟩:∃R,R=JU q:=⟨_,rfl⟩;have hat:=hq.at_;have hcs:=hq.cells;rw[<-hR]at hY hth hcs;have HQ:M6 (_/\_/\_/\_/\_/\_):=⟨hcs,hth,hY,hR,HW.out.trans (hYb.mono HW.out.size),(show R.length=61 by rw[hR];rfl)⟩;have HT:M6 (_/\_/\_/\_):=⟨hst,hok,hSB,hYb⟩;clear hq hst hok hY hSB hYb hth hR hcs;rw[hat]at c16;clear hat
   clear hSr;obtain⟨M,M2,hTw⟩:∃M M2,U9 Y wr.heap.size q M M2:=⟨_,_,HT.out.2.2.1,rfl,rfl⟩;have HM:M6 _:=hTw;clear hTw
   go_wp2_with (first|((with_reducible refine O3 rfl 72 (O6 30) rfl b (o+k*61) ?gx R _ ?gc Tryz.underlying72 ?gd ?gi ?_);(case gx=>rfl);(case gc=>exact HQ.out.1);(case gd=>rfl);(case gi=>rw[HQ.out.2.2.2.2.2];exact Vc))|((with_reducible refine wpList_store_mid rfl 72 (O6 8) (O6 31) rfl wr.heap.size 0 R.toArray ?sx ?sy ?st ?si ?s1 ?_);(case sx=>rfl);(case sy=>rfl);(case st=>exact HQ.out.2.1);(case si=>rw[List.size_toArray,HQ.out.2.2.2.2.2];exact Vc);(case s1=>rw[HQ.out.2.2.2.1];exact Ve q);rw[List.toList_toArray,<-HQ.out.2.2.1]))
   obtain⟨B8,hB8⟩:∃B8,B8=wr.heap.size:=⟨_,rfl⟩;rw[<-hB8];rw[<-hB8]at HM;clear hB8 c16 hgl
   go_loopw [9] (fun i wr=>∃j:Nat,i=MF ME (j:Int)/\j<=12/\M6 (MQ Y.heap.size Y wr)) (fun i _=>12-(intOf i).toNat)
   case atStart=>exact⟨0,rfl,Nx _,MY _ _⟩
   case round =>
    obtain⟨j,rfl,hj,HX⟩:=hrel
    by_cases hlj:j<12
    ·have hjI:(j:Int)<12:=by omega
     have hd:=HT.out.2.1.Vp (b:=(j:Int));obtain⟨s1,hs1⟩:∃s,s=aA q.s.bef.liv (j:Int):=⟨_,rfl⟩;obtain⟨s2,hs2⟩:∃s,s=aA q.s.aft.liv (j:Int):=⟨_,rfl⟩;obtain⟨c1,hc1⟩:∃s,s=fX q.s.bef.fls (j:Int):=⟨_,rfl⟩;obtain⟨c2,hc2⟩:∃s,s=fX q.s.aft.fls (j:Int):=⟨_,rfl⟩;rw[<-hs1,<-hs2,<-hc1,<-hc2]at hd;obtain⟨d1,d2,d3⟩:=hd;have HL:M6 (_/\_/\_/\_):=⟨hs1,hs2,hc1,hc2⟩;have ha:(s1 == 3)=Nb\/((s1 == 3)=Nw/\¬(c1:Int)<(c2:Int)/\c2<=c1):=by
      by_cases h:s1=3
      ·exact NF ⟨by simp[h],by have:=d1 h;omega,d1 h⟩
      ·exact Nt (by simp[h])
     have hb:((s2 == 3)=Nw/\(s2 == 4)=Nb/\(s2 == 0)=Nb/\((c2:Int) == 0)=Nb)\/((s2 == 3)=Nb/\(s2 == 4)=Nw/\((c2:Int) != 0)=Nb)\/((s2 == 3)=Nb/\(s2 == 4)=Nb/\(s2 == 0)=Nw/\((c2:Int) != 0)=Nb)\/((s2 == 3)=Nb/\(s2 == 4)=Nb/\(s2 == 0)=Nb):=by
      by_cases h3:s2=3
      ·exact Nt ⟨by simp[h3],by simp[h3],by simp[h3],by have:=d2 h3;simp;omega⟩
      ·by_cases h4:s2=4
       ·exact NF (Nt ⟨by simp[h3],by simp[h4],by have:=d3 (Nt h4);simp;omega⟩)
       ·by_cases h0:s2=0
        ·exact NF (NF (Nt ⟨by simp[h3],by simp[h4],by simp[h0],by have:=d3 (NF h0);simp;omega⟩))
        ·exact NF (NF (NF ⟨by simp[h3],by simp[h4],by simp[h0]⟩))
     have HG:M6 (_/\_):=⟨HM.out.on HX.out,HX.out⟩;have HF:M6 (_/\_):=⟨HT.out.2.1.wm.im.bs.Gb,HT.out.2.1.next.im.bs.Gb⟩;obtain⟨C,hC1,hC2⟩:∃C:MO->Prop,(∀X,C X->U9 X B8 q M M2/\MQ Y.heap.size Y X)/\(∀X,U9 X B8 q M M2/\MQ Y.heap.size Y X->C X):=⟨_,fun _ h=>h,fun _ h=>h⟩;have HCC:M6 (_/\_):=⟨hC1,hC2⟩;clear hs1 hs2 hc1 hc2 d1 d2 d3 hC1 hC2;rcases ha with a3|⟨a3,hgt,hle⟩
     all_goals
      go_wp2_with fail
      refine Vm (C:=C) (HCC.out.2 _ ⟨HG.out.1.on (MY _ _).drew,HG.out.2.trans (((MY _ _).drew).mono HG.out.2.size)⟩) ?_
      go_big_quiet_want
      refine Vl (Na (MI ⟨B8,8,MH⟩)) ?_ (fun X hSw=>by go_simp);simp only[Nr,MZ,MT,MS,MJ,ML,MM]
      go_big_quiet_on
      go_big_quiet_want
      refine Vo 49 (O6 36) B8 8 M (fun X hX=>(HCC.out.1 X hX).1.r1) HG.out.1.i1 OX ?_;simp only[Nr,MZ,MT,MS,MJ,ML,MM]
      go_big_quiet_on
      go_big_quiet_want
      refine Vl (MF ME (j:Int)) ?_ (fun X hSw=>by go_simp);simp only[Nr,MZ,MT,MS,MJ,ML,MM]
      go_big_quiet_on
      go_big_quiet_want
      refine Vn (MF ME s1) 20 #[Ny M.toArray,MF ME (j:Int)] (fun X hX=>((HCC.out.1 X hX).1.Vt _).mono fun r w' h=>⟨h.1.trans (by rw[<-HL.out.1]),HCC.out.2 w' ⟨(HCC.out.1 X hX).1.on h.2,(HCC.out.1 X hX).2.trans (h.2.mono (HCC.out.1 X hX).2.size)⟩⟩) ?_;simp only[Nr,MZ,MT,MS,MJ,ML,MM]
      go_big_quiet_on
     ·skip
      go_big_quiet_want
      refine Vl (M3 Nb) ?_ (fun X hSw=>by go_simp);simp only[Nr,MZ,MT,MS,MJ,ML,MM]
      go_big_quiet_on
      go_big_quiet_want
      refine Vl (M3 Nb) ?_ (fun X hSw=>by go_simp);simp only[Nr,MZ,MT,MS,MJ,ML,MM]
      go_big_quiet_on
      go_big_quiet_skip
      go_big_quiet_skip
      go_big_quiet_skip
      go_big_quiet_skip
      go_big_quiet_skip
      go_big_quiet_skip
      go_big_quiet_skip
      go_big_quiet_skip
      go_big_quiet_skip
      go_big_quiet_want
      refine Vl (M3 Nb) ?_ (fun X hSw=>by go_simp);simp only[Nr,MZ,MT,MS,MJ,ML,MM]
      go_big_quiet_on
      go_big_quiet_want
      refine Vl (M3 Nb) ?_ (fun X hSw=>by go_simp);simp only[Nr,MZ,MT,MS,MJ,ML,MM]
      go_big_quiet_on
      go_big_quiet_skip
      go_big_quiet_skip
      go_big_quiet_skip
      go_big_quiet_skip
      go_big_quiet_skip
      go_big_quiet_want
      refine Vl (M3 Nb) ?_ (fun X hSw=>by go_simp);simp only[Nr,MZ,MT,MS,MJ,ML,MM]
      go_big_quiet_on
      refine Oy ?_;intro X hX;replace HG:M6 (_/\_):=HCC.out.1 X hX;clear hX;rcases hb with⟨b3,b4,b0,bc⟩|⟨b3,b4,bc⟩|⟨b3,b4,b0,bc⟩|⟨b3,b4,b0⟩
      ·go_wp2_with ((with_reducible refine O3 rfl 49 (O6 59) rfl B8 34 ?gx M2 _ ?gc OX ?gd ?gi ?_);(case gx=>rfl);(case gc=>exact HG.out.1.r2);(case gd=>rfl);(case gi=>exact HG.out.1.i2))
       refine Nd (HG.out.1.Vu _) ?_;rintro r w5 ⟨rfl,hb5⟩;rw[<-HL.out.2.1];replace HG:M6 (_/\_):=⟨HG.out.1.on hb5,HG.out.2.trans (hb5.mono HG.out.2.size)⟩;clear hb5
       go_wp2_with ((with_reducible refine Vk ?gw 49 (O6 65) rfl B8 34 ?gx M2 _ ?gc OX ?gd ?gi ?_);(case gw=>rfl);(case gx=>rfl);(case gc=>exact HG.out.1.r2);(case gd=>rfl);(case gi=>exact HG.out.1.i2))
       refine Nd (HG.out.1.Vr HF.out.2 _) ?_;rintro r w5 ⟨rfl,hb5⟩;rw[<-HL.out.2.2.2];replace HG:M6 (_/\_):=⟨HG.out.1.on hb5,HG.out.2.trans (hb5.mono HG.out.2.size)⟩;clear hb5
       go_wp2_with ((with_reducible refine O3 rfl 49 (O6 71) rfl B8 34 ?gx M2 _ ?gc OX ?gd ?gi ?_);(case gx=>rfl);(case gc=>exact HG.out.1.r2);(case gd=>rfl);(case gi=>exact HG.out.1.i2))
       refine Nd (HG.out.1.Vu _) ?_;rintro r w5 ⟨rfl,hb5⟩;rw[<-HL.out.2.1];replace HG:M6 (_/\_):=⟨HG.out.1.on hb5,HG.out.2.trans (hb5.mono HG.out.2.size)⟩;clear hb5
       go_wp2_with ((with_reducible refine Vk ?gw 49 (O6 77) rfl B8 34 ?gx M2 _ ?gc OX ?gd ?gi ?_);(case gw=>rfl);(case gx=>rfl);(case gc=>exact HG.out.1.r2);(case gd=>rfl);(case gi=>exact HG.out.1.i2))
       refine Nd (HG.out.1.Vu _) ?_;rintro r w5 ⟨rfl,hb5⟩;rw[<-HL.out.2.1];replace HG:M6 (_/\_):=⟨HG.out.1.on hb5,HG.out.2.trans (hb5.mono HG.out.2.size)⟩;clear hb5;go_wp2
       go_roundw
       case rel=>exact⟨j+1,by simp,hlj,HG.out.2⟩
       case measure=>simp[intOf];omega
      ·go_wp2_with ((with_reducible refine O3 rfl 49 (O6 59) rfl B8 34 ?gx M2 _ ?gc OX ?gd ?gi ?_);(case gx=>rfl);(case gc=>exact HG.out.1.r2);(case gd=>rfl);(case gi=>exact HG.out.1.i2))
       refine Nd (HG.out.1.Vu _) ?_;rintro r w5 ⟨rfl,hb5⟩;rw[<-HL.out.2.1];replace HG:M6 (_/\_):=⟨HG.out.1.on hb5,HG.out.2.trans (hb5.mono HG.out.2.size)⟩;clear hb5
       go_wp2_with ((with_reducible refine O3 rfl 49 (O6 71) rfl B8 34 ?gx M2 _ ?gc OX ?gd ?gi ?_);(case gx=>rfl);(case gc=>exact HG.out.1.r2);(case gd=>rfl);(case gi=>exact HG.out.1.i2))
       refine Nd (HG.out.1.Vu _) ?_;rintro r w5 ⟨rfl,hb5⟩;rw[<-HL.out.2.1];replace HG:M6 (_/\_):=⟨HG.out.1.on hb5,HG.out.2.trans (hb5.mono HG.out.2.size)⟩;clear hb5
       go_wp2_with ((with_reducible refine Vk ?gw 49 (O6 84) rfl B8 34 ?gx M2 _ ?gc OX ?gd ?gi ?_);(case gw=>rfl);(case gx=>rfl);(case gc=>exact HG.out.1.r2);(case gd=>rfl);(case gi=>exact HG.out.1.i2))
       refine Nd (HG.out.1.Vr HF.out.2 _) ?_;rintro r w5 ⟨rfl,hb5⟩;rw[<-HL.out.2.2.2];replace HG:M6 (_/\_):=⟨HG.out.1.on hb5,HG.out.2.trans (hb5.mono HG.out.2.size)⟩;clear hb5;go_wp2
       go_roundw
       case rel=>exact⟨j+1,by simp,hlj,HG.out.2⟩
       case measure=>simp[intOf];omega
      ·go_wp2_with ((with_reducible refine O3 rfl 49 (O6 59) rfl B8 34 ?gx M2 _ ?gc OX ?gd ?gi ?_);(case gx=>rfl);(case gc=>exact HG.out.1.r2);(case gd=>rfl);(case gi=>exact HG.out.1.i2))
       refine Nd (HG.out.1.Vu _) ?_;rintro r w5 ⟨rfl,hb5⟩;rw[<-HL.out.2.1];replace HG:M6 (_/\_):=⟨HG.out.1.on hb5,HG.out.2.trans (hb5.mono HG.out.2.size)⟩;clear hb5
       go_wp2_with ((with_reducible refine O3 rfl 49 (O6 71) rfl B8 34 ?gx M2 _ ?gc OX ?gd ?gi ?_);(case gx=>rfl);(case gc=>exact HG.out.1.r2);(case gd=>rfl);(case gi=>exact HG.out.1.i2))
       refine Nd (HG.out.1.Vu _) ?_;rintro r w5 ⟨rfl,hb5⟩;rw[<-HL.out.2.1];replace HG:M6 (_/\_):=⟨HG.out.1.on hb5,HG.out.2.trans (hb5.mono HG.out.2.size)⟩;clear hb5
       go_wp2_with ((with_reducible refine Vk ?gw 49 (O6 77) rfl B8 34 ?gx M2 _ ?gc OX ?gd ?gi ?_);(case gw=>rfl);(case gx=>rfl);(case gc=>exact HG.out.1.r2);(case gd=>rfl);(case gi=>exact HG.out.1.i2))
       refine Nd (HG.out.1.Vu _) ?_;rintro r w5 ⟨rfl,hb5⟩;rw[<-HL.out.2.1];replace HG:M6 (_/\_):=⟨HG.out.1.on hb5,HG.out.2.trans (hb5.mono HG.out.2.size)⟩;clear hb5
       go_wp2_with ((with_reducible refine Vk ?gw 49 (O6 84) rfl B8 34 ?gx M2 _ ?gc OX ?gd ?gi ?_);(case gw=>rfl);(case gx=>rfl);(case gc=>exact HG.out.1.r2);(case gd=>rfl);(case gi=>exact HG.out.1.i2))
       refine Nd (HG.out.1.Vr HF.out.2 _) ?_;rintro r w5 ⟨rfl,hb5⟩;rw[<-HL.out.2.2.2];replace HG:M6 (_/\_):=⟨HG.out.1.on hb5,HG.out.2.trans (hb5.mono HG.out.2.size)⟩;clear hb5;go_wp2
       go_roundw
       case rel=>exact⟨j+1,by simp,hlj,HG.out.2⟩
       case measure=>simp[intOf];omega
      ·go_wp2_with ((with_reducible refine O3 rfl 49 (O6 59) rfl B8 34 ?gx M2 _ ?gc OX ?gd ?gi ?_);(case gx=>rfl);(case gc=>exact HG.out.1.r2);(case gd=>rfl);(case gi=>exact HG.out.1.i2))
       refine Nd (HG.out.1.Vu _) ?_;rintro r w5 ⟨rfl,hb5⟩;rw[<-HL.out.2.1];replace HG:M6 (_/\_):=⟨HG.out.1.on hb5,HG.out.2.trans (hb5.mono HG.out.2.size)⟩;clear hb5
       go_wp2_with ((with_reducible refine O3 rfl 49 (O6 71) rfl B8 34 ?gx M2 _ ?gc OX ?gd ?gi ?_);(case gx=>rfl);(case gc=>exact HG.out.1.r2);(case gd=>rfl);(case gi=>exact HG.out.1.i2))
       refine Nd (HG.out.1.Vu _) ?_;rintro r w5 ⟨rfl,hb5⟩;rw[<-HL.out.2.1];replace HG:M6 (_/\_):=⟨HG.out.1.on hb5,HG.out.2.trans (hb5.mono HG.out.2.size)⟩;clear hb5
       go_wp2_with ((with_reducible refine Vk ?gw 49 (O6 77) rfl B8 34 ?gx M2 _ ?gc OX ?gd ?gi ?_);(case gw=>rfl);(case gx=>rfl);(case gc=>exact HG.out.1.r2);(case gd=>rfl);(case gi=>exact HG.out.1.i2))
       refine Nd (HG.out.1.Vu _) ?_;rintro r w5 ⟨rfl,hb5⟩;rw[<-HL.out.2.1];replace HG:M6 (_/\_):=⟨HG.out.1.on hb5,HG.out.2.trans (hb5.mono HG.out.2.size)⟩;clear hb5;go_wp2
       go_roundw
       case rel=>exact⟨j+1,by simp,hlj,HG.out.2⟩
       case measure=>simp[intOf];omega
     ·skip
      go_big_quiet_want
      refine Vl (M3 Nw) ?_ (fun X hSw=>by go_simp);simp only[Nr,MZ,MT,MS,MJ,ML,MM]
      go_big_quiet_on
      go_big_quiet_want
      refine Vl (M3 Nw) ?_ (fun X hSw=>by go_simp);simp only[Nr,MZ,MT,MS,MJ,ML,MM]
      go_big_quiet_on
      go_big_quiet_want
      refine Vl (Na (MI ⟨B8,34,MH⟩)) ?_ (fun X hSw=>by go_simp);simp only[Nr,MZ,MT,MS,MJ,ML,MM]
      go_big_quiet_on
      go_big_quiet_want
      refine Vo 49 (O6 42) B8 34 M2 (fun X hX=>(HCC.out.1 X hX).1.r2) HG.out.1.i2 OX ?_;simp only[Nr,MZ,MT,MS,MJ,ML,MM]
      go_big_quiet_on
      go_big_quiet_want
      refine Vl (MF ME (j:Int)) ?_ (fun X hSw=>by go_simp);simp only[Nr,MZ,MT,MS,MJ,ML,MM]
      go_big_quiet_on
      go_big_quiet_want
      refine Vn (MF ME (c2:Int)) 21 #[Ny M2.toArray,MF ME (j:Int)] (fun X hX=>((HCC.out.1 X hX).1.Vr HF.out.2 _).mono fun r w' h=>⟨h.1.trans (by rw[<-HL.out.2.2.2]),HCC.out.2 w' ⟨(HCC.out.1 X hX).1.on h.2,(HCC.out.1 X hX).2.trans (h.2.mono (HCC.out.1 X hX).2.size)⟩⟩) ?_;simp only[Nr,MZ,MT,MS,MJ,ML,MM]
      go_big_quiet_on
      go_big_quiet_want
      refine Vl (Na (MI ⟨B8,8,MH⟩)) ?_ (fun X hSw=>by go_simp);simp only[Nr,MZ,MT,MS,MJ,ML,MM]
      go_big_quiet_on
      go_big_quiet_want
      refine Vo 49 (O6 46) B8 8 M (fun X hX=>(HCC.out.1 X hX).1.r1) HG.out.1.i1 OX ?_;simp only[Nr,MZ,MT,MS,MJ,ML,MM]
      go_big_quiet_on
      go_big_quiet_want
      refine Vl (MF ME (j:Int)) ?_ (fun X hSw=>by go_simp);simp only[Nr,MZ,MT,MS,MJ,ML,MM]
      go_big_quiet_on
      go_big_quiet_want
      refine Vn (MF ME (c1:Int)) 21 #[Ny M.toArray,MF ME (j:Int)] (fun X hX=>((HCC.out.1 X hX).1.Vq HF.out.1 _).mono fun r w' h=>⟨h.1.trans (by rw[<-HL.out.2.2.1]),HCC.out.2 w' ⟨(HCC.out.1 X hX).1.on h.2,(HCC.out.1 X hX).2.trans (h.2.mono (HCC.out.1 X hX).2.size)⟩⟩) ?_;simp only[Nr,MZ,MT,MS,MJ,ML,MM]
      go_big_quiet_on
      go_big_quiet_want
      refine Vl (M3 Nb) ?_ (fun X hSw=>by go_simp);simp only[Nr,MZ,MT,MS,MJ,ML,MM]
      go_big_quiet_on
      go_big_quiet_want
      refine Vl (M3 Nb) ?_ (fun X hSw=>by go_simp);simp only[Nr,MZ,MT,MS,MJ,ML,MM]
      go_big_quiet_on
      go_big_quiet_want
      refine Vl (M3 Nb) ?_ (fun X hSw=>by go_simp);simp only[Nr,MZ,MT,MS,MJ,ML,MM]
      go_big_quiet_on
      go_big_quiet_skip
      go_big_quiet_skip
      go_big_quiet_skip
      go_big_quiet_skip
      go_big_quiet_skip
      go_big_quiet_want
      refine Vl (M3 Nb) ?_ (fun X hSw=>by go_simp);simp only[Nr,MZ,MT,MS,MJ,ML,MM]
      go_big_quiet_on
      refine Oy ?_;intro X hX;replace HG:M6 (_/\_):=HCC.out.1 X hX;clear hX;rcases hb with⟨b3,b4,b0,bc⟩|⟨b3,b4,bc⟩|⟨b3,b4,b0,bc⟩|⟨b3,b4,b0⟩
      ·go_wp2_with ((with_reducible refine O3 rfl 49 (O6 59) rfl B8 34 ?gx M2 _ ?gc OX ?gd ?gi ?_);(case gx=>rfl);(case gc=>exact HG.out.1.r2);(case gd=>rfl);(case gi=>exact HG.out.1.i2))
       refine Nd (HG.out.1.Vu _) ?_;rintro r w5 ⟨rfl,hb5⟩;rw[<-HL.out.2.1];replace HG:M6 (_/\_):=⟨HG.out.1.on hb5,HG.out.2.trans (hb5.mono HG.out.2.size)⟩;clear hb5
       go_wp2_with ((with_reducible refine Vk ?gw 49 (O6 65) rfl B8 34 ?gx M2 _ ?gc OX ?gd ?gi ?_);(case gw=>rfl);(case gx=>rfl);(case gc=>exact HG.out.1.r2);(case gd=>rfl);(case gi=>exact HG.out.1.i2))
       refine Nd (HG.out.1.Vr HF.out.2 _) ?_;rintro r w5 ⟨rfl,hb5⟩;rw[<-HL.out.2.2.2];replace HG:M6 (_/\_):=⟨HG.out.1.on hb5,HG.out.2.trans (hb5.mono HG.out.2.size)⟩;clear hb5
       go_wp2_with ((with_reducible refine O3 rfl 49 (O6 71) rfl B8 34 ?gx M2 _ ?gc OX ?gd ?gi ?_);(case gx=>rfl);(case gc=>exact HG.out.1.r2);(case gd=>rfl);(case gi=>exact HG.out.1.i2))
       refine Nd (HG.out.1.Vu _) ?_;rintro r w5 ⟨rfl,hb5⟩;rw[<-HL.out.2.1];replace HG:M6 (_/\_):=⟨HG.out.1.on hb5,HG.out.2.trans (hb5.mono HG.out.2.size)⟩;clear hb5
       go_wp2_with ((with_reducible refine Vk ?gw 49 (O6 77) rfl B8 34 ?gx M2 _ ?gc OX ?gd ?gi ?_);(case gw=>rfl);(case gx=>rfl);(case gc=>exact HG.out.1.r2);(case gd=>rfl);(case gi=>exact HG.out.1.i2))
       refine Nd (HG.out.1.Vu _) ?_;rintro r w5 ⟨rfl,hb5⟩;rw[<-HL.out.2.1];replace HG:M6 (_/\_):=⟨HG.out.1.on hb5,HG.out.2.trans (hb5.mono HG.out.2.size)⟩;clear hb5;go_wp2
       go_roundw
       case rel=>exact⟨j+1,by simp,hlj,HG.out.2⟩
       case measure=>simp[intOf];omega
      ·go_wp2_with ((with_reducible refine O3 rfl 49 (O6 59) rfl B8 34 ?gx M2 _ ?gc OX ?gd ?gi ?_);(case gx=>rfl);(case gc=>exact HG.out.1.r2);(case gd=>rfl);(case gi=>exact HG.out.1.i2))
       refine Nd (HG.out.1.Vu _) ?_;rintro r w5 ⟨rfl,hb5⟩;rw[<-HL.out.2.1];replace HG:M6 (_/\_):=⟨HG.out.1.on hb5,HG.out.2.trans (hb5.mono HG.out.2.size)⟩;clear hb5
       go_wp2_with ((with_reducible refine O3 rfl 49 (O6 71) rfl B8 34 ?gx M2 _ ?gc OX ?gd ?gi ?_);(case gx=>rfl);(case gc=>exact HG.out.1.r2);(case gd=>rfl);(case gi=>exact HG.out.1.i2))
       refine Nd (HG.out.1.Vu _) ?_;rintro r w5 ⟨rfl,hb5⟩;rw[<-HL.out.2.1];replace HG:M6 (_/\_):=⟨HG.out.1.on hb5,HG.out.2.trans (hb5.mono HG.out.2.size)⟩;clear hb5
       go_wp2_with ((with_reducible refine Vk ?gw 49 (O6 84) rfl B8 34 ?gx M2 _ ?gc OX ?gd ?gi ?_);(case gw=>rfl);(case gx=>rfl);(case gc=>exact HG.out.1.r2);(case gd=>rfl);(case gi=>exact HG.out.1.i2))
       refine Nd (HG.out.1.Vr HF.out.2 _) ?_;rintro r w5 ⟨rfl,hb5⟩;rw[<-HL.out.2.2.2];replace HG:M6 (_/\_):=⟨HG.out.1.on hb5,HG.out.2.trans (hb5.mono HG.out.2.size)⟩;clear hb5;go_wp2
       go_roundw
       case rel=>exact⟨j+1,by simp,hlj,HG.out.2⟩
       case measure=>simp[intOf];omega
      ·go_wp2_with ((with_reducible refine O3 rfl 49 (O6 59) rfl B8 34 ?gx M2 _ ?gc OX ?gd ?gi ?_);(case gx=>rfl);(case gc=>exact HG.out.1.r2);(case gd=>rfl);(case gi=>exact HG.out.1.i2))
       refine Nd (HG.out.1.Vu _) ?_;rintro r w5 ⟨rfl,hb5⟩;rw[<-HL.out.2.1];replace HG:M6 (_/\_):=⟨HG.out.1.on hb5,HG.out.2.trans (hb5.mono HG.out.2.size)⟩;clear hb5
       go_wp2_with ((with_reducible refine O3 rfl 49 (O6 71) rfl B8 34 ?gx M2 _ ?gc OX ?gd ?gi ?_);(case gx=>rfl);(case gc=>exact HG.out.1.r2);(case gd=>rfl);(case gi=>exact HG.out.1.i2))
       refine Nd (HG.out.1.Vu _) ?_;rintro r w5 ⟨rfl,hb5⟩;rw[<-HL.out.2.1];replace HG:M6 (_/\_):=⟨HG.out.1.on hb5,HG.out.2.trans (hb5.mono HG.out.2.size)⟩;clear hb5
       go_wp2_with ((with_reducible refine Vk ?gw 49 (O6 77) rfl B8 34 ?gx M2 _ ?gc OX ?gd ?gi ?_);(case gw=>rfl);(case gx=>rfl);(case gc=>exact HG.out.1.r2);(case gd=>rfl);(case gi=>exact HG.out.1.i2))
       refine Nd (HG.out.1.Vu _) ?_;rintro r w5 ⟨rfl,hb5⟩;rw[<-HL.out.2.1];replace HG:M6 (_/\_):=⟨HG.out.1.on hb5,HG.out.2.trans (hb5.mono HG.out.2.size)⟩;clear hb5
       go_wp2_with ((with_reducible refine Vk ?gw 49 (O6 84) rfl B8 34 ?gx M2 _ ?gc OX ?gd ?gi ?_);(case gw=>rfl);(case gx=>rfl);(case gc=>exact HG.out.1.r2);(case gd=>rfl);(case gi=>exact HG.out.1.i2))
       refine Nd (HG.out.1.Vr HF.out.2 _) ?_;rintro r w5 ⟨rfl,hb5⟩;rw[<-HL.out.2.2.2];replace HG:M6 (_/\_):=⟨HG.out.1.on hb5,HG.out.2.trans (hb5.mono HG.out.2.size)⟩;clear hb5;go_wp2
       go_roundw
       case rel=>exact⟨j+1,by simp,hlj,HG.out.2⟩
       case measure=>simp[intOf];omega
      ·go_wp2_with ((with_reducible refine O3 rfl 49 (O6 59) rfl B8 34 ?gx M2 _ ?gc OX ?gd ?gi ?_);(case gx=>rfl);(case gc=>exact HG.out.1.r2);(case gd=>rfl);(case gi=>exact HG.out.1.i2))
       refine Nd (HG.out.1.Vu _) ?_;rintro r w5 ⟨rfl,hb5⟩;rw[<-HL.out.2.1];replace HG:M6 (_/\_):=⟨HG.out.1.on hb5,HG.out.2.trans (hb5.mono HG.out.2.size)⟩;clear hb5
       go_wp2_with ((with_reducible refine O3 rfl 49 (O6 71) rfl B8 34 ?gx M2 _ ?gc OX ?gd ?gi ?_);(case gx=>rfl);(case gc=>exact HG.out.1.r2);(case gd=>rfl);(case gi=>exact HG.out.1.i2))
       refine Nd (HG.out.1.Vu _) ?_;rintro r w5 ⟨rfl,hb5⟩;rw[<-HL.out.2.1];replace HG:M6 (_/\_):=⟨HG.out.1.on hb5,HG.out.2.trans (hb5.mono HG.out.2.size)⟩;clear hb5
       go_wp2_with ((with_reducible refine Vk ?gw 49 (O6 77) rfl B8 34 ?gx M2 _ ?gc OX ?gd ?gi ?_);(case gw=>rfl);(case gx=>rfl);(case gc=>exact HG.out.1.r2);(case gd=>rfl);(case gi=>exact HG.out.1.i2))
       refine Nd (HG.out.1.Vu _) ?_;rintro r w5 ⟨rfl,hb5⟩;rw[<-HL.out.2.1];replace HG:M6 (_/\_):=⟨HG.out.1.on hb5,HG.out.2.trans (hb5.mono HG.out.2.size)⟩;clear hb5;go_wp2
       go_roundw
       case rel=>exact⟨j+1,by simp,hlj,HG.out.2⟩
       case measure=>simp[intOf];omega
    ·obtain rfl:j=12:=by omega
     have hjI:¬((12:Nat):Int)<12:=by omega
     go_wp2
     go_roundw
     case rel=>exact⟨k+1,by simp,hlt,HQ.out.2.2.2.2.1.trans (HX.out.mono HQ.out.2.2.2.2.1.size)⟩
     case measure=>simp[intOf];omega
  ·obtain rfl:k=n:=by omega
   have hkI:¬(k:Int)<(k:Int):=by omega
   go_wp2;go_ret;exact⟨rfl,HB.out.trans (HW.out.mono HB.out.size)⟩
end Go.Proofs.YtinbndbjlgoghaaGreatDoor.Q
