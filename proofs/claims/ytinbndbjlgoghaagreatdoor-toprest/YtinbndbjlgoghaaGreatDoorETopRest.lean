/-
  TopRest: its walk. Conditions: as each theorem says.
-/
import Derived.Test.YtinbndbjlgoghaaGreatDoorQ20
open Bool renaming false->Nb,true->Nw
open Go renaming World->MO,cell_of_row->MW,heap_alloc_new->M1,wpList_load_mid->O3
open Go.IntKind renaming i64->ME
open Go.Obj renaming cells->MP
open Go.Operand renaming tmp->O6
open Go.RowKit renaming Below->MQ,Hid->M6
open Go.RowKit.Below renaming refl->MY
open Go.Value renaming agg->Ny,bool->M3,int->MF,slice->MG
open List renaming foldl_cons->O4,mem_cons_of_mem->NB,take_length->NT
open Option renaming none->MH,some->MI
open Or renaming inl->Nt,inr->NF
namespace Go.Proofs.YtinbndbjlgoghaaGreatDoor.Q
set_option linter.unusedVariables false
set_option linter.unusedSimpArgs false
set_option maxHeartbeats 16000000
set_option maxRecDepth 100000
open Go.RowKit
attribute [local go_sem ↓] Go.wp_at_zero Go.wp_at_succ
variable {c:Cf}{X:Gt}{w:MO}
section
variable {G:Gt}{c:Cf}
theorem U3(G:Gt)(b:Int):(cj G b).out=G.out\/∃o,(cj G b).out=G.out++[o]:=by
 unfold cj
 split
 ·exact NF ⟨_,rfl⟩
 ·exact Nt rfl
theorem U4(G:Gt)(f:Fl)(k y:Int):∃l,(dn G f k y).out=G.out++(⟨k,f.slot,f.gen,f.be,0,0,y⟩:Ou)::l:=by
 unfold dn;rcases U3 (ge {G with tab:=(ed G.tab f.slot f.gen).1,fls:=bO G.fls f.slot f.gen,tms:=fun t=>G.tms t/\t.2≠f.slot} ⟨k,f.slot,f.gen,f.be,0,0,y⟩) f.be with e|⟨o,e⟩
 ·exact⟨[],e⟩
 ·exact⟨[o],by rw[e];simp[ge]⟩
theorem U9(hb:Bs G){i:Nat}(hi:i<G.fls.length)(y:Int):∃o l,(dP G i y).out=G.out++o::l/\(o.kind=5\/o.kind=6):=by
 rcases pI hb hi y with⟨z,q,hz⟩|⟨b,q,hd,hr,h2,hc,_⟩
 ·obtain⟨l,e⟩:=U4 (dg G G.fls[i].be Nw) G.fls[i] 6 z
  exact⟨_,l,by rw[q];exact e,NF rfl⟩
 ·obtain⟨T,e⟩:=KA (G:={dg G G.fls[i].be Nw with tok:=G.tok-G.cfg.bd}) hi b
  rw[q,e];rcases U3 (ge {{dg G G.fls[i].be Nw with tok:=G.tok-G.cfg.bd}with tab:=(db G.tab G.fls[i].slot G.fls[i].gen b).1,fls:=G.fls.set i {G.fls[i]with be:=b,ret:=G.fls[i].ret+1,due:=G.now+G.cfg.conn},tms:=T} ⟨5,G.fls[i].slot,G.fls[i].gen,b,0,0,0⟩) G.fls[i].be with e|⟨o,e⟩
  ·exact⟨_,[],e,Nt rfl⟩
  ·exact⟨(⟨5,G.fls[i].slot,G.fls[i].gen,b,0,0,0⟩:Ou),[o],e.trans (by simp[ge,dg]),Nt rfl⟩
end
section
variable {G:Gt}{c:Cf}
theorem U7(X:Gt)(f:Fl)(k y:Int):(dn X f k y).out≠[]:=by
 obtain⟨l,e⟩:=U4 X f k y;rw[e];simp
theorem Va(hb:Bs X){i:Nat}(hi:i<X.fls.length)(y:Int):(dP X i y).out≠[]:=by
 obtain⟨o,l,e,_⟩:=U9 hb hi y;rw[e];simp
theorem U2(h:Im X):∀ {l:List Tm},l.Pairwise (fun a b=>a.1<b.1)->(∀t∈l,∃f∈X.fls,f.slot=t.1)->l≠[]->(l.foldl bM X).out≠[]
 | [],_,_,h=>absurd rfl h
 |t::l,hn,hs,_=>by
  obtain⟨f,hf,e⟩:=hs t (by simp);obtain⟨hi,e1⟩:=h.bs.GG hf;have hq:bM X t=dn X f 6 2:=by unfold bM;rw[<-e,bJ hi,e1]
  have h3:kD X (bM X t) t.1:=by rw[hq,<-e];exact lG h.bs hf _ _
  obtain⟨n1,n2⟩:=List.pairwise_cons.1 hn;refine Ks (R:=fun X=>X.out≠[]) (fun X f y _ _ _ _=>U7 X f 6 y) l _ (by rw[hq];exact h.Hc hf _ _) n2 (fun c hc=>?_) (by rw[hq];exact U7 _ _ _ _);obtain⟨k,hk,e2⟩:=hs c (NB _ hc);refine⟨k,(h3 k fun e3=>?_).2 hk,e2⟩;have:=n1 c hc;omega
theorem UZ(h:Im X)(l:FV):dV X l=X\/(dV X l).out≠[]:=by
 unfold dV
 split
 ·exact Nt rfl
 ·obtain⟨a1,a2⟩:=h.bs.IW l.1
  by_cases hn:cz l.1 X.tab=[]
  ·rw[hn];exact Nt rfl
  ·exact NF (U2 h a1 (fun t ht=>by obtain⟨f,hf,e,_⟩:=a2 t ht;exact⟨f,hf,e⟩) hn)
theorem U1{l:FV}(h3:l.2.1=3):∀(L:List FV) (X:Gt),Im X->l∈L->l.2.2.2.2.1<=X.now->(∃f∈X.fls,f.be=l.1)->(L.foldl dV X).out≠[]
 | [],_,_,hl,_,_=>by cases hl
 |x::L,X,h,hl,hu,hf=>by
  have hkeep:(dV X x).out≠[]->(L.foldl dV (dV X x)).out≠[]:=fun ho=>Kq (R:=fun X=>X.out≠[]) (fun X f y _ _ _ _=>U7 X f 6 y) L _ (yv h x).1 ho
  rw[O4];rcases List.mem_cons.1 hl with e|hl
  ·subst e
   refine hkeep ?_;unfold dV;rw[Nf (by omega)];obtain⟨a1,a2⟩:=h.bs.IW l.1;refine U2 h a1 (fun t ht=>by obtain⟨f,hf,e,_⟩:=a2 t ht;exact⟨f,hf,e⟩) fun hn=>?_
   obtain⟨f,hf,e⟩:=hf;have:=h.bs.Jj hf;rw[e,hn]at this;cases this
  ·rcases UZ h x with e|e
   ·rw[e];exact U1 h3 L X h hl hu hf
   ·exact hkeep e
theorem U0:∀(L:List FV) (X:Gt),(∀l∈L,l.2.1=3->X.now<l.2.2.2.2.1)->L.foldl dV X=X
 | [],_,_=>rfl
 |x::L,X,h=>by
  have e:dV X x=X:=by
   unfold dV;rw[Nh]
   by_cases h3:x.2.1=3
   ·exact NF (h x (by simp) h3)
   ·exact Nt h3
  rw[O4,e];exact U0 L X fun l hl=>h l (NB _ hl)
theorem JM.rest{s:Sp}(h:JM c s)(k7:s.ev.kind=7):((∃f∈s.bef.fls,f.due=s.aft.now)\/∃l∈s.bef.liv,l.2.1=3/\l.2.2.2.2.1=s.aft.now)↔s.out≠[]:=by
 have hb:=h.wm.im.bs;have hn:=h.late k7;have en:s.aft.now=s.bef.now+1:=by rw[h.aft];show(iG s.bef s.ev).now=_;rw[(KF _ _).2,Nh k7]
 have eo:s.out=(mK s.bef).out:=by
  rw[h.out];unfold iG;rw[Nf (by omega),Nf (by omega),Nf (by omega),Nh k7]
 obtain⟨a1,a2,a3,a4,a5,a6⟩:=h.wm.My hn;obtain⟨_,_,_,_,e5,_,_,e8⟩:=yj (hb.next hn);have ea:(J1 s.bef).out=[]:=(show(J1 s.bef).out=s.bef.out from e5).trans h.out0;have el:(J1 s.bef).liv=s.bef.liv.map (aY (s.bef.now+1)):=e8;have hkeep:∀X,Im X->X.out≠[]->(qU X).out≠[]:=fun X hX ho=>Kq (R:=fun X=>X.out≠[]) (fun X f y _ _ _ _=>U7 X f 6 y) _ _ hX ho
 have et:mK s.bef=qU ((fK (JI s.bef).fls ((JI s.bef).wnow+1)).foldl bE (J1 s.bef)):=rfl;rw[a5,a6]at a2 a3 et;rw[en,eo,et];constructor
 ·intro hd
  by_cases hf:fK s.bef.fls (s.bef.now+1)=[]
  ·rw[hf]
   rcases hd with⟨f,hf1,e⟩|⟨l,hl,h3,e⟩
   ·have:=tH hf1 e
    rw[hf]at this;cases this
   ·have hl2:l∈(J1 s.bef).liv:=by
     rw[el];refine List.mem_map.2 ⟨l,hl,?_⟩;unfold aY;rw[Nf (by omega)]
    refine U1 h3 _ _ a1 hl2 (by rw[e];exact Int.le_of_eq a4.symm) ?_;obtain⟨f,hf,e⟩:=lP.1 (h.wm.im.drn l hl h3);exact⟨f,by show f∈(JI s.bef).fls;rw[a6];exact hf,e⟩
  ·cases hs:fK s.bef.fls (s.bef.now+1)with
   |nil=>exact absurd hs hf
   |cons x l =>
    rw[hs]at a2 a3;obtain⟨f,hf,e⟩:=a2 x (by simp);subst e;have hfa:f∈(J1 s.bef).fls:=by show f∈(JI s.bef).fls;rw[a6];exact hf
    obtain⟨b1,b2,b3,_⟩:=tS a1 hfa;obtain⟨n1,n2⟩:=List.nodup_cons.1 a3;have hex:∀c∈l,∃k∈(bE (J1 s.bef) f.slot).fls,k.slot=c:=fun c hc=>by
     obtain⟨k,hk,e⟩:=a2 c (NB _ hc);subst e;exact⟨k,(b3 k fun e=>n1 (by rw[<-e];exact hc)).2 (by show k∈(JI s.bef).fls;rw[a6];exact hk),rfl⟩
    have hone:(bE (J1 s.bef) f.slot).out≠[]:=by
     obtain⟨hi,e⟩:=a1.bs.GG hfa;unfold bE;simp only[]
     split
     ·exact U7 _ _ _ _
     ·exact Va a1.bs hi _
    rw[O4];refine hkeep _ ?_ ?_
    ·exact Kc (R:=Im) (fun X f y hX hf _ _=>hX.Hc hf 6 y) (fun X i hX hi _ _=>hX.I8 hi 5) l _ b1 n2 hex b1
    ·exact Kc (R:=fun X=>X.out≠[]) (fun X f y _ _ _ _=>U7 X f 6 y) (fun X i hX hi _ _=>Va hX.bs hi 5) l _ b1 n2 hex hone
 ·intro ho
  refine Classical.byContradiction fun hd=>ho ?_
  have hf:fK s.bef.fls (s.bef.now+1)=[]:=by
   unfold fK;rw[List.filter_eq_nil_iff.2 fun f hf e=>hd (Nt ⟨f,hf,by simpa using e⟩)];rfl
  rw[hf];show(qU (J1 s.bef)).out=[];unfold qU;rw[U0 _ _ fun l hl h3=>?_]
  ·exact ea
  ·rw[el]at hl
   obtain⟨x,hx,e⟩:=List.mem_map.1 hl;unfold aY at e
   split at e
   ·rw[<-e]at h3;cases h3
   ·subst e
    have:=h.wm.till x hx h3;have h4:¬x.2.2.2.2.1=s.bef.now+1:=fun e=>hd (NF ⟨x,hx,h3,e⟩)
    have:(J1 s.bef).now=s.bef.now+1:=a4;omega
end
abbrev Vk:List Value:=[MF ME 0,MF ME 0,MF ME 0,MF ME 0,M3 Nb,MF ME 0,MF ME 0,MF ME 0,MF ME 0,MF ME 0,MF ME 0,MF ME 0,MF ME 0,MF ME 0,MF ME 0,MF ME 0,MF ME 0,MF ME 0,MF ME 0,MF ME 0,MF ME 0,MF ME 0,MF ME 0,MF ME 0,MF ME 0,MG MH 0 0,MG MH 0 0,MG MH 0 0,MG MH 0 0,MG MH 0 0,MG MH 0 0,MF ME 0,MF ME 0,MG MH 0 0,MF ME 0,MF ME 0,MF ME 0,MF ME 0,MF ME 0,MF ME 0,MF ME 0,MF ME 0,MF ME 0,MF ME 0,MF ME 0,MF ME 0,MF ME 0,MF ME 0,MF ME 0,MF ME 0,MF ME 0,MG MH 0 0,MG MH 0 0,MG MH 0 0,MG MH 0 0,MG MH 0 0,MG MH 0 0,MF ME 0,MF ME 0,MG MH 0 0,MG MH 0 0]
theorem Vg:(Tryz.prog.info? 72).map (·.size)=MI 61:=by kernel_rfl
theorem Jz.Gm{base:Nat}{g:Nat}{V:Pv}{P:Py}(h:Jz base w g V c P):w.cell? ⟨g,16,MH⟩=MI (MG V.ps P.steps.length V.cs):=by
 rw[MW w g 16 _ _ (0,0) h.box,h.steps];rfl
structure Vb(W:MO)(ps:Option Addr)(k:Nat)(q:Sq)(b o:Nat):Prop where
 at_:ps=MI ⟨b,o,MH⟩
 cells:W.rangeAt b (o+k*61) (JU q)
 rd:Kh W q
theorem JD.step{W:MO}{g:Nat}{V:Pv}{P:Py}(h:JD w W g V c P){k:Nat}(hk:k<P.steps.length):∃q b o,Vb W V.ps k q b o/\P.steps[k]?=MI q.s/\JM c q.s:=by
 have hl:=h.pat.steps;have hkq:k<V.qs.length:=by omega
 have hrv:bj JU W (MG V.ps V.qs.length V.cs) V.qs:=gZ h.pat.rows;obtain⟨a,cap,hv,_,_,hp⟩:=bj.F6 LV hrv;injection hv with q1 _ _;obtain⟨b,o,ha,hb,hc⟩:=hp k hkq;have e:P.steps[k]?=MI V.qs[k].s:=by rw[<-h.pat.eqs,List.getElem?_map,List.getElem?_eq_getElem hkq];rfl
 refine⟨V.qs[k],b,o,⟨q1.trans ha,fun j v hv=>?_,(h.pat.all _ (List.getElem_mem hkq)).now⟩,e,h.rn.runs.chain _ (List.mem_of_getElem? e)⟩;have hj:j<61:=(List.getElem?_eq_some_iff.1 hv).1;rw[hc j hj];exact hv
structure Vc(W:MO)(b:Nat)(q:Sq):Prop where
 box:W.heap[b]?=MI (MP (JU q).toArray 72 (0,0))
 rd:Kh W q
theorem Kh.below{W Y:MO}{q:Sq}(h:Kh W q)(hb:MQ W.heap.size W Y):Kh Y q:=⟨h.1.below hb,h.2.1.below hb,h.2.2.below hb⟩
theorem Vc.on{W Y:MO}{b:Nat}{q:Sq}(h:Vc W b q)(hb:MQ W.heap.size W Y):Vc Y b q:=⟨af h.box hb,h.rd.below hb⟩
theorem Vj(q:Sq):(JU q).toArray.all (·.oneCell')=true:=by
 apply all_oneCell_toArray;exact LU q
theorem Vb.box{W:MO}{ps:Option Addr}{k:Nat}{q:Sq}{b o:Nat}(h:Vb W ps k q b o):∃Y,Y=(W.alloc (MP Vk.toArray 72)).setCells W.heap.size 0 (JU q)/\Vc Y W.heap.size q/\MQ W.heap.size W Y/\(W.alloc (MP Vk.toArray 72)).there W.heap.size 0 (JU q).toArray.size:=by
 have hZ:(W.alloc (MP Vk.toArray 72)).heap[W.heap.size]?=MI (MP Vk.toArray 72 (0,0)):=M1 _ _;have hB:MQ W.heap.size W ((W.alloc (MP Vk.toArray 72)).setCells W.heap.size 0 (JU q)):=tW (ai W) (Nat.le_refl _) _ _ (by simp);exact⟨_,rfl,⟨KM hZ rfl,h.rd.below hB⟩,hB,(show(W.alloc (MP Vk.toArray 72)).there W.heap.size 0 (JU q).toArray.size from sF (old:=Vk) hZ)⟩
theorem Vc.F7{W:MO}{b:Nat}{q:Sq}(h:Vc W b q)(j:Nat):W.cell? ⟨b,j,MH⟩=(JU q)[j]?:=by
 rw[MW W b j _ _ (0,0) h.box];simp
theorem Vh(f:Nat->Int)(hf:∀i,i<16->(Lit.int ME (f i)).wf=Nw)(ds:List Dd)(hds:∀d∈ds,Kg d){pd:Option Addr}{cd:Nat}(hrow:bj Ka w (MG pd ds.length cd) ds)(hblk:aK w)(most:Nat)(hm:most<=100):
  ∃L:List Value,L.length=16/\BD (f 0) (f 1) (f 2) (f 3) (f 4) (f 5) (f 6) (f 7) (f 8) (f 9) (f 10) (f 11) (f 12) (f 13) (f 14) (f 15)=Ny L.toArray/\∀W,MQ w.heap.size w W->Calls Tryz.prog 18 #[Ny L.toArray,MG pd ds.length cd,MF ME (most:Int)] W (Lq f most W):=
 ⟨[MF ME (f 0),MF ME (f 1),MF ME (f 2),MF ME (f 3),MF ME (f 4),MF ME (f 5),MF ME (f 6),MF ME (f 7),MF ME (f 8),MF ME (f 9),MF ME (f 10),MF ME (f 11),MF ME (f 12),MF ME (f 13),MF ME (f 14),MF ME (f 15)],rfl,rfl,fun W hB=>L6 f hf ds hds W (hrow.below hB) (hblk.below hB) most hm⟩
theorem Vd{α:Type}{l:List α}{k:Nat}(hk:k<l.length)(p:α->Bool):(l.take (k+1)).any p=((l.take k).any p || p l[k]):=by
 rw[List.take_succ_eq_append_getElem hk,List.any_append];simp
abbrev Ve(n:Int)(f:Fl):Bool:=f.due == n
abbrev Vf(n:Int)(l:FV):Bool:=(l.2.1 == 3) && (l.2.2.2.2.1 == n)
theorem Vi{s:Sp}(h:JM c s)(h7:s.ev.kind=7):(s.bef.fls.any (Ve s.aft.now) || s.bef.liv.any (Vf s.aft.now))=Decidable.decide (0<s.out.length):=by
 have hr:=h.rest h7;rw[Bool.eq_iff_iff,decide_eq_true_eq,List.length_pos_iff,<-hr,Bool.or_eq_true,List.any_eq_true,List.any_eq_true];simp[Ve,Vf]
theorem Vl(f:Nat->Int)(hf:∀i,i<16->(Lit.int ME (f i)).wf=Nw)(ds:List Dd)(hds:∀d∈ds,Kg d){pd:Option Addr}{cd:Nat}(hrow:bj Ka w (MG pd ds.length cd) ds)(hB:aK w):
  Calls Tryz.prog 11 #[BD (f 0) (f 1) (f 2) (f 3) (f 4) (f 5) (f 6) (f 7) (f 8) (f 9) (f 10) (f 11) (f 12) (f 13) (f 14) (f 15),MG pd ds.length cd] w fun r w'=>r=Ending.returned (M3 Nw)/\MQ w.heap.size w w':=by
 obtain⟨L,hL,eL,hpl⟩:=Vh f hf ds hds hrow hB 60 (by omega);rw[eL];obtain⟨W0,hW0⟩:∃W0,W0=w.alloc (MP L.toArray 24):=⟨_,rfl⟩;have hb0:MQ w.heap.size w W0:=by rw[hW0];exact ai w
 have HI:M6 (_/\_/\_):=⟨hL,hb0,hpl W0 hb0⟩;obtain⟨nd,hnd⟩:∃nd,nd=ds.length:=⟨_,rfl⟩;rw[<-hnd]at HI⊢;clear hL eL hpl hb0 hf hds hrow hB hnd;go_enter Tryz.func11,Tryz.ntmps11
 go_wp2_with ((with_reducible refine O3 rfl 24 (O6 2) rfl w.heap.size 0 ?gx L _ ?gc Tryz.underlying24 ?gd ?gi ?_);(case gx=>rfl);(case gc=>exact J8 (M1 _ _));(case gd=>rfl);(case gi=>rw[HI.out.1];exact K0))
 rw[<-hW0];clear hW0;refine Calls.mono HI.out.2.2 ?_;rintro r w1 ⟨g,V,c,P,rfl,hS,hcx,hn4,hnm,hk3⟩;obtain⟨n,hn⟩:∃n,n=P.steps.length:=⟨_,rfl⟩;have HS:M6 (_/\_/\_/\_/\_):=⟨hS,hcx,hn,(show n<=60+4 by omega),hk3⟩;have hB1:=HI.out.2.1.trans (hS.bel.mono HI.out.2.1.size);have HB:M6 _:=hB1;clear hS hcx hn4 hnm hk3 hn HI hB1
 go_wp2_with fail
 go_loopw [7,8,9,10,11,12] (fun i _ _ _ _ _ wr=>∃k:Nat,i=MF ME (k:Int)/\k<=n/\M6 (MQ w1.heap.size w1 wr)) (fun i _ _ _ _ _ _=>n-(intOf i).toNat)
 case atStart=>exact⟨0,rfl,Nat.zero_le _,MY _ _⟩
 case round =>
  obtain⟨k,rfl,hk,HW⟩:=hrel;have hSr:=HS.out.1.on HW.out;have c16:wr.cell? ⟨g,16,MH⟩=MI (MG V.ps n V.cs):=by rw[HS.out.2.2.1];exact hSr.pat.Gm
  have hgl:=hSr.pat.lt
  by_cases hlt:k<n
  ·have hkI:(k:Int)<(n:Int):=by omega
   have hnb:n<=9223372036854775807:=by have:=HS.out.2.2.2.1;omega
   obtain⟨q,b,o,hq,hst,hok⟩:=hSr.step (k:=k) (by rw[<-HS.out.2.2.1];exact hlt);obtain⟨Y,hY,hSB,hYb,hth⟩:=hq.box;obtain⟨R,hR⟩:∃R,R=JU q:=⟨_,rfl⟩;have hat:=hq.at_;have y0:Y.cell? ⟨wr.heap.size,0,MH⟩=MI (MF ME q.s.ev.kind):=(hSB.F7 0).trans rfl;have hcs:=hq.cells;rw[<-hR]at hY hth hcs;have HQ:M6 (_/\_/\_/\_/\_/\_):=⟨hcs,hth,hY,hR,HW.out.trans (hYb.mono HW.out.size),(show R.length=61 by rw[hR];rfl)⟩;have HT:M6 (_/\_/\_/\_):=⟨hst,hok,hSB,hYb⟩;clear hq hst hok hY hSB hYb hth hR hcs;rw[hat]at c16;clear hat
   clear hSr
   by_cases h7:q.s.ev.kind=7
   rotate_left
   have h7':(q.s.ev.kind != 7)=true:=by simp[h7]
   rotate_left
   have hRe:=Vi HT.out.2.1 h7;obtain⟨nw,hnw⟩:∃nw,nw=q.s.aft.now:=⟨_,rfl⟩;obtain⟨m,hm⟩:∃m,m=q.s.bef.fls.length:=⟨_,rfl⟩;obtain⟨ml,hml⟩:∃m,m=q.s.bef.liv.length:=⟨_,rfl⟩;obtain⟨no,hno⟩:∃m,m=q.s.out.length:=⟨_,rfl⟩;rw[<-hnw,<-hno]at hRe;have HN:M6 (nw=q.s.aft.now/\m=q.s.bef.fls.length/\ml=q.s.bef.liv.length/\no=q.s.out.length/\_):=⟨hnw,hm,hml,hno,hRe⟩;have hmb:m<=40:=by rw[hm];exact HT.out.2.1.wm.im.bs.Gb
   have hlb:ml<=12:=by rw[hml];exact HT.out.2.1.wm.im.bs.book.1.1
   rw[h7]at y0;clear hnw hm hml hno hRe
   all_goals clear h7;go_wp2_with (first|((with_reducible refine O3 rfl 72 (O6 33) rfl b (o+k*61) ?gx R _ ?gc Tryz.underlying72 ?gd ?gi ?_);(case gx=>rfl);(case gc=>exact HQ.out.1);(case gd=>rfl);(case gi=>rw[HQ.out.2.2.2.2.2];exact Vg))|((with_reducible refine wpList_store_mid rfl 72 (O6 8) (O6 34) rfl wr.heap.size 0 R.toArray ?sx ?sy ?st ?si ?s1 ?_);(case sx=>rfl);(case sy=>rfl);(case st=>exact HQ.out.2.1);(case si=>rw[List.size_toArray,HQ.out.2.2.2.2.2];exact Vg);(case s1=>rw[HQ.out.2.2.2.1];exact Vj q);rw[List.toList_toArray,<-HQ.out.2.2.1]))
   ·obtain⟨B8,hB8⟩:∃B8,B8=wr.heap.size:=⟨_,rfl⟩
    have hS0:=HT.out.2.2.1;rw[<-hB8]at hS0⊢;have HSB:M6 _:=hS0;clear hS0 hB8 c16 hgl y0
    go_loopw [9,10] (fun d i wr=>∃(j:Nat) (t:Bool),d=M3 t/\i=MF ME (j:Int)/\j<=m/\M6 ((q.s.bef.fls.take j).any (Ve nw)=t)/\M6 (MQ Y.heap.size Y wr)) (fun _ i _=>m-(intOf i).toNat)
    case atStart=>exact⟨0,Nb,rfl,rfl,Nat.zero_le _,rfl,MY _ _⟩
    case round =>
     obtain⟨j,t,rfl,rfl,hj,HD,HX⟩:=hrel;have hS8:=HSB.out.on HX.out;have l8:B8<wr.heap.size:=(Array.getElem?_eq_some_iff.1 hS8.box).1;have v26:wr.cell? ⟨B8,26,MH⟩=MI (MG q.u.pf m q.u.cf):=by rw[hS8.F7 26,HN.out.2.1];rfl
     have v50:wr.cell? ⟨B8,50,MH⟩=MI (MF ME nw):=by rw[hS8.F7 50,HN.out.1];rfl
     by_cases hlj:j<m
     ·have hjI:(j:Int)<(m:Int):=by omega
      have hjl:j<q.s.bef.fls.length:=by rw[<-HN.out.2.1];exact hlj
      obtain⟨a,cap,hv,hca,hmx,hp⟩:=bj.F6 ba hS8.rd.1.fls;injection hv with q1 _ q3;obtain⟨bo,oo,ha,hbo,hc⟩:=hp j hjl;have e6:wr.cell? ⟨bo,oo+j*7+6,MH⟩=MI (MF ME q.s.bef.fls[j].due):=hc 6 (by omega);have hA:=Vd hjl (Ve nw);rw[HD.out]at hA;have hA':(q.s.bef.fls.take (j+1)).any (Ve nw)=(t || (q.s.bef.fls[j].due == nw)):=hA;obtain⟨x,hx⟩:∃x,x=q.s.bef.fls[j].due:=⟨_,rfl⟩;rw[<-hx]at e6 hA';rw[q1,ha]at v26;have HA:M6 _:=hA';clear hA hA' hx hc hp q1 q3 ha hca hmx hS8 hjl;have hcs:t=Nw\/(t=Nb/\∃e,(x == nw)=e):=by cases t;exact NF ⟨rfl,_,rfl⟩;exact Nt rfl
      rcases hcs with rfl|⟨rfl,e,he⟩
      case' inr=>cases e
      all_goals
       go_wp2_with fail
       refine wp_region_quiet_lit (by kernel_rfl) (by kernel_rfl) ?_
       repeat (first|go_big_quiet_skip|quiet_step (fail))
       refine wpQuiet_nil ?_;intro _ hw';obtain⟨nq,hw''⟩:=hw';subst hw'';go_wp2
       go_roundw
       case rel=>exact⟨j+1,_,rfl,by simp,hlj,(by first|exact HA|(have:=HA.out;rw[he]at this;exact this)),HX.out.trans ((B3 (MY _ _) nq).mono HX.out.size)⟩
       case measure=>simp[intOf];omega
     ·obtain rfl:j=m:=by omega
      have hjI:¬(j:Int)<(j:Int):=by omega
      have hD:=HD.out;rw[HN.out.2.1,NT]at hD;have HD2:M6 _:=hD;clear hD hS8;go_wp2;clear l8 v26 v50
      go_loopw [9,11,12] (fun d i _ wr=>∃(j:Nat) (z:Bool),d=M3 z/\i=MF ME (j:Int)/\j<=ml/\M6 ((t || (q.s.bef.liv.take j).any (Vf nw))=z)/\M6 (MQ Y.heap.size Y wr)) (fun _ i _ _=>ml-(intOf i).toNat)
      case atStart=>exact⟨0,t,rfl,rfl,Nat.zero_le _,by simp[M6],HX⟩
      case round =>
       obtain⟨i,z,rfl,rfl,hi,HZ,HV⟩:=hrel;have hS8:=HSB.out.on HV.out;have l8:B8<wr.heap.size:=(Array.getElem?_eq_some_iff.1 hS8.box).1;have v27:wr.cell? ⟨B8,27,MH⟩=MI (MG q.u.pl ml q.u.cl):=by rw[hS8.F7 27,HN.out.2.2.1];rfl
       have v50:wr.cell? ⟨B8,50,MH⟩=MI (MF ME nw):=by rw[hS8.F7 50,HN.out.1];rfl
       have v60:wr.cell? ⟨B8,60,MH⟩=MI (MG q.po no q.co):=by rw[hS8.F7 60,HN.out.2.2.2.1];rfl
       by_cases hli:i<ml
       ·have hiI:(i:Int)<(ml:Int):=by omega
        have hil:i<q.s.bef.liv.length:=by rw[<-HN.out.2.2.1];exact hli
        obtain⟨a,cap,hv,hca,hmx,hp⟩:=jH.F6 hS8.rd.1.book.1;injection hv with q1 _ q3;obtain⟨bo,oo,ha,hbo,e0,e1,e2,e3,e4,e5⟩:=hp i hil;have hA:=Vd hil (Vf nw);obtain⟨x,hx⟩:∃x,x=q.s.bef.liv[i]:=⟨_,rfl⟩;rw[<-hx]at e0 e1 e2 e3 e4 e5 hA;have hA':(t || (q.s.bef.liv.take (i+1)).any (Vf nw))=(z || ((x.2.1 == 3) && (x.2.2.2.2.1 == nw))):=by rw[hA,<-Bool.or_assoc,HZ.out]
        rw[q1,ha]at v27;have HA:M6 _:=hA';clear hA hA' hx hp q1 q3 ha hca hmx hS8 hil v60;have hcs:z=Nw\/(z=Nb/\(x.2.1 == 3)=Nb)\/(z=Nb/\(x.2.1 == 3)=Nw/\∃e,(x.2.2.2.2.1 == nw)=e):=by
         cases z
         ·cases h:(x.2.1 == 3)
          ·exact NF (Nt ⟨rfl,rfl⟩)
          ·exact NF (NF ⟨rfl,rfl,_,rfl⟩)
         ·exact Nt rfl
        rcases hcs with rfl|⟨rfl,h3⟩|⟨rfl,h3,e,he⟩
        case' inr.inr=>cases e
        all_goals
         go_wp2
         go_roundw
         case rel=>exact⟨i+1,_,rfl,by simp,hli,(by first|exact HA|(have:=HA.out;first|rw[h3,he]at this|rw[h3]at this);exact this),HV.out.trans ((ai wr).mono HV.out.size)⟩
         case measure=>simp[intOf];omega
       ·obtain rfl:i=ml:=by omega
        have hiI:¬(i:Int)<(i:Int):=by omega
        have hE:z=Decidable.decide ((0:Int)<(no:Int)):=by
         have h1:=HZ.out;have h2:=HN.out.2.2.2.2;rw[HN.out.2.2.1,NT,<-HD2.out]at h1;rw[<-h1,h2];simp
        have hcs:(z=Nw/\(0:Int)<(no:Int))\/(z=Nb/\¬(0:Int)<(no:Int)):=by
         by_cases h:(0:Int)<(no:Int)
         ·exact Nt ⟨by rw[hE];simpa using h,h⟩
         ·exact NF ⟨by rw[hE];simpa using h,h⟩
        have HE:M6 _:=HQ.out.2.2.2.2.1.trans (HV.out.mono HQ.out.2.2.2.2.1.size);clear hE hS8;rcases hcs with⟨rfl,h0⟩|⟨rfl,h0⟩
        case' inl =>
         have hd:0<no:=by omega
         have LI:no≠0:=by omega
         have KR:¬(no:Int)<=0:=by omega
         have hd3:¬no=0:=LI
        all_goals
         go_wp2
         go_roundw
         case rel=>exact⟨k+1,by simp,hlt,HE⟩
         case measure=>simp[intOf];omega
   ·go_roundw
    case rel=>exact⟨k+1,by simp,hlt,HQ.out.2.2.2.2.1⟩
    case measure=>simp[intOf];omega
  ·obtain rfl:k=n:=by omega
   have hkI:¬(k:Int)<(k:Int):=by omega
   go_wp2;go_ret;exact⟨rfl,HB.out.trans (HW.out.mono HB.out.size)⟩
end Go.Proofs.YtinbndbjlgoghaaGreatDoor.Q
