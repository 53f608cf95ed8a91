/-
  TopOnRing: its walk. Conditions: as each theorem says.
-/
import Derived.Test.YtlnbhjdhcmgljaaGreatDoorQ20
open Bool renaming false->Nb,true->Nw
open Go renaming Calls->Ni,Value->M7,World->MO,cell_of_row->MW,heap_alloc_new->M1,wpAnyH_ready->NN,wpList_load_mid->O3
open Go.Act renaming put->Nr
open Go.AllReadyH renaming cons->NP,nil->NX
open Go.Ending renaming returned->MN
open Go.IntKind renaming i64->ME
open Go.Obj renaming cells->MP
open Go.Operand renaming tmp->O6
open Go.Proofs.Tryz renaming prog->MK,results27->Wb,underlying54->U1
open Go.RowKit renaming Below->MQ,Hid->M6
open Go.RowKit.Below renaming refl->MY
open Go.Value renaming agg->Ny,bool->M3,int->MF,pointer->Na,slice->MG
open Int renaming eq_ofNat_of_zero_le->NL,le_refl->Qh
open List renaming foldl_cons->O4,getElem?_eq_getElem->MR,getElem_cons_succ->MT,getElem_cons_zero->MS,getElem_mem->Nk,getElem_toArray->MZ,map_congr_left->PU,map_cons->OA,mem_cons_of_mem->NB,mem_cons_self->NM,range->Pm,setIfInBounds_toArray->MJ,set_cons_succ->MM,set_cons_zero->ML,sum_cons->Xq
open Nat renaming zero_le->Nx
open Option renaming none->MH,some->MI
open Or renaming inl->Nt,inr->NF
namespace Go.Proofs.YtlnbhjdhcmgljaaGreatDoor.Q
set_option linter.unusedVariables false
set_option linter.unusedSimpArgs false
set_option maxHeartbeats 16000000
set_option maxRecDepth 100000
open Go.RowKit
attribute [local go_sem ↓] Go.wp_at_zero Go.wp_at_succ
variable {K:Act->Prop}{w:MO}
theorem W8{out:List Int}{t:Tm}{x:Int}:x∈ma out t↔x∈out\/x=t.2:=by
 unfold ma
 split
 ·rename_i h
  exact⟨Nt,fun h2=>h2.elim id (fun e=>by rw[e];exact h)⟩
 ·simp
theorem WZ:∀(m:List Tm) (x:List Int),x.Nodup->(m.foldl ma x).Nodup
 | [],_,h=>h
 |t::m,x,h=>by
  rw[O4];refine WZ m _ ?_;unfold ma
  split
  ·exact h
  ·rename_i hn
   rw[List.nodup_append];exact⟨h,by simp,fun a ha b hb e=>hn (by rw[List.mem_singleton]at hb;rw[<-hb,<-e];exact ha)⟩
theorem WY:∀(m:List Tm) (x:List Int) (n:Int),n∈m.foldl ma x↔n∈x\/∃t∈m,t.2=n
 | [],x,n=>by simp
 |t::m,x,n=>by
  rw[O4,WY m,W8];constructor
  ·rintro((h|h)|⟨t',h1,h2⟩)
   ·exact Nt h
   ·exact NF ⟨t,NM ..,h.symm⟩
   ·exact NF ⟨t',NB _ h1,h2⟩
  ·rintro(h|⟨t',h1,h2⟩)
   ·exact Nt (Nt h)
   ·rcases List.mem_cons.1 h1 with rfl|h1
    ·exact Nt (NF h2.symm)
    ·exact NF ⟨t',h1,h2⟩
theorem Xc(l:List Tm)(at_:Int):(ie l at_).Nodup:=WZ _ [] List.nodup_nil
theorem Xa(l:List Tm)(at_ n:Int):n∈ie l at_↔∃t∈l,t.2=n:=by
 unfold ie vY;rw[WY];constructor
 ·rintro(h|⟨t,h1,h2⟩)
  ·cases h
  ·exact⟨t,Cv.1 h1,h2⟩
 ·rintro⟨t,h1,h2⟩
  exact NF ⟨t,Cv.2 h1,h2⟩
theorem WX:∀(l:List Int) (x:Int),l.Nodup->l.count x=if x∈l then 1 else 0
 | [],x,_=>by simp
 |y::l,x,h=>by
  have hd:=List.nodup_cons.1 h;rw[List.count_cons,WX l x hd.2]
  by_cases e:y=x
  ·subst e
   simp[hd.1]
  ·have e2:¬x=y:=fun h=>e h.symm
   simp[e,e2]
theorem Xb{a:List Int}(ha:aZ a)(at_:Int)(b:Nat)(hb:b<12):(ie (ao a) at_).count (b:Int)=if 0<a.getD b 0 then 1 else 0:=by
 rw[WX _ _ (Xc _ _)];have hiff:(b:Int)∈ie (ao a) at_↔0<a.getD b 0:=by
  rw[Xa];constructor
  ·rintro⟨t,ht,e⟩
   obtain⟨b',i,h1,h2,rfl⟩:=ln.1 ht;have e':b'=b:=by simp only at e;omega
   subst e';unfold wt at h2;omega
  ·intro h
   exact CQ (li ha) b hb (by rw[l0 ha];exact h)
 by_cases h:0<a.getD b 0
 ·rw[Nh h,Nh (hiff.2 h)]
 ·rw[Nf h,Nf (fun h2=>h (hiff.1 h2))]
section
variable {A:Gt}{c:Cf}{P:Py}
theorem JM.next{s:Sp}(h:JM c s):Wm s.aft:=by rw[h.aft];exact(h.wm.Mm (D5 h.ev) h.late).Ma
end
section
variable {G:Gt}
theorem WS{g:Nat->Int}:∀(l:List Nat) (n:Nat),l.Nodup->n∈l->(∀b∈l,b≠n->g b=0)->(l.map g).sum=g n
 | [],n,_,h,_=>by cases h
 |a::l,n,hn,h,hz=>by
  obtain⟨h1,h2⟩:=List.nodup_cons.1 hn;rw[OA,Xq]
  by_cases e:a=n
  ·subst e
   have:(l.map g).sum=0:=by
    have h0:∀b∈l,g b=0:=fun b hb=>hz b (NB _ hb) fun e=>h1 (e ▸ hb)
    clear hz hn h h1 h2
    induction l with
    |nil=>rfl
    |cons b l ih=>rw[OA,Xq,h0 b (by simp),ih fun x hx=>h0 x (NB _ hx)];rfl
   omega
  ·rcases List.mem_cons.1 h with h|h
   ·exact absurd h.symm e
   ·rw[hz a (by simp) e,WS l n h2 h fun b hb=>hz b (NB _ hb)]
    omega
theorem WR{f g:Nat->Int}(l:List Nat):(l.map fun b=>f b+g b).sum=(l.map f).sum+(l.map g).sum:=by
 induction l with
 |nil=>rfl
 |cons a l ih=>simp only[OA,Xq,ih];omega
end
def WM(G:Gt)(b:Int):Int:=if aA G.liv b=2 then 1 else 0
def WP(g:Int->Int)(n:Nat):Int:=((Pm n).map fun b:Nat=>g b).sum
theorem WQ(g:Int->Int)(n:Nat):WP g (n+1)=WP g n+g n:=by
 unfold WP;rw[List.range_succ,List.map_append,List.sum_append];simp
theorem WT{α:Type}:∀l:List α,(l.map fun _=>(0:Int)).sum=0
 | []=>rfl
 |_::l=>by rw[OA,Xq,WT l];rfl
theorem WN(n:Nat):∀l:List Int,(∀x∈l,0<=x/\x<(n:Int))->(l.length:Int)=((Pm n).map fun b:Nat=>((l.count (b:Int):Nat):Int)).sum
 | [],_=>by
  have:(Pm n).map (fun b:Nat=>((List.count (b:Int) []:Nat):Int))=(Pm n).map fun _=>(0:Int):=PU fun b _=>rfl
  rw[this,WT];rfl
 |x::l,h=>by
  have ih:=WN n l fun y hy=>h y (NB _ hy)
  have hx:=h x (NM ..);obtain⟨k,rfl⟩:=NL hx.1;have e:(Pm n).map (fun b:Nat=>((List.count (b:Int) ((k:Int)::l):Nat):Int))=(Pm n).map fun b:Nat=>((l.count (b:Int):Nat):Int)+(if b=k then 1 else 0):=PU fun b _=>by
   rw[List.count_cons]
   by_cases hb:b=k
   ·subst hb;simp
   ·have:¬(k:Int)=(b:Int):=by omega
    simp[hb,this]
  rw[e,WR,<-ih,WS (Pm n) k List.nodup_range (List.mem_range.2 (by omega)) (fun b _ hb=>Nf hb),Nh rfl];simp
section
variable {G:Gt}
theorem WW(a:List Int)(at_:Int):∀x∈ie (ao a) at_,0<=x/\x<((12:Nat):Int):=fun x hx=>by
 obtain⟨t,ht,e⟩:=(Xa _ _ _).1 hx;obtain⟨b,i,h1,_,rfl⟩:=ln.1 ht;simp only at e;omega
theorem WO(h:Im G){b:Nat}(hb:b<12):0<G.wts.getD b 0↔aA G.liv (b:Int)=2:=by
 rw[h.ring b hb]
 by_cases h2:aA G.liv (b:Int)=2
 ·rw[Nh h2]
  have hm:=(kQ (L:=G.liv) (b:=(b:Int)) (by omega)).1;have:=(h.bs.lf hm).1.2.1;exact⟨fun _=>h2,fun _=>by omega⟩
 ·rw[Nf h2]
  exact⟨fun h=>absurd h (by decide),fun h=>absurd h h2⟩
theorem WU(h:Im G)(at_:Int){x:Int}(hx:x∈ie (ao G.wts) at_):aA G.liv x=2:=by
 have hr:=WW _ _ x hx;obtain⟨b,rfl⟩:=NL hr.1;have hc:=Xb h.bs.wts at_ b (by omega);have:=List.count_pos_iff.2 hx;rw[hc]at this
 split at this
 ·rename_i h0
  exact(WO h (by omega)).1 h0
 ·cases this
theorem WV(h:Im G)(at_:Int):((ie (ao G.wts) at_).length:Int)=WP (WM G) 12:=by
 rw[WN 12 _ (WW _ _)];unfold WP
 congr 1
 refine PU fun b hb=>?_
 have hb:b<12:=List.mem_range.1 hb;rw[Xb h.bs.wts at_ b hb];unfold WM
 by_cases h2:aA G.liv (b:Int)=2
 ·rw[Nh h2,Nh ((WO h hb).2 h2)];rfl
 ·rw[Nf h2,Nf (fun e=>h2 ((WO h hb).1 e))];rfl
end
theorem Jz.Gm{base:Nat}{g:Nat}{V:Pv}{c:Cf}{P:Py}(h:Jz base w g V c P):w.cell? ⟨g,16,MH⟩=MI (MG V.ps P.steps.length V.cs):=by
 rw[MW w g 16 _ _ (0,0) h.box,h.steps];rfl
structure Xd(W:MO)(ps:Option Addr)(k:Nat)(q:Sq)(b o:Nat):Prop where
 at_:ps=MI ⟨b,o,MH⟩
 cells:W.rangeAt b (o+k*61) (JU q)
 rd:Kh W q
theorem JD.step{W:MO}{g:Nat}{V:Pv}{c:Cf}{P:Py}(h:JD w W g V c P){k:Nat}(hk:k<P.steps.length):∃q b o,Xd W V.ps k q b o/\P.steps[k]?=MI q.s/\JM c q.s:=by
 have hl:=h.pat.steps;have hkq:k<V.qs.length:=by omega
 have hrv:bj JU W (MG V.ps V.qs.length V.cs) V.qs:=gZ h.pat.rows;obtain⟨a,cap,hv,_,_,hp⟩:=bj.F6 LV hrv;injection hv with q1 _ _;obtain⟨b,o,ha,hb,hc⟩:=hp k hkq;have e:P.steps[k]?=MI V.qs[k].s:=by rw[<-h.pat.eqs,List.getElem?_map,MR hkq];rfl
 refine⟨V.qs[k],b,o,⟨q1.trans ha,fun j v hv=>?_,(h.pat.all _ (Nk hkq)).now⟩,e,h.rn.runs.chain _ (List.mem_of_getElem? e)⟩;have hj:j<61:=(List.getElem?_eq_some_iff.1 hv).1;rw[hc j hj];exact hv
theorem Xf(f:Nat->Int)(hf:∀i,i<16->(Lit.int ME (f i)).wf=Nw)(ds:List Dd)(hds:∀d∈ds,Kg d){pd:Option Addr}{cd:Nat}(hrow:bj Ka w (MG pd ds.length cd) ds)(hblk:aK w)(most:Nat)(hm:most<=100):
  ∃L:List M7,L.length=16/\BD (f 0) (f 1) (f 2) (f 3) (f 4) (f 5) (f 6) (f 7) (f 8) (f 9) (f 10) (f 11) (f 12) (f 13) (f 14) (f 15)=Ny L.toArray/\∀W,MQ w.heap.size w W->Ni MK 10 #[Ny L.toArray,MG pd ds.length cd,MF ME (most:Int)] W (Lq f most W):=
 ⟨[MF ME (f 0),MF ME (f 1),MF ME (f 2),MF ME (f 3),MF ME (f 4),MF ME (f 5),MF ME (f 6),MF ME (f 7),MF ME (f 8),MF ME (f 9),MF ME (f 10),MF ME (f 11),MF ME (f 12),MF ME (f 13),MF ME (f 14),MF ME (f 15)],rfl,rfl,fun W hB=>L6 f hf ds hds W (hrow.below hB) (hblk.below hB) most hm⟩
theorem Xd.Xp{W:MO}{ps:Option Addr}{k:Nat}{q:Sq}{b o:Nat}(h:Xd W ps k q b o):W.rangeAt b (o+k*61+34) (ef q.v q.s.aft).toList:=fun j v hv=>by
 have hj:j<26:=(List.getElem?_eq_some_iff.1 hv).1;have e:(JU q)[34+j]?=MI v:=by
  have e1:JU q=(JN q.s.ev++(ef q.u q.s.bef).toList)++((ef q.v q.s.aft).toList++[MG q.po q.s.out.length q.co]):=by unfold JU;rw[List.append_assoc]
  rw[e1,List.getElem?_append_right (show 34<=34+j by omega),show 34+j-(JN q.s.ev++(ef q.u q.s.bef).toList).length=j from Nat.add_sub_cancel_left 34 j,List.getElem?_append_left (show j<26 from hj)];exact hv
 have:=h.cells (34+j) v e;rwa[show o+k*61+(34+j)=o+k*61+34+j by omega]at this
theorem Xk(W:MO)(U:Us)(G:Gt):∃Y,Y=(W.alloc (MP wz.toArray 54)).setCells W.heap.size 0 (ef U G).toList/\Y.heap[W.heap.size]?=MI (MP (ef U G).toList.toArray 54 (0,0))/\MQ W.heap.size W Y/\(W.alloc (MP wz.toArray 54)).there W.heap.size 0 (ef U G).toList.toArray.size:=by
 have hZ:(W.alloc (MP wz.toArray 54)).heap[W.heap.size]?=MI (MP wz.toArray 54 (0,0)):=M1 _ _;exact⟨_,rfl,KM hZ rfl,tW (ai W) (Nat.le_refl _) _ _ (by simp),(show(W.alloc (MP wz.toArray 54)).there W.heap.size 0 (ef U G).toList.toArray.size from sF (old:=wz) hZ)⟩
theorem Xg{L:List FV}{b:Int}{k:Nat}(hk:k<L.length)(h:∀t∈L.take k,t.1≠b)(e:L[k].1=b):aA L b=L[k].2.1:=by
 unfold aA aq;have:L.find? (fun x=>x.1 == b)=MI L[k]:=by
  rw[List.find?_eq_some_iff_getElem];refine⟨by simpa using e,k,hk,rfl,fun j hj=>?_⟩;have:=h L[j] (List.mem_iff_getElem.2 ⟨j,by simp;omega,by simp⟩)
  simpa using this
 rw[this];rfl
theorem Xh{L:List FV}{b:Int}(h:∀t∈L,t.1≠b):aA L b=0:=by
 show(aq L b).2.1=0;rw[tP h]
theorem Xi{W:MO}{M:List M7}{U:Us}{G:Gt}(hM:M=(ef U G).toList)(h:aF W U G)(b:Int):Ni MK 16 #[Ny M.toArray,MF ME b] W fun r w'=>r=MN (MF ME (aA G.liv b))/\MQ W.heap.size W w':=by
 obtain⟨Y,hY⟩:∃Y,Y=W.alloc (MP M.toArray 54):=⟨_,rfl⟩;have hYb:MQ W.heap.size W Y:=by rw[hY];exact ai W
 have hYx:Y.heap[W.heap.size]?=MI (MP M.toArray 54 (0,0)):=by rw[hY];exact M1 _ _
 have c19:Y.cell? ⟨W.heap.size,19,MH⟩=MI (MG U.pl G.liv.length U.cl):=by rw[MW Y _ 19 _ _ (0,0) hYx,hM];rfl
 obtain⟨a,cap,hv,hca,hmx,hp⟩:=jH.F6 (h.book.1.below hYb);injection hv with q1 q2 q3;obtain⟨m,hm⟩:∃m,m=G.liv.length:=⟨_,rfl⟩;rw[<-hm]at c19;have hmb:m<=9223372036854775807:=by rw[hm];unfold maxLen at hmx;omega
 obtain⟨s,hs⟩:∃s,s=aA G.liv b:=⟨_,rfl⟩;rw[<-hs];have HP:M6 (_/\_/\_/\_/\_):=⟨hp,q1,hm,hYb,hs⟩;clear hYx hp q1 q2 q3 hm hmx hca h hM hYb hs;go_enter Tryz.func16,Tryz.ntmps16;go_wp2;rw[<-hY];clear hY
 go_loopw [5] (fun i wr=>∃k:Nat,i=MF ME (k:Int)/\k<=m/\M6 (∀t∈G.liv.take k,t.1≠b)/\wr=Y) (fun i _=>m-(intOf i).toNat)
 case atStart=>exact⟨0,rfl,Nx _,(fun t ht=>absurd ht (by simp)),rfl⟩
 case round =>
  obtain⟨k,rfl,hk,HA,rfl⟩:=hrel
  by_cases hlt:k<m
  ·have hkI:(k:Int)<(m:Int):=by omega
   have hkl:k<G.liv.length:=by rw[<-HP.out.2.2.1];exact hlt
   obtain⟨bo,oo,ha,hb,hc⟩:=HP.out.1 k hkl;have e0:wr.cell? ⟨bo,oo+k*6,MH⟩=MI (MF ME G.liv[k].1):=hc.1;have e1:wr.cell? ⟨bo,oo+k*6+1,MH⟩=MI (MF ME G.liv[k].2.1):=hc.2.1;have htk:G.liv.take (k+1)=G.liv.take k++[G.liv[k]]:=List.take_succ_eq_append_getElem hkl;have hfd:=fun e=>Xg hkl HA.out e
   obtain⟨x,hx⟩:∃x,x=G.liv[k]:=⟨_,rfl⟩;rw[<-hx]at e0 e1 htk hfd;rw[HP.out.2.1,ha]at c19;have HX:M6 (_/\_):=⟨htk,hfd⟩;clear hc hb ha hkl hx htk hfd
   by_cases hq:x.1=b
   ·have hq':(x.1 == b)=true:=by simp[hq]
    have HE:M6 (s=x.2.1):=HP.out.2.2.2.2.trans (HX.out.2 hq);clear hq;go_wp2;go_ret;exact⟨by rw[HE.out];rfl,HP.out.2.2.2.1⟩
   ·have hq':(x.1 == b)=false:=by simp[hq]
    go_wp2
    go_roundw
    case rel =>
     refine⟨k+1,by simp,hlt,?_,trivial⟩;intro t ht;rw[HX.out.1]at ht;rcases List.mem_append.1 ht with ht|ht
     ·exact HA.out t ht
     ·rw[List.mem_singleton.1 ht];exact hq
    case measure=>simp[intOf];omega
  ·obtain rfl:k=m:=by omega
   have hkI:¬(k:Int)<(k:Int):=by omega
   have HE:M6 (s=0):=HP.out.2.2.2.2.trans (Xh fun t ht=>HA.out t (by rw[HP.out.2.2.1,List.take_length];exact ht));go_wp2;go_ret;exact⟨by rw[HE.out];rfl,HP.out.2.2.2.1⟩
section
variable {P:Program}{ops:Array Oper}{C:MO->Prop}{Q:Act->Prop}{o:Oper}{rest:List Oper}{a:Act}
theorem Xm{id:Nat}{R:Exit->Act->MO->Prop}{l:List Oper}(hC:C w.drew)(h:wpQuiet P l.toArray C (fun a'=>∀w',C w'->R .normal a' w') l a)(hm:P.follows .mixedOrders=true:=by kernel_rfl)(hB:Region.lexB .any l.toArray=true:=by kernel_rfl):(Code.region id l.toArray Nw).wp P R a w :=
 wp_region_quiet hm hB hC (by simpa using h)
theorem Xl(v:M7)(h:K (a.put o.dst v))(hv:∀w,C w->(execOp a.eval o).run P w=.ok (.value v) w):o.quiet P a C K :=
 ⟨v,fun w hC=>by unfold Oper.quietAt;rw[hv w hC];exact⟨rfl,rfl⟩,h⟩
theorem Xo(ty:TypeId)(x:Operand)(b p:Nat)(cs:List M7){d:TypeDesc}(hS:∀w,C w->w.rangeAt b p cs)(hi:(P.info? ty).map (·.size)=MI cs.length)(hu:P.underlying ty=MI d)(h:K (a.put o.dst (Ny cs.toArray)))(ho:o.op=.load ty x:=by rfl)(hx:a.eval x=Na (MI ⟨b,p,MH⟩):=by rfl)(hd:d.isRow=true:=by rfl):o.quiet P a C K :=
 Xl _ h fun w hC=>by
  unfold execOp;simp only[ho,hx,Instr.loadAt,Instr.sureAddr,Sem.run_bind,Sem.run_pure,Result.andThen_ok,run_loadVar_mid w b p ty cs d (hS w hC) hu hd hi]
theorem Xn(v:M7)(f:FuncId)(args:Array M7)(hc:∀w,C w->Ni P f args w fun e w'=>e=MN v/\C w')(h:K (a.put o.dst v))(hv:∀w,(execOp a.eval o).run P w=.ok (.enter f args) w:=by exact fun X=>by go_simp):o.quiet P a C K :=
 ⟨v,fun w hC=>by unfold Oper.quietAt;rw[hv w];exact⟨rfl,hc w hC⟩,h⟩
end
structure Wb(X:MO)(b:Nat)(U:Us)(G:Gt)(M:List M7):Prop where
 box:X.heap[b]?=MI (MP M.toArray 54 (0,0))
 e:M=(ef U G).toList
 wat:aF X U G
section
variable {X Z:MO}{b:Nat}{U:Us}{G:Gt}{M:List M7}
theorem Wb.on(h:Wb X b U G M)(hb:MQ X.heap.size X Z):Wb Z b U G M:=⟨af h.box hb,h.e,h.wat.below hb⟩
theorem Wb.i(h:Wb X b U G M):(Tryz.prog.info? 54).map (·.size)=MI M.length:=by rw[h.e];exact iN
theorem Wb.st(h:Wb X b U G M)(x:Int):Ni MK 16 #[Ny M.toArray,MF ME x] X fun r w'=>r=MN (MF ME (aA G.liv x))/\MQ X.heap.size X w':=Xi h.e h.wat x
theorem Wb.GX(h:Wb X b U G M):X.cell? ⟨b,21,MH⟩=MI (MG U.ps (ao G.wts).length U.cs):=by rw[MW X _ 21 _ _ (0,0) h.box,h.e];rfl
end
theorem Xe(G:Gt):∀n:Nat,0<=WP (WM G) n/\WP (WM G) n<=n
 |0=>⟨Qh 0,Qh 0⟩
 |n+1=>by
  have h1:=Xe G n;rw[WQ];have:0<=WM G n/\WM G n<=1:=by unfold WM;split <;> decide
  omega
theorem Xj(f:Nat->Int)(hf:∀i,i<16->(Lit.int ME (f i)).wf=Nw)(ds:List Dd)(hds:∀d∈ds,Kg d)(key:Int)(hkey:(Lit.int ME key).wf=Nw){pd:Option Addr}{cd:Nat}(hrow:bj Ka w (MG pd ds.length cd) ds)(hB:aK w):
  Ni MK 9 #[BD (f 0) (f 1) (f 2) (f 3) (f 4) (f 5) (f 6) (f 7) (f 8) (f 9) (f 10) (f 11) (f 12) (f 13) (f 14) (f 15),MG pd ds.length cd,MF ME key] w fun r w'=>r=MN (M3 Nw)/\MQ w.heap.size w w':=by
 obtain⟨L,hL,eL,hpl⟩:=Xf f hf ds hds hrow hB 60 (by omega);rw[eL];obtain⟨W0,hW0⟩:∃W0,W0=w.alloc (MP L.toArray 24):=⟨_,rfl⟩;have hb0:MQ w.heap.size w W0:=by rw[hW0];exact ai w
 have HI:M6 (_/\_/\_):=⟨hL,hb0,hpl W0 hb0⟩;obtain⟨nd,hnd⟩:∃nd,nd=ds.length:=⟨_,rfl⟩;rw[<-hnd]at HI⊢;clear hL eL hpl hb0 hf hds hrow hB hnd;go_enter Tryz.func9,Tryz.ntmps9
 go_wp2_with ((with_reducible refine O3 rfl 24 (O6 3) rfl w.heap.size 0 ?gx L _ ?gc Tryz.underlying24 ?gd ?gi ?_);(case gx=>rfl);(case gc=>exact J8 (M1 _ _));(case gd=>rfl);(case gi=>rw[HI.out.1];exact K0))
 rw[<-hW0];clear hW0;refine Calls.mono HI.out.2.2 ?_;rintro r w1 ⟨g,V,c,P,rfl,hS,hcx,hn4,hnm,hk3⟩;obtain⟨n,hn⟩:∃n,n=P.steps.length:=⟨_,rfl⟩;have HS:M6 (_/\_/\_/\_/\_):=⟨hS,hcx,hn,(show n<=60+4 by omega),hk3⟩;have hB1:=HI.out.2.1.trans (hS.bel.mono HI.out.2.1.size);have HB:M6 _:=hB1;clear hS hcx hn4 hnm hk3 hn HI hB1;obtain⟨kn,hkn,hpk⟩:=JV key (qI hkey) 1000 1000 (by decide);have HK:M6 (_/\_):=⟨hpk,(show kn<4294967296 by omega)⟩;clear hkey hpk hkn
 go_wp2_with fail
 go_loopw [9,10,11,12,13,14,15] (fun i _ _ _ _ _ _ wr=>∃k:Nat,i=MF ME (k:Int)/\k<=n/\M6 (MQ w1.heap.size w1 wr)) (fun i _ _ _ _ _ _ _=>n-(intOf i).toNat)
 case atStart=>exact⟨0,rfl,Nx _,MY _ _⟩
 case round =>
  obtain⟨k,rfl,hk,HW⟩:=hrel;have hSr:=HS.out.1.on HW.out;have c16:wr.cell? ⟨g,16,MH⟩=MI (MG V.ps n V.cs):=by rw[HS.out.2.2.1];exact hSr.pat.Gm
  have hgl:=hSr.pat.lt
  by_cases hlt:k<n
  ·have hkI:(k:Int)<(n:Int):=by omega
   have hnb:n<=9223372036854775807:=by have:=HS.out.2.2.2.1;omega
   obtain⟨q,b,o,hq,hst,hok⟩:=hSr.step (k:=k) (by rw[<-HS.out.2.2.1];exact hlt);obtain⟨Y,hY,hYx,hYb,hth⟩:=Xk wr q.v q.s.aft;obtain⟨M,hM⟩:∃M,M=(ef q.v q.s.aft).toList:=⟨_,rfl⟩;have hcs:=hq.Xp;rw[<-hM]at hY hYx hth hcs;obtain⟨B10,hB10⟩:∃B,B=wr.heap.size:=⟨_,rfl⟩;have hat:=hq.at_;have HQ:M6 (_/\_/\_/\_/\_/\_):=⟨hcs,hth,hY,hM,HW.out.trans (hYb.mono HW.out.size),(show M.length=26 by rw[hM];rfl)⟩;have HY:M6 (_/\_/\_):=⟨(show Wb Y B10 q.v q.s.aft M from⟨by rw[hB10];exact hYx,hM,hq.rd.2.1.below hYb⟩),hok,hok.next.im⟩;rw[hat]at c16;clear hq hst hok hY hYx hYb hth hM hcs hat hSr
   go_wp2_with (first|((with_reducible refine O3 rfl 54 (O6 37) rfl b (o+k*61+34) ?gx M _ ?gc U1 ?gd ?gi ?_);(case gx=>rfl);(case gc=>exact HQ.out.1);(case gd=>rfl);(case gi=>rw[HQ.out.2.2.2.2.2];exact iN))|((with_reducible refine wpList_store_mid rfl 54 (O6 10) (O6 38) rfl wr.heap.size 0 M.toArray ?sx ?sy ?st ?si ?s1 ?_);(case sx=>rfl);(case sy=>rfl);(case st=>exact HQ.out.2.1);(case si=>rw[List.size_toArray,HQ.out.2.2.2.2.2];exact iN);(case s1=>rw[HQ.out.2.2.2.1];exact rS _ _);rw[List.toList_toArray,<-HQ.out.2.2.1]))
   rw[<-hB10];clear hB10 c16 hgl;obtain⟨S,hS1,hS2⟩:∃S:MO->Prop,(∀X,S X->Wb X B10 q.v q.s.aft M)/\(∀X,Wb X B10 q.v q.s.aft M->S X):=⟨_,fun _ h=>h,fun _ h=>h⟩;have HSS:M6 (_/\_):=⟨hS1,hS2⟩;clear hS1 hS2;refine wp_region_held_drew (S:=S) (by kernel_rfl) (HSS.out.2 _ (HY.out.1.on (MY _ _).drew)) (fun hHeld=>?_);refine o5 0 (Na (MI ⟨B10,21,MH⟩)) hHeld ?_;simp only[Nr,MZ,MT,MS,MJ,ML,MM];refine o5 1 (Ny #[MG q.v.ps (ao q.s.aft.wts).length q.v.cs]) hHeld ?_ (hy:=Nt ⟨by rfl,fun X hSw=>by have h:=(HSS.out.1 X hSw).GX;go_simp⟩);simp only[Nr,MZ,MT,MS,MJ,ML,MM];refine o5 2 (MF ME key) hHeld ?_;simp only[Nr,MZ,MT,MS,MJ,ML,MM];refine NN (rs:=[3]) (by kernel_rfl) (by simp) ?_;refine NP (o:=_) rfl (fun K hK=>?_) NX;go_simp;refine Calls.mono (HK.out.1 _) ?_;rintro r w4 ⟨rfl,rfl⟩
   go_wp2_with fail
   refine hK.out _ _ hHeld (fun _=>?_);clear hK K;refine NN (rs:=[4]) (by kernel_rfl) (by simp) ?_;refine NP (o:=_) rfl (fun K hK=>?_) NX;go_simp;refine Calls.mono (Cq _ _ _ _ HY.out.2.2.bs.wts (HSS.out.1 _ hHeld).wat.ring HK.out.2) ?_;rintro r w5 ⟨p,cc,rfl,hown,hb5⟩;have hG5:=(HSS.out.1 _ hHeld).on hb5;have hS5:S w5:=HSS.out.2 _ hG5;obtain⟨lw,hlw⟩:∃l,l=ie (ao q.s.aft.wts) (fH kn:Nat):=⟨_,rfl⟩;rw[<-hlw]at hown⊢;obtain⟨nl,hnl⟩:∃n,n=lw.length:=⟨_,rfl⟩;rw[<-hnl]at hown⊢;have HW5:M6 (_/\_/\_/\_/\_):=⟨hG5,hown,hlw,hnl,(dt hb5:MQ Y.heap.size Y w5)⟩;clear hG5 hown hlw hnl hb5
   go_wp2_with fail
   refine hK.out _ _ hS5 (fun hHeld5=>?_);clear hK K;refine o5 5 (Value.tuple #[MG p nl cc,MF ME 0]) hHeld5 ?_;simp only[Nr,MZ,MT,MS,MJ,ML,MM];refine o5 6 (MG p nl cc) hHeld5 ?_;simp only[Nr,MZ,MT,MS,MJ,ML,MM];refine o5 7 (MF ME 0) hHeld5 ?_;simp only[Nr,MZ,MT,MS,MJ,ML,MM];refine NN (rs:=[8]) (by kernel_rfl) (by simp) ?_;refine mE (i:=8) (o:=_) (by rfl) (by rfl) (O6 45) (by rfl) (MG p nl cc) (by rfl) hS5 ?_
   try simp only[Nr,MZ,MT,MS,MJ,ML,MM]
   refine NN (rs:=[9]) (by kernel_rfl) (by simp) ?_;refine mE (i:=9) (o:=_) (by rfl) (by rfl) (O6 46) (by rfl) (MF ME 0) (by rfl) hS5 ?_;refine wpAnyH_done (by kernel_rfl) ?_ _;clear hHeld hHeld5 hS5 HSS;have hlw5:=HW5.out.2.2.2.1;have hrow:=bP HW5.out.2.1;obtain⟨a',cap,hv',hca,hmx,hp⟩:=hrow;injection hv' with q1 _ q3;have hnlb:nl<=9223372036854775807:=by unfold maxLen at hmx;omega
   have hlen:(nl:Int)=WP (WM q.s.aft) 12:=by rw[HW5.out.2.2.2.1,HW5.out.2.2.1];exact WV HY.out.2.2 _
   have hall:∀i (hi:i<nl),∃bo oo x,p=MI ⟨bo,oo,MH⟩/\bo<w5.heap.size/\w5.cell? ⟨bo,oo+i,MH⟩=MI (MF ME x)/\aA q.s.aft.liv x=2:=fun i hi=>by
    have hil:i<lw.length:=by rw[<-hlw5];exact hi
    rcases hp with⟨h0,_⟩|⟨bo,oo,e1,e2,e3⟩
    ·omega
    ·have hic:i<(aj lw).length:=by rw[dm];exact hil
     refine⟨bo,oo,lw[i],q1.trans e1,e2,(e3 i hic).trans ?_,?_⟩
     ·unfold aj
      rw[List.getElem?_map,MR hil];rfl
     ·exact WU HY.out.2.2 _ ((congrArg (fun l=>lw[i]∈l) HW5.out.2.2.1).mp (Nk hil))
   have HL:M6 (_/\_):=⟨hlen,hall⟩;clear hlw5 hca hmx hp q1 q3 hlen hall
   go_wp2_with fail
   go_loopw [13,14] (fun on i wr=>∃(j:Nat) (a:Int),on=MF ME a/\i=MF ME (j:Int)/\j<=12/\M6 (a=WP (WM q.s.aft) j)/\M6 (MQ w5.heap.size w5 wr)) (fun _ i _=>12-(intOf i).toNat)
   case atStart=>exact⟨0,0,rfl,rfl,Nx _,rfl,MY _ _⟩
   case round =>
    obtain⟨j,a,rfl,rfl,hj,HA,HX⟩:=hrel
    by_cases hlj:j<12
    ·have hjI:(j:Int)<12:=by omega
     have r1:=Xe q.s.aft j;rw[<-HA.out]at r1;have z1:WP (WM q.s.aft) (j+1)=a+(if aA q.s.aft.liv (j:Int)=2 then 1 else 0):=by rw[WQ,<-HA.out];rfl
     have wa:IntKind.i64.wrap (a+1)=a+1:=jn (by omega) (by omega);obtain⟨s2,hs2⟩:∃s,s=aA q.s.aft.liv (j:Int):=⟨_,rfl⟩;rw[<-hs2]at z1;have HZ:M6 (_/\_):=⟨hs2,z1⟩;have HG:M6 (_/\_):=⟨HW5.out.1.on HX.out,HX.out⟩;have hcs:(s2 == 2)=Nw/\M6 (WP (WM q.s.aft) (j+1)=a+1)\/(s2 == 2)=Nb/\M6 (WP (WM q.s.aft) (j+1)=a):=by
      by_cases h:s2=2
      ·rw[Nh h]at z1;exact Nt ⟨by simp[h],z1⟩
      ·rw[Nf h,Int.add_zero]at z1;exact NF ⟨by simp[h],z1⟩
     clear hs2 z1 r1;rcases hcs with⟨h2,HE⟩|⟨h2,HE⟩
     all_goals
      go_wp2_with ((with_reducible refine O3 rfl 54 (O6 10) rfl B10 0 ?gx M _ ?gc U1 ?gd ?gi ?_);(case gx=>rfl);(case gc=>exact J8 HG.out.1.box);(case gd=>rfl);(case gi=>exact HG.out.1.i))
      refine Calls.mono (HG.out.1.st _) ?_;rintro r w6 ⟨rfl,hb6⟩;rw[<-HZ.out.1];have H6:M6 _:=HG.out.2.trans (hb6.mono HG.out.2.size);clear hb6;go_wp2
      go_roundw
      case rel=>exact⟨j+1,_,rfl,by simp,hlj,HE.out.symm,H6⟩
      case measure=>simp[intOf];omega
    ·obtain rfl:j=12:=by omega
     have hjI:¬((12:Nat):Int)<12:=by omega
     have hna:((nl:Int) != a)=false:=by rw[HL.out.1,<-HA.out];simp
     go_wp2_with fail
     go_loopw [15] (fun i wr=>∃i':Nat,i=MF ME (i':Int)/\i'<=nl/\M6 (MQ w5.heap.size w5 wr)) (fun i _=>nl-(intOf i).toNat)
     case atStart=>exact⟨0,rfl,Nx _,HX⟩
     case round =>
      obtain⟨i,rfl,hi,HV⟩:=hrel
      by_cases hli:i<nl
      ·have hiI:(i:Int)<(nl:Int):=by omega
       obtain⟨bo,oo,x,rfl,hbo,hcx,hsx⟩:=HL.out.2 i hli;have HXS:M6 _:=hsx;have HG:M6 (_/\_/\_):=⟨HW5.out.1.on HV.out,HV.out,(HV.out.cell (p:=⟨bo,oo+i,MH⟩) hbo).trans hcx⟩;obtain⟨C,hC1,hC2⟩:∃C:MO->Prop,(∀X,C X->Wb X B10 q.v q.s.aft M/\MQ w5.heap.size w5 X/\X.cell? ⟨bo,oo+i,MH⟩=MI (MF ME x))/\(∀X,Wb X B10 q.v q.s.aft M/\MQ w5.heap.size w5 X/\X.cell? ⟨bo,oo+i,MH⟩=MI (MF ME x)->C X):=⟨_,fun _ h=>h,fun _ h=>h⟩;have HCC:M6 (_/\_):=⟨hC1,hC2⟩;clear hC1 hC2 hsx hcx hbo
       go_wp2_with fail
       refine Xm (C:=C) (HCC.out.2 _ ⟨HG.out.1.on (MY _ _).drew,HG.out.2.1.trans (((MY _ _).drew).mono HG.out.2.1.size),HG.out.2.2⟩) ?_
       go_big_quiet_want
       refine Xo 54 (O6 10) B10 0 M (fun X hX=>J8 (HCC.out.1 X hX).1.box) HG.out.1.i U1 ?_;simp only[Nr,MZ,MT,MS,MJ,ML,MM]
       go_big_quiet_on
       go_big_quiet_want
       refine Xl (MG (MI ⟨bo,oo,MH⟩) nl cc) ?_ (fun X hSw=>by go_simp);simp only[Nr,MZ,MT,MS,MJ,ML,MM]
       go_big_quiet_on
       go_big_quiet_want
       refine Xl (MF ME (i:Int)) ?_ (fun X hSw=>by go_simp);simp only[Nr,MZ,MT,MS,MJ,ML,MM]
       go_big_quiet_on
       go_big_quiet_want
       refine Xl (Na (MI ⟨bo,oo+i,MH⟩)) ?_ (fun X hSw=>by go_simp);simp only[Nr,MZ,MT,MS,MJ,ML,MM]
       go_big_quiet_on
       go_big_quiet_want
       refine Xl (MF ME x) ?_ (fun X hSw=>by have h:=(HCC.out.1 X hSw).2.2;go_simp);simp only[Nr,MZ,MT,MS,MJ,ML,MM]
       go_big_quiet_on
       go_big_quiet_want
       refine Xn (MF ME 2) 16 #[Ny M.toArray,MF ME x] (fun X hX=>((HCC.out.1 X hX).1.st x).mono fun r w' h=>⟨h.1.trans (by rw[HXS.out]),HCC.out.2 w' ⟨(HCC.out.1 X hX).1.on h.2,(HCC.out.1 X hX).2.1.trans (h.2.mono (HCC.out.1 X hX).2.1.size),(h.2.cell (World.block_lt_of_cell? X ⟨bo,oo+i,MH⟩ (HCC.out.1 X hX).2.2)).trans (HCC.out.1 X hX).2.2⟩⟩) ?_;simp only[Nr,MZ,MT,MS,MJ,ML,MM]
       go_big_quiet_on
       go_big_quiet_want
       refine Xl (M3 Nb) ?_ (fun X hSw=>by go_simp);simp only[Nr,MZ,MT,MS,MJ,ML,MM]
       go_big_quiet_on
       refine wpQuiet_nil ?_;intro X hX;have HF:M6 _:=(HCC.out.1 X hX).2.1;clear hX;go_wp2
       go_roundw
       case rel=>exact⟨i+1,by simp,hli,HF⟩
       case measure=>simp[intOf];omega
      ·obtain rfl:i=nl:=by omega
       have hiI:¬(i:Int)<(i:Int):=by omega
       have HF:M6 _:=(HQ.out.2.2.2.2.1.trans (HW5.out.2.2.2.2.mono HQ.out.2.2.2.2.1.size)).trans (HV.out.mono (HQ.out.2.2.2.2.1.trans (HW5.out.2.2.2.2.mono HQ.out.2.2.2.2.1.size)).size);go_wp2
       go_roundw
       case rel=>exact⟨k+1,by simp,hlt,HF⟩
       case measure=>simp[intOf];omega
  ·obtain rfl:k=n:=by omega
   have hkI:¬(k:Int)<(k:Int):=by omega
   go_wp2;go_ret;exact⟨rfl,HB.out.trans (HW.out.mono HB.out.size)⟩
end Go.Proofs.YtlnbhjdhcmgljaaGreatDoor.Q
