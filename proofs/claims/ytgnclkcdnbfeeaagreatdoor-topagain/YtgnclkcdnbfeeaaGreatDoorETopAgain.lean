/-
  TopAgain: its walk. Conditions: as each theorem says.
-/
import Derived.Test.YtgnclkcdnbfeeaaGreatDoorQ20
open Bool renaming false->Nb,true->Nw
open Go renaming Addr->Oc,Calls->Ni,Program->O8,Value->M7,World->MO,all_oneCell_toArray->OE,bodyPost_ret->Np,cell_of_row->MW,heap_alloc_new->M1,maxLen->NE,wpAnyH_done->PS,wpAnyH_ready->NN,wpList_load_mid->O3,wpList_store_mid->OW,wp_region_held_drew->O2,yieldsIf_load_mid->Pt
open Go.Act renaming put->Nr
open Go.AllReadyH renaming cons->NP,nil->NX
open Go.Calls renaming mono->Nd
open Go.Ending renaming returned->MN
open Go.Instr renaming build->QA,makeSlice->aAU,sliceAt->aAV
open Go.IntKind renaming i64->ME
open Go.Obj renaming cells->MP
open Go.Operand renaming tmp->O6
open Go.Proofs.Tryz renaming prog->MK,underlying35->Ph,underlying55->Lv,underlying60->azj
open Go.RowKit renaming Below->MQ,Hid->M6
open Go.RowKit.Below renaming heap_setCell->MU,refl->MY
open Go.Value renaming agg->Ny,bool->M3,int->MF,nilIface->aAX,pointer->Na,slice->MG,tuple->Nv
open Go.World renaming frozen?->Ng,heap_setCells_other->N8
open List renaming foldl_append->Pu,getElem?_append_left->OJ,getElem?_eq_getElem->MR,getElem?_map->aAT,getElem?_take_of_lt->O0,getElem_cons_succ->MT,getElem_cons_zero->MS,getElem_mem->Nk,getElem_toArray->MZ,length_append->Ns,length_map->N0,length_singleton->OU,length_take->NH,map_append->OI,mem_of_mem_take->aAS,setIfInBounds_toArray->MJ,set_cons_succ->MM,set_cons_zero->ML,size_toArray->OQ,take_append_drop->Oo,take_length->NT,take_of_length_le->N1,take_succ_eq_append_getElem->M9,toList_toArray->NS
open Nat renaming le_of_lt->PJ,le_refl->MV,le_trans->Nm,lt_of_lt_of_le->M8,zero_le->Nx
open Option renaming none->MH,some->MI
open Or renaming inl->Nt,inr->NF
namespace Go.Proofs.YtgnclkcdnbfeeaaGreatDoor.Q
set_option linter.unusedVariables false
set_option linter.unusedSimpArgs false
set_option maxHeartbeats 16000000
set_option maxRecDepth 100000
open Go.RowKit
attribute [local go_sem ↓] Go.wp_at_zero Go.wp_at_succ
variable {E:List M7}{Y:MO}{d n:Nat}
section
variable {base:Nat}{w0 w w':MO}{g:Nat}{V:Vs}{U:Us}{G:Gt}
theorem aba.Gy(B:Nat)(w:MO):aba B w w:=⟨MV _,fun _ _ _=>rfl⟩
end
def azY(A:Gt)(es:List Ev):Py:=es.foldl Py.step ⟨[],A,[]⟩
theorem az1(A:Gt)(es:List Ev)(e:Ev):azY A (es++[e])=(azY A es).step e:=by
 unfold azY;rw[Pu];rfl
theorem az0(A:Gt)(es:List Ev):(azY A es).steps.length=es.length:=by
 unfold azY;rw[aqQ];show 0+_=_;omega
theorem azZ(A:Gt):∀(n:Nat) (es:List Ev),es.length=n->(azY A es).steps.map (·.ev)=es:=by
 intro n
 induction n with
 |zero=>intro es h;obtain rfl:=List.length_eq_zero_iff.1 h;rfl
 |succ n ih =>
  intro es h;obtain⟨l,e,rfl⟩:∃l e,es=l++[e]:=⟨es.dropLast,es.getLast (by intro q;rw[q]at h;cases h),(List.dropLast_concat_getLast _).symm⟩;rw[Ns,OU]at h;rw[az1];show((azY A l).steps++[_]).map (fun s:Sp=>s.ev)=_;rw[OI,ih l (by omega)];rfl
theorem az2(A:Gt)(es:List Ev):∀k,(azY A (es.take k)).steps=(azY A es).steps.take k:=by
 intro k;have j:∀(m:List Ev) (P:Py),(m.foldl Py.step P).steps.take P.steps.length=P.steps:=by
  intro m
  induction m with
  |nil=>intro P;exact NT
  |cons e m ih =>
   intro P;have f:=ih (P.step e);rw[List.foldl_cons];have i:(P.step e).steps=P.steps++[⟨e,P.last,(Xb P.last e).Ma,(Xb P.last e).out⟩]:=rfl;have c:(P.step e).steps.take P.steps.length=P.steps:=by rw[i,List.take_append_of_le_length (MV _),NT]
   rw[<-c]
   conv=>rhs;rw[c]
   have l:(m.foldl Py.step (P.step e)).steps.take ((P.step e).steps.take P.steps.length).length=((m.foldl Py.step (P.step e)).steps.take (P.step e).steps.length).take P.steps.length:=by
    rw[c,List.take_take]
    congr 1
    rw[i];simp
   rw[l,f,c]
 by_cases hk:k<=es.length
 ·have f:=j (es.drop k) (azY A (es.take k))
  rw[az0,NH,Nat.min_eq_left hk]at f;rw[<-f];unfold azY;rw[<-Pu,Oo]
 ·rw[N1 (by omega),N1 (by rw[az0];omega)]
theorem Rn.aAP{A:Gt}{c:Cf}{P:Py}(h:Rn A c P):P=azY A (P.steps.map (·.ev)):=by
 obtain⟨e,q,_,_⟩:=h.built;have f:P=azY A e:=q;rw[f,azZ A _ e rfl]
abbrev Oo:=Option Oc×Nat×List Ou
abbrev aAu(x:Oo):List Value:=[MG x.1 x.2.2.length x.2.1]
theorem aAv(x:Oo):(aAu x).length=1:=rfl
theorem aAw(x:Oo):∀u∈aAu x,u.oneCell'=true:=by
 intro u c;rw[List.mem_singleton.1 c];rfl
structure aAN where
 u:Us
 p:Option Oc
 c:Nat
 xs:List Oo
def aAN.own(V:aAN)(g b:Nat):Prop:=b=g\/V.p.map (·.block)=MI b
def aAN.off(V:aAN)(base g b:Nat):Prop:=b<base\/V.own g b
structure Gs where
 last:Gt
 outs:List (List Ou)
def Gs.step(P:Gs)(e:Ev):Gs:=⟨(Xb P.last e).Ma,P.outs++[(Xb P.last e).out]⟩
structure az5(P:Gs):Prop where
 wm:Wm P.last
 out:P.last.out=[]
def aAO(V:aAN)(P:Gs):List Value:=(XR V.u P.last).toList++[MG V.p V.xs.length V.c]
structure az6(base:Nat)(w:MO)(g:Nat)(V:aAN)(P:Gs):Prop where
 box:w.heap[g]?=MI (MP (aAO V P).toArray 100 (0,0))
 low:base<=g
 eqs:V.xs.map (·.2.2)=P.outs
 rows:w.ownsRow base 61 1 (MG V.p V.xs.length V.c) V.xs.length (rv aAu V.xs)
 og:V.p.map (·.block)≠MI g
 last:XG (V.off base g) w fun X=>Xd X V.u P.last
 all:∀x∈V.xs,XG (V.off base g) w fun X=>Xw Z1 X (MG x.1 x.2.2.length x.2.1) x.2.2
structure az7(V V':aAN)(g:Nat)(w w':MO):Prop where
 os:w'.os=w.os
 tape:w'.tape=w.tape
 output:w'.output=w.output
 size:w.heap.size<=w'.heap.size
 block:∀b,b<w.heap.size->¬V.own g b->w'.heap[b]?=w.heap[b]?
 ext:∀b,V'.own g b->V.own g b\/w.heap.size<=b
section
variable {base:Nat}{w w' w1 w2:MO}{g:Nat}{V V' V1 V2:aAN}{P:Gs}
theorem az6.lt(h:az6 base w g V P):g<w.heap.size:=(Array.getElem?_eq_some_iff.1 h.box).1
theorem az7.F5(h:MQ w.heap.size w w1):az7 V V g w w1:=⟨h.os,h.tape,h.output,h.size,fun b hb _=>h.block b hb,fun _ h=>Nt h⟩
theorem az7.F0(h:az7 V V1 g w w1)(k:az7 V1 V2 g w1 w2):az7 V V2 g w w2 :=
 ⟨k.os.trans h.os,k.tape.trans h.tape,k.output.trans h.output,Nm h.size k.size,fun b hb hn=>(k.block b (M8 hb h.size) fun e=>by
  rcases h.ext b e with e|e
  ·exact hn e
  ·omega).trans (h.block b hb hn),fun b e=>by
  rcases k.ext b e with e|e
  ·exact h.ext b e
  ·exact NF (Nm h.size e)⟩
theorem az6.Mb(h:az6 base w g V P){b:Nat}(hb:V.own g b):base<=b/\b<w.heap.size:=by
 rcases hb with rfl|e
 ·exact⟨h.low,h.lt⟩
 ·exact h.rows.lt b (by rw[XV];exact e)
theorem az7.IT(h:az7 V V1 g w w1)(hP:az6 base w g V P)(hb:base<=w.heap.size):MQ base w w1 :=
 ⟨h.os,h.tape,h.output,h.size,fun b q=>h.block b (by omega) fun e=>by have:=(hP.Mb e).1;omega⟩
theorem az6.below(h:az6 base w g V P)(hb:MQ w.heap.size w w'):az6 base w' g V P :=
 ⟨(hb.block g h.lt).trans h.box,h.low,h.eqs,W8 h.rows fun b e=>hb.block b (h.rows.lt b e).2,h.og,h.last.below hb,fun q hq=>(h.all q hq).below hb⟩
theorem az6.Mo(h:az6 base w g V P):w.rangeAt g 0 (XR V.u P.last).toList:=fun j v hv=>by
 have f:j<26:=(List.getElem?_eq_some_iff.1 hv).1;rw[MW w g (0+j) _ _ (0,0) h.box];have e:aAO V P=(XR V.u P.last).toList++[MG V.p V.xs.length V.c]:=rfl;rw[List.getElem?_toArray,e,show 0+j=j by omega,OJ f];exact hv
theorem az6.Ip(h:az6 base w g V P):w.cell? ⟨g,26,MH⟩=MI (MG V.p V.xs.length V.c):=by
 rw[MW w g 26 _ _ (0,0) h.box];rfl
theorem az6.MC(h:az6 base w g V P)(U:Us)(G:Gt)(hG:XG (V.off base g) w fun X=>Xd X U G) :
  az6 base (w.setCells g 0 (XR U G).toList) g {V with u:=U} {P with last:=G}:=by
 have i:∀b,b<w.heap.size->b≠g->(w.setCells g 0 (XR U G).toList).heap[b]?=w.heap[b]?:=fun b f e=>N8 w g 0 _ f e
 have k:(w.setCells g 0 (XR U G).toList).heap.size=w.heap.size:=ac3 _ _ _ _;have j:∀ {p':MO->Prop},XG (V.off base g) w p'->XG (aAN.off {V with u:=U} base g) (w.setCells g 0 (XR U G).toList) p':=fun hA =>
  hA.step (by rw[k];exact MV _) (fun b q1 q2=>i b q1 fun e=>q2 (NF (Nt e))) fun b q1 e=>e
 refine⟨?_,h.low,h.eqs,W8 h.rows fun b e=>i b (h.rows.lt b e).2 fun e2=>h.og (by rw[<-XV,e,e2]),h.og,j hG,fun x hx=>j (h.all x hx)⟩;have f:w.heap[g]?=MI (MP (([]:List M7)++((XR V.u P.last).toList++[MG V.p V.xs.length V.c])).toArray 100 (0,0)):=h.box;exact anx 100 g (XR U G).toList [] (XR V.u P.last).toList [MG V.p V.xs.length V.c] w rfl f
theorem aAr{u:MO}(U:Us)(vs:List M7):az7 V {V with u:=U} g u (u.setCells g 0 vs):=by
 have c:=adF (B:=0) (w0:=u) (g:=g) (MY 0 u) (Nx _) 0 vs (Nx _);exact⟨c.os,c.tape,c.output,c.size,fun b q1 q2=>N8 u g 0 _ q1 fun e=>q2 (Nt e),fun b e=>Nt e⟩
theorem az6.MB(h:az6 base w g V P)(hs:w.heap.size<=w'.heap.size)(hb:∀b,b<w.heap.size->V.p.map (·.block)≠MI b->w'.heap[b]?=w.heap[b]?){p:Option Oc}{k:Nat}{x:Oo}
  (ho:w'.ownsRow base 61 1 (MG p (V.xs++[x]).length k) (V.xs++[x]).length (rv aAu (V.xs++[x]))) (hp:∀b,p.map (·.block)=MI b->V.p.map (·.block)=MI b\/w.heap.size<=b)
  (hq:XG (V.off base g) w fun X=>Xw Z1 X (MG x.1 x.2.2.length x.2.1) x.2.2) :
  az6 base (w'.setCell ⟨g,26,MH⟩ (MG p (V.xs++[x]).length k)) g {V with p:=p,c:=k,xs:=V.xs++[x]} {P with outs:=P.outs++[x.2.2]}:=by
 have q:=(hb g h.lt h.og).trans h.box;have l:∀b,p.map (·.block)=MI b->b≠g:=fun b e e2=>by
  subst e2;rcases hp b e with e|e
  ·exact h.og e
  ·have:=h.lt;omega
 have j:∀b,b≠g->(w'.setCell ⟨g,26,MH⟩ (MG p (V.xs++[x]).length k)).heap[b]?=w'.heap[b]?:=fun b e=>MU _ _ _ _ (fun e2=>e e2)
 have m:(w'.setCell ⟨g,26,MH⟩ (MG p (V.xs++[x]).length k)).heap.size=w'.heap.size:=by simp
 have i:∀ {p':MO->Prop},XG (V.off base g) w p'->XG (aAN.off {V with p:=p,c:=k,xs:=V.xs++[x]} base g) (w'.setCell ⟨g,26,MH⟩ (MG p (V.xs++[x]).length k)) p':=fun hA =>
  hA.step (by rw[m];exact hs) (fun b q1 q2=>(j b fun e=>q2 (NF (Nt e))).trans (hb b q1 fun e=>q2 (NF (NF e)))) fun b q1 e=>by
   rcases e with e|e|e
   ·exact Nt e
   ·exact NF (Nt e)
   ·exact(hp b e).elim (fun e=>NF (NF e)) fun e=>by omega
 refine⟨?_,h.low,by rw[OI,h.eqs];rfl,W8 ho fun b e=>j b (l b (by rw[<-XV];exact e)),fun e=>l g e rfl,i h.last,fun y f=>?_⟩
 ·exact YO q rfl
 ·rcases List.mem_append.1 f with f|f
  ·exact i (h.all y f)
  ·rw[List.mem_singleton.1 f];exact i hq
theorem aAo:(Tryz.prog.info? 61).map (fun i=>(i.zero,i.size,i.bytes))=MI (MI (MG MH 0 0),1,24):=by kernel_rfl
theorem aAy(h:az6 base w g V P)(hl:V.xs.length<=100000)(x:Oo)(hq:XG (V.off base g) w fun X=>Xw Z1 X (MG x.1 x.2.2.length x.2.1) x.2.2) :
  ∃q c' w5,(Builtin.append_ #[64,64] 64 #[MG V.p V.xs.length V.c,MG (MI ⟨w.heap.size,0,MH⟩) 1 1]).run MK (w.alloc (MP #[MG x.1 x.2.2.length x.2.1] 61))=.ok (MG (MI ⟨q,0,MH⟩) (V.xs.length+1) c') w5 /\
   (w5.cell? ⟨g,26,MH⟩=MI (MG V.p V.xs.length V.c)/\w5.frozen? ⟨g,26,MH⟩=Nb) /\
   az6 base (w5.setCell ⟨g,26,MH⟩ (MG (MI ⟨q,0,MH⟩) (V.xs.length+1) c')) g {V with p:=MI ⟨q,0,MH⟩,c:=c',xs:=V.xs++[x]} {P with outs:=P.outs++[x.2.2]} /\
   az7 V {V with p:=MI ⟨q,0,MH⟩,c:=c',xs:=V.xs++[x]} g w (w5.setCell ⟨g,26,MH⟩ (MG (MI ⟨q,0,MH⟩) (V.xs.length+1) c')):=by
 have s:base<=w.heap.size:=Nm h.low (PJ h.lt);obtain⟨q,c',w5,v,u,f,t⟩:=afC aAv aAw (by decide) Tryz.underlying64 aAo rfl (w:=w) (base:=base) h.rows s 64 x #[MG x.1 x.2.2.length x.2.1] rfl (by omega) (by unfold NE;omega);have i:∀b,b<w.heap.size->V.p.map (·.block)≠MI b->w5.heap[b]?=w.heap[b]?:=fun b hb hne=>f.block b hb (fun e=>hne (by rw[e,XV]))
 have l:=(i g h.lt h.og).trans h.box;have m:∀b,(MI (⟨q,0,MH⟩:Oc)).map (·.block)=MI b->V.p.map (·.block)=MI b\/w.heap.size<=b:=fun b e=>by
  cases e;rcases t with e|e
  ·exact Nt (by rw[<-XV _ V.xs.length V.c];exact e)
  ·exact NF (PJ e)
 have j:(V.xs++[x]).length=V.xs.length+1:=by simp
 have r:=h.MB (w':=w5) (p:=MI ⟨q,0,MH⟩) (k:=c') (x:=x) f.size i (by rw[j];exact u) m hq;rw[j]at r;refine⟨q,c',w5,v,⟨by rw[MW w5 g 26 _ _ (0,0) l];rfl,by simp[Ng,l]⟩,r,f.os,f.tape,f.output,by simp;exact f.size,fun b hb hn=>?_,fun b e=>?_⟩
 ·rw[MU _ _ _ _ (fun e=>hn (Nt e))]
  exact i b hb fun e=>hn (NF e)
 ·rcases e with e|e
  ·exact Nt (Nt e)
  ·exact(m b e).imp (fun e=>NF e) id
structure az4(base:Nat)(X:MO)(g:Nat)(V:aAN)(P:Gs)(h:Nat)(e:Ev):Prop where
 pat:az6 base X g V P
 evb:X.heap[h]?=MI (MP (aaV e).toArray 60 (0,0))
 blk:Xo X
theorem az4.on{X:MO}{h:Nat}{e:Ev}(k:az4 base X g V P h e)(hb:MQ X.heap.size X Y):az4 base Y g V P h e:=⟨k.pat.below hb,WO k.evb hb,k.blk.below hb⟩
theorem az4.ev{X:MO}{h:Nat}{e:Ev}(k:az4 base X g V P h e):X.rangeAt h 0 (aaV e):=agb k.evb
structure az3(base:Nat)(W u:MO)(g:Nat)(V:aAN)(P:Gs)(h:Nat)(e:Ev)(b:Nat)(M:List M7)(U:Us)(po:Option Oc)(co:Nat):Prop where
 dos:az4 base u g V P h e
 mem:M=(XR U (Xb P.last e)).toList
 box:u.heap[b]?=MI (MP M.toArray 55 (0,0))
 low:W.heap.size<=b
 bel:MQ W.heap.size W u
 ans:XG (V.off base g) u fun X=>Xd X U (Xb P.last e)/\Xw Z1 X (MG po (Xb P.last e).out.length co) (Xb P.last e).out
 lt:∀x,V.own g x->x<W.heap.size
 no:¬V.own g h
end
abbrev aAk:List Value:=[MF ME 0,MF ME 0,MF ME 0,MF ME 0,M3 Nb,MF ME 0,MF ME 0,MF ME 0]
theorem aAb(v:M7)(w:MO):Ni MK 32 #[aAX,v] w fun r w'=>r=MN (M3 Nb)/\w'=w:=by
 go_enter Tryz.func32,Tryz.ntmps32;go_wp2;go_ret;exact⟨rfl,rfl⟩
theorem aAB(w:MO):Ni MK 296 #[MF ME 0] w fun r w'=>r=MN aAX/\w'=w:=by
 go_enter Tryz.func296,Tryz.ntmps296;go_wp2;go_ret;exact⟨rfl,rfl⟩
theorem aAp:(Tryz.prog.info? 98).map (·.size)=MI 8:=by kernel_rfl
def aAa(w:MO)(d b:Nat)(E:List M7)(X:MO):Prop:=X.rangeAt b 0 E/\b<X.heap.size/\(∃D:List M7,D.length=8/\X.heap[d]?=MI (MP D.toArray 60 (0,0)))/\MQ w.heap.size w X/\w.heap.size<=d/\d<b
theorem aAa.below{w X:MO}{b:Nat}(h:aAa w d b E X)(hb:MQ X.heap.size X Y):aAa w d b E Y:=by
 obtain⟨j,c,⟨D,f,i⟩,e,l,k⟩:=h;exact⟨afr j (hb.block b c),M8 c hb.size,⟨D,f,WO i hb⟩,e.trans (hb.mono e.size),l,k⟩
theorem aAa.F4{w X:MO}{b:Nat}(h:aAa w d b E X)(hE:E.length=8):aAa w d b E (X.setCells d 0 E)/\(X.setCells d 0 E).heap[d]?=MI (MP E.toArray 60 (0,0)):=by
 obtain⟨l,e,⟨D,j,k⟩,f,i,m⟩:=h;have c:(X.setCells d 0 E).heap[d]?=MI (MP E.toArray 60 (0,0)):=anq k (by rw[j,hE]);exact⟨⟨afr l (N8 X d 0 _ e (by omega)),by rw[ac3];exact e,⟨E,hE,c⟩,adF f i _ _ f.size,i,m⟩,c⟩
theorem aAa.GB{w X:MO}{b:Nat}(h:aAa w d b E X)(hn:n=8):X.there d 0 n:=by
 obtain⟨_,_,⟨D,c,e⟩,_⟩:=h;rw[hn,<-c];exact aeU e
theorem aAG(e:Ev)(he:Yk e=0)(w:MO):Ni MK 295 #[agQ e] w fun r w'=>r=MN (Nv #[agQ e,aAX])/\MQ w.heap.size w w':=by
 obtain⟨E,y⟩:∃E,E=aaV e:=⟨_,rfl⟩;have HC:M6 (∀W:MO,Ni MK 21 #[Ny E.toArray] W fun r w'=>r=MN (MF ME 0)/\MQ W.heap.size W w'):=fun W=>by
  have h:=awv e W;rw[he]at h;rw[y];exact h
 have c:M6 (E.length=8/\E.toArray.all (·.oneCell')=Nw):=⟨by rw[y];rfl,by rw[y];exact OE (au7 e)⟩;rw[show agQ e=Ny E.toArray by rw[y]];clear y he;obtain⟨m,l⟩:∃X,X=w.alloc (MP E.toArray 98):=⟨_,rfl⟩;have r0:m.rangeAt w.heap.size 0 E:=by rw[l];exact agb (M1 _ _)
 have B0:MQ w.heap.size w m:=by rw[l];exact WQ w
 have l0:w.heap.size<m.heap.size:=by rw[l];simp
 obtain⟨k,z⟩:∃b,b=m.heap.size:=⟨_,rfl⟩;obtain⟨j,q⟩:∃X,X=m.alloc (MP aAk.toArray 60):=⟨_,rfl⟩;have J:j.heap[k]?=MI (MP aAk.toArray 60 (0,0)):=by rw[q,z];exact M1 _ _
 have B1:MQ m.heap.size m j:=by rw[q];exact WQ m
 obtain⟨f,B⟩:∃b,b=j.heap.size:=⟨_,rfl⟩;obtain⟨H,u⟩:∃X,X=j.alloc (MP aAk.toArray 60):=⟨_,rfl⟩;have L:H.heap[f]?=MI (MP aAk.toArray 60 (0,0)):=by rw[u,B];exact M1 _ _
 have B2:MQ j.heap.size j H:=by rw[u];exact WQ j
 obtain⟨t,A⟩:∃X,X=H.setCells f 0 E:=⟨_,rfl⟩;have M:t.heap[f]?=MI (MP E.toArray 60 (0,0)):=by rw[A];exact anq L (by rw[c.out.1];rfl)
 have B3:MQ j.heap.size j t:=by rw[A];exact adp B2 (by omega) _ _ B2.size
 have a3:MQ w.heap.size w t:=B0.trans ((B1.trans (B3.mono B1.size)).mono B0.size);have hT:aAa w k f E t:=⟨agb M,(Array.getElem?_eq_some_iff.1 M).1,⟨aAk,rfl,WO J B3⟩,a3,by omega,by rw[B];exact(Array.getElem?_eq_some_iff.1 J).1⟩;obtain⟨S,hS,a4,a7⟩:∃S:MO->Prop,(∀X,S X->aAa w k f E X)/\(∀X,aAa w k f E X->S X)/\S t.drew:=⟨aAa w k f E,fun _ h=>h,fun _ h=>h,hT.below (MY _ _).drew⟩;have p:M6 (_/\_):=⟨hS,a4⟩;have a9:M6 _:=a7;have a6:H.there f 0 E.toArray.size:=by rw[OQ,c.out.1];exact aeU L
 have s1:w.heap.size+1=k:=by rw[z,l];simp
 have F:k+1=f:=by rw[B,q,z];simp
 have a8:((w.alloc (MP E.toArray 98)).alloc (MP aAk.toArray 60)).rangeAt w.heap.size 0 E:=by rw[<-l,<-q];exact afr r0 (B1.block _ l0)
 have T:(((w.alloc (MP E.toArray 98)).alloc (MP aAk.toArray 60)).alloc (MP aAk.toArray 60)).there (w.heap.size+1+1) 0 E.toArray.size:=by rw[<-l,<-q,<-u,s1,F];exact a6
 have O:t=(((w.alloc (MP E.toArray 98)).alloc (MP aAk.toArray 60)).alloc (MP aAk.toArray 60)).setCells (w.heap.size+1+1) 0 E:=by rw[A,u,q,l,<-F,<-s1]
 have a5:E.toArray.size=8:=(show E.toArray.size=E.length from OQ).trans c.out.1;have s:M6 (_/\_/\_/\_/\_/\_):=⟨a8,T,O,s1,F,a5⟩;clear hS a4 a7 hT a3 B0 B1 B2 B3 r0 J L M l0 z B l q u A a6 s1 F a8 T O a5;go_enter Tryz.func295,Tryz.ntmps295
 go_wp2_with (first|((with_reducible refine O3 rfl 98 (O6 1) rfl w.heap.size 0 ?gx E _ ?gc Tryz.underlying98 ?gd ?gi ?_);(case gx=>rfl);(case gc=>exact s.out.1);(case gd=>rfl);(case gi=>rw[c.out.1];exact aAp))|((with_reducible refine OW rfl 60 (O6 4) (O6 5) rfl (w.heap.size+1+1) 0 E.toArray ?sx ?sy ?st ?si ?s1 ?_);(case sx=>rfl);(case sy=>rfl);(case st=>exact s.out.2.1);(case si=>rw[s.out.2.2.2.2.2];exact anz);(case s1=>exact c.out.2);rw[NS,<-s.out.2.2.1]))
 rw[s.out.2.2.2.1,s.out.2.2.2.2.1];clear s;refine O2 (S:=S) (by kernel_rfl) a9.out (fun hHeld=>?_);refine awW 0 (Ny E.toArray) hHeld ?_ (hy:=Pt (by rfl) 60 (O6 4) rfl f 0 rfl E _ (fun _ h=>(p.out.1 _ h).1) azj rfl (by rw[c.out.1];exact anz));simp only[Nr,MZ,MT,MS,MJ,ML,MM];refine awW 1 (Ny E.toArray) hHeld ?_ (hy:=Pt (by rfl) 60 (O6 4) rfl f 0 rfl E _ (fun _ h=>(p.out.1 _ h).1) azj rfl (by rw[c.out.1];exact anz));simp only[Nr,MZ,MT,MS,MJ,ML,MM];refine NN (rs:=[2]) (by kernel_rfl) (by simp) ?_;refine NP (o:=_) rfl (fun K hK=>?_) NX;go_simp;refine Nd (HC.out _) ?_;rintro r w5 ⟨rfl,a0⟩;have a2:S w5:=p.out.2 _ ((p.out.1 _ hHeld).below a0);clear a0
 go_wp2_with fail
 refine hK.out _ _ a2 (fun hHeld=>?_);clear hK K a2
 try simp only[Nr,MZ,MT,MS,MJ,ML,MM]
 refine NN (rs:=[3]) (by kernel_rfl) (by simp) ?_;refine NP (o:=_) rfl (fun K hK=>?_) NX;go_simp;refine Nd (aAB _) ?_;rintro r w6 ⟨rfl,rfl⟩
 go_wp2_with fail
 refine hK.out _ _ hHeld (fun hHeld=>?_);clear hK K
 try simp only[Nr,MZ,MT,MS,MJ,ML,MM]
 obtain⟨N,I⟩:∃N,N=w6.setCells k 0 E:=⟨_,rfl⟩;have D:=(p.out.1 _ hHeld).F4 c.out.1;rw[<-I]at D;have Z:S N:=p.out.2 _ D.1;refine NN (rs:=[4]) (by kernel_rfl) (by simp) ?_;refine afX (i:=4) (o:=_) (by rfl) (by rfl) 60 (O6 2) (O6 6) (by rfl) k 0 E.toArray (by rfl) (by rfl) ((p.out.1 _ hHeld).GB (by rw[OQ];exact c.out.1)) (by rw[OQ,c.out.1];exact anz) c.out.2 (by rw[NS,<-I];exact Z) ?_;rw[NS,<-I]
 try simp only[Nr,MZ,MT,MS,MJ,ML,MM]
 refine NN (rs:=[5]) (by kernel_rfl) (by simp) ?_;refine acK (i:=5) (o:=_) (by rfl) (by rfl) (O6 9) (by rfl) (aAX) (by rfl) Z ?_
 try simp only[Nr,MZ,MT,MS,MJ,ML,MM]
 refine PS (by kernel_rfl) ?_ _;go_wp2;refine Np (v:=Nv #[Ny E.toArray,aAX]) (XT Tryz.results295 rfl rfl (akJ D.2 azj rfl (by rw[c.out.1];exact anz))) rfl ?_;exact⟨rfl,D.1.2.2.2.1⟩
theorem aAF{base:Nat}{w:MO}{g:Nat}{V:aAN}{P:Gs}(h:az6 base w g V P)(hr:az5 P)(hlen:V.xs.length<=4000)(hblk:Xo w)(hb:base<=w.heap.size)(e:Ev)(he:Yk e=0)(h7:e.kind=7->P.last.now+1<=1099511626776) :
  Ni MK 18 #[gP g,.iface 98 (agQ e)] w fun r w'=>r=MN (Nv #[])/\∃V',az6 base w' g V' (P.step e)/\az7 V V' g w w'/\V'.xs.length=V.xs.length+1:=by
 have H7:M6 (e.kind=7->P.last.now+1<=1099511626776):=h7;obtain⟨L,hL⟩:∃L,L=(XR V.u P.last).toList:=⟨_,rfl⟩;have HL:M6 _:=hL;have g1:M6 _:=aAG e he w;have T:M6 (_/\_/\_/\_/\_/\_):=⟨h,hr,hlen,hblk,hb,he⟩;clear hL h hr hlen hblk hb he h7;go_enter Tryz.func18,Tryz.ntmps18
 go_wp2_with fail
 refine Nd g1.out ?_;rintro r w1 ⟨rfl,b7⟩;obtain⟨E,hE⟩:∃E,E=aaV e:=⟨_,rfl⟩;have d9:(w1.alloc (MP aAk.toArray 60)).heap[w1.heap.size]?=MI (MP aAk.toArray 60 (0,0)):=M1 _ _;obtain⟨W1,c6⟩:∃W1,W1=(w1.alloc (MP aAk.toArray 60)).setCells w1.heap.size 0 E:=⟨_,rfl⟩;have f8:W1.heap[w1.heap.size]?=MI (MP E.toArray 60 (0,0)):=by rw[c6];exact anq d9 (by rw[hE];rfl)
 have d8:MQ w1.heap.size w1 W1:=by rw[c6];exact adp (WQ w1) (MV _) _ _ (by simp)
 have i3:E.length=8:=by rw[hE];rfl
 have e0:E.toArray.size=8:=(show E.toArray.size=E.length from OQ).trans i3;have f3:(w1.alloc (MP aAk.toArray 60)).there w1.heap.size 0 E.toArray.size:=by rw[e0];exact afH d9
 have g5:E.toArray.all (·.oneCell')=true:=by rw[hE];exact OE (au7 e)
 obtain⟨W,hW⟩:∃W,W=W1.alloc (MP #[MF ME 0] 65):=⟨_,rfl⟩;have e5:MQ W1.heap.size W1 W:=by rw[hW];exact WQ W1
 obtain⟨D,e8⟩:∃D,D=w1.heap.size:=⟨_,rfl⟩;have c7:MQ w.heap.size w W:=(b7.trans (d8.mono b7.size)).trans (e5.mono (Nm b7.size d8.size));have g9:¬V.own g D:=fun e=>by have:=(T.out.1.Mb e).2;have:=b7.size;omega
 have N:M6 (az4 base W g V P D e):=⟨T.out.1.below c7,by rw[e8,<-hE];exact WO f8 e5,T.out.2.2.2.1.below c7⟩;have A:M6 (az5 P/\V.xs.length<=4000/\Yk e=0/\MQ w.heap.size w W/\base<=w.heap.size/\¬V.own g D):=⟨T.out.2.1,T.out.2.2.1,T.out.2.2.2.2.2,c7,T.out.2.2.2.2.1,g9⟩;have H0:M6 (_/\_/\_/\_):=⟨f3,e0,g5,c6⟩;rw[show agQ e=Ny E.toArray by rw[hE]];clear d9 f8 d8 i3 e0 f3 g5 e5 c7 g9 hE c6 b7 T g1
 go_wp2_with ((with_reducible refine OW rfl 60 (O6 4) (O6 13) rfl w1.heap.size 0 E.toArray ?sx ?sy ?st ?si ?s1 ?_);(case sx=>rfl);(case sy=>rfl);(case st=>exact H0.out.1);(case si=>rw[H0.out.2.1];exact anz);(case s1=>exact H0.out.2.2.1);rw[NS,<-H0.out.2.2.2])
 refine Nd (aAb _ _) ?_;rintro r w2 ⟨rfl,rfl⟩
 go_wp2_with fail
 rw[<-hW,<-e8];clear hW e8 H0;apply aan
 ·intro i5
  obtain⟨W3,e4⟩:∃W3,W3=W.drew:=⟨_,rfl⟩;have g8:az4 base W3 g V P D e:=by rw[e4];exact N.out.on (MY _ _).drew
  obtain⟨S,hS,g7,j0⟩:∃S:MO->Prop,(∀X,S X->az4 base X g V P D e)/\(∀X,az4 base X g V P D e->S X)/\S W.drew:=⟨fun X=>az4 base X g V P D e,fun _ h=>h,fun _ h=>h,by rw[<-e4];exact g8⟩;have B:M6 (_/\_):=⟨hS,g7⟩;clear hS g7 g8 e4 W3;refine O2 (S:=S) (by kernel_rfl) j0 (fun hHeld=>?_);refine awW 0 (gP g) hHeld ?_;simp only[Nr,MZ,MT,MS,MJ,ML,MM];refine awW 1 (gP g) hHeld ?_;simp only[Nr,MZ,MT,MS,MJ,ML,MM];refine awW 2 (Na (MI ⟨g,0,MH⟩)) hHeld ?_;simp only[Nr,MZ,MT,MS,MJ,ML,MM];refine awW 3 (Ny L.toArray) hHeld ?_ (hy:=Pt (by rfl) 55 (O6 33) rfl g 0 rfl L _ (fun _ h=>by rw[HL.out];exact(B.out.1 _ h).pat.Mo) Lv rfl (by rw[HL.out];exact Z0));simp only[Nr,MZ,MT,MS,MJ,ML,MM];refine awW 4 (Ny (aaV e).toArray) hHeld ?_ (hy:=Pt (by rfl) 60 (O6 4) rfl D 0 rfl (aaV e) _ (fun _ h=>(B.out.1 _ h).ev) azj rfl anz);simp only[Nr,MZ,MT,MS,MJ,ML,MM];refine NN (rs:=[5,10]) (by kernel_rfl) (by simp) ?_;refine NP (o:=_) rfl (fun K hK=>?_) (NP (o:=_) rfl (fun K hK=>?_) NX)
  ·go_simp
   refine Nd (w:=W.drew) (by rw[HL.out];exact akh (B.out.1 _ hHeld).pat.last.now A.out.1.wm (B.out.1 _ hHeld).blk A.out.1.out e A.out.2.2.1 H7.out) ?_;rintro r l ⟨m,v,y,rfl,b9,F⟩;obtain⟨f,a8⟩:∃f,f=(XR m (Xb P.last e)).toList:=⟨_,rfl⟩;obtain⟨t,a7⟩:∃t,t=(Xb P.last e).out.length:=⟨_,rfl⟩;have s:M6 (_/\_/\_/\_):=⟨a8,b9,F,a7⟩;have b8:S l:=B.out.2 _ ((B.out.1 _ hHeld).on F);rw[show acN m (Xb P.last e)=Ny f.toArray by rw[a8],<-a7];clear b9 F a8 a7
   go_wp2_with fail
   refine hK.out _ _ b8 (fun hHeld5=>?_);clear hK K b8
   try simp only[Nr,MZ,MT,MS,MJ,ML,MM]
   refine awW 6 (Nv #[Ny f.toArray,MG v t y,MF ME 0]) hHeld5 ?_;simp only[Nr,MZ,MT,MS,MJ,ML,MM];refine awW 7 (Ny f.toArray) hHeld5 ?_;simp only[Nr,MZ,MT,MS,MJ,ML,MM];refine awW 8 (MG v t y) hHeld5 ?_;simp only[Nr,MZ,MT,MS,MJ,ML,MM];refine awW 9 (MF ME 0) hHeld5 ?_;simp only[Nr,MZ,MT,MS,MJ,ML,MM];refine NN (rs:=[10]) (by kernel_rfl) (by simp) ?_;refine NP (o:=_) rfl (fun K hK=>?_) NX;go_simp;obtain⟨Y,hY⟩:∃Y,Y=l.alloc (MP wz.toArray 55):=⟨_,rfl⟩;obtain⟨q,O⟩:∃q,q=l.heap.size:=⟨_,rfl⟩;have c4:MQ l.heap.size l Y:=by rw[hY];exact WQ l
   have a3:Y.heap[q]?=MI (MP wz.toArray 55 (0,0)):=by rw[hY,O];exact M1 _ _
   have F:MQ W.heap.size W l:=Za s.out.2.2.1;have a0:MQ W.heap.size W Y:=F.trans (c4.mono F.size);have a5:W.heap.size<=q:=by rw[O];exact F.size
   have g4:S Y:=B.out.2 _ (N.out.on a0);have b3:∀b,b<l.heap.size->Y.heap[b]?=l.heap[b]?:=fun b h=>c4.block b h
   have a6:=c4.size;have g3:l.heap.size<=q:=by rw[O];exact MV _
   rw[<-hY,<-O];clear hY O c4 F;refine hK.out _ _ g4 (fun hHeldY=>?_);clear hK K g4
   try simp only[Nr,MZ,MT,MS,MJ,ML,MM]
   have l5:f.length=26:=by rw[s.out.1];rfl
   have I:f.toArray.size=26:=(show f.toArray.size=f.length from OQ).trans l5;have Z:(Y).there q 0 f.toArray.size:=by rw[I];exact aeU a3
   obtain⟨k,z⟩:∃k,k=(Y).setCells q 0 f:=⟨_,rfl⟩;have c0:k.heap[q]?=MI (MP f.toArray 55 (0,0)):=by rw[z];exact anq a3 (by rw[l5];rfl)
   have a2:MQ W.heap.size W k:=by rw[z];exact adp a0 a5 _ _ a0.size
   have a4:az4 base k g V P D e:=N.out.on a2;have J:S k:=B.out.2 _ a4;have b0:XG (V.off base g) k fun X=>Xd X m (Xb P.last e)/\Xw Z1 X (MG v (Xb P.last e).out.length y) (Xb P.last e).out:=anp (b5:=q) s.out.2.1 (by rw[z,ac3];exact a6) (fun b h1 h2=>by rw[z,N8 _ _ _ _ (M8 h1 a6) h2];try exact b3 b h1) (NF g3) (fun b hx=>hx.elim (fun e=>M8 e (Nm A.out.2.2.2.2.1 A.out.2.2.2.1.size)) fun e=>(N.out.pat.Mb e).2)
   have H:M6 (az3 base W k g V P D e q f m v y/\t=(Xb P.last e).out.length):=⟨⟨a4,s.out.1,c0,a5,a2,b0,fun x hx=>(N.out.pat.Mb hx).2,A.out.2.2.2.2.2⟩,s.out.2.2.2⟩;have c3:f.toArray.all (·.oneCell')=true:=by rw[s.out.1];exact ado _ _
   clear c0 a2 b0 a0 a3 a5 a4;refine NN (rs:=[11]) (by kernel_rfl) (by simp) ?_;refine afX (i:=11) (o:=_) (by rfl) (by rfl) 55 (O6 7) (O6 37) (by rfl) q 0 f.toArray (by rfl) (by rfl) Z (by rw[I];exact Z0) c3 (by rw[NS,<-z];exact J) ?_;rw[NS,<-z]
   try simp only[Nr,MZ,MT,MS,MJ,ML,MM]
   refine NN (rs:=[12]) (by kernel_rfl) (by simp) ?_;refine acK (i:=12) (o:=_) (by rfl) (by rfl) (O6 38) (by rfl) (MG v t y) (by rfl) J ?_
   try simp only[Nr,MZ,MT,MS,MJ,ML,MM]
   refine NN (rs:=[13]) (by kernel_rfl) (by simp) ?_;refine acK (i:=13) (o:=_) (by rfl) (by rfl) (O6 39) (by rfl) (MF ME 0) (by rfl) J ?_
   try simp only[Nr,MZ,MT,MS,MJ,ML,MM]
   refine PS (by kernel_rfl) ?_ _;clear Z I l5 s J z c3;clear hHeld5 hHeldY b3 a6 g3;revert H;revert k;revert t;revert y;revert v;revert m;revert f;revert q;exact i5.out
  ·go_simp
   obtain⟨X1,c5⟩:∃X1,X1=(W.alloc (MP wz.toArray 55)).drew:=⟨_,rfl⟩;have e9:MQ W.heap.size W X1:=by rw[c5];exact(WQ W).drew
   have g0:X1.heap[W.heap.size]?=MI (MP wz.toArray 55 (0,0)):=by rw[c5];exact M1 _ _
   have i2:S X1:=B.out.2 _ (N.out.on e9);obtain⟨q,O⟩:∃q,q=W.heap.size:=⟨_,rfl⟩;have M:M6 (_/\_/\_):=⟨e9,g0,O⟩;clear e9 g0;rw[<-c5,<-O];clear c5 O;refine hK.out _ _ i2 (fun hHeld=>?_);clear hK K i2
   try simp only[Nr,MZ,MT,MS,MJ,ML,MM]
   refine NN (rs:=[5]) (by kernel_rfl) (by simp) ?_;refine NP (o:=_) rfl (fun K hK=>?_) NX;go_simp;refine Nd (w:=X1) (by rw[HL.out];exact akh (B.out.1 _ hHeld).pat.last.now A.out.1.wm (B.out.1 _ hHeld).blk A.out.1.out e A.out.2.2.1 H7.out) ?_;rintro r l ⟨m,v,y,rfl,b9,F⟩;obtain⟨f,a8⟩:∃f,f=(XR m (Xb P.last e)).toList:=⟨_,rfl⟩;obtain⟨t,a7⟩:∃t,t=(Xb P.last e).out.length:=⟨_,rfl⟩;have s:M6 (_/\_/\_/\_):=⟨a8,b9,F,a7⟩;have b8:S l:=B.out.2 _ ((B.out.1 _ hHeld).on F);rw[show acN m (Xb P.last e)=Ny f.toArray by rw[a8],<-a7];clear b9 F a8 a7
   go_wp2_with fail
   refine hK.out _ _ b8 (fun hHeld5=>?_);clear hK K b8
   try simp only[Nr,MZ,MT,MS,MJ,ML,MM]
   refine awW 6 (Nv #[Ny f.toArray,MG v t y,MF ME 0]) hHeld5 ?_;simp only[Nr,MZ,MT,MS,MJ,ML,MM];refine awW 7 (Ny f.toArray) hHeld5 ?_;simp only[Nr,MZ,MT,MS,MJ,ML,MM];refine awW 8 (MG v t y) hHeld5 ?_;simp only[Nr,MZ,MT,MS,MJ,ML,MM];refine awW 9 (MF ME 0) hHeld5 ?_;simp only[Nr,MZ,MT,MS,MJ,ML,MM];have a3:l.heap[q]?=MI (MP wz.toArray 55 (0,0)):=by rw[M.out.2.2];exact WO M.out.2.1 s.out.2.2.1
   have a0:MQ W.heap.size W l:=M.out.1.trans (s.out.2.2.1.mono M.out.1.size);have a5:W.heap.size<=q:=by rw[M.out.2.2];exact MV _
   have i1:q<X1.heap.size:=by rw[M.out.2.2];exact(Array.getElem?_eq_some_iff.1 M.out.2.1).1
   have b3:∀b,b<l.heap.size->l.heap[b]?=l.heap[b]?:=fun _ _=>rfl
   have a6:l.heap.size<=l.heap.size:=MV _;have f9:=M.out.1.size;have l5:f.length=26:=by rw[s.out.1];rfl
   have I:f.toArray.size=26:=(show f.toArray.size=f.length from OQ).trans l5;have Z:(l).there q 0 f.toArray.size:=by rw[I];exact aeU a3
   obtain⟨k,z⟩:∃k,k=(l).setCells q 0 f:=⟨_,rfl⟩;have c0:k.heap[q]?=MI (MP f.toArray 55 (0,0)):=by rw[z];exact anq a3 (by rw[l5];rfl)
   have a2:MQ W.heap.size W k:=by rw[z];exact adp a0 a5 _ _ a0.size
   have a4:az4 base k g V P D e:=N.out.on a2;have J:S k:=B.out.2 _ a4;have b0:XG (V.off base g) k fun X=>Xd X m (Xb P.last e)/\Xw Z1 X (MG v (Xb P.last e).out.length y) (Xb P.last e).out:=anp (b5:=q) s.out.2.1 (by rw[z,ac3];exact a6) (fun b h1 h2=>by rw[z,N8 _ _ _ _ (M8 h1 a6) h2];try exact b3 b h1) (Nt i1) (fun b hx=>M8 (hx.elim (fun e=>M8 e (Nm A.out.2.2.2.2.1 A.out.2.2.2.1.size)) fun e=>(N.out.pat.Mb e).2) f9)
   have H:M6 (az3 base W k g V P D e q f m v y/\t=(Xb P.last e).out.length):=⟨⟨a4,s.out.1,c0,a5,a2,b0,fun x hx=>(N.out.pat.Mb hx).2,A.out.2.2.2.2.2⟩,s.out.2.2.2⟩;have c3:f.toArray.all (·.oneCell')=true:=by rw[s.out.1];exact ado _ _
   clear c0 a2 b0 a0 a3 a5 a4;refine NN (rs:=[11]) (by kernel_rfl) (by simp) ?_;refine afX (i:=11) (o:=_) (by rfl) (by rfl) 55 (O6 7) (O6 37) (by rfl) q 0 f.toArray (by rfl) (by rfl) Z (by rw[I];exact Z0) c3 (by rw[NS,<-z];exact J) ?_;rw[NS,<-z]
   try simp only[Nr,MZ,MT,MS,MJ,ML,MM]
   refine NN (rs:=[12]) (by kernel_rfl) (by simp) ?_;refine acK (i:=12) (o:=_) (by rfl) (by rfl) (O6 38) (by rfl) (MG v t y) (by rfl) J ?_
   try simp only[Nr,MZ,MT,MS,MJ,ML,MM]
   refine NN (rs:=[13]) (by kernel_rfl) (by simp) ?_;refine acK (i:=13) (o:=_) (by rfl) (by rfl) (O6 39) (by rfl) (MF ME 0) (by rfl) J ?_
   try simp only[Nr,MZ,MT,MS,MJ,ML,MM]
   refine PS (by kernel_rfl) ?_ _;clear Z I l5 s J z c3;clear hHeld5 i1 M b3 a6 f9;revert H;revert k;revert t;revert y;revert v;revert m;revert f;revert q;exact i5.out
 ·rintro q f m v y t k H
  have hM:f=(XR m (Xb P.last e).Ma).toList:=H.out.1.mem;have i8:=A.out.2.1;obtain⟨u9,a9⟩:∃u9,u9=k.setCells g 0 f:=⟨_,rfl⟩;have c9:az6 base u9 g {V with u:=m} {P with last:=(Xb P.last e).Ma}:=by
   rw[a9,hM];exact H.out.1.dos.pat.MC m (Xb P.last e).Ma fun X h1 h2=>(H.out.1.ans X h1 h2).1.Ma
  have e7:f.length=26:=by rw[hM];rfl
  have I:f.toArray.size=26:=(show f.toArray.size=f.length from OQ).trans e7;have f7:f.toArray.all (·.oneCell')=true:=by rw[hM];exact ado _ _
  have Z:k.there g 0 f.toArray.size:=by
   rw[I];exact fun j hj=>by
    have hb:=H.out.1.dos.pat.box;have i9:0+j<(aAO V P).toArray.size:=by show 0+j<27;omega
    exact⟨by rw[MW k g (0+j) _ _ (0,0) hb,Array.getElem?_eq_getElem i9];rfl,by simp[Ng,hb]⟩
  have i6:k.rangeAt q 0 f:=agb H.out.1.box;have f6:∀b,b<k.heap.size->b≠g->u9.heap[b]?=k.heap[b]?:=fun b hb e=>by rw[a9];exact N8 k g 0 _ hb e
  have h8:u9.heap.size=k.heap.size:=by rw[a9];exact ac3 _ _ _ _
  have i4:XG (aAN.off {V with u:=m} base g) u9 fun X=>Xw Z1 X (MG v (Xb P.last e).out.length y) (Xb P.last e).out:=by
   refine XG.step (S:=V.off base g) (fun X h1 h2=>(H.out.1.ans X h1 h2).2) (by rw[h8];exact MV _) (fun b q1 q2=>f6 b q1 fun e=>q2 (NF (Nt e))) fun b q1 e=>e
  have g6:az7 V {V with u:=m} g k u9:=by rw[a9];exact aAr m f
  obtain⟨q8,c8,w9,e6,⟨j4,j3⟩,f4,f5⟩:=aAy c9 (by show V.xs.length<=100000;omega) (v,y,(Xb P.last e).out) i4;have j2:=c9.Ip;have j1:=c9.lt;rw[<-H.out.2]at e6;have HR:M6 (_/\_/\_):=⟨e6,f4,f5⟩;have H5:M6 (_/\_/\_/\_/\_/\_):=⟨g6,e7,Z,I,f7,i6⟩;have i7:M6 _:=a9;clear g6 hM a9 c9 I f7 Z i6 f6 h8 i4 e6 f4 f5 e7 i8
  go_wp2_with (first|((with_reducible refine O3 rfl 55 (O6 7) rfl q 0 ?gx f _ ?gc Lv ?gd ?gi ?_);(case gx=>rfl);(case gc=>exact H5.out.2.2.2.2.2);(case gd=>rfl);(case gi=>rw[H5.out.2.1];exact Z0))|((with_reducible refine OW rfl 55 (O6 43) (O6 41) rfl g 0 f.toArray ?sx ?sy ?st ?si ?s1 ?_);(case sx=>rfl);(case sy=>rfl);(case st=>exact H5.out.2.2.1);(case si=>rw[H5.out.2.2.2.1];exact Z0);(case s1=>exact H5.out.2.2.2.2.1);rw[NS,<-i7.out])|(at_builtin;(with_reducible refine Z4 rfl _ _ 64 rfl (MG V.p V.xs.length V.c) (MG (MI ⟨u9.heap.size,0,MH⟩) 1 1) (MG (MI ⟨q8,0,MH⟩) (V.xs.length+1) c8) w9 ?hs ?hx ?hr ?_);(case hs=>rfl);(case hx=>rfl);(case hr=>exact HR.out.1)))
  go_end0
  refine⟨rfl,_,HR.out.2.1,((az7.F5 (A.out.2.2.2.1.trans (H.out.1.bel.mono A.out.2.2.2.1.size))).F0 H5.out.1).F0 HR.out.2.2,by simp⟩
abbrev aAs(U:Us)(p:Option Oc)(n:Nat):aAN:=⟨U,p,n,[]⟩
theorem aAd(U:Us)(G:Gt)(p:Option Oc)(n:Nat)(W:MO):(QA 100 #[(0,Ny (XR U G)),(1,MG p 0 n)]).run MK W=.ok (Ny (aAO (aAs U p n) ⟨G,[]⟩).toArray) W:=by kernel_rfl
theorem aAq{w0 w w2 W:MO}{U:Us}{c:Cf}{g q:Nat}(h0:w0.heap.size<=w.heap.size)(hbox:W.heap[g]?=MI (MP (aAO (aAs U (MI ⟨q,0,MH⟩) n) ⟨Yb c,[]⟩).toArray 100 (0,0)))(hg:w0.heap.size<=g)(hrow:W.ownsRow w0.heap.size 61 1 (MG (MI ⟨q,0,MH⟩) 0 n) 0 [])(hqg:q≠g)
  (hA:∀X,aba w.heap.size w2 X->Xd X U (Yb c)) (hb:MQ w2.heap.size w2 W) (h2:w2.heap.size<=g) (h3:w2.heap.size<=q):az6 w0.heap.size W g (aAs U (MI ⟨q,0,MH⟩) n) ⟨Yb c,[]⟩:=by
 refine⟨hbox,hg,rfl,hrow,fun e=>hqg (by injection e),fun X h1 h4=>?_,fun x hx=>absurd hx List.not_mem_nil⟩;refine hA X ⟨Nm hb.size h1,fun b q1 q2=>?_⟩;rw[h4 b (M8 q2 hb.size),hb.block b q2];rintro(e|rfl|e)
 ·omega
 ·omega
 ·have f:q=b:=by injection e
  omega
theorem aAA{P:O8}{md:Region.Mode}{ops:Array Oper}{Q:Exit->Act->MO->Prop}{S:MO->Prop}{fuel:Nat}{listed:Array Bool}{a:Act}{w w1:MO}{i:Nat}{o:Oper}(ho:ops[i]?=MI o)(hg:o.guard=MH)(t:TypeId)(l k:Operand)(hop:o.op=.makeSlice t l k)
  (x z y:M7) (hl:a.eval l=x) (hk:a.eval k=z) (hr:(aAU t x z).run P w=.ok y w1) (hS:S w1)
  (h:wpAnyH P md ops Q S fuel (listed.setIfInBounds i Nw) (a.put o.dst y) w1):AllReadyH P md ops Q S fuel listed a w [i]:=by
 refine NP ho (fun K hK=>?_) NX;have c:Region.wanted o (yielded ops a.tmps)=true:=by simp[Region.wanted,hg]
 rw[Nh c];unfold Oper.wp execOp;simp only[hop,hl,hk,Sem.run_bind,Sem.run_pure,Result.andThen_ok,hr];exact hK.out _ _ hS (fun _=>h)
theorem aAt{w:MO}{base:Nat}(hb:base<=w.heap.size)(hn:n<=4000):∃w',(aAU 64 (MF ME 0) (MF ME (n:Int))).run MK w=.ok (MG (MI ⟨w.heap.size,0,MH⟩) 0 n) w'/\w'.ownsRow base 61 1 (MG (MI ⟨w.heap.size,0,MH⟩) 0 n) 0 []/\MQ w.heap.size w w'/\w.heap.size<w'.heap.size:=by
 obtain⟨i,l,e⟩:=Option.map_eq_some_iff.1 aAo;simp only[Prod.mk.injEq]at e;obtain⟨w',j,f,c⟩:=run_make_own w base 64 61 i _ 1 Tryz.underlying64 l e.1 e.2.1 ME ME n (by rw[e.2.2];omega) (by unfold NE;omega) hb;exact⟨w',j,f,⟨c.os,c.tape,c.output,c.size,fun k hk=>c.block k hk (by simp)⟩,(f.lt w.heap.size rfl).2⟩
theorem aAc(c:Cf)(hc:adg c)(n:Nat)(hn:n<=4000)(w:MO) :
  Ni MK 17 #[Ny (ac8 c).toArray,MF ME (n:Int)] w fun r w'=>∃g V,r=MN (Nv #[gP g,MF ME 0])/\az6 w.heap.size w' g V ⟨Yb c,[]⟩/\V.xs=[]/\MQ w.heap.size w w':=by
 obtain⟨K,p⟩:∃K:List M7,K=ac8 c:=⟨_,rfl⟩;have HB:M6 (∀W:MO,Ni MK 14 #[Ny K.toArray] W _):=fun W=>by rw[p];exact aor c hc W
 have b9:K.length=16:=by rw[p];rfl
 rw[<-p];obtain⟨y,Z⟩:∃y,y=w.alloc (MP K.toArray 35):=⟨_,rfl⟩;have b8:MQ w.heap.size w y:=by rw[Z];exact WQ w
 have v:M6 (_/\_/\_):=⟨b9,b8,hn⟩;have d9:¬(4000:Int)<(n:Int):=by omega
 clear p b9 b8 hc;go_enter Tryz.func17,Tryz.ntmps17
 go_wp2_with ((with_reducible refine O3 rfl 35 (O6 2) rfl w.heap.size 0 ?gx K _ ?gc Ph ?gd ?gi ?_);(case gx=>rfl);(case gc=>exact afW (M1 _ _));(case gd=>rfl);(case gi=>rw[v.out.1];exact ajj))
 rw[<-Z];clear Z;refine(HB.out y).mono ?_;rintro r w2 ⟨U,rfl,hM,a8⟩;obtain⟨M,t⟩:∃M,M=(XR U (Yb c)).toList:=⟨_,rfl⟩;rw[show acN U (Yb c)=Ny M.toArray by rw[t]];have B:M.length=26:=by rw[t];rfl
 have a4:M.toArray.size=26:=(show M.toArray.size=M.length from OQ).trans B;have a9:M.toArray.all (·.oneCell')=true:=by rw[t];exact ado _ _
 have N:(w2.alloc (MP wz.toArray 55)).heap[w2.heap.size]?=MI (MP wz.toArray 55 (0,0)):=M1 _ _;obtain⟨f,z⟩:∃f,f=(w2.alloc (MP wz.toArray 55)).setCells w2.heap.size 0 M:=⟨_,rfl⟩;have b3:f.heap[w2.heap.size]?=MI (MP M.toArray 55 (0,0)):=by rw[z];exact afG N (by rw[B];rfl)
 have a5:MQ w2.heap.size w2 f:=by rw[z];exact adp (WQ w2) (MV _) _ _ (by simp)
 have a6:(w2.alloc (MP wz.toArray 55)).there w2.heap.size 0 M.toArray.size:=by rw[a4];exact afH N
 have a7:=v.out.2.1.trans (a8.mono v.out.2.1.size);obtain⟨l,a2⟩:∃b,b=w2.heap.size:=⟨_,rfl⟩;have u:M6 (_/\_/\_/\_/\_):=⟨B,a4,a9,t,(hM:∀X,aba y.heap.size w2 X->Xd X U (Yb c))⟩;have j:M6 (_/\_/\_/\_/\_/\_):=⟨a6,z,(show f.heap[l]?=MI (MP M.toArray 55 (0,0))by rw[a2];exact b3),a5,a7,a2⟩;clear t B a4 a9 N z b3 a5 a6 a7 hM a8 a2 HB
 go_wp2_with ((with_reducible refine OW rfl 55 (O6 6) (O6 11) rfl w2.heap.size 0 M.toArray ?sx ?sy ?st ?si ?s1 ?_);(case sx=>rfl);(case sy=>rfl);(case st=>exact j.out.1);(case si=>rw[u.out.2.1];exact Z0);(case s1=>exact u.out.2.2.1);rw[NS,<-j.out.2.1])
 rw[<-j.out.2.2.2.2.2];obtain⟨S,hS,D⟩:∃S:MO->Prop,(∀X,S X->X.rangeAt l 0 M)/\(∀X,X.rangeAt l 0 M->S X):=⟨fun X=>X.rangeAt l 0 M,fun _ h=>h,fun _ h=>h⟩;have c3:l<f.heap.size:=(Array.getElem?_eq_some_iff.1 j.out.2.2.1).1;have O:f.rangeAt l 0 M:=agb j.out.2.2.1;have d8:S f.drew:=D _ O;have c5:∀X,MQ f.heap.size f X->S X:=fun X hX=>D _ (afr O (hX.block l c3))
 have a3:M6 (_/\_/\_):=⟨hS,D,c5⟩;clear hS D c5 O c3;refine O2 (S:=S) (by kernel_rfl) d8 (fun hHeld=>?_);refine awW 0 (Ny M.toArray) hHeld ?_ (hy:=Pt (by rfl) 55 (O6 6) rfl l 0 rfl M _ (fun _ h=>a3.out.1 _ h) Lv rfl (by rw[u.out.1];exact Z0));simp only[Nr,MZ,MT,MS,MJ,ML,MM];refine awW 1 (MF ME (n:Int)) hHeld ?_;simp only[Nr,MZ,MT,MS,MJ,ML,MM];obtain⟨m,b7,F,k,b0⟩:=aAt (w:=f.drew) (base:=w.heap.size) (Nm j.out.2.2.2.2.1.size j.out.2.2.2.1.size) v.out.2.2;have k:MQ f.heap.size f m:=Za k;have T:S m:=a3.out.2.2 _ k;refine NN (rs:=[2]) (by kernel_rfl) (by simp) ?_;refine aAA (i:=2) (o:=_) (by rfl) (by rfl) 64 (.const (MF ME 0)) (O6 19) (by rfl) _ _ _ (by rfl) (by rfl) b7 T ?_
 try simp only[Nr,MZ,MT,MS,MJ,ML,MM]
 obtain⟨q,hq⟩:∃q,q=f.drew.heap.size:=⟨_,rfl⟩;rw[<-hq]at F b0⊢;obtain⟨R,hR⟩:∃R,R=aAO (aAs U (MI ⟨q,0,MH⟩) n) ⟨Yb c,[]⟩:=⟨_,rfl⟩;have J:∀X,(QA 100 #[(0,Ny M.toArray),(1,MG (MI ⟨q,0,MH⟩) 0 n)]).run MK X=.ok (Ny R.toArray) X:=fun X=>by rw[u.out.2.2.2.1,hR];exact aAd U (Yb c) _ n X
 refine awW 3 (Ny R.toArray) T ?_ (hy:=avx (by rfl) 100 #[(0,O6 18),(1,O6 20)] rfl (Ny R.toArray) (fun X=>by simp only[List.map_toArray,List.map_cons,List.map_nil];exact J X));simp only[Nr,MZ,MT,MS,MJ,ML,MM];have HR:M6 (_/\_/\_):=⟨hR,hq,J⟩;clear hR hq J;refine NN (rs:=[4]) (by kernel_rfl) (by simp) ?_;refine NP (o:=_) rfl (fun K p=>?_) NX;go_simp;obtain⟨g,hg⟩:∃g,g=m.heap.size:=⟨_,rfl⟩;obtain⟨s,H⟩:∃s,s=m.alloc (MP R.toArray 100):=⟨_,rfl⟩;have I:MQ m.heap.size m s:=by rw[H];exact WQ m
 have A:S s:=a3.out.2.2 _ (k.trans (I.mono k.size));have c4:s.heap[g]?=MI (MP R.toArray 100 (0,0)):=by rw[H,hg];exact M1 _ _
 rw[<-H,<-hg];refine p.out _ _ A (fun hHeld5=>?_);clear p K
 try simp only[Nr,MZ,MT,MS,MJ,ML,MM]
 refine NN (rs:=[5]) (by kernel_rfl) (by simp) ?_;refine acK (i:=5) (o:=_) (by rfl) (by rfl) (O6 22) (by rfl) (gP g) (by rfl) A ?_
 try simp only[Nr,MZ,MT,MS,MJ,ML,MM]
 refine NN (rs:=[6]) (by kernel_rfl) (by simp) ?_;refine acK (i:=6) (o:=_) (by rfl) (by rfl) (.const (MF ME 0)) (by rfl) (MF ME 0) (by rfl) A ?_
 try simp only[Nr,MZ,MT,MS,MJ,ML,MM]
 refine PS (by kernel_rfl) ?_ _;have a0:=j.out.2.2.2.1.trans (k.mono j.out.2.2.2.1.size);have L:=a0.trans (I.mono a0.size);have c6:f.heap.size=q:=HR.out.2.1.symm;have c0:=j.out.2.2.2.2.1.size;have c7:=j.out.2.2.2.1.size;have c9:=k.size;have HF:M6 (az6 w.heap.size s g (aAs U (MI ⟨q,0,MH⟩) n) ⟨Yb c,[]⟩/\MQ w.heap.size w s):=⟨aAq v.out.2.1.size (by rw[<-HR.out.1];exact c4) (by omega) (W8 F fun b e=>I.block b (F.lt b e).2) (by omega) u.out.2.2.2.2 L (by omega) (by omega),j.out.2.2.2.2.1.trans (L.mono c0)⟩;clear c4 A hHeld5 L a0 H hg I k T b7 F b0 c6 c0 c7 c9 hHeld HR;go_wp2
 go_ret2
 exact⟨g,_,rfl,HF.out.1,rfl,HF.out.2⟩
theorem aAD{c:Cf}(hc:adg c):∀(n:Nat) (es:List Ev),es.length=n->n<=1000000->(∀e∈es,Yk e=0)->XU c (azY (Yb c) es):=by
 intro n
 induction n with
 |zero=>intro es h _ _;obtain rfl:=List.length_eq_zero_iff.1 h;exact avq hc
 |succ n ih =>
  intro es h i f;obtain⟨l,e,rfl⟩:∃l e,es=l++[e]:=⟨es.dropLast,es.getLast (by intro q;rw[q]at h;cases h),(List.dropLast_concat_getLast _).symm⟩;rw[Ns,OU]at h;rw[az1];exact(ih l (by omega) (by omega) fun x hx=>f x (List.mem_append_left _ hx)).step (f e (by simp)) (by rw[az0];omega)
def aAl(P:Py):Gs:=⟨P.last,P.steps.map (·.out)⟩
theorem aAm(P:Py)(e:Ev):aAl (P.step e)=(aAl P).step e:=by
 show(⟨(Xb P.last e).Ma,(P.steps++[_]).map (fun s:Sp=>s.out)⟩:Gs)=⟨_,P.steps.map (·.out)++[_]⟩;rw[OI];rfl
structure az8(W:MO)(U:Us)(po:Option Oc)(co:Nat)(xs:List Oo)(P:Gs):Prop where
 eqs:xs.map (·.2.2)=P.outs
 rows:Xw aAu W (MG po xs.length co) xs
 all:∀x∈xs,Xw Z1 W (MG x.1 x.2.2.length x.2.1) x.2.2
 wat:Xd W U P.last
theorem az8.below{W:MO}{U:Us}{po:Option Oc}{co:Nat}{xs:List Oo}{P:Gs}(h:az8 W U po co xs P)(hb:MQ W.heap.size W Y):az8 Y U po co xs P :=
 ⟨h.eqs,h.rows.below hb,fun x hx=>(h.all x hx).below hb,h.wat.below hb⟩
theorem az6.aAQ{base:Nat}{w u:MO}{g:Nat}{V:aAN}{P:Gs}(h:az6 base w g V P)(hs:w.heap.size<=u.heap.size)(hk:∀b,base<=b->b<w.heap.size->u.heap[b]?=w.heap[b]?):az8 u V.u V.p V.c V.xs P:=by
 have f:∀b,b<w.heap.size->¬V.off base g b->u.heap[b]?=w.heap[b]?:=fun b q1 q2=>hk b (by
  rcases Nat.lt_or_ge b base with e|e
  ·exact absurd (Nt e) q2
  ·exact e) q1
 exact⟨h.eqs,abw (W8 h.rows fun b e=>hk b (h.rows.lt b e).1 (h.rows.lt b e).2),fun x hx=>h.all x hx u hs f,h.last u hs f⟩
theorem aAg(e:Ev):(aaV e).length=8:=rfl
theorem aAC{c:Cf}(hc:adg c)(es:List Ev)(hes:∀e∈es,Yk e=0)(hl:es.length<=4000){p:Option Oc}{cc:Nat}{w:MO}(hrow:Xw aaV w (MG p es.length cc) es)(hblk:Xo w) :
  Ni MK 7 #[Ny (ac8 c).toArray,MG p es.length cc] w fun r w'=>∃U po co xs,r=MN (Nv #[Ny (XR U (azY (Yb c) es).last),MG po xs.length co,MF ME 0])/\(∀X,aba w.heap.size w' X->az8 X U po co xs (aAl (azY (Yb c) es)))/\MQ w.heap.size w w':=by
 obtain⟨K,hK⟩:∃K:List M7,K=ac8 c:=⟨_,rfl⟩;obtain⟨n,hn⟩:∃n,n=es.length:=⟨_,rfl⟩;have a5:n<=4000:=by omega
 have HB:M6 (∀W:MO,Ni MK 17 #[Ny K.toArray,MF ME (n:Int)] W _):=fun W=>by rw[hK];exact aAc c hc n a5 W
 have HL:M6 (K.length=16):=by show K.length=16;rw[hK];rfl
 rw[<-hK,<-hn];obtain⟨y,z⟩:∃X,X=w.alloc (MP K.toArray 35):=⟨_,rfl⟩;have B0:MQ w.heap.size w y:=by rw[z];exact WQ w
 have r0:y.rangeAt w.heap.size 0 K:=by rw[z];exact agb (M1 _ _)
 have l0:w.heap.size<y.heap.size:=by rw[z];simp
 obtain⟨s,a7⟩:∃b,b=y.heap.size:=⟨_,rfl⟩;have s4:w.heap.size+1=s:=by rw[a7,z];simp
 obtain⟨m,F⟩:∃m,m=y.alloc (MP wz.toArray 55):=⟨_,rfl⟩;have B1:MQ y.heap.size y m:=by rw[F];exact WQ y
 have r4:m.heap[s]?=MI (MP wz.toArray 55 (0,0)):=by rw[F,a7];exact M1 _ _
 have d9:MQ w.heap.size w m:=B0.trans (B1.mono B0.size);have e8:((w.alloc (MP K.toArray 35)).alloc (MP wz.toArray 55)).rangeAt w.heap.size 0 K:=by rw[<-z,<-F];exact afr r0 (B1.block _ l0)
 have c4:m=(w.alloc (MP K.toArray 35)).alloc (MP wz.toArray 55):=by rw[F,z]
 have l:M6 (_/\_/\_/\_/\_/\_/\_/\_):=⟨hc,hes,hn,hrow,hblk,d9,r4,a5⟩;have H0:M6 (_/\_/\_):=⟨e8,c4,s4⟩;have g1:M6 (w.heap.size<=s):=by show w.heap.size<=s;omega
 have g8:n<=9223372036854775807:=by omega
 clear z B0 r0 l0 a7 s4 F B1 r4 d9 e8 c4 hK hc hes hl hrow hblk hn a5;go_enter Tryz.func7,Tryz.ntmps7
 go_wp2_with ((with_reducible refine O3 rfl 35 (O6 2) rfl w.heap.size 0 ?gx K _ ?gc Ph ?gd ?gi ?_);(case gx=>rfl);(case gc=>exact H0.out.1);(case gd=>rfl);(case gi=>rw[HL.out];exact ajj))
 rw[<-H0.out.2.1,H0.out.2.2];refine(HB.out m).mono ?_;rintro r w1 ⟨g,V,rfl,D,f5,d8⟩;have H1:M6 (az6 m.heap.size w1 g V (aAl (azY (Yb c) (es.take 0)))/\V.xs.length=0/\MQ m.heap.size m w1):=⟨by rw[List.take_zero];exact D,by rw[f5];rfl,d8⟩;clear D f5 d8 HB H0
 go_wp2_with fail
 go_loopw [24] (fun i wr=>∃(k:Nat) (V:aAN),i=MF ME (k:Int)/\k<=n/\M6 (az6 m.heap.size wr g V (aAl (azY (Yb c) (es.take k)))/\V.xs.length=k/\MQ m.heap.size m wr)) (fun i _=>n-(intOf i).toNat)
 case atStart=>exact⟨0,V,rfl,Nx _,H1⟩
 case round =>
  obtain⟨k,V,rfl,hk,f⟩:=hrel
  by_cases hlt:k<n
  ·have f9:(k:Int)<(n:Int):=by omega
   have N:k<es.length:=by rw[<-l.out.2.2.1];exact hlt
   have J:MQ w.heap.size w wr:=l.out.2.2.2.2.2.1.trans (f.out.2.2.mono l.out.2.2.2.2.2.1.size);obtain⟨a,g7,hv,_,g4,hp⟩:=Xw.F6 aAg (l.out.2.2.2.1.below J);injection hv with ha hn2 hcap;obtain⟨bo,oo,e7,g6,b7⟩:=hp k N;rw[<-ha]at e7;have a3:Yk es[k]=0:=l.out.2.1 _ (Nk N);have B:es.take (k+1)=es.take k++[es[k]]:=M9 N;obtain⟨e,he⟩:∃e,e=es[k]:=⟨_,rfl⟩;rw[<-he]at a3 B;obtain⟨E,I⟩:∃E,E=aaV e:=⟨_,rfl⟩;have O:E.length=8:=by rw[I];rfl
   have c7:wr.rangeAt bo (oo+k*8) E:=fun j v hv=>by
    have hj:j<8:=by have:=(List.getElem?_eq_some_iff.1 hv).1;omega
    rw[b7 j hj,<-he,<-I];exact hv
   have e0:E.toArray.all (·.oneCell')=true:=by rw[I];exact OE (au7 e)
   have a6:E.toArray.size=8:=(show E.toArray.size=E.length from OQ).trans O;have hZ:(wr.alloc (MP aAk.toArray 60)).heap[wr.heap.size]?=MI (MP aAk.toArray 60 (0,0)):=M1 _ _;obtain⟨Y,hY⟩:∃Y,Y=(wr.alloc (MP aAk.toArray 60)).setCells wr.heap.size 0 E:=⟨_,rfl⟩;have f3:Y.heap[wr.heap.size]?=MI (MP E.toArray 60 (0,0)):=by rw[hY];exact anq hZ (by rw[O];rfl)
   have H:MQ wr.heap.size wr Y:=by rw[hY];exact adp (WQ wr) (MV _) _ _ (by simp)
   have T:(wr.alloc (MP aAk.toArray 60)).there wr.heap.size 0 E.toArray.size:=by rw[a6];exact afH hZ
   have hR:=aAD l.out.1 _ (es.take k) rfl (by rw[NH];have:=l.out.2.2.2.2.2.2.2;omega) fun x hx=>l.out.2.1 x (aAS hx)
   have hT:=aAF (f.out.1.below H) ⟨hR.wm,hR.out⟩ (by have:=f.out.2.1;have:=l.out.2.2.2.2.2.2.2;omega) (l.out.2.2.2.2.1.below (J.trans (H.mono J.size))) (Nm f.out.2.2.size H.size) e a3 (fun _=>by
    have h1:=hR.now;rw[az0,NH]at h1;have:=l.out.2.2.2.2.2.2.2;show(azY (Yb c) (es.take k)).last.now+1<=1099511626776;omega)
   rw[show agQ e=Ny E.toArray by rw[I]]at hT;have HT:M6 _:=hT;have t:M6 (_/\_/\_/\_/\_/\_/\_/\_):=⟨c7,O,e0,a6,T,hY,agb f3,H⟩;have HK:M6 _:=B;clear ha hn2 hcap b7 hp N J g4 a3 B he I c7 O e0 a6 hZ hY f3 H T hR hT;subst e7
   go_wp2_with (first|((with_reducible refine O3 rfl 60 (O6 26) rfl bo (oo+k*8) ?gx E _ ?gc azj ?gd ?gi ?_);(case gx=>rfl);(case gc=>exact t.out.1);(case gd=>rfl);(case gi=>rw[t.out.2.1];exact anz))|((with_reducible refine OW rfl 60 (O6 10) (O6 27) rfl wr.heap.size 0 E.toArray ?sx ?sy ?st ?si ?s1 ?_);(case sx=>rfl);(case sy=>rfl);(case st=>exact t.out.2.2.2.2.1);(case si=>rw[t.out.2.2.2.1];exact anz);(case s1=>exact t.out.2.2.1);rw[NS,<-t.out.2.2.2.2.2.1])|((with_reducible refine O3 rfl 60 (O6 10) rfl wr.heap.size 0 ?gx E _ ?gc azj ?gd ?gi ?_);(case gx=>rfl);(case gc=>exact t.out.2.2.2.2.2.2.1);(case gd=>rfl);(case gi=>rw[t.out.2.1];exact anz)))
   refine Nd HT.out ?_;rintro r w5 ⟨rfl,V5,e4,f4,f6⟩;have H5:M6 (_/\_/\_):=⟨e4,f6,(f.out.2.2.trans (t.out.2.2.2.2.2.2.2.mono f.out.2.2.size)).trans ((f4.IT (f.out.1.below t.out.2.2.2.2.2.2.2) (Nm f.out.2.2.size t.out.2.2.2.2.2.2.2.size)))⟩;clear e4 f4 f6 HT
   go_wp2_with fail
   go_roundw
   case rel=>exact⟨k+1,V5,by simp,hlt,⟨by rw[HK.out,az1,aAm];exact H5.out.1,by rw[H5.out.2.1,f.out.2.1],H5.out.2.2⟩⟩
   case measure=>simp[intOf];omega
  ·obtain rfl:k=n:=by omega
   have f9:¬(k:Int)<(k:Int):=by omega
   have B:es.take k=es:=N1 (Nat.le_of_eq l.out.2.2.1.symm);rw[B]at f;obtain⟨P,D⟩:∃P,P=azY (Yb c) es:=⟨_,rfl⟩;rw[<-D]at f;obtain⟨M,hM⟩:∃M,M=(XR V.u P.last).toList:=⟨_,rfl⟩;have b3:M.toArray=XR V.u P.last:=by rw[hM]
   have L:M.length=26:=by rw[hM];rfl
   have c6:M.toArray.all (·.oneCell')=true:=by rw[b3];exact ado _ _
   have hD:=f.out.1.below (MY wr.heap.size wr).drew;have a2:wr.drew.rangeAt g 0 M:=by rw[hM];exact hD.Mo
   have a4:wr.drew.cell? ⟨g,26,MH⟩=MI (MG V.p k V.c):=by rw[<-f.out.2.1];exact hD.Ip
   have a0:=f.out.1.lt;have g3:=f.out.1.low;have b9:s<m.heap.size:=(Array.getElem?_eq_some_iff.1 l.out.2.2.2.2.2.2.1).1;have a8:wr.drew.heap[s]?=MI (MP wz.toArray 55 (0,0)):=(f.out.2.2.block s b9).trans l.out.2.2.2.2.2.2.1;have T:wr.drew.there s 0 M.toArray.size:=by rw[OQ,L];exact afH a8
   obtain⟨q,A⟩:∃q,q=wr.drew.setCells s 0 M:=⟨_,rfl⟩;have c9:q.heap[s]?=MI (MP M.toArray 55 (0,0)):=by rw[A];exact afG a8 (by rw[L];rfl)
   have Z:∀b,b<wr.heap.size->b≠s->q.heap[b]?=wr.heap[b]?:=fun b q1 q2=>by rw[A];exact N8 wr.drew _ _ _ q1 q2
   have b0:wr.heap.size<=q.heap.size:=by rw[A,ac3];exact MV _
   have c5:q.rangeAt g 0 M:=afr a2 (Z g a0 (by omega));have c0:q.cell? ⟨g,26,MH⟩=MI (MG V.p k V.c):=(World.cell?_of_block (Z g a0 (by omega))).trans a4;have c3:=g1.out;have b8:MQ w.heap.size w q:=by
    rw[A];have hq:=l.out.2.2.2.2.2.1.trans (f.out.2.2.mono l.out.2.2.2.2.2.1.size);exact adF hq.drew c3 _ _ hq.size
   have g5:=l.out.2.2.2.2.2.1.size;have e5:∀X,aba w.heap.size q X->az8 X V.u V.p V.c V.xs (aAl P):=fun X hX=>f.out.1.aAQ (Nm b0 hX.1) fun b q1 q2=>(hX.2 b (by omega) (M8 q2 b0)).trans (Z b q2 (by omega))
   have f8:M6 (wr.drew.rangeAt g 0 M/\wr.drew.cell? ⟨g,26,MH⟩=MI (MG V.p k V.c)):=⟨a2,a4⟩;have e9:M6 (q.rangeAt g 0 M/\q.cell? ⟨g,26,MH⟩=MI (MG V.p k V.c)):=⟨c5,c0⟩;have HQ:M6 (_/\_/\_/\_):=⟨e5,b8,c9,b3⟩;have HM:M6 _:=L;have HO:M6 (_/\_):=⟨c6,D⟩;have e6:=f.out.2.1;have HX:M6 _:=e6;clear B hM b3 L hD a2 a4 a0 g3 b9 a8 c9 Z b0 c5 c0 c3 b8 e5 c6 D e6 g5
   go_wp2_with fail
   obtain⟨S,hS,g0,a9⟩:∃S:MO->Prop,(∀X,S X->X.rangeAt g 0 M/\X.cell? ⟨g,26,MH⟩=MI (MG V.p k V.c))/\S wr.drew/\S q:=⟨fun X=>X.rangeAt g 0 M/\X.cell? ⟨g,26,MH⟩=MI (MG V.p k V.c),fun _ h=>h,f8.out,e9.out⟩;have f7:M6 _:=hS;clear hS f8 e9;refine O2 (S:=S) (by kernel_rfl) g0 (fun hHeld=>?_);refine awW 0 (gP g) hHeld ?_;simp only[Nr,MZ,MT,MS,MJ,ML,MM];refine awW 1 (gP g) hHeld ?_;simp only[Nr,MZ,MT,MS,MJ,ML,MM];refine awW 2 (Na (MI ⟨g,0,MH⟩)) hHeld ?_;simp only[Nr,MZ,MT,MS,MJ,ML,MM];refine awW 3 (Ny M.toArray) hHeld ?_ (hy:=(Pt (by rfl) 55 (O6 35) rfl g 0 rfl M _ (fun _ h=>(f7.out _ h).1) Lv rfl (by rw[HM.out];exact Z0)));simp only[Nr,MZ,MT,MS,MJ,ML,MM];refine awW 4 (gP g) hHeld ?_;simp only[Nr,MZ,MT,MS,MJ,ML,MM];refine awW 5 (gP g) hHeld ?_;simp only[Nr,MZ,MT,MS,MJ,ML,MM];refine awW 6 (Na (MI ⟨g,26,MH⟩)) hHeld ?_;simp only[Nr,MZ,MT,MS,MJ,ML,MM];refine awW 7 (MG V.p k V.c) hHeld ?_ (hy:=(Nt ⟨by rfl,fun X hSw=>by have s1:=(f7.out X hSw).2;go_simp⟩));simp only[Nr,MZ,MT,MS,MJ,ML,MM];refine NN (rs:=[8]) (by kernel_rfl) (by simp) ?_;refine afX (i:=8) (o:=_) (by rfl) (by rfl) 55 (O6 4) (O6 36) (by rfl) s 0 M.toArray (by rfl) (by rfl) T (by rw[OQ,HM.out];exact Z0) HO.out.1 (by rw[NS,<-A];exact a9) ?_;rw[NS,<-A]
   try simp only[Nr,MZ,MT,MS,MJ,ML,MM]
   refine NN (rs:=[9]) (by kernel_rfl) (by simp) ?_;refine acK (i:=9) (o:=_) (by rfl) (by rfl) (O6 40) (by rfl) (MG V.p k V.c) (by rfl) a9 ?_
   try simp only[Nr,MZ,MT,MS,MJ,ML,MM]
   refine NN (rs:=[10]) (by kernel_rfl) (by simp) ?_;refine acK (i:=10) (o:=_) (by rfl) (by rfl) (.const (MF ME 0)) (by rfl) (MF ME 0) (by rfl) a9 ?_
   try simp only[Nr,MZ,MT,MS,MJ,ML,MM]
   refine PS (by kernel_rfl) ?_ _;go_wp2;refine Np (v:=Nv #[Ny M.toArray,MG V.p k V.c,MF ME 0]) (akY Tryz.results7 rfl rfl rfl (akJ HQ.out.2.2.1 Lv rfl (by rw[HM.out];exact Z0))) rfl ?_;refine⟨V.u,V.p,V.c,V.xs,?_,by rw[<-HO.out.2];exact HQ.out.1,HQ.out.2.1⟩;rw[HQ.out.2.2.2,HX.out,HO.out.2]
theorem WU.Gm{base:Nat}{w:MO}{g:Nat}{V:Pv}{c:Cf}{P:Py}(h:WU base w g V c P):w.cell? ⟨g,16,MH⟩=MI (MG V.ps P.steps.length V.cs):=by
 rw[MW w g 16 _ _ (0,0) h.box,h.steps];rfl
structure az9(W:MO)(ps:Option Oc)(k:Nat)(q:Sq)(b o:Nat):Prop where
 at_:ps=MI ⟨b,o,MH⟩
 cells:W.rangeAt b (o+k*61) (abK q)
 rd:aje W q
theorem XQ.step{w W:MO}{g:Nat}{V:Pv}{c:Cf}{P:Py}(h:XQ w W g V c P){k:Nat}(hk:k<P.steps.length):∃q b o,az9 W V.ps k q b o/\P.steps[k]?=MI q.s/\aaB c q.s:=by
 have y:=h.pat.steps;have i:k<V.qs.length:=by omega
 have l:Xw abK W (MG V.ps V.qs.length V.cs) V.qs:=abw h.pat.rows;obtain⟨a,u,f,_,_,r⟩:=Xw.F6 avt l;injection f with q1 _ _;obtain⟨b,o,m,z,t⟩:=r k i;have e:P.steps[k]?=MI V.qs[k].s:=by rw[<-h.pat.eqs,aAT,MR i];rfl
 refine⟨V.qs[k],b,o,⟨q1.trans m,fun j v f=>?_,(h.pat.all _ (Nk i)).now⟩,e,h.rn.runs.chain _ (List.mem_of_getElem? e)⟩;have p:j<61:=(List.getElem?_eq_some_iff.1 f).1;rw[t j p];exact f
theorem aAz(f:Nat->Int)(hf:∀i,i<16->(Lit.int ME (f i)).wf=Nw)(ds:List Dd)(hds:∀d∈ds,ajd d){pd:Option Oc}{cd:Nat}{w:MO}(hrow:Xw agP w (MG pd ds.length cd) ds)(hblk:Xo w)(most:Nat)(hm:most<=100) :
  ∃L:List M7,L.length=16/\agc (f 0) (f 1) (f 2) (f 3) (f 4) (f 5) (f 6) (f 7) (f 8) (f 9) (f 10) (f 11) (f 12) (f 13) (f 14) (f 15)=Ny L.toArray/\∀W,MQ w.heap.size w W->Ni MK 6 #[Ny L.toArray,MG pd ds.length cd,MF ME (most:Int)] W (au0 f most W):=
 ⟨[MF ME (f 0),MF ME (f 1),MF ME (f 2),MF ME (f 3),MF ME (f 4),MF ME (f 5),MF ME (f 6),MF ME (f 7),MF ME (f 8),MF ME (f 9),MF ME (f 10),MF ME (f 11),MF ME (f 12),MF ME (f 13),MF ME (f 14),MF ME (f 15)],rfl,rfl,fun W hB=>awU f hf ds hds W (hrow.below hB) (hblk.below hB) most hm⟩
theorem aAI(W:MO)(U:Us)(G:Gt):∃Y,Y=(W.alloc (MP wz.toArray 55)).setCells W.heap.size 0 (XR U G).toList/\Y.heap[W.heap.size]?=MI (MP (XR U G).toList.toArray 55 (0,0))/\MQ W.heap.size W Y/\(W.alloc (MP wz.toArray 55)).there W.heap.size 0 (XR U G).toList.toArray.size:=by
 have c:(W.alloc (MP wz.toArray 55)).heap[W.heap.size]?=MI (MP wz.toArray 55 (0,0)):=M1 _ _;exact⟨_,rfl,anq c rfl,adp (WQ W) (MV _) _ _ (by simp),(show(W.alloc (MP wz.toArray 55)).there W.heap.size 0 (XR U G).toList.toArray.size from afH (old:=wz) c)⟩
theorem WU.aAR{base:Nat}{w:MO}{g:Nat}{V:Pv}{c:Cf}{P:Py}(h:WU base w g V c P)(j:Nat):w.cell? ⟨g,j,MH⟩=(adM V c P)[j]?:=by
 rw[MW w g j _ _ (0,0) h.box];simp
theorem aAx{W:MO}{p:Option Oc}{c:Nat}{L:List Ou}(h:Xw Z1 W (MG p L.length c) L){i:Nat}(hi:i<L.length) :
  ∃b o,p=MI ⟨b,o,MH⟩/\W.cell? ⟨b,o+i*7,MH⟩=MI (MF ME L[i].kind)/\W.cell? ⟨b,o+i*7+1,MH⟩=MI (MF ME L[i].slot)/\W.cell? ⟨b,o+i*7+2,MH⟩=MI (MF ME L[i].gen)/\W.cell? ⟨b,o+i*7+3,MH⟩=MI (MF ME L[i].be)/\W.cell? ⟨b,o+i*7+4,MH⟩=MI (MF ME L[i].req)/\W.cell? ⟨b,o+i*7+5,MH⟩=MI (MF ME L[i].code)/\W.cell? ⟨b,o+i*7+6,MH⟩=MI (MF ME L[i].why):=by
 obtain⟨a,l,k,_,_,j⟩:=Xw.F6 akV h;injection k with q1 _ _;obtain⟨b,o,f,_,e⟩:=j i hi;exact⟨b,o,q1.trans f,e 0 (by omega),e 1 (by omega),e 2 (by omega),e 3 (by omega),e 4 (by omega),e 5 (by omega),e 6 (by omega)⟩
section
variable {P:O8}{ops:Array Oper}{C:MO->Prop}{Q:Act->Prop}{o:Oper}{rest:List Oper}{a:Act}
theorem aAK{id:Nat}{R:Exit->Act->MO->Prop}{w:MO}{l:List Oper}(hC:C w.drew)(h:wpQuiet P l.toArray C (fun a'=>∀w',C w'->R .normal a' w') l a)(hm:P.follows .mixedOrders=true:=by kernel_rfl)(hB:Region.lexB .any l.toArray=true:=by kernel_rfl):(Code.region id l.toArray Nw).wp P R a w :=
 wp_region_quiet hm hB hC (by simpa using h)
theorem aAJ{K:Act->Prop}(v:M7)(h:K (a.put o.dst v))(hv:∀w,C w->(execOp a.eval o).run P w=.ok (.value v) w):o.quiet P a C K :=
 ⟨v,fun w hC=>by unfold Oper.quietAt;rw[hv w hC];exact⟨rfl,rfl⟩,h⟩
theorem aAL{K:Act->Prop}(v:M7)(f:FuncId)(args:Array M7)(hc:∀w,C w->Ni P f args w fun e w'=>e=MN v/\C w')(h:K (a.put o.dst v))(hv:∀w,(execOp a.eval o).run P w=.ok (.enter f args) w:=by exact fun X=>by go_simp):o.quiet P a C K :=
 ⟨v,fun w hC=>by unfold Oper.quietAt;rw[hv w];exact⟨rfl,hc w hC⟩,h⟩
end
theorem aAE{l:List Ou}{p1 p2:Option Oc}{c1 c2:Nat}{w:MO}(h1:Xw Z1 w (MG p1 l.length c1) l)(h2:Xw Z1 w (MG p2 l.length c2) l) :
  Ni MK 8 #[MG p1 l.length c1,MG p2 l.length c2] w fun r w'=>r=MN (M3 Nw)/\MQ w.heap.size w w':=by
 have v:l.length<=9223372036854775807:=by obtain⟨_,_,hv,Z,c,_⟩:=Xw.F6 akV h1;unfold NE at c;omega
 obtain⟨n,j⟩:∃n,n=l.length:=⟨_,rfl⟩;have f:M6 (_/\_/\_):=⟨h1,h2,j⟩;rw[<-j]at v⊢;have K:((n:Int) != (n:Int))=false:=bne_self_eq_false _;clear h1 h2 j;go_enter Tryz.func8,Tryz.ntmps8;go_wp2
 go_loopw [5] (fun i wr=>∃k q:Nat,i=MF ME k/\k<=n/\wr=w.drewN q) (fun i _=>n-(intOf i).toNat)
 case atStart=>exact⟨0,0,rfl,Nx _,rfl⟩
 case round =>
  obtain⟨k,q,rfl,hk,rfl⟩:=hrel
  by_cases hlt:k<n
  ·have e:k<l.length:=by rw[<-f.out.2.2];exact hlt
   obtain⟨N,T,rfl,u,I,F,A,p,s,J⟩:=aAx f.out.1 e;obtain⟨M,O,rfl,t,B,H,y,z,D,y7⟩:=aAx f.out.2.1 e;obtain⟨x,c⟩:∃x,x=l[k]:=⟨_,rfl⟩;rw[<-c]at u I F A p s J t B H y z D y7;have m:(k:Int)<(n:Int):=by omega
   have L:Decidable.decide ((k:Int)<(n:Int))=true:=Nq m;clear c e;go_wp2
   go_region
   go_wp2
   go_roundw
   case rel=>exact⟨k+1,q+1,by simp,hlt,rfl⟩
   case measure=>simp[intOf];omega
  ·obtain rfl:k=n:=by omega
   go_wp2;go_ret;exact⟨rfl,amB (MY _ _) q⟩
theorem aAf(e:Ev):∀u∈aaV e,u.oneCell'=true:=au7 e
theorem aAn:(Tryz.prog.info? 60).map (fun i=>(i.zero,i.size,i.bytes))=MI (MI (Ny aAk.toArray),8,64):=by kernel_rfl
def aAh(P:Py)(k:Nat):List Ev:=(P.steps.take k).map (·.ev)
theorem aAj{P:Py}{k:Nat}{s:Sp}(h:P.steps[k]?=MI s):aAh P (k+1)=aAh P k++[s.ev]:=by
 obtain⟨c,e⟩:=List.getElem?_eq_some_iff.1 h;unfold aAh;rw[M9 c,OI,e];rfl
theorem aAi{P:Py}(h:n=P.steps.length):aAh P n=P.steps.map (·.ev):=by
 unfold aAh;rw[h,NT]
theorem aAe{w:MO}{c q:Nat}{p:Option Oc}{es:List Ev}(hn:n=es.length)(h:Xw aaV w (MG p n c) es)(hq:q<=n):
  ∃p1 c1,(∀W:MO,(aAV 29 (MG p n c) MH (MI (MF ME (q:Int))) (MI (MF ME (q:Int)))).run MK W=.ok (MG p1 q c1) W)/\Xw aaV w (MG p1 q c1) (es.take q):=by
 obtain⟨a,u,t,y,v,l⟩:=h;injection t with e1 e2 e3;subst e1 e3;have f:Tryz.prog.underlying 29=MI (.slice (Tryz.prog.elem 29)):=by kernel_rfl
 obtain⟨A,s,e⟩:=Option.map_eq_some_iff.1 aAn;simp only[Prod.mk.injEq]at e;have k:∀W:MO,(sizeOf (Tryz.prog.elem 29)).run MK W=.ok 8 W:=fun W=>by
  rw[show Tryz.prog.elem 29=60 by kernel_rfl];simp[sizeOf,typeInfo,s,e.2.1]
 refine⟨if q=0 then p else p.map (·.add (0*8)),q-0,fun W=>?_,?_⟩
 ·rw[run_sliceAt_slice _ _ _ _ _ _ f,run_slice_hm _ _ _ _ _ f _ _ _ _ (by omega) (by omega) (by omega),k]
  simp[Result.andThen,sliced]
 ·have m:(es.take q).length=q:=by rw[NH];omega
  show XB _ _ (es.take q).length _;rw[m];refine⟨_,_,rfl,by omega,by unfold NE at *;omega,?_⟩
  by_cases h0:q=0
  ·subst h0;exact Nt ⟨rfl,rfl⟩
  ·rcases l with⟨z,_⟩|⟨b,off,rfl,r,j⟩
   ·omega
   ·refine NF ⟨b,off,by rw[Nf h0];simp[Addr.add],r,fun i hi'=>?_⟩
    rw[<-ahF aAg,NH]at hi';rw[j i (by omega),<-ahF aAg,O0 (by omega)]
theorem aAM{P:O8}{ops:Array Oper}{S:MO->Prop}{op:Oper}{a:Act}(hw:Region.wanted op (yielded ops a.tmps)=Nw)(T:TypeId)(x:Operand)(lo hi mx:Option Operand)(ho:op.op=.slice T x lo hi mx)(y:M7)
  (hr:∀w,(aAV T (a.eval x) (lo.map a.eval) (hi.map a.eval) (mx.map a.eval)).run P w=.ok y w):YieldsIf P ops S op y a :=
 Nt ⟨hw,fun w hw'=>by
  unfold execOp;simp only[ho,Sem.run_bind,Sem.run_pure,Result.andThen_ok,hr w]⟩
theorem az8.at_{W:MO}{U:Us}{po:Option Oc}{co:Nat}{xs:List Oo}{P:Gs}(h:az8 W U po co xs P)(hn:xs.length=n){j:Nat}{l:List Ou}(hj:j<n)(hl:P.outs[j]?=MI l):
  ∃b o x1 x2,po=MI ⟨b,o,MH⟩/\b<W.heap.size/\W.cell? ⟨b,o+j,MH⟩=MI (MG x1 l.length x2)/\Xw Z1 W (MG x1 l.length x2) l:=by
 have c:j<xs.length:=by omega
 have e:xs[j].2.2=l:=by
  have i:=congrArg (·[j]?) h.eqs;simp only[hl,aAT,MR c,Option.map_some,Option.some.injEq]at i;exact i
 have f:=h.all _ (Nk c);obtain⟨v,u,s,_,_,r⟩:=Xw.F6 aAv h.rows;injection s with ha hn2 hcap;obtain⟨t,oo,p,q,m⟩:=r j c;have k:=m 0 (by omega);rw[Nat.mul_one]at k;rw[e]at f;refine⟨t,oo,xs[j].1,xs[j].2.1,ha.trans p,q,?_,f⟩;rw[<-e];exact k
theorem aAH(f:Nat->Int)(hf:∀i,i<16->(Lit.int ME (f i)).wf=Nw)(ds:List Dd)(hds:∀d∈ds,ajd d)(cu:Int)(hcu:(Lit.int ME cu).wf=Nw){pd:Option Oc}{cd:Nat}{w:MO}(hrow:Xw agP w (MG pd ds.length cd) ds)(hB:Xo w) :
  Ni MK 5 #[agc (f 0) (f 1) (f 2) (f 3) (f 4) (f 5) (f 6) (f 7) (f 8) (f 9) (f 10) (f 11) (f 12) (f 13) (f 14) (f 15),MG pd ds.length cd,MF ME cu] w fun r w'=>r=MN (M3 Nw)/\MQ w.heap.size w w':=by
 obtain⟨L,hL,eL,i3⟩:=aAz f hf ds hds hrow hB 60 (by omega);rw[eL];obtain⟨W0,e5⟩:∃W0,W0=w.alloc (MP L.toArray 24):=⟨_,rfl⟩;have e9:MQ w.heap.size w W0:=by rw[e5];exact WQ w
 have HI:M6 (_/\_/\_):=⟨hL,e9,i3 W0 e9⟩;obtain⟨nd,h8⟩:∃nd,nd=ds.length:=⟨_,rfl⟩;rw[<-h8]at HI⊢;have k9:M6 _:=adr hcu;clear hcu;clear hL eL i3 e9 hf hds hrow hB h8;go_enter Tryz.func5,Tryz.ntmps5
 go_wp2_with ((with_reducible refine O3 rfl 24 (O6 3) rfl w.heap.size 0 ?gx L _ ?gc Tryz.underlying24 ?gd ?gi ?_);(case gx=>rfl);(case gc=>exact afW (M1 _ _));(case gd=>rfl);(case gi=>rw[HI.out.1];exact apz))
 rw[<-e5];clear e5;refine Nd HI.out.2.2 ?_;rintro r w1 ⟨g,V,c,P,rfl,hS,j8,k5,k2,j0⟩;obtain⟨n,hn⟩:∃n,n=P.steps.length:=⟨_,rfl⟩;have F:M6 (_/\_/\_/\_/\_):=⟨hS,j8,hn,(show n<=60+4 by omega),j0⟩;have i2:=HI.out.2.1.trans (hS.bel.mono HI.out.2.1.size);have HB:M6 _:=i2;clear hS j8 k5 k2 j0 hn HI i2
 go_wp2_with fail
 go_loopw [9,10] (fun s i wr=>∃(k:Nat) (p:Option Oc) (cc:Nat),s=MG p k cc/\i=MF ME (k:Int)/\k<=n/\M6 (wr.ownsRow w1.heap.size 60 8 (MG p k cc) k (rv aaV (aAh P k))/\MQ w1.heap.size w1 wr)) (fun _ i _=>n-(intOf i).toNat)
 case atStart=>exact⟨0,MH,0,rfl,rfl,Nx _,⟨rfl,Nt ⟨rfl,rfl⟩⟩,MY _ _⟩
 case round =>
  obtain⟨k,p,cc,rfl,rfl,hk,HJ⟩:=hrel;have k8:n<=9223372036854775807:=by have:=F.out.2.2.2.1;omega
  have a5:=F.out.1.on HJ.out.2;have i4:wr.cell? ⟨g,16,MH⟩=MI (MG V.ps n V.cs):=by rw[F.out.2.2.1];exact a5.pat.Gm
  have l3:=a5.pat.lt
  by_cases hlt:k<n
  ·have l4:(k:Int)<(n:Int):=by omega
   obtain⟨q,b,o,hq,j2,l8⟩:=a5.step (k:=k) (by rw[<-F.out.2.2.1];exact hlt);have a8:=aAj j2;obtain⟨⟨e,s1,s2,s3⟩,qu,qv,qp,qc⟩:=q;obtain⟨kd,ky,sl,gn,gd,rq,be,wt⟩:=e;have d0:wr.cell? ⟨b,o+k*61,MH⟩=MI (MF ME kd):=hq.cells 0 _ rfl;have d1:wr.cell? ⟨b,o+k*61+1,MH⟩=MI (MF ME ky):=hq.cells 1 _ rfl;have d2:wr.cell? ⟨b,o+k*61+2,MH⟩=MI (MF ME sl):=hq.cells 2 _ rfl;have d3:wr.cell? ⟨b,o+k*61+3,MH⟩=MI (MF ME gn):=hq.cells 3 _ rfl;have d4:wr.cell? ⟨b,o+k*61+4,MH⟩=MI (M3 gd):=hq.cells 4 _ rfl;have d5:wr.cell? ⟨b,o+k*61+5,MH⟩=MI (MF ME rq):=hq.cells 5 _ rfl;have d6:wr.cell? ⟨b,o+k*61+6,MH⟩=MI (MF ME be):=hq.cells 6 _ rfl;have d7:wr.cell? ⟨b,o+k*61+7,MH⟩=MI (MF ME wt):=hq.cells 7 _ rfl;rw[hq.at_]at i4;obtain⟨g2,c2,z,j4,a7,g9,_⟩:=afC aAg aAf (by decide) Tryz.underlying29 aAn rfl HJ.out.1 HJ.out.2.size 29 (⟨kd,ky,sl,gn,gd,rq,be,wt⟩:Ev) #[MF ME kd,MF ME ky,MF ME sl,MF ME gn,M3 gd,MF ME rq,MF ME be,MF ME wt] rfl (by have:=F.out.2.2.2.1;omega) (by have:=F.out.2.2.2.1;unfold NE;omega);have H:=HJ.out.2.grown g9 HJ.out.2.size (fun j hj=>(HJ.out.1.lt j hj).1);have H5:M6 (_/\_/\_/\_):=⟨j4,a7,H,a8⟩;clear j4 a7 H g9 a8 j2 l8 hq a5
   go_wp2_with (at_builtin;(with_reducible refine Z4 rfl _ _ 29 rfl (MG p k cc) (MG (MI ⟨wr.heap.size,0,MH⟩) 1 1) (MG (MI ⟨g2,0,MH⟩) (k+1) c2) z ?hs ?hx ?hr ?_);(case hs=>rfl);(case hx=>rfl);(case hr=>exact H5.out.1))
   go_roundw
   case rel=>exact⟨k+1,MI ⟨g2,0,MH⟩,c2,rfl,by simp,hlt,by rw[H5.out.2.2.2];exact H5.out.2.1,H5.out.2.2.1⟩
   case measure=>simp[intOf];omega
  ·obtain rfl:k=n:=by omega
   have l4:¬(k:Int)<(k:Int):=by omega
   have d9:=aAi F.out.2.2.1;obtain⟨y,a8⟩:∃y,y=P.steps.map (·.ev):=⟨_,rfl⟩;rw[<-a8]at d9;have a4:k=y.length:=by rw[a8,N0];exact F.out.2.2.1
   have e4:P=azY (Yb c) y:=by rw[a8];exact F.out.1.rn.aAP
   have g0:∀e∈y,Yk e=0:=fun e he=>by
    rw[a8]at he;obtain⟨s,hs,rfl⟩:=List.mem_map.1 he;exact(F.out.1.rn.runs.chain s hs).ev
   have hrow:Xw aaV wr (MG p y.length cc) y:=by
    have h:=HJ.out.1;rw[d9]at h;rw[<-a4];have h2:wr.ownsRow w1.heap.size 60 8 (MG p y.length cc) y.length (rv aaV y):=by rw[<-a4];exact h
    have h3:=abw h2;rwa[<-a4]at h3
   obtain⟨K,B⟩:∃K,K=ac8 c:=⟨_,rfl⟩;have i8:∀X,MQ wr.heap.size wr X->X.rangeAt g 0 K:=fun X A j v hv=>by
    have hj:j<16:=by have:=(List.getElem?_eq_some_iff.1 hv).1;rw[B]at this;exact this
    rw[Nat.zero_add,(a5.on A).pat.aAR j];show(ac8 c++_)[j]?=_;rw[OJ (show j<16 from hj),<-B];exact hv
   have j9:K.length=16:=by rw[B];rfl
   have m1:k<=64:=F.out.2.2.2.1;have i7:y.length<=4000:=by rw[<-a4];omega
   have hR:=aAC F.out.2.1.ok y g0 i7 hrow a5.blk;rw[<-e4,<-a4,<-B]at hR;have HR:M6 _:=hR;obtain⟨m,hm,i1⟩:=acd cu k9.out (k+1) ((k:Int)+1) ⟨by omega,by omega,by push_cast;rfl⟩;have hw:IntKind.i64.wrap ((k:Int)+1)=(k:Int)+1:=abk (by omega) (by omega);have j5:m<=k:=by omega
   obtain⟨p1,c1,i6,g6⟩:=aAe a4 (by rw[<-a4]at hrow;exact hrow) j5;have g5:∀X,MQ wr.heap.size wr X->Ni MK 7 #[Ny K.toArray,MG p1 m c1] X fun r w'=>∃U po co xs,r=MN (Nv #[Ny (XR U (azY (Yb c) (y.take m)).last),MG po xs.length co,MF ME 0])/\(∀Z,aba X.heap.size w' Z->az8 Z U po co xs (aAl (azY (Yb c) (y.take m))))/\MQ X.heap.size X w':=fun X A=>by
    have ht:(y.take m).length=m:=by rw[NH];omega
    have h:=aAC F.out.2.1.ok (y.take m) (fun e he=>g0 e (aAS he)) (by rw[ht];omega) (p:=p1) (cc:=c1) (w:=X) (by rw[ht];exact g6.below A) (a5.blk.below A);rw[ht,<-B]at h;exact h
   have HP:M6 (_/\_/\_/\_):=⟨i1,i6,g5,j5⟩;have HK:M6 (_/\_):=⟨i8,j9⟩;have HE:M6 (_/\_/\_):=⟨a4,e4,d9⟩;have l9:M6 _:=a5;clear hR i8 j9 d9 a4 e4 g0 hrow B a5 i7 a8 hm i1 i6 g6 g5
   go_wp2_with fail
   refine Nd (HP.out.1 _) ?_;rintro r wx ⟨rfl,k0⟩;rw[k0];clear k0 hw
   go_wp2_with ((with_reducible refine O3 rfl 35 (O6 53) rfl g 0 ?gx K _ ?gc Ph ?gd ?gi ?_);(case gx=>rfl);(case gc=>exact HK.out.1 _ (MY _ _));(case gd=>rfl);(case gi=>rw[HK.out.2];exact ajj))
   refine Nd HR.out ?_;rintro r w2 ⟨U,po,co,xs,rfl,j3,f6⟩;have e7:=j3 w2 (aba.Gy _ _);have f9:xs.length=k:=by
    have h:=congrArg List.length e7.eqs;rw[N0]at h;rw[h];show(P.steps.map (·.out)).length=k;rw[N0];exact F.out.2.2.1.symm
   obtain⟨Y,hY,k7,a2,e8⟩:=aAI w2 U P.last;obtain⟨M,f5⟩:∃M,M=(XR U P.last).toList:=⟨_,rfl⟩;have f4:(XR U P.last).toList.toArray.size=26:=rfl;have f7:(XR U P.last).toList.toArray.all (·.oneCell')=true:=ado _ _;rw[show XR U P.last=M.toArray by rw[f5],f9];rw[<-f5]at hY e8 f4 f7;have c9:=f6.trans (a2.mono f6.size);have j6:=e7.below a2;have m0:=(l9.out.on c9).pat.lt;have H2:M6 (_/\_/\_/\_):=⟨e8,f4,f7,hY⟩;have H3:M6 (_/\_/\_/\_):=⟨j6,c9,f9,HB.out.trans ((HJ.out.2.trans (c9.mono HJ.out.2.size)).mono HB.out.size)⟩;clear j3 e7 f6 f9 hY k7 a2 e8 f5 f4 f7 c9 j6 HR i4 l3
   go_wp2_with ((with_reducible refine OW rfl 55 (O6 12) (O6 57) rfl w2.heap.size 0 M.toArray ?sx ?sy ?st ?si ?s1 ?_);(case sx=>rfl);(case sy=>rfl);(case st=>exact H2.out.1);(case si=>rw[H2.out.2.1];exact Z0);(case s1=>exact H2.out.2.2.1);rw[NS,<-H2.out.2.2.2])
   apply aan
   ·intro k1
    have f3:MQ Y.heap.size Y Y.drew:=(MY _ _).drew;obtain⟨S,hS,f8⟩:∃S:MO->Prop,(∀X,S X->MQ Y.heap.size Y X)/\(∀X,MQ Y.heap.size Y X->S X):=⟨_,fun _ h=>h,fun _ h=>h⟩;have g1:S Y.drew:=f8 _ f3;have a0:M6 (_/\_/\_):=⟨hS,f8,f3⟩;clear hS f8 f3;refine O2 (S:=S) (by kernel_rfl) g1 (fun hHeld=>?_);refine awW 0 (gP g) hHeld ?_;simp only[Nr,MZ,MT,MS,MJ,ML,MM];refine awW 1 (gP g) hHeld ?_;simp only[Nr,MZ,MT,MS,MJ,ML,MM];refine awW 2 (Na (MI ⟨g,0,MH⟩)) hHeld ?_;simp only[Nr,MZ,MT,MS,MJ,ML,MM];refine awW 3 (Ny K.toArray) hHeld ?_ (hy:=Pt (by rfl) 35 (O6 63) rfl g 0 rfl K _ (fun X h=>HK.out.1 X (H3.out.2.1.trans ((a0.out.1 X h).mono H3.out.2.1.size))) Ph rfl (by rw[HK.out.2];exact ajj));simp only[Nr,MZ,MT,MS,MJ,ML,MM];refine awW 4 (MG p k cc) hHeld ?_;simp only[Nr,MZ,MT,MS,MJ,ML,MM];refine awW 5 (MF ME (m:Int)) hHeld ?_;simp only[Nr,MZ,MT,MS,MJ,ML,MM];refine awW 6 (MF ME (m:Int)) hHeld ?_;simp only[Nr,MZ,MT,MS,MJ,ML,MM];refine awW 7 (MG p1 m c1) hHeld ?_ (hy:=aAM (by rfl) 29 (O6 65) MH (MI (O6 66)) (MI (O6 67)) rfl (MG p1 m c1) (fun X=>HP.out.2.1 X));simp only[Nr,MZ,MT,MS,MJ,ML,MM];refine NN (rs:=[8,13]) (by kernel_rfl) (by simp) ?_;refine NP (o:=_) rfl (fun K B=>?_) (NP (o:=_) rfl (fun K B=>?_) NX)
    ·go_simp
     refine Nd (HP.out.2.2.1 _ (H3.out.2.1.trans (a0.out.2.2.mono H3.out.2.1.size))) ?_;rintro r z ⟨U5,N,I,T,rfl,c4,H⟩;obtain⟨u,b8⟩:∃u,u=(XR U5 (azY (Yb c) (y.take m)).last).toList:=⟨_,rfl⟩;obtain⟨t,b7⟩:∃t,t=T.length:=⟨_,rfl⟩;have J:M6 (_/\_/\_/\_):=⟨b8,c4,H,b7⟩;have b9:S z:=a0.out.2.1 _ (a0.out.2.2.trans (H.mono a0.out.2.2.size));rw[show XR U5 (azY (Yb c) (y.take m)).last=u.toArray by rw[b8],<-b7];clear b8 c4 H b7
     go_wp2_with fail
     refine B.out _ _ b9 (fun hHeld5=>?_);clear B K
     try simp only[Nr,MZ,MT,MS,MJ,ML,MM]
     refine awW 9 (Nv #[Ny u.toArray,MG N t I,MF ME 0]) hHeld5 ?_;simp only[Nr,MZ,MT,MS,MJ,ML,MM];refine awW 10 (Ny u.toArray) hHeld5 ?_;simp only[Nr,MZ,MT,MS,MJ,ML,MM];refine awW 11 (MG N t I) hHeld5 ?_;simp only[Nr,MZ,MT,MS,MJ,ML,MM];refine awW 12 (MF ME 0) hHeld5 ?_;simp only[Nr,MZ,MT,MS,MJ,ML,MM];refine NN (rs:=[13]) (by kernel_rfl) (by simp) ?_;refine NP (o:=_) rfl (fun K B=>?_) NX;go_simp;obtain⟨Z,hZ⟩:∃Z,Z=z.alloc (MP wz.toArray 55):=⟨_,rfl⟩;obtain⟨q,hg⟩:∃q,q=z.heap.size:=⟨_,rfl⟩;have d8:MQ z.heap.size z Z:=by rw[hZ];exact WQ z
     have c6:Z.heap[q]?=MI (MP wz.toArray 55 (0,0)):=by rw[hZ,hg];exact M1 _ _
     have H:MQ Y.heap.size Y z:=a0.out.2.2.trans (J.out.2.2.1.mono a0.out.2.2.size);have a2:MQ Y.heap.size Y Z:=H.trans (d8.mono H.size);have c0:Y.heap.size<=q:=by rw[hg];exact H.size
     have g7:S Z:=a0.out.2.1 _ a2;have c5:∀b,b<z.heap.size->Z.heap[b]?=z.heap[b]?:=fun b h=>d8.block b h
     have a9:=d8.size;have k3:z.heap.size<=q:=by rw[hg];exact MV _
     rw[<-hZ,<-hg];clear hZ hg d8 H;refine B.out _ _ g7 (fun hHeldY=>?_);clear B K g7
     try simp only[Nr,MZ,MT,MS,MJ,ML,MM]
     have l5:u.length=26:=by rw[J.out.1];rfl
     have b0:u.toArray.size=26:=(show u.toArray.size=u.length from OQ).trans l5;have a7:u.toArray.all (·.oneCell')=true:=by rw[J.out.1];exact ado _ _
     have c7:(Z).there q 0 u.toArray.size:=by rw[b0];exact aeU c6
     obtain⟨vz,O⟩:∃vz,vz=(Z).setCells q 0 u:=⟨_,rfl⟩;have b3:MQ Y.heap.size Y vz:=by rw[O];exact adp a2 c0 _ _ a2.size
     have a3:S vz:=a0.out.2.1 _ b3;have c3:az8 vz U5 N I T (aAl (azY (Yb c) (y.take m))):=J.out.2.1 vz ⟨by rw[O,ac3];exact a9,fun b q1 q2=>by rw[O,N8 _ _ _ _ (M8 q2 a9) (by omega)];try exact c5 b q2⟩;have HF:M6 (MQ Y.heap.size Y vz/\az8 vz U5 N I T (aAl (azY (Yb c) (y.take m)))/\t=T.length):=⟨b3,c3,J.out.2.2.2⟩;clear b3 c3 a2 c6 c0;refine NN (rs:=[14]) (by kernel_rfl) (by simp) ?_;refine afX (i:=14) (o:=_) (by rfl) (by rfl) 55 (O6 15) (O6 70) (by rfl) q 0 u.toArray (by rfl) (by rfl) c7 (by rw[b0];exact Z0) a7 (by rw[NS,<-O];exact a3) ?_;rw[NS,<-O]
     try simp only[Nr,MZ,MT,MS,MJ,ML,MM]
     refine NN (rs:=[15]) (by kernel_rfl) (by simp) ?_;refine acK (i:=15) (o:=_) (by rfl) (by rfl) (O6 71) (by rfl) (MG N t I) (by rfl) a3 ?_
     try simp only[Nr,MZ,MT,MS,MJ,ML,MM]
     refine NN (rs:=[16]) (by kernel_rfl) (by simp) ?_;refine acK (i:=16) (o:=_) (by rfl) (by rfl) (O6 72) (by rfl) (MF ME 0) (by rfl) a3 ?_
     try simp only[Nr,MZ,MT,MS,MJ,ML,MM]
     refine PS (by kernel_rfl) ?_ _;clear c7 b0 l5 J a3 O a7 hHeldY c5 a9 k3 b9 hHeld5 g1 hHeld;revert HF;revert vz;revert t;revert T;revert I;revert N;revert U5;revert u;revert q;exact k1.out
    ·go_simp
     obtain⟨X1,e0⟩:∃X1,X1=(Y.alloc (MP wz.toArray 55)).drew:=⟨_,rfl⟩;have g4:MQ Y.heap.size Y X1:=by rw[e0];exact(WQ Y).drew
     have j1:X1.heap[Y.heap.size]?=MI (MP wz.toArray 55 (0,0)):=by rw[e0];exact M1 _ _
     have j7:S X1:=a0.out.2.1 _ g4;obtain⟨q,hg⟩:∃q,q=Y.heap.size:=⟨_,rfl⟩;have D:M6 (_/\_/\_):=⟨g4,j1,hg⟩;clear g4 j1;rw[<-e0,<-hg];clear e0 hg;refine B.out _ _ j7 (fun hHeldX=>?_);clear B K j7
     try simp only[Nr,MZ,MT,MS,MJ,ML,MM]
     refine NN (rs:=[8]) (by kernel_rfl) (by simp) ?_;refine NP (o:=_) rfl (fun K B=>?_) NX;go_simp;refine Nd (HP.out.2.2.1 _ (H3.out.2.1.trans (D.out.1.mono H3.out.2.1.size))) ?_;rintro r z ⟨U5,N,I,T,rfl,c4,H⟩;obtain⟨u,b8⟩:∃u,u=(XR U5 (azY (Yb c) (y.take m)).last).toList:=⟨_,rfl⟩;obtain⟨t,b7⟩:∃t,t=T.length:=⟨_,rfl⟩;have J:M6 (_/\_/\_/\_):=⟨b8,c4,H,b7⟩;have b9:S z:=a0.out.2.1 _ (D.out.1.trans (H.mono D.out.1.size));rw[show XR U5 (azY (Yb c) (y.take m)).last=u.toArray by rw[b8],<-b7];clear b8 c4 H b7
     go_wp2_with fail
     refine B.out _ _ b9 (fun hHeld5=>?_);clear B K
     try simp only[Nr,MZ,MT,MS,MJ,ML,MM]
     refine awW 9 (Nv #[Ny u.toArray,MG N t I,MF ME 0]) hHeld5 ?_;simp only[Nr,MZ,MT,MS,MJ,ML,MM];refine awW 10 (Ny u.toArray) hHeld5 ?_;simp only[Nr,MZ,MT,MS,MJ,ML,MM];refine awW 11 (MG N t I) hHeld5 ?_;simp only[Nr,MZ,MT,MS,MJ,ML,MM];refine awW 12 (MF ME 0) hHeld5 ?_;simp only[Nr,MZ,MT,MS,MJ,ML,MM];have c6:z.heap[q]?=MI (MP wz.toArray 55 (0,0)):=by rw[D.out.2.2];exact WO D.out.2.1 J.out.2.2.1
     have a2:MQ Y.heap.size Y z:=D.out.1.trans (J.out.2.2.1.mono D.out.1.size);have c0:Y.heap.size<=q:=by rw[D.out.2.2];exact MV _
     have l7:q<X1.heap.size:=by rw[D.out.2.2];exact(Array.getElem?_eq_some_iff.1 D.out.2.1).1
     have c5:∀b,b<z.heap.size->z.heap[b]?=z.heap[b]?:=fun _ _=>rfl
     have a9:z.heap.size<=z.heap.size:=MV _;have l5:u.length=26:=by rw[J.out.1];rfl
     have b0:u.toArray.size=26:=(show u.toArray.size=u.length from OQ).trans l5;have a7:u.toArray.all (·.oneCell')=true:=by rw[J.out.1];exact ado _ _
     have c7:(z).there q 0 u.toArray.size:=by rw[b0];exact aeU c6
     obtain⟨vz,O⟩:∃vz,vz=(z).setCells q 0 u:=⟨_,rfl⟩;have b3:MQ Y.heap.size Y vz:=by rw[O];exact adp a2 c0 _ _ a2.size
     have a3:S vz:=a0.out.2.1 _ b3;have c3:az8 vz U5 N I T (aAl (azY (Yb c) (y.take m))):=J.out.2.1 vz ⟨by rw[O,ac3];exact a9,fun b q1 q2=>by rw[O,N8 _ _ _ _ (M8 q2 a9) (by omega)];try exact c5 b q2⟩;have HF:M6 (MQ Y.heap.size Y vz/\az8 vz U5 N I T (aAl (azY (Yb c) (y.take m)))/\t=T.length):=⟨b3,c3,J.out.2.2.2⟩;clear b3 c3 a2 c6 c0;refine NN (rs:=[14]) (by kernel_rfl) (by simp) ?_;refine afX (i:=14) (o:=_) (by rfl) (by rfl) 55 (O6 15) (O6 70) (by rfl) q 0 u.toArray (by rfl) (by rfl) c7 (by rw[b0];exact Z0) a7 (by rw[NS,<-O];exact a3) ?_;rw[NS,<-O]
     try simp only[Nr,MZ,MT,MS,MJ,ML,MM]
     refine NN (rs:=[15]) (by kernel_rfl) (by simp) ?_;refine acK (i:=15) (o:=_) (by rfl) (by rfl) (O6 71) (by rfl) (MG N t I) (by rfl) a3 ?_
     try simp only[Nr,MZ,MT,MS,MJ,ML,MM]
     refine NN (rs:=[16]) (by kernel_rfl) (by simp) ?_;refine acK (i:=16) (o:=_) (by rfl) (by rfl) (O6 72) (by rfl) (MF ME 0) (by rfl) a3 ?_
     try simp only[Nr,MZ,MT,MS,MJ,ML,MM]
     refine PS (by kernel_rfl) ?_ _;clear c7 b0 l5 J a3 O a7 hHeldX c5 a9 l7 D b9 hHeld5 g1 hHeld;revert HF;revert vz;revert t;revert T;revert I;revert N;revert U5;revert u;revert q;exact k1.out
   ·rintro q u U5 N I T t vz HF
    have g3:T.length=m:=by
     have h:=congrArg List.length HF.out.2.1.eqs;rw[N0]at h;rw[h];show((azY (Yb c) (y.take m)).steps.map (·.out)).length=m;rw[N0,az0,NH];have:=HE.out.1;have:=HP.out.2.2.2;omega
    obtain rfl:t=m:=HF.out.2.2.trans g3;have H5:M6 (_/\_):=⟨g3,(az2 (Yb c) y t:(azY (Yb c) (y.take t)).steps=(azY (Yb c) y).steps.take t)⟩;have m3:((k:Int) != (k:Int))=false:=bne_self_eq_false _;have k2:((t:Int) != (t:Int))=false:=bne_self_eq_false _;clear g3
    go_wp2_with fail
    go_loopw [18] (fun i wr=>∃j:Nat,i=MF ME (j:Int)/\j<=t/\M6 (MQ vz.heap.size vz wr)) (fun i _=>t-(intOf i).toNat)
    case atStart=>exact⟨0,rfl,Nx _,MY _ _⟩
    case round =>
     obtain⟨j,rfl,hj,D⟩:=hrel;have k8:t<=9223372036854775807:=by have:=F.out.2.2.2.1;omega
     have m4:k<=9223372036854775807:=by have:=F.out.2.2.2.1;omega
     by_cases hlj:j<t
     ·have l6:(j:Int)<(t:Int):=by omega
      have m2:(j:Int)<(k:Int):=by omega
      obtain⟨s,hs⟩:∃s,P.steps[j]?=MI s:=⟨_,MR (by rw[<-F.out.2.2.1];omega)⟩;have g8:(aAl P).outs[j]?=MI s.out:=by show(P.steps.map (·.out))[j]?=_;rw[aAT,hs];rfl
      have i9:(aAl (azY (Yb c) (y.take t))).outs[j]?=MI s.out:=by
       show((azY (Yb c) (y.take t)).steps.map (·.out))[j]?=_;rw[aAT,H5.out.2,<-HE.out.2.1,O0 hlj,hs];rfl
      have i5:=HF.out.1.trans (D.out.mono HF.out.1.size);obtain⟨b,o,x1,x2,k6,l1,f1,r1⟩:=(H3.out.1.below i5).at_ H3.out.2.2.1 (j:=j) (by omega) g8;obtain⟨b',o',y1,y2,k4,l2,f2,r2⟩:=(HF.out.2.1.below D.out).at_ H5.out.1 (j:=j) hlj i9;obtain⟨l,hl⟩:∃l,l=s.out:=⟨_,rfl⟩;rw[<-hl]at f1 f2 r1 r2;obtain⟨nl,e6⟩:∃n,n=l.length:=⟨_,rfl⟩;rw[<-e6]at f1 f2;obtain⟨C,a6,hC1⟩:∃C:MO->Prop,(∀X,C X->MQ wr.heap.size wr X)/\(∀X,MQ wr.heap.size wr X->C X):=⟨_,fun _ h=>h,fun _ h=>h⟩;have HQ:M6 ((∀X,C X->X.cell? ⟨b,o+j,MH⟩=MI (MG x1 nl x2))/\(∀X,C X->X.cell? ⟨b',o'+j,MH⟩=MI (MG y1 nl y2))/\(∀X,C X->Ni MK 8 #[MG x1 nl x2,MG y1 nl y2] X fun r w'=>r=MN (M3 Nw)/\C w')/\(∀X,C X->MQ vz.heap.size vz X)/\C wr.drew):=
       ⟨fun X A=>((a6 X A).cell (p:=⟨b,o+j,MH⟩) l1).trans f1,
         fun X A=>((a6 X A).cell (p:=⟨b',o'+j,MH⟩) l2).trans f2,
         fun X A=>by
        rw[e6];exact(aAE (r1.below (a6 X A)) (r2.below (a6 X A))).mono fun r w' h=>⟨h.1,hC1 w' ((a6 X A).trans (h.2.mono (a6 X A).size))⟩,
         fun X A=>D.out.trans ((a6 X A).mono D.out.size),
         hC1 _ (MY _ _).drew⟩
      clear f1 f2 r1 r2 l1 l2 hl e6 a6 hC1 g8 i9 hs i5;subst k6 k4
      go_wp2_with fail
      refine aAK (C:=C) HQ.out.2.2.2.2 ?_
      go_big_quiet_want
      refine aAJ (MG (MI ⟨b,o,MH⟩) k co) ?_ (fun X hSw=>by go_simp);simp only[Nr,MZ,MT,MS,MJ,ML,MM]
      go_big_quiet_on
      go_big_quiet_want
      refine aAJ (MF ME (j:Int)) ?_ (fun X hSw=>by go_simp);simp only[Nr,MZ,MT,MS,MJ,ML,MM]
      go_big_quiet_on
      go_big_quiet_want
      refine aAJ (Na (MI ⟨b,o+j,MH⟩)) ?_ (fun X hSw=>by go_simp);simp only[Nr,MZ,MT,MS,MJ,ML,MM]
      go_big_quiet_on
      go_big_quiet_want
      refine aAJ (MG x1 nl x2) ?_ (fun X hSw=>by have h:=HQ.out.1 X hSw;go_simp);simp only[Nr,MZ,MT,MS,MJ,ML,MM]
      go_big_quiet_on
      go_big_quiet_want
      refine aAJ (MG (MI ⟨b',o',MH⟩) t I) ?_ (fun X hSw=>by go_simp);simp only[Nr,MZ,MT,MS,MJ,ML,MM]
      go_big_quiet_on
      go_big_quiet_want
      refine aAJ (MF ME (j:Int)) ?_ (fun X hSw=>by go_simp);simp only[Nr,MZ,MT,MS,MJ,ML,MM]
      go_big_quiet_on
      go_big_quiet_want
      refine aAJ (Na (MI ⟨b',o'+j,MH⟩)) ?_ (fun X hSw=>by go_simp);simp only[Nr,MZ,MT,MS,MJ,ML,MM]
      go_big_quiet_on
      go_big_quiet_want
      refine aAJ (MG y1 nl y2) ?_ (fun X hSw=>by have h:=HQ.out.2.1 X hSw;go_simp);simp only[Nr,MZ,MT,MS,MJ,ML,MM]
      go_big_quiet_on
      go_big_quiet_want
      refine aAL (M3 Nw) 8 #[MG x1 nl x2,MG y1 nl y2] HQ.out.2.2.1 ?_;simp only[Nr,MZ,MT,MS,MJ,ML,MM]
      go_big_quiet_on
      go_big_quiet_want
      refine aAJ (M3 Nb) ?_ (fun X hSw=>by go_simp);simp only[Nr,MZ,MT,MS,MJ,ML,MM]
      go_big_quiet_on
      refine wpQuiet_nil ?_;intro X A;have HZ:M6 _:=HQ.out.2.2.2.1 X A;clear A;go_wp2
      go_roundw
      case rel=>exact⟨j+1,by simp,hlj,HZ.out⟩
      case measure=>simp[intOf];omega
     ·obtain rfl:j=t:=by omega
      have l6:¬(j:Int)<(j:Int):=by omega
      have HZ:M6 _:=H3.out.2.2.2.trans ((HF.out.1.trans (D.out.mono HF.out.1.size)).mono H3.out.2.2.2.size);go_wp2;go_ret;exact⟨rfl,HZ.out⟩
end Go.Proofs.YtgnclkcdnbfeeaaGreatDoor.Q
