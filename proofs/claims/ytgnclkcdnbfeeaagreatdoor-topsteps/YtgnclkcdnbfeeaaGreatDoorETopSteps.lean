/-
  TopSteps: its walk. Conditions: as each theorem says.
-/
import Derived.Test.YtgnclkcdnbfeeaaGreatDoorQ20
open Bool renaming false->Nb,true->Nw
open Go renaming Addr->Oc,Calls->Ni,Value->M7,World->MO,all_oneCell_toArray->OE,bodyPost_ret->Np,cell_of_row->MW,heap_alloc_new->M1,maxLen->NE,wpAnyH_done->PS,wpAnyH_ready->NN,wpList_load_mid->O3,wpList_store_mid->OW,wpQuiet_nil->Oy,wp_region_held_drew->O2,yieldsIf_load_mid->Pt
open Go.Act renaming put->Nr
open Go.AllReadyH renaming cons->NP,nil->NX
open Go.Calls renaming mono->Nd
open Go.Ending renaming returned->MN
open Go.IntKind renaming i64->ME
open Go.Obj renaming cells->MP
open Go.Operand renaming tmp->O6
open Go.Proofs.Tryz renaming prog->MK,underlying35->Ph,underlying55->Lv,underlying60->azj
open Go.RowKit renaming Below->MQ,Hid->M6
open Go.RowKit.Below renaming heap_setCell->MU,refl->MY
open Go.Value renaming agg->Ny,bool->M3,int->MF,nilIface->aAT,pointer->Na,slice->MG,tuple->Nv
open Go.World renaming frozen?->Ng,heap_setCells_other->N8
open List renaming getElem?_append_left->OJ,getElem?_eq_getElem->MR,getElem?_map->aAQ,getElem_cons_succ->MT,getElem_cons_zero->MS,getElem_mem->Nk,getElem_toArray->MZ,length_append->Ns,length_map->N0,length_singleton->OU,length_take->NH,map_append->OI,setIfInBounds_toArray->MJ,set_cons_succ->MM,set_cons_zero->ML,size_toArray->OQ,take_append_drop->Oo,take_succ_eq_append_getElem->M9,toList_toArray->NS
open Nat renaming le_of_lt->PJ,le_refl->MV,le_trans->Nm,lt_of_lt_of_le->M8,zero_le->Nx
open Option renaming none->MH,some->MI
open Or renaming inl->Nt,inr->NF
namespace Go.Proofs.YtgnclkcdnbfeeaaGreatDoor.Q
set_option linter.unusedVariables false
set_option linter.unusedSimpArgs false
set_option maxHeartbeats 16000000
set_option maxRecDepth 100000
open Go.RowKit
attribute [local go_sem ↓] Go.wp_at_zero Go.wp_at_succ
variable {E:List M7}{Y:MO}{d n:Nat}
section
variable {base:Nat}{w0 w w':MO}{g:Nat}{V:Vs}{U:Us}{G:Gt}
theorem aba.Gy(B:Nat)(w:MO):aba B w w:=⟨MV _,fun _ _ _=>rfl⟩
end
def azY(A:Gt)(es:List Ev):Py:=es.foldl Py.step ⟨[],A,[]⟩
theorem az1(A:Gt)(es:List Ev)(e:Ev):azY A (es++[e])=(azY A es).step e:=by
 unfold azY;rw[List.foldl_append];rfl
theorem az0(A:Gt)(es:List Ev):(azY A es).steps.length=es.length:=by
 unfold azY;rw[aqQ];show 0+_=_;omega
theorem azZ(A:Gt):∀(n:Nat) (es:List Ev),es.length=n->(azY A es).steps.map (·.ev)=es:=by
 intro n
 induction n with
 |zero=>intro es h;obtain rfl:=List.length_eq_zero_iff.1 h;rfl
 |succ n ih =>
  intro es h;obtain⟨l,e,rfl⟩:∃l e,es=l++[e]:=⟨es.dropLast,es.getLast (by intro q;rw[q]at h;cases h),(List.dropLast_concat_getLast _).symm⟩;rw[Ns,OU]at h;rw[az1];show((azY A l).steps++[_]).map (fun s:Sp=>s.ev)=_;rw[OI,ih l (by omega)];rfl
theorem Rn.aAN{A:Gt}{c:Cf}{P:Py}(h:Rn A c P):P=azY A (P.steps.map (·.ev)):=by
 obtain⟨e,q,_,_⟩:=h.built;have f:P=azY A e:=q;rw[f,azZ A _ e rfl]
abbrev Oo:=Option Oc×Nat×List Ou
abbrev aAs(x:Oo):List Value:=[MG x.1 x.2.2.length x.2.1]
theorem aAt(x:Oo):(aAs x).length=1:=rfl
theorem aAu(x:Oo):∀u∈aAs x,u.oneCell'=true:=by
 intro u c;rw[List.mem_singleton.1 c];rfl
structure aAL where
 u:Us
 p:Option Oc
 c:Nat
 xs:List Oo
def aAL.own(V:aAL)(g b:Nat):Prop:=b=g\/V.p.map (·.block)=MI b
def aAL.off(V:aAL)(base g b:Nat):Prop:=b<base\/V.own g b
structure Gs where
 last:Gt
 outs:List (List Ou)
def Gs.step(P:Gs)(e:Ev):Gs:=⟨(Xb P.last e).Ma,P.outs++[(Xb P.last e).out]⟩
structure az4(P:Gs):Prop where
 wm:Wm P.last
 out:P.last.out=[]
def aAM(V:aAL)(P:Gs):List Value:=(XR V.u P.last).toList++[MG V.p V.xs.length V.c]
structure az5(base:Nat)(w:MO)(g:Nat)(V:aAL)(P:Gs):Prop where
 box:w.heap[g]?=MI (MP (aAM V P).toArray 100 (0,0))
 low:base<=g
 eqs:V.xs.map (·.2.2)=P.outs
 rows:w.ownsRow base 61 1 (MG V.p V.xs.length V.c) V.xs.length (rv aAs V.xs)
 og:V.p.map (·.block)≠MI g
 last:XG (V.off base g) w fun X=>Xd X V.u P.last
 all:∀x∈V.xs,XG (V.off base g) w fun X=>Xw Z1 X (MG x.1 x.2.2.length x.2.1) x.2.2
structure az6(V V':aAL)(g:Nat)(w w':MO):Prop where
 os:w'.os=w.os
 tape:w'.tape=w.tape
 output:w'.output=w.output
 size:w.heap.size<=w'.heap.size
 block:∀b,b<w.heap.size->¬V.own g b->w'.heap[b]?=w.heap[b]?
 ext:∀b,V'.own g b->V.own g b\/w.heap.size<=b
section
variable {base:Nat}{w w' w1 w2:MO}{g:Nat}{V V' V1 V2:aAL}{P:Gs}
theorem az5.lt(h:az5 base w g V P):g<w.heap.size:=(Array.getElem?_eq_some_iff.1 h.box).1
theorem az6.F5(h:MQ w.heap.size w w1):az6 V V g w w1:=⟨h.os,h.tape,h.output,h.size,fun b hb _=>h.block b hb,fun _ h=>Nt h⟩
theorem az6.F0(h:az6 V V1 g w w1)(k:az6 V1 V2 g w1 w2):az6 V V2 g w w2 :=
 ⟨k.os.trans h.os,k.tape.trans h.tape,k.output.trans h.output,Nm h.size k.size,fun b hb hn=>(k.block b (M8 hb h.size) fun e=>by
  rcases h.ext b e with e|e
  ·exact hn e
  ·omega).trans (h.block b hb hn),fun b e=>by
  rcases k.ext b e with e|e
  ·exact h.ext b e
  ·exact NF (Nm h.size e)⟩
theorem az5.Mb(h:az5 base w g V P){b:Nat}(hb:V.own g b):base<=b/\b<w.heap.size:=by
 rcases hb with rfl|e
 ·exact⟨h.low,h.lt⟩
 ·exact h.rows.lt b (by rw[XV];exact e)
theorem az6.IT(h:az6 V V1 g w w1)(hP:az5 base w g V P)(hb:base<=w.heap.size):MQ base w w1 :=
 ⟨h.os,h.tape,h.output,h.size,fun b q=>h.block b (by omega) fun e=>by have:=(hP.Mb e).1;omega⟩
theorem az5.below(h:az5 base w g V P)(hb:MQ w.heap.size w w'):az5 base w' g V P :=
 ⟨(hb.block g h.lt).trans h.box,h.low,h.eqs,W8 h.rows fun b e=>hb.block b (h.rows.lt b e).2,h.og,h.last.below hb,fun q hq=>(h.all q hq).below hb⟩
theorem az5.Mo(h:az5 base w g V P):w.rangeAt g 0 (XR V.u P.last).toList:=fun j v hv=>by
 have f:j<26:=(List.getElem?_eq_some_iff.1 hv).1;rw[MW w g (0+j) _ _ (0,0) h.box];have e:aAM V P=(XR V.u P.last).toList++[MG V.p V.xs.length V.c]:=rfl;rw[List.getElem?_toArray,e,show 0+j=j by omega,OJ f];exact hv
theorem az5.Ip(h:az5 base w g V P):w.cell? ⟨g,26,MH⟩=MI (MG V.p V.xs.length V.c):=by
 rw[MW w g 26 _ _ (0,0) h.box];rfl
theorem az5.MC(h:az5 base w g V P)(U:Us)(G:Gt)(hG:XG (V.off base g) w fun X=>Xd X U G) :
  az5 base (w.setCells g 0 (XR U G).toList) g {V with u:=U} {P with last:=G}:=by
 have i:∀b,b<w.heap.size->b≠g->(w.setCells g 0 (XR U G).toList).heap[b]?=w.heap[b]?:=fun b f e=>N8 w g 0 _ f e
 have k:(w.setCells g 0 (XR U G).toList).heap.size=w.heap.size:=ac3 _ _ _ _;have j:∀ {p':MO->Prop},XG (V.off base g) w p'->XG (aAL.off {V with u:=U} base g) (w.setCells g 0 (XR U G).toList) p':=fun hA =>
  hA.step (by rw[k];exact MV _) (fun b q1 q2=>i b q1 fun e=>q2 (NF (Nt e))) fun b q1 e=>e
 refine⟨?_,h.low,h.eqs,W8 h.rows fun b e=>i b (h.rows.lt b e).2 fun e2=>h.og (by rw[<-XV,e,e2]),h.og,j hG,fun x hx=>j (h.all x hx)⟩;have f:w.heap[g]?=MI (MP (([]:List M7)++((XR V.u P.last).toList++[MG V.p V.xs.length V.c])).toArray 100 (0,0)):=h.box;exact anx 100 g (XR U G).toList [] (XR V.u P.last).toList [MG V.p V.xs.length V.c] w rfl f
theorem aAp{u:MO}(U:Us)(vs:List M7):az6 V {V with u:=U} g u (u.setCells g 0 vs):=by
 have c:=adF (B:=0) (w0:=u) (g:=g) (MY 0 u) (Nx _) 0 vs (Nx _);exact⟨c.os,c.tape,c.output,c.size,fun b q1 q2=>N8 u g 0 _ q1 fun e=>q2 (Nt e),fun b e=>Nt e⟩
theorem az5.MB(h:az5 base w g V P)(hs:w.heap.size<=w'.heap.size)(hb:∀b,b<w.heap.size->V.p.map (·.block)≠MI b->w'.heap[b]?=w.heap[b]?){p:Option Oc}{k:Nat}{x:Oo}
  (ho:w'.ownsRow base 61 1 (MG p (V.xs++[x]).length k) (V.xs++[x]).length (rv aAs (V.xs++[x]))) (hp:∀b,p.map (·.block)=MI b->V.p.map (·.block)=MI b\/w.heap.size<=b)
  (hq:XG (V.off base g) w fun X=>Xw Z1 X (MG x.1 x.2.2.length x.2.1) x.2.2) :
  az5 base (w'.setCell ⟨g,26,MH⟩ (MG p (V.xs++[x]).length k)) g {V with p:=p,c:=k,xs:=V.xs++[x]} {P with outs:=P.outs++[x.2.2]}:=by
 have q:=(hb g h.lt h.og).trans h.box;have l:∀b,p.map (·.block)=MI b->b≠g:=fun b e e2=>by
  subst e2;rcases hp b e with e|e
  ·exact h.og e
  ·have:=h.lt;omega
 have j:∀b,b≠g->(w'.setCell ⟨g,26,MH⟩ (MG p (V.xs++[x]).length k)).heap[b]?=w'.heap[b]?:=fun b e=>MU _ _ _ _ (fun e2=>e e2)
 have m:(w'.setCell ⟨g,26,MH⟩ (MG p (V.xs++[x]).length k)).heap.size=w'.heap.size:=by simp
 have i:∀ {p':MO->Prop},XG (V.off base g) w p'->XG (aAL.off {V with p:=p,c:=k,xs:=V.xs++[x]} base g) (w'.setCell ⟨g,26,MH⟩ (MG p (V.xs++[x]).length k)) p':=fun hA =>
  hA.step (by rw[m];exact hs) (fun b q1 q2=>(j b fun e=>q2 (NF (Nt e))).trans (hb b q1 fun e=>q2 (NF (NF e)))) fun b q1 e=>by
   rcases e with e|e|e
   ·exact Nt e
   ·exact NF (Nt e)
   ·exact(hp b e).elim (fun e=>NF (NF e)) fun e=>by omega
 refine⟨?_,h.low,by rw[OI,h.eqs];rfl,W8 ho fun b e=>j b (l b (by rw[<-XV];exact e)),fun e=>l g e rfl,i h.last,fun y f=>?_⟩
 ·exact YO q rfl
 ·rcases List.mem_append.1 f with f|f
  ·exact i (h.all y f)
  ·rw[List.mem_singleton.1 f];exact i hq
theorem aAm:(Tryz.prog.info? 61).map (fun i=>(i.zero,i.size,i.bytes))=MI (MI (MG MH 0 0),1,24):=by kernel_rfl
theorem aAw(h:az5 base w g V P)(hl:V.xs.length<=100000)(x:Oo)(hq:XG (V.off base g) w fun X=>Xw Z1 X (MG x.1 x.2.2.length x.2.1) x.2.2) :
  ∃q c' w5,(Builtin.append_ #[64,64] 64 #[MG V.p V.xs.length V.c,MG (MI ⟨w.heap.size,0,MH⟩) 1 1]).run MK (w.alloc (MP #[MG x.1 x.2.2.length x.2.1] 61))=.ok (MG (MI ⟨q,0,MH⟩) (V.xs.length+1) c') w5 /\
   (w5.cell? ⟨g,26,MH⟩=MI (MG V.p V.xs.length V.c)/\w5.frozen? ⟨g,26,MH⟩=Nb) /\
   az5 base (w5.setCell ⟨g,26,MH⟩ (MG (MI ⟨q,0,MH⟩) (V.xs.length+1) c')) g {V with p:=MI ⟨q,0,MH⟩,c:=c',xs:=V.xs++[x]} {P with outs:=P.outs++[x.2.2]} /\
   az6 V {V with p:=MI ⟨q,0,MH⟩,c:=c',xs:=V.xs++[x]} g w (w5.setCell ⟨g,26,MH⟩ (MG (MI ⟨q,0,MH⟩) (V.xs.length+1) c')):=by
 have s:base<=w.heap.size:=Nm h.low (PJ h.lt);obtain⟨q,c',w5,v,u,f,t⟩:=afC aAt aAu (by decide) Tryz.underlying64 aAm rfl (w:=w) (base:=base) h.rows s 64 x #[MG x.1 x.2.2.length x.2.1] rfl (by omega) (by unfold NE;omega);have i:∀b,b<w.heap.size->V.p.map (·.block)≠MI b->w5.heap[b]?=w.heap[b]?:=fun b hb hne=>f.block b hb (fun e=>hne (by rw[e,XV]))
 have l:=(i g h.lt h.og).trans h.box;have m:∀b,(MI (⟨q,0,MH⟩:Oc)).map (·.block)=MI b->V.p.map (·.block)=MI b\/w.heap.size<=b:=fun b e=>by
  cases e;rcases t with e|e
  ·exact Nt (by rw[<-XV _ V.xs.length V.c];exact e)
  ·exact NF (PJ e)
 have j:(V.xs++[x]).length=V.xs.length+1:=by simp
 have r:=h.MB (w':=w5) (p:=MI ⟨q,0,MH⟩) (k:=c') (x:=x) f.size i (by rw[j];exact u) m hq;rw[j]at r;refine⟨q,c',w5,v,⟨by rw[MW w5 g 26 _ _ (0,0) l];rfl,by simp[Ng,l]⟩,r,f.os,f.tape,f.output,by simp;exact f.size,fun b hb hn=>?_,fun b e=>?_⟩
 ·rw[MU _ _ _ _ (fun e=>hn (Nt e))]
  exact i b hb fun e=>hn (NF e)
 ·rcases e with e|e
  ·exact Nt (Nt e)
  ·exact(m b e).imp (fun e=>NF e) id
structure az3(base:Nat)(X:MO)(g:Nat)(V:aAL)(P:Gs)(h:Nat)(e:Ev):Prop where
 pat:az5 base X g V P
 evb:X.heap[h]?=MI (MP (aaV e).toArray 60 (0,0))
 blk:Xo X
theorem az3.on{X:MO}{h:Nat}{e:Ev}(k:az3 base X g V P h e)(hb:MQ X.heap.size X Y):az3 base Y g V P h e:=⟨k.pat.below hb,WO k.evb hb,k.blk.below hb⟩
theorem az3.ev{X:MO}{h:Nat}{e:Ev}(k:az3 base X g V P h e):X.rangeAt h 0 (aaV e):=agb k.evb
structure az2(base:Nat)(W u:MO)(g:Nat)(V:aAL)(P:Gs)(h:Nat)(e:Ev)(b:Nat)(M:List M7)(U:Us)(po:Option Oc)(co:Nat):Prop where
 dos:az3 base u g V P h e
 mem:M=(XR U (Xb P.last e)).toList
 box:u.heap[b]?=MI (MP M.toArray 55 (0,0))
 low:W.heap.size<=b
 bel:MQ W.heap.size W u
 ans:XG (V.off base g) u fun X=>Xd X U (Xb P.last e)/\Xw Z1 X (MG po (Xb P.last e).out.length co) (Xb P.last e).out
 lt:∀x,V.own g x->x<W.heap.size
 no:¬V.own g h
end
abbrev aAi:List Value:=[MF ME 0,MF ME 0,MF ME 0,MF ME 0,M3 Nb,MF ME 0,MF ME 0,MF ME 0]
theorem aAa(v:M7)(w:MO):Ni MK 32 #[aAT,v] w fun r w'=>r=MN (M3 Nb)/\w'=w:=by
 go_enter Tryz.func32,Tryz.ntmps32;go_wp2;go_ret;exact⟨rfl,rfl⟩
theorem aAz(w:MO):Ni MK 296 #[MF ME 0] w fun r w'=>r=MN aAT/\w'=w:=by
 go_enter Tryz.func296,Tryz.ntmps296;go_wp2;go_ret;exact⟨rfl,rfl⟩
theorem aAn:(Tryz.prog.info? 98).map (·.size)=MI 8:=by kernel_rfl
def az9(w:MO)(d b:Nat)(E:List M7)(X:MO):Prop:=X.rangeAt b 0 E/\b<X.heap.size/\(∃D:List M7,D.length=8/\X.heap[d]?=MI (MP D.toArray 60 (0,0)))/\MQ w.heap.size w X/\w.heap.size<=d/\d<b
theorem az9.below{w X:MO}{b:Nat}(h:az9 w d b E X)(hb:MQ X.heap.size X Y):az9 w d b E Y:=by
 obtain⟨i,e,⟨D,j,f⟩,c,k,l⟩:=h;exact⟨afr i (hb.block b e),M8 e hb.size,⟨D,j,WO f hb⟩,c.trans (hb.mono c.size),k,l⟩
theorem az9.F4{w X:MO}{b:Nat}(h:az9 w d b E X)(hE:E.length=8):az9 w d b E (X.setCells d 0 E)/\(X.setCells d 0 E).heap[d]?=MI (MP E.toArray 60 (0,0)):=by
 obtain⟨k,f,⟨D,l,j⟩,c,e,m⟩:=h;have i:(X.setCells d 0 E).heap[d]?=MI (MP E.toArray 60 (0,0)):=anq j (by rw[l,hE]);exact⟨⟨afr k (N8 X d 0 _ f (by omega)),by rw[ac3];exact f,⟨E,hE,i⟩,adF c e _ _ c.size,e,m⟩,i⟩
theorem az9.GB{w X:MO}{b:Nat}(h:az9 w d b E X)(hn:n=8):X.there d 0 n:=by
 obtain⟨_,_,⟨D,c,e⟩,_⟩:=h;rw[hn,<-c];exact aeU e
theorem aAE(e:Ev)(he:Yk e=0)(w:MO):Ni MK 295 #[agQ e] w fun r w'=>r=MN (Nv #[agQ e,aAT])/\MQ w.heap.size w w':=by
 obtain⟨E,y⟩:∃E,E=aaV e:=⟨_,rfl⟩;have HC:M6 (∀W:MO,Ni MK 21 #[Ny E.toArray] W fun r w'=>r=MN (MF ME 0)/\MQ W.heap.size W w'):=fun W=>by
  have h:=awv e W;rw[he]at h;rw[y];exact h
 have c:M6 (E.length=8/\E.toArray.all (·.oneCell')=Nw):=⟨by rw[y];rfl,by rw[y];exact OE (au7 e)⟩;rw[show agQ e=Ny E.toArray by rw[y]];clear y he;obtain⟨m,l⟩:∃X,X=w.alloc (MP E.toArray 98):=⟨_,rfl⟩;have r0:m.rangeAt w.heap.size 0 E:=by rw[l];exact agb (M1 _ _)
 have B0:MQ w.heap.size w m:=by rw[l];exact WQ w
 have l0:w.heap.size<m.heap.size:=by rw[l];simp
 obtain⟨j,B⟩:∃b,b=m.heap.size:=⟨_,rfl⟩;obtain⟨k,p⟩:∃X,X=m.alloc (MP aAi.toArray 60):=⟨_,rfl⟩;have J:k.heap[j]?=MI (MP aAi.toArray 60 (0,0)):=by rw[p,B];exact M1 _ _
 have B1:MQ m.heap.size m k:=by rw[p];exact WQ m
 obtain⟨f,A⟩:∃b,b=k.heap.size:=⟨_,rfl⟩;obtain⟨F,u⟩:∃X,X=k.alloc (MP aAi.toArray 60):=⟨_,rfl⟩;have N:F.heap[f]?=MI (MP aAi.toArray 60 (0,0)):=by rw[u,A];exact M1 _ _
 have B2:MQ k.heap.size k F:=by rw[u];exact WQ k
 obtain⟨t,z⟩:∃X,X=F.setCells f 0 E:=⟨_,rfl⟩;have L:t.heap[f]?=MI (MP E.toArray 60 (0,0)):=by rw[z];exact anq N (by rw[c.out.1];rfl)
 have B3:MQ k.heap.size k t:=by rw[z];exact adp B2 (by omega) _ _ B2.size
 have a5:MQ w.heap.size w t:=B0.trans ((B1.trans (B3.mono B1.size)).mono B0.size);have hT:az9 w j f E t:=⟨agb L,(Array.getElem?_eq_some_iff.1 L).1,⟨aAi,rfl,WO J B3⟩,a5,by omega,by rw[A];exact(Array.getElem?_eq_some_iff.1 J).1⟩;obtain⟨S,hS,a9,a7⟩:∃S:MO->Prop,(∀X,S X->az9 w j f E X)/\(∀X,az9 w j f E X->S X)/\S t.drew:=⟨az9 w j f E,fun _ h=>h,fun _ h=>h,hT.below (MY _ _).drew⟩;have q:M6 (_/\_):=⟨hS,a9⟩;have b0:M6 _:=a7;have a3:F.there f 0 E.toArray.size:=by rw[OQ,c.out.1];exact aeU N
 have s1:w.heap.size+1=j:=by rw[B,l];simp
 have H:j+1=f:=by rw[A,p,B];simp
 have a4:((w.alloc (MP E.toArray 98)).alloc (MP aAi.toArray 60)).rangeAt w.heap.size 0 E:=by rw[<-l,<-p];exact afr r0 (B1.block _ l0)
 have T:(((w.alloc (MP E.toArray 98)).alloc (MP aAi.toArray 60)).alloc (MP aAi.toArray 60)).there (w.heap.size+1+1) 0 E.toArray.size:=by rw[<-l,<-p,<-u,s1,H];exact a3
 have O:t=(((w.alloc (MP E.toArray 98)).alloc (MP aAi.toArray 60)).alloc (MP aAi.toArray 60)).setCells (w.heap.size+1+1) 0 E:=by rw[z,u,p,l,<-H,<-s1]
 have a6:E.toArray.size=8:=(show E.toArray.size=E.length from OQ).trans c.out.1;have s:M6 (_/\_/\_/\_/\_/\_):=⟨a4,T,O,s1,H,a6⟩;clear hS a9 a7 hT a5 B0 B1 B2 B3 r0 J N L l0 B A l p u z a3 s1 H a4 T O a6;go_enter Tryz.func295,Tryz.ntmps295
 go_wp2_with (first|((with_reducible refine O3 rfl 98 (O6 1) rfl w.heap.size 0 ?gx E _ ?gc Tryz.underlying98 ?gd ?gi ?_);(case gx=>rfl);(case gc=>exact s.out.1);(case gd=>rfl);(case gi=>rw[c.out.1];exact aAn))|((with_reducible refine OW rfl 60 (O6 4) (O6 5) rfl (w.heap.size+1+1) 0 E.toArray ?sx ?sy ?st ?si ?s1 ?_);(case sx=>rfl);(case sy=>rfl);(case st=>exact s.out.2.1);(case si=>rw[s.out.2.2.2.2.2];exact anz);(case s1=>exact c.out.2);rw[NS,<-s.out.2.2.1]))
 rw[s.out.2.2.2.1,s.out.2.2.2.2.1];clear s;refine O2 (S:=S) (by kernel_rfl) b0.out (fun hHeld=>?_);refine awW 0 (Ny E.toArray) hHeld ?_ (hy:=Pt (by rfl) 60 (O6 4) rfl f 0 rfl E _ (fun _ h=>(q.out.1 _ h).1) azj rfl (by rw[c.out.1];exact anz));simp only[Nr,MZ,MT,MS,MJ,ML,MM];refine awW 1 (Ny E.toArray) hHeld ?_ (hy:=Pt (by rfl) 60 (O6 4) rfl f 0 rfl E _ (fun _ h=>(q.out.1 _ h).1) azj rfl (by rw[c.out.1];exact anz));simp only[Nr,MZ,MT,MS,MJ,ML,MM];refine NN (rs:=[2]) (by kernel_rfl) (by simp) ?_;refine NP (o:=_) rfl (fun K hK=>?_) NX;go_simp;refine Nd (HC.out _) ?_;rintro r w5 ⟨rfl,Z⟩;have a0:S w5:=q.out.2 _ ((q.out.1 _ hHeld).below Z);clear Z
 go_wp2_with fail
 refine hK.out _ _ a0 (fun hHeld=>?_);clear hK K a0
 try simp only[Nr,MZ,MT,MS,MJ,ML,MM]
 refine NN (rs:=[3]) (by kernel_rfl) (by simp) ?_;refine NP (o:=_) rfl (fun K hK=>?_) NX;go_simp;refine Nd (aAz _) ?_;rintro r w6 ⟨rfl,rfl⟩
 go_wp2_with fail
 refine hK.out _ _ hHeld (fun hHeld=>?_);clear hK K
 try simp only[Nr,MZ,MT,MS,MJ,ML,MM]
 obtain⟨M,I⟩:∃M,M=w6.setCells j 0 E:=⟨_,rfl⟩;have D:=(q.out.1 _ hHeld).F4 c.out.1;rw[<-I]at D;have a8:S M:=q.out.2 _ D.1;refine NN (rs:=[4]) (by kernel_rfl) (by simp) ?_;refine afX (i:=4) (o:=_) (by rfl) (by rfl) 60 (O6 2) (O6 6) (by rfl) j 0 E.toArray (by rfl) (by rfl) ((q.out.1 _ hHeld).GB (by rw[OQ];exact c.out.1)) (by rw[OQ,c.out.1];exact anz) c.out.2 (by rw[NS,<-I];exact a8) ?_;rw[NS,<-I]
 try simp only[Nr,MZ,MT,MS,MJ,ML,MM]
 refine NN (rs:=[5]) (by kernel_rfl) (by simp) ?_;refine acK (i:=5) (o:=_) (by rfl) (by rfl) (O6 9) (by rfl) (aAT) (by rfl) a8 ?_
 try simp only[Nr,MZ,MT,MS,MJ,ML,MM]
 refine PS (by kernel_rfl) ?_ _;go_wp2;refine Np (v:=Nv #[Ny E.toArray,aAT]) (XT Tryz.results295 rfl rfl (akJ D.2 azj rfl (by rw[c.out.1];exact anz))) rfl ?_;exact⟨rfl,D.1.2.2.2.1⟩
theorem aAD{base:Nat}{w:MO}{g:Nat}{V:aAL}{P:Gs}(h:az5 base w g V P)(hr:az4 P)(hlen:V.xs.length<=4000)(hblk:Xo w)(hb:base<=w.heap.size)(e:Ev)(he:Yk e=0)(h7:e.kind=7->P.last.now+1<=1099511626776) :
  Ni MK 18 #[gP g,.iface 98 (agQ e)] w fun r w'=>r=MN (Nv #[])/\∃V',az5 base w' g V' (P.step e)/\az6 V V' g w w'/\V'.xs.length=V.xs.length+1:=by
 have H7:M6 (e.kind=7->P.last.now+1<=1099511626776):=h7;obtain⟨L,hL⟩:∃L,L=(XR V.u P.last).toList:=⟨_,rfl⟩;have HL:M6 _:=hL;have g0:M6 _:=aAE e he w;have a0:M6 (_/\_/\_/\_/\_/\_):=⟨h,hr,hlen,hblk,hb,he⟩;clear hL h hr hlen hblk hb he h7;go_enter Tryz.func18,Tryz.ntmps18
 go_wp2_with fail
 refine Nd g0.out ?_;rintro r w1 ⟨rfl,b9⟩;obtain⟨E,hE⟩:∃E,E=aaV e:=⟨_,rfl⟩;have e7:(w1.alloc (MP aAi.toArray 60)).heap[w1.heap.size]?=MI (MP aAi.toArray 60 (0,0)):=M1 _ _;obtain⟨W1,c5⟩:∃W1,W1=(w1.alloc (MP aAi.toArray 60)).setCells w1.heap.size 0 E:=⟨_,rfl⟩;have g4:W1.heap[w1.heap.size]?=MI (MP E.toArray 60 (0,0)):=by rw[c5];exact anq e7 (by rw[hE];rfl)
 have d9:MQ w1.heap.size w1 W1:=by rw[c5];exact adp (WQ w1) (MV _) _ _ (by simp)
 have g5:E.length=8:=by rw[hE];rfl
 have e6:E.toArray.size=8:=(show E.toArray.size=E.length from OQ).trans g5;have f3:(w1.alloc (MP aAi.toArray 60)).there w1.heap.size 0 E.toArray.size:=by rw[e6];exact afH e7
 have g3:E.toArray.all (·.oneCell')=true:=by rw[hE];exact OE (au7 e)
 obtain⟨W,hW⟩:∃W,W=W1.alloc (MP #[MF ME 0] 65):=⟨_,rfl⟩;have e1:MQ W1.heap.size W1 W:=by rw[hW];exact WQ W1
 obtain⟨D,e4⟩:∃D,D=w1.heap.size:=⟨_,rfl⟩;have d8:MQ w.heap.size w W:=(b9.trans (d9.mono b9.size)).trans (e1.mono (Nm b9.size d9.size));have g9:¬V.own g D:=fun e=>by have:=(a0.out.1.Mb e).2;have:=b9.size;omega
 have N:M6 (az3 base W g V P D e):=⟨a0.out.1.below d8,by rw[e4,<-hE];exact WO g4 e1,a0.out.2.2.2.1.below d8⟩;have A:M6 (az4 P/\V.xs.length<=4000/\Yk e=0/\MQ w.heap.size w W/\base<=w.heap.size/\¬V.own g D):=⟨a0.out.2.1,a0.out.2.2.1,a0.out.2.2.2.2.2,d8,a0.out.2.2.2.2.1,g9⟩;have H0:M6 (_/\_/\_/\_):=⟨f3,e6,g3,c5⟩;rw[show agQ e=Ny E.toArray by rw[hE]];clear e7 g4 d9 g5 e6 f3 g3 e1 d8 g9 hE c5 b9 a0 g0
 go_wp2_with ((with_reducible refine OW rfl 60 (O6 4) (O6 13) rfl w1.heap.size 0 E.toArray ?sx ?sy ?st ?si ?s1 ?_);(case sx=>rfl);(case sy=>rfl);(case st=>exact H0.out.1);(case si=>rw[H0.out.2.1];exact anz);(case s1=>exact H0.out.2.2.1);rw[NS,<-H0.out.2.2.2])
 refine Nd (aAa _ _) ?_;rintro r w2 ⟨rfl,rfl⟩
 go_wp2_with fail
 rw[<-hW,<-e4];clear hW e4 H0;apply aan
 ·intro f6
  obtain⟨W3,e5⟩:∃W3,W3=W.drew:=⟨_,rfl⟩;have f8:az3 base W3 g V P D e:=by rw[e5];exact N.out.on (MY _ _).drew
  obtain⟨S,hS,g7,i4⟩:∃S:MO->Prop,(∀X,S X->az3 base X g V P D e)/\(∀X,az3 base X g V P D e->S X)/\S W.drew:=⟨fun X=>az3 base X g V P D e,fun _ h=>h,fun _ h=>h,by rw[<-e5];exact f8⟩;have B:M6 (_/\_):=⟨hS,g7⟩;clear hS g7 f8 e5 W3;refine O2 (S:=S) (by kernel_rfl) i4 (fun hHeld=>?_);refine awW 0 (gP g) hHeld ?_;simp only[Nr,MZ,MT,MS,MJ,ML,MM];refine awW 1 (gP g) hHeld ?_;simp only[Nr,MZ,MT,MS,MJ,ML,MM];refine awW 2 (Na (MI ⟨g,0,MH⟩)) hHeld ?_;simp only[Nr,MZ,MT,MS,MJ,ML,MM];refine awW 3 (Ny L.toArray) hHeld ?_ (hy:=Pt (by rfl) 55 (O6 33) rfl g 0 rfl L _ (fun _ h=>by rw[HL.out];exact(B.out.1 _ h).pat.Mo) Lv rfl (by rw[HL.out];exact Z0));simp only[Nr,MZ,MT,MS,MJ,ML,MM];refine awW 4 (Ny (aaV e).toArray) hHeld ?_ (hy:=Pt (by rfl) 60 (O6 4) rfl D 0 rfl (aaV e) _ (fun _ h=>(B.out.1 _ h).ev) azj rfl anz);simp only[Nr,MZ,MT,MS,MJ,ML,MM];refine NN (rs:=[5,10]) (by kernel_rfl) (by simp) ?_;refine NP (o:=_) rfl (fun K hK=>?_) (NP (o:=_) rfl (fun K hK=>?_) NX)
  ·go_simp
   refine Nd (w:=W.drew) (by rw[HL.out];exact akh (B.out.1 _ hHeld).pat.last.now A.out.1.wm (B.out.1 _ hHeld).blk A.out.1.out e A.out.2.2.1 H7.out) ?_;rintro r l ⟨m,t,v,rfl,c0,F⟩;obtain⟨f,a9⟩:∃f,f=(XR m (Xb P.last e)).toList:=⟨_,rfl⟩;obtain⟨y,a8⟩:∃y,y=(Xb P.last e).out.length:=⟨_,rfl⟩;have s:M6 (_/\_/\_/\_):=⟨a9,c0,F,a8⟩;have b7:S l:=B.out.2 _ ((B.out.1 _ hHeld).on F);rw[show acN m (Xb P.last e)=Ny f.toArray by rw[a9],<-a8];clear c0 F a9 a8
   go_wp2_with fail
   refine hK.out _ _ b7 (fun hHeld5=>?_);clear hK K b7
   try simp only[Nr,MZ,MT,MS,MJ,ML,MM]
   refine awW 6 (Nv #[Ny f.toArray,MG t y v,MF ME 0]) hHeld5 ?_;simp only[Nr,MZ,MT,MS,MJ,ML,MM];refine awW 7 (Ny f.toArray) hHeld5 ?_;simp only[Nr,MZ,MT,MS,MJ,ML,MM];refine awW 8 (MG t y v) hHeld5 ?_;simp only[Nr,MZ,MT,MS,MJ,ML,MM];refine awW 9 (MF ME 0) hHeld5 ?_;simp only[Nr,MZ,MT,MS,MJ,ML,MM];refine NN (rs:=[10]) (by kernel_rfl) (by simp) ?_;refine NP (o:=_) rfl (fun K hK=>?_) NX;go_simp;obtain⟨Y,hY⟩:∃Y,Y=l.alloc (MP wz.toArray 55):=⟨_,rfl⟩;obtain⟨q,M⟩:∃q,q=l.heap.size:=⟨_,rfl⟩;have c7:MQ l.heap.size l Y:=by rw[hY];exact WQ l
   have a5:Y.heap[q]?=MI (MP wz.toArray 55 (0,0)):=by rw[hY,M];exact M1 _ _
   have F:MQ W.heap.size W l:=Za s.out.2.2.1;have T:MQ W.heap.size W Y:=F.trans (c7.mono F.size);have a3:W.heap.size<=q:=by rw[M];exact F.size
   have f9:S Y:=B.out.2 _ (N.out.on T);have c4:∀b,b<l.heap.size->Y.heap[b]?=l.heap[b]?:=fun b h=>c7.block b h
   have a4:=c7.size;have g8:l.heap.size<=q:=by rw[M];exact MV _
   rw[<-hY,<-M];clear hY M c7 F;refine hK.out _ _ f9 (fun hHeldY=>?_);clear hK K f9
   try simp only[Nr,MZ,MT,MS,MJ,ML,MM]
   have l5:f.length=26:=by rw[s.out.1];rfl
   have I:f.toArray.size=26:=(show f.toArray.size=f.length from OQ).trans l5;have Z:(Y).there q 0 f.toArray.size:=by rw[I];exact aeU a5
   obtain⟨k,z⟩:∃k,k=(Y).setCells q 0 f:=⟨_,rfl⟩;have c3:k.heap[q]?=MI (MP f.toArray 55 (0,0)):=by rw[z];exact anq a5 (by rw[l5];rfl)
   have a6:MQ W.heap.size W k:=by rw[z];exact adp T a3 _ _ T.size
   have a7:az3 base k g V P D e:=N.out.on a6;have J:S k:=B.out.2 _ a7;have b8:XG (V.off base g) k fun X=>Xd X m (Xb P.last e)/\Xw Z1 X (MG t (Xb P.last e).out.length v) (Xb P.last e).out:=anp (b5:=q) s.out.2.1 (by rw[z,ac3];exact a4) (fun b h1 h2=>by rw[z,N8 _ _ _ _ (M8 h1 a4) h2];try exact c4 b h1) (NF g8) (fun b hx=>hx.elim (fun e=>M8 e (Nm A.out.2.2.2.2.1 A.out.2.2.2.1.size)) fun e=>(N.out.pat.Mb e).2)
   have H:M6 (az2 base W k g V P D e q f m t v/\y=(Xb P.last e).out.length):=⟨⟨a7,s.out.1,c3,a3,a6,b8,fun x hx=>(N.out.pat.Mb hx).2,A.out.2.2.2.2.2⟩,s.out.2.2.2⟩;have b3:f.toArray.all (·.oneCell')=true:=by rw[s.out.1];exact ado _ _
   clear c3 a6 b8 T a5 a3 a7;refine NN (rs:=[11]) (by kernel_rfl) (by simp) ?_;refine afX (i:=11) (o:=_) (by rfl) (by rfl) 55 (O6 7) (O6 37) (by rfl) q 0 f.toArray (by rfl) (by rfl) Z (by rw[I];exact Z0) b3 (by rw[NS,<-z];exact J) ?_;rw[NS,<-z]
   try simp only[Nr,MZ,MT,MS,MJ,ML,MM]
   refine NN (rs:=[12]) (by kernel_rfl) (by simp) ?_;refine acK (i:=12) (o:=_) (by rfl) (by rfl) (O6 38) (by rfl) (MG t y v) (by rfl) J ?_
   try simp only[Nr,MZ,MT,MS,MJ,ML,MM]
   refine NN (rs:=[13]) (by kernel_rfl) (by simp) ?_;refine acK (i:=13) (o:=_) (by rfl) (by rfl) (O6 39) (by rfl) (MF ME 0) (by rfl) J ?_
   try simp only[Nr,MZ,MT,MS,MJ,ML,MM]
   refine PS (by kernel_rfl) ?_ _;clear Z I l5 s J z b3;clear hHeld5 hHeldY c4 a4 g8;revert H;revert k;revert y;revert v;revert t;revert m;revert f;revert q;exact f6.out
  ·go_simp
   obtain⟨X1,c9⟩:∃X1,X1=(W.alloc (MP wz.toArray 55)).drew:=⟨_,rfl⟩;have e3:MQ W.heap.size W X1:=by rw[c9];exact(WQ W).drew
   have i2:X1.heap[W.heap.size]?=MI (MP wz.toArray 55 (0,0)):=by rw[c9];exact M1 _ _
   have g6:S X1:=B.out.2 _ (N.out.on e3);obtain⟨q,M⟩:∃q,q=W.heap.size:=⟨_,rfl⟩;have O:M6 (_/\_/\_):=⟨e3,i2,M⟩;clear e3 i2;rw[<-c9,<-M];clear c9 M;refine hK.out _ _ g6 (fun hHeld=>?_);clear hK K g6
   try simp only[Nr,MZ,MT,MS,MJ,ML,MM]
   refine NN (rs:=[5]) (by kernel_rfl) (by simp) ?_;refine NP (o:=_) rfl (fun K hK=>?_) NX;go_simp;refine Nd (w:=X1) (by rw[HL.out];exact akh (B.out.1 _ hHeld).pat.last.now A.out.1.wm (B.out.1 _ hHeld).blk A.out.1.out e A.out.2.2.1 H7.out) ?_;rintro r l ⟨m,t,v,rfl,c0,F⟩;obtain⟨f,a9⟩:∃f,f=(XR m (Xb P.last e)).toList:=⟨_,rfl⟩;obtain⟨y,a8⟩:∃y,y=(Xb P.last e).out.length:=⟨_,rfl⟩;have s:M6 (_/\_/\_/\_):=⟨a9,c0,F,a8⟩;have b7:S l:=B.out.2 _ ((B.out.1 _ hHeld).on F);rw[show acN m (Xb P.last e)=Ny f.toArray by rw[a9],<-a8];clear c0 F a9 a8
   go_wp2_with fail
   refine hK.out _ _ b7 (fun hHeld5=>?_);clear hK K b7
   try simp only[Nr,MZ,MT,MS,MJ,ML,MM]
   refine awW 6 (Nv #[Ny f.toArray,MG t y v,MF ME 0]) hHeld5 ?_;simp only[Nr,MZ,MT,MS,MJ,ML,MM];refine awW 7 (Ny f.toArray) hHeld5 ?_;simp only[Nr,MZ,MT,MS,MJ,ML,MM];refine awW 8 (MG t y v) hHeld5 ?_;simp only[Nr,MZ,MT,MS,MJ,ML,MM];refine awW 9 (MF ME 0) hHeld5 ?_;simp only[Nr,MZ,MT,MS,MJ,ML,MM];have a5:l.heap[q]?=MI (MP wz.toArray 55 (0,0)):=by rw[O.out.2.2];exact WO O.out.2.1 s.out.2.2.1
   have T:MQ W.heap.size W l:=O.out.1.trans (s.out.2.2.1.mono O.out.1.size);have a3:W.heap.size<=q:=by rw[O.out.2.2];exact MV _
   have i0:q<X1.heap.size:=by rw[O.out.2.2];exact(Array.getElem?_eq_some_iff.1 O.out.2.1).1
   have c4:∀b,b<l.heap.size->l.heap[b]?=l.heap[b]?:=fun _ _=>rfl
   have a4:l.heap.size<=l.heap.size:=MV _;have h8:=O.out.1.size;have l5:f.length=26:=by rw[s.out.1];rfl
   have I:f.toArray.size=26:=(show f.toArray.size=f.length from OQ).trans l5;have Z:(l).there q 0 f.toArray.size:=by rw[I];exact aeU a5
   obtain⟨k,z⟩:∃k,k=(l).setCells q 0 f:=⟨_,rfl⟩;have c3:k.heap[q]?=MI (MP f.toArray 55 (0,0)):=by rw[z];exact anq a5 (by rw[l5];rfl)
   have a6:MQ W.heap.size W k:=by rw[z];exact adp T a3 _ _ T.size
   have a7:az3 base k g V P D e:=N.out.on a6;have J:S k:=B.out.2 _ a7;have b8:XG (V.off base g) k fun X=>Xd X m (Xb P.last e)/\Xw Z1 X (MG t (Xb P.last e).out.length v) (Xb P.last e).out:=anp (b5:=q) s.out.2.1 (by rw[z,ac3];exact a4) (fun b h1 h2=>by rw[z,N8 _ _ _ _ (M8 h1 a4) h2];try exact c4 b h1) (Nt i0) (fun b hx=>M8 (hx.elim (fun e=>M8 e (Nm A.out.2.2.2.2.1 A.out.2.2.2.1.size)) fun e=>(N.out.pat.Mb e).2) h8)
   have H:M6 (az2 base W k g V P D e q f m t v/\y=(Xb P.last e).out.length):=⟨⟨a7,s.out.1,c3,a3,a6,b8,fun x hx=>(N.out.pat.Mb hx).2,A.out.2.2.2.2.2⟩,s.out.2.2.2⟩;have b3:f.toArray.all (·.oneCell')=true:=by rw[s.out.1];exact ado _ _
   clear c3 a6 b8 T a5 a3 a7;refine NN (rs:=[11]) (by kernel_rfl) (by simp) ?_;refine afX (i:=11) (o:=_) (by rfl) (by rfl) 55 (O6 7) (O6 37) (by rfl) q 0 f.toArray (by rfl) (by rfl) Z (by rw[I];exact Z0) b3 (by rw[NS,<-z];exact J) ?_;rw[NS,<-z]
   try simp only[Nr,MZ,MT,MS,MJ,ML,MM]
   refine NN (rs:=[12]) (by kernel_rfl) (by simp) ?_;refine acK (i:=12) (o:=_) (by rfl) (by rfl) (O6 38) (by rfl) (MG t y v) (by rfl) J ?_
   try simp only[Nr,MZ,MT,MS,MJ,ML,MM]
   refine NN (rs:=[13]) (by kernel_rfl) (by simp) ?_;refine acK (i:=13) (o:=_) (by rfl) (by rfl) (O6 39) (by rfl) (MF ME 0) (by rfl) J ?_
   try simp only[Nr,MZ,MT,MS,MJ,ML,MM]
   refine PS (by kernel_rfl) ?_ _;clear Z I l5 s J z b3;clear hHeld5 i0 O c4 a4 h8;revert H;revert k;revert y;revert v;revert t;revert m;revert f;revert q;exact f6.out
 ·rintro q f m t v y k H
  have hM:f=(XR m (Xb P.last e).Ma).toList:=H.out.1.mem;have i5:=A.out.2.1;obtain⟨u9,b0⟩:∃u9,u9=k.setCells g 0 f:=⟨_,rfl⟩;have c6:az5 base u9 g {V with u:=m} {P with last:=(Xb P.last e).Ma}:=by
   rw[b0,hM];exact H.out.1.dos.pat.MC m (Xb P.last e).Ma fun X h1 h2=>(H.out.1.ans X h1 h2).1.Ma
  have e0:f.length=26:=by rw[hM];rfl
  have I:f.toArray.size=26:=(show f.toArray.size=f.length from OQ).trans e0;have f4:f.toArray.all (·.oneCell')=true:=by rw[hM];exact ado _ _
  have Z:k.there g 0 f.toArray.size:=by
   rw[I];exact fun j hj=>by
    have hb:=H.out.1.dos.pat.box;have i6:0+j<(aAM V P).toArray.size:=by show 0+j<27;omega
    exact⟨by rw[MW k g (0+j) _ _ (0,0) hb,Array.getElem?_eq_getElem i6];rfl,by simp[Ng,hb]⟩
  have i3:k.rangeAt q 0 f:=agb H.out.1.box;have f2:∀b,b<k.heap.size->b≠g->u9.heap[b]?=k.heap[b]?:=fun b hb e=>by rw[b0];exact N8 k g 0 _ hb e
  have g1:u9.heap.size=k.heap.size:=by rw[b0];exact ac3 _ _ _ _
  have f7:XG (aAL.off {V with u:=m} base g) u9 fun X=>Xw Z1 X (MG t (Xb P.last e).out.length v) (Xb P.last e).out:=by
   refine XG.step (S:=V.off base g) (fun X h1 h2=>(H.out.1.ans X h1 h2).2) (by rw[g1];exact MV _) (fun b q1 q2=>f2 b q1 fun e=>q2 (NF (Nt e))) fun b q1 e=>e
  have i1:az6 V {V with u:=m} g k u9:=by rw[b0];exact aAp m f
  obtain⟨q8,c8,w9,e8,⟨i8,j1⟩,e9,f5⟩:=aAw c6 (by show V.xs.length<=100000;omega) (t,v,(Xb P.last e).out) f7;have i9:=c6.Ip;have j0:=c6.lt;rw[<-H.out.2]at e8;have HR:M6 (_/\_/\_):=⟨e8,e9,f5⟩;have H5:M6 (_/\_/\_/\_/\_/\_):=⟨i1,e0,Z,I,f4,i3⟩;have i7:M6 _:=b0;clear i1 hM b0 c6 I f4 Z i3 f2 g1 f7 e8 e9 f5 e0 i5
  go_wp2_with (first|((with_reducible refine O3 rfl 55 (O6 7) rfl q 0 ?gx f _ ?gc Lv ?gd ?gi ?_);(case gx=>rfl);(case gc=>exact H5.out.2.2.2.2.2);(case gd=>rfl);(case gi=>rw[H5.out.2.1];exact Z0))|((with_reducible refine OW rfl 55 (O6 43) (O6 41) rfl g 0 f.toArray ?sx ?sy ?st ?si ?s1 ?_);(case sx=>rfl);(case sy=>rfl);(case st=>exact H5.out.2.2.1);(case si=>rw[H5.out.2.2.2.1];exact Z0);(case s1=>exact H5.out.2.2.2.2.1);rw[NS,<-i7.out])|(at_builtin;(with_reducible refine Z4 rfl _ _ 64 rfl (MG V.p V.xs.length V.c) (MG (MI ⟨u9.heap.size,0,MH⟩) 1 1) (MG (MI ⟨q8,0,MH⟩) (V.xs.length+1) c8) w9 ?hs ?hx ?hr ?_);(case hs=>rfl);(case hx=>rfl);(case hr=>exact HR.out.1)))
  go_end0
  refine⟨rfl,_,HR.out.2.1,((az6.F5 (A.out.2.2.2.1.trans (H.out.1.bel.mono A.out.2.2.2.1.size))).F0 H5.out.1).F0 HR.out.2.2,by simp⟩
abbrev aAq(U:Us)(p:Option Oc)(n:Nat):aAL:=⟨U,p,n,[]⟩
theorem aAc(U:Us)(G:Gt)(p:Option Oc)(n:Nat)(W:MO):(Instr.build 100 #[(0,Ny (XR U G)),(1,MG p 0 n)]).run MK W=.ok (Ny (aAM (aAq U p n) ⟨G,[]⟩).toArray) W:=by kernel_rfl
theorem aAo{w0 w w2 W:MO}{U:Us}{c:Cf}{g q:Nat}(h0:w0.heap.size<=w.heap.size)(hbox:W.heap[g]?=MI (MP (aAM (aAq U (MI ⟨q,0,MH⟩) n) ⟨Yb c,[]⟩).toArray 100 (0,0)))(hg:w0.heap.size<=g)(hrow:W.ownsRow w0.heap.size 61 1 (MG (MI ⟨q,0,MH⟩) 0 n) 0 [])(hqg:q≠g)
  (hA:∀X,aba w.heap.size w2 X->Xd X U (Yb c)) (hb:MQ w2.heap.size w2 W) (h2:w2.heap.size<=g) (h3:w2.heap.size<=q):az5 w0.heap.size W g (aAq U (MI ⟨q,0,MH⟩) n) ⟨Yb c,[]⟩:=by
 refine⟨hbox,hg,rfl,hrow,fun e=>hqg (by injection e),fun X h1 h4=>?_,fun x hx=>absurd hx List.not_mem_nil⟩;refine hA X ⟨Nm hb.size h1,fun b q1 q2=>?_⟩;rw[h4 b (M8 q2 hb.size),hb.block b q2];rintro(e|rfl|e)
 ·omega
 ·omega
 ·have f:q=b:=by injection e
  omega
theorem aAy{P:Program}{md:Region.Mode}{ops:Array Oper}{Q:Exit->Act->MO->Prop}{S:MO->Prop}{fuel:Nat}{listed:Array Bool}{a:Act}{w w1:MO}{i:Nat}{o:Oper}(ho:ops[i]?=MI o)(hg:o.guard=MH)(t:TypeId)(l k:Operand)(hop:o.op=.makeSlice t l k)
  (x z y:M7) (hl:a.eval l=x) (hk:a.eval k=z) (hr:(Instr.makeSlice t x z).run P w=.ok y w1) (hS:S w1)
  (h:wpAnyH P md ops Q S fuel (listed.setIfInBounds i Nw) (a.put o.dst y) w1):AllReadyH P md ops Q S fuel listed a w [i]:=by
 refine NP ho (fun K hK=>?_) NX;have c:Region.wanted o (yielded ops a.tmps)=true:=by simp[Region.wanted,hg]
 rw[Nh c];unfold Oper.wp execOp;simp only[hop,hl,hk,Sem.run_bind,Sem.run_pure,Result.andThen_ok,hr];exact hK.out _ _ hS (fun _=>h)
theorem aAr{w:MO}{base:Nat}(hb:base<=w.heap.size)(hn:n<=4000):∃w',(Instr.makeSlice 64 (MF ME 0) (MF ME (n:Int))).run MK w=.ok (MG (MI ⟨w.heap.size,0,MH⟩) 0 n) w'/\w'.ownsRow base 61 1 (MG (MI ⟨w.heap.size,0,MH⟩) 0 n) 0 []/\MQ w.heap.size w w'/\w.heap.size<w'.heap.size:=by
 obtain⟨i,l,e⟩:=Option.map_eq_some_iff.1 aAm;simp only[Prod.mk.injEq]at e;obtain⟨w',j,f,c⟩:=run_make_own w base 64 61 i _ 1 Tryz.underlying64 l e.1 e.2.1 ME ME n (by rw[e.2.2];omega) (by unfold NE;omega) hb;exact⟨w',j,f,⟨c.os,c.tape,c.output,c.size,fun k hk=>c.block k hk (by simp)⟩,(f.lt w.heap.size rfl).2⟩
theorem aAb(c:Cf)(hc:adg c)(n:Nat)(hn:n<=4000)(w:MO) :
  Ni MK 17 #[Ny (ac8 c).toArray,MF ME (n:Int)] w fun r w'=>∃g V,r=MN (Nv #[gP g,MF ME 0])/\az5 w.heap.size w' g V ⟨Yb c,[]⟩/\V.xs=[]/\MQ w.heap.size w w':=by
 obtain⟨K,s⟩:∃K:List M7,K=ac8 c:=⟨_,rfl⟩;have HB:M6 (∀W:MO,Ni MK 14 #[Ny K.toArray] W _):=fun W=>by rw[s];exact aor c hc W
 have c0:K.length=16:=by rw[s];rfl
 rw[<-s];obtain⟨v,N⟩:∃v,v=w.alloc (MP K.toArray 35):=⟨_,rfl⟩;have b9:MQ w.heap.size w v:=by rw[N];exact WQ w
 have y:M6 (_/\_/\_):=⟨c0,b9,hn⟩;have e0:¬(4000:Int)<(n:Int):=by omega
 clear s c0 b9 hc;go_enter Tryz.func17,Tryz.ntmps17
 go_wp2_with ((with_reducible refine O3 rfl 35 (O6 2) rfl w.heap.size 0 ?gx K _ ?gc Ph ?gd ?gi ?_);(case gx=>rfl);(case gc=>exact afW (M1 _ _));(case gd=>rfl);(case gi=>rw[y.out.1];exact ajj))
 rw[<-N];clear N;refine(HB.out v).mono ?_;rintro r w2 ⟨U,rfl,hM,c4⟩;obtain⟨M,t⟩:∃M,M=(XR U (Yb c)).toList:=⟨_,rfl⟩;rw[show acN U (Yb c)=Ny M.toArray by rw[t]];have H:M.length=26:=by rw[t];rfl
 have Z:M.toArray.size=26:=(show M.toArray.size=M.length from OQ).trans H;have b0:M.toArray.all (·.oneCell')=true:=by rw[t];exact ado _ _
 have a4:(w2.alloc (MP wz.toArray 55)).heap[w2.heap.size]?=MI (MP wz.toArray 55 (0,0)):=M1 _ _;obtain⟨f,D⟩:∃f,f=(w2.alloc (MP wz.toArray 55)).setCells w2.heap.size 0 M:=⟨_,rfl⟩;have b7:f.heap[w2.heap.size]?=MI (MP M.toArray 55 (0,0)):=by rw[D];exact afG a4 (by rw[H];rfl)
 have a7:MQ w2.heap.size w2 f:=by rw[D];exact adp (WQ w2) (MV _) _ _ (by simp)
 have a6:(w2.alloc (MP wz.toArray 55)).there w2.heap.size 0 M.toArray.size:=by rw[Z];exact afH a4
 have a8:=y.out.2.1.trans (c4.mono y.out.2.1.size);obtain⟨l,T⟩:∃b,b=w2.heap.size:=⟨_,rfl⟩;have u:M6 (_/\_/\_/\_/\_):=⟨H,Z,b0,t,(hM:∀X,aba v.heap.size w2 X->Xd X U (Yb c))⟩;have j:M6 (_/\_/\_/\_/\_/\_):=⟨a6,D,(show f.heap[l]?=MI (MP M.toArray 55 (0,0))by rw[T];exact b7),a7,a8,T⟩;clear t H Z b0 a4 D b7 a7 a6 a8 hM c4 T HB
 go_wp2_with ((with_reducible refine OW rfl 55 (O6 6) (O6 11) rfl w2.heap.size 0 M.toArray ?sx ?sy ?st ?si ?s1 ?_);(case sx=>rfl);(case sy=>rfl);(case st=>exact j.out.1);(case si=>rw[u.out.2.1];exact Z0);(case s1=>exact u.out.2.2.1);rw[NS,<-j.out.2.1])
 rw[<-j.out.2.2.2.2.2];obtain⟨S,hS,I⟩:∃S:MO->Prop,(∀X,S X->X.rangeAt l 0 M)/\(∀X,X.rangeAt l 0 M->S X):=⟨fun X=>X.rangeAt l 0 M,fun _ h=>h,fun _ h=>h⟩;have c3:l<f.heap.size:=(Array.getElem?_eq_some_iff.1 j.out.2.2.1).1;have O:f.rangeAt l 0 M:=agb j.out.2.2.1;have d9:S f.drew:=I _ O;have c6:∀X,MQ f.heap.size f X->S X:=fun X hX=>I _ (afr O (hX.block l c3))
 have a0:M6 (_/\_/\_):=⟨hS,I,c6⟩;clear hS I c6 O c3;refine O2 (S:=S) (by kernel_rfl) d9 (fun hHeld=>?_);refine awW 0 (Ny M.toArray) hHeld ?_ (hy:=Pt (by rfl) 55 (O6 6) rfl l 0 rfl M _ (fun _ h=>a0.out.1 _ h) Lv rfl (by rw[u.out.1];exact Z0));simp only[Nr,MZ,MT,MS,MJ,ML,MM];refine awW 1 (MF ME (n:Int)) hHeld ?_;simp only[Nr,MZ,MT,MS,MJ,ML,MM];obtain⟨m,b3,B,k,b8⟩:=aAr (w:=f.drew) (base:=w.heap.size) (Nm j.out.2.2.2.2.1.size j.out.2.2.2.1.size) y.out.2.2;have k:MQ f.heap.size f m:=Za k;have a5:S m:=a0.out.2.2 _ k;refine NN (rs:=[2]) (by kernel_rfl) (by simp) ?_;refine aAy (i:=2) (o:=_) (by rfl) (by rfl) 64 (.const (MF ME 0)) (O6 19) (by rfl) _ _ _ (by rfl) (by rfl) b3 a5 ?_
 try simp only[Nr,MZ,MT,MS,MJ,ML,MM]
 obtain⟨q,hq⟩:∃q,q=f.drew.heap.size:=⟨_,rfl⟩;rw[<-hq]at B b8⊢;obtain⟨R,hR⟩:∃R,R=aAM (aAq U (MI ⟨q,0,MH⟩) n) ⟨Yb c,[]⟩:=⟨_,rfl⟩;have J:∀X,(Instr.build 100 #[(0,Ny M.toArray),(1,MG (MI ⟨q,0,MH⟩) 0 n)]).run MK X=.ok (Ny R.toArray) X:=fun X=>by rw[u.out.2.2.2.1,hR];exact aAc U (Yb c) _ n X
 refine awW 3 (Ny R.toArray) a5 ?_ (hy:=avx (by rfl) 100 #[(0,O6 18),(1,O6 20)] rfl (Ny R.toArray) (fun X=>by simp only[List.map_toArray,List.map_cons,List.map_nil];exact J X));simp only[Nr,MZ,MT,MS,MJ,ML,MM];have HR:M6 (_/\_/\_):=⟨hR,hq,J⟩;clear hR hq J;refine NN (rs:=[4]) (by kernel_rfl) (by simp) ?_;refine NP (o:=_) rfl (fun K s=>?_) NX;go_simp;obtain⟨g,hg⟩:∃g,g=m.heap.size:=⟨_,rfl⟩;obtain⟨p,F⟩:∃p,p=m.alloc (MP R.toArray 100):=⟨_,rfl⟩;have A:MQ m.heap.size m p:=by rw[F];exact WQ m
 have z:S p:=a0.out.2.2 _ (k.trans (A.mono k.size));have a9:p.heap[g]?=MI (MP R.toArray 100 (0,0)):=by rw[F,hg];exact M1 _ _
 rw[<-F,<-hg];refine s.out _ _ z (fun hHeld5=>?_);clear s K
 try simp only[Nr,MZ,MT,MS,MJ,ML,MM]
 refine NN (rs:=[5]) (by kernel_rfl) (by simp) ?_;refine acK (i:=5) (o:=_) (by rfl) (by rfl) (O6 22) (by rfl) (gP g) (by rfl) z ?_
 try simp only[Nr,MZ,MT,MS,MJ,ML,MM]
 refine NN (rs:=[6]) (by kernel_rfl) (by simp) ?_;refine acK (i:=6) (o:=_) (by rfl) (by rfl) (.const (MF ME 0)) (by rfl) (MF ME 0) (by rfl) z ?_
 try simp only[Nr,MZ,MT,MS,MJ,ML,MM]
 refine PS (by kernel_rfl) ?_ _;have a3:=j.out.2.2.2.1.trans (k.mono j.out.2.2.2.1.size);have L:=a3.trans (A.mono a3.size);have c7:f.heap.size=q:=HR.out.2.1.symm;have c5:=j.out.2.2.2.2.1.size;have c9:=j.out.2.2.2.1.size;have d8:=k.size;have HF:M6 (az5 w.heap.size p g (aAq U (MI ⟨q,0,MH⟩) n) ⟨Yb c,[]⟩/\MQ w.heap.size w p):=⟨aAo y.out.2.1.size (by rw[<-HR.out.1];exact a9) (by omega) (W8 B fun b e=>A.block b (B.lt b e).2) (by omega) u.out.2.2.2.2 L (by omega) (by omega),j.out.2.2.2.2.1.trans (L.mono c5)⟩;clear a9 z hHeld5 L a3 F hg A k a5 b3 B b8 c7 c5 c9 d8 hHeld HR;go_wp2
 go_ret2
 exact⟨g,_,rfl,HF.out.1,rfl,HF.out.2⟩
theorem aAB{c:Cf}(hc:adg c):∀(n:Nat) (es:List Ev),es.length=n->n<=1000000->(∀e∈es,Yk e=0)->XU c (azY (Yb c) es):=by
 intro n
 induction n with
 |zero=>intro es h _ _;obtain rfl:=List.length_eq_zero_iff.1 h;exact avq hc
 |succ n ih =>
  intro es h i f;obtain⟨l,e,rfl⟩:∃l e,es=l++[e]:=⟨es.dropLast,es.getLast (by intro q;rw[q]at h;cases h),(List.dropLast_concat_getLast _).symm⟩;rw[Ns,OU]at h;rw[az1];exact(ih l (by omega) (by omega) fun x hx=>f x (List.mem_append_left _ hx)).step (f e (by simp)) (by rw[az0];omega)
def aAj(P:Py):Gs:=⟨P.last,P.steps.map (·.out)⟩
theorem aAk(P:Py)(e:Ev):aAj (P.step e)=(aAj P).step e:=by
 show(⟨(Xb P.last e).Ma,(P.steps++[_]).map (fun s:Sp=>s.out)⟩:Gs)=⟨_,P.steps.map (·.out)++[_]⟩;rw[OI];rfl
structure az7(W:MO)(U:Us)(po:Option Oc)(co:Nat)(xs:List Oo)(P:Gs):Prop where
 eqs:xs.map (·.2.2)=P.outs
 rows:Xw aAs W (MG po xs.length co) xs
 all:∀x∈xs,Xw Z1 W (MG x.1 x.2.2.length x.2.1) x.2.2
 wat:Xd W U P.last
theorem az7.below{W:MO}{U:Us}{po:Option Oc}{co:Nat}{xs:List Oo}{P:Gs}(h:az7 W U po co xs P)(hb:MQ W.heap.size W Y):az7 Y U po co xs P :=
 ⟨h.eqs,h.rows.below hb,fun x hx=>(h.all x hx).below hb,h.wat.below hb⟩
theorem az5.aAO{base:Nat}{w u:MO}{g:Nat}{V:aAL}{P:Gs}(h:az5 base w g V P)(hs:w.heap.size<=u.heap.size)(hk:∀b,base<=b->b<w.heap.size->u.heap[b]?=w.heap[b]?):az7 u V.u V.p V.c V.xs P:=by
 have f:∀b,b<w.heap.size->¬V.off base g b->u.heap[b]?=w.heap[b]?:=fun b q1 q2=>hk b (by
  rcases Nat.lt_or_ge b base with e|e
  ·exact absurd (Nt e) q2
  ·exact e) q1
 exact⟨h.eqs,abw (W8 h.rows fun b e=>hk b (h.rows.lt b e).1 (h.rows.lt b e).2),fun x hx=>h.all x hx u hs f,h.last u hs f⟩
theorem aAe(e:Ev):(aaV e).length=8:=rfl
theorem aAA{c:Cf}(hc:adg c)(es:List Ev)(hes:∀e∈es,Yk e=0)(hl:es.length<=4000){p:Option Oc}{cc:Nat}{w:MO}(hrow:Xw aaV w (MG p es.length cc) es)(hblk:Xo w) :
  Ni MK 7 #[Ny (ac8 c).toArray,MG p es.length cc] w fun r w'=>∃U po co xs,r=MN (Nv #[Ny (XR U (azY (Yb c) es).last),MG po xs.length co,MF ME 0])/\(∀X,aba w.heap.size w' X->az7 X U po co xs (aAj (azY (Yb c) es)))/\MQ w.heap.size w w':=by
 obtain⟨K,hK⟩:∃K:List M7,K=ac8 c:=⟨_,rfl⟩;obtain⟨n,hn⟩:∃n,n=es.length:=⟨_,rfl⟩;have b0:n<=4000:=by omega
 have HB:M6 (∀W:MO,Ni MK 17 #[Ny K.toArray,MF ME (n:Int)] W _):=fun W=>by rw[hK];exact aAb c hc n b0 W
 have HL:M6 (K.length=16):=by show K.length=16;rw[hK];rfl
 rw[<-hK,<-hn];obtain⟨y,z⟩:∃X,X=w.alloc (MP K.toArray 35):=⟨_,rfl⟩;have B0:MQ w.heap.size w y:=by rw[z];exact WQ w
 have r0:y.rangeAt w.heap.size 0 K:=by rw[z];exact agb (M1 _ _)
 have l0:w.heap.size<y.heap.size:=by rw[z];simp
 obtain⟨q,a5⟩:∃b,b=y.heap.size:=⟨_,rfl⟩;have s4:w.heap.size+1=q:=by rw[a5,z];simp
 obtain⟨m,F⟩:∃m,m=y.alloc (MP wz.toArray 55):=⟨_,rfl⟩;have B1:MQ y.heap.size y m:=by rw[F];exact WQ y
 have r4:m.heap[q]?=MI (MP wz.toArray 55 (0,0)):=by rw[F,a5];exact M1 _ _
 have e1:MQ w.heap.size w m:=B0.trans (B1.mono B0.size);have f2:((w.alloc (MP K.toArray 35)).alloc (MP wz.toArray 55)).rangeAt w.heap.size 0 K:=by rw[<-z,<-F];exact afr r0 (B1.block _ l0)
 have c0:m=(w.alloc (MP K.toArray 35)).alloc (MP wz.toArray 55):=by rw[F,z]
 have l:M6 (_/\_/\_/\_/\_/\_/\_/\_):=⟨hc,hes,hn,hrow,hblk,e1,r4,b0⟩;have H0:M6 (_/\_/\_):=⟨f2,c0,s4⟩;have g3:M6 (w.heap.size<=q):=by show w.heap.size<=q;omega
 have g4:n<=9223372036854775807:=by omega
 clear z B0 r0 l0 a5 s4 F B1 r4 e1 f2 c0 hK hc hes hl hrow hblk hn b0;go_enter Tryz.func7,Tryz.ntmps7
 go_wp2_with ((with_reducible refine O3 rfl 35 (O6 2) rfl w.heap.size 0 ?gx K _ ?gc Ph ?gd ?gi ?_);(case gx=>rfl);(case gc=>exact H0.out.1);(case gd=>rfl);(case gi=>rw[HL.out];exact ajj))
 rw[<-H0.out.2.1,H0.out.2.2];refine(HB.out m).mono ?_;rintro r w1 ⟨g,V,rfl,D,f4,e4⟩;have H1:M6 (az5 m.heap.size w1 g V (aAj (azY (Yb c) (es.take 0)))/\V.xs.length=0/\MQ m.heap.size m w1):=⟨by rw[List.take_zero];exact D,by rw[f4];rfl,e4⟩;clear D f4 e4 HB H0
 go_wp2_with fail
 go_loopw [24] (fun i wr=>∃(k:Nat) (V:aAL),i=MF ME (k:Int)/\k<=n/\M6 (az5 m.heap.size wr g V (aAj (azY (Yb c) (es.take k)))/\V.xs.length=k/\MQ m.heap.size m wr)) (fun i _=>n-(intOf i).toNat)
 case atStart=>exact⟨0,V,rfl,Nx _,H1⟩
 case round =>
  obtain⟨k,V,rfl,hk,f⟩:=hrel
  by_cases hlt:k<n
  ·have f9:(k:Int)<(n:Int):=by omega
   have T:k<es.length:=by rw[<-l.out.2.2.1];exact hlt
   have L:MQ w.heap.size w wr:=l.out.2.2.2.2.2.1.trans (f.out.2.2.mono l.out.2.2.2.2.2.1.size);obtain⟨a,g6,hv,_,g1,hp⟩:=Xw.F6 aAe (l.out.2.2.2.1.below L);injection hv with ha hn2 hcap;obtain⟨bo,oo,e8,g5,b8⟩:=hp k T;rw[<-ha]at e8;have a6:Yk es[k]=0:=l.out.2.1 _ (Nk T);have B:es.take (k+1)=es.take k++[es[k]]:=M9 T;obtain⟨e,he⟩:∃e,e=es[k]:=⟨_,rfl⟩;rw[<-he]at a6 B;obtain⟨E,I⟩:∃E,E=aaV e:=⟨_,rfl⟩;have N:E.length=8:=by rw[I];rfl
   have e5:wr.rangeAt bo (oo+k*8) E:=fun j v hv=>by
    have hj:j<8:=by have:=(List.getElem?_eq_some_iff.1 hv).1;omega
    rw[b8 j hj,<-he,<-I];exact hv
   have f6:E.toArray.all (·.oneCell')=true:=by rw[I];exact OE (au7 e)
   have a9:E.toArray.size=8:=(show E.toArray.size=E.length from OQ).trans N;have hZ:(wr.alloc (MP aAi.toArray 60)).heap[wr.heap.size]?=MI (MP aAi.toArray 60 (0,0)):=M1 _ _;obtain⟨Y,hY⟩:∃Y,Y=(wr.alloc (MP aAi.toArray 60)).setCells wr.heap.size 0 E:=⟨_,rfl⟩;have e6:Y.heap[wr.heap.size]?=MI (MP E.toArray 60 (0,0)):=by rw[hY];exact anq hZ (by rw[N];rfl)
   have H:MQ wr.heap.size wr Y:=by rw[hY];exact adp (WQ wr) (MV _) _ _ (by simp)
   have J:(wr.alloc (MP aAi.toArray 60)).there wr.heap.size 0 E.toArray.size:=by rw[a9];exact afH hZ
   have hR:=aAB l.out.1 _ (es.take k) rfl (by rw[NH];have:=l.out.2.2.2.2.2.2.2;omega) fun x hx=>l.out.2.1 x (List.mem_of_mem_take hx)
   have hT:=aAD (f.out.1.below H) ⟨hR.wm,hR.out⟩ (by have:=f.out.2.1;have:=l.out.2.2.2.2.2.2.2;omega) (l.out.2.2.2.2.1.below (L.trans (H.mono L.size))) (Nm f.out.2.2.size H.size) e a6 (fun _=>by
    have h1:=hR.now;rw[az0,NH]at h1;have:=l.out.2.2.2.2.2.2.2;show(azY (Yb c) (es.take k)).last.now+1<=1099511626776;omega)
   rw[show agQ e=Ny E.toArray by rw[I]]at hT;have HT:M6 _:=hT;have t:M6 (_/\_/\_/\_/\_/\_/\_/\_):=⟨e5,N,f6,a9,J,hY,agb e6,H⟩;have HK:M6 _:=B;clear ha hn2 hcap b8 hp T L g1 a6 B he I e5 N f6 a9 hZ hY e6 H J hR hT;subst e8
   go_wp2_with (first|((with_reducible refine O3 rfl 60 (O6 26) rfl bo (oo+k*8) ?gx E _ ?gc azj ?gd ?gi ?_);(case gx=>rfl);(case gc=>exact t.out.1);(case gd=>rfl);(case gi=>rw[t.out.2.1];exact anz))|((with_reducible refine OW rfl 60 (O6 10) (O6 27) rfl wr.heap.size 0 E.toArray ?sx ?sy ?st ?si ?s1 ?_);(case sx=>rfl);(case sy=>rfl);(case st=>exact t.out.2.2.2.2.1);(case si=>rw[t.out.2.2.2.1];exact anz);(case s1=>exact t.out.2.2.1);rw[NS,<-t.out.2.2.2.2.2.1])|((with_reducible refine O3 rfl 60 (O6 10) rfl wr.heap.size 0 ?gx E _ ?gc azj ?gd ?gi ?_);(case gx=>rfl);(case gc=>exact t.out.2.2.2.2.2.2.1);(case gd=>rfl);(case gi=>rw[t.out.2.1];exact anz)))
   refine Nd HT.out ?_;rintro r w5 ⟨rfl,V5,e9,e3,e0⟩;have H5:M6 (_/\_/\_):=⟨e9,e0,(f.out.2.2.trans (t.out.2.2.2.2.2.2.2.mono f.out.2.2.size)).trans ((e3.IT (f.out.1.below t.out.2.2.2.2.2.2.2) (Nm f.out.2.2.size t.out.2.2.2.2.2.2.2.size)))⟩;clear e9 e3 e0 HT
   go_wp2_with fail
   go_roundw
   case rel=>exact⟨k+1,V5,by simp,hlt,⟨by rw[HK.out,az1,aAk];exact H5.out.1,by rw[H5.out.2.1,f.out.2.1],H5.out.2.2⟩⟩
   case measure=>simp[intOf];omega
  ·obtain rfl:k=n:=by omega
   have f9:¬(k:Int)<(k:Int):=by omega
   have B:es.take k=es:=List.take_of_length_le (Nat.le_of_eq l.out.2.2.1.symm);rw[B]at f;obtain⟨P,D⟩:∃P,P=azY (Yb c) es:=⟨_,rfl⟩;rw[<-D]at f;obtain⟨M,hM⟩:∃M,M=(XR V.u P.last).toList:=⟨_,rfl⟩;have b7:M.toArray=XR V.u P.last:=by rw[hM]
   have Z:M.length=26:=by rw[hM];rfl
   have c3:M.toArray.all (·.oneCell')=true:=by rw[b7];exact ado _ _
   have hD:=f.out.1.below (MY wr.heap.size wr).drew;have a7:wr.drew.rangeAt g 0 M:=by rw[hM];exact hD.Mo
   have a4:wr.drew.cell? ⟨g,26,MH⟩=MI (MG V.p k V.c):=by rw[<-f.out.2.1];exact hD.Ip
   have a0:=f.out.1.lt;have f7:=f.out.1.low;have c6:q<m.heap.size:=(Array.getElem?_eq_some_iff.1 l.out.2.2.2.2.2.2.1).1;have a8:wr.drew.heap[q]?=MI (MP wz.toArray 55 (0,0)):=(f.out.2.2.block q c6).trans l.out.2.2.2.2.2.2.1;have J:wr.drew.there q 0 M.toArray.size:=by rw[OQ,Z];exact afH a8
   obtain⟨s,A⟩:∃s,s=wr.drew.setCells q 0 M:=⟨_,rfl⟩;have d8:s.heap[q]?=MI (MP M.toArray 55 (0,0)):=by rw[A];exact afG a8 (by rw[Z];rfl)
   have O:∀b,b<wr.heap.size->b≠q->s.heap[b]?=wr.heap[b]?:=fun b q1 q2=>by rw[A];exact N8 wr.drew _ _ _ q1 q2
   have a3:wr.heap.size<=s.heap.size:=by rw[A,ac3];exact MV _
   have b9:s.rangeAt g 0 M:=afr a7 (O g a0 (by omega));have c5:s.cell? ⟨g,26,MH⟩=MI (MG V.p k V.c):=(World.cell?_of_block (O g a0 (by omega))).trans a4;have c7:=g3.out;have c4:MQ w.heap.size w s:=by
    rw[A];have hq:=l.out.2.2.2.2.2.1.trans (f.out.2.2.mono l.out.2.2.2.2.2.1.size);exact adF hq.drew c7 _ _ hq.size
   have g0:=l.out.2.2.2.2.2.1.size;have c9:∀X,aba w.heap.size s X->az7 X V.u V.p V.c V.xs (aAj P):=fun X hX=>f.out.1.aAO (Nm a3 hX.1) fun b q1 q2=>(hX.2 b (by omega) (M8 q2 a3)).trans (O b q2 (by omega))
   have e7:M6 (wr.drew.rangeAt g 0 M/\wr.drew.cell? ⟨g,26,MH⟩=MI (MG V.p k V.c)):=⟨a7,a4⟩;have d9:M6 (s.rangeAt g 0 M/\s.cell? ⟨g,26,MH⟩=MI (MG V.p k V.c)):=⟨b9,c5⟩;have HQ:M6 (_/\_/\_/\_):=⟨c9,c4,d8,b7⟩;have HM:M6 _:=Z;have HO:M6 (_/\_):=⟨c3,D⟩;have f5:=f.out.2.1;have HX:M6 _:=f5;clear B hM b7 Z hD a7 a4 a0 f7 c6 a8 d8 O a3 b9 c5 c7 c4 c9 c3 D f5 g0
   go_wp2_with fail
   obtain⟨S,hS,f8,b3⟩:∃S:MO->Prop,(∀X,S X->X.rangeAt g 0 M/\X.cell? ⟨g,26,MH⟩=MI (MG V.p k V.c))/\S wr.drew/\S s:=⟨fun X=>X.rangeAt g 0 M/\X.cell? ⟨g,26,MH⟩=MI (MG V.p k V.c),fun _ h=>h,e7.out,d9.out⟩;have f3:M6 _:=hS;clear hS e7 d9;refine O2 (S:=S) (by kernel_rfl) f8 (fun hHeld=>?_);refine awW 0 (gP g) hHeld ?_;simp only[Nr,MZ,MT,MS,MJ,ML,MM];refine awW 1 (gP g) hHeld ?_;simp only[Nr,MZ,MT,MS,MJ,ML,MM];refine awW 2 (Na (MI ⟨g,0,MH⟩)) hHeld ?_;simp only[Nr,MZ,MT,MS,MJ,ML,MM];refine awW 3 (Ny M.toArray) hHeld ?_ (hy:=(Pt (by rfl) 55 (O6 35) rfl g 0 rfl M _ (fun _ h=>(f3.out _ h).1) Lv rfl (by rw[HM.out];exact Z0)));simp only[Nr,MZ,MT,MS,MJ,ML,MM];refine awW 4 (gP g) hHeld ?_;simp only[Nr,MZ,MT,MS,MJ,ML,MM];refine awW 5 (gP g) hHeld ?_;simp only[Nr,MZ,MT,MS,MJ,ML,MM];refine awW 6 (Na (MI ⟨g,26,MH⟩)) hHeld ?_;simp only[Nr,MZ,MT,MS,MJ,ML,MM];refine awW 7 (MG V.p k V.c) hHeld ?_ (hy:=(Nt ⟨by rfl,fun X hSw=>by have s1:=(f3.out X hSw).2;go_simp⟩));simp only[Nr,MZ,MT,MS,MJ,ML,MM];refine NN (rs:=[8]) (by kernel_rfl) (by simp) ?_;refine afX (i:=8) (o:=_) (by rfl) (by rfl) 55 (O6 4) (O6 36) (by rfl) q 0 M.toArray (by rfl) (by rfl) J (by rw[OQ,HM.out];exact Z0) HO.out.1 (by rw[NS,<-A];exact b3) ?_;rw[NS,<-A]
   try simp only[Nr,MZ,MT,MS,MJ,ML,MM]
   refine NN (rs:=[9]) (by kernel_rfl) (by simp) ?_;refine acK (i:=9) (o:=_) (by rfl) (by rfl) (O6 40) (by rfl) (MG V.p k V.c) (by rfl) b3 ?_
   try simp only[Nr,MZ,MT,MS,MJ,ML,MM]
   refine NN (rs:=[10]) (by kernel_rfl) (by simp) ?_;refine acK (i:=10) (o:=_) (by rfl) (by rfl) (.const (MF ME 0)) (by rfl) (MF ME 0) (by rfl) b3 ?_
   try simp only[Nr,MZ,MT,MS,MJ,ML,MM]
   refine PS (by kernel_rfl) ?_ _;go_wp2;refine Np (v:=Nv #[Ny M.toArray,MG V.p k V.c,MF ME 0]) (akY Tryz.results7 rfl rfl rfl (akJ HQ.out.2.2.1 Lv rfl (by rw[HM.out];exact Z0))) rfl ?_;refine⟨V.u,V.p,V.c,V.xs,?_,by rw[<-HO.out.2];exact HQ.out.1,HQ.out.2.1⟩;rw[HQ.out.2.2.2,HX.out,HO.out.2]
theorem WU.Gm{base:Nat}{w:MO}{g:Nat}{V:Pv}{c:Cf}{P:Py}(h:WU base w g V c P):w.cell? ⟨g,16,MH⟩=MI (MG V.ps P.steps.length V.cs):=by
 rw[MW w g 16 _ _ (0,0) h.box,h.steps];rfl
structure az8(W:MO)(ps:Option Oc)(k:Nat)(q:Sq)(b o:Nat):Prop where
 at_:ps=MI ⟨b,o,MH⟩
 cells:W.rangeAt b (o+k*61) (abK q)
 rd:aje W q
theorem XQ.step{w W:MO}{g:Nat}{V:Pv}{c:Cf}{P:Py}(h:XQ w W g V c P){k:Nat}(hk:k<P.steps.length):∃q b o,az8 W V.ps k q b o/\P.steps[k]?=MI q.s/\aaB c q.s:=by
 have z:=h.pat.steps;have i:k<V.qs.length:=by omega
 have l:Xw abK W (MG V.ps V.qs.length V.cs) V.qs:=abw h.pat.rows;obtain⟨a,u,f,_,_,m⟩:=Xw.F6 avt l;injection f with q1 _ _;obtain⟨b,o,t,y,p⟩:=m k i;have e:P.steps[k]?=MI V.qs[k].s:=by rw[<-h.pat.eqs,aAQ,MR i];rfl
 refine⟨V.qs[k],b,o,⟨q1.trans t,fun j v f=>?_,(h.pat.all _ (Nk i)).now⟩,e,h.rn.runs.chain _ (List.mem_of_getElem? e)⟩;have r:j<61:=(List.getElem?_eq_some_iff.1 f).1;rw[p j r];exact f
theorem aAx(f:Nat->Int)(hf:∀i,i<16->(Lit.int ME (f i)).wf=Nw)(ds:List Dd)(hds:∀d∈ds,ajd d){pd:Option Oc}{cd:Nat}{w:MO}(hrow:Xw agP w (MG pd ds.length cd) ds)(hblk:Xo w)(most:Nat)(hm:most<=100) :
  ∃L:List M7,L.length=16/\agc (f 0) (f 1) (f 2) (f 3) (f 4) (f 5) (f 6) (f 7) (f 8) (f 9) (f 10) (f 11) (f 12) (f 13) (f 14) (f 15)=Ny L.toArray/\∀W,MQ w.heap.size w W->Ni MK 6 #[Ny L.toArray,MG pd ds.length cd,MF ME (most:Int)] W (au0 f most W):=
 ⟨[MF ME (f 0),MF ME (f 1),MF ME (f 2),MF ME (f 3),MF ME (f 4),MF ME (f 5),MF ME (f 6),MF ME (f 7),MF ME (f 8),MF ME (f 9),MF ME (f 10),MF ME (f 11),MF ME (f 12),MF ME (f 13),MF ME (f 14),MF ME (f 15)],rfl,rfl,fun W hB=>awU f hf ds hds W (hrow.below hB) (hblk.below hB) most hm⟩
theorem aAH(W:MO)(U:Us)(G:Gt):∃Y,Y=(W.alloc (MP wz.toArray 55)).setCells W.heap.size 0 (XR U G).toList/\Y.heap[W.heap.size]?=MI (MP (XR U G).toList.toArray 55 (0,0))/\MQ W.heap.size W Y/\(W.alloc (MP wz.toArray 55)).there W.heap.size 0 (XR U G).toList.toArray.size:=by
 have c:(W.alloc (MP wz.toArray 55)).heap[W.heap.size]?=MI (MP wz.toArray 55 (0,0)):=M1 _ _;exact⟨_,rfl,anq c rfl,adp (WQ W) (MV _) _ _ (by simp),(show(W.alloc (MP wz.toArray 55)).there W.heap.size 0 (XR U G).toList.toArray.size from afH (old:=wz) c)⟩
theorem aAG{W:MO}{b:Nat}{U:Us}{G:Gt}(h:W.heap[b]?=MI (MP (XR U G).toList.toArray 55 (0,0)))(j:Nat):W.cell? ⟨b,j,MH⟩=(XR U G).toList[j]?:=by
 rw[MW W b j _ _ (0,0) h];simp
theorem WU.aAP{base:Nat}{w:MO}{g:Nat}{V:Pv}{c:Cf}{P:Py}(h:WU base w g V c P)(j:Nat):w.cell? ⟨g,j,MH⟩=(adM V c P)[j]?:=by
 rw[MW w g j _ _ (0,0) h.box];simp
theorem aAv{W:MO}{p:Option Oc}{c:Nat}{L:List Ou}(h:Xw Z1 W (MG p L.length c) L){i:Nat}(hi:i<L.length) :
  ∃b o,p=MI ⟨b,o,MH⟩/\W.cell? ⟨b,o+i*7,MH⟩=MI (MF ME L[i].kind)/\W.cell? ⟨b,o+i*7+1,MH⟩=MI (MF ME L[i].slot)/\W.cell? ⟨b,o+i*7+2,MH⟩=MI (MF ME L[i].gen)/\W.cell? ⟨b,o+i*7+3,MH⟩=MI (MF ME L[i].be)/\W.cell? ⟨b,o+i*7+4,MH⟩=MI (MF ME L[i].req)/\W.cell? ⟨b,o+i*7+5,MH⟩=MI (MF ME L[i].code)/\W.cell? ⟨b,o+i*7+6,MH⟩=MI (MF ME L[i].why):=by
 obtain⟨a,l,j,_,_,f⟩:=Xw.F6 akV h;injection j with q1 _ _;obtain⟨b,o,k,_,e⟩:=f i hi;exact⟨b,o,q1.trans k,e 0 (by omega),e 1 (by omega),e 2 (by omega),e 3 (by omega),e 4 (by omega),e 5 (by omega),e 6 (by omega)⟩
section
variable {P:Program}{ops:Array Oper}{C:MO->Prop}{Q:Act->Prop}{o:Oper}{rest:List Oper}{a:Act}
theorem aAJ{id:Nat}{R:Exit->Act->MO->Prop}{w:MO}{l:List Oper}(hC:C w.drew)(h:wpQuiet P l.toArray C (fun a'=>∀w',C w'->R .normal a' w') l a)(hm:P.follows .mixedOrders=true:=by kernel_rfl)(hB:Region.lexB .any l.toArray=true:=by kernel_rfl):(Code.region id l.toArray Nw).wp P R a w :=
 wp_region_quiet hm hB hC (by simpa using h)
theorem aAI{K:Act->Prop}(v:M7)(h:K (a.put o.dst v))(hv:∀w,C w->(execOp a.eval o).run P w=.ok (.value v) w):o.quiet P a C K :=
 ⟨v,fun w hC=>by unfold Oper.quietAt;rw[hv w hC];exact⟨rfl,rfl⟩,h⟩
theorem aAK{K:Act->Prop}(v:M7)(f:FuncId)(args:Array M7)(hc:∀w,C w->Ni P f args w fun e w'=>e=MN v/\C w')(h:K (a.put o.dst v))(hv:∀w,(execOp a.eval o).run P w=.ok (.enter f args) w:=by exact fun X=>by go_simp):o.quiet P a C K :=
 ⟨v,fun w hC=>by unfold Oper.quietAt;rw[hv w];exact⟨rfl,hc w hC⟩,h⟩
end
theorem aAC{l:List Ou}{p1 p2:Option Oc}{c1 c2:Nat}{w:MO}(h1:Xw Z1 w (MG p1 l.length c1) l)(h2:Xw Z1 w (MG p2 l.length c2) l) :
  Ni MK 8 #[MG p1 l.length c1,MG p2 l.length c2] w fun r w'=>r=MN (M3 Nw)/\MQ w.heap.size w w':=by
 have z:l.length<=9223372036854775807:=by obtain⟨_,_,hv,N,c,_⟩:=Xw.F6 akV h1;unfold NE at c;omega
 obtain⟨n,j⟩:∃n,n=l.length:=⟨_,rfl⟩;have f:M6 (_/\_/\_):=⟨h1,h2,j⟩;rw[<-j]at z⊢;have K:((n:Int) != (n:Int))=false:=bne_self_eq_false _;clear h1 h2 j;go_enter Tryz.func8,Tryz.ntmps8;go_wp2
 go_loopw [5] (fun i wr=>∃k q:Nat,i=MF ME k/\k<=n/\wr=w.drewN q) (fun i _=>n-(intOf i).toNat)
 case atStart=>exact⟨0,0,rfl,Nx _,rfl⟩
 case round =>
  obtain⟨k,q,rfl,T,rfl⟩:=hrel
  by_cases hlt:k<n
  ·have e:k<l.length:=by rw[<-f.out.2.2];exact hlt
   obtain⟨Z,O,rfl,t,B,J,s,D,v,A⟩:=aAv f.out.1 e;obtain⟨M,o2,rfl,u,H,I,p,y,F,y7⟩:=aAv f.out.2.1 e;obtain⟨x,c⟩:∃x,x=l[k]:=⟨_,rfl⟩;rw[<-c]at t B J s D v A u H I p y F y7;have m:(k:Int)<(n:Int):=by omega
   have L:Decidable.decide ((k:Int)<(n:Int))=true:=Nq m;clear c e;go_wp2
   go_region
   go_wp2
   go_roundw
   case rel=>exact⟨k+1,q+1,by simp,hlt,rfl⟩
   case measure=>simp[intOf];omega
  ·obtain rfl:k=n:=by omega
   go_wp2;go_ret;exact⟨rfl,amB (MY _ _) q⟩
theorem aAd(e:Ev):∀u∈aaV e,u.oneCell'=true:=au7 e
theorem aAl:(Tryz.prog.info? 60).map (fun i=>(i.zero,i.size,i.bytes))=MI (MI (Ny aAi.toArray),8,64):=by kernel_rfl
def aAf(P:Py)(k:Nat):List Ev:=(P.steps.take k).map (·.ev)
theorem aAh{P:Py}{k:Nat}{s:Sp}(h:P.steps[k]?=MI s):aAf P (k+1)=aAf P k++[s.ev]:=by
 obtain⟨c,e⟩:=List.getElem?_eq_some_iff.1 h;unfold aAf;rw[M9 c,OI,e];rfl
theorem aAg{P:Py}(h:n=P.steps.length):aAf P n=P.steps.map (·.ev):=by
 unfold aAf;rw[h,List.take_length]
theorem aAF(f:Nat->Int)(hf:∀i,i<16->(Lit.int ME (f i)).wf=Nw)(ds:List Dd)(hds:∀d∈ds,ajd d){pd:Option Oc}{cd:Nat}{w:MO}(hrow:Xw agP w (MG pd ds.length cd) ds)(hB:Xo w) :
  Ni MK 3 #[agc (f 0) (f 1) (f 2) (f 3) (f 4) (f 5) (f 6) (f 7) (f 8) (f 9) (f 10) (f 11) (f 12) (f 13) (f 14) (f 15),MG pd ds.length cd] w fun r w'=>r=MN (M3 Nw)/\MQ w.heap.size w w':=by
 obtain⟨L,hL,eL,i7⟩:=aAx f hf ds hds hrow hB 60 (by omega);rw[eL];obtain⟨W0,c5⟩:∃W0,W0=w.alloc (MP L.toArray 24):=⟨_,rfl⟩;have e3:MQ w.heap.size w W0:=by rw[c5];exact WQ w
 have HI:M6 (_/\_/\_):=⟨hL,e3,i7 W0 e3⟩;obtain⟨nd,h8⟩:∃nd,nd=ds.length:=⟨_,rfl⟩;rw[<-h8]at HI⊢;clear hL eL i7 e3 hf hds hrow hB h8;go_enter Tryz.func3,Tryz.ntmps3
 go_wp2_with ((with_reducible refine O3 rfl 24 (O6 2) rfl w.heap.size 0 ?gx L _ ?gc Tryz.underlying24 ?gd ?gi ?_);(case gx=>rfl);(case gc=>exact afW (M1 _ _));(case gd=>rfl);(case gi=>rw[HI.out.1];exact apz))
 rw[<-c5];clear c5;refine Nd HI.out.2.2 ?_;rintro r w1 ⟨g,V,c,P,rfl,hS,f7,k1,i8,j0⟩;obtain⟨n,hn⟩:∃n,n=P.steps.length:=⟨_,rfl⟩;have y:M6 (_/\_/\_/\_/\_):=⟨hS,f7,hn,(show n<=60+4 by omega),j0⟩;have j9:=HI.out.2.1.trans (hS.bel.mono HI.out.2.1.size);have HB:M6 _:=j9;clear hS f7 k1 i8 j0 hn HI j9
 go_wp2_with fail
 go_loopw [7,8] (fun s i wr=>∃(k:Nat) (p:Option Oc) (cc:Nat),s=MG p k cc/\i=MF ME (k:Int)/\k<=n/\M6 (wr.ownsRow w1.heap.size 60 8 (MG p k cc) k (rv aaV (aAf P k))/\MQ w1.heap.size w1 wr)) (fun _ i _=>n-(intOf i).toNat)
 case atStart=>exact⟨0,MH,0,rfl,rfl,Nx _,⟨rfl,Nt ⟨rfl,rfl⟩⟩,MY _ _⟩
 case round =>
  obtain⟨k,p,cc,rfl,rfl,hk,N⟩:=hrel;have f5:n<=9223372036854775807:=by have:=y.out.2.2.2.1;omega
  have m:=y.out.1.on N.out.2;have a5:wr.cell? ⟨g,16,MH⟩=MI (MG V.ps n V.cs):=by rw[y.out.2.2.1];exact m.pat.Gm
  have a6:=m.pat.lt
  by_cases hlt:k<n
  ·have k5:(k:Int)<(n:Int):=by omega
   obtain⟨q,b,o,A,a4,c9⟩:=m.step (k:=k) (by rw[<-y.out.2.2.1];exact hlt);have T:=aAh a4;obtain⟨⟨e,s1,s2,s3⟩,qu,qv,qp,qc⟩:=q;obtain⟨kd,ky,sl,gn,gd,rq,be,wt⟩:=e;have d0:wr.cell? ⟨b,o+k*61,MH⟩=MI (MF ME kd):=A.cells 0 _ rfl;have d1:wr.cell? ⟨b,o+k*61+1,MH⟩=MI (MF ME ky):=A.cells 1 _ rfl;have d2:wr.cell? ⟨b,o+k*61+2,MH⟩=MI (MF ME sl):=A.cells 2 _ rfl;have d3:wr.cell? ⟨b,o+k*61+3,MH⟩=MI (MF ME gn):=A.cells 3 _ rfl;have d4:wr.cell? ⟨b,o+k*61+4,MH⟩=MI (M3 gd):=A.cells 4 _ rfl;have d5:wr.cell? ⟨b,o+k*61+5,MH⟩=MI (MF ME rq):=A.cells 5 _ rfl;have d6:wr.cell? ⟨b,o+k*61+6,MH⟩=MI (MF ME be):=A.cells 6 _ rfl;have d7:wr.cell? ⟨b,o+k*61+7,MH⟩=MI (MF ME wt):=A.cells 7 _ rfl;rw[A.at_]at a5;obtain⟨g2,c2,w5,j1,i3,g1,_⟩:=afC aAe aAd (by decide) Tryz.underlying29 aAl rfl N.out.1 N.out.2.size 29 (⟨kd,ky,sl,gn,gd,rq,be,wt⟩:Ev) #[MF ME kd,MF ME ky,MF ME sl,MF ME gn,M3 gd,MF ME rq,MF ME be,MF ME wt] rfl (by have:=y.out.2.2.2.1;omega) (by have:=y.out.2.2.2.1;unfold NE;omega);have i6:=N.out.2.grown g1 N.out.2.size (fun j hj=>(N.out.1.lt j hj).1);have H5:M6 (_/\_/\_/\_):=⟨j1,i3,i6,T⟩;clear j1 i3 i6 g1 T a4 c9 A m
   go_wp2_with (at_builtin;(with_reducible refine Z4 rfl _ _ 29 rfl (MG p k cc) (MG (MI ⟨wr.heap.size,0,MH⟩) 1 1) (MG (MI ⟨g2,0,MH⟩) (k+1) c2) w5 ?hs ?hx ?hr ?_);(case hs=>rfl);(case hx=>rfl);(case hr=>exact H5.out.1))
   go_roundw
   case rel=>exact⟨k+1,MI ⟨g2,0,MH⟩,c2,rfl,by simp,hlt,by rw[H5.out.2.2.2];exact H5.out.2.1,H5.out.2.2.1⟩
   case measure=>simp[intOf];omega
  ·obtain rfl:k=n:=by omega
   have k5:¬(k:Int)<(k:Int):=by omega
   have b0:=aAg y.out.2.2.1;obtain⟨B,T⟩:∃B,B=P.steps.map (·.ev):=⟨_,rfl⟩;rw[<-T]at b0;have a0:k=B.length:=by rw[T,N0];exact y.out.2.2.1
   have b9:P=azY (Yb c) B:=by rw[T];exact y.out.1.rn.aAN
   have f8:∀e∈B,Yk e=0:=fun e he=>by
    rw[T]at he;obtain⟨s,hs,rfl⟩:=List.mem_map.1 he;exact(y.out.1.rn.runs.chain s hs).ev
   have hrow:Xw aaV wr (MG p B.length cc) B:=by
    have h:=N.out.1;rw[b0]at h;rw[<-a0];have h2:wr.ownsRow w1.heap.size 60 8 (MG p B.length cc) B.length (rv aaV B):=by rw[<-a0];exact h
    have h3:=abw h2;rwa[<-a0]at h3
   obtain⟨K,hK⟩:∃K,K=ac8 c:=⟨_,rfl⟩;have g4:∀X,MQ wr.heap.size wr X->X.rangeAt g 0 K:=fun X z j v hv=>by
    have hj:j<16:=by have:=(List.getElem?_eq_some_iff.1 hv).1;rw[hK]at this;exact this
    rw[Nat.zero_add,(m.on z).pat.aAP j];show(ac8 c++_)[j]?=_;rw[OJ (show j<16 from hj),<-hK];exact hv
   have j6:K.length=16:=by rw[hK];rfl
   have g0:B.length<=4000:=by rw[<-a0];have:=y.out.2.2.2.1;omega
   have hR:=aAA y.out.2.1.ok B f8 g0 hrow m.blk;rw[<-b9,<-a0,<-hK]at hR;have HR:M6 _:=hR;have F:M6 (_/\_):=⟨g4 wr (MY _ _),j6⟩;have HE:M6 (_/\_/\_):=⟨a0,b9,b0⟩;clear hR g4 j6 b0 a0 b9 f8 hrow hK m g0 T
   go_wp2_with ((with_reducible refine O3 rfl 35 (O6 43) rfl g 0 ?gx K _ ?gc Ph ?gd ?gi ?_);(case gx=>rfl);(case gc=>exact F.out.1);(case gd=>rfl);(case gi=>rw[F.out.2];exact ajj))
   refine Nd HR.out ?_;rintro r w2 ⟨U,po,co,xs,rfl,j5,j7⟩;have d9:=j5 w2 (aba.Gy _ _);clear j5;have e6:xs.length=k:=by
    have h:=congrArg List.length d9.eqs;rw[N0]at h;rw[h];show(P.steps.map (·.out)).length=k;rw[N0];exact y.out.2.2.1.symm
   obtain⟨Y,hY,a8,c6,e4⟩:=aAH w2 U P.last;have j2:Y.cell? ⟨w2.heap.size,16,MH⟩=MI (MF ME P.last.now):=(aAG a8 16).trans rfl;have i2:Y.cell? ⟨w2.heap.size,23,MH⟩=MI (MF ME P.last.tok):=(aAG a8 23).trans rfl;have i1:Y.cell? ⟨w2.heap.size,18,MH⟩=MI (MG U.pf P.last.fls.length U.cf):=(aAG a8 18).trans rfl;obtain⟨M,e7⟩:∃M,M=(XR U P.last).toList:=⟨_,rfl⟩;have c7:(XR U P.last).toList.toArray.size=26:=rfl;have e0:(XR U P.last).toList.toArray.all (·.oneCell')=true:=ado _ _;rw[show XR U P.last=M.toArray by rw[e7],e6];rw[<-e7]at hY e4 c7 e0;have c4:=N.out.2.trans (j7.mono N.out.2.size);have c3:=c4.trans (c6.mono c4.size);have a3:=y.out.1.on c3;have g6:Y.cell? ⟨g,33,MH⟩=MI (MF ME P.last.now):=(a3.pat.aAP 33).trans rfl;have i0:Y.cell? ⟨g,40,MH⟩=MI (MF ME P.last.tok):=(a3.pat.aAP 40).trans rfl;have k2:Y.cell? ⟨g,35,MH⟩=MI (MG V.u.pf P.last.fls.length V.u.cf):=(a3.pat.aAP 35).trans rfl;have k7:=a3.pat.lt;have f3:w2.heap.size<Y.heap.size:=(Array.getElem?_eq_some_iff.1 a8).1;have j3:=d9.below c6;obtain⟨nf,b7⟩:∃nf,nf=P.last.fls.length:=⟨_,rfl⟩;obtain⟨nw,g8⟩:∃x,x=P.last.now:=⟨_,rfl⟩;obtain⟨awW,f9⟩:∃x,x=P.last.tok:=⟨_,rfl⟩;rw[<-b7]at i1 k2;rw[<-g8]at j2 g6;rw[<-f9]at i2 i0;have i4:nf<=40:=by rw[b7];exact y.out.1.rn.runs.wm.im.bs.Gb
   have H2:M6 (_/\_/\_/\_):=⟨e4,c7,e0,hY⟩;have D:M6 (_/\_/\_/\_/\_/\_/\_):=⟨j3,a3,e6,b7,i4,HB.out.trans (c3.mono HB.out.size),i1⟩;have l4:((k:Int) != (k:Int))=false:=bne_self_eq_false _;have i8:(nw != nw)=false:=bne_self_eq_false _;have l6:(awW != awW)=false:=bne_self_eq_false _;have l3:((nf:Int) != (nf:Int))=false:=bne_self_eq_false _;clear d9 j7 e6 hY a8 c6 e4 e7 c7 e0 c4 c3 a3 j3 b7 g8 f9 i4 HR F HE a5 a6
   go_wp2_with ((with_reducible refine OW rfl 55 (O6 9) (O6 47) rfl w2.heap.size 0 M.toArray ?sx ?sy ?st ?si ?s1 ?_);(case sx=>rfl);(case sy=>rfl);(case st=>exact H2.out.1);(case si=>rw[H2.out.2.1];exact Z0);(case s1=>exact H2.out.2.2.1);rw[NS,<-H2.out.2.2.2])
   refine wp_region_quiet_lit (by kernel_rfl) (by kernel_rfl) ?_
   repeat (first|go_big_quiet_skip|quiet_step (fail))
   refine Oy ?_;intro _ e1;obtain⟨nq,c0⟩:=e1;subst c0;clear j2 i2 g6 i0
   go_wp2_with fail
   go_loopw [12] (fun i wr=>∃j:Nat,i=MF ME (j:Int)/\j<=k/\M6 (MQ Y.heap.size Y wr)) (fun i _=>k-(intOf i).toNat)
   case atStart=>exact⟨0,rfl,Nx _,(amB (MY _ _) nq:MQ Y.heap.size Y (Y.drewN nq))⟩
   case round =>
    obtain⟨j,rfl,hj,HX⟩:=hrel;have f5:k<=9223372036854775807:=by have:=y.out.2.2.2.1;omega
    have m:=D.out.2.1.on HX.out;have H:=D.out.1.below HX.out
    by_cases hlj:j<k
    ·have k0:(j:Int)<(k:Int):=by omega
     obtain⟨q,b,o,A,a4,c9⟩:=m.step (k:=j) (by rw[<-y.out.2.2.1];exact hlj);have b3:j<xs.length:=by rw[D.out.2.2.1];exact hlj
     have b8:xs[j].2.2=q.s.out:=by
      have h:=congrArg (·[j]?) H.eqs;have h2:(aAj P).outs[j]?=MI q.s.out:=by show(P.steps.map (·.out))[j]?=_;rw[aAQ,a4];rfl
      simp only[h2,aAQ,MR b3,Option.map_some,Option.some.injEq]at h;exact h
     have a9:=H.all _ (Nk b3);obtain⟨a1,k3,hv,_,_,hp⟩:=Xw.F6 aAt H.rows;injection hv with ha hn2 hcap;obtain⟨bo,oo,j4,f6,e9⟩:=hp j b3;rw[<-ha]at j4;have f0:=e9 0 (by omega);rw[Nat.mul_one]at f0;obtain⟨x,hx⟩:∃x,x=xs[j]:=⟨_,rfl⟩;rw[<-hx]at f0 a9 b8;obtain⟨x1,x2,xl⟩:=x;simp only at b8;subst b8;have a7:wr.cell? ⟨b,o+j*61+60,MH⟩=MI (MG q.po q.s.out.length q.co):=A.cells 60 _ rfl;have f1:wr.cell? ⟨bo,oo+j,MH⟩=MI (MG x1 q.s.out.length x2):=f0;have a5:wr.cell? ⟨g,16,MH⟩=MI (MG (MI ⟨b,o,MH⟩) k V.cs):=by rw[<-A.at_,y.out.2.2.1];exact m.pat.Gm
     have a6:=m.pat.lt;have e8:=A.rd.2.2;have f4:b<wr.heap.size:=World.block_lt_of_cell? wr ⟨b,_,MH⟩ a7;obtain⟨l,hl⟩:∃l,l=q.s.out:=⟨_,rfl⟩;rw[<-hl]at a7 f1 a9 e8;obtain⟨nl,d8⟩:∃n,n=l.length:=⟨_,rfl⟩;rw[<-d8]at a7 f1;obtain⟨C,I,hC1⟩:∃C:MO->Prop,(∀X,C X->MQ wr.heap.size wr X)/\(∀X,MQ wr.heap.size wr X->C X):=⟨_,fun _ h=>h,fun _ h=>h⟩;have F:M6 ((∀X,C X->X.cell? ⟨bo,oo+j,MH⟩=MI (MG x1 nl x2))/\(∀X,C X->X.cell? ⟨g,16,MH⟩=MI (MG (MI ⟨b,o,MH⟩) k V.cs))/\(∀X,C X->X.cell? ⟨b,o+j*61+60,MH⟩=MI (MG q.po nl q.co))/\(∀X,C X->Ni MK 8 #[MG x1 nl x2,MG q.po nl q.co] X fun r w'=>r=MN (M3 Nw)/\C w')/\(∀X,C X->MQ Y.heap.size Y X)/\C wr.drew):=
      ⟨fun X z=>((I X z).cell (p:=⟨bo,oo+j,MH⟩) f6).trans f1,
        fun X z=>((I X z).cell (p:=⟨g,16,MH⟩) a6).trans a5,
        fun X z=>((I X z).cell (p:=⟨b,o+j*61+60,MH⟩) f4).trans a7,
        fun X z=>by
       rw[d8];exact(aAC (a9.below (I X z)) (e8.below (I X z))).mono fun r w' h=>⟨h.1,hC1 w' ((I X z).trans (h.2.mono (I X z).size))⟩,
        fun X z=>HX.out.trans ((I X z).mono HX.out.size),
        hC1 _ (MY _ _).drew⟩
     clear f0 f1 a7 a5 a6 e8 a9 f4 hl d8 I hC1 A a4 c9 m H b3 ha hn2 hcap f6 e9 hx hp;subst j4
     go_wp2_with fail
     refine aAJ (C:=C) F.out.2.2.2.2.2 ?_
     go_big_quiet_want
     refine aAI (MG (MI ⟨bo,oo,MH⟩) k co) ?_ (fun X hSw=>by go_simp);simp only[Nr,MZ,MT,MS,MJ,ML,MM]
     go_big_quiet_on
     go_big_quiet_want
     refine aAI (MF ME (j:Int)) ?_ (fun X hSw=>by go_simp);simp only[Nr,MZ,MT,MS,MJ,ML,MM]
     go_big_quiet_on
     go_big_quiet_want
     refine aAI (Na (MI ⟨bo,oo+j,MH⟩)) ?_ (fun X hSw=>by go_simp);simp only[Nr,MZ,MT,MS,MJ,ML,MM]
     go_big_quiet_on
     go_big_quiet_want
     refine aAI (MG x1 nl x2) ?_ (fun X hSw=>by have h:=F.out.1 X hSw;go_simp);simp only[Nr,MZ,MT,MS,MJ,ML,MM]
     go_big_quiet_on
     go_big_quiet_want
     refine aAI (gP g) ?_ (fun X hSw=>by go_simp);simp only[Nr,MZ,MT,MS,MJ,ML,MM]
     go_big_quiet_on
     go_big_quiet_want
     refine aAI (gP g) ?_ (fun X hSw=>by go_simp);simp only[Nr,MZ,MT,MS,MJ,ML,MM]
     go_big_quiet_on
     go_big_quiet_want
     refine aAI (Na (MI ⟨g,16,MH⟩)) ?_ (fun X hSw=>by go_simp);simp only[Nr,MZ,MT,MS,MJ,ML,MM]
     go_big_quiet_on
     go_big_quiet_want
     refine aAI (MG (MI ⟨b,o,MH⟩) k V.cs) ?_ (fun X hSw=>by have h:=F.out.2.1 X hSw;go_simp);simp only[Nr,MZ,MT,MS,MJ,ML,MM]
     go_big_quiet_on
     go_big_quiet_want
     refine aAI (MF ME (j:Int)) ?_ (fun X hSw=>by go_simp);simp only[Nr,MZ,MT,MS,MJ,ML,MM]
     go_big_quiet_on
     go_big_quiet_want
     refine aAI (Na (MI ⟨b,o+j*61,MH⟩)) ?_ (fun X hSw=>by go_simp);simp only[Nr,MZ,MT,MS,MJ,ML,MM]
     go_big_quiet_on
     go_big_quiet_want
     refine aAI (Na (MI ⟨b,o+j*61+60,MH⟩)) ?_ (fun X hSw=>by go_simp);simp only[Nr,MZ,MT,MS,MJ,ML,MM]
     go_big_quiet_on
     go_big_quiet_want
     refine aAI (MG q.po nl q.co) ?_ (fun X hSw=>by have h:=F.out.2.2.1 X hSw;go_simp);simp only[Nr,MZ,MT,MS,MJ,ML,MM]
     go_big_quiet_on
     go_big_quiet_want
     refine aAK (M3 Nw) 8 #[MG x1 nl x2,MG q.po nl q.co] F.out.2.2.2.1 ?_;simp only[Nr,MZ,MT,MS,MJ,ML,MM]
     go_big_quiet_on
     go_big_quiet_want
     refine aAI (M3 Nb) ?_ (fun X hSw=>by go_simp);simp only[Nr,MZ,MT,MS,MJ,ML,MM]
     go_big_quiet_on
     refine Oy ?_;intro X z;have HZ:M6 _:=F.out.2.2.2.2.1 X z;clear z;go_wp2
     go_roundw
     case rel=>exact⟨j+1,by simp,hlj,HZ.out⟩
     case measure=>simp[intOf];omega
    ·obtain rfl:j=k:=by omega
     clear m H;have k0:¬(j:Int)<(j:Int):=by omega
     go_wp2_with fail
     go_loopw [13] (fun i wr=>∃t:Nat,i=MF ME (t:Int)/\t<=nf/\M6 (MQ Y.heap.size Y wr)) (fun i _=>nf-(intOf i).toNat)
     case atStart=>exact⟨0,rfl,Nx _,HX.out⟩
     case round =>
      obtain⟨t,rfl,ht,HT⟩:=hrel;have m:=D.out.2.1.on HT.out;have H:=D.out.1.below HT.out;have i5:wr.cell? ⟨w2.heap.size,18,MH⟩=MI (MG U.pf nf U.cf):=(HT.out.cell (p:=⟨w2.heap.size,18,MH⟩) f3).trans D.out.2.2.2.2.2.2;have j8:wr.cell? ⟨g,35,MH⟩=MI (MG V.u.pf nf V.u.cf):=by rw[D.out.2.2.2.1];exact(m.pat.aAP 35).trans rfl
      have f5:nf<=9223372036854775807:=by have:=D.out.2.2.2.2.1;omega
      have a6:=m.pat.lt;have l1:=M8 f3 HT.out.size
      by_cases hlt:t<nf
      ·have k6:(t:Int)<(nf:Int):=by omega
       have e5:t<P.last.fls.length:=by rw[<-D.out.2.2.2.1];exact hlt
       obtain⟨a1,k3,hv,_,_,hp⟩:=Xw.F6 XL H.wat.fls;injection hv with ha hn2 hcap;obtain⟨Z,o1,g7,k9,g3⟩:=hp t e5;obtain⟨a2,k8,k4,_,_,i9⟩:=Xw.F6 XL m.pat.last.now.fls;injection k4 with ha2 hn22 hcap2;obtain⟨b2,o2,f2,l2,J⟩:=i9 t e5;have g5:=ha.trans g7;have g9:=ha2.trans f2;obtain⟨x,hx⟩:∃x,x=P.last.fls[t]:=⟨_,rfl⟩;rw[<-hx]at J;have O:∀j,j<7->wr.cell? ⟨Z,o1+t*7+j,MH⟩=(WX x)[j]?:=fun j hj=>by rw[hx];exact g3 j hj
       obtain⟨y1,y2,y3,y4,y5,y6,y7⟩:=x;have m0:wr.cell? ⟨Z,o1+t*7,MH⟩=MI (MF ME y1):=O 0 (by omega);have m1:wr.cell? ⟨Z,o1+t*7+1,MH⟩=MI (MF ME y2):=O 1 (by omega);have m2:wr.cell? ⟨Z,o1+t*7+2,MH⟩=MI (MF ME y3):=O 2 (by omega);have m3:wr.cell? ⟨Z,o1+t*7+3,MH⟩=MI (MF ME y4):=O 3 (by omega);have m4:wr.cell? ⟨Z,o1+t*7+4,MH⟩=MI (M3 y5):=O 4 (by omega);have m5:wr.cell? ⟨Z,o1+t*7+5,MH⟩=MI (MF ME y6):=O 5 (by omega);have m6:wr.cell? ⟨Z,o1+t*7+6,MH⟩=MI (MF ME y7):=O 6 (by omega);have n0:wr.cell? ⟨b2,o2+t*7,MH⟩=MI (MF ME y1):=J 0 (by omega);have n1:wr.cell? ⟨b2,o2+t*7+1,MH⟩=MI (MF ME y2):=J 1 (by omega);have n2:wr.cell? ⟨b2,o2+t*7+2,MH⟩=MI (MF ME y3):=J 2 (by omega);have n3:wr.cell? ⟨b2,o2+t*7+3,MH⟩=MI (MF ME y4):=J 3 (by omega);have n4:wr.cell? ⟨b2,o2+t*7+4,MH⟩=MI (M3 y5):=J 4 (by omega);have n5:wr.cell? ⟨b2,o2+t*7+5,MH⟩=MI (MF ME y6):=J 5 (by omega);have n6:wr.cell? ⟨b2,o2+t*7+6,MH⟩=MI (MF ME y7):=J 6 (by omega);rw[g5]at i5;rw[g9]at j8;clear m H hp i9 ha g7 ha2 f2 g5 g9 g3 J O hx e5 hn2 hn22 hcap hcap2
       go_wp2_with fail
       refine wp_region_quiet_lit (by kernel_rfl) (by kernel_rfl) ?_
       repeat (first|go_big_quiet_skip|quiet_step (fail))
       refine Oy ?_;intro _ e1;obtain⟨nq,c0⟩:=e1;subst c0;clear m0 m1 m2 m3 m4 m5 m6 n0 n1 n2 n3 n4 n5 n6 i5 j8;go_wp2
       go_roundw
       case rel=>exact⟨t+1,by simp,hlt,amB HT.out nq⟩
       case measure=>simp[intOf];omega
      ·obtain rfl:t=nf:=by omega
       have k6:¬(t:Int)<(t:Int):=by omega
       clear m H;have HZ:M6 _:=D.out.2.2.2.2.2.1.trans (HT.out.mono D.out.2.2.2.2.2.1.size);go_wp2;go_ret;exact⟨rfl,HZ.out⟩
end Go.Proofs.YtgnclkcdnbfeeaaGreatDoor.Q
