/-
  TopNoise: its walk. Conditions: as each theorem says.
-/
import Derived.LaidEql
import Derived.Test.YtgnclkcdnbfeeaaGreatDoorP8
open Bool renaming false->Nb,true->Nw
open Decidable renaming decide->Nn
open Go renaming Addr->Oc,Calls->Ni,Program->O8,TypeId->NU,Value->M7,World->MO,maxLen->NE,results->Pf,run_callFunc_extern->aDt
open Go.Act renaming put->Nr
open Go.Addr renaming add->aDD
open Go.AllReadyH renaming cons->NP,nil->NX
open Go.Builtin renaming append_->N2
open Go.Ending renaming returned->MN
open Go.Extern.ReflectliteType renaming abiMethod->aDI,assignableTo->aDP,elem->aD0,implements_->aDQ,method->aDX,relation->aDG,toType->aDW,typeOf->aDY
open Go.Extern.ReflectliteValue renaming elem->aDL,flagAddr->aDS,isNil->aDK,method->aDB,methodAny->aDR,parts->aDA,set->aDO,unpack->aDJ,valueError->aDv
open Go.Extern.Rtype renaming kind->aEa
open Go.IntKind renaming i64->ME,u8->aDN
open Go.Obj renaming cells->MP
open Go.Operand renaming tmp->O6
open Go.Proofs.Tryz renaming func32->ayD,func9->aD3,ntmps32->ayw,ntmps9->aD1,prog->MK,results9->aDM,underlying132->aD2,underlying35->Ph,underlying55->Lv,underlying60->azj,underlying74->aDT,underlying78->TG
open Go.Result renaming andThen->aDE,ok->aDu
open Go.RowKit renaming Below->MQ,Hid->M6,intOf->On
open Go.Value renaming agg->Ny,bool->M3,iface->aDU,int->MF,nilIface->aD6,pointer->Na,slice->MG,tuple->Nv
open Go.World renaming cell?_alloc_lt->aDy,cell?_spot->aDV,frozen?->Ng,frozen?_alloc_old->aDH,heap_setCells_other->N8
open List renaming dropLast_concat_getLast->aDC,getD->Pq,getElem?_map->aDz,mem_of_mem_take->aDw,range->Pm
open Nat renaming add_assoc->aDx,mul_comm->R5
open Option renaming none->MH,some->MI
open Or renaming inl->Nt,inr->NF
open Sum renaming inl->aEb,inr->aEc
namespace Go.Proofs.YtgnclkcdnbfeeaaGreatDoor.Q
set_option linter.unusedVariables false
set_option linter.unusedSimpArgs false
set_option maxHeartbeats 16000000
set_option maxRecDepth 100000
open Go.RowKit
attribute [local go_sem ↓] Go.wp_at_zero Go.wp_at_succ
variable {E:List M7}{l:List Nat}{v:M7}{Y:MO}{d fuel i n s:Nat}
theorem azZ{P:O8}(w:MO)(t ty e:NU)(i:TypeInfo)(ht:P.underlying t=MI (.slice e))(hi:P.info? e=MI i)(p:Option Oc)(c:Nat) :
  (N2 #[t,t] ty #[MG MH 0 0,MG p 0 c]).run P w=aDu (MG MH 0 0) w:=by
 cases p <;> simp[N2,run_underlying ht,sizeOf,typeInfo,hi,Builtin.firstCells,Builtin.lenOf,loadCells,loadCellsFrom]
section
variable {α:Type}{c:α->List M7}{k:Nat}{w w':MO}{v:M7}{l:List α}
variable {t e:NU}{z:M7}{bytes:Nat}
theorem azY(hk:∀x,(c x).length=k)(h1:∀x,∀u∈c x,u.oneCell'=Nw)(hk0:0<k)(ht:MK.underlying t=MI (.slice e))(hinfo:(MK.info? e).map (fun i=>(i.zero,i.size,i.bytes))=MI (MI z,k,bytes))(hz:z.cells.size=k)(w:MO)(ty:NU)(u:M7)(l:List α)(hu:Xw c w u l)(hl:l.length*bytes<=140737488355328)(hl2:l.length<=NE) :
  ∃p c' w',(N2 #[t,t] ty #[MG MH 0 0,u]).run MK w=aDu (MG p l.length c') w'/\w'.ownsRow w.heap.size e k (MG p l.length c') l.length (rv c l)/\MQ w.heap.size w w':=by
 obtain⟨q,y,B,F,D⟩:=OF hinfo;obtain⟨a,m,rfl,N,M,h⟩:=hu
 by_cases h0:l.length=0
 ·obtain rfl:l=[]:=List.length_eq_zero_iff.1 h0
  exact⟨MH,0,w,azZ w _ ty _ q ht y a m,NY _ _ _ _,MY _ _⟩
 ·rcases h with⟨h,_⟩|⟨b,off,rfl,L,A⟩
  ·exact absurd h h0
  ·obtain⟨O,w',I,f,K,_⟩:=run_append_own (P:=MK) w w.heap.size t ty e q _ k bytes ht y B F D hz hk0 (MG MH 0 0) 0 [] (NY _ _ _ _) ⟨b,off,MH⟩ l.length m (rv c l) (abx hk l) (fun j x hx=>by
    have J:=(List.getElem?_eq_some_iff.1 hx).1;rw[aas,A j J,hx]) (adm h1 l) (by omega) (by rw[Oa];exact hl) (MV _)
   rw[List.nil_append,Oa]at f;obtain⟨p,c',rfl⟩:=Y6 f;exact⟨p,c',w',I,f,(MY _ _).grown K (MV _) (fun k hk=>by cases hk)⟩
end
section
variable {base:Nat}{w0 w w':MO}{g:Nat}{V:Vs}{U:Us}{G:Gt}
theorem aba.Gy(B:Nat)(w:MO):aba B w w:=⟨MV _,fun _ _ _=>rfl⟩
end
def az0(A:Gt)(es:List Ev):Py:=es.foldl Py.step ⟨[],A,[]⟩
theorem az3(A:Gt)(es:List Ev)(e:Ev):az0 A (es++[e])=(az0 A es).step e:=by
 unfold az0;rw[Pu];rfl
theorem az2(A:Gt)(es:List Ev):(az0 A es).steps.length=es.length:=by
 unfold az0;rw[aqQ];show 0+_=_;omega
theorem az1(A:Gt):∀(n:Nat) (es:List Ev),es.length=n->(az0 A es).steps.map (·.ev)=es:=by
 intro n
 induction n with
 |zero=>intro es h;obtain rfl:=List.length_eq_zero_iff.1 h;rfl
 |succ n ih =>
  intro es h;obtain⟨l,e,rfl⟩:∃l e,es=l++[e]:=⟨es.dropLast,es.getLast (by intro q;rw[q]at h;cases h),(aDC _).symm⟩;rw[Ns,OU]at h;rw[az3];show((az0 A l).steps++[_]).map (fun s:Sp=>s.ev)=_;rw[OI,ih l (by omega)];rfl
theorem az4(A:Gt)(es:List Ev):∀k,(az0 A (es.take k)).steps=(az0 A es).steps.take k:=by
 intro k;have u:∀(m:List Ev) (P:Py),(m.foldl Py.step P).steps.take P.steps.length=P.steps:=by
  intro m
  induction m with
  |nil=>intro P;exact NT
  |cons e m ih =>
   intro P;have f:=ih (P.step e);rw[List.foldl_cons];have q:(P.step e).steps=P.steps++[⟨e,P.last,(Xb P.last e).Ma,(Xb P.last e).out⟩]:=rfl;have j:(P.step e).steps.take P.steps.length=P.steps:=by rw[q,List.take_append_of_le_length (MV _),NT]
   rw[<-j]
   conv=>rhs;rw[j]
   have y:(m.foldl Py.step (P.step e)).steps.take ((P.step e).steps.take P.steps.length).length=((m.foldl Py.step (P.step e)).steps.take (P.step e).steps.length).take P.steps.length:=by
    rw[j,List.take_take]
    congr 1
    rw[q];simp
   rw[y,f,j]
 by_cases hk:k<=es.length
 ·have f:=u (es.drop k) (az0 A (es.take k))
  rw[az2,NH,P1 hk]at f;rw[<-f];unfold az0;rw[<-Pu,Oo]
 ·rw[N1 (by omega),N1 (by rw[az2];omega)]
theorem Rn.aDn{A:Gt}{c:Cf}{P:Py}(h:Rn A c P):P=az0 A (P.steps.map (·.ev)):=by
 obtain⟨f,q,_,_⟩:=h.built;have j:P=az0 A f:=q;rw[j,az1 A _ f rfl]
abbrev aZZ:=Option Oc×Nat×List Ou
abbrev aBr(x:aZZ):List Value:=[MG x.1 x.2.2.length x.2.1]
theorem aBs(x:aZZ):(aBr x).length=1:=rfl
theorem aBt(x:aZZ):∀u∈aBr x,u.oneCell'=true:=by
 intro u f;rw[List.mem_singleton.1 f];rfl
structure aDj where
 u:Us
 p:Option Oc
 c:Nat
 xs:List aZZ
def aDj.own(V:aDj)(g b:Nat):Prop:=b=g\/V.p.map (·.block)=MI b
def aDj.off(V:aDj)(base g b:Nat):Prop:=b<base\/V.own g b
structure Gs where
 last:Gt
 outs:List (List Ou)
def Gs.step(P:Gs)(e:Ev):Gs:=⟨(Xb P.last e).Ma,P.outs++[(Xb P.last e).out]⟩
structure az8(P:Gs):Prop where
 wm:Wm P.last
 out:P.last.out=[]
def aDk(V:aDj)(P:Gs):List Value:=(XR V.u P.last).toList++[MG V.p V.xs.length V.c]
structure az9(base:Nat)(w:MO)(g:Nat)(V:aDj)(P:Gs):Prop where
 box:w.heap[g]?=MI (MP (aDk V P).toArray 100 (0,0))
 low:base<=g
 eqs:V.xs.map (·.2.2)=P.outs
 rows:w.ownsRow base 61 1 (MG V.p V.xs.length V.c) V.xs.length (rv aBr V.xs)
 og:V.p.map (·.block)≠MI g
 last:XG (V.off base g) w fun X=>Xd X V.u P.last
 all:∀x∈V.xs,XG (V.off base g) w fun X=>Xw Z1 X (MG x.1 x.2.2.length x.2.1) x.2.2
structure aAa(V V':aDj)(g:Nat)(w w':MO):Prop where
 os:w'.os=w.os
 tape:w'.tape=w.tape
 output:w'.output=w.output
 size:w.heap.size<=w'.heap.size
 block:∀b,b<w.heap.size->¬V.own g b->w'.heap[b]?=w.heap[b]?
 ext:∀b,V'.own g b->V.own g b\/w.heap.size<=b
section
variable {base:Nat}{w w' w1 w2:MO}{g:Nat}{V V' V1 V2:aDj}{P:Gs}
theorem az9.lt(h:az9 base w g V P):g<w.heap.size:=(Array.getElem?_eq_some_iff.1 h.box).1
theorem aAa.F5(h:MQ w.heap.size w w1):aAa V V g w w1:=⟨h.os,h.tape,h.output,h.size,fun b hb _=>h.block b hb,fun _ h=>Nt h⟩
theorem aAa.F0(h:aAa V V1 g w w1)(k:aAa V1 V2 g w1 w2):aAa V V2 g w w2 :=
 ⟨k.os.trans h.os,k.tape.trans h.tape,k.output.trans h.output,Nm h.size k.size,fun b hb hn=>(k.block b (M8 hb h.size) fun e=>by
  rcases h.ext b e with e|e
  ·exact hn e
  ·omega).trans (h.block b hb hn),fun b e=>by
  rcases k.ext b e with e|e
  ·exact h.ext b e
  ·exact NF (Nm h.size e)⟩
theorem az9.Mb(h:az9 base w g V P){b:Nat}(hb:V.own g b):base<=b/\b<w.heap.size:=by
 rcases hb with rfl|e
 ·exact⟨h.low,h.lt⟩
 ·exact h.rows.lt b (by rw[XV];exact e)
theorem aAa.IT(h:aAa V V1 g w w1)(hP:az9 base w g V P)(hb:base<=w.heap.size):MQ base w w1 :=
 ⟨h.os,h.tape,h.output,h.size,fun b q=>h.block b (by omega) fun e=>by have:=(hP.Mb e).1;omega⟩
theorem az9.below(h:az9 base w g V P)(hb:MQ w.heap.size w w'):az9 base w' g V P :=
 ⟨(hb.block g h.lt).trans h.box,h.low,h.eqs,W8 h.rows fun b e=>hb.block b (h.rows.lt b e).2,h.og,h.last.below hb,fun q hq=>(h.all q hq).below hb⟩
theorem az9.Mo(h:az9 base w g V P):w.rangeAt g 0 (XR V.u P.last).toList:=fun j v hv=>by
 have f:j<26:=(List.getElem?_eq_some_iff.1 hv).1;rw[MW w g (0+j) _ _ (0,0) h.box];have e:aDk V P=(XR V.u P.last).toList++[MG V.p V.xs.length V.c]:=rfl;rw[List.getElem?_toArray,e,show 0+j=j by omega,OJ f];exact hv
theorem az9.Ip(h:az9 base w g V P):w.cell? ⟨g,26,MH⟩=MI (MG V.p V.xs.length V.c):=by
 rw[MW w g 26 _ _ (0,0) h.box];rfl
theorem az9.MC(h:az9 base w g V P)(U:Us)(G:Gt)(hG:XG (V.off base g) w fun X=>Xd X U G) :
  az9 base (w.setCells g 0 (XR U G).toList) g {V with u:=U} {P with last:=G}:=by
 have j:∀b,b<w.heap.size->b≠g->(w.setCells g 0 (XR U G).toList).heap[b]?=w.heap[b]?:=fun b f e=>N8 w g 0 _ f e
 have q:(w.setCells g 0 (XR U G).toList).heap.size=w.heap.size:=ac3 _ _ _ _;have m:∀ {p':MO->Prop},XG (V.off base g) w p'->XG (aDj.off {V with u:=U} base g) (w.setCells g 0 (XR U G).toList) p':=fun hA =>
  hA.step (by rw[q];exact MV _) (fun b q1 q2=>j b q1 fun e=>q2 (NF (Nt e))) fun b q1 e=>e
 refine⟨?_,h.low,h.eqs,W8 h.rows fun b e=>j b (h.rows.lt b e).2 fun e2=>h.og (by rw[<-XV,e,e2]),h.og,m hG,fun x hx=>m (h.all x hx)⟩;have f:w.heap[g]?=MI (MP (([]:List M7)++((XR V.u P.last).toList++[MG V.p V.xs.length V.c])).toArray 100 (0,0)):=h.box;exact anx 100 g (XR U G).toList [] (XR V.u P.last).toList [MG V.p V.xs.length V.c] w rfl f
theorem aBl{u:MO}(U:Us)(vs:List M7):aAa V {V with u:=U} g u (u.setCells g 0 vs):=by
 have f:=adF (B:=0) (w0:=u) (g:=g) (MY 0 u) (Nx _) 0 vs (Nx _);exact⟨f.os,f.tape,f.output,f.size,fun b q1 q2=>N8 u g 0 _ q1 fun e=>q2 (Nt e),fun b e=>Nt e⟩
theorem az9.MB(h:az9 base w g V P)(hs:w.heap.size<=w'.heap.size)(hb:∀b,b<w.heap.size->V.p.map (·.block)≠MI b->w'.heap[b]?=w.heap[b]?){p:Option Oc}{k:Nat}{x:aZZ}
  (ho:w'.ownsRow base 61 1 (MG p (V.xs++[x]).length k) (V.xs++[x]).length (rv aBr (V.xs++[x]))) (hp:∀b,p.map (·.block)=MI b->V.p.map (·.block)=MI b\/w.heap.size<=b)
  (hq:XG (V.off base g) w fun X=>Xw Z1 X (MG x.1 x.2.2.length x.2.1) x.2.2) :
  az9 base (w'.setCell ⟨g,26,MH⟩ (MG p (V.xs++[x]).length k)) g {V with p:=p,c:=k,xs:=V.xs++[x]} {P with outs:=P.outs++[x.2.2]}:=by
 have A:=(hb g h.lt h.og).trans h.box;have q:∀b,p.map (·.block)=MI b->b≠g:=fun b e e2=>by
  subst e2;rcases hp b e with e|e
  ·exact h.og e
  ·have:=h.lt;omega
 have m:∀b,b≠g->(w'.setCell ⟨g,26,MH⟩ (MG p (V.xs++[x]).length k)).heap[b]?=w'.heap[b]?:=fun b e=>MU _ _ _ _ (fun e2=>e e2)
 have u:(w'.setCell ⟨g,26,MH⟩ (MG p (V.xs++[x]).length k)).heap.size=w'.heap.size:=by simp
 have j:∀ {p':MO->Prop},XG (V.off base g) w p'->XG (aDj.off {V with p:=p,c:=k,xs:=V.xs++[x]} base g) (w'.setCell ⟨g,26,MH⟩ (MG p (V.xs++[x]).length k)) p':=fun hA =>
  hA.step (by rw[u];exact hs) (fun b q1 q2=>(m b fun e=>q2 (NF (Nt e))).trans (hb b q1 fun e=>q2 (NF (NF e)))) fun b q1 e=>by
   rcases e with e|e|e
   ·exact Nt e
   ·exact NF (Nt e)
   ·exact(hp b e).elim (fun e=>NF (NF e)) fun e=>by omega
 refine⟨?_,h.low,by rw[OI,h.eqs];rfl,W8 ho fun b e=>m b (q b (by rw[<-XV];exact e)),fun e=>q g e rfl,j h.last,fun y f=>?_⟩
 ·exact YO A rfl
 ·rcases QF.1 f with f|f
  ·exact j (h.all y f)
  ·rw[List.mem_singleton.1 f];exact j hq
theorem aBi:(MK.info? 61).map (fun i=>(i.zero,i.size,i.bytes))=MI (MI (MG MH 0 0),1,24):=by kernel_rfl
theorem aBx(h:az9 base w g V P)(hl:V.xs.length<=100000)(x:aZZ)(hq:XG (V.off base g) w fun X=>Xw Z1 X (MG x.1 x.2.2.length x.2.1) x.2.2) :
  ∃q c' w5,(N2 #[64,64] 64 #[MG V.p V.xs.length V.c,MG (MI ⟨w.heap.size,0,MH⟩) 1 1]).run MK (w.alloc (MP #[MG x.1 x.2.2.length x.2.1] 61))=aDu (MG (MI ⟨q,0,MH⟩) (V.xs.length+1) c') w5 /\
   (w5.cell? ⟨g,26,MH⟩=MI (MG V.p V.xs.length V.c)/\w5.frozen? ⟨g,26,MH⟩=Nb) /\
   az9 base (w5.setCell ⟨g,26,MH⟩ (MG (MI ⟨q,0,MH⟩) (V.xs.length+1) c')) g {V with p:=MI ⟨q,0,MH⟩,c:=c',xs:=V.xs++[x]} {P with outs:=P.outs++[x.2.2]} /\
   aAa V {V with p:=MI ⟨q,0,MH⟩,c:=c',xs:=V.xs++[x]} g w (w5.setCell ⟨g,26,MH⟩ (MG (MI ⟨q,0,MH⟩) (V.xs.length+1) c')):=by
 have D:base<=w.heap.size:=Nm h.low (PJ h.lt);obtain⟨q,c',w5,I,F,f,B⟩:=afC aBs aBt (by decide) Tryz.underlying64 aBi rfl (w:=w) (base:=base) h.rows D 64 x #[MG x.1 x.2.2.length x.2.1] rfl (by omega) (by unfold NE;omega);have j:∀b,b<w.heap.size->V.p.map (·.block)≠MI b->w5.heap[b]?=w.heap[b]?:=fun b hb hne=>f.block b hb (fun e=>hne (by rw[e,XV]))
 have u:=(j g h.lt h.og).trans h.box;have A:∀b,(MI (⟨q,0,MH⟩:Oc)).map (·.block)=MI b->V.p.map (·.block)=MI b\/w.heap.size<=b:=fun b e=>by
  cases e;rcases B with e|e
  ·exact Nt (by rw[<-XV _ V.xs.length V.c];exact e)
  ·exact NF (PJ e)
 have m:(V.xs++[x]).length=V.xs.length+1:=by simp
 have y:=h.MB (w':=w5) (p:=MI ⟨q,0,MH⟩) (k:=c') (x:=x) f.size j (by rw[m];exact F) A hq;rw[m]at y;refine⟨q,c',w5,I,⟨by rw[MW w5 g 26 _ _ (0,0) u];rfl,by simp[Ng,u]⟩,y,f.os,f.tape,f.output,by simp;exact f.size,fun b hb hn=>?_,fun b e=>?_⟩
 ·rw[MU _ _ _ _ (fun e=>hn (Nt e))]
  exact j b hb fun e=>hn (NF e)
 ·rcases e with e|e
  ·exact Nt (Nt e)
  ·exact(A b e).imp (fun e=>NF e) id
structure az7(base:Nat)(X:MO)(g:Nat)(V:aDj)(P:Gs)(h:Nat)(e:Ev):Prop where
 pat:az9 base X g V P
 evb:X.heap[h]?=MI (MP (aaV e).toArray 60 (0,0))
 blk:Xo X
theorem az7.on{X:MO}{h:Nat}{e:Ev}(k:az7 base X g V P h e)(hb:MQ X.heap.size X Y):az7 base Y g V P h e:=⟨k.pat.below hb,WO k.evb hb,k.blk.below hb⟩
theorem az7.ev{X:MO}{h:Nat}{e:Ev}(k:az7 base X g V P h e):X.rangeAt h 0 (aaV e):=agb k.evb
structure az6(base:Nat)(W u:MO)(g:Nat)(V:aDj)(P:Gs)(h:Nat)(e:Ev)(b:Nat)(M:List M7)(U:Us)(po:Option Oc)(co:Nat):Prop where
 dos:az7 base u g V P h e
 mem:M=(XR U (Xb P.last e)).toList
 box:u.heap[b]?=MI (MP M.toArray 55 (0,0))
 low:W.heap.size<=b
 bel:MQ W.heap.size W u
 ans:XG (V.off base g) u fun X=>Xd X U (Xb P.last e)/\Xw Z1 X (MG po (Xb P.last e).out.length co) (Xb P.last e).out
 lt:∀x,V.own g x->x<W.heap.size
 no:¬V.own g h
end
section
open Go.Extern.Stop Go.Stop Go.Extern
abbrev aBP(t:Nat):Value:=Na (MI ⟨2,t,MH⟩)
abbrev aDl(t:Nat)(a:Oc)(f:Int):Value:=Ny #[aBP t,Na (MI a),MF .u64 f]
abbrev aBQ(t:Nat):Value:=aDU 167 (Ny #[aBP t])
theorem aAu(t:Oc)(w:MO):(aDJ (aDU 132 (Na (MI t)))).run MK w=aDu (aDl 132 ⟨w.heap.size,0,MH⟩ 150) (w.alloc (MP #[Na (MI t)] 132)):=by kernel_rfl
theorem aAA(a:Oc)(w:MO):(aDR (aDv "reflectlite.Value.Type" 0) (fun t _ _ _=>aDW t) #[aDl 132 a 150]).run MK w=aDu (aBQ 132) w:=by kernel_rfl
theorem aAo(h:M7)(w:MO):(method 515 167 (Ny #[h]) "Kind").run MK w=aDu (290,h) w:=by kernel_rfl
theorem aAj(h:M7)(w:MO):(method 515 167 (Ny #[h]) "Elem").run MK w=aDu (304,Ny #[h]) w:=by kernel_rfl
theorem aAm(h:M7)(w:MO):(method 515 167 (Ny #[h]) "Implements").run MK w=aDu (305,Ny #[h]) w:=by kernel_rfl
theorem aAg(h:M7)(w:MO):(method 515 167 (Ny #[h]) "AssignableTo").run MK w=aDu (302,Ny #[h]) w:=by kernel_rfl
theorem aAp(w:MO):((aDI fun t=>(fun a:Nat=>MF aDN (a:Int)) <$> aEa t) #[aBP 132]).run MK w=aDu (MF aDN 22) w:=by kernel_rfl
theorem aAq(w:MO):((aDI fun t=>(fun a:Nat=>MF aDN (a:Int)) <$> aEa t) #[aBP 65]).run MK w=aDu (MF aDN 2) w:=by kernel_rfl
theorem aAl(w:MO):(aDX aD0 #[Ny #[aBP 132]]).run MK w=aDu (aBQ 65) w:=by kernel_rfl
theorem aAn(w:MO):(aDG "Implements" aDQ #[Ny #[aBP 65],aBQ 128]).run MK w=aDu (M3 Nw) w:=by kernel_rfl
theorem aAz(v:M7)(w:MO):(aDY #[aDU 65 v]).run MK w=aDu (aBQ 65) w:=by kernel_rfl
theorem aAh(w:MO):(aDG "AssignableTo" aDP #[Ny #[aBP 65],aBQ 65]).run MK w=aDu (M3 Nw) w:=by kernel_rfl
theorem aAC(c:Int)(w:MO):(aDJ (aDU 65 (MF ME c))).run MK w=aDu (aDl 65 ⟨w.heap.size,0,MH⟩ 130) (w.alloc (MP #[MF ME c] 65)):=by kernel_rfl
theorem aAv(a:Oc)(w:MO):(aDA (aDl 132 a 150)).run MK w=aDu (MI (132,a,150)) w:=by kernel_rfl
theorem aAw(a:Oc)(w:MO):(aDA (aDl 65 a 386)).run MK w=aDu (MI (65,a,386)) w:=by kernel_rfl
theorem aAx(a:Oc)(w:MO):(aDA (aDl 65 a 130)).run MK w=aDu (MI (65,a,130)) w:=by kernel_rfl
theorem aAk(w:MO):(Rtype.elem? 132).run MK w=aDu (MI 65) w:=by kernel_rfl
theorem aAs(p:Oc)(w:MO):(ReflectliteValue.mk 65 p aDS).run MK w=aDu (aDl 65 p 386) w:=by kernel_rfl
theorem aAi(w:MO):(Rtype.directlyAssignable 65 65).run MK w=aDu Nw w:=by kernel_rfl
theorem aAr(z:Sem M7)(f:NU->Oc->Nat->Nat->Sem M7)(v:M7):aDB z f #[v]=(do match <-aDA v with|none=>z|some (t,a,fl)=>f t a fl (fl % 32)):=rfl
theorem aAt(a p:Oc)(W:MO)(ha:W.cell? a=MI (Na (MI p))):(aDB (aDv "reflectlite.Value.IsNil" 0) aDK #[aDl 132 a 150]).run MK W=aDu (M3 Nb) W:=by
 rw[aAr];simp only[Pn,aAv,aDE];simp[aDK,loadVar,isAgg,underlying,aD2,ha,aDE]
theorem aAB(a p:Oc)(W:MO)(ha:W.cell? a=MI (Na (MI p))):(aDB (aDv "reflectlite.Value.Elem" 0) aDL #[aDl 132 a 150]).run MK W=aDu (aDl 65 p 386) W:=by
 rw[aAr];simp only[Pn,aAv,aDE];simp[aDL,loadVar,isAgg,underlying,aD2,ha,aDE,aAk,aAs]
theorem aAy(ta b:Oc)(c:Int)(old:M7)(W:MO)(hb:W.cell? b=MI (MF ME c))(ht:W.cell? ta=MI old)(hf:W.frozen? ta=Nb):(aDO #[aDl 65 ta 386,aDl 65 b 130]).run MK W=aDu (Nv #[]) (W.setCell ta (MF ME c)):=by
 obtain⟨k,f,j⟩:∃k:Option (NU×Oc×Nat)->Option (NU×Oc×Nat)->Sem M7,(∀v x,aDO #[v,x]=(aDA v >>= fun p=>aDA x >>= fun q=>k p q))/\(k (MI (65,ta,386)) (MI (65,b,130))).run MK W=aDu (Nv #[]) (W.setCell ta (MF ME c)):=by
  refine⟨_,fun v x=>rfl,?_⟩;simp[aDS,loadVar,isAgg,underlying,Tryz.underlying65,hb,aDE,aAi,storeVar,Value.cells,storeCells,aDD];rw[run_store MK W ta _ _ (by rfl)];simp[ht,hf]
 rw[f];simp only[Pn,aAw,aAx,aDE];exact j
theorem aAE(c:Int)(t:Oc)(old:M7)(w:MO)(hg:w.cell? ⟨0,0,MH⟩=MI (aBQ 128))(ht0:w.cell? t=MI old)(hf0:w.frozen? t=Nb) :
  Ni MK 32 #[aDU 65 (MF ME c),aDU 132 (Na (MI t))] w fun r w'=>r=MN (M3 Nw)/\w'=((((w.alloc (MP #[Na (MI t)] 132)).alloc (MP #[aBP 132,Na (MI ⟨w.heap.size,0,MH⟩),MF .u64 150] 152)).alloc (MP #[aBP 132,Na (MI ⟨w.heap.size,0,MH⟩),MF .u64 150] 152)).alloc (MP #[MF ME c] 65)).setCell t (MF ME c):=by
 have x1:=@aDt MK 46 _ (fun args=>aDJ (args.getD 0 (Nv #[]))) Tryz.func46 (by kernel_rfl) (by kernel_rfl) (by kernel_rfl) (by kernel_rfl);have x2:=@aDt MK 47 _ (aDR (aDv "reflectlite.Value.Type" 0) (fun t _ _ _=>aDW t)) Tryz.func47 (by kernel_rfl) (by kernel_rfl) (by kernel_rfl) (by kernel_rfl);have K:=@aDt MK 48 _ (aDB (aDv "reflectlite.Value.IsNil" 0) aDK) Tryz.func48 (by kernel_rfl) (by kernel_rfl) (by kernel_rfl) (by kernel_rfl);have Z:=@aDt MK 290 _ (aDI fun t=>do pure (MF aDN (<-aEa t))) Tryz.func290 (by kernel_rfl) (by kernel_rfl) (by kernel_rfl) (by kernel_rfl);have F:=@aDt MK 304 _ (aDX aD0) Tryz.func304 (by kernel_rfl) (by kernel_rfl) (by kernel_rfl) (by kernel_rfl);have u:=@aDt MK 305 _ (aDG "Implements" aDQ) Tryz.func305 (by kernel_rfl) (by kernel_rfl) (by kernel_rfl) (by kernel_rfl);have L:=@aDt MK 61 _ aDY Tryz.func61 (by kernel_rfl) (by kernel_rfl) (by kernel_rfl) (by kernel_rfl);have x8:=@aDt MK 302 _ (aDG "AssignableTo" aDP) Tryz.func302 (by kernel_rfl) (by kernel_rfl) (by kernel_rfl) (by kernel_rfl);have O:=@aDt MK 62 _ (aDB (aDv "reflectlite.Value.Elem" 0) aDL) Tryz.func62 (by kernel_rfl) (by kernel_rfl) (by kernel_rfl) (by kernel_rfl);have T:=@aDt MK 63 _ aDO Tryz.func63 (by kernel_rfl) (by kernel_rfl) (by kernel_rfl) (by kernel_rfl);have I:=aAz;have y2:=aAg;have y3:=aAh;have M:=aAC;have J:=aAu;have y:=aAA;have y7:=aAo;have y8:=aAj;have y9:=aAm;have N:=aAp;have D:=aAq;have z3:=aAl;have z4:=aAn;obtain⟨A,m⟩:∃A,A=w.alloc (MP #[Na (MI t)] 132):=⟨_,rfl⟩;have j:0<w.heap.size:=MX w ⟨0,0,MH⟩ hg;have f:t.block<w.heap.size:=MX w t ht0;have n8:=aAt ⟨w.heap.size,0,MH⟩ t ((w.alloc (MP #[Na (MI t)] 132)).alloc (MP #[aBP 132,Na (MI ⟨w.heap.size,0,MH⟩),MF .u64 150] 152)) (by simp);have q:((w.alloc (MP #[Na (MI t)] 132)).alloc (MP #[aBP 132,Na (MI ⟨w.heap.size,0,MH⟩),MF .u64 150] 152)).cell? ⟨0,0,MH⟩=MI (aBQ 128):=by
  rw[aDy _ _ ⟨0,0,MH⟩ (by simp),aDy _ _ ⟨0,0,MH⟩ j];exact hg
 have el:=aAB ⟨w.heap.size,0,MH⟩ t (((w.alloc (MP #[Na (MI t)] 132)).alloc (MP #[aBP 132,Na (MI ⟨w.heap.size,0,MH⟩),MF .u64 150] 152)).alloc (MP #[aBP 132,Na (MI ⟨w.heap.size,0,MH⟩),MF .u64 150] 152)) (by rw[aDy _ _ ⟨w.heap.size,0,MH⟩ (by simp;omega)];simp);have B:=aAy t ⟨w.heap.size+1+1+1,0,MH⟩ c old ((((w.alloc (MP #[Na (MI t)] 132)).alloc (MP #[aBP 132,Na (MI ⟨w.heap.size,0,MH⟩),MF .u64 150] 152)).alloc (MP #[aBP 132,Na (MI ⟨w.heap.size,0,MH⟩),MF .u64 150] 152)).alloc (MP #[MF ME c] 65))
  (by rw[World.cell?_alloc_at _ _ _ _ (by simp)];rfl)
  (by rw[aDy _ _ t (by simp;omega),aDy _ _ t (by simp;omega),aDy _ _ t (by simp;omega),aDy _ _ t f];exact ht0)
  (by rw[aDH _ _ t (by simp;omega),aDH _ _ t (by simp;omega),aDH _ _ t (by simp;omega),aDH _ _ t (Nat.ne_of_lt f)];exact hf0)
 clear m A;go_enter ayD,ayw;go_wp2;refine wp_loop_rounds 1 ?_;rw[rounds_succ];go_wp2;go_ret;exact⟨rfl,rfl⟩
end
abbrev aA2:List Value:=[MF ME 0,MF ME 0,MF ME 0,MF ME 0,M3 Nb,MF ME 0,MF ME 0,MF ME 0]
theorem aAF(v:M7)(w:MO):Ni MK 32 #[aD6,v] w fun r w'=>r=MN (M3 Nb)/\w'=w:=by
 go_enter ayD,ayw;go_wp2;go_ret;exact⟨rfl,rfl⟩
theorem aBD(w:MO):Ni MK 296 #[MF ME 0] w fun r w'=>r=MN aD6/\w'=w:=by
 go_enter Tryz.func296,Tryz.ntmps296;go_wp2;go_ret;exact⟨rfl,rfl⟩
def aAf(w:MO)(d b:Nat)(E:List M7)(X:MO):Prop:=X.rangeAt b 0 E/\b<X.heap.size/\(∃D:List M7,D.length=8/\X.heap[d]?=MI (MP D.toArray 60 (0,0)))/\MQ w.heap.size w X/\w.heap.size<=d/\d<b
theorem aAf.below{w X:MO}{b:Nat}(h:aAf w d b E X)(hb:MQ X.heap.size X Y):aAf w d b E Y:=by
 obtain⟨m,f,⟨D,y,q⟩,j,u,A⟩:=h;exact⟨afr m (hb.block b f),M8 f hb.size,⟨D,y,WO q hb⟩,j.trans (hb.mono j.size),u,A⟩
theorem aAf.F4{w X:MO}{b:Nat}(h:aAf w d b E X)(hE:E.length=8):aAf w d b E (X.setCells d 0 E)/\(X.setCells d 0 E).heap[d]?=MI (MP E.toArray 60 (0,0)):=by
 obtain⟨u,f,⟨D,A,y⟩,q,m,B⟩:=h;have j:(X.setCells d 0 E).heap[d]?=MI (MP E.toArray 60 (0,0)):=anq y (by rw[A,hE]);exact⟨⟨afr u (N8 X d 0 _ f (by omega)),by rw[ac3];exact f,⟨E,hE,j⟩,adF q m _ _ q.size,m,B⟩,j⟩
theorem aAf.GB{w X:MO}{b:Nat}(h:aAf w d b E X)(hn:n=8):X.there d 0 n:=by
 obtain⟨_,_,⟨D,j,f⟩,_⟩:=h;rw[hn,<-j];exact aeU f
def aCk(n:Nat):List Nat:=if h:n<128 then [n]else(n % 128+128)::aCk (n / 128)
theorem aCp(n:Nat)(h:n<128):aCk n=[n]:=by rw[aCk,dif_pos h]
theorem aCm(n:Nat)(h:¬n<128):aCk n=(n % 128+128)::aCk (n / 128):=by rw[aCk,dif_neg h]
def aCl(e:Ev):List Nat:=e.kind.toNat::((Zz e.kind).getD []).flatMap (fun f=>aCk (e.num f.off).toNat)
def aDc:List Nat->Nat
 | []=>0
 |x::t=>x % 128+128*aDc t
def aCK:Nat->List Nat->Nat
 |0,_=>0
 |_+1,[]=>0
 |k+1,x::t=>if 128<=x then aCK k t+1 else 0
abbrev Rd:=Sum Int (Nat×Nat)
def aDm(l:List Nat):Rd :=
 if aCK 6 l=6/\6<l.length then aEb 2
 else if aCK 6 l=l.length then aEb 4
 else if l.getD (aCK 6 l) 0=0/\0<aCK 6 l then aEb 3
 else aEc (aDc (l.take (aCK 6 l+1)),aCK 6 l+1)
def aCt:List Xf->List Nat->Ev->Ev×Int
 | [],[],e=>(e,0)
 | [],_::_,_=>(Ev.Hi,3)
 |f::fs,l,e =>
  match aDm l with
  | .inl c=>(Ev.Hi,c)
  | .inr (n,s)=>if f.lo<=(n:Int)/\(n:Int)<=f.hi then aCt fs (l.drop s) (e.Gd f.off n)else(Ev.Hi,2)
def aB9(l:List Nat):Ev×Int :=
 if 64<l.length then(Ev.Hi,1)
 else match l with
  | []=>(Ev.Hi,4)
  |k::t=>match Zz k with
   |none=>(Ev.Hi,5)
   |some fs=>aCt fs t {Ev.Hi with kind:=k}
def aCZ:Ev->List Xf->List Int->Ev
 |e,f::fs,n::ns=>aCZ (e.Gd f.off n) fs ns
 |e,_,_=>e
def Ev.aDr(e:Ev)(fs:List Xf):List Int:=fs.map fun f=>e.num f.off
theorem aC0(e:Ev)(fs:List Xf)(h:Zz e.kind=MI fs)(hw:fs.all e.GZ=Nw) :
  Nn (aCZ {Ev.Hi with kind:=e.kind} fs (e.aDr fs)=e)=e.GE fs:=by
 obtain⟨k,m,slot,j,aCG,q,u,wt⟩:=e
 dsimp only at h
 rcases afx k with⟨_,f⟩|rfl|rfl|rfl|rfl|rfl|rfl|rfl
 ·rw[f]at h;cases h
 all_goals
  unfold Zz at h;simp at h;subst h;cases aCG <;> simp[aCZ,Ev.aDr,Ev.num,Ev.Gd,Ev.GE,Ev.Gc,Ev.Hi,eq_comm]
theorem aCT{w w':MO}{base size:Nat}{t:NU}{xs:List M7}(h:w.ownsRow base t size v n xs)(hb:MQ w.heap.size w w'):w'.ownsRow base t size v n xs :=
 h.kept (row:=MH) (awI hb) (Classical.em _)
theorem Tryz.aDs:(MK.info? 5).map (fun i=>(i.zero,i.size,i.bytes))=MI (MI (MF aDN 0),1,1):=by kernel_rfl
def aB5(l:List Nat):List Value:=l.map fun x=>MF aDN ((x:Nat):Int)
theorem aCM{w:MO}{x:M7}(t:NU):∀j u,[x][j]?=MI u->(w.alloc (MP #[x] t)).cell? ((⟨w.heap.size,0,MH⟩:Oc).add j)=MI u:=by
 intro j u f
 match j,f with
 |0,f=>simp at f;subst f;simp[aDD]
theorem aCS:∀x:Nat,x<256->x |||128=x % 128+128:=by decide +kernel
theorem aCQ(k:Nat):bits .or aDN ((k:Int) % 256) 128=((k % 128+128:Nat):Int):=by
 have h:=u8_or_nat (k % 256) 128 (by omega) (by omega);rw[aCS _ (by omega),show k % 256 % 128=k % 128 by omega]at h;rw[<-h];congr 1
theorem aCo{w:MO}{base:Nat}{x m:Nat}{c:M7}(h:w.ownsRow base 5 1 v m (aB5 l++[c]))(hm:m=l.length+1)(hc:c=MF aDN ((x:Nat):Int)):w.ownsRow base 5 1 v (l++[x]).length (aB5 (l++[x])):=by
 subst hm hc;simpa [aB5]using h
theorem aB3(base:Nat)(v:M7)(l:List Nat)(n:Nat)(w:MO)(hown:w.ownsRow base 5 1 v l.length (aB5 l))(hbase:base<=w.heap.size)(hl:l.length<=1000)(hn:n<=4294967295) :
  Ni MK 22 #[v,MF ME (n:Int)] w fun r w'=>∃v',r=MN v'/\w'.ownsRow base 5 1 v' (l++aCk n).length (aB5 (l++aCk n))/\MQ base w w':=by
 obtain⟨K,L,D,J,F⟩:=OF Tryz.aDs;go_enter Tryz.func22,Tryz.ntmps22;go_wp2
 go_loopw [0,1] (fun x i wr=>∃(k:Nat) (aCV:List Nat),k<=n/\i=MF ME (k:Int)/\aCk n=aCV++aCk k/\wr.ownsRow base 5 1 x (l++aCV).length (aB5 (l++aCV))/\MQ base w wr/\aCV.length+k<=n) (fun _ i _=>(On i).toNat)
 case atStart=>exact⟨n,[],MV _,rfl,rfl,by simpa using hown,MY _ _,by simp⟩
 case round =>
  obtain⟨k,aCV,M,rfl,B,hown,j,O⟩:=hrel;have q:M6 (_/\_):=⟨B,j⟩;have I:base<=wr.heap.size:=by have:=j.size;omega
  clear B
  by_cases hlt:k<128
  ·have N:Nn ((128:Int)<=(k:Int))=false:=by simp;omega
   have m:M6 (k<128):=hlt;clear M hlt j
   go_wp2_with (at_builtin;refine wpList_append_own _ rfl _ _ 78 rfl base 5 K (MF aDN 0) 1 1 TG L D J F rfl (by decide) _ _ _ rfl (hown.alloc _) ⟨wr.heap.size,0,MH⟩ 1 1 [MF aDN ((k:Int) % 256)] rfl rfl (aCM 5) (by intro u f;simp at f;subst f;rfl) (by unfold NE;simp;omega) (by simp;omega) (by simp;omega) ?_)
   intro v' w1 y A _;go_wp2;go_ret;refine⟨_,rfl,?_,?_⟩
   ·rw[q.out.1,aCp k m.out,<-OC]
    exact aCo y (by simp) (by have:=m.out;congr 1;omega)
   ·exact(q.out.2.alloc I _).grown A (by simp;omega) (fun k' hk'=>(hown.lt k' hk').1)
  ·have N:(128:Int)<=(k:Int):=by omega
   have T:=aCQ k;have m:M6 (¬k<128):=hlt;clear j hlt
   go_wp2_with (at_builtin;refine wpList_append_own _ rfl _ _ 78 rfl base 5 K (MF aDN 0) 1 1 TG L D J F rfl (by decide) _ _ _ rfl (hown.alloc _) ⟨wr.heap.size,0,MH⟩ 1 1 [MF aDN ((k % 128+128:Nat):Int)] rfl rfl (aCM 5) (by intro u f;simp at f;subst f;rfl) (by unfold NE;simp;omega) (by simp;omega) (by simp;omega) ?_)
   intro v' w1 y A _;go_wp2
   go_roundw
   case rel =>
    refine⟨k / 128,aCV++[k % 128+128],by omega,by go_num,?_,?_,?_,by simp;omega⟩
    ·rw[q.out.1,aCm k m.out,OC];rfl
    ·rw[<-OC];exact aCo y (by simp) (by congr 1)
    ·exact(q.out.2.alloc I _).grown A (by simp;omega) (fun k' hk'=>(hown.lt k' hk').1)
   case measure=>simp[On];omega
theorem aCn(n:Nat)(h:n<=4294967295):(aCk n).length<=5:=by
 by_cases h0:n<128
 ·rw[aCp n h0];simp
 rw[aCm n h0]
 by_cases h1:n / 128<128
 ·rw[aCp _ h1];simp
 rw[aCm _ h1]
 by_cases h2:n / 128 / 128<128
 ·rw[aCp _ h2];simp
 rw[aCm _ h2]
 by_cases h3:n / 128 / 128 / 128<128
 ·rw[aCp _ h3];simp
 rw[aCm _ h3,aCp _ (by omega)];simp
theorem aCE{k:Int}{fs:List Xf}(h:Zz k=MI fs):(1<=k/\k<=7)/\∀f,f∈fs->0<=f.lo/\f.hi<=4294967295:=by
 rcases afx k with⟨_,j⟩|rfl|rfl|rfl|rfl|rfl|rfl|rfl
 ·rw[j]at h;cases h
 all_goals (unfold Zz at h;simp at h;subst h;simp)
theorem aCs{e:Ev}(h:Yk e=0):∃fs,Zz e.kind=MI fs/\fs.all e.GZ=Nw/\e.GE fs=true:=by
 unfold Yk at h
 split at h
 ·omega
 ·rename_i fs hf
  by_cases h1:fs.all e.GZ=Nw
  ·rw[Nh h1]at h
   by_cases h2:e.GE fs=Nw
   ·exact⟨fs,hf,h1,h2⟩
   ·rw[Nf h2]at h;omega
  ·rw[Nf h1]at h;omega
theorem aDh{e:Ev}{fs:List Xf}(hf:Zz e.kind=MI fs)(hw:fs.all e.GZ=Nw):∀f,f∈fs->0<=e.num f.off/\e.num f.off<=4294967295:=by
 intro f j;have m:=List.all_eq_true.1 hw f j;simp only[Ev.GZ,decide_eq_true_eq]at m;have q:=(aCE hf).2 f j;omega
def aCV(e:Ev)(fs:List Xf)(k:Nat):List Nat:=e.kind.toNat::(fs.take k).flatMap (fun f=>aCk (e.num f.off).toNat)
theorem aCY(e:Ev)(fs:List Xf)(k:Nat)(f:Xf)(h:fs.take (k+1)=fs.take k++[f]):aCV e fs (k+1)=aCV e fs k++aCk (e.num f.off).toNat:=by
 simp[aCV,h]
theorem aCW(e:Ev)(fs:List Xf)(h:Zz e.kind=MI fs):aCV e fs fs.length=aCl e:=by simp[aCV,aCl,h]
theorem aCD(e:Ev):∀(fs:List Xf),(∀f,f∈fs->0<=e.num f.off/\e.num f.off<=4294967295)->(fs.flatMap (fun f=>aCk (e.num f.off).toNat)).length<=5*fs.length
 | [],_=>by simp
 |f::fs,h=>by
  have j:=aCD e fs (fun g hg=>h g (NB _ hg));have m:=aCn (e.num f.off).toNat (by have:=h f (NM ..);omega);simp only[List.flatMap_cons,Ns,Ox];omega
theorem aCX(e:Ev)(fs:List Xf)(k:Nat)(hk:k<=fs.length)(h:∀f,f∈fs->0<=e.num f.off/\e.num f.off<=4294967295):(aCV e fs k).length<=5*k+1:=by
 have:=aCD e (fs.take k) (fun f hf=>h f (aDw hf));simp only[aCV,Ox];rw[NH,P1 hk]at this;omega
theorem aCr(e:Ev)(w:MO)(h:Yk e=0) :
  Ni MK 10 #[Ny #[MF ME e.kind,MF ME e.key,MF ME e.slot,MF ME e.gen,M3 e.good,MF ME e.req,MF ME e.be,MF ME e.wt]] w fun r w'=>∃v,r=MN (Nv #[v,MF ME 0])/\w'.ownsRow w.heap.size 5 1 v (aCl e).length (aB5 (aCl e))/\MQ w.heap.size w w':=by
 obtain⟨fs,u,L,b7⟩:=aCs h;have c7:=an3 u;have d9:=(aCE u).1;have a7:=aDh u L;have q:M6 (_/\_/\_):=⟨u,a7,h⟩;clear L b7 a7;go_enter Tryz.func10,Tryz.ntmps10
 go_wp2_with fail
 refine(awv e _).mono ?_;rw[h];rintro r w1 ⟨rfl,F⟩;have A:YT w1 w.heap.size e:=YT.below (adS w _) F (by simp);clear h u
 go_wp2_with fail
 refine(an1 w.heap.size e fs _ A q.out.1).mono ?_;rintro r w0 ⟨v,rfl,y,j⟩;obtain⟨a,d8,rfl,Z⟩:=an8 j;have D:YT w0 w.heap.size e:=YT.below A y A.lt;have T:MQ w.heap.size w w0:=((MY _ _).alloc (MV _) _).trans ((ag1 F y).mono (by simp));have J:M6 (_/\_/\_):=⟨Z,T,y⟩;clear j Z y F T;obtain⟨e0,e1,e2,e3,e4,e5,e6,e7⟩:=D.Jl;clear e1 e2 e3 e4 e5 e6 e7;have c6:=D.lt;go_wp2
 go_loopw [7,25] (fun x i wr=>∃k:Nat,k<=fs.length/\i=MF ME k/\wr.ownsRow w0.heap.size 5 1 x (aCV e fs k).length (aB5 (aCV e fs k))/\MQ w0.heap.size w0 wr) (fun _ i _=>fs.length-(On i).toNat)
 case atStart =>
  refine⟨0,Nx _,rfl,?_,(MY _ _).alloc (MV _) _⟩;have:=ag2 (w:=w0) (base:=w0.heap.size) (n:=1) (e:=5) (size:=1) #[MF aDN e.kind] (MV _) (by unfold NE;omega) rfl;have e':((e.kind.toNat:Nat):Int)=e.kind:=by omega
  simpa [aCV,aB5,e']using this
 case round =>
  obtain⟨k,hk,rfl,j,m⟩:=hrel;have c9:=aCX e fs k hk q.out.2.1
  by_cases hlt:k<fs.length
  ·have O:fs[k]?=MI fs[k]:=MR hlt
   have I:fs.take (k+1)=fs.take k++[fs[k]]:=M9 hlt;have M:=an4 q.out.1 fs[k] (Nk hlt);have a0:=q.out.2.1 fs[k] (Nk hlt);generalize fs[k]=f at *;obtain⟨g,rfl,g1,g2,c0,c1,c2,c3⟩:=J.out.1 k f O;have a5:∀o,wr.cell? ⟨g,o,MH⟩=w0.cell? ⟨g,o,MH⟩:=fun o=>m.cell (p:=⟨g,o,MH⟩) g2
   rw[<-a5]at c0 c1 c2 c3;have HT:M6 (_/\_):=⟨I,aCY e fs k f I⟩;clear O I a5;have b8:=m.size;have hE:YT wr w.heap.size e:=D.below m c6;have N:∀x,YT (wr.alloc x) w.heap.size e:=fun x=>by unfold YT;rw[Ov _ _ _ (by omega)];exact hE
   have HE:M6 (∀x,YT (wr.alloc x) w.heap.size e):=N;clear N hE
   go_wp2_with fail
   refine(an5 w.heap.size f e _ (HE.out _) M.1 M.2).mono ?_;rintro r w2 ⟨rfl,B⟩;have a8:=aCT (j.alloc _) B;have a6:MQ w0.heap.size w0 w2:=(m.alloc b8 _).trans (B.mono (by simp;omega));have b0:=a6.size;obtain⟨n,K⟩:=Int.eq_ofNat_of_zero_le a0.1;have c4:M6 (aCV e fs (k+1)=aCV e fs k++aCk n):=by have h:=HT.out.2;rw[K,Int.toNat_natCast]at h;exact h
   rw[K];have c5:n<=4294967295:=by omega
   clear K a0 B
   go_wp2_with fail
   refine(aB3 w0.heap.size _ (aCV e fs k) n _ a8 b0 (by omega) c5).mono ?_;rintro r w3 ⟨v',rfl,a9,b9⟩;go_wp2
   go_roundw
   case rel=>exact⟨k+1,by omega,by go_num,by rw[c4.out];exact a9,a6.trans b9⟩
   case measure=>simp[On];omega
  ·have:k=fs.length:=by omega
   subst this;rw[aCW e fs q.out.1]at j;go_wp2
   go_ret2
   have hs:=J.out.2.1.size;exact⟨_,rfl,j.mono hs,J.out.2.1.trans (m.mono hs)⟩
def aBW(w:MO)(v:M7)(l:List Nat):Prop :=
 ∃a cap,v=MG a l.length cap/\l.length<=cap/\(a=MH/\l=[]\/l=[]\/∃b off,a=MI ⟨b,off,MH⟩/\b<w.heap.size/\∀i,i<l.length->w.cell? ⟨b,off+i,MH⟩=MI (MF aDN ((l.getD i 0:Nat):Int)))
theorem aB6{w:MO}{base:Nat}(h:w.ownsRow base 5 1 v l.length (aB5 l)):aBW w v l:=by
 obtain⟨F,⟨rfl,j⟩|⟨g,y,q,rfl,I,f,j,K,J,B⟩⟩:=h
 ·have:=List.length_eq_zero_iff.1 j
  subst this;exact⟨MH,0,rfl,MV _,Nt ⟨rfl,rfl⟩⟩
 ·refine⟨_,y,rfl,j,NF (NF ⟨g,0,rfl,?_,fun i hi=>?_⟩)⟩
  ·rcases Oq g w.heap.size with A|u
   ·exact A
   ·rw[Array.getElem?_eq_none u]at f;cases f
  ·have m:(aB5 l)[i]?=MI (MF aDN ((l.getD i 0:Nat):Int)):=by
    simp[aB5,aDz,MR hi,Pq]
   rw[<-B,O0 (by omega)]at m;have D:q[i]?=MI (MF aDN ((l.getD i 0:Nat):Int)):=by simpa using m
   simp only[World.cell?,f,Oa]
   simpa using D
theorem aCO(n:Nat)(h:n<18446744073709551616):(BitVec.ofInt 64 (n:Int)).toNat=n:=by
 rw[BitVec.ofInt_natCast,BitVec.toNat_ofNat];exact Nat.mod_eq_of_lt h
theorem aCR(a b:Nat)(ha:a<2 ^ 62)(hb:b<2 ^ 62):bits .or ME (a:Int) (b:Int)=((a |||b:Nat):Int):=by
 show IntKind.i64.wrap ((BitVec.ofInt 64 (a:Int) |||BitVec.ofInt 64 (b:Int)).toNat:Int)=_;rw[BitVec.toNat_or,aCO a (by omega),aCO b (by omega)];have:=Nat.or_lt_two_pow ha hb;simp only[IntKind.wrap,IntKind.bits,IntKind.signed];simp;omega
theorem aCN:∀x:Nat,x<256->x &&& (255-128)=x % 128:=by decide +kernel
theorem aB2:∀x:Nat,x<256->x &&& 128=if 128<=x then 128 else 0:=by decide +kernel
theorem aCU(k:Nat):(2:Nat) ^ (k*7)=128 ^ k:=by rw[R5,Nat.pow_mul]
theorem aB1(n x k:Nat)(hn:n<128 ^ k)(hk:k<6)(hx:x<256) :
  bits .or ME (n:Int) (wrap64 (wrap64 (bits .andNot aDN (x:Int) 128)*2 ^ (k*7)))=((n+x % 128*128 ^ k:Nat):Int):=by
 have f:bits .andNot aDN (x:Int) 128=((x % 128:Nat):Int):=by
  have:=u8_andNot_nat x 128 hx (by omega);rw[aCN x hx]at this;exact this
 have q:128 ^ k<=128 ^ 5:=Nat.pow_le_pow_right (by omega) (by omega);have A:x % 128<128:=by omega
 generalize x % 128=y at *;have B:y*128 ^ k<2 ^ 43:=by
  calc y*128 ^ k<=127*128 ^ 5:=Nat.mul_le_mul (by omega) q
   _<2 ^ 43:=by decide
 have u:wrap64 ((y:Nat):Int)=y:=by unfold wrap64;omega
 have j:((y:Nat):Int)*2 ^ (k*7)=((y*128 ^ k:Nat):Int):=by rw[<-aCU];simp
 have m:wrap64 ((y*128 ^ k:Nat):Int)=((y*128 ^ k:Nat):Int):=by generalize y*128 ^ k=z at *;unfold wrap64;omega
 rw[f,u,j,m,aCR n _ (by omega) (by omega)]
 congr 1
 have:=Nat.two_pow_add_eq_or_of_lt (i:=k*7) (b:=n) (by rw[aCU];exact hn) y;rw[aCU]at this;rw[Nat.or_comm,R5 y,<-this];omega
theorem aDd:∀(l:List Nat),aDc l<128 ^ l.length
 | []=>by simp[aDc]
 |x::t=>by
  have:=aDd t;simp only[aDc,Ox,Nat.pow_succ];omega
theorem aDe:∀(l:List Nat) (x:Nat),aDc (l++[x])=aDc l+x % 128*128 ^ l.length
 | [],x=>by simp[aDc]
 |y::t,x=>by
  simp only[List.cons_append,aDc,aDe t x,Ox,Nat.pow_succ,Nat.mul_add,<-aDx]
  congr 1
  rw[Nat.mul_left_comm,R5 128]
theorem aCF(l:List Nat)(k:Nat)(h:k<l.length):l.getD k 0=l[k]:=by simp[Pq,MR h]
theorem aCL:∀(f:Nat) (l:List Nat) (k:Nat),k<=f->k<=l.length->(∀j,j<k->128<=l.getD j 0)->(k=f\/k=l.length\/l.getD k 0<128)->aCK f l=k
 |0,l,k,h1,h2,h3,h4=>by simp[aCK];omega
 |f+1,[],k,h1,h2,h3,h4=>by simp at h2;simp[aCK,h2]
 |f+1,x::t,0,h1,h2,h3,h4=>by
  have:x<128:=by
   rcases h4 with h|h|h
   ·omega
   ·simp at h
   ·simpa using h
  rw[aCK,Nf (by omega)]
 |f+1,x::t,k+1,h1,h2,h3,h4=>by
  have m:128<=x:=by simpa using h3 0 (by omega)
  rw[aCK,Nh m,aCL f t k (by omega) (by simpa using h2) (fun j hj=>by simpa using h3 (j+1) (by omega))];rcases h4 with h|h|h
  ·exact Nt (by omega)
  ·exact NF (Nt (by simpa using h))
  ·exact NF (NF (by simpa using h))
theorem aC9(l:List Nat)(hl:6<l.length)(h:∀j,j<6->128<=l.getD j 0):aDm l=aEb 2:=by
 have:=aCL 6 l 6 (by omega) (by omega) h (Nt rfl);unfold aDm;rw[this,Nh ⟨rfl,hl⟩]
theorem aDb(l:List Nat)(hl:l.length<=6)(h:∀j,j<l.length->128<=l.getD j 0):aDm l=aEb 4:=by
 have:=aCL 6 l l.length hl (by omega) h (NF (Nt rfl));unfold aDm;rw[this,Nf (by omega),Nh rfl]
theorem aC7(l:List Nat)(k:Nat)(hk:k<=6)(hl:k<l.length)(h:∀j,j<k->128<=l.getD j 0)(h0:l.getD k 0=0)(hp:0<k)(h6:k<6):aDm l=aEb 3:=by
 have:=aCL 6 l k (by omega) (by omega) h (NF (NF (by omega)));unfold aDm;rw[this,Nf (by omega),Nf (by omega),Nh ⟨h0,hp⟩]
theorem aC8(l:List Nat)(k:Nat)(hl:k<l.length)(h:∀j,j<k->128<=l.getD j 0)(h0:l.getD k 0<128)(hn:¬(l.getD k 0=0/\0<k))(h6:k<6):aDm l=aEc (aDc (l.take (k+1)),k+1):=by
 have:=aCL 6 l k (by omega) (by omega) h (NF (NF h0));unfold aDm;rw[this,Nf (by omega),Nf (by omega),Nf hn]
theorem aDf(l:List Nat)(k:Nat)(h:k<l.length):aDc (l.take (k+1))=aDc (l.take k)+l.getD k 0 % 128*128 ^ k:=by
 rw[M9 h,aDe,aCF l k h,NH,P1 (by omega)]
theorem aDg(l:List Nat)(k:Nat)(h:k<=l.length):aDc (l.take k)<128 ^ k:=by
 have:=aDd (l.take k);rwa[NH,P1 h]at this
def aB0(l:List Nat)(w:MO)(r:Ending)(w':MO):Prop :=
 (∀c,aDm l=aEb c->r=MN (Nv #[MF ME 0,MF ME 0,MF ME c]))/\(∀n s,aDm l=aEc (n,s)->r=MN (Nv #[MF ME (n:Int),MF ME (s:Int),MF ME 0]))/\w'=w
theorem aC1{w:MO}{c:Int}(h:aDm l=aEb c):aB0 l w (MN (Nv #[MF ME 0,MF ME 0,MF ME c])) w :=
 ⟨fun c' h'=>(by rw[h]at h';cases h';rfl),fun n s h'=>(by rw[h]at h';cases h'),rfl⟩
theorem aC2{w:MO}{a b:Int}(h:aDm l=aEc (n,s))(ha:a=n)(hb:b=s):aB0 l w (MN (Nv #[MF ME a,MF ME b,MF ME 0])) w :=
 ⟨fun c' h'=>(by rw[h]at h';cases h'),fun n s h'=>(by rw[h]at h';cases h';rw[ha,hb]),rfl⟩
theorem aC3(b off cap:Nat)(l:List Nat)(w:MO)(hl:l.length<=64)(hx:∀x∈l,x<256)(hcell:∀i,i<l.length->w.cell? ⟨b,off+i,MH⟩=MI (MF aDN ((l.getD i 0:Nat):Int))) :
  Ni MK 35 #[MG (MI ⟨b,off,MH⟩) l.length cap] w (aB0 l w):=by
 have N:M6 (_/\_):=⟨hcell,hx⟩;clear hcell hx;go_enter Tryz.func35,Tryz.ntmps35;go_wp2
 go_loop [5,10] (fun s i=>∃k:Nat,k<=l.length/\k<=6/\i=MF ME (k:Int)/\s=MF ME ((aDc (l.take k):Nat):Int)/\∀j,j<k->128<=l.getD j 0) (fun _ i=>l.length-(On i).toNat)
 case atStart=>exact⟨0,Nx _,by omega,rfl,rfl,fun j h=>by omega⟩
 case round =>
  obtain⟨k,hk,J,rfl,rfl,m⟩:=hrel
  by_cases hlt:k<l.length
  ·have L:=N.out.1 k hlt
   have q:l.getD k 0<256:=by rw[aCF l k hlt];exact N.out.2 _ (Nk hlt)
   have B:=aDf l k hlt;have I:=aDg l k (by omega);have O:M6 (∃x,x=l.getD k 0):=⟨_,rfl⟩;obtain⟨x,u⟩:=O.out;rw[<-u]at L q B;generalize aDc (l.take k)=n at *;have f:M6 (_/\_/\_/\_):=⟨m,u,B,I⟩;clear m u B I O
   by_cases h6:k=6
   ·subst h6
    go_wp2
    go_ret3
    exact aC1 (aC9 l hlt f.out.1)
   ·have Z:((k:Int) == 6)=false:=by simp;omega
    have y:k<6:=by omega
    have A:=aB1 n x k f.out.2.2.2 y q;rw[<-f.out.2.2.1]at A;have F:bits .and aDN (x:Int) 128=(((if 128<=x then 128 else 0):Nat):Int):=by
     have:=u8_and_nat x 128 q (by omega);rw[aB2 x q]at this;exact this
    have D:M6 (_/\_):=⟨A,h6⟩;clear A h6
    by_cases hx1:128<=x
    ·rw[Nh hx1]at F
     go_wp2
     go_round
     case rel =>
      refine⟨k+1,by omega,by omega,by go_num,by rw[D.out.1],fun j hj=>?_⟩
      by_cases hjk:j<k
      ·exact f.out.1 j hjk
      ·have:j=k:=by omega
       subst this;rw[<-f.out.2.1];exact hx1
     case measure=>simp[On];omega
    ·rw[Nf hx1]at F
     by_cases hx0:x=0/\0<k
     ·obtain⟨rfl,a5⟩:=hx0
      have a7:(0:Int)<(k:Int):=by omega
      go_wp2
      go_ret3
      exact aC1 (aC7 l k J hlt f.out.1 f.out.2.1.symm a5 y)
     ·have K:=aC8 l k hlt f.out.1 (by rw[<-f.out.2.1];omega) (by rw[<-f.out.2.1];exact hx0) y
      have M:M6 (aDm l=aEc (aDc (List.take (k+1) l),k+1)):=K;clear K
      by_cases hxz:x=0
      ·subst hxz
       have a0:k=0:=by omega
       subst a0;simp only[Oe]at L;clear Z hx0;go_wp2
       go_ret3
       exact aC2 M.out (by have h:=D.out.1;rw[Nat.zero_mul,Int.pow_zero,Int.mul_one]at h;exact h) rfl
      ·have a6:((x:Int) == 0)=false:=by simp;omega
       clear hx0;go_wp2
       go_ret3
       exact aC2 M.out D.out.1 (by simp)
  ·have T:k=l.length:=by omega
   subst T;have HS:M6 (aDm l=aEb 4):=aDb l J m;clear m;go_wp2
   go_ret3
   exact aC1 HS.out
theorem aC5(a:Option Oc)(cap:Nat)(w:MO):Ni MK 35 #[MG a 0 cap] w (aB0 [] w):=by
 have f:M6 (aDm []=aEb 4):=rfl;go_enter Tryz.func35,Tryz.ntmps35;go_wp2
 go_loop [5,10] (fun s i=>i=MF ME 0) (fun _ i=>0)
 case atStart=>rfl
 case round =>
  subst hrel;go_wp2
  go_ret3
  exact aC1 f.out
theorem aDa(h:aDm l=aEc (n,s)):1<=s/\s<=l.length/\s<=6/\n<128 ^ 6:=by
 unfold aDm at h;have m:∀(f:Nat) (l:List Nat),aCK f l<=f/\aCK f l<=l.length:=by
  intro f
  induction f with
  |zero=>intro l;simp[aCK]
  |succ f ih =>
   intro l;cases l with
   |nil=>simp[aCK]
   |cons x t =>
    unfold aCK
    split
    ·have:=ih t;simp;omega
    ·simp
 have q:=m 6 l
 split at h
 ·cases h
 ·split at h
  ·cases h
  ·split at h
   ·cases h
   ·rename_i h1 h2 h3
    cases h;have j:aCK 6 l+1<=l.length:=by omega
    refine⟨by omega,j,by omega,?_⟩;have:=aDg l (aCK 6 l+1) j;exact M8 this (Nat.pow_le_pow_right (by omega) (by omega))
def aBX(w:MO)(v:M7)(l:List Nat)(be:Nat):Prop :=
 ∃a cap,v=MG a l.length cap/\l.length<=cap/\(l=[]\/∃b off,a=MI ⟨b,off,MH⟩/\b<w.heap.size/\b≠be/\∀i,i<l.length->w.cell? ⟨b,off+i,MH⟩=MI (MF aDN ((l.getD i 0:Nat):Int)))
theorem aB8{w:MO}{b off cap be:Nat}(hc:l.length<=cap)(hb:b<w.heap.size)(hne:b≠be)(h:∀i,i<l.length->w.cell? ⟨b,off+i,MH⟩=MI (MF aDN ((l.getD i 0:Nat):Int)))(hs:s<=l.length):
  aBX w (MG (if cap=s then MI ⟨b,off,MH⟩else MI ⟨b,off+s,MH⟩) (l.length-s) (cap-s)) (l.drop s) be:=by
 refine⟨_,_,by rw[NJ],by rw[NJ];omega,?_⟩
 by_cases hl:s=l.length
 ·exact Nt (by rw[hl];simp)
 ·refine NF ⟨b,off+s,by rw[Nf (by omega)],hb,hne,fun i hi=>?_⟩
  rw[NJ]at hi;rw[aDx,h (s+i) (by omega)];simp[Pq]
theorem aB7{w:MO}{be:Nat}(h:aBX w v l be){wr:MO}(hg:w.grownBy wr (MI be))(hl:l.length<=64)(hx:∀x∈l,x<256):
  Ni MK 35 #[v] wr (aB0 l wr):=by
 obtain⟨a,f,rfl,u,rfl|⟨b,off,rfl,q,j,m⟩⟩:=h
 ·exact aC5 a f wr
 ·exact aC3 b off f l wr hl hx (fun i hi=>by rw[hg.cell_far ⟨b,off+i,MH⟩ q (by simpa using j)];exact m i hi)
def aBZ(fs:List Xf)(l:List Nat)(e:Ev)(be:Nat)(w:MO)(r:Ending)(w':MO):Prop :=
 r=MN (MF ME (aCt fs l e).2)/\w.grownBy w' (MI be)/\((aCt fs l e).2=0->YT w' be (aCt fs l e).1)
theorem aCz(e:Ev):aCt [] [] e=(e,0):=by rw[aCt]
theorem aCy(x:Nat)(t:List Nat)(e:Ev):aCt [] (x::t) e=(Ev.Hi,3):=by rw[aCt]
theorem aCv(f:Xf)(fs:List Xf)(l:List Nat)(e:Ev)(c:Int)(h:aDm l=aEb c):aCt (f::fs) l e=(Ev.Hi,c):=by rw[aCt,h]
theorem aCA(f:Xf)(fs:List Xf)(l:List Nat)(e:Ev)(n s:Nat)(h:aDm l=aEc (n,s))(hn:¬(f.lo<=(n:Int)/\(n:Int)<=f.hi)):aCt (f::fs) l e=(Ev.Hi,2):=by rw[aCt,h];simp only[];rw[Nf hn]
theorem aCx(f:Xf)(fs:List Xf)(l:List Nat)(e:Ev)(n s:Nat)(h:aDm l=aEc (n,s))(hn:f.lo<=(n:Int)/\(n:Int)<=f.hi):aCt (f::fs) l e=aCt fs (l.drop s) (e.Gd f.off n):=by rw[aCt,h];simp only[];rw[Nh hn]
theorem aC4{c:Int}(h:aDm l=aEb c):c≠0:=by
 unfold aDm at h
 split at h
 ·cases h;decide
 ·split at h
  ·cases h;decide
  ·split at h
   ·cases h;decide
   ·cases h
theorem aCu(be:Nat)(a:Option Oc)(cap:Nat)(v:M7)(fs:List Xf)(l:List Nat)(e:Ev)(w:MO)(hoff:∀f,f∈fs->1<=f.off/\f.off<=7)(hf3:fs.length<=3)(hE:YT w be e)(hl:l.length<=64)(hx:∀x∈l,x<256)
  (hat:∀k f,fs[k]?=MI f->∃g,a=MI ⟨g,0,MH⟩/\g≠be/\g<w.heap.size/\w.cell? ⟨g,k*4,MH⟩=MI (Na (pp be f))/\w.cell? ⟨g,k*4+1,MH⟩=MI (Na (pq be f))/\w.cell? ⟨g,k*4+2,MH⟩=MI (MF ME f.lo)/\w.cell? ⟨g,k*4+3,MH⟩=MI (MF ME f.hi))
  (hv:aBX w v l be) :
  Ni MK 20 #[MG a fs.length cap,v] w (aBZ fs l e be w):=by
 have HH:M6 (_/\_/\_):=⟨hat,hoff,hx⟩;clear hat hoff hx;go_enter Tryz.func20,Tryz.ntmps20;go_wp2
 go_loopw [1,12] (fun u i wr=>∃(k:Nat) (B:List Nat) (F:Ev),k<=fs.length/\i=MF ME (k:Int)/\aCt fs l e=aCt (fs.drop k) B F/\aBX w u B be/\YT wr be F/\w.grownBy wr (MI be)/\B.length<=64/\∀x∈B,x<256) (fun _ i _=>fs.length-(On i).toNat)
 case atStart=>exact⟨0,l,e,Nx _,rfl,rfl,hv,hE,⟨rfl,rfl,rfl,MV _,fun _ _ _=>rfl⟩,hl,HH.out.2.2⟩
 case round =>
  obtain⟨k,B,F,hk,rfl,y,a8,M,I,e8,b9⟩:=hrel;have D:M6 (_/\_/\_/\_):=⟨y,a8,b9,hv⟩;clear y a8 b9 hv;have f8:=I.size;have c5:=M.lt
  by_cases hlt:k<fs.length
  ·have N:fs[k]?=MI fs[k]:=MR hlt
   have b0:fs.drop k=fs[k]::fs.drop (k+1):=OK hlt;have b7:=HH.out.2.1 fs[k] (Nk hlt);generalize fs[k]=f at *;obtain⟨g,rfl,g1,g2,c0,c1,c2,c3⟩:=HH.out.1 k f N;have a9:∀o,wr.cell? ⟨g,o,MH⟩=w.cell? ⟨g,o,MH⟩:=fun o=>I.cell_far ⟨g,o,MH⟩ g2 (by simpa using g1)
   rw[<-a9]at c0 c1 c2 c3;have HT:M6 (_/\_):=⟨b0,N⟩;clear N b0 a9;have a7:∀x,w.grownBy (wr.alloc x) (MI be):=fun x=>an7 I (awI ((MY _ _).alloc (MV _) _))
   have K:M6 (_/\_):=⟨a7,I⟩;clear a7 I;have a5:=aB7 D.out.2.1 (K.out.1 (MP #[Na (pp be f),Na (pq be f),MF ME f.lo,MF ME f.hi] 110)) e8 D.out.2.2.1;have HN:M6 _:=a5;clear a5
   go_wp2_with fail
   refine Nd HN.out ?_;rintro r w1 ⟨L,T,rfl⟩;cases hrd:aDm B with
   |inl c =>
    obtain rfl:=L c hrd;have O:=aC4 hrd;have f4:(c != 0)=true:=by rw[bne_iff_ne];exact O
    have J:aCt fs l e=(Ev.Hi,c):=by rw[D.out.1,HT.out.1,aCv _ _ _ _ _ hrd]
    have j:M6 (_/\_):=⟨J,O⟩;clear L T hrd J O;go_wp2;go_ret;refine⟨by rw[j.out.1];rfl,K.out.1 _,fun h=>absurd h (by rw[j.out.1];exact j.out.2)⟩
   |inr q =>
    obtain⟨n,s⟩:=q;obtain rfl:=T n s hrd;obtain⟨s1,Z,s6,n6⟩:=aDa hrd;obtain⟨a',a6,rfl,b8,c6|⟨b,off,rfl,hb,c4,a0⟩⟩:=D.out.2.1
    ·rw[c6]at Z;simp at Z;omega
    ·have j:M6 (_/\_):=⟨hrd,a0⟩
     clear L T hrd a0 HN;have f9:(0:Int)<=(s:Int):=by omega
     have g4:(s:Int)<=(B.length:Int):=by omega
     have f6:(B.length:Int)<=(a6:Int):=by omega
     by_cases hin:f.lo<=(n:Int)/\(n:Int)<=f.hi
     ·go_wp2_with fail
      refine(awP _ _ f.lo f.hi (n:Int) _ hin.1 hin.2).mono ?_;rintro r w2 ⟨rfl,A⟩;have c7:YT w2 be F:=YT.below (b:=be) (by unfold YT;rw[Ov _ _ _ c5];exact M) A (by simp;omega);have n0:w2.cell? ⟨wr.heap.size,0,MH⟩=MI (Na (pp be f)):=by rw[A.cell (p:=⟨wr.heap.size,0,MH⟩) (by simp)];simp
      have n1:w2.cell? ⟨wr.heap.size,1,MH⟩=MI (Na (pq be f)):=by rw[A.cell (p:=⟨wr.heap.size,1,MH⟩) (by simp)];simp
      have n2:w2.cell? ⟨wr.heap.size,2,MH⟩=MI (MF ME f.lo):=by rw[A.cell (p:=⟨wr.heap.size,2,MH⟩) (by simp)];simp
      have n3:w2.cell? ⟨wr.heap.size,3,MH⟩=MI (MF ME f.hi):=by rw[A.cell (p:=⟨wr.heap.size,3,MH⟩) (by simp)];simp
      have c9:M6 (w.grownBy w2 (MI be)):=an7 (K.out.1 _) (awI A);clear A
      go_wp2_with fail
      refine(awL be f F (n:Int) _ c7 b7.1 b7.2).mono ?_;rintro r w3 ⟨rfl,d8,f3⟩;clear n0 n1 n2 n3;go_wp2;refine⟨⟨k+1,B.drop s,F.Gd f.off n,by omega,by go_num,?_,aB8 b8 hb c4 j.out.2 Z,d8,an7 c9.out f3,by rw[NJ];omega,fun x hx=>D.out.2.2.1 x (List.mem_of_mem_drop hx)⟩,by simp[On];omega⟩;rw[D.out.1,HT.out.1,aCx _ _ _ _ _ _ j.out.1 hin]
     ·go_wp2_with fail
      refine(awO _ _ f.lo f.hi (n:Int) _ hin).mono ?_;rintro r w2 ⟨rfl,A⟩;have J:aCt fs l e=(Ev.Hi,2):=by rw[D.out.1,HT.out.1,aCA _ _ _ _ _ _ j.out.1 hin]
      have HQ:M6 (_/\_):=⟨J,an7 (K.out.1 _) (awI A)⟩;clear J A;go_wp2;go_ret;refine⟨by rw[HQ.out.1];rfl,HQ.out.2,fun h=>absurd h (by rw[HQ.out.1];decide)⟩
  ·have d9:k=fs.length:=by omega
   subst d9;have y:=D.out.1;rw[List.drop_length]at y;obtain⟨a',a6,rfl,b8,_⟩:=D.out.2.1;cases B with
   |nil =>
    rw[aCz]at y;have j:M6 (aCt fs l e=(F,0)):=y;clear y;go_wp2;go_ret;exact⟨by rw[j.out];rfl,I,fun _=>by rw[j.out];exact M⟩
   |cons x t =>
    rw[aCy]at y;have j:M6 (aCt fs l e=(Ev.Hi,3)):=y;clear y;have f5:(0:Int)<((x::t).length:Int):=by simp only[Ox];omega
    generalize (x::t).length=m at *;go_wp2;go_ret;exact⟨by rw[j.out];rfl,I,fun h=>absurd h (by rw[j.out];decide)⟩
theorem aCI(w:MO)(A B:Obj):((w.alloc A).alloc B).heap[w.heap.size+1]?=MI B:=by have:=adS (w.alloc A) B;simpa using this
theorem aCH(w:MO)(A B:Obj):((w.alloc A).alloc B).heap[w.heap.size]?=MI A:=by rw[Ov _ _ _ (by simp)];exact adS w A
def aBY(l:List Nat)(w:MO)(r:Ending)(w':MO):Prop :=
 r=MN (Nv #[Ny (afw (aB9 l).1),MF ME (aB9 l).2])/\MQ w.heap.size w w'
theorem aB4:afw Ev.Hi=#[MF ME 0,MF ME 0,MF ME 0,MF ME 0,M3 Nb,MF ME 0,MF ME 0,MF ME 0]:=rfl
theorem aCc(l:List Nat)(h:64<l.length):aB9 l=(Ev.Hi,1):=by unfold aB9;rw[Nh h]
theorem aCb(k:Nat)(t:List Nat)(h:¬64<(k::t).length)(hk:Zz k=MH):aB9 (k::t)=(Ev.Hi,5):=by unfold aB9;rw[Nf h];simp only[hk]
theorem aCd(k:Nat)(t:List Nat)(fs:List Xf)(h:¬64<(k::t).length)(hk:Zz k=MI fs):aB9 (k::t)=aCt fs t {Ev.Hi with kind:=(k:Int)}:=by unfold aB9;rw[Nf h];simp only[hk]
theorem aCB:∀(fs:List Xf) (l:List Nat) (e:Ev),(aCt fs l e).2≠0->(aCt fs l e).1=Ev.Hi
 | [],[],e,h=>by rw[aCz]at h;exact absurd rfl h
 | [],x::t,e,h=>by rw[aCy]
 |f::fs,l,e,h=>by
  cases hrd:aDm l with
  |inl c=>rw[aCv _ _ _ _ _ hrd]
  |inr q =>
   obtain⟨n,s⟩:=q
   by_cases hin:f.lo<=(n:Int)/\(n:Int)<=f.hi
   ·rw[aCx _ _ _ _ _ _ hrd hin]at h⊢;exact aCB _ _ _ h
   ·rw[aCA _ _ _ _ _ _ hrd hin]
theorem aCh(a:Option Oc)(len cap:Nat)(l:List Nat)(w:MO)(hl:l.length=len)(h:64<len)(hm:len<=NE) :
  Ni MK 9 #[MG a len cap] w (aBY l w):=by
 have f:M6 (aB9 l=(Ev.Hi,1)):=aCc l (by omega);have j:(64:Int)<(len:Int):=by omega
 unfold NE at hm;clear h hl;go_enter aD3,aD1;go_wp2;refine Np (v:=Nv #[Ny (afw Ev.Hi),MF ME 1]) (by simp[Pf,aDM,go_sem,aB4]) rfl ⟨by rw[f.out],?_⟩;exact(MY _ _).alloc (MV _) _
theorem aCi(a:Option Oc)(cap:Nat)(w:MO) :
  Ni MK 9 #[MG a 0 cap] w (aBY [] w):=by
 go_enter aD3,aD1;go_wp2;refine Np (v:=Nv #[Ny (afw Ev.Hi),MF ME 4]) (by simp[Pf,aDM,go_sem,aB4]) rfl ⟨rfl,?_⟩;exact(MY _ _).alloc (MV _) _
theorem aCg(b off cap len k:Nat)(t:List Nat)(w:MO)(hl:(k::t).length=len)(h:len<=64)(hk:Zz k=MH)(hkb:k<256)(hc0:w.cell? ⟨b,off,MH⟩=MI (MF aDN (k:Int))) :
  Ni MK 9 #[MG (MI ⟨b,off,MH⟩) len cap] w (aBY (k::t) w):=by
 have m:M6 (aB9 (k::t)=(Ev.Hi,5)):=aCb k t (by omega) hk;have q:b<w.heap.size:=MX w _ hc0;have j:(k:Int)<1\/7<(k:Int):=by
  rcases afx (k:Int)with⟨f,_⟩|f|f|f|f|f|f|f
  ·exact f
  all_goals (rw[f]at hk;simp[Zz]at hk)
 have f:Nn ((64:Int)<(len:Int))=false:=by simp;omega
 have A:((len:Int) == 0)=false:=by simp at hl;simp;omega
 have y:(0:Int)<(len:Int):=by simp at hl;omega
 have u:M6 (_/\_):=⟨hl,h⟩;clear hl h hk;go_enter aD3,aD1
 go_wp2_with fail
 refine(awF (w.heap.size+1) {Ev.Hi with kind:=(k:Int)} _ (aCI w _ _) j).mono ?_;rintro r w0 ⟨rfl,rfl⟩;clear j;go_wp2;refine Np (v:=Nv #[Ny (afw Ev.Hi),MF ME 5]) (by simp[Pf,aDM,go_sem,aB4]) rfl ⟨by rw[m.out],?_⟩;exact((MY _ _).alloc (MV _) _).alloc (by simp) _
theorem aCj(b off cap len k:Nat)(t:List Nat)(fs:List Xf)(w:MO)(hl:(k::t).length=len)(h:len<=64)(hcap:len<=cap)(hk:Zz k=MI fs)(hx:∀x∈k::t,x<256)
  (hcell:∀i,i<(k::t).length->w.cell? ⟨b,off+i,MH⟩=MI (MF aDN (((k::t).getD i 0:Nat):Int))) :
  Ni MK 9 #[MG (MI ⟨b,off,MH⟩) len cap] w (aBY (k::t) w):=by
 have b9:w.cell? ⟨b,off,MH⟩=MI (MF aDN (k:Int)):=by simpa using hcell 0 (by simp)
 have f9:k<256:=hx k (NM ..);have b0:b<w.heap.size:=MX w _ b9;have h1:Nn ((64:Int)<(len:Int))=false:=by simp;omega
 have h2:((len:Int) == 0)=false:=by simp at hl;simp;omega
 have h3:(1:Int)<=(len:Int):=by simp at hl;omega
 have f8:(0:Int)<(len:Int):=by simp at hl;omega
 have h4:(len:Int)<=(cap:Int):=by omega
 have HD:M6 (aB9 (k::t)=aCt fs t {Ev.Hi with kind:=(k:Int)}):=aCd k t fs (by omega) hk;have m:M6 (_/\_/\_/\_/\_):=⟨hl,h,hk,hx,hcell⟩;have c4:=an3 hk;clear hl h hk hx hcell;go_enter aD3,aD1
 go_wp2_with fail
 refine(an1 (w.heap.size+1) {Ev.Hi with kind:=(k:Int)} fs _ (aCI w _ _) m.out.2.2.1).mono ?_;rintro r w0 ⟨v,rfl,q,O⟩;obtain⟨a,y,rfl,I⟩:=an8 O;have K:YT w0 (w.heap.size+1) {Ev.Hi with kind:=(k:Int)}:=YT.below (aCI w _ _) q (by simp);have Z:YT w0 w.heap.size Ev.Hi:=YT.below (aCH w _ _) q (by simp;omega);have D:MQ w.heap.size w w0:=(((MY _ _).alloc (MV _) _).alloc (by simp) _).trans (q.mono (by simp;omega));have N:M6 (_/\_/\_/\_/\_):=⟨I,K,Z,D,q⟩;have a0:aBX w0 (MG (if cap=1 then MI ⟨b,off,MH⟩else MI ⟨b,off+1,MH⟩) (len-1) (cap-1)) t (w.heap.size+1):=by
  have:=aB8 (w:=w0) (b:=b) (off:=off) (cap:=cap) (s:=1) (be:=w.heap.size+1) (l:=k::t) (by rw[m.out.1];omega) (by have:=D.size;omega) (by omega) (fun i hi=>by rw[D.cell (p:=⟨b,off+i,MH⟩) b0];exact m.out.2.2.2.2 i hi) (by simp);rw[m.out.1]at this;exact this
 have a5:∀v',aBX w0 v' t (w.heap.size+1)->Ni MK 20 #[MG a fs.length y,v'] w0 (aBZ fs t {Ev.Hi with kind:=(k:Int)} (w.heap.size+1) w0):=fun v' hv' =>
  aCu (w.heap.size+1) a y v' fs t _ w0 (an4 m.out.2.2.1) c4 K (by have h1:=m.out.1;have h2:=m.out.2.1;simp at h1;omega) (fun x hx=>m.out.2.2.2.1 x (NB _ hx))
   (fun k' f hf=>by obtain⟨g,g0,g1,g2,g3⟩:=I k' f hf;exact⟨g,g0,by simp at g1;omega,g2,g3⟩) hv'
 have M:M6 (_/\_):=⟨a5,a0⟩;clear O I K Z D q a5 a0;have b8:(∃A L C,cap=1/\len=1/\A=(⟨b,off,MH⟩:Oc)/\L=0/\C=0/\M6 (Ni MK 20 #[MG a fs.length y,MG (MI A) L C] w0 (aBZ fs t {Ev.Hi with kind:=(k:Int)} (w.heap.size+1) w0)))\/(¬cap=1/\M6 (Ni MK 20 #[MG a fs.length y,MG (MI ⟨b,off+1,MH⟩) (len-1) (cap-1)] w0 (aBZ fs t {Ev.Hi with kind:=(k:Int)} (w.heap.size+1) w0))):=by
  have h:=M.out.1 _ M.out.2
  by_cases hc1:cap=1
  ·have a6:len=1:=by omega
   rw[Nh hc1,hc1,a6]at h;exact Nt ⟨_,_,_,hc1,a6,rfl,rfl,rfl,h⟩
  ·rw[Nf hc1]at h
   exact NF ⟨hc1,h⟩
 clear M;rcases b8 with⟨A,L,C,rfl,rfl,rfl,rfl,rfl,a7⟩|⟨c5,a7⟩
 all_goals
  go_wp2_with fail
  refine Nd a7.out ?_;rintro r w1 ⟨rfl,F,J⟩;have B:YT w1 w.heap.size Ev.Hi:=by have h:=N.out.2.2.1;unfold YT;rw[F.block w.heap.size h.lt (by simp)];exact h
  have a8:MQ w.heap.size w w1:=N.out.2.2.2.1.grown F (by have:=N.out.2.1.lt;omega) (by intro k' b7;cases b7;omega);have c9:=B.lt;obtain⟨r0,r1,r2,r3,r4,r5,r6,r7⟩:=B.Jl;have j:=B.Gu;have f4:=j 0;have f3:=j 1;have c7:=j 2;have f5:=j 3;have d8:=j 4;have c6:=j 5;have d9:=j 6;have e8:=j 7;have hz:=aCB fs t {Ev.Hi with kind:=(k:Int)};have a9:=HD.out;generalize aCt fs t {Ev.Hi with kind:=(k:Int)}=p at *;obtain⟨e',c⟩:=p
  dsimp only at *
  have u:M6 (_/\_/\_/\_):=⟨hz,a9,a8,F⟩;clear hz a9 a8 F j B
  by_cases hc:c=0
  ·subst hc
   have T:=J rfl;obtain⟨e0,e1,e2,e3,e4,e5,e6,e7⟩:=T.Jl;clear J T;go_wp2;refine Np (v:=Nv #[Ny (afw e'),MF ME 0]) (by simp[Pf,aDM,go_sem,afw,r0,r1,r2,r3,r4,r5,r6,r7]) rfl ⟨by rw[u.out.2.1],?_⟩;exact((((((((u.out.2.2.1.setCell (MV _) _).setCell (MV _) _).setCell (MV _) _).setCell (MV _) _).setCell (MV _) _).setCell (MV _) _).setCell (MV _) _).setCell (MV _) _)
  ·have f6:(c != 0)=true:=by rw[bne_iff_ne];exact hc
   obtain rfl:=u.out.1 hc;clear J hc;go_wp2;refine Np (v:=Nv #[Ny (afw Ev.Hi),MF ME c]) (by simp[Pf,aDM,go_sem,aB4,r0,r1,r2,r3,r4,r5,r6,r7]) rfl ⟨by rw[u.out.2.1],?_⟩;exact((((((((u.out.2.2.1.setCell (MV _) _).setCell (MV _) _).setCell (MV _) _).setCell (MV _) _).setCell (MV _) _).setCell (MV _) _).setCell (MV _) _).setCell (MV _) _)
theorem aCe(v:M7)(l:List Nat)(w:MO)(hv:aBW w v l)(hx:∀x∈l,x<256)(hm:l.length<=NE):Ni MK 9 #[v] w (aBY l w):=by
 obtain⟨a,f,rfl,m,h⟩:=hv
 by_cases h64:64<l.length
 ·exact aCh a l.length f l w rfl h64 hm
 ·cases l with
  |nil=>exact aCi a f w
  |cons k t =>
   rcases h with⟨_,h⟩|h|⟨b,off,rfl,q,j⟩
   ·cases h
   ·cases h
   ·cases hk:Zz (k:Int)with
    |none=>exact aCg b off f _ k t w rfl (by omega) hk (hx k (NM ..)) (by simpa using j 0 (by simp))
    |some fs=>exact aCj b off f _ k t fs w rfl (by omega) m hk hx j
theorem aCq:∀(f n:Nat),n<f->∃k,(aCk n).length=k+1/\(∀j,j<k->128<=(aCk n).getD j 0/\(aCk n).getD j 0<256)/\(aCk n).getD k 0<128/\(0<k->(aCk n).getD k 0≠0)/\aDc (aCk n)=n
 |0,n,h=>by omega
 |f+1,n,h=>by
  by_cases h1:n<128
  ·refine⟨0,by rw[aCp n h1];rfl,fun j hj=>by omega,by rw[aCp n h1];exact h1,fun hh=>by omega,by rw[aCp n h1];simp[aDc];omega⟩
  ·obtain⟨k,A,F,I,J,q⟩:=aCq f (n / 128) (by omega)
   have m:=aCm n h1;refine⟨k+1,by rw[m,Ox,A],fun j hj=>?_,by rw[m];simpa using I,fun _=>?_,?_⟩
   ·rw[m]
    cases j with
    |zero=>simp;omega
    |succ j=>simpa using F j (by omega)
   ·rw[m]
    have:(aCk (n / 128)).getD k 0≠0:=by
     by_cases hk:0<k
     ·exact J hk
     ·have B:k=0:=by omega
      subst B;intro D;have u:aCk (n / 128)=[(aCk (n / 128)).getD 0 0]:=by
       match hq:aCk (n / 128),A with
       | [y],_=>rfl
      rw[D]at u;rw[u]at q;simp[aDc]at q;omega
    simpa using this
   ·rw[m,aDc,q];omega
theorem aC6(n:Nat)(t:List Nat)(hn:n<=4294967295):aDm (aCk n++t)=aEc (n,(aCk n).length):=by
 obtain⟨k,m,q,u,A,y⟩:=aCq (n+1) n (by omega);have B:=aCn n hn;have f:∀j,j<k+1->(aCk n++t).getD j 0=(aCk n).getD j 0:=fun j hj=>by simp[Pq,OJ (show j<(aCk n).length by omega)]
 rw[aC8 (aCk n++t) k (by rw[Ns];omega) (fun j hj=>by rw[f j (by omega)];exact(q j hj).1) (by rw[f k (by omega)];exact u) (by rw[f k (by omega)];intro⟨a,b⟩;exact A b a) (by omega),m]
 congr 2
 rw[<-m,Qb,y]
def aCC(e:Ev)(fs:List Xf):List Nat:=fs.flatMap (fun f=>aCk (e.num f.off).toNat)
theorem aCw(e:Ev)(t:List Nat):∀(fs:List Xf) (e0:Ev),(∀f,f∈fs->e.GZ f=Nw/\0<=f.lo/\f.hi<=4294967295)->aCt fs (aCC e fs++t) e0=aCt [] t (aCZ e0 fs (e.aDr fs))
 | [],e0,_=>by simp[aCC,aCZ]
 |f::fs,e0,h=>by
  obtain⟨u,A,y⟩:=h f (NM ..);simp only[Ev.GZ,decide_eq_true_eq]at u;have q:((e.num f.off).toNat:Int)=e.num f.off:=by omega
  have m:=aC6 (e.num f.off).toNat (aCC e fs++t) (by omega);have j:aCC e (f::fs)++t=aCk (e.num f.off).toNat++(aCC e fs++t):=by simp[aCC]
  rw[j,aCx f fs _ e0 _ _ m (by omega),List.drop_left,aCw e t fs _ (fun g hg=>h g (NB _ hg)),q];rfl
theorem aCP{e:Ev}(h:Yk e=0):∃fs,Zz e.kind=MI fs/\(∀f,f∈fs->e.GZ f=Nw/\0<=f.lo/\f.hi<=4294967295)/\aCZ {Ev.Hi with kind:=e.kind} fs (e.aDr fs)=e/\aCl e=e.kind.toNat::aCC e fs/\1<=e.kind/\e.kind<=7/\(aCC e fs).length<=15:=by
 obtain⟨fs,j,m,u⟩:=aCs h;have q:=aCE j;refine⟨fs,j,fun f hm=>⟨List.all_eq_true.1 m f hm,q.2 f hm⟩,?_,by simp[aCl,aCC,j],q.1.1,q.1.2,?_⟩
 ·have:=aC0 e fs j m
  rw[u]at this;exact M2 this
 ·have y:=aCD e fs (aDh j m)
  have A:=an3 j;unfold aCC;omega
theorem aCJ{e:Ev}(h1:1<=e.kind):((e.kind.toNat:Nat):Int)=e.kind:=by omega
theorem aCa{e:Ev}(h:Yk e=0):aB9 (aCl e)=(e,0):=by
 obtain⟨fs,j,m,q,u,f,y,A⟩:=aCP h;rw[u,aCd _ _ fs (by rw[Ox];omega) (by rw[aCJ f];exact j),aCJ f];have:=aCw e [] fs {Ev.Hi with kind:=e.kind} m;rw[OG]at this;rw[this,q,aCz]
def aCG:List Xf->List Nat->Prop
 | [],[]=>True
 |f::fs,n::ns=>(f.lo<=(n:Int)/\(n:Int)<=f.hi)/\aCG fs ns
 |_,_=>False
theorem aCf(v:M7)(l:List Nat)(e:Ev)(c:Int)(w:MO)(hd:aB9 l=(e,c))(hv:aBW w v l)(hx:∀x∈l,x<256)(hm:l.length<=140737488351232) :
  Ni MK 9 #[v] w fun r w'=>r=MN (Nv #[Ny #[MF ME e.kind,MF ME e.key,MF ME e.slot,MF ME e.gen,M3 e.good,MF ME e.req,MF ME e.be,MF ME e.wt],MF ME c])/\MQ w.heap.size w w':=by
 refine(aCe v l w hv hx (by unfold NE;omega)).mono ?_;rintro r w' ⟨h,f⟩;rw[hd]at h;exact⟨h,f⟩
abbrev aDi:=Option Oc×Nat×List Nat
variable {x:aDi}
abbrev aA3(x:aDi):List Value:=[MG x.1 x.2.2.length x.2.1]
theorem aA4(x:aDi):(aA3 x).length=1:=rfl
theorem aA5(x:aDi):∀u∈aA3 x,u.oneCell'=true:=by
 intro u f;rw[List.mem_singleton.1 f];rfl
def az5(W:MO)(x:aDi):Prop:=aBW W (MG x.1 x.2.2.length x.2.1) x.2.2/\(∀b∈x.2.2,b<256)/\x.2.2.length<=140737488351232/\x.2.1<=NE
theorem aAP{w w':MO}(h:aBW w v l)(hb:MQ w.heap.size w w'):aBW w' v l:=by
 obtain⟨a,j,q,m,f|f|⟨b,off,f,u,y⟩⟩:=h
 ·exact⟨a,j,q,m,Nt f⟩
 ·exact⟨a,j,q,m,NF (Nt f)⟩
 ·exact⟨a,j,q,m,NF (NF ⟨b,off,f,M8 u hb.size,fun i hi=>(hb.cell (p:=⟨b,off+i,MH⟩) u).trans (y i hi)⟩)⟩
theorem az5.below{W:MO}(h:az5 W x)(hb:MQ W.heap.size W Y):az5 Y x:=⟨aAP h.1 hb,h.2⟩
theorem aAR{W:MO}(h:az5 W x):Ni MK 9 #[MG x.1 x.2.2.length x.2.1] W fun r w'=>r=MN (Nv #[agQ (aB9 x.2.2).1,MF ME (aB9 x.2.2).2])/\MQ W.heap.size W w' :=
 aCf _ x.2.2 _ _ W rfl h.1 h.2.1 h.2.2.1
theorem aBC(c:Int)(hc:c≠0)(w:MO):Ni MK 296 #[MF ME c] w fun r w'=>r=MN (aDU 65 (MF ME c))/\w'=w:=by
 have f:(c == 0)=false:=beq_eq_false_iff_ne.2 hc;go_enter Tryz.func296,Tryz.ntmps296;go_wp2;go_ret;exact⟨rfl,rfl⟩
theorem aBI(x:aDi)(w:MO)(hx:az5 w x)(y:M7)(hy:∀W:MO,Ni MK 296 #[MF ME (aB9 x.2.2).2] W fun r w'=>r=MN y/\w'=W) :
  Ni MK 297 #[MG x.1 x.2.2.length x.2.1] w fun r w'=>r=MN (Nv #[agQ (aB9 x.2.2).1,y])/\MQ w.heap.size w w':=by
 obtain⟨X1,M⟩:∃X,X=w.alloc (MP aA2.toArray 60):=⟨_,rfl⟩;have u:X1.heap[w.heap.size]?=MI (MP aA2.toArray 60 (0,0)):=by rw[M];exact M1 _ _
 have B1:MQ w.heap.size w X1:=by rw[M];exact WQ w
 have F:M6 _:=aAR (hx.below B1);obtain⟨E,I⟩:∃E,E=aaV (aB9 x.2.2).1:=⟨_,rfl⟩;obtain⟨c,hc⟩:∃c,c=(aB9 x.2.2).2:=⟨_,rfl⟩;rw[show agQ (aB9 x.2.2).1=Ny E.toArray by rw[I],<-hc]at F;rw[<-hc]at hy;rw[show agQ (aB9 x.2.2).1=Ny E.toArray by rw[I]];have f:M6 (E.length=8/\E.toArray.all (·.oneCell')=Nw):=⟨by rw[I];rfl,by rw[I];exact OE (au7 _)⟩;have HR:M6 _:=hy;have T:M6 (_/\_):=⟨u,B1⟩;obtain⟨nx,c6⟩:∃n,n=x.2.2.length:=⟨_,rfl⟩;rw[<-c6]at F⊢;obtain⟨px,b8⟩:∃n,n=x.1:=⟨_,rfl⟩;obtain⟨cx,b0⟩:∃n,n=x.2.1:=⟨_,rfl⟩;rw[<-b8,<-b0]at F⊢;clear I hc hy hx u B1 c6 b8 b0;go_enter Tryz.func297,Tryz.ntmps297
 go_wp2_with fail
 rw[<-M];clear M;refine Nd F.out ?_;rintro r w1 ⟨rfl,a5⟩;obtain⟨m,Z⟩:∃b,b=w.heap.size:=⟨_,rfl⟩;obtain⟨j,q⟩:∃b,b=w1.heap.size:=⟨_,rfl⟩;have u:w1.heap[m]?=MI (MP aA2.toArray 60 (0,0)):=by rw[Z];exact WO T.out.1 a5
 have B1:MQ w.heap.size w w1:=T.out.2.trans (a5.mono T.out.2.size);obtain⟨N,D⟩:∃X,X=w1.alloc (MP aA2.toArray 60):=⟨_,rfl⟩;have r2:N.heap[j]?=MI (MP aA2.toArray 60 (0,0)):=by rw[D,q];exact M1 _ _
 have B2:MQ w1.heap.size w1 N:=by rw[D];exact WQ w1
 obtain⟨A,J⟩:∃X,X=N.setCells j 0 E:=⟨_,rfl⟩;have r3:A.heap[j]?=MI (MP E.toArray 60 (0,0)):=by rw[J];exact anq r2 (by rw[f.out.1];rfl)
 have B3:MQ w1.heap.size w1 A:=by rw[J];exact adp B2 (by omega) _ _ B2.size
 have hT:aAf w m j E A:=⟨agb r3,(Array.getElem?_eq_some_iff.1 r3).1,⟨aA2,rfl,WO u B3⟩,B1.trans (B3.mono B1.size),by omega,by rw[q];exact(Array.getElem?_eq_some_iff.1 u).1⟩;obtain⟨S,hS,c5,b9⟩:∃S:MO->Prop,(∀X,S X->aAf w m j E X)/\(∀X,aAf w m j E X->S X)/\S A.drew:=⟨aAf w m j E,fun _ h=>h,fun _ h=>h,hT.below (MY _ _).drew⟩;have L:M6 (_/\_):=⟨hS,c5⟩;have c7:M6 _:=b9;have b7:N.there j 0 E.toArray.size:=by rw[OQ,f.out.1];exact aeU r2
 have a6:(w1.alloc (MP aA2.toArray 60)).there w1.heap.size 0 E.toArray.size:=by rw[<-D,<-q];exact b7
 have a7:A=(w1.alloc (MP aA2.toArray 60)).setCells w1.heap.size 0 E:=by rw[J,D,q]
 have a9:E.toArray.size=8:=(show E.toArray.size=E.length from OQ).trans f.out.1;have B:M6 (_/\_/\_/\_/\_):=⟨a6,a7,Z,q,a9⟩;clear hS c5 b9 hT B1 B2 B3 u r2 r3 a5 Z q D J b7 a6 a7 a9 T F
 go_wp2_with ((with_reducible refine OW rfl 60 (O6 4) (O6 9) rfl w1.heap.size 0 E.toArray ?sx ?sy ?st ?si ?s1 ?_);(case sx=>rfl);(case sy=>rfl);(case st=>exact B.out.1);(case si=>rw[B.out.2.2.2.2];exact anz);(case s1=>exact f.out.2);rw[NS,<-B.out.2.1])
 rw[<-B.out.2.2.1,<-B.out.2.2.2.1];clear B;refine O2 (S:=S) (by kernel_rfl) c7.out (fun hHeld=>?_);refine awW 0 (Ny E.toArray) hHeld ?_ (hy:=Pt (by rfl) 60 (O6 4) rfl j 0 rfl E _ (fun _ h=>(L.out.1 _ h).1) azj rfl (by rw[f.out.1];exact anz));simp only[Nr,MZ,MT,MS,MJ,ML,MM];refine awW 1 (MF ME c) hHeld ?_;simp only[Nr,MZ,MT,MS,MJ,ML,MM];refine NN (rs:=[2]) (by kernel_rfl) (by simp) ?_;refine NP (o:=_) rfl (fun K hK=>?_) NX;go_simp;refine Nd (HR.out _) ?_;rintro r w6 ⟨rfl,c4⟩;rw[c4];clear c4
 go_wp2_with fail
 refine hK.out _ _ hHeld (fun hHeld=>?_);clear hK K
 try simp only[Nr,MZ,MT,MS,MJ,ML,MM]
 obtain⟨u9,a0⟩:∃u9,u9=A.drew.setCells m 0 E:=⟨_,rfl⟩;have O:=(L.out.1 _ hHeld).F4 f.out.1;rw[<-a0]at O;have a8:S u9:=L.out.2 _ O.1;refine NN (rs:=[3]) (by kernel_rfl) (by simp) ?_;refine afX (i:=3) (o:=_) (by rfl) (by rfl) 60 (O6 2) (O6 11) (by rfl) m 0 E.toArray (by rfl) (by rfl) ((L.out.1 _ hHeld).GB (by rw[OQ];exact f.out.1)) (by rw[OQ,f.out.1];exact anz) f.out.2 (by rw[NS,<-a0];exact a8) ?_;rw[NS,<-a0]
 try simp only[Nr,MZ,MT,MS,MJ,ML,MM]
 refine NN (rs:=[4]) (by kernel_rfl) (by simp) ?_;refine acK (i:=4) (o:=_) (by rfl) (by rfl) (O6 13) (by rfl) (y) (by rfl) a8 ?_
 try simp only[Nr,MZ,MT,MS,MJ,ML,MM]
 refine PS (by kernel_rfl) ?_ _;go_wp2;refine Np (v:=Nv #[Ny E.toArray,y]) (XT Tryz.results297 rfl rfl (akJ O.2 azj rfl (by rw[f.out.1];exact anz))) rfl ?_;exact⟨rfl,O.1.2.2.2.1⟩
theorem aBK{e:Ev}(hd:aB9 x.2.2=(e,0)){w:MO}(hx:az5 w x):Ni MK 297 #[MG x.1 x.2.2.length x.2.1] w fun r w'=>r=MN (Nv #[agQ e,aD6])/\MQ w.heap.size w w':=by
 have h:=aBI x w hx aD6 (by rw[hd];exact aBD);rwa[hd]at h
theorem aBN{base:Nat}{w:MO}{g:Nat}{V:aDj}{P:Gs}(h:az9 base w g V P)(hr:az8 P)(hlen:V.xs.length<=4000)(hblk:Xo w)(hb:base<=w.heap.size)(e:Ev)(he:Yk e=0)(h7:e.kind=7->P.last.now+1<=1099511626776)(hx:az5 w x)(hd:aB9 x.2.2=(e,0)):
  Ni MK 18 #[gP g,aDU 113 (MG x.1 x.2.2.length x.2.1)] w fun r w'=>r=MN (Nv #[])/\∃V',az9 base w' g V' (P.step e)/\aAa V V' g w w'/\V'.xs.length=V.xs.length+1:=by
 have H7:M6 (e.kind=7->P.last.now+1<=1099511626776):=h7;obtain⟨L,hL⟩:∃L,L=(XR V.u P.last).toList:=⟨_,rfl⟩;have HL:M6 _:=hL;have j0:M6 _:=aBK hd hx;have a8:M6 (_/\_/\_/\_/\_/\_):=⟨h,hr,hlen,hblk,hb,he⟩;clear hL h hr hlen hblk hb he h7 hx hd;go_enter Tryz.func18,Tryz.ntmps18
 go_wp2_with fail
 refine Nd j0.out ?_;rintro r w1 ⟨rfl,f4⟩;obtain⟨E,hE⟩:∃E,E=aaV e:=⟨_,rfl⟩;have i3:(w1.alloc (MP aA2.toArray 60)).heap[w1.heap.size]?=MI (MP aA2.toArray 60 (0,0)):=M1 _ _;obtain⟨W1,f9⟩:∃W1,W1=(w1.alloc (MP aA2.toArray 60)).setCells w1.heap.size 0 E:=⟨_,rfl⟩;have i9:W1.heap[w1.heap.size]?=MI (MP E.toArray 60 (0,0)):=by rw[f9];exact anq i3 (by rw[hE];rfl)
 have g5:MQ w1.heap.size w1 W1:=by rw[f9];exact adp (WQ w1) (MV _) _ _ (by simp)
 have j5:E.length=8:=by rw[hE];rfl
 have g7:E.toArray.size=8:=(show E.toArray.size=E.length from OQ).trans j5;have i7:(w1.alloc (MP aA2.toArray 60)).there w1.heap.size 0 E.toArray.size:=by rw[g7];exact afH i3
 have j8:E.toArray.all (·.oneCell')=true:=by rw[hE];exact OE (au7 e)
 obtain⟨W,hW⟩:∃W,W=W1.alloc (MP #[MF ME 0] 65):=⟨_,rfl⟩;have i2:MQ W1.heap.size W1 W:=by rw[hW];exact WQ W1
 obtain⟨O,g8⟩:∃O,O=w1.heap.size:=⟨_,rfl⟩;have f8:MQ w.heap.size w W:=(f4.trans (g5.mono f4.size)).trans (i2.mono (Nm f4.size g5.size));have k6:¬V.own g O:=fun e=>by have:=(a8.out.1.Mb e).2;have:=f4.size;omega
 have HD:M6 (az7 base W g V P O e):=⟨a8.out.1.below f8,by rw[g8,<-hE];exact WO i9 i2,a8.out.2.2.2.1.below f8⟩;have M:M6 (az8 P/\V.xs.length<=4000/\Yk e=0/\MQ w.heap.size w W/\base<=w.heap.size/\¬V.own g O):=⟨a8.out.2.1,a8.out.2.2.1,a8.out.2.2.2.2.2,f8,a8.out.2.2.2.2.1,k6⟩;have H0:M6 (_/\_/\_/\_):=⟨i7,g7,j8,f9⟩;rw[show agQ e=Ny E.toArray by rw[hE]];clear i3 i9 g5 j5 g7 i7 j8 i2 f8 k6 hE f9 f4 a8 j0
 go_wp2_with ((with_reducible refine OW rfl 60 (O6 4) (O6 13) rfl w1.heap.size 0 E.toArray ?sx ?sy ?st ?si ?s1 ?_);(case sx=>rfl);(case sy=>rfl);(case st=>exact H0.out.1);(case si=>rw[H0.out.2.1];exact anz);(case s1=>exact H0.out.2.2.1);rw[NS,<-H0.out.2.2.2])
 refine Nd (aAF _ _) ?_;rintro r w2 ⟨rfl,rfl⟩
 go_wp2_with fail
 rw[<-hW,<-g8];clear hW g8 H0;apply aan
 ·intro k9
  obtain⟨W3,i1⟩:∃W3,W3=W.drew:=⟨_,rfl⟩;have j2:az7 base W3 g V P O e:=by rw[i1];exact HD.out.on (MY _ _).drew
  obtain⟨S,hS,j4,l9⟩:∃S:MO->Prop,(∀X,S X->az7 base X g V P O e)/\(∀X,az7 base X g V P O e->S X)/\S W.drew:=⟨fun X=>az7 base X g V P O e,fun _ h=>h,fun _ h=>h,by rw[<-i1];exact j2⟩;have N:M6 (_/\_):=⟨hS,j4⟩;clear hS j4 j2 i1 W3;refine O2 (S:=S) (by kernel_rfl) l9 (fun hHeld=>?_);refine awW 0 (gP g) hHeld ?_;simp only[Nr,MZ,MT,MS,MJ,ML,MM];refine awW 1 (gP g) hHeld ?_;simp only[Nr,MZ,MT,MS,MJ,ML,MM];refine awW 2 (Na (MI ⟨g,0,MH⟩)) hHeld ?_;simp only[Nr,MZ,MT,MS,MJ,ML,MM];refine awW 3 (Ny L.toArray) hHeld ?_ (hy:=Pt (by rfl) 55 (O6 33) rfl g 0 rfl L _ (fun _ h=>by rw[HL.out];exact(N.out.1 _ h).pat.Mo) Lv rfl (by rw[HL.out];exact Z0));simp only[Nr,MZ,MT,MS,MJ,ML,MM];refine awW 4 (Ny (aaV e).toArray) hHeld ?_ (hy:=Pt (by rfl) 60 (O6 4) rfl O 0 rfl (aaV e) _ (fun _ h=>(N.out.1 _ h).ev) azj rfl anz);simp only[Nr,MZ,MT,MS,MJ,ML,MM];refine NN (rs:=[5,10]) (by kernel_rfl) (by simp) ?_;refine NP (o:=_) rfl (fun K hK=>?_) (NP (o:=_) rfl (fun K hK=>?_) NX)
  ·go_simp
   refine Nd (w:=W.drew) (by rw[HL.out];exact akh (N.out.1 _ hHeld).pat.last.now M.out.1.wm (N.out.1 _ hHeld).blk M.out.1.out e M.out.2.2.1 H7.out) ?_;rintro r y ⟨A,F,D,rfl,e8,T⟩;obtain⟨f,c4⟩:∃f,f=(XR A (Xb P.last e)).toList:=⟨_,rfl⟩;obtain⟨I,b9⟩:∃I,I=(Xb P.last e).out.length:=⟨_,rfl⟩;have B:M6 (_/\_/\_/\_):=⟨c4,e8,T,b9⟩;have c9:S y:=N.out.2 _ ((N.out.1 _ hHeld).on T);rw[show acN A (Xb P.last e)=Ny f.toArray by rw[c4],<-b9];clear e8 T c4 b9
   go_wp2_with fail
   refine hK.out _ _ c9 (fun hHeld5=>?_);clear hK K c9
   try simp only[Nr,MZ,MT,MS,MJ,ML,MM]
   refine awW 6 (Nv #[Ny f.toArray,MG F I D,MF ME 0]) hHeld5 ?_;simp only[Nr,MZ,MT,MS,MJ,ML,MM];refine awW 7 (Ny f.toArray) hHeld5 ?_;simp only[Nr,MZ,MT,MS,MJ,ML,MM];refine awW 8 (MG F I D) hHeld5 ?_;simp only[Nr,MZ,MT,MS,MJ,ML,MM];refine awW 9 (MF ME 0) hHeld5 ?_;simp only[Nr,MZ,MT,MS,MJ,ML,MM];refine NN (rs:=[10]) (by kernel_rfl) (by simp) ?_;refine NP (o:=_) rfl (fun K hK=>?_) NX;go_simp;obtain⟨Y,hY⟩:∃Y,Y=y.alloc (MP wz.toArray 55):=⟨_,rfl⟩;obtain⟨q,hg⟩:∃q,q=y.heap.size:=⟨_,rfl⟩;have f5:MQ y.heap.size y Y:=by rw[hY];exact WQ y
   have b7:Y.heap[q]?=MI (MP wz.toArray 55 (0,0)):=by rw[hY,hg];exact M1 _ _
   have T:MQ W.heap.size W y:=Za B.out.2.2.1;have a7:MQ W.heap.size W Y:=T.trans (f5.mono T.size);have c5:W.heap.size<=q:=by rw[hg];exact T.size
   have l3:S Y:=N.out.2 _ (HD.out.on a7);have c7:∀b,b<y.heap.size->Y.heap[b]?=y.heap[b]?:=fun b h=>f5.block b h
   have b8:=f5.size;have j3:y.heap.size<=q:=by rw[hg];exact MV _
   rw[<-hY,<-hg];clear hY hg f5 T;refine hK.out _ _ l3 (fun hHeldY=>?_);clear hK K l3
   try simp only[Nr,MZ,MT,MS,MJ,ML,MM]
   have l5:f.length=26:=by rw[B.out.1];rfl
   have a0:f.toArray.size=26:=(show f.toArray.size=f.length from OQ).trans l5;have a6:(Y).there q 0 f.toArray.size:=by rw[a0];exact aeU b7
   obtain⟨m,J⟩:∃m,m=(Y).setCells q 0 f:=⟨_,rfl⟩;have f3:m.heap[q]?=MI (MP f.toArray 55 (0,0)):=by rw[J];exact anq b7 (by rw[l5];rfl)
   have a9:MQ W.heap.size W m:=by rw[J];exact adp a7 c5 _ _ a7.size
   have b0:az7 base m g V P O e:=HD.out.on a9;have a5:S m:=N.out.2 _ b0;have d8:XG (V.off base g) m fun X=>Xd X A (Xb P.last e)/\Xw Z1 X (MG F (Xb P.last e).out.length D) (Xb P.last e).out:=anp (b5:=q) B.out.2.1 (by rw[J,ac3];exact b8) (fun b h1 h2=>by rw[J,N8 _ _ _ _ (M8 h1 b8) h2];try exact c7 b h1) (NF j3) (fun b hx=>hx.elim (fun e=>M8 e (Nm M.out.2.2.2.2.1 M.out.2.2.2.1.size)) fun e=>(HD.out.pat.Mb e).2)
   have Z:M6 (az6 base W m g V P O e q f A F D/\I=(Xb P.last e).out.length):=⟨⟨b0,B.out.1,f3,c5,a9,d8,fun x hx=>(HD.out.pat.Mb hx).2,M.out.2.2.2.2.2⟩,B.out.2.2.2⟩;have d9:f.toArray.all (·.oneCell')=true:=by rw[B.out.1];exact ado _ _
   clear f3 a9 d8 a7 b7 c5 b0;refine NN (rs:=[11]) (by kernel_rfl) (by simp) ?_;refine afX (i:=11) (o:=_) (by rfl) (by rfl) 55 (O6 7) (O6 37) (by rfl) q 0 f.toArray (by rfl) (by rfl) a6 (by rw[a0];exact Z0) d9 (by rw[NS,<-J];exact a5) ?_;rw[NS,<-J]
   try simp only[Nr,MZ,MT,MS,MJ,ML,MM]
   refine NN (rs:=[12]) (by kernel_rfl) (by simp) ?_;refine acK (i:=12) (o:=_) (by rfl) (by rfl) (O6 38) (by rfl) (MG F I D) (by rfl) a5 ?_
   try simp only[Nr,MZ,MT,MS,MJ,ML,MM]
   refine NN (rs:=[13]) (by kernel_rfl) (by simp) ?_;refine acK (i:=13) (o:=_) (by rfl) (by rfl) (O6 39) (by rfl) (MF ME 0) (by rfl) a5 ?_
   try simp only[Nr,MZ,MT,MS,MJ,ML,MM]
   refine PS (by kernel_rfl) ?_ _;clear a6 a0 l5 B a5 J d9;clear hHeld5 hHeldY c7 b8 j3;revert Z;revert m;revert I;revert D;revert F;revert A;revert f;revert q;exact k9.out
  ·go_simp
   obtain⟨X1,f6⟩:∃X1,X1=(W.alloc (MP wz.toArray 55)).drew:=⟨_,rfl⟩;have h8:MQ W.heap.size W X1:=by rw[f6];exact(WQ W).drew
   have j1:X1.heap[W.heap.size]?=MI (MP wz.toArray 55 (0,0)):=by rw[f6];exact M1 _ _
   have k7:S X1:=N.out.2 _ (HD.out.on h8);obtain⟨q,hg⟩:∃q,q=W.heap.size:=⟨_,rfl⟩;have HX:M6 (_/\_/\_):=⟨h8,j1,hg⟩;clear h8 j1;rw[<-f6,<-hg];clear f6 hg;refine hK.out _ _ k7 (fun hHeld=>?_);clear hK K k7
   try simp only[Nr,MZ,MT,MS,MJ,ML,MM]
   refine NN (rs:=[5]) (by kernel_rfl) (by simp) ?_;refine NP (o:=_) rfl (fun K hK=>?_) NX;go_simp;refine Nd (w:=X1) (by rw[HL.out];exact akh (N.out.1 _ hHeld).pat.last.now M.out.1.wm (N.out.1 _ hHeld).blk M.out.1.out e M.out.2.2.1 H7.out) ?_;rintro r y ⟨A,F,D,rfl,e8,T⟩;obtain⟨f,c4⟩:∃f,f=(XR A (Xb P.last e)).toList:=⟨_,rfl⟩;obtain⟨I,b9⟩:∃I,I=(Xb P.last e).out.length:=⟨_,rfl⟩;have B:M6 (_/\_/\_/\_):=⟨c4,e8,T,b9⟩;have c9:S y:=N.out.2 _ ((N.out.1 _ hHeld).on T);rw[show acN A (Xb P.last e)=Ny f.toArray by rw[c4],<-b9];clear e8 T c4 b9
   go_wp2_with fail
   refine hK.out _ _ c9 (fun hHeld5=>?_);clear hK K c9
   try simp only[Nr,MZ,MT,MS,MJ,ML,MM]
   refine awW 6 (Nv #[Ny f.toArray,MG F I D,MF ME 0]) hHeld5 ?_;simp only[Nr,MZ,MT,MS,MJ,ML,MM];refine awW 7 (Ny f.toArray) hHeld5 ?_;simp only[Nr,MZ,MT,MS,MJ,ML,MM];refine awW 8 (MG F I D) hHeld5 ?_;simp only[Nr,MZ,MT,MS,MJ,ML,MM];refine awW 9 (MF ME 0) hHeld5 ?_;simp only[Nr,MZ,MT,MS,MJ,ML,MM];have b7:y.heap[q]?=MI (MP wz.toArray 55 (0,0)):=by rw[HX.out.2.2];exact WO HX.out.2.1 B.out.2.2.1
   have a7:MQ W.heap.size W y:=HX.out.1.trans (B.out.2.2.1.mono HX.out.1.size);have c5:W.heap.size<=q:=by rw[HX.out.2.2];exact MV _
   have l4:q<X1.heap.size:=by rw[HX.out.2.2];exact(Array.getElem?_eq_some_iff.1 HX.out.2.1).1
   have c7:∀b,b<y.heap.size->y.heap[b]?=y.heap[b]?:=fun _ _=>rfl
   have b8:y.heap.size<=y.heap.size:=MV _;have l6:=HX.out.1.size;have l5:f.length=26:=by rw[B.out.1];rfl
   have a0:f.toArray.size=26:=(show f.toArray.size=f.length from OQ).trans l5;have a6:(y).there q 0 f.toArray.size:=by rw[a0];exact aeU b7
   obtain⟨m,J⟩:∃m,m=(y).setCells q 0 f:=⟨_,rfl⟩;have f3:m.heap[q]?=MI (MP f.toArray 55 (0,0)):=by rw[J];exact anq b7 (by rw[l5];rfl)
   have a9:MQ W.heap.size W m:=by rw[J];exact adp a7 c5 _ _ a7.size
   have b0:az7 base m g V P O e:=HD.out.on a9;have a5:S m:=N.out.2 _ b0;have d8:XG (V.off base g) m fun X=>Xd X A (Xb P.last e)/\Xw Z1 X (MG F (Xb P.last e).out.length D) (Xb P.last e).out:=anp (b5:=q) B.out.2.1 (by rw[J,ac3];exact b8) (fun b h1 h2=>by rw[J,N8 _ _ _ _ (M8 h1 b8) h2];try exact c7 b h1) (Nt l4) (fun b hx=>M8 (hx.elim (fun e=>M8 e (Nm M.out.2.2.2.2.1 M.out.2.2.2.1.size)) fun e=>(HD.out.pat.Mb e).2) l6)
   have Z:M6 (az6 base W m g V P O e q f A F D/\I=(Xb P.last e).out.length):=⟨⟨b0,B.out.1,f3,c5,a9,d8,fun x hx=>(HD.out.pat.Mb hx).2,M.out.2.2.2.2.2⟩,B.out.2.2.2⟩;have d9:f.toArray.all (·.oneCell')=true:=by rw[B.out.1];exact ado _ _
   clear f3 a9 d8 a7 b7 c5 b0;refine NN (rs:=[11]) (by kernel_rfl) (by simp) ?_;refine afX (i:=11) (o:=_) (by rfl) (by rfl) 55 (O6 7) (O6 37) (by rfl) q 0 f.toArray (by rfl) (by rfl) a6 (by rw[a0];exact Z0) d9 (by rw[NS,<-J];exact a5) ?_;rw[NS,<-J]
   try simp only[Nr,MZ,MT,MS,MJ,ML,MM]
   refine NN (rs:=[12]) (by kernel_rfl) (by simp) ?_;refine acK (i:=12) (o:=_) (by rfl) (by rfl) (O6 38) (by rfl) (MG F I D) (by rfl) a5 ?_
   try simp only[Nr,MZ,MT,MS,MJ,ML,MM]
   refine NN (rs:=[13]) (by kernel_rfl) (by simp) ?_;refine acK (i:=13) (o:=_) (by rfl) (by rfl) (O6 39) (by rfl) (MF ME 0) (by rfl) a5 ?_
   try simp only[Nr,MZ,MT,MS,MJ,ML,MM]
   refine PS (by kernel_rfl) ?_ _;clear a6 a0 l5 B a5 J d9;clear hHeld5 l4 HX c7 b8 l6;revert Z;revert m;revert I;revert D;revert F;revert A;revert f;revert q;exact k9.out
 ·rintro q f A F D I m Z
  have hM:f=(XR A (Xb P.last e).Ma).toList:=Z.out.1.mem;have l7:=M.out.2.1;obtain⟨u9,c6⟩:∃u9,u9=m.setCells g 0 f:=⟨_,rfl⟩;have g4:az9 base u9 g {V with u:=A} {P with last:=(Xb P.last e).Ma}:=by
   rw[c6,hM];exact Z.out.1.dos.pat.MC A (Xb P.last e).Ma fun X h1 h2=>(Z.out.1.ans X h1 h2).1.Ma
  have g6:f.length=26:=by rw[hM];rfl
  have a0:f.toArray.size=26:=(show f.toArray.size=f.length from OQ).trans g6;have i5:f.toArray.all (·.oneCell')=true:=by rw[hM];exact ado _ _
  have a6:m.there g 0 f.toArray.size:=by
   rw[a0];exact fun j hj=>by
    have hb:=Z.out.1.dos.pat.box;have m0:0+j<(aDk V P).toArray.size:=by show 0+j<27;omega
    exact⟨by rw[MW m g (0+j) _ _ (0,0) hb,Array.getElem?_eq_getElem m0];rfl,by simp[Ng,hb]⟩
  have j7:m.rangeAt q 0 f:=agb Z.out.1.box;have i8:∀b,b<m.heap.size->b≠g->u9.heap[b]?=m.heap[b]?:=fun b hb e=>by rw[c6];exact N8 m g 0 _ hb e
  have k8:u9.heap.size=m.heap.size:=by rw[c6];exact ac3 _ _ _ _
  have j6:XG (aDj.off {V with u:=A} base g) u9 fun X=>Xw Z1 X (MG F (Xb P.last e).out.length D) (Xb P.last e).out:=by
   refine XG.step (S:=V.off base g) (fun X h1 h2=>(Z.out.1.ans X h1 h2).2) (by rw[k8];exact MV _) (fun b q1 q2=>i8 b q1 fun e=>q2 (NF (Nt e))) fun b q1 e=>e
  have j9:aAa V {V with u:=A} g m u9:=by rw[c6];exact aBl A f
  obtain⟨q8,c8,w9,g9,⟨m2,m3⟩,i4,i6⟩:=aBx g4 (by show V.xs.length<=100000;omega) (F,D,(Xb P.last e).out) j6;have m1:=g4.Ip;have m4:=g4.lt;rw[<-Z.out.2]at g9;have HR:M6 (_/\_/\_):=⟨g9,i4,i6⟩;have H5:M6 (_/\_/\_/\_/\_/\_):=⟨j9,g6,a6,a0,i5,j7⟩;have l8:M6 _:=c6;clear j9 hM c6 g4 a0 i5 a6 j7 i8 k8 j6 g9 i4 i6 g6 l7
  go_wp2_with (first|((with_reducible refine O3 rfl 55 (O6 7) rfl q 0 ?gx f _ ?gc Lv ?gd ?gi ?_);(case gx=>rfl);(case gc=>exact H5.out.2.2.2.2.2);(case gd=>rfl);(case gi=>rw[H5.out.2.1];exact Z0))|((with_reducible refine OW rfl 55 (O6 43) (O6 41) rfl g 0 f.toArray ?sx ?sy ?st ?si ?s1 ?_);(case sx=>rfl);(case sy=>rfl);(case st=>exact H5.out.2.2.1);(case si=>rw[H5.out.2.2.2.1];exact Z0);(case s1=>exact H5.out.2.2.2.2.1);rw[NS,<-l8.out])|(at_builtin;(with_reducible refine Z4 rfl _ _ 64 rfl (MG V.p V.xs.length V.c) (MG (MI ⟨u9.heap.size,0,MH⟩) 1 1) (MG (MI ⟨q8,0,MH⟩) (V.xs.length+1) c8) w9 ?hs ?hx ?hr ?_);(case hs=>rfl);(case hx=>rfl);(case hr=>exact HR.out.1)))
  go_end0
  refine⟨rfl,_,HR.out.2.1,((aAa.F5 (M.out.2.2.2.1.trans (Z.out.1.bel.mono M.out.2.2.2.1.size))).F0 H5.out.1).F0 HR.out.2.2,by simp⟩
abbrev aAG(c:Int):Ou:=⟨10,0,0,0,0,c,0⟩
def Gs.bad(P:Gs)(c:Int):Gs:=⟨P.last,P.outs++[[aAG c]]⟩
theorem aBJ{c:Int}(hc:c≠0)(hd:(aB9 x.2.2).2=c){w:MO}(hx:az5 w x):Ni MK 297 #[MG x.1 x.2.2.length x.2.1] w fun r w'=>r=MN (Nv #[agQ (aB9 x.2.2).1,aDU 65 (MF ME c)])/\MQ w.heap.size w w' :=
 aBI x w hx _ (by rw[hd];exact aBC c hc)
theorem aAD{w:MO}{a1 a2 a3 a4:Obj}{T:NU}{u:M7}:MQ w.heap.size w ((((((w.alloc (MP #[u] T)).alloc a1).alloc a2).alloc a3).alloc a4).setCell ⟨w.heap.size,0,MH⟩ v)/\((((((w.alloc (MP #[u] T)).alloc a1).alloc a2).alloc a3).alloc a4).setCell ⟨w.heap.size,0,MH⟩ v).cell? ⟨w.heap.size,0,MH⟩=MI v:=by
 have h:MQ w.heap.size w (((((w.alloc (MP #[u] T)).alloc a1).alloc a2).alloc a3).alloc a4):=by
  have f:=WQ (o:=MP #[u] T) w;have q:=f.trans ((WQ (o:=a1) _).mono f.size);have j:=q.trans ((WQ (o:=a2) _).mono q.size);have m:=j.trans ((WQ (o:=a3) _).mono j.size);exact m.trans ((WQ (o:=a4) _).mono m.size)
 have A:MQ w.heap.size w ((((((w.alloc (MP #[u] T)).alloc a1).alloc a2).alloc a3).alloc a4).setCell ⟨w.heap.size,0,MH⟩ v):=adF h (MV _) 0 [v] h.size;have D:w.heap.size<(w.alloc (MP #[u] T)).heap.size:=by simp
 have k:(((((w.alloc (MP #[u] T)).alloc a1).alloc a2).alloc a3).alloc a4).heap[w.heap.size]?=MI (MP #[u] T (0,0)):=by
  have B:(w.alloc (MP #[u] T)).heap[w.heap.size]?=MI (MP #[u] T (0,0)):=M1 _ _;exact WO (WO (WO (WO B (WQ _)) (WQ _)) (WQ _)) (WQ _)
 have y:(((((((w.alloc (MP #[u] T)).alloc a1).alloc a2).alloc a3).alloc a4).setCells w.heap.size 0 [v])).heap[w.heap.size]?=MI (MP [v].toArray T (0,0)):=anq (a:=[u]) k rfl;exact⟨A,(MW _ _ 0 _ _ (0,0) y).trans rfl⟩
theorem aBq{X:MO}{b:Nat}{o:Ou}(h:X.heap[b]?=MI (MP (Z1 o).toArray 83 (0,0))):Xw Z1 X (MG (MI ⟨b,0,MH⟩) 1 1) [o]:=by
 refine⟨_,1,rfl,MV _,by unfold NE;omega,NF ⟨b,0,rfl,(Array.getElem?_eq_some_iff.1 h).1,fun i hi=>?_⟩⟩;rw[Oa,MW _ b i _ _ (0,0) h];simp[rv]
theorem aBL{base:Nat}{w:MO}{g:Nat}{V:aDj}{P:Gs}(h:az9 base w g V P)(hlen:V.xs.length<=4000)(hb:base<=w.heap.size)(hx:az5 w x){c:Int}(hc:c≠0)(hd:(aB9 x.2.2).2=c)(hg:w.cell? ⟨0,0,MH⟩=MI (aBQ 128)):
  Ni MK 18 #[gP g,aDU 113 (MG x.1 x.2.2.length x.2.1)] w fun r w'=>r=MN (Nv #[])/\∃V',az9 base w' g V' (P.bad c)/\aAa V V' g w w'/\V'.xs.length=V.xs.length+1:=by
 have a8:M6 _:=aBJ hc hd hx;have q:M6 (_/\_/\_/\_):=⟨h,hlen,hb,hg⟩;clear h hlen hb hg hx hd;go_enter Tryz.func18,Tryz.ntmps18
 go_wp2_with fail
 refine Nd a8.out ?_;rintro r w1 ⟨rfl,L⟩;obtain⟨e,he⟩:∃e,e=(aB9 x.2.2).1:=⟨_,rfl⟩;rw[<-he];obtain⟨E,D⟩:∃E,E=aaV e:=⟨_,rfl⟩;have c4:(w1.alloc (MP aA2.toArray 60)).heap[w1.heap.size]?=MI (MP aA2.toArray 60 (0,0)):=M1 _ _;obtain⟨f,J⟩:∃f,f=(w1.alloc (MP aA2.toArray 60)).setCells w1.heap.size 0 E:=⟨_,rfl⟩;have O:MQ w1.heap.size w1 f:=by rw[J];exact adp (WQ w1) (MV _) _ _ (by simp)
 have c6:E.length=8:=by rw[D];rfl
 have I:E.toArray.size=8:=(show E.toArray.size=E.length from OQ).trans c6;have N:(w1.alloc (MP aA2.toArray 60)).there w1.heap.size 0 E.toArray.size:=by rw[I];exact afH c4
 have a0:E.toArray.all (·.oneCell')=true:=by rw[D];exact OE (au7 e)
 have B:MQ w.heap.size w f:=L.trans (O.mono L.size);have a5:(f.alloc (MP #[MF ME 0] 65)).cell? ⟨0,0,MH⟩=MI (aBQ 128):=by
  have h1:=(B.trans ((WQ (o:=MP #[MF ME 0] 65) f).mono B.size)).cell (p:=⟨0,0,MH⟩) (MX w ⟨0,0,MH⟩ q.out.2.2.2);exact h1.trans q.out.2.2.2
 have HA:M6 _:=aAE c ⟨f.heap.size,0,MH⟩ (MF ME 0) (f.alloc (MP #[MF ME 0] 65)) a5 (by simp) (by simp);have j:M6 (_/\_/\_/\_/\_):=⟨N,I,a0,J,B⟩;rw[show agQ e=Ny E.toArray by rw[D]];clear c4 O c6 I N a0 D J L a8 B a5 he
 go_wp2_with ((with_reducible refine OW rfl 60 (O6 4) (O6 13) rfl w1.heap.size 0 E.toArray ?sx ?sy ?st ?si ?s1 ?_);(case sx=>rfl);(case sy=>rfl);(case st=>exact j.out.1);(case si=>rw[j.out.2.1];exact anz);(case s1=>exact j.out.2.2.1);rw[NS,<-j.out.2.2.2.1])
 refine Nd HA.out ?_;rintro r w2 ⟨rfl,b0⟩;have Z:=aAD (w:=f) (T:=65) (u:=MF ME 0) (a1:=MP #[Na (MI ⟨f.heap.size,0,MH⟩)] 132) (a2:=MP #[aBP 132,Na (MI ⟨(f.alloc (MP #[MF ME 0] 65)).heap.size,0,MH⟩),MF .u64 150] 152) (a3:=MP #[aBP 132,Na (MI ⟨(f.alloc (MP #[MF ME 0] 65)).heap.size,0,MH⟩),MF .u64 150] 152) (a4:=MP #[MF ME c] 65) (v:=MF ME c);rw[<-b0]at Z;obtain⟨a9,c7⟩:=Z;have f3:=MX w2 _ c7;have m:=j.out.2.2.2.2.trans (a9.mono j.out.2.2.2.2.size);have y:=q.out.1.below m;have c9:=y.Ip;have d8:=y.lt;obtain⟨u,A⟩:∃u,u=(w2.alloc (MP #[MF ME 10,MF ME 0,MF ME 0,MF ME 0,MF ME 0,MF ME c,MF ME 0] 83)).drew:=⟨_,rfl⟩;have K:MQ w2.heap.size w2 u:=by rw[A];exact(WQ w2).drew
 have b8:u.heap.size=w2.heap.size+1:=by rw[A];simp
 have a7:u.heap[w2.heap.size]?=MI (MP (Z1 (aAG c)).toArray 83 (0,0)):=by rw[A];exact M1 _ _
 have c5:=y.below K;have b7:XG (V.off base g) u fun X=>Xw Z1 X (MG (MI ⟨w2.heap.size,0,MH⟩) 1 1) [aAG c]:=fun X h1 h2=>aBq ((h2 w2.heap.size (by omega) (by
  rintro(e|e)
  ·have:=q.out.2.2.1;have:=m.size;omega
  ·have:=(y.Mb e).2;omega)).trans a7)
 obtain⟨q8,c8,w9,M,⟨d9,e8⟩,b9,a6⟩:=aBx c5 (by have:=q.out.2.1;omega) (MI ⟨w2.heap.size,0,MH⟩,1,[aAG c]) b7;rw[b8,A]at M;have hr:(N2 #[64,64] 64 #[MG V.p V.xs.length V.c,MG (MI ⟨w2.heap.size+1,0,MH⟩) 1 1]).run MK (((w2.alloc (MP #[MF ME 10,MF ME 0,MF ME 0,MF ME 0,MF ME 0,MF ME c,MF ME 0] 83)).alloc (MP #[MG (MI ⟨w2.heap.size,0,MH⟩) 1 1] 61)).drew)=aDu (MG (MI ⟨q8,0,MH⟩) (V.xs.length+1) c8) w9:=M;have F:M6 (_/\_/\_/\_):=⟨hr,b9,aAa.F5 (V:=V) (g:=g) (m.trans (K.mono m.size)),a6⟩;clear b0 a9 m y HA A K b8 a7 c5 b7 M hr b9 a6
 go_wp2_with fail
 go_region_law (first|(refine aec (by rfl) _ _ 64 (by rfl) _ _ _ _ (by rfl) (by rfl) F.out.1 ?_))
 all_goals
  go_wp2
  try simp only[Exit.inBlock,Exit.then]
  refine Np (results_none rfl _ _ _) rfl ?_;exact⟨rfl,_,F.out.2.1,F.out.2.2.1.F0 F.out.2.2.2,by simp⟩
abbrev aBm(U:Us)(p:Option Oc)(n:Nat):aDj:=⟨U,p,n,[]⟩
theorem aAL(U:Us)(G:Gt)(p:Option Oc)(n:Nat)(W:MO):(Instr.build 100 #[(0,Ny (XR U G)),(1,MG p 0 n)]).run MK W=aDu (Ny (aDk (aBm U p n) ⟨G,[]⟩).toArray) W:=by kernel_rfl
theorem aBk{w0 w w2 W:MO}{U:Us}{c:Cf}{g q:Nat}(h0:w0.heap.size<=w.heap.size)(hbox:W.heap[g]?=MI (MP (aDk (aBm U (MI ⟨q,0,MH⟩) n) ⟨Yb c,[]⟩).toArray 100 (0,0)))(hg:w0.heap.size<=g)(hrow:W.ownsRow w0.heap.size 61 1 (MG (MI ⟨q,0,MH⟩) 0 n) 0 [])(hqg:q≠g)
  (hA:∀X,aba w.heap.size w2 X->Xd X U (Yb c)) (hb:MQ w2.heap.size w2 W) (h2:w2.heap.size<=g) (h3:w2.heap.size<=q):az9 w0.heap.size W g (aBm U (MI ⟨q,0,MH⟩) n) ⟨Yb c,[]⟩:=by
 refine⟨hbox,hg,rfl,hrow,fun e=>hqg (by injection e),fun X h1 h4=>?_,fun x hx=>absurd hx OD⟩;refine hA X ⟨Nm hb.size h1,fun b q1 q2=>?_⟩;rw[h4 b (M8 q2 hb.size),hb.block b q2];rintro(e|rfl|e)
 ·omega
 ·omega
 ·have f:q=b:=by injection e
  omega
theorem aBB{P:O8}{md:Region.Mode}{ops:Array Oper}{Q:Exit->Act->MO->Prop}{S:MO->Prop}{listed:Array Bool}{a:Act}{w w1:MO}{o:Oper}(ho:ops[i]?=MI o)(hg:o.guard=MH)(t:NU)(l k:Operand)(hop:o.op=.makeSlice t l k)
  (x z y:M7) (hl:a.eval l=x) (hk:a.eval k=z) (hr:(Instr.makeSlice t x z).run P w=aDu y w1) (hS:S w1)
  (h:wpAnyH P md ops Q S fuel (listed.setIfInBounds i Nw) (a.put o.dst y) w1):AllReadyH P md ops Q S fuel listed a w [i]:=by
 refine NP ho (fun K hK=>?_) NX;have f:Region.wanted o (yielded ops a.tmps)=true:=by simp[Region.wanted,hg]
 rw[Nh f];unfold Oper.wp execOp;simp only[hop,hl,hk,Pn,Sem.run_pure,Result.andThen_ok,hr];exact hK.out _ _ hS (fun _=>h)
theorem aBn{w:MO}{base:Nat}(hb:base<=w.heap.size)(hn:n<=4000):∃w',(Instr.makeSlice 64 (MF ME 0) (MF ME (n:Int))).run MK w=aDu (MG (MI ⟨w.heap.size,0,MH⟩) 0 n) w'/\w'.ownsRow base 61 1 (MG (MI ⟨w.heap.size,0,MH⟩) 0 n) 0 []/\MQ w.heap.size w w'/\w.heap.size<w'.heap.size:=by
 obtain⟨i,u,j⟩:=Option.map_eq_some_iff.1 aBi;simp only[Prod.mk.injEq]at j;obtain⟨w',q,m,f⟩:=run_make_own w base 64 61 i _ 1 Tryz.underlying64 u j.1 j.2.1 ME ME n (by rw[j.2.2];omega) (by unfold NE;omega) hb;exact⟨w',q,m,⟨f.os,f.tape,f.output,f.size,fun k hk=>f.block k hk (by simp)⟩,(m.lt w.heap.size rfl).2⟩
theorem aAH(c:Cf)(hc:adg c)(n:Nat)(hn:n<=4000)(w:MO) :
  Ni MK 17 #[Ny (ac8 c).toArray,MF ME (n:Int)] w fun r w'=>∃g V,r=MN (Nv #[gP g,MF ME 0])/\az9 w.heap.size w' g V ⟨Yb c,[]⟩/\V.xs=[]/\MQ w.heap.size w w':=by
 obtain⟨K,A⟩:∃K:List M7,K=ac8 c:=⟨_,rfl⟩;have HB:M6 (∀W:MO,Ni MK 14 #[Ny K.toArray] W _):=fun W=>by rw[A];exact aor c hc W
 have g4:K.length=16:=by rw[A];rfl
 rw[<-A];obtain⟨J,a8⟩:∃J,J=w.alloc (MP K.toArray 35):=⟨_,rfl⟩;have f6:MQ w.heap.size w J:=by rw[a8];exact WQ w
 have F:M6 (_/\_/\_):=⟨g4,f6,hn⟩;have h8:¬(4000:Int)<(n:Int):=by omega
 clear A g4 f6 hc;go_enter Tryz.func17,Tryz.ntmps17
 go_wp2_with ((with_reducible refine O3 rfl 35 (O6 2) rfl w.heap.size 0 ?gx K _ ?gc Ph ?gd ?gi ?_);(case gx=>rfl);(case gc=>exact afW (M1 _ _));(case gd=>rfl);(case gi=>rw[F.out.1];exact ajj))
 rw[<-a8];clear a8;refine(HB.out J).mono ?_;rintro r w2 ⟨U,rfl,hM,f3⟩;obtain⟨M,D⟩:∃M,M=(XR U (Yb c)).toList:=⟨_,rfl⟩;rw[show acN U (Yb c)=Ny M.toArray by rw[D]];have O:M.length=26:=by rw[D];rfl
 have b0:M.toArray.size=26:=(show M.toArray.size=M.length from OQ).trans O;have d8:M.toArray.all (·.oneCell')=true:=by rw[D];exact ado _ _
 have a9:(w2.alloc (MP wz.toArray 55)).heap[w2.heap.size]?=MI (MP wz.toArray 55 (0,0)):=M1 _ _;obtain⟨f,T⟩:∃f,f=(w2.alloc (MP wz.toArray 55)).setCells w2.heap.size 0 M:=⟨_,rfl⟩;have f4:f.heap[w2.heap.size]?=MI (MP M.toArray 55 (0,0)):=by rw[T];exact afG a9 (by rw[O];rfl)
 have c6:MQ w2.heap.size w2 f:=by rw[T];exact adp (WQ w2) (MV _) _ _ (by simp)
 have c9:(w2.alloc (MP wz.toArray 55)).there w2.heap.size 0 M.toArray.size:=by rw[b0];exact afH a9
 have c7:=F.out.2.1.trans (f3.mono F.out.2.1.size);obtain⟨u,b7⟩:∃b,b=w2.heap.size:=⟨_,rfl⟩;have I:M6 (_/\_/\_/\_/\_):=⟨O,b0,d8,D,(hM:∀X,aba J.heap.size w2 X->Xd X U (Yb c))⟩;have j:M6 (_/\_/\_/\_/\_/\_):=⟨c9,T,(show f.heap[u]?=MI (MP M.toArray 55 (0,0))by rw[b7];exact f4),c6,c7,b7⟩;clear D O b0 d8 a9 T f4 c6 c9 c7 hM f3 b7 HB
 go_wp2_with ((with_reducible refine OW rfl 55 (O6 6) (O6 11) rfl w2.heap.size 0 M.toArray ?sx ?sy ?st ?si ?s1 ?_);(case sx=>rfl);(case sy=>rfl);(case st=>exact j.out.1);(case si=>rw[I.out.2.1];exact Z0);(case s1=>exact I.out.2.2.1);rw[NS,<-j.out.2.1])
 rw[<-j.out.2.2.2.2.2];obtain⟨S,hS,Z⟩:∃S:MO->Prop,(∀X,S X->X.rangeAt u 0 M)/\(∀X,X.rangeAt u 0 M->S X):=⟨fun X=>X.rangeAt u 0 M,fun _ h=>h,fun _ h=>h⟩;have g5:u<f.heap.size:=(Array.getElem?_eq_some_iff.1 j.out.2.2.1).1;have c5:f.rangeAt u 0 M:=agb j.out.2.2.1;have g8:S f.drew:=Z _ c5;have f5:∀X,MQ f.heap.size f X->S X:=fun X hX=>Z _ (afr c5 (hX.block u g5))
 have b9:M6 (_/\_/\_):=⟨hS,Z,f5⟩;clear hS Z f5 c5 g5;refine O2 (S:=S) (by kernel_rfl) g8 (fun hHeld=>?_);refine awW 0 (Ny M.toArray) hHeld ?_ (hy:=Pt (by rfl) 55 (O6 6) rfl u 0 rfl M _ (fun _ h=>b9.out.1 _ h) Lv rfl (by rw[I.out.1];exact Z0));simp only[Nr,MZ,MT,MS,MJ,ML,MM];refine awW 1 (MF ME (n:Int)) hHeld ?_;simp only[Nr,MZ,MT,MS,MJ,ML,MM];obtain⟨B,e8,N,m,f8⟩:=aBn (w:=f.drew) (base:=w.heap.size) (Nm j.out.2.2.2.2.1.size j.out.2.2.2.1.size) F.out.2.2;have m:MQ f.heap.size f B:=Za m;have c4:S B:=b9.out.2.2 _ m;refine NN (rs:=[2]) (by kernel_rfl) (by simp) ?_;refine aBB (i:=2) (o:=_) (by rfl) (by rfl) 64 (.const (MF ME 0)) (O6 19) (by rfl) _ _ _ (by rfl) (by rfl) e8 c4 ?_
 try simp only[Nr,MZ,MT,MS,MJ,ML,MM]
 obtain⟨q,hq⟩:∃q,q=f.drew.heap.size:=⟨_,rfl⟩;rw[<-hq]at N f8⊢;obtain⟨R,hR⟩:∃R,R=aDk (aBm U (MI ⟨q,0,MH⟩) n) ⟨Yb c,[]⟩:=⟨_,rfl⟩;have a6:∀X,(Instr.build 100 #[(0,Ny M.toArray),(1,MG (MI ⟨q,0,MH⟩) 0 n)]).run MK X=aDu (Ny R.toArray) X:=fun X=>by rw[I.out.2.2.2.1,hR];exact aAL U (Yb c) _ n X
 refine awW 3 (Ny R.toArray) c4 ?_ (hy:=avx (by rfl) 100 #[(0,O6 18),(1,O6 20)] rfl (Ny R.toArray) (fun X=>by simp only[List.map_toArray,List.map_cons,List.map_nil];exact a6 X));simp only[Nr,MZ,MT,MS,MJ,ML,MM];have HR:M6 (_/\_/\_):=⟨hR,hq,a6⟩;clear hR hq a6;refine NN (rs:=[4]) (by kernel_rfl) (by simp) ?_;refine NP (o:=_) rfl (fun K A=>?_) NX;go_simp;obtain⟨g,hg⟩:∃g,g=B.heap.size:=⟨_,rfl⟩;obtain⟨y,L⟩:∃y,y=B.alloc (MP R.toArray 100):=⟨_,rfl⟩;have a0:MQ B.heap.size B y:=by rw[L];exact WQ B
 have a5:S y:=b9.out.2.2 _ (m.trans (a0.mono m.size));have d9:y.heap[g]?=MI (MP R.toArray 100 (0,0)):=by rw[L,hg];exact M1 _ _
 rw[<-L,<-hg];refine A.out _ _ a5 (fun hHeld5=>?_);clear A K
 try simp only[Nr,MZ,MT,MS,MJ,ML,MM]
 refine NN (rs:=[5]) (by kernel_rfl) (by simp) ?_;refine acK (i:=5) (o:=_) (by rfl) (by rfl) (O6 22) (by rfl) (gP g) (by rfl) a5 ?_
 try simp only[Nr,MZ,MT,MS,MJ,ML,MM]
 refine NN (rs:=[6]) (by kernel_rfl) (by simp) ?_;refine acK (i:=6) (o:=_) (by rfl) (by rfl) (.const (MF ME 0)) (by rfl) (MF ME 0) (by rfl) a5 ?_
 try simp only[Nr,MZ,MT,MS,MJ,ML,MM]
 refine PS (by kernel_rfl) ?_ _;have b8:=j.out.2.2.2.1.trans (m.mono j.out.2.2.2.1.size);have a7:=b8.trans (a0.mono b8.size);have g7:f.heap.size=q:=HR.out.2.1.symm;have f9:=j.out.2.2.2.2.1.size;have g6:=j.out.2.2.2.1.size;have g9:=m.size;have HF:M6 (az9 w.heap.size y g (aBm U (MI ⟨q,0,MH⟩) n) ⟨Yb c,[]⟩/\MQ w.heap.size w y):=⟨aBk F.out.2.1.size (by rw[<-HR.out.1];exact d9) (by omega) (W8 N fun b e=>a0.block b (N.lt b e).2) (by omega) I.out.2.2.2.2 a7 (by omega) (by omega),j.out.2.2.2.2.1.trans (a7.mono f9)⟩;clear d9 a5 hHeld5 a7 b8 L hg a0 m c4 e8 N f8 g7 f9 g6 g9 hHeld HR;go_wp2
 go_ret2
 exact⟨g,_,rfl,HF.out.1,rfl,HF.out.2⟩
theorem aBF{c:Cf}(hc:adg c):∀(n:Nat) (es:List Ev),es.length=n->n<=1000000->(∀e∈es,Yk e=0)->XU c (az0 (Yb c) es):=by
 intro n
 induction n with
 |zero=>intro es h _ _;obtain rfl:=List.length_eq_zero_iff.1 h;exact avq hc
 |succ n ih =>
  intro es h j f;obtain⟨l,e,rfl⟩:∃l e,es=l++[e]:=⟨es.dropLast,es.getLast (by intro q;rw[q]at h;cases h),(aDC _).symm⟩;rw[Ns,OU]at h;rw[az3];exact(ih l (by omega) (by omega) fun x hx=>f x (List.mem_append_left _ hx)).step (f e (by simp)) (by rw[az2];omega)
structure aAd(W:MO)(U:Us)(po:Option Oc)(co:Nat)(xs:List aZZ)(P:Gs):Prop where
 eqs:xs.map (·.2.2)=P.outs
 rows:Xw aBr W (MG po xs.length co) xs
 all:∀x∈xs,Xw Z1 W (MG x.1 x.2.2.length x.2.1) x.2.2
 wat:Xd W U P.last
theorem aAd.below{W:MO}{U:Us}{po:Option Oc}{co:Nat}{xs:List aZZ}{P:Gs}(h:aAd W U po co xs P)(hb:MQ W.heap.size W Y):aAd Y U po co xs P :=
 ⟨h.eqs,h.rows.below hb,fun x hx=>(h.all x hx).below hb,h.wat.below hb⟩
theorem az9.aDo{base:Nat}{w u:MO}{g:Nat}{V:aDj}{P:Gs}(h:az9 base w g V P)(hs:w.heap.size<=u.heap.size)(hk:∀b,base<=b->b<w.heap.size->u.heap[b]?=w.heap[b]?):aAd u V.u V.p V.c V.xs P:=by
 have f:∀b,b<w.heap.size->¬V.off base g b->u.heap[b]?=w.heap[b]?:=fun b q1 q2=>hk b (by
  rcases Oq b base with e|e
  ·exact absurd (Nt e) q2
  ·exact e) q1
 exact⟨h.eqs,abw (W8 h.rows fun b e=>hk b (h.rows.lt b e).1 (h.rows.lt b e).2),fun x hx=>h.all x hx u hs f,h.last u hs f⟩
def Gs.frm(G:Gs)(l:List Nat):Gs:=if(aB9 l).2=0 then G.step (aB9 l).1 else G.bad (aB9 l).2
def aA6(c:Cf)(fs:List aDi):Gs:=fs.foldl (fun G x=>G.frm x.2.2) ⟨Yb c,[]⟩
theorem aA9(c:Cf)(fs:List aDi)(x:aDi):aA6 c (fs++[x])=(aA6 c fs).frm x.2.2:=by
 unfold aA6;rw[Pu];rfl
def aAU:List aDi->List Ev
 | []=>[]
 |x::l=>if(aB9 x.2.2).2=0 then(aB9 x.2.2).1::aAU l else aAU l
theorem aAV:∀l m:List aDi,aAU (l++m)=aAU l++aAU m
 | [],m=>rfl
 |x::l,m=>by
  rw[List.cons_append,aAU,aAU,aAV l m]
  split <;> rfl
theorem aAW:∀l:List aDi,(aAU l).length<=l.length
 | []=>MV _
 |x::l=>by
  have:=aAW l;rw[aAU]
  split
  ·rw[Ox,Ox];omega
  ·rw[Ox];omega
theorem aAX:∀l:List aDi,(∀x∈l,(aB9 x.2.2).2=0->Yk (aB9 x.2.2).1=0)->∀e∈aAU l,Yk e=0
 | [],_,e,f=>by cases f
 |x::l,h,e,f=>by
  have j:=aAX l fun y hy=>h y (NB _ hy)
  rw[aAU]at f
  split at f
  ·rename_i h0
   rcases OO.1 f with rfl|f
   ·exact h x NM h0
   ·exact j e f
  ·exact j e f
theorem aA7(c:Cf):∀(n:Nat) (fs:List aDi),fs.length=n->(aA6 c fs).last=(az0 (Yb c) (aAU fs)).last:=by
 intro n
 induction n with
 |zero=>intro fs h;obtain rfl:=List.length_eq_zero_iff.1 h;rfl
 |succ n ih =>
  intro fs h;obtain⟨l,x,rfl⟩:∃l x,fs=l++[x]:=⟨fs.dropLast,fs.getLast (by intro q;rw[q]at h;cases h),(aDC _).symm⟩;rw[Ns,OU]at h;have f:=ih l (by omega);rw[aA9,aAV];unfold Gs.frm
  by_cases h0:(aB9 x.2.2).2=0
  ·rw[Nh h0,show aAU [x]=[(aB9 x.2.2).1]by rw[aAU,Nh h0];rfl,az3]
   show(Xb (aA6 c l).last _).Ma=_;rw[f];rfl
  ·rw[Nf h0,show aAU [x]=[]by rw[aAU,Nf h0];rfl,OG]
   exact f
theorem aBM{base:Nat}{w:MO}{g:Nat}{V:aDj}{P:Gs}(h:az9 base w g V P)(hr:az8 P)(hlen:V.xs.length<=4000)(hblk:Xo w)(hb:base<=w.heap.size)(hx:az5 w x)(hok:(aB9 x.2.2).2=0->Yk (aB9 x.2.2).1=0)(h7:P.last.now+1<=1099511626776)(hg:w.cell? ⟨0,0,MH⟩=MI (aBQ 128)):
  Ni MK 18 #[gP g,aDU 113 (MG x.1 x.2.2.length x.2.1)] w fun r w'=>r=MN (Nv #[])/\∃V',az9 base w' g V' (P.frm x.2.2)/\aAa V V' g w w'/\V'.xs.length=V.xs.length+1:=by
 unfold Gs.frm
 by_cases h0:(aB9 x.2.2).2=0
 ·rw[Nh h0]
  exact aBN h hr hlen hblk hb _ (hok h0) (fun _=>h7) hx (by rw[<-h0])
 ·rw[Nf h0]
  exact aBL h hlen hb hx h0 rfl hg
theorem aBz{c:Cf}(hc:adg c)(es:List aDi){w:MO}(hes:∀x∈es,az5 w x)(hok:∀x∈es,(aB9 x.2.2).2=0->Yk (aB9 x.2.2).1=0)(hl:es.length<=4000){p:Option Oc}{cc:Nat}(hrow:Xw aA3 w (MG p es.length cc) es)(hblk:Xo w)(hgl:w.cell? ⟨0,0,MH⟩=MI (aBQ 128)) :
  Ni MK 11 #[Ny (ac8 c).toArray,MG p es.length cc] w fun r w'=>∃U po co xs,r=MN (Nv #[Ny (XR U (aA6 c es).last),MG po xs.length co,MF ME 0])/\(∀X,aba w.heap.size w' X->aAd X U po co xs (aA6 c es))/\MQ w.heap.size w w':=by
 obtain⟨K,hK⟩:∃K:List M7,K=ac8 c:=⟨_,rfl⟩;obtain⟨n,hn⟩:∃n,n=es.length:=⟨_,rfl⟩;have a8:n<=4000:=by omega
 have HB:M6 (∀W:MO,Ni MK 17 #[Ny K.toArray,MF ME (n:Int)] W _):=fun W=>by rw[hK];exact aAH c hc n a8 W
 have HL:M6 (K.length=16):=by show K.length=16;rw[hK];rfl
 rw[<-hK,<-hn];obtain⟨B,D⟩:∃X,X=w.alloc (MP K.toArray 35):=⟨_,rfl⟩;have B0:MQ w.heap.size w B:=by rw[D];exact WQ w
 have r0:B.rangeAt w.heap.size 0 K:=by rw[D];exact agb (M1 _ _)
 have l0:w.heap.size<B.heap.size:=by rw[D];simp
 obtain⟨q,c6⟩:∃b,b=B.heap.size:=⟨_,rfl⟩;have s4:w.heap.size+1=q:=by rw[c6,D];simp
 obtain⟨m,N⟩:∃m,m=B.alloc (MP wz.toArray 55):=⟨_,rfl⟩;have B1:MQ B.heap.size B m:=by rw[N];exact WQ B
 have r4:m.heap[q]?=MI (MP wz.toArray 55 (0,0)):=by rw[N,c6];exact M1 _ _
 have i6:MQ w.heap.size w m:=B0.trans (B1.mono B0.size);have h8:((w.alloc (MP K.toArray 35)).alloc (MP wz.toArray 55)).rangeAt w.heap.size 0 K:=by rw[<-D,<-N];exact afr r0 (B1.block _ l0)
 have d9:m=(w.alloc (MP K.toArray 35)).alloc (MP wz.toArray 55):=by rw[N,D]
 have j:M6 (_/\_/\_/\_/\_/\_/\_/\_):=⟨hc,hes,hn,hrow,hblk,i6,r4,a8⟩;have T:M6 (_/\_):=⟨hok,hgl⟩;have H0:M6 (_/\_/\_):=⟨h8,d9,s4⟩;have j4:M6 (w.heap.size<=q):=by show w.heap.size<=q;omega
 have j7:n<=9223372036854775807:=by omega
 clear D B0 r0 l0 c6 s4 N B1 r4 i6 h8 d9 hK hc hes hl hrow hblk hn a8 hok hgl;go_enter Tryz.func11,Tryz.ntmps11
 go_wp2_with ((with_reducible refine O3 rfl 35 (O6 2) rfl w.heap.size 0 ?gx K _ ?gc Ph ?gd ?gi ?_);(case gx=>rfl);(case gc=>exact H0.out.1);(case gd=>rfl);(case gi=>rw[HL.out];exact ajj))
 rw[<-H0.out.2.1,H0.out.2.2];refine(HB.out m).mono ?_;rintro r w1 ⟨g,V,rfl,J,f9,i7⟩;have H1:M6 (az9 m.heap.size w1 g V (aA6 c (es.take 0))/\V.xs.length=0/\MQ m.heap.size m w1):=⟨by rw[List.take_zero];exact J,by rw[f9];rfl,i7⟩;clear J f9 i7 HB H0
 go_wp2_with fail
 go_loopw [24] (fun i wr=>∃(k:Nat) (V:aDj),i=MF ME (k:Int)/\k<=n/\M6 (az9 m.heap.size wr g V (aA6 c (es.take k))/\V.xs.length=k/\MQ m.heap.size m wr)) (fun i _=>n-(intOf i).toNat)
 case atStart=>exact⟨0,V,rfl,Nx _,H1⟩
 case round =>
  obtain⟨k,V,rfl,hk,f⟩:=hrel
  by_cases hlt:k<n
  ·have j1:(k:Int)<(n:Int):=by omega
   have O:k<es.length:=by rw[<-j.out.2.2.1];exact hlt
   have L:MQ w.heap.size w wr:=j.out.2.2.2.2.2.1.trans (f.out.2.2.mono j.out.2.2.2.2.2.1.size);obtain⟨a,j8,hv,_,i9,hp⟩:=Xw.F6 aA4 (j.out.2.2.2.1.below L);injection hv with ha hn2 hcap;obtain⟨bo,oo,g6,j6,c7⟩:=hp k O;rw[<-ha]at g6;have f0:=c7 0 (by omega);rw[P6]at f0;have a9:=(j.out.2.1 _ (Nk O)).below L;have b8:=T.out.1 _ (Nk O);have I:es.take (k+1)=es.take k++[es[k]]:=M9 O;obtain⟨x,hx⟩:∃x,x=es[k]:=⟨_,rfl⟩;rw[<-hx]at f0 a9 b8 I;have hR:=aBF j.out.1 _ (aAU (es.take k)) rfl (by have:=aAW (es.take k);rw[NH]at this;have:=j.out.2.2.2.2.2.2.2;omega) (aAX _ fun y hy=>T.out.1 y (aDw hy));have Z:=aA7 c _ (es.take k) rfl;have i2:(aA6 c (es.take k)).last.out=[]:=by rw[Z];exact hR.out
   have hT:=aBM f.out.1 ⟨by rw[Z];exact hR.wm,i2⟩ (by have:=f.out.2.1;have:=j.out.2.2.2.2.2.2.2;omega) (j.out.2.2.2.2.1.below L) f.out.2.2.size a9 b8 (by
    have h1:=hR.now;rw[az2]at h1;have h2:=aAW (es.take k);rw[NH]at h2;have:=j.out.2.2.2.2.2.2.2;rw[Z];omega) ((L.cell (p:=⟨0,0,MH⟩) (MX w _ T.out.2)).trans T.out.2)
   have f1:wr.cell? ⟨bo,oo+k,MH⟩=MI (MG x.1 x.2.2.length x.2.1):=f0;have HT:M6 _:=hT;have HK:M6 _:=I;obtain⟨px,g5⟩:∃n,n=x.1:=⟨_,rfl⟩;obtain⟨cx,f8⟩:∃n,n=x.2.1:=⟨_,rfl⟩;obtain⟨nx,g9⟩:∃n,n=x.2.2.length:=⟨_,rfl⟩;rw[<-g5,<-f8,<-g9]at f1 HT;clear ha hn2 hcap c7 hp O L i9 a9 b8 I hx f0 hR Z i2 hT g5 f8 g9;subst g6
   go_wp2_with fail
   refine Nd HT.out ?_;rintro r w5 ⟨rfl,V5,i5,i3,f6⟩;have H5:M6 (_/\_/\_):=⟨i5,f6,f.out.2.2.trans (i3.IT f.out.1 f.out.2.2.size)⟩;clear i5 i3 f6 HT
   go_wp2_with fail
   go_roundw
   case rel=>exact⟨k+1,V5,by simp,hlt,⟨by rw[HK.out,aA9];exact H5.out.1,by rw[H5.out.2.1,f.out.2.1],H5.out.2.2⟩⟩
   case measure=>simp[intOf];omega
  ·obtain rfl:k=n:=by omega
   have j1:¬(k:Int)<(k:Int):=by omega
   have I:es.take k=es:=N1 (Nat.le_of_eq j.out.2.2.1.symm);rw[I]at f;obtain⟨P,J⟩:∃P,P=aA6 c es:=⟨_,rfl⟩;rw[<-J]at f;obtain⟨M,hM⟩:∃M,M=(XR V.u P.last).toList:=⟨_,rfl⟩;have c4:M.toArray=XR V.u P.last:=by rw[hM]
   have a5:M.length=26:=by rw[hM];rfl
   have c9:M.toArray.all (·.oneCell')=true:=by rw[c4];exact ado _ _
   have hD:=f.out.1.below (MY wr.heap.size wr).drew;have b0:wr.drew.rangeAt g 0 M:=by rw[hM];exact hD.Mo
   have a7:wr.drew.cell? ⟨g,26,MH⟩=MI (MG V.p k V.c):=by rw[<-f.out.2.1];exact hD.Ip
   have a6:=f.out.1.lt;have j3:=f.out.1.low;have d8:q<m.heap.size:=(Array.getElem?_eq_some_iff.1 j.out.2.2.2.2.2.2.1).1;have c5:wr.drew.heap[q]?=MI (MP wz.toArray 55 (0,0)):=(f.out.2.2.block q d8).trans j.out.2.2.2.2.2.2.1;have j2:wr.drew.there q 0 M.toArray.size:=by rw[OQ,a5];exact afH c5
   obtain⟨A,F⟩:∃A,A=wr.drew.setCells q 0 M:=⟨_,rfl⟩;have i1:A.heap[q]?=MI (MP M.toArray 55 (0,0)):=by rw[F];exact afG c5 (by rw[a5];rfl)
   have a0:∀b,b<wr.heap.size->b≠q->A.heap[b]?=wr.heap[b]?:=fun b q1 q2=>by rw[F];exact N8 wr.drew _ _ _ q1 q2
   have b7:wr.heap.size<=A.heap.size:=by rw[F,ac3];exact MV _
   have f5:A.rangeAt g 0 M:=afr b0 (a0 g a6 (by omega));have e8:A.cell? ⟨g,26,MH⟩=MI (MG V.p k V.c):=(NG (a0 g a6 (by omega))).trans a7;have f3:=j4.out;have f4:MQ w.heap.size w A:=by
    rw[F];have hq:=j.out.2.2.2.2.2.1.trans (f.out.2.2.mono j.out.2.2.2.2.2.1.size);exact adF hq.drew f3 _ _ hq.size
   have j0:=j.out.2.2.2.2.2.1.size;have i4:∀X,aba w.heap.size A X->aAd X V.u V.p V.c V.xs P:=fun X hX=>f.out.1.aDo (Nm b7 hX.1) fun b q1 q2=>(hX.2 b (by omega) (M8 q2 b7)).trans (a0 b q2 (by omega))
   have g8:M6 (wr.drew.rangeAt g 0 M/\wr.drew.cell? ⟨g,26,MH⟩=MI (MG V.p k V.c)):=⟨b0,a7⟩;have g7:M6 (A.rangeAt g 0 M/\A.cell? ⟨g,26,MH⟩=MI (MG V.p k V.c)):=⟨f5,e8⟩;have HQ:M6 (_/\_/\_/\_):=⟨i4,f4,i1,c4⟩;have HM:M6 _:=a5;have HO:M6 (_/\_):=⟨c9,J⟩;have i8:=f.out.2.1;have HX:M6 _:=i8;clear I hM c4 a5 hD b0 a7 a6 j3 d8 c5 i1 a0 b7 f5 e8 f3 f4 i4 c9 J i8 j0
   go_wp2_with fail
   obtain⟨S,hS,j5,b9⟩:∃S:MO->Prop,(∀X,S X->X.rangeAt g 0 M/\X.cell? ⟨g,26,MH⟩=MI (MG V.p k V.c))/\S wr.drew/\S A:=⟨fun X=>X.rangeAt g 0 M/\X.cell? ⟨g,26,MH⟩=MI (MG V.p k V.c),fun _ h=>h,g8.out,g7.out⟩;have g4:M6 _:=hS;clear hS g8 g7;refine O2 (S:=S) (by kernel_rfl) j5 (fun hHeld=>?_);refine awW 0 (gP g) hHeld ?_;simp only[Nr,MZ,MT,MS,MJ,ML,MM];refine awW 1 (gP g) hHeld ?_;simp only[Nr,MZ,MT,MS,MJ,ML,MM];refine awW 2 (Na (MI ⟨g,0,MH⟩)) hHeld ?_;simp only[Nr,MZ,MT,MS,MJ,ML,MM];refine awW 3 (Ny M.toArray) hHeld ?_ (hy:=(Pt (by rfl) 55 (O6 35) rfl g 0 rfl M _ (fun _ h=>(g4.out _ h).1) Lv rfl (by rw[HM.out];exact Z0)));simp only[Nr,MZ,MT,MS,MJ,ML,MM];refine awW 4 (gP g) hHeld ?_;simp only[Nr,MZ,MT,MS,MJ,ML,MM];refine awW 5 (gP g) hHeld ?_;simp only[Nr,MZ,MT,MS,MJ,ML,MM];refine awW 6 (Na (MI ⟨g,26,MH⟩)) hHeld ?_;simp only[Nr,MZ,MT,MS,MJ,ML,MM];refine awW 7 (MG V.p k V.c) hHeld ?_ (hy:=(Nt ⟨by rfl,fun X hSw=>by have s1:=(g4.out X hSw).2;go_simp⟩));simp only[Nr,MZ,MT,MS,MJ,ML,MM];refine NN (rs:=[8]) (by kernel_rfl) (by simp) ?_;refine afX (i:=8) (o:=_) (by rfl) (by rfl) 55 (O6 4) (O6 36) (by rfl) q 0 M.toArray (by rfl) (by rfl) j2 (by rw[OQ,HM.out];exact Z0) HO.out.1 (by rw[NS,<-F];exact b9) ?_;rw[NS,<-F]
   try simp only[Nr,MZ,MT,MS,MJ,ML,MM]
   refine NN (rs:=[9]) (by kernel_rfl) (by simp) ?_;refine acK (i:=9) (o:=_) (by rfl) (by rfl) (O6 40) (by rfl) (MG V.p k V.c) (by rfl) b9 ?_
   try simp only[Nr,MZ,MT,MS,MJ,ML,MM]
   refine NN (rs:=[10]) (by kernel_rfl) (by simp) ?_;refine acK (i:=10) (o:=_) (by rfl) (by rfl) (.const (MF ME 0)) (by rfl) (MF ME 0) (by rfl) b9 ?_
   try simp only[Nr,MZ,MT,MS,MJ,ML,MM]
   refine PS (by kernel_rfl) ?_ _;go_wp2;refine Np (v:=Nv #[Ny M.toArray,MG V.p k V.c,MF ME 0]) (akY Tryz.results11 rfl rfl rfl (akJ HQ.out.2.2.1 Lv rfl (by rw[HM.out];exact Z0))) rfl ?_;refine⟨V.u,V.p,V.c,V.xs,?_,by rw[<-HO.out.2];exact HQ.out.1,HQ.out.2.1⟩;rw[HQ.out.2.2.2,HX.out,HO.out.2]
theorem aBh:(MK.info? 78).map (fun i=>(i.zero,i.size,i.bytes))=MI (MI (MG MH 0 0),1,24):=by kernel_rfl
theorem aBf:(MK.info? 4).map (fun i=>(i.zero,i.size,i.bytes))=MI (MI (M3 Nb),1,1):=by kernel_rfl
theorem aBg:(MK.info? 5).map (fun i=>(i.zero,i.size,i.bytes))=MI (MI (MF aDN 0),1,1):=by kernel_rfl
abbrev aBj(x:aDi):Bool:=Nn ((aB9 x.2.2).2=0)
abbrev aAI(x:aDi):List Value:=[M3 (aBj x)]
theorem aAJ(x:aDi):(aAI x).length=1:=rfl
theorem aAK(x:aDi):∀u∈aAI x,u.oneCell'=true:=by
 intro u f;rw[List.mem_singleton.1 f];rfl
abbrev aAM(n:Nat):List Value:=[MF aDN (n:Int)]
theorem aAN(x:Nat):(aAM x).length=1:=rfl
theorem aAO(x:Nat):∀u∈aAM x,u.oneCell'=true:=by
 intro u f;rw[List.mem_singleton.1 f];rfl
theorem aBG:∀l:List Nat,rv aAM l=aB5 l
 | []=>rfl
 |x::l=>by
  rw[rv,aBG l];rfl
def aBo(p p2:Option Oc)(b:Nat):Prop:=p.map (·.block)=MI b\/p2.map (·.block)=MI b
structure aAc(base:Nat)(w:MO)(p:Option Oc)(c:Nat)(p2:Option Oc)(c2:Nat)(fs:List aDi):Prop where
 rows:w.ownsRow base 78 1 (MG p fs.length c) fs.length (rv aA3 fs)
 mine:w.ownsRow base 4 1 (MG p2 fs.length c2) fs.length (rv aAI fs)
 dif:∀b,p.map (·.block)=MI b->p2.map (·.block)≠MI b
 all:∀x∈fs,XG (aBo p p2) w fun X=>az5 X x
section
variable {base:Nat}{w w':MO}{p p2:Option Oc}{c c2:Nat}{fs:List aDi}
theorem aAc.below(h:aAc base w p c p2 c2 fs)(hb:MQ w.heap.size w w'):aAc base w' p c p2 c2 fs :=
 ⟨W8 h.rows fun b e=>hb.block b (h.rows.lt b e).2,W8 h.mine fun b e=>hb.block b (h.mine.lt b e).2,h.dif,fun x hx=>(h.all x hx).below hb⟩
theorem aAc.lt(h:aAc base w p c p2 c2 fs){b:Nat}(hb:aBo p p2 b):base<=b/\b<w.heap.size:=by
 rcases hb with e|e
 ·exact h.rows.lt b (by rw[XV];exact e)
 ·exact h.mine.lt b (by rw[XV];exact e)
theorem aBp(w:MO):aAc w.heap.size w MH 0 MH 0 []:=⟨⟨rfl,Nt ⟨rfl,rfl⟩⟩,⟨rfl,Nt ⟨rfl,rfl⟩⟩,by simp,fun x hx=>absurd hx OD⟩
theorem aAc.MB(h:aAc base w p c p2 c2 fs)(hb:base<=w.heap.size)(hl:fs.length<=1000)(x:aDi)(hx:XG (aBo p p2) w fun X=>az5 X x) :
  ∃q k w5 q2 k2 w6,(N2 #[74,74] 74 #[MG p fs.length c,MG (MI ⟨w.heap.size,0,MH⟩) 1 1]).run MK (w.alloc (MP #[MG x.1 x.2.2.length x.2.1] 78))=aDu (MG (MI ⟨q,0,MH⟩) (fs.length+1) k) w5 /\
   (N2 #[75,75] 75 #[MG p2 fs.length c2,MG (MI ⟨w5.heap.size,0,MH⟩) 1 1]).run MK (w5.alloc (MP #[M3 (aBj x)] 4))=aDu (MG (MI ⟨q2,0,MH⟩) (fs.length+1) k2) w6 /\
   aAc base w6 (MI ⟨q,0,MH⟩) k (MI ⟨q2,0,MH⟩) k2 (fs++[x])/\MQ base w w6:=by
 obtain⟨q,k,w5,r1,D,j,K⟩:=afC aA4 aA5 (by decide) aDT aBh rfl h.rows hb 74 x #[MG x.1 x.2.2.length x.2.1] rfl (by omega) (by unfold NE;omega);have J:∀b,b<w.heap.size->p.map (·.block)≠MI b->w5.heap[b]?=w.heap[b]?:=fun b e hn=>j.block b e fun f=>hn (by rw[<-XV p fs.length c];exact f.symm)
 have Z:w5.ownsRow base 4 1 (MG p2 fs.length c2) fs.length (rv aAI fs):=W8 h.mine fun b e=>J b (h.mine.lt b e).2 fun f=>h.dif b f (by rw[<-XV p2 fs.length c2];exact e)
 obtain⟨q2,k2,w6,r2,o2,A,I⟩:=afC aAJ aAK (by decide) Tryz.underlying75 aBf rfl Z (Nm hb j.size) 75 x #[M3 (aBj x)] rfl (by omega) (by unfold NE;omega);rw[XV]at K I;have B:∀b,b<w5.heap.size->p2.map (·.block)≠MI b->w6.heap[b]?=w5.heap[b]?:=fun b e hn=>A.block b e fun f=>hn (by rw[<-XV p2 fs.length c2];exact f.symm)
 have M:=Nm j.size A.size;have T:∀b,p2.map (·.block)=MI b->b<w.heap.size:=fun b e=>(h.lt (NF e)).2
 have L:(fs++[x]).length=fs.length+1:=by simp
 have a0:q<w5.heap.size:=(D.lt q rfl).2;have O:p2.map (·.block)≠MI q:=fun e=>by
  rcases K with m|m
  ·exact h.dif q m e
  ·have:=T q e;omega
 have N:∀ {y:aDi},XG (aBo p p2) w (fun X=>az5 X y)->XG (aBo (MI ⟨q,0,MH⟩) (MI ⟨q2,0,MH⟩)) w6 fun X=>az5 X y:=fun hA =>
  hA.step M (fun b e hn=>(B b (M8 e j.size) fun f=>hn (NF f)).trans (J b e fun f=>hn (Nt f))) fun b e hn=>by
   rcases hn with m|m
   ·obtain rfl:q=b:=by injection m
    rcases K with f|f
    ·exact Nt f
    ·omega
   ·obtain rfl:q2=b:=by injection m
    rcases I with f|f
    ·exact NF f
    ·have:=j.size;omega
 refine⟨q,k,w5,q2,k2,w6,r1,r2,⟨?_,?_,?_,?_⟩,?_⟩
 ·rw[L]
  exact W8 D fun b e=>B b (D.lt b e).2 fun f=>O (by
   have F:MI q=MI b:=e;rw[F];exact f)
 ·rw[L];exact o2
 ·intro b m f
  have F:q=b:=by injection m
  have e4:q2=b:=by injection f
  rcases I with e|e
  ·exact O (by rw[e,e4,F])
  ·omega
 ·intro y u
  rcases QF.1 u with u|u
  ·exact N (h.all y u)
  ·rw[List.mem_singleton.1 u];exact N hx
 ·exact⟨A.os.trans j.os,A.tape.trans j.tape,A.output.trans j.output,M,fun b e=>(B b (by have:=j.size;omega) fun f=>by have:=(h.lt (NF f)).1;omega).trans (J b (by omega) fun f=>by have:=(h.lt (Nt f)).1;omega)⟩
end
theorem aAS(n:Nat):∀x∈aCk n,x<256:=by
 obtain⟨k,q,j,u,_⟩:=aCq (n+1) n (by omega);intro x m;obtain⟨i,f,rfl⟩:=List.getElem_of_mem m;have e:(aCk n).getD i 0=(aCk n)[i]:=by simp[Pq,MR f]
 rw[<-e]
 by_cases hk:i<k
 ·exact(j i hk).2
 ·obtain rfl:i=k:=by omega
  omega
theorem aAT{e:Ev}(he:Yk e=0){W w':MO}(ho:w'.ownsRow W.heap.size 5 1 v (aCl e).length (aB5 (aCl e))):
  ∃x:aDi,v=MG x.1 x.2.2.length x.2.1/\x.2.2=aCl e/\∀S:Nat->Prop,(∀b,S b->b<W.heap.size)->XG S w' fun X=>az5 X x:=by
 obtain⟨fs,u,D,_⟩:=aCs he;have F:=aCX e fs fs.length (MV _) (aDh u D);rw[aCW e fs u]at F;have L:=(aCE u).1;have K:=an3 u;have j:∀b∈aCl e,b<256:=by
  intro b j;unfold aCl at j;rcases OO.1 j with rfl|j
  ·omega
  ·obtain⟨f,_,h⟩:=List.mem_flatMap.1 j
   exact aAS _ b h
 have B:∀(p:Option Oc) (c:Nat),v=MG p (aCl e).length c->c<=NE->∀S:Nat->Prop,(∀b,S b->b<W.heap.size)->XG S w' fun X=>az5 X (p,c,aCl e):=fun p c hv y S hS X m q=>by
  refine⟨aB6 (base:=W.heap.size) ?_,j,by show(aCl e).length<=_;omega,y⟩;rw[<-hv];exact W8 ho fun b e=>q b (ho.lt b e).2 fun e2=>by have:=(ho.lt b e).1;have:=hS b e2;omega
 have I:=ho;obtain⟨_,⟨m,q⟩|⟨g,A,J,m,_,_,_,y,_,_⟩⟩:=ho
 ·exact⟨(MH,0,aCl e),by rw[q,m],rfl,B MH 0 (by rw[q,m]) (by unfold NE;omega)⟩
 ·exact⟨(MI ⟨g,0,MH⟩,A,aCl e),m,rfl,B _ A m y⟩
theorem aAQ{W:MO}(h:az5 W x):∃p c' w',(N2 #[78,78] 78 #[MG MH 0 0,MG x.1 x.2.2.length x.2.1]).run MK W=aDu (MG p x.2.2.length c') w'/\az5 w' (p,c',x.2.2)/\MQ W.heap.size W w':=by
 have J:Xw aAM W (MG x.1 x.2.2.length x.2.1) x.2.2:=by
  obtain⟨a,j,q,I,f|f|⟨b,off,f,D,F⟩⟩:=h.1
  ·injection q with e1 e2 e3
   rw[e1,e3,f.2];exact⟨a,j,rfl,by simp,by rw[<-e3];exact h.2.2.2,Nt ⟨rfl,rfl⟩⟩
  ·injection q with e1 e2 e3
   rw[e1,e3,f];exact⟨a,j,rfl,by simp,by rw[<-e3];exact h.2.2.2,Nt ⟨rfl,rfl⟩⟩
  ·injection q with e1 e2 e3
   rw[e1,e3];refine⟨a,j,rfl,I,by rw[<-e3];exact h.2.2.2,NF ⟨b,off,f,D,fun i hi=>?_⟩⟩;rw[aBG]at hi⊢;have u:i<x.2.2.length:=by unfold aB5 at hi;rwa[N0]at hi
   rw[F i u];unfold aB5;simp[Pq,MR u]
 obtain⟨p,c',w',B,m,y⟩:=azY aAN aAO (by decide) TG aBg rfl W 78 _ x.2.2 J (by have:=h.2.2.1;omega) (by have:=h.2.2.1;unfold NE;omega);rw[aBG]at m;refine⟨p,c',w',B,⟨aB6 m,h.2.1,h.2.2.1,?_⟩,y⟩;obtain⟨_,⟨f,_⟩|⟨g,j,K,f,_,_,_,A,_,_⟩⟩:=m
 ·injection f with _ _ e;show c'<=_;rw[e];unfold NE;omega
 ·injection f with _ _ e;show c'<=_;rw[e];exact A
section
open Go.ChangeShapes Go.WideShapes Go.ChangeAt Go.Deep
section
variable {H:Type}{enc:NU×M7->H}{w:MO}{base:Nat}{spare:Nat->Bool}{held:Bool}
theorem aBR{P:O8}{e:NU}:∀ {l:List (DataW H)} {d:DataW H},d∈l->∀n∈d.weights P e,n∈DataW.weightsAll P e l
 |x::l,d,h,n,hn=>by
  rw[DataW.weightsAll,QF];rcases OO.1 h with rfl|h
  ·exact Nt hn
  ·exact NF (aBR h n hn)
theorem aBu{V:M7}{d:DataW H}{pl:List MemPlace}(h:DataW.trod enc MK w base spare held fuel 78 [V]=MI (d,pl))(hsz:∀n∈d.weights MK 78,n<=reachBytes):∃f:aDi,V=MG f.1 f.2.2.length f.2.1/\az5 w f:=by
 rcases open_ints TG Tryz.underlying5 (by kernel_rfl) h with⟨u,_⟩|⟨x,len,c,j,u,_,hl,hm,hz,hd,B,T⟩
 ·obtain rfl:V=MG MH 0 0:=by simpa using u
  exact⟨(MH,0,[]),rfl,⟨MH,0,rfl,MV _,Nt ⟨rfl,rfl⟩⟩,by simp,by simp,by simp⟩
 ·obtain rfl:V=MG (MI x) len c:=by simpa using u
  have Z:len<=j.length:=by rw[hz];split <;> omega
  have avg:=(Prod.mk.inj hd).1;have m:((j.take len).map Int.toNat).length=len:=by rw[N0,NH,P1 Z]
  have L:len<=140737488351232:=by
   have K:=hsz (((lits aDN (j.take len):List (DataW H)).length+(lits aDN (j.drop len):List (DataW H)).length)*MK.bytesOf 5) (by rw[avg];simp[DataW.weights,TG]);rw[show MK.bytesOf 5=1 by kernel_rfl]at K;simp[lits,reachBytes]at K;omega
  have D:∀n∈j,0<=n/\n<256:=fun n A=>by
   have:=T n A;simp[Lit.wf,IntKind.min,IntKind.max,IntKind.signed,IntKind.bits]at this;omega
  refine⟨(MI x,c,(j.take len).map Int.toNat),by rw[m],⟨MI x,c,rfl,by rw[m];exact hl,?_⟩,?_,by rw[m];exact L,hm⟩
  ·by_cases h0:len=0
   ·exact NF (Nt (by subst h0;rfl))
   ·obtain⟨b,off,O⟩:=x
    have F:=B 0 (by omega);have M:O=none:=by simpa [aDD]using aDV F
    subst M;have a0:w.cell? ⟨b,off,MH⟩=MI (MF aDN (j.getD 0 0)):=by simpa [aDD]using F
    refine NF (NF ⟨b,off,rfl,MX w ⟨b,off,MH⟩ a0,fun i hi=>?_⟩);rw[m]at hi;have q:i<j.length:=by omega
    have I:=B i q;have N:(⟨b,off,MH⟩:Oc).add i=⟨b,off+i,MH⟩:=by unfold aDD;split <;> simp_all
    rw[N]at I;rw[I];have hb:=D j[i] (Nk q);have e1:j.getD i 0=j[i]:=by simp[Pq,MR q]
    have e2:((j.take len).map Int.toNat).getD i 0=j[i].toNat:=by
     simp[Pq,aDz,O0 (show i<len by omega),MR q]
    rw[e1,e2]
    congr 2;omega
  ·intro y J
   simp only[List.mem_map]at J;obtain⟨n,A,rfl⟩:=J;have:=D n (aDw A);omega
theorem aBv{d:DataW H}{pl:List MemPlace}(h:DataW.trod enc MK w base spare held fuel 74 [v]=MI (d,pl))(hsz:∀n∈d.weights MK 74,n<=reachBytes):
  ∃(l:List aDi) (p:Option Oc) (k:Nat),v=MG p l.length k/\Xw aA3 w (MG p l.length k) l/\∀y∈l,az5 w y:=by
 rcases open_slice1 aDT (by kernel_rfl) h with⟨I,_⟩|⟨a,len,F,m,n,V,D,Pl,I,hb,hl,hm,Z,hx,J⟩
 ·obtain rfl:v=MG MH 0 0:=by simpa using I
  exact⟨[],MH,0,rfl,ak3 w,by simp⟩
 ·obtain rfl:v=MG (MI a) len F:=by simpa using I
  have a0:len<=m:=by rw[Z];split <;> omega
  have avg:=(Prod.mk.inj hx).1;have O:∀i,i<len->∃f:aDi,V i=MG f.1 f.2.2.length f.2.1/\az5 w f:=fun i j=>aBu (J i (by omega)).2 fun n hn=>hsz n (by
   rw[avg];simp only[DataW.weights,aDT,OO,QF];exact NF (Nt (aBR (List.mem_map.2 ⟨i,List.mem_range.2 j,rfl⟩) n hn)))
  obtain⟨q,L⟩:=Deep.choose_lt O;have u:((Pm len).map q).length=len:=by simp
  refine⟨(Pm len).map q,MI a,F,by rw[u],?_,fun y hy=>?_⟩
  ·unfold Xw
   rw[u];refine⟨MI a,F,rfl,hl,hm,?_⟩
   by_cases h0:len=0
   ·exact Nt ⟨h0,by rw[h0];rfl⟩
   ·obtain⟨b,off,T⟩:=a
    have B:=(J 0 (by omega)).1;have N:T=none:=by simpa [aDD]using aDV B
    subst N;have K:∀i,(⟨b,off,MH⟩:Oc).add i=⟨b,off+i,MH⟩:=fun i=>by unfold aDD;split <;> simp_all
    refine NF ⟨b,off,rfl,?_,fun i j=>?_⟩
    ·rw[K]at B
     exact MX w _ B
    ·rw[abx aA4,u,P6]at j
     have A:=ZA aA4 ((Pm len).map q) i 0 (by rw[u];exact j) (by omega);have M:=(J i (by omega)).1;rw[K,(L i j).1]at M;rw[P6,Oe]at A
     simp only[List.getElem_map,List.getElem_range]at A
     rw[M,A];rfl
  ·obtain⟨i,j,rfl⟩:=List.mem_map.1 hy
   exact(L i (List.mem_range.1 j)).2
end
end
section
open Go.ChangeShapes Go.WideShapes
theorem aBb:MK.globalNamed "errors.errorType"=MI 0:=by kernel_rfl
theorem aBd:(MK.cutTypes.find? (·.1 == "internal/reflectlite.rtype")).map (·.2)=MI 167:=by kernel_rfl
theorem aBc:((Pm MK.types.size).filter fun t=>MK.rowNamed t [101,114,114,111,114])=[128]:=by kernel_rfl
theorem aBe{W:MO}(h:laidMetH MK anA W):W.cell? ⟨0,0,MH⟩=MI (aBQ 128):=by
 have I:=(show _/\handlesMet MK [("errors.errorType",Rows.laid_errors_errorType)] W from h).2;obtain⟨m,u,F,y,A,B,q,j⟩:=I _ (List.mem_singleton.2 rfl);obtain rfl:m=[101,114,114,111,114]:=(NC y).symm;obtain rfl:=NC (aBd.symm.trans A);have f:F∈(Pm MK.types.size).filter fun t=>MK.rowNamed t [101,114,114,111,114]:=List.mem_filter.2 ⟨List.mem_range.2 B,q⟩
 rw[aBc]at f;obtain rfl:=List.mem_singleton.1 f;have D:typeHandle MK 128=aBP 128:=by kernel_rfl
 rw[D]at j
 simpa using World.var?_cell aBb j 0
end
theorem WU.Gm{base:Nat}{w:MO}{g:Nat}{V:Pv}{c:Cf}{P:Py}(h:WU base w g V c P):w.cell? ⟨g,16,MH⟩=MI (MG V.ps P.steps.length V.cs):=by
 rw[MW w g 16 _ _ (0,0) h.box,h.steps];rfl
structure aAe(W:MO)(ps:Option Oc)(k:Nat)(q:Sq)(b o:Nat):Prop where
 at_:ps=MI ⟨b,o,MH⟩
 cells:W.rangeAt b (o+k*61) (abK q)
 rd:aje W q
theorem XQ.step{w W:MO}{g:Nat}{V:Pv}{c:Cf}{P:Py}(h:XQ w W g V c P){k:Nat}(hk:k<P.steps.length):∃q b o,aAe W V.ps k q b o/\P.steps[k]?=MI q.s/\aaB c q.s:=by
 have I:=h.pat.steps;have m:k<V.qs.length:=by omega
 have u:Xw abK W (MG V.ps V.qs.length V.cs) V.qs:=abw h.pat.rows;obtain⟨a,F,f,_,_,D⟩:=Xw.F6 avt u;injection f with q1 _ _;obtain⟨b,o,A,J,y⟩:=D k m;have e:P.steps[k]?=MI V.qs[k].s:=by rw[<-h.pat.eqs,aDz,MR m];rfl
 refine⟨V.qs[k],b,o,⟨q1.trans A,fun j v f=>?_,(h.pat.all _ (Nk m)).now⟩,e,h.rn.runs.chain _ (List.mem_of_getElem? e)⟩;have B:j<61:=(List.getElem?_eq_some_iff.1 f).1;rw[y j B];exact f
theorem aBA(f:Nat->Int)(hf:∀i,i<16->(Lit.int ME (f i)).wf=Nw)(ds:List Dd)(hds:∀d∈ds,ajd d){pd:Option Oc}{cd:Nat}{w:MO}(hrow:Xw agP w (MG pd ds.length cd) ds)(hblk:Xo w)(most:Nat)(hm:most<=100) :
  ∃L:List M7,L.length=16/\agc (f 0) (f 1) (f 2) (f 3) (f 4) (f 5) (f 6) (f 7) (f 8) (f 9) (f 10) (f 11) (f 12) (f 13) (f 14) (f 15)=Ny L.toArray/\∀W,MQ w.heap.size w W->Ni MK 6 #[Ny L.toArray,MG pd ds.length cd,MF ME (most:Int)] W (au0 f most W):=
 ⟨[MF ME (f 0),MF ME (f 1),MF ME (f 2),MF ME (f 3),MF ME (f 4),MF ME (f 5),MF ME (f 6),MF ME (f 7),MF ME (f 8),MF ME (f 9),MF ME (f 10),MF ME (f 11),MF ME (f 12),MF ME (f 13),MF ME (f 14),MF ME (f 15)],rfl,rfl,fun W hB=>awU f hf ds hds W (hrow.below hB) (hblk.below hB) most hm⟩
theorem aBS(W:MO)(U:Us)(G:Gt):∃Y,Y=(W.alloc (MP wz.toArray 55)).setCells W.heap.size 0 (XR U G).toList/\Y.heap[W.heap.size]?=MI (MP (XR U G).toList.toArray 55 (0,0))/\MQ W.heap.size W Y/\(W.alloc (MP wz.toArray 55)).there W.heap.size 0 (XR U G).toList.toArray.size:=by
 have f:(W.alloc (MP wz.toArray 55)).heap[W.heap.size]?=MI (MP wz.toArray 55 (0,0)):=M1 _ _;exact⟨_,rfl,anq f rfl,adp (WQ W) (MV _) _ _ (by simp),(show(W.alloc (MP wz.toArray 55)).there W.heap.size 0 (XR U G).toList.toArray.size from afH (old:=wz) f)⟩
theorem WU.aDq{base:Nat}{w:MO}{g:Nat}{V:Pv}{c:Cf}{P:Py}(h:WU base w g V c P)(j:Nat):w.cell? ⟨g,j,MH⟩=(adM V c P)[j]?:=by
 rw[MW w g j _ _ (0,0) h.box];simp
theorem aBw{W:MO}{p:Option Oc}{c:Nat}{L:List Ou}(h:Xw Z1 W (MG p L.length c) L)(hi:i<L.length):
  ∃b o,p=MI ⟨b,o,MH⟩/\W.cell? ⟨b,o+i*7,MH⟩=MI (MF ME L[i].kind)/\W.cell? ⟨b,o+i*7+1,MH⟩=MI (MF ME L[i].slot)/\W.cell? ⟨b,o+i*7+2,MH⟩=MI (MF ME L[i].gen)/\W.cell? ⟨b,o+i*7+3,MH⟩=MI (MF ME L[i].be)/\W.cell? ⟨b,o+i*7+4,MH⟩=MI (MF ME L[i].req)/\W.cell? ⟨b,o+i*7+5,MH⟩=MI (MF ME L[i].code)/\W.cell? ⟨b,o+i*7+6,MH⟩=MI (MF ME L[i].why):=by
 obtain⟨a,u,m,_,_,q⟩:=Xw.F6 akV h;injection m with q1 _ _;obtain⟨b,o,j,_,f⟩:=q i hi;exact⟨b,o,q1.trans j,f 0 (by omega),f 1 (by omega),f 2 (by omega),f 3 (by omega),f 4 (by omega),f 5 (by omega),f 6 (by omega)⟩
section
variable {P:O8}{ops:Array Oper}{C:MO->Prop}{Q:Act->Prop}{o:Oper}{rest:List Oper}{a:Act}
theorem aBU{id:Nat}{R:Exit->Act->MO->Prop}{w:MO}{l:List Oper}(hC:C w.drew)(h:wpQuiet P l.toArray C (fun a'=>∀w',C w'->R .normal a' w') l a)(hm:P.follows .mixedOrders=true:=by kernel_rfl)(hB:Region.lexB .any l.toArray=true:=by kernel_rfl):(Code.region id l.toArray Nw).wp P R a w :=
 wp_region_quiet hm hB hC (by simpa using h)
theorem aBT{K:Act->Prop}(v:M7)(h:K (a.put o.dst v))(hv:∀w,C w->(execOp a.eval o).run P w=aDu (.value v) w):o.quiet P a C K :=
 ⟨v,fun w hC=>by unfold Oper.quietAt;rw[hv w hC];exact⟨rfl,rfl⟩,h⟩
theorem aBV{K:Act->Prop}(v:M7)(f:FuncId)(args:Array M7)(hc:∀w,C w->Ni P f args w fun e w'=>e=MN v/\C w')(h:K (a.put o.dst v))(hv:∀w,(execOp a.eval o).run P w=aDu (.enter f args) w:=by exact fun X=>by go_simp):o.quiet P a C K :=
 ⟨v,fun w hC=>by unfold Oper.quietAt;rw[hv w];exact⟨rfl,hc w hC⟩,h⟩
end
theorem aBH{l:List Ou}{p1 p2:Option Oc}{c1 c2:Nat}{w:MO}(h1:Xw Z1 w (MG p1 l.length c1) l)(h2:Xw Z1 w (MG p2 l.length c2) l) :
  Ni MK 8 #[MG p1 l.length c1,MG p2 l.length c2] w fun r w'=>r=MN (M3 Nw)/\MQ w.heap.size w w':=by
 have F:l.length<=9223372036854775807:=by obtain⟨_,_,hv,hc,f,_⟩:=Xw.F6 akV h1;unfold NE at f;omega
 obtain⟨n,m⟩:∃n,n=l.length:=⟨_,rfl⟩;have u:M6 (_/\_/\_):=⟨h1,h2,m⟩;rw[<-m]at F⊢;have a0:((n:Int) != (n:Int))=false:=bne_self_eq_false _;clear h1 h2 m;go_enter Tryz.func8,Tryz.ntmps8;go_wp2
 go_loopw [5] (fun i wr=>∃k q:Nat,i=MF ME k/\k<=n/\wr=w.drewN q) (fun i _=>n-(intOf i).toNat)
 case atStart=>exact⟨0,0,rfl,Nx _,rfl⟩
 case round =>
  obtain⟨k,q,rfl,hk,rfl⟩:=hrel
  by_cases hlt:k<n
  ·have j:k<l.length:=by rw[<-u.out.2.2];exact hlt
   obtain⟨b1,o1,rfl,M,T,L,K,D,A,N⟩:=aBw u.out.1 j;obtain⟨b2,o2,rfl,I,Z,O,y4,J,B,y7⟩:=aBw u.out.2.1 j;obtain⟨x,f⟩:∃x,x=l[k]:=⟨_,rfl⟩;rw[<-f]at M T L K D A N I Z O y4 J B y7;have y:(k:Int)<(n:Int):=by omega
   have a5:Nn ((k:Int)<(n:Int))=true:=Nq y;clear f j;go_wp2
   go_region
   go_wp2
   go_roundw
   case rel=>exact⟨k+1,q+1,by simp,hlt,rfl⟩
   case measure=>simp[intOf];omega
  ·obtain rfl:k=n:=by omega
   go_wp2;go_ret;exact⟨rfl,amB (MY _ _) q⟩
def aAZ(P:Py)(k:Nat):List Ev:=(P.steps.take k).map (·.ev)
theorem aA1{P:Py}{k:Nat}{s:Sp}(h:P.steps[k]?=MI s):aAZ P (k+1)=aAZ P k++[s.ev]:=by
 obtain⟨f,e⟩:=List.getElem?_eq_some_iff.1 h;unfold aAZ;rw[M9 f,OI,e];rfl
theorem aA0{P:Py}(h:n=P.steps.length):aAZ P n=P.steps.map (·.ev):=by
 unfold aAZ;rw[h,NT]
theorem aAd.at_{W:MO}{U:Us}{po:Option Oc}{co:Nat}{xs:List aZZ}{P:Gs}(h:aAd W U po co xs P)(hn:xs.length=n){j:Nat}{l:List Ou}(hj:j<n)(hl:P.outs[j]?=MI l):
  ∃b o x1 x2,po=MI ⟨b,o,MH⟩/\b<W.heap.size/\W.cell? ⟨b,o+j,MH⟩=MI (MG x1 l.length x2)/\Xw Z1 W (MG x1 l.length x2) l:=by
 have f:j<xs.length:=by omega
 have m:xs[j].2.2=l:=by
  have y:=congrArg (·[j]?) h.eqs;simp only[hl,aDz,MR f,Option.map_some,Qs]at y;exact y
 have q:=h.all _ (Nk f);obtain⟨L,K,F,_,_,J⟩:=Xw.F6 aBs h.rows;injection F with ha hn2 hcap;obtain⟨I,oo,D,B,A⟩:=J j f;have u:=A 0 (by omega);rw[P6]at u;rw[m]at q;refine⟨I,oo,xs[j].1,xs[j].2.1,ha.trans D,B,?_,q⟩;rw[<-m];exact u
theorem aBE(A:Gt)(es:List Ev)(k:Nat)(hk:k<es.length):∃s,(az0 A es).steps[k]?=MI s/\s.out=(Xb (az0 A (es.take k)).last es[k]).out:=by
 have h:=az4 A es (k+1);rw[M9 hk,az3]at h;have j:(az0 A (es.take k)).steps.length=k:=by rw[az2,NH];omega
 have f:(az0 A es).steps[k]?=MI ⟨es[k],(az0 A (es.take k)).last,(Xb (az0 A (es.take k)).last es[k]).Ma,(Xb (az0 A (es.take k)).last es[k]).out⟩:=by
  rw[<-O0 (show k<k+1 by omega),<-h];show((az0 A (es.take k)).steps++[_])[k]?=_;rw[Tw (by omega),j,Nat.sub_self];rfl
 exact⟨_,f,rfl⟩
theorem aA8(c:Cf):∀(n:Nat) (fs:List aDi),fs.length=n->(aA6 c fs).outs.length=n:=by
 intro n
 induction n with
 |zero=>intro fs h;obtain rfl:=List.length_eq_zero_iff.1 h;rfl
 |succ n ih =>
  intro fs h;obtain⟨l,x,rfl⟩:∃l x,fs=l++[x]:=⟨fs.dropLast,fs.getLast (by intro q;rw[q]at h;cases h),(aDC _).symm⟩;rw[Ns,OU]at h;rw[aA9];unfold Gs.frm
  split
  ·show((aA6 c l).outs++[_]).length=_
   rw[Ns,ih l (by omega)];rfl
  ·show((aA6 c l).outs++[_]).length=_
   rw[Ns,ih l (by omega)];rfl
theorem aBa(c:Cf)(fs:List aDi)(i:Nat)(hi:i<=fs.length):∀j,j<i->(aA6 c fs).outs[j]?=(aA6 c (fs.take i)).outs[j]?:=by
 have f:∀(m l:List aDi) (j:Nat),j<l.length->(aA6 c (l++m)).outs[j]?=(aA6 c l).outs[j]?:=by
  intro m
  induction m with
  |nil=>intro l j _;rw[OG]
  |cons x m ih =>
   intro l j q;rw[show l++x::m=(l++[x])++m by simp,ih (l++[x]) j (by rw[Ns];omega),aA9];have u:=aA8 c _ l rfl;unfold Gs.frm
   split
   ·show((aA6 c l).outs++[_])[j]?=_
    rw[OJ (by omega)]
   ·show((aA6 c l).outs++[_])[j]?=_
    rw[OJ (by omega)]
 intro j q;have h:=f (fs.drop i) (fs.take i) j (by rw[NH];omega);rwa[Oo]at h
theorem aAY(x:aDi):aAU [x]=if aBj x=Nw then [(aB9 x.2.2).1]else []:=by
 rw[aAU]
 by_cases h:(aB9 x.2.2).2=0
 ·rw[Nh h,Nh (by unfold aBj;exact Nq h)];rfl
 ·rw[Nf h,Nf (by unfold aBj;simp[h])];rfl
theorem aBy{c:Cf}{P:Py}{fs:List aDi}(hP:P=az0 (Yb c) (aAU fs))(hi:i<fs.length):
  (aBj fs[i]=Nw->(aAU (fs.take (i+1))).length=(aAU (fs.take i)).length+1/\(aAU (fs.take i)).length<(aAU fs).length/\∃s,P.steps[(aAU (fs.take i)).length]?=MI s/\(aA6 c fs).outs[i]?=MI s.out) /\
   (aBj fs[i]=Nb->aAU (fs.take (i+1))=aAU (fs.take i)/\(aA6 c fs).outs[i]?=MI [aAG (aB9 fs[i].2.2).2]):=by
 have A:fs.take (i+1)=fs.take i++[fs[i]]:=M9 hi;have u:=aBa c fs (i+1) (by omega) i (by omega);have m:=aA8 c _ (fs.take i) rfl;rw[NH,P1 (by omega)]at m;have B:=aA7 c _ (fs.take i) rfl;rw[A,aA9]at u;rw[A,aAV,aAY];have f:aAU fs=aAU (fs.take i)++(aAU [fs[i]]++aAU (fs.drop (i+1))):=by
  rw[<-aAV,<-aAV]
  congr 1
  rw[List.singleton_append,<-OK hi,Oo]
 constructor
 ·intro h
  have q:(aB9 fs[i].2.2).2=0:=M2 h;rw[Nh h];rw[aAY,Nh h]at f;obtain⟨k,j⟩:∃k,k=(aAU (fs.take i)).length:=⟨_,rfl⟩;have y:k<(aAU fs).length:=by rw[f,Ns,Ns,OU];omega
  have D:(aAU fs)[k]=(aB9 fs[i].2.2).1:=by
   have e:(aAU fs)[k]?=MI (aB9 fs[i].2.2).1:=by rw[f,Tw (by omega),j,Nat.sub_self];rfl
   exact(List.getElem?_eq_some_iff.1 e).2
  have F:(aAU fs).take k=aAU (fs.take i):=by rw[f,j];exact Qb
  obtain⟨s,I,J⟩:=aBE (Yb c) (aAU fs) k y;refine⟨by rw[Ns];rfl,by rw[<-j];exact y,s,by rw[<-j,hP];exact I,?_⟩;rw[u];unfold Gs.frm;rw[Nh q];show((aA6 c (fs.take i)).outs++[_])[i]?=_;rw[Tw (by omega),m,Nat.sub_self,J,F,D,B];rfl
 ·intro h
  have q:¬(aB9 fs[i].2.2).2=0:=Nc h;rw[Nf (by rw[h];simp),OG];refine⟨rfl,?_⟩;rw[u];unfold Gs.frm;rw[Nf q];show((aA6 c (fs.take i)).outs++[_])[i]?=_;rw[Tw (by omega),m,Nat.sub_self];rfl
theorem az5.Gf{w X:MO}(h:az5 w x)(hs:w.heap.size<=X.heap.size)(hb:∀b,b<w.heap.size->X.heap[b]?=w.heap[b]?):az5 X x:=by
 refine⟨?_,h.2⟩;obtain⟨a,j,q,m,f|f|⟨b,off,f,u,y⟩⟩:=h.1
 ·exact⟨a,j,q,m,Nt f⟩
 ·exact⟨a,j,q,m,NF (Nt f)⟩
 ·exact⟨a,j,q,m,NF (NF ⟨b,off,f,M8 u hs,fun i hi=>(NG (a:=⟨b,off+i,MH⟩) (hb b u)).trans (y i hi)⟩)⟩
structure aAb(w1 w:MO)(P:Py)(k m:Nat)(p:Option Oc)(c:Nat)(p2:Option Oc)(c2:Nat)(nf:Nat)(fs:List aDi):Prop where
 len:nf=fs.length
 nz:aAc w1.heap.size w p c p2 c2 fs
 evs:aAU fs=aAZ P k
 le:fs.length<=m
 bel:MQ w1.heap.size w1 w
 ok:∀x∈fs,(aB9 x.2.2).2=0->Yk (aB9 x.2.2).1=0
theorem aAb.below{w1 w w':MO}{P:Py}{k m:Nat}{p:Option Oc}{c:Nat}{p2:Option Oc}{c2:Nat}{nf:Nat}{fs:List aDi}(h:aAb w1 w P k m p c p2 c2 nf fs)(hb:MQ w.heap.size w w'):aAb w1 w' P k m p c p2 c2 nf fs :=
 ⟨h.len,h.nz.below hb,h.evs,h.le,h.bel.trans (hb.mono h.bel.size),h.ok⟩
theorem aAb.aDp{w1 w:MO}{P:Py}{k m:Nat}{p:Option Oc}{c:Nat}{p2:Option Oc}{c2:Nat}{nf:Nat}{fs:List aDi}(h:aAb w1 w P k m p c p2 c2 nf fs):aAb w1 w P k (m+1) p c p2 c2 nf fs:=⟨h.len,h.nz,h.evs,Nat.le_succ_of_le h.le,h.bel,h.ok⟩
theorem aAb.MB{w1 w:MO}{P:Py}{k m:Nat}{p:Option Oc}{c:Nat}{p2:Option Oc}{c2:Nat}{nf:Nat}{fs:List aDi}(h:aAb w1 w P k m p c p2 c2 nf fs)(hm:m<=1000)(x:aDi)(hx:XG (aBo p p2) w fun X=>az5 X x)(hok:(aB9 x.2.2).2=0->Yk (aB9 x.2.2).1=0){k' m':Nat}(hm':m'=m+1)(he:aAZ P k'=aAZ P k++aAU [x]) :
  ∃q k w5 q2 k2 w6,(N2 #[74,74] 74 #[MG p nf c,MG (MI ⟨w.heap.size,0,MH⟩) 1 1]).run MK (w.alloc (MP #[MG x.1 x.2.2.length x.2.1] 78))=aDu (MG (MI ⟨q,0,MH⟩) (nf+1) k) w5 /\
   (N2 #[75,75] 75 #[MG p2 nf c2,MG (MI ⟨w5.heap.size,0,MH⟩) 1 1]).run MK (w5.alloc (MP #[M3 (aBj x)] 4))=aDu (MG (MI ⟨q2,0,MH⟩) (nf+1) k2) w6 /\
   aAb w1 w6 P k' m' (MI ⟨q,0,MH⟩) k (MI ⟨q2,0,MH⟩) k2 (nf+1) (fs++[x]):=by
 obtain⟨q,B,w5,q2,k2,w6,j,u,D,A⟩:=h.nz.MB h.bel.size (by have:=h.le;omega) x hx;rw[<-h.len]at j u;refine⟨q,B,w5,q2,k2,w6,j,u,by rw[Ns,<-h.len];rfl,D,by rw[aAV,h.evs,he],by rw[Ns,OU];have:=h.le;omega,?_,fun y f=>?_⟩
 ·exact h.bel.trans A
 ·rcases QF.1 f with f|f
  ·exact h.ok y f
  ·rw[List.mem_singleton.1 f];exact hok
theorem aBO(f:Nat->Int)(hf:∀i,i<16->(Lit.int ME (f i)).wf=Nw)(ds:List Dd)(hds:∀d∈ds,ajd d)(Nz:List aDi){pn:Option Oc}{cn:Nat}{pd:Option Oc}{cd:Nat}{w:MO}(hrow:Xw agP w (MG pd ds.length cd) ds)(hB:Xo w)(hN:Xw aA3 w (MG pn Nz.length cn) Nz)(hNf:∀y∈Nz,az5 w y)(hg0:w.cell? ⟨0,0,MH⟩=MI (aBQ 128)) :
  Ni MK 4 #[agc (f 0) (f 1) (f 2) (f 3) (f 4) (f 5) (f 6) (f 7) (f 8) (f 9) (f 10) (f 11) (f 12) (f 13) (f 14) (f 15),MG pd ds.length cd,MG pn Nz.length cn] w fun r w'=>r=MN (M3 Nw)/\MQ w.heap.size w w':=by
 obtain⟨L,hL,eL,c5⟩:=aBA f hf ds hds hrow hB 40 (by omega);rw[eL];obtain⟨W0,k7⟩:∃W0,W0=w.alloc (MP L.toArray 24):=⟨_,rfl⟩;have l6:MQ w.heap.size w W0:=by rw[k7];exact WQ w
 have HI:M6 (_/\_/\_):=⟨hL,l6,c5 W0 l6⟩;obtain⟨nd,p6⟩:∃nd,nd=ds.length:=⟨_,rfl⟩;rw[<-p6]at HI⊢;obtain⟨nz,k8⟩:∃n,n=Nz.length:=⟨_,rfl⟩;rw[<-k8]at hN⊢;have a8:M6 (_/\_/\_/\_):=⟨hN,hNf,hg0,k8⟩;clear hN hNf hg0 k8;clear hL eL c5 l6 hf hds hrow hB p6;go_enter Tryz.func4,Tryz.ntmps4
 go_wp2_with ((with_reducible refine O3 rfl 24 (O6 3) rfl w.heap.size 0 ?gx L _ ?gc Tryz.underlying24 ?gd ?gi ?_);(case gx=>rfl);(case gc=>exact afW (M1 _ _));(case gd=>rfl);(case gi=>rw[HI.out.1];exact apz))
 rw[<-k7];clear k7;refine Nd HI.out.2.2 ?_;rintro r w1 ⟨g,V,c,P,rfl,hS,c7,v0,t7,q0⟩;obtain⟨n,hn⟩:∃n,n=P.steps.length:=⟨_,rfl⟩;have F:M6 (_/\_/\_/\_/\_):=⟨hS,c7,hn,(show n<=40+4 by omega),q0⟩;have s7:=HI.out.2.1.trans (hS.bel.mono HI.out.2.1.size);have HB:M6 _:=s7;clear hS c7 v0 t7 q0 hn HI s7
 go_wp2_with fail
 go_loopw [9,10,11] (fun f m i wr=>∃(k:Nat) (fs:List aDi) (p:Option Oc) (cc:Nat) (p2:Option Oc) (c2 nf:Nat),f=MG p nf cc/\m=MG p2 nf c2/\i=MF ME (k:Int)/\k<=n/\M6 (aAb w1 wr P k (2*k) p cc p2 c2 nf fs)) (fun _ _ i _=>n-(intOf i).toNat)
 case atStart=>exact⟨0,[],MH,0,MH,0,0,rfl,rfl,rfl,Nx _,rfl,aBp w1,rfl,Nx _,MY _ _,fun x hx=>absurd hx OD⟩
 case round =>
  obtain⟨k,fs,p,cc,p2,c2,nf,rfl,rfl,rfl,hk,u⟩:=hrel;have z7:n<=9223372036854775807:=by have:=F.out.2.2.2.1;omega
  have v7:n<=44:=F.out.2.2.2.1;have a6:=F.out.1.on u.out.bel;have g5:wr.cell? ⟨g,16,MH⟩=MI (MG V.ps n V.cs):=by rw[F.out.2.2.1];exact a6.pat.Gm
  have i5:=a6.pat.lt
  by_cases hlt:k<n
  ·have t5:(k:Int)<(n:Int):=by omega
   have z9:nz<=9223372036854775807:=by
    obtain⟨_,v4,_,hc1,v6,_⟩:=Xw.F6 aA4 (by have h:=a8.out.1;rw[a8.out.2.2.2]at h;exact h);rw[a8.out.2.2.2];unfold NE at v6;omega
   clear a6;rcases Oq k nz with p8|p8
   have v2:(k:Int)<(nz:Int):=by omega
   have a7:MQ w.heap.size w wr:=HB.out.trans (u.out.bel.mono HB.out.size);have l9:k<Nz.length:=by rw[<-a8.out.2.2.2];exact p8
   obtain⟨a1,v4,hv,_,_,hp⟩:=Xw.F6 aA4 (show Xw aA3 w (MG pn Nz.length cn) Nz by have h:=a8.out.1;rw[a8.out.2.2.2]at h;exact h);injection hv with ha hq8 hq9;clear hq8 hq9;obtain⟨bn,on,q6,b8,m4⟩:=hp k l9;have v1:=ha.trans q6;have f0:w.cell? ⟨bn,on+k*1+0,MH⟩=MI (MG Nz[k].1 Nz[k].2.2.length Nz[k].2.1):=m4 0 (by omega);rw[P6]at f0;have i7:=a8.out.2.1 _ (Nk l9);obtain⟨x,hx⟩:∃x,x=Nz[k]:=⟨_,rfl⟩;rw[<-hx]at f0 i7;have f1:wr.cell? ⟨bn,on+k,MH⟩=MI (MG x.1 x.2.2.length x.2.1):=(a7.cell (p:=⟨bn,on+k,MH⟩) b8).trans f0;have n4:bn<wr.heap.size:=M8 b8 a7.size;obtain⟨pc,qc,W5,i8,o5,p3⟩:=aAQ (i7.below a7);have f8:M6 _:=aAR o5;have HC:M6 (_/\_/\_):=⟨i8,p3,i7⟩;obtain⟨e,he⟩:∃e,e=(aB9 x.2.2).1:=⟨_,rfl⟩;obtain⟨ce,j4⟩:∃e,e=(aB9 x.2.2).2:=⟨_,rfl⟩;obtain⟨E,hE⟩:∃E,E=aaV e:=⟨_,rfl⟩;simp only[<-he,<-j4]at f8;rw[show agQ e=Ny E.toArray by rw[hE]]at f8;have I:M6 (_/\_/\_):=⟨j4,hE,(show E.length=8 by rw[hE];rfl)⟩;obtain⟨nx,i2⟩:∃n,n=x.2.2.length:=⟨_,rfl⟩;obtain⟨px,j8⟩:∃n,n=x.1:=⟨_,rfl⟩;obtain⟨cx,c7⟩:∃n,n=x.2.1:=⟨_,rfl⟩;rw[<-i2,<-j8,<-c7]at i8 f1;rw[<-i2]at f8;have HL:M6 (_/\_/\_/\_):=⟨i2,j8,c7,i8⟩;clear ha q6 b8 m4 hp l9 hx f0 i7 i8 p3 he j4 hE o5 i2 j8 c7;subst v1
   focus go_wp2_with (at_builtin;(with_reducible refine Z4 rfl _ _ 78 rfl (MG MH 0 0) (MG px nx cx) (MG pc nx qc) W5 ?hs ?hx ?hr ?_);(case hs=>rfl);(case hx=>rfl);(case hr=>exact HL.out.2.2.2))
   refine Nd f8.out ?_;rintro r W6 ⟨rfl,r8⟩;have hZ:(W6.alloc (MP aA2.toArray 60)).heap[W6.heap.size]?=MI (MP aA2.toArray 60 (0,0)):=M1 _ _;obtain⟨Y,hY⟩:∃Y,Y=(W6.alloc (MP aA2.toArray 60)).setCells W6.heap.size 0 E:=⟨_,rfl⟩;have p5:MQ W6.heap.size W6 Y:=by rw[hY];exact adp (WQ W6) (MV _) _ _ (by simp)
   have j5:E.toArray.size=8:=(show E.toArray.size=E.length from OQ).trans I.out.2.2;have o6:(W6.alloc (MP aA2.toArray 60)).there W6.heap.size 0 E.toArray.size:=by rw[j5];exact afH hZ
   have j1:=HC.out.2.1.trans (r8.mono HC.out.2.1.size);have f9:MQ wr.heap.size wr Y:=j1.trans (p5.mono j1.size);have f7:Y.cell? ⟨bn,on+k,MH⟩=MI (MG px nx cx):=(f9.cell (p:=⟨bn,on+k,MH⟩) n4).trans f1;have y0:=M8 n4 f9.size;have b0:M6 (_/\_/\_/\_):=⟨o6,j5,(show E.toArray.all (·.oneCell')=Nw by rw[I.out.2.1];exact OE (au7 _)),hY⟩;have f4:M6 (_/\_):=⟨f9,a7.trans (f9.mono a7.size)⟩;clear hZ hY p5 j5 o6 j1 f9 r8 f8 a7 f1;rcases Decidable.em (ce=0)with hc0|hc0
   have v5:(ce != 0)=false:=by rw[hc0];rfl
   clear hc0;obtain⟨p9,a0⟩:∃y9:Option Oc,y9=p:=⟨_,rfl⟩;obtain⟨b9,O⟩:∃y9:Nat,y9=cc:=⟨_,rfl⟩;obtain⟨c4,T⟩:∃y9:Option Oc,y9=p2:=⟨_,rfl⟩;obtain⟨c6,N⟩:∃y9:Nat,y9=c2:=⟨_,rfl⟩;obtain⟨Z,J⟩:∃y9:Nat,y9=nf:=⟨_,rfl⟩;obtain⟨g4,b7⟩:∃y9:List aDi,y9=fs:=⟨_,rfl⟩;obtain⟨A,a5⟩:∃y9:MO,y9=Y:=⟨_,rfl⟩;have g7:M6 (aAb w1 A P k (2*k+1) p9 b9 c4 c6 Z g4):=by rw[a0,O,T,N,J,b7,a5];exact(u.out.below f4.out.1).aDp
   rw[<-a0,<-O,<-T,<-N,<-J];rw[<-a5]at b0;clear a0 O T N J b7 a5
   rotate_left
   have v5:(ce != 0)=true:=by rw[bne_iff_ne];exact hc0
   have j6:aBj x=false:=by
    show Nn _=Nb;rw[<-I.out.1];exact M0 hc0
   have e8:=(u.out.below f4.out.1).MB (by omega) x (fun X h1 h2=>HC.out.2.2.Gf (Nm f4.out.2.size h1) fun b hb=>(h2 b (M8 hb f4.out.2.size) fun e=>by have h3:=(u.out.nz.lt e).1;have h4:=HB.out.size;omega).trans (f4.out.2.block b hb)) (fun h=>absurd (I.out.1.trans h) hc0) (k':=k) rfl (by rw[aAY,j6];simp);rw[j6,<-HL.out.1,<-HL.out.2.1,<-HL.out.2.2.1]at e8;obtain⟨q,k1,w5,q2,k2,w6,c9,d8,hN⟩:=e8;obtain⟨p9,a0⟩:∃y9:Option Oc,y9=MI ⟨q,0,MH⟩:=⟨_,rfl⟩;obtain⟨b9,O⟩:∃y9:Nat,y9=k1:=⟨_,rfl⟩;obtain⟨c4,T⟩:∃y9:Option Oc,y9=MI ⟨q2,0,MH⟩:=⟨_,rfl⟩;obtain⟨c6,N⟩:∃y9:Nat,y9=k2:=⟨_,rfl⟩;obtain⟨Z,J⟩:∃y9:Nat,y9=nf+1:=⟨_,rfl⟩;obtain⟨g4,b7⟩:∃y9:List aDi,y9=fs++[x]:=⟨_,rfl⟩;obtain⟨A,a5⟩:∃y9:MO,y9=w6:=⟨_,rfl⟩;have g7:M6 (aAb w1 A P k (2*k+1) p9 b9 c4 c6 Z g4):=by rw[a0,O,T,N,J,b7,a5];exact hN
   rw[<-a0,<-J,<-O]at c9;rw[<-T,<-J,<-N,<-a5]at d8;clear a0 O T N J b7 a5;have PU:M6 (_/\_):=⟨c9,d8⟩;clear c9 d8 hN j6 hc0
   rotate_left
   have v2:¬(k:Int)<(nz:Int):=by omega
   obtain⟨p9,a0⟩:∃y9:Option Oc,y9=p:=⟨_,rfl⟩;obtain⟨b9,O⟩:∃y9:Nat,y9=cc:=⟨_,rfl⟩;obtain⟨c4,T⟩:∃y9:Option Oc,y9=p2:=⟨_,rfl⟩;obtain⟨c6,N⟩:∃y9:Nat,y9=c2:=⟨_,rfl⟩;obtain⟨Z,J⟩:∃y9:Nat,y9=nf:=⟨_,rfl⟩;obtain⟨g4,b7⟩:∃y9:List aDi,y9=fs:=⟨_,rfl⟩;obtain⟨A,a5⟩:∃y9:MO,y9=wr:=⟨_,rfl⟩;have g7:M6 (aAb w1 A P k (2*k+1) p9 b9 c4 c6 Z g4):=by rw[a0,O,T,N,J,b7,a5];exact u.out.aDp
   rw[<-a0,<-O,<-T,<-N,<-J,<-a5];clear g5;clear a0 O T N J b7 a5
   rotate_left
   all_goals
    have i1:=F.out.1.on g7.out.bel;have o0:A.cell? ⟨g,16,MH⟩=MI (MG V.ps n V.cs):=by rw[F.out.2.2.1];exact i1.pat.Gm
    have v8:=i1.pat.lt;obtain⟨q9,b,o,B,g6,i9⟩:=i1.step (k:=k) (by rw[<-F.out.2.2.1];exact hlt);have t1:=aA1 g6;have m3:=i9.ev;obtain⟨⟨e9,s1,s2,s3⟩,qu,qv,qp,qc⟩:=q9;have u5:M6 _:=aCr e9 A m3;have i6:M6 (_/\_):=⟨(t1:aAZ P (k+1)=aAZ P k++[e9]),(m3:Yk e9=0)⟩;obtain⟨kd,ky,sl,gn,gd,rq,be,wt⟩:=e9;have d0:A.cell? ⟨b,o+k*61,MH⟩=MI (MF ME kd):=B.cells 0 _ rfl;have d1:A.cell? ⟨b,o+k*61+1,MH⟩=MI (MF ME ky):=B.cells 1 _ rfl;have d2:A.cell? ⟨b,o+k*61+2,MH⟩=MI (MF ME sl):=B.cells 2 _ rfl;have d3:A.cell? ⟨b,o+k*61+3,MH⟩=MI (MF ME gn):=B.cells 3 _ rfl;have d4:A.cell? ⟨b,o+k*61+4,MH⟩=MI (M3 gd):=B.cells 4 _ rfl;have d5:A.cell? ⟨b,o+k*61+5,MH⟩=MI (MF ME rq):=B.cells 5 _ rfl;have d6:A.cell? ⟨b,o+k*61+6,MH⟩=MI (MF ME be):=B.cells 6 _ rfl;have d7:A.cell? ⟨b,o+k*61+7,MH⟩=MI (MF ME wt):=B.cells 7 _ rfl;rw[B.at_]at o0;clear i1 B g6 i9 t1 m3
   focus go_wp2_with ((with_reducible refine OW rfl 60 (O6 12) (O6 47) rfl W6.heap.size 0 E.toArray ?sx ?sy ?st ?si ?s1 ?_);(case sx=>rfl);(case sy=>rfl);(case st=>exact b0.out.1);(case si=>rw[b0.out.2.1];exact anz);(case s1=>exact b0.out.2.2.1);rw[NS,<-b0.out.2.2.2])
   rotate_left
   focus go_wp2_with (first|((with_reducible refine OW rfl 60 (O6 12) (O6 47) rfl W6.heap.size 0 E.toArray ?sx ?sy ?st ?si ?s1 ?_);(case sx=>rfl);(case sy=>rfl);(case st=>exact b0.out.1);(case si=>rw[b0.out.2.1];exact anz);(case s1=>exact b0.out.2.2.1);rw[NS,<-b0.out.2.2.2])|(at_builtin;(with_reducible refine Z4 rfl _ _ 74 rfl (MG p nf cc) (MG (MI ⟨Y.heap.size,0,MH⟩) 1 1) (MG p9 Z b9) w5 ?hs ?hx ?hr ?_);(case hs=>rfl);(case hx=>rfl);(case hr=>exact PU.out.1))|(at_builtin;(with_reducible refine Z4 rfl _ _ 75 rfl (MG p2 nf c2) (MG (MI ⟨w5.heap.size,0,MH⟩) 1 1) (MG c4 Z c6) A ?hs ?hx ?hr ?_);(case hs=>rfl);(case hx=>rfl);(case hr=>exact PU.out.2)))
   rotate_left
   focus go_wp2_with fail
   rotate_left
   all_goals
    refine Nd u5.out ?_;rintro r W8 ⟨v,rfl,o9,o8⟩;obtain⟨x9,t9,q5,r9⟩:=aAT i6.out.2 o9;have g9:aB9 x9.2.2=(⟨kd,ky,sl,gn,gd,rq,be,wt⟩,0):=by rw[q5];exact aCa i6.out.2
    have j0:aBj x9=true:=by show Nn _=Nw;rw[g9];rfl
    have e8:=(g7.out.below o8).MB (by omega) x9 (r9 _ fun b hb=>(g7.out.nz.lt hb).2) (fun _=>by rw[g9];exact i6.out.2) (k':=k+1) (m':=2*(k+1)) (by omega) (by rw[i6.out.1,aAY,Nh j0,g9]);rw[j0]at e8;subst t9;obtain⟨z0,m7⟩:∃n,n=x9.2.2.length:=⟨_,rfl⟩;obtain⟨px9,m5⟩:∃n,n=x9.1:=⟨_,rfl⟩;obtain⟨cx9,m6⟩:∃n,n=x9.2.1:=⟨_,rfl⟩;rw[<-m7,<-m5,<-m6]at e8⊢;obtain⟨q,k1,w5,q2,k2,w6,c9,d8,hN⟩:=e8;have m1:M6 (_/\_/\_):=⟨c9,d8,hN⟩;clear c9 d8 hN m5 m7 m6 j0 g9 r9 q5 o9 o8 d0 d1 d2 d3 d4 d5 d6 d7 o0
    go_wp2_with (first|(at_builtin;(with_reducible refine Z4 rfl _ _ 74 rfl (MG p9 Z b9) (MG (MI ⟨W8.heap.size,0,MH⟩) 1 1) (MG (MI ⟨q,0,MH⟩) (Z+1) k1) w5 ?hs ?hx ?hr ?_);(case hs=>rfl);(case hx=>rfl);(case hr=>exact m1.out.1))|(at_builtin;(with_reducible refine Z4 rfl _ _ 75 rfl (MG c4 Z c6) (MG (MI ⟨w5.heap.size,0,MH⟩) 1 1) (MG (MI ⟨q2,0,MH⟩) (Z+1) k2) w6 ?hs ?hx ?hr ?_);(case hs=>rfl);(case hx=>rfl);(case hr=>exact m1.out.2.1)))
    go_roundw
    case rel=>exact⟨k+1,_,_,_,_,_,_,rfl,rfl,by simp,hlt,m1.out.2.2⟩
    rotate_left
    case measure=>simp[intOf];omega
  ·obtain rfl:k=n:=by omega
   have t5:¬(k:Int)<(k:Int):=by omega
   have n7:P=az0 (Yb c) (aAU fs):=by rw[u.out.evs,aA0 F.out.2.2.1];exact F.out.1.rn.aDn
   have a7:MQ w.heap.size w wr:=HB.out.trans (u.out.bel.mono HB.out.size);have m8:wr.cell? ⟨0,0,MH⟩=MI (aBQ 128):=(a7.cell (p:=⟨0,0,MH⟩) (MX w ⟨0,_,MH⟩ a8.out.2.2.1)).trans a8.out.2.2.1;have s0:fs.length<=4000:=by have:=u.out.le;omega
   obtain⟨K,hK⟩:∃K,K=ac8 c:=⟨_,rfl⟩;have p7:wr.rangeAt g 0 K:=fun j v hv=>by
    have hj:j<16:=by have:=(List.getElem?_eq_some_iff.1 hv).1;rw[hK]at this;exact this
    rw[Oa,a6.pat.aDq j];show(ac8 c++_)[j]?=_;rw[OJ (show j<16 from hj),<-hK];exact hv
   have q4:K.length=16:=by rw[hK];rfl
   have hR:=aBz F.out.2.1.ok fs (fun x hx=>(u.out.nz.all x hx).now) u.out.ok s0 (abw u.out.nz.rows) a6.blk m8;rw[<-u.out.len,<-hK]at hR;have p0:(aA6 c fs).outs.length=nf:=by rw[aA8 c _ fs rfl];exact u.out.len.symm
   have HR:M6 _:=hR;have HK:M6 (_/\_):=⟨p7,q4⟩;have HE:M6 (_/\_/\_):=⟨n7,p0,a7⟩;have z8:nf<=9223372036854775807:=by have:=u.out.len;omega
   clear hR p7 q4 n7 p0 a7 m8 s0 hK a6
   go_wp2_with ((with_reducible refine O3 rfl 35 (O6 85) rfl g 0 ?gx K _ ?gc Ph ?gd ?gi ?_);(case gx=>rfl);(case gc=>exact HK.out.1);(case gd=>rfl);(case gi=>rw[HK.out.2];exact ajj))
   refine Nd HR.out ?_;rintro r w2 ⟨U,po,co,xs,rfl,o7,l3⟩;have m2:=o7 w2 (aba.Gy _ _);have l8:xs.length=nf:=by
    have h:=congrArg List.length m2.eqs;rw[N0]at h;rw[h];exact HE.out.2.1
   obtain⟨Y,hY,t4,k9,j7⟩:=aBS w2 U (aA6 c fs).last;obtain⟨M,m0⟩:∃M,M=(XR U (aA6 c fs).last).toList:=⟨_,rfl⟩;have l4:(XR U (aA6 c fs).last).toList.toArray.size=26:=rfl;have j3:(XR U (aA6 c fs).last).toList.toArray.all (·.oneCell')=true:=ado _ _;rw[show XR U (aA6 c fs).last=M.toArray by rw[m0],l8];rw[<-m0]at hY j7 l4 j3;have h8:=l3.trans (k9.mono l3.size);have n9:=u.out.bel.trans (h8.mono u.out.bel.size);have H2:M6 (_/\_/\_/\_):=⟨j7,l4,j3,hY⟩;have H3:M6 (_/\_/\_/\_/\_):=⟨m2.below k9,F.out.1.on n9,l8,HE.out.2.2.trans (h8.mono HE.out.2.2.size),h8⟩;have z6:((nf:Int) != (nf:Int))=false:=bne_self_eq_false _;clear o7 m2 l3 l8 hY t4 k9 j7 m0 l4 j3 h8 n9 HR HK g5 i5
   go_wp2_with ((with_reducible refine OW rfl 55 (O6 16) (O6 89) rfl w2.heap.size 0 M.toArray ?sx ?sy ?st ?si ?s1 ?_);(case sx=>rfl);(case sy=>rfl);(case st=>exact H2.out.1);(case si=>rw[H2.out.2.1];exact Z0);(case s1=>exact H2.out.2.2.1);rw[NS,<-H2.out.2.2.2])
   go_loopw [19,20] (fun f i wr=>∃(j a:Nat),f=MF ME (a:Int)/\i=MF ME (j:Int)/\j<=nf/\M6 (a=(aAU (fs.take j)).length/\MQ Y.heap.size Y wr)) (fun _ i _=>nf-(intOf i).toNat)
   case atStart=>exact⟨0,0,rfl,rfl,Nx _,rfl,MY _ _⟩
   case round =>
    obtain⟨j,a,rfl,rfl,hj,I⟩:=hrel;have z5:k<=9223372036854775807:=by omega
    by_cases hlj:j<nf
    ·have u3:(j:Int)<(nf:Int):=by omega
     have i3:j<fs.length:=by rw[<-u.out.len];exact hlj
     have c5:=aBy HE.out.1 i3;have hrow:=abw u.out.nz.mine;have s8:=u.out.len;obtain⟨a3,v9,v3,_,_,t0⟩:=Xw.F6 aAJ hrow;injection v3 with ha3 hq8 hq9;clear hq8 hq9;obtain⟨b3,o3,p4,l7,t2⟩:=t0 j i3;have t3:=ha3.trans p4;have f6:=(I.out.2.cell (p:=⟨b3,o3+j*1+0,MH⟩) (M8 l7 H3.out.2.2.2.2.size)).trans ((H3.out.2.2.2.2.cell (p:=⟨b3,o3+j*1+0,MH⟩) l7).trans (t2 0 (by omega)));rw[P6]at f6;clear ha3 t0 l7 t2 p4 hrow;have i4:=H3.out.1.below I.out.2;rcases Bool.eq_false_or_eq_true (aBj fs[j])with hi|hi
     ·have hm:wr.cell? ⟨b3,o3+j,MH⟩=MI (M3 Nw):=f6.trans (by rw[<-hi];rfl)
      obtain⟨f3,s5,s,hs,f5⟩:=c5.1 hi;rw[<-I.out.1]at f3 s5 hs;have a6:=H3.out.2.1.on I.out.2;have t6:a<k:=by rw[F.out.2.2.1];exact(List.getElem?_eq_some_iff.1 hs).1
      have w7:(a:Int)<(k:Int):=by omega
      obtain⟨q,b,o,B,g6,i9⟩:=a6.step (k:=a) (by rw[<-F.out.2.2.1];exact t6);obtain rfl:s=q.s:=NC (hs.symm.trans g6);obtain⟨bo,oo,x1,x2,j9,b8,f1,d9⟩:=i4.at_ H3.out.2.2.1 (j:=j) hlj f5;have g8:wr.cell? ⟨b,o+a*61+60,MH⟩=MI (MG q.po q.s.out.length q.co):=B.cells 60 _ rfl;have g5:wr.cell? ⟨g,16,MH⟩=MI (MG (MI ⟨b,o,MH⟩) k V.cs):=by rw[<-B.at_,F.out.2.2.1];exact a6.pat.Gm
      have i5:=a6.pat.lt;have k6:=B.rd.2.2;have m9:b<wr.heap.size:=MX wr ⟨b,_,MH⟩ g8;obtain⟨l,hl⟩:∃l,l=q.s.out:=⟨_,rfl⟩;rw[<-hl]at g8 f1 d9 k6;obtain⟨nl,j2⟩:∃n,n=l.length:=⟨_,rfl⟩;rw[<-j2]at g8 f1;obtain⟨C,a9,hC1⟩:∃C:MO->Prop,(∀X,C X->MQ wr.heap.size wr X)/\(∀X,MQ wr.heap.size wr X->C X):=⟨_,fun _ h=>h,fun _ h=>h⟩;have HK:M6 ((∀X,C X->X.cell? ⟨bo,oo+j,MH⟩=MI (MG x1 nl x2))/\(∀X,C X->X.cell? ⟨g,16,MH⟩=MI (MG (MI ⟨b,o,MH⟩) k V.cs))/\(∀X,C X->X.cell? ⟨b,o+a*61+60,MH⟩=MI (MG q.po nl q.co))/\(∀X,C X->Ni MK 8 #[MG x1 nl x2,MG q.po nl q.co] X fun r w'=>r=MN (M3 Nw)/\C w')/\(∀X,C X->MQ Y.heap.size Y X)/\C wr.drew/\a+1=(aAU (fs.take (j+1))).length):=
       ⟨fun X D=>((a9 X D).cell (p:=⟨bo,oo+j,MH⟩) b8).trans f1,
         fun X D=>((a9 X D).cell (p:=⟨g,16,MH⟩) i5).trans g5,
         fun X D=>((a9 X D).cell (p:=⟨b,o+a*61+60,MH⟩) m9).trans g8,
         fun X D=>by
        rw[j2];exact(aBH (d9.below (a9 X D)) (k6.below (a9 X D))).mono fun r w' h=>⟨h.1,hC1 w' ((a9 X D).trans (h.2.mono (a9 X D).size))⟩,
         fun X D=>I.out.2.trans ((a9 X D).mono I.out.2.size),
         hC1 _ (MY _ _).drew,f3.symm⟩
      clear f1 g8 g5 i5 k6 d9 m9 hl j2 a9 hC1 B g6 i9 a6 i4 b8 f6 hs f5 f3 s5 c5 hi s8 i3;subst t3 j9
      go_wp2_with fail
      refine aBU (C:=C) HK.out.2.2.2.2.2.1 ?_
      go_big_quiet_want
      refine aBT (MG (MI ⟨bo,oo,MH⟩) nf co) ?_ (fun X hSw=>by go_simp);simp only[Nr,MZ,MT,MS,MJ,ML,MM]
      go_big_quiet_on
      go_big_quiet_want
      refine aBT (MF ME (j:Int)) ?_ (fun X hSw=>by go_simp);simp only[Nr,MZ,MT,MS,MJ,ML,MM]
      go_big_quiet_on
      go_big_quiet_want
      refine aBT (Na (MI ⟨bo,oo+j,MH⟩)) ?_ (fun X hSw=>by go_simp);simp only[Nr,MZ,MT,MS,MJ,ML,MM]
      go_big_quiet_on
      go_big_quiet_want
      refine aBT (MG x1 nl x2) ?_ (fun X hSw=>by have h:=HK.out.1 X hSw;go_simp);simp only[Nr,MZ,MT,MS,MJ,ML,MM]
      go_big_quiet_on
      go_big_quiet_want
      refine aBT (gP g) ?_ (fun X hSw=>by go_simp);simp only[Nr,MZ,MT,MS,MJ,ML,MM]
      go_big_quiet_on
      go_big_quiet_want
      refine aBT (gP g) ?_ (fun X hSw=>by go_simp);simp only[Nr,MZ,MT,MS,MJ,ML,MM]
      go_big_quiet_on
      go_big_quiet_want
      refine aBT (Na (MI ⟨g,16,MH⟩)) ?_ (fun X hSw=>by go_simp);simp only[Nr,MZ,MT,MS,MJ,ML,MM]
      go_big_quiet_on
      go_big_quiet_want
      refine aBT (MG (MI ⟨b,o,MH⟩) k V.cs) ?_ (fun X hSw=>by have h:=HK.out.2.1 X hSw;go_simp);simp only[Nr,MZ,MT,MS,MJ,ML,MM]
      go_big_quiet_on
      go_big_quiet_want
      refine aBT (MF ME (a:Int)) ?_ (fun X hSw=>by go_simp);simp only[Nr,MZ,MT,MS,MJ,ML,MM]
      go_big_quiet_on
      go_big_quiet_want
      refine aBT (Na (MI ⟨b,o+a*61,MH⟩)) ?_ (fun X hSw=>by go_simp);simp only[Nr,MZ,MT,MS,MJ,ML,MM]
      go_big_quiet_on
      go_big_quiet_want
      refine aBT (Na (MI ⟨b,o+a*61+60,MH⟩)) ?_ (fun X hSw=>by go_simp);simp only[Nr,MZ,MT,MS,MJ,ML,MM]
      go_big_quiet_on
      go_big_quiet_want
      refine aBT (MG q.po nl q.co) ?_ (fun X hSw=>by have h:=HK.out.2.2.1 X hSw;go_simp);simp only[Nr,MZ,MT,MS,MJ,ML,MM]
      go_big_quiet_on
      go_big_quiet_want
      refine aBV (M3 Nw) 8 #[MG x1 nl x2,MG q.po nl q.co] HK.out.2.2.2.1 ?_;simp only[Nr,MZ,MT,MS,MJ,ML,MM]
      go_big_quiet_on
      go_big_quiet_want
      refine aBT (M3 Nb) ?_ (fun X hSw=>by go_simp);simp only[Nr,MZ,MT,MS,MJ,ML,MM]
      go_big_quiet_on
      refine wpQuiet_nil ?_;intro X D;have HZ:M6 _:=HK.out.2.2.2.2.1 X D;clear D;go_wp2
      go_roundw
      case rel=>exact⟨j+1,a+1,by simp,by simp,hlj,HK.out.2.2.2.2.2.2,HZ.out⟩
      case measure=>simp[intOf];omega
     ·have hm:wr.cell? ⟨b3,o3+j,MH⟩=MI (M3 Nb):=f6.trans (by rw[<-hi];rfl)
      obtain⟨f3,f5⟩:=c5.2 hi;obtain⟨bo,oo,x1,x2,j9,b8,f1,d9⟩:=i4.at_ H3.out.2.2.1 (j:=j) hlj f5;obtain⟨a4,w8,u7,t8,u2,s9⟩:=Xw.F6 akV d9;injection u7 with ha4 hq8 hq9;clear hq8 hq9;obtain⟨b4,o4,q3,u1,q7⟩:=s9 0 (Nat.zero_lt_one);have u0:=ha4.trans q3;have f0:wr.cell? ⟨b4,o4,MH⟩=MI (MF ME 10):=by have h:=q7 0 (by omega);rw[Nat.zero_mul]at h;exact h
      have f2:wr.cell? ⟨bo,oo+j,MH⟩=MI (MG x1 1 x2):=f1;have HZ:M6 (_/\_):=⟨f3,I.out.2⟩;clear t8 u2 i4 f6 c5 hi s8 f3 f5 b8 f1 d9 ha4 s9 u1 q7 q3 i3;subst t3 j9 u0;go_wp2
      go_roundw
      case rel=>exact⟨j+1,a,rfl,by simp,hlj,by rw[HZ.out.1];exact I.out.1,HZ.out.2⟩
      case measure=>simp[intOf];omega
    ·obtain rfl:j=nf:=by omega
     have u3:¬(j:Int)<(j:Int):=by omega
     have HZ:M6 _:=H3.out.2.2.2.1.trans (I.out.2.mono H3.out.2.2.2.1.size);go_wp2;go_ret;exact⟨rfl,HZ.out⟩
end Go.Proofs.YtgnclkcdnbfeeaaGreatDoor.Q
