/-
  Contracts of the layers and of core, part 10. Conditions: as each theorem says.
-/
import Derived.Test.YtgnclkcdnbfeeaaGreatDoorQ0
open Array renaming getElem?_eq_none->QT,getElem?_modify->Qp,size_append->RD,toList_append->Rh
open Bool renaming false->Nb,true->Nw
open Decidable renaming decide->Nn
open Go renaming Addr->Oc,Calls->Ni,TypeId->NU,Value->M7,World->MO,bodyPost_ret->Np,maxLen->NE,results->Pf
open Go.Builtin renaming zeroCells->N5
open Go.Ending renaming returned->MN
open Go.IntKind renaming i64->ME
open Go.Obj renaming cells->MP
open Go.Proofs.Tryz renaming func19->ay8,func33->TQ,func36->azV,func38->Uu,ntmps19->ay5,ntmps33->TJ,ntmps36->azQ,ntmps38->Ud,prog->MK
open Go.Question renaming appendCap->PF
open Go.RowKit renaming Below->MQ,Hid->M6,intOf->On
open Go.RowKit.Below renaming heap_alloc->Ov,heap_setCell->MU,refl->MY
open Go.Value renaming agg->Ny,bool->M3,int->MF,pointer->Na,slice->MG,tuple->Nv
open Go.World renaming block_lt_of_cell?->MX,cell?->Nl,frozen?->Ng,ownsRow_nil->NY,setCell->Q4
open Go.World.ownsRow renaming drew->PZ
open List renaming flatMap_cons->S9,foldl_append->Pu,getElem?_append_left->OJ,getElem?_append_right->Tw,getElem?_eq_getElem->MR,getElem?_eq_none->Nz,getElem?_take_of_lt->O0,getElem_mem->Nk,mem_of_getElem?->Nu,take_length->NT,take_of_length_le->N1,take_succ_eq_append_getElem->M9
open Nat renaming add_mul->ON,le_refl->MV,le_trans->Nm,lt_of_lt_of_le->M8,lt_or_ge->Oq,zero_le->Nx
open Option renaming map_some->OH,none->MH,some->MI
open Or renaming inl->Nt,inr->NF
namespace Go.Proofs.YtgnclkcdnbfeeaaGreatDoor.Q
set_option linter.unusedVariables false
set_option linter.unusedSimpArgs false
set_option maxHeartbeats 16000000
set_option maxRecDepth 100000
open Go.RowKit
attribute [local go_sem ↓] Go.wp_at_zero Go.wp_at_succ
variable {a w:MO}{b base:Nat}
structure Ev where
 kind:Int
 key:Int
 slot:Int
 gen:Int
 good:Bool
 req:Int
 be:Int
 wt:Int
 deriving DecidableEq
variable {e:Ev}
def Ev.Hi:Ev:=⟨0,0,0,0,Nb,0,0,0⟩
def Ev.num(e:Ev)(o:Nat):Int :=
 match o with
 |1=>e.key
 |2=>e.slot
 |3=>e.gen
 |4=>if e.good then 1 else 0
 |5=>e.req
 |6=>e.be
 |7=>e.wt
 |_=>0
def Ev.Gd(e:Ev)(o:Nat)(n:Int):Ev :=
 match o with
 |1=>{e with key:=n}
 |2=>{e with slot:=n}
 |3=>{e with gen:=n}
 |4=>{e with good:=n == 1}
 |5=>{e with req:=n}
 |6=>{e with be:=n}
 |7=>{e with wt:=n}
 |_=>e
structure Xf where
 off:Nat
 lo:Int
 hi:Int
variable {fs:List Xf}
def Zz(k:Int):Option (List Xf):=
 if k=1 then MI [⟨1,0,4294967295⟩]
 else if k=2 then MI [⟨2,0,39⟩,⟨3,0,1048576⟩]
 else if k=3 then MI [⟨2,0,39⟩,⟨3,0,1048576⟩]
 else if k=4 then MI [⟨2,0,39⟩,⟨3,0,1048576⟩,⟨4,0,1⟩]
 else if k=5 then MI [⟨5,0,1048576⟩,⟨6,0,11⟩,⟨7,1,8⟩]
 else if k=6 then MI [⟨5,0,1048576⟩,⟨6,0,11⟩]
 else if k=7 then MI []
 else MH
theorem afx(k:Int):(k<1\/7<k)/\Zz k=MH\/k=1\/k=2\/k=3\/k=4\/k=5\/k=6\/k=7:=by
 by_cases h:k<1\/7<k
 ·refine Nt ⟨h,?_⟩
  unfold Zz;rw[Nf (by omega),Nf (by omega),Nf (by omega),Nf (by omega),Nf (by omega),Nf (by omega),Nf (by omega)]
 ·omega
def Ev.GZ(e:Ev)(f:Xf):Bool:=Nn (f.lo<=e.num f.off/\e.num f.off<=f.hi)
def Ev.Gc(e:Ev)(fs:List Xf):Ev:=fs.foldl (fun e f=>e.Gd f.off 0) e
def Ev.GE(e:Ev)(fs:List Xf):Bool:=Nn ({e.Gc fs with kind:=0}=Ev.Hi)
def Yk(e:Ev):Int :=
 match Zz e.kind with
 |none=>5
 |some fs=>if fs.all e.GZ then(if e.GE fs then 0 else 3)else 2
theorem awP(x y:M7)(lo hi n:Int)(w:MO)(h1:lo<=n)(h2:n<=hi) :
  Ni MK 36 #[Ny #[x,y,MF ME lo,MF ME hi],MF ME n] w fun e w'=>e=MN (M3 Nw)/\MQ w.heap.size w w':=by
 go_enter azV,azQ;go_wp2;go_ret;exact⟨rfl,(MY _ _).alloc (MV _) _⟩
theorem awO(x y:M7)(lo hi n:Int)(w:MO)(h1:¬(lo<=n/\n<=hi)) :
  Ni MK 36 #[Ny #[x,y,MF ME lo,MF ME hi],MF ME n] w fun e w'=>e=MN (M3 Nb)/\MQ w.heap.size w w':=by
 by_cases h2:lo<=n
 ·have c:¬n<=hi:=by omega
  go_enter azV,azQ;go_wp2;go_ret;exact⟨rfl,(MY _ _).alloc (MV _) _⟩
 ·have c:Nn (lo<=n)=false:=by simpa using h2
  go_enter azV,azQ;go_wp2;go_ret;exact⟨rfl,(MY _ _).alloc (MV _) _⟩
theorem awH(b o:Nat)(lo hi n:Int)(w:MO)(h:w.cell? ⟨b,o,MH⟩=MI (MF ME n)) :
  Ni MK 23 #[Ny #[Na (MI ⟨b,o,MH⟩),Na MH,MF ME lo,MF ME hi]] w fun e w'=>e=MN (MF ME n)/\MQ w.heap.size w w':=by
 have c:b<w.heap.size:=MX w _ h;go_enter Tryz.func23,Tryz.ntmps23;go_wp2;go_ret;exact⟨rfl,(MY _ _).alloc (MV _) _⟩
theorem awG(b o:Nat)(lo hi:Int)(t:Bool)(w:MO)(h:w.cell? ⟨b,o,MH⟩=MI (M3 t)) :
  Ni MK 23 #[Ny #[Na MH,Na (MI ⟨b,o,MH⟩),MF ME lo,MF ME hi]] w fun e w'=>e=MN (MF ME (if t then 1 else 0))/\MQ w.heap.size w w':=by
 have c:b<w.heap.size:=MX w _ h;cases t
 all_goals
  go_enter Tryz.func23,Tryz.ntmps23;go_wp2;go_ret;exact⟨rfl,(MY _ _).alloc (MV _) _⟩
theorem awN(b o:Nat)(lo hi n:Int)(v:M7)(w:MO)(h:w.cell? ⟨b,o,MH⟩=MI v)(hf:w.frozen? ⟨b,o,MH⟩=Nb) :
  Ni MK 37 #[Ny #[Na (MI ⟨b,o,MH⟩),Na MH,MF ME lo,MF ME hi],MF ME n] w fun e w'=>e=MN (Nv #[]) /\
   w'=(w.setCell ⟨b,o,MH⟩ (MF ME n)).alloc (MP #[Na (MI ⟨b,o,MH⟩),Na MH,MF ME lo,MF ME hi] 110):=by
 have c:b<w.heap.size:=MX w _ h;go_enter Tryz.func37,Tryz.ntmps37;go_wp2
 first|go_end0|(refine Np (v:=Nv #[]) (by simp[Pf,Tryz.results37,go_sem]) rfl ?_)
 exact⟨rfl,rfl⟩
theorem awM(b o:Nat)(lo hi n:Int)(v:M7)(w:MO)(h:w.cell? ⟨b,o,MH⟩=MI v)(hf:w.frozen? ⟨b,o,MH⟩=Nb) :
  Ni MK 37 #[Ny #[Na MH,Na (MI ⟨b,o,MH⟩),MF ME lo,MF ME hi],MF ME n] w fun e w'=>e=MN (Nv #[]) /\
   w'=(w.setCell ⟨b,o,MH⟩ (M3 (n == 1))).alloc (MP #[Na MH,Na (MI ⟨b,o,MH⟩),MF ME lo,MF ME hi] 110):=by
 have c:b<w.heap.size:=MX w _ h;go_enter Tryz.func37,Tryz.ntmps37;go_wp2
 go_end0
 exact⟨rfl,rfl⟩
def afw(e:Ev):Array Value:=#[MF ME e.kind,MF ME e.key,MF ME e.slot,MF ME e.gen,M3 e.good,MF ME e.req,MF ME e.be,MF ME e.wt]
def YT(w:MO)(b:Nat)(e:Ev):Prop:=w.heap[b]?=MI (MP (afw e) 60)
theorem YT.lt(h:YT w b e):b<w.heap.size:=by
 rcases Oq b w.heap.size with d|c
 ·exact d
 ·unfold YT at h;rw[QT c]at h;cases h
theorem YT.F7(h:YT w b e)(o:Nat):w.cell? ⟨b,o,MH⟩=(afw e)[o]?:=by
 unfold YT at h;simp[Nl,h]
theorem YT.Gu(h:YT w b e)(o:Nat):w.frozen? ⟨b,o,MH⟩=false:=by
 unfold YT at h;simp[Ng,h]
theorem YT.below{w':MO}{B:Nat}(h:YT w b e)(hb:MQ B w w')(hlt:b<B):YT w' b e:=by
 unfold YT;rw[hb.block b hlt];exact h
def pp(b:Nat)(f:Xf):Option Addr:=if f.off=4 then MH else MI ⟨b,f.off,MH⟩
def pq(b:Nat)(f:Xf):Option Addr:=if f.off=4 then MI ⟨b,f.off,MH⟩else MH
def acg(b:Nat)(f:Xf):List Value:=[Na (pp b f),Na (pq b f),MF ME f.lo,MF ME f.hi]
theorem an5(b:Nat)(f:Xf)(e:Ev)(w:MO)(hE:YT w b e)(h1:1<=f.off)(h7:f.off<=7) :
  Ni MK 23 #[Ny #[Na (pp b f),Na (pq b f),MF ME f.lo,MF ME f.hi]] w fun r w'=>r=MN (MF ME (e.num f.off))/\MQ w.heap.size w w':=by
 have c:=hE.F7 f.off;obtain⟨o,lo,hi⟩:=f
 dsimp only at *
 obtain rfl|rfl|rfl|rfl|rfl|rfl|rfl:o=1\/o=2\/o=3\/o=4\/o=5\/o=6\/o=7:=by omega
 case inr.inr.inr.inl=>exact awG b 4 lo hi e.good w c
 all_goals exact awH b _ lo hi _ w c
theorem an6(o:Obj)(a:Oc)(v:M7):w.grownBy ((w.setCell a v).alloc o) (MI a.block):=by
 have c:(w.setCell a v).heap.size=w.heap.size:=by simp[Q4]
 refine⟨rfl,rfl,rfl,?_,fun k hk hne=>?_⟩
 ·show w.heap.size<=((w.setCell a v).heap.push o).size
  rw[Array.size_push,c];omega
 ·rw[Ov _ _ _ (by rw[c];exact hk),MU _ _ _ _ (fun h=>hne (by rw[h]))]
theorem anY{e':Ev}(h:YT w b e)(x:Obj)(o:Nat)(v:M7)(hv:(afw e).setIfInBounds o v=afw e'):YT ((w.setCell ⟨b,o,MH⟩ v).alloc x) b e':=by
 have d:(w.setCell ⟨b,o,MH⟩ v).heap.size=w.heap.size:=by simp[Q4]
 have c:w.heap[b]?=MI (MP (afw e) 60):=h;unfold YT;rw[Ov _ _ _ (by rw[d];exact h.lt)];simp only[Q4,Qp,c,if_true,OH];simp[hv]
theorem awL(b:Nat)(f:Xf)(e:Ev)(n:Int)(w:MO)(hE:YT w b e)(h1:1<=f.off)(h7:f.off<=7) :
  Ni MK 37 #[Ny #[Na (pp b f),Na (pq b f),MF ME f.lo,MF ME f.hi],MF ME n] w fun r w'=>r=MN (Nv #[])/\YT w' b (e.Gd f.off n)/\w.grownBy w' (MI b):=by
 have c:=hE.F7 f.off;have d:=hE.Gu f.off;obtain⟨o,lo,hi⟩:=f
 dsimp only at *
 obtain rfl|rfl|rfl|rfl|rfl|rfl|rfl:o=1\/o=2\/o=3\/o=4\/o=5\/o=6\/o=7:=by omega
 case inr.inr.inr.inl =>
  refine(awM b 4 lo hi n _ w c d).mono ?_;rintro r w' ⟨rfl,rfl⟩;exact⟨rfl,anY hE _ _ _ rfl,an6 _ _ _⟩
 all_goals
  refine(awN b _ lo hi n _ w c d).mono ?_;rintro r w' ⟨rfl,rfl⟩;exact⟨rfl,anY hE _ _ _ rfl,an6 _ _ _⟩
theorem adS(w:MO)(o:Obj):(w.alloc o).heap[w.heap.size]?=MI o:=by show(w.heap.push o)[w.heap.size]?=MI o;simp
theorem ajM(b:Nat)(w:MO) :
  Ni MK 33 #[Na (MI ⟨b,0,MH⟩)] w fun e w'=>e=MN (MG (MI ⟨w.heap.size,0,MH⟩) 2 2) /\
   w'=(w.alloc (MP #[Na (MI ⟨b,2,MH⟩),Na MH,MF ME 0,MF ME 39,Na (MI ⟨b,3,MH⟩),Na MH,MF ME 0,MF ME 1048576] 110)).drew:=by
 go_enter TQ,TJ;go_wp2
 go_region
 go_wp2;go_ret;exact⟨rfl,rfl⟩
theorem anZ(b:Nat)(w:MO) :
  Ni MK 34 #[Na (MI ⟨b,0,MH⟩)] w fun e w'=>e=MN (MG (MI ⟨w.heap.size,0,MH⟩) 2 2) /\
   w'=(w.alloc (MP #[Na (MI ⟨b,5,MH⟩),Na MH,MF ME 0,MF ME 1048576,Na (MI ⟨b,6,MH⟩),Na MH,MF ME 0,MF ME 11] 110)).drew:=by
 go_enter Tryz.func34,Tryz.ntmps34;go_wp2
 go_region
 go_wp2;go_ret;exact⟨rfl,rfl⟩
theorem ag2{n:Nat}{e:NU}{size:Nat}(cs:Array M7)(hb:base<=w.heap.size)(hm:n<=NE)(hs:cs.size=n*size):(w.alloc (MP cs e)).ownsRow base e size (MG (MI ⟨w.heap.size,0,MH⟩) n n) n cs.toList :=
 ⟨by simp[hs],NF ⟨w.heap.size,n,cs,rfl,hb,adS w _,MV _,hm,hs,by rw[N1 (by simp[hs])]⟩⟩
def ade(b:Nat)(fs:List Xf)(w:MO)(r:Ending)(w':MO):Prop :=
 ∃v,r=MN (Nv #[v,M3 Nw])/\MQ w.heap.size w w'/\w'.ownsRow w.heap.size 110 4 v fs.length (fs.flatMap (acg b))
theorem awF(b:Nat)(e:Ev)(w:MO)(hE:YT w b e)(hk:e.kind<1\/7<e.kind) :
  Ni MK 19 #[Na (MI ⟨b,0,MH⟩)] w fun r w'=>r=MN (Nv #[MG MH 0 0,M3 Nb])/\w'=w:=by
 have g:w.cell? ⟨b,0,MH⟩=MI (MF ME e.kind):=hE.F7 0;generalize e.kind=k at *;have i:(k == 1)=false:=beq_eq_false_iff_ne.2 (by omega);have m:(k == 2)=false:=beq_eq_false_iff_ne.2 (by omega);have j:(k == 3)=false:=beq_eq_false_iff_ne.2 (by omega);have c:(k == 4)=false:=beq_eq_false_iff_ne.2 (by omega);have f:(k == 5)=false:=beq_eq_false_iff_ne.2 (by omega);have d:(k == 6)=false:=beq_eq_false_iff_ne.2 (by omega);have l:(k == 7)=false:=beq_eq_false_iff_ne.2 (by omega);clear hk;go_enter ay8,ay5;go_wp2
 go_ret2
 exact⟨rfl,rfl⟩
theorem awy(b:Nat)(w:MO)(hc:w.cell? ⟨b,0,MH⟩=MI (MF ME 1)) :
  Ni MK 19 #[Na (MI ⟨b,0,MH⟩)] w (ade b [⟨1,0,4294967295⟩] w):=by
 go_enter ay8,ay5;go_wp2
 go_ret2
 exact⟨_,rfl,(MY _ _).alloc (MV _) _,ag2 _ (MV _) (by unfold NE;omega) rfl⟩
theorem awz(b:Nat)(w:MO)(hc:w.cell? ⟨b,0,MH⟩=MI (MF ME 2)) :
  Ni MK 19 #[Na (MI ⟨b,0,MH⟩)] w (ade b [⟨2,0,39⟩,⟨3,0,1048576⟩] w):=by
 go_enter ay8,ay5
 go_wp2_with fail
 refine(ajM b _).mono ?_;rintro r c ⟨rfl,rfl⟩;go_wp2
 go_ret2
 exact⟨_,rfl,((MY _ _).alloc (MV _) _).drew,(ag2 _ (MV _) (by unfold NE;omega) rfl).drew⟩
theorem an0(need old:Nat)(e:NU)(t:Nat)(h:need<=NE):need<=(PF need old e).cut t/\(PF need old e).cut t<=maxLen:=by
 unfold NE at *;simp only[Question.cut];have:t % (2 ^ 63-need)<2 ^ 63-need:=Nat.mod_lt _ (by omega);omega
theorem an9{n cap g:Nat}{e:NU}{size:Nat}(x y z:Array M7)(hg:w.heap.size=g)(hb:base<=w.heap.size)(hn:n<=cap)(hm:cap<=NE)(hs:x.size+y.size=n*size)(hz:z.size=size):
  (w.alloc (MP (x++(y++N5 z (cap-n))) e)).ownsRow base e size (MG (MI ⟨g,0,MH⟩) n cap) n (x.toList++y.toList):=by
 subst hg;refine⟨by simp[hs],NF ⟨w.heap.size,cap,_,rfl,hb,adS w _,hn,hm,?_,?_⟩⟩
 ·rw[RD,RD,Go.size_zeroCells,hz,<-Nat.add_assoc,hs,<-ON]
  congr 1;omega
 ·rw[<-Array.append_assoc,Rh,Rh]
  exact List.take_left' (by simp[hs])
theorem awB(b:Nat)(w:MO)(hc:w.cell? ⟨b,0,MH⟩=MI (MF ME 4)) :
  Ni MK 19 #[Na (MI ⟨b,0,MH⟩)] w (ade b [⟨2,0,39⟩,⟨3,0,1048576⟩,⟨4,0,1⟩] w):=by
 go_enter ay8,ay5
 go_wp2_with fail
 go_region_held3 (fun d=>True) (go_keep) (first|(go_at_call 33;refine(ajM b _).mono ?_;rintro r d ⟨rfl,rfl⟩))
 all_goals
  go_wp2
  go_ret2
  obtain⟨c1,c2⟩:=an0 3 2 110 (w.tape (w.drawn+1+1) (PF 3 2 110)) (by unfold NE;omega);generalize (PF 3 2 110).cut (w.tape (w.drawn+1+1) (PF 3 2 110))=c at *;refine⟨_,rfl,?_,?_⟩
  ·exact((((((MY _ _).alloc (MV _) _).alloc (by simp) _).alloc (by simp;omega) _).drew).drew).drew
  ·exact PZ (PZ (PZ (an9 (size:=4) #[Na (MI ⟨b,2,MH⟩),Na MH,MF ME 0,MF ME 39,Na (MI ⟨b,3,MH⟩),Na MH,MF ME 0,MF ME 1048576] #[Na MH,Na (MI ⟨b,4,MH⟩),MF ME 0,MF ME 1] #[Na MH,Na MH,MF ME 0,MF ME 0] (by simp) (by simp;omega) c1 c2 rfl rfl)))
theorem awC(b:Nat)(w:MO)(hc:w.cell? ⟨b,0,MH⟩=MI (MF ME 5)) :
  Ni MK 19 #[Na (MI ⟨b,0,MH⟩)] w (ade b [⟨5,0,1048576⟩,⟨6,0,11⟩,⟨7,1,8⟩] w):=by
 go_enter ay8,ay5
 go_wp2_with fail
 go_region_held3 (fun d=>True) (go_keep) (first|(go_at_call 34;refine(anZ b _).mono ?_;rintro r d ⟨rfl,rfl⟩))
 all_goals
  go_wp2
  go_ret2
  obtain⟨c1,c2⟩:=an0 3 2 110 (w.tape (w.drawn+1+1) (PF 3 2 110)) (by unfold NE;omega);generalize (PF 3 2 110).cut (w.tape (w.drawn+1+1) (PF 3 2 110))=c at *;refine⟨_,rfl,?_,?_⟩
  ·exact((((((MY _ _).alloc (MV _) _).alloc (by simp) _).alloc (by simp;omega) _).drew).drew).drew
  ·exact PZ (PZ (PZ (an9 (size:=4) #[Na (MI ⟨b,5,MH⟩),Na MH,MF ME 0,MF ME 1048576,Na (MI ⟨b,6,MH⟩),Na MH,MF ME 0,MF ME 11] #[Na (MI ⟨b,7,MH⟩),Na MH,MF ME 1,MF ME 8] #[Na MH,Na MH,MF ME 0,MF ME 0] (by simp) (by simp;omega) c1 c2 rfl rfl)))
theorem awA(b:Nat)(w:MO)(hc:w.cell? ⟨b,0,MH⟩=MI (MF ME 3)) :
  Ni MK 19 #[Na (MI ⟨b,0,MH⟩)] w (ade b [⟨2,0,39⟩,⟨3,0,1048576⟩] w):=by
 go_enter ay8,ay5
 go_wp2_with fail
 refine(ajM b _).mono ?_;rintro r c ⟨rfl,rfl⟩;go_wp2
 go_ret2
 exact⟨_,rfl,((MY _ _).alloc (MV _) _).drew,(ag2 _ (MV _) (by unfold NE;omega) rfl).drew⟩
theorem awD(b:Nat)(w:MO)(hc:w.cell? ⟨b,0,MH⟩=MI (MF ME 6)) :
  Ni MK 19 #[Na (MI ⟨b,0,MH⟩)] w (ade b [⟨5,0,1048576⟩,⟨6,0,11⟩] w):=by
 go_enter ay8,ay5
 go_wp2_with fail
 refine(anZ b _).mono ?_;rintro r c ⟨rfl,rfl⟩;go_wp2
 go_ret2
 exact⟨_,rfl,((MY _ _).alloc (MV _) _).drew,(ag2 _ (MV _) (by unfold NE;omega) rfl).drew⟩
theorem awE(b:Nat)(w:MO)(hc:w.cell? ⟨b,0,MH⟩=MI (MF ME 7)) :
  Ni MK 19 #[Na (MI ⟨b,0,MH⟩)] w (ade b [] w):=by
 go_enter ay8,ay5;go_wp2
 go_ret2
 exact⟨_,rfl,MY _ _,NY _ _ _ _⟩
theorem an1(b:Nat)(e:Ev)(fs:List Xf)(w:MO)(hE:YT w b e)(hf:Zz e.kind=MI fs) :
  Ni MK 19 #[Na (MI ⟨b,0,MH⟩)] w (ade b fs w):=by
 have c:w.cell? ⟨b,0,MH⟩=MI (MF ME e.kind):=hE.F7 0;generalize e.kind=k at *;rcases afx k with⟨_,h⟩|rfl|rfl|rfl|rfl|rfl|rfl|rfl
 ·rw[h]at hf;cases hf
 all_goals (unfold Zz at hf;simp at hf;subst hf)
 ·exact awy b w c
 ·exact awz b w c
 ·exact awA b w c
 ·exact awB b w c
 ·exact awC b w c
 ·exact awD b w c
 ·exact awE b w c
theorem an2(b:Nat):∀(fs:List Xf) (k:Nat) (f:Xf),fs[k]?=MI f->∀j,j<4->(fs.flatMap (acg b))[k*4+j]?=(acg b f)[j]?
 | [],k,f,h,j,hj=>by simp at h
 |x::fs,0,f,h,j,hj=>by
  simp at h;subst h;rw[S9,OJ (by simp[acg];omega)];simp
 |x::fs,k+1,f,h,j,hj=>by
  simp at h;rw[S9,Tw (by simp[acg];omega)];rw[show(k+1)*4+j-(acg b x).length=k*4+j by simp[acg];omega];exact an2 b fs k f h j hj
theorem awK{v:M7}(h:w.ownsRow base 110 4 v fs.length (fs.flatMap (acg b))):
  (v=MG MH 0 0/\fs=[])\/∃g cap,v=MG (MI ⟨g,0,MH⟩) fs.length cap/\base<=g/\g<w.heap.size /\
   ∀k f,fs[k]?=MI f->w.cell? ⟨g,k*4,MH⟩=MI (Na (pp b f))/\w.cell? ⟨g,k*4+1,MH⟩=MI (Na (pq b f))/\w.cell? ⟨g,k*4+2,MH⟩=MI (MF ME f.lo)/\w.cell? ⟨g,k*4+3,MH⟩=MI (MF ME f.hi):=by
 obtain⟨s,⟨rfl,i⟩|⟨g,cap,q,rfl,p,d,i,r,u,o⟩⟩:=h
 ·exact Nt ⟨rfl,List.length_eq_zero_iff.1 i⟩
 ·refine NF ⟨g,cap,rfl,p,?_,fun k f hf=>?_⟩
  ·rcases Oq g w.heap.size with l|m
   ·exact l
   ·rw[QT m]at d;cases d
  ·have t:k<fs.length:=by
    rcases Oq k fs.length with h|h
    ·exact h
    ·rw[Nz h]at hf;cases hf
   have c:∀j,j<4->w.cell? ⟨g,k*4+j,MH⟩=(acg b f)[j]?:=by
    intro j n;rw[<-an2 b fs k f hf j n,<-o,O0 (by omega)];simp[Nl,d]
   exact⟨c 0 (by omega),c 1 (by omega),c 2 (by omega),c 3 (by omega)⟩
theorem an4{k:Int}(h:Zz k=MI fs):∀f,f∈fs->1<=f.off/\f.off<=7:=by
 rcases afx k with⟨_,c⟩|rfl|rfl|rfl|rfl|rfl|rfl|rfl
 ·rw[c]at h;cases h
 all_goals (unfold Zz at h;simp at h;subst h;simp)
theorem an8{v:M7}(h:w.ownsRow base 110 4 v fs.length (fs.flatMap (acg b))):
  ∃a cap,v=MG a fs.length cap/\∀k f,fs[k]?=MI f->∃g,a=MI ⟨g,0,MH⟩/\base<=g/\g<w.heap.size /\
   w.cell? ⟨g,k*4,MH⟩=MI (Na (pp b f))/\w.cell? ⟨g,k*4+1,MH⟩=MI (Na (pq b f))/\w.cell? ⟨g,k*4+2,MH⟩=MI (MF ME f.lo)/\w.cell? ⟨g,k*4+3,MH⟩=MI (MF ME f.hi):=by
 rcases awK h with⟨rfl,rfl⟩|⟨g,cap,rfl,d,c,i⟩
 ·exact⟨MH,0,rfl,fun k f hf=>by simp at hf⟩
 ·exact⟨_,cap,rfl,fun k f hf=>⟨g,rfl,d,c,i k f hf⟩⟩
theorem an7{b c:MO}{row:Option Nat}(h:a.grownBy b row)(k:b.grownBy c row):a.grownBy c row :=
 ⟨k.os.trans h.os,k.tape.trans h.tape,k.output.trans h.output,Nm h.size k.size,fun i hi hne=>(k.block i (M8 hi h.size) hne).trans (h.block i hi hne)⟩
theorem awI{b:MO}{row:Option Nat}(h:MQ a.heap.size a b):a.grownBy b row :=
 ⟨h.os,h.tape,h.output,h.size,fun i hi _=>h.block i hi⟩
theorem an3{k:Int}(h:Zz k=MI fs):fs.length<=3:=by
 rcases afx k with⟨_,c⟩|rfl|rfl|rfl|rfl|rfl|rfl|rfl
 ·rw[c]at h;cases h
 all_goals (unfold Zz at h;simp at h;subst h;simp)
theorem awJ(e:Ev)(fs:List Xf)(w:MO)(hf:Zz e.kind=MI fs) :
  Ni MK 38 #[Ny #[MF ME e.kind,MF ME e.key,MF ME e.slot,MF ME e.gen,M3 e.good,MF ME e.req,MF ME e.be,MF ME e.wt]] w fun r w'=>r=MN (M3 (!e.GE fs))/\MQ w.heap.size w w':=by
 have K:=an3 hf;go_enter Uu,Ud
 go_wp2_with fail
 refine(an1 w.heap.size e fs _ (adS w _) hf).mono ?_;rintro r n ⟨v,rfl,p,l⟩;obtain⟨a,N,rfl,s⟩:=an8 l;have D:YT n w.heap.size e:=YT.below (adS w _) p (by simp);have z:M6 (Zz e.kind=MI fs/\_/\_):=⟨hf,l,s⟩;clear hf l s
 go_wp2
 go_loopw [13] (fun i wr=>∃k:Nat,k<=fs.length/\i=MF ME k/\YT wr w.heap.size (e.Gc (fs.take k))/\n.grownBy wr (MI w.heap.size)) (fun i _=>fs.length-(On i).toNat)
 case atStart=>exact⟨0,Nx _,rfl,D,⟨rfl,rfl,rfl,MV _,fun _ _ _=>rfl⟩⟩
 case round =>
  obtain⟨k,y,rfl,d,j⟩:=hrel
  by_cases hlt:k<fs.length
  ·have m:fs[k]?=MI fs[k]:=MR hlt
   have t:fs.take (k+1)=fs.take k++[fs[k]]:=M9 hlt;have q:=an4 z.out.1 fs[k] (Nk hlt);generalize fs[k]=f at *;obtain⟨g,rfl,J,H,c0,c1,c2,c3⟩:=z.out.2.2 k f m;have u:∀o,wr.cell? ⟨g,o,MH⟩=n.cell? ⟨g,o,MH⟩:=fun o=>j.cell_far ⟨g,o,MH⟩ H (by simp at J⊢;omega)
   rw[<-u]at c0 c1 c2 c3;have G:M6 (_/\_):=⟨m,t⟩;clear m t u;have M:=j.size;have C:=d.lt;have E:∀x,YT (wr.alloc x) w.heap.size (e.Gc (fs.take k)):=fun x=>by unfold YT;rw[Ov _ _ _ C];exact d
   go_wp2_with fail
   refine(awL w.heap.size f _ 0 _ (E _) q.1 q.2).mono ?_;rintro r P ⟨rfl,F,B⟩;go_wp2
   go_roundw
   case rel=>exact⟨k+1,by omega,by go_num,by rw[G.out.2,Ev.Gc,Pu];exact F,an7 (an7 j (awI ((MY _ _).alloc (MV _) _))) B⟩
   case measure=>simp[On];omega
  ·have:k=fs.length:=by omega
   subst this;rw[NT]at d;have A:MQ w.heap.size w wr:=(((MY w.heap.size w).alloc (MV _) _).trans (p.mono (by simp))).grown j (by have:=p.size;simp at this;omega) (by intro k y;cases y;exact MV _);have L:=d.Gu 0;have Q:wr.cell? ⟨w.heap.size,0,MH⟩=MI (MF ME (e.Gc fs).kind):=d.F7 0;have T:wr.cell? ⟨w.heap.size,1,MH⟩=MI (MF ME (e.Gc fs).key):=d.F7 1;have Y:wr.cell? ⟨w.heap.size,2,MH⟩=MI (MF ME (e.Gc fs).slot):=d.F7 2;have V:wr.cell? ⟨w.heap.size,3,MH⟩=MI (MF ME (e.Gc fs).gen):=d.F7 3;have R:wr.cell? ⟨w.heap.size,4,MH⟩=MI (M3 (e.Gc fs).good):=d.F7 4;have S:wr.cell? ⟨w.heap.size,5,MH⟩=MI (MF ME (e.Gc fs).req):=d.F7 5;have O:wr.cell? ⟨w.heap.size,6,MH⟩=MI (MF ME (e.Gc fs).be):=d.F7 6;have U:wr.cell? ⟨w.heap.size,7,MH⟩=MI (MF ME (e.Gc fs).wt):=d.F7 7;have I:M6 (e.GE fs=Nn ({e.Gc fs with kind:=0}=Ev.Hi)):=rfl;generalize e.Gc fs=c at *;go_wp2
   all_goals
    go_ret;refine⟨?_,A.setCell (MV _) _⟩;rw[I.out];simp[Ev.Hi, *]
theorem YT.Jl(h:YT w b e):w.cell? ⟨b,0,MH⟩=MI (MF ME e.kind)/\w.cell? ⟨b,1,MH⟩=MI (MF ME e.key)/\w.cell? ⟨b,2,MH⟩=MI (MF ME e.slot)/\w.cell? ⟨b,3,MH⟩=MI (MF ME e.gen)/\w.cell? ⟨b,4,MH⟩=MI (M3 e.good)/\w.cell? ⟨b,5,MH⟩=MI (MF ME e.req)/\w.cell? ⟨b,6,MH⟩=MI (MF ME e.be)/\w.cell? ⟨b,7,MH⟩=MI (MF ME e.wt):=
 ⟨h.F7 0,h.F7 1,h.F7 2,h.F7 3,h.F7 4,h.F7 5,h.F7 6,h.F7 7⟩
theorem ag1{W b:MO}(h:MQ W.heap.size W a)(k:MQ a.heap.size a b):MQ W.heap.size W b:=h.trans (k.mono h.size)
theorem aeA{W:MO}{B:Nat}{v0 v1 v2 v3:M7}(n0:W.cell? ⟨B,0,MH⟩=MI v0)(n1:W.cell? ⟨B,1,MH⟩=MI v1)(n2:W.cell? ⟨B,2,MH⟩=MI v2)(n3:W.cell? ⟨B,3,MH⟩=MI v3)(h:MQ W.heap.size W a):
  a.cell? ⟨B,0,MH⟩=MI v0/\a.cell? ⟨B,1,MH⟩=MI v1/\a.cell? ⟨B,2,MH⟩=MI v2/\a.cell? ⟨B,3,MH⟩=MI v3/\MQ W.heap.size W a:=by
 have c:B<W.heap.size:=MX W ⟨B,0,MH⟩ n0;exact⟨by rw[h.cell c];exact n0,by rw[h.cell c];exact n1,by rw[h.cell c];exact n2,by rw[h.cell c];exact n3,h⟩
theorem awu{α:Type}(p:α->Bool)(l:List α)(k:Nat)(x:α)(h:l[k]?=MI x)(hp:p x=Nb):l.all p=false:=by
 rw[Bool.eq_false_iff];intro c;rw[List.all_eq_true]at c;have:=c x (Nu h);rw[hp]at this;cases this
theorem awx(e:Ev)(fs:List Xf)(w:MO)(hf:Zz e.kind=MI fs) :
  Ni MK 21 #[Ny #[MF ME e.kind,MF ME e.key,MF ME e.slot,MF ME e.gen,M3 e.good,MF ME e.req,MF ME e.be,MF ME e.wt]] w fun r w'=>r=MN (MF ME (Yk e))/\MQ w.heap.size w w':=by
 have a0:=an3 hf;have F:M6 (Yk e=if fs.all e.GZ then(if e.GE fs then 0 else 3)else 2):=by unfold Yk;rw[hf];exact rfl
 go_enter Tryz.func21,Tryz.ntmps21
 go_wp2_with fail
 refine(an1 w.heap.size e fs _ (adS w _) hf).mono ?_;rintro r n ⟨v,rfl,I,B⟩;obtain⟨a,a1,rfl,L⟩:=an8 B;have A:YT n w.heap.size e:=YT.below (adS w _) I (by simp);have G:M6 (Zz e.kind=MI fs/\_/\_):=⟨hf,B,L⟩;clear hf B L
 go_wp2
 go_loopw [15] (fun i wr=>∃k:Nat,k<=fs.length/\i=MF ME k/\(fs.take k).all e.GZ=Nw/\MQ n.heap.size n wr) (fun i _=>fs.length-(On i).toNat)
 case atStart=>exact⟨0,Nx _,rfl,rfl,MY _ _⟩
 case round =>
  obtain⟨k,hk,rfl,J,l⟩:=hrel;have K:MQ w.heap.size w wr:=(((MY w.heap.size w).alloc (MV _) _).trans (I.mono (by simp))).trans (l.mono (by have:=I.size;simp at this;omega));have j:M6 (_/\_):=⟨J,K⟩;clear J K
  by_cases hlt:k<fs.length
  ·have D:fs[k]?=MI fs[k]:=MR hlt
   have N:fs.take (k+1)=fs.take k++[fs[k]]:=M9 hlt;have z:=an4 G.out.1 fs[k] (Nk hlt);generalize fs[k]=f at *;obtain⟨g,rfl,g1,Y,c0,c1,c2,c3⟩:=G.out.2.2 k f D;have Q:∀o,wr.cell? ⟨g,o,MH⟩=n.cell? ⟨g,o,MH⟩:=fun o=>l.cell (p:=⟨g,o,MH⟩) Y
   rw[<-Q]at c0 c1 c2 c3;have S:M6 (_/\_):=⟨D,N⟩;clear D N Q;have V:=l.size;have U:=A.lt;have H:=A.below l U;have E:∀x,YT (wr.alloc x) w.heap.size e:=fun x=>by unfold YT;rw[Ov _ _ _ (by omega)];exact H
   go_wp2_with fail
   obtain⟨W,d⟩:∃W,W=wr.alloc (MP #[Na (pp w.heap.size f),Na (pq w.heap.size f),MF ME f.lo,MF ME f.hi] 110):=⟨_,rfl⟩;have t:W.cell? ⟨wr.heap.size,0,MH⟩=MI (Na (pp w.heap.size f)):=by rw[d];simp
   have s:W.cell? ⟨wr.heap.size,1,MH⟩=MI (Na (pq w.heap.size f)):=by rw[d];simp
   have m:W.cell? ⟨wr.heap.size,2,MH⟩=MI (MF ME f.lo):=by rw[d];simp
   have q:W.cell? ⟨wr.heap.size,3,MH⟩=MI (MF ME f.hi):=by rw[d];simp
   have O:YT W w.heap.size e:=by rw[d];exact E _
   have M:MQ n.heap.size n W:=by rw[d];exact l.alloc V _
   rw[<-d];have R:M6 (_/\_):=⟨d,E⟩;clear d E;have T:M6 (e.GZ f=Nn (f.lo<=e.num f.off/\e.num f.off<=f.hi)):=rfl
   by_cases hin:f.lo<=e.num f.off/\e.num f.off<=f.hi
   ·go_region_held3 (fun w'=>w'.cell? ⟨wr.heap.size,0,MH⟩=MI (Na (pp w.heap.size f))/\w'.cell? ⟨wr.heap.size,1,MH⟩=MI (Na (pq w.heap.size f))/\w'.cell? ⟨wr.heap.size,2,MH⟩=MI (MF ME f.lo)/\w'.cell? ⟨wr.heap.size,3,MH⟩=MI (MF ME f.hi)/\MQ W.heap.size W w') (first|exact aeA t s m q ((MY _ _).drew)|exact aeA t s m q (ag1 (Za c) u)|exact aeA t s m q (Za c))
     (first|(go_at_call 23;refine(an5 w.heap.size f e W.drew O z.1 z.2).mono ?_;rintro r y ⟨rfl,c⟩)|(go_at_call 36;refine(awP _ _ f.lo f.hi (e.num f.off) y hin.1 hin.2).mono ?_;rintro r Z ⟨rfl,u⟩))
    go_wp2
    go_roundw
    case rel =>
     refine⟨k+1,by omega,by go_num,?_,M.trans ((ag1 (Za c) u).mono M.size)⟩;rw[S.out.2,List.all_append,j.out.1];simp[T.out,hin]
    case measure=>simp[On];omega
   ·go_region_held3 (fun w'=>w'.cell? ⟨wr.heap.size,0,MH⟩=MI (Na (pp w.heap.size f))/\w'.cell? ⟨wr.heap.size,1,MH⟩=MI (Na (pq w.heap.size f))/\w'.cell? ⟨wr.heap.size,2,MH⟩=MI (MF ME f.lo)/\w'.cell? ⟨wr.heap.size,3,MH⟩=MI (MF ME f.hi)/\MQ W.heap.size W w') (first|exact aeA t s m q ((MY _ _).drew)|exact aeA t s m q (ag1 (Za c) u)|exact aeA t s m q (Za c))
     (first|(go_at_call 23;refine(an5 w.heap.size f e W.drew O z.1 z.2).mono ?_;rintro r y ⟨rfl,c⟩)|(go_at_call 36;refine(awO _ _ f.lo f.hi (e.num f.off) y hin).mono ?_;rintro r Z ⟨rfl,u⟩))
    go_wp2;go_ret;refine⟨?_,?_⟩
    ·rw[F.out,awu _ fs k f S.out.1 (by rw[T.out];simpa using hin)];rfl
    ·exact j.out.2.trans ((((MY wr.heap.size wr).alloc (MV _) _).trans (R.out.1 ▸ (ag1 (Za c) u).mono (by rw[R.out.1];simp))).mono j.out.2.size)
  ·have:k=fs.length:=by omega
   subst this;rw[NT]at j;have C:=F.out;rw[j.out.1]at C;have P:M6 (Yk e=if e.GE fs then 0 else 3):=C;clear C F;have H:=A.below l A.lt;obtain⟨e0,e1,e2,e3,e4,e5,e6,e7⟩:=H.Jl
   go_wp2_with fail
   refine(awJ e fs _ G.out.1).mono ?_;rintro r y ⟨rfl,c⟩;have HB:M6 (MQ w.heap.size w y):=j.out.2.trans (c.mono j.out.2.size);cases hcl:e.GE fs
   all_goals
    rw[hcl]at P;go_wp2;go_ret;exact⟨by rw[P.out];rfl,HB.out⟩
theorem aww(e:Ev)(w:MO)(hf:e.kind<1\/7<e.kind)(hn:Zz e.kind=MH) :
  Ni MK 21 #[Ny #[MF ME e.kind,MF ME e.key,MF ME e.slot,MF ME e.gen,M3 e.good,MF ME e.req,MF ME e.be,MF ME e.wt]] w fun r w'=>r=MN (MF ME (Yk e))/\MQ w.heap.size w w':=by
 have c:M6 (Yk e=5):=by unfold Yk;rw[hn];exact rfl
 go_enter Tryz.func21,Tryz.ntmps21
 go_wp2_with fail
 refine(awF w.heap.size e _ (adS w _) hf).mono ?_;rintro r d ⟨rfl,rfl⟩;go_wp2;go_ret;exact⟨by rw[c.out];rfl,(MY _ _).alloc (MV _) _⟩
theorem awv(e:Ev)(w:MO) :
  Ni MK 21 #[Ny #[MF ME e.kind,MF ME e.key,MF ME e.slot,MF ME e.gen,M3 e.good,MF ME e.req,MF ME e.be,MF ME e.wt]] w fun r w'=>r=MN (MF ME (Yk e))/\MQ w.heap.size w w':=by
 cases h:Zz e.kind with
 |some fs=>exact awx e fs w h
 |none =>
  refine aww e w ?_ h;rcases afx e.kind with⟨c,_⟩|c|c|c|c|c|c|c
  ·exact c
  all_goals (rw[c]at h;simp[Zz]at h)
end Go.Proofs.YtgnclkcdnbfeeaaGreatDoor.Q
