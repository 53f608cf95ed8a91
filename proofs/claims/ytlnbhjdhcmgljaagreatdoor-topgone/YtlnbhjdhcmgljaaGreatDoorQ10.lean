/-
  Contracts of the layers and of core, part 10. Conditions: as each theorem says.
-/
import Derived.Test.YtlnbhjdhcmgljaaGreatDoorQ0
open Array renaming getElem?_eq_none->QT,getElem?_modify->Qp,size_append->RD,toList_append->Rh
open Bool renaming false->Nb,true->Nw
open Decidable renaming decide->Nn
open Go renaming Addr->Oc,Calls->Ni,TypeId->NU,Value->M7,World->MO,bodyPost_ret->Np,maxLen->NE,results->Pf
open Go.Builtin renaming zeroCells->N5
open Go.Ending renaming returned->MN
open Go.IntKind renaming i64->ME
open Go.Obj renaming cells->MP
open Go.Proofs.Tryz renaming func106->Ta,func74->Vj,func75->WJ,ntmps106->SG,ntmps74->Vd,ntmps75->WB,prog->MK
open Go.Question renaming appendCap->PF
open Go.RowKit renaming Below->MQ,Hid->M6,intOf->On
open Go.RowKit.Below renaming heap_alloc->Ov,heap_setCell->MU,refl->MY
open Go.Value renaming agg->Ny,bool->M3,int->MF,pointer->Na,slice->MG,tuple->Nv
open Go.World renaming block_lt_of_cell?->MX,cell?->Nl,frozen?->Ng,ownsRow_nil->NY,setCell->Q4
open Go.World.ownsRow renaming drew->PZ
open List renaming flatMap_cons->S9,foldl_append->Pu,getElem?_append_left->OJ,getElem?_append_right->Tw,getElem?_eq_getElem->MR,getElem?_eq_none->Nz,getElem?_take_of_lt->O0,getElem_mem->Nk,mem_of_getElem?->Nu,take_length->NT,take_of_length_le->N1,take_succ_eq_append_getElem->M9
open Nat renaming add_mul->ON,le_refl->MV,le_trans->Nm,lt_of_lt_of_le->M8,lt_or_ge->Oq,zero_le->Nx
open Option renaming map_some->OH,none->MH,some->MI
open Or renaming inl->Nt,inr->NF
namespace Go.Proofs.YtlnbhjdhcmgljaaGreatDoor.Q
set_option linter.unusedVariables false
set_option linter.unusedSimpArgs false
set_option maxHeartbeats 16000000
set_option maxRecDepth 100000
open Go.RowKit
attribute [local go_sem ↓] Go.wp_at_zero Go.wp_at_succ
variable {a w:MO}{b base:Nat}
structure Ev where
 kind:Int
 key:Int
 slot:Int
 gen:Int
 good:Bool
 req:Int
 be:Int
 wt:Int
 deriving DecidableEq
variable {e:Ev}
def Ev.Hi:Ev:=⟨0,0,0,0,Nb,0,0,0⟩
def Ev.num(e:Ev)(o:Nat):Int :=
 match o with
 |1=>e.key
 |2=>e.slot
 |3=>e.gen
 |4=>if e.good then 1 else 0
 |5=>e.req
 |6=>e.be
 |7=>e.wt
 |_=>0
def Ev.Gd(e:Ev)(o:Nat)(n:Int):Ev :=
 match o with
 |1=>{e with key:=n}
 |2=>{e with slot:=n}
 |3=>{e with gen:=n}
 |4=>{e with good:=n == 1}
 |5=>{e with req:=n}
 |6=>{e with be:=n}
 |7=>{e with wt:=n}
 |_=>e
structure ay where
 off:Nat
 lo:Int
 hi:Int
variable {fs:List ay}
def dY(k:Int):Option (List ay):=
 if k=1 then MI [⟨1,0,4294967295⟩]
 else if k=2 then MI [⟨2,0,39⟩,⟨3,0,1048576⟩]
 else if k=3 then MI [⟨2,0,39⟩,⟨3,0,1048576⟩]
 else if k=4 then MI [⟨2,0,39⟩,⟨3,0,1048576⟩,⟨4,0,1⟩]
 else if k=5 then MI [⟨5,0,1048576⟩,⟨6,0,11⟩,⟨7,1,8⟩]
 else if k=6 then MI [⟨5,0,1048576⟩,⟨6,0,11⟩]
 else if k=7 then MI []
 else MH
theorem lW(k:Int):(k<1\/7<k)/\dY k=MH\/k=1\/k=2\/k=3\/k=4\/k=5\/k=6\/k=7:=by
 by_cases h:k<1\/7<k
 ·refine Nt ⟨h,?_⟩
  unfold dY;rw[Nf (by omega),Nf (by omega),Nf (by omega),Nf (by omega),Nf (by omega),Nf (by omega),Nf (by omega)]
 ·omega
def Ev.GZ(e:Ev)(f:ay):Bool:=Nn (f.lo<=e.num f.off/\e.num f.off<=f.hi)
def Ev.Gc(e:Ev)(fs:List ay):Ev:=fs.foldl (fun e f=>e.Gd f.off 0) e
def Ev.GE(e:Ev)(fs:List ay):Bool:=Nn ({e.Gc fs with kind:=0}=Ev.Hi)
def gq(e:Ev):Int :=
 match dY e.kind with
 |none=>5
 |some fs=>if fs.all e.GZ then(if e.GE fs then 0 else 3)else 2
theorem FF(x y:M7)(lo hi n:Int)(w:MO)(h1:lo<=n)(h2:n<=hi) :
  Ni MK 75 #[Ny #[x,y,MF ME lo,MF ME hi],MF ME n] w fun e w'=>e=MN (M3 Nw)/\MQ w.heap.size w w':=by
 go_enter WJ,WB;go_wp2;go_ret;exact⟨rfl,(MY _ _).alloc (MV _) _⟩
theorem xA(x y:M7)(lo hi n:Int)(w:MO)(h1:¬(lo<=n/\n<=hi)) :
  Ni MK 75 #[Ny #[x,y,MF ME lo,MF ME hi],MF ME n] w fun e w'=>e=MN (M3 Nb)/\MQ w.heap.size w w':=by
 by_cases h2:lo<=n
 ·have h3:¬n<=hi:=by omega
  go_enter WJ,WB;go_wp2;go_ret;exact⟨rfl,(MY _ _).alloc (MV _) _⟩
 ·have h3:Nn (lo<=n)=false:=by simpa using h2
  go_enter WJ,WB;go_wp2;go_ret;exact⟨rfl,(MY _ _).alloc (MV _) _⟩
theorem Dc(b o:Nat)(lo hi n:Int)(w:MO)(h:w.cell? ⟨b,o,MH⟩=MI (MF ME n)) :
  Ni MK 76 #[Ny #[Na (MI ⟨b,o,MH⟩),Na MH,MF ME lo,MF ME hi]] w fun e w'=>e=MN (MF ME n)/\MQ w.heap.size w w':=by
 have hb:b<w.heap.size:=MX w _ h;go_enter Tryz.func76,Tryz.ntmps76;go_wp2;go_ret;exact⟨rfl,(MY _ _).alloc (MV _) _⟩
theorem z7(b o:Nat)(lo hi:Int)(t:Bool)(w:MO)(h:w.cell? ⟨b,o,MH⟩=MI (M3 t)) :
  Ni MK 76 #[Ny #[Na MH,Na (MI ⟨b,o,MH⟩),MF ME lo,MF ME hi]] w fun e w'=>e=MN (MF ME (if t then 1 else 0))/\MQ w.heap.size w w':=by
 have hb:b<w.heap.size:=MX w _ h;cases t
 all_goals
  go_enter Tryz.func76,Tryz.ntmps76;go_wp2;go_ret;exact⟨rfl,(MY _ _).alloc (MV _) _⟩
theorem D3(b o:Nat)(lo hi n:Int)(v:M7)(w:MO)(h:w.cell? ⟨b,o,MH⟩=MI v)(hf:w.frozen? ⟨b,o,MH⟩=Nb) :
  Ni MK 107 #[Ny #[Na (MI ⟨b,o,MH⟩),Na MH,MF ME lo,MF ME hi],MF ME n] w fun e w'=>e=MN (Nv #[]) /\
   w'=(w.setCell ⟨b,o,MH⟩ (MF ME n)).alloc (MP #[Na (MI ⟨b,o,MH⟩),Na MH,MF ME lo,MF ME hi] 164):=by
 have hb:b<w.heap.size:=MX w _ h;go_enter Tryz.func107,Tryz.ntmps107;go_wp2
 first|go_end0|(refine Np (v:=Nv #[]) (by simp[Pf,Tryz.results107,go_sem]) rfl ?_)
 exact⟨rfl,rfl⟩
theorem wR(b o:Nat)(lo hi n:Int)(v:M7)(w:MO)(h:w.cell? ⟨b,o,MH⟩=MI v)(hf:w.frozen? ⟨b,o,MH⟩=Nb) :
  Ni MK 107 #[Ny #[Na MH,Na (MI ⟨b,o,MH⟩),MF ME lo,MF ME hi],MF ME n] w fun e w'=>e=MN (Nv #[]) /\
   w'=(w.setCell ⟨b,o,MH⟩ (M3 (n == 1))).alloc (MP #[Na MH,Na (MI ⟨b,o,MH⟩),MF ME lo,MF ME hi] 164):=by
 have hb:b<w.heap.size:=MX w _ h;go_enter Tryz.func107,Tryz.ntmps107;go_wp2
 go_end0
 exact⟨rfl,rfl⟩
def la(e:Ev):Array Value:=#[MF ME e.kind,MF ME e.key,MF ME e.slot,MF ME e.gen,M3 e.good,MF ME e.req,MF ME e.be,MF ME e.wt]
def cI(w:MO)(b:Nat)(e:Ev):Prop:=w.heap[b]?=MI (MP (la e) 59)
theorem cI.lt(h:cI w b e):b<w.heap.size:=by
 rcases Oq b w.heap.size with hlt|hge
 ·exact hlt
 ·unfold cI at h;rw[QT hge]at h;cases h
theorem cI.F7(h:cI w b e)(o:Nat):w.cell? ⟨b,o,MH⟩=(la e)[o]?:=by
 unfold cI at h;simp[Nl,h]
theorem cI.Gu(h:cI w b e)(o:Nat):w.frozen? ⟨b,o,MH⟩=false:=by
 unfold cI at h;simp[Ng,h]
theorem cI.below{w':MO}{B:Nat}(h:cI w b e)(hb:MQ B w w')(hlt:b<B):cI w' b e:=by
 unfold cI;rw[hb.block b hlt];exact h
def pp(b:Nat)(f:ay):Option Addr:=if f.off=4 then MH else MI ⟨b,f.off,MH⟩
def pq(b:Nat)(f:ay):Option Addr:=if f.off=4 then MI ⟨b,f.off,MH⟩else MH
def gN(b:Nat)(f:ay):List Value:=[Na (pp b f),Na (pq b f),MF ME f.lo,MF ME f.hi]
theorem vC(b:Nat)(f:ay)(e:Ev)(w:MO)(hE:cI w b e)(h1:1<=f.off)(h7:f.off<=7) :
  Ni MK 76 #[Ny #[Na (pp b f),Na (pq b f),MF ME f.lo,MF ME f.hi]] w fun r w'=>r=MN (MF ME (e.num f.off))/\MQ w.heap.size w w':=by
 have hc:=hE.F7 f.off;obtain⟨o,lo,hi⟩:=f
 dsimp only at *
 obtain rfl|rfl|rfl|rfl|rfl|rfl|rfl:o=1\/o=2\/o=3\/o=4\/o=5\/o=6\/o=7:=by omega
 case inr.inr.inr.inl=>exact z7 b 4 lo hi e.good w hc
 all_goals exact Dc b _ lo hi _ w hc
theorem uJ(o:Obj)(a:Oc)(v:M7):w.grownBy ((w.setCell a v).alloc o) (MI a.block):=by
 have hs:(w.setCell a v).heap.size=w.heap.size:=by simp[Q4]
 refine⟨rfl,rfl,rfl,?_,fun k hk hne=>?_⟩
 ·show w.heap.size<=((w.setCell a v).heap.push o).size
  rw[Array.size_push,hs];omega
 ·rw[Ov _ _ _ (by rw[hs];exact hk),MU _ _ _ _ (fun h=>hne (by rw[h]))]
theorem vJ{e':Ev}(h:cI w b e)(x:Obj)(o:Nat)(v:M7)(hv:(la e).setIfInBounds o v=la e'):cI ((w.setCell ⟨b,o,MH⟩ v).alloc x) b e':=by
 have hs:(w.setCell ⟨b,o,MH⟩ v).heap.size=w.heap.size:=by simp[Q4]
 have h':w.heap[b]?=MI (MP (la e) 59):=h;unfold cI;rw[Ov _ _ _ (by rw[hs];exact h.lt)];simp only[Q4,Qp,h',if_true,OH];simp[hv]
theorem yg(b:Nat)(f:ay)(e:Ev)(n:Int)(w:MO)(hE:cI w b e)(h1:1<=f.off)(h7:f.off<=7) :
  Ni MK 107 #[Ny #[Na (pp b f),Na (pq b f),MF ME f.lo,MF ME f.hi],MF ME n] w fun r w'=>r=MN (Nv #[])/\cI w' b (e.Gd f.off n)/\w.grownBy w' (MI b):=by
 have hc:=hE.F7 f.off;have hf:=hE.Gu f.off;obtain⟨o,lo,hi⟩:=f
 dsimp only at *
 obtain rfl|rfl|rfl|rfl|rfl|rfl|rfl:o=1\/o=2\/o=3\/o=4\/o=5\/o=6\/o=7:=by omega
 case inr.inr.inr.inl =>
  refine(wR b 4 lo hi n _ w hc hf).mono ?_;rintro r w' ⟨rfl,rfl⟩;exact⟨rfl,vJ hE _ _ _ rfl,uJ _ _ _⟩
 all_goals
  refine(D3 b _ lo hi n _ w hc hf).mono ?_;rintro r w' ⟨rfl,rfl⟩;exact⟨rfl,vJ hE _ _ _ rfl,uJ _ _ _⟩
theorem jK(w:MO)(o:Obj):(w.alloc o).heap[w.heap.size]?=MI o:=by show(w.heap.push o)[w.heap.size]?=MI o;simp
theorem qs(b:Nat)(w:MO) :
  Ni MK 105 #[Na (MI ⟨b,0,MH⟩)] w fun e w'=>e=MN (MG (MI ⟨w.heap.size,0,MH⟩) 2 2) /\
   w'=(w.alloc (MP #[Na (MI ⟨b,2,MH⟩),Na MH,MF ME 0,MF ME 39,Na (MI ⟨b,3,MH⟩),Na MH,MF ME 0,MF ME 1048576] 164)).drew:=by
 go_enter Tryz.func105,Tryz.ntmps105;go_wp2
 go_region
 go_wp2;go_ret;exact⟨rfl,rfl⟩
theorem uS(b:Nat)(w:MO) :
  Ni MK 106 #[Na (MI ⟨b,0,MH⟩)] w fun e w'=>e=MN (MG (MI ⟨w.heap.size,0,MH⟩) 2 2) /\
   w'=(w.alloc (MP #[Na (MI ⟨b,5,MH⟩),Na MH,MF ME 0,MF ME 1048576,Na (MI ⟨b,6,MH⟩),Na MH,MF ME 0,MF ME 11] 164)).drew:=by
 go_enter Ta,SG;go_wp2
 go_region
 go_wp2;go_ret;exact⟨rfl,rfl⟩
theorem nB{n:Nat}{e:NU}{size:Nat}(cs:Array M7)(hb:base<=w.heap.size)(hm:n<=NE)(hs:cs.size=n*size):(w.alloc (MP cs e)).ownsRow base e size (MG (MI ⟨w.heap.size,0,MH⟩) n n) n cs.toList :=
 ⟨by simp[hs],NF ⟨w.heap.size,n,cs,rfl,hb,jK w _,MV _,hm,hs,by rw[N1 (by simp[hs])]⟩⟩
def iS(b:Nat)(fs:List ay)(w:MO)(r:Ending)(w':MO):Prop :=
 ∃v,r=MN (Nv #[v,M3 Nw])/\MQ w.heap.size w w'/\w'.ownsRow w.heap.size 164 4 v fs.length (fs.flatMap (gN b))
theorem A5(b:Nat)(e:Ev)(w:MO)(hE:cI w b e)(hk:e.kind<1\/7<e.kind) :
  Ni MK 74 #[Na (MI ⟨b,0,MH⟩)] w fun r w'=>r=MN (Nv #[MG MH 0 0,M3 Nb])/\w'=w:=by
 have hc:w.cell? ⟨b,0,MH⟩=MI (MF ME e.kind):=hE.F7 0;generalize e.kind=k at *;have h1:(k == 1)=false:=beq_eq_false_iff_ne.2 (by omega);have h2:(k == 2)=false:=beq_eq_false_iff_ne.2 (by omega);have h3:(k == 3)=false:=beq_eq_false_iff_ne.2 (by omega);have h4:(k == 4)=false:=beq_eq_false_iff_ne.2 (by omega);have h5:(k == 5)=false:=beq_eq_false_iff_ne.2 (by omega);have h6:(k == 6)=false:=beq_eq_false_iff_ne.2 (by omega);have h7:(k == 7)=false:=beq_eq_false_iff_ne.2 (by omega);clear hk;go_enter Vj,Vd;go_wp2
 go_ret2
 exact⟨rfl,rfl⟩
theorem EL(b:Nat)(w:MO)(hc:w.cell? ⟨b,0,MH⟩=MI (MF ME 1)) :
  Ni MK 74 #[Na (MI ⟨b,0,MH⟩)] w (iS b [⟨1,0,4294967295⟩] w):=by
 go_enter Vj,Vd;go_wp2
 go_ret2
 exact⟨_,rfl,(MY _ _).alloc (MV _) _,nB _ (MV _) (by unfold NE;omega) rfl⟩
theorem yF(b:Nat)(w:MO)(hc:w.cell? ⟨b,0,MH⟩=MI (MF ME 2)) :
  Ni MK 74 #[Na (MI ⟨b,0,MH⟩)] w (iS b [⟨2,0,39⟩,⟨3,0,1048576⟩] w):=by
 go_enter Vj,Vd
 go_wp2_with fail
 refine(qs b _).mono ?_;rintro r w' ⟨rfl,rfl⟩;go_wp2
 go_ret2
 exact⟨_,rfl,((MY _ _).alloc (MV _) _).drew,(nB _ (MV _) (by unfold NE;omega) rfl).drew⟩
theorem rt(need old:Nat)(e:NU)(t:Nat)(h:need<=NE):need<=(PF need old e).cut t/\(PF need old e).cut t<=maxLen:=by
 unfold NE at *;simp only[Question.cut];have:t % (2 ^ 63-need)<2 ^ 63-need:=Nat.mod_lt _ (by omega);omega
theorem sm{n cap g:Nat}{e:NU}{size:Nat}(x y z:Array M7)(hg:w.heap.size=g)(hb:base<=w.heap.size)(hn:n<=cap)(hm:cap<=NE)(hs:x.size+y.size=n*size)(hz:z.size=size):
  (w.alloc (MP (x++(y++N5 z (cap-n))) e)).ownsRow base e size (MG (MI ⟨g,0,MH⟩) n cap) n (x.toList++y.toList):=by
 subst hg;refine⟨by simp[hs],NF ⟨w.heap.size,cap,_,rfl,hb,jK w _,hn,hm,?_,?_⟩⟩
 ·rw[RD,RD,Go.size_zeroCells,hz,<-Nat.add_assoc,hs,<-ON]
  congr 1;omega
 ·rw[<-Array.append_assoc,Rh,Rh]
  exact List.take_left' (by simp[hs])
theorem Ba(b:Nat)(w:MO)(hc:w.cell? ⟨b,0,MH⟩=MI (MF ME 4)) :
  Ni MK 74 #[Na (MI ⟨b,0,MH⟩)] w (iS b [⟨2,0,39⟩,⟨3,0,1048576⟩,⟨4,0,1⟩] w):=by
 go_enter Vj,Vd
 go_wp2_with fail
 go_region_held3 (fun w'=>True) (go_keep) (first|(go_at_call 105;refine(qs b _).mono ?_;rintro r w' ⟨rfl,rfl⟩))
 all_goals
  go_wp2
  go_ret2
  obtain⟨c1,c2⟩:=rt 3 2 164 (w.tape (w.drawn+1+1) (PF 3 2 164)) (by unfold NE;omega);generalize (PF 3 2 164).cut (w.tape (w.drawn+1+1) (PF 3 2 164))=c at *;refine⟨_,rfl,?_,?_⟩
  ·exact((((((MY _ _).alloc (MV _) _).alloc (by simp) _).alloc (by simp;omega) _).drew).drew).drew
  ·exact PZ (PZ (PZ (sm (size:=4) #[Na (MI ⟨b,2,MH⟩),Na MH,MF ME 0,MF ME 39,Na (MI ⟨b,3,MH⟩),Na MH,MF ME 0,MF ME 1048576] #[Na MH,Na (MI ⟨b,4,MH⟩),MF ME 0,MF ME 1] #[Na MH,Na MH,MF ME 0,MF ME 0] (by simp) (by simp;omega) c1 c2 rfl rfl)))
theorem D8(b:Nat)(w:MO)(hc:w.cell? ⟨b,0,MH⟩=MI (MF ME 5)) :
  Ni MK 74 #[Na (MI ⟨b,0,MH⟩)] w (iS b [⟨5,0,1048576⟩,⟨6,0,11⟩,⟨7,1,8⟩] w):=by
 go_enter Vj,Vd
 go_wp2_with fail
 go_region_held3 (fun w'=>True) (go_keep) (first|(go_at_call 106;refine(uS b _).mono ?_;rintro r w' ⟨rfl,rfl⟩))
 all_goals
  go_wp2
  go_ret2
  obtain⟨c1,c2⟩:=rt 3 2 164 (w.tape (w.drawn+1+1) (PF 3 2 164)) (by unfold NE;omega);generalize (PF 3 2 164).cut (w.tape (w.drawn+1+1) (PF 3 2 164))=c at *;refine⟨_,rfl,?_,?_⟩
  ·exact((((((MY _ _).alloc (MV _) _).alloc (by simp) _).alloc (by simp;omega) _).drew).drew).drew
  ·exact PZ (PZ (PZ (sm (size:=4) #[Na (MI ⟨b,5,MH⟩),Na MH,MF ME 0,MF ME 1048576,Na (MI ⟨b,6,MH⟩),Na MH,MF ME 0,MF ME 11] #[Na (MI ⟨b,7,MH⟩),Na MH,MF ME 1,MF ME 8] #[Na MH,Na MH,MF ME 0,MF ME 0] (by simp) (by simp;omega) c1 c2 rfl rfl)))
theorem Bm(b:Nat)(w:MO)(hc:w.cell? ⟨b,0,MH⟩=MI (MF ME 3)) :
  Ni MK 74 #[Na (MI ⟨b,0,MH⟩)] w (iS b [⟨2,0,39⟩,⟨3,0,1048576⟩] w):=by
 go_enter Vj,Vd
 go_wp2_with fail
 refine(qs b _).mono ?_;rintro r w' ⟨rfl,rfl⟩;go_wp2
 go_ret2
 exact⟨_,rfl,((MY _ _).alloc (MV _) _).drew,(nB _ (MV _) (by unfold NE;omega) rfl).drew⟩
theorem DV(b:Nat)(w:MO)(hc:w.cell? ⟨b,0,MH⟩=MI (MF ME 6)) :
  Ni MK 74 #[Na (MI ⟨b,0,MH⟩)] w (iS b [⟨5,0,1048576⟩,⟨6,0,11⟩] w):=by
 go_enter Vj,Vd
 go_wp2_with fail
 refine(uS b _).mono ?_;rintro r w' ⟨rfl,rfl⟩;go_wp2
 go_ret2
 exact⟨_,rfl,((MY _ _).alloc (MV _) _).drew,(nB _ (MV _) (by unfold NE;omega) rfl).drew⟩
theorem BB(b:Nat)(w:MO)(hc:w.cell? ⟨b,0,MH⟩=MI (MF ME 7)) :
  Ni MK 74 #[Na (MI ⟨b,0,MH⟩)] w (iS b [] w):=by
 go_enter Vj,Vd;go_wp2
 go_ret2
 exact⟨_,rfl,MY _ _,NY _ _ _ _⟩
theorem uo(b:Nat)(e:Ev)(fs:List ay)(w:MO)(hE:cI w b e)(hf:dY e.kind=MI fs) :
  Ni MK 74 #[Na (MI ⟨b,0,MH⟩)] w (iS b fs w):=by
 have hc:w.cell? ⟨b,0,MH⟩=MI (MF ME e.kind):=hE.F7 0;generalize e.kind=k at *;rcases lW k with⟨_,h⟩|rfl|rfl|rfl|rfl|rfl|rfl|rfl
 ·rw[h]at hf;cases hf
 all_goals (unfold dY at hf;simp at hf;subst hf)
 ·exact EL b w hc
 ·exact yF b w hc
 ·exact Bm b w hc
 ·exact Ba b w hc
 ·exact D8 b w hc
 ·exact DV b w hc
 ·exact BB b w hc
theorem rE(b:Nat):∀(fs:List ay) (k:Nat) (f:ay),fs[k]?=MI f->∀j,j<4->(fs.flatMap (gN b))[k*4+j]?=(gN b f)[j]?
 | [],k,f,h,j,hj=>by simp at h
 |x::fs,0,f,h,j,hj=>by
  simp at h;subst h;rw[S9,OJ (by simp[gN];omega)];simp
 |x::fs,k+1,f,h,j,hj=>by
  simp at h;rw[S9,Tw (by simp[gN];omega)];rw[show(k+1)*4+j-(gN b x).length=k*4+j by simp[gN];omega];exact rE b fs k f h j hj
theorem DC{v:M7}(h:w.ownsRow base 164 4 v fs.length (fs.flatMap (gN b))):
  (v=MG MH 0 0/\fs=[])\/∃g cap,v=MG (MI ⟨g,0,MH⟩) fs.length cap/\base<=g/\g<w.heap.size /\
   ∀k f,fs[k]?=MI f->w.cell? ⟨g,k*4,MH⟩=MI (Na (pp b f))/\w.cell? ⟨g,k*4+1,MH⟩=MI (Na (pq b f))/\w.cell? ⟨g,k*4+2,MH⟩=MI (MF ME f.lo)/\w.cell? ⟨g,k*4+3,MH⟩=MI (MF ME f.hi):=by
 obtain⟨hl,⟨rfl,hn⟩|⟨g,cap,cur,rfl,hb,hg,hn,hm,hs,ht⟩⟩:=h
 ·exact Nt ⟨rfl,List.length_eq_zero_iff.1 hn⟩
 ·refine NF ⟨g,cap,rfl,hb,?_,fun k f hf=>?_⟩
  ·rcases Oq g w.heap.size with hlt|hge
   ·exact hlt
   ·rw[QT hge]at hg;cases hg
  ·have hk:k<fs.length:=by
    rcases Oq k fs.length with h|h
    ·exact h
    ·rw[Nz h]at hf;cases hf
   have key:∀j,j<4->w.cell? ⟨g,k*4+j,MH⟩=(gN b f)[j]?:=by
    intro j hj;rw[<-rE b fs k f hf j hj,<-ht,O0 (by omega)];simp[Nl,hg]
   exact⟨key 0 (by omega),key 1 (by omega),key 2 (by omega),key 3 (by omega)⟩
theorem sH{k:Int}(h:dY k=MI fs):∀f,f∈fs->1<=f.off/\f.off<=7:=by
 rcases lW k with⟨_,h'⟩|rfl|rfl|rfl|rfl|rfl|rfl|rfl
 ·rw[h']at h;cases h
 all_goals (unfold dY at h;simp at h;subst h;simp)
theorem ro{v:M7}(h:w.ownsRow base 164 4 v fs.length (fs.flatMap (gN b))):
  ∃a cap,v=MG a fs.length cap/\∀k f,fs[k]?=MI f->∃g,a=MI ⟨g,0,MH⟩/\base<=g/\g<w.heap.size /\
   w.cell? ⟨g,k*4,MH⟩=MI (Na (pp b f))/\w.cell? ⟨g,k*4+1,MH⟩=MI (Na (pq b f))/\w.cell? ⟨g,k*4+2,MH⟩=MI (MF ME f.lo)/\w.cell? ⟨g,k*4+3,MH⟩=MI (MF ME f.hi):=by
 rcases DC h with⟨rfl,rfl⟩|⟨g,cap,rfl,h1,h2,h3⟩
 ·exact⟨MH,0,rfl,fun k f hf=>by simp at hf⟩
 ·exact⟨_,cap,rfl,fun k f hf=>⟨g,rfl,h1,h2,h3 k f hf⟩⟩
theorem uU{b c:MO}{row:Option Nat}(h:a.grownBy b row)(k:b.grownBy c row):a.grownBy c row :=
 ⟨k.os.trans h.os,k.tape.trans h.tape,k.output.trans h.output,Nm h.size k.size,fun i hi hne=>(k.block i (M8 hi h.size) hne).trans (h.block i hi hne)⟩
theorem xC{b:MO}{row:Option Nat}(h:MQ a.heap.size a b):a.grownBy b row :=
 ⟨h.os,h.tape,h.output,h.size,fun i hi _=>h.block i hi⟩
theorem sR{k:Int}(h:dY k=MI fs):fs.length<=3:=by
 rcases lW k with⟨_,h'⟩|rfl|rfl|rfl|rfl|rfl|rfl|rfl
 ·rw[h']at h;cases h
 all_goals (unfold dY at h;simp at h;subst h;simp)
theorem zf(e:Ev)(fs:List ay)(w:MO)(hf:dY e.kind=MI fs) :
  Ni MK 77 #[Ny #[MF ME e.kind,MF ME e.key,MF ME e.slot,MF ME e.gen,M3 e.good,MF ME e.req,MF ME e.be,MF ME e.wt]] w fun r w'=>r=MN (M3 (!e.GE fs))/\MQ w.heap.size w w':=by
 have hlen:=sR hf;go_enter Tryz.func77,Tryz.ntmps77
 go_wp2_with fail
 refine(uo w.heap.size e fs _ (jK w _) hf).mono ?_;rintro r w0 ⟨v,rfl,hb,hown⟩;obtain⟨a,cap,rfl,hat⟩:=ro hown;have hE0:cI w0 w.heap.size e:=cI.below (jK w _) hb (by simp);have HH:M6 (dY e.kind=MI fs/\_/\_):=⟨hf,hown,hat⟩;clear hf hown hat
 go_wp2
 go_loopw [13] (fun i wr=>∃k:Nat,k<=fs.length/\i=MF ME k/\cI wr w.heap.size (e.Gc (fs.take k))/\w0.grownBy wr (MI w.heap.size)) (fun i _=>fs.length-(On i).toNat)
 case atStart=>exact⟨0,Nx _,rfl,hE0,⟨rfl,rfl,rfl,MV _,fun _ _ _=>rfl⟩⟩
 case round =>
  obtain⟨k,hk,rfl,hE,hg⟩:=hrel
  by_cases hlt:k<fs.length
  ·have hfk:fs[k]?=MI fs[k]:=MR hlt
   have hto:fs.take (k+1)=fs.take k++[fs[k]]:=M9 hlt;have hoff:=sH HH.out.1 fs[k] (Nk hlt);generalize fs[k]=f at *;obtain⟨g,rfl,g1,g2,c0,c1,c2,c3⟩:=HH.out.2.2 k f hfk;have hgr:∀o,wr.cell? ⟨g,o,MH⟩=w0.cell? ⟨g,o,MH⟩:=fun o=>hg.cell_far ⟨g,o,MH⟩ g2 (by simp at g1⊢;omega)
   rw[<-hgr]at c0 c1 c2 c3;have HT:M6 (_/\_):=⟨hfk,hto⟩;clear hfk hto hgr;have hsz:=hg.size;have hEl:=hE.lt;have hE':∀x,cI (wr.alloc x) w.heap.size (e.Gc (fs.take k)):=fun x=>by unfold cI;rw[Ov _ _ _ hEl];exact hE
   go_wp2_with fail
   refine(yg w.heap.size f _ 0 _ (hE' _) hoff.1 hoff.2).mono ?_;rintro r w1 ⟨rfl,hE1,hg1⟩;go_wp2
   go_roundw
   case rel=>exact⟨k+1,by omega,by go_num,by rw[HT.out.2,Ev.Gc,Pu];exact hE1,uU (uU hg (xC ((MY _ _).alloc (MV _) _))) hg1⟩
   case measure=>simp[On];omega
  ·have:k=fs.length:=by omega
   subst this;rw[NT]at hE;have hbel:MQ w.heap.size w wr:=(((MY w.heap.size w).alloc (MV _) _).trans (hb.mono (by simp))).grown hg (by have:=hb.size;simp at this;omega) (by intro k hk;cases hk;exact MV _);have hfz:=hE.Gu 0;have h0:wr.cell? ⟨w.heap.size,0,MH⟩=MI (MF ME (e.Gc fs).kind):=hE.F7 0;have h1:wr.cell? ⟨w.heap.size,1,MH⟩=MI (MF ME (e.Gc fs).key):=hE.F7 1;have h2:wr.cell? ⟨w.heap.size,2,MH⟩=MI (MF ME (e.Gc fs).slot):=hE.F7 2;have h3:wr.cell? ⟨w.heap.size,3,MH⟩=MI (MF ME (e.Gc fs).gen):=hE.F7 3;have h4:wr.cell? ⟨w.heap.size,4,MH⟩=MI (M3 (e.Gc fs).good):=hE.F7 4;have h5:wr.cell? ⟨w.heap.size,5,MH⟩=MI (MF ME (e.Gc fs).req):=hE.F7 5;have h6:wr.cell? ⟨w.heap.size,6,MH⟩=MI (MF ME (e.Gc fs).be):=hE.F7 6;have h7:wr.cell? ⟨w.heap.size,7,MH⟩=MI (MF ME (e.Gc fs).wt):=hE.F7 7;have HC:M6 (e.GE fs=Nn ({e.Gc fs with kind:=0}=Ev.Hi)):=rfl;generalize e.Gc fs=c at *;go_wp2
   all_goals
    go_ret;refine⟨?_,hbel.setCell (MV _) _⟩;rw[HC.out];simp[Ev.Hi, *]
theorem cI.Jl(h:cI w b e):w.cell? ⟨b,0,MH⟩=MI (MF ME e.kind)/\w.cell? ⟨b,1,MH⟩=MI (MF ME e.key)/\w.cell? ⟨b,2,MH⟩=MI (MF ME e.slot)/\w.cell? ⟨b,3,MH⟩=MI (MF ME e.gen)/\w.cell? ⟨b,4,MH⟩=MI (M3 e.good)/\w.cell? ⟨b,5,MH⟩=MI (MF ME e.req)/\w.cell? ⟨b,6,MH⟩=MI (MF ME e.be)/\w.cell? ⟨b,7,MH⟩=MI (MF ME e.wt):=
 ⟨h.F7 0,h.F7 1,h.F7 2,h.F7 3,h.F7 4,h.F7 5,h.F7 6,h.F7 7⟩
theorem nl{W b:MO}(h:MQ W.heap.size W a)(k:MQ a.heap.size a b):MQ W.heap.size W b:=h.trans (k.mono h.size)
theorem jV{W:MO}{B:Nat}{v0 v1 v2 v3:M7}(n0:W.cell? ⟨B,0,MH⟩=MI v0)(n1:W.cell? ⟨B,1,MH⟩=MI v1)(n2:W.cell? ⟨B,2,MH⟩=MI v2)(n3:W.cell? ⟨B,3,MH⟩=MI v3)(h:MQ W.heap.size W a):
  a.cell? ⟨B,0,MH⟩=MI v0/\a.cell? ⟨B,1,MH⟩=MI v1/\a.cell? ⟨B,2,MH⟩=MI v2/\a.cell? ⟨B,3,MH⟩=MI v3/\MQ W.heap.size W a:=by
 have hl:B<W.heap.size:=MX W ⟨B,0,MH⟩ n0;exact⟨by rw[h.cell hl];exact n0,by rw[h.cell hl];exact n1,by rw[h.cell hl];exact n2,by rw[h.cell hl];exact n3,h⟩
theorem BN{α:Type}(p:α->Bool)(l:List α)(k:Nat)(x:α)(h:l[k]?=MI x)(hp:p x=Nb):l.all p=false:=by
 rw[Bool.eq_false_iff];intro ha;rw[List.all_eq_true]at ha;have:=ha x (Nu h);rw[hp]at this;cases this
theorem zU(e:Ev)(fs:List ay)(w:MO)(hf:dY e.kind=MI fs) :
  Ni MK 61 #[Ny #[MF ME e.kind,MF ME e.key,MF ME e.slot,MF ME e.gen,M3 e.good,MF ME e.req,MF ME e.be,MF ME e.wt]] w fun r w'=>r=MN (MF ME (gq e))/\MQ w.heap.size w w':=by
 have hlen:=sR hf;have HF:M6 (gq e=if fs.all e.GZ then(if e.GE fs then 0 else 3)else 2):=by unfold gq;rw[hf];exact rfl
 go_enter Tryz.func61,Tryz.ntmps61
 go_wp2_with fail
 refine(uo w.heap.size e fs _ (jK w _) hf).mono ?_;rintro r w0 ⟨v,rfl,hb,hown⟩;obtain⟨a,cap,rfl,hat⟩:=ro hown;have hE0:cI w0 w.heap.size e:=cI.below (jK w _) hb (by simp);have HH:M6 (dY e.kind=MI fs/\_/\_):=⟨hf,hown,hat⟩;clear hf hown hat
 go_wp2
 go_loopw [15] (fun i wr=>∃k:Nat,k<=fs.length/\i=MF ME k/\(fs.take k).all e.GZ=Nw/\MQ w0.heap.size w0 wr) (fun i _=>fs.length-(On i).toNat)
 case atStart=>exact⟨0,Nx _,rfl,rfl,MY _ _⟩
 case round =>
  obtain⟨k,hk,rfl,hall,hg⟩:=hrel;have hbel:MQ w.heap.size w wr:=(((MY w.heap.size w).alloc (MV _) _).trans (hb.mono (by simp))).trans (hg.mono (by have:=hb.size;simp at this;omega));have HA:M6 (_/\_):=⟨hall,hbel⟩;clear hall hbel
  by_cases hlt:k<fs.length
  ·have hfk:fs[k]?=MI fs[k]:=MR hlt
   have hto:fs.take (k+1)=fs.take k++[fs[k]]:=M9 hlt;have hoff:=sH HH.out.1 fs[k] (Nk hlt);generalize fs[k]=f at *;obtain⟨g,rfl,g1,g2,c0,c1,c2,c3⟩:=HH.out.2.2 k f hfk;have hgr:∀o,wr.cell? ⟨g,o,MH⟩=w0.cell? ⟨g,o,MH⟩:=fun o=>hg.cell (p:=⟨g,o,MH⟩) g2
   rw[<-hgr]at c0 c1 c2 c3;have HT:M6 (_/\_):=⟨hfk,hto⟩;clear hfk hto hgr;have hsz:=hg.size;have hEl:=hE0.lt;have hE:=hE0.below hg hEl;have hE':∀x,cI (wr.alloc x) w.heap.size e:=fun x=>by unfold cI;rw[Ov _ _ _ (by omega)];exact hE
   go_wp2_with fail
   obtain⟨W,hW⟩:∃W,W=wr.alloc (MP #[Na (pp w.heap.size f),Na (pq w.heap.size f),MF ME f.lo,MF ME f.hi] 164):=⟨_,rfl⟩;have n0:W.cell? ⟨wr.heap.size,0,MH⟩=MI (Na (pp w.heap.size f)):=by rw[hW];simp
   have n1:W.cell? ⟨wr.heap.size,1,MH⟩=MI (Na (pq w.heap.size f)):=by rw[hW];simp
   have n2:W.cell? ⟨wr.heap.size,2,MH⟩=MI (MF ME f.lo):=by rw[hW];simp
   have n3:W.cell? ⟨wr.heap.size,3,MH⟩=MI (MF ME f.hi):=by rw[hW];simp
   have hEW:cI W w.heap.size e:=by rw[hW];exact hE' _
   have hBW:MQ w0.heap.size w0 W:=by rw[hW];exact hg.alloc hsz _
   rw[<-hW];have HHW:M6 (_/\_):=⟨hW,hE'⟩;clear hW hE';have HI:M6 (e.GZ f=Nn (f.lo<=e.num f.off/\e.num f.off<=f.hi)):=rfl
   by_cases hin:f.lo<=e.num f.off/\e.num f.off<=f.hi
   ·go_region_held3 (fun w'=>w'.cell? ⟨wr.heap.size,0,MH⟩=MI (Na (pp w.heap.size f))/\w'.cell? ⟨wr.heap.size,1,MH⟩=MI (Na (pq w.heap.size f))/\w'.cell? ⟨wr.heap.size,2,MH⟩=MI (MF ME f.lo)/\w'.cell? ⟨wr.heap.size,3,MH⟩=MI (MF ME f.hi)/\MQ W.heap.size W w') (first|exact jV n0 n1 n2 n3 ((MY _ _).drew)|exact jV n0 n1 n2 n3 (nl (dt hb1) hb2)|exact jV n0 n1 n2 n3 (dt hb1))
     (first|(go_at_call 76;refine(vC w.heap.size f e W.drew hEW hoff.1 hoff.2).mono ?_;rintro r w1 ⟨rfl,hb1⟩)|(go_at_call 75;refine(FF _ _ f.lo f.hi (e.num f.off) w1 hin.1 hin.2).mono ?_;rintro r w2 ⟨rfl,hb2⟩))
    go_wp2
    go_roundw
    case rel =>
     refine⟨k+1,by omega,by go_num,?_,hBW.trans ((nl (dt hb1) hb2).mono hBW.size)⟩;rw[HT.out.2,List.all_append,HA.out.1];simp[HI.out,hin]
    case measure=>simp[On];omega
   ·go_region_held3 (fun w'=>w'.cell? ⟨wr.heap.size,0,MH⟩=MI (Na (pp w.heap.size f))/\w'.cell? ⟨wr.heap.size,1,MH⟩=MI (Na (pq w.heap.size f))/\w'.cell? ⟨wr.heap.size,2,MH⟩=MI (MF ME f.lo)/\w'.cell? ⟨wr.heap.size,3,MH⟩=MI (MF ME f.hi)/\MQ W.heap.size W w') (first|exact jV n0 n1 n2 n3 ((MY _ _).drew)|exact jV n0 n1 n2 n3 (nl (dt hb1) hb2)|exact jV n0 n1 n2 n3 (dt hb1))
     (first|(go_at_call 76;refine(vC w.heap.size f e W.drew hEW hoff.1 hoff.2).mono ?_;rintro r w1 ⟨rfl,hb1⟩)|(go_at_call 75;refine(xA _ _ f.lo f.hi (e.num f.off) w1 hin).mono ?_;rintro r w2 ⟨rfl,hb2⟩))
    go_wp2;go_ret;refine⟨?_,?_⟩
    ·rw[HF.out,BN _ fs k f HT.out.1 (by rw[HI.out];simpa using hin)];rfl
    ·exact HA.out.2.trans ((((MY wr.heap.size wr).alloc (MV _) _).trans (HHW.out.1 ▸ (nl (dt hb1) hb2).mono (by rw[HHW.out.1];simp))).mono HA.out.2.size)
  ·have:k=fs.length:=by omega
   subst this;rw[NT]at HA;have HF':=HF.out;rw[HA.out.1]at HF';have HF2:M6 (gq e=if e.GE fs then 0 else 3):=HF';clear HF' HF;have hE:=hE0.below hg hE0.lt;obtain⟨e0,e1,e2,e3,e4,e5,e6,e7⟩:=hE.Jl
   go_wp2_with fail
   refine(zf e fs _ HH.out.1).mono ?_;rintro r w1 ⟨rfl,hb1⟩;have HB:M6 (MQ w.heap.size w w1):=HA.out.2.trans (hb1.mono HA.out.2.size);cases hcl:e.GE fs
   all_goals
    rw[hcl]at HF2;go_wp2;go_ret;exact⟨by rw[HF2.out];rfl,HB.out⟩
theorem Bj(e:Ev)(w:MO)(hf:e.kind<1\/7<e.kind)(hn:dY e.kind=MH) :
  Ni MK 61 #[Ny #[MF ME e.kind,MF ME e.key,MF ME e.slot,MF ME e.gen,M3 e.good,MF ME e.req,MF ME e.be,MF ME e.wt]] w fun r w'=>r=MN (MF ME (gq e))/\MQ w.heap.size w w':=by
 have HF:M6 (gq e=5):=by unfold gq;rw[hn];exact rfl
 go_enter Tryz.func61,Tryz.ntmps61
 go_wp2_with fail
 refine(A5 w.heap.size e _ (jK w _) hf).mono ?_;rintro r w0 ⟨rfl,rfl⟩;go_wp2;go_ret;exact⟨by rw[HF.out];rfl,(MY _ _).alloc (MV _) _⟩
theorem EZ(e:Ev)(w:MO) :
  Ni MK 61 #[Ny #[MF ME e.kind,MF ME e.key,MF ME e.slot,MF ME e.gen,M3 e.good,MF ME e.req,MF ME e.be,MF ME e.wt]] w fun r w'=>r=MN (MF ME (gq e))/\MQ w.heap.size w w':=by
 cases h:dY e.kind with
 |some fs=>exact zU e fs w h
 |none =>
  refine Bj e w ?_ h;rcases lW e.kind with⟨h1,_⟩|h1|h1|h1|h1|h1|h1|h1
  ·exact h1
  all_goals (rw[h1]at h;simp[dY]at h)
end Go.Proofs.YtlnbhjdhcmgljaaGreatDoor.Q
