/-
  Contracts of the layers and of core, part 10. Conditions: as each theorem says.
-/
import Derived.Test.YtalhkllgnlejbaaGreatDoorQ0
namespace Go.Proofs.YtalhkllgnlejbaaGreatDoor.Q
set_option linter.unusedVariables false
set_option linter.unusedSimpArgs false
set_option maxHeartbeats 16000000
set_option maxRecDepth 100000
open Go.RowKit
attribute [local go_sem ↓] Go.wp_at_zero Go.wp_at_succ
variable {b base:Nat}{a w:World}
structure Ev where
 kind:Int
 key:Int
 slot:Int
 gen:Int
 good:Bool
 req:Int
 be:Int
 wt:Int
 deriving DecidableEq
variable {e:Ev}
def Ev.Hi:Ev:=⟨0,0,0,0,false,0,0,0⟩
def Ev.num(e:Ev)(o:Nat):Int :=
 match o with
 |1=>e.key
 |2=>e.slot
 |3=>e.gen
 |4=>if e.good then 1 else 0
 |5=>e.req
 |6=>e.be
 |7=>e.wt
 |_=>0
def Ev.Gd(e:Ev)(o:Nat)(n:Int):Ev :=
 match o with
 |1=>{e with key:=n}
 |2=>{e with slot:=n}
 |3=>{e with gen:=n}
 |4=>{e with good:=n == 1}
 |5=>{e with req:=n}
 |6=>{e with be:=n}
 |7=>{e with wt:=n}
 |_=>e
structure ay where
 off:Nat
 lo:Int
 hi:Int
variable {fs:List ay}
def dY(k:Int):Option (List ay):=
 if k=1 then some [⟨1,0,4294967295⟩]
 else if k=2 then some [⟨2,0,39⟩,⟨3,0,1048576⟩]
 else if k=3 then some [⟨2,0,39⟩,⟨3,0,1048576⟩]
 else if k=4 then some [⟨2,0,39⟩,⟨3,0,1048576⟩,⟨4,0,1⟩]
 else if k=5 then some [⟨5,0,1048576⟩,⟨6,0,11⟩,⟨7,1,8⟩]
 else if k=6 then some [⟨5,0,1048576⟩,⟨6,0,11⟩]
 else if k=7 then some []
 else none
theorem lW(k:Int):(k<1\/7<k)/\dY k=none\/k=1\/k=2\/k=3\/k=4\/k=5\/k=6\/k=7:=by
 by_cases h:k<1\/7<k
 ·refine .inl ⟨h,?_⟩
  unfold dY;rw[if_neg (by omega),if_neg (by omega),if_neg (by omega),if_neg (by omega),if_neg (by omega),if_neg (by omega),if_neg (by omega)]
 ·omega
def Ev.GZ(e:Ev)(f:ay):Bool:=decide (f.lo<=e.num f.off/\e.num f.off<=f.hi)
def Ev.Gc(e:Ev)(fs:List ay):Ev:=fs.foldl (fun e f=>e.Gd f.off 0) e
def Ev.GE(e:Ev)(fs:List ay):Bool:=decide ({e.Gc fs with kind:=0}=Ev.Hi)
def gq(e:Ev):Int :=
 match dY e.kind with
 |none=>5
 |some fs=>if fs.all e.GZ then(if e.GE fs then 0 else 3)else 2
theorem FF(x y:Value)(lo hi n:Int)(w:World)(h1:lo<=n)(h2:n<=hi) :
  Calls Tryz.prog 55 #[.agg #[x,y,.int .i64 lo,.int .i64 hi],.int .i64 n] w fun e w'=>e=.returned (.bool true)/\Below w.heap.size w w':=by
 go_enter Tryz.func55,Tryz.ntmps55;go_wp2;go_ret;exact⟨rfl,(Below.refl _ _).alloc (Nat.le_refl _) _⟩
theorem xA(x y:Value)(lo hi n:Int)(w:World)(h1:¬(lo<=n/\n<=hi)) :
  Calls Tryz.prog 55 #[.agg #[x,y,.int .i64 lo,.int .i64 hi],.int .i64 n] w fun e w'=>e=.returned (.bool false)/\Below w.heap.size w w':=by
 by_cases h2:lo<=n
 ·have h3:¬n<=hi:=by omega
  go_enter Tryz.func55,Tryz.ntmps55;go_wp2;go_ret;exact⟨rfl,(Below.refl _ _).alloc (Nat.le_refl _) _⟩
 ·have h3:decide (lo<=n)=false:=by simpa using h2
  go_enter Tryz.func55,Tryz.ntmps55;go_wp2;go_ret;exact⟨rfl,(Below.refl _ _).alloc (Nat.le_refl _) _⟩
theorem Dc(b o:Nat)(lo hi n:Int)(w:World)(h:w.cell? ⟨b,o,none⟩=some (.int .i64 n)) :
  Calls Tryz.prog 56 #[.agg #[.pointer (some ⟨b,o,none⟩),.pointer none,.int .i64 lo,.int .i64 hi]] w fun e w'=>e=.returned (.int .i64 n)/\Below w.heap.size w w':=by
 have hb:b<w.heap.size:=World.block_lt_of_cell? w _ h;go_enter Tryz.func56,Tryz.ntmps56;go_wp2;go_ret;exact⟨rfl,(Below.refl _ _).alloc (Nat.le_refl _) _⟩
theorem z7(b o:Nat)(lo hi:Int)(t:Bool)(w:World)(h:w.cell? ⟨b,o,none⟩=some (.bool t)) :
  Calls Tryz.prog 56 #[.agg #[.pointer none,.pointer (some ⟨b,o,none⟩),.int .i64 lo,.int .i64 hi]] w fun e w'=>e=.returned (.int .i64 (if t then 1 else 0))/\Below w.heap.size w w':=by
 have hb:b<w.heap.size:=World.block_lt_of_cell? w _ h;cases t
 all_goals
  go_enter Tryz.func56,Tryz.ntmps56;go_wp2;go_ret;exact⟨rfl,(Below.refl _ _).alloc (Nat.le_refl _) _⟩
theorem D3(b o:Nat)(lo hi n:Int)(v:Value)(w:World)(h:w.cell? ⟨b,o,none⟩=some v)(hf:w.frozen? ⟨b,o,none⟩=false) :
  Calls Tryz.prog 88 #[.agg #[.pointer (some ⟨b,o,none⟩),.pointer none,.int .i64 lo,.int .i64 hi],.int .i64 n] w fun e w'=>e=.returned (.tuple #[]) /\
   w'=(w.setCell ⟨b,o,none⟩ (.int .i64 n)).alloc (.cells #[.pointer (some ⟨b,o,none⟩),.pointer none,.int .i64 lo,.int .i64 hi] 131):=by
 have hb:b<w.heap.size:=World.block_lt_of_cell? w _ h;go_enter Tryz.func88,Tryz.ntmps88;go_wp2
 first|go_end0|(refine bodyPost_ret (v:=.tuple #[]) (by simp[results,Tryz.results88,go_sem]) rfl ?_)
 exact⟨rfl,rfl⟩
theorem wR(b o:Nat)(lo hi n:Int)(v:Value)(w:World)(h:w.cell? ⟨b,o,none⟩=some v)(hf:w.frozen? ⟨b,o,none⟩=false) :
  Calls Tryz.prog 88 #[.agg #[.pointer none,.pointer (some ⟨b,o,none⟩),.int .i64 lo,.int .i64 hi],.int .i64 n] w fun e w'=>e=.returned (.tuple #[]) /\
   w'=(w.setCell ⟨b,o,none⟩ (.bool (n == 1))).alloc (.cells #[.pointer none,.pointer (some ⟨b,o,none⟩),.int .i64 lo,.int .i64 hi] 131):=by
 have hb:b<w.heap.size:=World.block_lt_of_cell? w _ h;go_enter Tryz.func88,Tryz.ntmps88;go_wp2
 go_end0
 exact⟨rfl,rfl⟩
def la(e:Ev):Array Value:=#[.int .i64 e.kind,.int .i64 e.key,.int .i64 e.slot,.int .i64 e.gen,.bool e.good,.int .i64 e.req,.int .i64 e.be,.int .i64 e.wt]
def cI(w:World)(b:Nat)(e:Ev):Prop:=w.heap[b]?=some (.cells (la e) 59)
theorem cI.lt(h:cI w b e):b<w.heap.size:=by
 rcases Nat.lt_or_ge b w.heap.size with hlt|hge
 ·exact hlt
 ·unfold cI at h;rw[Array.getElem?_eq_none hge]at h;cases h
theorem cI.F7(h:cI w b e)(o:Nat):w.cell? ⟨b,o,none⟩=(la e)[o]?:=by
 unfold cI at h;simp[World.cell?,h]
theorem cI.Gu(h:cI w b e)(o:Nat):w.frozen? ⟨b,o,none⟩=false:=by
 unfold cI at h;simp[World.frozen?,h]
theorem cI.below{w':World}{B:Nat}(h:cI w b e)(hb:Below B w w')(hlt:b<B):cI w' b e:=by
 unfold cI;rw[hb.block b hlt];exact h
def pp(b:Nat)(f:ay):Option Addr:=if f.off=4 then none else some ⟨b,f.off,none⟩
def pq(b:Nat)(f:ay):Option Addr:=if f.off=4 then some ⟨b,f.off,none⟩else none
def gN(b:Nat)(f:ay):List Value:=[.pointer (pp b f),.pointer (pq b f),.int .i64 f.lo,.int .i64 f.hi]
theorem vC(b:Nat)(f:ay)(e:Ev)(w:World)(hE:cI w b e)(h1:1<=f.off)(h7:f.off<=7) :
  Calls Tryz.prog 56 #[.agg #[.pointer (pp b f),.pointer (pq b f),.int .i64 f.lo,.int .i64 f.hi]] w fun r w'=>r=.returned (.int .i64 (e.num f.off))/\Below w.heap.size w w':=by
 have hc:=hE.F7 f.off;obtain⟨o,lo,hi⟩:=f
 dsimp only at *
 obtain rfl|rfl|rfl|rfl|rfl|rfl|rfl:o=1\/o=2\/o=3\/o=4\/o=5\/o=6\/o=7:=by omega
 case inr.inr.inr.inl=>exact z7 b 4 lo hi e.good w hc
 all_goals exact Dc b _ lo hi _ w hc
theorem uJ(o:Obj)(a:Addr)(v:Value):w.grownBy ((w.setCell a v).alloc o) (some a.block):=by
 have hs:(w.setCell a v).heap.size=w.heap.size:=by simp[World.setCell]
 refine⟨rfl,rfl,rfl,?_,fun k hk hne=>?_⟩
 ·show w.heap.size<=((w.setCell a v).heap.push o).size
  rw[Array.size_push,hs];omega
 ·rw[Below.heap_alloc _ _ _ (by rw[hs];exact hk),Below.heap_setCell _ _ _ _ (fun h=>hne (by rw[h]))]
theorem vJ{e':Ev}(h:cI w b e)(x:Obj)(o:Nat)(v:Value)(hv:(la e).setIfInBounds o v=la e'):cI ((w.setCell ⟨b,o,none⟩ v).alloc x) b e':=by
 have hs:(w.setCell ⟨b,o,none⟩ v).heap.size=w.heap.size:=by simp[World.setCell]
 have h':w.heap[b]?=some (.cells (la e) 59):=h;unfold cI;rw[Below.heap_alloc _ _ _ (by rw[hs];exact h.lt)];simp only[World.setCell,Array.getElem?_modify,h',if_true,Option.map_some];simp[hv]
theorem yg(b:Nat)(f:ay)(e:Ev)(n:Int)(w:World)(hE:cI w b e)(h1:1<=f.off)(h7:f.off<=7) :
  Calls Tryz.prog 88 #[.agg #[.pointer (pp b f),.pointer (pq b f),.int .i64 f.lo,.int .i64 f.hi],.int .i64 n] w fun r w'=>r=.returned (.tuple #[])/\cI w' b (e.Gd f.off n)/\w.grownBy w' (some b):=by
 have hc:=hE.F7 f.off;have hf:=hE.Gu f.off;obtain⟨o,lo,hi⟩:=f
 dsimp only at *
 obtain rfl|rfl|rfl|rfl|rfl|rfl|rfl:o=1\/o=2\/o=3\/o=4\/o=5\/o=6\/o=7:=by omega
 case inr.inr.inr.inl =>
  refine(wR b 4 lo hi n _ w hc hf).mono ?_;rintro r w' ⟨rfl,rfl⟩;exact⟨rfl,vJ hE _ _ _ rfl,uJ _ _ _⟩
 all_goals
  refine(D3 b _ lo hi n _ w hc hf).mono ?_;rintro r w' ⟨rfl,rfl⟩;exact⟨rfl,vJ hE _ _ _ rfl,uJ _ _ _⟩
theorem jK(w:World)(o:Obj):(w.alloc o).heap[w.heap.size]?=some o:=by show(w.heap.push o)[w.heap.size]?=some o;simp
theorem qs(b:Nat)(w:World) :
  Calls Tryz.prog 86 #[.pointer (some ⟨b,0,none⟩)] w fun e w'=>e=.returned (.slice (some ⟨w.heap.size,0,none⟩) 2 2) /\
   w'=(w.alloc (.cells #[.pointer (some ⟨b,2,none⟩),.pointer none,.int .i64 0,.int .i64 39,.pointer (some ⟨b,3,none⟩),.pointer none,.int .i64 0,.int .i64 1048576] 131)).drew:=by
 go_enter Tryz.func86,Tryz.ntmps86;go_wp2
 go_region
 go_wp2;go_ret;exact⟨rfl,rfl⟩
theorem uS(b:Nat)(w:World) :
  Calls Tryz.prog 87 #[.pointer (some ⟨b,0,none⟩)] w fun e w'=>e=.returned (.slice (some ⟨w.heap.size,0,none⟩) 2 2) /\
   w'=(w.alloc (.cells #[.pointer (some ⟨b,5,none⟩),.pointer none,.int .i64 0,.int .i64 1048576,.pointer (some ⟨b,6,none⟩),.pointer none,.int .i64 0,.int .i64 11] 131)).drew:=by
 go_enter Tryz.func87,Tryz.ntmps87;go_wp2
 go_region
 go_wp2;go_ret;exact⟨rfl,rfl⟩
theorem nB{n:Nat}{e:TypeId}{size:Nat}(cs:Array Value)(hb:base<=w.heap.size)(hm:n<=maxLen)(hs:cs.size=n*size):(w.alloc (.cells cs e)).ownsRow base e size (.slice (some ⟨w.heap.size,0,none⟩) n n) n cs.toList :=
 ⟨by simp[hs],.inr ⟨w.heap.size,n,cs,rfl,hb,jK w _,Nat.le_refl _,hm,hs,by rw[List.take_of_length_le (by simp[hs])]⟩⟩
def iS(b:Nat)(fs:List ay)(w:World)(r:Ending)(w':World):Prop :=
 ∃v,r=.returned (.tuple #[v,.bool true])/\Below w.heap.size w w'/\w'.ownsRow w.heap.size 131 4 v fs.length (fs.flatMap (gN b))
theorem A5(b:Nat)(e:Ev)(w:World)(hE:cI w b e)(hk:e.kind<1\/7<e.kind) :
  Calls Tryz.prog 54 #[.pointer (some ⟨b,0,none⟩)] w fun r w'=>r=.returned (.tuple #[.slice none 0 0,.bool false])/\w'=w:=by
 have hc:w.cell? ⟨b,0,none⟩=some (.int .i64 e.kind):=hE.F7 0;generalize e.kind=k at *;have h1:(k == 1)=false:=beq_eq_false_iff_ne.2 (by omega);have h2:(k == 2)=false:=beq_eq_false_iff_ne.2 (by omega);have h3:(k == 3)=false:=beq_eq_false_iff_ne.2 (by omega);have h4:(k == 4)=false:=beq_eq_false_iff_ne.2 (by omega);have h5:(k == 5)=false:=beq_eq_false_iff_ne.2 (by omega);have h6:(k == 6)=false:=beq_eq_false_iff_ne.2 (by omega);have h7:(k == 7)=false:=beq_eq_false_iff_ne.2 (by omega);clear hk;go_enter Tryz.func54,Tryz.ntmps54;go_wp2
 go_ret2
 exact⟨rfl,rfl⟩
theorem EL(b:Nat)(w:World)(hc:w.cell? ⟨b,0,none⟩=some (.int .i64 1)) :
  Calls Tryz.prog 54 #[.pointer (some ⟨b,0,none⟩)] w (iS b [⟨1,0,4294967295⟩] w):=by
 go_enter Tryz.func54,Tryz.ntmps54;go_wp2
 go_ret2
 exact⟨_,rfl,(Below.refl _ _).alloc (Nat.le_refl _) _,nB _ (Nat.le_refl _) (by unfold maxLen;omega) rfl⟩
theorem yF(b:Nat)(w:World)(hc:w.cell? ⟨b,0,none⟩=some (.int .i64 2)) :
  Calls Tryz.prog 54 #[.pointer (some ⟨b,0,none⟩)] w (iS b [⟨2,0,39⟩,⟨3,0,1048576⟩] w):=by
 go_enter Tryz.func54,Tryz.ntmps54
 go_wp2_with fail
 refine(qs b _).mono ?_;rintro r w' ⟨rfl,rfl⟩;go_wp2
 go_ret2
 exact⟨_,rfl,((Below.refl _ _).alloc (Nat.le_refl _) _).drew,(nB _ (Nat.le_refl _) (by unfold maxLen;omega) rfl).drew⟩
theorem rt(need old:Nat)(e:TypeId)(t:Nat)(h:need<=maxLen):need<=(Question.appendCap need old e).cut t/\(Question.appendCap need old e).cut t<=maxLen:=by
 unfold maxLen at *;simp only[Question.cut];have:t % (2 ^ 63-need)<2 ^ 63-need:=Nat.mod_lt _ (by omega);omega
theorem sm{n cap g:Nat}{e:TypeId}{size:Nat}(x y z:Array Value)(hg:w.heap.size=g)(hb:base<=w.heap.size)(hn:n<=cap)(hm:cap<=maxLen)(hs:x.size+y.size=n*size)(hz:z.size=size):
  (w.alloc (.cells (x++(y++Builtin.zeroCells z (cap-n))) e)).ownsRow base e size (.slice (some ⟨g,0,none⟩) n cap) n (x.toList++y.toList):=by
 subst hg;refine⟨by simp[hs],.inr ⟨w.heap.size,cap,_,rfl,hb,jK w _,hn,hm,?_,?_⟩⟩
 ·rw[Array.size_append,Array.size_append,Go.size_zeroCells,hz,<-Nat.add_assoc,hs,<-Nat.add_mul]
  congr 1;omega
 ·rw[<-Array.append_assoc,Array.toList_append,Array.toList_append]
  exact List.take_left' (by simp[hs])
theorem Ba(b:Nat)(w:World)(hc:w.cell? ⟨b,0,none⟩=some (.int .i64 4)) :
  Calls Tryz.prog 54 #[.pointer (some ⟨b,0,none⟩)] w (iS b [⟨2,0,39⟩,⟨3,0,1048576⟩,⟨4,0,1⟩] w):=by
 go_enter Tryz.func54,Tryz.ntmps54
 go_wp2_with fail
 go_region_held3 (fun w'=>True) (go_keep) (first|(go_at_call 86;refine(qs b _).mono ?_;rintro r w' ⟨rfl,rfl⟩))
 all_goals
  go_wp2
  go_ret2
  obtain⟨c1,c2⟩:=rt 3 2 131 (w.tape (w.drawn+1+1) (Question.appendCap 3 2 131)) (by unfold maxLen;omega);generalize (Question.appendCap 3 2 131).cut (w.tape (w.drawn+1+1) (Question.appendCap 3 2 131))=c at *;refine⟨_,rfl,?_,?_⟩
  ·exact((((((Below.refl _ _).alloc (Nat.le_refl _) _).alloc (by simp) _).alloc (by simp;omega) _).drew).drew).drew
  ·exact World.ownsRow.drew (World.ownsRow.drew (World.ownsRow.drew (sm (size:=4) #[.pointer (some ⟨b,2,none⟩),.pointer none,.int .i64 0,.int .i64 39,.pointer (some ⟨b,3,none⟩),.pointer none,.int .i64 0,.int .i64 1048576] #[.pointer none,.pointer (some ⟨b,4,none⟩),.int .i64 0,.int .i64 1] #[.pointer none,.pointer none,.int .i64 0,.int .i64 0] (by simp) (by simp;omega) c1 c2 rfl rfl)))
theorem D8(b:Nat)(w:World)(hc:w.cell? ⟨b,0,none⟩=some (.int .i64 5)) :
  Calls Tryz.prog 54 #[.pointer (some ⟨b,0,none⟩)] w (iS b [⟨5,0,1048576⟩,⟨6,0,11⟩,⟨7,1,8⟩] w):=by
 go_enter Tryz.func54,Tryz.ntmps54
 go_wp2_with fail
 go_region_held3 (fun w'=>True) (go_keep) (first|(go_at_call 87;refine(uS b _).mono ?_;rintro r w' ⟨rfl,rfl⟩))
 all_goals
  go_wp2
  go_ret2
  obtain⟨c1,c2⟩:=rt 3 2 131 (w.tape (w.drawn+1+1) (Question.appendCap 3 2 131)) (by unfold maxLen;omega);generalize (Question.appendCap 3 2 131).cut (w.tape (w.drawn+1+1) (Question.appendCap 3 2 131))=c at *;refine⟨_,rfl,?_,?_⟩
  ·exact((((((Below.refl _ _).alloc (Nat.le_refl _) _).alloc (by simp) _).alloc (by simp;omega) _).drew).drew).drew
  ·exact World.ownsRow.drew (World.ownsRow.drew (World.ownsRow.drew (sm (size:=4) #[.pointer (some ⟨b,5,none⟩),.pointer none,.int .i64 0,.int .i64 1048576,.pointer (some ⟨b,6,none⟩),.pointer none,.int .i64 0,.int .i64 11] #[.pointer (some ⟨b,7,none⟩),.pointer none,.int .i64 1,.int .i64 8] #[.pointer none,.pointer none,.int .i64 0,.int .i64 0] (by simp) (by simp;omega) c1 c2 rfl rfl)))
theorem Bm(b:Nat)(w:World)(hc:w.cell? ⟨b,0,none⟩=some (.int .i64 3)) :
  Calls Tryz.prog 54 #[.pointer (some ⟨b,0,none⟩)] w (iS b [⟨2,0,39⟩,⟨3,0,1048576⟩] w):=by
 go_enter Tryz.func54,Tryz.ntmps54
 go_wp2_with fail
 refine(qs b _).mono ?_;rintro r w' ⟨rfl,rfl⟩;go_wp2
 go_ret2
 exact⟨_,rfl,((Below.refl _ _).alloc (Nat.le_refl _) _).drew,(nB _ (Nat.le_refl _) (by unfold maxLen;omega) rfl).drew⟩
theorem DV(b:Nat)(w:World)(hc:w.cell? ⟨b,0,none⟩=some (.int .i64 6)) :
  Calls Tryz.prog 54 #[.pointer (some ⟨b,0,none⟩)] w (iS b [⟨5,0,1048576⟩,⟨6,0,11⟩] w):=by
 go_enter Tryz.func54,Tryz.ntmps54
 go_wp2_with fail
 refine(uS b _).mono ?_;rintro r w' ⟨rfl,rfl⟩;go_wp2
 go_ret2
 exact⟨_,rfl,((Below.refl _ _).alloc (Nat.le_refl _) _).drew,(nB _ (Nat.le_refl _) (by unfold maxLen;omega) rfl).drew⟩
theorem BB(b:Nat)(w:World)(hc:w.cell? ⟨b,0,none⟩=some (.int .i64 7)) :
  Calls Tryz.prog 54 #[.pointer (some ⟨b,0,none⟩)] w (iS b [] w):=by
 go_enter Tryz.func54,Tryz.ntmps54;go_wp2
 go_ret2
 exact⟨_,rfl,Below.refl _ _,World.ownsRow_nil _ _ _ _⟩
theorem uo(b:Nat)(e:Ev)(fs:List ay)(w:World)(hE:cI w b e)(hf:dY e.kind=some fs) :
  Calls Tryz.prog 54 #[.pointer (some ⟨b,0,none⟩)] w (iS b fs w):=by
 have hc:w.cell? ⟨b,0,none⟩=some (.int .i64 e.kind):=hE.F7 0;generalize e.kind=k at *;rcases lW k with⟨_,h⟩|rfl|rfl|rfl|rfl|rfl|rfl|rfl
 ·rw[h]at hf;cases hf
 all_goals (unfold dY at hf;simp at hf;subst hf)
 ·exact EL b w hc
 ·exact yF b w hc
 ·exact Bm b w hc
 ·exact Ba b w hc
 ·exact D8 b w hc
 ·exact DV b w hc
 ·exact BB b w hc
theorem rE(b:Nat):∀(fs:List ay) (k:Nat) (f:ay),fs[k]?=some f->∀j,j<4->(fs.flatMap (gN b))[k*4+j]?=(gN b f)[j]?
 | [],k,f,h,j,hj=>by simp at h
 |x::fs,0,f,h,j,hj=>by
  simp at h;subst h;rw[List.flatMap_cons,List.getElem?_append_left (by simp[gN];omega)];simp
 |x::fs,k+1,f,h,j,hj=>by
  simp at h;rw[List.flatMap_cons,List.getElem?_append_right (by simp[gN];omega)];rw[show(k+1)*4+j-(gN b x).length=k*4+j by simp[gN];omega];exact rE b fs k f h j hj
theorem DC{v:Value}(h:w.ownsRow base 131 4 v fs.length (fs.flatMap (gN b))):
  (v=.slice none 0 0/\fs=[])\/∃g cap,v=.slice (some ⟨g,0,none⟩) fs.length cap/\base<=g/\g<w.heap.size /\
   ∀k f,fs[k]?=some f->w.cell? ⟨g,k*4,none⟩=some (.pointer (pp b f))/\w.cell? ⟨g,k*4+1,none⟩=some (.pointer (pq b f))/\w.cell? ⟨g,k*4+2,none⟩=some (.int .i64 f.lo)/\w.cell? ⟨g,k*4+3,none⟩=some (.int .i64 f.hi):=by
 obtain⟨hl,⟨rfl,hn⟩|⟨g,cap,cur,rfl,hb,hg,hn,hm,hs,ht⟩⟩:=h
 ·exact .inl ⟨rfl,List.length_eq_zero_iff.1 hn⟩
 ·refine .inr ⟨g,cap,rfl,hb,?_,fun k f hf=>?_⟩
  ·rcases Nat.lt_or_ge g w.heap.size with hlt|hge
   ·exact hlt
   ·rw[Array.getElem?_eq_none hge]at hg;cases hg
  ·have hk:k<fs.length:=by
    rcases Nat.lt_or_ge k fs.length with h|h
    ·exact h
    ·rw[List.getElem?_eq_none h]at hf;cases hf
   have key:∀j,j<4->w.cell? ⟨g,k*4+j,none⟩=(gN b f)[j]?:=by
    intro j hj;rw[<-rE b fs k f hf j hj,<-ht,List.getElem?_take_of_lt (by omega)];simp[World.cell?,hg]
   exact⟨key 0 (by omega),key 1 (by omega),key 2 (by omega),key 3 (by omega)⟩
theorem sH{k:Int}(h:dY k=some fs):∀f,f∈fs->1<=f.off/\f.off<=7:=by
 rcases lW k with⟨_,h'⟩|rfl|rfl|rfl|rfl|rfl|rfl|rfl
 ·rw[h']at h;cases h
 all_goals (unfold dY at h;simp at h;subst h;simp)
theorem ro{v:Value}(h:w.ownsRow base 131 4 v fs.length (fs.flatMap (gN b))):
  ∃a cap,v=.slice a fs.length cap/\∀k f,fs[k]?=some f->∃g,a=some ⟨g,0,none⟩/\base<=g/\g<w.heap.size /\
   w.cell? ⟨g,k*4,none⟩=some (.pointer (pp b f))/\w.cell? ⟨g,k*4+1,none⟩=some (.pointer (pq b f))/\w.cell? ⟨g,k*4+2,none⟩=some (.int .i64 f.lo)/\w.cell? ⟨g,k*4+3,none⟩=some (.int .i64 f.hi):=by
 rcases DC h with⟨rfl,rfl⟩|⟨g,cap,rfl,h1,h2,h3⟩
 ·exact⟨none,0,rfl,fun k f hf=>by simp at hf⟩
 ·exact⟨_,cap,rfl,fun k f hf=>⟨g,rfl,h1,h2,h3 k f hf⟩⟩
theorem uU{b c:World}{row:Option Nat}(h:a.grownBy b row)(k:b.grownBy c row):a.grownBy c row :=
 ⟨k.os.trans h.os,k.tape.trans h.tape,k.output.trans h.output,Nat.le_trans h.size k.size,fun i hi hne=>(k.block i (Nat.lt_of_lt_of_le hi h.size) hne).trans (h.block i hi hne)⟩
theorem xC{b:World}{row:Option Nat}(h:Below a.heap.size a b):a.grownBy b row :=
 ⟨h.os,h.tape,h.output,h.size,fun i hi _=>h.block i hi⟩
theorem sR{k:Int}(h:dY k=some fs):fs.length<=3:=by
 rcases lW k with⟨_,h'⟩|rfl|rfl|rfl|rfl|rfl|rfl|rfl
 ·rw[h']at h;cases h
 all_goals (unfold dY at h;simp at h;subst h;simp)
theorem zf(e:Ev)(fs:List ay)(w:World)(hf:dY e.kind=some fs) :
  Calls Tryz.prog 57 #[.agg #[.int .i64 e.kind,.int .i64 e.key,.int .i64 e.slot,.int .i64 e.gen,.bool e.good,.int .i64 e.req,.int .i64 e.be,.int .i64 e.wt]] w fun r w'=>r=.returned (.bool (!e.GE fs))/\Below w.heap.size w w':=by
 have hlen:=sR hf;go_enter Tryz.func57,Tryz.ntmps57
 go_wp2_with fail
 refine(uo w.heap.size e fs _ (jK w _) hf).mono ?_;rintro r w0 ⟨v,rfl,hb,hown⟩;obtain⟨a,cap,rfl,hat⟩:=ro hown;have hE0:cI w0 w.heap.size e:=cI.below (jK w _) hb (by simp);have HH:Hid (dY e.kind=some fs/\_/\_):=⟨hf,hown,hat⟩;clear hf hown hat
 go_wp2
 go_loopw [13] (fun i wr=>∃k:Nat,k<=fs.length/\i=.int .i64 k/\cI wr w.heap.size (e.Gc (fs.take k))/\w0.grownBy wr (some w.heap.size)) (fun i _=>fs.length-(intOf i).toNat)
 case atStart=>exact⟨0,Nat.zero_le _,rfl,hE0,⟨rfl,rfl,rfl,Nat.le_refl _,fun _ _ _=>rfl⟩⟩
 case round =>
  obtain⟨k,hk,rfl,hE,hg⟩:=hrel
  by_cases hlt:k<fs.length
  ·have hfk:fs[k]?=some fs[k]:=List.getElem?_eq_getElem hlt
   have hto:fs.take (k+1)=fs.take k++[fs[k]]:=List.take_succ_eq_append_getElem hlt;have hoff:=sH HH.out.1 fs[k] (List.getElem_mem hlt);generalize fs[k]=f at *;obtain⟨g,rfl,g1,g2,c0,c1,c2,c3⟩:=HH.out.2.2 k f hfk;have hgr:∀o,wr.cell? ⟨g,o,none⟩=w0.cell? ⟨g,o,none⟩:=fun o=>hg.cell_far ⟨g,o,none⟩ g2 (by simp at g1⊢;omega)
   rw[<-hgr]at c0 c1 c2 c3;have HT:Hid (_/\_):=⟨hfk,hto⟩;clear hfk hto hgr;have hsz:=hg.size;have hEl:=hE.lt;have hE':∀x,cI (wr.alloc x) w.heap.size (e.Gc (fs.take k)):=fun x=>by unfold cI;rw[Below.heap_alloc _ _ _ hEl];exact hE
   go_wp2_with fail
   refine(yg w.heap.size f _ 0 _ (hE' _) hoff.1 hoff.2).mono ?_;rintro r w1 ⟨rfl,hE1,hg1⟩;go_wp2
   go_roundw
   case rel=>exact⟨k+1,by omega,by go_num,by rw[HT.out.2,Ev.Gc,List.foldl_append];exact hE1,uU (uU hg (xC ((Below.refl _ _).alloc (Nat.le_refl _) _))) hg1⟩
   case measure=>simp[intOf];omega
  ·have:k=fs.length:=by omega
   subst this;rw[List.take_length]at hE;have hbel:Below w.heap.size w wr:=(((Below.refl w.heap.size w).alloc (Nat.le_refl _) _).trans (hb.mono (by simp))).grown hg (by have:=hb.size;simp at this;omega) (by intro k hk;cases hk;exact Nat.le_refl _);have hfz:=hE.Gu 0;have h0:wr.cell? ⟨w.heap.size,0,none⟩=some (.int .i64 (e.Gc fs).kind):=hE.F7 0;have h1:wr.cell? ⟨w.heap.size,1,none⟩=some (.int .i64 (e.Gc fs).key):=hE.F7 1;have h2:wr.cell? ⟨w.heap.size,2,none⟩=some (.int .i64 (e.Gc fs).slot):=hE.F7 2;have h3:wr.cell? ⟨w.heap.size,3,none⟩=some (.int .i64 (e.Gc fs).gen):=hE.F7 3;have h4:wr.cell? ⟨w.heap.size,4,none⟩=some (.bool (e.Gc fs).good):=hE.F7 4;have h5:wr.cell? ⟨w.heap.size,5,none⟩=some (.int .i64 (e.Gc fs).req):=hE.F7 5;have h6:wr.cell? ⟨w.heap.size,6,none⟩=some (.int .i64 (e.Gc fs).be):=hE.F7 6;have h7:wr.cell? ⟨w.heap.size,7,none⟩=some (.int .i64 (e.Gc fs).wt):=hE.F7 7;have HC:Hid (e.GE fs=decide ({e.Gc fs with kind:=0}=Ev.Hi)):=rfl;generalize e.Gc fs=c at *;go_wp2
   all_goals
    go_ret;refine⟨?_,hbel.setCell (Nat.le_refl _) _⟩;rw[HC.out];simp[Ev.Hi, *]
theorem cI.Jl(h:cI w b e):w.cell? ⟨b,0,none⟩=some (.int .i64 e.kind)/\w.cell? ⟨b,1,none⟩=some (.int .i64 e.key)/\w.cell? ⟨b,2,none⟩=some (.int .i64 e.slot)/\w.cell? ⟨b,3,none⟩=some (.int .i64 e.gen)/\w.cell? ⟨b,4,none⟩=some (.bool e.good)/\w.cell? ⟨b,5,none⟩=some (.int .i64 e.req)/\w.cell? ⟨b,6,none⟩=some (.int .i64 e.be)/\w.cell? ⟨b,7,none⟩=some (.int .i64 e.wt):=
 ⟨h.F7 0,h.F7 1,h.F7 2,h.F7 3,h.F7 4,h.F7 5,h.F7 6,h.F7 7⟩
theorem nl{W b:World}(h:Below W.heap.size W a)(k:Below a.heap.size a b):Below W.heap.size W b:=h.trans (k.mono h.size)
theorem jV{W:World}{B:Nat}{v0 v1 v2 v3:Value}(n0:W.cell? ⟨B,0,none⟩=some v0)(n1:W.cell? ⟨B,1,none⟩=some v1)(n2:W.cell? ⟨B,2,none⟩=some v2)(n3:W.cell? ⟨B,3,none⟩=some v3)(h:Below W.heap.size W a):
  a.cell? ⟨B,0,none⟩=some v0/\a.cell? ⟨B,1,none⟩=some v1/\a.cell? ⟨B,2,none⟩=some v2/\a.cell? ⟨B,3,none⟩=some v3/\Below W.heap.size W a:=by
 have hl:B<W.heap.size:=World.block_lt_of_cell? W ⟨B,0,none⟩ n0;exact⟨by rw[h.cell hl];exact n0,by rw[h.cell hl];exact n1,by rw[h.cell hl];exact n2,by rw[h.cell hl];exact n3,h⟩
theorem BN{α:Type}(p:α->Bool)(l:List α)(k:Nat)(x:α)(h:l[k]?=some x)(hp:p x=false):l.all p=false:=by
 rw[Bool.eq_false_iff];intro ha;rw[List.all_eq_true]at ha;have:=ha x (List.mem_of_getElem? h);rw[hp]at this;cases this
theorem zU(e:Ev)(fs:List ay)(w:World)(hf:dY e.kind=some fs) :
  Calls Tryz.prog 40 #[.agg #[.int .i64 e.kind,.int .i64 e.key,.int .i64 e.slot,.int .i64 e.gen,.bool e.good,.int .i64 e.req,.int .i64 e.be,.int .i64 e.wt]] w fun r w'=>r=.returned (.int .i64 (gq e))/\Below w.heap.size w w':=by
 have hlen:=sR hf;have HF:Hid (gq e=if fs.all e.GZ then(if e.GE fs then 0 else 3)else 2):=by unfold gq;rw[hf];exact rfl
 go_enter Tryz.func40,Tryz.ntmps40
 go_wp2_with fail
 refine(uo w.heap.size e fs _ (jK w _) hf).mono ?_;rintro r w0 ⟨v,rfl,hb,hown⟩;obtain⟨a,cap,rfl,hat⟩:=ro hown;have hE0:cI w0 w.heap.size e:=cI.below (jK w _) hb (by simp);have HH:Hid (dY e.kind=some fs/\_/\_):=⟨hf,hown,hat⟩;clear hf hown hat
 go_wp2
 go_loopw [15] (fun i wr=>∃k:Nat,k<=fs.length/\i=.int .i64 k/\(fs.take k).all e.GZ=true/\Below w0.heap.size w0 wr) (fun i _=>fs.length-(intOf i).toNat)
 case atStart=>exact⟨0,Nat.zero_le _,rfl,rfl,Below.refl _ _⟩
 case round =>
  obtain⟨k,hk,rfl,hall,hg⟩:=hrel;have hbel:Below w.heap.size w wr:=(((Below.refl w.heap.size w).alloc (Nat.le_refl _) _).trans (hb.mono (by simp))).trans (hg.mono (by have:=hb.size;simp at this;omega));have HA:Hid (_/\_):=⟨hall,hbel⟩;clear hall hbel
  by_cases hlt:k<fs.length
  ·have hfk:fs[k]?=some fs[k]:=List.getElem?_eq_getElem hlt
   have hto:fs.take (k+1)=fs.take k++[fs[k]]:=List.take_succ_eq_append_getElem hlt;have hoff:=sH HH.out.1 fs[k] (List.getElem_mem hlt);generalize fs[k]=f at *;obtain⟨g,rfl,g1,g2,c0,c1,c2,c3⟩:=HH.out.2.2 k f hfk;have hgr:∀o,wr.cell? ⟨g,o,none⟩=w0.cell? ⟨g,o,none⟩:=fun o=>hg.cell (p:=⟨g,o,none⟩) g2
   rw[<-hgr]at c0 c1 c2 c3;have HT:Hid (_/\_):=⟨hfk,hto⟩;clear hfk hto hgr;have hsz:=hg.size;have hEl:=hE0.lt;have hE:=hE0.below hg hEl;have hE':∀x,cI (wr.alloc x) w.heap.size e:=fun x=>by unfold cI;rw[Below.heap_alloc _ _ _ (by omega)];exact hE
   go_wp2_with fail
   obtain⟨W,hW⟩:∃W,W=wr.alloc (Obj.cells #[Value.pointer (pp w.heap.size f),Value.pointer (pq w.heap.size f),Value.int IntKind.i64 f.lo,Value.int IntKind.i64 f.hi] 131):=⟨_,rfl⟩;have n0:W.cell? ⟨wr.heap.size,0,none⟩=some (.pointer (pp w.heap.size f)):=by rw[hW];simp
   have n1:W.cell? ⟨wr.heap.size,1,none⟩=some (.pointer (pq w.heap.size f)):=by rw[hW];simp
   have n2:W.cell? ⟨wr.heap.size,2,none⟩=some (.int .i64 f.lo):=by rw[hW];simp
   have n3:W.cell? ⟨wr.heap.size,3,none⟩=some (.int .i64 f.hi):=by rw[hW];simp
   have hEW:cI W w.heap.size e:=by rw[hW];exact hE' _
   have hBW:Below w0.heap.size w0 W:=by rw[hW];exact hg.alloc hsz _
   rw[<-hW];have HHW:Hid (_/\_):=⟨hW,hE'⟩;clear hW hE';have HI:Hid (e.GZ f=decide (f.lo<=e.num f.off/\e.num f.off<=f.hi)):=rfl
   by_cases hin:f.lo<=e.num f.off/\e.num f.off<=f.hi
   ·go_region_held3 (fun w'=>w'.cell? ⟨wr.heap.size,0,none⟩=some (.pointer (pp w.heap.size f))/\w'.cell? ⟨wr.heap.size,1,none⟩=some (.pointer (pq w.heap.size f))/\w'.cell? ⟨wr.heap.size,2,none⟩=some (.int .i64 f.lo)/\w'.cell? ⟨wr.heap.size,3,none⟩=some (.int .i64 f.hi)/\Below W.heap.size W w') (first|exact jV n0 n1 n2 n3 ((Below.refl _ _).drew)|exact jV n0 n1 n2 n3 (nl (dt hb1) hb2)|exact jV n0 n1 n2 n3 (dt hb1))
     (first|(go_at_call 56;refine(vC w.heap.size f e W.drew hEW hoff.1 hoff.2).mono ?_;rintro r w1 ⟨rfl,hb1⟩)|(go_at_call 55;refine(FF _ _ f.lo f.hi (e.num f.off) w1 hin.1 hin.2).mono ?_;rintro r w2 ⟨rfl,hb2⟩))
    go_wp2
    go_roundw
    case rel =>
     refine⟨k+1,by omega,by go_num,?_,hBW.trans ((nl (dt hb1) hb2).mono hBW.size)⟩;rw[HT.out.2,List.all_append,HA.out.1];simp[HI.out,hin]
    case measure=>simp[intOf];omega
   ·go_region_held3 (fun w'=>w'.cell? ⟨wr.heap.size,0,none⟩=some (.pointer (pp w.heap.size f))/\w'.cell? ⟨wr.heap.size,1,none⟩=some (.pointer (pq w.heap.size f))/\w'.cell? ⟨wr.heap.size,2,none⟩=some (.int .i64 f.lo)/\w'.cell? ⟨wr.heap.size,3,none⟩=some (.int .i64 f.hi)/\Below W.heap.size W w') (first|exact jV n0 n1 n2 n3 ((Below.refl _ _).drew)|exact jV n0 n1 n2 n3 (nl (dt hb1) hb2)|exact jV n0 n1 n2 n3 (dt hb1))
     (first|(go_at_call 56;refine(vC w.heap.size f e W.drew hEW hoff.1 hoff.2).mono ?_;rintro r w1 ⟨rfl,hb1⟩)|(go_at_call 55;refine(xA _ _ f.lo f.hi (e.num f.off) w1 hin).mono ?_;rintro r w2 ⟨rfl,hb2⟩))
    go_wp2;go_ret;refine⟨?_,?_⟩
    ·rw[HF.out,BN _ fs k f HT.out.1 (by rw[HI.out];simpa using hin)];rfl
    ·exact HA.out.2.trans ((((Below.refl wr.heap.size wr).alloc (Nat.le_refl _) _).trans (HHW.out.1 ▸ (nl (dt hb1) hb2).mono (by rw[HHW.out.1];simp))).mono HA.out.2.size)
  ·have:k=fs.length:=by omega
   subst this;rw[List.take_length]at HA;have HF':=HF.out;rw[HA.out.1]at HF';have HF2:Hid (gq e=if e.GE fs then 0 else 3):=HF';clear HF' HF;have hE:=hE0.below hg hE0.lt;obtain⟨e0,e1,e2,e3,e4,e5,e6,e7⟩:=hE.Jl
   go_wp2_with fail
   refine(zf e fs _ HH.out.1).mono ?_;rintro r w1 ⟨rfl,hb1⟩;have HB:Hid (Below w.heap.size w w1):=HA.out.2.trans (hb1.mono HA.out.2.size);cases hcl:e.GE fs
   all_goals
    rw[hcl]at HF2;go_wp2;go_ret;exact⟨by rw[HF2.out];rfl,HB.out⟩
theorem Bj(e:Ev)(w:World)(hf:e.kind<1\/7<e.kind)(hn:dY e.kind=none) :
  Calls Tryz.prog 40 #[.agg #[.int .i64 e.kind,.int .i64 e.key,.int .i64 e.slot,.int .i64 e.gen,.bool e.good,.int .i64 e.req,.int .i64 e.be,.int .i64 e.wt]] w fun r w'=>r=.returned (.int .i64 (gq e))/\Below w.heap.size w w':=by
 have HF:Hid (gq e=5):=by unfold gq;rw[hn];exact rfl
 go_enter Tryz.func40,Tryz.ntmps40
 go_wp2_with fail
 refine(A5 w.heap.size e _ (jK w _) hf).mono ?_;rintro r w0 ⟨rfl,rfl⟩;go_wp2;go_ret;exact⟨by rw[HF.out];rfl,(Below.refl _ _).alloc (Nat.le_refl _) _⟩
theorem EZ(e:Ev)(w:World) :
  Calls Tryz.prog 40 #[.agg #[.int .i64 e.kind,.int .i64 e.key,.int .i64 e.slot,.int .i64 e.gen,.bool e.good,.int .i64 e.req,.int .i64 e.be,.int .i64 e.wt]] w fun r w'=>r=.returned (.int .i64 (gq e))/\Below w.heap.size w w':=by
 cases h:dY e.kind with
 |some fs=>exact zU e fs w h
 |none =>
  refine Bj e w ?_ h;rcases lW e.kind with⟨h1,_⟩|h1|h1|h1|h1|h1|h1|h1
  ·exact h1
  all_goals (rw[h1]at h;simp[dY]at h)
end Go.Proofs.YtalhkllgnlejbaaGreatDoor.Q
