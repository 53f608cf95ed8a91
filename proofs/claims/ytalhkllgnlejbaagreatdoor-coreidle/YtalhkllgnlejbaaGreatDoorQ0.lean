/-
  Contracts of the layers and of core, part 0. Conditions: as each theorem says.
-/
import Derived.Deep.AppendLies
import Derived.Deep.DrawnRows
import Derived.Deep.RegionHeld3
import Derived.Handy
import Derived.Test.YtalhkllgnlejbaaGreatDoorRows
namespace Go.Proofs.YtalhkllgnlejbaaGreatDoor.Q
set_option linter.unusedVariables false
set_option linter.unusedSimpArgs false
set_option maxHeartbeats 16000000
set_option maxRecDepth 100000
open Go.RowKit
attribute [local go_sem ↓] Go.wp_at_zero Go.wp_at_succ
variable {p:Addr}{tmps:Array Value}{fn:Func}{id:Int}{xs:List Value}{base g j k n:Nat}{o:Obj}{P:Program}{x:Tmp}{T e t:TypeId}{a b v v1 v3:Value}{w w':World}
theorem ai(w:World):Below w.heap.size w (w.alloc o):=(Below.refl _ _).alloc (Nat.le_refl _) _
theorem dt{W a:World}(h:Below W.drew.heap.size W.drew a):Below W.heap.size W a:=⟨h.os,h.tape,h.output,h.size,h.block⟩
theorem af(h:w.heap[g]?=some o)(hb:Below w.heap.size w w'):w'.heap[g]?=some o:=(hb.block g (Array.getElem?_eq_some_iff.1 h).1).trans h
theorem aN(w:World)(o:Obj){x:Obj}(h:w.heap[k]?=some x):(w.alloc o).heap[k]?=some x:=by
 rw[Below.heap_alloc _ _ _ (Array.getElem?_eq_some_iff.1 h).1];exact h
theorem bV(w:World)(o p:Obj):((w.alloc o).alloc p).heap[w.heap.size+1]?=some p:=by
 have:=heap_alloc_new (w.alloc o) p
 simpa using this
theorem lC(w:World)(o p q:Obj):(((w.alloc o).alloc p).alloc q).heap[w.heap.size+1+1]?=some q:=by
 have:=heap_alloc_new ((w.alloc o).alloc p) q
 simpa using this
theorem aI{cs:List Value}{d:TypeDesc}(h:w.heap[g]?=some (.cells cs.toArray T (0,0)))(hu:P.underlying T=some d)(hd:d.isRow=true)(hi:(P.info? T).map (·.size)=some cs.length):(loadVar T ⟨g,0,none⟩).run P w=.ok (.agg cs.toArray) w :=
 run_loadVar_mid w g 0 T cs d (fun j v hv=>by rw[Nat.zero_add,cell_of_row w g j _ T (0,0) h];simpa using hv) hu hd hi
theorem bB:Tryz.prog.follows .mixedOrders=true:=by kernel_rfl
theorem aM(h:w.heap[g]?=some (.cells #[a] T (0,0))):w.cell? ⟨g,0,none⟩=some a:=by simp[World.cell?,h]
theorem bp{z:Tmp}(h:fn.results=#[.cell x t,.tmp z])(hx:tmps.getD x undef=.pointer (some p))(hz:tmps.getD z undef=v3)
  (h1:(loadVar t p).run P w=.ok v1 w):(results fn tmps).run P w=.ok (.tuple #[v1,v3]) w:=by
 have e1:∀a:Addr,(asAddr (.pointer (some a))).run P w=.ok a w:=fun a=>rfl
 simp only[Array.getD_eq_getD_getElem?]at hx hz;simp[results,h,hx,hz,e1,h1,Sem.run_bind]
theorem lK{c:Value}(h:w.heap[g]?=some (.cells #[a,b,c] T (0,0))):w.cell? ⟨g,0,none⟩=some a/\w.cell? ⟨g,1,none⟩=some b/\w.cell? ⟨g,2,none⟩=some c/\g<w.heap.size :=
 ⟨by simp[World.cell?,h],by simp[World.cell?,h],by simp[World.cell?,h],(Array.getElem?_eq_some_iff.1 h).1⟩
structure Cf where
 flows:Int
 num:Int
 den:Int
 tries:Int
 warm:Int
 drain:Int
 idle:Int
 conn:Int
 ret:Int
 most:Int
 bn:Int
 bd:Int
 bb:Int
 wn:Int
 wf:Int
 wh:Int
 deriving DecidableEq
def rv{α:Type}(c:α->List Value):List α->List Value
 | []=>[]
 |x::l=>c x++rv c l
def aR(w:World)(v:Value)(n:Nat)(xs:List Value):Prop :=
 ∃a cap,v=.slice a n cap/\n<=cap/\cap<=maxLen/\(n=0/\xs=[]\/∃b off,a=some ⟨b,off,none⟩/\b<w.heap.size/\∀i,i<xs.length->w.cell? ⟨b,off+i,none⟩=xs[i]?)
def bj{α:Type}(c:α->List Value)(w:World)(v:Value)(l:List α):Prop:=aR w v l.length (rv c l)
section
variable {α : Type} {c : α → List Value} {k : Nat} {w w' : World} {v : Value} {l : List α}
theorem bj.Ga(h:bj c w v l):∃a cap,v=.slice a l.length cap/\l.length<=cap/\cap<=maxLen:=by
 obtain⟨a,cap,hv,hc,hm,_⟩:=h;exact⟨a,cap,hv,hc,hm⟩
end
theorem aR.below(h:aR w v n xs)(hb:Below w.heap.size w w'):aR w' v n xs:=by
 obtain⟨a,cap,hv,hc,hm,h1|⟨b,off,h1,h2,h3⟩⟩:=h
 ·exact⟨a,cap,hv,hc,hm,.inl h1⟩
 ·exact⟨a,cap,hv,hc,hm,.inr ⟨b,off,h1,Nat.lt_of_lt_of_le h2 hb.size,fun i hi=>by rw[hb.cell (p:=⟨b,off+i,none⟩) h2];exact h3 i hi⟩⟩
theorem eJ(g o j:Nat):(⟨g,o,none⟩:Addr).add j=⟨g,o+j,none⟩:=by unfold Addr.add;split <;> simp_all
theorem fG(g j:Nat):(⟨g,0,none⟩:Addr).add j=⟨g,j,none⟩:=by unfold Addr.add;split <;> simp_all
theorem kR(w:World)(t ty e:TypeId)(i:TypeInfo)(ht:P.underlying t=some (.slice e))(hi:P.info? e=some i)(q:Option Addr)(n d:Nat)(hn:n<=d)(hd:d<=maxLen)(p:Option Addr)(c:Nat):
  (Builtin.append_ #[t,t] ty #[.slice q n d,.slice p 0 c]).run P w=.ok (.slice q n d) w:=by
 unfold maxLen at hd;have h1:¬(9223372036854775807<n):=by omega
 cases p <;> cases q <;> simp[Builtin.append_,run_underlying ht,sizeOf,typeInfo,hi,Builtin.firstCells,Builtin.lenOf,loadCells,loadCellsFrom,hn,h1,storeCells]
theorem iV(w:World)(cs:List Value)(T:TypeId):∀j u,cs[j]?=some u->(w.alloc (.cells cs.toArray T)).cell? ((⟨w.heap.size,0,none⟩:Addr).add j)=some u:=by
 intro j u hu;have hadd:(⟨w.heap.size,0,none⟩:Addr).add j=⟨w.heap.size,j,none⟩:=by unfold Addr.add;split <;> simp_all
 rw[hadd,cell_of_row _ w.heap.size j cs.toArray T (0,0) (heap_alloc_new w _)]
 simpa using hu
theorem aw(h:w.ownsRow base e k v n xs)(hs:∀g,v.ownBlock=some g->w'.heap[g]?=w.heap[g]?):w'.ownsRow base e k v n xs:=by
 refine⟨h.1,?_⟩;rcases h.2 with hn|⟨g,cap,cur,rfl,hb,hgg,rest⟩
 ·exact .inl hn
 ·exact .inr ⟨g,cap,cur,rfl,hb,by rw[hs g rfl];exact hgg,rest⟩
theorem cR(h:w.ownsRow base e k v n xs):∃p c,v=.slice p n c:=by
 rcases h.2 with⟨rfl,rfl⟩|⟨g,cap,cur,rfl,_⟩
 ·exact⟨_,_,rfl⟩
 ·exact⟨_,_,rfl⟩
theorem cq(h:w.ownsRow base e k v n xs)(hb:Below w.heap.size w w'):w'.ownsRow base e k v n xs:=aw h fun g hg=>hb.block g (h.lt g hg).2
theorem ey(h:fn.results=#[.cell x t])(hx:tmps.getD x undef=.pointer (some p))
  (h1:(loadVar t p).run P w=.ok v1 w):(results fn tmps).run P w=.ok v1 w:=by
 have e1:∀a:Addr,(asAddr (.pointer (some a))).run P w=.ok a w:=fun a=>rfl
 simp only[Array.getD_eq_getD_getElem?]at hx;simp[results,h,hx,e1,h1,Sem.run_bind]
theorem kP{y z:Tmp}(h:fn.results=#[.cell x t,.tmp y,.tmp z]){v2:Value}(hx:tmps.getD x undef=.pointer (some p))(hy:tmps.getD y undef=v2)(hz:tmps.getD z undef=v3)
  (h1:(loadVar t p).run P w=.ok v1 w):(results fn tmps).run P w=.ok (.tuple #[v1,v2,v3]) w:=by
 have e1:∀a:Addr,(asAddr (.pointer (some a))).run P w=.ok a w:=fun a=>rfl
 simp only[Array.getD_eq_getD_getElem?]at hx hy hz;simp[results,h,hx,hy,hz,e1,h1,Sem.run_bind]
theorem dZ(w:World):aR w (.slice none 0 0) 0 []:=⟨none,0,rfl,Nat.le_refl _,by unfold maxLen;omega,.inl ⟨rfl,rfl⟩⟩
theorem bP(h:w.ownsRow base e k v n xs):aR w v n xs:=by
 obtain⟨hl,⟨rfl,rfl⟩|⟨g,cap,cur,rfl,hb,hg,hn,hm,hs,ht⟩⟩:=h
 ·obtain rfl:xs=[]:=List.length_eq_zero_iff.1 (by simpa using hl)
  exact dZ w
 ·refine⟨_,cap,rfl,hn,hm,.inr ⟨g,0,rfl,?_,fun i hi=>?_⟩⟩
  ·rcases Nat.lt_or_ge g w.heap.size with hlt|hge
   ·exact hlt
   ·rw[Array.getElem?_eq_none hge]at hg;cases hg
  ·rw[<-ht,List.getElem?_take_of_lt (by omega)]
   simp only[World.cell?,hg,Nat.zero_add];simp
theorem au(h:w.heap[g]?=some (.cells #[a,b] T (0,0))):w.cell? ⟨g,0,none⟩=some a/\w.cell? ⟨g,1,none⟩=some b/\w.frozen? ⟨g,0,none⟩=false/\w.frozen? ⟨g,1,none⟩=false/\g<w.heap.size:=by
 refine⟨by simp[World.cell?,h],by simp[World.cell?,h],by simp[World.frozen?,h],by simp[World.frozen?,h],?_⟩;exact(Array.getElem?_eq_some_iff.1 h).1
abbrev iR(n f d:Int):Value:=.agg #[.int .i64 n,.int .i64 f,.int .i64 d]
theorem d7{ops:Array Oper}{rest:List Oper}{o:Oper}{a:Act}{Q:Exit->Act->World->Prop}(hgd:o.guard=none)(s x:Operand)(t:TypeId)
  (ho:o.op=.call {callee:=.builtin .append,args:=#[s,x],argTypes:=#[t,t]}) (v u y:Value) (w':World) (hs:a.eval s=v) (hx:a.eval x=u) (hr:(Builtin.append_ #[t,t] o.type #[v,u]).run P w=.ok y w')
  (h:wpList P ops Q rest (a.put o.dst y) w'):wpList P ops Q (o::rest) a w :=
 wpList_plain hgd fun _ hK=>by
  unfold Oper.wp execOp;simp only[ho,resolve,invoke,builtin,Sem.run_bind,Sem.run_pure,Result.andThen_ok,List.map_toArray,List.map_cons,List.map_nil,hs,hx,hr];exact hK _ _ h
theorem kN{B:Nat}{row:Option Nat}(h:w.grownBy w' row)(hB:B<=w.heap.size)(hr:∀g,row=some g->B<=g):Below B w w':=(Below.refl _ _).grown h hB hr
def aj(a:List Int):List Value:=a.map fun x=>.int .i64 x
def aC(T:TypeId)(n:Nat)(w:World)(g:Nat)(a:List Int):Prop:=w.heap[g]?=some (.cells (aj a).toArray T (0,0))/\a.length=n
section
variable {T : TypeId} {n : Nat} {w w' : World} {g : Nat} {a b : List Int}
theorem aC.Gf(h:aC T n w g a)(hk:w'.heap[g]?=w.heap[g]?):aC T n w' g a:=⟨hk.trans h.1,h.2⟩
end
section
variable {T : TypeId} {n : Nat} {w w' : World} {g : Nat} {a b : List Int}
theorem aC.lt(h:aC T n w g a):g<w.heap.size:=(Array.getElem?_eq_some_iff.1 h.1).1
end
section
variable {T : TypeId} {n : Nat} {w w' : World} {g : Nat} {a b : List Int}
theorem aC.below(h:aC T n w g a)(hb:Below w.heap.size w w'):aC T n w' g a:=h.Gf (hb.block g h.lt)
end
section
variable {T : TypeId} {n : Nat} {w w' : World} {g : Nat} {a b : List Int}
theorem aC.F7(h:aC T n w g a)(i:Nat)(hi:i<a.length):w.cell? ⟨g,i,none⟩=some (.int .i64 a[i]):=by
 rw[cell_of_row w g i _ T (0,0) h.1];simp[aj,hi]
end
section
variable {T : TypeId} {n : Nat} {w w' : World} {g : Nat} {a b : List Int}
theorem aC.Gu(h:aC T n w g a)(i:Nat):w.frozen? ⟨g,i,none⟩=false:=by simp[World.frozen?,h.1]
end
section
variable {T : TypeId} {n : Nat} {w w' : World} {g : Nat} {a b : List Int}
theorem aC.F4(h:aC T n w g a)(i:Nat)(x:Int):aC T n (w.setCell ⟨g,i,none⟩ (.int .i64 x)) g (a.set i x):=by
 refine⟨?_,by rw[List.length_set];exact h.2⟩;rw[heap_setCell_same w g i _ T _ h.1];simp[aj,List.map_set]
end
abbrev Ld:=Int×Int×Int
theorem dm(a:List Int):(aj a).length=a.length:=by simp[aj]
def bI:Option Nat->Int
 |none=>-1
 |some k=>k
theorem jE:(Tryz.prog.info? 3).map (fun i=>(i.zero,i.size,i.bytes))=some (some (.int .i64 0),1,8):=by kernel_rfl
abbrev Tm:=Int×Int
variable {junk l:List Tm}
def ag:List Tm->List Value
 | []=>[]
 |t::l=>.int .i64 t.1::.int .i64 t.2::ag l
def aO(w:World)(v:Value)(l:List Tm):Prop:=aR w v l.length (ag l)
theorem aO.below(h:aO w v l)(hb:Below w.heap.size w w'):aO w' v l:=aR.below h hb
theorem fi:∀(l:List Tm) (i:Nat) (h:i<l.length),(ag l)[i*2]?=some (.int .i64 l[i].1)/\(ag l)[i*2+1]?=some (.int .i64 l[i].2)
 |t::l,0,_=>by simp[ag]
 |t::l,i+1,h=>by
  have h2:=fi l i (by simpa using h);rw[show(i+1)*2=i*2+1+1 by omega]
  simpa [ag]using h2
theorem bZ:∀l:List Tm,(ag l).length=l.length*2
 | []=>rfl
 |t::l=>by simp[ag,bZ l];omega
theorem aO.F6(h:aO w v l):
  ∃a cap,v=.slice a l.length cap/\l.length<=cap/\cap<=maxLen/\∀i (hi:i<l.length),∃b off,a=some ⟨b,off,none⟩/\b<w.heap.size/\w.cell? ⟨b,off+i*2,none⟩=some (.int .i64 l[i].1)/\w.cell? ⟨b,off+i*2+1,none⟩=some (.int .i64 l[i].2):=by
 obtain⟨a,cap,hv,hc,hm,h1|⟨b,off,h1,h2,h3⟩⟩:=h
 ·exact⟨a,cap,hv,hc,hm,fun i hi=>absurd hi (by omega)⟩
 ·refine⟨a,cap,hv,hc,hm,fun i hi=>⟨b,off,h1,h2,?_,?_⟩⟩
  ·rw[h3 (i*2) (by rw[bZ];omega)];exact(fi l i hi).1
  ·rw[Nat.add_assoc,h3 (i*2+1) (by rw[bZ];omega)];exact(fi l i hi).2
def cx(a b:Int):Int:=if a<b then -1 else if b<a then 1 else 0
def ax(a b:Tm):Int:=if a.1<b.1 then -1 else if b.1<a.1 then 1 else if a.2<b.2 then -1 else if b.2<a.2 then 1 else 0
theorem nZ(a b:Tm):ax a b=if cx a.1 b.1=0 then cx a.2 b.2 else cx a.1 b.1:=by
 unfold ax cx
 repeat' split
 all_goals first|rfl|omega
theorem i8{a b:Tm}:ax a b<0↔a.1<b.1\/a.1=b.1/\a.2<b.2:=by
 unfold ax
 repeat' split
 all_goals omega
theorem ko{a b c:Tm}(h1:ax a b<0)(h2:ax b c<0):ax a c<0:=by
 rw[i8]at *;omega
theorem jZ(a b:Int)(w:World):Calls Tryz.prog 214 #[.int .i64 a,.int .i64 b] w fun r w'=>r=.returned (.int .i64 (cx a b))/\w'=w:=by
 unfold cx
 by_cases h1:a<b
 ·rw[if_pos h1]
  go_enter Tryz.func214,Tryz.ntmps214;go_wp2;go_ret;exact⟨rfl,rfl⟩
 ·rw[if_neg h1]
  by_cases h2:b<a
  ·rw[if_pos h2]
   go_enter Tryz.func214,Tryz.ntmps214;go_wp2;go_ret;exact⟨rfl,rfl⟩
  ·rw[if_neg h2]
   obtain rfl:a=b:=by omega
   go_enter Tryz.func214,Tryz.ntmps214;go_wp2;go_ret;exact⟨rfl,rfl⟩
theorem jo(h:j<l.length):l.drop j=l[j]::l.drop (j+1):=(List.getElem_cons_drop h).symm
theorem qY{row:Option Nat}(hb:Below w.heap.size w w'):w.grownBy w' row:=⟨hb.os,hb.tape,hb.output,hb.size,fun k hk _=>hb.block k hk⟩
theorem ks(T:TypeId)(g:Nat):∀(vs pre old:List Value) (w:World),old.length=vs.length->w.heap[g]?=some (.cells (pre++old).toArray T (0,0))->(w.setCells g pre.length vs).heap[g]?=some (.cells (pre++vs).toArray T (0,0))
 | [],pre,old,w,ho,h=>by
  obtain rfl:old=[]:=List.length_eq_zero_iff.1 (by simpa using ho);exact h
 |v::vs,pre,[],w,ho,h=>by simp at ho
 |v::vs,pre,u::old,w,ho,h=>by
  have h1:=heap_setCell_same w g pre.length _ T v h;have e:(pre++u::old).toArray.setIfInBounds pre.length v=((pre++[v])++old).toArray:=by
   apply Array.toList_inj.1;simp
  rw[e]at h1;have h2:=ks T g vs (pre++[v]) old _ (by simpa using ho) h1;rw[World.setCells]
  simpa using h2
theorem lr{v2 v4:Value}(h1:w.cell? ⟨g,0,none⟩=some v1)(h2:w.cell? ⟨g,1,none⟩=some v2)(h3:w.cell? ⟨k,0,none⟩=some v3)(h4:w.cell? ⟨k,1,none⟩=some v4)
  (hb:Below w.heap.size w w'):w'.cell? ⟨g,0,none⟩=some v1/\w'.cell? ⟨g,1,none⟩=some v2/\w'.cell? ⟨k,0,none⟩=some v3/\w'.cell? ⟨k,1,none⟩=some v4/\Below w.heap.size w w' :=
 ⟨(hb.cell (p:=⟨g,0,none⟩) (World.block_lt_of_cell? w ⟨g,0,none⟩ h1)).trans h1,(hb.cell (p:=⟨g,1,none⟩) (World.block_lt_of_cell? w ⟨g,1,none⟩ h2)).trans h2,(hb.cell (p:=⟨k,0,none⟩) (World.block_lt_of_cell? w ⟨k,0,none⟩ h3)).trans h3,(hb.cell (p:=⟨k,1,none⟩) (World.block_lt_of_cell? w ⟨k,1,none⟩ h4)).trans h4,hb⟩
def kp(l:List Tm)(id:Int):List Tm:=l.filter fun t=>decide (t.2≠id)
theorem qa(h:∀t∈l,t.2≠id):kp l id=l:=List.filter_eq_self.2 fun t ht=>by simpa using h t ht
theorem lx(l:List Tm)(t:Tm)(id:Int):kp (l++[t]) id=kp l id++if t.2=id then []else [t]:=by
 unfold kp;rw[List.filter_append]
 by_cases h:t.2=id <;> simp[h]
def aV(l:List Tm)(id:Int)(junk:List Tm)(j:Nat):List Tm:=kp (l.take j) id++junk++l.drop j
theorem rh(hj:j<l.length)(hl:(kp (l.take j) id).length+junk.length=j):(aV l id junk j)[j]?=some l[j]:=by
 unfold aV;rw[List.getElem?_append_right (by rw[List.length_append];omega),List.length_append,hl,Nat.sub_self,jo hj];rfl
theorem qD(hj:j<=l.length)(hl:(kp (l.take j) id).length+junk.length=j):(aV l id junk j).length=l.length:=by
 unfold aV;rw[List.length_append,List.length_append,List.length_drop];omega
theorem lv(hj:j<l.length)(e:l[j].2=id):aV l id (junk++[l[j]]) (j+1)=aV l id junk j/\kp (l.take (j+1)) id=kp (l.take j) id:=by
 have h1:kp (l.take (j+1)) id=kp (l.take j) id:=by rw[List.take_succ_eq_append_getElem hj,lx,if_pos e,List.append_nil]
 refine⟨?_,h1⟩;unfold aV;rw[h1,jo hj];simp
theorem oQ{x:Tm}(hj:j<l.length)(e:l[j].2≠id):aV l id (junk++[l[j]]) (j+1)=(aV l id (x::junk) j).set (kp (l.take j) id).length l[j]/\kp (l.take (j+1)) id=kp (l.take j) id++[l[j]]:=by
 have h1:kp (l.take (j+1)) id=kp (l.take j) id++[l[j]]:=by rw[List.take_succ_eq_append_getElem hj,lx,if_neg e]
 refine⟨?_,h1⟩;unfold aV;rw[h1,jo hj];simp
theorem oq(a b:Int)(g:Nat)(w:World)(h0:w.cell? ⟨g,0,none⟩=some (.int .i64 a))(h1:w.cell? ⟨g,1,none⟩=some (.int .i64 b)) :
  Calls Tryz.prog 248 #[.slice (some ⟨g,0,none⟩) 2 2] w fun r w'=>r=.returned (.int .i64 (if a=0 then b else a))/\w'=w:=by
 obtain⟨ans,hans⟩:∃ans,ans=if a=0 then b else a:=⟨_,rfl⟩
 rw[<-hans];have H:Hid _:=hans;clear hans;go_enter Tryz.func248,Tryz.ntmps248;go_wp2
 go_loop [8] (fun i=>∃k:Nat,i=.int .i64 k/\k<=2/\(1<=k->a=0)/\(2<=k->b=0)) (fun i=>2-(intOf i).toNat)
 case atStart=>exact⟨0,rfl,by omega,by omega,by omega⟩
 case round =>
  obtain⟨k,rfl,hk,k1,k2⟩:=hrel;have hk3:k=0\/k=1\/k=2:=by omega
  rcases hk3 with rfl|rfl|rfl
  ·cases ha:(a != 0)
   ·have ha':a=0:=by simpa using ha
    clear k1 k2;go_wp2
    go_round
    case rel=>exact⟨1,rfl,by omega,fun _=>ha',by omega⟩
    case measure=>simp[intOf]
   ·have HE:Hid (ans=a):=by show ans=a;rw[H.out,if_neg (by simpa using ha)]
    clear k1 k2;go_wp2;go_ret;exact⟨by rw[HE.out];rfl,rfl⟩
  ·have ha:=k1 (by omega)
   cases hb:(b != 0)
   ·have hb':b=0:=by simpa using hb
    clear k1 k2;go_wp2
    go_round
    case rel=>exact⟨2,rfl,by omega,fun _=>ha,fun _=>hb'⟩
    case measure=>simp[intOf]
   ·have HE:Hid (ans=b):=by show ans=b;rw[H.out,if_pos ha]
    clear k1 k2 ha;go_wp2;go_ret;exact⟨by rw[HE.out];rfl,rfl⟩
  ·have HE:Hid (ans=0):=by show ans=0;rw[H.out,if_pos (k1 (by omega)),k2 (by omega)]
   clear k1 k2;go_wp2;go_ret;exact⟨by rw[HE.out];rfl,rfl⟩
theorem nD(h:w.ownsRow base e k v n xs)(hb:Below w.heap.size w w'):w'.ownsRow base e k v n xs:=aw h fun g hg=>hb.block g (h.lt g hg).2
theorem l8{cap size i:Nat}(h:w.ownsRow base e size (.slice (some ⟨g,0,none⟩) n cap) n xs)(hi:i<=n):w.ownsRow base e size (.slice (some ⟨g,0,none⟩) i cap) i (xs.take (i*size)):=by
 rcases h.2 with⟨h',_⟩|⟨g',cap',cur,h',hb,hg,hnc,hcm,hcs,htake⟩
 ·simp at h'
 ·simp only[Value.slice.injEq,Option.some.injEq,Addr.mk.injEq,and_true,true_and]at h'
  obtain⟨rfl,rfl⟩:=h';have hle:=Nat.mul_le_mul_right size hi;refine⟨by rw[List.length_take,h.1];omega,.inr ⟨g,cap,cur,rfl,hb,hg,by omega,hcm,hcs,?_⟩⟩;rw[<-htake,List.take_take,Nat.min_eq_left hle]
theorem kj{base g n cap size:Nat}{e:TypeId}{xs:List Value}:∀(vs:List Value) (o:Nat) (w:World),w.ownsRow base e size (.slice (some ⟨g,0,none⟩) n cap) n xs->n*size<=o->(w.setCells g o vs).ownsRow base e size (.slice (some ⟨g,0,none⟩) n cap) n xs/\w.grownBy (w.setCells g o vs) (some g)
 | [],o,w,h,_=>⟨h,World.grownBy.refl _ _⟩
 |v::vs,o,w,h,ho=>by
  have h1:=h.stored o v;rw[List.set_eq_of_length_le (by rw[h.1];exact ho)]at h1;have h2:=kj vs (o+1) _ h1.1 (by omega);rw[World.setCells];exact⟨h2.1,⟨h2.2.os.trans h1.2.os,h2.2.tape.trans h1.2.tape,h2.2.output.trans h1.2.output,Nat.le_trans h1.2.size h2.2.size,fun k hk hne=>(h2.2.block k (Nat.lt_of_lt_of_le hk h1.2.size) hne).trans (h1.2.block k hk hne)⟩⟩
theorem pd(w:World)(t e ty:TypeId)(a b:Value)(ht:P.underlying t=some (.slice e))(hv:∀w,(zeroValue e).run P w=.ok (.agg #[a,b]) w)(h1:a.oneCell'=true)(h2:b.oneCell'=true)(g o n c:Nat)(hn:0<n)
  (hc:∀j,j<n*2->(w.cell? ⟨g,o+j,none⟩).isSome=true) (hf:∀j,j<n*2->w.frozen? ⟨g,o+j,none⟩=false) :
  ∃vs,(Builtin.clear_ #[t] ty #[.slice (some ⟨g,o,none⟩) n c]).run P w=.ok (.tuple #[]) (w.setCells g o vs):=by
 have hl:(Builtin.zeroCells #[a,b] n).toList.length=n*2:=by rw[Array.length_toList,size_zeroCells];rfl
 have hone:∀v∈(Builtin.zeroCells #[a,b] n).toList,v.oneCell'=true:=by
  intro v hv;simp only[Builtin.zeroCells,Array.toList_map,List.mem_map]at hv;obtain⟨i,_,rfl⟩:=hv;have:i % (#[a,b]:Array Value).size<2:=Nat.mod_lt _ (by simp);have hcase:i % (#[a,b]:Array Value).size=0\/i % (#[a,b]:Array Value).size=1:=by omega
  rcases hcase with e|e <;> rw[e]
  ·exact h1
  ·exact h2
 have hst:=run_storeCells_cells (P:=P) g o (Builtin.zeroCells #[a,b] n).toList 0 w (by rw[hl];simpa using hc) (by rw[hl];simpa using hf) hone;simp only[Nat.add_zero]at hst;refine⟨(Builtin.zeroCells #[a,b] n).toList,?_⟩;obtain⟨m,rfl⟩:∃m,n=m+1:=⟨n-1,by omega⟩;simp[Builtin.clear_,run_underlying ht,hv,Value.cells,hst]
theorem lg:∀(l:List Tm) (j:Nat) (t:Tm),((ag l).set (j*2) (.int .i64 t.1)).set (j*2+1) (.int .i64 t.2)=ag (l.set j t)
 | [],j,t=>by simp[ag]
 |x::l,0,t=>by simp[ag]
 |x::l,j+1,t=>by
  have:=lg l j t;rw[show(j+1)*2=j*2+1+1 by omega];simp[ag,this]
theorem iM:∀(l:List Tm) (i:Nat),(ag l).take (i*2)=ag (l.take i)
 | [],i=>by simp[ag]
 |t::l,0=>by simp[ag]
 |t::l,i+1=>by rw[show(i+1)*2=i*2+1+1 by omega];simp[ag,iM l i]
theorem bW(w:World):Below w.heap.size w (w.alloc o):=(Below.refl _ _).alloc (Nat.le_refl _) _
theorem o7(h:w.heap[g]?=some (.cells #[] e (0,0)))(hb:base<=g):w.ownsRow base e k (.slice (some ⟨g,0,none⟩) 0 0) 0 []:=
 ⟨by simp,.inr ⟨g,0,#[],rfl,hb,h,Nat.le_refl _,by unfold maxLen;omega,by simp,by simp⟩⟩
theorem fw:∀l m:List Tm,ag (l++m)=ag l++ag m
 | [],_=>rfl
 |t::l,m=>by simp[ag,fw l m]
theorem gg (l : List Tm) : ∀ u ∈ ag l, u.oneCell' = true := by
  induction l with
  | nil => simp [ag]
  | cons t l ih => simp only [ag, List.mem_cons]; rintro u (rfl | rfl | h); · rfl
                   · rfl
                   · exact ih u h
theorem iw{c d:Value}(h:w.heap[g]?=some (.cells #[a,b] T (0,0))):((w.setCell ⟨g,0,none⟩ c).setCell ⟨g,1,none⟩ d).heap[g]?=some (.cells #[c,d] T (0,0)):=
 heap_setCell_same _ _ 1 _ _ d (heap_setCell_same w g 0 _ _ c h)
theorem nn(w:World)(t tn ty e:TypeId)(i:TypeInfo)(z:Value)(kn:IntKind)(size bytes:Nat)(ht:P.underlying t=some (.slice e))(htn:P.underlying tn=some (.int kn))(hi:P.info? e=some i)(hz:i.zero=some z)
  (hsize:i.size=size) (hby:i.bytes=bytes) (hzs:z.cells.size=size) (hsz:0<size) (base:Nat) (ad:Addr) (n cap m:Nat) (cs:List Value) (hl:cs.length=n*size) (hc:∀j v,cs[j]?=some v->w.cell? (ad.add j)=some v)
  (hm:0<m) (hroom:cap<n+m) (h63:n+m<=maxLen) (hbytes:(n+m)*bytes<=140737488355328) (hbase:base<=w.heap.size) :
  ∃cap' zs w',(Builtin.append_ #[t,tn] ty #[.slice (some ad) n cap,.int .i64 (m:Int)]).run P w=.ok (.slice (some ⟨w.heap.size,0,none⟩) (n+m) cap') w' /\
   w'.ownsRow base e size (.slice (some ⟨w.heap.size,0,none⟩) (n+m) cap') (n+m) (cs++zs)/\zs.length=m*size/\n+m<=cap'/\w.grownBy w' none/\w'.heap.size=w.heap.size+1:=by
 subst hsize;subst hby
 have h63':n+m<=9223372036854775807:=by simp only[maxLen]at h63;omega
 have hf:=run_firstCells_some (P:=P) w.drew i.size n ad n cap cs hl hc;have hge:=grownCap_ge w (n+m) cap e;have hcm:grownCap w (n+m) cap e<=maxLen:=grownCap_le_maxLen w (n+m) cap e h63;refine⟨grownCap w (n+m) cap e,(Builtin.zeroCells z.cells m).toList,w.drew.alloc (.cells (cs.toArray++Builtin.zeroCells z.cells m++Builtin.zeroCells z.cells (grownCap w (n+m) cap e-(n+m))) e),?_,⟨?_,.inr ⟨w.heap.size,_,_,rfl,hbase,heap_alloc_new w.drew _,hge,hcm,?_,?_⟩⟩,?_,hge,⟨rfl,rfl,rfl,by simp,fun k hk _=>Below.heap_alloc w.drew _ k hk⟩,by simp⟩
 ·have hn:m≠0:=by omega
  have hw:IntKind.i64.wrap (m:Int)=m:=by rw[IntKind.wrap_i64];omega
  have h48:¬(281474976710656<Builtin.nextslicecap (n+m) cap*i.bytes):=by have:=growslice_fits hroom hbytes;omega
  have hmb:m*i.bytes<=(n+m)*i.bytes:=Nat.mul_le_mul_right _ (by omega);have h48i:¬(281474976710656<(m:Int)*(i.bytes:Int)):=by rw[<-Int.natCast_mul];omega
  have hneg:¬((m:Int)<0):=by omega
  have hns:¬(m*i.size=0):=Nat.mul_ne_zero hn (by omega);have hr:¬(n+m<=cap):=by omega
  have h63i:¬(9223372036854775807<(n:Int)+(m:Int)):=by omega
  simp[Builtin.append_,run_underlying ht,run_underlying htn,sizeOf,typeInfo,zeroValue,hi,hz,asInt,asIntOf,hw,hn,hneg,hns,hr,h63i,h48,h48i,Question.forced,hf,newRow,grownCap]
 ·simp only[List.length_append,Array.length_toList,size_zeroCells,hzs,hl,Nat.add_mul]
 ·simp only[Array.size_append,List.size_toArray,size_zeroCells,hzs,hl,<-Nat.add_mul]
  congr 1
  omega
 ·simp only[Array.toList_append,List.append_assoc]
  rw[<-List.append_assoc];have:(cs++(Builtin.zeroCells z.cells m).toList).length=(n+m)*i.size:=by
   simp only[List.length_append,Array.length_toList,size_zeroCells,hzs,hl,Nat.add_mul]
  rw[<-this];exact List.take_left
 ·simp only[Array.length_toList,size_zeroCells,hzs]
theorem fA(w:World)(T ty e:TypeId)(k:Nat)(hu:P.underlying T=some (.slice e))(hs:(P.info? e).map (·.size)=some k)(base g n cap:Nat)(xs:List Value)
  (hown:w.ownsRow base e k (.slice (some ⟨g,0,none⟩) n cap) n xs) (o dLen dCap:Nat) (a:Addr) (sLen sCap m:Nat) (cs:List Value) (hm:m=Nat.min sLen dLen) (hl:cs.length=m*k) (hfit:o+cs.length<=n*k)
  (hsrc:∀j v,cs[j]?=some v->w.cell? (a.add j)=some v) (h1:∀v∈cs,v.oneCell'=true) :
  ∃w',(Builtin.copy_ #[T,T] ty #[.slice (some ⟨g,o,none⟩) dLen dCap,.slice (some a) sLen sCap]).run P w=.ok (goInt m) w' /\
   w'.ownsRow base e k (.slice (some ⟨g,0,none⟩) n cap) n (xs.take o++cs++xs.drop (o+cs.length))/\w.grownBy w' (some g):=by
 rcases hown.2 with⟨h,_⟩|⟨g',cap',cur,h,hb,hg,hnc,hcm,hcs,htake⟩
 ·cases h
 ·simp only[Value.slice.injEq,Option.some.injEq,Addr.mk.injEq,and_true,true_and]at h
  obtain⟨rfl,rfl⟩:=h;have hle:n*k<=cur.size:=by rw[hcs];exact Nat.mul_le_mul_right _ hnc
  have hld:=run_loadCells_list (P:=P) w a cs hsrc;have hst:=run_storeCells_at P g o e cs 0 cur w hg (by simp;omega) h1;simp only[Nat.add_zero]at hst;refine⟨w.setRow g (cur.toList.take o++cs++cur.toList.drop (o+cs.length)).toArray,?_,⟨?_,.inr ⟨g,cap,_,rfl,hb,setRow_heap w g cur _ e _ hg,hnc,hcm,?_,?_⟩⟩,⟨rfl,rfl,rfl,by simp,fun j _ hj=>setRow_other w g j _ (fun e=>hj (by simp[e]))⟩⟩
  ·cases hq:P.info? e with
   |none=>simp[hq]at hs
   |some i =>
    have hi:i.size=k:=by simpa [hq]using hs
    simp[Builtin.copy_,run_underlying hu,Builtin.lenOf,Builtin.firstCells,sizeOf,typeInfo,hq,hi,<-hm,<-hl,hld,hst]
  ·have hxl:=hown.1
   simp only[List.length_append,List.length_take,List.length_drop,hxl];omega
  ·simp only[List.size_toArray,List.length_append,List.length_take,List.length_drop,Array.length_toList]
   omega
  ·rw[<-htake]
   apply List.ext_getElem?;intro j;simp only[List.getElem?_take,List.getElem?_append,List.length_append,List.length_take,List.length_drop,List.getElem?_drop,Array.length_toList];have e1:min o cur.size=o:=by omega
   have e2:min o (min (n*k) cur.size)=o:=by omega
   rw[e1,e2]
   by_cases hj:j<n*k
   ·rw[if_pos hj]
    by_cases h1:j<o+cs.length
    ·rw[if_pos h1,if_pos h1]
     by_cases h2:j<o
     ·rw[if_pos h2,if_pos h2,if_pos h2,if_pos h2,if_pos hj]
     ·rw[if_neg h2,if_neg h2]
    ·rw[if_neg h1,if_neg h1,if_pos (by omega)]
   ·rw[if_neg hj]
    have:¬j<o+cs.length:=by omega
    rw[if_neg this,if_neg (by omega)]
theorem kM{x:Int}(h1:-1000000<=x)(h2:x<=1000000):(Lit.int .i64 x).wf=true:=by
 have e1:IntKind.i64.min = -9223372036854775808:=by decide
 have e2:IntKind.i64.max=9223372036854775807:=by decide
 simp only[Lit.wf,e1,e2,Bool.and_eq_true,decide_eq_true_eq];omega
end Go.Proofs.YtalhkllgnlejbaaGreatDoor.Q
