/-
  Contracts of the layers and of core, part 0. Conditions: as each theorem says.
-/
import Derived.Deep.AppendLies
import Derived.Deep.DrawnRows
import Derived.Deep.RegionHeld3
import Derived.Handy
import Derived.Test.YtbdpocjfnnojbaaGreatDoorChecked
open Array renaming getElem?_eq_some_iff->ZAa
open Bool renaming false->Nb,true->Nw
open Decidable renaming decide->Nn
open Go renaming Addr->Oc,Calls->Ni,Program->O8,TypeId->NU,Value->M7,World->MO,grownCap->QR,maxLen->NE,results->Pf,undef->PL
open Go.Builtin renaming append_->N2,clear_->Rs,copy_->Tt,zeroCells->N5
open Go.Ending renaming returned->MN
open Go.IntKind renaming i64->ME
open Go.Lit renaming int->N6
open Go.Obj renaming cells->MP
open Go.Oper renaming wp->RB
open Go.Proofs.Tryz renaming func265->aAS,ntmps265->aAI,prog->MK
open Go.RowKit renaming Below->MQ,Hid->M6
open Go.Value renaming agg->Ny,int->MF,pointer->Na,slice->MG,tuple->Nv
open Go.World renaming cell?->Nl,frozen?->Ng,setCells->Qd
open List renaming length_eq_zero_iff->ZAc,mem_map->ZAd
open Option renaming none->MH,some->MI
open Or renaming inl->Nt,inr->NF
namespace Go.Proofs.YtbdpocjfnnojbaaGreatDoor.Q
set_option linter.unusedVariables false
set_option linter.unusedSimpArgs false
set_option maxHeartbeats 16000000
set_option maxRecDepth 100000
open Go.RowKit
attribute [local go_sem ↓] Go.wp_at_zero Go.wp_at_succ
abbrev Pg:=@Array.getD_eq_getD_getElem?
abbrev QT:=@Array.getElem?_eq_none
abbrev Qp:=@Array.getElem?_modify
abbrev Om:=@Array.length_toList
abbrev RD:=@Array.size_append
abbrev Rh:=@Array.toList_append
abbrev Po:=@Bool.and_eq_true
abbrev PE:=@Bool.false_ne_true
abbrev Qc:=@Bool.not_eq_true
abbrev PM:=@Classical.byContradiction
abbrev OE:=@Go.all_oneCell_toArray
abbrev Np:=@Go.bodyPost_ret
abbrev MW:=@Go.cell_of_row
abbrev M1:=@Go.heap_alloc_new
abbrev NI:=@Go.heap_setCell_same
abbrev OF:=@Go.info_parts
abbrev PS:=@Go.wpAnyH_done
abbrev NN:=@Go.wpAnyH_ready
abbrev ND:=@Go.wpAnyH_take
abbrev O9:=@Go.wpList_append_lies
abbrev O3:=@Go.wpList_load_mid
abbrev OW:=@Go.wpList_store_mid
abbrev O2:=@Go.wp_region_held_drew
abbrev Pt:=@Go.yieldsIf_load_mid
abbrev Q1:=@Go.Addr.mk.injEq
abbrev Nd:=@Go.Calls.mono
abbrev Ow:=@Go.IntKind.wrap_i64
abbrev Ol:=@Go.Proofs.Tryz.underlying3
abbrev PG:=@Go.Result.andThen_ok
abbrev Ov:=@Go.RowKit.Below.heap_alloc
abbrev MU:=@Go.RowKit.Below.heap_setCell
abbrev MY:=@Go.RowKit.Below.refl
abbrev Pn:=@Go.Sem.run_bind
abbrev P3:=@Go.Sem.run_pure
abbrev N4:=@Go.Value.slice.injEq
abbrev MX:=@Go.World.block_lt_of_cell?
abbrev NG:=@Go.World.cell?_of_block
abbrev OM:=@Go.World.frozen?_of_block
abbrev OL:=@Go.World.grownBy_alloc
abbrev NY:=@Go.World.ownsRow_nil
abbrev NL:=@Int.eq_ofNat_of_zero_le
abbrev Qh:=@Int.le_refl
abbrev Px:=@Int.mul_le_mul
abbrev QY:=@Int.natCast_emod
abbrev Oi:=@Int.tmod_eq_emod_of_nonneg
abbrev NR:=@Int.toNat_natCast
abbrev OC:=@List.append_assoc
abbrev OG:=@List.append_nil
abbrev Qi:=@List.countP_append
abbrev Qa:=@List.drop_append
abbrev OK:=@List.drop_eq_getElem_cons
abbrev PI:=@List.drop_eq_nil_of_le
abbrev PX:=@List.ext_getElem
abbrev Ot:=@List.ext_getElem?
abbrev OY:=@List.filter_append
abbrev PV:=@List.flatten_append
abbrev Pu:=@List.foldl_append
abbrev O4:=@List.foldl_cons
abbrev NK:=@List.getD_eq_getElem?_getD
abbrev Q9:=@List.getElem?_append
abbrev OJ:=@List.getElem?_append_left
abbrev Tw:=@List.getElem?_append_right
abbrev N9:=@List.getElem?_cons_succ
abbrev Pa:=@List.getElem?_drop
abbrev MR:=@List.getElem?_eq_getElem
abbrev Nz:=@List.getElem?_eq_none
abbrev Pj:=@List.getElem?_replicate
abbrev N3:=@List.getElem?_set_ne
abbrev N7:=@List.getElem?_set_self
abbrev O0:=@List.getElem?_take_of_lt
abbrev Pp:=@List.getElem_cons_drop
abbrev MT:=@List.getElem_cons_succ
abbrev MS:=@List.getElem_cons_zero
abbrev QZ:=@List.getElem_map
abbrev Nk:=@List.getElem_mem
abbrev NV:=@List.getElem_of_mem
abbrev Pc:=@List.getElem_set
abbrev Pe:=@List.getElem_set_ne
abbrev NW:=@List.getElem_set_self
abbrev MZ:=@List.getElem_toArray
abbrev Qf:=@List.getElem_zip
abbrev Ns:=@List.length_append
abbrev Ox:=@List.length_cons
abbrev NJ:=@List.length_drop
abbrev O1:=@List.length_filter_le
abbrev N0:=@List.length_map
abbrev Qj:=@List.length_pos_of_mem
abbrev NA:=@List.length_set
abbrev OU:=@List.length_singleton
abbrev NH:=@List.length_take
abbrev Qn:=@List.length_zip
abbrev OI:=@List.map_append
abbrev PU:=@List.map_congr_left
abbrev OA:=@List.map_cons
abbrev P5:=@List.map_nil
abbrev PW:=@List.map_toArray
abbrev QF:=@List.mem_append
abbrev Qq:=@List.mem_append_right
abbrev OO:=@List.mem_cons
abbrev NB:=@List.mem_cons_of_mem
abbrev NM:=@List.mem_cons_self
abbrev Nu:=@List.mem_of_getElem?
abbrev OB:=@List.mem_or_eq_of_mem_set
abbrev PY:=@List.mem_singleton
abbrev Oz:=@List.nil_append
abbrev Qv:=@List.nodup_append
abbrev OD:=@List.not_mem_nil
abbrev ZqB:=@List.range_succ
abbrev MJ:=@List.setIfInBounds_toArray
abbrev Pw:=@List.set_append_right
abbrev MM:=@List.set_cons_succ
abbrev ML:=@List.set_cons_zero
abbrev OQ:=@List.size_toArray
abbrev Oo:=@List.take_append_drop
abbrev ZqA:=@List.take_append_of_le_length
abbrev Qb:=@List.take_left
abbrev NT:=@List.take_length
abbrev N1:=@List.take_of_length_le
abbrev PT:=@List.take_succ_cons
abbrev M9:=@List.take_succ_eq_append_getElem
abbrev NS:=@List.toList_toArray
abbrev ON:=@Nat.add_mul
abbrev Oe:=@Nat.add_zero
abbrev PJ:=@Nat.le_of_lt
abbrev MV:=@Nat.le_refl
abbrev Ps:=@Nat.le_succ
abbrev Nm:=@Nat.le_trans
abbrev PC:=@Nat.lt_irrefl
abbrev Pb:=@Nat.lt_of_le_of_lt
abbrev M8:=@Nat.lt_of_lt_of_le
abbrev Oq:=@Nat.lt_or_ge
abbrev QM:=@Nat.lt_or_gt_of_ne
abbrev PR:=@Nat.min_def
abbrev P1:=@Nat.min_eq_left
abbrev O7:=@Nat.mul_le_mul_right
abbrev P6:=@Nat.mul_one
abbrev QH:=@Nat.not_lt_zero
abbrev Oa:=@Nat.zero_add
abbrev Nx:=@Nat.zero_le
abbrev Pi:=@Ne.symm
abbrev OV:=@Option.getD_some
abbrev OH:=@Option.map_some
abbrev NC:=@Option.some.inj
abbrev Qs:=@Option.some.injEq
abbrev Q8:=@Prod.ext
variable {tmps:Array M7}{fn:Func}{id:Int}{xs:List M7}{a b v v1 v3:M7}{w w':MO}{T e t:NU}{base g j k n:Nat}{P:O8}{o:Obj}{p:Oc}{x:Tmp}
abbrev Oh:=@beq_eq_false_iff_ne
abbrev M0:=@decide_eq_false
abbrev Nq:=@decide_eq_true
abbrev Nf:=@if_neg
abbrev Nh:=@if_pos
abbrev Nc:=@of_decide_eq_false
abbrev M2:=@of_decide_eq_true
abbrev yA(w v:MO):Prop:=MQ w.heap.size w v
abbrev yB(x:Int):Go.Value:=MF ME x
attribute [match_pattern] yB
theorem yE{α:Sort _}(x:α):∃y,y=x:=⟨x,rfl⟩
abbrev yZ:=And.intro @Act.put.eq_1 (And.intro @Act.put.eq_2 (And.intro (@List.getElem_toArray Oper) (And.intro (@List.getElem_cons_succ Oper) (And.intro (@List.getElem_cons_zero Oper) (And.intro (@List.setIfInBounds_toArray M7) (And.intro (@List.set_cons_zero M7) (And.intro (@List.set_cons_succ M7) (And.intro (@List.setIfInBounds_toArray Bool) (And.intro (@List.set_cons_zero Bool) (@List.set_cons_succ Bool))))))))))
section
variable{md:Region.Mode}{ops:Array Oper}{Q:Exit->Act->MO->Prop}{S:MO->Prop}{fuel:Nat}{listed:Array Bool}{c:Act}{x:Oper}
theorem yR(rs:List Nat)(h:AllReadyH P md ops Q S fuel listed c w rs)(hr:Region.ready md ops listed=rs:=by kernel_rfl)(hn:rs≠[]:=by simp):wpAnyH P md ops Q S (fuel+1) listed c w:=wpAnyH_ready hr hn h
theorem yQ(i:Nat)(h:∀K,Shut (∀a w,S w->(S w->wpAnyH P md ops Q S fuel (listed.setIfInBounds i true) a w)->K a w)->if Region.wanted x (yielded ops c.tmps)=true then x.wp P c w K Q else K (c.put x.dst undef) w)(hr:Region.ready md ops listed=[i]:=by kernel_rfl)(ho:ops[i]?=some x:=by rfl):wpAnyH P md ops Q S (fuel+1) listed c w:=yR [i] (AllReadyH.cons ho h AllReadyH.nil) hr
end
theorem WQ(w:MO):yA w (w.alloc o):=(MY _ _).alloc (MV _) _
theorem Za{W a:MO}(h:MQ W.drew.heap.size W.drew a):yA W a:=⟨h.os,h.tape,h.output,h.size,h.block⟩
theorem WO(h:w.heap[g]?=MI o)(hb:yA w w'):w'.heap[g]?=MI o:=(hb.block g (ZAa.1 h).1).trans h
theorem Xy(w:MO)(o:Obj){x:Obj}(h:w.heap[k]?=MI x):(w.alloc o).heap[k]?=MI x:=by
 rw[Ov _ _ _ (ZAa.1 h).1];exact h
theorem Yu(w:MO)(o p:Obj):((w.alloc o).alloc p).heap[w.heap.size+1]?=MI p:=by
 have:=M1 (w.alloc o) p
 simpa using this
theorem aeC(w:MO)(o p q:Obj):(((w.alloc o).alloc p).alloc q).heap[w.heap.size+1+1]?=MI q:=by
 have:=M1 ((w.alloc o).alloc p) q
 simpa using this
theorem Xp{cs:List M7}{d:TypeDesc}(h:w.heap[g]?=MI (MP cs.toArray T (0,0)))(hu:P.underlying T=MI d)(hd:d.isRow=Nw)(hi:(P.info? T).map (·.size)=MI cs.length):(loadVar T ⟨g,0,MH⟩).run P w=.ok (Ny cs.toArray) w :=
 run_loadVar_mid w g 0 T cs d (fun j v hv=>by rw[Oa,MW w g j _ T (0,0) h];simpa using hv) hu hd hi
theorem XY:MK.follows .mixedOrders=true:=by kernel_rfl
theorem Xu(h:w.heap[g]?=MI (MP #[a] T (0,0))):w.cell? ⟨g,0,MH⟩=MI a:=by simp[Nl,h]
theorem XT{z:Tmp}(h:fn.results=#[.cell x t,.tmp z])(hx:tmps.getD x PL=Na (MI p))(hz:tmps.getD z PL=v3)
  (h1:(loadVar t p).run P w=.ok v1 w):(Pf fn tmps).run P w=.ok (Nv #[v1,v3]) w:=by
 have d:∀a:Oc,(asAddr (Na (MI a))).run P w=.ok a w:=fun a=>rfl
 simp only[Pg]at hx hz;simp[Pf,h,hx,hz,d,h1,Pn]
theorem aeD{c:M7}(h:w.heap[g]?=MI (MP #[a,b,c] T (0,0))):w.cell? ⟨g,0,MH⟩=MI a/\w.cell? ⟨g,1,MH⟩=MI b/\w.cell? ⟨g,2,MH⟩=MI c/\g<w.heap.size :=
 ⟨by simp[Nl,h],by simp[Nl,h],by simp[Nl,h],(ZAa.1 h).1⟩
structure Zb(Q:Prop):Prop where
 out:Q
theorem aan{Q R:Prop}(m:Zb Q->R)(k:Q):R:=m ⟨k⟩
structure Cf where
 flows:Int
 num:Int
 den:Int
 tries:Int
 warm:Int
 drain:Int
 idle:Int
 conn:Int
 ret:Int
 most:Int
 bn:Int
 bd:Int
 bb:Int
 wn:Int
 wf:Int
 wh:Int
 deriving DecidableEq
def rv{α:Type}(c:α->List M7):List α->List M7
 | []=>[]
 |x::l=>c x++rv c l
def XB(w:MO)(v:M7)(n:Nat)(xs:List M7):Prop :=
 ∃a cap,v=MG a n cap/\n<=cap/\cap<=NE/\(n=0/\xs=[]\/∃b off,a=MI ⟨b,off,MH⟩/\b<w.heap.size/\∀i,i<xs.length->w.cell? ⟨b,off+i,MH⟩=xs[i]?)
def Xw{α:Type}(c:α->List M7)(w:MO)(v:M7)(l:List α):Prop:=XB w v l.length (rv c l)
section
variable {α : Type} {c : α → List M7} {k : Nat} {w w' : MO} {v : M7} {l : List α}
theorem Xw.Ga(h:Xw c w v l):∃a cap,v=MG a l.length cap/\l.length<=cap/\cap<=maxLen:=by
 obtain⟨a,cap,i,f,d,_⟩:=h;exact⟨a,cap,i,f,d⟩
end
theorem XB.below(h:XB w v n xs)(hb:yA w w'):XB w' v n xs:=by
 obtain⟨a,f,r,q,m,d|⟨b,off,d,s,u⟩⟩:=h
 ·exact⟨a,f,r,q,m,Nt d⟩
 ·exact⟨a,f,r,q,m,NF ⟨b,off,d,M8 s hb.size,fun i hi=>by rw[hb.cell (p:=⟨b,off+i,MH⟩) s];exact u i hi⟩⟩
theorem aas(g o j:Nat):(⟨g,o,MH⟩:Oc).add j=⟨g,o+j,MH⟩:=by unfold Addr.add;split <;> simp_all
theorem abl(g j:Nat):(⟨g,0,MH⟩:Oc).add j=⟨g,j,MH⟩:=by unfold Addr.add;split <;> simp_all
theorem aeY(w:MO)(t ty e:NU)(i:TypeInfo)(ht:P.underlying t=MI (.slice e))(hi:P.info? e=MI i)(q:Option Oc)(n d:Nat)(hn:n<=d)(hd:d<=NE)(p:Option Oc)(c:Nat):
  (N2 #[t,t] ty #[MG q n d,MG p 0 c]).run P w=.ok (MG q n d) w:=by
 unfold NE at hd;have f:¬(9223372036854775807<n):=by omega
 cases p <;> cases q <;> simp[N2,run_underlying ht,sizeOf,typeInfo,hi,Builtin.firstCells,Builtin.lenOf,loadCells,loadCellsFrom,hn,f,storeCells]
theorem acR(w:MO)(cs:List M7)(T:NU):∀j u,cs[j]?=MI u->(w.alloc (MP cs.toArray T)).cell? ((⟨w.heap.size,0,MH⟩:Oc).add j)=MI u:=by
 intro j u f;have d:(⟨w.heap.size,0,MH⟩:Oc).add j=⟨w.heap.size,j,MH⟩:=by unfold Addr.add;split <;> simp_all
 rw[d,MW _ w.heap.size j cs.toArray T (0,0) (M1 w _)]
 simpa using f
theorem W8(h:w.ownsRow base e k v n xs)(hs:∀g,v.ownBlock=MI g->w'.heap[g]?=w.heap[g]?):w'.ownsRow base e k v n xs:=by
 refine⟨h.1,?_⟩;rcases h.2 with r|⟨g,f,m,rfl,q,i,d⟩
 ·exact Nt r
 ·exact NF ⟨g,f,m,rfl,q,by rw[hs g rfl];exact i,d⟩
theorem Y6(h:w.ownsRow base e k v n xs):∃p c,v=MG p n c:=by
 rcases h.2 with⟨rfl,rfl⟩|⟨g,f,d,rfl,_⟩
 ·exact⟨_,_,rfl⟩
 ·exact⟨_,_,rfl⟩
theorem YI(h:w.ownsRow base e k v n xs)(hb:yA w w'):w'.ownsRow base e k v n xs:=W8 h fun g hg=>hb.block g (h.lt g hg).2
theorem Z2(h:fn.results=#[.cell x t])(hx:tmps.getD x PL=Na (MI p))
  (h1:(loadVar t p).run P w=.ok v1 w):(Pf fn tmps).run P w=.ok v1 w:=by
 have d:∀a:Oc,(asAddr (Na (MI a))).run P w=.ok a w:=fun a=>rfl
 simp only[Pg]at hx;simp[Pf,h,hx,d,h1,Pn]
theorem ae0{y z:Tmp}(h:fn.results=#[.cell x t,.tmp y,.tmp z]){v2:M7}(hx:tmps.getD x PL=Na (MI p))(hy:tmps.getD y PL=v2)(hz:tmps.getD z PL=v3)
  (h1:(loadVar t p).run P w=.ok v1 w):(Pf fn tmps).run P w=.ok (Nv #[v1,v2,v3]) w:=by
 have d:∀a:Oc,(asAddr (Na (MI a))).run P w=.ok a w:=fun a=>rfl
 simp only[Pg]at hx hy hz;simp[Pf,h,hx,hy,hz,d,h1,Pn]
theorem Z3(w:MO):XB w (MG MH 0 0) 0 []:=⟨MH,0,rfl,MV _,by unfold NE;omega,Nt ⟨rfl,rfl⟩⟩
theorem Yr(h:w.ownsRow base e k v n xs):XB w v n xs:=by
 obtain⟨r,⟨rfl,rfl⟩|⟨g,m,z,rfl,C,d,s,u,A,y⟩⟩:=h
 ·obtain rfl:xs=[]:=ZAc.1 (by simpa using r)
  exact Z3 w
 ·refine⟨_,m,rfl,s,u,NF ⟨g,0,rfl,?_,fun i hi=>?_⟩⟩
  ·rcases Oq g w.heap.size with q|f
   ·exact q
   ·rw[QT f]at d;cases d
  ·rw[<-y,O0 (by omega)]
   simp only[Nl,d,Oa];simp
theorem Xa(h:w.heap[g]?=MI (MP #[a,b] T (0,0))):w.cell? ⟨g,0,MH⟩=MI a/\w.cell? ⟨g,1,MH⟩=MI b/\w.frozen? ⟨g,0,MH⟩=Nb/\w.frozen? ⟨g,1,MH⟩=Nb/\g<w.heap.size:=by
 refine⟨by simp[Nl,h],by simp[Nl,h],by simp[Ng,h],by simp[Ng,h],?_⟩;exact(ZAa.1 h).1
abbrev acS(n f d:Int):Value:=Ny #[yB n,yB f,yB d]
theorem Z4{ops:Array Oper}{rest:List Oper}{o:Oper}{a:Act}{Q:Exit->Act->MO->Prop}(hgd:o.guard=MH)(s x:Operand)(t:NU)
  (ho:o.op=.call {callee:=.builtin .append,args:=#[s,x],argTypes:=#[t,t]}) (v u y:M7) (w':MO) (hs:a.eval s=v) (hx:a.eval x=u) (hr:(N2 #[t,t] o.type #[v,u]).run P w=.ok y w')
  (h:wpList P ops Q rest (a.put o.dst y) w'):wpList P ops Q (o::rest) a w :=
 wpList_plain hgd fun _ hK=>by
  unfold RB execOp;simp only[ho,resolve,invoke,builtin,Pn,P3,PG,PW,OA,P5,hs,hx,hr];exact hK _ _ h
theorem ae4{B:Nat}{row:Option Nat}(h:w.grownBy w' row)(hB:B<=w.heap.size)(hr:∀g,row=MI g->B<=g):MQ B w w':=(MY _ _).grown h hB hr
def WR(a:List Int):List Value:=a.map fun x=>yB x
def Xj(T:NU)(n:Nat)(w:MO)(g:Nat)(a:List Int):Prop:=w.heap[g]?=MI (MP (WR a).toArray T (0,0))/\a.length=n
section
variable {T : NU} {n : Nat} {w w' : MO} {g : Nat} {a b : List Int}
theorem Xj.Gf(h:Xj T n w g a)(hk:w'.heap[g]?=w.heap[g]?):Xj T n w' g a:=⟨hk.trans h.1,h.2⟩
end
section
variable {T : NU} {n : Nat} {w w' : MO} {g : Nat} {a b : List Int}
theorem Xj.lt(h:Xj T n w g a):g<w.heap.size:=(ZAa.1 h.1).1
end
section
variable {T : NU} {n : Nat} {w w' : MO} {g : Nat} {a b : List Int}
theorem Xj.below(h:Xj T n w g a)(hb:yA w w'):Xj T n w' g a:=h.Gf (hb.block g h.lt)
end
section
variable {T : NU} {n : Nat} {w w' : MO} {g : Nat} {a b : List Int}
theorem Xj.F7(h:Xj T n w g a)(i:Nat)(hi:i<a.length):w.cell? ⟨g,i,MH⟩=MI (yB a[i]):=by
 rw[MW w g i _ T (0,0) h.1];simp[WR,hi]
end
section
variable {T : NU} {n : Nat} {w w' : MO} {g : Nat} {a b : List Int}
theorem Xj.Gu(h:Xj T n w g a)(i:Nat):w.frozen? ⟨g,i,MH⟩=false:=by simp[Ng,h.1]
end
section
variable {T : NU} {n : Nat} {w w' : MO} {g : Nat} {a b : List Int}
theorem Xj.F4(h:Xj T n w g a)(i:Nat)(x:Int):Xj T n (w.setCell ⟨g,i,MH⟩ (yB x)) g (a.set i x):=by
 refine⟨?_,by rw[NA];exact h.2⟩;rw[NI w g i _ T _ h.1];simp[WR,List.map_set]
end
abbrev Ld:=Int×Int×Int
theorem Zv(a:List Int):(WR a).length=a.length:=by simp[WR]
def Yn:Option Nat->Int
 |none=>-1
 |some k=>k
theorem adB:(MK.info? 3).map (fun i=>(i.zero,i.size,i.bytes))=MI (MI (yB 0),1,8):=by kernel_rfl
abbrev Tm:=Int×Int
variable {junk l:List Tm}
def WP:List Tm->List M7
 | []=>[]
 |t::l=>yB t.1::yB t.2::WP l
def Xz(w:MO)(v:M7)(l:List Tm):Prop:=XB w v l.length (WP l)
theorem Xz.below(h:Xz w v l)(hb:yA w w'):Xz w' v l:=XB.below h hb
theorem aaT:∀(l:List Tm) (i:Nat) (h:i<l.length),(WP l)[i*2]?=MI (yB l[i].1)/\(WP l)[i*2+1]?=MI (yB l[i].2)
 |t::l,0,_=>by simp[WP]
 |t::l,i+1,h=>by
  have d:=aaT l i (by simpa using h);rw[show(i+1)*2=i*2+1+1 by omega]
  simpa [WP]using d
theorem YE:∀l:List Tm,(WP l).length=l.length*2
 | []=>rfl
 |t::l=>by simp[WP,YE l];omega
theorem Xz.F6(h:Xz w v l):
  ∃a cap,v=MG a l.length cap/\l.length<=cap/\cap<=NE/\∀i (hi:i<l.length),∃b off,a=MI ⟨b,off,MH⟩/\b<w.heap.size/\w.cell? ⟨b,off+i*2,MH⟩=MI (yB l[i].1)/\w.cell? ⟨b,off+i*2+1,MH⟩=MI (yB l[i].2):=by
 obtain⟨a,cap,r,q,m,f|⟨b,off,f,s,d⟩⟩:=h
 ·exact⟨a,cap,r,q,m,fun i hi=>absurd hi (by omega)⟩
 ·refine⟨a,cap,r,q,m,fun i hi=>⟨b,off,f,s,?_,?_⟩⟩
  ·rw[d (i*2) (by rw[YE];omega)];exact(aaT l i hi).1
  ·rw[Nat.add_assoc,d (i*2+1) (by rw[YE];omega)];exact(aaT l i hi).2
def YK(a b:Int):Int:=if a<b then -1 else if b<a then 1 else 0
def Xe(a b:Tm):Int:=if a.1<b.1 then -1 else if b.1<a.1 then 1 else if a.2<b.2 then -1 else if b.2<a.2 then 1 else 0
theorem aiC(a b:Tm):Xe a b=if YK a.1 b.1=0 then YK a.2 b.2 else YK a.1 b.1:=by
 unfold Xe YK
 repeat' split
 all_goals first|rfl|omega
theorem acY{a b:Tm}:Xe a b<0↔a.1<b.1\/a.1=b.1/\a.2<b.2:=by
 unfold Xe
 repeat' split
 all_goals omega
theorem aef{a b c:Tm}(h1:Xe a b<0)(h2:Xe b c<0):Xe a c<0:=by
 rw[acY]at *;omega
theorem aeg(a b:Int)(w:MO):Ni MK 265 #[yB a,yB b] w fun r w'=>r=MN (yB (YK a b))/\w'=w:=by
 unfold YK
 by_cases h1:a<b
 ·rw[Nh h1]
  go_enter aAS,aAI;go_wp2;go_ret;exact⟨rfl,rfl⟩
 ·rw[Nf h1]
  by_cases h2:b<a
  ·rw[Nh h2]
   go_enter aAS,aAI;go_wp2;go_ret;exact⟨rfl,rfl⟩
  ·rw[Nf h2]
   obtain rfl:a=b:=by omega
   go_enter aAS,aAI;go_wp2;go_ret;exact⟨rfl,rfl⟩
theorem adG(h:j<l.length):l.drop j=l[j]::l.drop (j+1):=(Pp h).symm
theorem aiH{row:Option Nat}(hb:yA w w'):w.grownBy w' row:=⟨hb.os,hb.tape,hb.output,hb.size,fun k hk _=>hb.block k hk⟩
theorem ac0(T:NU)(g:Nat):∀(vs pre old:List M7) (w:MO),old.length=vs.length->w.heap[g]?=MI (MP (pre++old).toArray T (0,0))->(w.setCells g pre.length vs).heap[g]?=MI (MP (pre++vs).toArray T (0,0))
 | [],pre,old,w,ho,h=>by
  obtain rfl:old=[]:=ZAc.1 (by simpa using ho);exact h
 |v::vs,pre,[],w,ho,h=>by simp at ho
 |v::vs,pre,u::old,w,ho,h=>by
  have d:=NI w g pre.length _ T v h;have e:(pre++u::old).toArray.setIfInBounds pre.length v=((pre++[v])++old).toArray:=by
   apply Array.toList_inj.1;simp
  rw[e]at d;have f:=ac0 T g vs (pre++[v]) old _ (by simpa using ho) d;rw[Qd]
  simpa using f
theorem afd{v2 v4:M7}(h1:w.cell? ⟨g,0,MH⟩=MI v1)(h2:w.cell? ⟨g,1,MH⟩=MI v2)(h3:w.cell? ⟨k,0,MH⟩=MI v3)(h4:w.cell? ⟨k,1,MH⟩=MI v4)
  (hb:yA w w'):w'.cell? ⟨g,0,MH⟩=MI v1/\w'.cell? ⟨g,1,MH⟩=MI v2/\w'.cell? ⟨k,0,MH⟩=MI v3/\w'.cell? ⟨k,1,MH⟩=MI v4/\yA w w' :=
 ⟨(hb.cell (p:=⟨g,0,MH⟩) (MX w ⟨g,0,MH⟩ h1)).trans h1,(hb.cell (p:=⟨g,1,MH⟩) (MX w ⟨g,1,MH⟩ h2)).trans h2,(hb.cell (p:=⟨k,0,MH⟩) (MX w ⟨k,0,MH⟩ h3)).trans h3,(hb.cell (p:=⟨k,1,MH⟩) (MX w ⟨k,1,MH⟩ h4)).trans h4,hb⟩
def kp(l:List Tm)(id:Int):List Tm:=l.filter fun t=>Nn (t.2≠id)
theorem aiI(h:∀t∈l,t.2≠id):kp l id=l:=List.filter_eq_self.2 fun t ht=>by simpa using h t ht
theorem afe(l:List Tm)(t:Tm)(id:Int):kp (l++[t]) id=kp l id++if t.2=id then []else [t]:=by
 unfold kp;rw[OY]
 by_cases h:t.2=id <;> simp[h]
def XE(l:List Tm)(id:Int)(junk:List Tm)(j:Nat):List Tm:=kp (l.take j) id++junk++l.drop j
theorem aiL(hj:j<l.length)(hl:(kp (l.take j) id).length+junk.length=j):(XE l id junk j)[j]?=MI l[j]:=by
 unfold XE;rw[Tw (by rw[Ns];omega),Ns,hl,Nat.sub_self,adG hj];rfl
theorem aiM(hj:j<=l.length)(hl:(kp (l.take j) id).length+junk.length=j):(XE l id junk j).length=l.length:=by
 unfold XE;rw[Ns,Ns,NJ];omega
theorem afh(hj:j<l.length)(e:l[j].2=id):XE l id (junk++[l[j]]) (j+1)=XE l id junk j/\kp (l.take (j+1)) id=kp (l.take j) id:=by
 have d:kp (l.take (j+1)) id=kp (l.take j) id:=by rw[M9 hj,afe,Nh e,OG]
 refine⟨?_,d⟩;unfold XE;rw[d,adG hj];simp
theorem aiN{x:Tm}(hj:j<l.length)(e:l[j].2≠id):XE l id (junk++[l[j]]) (j+1)=(XE l id (x::junk) j).set (kp (l.take j) id).length l[j]/\kp (l.take (j+1)) id=kp (l.take j) id++[l[j]]:=by
 have d:kp (l.take (j+1)) id=kp (l.take j) id++[l[j]]:=by rw[M9 hj,afe,Nf e]
 refine⟨?_,d⟩;unfold XE;rw[d,adG hj];simp
theorem aiO(a b:Int)(g:Nat)(w:MO)(h0:w.cell? ⟨g,0,MH⟩=MI (yB a))(h1:w.cell? ⟨g,1,MH⟩=MI (yB b)) :
  Ni MK 301 #[MG (MI ⟨g,0,MH⟩) 2 2] w fun r w'=>r=MN (yB (if a=0 then b else a))/\w'=w:=by
 obtain⟨d,u⟩:=yE (if a=0 then b else a)
 rw[<-u];have H:M6 _:=u;clear u;go_enter Tryz.func301,Tryz.ntmps301;go_wp2
 go_loop [8] (fun i=>∃k:Nat,i=yB k/\k<=2/\(1<=k->a=0)/\(2<=k->b=0)) (fun i=>2-(intOf i).toNat)
 case atStart=>exact⟨0,rfl,by omega,by omega,by omega⟩
 case round =>
  obtain⟨k,rfl,C,f,m⟩:=hrel;have z:k=0\/k=1\/k=2:=by omega
  rcases z with rfl|rfl|rfl
  ·cases q:(a != 0)
   ·have y:a=0:=by simpa using q
    clear f m;go_wp2
    go_round
    case rel=>exact⟨1,rfl,by omega,fun _=>y,by omega⟩
    case measure=>simp[intOf]
   ·have s:M6 (d=a):=by show d=a;rw[H.out,Nf (by simpa using q)]
    clear f m;go_wp2;go_ret;exact⟨by rw[s.out];rfl,rfl⟩
  ·have q:=f (by omega)
   cases hb:(b != 0)
   ·have A:b=0:=by simpa using hb
    clear f m;go_wp2
    go_round
    case rel=>exact⟨2,rfl,by omega,fun _=>q,fun _=>A⟩
    case measure=>simp[intOf]
   ·have s:M6 (d=b):=by show d=b;rw[H.out,Nh q]
    clear f m q;go_wp2;go_ret;exact⟨by rw[s.out];rfl,rfl⟩
  ·have s:M6 (d=0):=by show d=0;rw[H.out,Nh (f (by omega)),m (by omega)]
   clear f m;go_wp2;go_ret;exact⟨by rw[s.out];rfl,rfl⟩
theorem agD(h:w.ownsRow base e k v n xs)(hb:yA w w'):w'.ownsRow base e k v n xs:=W8 h fun g hg=>hb.block g (h.lt g hg).2
theorem agE{cap size i:Nat}(h:w.ownsRow base e size (MG (MI ⟨g,0,MH⟩) n cap) n xs)(hi:i<=n):w.ownsRow base e size (MG (MI ⟨g,0,MH⟩) i cap) i (xs.take (i*size)):=by
 rcases h.2 with⟨d,_⟩|⟨C,z,r,d,y,u,A,s,q,f⟩
 ·simp at d
 ·simp only[N4,Qs,Q1,and_true,true_and]at d
  obtain⟨rfl,rfl⟩:=d;have m:=O7 size hi;refine⟨by rw[NH,h.1];omega,NF ⟨g,cap,r,rfl,y,u,by omega,s,q,?_⟩⟩;rw[<-f,List.take_take,P1 m]
theorem aeh{base g n cap size:Nat}{e:NU}{xs:List M7}:∀(vs:List M7) (o:Nat) (w:MO),w.ownsRow base e size (MG (MI ⟨g,0,MH⟩) n cap) n xs->n*size<=o->(w.setCells g o vs).ownsRow base e size (MG (MI ⟨g,0,MH⟩) n cap) n xs/\w.grownBy (w.setCells g o vs) (MI g)
 | [],o,w,h,_=>⟨h,World.grownBy.refl _ _⟩
 |v::vs,o,w,h,ho=>by
  have d:=h.stored o v;rw[List.set_eq_of_length_le (by rw[h.1];exact ho)]at d;have f:=aeh vs (o+1) _ d.1 (by omega);rw[Qd];exact⟨f.1,⟨f.2.os.trans d.2.os,f.2.tape.trans d.2.tape,f.2.output.trans d.2.output,Nm d.2.size f.2.size,fun k hk hne=>(f.2.block k (M8 hk d.2.size) hne).trans (d.2.block k hk hne)⟩⟩
theorem aiR(w:MO)(t e ty:NU)(a b:M7)(ht:P.underlying t=MI (.slice e))(hv:∀w,(zeroValue e).run P w=.ok (Ny #[a,b]) w)(h1:a.oneCell'=Nw)(h2:b.oneCell'=Nw)(g o n c:Nat)(hn:0<n)
  (hc:∀j,j<n*2->(w.cell? ⟨g,o+j,MH⟩).isSome=Nw) (hf:∀j,j<n*2->w.frozen? ⟨g,o+j,MH⟩=Nb) :
  ∃vs,(Rs #[t] ty #[MG (MI ⟨g,o,MH⟩) n c]).run P w=.ok (Nv #[]) (w.setCells g o vs):=by
 have f:(N5 #[a,b] n).toList.length=n*2:=by rw[Om,size_zeroCells];rfl
 have r:∀v∈(N5 #[a,b] n).toList,v.oneCell'=true:=by
  intro v hv;simp only[N5,Array.toList_map,ZAd]at hv;obtain⟨i,_,rfl⟩:=hv;have:i % (#[a,b]:Array M7).size<2:=Nat.mod_lt _ (by simp);have q:i % (#[a,b]:Array M7).size=0\/i % (#[a,b]:Array M7).size=1:=by omega
  rcases q with e|e <;> rw[e]
  ·exact h1
  ·exact h2
 have d:=run_storeCells_cells (P:=P) g o (N5 #[a,b] n).toList 0 w (by rw[f];simpa using hc) (by rw[f];simpa using hf) r;simp only[Oe]at d;refine⟨(N5 #[a,b] n).toList,?_⟩;obtain⟨m,rfl⟩:∃m,n=m+1:=⟨n-1,by omega⟩;simp[Rs,run_underlying ht,hv,Value.cells,d]
theorem afj:∀(l:List Tm) (j:Nat) (t:Tm),((WP l).set (j*2) (yB t.1)).set (j*2+1) (yB t.2)=WP (l.set j t)
 | [],j,t=>by simp[WP]
 |x::l,0,t=>by simp[WP]
 |x::l,j+1,t=>by
  have:=afj l j t;rw[show(j+1)*2=j*2+1+1 by omega];simp[WP,this]
theorem ac4:∀(l:List Tm) (i:Nat),(WP l).take (i*2)=WP (l.take i)
 | [],i=>by simp[WP]
 |t::l,0=>by simp[WP]
 |t::l,i+1=>by rw[show(i+1)*2=i*2+1+1 by omega];simp[WP,ac4 l i]
theorem YF(w:MO):yA w (w.alloc o):=(MY _ _).alloc (MV _) _
theorem ai9(h:w.heap[g]?=MI (MP #[] e (0,0)))(hb:base<=g):w.ownsRow base e k (MG (MI ⟨g,0,MH⟩) 0 0) 0 []:=
 ⟨by simp,NF ⟨g,0,#[],rfl,hb,h,MV _,by unfold NE;omega,by simp,by simp⟩⟩
theorem aa7:∀l m:List Tm,WP (l++m)=WP l++WP m
 | [],_=>rfl
 |t::l,m=>by simp[WP,aa7 l m]
theorem abJ (l : List Tm) : ∀ u ∈ WP l, u.oneCell' = true := by
  induction l with
  | nil => simp [WP]
  | cons t l ih => simp only [WP, OO]; rintro u (rfl | rfl | h); · rfl
                   · rfl
                   · exact ih u h
theorem acb{c d:M7}(h:w.heap[g]?=MI (MP #[a,b] T (0,0))):((w.setCell ⟨g,0,MH⟩ c).setCell ⟨g,1,MH⟩ d).heap[g]?=MI (MP #[c,d] T (0,0)):=
 NI _ _ 1 _ _ d (NI w g 0 _ _ c h)
theorem ag0(w:MO)(t tn ty e:NU)(i:TypeInfo)(z:M7)(kn:IntKind)(size bytes:Nat)(ht:P.underlying t=MI (.slice e))(htn:P.underlying tn=MI (.int kn))(hi:P.info? e=MI i)(hz:i.zero=MI z)
  (hsize:i.size=size) (hby:i.bytes=bytes) (hzs:z.cells.size=size) (hsz:0<size) (base:Nat) (ad:Oc) (n cap m:Nat) (cs:List M7) (hl:cs.length=n*size) (hc:∀j v,cs[j]?=MI v->w.cell? (ad.add j)=MI v)
  (hm:0<m) (hroom:cap<n+m) (h63:n+m<=NE) (hbytes:(n+m)*bytes<=140737488355328) (hbase:base<=w.heap.size) :
  ∃cap' zs w',(N2 #[t,tn] ty #[MG (MI ad) n cap,yB (m:Int)]).run P w=.ok (MG (MI ⟨w.heap.size,0,MH⟩) (n+m) cap') w' /\
   w'.ownsRow base e size (MG (MI ⟨w.heap.size,0,MH⟩) (n+m) cap') (n+m) (cs++zs)/\zs.length=m*size/\n+m<=cap'/\w.grownBy w' MH/\w'.heap.size=w.heap.size+1:=by
 subst hsize;subst hby
 have F:n+m<=9223372036854775807:=by simp only[NE]at h63;omega
 have D:=run_firstCells_some (P:=P) w.drew i.size n ad n cap cs hl hc;have d:=grownCap_ge w (n+m) cap e;have A:QR w (n+m) cap e<=maxLen:=grownCap_le_maxLen w (n+m) cap e h63;refine⟨QR w (n+m) cap e,(N5 z.cells m).toList,w.drew.alloc (MP (cs.toArray++N5 z.cells m++N5 z.cells (QR w (n+m) cap e-(n+m))) e),?_,⟨?_,NF ⟨w.heap.size,_,_,rfl,hbase,M1 w.drew _,d,A,?_,?_⟩⟩,?_,d,⟨rfl,rfl,rfl,by simp,fun k hk _=>Ov w.drew _ k hk⟩,by simp⟩
 ·have f:m≠0:=by omega
  have C:IntKind.i64.wrap (m:Int)=m:=by rw[Ow];omega
  have y:¬(281474976710656<Builtin.nextslicecap (n+m) cap*i.bytes):=by have:=growslice_fits hroom hbytes;omega
  have G:m*i.bytes<=(n+m)*i.bytes:=O7 _ (by omega);have r:¬(281474976710656<(m:Int)*(i.bytes:Int)):=by rw[<-Int.natCast_mul];omega
  have s:¬((m:Int)<0):=by omega
  have u:¬(m*i.size=0):=Nat.mul_ne_zero f (by omega);have E:¬(n+m<=cap):=by omega
  have q:¬(9223372036854775807<(n:Int)+(m:Int)):=by omega
  simp[N2,run_underlying ht,run_underlying htn,sizeOf,typeInfo,zeroValue,hi,hz,asInt,asIntOf,C,f,s,u,E,q,y,r,Question.forced,D,newRow,QR]
 ·simp only[Ns,Om,size_zeroCells,hzs,hl,ON]
 ·simp only[RD,OQ,size_zeroCells,hzs,hl,<-ON]
  congr 1
  omega
 ·simp only[Rh,OC]
  rw[<-OC];have:(cs++(N5 z.cells m).toList).length=(n+m)*i.size:=by
   simp only[Ns,Om,size_zeroCells,hzs,hl,ON]
  rw[<-this];exact Qb
 ·simp only[Om,size_zeroCells,hzs]
theorem aa8(w:MO)(T ty e:NU)(k:Nat)(hu:P.underlying T=MI (.slice e))(hs:(P.info? e).map (·.size)=MI k)(base g n cap:Nat)(xs:List M7)
  (hown:w.ownsRow base e k (MG (MI ⟨g,0,MH⟩) n cap) n xs) (o dLen dCap:Nat) (a:Oc) (sLen sCap m:Nat) (cs:List M7) (hm:m=Nat.min sLen dLen) (hl:cs.length=m*k) (hfit:o+cs.length<=n*k)
  (hsrc:∀j v,cs[j]?=MI v->w.cell? (a.add j)=MI v) (h1:∀v∈cs,v.oneCell'=Nw) :
  ∃w',(Tt #[T,T] ty #[MG (MI ⟨g,o,MH⟩) dLen dCap,MG (MI a) sLen sCap]).run P w=.ok (goInt m) w' /\
   w'.ownsRow base e k (MG (MI ⟨g,0,MH⟩) n cap) n (xs.take o++cs++xs.drop (o+cs.length))/\w.grownBy w' (MI g):=by
 rcases hown.2 with⟨h,_⟩|⟨I,G,d,h,E,r,f,A,z,s⟩
 ·cases h
 ·simp only[N4,Qs,Q1,and_true,true_and]at h
  obtain⟨rfl,rfl⟩:=h;have H:n*k<=d.size:=by rw[z];exact O7 _ f
  have y:=run_loadCells_list (P:=P) w a cs hsrc;have q:=run_storeCells_at P g o e cs 0 d w r (by simp;omega) h1;simp only[Oe]at q;refine⟨w.setRow g (d.toList.take o++cs++d.toList.drop (o+cs.length)).toArray,?_,⟨?_,NF ⟨g,cap,_,rfl,E,setRow_heap w g d _ e _ r,f,A,?_,?_⟩⟩,⟨rfl,rfl,rfl,by simp,fun j _ hj=>setRow_other w g j _ (fun e=>hj (by simp[e]))⟩⟩
  ·cases hq:P.info? e with
   |none=>simp[hq]at hs
   |some i =>
    have D:i.size=k:=by simpa [hq]using hs
    simp[Tt,run_underlying hu,Builtin.lenOf,Builtin.firstCells,sizeOf,typeInfo,hq,D,<-hm,<-hl,y,q]
  ·have u:=hown.1
   simp only[Ns,NH,NJ,u];omega
  ·simp only[OQ,Ns,NH,NJ,Om]
   omega
  ·rw[<-s]
   apply Ot;intro j;simp only[List.getElem?_take,Q9,Ns,NH,NJ,Pa,Om];have F:min o d.size=o:=by omega
   have C:min o (min (n*k) d.size)=o:=by omega
   rw[F,C]
   by_cases hj:j<n*k
   ·rw[Nh hj]
    by_cases h1:j<o+cs.length
    ·rw[Nh h1,Nh h1]
     by_cases h2:j<o
     ·rw[Nh h2,Nh h2,Nh h2,Nh h2,Nh hj]
     ·rw[Nf h2,Nf h2]
    ·rw[Nf h1,Nf h1,Nh (by omega)]
   ·rw[Nf hj]
    have:¬j<o+cs.length:=by omega
    rw[Nf this,Nf (by omega)]
theorem aez{x:Int}(h1:-1000000<=x)(h2:x<=1000000):(N6 ME x).wf=true:=by
 have f:IntKind.i64.min = -9223372036854775808:=by decide
 have d:IntKind.i64.max=9223372036854775807:=by decide
 simp only[Lit.wf,f,d,Po,decide_eq_true_eq];omega
end Go.Proofs.YtbdpocjfnnojbaaGreatDoor.Q
