/-
  Contracts of the layers and of core, part 20. Conditions: as each theorem says.
-/
import Derived.Test.YtlnbhjdhcmgljaaGreatDoorRows
import Derived.Deep.Fields
import Derived.LaidMore
import Derived.Stop.Joined
import Derived.Test.YtlnbhjdhcmgljaaGreatDoorQ18
import Derived.Test.YtlnbhjdhcmgljaaGreatDoorQ19
open Array renaming getElem?_eq_getElem->PN
open Bool renaming and_eq_true->Po,false->Nb,true->Nw
open Decidable renaming decide->Nn
open Go renaming Addr->Oc,Calls->Ni,Program->O8,TypeId->NU,Value->M7,World->MO,all_oneCell_toArray->OE,cell_of_row->MW,heap_alloc_new->M1,heap_setCell_same->NI,maxLen->NE,wpAnyH_done->PS,wpAnyH_ready->NN,wpList_load_mid->O3,wpList_store_mid->OW,wpQuiet_nil->Oy,wp_region_held_drew->O2,yieldsIf_load_mid->Pt
open Go.Act renaming put->Nr
open Go.AllReadyH renaming cons->NP,nil->NX
open Go.Builtin renaming append_->N2
open Go.Calls renaming mono->Nd
open Go.DataW renaming trod->Ry,trod_array->Ti,trod_int->QW,trod_struct->Tg
open Go.Ending renaming returned->MN
open Go.Instr renaming build->QA,buildSlice->Q0
open Go.IntKind renaming i64->ME
open Go.Lit renaming int->N6
open Go.Obj renaming cells->MP
open Go.Oper renaming wp->RB
open Go.Operand renaming tmp->O6
open Go.Proofs.Tryz renaming prog->MK,underlying3->Ol,underlying34->O5,underlying35->Ph,underlying54->U1,underlying59->RH
open Go.Region renaming wanted->Pz
open Go.Result renaming andThen_ok->PG
open Go.RowKit renaming Below->MQ,Hid->M6
open Go.RowKit.Below renaming heap_setCell->MU,refl->MY
open Go.Sem renaming run_bind->Pn,run_pure->P3
open Go.Value renaming agg->Ny,bool->M3,int->MF,pointer->Na,slice->MG,tuple->Nv
open Go.World renaming block_lt_of_cell?->MX,cell?_of_block->NG,frozen?->Ng,heap_setCells_other->N8,setCells->Qd
open Int renaming le_refl->Qh
open List renaming append_assoc->OC,append_nil->OG,ext_getElem?->Ot,filter_append->OY,getElem?_append_left->OJ,getElem?_append_right->Tw,getElem?_drop->Pa,getElem?_eq_getElem->MR,getElem?_eq_none->Nz,getElem?_take_of_lt->O0,getElem_cons_succ->MT,getElem_cons_zero->MS,getElem_map->QZ,getElem_mem->Nk,getElem_toArray->MZ,length_append->Ns,length_map->N0,length_singleton->OU,map_append->OI,map_cons->OA,map_nil->P5,map_toArray->PW,mem_cons->OO,not_mem_nil->OD,range->Pm,setIfInBounds_toArray->MJ,set_cons_succ->MM,set_cons_zero->ML,size_toArray->OQ,take_of_length_le->N1,take_succ_eq_append_getElem->M9,toList_toArray->NS
open Nat renaming div_lt_of_lt_mul->Sj,le_of_lt->PJ,le_refl->MV,le_trans->Nm,lt_of_lt_of_le->M8,mul_comm->R5,zero_le->Nx
open Option renaming none->MH,some->MI
open Option.some renaming inj->NC
open Or renaming inl->Nt,inr->NF
open Prod.mk renaming injEq->Q7
namespace Go.Proofs.YtlnbhjdhcmgljaaGreatDoor.Q
set_option linter.unusedVariables false
set_option linter.unusedSimpArgs false
set_option maxHeartbeats 16000000
set_option maxRecDepth 100000
open Go.RowKit
attribute [local go_sem ↓] Go.wp_at_zero Go.wp_at_succ
variable {a:Act}{fs:Array Field}{ops:Array Oper}{Q:Exit->Act->MO->Prop}{Y w1:MO}{S:MO->Prop}{t:NU}{fuel:Nat}{o:Oper}
section
open Go.ChangeShapes Go.WideShapes Go.ChangeAt Go.Deep
def J2(P:O8):Nat->NU->Bool
 |0,_=>Nb
 |d+1,t=>match P.underlying t with
  |some (.int ME)=>P.cellsOf t == 1
  |some (.struct fs)=>(Pm (P.cellsOf t)).all fun i=>(Pm fs.size).any fun j=>match fs[j]? with
   |some f=>Nn (f.offset<=i) && Nn (i<f.offset+P.cellsOf f.type) && J2 P d f.type
   |none=>Nb
  |some (.array n e)=>J2 P d e && Nn (0<P.cellsOf e) && Nn (P.cellsOf t=n*P.cellsOf e)
  |_=>Nb
section
variable {H:Type}{enc:NU×M7->H}{P:O8}{w:MO}{base:Nat}{spare:Nat->Bool}{held:Bool}
theorem Kl:∀(d:Nat) {t:NU} {fuel:Nat} {cs:List M7} {x:DataW H×List MemPlace},J2 P d t=Nw->Ry enc P w base spare held fuel t cs=MI x->∀i,i<P.cellsOf t->∃n:Int,cs[i]?=MI (MF ME n)/\(N6 ME n).wf=Nw
 |0,_,_,_,_,hf,_,_,_=>by simp[J2]at hf
 |d+1,t,fuel,cs,x,hf,h,i,hi=>by
  unfold J2 at hf
  split at hf
  ·rename_i hu
   obtain⟨n,rfl,_,hw⟩:=QW hu h;have:P.cellsOf t=1:=by simpa using hf
   obtain rfl:i=0:=by omega
   exact⟨n,rfl,hw⟩
  ·rename_i fs hu
   obtain⟨xs,k,_,_,_,hl,hx⟩:=Tg hu h;have h1:=List.all_eq_true.1 hf i (List.mem_range.2 hi);obtain⟨j,hj,h2⟩:=List.any_eq_true.1 h1;have hj':=List.mem_range.1 hj;rw[PN hj']at h2;simp only[Po,decide_eq_true_eq]at h2;obtain⟨⟨h3,h4⟩,h5⟩:=h2;have h6:=hx j fs[j] (PN hj');rw[MR (by rw[hl];exact hj')]at h6;obtain⟨n,h7,h8⟩:=Kl d h5 h6 (i-fs[j].offset) (by omega);refine⟨n,?_,h8⟩;rw[O0 (by omega),Pa]at h7;rwa[show fs[j].offset+(i-fs[j].offset)=i by omega]at h7
  ·rename_i n e hu
   simp only[Po,decide_eq_true_eq]at hf;obtain⟨⟨hf,hpos⟩,hct⟩:=hf;obtain⟨xs,k,_,_,hlen,hl,hx⟩:=Ti hu h;have hdiv:i / P.cellsOf e<n:=Sj (by rw[R5,<-hct];exact hi);have hmod:=Nat.mod_lt i hpos;have h6:=hx (i / P.cellsOf e) hdiv;rw[MR (by rw[hl];exact hdiv)]at h6;obtain⟨m,h7,h8⟩:=Kl d hf h6 (i % P.cellsOf e) hmod;refine⟨m,?_,h8⟩;rw[O0 hmod,Pa]at h7;rwa[show i / P.cellsOf e*P.cellsOf e+i % P.cellsOf e=i by rw[R5];exact Nat.div_add_mod i _]at h7
  ·cases hf
theorem Lt{cs:Array M7}(h:cs.size=16)(f:Nat->Int)(hf:∀i,i<16->cs.toList[i]?=MI (MF ME (f i))):cs=#[MF ME (f 0),MF ME (f 1),MF ME (f 2),MF ME (f 3),MF ME (f 4),MF ME (f 5),MF ME (f 6),MF ME (f 7),MF ME (f 8),MF ME (f 9),MF ME (f 10),MF ME (f 11),MF ME (f 12),MF ME (f 13),MF ME (f 14),MF ME (f 15)]:=by
 apply Array.toList_inj.1;apply Ot;intro i
 by_cases hi:i<16
 ·rw[hf i hi]
  have:i=0\/i=1\/i=2\/i=3\/i=4\/i=5\/i=6\/i=7\/i=8\/i=9\/i=10\/i=11\/i=12\/i=13\/i=14\/i=15:=by omega
  rcases this with rfl|rfl|rfl|rfl|rfl|rfl|rfl|rfl|rfl|rfl|rfl|rfl|rfl|rfl|rfl|rfl <;> rfl
 ·rw[Nz (by simp[h];omega),Nz (by simp;omega)]
theorem L5{r:Reach}{b0:Nat}{v:M7}{d:DataW H}{p:List MemPlace}(hs:P.underlying t=MI (.struct fs))(hc:P.cellsOf t=16)(hfl:J2 P 3 t=Nw)
  (hv:Value.okWide P w r b0 t v) (h:DataW.Trod enc P w base spare held t v d p):∃f:Nat->Int,v=BD (f 0) (f 1) (f 2) (f 3) (f 4) (f 5) (f 6) (f 7) (f 8) (f 9) (f 10) (f 11) (f 12) (f 13) (f 14) (f 15)/\∀i,i<16->(N6 ME (f i)).wf=true:=by
 obtain⟨cs,rfl,hsz⟩:=okWide_struct hs hv;obtain⟨fuel,hf⟩:=h;have h1:=Kl 3 hfl hf;rw[hc]at h1 hsz;obtain⟨f,hff⟩:=choose_lt h1;refine⟨f,?_,fun i hi=>(hff i hi).2⟩;rw[Lt hsz f (fun i hi=>(hff i hi).1)]
end
theorem LE:Tryz.prog.globalNamed "usher/wheel.blocks"=MI 0:=by kernel_rfl
theorem LY:(Tryz.prog.globals[0]?).map (·.type)=MI 22:=by kernel_rfl
abbrev KU:List (String×DataW Unit):=[("usher/wheel.blocks",Rows.laid_usher_wheel_blocks)]
theorem L3(os:Os)(args:Array M7):laidMetH MK KU ((World.doorLaid MK 400 os).forCall (fun _ _=>0) ⟨#[],args,[]⟩).memory :=
 laidMetH_of_parts3 (fuel:=8) (laidMet_of_run' 8 (by kernel_rfl) (by kernel_rfl)) (by kernel_rfl) (by kernel_rfl)
theorem L0{W:MO}(h:laidMetH MK KU W):aK W:=by
 rw[MakeChecks.laidMetH_plain _ _ _ (by kernel_rfl)]at h;obtain⟨ps,⟨g1,t1,cs1,f1,p1,q1,hg1,ht1,hv1,hdt1,_,_⟩,_,_⟩:=h;obtain rfl:=NC (LE.symm.trans hg1);obtain rfl:=NC (LY.symm.trans ht1);obtain⟨xs,m1,rfl,hx1,hlen,hn3,hel⟩:=Ti Tryz.underlying22 hdt1;have c3:Tryz.prog.cellsOf 3=1:=by kernel_rfl
 have h0:=hel 0 (by decide);have h1:=hel 1 (by decide);have h2:=hel 2 (by decide);have hvc:=fun i=>World.var?_cell hg1 hv1 i
 simp only[Rows.laid_usher_wheel_blocks,Q7,DataW.agg.injEq]at hx1
 match xs,hn3,hx1,h0,h1,h2 with
 | [x0,x1,x2],_,hx1,h0,h1,h2 =>
  simp only[OA,P5,List.cons.injEq]at hx1;obtain⟨k0,e0,y0,_⟩:=QW Ol (show Ry _ MK W 0 _ Nb m1 3 _=MI x0 from h0);obtain⟨k1,e1,y1,_⟩:=QW Ol (show Ry _ MK W 0 _ Nb m1 3 _=MI x1 from h1);obtain⟨k2,e2,y2,_⟩:=QW Ol (show Ry _ MK W 0 _ Nb m1 3 _=MI x2 from h2);have hk0:k0=8:=by rw[y0]at hx1;simpa using hx1.1.1.symm
  have hk1:k1=64:=by rw[y1]at hx1;simpa using hx1.1.2.1.symm
  have hk2:k2=512:=by rw[y2]at hx1;simpa using hx1.1.2.2.1.symm
  subst hk0 hk1 hk2;obtain⟨l1⟩:=cs1;rw[c3]at e0 e1 e2;have v0:=hvc 0;have v1:=hvc 1;have v2:=hvc 2
  match l1,e0,e1,e2 with
  | [a,b,c],e0,e1,e2 =>
   simp at e0 e1 e2 v0 v1 v2;subst e0 e1 e2;exact⟨v0,v1,v2⟩
  | [],e0,e1,e2=>simp at e0
  | [a],e0,e1,e2=>simp at e1
  | [a,b],e0,e1,e2=>simp at e2
  |a::b::c::d::l,e0,e1,e2 =>
   simp at e0 e1 e2 v0 v1 v2;subst e0 e1 e2;exact⟨v0,v1,v2⟩
end
section
open Go.ChangeShapes Go.WideShapes Go.ChangeAt Go.Deep
abbrev Ka(d:Dd):List Value:=[MF ME d.k,MF ME d.a,MF ME d.b,MF ME d.c]
theorem KN(d:Dd):(Ka d).length=4:=rfl
abbrev Kg(d:Dd):Prop:=(N6 ME d.k).wf=Nw/\(N6 ME d.a).wf=Nw/\(N6 ME d.b).wf=Nw/\(N6 ME d.c).wf=Nw
def Ko(P:O8)(fs:Array Field):Bool :=
 (Pm fs.size).all fun j=>match fs[j]? with
  |some f=>f.offset == j && P.cellsOf f.type == 1 && (match P.underlying f.type with|some (.int ME)=>Nw|_=>Nb)
  |none=>Nb
theorem LL{P:O8}(h:Ko P fs=Nw)(j:Nat)(f:Field)(hj:fs[j]?=MI f):f.offset=j/\P.cellsOf f.type=1/\P.underlying f.type=MI (.int ME):=by
 have hlt:j<fs.size:=(Array.getElem?_eq_some_iff.1 hj).1;have:=List.all_eq_true.1 h j (List.mem_range.2 hlt);simp only[hj,Po,beq_iff_eq]at this;obtain⟨⟨h1,h2⟩,h3⟩:=this;refine⟨h1,h2,?_⟩;revert h3;generalize P.underlying f.type=u;intro h3
 split at h3
 ·rfl
 ·cases h3
section
variable {H:Type}{enc:NU×M7->H}{P:O8}{w:MO}{base:Nat}{spare:Nat->Bool}{held:Bool}
theorem LO{α:Type}{c:α->List M7}{k:Nat}(hk:∀x,(c x).length=k)(hk0:0<k)(mk:(Nat->Int)->α)(hmk:∀f j,j<k->(c (mk f))[j]?=MI (MF ME (f j))){e:NU}{v:M7}{x:DataW H×List MemPlace}(ht:P.underlying t=MI (.slice e))(he:P.underlying e=MI (.struct fs))(ce:P.cellsOf e=k)(hfs:fs.size=k)(hint:Ko P fs=Nw)
  (h:Ry enc P w base spare held fuel t [v]=MI x) :
  ∃l:List α,bj c w v l/\(∀y∈l,∃f:Nat->Int,y=mk f/\∀j,j<k->(N6 ME (f j)).wf=Nw)/\((∃D sp,x.1=.slice ((Pm l.length).map D) sp)\/l=[]):=by
 rcases open_slice ht h with⟨hcs,_⟩|⟨a,len,cap,m,n,D,Pl,hcs,hb,hl,hm,hmm,rfl,hx⟩
 ·simp at hcs
  subst hcs;exact⟨[],B1 w,by simp,NF rfl⟩
 ·simp at hcs
  subst hcs;have hlm:len<=m:=by rw[hmm];split <;> omega
  have each:∀i,i<m->∃q:Nat->Int,∀j,j<k->w.cell? (a.add (i*k+j))=MI (MF ME (q j))/\(N6 ME (q j)).wf=true:=by
   intro i hi;obtain⟨cs',h1,h2⟩:=hx i hi;rw[ce]at h1;obtain⟨_,hlen,hcell⟩:=World.cells?_some h1;obtain⟨xs,k',hk',hxy,_,hxl,hf⟩:=Tg he h2;have one:∀j,j<k->∃q:Int,w.cell? (a.add (i*k+j))=MI (MF ME q)/\(N6 ME q).wf=true:=by
    intro j hj;have hjf:j<fs.size:=by omega
    have g:=hf j fs[j] (PN hjf);obtain⟨o,c1,u⟩:=LL hint j fs[j] (PN hjf);rw[MR (by rw[hxl];exact hjf),o,c1]at g;obtain⟨n0,z0,_,w0⟩:=QW u g;have e0:=hcell j (by omega);rw[add_add]at e0;have hcj:cs'[j]?=MI (MF ME n0):=by
     have:(cs'.drop j).head?=MI (MF ME n0):=by
      have hh:=congrArg List.head? z0;rw[List.head?_take]at hh
      simpa using hh
     rw[List.head?_drop]at this;exact this
    rw[hcj]at e0;exact⟨n0,e0,w0⟩
   obtain⟨q,hq⟩:=choose_lt one;exact⟨q,hq⟩
  obtain⟨q,hq⟩:=choose_lt each;have hlen:((Pm len).map (fun i=>mk (q i))).length=len:=by simp
  refine⟨(Pm len).map (fun i=>mk (q i)),?_,?_,Nt ⟨D,_,by rw[hlen]⟩⟩
  ·unfold bj
   rw[hlen];refine⟨MI a,cap,rfl,hl,hm,?_⟩
   by_cases h0:len=0
   ·exact Nt ⟨h0,by rw[h0];rfl⟩
   ·obtain⟨b,off,spot⟩:=a
    have hc0:=(hq 0 (by omega) 0 hk0).1;have hspot:spot=none:=by simpa [Addr.add]using World.cell?_spot hc0
    subst hspot;have hadd:∀i,(⟨b,off,MH⟩:Oc).add i=⟨b,off+i,MH⟩:=fun i=>by unfold Addr.add;split <;> simp_all
    refine NF ⟨b,off,rfl,?_,fun i hi=>?_⟩
    ·rw[hadd]at hc0
     exact MX w ⟨b,off+(0*k+0),MH⟩ hc0
    ·rw[gS hk,hlen]at hi
     have hdiv:i / k<len:=Sj (by rw[R5];exact hi);have hmod:i % k<k:=Nat.mod_lt _ hk0;have hat:=dF hk ((Pm len).map (fun i=>mk (q i))) (i / k) (i % k) (by rw[hlen];exact hdiv) hmod;have hc:=(hq (i / k) (by omega) (i % k) hmod).1;have hi2:i / k*k+i % k=i:=by rw[R5];exact Nat.div_add_mod i k
     rw[hi2]at hat hc;rw[hadd]at hc;simp only[QZ,List.getElem_range]at hat
     rw[hmk _ _ hmod]at hat
     rw[hc,hat]
  ·intro y hy
   obtain⟨i,hi,rfl⟩:=List.mem_map.1 hy;exact⟨q i,rfl,fun j hj=>(hq i (by have:=List.mem_range.1 hi;omega) j hj).2⟩
abbrev KV(f:Nat->Int):Dd:=⟨f 0,f 1,f 2,f 3⟩
theorem LN(f:Nat->Int)(j:Nat)(hj:j<4):(Ka (KV f))[j]?=MI (MF ME (f j)):=by
 match j,hj with
 |0,_=>rfl
 |1,_=>rfl
 |2,_=>rfl
 |3,_=>rfl
theorem L4{e:NU}{v:M7}{x:DataW H×List MemPlace}(ht:P.underlying t=MI (.slice e))(he:P.underlying e=MI (.struct fs))(ce:P.cellsOf e=4)(hfs:fs.size=4)(hint:Ko P fs=Nw)
  (h:Ry enc P w base spare held fuel t [v]=MI x):∃(l:List Dd) (p:Option Oc) (k:Nat),v=MG p l.length k/\bj Ka w (MG p l.length k) l/\∀d∈l,Kg d:=by
 obtain⟨l,h1,h2,_⟩:=LO KN (by decide) KV LN ht he ce hfs hint h;obtain⟨p,k,rfl,_,_⟩:=bj.Ga h1;refine⟨l,p,k,rfl,h1,fun d hd=>?_⟩;obtain⟨f,rfl,hf⟩:=h2 d hd;exact⟨hf 0 (by omega),hf 1 (by omega),hf 2 (by omega),hf 3 (by omega)⟩
end
end
abbrev J5(h:Int×Int):List Value:=[MF ME h.1,MF ME h.2]
abbrev JN(e:Ev):List Value:=[MF ME e.kind,MF ME e.key,MF ME e.slot,MF ME e.gen,M3 e.good,MF ME e.req,MF ME e.be,MF ME e.wt]
abbrev JW(c:Cf):List Value:=[MF ME c.flows,MF ME c.num,MF ME c.den,MF ME c.tries,MF ME c.warm,MF ME c.drain,MF ME c.idle,MF ME c.conn,MF ME c.ret,MF ME c.most,MF ME c.bn,MF ME c.bd,MF ME c.bb,MF ME c.wn,MF ME c.wf,MF ME c.wh]
structure Sq where
 s:Sp
 u:Us
 v:Us
 po:Option Oc
 co:Nat
def JU(q:Sq):List Value:=JN q.s.ev++((ef q.u q.s.bef).toList++((ef q.v q.s.aft).toList++[MG q.po q.s.out.length q.co]))
theorem KR(x:Int×Int):(J5 x).length=2:=rfl
theorem LV(x:Sq):(JU x).length=61:=rfl
theorem LI(x:Int×Int):∀u∈J5 x,u.oneCell'=true:=by
 intro u hu;simp only[OO,OD,or_false]at hu;rcases hu with rfl|rfl <;> rfl
theorem KX(U:Us)(G:Gt):∀u∈(ef U G).toList,u.oneCell'=true:=fun u hu=>Array.all_eq_true_iff_forall_mem.1 (rS U G) u (by simpa using hu)
theorem Lz(e:Ev):∀u∈JN e,u.oneCell'=true:=by
 intro u hu;simp only[OO,OD,or_false]at hu;rcases hu with rfl|rfl|rfl|rfl|rfl|rfl|rfl|rfl <;> rfl
theorem LU(x:Sq):∀u∈JU x,u.oneCell'=true:=by
 intro u hu;unfold JU at hu;rcases List.mem_append.1 hu with h|h
 ·exact Lz _ u h
 ·rcases List.mem_append.1 h with h|h
  ·exact KX _ _ u h
  ·rcases List.mem_append.1 h with h|h
   ·exact KX _ _ u h
   ·rw[List.mem_singleton.1 h];rfl
def Kh(W:MO)(q:Sq):Prop:=aF W q.u q.s.bef/\aF W q.v q.s.aft/\bj gT W (MG q.po q.s.out.length q.co) q.s.out
structure Pv where
 ps:Option Oc
 cs:Nat
 pg:Option Oc
 cg:Nat
 u:Us
 qs:List Sq
def Pv.own(V:Pv)(g b:Nat):Prop:=b=g\/V.ps.map (·.block)=MI b\/V.pg.map (·.block)=MI b
def JZ(V:Pv)(c:Cf)(P:Py):List Value:=JW c++(MG V.ps V.qs.length V.cs::((ef V.u P.last).toList++[MG V.pg P.giv.length V.cg]))
structure Jz(base:Nat)(w:MO)(g:Nat)(V:Pv)(c:Cf)(P:Py):Prop where
 box:w.heap[g]?=MI (MP (JZ V c P).toArray 57 (0,0))
 low:base<=g
 eqs:V.qs.map (·.s)=P.steps
 rows:w.ownsRow base 62 61 (MG V.ps V.qs.length V.cs) V.qs.length (rv JU V.qs)
 giv:w.ownsRow base 97 2 (MG V.pg P.giv.length V.cg) P.giv.length (rv J5 P.giv)
 og:V.ps.map (·.block)≠MI g
 oh:V.pg.map (·.block)≠MI g
 op:∀b,V.ps.map (·.block)=MI b->V.pg.map (·.block)≠MI b
 last:cX (V.own g) w fun X=>aF X V.u P.last
 all:∀q∈V.qs,cX (V.own g) w fun X=>Kh X q
structure JC(V V':Pv)(g:Nat)(w w':MO):Prop where
 os:w'.os=w.os
 tape:w'.tape=w.tape
 output:w'.output=w.output
 size:w.heap.size<=w'.heap.size
 block:∀b,b<w.heap.size->¬V.own g b->w'.heap[b]?=w.heap[b]?
 ext:∀b,V'.own g b->V.own g b\/w.heap.size<=b
section
variable {base:Nat}{w w' w1 w2:MO}{g:Nat}{V V' V1 V2:Pv}{c:Cf}{P:Py}
theorem Jz.lt(h:Jz base w g V c P):g<w.heap.size:=(Array.getElem?_eq_some_iff.1 h.box).1
theorem Jz.steps(h:Jz base w g V c P):P.steps.length=V.qs.length:=by rw[<-h.eqs,N0]
theorem JC.F5(h:MQ w.heap.size w w1):JC V V g w w1:=⟨h.os,h.tape,h.output,h.size,fun b hb _=>h.block b hb,fun _ h=>Nt h⟩
theorem JC.F0(h:JC V V1 g w w1)(k:JC V1 V2 g w1 w2):JC V V2 g w w2 :=
 ⟨k.os.trans h.os,k.tape.trans h.tape,k.output.trans h.output,Nm h.size k.size,fun b hb hn=>(k.block b (M8 hb h.size) fun e=>by
  rcases h.ext b e with e|e
  ·exact hn e
  ·omega).trans (h.block b hb hn),fun b e=>by
  rcases k.ext b e with e|e
  ·exact h.ext b e
  ·exact NF (Nm h.size e)⟩
theorem Jz.Mb(h:Jz base w g V c P){b:Nat}(hb:V.own g b):base<=b/\b<w.heap.size:=by
 rcases hb with rfl|e|e
 ·exact⟨h.low,h.lt⟩
 ·exact h.rows.lt b (by rw[cS];exact e)
 ·exact h.giv.lt b (by rw[cS];exact e)
theorem JC.IT(h:JC V V1 g w w1)(hP:Jz base w g V c P)(hb:base<=w.heap.size):MQ base w w1 :=
 ⟨h.os,h.tape,h.output,h.size,fun b q=>h.block b (by omega) fun e=>by have:=(hP.Mb e).1;omega⟩
theorem Jz.below(h:Jz base w g V c P)(hb:MQ w.heap.size w w'):Jz base w' g V c P :=
 ⟨(hb.block g h.lt).trans h.box,h.low,h.eqs,aw h.rows fun b e=>hb.block b (h.rows.lt b e).2,aw h.giv fun b e=>hb.block b (h.giv.lt b e).2,h.og,h.oh,h.op,h.last.below hb,fun q hq=>(h.all q hq).below hb⟩
theorem Jz.MB(h:Jz base w g V c P)(hs:w.heap.size<=w'.heap.size)(hb:∀b,b<w.heap.size->V.ps.map (·.block)≠MI b->w'.heap[b]?=w.heap[b]?){p:Option Oc}{k:Nat}{q:Sq}
  (ho:w'.ownsRow base 62 61 (MG p (V.qs++[q]).length k) (V.qs++[q]).length (rv JU (V.qs++[q]))) (hp:∀b,p.map (·.block)=MI b->V.ps.map (·.block)=MI b\/w.heap.size<=b)
  (hq:cX (V.own g) w fun X=>Kh X q) (hl:q.s.bef=P.last) :
  Jz base (w'.setCell ⟨g,16,MH⟩ (MG p (V.qs++[q]).length k)) g {V with ps:=p,cs:=k,qs:=V.qs++[q]} c {P with steps:=P.steps++[q.s]}:=by
 have hg:=(hb g h.lt h.og).trans h.box;have hpg:∀b,p.map (·.block)=MI b->b≠g:=fun b e e2=>by
  subst e2;rcases hp b e with e|e
  ·exact h.og e
  ·have:=h.lt;omega
 have hoth:∀b,b≠g->(w'.setCell ⟨g,16,MH⟩ (MG p (V.qs++[q]).length k)).heap[b]?=w'.heap[b]?:=fun b e=>MU _ _ _ _ (fun e2=>e e2)
 have hsz:(w'.setCell ⟨g,16,MH⟩ (MG p (V.qs++[q]).length k)).heap.size=w'.heap.size:=by simp
 have hst:∀ {p':MO->Prop},cX (V.own g) w p'->cX (Pv.own {V with ps:=p,cs:=k,qs:=V.qs++[q]} g) (w'.setCell ⟨g,16,MH⟩ (MG p (V.qs++[q]).length k)) p':=fun hA =>
  hA.step (by rw[hsz];exact hs) (fun b q1 q2=>(hoth b fun e=>q2 (Nt e)).trans (hb b q1 fun e=>q2 (NF (Nt e)))) fun b q1 e=>by
   rcases e with e|e|e
   ·exact Nt e
   ·exact(hp b e).elim (fun e=>NF (Nt e)) fun e=>by omega
   ·exact NF (NF e)
 refine⟨?_,h.low,by rw[OI,h.eqs];rfl,aw ho fun b e=>hoth b (hpg b (by rw[<-cS];exact e)),aw h.giv fun b e=>?_,fun e=>hpg g e rfl,h.oh,fun b e1 e2=>?_,hst h.last,fun x hx=>?_⟩
 ·exact cP hg rfl
 ·have e':V.pg.map (·.block)=MI b:=by rw[<-cS];exact e
  rw[hoth b fun e2=>h.oh (by rw[e',e2])];exact hb b (h.giv.lt b e).2 fun e2=>h.op b e2 e'
 ·rcases hp b e1 with e|e
  ·exact h.op b e e2
  ·have:=(h.giv.lt b (by rw[cS];exact e2)).2
   omega
 ·rcases List.mem_append.1 hx with hx|hx
  ·exact hst (h.all x hx)
  ·rw[List.mem_singleton.1 hx];exact hst hq
theorem KS(T:NU)(g:Nat):∀(vs pre old post:List M7) (w:MO),old.length=vs.length->w.heap[g]?=MI (MP (pre++(old++post)).toArray T (0,0))->(w.setCells g pre.length vs).heap[g]?=MI (MP (pre++(vs++post)).toArray T (0,0))
 | [],pre,old,post,w,ho,h=>by
  obtain rfl:old=[]:=List.length_eq_zero_iff.1 (by simpa using ho);exact h
 |v::vs,pre,[],post,w,ho,h=>by simp at ho
 |v::vs,pre,u::old,post,w,ho,h=>by
  have h1:=NI w g pre.length _ T v h;have e:(pre++(u::old++post)).toArray.setIfInBounds pre.length v=((pre++[v])++(old++post)).toArray:=by
   apply Array.toList_inj.1;simp
  rw[e]at h1;have h2:=KS T g vs (pre++[v]) old post _ (by simpa using ho) h1;rw[Qd]
  simpa using h2
theorem Jz.MC(h:Jz base w g V c P)(U:Us)(G:Gt)(hG:cX (V.own g) w fun X=>aF X U G) :
  Jz base (w.setCells g 17 (ef U G).toList) g {V with u:=U} c {P with last:=G}:=by
 have hoth:∀b,b<w.heap.size->b≠g->(w.setCells g 17 (ef U G).toList).heap[b]?=w.heap[b]?:=fun b hb e=>N8 w g 17 _ hb e
 have hsz:(w.setCells g 17 (ef U G).toList).heap.size=w.heap.size:=nj _ _ _ _;have hst:∀ {p':MO->Prop},cX (V.own g) w p'->cX (Pv.own {V with u:=U} g) (w.setCells g 17 (ef U G).toList) p':=fun hA =>
  hA.step (by rw[hsz];exact MV _) (fun b q1 q2=>hoth b q1 fun e=>q2 (Nt e)) fun b q1 e=>e
 refine⟨?_,h.low,h.eqs,aw h.rows fun b e=>hoth b (h.rows.lt b e).2 fun e2=>h.og (by rw[<-cS,e,e2]),aw h.giv fun b e=>hoth b (h.giv.lt b e).2 fun e2=>h.oh (by rw[<-cS,e,e2]),h.og,h.oh,h.op,hst hG,fun x hx=>hst (h.all x hx)⟩;have hb:w.heap[g]?=MI (MP ((JW c++[MG V.ps V.qs.length V.cs])++((ef V.u P.last).toList++[MG V.pg P.giv.length V.cg])).toArray 57 (0,0)):=h.box;exact KS 57 g (ef U G).toList (JW c++[MG V.ps V.qs.length V.cs]) (ef V.u P.last).toList [MG V.pg P.giv.length V.cg] w rfl hb
theorem Jz.MA(h:Jz base w g V c P)(hs:w.heap.size<=w'.heap.size)(hb:∀b,b<w.heap.size->V.pg.map (·.block)≠MI b->w'.heap[b]?=w.heap[b]?){p:Option Oc}{k:Nat}{l:List (Int×Int)}
  (ho:w'.ownsRow base 97 2 (MG p l.length k) l.length (rv J5 l)) (hp:∀b,p.map (·.block)=MI b->V.pg.map (·.block)=MI b\/w.heap.size<=b) :
  Jz base (w'.setCell ⟨g,43,MH⟩ (MG p l.length k)) g {V with pg:=p,cg:=k} c {P with giv:=l}:=by
 have hg:=(hb g h.lt h.oh).trans h.box;have hpg:∀b,p.map (·.block)=MI b->b≠g:=fun b e e2=>by
  subst e2;rcases hp b e with e|e
  ·exact h.oh e
  ·have:=h.lt;omega
 have hoth:∀b,b≠g->(w'.setCell ⟨g,43,MH⟩ (MG p l.length k)).heap[b]?=w'.heap[b]?:=fun b e=>MU _ _ _ _ (fun e2=>e e2)
 have hsz:(w'.setCell ⟨g,43,MH⟩ (MG p l.length k)).heap.size=w'.heap.size:=by simp
 have hst:∀ {p':MO->Prop},cX (V.own g) w p'->cX (Pv.own {V with pg:=p,cg:=k} g) (w'.setCell ⟨g,43,MH⟩ (MG p l.length k)) p':=fun hA =>
  hA.step (by rw[hsz];exact hs) (fun b q1 q2=>(hoth b fun e=>q2 (Nt e)).trans (hb b q1 fun e=>q2 (NF (NF e)))) fun b q1 e=>by
   rcases e with e|e|e
   ·exact Nt e
   ·exact NF (Nt e)
   ·exact(hp b e).elim (fun e=>NF (NF e)) fun e=>by omega
 refine⟨?_,h.low,h.eqs,aw h.rows fun b e=>?_,aw ho fun b e=>hoth b (hpg b (by rw[<-cS];exact e)),h.og,fun e=>hpg g e rfl,fun b e1 e2=>?_,hst h.last,fun x hx=>hst (h.all x hx)⟩
 ·exact cP hg rfl
 ·have e':V.ps.map (·.block)=MI b:=by rw[<-cS];exact e
  rw[hoth b fun e2=>h.og (by rw[e',e2])];exact hb b (h.rows.lt b e).2 fun e2=>h.op b e' e2
 ·rcases hp b e2 with e|e
  ·exact h.op b e1 e
  ·have:=(h.rows.lt b (by rw[cS];exact e1)).2
   omega
end
theorem Jz.Mo{base:Nat}{w:MO}{g:Nat}{V:Pv}{c:Cf}{P:Py}(h:Jz base w g V c P):w.rangeAt g 17 (ef V.u P.last).toList:=fun j v hv=>by
 have hj:j<26:=(List.getElem?_eq_some_iff.1 hv).1;rw[MW w g (17+j) _ _ (0,0) h.box];have e:JZ V c P=(JW c++[MG V.ps V.qs.length V.cs])++((ef V.u P.last).toList++[MG V.pg P.giv.length V.cg]):=rfl;rw[List.getElem?_toArray,e,Tw (by show 17<=17+j;omega),show 17+j-(JW c++[MG V.ps V.qs.length V.cs]).length=j by show 17+j-17=j;omega,OJ hj];exact hv
structure JF(base:Nat)(X:MO)(g:Nat)(V:Pv)(c:Cf)(P:Py)(h:Nat)(e:Ev):Prop where
 pat:Jz base X g V c P
 evb:X.heap[h]?=MI (MP (JN e).toArray 59 (0,0))
 blk:aK X
theorem JF.on{base:Nat}{X:MO}{g:Nat}{V:Pv}{c:Cf}{P:Py}{h:Nat}{e:Ev}(k:JF base X g V c P h e)(hb:MQ X.heap.size X Y):JF base Y g V c P h e:=⟨k.pat.below hb,af k.evb hb,k.blk.below hb⟩
theorem JF.ev{base:Nat}{X:MO}{g:Nat}{V:Pv}{c:Cf}{P:Py}{h:Nat}{e:Ev}(k:JF base X g V c P h e):X.rangeAt h 0 (JN e):=J9 k.evb
structure JB(base:Nat)(W u:MO)(g:Nat)(V:Pv)(c:Cf)(P:Py)(h:Nat)(e:Ev)(b:Nat)(M:List M7)(U:Us)(po:Option Oc)(co:Nat):Prop where
 dos:JF base u g V c P h e
 mem:M=(ef U (iG P.last e)).toList
 box:u.heap[b]?=MI (MP M.toArray 54 (0,0))
 low:W.heap.size<=b
 bel:MQ W.heap.size W u
 ans:cX (V.own g) u fun X=>aF X U (iG P.last e)/\bj gT X (MG po (iG P.last e).out.length co) (iG P.last e).out
 lt:∀x,V.own g x->x<W.heap.size
 no:¬V.own g h
theorem KT:(Tryz.prog.info? 59).map (·.size)=MI 8:=by kernel_rfl
theorem KL{S:Nat->Prop}{w5 u:MO}{B b5:Nat}{p:MO->Prop}(hA:∀X,ia B w5 X->p X)(hs:w5.heap.size<=u.heap.size)(hu:∀b,b<w5.heap.size->b≠b5->u.heap[b]?=w5.heap[b]?)(h5:b5<B\/w5.heap.size<=b5)(hS:∀b,S b->b<B):cX S u p :=
 fun X h1 h2=>hA X ⟨Nm hs h1,fun b q1 q2=>(h2 b (M8 q2 hs) fun e=>by have:=hS b e;omega).trans (hu b q2 (by omega))⟩
theorem KM{w:MO}{g:Nat}{a b:List M7}{T:NU}(h:w.heap[g]?=MI (MP a.toArray T (0,0)))(he:a.length=b.length):(w.setCells g 0 b).heap[g]?=MI (MP b.toArray T (0,0)):=ks T g b [] a w he h
theorem Lw(q:Sq)(W:MO):(QA 62 #[(0,Ny (JN q.s.ev).toArray),(1,Ny (ef q.u q.s.bef)),(2,Ny (ef q.v q.s.aft)),(3,MG q.po q.s.out.length q.co)]).run MK W=.ok (Ny (JU q).toArray) W:=by kernel_rfl
theorem LT(q:Sq)(W:MO):(Q0 35 1 #[(0,Ny (JU q).toArray)]).run MK W=.ok (MG (MI ⟨W.heap.size,0,MH⟩) 1 1) (W.alloc (MP (JU q).toArray 62)):=by kernel_rfl
abbrev LW:Value:=Ny ((JN ⟨0,0,0,0,Nb,0,0,0⟩++(wz++(wz++[MG MH 0 0]))).toArray)
theorem LK:(Tryz.prog.info? 62).map (fun i=>(i.zero,i.size,i.bytes))=MI (MI LW,61,728):=by kernel_rfl
theorem LJ:(Tryz.prog.info? 97).map (fun i=>(i.zero,i.size,i.bytes))=MI (MI (Ny #[MF ME 0,MF ME 0]),2,16):=by kernel_rfl
theorem LR{P:O8}{md:Region.Mode}{listed:Array Bool}{w:MO}{i:Nat}(ho:ops[i]?=MI o)(hg:o.guard=MH)(t:NU)(n:Nat)(parts:Array (Nat×Operand))(hop:o.op=.buildSlice t n parts)
  (y:M7) (hr:(Q0 t n (parts.map fun(i,x)=>(i,a.eval x))).run P w=.ok y w1) (hS:S w1)
  (h:wpAnyH P md ops Q S fuel (listed.setIfInBounds i Nw) (a.put o.dst y) w1):AllReadyH P md ops Q S fuel listed a w [i]:=by
 refine NP ho (fun K hK=>?_) NX;have hw:Pz o (yielded ops a.tmps)=true:=by simp[Pz,hg]
 rw[Nh hw];unfold RB execOp;simp only[hop,Pn,P3,PG,hr];exact hK.out _ _ hS (fun _=>h)
theorem LX{P:O8}{w:MO}{K:Act->MO->Prop}{E:Prop}(hg:o.guard=MH)(t:NU)(n:Nat)(parts:Array (Nat×Operand))(hop:o.op=.buildSlice t n parts)
  (y:M7) (hr:(Q0 t n (parts.map fun(i,x)=>(i,a.eval x))).run P w=.ok y w1) (h:K (a.put o.dst y) w1):if Pz o (yielded ops a.tmps)=Nw then RB P o a w K Q else E:=by
 have hw:Pz o (yielded ops a.tmps)=true:=by simp[Pz,hg]
 rw[Nh hw];unfold RB execOp;simp only[hop,Pn,P3,PG,hr];exact h
theorem LZ{P:O8}{op:Oper}(hw:Pz op (yielded ops a.tmps)=Nw)(T:NU)(parts:Array (Nat×Operand))(ho:op.op=.build T parts)(y:M7)
  (hr:∀w,(QA T (parts.map fun(i,x)=>(i,a.eval x))).run P w=.ok y w):YieldsIf P ops S op y a :=
 Nt ⟨hw,fun w hw'=>by
  unfold execOp;simp only[ho,Pn,P3,PG,hr w]⟩
theorem KW{P:O8}{md:Region.Mode}{listed:Array Bool}{w:MO}{i:Nat}(ho:ops[i]?=MI o)(hg:o.guard=MH)(s x:Operand)(t:NU)
  (hop:o.op=.call {callee:=.builtin .append,args:=#[s,x],argTypes:=#[t,t]}) (v u y:M7) (hs:a.eval s=v) (hx:a.eval x=u) (hr:(N2 #[t,t] o.type #[v,u]).run P w=.ok y w1) (hS:S w1)
  (h:wpAnyH P md ops Q S fuel (listed.setIfInBounds i Nw) (a.put o.dst y) w1):AllReadyH P md ops Q S fuel listed a w [i]:=by
 refine NP ho (fun K hK=>?_) NX;refine mM hg s x t hop v u y w1 hs hx hr ?_;exact hK.out _ _ hS (fun _=>h)
theorem JB.on{base:Nat}{W u:MO}{g:Nat}{V:Pv}{c:Cf}{P:Py}{h:Nat}{e:Ev}{b:Nat}{M:List M7}{U:Us}{po:Option Oc}{co:Nat}(k:JB base W u g V c P h e b M U po co)(hb:MQ u.heap.size u Y):JB base W Y g V c P h e b M U po co :=
 ⟨k.dos.on hb,k.mem,af k.box hb,k.low,k.bel.trans (hb.mono k.bel.size),k.ans.below hb,k.lt,k.no⟩
theorem JB.Gm{base:Nat}{W u:MO}{g:Nat}{V:Pv}{c:Cf}{P:Py}{h:Nat}{e:Ev}{b:Nat}{M:List M7}{U:Us}{po:Option Oc}{co:Nat}(k:JB base W u g V c P h e b M U po co):u.cell? ⟨g,16,MH⟩=MI (MG V.ps V.qs.length V.cs):=by
 rw[MW u g 16 _ _ (0,0) k.dos.pat.box];rfl
def JR(X:MO)(h g q:Nat)(e:Ev)(L M:List M7):Prop:=X.rangeAt h 0 (JN e)/\X.rangeAt g 17 L/\X.rangeAt q 0 M
theorem J6{X:MO}{b o:Nat}{cs:List M7}(h:X.rangeAt b o cs)(e:Y.heap[b]?=X.heap[b]?):Y.rangeAt b o cs:=fun j v hv=>(NG e).trans (h j v hv)
theorem JB.Gz{base:Nat}{W u:MO}{g:Nat}{V:Pv}{c:Cf}{P:Py}{h:Nat}{e:Ev}{b:Nat}{M:List M7}{U:Us}{po:Option Oc}{co:Nat}(k:JB base W u g V c P h e b M U po co):JR u h g b e (ef V.u P.last).toList M :=
 ⟨k.dos.ev,k.dos.pat.Mo,J9 k.box⟩
theorem JR.Gf{X:MO}{h g q:Nat}{e:Ev}{L M:List M7}(k:JR X h g q e L M)(e1:Y.heap[h]?=X.heap[h]?)(e2:Y.heap[g]?=X.heap[g]?)(e3:Y.heap[q]?=X.heap[q]?):JR Y h g q e L M:=⟨J6 k.1 e1,J6 k.2.1 e2,J6 k.2.2 e3⟩
theorem JR.F4{X:MO}{h g q:Nat}{e:Ev}{L M:List M7}(k:JR X h g q e L M)(h1:h≠g)(h2:q≠g)(v:M7):JR (X.setCell ⟨g,16,MH⟩ v) h g q e L M :=
 ⟨J6 k.1 (MU _ _ _ _ (fun e=>h1 e)),fun j y hy=>(World.cell?_setCell_other _ _ _ _ (fun e=>by injection e with _ e2 _;omega)).trans (k.2.1 j y hy),J6 k.2.2 (MU _ _ _ _ (fun e=>h2 e))⟩
structure JQ(base:Nat)(W u:MO)(g:Nat)(V V8:Pv)(c:Cf)(P8:Py)(b:Nat)(M:List M7)(U:Us)(T:Gt)(po:Option Oc)(co:Nat):Prop where
 pat:Jz base u g V8 c P8
 box:u.heap[b]?=MI (MP M.toArray 54 (0,0))
 no:¬V8.own g b
 ans:cX (V8.own g) u fun X=>aF X U T/\bj gT X (MG po T.out.length co) T.out
 frm:JC V V8 g W u
structure JL(base:Nat)(W u:MO)(g:Nat)(V V9:Pv)(c:Cf)(P:Py)(s:Sp)(B:Gt)(l:List Ou)(k:Nat)(po:Option Oc)(co:Nat):Prop where
 pat:Jz base u g V9 c ⟨P.steps++[s],B,P.giv++JH (l.take k)⟩
 frm:JC V V9 g W u
 out:cX (V9.own g) u fun X=>bj gT X (MG po l.length co) l
theorem LD{V8:Pv}{U:Us}{g:Nat}{u:MO}(vs:List M7):JC V8 {V8 with u:=U} g u (u.setCells g 17 vs):=by
 have hb:=kF (B:=0) (w0:=u) (g:=g) (MY 0 u) (Nx _) 17 vs (Nx _);exact⟨hb.os,hb.tape,hb.output,hb.size,fun b q1 q2=>N8 u g 17 _ q1 fun e=>q2 (Nt e),fun b e=>Nt e⟩
theorem LG{l:List Ou}{k:Nat}(hk:k<l.length):JH (l.take (k+1))=JH (l.take k)++(if l[k].kind=1 then [(l[k].slot,l[k].gen)]else []):=by
 unfold JH;rw[M9 hk,OY,OI]
 congr 1
 by_cases h:l[k].kind=1
 ·rw[Nh h,List.filter_cons_of_pos (by simp[h])];rfl
 ·rw[Nf h,List.filter_cons_of_neg (by simp[h])];rfl
theorem LQ{base:Nat}{W u:MO}{g:Nat}{V:Pv}{c:Cf}{P:Py}{h:Nat}{e:Ev}{b:Nat}{M:List M7}{U:Us}{po:Option Oc}{co:Nat}(k:JB base W u g V c P h e b M U po co)(hl:V.qs.length<=100000)(hbase:base<=u.heap.size)(z:Sq)
  (hz:z=⟨⟨e,P.last,(iG P.last e).Ma,(iG P.last e).out⟩,V.u,U,po,co⟩) (hfr:W.heap.size<=u.heap.size) :
  ∃q' c' w9,(N2 #[35,35] 35 #[MG V.ps V.qs.length V.cs,MG (MI ⟨u.heap.size,0,MH⟩) 1 1]).run MK (u.alloc (MP (JU z).toArray 62))=.ok (MG (MI ⟨q',0,MH⟩) (V.qs.length+1) c') w9 /\
   (w9.cell? ⟨g,16,MH⟩=MI (MG V.ps V.qs.length V.cs)/\w9.frozen? ⟨g,16,MH⟩=Nb)/\(∀x,x<u.heap.size->V.ps.map (·.block)≠MI x->w9.heap[x]?=u.heap[x]?) /\
   JQ base W (w9.setCell ⟨g,16,MH⟩ (MG (MI ⟨q',0,MH⟩) (V.qs.length+1) c')) g V {V with ps:=MI ⟨q',0,MH⟩,cs:=c',qs:=V.qs++[z]} c {P with steps:=P.steps++[z.s]} b M U (iG P.last e) po co:=by
 have hp0:=k.dos.pat
 obtain⟨q',c',w9,hr,ho,hg,hlies⟩:=rN LV LU (by decide) Ph LK rfl (w:=u) (base:=base) hp0.rows hbase 35 z (JU z).toArray rfl (by omega) (by unfold NE;omega);have hgb:∀x,x<u.heap.size->V.ps.map (·.block)≠MI x->w9.heap[x]?=u.heap[x]?:=fun x hx hne=>hg.block x hx (fun e=>hne (by rw[e,cS]))
 have hT9:=(hgb g hp0.lt hp0.og).trans hp0.box;have hp:∀x,(MI (⟨q',0,MH⟩:Oc)).map (·.block)=MI x->V.ps.map (·.block)=MI x\/u.heap.size<=x:=fun x e=>by
  cases e;rcases hlies with e|e
  ·exact Nt (by rw[<-cS _ V.qs.length V.cs];exact e)
  ·exact NF (PJ e)
 have hlen:(V.qs++[z]).length=V.qs.length+1:=by simp
 have hq:cX (V.own g) u fun X=>Kh X z:=fun X h1 h2=>by
  have a1:=hp0.last X h1 h2;have a2:=k.ans X h1 h2;rw[hz];exact⟨a1,a2.1.Ma,a2.2⟩
 have hG:=hp0.MB (w':=w9) (p:=MI ⟨q',0,MH⟩) (k:=c') (q:=z) hg.size hgb (by rw[hlen];exact ho) hp hq (by rw[hz]);rw[hlen]at hG;have hbl:b<u.heap.size:=(Array.getElem?_eq_some_iff.1 k.box).1;have hbn:¬V.own g b:=fun e=>by have:=k.lt b e;have:=k.low;omega
 have hbg:b≠g:=fun e=>hbn (Nt e)
 have hoth:∀x,x≠g->(w9.setCell ⟨g,16,MH⟩ (MG (MI ⟨q',0,MH⟩) (V.qs.length+1) c')).heap[x]?=w9.heap[x]?:=fun x e=>MU _ _ _ _ (fun e2=>e e2)
 have hsz:(w9.setCell ⟨g,16,MH⟩ (MG (MI ⟨q',0,MH⟩) (V.qs.length+1) c')).heap.size=w9.heap.size:=by simp
 have hx8:∀x,x<u.heap.size->Pv.own {V with ps:=MI ⟨q',0,MH⟩,cs:=c',qs:=V.qs++[z]} g x->V.own g x:=fun x q1 e=>by
  rcases e with e|e|e
  ·exact Nt e
  ·exact(hp x e).elim (fun e=>NF (Nt e)) fun e=>by omega
  ·exact NF (NF e)
 have hst:∀x,x<u.heap.size->¬V.own g x->(w9.setCell ⟨g,16,MH⟩ (MG (MI ⟨q',0,MH⟩) (V.qs.length+1) c')).heap[x]?=u.heap[x]?:=fun x q1 q2=>(hoth x fun e=>q2 (Nt e)).trans (hgb x q1 fun e=>q2 (NF (Nt e)))
 refine⟨q',c',w9,hr,⟨by rw[MW w9 g 16 _ _ (0,0) hT9];rfl,by simp[Ng,hT9]⟩,hgb,hG,(hst b hbl hbn).trans k.box,fun e=>hbn (hx8 b hbl e),k.ans.step (by rw[hsz];exact hg.size) hst hx8,?_⟩;refine⟨hg.os.trans k.bel.os,hg.tape.trans k.bel.tape,hg.output.trans k.bel.output,by rw[hsz];exact Nm hfr hg.size,fun x q1 q2=>(hst x (M8 q1 hfr) q2).trans (k.bel.block x q1),fun x e=>?_⟩
 ·by_cases hxu:x<u.heap.size
  ·exact Nt (hx8 x hxu e)
  ·exact NF (by omega)
theorem Lr{V V':Pv}{g:Nat}{w w':MO}{p:MO->Prop}(h:cX (V.own g) w p)(hf:JC V V' g w w'):cX (V'.own g) w' p :=
 h.step hf.size hf.block fun b hb e=>(hf.ext b e).elim id fun e=>by omega
theorem LH(l:List Ou)(k:Nat):(JH (l.take k)).length<=(JH l).length:=by
 unfold JH;rw[N0,N0];exact((List.take_sublist k l).filter _).length_le
theorem Jz.Mn{base:Nat}{w:MO}{g:Nat}{V:Pv}{c:Cf}{P:Py}(h:Jz base w g V c P):w.cell? ⟨g,43,MH⟩=MI (MG V.pg P.giv.length V.cg):=by
 rw[MW w g 43 _ _ (0,0) h.box];rfl
theorem LF{base:Nat}{W:MO}{g:Nat}{V:Pv}{c:Cf}{P:Py}(h:Jz base W g V c P)(hl:P.giv.length<=1000000)(x:Int×Int) :
  ∃q c' w5,(N2 #[55,55] 55 #[MG V.pg P.giv.length V.cg,MG (MI ⟨W.heap.size,0,MH⟩) 1 1]).run MK ((W.alloc (MP #[MF ME x.1,MF ME x.2] 97)).drew)=.ok (MG (MI ⟨q,0,MH⟩) (P.giv.length+1) c') w5 /\
   (w5.cell? ⟨g,43,MH⟩=MI (MG V.pg P.giv.length V.cg)/\w5.frozen? ⟨g,43,MH⟩=Nb) /\
   Jz base (w5.setCell ⟨g,43,MH⟩ (MG (MI ⟨q,0,MH⟩) (P.giv.length+1) c')) g {V with pg:=MI ⟨q,0,MH⟩,cg:=c'} c {P with giv:=P.giv++[x]} /\
   JC V {V with pg:=MI ⟨q,0,MH⟩,cg:=c'} g W (w5.setCell ⟨g,43,MH⟩ (MG (MI ⟨q,0,MH⟩) (P.giv.length+1) c')):=by
 have hbase:base<=W.heap.size:=Nm h.low (PJ h.lt);obtain⟨q,c',w5,hr,ho,hg,hlies⟩:=rN KR LI (by decide) Tryz.underlying55 LJ rfl (w:=W.drew) (base:=base) (h.below (MY _ _).drew).giv hbase 55 x #[MF ME x.1,MF ME x.2] rfl (by omega) (by unfold NE;omega);have hgb:∀b,b<W.heap.size->V.pg.map (·.block)≠MI b->w5.heap[b]?=W.heap[b]?:=fun b hb hne=>hg.block b hb (fun e=>hne (by rw[e,cS]))
 have hT5:=(hgb g h.lt h.oh).trans h.box;have hp:∀b,(MI (⟨q,0,MH⟩:Oc)).map (·.block)=MI b->V.pg.map (·.block)=MI b\/W.heap.size<=b:=fun b e=>by
  cases e;rcases hlies with e|e
  ·exact Nt (by rw[<-cS _ P.giv.length V.cg];exact e)
  ·exact NF (PJ e)
 have hlen:(P.giv++[x]).length=P.giv.length+1:=by simp
 have hG:=h.MA (w':=w5) (p:=MI ⟨q,0,MH⟩) (k:=c') (l:=P.giv++[x]) hg.size hgb (by rw[hlen];exact ho) hp;rw[hlen]at hG;refine⟨q,c',w5,hr,⟨by rw[MW w5 g 43 _ _ (0,0) hT5];rfl,by simp[Ng,hT5]⟩,hG,hg.os,hg.tape,hg.output,by simp;exact hg.size,fun b hb hn=>?_,fun b e=>?_⟩
 ·rw[MU _ _ _ _ (fun e=>hn (Nt e))]
  exact hgb b hb fun e=>hn (NF (NF e))
 ·rcases e with e|e|e
  ·exact Nt (Nt e)
  ·exact Nt (NF (Nt e))
  ·exact(hp b e).imp (fun e=>NF (NF e)) id
theorem Ly{base:Nat}{w:MO}{g:Nat}{V:Pv}{c:Cf}{P:Py}(h:Jz base w g V c P)(hr:JE c P)(hlen:P.steps.length<=1000)(hblk:aK w)(hb:base<=w.heap.size)(e:Ev)(he:gq e=0)(hgv:P.giv.length+(JH (iG P.last e).out).length<=100000) :
  Ni MK 19 #[gP g,Kb e] w fun r w'=>r=MN (M3 Nw)/\∃V',Jz base w' g V' c (P.step e)/\JC V V' g w w':=by
 obtain⟨W,hW⟩:∃W,W=w.alloc (MP (JN e).toArray 59):=⟨_,rfl⟩;have hB:MQ w.heap.size w W:=by rw[hW];exact ai w
 have hR:W.heap[w.heap.size]?=MI (MP (JN e).toArray 59 (0,0)):=by rw[hW];exact M1 _ _
 have hD:JF base W g V c P w.heap.size e:=⟨h.below hB,hR,hblk.below hB⟩;obtain⟨hh,hhe⟩:∃hh,hh=w.heap.size:=⟨_,rfl⟩;rw[<-hhe]at hD;have hno:¬V.own g hh:=fun e=>by have:=(h.Mb e).2;omega
 have HI:M6 (_/\_/\_/\_/\_/\_):=⟨hr,hlen,he,hB,hb,hno⟩;have HD:M6 _:=hD;have HGV:M6 _:=hgv;have H7:M6 (e.kind=7->P.last.now+1<=1099511626776):=fun _=>by have:=hr.now;omega
 obtain⟨L,hL⟩:∃L,L=(ef V.u P.last).toList:=⟨_,rfl⟩;have HL:M6 _:=hL;clear hR hblk h hr hlen he hB hb hD hL hno hgv;go_enter Tryz.func19,Tryz.ntmps19
 go_wp2_with fail
 rw[<-hW,<-hhe];clear hW hhe;apply gU
 ·intro KEY
  obtain⟨W3,hW3⟩:∃W3,W3=W.drew:=⟨_,rfl⟩;have hI3:JF base W3 g V c P hh e:=by rw[hW3];exact HD.out.on (MY _ _).drew
  obtain⟨S,hS,hSo,hS3⟩:∃S:MO->Prop,(∀X,S X->JF base X g V c P hh e)/\(∀X,JF base X g V c P hh e->S X)/\S W.drew:=⟨fun X=>JF base X g V c P hh e,fun _ h=>h,fun _ h=>h,by rw[<-hW3];exact hI3⟩;have HSS:M6 (_/\_):=⟨hS,hSo⟩;clear hS hSo hI3 hW3 W3;refine O2 (S:=S) (by kernel_rfl) hS3 (fun hHeld=>?_);refine o5 0 (gP g) hHeld ?_;simp only[Nr,MZ,MT,MS,MJ,ML,MM];refine o5 1 (gP g) hHeld ?_;simp only[Nr,MZ,MT,MS,MJ,ML,MM];refine o5 2 (Na (MI ⟨g,17,MH⟩)) hHeld ?_;simp only[Nr,MZ,MT,MS,MJ,ML,MM];refine o5 3 (Ny L.toArray) hHeld ?_ (hy:=Pt (by rfl) 54 (O6 12) rfl g 17 rfl L _ (fun _ h=>by rw[HL.out];exact(HSS.out.1 _ h).pat.Mo) U1 rfl (by rw[HL.out];exact iN));simp only[Nr,MZ,MT,MS,MJ,ML,MM];refine o5 4 (Ny (JN e).toArray) hHeld ?_ (hy:=Pt (by rfl) 59 (O6 3) rfl hh 0 rfl (JN e) _ (fun _ h=>(HSS.out.1 _ h).ev) RH rfl KT);simp only[Nr,MZ,MT,MS,MJ,ML,MM];refine NN (rs:=[5,10]) (by kernel_rfl) (by simp) ?_;refine NP (o:=_) rfl (fun K hK=>?_) (NP (o:=_) rfl (fun K hK=>?_) NX)
  ·go_simp
   refine Nd (w:=W.drew) (by rw[HL.out];exact FU (HSS.out.1 _ hHeld).pat.last.now HI.out.1.wm (HSS.out.1 _ hHeld).blk HI.out.1.out e HI.out.2.2.1 H7.out) ?_;rintro r w5 ⟨U5,po,co,rfl,hA5,hb5⟩;obtain⟨M5,hM5⟩:∃M5,M5=(ef U5 (iG P.last e)).toList:=⟨_,rfl⟩;obtain⟨n5,hn5⟩:∃n5,n5=(iG P.last e).out.length:=⟨_,rfl⟩;have HE5:M6 (_/\_/\_/\_):=⟨hM5,hA5,hb5,hn5⟩;have hS5:S w5:=HSS.out.2 _ ((HSS.out.1 _ hHeld).on hb5);rw[show lH U5 (iG P.last e)=Ny M5.toArray by rw[hM5],<-hn5];clear hA5 hb5 hM5 hn5
   go_wp2_with fail
   refine hK.out _ _ hS5 (fun hHeld5=>?_);clear hK K hS5
   try simp only[Nr,MZ,MT,MS,MJ,ML,MM]
   refine o5 6 (Nv #[Ny M5.toArray,MG po n5 co,MF ME 0]) hHeld5 ?_;simp only[Nr,MZ,MT,MS,MJ,ML,MM];refine o5 7 (Ny M5.toArray) hHeld5 ?_;simp only[Nr,MZ,MT,MS,MJ,ML,MM];refine o5 8 (MG po n5 co) hHeld5 ?_;simp only[Nr,MZ,MT,MS,MJ,ML,MM];refine o5 9 (MF ME 0) hHeld5 ?_;simp only[Nr,MZ,MT,MS,MJ,ML,MM];refine NN (rs:=[10]) (by kernel_rfl) (by simp) ?_;refine NP (o:=_) rfl (fun K hK=>?_) NX;go_simp;obtain⟨Y,hY⟩:∃Y,Y=w5.alloc (MP wz.toArray 54):=⟨_,rfl⟩;obtain⟨q,hg⟩:∃q,q=w5.heap.size:=⟨_,rfl⟩;have hY5:MQ w5.heap.size w5 Y:=by rw[hY];exact ai w5
   have hYZ:Y.heap[q]?=MI (MP wz.toArray 54 (0,0)):=by rw[hY,hg];exact M1 _ _
   have hb5:MQ W.heap.size W w5:=dt HE5.out.2.2.1;have hYb:MQ W.heap.size W Y:=hb5.trans (hY5.mono hb5.size);have hgW:W.heap.size<=q:=by rw[hg];exact hb5.size
   have hSY:S Y:=HSS.out.2 _ (HD.out.on hYb);have h5Y:∀b,b<w5.heap.size->Y.heap[b]?=w5.heap[b]?:=fun b h=>hY5.block b h
   have hsY:=hY5.size;have hge:w5.heap.size<=q:=by rw[hg];exact MV _
   rw[<-hY,<-hg];clear hY hg hY5 hb5;refine hK.out _ _ hSY (fun hHeldY=>?_);clear hK K hSY
   try simp only[Nr,MZ,MT,MS,MJ,ML,MM]
   have l5:M5.length=26:=by rw[HE5.out.1];rfl
   have hsz:M5.toArray.size=26:=(show M5.toArray.size=M5.length from OQ).trans l5;have hth:(Y).there q 0 M5.toArray.size:=by rw[hsz];exact vR hYZ
   obtain⟨u6,hu6⟩:∃u6,u6=(Y).setCells q 0 M5:=⟨_,rfl⟩;have hR6:u6.heap[q]?=MI (MP M5.toArray 54 (0,0)):=by rw[hu6];exact KM hYZ (by rw[l5];rfl)
   have hb6:MQ W.heap.size W u6:=by rw[hu6];exact tW hYb hgW _ _ hYb.size
   have hd6:JF base u6 g V c P hh e:=HD.out.on hb6;have hS6:S u6:=HSS.out.2 _ hd6;have hO6:cX (V.own g) u6 fun X=>aF X U5 (iG P.last e)/\bj gT X (MG po (iG P.last e).out.length co) (iG P.last e).out:=KL (b5:=q) HE5.out.2.1 (by rw[hu6,nj];exact hsY) (fun b h1 h2=>by rw[hu6,N8 _ _ _ _ (M8 h1 hsY) h2];try exact h5Y b h1) (NF hge) (fun b hx=>(HD.out.pat.Mb hx).2)
   have HE:M6 (JB base W u6 g V c P hh e q M5 U5 po co/\n5=(iG P.last e).out.length):=⟨⟨hd6,HE5.out.1,hR6,hgW,hb6,hO6,fun x hx=>(HD.out.pat.Mb hx).2,HI.out.2.2.2.2.2⟩,HE5.out.2.2.2⟩;have ho5:M5.toArray.all (·.oneCell')=true:=by rw[HE5.out.1];exact rS _ _
   clear hR6 hb6 hO6 hYb hYZ hgW hd6;refine NN (rs:=[11]) (by kernel_rfl) (by simp) ?_;refine ve (i:=11) (o:=_) (by rfl) (by rfl) 54 (O6 5) (O6 16) (by rfl) q 0 M5.toArray (by rfl) (by rfl) hth (by rw[hsz];exact iN) ho5 (by rw[NS,<-hu6];exact hS6) ?_;rw[NS,<-hu6]
   try simp only[Nr,MZ,MT,MS,MJ,ML,MM]
   refine NN (rs:=[12]) (by kernel_rfl) (by simp) ?_;refine mE (i:=12) (o:=_) (by rfl) (by rfl) (O6 17) (by rfl) (MG po n5 co) (by rfl) hS6 ?_
   try simp only[Nr,MZ,MT,MS,MJ,ML,MM]
   refine NN (rs:=[13]) (by kernel_rfl) (by simp) ?_;refine mE (i:=13) (o:=_) (by rfl) (by rfl) (O6 18) (by rfl) (MF ME 0) (by rfl) hS6 ?_
   try simp only[Nr,MZ,MT,MS,MJ,ML,MM]
   refine PS (by kernel_rfl) ?_ _;clear hth hsz l5 HE5 hS6 hu6 ho5;clear hHeld5 hHeldY h5Y hsY hge;revert HE;revert u6;revert n5;revert co;revert po;revert U5;revert M5;revert q;exact KEY.out
  ·go_simp
   obtain⟨X1,hX1⟩:∃X1,X1=(W.alloc (MP wz.toArray 54)).drew:=⟨_,rfl⟩;have hXb:MQ W.heap.size W X1:=by rw[hX1];exact(ai W).drew
   have hXZ:X1.heap[W.heap.size]?=MI (MP wz.toArray 54 (0,0)):=by rw[hX1];exact M1 _ _
   have hSX:S X1:=HSS.out.2 _ (HD.out.on hXb);obtain⟨q,hg⟩:∃q,q=W.heap.size:=⟨_,rfl⟩;have HX:M6 (_/\_/\_):=⟨hXb,hXZ,hg⟩;clear hXb hXZ;rw[<-hX1,<-hg];clear hX1 hg;refine hK.out _ _ hSX (fun hHeld=>?_);clear hK K hSX
   try simp only[Nr,MZ,MT,MS,MJ,ML,MM]
   refine NN (rs:=[5]) (by kernel_rfl) (by simp) ?_;refine NP (o:=_) rfl (fun K hK=>?_) NX;go_simp;refine Nd (w:=X1) (by rw[HL.out];exact FU (HSS.out.1 _ hHeld).pat.last.now HI.out.1.wm (HSS.out.1 _ hHeld).blk HI.out.1.out e HI.out.2.2.1 H7.out) ?_;rintro r w5 ⟨U5,po,co,rfl,hA5,hb5⟩;obtain⟨M5,hM5⟩:∃M5,M5=(ef U5 (iG P.last e)).toList:=⟨_,rfl⟩;obtain⟨n5,hn5⟩:∃n5,n5=(iG P.last e).out.length:=⟨_,rfl⟩;have HE5:M6 (_/\_/\_/\_):=⟨hM5,hA5,hb5,hn5⟩;have hS5:S w5:=HSS.out.2 _ ((HSS.out.1 _ hHeld).on hb5);rw[show lH U5 (iG P.last e)=Ny M5.toArray by rw[hM5],<-hn5];clear hA5 hb5 hM5 hn5
   go_wp2_with fail
   refine hK.out _ _ hS5 (fun hHeld5=>?_);clear hK K hS5
   try simp only[Nr,MZ,MT,MS,MJ,ML,MM]
   refine o5 6 (Nv #[Ny M5.toArray,MG po n5 co,MF ME 0]) hHeld5 ?_;simp only[Nr,MZ,MT,MS,MJ,ML,MM];refine o5 7 (Ny M5.toArray) hHeld5 ?_;simp only[Nr,MZ,MT,MS,MJ,ML,MM];refine o5 8 (MG po n5 co) hHeld5 ?_;simp only[Nr,MZ,MT,MS,MJ,ML,MM];refine o5 9 (MF ME 0) hHeld5 ?_;simp only[Nr,MZ,MT,MS,MJ,ML,MM];have hYZ:w5.heap[q]?=MI (MP wz.toArray 54 (0,0)):=by rw[HX.out.2.2];exact af HX.out.2.1 HE5.out.2.2.1
   have hYb:MQ W.heap.size W w5:=HX.out.1.trans (HE5.out.2.2.1.mono HX.out.1.size);have hgW:W.heap.size<=q:=by rw[HX.out.2.2];exact MV _
   have hgX:q<X1.heap.size:=by rw[HX.out.2.2];exact(Array.getElem?_eq_some_iff.1 HX.out.2.1).1
   have h5Y:∀b,b<w5.heap.size->w5.heap[b]?=w5.heap[b]?:=fun _ _=>rfl
   have hsY:w5.heap.size<=w5.heap.size:=MV _;have hs1:=HX.out.1.size;have l5:M5.length=26:=by rw[HE5.out.1];rfl
   have hsz:M5.toArray.size=26:=(show M5.toArray.size=M5.length from OQ).trans l5;have hth:(w5).there q 0 M5.toArray.size:=by rw[hsz];exact vR hYZ
   obtain⟨u6,hu6⟩:∃u6,u6=(w5).setCells q 0 M5:=⟨_,rfl⟩;have hR6:u6.heap[q]?=MI (MP M5.toArray 54 (0,0)):=by rw[hu6];exact KM hYZ (by rw[l5];rfl)
   have hb6:MQ W.heap.size W u6:=by rw[hu6];exact tW hYb hgW _ _ hYb.size
   have hd6:JF base u6 g V c P hh e:=HD.out.on hb6;have hS6:S u6:=HSS.out.2 _ hd6;have hO6:cX (V.own g) u6 fun X=>aF X U5 (iG P.last e)/\bj gT X (MG po (iG P.last e).out.length co) (iG P.last e).out:=KL (b5:=q) HE5.out.2.1 (by rw[hu6,nj];exact hsY) (fun b h1 h2=>by rw[hu6,N8 _ _ _ _ (M8 h1 hsY) h2];try exact h5Y b h1) (Nt hgX) (fun b hx=>M8 (HD.out.pat.Mb hx).2 hs1)
   have HE:M6 (JB base W u6 g V c P hh e q M5 U5 po co/\n5=(iG P.last e).out.length):=⟨⟨hd6,HE5.out.1,hR6,hgW,hb6,hO6,fun x hx=>(HD.out.pat.Mb hx).2,HI.out.2.2.2.2.2⟩,HE5.out.2.2.2⟩;have ho5:M5.toArray.all (·.oneCell')=true:=by rw[HE5.out.1];exact rS _ _
   clear hR6 hb6 hO6 hYb hYZ hgW hd6;refine NN (rs:=[11]) (by kernel_rfl) (by simp) ?_;refine ve (i:=11) (o:=_) (by rfl) (by rfl) 54 (O6 5) (O6 16) (by rfl) q 0 M5.toArray (by rfl) (by rfl) hth (by rw[hsz];exact iN) ho5 (by rw[NS,<-hu6];exact hS6) ?_;rw[NS,<-hu6]
   try simp only[Nr,MZ,MT,MS,MJ,ML,MM]
   refine NN (rs:=[12]) (by kernel_rfl) (by simp) ?_;refine mE (i:=12) (o:=_) (by rfl) (by rfl) (O6 17) (by rfl) (MG po n5 co) (by rfl) hS6 ?_
   try simp only[Nr,MZ,MT,MS,MJ,ML,MM]
   refine NN (rs:=[13]) (by kernel_rfl) (by simp) ?_;refine mE (i:=13) (o:=_) (by rfl) (by rfl) (O6 18) (by rfl) (MF ME 0) (by rfl) hS6 ?_
   try simp only[Nr,MZ,MT,MS,MJ,ML,MM]
   refine PS (by kernel_rfl) ?_ _;clear hth hsz l5 HE5 hS6 hu6 ho5;clear hHeld5 hgX HX h5Y hsY hs1;revert HE;revert u6;revert n5;revert co;revert po;revert U5;revert M5;revert q;exact KEY.out
 ·rintro q M5 U5 po co n5 u6 HE
  obtain⟨T,hT⟩:∃T,T=iG P.last e:=⟨_,rfl⟩;have hwT:Wm T:=by rw[hT];exact HI.out.1.wm.Mm (D5 HI.out.2.2.1) H7.out
  have hcT:T.cfg=c:=by rw[hT];exact(KF P.last e).1.trans HI.out.1.cfg
  have hfl:(T.tab.length:Int)=c.flows:=by rw[<-hcT];exact hwT.im.bs.tabLen
  have c0:u6.cell? ⟨g,0,MH⟩=MI (MF ME c.flows):=by rw[MW u6 g 0 _ _ (0,0) HE.out.1.dos.pat.box];rfl
  have c17:u6.cell? ⟨q,17,MH⟩=MI (MG U5.pt T.tab.length U5.ct):=by rw[MW u6 q 17 _ _ (0,0) HE.out.1.box,HE.out.1.mem,hT];rfl
  have hgl:=HE.out.1.dos.pat.lt;have hql:q<u6.heap.size:=(Array.getElem?_eq_some_iff.1 HE.out.1.box).1;have hne:((T.tab.length:Int) != c.flows)=false:=by rw[hfl];simp
  have HT:M6 (_/\_/\_/\_):=⟨hT,hwT,hcT,hfl⟩;clear hT hwT hcT hfl
  go_wp2_with fail
  refine wp_region_quiet_lit (by kernel_rfl) (by kernel_rfl) ?_
  repeat (first|go_big_quiet_skip|quiet_step (fail))
  refine Oy ?_;intro _ hw';obtain⟨nq,hw''⟩:=hw';subst hw''
  go_wp2_with fail
  obtain⟨u7,hu7⟩:∃u7,u7=u6.drewN nq:=⟨_,rfl⟩;have hb7:MQ u6.heap.size u6 u7:=by rw[hu7];exact B3 (MY _ _) nq
  have hE7:JB base W u7 g V c P hh e q M5 U5 po co:=HE.out.1.on hb7;obtain⟨z,hz⟩:∃z:Sq,z=⟨⟨e,P.last,(iG P.last e).Ma,(iG P.last e).out⟩,V.u,U5,po,co⟩:=⟨_,rfl⟩;obtain⟨R,hR⟩:∃R,R=JU z:=⟨_,rfl⟩;have hbld:∀X,(QA 62 #[(0,Ny (JN e).toArray),(1,Ny L.toArray),(2,Ny M5.toArray),(3,MG po n5 co)]).run MK X=.ok (Ny R.toArray) X:=fun X=>by
   rw[HL.out,HE.out.1.mem,HE.out.2,hR,hz];exact Lw ⟨⟨e,P.last,(iG P.last e).Ma,(iG P.last e).out⟩,V.u,U5,po,co⟩ X
  have hsl:∀X,(Q0 35 1 #[(0,Ny R.toArray)]).run MK X=.ok (MG (MI ⟨X.heap.size,0,MH⟩) 1 1) (X.alloc (MP R.toArray 62)):=fun X=>by
   rw[hR];exact LT z X
  have hql5:V.qs.length<=1000:=by rw[<-hE7.dos.pat.steps];exact HI.out.2.1
  have hbb:base<=u7.drew.heap.size:=Nm (Nm HI.out.2.2.2.2.1 HI.out.2.2.2.1.size) hE7.bel.size;have HP:M6 _:=LQ (hE7.on (MY _ _).drew) (by omega) hbb z hz hE7.bel.size;rw[<-hR]at HP;have HZ:M6 (_/\_/\_/\_):=⟨hbld,hsl,hz,(show M5.length=26 by rw[HE.out.1.mem];rfl)⟩;have HE7:M6 _:=hE7;rw[<-hu7];clear hu7 c0 c17 hgl hql hne hbld hsl hz hR hE7 hb7 hql5 hbb;apply gU
  ·intro KEY
   obtain⟨q8,c8,w9,hr9,hcf9,hgb9,hF9⟩:=HP.out;obtain⟨S,hS,hSo⟩:∃S:MO->Prop,(∀X,S X->JR X hh g q e L M5)/\(∀X,JR X hh g q e L M5->S X):=⟨fun X=>JR X hh g q e L M5,fun _ h=>h,fun _ h=>h⟩;have hd7:JB base W u7.drew g V c P hh e q M5 U5 po co:=HE7.out.on (MY _ _).drew;have hr7:JR u7.drew hh g q e L M5:=by have:=hd7.Gz;rw[HL.out];exact this
   have hql:q<u7.drew.heap.size:=(Array.getElem?_eq_some_iff.1 hd7.box).1;have hhl:hh<u7.drew.heap.size:=(Array.getElem?_eq_some_iff.1 hd7.dos.evb).1;have hgl:=hd7.dos.pat.lt;have hqn:¬V.own g q:=fun e=>by have:=hd7.lt q e;have:=hd7.low;omega
   have hX7:MQ u7.drew.heap.size u7.drew (u7.drew.alloc (MP R.toArray 62)):=ai _;have hrX:JR (u7.drew.alloc (MP R.toArray 62)) hh g q e L M5:=hr7.Gf (hX7.block _ hhl) (hX7.block _ hgl) (hX7.block _ hql);have hr9':JR w9 hh g q e L M5:=hr7.Gf (hgb9 _ hhl fun e=>hd7.no (NF (Nt e))) (hgb9 _ hgl hd7.dos.pat.og) (hgb9 _ hql fun e=>hqn (NF (Nt e)));have hr8:JR (w9.setCell ⟨g,16,MH⟩ (MG (MI ⟨q8,0,MH⟩) (V.qs.length+1) c8)) hh g q e L M5:=hr9'.F4 (fun e=>hd7.no (Nt e)) (fun e=>hqn (Nt e)) _;have H9:M6 (_/\_/\_/\_/\_):=⟨hr9,hcf9,hSo _ hr9',hSo _ hr8,hF9⟩;have hgl7:g<u7.heap.size:=hgl;have HC:M6 (_/\_/\_):=⟨hd7.Gm,(hd7.on hX7).Gm,hSo _ hrX⟩;have hS3:=hSo _ hr7;have HSS:M6 (_/\True):=⟨hS,trivial⟩;clear hS hSo hr9 hcf9 hgb9 hF9 hd7 hr7 hql hhl hgl hgl7 hqn hX7 hrX hr9' hr8;refine O2 (S:=S) (by kernel_rfl) hS3 (fun hHeld=>?_);refine o5 0 (gP g) hHeld ?_;simp only[Nr,MZ,MT,MS,MJ,ML,MM];refine o5 1 (gP g) hHeld ?_;simp only[Nr,MZ,MT,MS,MJ,ML,MM];refine o5 2 (gP g) hHeld ?_;simp only[Nr,MZ,MT,MS,MJ,ML,MM];refine o5 3 (Na (MI ⟨g,16,MH⟩)) hHeld ?_;simp only[Nr,MZ,MT,MS,MJ,ML,MM];refine o5 5 (Ny (JN e).toArray) hHeld ?_ (hy:=Pt (by rfl) 59 (O6 3) rfl hh 0 rfl (JN e) _ (fun _ h=>(HSS.out.1 _ h).1) RH rfl KT);simp only[Nr,MZ,MT,MS,MJ,ML,MM];refine o5 6 (gP g) hHeld ?_;simp only[Nr,MZ,MT,MS,MJ,ML,MM];refine o5 7 (gP g) hHeld ?_;simp only[Nr,MZ,MT,MS,MJ,ML,MM];refine o5 8 (Na (MI ⟨g,17,MH⟩)) hHeld ?_;simp only[Nr,MZ,MT,MS,MJ,ML,MM];refine o5 9 (Ny L.toArray) hHeld ?_ (hy:=Pt (by rfl) 54 (O6 41) rfl g 17 rfl L _ (fun _ h=>(HSS.out.1 _ h).2.1) U1 rfl (by rw[HL.out];exact iN));simp only[Nr,MZ,MT,MS,MJ,ML,MM];refine o5 10 (Ny M5.toArray) hHeld ?_ (hy:=Pt (by rfl) 54 (O6 5) rfl q 0 rfl M5 _ (fun _ h=>(HSS.out.1 _ h).2.2) U1 rfl (by rw[HZ.out.2.2.2];exact iN));simp only[Nr,MZ,MT,MS,MJ,ML,MM];refine o5 11 (MG po n5 co) hHeld ?_;simp only[Nr,MZ,MT,MS,MJ,ML,MM];refine o5 12 (Ny R.toArray) hHeld ?_ (hy:=LZ (by rfl) 62 #[(0,O6 38),(1,O6 42),(2,O6 43),(3,O6 44)] rfl (Ny R.toArray) (fun X=>by simp only[PW,OA,P5];exact HZ.out.1 X));simp only[Nr,MZ,MT,MS,MJ,ML,MM];refine NN (rs:=[4,13]) (by kernel_rfl) (by simp) ?_;refine NP (o:=_) rfl (fun K hK=>?_) (NP (o:=_) rfl (fun K hK=>?_) NX)
   ·have c16:=HC.out.1
    go_simp;refine hK.out _ _ hHeld (fun hHeld=>?_);clear hK K c16
    try simp only[Nr,MZ,MT,MS,MJ,ML,MM]
    refine NN (rs:=[13]) (by kernel_rfl) (by simp) ?_;refine LR (i:=13) (o:=_) (by rfl) (by rfl) 35 1 #[(0,O6 45)] (by rfl) (MG (MI ⟨u7.drew.heap.size,0,MH⟩) 1 1) (w1:=u7.drew.alloc (MP R.toArray 62)) (by simp only[PW,OA,P5];exact HZ.out.2.1 _) HC.out.2.2 ?_
    try simp only[Nr,MZ,MT,MS,MJ,ML,MM]
    refine NN (rs:=[14]) (by kernel_rfl) (by simp) ?_;refine KW (i:=14) (o:=_) (by rfl) (by rfl) (O6 37) (O6 46) 35 (by rfl) _ _ _ (by rfl) (by rfl) H9.out.1 H9.out.2.2.1 ?_;have hHeld9:=H9.out.2.2.1
    try simp only[Nr,MZ,MT,MS,MJ,ML,MM]
    refine o5 15 (gP g) hHeld9 ?_;simp only[Nr,MZ,MT,MS,MJ,ML,MM];refine o5 16 (Na (MI ⟨g,16,MH⟩)) hHeld9 ?_;simp only[Nr,MZ,MT,MS,MJ,ML,MM];refine NN (rs:=[17]) (by kernel_rfl) (by simp) ?_;refine NP (o:=_) rfl (fun K hK=>?_) NX;have hc9:=H9.out.2.1.1;have hf9:=H9.out.2.1.2;go_simp;obtain⟨u8,hu8⟩:∃u8,u8=w9.setCell ⟨g,16,MH⟩ (MG (MI ⟨q8,0,MH⟩) (V.qs.length+1) c8):=⟨_,rfl⟩;have HF:M6 _:=H9.out.2.2.2.2;have hS8:=H9.out.2.2.2.1;rw[<-hu8]at HF hS8;rw[<-hu8];refine hK.out _ _ hS8 (fun hHeld8=>?_)
    try simp only[Nr,MZ,MT,MS,MJ,ML,MM]
    refine PS (by kernel_rfl) ?_ _;clear hK K hHeld8 hS8 hu8 hc9 hf9 hHeld9 H9;revert HF;revert u8;revert c8;revert q8;exact KEY.out
   ·refine LX (by rfl) 35 1 #[(0,O6 45)] (by rfl) (MG (MI ⟨u7.drew.heap.size,0,MH⟩) 1 1) (w1:=u7.drew.alloc (MP R.toArray 62)) (by simp only[PW,OA,P5];exact HZ.out.2.1 _) ?_
    refine hK.out _ _ HC.out.2.2 (fun hHeldB=>?_);clear hK K
    try simp only[Nr,MZ,MT,MS,MJ,ML,MM]
    refine NN (rs:=[4]) (by kernel_rfl) (by simp) ?_;refine NP (o:=_) rfl (fun K hK=>?_) NX;obtain⟨X7,hX7⟩:∃X7,X7=u7.drew.alloc (MP R.toArray 62):=⟨_,rfl⟩;have c16:X7.cell? ⟨g,16,MH⟩=MI (MG V.ps V.qs.length V.cs):=by rw[hX7];exact HC.out.2.1
    have hHB:=hHeldB;rw[<-hX7]at hHB⊢;have HX7:M6 _:=hX7;clear hX7;go_simp;refine hK.out _ _ hHB (fun hHeldC=>?_);clear hK K c16 hHB hHeldC;have hX7:=HX7.out;clear HX7;subst hX7
    try simp only[Nr,MZ,MT,MS,MJ,ML,MM]
    refine NN (rs:=[14]) (by kernel_rfl) (by simp) ?_;refine KW (i:=14) (o:=_) (by rfl) (by rfl) (O6 37) (O6 46) 35 (by rfl) _ _ _ (by rfl) (by rfl) H9.out.1 H9.out.2.2.1 ?_;have hHeld9:=H9.out.2.2.1
    try simp only[Nr,MZ,MT,MS,MJ,ML,MM]
    refine o5 15 (gP g) hHeld9 ?_;simp only[Nr,MZ,MT,MS,MJ,ML,MM];refine o5 16 (Na (MI ⟨g,16,MH⟩)) hHeld9 ?_;simp only[Nr,MZ,MT,MS,MJ,ML,MM];refine NN (rs:=[17]) (by kernel_rfl) (by simp) ?_;refine NP (o:=_) rfl (fun K hK=>?_) NX;have hc9:=H9.out.2.1.1;have hf9:=H9.out.2.1.2;go_simp;obtain⟨u8,hu8⟩:∃u8,u8=w9.setCell ⟨g,16,MH⟩ (MG (MI ⟨q8,0,MH⟩) (V.qs.length+1) c8):=⟨_,rfl⟩;have HF:M6 _:=H9.out.2.2.2.2;have hS8:=H9.out.2.2.2.1;rw[<-hu8]at HF hS8;rw[<-hu8];refine hK.out _ _ hS8 (fun hHeld8=>?_)
    try simp only[Nr,MZ,MT,MS,MJ,ML,MM]
    refine PS (by kernel_rfl) ?_ _;clear hK K hHeld8 hS8 hu8 hc9 hf9 hHeld9 H9 hHeldB;revert HF;revert u8;revert c8;revert q8;exact KEY.out
  ·rintro q8 c8 u8 HF
   obtain⟨V8,hV8⟩:∃V8:Pv,V8={V with ps:=MI ⟨q8,0,MH⟩,cs:=c8,qs:=V.qs++[z]}:=⟨_,rfl⟩;rw[<-hV8]at HF;have hM:M5=(ef U5 (iG P.last e).Ma).toList:=HE.out.1.mem;obtain⟨u9,hu9⟩:∃u9,u9=u8.setCells g 17 M5:=⟨_,rfl⟩;have hP9:Jz base u9 g {V8 with u:=U5} c {{P with steps:=P.steps++[z.s]}with last:=(iG P.last e).Ma}:=by
    rw[hu9,hM];exact HF.out.pat.MC U5 (iG P.last e).Ma fun X h1 h2=>(HF.out.ans X h1 h2).1.Ma
   have hsz:M5.toArray.size=26:=(show M5.toArray.size=M5.length from OQ).trans HZ.out.2.2.2;have hone:M5.toArray.all (·.oneCell')=true:=by rw[hM];exact rS _ _
   have hth:u8.there g 17 M5.toArray.size:=by
    rw[hsz];exact fun j hj=>by
     have hb:=HF.out.pat.box;have hlt:17+j<(JZ V8 c {P with steps:=P.steps++[z.s]}).toArray.size:=by show 17+j<44;omega
     exact⟨by rw[MW u8 g (17+j) _ _ (0,0) hb,PN hlt];rfl,by simp[Ng,hb]⟩
   have hrq:u8.rangeAt q 0 M5:=J9 HF.out.box;have hoth:∀b,b<u8.heap.size->b≠g->u9.heap[b]?=u8.heap[b]?:=fun b hb e=>by rw[hu9];exact N8 u8 g 17 _ hb e
   have hs9:u9.heap.size=u8.heap.size:=by rw[hu9];exact nj _ _ _ _
   have hA9:cX (Pv.own {V8 with u:=U5} g) u9 fun X=>bj gT X (MG po (iG P.last e).out.length co) (iG P.last e).out:=by
    refine cX.step (S:=V8.own g) (fun X h1 h2=>(HF.out.ans X h1 h2).2) (by rw[hs9];exact MV _) (fun b q1 q2=>hoth b q1 fun e=>q2 (Nt e)) fun b q1 e=>e
   have hf9:JC V {V8 with u:=U5} g W u9:=by rw[hu9];exact HF.out.frm.F0 (LD M5)
   have HL0:M6 (JL base W u9 g V {V8 with u:=U5} c P z.s (iG P.last e).Ma (iG P.last e).out 0 po co):=⟨by rw[show P.giv++JH ((iG P.last e).out.take 0)=P.giv by show P.giv++[]=P.giv;simp];exact hP9,hf9,hA9⟩;have H5:M6 (_/\_/\_/\_/\_/\_):=⟨hP9,hA9,hth,hsz,hone,hrq⟩;have HU9:M6 _:=hu9;clear hf9 hM hu9 hP9 hsz hone hth hrq hoth hs9 hA9
   go_wp2_with (first|((with_reducible refine O3 rfl 54 (O6 5) rfl q 0 ?gx M5 _ ?gc U1 ?gd ?gi ?_);(case gx=>rfl);(case gc=>exact H5.out.2.2.2.2.2);(case gd=>rfl);(case gi=>rw[HZ.out.2.2.2];exact iN))|((with_reducible refine OW rfl 54 (O6 53) (O6 51) rfl g 17 M5.toArray ?sx ?sy ?st ?si ?s1 ?_);(case sx=>rfl);(case sy=>rfl);(case st=>exact H5.out.2.2.1);(case si=>rw[H5.out.2.2.2.1];exact iN);(case s1=>exact H5.out.2.2.2.2.1);rw[NS,<-HU9.out]))
   obtain⟨l,hl⟩:∃l,l=(iG P.last e).out:=⟨_,rfl⟩;have hn:=HE.out.2;rw[<-hl]at HL0 hn;have HN:M6 (n5=l.length):=hn;have HLo:M6 (l=(iG P.last e).out):=hl;clear hn hl H5 HU9
   go_loopw [8] (fun i wr=>∃(k:Nat) (V9:Pv),i=MF ME (k:Int)/\k<=n5/\M6 (JL base W wr g V V9 c P z.s (iG P.last e).Ma l k po co)) (fun i _=>n5-(intOf i).toNat)
   case atStart=>exact⟨0,_,rfl,Nx _,HL0⟩
   case round =>
    obtain⟨k,V9,rfl,hk,HK⟩:=hrel
    by_cases hlt:k<n5
    ·have hkI:(k:Int)<(n5:Int):=by omega
     have hkl:k<l.length:=by rw[<-HN.out];exact hlt
     obtain⟨a,cap,hv,hc,hm,hp⟩:=bj.F6 Bq HK.out.out.now;injection hv with ha hn2 hcap;obtain⟨bo,oo,hao,hbl,hcell⟩:=hp k hkl;rw[<-ha]at hao;have d0:wr.cell? ⟨bo,oo+k*7,MH⟩=MI (MF ME l[k].kind):=hcell 0 (by omega);have d1:wr.cell? ⟨bo,oo+k*7+1,MH⟩=MI (MF ME l[k].slot):=hcell 1 (by omega);have d2:wr.cell? ⟨bo,oo+k*7+2,MH⟩=MI (MF ME l[k].gen):=hcell 2 (by omega);have hgn:=LG hkl;obtain⟨x,hx⟩:∃x,x=l[k]:=⟨_,rfl⟩;rw[<-hx]at d0 d1 d2 hgn;subst hao;have HG:M6 _:=hgn;have hbn:n5<=9223372036854775807:=by rw[HN.out];unfold NE at hm;omega
     clear ha hn2 hcap hcell hp hc hm hkl hgn hx
     by_cases hk1:x.kind=1
     ·have hk1':(x.kind == 1)=true:=by simp[hk1]
      have hgl:(P.giv++JH (l.take k)).length<=1000000:=by
       rw[Ns];have:=LH l k;have:=HGV.out;rw[<-HLo.out]at this;omega
      obtain⟨q9,c9,w9,ir9,⟨ic9,hf9⟩,iG9,iF9⟩:=LF HK.out.pat hgl (x.slot,x.gen);have i43:=HK.out.pat.Mn;have hglt:=HK.out.pat.lt;obtain⟨n9,hn9⟩:∃n9,n9=(P.giv++JH (l.take k)).length:=⟨_,rfl⟩;have hr9:(N2 #[55,55] 55 #[MG V9.pg n9 V9.cg,MG (MI ⟨wr.heap.size,0,MH⟩) 1 1]).run MK ((wr.alloc (MP #[MF ME x.slot,MF ME x.gen] 97)).drew)=.ok (MG (MI ⟨q9,0,MH⟩) (n9+1) c9) w9:=by rw[hn9];exact ir9
      have hG9:Jz base (w9.setCell ⟨g,43,MH⟩ (MG (MI ⟨q9,0,MH⟩) (n9+1) c9)) g {V9 with pg:=MI ⟨q9,0,MH⟩,cg:=c9} c ⟨P.steps++[z.s],(iG P.last e).Ma,(P.giv++JH (l.take k))++[(x.slot,x.gen)]⟩:=by rw[hn9];exact iG9
      have hF9:JC V9 {V9 with pg:=MI ⟨q9,0,MH⟩,cg:=c9} g wr (w9.setCell ⟨g,43,MH⟩ (MG (MI ⟨q9,0,MH⟩) (n9+1) c9)):=by rw[hn9];exact iF9
      have hc9:w9.cell? ⟨g,43,MH⟩=MI (MG V9.pg n9 V9.cg):=by rw[hn9];exact ic9
      have c43:wr.cell? ⟨g,43,MH⟩=MI (MG V9.pg n9 V9.cg):=by rw[hn9];exact i43
      have HR:M6 (_/\_/\_):=⟨hr9,hG9,hF9⟩;clear hr9 hG9 hF9 hgl hn9 ir9 ic9 iG9 iF9 i43;go_wp2
      go_region_law (first|(refine mM (by rfl) _ _ 55 (by rfl) _ _ _ _ (by rfl) (by rfl) HR.out.1 ?_))
      all_goals
       go_wp2
       go_roundw
       case rel=>exact⟨k+1,_,by simp,hlt,⟨by have h:=HR.out.2.1;rw[HG.out,Nh hk1,<-OC];exact h,HK.out.frm.F0 HR.out.2.2,Lr HK.out.out HR.out.2.2⟩⟩
       case measure=>simp[intOf];omega
     ·have hk1':(x.kind == 1)=false:=by simp[hk1]
      go_wp2
      go_roundw
      case rel=>exact⟨k+1,V9,by simp,hlt,⟨by have h:=HK.out.pat;rw[HG.out,Nf hk1,OG];exact h,HK.out.frm,HK.out.out⟩⟩
      case measure=>simp[intOf];omega
    ·obtain rfl:k=n5:=by omega
     have hkI:¬(k:Int)<(k:Int):=by omega
     go_wp2;go_ret;have e1:(⟨P.steps++[z.s],(iG P.last e).Ma,P.giv++JH (l.take k)⟩:Py)=P.step e:=by
      rw[show l.take k=l from N1 (Nat.le_of_eq HN.out.symm),HLo.out,HZ.out.2.2.1];rfl
     have h9:=HK.out.pat
     rw[e1]at h9;exact⟨rfl,V9,h9,(JC.F5 HI.out.2.2.2.1).F0 HK.out.frm⟩
structure JD(w W:MO)(g:Nat)(V:Pv)(c:Cf)(P:Py):Prop where
 pat:Jz w.heap.size W g V c P
 rn:Rn (qt c) c P
 bel:MQ w.heap.size w W
 blk:aK W
 pos:0<w.heap.size
theorem JD.on{w W:MO}{g:Nat}{V:Pv}{c:Cf}{P:Py}(h:JD w W g V c P)(hb:MQ W.heap.size W Y):JD w Y g V c P :=
 ⟨h.pat.below hb,h.rn,h.bel.trans (hb.mono h.bel.size),h.blk.below hb,h.pos⟩
theorem JD.Mf{w W:MO}{g:Nat}{V:Pv}{c:Cf}{P:Py}(h:JD w W g V c P)(hl:P.steps.length<=1000)(e:Ev)(he:gq e=0) :
  Ni MK 19 #[gP g,kI e] W fun r w'=>r=MN (M3 Nw)/\∃V',JD w w' g V' c (P.step e):=by
 refine(Ly h.pat h.rn.runs hl h.blk h.bel.size e he (h.rn.Mv hl he)).mono ?_;rintro r w' ⟨rfl,V',hp,hf⟩;have hu:=hf.IT h.pat h.bel.size;exact⟨rfl,V',hp,h.rn.step he (by omega),h.bel.trans hu,h.blk.Gf (hu.block 0 h.pos),h.pos⟩
theorem JD.MD{w W:MO}{g:Nat}{V:Pv}{c:Cf}{P:Py}(h:JD w W g V c P)(hl:P.steps.length<=1000)(d:Dd)(hd:Kg d) :
  Ni MK 20 #[gP g,Ny #[MF ME d.k,MF ME d.a,MF ME d.b,MF ME d.c]] W fun r w'=>∃e,gq e=0/\r=MN (kI e)/\JD w w' g V c P:=by
 have hrv:bj J5 W (MG V.pg P.giv.length V.cg) P.giv:=gZ h.pat.giv;refine(LA h.pat.Mn h.pat.lt (by have:=h.rn.Mj;omega) (fun i hi=>?_) h.rn.runs.Mx d.k d.a d.b d.c (qI hd.1) (qI hd.2.1) (qI hd.2.2.1) (qI hd.2.2.2)).mono ?_
 ·obtain⟨a,cap,hv,_,_,hp⟩:=bj.F6 KR hrv
  obtain⟨b,o,ha,hb,hc⟩:=hp i hi;injection hv with q1 _ _;exact⟨b,o,q1.trans ha,hb,hc 0 (by omega),hc 1 (by omega)⟩
 ·rintro r w' ⟨e,he,rfl,hb⟩
  exact⟨e,he,rfl,h.on hb⟩
structure JP(f:Nat->Int)(c:Cf):Prop where
 ok:nv c
 flows:c.flows<=8
 drain:c.drain<=5
 idle:c.idle<=6
 conn:c.conn<=4
 ret:c.ret<=3
 most:c.most=((eB (f 9) 101:Nat):Int)
theorem Lx(f:Nat->Int)(hf:∀i,i<16->(N6 ME (f i)).wf=Nw):∃c:Cf,JP f c/\∀w,Ni MK 22 #[BD (f 0) (f 1) (f 2) (f 3) (f 4) (f 5) (f 6) (f 7) (f 8) (f 9) (f 10) (f 11) (f 12) (f 13) (f 14) (f 15)] w fun r w'=>r=MN (sE c)/\MQ w.heap.size w w':=by
 obtain⟨c,hc,h⟩:=X9 (f 0) (f 1) (f 2) (f 3) (f 4) (f 5) (f 6) (f 7) (f 8) (f 9) (f 10) (f 11) (f 12) (f 13) (f 14) (f 15) (hf 0 (by omega)) (hf 1 (by omega)) (hf 2 (by omega)) (hf 3 (by omega)) (hf 4 (by omega)) (hf 5 (by omega)) (hf 6 (by omega)) (hf 7 (by omega)) (hf 8 (by omega)) (hf 9 (by omega)) (hf 10 (by omega)) (hf 11 (by omega)) (hf 12 (by omega)) (hf 13 (by omega)) (hf 14 (by omega)) (hf 15 (by omega));exact⟨⟨c.flows,c.num,c.den,c.tries,c.warm,c.drain,c.idle,c.conn,c.ret,c.most,c.bn,c.bd,c.bb,c.wn,c.wf,c.wh⟩,⟨hc.ok,hc.flows,hc.drain,hc.idle,hc.conn,hc.ret,hc.most⟩,h⟩
abbrev L7:List Value:=[MF ME 0,MF ME 0,MF ME 0,MF ME 0,MF ME 0,MF ME 0,MF ME 0,MF ME 0,MF ME 0,MF ME 0,MF ME 0,MF ME 0,MF ME 0,MF ME 0,MF ME 0,MF ME 0]
theorem Km:(Tryz.prog.info? 34).map (·.size)=MI 16:=by kernel_rfl
theorem LM(c:Cf):(JW c).toArray.all (·.oneCell')=true:=by
 apply OE;intro u hu;simp only[OO,OD,or_false]at hu;rcases hu with rfl|rfl|rfl|rfl|rfl|rfl|rfl|rfl|rfl|rfl|rfl|rfl|rfl|rfl|rfl|rfl <;> rfl
abbrev J0(U:Us):Pv:=⟨MH,0,MH,0,U,[]⟩
theorem Lu(U:Us)(c:Cf)(W:MO):(QA 57 #[(0,Ny (JW c).toArray),(2,Ny (ef U (qt c)))]).run MK W=.ok (Ny (JZ (J0 U) c ⟨[],qt c,[]⟩).toArray) W:=by kernel_rfl
theorem LS{c:Cf}(hc:nv c):JE c ⟨[],qt c,[]⟩:=
 ⟨Kw hc,rfl,rfl,Qh _,fun _ h=>absurd h OD,fun _ _ _ h=>absurd h (by simp),fun _ h=>absurd h (by simp),rfl⟩
theorem LP{w w2 W:MO}{U:Us}{c:Cf}{g B:Nat}(hbox:W.heap[g]?=MI (MP (JZ (J0 U) c ⟨[],qt c,[]⟩).toArray 57 (0,0)))(hg:w.heap.size<=g)(hA:∀X,ia B w2 X->aF X U (qt c))(hb:MQ w2.heap.size w2 W)(h2:w2.heap.size<=g) :
  Jz w.heap.size W g (J0 U) c ⟨[],qt c,[]⟩:=by
 refine⟨hbox,hg,rfl,⟨rfl,Nt ⟨rfl,rfl⟩⟩,⟨rfl,Nt ⟨rfl,rfl⟩⟩,by simp,by simp,by simp,fun X h1 h3=>?_,fun q hq=>absurd hq OD⟩;refine hA X ⟨Nm hb.size h1,fun b q1 q2=>?_⟩;rw[h3 b (M8 q2 hb.size),hb.block b q2];rintro(rfl|e|e)
 ·omega
 ·simp at e
 ·simp at e
def Lq(f:Nat->Int)(most:Nat)(w:MO)(r:Ending)(w':MO):Prop :=
 ∃g V c P,r=MN (Nv #[gP g,M3 Nw])/\JD w w' g V c P/\JP f c/\4<=P.steps.length/\P.steps.length<=most+4/\∀i,i<3->∃s,P.steps[i]?=MI s/\s.ev.kind=5
theorem L6(f:Nat->Int)(hf:∀i,i<16->(N6 ME (f i)).wf=Nw)(ds:List Dd)(hds:∀d∈ds,Kg d){pd:Option Oc}{cd:Nat}(w:MO)(hrow:bj Ka w (MG pd ds.length cd) ds)(hblk:aK w)(most:Nat)(hm:most<=100) :
  Ni MK 10 #[BD (f 0) (f 1) (f 2) (f 3) (f 4) (f 5) (f 6) (f 7) (f 8) (f 9) (f 10) (f 11) (f 12) (f 13) (f 14) (f 15),MG pd ds.length cd,MF ME (most:Int)] w (Lq f most w):=by
 obtain⟨c,hc,hcon⟩:=Lx f hf;obtain⟨L,hL⟩:∃L:List M7,L=[MF ME (f 0),MF ME (f 1),MF ME (f 2),MF ME (f 3),MF ME (f 4),MF ME (f 5),MF ME (f 6),MF ME (f 7),MF ME (f 8),MF ME (f 9),MF ME (f 10),MF ME (f 11),MF ME (f 12),MF ME (f 13),MF ME (f 14),MF ME (f 15)]:=⟨_,rfl⟩;have hLl:L.length=16:=by rw[hL];rfl
 obtain⟨K,hK⟩:∃K:List M7,K=JW c:=⟨_,rfl⟩;have HC:M6 (∀W:MO,Ni MK 22 #[Ny L.toArray] W fun r w'=>r=MN (Ny K.toArray)/\MQ W.heap.size W w'):=fun W=>by rw[hL,hK];exact hcon W
 have HB:M6 (∀W:MO,Ni MK 23 #[Ny K.toArray] W _):=fun W=>by rw[hK];exact FT c hc.ok W
 show Ni MK 10 #[Ny (List.toArray [MF ME (f 0),MF ME (f 1),MF ME (f 2),MF ME (f 3),MF ME (f 4),MF ME (f 5),MF ME (f 6),MF ME (f 7),MF ME (f 8),MF ME (f 9),MF ME (f 10),MF ME (f 11),MF ME (f 12),MF ME (f 13),MF ME (f 14),MF ME (f 15)]),MG pd ds.length cd,MF ME (most:Int)] w _;rw[<-hL];have HI:M6 (_/\_/\_/\_/\_):=⟨hLl,hc,hds,hrow,hm⟩;have HK:M6 _:=hK;obtain⟨W0,hW0⟩:∃W0,W0=w.alloc (MP L.toArray 24):=⟨_,rfl⟩;have hb0:MQ w.heap.size w W0:=by rw[hW0];exact ai w
 have H0:M6 (_/\_):=⟨hb0,hblk⟩;obtain⟨nd,hnd⟩:∃nd,nd=ds.length:=⟨_,rfl⟩;rw[<-hnd];have HND:M6 _:=hnd;clear hL hLl hcon hc hf hb0 hK hblk hds hrow hm hnd;go_enter Tryz.func10,Tryz.ntmps10
 go_wp2_with ((with_reducible refine O3 rfl 24 (O6 3) rfl w.heap.size 0 ?gx L _ ?gc Tryz.underlying24 ?gd ?gi ?_);(case gx=>rfl);(case gc=>exact J8 (M1 _ _));(case gd=>rfl);(case gi=>rw[HI.out.1];exact K0))
 rw[<-hW0];clear hW0;refine(HC.out _).mono ?_;rintro r w1 ⟨rfl,hb1⟩;have hZ1:(w1.alloc (MP L7.toArray 34)).heap[w1.heap.size]?=MI (MP L7.toArray 34 (0,0)):=M1 _ _;obtain⟨W1,hW1⟩:∃W1,W1=(w1.alloc (MP L7.toArray 34)).setCells w1.heap.size 0 K:=⟨_,rfl⟩;have hKl:K.length=16:=by rw[HK.out];rfl
 have hKs:K.toArray.size=16:=(show K.toArray.size=K.length from OQ).trans hKl;have hK1:W1.heap[w1.heap.size]?=MI (MP K.toArray 34 (0,0)):=by rw[hW1];exact uQ hZ1 (by rw[hKl];rfl)
 have hbW1:MQ w1.heap.size w1 W1:=by rw[hW1];exact tW (ai w1) (MV _) _ _ (by simp)
 have hth1:(w1.alloc (MP L7.toArray 34)).there w1.heap.size 0 K.toArray.size:=by rw[hKs];exact sF hZ1
 have hB1:MQ w.heap.size w W1:=(H0.out.1.trans (hb1.mono H0.out.1.size)).trans (hbW1.mono (Nm H0.out.1.size hb1.size));have H1:M6 (_/\_/\_/\_/\_/\_):=⟨hth1,hKs,hK1,hB1,hW1,(show w.heap.size<=w1.heap.size from Nm H0.out.1.size hb1.size)⟩;clear hZ1 hW1 hKl hKs hK1 hbW1 hth1 hB1 hb1
 go_wp2_with (first|((with_reducible refine OW rfl 34 (O6 8) (O6 17) rfl w1.heap.size 0 K.toArray ?sx ?sy ?st ?si ?s1 ?_);(case sx=>rfl);(case sy=>rfl);(case st=>exact H1.out.1);(case si=>rw[H1.out.2.1];exact Km);(case s1=>rw[HK.out];exact LM c);rw[NS,<-H1.out.2.2.2.2.1])|((with_reducible refine O3 rfl 34 (O6 8) rfl w1.heap.size 0 ?gx K _ ?gc O5 ?gd ?gi ?_);(case gx=>rfl);(case gc=>exact J8 H1.out.2.2.1);(case gd=>rfl);(case gi=>rw[show K.length=16 from H1.out.2.1];exact Km)))
 refine(HB.out W1).mono ?_;rintro r w2 ⟨U,rfl,hM,hb2⟩;obtain⟨M,hMe⟩:∃M,M=(ef U (qt c)).toList:=⟨_,rfl⟩;rw[show lH U (qt c)=Ny M.toArray by rw[hMe]];have hMl:M.length=26:=by rw[hMe];rfl
 have hMs:M.toArray.size=26:=(show M.toArray.size=M.length from OQ).trans hMl;have hMo:M.toArray.all (·.oneCell')=true:=by rw[hMe];exact rS _ _
 have hZ2:(w2.alloc (MP wz.toArray 54)).heap[w2.heap.size]?=MI (MP wz.toArray 54 (0,0)):=M1 _ _;obtain⟨W2,hW2⟩:∃W2,W2=(w2.alloc (MP wz.toArray 54)).setCells w2.heap.size 0 M:=⟨_,rfl⟩;have hM2:W2.heap[w2.heap.size]?=MI (MP M.toArray 54 (0,0)):=by rw[hW2];exact uQ hZ2 (by rw[hMl];rfl)
 have hbW2:MQ w2.heap.size w2 W2:=by rw[hW2];exact tW (ai w2) (MV _) _ _ (by simp)
 have hth2:(w2.alloc (MP wz.toArray 54)).there w2.heap.size 0 M.toArray.size:=by rw[hMs];exact sF hZ2
 have hK2:W2.heap[w1.heap.size]?=MI (MP K.toArray 34 (0,0)):=af (af H1.out.2.2.1 hb2) hbW2;have hB2:MQ w.heap.size w W2:=(H1.out.2.2.2.1.trans (hb2.mono H1.out.2.2.2.1.size)).trans (hbW2.mono (Nm H1.out.2.2.2.1.size hb2.size));obtain⟨g,hg⟩:∃g,g=W2.heap.size:=⟨_,rfl⟩;obtain⟨R,hR⟩:∃R,R=JZ (J0 U) c ⟨[],qt c,[]⟩:=⟨_,rfl⟩;have hbld:∀X,(QA 57 #[(0,Ny K.toArray),(2,Ny M.toArray)]).run MK X=.ok (Ny R.toArray) X:=fun X=>by rw[HK.out,hMe,hR];exact Lu U c X
 obtain⟨W3,hW3⟩:∃W3,W3=W2.alloc (MP R.toArray 57):=⟨_,rfl⟩;have hb3:MQ W2.heap.size W2 W3:=by rw[hW3];exact ai W2
 have hbox3:W3.heap[g]?=MI (MP (JZ (J0 U) c ⟨[],qt c,[]⟩).toArray 57 (0,0)):=by rw[hW3,hg,hR];exact M1 _ _
 have hB3:MQ w.heap.size w W3:=hB2.trans (hb3.mono hB2.size);have hgw:w2.heap.size<=g:=by rw[hg];exact hbW2.size
 have hgw0:w.heap.size<=g:=by rw[hg];exact hB2.size
 have hP:Jz w.heap.size W3 g (J0 U) c ⟨[],qt c,[]⟩:=LP hbox3 hgw0 hM (hbW2.trans (hb3.mono hbW2.size)) hgw;have H3:M6 (JD w W3 g (J0 U) c ⟨[],qt c,[]⟩):=⟨hP,Rn.Ml (LS HI.out.2.1.ok),hB3,H0.out.2.Gf (hB3.block 0 H0.out.2.lt),H0.out.2.lt⟩;have c17:W2.cell? ⟨w2.heap.size,17,MH⟩=MI (MG U.pt (qt c).tab.length U.ct):=by rw[MW W2 _ 17 _ _ (0,0) hM2,hMe];rfl
 have c0:W2.cell? ⟨w1.heap.size,0,MH⟩=MI (MF ME c.flows):=by rw[MW W2 _ 0 _ _ (0,0) hK2,HK.out];rfl
 have l2:w2.heap.size<W2.heap.size:=(Array.getElem?_eq_some_iff.1 hM2).1;have l1:w1.heap.size<W2.heap.size:=(Array.getElem?_eq_some_iff.1 hK2).1;have hfl:((qt c).tab.length:Int)=c.flows:=(Kw HI.out.2.1.ok).im.bs.tabLen;obtain⟨tl,htl⟩:∃tl,tl=(qt c).tab.length:=⟨_,rfl⟩;rw[<-htl]at c17 hfl;have hne:((tl:Int) != c.flows)=false:=by rw[hfl];simp
 have H2:M6 (_/\_/\_/\_/\_/\_/\_/\_):=⟨hth2,hMs,hMo,hW2,hM2,hK2,hbld,hW3⟩;have HG:M6 _:=hg;clear hMe hMl hMs hMo hZ2 hW2 hM2 hbW2 hth2 hK2 hB2 hR hbld hW3 hb3 hbox3 hB3 hgw hgw0 hP hM hb2 htl hfl hg
 go_wp2_with (first|((with_reducible refine OW rfl 54 (O6 9) (O6 21) rfl w2.heap.size 0 M.toArray ?sx ?sy ?st ?si ?s1 ?_);(case sx=>rfl);(case sy=>rfl);(case st=>exact H2.out.1);(case si=>rw[H2.out.2.1];exact iN);(case s1=>exact H2.out.2.2.1);rw[NS,<-H2.out.2.2.2.1])|((with_reducible refine O3 rfl 34 (O6 8) rfl w1.heap.size 0 ?gx K _ ?gc O5 ?gd ?gi ?_);(case gx=>rfl);(case gc=>exact J8 H2.out.2.2.2.2.2.1);(case gd=>rfl);(case gi=>rw[show K.length=16 from H1.out.2.1];exact Km))|((with_reducible refine O3 rfl 54 (O6 9) rfl w2.heap.size 0 ?hx M _ ?hc U1 ?hd ?hi ?_);(case hx=>rfl);(case hc=>exact J8 H2.out.2.2.2.2.1);(case hd=>rfl);(case hi=>rw[show M.length=26 from H2.out.2.1];exact iN))|((with_reducible refine xo rfl 57 #[(0,O6 23),(2,O6 24)] rfl (Ny R.toArray) ?br ?_);(case br=>simp only[PW,OA,P5];exact H2.out.2.2.2.2.2.2.1 _)))
 rw[<-H2.out.2.2.2.2.2.2.2,<-HG.out];clear c17 c0 hne H1 H2 HG HB HC l1 l2
 go_loopw [12,13] (fun i _ wr=>∃(b:Nat) (V:Pv) (P:Py),i=MF ME (b:Int)/\b<=3/\M6 (JD w wr g V c P/\P.steps.length=b/\∀j,j<b->∃s,P.steps[j]?=MI s/\s.ev.kind=5)) (fun i _ _=>3-(intOf i).toNat)
 case atStart=>exact⟨0,_,_,rfl,by omega,⟨H3.out,rfl,fun j hj=>by omega⟩⟩
 case round =>
  obtain⟨b,V,P,rfl,hb,HP⟩:=hrel
  by_cases hlt:b<3
  ·have hbI:(b:Int)<3:=by omega
   have hw1:IntKind.i64.wrap (1000+(b:Int))=1000+b:=jn (by omega) (by omega);have hw2:IntKind.i64.wrap (2+(b:Int))=2+b:=jn (by omega) (by omega);have HD:M6 _:=HP.out.1.Mf (by rw[HP.out.2.1];omega) ⟨5,0,0,0,Nb,1000+b,b,2+b⟩ (KP ⟨by omega,by omega⟩ ⟨by omega,by omega⟩ ⟨by omega,by omega⟩)
   go_wp2_with fail
   refine Nd HD.out ?_;rintro r w5 ⟨rfl,V5,h5⟩;have H5:M6 _:=h5;clear h5 HD
   go_wp2_with fail
   go_roundw
   case rel =>
    refine⟨b+1,V5,_,by simp,by omega,⟨H5.out,?_,fun j hj=>?_⟩⟩
    ·show(P.steps++[_]).length=b+1
     rw[Ns,OU,HP.out.2.1]
    ·show ∃s,(P.steps++[_])[j]?=MI s/\s.ev.kind=5
     by_cases hj2:j<b
     ·rw[OJ (by rw[HP.out.2.1];exact hj2)]
      exact HP.out.2.2 j hj2
     ·rw[Tw (by rw[HP.out.2.1];omega),show j-P.steps.length=0 by rw[HP.out.2.1];omega]
      exact⟨_,rfl,rfl⟩
   case measure=>simp[intOf];omega
  ·obtain rfl:b=3:=by omega
   have hbI:¬((3:Nat):Int)<3:=by omega
   have HD:M6 _:=HP.out.1.Mf (by rw[HP.out.2.1];omega) ⟨7,0,0,0,Nb,0,0,0⟩ KQ
   go_wp2_with fail
   refine Nd HD.out ?_;rintro r w5 ⟨rfl,V5,h5⟩;have HT:M6 (JD w w5 g V5 c (P.step ⟨7,0,0,0,Nb,0,0,0⟩)/\(P.step ⟨7,0,0,0,Nb,0,0,0⟩).steps.length=4/\∀j,j<3->∃s,(P.step ⟨7,0,0,0,Nb,0,0,0⟩).steps[j]?=MI s/\s.ev.kind=5):=by
    refine⟨h5,?_,fun j hj=>?_⟩
    ·show(P.steps++[_]).length=4
     rw[Ns,OU,HP.out.2.1]
    ·show ∃s,(P.steps++[_])[j]?=MI s/\s.ev.kind=5
     rw[OJ (by rw[HP.out.2.1];exact hj)];exact HP.out.2.2 j hj
   obtain⟨P4,hP4⟩:∃P4,P4=P.step ⟨7,0,0,0,Nb,0,0,0⟩:=⟨_,rfl⟩;rw[<-hP4]at HT;clear h5 HD HP hP4
   go_wp2_with fail
   go_loopw [14,15] (fun k i wr=>∃(j:Nat) (V:Pv) (P:Py),k=M3 Nw/\i=MF ME (j:Int)/\j<=nd/\j<=most/\M6 (JD w wr g V c P/\P.steps.length=4+j/\∀j,j<3->∃s,P.steps[j]?=MI s/\s.ev.kind=5)) (fun _ i _=>nd-(intOf i).toNat)
   case atStart=>exact⟨0,_,_,rfl,rfl,Nx _,Nx _,HT⟩
   case round =>
    obtain⟨j,V,P,rfl,rfl,hj,hjm,HQ⟩:=hrel
    by_cases hlt:j<nd
    ·have hjI:(j:Int)<(nd:Int):=by omega
     by_cases hlm:j<most
     ·have hmI:(j:Int)<(most:Int):=by omega
      have hjl:j<ds.length:=by rw[<-HND.out];exact hlt
      obtain⟨a,cap,hv,_,hmx,hp⟩:=bj.F6 KN (HI.out.2.2.2.1.below HQ.out.1.bel);injection hv with ha hn2 hcap;obtain⟨bo,oo,hao,hbl,hcell⟩:=hp j hjl;rw[<-ha]at hao;have d0:wr.cell? ⟨bo,oo+j*4,MH⟩=MI (MF ME ds[j].k):=hcell 0 (by omega);have d1:wr.cell? ⟨bo,oo+j*4+1,MH⟩=MI (MF ME ds[j].a):=hcell 1 (by omega);have d2:wr.cell? ⟨bo,oo+j*4+2,MH⟩=MI (MF ME ds[j].b):=hcell 2 (by omega);have d3:wr.cell? ⟨bo,oo+j*4+3,MH⟩=MI (MF ME ds[j].c):=hcell 3 (by omega);have hdo:=HI.out.2.2.1 _ (Nk hjl);obtain⟨x,hx⟩:∃x,x=ds[j]:=⟨_,rfl⟩;rw[<-hx]at d0 d1 d2 d3 hdo;have hjb:nd<=9223372036854775807:=by rw[HND.out];unfold NE at hmx;omega
      have hsl:P.steps.length<=1000:=by have:=HI.out.2.2.2.2;rw[HQ.out.2.1];omega
      have HE:M6 _:=HQ.out.1.MD hsl x hdo;have HL:M6 _:=hsl;clear ha hn2 hcap hcell hp hx hdo hjl hmx hsl hbl;subst hao
      go_wp2_with fail
      refine Nd HE.out ?_;rintro r w6 ⟨e,he,rfl,h6⟩;have HD:M6 _:=h6.Mf HL.out e he;clear h6 he HE d0 d1 d2 d3
      go_wp2_with fail
      refine Nd HD.out ?_;rintro r w7 ⟨rfl,V7,h7⟩;have H7:M6 _:=h7;clear h7 HD
      go_wp2_with fail
      go_roundw
      case rel =>
       refine⟨j+1,V7,_,rfl,by simp,by omega,by omega,⟨H7.out,?_,fun i hi=>?_⟩⟩
       ·show(P.steps++[_]).length=4+(j+1)
        rw[Ns,OU,HQ.out.2.1];omega
       ·show ∃s,(P.steps++[_])[i]?=MI s/\s.ev.kind=5
        rw[OJ (by rw[HQ.out.2.1];omega)];exact HQ.out.2.2 i hi
      case measure=>simp[intOf];omega
     ·have hmI:¬(j:Int)<(most:Int):=by omega
      go_wp2_with fail
      go_ret2
      exact⟨g,V,c,P,rfl,HQ.out.1,HI.out.2.1,by rw[HQ.out.2.1];omega,by rw[HQ.out.2.1];omega,HQ.out.2.2⟩
    ·have hjI:¬(j:Int)<(nd:Int):=by omega
     go_wp2_with fail
     go_ret2
     exact⟨g,V,c,P,rfl,HQ.out.1,HI.out.2.1,by rw[HQ.out.2.1];omega,by rw[HQ.out.2.1];omega,HQ.out.2.2⟩
end Go.Proofs.YtlnbhjdhcmgljaaGreatDoor.Q
