/-
  TopCounts: what its walk leans on besides the contracts of core. Conditions: as each theorem says.
-/
import Derived.Maps.RangeWalk
import Derived.ClosedOfChecked
import Derived.Test.YtidlemcdnhbceaaGreatDoorQ20
open Array renaming toList->RW
open Bool renaming and_eq_true->Po,false->Nb,false_ne_true->PE,not_eq_true'->SX,or_eq_false_iff->aCz,true->Nw
open Decidable renaming decide->Nn
open Go renaming Addr->Oc,Calls->Ni,Program->O8,TypeId->NU,Value->M7,World->MO,all_oneCell_toArray->OE,bodyPost_ret->Np,cell_of_row->MW,heap_alloc_new->M1,heap_setCell_same->NI,info_parts->OF,maxLen->NE,plainElem->aCB,wpList_load_mid->O3,wpList_store_mid->OW,wpQuiet_nil->Oy
open Go.Act renaming put->Nr
open Go.Calls renaming mono->Nd
open Go.ClosedOfChecked renaming allSpec_of->aCO,laidOutB_of->aCN
open Go.Ending renaming returned->MN
open Go.Fn renaming func->PD
open Go.Instr renaming makeSlice->aCx
open Go.IntKind renaming i64->ME
open Go.Lit renaming int->N6
open Go.Maps renaming has_del_other->aCD
open Go.Obj renaming cells->MP
open Go.Operand renaming tmp->O6
open Go.Program renaming keyLits->aCR
open Go.Proofs.Tryz renaming func34->aCG,func36->aCP,func49->ayZ,ntmps34->aCE,ntmps36->aCL,ntmps49->ayU,prog->MK,underlying29->aCy,underlying3->Ol,underlying34->O5,underlying61->Lv,underlying85->aCF,underlying93->aCH,underlying96->ay5
open Go.Result renaming andThen_ok->PG
open Go.RowKit renaming Below->MQ,Hid->M6,intOf->On
open Go.RowKit.Below renaming heap_setCell->MU,refl->MY
open Go.Sem renaming run_bind->Pn,run_pure->P3
open Go.Sort renaming alloc_eq_grow->PQ,grow->Oj
open Go.Value renaming agg->Ny,bool->M3,func->PB,int->MF,map->P0,pointer->Na,slice->MG,tuple->Nv
open Go.World renaming block_lt_of_cell?->MX,cell?->Nl,frozen?->Ng,setCell->Q4
open Int renaming eq_ofNat_of_zero_le->NL
open List renaming any_append->aCI,append_assoc->OC,append_nil->OG,cons_append->aCw,countP_append->Qi,countP_cons->aCC,countP_le_length->aCv,drop_eq_getElem_cons->OK,ext_getElem->PX,filter_append->OY,filter_cons_of_neg->aCA,flatten_append->PV,getElem?_eq_getElem->MR,getElem_cons_succ->MT,getElem_cons_zero->MS,getElem_mem->Nk,getElem_of_mem->NV,getElem_set->Pc,getElem_toArray->MZ,length_append->Ns,length_cons->Ox,length_filter_le->O1,length_map->N0,length_set->NA,length_take->NH,map_append->OI,map_cons->OA,mem_cons->OO,mem_cons_of_mem->NB,mem_cons_self->NM,mem_of_getElem?->Nu,mem_singleton->PY,not_mem_nil->OD,perm_append_comm->aCJ,perm_middle->QC,range->Pm,replicate->Nj,setIfInBounds_toArray->MJ,set_append_right->Pw,set_cons_succ->MM,set_cons_zero->ML,take_append_drop->Oo,take_length->NT,take_of_length_le->N1,take_succ_eq_append_getElem->M9
open List.Pairwise renaming filter->aCK
open List.Perm renaming filter->aCM,trans->aCQ
open Nat renaming le_refl->MV,le_trans->Nm,lt_irrefl->PC,lt_of_lt_of_le->M8,zero_add->Oa,zero_le->Nx
open Option renaming none->MH,some->MI
open Or renaming inl->Nt,inr->NF
namespace Go.Proofs.YtidlemcdnhbceaaGreatDoor.Q
set_option linter.unusedVariables false
set_option linter.unusedSimpArgs false
set_option maxHeartbeats 16000000
set_option maxRecDepth 100000
open Go.RowKit
attribute [local go_sem ↓] Go.wp_at_zero Go.wp_at_succ
variable {K:Act->Prop}{c:Cf}{f y:Fl}{l:List Ou}{v:M7}{w:MO}{g i:Nat}{V:Pv}{P:Py}{H:Type}
theorem aBi(w:MO):XB w (MG MH 0 0) 0 []:=⟨MH,0,rfl,MV _,by unfold NE;omega,Nt ⟨rfl,rfl⟩⟩
theorem aBf:(Tryz.prog.info? 3).map (fun i=>(i.zero,i.size,i.bytes))=MI (MI (MF ME 0),1,8):=by kernel_rfl
def aBc(a:List Int):List Value:=a.map fun x=>MF ME x
theorem aBe(a:List Int):(aBc a).length=a.length:=by simp[aBc]
def aAX(T:NU)(n:Nat)(w:MO)(g:Nat)(a:List Int):Prop:=w.heap[g]?=MI (MP (aBc a).toArray T (0,0))/\a.length=n
section
variable {T:NU}{n:Nat}{w w':MO}{g:Nat}{a b:List Int}
theorem aAX.lt(h:aAX T n w g a):g<w.heap.size:=(Array.getElem?_eq_some_iff.1 h.1).1
theorem aAX.Gf(h:aAX T n w g a)(hk:w'.heap[g]?=w.heap[g]?):aAX T n w' g a:=⟨hk.trans h.1,h.2⟩
theorem aAX.below(h:aAX T n w g a)(hb:MQ w.heap.size w w'):aAX T n w' g a:=h.Gf (hb.block g h.lt)
theorem aAX.F7(h:aAX T n w g a)(i:Nat)(hi:i<a.length):w.cell? ⟨g,i,MH⟩=MI (MF ME a[i]):=by
 rw[MW w g i _ T (0,0) h.1];simp[aBc,hi]
theorem aAX.Gu(h:aAX T n w g a)(i:Nat):w.frozen? ⟨g,i,MH⟩=false:=by simp[Ng,h.1]
theorem aAX.F4(h:aAX T n w g a)(i:Nat)(x:Int):aAX T n (w.setCell ⟨g,i,MH⟩ (MF ME x)) g (a.set i x):=by
 refine⟨?_,by rw[NA];exact h.2⟩;rw[NI w g i _ T _ h.1];simp[aBc,List.map_set]
end
def aA7(l:List Sl):List Int:=(Pm 12).map fun(b:Nat)=>((YL (b:Int) l).length:Int)
theorem aA9(l:List Sl):(aA7 l).length=12:=by simp[aA7]
theorem aA8(l:List Sl)(k:Nat)(h:k<12):(aA7 l)[k]?=MI ((YL (k:Int) l).length:Int):=by simp[aA7,h]
def aBa(l:List Sl):List Int×Int:=if Z6 l then(aA7 l,0)else([],6)
def aA0(m:List Int)(k:Nat):List Int:=m.take k++Nj (m.length-k) 0
theorem aA3(m:List Int)(k:Nat)(h:k<=m.length):(aA0 m k).length=m.length:=by
 simp[aA0];omega
theorem aA2(m:List Int)(k:Nat)(h:k<m.length):(aA0 m k)[k]'(by rw[aA3 m k (by omega)];exact h)=0:=by
 unfold aA0;rw[List.getElem_append_right (by simp;omega)];simp
theorem aA6(m:List Int)(k:Nat)(h:k<m.length):(aA0 m k).set k m[k]=aA0 m (k+1):=by
 unfold aA0;rw[Pw _ _ (by simp;omega)];have e:k-(m.take k).length=0:=by simp;omega
 have d:m.length-k=(m.length-(k+1))+1:=by omega
 rw[e,d,List.replicate_succ,ML,M9 h,OC];rfl
theorem aA5{m:List Int}{k:Nat}{x:Int}(h:m[k]?=MI x):(aA0 m k).set k x=aA0 m (k+1):=by
 obtain⟨d,rfl⟩:=List.getElem?_eq_some_iff.1 h;exact aA6 m k d
theorem aA1(m:List Int):aA0 m m.length=m:=by simp[aA0]
theorem aA4(m:List Int):aA0 m 0=Nj m.length 0:=by simp[aA0]
def aAZ(w:MO)(v:M7)(a:List Int):Prop:=XB w v a.length (aBc a)
theorem aAZ.below{w':MO}{l:List Int}(h:aAZ w v l)(hb:MQ w.heap.size w w'):aAZ w' v l:=XB.below h hb
theorem aBd(a:List Int)(i:Nat)(h:i<a.length):(aBc a)[i]?=MI (MF ME a[i]):=by
 unfold aBc;rw[List.getElem?_map,MR h];rfl
theorem aAZ.F6{l:List Int}(h:aAZ w v l):
  ∃a cap,v=MG a l.length cap/\l.length<=cap/\cap<=NE/\∀i (hi:i<l.length),∃b off,a=MI ⟨b,off,MH⟩/\b<w.heap.size/\w.cell? ⟨b,off+i,MH⟩=MI (MF ME l[i]):=by
 obtain⟨a,cap,d,j,e,k|⟨b,off,k,p,m⟩⟩:=h
 ·exact⟨a,cap,d,j,e,fun i hi=>absurd hi (by omega)⟩
 ·refine⟨a,cap,d,j,e,fun i hi=>⟨b,off,k,p,?_⟩⟩
  rw[m i (by rw[aBe];exact hi)];exact aBd l i hi
theorem aBg(w:MO):aAZ w (MG MH 0 0) []:=aBi w
theorem aAX.Jc{n:Nat}{a:List Int}{T:NU}(h:aAX T n w g a)(hn:n<=1000):aAZ w (MG (MI ⟨g,0,MH⟩) n n) a:=by
 refine⟨_,n,by rw[h.2],by rw[h.2];exact MV _,by unfold NE;omega,NF ⟨g,0,rfl,h.lt,fun i hi=>?_⟩⟩;rw[Oa,aBd a i (by rwa[aBe]at hi)];exact h.F7 i (by rwa[aBe]at hi)
theorem aBh(W:MO):(aCx 34 (MF ME 12) (MF ME 12)).run MK W=.ok (MG (MI ⟨W.heap.size,0,MH⟩) 12 12) (W.alloc (MP (aBc (Nj 12 0)).toArray 3)):=by
 obtain⟨p,m,j,d,k⟩:=OF aBf;have h:=run_makeSlice (P:=MK) W 34 3 p _ O5 m j ME ME 12 12 (by decide) (by decide) (by rw[d];decide) (by rw[k];decide) (by decide);have e:madeCells (MF ME 0).cells (Int.toNat 12*1)=(aBc (Nj 12 0)).toArray:=Array.toList_inj.1 (toList_madeCells_one (MF ME 0) 12);rw[h,d,e];rfl
def aAY(o:List Int×Int)(w:MO)(r:Ending)(w':MO):Prop :=
 ∃p c,r=MN (Nv #[MG p o.1.length c,MF ME o.2])/\aAZ w' (MG p o.1.length c) o.1/\MQ w.heap.size w w'
theorem aBb(v:M7)(l:List Sl)(w:MO)(hv:Yy w v l) :
  Ni MK 7 #[Ny #[v]] w (aAY (aBa l) w):=by
 obtain⟨p,c,rfl,hc,hm,_⟩:=hv.F6;unfold NE at hm;obtain⟨S,J⟩:∃S,S=w.alloc (MP #[MG p l.length c] 45):=⟨_,rfl⟩;have d6:MQ w.heap.size w S:=by rw[J];exact YF w
 have b5:S.heap[w.heap.size]?=MI (MP #[MG p l.length c] 45 (0,0)):=by rw[J];exact M1 _ _
 have u:M6 (_/\_/\_/\_):=⟨hv,d6,b5,J⟩;clear hv d6 b5 J;obtain⟨d3,a3⟩:∃z,z=(aBc (Nj 12 0)).toArray:=⟨_,rfl⟩;have e9:∀W,(aCx 34 (MF ME 12) (MF ME 12)).run MK W=.ok (MG (MI ⟨W.heap.size,0,MH⟩) 12 12) (W.alloc (MP d3 3)):=by rw[a3];exact aBh
 have HZ:M6 _:=a3;clear a3;go_enter Tryz.func7,Tryz.ntmps7
 go_wp2_with fail
 rw[<-u.out.2.2.2];refine(agO _ l _ (u.out.1.below u.out.2.1)).mono ?_;rintro r j ⟨rfl,I⟩;have M:=WO u.out.2.2.1 I;have c8:w.heap.size<j.heap.size:=(Array.getElem?_eq_some_iff.1 M).1;have O:=u.out.2.1.trans (I.mono u.out.2.1.size);have a5:=(u.out.1.below u.out.2.1).below I
 by_cases hok:Z6 l
 ·have F:aBa l=(aA7 l,0):=by unfold aBa;rw[Nh hok]
  rw[Nh hok];have m:M6 (_/\_/\_/\_/\_):=⟨F,hok,O,M,a5⟩;clear F hok O I M a5 u;go_wp2;obtain⟨U,N⟩:∃U,U=j.alloc (MP d3 3):=⟨_,rfl⟩;have d4:MQ j.heap.size j U:=by rw[N];exact YF j
  have a8:aAX 3 12 U j.heap.size (aA0 (aA7 l) 0):=by rw[N,HZ.out,aA4,aA9];exact⟨M1 _ _,by simp⟩
  rw[<-N];have HX:M6 (_/\_):=⟨a8,d4⟩;clear a8 d4 N e9
  go_loopw [15] (fun i wr=>∃(k:Nat),i=MF ME k/\k<=12/\aAX 3 12 wr j.heap.size (aA0 (aA7 l) k)/\MQ j.heap.size j wr) (fun i _=>12-(On i).toNat)
  case atStart=>exact⟨0,rfl,Nx _,HX.out.1,HX.out.2⟩
  case round =>
   obtain⟨k,rfl,hk,x,B⟩:=hrel
   by_cases hk':k<12
   ·have g3:(k:Int)<12:=by omega
    have d5:=(B.block w.heap.size c8).trans m.out.2.2.2.1;have t0:=Xu d5;have d7:w.heap.size<wr.heap.size:=M8 c8 B.size;have hg:=x.lt;have b8:=m.out.2.2.2.2.below B;have a4:=x.F7 k (by rw[aA3 _ k (by rw[aA9];omega),aA9];exact hk');rw[aA2 _ k (by rw[aA9];exact hk')]at a4;have b3:=x.Gu k;have b9:=auH (k:Int) l l.length;have hU:∀W,MQ wr.heap.size wr W->Ni MK 17 #[MF ME (k:Int)] W fun r w'=>∃t,r=MN (PB (PD 32) #[] #[Na (MI ⟨t,0,MH⟩)])/\M6 (w'.cell? ⟨t,0,MH⟩=MI (MF ME (k:Int))/\MQ wr.heap.size wr w')/\w'.cell? ⟨w.heap.size,0,MH⟩=MI (MG p l.length c)/\(∀n,n<W.heap.size->n<w'.heap.size)/\(∀b o,b<W.heap.size->w'.cell? ⟨b,o,MH⟩=W.cell? ⟨b,o,MH⟩)/\(∀b o,b<W.heap.size->w'.frozen? ⟨b,o,MH⟩=W.frozen? ⟨b,o,MH⟩):=fun W hW=>by
     refine(auZ (k:Int) W).mono ?_;rintro r w' ⟨rfl,rfl⟩;have L:MQ W.heap.size W (W.alloc (MP #[MF ME (k:Int)] 3)):=YF W;have a9:=hW.trans (L.mono hW.size);exact⟨_,rfl,⟨Xu (M1 W _),a9⟩,(a9.cell (p:=⟨w.heap.size,0,MH⟩) d7).trans t0,(fun n E=>M8 E L.size),(ank L).1,(ank L).2⟩
    obtain⟨n,E⟩:∃n,n=(YL (k:Int) l).length:=⟨_,rfl⟩;have g0:n<=40:=by rw[E];have:=m.out.2.1.1.2;exact Nm b9 this
    have hH:∀W wt t,M6 (wt.cell? ⟨t,0,MH⟩=MI (MF ME (k:Int))/\MQ wr.heap.size wr wt)->MQ wt.heap.size wt W->Ni MK 16 #[Ny #[MG p l.length c],PB (PD 32) #[] #[Na (MI ⟨t,0,MH⟩)]] W fun r w'=>∃q d,r=MN (MG q n d)/\M6 (MQ wr.heap.size wr w')/\(w'.cell? ⟨j.heap.size,k,MH⟩=MI (MF ME 0)/\w'.frozen? ⟨j.heap.size,k,MH⟩=Nb/\j.heap.size<w'.heap.size):=fun W wt t hy hw=>by
     have hh:=hy.out.2.trans (hw.mono hy.out.2.size);refine(auG _ l (k:Int) t W (b8.below hh) m.out.2.1.2 m.out.2.1.1.2 ((hw.cell (p:=⟨t,0,MH⟩) (MX wt _ hy.out.1)).trans hy.out.1)).mono ?_;rintro r w' ⟨q,d,rfl,h1,h2⟩;have Z:=hh.trans (h2.mono hh.size);exact⟨q,d,by rw[E],Z,(Z.cell (p:=⟨j.heap.size,k,MH⟩) hg).trans a4,(Z.frozen (p:=⟨j.heap.size,k,MH⟩) hg).trans b3,M8 hg Z.size⟩
    have a0:=aA8 l k hk';rw[<-E]at a0
    have D:M6 (_/\_/\_/\_/\_):=⟨hU,hH,x,B,a0⟩;clear hU hH x B d5 b8 b9 E a0
    go_wp2
    go_region_with (first|(go_at_call 17;refine(D.out.1 _ ?hbW).mono ?_;(case hbW=>first|exact(MY _ _).drew|exact Below.refl _ _);rintro r w4 ⟨t,rfl,d9,k4,d8,e0,f8⟩)|(go_at_call 16;refine(D.out.2.1 _ w4 t d9 ?hbW).mono ?_;(case hbW=>exact MY _ _);rintro r w5 ⟨q,d,rfl,d0,f9,e8,f7⟩))
    all_goals
     clear f9 e8 f7 k4 d8 e0 f8 a4 b3 t0;go_wp2
     go_roundw
     case rel =>
      have c9:=(D.out.2.2.1.below d0.out).F4 k (n:Int);rw[aA5 D.out.2.2.2.2]at c9;exact⟨k+1,by simp,hk',c9,(D.out.2.2.2.1.trans (d0.out.mono D.out.2.2.2.1.size)).setCell (MV _) _⟩
     case measure=>simp[On];omega
   ·obtain rfl:k=12:=by omega
    have H2:M6 (_/\_):=⟨x,B⟩;clear x B;go_wp2
    go_ret2
    have h:=H2.out.1.Jc (by omega);have e:aA0 (aA7 l) 12=aA7 l:=by
     have:=aA1 (aA7 l);rwa[aA9]at this
    rw[e]at h;have el:(aA7 l).length=12:=aA9 l;rw[m.out.1];refine⟨MI ⟨j.heap.size,0,MH⟩,12,?_,?_,m.out.2.2.1.trans (H2.out.2.mono m.out.2.2.1.size)⟩
    ·show _=MN (Nv #[MG _ (aA7 l).length 12,MF ME 0])
     rw[el];rfl
    ·show aAZ _ (MG _ (aA7 l).length 12) (aA7 l)
     rw[el];exact h
 ·have F:aBa l=([],6):=by unfold aBa;rw[Nf hok]
  rw[Nf hok];have m:M6 _:=F;have HB:M6 _:=O;clear O I M F hok a5;go_wp2
  go_ret2
  rw[m.out];exact⟨MH,0,rfl,aBg _,HB.out⟩
structure azZ(X Y:Gt):Prop where
 fls:Y.fls=X.fls
 tab:Y.tab=X.tab
 tok:Y.tok=X.tok
 cfg:Y.cfg=X.cfg
 out:Y.out=X.out
structure Mv(X Y:Gt)(F:List Fl)(T:List awY)(k:Int)(o:Ou):Prop where
 fls:Y.fls=F
 tab:Y.tab=T
 tok:Y.tok=k
 cfg:Y.cfg=X.cfg
 out:Y.out=X.out++[o]
abbrev az2(f:Fl)(k y:Int):Prop:=(k=7/\y=0)\/(k=6/\((y=1/\f.srv=Nw)\/y=2\/(f.srv=Nb/\(y=3\/y=4\/y=5))))
structure aCn(op:Prop)(R:Gt->Prop):Prop where
 same:∀X Y,azZ X Y->R X->R Y
 no:∀X Y o,(o.kind=2\/o.kind=8\/o.kind=9\/o.kind=10)->o.why=0->Mv X Y X.fls X.tab X.tok o->R X->R Y
 ends:∀X Y f k y,Bs X->f∈X.fls->az2 f k y->Mv X Y (X.fls.filter fun x=>x.slot != f.slot) (X.tab.set f.slot.toNat (f.gen+1,Nb,0,0)) X.tok ⟨k,f.slot,f.gen,f.be,0,0,y⟩->R X->R Y
 again:∀X Y i (hi:i<X.fls.length) b d,Bs X->X.fls[i].srv=Nb->X.fls[i].ret+1<=X.cfg.ret->X.cfg.bd<=X.tok->(0<=b/\b<12)->Mv X Y (X.fls.set i {X.fls[i]with be:=b,ret:=X.fls[i].ret+1,due:=d}) (X.tab.set X.fls[i].slot.toNat (X.fls[i].gen,Nw,X.fls[i].key,b)) (X.tok-X.cfg.bd) ⟨5,X.fls[i].slot,X.fls[i].gen,b,0,0,0⟩->R X->R Y
 serves:∀X Y i (hi:i<X.fls.length) d,Bs X->X.fls[i].srv=Nb->Mv X Y (X.fls.set i {X.fls[i]with srv:=Nw,due:=d}) X.tab X.tok ⟨4,X.fls[i].slot,X.fls[i].gen,X.fls[i].be,0,0,0⟩->R X->R Y
 forw:∀X Y i (hi:i<X.fls.length) d,Bs X->Mv X Y (X.fls.set i {X.fls[i]with due:=d}) X.tab X.tok ⟨3,X.fls[i].slot,X.fls[i].gen,X.fls[i].be,0,0,0⟩->R X->R Y
 opens:op->∀X Y (k:Nat) (hk:k<X.tab.length) key b d,Bs X->X.tab[k].2.1=Nb->(0<=X.tab[k].1/\X.tab[k].1<=1048575)->(0<=b/\b<12)->Mv X Y (Xi X.fls ⟨k,X.tab[k].1,key,b,Nb,0,d⟩ (Y3 X.fls k)) (X.tab.set k (X.tab[k].1,Nw,key,b)) (min (X.tok+X.cfg.bn) (X.cfg.bb*X.cfg.bd)) ⟨1,k,X.tab[k].1,b,0,0,0⟩->R X->R Y
section
variable {op:Prop}{R:Gt->Prop}{G:Gt}
theorem aCn.drain(h:aCn op R){X:Gt}(hR:R X)(b:Int):R (Yf X b):=by
 unfold Yf
 split
 ·exact h.no X _ _ (NF (NF (Nt rfl))) rfl ⟨rfl,rfl,rfl,rfl,rfl⟩ hR
 ·exact hR
theorem aCn.Hc(h:aCn op R){X:Gt}(hb:Bs X)(hf:f∈X.fls){k y:Int}(hy:az2 f k y)(hR:R X):R (Yg X f k y):=by
 unfold Yg;refine h.drain ?_ _;exact h.ends X _ f k y hb hf hy ⟨hb.GL hf,congrArg Prod.fst (hb.Hj hf),rfl,rfl,rfl⟩ hR
theorem aCn.I8(h:aCn op R){X:Gt}(hb:Bs X)(hi:i<X.fls.length)(hs:X.fls[i].srv=Nb){y:Int}(hy:y=3\/y=5)(hR:R X):R (YP X i y):=by
 have d:=Nk hi;have p:=(hb.F9 d).2.2.2;rcases aeI hb hi y with⟨z,q,r⟩|⟨c,q,k,m,t,j,_⟩
 ·rw[q]
  refine aCn.Hc h (X:=Yh X X.fls[i].be Nw) (hb.GA p Nw) d (NF ⟨rfl,NF (NF ⟨hs,by omega⟩)⟩) ?_;exact h.same X _ ⟨rfl,rfl,rfl,rfl,rfl⟩ hR
 ·obtain⟨T,e⟩:=ak0 (G:={Yh X X.fls[i].be Nw with tok:=X.tok-X.cfg.bd}) hi c
  rw[q,e];refine h.drain ?_ _;exact h.again X _ i hi c _ hb hs m k j ⟨rfl,congrArg Prod.fst (hb.Ho d j),rfl,rfl,rfl⟩ hR
theorem aCn.Mm(h:aCn op R)(hm:Wm G){e:Ev}(he:XZ e)(h7:e.kind=7->G.now+1<=1099511626776)(h1:e.kind=1->op)(hR:R G):R (Xb G e):=by
 have d:=hm.im.bs;have r:∀k,R (Yv G k e):=fun k=>h.no G _ _ (NF (Nt rfl)) rfl ⟨rfl,rfl,rfl,rfl,rfl⟩ hR
 unfold Xb
 split
 ·rename_i k1
  rcases afU d he.key with⟨q,_⟩|⟨q,_⟩|⟨k,x,_,_,u,_,B,z,_,q⟩ <;> rw[q]
  ·exact h.no G _ _ (Nt rfl) rfl ⟨rfl,rfl,rfl,rfl,rfl⟩ hR
  ·exact h.no G _ _ (Nt rfl) rfl ⟨rfl,rfl,rfl,rfl,rfl⟩ hR
  ·exact h.opens (h1 k1) G _ k x _ _ _ d B z u ⟨rfl,rfl,rfl,rfl,rfl⟩ hR
 ·split
  ·exact r 1
  ·split
   ·unfold abg
    split
    ·exact r 2
    ·split
     ·exact h.no (Yv G 2 e) _ _ (NF (NF (Nt rfl))) rfl ⟨rfl,rfl,rfl,rfl,rfl⟩ (r 2)
     ·exact h.drain (X:={Yv G 2 e with wts:=G.wts.set e.be.toNat 0}) (h.same (Yv G 2 e) _ ⟨rfl,rfl,rfl,rfl,rfl⟩ (r 2)) _
   ·split
    ·rename_i k7
     refine alk (R:=R) hm (h7 k7) ?_ (fun X f y hX hf p hR=>h.Hc hX.bs hf (NF ⟨rfl,by rcases p with p|p;exact Nt p;exact NF (Nt p)⟩) hR) (fun X i hX j m hR=>h.I8 hX.bs j m (NF rfl) hR);obtain⟨_,_,F,J,E,I,D,_⟩:=aeS (d.next (h7 k7));exact h.same G _ ⟨F,I,D,J,E⟩ hR
    ·rcases akr d e with⟨u,q⟩|⟨i,j,_,_,_,⟨_,q⟩|⟨_,q⟩|⟨_,_,⟨_,q⟩|⟨m,_,q⟩|⟨m,_,q⟩⟩⟩
     ·rw[q];exact h.no G _ _ (NF (NF (NF rfl))) rfl ⟨rfl,rfl,rfl,rfl,rfl⟩ hR
     ·rw[q];exact h.Hc d (Nk j) (Nt ⟨rfl,rfl⟩) hR
     ·obtain⟨T,t⟩:=aks j
      rw[q,t];refine h.forw G _ i j (if G.fls[i].srv then G.now+G.cfg.idle else G.fls[i].due) d ⟨?_,rfl,rfl,rfl,rfl⟩ hR;show G.fls.set i _=G.fls.set i _
      congr 1
      split <;> rfl
     ·rw[q];exact h.no G _ _ (NF (NF (NF rfl))) rfl ⟨rfl,rfl,rfl,rfl,rfl⟩ hR
     ·obtain⟨T,t⟩:=alb j
      rw[q,t];exact h.serves G _ i j _ d m ⟨rfl,rfl,rfl,rfl,rfl⟩ hR
     ·rw[q];exact h.I8 d j m (Nt rfl) hR
theorem Mv.aCo{X Y:Gt}{F:List Fl}{T:List awY}{k:Int}{o:Ou}(h:Mv X Y F T k o)(L:List Ou):Mv {X with out:=L++X.out} {Y with out:=L++Y.out} F T k o :=
 ⟨h.fls,h.tab,h.tok,h.cfg,by show L++Y.out=L++X.out++[o];rw[h.out,OC]⟩
theorem aCn.aCo(h:aCn op R)(L:List Ou):aCn op fun X=>R {X with out:=L++X.out}where
 same:=fun X Y hs hR=>h.same {X with out:=L++X.out} _ ⟨hs.fls,hs.tab,hs.tok,hs.cfg,by show L++Y.out=L++X.out;rw[hs.out]⟩ hR
 no:=fun X Y o ho hy hs hR=>h.no {X with out:=L++X.out} _ o ho hy (hs.aCo L) hR
 ends:=fun X Y f k y hb hf hy hs hR=>h.ends {X with out:=L++X.out} _ f k y (hb.Jh _) hf hy (hs.aCo L) hR
 again:=fun X Y i hi b d hb h1 h2 h3 h4 hs hR=>h.again {X with out:=L++X.out} _ i hi b d (hb.Jh _) h1 h2 h3 h4 (hs.aCo L) hR
 serves:=fun X Y i hi d hb h1 hs hR=>h.serves {X with out:=L++X.out} _ i hi d (hb.Jh _) h1 (hs.aCo L) hR
 forw:=fun X Y i hi d hb hs hR=>h.forw {X with out:=L++X.out} _ i hi d (hb.Jh _) (hs.aCo L) hR
 opens:=fun ho X Y k hk key b d hb h1 h2 h3 hs hR=>h.opens ho {X with out:=L++X.out} _ k hk key b d (hb.Jh _) h1 h2 h3 (hs.aCo L) hR
theorem Rn.flows{A:Gt}(h:Rn A c P)(hF:aCn True R)(h0:R A)(hA:A.out=[]):R {P.last with out:=(P.steps.map (·.out)).flatten}:=by
 refine h.Mw (J:=fun P=>R {P.last with out:=(P.steps.map (·.out)).flatten}) ?_ fun Q e hQ he hl hJ=>?_
 ·exact hF.same A _ ⟨rfl,rfl,rfl,rfl,hA.symm⟩ h0
 ·have j:=hQ.runs.now
  have d:=(hF.aCo ((Q.steps.map (·.out)).flatten)).Mm (G:=Q.last) hQ.runs.wm (aeH he) (fun _=>by omega) (fun _=>trivial) (by rw[hQ.runs.out,OG];exact hJ);refine hF.same {Xb Q.last e with out:=(Q.steps.map (·.out)).flatten++(Xb Q.last e).out} _ ⟨rfl,rfl,rfl,rfl,?_⟩ d;show((Q.steps++[(⟨e,Q.last,(Xb Q.last e).Ma,(Xb Q.last e).out⟩:Sp)]).map fun s=>s.out).flatten=(Q.steps.map fun s=>s.out).flatten++(Xb Q.last e).out;simp
end
def az9(o:Ou):Bool:=Nn (o.kind<1) || decide (10<o.kind) || decide (o.why<0) || decide (5<o.why)
def az3(l:List Ou):Bool:=l.any az9
theorem aAa{o:Ou}(h:az9 o=Nb):(1<=o.kind/\o.kind<=10)/\0<=o.why/\o.why<=5:=by
 unfold az9 at h;simp only[aCz,decide_eq_false_iff_not]at h;omega
theorem az6(h:az3 l=Nb){o:Ou}(ho:o∈l):az9 o=false:=by
 have:=List.any_eq_false.1 h o ho
 simpa using this
def aAk(o:Ou)(j:Nat):Bool:=if j<11 then o.kind == (j:Int)else o.kind == 6 && o.why == ((j-11:Nat):Int)
def aAe(l:List Ou)(j:Nat):Nat:=l.countP fun o=>aAk o j
def aAr(l:List Ou):List Int:=(Pm 17).map fun j=>(aAe l j:Int)
theorem aAt(l:List Ou):(aAr l).length=17:=by simp[aAr]
theorem aAu:aAr []=Nj 17 0:=by simp[aAr,aAe];rfl
theorem aAf(l:List Ou)(j:Nat):aAe l j<=l.length:=aCv
theorem aAs(l:List Ou)(j:Nat)(hj:j<17):(aAr l)[j]'(by rw[aAt];exact hj)=(aAe l j:Int):=by simp[aAr]
theorem aAg(l:List Ou)(o:Ou)(j:Nat):aAe (l++[o]) j=aAe l j+(if aAk o j then 1 else 0):=by
 simp[aAe,Qi,aCC]
theorem aAv(l:List Ou)(o:Ou)(k:Nat)(hk:o.kind=(k:Int))(h11:k<11)(h6:¬o.kind=6):aAr (l++[o])=(aAr l).set k ((aAe l k:Int)+1):=by
 apply PX
 ·simp[aAt]
 ·intro j d m
  rw[aAt]at d;rw[aAs _ _ d,Pc,aAg]
  by_cases e:k=j
  ·subst e
   simp[aAk,h11,hk]
  ·rw[Nf e,aAs _ _ d]
   have:aAk o j=false:=by
    unfold aAk
    split
    ·rw[hk]
     simp;omega
    ·simp[h6]
   simp[this]
theorem aAw(l:List Ou)(o:Ou)(y:Nat)(hk:o.kind=6)(hy:o.why=(y:Int))(h6:y<6):aAr (l++[o])=((aAr l).set 6 ((aAe l 6:Int)+1)).set (11+y) ((aAe l (11+y):Int)+1):=by
 apply PX
 ·simp[aAt]
 ·intro j d k
  rw[aAt]at d;rw[aAs _ _ d,Pc,Pc,aAg]
  by_cases e:11+y=j
  ·subst e
   simp[aAk,hk,hy]
  ·rw[Nf e]
   by_cases e6:6=j
   ·subst e6
    simp[aAk,hk]
   ·rw[Nf e6,aAs _ _ d]
    have:aAk o j=false:=by
     unfold aAk
     split
     ·rw[hk]
      simp;omega
     ·rw[hk,hy]
      simp;omega
    simp[this]
def aAI(l:List Ou):List Int×Int:=if az3 l then(Nj 17 0,5)else(aAr l,0)
theorem aAJ(l:List Ou):(aAI l).1.length=17:=by
 unfold aAI
 split
 ·simp
 ·exact aAt l
def aAF(l:List Ou):Int:=(aAe l 1:Int)-(aAe l 6:Int)-(aAe l 7:Int)
def aAH(l:List Ou):Int×Int:=if az3 l then(0,5)else if aAF l<0 then(0,6)else(aAF l,0)
section
variable {X:Gt}
theorem aAE(h:Bs X)(hf:f∈X.fls):(X.fls.filter fun x=>x.slot != f.slot).length+1=X.fls.length:=by
 have d:=h.Ge;obtain⟨l,m,e⟩:=List.append_of_mem hf;rw[e]at d⊢;obtain⟨_,p,j⟩:=List.pairwise_append.1 d;obtain⟨k,_⟩:=List.pairwise_cons.1 p;rw[OY,aCA (by simp),List.filter_eq_self.2 (fun x hx=>?_),List.filter_eq_self.2 (fun x hx=>?_)]
 ·simp;omega
 ·have:=k x hx;simp;omega
 ·have:=j x hx f (NM ..);simp;omega
theorem aAG(l:List Ou)(o:Ou):aAF (l++[o])=aAF l+(if o.kind=1 then 1 else 0)-(if o.kind=6\/o.kind=7 then 1 else 0):=by
 unfold aAF;rw[aAg,aAg,aAg];have e:aAk o 1=Nn (o.kind=1):=by unfold aAk;rw[Nh (by decide)];rfl
 have j:aAk o 6=Nn (o.kind=6):=by unfold aAk;rw[Nh (by decide)];rfl
 have d:aAk o 7=Nn (o.kind=7):=by unfold aAk;rw[Nh (by decide)];rfl
 rw[e,j,d]
 by_cases h1:o.kind=1
 ·simp[h1];omega
 ·by_cases h6:o.kind=6
  ·simp[h6];omega
  ·by_cases h7:o.kind=7
   ·simp[h7];omega
   ·simp[h1,h6,h7]
theorem aAj:aCn True fun X=>az3 X.out=false:=by
 have e:∀(X Y:Gt) (o:Ou),az3 X.out=Nb->az9 o=Nb->Y.out=X.out++[o]->az3 Y.out=false:=fun X Y o h1 h2 h3=>by
  unfold az3 at h1⊢;rw[h3,aCI,h1];simp[h2]
 refine⟨fun X Y hs hR=>by rw[hs.out];exact hR,fun X Y o ho hy hs hR=>e X Y _ hR ?_ hs.out,fun X Y f k y hb hf hy hs hR=>e X Y _ hR ?_ hs.out,fun X Y i hi b d hb h1 h2 h3 h4 hs hR=>e X Y _ hR rfl hs.out,fun X Y i hi d hb h1 hs hR=>e X Y _ hR rfl hs.out,fun X Y i hi d hb hs hR=>e X Y _ hR rfl hs.out,fun _ X Y k hk ky b d hb h1 h2 h3 hs hR=>e X Y _ hR rfl hs.out⟩
 ·unfold az9
  simp only[aCz,decide_eq_false_iff_not];omega
 ·unfold az9
  simp only[aCz,decide_eq_false_iff_not];omega
theorem aAD(n:Int):aCn True fun X=>(X.fls.length:Int)=n+aAF X.out:=by
 refine⟨fun X Y hs hR=>by rw[hs.out,hs.fls];exact hR,fun X Y o ho hy hs hR=>?_,fun X Y f k y hb hf hy hs hR=>?_,fun X Y i hi b d hb h1 h2 h3 h4 hs hR=>?_,fun X Y i hi d hb h1 hs hR=>?_,fun X Y i hi d hb hs hR=>?_,fun _ X Y k hk ky b d hb h1 h2 h3 hs hR=>?_⟩ <;> rw[hs.out,hs.fls,aAG]
 ·rw[Nf (by omega),Nf (by omega)];omega
 ·have:=aAE hb hf
  show _=n+(aAF X.out+(if k=1 then 1 else 0)-if k=6\/k=7 then 1 else 0);rw[Nf (by omega),Nh (by omega)];omega
 ·rw[NA];simpa using hR
 ·rw[NA];simpa using hR
 ·rw[NA];simpa using hR
 ·show _=n+(aAF X.out+1-0)
  have:(Xi X.fls (⟨k,X.tab[k].1,ky,b,Nb,0,d⟩:Fl) (Y3 X.fls k)).length=X.fls.length+1:=ad1 _ _ (ad4 _ _);rw[this];omega
end
section
variable {A:Gt}{c:Cf}{P:Py}{s:Sp}
theorem Rn.good(h:Rn A c P)(hA:A.out=[]):az3 (P.steps.map (·.out)).flatten=false:=h.flows aAj (by rw[hA];rfl) hA
theorem Rn.aCp(h:Rn A c P)(hA:A.out=[])(hf:A.fls=[]):aAF (P.steps.map (·.out)).flatten=P.last.fls.length:=by
 have:=h.flows (aAD 0) (by rw[hA,hf];rfl) hA;have e:(P.last.fls.length:Int)=0+aAF (P.steps.map (·.out)).flatten:=this;omega
end
theorem aAQ{α:Type}(k:α->Int):∀l m:List α,l.Pairwise (fun a b=>k a<k b)->m.Pairwise (fun a b=>k a<k b)->(∀x,x∈l↔x∈m)->l=m
 | [],[],_,_,_=>rfl
 | [],y::m,_,_,h=>by have:=(h y).2 (NM ..);cases this
 |x::l,[],_,_,h=>by have:=(h x).1 (NM ..);cases this
 |x::l,y::m,hl,hm,h=>by
  obtain⟨d,q⟩:=List.pairwise_cons.1 hl;obtain⟨j,p⟩:=List.pairwise_cons.1 hm;have e:x=y:=by
   rcases List.mem_cons.1 ((h x).1 (NM ..))with e|e
   ·exact e
   ·rcases List.mem_cons.1 ((h y).2 (NM ..))with e2|e2
    ·exact e2.symm
    ·have:=j x e;have:=d y e2;omega
  subst e;rw[aAQ k l m q p fun z=>⟨fun hz=>?_,fun hz=>?_⟩]
  ·rcases List.mem_cons.1 ((h z).1 (NB _ hz))with e|e
   ·subst e;have:=d _ hz;omega
   ·exact e
  ·rcases List.mem_cons.1 ((h z).2 (NB _ hz))with e|e
   ·subst e;have:=j _ hz;omega
   ·exact e
abbrev azY(o:Ou):Prop:=∀u∈ [o.kind,o.slot,o.gen,o.be,o.req,o.code,o.why],(N6 ME u).wf=Nw
def az7(o:Ou):Bool:=Nn (o.be<0) || decide (12<=o.be)
def az4(l:List Ou):Bool:=l.any az7
theorem az8{o:Ou}(h:az7 o=Nb):0<=o.be/\o.be<12:=by
 unfold az7 at h;simp only[aCz,decide_eq_false_iff_not]at h;omega
theorem az5(h:az4 l=Nb){o:Ou}(ho:o∈l):az7 o=false:=by
 have:=List.any_eq_false.1 h o ho
 simpa using this
def aAn(o:Ou):Bool:=Nn (o.kind=1) || decide (o.kind=5)
def aAm(o:Ou):Bool:=Nn (o.kind=6) || decide (o.kind=7)
def aAW(s g:Int)(p:Ou):Bool:=(Nn (p.slot=s) && Nn (p.gen=g)) && (aAn p || aAm p)
def aAi(o p:Ou):Bool:=Nn (p.slot=o.slot) && Nn (p.gen=o.gen)
def aAx:List Ou->List Ou
 | []=>[]
 |o::l=>if aAn o && !(l.any (aAW o.slot o.gen))then o::aAx l else aAx l
theorem aAz:∀ {l:List Ou} {o:Ou},o∈aAx l->o∈l/\aAn o=Nw
 |p::l,o,h=>by
  unfold aAx at h
  split at h
  ·rename_i hu
   rcases List.mem_cons.1 h with rfl|h
   ·simp only[Po]at hu
    exact⟨by simp,hu.1⟩
   ·exact⟨NB _ (aAz h).1,(aAz h).2⟩
  ·exact⟨NB _ (aAz h).1,(aAz h).2⟩
theorem aAB(o:Ou)(hu:aAn o=Nb)(hd:aAm o=Nb):∀l:List Ou,aAx (l++[o])=aAx l
 | []=>by simp[aAx,hu]
 |p::l=>by
  have d:aAW p.slot p.gen o=false:=by simp[aAW,hu,hd]
  simp[aAx,aAB o hu hd l,d]
theorem aAC(o:Ou)(hu:aAn o=Nw):∀l:List Ou,aAx (l++[o])=(aAx l).filter (fun p=>!aAi o p)++[o]
 | []=>by simp[aAx,hu]
 |p::l=>by
  have d:aAW p.slot p.gen o=aAi o p:=by simp[aAW,aAi,hu,eq_comm]
  simp only[aCw,aAx,aAC o hu l,aCI,List.any_cons,List.any_nil,Bool.or_false,d];cases h1:aAn p <;> cases h2:l.any (aAW p.slot p.gen) <;> cases h3:aAi o p <;> simp[h3]
theorem aAA(o:Ou)(hu:aAn o=Nb)(hd:aAm o=Nw):∀l:List Ou,aAx (l++[o])=(aAx l).filter (fun p=>!aAi o p)
 | []=>by simp[aAx,hu]
 |p::l=>by
  have d:aAW p.slot p.gen o=aAi o p:=by simp[aAW,aAi,hd,eq_comm]
  simp only[aCw,aAx,aAA o hu hd l,aCI,List.any_cons,List.any_nil,Bool.or_false,d];cases h1:aAn p <;> cases h2:l.any (aAW p.slot p.gen) <;> cases h3:aAi o p <;> simp[h3]
theorem aAy:∀l:List Ou,(aAx l).Pairwise fun p q=>¬(p.slot=q.slot/\p.gen=q.gen)
 | []=>by simp[aAx]
 |p::l=>by
  unfold aAx
  split
  ·rename_i h
   simp only[Po,SX,List.any_eq_false]at h;refine List.pairwise_cons.2 ⟨fun q hq e=>?_,aAy l⟩;have:=h.2 q (aAz hq).1;simp[aAW,e.1,e.2,(aAz hq).2]at this
  ·exact aAy l
def aAb(l:List Ou):List Int:=(Pm 12).map fun b:Nat=>(((aAx l).countP (fun o=>o.be == (b:Int)):Nat):Int)
def aAd(l:List Ou):List Int×Int:=if az3 l then([],5)else if az4 l then([],2)else(aAb l,0)
theorem aAc(l:List Ou):(aAb l).length=12:=by simp[aAb]
def aAN(o:Ou):Bool:=Nn (o.kind=1) || decide (o.kind=5) || decide (o.kind=6) || decide (o.kind=7)
def aAO(l:List Ou):List Ou:=l.filter aAN
abbrev aAq(o:Ou):Int×Int×Int:=(o.slot,o.gen,o.be)
abbrev aAo(f:Fl):Int×Int×Int:=(f.slot,f.gen,f.be)
abbrev aAK(s g:Int)(x:Int×Int×Int):Bool:=!(Nn (x.1=s) && Nn (x.2.1=g))
theorem aAP(l:List Ou)(o:Ou):aAO (l++[o])=aAO l++if aAN o then [o]else []:=by
 simp only[aAO,OY,List.filter_cons,List.filter_nil]
section
variable {X Y:Gt}
def az1(X:Gt):Prop:=((aAx (aAO X.out)).map aAq).Perm (X.fls.map aAo)
theorem aAM{o:Ou}:((aAx l).filter fun p=>!aAi o p).map aAq=((aAx l).map aAq).filter (aAK o.slot o.gen):=by
 rw[List.filter_map];rfl
theorem aAL(hb:Bs X)(hf:f∈X.fls):(X.fls.filter fun x=>x.slot != f.slot).map aAo=(X.fls.map aAo).filter (aAK f.slot f.gen):=by
 rw[List.filter_map]
 congr 1
 refine List.filter_congr fun x hx=>?_
 by_cases h:x.slot=f.slot
 ·rw[hb.Ic hx hf h]
  simp[aAK]
 ·simp[aAK,h]
theorem az1.same(h:az1 X)(ho:Y.out=X.out)(hf:Y.fls.map aAo=X.fls.map aAo):az1 Y:=by
 unfold az1;rw[ho,hf];exact h
theorem az1.no(h:az1 X){o:Ou}(ho:Y.out=X.out++[o])(hk:aAN o=Nb)(hf:Y.fls.map aAo=X.fls.map aAo):az1 Y:=by
 unfold az1;rw[ho,hf,aAP,hk,Nf PE,OG];exact h
theorem az1.ends(h:az1 X)(hb:Bs X)(hf:f∈X.fls){k y:Int}(hk:k=6\/k=7)(ho:Y.out=X.out++[⟨k,f.slot,f.gen,f.be,0,0,y⟩])(hF:Y.fls=X.fls.filter fun x=>x.slot != f.slot):az1 Y:=by
 unfold az1;have d:aAN ⟨k,f.slot,f.gen,f.be,0,0,y⟩=true:=by rcases hk with rfl|rfl <;> rfl
 rw[ho,hF,aAP,Nh d,aAA _ (by rcases hk with rfl|rfl <;> rfl) (by rcases hk with rfl|rfl <;> rfl),aAM,aAL hb hf];exact aCM _ h
theorem aAR{l:List Fl}(hr:l.Pairwise (fun a b=>a.slot<b.slot))(hi:i<l.length)(y:Fl):(l.set i y).Perm (y::l.filter fun x=>x.slot != l[i].slot):=by
 obtain⟨s,d⟩:∃s,s=l[i].slot:=⟨_,rfl⟩;rw[<-d];have e:l=l.take i++l[i]::l.drop (i+1):=by rw[<-OK hi,Oo]
 have k:l.set i y=l.take i++y::l.drop (i+1):=List.set_eq_take_append_cons_drop.trans (Nh hi);rw[k];have r:∀x∈l.take i,x.slot≠s:=fun x hx=>by
  obtain⟨j,q,rfl⟩:=List.mem_take_iff_getElem.1 hx;have:=List.pairwise_iff_getElem.1 hr j i (by omega) hi (by omega);omega
 have p:∀x∈l.drop (i+1),x.slot≠s:=fun x hx=>by
  obtain⟨j,q,rfl⟩:=List.mem_drop_iff_getElem.1 hx;have:=List.pairwise_iff_getElem.1 hr i (i+1+j) hi (by omega) (by omega);omega
 have m:(l.filter fun x=>x.slot != s)=l.take i++l.drop (i+1):=by
  rw[show(l.filter fun x=>x.slot != s)=((l.take i++l[i]::l.drop (i+1)).filter fun x=>x.slot != s)by rw[<-e]];rw[OY,aCA (by simp[d]),List.filter_eq_self.2 (fun x hx=>by simpa using r x hx),List.filter_eq_self.2 (fun x hx=>by simpa using p x hx)]
 rw[m];exact QC
theorem az1.again(h:az1 X)(hb:Bs X)(hi:i<X.fls.length){b:Int}(hy:aAo y=(X.fls[i].slot,X.fls[i].gen,b))(ho:Y.out=X.out++[⟨5,X.fls[i].slot,X.fls[i].gen,b,0,0,0⟩])(hF:Y.fls=X.fls.set i y):az1 Y:=by
 unfold az1;rw[ho,hF,aAP,Nh (by rfl),aAC _ rfl,OI,aAM];refine aCQ ?_ ((aAR hb.Ge hi y).map aAo).symm;rw[OA (f:=aAo),aAL hb (Nk hi),hy];exact(aCJ).trans ((aCM _ h).cons _)
theorem az1.opens(h:az1 X)(hb:Bs X){k:Nat}(hk:k<X.tab.length)(hu:X.tab[k].2.1=Nb){b:Int}{g:Int}(hy:aAo y=((k:Int),g,b))(ho:Y.out=X.out++[⟨1,k,g,b,0,0,0⟩])(hF:Y.fls=Xi X.fls y i):az1 Y:=by
 unfold az1;rw[ho,hF,aAP,Nh (by rfl),aAC _ rfl,OI,aAM];have m:∀f∈X.fls,f.slot≠(k:Int):=fun f d e=>by
  obtain⟨j,t,u,p⟩:=hb.slot d;have:j=k:=by omega
  subst this;rw[p]at hu;cases hu
 have r:((aAx (aAO X.out)).map aAq).filter (aAK (k:Int) g)=(aAx (aAO X.out)).map aAq:=by
  refine List.filter_eq_self.2 fun x hx=>?_
  obtain⟨f,d,rfl⟩:=List.mem_map.1 (h.mem_iff.1 hx);have:=m f d;simp[aAK,this]
 have q:(Xi X.fls y i).Perm (y::X.fls):=by
  unfold Xi;refine List.perm_middle.trans ?_;rw[Oo]
 refine aCQ ?_ (q.map aAo).symm;rw[OA (f:=aAo),hy,show((⟨1,k,g,b,0,0,0⟩:Ou).slot)=(k:Int)from rfl,show((⟨1,k,g,b,0,0,0⟩:Ou).gen)=g from rfl,r];exact(aCJ).trans (h.cons _)
theorem aAp(hi:i<X.fls.length)(hy:aAo y=aAo X.fls[i]):(X.fls.set i y).map aAo=X.fls.map aAo:=ahw aAo hi hy
theorem aAV:aCn True az1:=by
 refine⟨fun X Y hs hR=>hR.same hs.out (by rw[hs.fls]),fun X Y o ho hy hs hR=>hR.no hs.out ?_ (by rw[hs.fls]),fun X Y f k y hb hf hy hs hR=>hR.ends hb hf (by omega) hs.out hs.fls,fun X Y i hi b d hb h1 h2 h3 h4 hs hR=>hR.again (b:=b) hb hi rfl hs.out hs.fls,fun X Y i hi d hb h1 hs hR=>hR.no hs.out rfl (by rw[hs.fls];exact aAp hi rfl),fun X Y i hi d hb hs hR=>hR.no hs.out rfl (by rw[hs.fls];exact aAp hi rfl),fun _ X Y k hk ky b d hb h1 h2 h3 hs hR=>hR.opens hb hk h1 rfl hs.out hs.fls⟩;unfold aAN;simp only[aCz,decide_eq_false_iff_not];omega
def az0(o:Ou):Prop:=(1<=o.kind/\o.kind<=10)/\(0<=o.slot/\o.slot<40)/\(0<=o.gen/\o.gen<=1048575)/\(0<=o.be/\o.be<12)/\o.req=0/\o.code=0/\(0<=o.why/\o.why<=5)
theorem aAS:aCn True fun X=>∀o∈aAO X.out,az0 o:=by
 have j:∀(X Y:Gt) (o:Ou),(∀o∈aAO X.out,az0 o)->Y.out=X.out++[o]->(aAN o=Nw->az0 o)->∀o∈aAO Y.out,az0 o:=fun X Y o h1 h2 h3 x e=>by
  rw[h2,aAP]at e;rcases List.mem_append.1 e with e|e
  ·exact h1 x e
  ·split at e
   ·rename_i h
    rw[List.mem_singleton.1 e];exact h3 h
   ·cases e
 have m:∀(X:Gt) (f:Fl) (k b y:Int),Bs X->f∈X.fls->(1<=k/\k<=10)->(0<=b/\b<12)->(0<=y/\y<=5)->az0 ⟨k,f.slot,f.gen,b,0,0,y⟩:=fun X f k b y hb hf hk hbb hy=>by
  obtain⟨q,p,_,_⟩:=hb.F9 hf;exact⟨hk,q,p,hbb,rfl,rfl,hy⟩
 refine⟨fun X Y hs hR=>by rw[hs.out];exact hR,fun X Y o ho hy hs hR=>j X Y _ hR hs.out fun h=>?_,fun X Y f k y hb hf hy hs hR=>j X Y _ hR hs.out fun _=>m X f k f.be y hb hf (by omega) (hb.F9 hf).2.2.2 (by omega),fun X Y i hi b d hb h1 h2 h3 h4 hs hR=>j X Y _ hR hs.out fun _=>m X X.fls[i] 5 b 0 hb (Nk hi) (by decide) h4 (by decide),fun X Y i hi d hb h1 hs hR=>j X Y _ hR hs.out fun h=>(by cases h),fun X Y i hi d hb hs hR=>j X Y _ hR hs.out fun h=>(by cases h),fun _ X Y k hk ky b d hb h1 h2 h3 hs hR=>j X Y _ hR hs.out fun _=>⟨(by decide:(1:Int)<=1/\(1:Int)<=10),⟨by show(0:Int)<=(k:Int);omega,by show(k:Int)<40;have:=hb.tab.1.2;omega⟩,h2,h3,rfl,rfl,(by decide:(0:Int)<=0/\(0:Int)<=5)⟩⟩;unfold aAN at h;simp only[Bool.or_eq_true,decide_eq_true_eq]at h;omega
theorem aAl(hb:Bs X)(b:Int):(YL b X.tab).length=abu X.fls b:=by
 obtain⟨r,q⟩:=hb.IW b;have e:YL b X.tab=(X.fls.filter fun f=>f.be == b).map fun f=>(f.slot,f.gen):=by
  refine aAQ (fun x=>x.1) _ _ r ?_ fun x=>?_
  ·rw[List.pairwise_map]
   exact aCK _ hb.Ge
  ·constructor
   ·intro k
    obtain⟨f,d,t,m,p⟩:=q x k;exact List.mem_map.2 ⟨f,List.mem_filter.2 ⟨d,by simpa using p⟩,by rw[t,m]⟩
   ·intro k
    obtain⟨f,d,rfl⟩:=List.mem_map.1 k;obtain⟨d,j⟩:=List.mem_filter.1 d;have j:f.be=b:=by simpa using j
    rw[<-j];exact hb.Jj d
 rw[e,N0];unfold abu;rw[List.countP_eq_length_filter]
end
section
variable {A:Gt}{c:Cf}{P:Py}
theorem Rn.aCq(h:Rn A c P)(hA:A.out=[])(hf:A.fls=[]):(∀o∈aAO (P.steps.map (·.out)).flatten,az0 o)/\∀b:Nat,b<12->(aAb (aAO (P.steps.map (·.out)).flatten))[b]?=MI ((abu P.last.fls (b:Int):Nat):Int)/\(aA7 P.last.tab)[b]?=MI ((abu P.last.fls (b:Int):Nat):Int):=by
 have e:=h.flows aAV (by unfold az1;rw[hA,hf];exact List.Perm.refl _) hA;have k:=h.flows aAS (fun o ho=>by rw[hA]at ho;cases ho) hA;refine⟨k,fun b hb=>⟨?_,?_⟩⟩
 ·have j:((aAx (aAO (P.steps.map (·.out)).flatten)).map aAq).Perm (P.last.fls.map aAo):=e
  unfold aAb;rw[List.getElem?_map,List.getElem?_range hb];show MI _=MI _
  congr 1
  have d:=j.countP_eq (fun x=>x.2.2 == (b:Int));rw[List.countP_map,List.countP_map]at d;exact congrArg (fun n:Nat=>(n:Int)) d
 ·rw[aA8 _ _ hb,aAl h.runs.wm.im.bs]
end
section
variable {G:Gt}
theorem aAh(h:Im G):(acG G).out.length<=G.out.length+960:=by
 have d:=(akI G.liv G G.liv.length h (MV _)).2.2;rw[NT]at d;have e:G.liv.length<=12:=h.bs.book.1.1;show(G.liv.foldl Zd G).out.length<=_;omega
theorem aAU(h:Wm G)(hn:G.now+1<=1099511626776):(abj G).out.length<=G.out.length+1040:=by
 have k:=h.im.next hn;obtain⟨q,t,p,D,x,_⟩:=aeS k.bs;have u:=k.Jf;have j:=u.I2;have m:(aaC (YH {G with now:=G.now+1})).now=G.now+1:=q;have e:(aaC (YH {G with now:=G.now+1})).wnow=G.now:=t.trans h.wnow;obtain⟨r,_⟩:=j.Je (by rw[e,m]) (fun f d=>by
  have d:f∈(YH {G with now:=G.now+1}).fls:=d;rw[p]at d;rw[e];exact h.due f d)
 have E:=aAh r;have z:=ao7 j.bs;have B:(aaC (YH {G with now:=G.now+1})).out.length=G.out.length:=congrArg List.length x;show(acG _).out.length<=_;omega
theorem aAT(hm:Wm G)(e:Ev)(h7:e.kind=7->G.now+1<=1099511626776):(Xb G e).out.length<=G.out.length+1040:=by
 unfold Xb
 split
 ·unfold aaI
  split
  ·simp[acm,ZM]
  ·simp only[]
   split
   ·simp[acm,ZM]
   ·simp[abv,abi,ZM,YW]
 ·split
  ·simp[Yv,ZM]
  ·split
   ·unfold abg
    split
    ·simp[Yv,ZM]
    ·split
     ·simp[aeQ,Yv,ZM]
     ·refine Nm (aki _) ?_
      simp[Yv,ZM]
   ·split
    ·rename_i h
     exact aAU hm (h7 h)
    ·unfold aaq
     simp only[]
     split
     ·simp[acm,ZM]
     ·split
      ·exact Nm (afK _ _ _) (by omega)
      ·split
       ·unfold aaZ
        simp only[]
        split <;> simp[abi,ZM,YW,Y4]
       ·split
        ·simp[acm,ZM]
        ·split
         ·simp[abh,abi,ZM,YW,Y4,Yh]
         ·exact Nm (aoZ _ _) (by omega)
theorem aaB.aCr{s:Sp}(h:aaB c s):s.out.length<=1040:=by
 rw[h.out];have:=aAT h.wm s.ev h.late;rw[h.out0]at this
 simpa using this
end
theorem WU.Gm{base:Nat}(h:WU base w g V c P):w.cell? ⟨g,16,MH⟩=MI (MG V.ps P.steps.length V.cs):=by
 rw[MW w g 16 _ _ (0,0) h.box,h.steps];rfl
structure aBn(W:MO)(ps:Option Oc)(k:Nat)(q:Sq)(b o:Nat):Prop where
 at_:ps=MI ⟨b,o,MH⟩
 cells:W.rangeAt b (o+k*61) (abK q)
 rd:aje W q
theorem XQ.step{W:MO}(h:XQ w W g V c P){k:Nat}(hk:k<P.steps.length):∃q b o,aBn W V.ps k q b o/\P.steps[k]?=MI q.s/\aaB c q.s:=by
 have B:=h.pat.steps;have m:k<V.qs.length:=by omega
 have p:Xw abK W (MG V.ps V.qs.length V.cs) V.qs:=abw h.pat.rows;obtain⟨a,z,d,_,_,x⟩:=Xw.F6 avt p;injection d with q1 _ _;obtain⟨b,o,r,D,t⟩:=x k m;have e:P.steps[k]?=MI V.qs[k].s:=by rw[<-h.pat.eqs,List.getElem?_map,MR m];rfl
 refine⟨V.qs[k],b,o,⟨q1.trans r,fun j v d=>?_,(h.pat.all _ (Nk m)).now⟩,e,h.rn.runs.chain _ (Nu e)⟩;have u:j<61:=(List.getElem?_eq_some_iff.1 d).1;rw[t j u];exact d
theorem aCc(f:Nat->Int)(hf:∀i,i<16->(N6 ME (f i)).wf=Nw)(ds:List Dd)(hds:∀d∈ds,ajd d){pd:Option Oc}{cd:Nat}(hrow:Xw agP w (MG pd ds.length cd) ds)(hblk:Xo w)(most:Nat)(hm:most<=100):
  ∃L:List M7,L.length=16/\agc (f 0) (f 1) (f 2) (f 3) (f 4) (f 5) (f 6) (f 7) (f 8) (f 9) (f 10) (f 11) (f 12) (f 13) (f 14) (f 15)=Ny L.toArray/\∀W,MQ w.heap.size w W->Ni MK 4 #[Ny L.toArray,MG pd ds.length cd,MF ME (most:Int)] W (au0 f most W):=
 ⟨[MF ME (f 0),MF ME (f 1),MF ME (f 2),MF ME (f 3),MF ME (f 4),MF ME (f 5),MF ME (f 6),MF ME (f 7),MF ME (f 8),MF ME (f 9),MF ME (f 10),MF ME (f 11),MF ME (f 12),MF ME (f 13),MF ME (f 14),MF ME (f 15)],rfl,rfl,fun W hB=>awU f hf ds hds W (hrow.below hB) (hblk.below hB) most hm⟩
theorem WU.aCu{base:Nat}(h:WU base w g V c P)(j:Nat):w.cell? ⟨g,j,MH⟩=(adM V c P)[j]?:=by
 rw[MW w g j _ _ (0,0) h.box];simp
theorem aBD{l:List Fl}{k:Nat}(hk:k<l.length)(b:Int):abu (l.take (k+1)) b=abu (l.take k) b+if l[k].be=b then 1 else 0:=by
 unfold abu;rw[M9 hk,Qi,aCC,List.countP_nil];simp
theorem aBH{W:MO}{M:List M7}{U:Us}{G:Gt}(hM:M=(XR U G).toList)(h:Xd W U G)(HL40:G.fls.length<=40)(b:Int):Ni MK 9 #[Ny M.toArray,MF ME b] W fun r w'=>r=MN (MF ME ((abu G.fls b:Nat):Int))/\MQ W.heap.size W w':=by
 obtain⟨Y,q⟩:∃Y,Y=W.alloc (MP M.toArray 61):=⟨_,rfl⟩;have u:MQ W.heap.size W Y:=by rw[q];exact WQ W
 have B:Y.heap[W.heap.size]?=MI (MP M.toArray 61 (0,0)):=by rw[q];exact M1 _ _
 have z:Y.cell? ⟨W.heap.size,18,MH⟩=MI (MG U.pf G.fls.length U.cf):=by rw[MW Y _ 18 _ _ (0,0) B,hM];rfl
 obtain⟨a,a0,hv,Z,S,L⟩:=Xw.F6 XL (Xw.below h.fls u);injection hv with q1 q2 q3;obtain⟨m,p⟩:∃m,m=G.fls.length:=⟨_,rfl⟩;rw[<-p]at z;have a3:m<=9223372036854775806:=by rw[p];have:=HL40;omega
 have d:M6 (_/\_/\_/\_):=⟨L,q1,p,u⟩;clear B L q1 q2 q3 p S Z h hM u HL40;go_enter Tryz.func9,Tryz.ntmps9;go_wp2;rw[<-q];clear q
 go_loopw [5,6] (fun c i wr=>∃k n:Nat,c=MF ME (n:Int)/\i=MF ME (k:Int)/\k<=m/\n<=k/\M6 (abu (G.fls.take k) b=n)/\wr=Y) (fun _ i _=>m-(intOf i).toNat)
 case atStart=>exact⟨0,0,rfl,rfl,Nx _,Nx _,rfl,rfl⟩
 case round =>
  obtain⟨k,n,rfl,rfl,hk,a4,E,rfl⟩:=hrel
  by_cases hlt:k<m
  ·have O:(k:Int)<(m:Int):=by omega
   have t:k<G.fls.length:=by rw[<-d.out.2.2.1];exact hlt
   obtain⟨bo,oo,I,hb,J⟩:=d.out.1 k t;have e3:wr.cell? ⟨bo,oo+k*7+3,MH⟩=MI (MF ME G.fls[k].be):=J 3 (by omega);have j:=aBD t b;obtain⟨x,F⟩:∃x,x=G.fls[k].be:=⟨_,rfl⟩;rw[<-F]at e3 j;rw[d.out.2.1,I]at z;rw[E.out]at j;have D:M6 _:=j;clear J hb I t F j
   by_cases hq:x=b
   ·have N:(x == b)=true:=by simp[hq]
    have e:M6 (abu (G.fls.take (k+1)) b=n+1):=D.out.trans (by rw[Nh hq]);clear hq;go_wp2
    go_roundw
    case rel=>exact⟨k+1,n+1,by simp,by simp,hlt,by omega,e,trivial⟩
    case measure=>simp[intOf];omega
   ·have N:(x == b)=false:=by simp[hq]
    have e:M6 (abu (G.fls.take (k+1)) b=n):=D.out.trans (by rw[Nf hq];rfl);clear hq;go_wp2
    go_roundw
    case rel=>exact⟨k+1,n,rfl,by simp,hlt,by omega,e,trivial⟩
    case measure=>simp[intOf];omega
  ·obtain rfl:k=m:=by omega
   have O:¬(k:Int)<(k:Int):=by omega
   have e:M6 (abu G.fls b=n):=by have:=E.out;rw[d.out.2.2.1,NT]at this;exact this
   go_wp2;go_ret;exact⟨by rw[e.out];rfl,d.out.2.2.2⟩
def aB5(P:Py):List Ou:=(P.steps.map (·.out)).flatten
def aB6(P:Py)(k:Nat):List Ou:=((P.steps.take k).map (·.out)).flatten
theorem aB8{k:Nat}{s:Sp}(h:P.steps[k]?=MI s):aB6 P (k+1)=aB6 P k++s.out:=by
 obtain⟨d,e⟩:=List.getElem?_eq_some_iff.1 h;unfold aB6;rw[M9 d,OI,PV,e];simp
theorem aB7{c:Cf}{P:Py}(h:∀s∈P.steps,aaB c s):∀k:Nat,(aB6 P k).length<=1040*k
 |0=>Nx _
 |k+1=>by
  have d:=aB7 h k
  by_cases hk:k<P.steps.length
  ·rw[aB8 (MR hk),Ns]
   have e:=(h _ (Nk hk)).aCr;omega
  ·have:aB6 P (k+1)=aB6 P k:=by unfold aB6;rw[N1 (by omega),N1 (by omega)]
   rw[this];omega
theorem aB4{W:MO}(h:XQ w W g V c P)(hl:P.steps.length<=1000):
  Ni MK 5 #[gP g] W fun r w'=>∃p q,r=MN (MG p (aB5 P).length q)/\Xw Z1 w' (MG p (aB5 P).length q) (aB5 P)/\MQ W.heap.size W w':=by
 obtain⟨n,hn⟩:∃n,n=P.steps.length:=⟨_,rfl⟩;have m:M6 (_/\_/\_):=⟨h,hn,(show n<=1000 by omega)⟩;have a5:n<=9223372036854775807:=by omega
 clear h hl hn;go_enter Tryz.func5,Tryz.ntmps5;go_wp2
 go_loopw [3,4] (fun s i wr=>∃(k q:Nat) (p:Option Oc) (j:Nat),s=MG p q j/\i=MF ME (k:Int)/\k<=n/\M6 (q=(aB6 P k).length/\wr.ownsRow W.heap.size 67 7 (MG p q j) q (rv Z1 (aB6 P k))/\MQ W.heap.size W wr)) (fun _ i _=>n-(intOf i).toNat)
 case atStart=>exact⟨0,0,MH,0,rfl,rfl,Nx _,rfl,⟨rfl,Nt ⟨rfl,rfl⟩⟩,MY _ _⟩
 case round =>
  obtain⟨k,q,p,j,rfl,rfl,hk,d⟩:=hrel;have t:=m.out.1.on d.out.2.2;have a0:wr.cell? ⟨g,16,MH⟩=MI (MG V.ps n V.cs):=by rw[m.out.2.1];exact t.pat.Gm
  have a9:=t.pat.lt
  by_cases hlt:k<n
  ·have a4:(k:Int)<(n:Int):=by omega
   obtain⟨x,b,o,hx,I,a3⟩:=t.step (k:=k) (by rw[<-m.out.2.1];exact hlt);have U:wr.cell? ⟨b,o+k*61+60,MH⟩=MI (MG x.po x.s.out.length x.co):=hx.cells 60 _ rfl;have b3:b<wr.heap.size:=MX wr ⟨b,_,MH⟩ U;have B:(aB6 P (k+1)).length=q+x.s.out.length:=by rw[aB8 I,Ns,<-d.out.1]
   have N:=aB7 m.out.1.rn.runs.chain (k+1);rw[B]at N;have a8:k+1<=1000:=by have:=m.out.2.2;omega
   obtain⟨p',Z,w5,F,z,O⟩:=ajY akV aqd (by decide) aCy apw rfl d.out.2.1 d.out.2.2.size 29 _ x.s.out hx.rd.2.2 (by omega) (by unfold NE;omega);rw[<-aB8 I]at z;obtain⟨u,M⟩:∃u,u=x.s.out.length:=⟨_,rfl⟩;rw[<-M]at F z B U;rw[hx.at_]at a0;have D:M6 (_/\_/\_/\_):=⟨F,z,d.out.2.2.trans O,B⟩;clear B M F z O hx I a3 t N
   go_wp2_with (at_builtin;(with_reducible refine Z4 rfl _ _ 29 rfl (MG p q j) (MG x.po u x.co) (MG p' (q+u) Z) w5 ?hs ?hx ?hr ?_);(case hs=>rfl);(case hx=>rfl);(case hr=>exact D.out.1))
   go_wp2
   go_roundw
   case rel=>exact⟨k+1,q+u,p',Z,rfl,by simp,hlt,D.out.2.2.2.symm,D.out.2.1,D.out.2.2.1⟩
   case measure=>simp[intOf];omega
  ·obtain rfl:k=n:=by omega
   have a4:¬(k:Int)<(k:Int):=by omega
   have E:=d.out.1;have L:=d.out.2.1;have he:aB6 P k=aB5 P:=by unfold aB6 aB5;rw[m.out.2.1,NT]
   rw[he]at E L;have S:=abw (c:=Z1) (l:=aB5 P) (k:=7) (v:=MG p q j) (w:=wr) (base:=W.heap.size) (e:=67) (by rw[<-E];exact L);have J:M6 (_/\_):=⟨S,E⟩;clear E L he S t;go_wp2;go_ret;exact⟨p,j,by rw[<-J.out.2];rfl,by rw[<-J.out.2];exact J.out.1,d.out.2.2⟩
section
variable {P:O8}{ops:Array Oper}{C:MO->Prop}{Q:Act->Prop}{o:Oper}{rest:List Oper}{a:Act}
theorem aCj{id:Nat}{R:Exit->Act->MO->Prop}{l:List Oper}(hC:C w.drew)(h:wpQuiet P l.toArray C (fun a'=>∀w',C w'->R .normal a' w') l a)(hm:P.follows .mixedOrders=true:=by kernel_rfl)(hB:Region.lexB .any l.toArray=true:=by kernel_rfl):(Code.region id l.toArray Nw).wp P R a w :=
 wp_region_quiet hm hB hC (by simpa using h)
theorem aCi(v:M7)(h:K (a.put o.dst v))(hv:∀w,C w->(execOp a.eval o).run P w=.ok (.value v) w):o.quiet P a C K :=
 ⟨v,fun w hC=>by unfold Oper.quietAt;rw[hv w hC];exact⟨rfl,rfl⟩,h⟩
theorem aCl(ty:NU)(x:Operand)(b p:Nat)(cs:List M7){d:TypeDesc}(hS:∀w,C w->w.rangeAt b p cs)(hi:(P.info? ty).map (·.size)=MI cs.length)(hu:P.underlying ty=MI d)(h:K (a.put o.dst (Ny cs.toArray)))(ho:o.op=.load ty x:=by rfl)(hx:a.eval x=Na (MI ⟨b,p,MH⟩):=by rfl)(hd:d.isRow=true:=by rfl):o.quiet P a C K :=
 aCi _ h fun w hC=>by
  unfold execOp;simp only[ho,hx,Instr.loadAt,Instr.sureAddr,Pn,P3,PG,run_loadVar_mid w b p ty cs d (hS w hC) hu hd hi]
theorem aCk(v:M7)(f:FuncId)(args:Array M7)(hc:∀w,C w->Ni P f args w fun e w'=>e=MN v/\C w')(h:K (a.put o.dst v))(hv:∀w,(execOp a.eval o).run P w=.ok (.enter f args) w:=by exact fun X=>by go_simp):o.quiet P a C K :=
 ⟨v,fun w hC=>by unfold Oper.quietAt;rw[hv w];exact⟨rfl,hc w hC⟩,h⟩
end
abbrev aB1(o:Ou):Value:=Ny #[MF ME o.kind,MF ME o.slot,MF ME o.gen,MF ME o.be,MF ME o.req,MF ME o.code,MF ME o.why]
abbrev aBm(w:MO)(v:M7)(l:List Ou):Prop:=Xw Z1 w v l
theorem aBm.F6(h:aBm w v l):
  ∃a cap,v=MG a l.length cap/\l.length<=cap/\cap<=NE/\∀i (hi:i<l.length),∃b off,a=MI ⟨b,off,MH⟩/\b<w.heap.size/\w.cell? ⟨b,off+i*7,MH⟩=MI (MF ME l[i].kind)/\w.cell? ⟨b,off+i*7+1,MH⟩=MI (MF ME l[i].slot)/\w.cell? ⟨b,off+i*7+2,MH⟩=MI (MF ME l[i].gen)/\w.cell? ⟨b,off+i*7+3,MH⟩=MI (MF ME l[i].be)/\w.cell? ⟨b,off+i*7+4,MH⟩=MI (MF ME l[i].req)/\w.cell? ⟨b,off+i*7+5,MH⟩=MI (MF ME l[i].code)/\w.cell? ⟨b,off+i*7+6,MH⟩=MI (MF ME l[i].why):=by
 obtain⟨a,cap,p,m,e,k⟩:=Xw.F6 akV h;refine⟨a,cap,p,m,e,fun i hi=>?_⟩;obtain⟨b,off,q,j,d⟩:=k i hi;exact⟨b,off,q,j,(d 0 (by omega)).trans rfl,(d 1 (by omega)).trans rfl,(d 2 (by omega)).trans rfl,(d 3 (by omega)).trans rfl,(d 4 (by omega)).trans rfl,(d 5 (by omega)).trans rfl,(d 6 (by omega)).trans rfl⟩
theorem aCd{α:Type}{l:List α}{k:Nat}(h:k<l.length){x:α}(hx:x=l[k]):l.take (k+1)=l.take k++[x]:=by
 rw[M9 h,hx]
theorem aBA(f:Ou)(w:MO) :
  Ni MK 34 #[aB1 f] w fun r w'=>r=MN (M3 (az9 f))/\MQ w.heap.size w w':=by
 have d:az9 f=(Nn (f.kind<1) || decide (10<f.kind) || decide (f.why<0) || decide (5<f.why)):=rfl;rw[d];clear d;cases t0:Nn (f.kind<1)
 ·cases t1:Nn (10<f.kind)
  ·cases t2:Nn (f.why<0)
   ·cases t3:Nn (5<f.why)
    ·go_enter aCG,aCE
     go_wp2;go_ret;exact⟨by rfl,WQ w⟩
    ·go_enter aCG,aCE
     go_wp2;go_ret;exact⟨by rfl,WQ w⟩
   ·go_enter aCG,aCE
    go_wp2;go_ret;exact⟨by rfl,WQ w⟩
  ·go_enter aCG,aCE
   go_wp2;go_ret;exact⟨by rfl,WQ w⟩
 ·go_enter aCG,aCE
  go_wp2;go_ret;exact⟨by rfl,WQ w⟩
theorem aBM(v:M7)(l:List Ou)(w:MO)(hv:aBm w v l) :
  Ni MK 49 #[v,PB (PD 34) #[] #[]] w fun r w'=>r=MN (MF ME (X6 (l.findIdx (az9)) l.length))/\MQ w.heap.size w w':=by
 obtain⟨q,L⟩:∃q:Ou->Bool,q=(az9):=⟨_,rfl⟩;obtain⟨a,ca,rfl,a3,a0,O⟩:=aBm.F6 hv;unfold NE at a0;have U:M6 (∀(x:Ou) (W:MO),MQ w.heap.size w W->Ni MK 34 #[aB1 x] W fun r w'=>r=MN (M3 (q x))/\MQ W.heap.size W w'):=by
  rw[L];exact fun x W hb=>aBA x W
 rw[<-L];obtain⟨B,I⟩:∃B,B=X6 (l.findIdx q) l.length:=⟨_,rfl⟩;rw[<-I];have H:M6 _:=I;clear hv I L;go_enter ayZ,ayU;go_wp2
 go_loopw [8] (fun i wr=>∃k:Nat,i=MF ME k/\k<=l.length/\(∀t∈l.take k,q t=Nb)/\MQ w.heap.size w wr) (fun i _=>l.length-(intOf i).toNat)
 case atStart=>exact⟨0,rfl,Nx _,by simp,MY _ _⟩
 case round =>
  obtain⟨k,rfl,hk,D,d⟩:=hrel
  by_cases hlt:k<l.length
  ·obtain⟨z,m,rfl,j,c1,c2,c3,c4,c5,c6,c7⟩:=O k hlt
   have e1:=(d.cell (p:=⟨z,m+k*7,MH⟩) j).trans c1;have e2:=(d.cell (p:=⟨z,m+k*7+1,MH⟩) j).trans c2;have e3:=(d.cell (p:=⟨z,m+k*7+2,MH⟩) j).trans c3;have e4:=(d.cell (p:=⟨z,m+k*7+3,MH⟩) j).trans c4;have e5:=(d.cell (p:=⟨z,m+k*7+4,MH⟩) j).trans c5;have e6:=(d.cell (p:=⟨z,m+k*7+5,MH⟩) j).trans c6;have e7:=(d.cell (p:=⟨z,m+k*7+6,MH⟩) j).trans c7;have u:M6 (_/\_):=⟨D,d⟩;have a4:(k:Int)<(l.length:Int):=by omega
   have M:l.take (k+1)=l.take k++[l[k]]:=M9 hlt;have J:q l[k]=Nw->l.findIdx q=k:=fun h=>abZ hlt D h
   have F:∃x,x=l[k]:=⟨_,rfl⟩;obtain⟨x,F⟩:=F;rw[<-F]at e1 e2 e3 e4 e5 e6 e7 M J;have Z:M6 (_/\_):=⟨M,J⟩;clear D d c1 c2 c3 c4 c5 c6 c7 j O M J F;cases hd:q x
   ·go_wp2_with fail
    refine(U.out x _ u.out.2).mono ?_;rw[hd];rintro r w2 ⟨rfl,E⟩;have N:M6 _:=E;clear E;go_wp2
    go_roundw
    case rel =>
     refine⟨k+1,by simp,hlt,fun t e=>?_,u.out.2.trans (N.out.mono u.out.2.size)⟩;rw[Z.out.1]at e;rcases List.mem_append.1 e with e|e
     ·exact u.out.1 t e
     ·simp at e
      rw[e];exact hd
    case measure=>simp[intOf];omega
   ·go_wp2_with fail
    refine(U.out x _ u.out.2).mono ?_;rw[hd];rintro r w2 ⟨rfl,E⟩;have S:M6 (B=(k:Int)):=by show B=_;rw[H.out,Z.out.2 hd];exact Nh hlt
    have N:M6 _:=E;clear E;go_wp2;go_ret;exact⟨by rw[S.out];rfl,u.out.2.trans (N.out.mono u.out.2.size)⟩
  ·have S:M6 (B = -1):=by
    show B=_;rw[H.out,acp fun t e=>D t (by rw[N1 (by omega)];exact e)];exact Nf (PC _)
   have HB:M6 _:=d;clear D d O;go_wp2;go_ret;exact⟨by rw[S.out];rfl,HB.out⟩
theorem aBE(v:M7)(l:List Ou)(w:MO)(hv:aBm w v l) :
  Ni MK 35 #[v,PB (PD 34) #[] #[]] w fun r w'=>r=MN (M3 (l.any (az9)))/\MQ w.heap.size w w':=by
 rw[<-ahq];have k:M6 _:=aBM v l w hv;obtain⟨e,d⟩:∃e,e=X6 (l.findIdx (az9)) l.length:=⟨_,rfl⟩;rw[<-d]at k⊢;clear d hv;go_enter Tryz.func35,Tryz.ntmps35
 go_wp2_with fail
 refine Nd k.out ?_;rintro r p ⟨rfl,j⟩;have m:M6 _:=j;clear j;go_wp2;go_ret;exact⟨rfl,m.out⟩
theorem aBz(v:M7)(l:List Ou)(w:MO)(hv:aBm w v l) :
  Ni MK 18 #[v] w fun r w'=>r=MN (MF ME (if az3 l then 5 else 0))/\MQ w.heap.size w w':=by
 have e:M6 _:=aBE v l w hv;have k:l.any az9=az3 l:=rfl;rw[k]at e;clear k hv;cases h:az3 l
 ·rw[h]at e
  go_enter Tryz.func18,Tryz.ntmps18
  go_wp2_with fail
  refine Nd e.out ?_;rintro r m ⟨rfl,d⟩;have j:M6 _:=d;clear d;go_wp2;go_ret;exact⟨rfl,j.out⟩
 ·rw[h]at e
  go_enter Tryz.func18,Tryz.ntmps18
  go_wp2_with fail
  refine Nd e.out ?_;rintro r m ⟨rfl,d⟩;have j:M6 _:=d;clear d;go_wp2;go_ret;exact⟨rfl,j.out⟩
theorem aCm:(#[MF ME 0,MF ME 0,MF ME 0,MF ME 0,MF ME 0,MF ME 0,MF ME 0,MF ME 0,MF ME 0,MF ME 0,MF ME 0,MF ME 0,MF ME 0,MF ME 0,MF ME 0,MF ME 0,MF ME 0]:Array M7)=(WR (Nj 17 0)).toArray:=rfl
theorem aBO:(Tryz.prog.info? 85).map (·.size)=MI 17:=by kernel_rfl
theorem aB0(v:M7)(l:List Ou)(w:MO)(hv:aBm w v l) :
  Ni MK 14 #[v] w fun r w'=>r=MN (Nv #[Ny (WR (aAI l).1).toArray,MF ME (aAI l).2])/\MQ w.heap.size w w':=by
 obtain⟨p,c,rfl,hc,hm,pv⟩:=aBm.F6 hv;unfold NE at hm;obtain⟨W0,a3⟩:∃W0,W0=w.alloc (MP (WR (Nj 17 0)).toArray 85):=⟨_,rfl⟩;have d6:MQ w.heap.size w W0:=by rw[a3];exact WQ w
 have d4:Xj 85 17 W0 w.heap.size (Nj 17 0):=by rw[a3];exact⟨M1 _ _,by simp⟩
 have L:M6 (_/\_/\_/\_/\_):=⟨hv,pv,d6,d4,a3⟩;clear hv pv d6 d4 a3;have O:=OE (ac1 (Nj 17 0));have HO:M6 _:=O;clear O;go_enter Tryz.func14,Tryz.ntmps14
 go_wp2_with fail
 rw[aCm,<-L.out.2.2.2.2];refine(aBz _ l _ (L.out.1.below L.out.2.2.1)).mono ?_;rintro r j ⟨rfl,a4⟩;have t:=L.out.2.2.2.1.below a4;have U:=L.out.2.2.1.trans (a4.mono L.out.2.2.1.size);cases hbad:az3 l
 ·rw[Nf PE]
  have N:aAI l=(aAr l,0):=by unfold aAI;rw[hbad];rfl
  have J:M6 (_/\_/\_/\_):=⟨t,U,hbad,N⟩;have g8:=t.lt;clear t U a4 hbad N;go_wp2;rw[aCm];obtain⟨W2,a8⟩:∃W2,W2=j.alloc (MP (WR (Nj 17 0)).toArray 85):=⟨_,rfl⟩;rw[<-a8];have d5:MQ j.heap.size j W2:=by rw[a8];exact WQ j
  have d3:Xj 85 17 W2 j.heap.size (aAr (l.take 0)):=by rw[a8,List.take_zero,aAu];exact⟨M1 _ _,by simp⟩
  have H2:M6 (_/\_):=⟨d5,d3⟩;clear d5 d3 a8
  go_loopw [16] (fun i wr=>∃k:Nat,i=MF ME k/\k<=l.length/\MQ j.heap.size j wr/\Xj 85 17 wr j.heap.size (aAr (l.take k))) (fun i _=>l.length-(intOf i).toNat)
  case atStart=>exact⟨0,rfl,Nx _,H2.out.1,H2.out.2⟩
  case round =>
   obtain⟨k,rfl,hk,F,q⟩:=hrel
   by_cases hlt:k<l.length
   ·obtain⟨I,off,rfl,u,c1,c2,c3,c4,c5,c6,c7⟩:=L.out.2.1 k hlt
    have z:=J.out.2.1.trans (F.mono J.out.2.1.size);have e1:=(z.cell (p:=⟨I,off+k*7,MH⟩) u).trans c1;have e2:=(z.cell (p:=⟨I,off+k*7+1,MH⟩) u).trans c2;have e3:=(z.cell (p:=⟨I,off+k*7+2,MH⟩) u).trans c3;have e4:=(z.cell (p:=⟨I,off+k*7+3,MH⟩) u).trans c4;have e5:=(z.cell (p:=⟨I,off+k*7+4,MH⟩) u).trans c5;have e6:=(z.cell (p:=⟨I,off+k*7+5,MH⟩) u).trans c6;have e7:=(z.cell (p:=⟨I,off+k*7+6,MH⟩) u).trans c7;have a9:=aAa (az6 J.out.2.2.1 (Nk hlt));obtain⟨⟨kd,sl,gn,be,rq,cd,wy⟩,hx⟩:∃x,x=l[k]:=⟨_,rfl⟩;have a5:=aCd hlt hx;rw[<-hx]at e1 e2 e3 e4 e5 e6 e7 a9
    dsimp only at e1 e2 e3 e4 e5 e6 e7 a9
    obtain⟨m,rfl⟩:=NL (a:=kd) (by omega);obtain⟨y,rfl⟩:=NL (a:=wy) (by omega);have d9:m<11:=by omega
    have g5:(m:Int)<11:=by omega
    have e0:y<6:=by omega
    have g3:(y:Int)<6:=by omega
    have f7:(k:Int)<(l.length:Int):=by omega
    have h8:=q.lt;have g4:¬j.heap.size=wr.heap.size:=by omega
    have e9:¬wr.heap.size=j.heap.size:=by omega
    by_cases h6:m=6
    ·subst h6
     have a0:=q.F7 6 (by rw[aAt];omega);rw[aAs _ 6 (by omega)]at a0;have e8:=q.Gu 6;have d0:=q.F7 (11+y) (by rw[aAt];omega);rw[aAs _ (11+y) (by omega)]at d0;have f8:=q.Gu (11+y);have b5:aAe (l.take k) 6<=k:=Nm (aAf _ _) (by rw[NH];omega);have d8:aAe (l.take k) (11+y)<=k:=Nm (aAf _ _) (by rw[NH];omega);have d:=aAw (l.take k) ⟨((6:Nat):Int),sl,gn,be,rq,cd,(y:Int)⟩ y rfl rfl e0;rw[<-a5]at d;obtain⟨n1,S⟩:∃n1,n1=aAe (l.take k) 6:=⟨_,rfl⟩;obtain⟨n2,d7⟩:∃n2,n2=aAe (l.take k) (11+y):=⟨_,rfl⟩;rw[<-S]at a0 b5 d;rw[<-d7]at d0 d8 d;have f9:¬11+y=6:=by omega
     have g0:¬6=11+y:=by omega
     have D:M6 (_/\_/\_):=⟨F,q,d⟩;clear F q d S d7 a5 hx z c1 c2 c3 c4 c5 c6 c7 u a9;go_wp2
     go_roundw
     case rel =>
      refine⟨k+1,by simp,hlt,?_,?_⟩
      ·exact((D.out.1.setCell (p:=⟨j.heap.size,6,MH⟩) (MV _) _).setCell (p:=⟨j.heap.size,11+y,MH⟩) (MV _) _).alloc (by simp;exact D.out.1.size) _
      ·rw[D.out.2.2]
       exact((D.out.2.1.F4 6 _).F4 (11+y) _).below (WQ _)
     case measure=>simp[intOf];omega
    ·have a0:=q.F7 m (by rw[aAt];omega)
     rw[aAs _ m (by omega)]at a0;have e8:=q.Gu m;have b5:aAe (l.take k) m<=k:=Nm (aAf _ _) (by rw[NH];omega);have d:=aAv (l.take k) ⟨(m:Int),sl,gn,be,rq,cd,(y:Int)⟩ m rfl d9 (by show ¬(m:Int)=6;omega);rw[<-a5]at d;obtain⟨n1,S⟩:∃n1,n1=aAe (l.take k) m:=⟨_,rfl⟩;rw[<-S]at a0 b5 d;have g9:¬(m:Int)=6:=by omega
     have D:M6 (_/\_/\_):=⟨F,q,d⟩;clear F q d S a5 hx z c1 c2 c3 c4 c5 c6 c7 u a9;go_wp2
     go_roundw
     case rel =>
      refine⟨k+1,by simp,hlt,?_,?_⟩
      ·exact(D.out.1.setCell (p:=⟨j.heap.size,m,MH⟩) (MV _) _).alloc (by simp;exact D.out.1.size) _
      ·rw[D.out.2.2]
       exact(D.out.2.1.F4 m _).below (WQ _)
     case measure=>simp[intOf];omega
   ·obtain rfl:k=l.length:=by omega
    rw[NT]at q;have t:=J.out.1.below F;obtain⟨E,B⟩:∃E,E=wr.setCells w.heap.size 0 (WR (aAr l)):=⟨_,rfl⟩;have d:=(t.Hq (P:=MK) (b:=aAr l) (aAt l) aBO).2;rw[<-B]at d;have b3:MQ w.heap.size w wr:=J.out.2.1.trans (F.mono J.out.2.1.size);have Z:MQ w.heap.size w E:=by rw[B];exact adp b3 (MV _) 0 _ b3.size
    have c9:(Tryz.prog.info? 85).map (·.size)=MI (WR (aAr l)).length:=by rw[aBO,Zv,aAt]
    have c8:wr.there w.heap.size 0 (WR (aAr l)).toArray.size:=by simp[Zv,aAt];exact t.GB
    have O:=OE (ac1 (aAr l));have e:M6 (_/\_/\_/\_/\_/\_/\_):=⟨q.Gq,c9,c8,O,B,d,Z⟩;clear q t d Z c9 c8 O B F b3;obtain⟨M,b8⟩:∃M,M=WR (aAr l):=⟨_,rfl⟩;rw[<-b8]at e;have HC:M6 _:=b8;clear b8
    go_wp2_with (first|((with_reducible refine O3 rfl 85 (O6 5) rfl j.heap.size 0 ?hx M _ ?hc aCF ?hd ?hi ?_);(case hx=>rfl);(case hc=>exact e.out.1);(case hd=>rfl);(case hi=>exact e.out.2.1))|((with_reducible refine OW rfl 85 (O6 2) (O6 40) rfl w.heap.size 0 M.toArray ?hx ?hy ?ht ?hi ?h1 ?_);(case hx=>rfl);(case hy=>rfl);(case ht=>exact e.out.2.2.1);(case hi=>rw[e.out.2.1];simp);(case h1=>exact e.out.2.2.2.1);rw[show M.toArray.toList=M from rfl,<-e.out.2.2.2.2.1]))
    rw[J.out.2.2.2];refine Np (v:=Nv #[Ny (WR (aAr l)).toArray,MF ME 0]) (XT Tryz.results14 rfl rfl (e.out.2.2.2.2.2.1.Io aCF rfl aBO)) rfl ⟨rfl,e.out.2.2.2.2.2.2⟩
 ·rw[Nh rfl]
  have N:aAI l=(Nj 17 0,5):=by unfold aAI;rw[hbad];rfl
  obtain⟨E,B⟩:∃E,E=j.setCells w.heap.size 0 (RW (#[MF ME 0,MF ME 0,MF ME 0,MF ME 0,MF ME 0,MF ME 0,MF ME 0,MF ME 0,MF ME 0,MF ME 0,MF ME 0,MF ME 0,MF ME 0,MF ME 0,MF ME 0,MF ME 0,MF ME 0]:Array M7)):=⟨_,rfl⟩;have d:=(t.Hq (P:=MK) (b:=Nj 17 0) (by simp) aBO).2;have b9:Xj 85 17 E w.heap.size (Nj 17 0):=by rw[B];exact d
  have Z:MQ w.heap.size w E:=by rw[B];exact adp U (MV _) _ _ U.size
  have e:M6 (_/\_/\_/\_/\_):=⟨t.GB,Z,b9,B,N⟩;clear t U a4 hbad N d b9 Z B
  go_wp2_with ((with_reducible refine OW rfl 85 (O6 2) (O6 12) rfl w.heap.size 0 #[MF ME 0,MF ME 0,MF ME 0,MF ME 0,MF ME 0,MF ME 0,MF ME 0,MF ME 0,MF ME 0,MF ME 0,MF ME 0,MF ME 0,MF ME 0,MF ME 0,MF ME 0,MF ME 0,MF ME 0] ?hx ?hy ?ht ?hi ?h1 ?_);(case hx=>rfl);(case hy=>rfl);(case ht=>exact e.out.1);(case hi=>exact aBO);(case h1=>exact HO.out);rw[<-e.out.2.2.2.1])
  rw[e.out.2.2.2.2];refine Np (v:=Nv #[Ny (WR (Nj 17 0)).toArray,MF ME 5]) (XT Tryz.results14 rfl rfl (e.out.2.2.1.Io aCF rfl aBO)) rfl ⟨rfl,e.out.2.1⟩
theorem aBo(h:l.length<=9223372036854775807):-9223372036854775808<=aAF l/\aAF l<=9223372036854775807/\aAe l 6+aAe l 7<=l.length:=by
 have d:aAe l 6+aAe l 7<=l.length:=by
  unfold aAe;clear h
  induction l with
  |nil=>simp
  |cons o l ih =>
   simp only[aCC,Ox];have:(if aAk o 6=Nw then 1 else 0)+(if aAk o 7=Nw then 1 else 0)<=1:=by
    unfold aAk
    by_cases h6:o.kind=6
    ·simp[h6]
    ·simp[h6];split <;> omega
   omega
 have e:=aAf l 1;unfold aAF;omega
theorem aBX(v:M7)(l:List Ou)(w:MO)(hv:aBm w v l) :
  Ni MK 6 #[v] w fun r w'=>r=MN (Nv #[MF ME (aAH l).1,MF ME (aAH l).2])/\MQ w.heap.size w w':=by
 obtain⟨p,c,rfl,hc,hm⟩:=Xw.Ga hv;unfold NE at hm;have B:=aBo (l:=l) (by omega);have g1:=aAf l 1;have g6:=aAf l 6;have g7:=aAf l 7;have Z:=aB0 _ l w hv;clear hv;obtain⟨k,I⟩:∃k,k=(aAI l).1:=⟨_,rfl⟩;obtain⟨J,N⟩:∃J,J=(aAI l).2:=⟨_,rfl⟩;rw[<-I,<-N]at Z;have a0:k.length=17:=by rw[I];exact aAJ l
 have HV:M6 _:=Z;clear Z;have j:M6 (_/\_/\_/\_):=⟨a0,I,N,B⟩;clear a0 I N B;obtain⟨LV,S⟩:∃LV,LV=aAH l:=⟨_,rfl⟩;rw[<-S];have HL:M6 _:=S;clear S;go_enter Tryz.func6,Tryz.ntmps6
 go_wp2_with fail
 refine Nd HV.out ?_;rintro r m ⟨rfl,L⟩;obtain⟨t,E⟩:∃t,t=m.alloc (MP (WR (Nj 17 0)).toArray 85):=⟨_,rfl⟩;have M:Xj 85 17 t m.heap.size (Nj 17 0):=by rw[E];exact⟨M1 _ _,by simp⟩
 obtain⟨U,D⟩:∃U,U=t.setCells m.heap.size 0 (WR k):=⟨_,rfl⟩;have z:=(M.Hq (P:=MK) (b:=k) j.out.1 aBO).2;rw[<-D]at z;have O:MQ w.heap.size w t:=by rw[E];exact L.alloc L.size _
 have a8:MQ w.heap.size w U:=by rw[D];exact adp O L.size _ _ O.size
 have a3:t.there m.heap.size 0 (WR k).toArray.size:=by simp[Zv,j.out.1];exact M.GB
 have a5:(Tryz.prog.info? 85).map (·.size)=MI (WR k).toArray.size:=by rw[aBO];simp[Zv,j.out.1]
 have a4:=OE (ac1 k);have h1:=z.F7 1 (by rw[j.out.1];omega);have h6:=z.F7 6 (by rw[j.out.1];omega);have h7:=z.F7 7 (by rw[j.out.1];omega);have d:M6 (_/\_/\_/\_/\_/\_):=⟨a3,a5,a4,E,D,a8⟩;obtain⟨e,F⟩:∃e,e=WR k:=⟨_,rfl⟩;rw[<-F]at d;rw[<-F];have HC:M6 _:=F;clear F a3 a5 a4 E D O a8 z M L;have a9:(J=5/\az3 l=Nw)\/(J=0/\az3 l=Nb/\k=aAr l):=by
  rw[j.out.2.2.1,j.out.2.1];unfold aAI;cases az3 l
  ·right;exact⟨rfl,rfl,rfl⟩
  ·left;exact⟨rfl,rfl⟩
 rcases a9 with⟨rfl,x⟩|⟨rfl,x,b3⟩
 ·have u:aAH l=(0,5):=by unfold aAH;rw[x];rfl
  have q:M6 (LV=(0,5)):=HL.out.trans u;clear u x h1 h6 h7
  go_wp2_with ((with_reducible refine OW rfl 85 (O6 4) (O6 10) rfl m.heap.size 0 e.toArray ?hx ?hy ?ht ?hi ?h1 ?_);(case hx=>rfl);(case hy=>rfl);(case ht=>rw[aCm,<-d.out.2.2.2.1];exact d.out.1);(case hi=>exact d.out.2.1);(case h1=>exact d.out.2.2.1);rw[aCm,<-d.out.2.2.2.1,show e.toArray.toList=e from rfl,<-d.out.2.2.2.2.1])
  go_ret2
  exact⟨by rw[q.out];try rfl,d.out.2.2.2.2.2⟩
 ·have u:aAH l=if aAF l<0 then(0,6)else(aAF l,0):=by unfold aAH;rw[x];rfl
  have q:M6 _:=HL.out.trans u;clear HL;subst b3;rw[aAs l 1 (by omega)]at h1;rw[aAs l 6 (by omega)]at h6;rw[aAs l 7 (by omega)]at h7;have B:=j.out.2.2.2;unfold aAF at B q;clear u x HV;generalize aAe l 1=a1 at *;generalize aAe l 6=a6 at *;generalize aAe l 7=a7 at *;have b1:a1<=9223372036854775807:=by omega
  have b6:a6<=9223372036854775807:=by omega
  have b7:a7<=9223372036854775807:=by omega
  have b5:a6+a7<=9223372036854775807:=by omega
  clear g1 g6 g7 B j
  by_cases hneg:(a1:Int)-a6-a7<0
  ·rw[Nh hneg]at q
   go_wp2_with ((with_reducible refine OW rfl 85 (O6 4) (O6 10) rfl m.heap.size 0 e.toArray ?hx ?hy ?ht ?hi ?h1 ?_);(case hx=>rfl);(case hy=>rfl);(case ht=>rw[aCm,<-d.out.2.2.2.1];exact d.out.1);(case hi=>exact d.out.2.1);(case h1=>exact d.out.2.2.1);rw[aCm,<-d.out.2.2.2.1,show e.toArray.toList=e from rfl,<-d.out.2.2.2.2.1])
   go_ret2
   exact⟨by rw[q.out];try rfl,d.out.2.2.2.2.2⟩
  ·rw[Nf hneg]at q
   go_wp2_with ((with_reducible refine OW rfl 85 (O6 4) (O6 10) rfl m.heap.size 0 e.toArray ?hx ?hy ?ht ?hi ?h1 ?_);(case hx=>rfl);(case hy=>rfl);(case ht=>rw[aCm,<-d.out.2.2.2.1];exact d.out.1);(case hi=>exact d.out.2.1);(case h1=>exact d.out.2.2.1);rw[aCm,<-d.out.2.2.2.1,show e.toArray.toList=e from rfl,<-d.out.2.2.2.2.1])
   go_ret2
   exact⟨by rw[q.out];try rfl,d.out.2.2.2.2.2⟩
theorem aBY(v:M7)(l:List Ou)(w:MO)(hv:aBm w v l)(hg:az3 l=Nb)(h0:0<=aAF l) :
  Ni MK 6 #[v] w fun r w'=>r=MN (Nv #[MF ME (aAF l),MF ME 0])/\MQ w.heap.size w w':=by
 have h:=aBX v l w hv;have e:aAH l=(aAF l,0):=by unfold aAH;rw[hg,Nf PE,Nf (by omega)]
 rw[e]at h;exact h
section
open Go.Sort (grow grow_empty grow_grow alloc_eq_grow cell?_grow heap_grow_old)
abbrev aB2(o:Ou):Obj:=MP #[MF ME o.kind,MF ME o.slot,MF ME o.gen,MF ME o.be,MF ME o.req,MF ME o.code,MF ME o.why] 67
theorem aB3{o:Ou}(h:w.heap[g]?=MI (aB2 o)):w.cell? ⟨g,0,MH⟩=MI (MF ME o.kind)/\w.cell? ⟨g,1,MH⟩=MI (MF ME o.slot)/\w.cell? ⟨g,2,MH⟩=MI (MF ME o.gen)/\w.cell? ⟨g,3,MH⟩=MI (MF ME o.be)/\w.cell? ⟨g,4,MH⟩=MI (MF ME o.req)/\w.cell? ⟨g,5,MH⟩=MI (MF ME o.code)/\w.cell? ⟨g,6,MH⟩=MI (MF ME o.why)/\g<w.heap.size :=
 ⟨by simp[Nl,h],by simp[Nl,h],by simp[Nl,h],by simp[Nl,h],by simp[Nl,h],by simp[Nl,h],by simp[Nl,h],(Array.getElem?_eq_some_iff.1 h).1⟩
theorem aBJ(o:Ou)(w:MO) :
  Ni MK 37 #[aB1 o] w fun r w'=>r=MN (Ny #[MF ME o.slot,MF ME o.gen])/\∃q os,w'=Oj (w.drewN q) os:=by
 go_enter Tryz.func37,Tryz.ntmps37;go_wp2;refine Np (v:=Ny #[MF ME o.slot,MF ME o.gen]) (Z2 Tryz.results37 rfl (Xp (cs:=[MF ME o.slot,MF ME o.gen]) (Yu _ _ _) ay5 rfl (by kernel_rfl))) rfl ⟨rfl,0,#[aB2 o,MP #[MF ME o.slot,MF ME o.gen] 96],?_⟩;rw[PQ,PQ,grow_grow];rfl
end
section
open Go.Maps (has Keyed IsMap)
open Go.Sort (grow grow_empty grow_grow alloc_eq_grow cell?_grow heap_grow_old)
theorem aBB(f:Ou)(w:MO) :
  Ni MK 36 #[aB1 f] w fun r w'=>r=MN (M3 (az7 f))/\MQ w.heap.size w w':=by
 have d:az7 f=(Nn (f.be<0) || decide (12<=f.be)):=rfl;rw[d];clear d;cases t0:Nn (f.be<0)
 ·cases t1:Nn (12<=f.be)
  ·go_enter aCP,aCL
   go_wp2;go_ret;exact⟨by rfl,WQ w⟩
  ·go_enter aCP,aCL
   go_wp2;go_ret;exact⟨by rfl,WQ w⟩
 ·go_enter aCP,aCL
  go_wp2;go_ret;exact⟨by rfl,WQ w⟩
theorem aBN(v:M7)(l:List Ou)(w:MO)(hv:aBm w v l) :
  Ni MK 49 #[v,PB (PD 36) #[] #[]] w fun r w'=>r=MN (MF ME (X6 (l.findIdx (az7)) l.length))/\MQ w.heap.size w w':=by
 obtain⟨q,L⟩:∃q:Ou->Bool,q=(az7):=⟨_,rfl⟩;obtain⟨a,ca,rfl,a3,a0,O⟩:=aBm.F6 hv;unfold NE at a0;have U:M6 (∀(x:Ou) (W:MO),MQ w.heap.size w W->Ni MK 36 #[aB1 x] W fun r w'=>r=MN (M3 (q x))/\MQ W.heap.size W w'):=by
  rw[L];exact fun x W hb=>aBB x W
 rw[<-L];obtain⟨B,I⟩:∃B,B=X6 (l.findIdx q) l.length:=⟨_,rfl⟩;rw[<-I];have H:M6 _:=I;clear hv I L;go_enter ayZ,ayU;go_wp2
 go_loopw [8] (fun i wr=>∃k:Nat,i=MF ME k/\k<=l.length/\(∀t∈l.take k,q t=Nb)/\MQ w.heap.size w wr) (fun i _=>l.length-(intOf i).toNat)
 case atStart=>exact⟨0,rfl,Nx _,by simp,MY _ _⟩
 case round =>
  obtain⟨k,rfl,hk,D,d⟩:=hrel
  by_cases hlt:k<l.length
  ·obtain⟨z,m,rfl,j,c1,c2,c3,c4,c5,c6,c7⟩:=O k hlt
   have e1:=(d.cell (p:=⟨z,m+k*7,MH⟩) j).trans c1;have e2:=(d.cell (p:=⟨z,m+k*7+1,MH⟩) j).trans c2;have e3:=(d.cell (p:=⟨z,m+k*7+2,MH⟩) j).trans c3;have e4:=(d.cell (p:=⟨z,m+k*7+3,MH⟩) j).trans c4;have e5:=(d.cell (p:=⟨z,m+k*7+4,MH⟩) j).trans c5;have e6:=(d.cell (p:=⟨z,m+k*7+5,MH⟩) j).trans c6;have e7:=(d.cell (p:=⟨z,m+k*7+6,MH⟩) j).trans c7;have u:M6 (_/\_):=⟨D,d⟩;have a4:(k:Int)<(l.length:Int):=by omega
   have M:l.take (k+1)=l.take k++[l[k]]:=M9 hlt;have J:q l[k]=Nw->l.findIdx q=k:=fun h=>abZ hlt D h
   have F:∃x,x=l[k]:=⟨_,rfl⟩;obtain⟨x,F⟩:=F;rw[<-F]at e1 e2 e3 e4 e5 e6 e7 M J;have Z:M6 (_/\_):=⟨M,J⟩;clear D d c1 c2 c3 c4 c5 c6 c7 j O M J F;cases hd:q x
   ·go_wp2_with fail
    refine(U.out x _ u.out.2).mono ?_;rw[hd];rintro r w2 ⟨rfl,E⟩;have N:M6 _:=E;clear E;go_wp2
    go_roundw
    case rel =>
     refine⟨k+1,by simp,hlt,fun t e=>?_,u.out.2.trans (N.out.mono u.out.2.size)⟩;rw[Z.out.1]at e;rcases List.mem_append.1 e with e|e
     ·exact u.out.1 t e
     ·simp at e
      rw[e];exact hd
    case measure=>simp[intOf];omega
   ·go_wp2_with fail
    refine(U.out x _ u.out.2).mono ?_;rw[hd];rintro r w2 ⟨rfl,E⟩;have S:M6 (B=(k:Int)):=by show B=_;rw[H.out,Z.out.2 hd];exact Nh hlt
    have N:M6 _:=E;clear E;go_wp2;go_ret;exact⟨by rw[S.out];rfl,u.out.2.trans (N.out.mono u.out.2.size)⟩
  ·have S:M6 (B = -1):=by
    show B=_;rw[H.out,acp fun t e=>D t (by rw[N1 (by omega)];exact e)];exact Nf (PC _)
   have HB:M6 _:=d;clear D d O;go_wp2;go_ret;exact⟨by rw[S.out];rfl,HB.out⟩
theorem aBF(v:M7)(l:List Ou)(w:MO)(hv:aBm w v l) :
  Ni MK 35 #[v,PB (PD 36) #[] #[]] w fun r w'=>r=MN (M3 (l.any (az7)))/\MQ w.heap.size w w':=by
 rw[<-ahq];have k:M6 _:=aBN v l w hv;obtain⟨e,d⟩:∃e,e=X6 (l.findIdx (az7)) l.length:=⟨_,rfl⟩;rw[<-d]at k⊢;clear d hv;go_enter Tryz.func35,Tryz.ntmps35
 go_wp2_with fail
 refine Nd k.out ?_;rintro r p ⟨rfl,j⟩;have m:M6 _:=j;clear j;go_wp2;go_ret;exact⟨rfl,m.out⟩
theorem aBy(v:M7)(l:List Ou)(w:MO)(hv:aBm w v l) :
  Ni MK 19 #[v] w fun r w'=>r=MN (MF ME (if az4 l then 2 else 0))/\MQ w.heap.size w w':=by
 have e:M6 _:=aBF v l w hv;have k:l.any az7=az4 l:=rfl;rw[k]at e;clear k hv;cases h:az4 l
 ·rw[h]at e
  go_enter Tryz.func19,Tryz.ntmps19
  go_wp2_with fail
  refine Nd e.out ?_;rintro r m ⟨rfl,d⟩;have j:M6 _:=d;clear d;go_wp2;go_ret;exact⟨rfl,j.out⟩
 ·rw[h]at e
  go_enter Tryz.func19,Tryz.ntmps19
  go_wp2_with fail
  refine Nd e.out ?_;rintro r m ⟨rfl,d⟩;have j:M6 _:=d;clear d;go_wp2;go_ret;exact⟨rfl,j.out⟩
def aBk(w:MO)(v:M7)(l:List Int):Prop:=XB w v l.length (WR l)
theorem aBL(w:MO):aBk w (MG MH 0 0) []:=Z3 w
theorem aBk.F6{l:List Int}(h:aBk w v l):
  ∃a cap,v=MG a l.length cap/\l.length<=cap/\cap<=NE/\∀i (hi:i<l.length),∃b off,a=MI ⟨b,off,MH⟩/\b<w.heap.size/\w.cell? ⟨b,off+i,MH⟩=MI (MF ME l[i]):=by
 obtain⟨a,cap,d,j,e,k|⟨b,off,k,p,m⟩⟩:=h
 ·exact⟨a,cap,d,j,e,fun i hi=>absurd hi (by omega)⟩
 ·refine⟨a,cap,d,j,e,fun i hi=>⟨b,off,k,p,?_⟩⟩
  rw[m i (by rw[Zv];exact hi)];simp[WR,hi]
theorem aBp{l:List Int}{n:Nat}(h:Xj 3 n w g l)(hm:n<=NE):aBk w (MG (MI ⟨g,0,MH⟩) n n) l:=by
 obtain⟨d,rfl⟩:=h;refine⟨_,l.length,rfl,MV _,hm,NF ⟨g,0,rfl,(Array.getElem?_eq_some_iff.1 d).1,fun i hi=>?_⟩⟩;rw[Oa,MW w g i _ 3 (0,0) d];simp
abbrev aBK(s g:Int):Value:=Ny #[MF ME s,MF ME g]
theorem aBT:laidOutB MK=true:=aCN (aCO Tryz.checked.wellFormed (by kernel_rfl)) (by kernel_rfl)
theorem aCh:(match Tryz.prog.underlying 96 with|some (.array _ _)|some (.struct _)=>Nw|_=>Nb)=true:=by rw[ay5]
theorem aBS:Keyed MK 96:=Keyed.of_law (deep_law_laid aBT (m:=2) (by omega) (M2 (by kernel_rfl)) (by kernel_rfl) aCh)
def aBP(P:O8)(t:NU)(s g:Int):Lit:=(keyOf P t (aBK s g)).getD (.bool Nb)
theorem aBR{s g:Int}(hs:(N6 ME s).wf=Nw)(hg:(N6 ME g).wf=Nw):keyOf MK 96 (aBK s g)=MI (aBP MK 96 s g):=by
 have r:Tryz.prog.keyType 96=true:=by kernel_rfl
 have q:(aBK s g).formed MK 96=true:=by
  have j:Tryz.prog.cellsOf 96=2:=by kernel_rfl
  simp[Value.formed,ay5,j]
 obtain⟨n,p⟩:∃n,Tryz.prog.types.size+1=n+2:=⟨Tryz.prog.types.size-1,by have:1<=Tryz.prog.types.size:=M2 (by kernel_rfl);omega⟩;have d:∃e,Tryz.prog.keyLits (n+2) 96 (aBK s g).cells.toList=MI e:=by
  have j:Tryz.prog.cellsOf 96=2:=by kernel_rfl
  have k:Tryz.prog.cellsOf 3=1:=by kernel_rfl
  refine⟨[N6 ME s,N6 ME g],?_⟩;unfold aCR;rw[ay5];simp[Value.cells,j,k,aCR,Ol,hs,hg]
 obtain⟨e,d⟩:=d;have m:keyOf MK 96 (aBK s g)=MI (.string (keyBytes e)):=by
  unfold keyOf;rw[ay5];simp only[r,q,Bool.and_self,if_true];rw[p,d];rfl
 unfold aBP;rw[m];rfl
theorem aBQ{s g s' g':Int}(hs:(N6 ME s).wf=Nw)(hg:(N6 ME g).wf=Nw)(hs':(N6 ME s').wf=Nw)(hg':(N6 ME g').wf=Nw)(h:aBP MK 96 s g=aBP MK 96 s' g'):s=s'/\g=g':=by
 have d:=aBR hs hg;have e:=aBR hs' hg';rw[h]at d;have:=aBS.inj d e
 simpa using this
section
variable {H:Type}
structure aBl(D:DataW H)(M:List Ou):Prop where
 map:IsMap D
 wf:∀o∈M,azY o
 apart:M.Pairwise fun p q=>¬(p.slot=q.slot/\p.gen=q.gen)
 keys:∀q,has D q=Nw↔∃o∈M,q=aBP MK 96 o.slot o.gen
 vals:∀o∈M,∀z,D.atKey (aBP MK 96 o.slot o.gen) z=.lit (N6 ME o.be)
theorem aBl.aCt:aBl (.map []:DataW H) []where
 map:=Go.Maps.isMap_empty
 wf:=by simp
 apart:=List.Pairwise.nil
 keys:=by intro q;simp[has]
 vals:=by simp
theorem aBl.aCs{D:DataW H}{M:List Ou}(h:aBl D M){o:Ou}(ho:o∈M):(N6 ME o.slot).wf=Nw/\(N6 ME o.gen).wf=true:=⟨h.wf o ho _ (by simp),h.wf o ho _ (by simp)⟩
theorem aBG{o p:Ou}:aAi o p=Nw↔p.slot=o.slot/\p.gen=o.gen:=by simp[aAi]
theorem aBl.IX{D:DataW H}{M:List Ou}(h:aBl D M)(o:Ou)(hs:(N6 ME o.slot).wf=Nw)(hg:(N6 ME o.gen).wf=Nw):aBl (D.del (aBP MK 96 o.slot o.gen)) (M.filter fun p=>!aAi o p)where
 map:=h.map.del _
 wf:=fun p d=>h.wf p (List.mem_filter.1 d).1
 apart:=h.apart.filter _
 keys:=by
  intro q
  by_cases e:q=aBP MK 96 o.slot o.gen
  ·subst e
   rw[Go.Maps.has_del_same];constructor
   ·intro h;cases h
   ·rintro⟨p,d,e⟩
    obtain⟨d,j⟩:=List.mem_filter.1 d;have k:=h.aCs d;have:=aBQ hs hg k.1 k.2 e;have m:aAi o p=true:=aBG.2 ⟨this.1.symm,this.2.symm⟩;rw[m]at j;cases j
  ·rw[aCD e,h.keys q]
   constructor
   ·rintro⟨p,d,rfl⟩
    refine⟨p,List.mem_filter.2 ⟨d,?_⟩,rfl⟩;cases j:aAi o p
    ·rfl
    ·have:=aBG.1 j
     exact absurd (by rw[this.1,this.2]) e
   ·rintro⟨p,d,rfl⟩
    exact⟨p,(List.mem_filter.1 d).1,rfl⟩
 vals:=by
  intro p d z;obtain⟨d,j⟩:=List.mem_filter.1 d;have k:=h.aCs d;rw[Go.Maps.atKey_del_other]
  ·exact h.vals p d z
  ·intro e
   have:=aBQ k.1 k.2 hs hg e;have m:aAi o p=true:=aBG.2 this;rw[m]at j;cases j
theorem aBl.Gd{D:DataW H}{M:List Ou}(h:aBl D M)(o:Ou)(ho:azY o):aBl (D.put (aBP MK 96 o.slot o.gen) (.lit (N6 ME o.be))) ((M.filter fun p=>!aAi o p)++[o]):=by
 have m:(N6 ME o.slot).wf=true:=ho _ (by simp);have r:(N6 ME o.gen).wf=true:=ho _ (by simp);have u:=aBS.key (aBR m r);have d:=h.IX o m r;refine⟨h.map.put _ _,?_,?_,?_,?_⟩
 ·intro p j
  rcases List.mem_append.1 j with j|j
  ·exact d.wf p j
  ·rw[PY]at j;subst j;exact ho
 ·refine List.pairwise_append.2 ⟨d.apart,List.pairwise_singleton _ _,fun p j q hq e=>?_⟩
  rw[PY]at hq;subst hq;have k:=(List.mem_filter.1 j).2;rw[aBG.2 e]at k;cases k
 ·intro q
  by_cases e:q=aBP MK 96 o.slot o.gen
  ·subst e
   rw[Go.Maps.has_put_same h.map u];exact⟨fun _=>⟨o,by simp,rfl⟩,fun _=>rfl⟩
  ·rw[Go.Maps.has_put_other e,<-aCD e,d.keys q]
   constructor
   ·rintro⟨p,j,rfl⟩
    exact⟨p,List.mem_append_left _ j,rfl⟩
   ·rintro⟨p,j,rfl⟩
    rcases List.mem_append.1 j with j|j
    ·exact⟨p,j,rfl⟩
    ·rw[PY]at j;subst j;exact absurd rfl e
 ·intro p j z
  rcases List.mem_append.1 j with j|j
  ·have t:=d.aCs j
   have k:=(List.mem_filter.1 j).2;rw[Go.Maps.atKey_put_other]
   ·exact h.vals p (List.mem_filter.1 j).1 z
   ·intro e
    have:=aBQ t.1 t.2 m r e;rw[aBG.2 this]at k;cases k
  ·rw[PY]at j
   subst j;rw[Go.Maps.atKey_put_same h.map u]
end
theorem aCg(v:M7)(l:List Ou)(w:MO)(hv:aBm w v l)(hwf:∀o∈l,azY o):
  Ni MK 20 #[v] w fun r w'=>∃(n:Nat) (D:DataW H),r=MN (P0 (MI w.heap.size))/\w'.ownsMap MK 96 (aCB MK 3) w.heap.size n D/\aBl D (aAx l)/\MQ w.heap.size w w':=by
 obtain⟨p,c,rfl,hc,hm,pv⟩:=aBm.F6 hv;unfold NE at hm;have HV:M6 (_/\_):=⟨pv,hwf⟩;clear hv pv hwf;have d7:=@run_makeMap MK;go_enter Tryz.func20,Tryz.ntmps20;go_wp2
 go_loopw [9] (fun i wr=>∃(k n:Nat) (D:DataW H),i=MF ME k/\k<=l.length/\n<=k/\wr.ownsMap MK 96 (aCB MK 3) w.heap.size n D/\aBl D (aAx (l.take k))/\MQ w.heap.size w wr) (fun i _=>l.length-(intOf i).toNat)
 case atStart=>exact⟨0,0,.map [],rfl,Nx _,MV _,World.ownsMap_made _ _ _ _,aBl.aCt,WQ w⟩
 case round =>
  obtain⟨k,n,D,rfl,hk,hn,Z,O,t⟩:=hrel;clear d7
  by_cases hlt:k<l.length
  ·obtain⟨F,off,rfl,z,c1,c2,c3,c4,c5,c6,c7⟩:=HV.out.1 k hlt
   have e1:=(t.cell (p:=⟨F,off+k*7,MH⟩) z).trans c1;have e2:=(t.cell (p:=⟨F,off+k*7+1,MH⟩) z).trans c2;have e3:=(t.cell (p:=⟨F,off+k*7+2,MH⟩) z).trans c3;have e4:=(t.cell (p:=⟨F,off+k*7+3,MH⟩) z).trans c4;have e5:=(t.cell (p:=⟨F,off+k*7+4,MH⟩) z).trans c5;have e6:=(t.cell (p:=⟨F,off+k*7+5,MH⟩) z).trans c6;have e7:=(t.cell (p:=⟨F,off+k*7+6,MH⟩) z).trans c7;have J:=HV.out.2 _ (Nk hlt);obtain⟨⟨kd,sl,m,e,rq,cd,wy⟩,hx⟩:∃x,x=l[k]:=⟨_,rfl⟩;have c8:=aCd hlt hx;rw[<-hx]at e1 e2 e3 e4 e5 e6 e7 J
   dsimp only at e1 e2 e3 e4 e5 e6 e7
   have e0:(k:Int)<(l.length:Int):=by omega
   obtain⟨E,M⟩:∃E,E=wr.alloc (aB2 ⟨kd,sl,m,e,rq,cd,wy⟩):=⟨_,rfl⟩;have b5:MQ wr.heap.size wr E:=by rw[M];exact WQ wr
   have hX:E.heap[wr.heap.size]?=MI (aB2 ⟨kd,sl,m,e,rq,cd,wy⟩):=by rw[M];exact M1 _ _
   have b9:=t.trans (b5.mono t.size);have a9:E.ownsMap MK 96 (aCB MK 3) w.heap.size n D:=by rw[M];exact Z.alloc _
   have hs:(N6 ME sl).wf=true:=J _ (by simp);have hg:(N6 ME m).wf=true:=J _ (by simp);have d0:(N6 ME e).wf=true:=J _ (by simp);have a8:=aBR hs hg;have d:M6 (_/\_/\_/\_/\_/\_/\_/\_):=⟨b9,a9,O,hX,M,c8,J,a8⟩;clear t Z O hX c8 J a8 M c1 c2 c3 c4 c5 c6 c7 z hx b5 b9 a9;obtain⟨k0,k1,k2,k3,k4,k5,k6,d6⟩:=aB3 d.out.2.2.2.1
   by_cases hu:kd=1\/kd=5
   ·have B:aAn ⟨kd,sl,m,e,rq,cd,wy⟩=true:=by simp[aAn];exact hu
    have u:=aAC ⟨kd,sl,m,e,rq,cd,wy⟩ B (l.take k);rw[<-d.out.2.2.2.2.2.1]at u;have HH:M6 (∀W,MQ E.heap.size E W->Ni MK 37 #[aB1 ⟨kd,sl,m,e,rq,cd,wy⟩] W fun r w'=>∃I,r=MN (aBK sl m)/\w'.cell? ⟨wr.heap.size,3,MH⟩=MI (MF ME e)/\(Instr.mapUpdate 93 (P0 (MI w.heap.size)) (aBK sl m) (MF ME e)).run MK w'=.ok () I/\M6 (I.ownsMap MK 96 (aCB MK 3) w.heap.size (n+1) (D.put (aBP MK 96 sl m) (.lit (N6 ME e)))/\MQ w.heap.size w I)):=fun W hW=>by
     refine(aBJ ⟨kd,sl,m,e,rq,cd,wy⟩ W).mono ?_;rintro r w' ⟨rfl,q,U,rfl⟩;have a3:=hW.trans ((ae3 W q U).mono hW.size);have d4:(Oj (W.drewN q) U).ownsMap MK 96 (aCB MK 3) w.heap.size n D:=by
      obtain⟨es,a0,h1,h2⟩:=d.out.2.1;exact⟨es,a0,WO h1 a3,h2⟩
     obtain⟨I,hr,d5,d9⟩:=d4.update aBS aCH (by unfold NE;omega) d.out.2.2.2.2.2.2.2 (plainElem_int Ol d0);have b3:=d.out.1.trans (a3.mono d.out.1.size);exact⟨I,rfl,(a3.cell (p:=⟨wr.heap.size,3,MH⟩) d6).trans k3,hr,d5,b3.grown d9 b3.size (fun j hj=>by cases hj;exact MV _)⟩
    have N:M6 _:=u;clear B u;rcases hu with rfl|rfl
    all_goals
     go_wp2;rw[<-d.out.2.2.2.2.1]
     go_region_with (first|(go_at_call 37;refine(HH.out _ ?hbW).mono ?_;(case hbW=>first|exact(MY _ _).drew|exact Below.refl _ _);rintro r w4 ⟨I,rfl,d8,d3,h5⟩))
     all_goals
      clear d8 d3;go_wp2
      go_roundw
      case rel =>
       refine⟨k+1,n+1,_,by simp,hlt,by omega,h5.out.1,?_,h5.out.2⟩;rw[N.out];exact d.out.2.2.1.Gd (⟨_,sl,m,e,rq,cd,wy⟩:Ou) d.out.2.2.2.2.2.2.1
      case measure=>simp[intOf];omega
   ·by_cases hd:kd=6\/kd=7
    ·have B:aAn ⟨kd,sl,m,e,rq,cd,wy⟩=false:=by simp[aAn];omega
     have L:aAm ⟨kd,sl,m,e,rq,cd,wy⟩=true:=by simp[aAm];exact hd
     have u:=aAA ⟨kd,sl,m,e,rq,cd,wy⟩ B L (l.take k);rw[<-d.out.2.2.2.2.2.1]at u;have N:M6 _:=u;clear B L u hu;rcases hd with rfl|rfl
     all_goals
      go_wp2_with fail
      rw[<-d.out.2.2.2.2.1];refine(aBJ ⟨_,sl,m,e,rq,cd,wy⟩ _).mono ?_;rintro r w4 ⟨rfl,q,U,c9⟩;have S:=ae3 E q U;rw[<-c9]at S;have b8:w4.ownsMap MK 96 (aCB MK 3) w.heap.size n D:=by
       obtain⟨es,a0,h1,h2⟩:=d.out.2.1;exact⟨es,a0,WO h1 S,h2⟩
      have H4:M6 (_/\_):=⟨b8,d.out.1.trans (S.mono d.out.1.size)⟩;clear b8 S c9
      go_wp2_with (at_delete;refine wpList_delete_own _ rfl _ _ 93 96 rfl 3 aBS aCH _ w.heap.size n _ rfl H4.out.1 _ _ rfl d.out.2.2.2.2.2.2.2 ?_;intro I a5 a4)
      have H5:M6 (_/\_):=⟨a5,H4.out.2.grown a4.grown H4.out.2.size (fun j hj=>by cases hj;exact MV _)⟩;clear a5 a4;go_wp2
      go_roundw
      case rel =>
       refine⟨k+1,n,_,by simp,hlt,by omega,H5.out.1,?_,H5.out.2⟩;rw[N.out];exact d.out.2.2.1.IX (⟨_,sl,m,e,rq,cd,wy⟩:Ou) hs hg
      case measure=>simp[intOf];omega
    ·have B:aAn ⟨kd,sl,m,e,rq,cd,wy⟩=false:=by simp[aAn];omega
     have L:aAm ⟨kd,sl,m,e,rq,cd,wy⟩=false:=by simp[aAm];omega
     have u:=aAB ⟨kd,sl,m,e,rq,cd,wy⟩ B L (l.take k);rw[<-d.out.2.2.2.2.2.1]at u;have N:M6 _:=u;have h1:¬kd=1:=by omega
     have h5:¬kd=5:=by omega
     have h6:¬kd=6:=by omega
     have h7:¬kd=7:=by omega
     clear B L u hu hd;go_wp2;rw[<-d.out.2.2.2.2.1]
     go_roundw
     case rel =>
      refine⟨k+1,n,D,by simp,hlt,by omega,d.out.2.1,?_,d.out.1⟩;rw[N.out];exact d.out.2.2.1
     case measure=>simp[intOf];omega
  ·obtain rfl:k=l.length:=by omega
   rw[NT]at O;have H2:M6 (_/\_/\_):=⟨Z,O,t⟩;clear Z O t;go_wp2;go_ret;exact⟨n,D,rfl,H2.out⟩
end
section
open Go.Maps (has Keyed IsMap)
theorem aBC{o:Ou}{f f':Ou->Bool}(hf:f o=Nb)(hf':f' o=Nw)(b:Int):∀(M:List Ou),M.Nodup->o∈M->(∀p∈M,p≠o->f' p=f p)->M.countP (fun p=>f' p && p.be == b)=M.countP (fun p=>f p && p.be == b)+if o.be == b then 1 else 0
 |q::M,j,ho,hoth=>by
  obtain⟨r,j⟩:=List.nodup_cons.1 j;rw[aCC,aCC]
  by_cases e:q=o
  ·subst e
   have k:M.countP (fun p=>f' p && p.be == b)=M.countP (fun p=>f p && p.be == b):=by
    apply List.countP_congr;intro p d;rw[hoth p (by simp[d]) (fun e=>r (e ▸ d))]
   rw[k,hf,hf'];simp
  ·have m:o∈M:=by
    rcases List.mem_cons.1 ho with h|h
    ·exact absurd h.symm e
    ·exact h
   rw[aBC hf hf' b M j m (fun p d=>hoth p (by simp[d])),hoth q (by simp) e];omega
theorem aBV(l:List Ou):(aAx l).Nodup:=(aAy l).imp fun h e=>h (by rw[e];exact⟨rfl,rfl⟩)
theorem aBU:∀l:List Ou,(aAx l).length<=l.length
 | []=>by simp[aAx]
 |o::l=>by
  unfold aAx;have:=aBU l
  split
  ·simp;omega
  ·simp;omega
def aBq(P:O8)(t:NU)(M:List Ou)(left:Lit->Bool):List Int:=(Pm 12).map fun b:Nat=>((M.countP (fun o=>!left (aBP P t o.slot o.gen) && o.be == (b:Int)):Nat):Int)
theorem aBt(M:List Ou)(left:Lit->Bool):(aBq MK 96 M left).length=12:=by simp[aBq]
theorem aBs(M:List Ou)(left:Lit->Bool)(b:Nat)(hb:b<12):(aBq MK 96 M left)[b]'(by rw[aBt];exact hb)=((M.countP (fun o=>!left (aBP MK 96 o.slot o.gen) && o.be == (b:Int)):Nat):Int):=by simp[aBq]
theorem aBr(l:List Ou)(left:Lit->Bool)(h:∀q,left q=Nb):aBq MK 96 (aAx l) left=aAb l:=by
 unfold aBq aAb;simp[h]
theorem aBu{H:Type}{D:DataW H}{M:List Ou}(h:aBl D M):aBq MK 96 M (has D)=Nj 12 0:=by
 apply PX
 ·simp[aBq]
 ·intro j d k
  rw[aBt]at d;rw[aBs _ _ _ d,List.getElem_replicate];have:M.countP (fun o=>!has D (aBP MK 96 o.slot o.gen) && o.be == (j:Int))=0:=by
   rw[List.countP_eq_zero];intro o e;rw[(h.keys _).2 ⟨o,e,rfl⟩];simp
  rw[this];rfl
theorem aBv{H:Type}{D:DataW H}(h:aBl D (aAx l)){left:Lit->Bool}{o:Ou}(ho:o∈aAx l)(hl:left (aBP MK 96 o.slot o.gen)=Nw)(b:Nat)(hb:o.be=(b:Int))(hb12:b<12):
  aBq MK 96 (aAx l) (fun z=>left z && !z.sameKey (aBP MK 96 o.slot o.gen))=(aBq MK 96 (aAx l) left).set b ((((aAx l).countP (fun o=>!left (aBP MK 96 o.slot o.gen) && o.be == (b:Int)):Nat):Int)+1):=by
 have d:=h.aCs ho;have B:(aBP MK 96 o.slot o.gen).sameKey (aBP MK 96 o.slot o.gen)=true:=WideAt.sameKey_self (aBS.key (aBR d.1 d.2));apply PX
 ·simp[aBq]
 ·intro j q L
  rw[aBt]at q;rw[aBs _ _ _ q,Pc,aBs _ _ _ q];have:=aBC (o:=o) (f:=fun o=>!left (aBP MK 96 o.slot o.gen)) (f':=fun p=>!(left (aBP MK 96 p.slot p.gen) && !(aBP MK 96 p.slot p.gen).sameKey (aBP MK 96 o.slot o.gen))) (by simp[hl]) (by simp[B]) (j:Int) (aAx l) (aBV l) ho (fun p hp hne=>by
   have E:aBP MK 96 p.slot p.gen≠aBP MK 96 o.slot o.gen:=by
    intro e;have t:=h.aCs hp;have m:=aBQ t.1 t.2 d.1 d.2 e;have J:=h.apart;rw[List.pairwise_iff_forall_sublist]at J;obtain⟨i,x,rfl⟩:=NV hp;obtain⟨k,u,rfl⟩:=NV ho;have r:=List.pairwise_iff_getElem.1 h.apart;rcases Nat.lt_trichotomy i k with F|rfl|I
    ·exact r i k x u F m
    ·exact hne rfl
    ·exact r k i u x I ⟨m.1.symm,m.2.symm⟩
   simp[Go.Maps.sameKey_ne E])
  rw[this,hb]
  by_cases e:b=j
  ·subst e
   simp
  ·rw[Nf e]
   have:¬((b:Int)=(j:Int)):=by omega
   simp[this]
theorem aBW{M:List Ou}{left:Lit->Bool}{o:Ou}(ho:o∈M)(hl:left (aBP MK 96 o.slot o.gen)=Nw)(b:Int):M.countP (fun o=>!left (aBP MK 96 o.slot o.gen) && o.be == b)<M.length:=by
 refine Nat.lt_of_le_of_ne aCv fun e=>?_
 have:=List.countP_eq_length.1 e o ho;simp[hl]at this
theorem aBI(w:MO)(b i:Nat)(v:M7):w.grownBy (w.setCell ⟨b,i,MH⟩ v) (MI b):=
 ⟨rfl,rfl,rfl,by simp[Q4],fun k _ hne=>MU _ _ _ _ (fun e=>hne (by rw[e]))⟩
def aBj(O:List Int×Int)(w:MO)(r:Ending)(w':MO):Prop:=∃p c,r=MN (Nv #[MG p O.1.length c,MF ME O.2])/\aBk w' (MG p O.1.length c) O.1/\MQ w.heap.size w w'
theorem aBZ:∀W,(aCx 34 (MF ME 12) (MF ME 12)).run MK W=.ok (MG (MI ⟨W.heap.size,0,MH⟩) 12 12) (W.alloc (MP (WR (Nj 12 0)).toArray 3)):=fun W=>by kernel_rfl
theorem aBw(v:M7)(l:List Ou)(w:MO)(hv:aBm w v l)(hwf:∀o∈l,azY o) :
  Ni MK 8 #[v] w (aBj (aAd l) w):=by
 obtain⟨p,c,rfl,hc,hm⟩:=Xw.Ga hv;unfold NE at hm;have Z:M6 (_/\_):=⟨hv,hwf⟩;clear hv hwf;obtain⟨g3,a4⟩:∃z,z=(WR (Nj 12 0)).toArray:=⟨_,rfl⟩;have b5:∀W,(aCx 34 (MF ME 12) (MF ME 12)).run MK W=.ok (MG (MI ⟨W.heap.size,0,MH⟩) 12 12) (W.alloc (MP g3 3)):=by rw[a4];exact aBZ
 have HZ:M6 _:=a4;clear a4;go_enter Tryz.func8,Tryz.ntmps8
 go_wp2_with fail
 refine(aBz _ l _ Z.out.1).mono ?_;rintro r w1 ⟨rfl,N⟩;cases hbad:az3 l
 ·rw[Nf PE]
  have F:M6 (_/\_):=⟨N,hbad⟩;clear N hbad
  go_wp2_with fail
  refine(aBy _ l _ (Z.out.1.below F.out.1)).mono ?_;rintro r d ⟨rfl,U⟩;cases hbb:az4 l
  ·rw[Nf PE]
   have B:aAd l=(aAb l,0):=by unfold aAd;rw[F.out.2,hbb];rfl
   have S:=F.out.1.trans (U.mono F.out.1.size);obtain⟨q,O⟩:∃q,q=d.alloc (MP g3 3):=⟨_,rfl⟩;have b3:MQ d.heap.size d q:=by rw[O];exact WQ d
   have e8:Xj 3 12 q d.heap.size (Nj 12 0):=by rw[O,HZ.out];exact⟨M1 _ _,by simp⟩
   have g5:=Z.out.1.below (S.trans (b3.mono S.size));have e:M6 (_/\_/\_/\_/\_/\_/\_):=⟨B,S,b3,e8,g5,hbb,O⟩;clear B S b3 e8 g5 hbb U O
   go_wp2_with fail
   rw[<-e.out.2.2.2.2.2.2];refine(aCg (H:=Unit) _ l _ e.out.2.2.2.2.1 Z.out.2).mono ?_;rintro r w4 ⟨n,D,rfl,a3,hM,b9⟩;have f8:=e.out.2.2.2.1.below b9;have d8:=e.out.2.2.1.trans (b9.mono e.out.2.2.1.size);have i8:d.heap.size<q.heap.size:=e.out.2.2.2.1.lt;have j1:=a3.lt;have u:M6 (_/\_/\_/\_):=⟨a3,hM,f8,d8⟩;clear a3 hM b9 f8 d8 b5
   go_wp2_with (at_range;refine wpList_range_own _ rfl _ 93 rfl 96 3 aBS aCH _ q.heap.size n D rfl u.out.1 ?_;intro w5 d5 d3 i7)
   have h8:MQ d.heap.size d w5:=u.out.2.2.2.grown d3 u.out.2.2.2.size (fun j hj=>by cases hj);have f9:Xj 3 12 w5 d.heap.size (aBq MK 96 (aAx l) (has D)):=by
    rw[aBu u.out.2.1];exact u.out.2.2.1.Gf (d3.block _ u.out.2.2.1.lt (by simp))
   have H5:M6 (_/\_/\_):=⟨d5,h8,f9⟩;clear d5 d3 i7 h8 f9
   go_frame
   go_loopw [8] (fun _ wr=>∃k a9,wr.ranges MK 96 (aCB MK 3) q.heap.size w4.heap.size n D k a9/\MQ d.heap.size d wr/\Xj 3 12 wr d.heap.size (aBq MK 96 (aAx l) k)) (fun _ wr=>wr.rangeLeft q.heap.size w4.heap.size)
   case atStart=>exact⟨_,_,H5.out⟩
   case round =>
    obtain⟨k,a9,e9,hb,I⟩:=hrel;have E:M6 (_/\_/\_):=⟨e9,hb,I⟩;clear e9 hb I
    go_wp2_with (at_next;refine wpList_next_ranges (α:=M7) _ rfl _ rfl 96 aBS (aCB MK 3) (fun x=>x) (MF ME) (fun key kl h=>⟨key,rfl⟩) (fun v y hv=>by obtain⟨c,rfl,_⟩:=plainElem_int_inv Ol hv;exact⟨c,rfl⟩) q.heap.size w4.heap.size n D k a9 rfl E.out.1 ?_ ?_)
    ·intro _ g9
     have I:=E.out.2.2;rw[aBr l k g9]at I;have t:M6 _:=I;clear I g9;go_wp2
     go_ret2
     rw[e.out.1];refine⟨MI ⟨d.heap.size,0,MH⟩,12,?_,?_,e.out.2.1.trans (E.out.2.1.mono e.out.2.1.size)⟩
     ·show _=MN (Nv #[MG _ (aAb l).length 12,MF ME 0])
      rw[aAc];rfl
     ·show aBk _ (MG _ (aAb l).length 12) (aAb l)
      rw[aAc];exact aBp t.out (by unfold NE;omega)
    ·intro x cv kx y1 y2 w6 i2 i5 d4 g4 a8 d9 d7 d0 i4 j4
     obtain⟨o,M,e0⟩:=(u.out.2.1.keys kx).1 (Go.Maps.has_true_of_atKey a8);have a0:=u.out.2.1.vals o M (.lit (.bool Nb));rw[<-e0,a8]at a0;obtain⟨j2,i3,hy,i6⟩:=plainElem_int_inv Ol g4;cases i3;cases hy;have f7:cv=o.be:=by simpa using a0
     have g0:=az8 (az5 e.out.2.2.2.2.2.1 (aAz M).1);obtain⟨b,c9⟩:=NL g0.1;have a5:b<12:=by omega
     rw[c9]at f7;subst f7;subst e0;have J:Xj 3 12 w6 d.heap.size (aBq MK 96 (aAx l) k):=E.out.2.2.Gf (d0.block _ E.out.2.2.lt (by simp;omega));have i0:MQ d.heap.size d w6:=E.out.2.1.grown d0 E.out.2.1.size (fun j hj=>by cases hj;omega);have h9:=J.F7 b (by rw[aBt];exact a5);have j5:=J.Gu b;have d6:=aBs (aAx l) k b a5;have c8:=aBv u.out.2.1 M d4 b c9 a5;rw[d6]at h9;have g8:(aAx l).countP (fun o=>!k (aBP MK 96 o.slot o.gen) && o.be == (b:Int))<=l.length:=Nm aCv (aBU l);obtain⟨m,b8⟩:∃m,m=(aAx l).countP (fun o=>!k (aBP MK 96 o.slot o.gen) && o.be == (b:Int)):=⟨_,rfl⟩;rw[<-b8]at h9 c8 g8;have j3:m<l.length:=by rw[b8];exact M8 (aBW M d4 (b:Int)) (aBU l)
     have j0:(b:Int)<12:=by omega
     have i9:=J.lt;have t:M6 (_/\_/\_/\_/\_/\_):=⟨J,i0,c8,d9,d7,E.out.1⟩;clear J i0 c8 d9 d7 d6 b8 a8 a0 g0 g4 i6 i5 d4 M c9 d0 i4 g8;go_wp2
     go_roundw
     case rel =>
      refine⟨_,i2,t.out.2.2.2.1.kept (aBI _ _ _ _) ?_ ?_,t.out.2.1.setCell (p:=⟨d.heap.size,b,MH⟩) (MV _) _,?_⟩
      ·simp;omega
      ·simp;omega
      ·rw[t.out.2.2.1]
       exact t.out.1.F4 b _
     case measure =>
      rw[t.out.2.2.2.2.2.left_eq,(t.out.2.2.2.1.kept (aBI _ d.heap.size b _) (by simp;omega) (by simp;omega)).left_eq];exact t.out.2.2.2.2.1
  ·rw[Nh rfl]
   have B:aAd l=([],2):=by unfold aAd;rw[F.out.2,hbb];rfl
   have L:M6 (_/\_):=⟨F.out.1.trans (U.mono F.out.1.size),B⟩;clear hbb B U b5;go_wp2
   go_ret2
   rw[L.out.2];exact⟨MH,0,rfl,aBL _,L.out.1⟩
 ·rw[Nh rfl]
  have B:aAd l=([],5):=by unfold aAd;rw[hbad];rfl
  have L:M6 (_/\_):=⟨N,B⟩;clear hbad B N b5;go_wp2
  go_ret2
  rw[L.out.2];exact⟨MH,0,rfl,aBL _,L.out.1⟩
end
theorem aCa{k:Nat}(hk:k<l.length):aAO (l.take (k+1))=aAO (l.take k)++if aAN l[k]then [l[k]]else []:=by
 rw[M9 hk,aAP]
theorem aB9(l:List Ou):(aAO l).length<=l.length:=O1 _ _
theorem aCb(kd:Int):(kd=1\/kd=5\/kd=6\/kd=7)\/((kd == 1)=Nb/\(kd == 5)=Nb/\(kd == 6)=Nb/\(kd == 7)=Nb):=by
 by_cases h1:kd=1
 ·exact Nt (Nt h1)
 ·by_cases h5:kd=5
  ·exact Nt (NF (Nt h5))
  ·by_cases h6:kd=6
   ·exact Nt (NF (NF (Nt h6)))
   ·by_cases h7:kd=7
    ·exact Nt (NF (NF (NF h7)))
    ·exact NF ⟨by simp[h1],by simp[h5],by simp[h6],by simp[h7]⟩
theorem aCf{x:Int}(h1:0<=x)(h2:x<=10000000):(N6 ME x).wf=true:=by
 have e:IntKind.i64.min = -9223372036854775808:=by decide
 have d:IntKind.i64.max=9223372036854775807:=by decide
 simp only[Lit.wf,e,d,Po,decide_eq_true_eq];omega
theorem aBx(hs:∀o∈l,az0 o):aAd l=(aAb l,0)/\∀o∈l,azY o:=by
 have e:az3 l=false:=by
  unfold az3;rw[List.any_eq_false];intro o d;obtain⟨e,_,_,_,_,_,k⟩:=hs o d;unfold az9;simp only[Bool.or_eq_true,decide_eq_true_eq];omega
 have j:az4 l=false:=by
  unfold az4;rw[List.any_eq_false];intro o d;obtain⟨_,_,_,m,_⟩:=hs o d;unfold az7;simp only[Bool.or_eq_true,decide_eq_true_eq];omega
 refine⟨by unfold aAd;rw[e,j];rfl,fun o d u hu=>?_⟩;obtain⟨e,j,p,m,q,r,k⟩:=hs o d;simp only[OO,OD,or_false]at hu;rcases hu with rfl|rfl|rfl|rfl|rfl|rfl|rfl <;> exact aCf (by omega) (by omega)
theorem aCe(f:Nat->Int)(hf:∀i,i<16->(N6 ME (f i)).wf=Nw)(ds:List Dd)(hds:∀d∈ds,ajd d){pd:Option Oc}{cd:Nat}(hrow:Xw agP w (MG pd ds.length cd) ds)(hB:Xo w):
  Ni MK 3 #[agc (f 0) (f 1) (f 2) (f 3) (f 4) (f 5) (f 6) (f 7) (f 8) (f 9) (f 10) (f 11) (f 12) (f 13) (f 14) (f 15),MG pd ds.length cd] w fun r w'=>r=MN (M3 Nw)/\MQ w.heap.size w w':=by
 obtain⟨L,hL,eL,i3⟩:=aCc f hf ds hds hrow hB 60 (by omega);rw[eL];obtain⟨W0,d7⟩:∃W0,W0=w.alloc (MP L.toArray 24):=⟨_,rfl⟩;have f7:MQ w.heap.size w W0:=by rw[d7];exact WQ w
 have HI:M6 (_/\_/\_):=⟨hL,f7,i3 W0 f7⟩;obtain⟨nd,j1⟩:∃nd,nd=ds.length:=⟨_,rfl⟩;rw[<-j1]at HI⊢;clear hL eL i3 f7 hf hds hrow hB j1;go_enter Tryz.func3,Tryz.ntmps3
 go_wp2_with ((with_reducible refine O3 rfl 24 (O6 2) rfl w.heap.size 0 ?gx L _ ?gc Tryz.underlying24 ?gd ?gi ?_);(case gx=>rfl);(case gc=>exact afW (M1 _ _));(case gd=>rfl);(case gi=>rw[HI.out.1];exact apz))
 rw[<-d7];clear d7;refine Nd HI.out.2.2 ?_;rintro r w1 ⟨g,V,c,P,rfl,hS,h9,j8,k8,f8⟩;obtain⟨n,hn⟩:∃n,n=P.steps.length:=⟨_,rfl⟩;have B:M6 (_/\_/\_/\_/\_):=⟨hS,h9,hn,(show n<=60+4 by omega),f8⟩;have i6:=HI.out.2.1.trans (hS.bel.mono HI.out.2.1.size);have HB:M6 _:=i6;clear hS h9 j8 k8 f8 hn HI i6;have HO:M6 _:=aB4 B.out.1 (by rw[<-B.out.2.2.1];have:=B.out.2.2.2.1;omega)
 go_wp2_with fail
 refine Nd HO.out ?_;rintro r w2 ⟨p2,q2,rfl,j4,e9⟩;obtain⟨m,hm⟩:∃m,m=(aB5 P).length:=⟨_,rfl⟩;have j5:=B.out.1.on e9;have g4:M6 _:=j5;have HR:M6 (_/\_):=⟨j4,HB.out.trans (e9.mono HB.out.size)⟩;have m3:m<=66560:=by
  have h1:=aB7 B.out.1.rn.runs.chain P.steps.length;have h2:aB6 P P.steps.length=aB5 P:=by unfold aB6 aB5;rw[NT]
  rw[h2,<-hm,<-B.out.2.2.1]at h1;have:=B.out.2.2.2.1;omega
 obtain⟨nf,d3⟩:∃x,x=P.last.fls.length:=⟨_,rfl⟩;have f9:aAF (aB5 P)=(nf:Int):=by rw[d3];exact B.out.1.rn.aCp rfl rfl
 have l8:(nf:Int)<=c.flows:=by
  have h1:=B.out.1.rn.runs.wm.im.bs;have h2:=h1.tabLen;rw[B.out.1.rn.runs.cfg]at h2;have h3:P.last.fls.length=(P.last.fls.map Fl.F8).length:=(N0 _).symm;rw[h1.seats]at h3;have:=ak8 (n:=0) (l:=P.last.tab);omega
 have l6:nf<=40:=by rw[d3];exact B.out.1.rn.runs.wm.im.bs.Gb
 have i0:=B.out.1.rn.aCq rfl rfl;have i2:=B.out.1.rn.good rfl;have S:M6 (m=(aB5 P).length/\_/\_/\_/\_):=⟨hm,f9,d3,(i0:(∀o∈aAO (aB5 P),az0 o)/\∀b:Nat,b<12->(aAb (aAO (aB5 P)))[b]?=MI ((abu P.last.fls (b:Int):Nat):Int)/\(aA7 P.last.tab)[b]?=MI ((abu P.last.fls (b:Int):Nat):Int)),(i2:az3 (aB5 P)=Nb)⟩;rw[<-hm];clear j4 e9 HO j5 hm f9 d3 i0 i2;have g0:M6 _:=aBY _ (aB5 P) w2 HR.out.1 S.out.2.2.2.2 (by rw[S.out.2.1];omega)
 go_wp2_with fail
 rw[S.out.1];refine Nd g0.out ?_;rintro r w3 ⟨rfl,d6⟩;rw[S.out.2.1];have c9:=g4.out.on d6;have k9:w3.cell? ⟨g,34,MH⟩=MI (MG V.u.pt P.last.tab.length V.u.ct):=(c9.pat.aCu 34).trans rfl;have i4:=c9.pat.lt;have HT:M6 _:=aBb (MG V.u.pt P.last.tab.length V.u.ct) P.last.tab w3 c9.pat.last.now.tab;have g8:M6 _:=d6;have j7:M6 (aBa P.last.tab=(aA7 P.last.tab,0)):=by show aBa _=_;unfold aBa;rw[Nh B.out.1.rn.runs.wm.im.bs.tab]
 clear c9 d6 g0
 go_wp2_with fail
 refine Nd HT.out ?_;rw[j7.out];rintro r w4 ⟨p4,q4,rfl,a9,j3⟩;obtain⟨m',j2⟩:∃x,x=(aB5 P).length:=⟨_,rfl⟩;obtain rfl:m'=m:=j2.trans S.out.1.symm;rw[<-S.out.1];have b9:=g8.out.trans (j3.mono g8.out.size);have j0:=g4.out.on b9;obtain⟨ap,m4,hv,e8,d5,hp⟩:=Xw.F6 akV (HR.out.1.below b9);injection hv with q1 q2 q3;have H4:M6 (_/\_/\_/\_/\_):=⟨a9,b9,j0,hp,q1⟩;simp only[aA9];clear a9 j3 b9 j0 hp e8 d5 q1 q2 q3 j2 k9 i4 HT
 go_wp2_with fail
 go_loopw [12,13] (fun ow i wr=>∃(k z:Nat) (po:Option Oc) (co:Nat),ow=MG po z co/\i=MF ME (k:Int)/\k<=m'/\M6 (z=(aAO ((aB5 P).take k)).length/\wr.ownsRow w4.heap.size 67 7 (MG po z co) z (rv Z1 (aAO ((aB5 P).take k)))/\MQ w4.heap.size w4 wr)) (fun _ i _=>m'-(intOf i).toNat)
 case atStart=>exact⟨0,0,MH,0,rfl,rfl,Nx _,rfl,⟨rfl,Nt ⟨rfl,rfl⟩⟩,MY _ _⟩
 case round =>
  obtain⟨k,z,po,co,rfl,rfl,hk,e⟩:=hrel
  by_cases hlt:k<m'
  ·have m0:(k:Int)<(m':Int):=by omega
   have a5:k<(aB5 P).length:=by rw[<-S.out.1];exact hlt
   obtain⟨bo,oo,g5,d4,g9⟩:=H4.out.2.2.2.1 k a5;have c8:=H4.out.2.2.2.2.trans g5;subst c8;have a0:=fun t (ht:t<7)=>(e.out.2.2.cell (p:=⟨bo,oo+k*7+t,MH⟩) d4).trans (g9 t ht)
   have b5:bo<wr.heap.size:=M8 d4 e.out.2.2.size;have E:=aCa a5;obtain⟨x,hx⟩:∃x,x=(aB5 P)[k]:=⟨_,rfl⟩;rw[<-hx]at a0 E;obtain⟨kd,sl,Z,O,rq,cd,wy⟩:=x;have f0:wr.cell? ⟨bo,oo+k*7,MH⟩=MI (MF ME kd):=a0 0 (by omega);have f1:wr.cell? ⟨bo,oo+k*7+1,MH⟩=MI (MF ME sl):=a0 1 (by omega);have f2:wr.cell? ⟨bo,oo+k*7+2,MH⟩=MI (MF ME Z):=a0 2 (by omega);have f3:wr.cell? ⟨bo,oo+k*7+3,MH⟩=MI (MF ME O):=a0 3 (by omega);have f4:wr.cell? ⟨bo,oo+k*7+4,MH⟩=MI (MF ME rq):=a0 4 (by omega);have f5:wr.cell? ⟨bo,oo+k*7+5,MH⟩=MI (MF ME cd):=a0 5 (by omega);have f6:wr.cell? ⟨bo,oo+k*7+6,MH⟩=MI (MF ME wy):=a0 6 (by omega);clear a0 g9 hx g5 d4;rcases aCb kd with l3|⟨h1,h5,h6,h7⟩
   ·have a3:aAN ⟨kd,sl,Z,O,rq,cd,wy⟩=true:=by unfold aAN;simp;omega
    rw[Nh a3]at E;have b3:=aB9 ((aB5 P).take k);rw[NH,<-e.out.1]at b3;rcases l3 with rfl|rfl|rfl|rfl
    ·obtain⟨U,c2,w5,I,J,N,_⟩:=afC akV aqd (by decide) aCy apw rfl e.out.2.1 e.out.2.2.size 29 (⟨1,sl,Z,O,rq,cd,wy⟩:Ou) #[MF ME 1,MF ME sl,MF ME Z,MF ME O,MF ME rq,MF ME cd,MF ME wy] rfl (by omega) (by unfold NE;omega)
     have F:=e.out.2.2.grown N e.out.2.2.size (fun j hj=>(e.out.2.1.lt j hj).1);have q:M6 (_/\_/\_/\_):=⟨I,J,F,E⟩;clear I J F N E b3 a3 b5 a5
     go_wp2_with (at_builtin;(with_reducible refine Z4 rfl _ _ 29 rfl (MG po z co) (MG (MI ⟨wr.heap.size,0,MH⟩) 1 1) (MG (MI ⟨U,0,MH⟩) (z+1) c2) w5 ?hs ?hx ?hr ?_);(case hs=>rfl);(case hx=>rfl);(case hr=>exact q.out.1))
     go_roundw
     case rel=>exact⟨k+1,z+1,MI ⟨U,0,MH⟩,c2,rfl,by simp,hlt,by rw[q.out.2.2.2,Ns,<-e.out.1];rfl,by rw[q.out.2.2.2];exact q.out.2.1,q.out.2.2.1⟩
     case measure=>simp[intOf];omega
    ·obtain⟨U,c2,w5,I,J,N,_⟩:=afC akV aqd (by decide) aCy apw rfl e.out.2.1 e.out.2.2.size 29 (⟨5,sl,Z,O,rq,cd,wy⟩:Ou) #[MF ME 5,MF ME sl,MF ME Z,MF ME O,MF ME rq,MF ME cd,MF ME wy] rfl (by omega) (by unfold NE;omega)
     have F:=e.out.2.2.grown N e.out.2.2.size (fun j hj=>(e.out.2.1.lt j hj).1);have q:M6 (_/\_/\_/\_):=⟨I,J,F,E⟩;clear I J F N E b3 a3 b5 a5
     go_wp2_with (at_builtin;(with_reducible refine Z4 rfl _ _ 29 rfl (MG po z co) (MG (MI ⟨wr.heap.size,0,MH⟩) 1 1) (MG (MI ⟨U,0,MH⟩) (z+1) c2) w5 ?hs ?hx ?hr ?_);(case hs=>rfl);(case hx=>rfl);(case hr=>exact q.out.1))
     go_roundw
     case rel=>exact⟨k+1,z+1,MI ⟨U,0,MH⟩,c2,rfl,by simp,hlt,by rw[q.out.2.2.2,Ns,<-e.out.1];rfl,by rw[q.out.2.2.2];exact q.out.2.1,q.out.2.2.1⟩
     case measure=>simp[intOf];omega
    ·obtain⟨U,c2,w5,I,J,N,_⟩:=afC akV aqd (by decide) aCy apw rfl e.out.2.1 e.out.2.2.size 29 (⟨6,sl,Z,O,rq,cd,wy⟩:Ou) #[MF ME 6,MF ME sl,MF ME Z,MF ME O,MF ME rq,MF ME cd,MF ME wy] rfl (by omega) (by unfold NE;omega)
     have F:=e.out.2.2.grown N e.out.2.2.size (fun j hj=>(e.out.2.1.lt j hj).1);have q:M6 (_/\_/\_/\_):=⟨I,J,F,E⟩;clear I J F N E b3 a3 b5 a5
     go_wp2_with (at_builtin;(with_reducible refine Z4 rfl _ _ 29 rfl (MG po z co) (MG (MI ⟨wr.heap.size,0,MH⟩) 1 1) (MG (MI ⟨U,0,MH⟩) (z+1) c2) w5 ?hs ?hx ?hr ?_);(case hs=>rfl);(case hx=>rfl);(case hr=>exact q.out.1))
     go_roundw
     case rel=>exact⟨k+1,z+1,MI ⟨U,0,MH⟩,c2,rfl,by simp,hlt,by rw[q.out.2.2.2,Ns,<-e.out.1];rfl,by rw[q.out.2.2.2];exact q.out.2.1,q.out.2.2.1⟩
     case measure=>simp[intOf];omega
    ·obtain⟨U,c2,w5,I,J,N,_⟩:=afC akV aqd (by decide) aCy apw rfl e.out.2.1 e.out.2.2.size 29 (⟨7,sl,Z,O,rq,cd,wy⟩:Ou) #[MF ME 7,MF ME sl,MF ME Z,MF ME O,MF ME rq,MF ME cd,MF ME wy] rfl (by omega) (by unfold NE;omega)
     have F:=e.out.2.2.grown N e.out.2.2.size (fun j hj=>(e.out.2.1.lt j hj).1);have q:M6 (_/\_/\_/\_):=⟨I,J,F,E⟩;clear I J F N E b3 a3 b5 a5
     go_wp2_with (at_builtin;(with_reducible refine Z4 rfl _ _ 29 rfl (MG po z co) (MG (MI ⟨wr.heap.size,0,MH⟩) 1 1) (MG (MI ⟨U,0,MH⟩) (z+1) c2) w5 ?hs ?hx ?hr ?_);(case hs=>rfl);(case hx=>rfl);(case hr=>exact q.out.1))
     go_roundw
     case rel=>exact⟨k+1,z+1,MI ⟨U,0,MH⟩,c2,rfl,by simp,hlt,by rw[q.out.2.2.2,Ns,<-e.out.1];rfl,by rw[q.out.2.2.2];exact q.out.2.1,q.out.2.2.1⟩
     case measure=>simp[intOf];omega
   ·have a3:aAN ⟨kd,sl,Z,O,rq,cd,wy⟩=false:=by
     simp only[Oh,ne_eq]at h1 h5 h6 h7;unfold aAN;simp[h1,h5,h6,h7]
    rw[a3,Nf PE,OG]at E;have q:M6 _:=E;clear E a3 b5 a5;go_wp2
    go_roundw
    case rel=>exact⟨k+1,z,po,co,rfl,by simp,hlt,by rw[q.out];exact e.out.1,by rw[q.out];exact e.out.2.1,e.out.2.2⟩
    case measure=>simp[intOf];omega
  ·have i9:(aB5 P).take k=aB5 P:=N1 (by rw[<-S.out.1];omega)
   rw[i9]at e;obtain⟨ho,i7⟩:=aBx (l:=aAO (aB5 P)) S.out.2.2.2.1.1;have hO:Xw Z1 wr (MG po z co) (aAO (aB5 P)):=by
    have h:=e.out.2.1;rw[e.out.1]at h⊢;exact abw h
   have d9:=aBw _ _ wr hO i7;rw[ho]at d9;have HY:M6 _:=d9;clear d9 ho hO i7 i9
   go_wp2_with fail
   refine Nd HY.out ?_;rintro r w6 ⟨p6,q6,rfl,d8,i5⟩;simp only[aAc]at d8⊢;have b8:=e.out.2.2.trans (i5.mono e.out.2.2.size);have a9:=H4.out.1.below b8;have d0:=H4.out.2.2.1.on b8;have l9:w6.cell? ⟨g,35,MH⟩=MI (MG V.u.pf nf V.u.cf):=by rw[S.out.2.2.1];exact(d0.pat.aCu 35).trans rfl
   have i4:=d0.pat.lt;have h8:MQ w.heap.size w w6:=HR.out.2.trans ((H4.out.2.1.trans (b8.mono H4.out.2.1.size)).mono HR.out.2.size);have H6:M6 (_/\_/\_/\_):=⟨a9,d8,d0,h8⟩;clear a9 d8 d0 h8 b8 i5 HY
   go_wp2_with fail
   go_loopw [16] (fun i wr=>∃k:Nat,i=MF ME (k:Int)/\k<=12/\M6 (MQ w6.heap.size w6 wr)) (fun i _=>12-(intOf i).toNat)
   case atStart=>exact⟨0,rfl,Nx _,MY _ _⟩
   case round =>
    obtain⟨j,rfl,hj,HX⟩:=hrel;have a8:=H6.out.2.2.1.on HX.out;have j6:=a8.pat.lt
    by_cases hlj:j<12
    ·have l7:(j:Int)<12:=by omega
     have hw:=S.out.2.2.2.1.2 j hlj;obtain⟨x,hx⟩:∃x:Int,x=((abu P.last.fls (j:Int):Nat):Int):=⟨_,rfl⟩;rw[<-hx]at hw;obtain⟨a1,l5,e8,_,_,i8⟩:=aAZ.F6 H6.out.1;injection e8 with r1 r2 r3;obtain⟨b1,o1,e1,l1,d1⟩:=i8 j (by rw[aA9];exact hlj);rw[(List.getElem?_eq_some_iff.1 hw.2).2]at d1;obtain⟨a2,l4,d5,_,_,c8⟩:=aBk.F6 H6.out.2.1;injection d5 with s1 s2 s3;obtain⟨b2,o2,e2,l2,d2⟩:=c8 j (by rw[aAc];exact hlj);have g3:(aAb (aAO (aB5 P)))[j]?=MI x:=hw.1;rw[(List.getElem?_eq_some_iff.1 g3).2]at d2;have j9:=r1.trans e1;have l0:=s1.trans e2;subst j9 l0;have e0:=a8.pat.Mo;obtain⟨M,hM⟩:∃M,M=(XR V.u P.last).toList:=⟨_,rfl⟩;rw[<-hM]at e0;obtain⟨C,a4,hC1⟩:∃C:MO->Prop,(∀X,C X->MQ wr.heap.size wr X)/\(∀X,MQ wr.heap.size wr X->C X):=⟨_,fun _ h=>h,fun _ h=>h⟩;have HK:M6 ((∀X,C X->X.cell? ⟨b1,o1+j,MH⟩=MI (MF ME x))/\(∀X,C X->X.cell? ⟨b2,o2+j,MH⟩=MI (MF ME x))/\(∀X,C X->X.rangeAt g 17 M)/\(∀X,C X->Ni MK 9 #[Ny M.toArray,MF ME (j:Int)] X fun r w'=>r=MN (MF ME x)/\C w')/\(Tryz.prog.info? 61).map (·.size)=MI M.length/\(∀X,C X->MQ w6.heap.size w6 X)/\C wr.drew):=
      ⟨fun X D=>((a4 X D).cell (p:=⟨b1,o1+j,MH⟩) (M8 l1 HX.out.size)).trans ((HX.out.cell (p:=⟨b1,o1+j,MH⟩) l1).trans d1),
        fun X D=>((a4 X D).cell (p:=⟨b2,o2+j,MH⟩) (M8 l2 HX.out.size)).trans ((HX.out.cell (p:=⟨b2,o2+j,MH⟩) l2).trans d2),
        fun X D=>afr e0 ((a4 X D).block g j6),
        fun X D=>(aBH hM (a8.pat.last.now.below (a4 X D)) B.out.1.rn.runs.wm.im.bs.Gb _).mono fun r w' h=>⟨h.1.trans (by rw[hx]),hC1 w' ((a4 X D).trans (h.2.mono (a4 X D).size))⟩,
        by rw[hM];exact Z0,
        fun X D=>HX.out.trans ((a4 X D).mono HX.out.size),
        hC1 _ (MY _ _).drew⟩
     clear hw g3 hx i8 c8 r2 r3 s2 s3 l1 l2 d1 d2 e0 hM a4 hC1 a8 r1 s1 e1 e2
     go_wp2_with fail
     refine aCj (C:=C) HK.out.2.2.2.2.2.2 ?_
     go_big_quiet_want
     refine aCi (MG (MI ⟨b1,o1,MH⟩) 12 q4) ?_ (fun X hSw=>by go_simp);simp only[Nr,MZ,MT,MS,MJ,ML,MM]
     go_big_quiet_on
     go_big_quiet_want
     refine aCi (MF ME (j:Int)) ?_ (fun X hSw=>by go_simp);simp only[Nr,MZ,MT,MS,MJ,ML,MM]
     go_big_quiet_on
     go_big_quiet_want
     refine aCi (Na (MI ⟨b1,o1+j,MH⟩)) ?_ (fun X hSw=>by go_simp);simp only[Nr,MZ,MT,MS,MJ,ML,MM]
     go_big_quiet_on
     go_big_quiet_want
     refine aCi (MF ME x) ?_ (fun X hSw=>by have h:=HK.out.1 X hSw;go_simp);simp only[Nr,MZ,MT,MS,MJ,ML,MM]
     go_big_quiet_on
     go_big_quiet_want
     refine aCi (MG (MI ⟨b2,o2,MH⟩) 12 q6) ?_ (fun X hSw=>by go_simp);simp only[Nr,MZ,MT,MS,MJ,ML,MM]
     go_big_quiet_on
     go_big_quiet_want
     refine aCi (MF ME (j:Int)) ?_ (fun X hSw=>by go_simp);simp only[Nr,MZ,MT,MS,MJ,ML,MM]
     go_big_quiet_on
     go_big_quiet_want
     refine aCi (Na (MI ⟨b2,o2+j,MH⟩)) ?_ (fun X hSw=>by go_simp);simp only[Nr,MZ,MT,MS,MJ,ML,MM]
     go_big_quiet_on
     go_big_quiet_want
     refine aCi (MF ME x) ?_ (fun X hSw=>by have h:=HK.out.2.1 X hSw;go_simp);simp only[Nr,MZ,MT,MS,MJ,ML,MM]
     go_big_quiet_on
     go_big_quiet_want
     refine aCi (M3 Nb) ?_ (fun X hSw=>by go_simp);simp only[Nr,MZ,MT,MS,MJ,ML,MM]
     go_big_quiet_on
     go_big_quiet_want
     refine aCi (M3 Nb) ?_ (fun X hSw=>by go_simp);simp only[Nr,MZ,MT,MS,MJ,ML,MM]
     go_big_quiet_on
     go_big_quiet_want
     refine aCi (MG (MI ⟨b1,o1,MH⟩) 12 q4) ?_ (fun X hSw=>by go_simp);simp only[Nr,MZ,MT,MS,MJ,ML,MM]
     go_big_quiet_on
     go_big_quiet_want
     refine aCi (MF ME (j:Int)) ?_ (fun X hSw=>by go_simp);simp only[Nr,MZ,MT,MS,MJ,ML,MM]
     go_big_quiet_on
     go_big_quiet_want
     refine aCi (Na (MI ⟨b1,o1+j,MH⟩)) ?_ (fun X hSw=>by go_simp);simp only[Nr,MZ,MT,MS,MJ,ML,MM]
     go_big_quiet_on
     go_big_quiet_want
     refine aCi (MF ME x) ?_ (fun X hSw=>by have h:=HK.out.1 X hSw;go_simp);simp only[Nr,MZ,MT,MS,MJ,ML,MM]
     go_big_quiet_on
     go_big_quiet_want
     refine aCi (Na (MI ⟨g,0,MH⟩)) ?_ (fun X hSw=>by go_simp);simp only[Nr,MZ,MT,MS,MJ,ML,MM]
     go_big_quiet_on
     go_big_quiet_want
     refine aCi (Na (MI ⟨g,0,MH⟩)) ?_ (fun X hSw=>by go_simp);simp only[Nr,MZ,MT,MS,MJ,ML,MM]
     go_big_quiet_on
     go_big_quiet_want
     refine aCi (Na (MI ⟨g,17,MH⟩)) ?_ (fun X hSw=>by go_simp);simp only[Nr,MZ,MT,MS,MJ,ML,MM]
     go_big_quiet_on
     go_big_quiet_want
     refine aCl 61 (O6 145) g 17 M HK.out.2.2.1 HK.out.2.2.2.2.1 Lv ?_;simp only[Nr,MZ,MT,MS,MJ,ML,MM]
     go_big_quiet_on
     go_big_quiet_want
     refine aCi (MF ME (j:Int)) ?_ (fun X hSw=>by go_simp);simp only[Nr,MZ,MT,MS,MJ,ML,MM]
     go_big_quiet_on
     go_big_quiet_want
     refine aCk (MF ME x) 9 #[Ny M.toArray,MF ME (j:Int)] HK.out.2.2.2.1 ?_;simp only[Nr,MZ,MT,MS,MJ,ML,MM]
     go_big_quiet_on
     go_big_quiet_want
     refine aCi (M3 Nb) ?_ (fun X hSw=>by go_simp);simp only[Nr,MZ,MT,MS,MJ,ML,MM]
     go_big_quiet_on
     go_big_quiet_want
     refine aCi (M3 Nb) ?_ (fun X hSw=>by go_simp);simp only[Nr,MZ,MT,MS,MJ,ML,MM]
     go_big_quiet_on
     refine Oy ?_;intro X D;have HZ:M6 _:=HK.out.2.2.2.2.2.1 X D;clear D;go_wp2
     go_roundw
     case rel=>exact⟨j+1,by simp,hlj,HZ.out⟩
     case measure=>simp[intOf];omega
    ·have c0:wr.cell? ⟨g,0,MH⟩=MI (MF ME c.flows):=(a8.pat.aCu 0).trans rfl
     have HZ:M6 (MQ w.heap.size w wr):=H6.out.2.2.2.trans (HX.out.mono H6.out.2.2.2.size);clear a8;go_wp2;go_ret;exact⟨rfl,HZ.out⟩
end Go.Proofs.YtidlemcdnhbceaaGreatDoor.Q
