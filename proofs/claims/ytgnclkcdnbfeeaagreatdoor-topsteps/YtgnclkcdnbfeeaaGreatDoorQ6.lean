/-
  Contracts of the layers and of core, part 6. Conditions: as each theorem says.
-/
import Derived.BigQuiet
import Derived.Shelf.Spec.SlicesInsert
import Derived.Maps.OwnSet
import Derived.Shelf.SlSortCmp.QuietGrown
import Derived.Deep.CutRange
import Derived.Deep.Upon
import Derived.Test.YtgnclkcdnbfeeaaGreatDoorQ0
open Array renaming length_toList->Om
open Bool renaming false->Nb,true->Nw
open Classical renaming byContradiction->PM
open Decidable renaming decide->Nn
open Go renaming Addr->Oc,Calls->Ni,TypeId->NU,Value->M7,World->MO,bodyPost_ret->Np,cell_grown->Ob,cell_of_row->MW,heap_alloc_new->M1,heap_setCell_same->NI,info_parts->OF,maxLen->NE,results->Pf,wpList_append_lies->O9,wpQuiet_nil->Oy,wp_region_quiet_grown->NQ
open Go.Addr.mk renaming injEq->Q1
open Go.Calls renaming grown_of->NZ,quiet_of->Qe
open Go.Ending renaming returned->MN
open Go.Extern.SlicesOverlaps renaming overlaps->P9
open Go.Fn renaming func->PD
open Go.Instr renaming index->Qy
open Go.IntKind renaming i64->ME,wrap_i64->Ow
open Go.Lit renaming int->N6
open Go.Maps renaming keyOf_int_mk->Qg
open Go.Obj renaming cells->MP
open Go.Proofs.Tryz renaming func112->SP,func127->Ug,func156->SN,func160->VD,func179->UW,func201->ayj,func202->UQ,func203->Wv,func204->azN,func205->Rl,func220->Uh,func221->UU,func223->Um,func243->S5,func244->VT,func42->azU,ntmps112->Su,ntmps127->T6,ntmps156->Ss,ntmps160->Vv,ntmps179->UI,ntmps201->ayb,ntmps202->UD,ntmps203->Wk,ntmps204->azE,ntmps205->Q5,ntmps220->T7,ntmps221->UH,ntmps223->Ub,ntmps243->SD,ntmps244->VK,ntmps42->azO,prog->MK,results127->ax5,results156->R6,underlying198->Ls,underlying283->ay2,underlying3->Ol
open Go.RowKit renaming Below->MQ,Hid->M6,intOf->On
open Go.RowKit.Below renaming heap_alloc->Ov,heap_setCell->MU,refl->MY
open Go.Sort renaming alloc_eq_grow->PQ,grow->Oj
open Go.Value renaming agg->Ny,bool->M3,func->PB,int->MF,map->P0,pointer->Na,slice->MG,tuple->Nv
open Go.Value.slice renaming injEq->N4
open Go.World renaming block_lt_of_cell?->MX,cell?->Nl,cell?_of_block->NG,frozen?->Ng,frozen?_of_block->OM,grownBy_alloc->OL,ownsRow_nil->NY,shape?->QO
open Int renaming tdiv_eq_ediv_of_nonneg->OT,tmod_eq_emod_of_nonneg->Oi
open List renaming append_assoc->OC,append_nil->OG,drop_append->Qa,drop_eq_nil_of_le->PI,ext_getElem?->Ot,flatten_append->PV,flatten_cons->QS,getD->Pq,getElem?_append->Q9,getElem?_cons_succ->N9,getElem?_drop->Pa,getElem?_eq_getElem->MR,getElem?_eq_none->Nz,getElem?_replicate->Pj,getElem?_set_ne->N3,getElem?_set_self->N7,getElem?_take_of_lt->O0,getElem_cons_drop->Pp,getElem_mem->Nk,getElem_of_mem->NV,getElem_set_ne->Pe,getElem_set_self->NW,length_append->Ns,length_cons->Ox,length_drop->NJ,length_map->N0,length_pos_of_mem->Qj,length_set->NA,length_take->NH,map_append->OI,map_congr_left->PU,map_cons->OA,mem_append_right->Qq,mem_cons->OO,mem_cons_of_mem->NB,mem_cons_self->NM,mem_of_getElem?->Nu,mem_or_eq_of_mem_set->OB,nil_append->Oz,nodup_append->Qv,nodup_cons->QJ,perm_middle->QC,range->Pm,replicate->Nj,takeWhile_cons_of_neg->Ru,takeWhile_cons_of_pos->Rv,take_append_drop->Oo,take_append_of_le_length->ZqA,take_left->Qb,take_length->NT,take_of_length_le->N1,take_succ_eq_append_getElem->M9
open List.Sublist renaming append_right->Rz,refl->S3
open Nat renaming le_of_lt->PJ,le_refl->MV,le_trans->Nm,lt_irrefl->PC,lt_of_le_of_lt->Pb,lt_of_lt_of_le->M8,lt_or_ge->Oq,lt_or_gt_of_ne->QM,min_def->PR,not_lt_zero->QH,zero_le->Nx
open Ne renaming symm->Pi
open Option renaming none->MH,some->MI
open Option.some renaming inj->NC,injEq->Qs
open Or renaming inl->Nt,inr->NF
open Prod renaming ext->Q8
namespace Go.Proofs.YtgnclkcdnbfeeaaGreatDoor.Q
set_option linter.unusedVariables false
set_option linter.unusedSimpArgs false
set_option maxHeartbeats 16000000
set_option maxRecDepth 100000
open Go.RowKit
attribute [local go_sem ↓] Go.wp_at_zero Go.wp_at_succ
variable {m:Int}{a c v1 v2 v3 v4:M7}{w':MO}{b g p:Nat}{a1 a2 a3 a4:Oc}{t x:Tm}
def agR{α β:Type}(R:α->β->Prop)(l:List α)(m:List β):Prop:=l.length=m.length/\∀i (h1:i<l.length) (h2:i<m.length),R l[i] m[i]
def Zo(w:MO)(v:M7)(ls:List (List Tm)):Prop:=∃vs,XB w v ls.length vs/\agR (Xz w) vs ls
theorem agR.GV{α β:Type}{R S:α->β->Prop}(hRS:∀a b,R a b->S a b){l:List α}{m:List β}(h:agR R l m):agR S l m:=⟨h.1,fun i h1 h2=>hRS _ _ (h.2 i h1 h2)⟩
theorem Zo.below{w:MO}{v:M7}{ls:List (List Tm)}(h:Zo w v ls)(hb:MQ w.heap.size w w'):Zo w' v ls:=by
 obtain⟨d,e,i⟩:=h;exact⟨d,e.below hb,i.GV (fun _ _ h=>h.below hb)⟩
theorem Zo.F6{w:MO}{v:M7}{ls:List (List Tm)}(h:Zo w v ls) :
  ∃a cap,v=MG a ls.length cap/\ls.length<=cap/\cap<=NE/\∀i (hi:i<ls.length),∃b off u,a=MI ⟨b,off,MH⟩/\b<w.heap.size/\w.cell? ⟨b,off+i,MH⟩=MI u/\Xz w u ls[i]:=by
 obtain⟨o,⟨a,cap,n,j,e,l⟩,d⟩:=h;have q:=d.1;refine⟨a,cap,n,j,e,fun i hi=>?_⟩;obtain⟨r,_⟩|⟨b,off,ha,hb,hcell⟩:=l
 ·omega
 ·exact⟨b,off,o[i]'(by omega),ha,hb,by rw[hcell i (by omega)];exact MR _,d.2 i (by omega) hi⟩
theorem ajp{B:Nat}{a w:MO}(h:MQ B a w)(n:Nat):MQ B a (w.drewN n):=h.trans ⟨rfl,rfl,rfl,MV _,fun _ _=>rfl⟩
def Xq(at' now:Int):Int :=
 if at' / 8=now / 8 then at' % 8 else if at' / 64=now / 64 then 8+at' / 8 % 8 else if at' / 512=now / 512 then 16+at' / 64 % 8 else 24
theorem agV(n:Int)(w:MO):Ni MK 42 #[MF ME n] w fun r w'=>r=MN (M3 (Nn (0<=n/\n<=1099511627776)))/\w'=w:=by
 obtain⟨e,d⟩:∃e,e=Nn (0<=n/\n<=1099511627776):=⟨_,rfl⟩;rw[<-d];have H:M6 _:=d;clear d;cases h1:Nn (0<=n)
 ·go_enter azU,azO
  go_wp2;go_ret;exact⟨by rw[H.out,M0 (fun h=>Nc h1 h.1)];rfl,rfl⟩
 ·cases h2:Nn (n<=1099511627776)
  ·go_enter azU,azO
   go_wp2;go_ret;exact⟨by rw[H.out,M0 (fun h=>Nc h2 h.2)];rfl,rfl⟩
  ·go_enter azU,azO
   go_wp2;go_ret;exact⟨by rw[H.out,Nq ⟨M2 h1,M2 h2⟩];rfl,rfl⟩
theorem ajv:(Tryz.prog.info? 201).map (fun i=>(i.zero,i.size,i.bytes))=MI (MI (Ny #[MF ME 0,MF ME 0]),2,16):=by kernel_rfl
theorem avX:(Tryz.prog.info? 198).map (fun i=>(i.zero,i.size,i.bytes))=MI (MI (MG MH 0 0),1,24):=by kernel_rfl
def avy(a b:M7):Prop:=∀g,a.ownBlock=MI g->b.ownBlock≠MI g
structure WZ(w:MO)(base:Nat)(v:M7)(vs:List M7)(ls:List (List Tm)):Prop where
 row:w.ownsRow base 198 1 v ls.length vs
 each:agR (fun u l=>w.ownsRow base 201 2 u l.length (WP l)) vs ls
 apart:(v::vs).Pairwise avy
theorem WZ.Gf{w:MO}{base:Nat}{v:M7}{vs:List M7}{ls:List (List Tm)}(h:WZ w base v vs ls)(hk:∀g,base<=g->g<w.heap.size->w'.heap[g]?=w.heap[g]?):WZ w' base v vs ls :=
 ⟨W8 h.row fun g hg=>hk g (h.row.lt g hg).1 (h.row.lt g hg).2,h.each.GV fun u l hu=>W8 hu fun g hg=>hk g (hu.lt g hg).1 (hu.lt g hg).2,h.apart⟩
theorem WZ.below{w:MO}{base:Nat}{v:M7}{vs:List M7}{ls:List (List Tm)}(h:WZ w base v vs ls)(hb:MQ w.heap.size w w'):WZ w' base v vs ls :=
 h.Gf fun g _ hg=>hb.block g hg
theorem WZ.GV{w:MO}{base:Nat}{v:M7}{vs:List M7}{ls:List (List Tm)}(h:WZ w base v vs ls)(hb:b<=base):WZ w b v vs ls :=
 ⟨h.row.mono hb,h.each.GV fun u l hu=>hu.mono hb,h.apart⟩
def YA(x:List Tm)(t:Tm)(j:Nat):List Tm:=x.take j++t::x.drop j
theorem avY(x:List Tm)(t:Tm)(j:Nat):(YA x t j).length=x.length+1:=by
 simp only[YA,Ns,Ox,NH,NJ];omega
theorem ajw(x:List Tm)(t:Tm):YA x t x.length=x++[t]:=by simp[YA]
def aaW:List (List Tm):=Nj 25 []
theorem avF(w:MO):WZ (w.alloc (MP (Nj 25 (MG MH 0 0)).toArray 198)) w.heap.size (MG (MI ⟨w.heap.size,0,MH⟩) 25 25) (Nj 25 (MG MH 0 0)) aaW:=by
 refine⟨?_,⟨by simp[aaW],fun i h1 h2=>?_⟩,?_⟩
 ·have:=World.ownsRow_lit (base:=w.heap.size) (e:=198) (size:=1) w (Nj 25 (MG MH 0 0)).toArray 25 (MV _) (by unfold NE;omega) (by simp)
  simpa [aaW]using this
 ·simp only[aaW,List.getElem_replicate]
  exact NY _ _ _ _
 ·refine List.pairwise_cons.2 ⟨fun x hx k hk e=>?_,List.pairwise_replicate.2 (NF fun k hk=>?_)⟩
  ·rw[(List.mem_replicate.1 hx).2]at e;cases e
  ·cases hk
theorem av4(W:MO):(Instr.makeSlice 51 (MF ME 25) (MF ME 25)).run MK W=.ok (MG (MI ⟨W.heap.size,0,MH⟩) 25 25) (W.alloc (MP (Nj 25 (MG MH 0 0)).toArray 198)):=by
 obtain⟨n,l,i,d,j⟩:=OF avX;have h:=run_makeSlice (P:=MK) W 51 198 n _ Tryz.underlying51 l i ME ME 25 25 (by decide) (by decide) (by rw[d];decide) (by rw[j];decide) (by decide);have e:madeCells (MG MH 0 0).cells (Int.toNat 25*1)=(Nj 25 (MG MH 0 0)).toArray:=Array.toList_inj.1 (toList_madeCells_one (MG MH 0 0) 25);rw[h,d,e];rfl
theorem adR{w:MO}{b d:M7}{T:NU}(h:w.heap[g]?=MI (MP #[a,b] T (0,0))):((w.setCell ⟨g,0,MH⟩ c).setCell ⟨g,1,MH⟩ d).cell? ⟨g,0,MH⟩=MI c/\((w.setCell ⟨g,0,MH⟩ c).setCell ⟨g,1,MH⟩ d).cell? ⟨g,1,MH⟩=MI d :=
 ⟨(Xa (acb h)).1,(Xa (acb h)).2.1⟩
theorem WZ.Hh{w:MO}{base:Nat}{v:M7}{vs:List M7}{ls:List (List Tm)}(h:WZ w base v vs ls)(hg:g<base)(c d:M7):WZ ((w.setCell ⟨g,0,MH⟩ c).setCell ⟨g,1,MH⟩ d) base v vs ls :=
 h.Gf fun i h1 _=>by rw[MU _ _ _ _ (by simp;omega),MU _ _ _ _ (by simp;omega)]
theorem anL(now:Int)(w:MO):Ni MK 43 #[MF ME now] w fun r w'=>r=MN (Ny #[MF ME now,MG (MI ⟨w.heap.size+1,0,MH⟩) 25 25])/\WZ w' (w.heap.size+1) (MG (MI ⟨w.heap.size+1,0,MH⟩) 25 25) (Nj 25 (MG MH 0 0)) aaW/\w'.heap.size=w.heap.size+2/\MQ w.heap.size w w':=by
 have d:=av4;generalize hc:(Nj 25 (MG MH 0 0)).toArray=cs at d;have e:M6 _:=hc;clear hc;go_enter Tryz.func43,Tryz.ntmps43;go_wp2;refine Np (v:=Ny #[MF ME now,MG (MI ⟨w.heap.size+1,0,MH⟩) 25 25]) (by simp[Pf,Tryz.results43,go_sem]) rfl ⟨rfl,?_,by simp,?_⟩
 ·have h:=avF (w.alloc (MP #[MF ME now,MG (MI ⟨w.heap.size+1,0,MH⟩) 25 25] 53))
  rw[e.out]at h
  simpa using h
 ·exact((MY _ _).alloc (MV _) _).alloc (by simp) _
theorem awa(now:Int)(w:MO)(h:0<=now/\now<=1099511627776):Ni MK 30 #[MF ME now] w fun r w'=>∃v vs,r=MN (Nv #[Ny #[MF ME now,v],MF ME 0])/\WZ w' w.heap.size v vs aaW/\MQ w.heap.size w w':=by
 have o:Nn (0<=now/\now<=1099511627776)=true:=Nq h;clear h;go_enter Tryz.func30,Tryz.ntmps30
 go_wp2_with fail
 refine(agV _ _).mono ?_;rw[o];rintro r l ⟨rfl,rfl⟩
 go_wp2_with fail
 refine(anL _ _).mono ?_;rintro r l ⟨rfl,e,y,j⟩;have n:(w.alloc (MP #[MF ME 0,MG MH 0 0] 53)).heap.size=w.heap.size+1:=by simp
 rw[n]at e;have i:l.heap[w.heap.size]?=MI (MP #[MF ME 0,MG MH 0 0] 53 (0,0)):=(j.block _ (by simp)).trans (M1 _ _);obtain⟨c0,c1,A,z,u⟩:=Xa i;have H:M6 (_/\_/\_):=⟨i,e,j⟩;clear i e j;go_wp2;obtain⟨s,q⟩:=adR (c:=MF ME now) (d:=MG (MI ⟨w.heap.size+1+1,0,MH⟩) 25 25) H.out.1;refine Np (v:=Nv #[Ny #[MF ME now,MG (MI ⟨w.heap.size+1+1,0,MH⟩) 25 25],MF ME 0]) (by simp[Pf,Tryz.results30,go_sem,s,q]) rfl ⟨_,Nj 25 (MG MH 0 0),rfl,?_,?_⟩
 ·have h:=H.out.2.1.Hh (g:=w.heap.size) (by omega) (MF ME now) (MG (MI ⟨w.heap.size+1+1,0,MH⟩) 25 25)
  exact h.GV (by omega)
 ·exact((((MY _ _).alloc (MV _) _).trans (H.out.2.2.mono (by simp))).setCell (by simp) _).setCell (by simp) _
structure Xo(w:MO):Prop where
 c0:w.cell? ⟨1,0,MH⟩=MI (MF ME 8)
 c1:w.cell? ⟨1,1,MH⟩=MI (MF ME 64)
 c2:w.cell? ⟨1,2,MH⟩=MI (MF ME 512)
theorem Xo.lt{w:MO}(h:Xo w):1<w.heap.size:=MX w ⟨1,0,MH⟩ h.c0
theorem Xo.Gf{w:MO}(h:Xo w)(h0:w'.heap[1]?=w.heap[1]?):Xo w' :=
 ⟨(NG (a:=⟨1,0,MH⟩) h0).trans h.c0,(NG (a:=⟨1,1,MH⟩) h0).trans h.c1,(NG (a:=⟨1,2,MH⟩) h0).trans h.c2⟩
theorem Xo.below{w:MO}(h:Xo w)(hb:MQ w.heap.size w w'):Xo w':=h.Gf (hb.block 1 h.lt)
theorem Xo.IQ{w:MO}(h:Xo w)(q:Nat):Xo (w.drewN q):=⟨h.c0,h.c1,h.c2⟩
theorem anP(W:MO):(Qy 22 (Ny #[MF ME 8,MF ME 64,MF ME 512]) (MF ME 0)).run MK W=.ok (MF ME 8) W:=by kernel_rfl
theorem anQ(W:MO):(Qy 22 (Ny #[MF ME 8,MF ME 64,MF ME 512]) (MF ME 1)).run MK W=.ok (MF ME 64) W:=by kernel_rfl
theorem anR(W:MO):(Qy 22 (Ny #[MF ME 8,MF ME 64,MF ME 512]) (MF ME 2)).run MK W=.ok (MF ME 512) W:=by kernel_rfl
theorem ajD(x n:Int)(w:MO)(hB:Xo w)(hx:0<=x)(hx2:x<=4398046511104)(hn:0<=n)(hn2:n<=4398046511104) :
  Ni MK 205 #[MF ME x,MF ME n] w fun r w'=>r=MN (MF ME (Xq x n))/\∃q,w'=w.drewN q:=by
 have a1:x.tdiv 8=x / 8:=OT hx;have a2:x.tdiv 64=x / 64:=OT hx;have a3:x.tdiv 512=x / 512:=OT hx;have a4:n.tdiv 8=n / 8:=OT hn;have v:n.tdiv 64=n / 64:=OT hn;have A:n.tdiv 512=n / 512:=OT hn;have z:x.tmod 8=x % 8:=Oi hx;have C:(x / 8).tmod 8=x / 8 % 8:=Oi (by omega);have D:(x / 64).tmod 8=x / 64 % 8:=Oi (by omega);obtain⟨p,o⟩:∃p,p=Xq x n:=⟨_,rfl⟩;rw[<-o];unfold Xq at o;have s:M6 _:=o;clear o;obtain⟨c0,c1,c2⟩:=hB;have B:=anP;have E:=anQ;have y:=anR;go_enter Rl,Q5;go_wp2
 go_loopw [8] (fun i wr=>∃(k:Nat) (q:Nat),i=MF ME k/\k<=3/\wr=w.drewN q/\(1<=k->¬x / 8=n / 8)/\(2<=k->¬x / 64=n / 64)/\(3<=k->¬x / 512=n / 512)) (fun i _=>3-(On i).toNat)
 case atStart=>exact⟨0,0,rfl,by omega,rfl,by omega,by omega,by omega⟩
 case round =>
  obtain⟨k,q,rfl,F,rfl,e,j,l⟩:=hrel;have u:k=0\/k=1\/k=2\/k=3:=by omega
  rcases u with rfl|rfl|rfl|rfl
  ·by_cases h1:x / 8=n / 8
   ·have d:M6 (p=x % 8):=by show p=_;rw[s.out,Nh h1]
    go_wp2
    go_region
    go_wp2;go_ret;exact⟨by rw[d.out];rfl,q+1,rfl⟩
   ·have d:M6 (¬x / 8=n / 8):=h1
    clear e j l;go_wp2
    go_region
    go_wp2
    go_roundw
    case rel=>exact⟨1,q+1,rfl,by omega,rfl,fun _=>d.out,by omega,by omega⟩
    case measure=>simp[On]
  ·by_cases h1:x / 64=n / 64
   ·have d:M6 (p=8+x / 8 % 8):=by show p=_;rw[s.out,Nf (e (by omega)),Nh h1]
    clear e j l;go_wp2
    go_region
    go_wp2;go_ret;exact⟨by rw[d.out];rfl,q+1,rfl⟩
   ·have d:M6 (_/\¬x / 64=n / 64):=⟨e (by omega),h1⟩
    clear e j l;go_wp2
    go_region
    go_wp2
    go_roundw
    case rel=>exact⟨2,q+1,rfl,by omega,rfl,fun _=>d.out.1,fun _=>d.out.2,by omega⟩
    case measure=>simp[On]
  ·by_cases h1:x / 512=n / 512
   ·have d:M6 (p=16+x / 64 % 8):=by show p=_;rw[s.out,Nf (e (by omega)),Nf (j (by omega)),Nh h1]
    clear e j l;go_wp2
    go_region
    go_wp2;go_ret;exact⟨by rw[d.out];rfl,q+1,rfl⟩
   ·have d:M6 (_/\_/\¬x / 512=n / 512):=⟨e (by omega),j (by omega),h1⟩
    clear e j l;go_wp2
    go_region
    go_wp2
    go_roundw
    case rel=>exact⟨3,q+1,rfl,by omega,rfl,fun _=>d.out.1,fun _=>d.out.2.1,fun _=>d.out.2.2⟩
    case measure=>simp[On]
  ·have d:M6 (p=24):=by show p=_;rw[s.out,Nf (e (by omega)),Nf (j (by omega)),Nf (l (by omega))]
   clear e j l;go_wp2;go_ret;exact⟨by rw[d.out];rfl,q,rfl⟩
theorem awq(n:Int)(w:MO)(hB:Xo w)(hn:0<=n)(hn2:n<=4398046511104) :
  Ni MK 204 #[MF ME 0,MF ME n] w fun r w'=>r=MN (MF ME (8+n / 8 % 8))/\w'=w:=by
 have a4:n.tdiv 8=n / 8:=OT hn;have d:(n / 8).tmod 8=n / 8 % 8:=Oi (by omega);obtain⟨c0,c1,c2⟩:=hB;go_enter azN,azE;go_wp2;go_ret;exact⟨rfl,rfl⟩
theorem awr(n:Int)(w:MO)(hB:Xo w)(hn:0<=n)(hn2:n<=4398046511104) :
  Ni MK 204 #[MF ME 1,MF ME n] w fun r w'=>r=MN (MF ME (16+n / 64 % 8))/\w'=w:=by
 have a4:n.tdiv 64=n / 64:=OT hn;have d:(n / 64).tmod 8=n / 64 % 8:=Oi (by omega);obtain⟨c0,c1,c2⟩:=hB;go_enter azN,azE;go_wp2;go_ret;exact⟨rfl,rfl⟩
theorem aws(n:Int)(w:MO) :
  Ni MK 204 #[MF ME 2,MF ME n] w fun r w'=>r=MN (MF ME 24)/\w'=w:=by
 go_enter azN,azE;go_wp2;go_ret;exact⟨rfl,rfl⟩
def Zg(now:Int)(t:Tm):Bool:=Nn (now<t.1) && Nn (t.1<=now+500) && Nn (t.1<=1099511627776) && Nn (0<=t.2) && Nn (t.2<=199)
theorem ada(now:Int)(t:Tm):Zg now t=Nw↔now<t.1/\t.1<=now+500/\t.1<=1099511627776/\0<=t.2/\t.2<=199:=by
 simp[Zg,and_assoc]
theorem anM(x y n:Int)(w:MO)(hn:0<=n)(hn2:n<=1099511627776) :
  Ni MK 177 #[Ny #[MF ME x,MF ME y],MF ME n] w fun r w'=>r=MN (M3 (Zg n (x,y)))/\w'=w.alloc (MP #[MF ME x,MF ME y] 201):=by
 obtain⟨d,e⟩:∃d,d=Zg n (x,y):=⟨_,rfl⟩;rw[<-e];have H:M6 _:=e;clear e;cases h1:Nn (n<x)
 ·have i:M6 (d=Nb):=by show d=Nb;rw[H.out];simp only[Zg,h1,Bool.false_and]
  go_enter Tryz.func177,Tryz.ntmps177;go_wp2;go_ret;exact⟨by rw[i.out];rfl,rfl⟩
 ·go_enter Tryz.func177,Tryz.ntmps177
  go_wp2
  all_goals
   go_ret;refine⟨congrArg (fun b=>MN (M3 b)) (Bool.eq_iff_iff.2 ?_),rfl⟩;rw[H.out,ada];have:=M2 h1;simp only[decide_eq_true_eq,Bool.false_eq_true,false_iff];omega
theorem aey{w:MO}{b:M7}{T:NU}(h:w.heap[g]?=MI (MP #[a,b,c] T (0,0))):w.cell? ⟨g,0,MH⟩=MI a/\w.cell? ⟨g,1,MH⟩=MI b/\w.cell? ⟨g,2,MH⟩=MI c/\g<w.heap.size:=by
 refine⟨by simp[Nl,h],by simp[Nl,h],by simp[Nl,h],?_⟩;exact(Array.getElem?_eq_some_iff.1 h).1
def Zy(n:Int)(m:Int):Bool:=Nn (n % m=0)
theorem avH(n:Int)(w:MO)(hB:Xo w)(hn:0<=n)(hn2:n<=4398046511104) :
  Ni MK 202 #[MF ME n] w fun r w'=>r=MN (Ny #[M3 (Zy n 8),M3 (Zy n 64),M3 (Zy n 512)])/\MQ w.heap.size w w':=by
 have a1:n.tmod 8=n % 8:=Oi hn;have a2:n.tmod 64=n % 64:=Oi hn;have a3:n.tmod 512=n % 512:=Oi hn;obtain⟨q,A⟩:∃b,b=Zy n 8:=⟨_,rfl⟩;obtain⟨o,B⟩:∃b,b=Zy n 64:=⟨_,rfl⟩;obtain⟨y,C⟩:∃b,b=Zy n 512:=⟨_,rfl⟩;rw[<-A,<-B,<-C];unfold Zy at A B C;have T:(n % 8 == 0)=q:=by rw[A];by_cases h:n % 8=0 <;> simp[h]
 have Q:(n % 64 == 0)=o:=by rw[B];by_cases h:n % 64=0 <;> simp[h]
 have R:(n % 512 == 0)=y:=by rw[C];by_cases h:n % 512=0 <;> simp[h]
 clear A B C;obtain⟨c0,c1,c2⟩:=hB;have i0:=anP;have i1:=anQ;have i2:=anR;have F:1<w.heap.size:=MX w ⟨1,0,MH⟩ c0;have L:0<w.heap.size:=Pb (Nx _) F;go_enter UQ,UD;go_wp2
 go_loopw [7] (fun i wr=>∃k:Nat,i=MF ME k/\k<=3/\MQ w.heap.size w wr/\wr.heap[w.heap.size]?=MI (MP #[M3 Nb,M3 Nb,M3 Nb] 327 (0,0))/\wr.heap[w.heap.size+1]?=MI (MP #[M3 (Nn (1<=k) && q),M3 (Nn (2<=k) && o),M3 (Nn (3<=k) && y)] 327 (0,0))) (fun i _=>3-(On i).toNat)
 case atStart =>
  exact⟨0,rfl,by omega,((MY _ _).alloc (MV _) _).alloc (by simp) _,Xy _ _ (M1 _ _),Yu _ _ _⟩
 case round =>
  obtain⟨k,rfl,hk,l,j,d⟩:=hrel;have G:k=0\/k=1\/k=2\/k=3:=by omega
  rcases G with rfl|rfl|rfl|rfl
  ·obtain⟨z,u,s,E⟩:=aey d
   have D:wr.frozen? ⟨w.heap.size+1,0,MH⟩=false:=by simp[Ng,d]
   have e:M6 (_/\_/\_):=⟨l,j,d⟩;clear l j d;go_wp2;refine⟨⟨1,rfl,by omega,e.out.1.setCell (by simp) _,(MU _ _ _ _ (by simp)).trans e.out.2.1,(NI _ _ 0 _ _ _ e.out.2.2).trans ?_⟩,by simp[On]⟩;simp
  ·obtain⟨z,u,s,E⟩:=aey d
   have D:wr.frozen? ⟨w.heap.size+1,1,MH⟩=false:=by simp[Ng,d]
   have e:M6 (_/\_/\_):=⟨l,j,d⟩;clear l j d;go_wp2;refine⟨⟨2,rfl,by omega,e.out.1.setCell (by simp) _,(MU _ _ _ _ (by simp)).trans e.out.2.1,(NI _ _ 1 _ _ _ e.out.2.2).trans ?_⟩,by simp[On]⟩;simp
  ·obtain⟨z,u,s,E⟩:=aey d
   have D:wr.frozen? ⟨w.heap.size+1,2,MH⟩=false:=by simp[Ng,d]
   have e:M6 (_/\_/\_):=⟨l,j,d⟩;clear l j d;go_wp2;refine⟨⟨3,rfl,by omega,e.out.1.setCell (by simp) _,(MU _ _ _ _ (by simp)).trans e.out.2.1,(NI _ _ 2 _ _ _ e.out.2.2).trans ?_⟩,by simp[On]⟩;simp
  ·obtain⟨z,u,s,E⟩:=aey d
   obtain⟨Y,x1,U,N⟩:=aey j;have D:wr.frozen? ⟨w.heap.size,0,MH⟩=false:=by simp[Ng,j]
   have V:wr.frozen? ⟨w.heap.size,1,MH⟩=false:=by simp[Ng,j]
   have Z:wr.frozen? ⟨w.heap.size,2,MH⟩=false:=by simp[Ng,j]
   have M:wr.cell? ⟨w.heap.size+1,0,MH⟩=MI (M3 q):=by rw[z];simp
   have O:wr.cell? ⟨w.heap.size+1,1,MH⟩=MI (M3 o):=by rw[u];simp
   have P:wr.cell? ⟨w.heap.size+1,2,MH⟩=MI (M3 y):=by rw[s];simp
   have e:M6 (_/\_/\_):=⟨l,j,d⟩;clear l j d z u s;go_wp2;have H:=NI _ _ 2 _ _ (M3 y) (NI _ _ 1 _ _ (M3 o) (NI wr w.heap.size 0 _ _ (M3 q) e.out.2.1));obtain⟨K,I,J,_⟩:=aey H;refine Np (v:=Ny #[M3 q,M3 o,M3 y]) (by simp[Pf,Tryz.results202,go_sem,K,I,J]) rfl ⟨rfl,?_⟩;exact((e.out.1.setCell (by simp) _).setCell (by simp) _).setCell (by simp) _
structure Ok(now:Int)(ls:List (List Tm)):Prop where
 len:ls.length=25
 fit:∀(i:Nat) (l:List Tm),ls[i]?=MI l->∀t∈l,Zg now t=Nw/\Xq t.1 now=(i:Int)
 ord:∀l∈ls,l.Pairwise (fun a b=>Xe a b<0)
 ids:(ls.flatten.map (·.2)).Nodup
structure Z7(f:Int->Option Int)(ls:List (List Tm)):Prop where
 here:∀(i:Nat) (l:List Tm),ls[i]?=MI l->∀t∈l,f t.2=MI (i:Int)
 gone:∀id,(∀t∈ls.flatten,t.2≠id)->f id=MH
theorem ajs(ls:List (List Tm))(i:Nat)(l l':List Tm)(h:ls[i]?=MI l):∃a b,ls=a++l::b/\ls.set i l'=a++l'::b/\a.length=i:=by
 have d:=(List.getElem?_eq_some_iff.1 h).1;have e:=(List.getElem?_eq_some_iff.1 h).2;refine⟨ls.take i,ls.drop (i+1),?_,?_,by rw[NH];omega⟩
 ·rw[<-e,Pp,Oo]
 ·rw[List.set_eq_take_append_cons_drop,Nh d]
theorem anS(l:List Tm)(t:Tm)(j:Nat):(YA l t j).Perm (t::l):=by
 unfold YA;have h:=QC (a:=t) (l₁:=l.take j) (l₂:=l.drop j);rwa[Oo]at h
theorem ajA{l:List Tm}{j:Nat}:x∈YA l t j↔x=t\/x∈l:=by
 rw[(anS l t j).mem_iff,OO]
theorem afu{ls:List (List Tm)}{i:Nat}{l:List Tm}(h:ls[i]?=MI l)(t:Tm)(j:Nat):(ls.set i (YA l t j)).flatten.Perm (t::ls.flatten):=by
 obtain⟨a,b,e,d,_⟩:=ajs ls i l (YA l t j) h;rw[e]at d⊢;rw[d];simp only[PV,QS];have n:(a.flatten++(YA l t j++b.flatten)).Perm (a.flatten++(t::l++b.flatten)):=((anS l t j).append_right _).append_left _;refine n.trans ?_;simp only[List.cons_append];exact QC
theorem anT{l:List Tm}(h:l.Pairwise (fun a b=>Xe a b<0))(t:Tm)(j:Nat)(h1:∀x∈l.take j,Xe x t<0)(h2:∀x∈l.drop j,Xe t x<0):(YA l t j).Pairwise (fun a b=>Xe a b<0):=by
 unfold YA;have d:=List.pairwise_append.1 (by rw[Oo];exact h:(l.take j++l.drop j).Pairwise _);refine List.pairwise_append.2 ⟨d.1,List.pairwise_cons.2 ⟨h2,d.2.1⟩,fun x hx y e=>?_⟩;rcases List.mem_cons.1 e with rfl|e
 ·exact h1 x hx
 ·exact d.2.2 x hx y e
theorem Ok.ID{now:Int}{ls:List (List Tm)}(h:Ok now ls){i:Nat}{l:List Tm}(hl:ls[i]?=MI l)(hf:Zg now t=Nw)(hp:Xq t.1 now=(i:Int))(hn:∀x∈ls.flatten,x.2≠t.2)(j:Nat)
  (h1:∀x∈l.take j,Xe x t<0) (h2:∀x∈l.drop j,Xe t x<0):Ok now (ls.set i (YA l t j)):=by
 have o:=(List.getElem?_eq_some_iff.1 hl).1;refine⟨by rw[NA];exact h.len,fun k m hk x d=>?_,fun m n=>?_,?_⟩
 ·by_cases hki:k=i
  ·subst hki
   rw[N7 o]at hk;rw[<-NC hk]at d;rcases ajA.1 d with rfl|d
   ·exact⟨hf,hp⟩
   ·exact h.fit k l hl x d
  ·rw[N3 (Pi hki)]at hk
   exact h.fit k m hk x d
 ·rcases OB n with n|rfl
  ·exact h.ord m n
  ·exact anT (h.ord l (Nu hl)) t j h1 h2
 ·rw[((afu hl t j).map _).nodup_iff,OA,QJ]
  refine⟨fun n=>?_,h.ids⟩;obtain⟨x,d,e⟩:=List.mem_map.1 n;exact hn x d e
theorem Z7.ID{f:Int->Option Int}{ls:List (List Tm)}(h:Z7 f ls){i:Nat}{l:List Tm}(hl:ls[i]?=MI l)(hn:∀x∈ls.flatten,x.2≠t.2)(j:Nat):Z7 (fun k=>if k=t.2 then MI (i:Int)else f k) (ls.set i (YA l t j)):=by
 have o:=(List.getElem?_eq_some_iff.1 hl).1;refine⟨fun k m hk x d=>?_,fun id hid=>?_⟩
 ·by_cases hki:k=i
  ·subst hki
   rw[N7 o]at hk;rw[<-NC hk]at d;rcases ajA.1 d with rfl|d
   ·exact Nh rfl
   ·have:x.2≠t.2:=hn x (List.mem_flatten.2 ⟨l,Nu hl,d⟩)
    simp only[Nf this];exact h.here k l hl x d
  ·rw[N3 (Pi hki)]at hk
   have:x.2≠t.2:=hn x (List.mem_flatten.2 ⟨m,Nu hk,d⟩);simp only[Nf this];exact h.here k m hk x d
 ·have n:id≠t.2:=fun e=>hid t ((afu hl t j).mem_iff.2 (NM ..)) e.symm
  simp only[Nf n];exact h.gone id fun x d=>hid x ((afu hl t j).mem_iff.2 (NB _ d))
theorem Z7.GP{f:Int->Option Int}{ls:List (List Tm)}(h:Z7 f ls)(id:Int):(f id).isSome=Nb↔∀x∈ls.flatten,x.2≠id:=by
 constructor
 ·intro i x d e
  obtain⟨m,l,j⟩:=List.mem_flatten.1 d;obtain⟨k,n,rfl⟩:=NV l;have:=h.here k _ (MR n) x j;rw[e]at this;rw[this]at i;cases i
 ·intro d
  rw[h.gone id d];rfl
def YG(ls:List (List Tm))(i k:Nat):List (List Tm):=(Pm 25).map fun(a:Nat)=>if a<i then ls.getD a []else if a=i then(ls.getD i []).take k else []
theorem aeu(ls:List (List Tm))(i k a:Nat)(ha:a<25):(YG ls i k)[a]?=MI (if a<i then ls.getD a []else if a=i then(ls.getD i []).take k else []):=by
 simp[YG,ha]
theorem aev(ls:List (List Tm))(i k:Nat):(YG ls i k).length=25:=by simp[YG]
theorem awi(ls:List (List Tm))(i k:Nat)(hi:i<25)(l:List Tm)(hl:ls[i]?=MI l)(hk:k<l.length):(YG ls i k).set i (YA (l.take k) l[k] (l.take k).length)=YG ls i (k+1):=by
 apply Ot;intro a;have e:ls.getD i []=l:=by simp[Pq,hl]
 rcases Oq a 25 with d|d
 ·rw[aeu _ _ _ _ d]
  by_cases hai:a=i
  ·subst hai
   rw[N7 (by rw[aev];exact d),Nf (by omega),Nh rfl,e,ajw,M9 hk]
  ·rw[N3 (Pi hai),aeu _ _ _ _ d,Nf hai,Nf hai]
 ·rw[Nz (by rw[NA,aev];exact d),Nz (by rw[aev];exact d)]
theorem awh(ls:List (List Tm))(i:Nat)(l:List Tm)(hl:ls[i]?=MI l):YG ls i l.length=YG ls (i+1) 0:=by
 have d:ls.getD i []=l:=by simp[Pq,hl]
 unfold YG;refine PU fun a _=>?_
 rcases Nat.lt_trichotomy a i with h|h|h
 ·rw[Nh h,Nh (by omega)]
 ·subst h
  rw[Nf (by omega),Nh rfl,Nh (by omega),d,NT]
 ·rw[Nf (by omega),Nf (by omega),Nf (by omega)]
  split
  ·simp
  ·rfl
theorem awe(ls:List (List Tm))(h:ls.length=25):YG ls 25 0=ls:=by
 apply Ot;intro a;rcases Oq a 25 with d|d
 ·rw[aeu _ _ _ _ d,Nh d,MR (by omega)]
  simp[Pq,MR (show a<ls.length by omega)]
 ·rw[Nz (by rw[aev];exact d),Nz (by omega)]
theorem ajC(ls:List (List Tm)):YG ls 0 0=Nj 25 []:=by
 apply Ot;intro a;rcases Oq a 25 with d|d
 ·rw[aeu _ _ _ _ d,Pj,Nh d,Nf (QH _)]
  split
  ·simp
  ·rfl
 ·rw[Nz (by rw[aev];exact d),Nz (by simp;exact d)]
theorem awf(ls:List (List Tm))(hls:ls.length=25)(i k:Nat)(l:List Tm)(hl:ls[i]?=MI l):YG ls i k=ls.take i++l.take k::Nj (24-i) []:=by
 have j:=(List.getElem?_eq_some_iff.1 hl).1;have e:ls.getD i []=l:=by simp[Pq,hl]
 apply Ot;intro a;rcases Oq a 25 with d|d
 ·rw[aeu _ _ _ _ d,Q9,NH,show min i ls.length=i by omega]
  rcases Nat.lt_trichotomy a i with h|h|h
  ·rw[Nh h,Nh h,O0 h,MR (by omega)]
   simp[Pq,MR (show a<ls.length by omega)]
  ·subst h
   rw[Nf (by omega),Nh rfl,Nf (by omega),Nat.sub_self,e];rfl
  ·rw[Nf (by omega),Nf (by omega),Nf (by omega),show a-i=(a-i-1)+1 by omega,N9,Pj,Nh (by omega)]
 ·rw[Nz (by rw[aev];exact d),Nz (by simp;omega)]
theorem awg(ls:List (List Tm))(hls:ls.length=25)(i k:Nat)(l:List Tm)(hl:ls[i]?=MI l):(YG ls i k).flatten=(ls.take i).flatten++l.take k:=by
 rw[awf ls hls i k l hl];simp
theorem Ok.IA{now:Int}{ls:List (List Tm)}(h:Ok now ls){i k:Nat}{l:List Tm}(hl:ls[i]?=MI l)(hk:k<l.length) :
  Zg now l[k]=Nw/\Xq (l[k]).1 now=(i:Int)/\(∀x∈(YG ls i k).flatten,x.2≠(l[k]).2)/\∀x∈l.take k,Xe x l[k]<0:=by
 have o:=h.fit i l hl l[k] (Nk hk);refine⟨o.1,o.2,fun x hx e=>?_,fun x hx=>?_⟩
 ·rw[awg ls h.len i k l hl]at hx
  have A:=(List.getElem?_eq_some_iff.1 hl).1;have v:ls.flatten=((ls.take i).flatten++l.take k)++(l[k]::(l.drop (k+1)++(ls.drop (i+1)).flatten)):=by
   have s:ls=ls.take i++l::ls.drop (i+1):=by
    have r:=(List.getElem?_eq_some_iff.1 hl).2;rw[<-r,Pp,Oo]
   have u:l=l.take k++l[k]::l.drop (k+1):=by rw[Pp,Oo]
   have z:ls.flatten=(ls.take i).flatten++(l++(ls.drop (i+1)).flatten):=by
    have q:(ls.take i++l::ls.drop (i+1)).flatten=(ls.take i).flatten++(l++(ls.drop (i+1)).flatten):=by simp
    rw[<-s]at q;exact q
   have y:l++(ls.drop (i+1)).flatten=(l.take k++l[k]::l.drop (k+1))++(ls.drop (i+1)).flatten:=congrArg (·++(ls.drop (i+1)).flatten) u;rw[z,y];simp only[OC,List.cons_append]
  have d:=h.ids;rw[v,OI,Qv]at d;exact d.2.2 x.2 (List.mem_map.2 ⟨x,hx,rfl⟩) (l[k]).2 (List.mem_map.2 ⟨l[k],NM ..,rfl⟩) e
 ·have w:=h.ord l (Nu hl)
  obtain⟨j,n,rfl⟩:=NV hx;rw[List.getElem_take];exact List.pairwise_iff_getElem.1 w j k (by simp at n;omega) hk (by simp at n;omega)
theorem anK(a b c d:Int)(w:MO) :
  Ni MK 222 #[Ny #[MF ME a,MF ME b],Ny #[MF ME c,MF ME d]] w fun r w'=>r=MN (MF ME (Xe (a,b) (c,d)))/\w'=(((w.alloc (MP #[MF ME a,MF ME b] 201)).alloc (MP #[MF ME c,MF ME d] 201)).alloc (MP #[MF ME (YK a c),MF ME (YK b d)] 3)).drew:=by
 obtain⟨l,e⟩:∃l,l=Xe (a,b) (c,d):=⟨_,rfl⟩;rw[<-e];rw[aiC]at e;obtain⟨x,j⟩:∃x,x=YK a c:=⟨_,rfl⟩;obtain⟨y,i⟩:∃y,y=YK b d:=⟨_,rfl⟩;rw[<-j,<-i]at e;have H:M6 (_/\_/\_):=⟨e,j,i⟩;clear e j i;rw[<-H.out.2.1,<-H.out.2.2];go_enter Tryz.func222,Tryz.ntmps222
 go_wp2_with fail
 generalize hw2:(w.alloc (MP #[MF ME a,MF ME b] 201)).alloc (MP #[MF ME c,MF ME d] 201)=w2;have u:w2.cell? ⟨w.heap.size,0,MH⟩=MI (MF ME a):=by rw[<-hw2];simp
 have n:w2.cell? ⟨w.heap.size,1,MH⟩=MI (MF ME b):=by rw[<-hw2];simp
 have o:w2.cell? ⟨w.heap.size+1,0,MH⟩=MI (MF ME c):=by rw[<-hw2];simp
 have s:w2.cell? ⟨w.heap.size+1,1,MH⟩=MI (MF ME d):=by rw[<-hw2];simp
 have v:M6 _:=hw2;clear hw2
 go_region_held3 (fun w'=>w'.cell? ⟨w.heap.size,0,MH⟩=MI (MF ME a)/\w'.cell? ⟨w.heap.size,1,MH⟩=MI (MF ME b)/\w'.cell? ⟨w.heap.size+1,0,MH⟩=MI (MF ME c)/\w'.cell? ⟨w.heap.size+1,1,MH⟩=MI (MF ME d)/\MQ w2.heap.size w2 w') (first|exact afd u n o s ((MY _ _).drew)|exact afd u n o s (((MY _ _).drew).alloc (MV _) _)) (first|(go_at_call_of 209 (MF ME a);refine(aeg a c _).mono ?_;rw[<-H.out.2.1];rintro r q ⟨rfl,rfl⟩)|(go_at_call_of 209 (MF ME b);refine(aeg b d _).mono ?_;rw[<-H.out.2.2];rintro r q ⟨rfl,rfl⟩)|(go_at_call 245;refine(aiO x y w2.heap.size _ (by simp) (by simp)).mono ?_;rw[<-H.out.1];rintro r q ⟨rfl,rfl⟩))
 go_wp2;go_ret;exact⟨rfl,by rw[v.out]⟩
theorem ajq(a b c d:Int)(w:MO) :
  Ni MK 222 #[Ny #[MF ME a,MF ME b],Ny #[MF ME c,MF ME d]] w fun r w'=>r=MN (MF ME (Xe (a,b) (c,d)))/\MQ w.heap.size w w' :=
 (anK a b c d w).mono fun r w' h=>⟨h.1,by rw[h.2];exact((((MY _ _).alloc (MV _) _).alloc (by simp) _).alloc (by simp;omega) _).drew⟩
theorem adb{w:MO}(h1:w.cell? a1=MI v1)(h2:w.cell? a2=MI v2)(h3:w.cell? a3=MI v3)(h4:w.cell? a4=MI v4)
  (hb:MQ w.heap.size w w'):w'.cell? a1=MI v1/\w'.cell? a2=MI v2/\w'.cell? a3=MI v3/\w'.cell? a4=MI v4/\MQ w.heap.size w w' :=
 ⟨(hb.cell (MX w _ h1)).trans h1,(hb.cell (MX w _ h2)).trans h2,(hb.cell (MX w _ h3)).trans h3,(hb.cell (MX w _ h4)).trans h4,hb⟩
theorem awl(v:M7)(l:List Tm)(ta td:Int)(i0:Nat)(w:MO)(hv:Xz w v l)(h0:i0<=l.length)(h1:∀j (hj:j<l.length),j<i0->Xe l[j] (ta,td)<0)(h2:∀j (hj:j<l.length),i0<=j->¬Xe l[j] (ta,td)<0)(hlen:l.length<=1048577) :
  Ni MK 221 #[v,Ny #[MF ME ta,MF ME td],PB (PD 222) #[] #[]] w fun r w'=>∃b,r=MN (Nv #[MF ME i0,M3 b])/\MQ w.heap.size w w':=by
 obtain⟨a,ca,rfl,b6,Z,R⟩:=hv.F6;unfold NE at Z;have L:M6 (_/\_/\_):=⟨R,h1,h2⟩;clear R h1 h2;go_enter UU,UH;go_wp2
 go_loopw [9,10] (fun i j wr=>∃(p q:Nat),i=MF ME p/\j=MF ME q/\p<=i0/\i0<=q/\q<=l.length/\MQ (w.heap.size+1) (w.alloc (MP #[MF ME ta,MF ME td] 201)) wr) (fun i j _=>(On j).toNat-(On i).toNat)
 case atStart=>exact⟨0,l.length,rfl,rfl,Nx _,h0,MV _,MY _ _⟩
 case round =>
  obtain⟨p,q,rfl,rfl,hp,hq,Y,H⟩:=hrel;have D:wr.cell? ⟨w.heap.size,0,MH⟩=MI (MF ME ta):=by rw[H.cell (p:=⟨w.heap.size,0,MH⟩) (by simp)];simp
  have C:wr.cell? ⟨w.heap.size,1,MH⟩=MI (MF ME td):=by rw[H.cell (p:=⟨w.heap.size,1,MH⟩) (by simp)];simp
  have N:MQ w.heap.size w wr:=(((MY _ _).alloc (MV _) _)).trans (H.mono (by omega));have o:M6 (_/\_):=⟨H,N⟩;clear H N
  by_cases hlt:p<q
  ·have a0:Nn ((p:Int)<(q:Int))=true:=Nq (by omega)
   obtain⟨m,J⟩:∃m,m=(p+q) / 2:=⟨_,rfl⟩;have b4:p<=m:=by omega
   have b5:m<q:=by omega
   have O:((p:Int)+(q:Int)) / 2=(m:Int):=by omega
   have HM:M6 (_/\_):=⟨J,O⟩;clear J O;obtain⟨n,off,rfl,z,I,F⟩:=L.out.1 m (by omega);have u:=(o.out.2.cell (p:=⟨n,off+m*2,MH⟩) z).trans I;have s:=(o.out.2.cell (p:=⟨n,off+m*2+1,MH⟩) z).trans F;obtain⟨d,B⟩:∃d,(l[m]'(by omega)).1=d:=⟨_,rfl⟩;obtain⟨e,A⟩:∃e,(l[m]'(by omega)).2=e:=⟨_,rfl⟩;have M:l[m]'(by omega)=(d,e):=Q8 B A;rw[B]at u;rw[A]at s;have P:M6 _:=M;clear M B A I F;have V:(0:Int)<=(m:Int):=by omega
   have U:(m:Int)<(l.length:Int):=by omega
   have T:n<wr.heap.size:=M8 z o.out.2.size
   go_wp2_with fail
   rw[HM.out.2];obtain⟨c,G⟩:∃c,c=Xe (d,e) (ta,td):=⟨_,rfl⟩;have E:M6 _:=G;clear G;cases hcd:Nn (c<0)
   ·go_region_held3 (fun w'=>w'.cell? ⟨n,off+m*2,MH⟩=MI (MF ME d)/\w'.cell? ⟨n,off+m*2+1,MH⟩=MI (MF ME e)/\w'.cell? ⟨w.heap.size,0,MH⟩=MI (MF ME ta)/\w'.cell? ⟨w.heap.size,1,MH⟩=MI (MF ME td)/\MQ wr.heap.size wr w') (first|exact adb u s D C ((MY _ _).drew)|exact adb u s D C (Za y)) (first|(go_at_call 222;refine(ajq d e ta td _).mono ?_;rw[<-E.out];rintro r Q ⟨rfl,y⟩))
    go_wp2;refine⟨⟨p,m,rfl,rfl,hp,?_,by omega,o.out.1.trans ((Za y).mono (by have:=o.out.1.size;simpa using this))⟩,by simp[On];omega⟩;rcases Oq m i0 with h|h
    ·have K:=L.out.2.1 m (by omega) h
     rw[P.out,<-E.out]at K;exact absurd K (Nc hcd)
    ·exact h
   ·go_region_held3 (fun w'=>w'.cell? ⟨n,off+m*2,MH⟩=MI (MF ME d)/\w'.cell? ⟨n,off+m*2+1,MH⟩=MI (MF ME e)/\w'.cell? ⟨w.heap.size,0,MH⟩=MI (MF ME ta)/\w'.cell? ⟨w.heap.size,1,MH⟩=MI (MF ME td)/\MQ wr.heap.size wr w') (first|exact adb u s D C ((MY _ _).drew)|exact adb u s D C (Za y)) (first|(go_at_call 222;refine(ajq d e ta td _).mono ?_;rw[<-E.out];rintro r Q ⟨rfl,y⟩))
    go_wp2;refine⟨⟨m+1,q,by simp,rfl,?_,hq,Y,o.out.1.trans ((Za y).mono (by have:=o.out.1.size;simpa using this))⟩,by simp[On];omega⟩;rcases Oq m i0 with h|h
    ·exact h
    ·have K:=L.out.2.2 m (by omega) h
     rw[P.out,<-E.out]at K;have:=M2 hcd;omega
  ·obtain rfl:p=i0:=by omega
   obtain rfl:q=p:=by omega
   obtain⟨m,J⟩:∃m,m=q:=⟨_,rfl⟩;subst J
   by_cases hlt2:m<l.length
   ·obtain⟨n,off,rfl,z,I,F⟩:=L.out.1 m (by omega)
    have u:=(o.out.2.cell (p:=⟨n,off+m*2,MH⟩) z).trans I;have s:=(o.out.2.cell (p:=⟨n,off+m*2+1,MH⟩) z).trans F;obtain⟨d,B⟩:∃d,(l[m]'(by omega)).1=d:=⟨_,rfl⟩;obtain⟨e,A⟩:∃e,(l[m]'(by omega)).2=e:=⟨_,rfl⟩;rw[B]at u;rw[A]at s;clear B A I F;have V:(0:Int)<=(m:Int):=by omega
    have U:(m:Int)<(l.length:Int):=by omega
    have T:n<wr.heap.size:=M8 z o.out.2.size;obtain⟨c,G⟩:∃c,c=Xe (d,e) (ta,td):=⟨_,rfl⟩;have E:M6 _:=G;clear G
    go_wp2_with fail
    go_region_held3 (fun w'=>w'.cell? ⟨n,off+m*2,MH⟩=MI (MF ME d)/\w'.cell? ⟨n,off+m*2+1,MH⟩=MI (MF ME e)/\w'.cell? ⟨w.heap.size,0,MH⟩=MI (MF ME ta)/\w'.cell? ⟨w.heap.size,1,MH⟩=MI (MF ME td)/\MQ wr.heap.size wr w') (first|exact adb u s D C ((MY _ _).drew)|exact adb u s D C (Za y)) (first|(go_at_call 222;refine(ajq d e ta td _).mono ?_;rw[<-E.out];rintro r Q ⟨rfl,y⟩))
    go_wp2
    go_ret2
    exact⟨_,rfl,o.out.2.trans ((Za y).mono o.out.2.size)⟩
   ·obtain rfl:m=l.length:=by omega
    go_wp2_with fail
    go_region
    go_wp2
    go_ret2
    exact⟨_,rfl,o.out.2.drew⟩
def afs(base:Nat)(v:M7)(l:List Tm)(t:Tm)(i:Nat)(w:MO)(r:Ending)(w':MO):Prop :=
 ∃g cap,r=MN (MG (MI ⟨g,0,MH⟩) (l.length+1) cap)/\w'.ownsRow base 201 2 (MG (MI ⟨g,0,MH⟩) (l.length+1) cap) (l.length+1) (WP (YA l t i))/\w.grownBy w' v.ownBlock/\(v.ownBlock=MI g\/w.heap.size<=g)
theorem ajH:∀(l:List Tm) (i:Nat),(WP l).drop (i*2)=WP (l.drop i)
 | [],i=>by simp[WP]
 |t::l,0=>by simp[WP]
 |t::l,i+1=>by rw[show(i+1)*2=i*2+1+1 by omega];simp[WP,ajH l i]
theorem av0(base:Nat)(v:M7)(l:List Tm)(ta td:Int)(k:Nat)(w:MO)(hown:w.ownsRow base 201 2 v l.length (WP l))(hbase:base<=w.heap.size)
  (hk:w.heap[k]?=MI (MP #[MF ME ta,MF ME td] 201 (0,0))) (hlen:l.length<=1048577) :
  Ni MK 223 #[v,MF ME l.length,MG (MI ⟨k,0,MH⟩) 1 1] w (afs base v l (ta,td) l.length w):=by
 obtain⟨A,B,s,y,z⟩:=OF ajv;have i:∀j u,(WP [(ta,td)])[j]?=MI u->w.cell? ((⟨k,0,MH⟩:Oc).add j)=MI u:=fun j u hu=>by
  have D:(⟨k,0,MH⟩:Oc).add j=⟨k,j,MH⟩:=by unfold Addr.add;split <;> simp_all
  rw[D,MW w k j _ _ (0,0) hk]
  simpa [WP]using hu
 obtain⟨p,c,rfl⟩:=Y6 hown;have H:l.length<=c:=by
  rcases hown.2 with⟨h,_⟩|⟨g,d,F,h,_,_,C,_⟩
  ·simp only[N4]at h;omega
  ·simp only[N4]at h;omega
 have I:c<=9223372036854775807:=by
  rcases hown.2 with⟨h,_⟩|⟨g,d,F,h,_,_,_,C,_⟩
  ·simp only[N4]at h;omega
  ·simp only[N4]at h;unfold NE at C;omega
 by_cases hcl:c=l.length
 ·subst hcl
  have e:M6 (_/\_):=⟨hown,i⟩;clear hown i;go_enter Um,Ub
  go_wp2_with (first|(at_builtin;refine O9 _ rfl _ _ 198 rfl base 201 A _ 2 16 Ls B s y z rfl (by decide) (MG p l.length l.length) _ _ rfl e.out.1 _ 1 1 (WP [(ta,td)]) rfl rfl e.out.2 (abJ _) (by decide) (by unfold NE;omega) (by omega) hbase _ rfl ?_;intro r d G n q o E))
  all_goals
   go_ret;exact⟨r,d,rfl,by rw[ajw,aa7];exact n,q,o.imp id (fun h=>by omega)⟩
 ·have e:M6 (_/\_):=⟨hown,i⟩
  clear hown i;go_enter Um,Ub
  go_wp2_with (first|(at_builtin;refine O9 _ rfl _ _ 198 rfl base 201 A _ 2 16 Ls B s y z rfl (by decide) (MG p l.length c) _ _ rfl e.out.1 _ 1 1 (WP [(ta,td)]) rfl rfl e.out.2 (abJ _) (by decide) (by unfold NE;omega) (by omega) hbase _ rfl ?_;intro r d G n q o E))
  all_goals
   go_ret;exact⟨r,d,rfl,by rw[ajw,aa7];exact n,q,o.imp id (fun h=>by omega)⟩
theorem av1(base g c:Nat)(l:List Tm)(ta td:Int)(i k:Nat)(w:MO)(hown:w.ownsRow base 201 2 (MG (MI ⟨g,0,MH⟩) l.length c) l.length (WP l))(hbase:base<=w.heap.size)(hi:i<l.length)(hroom:c<l.length+1)
  (hk:w.heap[k]?=MI (MP #[MF ME ta,MF ME td] 201 (0,0))) (hlen:l.length<=1048577) :
  Ni MK 223 #[MG (MI ⟨g,0,MH⟩) l.length c,MF ME i,MG (MI ⟨k,0,MH⟩) 1 1] w (afs base (MG (MI ⟨g,0,MH⟩) l.length c) l (ta,td) i w):=by
 obtain⟨Y,E,O,J,R⟩:=OF ajv;have N:c=l.length:=by
  rcases hown.2 with⟨h,_⟩|⟨g',e,c9,h,_,_,h2,_⟩
  ·cases h
  ·simp only[N4]at h;omega
 subst N;have H:(Tryz.prog.info? 201).map (·.size)=MI 2:=by rw[E];simp[J]
 have b5:=(hown.lt g rfl).2;have b8:k<w.heap.size:=(Array.getElem?_eq_some_iff.1 hk).1;obtain⟨e,B,Z,r,y,G,L,d,b9⟩:=ag0 (P:=MK) w 198 3 198 201 Y _ ME 2 16 Ls Ol E O J R rfl (by decide) base ⟨g,0,MH⟩ i l.length (l.length+1-i) (WP (l.take i)) (by rw[YE,NH];omega)
  (fun j u hu=>by
   rw[abl,hown.cellAt j (by have:=(List.getElem?_eq_some_iff.1 hu).1;rw[YE,NH]at this;omega)];rw[<-ac4]at hu;rw[List.getElem?_take]at hu
   split at hu
   ·exact hu
   ·cases hu) (by omega) (by omega) (by unfold NE;omega) (by omega) hbase
 have Q:i+(l.length+1-i)=l.length+1:=by omega
 rw[Q]at r y L;rw[show((l.length+1-i:Nat):Int)=(l.length:Int)+1-(i:Int)by omega]at r;obtain⟨K,M,I,n⟩:=aa8 (P:=MK) Z 198 3 201 2 Ls H base w.heap.size (l.length+1) e _ y (i*2) (l.length+1-i) (e-i) ⟨k,0,MH⟩ 1 1 1 (WP [(ta,td)]) (by simp only[PR];split <;> omega) rfl (by simp[WP];omega)
  (fun j u hu=>by
   rw[abl,(d.cell (a:=⟨k,j,MH⟩) (v:=u) (by rw[MW w k j _ _ (0,0) hk];simpa [WP]using hu) (by simp))]) (abJ _)
 obtain⟨U,T,s,o⟩:=aa8 (P:=MK) K.drew 198 3 201 2 Ls H base w.heap.size (l.length+1) e _ I ((i+1)*2) (l.length-i) (e-(i+1)) ⟨g,i*2,MH⟩ (l.length-i) (l.length-i) (l.length-i) (WP (l.drop i)) (by simp only[PR];split <;> omega) (by rw[YE,NJ]) (by rw[YE,NJ];omega)
  (fun j u hu=>by
   rw[aas];have q:=(List.getElem?_eq_some_iff.1 hu).1;rw[YE,NJ]at q;have V:w.cell? ⟨g,i*2+j,MH⟩=MI u:=by
    rw[hown.cellAt _ (by omega),<-hu,<-ajH,Pa]
   exact n.cell (a:=⟨g,i*2+j,MH⟩) (d.cell V (by simp)) (by simp;omega)) (abJ _)
 have D:(WP (l.take i)++B).take (i*2)++WP [(ta,td)]++(WP (l.take i)++B).drop (i*2+(WP [(ta,td)]).length)=WP (l.take i++[(ta,td)])++B.drop 2:=by
  have z:(WP (l.take i)).length=i*2:=by rw[YE,NH];omega
  rw[<-z,Qb,aa7,Qa];simp[WP]
 have C:∀ys:List M7,((WP (l.take i++[(ta,td)])++ys).take ((i+1)*2)++WP (l.drop i)++(WP (l.take i++[(ta,td)])++ys).drop ((i+1)*2+(WP (l.drop i)).length))=WP (YA l (ta,td) i)++ys.drop ((l.length-i)*2):=fun ys=>by
  have z:(WP (l.take i++[(ta,td)])).length=(i+1)*2:=by rw[YE];simp;omega
  rw[<-z,Qb,Qa,YE (l.drop i),NJ,YA,aa7,aa7];simp[WP]
 rw[D,C]at s;rw[List.drop_drop,PI (by rw[G];omega),OG]at s;have F:w.grownBy U (MG (MI ⟨g,0,MH⟩) l.length l.length).ownBlock :=
  ⟨o.os.trans (n.os.trans d.os),o.tape.trans (n.tape.trans d.tape),o.output.trans (n.output.trans d.output),Nm d.size (Nm n.size o.size),fun j q _=>by
   rw[o.block j (M8 q (Nm d.size n.size)) (by simp;omega)];show K.heap[j]?=_;rw[n.block j (M8 q d.size) (by simp;omega),d.block j q (by simp)]⟩
 have A:M6 (_/\_/\_/\_/\_):=⟨r,M,T,s,F⟩;have c8:(i:Int)<=(l.length:Int):=by omega
 have c7:(i:Int)<(l.length:Int)+1:=by omega
 have b6:¬e=i:=by omega
 have b4:¬e=i+1:=by omega
 have b7:¬l.length=i:=by omega
 have a0:((i:Int) == (l.length:Int))=false:=by simp;omega
 clear r y I s d n o G hown hk D C F;go_enter Um,Ub
 go_wp2_with (first|(at_builtin;refine Lib.wpList_append_run _ rfl _ _ _ _ rfl _ _ rfl rfl _ _ A.out.1 ?_))
 go_region
 go_wp2;go_ret;exact⟨w.heap.size,e,rfl,A.out.2.2.2.1,A.out.2.2.2.2,NF (MV _)⟩
theorem av2(base g c:Nat)(l:List Tm)(ta td:Int)(i k:Nat)(w:MO)(hown:w.ownsRow base 201 2 (MG (MI ⟨g,0,MH⟩) l.length c) l.length (WP l))(hbase:base<=w.heap.size)(hi:i<l.length)(hroom:l.length+1<=c)(hkg:k≠g)
  (hk:w.heap[k]?=MI (MP #[MF ME ta,MF ME td] 201 (0,0))) (hlen:l.length<=1048577) :
  Ni MK 223 #[MG (MI ⟨g,0,MH⟩) l.length c,MF ME i,MG (MI ⟨k,0,MH⟩) 1 1] w (afs base (MG (MI ⟨g,0,MH⟩) l.length c) l (ta,td) i w):=by
 obtain⟨i0,M,b9,N,d6⟩:=OF ajv;have F:(Tryz.prog.info? 201).map (·.size)=MI 2:=by rw[M];simp[N]
 obtain⟨d,z,G,y,D,L⟩:∃d:Array M7,w.heap[g]?=MI (MP d 201 (0,0))/\c<=NE/\d.size=c*2/\d.toList.take (l.length*2)=WP l/\base<=g:=by
  rcases hown.2 with⟨h,_⟩|⟨g',d7,d,h,hb,R,h2,h3,V,Y⟩
  ·cases h
  ·simp only[N4,Qs,Q1,and_true,true_and]at h
   obtain⟨rfl,rfl⟩:=h;exact⟨d,R,h3,V,Y,hb⟩
 have q:w.ownsRow base 201 2 (MG (MI ⟨g,0,MH⟩) (l.length+1) c) (l.length+1) (d.toList.take ((l.length+1)*2)):=
  ⟨by simp only[NH,Om,y];omega,NF ⟨g,c,d,rfl,L,z,hroom,G,y,rfl⟩⟩
 have J:d.toList.take ((l.length+1)*2)=WP l++(d.toList.drop (l.length*2)).take 2:=by
  rw[<-D,show(l.length+1)*2=l.length*2+2 by omega,List.take_add]
 rw[J]at q;have s:((d.toList.drop (l.length*2)).take 2).length=2:=by simp only[NH,NJ,Om,y];omega
 generalize (d.toList.drop (l.length*2)).take 2=sp at q s;have b5:=(hown.lt g rfl).2;obtain⟨w2,c9,C,n⟩:=aa8 (P:=MK) w.drew 198 3 201 2 Ls F base g (l.length+1) c _ q ((i+1)*2) (l.length-i) (c-(i+1)) ⟨g,i*2,MH⟩ (l.length+1-i) (c-i) (l.length-i) (WP (l.drop i)) (by simp only[PR];split <;> omega) (by rw[YE,NJ]) (by rw[YE,NJ];omega)
  (fun j u hu=>by
   rw[aas];have r:=(List.getElem?_eq_some_iff.1 hu).1;rw[YE,NJ]at r;have Z:w.cell? ⟨g,i*2+j,MH⟩=MI u:=by
    rw[hown.cellAt _ (by omega),<-hu,<-ajH,Pa]
   exact Z) (abJ _)
 obtain⟨T,b8,A,o⟩:=aa8 (P:=MK) w2 198 3 201 2 Ls F base g (l.length+1) c _ C (i*2) (l.length+1-i) (c-i) ⟨k,0,MH⟩ 1 1 1 (WP [(ta,td)]) (by simp only[PR];split <;> omega) rfl (by simp[WP];omega)
  (fun j u hu=>by
   rw[abl,(n.cell (a:=⟨k,j,MH⟩) (v:=u) (show w.cell? _=_ by rw[MW w k j _ _ (0,0) hk];simpa [WP]using hu) (by simp;omega))]) (abJ _)
 have B:∀xs:List M7,xs=(WP l++sp).take ((i+1)*2)++WP (l.drop i)++(WP l++sp).drop ((i+1)*2+(WP (l.drop i)).length)->xs.take (i*2)++WP [(ta,td)]++xs.drop (i*2+(WP [(ta,td)]).length)=WP (YA l (ta,td) i):=fun xs hxs=>by
  have Q:(WP l++sp).drop ((i+1)*2+(WP (l.drop i)).length)=[]:=PI (by rw[Ns,YE,YE,NJ,s];omega);have O:(WP l++sp).take ((i+1)*2)=WP (l.take (i+1)):=by
   rw[ZqA (by rw[YE];omega),ac4]
  rw[Q,O,OG]at hxs;have H:(WP (l.take (i+1))).length=(i+1)*2:=by rw[YE,NH];omega
  have e4:xs.take (i*2)=WP (l.take i):=by
   rw[hxs,ZqA (by rw[H];omega),ac4,List.take_take,show min i (i+1)=i by omega]
  have U:xs.drop (i*2+(WP [(ta,td)]).length)=WP (l.drop i):=by
   rw[hxs,show i*2+(WP [(ta,td)]).length=(WP (l.take (i+1))).length by rw[H];simp[WP];omega,List.drop_left]
  rw[e4,U,YA,aa7];simp[WP]
 rw[B _ rfl]at A;have E:w.grownBy T (MG (MI ⟨g,0,MH⟩) l.length c).ownBlock :=
  ⟨o.os.trans n.os,o.tape.trans n.tape,o.output.trans n.output,Nm n.size o.size,fun j r hne=>by
   rw[o.block j (M8 r n.size) hne];exact n.block j r hne⟩
 have K:∀lb cb,(callFunc 246 #[MG (MI ⟨k,0,MH⟩) 1 1,MG (MI ⟨g,(i+1)*2,MH⟩) lb cb]).run MK w=.ok (.value (M3 Nb)) w:=fun lb cb=>by
  rw[run_callFunc_extern Tryz.func246 (by kernel_rfl) (by kernel_rfl) (by kernel_rfl) (e:=P9 #[198,198] #[4]) (by kernel_rfl),
   Lib.run_overlaps_apart w 198 4 201 Ls 2 Tryz.sizeOf201 ⟨k,0,MH⟩ ⟨g,(i+1)*2,MH⟩ 1 1 lb cb hkg 201 201 2 d.size (by simp[QO,hk]) (by simp[QO,z]) (by omega) (by simp[Ng,hk]) (by simp[Ng,hk])]
  rfl
 have I:M6 (_/\_):=⟨A,E⟩;have c8:(i:Int)<=(l.length:Int):=by omega
 have c7:(i:Int)<=(l.length:Int)+1:=by omega
 have b6:¬c=i:=by omega
 have b4:¬c=i+1:=by omega
 have a0:((i:Int) == (l.length:Int))=false:=by simp;omega
 have b7:(l.length:Int)+1<=(c:Int):=by omega
 unfold NE at G;clear C A n o hown q hk B E z D J s;go_enter Um,Ub
 go_wp2_with (simp only[K])
 go_region
 go_wp2;go_ret;exact⟨g,c,rfl,I.out.1,I.out.2,Nt rfl⟩
theorem avZ(base:Nat)(v:M7)(l:List Tm)(ta td:Int)(i k:Nat)(w:MO)(hown:w.ownsRow base 201 2 v l.length (WP l))(hbase:base<=w.heap.size)(hi:i<=l.length)(hkv:v.ownBlock≠MI k)
  (hk:w.heap[k]?=MI (MP #[MF ME ta,MF ME td] 201 (0,0))) (hlen:l.length<=1048577) :
  Ni MK 223 #[v,MF ME i,MG (MI ⟨k,0,MH⟩) 1 1] w (afs base v l (ta,td) i w):=by
 rcases Oq i l.length with d|j
 ·obtain⟨g,c,rfl,_⟩:=hown.form (by omega)
  rcases Oq c (l.length+1)with h|h
  ·exact av1 base g c l ta td i k w hown hbase d h hk hlen
  ·exact av2 base g c l ta td i k w hown hbase d h (fun e=>hkv (by rw[e];rfl)) hk hlen
 ·obtain rfl:i=l.length:=by omega
  exact av0 base v l ta td k w hown hbase hk hlen
section
open Go.Maps (Keyed int_keyed keyOf_int_mk)
theorem anX(W:MO):(zeroValue 3).run MK W=.ok (MF ME 0) W:=by kernel_rfl
theorem agW:Keyed MK 3:=int_keyed Ol
def aaj(w:MO)(b n:Nat)(f:Int->Option Int):Prop :=
 ∃D:DataW Unit,w.ownsMap MK 3 (plainElem MK 3) b n D/\∀id,(N6 ME id).wf=Nw->Maps.has D (N6 ME id)=(f id).isSome/\∀x,f id=MI x->D.atKey (N6 ME id) (.lit (N6 ME 0))=.lit (N6 ME x)
theorem aaj.Gf{w:MO}{n:Nat}{f:Int->Option Int}(h:aaj w b n f)(hb:w'.heap[b]?=w.heap[b]?):aaj w' b n f:=by
 obtain⟨D,⟨i,d,j,l⟩,e⟩:=h;exact⟨D,⟨i,d,hb.trans j,l⟩,e⟩
theorem aaj.lt{w:MO}{n:Nat}{f:Int->Option Int}(h:aaj w b n f):b<w.heap.size:=by
 obtain⟨D,⟨j,e,d,l⟩,i⟩:=h;exact(Array.getElem?_eq_some_iff.1 d).1
structure WM(w:MO)(base T B M n:Nat)(now:Int)(vs:List M7)(ls:List (List Tm))(f:Int->Option Int):Prop where
 box:w.heap[T]?=MI (MP #[MF ME now,MG (MI ⟨B,0,MH⟩) 25 25,P0 (MI M)] 285 (0,0))
 own:WZ w base (MG (MI ⟨B,0,MH⟩) 25 25) vs ls
 map:aaj w M n f
 offT:∀u∈MG (MI ⟨B,0,MH⟩) 25 25::vs,u.ownBlock≠MI T
 offM:∀u∈MG (MI ⟨B,0,MH⟩) 25 25::vs,u.ownBlock≠MI M
 hT:base<=T
 hM:base<=M
 hTM:T≠M
 len:ls.length=25
theorem YS{w:MO}{b:M7}{T:NU}(h:w.heap[g]?=MI (MP #[a,b,c] T (0,0))):w.cell? ⟨g,0,MH⟩=MI a/\w.cell? ⟨g,1,MH⟩=MI b/\w.cell? ⟨g,2,MH⟩=MI c/\g<w.heap.size:=by
 refine⟨by simp[Nl,h],by simp[Nl,h],by simp[Nl,h],?_⟩;exact(Array.getElem?_eq_some_iff.1 h).1
theorem WM.Gf{w:MO}{base T B M n:Nat}{now:Int}{vs:List M7}{ls:List (List Tm)}{f:Int->Option Int}(h:WM w base T B M n now vs ls f)(hk:∀g,base<=g->g<w.heap.size->w'.heap[g]?=w.heap[g]?):WM w' base T B M n now vs ls f :=
 ⟨(hk T h.hT (Array.getElem?_eq_some_iff.1 h.box).1).trans h.box,h.own.Gf hk,h.map.Gf (hk M h.hM h.map.lt),h.offT,h.offM,h.hT,h.hM,h.hTM,h.len⟩
theorem WM.below{w:MO}{base T B M n:Nat}{now:Int}{vs:List M7}{ls:List (List Tm)}{f:Int->Option Int}(h:WM w base T B M n now vs ls f)(hb:MQ w.heap.size w w'):WM w' base T B M n now vs ls f :=
 h.Gf fun g _ hg=>hb.block g hg
theorem aju(T M n:Nat)(f:Int->Option Int)(id:Int)(w:MO)(hc:w.cell? ⟨T,2,MH⟩=MI (P0 (MI M)))(hm:aaj w M n f)(hid:(N6 ME id).wf=Nw) :
  Ni MK 178 #[Na (MI ⟨T,0,MH⟩),MF ME id] w fun r w'=>r=MN (M3 (f id).isSome)/\w'=w:=by
 obtain⟨D,e,j⟩:=hm;have l:keyOf MK 3 (MF ME id)=MI (N6 ME id):=Qg Ol hid;obtain⟨b,d⟩:∃b,b=Maps.has D (N6 ME id):=⟨_,rfl⟩;have o:M6 (b=(f id).isSome):=by rw[d];exact(j id hid).1
 have i:M6 (_/\_):=⟨e,d⟩;clear j d e;rw[<-o.out];go_enter Tryz.func178,Tryz.ntmps178
 go_wp2_with (first|(at_lookup;refine wpList_lookup_own_ok_int _ rfl _ _ 283 rfl 3 3 ME agW ay2 Ol (anX _) M n D rfl i.out.1 _ _ rfl l ?_;rw[<-i.out.2];intro c s q))
 go_ret;exact⟨rfl,rfl⟩
end
section
open Go.Sort (grow grow_empty grow_grow alloc_eq_grow cell?_grow heap_grow_old)
def acz(a:List Tm)(t:Tm):Bool:=match a.getLast? with|none=>Nw|some x=>Nn (Xe x t<0)
theorem acA(w:MO)(q:Nat)(os:Array Obj):MQ w.heap.size w (Oj (w.drewN q) os):=
 ⟨rfl,rfl,rfl,by simp[Oj,World.drewN],fun k hk=>heap_grow_old (w.drewN q) os hk⟩
theorem aer{now:Int}(h:Zg now t=Nw)(hn:0<=now):0<=t.1/\t.1<=4398046511104/\(N6 ME t.2).wf=true:=by
 have h:=(ada now t).1 h;exact⟨by omega,by omega,aez (by omega) (by omega)⟩
theorem ajr(x y n:Int)(w:MO)(hn:0<=n)(hn2:n<=1099511627776) :
  Ni MK 177 #[Ny #[MF ME x,MF ME y],MF ME n] w fun r w'=>r=MN (M3 (Zg n (x,y)))/\∃q os,w'=Oj (w.drewN q) os :=
 (anM x y n w hn hn2).mono fun r w' h=>⟨h.1,0,#[_],h.2.trans (PQ w _)⟩
theorem ajE(x n:Int)(w:MO)(hB:Xo w)(hx:0<=x)(hx2:x<=4398046511104)(hn:0<=n)(hn2:n<=4398046511104) :
  Ni MK 205 #[MF ME x,MF ME n] w fun r w'=>r=MN (MF ME (Xq x n))/\∃q os,w'=Oj (w.drewN q) os :=
 (ajD x n w hB hx hx2 hn hn2).mono fun r w' h=>by
  obtain⟨d,q,e⟩:=h;exact⟨d,q,#[],by rw[grow_empty];exact e⟩
theorem anO(T M n:Nat)(f:Int->Option Int)(id:Int)(w:MO)(hc:w.cell? ⟨T,2,MH⟩=MI (P0 (MI M)))(hm:aaj w M n f)(hid:(N6 ME id).wf=Nw) :
  Ni MK 178 #[Na (MI ⟨T,0,MH⟩),MF ME id] w fun r w'=>r=MN (M3 (f id).isSome)/\∃q os,w'=Oj (w.drewN q) os :=
 (aju T M n f id w hc hm hid).mono fun r w' h=>⟨h.1,0,#[],by rw[grow_empty];exact h.2⟩
theorem avK(a b c d:Int)(w:MO) :
  Ni MK 222 #[Ny #[MF ME a,MF ME b],Ny #[MF ME c,MF ME d]] w fun r w'=>r=MN (MF ME (Xe (a,b) (c,d)))/\∃q os,w'=Oj (w.drewN q) os :=
 (anK a b c d w).mono fun r w' h=>by
  refine⟨h.1,1,#[MP #[MF ME a,MF ME b] 201,MP #[MF ME c,MF ME d] 201,MP #[MF ME (YK a c),MF ME (YK b d)] 3],?_⟩;rw[h.2,PQ,PQ,PQ,grow_grow,grow_grow];rfl
theorem avN(base T B M n:Nat)(now:Int)(vs:List M7)(ls:List (List Tm))(f:Int->Option Int)(ta td:Int)(i:Nat)(w:MO)(hB:Xo w)(hT:WM w base T B M n now vs ls f)(hn:0<=now)(hn2:now<=1099511627776)(hi:i<25)
  (h:(Zg now (ta,td) && Nn (Xq ta now=i) && !(f td).isSome)=Nb) :
  Ni MK 201 #[Na (MI ⟨T,0,MH⟩),Ny #[MF ME ta,MF ME td],MF ME i] w fun r w'=>r=MN (M3 Nb)/\MQ w.heap.size w w':=by
 have XY:=XY;obtain⟨J,O,I,F⟩:=YS hT.box;have z:=hT.map;obtain⟨d,l⟩:∃d,d=w.alloc (MP #[MF ME ta,MF ME td] 201):=⟨_,rfl⟩;have j:MQ w.heap.size w d:=by rw[l];exact(MY _ _).alloc (MV _) _
 have H:w.heap.size<d.heap.size:=by rw[l];simp
 have E:T<d.heap.size:=by omega
 have U:∀n os,(Oj (d.drewN n) os).cell? ⟨w.heap.size,0,MH⟩=MI (MF ME ta):=Ob H (by rw[l];simp);have Q:∀n os,(Oj (d.drewN n) os).cell? ⟨w.heap.size,1,MH⟩=MI (MF ME td):=Ob H (by rw[l];simp);have R:∀n os,(Oj (d.drewN n) os).cell? ⟨T,0,MH⟩=MI (MF ME now):=Ob E ((j.cell (p:=⟨T,0,MH⟩) F).trans J);have N:∀n os,(Oj (d.drewN n) os).cell? ⟨T,2,MH⟩=MI (P0 (MI M)):=Ob E ((j.cell (p:=⟨T,2,MH⟩) F).trans I);have D:∀n os,Xo (Oj (d.drewN n) os):=fun n os=>(hB.below j).below (acA d n os)
 have G:∀q os,aaj (Oj (d.drewN q) os) M n f:=fun q os=>(z.Gf (j.block M z.lt)).Gf ((acA d q os).block M (M8 z.lt j.size))
 have e:M6 (_/\_/\_):=⟨D,G,j⟩;have C:M6 _:=l;clear D G j hT z J O I l;cases hfit:Zg now (ta,td)
 ·have A:M6 (∀W:MO,Ni MK 177 #[Ny #[MF ME ta,MF ME td],MF ME now] W fun r w'=>r=MN (M3 Nb)/\∃q os,w'=Oj (W.drewN q) os):=fun W=>by rw[<-hfit];exact ajr ta td now W hn hn2
  clear h;go_enter ayj,ayb
  go_wp2_with fail
  rw[<-C.out];refine NQ XY (by kernel_rfl) ?_
  repeat (first|go_big_quiet_skip|quiet_step (first|(go_at_call 177;exact NZ (A.out _))))
  refine Oy ?_;intro _ u;obtain⟨⟨v,s⟩,o⟩:=u;subst o;go_wp2;go_ret;exact⟨rfl,e.out.2.2.trans ((acA d v s).mono e.out.2.2.size)⟩
 ·have y:=aer hfit hn
  have A:M6 (∀W:MO,Ni MK 177 #[Ny #[MF ME ta,MF ME td],MF ME now] W fun r w'=>r=MN (M3 Nw)/\∃q os,w'=Oj (W.drewN q) os):=fun W=>by rw[<-hfit];exact ajr ta td now W hn hn2
  rw[hfit]at h;cases hpl:Nn (Xq ta now=i)
  ·have K:(Xq ta now != (i:Int))=true:=by simpa using hpl
   clear h hpl;go_enter ayj,ayb
   go_wp2_with fail
   rw[<-C.out];refine NQ XY (by kernel_rfl) ?_
   repeat (first|go_big_quiet_skip|quiet_step (first|(go_at_call 177;exact NZ (A.out _))|(go_at_call 205;exact NZ (ajE ta now _ (e.out.1 _ _) y.1 y.2.1 hn (by omega)))))
   refine Oy ?_;intro _ u;obtain⟨⟨v,s⟩,o⟩:=u;subst o;go_wp2;go_ret;exact⟨rfl,e.out.2.2.trans ((acA d v s).mono e.out.2.2.size)⟩
  ·have K:(Xq ta now != (i:Int))=false:=by simpa using hpl
   have L:(f td).isSome=true:=by rw[hpl]at h;simpa using h
   have P:M6 (∀q os,Ni MK 178 #[Na (MI ⟨T,0,MH⟩),MF ME td] (Oj (d.drewN q) os) fun r w'=>r=MN (M3 Nw)/\∃q' os',w'=Oj ((Oj (d.drewN q) os).drewN q') os'):=fun q os=>by rw[<-L];exact anO T M n f td _ (N _ _) (e.out.2.1 _ _) y.2.2
   clear h hpl;go_enter ayj,ayb
   go_wp2_with fail
   rw[<-C.out];refine NQ XY (by kernel_rfl) ?_
   repeat (first|go_big_quiet_skip|quiet_step (first|(go_at_call 177;exact NZ (A.out _))|(go_at_call 205;exact NZ (ajE ta now _ (e.out.1 _ _) y.1 y.2.1 hn (by omega)))|(go_at_call 178;exact NZ (P.out _ _))))
   refine Oy ?_;intro _ u;obtain⟨⟨v,s⟩,o⟩:=u;subst o;go_wp2;go_ret;exact⟨rfl,e.out.2.2.trans ((acA d v s).mono e.out.2.2.size)⟩
theorem aet{w:MO}{base:Nat}{v:M7}{vs:List M7}{ls:List (List Tm)}(h:WZ w base v vs ls)(i:Nat)(hi:i<ls.length):∃u,vs[i]?=MI u/\w.ownsRow base 201 2 u ls[i].length (WP ls[i]):=by
 have d:=h.each.1;exact⟨vs[i]'(by omega),MR _,h.each.2 i (by omega) hi⟩
theorem aes{w:MO}{base B n cap:Nat}{vs:List M7}{ls:List (List Tm)}(h:WZ w base (MG (MI ⟨B,0,MH⟩) n cap) vs ls)(hn:ls.length=n)(i:Nat)(hi:i<ls.length)(u:M7)(hu:vs[i]?=MI u):w.cell? ⟨B,i,MH⟩=MI u:=by
 have d:=h.row;rw[hn]at d;rw[d.cellAt i (by omega),hu]
theorem anN(base T B M n:Nat)(now:Int)(vs:List M7)(ls:List (List Tm))(f:Int->Option Int)(ta td:Int)(i:Nat)(w:MO)(hB:Xo w)(hT:WM w base T B M n now vs ls f)(hn:0<=now)(hn2:now<=1099511627776)(hi:i<25)
  (hfit:Zg now (ta,td)=Nw) (hpl:Xq ta now=i) (hhas:(f td).isSome=Nb) (l:List Tm) (hl:ls[i]?=MI l) (hll:l.length<=1048577) :
  Ni MK 201 #[Na (MI ⟨T,0,MH⟩),Ny #[MF ME ta,MF ME td],MF ME i] w fun r w'=>r=MN (M3 (acz l (ta,td)))/\MQ w.heap.size w w':=by
 have XY:=XY;obtain⟨t0,t1,t2,R⟩:=YS hT.box;have G:=hT.map;have Z:i<ls.length:=by rw[hT.len];exact hi
 obtain⟨u,hu,F⟩:=aet hT.own i Z;have c8:=aes hT.own hT.len i Z u hu;rw[MR Z]at hl;rw[NC hl]at F;have c9:B<w.heap.size:=(hT.own.row.lt B rfl).2;obtain⟨d,v⟩:∃d,d=w.alloc (MP #[MF ME ta,MF ME td] 201):=⟨_,rfl⟩;have e:MQ w.heap.size w d:=by rw[v];exact(MY _ _).alloc (MV _) _
 have C:w.heap.size<d.heap.size:=by rw[v];simp
 have b8:T<d.heap.size:=by omega
 have c1:d.cell? ⟨w.heap.size,0,MH⟩=MI (MF ME ta):=by rw[v];simp
 have c2:d.cell? ⟨w.heap.size,1,MH⟩=MI (MF ME td):=by rw[v];simp
 have k1:∀n os,(Oj (d.drewN n) os).cell? ⟨w.heap.size,0,MH⟩=MI (MF ME ta):=Ob C c1;have k2:∀n os,(Oj (d.drewN n) os).cell? ⟨w.heap.size,1,MH⟩=MI (MF ME td):=Ob C c2;have k3:∀n os,(Oj (d.drewN n) os).cell? ⟨T,0,MH⟩=MI (MF ME now):=Ob b8 ((e.cell (p:=⟨T,0,MH⟩) R).trans t0);have k4:∀n os,(Oj (d.drewN n) os).cell? ⟨T,2,MH⟩=MI (P0 (MI M)):=Ob b8 ((e.cell (p:=⟨T,2,MH⟩) R).trans t2);have b6:∀n os,Xo (Oj (d.drewN n) os):=fun n os=>(hB.below e).below (acA d n os)
 have Y:∀q os,aaj (Oj (d.drewN q) os) M n f:=fun q os=>(G.Gf (e.block M G.lt)).Gf ((acA d q os).block M (M8 G.lt e.size))
 have hb:=aer hfit hn;have HF:M6 (∀W:MO,Ni MK 177 #[Ny #[MF ME ta,MF ME td],MF ME now] W fun r w'=>r=MN (M3 Nw)/\∃q os,w'=Oj (W.drewN q) os):=fun W=>by rw[<-hfit];exact ajr ta td now W hn hn2
 have HS:M6 (∀q os,Ni MK 178 #[Na (MI ⟨T,0,MH⟩),MF ME td] (Oj (d.drewN q) os) fun r w'=>r=MN (M3 Nb)/\∃q' os',w'=Oj ((Oj (d.drewN q) os).drewN q') os'):=fun q os=>by rw[<-hhas];exact anO T M n f td _ (k4 _ _) (Y _ _) hb.2.2
 have d8:(Xq ta now != (i:Int))=false:=by simpa using hpl
 have A:M6 (_/\_/\_/\_):=⟨b6,Y,e,F⟩;have y:M6 (_/\_/\_/\_/\_/\_):=⟨c8,t1,c1,c2,c9,R⟩;have HW:M6 _:=v;obtain⟨D,K⟩:∃D,D=acz l (ta,td):=⟨_,rfl⟩;rw[<-K];have HA:M6 _:=K;obtain⟨p,c,rfl⟩:=Y6 F;clear b6 Y e hT G t0 t1 t2 v F c8 hu hl hpl hhas hfit c1 c2 K;have f8:(i:Int)<25:=by omega
 go_enter ayj,ayb
 go_wp2_with fail
 rw[<-HW.out];refine NQ XY (by kernel_rfl) ?_
 repeat (first|go_big_quiet_skip|quiet_step (first|(go_at_call 177;exact NZ (HF.out _))|(go_at_call 205;exact NZ (ajE ta now _ (A.out.1 _ _) hb.1 hb.2.1 hn (by omega)))|(go_at_call 178;exact NZ (HS.out _ _))))
 refine Oy ?_;intro _ Q;obtain⟨⟨nq,c7⟩,J⟩:=Q;subst J;have j:=acA d nq c7;generalize Oj (d.drewN nq) c7=w3 at j⊢;have H:MQ w.heap.size w w3:=A.out.2.2.1.trans (j.mono A.out.2.2.1.size);have d1:=(H.cell (p:=⟨T,1,MH⟩) y.out.2.2.2.2.2).trans y.out.2.1;have d2:=(H.cell (p:=⟨B,i,MH⟩) y.out.2.2.2.2.1).trans y.out.1;have d3:=(j.cell (p:=⟨w.heap.size,0,MH⟩) C).trans y.out.2.2.1;have d4:=(j.cell (p:=⟨w.heap.size,1,MH⟩) C).trans y.out.2.2.2.1;have b9:w.heap.size<w3.heap.size:=M8 C j.size;have z:M6 (_/\_):=⟨H,j⟩;clear j H k1 k2 k3 k4
 by_cases hnil:l=[]
 ·subst hnil
  have HE:M6 (D=Nw):=HA.out
  go_wp2_with fail
  go_region
  go_wp2;go_ret;exact⟨by rw[HE.out];rfl,z.out.1.drew⟩
 ·obtain⟨P,hP⟩:∃P,l.length=P+1:=⟨l.length-1,by have:=List.length_pos_iff.2 hnil;omega⟩
  have U:P<l.length:=by omega
  obtain⟨g,c',b4,d9,a0⟩:=A.out.2.2.2.form (by omega);simp only[N4]at b4;obtain⟨rfl,_,rfl⟩:=b4;have b7:g<w3.heap.size:=M8 a0 z.out.1.size;have E:=aaT l P U;rw[<-A.out.2.2.2.cellAt _ (by omega),<-A.out.2.2.2.cellAt _ (by omega)]at E;obtain⟨o,V⟩:∃o,l[P].1=o:=⟨_,rfl⟩;obtain⟨s,L⟩:∃s,l[P].2=s:=⟨_,rfl⟩;rw[V,L]at E;have e1:=(z.out.1.cell (p:=⟨g,P*2,MH⟩) a0).trans E.1;have e2:=(z.out.1.cell (p:=⟨g,P*2+1,MH⟩) a0).trans E.2;have b5:l.getLast?=MI (o,s):=by
   rw[List.getLast?_eq_getElem?,hP,Nat.add_sub_cancel,MR U];exact congrArg MI (Q8 V L)
  obtain⟨I,O⟩:∃I,I=Xe (o,s) (ta,td):=⟨_,rfl⟩;have HE:M6 (D=Nn (I<0)):=by show D=_;rw[HA.out,acz,b5,O]
  have HQ:M6 (∀W:MO,Ni MK 222 #[Ny #[MF ME o,MF ME s],Ny #[MF ME ta,MF ME td]] W fun r w'=>r=MN (MF ME I)/\∃q os,w'=Oj (W.drewN q) os):=fun W=>by rw[O];exact avK o s ta td W
  obtain⟨N,hN⟩:∃N,N=l.length:=⟨_,rfl⟩;rw[<-hN]at d2;have e8:((N:Int) == 0)=false:=by simp;omega
  have e7:IntKind.i64.wrap ((N:Int)-1)=(P:Int):=by rw[Ow];omega
  have f9:(P:Int)<(N:Int):=by omega
  have e9:(0:Int)<=(P:Int):=by omega
  have q1:∀n os,(Oj (w3.drewN n) os).cell? ⟨g,P*2,MH⟩=MI (MF ME o):=Ob b7 e1;have q2:∀n os,(Oj (w3.drewN n) os).cell? ⟨g,P*2+1,MH⟩=MI (MF ME s):=Ob b7 e2;have q3:∀n os,(Oj (w3.drewN n) os).cell? ⟨w.heap.size,0,MH⟩=MI (MF ME ta):=Ob b9 d3;have q4:∀n os,(Oj (w3.drewN n) os).cell? ⟨w.heap.size,1,MH⟩=MI (MF ME td):=Ob b9 d4;clear E V L b5 O hN hP U
  go_wp2_with fail
  refine NQ XY (by kernel_rfl) ?_
  repeat (first|go_big_quiet_skip|quiet_step (first|(go_at_call 222;exact NZ (HQ.out _))))
  refine Oy ?_;intro _ Q;obtain⟨⟨d7,d6⟩,J⟩:=Q;subst J;go_wp2;go_ret;exact⟨by rw[HE.out];rfl,z.out.1.trans ((acA w3 d7 d6).mono z.out.1.size)⟩
end
section
open Go.Sort (grow grow_empty grow_grow alloc_eq_grow cell?_grow heap_grow_old)
theorem WZ.Gd{w w1:MO}{base B n cap:Nat}{vs:List M7}{ls:List (List Tm)}(h:WZ w base (MG (MI ⟨B,0,MH⟩) n cap) vs ls)(hn:ls.length=n){i:Nat}(hi:i<ls.length){u u':M7}(hu:vs[i]?=MI u){l':List Tm}
  (hg:w.grownBy w1 u.ownBlock) (hu':w1.ownsRow base 201 2 u' l'.length (WP l')) (hl:∀g,u'.ownBlock=MI g->u.ownBlock=MI g\/w.heap.size<=g) :
  WZ (w1.setCell ⟨B,i,MH⟩ u') base (MG (MI ⟨B,0,MH⟩) n cap) (vs.set i u') (ls.set i l'):=by
 have F:=h.each.1;have o:i<vs.length:=by omega
 have q:=List.pairwise_cons.1 h.apart;have v:vs[i]=u:=by rw[MR o]at hu;exact NC hu
 have C:u.ownBlock≠MI B:=fun e=>q.1 u (by rw[<-v];exact Nk o) B rfl e
 have r:=List.pairwise_iff_getElem.1 q.2;have z:∀j (l:j<vs.length),j≠i->∀g,vs[j].ownBlock=MI g->u.ownBlock≠MI g:=fun j l hji g hg' e=>by
  rcases QM hji with d|d
  ·exact r j i l o d g hg' (by rw[v];exact e)
  ·exact r i j o l d g (by rw[v];exact e) hg'
 have H:=(h.row.lt B rfl).2;have s:∀j (l:j<vs.length) g,vs[j].ownBlock=MI g->base<=g/\g<w.heap.size:=fun j l g hg'=>(h.each.2 j l (by omega)).lt g hg'
 have hu'B:∀g,u'.ownBlock=MI g->g≠B:=fun g hg' e=>by
  rcases hl g hg' with d|d
  ·rw[e]at d;exact C d
  ·omega
 have D:w1.ownsRow base 198 1 (MG (MI ⟨B,0,MH⟩) n cap) n vs:=by
  have d:=h.row;rw[hn]at d;exact d.kept hg (NF (fun e=>C e.symm))
 have E:=(D.stored i u').1;refine⟨by rw[NA,hn];exact E,⟨by simp[F],fun j d h2=>?_⟩,?_⟩
 ·by_cases hji:j=i
  ·subst hji
   simp only[NW];exact W8 hu' fun g hg'=>MU _ _ _ _ (hu'B g hg')
  ·rw[Pe (Pi hji),Pe (Pi hji)]
   have l:j<vs.length:=by simpa using d
   refine W8 (h.each.2 j l (by omega)) fun g hg'=>?_
   rw[MU _ _ _ _ (fun e=>q.1 vs[j] (Nk l) B rfl (by rw[hg'];exact congrArg MI e))];exact hg.block g (s j l g hg').2 (fun e=>z j l hji g hg' e.symm)
 ·refine List.pairwise_cons.2 ⟨fun x hx g hg' e=>?_,List.pairwise_iff_getElem.2 fun a b ha hb hab g hga e=>?_⟩
  ·obtain⟨j,l,rfl⟩:=NV hx
   have G:g=B:=(NC hg').symm
   by_cases hji:j=i
   ·subst hji
    simp only[NW]at e;exact hu'B g e G
   ·rw[Pe (Pi hji)]at e
    exact q.1 _ (Nk (by simpa using l)) g hg' e
  ·have A:a<vs.length:=by simpa using ha
   have y:b<vs.length:=by simpa using hb
   by_cases hai:a=i
   ·subst hai
    simp only[NW]at hga;rw[Pe (by omega)]at e;rcases hl g hga with d|d
    ·exact z b y (by omega) g e d
    ·have:=(s b y g e).2;omega
   ·rw[Pe (Pi hai)]at hga
    by_cases hbi:b=i
    ·subst hbi
     simp only[NW]at e;rcases hl g e with d|d
     ·exact z a A hai g hga d
     ·have:=(s a A g hga).2;omega
    ·rw[Pe (Pi hbi)]at e
     exact r a b A y hab g hga e
def aex(f:Int->Option Int)(id x k:Int):Option Int:=if k=id then MI x else f k
theorem aaj.Gd{w:MO}{n:Nat}{f:Int->Option Int}(h:aaj w b n f)(hn:n<NE){id x:Int}(hid:(N6 ME id).wf=Nw)(hx:(N6 ME x).wf=Nw):
  ∃w',(Instr.mapUpdate 283 (P0 (MI b)) (MF ME id) (MF ME x)).run MK w=.ok () w'/\aaj w' b (n+1) (aex f id x)/\w.grownBy w' (MI b):=by
 obtain⟨D,d,q⟩:=h;obtain⟨w',r,o,l⟩:=d.update agW ay2 hn (Qg Ol hid) (plainElem_int Ol hx);refine⟨w',r,⟨_,o,fun k hk=>?_⟩,l⟩;have j:Maps.IsMap D:=by obtain⟨u,s,_,_,_,rfl⟩:=d;exact⟨_,rfl⟩
 by_cases e:k=id
 ·subst e
  unfold aex;rw[Nh rfl];refine⟨Maps.has_put_same (k:=N6 ME k) j trivial _,fun y hy=>?_⟩;rw[Maps.atKey_put_same (k:=N6 ME k) j trivial,NC hy]
 ·unfold aex
  rw[Nf e];have i:N6 ME k≠N6 ME id:=fun h=>e (by cases h;rfl)
  rw[Maps.has_put_other i,Maps.atKey_put_other i];exact q k hk
theorem avS{w:MO}(h1:w.cell? a1=MI v1)(h2:w.cell? a2=MI v2)(h3:w.cell? a3=MI v3)(h4:w.cell? a4=MI v4)(hf:w.frozen? a2=Nb)
  (e1:w'.heap[a1.block]?=w.heap[a1.block]?) (e2:w'.heap[a2.block]?=w.heap[a2.block]?) (e3:w'.heap[a3.block]?=w.heap[a3.block]?) (e4:w'.heap[a4.block]?=w.heap[a4.block]?) :
  w'.cell? a1=MI v1/\w'.cell? a2=MI v2/\w'.cell? a3=MI v3/\w'.cell? a4=MI v4/\w'.frozen? a2=false :=
 ⟨(NG e1).trans h1,(NG e2).trans h2,(NG e3).trans h3,(NG e4).trans h4,(OM e2).trans hf⟩
theorem WZ.If{w:MO}{base:Nat}{v:M7}{vs:List M7}{ls:List (List Tm)}{row:Option Nat}(h:WZ w base v vs ls)(hg:w.grownBy w' row)(ho:∀u∈v::vs,∀g,u.ownBlock=MI g->MI g≠row):WZ w' base v vs ls:=by
 refine⟨W8 h.row fun g hg'=>hg.block g (h.row.lt g hg').2 (ho v (NM ..) g hg'),⟨h.each.1,fun i h1 h2=>?_⟩,h.apart⟩;have d:=h.each.2 i h1 h2;exact W8 d fun g hg'=>hg.block g (d.lt g hg').2 (ho _ (NB _ (Nk h1)) g hg')
def adO(w:MO)(vs:List M7)(T B M g:Nat):Prop:=g<w.heap.size/\g≠T/\g≠B/\g≠M/\∀u∈vs,u.ownBlock≠MI g
theorem ajG(base T B M n:Nat)(now:Int)(vs:List M7)(ls:List (List Tm))(f:Int->Option Int)(ta td:Int)(i j:Nat)(w:MO)(hB:Xo w)(hT:WM w base T B M n now vs ls f)(hb0:1<base)(hbase:base<=w.heap.size)(hn:0<=now)(hn2:now<=1099511627776)(hnn:n<NE)
  (hi:i<25) (hta:0<=ta/\ta<=4398046511104) (htd:(N6 ME td).wf=Nw) (hpl:Xq ta now=i) (l:List Tm) (hl:ls[i]?=MI l) (hll:l.length<=1048576) (hj:j<=l.length)
  (h1:∀k (hk:k<l.length),k<j->Xe l[k] (ta,td)<0) (h2:∀k (hk:k<l.length),j<=k->¬Xe l[k] (ta,td)<0) :
  Ni MK 179 #[Na (MI ⟨T,0,MH⟩),Ny #[MF ME ta,MF ME td]] w fun r w'=>r=MN (Nv #[])/\∃vs',WM w' base T B M (n+1) now vs' (ls.set i (YA l (ta,td) j)) (aex f td i)/\MQ base w w'/\∀g,adO w vs T B M g->w'.heap[g]?=w.heap[g]?/\adO w' vs' T B M g:=by
 have XY:=XY;obtain⟨t0,t1,t2,d9⟩:=YS hT.box;have f8:i<ls.length:=by rw[hT.len];exact hi
 obtain⟨u,N,b8⟩:=aet hT.own i f8;have i9:=aes hT.own hT.len i f8 u N;have i4:=hl;rw[MR f8]at hl;rw[NC hl]at b8;have j6:B<w.heap.size:=(hT.own.row.lt B rfl).2;obtain⟨s,R⟩:∃s,s=w.alloc (MP #[MF ME ta,MF ME td] 201):=⟨_,rfl⟩;have V:MQ w.heap.size w s:=by rw[R];exact(MY _ _).alloc (MV _) _
 have e9:w.heap.size<s.heap.size:=by rw[R];simp
 have j8:T<s.heap.size:=by omega
 have g9:B<s.heap.size:=by omega
 have c1:s.cell? ⟨w.heap.size,0,MH⟩=MI (MF ME ta):=by rw[R];simp
 have c2:s.cell? ⟨w.heap.size,1,MH⟩=MI (MF ME td):=by rw[R];simp
 have c3:s.cell? ⟨T,0,MH⟩=MI (MF ME now):=(V.cell (p:=⟨T,0,MH⟩) d9).trans t0;have c4:s.cell? ⟨T,1,MH⟩=MI (MG (MI ⟨B,0,MH⟩) 25 25):=(V.cell (p:=⟨T,1,MH⟩) d9).trans t1;have c5:s.cell? ⟨B,i,MH⟩=MI u:=(V.cell (p:=⟨B,i,MH⟩) j6).trans i9;have k8:M6 (∀q,Ni MK 205 #[MF ME ta,MF ME now] (s.drewN q) fun e w'=>e=MN (MF ME (i:Int))/\∃m,w'=(s.drewN q).drewN m):=fun q=>by
  rw[<-hpl];exact ajD ta now _ ((hB.below V).IQ q) hta.1 hta.2 hn (by omega)
 have d:M6 (_/\_/\_/\_/\_/\_):=⟨hT,b8,V,h1,h2,i4⟩;have HW:M6 _:=R;obtain⟨p,c,rfl⟩:=Y6 b8;clear hT b8 V h1 h2 R hB t0 t1 t2 hl i4 i9 hpl;have m3:(i:Int)<25:=by omega
 go_enter UW,UI
 go_wp2_with fail
 rw[<-HW.out]
 go_quiet ((go_at_call 205;exact Qe (k8.out _)))
 have L:MQ s.heap.size s (s.drewN nq):=ajp (MY _ _) nq;generalize s.drewN nq=w3 at L⊢;have d1:=(L.cell (p:=⟨w.heap.size,0,MH⟩) e9).trans c1;have d2:=(L.cell (p:=⟨w.heap.size,1,MH⟩) e9).trans c2;have d4:=(L.cell (p:=⟨T,1,MH⟩) j8).trans c4;have d5:=(L.cell (p:=⟨B,i,MH⟩) g9).trans c5;have g8:MQ w.heap.size w w3:=d.out.2.2.1.trans (L.mono d.out.2.2.1.size);have Y:M6 (_/\_):=⟨L,g8⟩;clear L g8 c1 c2 c3 c4 c5;have f9:∀W:MO,MQ w3.heap.size w3 W->Ni MK 221 #[MG p l.length c,Ny #[MF ME ta,MF ME td],PB (PD 222) #[] #[]] W fun r w'=>∃b,r=MN (Nv #[MF ME j,M3 b])/\MQ W.heap.size W w':=fun W hW =>
  awl _ l ta td j W (Yr (W8 d.out.2.1 fun g hg=>(hW.block g (M8 (d.out.2.1.lt g hg).2 Y.out.2.size)).trans (Y.out.2.block g (d.out.2.1.lt g hg).2))) hj d.out.2.2.2.1 (fun k hk hjk=>by have:=d.out.2.2.2.2.1 k hk hjk;omega) (by omega)
 have HS:M6 _:=f9;clear f9
 go_wp2_with fail
 go_region_held3 (fun W=>W.cell? ⟨w.heap.size,0,MH⟩=MI (MF ME ta)/\W.cell? ⟨w.heap.size,1,MH⟩=MI (MF ME td)/\W.cell? ⟨T,1,MH⟩=MI (MG (MI ⟨B,0,MH⟩) 25 25)/\W.cell? ⟨B,i,MH⟩=MI (MG p l.length c)/\MQ w3.heap.size w3 W) (first|exact adb d1 d2 d4 d5 ((MY _ _).drew)|exact adb d1 d2 d4 d5 (Za c8)) (first|(go_at_call 221;refine(HS.out _ ((MY _ _).drew)).mono ?_;rintro r o ⟨bb,rfl,c8⟩))
 have K:MQ w.heap.size w o:=Y.out.2.trans ((Za c8).mono Y.out.2.size);have Z:MQ w3.heap.size w3 o:=Za c8;have C:=d.out.1.below K;have c9:=W8 d.out.2.1 fun g hg=>K.block g (d.out.2.1.lt g hg).2
 have m0:=K.size;have l9:=Z.size;have g7:w.heap.size<w3.heap.size:=M8 e9 Y.out.1.size;have e1:=(Z.cell (p:=⟨w.heap.size,0,MH⟩) g7).trans d1;have e2:=(Z.cell (p:=⟨w.heap.size,1,MH⟩) g7).trans d2;have e4:=(K.cell (p:=⟨T,1,MH⟩) d9).trans (YS d.out.1.box).2.1;have e5:=(Z.cell (p:=⟨B,i,MH⟩) (M8 g9 Y.out.1.size)).trans d5;have e6:o.frozen? ⟨B,i,MH⟩=false:=by
  have i8:=C.own.row;rw[C.len]at i8;exact i8.frozenAt i
 have b5:(MG p l.length c).ownBlock≠MI T:=d.out.1.offT _ (NB _ (Nu N));have b4:(MG p l.length c).ownBlock≠MI M:=d.out.1.offM _ (NB _ (Nu N));have c7:(MG p l.length c).ownBlock≠MI B:=fun e=>(List.pairwise_cons.1 d.out.1.own.apart).1 _ (Nu N) B rfl e
 have b6:(MG p l.length c).ownBlock≠MI w.heap.size:=fun e=>by have:=(d.out.2.1.lt _ e).2;omega
 have i6:(MG p l.length c).ownBlock≠MI o.heap.size:=fun e=>by have:=(d.out.2.1.lt _ e).2;omega
 obtain⟨I,U⟩:∃I,I=(o.alloc (MP #[MF ME ta,MF ME td] 201)).drew:=⟨_,rfl⟩;have D:MQ o.heap.size o I:=by rw[U];exact((MY _ _).alloc (MV _) _).drew
 have d6:Ni MK 223 #[MG p l.length c,MF ME j,MG (MI ⟨o.heap.size,0,MH⟩) 1 1] I (afs base (MG p l.length c) l (ta,td) j I):=
  avZ base _ l ta td j o.heap.size I (W8 c9 fun g hg=>D.block g (c9.lt g hg).2) (by have:=D.size;omega) hj i6 (by rw[U];exact M1 o _) (by omega)
 rw[U]at d6;have G:∀W:MO,I.grownBy W (MG p l.length c).ownBlock->∀k,k<o.heap.size->(MG p l.length c).ownBlock≠MI k->W.heap[k]?=o.heap[k]?:=fun W hg k hk hne =>
  (hg.block k (M8 hk D.size) (fun e=>hne e.symm)).trans (D.block k hk)
 have j3:∀W:MO,((o.alloc (MP #[MF ME ta,MF ME td] 201)).drew).grownBy W (MG p l.length c).ownBlock->W.cell? ⟨w.heap.size,0,MH⟩=MI (MF ME ta)/\W.cell? ⟨B,i,MH⟩=MI (MG p l.length c)/\W.cell? ⟨w.heap.size,1,MH⟩=MI (MF ME td)/\W.cell? ⟨T,1,MH⟩=MI (MG (MI ⟨B,0,MH⟩) 25 25)/\W.frozen? ⟨B,i,MH⟩=false:=fun W hg=>by
  rw[<-U]at hg;exact avS e1 e5 e2 e4 e6 (G W hg _ (by show w.heap.size<_;omega) b6) (G W hg _ (by show B<_;omega) c7) (G W hg _ (by show w.heap.size<_;omega) b6) (G W hg _ (by show T<_;omega) b5)
 have J:M6 (_/\_/\_/\_/\_/\_/\_):=⟨d6,j3,G,C,K,U,D⟩;clear d6 j3 G C K Z c9 d1 d2 d4 d5 b5 b4 c7 b6 i6 c8 U D;have k0:T≠B:=fun e=>d.out.1.offT _ (NM ..) (by rw[e];rfl)
 have d7:T<o.heap.size:=by omega
 have l3:B<o.heap.size:=by omega
 have j5:w.heap.size<o.heap.size:=by omega
 have i5:((o.alloc (MP #[MF ME ta,MF ME td] 201)).drew).cell? ⟨T,1,MH⟩=MI (MG (MI ⟨B,0,MH⟩) 25 25):=(NG (a:=⟨T,1,MH⟩) (Ov o _ T d7)).trans e4;have HE:M6 _:=i5;clear i5
 go_upto_region 3 with fail
 go_cut []from 28 to 46 (fun wx=>∃O z H,O.ownsRow base 201 2 (MG (MI ⟨z,0,MH⟩) (l.length+1) H) (l.length+1) (WP (YA l (ta,td) j))/\((o.alloc (MP #[MF ME ta,MF ME td] 201)).drew).grownBy O (MG p l.length c).ownBlock/\((MG p l.length c).ownBlock=MI z\/((o.alloc (MP #[MF ME ta,MF ME td] 201)).drew).heap.size<=z)/\wx=O.setCell ⟨B,i,MH⟩ (MG (MI ⟨z,0,MH⟩) (l.length+1) H))
 case first =>
  go_region_with (first|(go_at_call 223;refine J.out.1.mono ?_;rintro r O ⟨z,H,rfl,b7,E,P⟩;obtain⟨s1,s2,s3,s4,s5⟩:=J.out.2.1 _ E))
  all_goals
   go_wp2_with fail
   go_meet
   exact⟨O,z,H,b7,E,P,rfl⟩
 case rest =>
 obtain⟨O,z,H,b7,E,P,rfl⟩:=hcut;rw[<-J.out.2.2.2.2.2.1]at E P;have G:=J.out.2.2.1 O E;have D:=J.out.2.2.2.2.2.2;have C:=J.out.2.2.2.1;have b5:(MG p l.length c).ownBlock≠MI T:=d.out.1.offT _ (NB _ (Nu N));have b4:(MG p l.length c).ownBlock≠MI M:=d.out.1.offM _ (NB _ (Nu N));have b6:(MG p l.length c).ownBlock≠MI w.heap.size:=fun e=>by have:=(d.out.2.1.lt _ e).2;omega
 have j9:M<o.heap.size:=C.map.lt;have k9:M≠B:=fun e=>d.out.1.offM _ (NM ..) (by rw[e];rfl)
 have d7:T<o.heap.size:=by omega
 obtain⟨v,a0⟩:∃v,v=O.setCell ⟨B,i,MH⟩ (MG (MI ⟨z,0,MH⟩) (l.length+1) H):=⟨_,rfl⟩;have h6:∀k,k<o.heap.size->(MG p l.length c).ownBlock≠MI k->k≠B->v.heap[k]?=o.heap[k]?:=fun k hk hne c7=>by
  rw[a0,MU _ _ _ _ c7];exact G k hk hne
 have e7:v.heap[T]?=MI (MP #[MF ME now,MG (MI ⟨B,0,MH⟩) 25 25,P0 (MI M)] 285 (0,0)):=(h6 T d7 b5 k0).trans C.box;have i7:aaj v M n f:=C.map.Gf (h6 M j9 b4 k9);have l0:v.cell? ⟨w.heap.size,1,MH⟩=MI (MF ME td):=(NG (a:=⟨w.heap.size,1,MH⟩) (h6 _ j5 b6 (Nat.ne_of_gt (d.out.1.own.row.lt B rfl).2))).trans e2;obtain⟨w7,m4,h8,h9⟩:=aaj.Gd (w:=v.drew) (i7.Gf rfl) hnn htd (show(N6 ME (i:Int)).wf=Nw from aez (by omega) (by omega));have g3:WZ v base (MG (MI ⟨B,0,MH⟩) 25 25) (vs.set i (MG (MI ⟨z,0,MH⟩) (l.length+1) H)) (ls.set i (YA l (ta,td) j)):=by
  rw[a0];refine WZ.Gd (w:=I) (C.own.below D) C.len (by rw[C.len];exact hi) N E (by rw[avY];exact b7) (fun g hg=>?_);obtain rfl:z=g:=NC hg;exact P
 have l4:=D.size;have b9:∀X,(MG p l.length c).ownBlock≠MI X->X<o.heap.size->(∀x∈MG (MI ⟨B,0,MH⟩) 25 25::vs,x.ownBlock≠MI X)->∀x∈MG (MI ⟨B,0,MH⟩) 25 25::vs.set i (MG (MI ⟨z,0,MH⟩) (l.length+1) H),x.ownBlock≠MI X:=fun X hX hXl ho x F=>by
  rcases List.mem_cons.1 F with rfl|F
  ·exact ho _ (NM ..)
  ·rcases OB F with h|rfl
   ·exact ho x (NB _ h)
   ·intro e
    obtain rfl:z=X:=NC e;rcases P with h|h
    ·exact hX h
    ·omega
 have hY:MQ base w v:=by
  have K:=J.out.2.2.2.2.1;have i3:=(d.out.1.own.row.lt B rfl).1;have k7:MQ base w I:=((K.mono hbase).trans (D.mono (by omega)));rw[a0];refine(k7.grown E (by omega) (fun k hk=>(d.out.2.1.lt k hk).1)).setCell ?_ _;exact i3
 have Q:M6 (MQ base w v):=hY;clear hY;obtain⟨l6,l8,l7,j7⟩:=YS e7;have l1:w.heap.size<v.heap.size:=MX v ⟨w.heap.size,1,MH⟩ l0;have A:M6 (_/\_/\_/\_/\_/\_):=⟨e7,h8,h9,g3,h6,P⟩;rw[<-a0];clear e7 i7 h8 h9 g3 h6 a0 G D C b7 E P e1 e2 e4 e5 e6
 go_wp2_with fail
 go_region
 go_end0
 refine⟨rfl,vs.set i (MG (MI ⟨z,0,MH⟩) (l.length+1) H),⟨?_,?_,?_,?_,?_,d.out.1.hT,d.out.1.hM,d.out.1.hTM,?_⟩,?_,fun g hg=>?_⟩
 ·exact(A.out.2.2.1.block T j7 (fun e=>d.out.1.hTM (NC e))).trans A.out.1
 ·refine(A.out.2.2.2.1.Gf (w':=v.drew) fun _ _ _=>rfl).If A.out.2.2.1 fun x F g hg e=>?_
  obtain rfl:g=M:=NC e;exact b9 g b4 (by omega) d.out.1.offM x F hg
 ·exact A.out.2.1
 ·exact fun x F=>b9 T b5 (by omega) d.out.1.offT x F
 ·exact fun x F=>b9 M b4 (by omega) d.out.1.offM x F
 ·rw[NA];exact d.out.1.len
 ·refine⟨A.out.2.2.1.os.trans Q.out.os,A.out.2.2.1.tape.trans Q.out.tape,A.out.2.2.1.output.trans Q.out.output,Nm Q.out.size A.out.2.2.1.size,fun k hk=>?_⟩
  have l5:=d.out.1.hM;have i3:=(d.out.1.own.row.lt B rfl).1;rw[A.out.2.2.1.block k (M8 hk (Nm hbase Q.out.size)) (fun e=>by have:=NC e;omega)];exact Q.out.block k hk
 ·obtain⟨d8,k5,e8,h7,E⟩:=hg
  have j4:(MG p l.length c).ownBlock≠MI g:=E _ (Nu N);have g4:g<o.heap.size:=M8 d8 J.out.2.2.2.2.1.size;have k6:v.heap[g]?=w.heap[g]?:=(A.out.2.2.2.2.1 g g4 j4 e8).trans (J.out.2.2.2.2.1.block g d8);have g6:g<v.heap.size:=M8 d8 Q.out.size;refine⟨(A.out.2.2.1.block g g6 (fun e=>h7 (NC e))).trans k6,M8 g6 A.out.2.2.1.size,k5,e8,h7,fun x F=>b9 g j4 g4 (fun y hy=>?_) x (NB _ F)⟩;rcases List.mem_cons.1 hy with rfl|hy
  ·exact fun e=>e8 (NC e).symm
  ·exact E y hy
end
section
open Go.Sort (grow grow_empty grow_grow alloc_eq_grow cell?_grow heap_grow_old)
theorem anH{l:List Tm}(h:l.Pairwise (fun a b=>Xe a b<0))(hb:acz l t=Nw):∀x∈l,Xe x t<0:=by
 unfold acz at hb;cases hl:l.getLast? with
 |none=>rw[List.getLast?_eq_none_iff]at hl;subst hl;intro x d;cases d
 |some y =>
  rw[hl]at hb;have e:Xe y t<0:=M2 hb;obtain⟨i,rfl⟩:=List.getLast?_eq_some_iff.1 hl;intro x d;rcases List.mem_append.1 d with d|d
  ·exact aef ((List.pairwise_append.1 h).2.2 x d y (List.mem_singleton.2 rfl)) e
  ·rw[List.mem_singleton.1 d];exact e
theorem avI{l:List Tm}(h:∀x∈l,Xe x t<0):acz l t=true:=by
 unfold acz;cases hl:l.getLast? with
 |none=>rfl
 |some y=>exact Nq (h y (List.mem_of_getLast? hl))
theorem ajI{w:MO}{b c0 c1 c2:M7}{T:NU}(h:w.heap[g]?=MI (MP #[a,b,c] T (0,0))):(((w.setCell ⟨g,0,MH⟩ c0).setCell ⟨g,1,MH⟩ c1).setCell ⟨g,2,MH⟩ c2).heap[g]?=MI (MP #[c0,c1,c2] T (0,0)):=
 NI _ _ 2 _ _ c2 (NI _ _ 1 _ _ c1 (NI w g 0 _ _ c0 h))
theorem awd(now:Int):Ok now (Nj 25 []):=by
 refine⟨by simp,fun i l hl t ht=>?_,fun l hl=>?_,by simp⟩
 ·rw[Pj]at hl
  split at hl
  ·rw[<-NC hl]at ht;cases ht
  ·cases hl
 ·rw[(List.mem_replicate.1 hl).2];exact .nil
theorem avM:Z7 (fun _=>MH) (Nj 25 []):=by
 refine⟨fun i l hl t ht=>?_,fun id _=>rfl⟩;rw[Pj]at hl
 split at hl
 ·rw[<-NC hl]at ht;cases ht
 ·cases hl
theorem av5(w:MO):aaj (w.alloc (.map #[] 0)) w.heap.size 0 (fun _=>MH):=by
 exact⟨.map [],World.ownsMap_made w _ _ _,fun id hid=>⟨rfl,fun x hx=>by cases hx⟩⟩
theorem awo(v:M7)(now:Int)(ls:List (List Tm))(w:MO)(hx:Zo w v ls)(h:¬((0<=now/\now<=1099511627776)/\ls.length=25)) :
  Ni MK 156 #[Ny #[MF ME now,v]] w fun r w'=>MQ w.heap.size w w'/\r=MN (Nv #[Ny #[MF ME 0,MG MH 0 0,P0 MH],M3 Nb]):=by
 obtain⟨a,o,rfl,n,d,j⟩:=hx.F6;clear j;unfold NE at d;cases ht:Nn (0<=now/\now<=1099511627776)
 ·clear h
  go_enter SN,Ss
  go_wp2_with fail
  refine(agV _ _).mono ?_;rw[ht];rintro r i ⟨rfl,rfl⟩;go_wp2;refine Np (v:=Nv #[Ny #[MF ME 0,MG MH 0 0,P0 MH],M3 Nb]) (by simp[Pf,R6,go_sem]) rfl ⟨?_,rfl⟩;exact((MY _ _).alloc (MV _) _).alloc (by simp) _
 ·have l:((ls.length:Int) != 25)=true:=by
   have:ls.length≠25:=fun e=>h ⟨M2 ht,e⟩
   simp[bne_iff_ne];omega
  clear h;go_enter SN,Ss
  go_wp2_with fail
  refine(agV _ _).mono ?_;rw[ht];rintro r i ⟨rfl,rfl⟩;go_wp2;refine Np (v:=Nv #[Ny #[MF ME 0,MG MH 0 0,P0 MH],M3 Nb]) (by simp[Pf,R6,go_sem]) rfl ⟨?_,rfl⟩;exact((MY _ _).alloc (MV _) _).alloc (by simp) _
def avz(now:Int)(ls:List (List Tm))(w:MO)(r:Ending)(w':MO):Prop :=
 MQ w.heap.size w w'/\((Ok now ls/\∃T B M n vs f,r=MN (Nv #[Ny #[MF ME now,MG (MI ⟨B,0,MH⟩) 25 25,P0 (MI M)],M3 Nw])/\WM w' (w.heap.size+2) T B M n now vs ls f/\Z7 f ls/\n<=26214400) \/
  (¬Ok now ls/\r=MN (Nv #[Ny #[MF ME 0,MG MH 0 0,P0 MH],M3 Nb])))
theorem awp(v:M7)(now:Int)(ls:List (List Tm))(w:MO)(hB:Xo w)(hx:Zo w v ls)(hn:0<=now)(hn2:now<=1099511627776)(h25:ls.length=25)(hlen:∀l∈ls,l.length<=1048576) :
  Ni MK 156 #[Ny #[MF ME now,v]] w (avz now ls w):=by
 obtain⟨a,ca,rfl,j5,j8,pa⟩:=hx.F6;unfold NE at j8;have ht:Nn (0<=now/\now<=1099511627776)=true:=Nq ⟨hn,hn2⟩;have j9:=hB.lt;have HX:M6 (_/\_/\_/\_):=⟨pa,hB,hlen,h25⟩;rw[h25]at j5⊢;clear pa hB hlen h25 hx;go_enter SN,Ss
 go_wp2_with fail
 refine(agV _ _).mono ?_;rw[ht];rintro r E ⟨rfl,rfl⟩
 go_wp2_with fail
 refine(anL _ _).mono ?_;rintro r E ⟨rfl,R,b6,P⟩;have i7:((w.alloc (MP #[MF ME now,MG a 25 ca] 53)).alloc (MP #[MF ME 0,MG MH 0 0,P0 MH] 285)).heap.size=w.heap.size+2:=by simp
 rw[i7]at R b6 P⊢;obtain⟨H,hH⟩:∃H,H=w.heap.size+2:=⟨_,rfl⟩;rw[<-hH]at R b6 P⊢;have a0:E.heap[w.heap.size]?=MI (MP #[MF ME now,MG a 25 ca] 53 (0,0)):=(P.block _ (by omega)).trans (Xy _ _ (M1 _ _));have b4:E.heap[w.heap.size+1]?=MI (MP #[MF ME 0,MG MH 0 0,P0 MH] 285 (0,0)):=(P.block _ (by omega)).trans (Yu _ _ _);have b7:MQ w.heap.size w E:=(((MY _ _).alloc (MV _) _).alloc (by simp) _).trans (P.mono (by omega));obtain⟨c0,c1,_,_,j3⟩:=Xa a0;have HW:M6 (_/\_/\_/\_/\_/\_):=⟨R,P,a0,b4,b7,hH⟩;clear R P a0 b4 b7 i7 hH;have k5:∀W:MO,(Instr.makeMap 283 MH).run MK W=.ok (P0 (MI W.heap.size)) (W.alloc (.map #[] 0)):=fun _=>rfl
 have c3:((E.alloc (.map #[] 0)).alloc (MP #[MF ME now,MG (MI ⟨H+1,0,MH⟩) 25 25,P0 (MI (H+2))] 285)).cell? ⟨w.heap.size,1,MH⟩=MI (MG a 25 ca):=
  ((((MY _ E).alloc (MV _) (.map #[] 0)).alloc (by simp) (MP #[MF ME now,MG (MI ⟨H+1,0,MH⟩) 25 25,P0 (MI (H+2))] 285)).cell (p:=⟨w.heap.size,1,MH⟩) j3).trans c1
 go_wp2
 go_loopw [28] (fun i wr=>∃(k n:Nat) (B:List M7) (f:Int->Option Int),i=MF ME k/\k<=25/\WM wr (w.heap.size+2) (H+2+1) (H+1) (H+2) n now B (YG ls k 0) f/\Z7 f (YG ls k 0)/\Ok now (YG ls k 0)/\n<=k*1048576/\MQ w.heap.size w wr/\wr.heap[w.heap.size+1]?=MI (MP #[MF ME 0,MG MH 0 0,P0 MH] 285 (0,0))) (fun i _=>25-(On i).toNat)
 case atStart =>
  obtain⟨R,P,a0,b4,b7,hH⟩:=HW.out;refine⟨0,0,Nj 25 (MG MH 0 0),fun _=>MH,rfl,by omega,?_,?_,?_,by omega,?_,?_⟩
  ·rw[ajC]
   have j7:MQ E.heap.size E ((E.alloc (.map #[] 0)).alloc (MP #[MF ME now,MG (MI ⟨H+1,0,MH⟩) 25 25,P0 (MI (H+2))] 285)):=((MY _ E).alloc (MV _) _).alloc (by simp) _;have hm:=av5 E;rw[b6]at hm;refine⟨?_,(R.below j7).GV (by omega),hm.Gf (Ov _ _ _ (by simp;omega)),fun u J e=>?_,fun u J e=>?_,by omega,by omega,by omega,by simp⟩
   ·have:=Yu E (.map #[] 0) (MP #[MF ME now,MG (MI ⟨H+1,0,MH⟩) 25 25,P0 (MI (H+2))] 285)
    rw[b6]at this;exact this
   ·rcases List.mem_cons.1 J with rfl|J
    ·have:=NC e;simp at this
    ·rw[(List.mem_replicate.1 J).2]at e;cases e
   ·rcases List.mem_cons.1 J with rfl|J
    ·have:=NC e;simp at this
    ·rw[(List.mem_replicate.1 J).2]at e;cases e
  ·rw[ajC];exact avM
  ·rw[ajC];exact awd now
  ·exact(b7.alloc (by omega) _).alloc (by simp;omega) _
  ·exact Xy _ _ (Xy _ _ b4)
 case round =>
  obtain⟨k,n,B,f,rfl,hk,I,L,F,N,b8,y⟩:=hrel;obtain⟨w2,j4⟩:∃w2,w2=wr:=⟨_,rfl⟩;subst j4
  by_cases hlt:k<25
  ·have k8:Nn ((k:Int)<25)=true:=Nq (by omega)
   have i3:k<ls.length:=by rw[HX.out.2.2.2];exact hlt
   obtain⟨b0,off,u,rfl,e9,cu,J⟩:=HX.out.1 k i3;obtain⟨l,hl⟩:∃l,l=ls[k]:=⟨_,rfl⟩;have e8:ls[k]?=MI l:=by rw[hl];exact MR i3
   rw[<-hl]at J;obtain⟨ul,uc,rfl,k9,j6,pu⟩:=J.F6;unfold NE at j6;have i6:=(b8.cell (p:=⟨b0,off+k,MH⟩) e9).trans cu;have k0:=HX.out.2.2.1 l (Nu e8);have k6:(k:Int)<25:=by omega
   have G:M6 (_/\_/\_/\_/\_/\_/\_/\_):=⟨I,L,F,N,b8,y,pu,e8⟩;clear I L F N y pu hl cu J e8;go_wp2
   go_loopw [35] (fun i wr=>∃(q n:Nat) (B:List M7) (f:Int->Option Int),i=MF ME q/\q<=l.length/\WM wr (w.heap.size+2) (H+2+1) (H+1) (H+2) n now B (YG ls k q) f/\Z7 f (YG ls k q)/\Ok now (YG ls k q)/\n<=k*1048576+q/\MQ w.heap.size w wr/\wr.heap[w.heap.size+1]?=MI (MP #[MF ME 0,MG MH 0 0,P0 MH] 285 (0,0))) (fun i _=>l.length-(On i).toNat)
   case atStart=>exact⟨0,n,B,f,rfl,Nx _,G.out.1,G.out.2.1,G.out.2.2.1,Nat.le_add_right_of_le G.out.2.2.2.1,G.out.2.2.2.2.1,G.out.2.2.2.2.2.1⟩
   case round =>
    obtain⟨q,n,B,f,rfl,hq,I,L,F,N,V,y⟩:=hrel
    by_cases hq2:q<l.length
    ·obtain⟨bu,ou,rfl,i8,p1,p2⟩:=G.out.2.2.2.2.2.2.1 q hq2
     have e1:=(V.cell (p:=⟨bu,ou+q*2,MH⟩) i8).trans p1;have e2:=(V.cell (p:=⟨bu,ou+q*2+1,MH⟩) i8).trans p2;obtain⟨s,d6⟩:∃s,l[q].1=s:=⟨_,rfl⟩;obtain⟨o,e7⟩:∃o,l[q].2=o:=⟨_,rfl⟩;have i4:l[q]=(s,o):=Q8 d6 e7;rw[d6]at e1;rw[e7]at e2;have hg:ls.getD k []=l:=by simp[Pq,G.out.2.2.2.2.2.2.2]
     have c8:(YG ls k q)[k]?=MI (l.take q):=by rw[aeu _ _ _ _ hlt,Nf (PC _),Nh rfl,hg]
     obtain⟨K,U⟩:∃K,K=wr.alloc (MP #[MF ME s,MF ME o] 201):=⟨_,rfl⟩;have Z:MQ wr.heap.size wr K:=by rw[U];exact(MY _ _).alloc (MV _) _
     have h8:Xo K:=(HX.out.2.1.below V).below Z;have b9:=I.below Z;have f9:K.heap[w.heap.size+1]?=MI (MP #[MF ME 0,MG MH 0 0,P0 MH] 285 (0,0)):=(Z.block _ (Array.getElem?_eq_some_iff.1 y).1).trans y;have i5:K.cell? ⟨wr.heap.size,0,MH⟩=MI (MF ME s):=by rw[U];simp
     have h7:K.cell? ⟨wr.heap.size,1,MH⟩=MI (MF ME o):=by rw[U];simp
     have h9:wr.heap.size<K.heap.size:=by rw[U];simp
     have g6:=F.ord (l.take q) (Nu c8);have i9:w.heap.size+2<=K.heap.size:=by have:=b9.hT;have:=(Array.getElem?_eq_some_iff.1 b9.box).1;omega
     have d:M6 (_/\_/\_/\_/\_/\_/\_/\_/\_/\_):=⟨i4,c8,Z,h8,b9,L,F,N,V,g6⟩;have z:M6 (_/\_/\_/\_):=⟨U,f9,i5,h7⟩;clear I L F N y d6 e7 i4 hg c8 p1 p2 Z h8 b9 f9 U i5 h7 g6 i6 e9;cases hgood:(Zg now (s,o) && Nn (Xq s now=(k:Int)) && !(f o).isSome)
     ·have Y:¬Ok now ls:=fun hok=>by
       have Q:=hok.IA G.out.2.2.2.2.2.2.2 hq2;rw[d.out.1]at Q;have h1:(f o).isSome=false:=(d.out.2.2.2.2.2.1.GP o).2 Q.2.2.1;simp[Q.1,Q.2.1,h1]at hgood
      have HN:M6 _:=Y;clear Y
      go_wp2_with fail
      refine(avN (w.heap.size+2) (H+2+1) (H+1) (H+2) n now B (YG ls k q) f s o k _ (by rw[<-z.out.1];exact d.out.2.2.2.1) (by rw[<-z.out.1];exact d.out.2.2.2.2.1) hn hn2 hlt hgood).mono ?_;rw[<-z.out.1];rintro r D ⟨rfl,C⟩;have A:D.heap[w.heap.size+1]?=MI (MP #[MF ME 0,MG MH 0 0,P0 MH] 285 (0,0)):=(C.block _ (by omega)).trans z.out.2.1;obtain⟨z0,z1,z2,z3⟩:=YS A;have y0:D.frozen? ⟨w.heap.size+1,0,MH⟩=false:=by simp[Ng,A]
      have y1:D.frozen? ⟨w.heap.size+1,1,MH⟩=false:=by simp[Ng,A]
      have y2:D.frozen? ⟨w.heap.size+1,2,MH⟩=false:=by simp[Ng,A]
      have O:MQ w.heap.size w D:=((d.out.2.2.2.2.2.2.2.2.1.trans (d.out.2.2.1.mono d.out.2.2.2.2.2.2.2.2.1.size)).trans (C.mono (by omega)));have j:M6 (_/\_):=⟨O,A⟩;clear O A C;go_wp2;have hz:=ajI (c0:=MF ME 0) (c1:=MG MH 0 0) (c2:=P0 MH) j.out.2;obtain⟨x0,x1,x2,_⟩:=YS hz;refine Np (v:=Nv #[Ny #[MF ME 0,MG MH 0 0,P0 MH],M3 Nb]) (by simp[Pf,R6,go_sem,x0,x1,x2]) rfl ⟨?_,NF ⟨HN.out,rfl⟩⟩;exact((j.out.1.setCell (by simp) _).setCell (by simp) _).setCell (by simp) _
     ·have T:(Zg now (s,o)=Nw/\Xq s now=(k:Int))/\(f o).isSome=false:=by simpa using hgood
      clear hgood;have g7:=aer T.1.1 hn;cases hbe:acz (l.take q) (s,o)
      ·have Y:¬Ok now ls:=fun hok=>by
        have Q:=hok.IA G.out.2.2.2.2.2.2.2 hq2;rw[d.out.1]at Q;rw[avI Q.2.2.2]at hbe;cases hbe
       have HN:M6 _:=Y;clear Y
       go_wp2_with fail
       refine(anN (w.heap.size+2) (H+2+1) (H+1) (H+2) n now B (YG ls k q) f s o k _ (by rw[<-z.out.1];exact d.out.2.2.2.1) (by rw[<-z.out.1];exact d.out.2.2.2.2.1) hn hn2 hlt T.1.1 T.1.2 T.2 (l.take q) d.out.2.1 (by rw[NH];omega)).mono ?_;rw[hbe,<-z.out.1];rintro r D ⟨rfl,C⟩;have A:D.heap[w.heap.size+1]?=MI (MP #[MF ME 0,MG MH 0 0,P0 MH] 285 (0,0)):=(C.block _ (by omega)).trans z.out.2.1;obtain⟨z0,z1,z2,z3⟩:=YS A;have y0:D.frozen? ⟨w.heap.size+1,0,MH⟩=false:=by simp[Ng,A]
       have y1:D.frozen? ⟨w.heap.size+1,1,MH⟩=false:=by simp[Ng,A]
       have y2:D.frozen? ⟨w.heap.size+1,2,MH⟩=false:=by simp[Ng,A]
       have O:MQ w.heap.size w D:=((d.out.2.2.2.2.2.2.2.2.1.trans (d.out.2.2.1.mono d.out.2.2.2.2.2.2.2.2.1.size)).trans (C.mono (by omega)));have j:M6 (_/\_):=⟨O,A⟩;clear O A C;go_wp2;have hz:=ajI (c0:=MF ME 0) (c1:=MG MH 0 0) (c2:=P0 MH) j.out.2;obtain⟨x0,x1,x2,_⟩:=YS hz;refine Np (v:=Nv #[Ny #[MF ME 0,MG MH 0 0,P0 MH],M3 Nb]) (by simp[Pf,R6,go_sem,x0,x1,x2]) rfl ⟨?_,NF ⟨HN.out,rfl⟩⟩;exact((j.out.1.setCell (by simp) _).setCell (by simp) _).setCell (by simp) _
      ·have M:M6 (_/\_):=⟨T,g7⟩
       clear T g7
       go_wp2_with fail
       refine(anN (w.heap.size+2) (H+2+1) (H+1) (H+2) n now B (YG ls k q) f s o k _ (by rw[<-z.out.1];exact d.out.2.2.2.1) (by rw[<-z.out.1];exact d.out.2.2.2.2.1) hn hn2 hlt M.out.1.1.1 M.out.1.1.2 M.out.1.2 (l.take q) d.out.2.1 (by rw[NH];omega)).mono ?_;rw[hbe,<-z.out.1];rintro r D ⟨rfl,C⟩;have g1:=(C.cell (p:=⟨wr.heap.size,0,MH⟩) h9).trans z.out.2.2.1;have g2:=(C.cell (p:=⟨wr.heap.size,1,MH⟩) h9).trans z.out.2.2.2;have g8:=anH d.out.2.2.2.2.2.2.2.2.2 hbe;have HP:M6 (∀W:MO,MQ K.heap.size K W->Ni MK 179 #[Na (MI ⟨H+2+1,0,MH⟩),Ny #[MF ME s,MF ME o]] W fun r w'=>r=MN (Nv #[])/\∃b5,WM w' (w.heap.size+2) (H+2+1) (H+1) (H+2) (n+1) now b5 ((YG ls k q).set k (YA (l.take q) (s,o) (l.take q).length)) (aex f o k)/\MQ (w.heap.size+2) W w'/\∀g,adO W B (H+2+1) (H+1) (H+2) g->w'.heap[g]?=W.heap[g]?/\adO w' b5 (H+2+1) (H+1) (H+2) g):=fun W hW =>
        ajG (w.heap.size+2) (H+2+1) (H+1) (H+2) n now B (YG ls k q) f s o k (l.take q).length W (d.out.2.2.2.1.below hW) (d.out.2.2.2.2.1.below hW) (by omega) (Nm i9 hW.size) hn hn2 (by have:=d.out.2.2.2.2.2.2.2.1;unfold NE;omega) hlt ⟨M.out.2.1,M.out.2.2.1⟩ M.out.2.2.2 M.out.1.1.2 (l.take q) d.out.2.1 (by rw[NH];omega) (MV _) (fun a ha _=>g8 _ (Nk ha)) (fun a ha h=>absurd ha (by omega))
       have d7:M6 _:=C;clear C g8
       go_wp2_with fail
       refine(HP.out _ d7.out).mono ?_;rintro r w5 ⟨rfl,b5,d8,d9,_⟩;have g4:(YG ls k q).set k (YA (l.take q) (s,o) (l.take q).length)=YG ls k (q+1):=by
        rw[<-d.out.1];exact awi ls k q hlt l G.out.2.2.2.2.2.2.2 hq2
       have c7:=(d.out.2.2.2.2.2.1.GP o).1 M.out.1.2;have c9:=d.out.2.2.2.2.2.2.1.ID d.out.2.1 (t:=(s,o)) M.out.1.1.1 M.out.1.1.2 c7 (l.take q).length (by rw[NT];exact anH d.out.2.2.2.2.2.2.2.2.2 hbe) (by rw[List.drop_length];intro x hx;cases hx);have f8:Z7 (aex f o k) _:=d.out.2.2.2.2.2.1.ID d.out.2.1 (t:=(s,o)) c7 (l.take q).length;rw[g4]at d8 c9 f8;have O:MQ w.heap.size w w5:=((d.out.2.2.2.2.2.2.2.2.1.trans (d.out.2.2.1.mono d.out.2.2.2.2.2.2.2.2.1.size)).trans (d7.out.mono (by omega))).trans (d9.mono (by omega));have g3:w5.heap[w.heap.size+1]?=MI (MP #[MF ME 0,MG MH 0 0,P0 MH] 285 (0,0)):=(d9.block _ (by omega)).trans ((d7.out.block _ (by omega)).trans z.out.2.1);have j:M6 (_/\_/\_/\_/\_):=⟨d8,f8,c9,O,g3⟩;clear d8 f8 c9 O g3 d9 g4 c7;go_wp2
       go_roundw
       case rel=>exact⟨q+1,n+1,b5,_,by simp,hq2,j.out.1,j.out.2.1,j.out.2.2.1,Nat.succ_le_succ d.out.2.2.2.2.2.2.2.1,j.out.2.2.2.1,j.out.2.2.2.2⟩
       case measure=>simp[On];omega
    ·obtain rfl:q=l.length:=by omega
     have g9:=awh ls k l G.out.2.2.2.2.2.2.2;rw[g9]at I L F;have j:M6 (_/\_/\_/\_/\_/\_):=⟨I,L,F,N,V,y⟩;clear I L F N y g9 i6 e9;go_wp2
     go_roundw
     case rel=>exact⟨k+1,n,B,f,by simp,hlt,j.out.1,j.out.2.1,j.out.2.2.1,by have:=j.out.2.2.2.1;omega,j.out.2.2.2.2.1,j.out.2.2.2.2.2⟩
     case measure=>simp[On];omega
  ·obtain rfl:k=25:=by omega
   rw[awe ls HX.out.2.2.2]at I L F;obtain⟨t0,t1,t2,k7⟩:=YS I.box;obtain⟨z0,z1,z2,z3⟩:=YS y;have y0:w2.frozen? ⟨w.heap.size+1,0,MH⟩=false:=by simp[Ng,y]
   have y1:w2.frozen? ⟨w.heap.size+1,1,MH⟩=false:=by simp[Ng,y]
   have y2:w2.frozen? ⟨w.heap.size+1,2,MH⟩=false:=by simp[Ng,y]
   have j:M6 (_/\_/\_/\_/\_/\_):=⟨I,L,F,N,b8,y⟩;clear I L F N b8 y;go_wp2;have hz:=ajI (c0:=MF ME now) (c1:=MG (MI ⟨H+1,0,MH⟩) 25 25) (c2:=P0 (MI (H+2))) j.out.2.2.2.2.2;obtain⟨x0,x1,x2,_⟩:=YS hz;refine Np (v:=Nv #[Ny #[MF ME now,MG (MI ⟨H+1,0,MH⟩) 25 25,P0 (MI (H+2))],M3 Nw]) (by simp[Pf,R6,go_sem,x0,x1,x2]) rfl ⟨?_,Nt ⟨j.out.2.2.1,H+2+1,H+1,H+2,n,B,f,rfl,?_,j.out.2.1,j.out.2.2.2.1⟩⟩
   ·exact((j.out.2.2.2.2.1.setCell (by simp) _).setCell (by simp) _).setCell (by simp) _
   ·refine j.out.1.Gf fun g hg _=>?_
    rw[MU _ _ _ _ (by simp;omega),MU _ _ _ _ (by simp;omega),MU _ _ _ _ (by simp;omega)]
end
section
open Go.Sort (grow grow_empty grow_grow alloc_eq_grow cell?_grow heap_grow_old)
def Y9(now:Int)(ls:List (List Tm)):Prop:=(0<=now/\now<=1099511627776)/\Ok now ls
def avA(now:Int)(ls:List (List Tm))(w:MO)(r:Ending)(w':MO):Prop :=
 MQ w.heap.size w w'/\((Y9 now ls/\∃T B M n vs f,r=MN (Nv #[Ny #[MF ME now,MG (MI ⟨B,0,MH⟩) 25 25,P0 (MI M)],M3 Nw])/\WM w' (w.heap.size+2) T B M n now vs ls f/\Z7 f ls/\n<=26214400) \/
  (¬Y9 now ls/\r=MN (Nv #[Ny #[MF ME 0,MG MH 0 0,P0 MH],M3 Nb])))
theorem ajJ(v:M7)(now:Int)(ls:List (List Tm))(w:MO)(hB:Xo w)(hx:Zo w v ls)(hlen:∀l∈ls,l.length<=1048576) :
  Ni MK 156 #[Ny #[MF ME now,v]] w (avA now ls w):=by
 by_cases h:(0<=now/\now<=1099511627776)/\ls.length=25
 ·refine(awp v now ls w hB hx h.1.1 h.1.2 h.2 hlen).mono fun r w' ht=>⟨ht.1,?_⟩
  rcases ht.2 with⟨d,e⟩|⟨d,e⟩
  ·exact Nt ⟨⟨h.1,d⟩,e⟩
  ·exact NF ⟨fun hm=>d hm.2,e⟩
 ·exact(awo v now ls w hx h).mono fun r w' ht=>⟨ht.1,NF ⟨fun hm=>h ⟨hm.1,hm.2.len⟩,ht.2⟩⟩
theorem WM.Iu{w:MO}{base T B M n:Nat}{now:Int}{vs:List M7}{ls:List (List Tm)}{f:Int->Option Int}(h:WM w base T B M n now vs ls f):WM (w.alloc (MP #[MF ME now,MG (MI ⟨B,0,MH⟩) 25 25,P0 (MI M)] 285)) base w.heap.size B M n now vs ls f:=by
 have q:MQ w.heap.size w (w.alloc (MP #[MF ME now,MG (MI ⟨B,0,MH⟩) 25 25,P0 (MI M)] 285)):=(MY _ _).alloc (MV _) _;have j:=h.below q;have o:∀u∈MG (MI ⟨B,0,MH⟩) 25 25::vs,∀g,u.ownBlock=MI g->g<w.heap.size:=fun u d g hg=>by
  rcases List.mem_cons.1 d with rfl|d
  ·exact(h.own.row.lt g hg).2
  ·obtain⟨i,l,rfl⟩:=NV d
   exact((h.own.each.2 i l (by rw[<-h.own.each.1];exact l)).lt g hg).2
 exact⟨M1 w _,j.own,j.map,fun u d e=>absurd (o u d _ e) (PC _),j.offM,PJ (Pb h.hT (Array.getElem?_eq_some_iff.1 h.box).1),j.hM,fun e=>absurd h.map.lt (by rw[<-e];exact PC _),h.len⟩
def aaX(l:List Tm)(t:Tm):Nat:=(l.takeWhile fun x=>Nn (Xe x t<0)).length
theorem anW(l:List Tm)(t:Tm):aaX l t<=l.length:=by
 unfold aaX;exact(List.takeWhile_sublist _).length_le
theorem agY(l:List Tm)(t:Tm):∀x∈l.take (aaX l t),Xe x t<0:=by
 unfold aaX
 induction l with
 |nil=>intro x d;cases d
 |cons y l ih =>
  by_cases hy:Xe y t<0
  ·rw[Rv (by simpa using hy)]
   intro x d;rcases List.mem_cons.1 (by simpa using d)with rfl|d
   ·exact hy
   ·exact ih x d
  ·rw[Ru (by simpa using hy)]
   intro x d;cases d
theorem agZ{l:List Tm}(h:l.Pairwise (fun a b=>Xe a b<0))(t:Tm):∀x∈l.drop (aaX l t),¬Xe x t<0:=by
 unfold aaX
 induction l with
 |nil=>intro x d;cases d
 |cons y l ih =>
  have i:=List.pairwise_cons.1 h
  by_cases hy:Xe y t<0
  ·rw[Rv (by simpa using hy)]
   simpa using ih i.2
  ·rw[Ru (by simpa using hy)]
   intro x d e;rcases List.mem_cons.1 (by simpa using d)with rfl|d
   ·exact hy e
   ·exact hy (aef (i.1 x d) e)
theorem anJ{a b:Tm}(h:¬Xe a b<0)(hne:a.2≠b.2):Xe b a<0:=by
 rw[acY]at *;omega
def ZK(ls:List (List Tm))(now:Int)(t:Tm):List (List Tm):=ls.set (Xq t.1 now).toNat (YA (ls.getD (Xq t.1 now).toNat []) t (aaX (ls.getD (Xq t.1 now).toNat []) t))
theorem aew{x n:Int}:0<=Xq x n/\Xq x n<25:=by
 unfold Xq
 repeat' split
 all_goals omega
theorem Y9.ID{now:Int}{ls:List (List Tm)}(h:Y9 now ls)(hf:Zg now t=Nw)(hn:∀x∈ls.flatten,x.2≠t.2):Y9 now (ZK ls now t):=by
 have j:=@aew t.1 now;have i:(Xq t.1 now).toNat<ls.length:=by rw[h.2.len];omega
 have d:ls[(Xq t.1 now).toNat]?=MI (ls.getD (Xq t.1 now).toNat []):=by simp[Pq,MR i]
 refine⟨h.1,h.2.ID d hf (by omega) hn _ (agY _ _) fun x hx=>?_⟩;have e:=agZ (h.2.ord _ (Nu d)) t x hx;exact anJ e (hn x (List.mem_flatten.2 ⟨_,Nu d,List.mem_of_mem_drop hx⟩))
theorem avE(v:M7)(now id x:Int)(ls:List (List Tm))(w:MO)(hB:Xo w)(hx:Zo w v ls)(hlen:∀l∈ls,l.length<=1048576)(hm:Y9 now ls)(hid:(N6 ME id).wf=Nw) :
  Ni MK 127 #[Ny #[MF ME now,v],MF ME id,MF ME x] w fun r w'=>MQ w.heap.size w w' /\
   ((Zg now (x,id)=Nb/\r=MN (Nv #[Ny #[MF ME 0,MG MH 0 0],MF ME 2])) \/
     (Zg now (x,id)=Nw/\¬(∀t∈ls.flatten,t.2≠id)/\r=MN (Nv #[Ny #[MF ME 0,MG MH 0 0],MF ME 7])) \/
     (Zg now (x,id)=Nw/\(∀t∈ls.flatten,t.2≠id)/\∃u vs,r=MN (Nv #[Ny #[MF ME now,u],MF ME 0])/\WZ w' w.heap.size u vs (ZK ls now (x,id)))):=by
 obtain⟨a,ca,rfl,_⟩:=hx.F6;have d9:∀W,MQ w.heap.size w W->Xo W/\Zo W (MG a ls.length ca) ls:=fun W h=>⟨hB.below h,hx.below h⟩
 have y:M6 (_/\_/\_):=⟨d9,hlen,hm⟩;have g3:=hB.lt;obtain⟨V,e8⟩:=hm.1;clear d9 hlen hm hx hB;go_enter Ug,T6
 go_wp2_with fail
 have C:MQ w.heap.size w ((w.alloc (MP #[MF ME now,MG a ls.length ca] 53)).alloc (MP #[MF ME 0,MG MH 0 0] 53)):=((MY _ _).alloc (MV _) _).alloc (by simp) _;refine(ajJ _ now ls _ (y.out.1 _ C).1 (y.out.1 _ C).2 y.out.2.1).mono ?_;rintro r j ⟨L,⟨_,T,B,M,n,vs,f,rfl,hT,hF,e9⟩|⟨h1,_⟩⟩
 ·have Z:j.heap[w.heap.size+1]?=MI (MP #[MF ME 0,MG MH 0 0] 53 (0,0)):=(L.block _ (by simp)).trans (Yu _ _ _)
  have H:=C.trans (L.mono C.size);rw[show((w.alloc (MP #[MF ME now,MG a ls.length ca] 53)).alloc (MP #[MF ME 0,MG MH 0 0] 53)).heap.size+2=w.heap.size+4 by simp]at hT;obtain⟨q,z⟩:∃q,q=(j.alloc (MP #[MF ME now,MG (MI ⟨B,0,MH⟩) 25 25,P0 (MI M)] 285)).alloc (MP #[MF ME x,MF ME id] 201):=⟨_,rfl⟩;have R:MQ j.heap.size j q:=by rw[z];exact((MY _ _).alloc (MV _) _).alloc (by simp) _
  have U:WM q (w.heap.size+4) j.heap.size B M n now vs ls f:=by rw[z];exact hT.Iu.below ((MY _ _).alloc (MV _) _)
  have e7:=(R.block _ (Array.getElem?_eq_some_iff.1 Z).1).trans Z;have b7:=H.trans (R.mono H.size);have N:q.cell? ⟨j.heap.size+1,0,MH⟩=MI (MF ME x):=by rw[z];simp
  have K:q.cell? ⟨j.heap.size+1,1,MH⟩=MI (MF ME id):=by rw[z];simp
  have c9:j.heap.size+1<q.heap.size:=by rw[z];simp
  obtain⟨q0,q1,q2,q3⟩:=YS U.box;have e:M6 (_/\_/\_/\_/\_/\_/\_):=⟨U,hF,e9,e7,b7,z,H⟩;clear Z L C hT hF e9 R U e7 b7 H z
  go_wp2_with fail
  rw[<-e.out.2.2.2.2.2.1];have h8:=e.out.2.2.2.2.2.2.size;refine(anM x id now _ V e8).mono ?_;cases hfit:Zg now (x,id)
  ·rintro r w3 ⟨rfl,D⟩
   have s:MQ q.heap.size q w3:=by rw[D];exact(MY _ _).alloc (MV _) _
   have A:=(s.block _ (Array.getElem?_eq_some_iff.1 e.out.2.2.2.1).1).trans e.out.2.2.2.1;obtain⟨c0,c1,f0,f1,d8⟩:=Xa A;have o:M6 (_/\_):=⟨A,e.out.2.2.2.2.1.trans (s.mono e.out.2.2.2.2.1.size)⟩;clear D s A q0 q1 q2 q3 N K;go_wp2;obtain⟨E,F⟩:=adR (c:=MF ME 0) (d:=MG MH 0 0) o.out.1;refine Np (v:=Nv #[Ny #[MF ME 0,MG MH 0 0],MF ME 2]) (by simp[Pf,ax5,go_sem,E,F]) rfl ⟨?_,Nt ⟨hfit,rfl⟩⟩;exact((o.out.2.setCell (p:=⟨w.heap.size+1,0,MH⟩) (by simp) _).setCell (p:=⟨w.heap.size+1,1,MH⟩) (by simp) _)
  ·rintro r w3 ⟨rfl,D⟩
   have s:MQ q.heap.size q w3:=by rw[D];exact(MY _ _).alloc (MV _) _
   have P:=e.out.1.below s;have b8:=e.out.2.2.2.2.1.trans (s.mono e.out.2.2.2.2.1.size);have A:=(s.block _ (Array.getElem?_eq_some_iff.1 e.out.2.2.2.1).1).trans e.out.2.2.2.1;have c7:=(s.cell (p:=⟨j.heap.size+1,0,MH⟩) c9).trans N;have d6:=(s.cell (p:=⟨j.heap.size+1,1,MH⟩) c9).trans K;obtain⟨c0,c1,f0,f1,d8⟩:=Xa A;obtain⟨p0,p1,p2,p3⟩:=YS P.box;have o:M6 (_/\_/\_):=⟨A,b8,P⟩;clear D s A q0 q1 q2 q3 N K b8 P
   go_wp2_with fail
   refine(aju j.heap.size M n f id _ p2 o.out.2.2.map hid).mono ?_;cases hhas:(f id).isSome
   ·rintro r w4 ⟨rfl,rfl⟩
    have a0:=(e.out.2.1.GP id).1 hhas;have f8:=@aew x now;have J:=aer hfit V;obtain⟨i,Y⟩:∃i:Nat,Xq x now=(i:Int):=⟨(Xq x now).toNat,by omega⟩;have b5:i<25:=by omega
    have c8:i<ls.length:=by rw[y.out.2.2.2.len];exact b5
    have G:ls[i]?=MI (ls.getD i []):=by simp[Pq,MR c8]
    have b4:=y.out.2.2.2.ord _ (Nu G);have b9:=y.out.2.1 _ (Nu G);have HP:=ajG (w.heap.size+4) j.heap.size B M n now vs ls f x id i (aaX (ls.getD i []) (x,id)) w4 (y.out.1 _ o.out.2.1).1 o.out.2.2 (by omega) (by have:=(Array.getElem?_eq_some_iff.1 o.out.2.2.box).1;have:=o.out.2.2.hT;omega) V e8 (by have:=e.out.2.2.1;unfold NE;omega) b5 ⟨J.1,J.2.1⟩ hid Y _ G b9 (anW _ _) (fun k hk hkp=>agY _ _ _ (List.mem_take_iff_getElem.2 ⟨k,by omega,rfl⟩)) (fun k hk hkp=>agZ b4 _ _ (List.mem_drop_iff_getElem.2 ⟨k-aaX (ls.getD i []) (x,id),by omega,by congr 1;omega⟩));have HQ:M6 (_/\_/\_/\_):=⟨HP,a0,Y,G⟩;clear HP a0 f8 J Y G b4 b9 c8
    go_wp2_with fail
    refine HQ.out.1.mono ?_;rintro r w5 ⟨rfl,f9,I,Q,_⟩;have O:=(Q.block (w.heap.size+1) (by omega)).trans o.out.1;have b6:ls.set i (YA (ls.getD i []) (x,id) (aaX (ls.getD i []) (x,id)))=ZK ls now (x,id):=by
     unfold ZK;rw[show(Xq (x,id).1 now).toNat=i by rw[HQ.out.2.2.1];rfl]
    rw[b6]at I;obtain⟨i3,g7,g9,g8,g4⟩:=Xa O;obtain⟨i4,g6,h9,h7⟩:=YS I.box;have HY:M6 (_/\_/\_):=⟨O,I,o.out.2.1.trans (Q.mono (by omega))⟩;clear O I Q b6 c0 c1 f0 f1 d8 p0 p1 p2 p3 c7 d6;go_wp2;obtain⟨E,F⟩:=adR (c:=MF ME now) (d:=MG (MI ⟨B,0,MH⟩) 25 25) HY.out.1;refine Np (v:=Nv #[Ny #[MF ME now,MG (MI ⟨B,0,MH⟩) 25 25],MF ME 0]) (by simp[Pf,ax5,go_sem,E,F]) rfl ⟨?_,NF (NF ⟨hfit,HQ.out.2.1,_,f9,rfl,?_⟩)⟩
    ·exact((HY.out.2.2.setCell (p:=⟨w.heap.size+1,0,MH⟩) (by simp) _).setCell (p:=⟨w.heap.size+1,1,MH⟩) (by simp) _)
    ·exact(HY.out.2.1.own.Hh (g:=w.heap.size+1) (by omega) _ _).GV (by omega)
   ·rintro r w4 ⟨rfl,rfl⟩
    have d7:¬(∀t∈ls.flatten,t.2≠id):=fun h=>by rw[(e.out.2.1.GP id).2 h]at hhas;cases hhas
    have HN:M6 _:=d7;clear d7 p0 p1 p2 p3 c7 d6;go_wp2;obtain⟨E,F⟩:=adR (c:=MF ME 0) (d:=MG MH 0 0) o.out.1;refine Np (v:=Nv #[Ny #[MF ME 0,MG MH 0 0],MF ME 7]) (by simp[Pf,ax5,go_sem,E,F]) rfl ⟨?_,NF (Nt ⟨hfit,HN.out,rfl⟩)⟩;exact((o.out.2.1.setCell (p:=⟨w.heap.size+1,0,MH⟩) (by simp) _).setCell (p:=⟨w.heap.size+1,1,MH⟩) (by simp) _)
 ·exact absurd y.out.2.2 h1
end
section
open Go.Sort (grow grow_empty grow_grow alloc_eq_grow cell?_grow heap_grow_old)
structure XC(ls:List (List Tm)):Prop where
 len:ls.length=25
 ord:∀l∈ls,l.Pairwise (fun a b=>Xe a b<0)
 ids:(ls.flatten.map (·.2)).Nodup
theorem Ok.srt{now:Int}{ls:List (List Tm)}(h:Ok now ls):XC ls:=⟨h.len,h.ord,h.ids⟩
theorem agS(ls:List (List Tm))(now:Int)(t:Tm)(i:Nat)(hi:Xq t.1 now=(i:Int)):ZK ls now t=ls.set i (YA (ls.getD i []) t (aaX (ls.getD i []) t)):=by
 unfold ZK;rw[hi];rfl
theorem XC.ID{ls:List (List Tm)}(h:XC ls)(now:Int)(hn:∀x∈ls.flatten,x.2≠t.2):XC (ZK ls now t):=by
 have q:=@aew t.1 now;obtain⟨i,o⟩:∃i:Nat,Xq t.1 now=(i:Int):=⟨(Xq t.1 now).toNat,by omega⟩;have n:i<ls.length:=by rw[h.len];omega
 have l:ls[i]?=MI (ls.getD i []):=by simp[Pq,MR n]
 rw[agS ls now t i o];refine⟨by rw[NA];exact h.len,fun m d=>?_,?_⟩
 ·rcases OB d with d|rfl
  ·exact h.ord m d
  ·refine anT (h.ord _ (Nu l)) t _ (agY _ _) fun x j=>?_
   exact anJ (agZ (h.ord _ (Nu l)) t x j) (hn x (List.mem_flatten.2 ⟨_,Nu l,List.mem_of_mem_drop j⟩))
 ·rw[((afu l t _).map _).nodup_iff,OA,QJ]
  refine⟨fun d=>?_,h.ids⟩;obtain⟨x,j,e⟩:=List.mem_map.1 d;exact hn x j e
theorem ajo{ls:List (List Tm)}(h:ls.length=25)(now:Int)(t:Tm):(ZK ls now t).flatten.Perm (t::ls.flatten):=by
 have j:=@aew t.1 now;obtain⟨i,e⟩:∃i:Nat,Xq t.1 now=(i:Int):=⟨(Xq t.1 now).toNat,by omega⟩;have d:i<ls.length:=by rw[h];omega
 rw[agS ls now t i e];exact afu (by simp[Pq,MR d]) t _
def abL(ls:List (List Tm))(now:Int)(l:List Tm):List (List Tm):=l.foldl (fun ls t=>ZK ls now t) ls
theorem avB(ls:List (List Tm))(now:Int)(l:List Tm)(t:Tm):abL ls now (l++[t])=ZK (abL ls now l) now t:=by simp[abL]
theorem anE(ls:List (List Tm))(now:Int)(l:List Tm)(h:ls.length=25):(abL ls now l).flatten.Perm (l++ls.flatten):=by
 induction l generalizing ls with
 |nil=>exact .refl _
 |cons t l ih =>
  have d:(ZK ls now t).length=25:=by unfold ZK;rw[NA];exact h
  exact(ih (ZK ls now t) d).trans (((ajo h now t).append_left l).trans QC)
theorem anF(ls:List (List Tm))(now:Int)(l:List Tm)(h:XC ls)(hn:((l++ls.flatten).map (·.2)).Nodup):XC (abL ls now l):=by
 induction l generalizing ls with
 |nil=>exact h
 |cons t l ih =>
  have d:(((t::l)++ls.flatten).map (·.2)).Nodup:=hn;rw[List.cons_append,OA,QJ]at d;have i:∀x∈ls.flatten,x.2≠t.2:=fun x hx e=>d.1 (List.mem_map.2 ⟨x,Qq _ hx,e⟩)
  refine ih (ZK ls now t) (h.ID now i) ?_;have j:((l++(ZK ls now t).flatten).map (·.2)).Perm (((t::l)++ls.flatten).map (·.2)):=(((ajo h.len now t).append_left l).trans QC).map _;rw[j.nodup_iff];exact hn
theorem adc{ls:List (List Tm)}{l:List Tm}(h:l∈ls):l.length<=ls.flatten.length:=by
 induction ls with
 |nil=>cases h
 |cons m ls ih =>
  rw[QS,Ns];rcases List.mem_cons.1 h with rfl|h
  ·omega
  ·have:=ih h;omega
theorem adQ{ls:List (List Tm)}{L:List Tm}(h:ls[p]?=MI L):(L++(ls.set p []).flatten).Perm ls.flatten:=by
 obtain⟨a,b,e,d,_⟩:=ajs ls p L [] h;rw[d,e];simp only[PV,QS,Oz];rw[<-OC,<-OC];exact List.perm_append_comm.append_right _
theorem XC.Gc{ls:List (List Tm)}(h:XC ls){L:List Tm}(hL:ls[p]?=MI L):XC (ls.set p []):=by
 refine⟨by rw[NA];exact h.len,fun m d=>?_,?_⟩
 ·rcases OB d with d|rfl
  ·exact h.ord m d
  ·exact .nil
 ·have:=((adQ hL).map (·.2)).nodup_iff.2 h.ids
  rw[OI,Qv]at this;exact this.2.1
theorem WM.Gc{w:MO}{base T B M n:Nat}{now:Int}{vs:List M7}{ls:List (List Tm)}{f:Int->Option Int}(h:WM w base T B M n now vs ls f)(hp:p<25){u:M7}(hu:vs[p]?=MI u):
  WM (w.setCell ⟨B,p,MH⟩ (MG MH 0 0)) base T B M n now (vs.set p (MG MH 0 0)) (ls.set p []) f/\∀g,u.ownBlock=MI g->adO (w.setCell ⟨B,p,MH⟩ (MG MH 0 0)) (vs.set p (MG MH 0 0)) T B M g/\(w.setCell ⟨B,p,MH⟩ (MG MH 0 0)).heap[g]?=w.heap[g]?:=by
 have q:p<ls.length:=by rw[h.len];exact hp
 have l:p<vs.length:=by rw[h.own.each.1];exact q
 have E:T≠B:=fun e=>h.offT _ (NM ..) (by rw[e];rfl)
 have C:M≠B:=fun e=>h.offM _ (NM ..) (by rw[e];rfl)
 have o:u∈vs:=Nu hu;have D:w.grownBy w u.ownBlock:=⟨rfl,rfl,rfl,MV _,fun _ _ _=>rfl⟩;have A:=h.own.Gd h.len q hu D (u':=MG MH 0 0) (l':=[]) (NY _ _ _ _) (fun g hg=>by cases hg);have v:∀X,(∀x∈MG (MI ⟨B,0,MH⟩) 25 25::vs,x.ownBlock≠MI X)->∀x∈MG (MI ⟨B,0,MH⟩) 25 25::vs.set p (MG MH 0 0),x.ownBlock≠MI X:=fun X ho x i=>by
  rcases List.mem_cons.1 i with rfl|i
  ·exact ho _ (NM ..)
  ·rcases OB i with h|rfl
   ·exact ho x (NB _ h)
   ·intro e;cases e
 refine⟨⟨(MU _ _ _ _ E).trans h.box,A,h.map.Gf (MU _ _ _ _ C),v T h.offT,v M h.offM,h.hT,h.hM,h.hTM,by rw[NA];exact h.len⟩,fun g hg=>?_⟩;have z:g≠B:=fun e=>(List.pairwise_cons.1 h.own.apart).1 u o B rfl (by rw[hg,e])
 have r:vs[p]=u:=by rw[MR l]at hu;exact NC hu
 have F:g<w.heap.size:=by
  have d:=(h.own.each.2 p l q).lt g (by rw[r];exact hg);exact d.2
 refine⟨⟨by simpa using F,fun e=>h.offT u (NB _ o) (by rw[hg,e]),z,fun e=>h.offM u (NB _ o) (by rw[hg,e]),fun x i e=>?_⟩,MU _ _ _ _ z⟩;obtain⟨j,G,rfl⟩:=NV i
 by_cases hjp:j=p
 ·subst hjp
  rw[NW]at e;cases e
 ·rw[Pe (Pi hjp)]at e
  have y:j<vs.length:=by simpa using G
  have s:=List.pairwise_iff_getElem.1 (List.pairwise_cons.1 h.own.apart).2;rcases QM hjp with d|d
  ·exact s j p y l d g e (by rw[r];exact hg)
  ·exact s p j l y d g (by rw[r];exact hg) e
theorem avQ(base T B M n:Nat)(now:Int)(vs:List M7)(ls:List (List Tm))(f:Int->Option Int)(p:Nat)(L:List Tm)(w:MO)(hB:Xo w)(hT:WM w base T B M n now vs ls f)(hb0:1<base)(hbase:base<=w.heap.size)(hn:0<=now)(hn2:now<=1099511627776)
  (hp:p<25) (hL:ls[p]?=MI L) (hLb:∀t∈L,0<=t.1/\t.1<=4398046511104/\(N6 ME t.2).wf=Nw) (hS:XC ls) (htot:ls.flatten.length<=1048576) (hnn:n<=1000000000) :
  Ni MK 203 #[Na (MI ⟨T,0,MH⟩),MF ME p] w fun r w'=>r=MN (Nv #[])/\∃vs' n' f',WM w' base T B M n' now vs' (abL (ls.set p []) now L) f'/\n'<=n+L.length/\MQ base w w':=by
 obtain⟨t0,t1,t2,i3⟩:=YS hT.box;have U:p<ls.length:=by rw[hT.len];exact hp
 obtain⟨u,hu,F⟩:=aet hT.own p U;have i5:=aes hT.own hT.len p U u hu;have d8:ls[p]=L:=by rw[MR U]at hL;exact NC hL
 rw[d8]at F;have h9:w.frozen? ⟨B,p,MH⟩=false:=by
  have f8:=hT.own.row;rw[hT.len]at f8;exact f8.frozenAt p
 have c7:=hT.Gc hp hu;have e7:((L++(ls.set p []).flatten).map (·.2)).Nodup:=((adQ hL).map (·.2)).nodup_iff.2 hS.ids;have g9:L.length<=1048576:=Nm (adc (Nu hL)) htot;obtain⟨up,uc,rfl⟩:=Y6 F;have b4:=Yr F;have g6:=(hT.own.row.lt B rfl).1;have o:M6 (_/\_/\_/\_/\_/\_/\_/\_/\_):=⟨hT,c7,e7,b4,hLb,hS,hL,hB,htot⟩;have h8:T≠B:=fun e=>hT.offT _ (NM ..) (by rw[e];rfl)
 have h7:(p:Int)<25:=by omega
 clear hT c7 e7 b4 hLb hS hB hu F hL d8 htot;go_enter Wv,Wk;go_wp2
 go_loopw [24] (fun i wr=>∃(k n':Nat) (vs':List M7) (f':Int->Option Int),i=MF ME k/\k<=L.length/\WM wr base T B M n' now vs' (abL (ls.set p []) now (L.take k)) f'/\n'<=n+k/\MQ base w wr/\∀g,(MG up L.length uc).ownBlock=MI g->adO wr vs' T B M g/\wr.heap[g]?=w.heap[g]?) (fun i _=>L.length-(On i).toNat)
 case atStart =>
  exact⟨0,n,_,f,rfl,Nx _,o.out.2.1.1,MV _,(MY _ _).setCell (by exact g6) _,o.out.2.1.2⟩
 case round =>
  obtain⟨k,n',vs',f',rfl,hk,hT,G,v,E⟩:=hrel
  by_cases hlt:k<L.length
  ·obtain⟨ga,ca,hv,_,_,pu⟩:=Xz.F6 o.out.2.2.2.1
   simp only[N4]at hv;obtain⟨rfl,_,rfl⟩:=hv;obtain⟨H,ou,rfl,i4,p1,p2⟩:=pu k hlt;have Q:=E H rfl;have e1:=(NG (a:=⟨H,ou+k*2,MH⟩) Q.2).trans p1;have e2:=(NG (a:=⟨H,ou+k*2+1,MH⟩) Q.2).trans p2;obtain⟨j,P⟩:∃j,L[k].1=j:=⟨_,rfl⟩;obtain⟨l,V⟩:∃l,L[k].2=l:=⟨_,rfl⟩;have O:L[k]=(j,l):=Q8 P V;rw[P]at e1;rw[V]at e2;have A:=o.out.2.2.2.2.1 L[k] (Nk hlt);rw[O]at A;have Y:L.take (k+1)=L.take k++[(j,l)]:=by rw[M9 hlt,O]
   obtain⟨d,z⟩:∃d,d=abL (ls.set p []) now (L.take k):=⟨_,rfl⟩;have N:XC (ls.set p []):=o.out.2.2.2.2.2.1.Gc o.out.2.2.2.2.2.2.1;have K:(((L.take k++[(j,l)])++(ls.set p []).flatten).map (·.2)).Nodup:=by
    rw[<-Y];exact o.out.2.2.1.sublist ((Rz (List.take_sublist _ _) _).map _)
   have J:XC d:=by
    rw[z];refine anF _ _ _ N (K.sublist ((Rz (List.sublist_append_left _ _) _).map _))
   have R:d.flatten.Perm (L.take k++(ls.set p []).flatten):=by rw[z];exact anE _ _ _ N.len
   have f9:∀x∈d.flatten,x.2≠l:=fun x hx e=>by
    have g7:=R.mem_iff.1 hx;have y:(((j,l)::(L.take k++(ls.set p []).flatten)).map (·.2)).Nodup:=by
     refine(List.Perm.nodup_iff (List.Perm.map _ ?_)).1 K;rw[OC];exact QC
    rw[OA,QJ]at y;exact y.1 (List.mem_map.2 ⟨x,g7,e⟩)
   have g3:=@aew j now;obtain⟨i,hi⟩:∃i:Nat,Xq j now=(i:Int):=⟨(Xq j now).toNat,by omega⟩;have b6:i<25:=by omega
   have c8:i<d.length:=by rw[J.len];exact b6
   have I:d[i]?=MI (d.getD i []):=by simp[Pq,MR c8]
   have b5:=J.ord _ (Nu I);have b9:(d.getD i []).length<=1048576:=by
    refine Nm (adc (Nu I)) ?_;rw[R.length_eq];refine Nm ?_ o.out.2.2.2.2.2.2.2.2;rw[<-(adQ o.out.2.2.2.2.2.2.1).length_eq,Ns,Ns,NH];omega
   rw[<-z]at hT;obtain⟨D,Z⟩:∃D,D=wr.alloc (MP #[MF ME j,MF ME l] 201):=⟨_,rfl⟩;have C:MQ wr.heap.size wr D:=by rw[Z];exact(MY _ _).alloc (MV _) _
   have e8:=hT.below C;have c9:Xo D:=(o.out.2.2.2.2.2.2.2.1.Gf (v.block 1 hb0)).below C;have g4:=C.size;have g8:=v.size;have b8:d.set i (YA (d.getD i []) (j,l) (aaX (d.getD i []) (j,l)))=abL (ls.set p []) now (L.take (k+1)):=by
    rw[Y,avB,<-z,agS d now (j,l) i hi]
   have HP:=ajG base T B M n' now vs' d f' j l i (aaX (d.getD i []) (j,l)) D c9 e8 hb0 (by omega) hn hn2 (by unfold NE;omega) b6 ⟨A.1,A.2.1⟩ A.2.2 hi _ I b9 (anW _ _) (fun k hk hkp=>agY _ _ _ (List.mem_take_iff_getElem.2 ⟨k,by omega,rfl⟩)) (fun k hk hkp=>agZ b5 _ _ (List.mem_drop_iff_getElem.2 ⟨k-aaX (d.getD i []) (j,l),by omega,by congr 1;omega⟩));rw[b8]at HP;have q:M6 (_/\_/\_/\_/\_/\_):=⟨HP,Z,E,v,C,G⟩;clear HP Z E v C G b8 e8 c9 hT b9 b5 I c8 hi g3 f9 R J K N z Y A O P V p1 p2 Q g4 g8
   go_wp2_with fail
   rw[<-q.out.2.1];refine q.out.1.mono ?_;rintro r w5 ⟨rfl,d6,d9,e9,d7⟩;have a0:∀g,(MG (MI ⟨H,ou,MH⟩) L.length uc).ownBlock=MI g->adO w5 d6 T B M g/\w5.heap[g]?=w.heap[g]?:=fun g hg=>by
    obtain⟨y,h2⟩:=q.out.2.2.1 g hg;have h3:=d7 g ⟨M8 y.1 q.out.2.2.2.2.1.size,y.2⟩;exact⟨h3.2,h3.1.trans ((q.out.2.2.2.2.1.block g y.1).trans h2)⟩
   have b7:MQ base w w5:=(q.out.2.2.2.1.trans (q.out.2.2.2.2.1.mono (by have:=q.out.2.2.2.1.size;omega))).trans e9;have s:M6 (_/\_/\_):=⟨d9,a0,b7⟩;clear d9 a0 b7 e9 d7;go_wp2
   go_roundw
   case rel=>exact⟨k+1,n'+1,d6,_,by simp,hlt,s.out.1,by have:=q.out.2.2.2.2.2;omega,s.out.2.2,s.out.2.1⟩
   case measure=>simp[On];omega
  ·obtain rfl:k=L.length:=by omega
   rw[NT]at hT;have s:M6 (_/\_/\_):=⟨hT,G,v⟩;clear hT G v E;go_wp2
   go_end0
   exact⟨rfl,vs',n',f',s.out.1,s.out.2.1,s.out.2.2⟩
end
def ace(ls:List (List Tm))(m:Int)(p:Nat):List (List Tm):=abL (ls.set p []) m (ls.getD p [])
structure XJ(ls:List (List Tm)):Prop where
 srt:XC ls
 bnd:∀t∈ls.flatten,0<=t.1/\t.1<=4398046511104/\(N6 ME t.2).wf=Nw
 tot:ls.flatten.length<=1048576
theorem agU{ls:List (List Tm)}(h:ls.length=25)(m:Int)(hp:p<25):(ace ls m p).flatten.Perm ls.flatten:=by
 have d:ls[p]?=MI (ls.getD p []):=by simp[Pq,MR (show p<ls.length by omega)]
 exact(anE _ m _ (by rw[NA];exact h)).trans (adQ d)
theorem XJ.Il{ls:List (List Tm)}(h:XJ ls)(m:Int)(hp:p<25):XJ (ace ls m p):=by
 have e:ls[p]?=MI (ls.getD p []):=by simp[Pq,MR (show p<ls.length by rw[h.srt.len];exact hp)]
 have d:=agU h.srt.len m hp;refine⟨anF _ _ _ (h.srt.Gc e) ?_,fun t ht=>h.bnd t (d.mem_iff.1 ht),by rw[d.length_eq];exact h.tot⟩;exact((adQ e).map (·.2)).nodup_iff.2 h.srt.ids
def acB(m:Int):Nat:=(8+m / 8 % 8).toNat
def acf(m:Int):Nat:=(16+m / 64 % 8).toNat
def aak(ls:List (List Tm))(m:Int):List (List Tm):=if Zy m 8 then ace ls m (acB m)else ls
def aal(ls:List (List Tm))(m:Int):List (List Tm):=if Zy m 64 then ace (aak ls m) m (acf m)else aak ls m
def XO(ls:List (List Tm))(m:Int):List (List Tm):=if Zy m 512 then ace (aal ls m) m 24 else aal ls m
theorem ajK(m:Int):acB m<25:=by unfold acB;omega
theorem ajL(m:Int):acf m<25:=by unfold acf;omega
theorem XJ.Hm{ls:List (List Tm)}(h:XJ ls)(m:Int):XJ (aak ls m):=by
 unfold aak
 split
 ·exact h.Il m (ajK m)
 ·exact h
theorem XJ.Hs{ls:List (List Tm)}(h:XJ ls)(m:Int):XJ (aal ls m):=by
 unfold aal
 split
 ·exact(h.Hm m).Il m (ajL m)
 ·exact h.Hm m
theorem XJ.GR{ls:List (List Tm)}(h:XJ ls)(m:Int):XJ (XO ls m):=by
 unfold XO
 split
 ·exact(h.Hs m).Il m (by omega)
 ·exact h.Hs m
theorem WM.I6{w:MO}{base T B M n:Nat}{now:Int}{vs:List M7}{ls:List (List Tm)}{f:Int->Option Int}(h:WM w base T B M n now vs ls f):WM (w.setCell ⟨T,0,MH⟩ (MF ME m)) base T B M n m vs ls f:=by
 refine⟨(NI w T 0 _ _ (MF ME m) h.box),?_,h.map.Gf (MU _ _ _ _ (Pi h.hTM)),h.offT,h.offM,h.hT,h.hM,h.hTM,h.len⟩;refine h.own.If (row:=MI T) ⟨rfl,rfl,rfl,by simp,fun k _ hk=>MU _ _ _ _ (fun e=>hk (by rw[e]))⟩ fun u hu g hg e=>?_
 exact h.offT u hu (by rw[hg,NC e])
theorem avT(b1 b2 b3:Bool)(W:MO):(Qy 327 (Ny #[M3 b1,M3 b2,M3 b3]) (MF ME 0)).run MK W=.ok (M3 b1) W:=by kernel_rfl
theorem avU(b1 b2 b3:Bool)(W:MO):(Qy 327 (Ny #[M3 b1,M3 b2,M3 b3]) (MF ME 1)).run MK W=.ok (M3 b2) W:=by kernel_rfl
theorem avV(b1 b2 b3:Bool)(W:MO):(Qy 327 (Ny #[M3 b1,M3 b2,M3 b3]) (MF ME 2)).run MK W=.ok (M3 b3) W:=by kernel_rfl
theorem ajt(base T B M n:Nat)(now:Int)(vs:List M7)(ls:List (List Tm))(f:Int->Option Int)(p:Nat)(w:MO)(hB:Xo w)(hT:WM w base T B M n now vs ls f)(hb0:1<base)(hbase:base<=w.heap.size)(hn:0<=now)(hn2:now<=1099511627776)
  (hp:p<25) (hG:XJ ls) (hnn:n<=1000000000) :
  Ni MK 203 #[Na (MI ⟨T,0,MH⟩),MF ME p] w fun r w'=>r=MN (Nv #[])/\∃vs' n' f',WM w' base T B M n' now vs' (ace ls now p) f'/\n'<=n+1048576/\MQ base w w':=by
 have d:ls[p]?=MI (ls.getD p []):=by simp[Pq,MR (show p<ls.length by rw[hG.srt.len];exact hp)]
 refine(avQ base T B M n now vs ls f p _ w hB hT hb0 hbase hn hn2 hp d (fun t ht=>hG.bnd t (List.mem_flatten.2 ⟨_,Nu d,ht⟩)) hG.srt hG.tot hnn).mono fun r w' h=>?_
 obtain⟨i,vs',n',f',j,l,e⟩:=h;have:=adc (Nu d);have:=hG.tot;exact⟨i,vs',n',f',j,by omega,e⟩
theorem awn(base T B M n:Nat)(now:Int)(vs:List M7)(ls:List (List Tm))(f:Int->Option Int)(w:MO)(hB:Xo w)(hT:WM w base T B M n now vs ls f)(hb0:1<base)(hbase:base<=w.heap.size)(hn:0<=now)(hn2:now<1099511627776)(hG:XJ ls)(hnn:n<=26214400) :
  Ni MK 157 #[Na (MI ⟨T,0,MH⟩)] w fun r w'=>r=MN (Nv #[])/\∃vs' n' f',WM w' base T B M n' (now+1) vs' (XO ls (now+1)) f'/\n'<=100000000/\MQ base w w':=by
 obtain⟨t0,t1,t2,b7⟩:=YS hT.box;have b5:w.frozen? ⟨T,0,MH⟩=false:=by simp[Ng,hT.box]
 have a0:IntKind.i64.wrap (now+1)=now+1:=by rw[Ow];omega
 obtain⟨m,V⟩:∃m,m=now+1:=⟨_,rfl⟩;rw[<-V]at a0⊢;have R:WM (w.setCell ⟨T,0,MH⟩ (MF ME m)) base T B M n m vs ls f:=hT.I6;obtain⟨J,H⟩:∃J,J=w.setCell ⟨T,0,MH⟩ (MF ME m):=⟨_,rfl⟩;rw[<-H]at R;have N:MQ base w J:=by rw[H];exact(MY _ _).setCell hT.hT _
 have Z:Xo J:=hB.Gf (N.block 1 hb0);have C:0<=m:=by omega
 have O:m<=1099511627776:=by omega
 have l:M6 (_/\_/\_/\_/\_/\_):=⟨R,H,N,Z,hG,V⟩;clear hT R H N Z hB hG V a0;go_enter Tryz.func157,Tryz.ntmps157
 go_wp2_with fail
 rw[<-l.out.2.2.2.2.2,<-l.out.2.1];refine(avH m _ l.out.2.2.2.1 C (by omega)).mono ?_;obtain⟨K,P⟩:∃b,b=Zy m 8:=⟨_,rfl⟩;obtain⟨I,Q⟩:∃b,b=Zy m 64:=⟨_,rfl⟩;obtain⟨L,U⟩:∃b,b=Zy m 512:=⟨_,rfl⟩;rw[<-P,<-Q,<-U];rintro r w2 ⟨rfl,Y⟩;have b6:=l.out.2.2.1.size;have A:M6 (_/\_/\_/\_):=⟨P,Q,U,Y⟩;clear P Q U Y;have j0:=avT K I L;have j1:=avU K I L;have j2:=avV K I L;go_wp2
 go_loopw [19] (fun i wr=>∃(k n':Nat) (vs':List M7) (f':Int->Option Int),i=MF ME k/\k<=3/\WM wr base T B M n' m vs' (if k=0 then ls else if k=1 then aak ls m else if k=2 then aal ls m else XO ls m) f'/\n'<=n+k*1048576/\MQ base w wr) (fun i _=>3-(On i).toNat)
 case atStart=>exact⟨0,n,vs,f,rfl,by omega,l.out.1.below A.out.2.2.2,by omega,l.out.2.2.1.trans (A.out.2.2.2.mono (by omega))⟩
 case round =>
  obtain⟨k,n',vs',f',rfl,hk,hT,v,q⟩:=hrel;obtain⟨c0,c1,c2,b8⟩:=YS hT.box;have D:Xo wr:=l.out.2.2.2.1.Gf ((q.block 1 hb0).trans (l.out.2.2.1.block 1 hb0).symm);have b9:=q.size;have b4:k=0\/k=1\/k=2\/k=3:=by omega
  rcases b4 with rfl|rfl|rfl|rfl
  ·rw[Nh rfl]at hT
   have d:M6 (_/\_/\_/\_):=⟨hT,v,q,D⟩;clear hT v q D;cases K
   ·have e:aak ls m=ls:=by unfold aak;rw[<-A.out.1];rfl
    have j:M6 _:=e;clear e;go_wp2
    go_roundw
    case rel=>exact⟨1,n',vs',f',rfl,by omega,by rw[Nf (by omega),Nh rfl,j.out];exact d.out.1,by have:=d.out.2.1;omega,d.out.2.2.1⟩
    case measure=>simp[On]
   ·have e:aak ls m=ace ls m (acB m):=by unfold aak;rw[<-A.out.1];rfl
    have y:(8+m / 8 % 8:Int)=(acB m:Int):=by unfold acB;omega
    have j:M6 (_/\_):=⟨e,y⟩;clear e y
    go_wp2_with fail
    refine(awq m _ d.out.2.2.2 C (by omega)).mono ?_;rw[j.out.2];rintro r w3 ⟨rfl,rfl⟩
    go_wp2_with fail
    refine(ajt base T B M n' m vs' ls f' (acB m) _ d.out.2.2.2 d.out.1 hb0 (by omega) C O (ajK m) l.out.2.2.2.2.1 (by have:=d.out.2.1;omega)).mono ?_;rintro r w4 ⟨rfl,E,F,G,z,u,s⟩;have o:M6 (_/\_/\_):=⟨z,u,s⟩;clear z u s;go_wp2
    go_roundw
    case rel=>exact⟨1,F,E,G,rfl,by omega,by rw[Nf (by omega),Nh rfl,j.out.1];exact o.out.1,by have:=d.out.2.1;have:=o.out.2.1;omega,d.out.2.2.1.trans o.out.2.2⟩
    case measure=>simp[On]
  ·rw[Nf (by omega),Nh rfl]at hT
   have d:M6 (_/\_/\_/\_):=⟨hT,v,q,D⟩;clear hT v q D;cases I
   ·have e:aal ls m=aak ls m:=by unfold aal;rw[<-A.out.2.1];rfl
    have j:M6 _:=e;clear e;go_wp2
    go_roundw
    case rel=>exact⟨2,n',vs',f',rfl,by omega,by rw[Nf (by omega),Nf (by omega),Nh rfl,j.out];exact d.out.1,by have:=d.out.2.1;omega,d.out.2.2.1⟩
    case measure=>simp[On]
   ·have e:aal ls m=ace (aak ls m) m (acf m):=by unfold aal;rw[<-A.out.2.1];rfl
    have y:(16+m / 64 % 8:Int)=(acf m:Int):=by unfold acf;omega
    have j:M6 (_/\_):=⟨e,y⟩;clear e y
    go_wp2_with fail
    refine(awr m _ d.out.2.2.2 C (by omega)).mono ?_;rw[j.out.2];rintro r w3 ⟨rfl,rfl⟩
    go_wp2_with fail
    refine(ajt base T B M n' m vs' (aak ls m) f' (acf m) _ d.out.2.2.2 d.out.1 hb0 (by omega) C O (ajL m) (l.out.2.2.2.2.1.Hm m) (by have:=d.out.2.1;omega)).mono ?_;rintro r w4 ⟨rfl,E,F,G,z,u,s⟩;have o:M6 (_/\_/\_):=⟨z,u,s⟩;clear z u s;go_wp2
    go_roundw
    case rel=>exact⟨2,F,E,G,rfl,by omega,by rw[Nf (by omega),Nf (by omega),Nh rfl,j.out.1];exact o.out.1,by have:=d.out.2.1;have:=o.out.2.1;omega,d.out.2.2.1.trans o.out.2.2⟩
    case measure=>simp[On]
  ·rw[Nf (by omega),Nf (by omega),Nh rfl]at hT
   have d:M6 (_/\_/\_/\_):=⟨hT,v,q,D⟩;clear hT v q D;cases L
   ·have e:XO ls m=aal ls m:=by unfold XO;rw[<-A.out.2.2.1];rfl
    have j:M6 _:=e;clear e;go_wp2
    go_roundw
    case rel=>exact⟨3,n',vs',f',rfl,by omega,by rw[Nf (by omega),Nf (by omega),Nf (by omega),j.out];exact d.out.1,by have:=d.out.2.1;omega,d.out.2.2.1⟩
    case measure=>simp[On]
   ·have e:XO ls m=ace (aal ls m) m (24):=by unfold XO;rw[<-A.out.2.2.1];rfl
    have y:(24:Int)=((24:Nat):Int):=rfl;have j:M6 (_/\_):=⟨e,y⟩;clear e y
    go_wp2_with fail
    refine(aws m _).mono ?_;rintro r w3 ⟨rfl,rfl⟩
    go_wp2_with fail
    refine(ajt base T B M n' m vs' (aal ls m) f' 24 _ d.out.2.2.2 d.out.1 hb0 (by omega) C O (by omega) (l.out.2.2.2.2.1.Hs m) (by have:=d.out.2.1;omega)).mono ?_;rintro r w4 ⟨rfl,E,F,G,z,u,s⟩;have o:M6 (_/\_/\_):=⟨z,u,s⟩;clear z u s;go_wp2
    go_roundw
    case rel=>exact⟨3,F,E,G,rfl,by omega,by rw[Nf (by omega),Nf (by omega),Nf (by omega),j.out.1];exact o.out.1,by have:=d.out.2.1;have:=o.out.2.1;omega,d.out.2.2.1.trans o.out.2.2⟩
    case measure=>simp[On]
  ·rw[Nf (by omega),Nf (by omega),Nf (by omega)]at hT
   have d:M6 (_/\_/\_):=⟨hT,v,q⟩;clear hT v q;go_wp2
   go_end0
   exact⟨rfl,vs',n',f',d.out.1,by have:=d.out.2.1;omega,d.out.2.2⟩
theorem av8{ls:List (List Tm)}{i:Nat}{l:List Tm}(h:(ZK ls m t)[i]?=MI l)(hx:x∈l):(x=t/\Xq t.1 m=(i:Int))\/∃l',ls[i]?=MI l'/\x∈l':=by
 have e:=@aew t.1 m;obtain⟨j,d⟩:∃j:Nat,Xq t.1 m=(j:Int):=⟨(Xq t.1 m).toNat,by omega⟩;rw[agS ls m t j d]at h
 by_cases hij:i=j
 ·subst hij
  by_cases hl:i<ls.length
  ·rw[N7 hl]at h
   rw[<-NC h]at hx;rcases ajA.1 hx with rfl|hx
   ·exact Nt ⟨rfl,d⟩
   ·exact NF ⟨_,by simp[Pq,MR hl],hx⟩
  ·rw[Nz (by rw[NA];omega)]at h
   cases h
 ·rw[N3 (Pi hij)]at h
  exact NF ⟨l,h,hx⟩
theorem av7{i:Nat}(a:List Tm):∀ {ls:List (List Tm)} {l:List Tm},(abL ls m a)[i]?=MI l->x∈l->(x∈a/\Xq x.1 m=(i:Int))\/∃l',ls[i]?=MI l'/\x∈l':=by
 induction a with
 |nil=>intro ls l h d;exact NF ⟨l,h,d⟩
 |cons t a ih =>
  intro ls l h d;rcases ih (ls:=ZK ls m t) h d with⟨e,n⟩|⟨l',e,n⟩
  ·exact Nt ⟨NB _ e,n⟩
  ·rcases av8 e n with⟨rfl,j⟩|j
   ·exact Nt ⟨NM ..,j⟩
   ·exact NF j
theorem ajz{ls:List (List Tm)}{i:Nat}{l:List Tm}(h:(ace ls m p)[i]?=MI l)(hx:x∈l):Xq x.1 m=(i:Int)\/(i≠p/\∃l',ls[i]?=MI l'/\x∈l'):=by
 rcases av7 _ h hx with⟨_,e⟩|⟨l',d,e⟩
 ·exact Nt e
 ·by_cases hip:i=p
  ·subst hip
   by_cases hl:i<ls.length
   ·rw[N7 hl]at d
    rw[<-NC d]at e;cases e
   ·rw[Nz (by rw[NA];omega)]at d
    cases d
  ·rw[N3 (Pi hip)]at d
   exact NF ⟨hip,l',d,e⟩
theorem awm{at' now:Int}(h0:0<=now)(h1:now<at')(h2:at'<=now+500):Xq at' (now+1)=Xq at' now\/((now+1) % 8=0/\Xq at' now=8+(now+1) / 8 % 8)\/((now+1) % 64=0/\Xq at' now=16+(now+1) / 64 % 8)\/((now+1) % 512=0/\Xq at' now=24):=by
 unfold Xq
 by_cases a1:at' / 8=now / 8
 ·rw[Nh a1,Nh (by omega)];exact Nt rfl
 ·rw[Nf a1]
  by_cases a2:at' / 64=now / 64
  ·rw[Nh a2]
   by_cases b1:at' / 8=(now+1) / 8
   ·right;left;constructor <;> omega
   ·rw[Nf b1,Nh (by omega)];exact Nt rfl
  ·rw[Nf a2]
   by_cases a3:at' / 512=now / 512
   ·rw[Nh a3]
    by_cases b2:at' / 64=(now+1) / 64
    ·right;right;left;constructor <;> omega
    ·rw[Nf (by omega),Nf b2,Nh (by omega)];exact Nt rfl
   ·rw[Nf a3]
    by_cases b3:at' / 512=(now+1) / 512
    ·right;right;right;constructor <;> omega
    ·rw[Nf (by omega),Nf (by omega),Nf b3];exact Nt rfl
theorem avG(n m:Int):Zy n m=Nw↔n % m=0:=by unfold Zy;simp
theorem ajy{now:Int}{ls:List (List Tm)}(h:Ok now ls)(h0:0<=now):∀(i:Nat) (l:List Tm),(XO ls (now+1))[i]?=MI l->∀t∈l,Xq t.1 (now+1)=(i:Int):=by
 obtain⟨m,u⟩:∃m,m=now+1:=⟨_,rfl⟩;have y:∀(i:Nat) (l:List Tm),ls[i]?=MI l->∀t∈l,Xq t.1 m=(i:Int)\/(Zy m 8=Nw/\i=acB m)\/(Zy m 64=Nw/\i=acf m)\/(Zy m 512=Nw/\i=24):=fun i l e t n=>by
  have v:=h.fit i l e t n;have w:=(ada now t).1 v.1;have o:=awm h0 w.1 w.2.1;rw[v.2,<-u]at o;simp only[avG];unfold acB acf;rcases o with o|o|o|o
  ·exact Nt o
  ·exact NF (Nt ⟨o.1,by omega⟩)
  ·exact NF (NF (Nt ⟨o.1,by omega⟩))
  ·exact NF (NF (NF ⟨o.1,by omega⟩))
 have z:∀(i:Nat) (l:List Tm),(aak ls m)[i]?=MI l->∀t∈l,Xq t.1 m=(i:Int)\/(Zy m 64=Nw/\i=acf m)\/(Zy m 512=Nw/\i=24):=fun i l e t n=>by
  unfold aak at e
  split at e
  ·rcases ajz e n with j|⟨j,q,s,r⟩
   ·exact Nt j
   ·rcases y i q s t r with d|d|d
    ·exact Nt d
    ·exact absurd d.2 j
    ·exact NF d
  ·rename_i hnb
   rcases y i l e t n with d|d|d
   ·exact Nt d
   ·exact absurd d.1 hnb
   ·exact NF d
 have A:∀(i:Nat) (l:List Tm),(aal ls m)[i]?=MI l->∀t∈l,Xq t.1 m=(i:Int)\/(Zy m 512=Nw/\i=24):=fun i l e t n=>by
  unfold aal at e
  split at e
  ·rcases ajz e n with j|⟨j,q,s,r⟩
   ·exact Nt j
   ·rcases z i q s t r with d|d|d
    ·exact Nt d
    ·exact absurd d.2 j
    ·exact NF d
  ·rename_i hnb
   rcases z i l e t n with d|d|d
   ·exact Nt d
   ·exact absurd d.1 hnb
   ·exact NF d
 rw[<-u];intro i l e t n;unfold XO at e
 split at e
 ·rcases ajz e n with j|⟨j,q,s,r⟩
  ·exact j
  ·rcases A i q s t r with d|d
   ·exact d
   ·exact absurd d.2 j
 ·rename_i hnb
  rcases A i l e t n with d|d
  ·exact d
  ·exact absurd d.1 hnb
theorem agX{ls:List (List Tm)}(h:XJ ls)(m:Int):(XO ls m).flatten.Perm ls.flatten:=by
 have d:(aak ls m).flatten.Perm ls.flatten:=by
  unfold aak
  split
  ·exact agU h.srt.len m (ajK m)
  ·exact .refl _
 have e:(aal ls m).flatten.Perm ls.flatten:=by
  unfold aal
  split
  ·exact(agU (h.Hm m).srt.len m (ajL m)).trans d
  ·exact d
 unfold XO
 split
 ·exact(agU (h.Hs m).srt.len m (by omega)).trans e
 ·exact e
theorem afv(m:Int):(m % 8).toNat<25:=by omega
theorem ajF{x:Int}(h0:0<=m)(h1:m<=x):Xq x m=m % 8↔x=m:=by
 constructor
 ·intro h
  unfold Xq at h
  split at h
  ·omega
  ·split at h
   ·omega
   ·split at h
    ·omega
    ·omega
 ·rintro rfl
  unfold Xq;rw[Nh rfl]
theorem anU{now:Int}{ls:List (List Tm)}(h:Ok now ls)(h0:0<=now)(hG:XJ ls):∀x,x∈(XO ls (now+1)).getD ((now+1) % 8).toNat []↔x∈ls.flatten/\x.1=now+1:=by
 intro x;have u:=(hG.GR (now+1)).srt.len;have d:(XO ls (now+1))[((now+1) % 8).toNat]?=MI ((XO ls (now+1)).getD ((now+1) % 8).toNat []):=by
  simp[Pq,MR (show((now+1) % 8).toNat<(XO ls (now+1)).length by rw[u];exact afv _)]
 have q:=agX hG (now+1);have n:∀t∈ls.flatten,now+1<=t.1:=fun t ht=>by
  obtain⟨l,d,v⟩:=List.mem_flatten.1 ht;obtain⟨i,j,rfl⟩:=NV d;have:=(ada now t).1 (h.fit i _ (MR j) t v).1;omega
 constructor
 ·intro e
  have r:x∈ls.flatten:=q.mem_iff.1 (List.mem_flatten.2 ⟨_,Nu d,e⟩);have s:=ajy h h0 _ _ d x e;exact⟨r,(ajF (by omega) (n x r)).1 (by rw[s];omega)⟩
 ·rintro⟨e,he⟩
  obtain⟨l,w,o⟩:=List.mem_flatten.1 (q.mem_iff.2 e);obtain⟨i,j,rfl⟩:=NV w;have s:=ajy h h0 i _ (MR j) x o;have z:=(ajF (by omega) (n x e)).2 he;have y:i=((now+1) % 8).toNat:=by omega
  subst y;rw[MR j]at d;rw[<-NC d];exact o
theorem awb{now:Int}{ls:List (List Tm)}(h:Y9 now ls)(hlt:now<1099511627776)(hG:XJ ls):Y9 (now+1) ((XO ls (now+1)).set ((now+1) % 8).toNat []):=by
 have y:=h.1.1;have d:=hG.GR (now+1);have w:(XO ls (now+1))[((now+1) % 8).toNat]?=MI ((XO ls (now+1)).getD ((now+1) % 8).toNat []):=by
  simp[Pq,MR (show((now+1) % 8).toNat<(XO ls (now+1)).length by rw[d.srt.len];exact afv _)]
 have n:=d.srt.Gc w;refine⟨by omega,n.len,fun i l hil t ht=>?_,n.ord,n.ids⟩
 by_cases hi:i=((now+1) % 8).toNat
 ·subst hi
  rw[N7 (by rw[d.srt.len];exact afv _)]at hil;rw[<-NC hil]at ht;cases ht
 ·rw[N3 (Pi hi)]at hil
  have v:=ajy h.2 y i l hil t ht;have s:t∈ls.flatten:=(agX hG (now+1)).mem_iff.1 (List.mem_flatten.2 ⟨l,Nu hil,ht⟩);obtain⟨A,r,q⟩:=List.mem_flatten.1 s;obtain⟨j,u,rfl⟩:=NV r;have o:=(ada now t).1 (h.2.fit j _ (MR u) t q).1;refine⟨(ada _ _).2 ⟨?_,by omega,o.2.2.1,o.2.2.2⟩,v⟩;have z:t.1≠now+1:=fun e=>by
   have:=(ajF (show 0<=now+1 by omega) (by omega)).2 e;omega
  omega
theorem av6{now:Int}{ls:List (List Tm)}(h:Ok now ls)(t x:Tm):x∈(ZK ls now t).flatten↔x=t\/x∈ls.flatten:=by
 rw[(ajo h.len now t).mem_iff,OO]
theorem av9{now:Int}{ls:List (List Tm)}(h:Y9 now ls)(hG:XJ ls)(x:Tm):x∈((XO ls (now+1)).set ((now+1) % 8).toNat []).flatten↔x∈ls.flatten/\x.1≠now+1:=by
 have n:(XO ls (now+1))[((now+1) % 8).toNat]?=MI ((XO ls (now+1)).getD ((now+1) % 8).toNat []):=by
  simp[Pq,MR (show((now+1) % 8).toNat<(XO ls (now+1)).length by rw[(hG.GR (now+1)).srt.len];exact afv _)]
 have i:=(adQ n).trans (agX hG (now+1));have j:=anU h.2 h.1.1 hG x;have q:((XO ls (now+1)).flatten.map (·.2)).Nodup:=(hG.GR (now+1)).srt.ids;have o:x∈(XO ls (now+1)).getD ((now+1) % 8).toNat []->¬x∈((XO ls (now+1)).set ((now+1) % 8).toNat []).flatten:=fun h1 h2=>by
  have l:=((adQ n).map (·.2)).nodup_iff.2 q;rw[OI,Qv]at l;exact l.2.2 x.2 (List.mem_map.2 ⟨x,h1,rfl⟩) x.2 (List.mem_map.2 ⟨x,h2,rfl⟩) rfl
 constructor
 ·intro d
  refine⟨i.mem_iff.1 (Qq _ d),fun e=>?_⟩;exact o (j.2 ⟨i.mem_iff.1 (Qq _ d),e⟩) d
 ·rintro⟨d,hne⟩
  rcases List.mem_append.1 (i.mem_iff.2 d)with h1|h1
  ·exact absurd (j.1 h1).2 hne
  ·exact h1
theorem WM.old{w0 wr:MO}{base T B M n0 n:Nat}{now now0:Int}{vs:List M7}{ls0 ls:List (List Tm)}{f0 f:Int->Option Int}(h0:WM w0 base T B M n0 now0 vs ls0 f0)(h:WM wr base T B M n now vs ls f)(hk:∀g,g<w0.heap.size->w'.heap[g]?=wr.heap[g]?):WM w' base T B M n now vs ls f:=by
 have d:=(Array.getElem?_eq_some_iff.1 h0.box).1;have e:vs.length=25:=by rw[h0.own.each.1,h0.len]
 refine⟨(hk T d).trans h.box,⟨W8 h.own.row fun g hg=>hk g (h0.own.row.lt g hg).2,⟨h.own.each.1,fun i h1 h2=>?_⟩,h.own.apart⟩,h.map.Gf (hk M h0.map.lt),h.offT,h.offM,h.hT,h.hM,h.hTM,h.len⟩;exact W8 (h.own.each.2 i h1 h2) fun g hg=>hk g ((h0.own.each.2 i h1 (by rw[<-h0.own.each.1];exact h1)).lt g hg).2
theorem aaj.IX{w:MO}{n:Nat}{f:Int->Option Int}(h:aaj w b n f){id:Int}(hid:(N6 ME id).wf=Nw)(ty:NU):
  ∃w' f',(Builtin.delete_ #[283,3] ty #[P0 (MI b),MF ME id]).run MK w=.ok (Nv #[]) w'/\aaj w' b n f'/\w.grownBy w' (MI b):=by
 obtain⟨D,j,q⟩:=h;obtain⟨w',r,o,l⟩:=j.drop agW ay2 (Qg Ol hid) ty;obtain⟨A,v,z,u,s,rfl⟩:=l;refine⟨_,fun k=>if k=id then MH else f k,r,⟨_,o,fun k hk=>?_⟩,⟨rfl,rfl,rfl,by simp[Go.ChangeMaps.setBlock],fun i _ hi=>Go.ChangeMaps.heap_setBlock_other s _ (fun e=>hi (by rw[e]))⟩⟩
 dsimp only
 by_cases e:k=id
 ·subst e
  rw[Nh rfl];exact⟨Maps.has_del_same,fun y hy=>by cases hy⟩
 ·rw[Nf e]
  have d:N6 ME k≠N6 ME id:=fun h=>e (by cases h;rfl)
  rw[Maps.has_del_other d,Maps.atKey_del_other d];exact q k hk
theorem WM.II{w:MO}{base T B M n:Nat}{now:Int}{vs:List M7}{ls:List (List Tm)}{f f':Int->Option Int}(h:WM w base T B M n now vs ls f)(hm:aaj w' M n f')(hg:w.grownBy w' (MI M)):WM w' base T B M n now vs ls f':=by
 refine⟨(hg.block T (Array.getElem?_eq_some_iff.1 h.box).1 (fun e=>h.hTM (NC e))).trans h.box,h.own.If hg fun u hu g hg' e=>?_,hm,h.offT,h.offM,h.hT,h.hM,h.hTM,h.len⟩;exact h.offM u hu (by rw[hg',NC e])
def abM(l:List Tm):List Value:=l.map fun t=>MF ME t.2
theorem awj(m:Int)(h:0<=m):Xq m m=m % 8:=by unfold Xq;rw[Nh rfl]
theorem avO(base T B M n:Nat)(m:Int)(vs:List M7)(ls:List (List Tm))(f:Int->Option Int)(p:Nat)(L:List Tm)(w:MO)(hB:Xo w)(hT:WM w base T B M n m vs ls f)(hb0:1<base)(hbase:base<=w.heap.size)(hn:0<=m)(hn2:m<=1099511627776)
  (hp:m % 8=(p:Int)) (hL:ls[p]?=MI L) (hLb:∀t∈L,(N6 ME t.2).wf=Nw) (hLl:L.length<=1048576) :
  Ni MK 158 #[Na (MI ⟨T,0,MH⟩)] w fun r w'=>∃v vs' f',r=MN v/\w'.ownsRow w.heap.size 3 1 v L.length (abM L)/\WM w' base T B M n m vs' (ls.set p []) f'/\MQ base w w':=by
 obtain⟨i0,hi,d7,e7,g3⟩:=OF adB;obtain⟨t0,t1,t2,i3⟩:=YS hT.box;have b5:p<25:=by omega
 have G:p<ls.length:=by rw[hT.len];exact b5
 obtain⟨u,U,E⟩:=aet hT.own p G;have i6:=aes hT.own hT.len p G u U;have O:ls[p]=L:=by rw[MR G]at hL;exact NC hL
 rw[O]at E;have g4:=(hT.own.row.lt B rfl).2;have f8:=(hT.own.row.lt B rfl).1;have e8:M6 (∀q,Ni MK 205 #[MF ME m,MF ME m] (w.drewN q) fun e w'=>e=MN (MF ME (p:Int))/\∃k,w'=(w.drewN q).drewN k):=fun q=>by
  rw[<-hp,<-awj m hn];exact ajD m m _ (hB.IQ q) hn (by omega) hn (by omega)
 obtain⟨up,uc,rfl⟩:=Y6 E;have Z:=Yr E;have s:M6 (_/\_/\_/\_/\_/\_):=⟨hT,Z,hLb,U,E,O⟩;have g8:(p:Int)<25:=by omega
 clear hT Z hLb U E hL O hp hB;go_enter Tryz.func158,Tryz.ntmps158
 go_wp2_with fail
 go_quiet ((go_at_call 205;exact Qe (e8.out _)))
 go_wp2
 go_loopw [4,27] (fun off i wr=>∃(k:Nat) (f':Int->Option Int),i=MF ME k/\k<=L.length/\wr.ownsRow w.heap.size 3 1 off k (abM (L.take k))/\WM wr base T B M n m vs ls f'/\MQ base w wr/\w.heap.size<=wr.heap.size) (fun _ i _=>L.length-(On i).toNat)
 case atStart=>exact⟨0,f,rfl,Nx _,NY _ _ _ _,s.out.1.below (ajp (MY _ _) nq),ajp (MY _ _) nq,MV _⟩
 case round =>
  obtain⟨k,f',rfl,hk,A,hT,I,d9⟩:=hrel
  by_cases hlt:k<L.length
  ·obtain⟨u2,c9,F⟩:=aet hT.own p G
   rw[s.out.2.2.2.1]at c9;obtain rfl:=NC c9;rw[s.out.2.2.2.2.2]at F;obtain⟨g,c',V,h7,i7⟩:=F.form (by omega);simp only[N4]at V;obtain⟨rfl,_,rfl⟩:=V;have R:=aaT L k hlt;rw[<-F.cellAt _ (by omega),<-F.cellAt _ (by omega)]at R;obtain⟨D,b8⟩:∃D,L[k].1=D:=⟨_,rfl⟩;obtain⟨l,J⟩:∃l,L[k].2=l:=⟨_,rfl⟩;rw[b8,J]at R;obtain⟨e1,e2⟩:=R;have f9:(N6 ME l).wf=true:=by rw[<-J];exact s.out.2.2.1 _ (Nk hlt)
   have b4:abM (L.take (k+1))=abM (L.take k)++[MF ME l]:=by
    rw[M9 hlt,<-J];unfold abM;rw[OI];rfl
   have i5:(k:Int)<(L.length:Int):=by omega
   have HN:M6 (∀j y,[MF ME l][j]?=MI y->((wr.alloc (MP #[MF ME D,MF ME l] 201)).alloc (MP #[MF ME l] 3)).cell? ((⟨wr.heap.size+1,0,MH⟩:Oc).add j)=MI y):=by
    have h:=acR (wr.alloc (MP #[MF ME D,MF ME l] 201)) [MF ME l] 3;have hs:(wr.alloc (MP #[MF ME D,MF ME l] 201)).heap.size=wr.heap.size+1:=by simp
    rw[hs]at h;exact h
   have d:M6 (_/\_/\_/\_/\_):=⟨A,hT,I,b4,d9⟩;clear A hT I b4 F b8 J
   go_wp2_with (first|(at_builtin;refine O9 _ rfl _ _ 233 rfl w.heap.size 3 i0 _ 1 8 Tryz.underlying233 hi d7 e7 g3 rfl (by decide) u4 k _ rfl ((d.out.1.alloc _).alloc _) _ 1 1 [MF ME l] rfl rfl HN.out (by intro y hy;rw[List.mem_singleton.1 hy];rfl) (by decide) (by unfold NE;omega) (by omega) (by simp;omega) _ rfl ?_;intro g' e9 z H C d6 g6))
   have P:∀q,q<w.heap.size->z.heap[q]?=wr.heap[q]?:=fun q hq=>by
    rw[C.block q (by simp;omega) (fun e=>by have:=(d.out.1.lt q e.symm).1;omega)];exact(((MY _ wr).alloc (MV _) _).alloc (by simp) _).block q (by omega)
   have hK:z.cell? ⟨wr.heap.size,1,MH⟩=MI (MF ME l):=by
    have h1:z.heap[wr.heap.size]?=MI (MP #[MF ME D,MF ME l] 201 (0,0)):=by
     rw[C.block wr.heap.size (by simp;omega) (fun e=>by have:=(d.out.1.lt _ e.symm).2;omega)];exact Xy _ _ (M1 _ _)
    simp[Nl,h1]
   have h9:wr.heap.size<z.heap.size:=MX z ⟨wr.heap.size,1,MH⟩ hK;have g7:=d.out.2.2.2.2;have Q:=s.out.1.old d.out.2.1 P;have N:WM z.drew base T B M n m vs ls f':=Q.Gf fun _ _ _=>rfl
   obtain⟨c0,c1,c2,d8⟩:=YS Q.box;obtain⟨w3,f3,i4,c8,o⟩:=N.map.IX f9 0;have b9:=N.II c8 o;have a0:w3.ownsRow w.heap.size 3 1 (MG (MI ⟨g',0,MH⟩) (k+1) e9) (k+1) (abM (L.take (k+1))):=by
    rw[d.out.2.2.2.1];refine W8 H fun q hq=>?_
    rw[o.block q (H.lt q hq).2 (fun e=>by have:=(H.lt q hq).1;have:=s.out.1.map.lt;have:=NC e;omega)];rfl
   have b6:MQ base w w3:=by
    refine⟨o.os.trans (C.os.trans d.out.2.2.1.os),o.tape.trans (C.tape.trans d.out.2.2.1.tape),o.output.trans (C.output.trans d.out.2.2.1.output),Nm d.out.2.2.1.size (Nm (show wr.heap.size<=z.heap.size by omega) o.size),fun q hq=>?_⟩;rw[o.block q (by show q<z.heap.size;omega) (fun e=>by have:=s.out.1.hM;have:=NC e;omega)];exact(P q (by omega)).trans (d.out.2.2.1.block q hq)
   have K:M6 (_/\_/\_/\_):=⟨a0,b9,b6,Nm (show w.heap.size<=z.heap.size by omega) o.size⟩;clear a0 b9 b6 c8 o Q N P H C d6 e1 e2
   go_region
   go_wp2
   go_roundw
   case rel=>exact⟨k+1,f3,by simp,hlt,K.out.1,K.out.2.1,K.out.2.2.1,K.out.2.2.2⟩
   case measure=>simp[On];omega
  ·obtain rfl:k=L.length:=by omega
   rw[NT]at A;obtain⟨c0,c1,c2,d8⟩:=YS hT.box;have h8:=aes hT.own hT.len p G _ s.out.2.2.2.1;have g9:wr.frozen? ⟨B,p,MH⟩=false:=by
    have c7:=hT.own.row;rw[hT.len]at c7;exact c7.frozenAt p
   have b7:=hT.Gc b5 s.out.2.2.2.1;have Y:∀g,u4.ownBlock=MI g->g≠B:=fun g hg e=>by have:=(A.lt g hg).1;omega
   have d:M6 (_/\_/\_/\_):=⟨A,b7,I,Y⟩;clear A hT b7 I Y;go_wp2;go_ret;refine⟨_,_,f',rfl,W8 d.out.1 fun g hg=>MU _ _ _ _ (d.out.2.2.2 g hg),d.out.2.1.1,d.out.2.2.1.setCell f8 _⟩
theorem Ok.good{now:Int}{ls:List (List Tm)}(h:Ok now ls)(hn:0<=now)(ht:ls.flatten.length<=1048576):XJ ls:=by
 refine⟨h.srt,fun t htm=>?_,ht⟩;obtain⟨l,j,d⟩:=List.mem_flatten.1 htm;obtain⟨i,e,rfl⟩:=NV j;exact aer (h.fit i _ (MR e) t d).1 hn
def ZZ(m:Int):Nat:=(m % 8).toNat
theorem avC(v:M7)(now:Int)(ls:List (List Tm))(w:MO)(hB:Xo w)(hx:Zo w v ls)(htot:ls.flatten.length<=1048576)(hm:Y9 now ls) :
  Ni MK 112 #[Ny #[MF ME now,v]] w fun r w'=>MQ w.heap.size w w' /\
   ((now=1099511627776/\r=MN (Nv #[Ny #[MF ME 0,MG MH 0 0],MG MH 0 0,MF ME 9])) \/
     (now<1099511627776/\∃u vs x,r=MN (Nv #[Ny #[MF ME (now+1),u],x,MF ME 0])/\WZ w' w.heap.size u vs ((XO ls (now+1)).set (ZZ (now+1)) []) /\
      w'.ownsRow w.heap.size 3 1 x ((XO ls (now+1)).getD (ZZ (now+1)) []).length (abM ((XO ls (now+1)).getD (ZZ (now+1)) [])))):=by
 obtain⟨a,R,rfl,_⟩:=hx.F6;have a0:∀l∈ls,l.length<=1048576:=fun l s=>Nm (adc s) htot
 have b8:∀W,MQ w.heap.size w W->Xo W/\Zo W (MG a ls.length R) ls:=fun W h=>⟨hB.below h,hx.below h⟩
 have hG:=hm.2.good hm.1.1 htot;have e:M6 (_/\_/\_/\_):=⟨b8,a0,hm,hG⟩;have d8:=hB.lt;obtain⟨hn,g4⟩:=hm.1;clear b8 a0 hm hx hB hG;go_enter SP,Su
 go_wp2_with fail
 have y:MQ w.heap.size w ((w.alloc (MP #[MF ME now,MG a ls.length R] 53)).alloc (MP #[MF ME 0,MG MH 0 0] 53)):=((MY _ _).alloc (MV _) _).alloc (by simp) _;refine(ajJ _ now ls _ (e.out.1 _ y).1 (e.out.1 _ y).2 e.out.2.1).mono ?_;rintro r i ⟨K,⟨_,T,B,M,n,vs,f,rfl,V,hF,c7⟩|⟨H,_⟩⟩
 ·have o:i.heap[w.heap.size+1]?=MI (MP #[MF ME 0,MG MH 0 0] 53 (0,0)):=(K.block _ (by simp)).trans (Yu _ _ _)
  have C:=y.trans (K.mono y.size);rw[show((w.alloc (MP #[MF ME now,MG a ls.length R] 53)).alloc (MP #[MF ME 0,MG MH 0 0] 53)).heap.size+2=w.heap.size+4 by simp]at V;obtain⟨z,D⟩:∃z,z=i.alloc (MP #[MF ME now,MG (MI ⟨B,0,MH⟩) 25 25,P0 (MI M)] 285):=⟨_,rfl⟩;have P:MQ i.heap.size i z:=by rw[D];exact(MY _ _).alloc (MV _) _
  have E:WM z (w.heap.size+4) i.heap.size B M n now vs ls f:=by rw[D];exact V.Iu
  have b9:=(P.block _ (Array.getElem?_eq_some_iff.1 o).1).trans o;have b5:=C.trans (P.mono C.size);have e9:=E.hT;have f9:=(Array.getElem?_eq_some_iff.1 E.box).1;have d7:=(Array.getElem?_eq_some_iff.1 o).1;have d9:w.heap.size<i.heap.size:=by omega
  obtain⟨c0,c1,f0,f1,g3⟩:=Xa o;have j:M6 (_/\_/\_/\_/\_):=⟨E,c7,b9,b5,D⟩;have HQ:M6 (_/\_):=⟨o,C⟩;clear o K y V hF c7 P E b9 b5 C D
  by_cases hfull:now=1099511627776
  ·subst hfull
   go_wp2;have hf:=Xy _ (MP #[MF ME 1099511627776,MG (MI ⟨B,0,MH⟩) 25 25,P0 (MI M)] 285) (acb (c:=MF ME 0) (d:=MG MH 0 0) HQ.out.1);obtain⟨Q,U,_⟩:=Xa hf;refine Np (v:=Nv #[Ny #[MF ME 0,MG MH 0 0],MG MH 0 0,MF ME 9]) (by simp[Pf,Tryz.results112,go_sem,Q,U]) rfl ⟨?_,by first|exact .inl ⟨rfl,rfl⟩|rfl⟩;have H:=((HQ.out.2.setCell (p:=⟨w.heap.size+1,0,MH⟩) (by simp) (MF ME 0)).setCell (p:=⟨w.heap.size+1,1,MH⟩) (by simp) (MG MH 0 0));exact H.alloc H.size _
  ·have e8:(now == 1099511627776)=false:=by simp;exact hfull
   have Z:now<1099511627776:=by omega
   clear hfull
   go_wp2_with fail
   rw[<-j.out.2.2.2.2];refine(awn (w.heap.size+4) i.heap.size B M n now vs ls f z (e.out.1 _ j.out.2.2.2.1).1 j.out.1 (by omega) (by omega) hn Z e.out.2.2.2 j.out.2.1).mono ?_;rintro r w3 ⟨rfl,d6,n3,f3,O,c8,F⟩;obtain⟨m,hm⟩:∃m,m=now+1:=⟨_,rfl⟩;rw[<-hm]at O;have b7:m % 8=(ZZ m:Int):=by unfold ZZ;omega
   have G:=e.out.2.2.2.GR m;have b4:ZZ m<25:=by unfold ZZ;omega
   have s:(XO ls m)[ZZ m]?=MI ((XO ls m).getD (ZZ m) []):=by simp[Pq,MR (show ZZ m<(XO ls m).length by rw[G.srt.len];exact b4)]
   have b6:Xo w3:=(e.out.1 _ j.out.2.2.2.1).1.Gf (F.block 1 (by omega));have f8:=F.size;have HG:=avO (w.heap.size+4) i.heap.size B M n3 m d6 (XO ls m) f3 (ZZ m) _ w3 b6 O (by omega) (by omega) (by omega) (by omega) b7 s (fun t ht=>(G.bnd t (List.mem_flatten.2 ⟨_,Nu s,ht⟩)).2.2) (Nm (adc (Nu s)) G.tot);have q:M6 (_/\_/\_):=⟨HG,F,hm⟩;clear HG F hm O c8 b6 s G b7 b4
   go_wp2_with fail
   refine q.out.1.mono ?_;rintro r w4 ⟨x,c9,f4,rfl,N,L,I⟩;have J:=(I.block (w.heap.size+1) (by omega)).trans ((q.out.2.1.block (w.heap.size+1) (by omega)).trans j.out.2.2.1);obtain⟨d0,d1,y0,y1,e7⟩:=Xa J;obtain⟨q0,q1,q2,q3⟩:=YS L.box;obtain⟨xp,xc,rfl⟩:=Y6 N;have Y:MQ w.heap.size w w4:=(j.out.2.2.2.1.trans (q.out.2.1.mono (by omega))).trans (I.mono (by omega));have A:M6 (_/\_/\_/\_):=⟨J,L,Y,N⟩;clear J L Y N I c0 c1 f0 f1;go_wp2;obtain⟨Q,U⟩:=adR (c:=MF ME m) (d:=MG (MI ⟨B,0,MH⟩) 25 25) A.out.1;refine Np (v:=Nv #[Ny #[MF ME m,MG (MI ⟨B,0,MH⟩) 25 25],MG xp ((XO ls m).getD (ZZ m) []).length xc,MF ME 0]) (by simp[Pf,Tryz.results112,go_sem,Q,U]) rfl ⟨?_,NF ⟨Z,MG (MI ⟨B,0,MH⟩) 25 25,c9,MG xp ((XO ls m).getD (ZZ m) []).length xc,?_,?_,?_⟩⟩
   ·exact((A.out.2.2.1.setCell (p:=⟨w.heap.size+1,0,MH⟩) (by simp) _).setCell (p:=⟨w.heap.size+1,1,MH⟩) (by simp) _)
   ·rw[<-q.out.2.2]
   ·rw[<-q.out.2.2]
    exact(A.out.2.1.own.Hh (g:=w.heap.size+1) (by omega) _ _).GV (by omega)
   ·rw[<-q.out.2.2]
    refine W8 (A.out.2.2.2.mono (by omega)) fun g hg=>?_
    have:=(A.out.2.2.2.lt g hg).1;rw[MU _ _ _ _ (by simp;omega),MU _ _ _ _ (by simp;omega)]
 ·exact absurd e.out.2.2.1 H
theorem ajB:∀(k:Nat) (l:List Int),l.Nodup->(∀x∈l,0<=x/\x<(k:Int))->l.length<=k
 |0,l,_,h=>by
  cases l with
  |nil=>exact MV _
  |cons a l=>have:=h a (NM ..);omega
 |k+1,l,hn,h=>by
  by_cases hk:(k:Int)∈l
  ·have j:=ajB k (l.erase (k:Int)) (hn.erase _) fun x hx=>by
    have d:=(hn.mem_erase_iff).1 hx;have:=h x d.2;have i:=d.1;omega
   have n:=List.length_erase_of_mem hk;have i:=Qj hk;omega
  ·have j:=ajB k l hn fun x hx=>by
    have:=h x hx;have i:x≠(k:Int):=fun e=>hk (e ▸ hx)
    omega
   omega
theorem Ok.I5{now:Int}{ls:List (List Tm)}(h:Ok now ls)(ht:t∈ls.flatten):Zg now t=true:=by
 obtain⟨l,j,d⟩:=List.mem_flatten.1 ht;obtain⟨i,e,rfl⟩:=NV j;exact(h.fit i _ (MR e) t d).1
theorem Ok.Hr{now:Int}{ls:List (List Tm)}(h:Ok now ls):ls.flatten.length<=200:=by
 have e:=ajB 200 _ h.ids fun x hx=>by
  obtain⟨t,d,rfl⟩:=List.mem_map.1 hx;have:=(ada now t).1 (h.I5 d);omega
 rwa[N0]at e
theorem Ok.Ia{now:Int}{ls:List (List Tm)}(h:Ok now ls):ls.flatten.length<=1048576:=Nm h.Hr (by omega)
theorem anV{w:MO}{base:Nat}{v:M7}{vs:List M7}{ls:List (List Tm)}(h:WZ w base v vs ls){n:Nat}(hn:ls.length=n):∃p c,v=MG p n c:=by
 obtain⟨p,c,rfl⟩:=Y6 h.row;exact⟨p,c,by rw[hn]⟩
def adP(w:MO)(base:Nat)(p:Option Oc)(c:Nat)(ls:List (List Tm)):Prop:=∃vs,WZ w base (MG p 25 c) vs ls
theorem adP.GV{w:MO}{base c:Nat}{p:Option Oc}{ls:List (List Tm)}(h:adP w base p c ls)(hb:b<=base):adP w b p c ls:=h.elim fun vs h=>⟨vs,h.GV hb⟩
theorem avD(v:M7)(now id x:Int)(ls:List (List Tm))(w:MO)(hB:Xo w)(hx:Zo w v ls)(hm:Y9 now ls)(hf:Zg now (x,id)=Nw)(hn:∀t∈ls.flatten,t.2≠id) :
  Ni MK 127 #[Ny #[MF ME now,v],MF ME id,MF ME x] w fun r w'=>∃p c,r=MN (Nv #[Ny #[MF ME now,MG p 25 c],MF ME 0])/\adP w' w.heap.size p c (ZK ls now (x,id))/\Y9 now (ZK ls now (x,id))/\MQ w.heap.size w w':=by
 have i:=hm.ID hf hn;refine(avE v now id x ls w hB hx (fun l hl=>Nm (adc hl) hm.2.Ia) hm (aer hf hm.1.1).2.2).mono ?_;rintro r w' ⟨j,⟨d,_⟩|⟨_,d,_⟩|⟨_,_,u,n,rfl,e⟩⟩
 ·rw[hf]at d;cases d
 ·exact absurd hn d
 ·obtain⟨p,c,rfl⟩:=anV e i.2.len
  exact⟨p,c,rfl,⟨_,e⟩,i,j⟩
structure Z8(now:Int)(ls ms:List (List Tm))(L:List Tm):Prop where
 may:Y9 (now+1) ms
 left:∀t,t∈ms.flatten↔t∈ls.flatten/\t.1≠now+1
 off:∀t,t∈L↔t∈ls.flatten/\t.1=now+1
 ord:L.Pairwise (fun a b=>Xe a b<0)
 len:L.length<=200
theorem av3{now:Int}{ls:List (List Tm)}(hm:Y9 now ls)(hlt:now<1099511627776):Z8 now ls ((XO ls (now+1)).set (ZZ (now+1)) []) ((XO ls (now+1)).getD (ZZ (now+1)) []):=by
 have d:=hm.2.good hm.1.1 hm.2.Ia;have e:=d.GR (now+1);have i:(XO ls (now+1))[ZZ (now+1)]?=MI ((XO ls (now+1)).getD (ZZ (now+1)) []):=by
  simp[Pq,MR (show ZZ (now+1)<(XO ls (now+1)).length by rw[e.srt.len];exact afv _)]
 refine⟨awb hm hlt d,fun t=>av9 hm d t,anU hm.2 hm.1.1 d,e.srt.ord _ (Nu i),?_⟩;have j:=adc (Nu i);rw[(agX d (now+1)).length_eq]at j;exact Nm j hm.2.Hr
theorem anG(v:M7)(now:Int)(ls:List (List Tm))(w:MO)(hB:Xo w)(hx:Zo w v ls)(hm:Y9 now ls)(hlt:now<1099511627776) :
  Ni MK 112 #[Ny #[MF ME now,v]] w fun r w'=>∃p c xp xc ms L,r=MN (Nv #[Ny #[MF ME (now+1),MG p 25 c],MG xp L.length xc,MF ME 0])/\adP w' w.heap.size p c ms/\Z8 now ls ms L /\
   w'.ownsRow w.heap.size 3 1 (MG xp L.length xc) L.length (abM L)/\MQ w.heap.size w w':=by
 have e:=av3 hm hlt;refine(avC v now ls w hB hx hm.2.Ia hm).mono ?_;rintro r w' ⟨i,⟨j,_⟩|⟨_,u,l,x,rfl,d,hx⟩⟩
 ·omega
 ·obtain⟨p,c,rfl⟩:=anV d e.may.2.len
  obtain⟨xp,xc,rfl⟩:=Y6 hx;exact⟨p,c,xp,xc,_,_,rfl,⟨_,d⟩,e,hx,i⟩
theorem agT(a b id:Int)(g:Nat)(w:MO)(h:w.cell? ⟨g,0,MH⟩=MI (MF ME id)) :
  Ni MK 244 #[Ny #[MF ME a,MF ME b],Na (MI ⟨g,0,MH⟩)] w fun r w'=>r=MN (M3 (Nn (b=id)))/\w'=w.alloc (MP #[MF ME a,MF ME b] 201):=by
 have e:g<w.heap.size:=MX w ⟨g,0,MH⟩ h
 by_cases hb:b=id
 ·subst hb
  go_enter VT,VK;go_wp2;go_ret;exact⟨by simp,rfl⟩
 ·have i:(b == id)=false:=by simpa using hb
  have d:Nn (b=id)=false:=M0 hb;rw[d];clear hb;go_enter VT,VK;go_wp2;go_ret;exact⟨rfl,rfl⟩
theorem avW(v:M7)(l:List Tm)(id:Int)(g:Nat)(w:MO)(hv:Xz w v l)(h:w.cell? ⟨g,0,MH⟩=MI (MF ME id))(hex:∃t∈l,t.2=id) :
  Ni MK 160 #[v,PB (PD 244) #[] #[Na (MI ⟨g,0,MH⟩)]] w fun r w'=>∃(k:Nat) (hk:k<l.length),r=MN (MF ME k)/\l[k].2=id/\(∀t∈l.take k,t.2≠id)/\MQ w.heap.size w w':=by
 obtain⟨a,P,rfl,N,J,F⟩:=hv.F6;unfold NE at J;have I:=MX w ⟨g,0,MH⟩ h;have E:M6 (_/\_):=⟨h,hex⟩;clear h hex hv;go_enter VD,Vv;go_wp2
 go_loopw [8] (fun i wr=>∃k:Nat,i=MF ME k/\k<=l.length/\(∀t∈l.take k,t.2≠id)/\MQ w.heap.size w wr) (fun i _=>l.length-(On i).toNat)
 case atStart=>exact⟨0,rfl,Nx _,by simp,MY _ _⟩
 case round =>
  obtain⟨k,rfl,hk,s,n⟩:=hrel
  by_cases hlt:k<l.length
  ·obtain⟨G,H,rfl,y,c1,C⟩:=F k hlt
   have L:=(n.cell (p:=⟨G,H+k*2,MH⟩) y).trans c1;have K:=(n.cell (p:=⟨G,H+k*2+1,MH⟩) y).trans C;have D:=(n.cell (p:=⟨g,0,MH⟩) I).trans E.out.1;have d:M6 (_/\_/\_):=⟨s,n,D⟩;have O:(k:Int)<(l.length:Int):=by omega
   have A:l.take (k+1)=l.take k++[l[k]]:=M9 hlt;obtain⟨q,B⟩:∃q,q=l[k].1:=⟨_,rfl⟩;obtain⟨o,u⟩:∃o,o=l[k].2:=⟨_,rfl⟩;rw[<-B]at L;rw[<-u]at K;have z:M6 (_/\_):=⟨A,u⟩;clear s n c1 C y A B u D F;cases hd:Nn (o=id)
   ·go_wp2_with fail
    refine(agT q o id g _ d.out.2.2).mono ?_;rw[hd];rintro r M ⟨rfl,rfl⟩;go_wp2
    go_roundw
    case rel =>
     refine⟨k+1,by simp,hlt,fun t j=>?_,d.out.2.1.alloc d.out.2.1.size _⟩;rw[z.out.1]at j;rcases List.mem_append.1 j with j|j
     ·exact d.out.1 t j
     ·rw[List.mem_singleton.1 j,<-z.out.2]
      exact Nc hd
    case measure=>simp[On];omega
   ·go_wp2_with fail
    refine(agT q o id g _ d.out.2.2).mono ?_;rw[hd];rintro r M ⟨rfl,rfl⟩;go_wp2;go_ret;exact⟨k,hlt,rfl,by rw[<-z.out.2];exact M2 hd,d.out.1,d.out.2.1.alloc d.out.2.1.size _⟩
  ·exfalso
   obtain⟨t,j,e⟩:=E.out.2;exact s t (by rw[N1 (by omega)];exact j) e
theorem awt(W:MO):(zeroValue 201).run MK W=.ok (Ny #[MF ME 0,MF ME 0]) W:=by kernel_rfl
theorem avL(base g c:Nat)(l:List Tm)(id:Int)(gid:Nat)(w:MO)(hown:w.ownsRow base 201 2 (MG (MI ⟨g,0,MH⟩) l.length c) l.length (WP l))(h:w.cell? ⟨gid,0,MH⟩=MI (MF ME id))(hne:gid≠g)(hex:∃t∈l,t.2=id) :
  Ni MK 243 #[MG (MI ⟨g,0,MH⟩) l.length c,PB (PD 244) #[] #[Na (MI ⟨gid,0,MH⟩)]] w fun r w'=>r=MN (MG (MI ⟨g,0,MH⟩) (kp l id).length c)/\w'.ownsRow base 201 2 (MG (MI ⟨g,0,MH⟩) (kp l id).length c) (kp l id).length (WP (kp l id))/\w.grownBy w' (MI g):=by
 have Q:=avW _ l id gid w (Yr hown) h hex;have b8:=MX w ⟨gid,0,MH⟩ h;have b7:l.length<=c/\c<=maxLen:=by
  obtain⟨_,c',he,hc,hm,_⟩:=Yr hown;cases he;exact⟨hc,hm⟩
 obtain⟨g3,c8⟩:=b7;unfold NE at c8;have L:M6 (_/\_/\_):=⟨Q,hown,h⟩;clear Q hown h hex;go_enter S5,SD
 go_wp2_with fail
 refine L.out.1.mono ?_;rintro r w1 ⟨k,hk,rfl,M,N,v⟩;have y:kp (l.take k) id=l.take k:=aiI N;have K:=afh (junk:=[]) hk M;have H1:M6 (_/\_/\_/\_):=⟨v,y,K.1,K.2⟩;have g4:((k:Int) == -1)=false:=by
  rw[Oh];omega
 clear v y K M N;go_wp2
 go_loopw [5,6] (fun s5 s6 wr=>∃(j:Nat) (junk:List Tm),s5=MF ME ((kp (l.take j) id).length:Nat)/\s6=MF ME j/\j<=l.length/\(kp (l.take j) id).length+junk.length=j/\junk≠[]/\wr.ownsRow base 201 2 (MG (MI ⟨g,0,MH⟩) l.length c) l.length (WP (XE l id junk j))/\w.grownBy wr (MI g)) (fun _ s6 _=>l.length-(On s6).toNat)
 case atStart =>
  obtain⟨v,y,c9,d6⟩:=H1.out;have e0:XE l id [l[k]] (k+1)=l:=by
   have:XE l id ([]++[l[k]]) (k+1)=XE l id [] k:=c9;rw[Oz]at this;rw[this];unfold XE;rw[y,OG,Oo]
  have A:(kp (l.take (k+1)) id).length=k:=by rw[d6,y,NH];omega
  refine⟨k+1,[l[k]],by rw[A],by simp,hk,by rw[A];rfl,by simp,?_,aiH v⟩;rw[e0];exact agD L.out.2.1 v
 case round =>
  obtain⟨j,junk,rfl,rfl,hj,U,V,d,o⟩:=hrel;have c7:=aiM hj U;have D:wr.cell? ⟨gid,0,MH⟩=MI (MF ME id):=o.cell L.out.2.2 (by simpa using hne);obtain⟨x,n,rfl⟩:∃x n,junk=x::n:=by
   cases junk with
   |nil=>exact absurd rfl V
   |cons x r=>exact⟨x,r,rfl⟩
  rw[Ox]at U;have b5:gid<wr.heap.size:=M8 b8 o.size;have g6:=(d.lt g rfl).2;generalize e:(kp (l.take j) id).length=i at *
  by_cases hlt:j<l.length
  ·have T:=aiL (id:=id) (junk:=x::n) hlt (by rw[e,Ox];omega)
   obtain⟨Y,O⟩:=List.getElem?_eq_some_iff.1 T
   have C:=aaT (XE l id (x::n) j) j Y;rw[O]at C;have f1:=(d.cellAt (j*2) (by omega)).trans C.1;have f2:=(d.cellAt (j*2+1) (by omega)).trans C.2;have I:=aaT (XE l id (x::n) j) i (by omega);have f3:=(d.cellAt (i*2) (by omega)).trans I.1;have f4:=(d.cellAt (i*2+1) (by omega)).trans I.2;have f5:=d.frozenAt (i*2);have f6:=d.frozenAt (i*2+1);obtain⟨u,J⟩:∃u,u=l[j].1:=⟨_,rfl⟩;obtain⟨q,G⟩:∃q,q=l[j].2:=⟨_,rfl⟩;rw[<-J]at f1;rw[<-G]at f2;generalize ((XE l id (x::n) j)[i]'(by omega)).1=oa at f3;generalize ((XE l id (x::n) j)[i]'(by omega)).2=od at f4;have s:l[j]=(u,q):=by rw[J,G]
   have B:M6 (_/\_/\_/\_/\_):=⟨d,o,D,s,e⟩;have f9:(j:Int)<(l.length:Int):=by omega
   have d7:(i:Int)<(l.length:Int):=by omega
   have e7:i<j:=by omega
   have f8:i<l.length:=by omega
   clear d o D T O C I J G s Y e V;have R:((wr.alloc (MP #[MF ME u,MF ME q] 201))).cell? ⟨gid,0,MH⟩=MI (MF ME id):=by
    rw[NG (a:=⟨gid,0,MH⟩) (Ov wr _ gid b5)];exact B.out.2.2.1
   have Z:M6 _:=R;clear R;cases hd:Nn (q=id)
   ·go_wp2_with fail
    refine(agT u q id gid _ Z.out).mono ?_;rw[hd];rintro r w2 ⟨rfl,rfl⟩;go_wp2
    go_roundw
    case rel =>
     obtain⟨d,o,D,s,e⟩:=B.out;have b6:l[j].2≠id:=by rw[s];exact Nc hd
     obtain⟨E,z⟩:=aiN (x:=x) (junk:=n) hlt b6;have a0:=d.stored (i*2) (MF ME u);have H:=a0.1.stored (i*2+1) (MF ME q);have b9:=afj (XE l id (x::n) j) i (u,q);rw[b9]at H;rw[e,s]at E;refine⟨j+1,n++[l[j]],by rw[z,Ns,e];simp,by simp,hlt,by rw[z,Ns,e];simp;omega,by simp,?_,?_⟩
     ·rw[s,E];exact(H.1.alloc _).alloc _
     ·exact(((o.trans a0.2).trans H.2).trans (OL _ _ _)).trans (OL _ _ _)
    case measure=>simp[On];omega
   ·go_wp2_with fail
    refine(agT u q id gid _ Z.out).mono ?_;rw[hd];rintro r w2 ⟨rfl,rfl⟩;go_wp2
    go_roundw
    case rel =>
     obtain⟨d,o,D,s,e⟩:=B.out;have d8:l[j].2=id:=by rw[s];exact M2 hd
     obtain⟨E,z⟩:=afh (junk:=x::n) hlt d8;refine⟨j+1,x::n++[l[j]],by rw[z,e],by simp,hlt,by rw[z,e];simp;omega,by simp,?_,?_⟩
     ·rw[E];exact(d.alloc _).alloc _
     ·exact(o.trans (OL _ _ _)).trans (OL _ _ _)
    case measure=>simp[On];omega
  ·obtain rfl:j=l.length:=by omega
   have g7:i<l.length:=by omega
   obtain⟨vs,e9⟩:=aiR (P:=MK) wr 198 201 0 (MF ME 0) (MF ME 0) Ls awt rfl rfl g (i*2) (l.length-i) (c-i) (by omega) (fun t C=>by
    have h1:=d.cellAt (i*2+t) (by omega);rw[h1,MR (by rw[YE,c7];omega)];rfl) (fun t _=>d.frozenAt _)
   have F:=aeh vs (i*2) wr (agE d (i:=i) (by omega)) (MV _);have A:(WP (XE l id (x::n) l.length)).take (i*2)=WP (kp l id):=by
    have e2:kp (l.take l.length) id=kp l id:=by rw[NT]
    rw[e2]at e;rw[ac4];unfold XE;rw[e2,OC,ZqA (by omega),<-e,NT]
   rw[A]at F;have b4:(kp l id).length=i:=by rw[<-e,NT]
   have B:M6 (_/\_/\_):=⟨F,o,b4⟩;have d7:(i:Int)<(l.length:Int):=by omega
   have e8:(i:Int)<=(c:Int):=by omega
   have d9:c≠i:=by omega
   clear F o d e A b4;go_wp2;go_ret;obtain⟨r1,r2,r3⟩:=B.out;rw[r3];exact⟨rfl,r1.1,r2.trans r1.2⟩
theorem avR{w:MO}(h1:w.cell? a1=MI v1)(h2:w.cell? a2=MI v2)(h3:w.cell? a3=MI v3)(h4:w.cell? a4=MI v4)(hf:w.frozen? a2=Nb)
  (k1:w'.heap[a1.block]?=w.heap[a1.block]?) (k2:w'.heap[a2.block]?=w.heap[a2.block]?) (k3:w'.heap[a3.block]?=w.heap[a3.block]?) (k4:w'.heap[a4.block]?=w.heap[a4.block]?) :
  w'.cell? a1=MI v1/\w'.cell? a2=MI v2/\w'.cell? a3=MI v3/\w'.cell? a4=MI v4/\w'.frozen? a2=false :=
 ⟨(NG k1).trans h1,(NG k2).trans h2,(NG k3).trans h3,(NG k4).trans h4,(OM k2).trans hf⟩
theorem awk(base T B M n:Nat)(now:Int)(vs:List M7)(ls:List (List Tm))(f:Int->Option Int)(id:Int)(i:Nat)(w:MO)(hT:WM w base T B M n now vs ls f)(hbase:base<=w.heap.size)(hi:i<25)(hid:(N6 ME id).wf=Nw)(hf:f id=MI (i:Int))(l:List Tm)(hl:ls[i]?=MI l)(hex:∃t∈l,t.2=id) :
  Ni MK 220 #[Na (MI ⟨T,0,MH⟩),MF ME id] w fun r w'=>r=MN (Nv #[])/\∃vs' f',WM w' base T B M n now vs' (ls.set i (kp l id)) f'/\MQ base w w':=by
 obtain⟨t0,t1,t2,b6⟩:=YS hT.box;have E:i<ls.length:=by rw[hT.len];exact hi
 obtain⟨u,z,I⟩:=aet hT.own i E;have c9:=aes hT.own hT.len i E u z;have C:=hl;rw[MR E]at hl;rw[NC hl]at I;have d8:0<l.length:=by obtain⟨t,ht,_⟩:=hex;exact Qj ht
 obtain⟨g,c,rfl,f8,i6⟩:=I.form d8;have a0:B<w.heap.size:=(hT.own.row.lt B rfl).2;have g7:=(hT.own.row.lt B rfl).1;have b5:w.frozen? ⟨B,i,MH⟩=false:=by
  have c8:=hT.own.row;rw[hT.len]at c8;exact c8.frozenAt i
 have P:g≠T:=fun e=>hT.offT _ (NB _ (Nu z)) (by rw[e];rfl)
 have g6:g≠M:=fun e=>hT.offM _ (NB _ (Nu z)) (by rw[e];rfl)
 have g4:g≠B:=fun e=>(List.pairwise_cons.1 hT.own.apart).1 _ (Nu z) B rfl (by rw[e];rfl)
 have e9:T≠B:=fun e=>hT.offT _ (NM ..) (by rw[e];rfl)
 have f9:M≠B:=fun e=>hT.offM _ (NM ..) (by rw[e];rfl)
 have h7:=hT.map.lt;obtain⟨d,A⟩:∃d,d=w.alloc (MP #[MF ME id] 3):=⟨_,rfl⟩;have o:MQ w.heap.size w d:=by rw[A];exact(MY _ _).alloc (MV _) _
 have c7:w.heap.size<d.heap.size:=by rw[A];simp
 have c1:d.cell? ⟨w.heap.size,0,MH⟩=MI (MF ME id):=by rw[A];simp
 have c3:d.cell? ⟨T,1,MH⟩=MI (MG (MI ⟨B,0,MH⟩) 25 25):=(o.cell (p:=⟨T,1,MH⟩) b6).trans t1;have c4:d.cell? ⟨T,2,MH⟩=MI (P0 (MI M)):=(o.cell (p:=⟨T,2,MH⟩) b6).trans t2;have c5:d.cell? ⟨B,i,MH⟩=MI (MG (MI ⟨g,0,MH⟩) l.length c):=(o.cell (p:=⟨B,i,MH⟩) a0).trans c9;have c6:d.frozen? ⟨B,i,MH⟩=false:=(o.frozen (p:=⟨B,i,MH⟩) a0).trans b5;have q:=hT.below o;have e8:(Instr.lookup 283 (P0 (MI M)) (MF ME id) Nb).run MK d.drew=.ok (MF ME i) d.drew:=by
  obtain⟨D,F,hD⟩:=(q.map.Gf (w':=d.drew) rfl);obtain⟨x,hr,g3,_⟩:=F.lookup_int agW ay2 Ol (anX _) (Qg Ol hid);have K:=(hD id hid).2 i hf;rw[g3]at K;have:x=(i:Int):=by cases K;rfl
  rw[this]at hr;exact hr
 have H:=agD I o;have V:M6 (_/\_/\_/\_/\_/\_):=⟨hT,q,o,H,C,A⟩;have HX:M6 _:=hex;have N:T<d.heap.size:=by omega
 have e7:B<d.heap.size:=by omega
 have h8:g<d.heap.size:=by omega
 have d9:M<d.heap.size:=by omega
 have i4:(i:Int)<25:=by omega
 clear hT q o I H A hex hl C t0 t1 t2 c9 b5 hf;go_enter Uh,T7
 go_wp2_with fail
 rw[<-V.out.2.2.2.2.2]
 go_region
 have Q:w.heap.size≠g:=by omega
 have b4:=avL base g c l id w.heap.size d.drew.drew (V.out.2.2.2.1.drew.drew) c1 Q HX.out;have d6:∀W:MO,d.drew.drew.grownBy W (MI g)->W.cell? ⟨T,1,MH⟩=MI (MG (MI ⟨B,0,MH⟩) 25 25)/\W.cell? ⟨B,i,MH⟩=MI (MG (MI ⟨g,0,MH⟩) l.length c)/\W.cell? ⟨w.heap.size,0,MH⟩=MI (MF ME id)/\W.cell? ⟨T,2,MH⟩=MI (P0 (MI M))/\W.frozen? ⟨B,i,MH⟩=false:=fun W hg =>
  avR c3 c5 c1 c4 c6 (hg.block T N (fun e=>P (NC e).symm)) (hg.block B e7 (fun e=>g4 (NC e).symm)) (hg.block w.heap.size c7 (fun e=>Q (NC e))) (hg.block T N (fun e=>P (NC e).symm))
 have HI:M6 (_/\_):=⟨b4,d6⟩;clear b4 d6
 go_upto_region 2 with fail
 go_cut []from 11 to 27 (fun wx=>∃v,v.ownsRow base 201 2 (MG (MI ⟨g,0,MH⟩) (kp l id).length c) (kp l id).length (WP (kp l id))/\d.drew.drew.grownBy v (MI g)/\wx=v.setCell ⟨B,i,MH⟩ (MG (MI ⟨g,0,MH⟩) (kp l id).length c))
 case first =>
  go_region_with (first|(go_at_call 243;refine HI.out.1.mono ?_;rintro r v ⟨rfl,G,s⟩;obtain⟨s1,s2,s3,s4,s5⟩:=HI.out.2 _ s))
  all_goals
   go_wp2_with fail
   go_meet
   exact⟨v,G,s,rfl⟩
 case rest =>
 obtain⟨v,G,s,rfl⟩:=hcut;obtain⟨hT,q,o,H,C,_⟩:=V.out;have h9:ls[i]=l:=by rw[MR E]at C;exact NC C
 obtain⟨j,y⟩:∃j,j=v.setCell ⟨B,i,MH⟩ (MG (MI ⟨g,0,MH⟩) (kp l id).length c):=⟨_,rfl⟩;have J:∀k,k<d.heap.size->k≠g->k≠B->j.heap[k]?=d.heap[k]?:=fun k hk hkg hkB=>by
  rw[y,MU _ _ _ _ hkB];exact s.block k hk (fun e=>hkg (NC e))
 have U:j.heap[T]?=MI (MP #[MF ME now,MG (MI ⟨B,0,MH⟩) 25 25,P0 (MI M)] 285 (0,0)):=(J T N P.symm e9).trans q.box;have b9:aaj j M n f:=q.map.Gf (J M d9 g6.symm f9);have Z:WZ j base (MG (MI ⟨B,0,MH⟩) 25 25) (vs.set i (MG (MI ⟨g,0,MH⟩) (kp l id).length c)) (ls.set i (kp l id)):=by
  rw[y];exact WZ.Gd (w:=d.drew.drew) (q.own.Gf fun _ _ _=>rfl) q.len E z s G (fun k hk=>Nt hk)
 have L:∀X,(∀x∈MG (MI ⟨B,0,MH⟩) 25 25::vs,x.ownBlock≠MI X)->∀x∈MG (MI ⟨B,0,MH⟩) 25 25::vs.set i (MG (MI ⟨g,0,MH⟩) (kp l id).length c),x.ownBlock≠MI X:=fun X F x Y=>by
  rcases List.mem_cons.1 Y with rfl|Y
  ·exact F _ (NM ..)
  ·rcases OB Y with h|rfl
   ·exact F x (NB _ h)
   ·exact fun e=>F _ (NB _ (Nu z)) e
 have O:WM j.drew base T B M n now (vs.set i (MG (MI ⟨g,0,MH⟩) (kp l id).length c)) (ls.set i (kp l id)) f :=
  ⟨U,Z.Gf fun _ _ _=>rfl,b9.Gf rfl,L T hT.offT,L M hT.offM,hT.hT,hT.hM,hT.hTM,by rw[NA];exact hT.len⟩
 obtain⟨w7,f7,i5,d7,R⟩:=O.map.IX hid 0;have b7:=O.II d7 R;have b8:MQ base w w7:=by
  have i3:d.heap.size<=j.heap.size:=by rw[y];have:=s.size;simpa using this
  have h1:MQ base w d.drew.drew:=((o.mono hbase).drew).drew;have K:MQ base w j:=by rw[y];exact(h1.grown s (by show base<=d.heap.size;omega) (fun k hk=>by rw[<-NC hk];exact f8)).setCell g7 _
  exact K.drew.grown R (by show base<=j.heap.size;omega) (fun k hk=>by rw[<-NC hk];exact hT.hM)
 have g8:j.cell? ⟨w.heap.size,0,MH⟩=MI (MF ME id):=(NG (a:=⟨w.heap.size,0,MH⟩) (J w.heap.size c7 Q (by omega))).trans c1;obtain⟨q0,q1,q2,q3⟩:=YS U;have g9:=MX j ⟨w.heap.size,0,MH⟩ g8;have HZ:M6 (_/\_):=⟨b7,b8⟩;rw[<-y];clear b7 b8 O d7 R Z U b9 J G s y L c1 c3 c4 c5 c6 e8 hT q o H
 go_wp2_with fail
 go_region
 go_end0
 exact⟨rfl,_,f7,HZ.out.1,HZ.out.2⟩
theorem awc{l:List Tm}(h:(l.map (·.2)).Nodup){a b:Tm}(ha:a∈l)(hb:b∈l)(e:a.2=b.2):a=b:=by
 induction l with
 |nil=>cases ha
 |cons x l ih =>
  rw[OA,QJ]at h;rcases List.mem_cons.1 ha with i|i
  ·rcases List.mem_cons.1 hb with d|d
   ·rw[i,d]
   ·exact absurd (List.mem_map.2 ⟨b,d,by rw[<-e,i]⟩) h.1
  ·rcases List.mem_cons.1 hb with d|d
   ·exact absurd (List.mem_map.2 ⟨a,i,by rw[e,d]⟩) h.1
   ·exact ih h.2 i d
theorem anI{B:Nat}{w:MO}(h:MQ B w w')(hg:B<=g)(x y:M7):MQ B w ((w'.setCell ⟨g,0,MH⟩ x).setCell ⟨g,1,MH⟩ y):=(h.setCell (p:=⟨g,0,MH⟩) hg _).setCell (p:=⟨g,1,MH⟩) hg _
structure aeq(now id:Int)(ls ms:List (List Tm)):Prop where
 may:Y9 now ms
 mem:∀t,t∈ms.flatten↔t∈ls.flatten/\t.2≠id
theorem ajx{l:List Tm}{id:Int}:t∈kp l id↔t∈l/\t.2≠id:=by unfold kp;simp
theorem avP{now id:Int}{ls:List (List Tm)}(h:Y9 now ls){i:Nat}{l:List Tm}(hl:ls[i]?=MI l)(hex:∃t∈l,t.2=id):aeq now id ls (ls.set i (kp l id)):=by
 have v:=(List.getElem?_eq_some_iff.1 hl).1;obtain⟨a,b,B,z,_⟩:=ajs ls i l (kp l id) hl;have r:(ls.set i (kp l id)).flatten.Sublist ls.flatten:=by
  have A:ls.flatten=a.flatten++(l++b.flatten):=by
   have:=congrArg List.flatten B
   simpa using this
  rw[z,A];simp only[PV,QS];exact(S3 _).append ((List.filter_sublist).append (S3 _))
 have w:∀(k:Nat) (m:List Tm),(ls.set i (kp l id))[k]?=MI m->∃q,ls[k]?=MI q/\∀t∈m,t∈q:=fun k m d=>by
  by_cases hki:k=i
  ·subst hki
   rw[N7 v]at d;rw[<-NC d];exact⟨l,hl,fun t j=>(ajx.1 j).1⟩
  ·rw[N3 (Pi hki)]at d
   exact⟨m,d,fun t j=>j⟩
 refine⟨⟨h.1,by rw[NA];exact h.2.len,fun k m d t j=>?_,fun m o=>?_,?_⟩,fun t=>?_⟩
 ·obtain⟨q,C,F⟩:=w k m d
  exact h.2.fit k q C t (F t j)
 ·rcases OB o with o|rfl
  ·exact h.2.ord m o
  ·exact List.Pairwise.filter _ (h.2.ord l (Nu hl))
 ·exact List.Nodup.sublist (r.map _) h.2.ids
 ·constructor
  ·intro j
   refine⟨r.subset j,fun e=>?_⟩;obtain⟨m,o,n⟩:=List.mem_flatten.1 j;obtain⟨k,d,rfl⟩:=NV o;obtain⟨s,u,D⟩:=hex;have y:t=s:=awc h.2.ids (r.subset j) (List.mem_flatten.2 ⟨l,Nu hl,u⟩) (by rw[e,D])
   by_cases hki:k=i
   ·subst hki
    rw[NW]at n;exact(ajx.1 n).2 e
   ·rw[Pe (Pi hki)]at n
    rw[NA]at d;have E:=(h.2.fit k _ (MR d) t n).2;have G:=(h.2.fit i l hl s u).2;rw[y]at E;omega
  ·rintro⟨j,hne⟩
   obtain⟨m,o,n⟩:=List.mem_flatten.1 j;obtain⟨k,d,rfl⟩:=NV o
   by_cases hki:k=i
   ·subst hki
    rw[MR d]at hl;rw[NC hl]at n;exact List.mem_flatten.2 ⟨kp l id,Nu (N7 v),ajx.2 ⟨n,hne⟩⟩
   ·refine List.mem_flatten.2 ⟨ls[k],Nu (i:=k) ?_,n⟩
    rw[N3 (Pi hki)];exact MR d
theorem avJ(v:M7)(now id:Int)(ls:List (List Tm))(w:MO)(hB:Xo w)(hx:Zo w v ls)(hm:Y9 now ls)(hid:(N6 ME id).wf=Nw) :
  Ni MK 176 #[Ny #[MF ME now,v],MF ME id] w fun r w'=>MQ w.heap.size w w' /\
   (((∀t∈ls.flatten,t.2≠id)/\r=MN (Nv #[Ny #[MF ME 0,MG MH 0 0],MF ME 8])) \/
     ((∃t∈ls.flatten,t.2=id)/\∃p c ms,r=MN (Nv #[Ny #[MF ME now,MG p 25 c],MF ME 0])/\adP w' w.heap.size p c ms/\aeq now id ls ms)):=by
 obtain⟨a,R,rfl,_⟩:=hx.F6;have Z:∀l∈ls,l.length<=1048576:=fun l s=>Nm (adc s) hm.2.Ia
 have b6:∀W,MQ w.heap.size w W->Xo W/\Zo W (MG a ls.length R) ls:=fun W h=>⟨hB.below h,hx.below h⟩
 have q:M6 (_/\_/\_):=⟨b6,Z,hm⟩;clear b6 Z hm hx hB;go_enter Tryz.func176,Tryz.ntmps176
 go_wp2_with fail
 have u:MQ w.heap.size w ((w.alloc (MP #[MF ME now,MG a ls.length R] 53)).alloc (MP #[MF ME 0,MG MH 0 0] 53)):=((MY _ _).alloc (MV _) _).alloc (by simp) _;refine(ajJ _ now ls _ (q.out.1 _ u).1 (q.out.1 _ u).2 q.out.2.1).mono ?_;rintro r o ⟨I,⟨_,T,B,M,n,vs,f,rfl,Y,hF,d7⟩|⟨h1,_⟩⟩
 ·have F:o.heap[w.heap.size+1]?=MI (MP #[MF ME 0,MG MH 0 0] 53 (0,0)):=(I.block _ (by simp)).trans (Yu _ _ _)
  have G:=u.trans (I.mono u.size);rw[show((w.alloc (MP #[MF ME now,MG a ls.length R] 53)).alloc (MP #[MF ME 0,MG MH 0 0] 53)).heap.size+2=w.heap.size+4 by simp]at Y;obtain⟨y,A⟩:∃y,y=(o.alloc (MP #[MF ME now,MG (MI ⟨B,0,MH⟩) 25 25,P0 (MI M)] 285)):=⟨_,rfl⟩;have N:MQ o.heap.size o y:=by rw[A];exact(MY _ _).alloc (MV _) _
  have D:WM y (w.heap.size+4) o.heap.size B M n now vs ls f:=by rw[A];exact Y.Iu
  have O:=(N.block _ (Array.getElem?_eq_some_iff.1 F).1).trans F;have a0:=G.trans (N.mono G.size);obtain⟨q0,q1,Q,q3⟩:=YS D.box;have c8:w.heap.size+4<=y.heap.size:=by have:=D.hT;omega
  have d8:=(Array.getElem?_eq_some_iff.1 F).1;obtain⟨c0,c1,f0,f1,c9⟩:=Xa O;have j:M6 (_/\_/\_/\_/\_):=⟨D,hF,O,a0,A⟩;clear F I u Y hF d7 N D O a0 G A
  go_wp2_with fail
  rw[<-j.out.2.2.2.2];refine(aju o.heap.size M n f id _ Q j.out.1.map hid).mono ?_;cases hhas:(f id).isSome
  ·rintro r w4 ⟨rfl,rfl⟩
   have HN:M6 _:=(j.out.2.1.GP id).1 hhas;clear q0 q1 Q;go_wp2;obtain⟨P,V⟩:=adR (c:=MF ME 0) (d:=MG MH 0 0) j.out.2.2.1;refine Np (v:=Nv #[Ny #[MF ME 0,MG MH 0 0],MF ME 8]) (by simp[Pf,Tryz.results176,go_sem,P,V]) rfl ⟨?_,Nt ⟨HN.out,rfl⟩⟩;exact anI j.out.2.2.2.1 (by omega) _ _
  ·rintro r w4 ⟨rfl,rfl⟩
   have b8:∃t∈ls.flatten,t.2=id:=by
    apply PM;intro d6;rw[(j.out.2.1.GP id).2 (fun t z e=>d6 ⟨t,z,e⟩)]at hhas;cases hhas
   obtain⟨t,z,E⟩:=b8;obtain⟨l,c7,C⟩:=List.mem_flatten.1 z;obtain⟨i,b4,rfl⟩:=NV c7;have b7:i<25:=by rw[<-q.out.2.2.2.len];exact b4
   have s:=MR b4;have H:=j.out.2.1.here i _ s t C;rw[E]at H;have HG:M6 _:=avP q.out.2.2 s ⟨t,C,E⟩;have b5:=awk (w.heap.size+4) o.heap.size B M n now vs ls f id i w4 j.out.1 c8 b7 hid H _ s ⟨t,C,E⟩;have HP:M6 (_/\_):=⟨b5,z⟩;clear b5;have HE:M6 (∃t∈ls.flatten,t.2=id):=⟨t,z,E⟩;clear C H s
   go_wp2_with fail
   refine HP.out.1.mono ?_;rintro r w5 ⟨rfl,b9,f',K,L⟩;have J:=(L.block (w.heap.size+1) (by omega)).trans j.out.2.2.1;obtain⟨g4,e8,f8,e9,d9⟩:=Xa J;obtain⟨g6,e7,g3,f9⟩:=YS K.box;have U:M6 (_/\_/\_):=⟨J,K,j.out.2.2.2.1.trans (L.mono (by omega))⟩;clear J K L c0 c1 f0 f1 c9 q0 q1 Q;go_wp2;obtain⟨P,V⟩:=adR (c:=MF ME now) (d:=MG (MI ⟨B,0,MH⟩) 25 25) U.out.1;refine Np (v:=Nv #[Ny #[MF ME now,MG (MI ⟨B,0,MH⟩) 25 25],MF ME 0]) (by simp[Pf,Tryz.results176,go_sem,P,V]) rfl ⟨?_,NF ⟨HE.out,MI ⟨B,0,MH⟩,25,_,rfl,⟨b9,(U.out.2.1.own.Hh (g:=w.heap.size+1) (by omega) _ _).GV (by omega)⟩,HG.out⟩⟩;exact anI U.out.2.2 (by omega) _ _
 ·exact absurd q.out.2.2 h1
end Go.Proofs.YtgnclkcdnbfeeaaGreatDoor.Q
