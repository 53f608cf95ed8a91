/-
  Contracts of the layers and of core, part 6. Conditions: as each theorem says.
-/
import Derived.BigQuiet
import Derived.Shelf.Spec.SlicesInsert
import Derived.Maps.OwnSet
import Derived.Shelf.SlSortCmp.QuietGrown
import Derived.Deep.CutRange
import Derived.Deep.Upon
import Derived.Test.YtidlemcdnhbceaaGreatDoorQ0
open Array renaming length_toList->Om
open Bool renaming false->Nb,true->Nw
open Classical renaming byContradiction->PM
open Decidable renaming decide->Nn
open Go renaming Addr->Oc,Calls->Ni,TypeId->NU,Value->M7,World->MO,bodyPost_ret->Np,cell_grown->Ob,cell_of_row->MW,heap_alloc_new->M1,heap_setCell_same->NI,info_parts->OF,maxLen->NE,results->Pf,wpList_append_lies->O9,wpQuiet_nil->Oy,wp_region_quiet_grown->NQ
open Go.Addr.mk renaming injEq->Q1
open Go.Calls renaming grown_of->NZ,quiet_of->Qe
open Go.Ending renaming returned->MN
open Go.Extern.SlicesOverlaps renaming overlaps->P9
open Go.Fn renaming func->PD
open Go.Instr renaming index->Qy
open Go.IntKind renaming i64->ME,wrap_i64->Ow
open Go.Lit renaming int->N6
open Go.Maps renaming keyOf_int_mk->Qg
open Go.Obj renaming cells->MP
open Go.Proofs.Tryz renaming func114->S7,func128->ayl,func155->ayv,func156->SN,func159->RT,func174->Wr,func175->Wq,func196->Wz,func198->TZ,func199->Ui,func200->SU,func217->RZ,func218->azv,func238->axU,func240->VR,func41->QN,ntmps114->SF,ntmps128->ayd,ntmps155->ayr,ntmps156->Ss,ntmps159->RJ,ntmps174->Wf,ntmps175->We,ntmps196->Wl,ntmps198->TT,ntmps199->T8,ntmps200->Sx,ntmps217->RM,ntmps218->azp,ntmps238->axT,ntmps41->QD,prog->MK,results114->Vy,results128->azD,results155->Rc,results27->Wb,underlying163->Ls,underlying242->ay0,underlying3->Ol,underlying34->O5
open Go.RowKit renaming Below->MQ,Hid->M6,intOf->On
open Go.RowKit.Below renaming heap_alloc->Ov,heap_setCell->MU,refl->MY
open Go.Sort renaming alloc_eq_grow->PQ,grow->Oj
open Go.Value renaming agg->Ny,bool->M3,func->PB,int->MF,map->P0,pointer->Na,slice->MG,tuple->Nv
open Go.Value.slice renaming injEq->N4
open Go.World renaming block_lt_of_cell?->MX,cell?->Nl,cell?_of_block->NG,frozen?->Ng,frozen?_of_block->OM,grownBy_alloc->OL,ownsRow_nil->NY,shape?->QO
open Int renaming tdiv_eq_ediv_of_nonneg->OT,tmod_eq_emod_of_nonneg->Oi
open List renaming append_assoc->OC,append_nil->OG,drop_append->Qa,drop_eq_nil_of_le->PI,ext_getElem?->Ot,flatten_append->PV,flatten_cons->QS,getD->Pq,getElem?_append->Q9,getElem?_cons_succ->N9,getElem?_drop->Pa,getElem?_eq_getElem->MR,getElem?_eq_none->Nz,getElem?_replicate->Pj,getElem?_set_ne->N3,getElem?_set_self->N7,getElem?_take_of_lt->O0,getElem_cons_drop->Pp,getElem_mem->Nk,getElem_of_mem->NV,getElem_set_ne->Pe,getElem_set_self->NW,length_append->Ns,length_cons->Ox,length_drop->NJ,length_map->N0,length_pos_of_mem->Qj,length_set->NA,length_take->NH,map_append->OI,map_congr_left->PU,map_cons->OA,mem_append_right->Qq,mem_cons->OO,mem_cons_of_mem->NB,mem_cons_self->NM,mem_of_getElem?->Nu,mem_or_eq_of_mem_set->OB,nil_append->Oz,nodup_append->Qv,nodup_cons->QJ,perm_middle->QC,range->Pm,replicate->Nj,takeWhile_cons_of_neg->Ru,takeWhile_cons_of_pos->Rv,take_append_drop->Oo,take_append_of_le_length->ZqA,take_left->Qb,take_length->NT,take_of_length_le->N1,take_succ_eq_append_getElem->M9
open List.Sublist renaming append_right->Rz,refl->S3
open Nat renaming le_of_lt->PJ,le_refl->MV,le_trans->Nm,lt_irrefl->PC,lt_of_le_of_lt->Pb,lt_of_lt_of_le->M8,lt_or_ge->Oq,lt_or_gt_of_ne->QM,min_def->PR,not_lt_zero->QH,zero_le->Nx
open Ne renaming symm->Pi
open Option renaming none->MH,some->MI
open Option.some renaming inj->NC,injEq->Qs
open Or renaming inl->Nt,inr->NF
open Prod renaming ext->Q8
namespace Go.Proofs.YtidlemcdnhbceaaGreatDoor.Q
set_option linter.unusedVariables false
set_option linter.unusedSimpArgs false
set_option maxHeartbeats 16000000
set_option maxRecDepth 100000
open Go.RowKit
attribute [local go_sem ↓] Go.wp_at_zero Go.wp_at_succ
variable {m:Int}{a c v1 v2 v3 v4:M7}{w':MO}{b g p:Nat}{a1 a2 a3 a4:Oc}{t x:Tm}
def agR{α β:Type}(R:α->β->Prop)(l:List α)(m:List β):Prop:=l.length=m.length/\∀i (h1:i<l.length) (h2:i<m.length),R l[i] m[i]
def Zo(w:MO)(v:M7)(ls:List (List Tm)):Prop:=∃vs,XB w v ls.length vs/\agR (Xz w) vs ls
theorem agR.GV{α β:Type}{R S:α->β->Prop}(hRS:∀a b,R a b->S a b){l:List α}{m:List β}(h:agR R l m):agR S l m:=⟨h.1,fun i h1 h2=>hRS _ _ (h.2 i h1 h2)⟩
theorem Zo.below{w:MO}{v:M7}{ls:List (List Tm)}(h:Zo w v ls)(hb:MQ w.heap.size w w'):Zo w' v ls:=by
 obtain⟨i,e,d⟩:=h;exact⟨i,e.below hb,d.GV (fun _ _ h=>h.below hb)⟩
theorem Zo.F6{w:MO}{v:M7}{ls:List (List Tm)}(h:Zo w v ls) :
  ∃a cap,v=MG a ls.length cap/\ls.length<=cap/\cap<=NE/\∀i (hi:i<ls.length),∃b off u,a=MI ⟨b,off,MH⟩/\b<w.heap.size/\w.cell? ⟨b,off+i,MH⟩=MI u/\Xz w u ls[i]:=by
 obtain⟨l,⟨a,cap,n,j,e,o⟩,d⟩:=h;have r:=d.1;refine⟨a,cap,n,j,e,fun i hi=>?_⟩;obtain⟨q,_⟩|⟨b,off,ha,hb,hcell⟩:=o
 ·omega
 ·exact⟨b,off,l[i]'(by omega),ha,hb,by rw[hcell i (by omega)];exact MR _,d.2 i (by omega) hi⟩
theorem ajp{B:Nat}{a w:MO}(h:MQ B a w)(n:Nat):MQ B a (w.drewN n):=h.trans ⟨rfl,rfl,rfl,MV _,fun _ _=>rfl⟩
def Xq(at' now:Int):Int :=
 if at' / 8=now / 8 then at' % 8 else if at' / 64=now / 64 then 8+at' / 8 % 8 else if at' / 512=now / 512 then 16+at' / 64 % 8 else 24
theorem agV(n:Int)(w:MO):Ni MK 41 #[MF ME n] w fun r w'=>r=MN (M3 (Nn (0<=n/\n<=1099511627776)))/\w'=w:=by
 obtain⟨e,d⟩:∃e,e=Nn (0<=n/\n<=1099511627776):=⟨_,rfl⟩;rw[<-d];have H:M6 _:=d;clear d;cases h1:Nn (0<=n)
 ·go_enter QN,QD
  go_wp2;go_ret;exact⟨by rw[H.out,M0 (fun h=>Nc h1 h.1)];rfl,rfl⟩
 ·cases h2:Nn (n<=1099511627776)
  ·go_enter QN,QD
   go_wp2;go_ret;exact⟨by rw[H.out,M0 (fun h=>Nc h2 h.2)];rfl,rfl⟩
  ·go_enter QN,QD
   go_wp2;go_ret;exact⟨by rw[H.out,Nq ⟨M2 h1,M2 h2⟩];rfl,rfl⟩
theorem ajv:(Tryz.prog.info? 166).map (fun i=>(i.zero,i.size,i.bytes))=MI (MI (Ny #[MF ME 0,MF ME 0]),2,16):=by kernel_rfl
theorem avX:(Tryz.prog.info? 163).map (fun i=>(i.zero,i.size,i.bytes))=MI (MI (MG MH 0 0),1,24):=by kernel_rfl
def avy(a b:M7):Prop:=∀g,a.ownBlock=MI g->b.ownBlock≠MI g
structure WZ(w:MO)(base:Nat)(v:M7)(vs:List M7)(ls:List (List Tm)):Prop where
 row:w.ownsRow base 163 1 v ls.length vs
 each:agR (fun u l=>w.ownsRow base 166 2 u l.length (WP l)) vs ls
 apart:(v::vs).Pairwise avy
theorem WZ.Gf{w:MO}{base:Nat}{v:M7}{vs:List M7}{ls:List (List Tm)}(h:WZ w base v vs ls)(hk:∀g,base<=g->g<w.heap.size->w'.heap[g]?=w.heap[g]?):WZ w' base v vs ls :=
 ⟨W8 h.row fun g hg=>hk g (h.row.lt g hg).1 (h.row.lt g hg).2,h.each.GV fun u l hu=>W8 hu fun g hg=>hk g (hu.lt g hg).1 (hu.lt g hg).2,h.apart⟩
theorem WZ.below{w:MO}{base:Nat}{v:M7}{vs:List M7}{ls:List (List Tm)}(h:WZ w base v vs ls)(hb:MQ w.heap.size w w'):WZ w' base v vs ls :=
 h.Gf fun g _ hg=>hb.block g hg
theorem WZ.GV{w:MO}{base:Nat}{v:M7}{vs:List M7}{ls:List (List Tm)}(h:WZ w base v vs ls)(hb:b<=base):WZ w b v vs ls :=
 ⟨h.row.mono hb,h.each.GV fun u l hu=>hu.mono hb,h.apart⟩
def YA(x:List Tm)(t:Tm)(j:Nat):List Tm:=x.take j++t::x.drop j
theorem avY(x:List Tm)(t:Tm)(j:Nat):(YA x t j).length=x.length+1:=by
 simp only[YA,Ns,Ox,NH,NJ];omega
theorem ajw(x:List Tm)(t:Tm):YA x t x.length=x++[t]:=by simp[YA]
def aaW:List (List Tm):=Nj 25 []
theorem avF(w:MO):WZ (w.alloc (MP (Nj 25 (MG MH 0 0)).toArray 163)) w.heap.size (MG (MI ⟨w.heap.size,0,MH⟩) 25 25) (Nj 25 (MG MH 0 0)) aaW:=by
 refine⟨?_,⟨by simp[aaW],fun i h1 h2=>?_⟩,?_⟩
 ·have:=World.ownsRow_lit (base:=w.heap.size) (e:=163) (size:=1) w (Nj 25 (MG MH 0 0)).toArray 25 (MV _) (by unfold NE;omega) (by simp)
  simpa [aaW]using this
 ·simp only[aaW,List.getElem_replicate]
  exact NY _ _ _ _
 ·refine List.pairwise_cons.2 ⟨fun x hx k hk e=>?_,List.pairwise_replicate.2 (NF fun k hk=>?_)⟩
  ·rw[(List.mem_replicate.1 hx).2]at e;cases e
  ·cases hk
theorem av4(W:MO):(Instr.makeSlice 57 (MF ME 25) (MF ME 25)).run MK W=.ok (MG (MI ⟨W.heap.size,0,MH⟩) 25 25) (W.alloc (MP (Nj 25 (MG MH 0 0)).toArray 163)):=by
 obtain⟨l,n,i,d,j⟩:=OF avX;have h:=run_makeSlice (P:=MK) W 57 163 l _ Tryz.underlying57 n i ME ME 25 25 (by decide) (by decide) (by rw[d];decide) (by rw[j];decide) (by decide);have e:madeCells (MG MH 0 0).cells (Int.toNat 25*1)=(Nj 25 (MG MH 0 0)).toArray:=Array.toList_inj.1 (toList_madeCells_one (MG MH 0 0) 25);rw[h,d,e];rfl
theorem adR{w:MO}{b d:M7}{T:NU}(h:w.heap[g]?=MI (MP #[a,b] T (0,0))):((w.setCell ⟨g,0,MH⟩ c).setCell ⟨g,1,MH⟩ d).cell? ⟨g,0,MH⟩=MI c/\((w.setCell ⟨g,0,MH⟩ c).setCell ⟨g,1,MH⟩ d).cell? ⟨g,1,MH⟩=MI d :=
 ⟨(Xa (acb h)).1,(Xa (acb h)).2.1⟩
theorem WZ.Hh{w:MO}{base:Nat}{v:M7}{vs:List M7}{ls:List (List Tm)}(h:WZ w base v vs ls)(hg:g<base)(c d:M7):WZ ((w.setCell ⟨g,0,MH⟩ c).setCell ⟨g,1,MH⟩ d) base v vs ls :=
 h.Gf fun i h1 _=>by rw[MU _ _ _ _ (by simp;omega),MU _ _ _ _ (by simp;omega)]
theorem anL(now:Int)(w:MO):Ni MK 42 #[MF ME now] w fun r w'=>r=MN (Ny #[MF ME now,MG (MI ⟨w.heap.size+1,0,MH⟩) 25 25])/\WZ w' (w.heap.size+1) (MG (MI ⟨w.heap.size+1,0,MH⟩) 25 25) (Nj 25 (MG MH 0 0)) aaW/\w'.heap.size=w.heap.size+2/\MQ w.heap.size w w':=by
 have d:=av4;generalize hc:(Nj 25 (MG MH 0 0)).toArray=cs at d;have e:M6 _:=hc;clear hc;go_enter Tryz.func42,Tryz.ntmps42;go_wp2;refine Np (v:=Ny #[MF ME now,MG (MI ⟨w.heap.size+1,0,MH⟩) 25 25]) (by simp[Pf,Tryz.results42,go_sem]) rfl ⟨rfl,?_,by simp,?_⟩
 ·have h:=avF (w.alloc (MP #[MF ME now,MG (MI ⟨w.heap.size+1,0,MH⟩) 25 25] 59))
  rw[e.out]at h
  simpa using h
 ·exact((MY _ _).alloc (MV _) _).alloc (by simp) _
theorem awa(now:Int)(w:MO)(h:0<=now/\now<=1099511627776):Ni MK 27 #[MF ME now] w fun r w'=>∃v vs,r=MN (Nv #[Ny #[MF ME now,v],MF ME 0])/\WZ w' w.heap.size v vs aaW/\MQ w.heap.size w w':=by
 have o:Nn (0<=now/\now<=1099511627776)=true:=Nq h;clear h;go_enter Tryz.func27,Tryz.ntmps27
 go_wp2_with fail
 refine(agV _ _).mono ?_;rw[o];rintro r l ⟨rfl,rfl⟩
 go_wp2_with fail
 refine(anL _ _).mono ?_;rintro r l ⟨rfl,e,u,j⟩;have n:(w.alloc (MP #[MF ME 0,MG MH 0 0] 59)).heap.size=w.heap.size+1:=by simp
 rw[n]at e;have i:l.heap[w.heap.size]?=MI (MP #[MF ME 0,MG MH 0 0] 59 (0,0)):=(j.block _ (by simp)).trans (M1 _ _);obtain⟨c0,c1,z,A,y⟩:=Xa i;have H:M6 (_/\_/\_):=⟨i,e,j⟩;clear i e j;go_wp2;obtain⟨s,q⟩:=adR (c:=MF ME now) (d:=MG (MI ⟨w.heap.size+1+1,0,MH⟩) 25 25) H.out.1;refine Np (v:=Nv #[Ny #[MF ME now,MG (MI ⟨w.heap.size+1+1,0,MH⟩) 25 25],MF ME 0]) (by simp[Pf,Wb,go_sem,s,q]) rfl ⟨_,Nj 25 (MG MH 0 0),rfl,?_,?_⟩
 ·have h:=H.out.2.1.Hh (g:=w.heap.size) (by omega) (MF ME now) (MG (MI ⟨w.heap.size+1+1,0,MH⟩) 25 25)
  exact h.GV (by omega)
 ·exact((((MY _ _).alloc (MV _) _).trans (H.out.2.2.mono (by simp))).setCell (by simp) _).setCell (by simp) _
structure Xo(w:MO):Prop where
 c0:w.cell? ⟨0,0,MH⟩=MI (MF ME 8)
 c1:w.cell? ⟨0,1,MH⟩=MI (MF ME 64)
 c2:w.cell? ⟨0,2,MH⟩=MI (MF ME 512)
theorem Xo.lt{w:MO}(h:Xo w):0<w.heap.size:=MX w ⟨0,0,MH⟩ h.c0
theorem Xo.Gf{w:MO}(h:Xo w)(h0:w'.heap[0]?=w.heap[0]?):Xo w' :=
 ⟨(NG (a:=⟨0,0,MH⟩) h0).trans h.c0,(NG (a:=⟨0,1,MH⟩) h0).trans h.c1,(NG (a:=⟨0,2,MH⟩) h0).trans h.c2⟩
theorem Xo.below{w:MO}(h:Xo w)(hb:MQ w.heap.size w w'):Xo w':=h.Gf (hb.block 0 h.lt)
theorem Xo.IQ{w:MO}(h:Xo w)(q:Nat):Xo (w.drewN q):=⟨h.c0,h.c1,h.c2⟩
theorem anP(W:MO):(Qy 22 (Ny #[MF ME 8,MF ME 64,MF ME 512]) (MF ME 0)).run MK W=.ok (MF ME 8) W:=by kernel_rfl
theorem anQ(W:MO):(Qy 22 (Ny #[MF ME 8,MF ME 64,MF ME 512]) (MF ME 1)).run MK W=.ok (MF ME 64) W:=by kernel_rfl
theorem anR(W:MO):(Qy 22 (Ny #[MF ME 8,MF ME 64,MF ME 512]) (MF ME 2)).run MK W=.ok (MF ME 512) W:=by kernel_rfl
theorem ajD(x n:Int)(w:MO)(hB:Xo w)(hx:0<=x)(hx2:x<=4398046511104)(hn:0<=n)(hn2:n<=4398046511104) :
  Ni MK 200 #[MF ME x,MF ME n] w fun r w'=>r=MN (MF ME (Xq x n))/\∃q,w'=w.drewN q:=by
 have a1:x.tdiv 8=x / 8:=OT hx;have a2:x.tdiv 64=x / 64:=OT hx;have a3:x.tdiv 512=x / 512:=OT hx;have a4:n.tdiv 8=n / 8:=OT hn;have z:n.tdiv 64=n / 64:=OT hn;have F:n.tdiv 512=n / 512:=OT hn;have D:x.tmod 8=x % 8:=Oi hx;have A:(x / 8).tmod 8=x / 8 % 8:=Oi (by omega);have B:(x / 64).tmod 8=x / 64 % 8:=Oi (by omega);obtain⟨p,o⟩:∃p,p=Xq x n:=⟨_,rfl⟩;rw[<-o];unfold Xq at o;have s:M6 _:=o;clear o;obtain⟨c0,c1,c2⟩:=hB;have C:=anP;have v:=anQ;have E:=anR;go_enter SU,Sx;go_wp2
 go_loopw [8] (fun i wr=>∃(k:Nat) (q:Nat),i=MF ME k/\k<=3/\wr=w.drewN q/\(1<=k->¬x / 8=n / 8)/\(2<=k->¬x / 64=n / 64)/\(3<=k->¬x / 512=n / 512)) (fun i _=>3-(On i).toNat)
 case atStart=>exact⟨0,0,rfl,by omega,rfl,by omega,by omega,by omega⟩
 case round =>
  obtain⟨k,q,rfl,y,rfl,e,j,l⟩:=hrel;have u:k=0\/k=1\/k=2\/k=3:=by omega
  rcases u with rfl|rfl|rfl|rfl
  ·by_cases h1:x / 8=n / 8
   ·have d:M6 (p=x % 8):=by show p=_;rw[s.out,Nh h1]
    go_wp2
    go_region
    go_wp2;go_ret;exact⟨by rw[d.out];rfl,q+1,rfl⟩
   ·have d:M6 (¬x / 8=n / 8):=h1
    clear e j l;go_wp2
    go_region
    go_wp2
    go_roundw
    case rel=>exact⟨1,q+1,rfl,by omega,rfl,fun _=>d.out,by omega,by omega⟩
    case measure=>simp[On]
  ·by_cases h1:x / 64=n / 64
   ·have d:M6 (p=8+x / 8 % 8):=by show p=_;rw[s.out,Nf (e (by omega)),Nh h1]
    clear e j l;go_wp2
    go_region
    go_wp2;go_ret;exact⟨by rw[d.out];rfl,q+1,rfl⟩
   ·have d:M6 (_/\¬x / 64=n / 64):=⟨e (by omega),h1⟩
    clear e j l;go_wp2
    go_region
    go_wp2
    go_roundw
    case rel=>exact⟨2,q+1,rfl,by omega,rfl,fun _=>d.out.1,fun _=>d.out.2,by omega⟩
    case measure=>simp[On]
  ·by_cases h1:x / 512=n / 512
   ·have d:M6 (p=16+x / 64 % 8):=by show p=_;rw[s.out,Nf (e (by omega)),Nf (j (by omega)),Nh h1]
    clear e j l;go_wp2
    go_region
    go_wp2;go_ret;exact⟨by rw[d.out];rfl,q+1,rfl⟩
   ·have d:M6 (_/\_/\¬x / 512=n / 512):=⟨e (by omega),j (by omega),h1⟩
    clear e j l;go_wp2
    go_region
    go_wp2
    go_roundw
    case rel=>exact⟨3,q+1,rfl,by omega,rfl,fun _=>d.out.1,fun _=>d.out.2.1,fun _=>d.out.2.2⟩
    case measure=>simp[On]
  ·have d:M6 (p=24):=by show p=_;rw[s.out,Nf (e (by omega)),Nf (j (by omega)),Nf (l (by omega))]
   clear e j l;go_wp2;go_ret;exact⟨by rw[d.out];rfl,q,rfl⟩
theorem awq(n:Int)(w:MO)(hB:Xo w)(hn:0<=n)(hn2:n<=4398046511104) :
  Ni MK 199 #[MF ME 0,MF ME n] w fun r w'=>r=MN (MF ME (8+n / 8 % 8))/\w'=w:=by
 have a4:n.tdiv 8=n / 8:=OT hn;have d:(n / 8).tmod 8=n / 8 % 8:=Oi (by omega);obtain⟨c0,c1,c2⟩:=hB;go_enter Ui,T8;go_wp2;go_ret;exact⟨rfl,rfl⟩
theorem awr(n:Int)(w:MO)(hB:Xo w)(hn:0<=n)(hn2:n<=4398046511104) :
  Ni MK 199 #[MF ME 1,MF ME n] w fun r w'=>r=MN (MF ME (16+n / 64 % 8))/\w'=w:=by
 have a4:n.tdiv 64=n / 64:=OT hn;have d:(n / 64).tmod 8=n / 64 % 8:=Oi (by omega);obtain⟨c0,c1,c2⟩:=hB;go_enter Ui,T8;go_wp2;go_ret;exact⟨rfl,rfl⟩
theorem aws(n:Int)(w:MO) :
  Ni MK 199 #[MF ME 2,MF ME n] w fun r w'=>r=MN (MF ME 24)/\w'=w:=by
 go_enter Ui,T8;go_wp2;go_ret;exact⟨rfl,rfl⟩
def Zg(now:Int)(t:Tm):Bool:=Nn (now<t.1) && Nn (t.1<=now+500) && Nn (t.1<=1099511627776) && Nn (0<=t.2) && Nn (t.2<=199)
theorem ada(now:Int)(t:Tm):Zg now t=Nw↔now<t.1/\t.1<=now+500/\t.1<=1099511627776/\0<=t.2/\t.2<=199:=by
 simp[Zg,and_assoc]
theorem anM(x y n:Int)(w:MO)(hn:0<=n)(hn2:n<=1099511627776) :
  Ni MK 174 #[Ny #[MF ME x,MF ME y],MF ME n] w fun r w'=>r=MN (M3 (Zg n (x,y)))/\w'=w.alloc (MP #[MF ME x,MF ME y] 166):=by
 obtain⟨d,e⟩:∃d,d=Zg n (x,y):=⟨_,rfl⟩;rw[<-e];have H:M6 _:=e;clear e;cases h1:Nn (n<x)
 ·have i:M6 (d=Nb):=by show d=Nb;rw[H.out];simp only[Zg,h1,Bool.false_and]
  go_enter Wr,Wf;go_wp2;go_ret;exact⟨by rw[i.out];rfl,rfl⟩
 ·go_enter Wr,Wf
  go_wp2
  all_goals
   go_ret;refine⟨congrArg (fun b=>MN (M3 b)) (Bool.eq_iff_iff.2 ?_),rfl⟩;rw[H.out,ada];have:=M2 h1;simp only[decide_eq_true_eq,Bool.false_eq_true,false_iff];omega
theorem aey{w:MO}{b:M7}{T:NU}(h:w.heap[g]?=MI (MP #[a,b,c] T (0,0))):w.cell? ⟨g,0,MH⟩=MI a/\w.cell? ⟨g,1,MH⟩=MI b/\w.cell? ⟨g,2,MH⟩=MI c/\g<w.heap.size:=by
 refine⟨by simp[Nl,h],by simp[Nl,h],by simp[Nl,h],?_⟩;exact(Array.getElem?_eq_some_iff.1 h).1
def Zy(n:Int)(m:Int):Bool:=Nn (n % m=0)
theorem avH(n:Int)(w:MO)(hB:Xo w)(hn:0<=n)(hn2:n<=4398046511104) :
  Ni MK 197 #[MF ME n] w fun r w'=>r=MN (Ny #[M3 (Zy n 8),M3 (Zy n 64),M3 (Zy n 512)])/\MQ w.heap.size w w':=by
 have a1:n.tmod 8=n % 8:=Oi hn;have a2:n.tmod 64=n % 64:=Oi hn;have a3:n.tmod 512=n % 512:=Oi hn;obtain⟨y,C⟩:∃b,b=Zy n 8:=⟨_,rfl⟩;obtain⟨z,A⟩:∃b,b=Zy n 64:=⟨_,rfl⟩;obtain⟨o,B⟩:∃b,b=Zy n 512:=⟨_,rfl⟩;rw[<-C,<-A,<-B];unfold Zy at C A B;have P:(n % 8 == 0)=y:=by rw[C];by_cases h:n % 8=0 <;> simp[h]
 have U:(n % 64 == 0)=z:=by rw[A];by_cases h:n % 64=0 <;> simp[h]
 have Q:(n % 512 == 0)=o:=by rw[B];by_cases h:n % 512=0 <;> simp[h]
 clear C A B;obtain⟨c0,c1,c2⟩:=hB;have T:=anP;have i1:=anQ;have Y:=anR;have K:0<w.heap.size:=MX w ⟨0,0,MH⟩ c0;go_enter Tryz.func197,Tryz.ntmps197;go_wp2
 go_loopw [7] (fun i wr=>∃k:Nat,i=MF ME k/\k<=3/\MQ w.heap.size w wr/\wr.heap[w.heap.size]?=MI (MP #[M3 Nb,M3 Nb,M3 Nb] 284 (0,0))/\wr.heap[w.heap.size+1]?=MI (MP #[M3 (Nn (1<=k) && y),M3 (Nn (2<=k) && z),M3 (Nn (3<=k) && o)] 284 (0,0))) (fun i _=>3-(On i).toNat)
 case atStart =>
  exact⟨0,rfl,by omega,((MY _ _).alloc (MV _) _).alloc (by simp) _,Xy _ _ (M1 _ _),Yu _ _ _⟩
 case round =>
  obtain⟨k,rfl,hk,l,j,d⟩:=hrel;have F:k=0\/k=1\/k=2\/k=3:=by omega
  rcases F with rfl|rfl|rfl|rfl
  ·obtain⟨q,s,u,E⟩:=aey d
   have D:wr.frozen? ⟨w.heap.size+1,0,MH⟩=false:=by simp[Ng,d]
   have e:M6 (_/\_/\_):=⟨l,j,d⟩;clear l j d;go_wp2;refine⟨⟨1,rfl,by omega,e.out.1.setCell (by simp) _,(MU _ _ _ _ (by simp)).trans e.out.2.1,(NI _ _ 0 _ _ _ e.out.2.2).trans ?_⟩,by simp[On]⟩;simp
  ·obtain⟨q,s,u,E⟩:=aey d
   have D:wr.frozen? ⟨w.heap.size+1,1,MH⟩=false:=by simp[Ng,d]
   have e:M6 (_/\_/\_):=⟨l,j,d⟩;clear l j d;go_wp2;refine⟨⟨2,rfl,by omega,e.out.1.setCell (by simp) _,(MU _ _ _ _ (by simp)).trans e.out.2.1,(NI _ _ 1 _ _ _ e.out.2.2).trans ?_⟩,by simp[On]⟩;simp
  ·obtain⟨q,s,u,E⟩:=aey d
   have D:wr.frozen? ⟨w.heap.size+1,2,MH⟩=false:=by simp[Ng,d]
   have e:M6 (_/\_/\_):=⟨l,j,d⟩;clear l j d;go_wp2;refine⟨⟨3,rfl,by omega,e.out.1.setCell (by simp) _,(MU _ _ _ _ (by simp)).trans e.out.2.1,(NI _ _ 2 _ _ _ e.out.2.2).trans ?_⟩,by simp[On]⟩;simp
  ·obtain⟨q,s,u,E⟩:=aey d
   obtain⟨Z,V,R,O⟩:=aey j;have D:wr.frozen? ⟨w.heap.size,0,MH⟩=false:=by simp[Ng,j]
   have f1:wr.frozen? ⟨w.heap.size,1,MH⟩=false:=by simp[Ng,j]
   have f2:wr.frozen? ⟨w.heap.size,2,MH⟩=false:=by simp[Ng,j]
   have M:wr.cell? ⟨w.heap.size+1,0,MH⟩=MI (M3 y):=by rw[q];simp
   have L:wr.cell? ⟨w.heap.size+1,1,MH⟩=MI (M3 z):=by rw[s];simp
   have N:wr.cell? ⟨w.heap.size+1,2,MH⟩=MI (M3 o):=by rw[u];simp
   have e:M6 (_/\_/\_):=⟨l,j,d⟩;clear l j d q s u;go_wp2;have I:=NI _ _ 2 _ _ (M3 o) (NI _ _ 1 _ _ (M3 z) (NI wr w.heap.size 0 _ _ (M3 y) e.out.2.1));obtain⟨G,J,H,_⟩:=aey I;refine Np (v:=Ny #[M3 y,M3 z,M3 o]) (by simp[Pf,Tryz.results197,go_sem,G,J,H]) rfl ⟨rfl,?_⟩;exact((e.out.1.setCell (by simp) _).setCell (by simp) _).setCell (by simp) _
structure Ok(now:Int)(ls:List (List Tm)):Prop where
 len:ls.length=25
 fit:∀(i:Nat) (l:List Tm),ls[i]?=MI l->∀t∈l,Zg now t=Nw/\Xq t.1 now=(i:Int)
 ord:∀l∈ls,l.Pairwise (fun a b=>Xe a b<0)
 ids:(ls.flatten.map (·.2)).Nodup
structure Z7(f:Int->Option Int)(ls:List (List Tm)):Prop where
 here:∀(i:Nat) (l:List Tm),ls[i]?=MI l->∀t∈l,f t.2=MI (i:Int)
 gone:∀id,(∀t∈ls.flatten,t.2≠id)->f id=MH
theorem ajs(ls:List (List Tm))(i:Nat)(l l':List Tm)(h:ls[i]?=MI l):∃a b,ls=a++l::b/\ls.set i l'=a++l'::b/\a.length=i:=by
 have d:=(List.getElem?_eq_some_iff.1 h).1;have e:=(List.getElem?_eq_some_iff.1 h).2;refine⟨ls.take i,ls.drop (i+1),?_,?_,by rw[NH];omega⟩
 ·rw[<-e,Pp,Oo]
 ·rw[List.set_eq_take_append_cons_drop,Nh d]
theorem anS(l:List Tm)(t:Tm)(j:Nat):(YA l t j).Perm (t::l):=by
 unfold YA;have h:=QC (a:=t) (l₁:=l.take j) (l₂:=l.drop j);rwa[Oo]at h
theorem ajA{l:List Tm}{j:Nat}:x∈YA l t j↔x=t\/x∈l:=by
 rw[(anS l t j).mem_iff,OO]
theorem afu{ls:List (List Tm)}{i:Nat}{l:List Tm}(h:ls[i]?=MI l)(t:Tm)(j:Nat):(ls.set i (YA l t j)).flatten.Perm (t::ls.flatten):=by
 obtain⟨a,b,e,d,_⟩:=ajs ls i l (YA l t j) h;rw[e]at d⊢;rw[d];simp only[PV,QS];have n:(a.flatten++(YA l t j++b.flatten)).Perm (a.flatten++(t::l++b.flatten)):=((anS l t j).append_right _).append_left _;refine n.trans ?_;simp only[List.cons_append];exact QC
theorem anT{l:List Tm}(h:l.Pairwise (fun a b=>Xe a b<0))(t:Tm)(j:Nat)(h1:∀x∈l.take j,Xe x t<0)(h2:∀x∈l.drop j,Xe t x<0):(YA l t j).Pairwise (fun a b=>Xe a b<0):=by
 unfold YA;have d:=List.pairwise_append.1 (by rw[Oo];exact h:(l.take j++l.drop j).Pairwise _);refine List.pairwise_append.2 ⟨d.1,List.pairwise_cons.2 ⟨h2,d.2.1⟩,fun x hx y e=>?_⟩;rcases List.mem_cons.1 e with rfl|e
 ·exact h1 x hx
 ·exact d.2.2 x hx y e
theorem Ok.ID{now:Int}{ls:List (List Tm)}(h:Ok now ls){i:Nat}{l:List Tm}(hl:ls[i]?=MI l)(hf:Zg now t=Nw)(hp:Xq t.1 now=(i:Int))(hn:∀x∈ls.flatten,x.2≠t.2)(j:Nat)
  (h1:∀x∈l.take j,Xe x t<0) (h2:∀x∈l.drop j,Xe t x<0):Ok now (ls.set i (YA l t j)):=by
 have o:=(List.getElem?_eq_some_iff.1 hl).1;refine⟨by rw[NA];exact h.len,fun k m hk x d=>?_,fun m n=>?_,?_⟩
 ·by_cases hki:k=i
  ·subst hki
   rw[N7 o]at hk;rw[<-NC hk]at d;rcases ajA.1 d with rfl|d
   ·exact⟨hf,hp⟩
   ·exact h.fit k l hl x d
  ·rw[N3 (Pi hki)]at hk
   exact h.fit k m hk x d
 ·rcases OB n with n|rfl
  ·exact h.ord m n
  ·exact anT (h.ord l (Nu hl)) t j h1 h2
 ·rw[((afu hl t j).map _).nodup_iff,OA,QJ]
  refine⟨fun n=>?_,h.ids⟩;obtain⟨x,d,e⟩:=List.mem_map.1 n;exact hn x d e
theorem Z7.ID{f:Int->Option Int}{ls:List (List Tm)}(h:Z7 f ls){i:Nat}{l:List Tm}(hl:ls[i]?=MI l)(hn:∀x∈ls.flatten,x.2≠t.2)(j:Nat):Z7 (fun k=>if k=t.2 then MI (i:Int)else f k) (ls.set i (YA l t j)):=by
 have o:=(List.getElem?_eq_some_iff.1 hl).1;refine⟨fun k m hk x d=>?_,fun id hid=>?_⟩
 ·by_cases hki:k=i
  ·subst hki
   rw[N7 o]at hk;rw[<-NC hk]at d;rcases ajA.1 d with rfl|d
   ·exact Nh rfl
   ·have:x.2≠t.2:=hn x (List.mem_flatten.2 ⟨l,Nu hl,d⟩)
    simp only[Nf this];exact h.here k l hl x d
  ·rw[N3 (Pi hki)]at hk
   have:x.2≠t.2:=hn x (List.mem_flatten.2 ⟨m,Nu hk,d⟩);simp only[Nf this];exact h.here k m hk x d
 ·have n:id≠t.2:=fun e=>hid t ((afu hl t j).mem_iff.2 (NM ..)) e.symm
  simp only[Nf n];exact h.gone id fun x d=>hid x ((afu hl t j).mem_iff.2 (NB _ d))
theorem Z7.GP{f:Int->Option Int}{ls:List (List Tm)}(h:Z7 f ls)(id:Int):(f id).isSome=Nb↔∀x∈ls.flatten,x.2≠id:=by
 constructor
 ·intro i x d e
  obtain⟨m,l,j⟩:=List.mem_flatten.1 d;obtain⟨k,n,rfl⟩:=NV l;have:=h.here k _ (MR n) x j;rw[e]at this;rw[this]at i;cases i
 ·intro d
  rw[h.gone id d];rfl
def YG(ls:List (List Tm))(i k:Nat):List (List Tm):=(Pm 25).map fun(a:Nat)=>if a<i then ls.getD a []else if a=i then(ls.getD i []).take k else []
theorem aeu(ls:List (List Tm))(i k a:Nat)(ha:a<25):(YG ls i k)[a]?=MI (if a<i then ls.getD a []else if a=i then(ls.getD i []).take k else []):=by
 simp[YG,ha]
theorem aev(ls:List (List Tm))(i k:Nat):(YG ls i k).length=25:=by simp[YG]
theorem awi(ls:List (List Tm))(i k:Nat)(hi:i<25)(l:List Tm)(hl:ls[i]?=MI l)(hk:k<l.length):(YG ls i k).set i (YA (l.take k) l[k] (l.take k).length)=YG ls i (k+1):=by
 apply Ot;intro a;have e:ls.getD i []=l:=by simp[Pq,hl]
 rcases Oq a 25 with d|d
 ·rw[aeu _ _ _ _ d]
  by_cases hai:a=i
  ·subst hai
   rw[N7 (by rw[aev];exact d),Nf (by omega),Nh rfl,e,ajw,M9 hk]
  ·rw[N3 (Pi hai),aeu _ _ _ _ d,Nf hai,Nf hai]
 ·rw[Nz (by rw[NA,aev];exact d),Nz (by rw[aev];exact d)]
theorem awh(ls:List (List Tm))(i:Nat)(l:List Tm)(hl:ls[i]?=MI l):YG ls i l.length=YG ls (i+1) 0:=by
 have d:ls.getD i []=l:=by simp[Pq,hl]
 unfold YG;refine PU fun a _=>?_
 rcases Nat.lt_trichotomy a i with h|h|h
 ·rw[Nh h,Nh (by omega)]
 ·subst h
  rw[Nf (by omega),Nh rfl,Nh (by omega),d,NT]
 ·rw[Nf (by omega),Nf (by omega),Nf (by omega)]
  split
  ·simp
  ·rfl
theorem awe(ls:List (List Tm))(h:ls.length=25):YG ls 25 0=ls:=by
 apply Ot;intro a;rcases Oq a 25 with d|d
 ·rw[aeu _ _ _ _ d,Nh d,MR (by omega)]
  simp[Pq,MR (show a<ls.length by omega)]
 ·rw[Nz (by rw[aev];exact d),Nz (by omega)]
theorem ajC(ls:List (List Tm)):YG ls 0 0=Nj 25 []:=by
 apply Ot;intro a;rcases Oq a 25 with d|d
 ·rw[aeu _ _ _ _ d,Pj,Nh d,Nf (QH _)]
  split
  ·simp
  ·rfl
 ·rw[Nz (by rw[aev];exact d),Nz (by simp;exact d)]
theorem awf(ls:List (List Tm))(hls:ls.length=25)(i k:Nat)(l:List Tm)(hl:ls[i]?=MI l):YG ls i k=ls.take i++l.take k::Nj (24-i) []:=by
 have j:=(List.getElem?_eq_some_iff.1 hl).1;have e:ls.getD i []=l:=by simp[Pq,hl]
 apply Ot;intro a;rcases Oq a 25 with d|d
 ·rw[aeu _ _ _ _ d,Q9,NH,show min i ls.length=i by omega]
  rcases Nat.lt_trichotomy a i with h|h|h
  ·rw[Nh h,Nh h,O0 h,MR (by omega)]
   simp[Pq,MR (show a<ls.length by omega)]
  ·subst h
   rw[Nf (by omega),Nh rfl,Nf (by omega),Nat.sub_self,e];rfl
  ·rw[Nf (by omega),Nf (by omega),Nf (by omega),show a-i=(a-i-1)+1 by omega,N9,Pj,Nh (by omega)]
 ·rw[Nz (by rw[aev];exact d),Nz (by simp;omega)]
theorem awg(ls:List (List Tm))(hls:ls.length=25)(i k:Nat)(l:List Tm)(hl:ls[i]?=MI l):(YG ls i k).flatten=(ls.take i).flatten++l.take k:=by
 rw[awf ls hls i k l hl];simp
theorem Ok.IA{now:Int}{ls:List (List Tm)}(h:Ok now ls){i k:Nat}{l:List Tm}(hl:ls[i]?=MI l)(hk:k<l.length) :
  Zg now l[k]=Nw/\Xq (l[k]).1 now=(i:Int)/\(∀x∈(YG ls i k).flatten,x.2≠(l[k]).2)/\∀x∈l.take k,Xe x l[k]<0:=by
 have q:=h.fit i l hl l[k] (Nk hk);refine⟨q.1,q.2,fun x hx e=>?_,fun x hx=>?_⟩
 ·rw[awg ls h.len i k l hl]at hx
  have A:=(List.getElem?_eq_some_iff.1 hl).1;have w:ls.flatten=((ls.take i).flatten++l.take k)++(l[k]::(l.drop (k+1)++(ls.drop (i+1)).flatten)):=by
   have v:ls=ls.take i++l::ls.drop (i+1):=by
    have r:=(List.getElem?_eq_some_iff.1 hl).2;rw[<-r,Pp,Oo]
   have y:l=l.take k++l[k]::l.drop (k+1):=by rw[Pp,Oo]
   have z:ls.flatten=(ls.take i).flatten++(l++(ls.drop (i+1)).flatten):=by
    have n:(ls.take i++l::ls.drop (i+1)).flatten=(ls.take i).flatten++(l++(ls.drop (i+1)).flatten):=by simp
    rw[<-v]at n;exact n
   have u:l++(ls.drop (i+1)).flatten=(l.take k++l[k]::l.drop (k+1))++(ls.drop (i+1)).flatten:=congrArg (·++(ls.drop (i+1)).flatten) y;rw[z,u];simp only[OC,List.cons_append]
  have d:=h.ids;rw[w,OI,Qv]at d;exact d.2.2 x.2 (List.mem_map.2 ⟨x,hx,rfl⟩) (l[k]).2 (List.mem_map.2 ⟨l[k],NM ..,rfl⟩) e
 ·have s:=h.ord l (Nu hl)
  obtain⟨j,o,rfl⟩:=NV hx;rw[List.getElem_take];exact List.pairwise_iff_getElem.1 s j k (by simp at o;omega) hk (by simp at o;omega)
theorem anK(a b c d:Int)(w:MO) :
  Ni MK 217 #[Ny #[MF ME a,MF ME b],Ny #[MF ME c,MF ME d]] w fun r w'=>r=MN (MF ME (Xe (a,b) (c,d)))/\w'=(((w.alloc (MP #[MF ME a,MF ME b] 166)).alloc (MP #[MF ME c,MF ME d] 166)).alloc (MP #[MF ME (YK a c),MF ME (YK b d)] 3)).drew:=by
 obtain⟨l,e⟩:∃l,l=Xe (a,b) (c,d):=⟨_,rfl⟩;rw[<-e];rw[aiC]at e;obtain⟨x,j⟩:∃x,x=YK a c:=⟨_,rfl⟩;obtain⟨y,i⟩:∃y,y=YK b d:=⟨_,rfl⟩;rw[<-j,<-i]at e;have H:M6 (_/\_/\_):=⟨e,j,i⟩;clear e j i;rw[<-H.out.2.1,<-H.out.2.2];go_enter RZ,RM
 go_wp2_with fail
 generalize hw2:(w.alloc (MP #[MF ME a,MF ME b] 166)).alloc (MP #[MF ME c,MF ME d] 166)=w2;have n:w2.cell? ⟨w.heap.size,0,MH⟩=MI (MF ME a):=by rw[<-hw2];simp
 have o:w2.cell? ⟨w.heap.size,1,MH⟩=MI (MF ME b):=by rw[<-hw2];simp
 have q:w2.cell? ⟨w.heap.size+1,0,MH⟩=MI (MF ME c):=by rw[<-hw2];simp
 have s:w2.cell? ⟨w.heap.size+1,1,MH⟩=MI (MF ME d):=by rw[<-hw2];simp
 have v:M6 _:=hw2;clear hw2
 go_region_held3 (fun w'=>w'.cell? ⟨w.heap.size,0,MH⟩=MI (MF ME a)/\w'.cell? ⟨w.heap.size,1,MH⟩=MI (MF ME b)/\w'.cell? ⟨w.heap.size+1,0,MH⟩=MI (MF ME c)/\w'.cell? ⟨w.heap.size+1,1,MH⟩=MI (MF ME d)/\MQ w2.heap.size w2 w') (first|exact afd n o q s ((MY _ _).drew)|exact afd n o q s (((MY _ _).drew).alloc (MV _) _)) (first|(go_at_call_of 204 (MF ME a);refine(aeg a c _).mono ?_;rw[<-H.out.2.1];rintro r u ⟨rfl,rfl⟩)|(go_at_call_of 204 (MF ME b);refine(aeg b d _).mono ?_;rw[<-H.out.2.2];rintro r u ⟨rfl,rfl⟩)|(go_at_call 239;refine(aiO x y w2.heap.size _ (by simp) (by simp)).mono ?_;rw[<-H.out.1];rintro r u ⟨rfl,rfl⟩))
 go_wp2;go_ret;exact⟨rfl,by rw[v.out]⟩
theorem ajq(a b c d:Int)(w:MO) :
  Ni MK 217 #[Ny #[MF ME a,MF ME b],Ny #[MF ME c,MF ME d]] w fun r w'=>r=MN (MF ME (Xe (a,b) (c,d)))/\MQ w.heap.size w w' :=
 (anK a b c d w).mono fun r w' h=>⟨h.1,by rw[h.2];exact((((MY _ _).alloc (MV _) _).alloc (by simp) _).alloc (by simp;omega) _).drew⟩
theorem adb{w:MO}(h1:w.cell? a1=MI v1)(h2:w.cell? a2=MI v2)(h3:w.cell? a3=MI v3)(h4:w.cell? a4=MI v4)
  (hb:MQ w.heap.size w w'):w'.cell? a1=MI v1/\w'.cell? a2=MI v2/\w'.cell? a3=MI v3/\w'.cell? a4=MI v4/\MQ w.heap.size w w' :=
 ⟨(hb.cell (MX w _ h1)).trans h1,(hb.cell (MX w _ h2)).trans h2,(hb.cell (MX w _ h3)).trans h3,(hb.cell (MX w _ h4)).trans h4,hb⟩
theorem awl(v:M7)(l:List Tm)(ta td:Int)(i0:Nat)(w:MO)(hv:Xz w v l)(h0:i0<=l.length)(h1:∀j (hj:j<l.length),j<i0->Xe l[j] (ta,td)<0)(h2:∀j (hj:j<l.length),i0<=j->¬Xe l[j] (ta,td)<0)(hlen:l.length<=1048577) :
  Ni MK 216 #[v,Ny #[MF ME ta,MF ME td],PB (PD 217) #[] #[]] w fun r w'=>∃b,r=MN (Nv #[MF ME i0,M3 b])/\MQ w.heap.size w w':=by
 obtain⟨a,ca,rfl,b6,U,Q⟩:=hv.F6;unfold NE at U;have L:M6 (_/\_/\_):=⟨Q,h1,h2⟩;clear Q h1 h2;go_enter Tryz.func216,Tryz.ntmps216;go_wp2
 go_loopw [9,10] (fun i j wr=>∃(p q:Nat),i=MF ME p/\j=MF ME q/\p<=i0/\i0<=q/\q<=l.length/\MQ (w.heap.size+1) (w.alloc (MP #[MF ME ta,MF ME td] 166)) wr) (fun i j _=>(On j).toNat-(On i).toNat)
 case atStart=>exact⟨0,l.length,rfl,rfl,Nx _,h0,MV _,MY _ _⟩
 case round =>
  obtain⟨p,q,rfl,rfl,hp,hq,Y,G⟩:=hrel;have C:wr.cell? ⟨w.heap.size,0,MH⟩=MI (MF ME ta):=by rw[G.cell (p:=⟨w.heap.size,0,MH⟩) (by simp)];simp
  have E:wr.cell? ⟨w.heap.size,1,MH⟩=MI (MF ME td):=by rw[G.cell (p:=⟨w.heap.size,1,MH⟩) (by simp)];simp
  have N:MQ w.heap.size w wr:=(((MY _ _).alloc (MV _) _)).trans (G.mono (by omega));have n:M6 (_/\_):=⟨G,N⟩;clear G N
  by_cases hlt:p<q
  ·have b5:Nn ((p:Int)<(q:Int))=true:=Nq (by omega)
   obtain⟨m,K⟩:∃m,m=(p+q) / 2:=⟨_,rfl⟩;have b4:p<=m:=by omega
   have a0:m<q:=by omega
   have M:((p:Int)+(q:Int)) / 2=(m:Int):=by omega
   have HM:M6 (_/\_):=⟨K,M⟩;clear K M;obtain⟨o,off,rfl,z,H,I⟩:=L.out.1 m (by omega);have s:=(n.out.2.cell (p:=⟨o,off+m*2,MH⟩) z).trans H;have u:=(n.out.2.cell (p:=⟨o,off+m*2+1,MH⟩) z).trans I;obtain⟨d,B⟩:∃d,(l[m]'(by omega)).1=d:=⟨_,rfl⟩;obtain⟨e,A⟩:∃e,(l[m]'(by omega)).2=e:=⟨_,rfl⟩;have O:l[m]'(by omega)=(d,e):=Q8 B A;rw[B]at s;rw[A]at u;have P:M6 _:=O;clear O B A H I;have Z:(0:Int)<=(m:Int):=by omega
   have V:(m:Int)<(l.length:Int):=by omega
   have T:o<wr.heap.size:=M8 z n.out.2.size
   go_wp2_with fail
   rw[HM.out.2];obtain⟨c,F⟩:∃c,c=Xe (d,e) (ta,td):=⟨_,rfl⟩;have D:M6 _:=F;clear F;cases hcd:Nn (c<0)
   ·go_region_held3 (fun w'=>w'.cell? ⟨o,off+m*2,MH⟩=MI (MF ME d)/\w'.cell? ⟨o,off+m*2+1,MH⟩=MI (MF ME e)/\w'.cell? ⟨w.heap.size,0,MH⟩=MI (MF ME ta)/\w'.cell? ⟨w.heap.size,1,MH⟩=MI (MF ME td)/\MQ wr.heap.size wr w') (first|exact adb s u C E ((MY _ _).drew)|exact adb s u C E (Za y)) (first|(go_at_call 217;refine(ajq d e ta td _).mono ?_;rw[<-D.out];rintro r R ⟨rfl,y⟩))
    go_wp2;refine⟨⟨p,m,rfl,rfl,hp,?_,by omega,n.out.1.trans ((Za y).mono (by have:=n.out.1.size;simpa using this))⟩,by simp[On];omega⟩;rcases Oq m i0 with h|h
    ·have J:=L.out.2.1 m (by omega) h
     rw[P.out,<-D.out]at J;exact absurd J (Nc hcd)
    ·exact h
   ·go_region_held3 (fun w'=>w'.cell? ⟨o,off+m*2,MH⟩=MI (MF ME d)/\w'.cell? ⟨o,off+m*2+1,MH⟩=MI (MF ME e)/\w'.cell? ⟨w.heap.size,0,MH⟩=MI (MF ME ta)/\w'.cell? ⟨w.heap.size,1,MH⟩=MI (MF ME td)/\MQ wr.heap.size wr w') (first|exact adb s u C E ((MY _ _).drew)|exact adb s u C E (Za y)) (first|(go_at_call 217;refine(ajq d e ta td _).mono ?_;rw[<-D.out];rintro r R ⟨rfl,y⟩))
    go_wp2;refine⟨⟨m+1,q,by simp,rfl,?_,hq,Y,n.out.1.trans ((Za y).mono (by have:=n.out.1.size;simpa using this))⟩,by simp[On];omega⟩;rcases Oq m i0 with h|h
    ·exact h
    ·have J:=L.out.2.2 m (by omega) h
     rw[P.out,<-D.out]at J;have:=M2 hcd;omega
  ·obtain rfl:p=i0:=by omega
   obtain rfl:q=p:=by omega
   obtain⟨m,K⟩:∃m,m=q:=⟨_,rfl⟩;subst K
   by_cases hlt2:m<l.length
   ·obtain⟨o,off,rfl,z,H,I⟩:=L.out.1 m (by omega)
    have s:=(n.out.2.cell (p:=⟨o,off+m*2,MH⟩) z).trans H;have u:=(n.out.2.cell (p:=⟨o,off+m*2+1,MH⟩) z).trans I;obtain⟨d,B⟩:∃d,(l[m]'(by omega)).1=d:=⟨_,rfl⟩;obtain⟨e,A⟩:∃e,(l[m]'(by omega)).2=e:=⟨_,rfl⟩;rw[B]at s;rw[A]at u;clear B A H I;have Z:(0:Int)<=(m:Int):=by omega
    have V:(m:Int)<(l.length:Int):=by omega
    have T:o<wr.heap.size:=M8 z n.out.2.size;obtain⟨c,F⟩:∃c,c=Xe (d,e) (ta,td):=⟨_,rfl⟩;have D:M6 _:=F;clear F
    go_wp2_with fail
    go_region_held3 (fun w'=>w'.cell? ⟨o,off+m*2,MH⟩=MI (MF ME d)/\w'.cell? ⟨o,off+m*2+1,MH⟩=MI (MF ME e)/\w'.cell? ⟨w.heap.size,0,MH⟩=MI (MF ME ta)/\w'.cell? ⟨w.heap.size,1,MH⟩=MI (MF ME td)/\MQ wr.heap.size wr w') (first|exact adb s u C E ((MY _ _).drew)|exact adb s u C E (Za y)) (first|(go_at_call 217;refine(ajq d e ta td _).mono ?_;rw[<-D.out];rintro r R ⟨rfl,y⟩))
    go_wp2
    go_ret2
    exact⟨_,rfl,n.out.2.trans ((Za y).mono n.out.2.size)⟩
   ·obtain rfl:m=l.length:=by omega
    go_wp2_with fail
    go_region
    go_wp2
    go_ret2
    exact⟨_,rfl,n.out.2.drew⟩
def afs(base:Nat)(v:M7)(l:List Tm)(t:Tm)(i:Nat)(w:MO)(r:Ending)(w':MO):Prop :=
 ∃g cap,r=MN (MG (MI ⟨g,0,MH⟩) (l.length+1) cap)/\w'.ownsRow base 166 2 (MG (MI ⟨g,0,MH⟩) (l.length+1) cap) (l.length+1) (WP (YA l t i))/\w.grownBy w' v.ownBlock/\(v.ownBlock=MI g\/w.heap.size<=g)
theorem ajH:∀(l:List Tm) (i:Nat),(WP l).drop (i*2)=WP (l.drop i)
 | [],i=>by simp[WP]
 |t::l,0=>by simp[WP]
 |t::l,i+1=>by rw[show(i+1)*2=i*2+1+1 by omega];simp[WP,ajH l i]
theorem av0(base:Nat)(v:M7)(l:List Tm)(ta td:Int)(k:Nat)(w:MO)(hown:w.ownsRow base 166 2 v l.length (WP l))(hbase:base<=w.heap.size)
  (hk:w.heap[k]?=MI (MP #[MF ME ta,MF ME td] 166 (0,0))) (hlen:l.length<=1048577) :
  Ni MK 218 #[v,MF ME l.length,MG (MI ⟨k,0,MH⟩) 1 1] w (afs base v l (ta,td) l.length w):=by
 obtain⟨B,C,y,z,s⟩:=OF ajv;have i:∀j u,(WP [(ta,td)])[j]?=MI u->w.cell? ((⟨k,0,MH⟩:Oc).add j)=MI u:=fun j u hu=>by
  have D:(⟨k,0,MH⟩:Oc).add j=⟨k,j,MH⟩:=by unfold Addr.add;split <;> simp_all
  rw[D,MW w k j _ _ (0,0) hk]
  simpa [WP]using hu
 obtain⟨p,c,rfl⟩:=Y6 hown;have I:l.length<=c:=by
  rcases hown.2 with⟨h,_⟩|⟨g,d,F,h,_,_,A,_⟩
  ·simp only[N4]at h;omega
  ·simp only[N4]at h;omega
 have H:c<=9223372036854775807:=by
  rcases hown.2 with⟨h,_⟩|⟨g,d,F,h,_,_,_,A,_⟩
  ·simp only[N4]at h;omega
  ·simp only[N4]at h;unfold NE at A;omega
 by_cases hcl:c=l.length
 ·subst hcl
  have e:M6 (_/\_):=⟨hown,i⟩;clear hown i;go_enter azv,azp
  go_wp2_with (first|(at_builtin;refine O9 _ rfl _ _ 163 rfl base 166 B _ 2 16 Ls C y z s rfl (by decide) (MG p l.length l.length) _ _ rfl e.out.1 _ 1 1 (WP [(ta,td)]) rfl rfl e.out.2 (abJ _) (by decide) (by unfold NE;omega) (by omega) hbase _ rfl ?_;intro r d G n q o E))
  all_goals
   go_ret;exact⟨r,d,rfl,by rw[ajw,aa7];exact n,q,o.imp id (fun h=>by omega)⟩
 ·have e:M6 (_/\_):=⟨hown,i⟩
  clear hown i;go_enter azv,azp
  go_wp2_with (first|(at_builtin;refine O9 _ rfl _ _ 163 rfl base 166 B _ 2 16 Ls C y z s rfl (by decide) (MG p l.length c) _ _ rfl e.out.1 _ 1 1 (WP [(ta,td)]) rfl rfl e.out.2 (abJ _) (by decide) (by unfold NE;omega) (by omega) hbase _ rfl ?_;intro r d G n q o E))
  all_goals
   go_ret;exact⟨r,d,rfl,by rw[ajw,aa7];exact n,q,o.imp id (fun h=>by omega)⟩
theorem av1(base g c:Nat)(l:List Tm)(ta td:Int)(i k:Nat)(w:MO)(hown:w.ownsRow base 166 2 (MG (MI ⟨g,0,MH⟩) l.length c) l.length (WP l))(hbase:base<=w.heap.size)(hi:i<l.length)(hroom:c<l.length+1)
  (hk:w.heap[k]?=MI (MP #[MF ME ta,MF ME td] 166 (0,0))) (hlen:l.length<=1048577) :
  Ni MK 218 #[MG (MI ⟨g,0,MH⟩) l.length c,MF ME i,MG (MI ⟨k,0,MH⟩) 1 1] w (afs base (MG (MI ⟨g,0,MH⟩) l.length c) l (ta,td) i w):=by
 obtain⟨U,I,R,G,Q⟩:=OF ajv;have T:c=l.length:=by
  rcases hown.2 with⟨h,_⟩|⟨g',n,c9,h,_,_,h2,_⟩
  ·cases h
  ·simp only[N4]at h;omega
 subst T;have J:(Tryz.prog.info? 166).map (·.size)=MI 2:=by rw[I];simp[G]
 have b4:=(hown.lt g rfl).2;have b6:k<w.heap.size:=(Array.getElem?_eq_some_iff.1 hk).1;obtain⟨n,A,V,r,y,H,L,d,c8⟩:=ag0 (P:=MK) w 163 3 163 166 U _ ME 2 16 Ls Ol I R G Q rfl (by decide) base ⟨g,0,MH⟩ i l.length (l.length+1-i) (WP (l.take i)) (by rw[YE,NH];omega)
  (fun j u hu=>by
   rw[abl,hown.cellAt j (by have:=(List.getElem?_eq_some_iff.1 hu).1;rw[YE,NH]at this;omega)];rw[<-ac4]at hu;rw[List.getElem?_take]at hu
   split at hu
   ·exact hu
   ·cases hu) (by omega) (by omega) (by unfold NE;omega) (by omega) hbase
 have M:i+(l.length+1-i)=l.length+1:=by omega
 rw[M]at r y L;rw[show((l.length+1-i:Nat):Int)=(l.length:Int)+1-(i:Int)by omega]at r;obtain⟨K,O,F,e⟩:=aa8 (P:=MK) V 163 3 166 2 Ls J base w.heap.size (l.length+1) n _ y (i*2) (l.length+1-i) (n-i) ⟨k,0,MH⟩ 1 1 1 (WP [(ta,td)]) (by simp only[PR];split <;> omega) rfl (by simp[WP];omega)
  (fun j u hu=>by
   rw[abl,(d.cell (a:=⟨k,j,MH⟩) (v:=u) (by rw[MW w k j _ _ (0,0) hk];simpa [WP]using hu) (by simp))]) (abJ _)
 obtain⟨Z,N,s,o⟩:=aa8 (P:=MK) K.drew 163 3 166 2 Ls J base w.heap.size (l.length+1) n _ F ((i+1)*2) (l.length-i) (n-(i+1)) ⟨g,i*2,MH⟩ (l.length-i) (l.length-i) (l.length-i) (WP (l.drop i)) (by simp only[PR];split <;> omega) (by rw[YE,NJ]) (by rw[YE,NJ];omega)
  (fun j u hu=>by
   rw[aas];have q:=(List.getElem?_eq_some_iff.1 hu).1;rw[YE,NJ]at q;have Y:w.cell? ⟨g,i*2+j,MH⟩=MI u:=by
    rw[hown.cellAt _ (by omega),<-hu,<-ajH,Pa]
   exact e.cell (a:=⟨g,i*2+j,MH⟩) (d.cell Y (by simp)) (by simp;omega)) (abJ _)
 have D:(WP (l.take i)++A).take (i*2)++WP [(ta,td)]++(WP (l.take i)++A).drop (i*2+(WP [(ta,td)]).length)=WP (l.take i++[(ta,td)])++A.drop 2:=by
  have z:(WP (l.take i)).length=i*2:=by rw[YE,NH];omega
  rw[<-z,Qb,aa7,Qa];simp[WP]
 have C:∀ys:List M7,((WP (l.take i++[(ta,td)])++ys).take ((i+1)*2)++WP (l.drop i)++(WP (l.take i++[(ta,td)])++ys).drop ((i+1)*2+(WP (l.drop i)).length))=WP (YA l (ta,td) i)++ys.drop ((l.length-i)*2):=fun ys=>by
  have z:(WP (l.take i++[(ta,td)])).length=(i+1)*2:=by rw[YE];simp;omega
  rw[<-z,Qb,Qa,YE (l.drop i),NJ,YA,aa7,aa7];simp[WP]
 rw[D,C]at s;rw[List.drop_drop,PI (by rw[H];omega),OG]at s;have E:w.grownBy Z (MG (MI ⟨g,0,MH⟩) l.length l.length).ownBlock :=
  ⟨o.os.trans (e.os.trans d.os),o.tape.trans (e.tape.trans d.tape),o.output.trans (e.output.trans d.output),Nm d.size (Nm e.size o.size),fun j q _=>by
   rw[o.block j (M8 q (Nm d.size e.size)) (by simp;omega)];show K.heap[j]?=_;rw[e.block j (M8 q d.size) (by simp;omega),d.block j q (by simp)]⟩
 have B:M6 (_/\_/\_/\_/\_):=⟨r,O,N,s,E⟩;have b9:(i:Int)<=(l.length:Int):=by omega
 have c7:(i:Int)<(l.length:Int)+1:=by omega
 have b7:¬n=i:=by omega
 have a0:¬n=i+1:=by omega
 have b8:¬l.length=i:=by omega
 have b5:((i:Int) == (l.length:Int))=false:=by simp;omega
 clear r y F s d e o H hown hk D C E;go_enter azv,azp
 go_wp2_with (first|(at_builtin;refine Lib.wpList_append_run _ rfl _ _ _ _ rfl _ _ rfl rfl _ _ B.out.1 ?_))
 go_region
 go_wp2;go_ret;exact⟨w.heap.size,n,rfl,B.out.2.2.2.1,B.out.2.2.2.2,NF (MV _)⟩
theorem av2(base g c:Nat)(l:List Tm)(ta td:Int)(i k:Nat)(w:MO)(hown:w.ownsRow base 166 2 (MG (MI ⟨g,0,MH⟩) l.length c) l.length (WP l))(hbase:base<=w.heap.size)(hi:i<l.length)(hroom:l.length+1<=c)(hkg:k≠g)
  (hk:w.heap[k]?=MI (MP #[MF ME ta,MF ME td] 166 (0,0))) (hlen:l.length<=1048577) :
  Ni MK 218 #[MG (MI ⟨g,0,MH⟩) l.length c,MF ME i,MG (MI ⟨k,0,MH⟩) 1 1] w (afs base (MG (MI ⟨g,0,MH⟩) l.length c) l (ta,td) i w):=by
 obtain⟨i0,M,d6,L,c9⟩:=OF ajv;have F:(Tryz.prog.info? 166).map (·.size)=MI 2:=by rw[M];simp[L]
 obtain⟨d,z,E,A,G,K⟩:∃d:Array M7,w.heap[g]?=MI (MP d 166 (0,0))/\c<=NE/\d.size=c*2/\d.toList.take (l.length*2)=WP l/\base<=g:=by
  rcases hown.2 with⟨h,_⟩|⟨g',d7,d,h,U,hg,h2,O,Z,h5⟩
  ·cases h
  ·simp only[N4,Qs,Q1,and_true,true_and]at h
   obtain⟨rfl,rfl⟩:=h;exact⟨d,hg,O,Z,h5,U⟩
 have q:w.ownsRow base 166 2 (MG (MI ⟨g,0,MH⟩) (l.length+1) c) (l.length+1) (d.toList.take ((l.length+1)*2)):=
  ⟨by simp only[NH,Om,A];omega,NF ⟨g,c,d,rfl,K,z,hroom,E,A,rfl⟩⟩
 have I:d.toList.take ((l.length+1)*2)=WP l++(d.toList.drop (l.length*2)).take 2:=by
  rw[<-G,show(l.length+1)*2=l.length*2+2 by omega,List.take_add]
 rw[I]at q;have s:((d.toList.drop (l.length*2)).take 2).length=2:=by simp only[NH,NJ,Om,A];omega
 generalize (d.toList.drop (l.length*2)).take 2=sp at q s;have b4:=(hown.lt g rfl).2;obtain⟨V,c7,D,n⟩:=aa8 (P:=MK) w.drew 163 3 166 2 Ls F base g (l.length+1) c _ q ((i+1)*2) (l.length-i) (c-(i+1)) ⟨g,i*2,MH⟩ (l.length+1-i) (c-i) (l.length-i) (WP (l.drop i)) (by simp only[PR];split <;> omega) (by rw[YE,NJ]) (by rw[YE,NJ];omega)
  (fun j u hu=>by
   rw[aas];have r:=(List.getElem?_eq_some_iff.1 hu).1;rw[YE,NJ]at r;have Y:w.cell? ⟨g,i*2+j,MH⟩=MI u:=by
    rw[hown.cellAt _ (by omega),<-hu,<-ajH,Pa]
   exact Y) (abJ _)
 obtain⟨R,c8,y,o⟩:=aa8 (P:=MK) V 163 3 166 2 Ls F base g (l.length+1) c _ D (i*2) (l.length+1-i) (c-i) ⟨k,0,MH⟩ 1 1 1 (WP [(ta,td)]) (by simp only[PR];split <;> omega) rfl (by simp[WP];omega)
  (fun j u hu=>by
   rw[abl,(n.cell (a:=⟨k,j,MH⟩) (v:=u) (show w.cell? _=_ by rw[MW w k j _ _ (0,0) hk];simpa [WP]using hu) (by simp;omega))]) (abJ _)
 have B:∀xs:List M7,xs=(WP l++sp).take ((i+1)*2)++WP (l.drop i)++(WP l++sp).drop ((i+1)*2+(WP (l.drop i)).length)->xs.take (i*2)++WP [(ta,td)]++xs.drop (i*2+(WP [(ta,td)]).length)=WP (YA l (ta,td) i):=fun xs hxs=>by
  have Q:(WP l++sp).drop ((i+1)*2+(WP (l.drop i)).length)=[]:=PI (by rw[Ns,YE,YE,NJ,s];omega);have T:(WP l++sp).take ((i+1)*2)=WP (l.take (i+1)):=by
   rw[ZqA (by rw[YE];omega),ac4]
  rw[Q,T,OG]at hxs;have H:(WP (l.take (i+1))).length=(i+1)*2:=by rw[YE,NH];omega
  have e4:xs.take (i*2)=WP (l.take i):=by
   rw[hxs,ZqA (by rw[H];omega),ac4,List.take_take,show min i (i+1)=i by omega]
  have e5:xs.drop (i*2+(WP [(ta,td)]).length)=WP (l.drop i):=by
   rw[hxs,show i*2+(WP [(ta,td)]).length=(WP (l.take (i+1))).length by rw[H];simp[WP];omega,List.drop_left]
  rw[e4,e5,YA,aa7];simp[WP]
 rw[B _ rfl]at y;have C:w.grownBy R (MG (MI ⟨g,0,MH⟩) l.length c).ownBlock :=
  ⟨o.os.trans n.os,o.tape.trans n.tape,o.output.trans n.output,Nm n.size o.size,fun j r hne=>by
   rw[o.block j (M8 r n.size) hne];exact n.block j r hne⟩
 have N:∀lb cb,(callFunc 240 #[MG (MI ⟨k,0,MH⟩) 1 1,MG (MI ⟨g,(i+1)*2,MH⟩) lb cb]).run MK w=.ok (.value (M3 Nb)) w:=fun lb cb=>by
  rw[run_callFunc_extern VR (by kernel_rfl) (by kernel_rfl) (by kernel_rfl) (e:=P9 #[163,163] #[4]) (by kernel_rfl),
   Lib.run_overlaps_apart w 163 4 166 Ls 2 Tryz.sizeOf166 ⟨k,0,MH⟩ ⟨g,(i+1)*2,MH⟩ 1 1 lb cb hkg 166 166 2 d.size (by simp[QO,hk]) (by simp[QO,z]) (by omega) (by simp[Ng,hk]) (by simp[Ng,hk])]
  rfl
 have J:M6 (_/\_):=⟨y,C⟩;have b8:(i:Int)<=(l.length:Int):=by omega
 have b9:(i:Int)<=(l.length:Int)+1:=by omega
 have b6:¬c=i:=by omega
 have a0:¬c=i+1:=by omega
 have b5:((i:Int) == (l.length:Int))=false:=by simp;omega
 have b7:(l.length:Int)+1<=(c:Int):=by omega
 unfold NE at E;clear D y n o hown q hk B C z G I s;go_enter azv,azp
 go_wp2_with (simp only[N])
 go_region
 go_wp2;go_ret;exact⟨g,c,rfl,J.out.1,J.out.2,Nt rfl⟩
theorem avZ(base:Nat)(v:M7)(l:List Tm)(ta td:Int)(i k:Nat)(w:MO)(hown:w.ownsRow base 166 2 v l.length (WP l))(hbase:base<=w.heap.size)(hi:i<=l.length)(hkv:v.ownBlock≠MI k)
  (hk:w.heap[k]?=MI (MP #[MF ME ta,MF ME td] 166 (0,0))) (hlen:l.length<=1048577) :
  Ni MK 218 #[v,MF ME i,MG (MI ⟨k,0,MH⟩) 1 1] w (afs base v l (ta,td) i w):=by
 rcases Oq i l.length with d|j
 ·obtain⟨g,c,rfl,_⟩:=hown.form (by omega)
  rcases Oq c (l.length+1)with h|h
  ·exact av1 base g c l ta td i k w hown hbase d h hk hlen
  ·exact av2 base g c l ta td i k w hown hbase d h (fun e=>hkv (by rw[e];rfl)) hk hlen
 ·obtain rfl:i=l.length:=by omega
  exact av0 base v l ta td k w hown hbase hk hlen
section
open Go.Maps (Keyed int_keyed keyOf_int_mk)
theorem anX(W:MO):(zeroValue 3).run MK W=.ok (MF ME 0) W:=by kernel_rfl
theorem agW:Keyed MK 3:=int_keyed Ol
def aaj(w:MO)(b n:Nat)(f:Int->Option Int):Prop :=
 ∃D:DataW Unit,w.ownsMap MK 3 (plainElem MK 3) b n D/\∀id,(N6 ME id).wf=Nw->Maps.has D (N6 ME id)=(f id).isSome/\∀x,f id=MI x->D.atKey (N6 ME id) (.lit (N6 ME 0))=.lit (N6 ME x)
theorem aaj.Gf{w:MO}{n:Nat}{f:Int->Option Int}(h:aaj w b n f)(hb:w'.heap[b]?=w.heap[b]?):aaj w' b n f:=by
 obtain⟨D,⟨i,d,l,e⟩,j⟩:=h;exact⟨D,⟨i,d,hb.trans l,e⟩,j⟩
theorem aaj.lt{w:MO}{n:Nat}{f:Int->Option Int}(h:aaj w b n f):b<w.heap.size:=by
 obtain⟨D,⟨j,e,d,i⟩,l⟩:=h;exact(Array.getElem?_eq_some_iff.1 d).1
structure WM(w:MO)(base T B M n:Nat)(now:Int)(vs:List M7)(ls:List (List Tm))(f:Int->Option Int):Prop where
 box:w.heap[T]?=MI (MP #[MF ME now,MG (MI ⟨B,0,MH⟩) 25 25,P0 (MI M)] 244 (0,0))
 own:WZ w base (MG (MI ⟨B,0,MH⟩) 25 25) vs ls
 map:aaj w M n f
 offT:∀u∈MG (MI ⟨B,0,MH⟩) 25 25::vs,u.ownBlock≠MI T
 offM:∀u∈MG (MI ⟨B,0,MH⟩) 25 25::vs,u.ownBlock≠MI M
 hT:base<=T
 hM:base<=M
 hTM:T≠M
 len:ls.length=25
theorem YS{w:MO}{b:M7}{T:NU}(h:w.heap[g]?=MI (MP #[a,b,c] T (0,0))):w.cell? ⟨g,0,MH⟩=MI a/\w.cell? ⟨g,1,MH⟩=MI b/\w.cell? ⟨g,2,MH⟩=MI c/\g<w.heap.size:=by
 refine⟨by simp[Nl,h],by simp[Nl,h],by simp[Nl,h],?_⟩;exact(Array.getElem?_eq_some_iff.1 h).1
theorem WM.Gf{w:MO}{base T B M n:Nat}{now:Int}{vs:List M7}{ls:List (List Tm)}{f:Int->Option Int}(h:WM w base T B M n now vs ls f)(hk:∀g,base<=g->g<w.heap.size->w'.heap[g]?=w.heap[g]?):WM w' base T B M n now vs ls f :=
 ⟨(hk T h.hT (Array.getElem?_eq_some_iff.1 h.box).1).trans h.box,h.own.Gf hk,h.map.Gf (hk M h.hM h.map.lt),h.offT,h.offM,h.hT,h.hM,h.hTM,h.len⟩
theorem WM.below{w:MO}{base T B M n:Nat}{now:Int}{vs:List M7}{ls:List (List Tm)}{f:Int->Option Int}(h:WM w base T B M n now vs ls f)(hb:MQ w.heap.size w w'):WM w' base T B M n now vs ls f :=
 h.Gf fun g _ hg=>hb.block g hg
theorem aju(T M n:Nat)(f:Int->Option Int)(id:Int)(w:MO)(hc:w.cell? ⟨T,2,MH⟩=MI (P0 (MI M)))(hm:aaj w M n f)(hid:(N6 ME id).wf=Nw) :
  Ni MK 175 #[Na (MI ⟨T,0,MH⟩),MF ME id] w fun r w'=>r=MN (M3 (f id).isSome)/\w'=w:=by
 obtain⟨D,e,i⟩:=hm;have l:keyOf MK 3 (MF ME id)=MI (N6 ME id):=Qg Ol hid;obtain⟨b,d⟩:∃b,b=Maps.has D (N6 ME id):=⟨_,rfl⟩;have o:M6 (b=(f id).isSome):=by rw[d];exact(i id hid).1
 have j:M6 (_/\_):=⟨e,d⟩;clear i d e;rw[<-o.out];go_enter Wq,We
 go_wp2_with (first|(at_lookup;refine wpList_lookup_own_ok_int _ rfl _ _ 242 rfl 3 3 ME agW ay0 Ol (anX _) M n D rfl j.out.1 _ _ rfl l ?_;rw[<-j.out.2];intro c s q))
 go_ret;exact⟨rfl,rfl⟩
end
section
open Go.Sort (grow grow_empty grow_grow alloc_eq_grow cell?_grow heap_grow_old)
def acz(a:List Tm)(t:Tm):Bool:=match a.getLast? with|none=>Nw|some x=>Nn (Xe x t<0)
theorem acA(w:MO)(q:Nat)(os:Array Obj):MQ w.heap.size w (Oj (w.drewN q) os):=
 ⟨rfl,rfl,rfl,by simp[Oj,World.drewN],fun k hk=>heap_grow_old (w.drewN q) os hk⟩
theorem aer{now:Int}(h:Zg now t=Nw)(hn:0<=now):0<=t.1/\t.1<=4398046511104/\(N6 ME t.2).wf=true:=by
 have h:=(ada now t).1 h;exact⟨by omega,by omega,aez (by omega) (by omega)⟩
theorem ajr(x y n:Int)(w:MO)(hn:0<=n)(hn2:n<=1099511627776) :
  Ni MK 174 #[Ny #[MF ME x,MF ME y],MF ME n] w fun r w'=>r=MN (M3 (Zg n (x,y)))/\∃q os,w'=Oj (w.drewN q) os :=
 (anM x y n w hn hn2).mono fun r w' h=>⟨h.1,0,#[_],h.2.trans (PQ w _)⟩
theorem ajE(x n:Int)(w:MO)(hB:Xo w)(hx:0<=x)(hx2:x<=4398046511104)(hn:0<=n)(hn2:n<=4398046511104) :
  Ni MK 200 #[MF ME x,MF ME n] w fun r w'=>r=MN (MF ME (Xq x n))/\∃q os,w'=Oj (w.drewN q) os :=
 (ajD x n w hB hx hx2 hn hn2).mono fun r w' h=>by
  obtain⟨e,q,d⟩:=h;exact⟨e,q,#[],by rw[grow_empty];exact d⟩
theorem anO(T M n:Nat)(f:Int->Option Int)(id:Int)(w:MO)(hc:w.cell? ⟨T,2,MH⟩=MI (P0 (MI M)))(hm:aaj w M n f)(hid:(N6 ME id).wf=Nw) :
  Ni MK 175 #[Na (MI ⟨T,0,MH⟩),MF ME id] w fun r w'=>r=MN (M3 (f id).isSome)/\∃q os,w'=Oj (w.drewN q) os :=
 (aju T M n f id w hc hm hid).mono fun r w' h=>⟨h.1,0,#[],by rw[grow_empty];exact h.2⟩
theorem avK(a b c d:Int)(w:MO) :
  Ni MK 217 #[Ny #[MF ME a,MF ME b],Ny #[MF ME c,MF ME d]] w fun r w'=>r=MN (MF ME (Xe (a,b) (c,d)))/\∃q os,w'=Oj (w.drewN q) os :=
 (anK a b c d w).mono fun r w' h=>by
  refine⟨h.1,1,#[MP #[MF ME a,MF ME b] 166,MP #[MF ME c,MF ME d] 166,MP #[MF ME (YK a c),MF ME (YK b d)] 3],?_⟩;rw[h.2,PQ,PQ,PQ,grow_grow,grow_grow];rfl
theorem avN(base T B M n:Nat)(now:Int)(vs:List M7)(ls:List (List Tm))(f:Int->Option Int)(ta td:Int)(i:Nat)(w:MO)(hB:Xo w)(hT:WM w base T B M n now vs ls f)(hn:0<=now)(hn2:now<=1099511627776)(hi:i<25)
  (h:(Zg now (ta,td) && Nn (Xq ta now=i) && !(f td).isSome)=Nb) :
  Ni MK 196 #[Na (MI ⟨T,0,MH⟩),Ny #[MF ME ta,MF ME td],MF ME i] w fun r w'=>r=MN (M3 Nb)/\MQ w.heap.size w w':=by
 have XY:=XY;obtain⟨I,N,J,H⟩:=YS hT.box;have z:=hT.map;obtain⟨d,l⟩:∃d,d=w.alloc (MP #[MF ME ta,MF ME td] 166):=⟨_,rfl⟩;have j:MQ w.heap.size w d:=by rw[l];exact(MY _ _).alloc (MV _) _
 have F:w.heap.size<d.heap.size:=by rw[l];simp
 have D:T<d.heap.size:=by omega
 have Q:∀n os,(Oj (d.drewN n) os).cell? ⟨w.heap.size,0,MH⟩=MI (MF ME ta):=Ob F (by rw[l];simp);have R:∀n os,(Oj (d.drewN n) os).cell? ⟨w.heap.size,1,MH⟩=MI (MF ME td):=Ob F (by rw[l];simp);have U:∀n os,(Oj (d.drewN n) os).cell? ⟨T,0,MH⟩=MI (MF ME now):=Ob D ((j.cell (p:=⟨T,0,MH⟩) H).trans I);have O:∀n os,(Oj (d.drewN n) os).cell? ⟨T,2,MH⟩=MI (P0 (MI M)):=Ob D ((j.cell (p:=⟨T,2,MH⟩) H).trans J);have E:∀n os,Xo (Oj (d.drewN n) os):=fun n os=>(hB.below j).below (acA d n os)
 have G:∀q os,aaj (Oj (d.drewN q) os) M n f:=fun q os=>(z.Gf (j.block M z.lt)).Gf ((acA d q os).block M (M8 z.lt j.size))
 have e:M6 (_/\_/\_):=⟨E,G,j⟩;have C:M6 _:=l;clear E G j hT z I N J l;cases hfit:Zg now (ta,td)
 ·have A:M6 (∀W:MO,Ni MK 174 #[Ny #[MF ME ta,MF ME td],MF ME now] W fun r w'=>r=MN (M3 Nb)/\∃q os,w'=Oj (W.drewN q) os):=fun W=>by rw[<-hfit];exact ajr ta td now W hn hn2
  clear h;go_enter Wz,Wl
  go_wp2_with fail
  rw[<-C.out];refine NQ XY (by kernel_rfl) ?_
  repeat (first|go_big_quiet_skip|quiet_step (first|(go_at_call 174;exact NZ (A.out _))))
  refine Oy ?_;intro _ s;obtain⟨⟨v,u⟩,o⟩:=s;subst o;go_wp2;go_ret;exact⟨rfl,e.out.2.2.trans ((acA d v u).mono e.out.2.2.size)⟩
 ·have y:=aer hfit hn
  have A:M6 (∀W:MO,Ni MK 174 #[Ny #[MF ME ta,MF ME td],MF ME now] W fun r w'=>r=MN (M3 Nw)/\∃q os,w'=Oj (W.drewN q) os):=fun W=>by rw[<-hfit];exact ajr ta td now W hn hn2
  rw[hfit]at h;cases hpl:Nn (Xq ta now=i)
  ·have L:(Xq ta now != (i:Int))=true:=by simpa using hpl
   clear h hpl;go_enter Wz,Wl
   go_wp2_with fail
   rw[<-C.out];refine NQ XY (by kernel_rfl) ?_
   repeat (first|go_big_quiet_skip|quiet_step (first|(go_at_call 174;exact NZ (A.out _))|(go_at_call 200;exact NZ (ajE ta now _ (e.out.1 _ _) y.1 y.2.1 hn (by omega)))))
   refine Oy ?_;intro _ s;obtain⟨⟨v,u⟩,o⟩:=s;subst o;go_wp2;go_ret;exact⟨rfl,e.out.2.2.trans ((acA d v u).mono e.out.2.2.size)⟩
  ·have L:(Xq ta now != (i:Int))=false:=by simpa using hpl
   have K:(f td).isSome=true:=by rw[hpl]at h;simpa using h
   have P:M6 (∀q os,Ni MK 175 #[Na (MI ⟨T,0,MH⟩),MF ME td] (Oj (d.drewN q) os) fun r w'=>r=MN (M3 Nw)/\∃q' os',w'=Oj ((Oj (d.drewN q) os).drewN q') os'):=fun q os=>by rw[<-K];exact anO T M n f td _ (O _ _) (e.out.2.1 _ _) y.2.2
   clear h hpl;go_enter Wz,Wl
   go_wp2_with fail
   rw[<-C.out];refine NQ XY (by kernel_rfl) ?_
   repeat (first|go_big_quiet_skip|quiet_step (first|(go_at_call 174;exact NZ (A.out _))|(go_at_call 200;exact NZ (ajE ta now _ (e.out.1 _ _) y.1 y.2.1 hn (by omega)))|(go_at_call 175;exact NZ (P.out _ _))))
   refine Oy ?_;intro _ s;obtain⟨⟨v,u⟩,o⟩:=s;subst o;go_wp2;go_ret;exact⟨rfl,e.out.2.2.trans ((acA d v u).mono e.out.2.2.size)⟩
theorem aet{w:MO}{base:Nat}{v:M7}{vs:List M7}{ls:List (List Tm)}(h:WZ w base v vs ls)(i:Nat)(hi:i<ls.length):∃u,vs[i]?=MI u/\w.ownsRow base 166 2 u ls[i].length (WP ls[i]):=by
 have d:=h.each.1;exact⟨vs[i]'(by omega),MR _,h.each.2 i (by omega) hi⟩
theorem aes{w:MO}{base B n cap:Nat}{vs:List M7}{ls:List (List Tm)}(h:WZ w base (MG (MI ⟨B,0,MH⟩) n cap) vs ls)(hn:ls.length=n)(i:Nat)(hi:i<ls.length)(u:M7)(hu:vs[i]?=MI u):w.cell? ⟨B,i,MH⟩=MI u:=by
 have d:=h.row;rw[hn]at d;rw[d.cellAt i (by omega),hu]
theorem anN(base T B M n:Nat)(now:Int)(vs:List M7)(ls:List (List Tm))(f:Int->Option Int)(ta td:Int)(i:Nat)(w:MO)(hB:Xo w)(hT:WM w base T B M n now vs ls f)(hn:0<=now)(hn2:now<=1099511627776)(hi:i<25)
  (hfit:Zg now (ta,td)=Nw) (hpl:Xq ta now=i) (hhas:(f td).isSome=Nb) (l:List Tm) (hl:ls[i]?=MI l) (hll:l.length<=1048577) :
  Ni MK 196 #[Na (MI ⟨T,0,MH⟩),Ny #[MF ME ta,MF ME td],MF ME i] w fun r w'=>r=MN (M3 (acz l (ta,td)))/\MQ w.heap.size w w':=by
 have XY:=XY;obtain⟨t0,t1,t2,L⟩:=YS hT.box;have H:=hT.map;have Y:i<ls.length:=by rw[hT.len];exact hi
 obtain⟨u,hu,F⟩:=aet hT.own i Y;have c7:=aes hT.own hT.len i Y u hu;rw[MR Y]at hl;rw[NC hl]at F;have c9:B<w.heap.size:=(hT.own.row.lt B rfl).2;obtain⟨d,v⟩:∃d,d=w.alloc (MP #[MF ME ta,MF ME td] 166):=⟨_,rfl⟩;have j:MQ w.heap.size w d:=by rw[v];exact(MY _ _).alloc (MV _) _
 have C:w.heap.size<d.heap.size:=by rw[v];simp
 have b7:T<d.heap.size:=by omega
 have c1:d.cell? ⟨w.heap.size,0,MH⟩=MI (MF ME ta):=by rw[v];simp
 have c2:d.cell? ⟨w.heap.size,1,MH⟩=MI (MF ME td):=by rw[v];simp
 have k1:∀n os,(Oj (d.drewN n) os).cell? ⟨w.heap.size,0,MH⟩=MI (MF ME ta):=Ob C c1;have k2:∀n os,(Oj (d.drewN n) os).cell? ⟨w.heap.size,1,MH⟩=MI (MF ME td):=Ob C c2;have k3:∀n os,(Oj (d.drewN n) os).cell? ⟨T,0,MH⟩=MI (MF ME now):=Ob b7 ((j.cell (p:=⟨T,0,MH⟩) L).trans t0);have k4:∀n os,(Oj (d.drewN n) os).cell? ⟨T,2,MH⟩=MI (P0 (MI M)):=Ob b7 ((j.cell (p:=⟨T,2,MH⟩) L).trans t2);have b8:∀n os,Xo (Oj (d.drewN n) os):=fun n os=>(hB.below j).below (acA d n os)
 have V:∀q os,aaj (Oj (d.drewN q) os) M n f:=fun q os=>(H.Gf (j.block M H.lt)).Gf ((acA d q os).block M (M8 H.lt j.size))
 have hb:=aer hfit hn;have HF:M6 (∀W:MO,Ni MK 174 #[Ny #[MF ME ta,MF ME td],MF ME now] W fun r w'=>r=MN (M3 Nw)/\∃q os,w'=Oj (W.drewN q) os):=fun W=>by rw[<-hfit];exact ajr ta td now W hn hn2
 have HS:M6 (∀q os,Ni MK 175 #[Na (MI ⟨T,0,MH⟩),MF ME td] (Oj (d.drewN q) os) fun r w'=>r=MN (M3 Nb)/\∃q' os',w'=Oj ((Oj (d.drewN q) os).drewN q') os'):=fun q os=>by rw[<-hhas];exact anO T M n f td _ (k4 _ _) (V _ _) hb.2.2
 have d8:(Xq ta now != (i:Int))=false:=by simpa using hpl
 have A:M6 (_/\_/\_/\_):=⟨b8,V,j,F⟩;have y:M6 (_/\_/\_/\_/\_/\_):=⟨c7,t1,c1,c2,c9,L⟩;have HW:M6 _:=v;obtain⟨D,J⟩:∃D,D=acz l (ta,td):=⟨_,rfl⟩;rw[<-J];have HA:M6 _:=J;obtain⟨p,c,rfl⟩:=Y6 F;clear b8 V j hT H t0 t1 t2 v F c7 hu hl hpl hhas hfit c1 c2 J;have f9:(i:Int)<25:=by omega
 go_enter Wz,Wl
 go_wp2_with fail
 rw[<-HW.out];refine NQ XY (by kernel_rfl) ?_
 repeat (first|go_big_quiet_skip|quiet_step (first|(go_at_call 174;exact NZ (HF.out _))|(go_at_call 200;exact NZ (ajE ta now _ (A.out.1 _ _) hb.1 hb.2.1 hn (by omega)))|(go_at_call 175;exact NZ (HS.out _ _))))
 refine Oy ?_;intro _ Q;obtain⟨⟨nq,c8⟩,K⟩:=Q;subst K;have e:=acA d nq c8;generalize Oj (d.drewN nq) c8=w3 at e⊢;have G:MQ w.heap.size w w3:=A.out.2.2.1.trans (e.mono A.out.2.2.1.size);have d1:=(G.cell (p:=⟨T,1,MH⟩) y.out.2.2.2.2.2).trans y.out.2.1;have d2:=(G.cell (p:=⟨B,i,MH⟩) y.out.2.2.2.2.1).trans y.out.1;have d3:=(e.cell (p:=⟨w.heap.size,0,MH⟩) C).trans y.out.2.2.1;have d4:=(e.cell (p:=⟨w.heap.size,1,MH⟩) C).trans y.out.2.2.2.1;have b6:w.heap.size<w3.heap.size:=M8 C e.size;have z:M6 (_/\_):=⟨G,e⟩;clear e G k1 k2 k3 k4
 by_cases hnil:l=[]
 ·subst hnil
  have HE:M6 (D=Nw):=HA.out
  go_wp2_with fail
  go_region
  go_wp2;go_ret;exact⟨by rw[HE.out];rfl,z.out.1.drew⟩
 ·obtain⟨P,hP⟩:∃P,l.length=P+1:=⟨l.length-1,by have:=List.length_pos_iff.2 hnil;omega⟩
  have R:P<l.length:=by omega
  obtain⟨g,c',b4,d9,Z⟩:=A.out.2.2.2.form (by omega);simp only[N4]at b4;obtain⟨rfl,_,rfl⟩:=b4;have b9:g<w3.heap.size:=M8 Z z.out.1.size;have E:=aaT l P R;rw[<-A.out.2.2.2.cellAt _ (by omega),<-A.out.2.2.2.cellAt _ (by omega)]at E;obtain⟨s,a0⟩:∃s,l[P].1=s:=⟨_,rfl⟩;obtain⟨o,O⟩:∃o,l[P].2=o:=⟨_,rfl⟩;rw[a0,O]at E;have e1:=(z.out.1.cell (p:=⟨g,P*2,MH⟩) Z).trans E.1;have e2:=(z.out.1.cell (p:=⟨g,P*2+1,MH⟩) Z).trans E.2;have b5:l.getLast?=MI (s,o):=by
   rw[List.getLast?_eq_getElem?,hP,Nat.add_sub_cancel,MR R];exact congrArg MI (Q8 a0 O)
  obtain⟨I,U⟩:∃I,I=Xe (s,o) (ta,td):=⟨_,rfl⟩;have HE:M6 (D=Nn (I<0)):=by show D=_;rw[HA.out,acz,b5,U]
  have HQ:M6 (∀W:MO,Ni MK 217 #[Ny #[MF ME s,MF ME o],Ny #[MF ME ta,MF ME td]] W fun r w'=>r=MN (MF ME I)/\∃q os,w'=Oj (W.drewN q) os):=fun W=>by rw[U];exact avK s o ta td W
  obtain⟨N,hN⟩:∃N,N=l.length:=⟨_,rfl⟩;rw[<-hN]at d2;have e7:((N:Int) == 0)=false:=by simp;omega
  have f8:IntKind.i64.wrap ((N:Int)-1)=(P:Int):=by rw[Ow];omega
  have e8:(P:Int)<(N:Int):=by omega
  have e9:(0:Int)<=(P:Int):=by omega
  have q1:∀n os,(Oj (w3.drewN n) os).cell? ⟨g,P*2,MH⟩=MI (MF ME s):=Ob b9 e1;have q2:∀n os,(Oj (w3.drewN n) os).cell? ⟨g,P*2+1,MH⟩=MI (MF ME o):=Ob b9 e2;have q3:∀n os,(Oj (w3.drewN n) os).cell? ⟨w.heap.size,0,MH⟩=MI (MF ME ta):=Ob b6 d3;have q4:∀n os,(Oj (w3.drewN n) os).cell? ⟨w.heap.size,1,MH⟩=MI (MF ME td):=Ob b6 d4;clear E a0 O b5 U hN hP R
  go_wp2_with fail
  refine NQ XY (by kernel_rfl) ?_
  repeat (first|go_big_quiet_skip|quiet_step (first|(go_at_call 217;exact NZ (HQ.out _))))
  refine Oy ?_;intro _ Q;obtain⟨⟨d7,d6⟩,K⟩:=Q;subst K;go_wp2;go_ret;exact⟨by rw[HE.out];rfl,z.out.1.trans ((acA w3 d7 d6).mono z.out.1.size)⟩
end
section
open Go.Sort (grow grow_empty grow_grow alloc_eq_grow cell?_grow heap_grow_old)
theorem WZ.Gd{w w1:MO}{base B n cap:Nat}{vs:List M7}{ls:List (List Tm)}(h:WZ w base (MG (MI ⟨B,0,MH⟩) n cap) vs ls)(hn:ls.length=n){i:Nat}(hi:i<ls.length){u u':M7}(hu:vs[i]?=MI u){l':List Tm}
  (hg:w.grownBy w1 u.ownBlock) (hu':w1.ownsRow base 166 2 u' l'.length (WP l')) (hl:∀g,u'.ownBlock=MI g->u.ownBlock=MI g\/w.heap.size<=g) :
  WZ (w1.setCell ⟨B,i,MH⟩ u') base (MG (MI ⟨B,0,MH⟩) n cap) (vs.set i u') (ls.set i l'):=by
 have F:=h.each.1;have o:i<vs.length:=by omega
 have q:=List.pairwise_cons.1 h.apart;have y:vs[i]=u:=by rw[MR o]at hu;exact NC hu
 have C:u.ownBlock≠MI B:=fun e=>q.1 u (by rw[<-y];exact Nk o) B rfl e
 have r:=List.pairwise_iff_getElem.1 q.2;have A:∀j (l:j<vs.length),j≠i->∀g,vs[j].ownBlock=MI g->u.ownBlock≠MI g:=fun j l hji g hg' e=>by
  rcases QM hji with d|d
  ·exact r j i l o d g hg' (by rw[y];exact e)
  ·exact r i j o l d g (by rw[y];exact e) hg'
 have H:=(h.row.lt B rfl).2;have s:∀j (l:j<vs.length) g,vs[j].ownBlock=MI g->base<=g/\g<w.heap.size:=fun j l g hg'=>(h.each.2 j l (by omega)).lt g hg'
 have hu'B:∀g,u'.ownBlock=MI g->g≠B:=fun g hg' e=>by
  rcases hl g hg' with d|d
  ·rw[e]at d;exact C d
  ·omega
 have E:w1.ownsRow base 163 1 (MG (MI ⟨B,0,MH⟩) n cap) n vs:=by
  have d:=h.row;rw[hn]at d;exact d.kept hg (NF (fun e=>C e.symm))
 have D:=(E.stored i u').1;refine⟨by rw[NA,hn];exact D,⟨by simp[F],fun j d h2=>?_⟩,?_⟩
 ·by_cases hji:j=i
  ·subst hji
   simp only[NW];exact W8 hu' fun g hg'=>MU _ _ _ _ (hu'B g hg')
  ·rw[Pe (Pi hji),Pe (Pi hji)]
   have l:j<vs.length:=by simpa using d
   refine W8 (h.each.2 j l (by omega)) fun g hg'=>?_
   rw[MU _ _ _ _ (fun e=>q.1 vs[j] (Nk l) B rfl (by rw[hg'];exact congrArg MI e))];exact hg.block g (s j l g hg').2 (fun e=>A j l hji g hg' e.symm)
 ·refine List.pairwise_cons.2 ⟨fun x hx g hg' e=>?_,List.pairwise_iff_getElem.2 fun a b ha hb hab g hga e=>?_⟩
  ·obtain⟨j,l,rfl⟩:=NV hx
   have G:g=B:=(NC hg').symm
   by_cases hji:j=i
   ·subst hji
    simp only[NW]at e;exact hu'B g e G
   ·rw[Pe (Pi hji)]at e
    exact q.1 _ (Nk (by simpa using l)) g hg' e
  ·have v:a<vs.length:=by simpa using ha
   have z:b<vs.length:=by simpa using hb
   by_cases hai:a=i
   ·subst hai
    simp only[NW]at hga;rw[Pe (by omega)]at e;rcases hl g hga with d|d
    ·exact A b z (by omega) g e d
    ·have:=(s b z g e).2;omega
   ·rw[Pe (Pi hai)]at hga
    by_cases hbi:b=i
    ·subst hbi
     simp only[NW]at e;rcases hl g e with d|d
     ·exact A a v hai g hga d
     ·have:=(s a v g hga).2;omega
    ·rw[Pe (Pi hbi)]at e
     exact r a b v z hab g hga e
def aex(f:Int->Option Int)(id x k:Int):Option Int:=if k=id then MI x else f k
theorem aaj.Gd{w:MO}{n:Nat}{f:Int->Option Int}(h:aaj w b n f)(hn:n<NE){id x:Int}(hid:(N6 ME id).wf=Nw)(hx:(N6 ME x).wf=Nw):
  ∃w',(Instr.mapUpdate 242 (P0 (MI b)) (MF ME id) (MF ME x)).run MK w=.ok () w'/\aaj w' b (n+1) (aex f id x)/\w.grownBy w' (MI b):=by
 obtain⟨D,d,q⟩:=h;obtain⟨w',l,o,r⟩:=d.update agW ay0 hn (Qg Ol hid) (plainElem_int Ol hx);refine⟨w',l,⟨_,o,fun k hk=>?_⟩,r⟩;have j:Maps.IsMap D:=by obtain⟨u,s,_,_,_,rfl⟩:=d;exact⟨_,rfl⟩
 by_cases e:k=id
 ·subst e
  unfold aex;rw[Nh rfl];refine⟨Maps.has_put_same (k:=N6 ME k) j trivial _,fun y hy=>?_⟩;rw[Maps.atKey_put_same (k:=N6 ME k) j trivial,NC hy]
 ·unfold aex
  rw[Nf e];have i:N6 ME k≠N6 ME id:=fun h=>e (by cases h;rfl)
  rw[Maps.has_put_other i,Maps.atKey_put_other i];exact q k hk
theorem avS{w:MO}(h1:w.cell? a1=MI v1)(h2:w.cell? a2=MI v2)(h3:w.cell? a3=MI v3)(h4:w.cell? a4=MI v4)(hf:w.frozen? a2=Nb)
  (e1:w'.heap[a1.block]?=w.heap[a1.block]?) (e2:w'.heap[a2.block]?=w.heap[a2.block]?) (e3:w'.heap[a3.block]?=w.heap[a3.block]?) (e4:w'.heap[a4.block]?=w.heap[a4.block]?) :
  w'.cell? a1=MI v1/\w'.cell? a2=MI v2/\w'.cell? a3=MI v3/\w'.cell? a4=MI v4/\w'.frozen? a2=false :=
 ⟨(NG e1).trans h1,(NG e2).trans h2,(NG e3).trans h3,(NG e4).trans h4,(OM e2).trans hf⟩
theorem WZ.If{w:MO}{base:Nat}{v:M7}{vs:List M7}{ls:List (List Tm)}{row:Option Nat}(h:WZ w base v vs ls)(hg:w.grownBy w' row)(ho:∀u∈v::vs,∀g,u.ownBlock=MI g->MI g≠row):WZ w' base v vs ls:=by
 refine⟨W8 h.row fun g hg'=>hg.block g (h.row.lt g hg').2 (ho v (NM ..) g hg'),⟨h.each.1,fun i h1 h2=>?_⟩,h.apart⟩;have d:=h.each.2 i h1 h2;exact W8 d fun g hg'=>hg.block g (d.lt g hg').2 (ho _ (NB _ (Nk h1)) g hg')
def adO(w:MO)(vs:List M7)(T B M g:Nat):Prop:=g<w.heap.size/\g≠T/\g≠B/\g≠M/\∀u∈vs,u.ownBlock≠MI g
theorem ajG(base T B M n:Nat)(now:Int)(vs:List M7)(ls:List (List Tm))(f:Int->Option Int)(ta td:Int)(i j:Nat)(w:MO)(hB:Xo w)(hT:WM w base T B M n now vs ls f)(hb0:0<base)(hbase:base<=w.heap.size)(hn:0<=now)(hn2:now<=1099511627776)(hnn:n<NE)
  (hi:i<25) (hta:0<=ta/\ta<=4398046511104) (htd:(N6 ME td).wf=Nw) (hpl:Xq ta now=i) (l:List Tm) (hl:ls[i]?=MI l) (hll:l.length<=1048576) (hj:j<=l.length)
  (h1:∀k (hk:k<l.length),k<j->Xe l[k] (ta,td)<0) (h2:∀k (hk:k<l.length),j<=k->¬Xe l[k] (ta,td)<0) :
  Ni MK 176 #[Na (MI ⟨T,0,MH⟩),Ny #[MF ME ta,MF ME td]] w fun r w'=>r=MN (Nv #[])/\∃vs',WM w' base T B M (n+1) now vs' (ls.set i (YA l (ta,td) j)) (aex f td i)/\MQ base w w'/\∀g,adO w vs T B M g->w'.heap[g]?=w.heap[g]?/\adO w' vs' T B M g:=by
 have XY:=XY;obtain⟨t0,t1,t2,e7⟩:=YS hT.box;have f8:i<ls.length:=by rw[hT.len];exact hi
 obtain⟨u,O,b8⟩:=aet hT.own i f8;have i5:=aes hT.own hT.len i f8 u O;have i8:=hl;rw[MR f8]at hl;rw[NC hl]at b8;have j8:B<w.heap.size:=(hT.own.row.lt B rfl).2;obtain⟨s,V⟩:∃s,s=w.alloc (MP #[MF ME ta,MF ME td] 166):=⟨_,rfl⟩;have U:MQ w.heap.size w s:=by rw[V];exact(MY _ _).alloc (MV _) _
 have e8:w.heap.size<s.heap.size:=by rw[V];simp
 have j7:T<s.heap.size:=by omega
 have g6:B<s.heap.size:=by omega
 have c1:s.cell? ⟨w.heap.size,0,MH⟩=MI (MF ME ta):=by rw[V];simp
 have c2:s.cell? ⟨w.heap.size,1,MH⟩=MI (MF ME td):=by rw[V];simp
 have c3:s.cell? ⟨T,0,MH⟩=MI (MF ME now):=(U.cell (p:=⟨T,0,MH⟩) e7).trans t0;have c4:s.cell? ⟨T,1,MH⟩=MI (MG (MI ⟨B,0,MH⟩) 25 25):=(U.cell (p:=⟨T,1,MH⟩) e7).trans t1;have c5:s.cell? ⟨B,i,MH⟩=MI u:=(U.cell (p:=⟨B,i,MH⟩) j8).trans i5;have l0:M6 (∀q,Ni MK 200 #[MF ME ta,MF ME now] (s.drewN q) fun e w'=>e=MN (MF ME (i:Int))/\∃m,w'=(s.drewN q).drewN m):=fun q=>by
  rw[<-hpl];exact ajD ta now _ ((hB.below U).IQ q) hta.1 hta.2 hn (by omega)
 have d:M6 (_/\_/\_/\_/\_/\_):=⟨hT,b8,U,h1,h2,i8⟩;have HW:M6 _:=V;obtain⟨p,c,rfl⟩:=Y6 b8;clear hT b8 U h1 h2 V hB t0 t1 t2 hl i8 i5 hpl;have m4:(i:Int)<25:=by omega
 go_enter Tryz.func176,Tryz.ntmps176
 go_wp2_with fail
 rw[<-HW.out]
 go_quiet ((go_at_call 200;exact Qe (l0.out _)))
 have L:MQ s.heap.size s (s.drewN nq):=ajp (MY _ _) nq;generalize s.drewN nq=w3 at L⊢;have d1:=(L.cell (p:=⟨w.heap.size,0,MH⟩) e8).trans c1;have d2:=(L.cell (p:=⟨w.heap.size,1,MH⟩) e8).trans c2;have d4:=(L.cell (p:=⟨T,1,MH⟩) j7).trans c4;have d5:=(L.cell (p:=⟨B,i,MH⟩) g6).trans c5;have g4:MQ w.heap.size w w3:=d.out.2.2.1.trans (L.mono d.out.2.2.1.size);have Y:M6 (_/\_):=⟨L,g4⟩;clear L g4 c1 c2 c3 c4 c5;have f9:∀W:MO,MQ w3.heap.size w3 W->Ni MK 216 #[MG p l.length c,Ny #[MF ME ta,MF ME td],PB (PD 217) #[] #[]] W fun r w'=>∃b,r=MN (Nv #[MF ME j,M3 b])/\MQ W.heap.size W w':=fun W hW =>
  awl _ l ta td j W (Yr (W8 d.out.2.1 fun g hg=>(hW.block g (M8 (d.out.2.1.lt g hg).2 Y.out.2.size)).trans (Y.out.2.block g (d.out.2.1.lt g hg).2))) hj d.out.2.2.2.1 (fun k hk hjk=>by have:=d.out.2.2.2.2.1 k hk hjk;omega) (by omega)
 have HS:M6 _:=f9;clear f9
 go_wp2_with fail
 go_region_held3 (fun W=>W.cell? ⟨w.heap.size,0,MH⟩=MI (MF ME ta)/\W.cell? ⟨w.heap.size,1,MH⟩=MI (MF ME td)/\W.cell? ⟨T,1,MH⟩=MI (MG (MI ⟨B,0,MH⟩) 25 25)/\W.cell? ⟨B,i,MH⟩=MI (MG p l.length c)/\MQ w3.heap.size w3 W) (first|exact adb d1 d2 d4 d5 ((MY _ _).drew)|exact adb d1 d2 d4 d5 (Za c8)) (first|(go_at_call 216;refine(HS.out _ ((MY _ _).drew)).mono ?_;rintro r o ⟨bb,rfl,c8⟩))
 have K:MQ w.heap.size w o:=Y.out.2.trans ((Za c8).mono Y.out.2.size);have Z:MQ w3.heap.size w3 o:=Za c8;have C:=d.out.1.below K;have c9:=W8 d.out.2.1 fun g hg=>K.block g (d.out.2.1.lt g hg).2
 have l9:=K.size;have l5:=Z.size;have g7:w.heap.size<w3.heap.size:=M8 e8 Y.out.1.size;have e1:=(Z.cell (p:=⟨w.heap.size,0,MH⟩) g7).trans d1;have e2:=(Z.cell (p:=⟨w.heap.size,1,MH⟩) g7).trans d2;have e4:=(K.cell (p:=⟨T,1,MH⟩) e7).trans (YS d.out.1.box).2.1;have e5:=(Z.cell (p:=⟨B,i,MH⟩) (M8 g6 Y.out.1.size)).trans d5;have e6:o.frozen? ⟨B,i,MH⟩=false:=by
  have h8:=C.own.row;rw[C.len]at h8;exact h8.frozenAt i
 have b5:(MG p l.length c).ownBlock≠MI T:=d.out.1.offT _ (NB _ (Nu O));have b4:(MG p l.length c).ownBlock≠MI M:=d.out.1.offM _ (NB _ (Nu O));have c7:(MG p l.length c).ownBlock≠MI B:=fun e=>(List.pairwise_cons.1 d.out.1.own.apart).1 _ (Nu O) B rfl e
 have a0:(MG p l.length c).ownBlock≠MI w.heap.size:=fun e=>by have:=(d.out.2.1.lt _ e).2;omega
 have h7:(MG p l.length c).ownBlock≠MI o.heap.size:=fun e=>by have:=(d.out.2.1.lt _ e).2;omega
 obtain⟨I,R⟩:∃I,I=(o.alloc (MP #[MF ME ta,MF ME td] 166)).drew:=⟨_,rfl⟩;have D:MQ o.heap.size o I:=by rw[R];exact((MY _ _).alloc (MV _) _).drew
 have d7:Ni MK 218 #[MG p l.length c,MF ME j,MG (MI ⟨o.heap.size,0,MH⟩) 1 1] I (afs base (MG p l.length c) l (ta,td) j I):=
  avZ base _ l ta td j o.heap.size I (W8 c9 fun g hg=>D.block g (c9.lt g hg).2) (by have:=D.size;omega) hj h7 (by rw[R];exact M1 o _) (by omega)
 rw[R]at d7;have G:∀W:MO,I.grownBy W (MG p l.length c).ownBlock->∀k,k<o.heap.size->(MG p l.length c).ownBlock≠MI k->W.heap[k]?=o.heap[k]?:=fun W hg k hk hne =>
  (hg.block k (M8 hk D.size) (fun e=>hne e.symm)).trans (D.block k hk)
 have i9:∀W:MO,((o.alloc (MP #[MF ME ta,MF ME td] 166)).drew).grownBy W (MG p l.length c).ownBlock->W.cell? ⟨w.heap.size,0,MH⟩=MI (MF ME ta)/\W.cell? ⟨B,i,MH⟩=MI (MG p l.length c)/\W.cell? ⟨w.heap.size,1,MH⟩=MI (MF ME td)/\W.cell? ⟨T,1,MH⟩=MI (MG (MI ⟨B,0,MH⟩) 25 25)/\W.frozen? ⟨B,i,MH⟩=false:=fun W hg=>by
  rw[<-R]at hg;exact avS e1 e5 e2 e4 e6 (G W hg _ (by show w.heap.size<_;omega) a0) (G W hg _ (by show B<_;omega) c7) (G W hg _ (by show w.heap.size<_;omega) a0) (G W hg _ (by show T<_;omega) b5)
 have J:M6 (_/\_/\_/\_/\_/\_/\_):=⟨d7,i9,G,C,K,R,D⟩;clear d7 i9 G C K Z c9 d1 d2 d4 d5 b5 b4 c7 a0 h7 c8 R D;have k7:T≠B:=fun e=>d.out.1.offT _ (NM ..) (by rw[e];rfl)
 have d6:T<o.heap.size:=by omega
 have l3:B<o.heap.size:=by omega
 have j9:w.heap.size<o.heap.size:=by omega
 have i3:((o.alloc (MP #[MF ME ta,MF ME td] 166)).drew).cell? ⟨T,1,MH⟩=MI (MG (MI ⟨B,0,MH⟩) 25 25):=(NG (a:=⟨T,1,MH⟩) (Ov o _ T d6)).trans e4;have HE:M6 _:=i3;clear i3
 go_upto_region 3 with fail
 go_cut []from 28 to 46 (fun wx=>∃N A H,N.ownsRow base 166 2 (MG (MI ⟨A,0,MH⟩) (l.length+1) H) (l.length+1) (WP (YA l (ta,td) j))/\((o.alloc (MP #[MF ME ta,MF ME td] 166)).drew).grownBy N (MG p l.length c).ownBlock/\((MG p l.length c).ownBlock=MI A\/((o.alloc (MP #[MF ME ta,MF ME td] 166)).drew).heap.size<=A)/\wx=N.setCell ⟨B,i,MH⟩ (MG (MI ⟨A,0,MH⟩) (l.length+1) H))
 case first =>
  go_region_with (first|(go_at_call 218;refine J.out.1.mono ?_;rintro r N ⟨A,H,rfl,b7,E,P⟩;obtain⟨s1,s2,s3,s4,s5⟩:=J.out.2.1 _ E))
  all_goals
   go_wp2_with fail
   go_meet
   exact⟨N,A,H,b7,E,P,rfl⟩
 case rest =>
 obtain⟨N,A,H,b7,E,P,rfl⟩:=hcut;rw[<-J.out.2.2.2.2.2.1]at E P;have G:=J.out.2.2.1 N E;have D:=J.out.2.2.2.2.2.2;have C:=J.out.2.2.2.1;have b5:(MG p l.length c).ownBlock≠MI T:=d.out.1.offT _ (NB _ (Nu O));have b4:(MG p l.length c).ownBlock≠MI M:=d.out.1.offM _ (NB _ (Nu O));have a0:(MG p l.length c).ownBlock≠MI w.heap.size:=fun e=>by have:=(d.out.2.1.lt _ e).2;omega
 have j5:M<o.heap.size:=C.map.lt;have k5:M≠B:=fun e=>d.out.1.offM _ (NM ..) (by rw[e];rfl)
 have d6:T<o.heap.size:=by omega
 obtain⟨v,b6⟩:∃v,v=N.setCell ⟨B,i,MH⟩ (MG (MI ⟨A,0,MH⟩) (l.length+1) H):=⟨_,rfl⟩;have h6:∀k,k<o.heap.size->(MG p l.length c).ownBlock≠MI k->k≠B->v.heap[k]?=o.heap[k]?:=fun k hk hne c7=>by
  rw[b6,MU _ _ _ _ c7];exact G k hk hne
 have d9:v.heap[T]?=MI (MP #[MF ME now,MG (MI ⟨B,0,MH⟩) 25 25,P0 (MI M)] 244 (0,0)):=(h6 T d6 b5 k7).trans C.box;have i4:aaj v M n f:=C.map.Gf (h6 M j5 b4 k5);have k0:v.cell? ⟨w.heap.size,1,MH⟩=MI (MF ME td):=(NG (a:=⟨w.heap.size,1,MH⟩) (h6 _ j9 a0 (Nat.ne_of_gt (d.out.1.own.row.lt B rfl).2))).trans e2;obtain⟨w7,m3,j3,j4⟩:=aaj.Gd (w:=v.drew) (i4.Gf rfl) hnn htd (show(N6 ME (i:Int)).wf=Nw from aez (by omega) (by omega));have g3:WZ v base (MG (MI ⟨B,0,MH⟩) 25 25) (vs.set i (MG (MI ⟨A,0,MH⟩) (l.length+1) H)) (ls.set i (YA l (ta,td) j)):=by
  rw[b6];refine WZ.Gd (w:=I) (C.own.below D) C.len (by rw[C.len];exact hi) O E (by rw[avY];exact b7) (fun g hg=>?_);obtain rfl:A=g:=NC hg;exact P
 have l4:=D.size;have b9:∀X,(MG p l.length c).ownBlock≠MI X->X<o.heap.size->(∀x∈MG (MI ⟨B,0,MH⟩) 25 25::vs,x.ownBlock≠MI X)->∀x∈MG (MI ⟨B,0,MH⟩) 25 25::vs.set i (MG (MI ⟨A,0,MH⟩) (l.length+1) H),x.ownBlock≠MI X:=fun X hX hXl ho x F=>by
  rcases List.mem_cons.1 F with rfl|F
  ·exact ho _ (NM ..)
  ·rcases OB F with h|rfl
   ·exact ho x (NB _ h)
   ·intro e
    obtain rfl:A=X:=NC e;rcases P with h|h
    ·exact hX h
    ·omega
 have hY:MQ base w v:=by
  have K:=J.out.2.2.2.2.1;have i7:=(d.out.1.own.row.lt B rfl).1;have k8:MQ base w I:=((K.mono hbase).trans (D.mono (by omega)));rw[b6];refine(k8.grown E (by omega) (fun k hk=>(d.out.2.1.lt k hk).1)).setCell ?_ _;exact i7
 have Q:M6 (MQ base w v):=hY;clear hY;obtain⟨m0,l8,l6,j6⟩:=YS d9;have l1:w.heap.size<v.heap.size:=MX v ⟨w.heap.size,1,MH⟩ k0;have z:M6 (_/\_/\_/\_/\_/\_):=⟨d9,j3,j4,g3,h6,P⟩;rw[<-b6];clear d9 i4 j3 j4 g3 h6 b6 G D C b7 E P e1 e2 e4 e5 e6
 go_wp2_with fail
 go_region
 go_end0
 refine⟨rfl,vs.set i (MG (MI ⟨A,0,MH⟩) (l.length+1) H),⟨?_,?_,?_,?_,?_,d.out.1.hT,d.out.1.hM,d.out.1.hTM,?_⟩,?_,fun g hg=>?_⟩
 ·exact(z.out.2.2.1.block T j6 (fun e=>d.out.1.hTM (NC e))).trans z.out.1
 ·refine(z.out.2.2.2.1.Gf (w':=v.drew) fun _ _ _=>rfl).If z.out.2.2.1 fun x F g hg e=>?_
  obtain rfl:g=M:=NC e;exact b9 g b4 (by omega) d.out.1.offM x F hg
 ·exact z.out.2.1
 ·exact fun x F=>b9 T b5 (by omega) d.out.1.offT x F
 ·exact fun x F=>b9 M b4 (by omega) d.out.1.offM x F
 ·rw[NA];exact d.out.1.len
 ·refine⟨z.out.2.2.1.os.trans Q.out.os,z.out.2.2.1.tape.trans Q.out.tape,z.out.2.2.1.output.trans Q.out.output,Nm Q.out.size z.out.2.2.1.size,fun k hk=>?_⟩
  have l7:=d.out.1.hM;have i7:=(d.out.1.own.row.lt B rfl).1;rw[z.out.2.2.1.block k (M8 hk (Nm hbase Q.out.size)) (fun e=>by have:=NC e;omega)];exact Q.out.block k hk
 ·obtain⟨d8,k9,e9,i6,E⟩:=hg
  have h9:(MG p l.length c).ownBlock≠MI g:=E _ (Nu O);have g8:g<o.heap.size:=M8 d8 J.out.2.2.2.2.1.size;have k6:v.heap[g]?=w.heap[g]?:=(z.out.2.2.2.2.1 g g8 h9 e9).trans (J.out.2.2.2.2.1.block g d8);have g9:g<v.heap.size:=M8 d8 Q.out.size;refine⟨(z.out.2.2.1.block g g9 (fun e=>i6 (NC e))).trans k6,M8 g9 z.out.2.2.1.size,k9,e9,i6,fun x F=>b9 g h9 g8 (fun y hy=>?_) x (NB _ F)⟩;rcases List.mem_cons.1 hy with rfl|hy
  ·exact fun e=>e9 (NC e).symm
  ·exact E y hy
end
section
open Go.Sort (grow grow_empty grow_grow alloc_eq_grow cell?_grow heap_grow_old)
theorem anH{l:List Tm}(h:l.Pairwise (fun a b=>Xe a b<0))(hb:acz l t=Nw):∀x∈l,Xe x t<0:=by
 unfold acz at hb;cases hl:l.getLast? with
 |none=>rw[List.getLast?_eq_none_iff]at hl;subst hl;intro x d;cases d
 |some y =>
  rw[hl]at hb;have e:Xe y t<0:=M2 hb;obtain⟨i,rfl⟩:=List.getLast?_eq_some_iff.1 hl;intro x d;rcases List.mem_append.1 d with d|d
  ·exact aef ((List.pairwise_append.1 h).2.2 x d y (List.mem_singleton.2 rfl)) e
  ·rw[List.mem_singleton.1 d];exact e
theorem avI{l:List Tm}(h:∀x∈l,Xe x t<0):acz l t=true:=by
 unfold acz;cases hl:l.getLast? with
 |none=>rfl
 |some y=>exact Nq (h y (List.mem_of_getLast? hl))
theorem ajI{w:MO}{b c0 c1 c2:M7}{T:NU}(h:w.heap[g]?=MI (MP #[a,b,c] T (0,0))):(((w.setCell ⟨g,0,MH⟩ c0).setCell ⟨g,1,MH⟩ c1).setCell ⟨g,2,MH⟩ c2).heap[g]?=MI (MP #[c0,c1,c2] T (0,0)):=
 NI _ _ 2 _ _ c2 (NI _ _ 1 _ _ c1 (NI w g 0 _ _ c0 h))
theorem awd(now:Int):Ok now (Nj 25 []):=by
 refine⟨by simp,fun i l hl t ht=>?_,fun l hl=>?_,by simp⟩
 ·rw[Pj]at hl
  split at hl
  ·rw[<-NC hl]at ht;cases ht
  ·cases hl
 ·rw[(List.mem_replicate.1 hl).2];exact .nil
theorem avM:Z7 (fun _=>MH) (Nj 25 []):=by
 refine⟨fun i l hl t ht=>?_,fun id _=>rfl⟩;rw[Pj]at hl
 split at hl
 ·rw[<-NC hl]at ht;cases ht
 ·cases hl
theorem av5(w:MO):aaj (w.alloc (.map #[] 0)) w.heap.size 0 (fun _=>MH):=by
 exact⟨.map [],World.ownsMap_made w _ _ _,fun id hid=>⟨rfl,fun x hx=>by cases hx⟩⟩
theorem awo(v:M7)(now:Int)(ls:List (List Tm))(w:MO)(hx:Zo w v ls)(h:¬((0<=now/\now<=1099511627776)/\ls.length=25)) :
  Ni MK 155 #[Ny #[MF ME now,v]] w fun r w'=>MQ w.heap.size w w'/\r=MN (Nv #[Ny #[MF ME 0,MG MH 0 0,P0 MH],M3 Nb]):=by
 obtain⟨a,o,rfl,n,d,i⟩:=hx.F6;clear i;unfold NE at d;cases ht:Nn (0<=now/\now<=1099511627776)
 ·clear h
  go_enter ayv,ayr
  go_wp2_with fail
  refine(agV _ _).mono ?_;rw[ht];rintro r j ⟨rfl,rfl⟩;go_wp2;refine Np (v:=Nv #[Ny #[MF ME 0,MG MH 0 0,P0 MH],M3 Nb]) (by simp[Pf,Rc,go_sem]) rfl ⟨?_,rfl⟩;exact((MY _ _).alloc (MV _) _).alloc (by simp) _
 ·have l:((ls.length:Int) != 25)=true:=by
   have:ls.length≠25:=fun e=>h ⟨M2 ht,e⟩
   simp[bne_iff_ne];omega
  clear h;go_enter ayv,ayr
  go_wp2_with fail
  refine(agV _ _).mono ?_;rw[ht];rintro r j ⟨rfl,rfl⟩;go_wp2;refine Np (v:=Nv #[Ny #[MF ME 0,MG MH 0 0,P0 MH],M3 Nb]) (by simp[Pf,Rc,go_sem]) rfl ⟨?_,rfl⟩;exact((MY _ _).alloc (MV _) _).alloc (by simp) _
def avz(now:Int)(ls:List (List Tm))(w:MO)(r:Ending)(w':MO):Prop :=
 MQ w.heap.size w w'/\((Ok now ls/\∃T B M n vs f,r=MN (Nv #[Ny #[MF ME now,MG (MI ⟨B,0,MH⟩) 25 25,P0 (MI M)],M3 Nw])/\WM w' (w.heap.size+2) T B M n now vs ls f/\Z7 f ls/\n<=26214400) \/
  (¬Ok now ls/\r=MN (Nv #[Ny #[MF ME 0,MG MH 0 0,P0 MH],M3 Nb])))
theorem awp(v:M7)(now:Int)(ls:List (List Tm))(w:MO)(hB:Xo w)(hx:Zo w v ls)(hn:0<=now)(hn2:now<=1099511627776)(h25:ls.length=25)(hlen:∀l∈ls,l.length<=1048576) :
  Ni MK 155 #[Ny #[MF ME now,v]] w (avz now ls w):=by
 obtain⟨a,ca,rfl,j8,j4,pa⟩:=hx.F6;unfold NE at j4;have ht:Nn (0<=now/\now<=1099511627776)=true:=Nq ⟨hn,hn2⟩;have j9:=hB.lt;have HX:M6 (_/\_/\_/\_):=⟨pa,hB,hlen,h25⟩;rw[h25]at j8⊢;clear pa hB hlen h25 hx;go_enter ayv,ayr
 go_wp2_with fail
 refine(agV _ _).mono ?_;rw[ht];rintro r D ⟨rfl,rfl⟩
 go_wp2_with fail
 refine(anL _ _).mono ?_;rintro r D ⟨rfl,R,b9,P⟩;have i7:((w.alloc (MP #[MF ME now,MG a 25 ca] 59)).alloc (MP #[MF ME 0,MG MH 0 0,P0 MH] 244)).heap.size=w.heap.size+2:=by simp
 rw[i7]at R b9 P⊢;obtain⟨H,hH⟩:∃H,H=w.heap.size+2:=⟨_,rfl⟩;rw[<-hH]at R b9 P⊢;have b7:D.heap[w.heap.size]?=MI (MP #[MF ME now,MG a 25 ca] 59 (0,0)):=(P.block _ (by omega)).trans (Xy _ _ (M1 _ _));have b4:D.heap[w.heap.size+1]?=MI (MP #[MF ME 0,MG MH 0 0,P0 MH] 244 (0,0)):=(P.block _ (by omega)).trans (Yu _ _ _);have b5:MQ w.heap.size w D:=(((MY _ _).alloc (MV _) _).alloc (by simp) _).trans (P.mono (by omega));obtain⟨c0,c1,_,_,j3⟩:=Xa b7;have HW:M6 (_/\_/\_/\_/\_/\_):=⟨R,P,b7,b4,b5,hH⟩;clear R P b7 b4 b5 i7 hH;have k8:∀W:MO,(Instr.makeMap 242 MH).run MK W=.ok (P0 (MI W.heap.size)) (W.alloc (.map #[] 0)):=fun _=>rfl
 have c3:((D.alloc (.map #[] 0)).alloc (MP #[MF ME now,MG (MI ⟨H+1,0,MH⟩) 25 25,P0 (MI (H+2))] 244)).cell? ⟨w.heap.size,1,MH⟩=MI (MG a 25 ca):=
  ((((MY _ D).alloc (MV _) (.map #[] 0)).alloc (by simp) (MP #[MF ME now,MG (MI ⟨H+1,0,MH⟩) 25 25,P0 (MI (H+2))] 244)).cell (p:=⟨w.heap.size,1,MH⟩) j3).trans c1
 go_wp2
 go_loopw [28] (fun i wr=>∃(k n:Nat) (B:List M7) (f:Int->Option Int),i=MF ME k/\k<=25/\WM wr (w.heap.size+2) (H+2+1) (H+1) (H+2) n now B (YG ls k 0) f/\Z7 f (YG ls k 0)/\Ok now (YG ls k 0)/\n<=k*1048576/\MQ w.heap.size w wr/\wr.heap[w.heap.size+1]?=MI (MP #[MF ME 0,MG MH 0 0,P0 MH] 244 (0,0))) (fun i _=>25-(On i).toNat)
 case atStart =>
  obtain⟨R,P,b7,b4,b5,hH⟩:=HW.out;refine⟨0,0,Nj 25 (MG MH 0 0),fun _=>MH,rfl,by omega,?_,?_,?_,by omega,?_,?_⟩
  ·rw[ajC]
   have j5:MQ D.heap.size D ((D.alloc (.map #[] 0)).alloc (MP #[MF ME now,MG (MI ⟨H+1,0,MH⟩) 25 25,P0 (MI (H+2))] 244)):=((MY _ D).alloc (MV _) _).alloc (by simp) _;have hm:=av5 D;rw[b9]at hm;refine⟨?_,(R.below j5).GV (by omega),hm.Gf (Ov _ _ _ (by simp;omega)),fun u J e=>?_,fun u J e=>?_,by omega,by omega,by omega,by simp⟩
   ·have:=Yu D (.map #[] 0) (MP #[MF ME now,MG (MI ⟨H+1,0,MH⟩) 25 25,P0 (MI (H+2))] 244)
    rw[b9]at this;exact this
   ·rcases List.mem_cons.1 J with rfl|J
    ·have:=NC e;simp at this
    ·rw[(List.mem_replicate.1 J).2]at e;cases e
   ·rcases List.mem_cons.1 J with rfl|J
    ·have:=NC e;simp at this
    ·rw[(List.mem_replicate.1 J).2]at e;cases e
  ·rw[ajC];exact avM
  ·rw[ajC];exact awd now
  ·exact(b5.alloc (by omega) _).alloc (by simp;omega) _
  ·exact Xy _ _ (Xy _ _ b4)
 case round =>
  obtain⟨k,n,B,f,rfl,hk,F,L,G,N,b8,y⟩:=hrel;obtain⟨w2,j6⟩:∃w2,w2=wr:=⟨_,rfl⟩;subst j6
  by_cases hlt:k<25
  ·have k9:Nn ((k:Int)<25)=true:=Nq (by omega)
   have i3:k<ls.length:=by rw[HX.out.2.2.2];exact hlt
   obtain⟨b0,off,u,rfl,d7,cu,J⟩:=HX.out.1 k i3;obtain⟨l,hl⟩:∃l,l=ls[k]:=⟨_,rfl⟩;have e9:ls[k]?=MI l:=by rw[hl];exact MR i3
   rw[<-hl]at J;obtain⟨ul,uc,rfl,k0,j7,pu⟩:=J.F6;unfold NE at j7;have h7:=(b8.cell (p:=⟨b0,off+k,MH⟩) d7).trans cu;have k5:=HX.out.2.2.1 l (Nu e9);have k7:(k:Int)<25:=by omega
   have E:M6 (_/\_/\_/\_/\_/\_/\_/\_):=⟨F,L,G,N,b8,y,pu,e9⟩;clear F L G N y pu hl cu J e9;go_wp2
   go_loopw [35] (fun i wr=>∃(q n:Nat) (B:List M7) (f:Int->Option Int),i=MF ME q/\q<=l.length/\WM wr (w.heap.size+2) (H+2+1) (H+1) (H+2) n now B (YG ls k q) f/\Z7 f (YG ls k q)/\Ok now (YG ls k q)/\n<=k*1048576+q/\MQ w.heap.size w wr/\wr.heap[w.heap.size+1]?=MI (MP #[MF ME 0,MG MH 0 0,P0 MH] 244 (0,0))) (fun i _=>l.length-(On i).toNat)
   case atStart=>exact⟨0,n,B,f,rfl,Nx _,E.out.1,E.out.2.1,E.out.2.2.1,Nat.le_add_right_of_le E.out.2.2.2.1,E.out.2.2.2.2.1,E.out.2.2.2.2.2.1⟩
   case round =>
    obtain⟨q,n,B,f,rfl,hq,F,L,G,N,V,y⟩:=hrel
    by_cases hq2:q<l.length
    ·obtain⟨bu,ou,rfl,i4,p1,p2⟩:=E.out.2.2.2.2.2.2.1 q hq2
     have e1:=(V.cell (p:=⟨bu,ou+q*2,MH⟩) i4).trans p1;have e2:=(V.cell (p:=⟨bu,ou+q*2+1,MH⟩) i4).trans p2;obtain⟨s,d9⟩:∃s,l[q].1=s:=⟨_,rfl⟩;obtain⟨o,f8⟩:∃o,l[q].2=o:=⟨_,rfl⟩;have i8:l[q]=(s,o):=Q8 d9 f8;rw[d9]at e1;rw[f8]at e2;have hg:ls.getD k []=l:=by simp[Pq,E.out.2.2.2.2.2.2.2]
     have c8:(YG ls k q)[k]?=MI (l.take q):=by rw[aeu _ _ _ _ hlt,Nf (PC _),Nh rfl,hg]
     obtain⟨K,T⟩:∃K,K=wr.alloc (MP #[MF ME s,MF ME o] 166):=⟨_,rfl⟩;have Y:MQ wr.heap.size wr K:=by rw[T];exact(MY _ _).alloc (MV _) _
     have i6:Xo K:=(HX.out.2.1.below V).below Y;have a0:=F.below Y;have g3:K.heap[w.heap.size+1]?=MI (MP #[MF ME 0,MG MH 0 0,P0 MH] 244 (0,0)):=(Y.block _ (Array.getElem?_eq_some_iff.1 y).1).trans y;have i5:K.cell? ⟨wr.heap.size,0,MH⟩=MI (MF ME s):=by rw[T];simp
     have g9:K.cell? ⟨wr.heap.size,1,MH⟩=MI (MF ME o):=by rw[T];simp
     have h8:wr.heap.size<K.heap.size:=by rw[T];simp
     have g7:=G.ord (l.take q) (Nu c8);have i9:w.heap.size+2<=K.heap.size:=by have:=a0.hT;have:=(Array.getElem?_eq_some_iff.1 a0.box).1;omega
     have d:M6 (_/\_/\_/\_/\_/\_/\_/\_/\_/\_):=⟨i8,c8,Y,i6,a0,L,G,N,V,g7⟩;have z:M6 (_/\_/\_/\_):=⟨T,g3,i5,g9⟩;clear F L G N y d9 f8 i8 hg c8 p1 p2 Y i6 a0 g3 T i5 g9 g7 h7 d7;cases hgood:(Zg now (s,o) && Nn (Xq s now=(k:Int)) && !(f o).isSome)
     ·have Z:¬Ok now ls:=fun hok=>by
       have Q:=hok.IA E.out.2.2.2.2.2.2.2 hq2;rw[d.out.1]at Q;have h1:(f o).isSome=false:=(d.out.2.2.2.2.2.1.GP o).2 Q.2.2.1;simp[Q.1,Q.2.1,h1]at hgood
      have HN:M6 _:=Z;clear Z
      go_wp2_with fail
      refine(avN (w.heap.size+2) (H+2+1) (H+1) (H+2) n now B (YG ls k q) f s o k _ (by rw[<-z.out.1];exact d.out.2.2.2.1) (by rw[<-z.out.1];exact d.out.2.2.2.2.1) hn hn2 hlt hgood).mono ?_;rw[<-z.out.1];rintro r I ⟨rfl,C⟩;have A:I.heap[w.heap.size+1]?=MI (MP #[MF ME 0,MG MH 0 0,P0 MH] 244 (0,0)):=(C.block _ (by omega)).trans z.out.2.1;obtain⟨z0,z1,z2,z3⟩:=YS A;have y0:I.frozen? ⟨w.heap.size+1,0,MH⟩=false:=by simp[Ng,A]
      have y1:I.frozen? ⟨w.heap.size+1,1,MH⟩=false:=by simp[Ng,A]
      have y2:I.frozen? ⟨w.heap.size+1,2,MH⟩=false:=by simp[Ng,A]
      have O:MQ w.heap.size w I:=((d.out.2.2.2.2.2.2.2.2.1.trans (d.out.2.2.1.mono d.out.2.2.2.2.2.2.2.2.1.size)).trans (C.mono (by omega)));have j:M6 (_/\_):=⟨O,A⟩;clear O A C;go_wp2;have hz:=ajI (c0:=MF ME 0) (c1:=MG MH 0 0) (c2:=P0 MH) j.out.2;obtain⟨x0,x1,x2,_⟩:=YS hz;refine Np (v:=Nv #[Ny #[MF ME 0,MG MH 0 0,P0 MH],M3 Nb]) (by simp[Pf,Rc,go_sem,x0,x1,x2]) rfl ⟨?_,NF ⟨HN.out,rfl⟩⟩;exact((j.out.1.setCell (by simp) _).setCell (by simp) _).setCell (by simp) _
     ·have U:(Zg now (s,o)=Nw/\Xq s now=(k:Int))/\(f o).isSome=false:=by simpa using hgood
      clear hgood;have g6:=aer U.1.1 hn;cases hbe:acz (l.take q) (s,o)
      ·have Z:¬Ok now ls:=fun hok=>by
        have Q:=hok.IA E.out.2.2.2.2.2.2.2 hq2;rw[d.out.1]at Q;rw[avI Q.2.2.2]at hbe;cases hbe
       have HN:M6 _:=Z;clear Z
       go_wp2_with fail
       refine(anN (w.heap.size+2) (H+2+1) (H+1) (H+2) n now B (YG ls k q) f s o k _ (by rw[<-z.out.1];exact d.out.2.2.2.1) (by rw[<-z.out.1];exact d.out.2.2.2.2.1) hn hn2 hlt U.1.1 U.1.2 U.2 (l.take q) d.out.2.1 (by rw[NH];omega)).mono ?_;rw[hbe,<-z.out.1];rintro r I ⟨rfl,C⟩;have A:I.heap[w.heap.size+1]?=MI (MP #[MF ME 0,MG MH 0 0,P0 MH] 244 (0,0)):=(C.block _ (by omega)).trans z.out.2.1;obtain⟨z0,z1,z2,z3⟩:=YS A;have y0:I.frozen? ⟨w.heap.size+1,0,MH⟩=false:=by simp[Ng,A]
       have y1:I.frozen? ⟨w.heap.size+1,1,MH⟩=false:=by simp[Ng,A]
       have y2:I.frozen? ⟨w.heap.size+1,2,MH⟩=false:=by simp[Ng,A]
       have O:MQ w.heap.size w I:=((d.out.2.2.2.2.2.2.2.2.1.trans (d.out.2.2.1.mono d.out.2.2.2.2.2.2.2.2.1.size)).trans (C.mono (by omega)));have j:M6 (_/\_):=⟨O,A⟩;clear O A C;go_wp2;have hz:=ajI (c0:=MF ME 0) (c1:=MG MH 0 0) (c2:=P0 MH) j.out.2;obtain⟨x0,x1,x2,_⟩:=YS hz;refine Np (v:=Nv #[Ny #[MF ME 0,MG MH 0 0,P0 MH],M3 Nb]) (by simp[Pf,Rc,go_sem,x0,x1,x2]) rfl ⟨?_,NF ⟨HN.out,rfl⟩⟩;exact((j.out.1.setCell (by simp) _).setCell (by simp) _).setCell (by simp) _
      ·have M:M6 (_/\_):=⟨U,g6⟩
       clear U g6
       go_wp2_with fail
       refine(anN (w.heap.size+2) (H+2+1) (H+1) (H+2) n now B (YG ls k q) f s o k _ (by rw[<-z.out.1];exact d.out.2.2.2.1) (by rw[<-z.out.1];exact d.out.2.2.2.2.1) hn hn2 hlt M.out.1.1.1 M.out.1.1.2 M.out.1.2 (l.take q) d.out.2.1 (by rw[NH];omega)).mono ?_;rw[hbe,<-z.out.1];rintro r I ⟨rfl,C⟩;have g1:=(C.cell (p:=⟨wr.heap.size,0,MH⟩) h8).trans z.out.2.2.1;have g2:=(C.cell (p:=⟨wr.heap.size,1,MH⟩) h8).trans z.out.2.2.2;have g8:=anH d.out.2.2.2.2.2.2.2.2.2 hbe;have HP:M6 (∀W:MO,MQ K.heap.size K W->Ni MK 176 #[Na (MI ⟨H+2+1,0,MH⟩),Ny #[MF ME s,MF ME o]] W fun r w'=>r=MN (Nv #[])/\∃b6,WM w' (w.heap.size+2) (H+2+1) (H+1) (H+2) (n+1) now b6 ((YG ls k q).set k (YA (l.take q) (s,o) (l.take q).length)) (aex f o k)/\MQ (w.heap.size+2) W w'/\∀g,adO W B (H+2+1) (H+1) (H+2) g->w'.heap[g]?=W.heap[g]?/\adO w' b6 (H+2+1) (H+1) (H+2) g):=fun W hW =>
        ajG (w.heap.size+2) (H+2+1) (H+1) (H+2) n now B (YG ls k q) f s o k (l.take q).length W (d.out.2.2.2.1.below hW) (d.out.2.2.2.2.1.below hW) (by omega) (Nm i9 hW.size) hn hn2 (by have:=d.out.2.2.2.2.2.2.2.1;unfold NE;omega) hlt ⟨M.out.2.1,M.out.2.2.1⟩ M.out.2.2.2 M.out.1.1.2 (l.take q) d.out.2.1 (by rw[NH];omega) (MV _) (fun a ha _=>g8 _ (Nk ha)) (fun a ha h=>absurd ha (by omega))
       have c9:M6 _:=C;clear C g8
       go_wp2_with fail
       refine(HP.out _ c9.out).mono ?_;rintro r w5 ⟨rfl,b6,e8,d6,_⟩;have g4:(YG ls k q).set k (YA (l.take q) (s,o) (l.take q).length)=YG ls k (q+1):=by
        rw[<-d.out.1];exact awi ls k q hlt l E.out.2.2.2.2.2.2.2 hq2
       have c7:=(d.out.2.2.2.2.2.1.GP o).1 M.out.1.2;have d8:=d.out.2.2.2.2.2.2.1.ID d.out.2.1 (t:=(s,o)) M.out.1.1.1 M.out.1.1.2 c7 (l.take q).length (by rw[NT];exact anH d.out.2.2.2.2.2.2.2.2.2 hbe) (by rw[List.drop_length];intro x hx;cases hx);have e7:Z7 (aex f o k) _:=d.out.2.2.2.2.2.1.ID d.out.2.1 (t:=(s,o)) c7 (l.take q).length;rw[g4]at e8 d8 e7;have O:MQ w.heap.size w w5:=((d.out.2.2.2.2.2.2.2.2.1.trans (d.out.2.2.1.mono d.out.2.2.2.2.2.2.2.2.1.size)).trans (c9.out.mono (by omega))).trans (d6.mono (by omega));have f9:w5.heap[w.heap.size+1]?=MI (MP #[MF ME 0,MG MH 0 0,P0 MH] 244 (0,0)):=(d6.block _ (by omega)).trans ((c9.out.block _ (by omega)).trans z.out.2.1);have j:M6 (_/\_/\_/\_/\_):=⟨e8,e7,d8,O,f9⟩;clear e8 e7 d8 O f9 d6 g4 c7;go_wp2
       go_roundw
       case rel=>exact⟨q+1,n+1,b6,_,by simp,hq2,j.out.1,j.out.2.1,j.out.2.2.1,Nat.succ_le_succ d.out.2.2.2.2.2.2.2.1,j.out.2.2.2.1,j.out.2.2.2.2⟩
       case measure=>simp[On];omega
    ·obtain rfl:q=l.length:=by omega
     have h9:=awh ls k l E.out.2.2.2.2.2.2.2;rw[h9]at F L G;have j:M6 (_/\_/\_/\_/\_/\_):=⟨F,L,G,N,V,y⟩;clear F L G N y h9 h7 d7;go_wp2
     go_roundw
     case rel=>exact⟨k+1,n,B,f,by simp,hlt,j.out.1,j.out.2.1,j.out.2.2.1,by have:=j.out.2.2.2.1;omega,j.out.2.2.2.2.1,j.out.2.2.2.2.2⟩
     case measure=>simp[On];omega
  ·obtain rfl:k=25:=by omega
   rw[awe ls HX.out.2.2.2]at F L G;obtain⟨t0,t1,t2,k6⟩:=YS F.box;obtain⟨z0,z1,z2,z3⟩:=YS y;have y0:w2.frozen? ⟨w.heap.size+1,0,MH⟩=false:=by simp[Ng,y]
   have y1:w2.frozen? ⟨w.heap.size+1,1,MH⟩=false:=by simp[Ng,y]
   have y2:w2.frozen? ⟨w.heap.size+1,2,MH⟩=false:=by simp[Ng,y]
   have j:M6 (_/\_/\_/\_/\_/\_):=⟨F,L,G,N,b8,y⟩;clear F L G N b8 y;go_wp2;have hz:=ajI (c0:=MF ME now) (c1:=MG (MI ⟨H+1,0,MH⟩) 25 25) (c2:=P0 (MI (H+2))) j.out.2.2.2.2.2;obtain⟨x0,x1,x2,_⟩:=YS hz;refine Np (v:=Nv #[Ny #[MF ME now,MG (MI ⟨H+1,0,MH⟩) 25 25,P0 (MI (H+2))],M3 Nw]) (by simp[Pf,Rc,go_sem,x0,x1,x2]) rfl ⟨?_,Nt ⟨j.out.2.2.1,H+2+1,H+1,H+2,n,B,f,rfl,?_,j.out.2.1,j.out.2.2.2.1⟩⟩
   ·exact((j.out.2.2.2.2.1.setCell (by simp) _).setCell (by simp) _).setCell (by simp) _
   ·refine j.out.1.Gf fun g hg _=>?_
    rw[MU _ _ _ _ (by simp;omega),MU _ _ _ _ (by simp;omega),MU _ _ _ _ (by simp;omega)]
end
section
open Go.Sort (grow grow_empty grow_grow alloc_eq_grow cell?_grow heap_grow_old)
def Y9(now:Int)(ls:List (List Tm)):Prop:=(0<=now/\now<=1099511627776)/\Ok now ls
def avA(now:Int)(ls:List (List Tm))(w:MO)(r:Ending)(w':MO):Prop :=
 MQ w.heap.size w w'/\((Y9 now ls/\∃T B M n vs f,r=MN (Nv #[Ny #[MF ME now,MG (MI ⟨B,0,MH⟩) 25 25,P0 (MI M)],M3 Nw])/\WM w' (w.heap.size+2) T B M n now vs ls f/\Z7 f ls/\n<=26214400) \/
  (¬Y9 now ls/\r=MN (Nv #[Ny #[MF ME 0,MG MH 0 0,P0 MH],M3 Nb])))
theorem ajJ(v:M7)(now:Int)(ls:List (List Tm))(w:MO)(hB:Xo w)(hx:Zo w v ls)(hlen:∀l∈ls,l.length<=1048576) :
  Ni MK 155 #[Ny #[MF ME now,v]] w (avA now ls w):=by
 by_cases h:(0<=now/\now<=1099511627776)/\ls.length=25
 ·refine(awp v now ls w hB hx h.1.1 h.1.2 h.2 hlen).mono fun r w' ht=>⟨ht.1,?_⟩
  rcases ht.2 with⟨e,d⟩|⟨e,d⟩
  ·exact Nt ⟨⟨h.1,e⟩,d⟩
  ·exact NF ⟨fun hm=>e hm.2,d⟩
 ·exact(awo v now ls w hx h).mono fun r w' ht=>⟨ht.1,NF ⟨fun hm=>h ⟨hm.1,hm.2.len⟩,ht.2⟩⟩
theorem WM.Iu{w:MO}{base T B M n:Nat}{now:Int}{vs:List M7}{ls:List (List Tm)}{f:Int->Option Int}(h:WM w base T B M n now vs ls f):WM (w.alloc (MP #[MF ME now,MG (MI ⟨B,0,MH⟩) 25 25,P0 (MI M)] 244)) base w.heap.size B M n now vs ls f:=by
 have q:MQ w.heap.size w (w.alloc (MP #[MF ME now,MG (MI ⟨B,0,MH⟩) 25 25,P0 (MI M)] 244)):=(MY _ _).alloc (MV _) _;have j:=h.below q;have o:∀u∈MG (MI ⟨B,0,MH⟩) 25 25::vs,∀g,u.ownBlock=MI g->g<w.heap.size:=fun u d g hg=>by
  rcases List.mem_cons.1 d with rfl|d
  ·exact(h.own.row.lt g hg).2
  ·obtain⟨i,l,rfl⟩:=NV d
   exact((h.own.each.2 i l (by rw[<-h.own.each.1];exact l)).lt g hg).2
 exact⟨M1 w _,j.own,j.map,fun u d e=>absurd (o u d _ e) (PC _),j.offM,PJ (Pb h.hT (Array.getElem?_eq_some_iff.1 h.box).1),j.hM,fun e=>absurd h.map.lt (by rw[<-e];exact PC _),h.len⟩
def aaX(l:List Tm)(t:Tm):Nat:=(l.takeWhile fun x=>Nn (Xe x t<0)).length
theorem anW(l:List Tm)(t:Tm):aaX l t<=l.length:=by
 unfold aaX;exact(List.takeWhile_sublist _).length_le
theorem agY(l:List Tm)(t:Tm):∀x∈l.take (aaX l t),Xe x t<0:=by
 unfold aaX
 induction l with
 |nil=>intro x d;cases d
 |cons y l ih =>
  by_cases hy:Xe y t<0
  ·rw[Rv (by simpa using hy)]
   intro x d;rcases List.mem_cons.1 (by simpa using d)with rfl|d
   ·exact hy
   ·exact ih x d
  ·rw[Ru (by simpa using hy)]
   intro x d;cases d
theorem agZ{l:List Tm}(h:l.Pairwise (fun a b=>Xe a b<0))(t:Tm):∀x∈l.drop (aaX l t),¬Xe x t<0:=by
 unfold aaX
 induction l with
 |nil=>intro x d;cases d
 |cons y l ih =>
  have i:=List.pairwise_cons.1 h
  by_cases hy:Xe y t<0
  ·rw[Rv (by simpa using hy)]
   simpa using ih i.2
  ·rw[Ru (by simpa using hy)]
   intro x d e;rcases List.mem_cons.1 (by simpa using d)with rfl|d
   ·exact hy e
   ·exact hy (aef (i.1 x d) e)
theorem anJ{a b:Tm}(h:¬Xe a b<0)(hne:a.2≠b.2):Xe b a<0:=by
 rw[acY]at *;omega
def ZK(ls:List (List Tm))(now:Int)(t:Tm):List (List Tm):=ls.set (Xq t.1 now).toNat (YA (ls.getD (Xq t.1 now).toNat []) t (aaX (ls.getD (Xq t.1 now).toNat []) t))
theorem aew{x n:Int}:0<=Xq x n/\Xq x n<25:=by
 unfold Xq
 repeat' split
 all_goals omega
theorem Y9.ID{now:Int}{ls:List (List Tm)}(h:Y9 now ls)(hf:Zg now t=Nw)(hn:∀x∈ls.flatten,x.2≠t.2):Y9 now (ZK ls now t):=by
 have j:=@aew t.1 now;have i:(Xq t.1 now).toNat<ls.length:=by rw[h.2.len];omega
 have d:ls[(Xq t.1 now).toNat]?=MI (ls.getD (Xq t.1 now).toNat []):=by simp[Pq,MR i]
 refine⟨h.1,h.2.ID d hf (by omega) hn _ (agY _ _) fun x hx=>?_⟩;have e:=agZ (h.2.ord _ (Nu d)) t x hx;exact anJ e (hn x (List.mem_flatten.2 ⟨_,Nu d,List.mem_of_mem_drop hx⟩))
theorem avE(v:M7)(now id x:Int)(ls:List (List Tm))(w:MO)(hB:Xo w)(hx:Zo w v ls)(hlen:∀l∈ls,l.length<=1048576)(hm:Y9 now ls)(hid:(N6 ME id).wf=Nw) :
  Ni MK 128 #[Ny #[MF ME now,v],MF ME id,MF ME x] w fun r w'=>MQ w.heap.size w w' /\
   ((Zg now (x,id)=Nb/\r=MN (Nv #[Ny #[MF ME 0,MG MH 0 0],MF ME 2])) \/
     (Zg now (x,id)=Nw/\¬(∀t∈ls.flatten,t.2≠id)/\r=MN (Nv #[Ny #[MF ME 0,MG MH 0 0],MF ME 7])) \/
     (Zg now (x,id)=Nw/\(∀t∈ls.flatten,t.2≠id)/\∃u vs,r=MN (Nv #[Ny #[MF ME now,u],MF ME 0])/\WZ w' w.heap.size u vs (ZK ls now (x,id)))):=by
 obtain⟨a,ca,rfl,_⟩:=hx.F6;have b9:∀W,MQ w.heap.size w W->Xo W/\Zo W (MG a ls.length ca) ls:=fun W h=>⟨hB.below h,hx.below h⟩
 have y:M6 (_/\_/\_):=⟨b9,hlen,hm⟩;have g4:=hB.lt;obtain⟨V,e9⟩:=hm.1;clear b9 hlen hm hx hB;go_enter ayl,ayd
 go_wp2_with fail
 have C:MQ w.heap.size w ((w.alloc (MP #[MF ME now,MG a ls.length ca] 59)).alloc (MP #[MF ME 0,MG MH 0 0] 59)):=((MY _ _).alloc (MV _) _).alloc (by simp) _;refine(ajJ _ now ls _ (y.out.1 _ C).1 (y.out.1 _ C).2 y.out.2.1).mono ?_;rintro r o ⟨U,⟨_,T,B,M,n,vs,f,rfl,hT,hF,e7⟩|⟨h1,_⟩⟩
 ·have hR:o.heap[w.heap.size+1]?=MI (MP #[MF ME 0,MG MH 0 0] 59 (0,0)):=(U.block _ (by simp)).trans (Yu _ _ _)
  have H:=C.trans (U.mono C.size);rw[show((w.alloc (MP #[MF ME now,MG a ls.length ca] 59)).alloc (MP #[MF ME 0,MG MH 0 0] 59)).heap.size+2=w.heap.size+4 by simp]at hT;obtain⟨q,A⟩:∃q,q=(o.alloc (MP #[MF ME now,MG (MI ⟨B,0,MH⟩) 25 25,P0 (MI M)] 244)).alloc (MP #[MF ME x,MF ME id] 166):=⟨_,rfl⟩;have Q:MQ o.heap.size o q:=by rw[A];exact((MY _ _).alloc (MV _) _).alloc (by simp) _
  have O:WM q (w.heap.size+4) o.heap.size B M n now vs ls f:=by rw[A];exact hT.Iu.below ((MY _ _).alloc (MV _) _)
  have d7:=(Q.block _ (Array.getElem?_eq_some_iff.1 hR).1).trans hR;have b8:=H.trans (Q.mono H.size);have R:q.cell? ⟨o.heap.size+1,0,MH⟩=MI (MF ME x):=by rw[A];simp
  have N:q.cell? ⟨o.heap.size+1,1,MH⟩=MI (MF ME id):=by rw[A];simp
  have d6:o.heap.size+1<q.heap.size:=by rw[A];simp
  obtain⟨q0,q1,q2,q3⟩:=YS O.box;have e:M6 (_/\_/\_/\_/\_/\_/\_):=⟨O,hF,e7,d7,b8,A,H⟩;clear hR U C hT hF e7 Q O d7 b8 H A
  go_wp2_with fail
  rw[<-e.out.2.2.2.2.2.1];have i4:=e.out.2.2.2.2.2.2.size;refine(anM x id now _ V e9).mono ?_;cases hfit:Zg now (x,id)
  ·rintro r w3 ⟨rfl,D⟩
   have s:MQ q.heap.size q w3:=by rw[D];exact(MY _ _).alloc (MV _) _
   have z:=(s.block _ (Array.getElem?_eq_some_iff.1 e.out.2.2.2.1).1).trans e.out.2.2.2.1;obtain⟨c0,c1,f0,f1,d8⟩:=Xa z;have j:M6 (_/\_):=⟨z,e.out.2.2.2.2.1.trans (s.mono e.out.2.2.2.2.1.size)⟩;clear D s z q0 q1 q2 q3 R N;go_wp2;obtain⟨F,E⟩:=adR (c:=MF ME 0) (d:=MG MH 0 0) j.out.1;refine Np (v:=Nv #[Ny #[MF ME 0,MG MH 0 0],MF ME 2]) (by simp[Pf,azD,go_sem,F,E]) rfl ⟨?_,Nt ⟨hfit,rfl⟩⟩;exact((j.out.2.setCell (p:=⟨w.heap.size+1,0,MH⟩) (by simp) _).setCell (p:=⟨w.heap.size+1,1,MH⟩) (by simp) _)
  ·rintro r w3 ⟨rfl,D⟩
   have s:MQ q.heap.size q w3:=by rw[D];exact(MY _ _).alloc (MV _) _
   have L:=e.out.1.below s;have b5:=e.out.2.2.2.2.1.trans (s.mono e.out.2.2.2.2.1.size);have z:=(s.block _ (Array.getElem?_eq_some_iff.1 e.out.2.2.2.1).1).trans e.out.2.2.2.1;have d9:=(s.cell (p:=⟨o.heap.size+1,0,MH⟩) d6).trans R;have c7:=(s.cell (p:=⟨o.heap.size+1,1,MH⟩) d6).trans N;obtain⟨c0,c1,f0,f1,d8⟩:=Xa z;obtain⟨p0,p1,Z,p3⟩:=YS L.box;have j:M6 (_/\_/\_):=⟨z,b5,L⟩;clear D s z q0 q1 q2 q3 R N b5 L
   go_wp2_with fail
   refine(aju o.heap.size M n f id _ Z j.out.2.2.map hid).mono ?_;cases hhas:(f id).isSome
   ·rintro r w4 ⟨rfl,rfl⟩
    have a0:=(e.out.2.1.GP id).1 hhas;have f9:=@aew x now;have J:=aer hfit V;obtain⟨i,hi⟩:∃i:Nat,Xq x now=(i:Int):=⟨(Xq x now).toNat,by omega⟩;have b6:i<25:=by omega
    have c8:i<ls.length:=by rw[y.out.2.2.2.len];exact b6
    have G:ls[i]?=MI (ls.getD i []):=by simp[Pq,MR c8]
    have b7:=y.out.2.2.2.ord _ (Nu G);have c9:=y.out.2.1 _ (Nu G);have HP:=ajG (w.heap.size+4) o.heap.size B M n now vs ls f x id i (aaX (ls.getD i []) (x,id)) w4 (y.out.1 _ j.out.2.1).1 j.out.2.2 (by omega) (by have:=(Array.getElem?_eq_some_iff.1 j.out.2.2.box).1;have:=j.out.2.2.hT;omega) V e9 (by have:=e.out.2.2.1;unfold NE;omega) b6 ⟨J.1,J.2.1⟩ hid hi _ G c9 (anW _ _) (fun k hk hkp=>agY _ _ _ (List.mem_take_iff_getElem.2 ⟨k,by omega,rfl⟩)) (fun k hk hkp=>agZ b7 _ _ (List.mem_drop_iff_getElem.2 ⟨k-aaX (ls.getD i []) (x,id),by omega,by congr 1;omega⟩));have Y:M6 (_/\_/\_/\_):=⟨HP,a0,hi,G⟩;clear HP a0 f9 J hi G b7 c9 c8
    go_wp2_with fail
    refine Y.out.1.mono ?_;rintro r w5 ⟨rfl,f8,I,K,_⟩;have P:=(K.block (w.heap.size+1) (by omega)).trans j.out.1;have b4:ls.set i (YA (ls.getD i []) (x,id) (aaX (ls.getD i []) (x,id)))=ZK ls now (x,id):=by
     unfold ZK;rw[show(Xq (x,id).1 now).toNat=i by rw[Y.out.2.2.1];rfl]
    rw[b4]at I;obtain⟨h7,i3,h9,g9,g3⟩:=Xa P;obtain⟨g8,g7,g6,h8⟩:=YS I.box;have HY:M6 (_/\_/\_):=⟨P,I,j.out.2.1.trans (K.mono (by omega))⟩;clear P I K b4 c0 c1 f0 f1 d8 p0 p1 Z p3 d9 c7;go_wp2;obtain⟨F,E⟩:=adR (c:=MF ME now) (d:=MG (MI ⟨B,0,MH⟩) 25 25) HY.out.1;refine Np (v:=Nv #[Ny #[MF ME now,MG (MI ⟨B,0,MH⟩) 25 25],MF ME 0]) (by simp[Pf,azD,go_sem,F,E]) rfl ⟨?_,NF (NF ⟨hfit,Y.out.2.1,_,f8,rfl,?_⟩)⟩
    ·exact((HY.out.2.2.setCell (p:=⟨w.heap.size+1,0,MH⟩) (by simp) _).setCell (p:=⟨w.heap.size+1,1,MH⟩) (by simp) _)
    ·exact(HY.out.2.1.own.Hh (g:=w.heap.size+1) (by omega) _ _).GV (by omega)
   ·rintro r w4 ⟨rfl,rfl⟩
    have e8:¬(∀t∈ls.flatten,t.2≠id):=fun h=>by rw[(e.out.2.1.GP id).2 h]at hhas;cases hhas
    have HN:M6 _:=e8;clear e8 p0 p1 Z p3 d9 c7;go_wp2;obtain⟨F,E⟩:=adR (c:=MF ME 0) (d:=MG MH 0 0) j.out.1;refine Np (v:=Nv #[Ny #[MF ME 0,MG MH 0 0],MF ME 7]) (by simp[Pf,azD,go_sem,F,E]) rfl ⟨?_,NF (Nt ⟨hfit,HN.out,rfl⟩)⟩;exact((j.out.2.1.setCell (p:=⟨w.heap.size+1,0,MH⟩) (by simp) _).setCell (p:=⟨w.heap.size+1,1,MH⟩) (by simp) _)
 ·exact absurd y.out.2.2 h1
end
section
open Go.Sort (grow grow_empty grow_grow alloc_eq_grow cell?_grow heap_grow_old)
structure XC(ls:List (List Tm)):Prop where
 len:ls.length=25
 ord:∀l∈ls,l.Pairwise (fun a b=>Xe a b<0)
 ids:(ls.flatten.map (·.2)).Nodup
theorem Ok.srt{now:Int}{ls:List (List Tm)}(h:Ok now ls):XC ls:=⟨h.len,h.ord,h.ids⟩
theorem agS(ls:List (List Tm))(now:Int)(t:Tm)(i:Nat)(hi:Xq t.1 now=(i:Int)):ZK ls now t=ls.set i (YA (ls.getD i []) t (aaX (ls.getD i []) t)):=by
 unfold ZK;rw[hi];rfl
theorem XC.ID{ls:List (List Tm)}(h:XC ls)(now:Int)(hn:∀x∈ls.flatten,x.2≠t.2):XC (ZK ls now t):=by
 have q:=@aew t.1 now;obtain⟨i,o⟩:∃i:Nat,Xq t.1 now=(i:Int):=⟨(Xq t.1 now).toNat,by omega⟩;have n:i<ls.length:=by rw[h.len];omega
 have j:ls[i]?=MI (ls.getD i []):=by simp[Pq,MR n]
 rw[agS ls now t i o];refine⟨by rw[NA];exact h.len,fun m d=>?_,?_⟩
 ·rcases OB d with d|rfl
  ·exact h.ord m d
  ·refine anT (h.ord _ (Nu j)) t _ (agY _ _) fun x l=>?_
   exact anJ (agZ (h.ord _ (Nu j)) t x l) (hn x (List.mem_flatten.2 ⟨_,Nu j,List.mem_of_mem_drop l⟩))
 ·rw[((afu j t _).map _).nodup_iff,OA,QJ]
  refine⟨fun d=>?_,h.ids⟩;obtain⟨x,l,e⟩:=List.mem_map.1 d;exact hn x l e
theorem ajo{ls:List (List Tm)}(h:ls.length=25)(now:Int)(t:Tm):(ZK ls now t).flatten.Perm (t::ls.flatten):=by
 have j:=@aew t.1 now;obtain⟨i,e⟩:∃i:Nat,Xq t.1 now=(i:Int):=⟨(Xq t.1 now).toNat,by omega⟩;have d:i<ls.length:=by rw[h];omega
 rw[agS ls now t i e];exact afu (by simp[Pq,MR d]) t _
def abL(ls:List (List Tm))(now:Int)(l:List Tm):List (List Tm):=l.foldl (fun ls t=>ZK ls now t) ls
theorem avB(ls:List (List Tm))(now:Int)(l:List Tm)(t:Tm):abL ls now (l++[t])=ZK (abL ls now l) now t:=by simp[abL]
theorem anE(ls:List (List Tm))(now:Int)(l:List Tm)(h:ls.length=25):(abL ls now l).flatten.Perm (l++ls.flatten):=by
 induction l generalizing ls with
 |nil=>exact .refl _
 |cons t l ih =>
  have d:(ZK ls now t).length=25:=by unfold ZK;rw[NA];exact h
  exact(ih (ZK ls now t) d).trans (((ajo h now t).append_left l).trans QC)
theorem anF(ls:List (List Tm))(now:Int)(l:List Tm)(h:XC ls)(hn:((l++ls.flatten).map (·.2)).Nodup):XC (abL ls now l):=by
 induction l generalizing ls with
 |nil=>exact h
 |cons t l ih =>
  have d:(((t::l)++ls.flatten).map (·.2)).Nodup:=hn;rw[List.cons_append,OA,QJ]at d;have i:∀x∈ls.flatten,x.2≠t.2:=fun x hx e=>d.1 (List.mem_map.2 ⟨x,Qq _ hx,e⟩)
  refine ih (ZK ls now t) (h.ID now i) ?_;have j:((l++(ZK ls now t).flatten).map (·.2)).Perm (((t::l)++ls.flatten).map (·.2)):=(((ajo h.len now t).append_left l).trans QC).map _;rw[j.nodup_iff];exact hn
theorem adc{ls:List (List Tm)}{l:List Tm}(h:l∈ls):l.length<=ls.flatten.length:=by
 induction ls with
 |nil=>cases h
 |cons m ls ih =>
  rw[QS,Ns];rcases List.mem_cons.1 h with rfl|h
  ·omega
  ·have:=ih h;omega
theorem adQ{ls:List (List Tm)}{L:List Tm}(h:ls[p]?=MI L):(L++(ls.set p []).flatten).Perm ls.flatten:=by
 obtain⟨a,b,d,e,_⟩:=ajs ls p L [] h;rw[e,d];simp only[PV,QS,Oz];rw[<-OC,<-OC];exact List.perm_append_comm.append_right _
theorem XC.Gc{ls:List (List Tm)}(h:XC ls){L:List Tm}(hL:ls[p]?=MI L):XC (ls.set p []):=by
 refine⟨by rw[NA];exact h.len,fun m d=>?_,?_⟩
 ·rcases OB d with d|rfl
  ·exact h.ord m d
  ·exact .nil
 ·have:=((adQ hL).map (·.2)).nodup_iff.2 h.ids
  rw[OI,Qv]at this;exact this.2.1
theorem WM.Gc{w:MO}{base T B M n:Nat}{now:Int}{vs:List M7}{ls:List (List Tm)}{f:Int->Option Int}(h:WM w base T B M n now vs ls f)(hp:p<25){u:M7}(hu:vs[p]?=MI u):
  WM (w.setCell ⟨B,p,MH⟩ (MG MH 0 0)) base T B M n now (vs.set p (MG MH 0 0)) (ls.set p []) f/\∀g,u.ownBlock=MI g->adO (w.setCell ⟨B,p,MH⟩ (MG MH 0 0)) (vs.set p (MG MH 0 0)) T B M g/\(w.setCell ⟨B,p,MH⟩ (MG MH 0 0)).heap[g]?=w.heap[g]?:=by
 have q:p<ls.length:=by rw[h.len];exact hp
 have l:p<vs.length:=by rw[h.own.each.1];exact q
 have C:T≠B:=fun e=>h.offT _ (NM ..) (by rw[e];rfl)
 have E:M≠B:=fun e=>h.offM _ (NM ..) (by rw[e];rfl)
 have o:u∈vs:=Nu hu;have D:w.grownBy w u.ownBlock:=⟨rfl,rfl,rfl,MV _,fun _ _ _=>rfl⟩;have A:=h.own.Gd h.len q hu D (u':=MG MH 0 0) (l':=[]) (NY _ _ _ _) (fun g hg=>by cases hg);have v:∀X,(∀x∈MG (MI ⟨B,0,MH⟩) 25 25::vs,x.ownBlock≠MI X)->∀x∈MG (MI ⟨B,0,MH⟩) 25 25::vs.set p (MG MH 0 0),x.ownBlock≠MI X:=fun X ho x d=>by
  rcases List.mem_cons.1 d with rfl|d
  ·exact ho _ (NM ..)
  ·rcases OB d with h|rfl
   ·exact ho x (NB _ h)
   ·intro e;cases e
 refine⟨⟨(MU _ _ _ _ C).trans h.box,A,h.map.Gf (MU _ _ _ _ E),v T h.offT,v M h.offM,h.hT,h.hM,h.hTM,by rw[NA];exact h.len⟩,fun g hg=>?_⟩;have z:g≠B:=fun e=>(List.pairwise_cons.1 h.own.apart).1 u o B rfl (by rw[hg,e])
 have r:vs[p]=u:=by rw[MR l]at hu;exact NC hu
 have F:g<w.heap.size:=by
  have i:=(h.own.each.2 p l q).lt g (by rw[r];exact hg);exact i.2
 refine⟨⟨by simpa using F,fun e=>h.offT u (NB _ o) (by rw[hg,e]),z,fun e=>h.offM u (NB _ o) (by rw[hg,e]),fun x d e=>?_⟩,MU _ _ _ _ z⟩;obtain⟨j,G,rfl⟩:=NV d
 by_cases hjp:j=p
 ·subst hjp
  rw[NW]at e;cases e
 ·rw[Pe (Pi hjp)]at e
  have y:j<vs.length:=by simpa using G
  have s:=List.pairwise_iff_getElem.1 (List.pairwise_cons.1 h.own.apart).2;rcases QM hjp with i|i
  ·exact s j p y l i g e (by rw[r];exact hg)
  ·exact s p j l y i g (by rw[r];exact hg) e
theorem avQ(base T B M n:Nat)(now:Int)(vs:List M7)(ls:List (List Tm))(f:Int->Option Int)(p:Nat)(L:List Tm)(w:MO)(hB:Xo w)(hT:WM w base T B M n now vs ls f)(hb0:0<base)(hbase:base<=w.heap.size)(hn:0<=now)(hn2:now<=1099511627776)
  (hp:p<25) (hL:ls[p]?=MI L) (hLb:∀t∈L,0<=t.1/\t.1<=4398046511104/\(N6 ME t.2).wf=Nw) (hS:XC ls) (htot:ls.flatten.length<=1048576) (hnn:n<=1000000000) :
  Ni MK 198 #[Na (MI ⟨T,0,MH⟩),MF ME p] w fun r w'=>r=MN (Nv #[])/\∃vs' n' f',WM w' base T B M n' now vs' (abL (ls.set p []) now L) f'/\n'<=n+L.length/\MQ base w w':=by
 obtain⟨t0,t1,t2,h9⟩:=YS hT.box;have U:p<ls.length:=by rw[hT.len];exact hp
 obtain⟨u,hu,F⟩:=aet hT.own p U;have i4:=aes hT.own hT.len p U u hu;have e7:ls[p]=L:=by rw[MR U]at hL;exact NC hL
 rw[e7]at F;have h7:w.frozen? ⟨B,p,MH⟩=false:=by
  have c8:=hT.own.row;rw[hT.len]at c8;exact c8.frozenAt p
 have d7:=hT.Gc hp hu;have d6:((L++(ls.set p []).flatten).map (·.2)).Nodup:=((adQ hL).map (·.2)).nodup_iff.2 hS.ids;have g9:L.length<=1048576:=Nm (adc (Nu hL)) htot;obtain⟨up,uc,rfl⟩:=Y6 F;have b4:=Yr F;have g7:=(hT.own.row.lt B rfl).1;have o:M6 (_/\_/\_/\_/\_/\_/\_/\_/\_):=⟨hT,d7,d6,b4,hLb,hS,hL,hB,htot⟩;have i3:T≠B:=fun e=>hT.offT _ (NM ..) (by rw[e];rfl)
 have h8:(p:Int)<25:=by omega
 clear hT d7 d6 b4 hLb hS hB hu F hL e7 htot;go_enter TZ,TT;go_wp2
 go_loopw [24] (fun i wr=>∃(k n':Nat) (vs':List M7) (f':Int->Option Int),i=MF ME k/\k<=L.length/\WM wr base T B M n' now vs' (abL (ls.set p []) now (L.take k)) f'/\n'<=n+k/\MQ base w wr/\∀g,(MG up L.length uc).ownBlock=MI g->adO wr vs' T B M g/\wr.heap[g]?=w.heap[g]?) (fun i _=>L.length-(On i).toNat)
 case atStart =>
  exact⟨0,n,_,f,rfl,Nx _,o.out.2.1.1,MV _,(MY _ _).setCell (by exact g7) _,o.out.2.1.2⟩
 case round =>
  obtain⟨k,n',vs',f',rfl,hk,hT,G,v,E⟩:=hrel
  by_cases hlt:k<L.length
  ·obtain⟨ga,ca,hv,_,_,pu⟩:=Xz.F6 o.out.2.2.2.1
   simp only[N4]at hv;obtain⟨rfl,_,rfl⟩:=hv;obtain⟨H,ou,rfl,i5,p1,p2⟩:=pu k hlt;have V:=E H rfl;have e1:=(NG (a:=⟨H,ou+k*2,MH⟩) V.2).trans p1;have e2:=(NG (a:=⟨H,ou+k*2+1,MH⟩) V.2).trans p2;obtain⟨j,P⟩:∃j,L[k].1=j:=⟨_,rfl⟩;obtain⟨l,Z⟩:∃l,L[k].2=l:=⟨_,rfl⟩;have N:L[k]=(j,l):=Q8 P Z;rw[P]at e1;rw[Z]at e2;have A:=o.out.2.2.2.2.1 L[k] (Nk hlt);rw[N]at A;have Y:L.take (k+1)=L.take k++[(j,l)]:=by rw[M9 hlt,N]
   obtain⟨d,z⟩:∃d,d=abL (ls.set p []) now (L.take k):=⟨_,rfl⟩;have O:XC (ls.set p []):=o.out.2.2.2.2.2.1.Gc o.out.2.2.2.2.2.2.1;have K:(((L.take k++[(j,l)])++(ls.set p []).flatten).map (·.2)).Nodup:=by
    rw[<-Y];exact o.out.2.2.1.sublist ((Rz (List.take_sublist _ _) _).map _)
   have J:XC d:=by
    rw[z];refine anF _ _ _ O (K.sublist ((Rz (List.sublist_append_left _ _) _).map _))
   have Q:d.flatten.Perm (L.take k++(ls.set p []).flatten):=by rw[z];exact anE _ _ _ O.len
   have f9:∀x∈d.flatten,x.2≠l:=fun x hx e=>by
    have g8:=Q.mem_iff.1 hx;have y:(((j,l)::(L.take k++(ls.set p []).flatten)).map (·.2)).Nodup:=by
     refine(List.Perm.nodup_iff (List.Perm.map _ ?_)).1 K;rw[OC];exact QC
    rw[OA,QJ]at y;exact y.1 (List.mem_map.2 ⟨x,g8,e⟩)
   have g6:=@aew j now;obtain⟨i,hi⟩:∃i:Nat,Xq j now=(i:Int):=⟨(Xq j now).toNat,by omega⟩;have b7:i<25:=by omega
   have c9:i<d.length:=by rw[J.len];exact b7
   have I:d[i]?=MI (d.getD i []):=by simp[Pq,MR c9]
   have b8:=J.ord _ (Nu I);have d8:(d.getD i []).length<=1048576:=by
    refine Nm (adc (Nu I)) ?_;rw[Q.length_eq];refine Nm ?_ o.out.2.2.2.2.2.2.2.2;rw[<-(adQ o.out.2.2.2.2.2.2.1).length_eq,Ns,Ns,NH];omega
   rw[<-z]at hT;obtain⟨D,R⟩:∃D,D=wr.alloc (MP #[MF ME j,MF ME l] 166):=⟨_,rfl⟩;have C:MQ wr.heap.size wr D:=by rw[R];exact(MY _ _).alloc (MV _) _
   have c7:=hT.below C;have e8:Xo D:=(o.out.2.2.2.2.2.2.2.1.Gf (v.block 0 hb0)).below C;have g3:=C.size;have g4:=v.size;have b5:d.set i (YA (d.getD i []) (j,l) (aaX (d.getD i []) (j,l)))=abL (ls.set p []) now (L.take (k+1)):=by
    rw[Y,avB,<-z,agS d now (j,l) i hi]
   have HP:=ajG base T B M n' now vs' d f' j l i (aaX (d.getD i []) (j,l)) D e8 c7 hb0 (by omega) hn hn2 (by unfold NE;omega) b7 ⟨A.1,A.2.1⟩ A.2.2 hi _ I d8 (anW _ _) (fun k hk hkp=>agY _ _ _ (List.mem_take_iff_getElem.2 ⟨k,by omega,rfl⟩)) (fun k hk hkp=>agZ b8 _ _ (List.mem_drop_iff_getElem.2 ⟨k-aaX (d.getD i []) (j,l),by omega,by congr 1;omega⟩));rw[b5]at HP;have q:M6 (_/\_/\_/\_/\_/\_):=⟨HP,R,E,v,C,G⟩;clear HP R E v C G b5 c7 e8 hT d8 b8 I c9 hi g6 f9 Q J K O z Y A N P Z p1 p2 V g3 g4
   go_wp2_with fail
   rw[<-q.out.2.1];refine q.out.1.mono ?_;rintro r w5 ⟨rfl,f8,d9,b9,e9⟩;have a0:∀g,(MG (MI ⟨H,ou,MH⟩) L.length uc).ownBlock=MI g->adO w5 f8 T B M g/\w5.heap[g]?=w.heap[g]?:=fun g hg=>by
    obtain⟨y,h2⟩:=q.out.2.2.1 g hg;have h3:=e9 g ⟨M8 y.1 q.out.2.2.2.2.1.size,y.2⟩;exact⟨h3.2,h3.1.trans ((q.out.2.2.2.2.1.block g y.1).trans h2)⟩
   have b6:MQ base w w5:=(q.out.2.2.2.1.trans (q.out.2.2.2.2.1.mono (by have:=q.out.2.2.2.1.size;omega))).trans b9;have s:M6 (_/\_/\_):=⟨d9,a0,b6⟩;clear d9 a0 b6 b9 e9;go_wp2
   go_roundw
   case rel=>exact⟨k+1,n'+1,f8,_,by simp,hlt,s.out.1,by have:=q.out.2.2.2.2.2;omega,s.out.2.2,s.out.2.1⟩
   case measure=>simp[On];omega
  ·obtain rfl:k=L.length:=by omega
   rw[NT]at hT;have s:M6 (_/\_/\_):=⟨hT,G,v⟩;clear hT G v E;go_wp2
   go_end0
   exact⟨rfl,vs',n',f',s.out.1,s.out.2.1,s.out.2.2⟩
end
def ace(ls:List (List Tm))(m:Int)(p:Nat):List (List Tm):=abL (ls.set p []) m (ls.getD p [])
structure XJ(ls:List (List Tm)):Prop where
 srt:XC ls
 bnd:∀t∈ls.flatten,0<=t.1/\t.1<=4398046511104/\(N6 ME t.2).wf=Nw
 tot:ls.flatten.length<=1048576
theorem agU{ls:List (List Tm)}(h:ls.length=25)(m:Int)(hp:p<25):(ace ls m p).flatten.Perm ls.flatten:=by
 have d:ls[p]?=MI (ls.getD p []):=by simp[Pq,MR (show p<ls.length by omega)]
 exact(anE _ m _ (by rw[NA];exact h)).trans (adQ d)
theorem XJ.Il{ls:List (List Tm)}(h:XJ ls)(m:Int)(hp:p<25):XJ (ace ls m p):=by
 have e:ls[p]?=MI (ls.getD p []):=by simp[Pq,MR (show p<ls.length by rw[h.srt.len];exact hp)]
 have d:=agU h.srt.len m hp;refine⟨anF _ _ _ (h.srt.Gc e) ?_,fun t ht=>h.bnd t (d.mem_iff.1 ht),by rw[d.length_eq];exact h.tot⟩;exact((adQ e).map (·.2)).nodup_iff.2 h.srt.ids
def acB(m:Int):Nat:=(8+m / 8 % 8).toNat
def acf(m:Int):Nat:=(16+m / 64 % 8).toNat
def aak(ls:List (List Tm))(m:Int):List (List Tm):=if Zy m 8 then ace ls m (acB m)else ls
def aal(ls:List (List Tm))(m:Int):List (List Tm):=if Zy m 64 then ace (aak ls m) m (acf m)else aak ls m
def XO(ls:List (List Tm))(m:Int):List (List Tm):=if Zy m 512 then ace (aal ls m) m 24 else aal ls m
theorem ajK(m:Int):acB m<25:=by unfold acB;omega
theorem ajL(m:Int):acf m<25:=by unfold acf;omega
theorem XJ.Hm{ls:List (List Tm)}(h:XJ ls)(m:Int):XJ (aak ls m):=by
 unfold aak
 split
 ·exact h.Il m (ajK m)
 ·exact h
theorem XJ.Hs{ls:List (List Tm)}(h:XJ ls)(m:Int):XJ (aal ls m):=by
 unfold aal
 split
 ·exact(h.Hm m).Il m (ajL m)
 ·exact h.Hm m
theorem XJ.GR{ls:List (List Tm)}(h:XJ ls)(m:Int):XJ (XO ls m):=by
 unfold XO
 split
 ·exact(h.Hs m).Il m (by omega)
 ·exact h.Hs m
theorem WM.I6{w:MO}{base T B M n:Nat}{now:Int}{vs:List M7}{ls:List (List Tm)}{f:Int->Option Int}(h:WM w base T B M n now vs ls f):WM (w.setCell ⟨T,0,MH⟩ (MF ME m)) base T B M n m vs ls f:=by
 refine⟨(NI w T 0 _ _ (MF ME m) h.box),?_,h.map.Gf (MU _ _ _ _ (Pi h.hTM)),h.offT,h.offM,h.hT,h.hM,h.hTM,h.len⟩;refine h.own.If (row:=MI T) ⟨rfl,rfl,rfl,by simp,fun k _ hk=>MU _ _ _ _ (fun e=>hk (by rw[e]))⟩ fun u hu g hg e=>?_
 exact h.offT u hu (by rw[hg,NC e])
theorem avT(b1 b2 b3:Bool)(W:MO):(Qy 284 (Ny #[M3 b1,M3 b2,M3 b3]) (MF ME 0)).run MK W=.ok (M3 b1) W:=by kernel_rfl
theorem avU(b1 b2 b3:Bool)(W:MO):(Qy 284 (Ny #[M3 b1,M3 b2,M3 b3]) (MF ME 1)).run MK W=.ok (M3 b2) W:=by kernel_rfl
theorem avV(b1 b2 b3:Bool)(W:MO):(Qy 284 (Ny #[M3 b1,M3 b2,M3 b3]) (MF ME 2)).run MK W=.ok (M3 b3) W:=by kernel_rfl
theorem ajt(base T B M n:Nat)(now:Int)(vs:List M7)(ls:List (List Tm))(f:Int->Option Int)(p:Nat)(w:MO)(hB:Xo w)(hT:WM w base T B M n now vs ls f)(hb0:0<base)(hbase:base<=w.heap.size)(hn:0<=now)(hn2:now<=1099511627776)
  (hp:p<25) (hG:XJ ls) (hnn:n<=1000000000) :
  Ni MK 198 #[Na (MI ⟨T,0,MH⟩),MF ME p] w fun r w'=>r=MN (Nv #[])/\∃vs' n' f',WM w' base T B M n' now vs' (ace ls now p) f'/\n'<=n+1048576/\MQ base w w':=by
 have d:ls[p]?=MI (ls.getD p []):=by simp[Pq,MR (show p<ls.length by rw[hG.srt.len];exact hp)]
 refine(avQ base T B M n now vs ls f p _ w hB hT hb0 hbase hn hn2 hp d (fun t ht=>hG.bnd t (List.mem_flatten.2 ⟨_,Nu d,ht⟩)) hG.srt hG.tot hnn).mono fun r w' h=>?_
 obtain⟨j,vs',n',f',e,l,i⟩:=h;have:=adc (Nu d);have:=hG.tot;exact⟨j,vs',n',f',e,by omega,i⟩
theorem awn(base T B M n:Nat)(now:Int)(vs:List M7)(ls:List (List Tm))(f:Int->Option Int)(w:MO)(hB:Xo w)(hT:WM w base T B M n now vs ls f)(hb0:0<base)(hbase:base<=w.heap.size)(hn:0<=now)(hn2:now<1099511627776)(hG:XJ ls)(hnn:n<=26214400) :
  Ni MK 156 #[Na (MI ⟨T,0,MH⟩)] w fun r w'=>r=MN (Nv #[])/\∃vs' n' f',WM w' base T B M n' (now+1) vs' (XO ls (now+1)) f'/\n'<=100000000/\MQ base w w':=by
 obtain⟨t0,t1,t2,b9⟩:=YS hT.box;have b5:w.frozen? ⟨T,0,MH⟩=false:=by simp[Ng,hT.box]
 have Z:IntKind.i64.wrap (now+1)=now+1:=by rw[Ow];omega
 obtain⟨m,V⟩:∃m,m=now+1:=⟨_,rfl⟩;rw[<-V]at Z⊢;have P:WM (w.setCell ⟨T,0,MH⟩ (MF ME m)) base T B M n m vs ls f:=hT.I6;obtain⟨J,H⟩:∃J,J=w.setCell ⟨T,0,MH⟩ (MF ME m):=⟨_,rfl⟩;rw[<-H]at P;have N:MQ base w J:=by rw[H];exact(MY _ _).setCell hT.hT _
 have a0:Xo J:=hB.Gf (N.block 0 hb0);have D:0<=m:=by omega
 have R:m<=1099511627776:=by omega
 have o:M6 (_/\_/\_/\_/\_/\_):=⟨P,H,N,a0,hG,V⟩;clear hT P H N a0 hB hG V Z;go_enter SN,Ss
 go_wp2_with fail
 rw[<-o.out.2.2.2.2.2,<-o.out.2.1];refine(avH m _ o.out.2.2.2.1 D (by omega)).mono ?_;obtain⟨K,U⟩:∃b,b=Zy m 8:=⟨_,rfl⟩;obtain⟨L,O⟩:∃b,b=Zy m 64:=⟨_,rfl⟩;obtain⟨I,Q⟩:∃b,b=Zy m 512:=⟨_,rfl⟩;rw[<-U,<-O,<-Q];rintro r w2 ⟨rfl,Y⟩;have b7:=o.out.2.2.1.size;have A:M6 (_/\_/\_/\_):=⟨U,O,Q,Y⟩;clear U O Q Y;have j0:=avT K L I;have j1:=avU K L I;have j2:=avV K L I;go_wp2
 go_loopw [19] (fun i wr=>∃(k n':Nat) (vs':List M7) (f':Int->Option Int),i=MF ME k/\k<=3/\WM wr base T B M n' m vs' (if k=0 then ls else if k=1 then aak ls m else if k=2 then aal ls m else XO ls m) f'/\n'<=n+k*1048576/\MQ base w wr) (fun i _=>3-(On i).toNat)
 case atStart=>exact⟨0,n,vs,f,rfl,by omega,o.out.1.below A.out.2.2.2,by omega,o.out.2.2.1.trans (A.out.2.2.2.mono (by omega))⟩
 case round =>
  obtain⟨k,n',vs',f',rfl,hk,hT,y,q⟩:=hrel;obtain⟨c0,c1,c2,b8⟩:=YS hT.box;have C:Xo wr:=o.out.2.2.2.1.Gf ((q.block 0 hb0).trans (o.out.2.2.1.block 0 hb0).symm);have b6:=q.size;have b4:k=0\/k=1\/k=2\/k=3:=by omega
  rcases b4 with rfl|rfl|rfl|rfl
  ·rw[Nh rfl]at hT
   have d:M6 (_/\_/\_/\_):=⟨hT,y,q,C⟩;clear hT y q C;cases K
   ·have e:aak ls m=ls:=by unfold aak;rw[<-A.out.1];rfl
    have j:M6 _:=e;clear e;go_wp2
    go_roundw
    case rel=>exact⟨1,n',vs',f',rfl,by omega,by rw[Nf (by omega),Nh rfl,j.out];exact d.out.1,by have:=d.out.2.1;omega,d.out.2.2.1⟩
    case measure=>simp[On]
   ·have e:aak ls m=ace ls m (acB m):=by unfold aak;rw[<-A.out.1];rfl
    have z:(8+m / 8 % 8:Int)=(acB m:Int):=by unfold acB;omega
    have j:M6 (_/\_):=⟨e,z⟩;clear e z
    go_wp2_with fail
    refine(awq m _ d.out.2.2.2 D (by omega)).mono ?_;rw[j.out.2];rintro r w3 ⟨rfl,rfl⟩
    go_wp2_with fail
    refine(ajt base T B M n' m vs' ls f' (acB m) _ d.out.2.2.2 d.out.1 hb0 (by omega) D R (ajK m) o.out.2.2.2.2.1 (by have:=d.out.2.1;omega)).mono ?_;rintro r w4 ⟨rfl,E,F,G,v,u,s⟩;have l:M6 (_/\_/\_):=⟨v,u,s⟩;clear v u s;go_wp2
    go_roundw
    case rel=>exact⟨1,F,E,G,rfl,by omega,by rw[Nf (by omega),Nh rfl,j.out.1];exact l.out.1,by have:=d.out.2.1;have:=l.out.2.1;omega,d.out.2.2.1.trans l.out.2.2⟩
    case measure=>simp[On]
  ·rw[Nf (by omega),Nh rfl]at hT
   have d:M6 (_/\_/\_/\_):=⟨hT,y,q,C⟩;clear hT y q C;cases L
   ·have e:aal ls m=aak ls m:=by unfold aal;rw[<-A.out.2.1];rfl
    have j:M6 _:=e;clear e;go_wp2
    go_roundw
    case rel=>exact⟨2,n',vs',f',rfl,by omega,by rw[Nf (by omega),Nf (by omega),Nh rfl,j.out];exact d.out.1,by have:=d.out.2.1;omega,d.out.2.2.1⟩
    case measure=>simp[On]
   ·have e:aal ls m=ace (aak ls m) m (acf m):=by unfold aal;rw[<-A.out.2.1];rfl
    have z:(16+m / 64 % 8:Int)=(acf m:Int):=by unfold acf;omega
    have j:M6 (_/\_):=⟨e,z⟩;clear e z
    go_wp2_with fail
    refine(awr m _ d.out.2.2.2 D (by omega)).mono ?_;rw[j.out.2];rintro r w3 ⟨rfl,rfl⟩
    go_wp2_with fail
    refine(ajt base T B M n' m vs' (aak ls m) f' (acf m) _ d.out.2.2.2 d.out.1 hb0 (by omega) D R (ajL m) (o.out.2.2.2.2.1.Hm m) (by have:=d.out.2.1;omega)).mono ?_;rintro r w4 ⟨rfl,E,F,G,v,u,s⟩;have l:M6 (_/\_/\_):=⟨v,u,s⟩;clear v u s;go_wp2
    go_roundw
    case rel=>exact⟨2,F,E,G,rfl,by omega,by rw[Nf (by omega),Nf (by omega),Nh rfl,j.out.1];exact l.out.1,by have:=d.out.2.1;have:=l.out.2.1;omega,d.out.2.2.1.trans l.out.2.2⟩
    case measure=>simp[On]
  ·rw[Nf (by omega),Nf (by omega),Nh rfl]at hT
   have d:M6 (_/\_/\_/\_):=⟨hT,y,q,C⟩;clear hT y q C;cases I
   ·have e:XO ls m=aal ls m:=by unfold XO;rw[<-A.out.2.2.1];rfl
    have j:M6 _:=e;clear e;go_wp2
    go_roundw
    case rel=>exact⟨3,n',vs',f',rfl,by omega,by rw[Nf (by omega),Nf (by omega),Nf (by omega),j.out];exact d.out.1,by have:=d.out.2.1;omega,d.out.2.2.1⟩
    case measure=>simp[On]
   ·have e:XO ls m=ace (aal ls m) m (24):=by unfold XO;rw[<-A.out.2.2.1];rfl
    have z:(24:Int)=((24:Nat):Int):=rfl;have j:M6 (_/\_):=⟨e,z⟩;clear e z
    go_wp2_with fail
    refine(aws m _).mono ?_;rintro r w3 ⟨rfl,rfl⟩
    go_wp2_with fail
    refine(ajt base T B M n' m vs' (aal ls m) f' 24 _ d.out.2.2.2 d.out.1 hb0 (by omega) D R (by omega) (o.out.2.2.2.2.1.Hs m) (by have:=d.out.2.1;omega)).mono ?_;rintro r w4 ⟨rfl,E,F,G,v,u,s⟩;have l:M6 (_/\_/\_):=⟨v,u,s⟩;clear v u s;go_wp2
    go_roundw
    case rel=>exact⟨3,F,E,G,rfl,by omega,by rw[Nf (by omega),Nf (by omega),Nf (by omega),j.out.1];exact l.out.1,by have:=d.out.2.1;have:=l.out.2.1;omega,d.out.2.2.1.trans l.out.2.2⟩
    case measure=>simp[On]
  ·rw[Nf (by omega),Nf (by omega),Nf (by omega)]at hT
   have d:M6 (_/\_/\_):=⟨hT,y,q⟩;clear hT y q;go_wp2
   go_end0
   exact⟨rfl,vs',n',f',d.out.1,by have:=d.out.2.1;omega,d.out.2.2⟩
theorem av8{ls:List (List Tm)}{i:Nat}{l:List Tm}(h:(ZK ls m t)[i]?=MI l)(hx:x∈l):(x=t/\Xq t.1 m=(i:Int))\/∃l',ls[i]?=MI l'/\x∈l':=by
 have e:=@aew t.1 m;obtain⟨j,d⟩:∃j:Nat,Xq t.1 m=(j:Int):=⟨(Xq t.1 m).toNat,by omega⟩;rw[agS ls m t j d]at h
 by_cases hij:i=j
 ·subst hij
  by_cases hl:i<ls.length
  ·rw[N7 hl]at h
   rw[<-NC h]at hx;rcases ajA.1 hx with rfl|hx
   ·exact Nt ⟨rfl,d⟩
   ·exact NF ⟨_,by simp[Pq,MR hl],hx⟩
  ·rw[Nz (by rw[NA];omega)]at h
   cases h
 ·rw[N3 (Pi hij)]at h
  exact NF ⟨l,h,hx⟩
theorem av7{i:Nat}(a:List Tm):∀ {ls:List (List Tm)} {l:List Tm},(abL ls m a)[i]?=MI l->x∈l->(x∈a/\Xq x.1 m=(i:Int))\/∃l',ls[i]?=MI l'/\x∈l':=by
 induction a with
 |nil=>intro ls l h j;exact NF ⟨l,h,j⟩
 |cons t a ih =>
  intro ls l h j;rcases ih (ls:=ZK ls m t) h j with⟨n,e⟩|⟨l',n,e⟩
  ·exact Nt ⟨NB _ n,e⟩
  ·rcases av8 n e with⟨rfl,d⟩|d
   ·exact Nt ⟨NM ..,d⟩
   ·exact NF d
theorem ajz{ls:List (List Tm)}{i:Nat}{l:List Tm}(h:(ace ls m p)[i]?=MI l)(hx:x∈l):Xq x.1 m=(i:Int)\/(i≠p/\∃l',ls[i]?=MI l'/\x∈l'):=by
 rcases av7 _ h hx with⟨_,e⟩|⟨l',d,e⟩
 ·exact Nt e
 ·by_cases hip:i=p
  ·subst hip
   by_cases hl:i<ls.length
   ·rw[N7 hl]at d
    rw[<-NC d]at e;cases e
   ·rw[Nz (by rw[NA];omega)]at d
    cases d
  ·rw[N3 (Pi hip)]at d
   exact NF ⟨hip,l',d,e⟩
theorem awm{at' now:Int}(h0:0<=now)(h1:now<at')(h2:at'<=now+500):Xq at' (now+1)=Xq at' now\/((now+1) % 8=0/\Xq at' now=8+(now+1) / 8 % 8)\/((now+1) % 64=0/\Xq at' now=16+(now+1) / 64 % 8)\/((now+1) % 512=0/\Xq at' now=24):=by
 unfold Xq
 by_cases a1:at' / 8=now / 8
 ·rw[Nh a1,Nh (by omega)];exact Nt rfl
 ·rw[Nf a1]
  by_cases a2:at' / 64=now / 64
  ·rw[Nh a2]
   by_cases b1:at' / 8=(now+1) / 8
   ·right;left;constructor <;> omega
   ·rw[Nf b1,Nh (by omega)];exact Nt rfl
  ·rw[Nf a2]
   by_cases a3:at' / 512=now / 512
   ·rw[Nh a3]
    by_cases b2:at' / 64=(now+1) / 64
    ·right;right;left;constructor <;> omega
    ·rw[Nf (by omega),Nf b2,Nh (by omega)];exact Nt rfl
   ·rw[Nf a3]
    by_cases b3:at' / 512=(now+1) / 512
    ·right;right;right;constructor <;> omega
    ·rw[Nf (by omega),Nf (by omega),Nf b3];exact Nt rfl
theorem avG(n m:Int):Zy n m=Nw↔n % m=0:=by unfold Zy;simp
theorem ajy{now:Int}{ls:List (List Tm)}(h:Ok now ls)(h0:0<=now):∀(i:Nat) (l:List Tm),(XO ls (now+1))[i]?=MI l->∀t∈l,Xq t.1 (now+1)=(i:Int):=by
 obtain⟨m,u⟩:∃m,m=now+1:=⟨_,rfl⟩;have y:∀(i:Nat) (l:List Tm),ls[i]?=MI l->∀t∈l,Xq t.1 m=(i:Int)\/(Zy m 8=Nw/\i=acB m)\/(Zy m 64=Nw/\i=acf m)\/(Zy m 512=Nw/\i=24):=fun i l e t n=>by
  have A:=h.fit i l e t n;have z:=(ada now t).1 A.1;have o:=awm h0 z.1 z.2.1;rw[A.2,<-u]at o;simp only[avG];unfold acB acf;rcases o with o|o|o|o
  ·exact Nt o
  ·exact NF (Nt ⟨o.1,by omega⟩)
  ·exact NF (NF (Nt ⟨o.1,by omega⟩))
  ·exact NF (NF (NF ⟨o.1,by omega⟩))
 have v:∀(i:Nat) (l:List Tm),(aak ls m)[i]?=MI l->∀t∈l,Xq t.1 m=(i:Int)\/(Zy m 64=Nw/\i=acf m)\/(Zy m 512=Nw/\i=24):=fun i l e t n=>by
  unfold aak at e
  split at e
  ·rcases ajz e n with j|⟨j,s,r,q⟩
   ·exact Nt j
   ·rcases y i s r t q with d|d|d
    ·exact Nt d
    ·exact absurd d.2 j
    ·exact NF d
  ·rename_i hnb
   rcases y i l e t n with d|d|d
   ·exact Nt d
   ·exact absurd d.1 hnb
   ·exact NF d
 have w:∀(i:Nat) (l:List Tm),(aal ls m)[i]?=MI l->∀t∈l,Xq t.1 m=(i:Int)\/(Zy m 512=Nw/\i=24):=fun i l e t n=>by
  unfold aal at e
  split at e
  ·rcases ajz e n with j|⟨j,s,r,q⟩
   ·exact Nt j
   ·rcases v i s r t q with d|d|d
    ·exact Nt d
    ·exact absurd d.2 j
    ·exact NF d
  ·rename_i hnb
   rcases v i l e t n with d|d|d
   ·exact Nt d
   ·exact absurd d.1 hnb
   ·exact NF d
 rw[<-u];intro i l e t n;unfold XO at e
 split at e
 ·rcases ajz e n with j|⟨j,s,r,q⟩
  ·exact j
  ·rcases w i s r t q with d|d
   ·exact d
   ·exact absurd d.2 j
 ·rename_i hnb
  rcases w i l e t n with d|d
  ·exact d
  ·exact absurd d.1 hnb
theorem agX{ls:List (List Tm)}(h:XJ ls)(m:Int):(XO ls m).flatten.Perm ls.flatten:=by
 have e:(aak ls m).flatten.Perm ls.flatten:=by
  unfold aak
  split
  ·exact agU h.srt.len m (ajK m)
  ·exact .refl _
 have d:(aal ls m).flatten.Perm ls.flatten:=by
  unfold aal
  split
  ·exact(agU (h.Hm m).srt.len m (ajL m)).trans e
  ·exact e
 unfold XO
 split
 ·exact(agU (h.Hs m).srt.len m (by omega)).trans d
 ·exact d
theorem afv(m:Int):(m % 8).toNat<25:=by omega
theorem ajF{x:Int}(h0:0<=m)(h1:m<=x):Xq x m=m % 8↔x=m:=by
 constructor
 ·intro h
  unfold Xq at h
  split at h
  ·omega
  ·split at h
   ·omega
   ·split at h
    ·omega
    ·omega
 ·rintro rfl
  unfold Xq;rw[Nh rfl]
theorem anU{now:Int}{ls:List (List Tm)}(h:Ok now ls)(h0:0<=now)(hG:XJ ls):∀x,x∈(XO ls (now+1)).getD ((now+1) % 8).toNat []↔x∈ls.flatten/\x.1=now+1:=by
 intro x;have u:=(hG.GR (now+1)).srt.len;have d:(XO ls (now+1))[((now+1) % 8).toNat]?=MI ((XO ls (now+1)).getD ((now+1) % 8).toNat []):=by
  simp[Pq,MR (show((now+1) % 8).toNat<(XO ls (now+1)).length by rw[u];exact afv _)]
 have q:=agX hG (now+1);have n:∀t∈ls.flatten,now+1<=t.1:=fun t ht=>by
  obtain⟨l,d,y⟩:=List.mem_flatten.1 ht;obtain⟨i,j,rfl⟩:=NV d;have:=(ada now t).1 (h.fit i _ (MR j) t y).1;omega
 constructor
 ·intro e
  have r:x∈ls.flatten:=q.mem_iff.1 (List.mem_flatten.2 ⟨_,Nu d,e⟩);have s:=ajy h h0 _ _ d x e;exact⟨r,(ajF (by omega) (n x r)).1 (by rw[s];omega)⟩
 ·rintro⟨e,he⟩
  obtain⟨l,v,o⟩:=List.mem_flatten.1 (q.mem_iff.2 e);obtain⟨i,j,rfl⟩:=NV v;have s:=ajy h h0 i _ (MR j) x o;have z:=(ajF (by omega) (n x e)).2 he;have w:i=((now+1) % 8).toNat:=by omega
  subst w;rw[MR j]at d;rw[<-NC d];exact o
theorem awb{now:Int}{ls:List (List Tm)}(h:Y9 now ls)(hlt:now<1099511627776)(hG:XJ ls):Y9 (now+1) ((XO ls (now+1)).set ((now+1) % 8).toNat []):=by
 have v:=h.1.1;have d:=hG.GR (now+1);have w:(XO ls (now+1))[((now+1) % 8).toNat]?=MI ((XO ls (now+1)).getD ((now+1) % 8).toNat []):=by
  simp[Pq,MR (show((now+1) % 8).toNat<(XO ls (now+1)).length by rw[d.srt.len];exact afv _)]
 have n:=d.srt.Gc w;refine⟨by omega,n.len,fun i l hil t ht=>?_,n.ord,n.ids⟩
 by_cases hi:i=((now+1) % 8).toNat
 ·subst hi
  rw[N7 (by rw[d.srt.len];exact afv _)]at hil;rw[<-NC hil]at ht;cases ht
 ·rw[N3 (Pi hi)]at hil
  have s:=ajy h.2 v i l hil t ht;have u:t∈ls.flatten:=(agX hG (now+1)).mem_iff.1 (List.mem_flatten.2 ⟨l,Nu hil,ht⟩);obtain⟨A,q,r⟩:=List.mem_flatten.1 u;obtain⟨j,y,rfl⟩:=NV q;have o:=(ada now t).1 (h.2.fit j _ (MR y) t r).1;refine⟨(ada _ _).2 ⟨?_,by omega,o.2.2.1,o.2.2.2⟩,s⟩;have z:t.1≠now+1:=fun e=>by
   have:=(ajF (show 0<=now+1 by omega) (by omega)).2 e;omega
  omega
theorem av6{now:Int}{ls:List (List Tm)}(h:Ok now ls)(t x:Tm):x∈(ZK ls now t).flatten↔x=t\/x∈ls.flatten:=by
 rw[(ajo h.len now t).mem_iff,OO]
theorem av9{now:Int}{ls:List (List Tm)}(h:Y9 now ls)(hG:XJ ls)(x:Tm):x∈((XO ls (now+1)).set ((now+1) % 8).toNat []).flatten↔x∈ls.flatten/\x.1≠now+1:=by
 have n:(XO ls (now+1))[((now+1) % 8).toNat]?=MI ((XO ls (now+1)).getD ((now+1) % 8).toNat []):=by
  simp[Pq,MR (show((now+1) % 8).toNat<(XO ls (now+1)).length by rw[(hG.GR (now+1)).srt.len];exact afv _)]
 have i:=(adQ n).trans (agX hG (now+1));have j:=anU h.2 h.1.1 hG x;have q:((XO ls (now+1)).flatten.map (·.2)).Nodup:=(hG.GR (now+1)).srt.ids;have o:x∈(XO ls (now+1)).getD ((now+1) % 8).toNat []->¬x∈((XO ls (now+1)).set ((now+1) % 8).toNat []).flatten:=fun h1 h2=>by
  have l:=((adQ n).map (·.2)).nodup_iff.2 q;rw[OI,Qv]at l;exact l.2.2 x.2 (List.mem_map.2 ⟨x,h1,rfl⟩) x.2 (List.mem_map.2 ⟨x,h2,rfl⟩) rfl
 constructor
 ·intro d
  refine⟨i.mem_iff.1 (Qq _ d),fun e=>?_⟩;exact o (j.2 ⟨i.mem_iff.1 (Qq _ d),e⟩) d
 ·rintro⟨d,hne⟩
  rcases List.mem_append.1 (i.mem_iff.2 d)with h1|h1
  ·exact absurd (j.1 h1).2 hne
  ·exact h1
theorem WM.old{w0 wr:MO}{base T B M n0 n:Nat}{now now0:Int}{vs:List M7}{ls0 ls:List (List Tm)}{f0 f:Int->Option Int}(h0:WM w0 base T B M n0 now0 vs ls0 f0)(h:WM wr base T B M n now vs ls f)(hk:∀g,g<w0.heap.size->w'.heap[g]?=wr.heap[g]?):WM w' base T B M n now vs ls f:=by
 have d:=(Array.getElem?_eq_some_iff.1 h0.box).1;have e:vs.length=25:=by rw[h0.own.each.1,h0.len]
 refine⟨(hk T d).trans h.box,⟨W8 h.own.row fun g hg=>hk g (h0.own.row.lt g hg).2,⟨h.own.each.1,fun i h1 h2=>?_⟩,h.own.apart⟩,h.map.Gf (hk M h0.map.lt),h.offT,h.offM,h.hT,h.hM,h.hTM,h.len⟩;exact W8 (h.own.each.2 i h1 h2) fun g hg=>hk g ((h0.own.each.2 i h1 (by rw[<-h0.own.each.1];exact h1)).lt g hg).2
theorem aaj.IX{w:MO}{n:Nat}{f:Int->Option Int}(h:aaj w b n f){id:Int}(hid:(N6 ME id).wf=Nw)(ty:NU):
  ∃w' f',(Builtin.delete_ #[242,3] ty #[P0 (MI b),MF ME id]).run MK w=.ok (Nv #[]) w'/\aaj w' b n f'/\w.grownBy w' (MI b):=by
 obtain⟨D,j,r⟩:=h;obtain⟨w',l,o,s⟩:=j.drop agW ay0 (Qg Ol hid) ty;obtain⟨A,v,z,u,q,rfl⟩:=s;refine⟨_,fun k=>if k=id then MH else f k,l,⟨_,o,fun k hk=>?_⟩,⟨rfl,rfl,rfl,by simp[Go.ChangeMaps.setBlock],fun i _ hi=>Go.ChangeMaps.heap_setBlock_other q _ (fun e=>hi (by rw[e]))⟩⟩
 dsimp only
 by_cases e:k=id
 ·subst e
  rw[Nh rfl];exact⟨Maps.has_del_same,fun y hy=>by cases hy⟩
 ·rw[Nf e]
  have d:N6 ME k≠N6 ME id:=fun h=>e (by cases h;rfl)
  rw[Maps.has_del_other d,Maps.atKey_del_other d];exact r k hk
theorem WM.II{w:MO}{base T B M n:Nat}{now:Int}{vs:List M7}{ls:List (List Tm)}{f f':Int->Option Int}(h:WM w base T B M n now vs ls f)(hm:aaj w' M n f')(hg:w.grownBy w' (MI M)):WM w' base T B M n now vs ls f':=by
 refine⟨(hg.block T (Array.getElem?_eq_some_iff.1 h.box).1 (fun e=>h.hTM (NC e))).trans h.box,h.own.If hg fun u hu g hg' e=>?_,hm,h.offT,h.offM,h.hT,h.hM,h.hTM,h.len⟩;exact h.offM u hu (by rw[hg',NC e])
def abM(l:List Tm):List Value:=l.map fun t=>MF ME t.2
theorem awj(m:Int)(h:0<=m):Xq m m=m % 8:=by unfold Xq;rw[Nh rfl]
theorem avO(base T B M n:Nat)(m:Int)(vs:List M7)(ls:List (List Tm))(f:Int->Option Int)(p:Nat)(L:List Tm)(w:MO)(hB:Xo w)(hT:WM w base T B M n m vs ls f)(hb0:0<base)(hbase:base<=w.heap.size)(hn:0<=m)(hn2:m<=1099511627776)
  (hp:m % 8=(p:Int)) (hL:ls[p]?=MI L) (hLb:∀t∈L,(N6 ME t.2).wf=Nw) (hLl:L.length<=1048576) :
  Ni MK 157 #[Na (MI ⟨T,0,MH⟩)] w fun r w'=>∃v vs' f',r=MN v/\w'.ownsRow w.heap.size 3 1 v L.length (abM L)/\WM w' base T B M n m vs' (ls.set p []) f'/\MQ base w w':=by
 obtain⟨i0,hi,e7,e9,d7⟩:=OF adB;obtain⟨t0,t1,t2,h9⟩:=YS hT.box;have b6:p<25:=by omega
 have G:p<ls.length:=by rw[hT.len];exact b6
 obtain⟨u,R,E⟩:=aet hT.own p G;have i4:=aes hT.own hT.len p G u R;have P:ls[p]=L:=by rw[MR G]at hL;exact NC hL
 rw[P]at E;have g6:=(hT.own.row.lt B rfl).2;have e8:=(hT.own.row.lt B rfl).1;have g3:M6 (∀q,Ni MK 200 #[MF ME m,MF ME m] (w.drewN q) fun e w'=>e=MN (MF ME (p:Int))/\∃k,w'=(w.drewN q).drewN k):=fun q=>by
  rw[<-hp,<-awj m hn];exact ajD m m _ (hB.IQ q) hn (by omega) hn (by omega)
 obtain⟨up,uc,rfl⟩:=Y6 E;have V:=Yr E;have s:M6 (_/\_/\_/\_/\_/\_):=⟨hT,V,hLb,R,E,P⟩;have h7:(p:Int)<25:=by omega
 clear hT V hLb R E hL P hp hB;go_enter Tryz.func157,Tryz.ntmps157
 go_wp2_with fail
 go_quiet ((go_at_call 200;exact Qe (g3.out _)))
 go_wp2
 go_loopw [4,27] (fun off i wr=>∃(k:Nat) (f':Int->Option Int),i=MF ME k/\k<=L.length/\wr.ownsRow w.heap.size 3 1 off k (abM (L.take k))/\WM wr base T B M n m vs ls f'/\MQ base w wr/\w.heap.size<=wr.heap.size) (fun _ i _=>L.length-(On i).toNat)
 case atStart=>exact⟨0,f,rfl,Nx _,NY _ _ _ _,s.out.1.below (ajp (MY _ _) nq),ajp (MY _ _) nq,MV _⟩
 case round =>
  obtain⟨k,f',rfl,hk,A,hT,I,f9⟩:=hrel
  by_cases hlt:k<L.length
  ·obtain⟨u2,c8,F⟩:=aet hT.own p G
   rw[s.out.2.2.2.1]at c8;obtain rfl:=NC c8;rw[s.out.2.2.2.2.2]at F;obtain⟨g,c',Y,g8,i7⟩:=F.form (by omega);simp only[N4]at Y;obtain⟨rfl,_,rfl⟩:=Y;have U:=aaT L k hlt;rw[<-F.cellAt _ (by omega),<-F.cellAt _ (by omega)]at U;obtain⟨D,c7⟩:∃D,L[k].1=D:=⟨_,rfl⟩;obtain⟨l,J⟩:∃l,L[k].2=l:=⟨_,rfl⟩;rw[c7,J]at U;obtain⟨e1,e2⟩:=U;have d9:(N6 ME l).wf=true:=by rw[<-J];exact s.out.2.2.1 _ (Nk hlt)
   have Z:abM (L.take (k+1))=abM (L.take k)++[MF ME l]:=by
    rw[M9 hlt,<-J];unfold abM;rw[OI];rfl
   have i5:(k:Int)<(L.length:Int):=by omega
   have HN:M6 (∀j y,[MF ME l][j]?=MI y->((wr.alloc (MP #[MF ME D,MF ME l] 166)).alloc (MP #[MF ME l] 3)).cell? ((⟨wr.heap.size+1,0,MH⟩:Oc).add j)=MI y):=by
    have h:=acR (wr.alloc (MP #[MF ME D,MF ME l] 166)) [MF ME l] 3;have hs:(wr.alloc (MP #[MF ME D,MF ME l] 166)).heap.size=wr.heap.size+1:=by simp
    rw[hs]at h;exact h
   have d:M6 (_/\_/\_/\_/\_):=⟨A,hT,I,Z,f9⟩;clear A hT I Z F c7 J
   go_wp2_with (first|(at_builtin;refine O9 _ rfl _ _ 34 rfl w.heap.size 3 i0 _ 1 8 O5 hi e7 e9 d7 rfl (by decide) u4 k _ rfl ((d.out.1.alloc _).alloc _) _ 1 1 [MF ME l] rfl rfl HN.out (by intro y hy;rw[List.mem_singleton.1 hy];rfl) (by decide) (by unfold NE;omega) (by omega) (by simp;omega) _ rfl ?_;intro g' f8 z H C d6 g4))
   have Q:∀q,q<w.heap.size->z.heap[q]?=wr.heap[q]?:=fun q hq=>by
    rw[C.block q (by simp;omega) (fun e=>by have:=(d.out.1.lt q e.symm).1;omega)];exact(((MY _ wr).alloc (MV _) _).alloc (by simp) _).block q (by omega)
   have hK:z.cell? ⟨wr.heap.size,1,MH⟩=MI (MF ME l):=by
    have h1:z.heap[wr.heap.size]?=MI (MP #[MF ME D,MF ME l] 166 (0,0)):=by
     rw[C.block wr.heap.size (by simp;omega) (fun e=>by have:=(d.out.1.lt _ e.symm).2;omega)];exact Xy _ _ (M1 _ _)
    simp[Nl,h1]
   have h8:wr.heap.size<z.heap.size:=MX z ⟨wr.heap.size,1,MH⟩ hK;have g7:=d.out.2.2.2.2;have O:=s.out.1.old d.out.2.1 Q;have N:WM z.drew base T B M n m vs ls f':=O.Gf fun _ _ _=>rfl
   obtain⟨c0,c1,c2,d8⟩:=YS O.box;obtain⟨w3,f3,i3,c9,o⟩:=N.map.IX d9 0;have b7:=N.II c9 o;have a0:w3.ownsRow w.heap.size 3 1 (MG (MI ⟨g',0,MH⟩) (k+1) f8) (k+1) (abM (L.take (k+1))):=by
    rw[d.out.2.2.2.1];refine W8 H fun q hq=>?_
    rw[o.block q (H.lt q hq).2 (fun e=>by have:=(H.lt q hq).1;have:=s.out.1.map.lt;have:=NC e;omega)];rfl
   have b5:MQ base w w3:=by
    refine⟨o.os.trans (C.os.trans d.out.2.2.1.os),o.tape.trans (C.tape.trans d.out.2.2.1.tape),o.output.trans (C.output.trans d.out.2.2.1.output),Nm d.out.2.2.1.size (Nm (show wr.heap.size<=z.heap.size by omega) o.size),fun q hq=>?_⟩;rw[o.block q (by show q<z.heap.size;omega) (fun e=>by have:=s.out.1.hM;have:=NC e;omega)];exact(Q q (by omega)).trans (d.out.2.2.1.block q hq)
   have K:M6 (_/\_/\_/\_):=⟨a0,b7,b5,Nm (show w.heap.size<=z.heap.size by omega) o.size⟩;clear a0 b7 b5 c9 o O N Q H C d6 e1 e2
   go_region
   go_wp2
   go_roundw
   case rel=>exact⟨k+1,f3,by simp,hlt,K.out.1,K.out.2.1,K.out.2.2.1,K.out.2.2.2⟩
   case measure=>simp[On];omega
  ·obtain rfl:k=L.length:=by omega
   rw[NT]at A;obtain⟨c0,c1,c2,d8⟩:=YS hT.box;have i6:=aes hT.own hT.len p G _ s.out.2.2.2.1;have g9:wr.frozen? ⟨B,p,MH⟩=false:=by
    have b8:=hT.own.row;rw[hT.len]at b8;exact b8.frozenAt p
   have b9:=hT.Gc b6 s.out.2.2.2.1;have b4:∀g,u4.ownBlock=MI g->g≠B:=fun g hg e=>by have:=(A.lt g hg).1;omega
   have d:M6 (_/\_/\_/\_):=⟨A,b9,I,b4⟩;clear A hT b9 I b4;go_wp2;go_ret;refine⟨_,_,f',rfl,W8 d.out.1 fun g hg=>MU _ _ _ _ (d.out.2.2.2 g hg),d.out.2.1.1,d.out.2.2.1.setCell e8 _⟩
theorem Ok.good{now:Int}{ls:List (List Tm)}(h:Ok now ls)(hn:0<=now)(ht:ls.flatten.length<=1048576):XJ ls:=by
 refine⟨h.srt,fun t htm=>?_,ht⟩;obtain⟨l,j,d⟩:=List.mem_flatten.1 htm;obtain⟨i,e,rfl⟩:=NV j;exact aer (h.fit i _ (MR e) t d).1 hn
def ZZ(m:Int):Nat:=(m % 8).toNat
theorem avC(v:M7)(now:Int)(ls:List (List Tm))(w:MO)(hB:Xo w)(hx:Zo w v ls)(htot:ls.flatten.length<=1048576)(hm:Y9 now ls) :
  Ni MK 114 #[Ny #[MF ME now,v]] w fun r w'=>MQ w.heap.size w w' /\
   ((now=1099511627776/\r=MN (Nv #[Ny #[MF ME 0,MG MH 0 0],MG MH 0 0,MF ME 9])) \/
     (now<1099511627776/\∃u vs x,r=MN (Nv #[Ny #[MF ME (now+1),u],x,MF ME 0])/\WZ w' w.heap.size u vs ((XO ls (now+1)).set (ZZ (now+1)) []) /\
      w'.ownsRow w.heap.size 3 1 x ((XO ls (now+1)).getD (ZZ (now+1)) []).length (abM ((XO ls (now+1)).getD (ZZ (now+1)) [])))):=by
 obtain⟨a,U,rfl,_⟩:=hx.F6;have a0:∀l∈ls,l.length<=1048576:=fun l q=>Nm (adc q) htot
 have b6:∀W,MQ w.heap.size w W->Xo W/\Zo W (MG a ls.length U) ls:=fun W h=>⟨hB.below h,hx.below h⟩
 have hG:=hm.2.good hm.1.1 htot;have e:M6 (_/\_/\_/\_):=⟨b6,a0,hm,hG⟩;have d9:=hB.lt;obtain⟨hn,g3⟩:=hm.1;clear b6 a0 hm hx hB hG;go_enter S7,SF
 go_wp2_with fail
 have y:MQ w.heap.size w ((w.alloc (MP #[MF ME now,MG a ls.length U] 59)).alloc (MP #[MF ME 0,MG MH 0 0] 59)):=((MY _ _).alloc (MV _) _).alloc (by simp) _;refine(ajJ _ now ls _ (e.out.1 _ y).1 (e.out.1 _ y).2 e.out.2.1).mono ?_;rintro r i ⟨P,⟨_,T,B,M,n,vs,f,rfl,V,hF,b8⟩|⟨H,_⟩⟩
 ·have s:i.heap[w.heap.size+1]?=MI (MP #[MF ME 0,MG MH 0 0] 59 (0,0)):=(P.block _ (by simp)).trans (Yu _ _ _)
  have C:=y.trans (P.mono y.size);rw[show((w.alloc (MP #[MF ME now,MG a ls.length U] 59)).alloc (MP #[MF ME 0,MG MH 0 0] 59)).heap.size+2=w.heap.size+4 by simp]at V;obtain⟨z,G⟩:∃z,z=i.alloc (MP #[MF ME now,MG (MI ⟨B,0,MH⟩) 25 25,P0 (MI M)] 244):=⟨_,rfl⟩;have L:MQ i.heap.size i z:=by rw[G];exact(MY _ _).alloc (MV _) _
  have F:WM z (w.heap.size+4) i.heap.size B M n now vs ls f:=by rw[G];exact V.Iu
  have b7:=(L.block _ (Array.getElem?_eq_some_iff.1 s).1).trans s;have b5:=C.trans (L.mono C.size);have e8:=F.hT;have e9:=(Array.getElem?_eq_some_iff.1 F.box).1;have d8:=(Array.getElem?_eq_some_iff.1 s).1;have d7:w.heap.size<i.heap.size:=by omega
  obtain⟨c0,c1,f0,f1,f8⟩:=Xa s;have j:M6 (_/\_/\_/\_/\_):=⟨F,b8,b7,b5,G⟩;have HQ:M6 (_/\_):=⟨s,C⟩;clear s P y V hF b8 L F b7 b5 C G
  by_cases hfull:now=1099511627776
  ·subst hfull
   go_wp2;have hf:=Xy _ (MP #[MF ME 1099511627776,MG (MI ⟨B,0,MH⟩) 25 25,P0 (MI M)] 244) (acb (c:=MF ME 0) (d:=MG MH 0 0) HQ.out.1);obtain⟨R,Q,_⟩:=Xa hf;refine Np (v:=Nv #[Ny #[MF ME 0,MG MH 0 0],MG MH 0 0,MF ME 9]) (by simp[Pf,Vy,go_sem,R,Q]) rfl ⟨?_,by first|exact .inl ⟨rfl,rfl⟩|rfl⟩;have H:=((HQ.out.2.setCell (p:=⟨w.heap.size+1,0,MH⟩) (by simp) (MF ME 0)).setCell (p:=⟨w.heap.size+1,1,MH⟩) (by simp) (MG MH 0 0));exact H.alloc H.size _
  ·have g4:(now == 1099511627776)=false:=by simp;exact hfull
   have Z:now<1099511627776:=by omega
   clear hfull
   go_wp2_with fail
   rw[<-j.out.2.2.2.2];refine(awn (w.heap.size+4) i.heap.size B M n now vs ls f z (e.out.1 _ j.out.2.2.2.1).1 j.out.1 (by omega) (by omega) hn Z e.out.2.2.2 j.out.2.1).mono ?_;rintro r w3 ⟨rfl,c8,n3,f3,I,d6,E⟩;obtain⟨m,hm⟩:∃m,m=now+1:=⟨_,rfl⟩;rw[<-hm]at I;have c7:m % 8=(ZZ m:Int):=by unfold ZZ;omega
   have D:=e.out.2.2.2.GR m;have b4:ZZ m<25:=by unfold ZZ;omega
   have q:(XO ls m)[ZZ m]?=MI ((XO ls m).getD (ZZ m) []):=by simp[Pq,MR (show ZZ m<(XO ls m).length by rw[D.srt.len];exact b4)]
   have b9:Xo w3:=(e.out.1 _ j.out.2.2.2.1).1.Gf (E.block 0 (by omega));have e7:=E.size;have HG:=avO (w.heap.size+4) i.heap.size B M n3 m c8 (XO ls m) f3 (ZZ m) _ w3 b9 I (by omega) (by omega) (by omega) (by omega) c7 q (fun t ht=>(D.bnd t (List.mem_flatten.2 ⟨_,Nu q,ht⟩)).2.2) (Nm (adc (Nu q)) D.tot);have o:M6 (_/\_/\_):=⟨HG,E,hm⟩;clear HG E hm I d6 b9 q D c7 b4
   go_wp2_with fail
   refine o.out.1.mono ?_;rintro r w4 ⟨x,c9,f4,rfl,N,O,J⟩;have K:=(J.block (w.heap.size+1) (by omega)).trans ((o.out.2.1.block (w.heap.size+1) (by omega)).trans j.out.2.2.1);obtain⟨d0,d1,y0,y1,f9⟩:=Xa K;obtain⟨q0,q1,q2,q3⟩:=YS O.box;obtain⟨xp,xc,rfl⟩:=Y6 N;have Y:MQ w.heap.size w w4:=(j.out.2.2.2.1.trans (o.out.2.1.mono (by omega))).trans (J.mono (by omega));have A:M6 (_/\_/\_/\_):=⟨K,O,Y,N⟩;clear K O Y N J c0 c1 f0 f1;go_wp2;obtain⟨R,Q⟩:=adR (c:=MF ME m) (d:=MG (MI ⟨B,0,MH⟩) 25 25) A.out.1;refine Np (v:=Nv #[Ny #[MF ME m,MG (MI ⟨B,0,MH⟩) 25 25],MG xp ((XO ls m).getD (ZZ m) []).length xc,MF ME 0]) (by simp[Pf,Vy,go_sem,R,Q]) rfl ⟨?_,NF ⟨Z,MG (MI ⟨B,0,MH⟩) 25 25,c9,MG xp ((XO ls m).getD (ZZ m) []).length xc,?_,?_,?_⟩⟩
   ·exact((A.out.2.2.1.setCell (p:=⟨w.heap.size+1,0,MH⟩) (by simp) _).setCell (p:=⟨w.heap.size+1,1,MH⟩) (by simp) _)
   ·rw[<-o.out.2.2]
   ·rw[<-o.out.2.2]
    exact(A.out.2.1.own.Hh (g:=w.heap.size+1) (by omega) _ _).GV (by omega)
   ·rw[<-o.out.2.2]
    refine W8 (A.out.2.2.2.mono (by omega)) fun g hg=>?_
    have:=(A.out.2.2.2.lt g hg).1;rw[MU _ _ _ _ (by simp;omega),MU _ _ _ _ (by simp;omega)]
 ·exact absurd e.out.2.2.1 H
theorem ajB:∀(k:Nat) (l:List Int),l.Nodup->(∀x∈l,0<=x/\x<(k:Int))->l.length<=k
 |0,l,_,h=>by
  cases l with
  |nil=>exact MV _
  |cons a l=>have:=h a (NM ..);omega
 |k+1,l,hn,h=>by
  by_cases hk:(k:Int)∈l
  ·have j:=ajB k (l.erase (k:Int)) (hn.erase _) fun x hx=>by
    have d:=(hn.mem_erase_iff).1 hx;have:=h x d.2;have i:=d.1;omega
   have n:=List.length_erase_of_mem hk;have i:=Qj hk;omega
  ·have j:=ajB k l hn fun x hx=>by
    have:=h x hx;have i:x≠(k:Int):=fun e=>hk (e ▸ hx)
    omega
   omega
theorem Ok.I5{now:Int}{ls:List (List Tm)}(h:Ok now ls)(ht:t∈ls.flatten):Zg now t=true:=by
 obtain⟨l,j,d⟩:=List.mem_flatten.1 ht;obtain⟨i,e,rfl⟩:=NV j;exact(h.fit i _ (MR e) t d).1
theorem Ok.Hr{now:Int}{ls:List (List Tm)}(h:Ok now ls):ls.flatten.length<=200:=by
 have d:=ajB 200 _ h.ids fun x hx=>by
  obtain⟨t,e,rfl⟩:=List.mem_map.1 hx;have:=(ada now t).1 (h.I5 e);omega
 rwa[N0]at d
theorem Ok.Ia{now:Int}{ls:List (List Tm)}(h:Ok now ls):ls.flatten.length<=1048576:=Nm h.Hr (by omega)
theorem anV{w:MO}{base:Nat}{v:M7}{vs:List M7}{ls:List (List Tm)}(h:WZ w base v vs ls){n:Nat}(hn:ls.length=n):∃p c,v=MG p n c:=by
 obtain⟨p,c,rfl⟩:=Y6 h.row;exact⟨p,c,by rw[hn]⟩
def adP(w:MO)(base:Nat)(p:Option Oc)(c:Nat)(ls:List (List Tm)):Prop:=∃vs,WZ w base (MG p 25 c) vs ls
theorem adP.GV{w:MO}{base c:Nat}{p:Option Oc}{ls:List (List Tm)}(h:adP w base p c ls)(hb:b<=base):adP w b p c ls:=h.elim fun vs h=>⟨vs,h.GV hb⟩
theorem avD(v:M7)(now id x:Int)(ls:List (List Tm))(w:MO)(hB:Xo w)(hx:Zo w v ls)(hm:Y9 now ls)(hf:Zg now (x,id)=Nw)(hn:∀t∈ls.flatten,t.2≠id) :
  Ni MK 128 #[Ny #[MF ME now,v],MF ME id,MF ME x] w fun r w'=>∃p c,r=MN (Nv #[Ny #[MF ME now,MG p 25 c],MF ME 0])/\adP w' w.heap.size p c (ZK ls now (x,id))/\Y9 now (ZK ls now (x,id))/\MQ w.heap.size w w':=by
 have i:=hm.ID hf hn;refine(avE v now id x ls w hB hx (fun l hl=>Nm (adc hl) hm.2.Ia) hm (aer hf hm.1.1).2.2).mono ?_;rintro r w' ⟨j,⟨d,_⟩|⟨_,d,_⟩|⟨_,_,u,n,rfl,e⟩⟩
 ·rw[hf]at d;cases d
 ·exact absurd hn d
 ·obtain⟨p,c,rfl⟩:=anV e i.2.len
  exact⟨p,c,rfl,⟨_,e⟩,i,j⟩
structure Z8(now:Int)(ls ms:List (List Tm))(L:List Tm):Prop where
 may:Y9 (now+1) ms
 left:∀t,t∈ms.flatten↔t∈ls.flatten/\t.1≠now+1
 off:∀t,t∈L↔t∈ls.flatten/\t.1=now+1
 ord:L.Pairwise (fun a b=>Xe a b<0)
 len:L.length<=200
theorem av3{now:Int}{ls:List (List Tm)}(hm:Y9 now ls)(hlt:now<1099511627776):Z8 now ls ((XO ls (now+1)).set (ZZ (now+1)) []) ((XO ls (now+1)).getD (ZZ (now+1)) []):=by
 have d:=hm.2.good hm.1.1 hm.2.Ia;have e:=d.GR (now+1);have j:(XO ls (now+1))[ZZ (now+1)]?=MI ((XO ls (now+1)).getD (ZZ (now+1)) []):=by
  simp[Pq,MR (show ZZ (now+1)<(XO ls (now+1)).length by rw[e.srt.len];exact afv _)]
 refine⟨awb hm hlt d,fun t=>av9 hm d t,anU hm.2 hm.1.1 d,e.srt.ord _ (Nu j),?_⟩;have i:=adc (Nu j);rw[(agX d (now+1)).length_eq]at i;exact Nm i hm.2.Hr
theorem anG(v:M7)(now:Int)(ls:List (List Tm))(w:MO)(hB:Xo w)(hx:Zo w v ls)(hm:Y9 now ls)(hlt:now<1099511627776) :
  Ni MK 114 #[Ny #[MF ME now,v]] w fun r w'=>∃p c xp xc ms L,r=MN (Nv #[Ny #[MF ME (now+1),MG p 25 c],MG xp L.length xc,MF ME 0])/\adP w' w.heap.size p c ms/\Z8 now ls ms L /\
   w'.ownsRow w.heap.size 3 1 (MG xp L.length xc) L.length (abM L)/\MQ w.heap.size w w':=by
 have e:=av3 hm hlt;refine(avC v now ls w hB hx hm.2.Ia hm).mono ?_;rintro r w' ⟨i,⟨l,_⟩|⟨_,u,j,x,rfl,d,hx⟩⟩
 ·omega
 ·obtain⟨p,c,rfl⟩:=anV d e.may.2.len
  obtain⟨xp,xc,rfl⟩:=Y6 hx;exact⟨p,c,xp,xc,_,_,rfl,⟨_,d⟩,e,hx,i⟩
theorem agT(a b id:Int)(g:Nat)(w:MO)(h:w.cell? ⟨g,0,MH⟩=MI (MF ME id)) :
  Ni MK 238 #[Ny #[MF ME a,MF ME b],Na (MI ⟨g,0,MH⟩)] w fun r w'=>r=MN (M3 (Nn (b=id)))/\w'=w.alloc (MP #[MF ME a,MF ME b] 166):=by
 have e:g<w.heap.size:=MX w ⟨g,0,MH⟩ h
 by_cases hb:b=id
 ·subst hb
  go_enter axU,axT;go_wp2;go_ret;exact⟨by simp,rfl⟩
 ·have i:(b == id)=false:=by simpa using hb
  have d:Nn (b=id)=false:=M0 hb;rw[d];clear hb;go_enter axU,axT;go_wp2;go_ret;exact⟨rfl,rfl⟩
theorem avW(v:M7)(l:List Tm)(id:Int)(g:Nat)(w:MO)(hv:Xz w v l)(h:w.cell? ⟨g,0,MH⟩=MI (MF ME id))(hex:∃t∈l,t.2=id) :
  Ni MK 159 #[v,PB (PD 238) #[] #[Na (MI ⟨g,0,MH⟩)]] w fun r w'=>∃(k:Nat) (hk:k<l.length),r=MN (MF ME k)/\l[k].2=id/\(∀t∈l.take k,t.2≠id)/\MQ w.heap.size w w':=by
 obtain⟨a,P,rfl,N,J,C⟩:=hv.F6;unfold NE at J;have I:=MX w ⟨g,0,MH⟩ h;have F:M6 (_/\_):=⟨h,hex⟩;clear h hex hv;go_enter RT,RJ;go_wp2
 go_loopw [8] (fun i wr=>∃k:Nat,i=MF ME k/\k<=l.length/\(∀t∈l.take k,t.2≠id)/\MQ w.heap.size w wr) (fun i _=>l.length-(On i).toNat)
 case atStart=>exact⟨0,rfl,Nx _,by simp,MY _ _⟩
 case round =>
  obtain⟨k,rfl,hk,s,n⟩:=hrel
  by_cases hlt:k<l.length
  ·obtain⟨H,E,rfl,y,c1,G⟩:=C k hlt
   have L:=(n.cell (p:=⟨H,E+k*2,MH⟩) y).trans c1;have M:=(n.cell (p:=⟨H,E+k*2+1,MH⟩) y).trans G;have D:=(n.cell (p:=⟨g,0,MH⟩) I).trans F.out.1;have j:M6 (_/\_/\_):=⟨s,n,D⟩;have O:(k:Int)<(l.length:Int):=by omega
   have B:l.take (k+1)=l.take k++[l[k]]:=M9 hlt;obtain⟨q,A⟩:∃q,q=l[k].1:=⟨_,rfl⟩;obtain⟨o,u⟩:∃o,o=l[k].2:=⟨_,rfl⟩;rw[<-A]at L;rw[<-u]at M;have z:M6 (_/\_):=⟨B,u⟩;clear s n c1 G y B A u D C;cases hd:Nn (o=id)
   ·go_wp2_with fail
    refine(agT q o id g _ j.out.2.2).mono ?_;rw[hd];rintro r K ⟨rfl,rfl⟩;go_wp2
    go_roundw
    case rel =>
     refine⟨k+1,by simp,hlt,fun t d=>?_,j.out.2.1.alloc j.out.2.1.size _⟩;rw[z.out.1]at d;rcases List.mem_append.1 d with d|d
     ·exact j.out.1 t d
     ·rw[List.mem_singleton.1 d,<-z.out.2]
      exact Nc hd
    case measure=>simp[On];omega
   ·go_wp2_with fail
    refine(agT q o id g _ j.out.2.2).mono ?_;rw[hd];rintro r K ⟨rfl,rfl⟩;go_wp2;go_ret;exact⟨k,hlt,rfl,by rw[<-z.out.2];exact M2 hd,j.out.1,j.out.2.1.alloc j.out.2.1.size _⟩
  ·exfalso
   obtain⟨t,d,e⟩:=F.out.2;exact s t (by rw[N1 (by omega)];exact d) e
theorem awt(W:MO):(zeroValue 166).run MK W=.ok (Ny #[MF ME 0,MF ME 0]) W:=by kernel_rfl
theorem avL(base g c:Nat)(l:List Tm)(id:Int)(gid:Nat)(w:MO)(hown:w.ownsRow base 166 2 (MG (MI ⟨g,0,MH⟩) l.length c) l.length (WP l))(h:w.cell? ⟨gid,0,MH⟩=MI (MF ME id))(hne:gid≠g)(hex:∃t∈l,t.2=id) :
  Ni MK 237 #[MG (MI ⟨g,0,MH⟩) l.length c,PB (PD 238) #[] #[Na (MI ⟨gid,0,MH⟩)]] w fun r w'=>r=MN (MG (MI ⟨g,0,MH⟩) (kp l id).length c)/\w'.ownsRow base 166 2 (MG (MI ⟨g,0,MH⟩) (kp l id).length c) (kp l id).length (WP (kp l id))/\w.grownBy w' (MI g):=by
 have O:=avW _ l id gid w (Yr hown) h hex;have b7:=MX w ⟨gid,0,MH⟩ h;have b6:l.length<=c/\c<=maxLen:=by
  obtain⟨_,c',he,hc,hm,_⟩:=Yr hown;cases he;exact⟨hc,hm⟩
 obtain⟨g7,d7⟩:=b6;unfold NE at d7;have L:M6 (_/\_/\_):=⟨O,hown,h⟩;clear O hown h hex;go_enter Tryz.func237,Tryz.ntmps237
 go_wp2_with fail
 refine L.out.1.mono ?_;rintro r w1 ⟨k,hk,rfl,M,N,y⟩;have v:kp (l.take k) id=l.take k:=aiI N;have H:=afh (junk:=[]) hk M;have H1:M6 (_/\_/\_/\_):=⟨y,v,H.1,H.2⟩;have g3:((k:Int) == -1)=false:=by
  rw[Oh];omega
 clear y v H M N;go_wp2
 go_loopw [5,6] (fun s5 s6 wr=>∃(j:Nat) (junk:List Tm),s5=MF ME ((kp (l.take j) id).length:Nat)/\s6=MF ME j/\j<=l.length/\(kp (l.take j) id).length+junk.length=j/\junk≠[]/\wr.ownsRow base 166 2 (MG (MI ⟨g,0,MH⟩) l.length c) l.length (WP (XE l id junk j))/\w.grownBy wr (MI g)) (fun _ s6 _=>l.length-(On s6).toNat)
 case atStart =>
  obtain⟨y,v,c8,c7⟩:=H1.out;have e0:XE l id [l[k]] (k+1)=l:=by
   have:XE l id ([]++[l[k]]) (k+1)=XE l id [] k:=c8;rw[Oz]at this;rw[this];unfold XE;rw[v,OG,Oo]
  have C:(kp (l.take (k+1)) id).length=k:=by rw[c7,v,NH];omega
  refine⟨k+1,[l[k]],by rw[C],by simp,hk,by rw[C];rfl,by simp,?_,aiH y⟩;rw[e0];exact agD L.out.2.1 y
 case round =>
  obtain⟨j,junk,rfl,rfl,hj,b4,Z,d,o⟩:=hrel;have b9:=aiM hj b4;have D:wr.cell? ⟨gid,0,MH⟩=MI (MF ME id):=o.cell L.out.2.2 (by simpa using hne);obtain⟨x,n,rfl⟩:∃x n,junk=x::n:=by
   cases junk with
   |nil=>exact absurd rfl Z
   |cons x r=>exact⟨x,r,rfl⟩
  rw[Ox]at b4;have b5:gid<wr.heap.size:=M8 b7 o.size;have e9:=(d.lt g rfl).2;generalize e:(kp (l.take j) id).length=i at *
  by_cases hlt:j<l.length
  ·have V:=aiL (id:=id) (junk:=x::n) hlt (by rw[e,Ox];omega)
   obtain⟨Y,Q⟩:=List.getElem?_eq_some_iff.1 V
   have A:=aaT (XE l id (x::n) j) j Y;rw[Q]at A;have f1:=(d.cellAt (j*2) (by omega)).trans A.1;have f2:=(d.cellAt (j*2+1) (by omega)).trans A.2;have J:=aaT (XE l id (x::n) j) i (by omega);have f3:=(d.cellAt (i*2) (by omega)).trans J.1;have f4:=(d.cellAt (i*2+1) (by omega)).trans J.2;have f5:=d.frozenAt (i*2);have f6:=d.frozenAt (i*2+1);obtain⟨u,K⟩:∃u,u=l[j].1:=⟨_,rfl⟩;obtain⟨q,I⟩:∃q,q=l[j].2:=⟨_,rfl⟩;rw[<-K]at f1;rw[<-I]at f2;generalize ((XE l id (x::n) j)[i]'(by omega)).1=oa at f3;generalize ((XE l id (x::n) j)[i]'(by omega)).2=od at f4;have s:l[j]=(u,q):=by rw[K,I]
   have B:M6 (_/\_/\_/\_/\_):=⟨d,o,D,s,e⟩;have g6:(j:Int)<(l.length:Int):=by omega
   have d8:(i:Int)<(l.length:Int):=by omega
   have d9:i<j:=by omega
   have f8:i<l.length:=by omega
   clear d o D V Q A J K I s Y e Z;have a0:((wr.alloc (MP #[MF ME u,MF ME q] 166))).cell? ⟨gid,0,MH⟩=MI (MF ME id):=by
    rw[NG (a:=⟨gid,0,MH⟩) (Ov wr _ gid b5)];exact B.out.2.2.1
   have U:M6 _:=a0;clear a0;cases hd:Nn (q=id)
   ·go_wp2_with fail
    refine(agT u q id gid _ U.out).mono ?_;rw[hd];rintro r w2 ⟨rfl,rfl⟩;go_wp2
    go_roundw
    case rel =>
     obtain⟨d,o,D,s,e⟩:=B.out;have b8:l[j].2≠id:=by rw[s];exact Nc hd
     obtain⟨E,z⟩:=aiN (x:=x) (junk:=n) hlt b8;have T:=d.stored (i*2) (MF ME u);have G:=T.1.stored (i*2+1) (MF ME q);have d6:=afj (XE l id (x::n) j) i (u,q);rw[d6]at G;rw[e,s]at E;refine⟨j+1,n++[l[j]],by rw[z,Ns,e];simp,by simp,hlt,by rw[z,Ns,e];simp;omega,by simp,?_,?_⟩
     ·rw[s,E];exact(G.1.alloc _).alloc _
     ·exact(((o.trans T.2).trans G.2).trans (OL _ _ _)).trans (OL _ _ _)
    case measure=>simp[On];omega
   ·go_wp2_with fail
    refine(agT u q id gid _ U.out).mono ?_;rw[hd];rintro r w2 ⟨rfl,rfl⟩;go_wp2
    go_roundw
    case rel =>
     obtain⟨d,o,D,s,e⟩:=B.out;have c9:l[j].2=id:=by rw[s];exact M2 hd
     obtain⟨E,z⟩:=afh (junk:=x::n) hlt c9;refine⟨j+1,x::n++[l[j]],by rw[z,e],by simp,hlt,by rw[z,e];simp;omega,by simp,?_,?_⟩
     ·rw[E];exact(d.alloc _).alloc _
     ·exact(o.trans (OL _ _ _)).trans (OL _ _ _)
    case measure=>simp[On];omega
  ·obtain rfl:j=l.length:=by omega
   have g4:i<l.length:=by omega
   obtain⟨vs,f9⟩:=aiR (P:=MK) wr 163 166 0 (MF ME 0) (MF ME 0) Ls awt rfl rfl g (i*2) (l.length-i) (c-i) (by omega) (fun t A=>by
    have h1:=d.cellAt (i*2+t) (by omega);rw[h1,MR (by rw[YE,b9];omega)];rfl) (fun t _=>d.frozenAt _)
   have F:=aeh vs (i*2) wr (agE d (i:=i) (by omega)) (MV _);have C:(WP (XE l id (x::n) l.length)).take (i*2)=WP (kp l id):=by
    have e2:kp (l.take l.length) id=kp l id:=by rw[NT]
    rw[e2]at e;rw[ac4];unfold XE;rw[e2,OC,ZqA (by omega),<-e,NT]
   rw[C]at F;have R:(kp l id).length=i:=by rw[<-e,NT]
   have B:M6 (_/\_/\_):=⟨F,o,R⟩;have d8:(i:Int)<(l.length:Int):=by omega
   have e8:(i:Int)<=(c:Int):=by omega
   have e7:c≠i:=by omega
   clear F o d e C R;go_wp2;go_ret;obtain⟨r1,r2,r3⟩:=B.out;rw[r3];exact⟨rfl,r1.1,r2.trans r1.2⟩
theorem avR{w:MO}(h1:w.cell? a1=MI v1)(h2:w.cell? a2=MI v2)(h3:w.cell? a3=MI v3)(h4:w.cell? a4=MI v4)(hf:w.frozen? a2=Nb)
  (k1:w'.heap[a1.block]?=w.heap[a1.block]?) (k2:w'.heap[a2.block]?=w.heap[a2.block]?) (k3:w'.heap[a3.block]?=w.heap[a3.block]?) (k4:w'.heap[a4.block]?=w.heap[a4.block]?) :
  w'.cell? a1=MI v1/\w'.cell? a2=MI v2/\w'.cell? a3=MI v3/\w'.cell? a4=MI v4/\w'.frozen? a2=false :=
 ⟨(NG k1).trans h1,(NG k2).trans h2,(NG k3).trans h3,(NG k4).trans h4,(OM k2).trans hf⟩
theorem awk(base T B M n:Nat)(now:Int)(vs:List M7)(ls:List (List Tm))(f:Int->Option Int)(id:Int)(i:Nat)(w:MO)(hT:WM w base T B M n now vs ls f)(hbase:base<=w.heap.size)(hi:i<25)(hid:(N6 ME id).wf=Nw)(hf:f id=MI (i:Int))(l:List Tm)(hl:ls[i]?=MI l)(hex:∃t∈l,t.2=id) :
  Ni MK 215 #[Na (MI ⟨T,0,MH⟩),MF ME id] w fun r w'=>r=MN (Nv #[])/\∃vs' f',WM w' base T B M n now vs' (ls.set i (kp l id)) f'/\MQ base w w':=by
 obtain⟨t0,t1,t2,c7⟩:=YS hT.box;have E:i<ls.length:=by rw[hT.len];exact hi
 obtain⟨u,z,I⟩:=aet hT.own i E;have d6:=aes hT.own hT.len i E u z;have C:=hl;rw[MR E]at hl;rw[NC hl]at I;have d8:0<l.length:=by obtain⟨t,ht,_⟩:=hex;exact Qj ht
 obtain⟨g,c,rfl,f8,i4⟩:=I.form d8;have b4:B<w.heap.size:=(hT.own.row.lt B rfl).2;have g8:=(hT.own.row.lt B rfl).1;have b8:w.frozen? ⟨B,i,MH⟩=false:=by
  have b7:=hT.own.row;rw[hT.len]at b7;exact b7.frozenAt i
 have Q:g≠T:=fun e=>hT.offT _ (NB _ (Nu z)) (by rw[e];rfl)
 have g3:g≠M:=fun e=>hT.offM _ (NB _ (Nu z)) (by rw[e];rfl)
 have f9:g≠B:=fun e=>(List.pairwise_cons.1 hT.own.apart).1 _ (Nu z) B rfl (by rw[e];rfl)
 have g7:T≠B:=fun e=>hT.offT _ (NM ..) (by rw[e];rfl)
 have g6:M≠B:=fun e=>hT.offM _ (NM ..) (by rw[e];rfl)
 have g9:=hT.map.lt;obtain⟨d,A⟩:∃d,d=w.alloc (MP #[MF ME id] 3):=⟨_,rfl⟩;have o:MQ w.heap.size w d:=by rw[A];exact(MY _ _).alloc (MV _) _
 have c9:w.heap.size<d.heap.size:=by rw[A];simp
 have c1:d.cell? ⟨w.heap.size,0,MH⟩=MI (MF ME id):=by rw[A];simp
 have c3:d.cell? ⟨T,1,MH⟩=MI (MG (MI ⟨B,0,MH⟩) 25 25):=(o.cell (p:=⟨T,1,MH⟩) c7).trans t1;have c4:d.cell? ⟨T,2,MH⟩=MI (P0 (MI M)):=(o.cell (p:=⟨T,2,MH⟩) c7).trans t2;have c5:d.cell? ⟨B,i,MH⟩=MI (MG (MI ⟨g,0,MH⟩) l.length c):=(o.cell (p:=⟨B,i,MH⟩) b4).trans d6;have c6:d.frozen? ⟨B,i,MH⟩=false:=(o.frozen (p:=⟨B,i,MH⟩) b4).trans b8;have q:=hT.below o;have d9:(Instr.lookup 242 (P0 (MI M)) (MF ME id) Nb).run MK d.drew=.ok (MF ME i) d.drew:=by
  obtain⟨D,F,hD⟩:=(q.map.Gf (w':=d.drew) rfl);obtain⟨x,hr,g4,_⟩:=F.lookup_int agW ay0 Ol (anX _) (Qg Ol hid);have J:=(hD id hid).2 i hf;rw[g4]at J;have:x=(i:Int):=by cases J;rfl
  rw[this]at hr;exact hr
 have G:=agD I o;have V:M6 (_/\_/\_/\_/\_/\_):=⟨hT,q,o,G,C,A⟩;have HX:M6 _:=hex;have L:T<d.heap.size:=by omega
 have e7:B<d.heap.size:=by omega
 have h8:g<d.heap.size:=by omega
 have e8:M<d.heap.size:=by omega
 have i6:(i:Int)<25:=by omega
 clear hT q o I G A hex hl C t0 t1 t2 d6 b8 hf;go_enter Tryz.func215,Tryz.ntmps215
 go_wp2_with fail
 rw[<-V.out.2.2.2.2.2]
 go_region
 have R:w.heap.size≠g:=by omega
 have a0:=avL base g c l id w.heap.size d.drew.drew (V.out.2.2.2.1.drew.drew) c1 R HX.out;have d7:∀W:MO,d.drew.drew.grownBy W (MI g)->W.cell? ⟨T,1,MH⟩=MI (MG (MI ⟨B,0,MH⟩) 25 25)/\W.cell? ⟨B,i,MH⟩=MI (MG (MI ⟨g,0,MH⟩) l.length c)/\W.cell? ⟨w.heap.size,0,MH⟩=MI (MF ME id)/\W.cell? ⟨T,2,MH⟩=MI (P0 (MI M))/\W.frozen? ⟨B,i,MH⟩=false:=fun W hg =>
  avR c3 c5 c1 c4 c6 (hg.block T L (fun e=>Q (NC e).symm)) (hg.block B e7 (fun e=>f9 (NC e).symm)) (hg.block w.heap.size c9 (fun e=>R (NC e))) (hg.block T L (fun e=>Q (NC e).symm))
 have HI:M6 (_/\_):=⟨a0,d7⟩;clear a0 d7
 go_upto_region 2 with fail
 go_cut []from 11 to 27 (fun wx=>∃v,v.ownsRow base 166 2 (MG (MI ⟨g,0,MH⟩) (kp l id).length c) (kp l id).length (WP (kp l id))/\d.drew.drew.grownBy v (MI g)/\wx=v.setCell ⟨B,i,MH⟩ (MG (MI ⟨g,0,MH⟩) (kp l id).length c))
 case first =>
  go_region_with (first|(go_at_call 237;refine HI.out.1.mono ?_;rintro r v ⟨rfl,H,s⟩;obtain⟨s1,s2,s3,s4,s5⟩:=HI.out.2 _ s))
  all_goals
   go_wp2_with fail
   go_meet
   exact⟨v,H,s,rfl⟩
 case rest =>
 obtain⟨v,H,s,rfl⟩:=hcut;obtain⟨hT,q,o,G,C,_⟩:=V.out;have h9:ls[i]=l:=by rw[MR E]at C;exact NC C
 obtain⟨j,y⟩:∃j,j=v.setCell ⟨B,i,MH⟩ (MG (MI ⟨g,0,MH⟩) (kp l id).length c):=⟨_,rfl⟩;have K:∀k,k<d.heap.size->k≠g->k≠B->j.heap[k]?=d.heap[k]?:=fun k hk hkg hkB=>by
  rw[y,MU _ _ _ _ hkB];exact s.block k hk (fun e=>hkg (NC e))
 have P:j.heap[T]?=MI (MP #[MF ME now,MG (MI ⟨B,0,MH⟩) 25 25,P0 (MI M)] 244 (0,0)):=(K T L Q.symm g7).trans q.box;have c8:aaj j M n f:=q.map.Gf (K M e8 g3.symm g6);have Z:WZ j base (MG (MI ⟨B,0,MH⟩) 25 25) (vs.set i (MG (MI ⟨g,0,MH⟩) (kp l id).length c)) (ls.set i (kp l id)):=by
  rw[y];exact WZ.Gd (w:=d.drew.drew) (q.own.Gf fun _ _ _=>rfl) q.len E z s H (fun k hk=>Nt hk)
 have O:∀X,(∀x∈MG (MI ⟨B,0,MH⟩) 25 25::vs,x.ownBlock≠MI X)->∀x∈MG (MI ⟨B,0,MH⟩) 25 25::vs.set i (MG (MI ⟨g,0,MH⟩) (kp l id).length c),x.ownBlock≠MI X:=fun X F x Y=>by
  rcases List.mem_cons.1 Y with rfl|Y
  ·exact F _ (NM ..)
  ·rcases OB Y with h|rfl
   ·exact F x (NB _ h)
   ·exact fun e=>F _ (NB _ (Nu z)) e
 have N:WM j.drew base T B M n now (vs.set i (MG (MI ⟨g,0,MH⟩) (kp l id).length c)) (ls.set i (kp l id)) f :=
  ⟨P,Z.Gf fun _ _ _=>rfl,c8.Gf rfl,O T hT.offT,O M hT.offM,hT.hT,hT.hM,hT.hTM,by rw[NA];exact hT.len⟩
 obtain⟨w7,f7,i5,b6,U⟩:=N.map.IX hid 0;have b9:=N.II b6 U;have b5:MQ base w w7:=by
  have i3:d.heap.size<=j.heap.size:=by rw[y];have:=s.size;simpa using this
  have h1:MQ base w d.drew.drew:=((o.mono hbase).drew).drew;have J:MQ base w j:=by rw[y];exact(h1.grown s (by show base<=d.heap.size;omega) (fun k hk=>by rw[<-NC hk];exact f8)).setCell g8 _
  exact J.drew.grown U (by show base<=j.heap.size;omega) (fun k hk=>by rw[<-NC hk];exact hT.hM)
 have e9:j.cell? ⟨w.heap.size,0,MH⟩=MI (MF ME id):=(NG (a:=⟨w.heap.size,0,MH⟩) (K w.heap.size c9 R (by omega))).trans c1;obtain⟨q0,q1,q2,q3⟩:=YS P;have h7:=MX j ⟨w.heap.size,0,MH⟩ e9;have HZ:M6 (_/\_):=⟨b9,b5⟩;rw[<-y];clear b9 b5 N b6 U Z P c8 K H s y O c1 c3 c4 c5 c6 d9 hT q o G
 go_wp2_with fail
 go_region
 go_end0
 exact⟨rfl,_,f7,HZ.out.1,HZ.out.2⟩
theorem awc{l:List Tm}(h:(l.map (·.2)).Nodup){a b:Tm}(ha:a∈l)(hb:b∈l)(e:a.2=b.2):a=b:=by
 induction l with
 |nil=>cases ha
 |cons x l ih =>
  rw[OA,QJ]at h;rcases List.mem_cons.1 ha with i|i
  ·rcases List.mem_cons.1 hb with d|d
   ·rw[i,d]
   ·exact absurd (List.mem_map.2 ⟨b,d,by rw[<-e,i]⟩) h.1
  ·rcases List.mem_cons.1 hb with d|d
   ·exact absurd (List.mem_map.2 ⟨a,i,by rw[e,d]⟩) h.1
   ·exact ih h.2 i d
theorem anI{B:Nat}{w:MO}(h:MQ B w w')(hg:B<=g)(x y:M7):MQ B w ((w'.setCell ⟨g,0,MH⟩ x).setCell ⟨g,1,MH⟩ y):=(h.setCell (p:=⟨g,0,MH⟩) hg _).setCell (p:=⟨g,1,MH⟩) hg _
structure aeq(now id:Int)(ls ms:List (List Tm)):Prop where
 may:Y9 now ms
 mem:∀t,t∈ms.flatten↔t∈ls.flatten/\t.2≠id
theorem ajx{l:List Tm}{id:Int}:t∈kp l id↔t∈l/\t.2≠id:=by unfold kp;simp
theorem avP{now id:Int}{ls:List (List Tm)}(h:Y9 now ls){i:Nat}{l:List Tm}(hl:ls[i]?=MI l)(hex:∃t∈l,t.2=id):aeq now id ls (ls.set i (kp l id)):=by
 have u:=(List.getElem?_eq_some_iff.1 hl).1;obtain⟨a,b,C,E,_⟩:=ajs ls i l (kp l id) hl;have r:(ls.set i (kp l id)).flatten.Sublist ls.flatten:=by
  have D:ls.flatten=a.flatten++(l++b.flatten):=by
   have:=congrArg List.flatten C
   simpa using this
  rw[E,D];simp only[PV,QS];exact(S3 _).append ((List.filter_sublist).append (S3 _))
 have w:∀(k:Nat) (m:List Tm),(ls.set i (kp l id))[k]?=MI m->∃q,ls[k]?=MI q/\∀t∈m,t∈q:=fun k m d=>by
  by_cases hki:k=i
  ·subst hki
   rw[N7 u]at d;rw[<-NC d];exact⟨l,hl,fun t j=>(ajx.1 j).1⟩
  ·rw[N3 (Pi hki)]at d
   exact⟨m,d,fun t j=>j⟩
 refine⟨⟨h.1,by rw[NA];exact h.2.len,fun k m d t j=>?_,fun m o=>?_,?_⟩,fun t=>?_⟩
 ·obtain⟨q,F,A⟩:=w k m d
  exact h.2.fit k q F t (A t j)
 ·rcases OB o with o|rfl
  ·exact h.2.ord m o
  ·exact List.Pairwise.filter _ (h.2.ord l (Nu hl))
 ·exact List.Nodup.sublist (r.map _) h.2.ids
 ·constructor
  ·intro j
   refine⟨r.subset j,fun e=>?_⟩;obtain⟨m,o,n⟩:=List.mem_flatten.1 j;obtain⟨k,d,rfl⟩:=NV o;obtain⟨s,v,B⟩:=hex;have y:t=s:=awc h.2.ids (r.subset j) (List.mem_flatten.2 ⟨l,Nu hl,v⟩) (by rw[e,B])
   by_cases hki:k=i
   ·subst hki
    rw[NW]at n;exact(ajx.1 n).2 e
   ·rw[Pe (Pi hki)]at n
    rw[NA]at d;have z:=(h.2.fit k _ (MR d) t n).2;have G:=(h.2.fit i l hl s v).2;rw[y]at z;omega
  ·rintro⟨j,hne⟩
   obtain⟨m,o,n⟩:=List.mem_flatten.1 j;obtain⟨k,d,rfl⟩:=NV o
   by_cases hki:k=i
   ·subst hki
    rw[MR d]at hl;rw[NC hl]at n;exact List.mem_flatten.2 ⟨kp l id,Nu (N7 u),ajx.2 ⟨n,hne⟩⟩
   ·refine List.mem_flatten.2 ⟨ls[k],Nu (i:=k) ?_,n⟩
    rw[N3 (Pi hki)];exact MR d
theorem avJ(v:M7)(now id:Int)(ls:List (List Tm))(w:MO)(hB:Xo w)(hx:Zo w v ls)(hm:Y9 now ls)(hid:(N6 ME id).wf=Nw) :
  Ni MK 173 #[Ny #[MF ME now,v],MF ME id] w fun r w'=>MQ w.heap.size w w' /\
   (((∀t∈ls.flatten,t.2≠id)/\r=MN (Nv #[Ny #[MF ME 0,MG MH 0 0],MF ME 8])) \/
     ((∃t∈ls.flatten,t.2=id)/\∃p c ms,r=MN (Nv #[Ny #[MF ME now,MG p 25 c],MF ME 0])/\adP w' w.heap.size p c ms/\aeq now id ls ms)):=by
 obtain⟨a,U,rfl,_⟩:=hx.F6;have Z:∀l∈ls,l.length<=1048576:=fun l s=>Nm (adc s) hm.2.Ia
 have b4:∀W,MQ w.heap.size w W->Xo W/\Zo W (MG a ls.length U) ls:=fun W h=>⟨hB.below h,hx.below h⟩
 have q:M6 (_/\_/\_):=⟨b4,Z,hm⟩;clear b4 Z hm hx hB;go_enter Tryz.func173,Tryz.ntmps173
 go_wp2_with fail
 have u:MQ w.heap.size w ((w.alloc (MP #[MF ME now,MG a ls.length U] 59)).alloc (MP #[MF ME 0,MG MH 0 0] 59)):=((MY _ _).alloc (MV _) _).alloc (by simp) _;refine(ajJ _ now ls _ (q.out.1 _ u).1 (q.out.1 _ u).2 q.out.2.1).mono ?_;rintro r o ⟨O,⟨_,T,B,M,n,vs,f,rfl,Y,hF,d6⟩|⟨h1,_⟩⟩
 ·have F:o.heap[w.heap.size+1]?=MI (MP #[MF ME 0,MG MH 0 0] 59 (0,0)):=(O.block _ (by simp)).trans (Yu _ _ _)
  have G:=u.trans (O.mono u.size);rw[show((w.alloc (MP #[MF ME now,MG a ls.length U] 59)).alloc (MP #[MF ME 0,MG MH 0 0] 59)).heap.size+2=w.heap.size+4 by simp]at Y;obtain⟨y,C⟩:∃y,y=(o.alloc (MP #[MF ME now,MG (MI ⟨B,0,MH⟩) 25 25,P0 (MI M)] 244)):=⟨_,rfl⟩;have N:MQ o.heap.size o y:=by rw[C];exact(MY _ _).alloc (MV _) _
  have A:WM y (w.heap.size+4) o.heap.size B M n now vs ls f:=by rw[C];exact Y.Iu
  have J:=(N.block _ (Array.getElem?_eq_some_iff.1 F).1).trans F;have a0:=G.trans (N.mono G.size);obtain⟨q0,q1,P,q3⟩:=YS A.box;have c7:w.heap.size+4<=y.heap.size:=by have:=A.hT;omega
  have d9:=(Array.getElem?_eq_some_iff.1 F).1;obtain⟨c0,c1,f0,f1,c8⟩:=Xa J;have j:M6 (_/\_/\_/\_/\_):=⟨A,hF,J,a0,C⟩;clear F O u Y hF d6 N A J a0 G C
  go_wp2_with fail
  rw[<-j.out.2.2.2.2];refine(aju o.heap.size M n f id _ P j.out.1.map hid).mono ?_;cases hhas:(f id).isSome
  ·rintro r w4 ⟨rfl,rfl⟩
   have HN:M6 _:=(j.out.2.1.GP id).1 hhas;clear q0 q1 P;go_wp2;obtain⟨R,Q⟩:=adR (c:=MF ME 0) (d:=MG MH 0 0) j.out.2.2.1;refine Np (v:=Nv #[Ny #[MF ME 0,MG MH 0 0],MF ME 8]) (by simp[Pf,Tryz.results173,go_sem,R,Q]) rfl ⟨?_,Nt ⟨HN.out,rfl⟩⟩;exact anI j.out.2.2.2.1 (by omega) _ _
  ·rintro r w4 ⟨rfl,rfl⟩
   have b8:∃t∈ls.flatten,t.2=id:=by
    apply PM;intro c9;rw[(j.out.2.1.GP id).2 (fun t z e=>c9 ⟨t,z,e⟩)]at hhas;cases hhas
   obtain⟨t,z,E⟩:=b8;obtain⟨l,d7,D⟩:=List.mem_flatten.1 z;obtain⟨i,b5,rfl⟩:=NV d7;have b7:i<25:=by rw[<-q.out.2.2.2.len];exact b5
   have s:=MR b5;have I:=j.out.2.1.here i _ s t D;rw[E]at I;have HG:M6 _:=avP q.out.2.2 s ⟨t,D,E⟩;have b6:=awk (w.heap.size+4) o.heap.size B M n now vs ls f id i w4 j.out.1 c7 b7 hid I _ s ⟨t,D,E⟩;have HP:M6 (_/\_):=⟨b6,z⟩;clear b6;have HE:M6 (∃t∈ls.flatten,t.2=id):=⟨t,z,E⟩;clear D I s
   go_wp2_with fail
   refine HP.out.1.mono ?_;rintro r w5 ⟨rfl,b9,f',K,H⟩;have L:=(H.block (w.heap.size+1) (by omega)).trans j.out.2.2.1;obtain⟨f9,g6,g4,f8,d8⟩:=Xa L;obtain⟨e9,e8,e7,g3⟩:=YS K.box;have V:M6 (_/\_/\_):=⟨L,K,j.out.2.2.2.1.trans (H.mono (by omega))⟩;clear L K H c0 c1 f0 f1 c8 q0 q1 P;go_wp2;obtain⟨R,Q⟩:=adR (c:=MF ME now) (d:=MG (MI ⟨B,0,MH⟩) 25 25) V.out.1;refine Np (v:=Nv #[Ny #[MF ME now,MG (MI ⟨B,0,MH⟩) 25 25],MF ME 0]) (by simp[Pf,Tryz.results173,go_sem,R,Q]) rfl ⟨?_,NF ⟨HE.out,MI ⟨B,0,MH⟩,25,_,rfl,⟨b9,(V.out.2.1.own.Hh (g:=w.heap.size+1) (by omega) _ _).GV (by omega)⟩,HG.out⟩⟩;exact anI V.out.2.2 (by omega) _ _
 ·exact absurd q.out.2.2 h1
end Go.Proofs.YtidlemcdnhbceaaGreatDoor.Q
