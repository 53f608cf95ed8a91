/-
  Contracts of the layers and of core, part 6. Conditions: as each theorem says.
-/
import Derived.BigQuiet
import Derived.Shelf.Spec.SlicesInsert
import Derived.Maps.OwnSet
import Derived.Shelf.SlSortCmp.QuietGrown
import Derived.Deep.CutRange
import Derived.Deep.Upon
import Derived.Test.YtlnbhjdhcmgljaaGreatDoorQ0
open Array renaming length_toList->Om
open Bool renaming false->Nb,true->Nw
open Classical renaming byContradiction->PM
open Decidable renaming decide->Nn
open Go renaming Addr->Oc,Calls->Ni,TypeId->NU,Value->M7,World->MO,bodyPost_ret->Np,cell_grown->Ob,cell_of_row->MW,heap_alloc_new->M1,heap_setCell_same->NI,info_parts->OF,maxLen->NE,results->Pf,wpList_append_lies->O9,wpQuiet_nil->Oy,wp_region_quiet_grown->NQ
open Go.Addr.mk renaming injEq->Q1
open Go.Calls renaming grown_of->NZ,quiet_of->Qe
open Go.Ending renaming returned->MN
open Go.Extern.SlicesOverlaps renaming overlaps->P9
open Go.Fn renaming func->PD
open Go.Instr renaming index->Qy
open Go.IntKind renaming i64->ME,wrap_i64->Ow
open Go.Lit renaming int->N6
open Go.Maps renaming keyOf_int_mk->Qg
open Go.Obj renaming cells->MP
open Go.Proofs.Tryz renaming func196->Wz,func198->TZ,func200->SU,func209->S0,func210->Uj,func231->R2,func234->TA,func235->RS,func240->VR,func44->Tk,func66->RF,func67->Ra,ntmps196->Wl,ntmps198->TT,ntmps200->Sx,ntmps209->SA,ntmps210->T9,ntmps231->RO,ntmps234->Tz,ntmps235->RI,ntmps240->VJ,ntmps44->SQ,ntmps66->Ro,ntmps67->QU,prog->MK,results151->R8,results164->V6,results196->Vp,underlying184->U0,underlying273->Va,underlying3->Ol
open Go.RowKit renaming Below->MQ,Hid->M6,intOf->On
open Go.RowKit.Below renaming heap_alloc->Ov,heap_setCell->MU,refl->MY
open Go.Sort renaming alloc_eq_grow->PQ,grow->Oj
open Go.Value renaming agg->Ny,bool->M3,func->PB,int->MF,map->P0,pointer->Na,slice->MG,tuple->Nv
open Go.Value.slice renaming injEq->N4
open Go.World renaming block_lt_of_cell?->MX,cell?->Nl,cell?_of_block->NG,frozen?->Ng,frozen?_of_block->OM,grownBy_alloc->OL,ownsRow_nil->NY,shape?->QO
open Int renaming tdiv_eq_ediv_of_nonneg->OT,tmod_eq_emod_of_nonneg->Oi
open List renaming append_assoc->OC,append_nil->OG,drop_append->Qa,drop_eq_nil_of_le->PI,ext_getElem?->Ot,flatten_append->PV,flatten_cons->QS,getD->Pq,getElem?_append->Q9,getElem?_cons_succ->N9,getElem?_drop->Pa,getElem?_eq_getElem->MR,getElem?_eq_none->Nz,getElem?_replicate->Pj,getElem?_set_ne->N3,getElem?_set_self->N7,getElem?_take_of_lt->O0,getElem_cons_drop->Pp,getElem_mem->Nk,getElem_of_mem->NV,getElem_set_ne->Pe,getElem_set_self->NW,length_append->Ns,length_cons->Ox,length_drop->NJ,length_map->N0,length_pos_of_mem->Qj,length_set->NA,length_take->NH,map_append->OI,map_congr_left->PU,map_cons->OA,mem_append_right->Qq,mem_cons->OO,mem_cons_of_mem->NB,mem_cons_self->NM,mem_of_getElem?->Nu,mem_or_eq_of_mem_set->OB,nil_append->Oz,nodup_append->Qv,nodup_cons->QJ,perm_middle->QC,range->Pm,replicate->Nj,takeWhile_cons_of_neg->Ru,takeWhile_cons_of_pos->Rv,take_append_drop->Oo,take_append_of_le_length->ZqA,take_left->Qb,take_length->NT,take_of_length_le->N1,take_succ_eq_append_getElem->M9
open List.Sublist renaming append_right->Rz,refl->S3
open Nat renaming le_of_lt->PJ,le_refl->MV,le_trans->Nm,lt_irrefl->PC,lt_of_le_of_lt->Pb,lt_of_lt_of_le->M8,lt_or_ge->Oq,lt_or_gt_of_ne->QM,min_def->PR,not_lt_zero->QH,zero_le->Nx
open Ne renaming symm->Pi
open Option renaming none->MH,some->MI
open Option.some renaming inj->NC,injEq->Qs
open Or renaming inl->Nt,inr->NF
open Prod renaming ext->Q8
namespace Go.Proofs.YtlnbhjdhcmgljaaGreatDoor.Q
set_option linter.unusedVariables false
set_option linter.unusedSimpArgs false
set_option maxHeartbeats 16000000
set_option maxRecDepth 100000
open Go.RowKit
attribute [local go_sem ↓] Go.wp_at_zero Go.wp_at_succ
variable {m:Int}{a c v1 v2 v3 v4:M7}{w':MO}{b g p:Nat}{a1 a2 a3 a4:Oc}{t x:Tm}
def mc{α β:Type}(R:α->β->Prop)(l:List α)(m:List β):Prop:=l.length=m.length/\∀i (h1:i<l.length) (h2:i<m.length),R l[i] m[i]
def dh(w:MO)(v:M7)(ls:List (List Tm)):Prop:=∃vs,aR w v ls.length vs/\mc (aO w) vs ls
theorem mc.GV{α β:Type}{R S:α->β->Prop}(hRS:∀a b,R a b->S a b){l:List α}{m:List β}(h:mc R l m):mc S l m:=⟨h.1,fun i h1 h2=>hRS _ _ (h.2 i h1 h2)⟩
theorem dh.below{w:MO}{v:M7}{ls:List (List Tm)}(h:dh w v ls)(hb:MQ w.heap.size w w'):dh w' v ls:=by
 obtain⟨vs,h1,h2⟩:=h;exact⟨vs,h1.below hb,h2.GV (fun _ _ h=>h.below hb)⟩
theorem dh.F6{w:MO}{v:M7}{ls:List (List Tm)}(h:dh w v ls) :
  ∃a cap,v=MG a ls.length cap/\ls.length<=cap/\cap<=NE/\∀i (hi:i<ls.length),∃b off u,a=MI ⟨b,off,MH⟩/\b<w.heap.size/\w.cell? ⟨b,off+i,MH⟩=MI u/\aO w u ls[i]:=by
 obtain⟨vs,⟨a,cap,hv,hc,hm,h1⟩,h2⟩:=h;have hl:=h2.1;refine⟨a,cap,hv,hc,hm,fun i hi=>?_⟩;obtain⟨h0,_⟩|⟨b,off,ha,hb,hcell⟩:=h1
 ·omega
 ·exact⟨b,off,vs[i]'(by omega),ha,hb,by rw[hcell i (by omega)];exact MR _,h2.2 i (by omega) hi⟩
theorem pM{B:Nat}{a w:MO}(h:MQ B a w)(n:Nat):MQ B a (w.drewN n):=h.trans ⟨rfl,rfl,rfl,MV _,fun _ _=>rfl⟩
def aG(at' now:Int):Int :=
 if at' / 8=now / 8 then at' % 8 else if at' / 64=now / 64 then 8+at' / 8 % 8 else if at' / 512=now / 512 then 16+at' / 64 % 8 else 24
theorem m8(n:Int)(w:MO):Ni MK 66 #[MF ME n] w fun r w'=>r=MN (M3 (Nn (0<=n/\n<=1099511627776)))/\w'=w:=by
 obtain⟨ans,hans⟩:∃ans,ans=Nn (0<=n/\n<=1099511627776):=⟨_,rfl⟩;rw[<-hans];have H:M6 _:=hans;clear hans;cases h1:Nn (0<=n)
 ·go_enter RF,Ro
  go_wp2;go_ret;exact⟨by rw[H.out,M0 (fun h=>Nc h1 h.1)];rfl,rfl⟩
 ·cases h2:Nn (n<=1099511627776)
  ·go_enter RF,Ro
   go_wp2;go_ret;exact⟨by rw[H.out,M0 (fun h=>Nc h2 h.2)];rfl,rfl⟩
  ·go_enter RF,Ro
   go_wp2;go_ret;exact⟨by rw[H.out,Nq ⟨M2 h1,M2 h2⟩];rfl,rfl⟩
theorem oE:(Tryz.prog.info? 187).map (fun i=>(i.zero,i.size,i.bytes))=MI (MI (Ny #[MF ME 0,MF ME 0]),2,16):=by kernel_rfl
theorem zz:(Tryz.prog.info? 184).map (fun i=>(i.zero,i.size,i.bytes))=MI (MI (MG MH 0 0),1,24):=by kernel_rfl
def zC(a b:M7):Prop:=∀g,a.ownBlock=MI g->b.ownBlock≠MI g
structure ar(w:MO)(base:Nat)(v:M7)(vs:List M7)(ls:List (List Tm)):Prop where
 row:w.ownsRow base 184 1 v ls.length vs
 each:mc (fun u l=>w.ownsRow base 187 2 u l.length (ag l)) vs ls
 apart:(v::vs).Pairwise zC
theorem ar.Gf{w:MO}{base:Nat}{v:M7}{vs:List M7}{ls:List (List Tm)}(h:ar w base v vs ls)(hk:∀g,base<=g->g<w.heap.size->w'.heap[g]?=w.heap[g]?):ar w' base v vs ls :=
 ⟨aw h.row fun g hg=>hk g (h.row.lt g hg).1 (h.row.lt g hg).2,h.each.GV fun u l hu=>aw hu fun g hg=>hk g (hu.lt g hg).1 (hu.lt g hg).2,h.apart⟩
theorem ar.below{w:MO}{base:Nat}{v:M7}{vs:List M7}{ls:List (List Tm)}(h:ar w base v vs ls)(hb:MQ w.heap.size w w'):ar w' base v vs ls :=
 h.Gf fun g _ hg=>hb.block g hg
theorem ar.GV{w:MO}{base:Nat}{v:M7}{vs:List M7}{ls:List (List Tm)}(h:ar w base v vs ls)(hb:b<=base):ar w b v vs ls :=
 ⟨h.row.mono hb,h.each.GV fun u l hu=>hu.mono hb,h.apart⟩
def bQ(x:List Tm)(t:Tm)(j:Nat):List Tm:=x.take j++t::x.drop j
theorem CL(x:List Tm)(t:Tm)(j:Nat):(bQ x t j).length=x.length+1:=by
 simp only[bQ,Ns,Ox,NH,NJ];omega
theorem rd(x:List Tm)(t:Tm):bQ x t x.length=x++[t]:=by simp[bQ]
def fp:List (List Tm):=Nj 25 []
theorem zq(w:MO):ar (w.alloc (MP (Nj 25 (MG MH 0 0)).toArray 184)) w.heap.size (MG (MI ⟨w.heap.size,0,MH⟩) 25 25) (Nj 25 (MG MH 0 0)) fp:=by
 refine⟨?_,⟨by simp[fp],fun i h1 h2=>?_⟩,?_⟩
 ·have:=World.ownsRow_lit (base:=w.heap.size) (e:=184) (size:=1) w (Nj 25 (MG MH 0 0)).toArray 25 (MV _) (by unfold NE;omega) (by simp)
  simpa [fp]using this
 ·simp only[fp,List.getElem_replicate]
  exact NY _ _ _ _
 ·refine List.pairwise_cons.2 ⟨fun x hx k hk e=>?_,List.pairwise_replicate.2 (NF fun k hk=>?_)⟩
  ·rw[(List.mem_replicate.1 hx).2]at e;cases e
  ·cases hk
theorem xy(W:MO):(Instr.makeSlice 50 (MF ME 25) (MF ME 25)).run MK W=.ok (MG (MI ⟨W.heap.size,0,MH⟩) 25 25) (W.alloc (MP (Nj 25 (MG MH 0 0)).toArray 184)):=by
 obtain⟨i1,hj,hy0,hy1,hy2⟩:=OF zz;have h:=run_makeSlice (P:=MK) W 50 184 i1 _ Tryz.underlying50 hj hy0 ME ME 25 25 (by decide) (by decide) (by rw[hy1];decide) (by rw[hy2];decide) (by decide);have e:madeCells (MG MH 0 0).cells (Int.toNat 25*1)=(Nj 25 (MG MH 0 0)).toArray:=Array.toList_inj.1 (toList_madeCells_one (MG MH 0 0) 25);rw[h,hy1,e];rfl
theorem jC{w:MO}{b d:M7}{T:NU}(h:w.heap[g]?=MI (MP #[a,b] T (0,0))):((w.setCell ⟨g,0,MH⟩ c).setCell ⟨g,1,MH⟩ d).cell? ⟨g,0,MH⟩=MI c/\((w.setCell ⟨g,0,MH⟩ c).setCell ⟨g,1,MH⟩ d).cell? ⟨g,1,MH⟩=MI d :=
 ⟨(au (iw h)).1,(au (iw h)).2.1⟩
theorem ar.Hh{w:MO}{base:Nat}{v:M7}{vs:List M7}{ls:List (List Tm)}(h:ar w base v vs ls)(hg:g<base)(c d:M7):ar ((w.setCell ⟨g,0,MH⟩ c).setCell ⟨g,1,MH⟩ d) base v vs ls :=
 h.Gf fun i h1 _=>by rw[MU _ _ _ _ (by simp;omega),MU _ _ _ _ (by simp;omega)]
theorem wc(now:Int)(w:MO):Ni MK 67 #[MF ME now] w fun r w'=>r=MN (Ny #[MF ME now,MG (MI ⟨w.heap.size+1,0,MH⟩) 25 25])/\ar w' (w.heap.size+1) (MG (MI ⟨w.heap.size+1,0,MH⟩) 25 25) (Nj 25 (MG MH 0 0)) fp/\w'.heap.size=w.heap.size+2/\MQ w.heap.size w w':=by
 have hm:=xy;generalize hc:(Nj 25 (MG MH 0 0)).toArray=cs at hm;have HC:M6 _:=hc;clear hc;go_enter Ra,QU;go_wp2;refine Np (v:=Ny #[MF ME now,MG (MI ⟨w.heap.size+1,0,MH⟩) 25 25]) (by simp[Pf,Tryz.results67,go_sem]) rfl ⟨rfl,?_,by simp,?_⟩
 ·have h:=zq (w.alloc (MP #[MF ME now,MG (MI ⟨w.heap.size+1,0,MH⟩) 25 25] 52))
  rw[HC.out]at h
  simpa using h
 ·exact((MY _ _).alloc (MV _) _).alloc (by simp) _
theorem AK(now:Int)(w:MO)(h:0<=now/\now<=1099511627776):Ni MK 44 #[MF ME now] w fun r w'=>∃v vs,r=MN (Nv #[Ny #[MF ME now,v],MF ME 0])/\ar w' w.heap.size v vs fp/\MQ w.heap.size w w':=by
 have hd:Nn (0<=now/\now<=1099511627776)=true:=Nq h;clear h;go_enter Tk,SQ
 go_wp2_with fail
 refine(m8 _ _).mono ?_;rw[hd];rintro r w1 ⟨rfl,rfl⟩
 go_wp2_with fail
 refine(wc _ _).mono ?_;rintro r w1 ⟨rfl,hown,hsz,hb⟩;have hs1:(w.alloc (MP #[MF ME 0,MG MH 0 0] 52)).heap.size=w.heap.size+1:=by simp
 rw[hs1]at hown;have hh:w1.heap[w.heap.size]?=MI (MP #[MF ME 0,MG MH 0 0] 52 (0,0)):=(hb.block _ (by simp)).trans (M1 _ _);obtain⟨c0,c1,f0,f1,hlt⟩:=au hh;have H:M6 (_/\_/\_):=⟨hh,hown,hb⟩;clear hh hown hb;go_wp2;obtain⟨e0,e1⟩:=jC (c:=MF ME now) (d:=MG (MI ⟨w.heap.size+1+1,0,MH⟩) 25 25) H.out.1;refine Np (v:=Nv #[Ny #[MF ME now,MG (MI ⟨w.heap.size+1+1,0,MH⟩) 25 25],MF ME 0]) (by simp[Pf,Tryz.results44,go_sem,e0,e1]) rfl ⟨_,Nj 25 (MG MH 0 0),rfl,?_,?_⟩
 ·have h:=H.out.2.1.Hh (g:=w.heap.size) (by omega) (MF ME now) (MG (MI ⟨w.heap.size+1+1,0,MH⟩) 25 25)
  exact h.GV (by omega)
 ·exact((((MY _ _).alloc (MV _) _).trans (H.out.2.2.mono (by simp))).setCell (by simp) _).setCell (by simp) _
structure aK(w:MO):Prop where
 c0:w.cell? ⟨0,0,MH⟩=MI (MF ME 8)
 c1:w.cell? ⟨0,1,MH⟩=MI (MF ME 64)
 c2:w.cell? ⟨0,2,MH⟩=MI (MF ME 512)
theorem aK.lt{w:MO}(h:aK w):0<w.heap.size:=MX w ⟨0,0,MH⟩ h.c0
theorem aK.Gf{w:MO}(h:aK w)(h0:w'.heap[0]?=w.heap[0]?):aK w' :=
 ⟨(NG (a:=⟨0,0,MH⟩) h0).trans h.c0,(NG (a:=⟨0,1,MH⟩) h0).trans h.c1,(NG (a:=⟨0,2,MH⟩) h0).trans h.c2⟩
theorem aK.below{w:MO}(h:aK w)(hb:MQ w.heap.size w w'):aK w':=h.Gf (hb.block 0 h.lt)
theorem aK.IQ{w:MO}(h:aK w)(q:Nat):aK (w.drewN q):=⟨h.c0,h.c1,h.c2⟩
theorem rM(W:MO):(Qy 22 (Ny #[MF ME 8,MF ME 64,MF ME 512]) (MF ME 0)).run MK W=.ok (MF ME 8) W:=by kernel_rfl
theorem vy(W:MO):(Qy 22 (Ny #[MF ME 8,MF ME 64,MF ME 512]) (MF ME 1)).run MK W=.ok (MF ME 64) W:=by kernel_rfl
theorem rz(W:MO):(Qy 22 (Ny #[MF ME 8,MF ME 64,MF ME 512]) (MF ME 2)).run MK W=.ok (MF ME 512) W:=by kernel_rfl
theorem qo(x n:Int)(w:MO)(hB:aK w)(hx:0<=x)(hx2:x<=4398046511104)(hn:0<=n)(hn2:n<=4398046511104) :
  Ni MK 235 #[MF ME x,MF ME n] w fun r w'=>r=MN (MF ME (aG x n))/\∃q,w'=w.drewN q:=by
 have a1:x.tdiv 8=x / 8:=OT hx;have a2:x.tdiv 64=x / 64:=OT hx;have a3:x.tdiv 512=x / 512:=OT hx;have a4:n.tdiv 8=n / 8:=OT hn;have a5:n.tdiv 64=n / 64:=OT hn;have a6:n.tdiv 512=n / 512:=OT hn;have a7:x.tmod 8=x % 8:=Oi hx;have a8:(x / 8).tmod 8=x / 8 % 8:=Oi (by omega);have a9:(x / 64).tmod 8=x / 64 % 8:=Oi (by omega);obtain⟨p,hp⟩:∃p,p=aG x n:=⟨_,rfl⟩;rw[<-hp];unfold aG at hp;have HP:M6 _:=hp;clear hp;obtain⟨c0,c1,c2⟩:=hB;have i0:=rM;have i1:=vy;have i2:=rz;go_enter RS,RI;go_wp2
 go_loopw [8] (fun i wr=>∃(k:Nat) (q:Nat),i=MF ME k/\k<=3/\wr=w.drewN q/\(1<=k->¬x / 8=n / 8)/\(2<=k->¬x / 64=n / 64)/\(3<=k->¬x / 512=n / 512)) (fun i _=>3-(On i).toNat)
 case atStart=>exact⟨0,0,rfl,by omega,rfl,by omega,by omega,by omega⟩
 case round =>
  obtain⟨k,q,rfl,hk,rfl,k1,k2,k3⟩:=hrel;have hk4:k=0\/k=1\/k=2\/k=3:=by omega
  rcases hk4 with rfl|rfl|rfl|rfl
  ·by_cases h1:x / 8=n / 8
   ·have HE:M6 (p=x % 8):=by show p=_;rw[HP.out,Nh h1]
    go_wp2
    go_region
    go_wp2;go_ret;exact⟨by rw[HE.out];rfl,q+1,rfl⟩
   ·have HE:M6 (¬x / 8=n / 8):=h1
    clear k1 k2 k3;go_wp2
    go_region
    go_wp2
    go_roundw
    case rel=>exact⟨1,q+1,rfl,by omega,rfl,fun _=>HE.out,by omega,by omega⟩
    case measure=>simp[On]
  ·by_cases h1:x / 64=n / 64
   ·have HE:M6 (p=8+x / 8 % 8):=by show p=_;rw[HP.out,Nf (k1 (by omega)),Nh h1]
    clear k1 k2 k3;go_wp2
    go_region
    go_wp2;go_ret;exact⟨by rw[HE.out];rfl,q+1,rfl⟩
   ·have HE:M6 (_/\¬x / 64=n / 64):=⟨k1 (by omega),h1⟩
    clear k1 k2 k3;go_wp2
    go_region
    go_wp2
    go_roundw
    case rel=>exact⟨2,q+1,rfl,by omega,rfl,fun _=>HE.out.1,fun _=>HE.out.2,by omega⟩
    case measure=>simp[On]
  ·by_cases h1:x / 512=n / 512
   ·have HE:M6 (p=16+x / 64 % 8):=by show p=_;rw[HP.out,Nf (k1 (by omega)),Nf (k2 (by omega)),Nh h1]
    clear k1 k2 k3;go_wp2
    go_region
    go_wp2;go_ret;exact⟨by rw[HE.out];rfl,q+1,rfl⟩
   ·have HE:M6 (_/\_/\¬x / 512=n / 512):=⟨k1 (by omega),k2 (by omega),h1⟩
    clear k1 k2 k3;go_wp2
    go_region
    go_wp2
    go_roundw
    case rel=>exact⟨3,q+1,rfl,by omega,rfl,fun _=>HE.out.1,fun _=>HE.out.2.1,fun _=>HE.out.2.2⟩
    case measure=>simp[On]
  ·have HE:M6 (p=24):=by show p=_;rw[HP.out,Nf (k1 (by omega)),Nf (k2 (by omega)),Nf (k3 (by omega))]
   clear k1 k2 k3;go_wp2;go_ret;exact⟨by rw[HE.out];rfl,q,rfl⟩
theorem zu(n:Int)(w:MO)(hB:aK w)(hn:0<=n)(hn2:n<=4398046511104) :
  Ni MK 234 #[MF ME 0,MF ME n] w fun r w'=>r=MN (MF ME (8+n / 8 % 8))/\w'=w:=by
 have a4:n.tdiv 8=n / 8:=OT hn;have a8:(n / 8).tmod 8=n / 8 % 8:=Oi (by omega);obtain⟨c0,c1,c2⟩:=hB;go_enter TA,Tz;go_wp2;go_ret;exact⟨rfl,rfl⟩
theorem C9(n:Int)(w:MO)(hB:aK w)(hn:0<=n)(hn2:n<=4398046511104) :
  Ni MK 234 #[MF ME 1,MF ME n] w fun r w'=>r=MN (MF ME (16+n / 64 % 8))/\w'=w:=by
 have a4:n.tdiv 64=n / 64:=OT hn;have a8:(n / 64).tmod 8=n / 64 % 8:=Oi (by omega);obtain⟨c0,c1,c2⟩:=hB;go_enter TA,Tz;go_wp2;go_ret;exact⟨rfl,rfl⟩
theorem xE(n:Int)(w:MO) :
  Ni MK 234 #[MF ME 2,MF ME n] w fun r w'=>r=MN (MF ME 24)/\w'=w:=by
 go_enter TA,Tz;go_wp2;go_ret;exact⟨rfl,rfl⟩
def cW(now:Int)(t:Tm):Bool:=Nn (now<t.1) && Nn (t.1<=now+500) && Nn (t.1<=1099511627776) && Nn (0<=t.2) && Nn (t.2<=199)
theorem jk(now:Int)(t:Tm):cW now t=Nw↔now<t.1/\t.1<=now+500/\t.1<=1099511627776/\0<=t.2/\t.2<=199:=by
 simp[cW,and_assoc]
theorem rK(x y n:Int)(w:MO)(hn:0<=n)(hn2:n<=1099511627776) :
  Ni MK 209 #[Ny #[MF ME x,MF ME y],MF ME n] w fun r w'=>r=MN (M3 (cW n (x,y)))/\w'=w.alloc (MP #[MF ME x,MF ME y] 187):=by
 obtain⟨ans,hans⟩:∃ans,ans=cW n (x,y):=⟨_,rfl⟩;rw[<-hans];have H:M6 _:=hans;clear hans;cases h1:Nn (n<x)
 ·have HE:M6 (ans=Nb):=by show ans=Nb;rw[H.out];simp only[cW,h1,Bool.false_and]
  go_enter S0,SA;go_wp2;go_ret;exact⟨by rw[HE.out];rfl,rfl⟩
 ·go_enter S0,SA
  go_wp2
  all_goals
   go_ret;refine⟨congrArg (fun b=>MN (M3 b)) (Bool.eq_iff_iff.2 ?_),rfl⟩;rw[H.out,jk];have:=M2 h1;simp only[decide_eq_true_eq,Bool.false_eq_true,false_iff];omega
theorem kG{w:MO}{b:M7}{T:NU}(h:w.heap[g]?=MI (MP #[a,b,c] T (0,0))):w.cell? ⟨g,0,MH⟩=MI a/\w.cell? ⟨g,1,MH⟩=MI b/\w.cell? ⟨g,2,MH⟩=MI c/\g<w.heap.size:=by
 refine⟨by simp[Nl,h],by simp[Nl,h],by simp[Nl,h],?_⟩;exact(Array.getElem?_eq_some_iff.1 h).1
def dl(n:Int)(m:Int):Bool:=Nn (n % m=0)
theorem CN(n:Int)(w:MO)(hB:aK w)(hn:0<=n)(hn2:n<=4398046511104) :
  Ni MK 232 #[MF ME n] w fun r w'=>r=MN (Ny #[M3 (dl n 8),M3 (dl n 64),M3 (dl n 512)])/\MQ w.heap.size w w':=by
 have a1:n.tmod 8=n % 8:=Oi hn;have a2:n.tmod 64=n % 64:=Oi hn;have a3:n.tmod 512=n % 512:=Oi hn;obtain⟨b1,hb1⟩:∃b,b=dl n 8:=⟨_,rfl⟩;obtain⟨b2,hb2⟩:∃b,b=dl n 64:=⟨_,rfl⟩;obtain⟨b3,hb3⟩:∃b,b=dl n 512:=⟨_,rfl⟩;rw[<-hb1,<-hb2,<-hb3];unfold dl at hb1 hb2 hb3;have e1:(n % 8 == 0)=b1:=by rw[hb1];by_cases h:n % 8=0 <;> simp[h]
 have e2:(n % 64 == 0)=b2:=by rw[hb2];by_cases h:n % 64=0 <;> simp[h]
 have e3:(n % 512 == 0)=b3:=by rw[hb3];by_cases h:n % 512=0 <;> simp[h]
 clear hb1 hb2 hb3;obtain⟨c0,c1,c2⟩:=hB;have i0:=rM;have i1:=vy;have i2:=rz;have hlt0:0<w.heap.size:=MX w ⟨0,0,MH⟩ c0;go_enter Tryz.func232,Tryz.ntmps232;go_wp2
 go_loopw [7] (fun i wr=>∃k:Nat,i=MF ME k/\k<=3/\MQ w.heap.size w wr/\wr.heap[w.heap.size]?=MI (MP #[M3 Nb,M3 Nb,M3 Nb] 307 (0,0))/\wr.heap[w.heap.size+1]?=MI (MP #[M3 (Nn (1<=k) && b1),M3 (Nn (2<=k) && b2),M3 (Nn (3<=k) && b3)] 307 (0,0))) (fun i _=>3-(On i).toNat)
 case atStart =>
  exact⟨0,rfl,by omega,((MY _ _).alloc (MV _) _).alloc (by simp) _,aN _ _ (M1 _ _),bV _ _ _⟩
 case round =>
  obtain⟨k,rfl,hk,hb,h0,h1⟩:=hrel;have hk4:k=0\/k=1\/k=2\/k=3:=by omega
  rcases hk4 with rfl|rfl|rfl|rfl
  ·obtain⟨d0,d1,d2,hl⟩:=kG h1
   have f0:wr.frozen? ⟨w.heap.size+1,0,MH⟩=false:=by simp[Ng,h1]
   have HZ:M6 (_/\_/\_):=⟨hb,h0,h1⟩;clear hb h0 h1;go_wp2;refine⟨⟨1,rfl,by omega,HZ.out.1.setCell (by simp) _,(MU _ _ _ _ (by simp)).trans HZ.out.2.1,(NI _ _ 0 _ _ _ HZ.out.2.2).trans ?_⟩,by simp[On]⟩;simp
  ·obtain⟨d0,d1,d2,hl⟩:=kG h1
   have f0:wr.frozen? ⟨w.heap.size+1,1,MH⟩=false:=by simp[Ng,h1]
   have HZ:M6 (_/\_/\_):=⟨hb,h0,h1⟩;clear hb h0 h1;go_wp2;refine⟨⟨2,rfl,by omega,HZ.out.1.setCell (by simp) _,(MU _ _ _ _ (by simp)).trans HZ.out.2.1,(NI _ _ 1 _ _ _ HZ.out.2.2).trans ?_⟩,by simp[On]⟩;simp
  ·obtain⟨d0,d1,d2,hl⟩:=kG h1
   have f0:wr.frozen? ⟨w.heap.size+1,2,MH⟩=false:=by simp[Ng,h1]
   have HZ:M6 (_/\_/\_):=⟨hb,h0,h1⟩;clear hb h0 h1;go_wp2;refine⟨⟨3,rfl,by omega,HZ.out.1.setCell (by simp) _,(MU _ _ _ _ (by simp)).trans HZ.out.2.1,(NI _ _ 2 _ _ _ HZ.out.2.2).trans ?_⟩,by simp[On]⟩;simp
  ·obtain⟨d0,d1,d2,hl⟩:=kG h1
   obtain⟨x0,x1,x2,hl2⟩:=kG h0;have f0:wr.frozen? ⟨w.heap.size,0,MH⟩=false:=by simp[Ng,h0]
   have f1:wr.frozen? ⟨w.heap.size,1,MH⟩=false:=by simp[Ng,h0]
   have f2:wr.frozen? ⟨w.heap.size,2,MH⟩=false:=by simp[Ng,h0]
   have d0':wr.cell? ⟨w.heap.size+1,0,MH⟩=MI (M3 b1):=by rw[d0];simp
   have d1':wr.cell? ⟨w.heap.size+1,1,MH⟩=MI (M3 b2):=by rw[d1];simp
   have d2':wr.cell? ⟨w.heap.size+1,2,MH⟩=MI (M3 b3):=by rw[d2];simp
   have HZ:M6 (_/\_/\_):=⟨hb,h0,h1⟩;clear hb h0 h1 d0 d1 d2;go_wp2;have hz:=NI _ _ 2 _ _ (M3 b3) (NI _ _ 1 _ _ (M3 b2) (NI wr w.heap.size 0 _ _ (M3 b1) HZ.out.2.1));obtain⟨y0,y1,y2,_⟩:=kG hz;refine Np (v:=Ny #[M3 b1,M3 b2,M3 b3]) (by simp[Pf,Tryz.results232,go_sem,y0,y1,y2]) rfl ⟨rfl,?_⟩;exact((HZ.out.1.setCell (by simp) _).setCell (by simp) _).setCell (by simp) _
structure Ok(now:Int)(ls:List (List Tm)):Prop where
 len:ls.length=25
 fit:∀(i:Nat) (l:List Tm),ls[i]?=MI l->∀t∈l,cW now t=Nw/\aG t.1 now=(i:Int)
 ord:∀l∈ls,l.Pairwise (fun a b=>ax a b<0)
 ids:(ls.flatten.map (·.2)).Nodup
structure dW(f:Int->Option Int)(ls:List (List Tm)):Prop where
 here:∀(i:Nat) (l:List Tm),ls[i]?=MI l->∀t∈l,f t.2=MI (i:Int)
 gone:∀id,(∀t∈ls.flatten,t.2≠id)->f id=MH
theorem oK(ls:List (List Tm))(i:Nat)(l l':List Tm)(h:ls[i]?=MI l):∃a b,ls=a++l::b/\ls.set i l'=a++l'::b/\a.length=i:=by
 have hi:=(List.getElem?_eq_some_iff.1 h).1;have hl:=(List.getElem?_eq_some_iff.1 h).2;refine⟨ls.take i,ls.drop (i+1),?_,?_,by rw[NH];omega⟩
 ·rw[<-hl,Pp,Oo]
 ·rw[List.set_eq_take_append_cons_drop,Nh hi]
theorem vM(l:List Tm)(t:Tm)(j:Nat):(bQ l t j).Perm (t::l):=by
 unfold bQ;have h:=QC (a:=t) (l₁:=l.take j) (l₂:=l.drop j);rwa[Oo]at h
theorem qP{l:List Tm}{j:Nat}:x∈bQ l t j↔x=t\/x∈l:=by
 rw[(vM l t j).mem_iff,OO]
theorem ly{ls:List (List Tm)}{i:Nat}{l:List Tm}(h:ls[i]?=MI l)(t:Tm)(j:Nat):(ls.set i (bQ l t j)).flatten.Perm (t::ls.flatten):=by
 obtain⟨a,b,e1,e2,_⟩:=oK ls i l (bQ l t j) h;rw[e1]at e2⊢;rw[e2];simp only[PV,QS];have h1:(a.flatten++(bQ l t j++b.flatten)).Perm (a.flatten++(t::l++b.flatten)):=((vM l t j).append_right _).append_left _;refine h1.trans ?_;simp only[List.cons_append];exact QC
theorem sn{l:List Tm}(h:l.Pairwise (fun a b=>ax a b<0))(t:Tm)(j:Nat)(h1:∀x∈l.take j,ax x t<0)(h2:∀x∈l.drop j,ax t x<0):(bQ l t j).Pairwise (fun a b=>ax a b<0):=by
 unfold bQ;have hp:=List.pairwise_append.1 (by rw[Oo];exact h:(l.take j++l.drop j).Pairwise _);refine List.pairwise_append.2 ⟨hp.1,List.pairwise_cons.2 ⟨h2,hp.2.1⟩,fun x hx y hy=>?_⟩;rcases List.mem_cons.1 hy with rfl|hy
 ·exact h1 x hx
 ·exact hp.2.2 x hx y hy
theorem Ok.ID{now:Int}{ls:List (List Tm)}(h:Ok now ls){i:Nat}{l:List Tm}(hl:ls[i]?=MI l)(hf:cW now t=Nw)(hp:aG t.1 now=(i:Int))(hn:∀x∈ls.flatten,x.2≠t.2)(j:Nat)
  (h1:∀x∈l.take j,ax x t<0) (h2:∀x∈l.drop j,ax t x<0):Ok now (ls.set i (bQ l t j)):=by
 have hi:=(List.getElem?_eq_some_iff.1 hl).1;refine⟨by rw[NA];exact h.len,fun k m hk x hx=>?_,fun m hm=>?_,?_⟩
 ·by_cases hki:k=i
  ·subst hki
   rw[N7 hi]at hk;rw[<-NC hk]at hx;rcases qP.1 hx with rfl|hx
   ·exact⟨hf,hp⟩
   ·exact h.fit k l hl x hx
  ·rw[N3 (Pi hki)]at hk
   exact h.fit k m hk x hx
 ·rcases OB hm with hm|rfl
  ·exact h.ord m hm
  ·exact sn (h.ord l (Nu hl)) t j h1 h2
 ·rw[((ly hl t j).map _).nodup_iff,OA,QJ]
  refine⟨fun hm=>?_,h.ids⟩;obtain⟨x,hx,e⟩:=List.mem_map.1 hm;exact hn x hx e
theorem dW.ID{f:Int->Option Int}{ls:List (List Tm)}(h:dW f ls){i:Nat}{l:List Tm}(hl:ls[i]?=MI l)(hn:∀x∈ls.flatten,x.2≠t.2)(j:Nat):dW (fun k=>if k=t.2 then MI (i:Int)else f k) (ls.set i (bQ l t j)):=by
 have hi:=(List.getElem?_eq_some_iff.1 hl).1;refine⟨fun k m hk x hx=>?_,fun id hid=>?_⟩
 ·by_cases hki:k=i
  ·subst hki
   rw[N7 hi]at hk;rw[<-NC hk]at hx;rcases qP.1 hx with rfl|hx
   ·exact Nh rfl
   ·have:x.2≠t.2:=hn x (List.mem_flatten.2 ⟨l,Nu hl,hx⟩)
    simp only[Nf this];exact h.here k l hl x hx
  ·rw[N3 (Pi hki)]at hk
   have:x.2≠t.2:=hn x (List.mem_flatten.2 ⟨m,Nu hk,hx⟩);simp only[Nf this];exact h.here k m hk x hx
 ·have hne:id≠t.2:=fun e=>hid t ((ly hl t j).mem_iff.2 (NM ..)) e.symm
  simp only[Nf hne];exact h.gone id fun x hx=>hid x ((ly hl t j).mem_iff.2 (NB _ hx))
theorem dW.GP{f:Int->Option Int}{ls:List (List Tm)}(h:dW f ls)(id:Int):(f id).isSome=Nb↔∀x∈ls.flatten,x.2≠id:=by
 constructor
 ·intro hf x hx e
  obtain⟨m,hm,hxm⟩:=List.mem_flatten.1 hx;obtain⟨k,hk,rfl⟩:=NV hm;have:=h.here k _ (MR hk) x hxm;rw[e]at this;rw[this]at hf;cases hf
 ·intro hx
  rw[h.gone id hx];rfl
def ci(ls:List (List Tm))(i k:Nat):List (List Tm):=(Pm 25).map fun(a:Nat)=>if a<i then ls.getD a []else if a=i then(ls.getD i []).take k else []
theorem kJ(ls:List (List Tm))(i k a:Nat)(ha:a<25):(ci ls i k)[a]?=MI (if a<i then ls.getD a []else if a=i then(ls.getD i []).take k else []):=by
 simp[ci,ha]
theorem kA(ls:List (List Tm))(i k:Nat):(ci ls i k).length=25:=by simp[ci]
theorem yA(ls:List (List Tm))(i k:Nat)(hi:i<25)(l:List Tm)(hl:ls[i]?=MI l)(hk:k<l.length):(ci ls i k).set i (bQ (l.take k) l[k] (l.take k).length)=ci ls i (k+1):=by
 apply Ot;intro a;have hg:ls.getD i []=l:=by simp[Pq,hl]
 rcases Oq a 25 with ha|ha
 ·rw[kJ _ _ _ _ ha]
  by_cases hai:a=i
  ·subst hai
   rw[N7 (by rw[kA];exact ha),Nf (by omega),Nh rfl,hg,rd,M9 hk]
  ·rw[N3 (Pi hai),kJ _ _ _ _ ha,Nf hai,Nf hai]
 ·rw[Nz (by rw[NA,kA];exact ha),Nz (by rw[kA];exact ha)]
theorem DO(ls:List (List Tm))(i:Nat)(l:List Tm)(hl:ls[i]?=MI l):ci ls i l.length=ci ls (i+1) 0:=by
 have hg:ls.getD i []=l:=by simp[Pq,hl]
 unfold ci;refine PU fun a _=>?_
 rcases Nat.lt_trichotomy a i with h|h|h
 ·rw[Nh h,Nh (by omega)]
 ·subst h
  rw[Nf (by omega),Nh rfl,Nh (by omega),hg,NT]
 ·rw[Nf (by omega),Nf (by omega),Nf (by omega)]
  split
  ·simp
  ·rfl
theorem Bo(ls:List (List Tm))(h:ls.length=25):ci ls 25 0=ls:=by
 apply Ot;intro a;rcases Oq a 25 with ha|ha
 ·rw[kJ _ _ _ _ ha,Nh ha,MR (by omega)]
  simp[Pq,MR (show a<ls.length by omega)]
 ·rw[Nz (by rw[kA];exact ha),Nz (by omega)]
theorem qG(ls:List (List Tm)):ci ls 0 0=Nj 25 []:=by
 apply Ot;intro a;rcases Oq a 25 with ha|ha
 ·rw[kJ _ _ _ _ ha,Pj,Nh ha,Nf (QH _)]
  split
  ·simp
  ·rfl
 ·rw[Nz (by rw[kA];exact ha),Nz (by simp;exact ha)]
theorem Ew(ls:List (List Tm))(hls:ls.length=25)(i k:Nat)(l:List Tm)(hl:ls[i]?=MI l):ci ls i k=ls.take i++l.take k::Nj (24-i) []:=by
 have hi:=(List.getElem?_eq_some_iff.1 hl).1;have hg:ls.getD i []=l:=by simp[Pq,hl]
 apply Ot;intro a;rcases Oq a 25 with ha|ha
 ·rw[kJ _ _ _ _ ha,Q9,NH,show min i ls.length=i by omega]
  rcases Nat.lt_trichotomy a i with h|h|h
  ·rw[Nh h,Nh h,O0 h,MR (by omega)]
   simp[Pq,MR (show a<ls.length by omega)]
  ·subst h
   rw[Nf (by omega),Nh rfl,Nf (by omega),Nat.sub_self,hg];rfl
  ·rw[Nf (by omega),Nf (by omega),Nf (by omega),show a-i=(a-i-1)+1 by omega,N9,Pj,Nh (by omega)]
 ·rw[Nz (by rw[kA];exact ha),Nz (by simp;omega)]
theorem Aq(ls:List (List Tm))(hls:ls.length=25)(i k:Nat)(l:List Tm)(hl:ls[i]?=MI l):(ci ls i k).flatten=(ls.take i).flatten++l.take k:=by
 rw[Ew ls hls i k l hl];simp
theorem Ok.IA{now:Int}{ls:List (List Tm)}(h:Ok now ls){i k:Nat}{l:List Tm}(hl:ls[i]?=MI l)(hk:k<l.length) :
  cW now l[k]=Nw/\aG (l[k]).1 now=(i:Int)/\(∀x∈(ci ls i k).flatten,x.2≠(l[k]).2)/\∀x∈l.take k,ax x l[k]<0:=by
 have hf:=h.fit i l hl l[k] (Nk hk);refine⟨hf.1,hf.2,fun x hx e=>?_,fun x hx=>?_⟩
 ·rw[Aq ls h.len i k l hl]at hx
  have hi:=(List.getElem?_eq_some_iff.1 hl).1;have e1:ls.flatten=((ls.take i).flatten++l.take k)++(l[k]::(l.drop (k+1)++(ls.drop (i+1)).flatten)):=by
   have e2:ls=ls.take i++l::ls.drop (i+1):=by
    have hl2:=(List.getElem?_eq_some_iff.1 hl).2;rw[<-hl2,Pp,Oo]
   have e3:l=l.take k++l[k]::l.drop (k+1):=by rw[Pp,Oo]
   have e4:ls.flatten=(ls.take i).flatten++(l++(ls.drop (i+1)).flatten):=by
    have e5:(ls.take i++l::ls.drop (i+1)).flatten=(ls.take i).flatten++(l++(ls.drop (i+1)).flatten):=by simp
    rw[<-e2]at e5;exact e5
   have e6:l++(ls.drop (i+1)).flatten=(l.take k++l[k]::l.drop (k+1))++(ls.drop (i+1)).flatten:=congrArg (·++(ls.drop (i+1)).flatten) e3;rw[e4,e6];simp only[OC,List.cons_append]
  have hnd:=h.ids;rw[e1,OI,Qv]at hnd;exact hnd.2.2 x.2 (List.mem_map.2 ⟨x,hx,rfl⟩) (l[k]).2 (List.mem_map.2 ⟨l[k],NM ..,rfl⟩) e
 ·have ho:=h.ord l (Nu hl)
  obtain⟨j,hj,rfl⟩:=NV hx;rw[List.getElem_take];exact List.pairwise_iff_getElem.1 ho j k (by simp at hj;omega) hk (by simp at hj;omega)
theorem um(a b c d:Int)(w:MO) :
  Ni MK 239 #[Ny #[MF ME a,MF ME b],Ny #[MF ME c,MF ME d]] w fun r w'=>r=MN (MF ME (ax (a,b) (c,d)))/\w'=(((w.alloc (MP #[MF ME a,MF ME b] 187)).alloc (MP #[MF ME c,MF ME d] 187)).alloc (MP #[MF ME (cx a c),MF ME (cx b d)] 3)).drew:=by
 obtain⟨ans,hans⟩:∃ans,ans=ax (a,b) (c,d):=⟨_,rfl⟩;rw[<-hans];rw[nZ]at hans;obtain⟨x,hx⟩:∃x,x=cx a c:=⟨_,rfl⟩;obtain⟨y,hy⟩:∃y,y=cx b d:=⟨_,rfl⟩;rw[<-hx,<-hy]at hans;have H:M6 (_/\_/\_):=⟨hans,hx,hy⟩;clear hans hx hy;rw[<-H.out.2.1,<-H.out.2.2];go_enter Tryz.func239,Tryz.ntmps239
 go_wp2_with fail
 generalize hw2:(w.alloc (MP #[MF ME a,MF ME b] 187)).alloc (MP #[MF ME c,MF ME d] 187)=w2;have k1:w2.cell? ⟨w.heap.size,0,MH⟩=MI (MF ME a):=by rw[<-hw2];simp
 have k2:w2.cell? ⟨w.heap.size,1,MH⟩=MI (MF ME b):=by rw[<-hw2];simp
 have k3:w2.cell? ⟨w.heap.size+1,0,MH⟩=MI (MF ME c):=by rw[<-hw2];simp
 have k4:w2.cell? ⟨w.heap.size+1,1,MH⟩=MI (MF ME d):=by rw[<-hw2];simp
 have HW:M6 _:=hw2;clear hw2
 go_region_held3 (fun w'=>w'.cell? ⟨w.heap.size,0,MH⟩=MI (MF ME a)/\w'.cell? ⟨w.heap.size,1,MH⟩=MI (MF ME b)/\w'.cell? ⟨w.heap.size+1,0,MH⟩=MI (MF ME c)/\w'.cell? ⟨w.heap.size+1,1,MH⟩=MI (MF ME d)/\MQ w2.heap.size w2 w') (first|exact lr k1 k2 k3 k4 ((MY _ _).drew)|exact lr k1 k2 k3 k4 (((MY _ _).drew).alloc (MV _) _)) (first|(go_at_call_of 53 (MF ME a);refine(jZ a c _).mono ?_;rw[<-H.out.2.1];rintro r w1 ⟨rfl,rfl⟩)|(go_at_call_of 53 (MF ME b);refine(jZ b d _).mono ?_;rw[<-H.out.2.2];rintro r w1 ⟨rfl,rfl⟩)|(go_at_call 89;refine(oq x y w2.heap.size _ (by simp) (by simp)).mono ?_;rw[<-H.out.1];rintro r w1 ⟨rfl,rfl⟩))
 go_wp2;go_ret;exact⟨rfl,by rw[HW.out]⟩
theorem oo(a b c d:Int)(w:MO) :
  Ni MK 239 #[Ny #[MF ME a,MF ME b],Ny #[MF ME c,MF ME d]] w fun r w'=>r=MN (MF ME (ax (a,b) (c,d)))/\MQ w.heap.size w w' :=
 (um a b c d w).mono fun r w' h=>⟨h.1,by rw[h.2];exact((((MY _ _).alloc (MV _) _).alloc (by simp) _).alloc (by simp;omega) _).drew⟩
theorem jf{w:MO}(h1:w.cell? a1=MI v1)(h2:w.cell? a2=MI v2)(h3:w.cell? a3=MI v3)(h4:w.cell? a4=MI v4)
  (hb:MQ w.heap.size w w'):w'.cell? a1=MI v1/\w'.cell? a2=MI v2/\w'.cell? a3=MI v3/\w'.cell? a4=MI v4/\MQ w.heap.size w w' :=
 ⟨(hb.cell (MX w _ h1)).trans h1,(hb.cell (MX w _ h2)).trans h2,(hb.cell (MX w _ h3)).trans h3,(hb.cell (MX w _ h4)).trans h4,hb⟩
theorem Cu(v:M7)(l:List Tm)(ta td:Int)(i0:Nat)(w:MO)(hv:aO w v l)(h0:i0<=l.length)(h1:∀j (hj:j<l.length),j<i0->ax l[j] (ta,td)<0)(h2:∀j (hj:j<l.length),i0<=j->¬ax l[j] (ta,td)<0)(hlen:l.length<=1048577) :
  Ni MK 238 #[v,Ny #[MF ME ta,MF ME td],PB (PD 239) #[] #[]] w fun r w'=>∃b,r=MN (Nv #[MF ME i0,M3 b])/\MQ w.heap.size w w':=by
 obtain⟨a,ca,rfl,hca,hma,pa⟩:=hv.F6;unfold NE at hma;have HP:M6 (_/\_/\_):=⟨pa,h1,h2⟩;clear pa h1 h2;go_enter Tryz.func238,Tryz.ntmps238;go_wp2
 go_loopw [9,10] (fun i j wr=>∃(p q:Nat),i=MF ME p/\j=MF ME q/\p<=i0/\i0<=q/\q<=l.length/\MQ (w.heap.size+1) (w.alloc (MP #[MF ME ta,MF ME td] 187)) wr) (fun i j _=>(On j).toNat-(On i).toNat)
 case atStart=>exact⟨0,l.length,rfl,rfl,Nx _,h0,MV _,MY _ _⟩
 case round =>
  obtain⟨p,q,rfl,rfl,hp,hq,hql,hb⟩:=hrel;have k1:wr.cell? ⟨w.heap.size,0,MH⟩=MI (MF ME ta):=by rw[hb.cell (p:=⟨w.heap.size,0,MH⟩) (by simp)];simp
  have k2:wr.cell? ⟨w.heap.size,1,MH⟩=MI (MF ME td):=by rw[hb.cell (p:=⟨w.heap.size,1,MH⟩) (by simp)];simp
  have hbw:MQ w.heap.size w wr:=(((MY _ _).alloc (MV _) _)).trans (hb.mono (by omega));have HB:M6 (_/\_):=⟨hb,hbw⟩;clear hb hbw
  by_cases hlt:p<q
  ·have hpd:Nn ((p:Int)<(q:Int))=true:=Nq (by omega)
   obtain⟨m,hm⟩:∃m,m=(p+q) / 2:=⟨_,rfl⟩;have hm1:p<=m:=by omega
   have hm2:m<q:=by omega
   have hmI:((p:Int)+(q:Int)) / 2=(m:Int):=by omega
   have HM:M6 (_/\_):=⟨hm,hmI⟩;clear hm hmI;obtain⟨b0,off,rfl,hbl,p1,p2⟩:=HP.out.1 m (by omega);have e1:=(HB.out.2.cell (p:=⟨b0,off+m*2,MH⟩) hbl).trans p1;have e2:=(HB.out.2.cell (p:=⟨b0,off+m*2+1,MH⟩) hbl).trans p2;obtain⟨xa,hxa⟩:∃xa,(l[m]'(by omega)).1=xa:=⟨_,rfl⟩;obtain⟨xd,hxd⟩:∃xd,(l[m]'(by omega)).2=xd:=⟨_,rfl⟩;have hlm:l[m]'(by omega)=(xa,xd):=Q8 hxa hxd;rw[hxa]at e1;rw[hxd]at e2;have HX:M6 _:=hlm;clear hlm hxa hxd p1 p2;have hm3:(0:Int)<=(m:Int):=by omega
   have hm4:(m:Int)<(l.length:Int):=by omega
   have hbl2:b0<wr.heap.size:=M8 hbl HB.out.2.size
   go_wp2_with fail
   rw[HM.out.2];obtain⟨c,hc⟩:∃c,c=ax (xa,xd) (ta,td):=⟨_,rfl⟩;have HC:M6 _:=hc;clear hc;cases hcd:Nn (c<0)
   ·go_region_held3 (fun w'=>w'.cell? ⟨b0,off+m*2,MH⟩=MI (MF ME xa)/\w'.cell? ⟨b0,off+m*2+1,MH⟩=MI (MF ME xd)/\w'.cell? ⟨w.heap.size,0,MH⟩=MI (MF ME ta)/\w'.cell? ⟨w.heap.size,1,MH⟩=MI (MF ME td)/\MQ wr.heap.size wr w') (first|exact jf e1 e2 k1 k2 ((MY _ _).drew)|exact jf e1 e2 k1 k2 (dt hb1)) (first|(go_at_call 239;refine(oo xa xd ta td _).mono ?_;rw[<-HC.out];rintro r w1 ⟨rfl,hb1⟩))
    go_wp2;refine⟨⟨p,m,rfl,rfl,hp,?_,by omega,HB.out.1.trans ((dt hb1).mono (by have:=HB.out.1.size;simpa using this))⟩,by simp[On];omega⟩;rcases Oq m i0 with h|h
    ·have h3:=HP.out.2.1 m (by omega) h
     rw[HX.out,<-HC.out]at h3;exact absurd h3 (Nc hcd)
    ·exact h
   ·go_region_held3 (fun w'=>w'.cell? ⟨b0,off+m*2,MH⟩=MI (MF ME xa)/\w'.cell? ⟨b0,off+m*2+1,MH⟩=MI (MF ME xd)/\w'.cell? ⟨w.heap.size,0,MH⟩=MI (MF ME ta)/\w'.cell? ⟨w.heap.size,1,MH⟩=MI (MF ME td)/\MQ wr.heap.size wr w') (first|exact jf e1 e2 k1 k2 ((MY _ _).drew)|exact jf e1 e2 k1 k2 (dt hb1)) (first|(go_at_call 239;refine(oo xa xd ta td _).mono ?_;rw[<-HC.out];rintro r w1 ⟨rfl,hb1⟩))
    go_wp2;refine⟨⟨m+1,q,by simp,rfl,?_,hq,hql,HB.out.1.trans ((dt hb1).mono (by have:=HB.out.1.size;simpa using this))⟩,by simp[On];omega⟩;rcases Oq m i0 with h|h
    ·exact h
    ·have h3:=HP.out.2.2 m (by omega) h
     rw[HX.out,<-HC.out]at h3;have:=M2 hcd;omega
  ·obtain rfl:p=i0:=by omega
   obtain rfl:q=p:=by omega
   obtain⟨m,hm⟩:∃m,m=q:=⟨_,rfl⟩;subst hm
   by_cases hlt2:m<l.length
   ·obtain⟨b0,off,rfl,hbl,p1,p2⟩:=HP.out.1 m (by omega)
    have e1:=(HB.out.2.cell (p:=⟨b0,off+m*2,MH⟩) hbl).trans p1;have e2:=(HB.out.2.cell (p:=⟨b0,off+m*2+1,MH⟩) hbl).trans p2;obtain⟨xa,hxa⟩:∃xa,(l[m]'(by omega)).1=xa:=⟨_,rfl⟩;obtain⟨xd,hxd⟩:∃xd,(l[m]'(by omega)).2=xd:=⟨_,rfl⟩;rw[hxa]at e1;rw[hxd]at e2;clear hxa hxd p1 p2;have hm3:(0:Int)<=(m:Int):=by omega
    have hm4:(m:Int)<(l.length:Int):=by omega
    have hbl2:b0<wr.heap.size:=M8 hbl HB.out.2.size;obtain⟨c,hc⟩:∃c,c=ax (xa,xd) (ta,td):=⟨_,rfl⟩;have HC:M6 _:=hc;clear hc
    go_wp2_with fail
    go_region_held3 (fun w'=>w'.cell? ⟨b0,off+m*2,MH⟩=MI (MF ME xa)/\w'.cell? ⟨b0,off+m*2+1,MH⟩=MI (MF ME xd)/\w'.cell? ⟨w.heap.size,0,MH⟩=MI (MF ME ta)/\w'.cell? ⟨w.heap.size,1,MH⟩=MI (MF ME td)/\MQ wr.heap.size wr w') (first|exact jf e1 e2 k1 k2 ((MY _ _).drew)|exact jf e1 e2 k1 k2 (dt hb1)) (first|(go_at_call 239;refine(oo xa xd ta td _).mono ?_;rw[<-HC.out];rintro r w1 ⟨rfl,hb1⟩))
    go_wp2
    go_ret2
    exact⟨_,rfl,HB.out.2.trans ((dt hb1).mono HB.out.2.size)⟩
   ·obtain rfl:m=l.length:=by omega
    go_wp2_with fail
    go_region
    go_wp2
    go_ret2
    exact⟨_,rfl,HB.out.2.drew⟩
def lJ(base:Nat)(v:M7)(l:List Tm)(t:Tm)(i:Nat)(w:MO)(r:Ending)(w':MO):Prop :=
 ∃g cap,r=MN (MG (MI ⟨g,0,MH⟩) (l.length+1) cap)/\w'.ownsRow base 187 2 (MG (MI ⟨g,0,MH⟩) (l.length+1) cap) (l.length+1) (ag (bQ l t i))/\w.grownBy w' v.ownBlock/\(v.ownBlock=MI g\/w.heap.size<=g)
theorem pz:∀(l:List Tm) (i:Nat),(ag l).drop (i*2)=ag (l.drop i)
 | [],i=>by simp[ag]
 |t::l,0=>by simp[ag]
 |t::l,i+1=>by rw[show(i+1)*2=i*2+1+1 by omega];simp[ag,pz l i]
theorem Be(base:Nat)(v:M7)(l:List Tm)(ta td:Int)(k:Nat)(w:MO)(hown:w.ownsRow base 187 2 v l.length (ag l))(hbase:base<=w.heap.size)
  (hk:w.heap[k]?=MI (MP #[MF ME ta,MF ME td] 187 (0,0))) (hlen:l.length<=1048577) :
  Ni MK 240 #[v,MF ME l.length,MG (MI ⟨k,0,MH⟩) 1 1] w (lJ base v l (ta,td) l.length w):=by
 obtain⟨i0,hi,hz0,hz1,hz2⟩:=OF oE;have hnews:∀j u,(ag [(ta,td)])[j]?=MI u->w.cell? ((⟨k,0,MH⟩:Oc).add j)=MI u:=fun j u hu=>by
  have hadd:(⟨k,0,MH⟩:Oc).add j=⟨k,j,MH⟩:=by unfold Addr.add;split <;> simp_all
  rw[hadd,MW w k j _ _ (0,0) hk]
  simpa [ag]using hu
 obtain⟨p,c,rfl⟩:=cR hown;have hnc:l.length<=c:=by
  rcases hown.2 with⟨h,_⟩|⟨g,cap,cur,h,_,_,h2,_⟩
  ·simp only[N4]at h;omega
  ·simp only[N4]at h;omega
 have hcm:c<=9223372036854775807:=by
  rcases hown.2 with⟨h,_⟩|⟨g,cap,cur,h,_,_,_,h2,_⟩
  ·simp only[N4]at h;omega
  ·simp only[N4]at h;unfold NE at h2;omega
 by_cases hcl:c=l.length
 ·subst hcl
  have HO:M6 (_/\_):=⟨hown,hnews⟩;clear hown hnews;go_enter VR,VJ
  go_wp2_with (first|(at_builtin;refine O9 _ rfl _ _ 184 rfl base 187 i0 _ 2 16 U0 hi hz0 hz1 hz2 rfl (by decide) (MG p l.length l.length) _ _ rfl HO.out.1 _ 1 1 (ag [(ta,td)]) rfl rfl HO.out.2 (gg _) (by decide) (by unfold NE;omega) (by omega) hbase _ rfl ?_;intro g' cap w2 hown2 hg2 hlies hlt2))
  all_goals
   go_ret;exact⟨g',cap,rfl,by rw[rd,fw];exact hown2,hg2,hlies.imp id (fun h=>by omega)⟩
 ·have HO:M6 (_/\_):=⟨hown,hnews⟩
  clear hown hnews;go_enter VR,VJ
  go_wp2_with (first|(at_builtin;refine O9 _ rfl _ _ 184 rfl base 187 i0 _ 2 16 U0 hi hz0 hz1 hz2 rfl (by decide) (MG p l.length c) _ _ rfl HO.out.1 _ 1 1 (ag [(ta,td)]) rfl rfl HO.out.2 (gg _) (by decide) (by unfold NE;omega) (by omega) hbase _ rfl ?_;intro g' cap w2 hown2 hg2 hlies hlt2))
  all_goals
   go_ret;exact⟨g',cap,rfl,by rw[rd,fw];exact hown2,hg2,hlies.imp id (fun h=>by omega)⟩
theorem FO(base g c:Nat)(l:List Tm)(ta td:Int)(i k:Nat)(w:MO)(hown:w.ownsRow base 187 2 (MG (MI ⟨g,0,MH⟩) l.length c) l.length (ag l))(hbase:base<=w.heap.size)(hi:i<l.length)(hroom:c<l.length+1)
  (hk:w.heap[k]?=MI (MP #[MF ME ta,MF ME td] 187 (0,0))) (hlen:l.length<=1048577) :
  Ni MK 240 #[MG (MI ⟨g,0,MH⟩) l.length c,MF ME i,MG (MI ⟨k,0,MH⟩) 1 1] w (lJ base (MG (MI ⟨g,0,MH⟩) l.length c) l (ta,td) i w):=by
 obtain⟨i0,hif,hz0,hz1,hz2⟩:=OF oE;have hcl:c=l.length:=by
  rcases hown.2 with⟨h,_⟩|⟨g',cap,cur,h,_,_,h2,_⟩
  ·cases h
  ·simp only[N4]at h;omega
 subst hcl;have hsz:(Tryz.prog.info? 187).map (·.size)=MI 2:=by rw[hif];simp[hz1]
 have hglt:=(hown.lt g rfl).2;have hklt:k<w.heap.size:=(Array.getElem?_eq_some_iff.1 hk).1;obtain⟨cap,zs,w2,hr1,ho2,hzl,hcap,hg2,hs2⟩:=nn (P:=MK) w 184 3 184 187 i0 _ ME 2 16 U0 Ol hif hz0 hz1 hz2 rfl (by decide) base ⟨g,0,MH⟩ i l.length (l.length+1-i) (ag (l.take i)) (by rw[bZ,NH];omega)
  (fun j u hu=>by
   rw[fG,hown.cellAt j (by have:=(List.getElem?_eq_some_iff.1 hu).1;rw[bZ,NH]at this;omega)];rw[<-iM]at hu;rw[List.getElem?_take]at hu
   split at hu
   ·exact hu
   ·cases hu) (by omega) (by omega) (by unfold NE;omega) (by omega) hbase
 have him:i+(l.length+1-i)=l.length+1:=by omega
 rw[him]at hr1 ho2 hcap;rw[show((l.length+1-i:Nat):Int)=(l.length:Int)+1-(i:Int)by omega]at hr1;obtain⟨w3,hr2,ho3,hg3⟩:=fA (P:=MK) w2 184 3 187 2 U0 hsz base w.heap.size (l.length+1) cap _ ho2 (i*2) (l.length+1-i) (cap-i) ⟨k,0,MH⟩ 1 1 1 (ag [(ta,td)]) (by simp only[PR];split <;> omega) rfl (by simp[ag];omega)
  (fun j u hu=>by
   rw[fG,(hg2.cell (a:=⟨k,j,MH⟩) (v:=u) (by rw[MW w k j _ _ (0,0) hk];simpa [ag]using hu) (by simp))]) (gg _)
 obtain⟨w4,hr3,ho4,hg4⟩:=fA (P:=MK) w3.drew 184 3 187 2 U0 hsz base w.heap.size (l.length+1) cap _ ho3 ((i+1)*2) (l.length-i) (cap-(i+1)) ⟨g,i*2,MH⟩ (l.length-i) (l.length-i) (l.length-i) (ag (l.drop i)) (by simp only[PR];split <;> omega) (by rw[bZ,NJ]) (by rw[bZ,NJ];omega)
  (fun j u hu=>by
   rw[eJ];have hj:=(List.getElem?_eq_some_iff.1 hu).1;rw[bZ,NJ]at hj;have h1:w.cell? ⟨g,i*2+j,MH⟩=MI u:=by
    rw[hown.cellAt _ (by omega),<-hu,<-pz,Pa]
   exact hg3.cell (a:=⟨g,i*2+j,MH⟩) (hg2.cell h1 (by simp)) (by simp;omega)) (gg _)
 have hend:(ag (l.take i)++zs).take (i*2)++ag [(ta,td)]++(ag (l.take i)++zs).drop (i*2+(ag [(ta,td)]).length)=ag (l.take i++[(ta,td)])++zs.drop 2:=by
  have e0:(ag (l.take i)).length=i*2:=by rw[bZ,NH];omega
  rw[<-e0,Qb,fw,Qa];simp[ag]
 have hend2:∀ys:List M7,((ag (l.take i++[(ta,td)])++ys).take ((i+1)*2)++ag (l.drop i)++(ag (l.take i++[(ta,td)])++ys).drop ((i+1)*2+(ag (l.drop i)).length))=ag (bQ l (ta,td) i)++ys.drop ((l.length-i)*2):=fun ys=>by
  have e0:(ag (l.take i++[(ta,td)])).length=(i+1)*2:=by rw[bZ];simp;omega
  rw[<-e0,Qb,Qa,bZ (l.drop i),NJ,bQ,fw,fw];simp[ag]
 rw[hend,hend2]at ho4;rw[List.drop_drop,PI (by rw[hzl];omega),OG]at ho4;have hgw:w.grownBy w4 (MG (MI ⟨g,0,MH⟩) l.length l.length).ownBlock :=
  ⟨hg4.os.trans (hg3.os.trans hg2.os),hg4.tape.trans (hg3.tape.trans hg2.tape),hg4.output.trans (hg3.output.trans hg2.output),Nm hg2.size (Nm hg3.size hg4.size),fun j hj _=>by
   rw[hg4.block j (M8 hj (Nm hg2.size hg3.size)) (by simp;omega)];show w3.heap[j]?=_;rw[hg3.block j (M8 hj hg2.size) (by simp;omega),hg2.block j hj (by simp)]⟩
 have HO:M6 (_/\_/\_/\_/\_):=⟨hr1,hr2,hr3,ho4,hgw⟩;have hI1:(i:Int)<=(l.length:Int):=by omega
 have hI2:(i:Int)<(l.length:Int)+1:=by omega
 have hne1:¬cap=i:=by omega
 have hne2:¬cap=i+1:=by omega
 have hne3:¬l.length=i:=by omega
 have hne4:((i:Int) == (l.length:Int))=false:=by simp;omega
 clear hr1 ho2 ho3 ho4 hg2 hg3 hg4 hzl hown hk hend hend2 hgw;go_enter VR,VJ
 go_wp2_with (first|(at_builtin;refine Lib.wpList_append_run _ rfl _ _ _ _ rfl _ _ rfl rfl _ _ HO.out.1 ?_))
 go_region
 go_wp2;go_ret;exact⟨w.heap.size,cap,rfl,HO.out.2.2.2.1,HO.out.2.2.2.2,NF (MV _)⟩
theorem yQ(base g c:Nat)(l:List Tm)(ta td:Int)(i k:Nat)(w:MO)(hown:w.ownsRow base 187 2 (MG (MI ⟨g,0,MH⟩) l.length c) l.length (ag l))(hbase:base<=w.heap.size)(hi:i<l.length)(hroom:l.length+1<=c)(hkg:k≠g)
  (hk:w.heap[k]?=MI (MP #[MF ME ta,MF ME td] 187 (0,0))) (hlen:l.length<=1048577) :
  Ni MK 240 #[MG (MI ⟨g,0,MH⟩) l.length c,MF ME i,MG (MI ⟨k,0,MH⟩) 1 1] w (lJ base (MG (MI ⟨g,0,MH⟩) l.length c) l (ta,td) i w):=by
 obtain⟨i0,hif,hz0,hz1,hz2⟩:=OF oE;have hsz:(Tryz.prog.info? 187).map (·.size)=MI 2:=by rw[hif];simp[hz1]
 obtain⟨cur,hgc,hcm,hcs,htk,hbg⟩:∃cur:Array M7,w.heap[g]?=MI (MP cur 187 (0,0))/\c<=NE/\cur.size=c*2/\cur.toList.take (l.length*2)=ag l/\base<=g:=by
  rcases hown.2 with⟨h,_⟩|⟨g',cap,cur,h,hb,hg,h2,h3,h4,h5⟩
  ·cases h
  ·simp only[N4,Qs,Q1,and_true,true_and]at h
   obtain⟨rfl,rfl⟩:=h;exact⟨cur,hg,h3,h4,h5,hb⟩
 have hown1:w.ownsRow base 187 2 (MG (MI ⟨g,0,MH⟩) (l.length+1) c) (l.length+1) (cur.toList.take ((l.length+1)*2)):=
  ⟨by simp only[NH,Om,hcs];omega,NF ⟨g,c,cur,rfl,hbg,hgc,hroom,hcm,hcs,rfl⟩⟩
 have hx:cur.toList.take ((l.length+1)*2)=ag l++(cur.toList.drop (l.length*2)).take 2:=by
  rw[<-htk,show(l.length+1)*2=l.length*2+2 by omega,List.take_add]
 rw[hx]at hown1;have hspl:((cur.toList.drop (l.length*2)).take 2).length=2:=by simp only[NH,NJ,Om,hcs];omega
 generalize (cur.toList.drop (l.length*2)).take 2=sp at hown1 hspl;have hglt:=(hown.lt g rfl).2;obtain⟨w2,hr1,ho2,hg2⟩:=fA (P:=MK) w.drew 184 3 187 2 U0 hsz base g (l.length+1) c _ hown1 ((i+1)*2) (l.length-i) (c-(i+1)) ⟨g,i*2,MH⟩ (l.length+1-i) (c-i) (l.length-i) (ag (l.drop i)) (by simp only[PR];split <;> omega) (by rw[bZ,NJ]) (by rw[bZ,NJ];omega)
  (fun j u hu=>by
   rw[eJ];have hj:=(List.getElem?_eq_some_iff.1 hu).1;rw[bZ,NJ]at hj;have h1:w.cell? ⟨g,i*2+j,MH⟩=MI u:=by
    rw[hown.cellAt _ (by omega),<-hu,<-pz,Pa]
   exact h1) (gg _)
 obtain⟨w3,hr2,ho3,hg3⟩:=fA (P:=MK) w2 184 3 187 2 U0 hsz base g (l.length+1) c _ ho2 (i*2) (l.length+1-i) (c-i) ⟨k,0,MH⟩ 1 1 1 (ag [(ta,td)]) (by simp only[PR];split <;> omega) rfl (by simp[ag];omega)
  (fun j u hu=>by
   rw[fG,(hg2.cell (a:=⟨k,j,MH⟩) (v:=u) (show w.cell? _=_ by rw[MW w k j _ _ (0,0) hk];simpa [ag]using hu) (by simp;omega))]) (gg _)
 have hend:∀xs:List M7,xs=(ag l++sp).take ((i+1)*2)++ag (l.drop i)++(ag l++sp).drop ((i+1)*2+(ag (l.drop i)).length)->xs.take (i*2)++ag [(ta,td)]++xs.drop (i*2+(ag [(ta,td)]).length)=ag (bQ l (ta,td) i):=fun xs hxs=>by
  have e1:(ag l++sp).drop ((i+1)*2+(ag (l.drop i)).length)=[]:=PI (by rw[Ns,bZ,bZ,NJ,hspl];omega);have e2:(ag l++sp).take ((i+1)*2)=ag (l.take (i+1)):=by
   rw[ZqA (by rw[bZ];omega),iM]
  rw[e1,e2,OG]at hxs;have e3:(ag (l.take (i+1))).length=(i+1)*2:=by rw[bZ,NH];omega
  have e4:xs.take (i*2)=ag (l.take i):=by
   rw[hxs,ZqA (by rw[e3];omega),iM,List.take_take,show min i (i+1)=i by omega]
  have e5:xs.drop (i*2+(ag [(ta,td)]).length)=ag (l.drop i):=by
   rw[hxs,show i*2+(ag [(ta,td)]).length=(ag (l.take (i+1))).length by rw[e3];simp[ag];omega,List.drop_left]
  rw[e4,e5,bQ,fw];simp[ag]
 rw[hend _ rfl]at ho3;have hgw:w.grownBy w3 (MG (MI ⟨g,0,MH⟩) l.length c).ownBlock :=
  ⟨hg3.os.trans hg2.os,hg3.tape.trans hg2.tape,hg3.output.trans hg2.output,Nm hg2.size hg3.size,fun j hj hne=>by
   rw[hg3.block j (M8 hj hg2.size) hne];exact hg2.block j hj hne⟩
 have hov:∀lb cb,(callFunc 255 #[MG (MI ⟨k,0,MH⟩) 1 1,MG (MI ⟨g,(i+1)*2,MH⟩) lb cb]).run MK w=.ok (.value (M3 Nb)) w:=fun lb cb=>by
  rw[run_callFunc_extern Tryz.func255 (by kernel_rfl) (by kernel_rfl) (by kernel_rfl) (e:=P9 #[184,184] #[4]) (by kernel_rfl),
   Lib.run_overlaps_apart w 184 4 187 U0 2 Tryz.sizeOf187 ⟨k,0,MH⟩ ⟨g,(i+1)*2,MH⟩ 1 1 lb cb hkg 187 187 2 cur.size (by simp[QO,hk]) (by simp[QO,hgc]) (by omega) (by simp[Ng,hk]) (by simp[Ng,hk])]
  rfl
 have HO:M6 (_/\_):=⟨ho3,hgw⟩;have hI1:(i:Int)<=(l.length:Int):=by omega
 have hI2:(i:Int)<=(l.length:Int)+1:=by omega
 have hne1:¬c=i:=by omega
 have hne2:¬c=i+1:=by omega
 have hne4:((i:Int) == (l.length:Int))=false:=by simp;omega
 have hrm:(l.length:Int)+1<=(c:Int):=by omega
 unfold NE at hcm;clear ho2 ho3 hg2 hg3 hown hown1 hk hend hgw hgc htk hx hspl;go_enter VR,VJ
 go_wp2_with (simp only[hov])
 go_region
 go_wp2;go_ret;exact⟨g,c,rfl,HO.out.1,HO.out.2,Nt rfl⟩
theorem Dr(base:Nat)(v:M7)(l:List Tm)(ta td:Int)(i k:Nat)(w:MO)(hown:w.ownsRow base 187 2 v l.length (ag l))(hbase:base<=w.heap.size)(hi:i<=l.length)(hkv:v.ownBlock≠MI k)
  (hk:w.heap[k]?=MI (MP #[MF ME ta,MF ME td] 187 (0,0))) (hlen:l.length<=1048577) :
  Ni MK 240 #[v,MF ME i,MG (MI ⟨k,0,MH⟩) 1 1] w (lJ base v l (ta,td) i w):=by
 rcases Oq i l.length with hlt|hge
 ·obtain⟨g,c,rfl,_⟩:=hown.form (by omega)
  rcases Oq c (l.length+1)with h|h
  ·exact FO base g c l ta td i k w hown hbase hlt h hk hlen
  ·exact yQ base g c l ta td i k w hown hbase hlt h (fun e=>hkv (by rw[e];rfl)) hk hlen
 ·obtain rfl:i=l.length:=by omega
  exact Be base v l ta td k w hown hbase hk hlen
section
open Go.Maps (Keyed int_keyed keyOf_int_mk)
theorem rB(W:MO):(zeroValue 3).run MK W=.ok (MF ME 0) W:=by kernel_rfl
theorem lY:Keyed MK 3:=int_keyed Ol
def ep(w:MO)(b n:Nat)(f:Int->Option Int):Prop :=
 ∃D:DataW Unit,w.ownsMap MK 3 (plainElem MK 3) b n D/\∀id,(N6 ME id).wf=Nw->Maps.has D (N6 ME id)=(f id).isSome/\∀x,f id=MI x->D.atKey (N6 ME id) (.lit (N6 ME 0))=.lit (N6 ME x)
theorem ep.Gf{w:MO}{n:Nat}{f:Int->Option Int}(h:ep w b n f)(hb:w'.heap[b]?=w.heap[b]?):ep w' b n f:=by
 obtain⟨D,⟨es,clock,h1,h2⟩,h3⟩:=h;exact⟨D,⟨es,clock,hb.trans h1,h2⟩,h3⟩
theorem ep.lt{w:MO}{n:Nat}{f:Int->Option Int}(h:ep w b n f):b<w.heap.size:=by
 obtain⟨D,⟨es,clock,h1,h2⟩,h3⟩:=h;exact(Array.getElem?_eq_some_iff.1 h1).1
structure ac(w:MO)(base T B M n:Nat)(now:Int)(vs:List M7)(ls:List (List Tm))(f:Int->Option Int):Prop where
 box:w.heap[T]?=MI (MP #[MF ME now,MG (MI ⟨B,0,MH⟩) 25 25,P0 (MI M)] 275 (0,0))
 own:ar w base (MG (MI ⟨B,0,MH⟩) 25 25) vs ls
 map:ep w M n f
 offT:∀u∈MG (MI ⟨B,0,MH⟩) 25 25::vs,u.ownBlock≠MI T
 offM:∀u∈MG (MI ⟨B,0,MH⟩) 25 25::vs,u.ownBlock≠MI M
 hT:base<=T
 hM:base<=M
 hTM:T≠M
 len:ls.length=25
theorem cF{w:MO}{b:M7}{T:NU}(h:w.heap[g]?=MI (MP #[a,b,c] T (0,0))):w.cell? ⟨g,0,MH⟩=MI a/\w.cell? ⟨g,1,MH⟩=MI b/\w.cell? ⟨g,2,MH⟩=MI c/\g<w.heap.size:=by
 refine⟨by simp[Nl,h],by simp[Nl,h],by simp[Nl,h],?_⟩;exact(Array.getElem?_eq_some_iff.1 h).1
theorem ac.Gf{w:MO}{base T B M n:Nat}{now:Int}{vs:List M7}{ls:List (List Tm)}{f:Int->Option Int}(h:ac w base T B M n now vs ls f)(hk:∀g,base<=g->g<w.heap.size->w'.heap[g]?=w.heap[g]?):ac w' base T B M n now vs ls f :=
 ⟨(hk T h.hT (Array.getElem?_eq_some_iff.1 h.box).1).trans h.box,h.own.Gf hk,h.map.Gf (hk M h.hM h.map.lt),h.offT,h.offM,h.hT,h.hM,h.hTM,h.len⟩
theorem ac.below{w:MO}{base T B M n:Nat}{now:Int}{vs:List M7}{ls:List (List Tm)}{f:Int->Option Int}(h:ac w base T B M n now vs ls f)(hb:MQ w.heap.size w w'):ac w' base T B M n now vs ls f :=
 h.Gf fun g _ hg=>hb.block g hg
theorem qW(T M n:Nat)(f:Int->Option Int)(id:Int)(w:MO)(hc:w.cell? ⟨T,2,MH⟩=MI (P0 (MI M)))(hm:ep w M n f)(hid:(N6 ME id).wf=Nw) :
  Ni MK 210 #[Na (MI ⟨T,0,MH⟩),MF ME id] w fun r w'=>r=MN (M3 (f id).isSome)/\w'=w:=by
 obtain⟨D,hown,hf⟩:=hm;have hkey:keyOf MK 3 (MF ME id)=MI (N6 ME id):=Qg Ol hid;obtain⟨b,hb⟩:∃b,b=Maps.has D (N6 ME id):=⟨_,rfl⟩;have HF:M6 (b=(f id).isSome):=by rw[hb];exact(hf id hid).1
 have HO:M6 (_/\_):=⟨hown,hb⟩;clear hf hb hown;rw[<-HF.out];go_enter Uj,T9
 go_wp2_with (first|(at_lookup;refine wpList_lookup_own_ok_int _ rfl _ _ 273 rfl 3 3 ME lY Va Ol (rB _) M n D rfl HO.out.1 _ _ rfl hkey ?_;rw[<-HO.out.2];intro c hat hwc))
 go_ret;exact⟨rfl,rfl⟩
end
section
open Go.Sort (grow grow_empty grow_grow alloc_eq_grow cell?_grow heap_grow_old)
def iE(a:List Tm)(t:Tm):Bool:=match a.getLast? with|none=>Nw|some x=>Nn (ax x t<0)
theorem ic(w:MO)(q:Nat)(os:Array Obj):MQ w.heap.size w (Oj (w.drewN q) os):=
 ⟨rfl,rfl,rfl,by simp[Oj,World.drewN],fun k hk=>heap_grow_old (w.drewN q) os hk⟩
theorem kK{now:Int}(h:cW now t=Nw)(hn:0<=now):0<=t.1/\t.1<=4398046511104/\(N6 ME t.2).wf=true:=by
 have h:=(jk now t).1 h;exact⟨by omega,by omega,kM (by omega) (by omega)⟩
theorem qk(x y n:Int)(w:MO)(hn:0<=n)(hn2:n<=1099511627776) :
  Ni MK 209 #[Ny #[MF ME x,MF ME y],MF ME n] w fun r w'=>r=MN (M3 (cW n (x,y)))/\∃q os,w'=Oj (w.drewN q) os :=
 (rK x y n w hn hn2).mono fun r w' h=>⟨h.1,0,#[_],h.2.trans (PQ w _)⟩
theorem qn(x n:Int)(w:MO)(hB:aK w)(hx:0<=x)(hx2:x<=4398046511104)(hn:0<=n)(hn2:n<=4398046511104) :
  Ni MK 235 #[MF ME x,MF ME n] w fun r w'=>r=MN (MF ME (aG x n))/\∃q os,w'=Oj (w.drewN q) os :=
 (qo x n w hB hx hx2 hn hn2).mono fun r w' h=>by
  obtain⟨h1,q,h2⟩:=h;exact⟨h1,q,#[],by rw[grow_empty];exact h2⟩
theorem uk(T M n:Nat)(f:Int->Option Int)(id:Int)(w:MO)(hc:w.cell? ⟨T,2,MH⟩=MI (P0 (MI M)))(hm:ep w M n f)(hid:(N6 ME id).wf=Nw) :
  Ni MK 210 #[Na (MI ⟨T,0,MH⟩),MF ME id] w fun r w'=>r=MN (M3 (f id).isSome)/\∃q os,w'=Oj (w.drewN q) os :=
 (qW T M n f id w hc hm hid).mono fun r w' h=>⟨h.1,0,#[],by rw[grow_empty];exact h.2⟩
theorem Fs(a b c d:Int)(w:MO) :
  Ni MK 239 #[Ny #[MF ME a,MF ME b],Ny #[MF ME c,MF ME d]] w fun r w'=>r=MN (MF ME (ax (a,b) (c,d)))/\∃q os,w'=Oj (w.drewN q) os :=
 (um a b c d w).mono fun r w' h=>by
  refine⟨h.1,1,#[MP #[MF ME a,MF ME b] 187,MP #[MF ME c,MF ME d] 187,MP #[MF ME (cx a c),MF ME (cx b d)] 3],?_⟩;rw[h.2,PQ,PQ,PQ,grow_grow,grow_grow];rfl
theorem xD(base T B M n:Nat)(now:Int)(vs:List M7)(ls:List (List Tm))(f:Int->Option Int)(ta td:Int)(i:Nat)(w:MO)(hB:aK w)(hT:ac w base T B M n now vs ls f)(hn:0<=now)(hn2:now<=1099511627776)(hi:i<25)
  (h:(cW now (ta,td) && Nn (aG ta now=i) && !(f td).isSome)=Nb) :
  Ni MK 231 #[Na (MI ⟨T,0,MH⟩),Ny #[MF ME ta,MF ME td],MF ME i] w fun r w'=>r=MN (M3 Nb)/\MQ w.heap.size w w':=by
 have bB:=bB;obtain⟨t0,t1,t2,tlt⟩:=cF hT.box;have hMap:=hT.map;obtain⟨w2,hw2⟩:∃w2,w2=w.alloc (MP #[MF ME ta,MF ME td] 187):=⟨_,rfl⟩;have hbw:MQ w.heap.size w w2:=by rw[hw2];exact(MY _ _).alloc (MV _) _
 have hlt:w.heap.size<w2.heap.size:=by rw[hw2];simp
 have tlt2:T<w2.heap.size:=by omega
 have k1:∀n os,(Oj (w2.drewN n) os).cell? ⟨w.heap.size,0,MH⟩=MI (MF ME ta):=Ob hlt (by rw[hw2];simp);have k2:∀n os,(Oj (w2.drewN n) os).cell? ⟨w.heap.size,1,MH⟩=MI (MF ME td):=Ob hlt (by rw[hw2];simp);have k3:∀n os,(Oj (w2.drewN n) os).cell? ⟨T,0,MH⟩=MI (MF ME now):=Ob tlt2 ((hbw.cell (p:=⟨T,0,MH⟩) tlt).trans t0);have k4:∀n os,(Oj (w2.drewN n) os).cell? ⟨T,2,MH⟩=MI (P0 (MI M)):=Ob tlt2 ((hbw.cell (p:=⟨T,2,MH⟩) tlt).trans t2);have hBlk:∀n os,aK (Oj (w2.drewN n) os):=fun n os=>(hB.below hbw).below (ic w2 n os)
 have hMp:∀q os,ep (Oj (w2.drewN q) os) M n f:=fun q os=>(hMap.Gf (hbw.block M hMap.lt)).Gf ((ic w2 q os).block M (M8 hMap.lt hbw.size))
 have HB:M6 (_/\_/\_):=⟨hBlk,hMp,hbw⟩;have HW:M6 _:=hw2;clear hBlk hMp hbw hT hMap t0 t1 t2 hw2;cases hfit:cW now (ta,td)
 ·have HF:M6 (∀W:MO,Ni MK 209 #[Ny #[MF ME ta,MF ME td],MF ME now] W fun r w'=>r=MN (M3 Nb)/\∃q os,w'=Oj (W.drewN q) os):=fun W=>by rw[<-hfit];exact qk ta td now W hn hn2
  clear h;go_enter R2,RO
  go_wp2_with fail
  rw[<-HW.out];refine NQ bB (by kernel_rfl) ?_
  repeat (first|go_big_quiet_skip|quiet_step (first|(go_at_call 209;exact NZ (HF.out _))))
  refine Oy ?_;intro _ hw';obtain⟨⟨nq,osq⟩,hw''⟩:=hw';subst hw'';go_wp2;go_ret;exact⟨rfl,HB.out.2.2.trans ((ic w2 nq osq).mono HB.out.2.2.size)⟩
 ·have hb:=kK hfit hn
  have HF:M6 (∀W:MO,Ni MK 209 #[Ny #[MF ME ta,MF ME td],MF ME now] W fun r w'=>r=MN (M3 Nw)/\∃q os,w'=Oj (W.drewN q) os):=fun W=>by rw[<-hfit];exact qk ta td now W hn hn2
  rw[hfit]at h;cases hpl:Nn (aG ta now=i)
  ·have hpl2:(aG ta now != (i:Int))=true:=by simpa using hpl
   clear h hpl;go_enter R2,RO
   go_wp2_with fail
   rw[<-HW.out];refine NQ bB (by kernel_rfl) ?_
   repeat (first|go_big_quiet_skip|quiet_step (first|(go_at_call 209;exact NZ (HF.out _))|(go_at_call 235;exact NZ (qn ta now _ (HB.out.1 _ _) hb.1 hb.2.1 hn (by omega)))))
   refine Oy ?_;intro _ hw';obtain⟨⟨nq,osq⟩,hw''⟩:=hw';subst hw'';go_wp2;go_ret;exact⟨rfl,HB.out.2.2.trans ((ic w2 nq osq).mono HB.out.2.2.size)⟩
  ·have hpl2:(aG ta now != (i:Int))=false:=by simpa using hpl
   have hhas:(f td).isSome=true:=by rw[hpl]at h;simpa using h
   have HS:M6 (∀q os,Ni MK 210 #[Na (MI ⟨T,0,MH⟩),MF ME td] (Oj (w2.drewN q) os) fun r w'=>r=MN (M3 Nw)/\∃q' os',w'=Oj ((Oj (w2.drewN q) os).drewN q') os'):=fun q os=>by rw[<-hhas];exact uk T M n f td _ (k4 _ _) (HB.out.2.1 _ _) hb.2.2
   clear h hpl;go_enter R2,RO
   go_wp2_with fail
   rw[<-HW.out];refine NQ bB (by kernel_rfl) ?_
   repeat (first|go_big_quiet_skip|quiet_step (first|(go_at_call 209;exact NZ (HF.out _))|(go_at_call 235;exact NZ (qn ta now _ (HB.out.1 _ _) hb.1 hb.2.1 hn (by omega)))|(go_at_call 210;exact NZ (HS.out _ _))))
   refine Oy ?_;intro _ hw';obtain⟨⟨nq,osq⟩,hw''⟩:=hw';subst hw'';go_wp2;go_ret;exact⟨rfl,HB.out.2.2.trans ((ic w2 nq osq).mono HB.out.2.2.size)⟩
theorem ky{w:MO}{base:Nat}{v:M7}{vs:List M7}{ls:List (List Tm)}(h:ar w base v vs ls)(i:Nat)(hi:i<ls.length):∃u,vs[i]?=MI u/\w.ownsRow base 187 2 u ls[i].length (ag ls[i]):=by
 have hl:=h.each.1;exact⟨vs[i]'(by omega),MR _,h.each.2 i (by omega) hi⟩
theorem kq{w:MO}{base B n cap:Nat}{vs:List M7}{ls:List (List Tm)}(h:ar w base (MG (MI ⟨B,0,MH⟩) n cap) vs ls)(hn:ls.length=n)(i:Nat)(hi:i<ls.length)(u:M7)(hu:vs[i]?=MI u):w.cell? ⟨B,i,MH⟩=MI u:=by
 have h1:=h.row;rw[hn]at h1;rw[h1.cellAt i (by omega),hu]
theorem tL(base T B M n:Nat)(now:Int)(vs:List M7)(ls:List (List Tm))(f:Int->Option Int)(ta td:Int)(i:Nat)(w:MO)(hB:aK w)(hT:ac w base T B M n now vs ls f)(hn:0<=now)(hn2:now<=1099511627776)(hi:i<25)
  (hfit:cW now (ta,td)=Nw) (hpl:aG ta now=i) (hhas:(f td).isSome=Nb) (l:List Tm) (hl:ls[i]?=MI l) (hll:l.length<=1048577) :
  Ni MK 231 #[Na (MI ⟨T,0,MH⟩),Ny #[MF ME ta,MF ME td],MF ME i] w fun r w'=>r=MN (M3 (iE l (ta,td)))/\MQ w.heap.size w w':=by
 have bB:=bB;obtain⟨t0,t1,t2,tlt⟩:=cF hT.box;have hMap:=hT.map;have hi':i<ls.length:=by rw[hT.len];exact hi
 obtain⟨u,hu,hown⟩:=ky hT.own i hi';have hlc:=kq hT.own hT.len i hi' u hu;rw[MR hi']at hl;rw[NC hl]at hown;have hBlt:B<w.heap.size:=(hT.own.row.lt B rfl).2;obtain⟨w2,hw2⟩:∃w2,w2=w.alloc (MP #[MF ME ta,MF ME td] 187):=⟨_,rfl⟩;have hbw:MQ w.heap.size w w2:=by rw[hw2];exact(MY _ _).alloc (MV _) _
 have hlt:w.heap.size<w2.heap.size:=by rw[hw2];simp
 have tlt2:T<w2.heap.size:=by omega
 have c1:w2.cell? ⟨w.heap.size,0,MH⟩=MI (MF ME ta):=by rw[hw2];simp
 have c2:w2.cell? ⟨w.heap.size,1,MH⟩=MI (MF ME td):=by rw[hw2];simp
 have k1:∀n os,(Oj (w2.drewN n) os).cell? ⟨w.heap.size,0,MH⟩=MI (MF ME ta):=Ob hlt c1;have k2:∀n os,(Oj (w2.drewN n) os).cell? ⟨w.heap.size,1,MH⟩=MI (MF ME td):=Ob hlt c2;have k3:∀n os,(Oj (w2.drewN n) os).cell? ⟨T,0,MH⟩=MI (MF ME now):=Ob tlt2 ((hbw.cell (p:=⟨T,0,MH⟩) tlt).trans t0);have k4:∀n os,(Oj (w2.drewN n) os).cell? ⟨T,2,MH⟩=MI (P0 (MI M)):=Ob tlt2 ((hbw.cell (p:=⟨T,2,MH⟩) tlt).trans t2);have hBlk:∀n os,aK (Oj (w2.drewN n) os):=fun n os=>(hB.below hbw).below (ic w2 n os)
 have hMp:∀q os,ep (Oj (w2.drewN q) os) M n f:=fun q os=>(hMap.Gf (hbw.block M hMap.lt)).Gf ((ic w2 q os).block M (M8 hMap.lt hbw.size))
 have hb:=kK hfit hn;have HF:M6 (∀W:MO,Ni MK 209 #[Ny #[MF ME ta,MF ME td],MF ME now] W fun r w'=>r=MN (M3 Nw)/\∃q os,w'=Oj (W.drewN q) os):=fun W=>by rw[<-hfit];exact qk ta td now W hn hn2
 have HS:M6 (∀q os,Ni MK 210 #[Na (MI ⟨T,0,MH⟩),MF ME td] (Oj (w2.drewN q) os) fun r w'=>r=MN (M3 Nb)/\∃q' os',w'=Oj ((Oj (w2.drewN q) os).drewN q') os'):=fun q os=>by rw[<-hhas];exact uk T M n f td _ (k4 _ _) (hMp _ _) hb.2.2
 have hpl2:(aG ta now != (i:Int))=false:=by simpa using hpl
 have HB:M6 (_/\_/\_/\_):=⟨hBlk,hMp,hbw,hown⟩;have HC:M6 (_/\_/\_/\_/\_/\_):=⟨hlc,t1,c1,c2,hBlt,tlt⟩;have HW:M6 _:=hw2;obtain⟨ans,hans⟩:∃ans,ans=iE l (ta,td):=⟨_,rfl⟩;rw[<-hans];have HA:M6 _:=hans;obtain⟨p,c,rfl⟩:=cR hown;clear hBlk hMp hbw hT hMap t0 t1 t2 hw2 hown hlc hu hl hpl hhas hfit c1 c2 hans;have hiI:(i:Int)<25:=by omega
 go_enter R2,RO
 go_wp2_with fail
 rw[<-HW.out];refine NQ bB (by kernel_rfl) ?_
 repeat (first|go_big_quiet_skip|quiet_step (first|(go_at_call 209;exact NZ (HF.out _))|(go_at_call 235;exact NZ (qn ta now _ (HB.out.1 _ _) hb.1 hb.2.1 hn (by omega)))|(go_at_call 210;exact NZ (HS.out _ _))))
 refine Oy ?_;intro _ hw';obtain⟨⟨nq,osq⟩,hw''⟩:=hw';subst hw'';have hb3:=ic w2 nq osq;generalize Oj (w2.drewN nq) osq=w3 at hb3⊢;have hbw3:MQ w.heap.size w w3:=HB.out.2.2.1.trans (hb3.mono HB.out.2.2.1.size);have d1:=(hbw3.cell (p:=⟨T,1,MH⟩) HC.out.2.2.2.2.2).trans HC.out.2.1;have d2:=(hbw3.cell (p:=⟨B,i,MH⟩) HC.out.2.2.2.2.1).trans HC.out.1;have d3:=(hb3.cell (p:=⟨w.heap.size,0,MH⟩) hlt).trans HC.out.2.2.1;have d4:=(hb3.cell (p:=⟨w.heap.size,1,MH⟩) hlt).trans HC.out.2.2.2.1;have hlt3:w.heap.size<w3.heap.size:=M8 hlt hb3.size;have HD:M6 (_/\_):=⟨hbw3,hb3⟩;clear hb3 hbw3 k1 k2 k3 k4
 by_cases hnil:l=[]
 ·subst hnil
  have HE:M6 (ans=Nw):=HA.out
  go_wp2_with fail
  go_region
  go_wp2;go_ret;exact⟨by rw[HE.out];rfl,HD.out.1.drew⟩
 ·obtain⟨P,hP⟩:∃P,l.length=P+1:=⟨l.length-1,by have:=List.length_pos_iff.2 hnil;omega⟩
  have hPl:P<l.length:=by omega
  obtain⟨g,c',hform,hbg,hgl⟩:=HB.out.2.2.2.form (by omega);simp only[N4]at hform;obtain⟨rfl,_,rfl⟩:=hform;have hgl3:g<w3.heap.size:=M8 hgl HD.out.1.size;have f1:=fi l P hPl;rw[<-HB.out.2.2.2.cellAt _ (by omega),<-HB.out.2.2.2.cellAt _ (by omega)]at f1;obtain⟨xa,hxa⟩:∃xa,l[P].1=xa:=⟨_,rfl⟩;obtain⟨xd,hxd⟩:∃xd,l[P].2=xd:=⟨_,rfl⟩;rw[hxa,hxd]at f1;have e1:=(HD.out.1.cell (p:=⟨g,P*2,MH⟩) hgl).trans f1.1;have e2:=(HD.out.1.cell (p:=⟨g,P*2+1,MH⟩) hgl).trans f1.2;have hlast:l.getLast?=MI (xa,xd):=by
   rw[List.getLast?_eq_getElem?,hP,Nat.add_sub_cancel,MR hPl];exact congrArg MI (Q8 hxa hxd)
  obtain⟨cc,hcc⟩:∃cc,cc=ax (xa,xd) (ta,td):=⟨_,rfl⟩;have HE:M6 (ans=Nn (cc<0)):=by show ans=_;rw[HA.out,iE,hlast,hcc]
  have HQ:M6 (∀W:MO,Ni MK 239 #[Ny #[MF ME xa,MF ME xd],Ny #[MF ME ta,MF ME td]] W fun r w'=>r=MN (MF ME cc)/\∃q os,w'=Oj (W.drewN q) os):=fun W=>by rw[hcc];exact Fs xa xd ta td W
  obtain⟨N,hN⟩:∃N,N=l.length:=⟨_,rfl⟩;rw[<-hN]at d2;have hN0:((N:Int) == 0)=false:=by simp;omega
  have hN1:IntKind.i64.wrap ((N:Int)-1)=(P:Int):=by rw[Ow];omega
  have hN2:(P:Int)<(N:Int):=by omega
  have hN3:(0:Int)<=(P:Int):=by omega
  have q1:∀n os,(Oj (w3.drewN n) os).cell? ⟨g,P*2,MH⟩=MI (MF ME xa):=Ob hgl3 e1;have q2:∀n os,(Oj (w3.drewN n) os).cell? ⟨g,P*2+1,MH⟩=MI (MF ME xd):=Ob hgl3 e2;have q3:∀n os,(Oj (w3.drewN n) os).cell? ⟨w.heap.size,0,MH⟩=MI (MF ME ta):=Ob hlt3 d3;have q4:∀n os,(Oj (w3.drewN n) os).cell? ⟨w.heap.size,1,MH⟩=MI (MF ME td):=Ob hlt3 d4;clear f1 hxa hxd hlast hcc hN hP hPl
  go_wp2_with fail
  refine NQ bB (by kernel_rfl) ?_
  repeat (first|go_big_quiet_skip|quiet_step (first|(go_at_call 239;exact NZ (HQ.out _))))
  refine Oy ?_;intro _ hw';obtain⟨⟨nq',osq'⟩,hw''⟩:=hw';subst hw'';go_wp2;go_ret;exact⟨by rw[HE.out];rfl,HD.out.1.trans ((ic w3 nq' osq').mono HD.out.1.size)⟩
end
section
open Go.Sort (grow grow_empty grow_grow alloc_eq_grow cell?_grow heap_grow_old)
theorem ar.Gd{w w1:MO}{base B n cap:Nat}{vs:List M7}{ls:List (List Tm)}(h:ar w base (MG (MI ⟨B,0,MH⟩) n cap) vs ls)(hn:ls.length=n){i:Nat}(hi:i<ls.length){u u':M7}(hu:vs[i]?=MI u){l':List Tm}
  (hg:w.grownBy w1 u.ownBlock) (hu':w1.ownsRow base 187 2 u' l'.length (ag l')) (hl:∀g,u'.ownBlock=MI g->u.ownBlock=MI g\/w.heap.size<=g) :
  ar (w1.setCell ⟨B,i,MH⟩ u') base (MG (MI ⟨B,0,MH⟩) n cap) (vs.set i u') (ls.set i l'):=by
 have hlen:=h.each.1;have hiv:i<vs.length:=by omega
 have hpw:=List.pairwise_cons.1 h.apart;have hui:vs[i]=u:=by rw[MR hiv]at hu;exact NC hu
 have hBu:u.ownBlock≠MI B:=fun e=>hpw.1 u (by rw[<-hui];exact Nk hiv) B rfl e
 have hpair:=List.pairwise_iff_getElem.1 hpw.2;have hne:∀j (hj:j<vs.length),j≠i->∀g,vs[j].ownBlock=MI g->u.ownBlock≠MI g:=fun j hj hji g hg' e=>by
  rcases QM hji with h1|h1
  ·exact hpair j i hj hiv h1 g hg' (by rw[hui];exact e)
  ·exact hpair i j hiv hj h1 g (by rw[hui];exact e) hg'
 have hBlt:=(h.row.lt B rfl).2;have hold:∀j (hj:j<vs.length) g,vs[j].ownBlock=MI g->base<=g/\g<w.heap.size:=fun j hj g hg'=>(h.each.2 j hj (by omega)).lt g hg'
 have hu'B:∀g,u'.ownBlock=MI g->g≠B:=fun g hg' e=>by
  rcases hl g hg' with h1|h1
  ·rw[e]at h1;exact hBu h1
  ·omega
 have hrow1:w1.ownsRow base 184 1 (MG (MI ⟨B,0,MH⟩) n cap) n vs:=by
  have h1:=h.row;rw[hn]at h1;exact h1.kept hg (NF (fun e=>hBu e.symm))
 have hrow2:=(hrow1.stored i u').1;refine⟨by rw[NA,hn];exact hrow2,⟨by simp[hlen],fun j h1 h2=>?_⟩,?_⟩
 ·by_cases hji:j=i
  ·subst hji
   simp only[NW];exact aw hu' fun g hg'=>MU _ _ _ _ (hu'B g hg')
  ·rw[Pe (Pi hji),Pe (Pi hji)]
   have hj:j<vs.length:=by simpa using h1
   refine aw (h.each.2 j hj (by omega)) fun g hg'=>?_
   rw[MU _ _ _ _ (fun e=>hpw.1 vs[j] (Nk hj) B rfl (by rw[hg'];exact congrArg MI e))];exact hg.block g (hold j hj g hg').2 (fun e=>hne j hj hji g hg' e.symm)
 ·refine List.pairwise_cons.2 ⟨fun x hx g hg' e=>?_,List.pairwise_iff_getElem.2 fun a b ha hb hab g hga e=>?_⟩
  ·obtain⟨j,hj,rfl⟩:=NV hx
   have hgB:g=B:=(NC hg').symm
   by_cases hji:j=i
   ·subst hji
    simp only[NW]at e;exact hu'B g e hgB
   ·rw[Pe (Pi hji)]at e
    exact hpw.1 _ (Nk (by simpa using hj)) g hg' e
  ·have ha':a<vs.length:=by simpa using ha
   have hb':b<vs.length:=by simpa using hb
   by_cases hai:a=i
   ·subst hai
    simp only[NW]at hga;rw[Pe (by omega)]at e;rcases hl g hga with h1|h1
    ·exact hne b hb' (by omega) g e h1
    ·have:=(hold b hb' g e).2;omega
   ·rw[Pe (Pi hai)]at hga
    by_cases hbi:b=i
    ·subst hbi
     simp only[NW]at e;rcases hl g e with h1|h1
     ·exact hne a ha' hai g hga h1
     ·have:=(hold a ha' g hga).2;omega
    ·rw[Pe (Pi hbi)]at e
     exact hpair a b ha' hb' hab g hga e
def kx(f:Int->Option Int)(id x k:Int):Option Int:=if k=id then MI x else f k
theorem ep.Gd{w:MO}{n:Nat}{f:Int->Option Int}(h:ep w b n f)(hn:n<NE){id x:Int}(hid:(N6 ME id).wf=Nw)(hx:(N6 ME x).wf=Nw):
  ∃w',(Instr.mapUpdate 273 (P0 (MI b)) (MF ME id) (MF ME x)).run MK w=.ok () w'/\ep w' b (n+1) (kx f id x)/\w.grownBy w' (MI b):=by
 obtain⟨D,hown,hf⟩:=h;obtain⟨w',hr,ho,hg⟩:=hown.update lY Va hn (Qg Ol hid) (plainElem_int Ol hx);refine⟨w',hr,⟨_,ho,fun k hk=>?_⟩,hg⟩;have hm:Maps.IsMap D:=by obtain⟨es,clock,_,_,_,rfl⟩:=hown;exact⟨_,rfl⟩
 by_cases e:k=id
 ·subst e
  unfold kx;rw[Nh rfl];refine⟨Maps.has_put_same (k:=N6 ME k) hm trivial _,fun y hy=>?_⟩;rw[Maps.atKey_put_same (k:=N6 ME k) hm trivial,NC hy]
 ·unfold kx
  rw[Nf e];have hne:N6 ME k≠N6 ME id:=fun h=>e (by cases h;rfl)
  rw[Maps.has_put_other hne,Maps.atKey_put_other hne];exact hf k hk
theorem A6{w:MO}(h1:w.cell? a1=MI v1)(h2:w.cell? a2=MI v2)(h3:w.cell? a3=MI v3)(h4:w.cell? a4=MI v4)(hf:w.frozen? a2=Nb)
  (e1:w'.heap[a1.block]?=w.heap[a1.block]?) (e2:w'.heap[a2.block]?=w.heap[a2.block]?) (e3:w'.heap[a3.block]?=w.heap[a3.block]?) (e4:w'.heap[a4.block]?=w.heap[a4.block]?) :
  w'.cell? a1=MI v1/\w'.cell? a2=MI v2/\w'.cell? a3=MI v3/\w'.cell? a4=MI v4/\w'.frozen? a2=false :=
 ⟨(NG e1).trans h1,(NG e2).trans h2,(NG e3).trans h3,(NG e4).trans h4,(OM e2).trans hf⟩
theorem ar.If{w:MO}{base:Nat}{v:M7}{vs:List M7}{ls:List (List Tm)}{row:Option Nat}(h:ar w base v vs ls)(hg:w.grownBy w' row)(ho:∀u∈v::vs,∀g,u.ownBlock=MI g->MI g≠row):ar w' base v vs ls:=by
 refine⟨aw h.row fun g hg'=>hg.block g (h.row.lt g hg').2 (ho v (NM ..) g hg'),⟨h.each.1,fun i h1 h2=>?_⟩,h.apart⟩;have hu:=h.each.2 i h1 h2;exact aw hu fun g hg'=>hg.block g (hu.lt g hg').2 (ho _ (NB _ (Nk h1)) g hg')
def jy(w:MO)(vs:List M7)(T B M g:Nat):Prop:=g<w.heap.size/\g≠T/\g≠B/\g≠M/\∀u∈vs,u.ownBlock≠MI g
theorem px(base T B M n:Nat)(now:Int)(vs:List M7)(ls:List (List Tm))(f:Int->Option Int)(ta td:Int)(i j:Nat)(w:MO)(hB:aK w)(hT:ac w base T B M n now vs ls f)(hb0:0<base)(hbase:base<=w.heap.size)(hn:0<=now)(hn2:now<=1099511627776)(hnn:n<NE)
  (hi:i<25) (hta:0<=ta/\ta<=4398046511104) (htd:(N6 ME td).wf=Nw) (hpl:aG ta now=i) (l:List Tm) (hl:ls[i]?=MI l) (hll:l.length<=1048576) (hj:j<=l.length)
  (h1:∀k (hk:k<l.length),k<j->ax l[k] (ta,td)<0) (h2:∀k (hk:k<l.length),j<=k->¬ax l[k] (ta,td)<0) :
  Ni MK 211 #[Na (MI ⟨T,0,MH⟩),Ny #[MF ME ta,MF ME td]] w fun r w'=>r=MN (Nv #[])/\∃vs',ac w' base T B M (n+1) now vs' (ls.set i (bQ l (ta,td) j)) (kx f td i)/\MQ base w w'/\∀g,jy w vs T B M g->w'.heap[g]?=w.heap[g]?/\jy w' vs' T B M g:=by
 have bB:=bB;obtain⟨t0,t1,t2,tlt⟩:=cF hT.box;have hi':i<ls.length:=by rw[hT.len];exact hi
 obtain⟨u,hu,hown⟩:=ky hT.own i hi';have hlc:=kq hT.own hT.len i hi' u hu;have hl0:=hl;rw[MR hi']at hl;rw[NC hl]at hown;have hBlt:B<w.heap.size:=(hT.own.row.lt B rfl).2;obtain⟨w2,hw2⟩:∃w2,w2=w.alloc (MP #[MF ME ta,MF ME td] 187):=⟨_,rfl⟩;have hbw:MQ w.heap.size w w2:=by rw[hw2];exact(MY _ _).alloc (MV _) _
 have hlt:w.heap.size<w2.heap.size:=by rw[hw2];simp
 have tlt2:T<w2.heap.size:=by omega
 have Blt2:B<w2.heap.size:=by omega
 have c1:w2.cell? ⟨w.heap.size,0,MH⟩=MI (MF ME ta):=by rw[hw2];simp
 have c2:w2.cell? ⟨w.heap.size,1,MH⟩=MI (MF ME td):=by rw[hw2];simp
 have c3:w2.cell? ⟨T,0,MH⟩=MI (MF ME now):=(hbw.cell (p:=⟨T,0,MH⟩) tlt).trans t0;have c4:w2.cell? ⟨T,1,MH⟩=MI (MG (MI ⟨B,0,MH⟩) 25 25):=(hbw.cell (p:=⟨T,1,MH⟩) tlt).trans t1;have c5:w2.cell? ⟨B,i,MH⟩=MI u:=(hbw.cell (p:=⟨B,i,MH⟩) hBlt).trans hlc;have HPl:M6 (∀q,Ni MK 235 #[MF ME ta,MF ME now] (w2.drewN q) fun e w'=>e=MN (MF ME (i:Int))/\∃m,w'=(w2.drewN q).drewN m):=fun q=>by
  rw[<-hpl];exact qo ta now _ ((hB.below hbw).IQ q) hta.1 hta.2 hn (by omega)
 have HT:M6 (_/\_/\_/\_/\_/\_):=⟨hT,hown,hbw,h1,h2,hl0⟩;have HW:M6 _:=hw2;obtain⟨p,c,rfl⟩:=cR hown;clear hT hown hbw h1 h2 hw2 hB t0 t1 t2 hl hl0 hlc hpl;have hiI:(i:Int)<25:=by omega
 go_enter Tryz.func211,Tryz.ntmps211
 go_wp2_with fail
 rw[<-HW.out]
 go_quiet ((go_at_call 235;exact Qe (HPl.out _)))
 have hb3:MQ w2.heap.size w2 (w2.drewN nq):=pM (MY _ _) nq;generalize w2.drewN nq=w3 at hb3⊢;have d1:=(hb3.cell (p:=⟨w.heap.size,0,MH⟩) hlt).trans c1;have d2:=(hb3.cell (p:=⟨w.heap.size,1,MH⟩) hlt).trans c2;have d4:=(hb3.cell (p:=⟨T,1,MH⟩) tlt2).trans c4;have d5:=(hb3.cell (p:=⟨B,i,MH⟩) Blt2).trans c5;have hbw3:MQ w.heap.size w w3:=HT.out.2.2.1.trans (hb3.mono HT.out.2.2.1.size);have HD:M6 (_/\_):=⟨hb3,hbw3⟩;clear hb3 hbw3 c1 c2 c3 c4 c5;have hsearch:∀W:MO,MQ w3.heap.size w3 W->Ni MK 238 #[MG p l.length c,Ny #[MF ME ta,MF ME td],PB (PD 239) #[] #[]] W fun r w'=>∃b,r=MN (Nv #[MF ME j,M3 b])/\MQ W.heap.size W w':=fun W hW =>
  Cu _ l ta td j W (bP (aw HT.out.2.1 fun g hg=>(hW.block g (M8 (HT.out.2.1.lt g hg).2 HD.out.2.size)).trans (HD.out.2.block g (HT.out.2.1.lt g hg).2))) hj HT.out.2.2.2.1 (fun k hk hjk=>by have:=HT.out.2.2.2.2.1 k hk hjk;omega) (by omega)
 have HS:M6 _:=hsearch;clear hsearch
 go_wp2_with fail
 go_region_held3 (fun W=>W.cell? ⟨w.heap.size,0,MH⟩=MI (MF ME ta)/\W.cell? ⟨w.heap.size,1,MH⟩=MI (MF ME td)/\W.cell? ⟨T,1,MH⟩=MI (MG (MI ⟨B,0,MH⟩) 25 25)/\W.cell? ⟨B,i,MH⟩=MI (MG p l.length c)/\MQ w3.heap.size w3 W) (first|exact jf d1 d2 d4 d5 ((MY _ _).drew)|exact jf d1 d2 d4 d5 (dt hb1)) (first|(go_at_call 238;refine(HS.out _ ((MY _ _).drew)).mono ?_;rintro r w1 ⟨bb,rfl,hb1⟩))
 have hb4:MQ w.heap.size w w1:=HD.out.2.trans ((dt hb1).mono HD.out.2.size);have hb4':MQ w3.heap.size w3 w1:=dt hb1;have hT4:=HT.out.1.below hb4;have hown4:=aw HT.out.2.1 fun g hg=>hb4.block g (HT.out.2.1.lt g hg).2
 have hs4:=hb4.size;have hs3:=hb4'.size;have hlt3:w.heap.size<w3.heap.size:=M8 hlt HD.out.1.size;have e1:=(hb4'.cell (p:=⟨w.heap.size,0,MH⟩) hlt3).trans d1;have e2:=(hb4'.cell (p:=⟨w.heap.size,1,MH⟩) hlt3).trans d2;have e4:=(hb4.cell (p:=⟨T,1,MH⟩) tlt).trans (cF HT.out.1.box).2.1;have e5:=(hb4'.cell (p:=⟨B,i,MH⟩) (M8 Blt2 HD.out.1.size)).trans d5;have e6:w1.frozen? ⟨B,i,MH⟩=false:=by
  have h25:=hT4.own.row;rw[hT4.len]at h25;exact h25.frozenAt i
 have hkT:(MG p l.length c).ownBlock≠MI T:=HT.out.1.offT _ (NB _ (Nu hu));have hkM:(MG p l.length c).ownBlock≠MI M:=HT.out.1.offM _ (NB _ (Nu hu));have hkB:(MG p l.length c).ownBlock≠MI B:=fun e=>(List.pairwise_cons.1 HT.out.1.own.apart).1 _ (Nu hu) B rfl e
 have hkK:(MG p l.length c).ownBlock≠MI w.heap.size:=fun e=>by have:=(HT.out.2.1.lt _ e).2;omega
 have hkN:(MG p l.length c).ownBlock≠MI w1.heap.size:=fun e=>by have:=(HT.out.2.1.lt _ e).2;omega
 obtain⟨W0,hW0⟩:∃W0,W0=(w1.alloc (MP #[MF ME ta,MF ME td] 187)).drew:=⟨_,rfl⟩;have hbW0:MQ w1.heap.size w1 W0:=by rw[hW0];exact((MY _ _).alloc (MV _) _).drew
 have hins:Ni MK 240 #[MG p l.length c,MF ME j,MG (MI ⟨w1.heap.size,0,MH⟩) 1 1] W0 (lJ base (MG p l.length c) l (ta,td) j W0):=
  Dr base _ l ta td j w1.heap.size W0 (aw hown4 fun g hg=>hbW0.block g (hown4.lt g hg).2) (by have:=hbW0.size;omega) hj hkN (by rw[hW0];exact M1 w1 _) (by omega)
 rw[hW0]at hins;have hkeep:∀W:MO,W0.grownBy W (MG p l.length c).ownBlock->∀k,k<w1.heap.size->(MG p l.length c).ownBlock≠MI k->W.heap[k]?=w1.heap[k]?:=fun W hg k hk hne =>
  (hg.block k (M8 hk hbW0.size) (fun e=>hne e.symm)).trans (hbW0.block k hk)
 have hkp:∀W:MO,((w1.alloc (MP #[MF ME ta,MF ME td] 187)).drew).grownBy W (MG p l.length c).ownBlock->W.cell? ⟨w.heap.size,0,MH⟩=MI (MF ME ta)/\W.cell? ⟨B,i,MH⟩=MI (MG p l.length c)/\W.cell? ⟨w.heap.size,1,MH⟩=MI (MF ME td)/\W.cell? ⟨T,1,MH⟩=MI (MG (MI ⟨B,0,MH⟩) 25 25)/\W.frozen? ⟨B,i,MH⟩=false:=fun W hg=>by
  rw[<-hW0]at hg;exact A6 e1 e5 e2 e4 e6 (hkeep W hg _ (by show w.heap.size<_;omega) hkK) (hkeep W hg _ (by show B<_;omega) hkB) (hkeep W hg _ (by show w.heap.size<_;omega) hkK) (hkeep W hg _ (by show T<_;omega) hkT)
 have HI:M6 (_/\_/\_/\_/\_/\_/\_):=⟨hins,hkp,hkeep,hT4,hb4,hW0,hbW0⟩;clear hins hkp hkeep hT4 hb4 hb4' hown4 d1 d2 d4 d5 hkT hkM hkB hkK hkN hb1 hW0 hbW0;have hTB:T≠B:=fun e=>HT.out.1.offT _ (NM ..) (by rw[e];rfl)
 have hTw1:T<w1.heap.size:=by omega
 have hBw1:B<w1.heap.size:=by omega
 have hKw1:w.heap.size<w1.heap.size:=by omega
 have e4':((w1.alloc (MP #[MF ME ta,MF ME td] 187)).drew).cell? ⟨T,1,MH⟩=MI (MG (MI ⟨B,0,MH⟩) 25 25):=(NG (a:=⟨T,1,MH⟩) (Ov w1 _ T hTw1)).trans e4;have HE:M6 _:=e4';clear e4'
 go_upto_region 3 with fail
 go_cut []from 28 to 46 (fun wx=>∃w5 g5 cap5,w5.ownsRow base 187 2 (MG (MI ⟨g5,0,MH⟩) (l.length+1) cap5) (l.length+1) (ag (bQ l (ta,td) j))/\((w1.alloc (MP #[MF ME ta,MF ME td] 187)).drew).grownBy w5 (MG p l.length c).ownBlock/\((MG p l.length c).ownBlock=MI g5\/((w1.alloc (MP #[MF ME ta,MF ME td] 187)).drew).heap.size<=g5)/\wx=w5.setCell ⟨B,i,MH⟩ (MG (MI ⟨g5,0,MH⟩) (l.length+1) cap5))
 case first =>
  go_region_with (first|(go_at_call 240;refine HI.out.1.mono ?_;rintro r w5 ⟨g5,cap5,rfl,hown5,hg5,hlies5⟩;obtain⟨s1,s2,s3,s4,s5⟩:=HI.out.2.1 _ hg5))
  all_goals
   go_wp2_with fail
   go_meet
   exact⟨w5,g5,cap5,hown5,hg5,hlies5,rfl⟩
 case rest =>
 obtain⟨w5,g5,cap5,hown5,hg5,hlies5,rfl⟩:=hcut;rw[<-HI.out.2.2.2.2.2.1]at hg5 hlies5;have hkeep:=HI.out.2.2.1 w5 hg5;have hbW0:=HI.out.2.2.2.2.2.2;have hT4:=HI.out.2.2.2.1;have hkT:(MG p l.length c).ownBlock≠MI T:=HT.out.1.offT _ (NB _ (Nu hu));have hkM:(MG p l.length c).ownBlock≠MI M:=HT.out.1.offM _ (NB _ (Nu hu));have hkK:(MG p l.length c).ownBlock≠MI w.heap.size:=fun e=>by have:=(HT.out.2.1.lt _ e).2;omega
 have hMlt:M<w1.heap.size:=hT4.map.lt;have hBM:M≠B:=fun e=>HT.out.1.offM _ (NM ..) (by rw[e];rfl)
 have hTw1:T<w1.heap.size:=by omega
 obtain⟨w6,hw6⟩:∃w6,w6=w5.setCell ⟨B,i,MH⟩ (MG (MI ⟨g5,0,MH⟩) (l.length+1) cap5):=⟨_,rfl⟩;have h6:∀k,k<w1.heap.size->(MG p l.length c).ownBlock≠MI k->k≠B->w6.heap[k]?=w1.heap[k]?:=fun k hk hne hkB=>by
  rw[hw6,MU _ _ _ _ hkB];exact hkeep k hk hne
 have hT6:w6.heap[T]?=MI (MP #[MF ME now,MG (MI ⟨B,0,MH⟩) 25 25,P0 (MI M)] 275 (0,0)):=(h6 T hTw1 hkT hTB).trans hT4.box;have hM6:ep w6 M n f:=hT4.map.Gf (h6 M hMlt hkM hBM);have hK6:w6.cell? ⟨w.heap.size,1,MH⟩=MI (MF ME td):=(NG (a:=⟨w.heap.size,1,MH⟩) (h6 _ hKw1 hkK (Nat.ne_of_gt (HT.out.1.own.row.lt B rfl).2))).trans e2;obtain⟨w7,hr7,hM7,hg7⟩:=ep.Gd (w:=w6.drew) (hM6.Gf rfl) hnn htd (show(N6 ME (i:Int)).wf=Nw from kM (by omega) (by omega));have hown6:ar w6 base (MG (MI ⟨B,0,MH⟩) 25 25) (vs.set i (MG (MI ⟨g5,0,MH⟩) (l.length+1) cap5)) (ls.set i (bQ l (ta,td) j)):=by
  rw[hw6];refine ar.Gd (w:=W0) (hT4.own.below hbW0) hT4.len (by rw[hT4.len];exact hi) hu hg5 (by rw[CL];exact hown5) (fun g hg=>?_);obtain rfl:g5=g:=NC hg;exact hlies5
 have hW0s:=hbW0.size;have hoff:∀X,(MG p l.length c).ownBlock≠MI X->X<w1.heap.size->(∀x∈MG (MI ⟨B,0,MH⟩) 25 25::vs,x.ownBlock≠MI X)->∀x∈MG (MI ⟨B,0,MH⟩) 25 25::vs.set i (MG (MI ⟨g5,0,MH⟩) (l.length+1) cap5),x.ownBlock≠MI X:=fun X hX hXl ho x hx=>by
  rcases List.mem_cons.1 hx with rfl|hx
  ·exact ho _ (NM ..)
  ·rcases OB hx with h|rfl
   ·exact ho x (NB _ h)
   ·intro e
    obtain rfl:g5=X:=NC e;rcases hlies5 with h|h
    ·exact hX h
    ·omega
 have hY:MQ base w w6:=by
  have hb4:=HI.out.2.2.2.2.1;have hBb:=(HT.out.1.own.row.lt B rfl).1;have hbW:MQ base w W0:=((hb4.mono hbase).trans (hbW0.mono (by omega)));rw[hw6];refine(hbW.grown hg5 (by omega) (fun k hk=>(HT.out.2.1.lt k hk).1)).setCell ?_ _;exact hBb
 have HY:M6 (MQ base w w6):=hY;clear hY;obtain⟨t60,t61,t62,t6lt⟩:=cF hT6;have hK6lt:w.heap.size<w6.heap.size:=MX w6 ⟨w.heap.size,1,MH⟩ hK6;have HZ:M6 (_/\_/\_/\_/\_/\_):=⟨hT6,hM7,hg7,hown6,h6,hlies5⟩;rw[<-hw6];clear hT6 hM6 hM7 hg7 hown6 h6 hw6 hkeep hbW0 hT4 hown5 hg5 hlies5 e1 e2 e4 e5 e6
 go_wp2_with fail
 go_region
 go_end0
 refine⟨rfl,vs.set i (MG (MI ⟨g5,0,MH⟩) (l.length+1) cap5),⟨?_,?_,?_,?_,?_,HT.out.1.hT,HT.out.1.hM,HT.out.1.hTM,?_⟩,?_,fun g hg=>?_⟩
 ·exact(HZ.out.2.2.1.block T t6lt (fun e=>HT.out.1.hTM (NC e))).trans HZ.out.1
 ·refine(HZ.out.2.2.2.1.Gf (w':=w6.drew) fun _ _ _=>rfl).If HZ.out.2.2.1 fun x hx g hg e=>?_
  obtain rfl:g=M:=NC e;exact hoff g hkM (by omega) HT.out.1.offM x hx hg
 ·exact HZ.out.2.1
 ·exact fun x hx=>hoff T hkT (by omega) HT.out.1.offT x hx
 ·exact fun x hx=>hoff M hkM (by omega) HT.out.1.offM x hx
 ·rw[NA];exact HT.out.1.len
 ·refine⟨HZ.out.2.2.1.os.trans HY.out.os,HZ.out.2.2.1.tape.trans HY.out.tape,HZ.out.2.2.1.output.trans HY.out.output,Nm HY.out.size HZ.out.2.2.1.size,fun k hk=>?_⟩
  have hMb:=HT.out.1.hM;have hBb:=(HT.out.1.own.row.lt B rfl).1;rw[HZ.out.2.2.1.block k (M8 hk (Nm hbase HY.out.size)) (fun e=>by have:=NC e;omega)];exact HY.out.block k hk
 ·obtain⟨hg1,hg2,hg3,hg4,hg5⟩:=hg
  have hgu:(MG p l.length c).ownBlock≠MI g:=hg5 _ (Nu hu);have hgw1:g<w1.heap.size:=M8 hg1 HI.out.2.2.2.2.1.size;have hg6:w6.heap[g]?=w.heap[g]?:=(HZ.out.2.2.2.2.1 g hgw1 hgu hg3).trans (HI.out.2.2.2.2.1.block g hg1);have hg6l:g<w6.heap.size:=M8 hg1 HY.out.size;refine⟨(HZ.out.2.2.1.block g hg6l (fun e=>hg4 (NC e))).trans hg6,M8 hg6l HZ.out.2.2.1.size,hg2,hg3,hg4,fun x hx=>hoff g hgu hgw1 (fun y hy=>?_) x (NB _ hx)⟩;rcases List.mem_cons.1 hy with rfl|hy
  ·exact fun e=>hg3 (NC e).symm
  ·exact hg5 y hy
end
section
open Go.Sort (grow grow_empty grow_grow alloc_eq_grow cell?_grow heap_grow_old)
theorem wk{l:List Tm}(h:l.Pairwise (fun a b=>ax a b<0))(hb:iE l t=Nw):∀x∈l,ax x t<0:=by
 unfold iE at hb;cases hl:l.getLast? with
 |none=>rw[List.getLast?_eq_none_iff]at hl;subst hl;intro x hx;cases hx
 |some y =>
  rw[hl]at hb;have hy:ax y t<0:=M2 hb;obtain⟨ys,rfl⟩:=List.getLast?_eq_some_iff.1 hl;intro x hx;rcases List.mem_append.1 hx with hx|hx
  ·exact ko ((List.pairwise_append.1 h).2.2 x hx y (List.mem_singleton.2 rfl)) hy
  ·rw[List.mem_singleton.1 hx];exact hy
theorem Dp{l:List Tm}(h:∀x∈l,ax x t<0):iE l t=true:=by
 unfold iE;cases hl:l.getLast? with
 |none=>rfl
 |some y=>exact Nq (h y (List.mem_of_getLast? hl))
theorem pB{w:MO}{b c0 c1 c2:M7}{T:NU}(h:w.heap[g]?=MI (MP #[a,b,c] T (0,0))):(((w.setCell ⟨g,0,MH⟩ c0).setCell ⟨g,1,MH⟩ c1).setCell ⟨g,2,MH⟩ c2).heap[g]?=MI (MP #[c0,c1,c2] T (0,0)):=
 NI _ _ 2 _ _ c2 (NI _ _ 1 _ _ c1 (NI w g 0 _ _ c0 h))
theorem Ax(now:Int):Ok now (Nj 25 []):=by
 refine⟨by simp,fun i l hl t ht=>?_,fun l hl=>?_,by simp⟩
 ·rw[Pj]at hl
  split at hl
  ·rw[<-NC hl]at ht;cases ht
  ·cases hl
 ·rw[(List.mem_replicate.1 hl).2];exact .nil
theorem yN:dW (fun _=>MH) (Nj 25 []):=by
 refine⟨fun i l hl t ht=>?_,fun id _=>rfl⟩;rw[Pj]at hl
 split at hl
 ·rw[<-NC hl]at ht;cases ht
 ·cases hl
theorem yz(w:MO):ep (w.alloc (.map #[] 0)) w.heap.size 0 (fun _=>MH):=by
 exact⟨.map [],World.ownsMap_made w _ _ _,fun id hid=>⟨rfl,fun x hx=>by cases hx⟩⟩
theorem EF(v:M7)(now:Int)(ls:List (List Tm))(w:MO)(hx:dh w v ls)(h:¬((0<=now/\now<=1099511627776)/\ls.length=25)) :
  Ni MK 196 #[Ny #[MF ME now,v]] w fun r w'=>MQ w.heap.size w w'/\r=MN (Nv #[Ny #[MF ME 0,MG MH 0 0,P0 MH],M3 Nb]):=by
 obtain⟨a,ca,rfl,hca,hma,pa⟩:=hx.F6;clear pa;unfold NE at hma;cases ht:Nn (0<=now/\now<=1099511627776)
 ·clear h
  go_enter Wz,Wl
  go_wp2_with fail
  refine(m8 _ _).mono ?_;rw[ht];rintro r w1 ⟨rfl,rfl⟩;go_wp2;refine Np (v:=Nv #[Ny #[MF ME 0,MG MH 0 0,P0 MH],M3 Nb]) (by simp[Pf,Vp,go_sem]) rfl ⟨?_,rfl⟩;exact((MY _ _).alloc (MV _) _).alloc (by simp) _
 ·have hne:((ls.length:Int) != 25)=true:=by
   have:ls.length≠25:=fun e=>h ⟨M2 ht,e⟩
   simp[bne_iff_ne];omega
  clear h;go_enter Wz,Wl
  go_wp2_with fail
  refine(m8 _ _).mono ?_;rw[ht];rintro r w1 ⟨rfl,rfl⟩;go_wp2;refine Np (v:=Nv #[Ny #[MF ME 0,MG MH 0 0,P0 MH],M3 Nb]) (by simp[Pf,Vp,go_sem]) rfl ⟨?_,rfl⟩;exact((MY _ _).alloc (MV _) _).alloc (by simp) _
def yR(now:Int)(ls:List (List Tm))(w:MO)(r:Ending)(w':MO):Prop :=
 MQ w.heap.size w w'/\((Ok now ls/\∃T B M n vs f,r=MN (Nv #[Ny #[MF ME now,MG (MI ⟨B,0,MH⟩) 25 25,P0 (MI M)],M3 Nw])/\ac w' (w.heap.size+2) T B M n now vs ls f/\dW f ls/\n<=26214400) \/
  (¬Ok now ls/\r=MN (Nv #[Ny #[MF ME 0,MG MH 0 0,P0 MH],M3 Nb])))
theorem EH(v:M7)(now:Int)(ls:List (List Tm))(w:MO)(hB:aK w)(hx:dh w v ls)(hn:0<=now)(hn2:now<=1099511627776)(h25:ls.length=25)(hlen:∀l∈ls,l.length<=1048576) :
  Ni MK 196 #[Ny #[MF ME now,v]] w (yR now ls w):=by
 obtain⟨a,ca,rfl,hca,hma,pa⟩:=hx.F6;unfold NE at hma;have ht:Nn (0<=now/\now<=1099511627776)=true:=Nq ⟨hn,hn2⟩;have hblt:=hB.lt;have HX:M6 (_/\_/\_/\_):=⟨pa,hB,hlen,h25⟩;rw[h25]at hca⊢;clear pa hB hlen h25 hx;go_enter Wz,Wl
 go_wp2_with fail
 refine(m8 _ _).mono ?_;rw[ht];rintro r w1 ⟨rfl,rfl⟩
 go_wp2_with fail
 refine(wc _ _).mono ?_;rintro r w1 ⟨rfl,hown,hsz,hb1⟩;have hs0:((w.alloc (MP #[MF ME now,MG a 25 ca] 52)).alloc (MP #[MF ME 0,MG MH 0 0,P0 MH] 275)).heap.size=w.heap.size+2:=by simp
 rw[hs0]at hown hsz hb1⊢;obtain⟨H,hH⟩:∃H,H=w.heap.size+2:=⟨_,rfl⟩;rw[<-hH]at hown hsz hb1⊢;have hR0:w1.heap[w.heap.size]?=MI (MP #[MF ME now,MG a 25 ca] 52 (0,0)):=(hb1.block _ (by omega)).trans (aN _ _ (M1 _ _));have hR1:w1.heap[w.heap.size+1]?=MI (MP #[MF ME 0,MG MH 0 0,P0 MH] 275 (0,0)):=(hb1.block _ (by omega)).trans (bV _ _ _);have hbw:MQ w.heap.size w w1:=(((MY _ _).alloc (MV _) _).alloc (by simp) _).trans (hb1.mono (by omega));obtain⟨c0,c1,_,_,hlt0⟩:=au hR0;have HW:M6 (_/\_/\_/\_/\_/\_):=⟨hown,hb1,hR0,hR1,hbw,hH⟩;clear hown hb1 hR0 hR1 hbw hs0 hH;have hmm:∀W:MO,(Instr.makeMap 273 MH).run MK W=.ok (P0 (MI W.heap.size)) (W.alloc (.map #[] 0)):=fun _=>rfl
 have c3:((w1.alloc (.map #[] 0)).alloc (MP #[MF ME now,MG (MI ⟨H+1,0,MH⟩) 25 25,P0 (MI (H+2))] 275)).cell? ⟨w.heap.size,1,MH⟩=MI (MG a 25 ca):=
  ((((MY _ w1).alloc (MV _) (.map #[] 0)).alloc (by simp) (MP #[MF ME now,MG (MI ⟨H+1,0,MH⟩) 25 25,P0 (MI (H+2))] 275)).cell (p:=⟨w.heap.size,1,MH⟩) hlt0).trans c1
 go_wp2
 go_loopw [28] (fun i wr=>∃(k n:Nat) (vs:List M7) (f:Int->Option Int),i=MF ME k/\k<=25/\ac wr (w.heap.size+2) (H+2+1) (H+1) (H+2) n now vs (ci ls k 0) f/\dW f (ci ls k 0)/\Ok now (ci ls k 0)/\n<=k*1048576/\MQ w.heap.size w wr/\wr.heap[w.heap.size+1]?=MI (MP #[MF ME 0,MG MH 0 0,P0 MH] 275 (0,0))) (fun i _=>25-(On i).toNat)
 case atStart =>
  obtain⟨hown,hb1,hR0,hR1,hbw,hH⟩:=HW.out;refine⟨0,0,Nj 25 (MG MH 0 0),fun _=>MH,rfl,by omega,?_,?_,?_,by omega,?_,?_⟩
  ·rw[qG]
   have hb2:MQ w1.heap.size w1 ((w1.alloc (.map #[] 0)).alloc (MP #[MF ME now,MG (MI ⟨H+1,0,MH⟩) 25 25,P0 (MI (H+2))] 275)):=((MY _ w1).alloc (MV _) _).alloc (by simp) _;have hm:=yz w1;rw[hsz]at hm;refine⟨?_,(hown.below hb2).GV (by omega),hm.Gf (Ov _ _ _ (by simp;omega)),fun u hu e=>?_,fun u hu e=>?_,by omega,by omega,by omega,by simp⟩
   ·have:=bV w1 (.map #[] 0) (MP #[MF ME now,MG (MI ⟨H+1,0,MH⟩) 25 25,P0 (MI (H+2))] 275)
    rw[hsz]at this;exact this
   ·rcases List.mem_cons.1 hu with rfl|hu
    ·have:=NC e;simp at this
    ·rw[(List.mem_replicate.1 hu).2]at e;cases e
   ·rcases List.mem_cons.1 hu with rfl|hu
    ·have:=NC e;simp at this
    ·rw[(List.mem_replicate.1 hu).2]at e;cases e
  ·rw[qG];exact yN
  ·rw[qG];exact Ax now
  ·exact(hbw.alloc (by omega) _).alloc (by simp;omega) _
  ·exact aN _ _ (aN _ _ hR1)
 case round =>
  obtain⟨k,n,vs,f,rfl,hk,hT,hF,hO,hnk,hbr,hres⟩:=hrel;obtain⟨w2,hw2⟩:∃w2,w2=wr:=⟨_,rfl⟩;subst hw2
  by_cases hlt:k<25
  ·have hkd:Nn ((k:Int)<25)=true:=Nq (by omega)
   have hkl:k<ls.length:=by rw[HX.out.2.2.2];exact hlt
   obtain⟨b0,off,u,rfl,hb0,cu,hu⟩:=HX.out.1 k hkl;obtain⟨l,hl⟩:∃l,l=ls[k]:=⟨_,rfl⟩;have hlk:ls[k]?=MI l:=by rw[hl];exact MR hkl
   rw[<-hl]at hu;obtain⟨ul,uc,rfl,huc,hum,pu⟩:=hu.F6;unfold NE at hum;have cu2:=(hbr.cell (p:=⟨b0,off+k,MH⟩) hb0).trans cu;have hll:=HX.out.2.2.1 l (Nu hlk);have hkI:(k:Int)<25:=by omega
   have HR:M6 (_/\_/\_/\_/\_/\_/\_/\_):=⟨hT,hF,hO,hnk,hbr,hres,pu,hlk⟩;clear hT hF hO hnk hres pu hl cu hu hlk;go_wp2
   go_loopw [35] (fun i wr=>∃(q n:Nat) (vs:List M7) (f:Int->Option Int),i=MF ME q/\q<=l.length/\ac wr (w.heap.size+2) (H+2+1) (H+1) (H+2) n now vs (ci ls k q) f/\dW f (ci ls k q)/\Ok now (ci ls k q)/\n<=k*1048576+q/\MQ w.heap.size w wr/\wr.heap[w.heap.size+1]?=MI (MP #[MF ME 0,MG MH 0 0,P0 MH] 275 (0,0))) (fun i _=>l.length-(On i).toNat)
   case atStart=>exact⟨0,n,vs,f,rfl,Nx _,HR.out.1,HR.out.2.1,HR.out.2.2.1,Nat.le_add_right_of_le HR.out.2.2.2.1,HR.out.2.2.2.2.1,HR.out.2.2.2.2.2.1⟩
   case round =>
    obtain⟨q,n,vs,f,rfl,hq,hT,hF,hO,hnk,hbr2,hres⟩:=hrel
    by_cases hq2:q<l.length
    ·obtain⟨bu,ou,rfl,hbu,p1,p2⟩:=HR.out.2.2.2.2.2.2.1 q hq2
     have e1:=(hbr2.cell (p:=⟨bu,ou+q*2,MH⟩) hbu).trans p1;have e2:=(hbr2.cell (p:=⟨bu,ou+q*2+1,MH⟩) hbu).trans p2;obtain⟨ta,hta⟩:∃ta,l[q].1=ta:=⟨_,rfl⟩;obtain⟨td,htd⟩:∃td,l[q].2=td:=⟨_,rfl⟩;have hlq:l[q]=(ta,td):=Q8 hta htd;rw[hta]at e1;rw[htd]at e2;have hg:ls.getD k []=l:=by simp[Pq,HR.out.2.2.2.2.2.2.2]
     have hcur:(ci ls k q)[k]?=MI (l.take q):=by rw[kJ _ _ _ _ hlt,Nf (PC _),Nh rfl,hg]
     obtain⟨w3,hw3⟩:∃w3,w3=wr.alloc (MP #[MF ME ta,MF ME td] 187):=⟨_,rfl⟩;have hb3:MQ wr.heap.size wr w3:=by rw[hw3];exact(MY _ _).alloc (MV _) _
     have hB3:aK w3:=(HX.out.2.1.below hbr2).below hb3;have hT3:=hT.below hb3;have hres3:w3.heap[w.heap.size+1]?=MI (MP #[MF ME 0,MG MH 0 0,P0 MH] 275 (0,0)):=(hb3.block _ (Array.getElem?_eq_some_iff.1 hres).1).trans hres;have hK1:w3.cell? ⟨wr.heap.size,0,MH⟩=MI (MF ME ta):=by rw[hw3];simp
     have hK2:w3.cell? ⟨wr.heap.size,1,MH⟩=MI (MF ME td):=by rw[hw3];simp
     have hKl:wr.heap.size<w3.heap.size:=by rw[hw3];simp
     have hord:=hO.ord (l.take q) (Nu hcur);have hbase:w.heap.size+2<=w3.heap.size:=by have:=hT3.hT;have:=(Array.getElem?_eq_some_iff.1 hT3.box).1;omega
     have HQ:M6 (_/\_/\_/\_/\_/\_/\_/\_/\_/\_):=⟨hlq,hcur,hb3,hB3,hT3,hF,hO,hnk,hbr2,hord⟩;have HV:M6 (_/\_/\_/\_):=⟨hw3,hres3,hK1,hK2⟩;clear hT hF hO hnk hres hta htd hlq hg hcur p1 p2 hb3 hB3 hT3 hres3 hw3 hK1 hK2 hord cu2 hb0;cases hgood:(cW now (ta,td) && Nn (aG ta now=(k:Int)) && !(f td).isSome)
     ·have hno:¬Ok now ls:=fun hok=>by
       have hf:=hok.IA HR.out.2.2.2.2.2.2.2 hq2;rw[HQ.out.1]at hf;have h1:(f td).isSome=false:=(HQ.out.2.2.2.2.2.1.GP td).2 hf.2.2.1;simp[hf.1,hf.2.1,h1]at hgood
      have HN:M6 _:=hno;clear hno
      go_wp2_with fail
      refine(xD (w.heap.size+2) (H+2+1) (H+1) (H+2) n now vs (ci ls k q) f ta td k _ (by rw[<-HV.out.1];exact HQ.out.2.2.2.1) (by rw[<-HV.out.1];exact HQ.out.2.2.2.2.1) hn hn2 hlt hgood).mono ?_;rw[<-HV.out.1];rintro r w4 ⟨rfl,hb4⟩;have hr4:w4.heap[w.heap.size+1]?=MI (MP #[MF ME 0,MG MH 0 0,P0 MH] 275 (0,0)):=(hb4.block _ (by omega)).trans HV.out.2.1;obtain⟨z0,z1,z2,z3⟩:=cF hr4;have y0:w4.frozen? ⟨w.heap.size+1,0,MH⟩=false:=by simp[Ng,hr4]
      have y1:w4.frozen? ⟨w.heap.size+1,1,MH⟩=false:=by simp[Ng,hr4]
      have y2:w4.frozen? ⟨w.heap.size+1,2,MH⟩=false:=by simp[Ng,hr4]
      have hb45:MQ w.heap.size w w4:=((HQ.out.2.2.2.2.2.2.2.2.1.trans (HQ.out.2.2.1.mono HQ.out.2.2.2.2.2.2.2.2.1.size)).trans (hb4.mono (by omega)));have HZ:M6 (_/\_):=⟨hb45,hr4⟩;clear hb45 hr4 hb4;go_wp2;have hz:=pB (c0:=MF ME 0) (c1:=MG MH 0 0) (c2:=P0 MH) HZ.out.2;obtain⟨x0,x1,x2,_⟩:=cF hz;refine Np (v:=Nv #[Ny #[MF ME 0,MG MH 0 0,P0 MH],M3 Nb]) (by simp[Pf,Vp,go_sem,x0,x1,x2]) rfl ⟨?_,NF ⟨HN.out,rfl⟩⟩;exact((HZ.out.1.setCell (by simp) _).setCell (by simp) _).setCell (by simp) _
     ·have hg3:(cW now (ta,td)=Nw/\aG ta now=(k:Int))/\(f td).isSome=false:=by simpa using hgood
      clear hgood;have hbnd:=kK hg3.1.1 hn;cases hbe:iE (l.take q) (ta,td)
      ·have hno:¬Ok now ls:=fun hok=>by
        have hf:=hok.IA HR.out.2.2.2.2.2.2.2 hq2;rw[HQ.out.1]at hf;rw[Dp hf.2.2.2]at hbe;cases hbe
       have HN:M6 _:=hno;clear hno
       go_wp2_with fail
       refine(tL (w.heap.size+2) (H+2+1) (H+1) (H+2) n now vs (ci ls k q) f ta td k _ (by rw[<-HV.out.1];exact HQ.out.2.2.2.1) (by rw[<-HV.out.1];exact HQ.out.2.2.2.2.1) hn hn2 hlt hg3.1.1 hg3.1.2 hg3.2 (l.take q) HQ.out.2.1 (by rw[NH];omega)).mono ?_;rw[hbe,<-HV.out.1];rintro r w4 ⟨rfl,hb4⟩;have hr4:w4.heap[w.heap.size+1]?=MI (MP #[MF ME 0,MG MH 0 0,P0 MH] 275 (0,0)):=(hb4.block _ (by omega)).trans HV.out.2.1;obtain⟨z0,z1,z2,z3⟩:=cF hr4;have y0:w4.frozen? ⟨w.heap.size+1,0,MH⟩=false:=by simp[Ng,hr4]
       have y1:w4.frozen? ⟨w.heap.size+1,1,MH⟩=false:=by simp[Ng,hr4]
       have y2:w4.frozen? ⟨w.heap.size+1,2,MH⟩=false:=by simp[Ng,hr4]
       have hb45:MQ w.heap.size w w4:=((HQ.out.2.2.2.2.2.2.2.2.1.trans (HQ.out.2.2.1.mono HQ.out.2.2.2.2.2.2.2.2.1.size)).trans (hb4.mono (by omega)));have HZ:M6 (_/\_):=⟨hb45,hr4⟩;clear hb45 hr4 hb4;go_wp2;have hz:=pB (c0:=MF ME 0) (c1:=MG MH 0 0) (c2:=P0 MH) HZ.out.2;obtain⟨x0,x1,x2,_⟩:=cF hz;refine Np (v:=Nv #[Ny #[MF ME 0,MG MH 0 0,P0 MH],M3 Nb]) (by simp[Pf,Vp,go_sem,x0,x1,x2]) rfl ⟨?_,NF ⟨HN.out,rfl⟩⟩;exact((HZ.out.1.setCell (by simp) _).setCell (by simp) _).setCell (by simp) _
      ·have HG:M6 (_/\_):=⟨hg3,hbnd⟩
       clear hg3 hbnd
       go_wp2_with fail
       refine(tL (w.heap.size+2) (H+2+1) (H+1) (H+2) n now vs (ci ls k q) f ta td k _ (by rw[<-HV.out.1];exact HQ.out.2.2.2.1) (by rw[<-HV.out.1];exact HQ.out.2.2.2.2.1) hn hn2 hlt HG.out.1.1.1 HG.out.1.1.2 HG.out.1.2 (l.take q) HQ.out.2.1 (by rw[NH];omega)).mono ?_;rw[hbe,<-HV.out.1];rintro r w4 ⟨rfl,hb4⟩;have g1:=(hb4.cell (p:=⟨wr.heap.size,0,MH⟩) hKl).trans HV.out.2.2.1;have g2:=(hb4.cell (p:=⟨wr.heap.size,1,MH⟩) hKl).trans HV.out.2.2.2;have hbe2:=wk HQ.out.2.2.2.2.2.2.2.2.2 hbe;have HP:M6 (∀W:MO,MQ w3.heap.size w3 W->Ni MK 211 #[Na (MI ⟨H+2+1,0,MH⟩),Ny #[MF ME ta,MF ME td]] W fun r w'=>r=MN (Nv #[])/\∃vs',ac w' (w.heap.size+2) (H+2+1) (H+1) (H+2) (n+1) now vs' ((ci ls k q).set k (bQ (l.take q) (ta,td) (l.take q).length)) (kx f td k)/\MQ (w.heap.size+2) W w'/\∀g,jy W vs (H+2+1) (H+1) (H+2) g->w'.heap[g]?=W.heap[g]?/\jy w' vs' (H+2+1) (H+1) (H+2) g):=fun W hW =>
        px (w.heap.size+2) (H+2+1) (H+1) (H+2) n now vs (ci ls k q) f ta td k (l.take q).length W (HQ.out.2.2.2.1.below hW) (HQ.out.2.2.2.2.1.below hW) (by omega) (Nm hbase hW.size) hn hn2 (by have:=HQ.out.2.2.2.2.2.2.2.1;unfold NE;omega) hlt ⟨HG.out.2.1,HG.out.2.2.1⟩ HG.out.2.2.2 HG.out.1.1.2 (l.take q) HQ.out.2.1 (by rw[NH];omega) (MV _) (fun a ha _=>hbe2 _ (Nk ha)) (fun a ha h=>absurd ha (by omega))
       have HB4:M6 _:=hb4;clear hb4 hbe2
       go_wp2_with fail
       refine(HP.out _ HB4.out).mono ?_;rintro r w5 ⟨rfl,vs',hT5,hb5,_⟩;have hpart:(ci ls k q).set k (bQ (l.take q) (ta,td) (l.take q).length)=ci ls k (q+1):=by
        rw[<-HQ.out.1];exact yA ls k q hlt l HR.out.2.2.2.2.2.2.2 hq2
       have hfresh:=(HQ.out.2.2.2.2.2.1.GP td).1 HG.out.1.2;have hO5:=HQ.out.2.2.2.2.2.2.1.ID HQ.out.2.1 (t:=(ta,td)) HG.out.1.1.1 HG.out.1.1.2 hfresh (l.take q).length (by rw[NT];exact wk HQ.out.2.2.2.2.2.2.2.2.2 hbe) (by rw[List.drop_length];intro x hx;cases hx);have hF5:dW (kx f td k) _:=HQ.out.2.2.2.2.2.1.ID HQ.out.2.1 (t:=(ta,td)) hfresh (l.take q).length;rw[hpart]at hT5 hO5 hF5;have hb45:MQ w.heap.size w w5:=((HQ.out.2.2.2.2.2.2.2.2.1.trans (HQ.out.2.2.1.mono HQ.out.2.2.2.2.2.2.2.2.1.size)).trans (HB4.out.mono (by omega))).trans (hb5.mono (by omega));have hres5:w5.heap[w.heap.size+1]?=MI (MP #[MF ME 0,MG MH 0 0,P0 MH] 275 (0,0)):=(hb5.block _ (by omega)).trans ((HB4.out.block _ (by omega)).trans HV.out.2.1);have HZ:M6 (_/\_/\_/\_/\_):=⟨hT5,hF5,hO5,hb45,hres5⟩;clear hT5 hF5 hO5 hb45 hres5 hb5 hpart hfresh;go_wp2
       go_roundw
       case rel=>exact⟨q+1,n+1,vs',_,by simp,hq2,HZ.out.1,HZ.out.2.1,HZ.out.2.2.1,Nat.succ_le_succ HQ.out.2.2.2.2.2.2.2.1,HZ.out.2.2.2.1,HZ.out.2.2.2.2⟩
       case measure=>simp[On];omega
    ·obtain rfl:q=l.length:=by omega
     have hpn:=DO ls k l HR.out.2.2.2.2.2.2.2;rw[hpn]at hT hF hO;have HZ:M6 (_/\_/\_/\_/\_/\_):=⟨hT,hF,hO,hnk,hbr2,hres⟩;clear hT hF hO hnk hres hpn cu2 hb0;go_wp2
     go_roundw
     case rel=>exact⟨k+1,n,vs,f,by simp,hlt,HZ.out.1,HZ.out.2.1,HZ.out.2.2.1,by have:=HZ.out.2.2.2.1;omega,HZ.out.2.2.2.2.1,HZ.out.2.2.2.2.2⟩
     case measure=>simp[On];omega
  ·obtain rfl:k=25:=by omega
   rw[Bo ls HX.out.2.2.2]at hT hF hO;obtain⟨t0,t1,t2,tlt⟩:=cF hT.box;obtain⟨z0,z1,z2,z3⟩:=cF hres;have y0:w2.frozen? ⟨w.heap.size+1,0,MH⟩=false:=by simp[Ng,hres]
   have y1:w2.frozen? ⟨w.heap.size+1,1,MH⟩=false:=by simp[Ng,hres]
   have y2:w2.frozen? ⟨w.heap.size+1,2,MH⟩=false:=by simp[Ng,hres]
   have HZ:M6 (_/\_/\_/\_/\_/\_):=⟨hT,hF,hO,hnk,hbr,hres⟩;clear hT hF hO hnk hbr hres;go_wp2;have hz:=pB (c0:=MF ME now) (c1:=MG (MI ⟨H+1,0,MH⟩) 25 25) (c2:=P0 (MI (H+2))) HZ.out.2.2.2.2.2;obtain⟨x0,x1,x2,_⟩:=cF hz;refine Np (v:=Nv #[Ny #[MF ME now,MG (MI ⟨H+1,0,MH⟩) 25 25,P0 (MI (H+2))],M3 Nw]) (by simp[Pf,Vp,go_sem,x0,x1,x2]) rfl ⟨?_,Nt ⟨HZ.out.2.2.1,H+2+1,H+1,H+2,n,vs,f,rfl,?_,HZ.out.2.1,HZ.out.2.2.2.1⟩⟩
   ·exact((HZ.out.2.2.2.2.1.setCell (by simp) _).setCell (by simp) _).setCell (by simp) _
   ·refine HZ.out.1.Gf fun g hg _=>?_
    rw[MU _ _ _ _ (by simp;omega),MU _ _ _ _ (by simp;omega),MU _ _ _ _ (by simp;omega)]
end
section
open Go.Sort (grow grow_empty grow_grow alloc_eq_grow cell?_grow heap_grow_old)
def cQ(now:Int)(ls:List (List Tm)):Prop:=(0<=now/\now<=1099511627776)/\Ok now ls
def DN(now:Int)(ls:List (List Tm))(w:MO)(r:Ending)(w':MO):Prop :=
 MQ w.heap.size w w'/\((cQ now ls/\∃T B M n vs f,r=MN (Nv #[Ny #[MF ME now,MG (MI ⟨B,0,MH⟩) 25 25,P0 (MI M)],M3 Nw])/\ac w' (w.heap.size+2) T B M n now vs ls f/\dW f ls/\n<=26214400) \/
  (¬cQ now ls/\r=MN (Nv #[Ny #[MF ME 0,MG MH 0 0,P0 MH],M3 Nb])))
theorem pD(v:M7)(now:Int)(ls:List (List Tm))(w:MO)(hB:aK w)(hx:dh w v ls)(hlen:∀l∈ls,l.length<=1048576) :
  Ni MK 196 #[Ny #[MF ME now,v]] w (DN now ls w):=by
 by_cases h:(0<=now/\now<=1099511627776)/\ls.length=25
 ·refine(EH v now ls w hB hx h.1.1 h.1.2 h.2 hlen).mono fun r w' ht=>⟨ht.1,?_⟩
  rcases ht.2 with⟨h1,h2⟩|⟨h1,h2⟩
  ·exact Nt ⟨⟨h.1,h1⟩,h2⟩
  ·exact NF ⟨fun hm=>h1 hm.2,h2⟩
 ·exact(EF v now ls w hx h).mono fun r w' ht=>⟨ht.1,NF ⟨fun hm=>h ⟨hm.1,hm.2.len⟩,ht.2⟩⟩
theorem ac.Iu{w:MO}{base T B M n:Nat}{now:Int}{vs:List M7}{ls:List (List Tm)}{f:Int->Option Int}(h:ac w base T B M n now vs ls f):ac (w.alloc (MP #[MF ME now,MG (MI ⟨B,0,MH⟩) 25 25,P0 (MI M)] 275)) base w.heap.size B M n now vs ls f:=by
 have hb:MQ w.heap.size w (w.alloc (MP #[MF ME now,MG (MI ⟨B,0,MH⟩) 25 25,P0 (MI M)] 275)):=(MY _ _).alloc (MV _) _;have h2:=h.below hb;have hlt:∀u∈MG (MI ⟨B,0,MH⟩) 25 25::vs,∀g,u.ownBlock=MI g->g<w.heap.size:=fun u hu g hg=>by
  rcases List.mem_cons.1 hu with rfl|hu
  ·exact(h.own.row.lt g hg).2
  ·obtain⟨i,hi,rfl⟩:=NV hu
   exact((h.own.each.2 i hi (by rw[<-h.own.each.1];exact hi)).lt g hg).2
 exact⟨M1 w _,h2.own,h2.map,fun u hu e=>absurd (hlt u hu _ e) (PC _),h2.offM,PJ (Pb h.hT (Array.getElem?_eq_some_iff.1 h.box).1),h2.hM,fun e=>absurd h.map.lt (by rw[<-e];exact PC _),h.len⟩
def fa(l:List Tm)(t:Tm):Nat:=(l.takeWhile fun x=>Nn (ax x t<0)).length
theorem sh(l:List Tm)(t:Tm):fa l t<=l.length:=by
 unfold fa;exact(List.takeWhile_sublist _).length_le
theorem mB(l:List Tm)(t:Tm):∀x∈l.take (fa l t),ax x t<0:=by
 unfold fa
 induction l with
 |nil=>intro x hx;cases hx
 |cons y l ih =>
  by_cases hy:ax y t<0
  ·rw[Rv (by simpa using hy)]
   intro x hx;rcases List.mem_cons.1 (by simpa using hx)with rfl|hx
   ·exact hy
   ·exact ih x hx
  ·rw[Ru (by simpa using hy)]
   intro x hx;cases hx
theorem ni{l:List Tm}(h:l.Pairwise (fun a b=>ax a b<0))(t:Tm):∀x∈l.drop (fa l t),¬ax x t<0:=by
 unfold fa
 induction l with
 |nil=>intro x hx;cases hx
 |cons y l ih =>
  have hp:=List.pairwise_cons.1 h
  by_cases hy:ax y t<0
  ·rw[Rv (by simpa using hy)]
   simpa using ih hp.2
  ·rw[Ru (by simpa using hy)]
   intro x hx hxt;rcases List.mem_cons.1 (by simpa using hx)with rfl|hx
   ·exact hy hxt
   ·exact hy (ko (hp.1 x hx) hxt)
theorem sr{a b:Tm}(h:¬ax a b<0)(hne:a.2≠b.2):ax b a<0:=by
 rw[i8]at *;omega
def dy(ls:List (List Tm))(now:Int)(t:Tm):List (List Tm):=ls.set (aG t.1 now).toNat (bQ (ls.getD (aG t.1 now).toNat []) t (fa (ls.getD (aG t.1 now).toNat []) t))
theorem kl{x n:Int}:0<=aG x n/\aG x n<25:=by
 unfold aG
 repeat' split
 all_goals omega
theorem cQ.ID{now:Int}{ls:List (List Tm)}(h:cQ now ls)(hf:cW now t=Nw)(hn:∀x∈ls.flatten,x.2≠t.2):cQ now (dy ls now t):=by
 have hp:=@kl t.1 now;have hi:(aG t.1 now).toNat<ls.length:=by rw[h.2.len];omega
 have hl:ls[(aG t.1 now).toNat]?=MI (ls.getD (aG t.1 now).toNat []):=by simp[Pq,MR hi]
 refine⟨h.1,h.2.ID hl hf (by omega) hn _ (mB _ _) fun x hx=>?_⟩;have hx1:=ni (h.2.ord _ (Nu hl)) t x hx;exact sr hx1 (hn x (List.mem_flatten.2 ⟨_,Nu hl,List.mem_of_mem_drop hx⟩))
theorem BQ(v:M7)(now id x:Int)(ls:List (List Tm))(w:MO)(hB:aK w)(hx:dh w v ls)(hlen:∀l∈ls,l.length<=1048576)(hm:cQ now ls)(hid:(N6 ME id).wf=Nw) :
  Ni MK 164 #[Ny #[MF ME now,v],MF ME id,MF ME x] w fun r w'=>MQ w.heap.size w w' /\
   ((cW now (x,id)=Nb/\r=MN (Nv #[Ny #[MF ME 0,MG MH 0 0],MF ME 2])) \/
     (cW now (x,id)=Nw/\¬(∀t∈ls.flatten,t.2≠id)/\r=MN (Nv #[Ny #[MF ME 0,MG MH 0 0],MF ME 7])) \/
     (cW now (x,id)=Nw/\(∀t∈ls.flatten,t.2≠id)/\∃u vs,r=MN (Nv #[Ny #[MF ME now,u],MF ME 0])/\ar w' w.heap.size u vs (dy ls now (x,id)))):=by
 obtain⟨a,ca,rfl,_⟩:=hx.F6;have hb0:∀W,MQ w.heap.size w W->aK W/\dh W (MG a ls.length ca) ls:=fun W h=>⟨hB.below h,hx.below h⟩
 have HX:M6 (_/\_/\_):=⟨hb0,hlen,hm⟩;have hblt:=hB.lt;obtain⟨hn,hn2⟩:=hm.1;clear hb0 hlen hm hx hB;go_enter Tryz.func164,Tryz.ntmps164
 go_wp2_with fail
 have hbw:MQ w.heap.size w ((w.alloc (MP #[MF ME now,MG a ls.length ca] 52)).alloc (MP #[MF ME 0,MG MH 0 0] 52)):=((MY _ _).alloc (MV _) _).alloc (by simp) _;refine(pD _ now ls _ (HX.out.1 _ hbw).1 (HX.out.1 _ hbw).2 HX.out.2.1).mono ?_;rintro r w1 ⟨hb1,⟨_,T,B,M,n,vs,f,rfl,hT,hF,hnn⟩|⟨h1,_⟩⟩
 ·have hR:w1.heap[w.heap.size+1]?=MI (MP #[MF ME 0,MG MH 0 0] 52 (0,0)):=(hb1.block _ (by simp)).trans (bV _ _ _)
  have hbw1:=hbw.trans (hb1.mono hbw.size);rw[show((w.alloc (MP #[MF ME now,MG a ls.length ca] 52)).alloc (MP #[MF ME 0,MG MH 0 0] 52)).heap.size+2=w.heap.size+4 by simp]at hT;obtain⟨w2,hw2⟩:∃w2,w2=(w1.alloc (MP #[MF ME now,MG (MI ⟨B,0,MH⟩) 25 25,P0 (MI M)] 275)).alloc (MP #[MF ME x,MF ME id] 187):=⟨_,rfl⟩;have hb2:MQ w1.heap.size w1 w2:=by rw[hw2];exact((MY _ _).alloc (MV _) _).alloc (by simp) _
  have hT2:ac w2 (w.heap.size+4) w1.heap.size B M n now vs ls f:=by rw[hw2];exact hT.Iu.below ((MY _ _).alloc (MV _) _)
  have hR2:=(hb2.block _ (Array.getElem?_eq_some_iff.1 hR).1).trans hR;have hbw2:=hbw1.trans (hb2.mono hbw1.size);have hK1:w2.cell? ⟨w1.heap.size+1,0,MH⟩=MI (MF ME x):=by rw[hw2];simp
  have hK2:w2.cell? ⟨w1.heap.size+1,1,MH⟩=MI (MF ME id):=by rw[hw2];simp
  have hKl:w1.heap.size+1<w2.heap.size:=by rw[hw2];simp
  obtain⟨q0,q1,q2,q3⟩:=cF hT2.box;have HT:M6 (_/\_/\_/\_/\_/\_/\_):=⟨hT2,hF,hnn,hR2,hbw2,hw2,hbw1⟩;clear hR hb1 hbw hT hF hnn hb2 hT2 hR2 hbw2 hbw1 hw2
  go_wp2_with fail
  rw[<-HT.out.2.2.2.2.2.1];have hs1:=HT.out.2.2.2.2.2.2.size;refine(rK x id now _ hn hn2).mono ?_;cases hfit:cW now (x,id)
  ·rintro r w3 ⟨rfl,hw3⟩
   have hb3:MQ w2.heap.size w2 w3:=by rw[hw3];exact(MY _ _).alloc (MV _) _
   have hR3:=(hb3.block _ (Array.getElem?_eq_some_iff.1 HT.out.2.2.2.1).1).trans HT.out.2.2.2.1;obtain⟨c0,c1,f0,f1,hlt⟩:=au hR3;have HZ:M6 (_/\_):=⟨hR3,HT.out.2.2.2.2.1.trans (hb3.mono HT.out.2.2.2.2.1.size)⟩;clear hw3 hb3 hR3 q0 q1 q2 q3 hK1 hK2;go_wp2;obtain⟨g0,g1⟩:=jC (c:=MF ME 0) (d:=MG MH 0 0) HZ.out.1;refine Np (v:=Nv #[Ny #[MF ME 0,MG MH 0 0],MF ME 2]) (by simp[Pf,V6,go_sem,g0,g1]) rfl ⟨?_,Nt ⟨hfit,rfl⟩⟩;exact((HZ.out.2.setCell (p:=⟨w.heap.size+1,0,MH⟩) (by simp) _).setCell (p:=⟨w.heap.size+1,1,MH⟩) (by simp) _)
  ·rintro r w3 ⟨rfl,hw3⟩
   have hb3:MQ w2.heap.size w2 w3:=by rw[hw3];exact(MY _ _).alloc (MV _) _
   have hT3:=HT.out.1.below hb3;have hbw3:=HT.out.2.2.2.2.1.trans (hb3.mono HT.out.2.2.2.2.1.size);have hR3:=(hb3.block _ (Array.getElem?_eq_some_iff.1 HT.out.2.2.2.1).1).trans HT.out.2.2.2.1;have hK3:=(hb3.cell (p:=⟨w1.heap.size+1,0,MH⟩) hKl).trans hK1;have hK4:=(hb3.cell (p:=⟨w1.heap.size+1,1,MH⟩) hKl).trans hK2;obtain⟨c0,c1,f0,f1,hlt⟩:=au hR3;obtain⟨p0,p1,p2,p3⟩:=cF hT3.box;have HZ:M6 (_/\_/\_):=⟨hR3,hbw3,hT3⟩;clear hw3 hb3 hR3 q0 q1 q2 q3 hK1 hK2 hbw3 hT3
   go_wp2_with fail
   refine(qW w1.heap.size M n f id _ p2 HZ.out.2.2.map hid).mono ?_;cases hhas:(f id).isSome
   ·rintro r w4 ⟨rfl,rfl⟩
    have hfresh:=(HT.out.2.1.GP id).1 hhas;have hpr:=@kl x now;have hbnd:=kK hfit hn;obtain⟨i,hi⟩:∃i:Nat,aG x now=(i:Int):=⟨(aG x now).toNat,by omega⟩;have hi25:i<25:=by omega
    have hil:i<ls.length:=by rw[HX.out.2.2.2.len];exact hi25
    have hl:ls[i]?=MI (ls.getD i []):=by simp[Pq,MR hil]
    have hord:=HX.out.2.2.2.ord _ (Nu hl);have hll:=HX.out.2.1 _ (Nu hl);have HP:=px (w.heap.size+4) w1.heap.size B M n now vs ls f x id i (fa (ls.getD i []) (x,id)) w4 (HX.out.1 _ HZ.out.2.1).1 HZ.out.2.2 (by omega) (by have:=(Array.getElem?_eq_some_iff.1 HZ.out.2.2.box).1;have:=HZ.out.2.2.hT;omega) hn hn2 (by have:=HT.out.2.2.1;unfold NE;omega) hi25 ⟨hbnd.1,hbnd.2.1⟩ hid hi _ hl hll (sh _ _) (fun k hk hkp=>mB _ _ _ (List.mem_take_iff_getElem.2 ⟨k,by omega,rfl⟩)) (fun k hk hkp=>ni hord _ _ (List.mem_drop_iff_getElem.2 ⟨k-fa (ls.getD i []) (x,id),by omega,by congr 1;omega⟩));have HQ:M6 (_/\_/\_/\_):=⟨HP,hfresh,hi,hl⟩;clear HP hfresh hpr hbnd hi hl hord hll hil
    go_wp2_with fail
    refine HQ.out.1.mono ?_;rintro r w5 ⟨rfl,vs',hT5,hb5,_⟩;have hR5:=(hb5.block (w.heap.size+1) (by omega)).trans HZ.out.1;have hadd:ls.set i (bQ (ls.getD i []) (x,id) (fa (ls.getD i []) (x,id)))=dy ls now (x,id):=by
     unfold dy;rw[show(aG (x,id).1 now).toNat=i by rw[HQ.out.2.2.1];rfl]
    rw[hadd]at hT5;obtain⟨c0',c1',f0',f1',hlt'⟩:=au hR5;obtain⟨p0',p1',p2',p3'⟩:=cF hT5.box;have HY:M6 (_/\_/\_):=⟨hR5,hT5,HZ.out.2.1.trans (hb5.mono (by omega))⟩;clear hR5 hT5 hb5 hadd c0 c1 f0 f1 hlt p0 p1 p2 p3 hK3 hK4;go_wp2;obtain⟨g0,g1⟩:=jC (c:=MF ME now) (d:=MG (MI ⟨B,0,MH⟩) 25 25) HY.out.1;refine Np (v:=Nv #[Ny #[MF ME now,MG (MI ⟨B,0,MH⟩) 25 25],MF ME 0]) (by simp[Pf,V6,go_sem,g0,g1]) rfl ⟨?_,NF (NF ⟨hfit,HQ.out.2.1,_,vs',rfl,?_⟩)⟩
    ·exact((HY.out.2.2.setCell (p:=⟨w.heap.size+1,0,MH⟩) (by simp) _).setCell (p:=⟨w.heap.size+1,1,MH⟩) (by simp) _)
    ·exact(HY.out.2.1.own.Hh (g:=w.heap.size+1) (by omega) _ _).GV (by omega)
   ·rintro r w4 ⟨rfl,rfl⟩
    have hnf:¬(∀t∈ls.flatten,t.2≠id):=fun h=>by rw[(HT.out.2.1.GP id).2 h]at hhas;cases hhas
    have HN:M6 _:=hnf;clear hnf p0 p1 p2 p3 hK3 hK4;go_wp2;obtain⟨g0,g1⟩:=jC (c:=MF ME 0) (d:=MG MH 0 0) HZ.out.1;refine Np (v:=Nv #[Ny #[MF ME 0,MG MH 0 0],MF ME 7]) (by simp[Pf,V6,go_sem,g0,g1]) rfl ⟨?_,NF (Nt ⟨hfit,HN.out,rfl⟩)⟩;exact((HZ.out.2.1.setCell (p:=⟨w.heap.size+1,0,MH⟩) (by simp) _).setCell (p:=⟨w.heap.size+1,1,MH⟩) (by simp) _)
 ·exact absurd HX.out.2.2 h1
end
section
open Go.Sort (grow grow_empty grow_grow alloc_eq_grow cell?_grow heap_grow_old)
structure aS(ls:List (List Tm)):Prop where
 len:ls.length=25
 ord:∀l∈ls,l.Pairwise (fun a b=>ax a b<0)
 ids:(ls.flatten.map (·.2)).Nodup
theorem Ok.srt{now:Int}{ls:List (List Tm)}(h:Ok now ls):aS ls:=⟨h.len,h.ord,h.ids⟩
theorem mO(ls:List (List Tm))(now:Int)(t:Tm)(i:Nat)(hi:aG t.1 now=(i:Int)):dy ls now t=ls.set i (bQ (ls.getD i []) t (fa (ls.getD i []) t)):=by
 unfold dy;rw[hi];rfl
theorem aS.ID{ls:List (List Tm)}(h:aS ls)(now:Int)(hn:∀x∈ls.flatten,x.2≠t.2):aS (dy ls now t):=by
 have hp:=@kl t.1 now;obtain⟨i,hi⟩:∃i:Nat,aG t.1 now=(i:Int):=⟨(aG t.1 now).toNat,by omega⟩;have hil:i<ls.length:=by rw[h.len];omega
 have hl:ls[i]?=MI (ls.getD i []):=by simp[Pq,MR hil]
 rw[mO ls now t i hi];refine⟨by rw[NA];exact h.len,fun m hm=>?_,?_⟩
 ·rcases OB hm with hm|rfl
  ·exact h.ord m hm
  ·refine sn (h.ord _ (Nu hl)) t _ (mB _ _) fun x hx=>?_
   exact sr (ni (h.ord _ (Nu hl)) t x hx) (hn x (List.mem_flatten.2 ⟨_,Nu hl,List.mem_of_mem_drop hx⟩))
 ·rw[((ly hl t _).map _).nodup_iff,OA,QJ]
  refine⟨fun hm=>?_,h.ids⟩;obtain⟨x,hx,e⟩:=List.mem_map.1 hm;exact hn x hx e
theorem qA{ls:List (List Tm)}(h:ls.length=25)(now:Int)(t:Tm):(dy ls now t).flatten.Perm (t::ls.flatten):=by
 have hp:=@kl t.1 now;obtain⟨i,hi⟩:∃i:Nat,aG t.1 now=(i:Int):=⟨(aG t.1 now).toNat,by omega⟩;have hil:i<ls.length:=by rw[h];omega
 rw[mO ls now t i hi];exact ly (by simp[Pq,MR hil]) t _
def gj(ls:List (List Tm))(now:Int)(l:List Tm):List (List Tm):=l.foldl (fun ls t=>dy ls now t) ls
theorem xx(ls:List (List Tm))(now:Int)(l:List Tm)(t:Tm):gj ls now (l++[t])=dy (gj ls now l) now t:=by simp[gj]
theorem tD(ls:List (List Tm))(now:Int)(l:List Tm)(h:ls.length=25):(gj ls now l).flatten.Perm (l++ls.flatten):=by
 induction l generalizing ls with
 |nil=>exact .refl _
 |cons t l ih =>
  have h1:(dy ls now t).length=25:=by unfold dy;rw[NA];exact h
  exact(ih (dy ls now t) h1).trans (((qA h now t).append_left l).trans QC)
theorem sA(ls:List (List Tm))(now:Int)(l:List Tm)(h:aS ls)(hn:((l++ls.flatten).map (·.2)).Nodup):aS (gj ls now l):=by
 induction l generalizing ls with
 |nil=>exact h
 |cons t l ih =>
  have hn2:(((t::l)++ls.flatten).map (·.2)).Nodup:=hn;rw[List.cons_append,OA,QJ]at hn2;have hfr:∀x∈ls.flatten,x.2≠t.2:=fun x hx e=>hn2.1 (List.mem_map.2 ⟨x,Qq _ hx,e⟩)
  refine ih (dy ls now t) (h.ID now hfr) ?_;have hp:((l++(dy ls now t).flatten).map (·.2)).Perm (((t::l)++ls.flatten).map (·.2)):=(((qA h.len now t).append_left l).trans QC).map _;rw[hp.nodup_iff];exact hn
theorem i7{ls:List (List Tm)}{l:List Tm}(h:l∈ls):l.length<=ls.flatten.length:=by
 induction ls with
 |nil=>cases h
 |cons m ls ih =>
  rw[QS,Ns];rcases List.mem_cons.1 h with rfl|h
  ·omega
  ·have:=ih h;omega
theorem jq{ls:List (List Tm)}{L:List Tm}(h:ls[p]?=MI L):(L++(ls.set p []).flatten).Perm ls.flatten:=by
 obtain⟨a,b,e1,e2,_⟩:=oK ls p L [] h;rw[e2,e1];simp only[PV,QS,Oz];rw[<-OC,<-OC];exact List.perm_append_comm.append_right _
theorem aS.Gc{ls:List (List Tm)}(h:aS ls){L:List Tm}(hL:ls[p]?=MI L):aS (ls.set p []):=by
 refine⟨by rw[NA];exact h.len,fun m hm=>?_,?_⟩
 ·rcases OB hm with hm|rfl
  ·exact h.ord m hm
  ·exact .nil
 ·have:=((jq hL).map (·.2)).nodup_iff.2 h.ids
  rw[OI,Qv]at this;exact this.2.1
theorem ac.Gc{w:MO}{base T B M n:Nat}{now:Int}{vs:List M7}{ls:List (List Tm)}{f:Int->Option Int}(h:ac w base T B M n now vs ls f)(hp:p<25){u:M7}(hu:vs[p]?=MI u):
  ac (w.setCell ⟨B,p,MH⟩ (MG MH 0 0)) base T B M n now (vs.set p (MG MH 0 0)) (ls.set p []) f/\∀g,u.ownBlock=MI g->jy (w.setCell ⟨B,p,MH⟩ (MG MH 0 0)) (vs.set p (MG MH 0 0)) T B M g/\(w.setCell ⟨B,p,MH⟩ (MG MH 0 0)).heap[g]?=w.heap[g]?:=by
 have hpl:p<ls.length:=by rw[h.len];exact hp
 have hpv:p<vs.length:=by rw[h.own.each.1];exact hpl
 have hBT:T≠B:=fun e=>h.offT _ (NM ..) (by rw[e];rfl)
 have hBM:M≠B:=fun e=>h.offM _ (NM ..) (by rw[e];rfl)
 have hmem:u∈vs:=Nu hu;have hg0:w.grownBy w u.ownBlock:=⟨rfl,rfl,rfl,MV _,fun _ _ _=>rfl⟩;have hown:=h.own.Gd h.len hpl hu hg0 (u':=MG MH 0 0) (l':=[]) (NY _ _ _ _) (fun g hg=>by cases hg);have hoff:∀X,(∀x∈MG (MI ⟨B,0,MH⟩) 25 25::vs,x.ownBlock≠MI X)->∀x∈MG (MI ⟨B,0,MH⟩) 25 25::vs.set p (MG MH 0 0),x.ownBlock≠MI X:=fun X ho x hx=>by
  rcases List.mem_cons.1 hx with rfl|hx
  ·exact ho _ (NM ..)
  ·rcases OB hx with h|rfl
   ·exact ho x (NB _ h)
   ·intro e;cases e
 refine⟨⟨(MU _ _ _ _ hBT).trans h.box,hown,h.map.Gf (MU _ _ _ _ hBM),hoff T h.offT,hoff M h.offM,h.hT,h.hM,h.hTM,by rw[NA];exact h.len⟩,fun g hg=>?_⟩;have hgB:g≠B:=fun e=>(List.pairwise_cons.1 h.own.apart).1 u hmem B rfl (by rw[hg,e])
 have hui:vs[p]=u:=by rw[MR hpv]at hu;exact NC hu
 have hgl:g<w.heap.size:=by
  have h1:=(h.own.each.2 p hpv hpl).lt g (by rw[hui];exact hg);exact h1.2
 refine⟨⟨by simpa using hgl,fun e=>h.offT u (NB _ hmem) (by rw[hg,e]),hgB,fun e=>h.offM u (NB _ hmem) (by rw[hg,e]),fun x hx e=>?_⟩,MU _ _ _ _ hgB⟩;obtain⟨j,hj,rfl⟩:=NV hx
 by_cases hjp:j=p
 ·subst hjp
  rw[NW]at e;cases e
 ·rw[Pe (Pi hjp)]at e
  have hj':j<vs.length:=by simpa using hj
  have hpair:=List.pairwise_iff_getElem.1 (List.pairwise_cons.1 h.own.apart).2;rcases QM hjp with h1|h1
  ·exact hpair j p hj' hpv h1 g e (by rw[hui];exact hg)
  ·exact hpair p j hpv hj' h1 g (by rw[hui];exact hg) e
theorem DP(base T B M n:Nat)(now:Int)(vs:List M7)(ls:List (List Tm))(f:Int->Option Int)(p:Nat)(L:List Tm)(w:MO)(hB:aK w)(hT:ac w base T B M n now vs ls f)(hb0:0<base)(hbase:base<=w.heap.size)(hn:0<=now)(hn2:now<=1099511627776)
  (hp:p<25) (hL:ls[p]?=MI L) (hLb:∀t∈L,0<=t.1/\t.1<=4398046511104/\(N6 ME t.2).wf=Nw) (hS:aS ls) (htot:ls.flatten.length<=1048576) (hnn:n<=1000000000) :
  Ni MK 233 #[Na (MI ⟨T,0,MH⟩),MF ME p] w fun r w'=>r=MN (Nv #[])/\∃vs' n' f',ac w' base T B M n' now vs' (gj (ls.set p []) now L) f'/\n'<=n+L.length/\MQ base w w':=by
 obtain⟨t0,t1,t2,tlt⟩:=cF hT.box;have hpl:p<ls.length:=by rw[hT.len];exact hp
 obtain⟨u,hu,hown⟩:=ky hT.own p hpl;have hlc:=kq hT.own hT.len p hpl u hu;have hLp:ls[p]=L:=by rw[MR hpl]at hL;exact NC hL
 rw[hLp]at hown;have hfz:w.frozen? ⟨B,p,MH⟩=false:=by
  have h25:=hT.own.row;rw[hT.len]at h25;exact h25.frozenAt p
 have hcl:=hT.Gc hp hu;have hnd:((L++(ls.set p []).flatten).map (·.2)).Nodup:=((jq hL).map (·.2)).nodup_iff.2 hS.ids;have hLlen:L.length<=1048576:=Nm (i7 (Nu hL)) htot;obtain⟨up,uc,rfl⟩:=cR hown;have hread:=bP hown;have hBb:=(hT.own.row.lt B rfl).1;have HX:M6 (_/\_/\_/\_/\_/\_/\_/\_/\_):=⟨hT,hcl,hnd,hread,hLb,hS,hL,hB,htot⟩;have hTB:T≠B:=fun e=>hT.offT _ (NM ..) (by rw[e];rfl)
 have hpI:(p:Int)<25:=by omega
 clear hT hcl hnd hread hLb hS hB hu hown hL hLp htot;go_enter Tryz.func233,Tryz.ntmps233;go_wp2
 go_loopw [24] (fun i wr=>∃(k n':Nat) (vs':List M7) (f':Int->Option Int),i=MF ME k/\k<=L.length/\ac wr base T B M n' now vs' (gj (ls.set p []) now (L.take k)) f'/\n'<=n+k/\MQ base w wr/\∀g,(MG up L.length uc).ownBlock=MI g->jy wr vs' T B M g/\wr.heap[g]?=w.heap[g]?) (fun i _=>L.length-(On i).toNat)
 case atStart =>
  exact⟨0,n,_,f,rfl,Nx _,HX.out.2.1.1,MV _,(MY _ _).setCell (by exact hBb) _,HX.out.2.1.2⟩
 case round =>
  obtain⟨k,n',vs',f',rfl,hk,hT,hnk,hbr,hfree⟩:=hrel
  by_cases hlt:k<L.length
  ·obtain⟨ga,ca,hv,_,_,pu⟩:=aO.F6 HX.out.2.2.2.1
   simp only[N4]at hv;obtain⟨rfl,_,rfl⟩:=hv;obtain⟨bu,ou,rfl,hbu,p1,p2⟩:=pu k hlt;have hfr:=hfree bu rfl;have e1:=(NG (a:=⟨bu,ou+k*2,MH⟩) hfr.2).trans p1;have e2:=(NG (a:=⟨bu,ou+k*2+1,MH⟩) hfr.2).trans p2;obtain⟨ta,hta⟩:∃ta,L[k].1=ta:=⟨_,rfl⟩;obtain⟨td,htd⟩:∃td,L[k].2=td:=⟨_,rfl⟩;have hLk:L[k]=(ta,td):=Q8 hta htd;rw[hta]at e1;rw[htd]at e2;have hbnd:=HX.out.2.2.2.2.1 L[k] (Nk hlt);rw[hLk]at hbnd;have htk:L.take (k+1)=L.take k++[(ta,td)]:=by rw[M9 hlt,hLk]
   obtain⟨cur,hcur⟩:∃cur,cur=gj (ls.set p []) now (L.take k):=⟨_,rfl⟩;have hS0:aS (ls.set p []):=HX.out.2.2.2.2.2.1.Gc HX.out.2.2.2.2.2.2.1;have hnd2:(((L.take k++[(ta,td)])++(ls.set p []).flatten).map (·.2)).Nodup:=by
    rw[<-htk];exact HX.out.2.2.1.sublist ((Rz (List.take_sublist _ _) _).map _)
   have hScur:aS cur:=by
    rw[hcur];refine sA _ _ _ hS0 (hnd2.sublist ((Rz (List.sublist_append_left _ _) _).map _))
   have hpm:cur.flatten.Perm (L.take k++(ls.set p []).flatten):=by rw[hcur];exact tD _ _ _ hS0.len
   have hfresh:∀x∈cur.flatten,x.2≠td:=fun x hx e=>by
    have hx2:=hpm.mem_iff.1 hx;have h1:(((ta,td)::(L.take k++(ls.set p []).flatten)).map (·.2)).Nodup:=by
     refine(List.Perm.nodup_iff (List.Perm.map _ ?_)).1 hnd2;rw[OC];exact QC
    rw[OA,QJ]at h1;exact h1.1 (List.mem_map.2 ⟨x,hx2,e⟩)
   have hpr:=@kl ta now;obtain⟨i,hi⟩:∃i:Nat,aG ta now=(i:Int):=⟨(aG ta now).toNat,by omega⟩;have hi25:i<25:=by omega
   have hil:i<cur.length:=by rw[hScur.len];exact hi25
   have hl:cur[i]?=MI (cur.getD i []):=by simp[Pq,MR hil]
   have hord:=hScur.ord _ (Nu hl);have hll:(cur.getD i []).length<=1048576:=by
    refine Nm (i7 (Nu hl)) ?_;rw[hpm.length_eq];refine Nm ?_ HX.out.2.2.2.2.2.2.2.2;rw[<-(jq HX.out.2.2.2.2.2.2.1).length_eq,Ns,Ns,NH];omega
   rw[<-hcur]at hT;obtain⟨w3,hw3⟩:∃w3,w3=wr.alloc (MP #[MF ME ta,MF ME td] 187):=⟨_,rfl⟩;have hb3:MQ wr.heap.size wr w3:=by rw[hw3];exact(MY _ _).alloc (MV _) _
   have hT3:=hT.below hb3;have hB3:aK w3:=(HX.out.2.2.2.2.2.2.2.1.Gf (hbr.block 0 hb0)).below hb3;have hs3:=hb3.size;have hsr:=hbr.size;have hadd:cur.set i (bQ (cur.getD i []) (ta,td) (fa (cur.getD i []) (ta,td)))=gj (ls.set p []) now (L.take (k+1)):=by
    rw[htk,xx,<-hcur,mO cur now (ta,td) i hi]
   have HP:=px base T B M n' now vs' cur f' ta td i (fa (cur.getD i []) (ta,td)) w3 hB3 hT3 hb0 (by omega) hn hn2 (by unfold NE;omega) hi25 ⟨hbnd.1,hbnd.2.1⟩ hbnd.2.2 hi _ hl hll (sh _ _) (fun k hk hkp=>mB _ _ _ (List.mem_take_iff_getElem.2 ⟨k,by omega,rfl⟩)) (fun k hk hkp=>ni hord _ _ (List.mem_drop_iff_getElem.2 ⟨k-fa (cur.getD i []) (ta,td),by omega,by congr 1;omega⟩));rw[hadd]at HP;have HQ:M6 (_/\_/\_/\_/\_/\_):=⟨HP,hw3,hfree,hbr,hb3,hnk⟩;clear HP hw3 hfree hbr hb3 hnk hadd hT3 hB3 hT hll hord hl hil hi hpr hfresh hpm hScur hnd2 hS0 hcur htk hbnd hLk hta htd p1 p2 hfr hs3 hsr
   go_wp2_with fail
   rw[<-HQ.out.2.1];refine HQ.out.1.mono ?_;rintro r w5 ⟨rfl,vs5,hT5,hb5,hf5⟩;have hfree5:∀g,(MG (MI ⟨bu,ou,MH⟩) L.length uc).ownBlock=MI g->jy w5 vs5 T B M g/\w5.heap[g]?=w.heap[g]?:=fun g hg=>by
    obtain⟨h1,h2⟩:=HQ.out.2.2.1 g hg;have h3:=hf5 g ⟨M8 h1.1 HQ.out.2.2.2.2.1.size,h1.2⟩;exact⟨h3.2,h3.1.trans ((HQ.out.2.2.2.2.1.block g h1.1).trans h2)⟩
   have hbw5:MQ base w w5:=(HQ.out.2.2.2.1.trans (HQ.out.2.2.2.2.1.mono (by have:=HQ.out.2.2.2.1.size;omega))).trans hb5;have HZ:M6 (_/\_/\_):=⟨hT5,hfree5,hbw5⟩;clear hT5 hfree5 hbw5 hb5 hf5;go_wp2
   go_roundw
   case rel=>exact⟨k+1,n'+1,vs5,_,by simp,hlt,HZ.out.1,by have:=HQ.out.2.2.2.2.2;omega,HZ.out.2.2,HZ.out.2.1⟩
   case measure=>simp[On];omega
  ·obtain rfl:k=L.length:=by omega
   rw[NT]at hT;have HZ:M6 (_/\_/\_):=⟨hT,hnk,hbr⟩;clear hT hnk hbr hfree;go_wp2
   go_end0
   exact⟨rfl,vs',n',f',HZ.out.1,HZ.out.2.1,HZ.out.2.2⟩
end
def gH(ls:List (List Tm))(m:Int)(p:Nat):List (List Tm):=gj (ls.set p []) m (ls.getD p [])
structure aX(ls:List (List Tm)):Prop where
 srt:aS ls
 bnd:∀t∈ls.flatten,0<=t.1/\t.1<=4398046511104/\(N6 ME t.2).wf=Nw
 tot:ls.flatten.length<=1048576
theorem mQ{ls:List (List Tm)}(h:ls.length=25)(m:Int)(hp:p<25):(gH ls m p).flatten.Perm ls.flatten:=by
 have hl:ls[p]?=MI (ls.getD p []):=by simp[Pq,MR (show p<ls.length by omega)]
 exact(tD _ m _ (by rw[NA];exact h)).trans (jq hl)
theorem aX.Il{ls:List (List Tm)}(h:aX ls)(m:Int)(hp:p<25):aX (gH ls m p):=by
 have hl:ls[p]?=MI (ls.getD p []):=by simp[Pq,MR (show p<ls.length by rw[h.srt.len];exact hp)]
 have hpm:=mQ h.srt.len m hp;refine⟨sA _ _ _ (h.srt.Gc hl) ?_,fun t ht=>h.bnd t (hpm.mem_iff.1 ht),by rw[hpm.length_eq];exact h.tot⟩;exact((jq hl).map (·.2)).nodup_iff.2 h.srt.ids
def iq(m:Int):Nat:=(8+m / 8 % 8).toNat
def gG(m:Int):Nat:=(16+m / 64 % 8).toNat
def ez(ls:List (List Tm))(m:Int):List (List Tm):=if dl m 8 then gH ls m (iq m)else ls
def en(ls:List (List Tm))(m:Int):List (List Tm):=if dl m 64 then gH (ez ls m) m (gG m)else ez ls m
def bc(ls:List (List Tm))(m:Int):List (List Tm):=if dl m 512 then gH (en ls m) m 24 else en ls m
theorem pF(m:Int):iq m<25:=by unfold iq;omega
theorem pi(m:Int):gG m<25:=by unfold gG;omega
theorem aX.Hm{ls:List (List Tm)}(h:aX ls)(m:Int):aX (ez ls m):=by
 unfold ez
 split
 ·exact h.Il m (pF m)
 ·exact h
theorem aX.Hs{ls:List (List Tm)}(h:aX ls)(m:Int):aX (en ls m):=by
 unfold en
 split
 ·exact(h.Hm m).Il m (pi m)
 ·exact h.Hm m
theorem aX.GR{ls:List (List Tm)}(h:aX ls)(m:Int):aX (bc ls m):=by
 unfold bc
 split
 ·exact(h.Hs m).Il m (by omega)
 ·exact h.Hs m
theorem ac.I6{w:MO}{base T B M n:Nat}{now:Int}{vs:List M7}{ls:List (List Tm)}{f:Int->Option Int}(h:ac w base T B M n now vs ls f):ac (w.setCell ⟨T,0,MH⟩ (MF ME m)) base T B M n m vs ls f:=by
 refine⟨(NI w T 0 _ _ (MF ME m) h.box),?_,h.map.Gf (MU _ _ _ _ (Pi h.hTM)),h.offT,h.offM,h.hT,h.hM,h.hTM,h.len⟩;refine h.own.If (row:=MI T) ⟨rfl,rfl,rfl,by simp,fun k _ hk=>MU _ _ _ _ (fun e=>hk (by rw[e]))⟩ fun u hu g hg e=>?_
 exact h.offT u hu (by rw[hg,NC e])
theorem Cc(b1 b2 b3:Bool)(W:MO):(Qy 307 (Ny #[M3 b1,M3 b2,M3 b3]) (MF ME 0)).run MK W=.ok (M3 b1) W:=by kernel_rfl
theorem CR(b1 b2 b3:Bool)(W:MO):(Qy 307 (Ny #[M3 b1,M3 b2,M3 b3]) (MF ME 1)).run MK W=.ok (M3 b2) W:=by kernel_rfl
theorem xK(b1 b2 b3:Bool)(W:MO):(Qy 307 (Ny #[M3 b1,M3 b2,M3 b3]) (MF ME 2)).run MK W=.ok (M3 b3) W:=by kernel_rfl
theorem ov(base T B M n:Nat)(now:Int)(vs:List M7)(ls:List (List Tm))(f:Int->Option Int)(p:Nat)(w:MO)(hB:aK w)(hT:ac w base T B M n now vs ls f)(hb0:0<base)(hbase:base<=w.heap.size)(hn:0<=now)(hn2:now<=1099511627776)
  (hp:p<25) (hG:aX ls) (hnn:n<=1000000000) :
  Ni MK 233 #[Na (MI ⟨T,0,MH⟩),MF ME p] w fun r w'=>r=MN (Nv #[])/\∃vs' n' f',ac w' base T B M n' now vs' (gH ls now p) f'/\n'<=n+1048576/\MQ base w w':=by
 have hl:ls[p]?=MI (ls.getD p []):=by simp[Pq,MR (show p<ls.length by rw[hG.srt.len];exact hp)]
 refine(DP base T B M n now vs ls f p _ w hB hT hb0 hbase hn hn2 hp hl (fun t ht=>hG.bnd t (List.mem_flatten.2 ⟨_,Nu hl,ht⟩)) hG.srt hG.tot hnn).mono fun r w' h=>?_
 obtain⟨h1,vs',n',f',h2,h3,h4⟩:=h;have:=i7 (Nu hl);have:=hG.tot;exact⟨h1,vs',n',f',h2,by omega,h4⟩
theorem zy(base T B M n:Nat)(now:Int)(vs:List M7)(ls:List (List Tm))(f:Int->Option Int)(w:MO)(hB:aK w)(hT:ac w base T B M n now vs ls f)(hb0:0<base)(hbase:base<=w.heap.size)(hn:0<=now)(hn2:now<1099511627776)(hG:aX ls)(hnn:n<=26214400) :
  Ni MK 197 #[Na (MI ⟨T,0,MH⟩)] w fun r w'=>r=MN (Nv #[])/\∃vs' n' f',ac w' base T B M n' (now+1) vs' (bc ls (now+1)) f'/\n'<=100000000/\MQ base w w':=by
 obtain⟨t0,t1,t2,tlt⟩:=cF hT.box;have hfz:w.frozen? ⟨T,0,MH⟩=false:=by simp[Ng,hT.box]
 have hwr:IntKind.i64.wrap (now+1)=now+1:=by rw[Ow];omega
 obtain⟨m,hm⟩:∃m,m=now+1:=⟨_,rfl⟩;rw[<-hm]at hwr⊢;have hT1:ac (w.setCell ⟨T,0,MH⟩ (MF ME m)) base T B M n m vs ls f:=hT.I6;obtain⟨w1,hw1⟩:∃w1,w1=w.setCell ⟨T,0,MH⟩ (MF ME m):=⟨_,rfl⟩;rw[<-hw1]at hT1;have hbw1:MQ base w w1:=by rw[hw1];exact(MY _ _).setCell hT.hT _
 have hB1:aK w1:=hB.Gf (hbw1.block 0 hb0);have hm0:0<=m:=by omega
 have hm1:m<=1099511627776:=by omega
 have HX:M6 (_/\_/\_/\_/\_/\_):=⟨hT1,hw1,hbw1,hB1,hG,hm⟩;clear hT hT1 hw1 hbw1 hB1 hB hG hm hwr;go_enter Tryz.func197,Tryz.ntmps197
 go_wp2_with fail
 rw[<-HX.out.2.2.2.2.2,<-HX.out.2.1];refine(CN m _ HX.out.2.2.2.1 hm0 (by omega)).mono ?_;obtain⟨b1,hb1⟩:∃b,b=dl m 8:=⟨_,rfl⟩;obtain⟨b2,hb2⟩:∃b,b=dl m 64:=⟨_,rfl⟩;obtain⟨b3,hb3⟩:∃b,b=dl m 512:=⟨_,rfl⟩;rw[<-hb1,<-hb2,<-hb3];rintro r w2 ⟨rfl,hbw2⟩;have hs1:=HX.out.2.2.1.size;have HB:M6 (_/\_/\_/\_):=⟨hb1,hb2,hb3,hbw2⟩;clear hb1 hb2 hb3 hbw2;have j0:=Cc b1 b2 b3;have j1:=CR b1 b2 b3;have j2:=xK b1 b2 b3;go_wp2
 go_loopw [19] (fun i wr=>∃(k n':Nat) (vs':List M7) (f':Int->Option Int),i=MF ME k/\k<=3/\ac wr base T B M n' m vs' (if k=0 then ls else if k=1 then ez ls m else if k=2 then en ls m else bc ls m) f'/\n'<=n+k*1048576/\MQ base w wr) (fun i _=>3-(On i).toNat)
 case atStart=>exact⟨0,n,vs,f,rfl,by omega,HX.out.1.below HB.out.2.2.2,by omega,HX.out.2.2.1.trans (HB.out.2.2.2.mono (by omega))⟩
 case round =>
  obtain⟨k,n',vs',f',rfl,hk,hT,hnk,hbr⟩:=hrel;obtain⟨c0,c1,c2,clt⟩:=cF hT.box;have hBr:aK wr:=HX.out.2.2.2.1.Gf ((hbr.block 0 hb0).trans (HX.out.2.2.1.block 0 hb0).symm);have hsr:=hbr.size;have hk4:k=0\/k=1\/k=2\/k=3:=by omega
  rcases hk4 with rfl|rfl|rfl|rfl
  ·rw[Nh rfl]at hT
   have HR:M6 (_/\_/\_/\_):=⟨hT,hnk,hbr,hBr⟩;clear hT hnk hbr hBr;cases b1
   ·have he:ez ls m=ls:=by unfold ez;rw[<-HB.out.1];rfl
    have HE:M6 _:=he;clear he;go_wp2
    go_roundw
    case rel=>exact⟨1,n',vs',f',rfl,by omega,by rw[Nf (by omega),Nh rfl,HE.out];exact HR.out.1,by have:=HR.out.2.1;omega,HR.out.2.2.1⟩
    case measure=>simp[On]
   ·have he:ez ls m=gH ls m (iq m):=by unfold ez;rw[<-HB.out.1];rfl
    have hwt:(8+m / 8 % 8:Int)=(iq m:Int):=by unfold iq;omega
    have HE:M6 (_/\_):=⟨he,hwt⟩;clear he hwt
    go_wp2_with fail
    refine(zu m _ HR.out.2.2.2 hm0 (by omega)).mono ?_;rw[HE.out.2];rintro r w3 ⟨rfl,rfl⟩
    go_wp2_with fail
    refine(ov base T B M n' m vs' ls f' (iq m) _ HR.out.2.2.2 HR.out.1 hb0 (by omega) hm0 hm1 (pF m) HX.out.2.2.2.2.1 (by have:=HR.out.2.1;omega)).mono ?_;rintro r w4 ⟨rfl,vs4,n4,f4,hT4,hn4,hb4⟩;have HZ:M6 (_/\_/\_):=⟨hT4,hn4,hb4⟩;clear hT4 hn4 hb4;go_wp2
    go_roundw
    case rel=>exact⟨1,n4,vs4,f4,rfl,by omega,by rw[Nf (by omega),Nh rfl,HE.out.1];exact HZ.out.1,by have:=HR.out.2.1;have:=HZ.out.2.1;omega,HR.out.2.2.1.trans HZ.out.2.2⟩
    case measure=>simp[On]
  ·rw[Nf (by omega),Nh rfl]at hT
   have HR:M6 (_/\_/\_/\_):=⟨hT,hnk,hbr,hBr⟩;clear hT hnk hbr hBr;cases b2
   ·have he:en ls m=ez ls m:=by unfold en;rw[<-HB.out.2.1];rfl
    have HE:M6 _:=he;clear he;go_wp2
    go_roundw
    case rel=>exact⟨2,n',vs',f',rfl,by omega,by rw[Nf (by omega),Nf (by omega),Nh rfl,HE.out];exact HR.out.1,by have:=HR.out.2.1;omega,HR.out.2.2.1⟩
    case measure=>simp[On]
   ·have he:en ls m=gH (ez ls m) m (gG m):=by unfold en;rw[<-HB.out.2.1];rfl
    have hwt:(16+m / 64 % 8:Int)=(gG m:Int):=by unfold gG;omega
    have HE:M6 (_/\_):=⟨he,hwt⟩;clear he hwt
    go_wp2_with fail
    refine(C9 m _ HR.out.2.2.2 hm0 (by omega)).mono ?_;rw[HE.out.2];rintro r w3 ⟨rfl,rfl⟩
    go_wp2_with fail
    refine(ov base T B M n' m vs' (ez ls m) f' (gG m) _ HR.out.2.2.2 HR.out.1 hb0 (by omega) hm0 hm1 (pi m) (HX.out.2.2.2.2.1.Hm m) (by have:=HR.out.2.1;omega)).mono ?_;rintro r w4 ⟨rfl,vs4,n4,f4,hT4,hn4,hb4⟩;have HZ:M6 (_/\_/\_):=⟨hT4,hn4,hb4⟩;clear hT4 hn4 hb4;go_wp2
    go_roundw
    case rel=>exact⟨2,n4,vs4,f4,rfl,by omega,by rw[Nf (by omega),Nf (by omega),Nh rfl,HE.out.1];exact HZ.out.1,by have:=HR.out.2.1;have:=HZ.out.2.1;omega,HR.out.2.2.1.trans HZ.out.2.2⟩
    case measure=>simp[On]
  ·rw[Nf (by omega),Nf (by omega),Nh rfl]at hT
   have HR:M6 (_/\_/\_/\_):=⟨hT,hnk,hbr,hBr⟩;clear hT hnk hbr hBr;cases b3
   ·have he:bc ls m=en ls m:=by unfold bc;rw[<-HB.out.2.2.1];rfl
    have HE:M6 _:=he;clear he;go_wp2
    go_roundw
    case rel=>exact⟨3,n',vs',f',rfl,by omega,by rw[Nf (by omega),Nf (by omega),Nf (by omega),HE.out];exact HR.out.1,by have:=HR.out.2.1;omega,HR.out.2.2.1⟩
    case measure=>simp[On]
   ·have he:bc ls m=gH (en ls m) m (24):=by unfold bc;rw[<-HB.out.2.2.1];rfl
    have hwt:(24:Int)=((24:Nat):Int):=rfl;have HE:M6 (_/\_):=⟨he,hwt⟩;clear he hwt
    go_wp2_with fail
    refine(xE m _).mono ?_;rintro r w3 ⟨rfl,rfl⟩
    go_wp2_with fail
    refine(ov base T B M n' m vs' (en ls m) f' 24 _ HR.out.2.2.2 HR.out.1 hb0 (by omega) hm0 hm1 (by omega) (HX.out.2.2.2.2.1.Hs m) (by have:=HR.out.2.1;omega)).mono ?_;rintro r w4 ⟨rfl,vs4,n4,f4,hT4,hn4,hb4⟩;have HZ:M6 (_/\_/\_):=⟨hT4,hn4,hb4⟩;clear hT4 hn4 hb4;go_wp2
    go_roundw
    case rel=>exact⟨3,n4,vs4,f4,rfl,by omega,by rw[Nf (by omega),Nf (by omega),Nf (by omega),HE.out.1];exact HZ.out.1,by have:=HR.out.2.1;have:=HZ.out.2.1;omega,HR.out.2.2.1.trans HZ.out.2.2⟩
    case measure=>simp[On]
  ·rw[Nf (by omega),Nf (by omega),Nf (by omega)]at hT
   have HR:M6 (_/\_/\_):=⟨hT,hnk,hbr⟩;clear hT hnk hbr;go_wp2
   go_end0
   exact⟨rfl,vs',n',f',HR.out.1,by have:=HR.out.2.1;omega,HR.out.2.2⟩
theorem BU{ls:List (List Tm)}{i:Nat}{l:List Tm}(h:(dy ls m t)[i]?=MI l)(hx:x∈l):(x=t/\aG t.1 m=(i:Int))\/∃l',ls[i]?=MI l'/\x∈l':=by
 have hp:=@kl t.1 m;obtain⟨j,hj⟩:∃j:Nat,aG t.1 m=(j:Int):=⟨(aG t.1 m).toNat,by omega⟩;rw[mO ls m t j hj]at h
 by_cases hij:i=j
 ·subst hij
  by_cases hl:i<ls.length
  ·rw[N7 hl]at h
   rw[<-NC h]at hx;rcases qP.1 hx with rfl|hx
   ·exact Nt ⟨rfl,hj⟩
   ·exact NF ⟨_,by simp[Pq,MR hl],hx⟩
  ·rw[Nz (by rw[NA];omega)]at h
   cases h
 ·rw[N3 (Pi hij)]at h
  exact NF ⟨l,h,hx⟩
theorem AR{i:Nat}(a:List Tm):∀ {ls:List (List Tm)} {l:List Tm},(gj ls m a)[i]?=MI l->x∈l->(x∈a/\aG x.1 m=(i:Int))\/∃l',ls[i]?=MI l'/\x∈l':=by
 induction a with
 |nil=>intro ls l h hx;exact NF ⟨l,h,hx⟩
 |cons t a ih =>
  intro ls l h hx;rcases ih (ls:=dy ls m t) h hx with⟨h1,h2⟩|⟨l',h1,h2⟩
  ·exact Nt ⟨NB _ h1,h2⟩
  ·rcases BU h1 h2 with⟨rfl,h3⟩|h3
   ·exact Nt ⟨NM ..,h3⟩
   ·exact NF h3
theorem qx{ls:List (List Tm)}{i:Nat}{l:List Tm}(h:(gH ls m p)[i]?=MI l)(hx:x∈l):aG x.1 m=(i:Int)\/(i≠p/\∃l',ls[i]?=MI l'/\x∈l'):=by
 rcases AR _ h hx with⟨_,h2⟩|⟨l',h1,h2⟩
 ·exact Nt h2
 ·by_cases hip:i=p
  ·subst hip
   by_cases hl:i<ls.length
   ·rw[N7 hl]at h1
    rw[<-NC h1]at h2;cases h2
   ·rw[Nz (by rw[NA];omega)]at h1
    cases h1
  ·rw[N3 (Pi hip)]at h1
   exact NF ⟨hip,l',h1,h2⟩
theorem Bp{at' now:Int}(h0:0<=now)(h1:now<at')(h2:at'<=now+500):aG at' (now+1)=aG at' now\/((now+1) % 8=0/\aG at' now=8+(now+1) / 8 % 8)\/((now+1) % 64=0/\aG at' now=16+(now+1) / 64 % 8)\/((now+1) % 512=0/\aG at' now=24):=by
 unfold aG
 by_cases a1:at' / 8=now / 8
 ·rw[Nh a1,Nh (by omega)];exact Nt rfl
 ·rw[Nf a1]
  by_cases a2:at' / 64=now / 64
  ·rw[Nh a2]
   by_cases b1:at' / 8=(now+1) / 8
   ·right;left;constructor <;> omega
   ·rw[Nf b1,Nh (by omega)];exact Nt rfl
  ·rw[Nf a2]
   by_cases a3:at' / 512=now / 512
   ·rw[Nh a3]
    by_cases b2:at' / 64=(now+1) / 64
    ·right;right;left;constructor <;> omega
    ·rw[Nf (by omega),Nf b2,Nh (by omega)];exact Nt rfl
   ·rw[Nf a3]
    by_cases b3:at' / 512=(now+1) / 512
    ·right;right;right;constructor <;> omega
    ·rw[Nf (by omega),Nf (by omega),Nf b3];exact Nt rfl
theorem Eb(n m:Int):dl n m=Nw↔n % m=0:=by unfold dl;simp
theorem nQ{now:Int}{ls:List (List Tm)}(h:Ok now ls)(h0:0<=now):∀(i:Nat) (l:List Tm),(bc ls (now+1))[i]?=MI l->∀t∈l,aG t.1 (now+1)=(i:Int):=by
 obtain⟨m,hm⟩:∃m,m=now+1:=⟨_,rfl⟩;have p0:∀(i:Nat) (l:List Tm),ls[i]?=MI l->∀t∈l,aG t.1 m=(i:Int)\/(dl m 8=Nw/\i=iq m)\/(dl m 64=Nw/\i=gG m)\/(dl m 512=Nw/\i=24):=fun i l hl t ht=>by
  have hf:=h.fit i l hl t ht;have hb:=(jk now t).1 hf.1;have hs:=Bp h0 hb.1 hb.2.1;rw[hf.2,<-hm]at hs;simp only[Eb];unfold iq gG;rcases hs with hs|hs|hs|hs
  ·exact Nt hs
  ·exact NF (Nt ⟨hs.1,by omega⟩)
  ·exact NF (NF (Nt ⟨hs.1,by omega⟩))
  ·exact NF (NF (NF ⟨hs.1,by omega⟩))
 have p1:∀(i:Nat) (l:List Tm),(ez ls m)[i]?=MI l->∀t∈l,aG t.1 m=(i:Int)\/(dl m 64=Nw/\i=gG m)\/(dl m 512=Nw/\i=24):=fun i l hl t ht=>by
  unfold ez at hl
  split at hl
  ·rcases qx hl ht with h1|⟨h1,l',h2,h3⟩
   ·exact Nt h1
   ·rcases p0 i l' h2 t h3 with h4|h4|h4
    ·exact Nt h4
    ·exact absurd h4.2 h1
    ·exact NF h4
  ·rename_i hnb
   rcases p0 i l hl t ht with h4|h4|h4
   ·exact Nt h4
   ·exact absurd h4.1 hnb
   ·exact NF h4
 have p2:∀(i:Nat) (l:List Tm),(en ls m)[i]?=MI l->∀t∈l,aG t.1 m=(i:Int)\/(dl m 512=Nw/\i=24):=fun i l hl t ht=>by
  unfold en at hl
  split at hl
  ·rcases qx hl ht with h1|⟨h1,l',h2,h3⟩
   ·exact Nt h1
   ·rcases p1 i l' h2 t h3 with h4|h4|h4
    ·exact Nt h4
    ·exact absurd h4.2 h1
    ·exact NF h4
  ·rename_i hnb
   rcases p1 i l hl t ht with h4|h4|h4
   ·exact Nt h4
   ·exact absurd h4.1 hnb
   ·exact NF h4
 rw[<-hm];intro i l hl t ht;unfold bc at hl
 split at hl
 ·rcases qx hl ht with h1|⟨h1,l',h2,h3⟩
  ·exact h1
  ·rcases p2 i l' h2 t h3 with h4|h4
   ·exact h4
   ·exact absurd h4.2 h1
 ·rename_i hnb
  rcases p2 i l hl t ht with h4|h4
  ·exact h4
  ·exact absurd h4.1 hnb
theorem mm{ls:List (List Tm)}(h:aX ls)(m:Int):(bc ls m).flatten.Perm ls.flatten:=by
 have h0:(ez ls m).flatten.Perm ls.flatten:=by
  unfold ez
  split
  ·exact mQ h.srt.len m (pF m)
  ·exact .refl _
 have h1:(en ls m).flatten.Perm ls.flatten:=by
  unfold en
  split
  ·exact(mQ (h.Hm m).srt.len m (pi m)).trans h0
  ·exact h0
 unfold bc
 split
 ·exact(mQ (h.Hs m).srt.len m (by omega)).trans h1
 ·exact h1
theorem lF(m:Int):(m % 8).toNat<25:=by omega
theorem oC{x:Int}(h0:0<=m)(h1:m<=x):aG x m=m % 8↔x=m:=by
 constructor
 ·intro h
  unfold aG at h
  split at h
  ·omega
  ·split at h
   ·omega
   ·split at h
    ·omega
    ·omega
 ·rintro rfl
  unfold aG;rw[Nh rfl]
theorem vB{now:Int}{ls:List (List Tm)}(h:Ok now ls)(h0:0<=now)(hG:aX ls):∀x,x∈(bc ls (now+1)).getD ((now+1) % 8).toNat []↔x∈ls.flatten/\x.1=now+1:=by
 intro x;have hlen:=(hG.GR (now+1)).srt.len;have hl:(bc ls (now+1))[((now+1) % 8).toNat]?=MI ((bc ls (now+1)).getD ((now+1) % 8).toNat []):=by
  simp[Pq,MR (show((now+1) % 8).toNat<(bc ls (now+1)).length by rw[hlen];exact lF _)]
 have hpm:=mm hG (now+1);have hlow:∀t∈ls.flatten,now+1<=t.1:=fun t ht=>by
  obtain⟨l,hl,htl⟩:=List.mem_flatten.1 ht;obtain⟨i,hi,rfl⟩:=NV hl;have:=(jk now t).1 (h.fit i _ (MR hi) t htl).1;omega
 constructor
 ·intro hx
  have hm:x∈ls.flatten:=hpm.mem_iff.1 (List.mem_flatten.2 ⟨_,Nu hl,hx⟩);have hp:=nQ h h0 _ _ hl x hx;exact⟨hm,(oC (by omega) (hlow x hm)).1 (by rw[hp];omega)⟩
 ·rintro⟨hx,he⟩
  obtain⟨l,hl2,hxl⟩:=List.mem_flatten.1 (hpm.mem_iff.2 hx);obtain⟨i,hi,rfl⟩:=NV hl2;have hp:=nQ h h0 i _ (MR hi) x hxl;have hps:=(oC (by omega) (hlow x hx)).2 he;have hii:i=((now+1) % 8).toNat:=by omega
  subst hii;rw[MR hi]at hl;rw[<-NC hl];exact hxl
theorem A8{now:Int}{ls:List (List Tm)}(h:cQ now ls)(hlt:now<1099511627776)(hG:aX ls):cQ (now+1) ((bc ls (now+1)).set ((now+1) % 8).toNat []):=by
 have h0:=h.1.1;have hG2:=hG.GR (now+1);have hl:(bc ls (now+1))[((now+1) % 8).toNat]?=MI ((bc ls (now+1)).getD ((now+1) % 8).toNat []):=by
  simp[Pq,MR (show((now+1) % 8).toNat<(bc ls (now+1)).length by rw[hG2.srt.len];exact lF _)]
 have hS:=hG2.srt.Gc hl;refine⟨by omega,hS.len,fun i l hil t ht=>?_,hS.ord,hS.ids⟩
 by_cases hi:i=((now+1) % 8).toNat
 ·subst hi
  rw[N7 (by rw[hG2.srt.len];exact lF _)]at hil;rw[<-NC hil]at ht;cases ht
 ·rw[N3 (Pi hi)]at hil
  have hp:=nQ h.2 h0 i l hil t ht;have hm:t∈ls.flatten:=(mm hG (now+1)).mem_iff.1 (List.mem_flatten.2 ⟨l,Nu hil,ht⟩);obtain⟨l2,hl2,htl⟩:=List.mem_flatten.1 hm;obtain⟨j,hj,rfl⟩:=NV hl2;have hf:=(jk now t).1 (h.2.fit j _ (MR hj) t htl).1;refine⟨(jk _ _).2 ⟨?_,by omega,hf.2.2.1,hf.2.2.2⟩,hp⟩;have hne:t.1≠now+1:=fun e=>by
   have:=(oC (show 0<=now+1 by omega) (by omega)).2 e;omega
  omega
theorem zt{now:Int}{ls:List (List Tm)}(h:Ok now ls)(t x:Tm):x∈(dy ls now t).flatten↔x=t\/x∈ls.flatten:=by
 rw[(qA h.len now t).mem_iff,OO]
theorem xk{now:Int}{ls:List (List Tm)}(h:cQ now ls)(hG:aX ls)(x:Tm):x∈((bc ls (now+1)).set ((now+1) % 8).toNat []).flatten↔x∈ls.flatten/\x.1≠now+1:=by
 have hl:(bc ls (now+1))[((now+1) % 8).toNat]?=MI ((bc ls (now+1)).getD ((now+1) % 8).toNat []):=by
  simp[Pq,MR (show((now+1) % 8).toNat<(bc ls (now+1)).length by rw[(hG.GR (now+1)).srt.len];exact lF _)]
 have hpm:=(jq hl).trans (mm hG (now+1));have hoff:=vB h.2 h.1.1 hG x;have hnd:((bc ls (now+1)).flatten.map (·.2)).Nodup:=(hG.GR (now+1)).srt.ids;have hdis:x∈(bc ls (now+1)).getD ((now+1) % 8).toNat []->¬x∈((bc ls (now+1)).set ((now+1) % 8).toNat []).flatten:=fun h1 h2=>by
  have hn:=((jq hl).map (·.2)).nodup_iff.2 hnd;rw[OI,Qv]at hn;exact hn.2.2 x.2 (List.mem_map.2 ⟨x,h1,rfl⟩) x.2 (List.mem_map.2 ⟨x,h2,rfl⟩) rfl
 constructor
 ·intro hx
  refine⟨hpm.mem_iff.1 (Qq _ hx),fun e=>?_⟩;exact hdis (hoff.2 ⟨hpm.mem_iff.1 (Qq _ hx),e⟩) hx
 ·rintro⟨hx,hne⟩
  rcases List.mem_append.1 (hpm.mem_iff.2 hx)with h1|h1
  ·exact absurd (hoff.1 h1).2 hne
  ·exact h1
theorem ac.old{w0 wr:MO}{base T B M n0 n:Nat}{now now0:Int}{vs:List M7}{ls0 ls:List (List Tm)}{f0 f:Int->Option Int}(h0:ac w0 base T B M n0 now0 vs ls0 f0)(h:ac wr base T B M n now vs ls f)(hk:∀g,g<w0.heap.size->w'.heap[g]?=wr.heap[g]?):ac w' base T B M n now vs ls f:=by
 have hT0:=(Array.getElem?_eq_some_iff.1 h0.box).1;have hlen:vs.length=25:=by rw[h0.own.each.1,h0.len]
 refine⟨(hk T hT0).trans h.box,⟨aw h.own.row fun g hg=>hk g (h0.own.row.lt g hg).2,⟨h.own.each.1,fun i h1 h2=>?_⟩,h.own.apart⟩,h.map.Gf (hk M h0.map.lt),h.offT,h.offM,h.hT,h.hM,h.hTM,h.len⟩;exact aw (h.own.each.2 i h1 h2) fun g hg=>hk g ((h0.own.each.2 i h1 (by rw[<-h0.own.each.1];exact h1)).lt g hg).2
theorem ep.IX{w:MO}{n:Nat}{f:Int->Option Int}(h:ep w b n f){id:Int}(hid:(N6 ME id).wf=Nw)(ty:NU):
  ∃w' f',(Builtin.delete_ #[273,3] ty #[P0 (MI b),MF ME id]).run MK w=.ok (Nv #[]) w'/\ep w' b n f'/\w.grownBy w' (MI b):=by
 obtain⟨D,hown,hf⟩:=h;obtain⟨w',hr,ho,hg⟩:=hown.drop lY Va (Qg Ol hid) ty;obtain⟨es,clock,es',clock',hb,rfl⟩:=hg;refine⟨_,fun k=>if k=id then MH else f k,hr,⟨_,ho,fun k hk=>?_⟩,⟨rfl,rfl,rfl,by simp[Go.ChangeMaps.setBlock],fun i _ hi=>Go.ChangeMaps.heap_setBlock_other hb _ (fun e=>hi (by rw[e]))⟩⟩
 dsimp only
 by_cases e:k=id
 ·subst e
  rw[Nh rfl];exact⟨Maps.has_del_same,fun y hy=>by cases hy⟩
 ·rw[Nf e]
  have hne:N6 ME k≠N6 ME id:=fun h=>e (by cases h;rfl)
  rw[Maps.has_del_other hne,Maps.atKey_del_other hne];exact hf k hk
theorem ac.II{w:MO}{base T B M n:Nat}{now:Int}{vs:List M7}{ls:List (List Tm)}{f f':Int->Option Int}(h:ac w base T B M n now vs ls f)(hm:ep w' M n f')(hg:w.grownBy w' (MI M)):ac w' base T B M n now vs ls f':=by
 refine⟨(hg.block T (Array.getElem?_eq_some_iff.1 h.box).1 (fun e=>h.hTM (NC e))).trans h.box,h.own.If hg fun u hu g hg' e=>?_,hm,h.offT,h.offM,h.hT,h.hM,h.hTM,h.len⟩;exact h.offM u hu (by rw[hg',NC e])
def gm(l:List Tm):List Value:=l.map fun t=>MF ME t.2
theorem Fi(m:Int)(h:0<=m):aG m m=m % 8:=by unfold aG;rw[Nh rfl]
theorem E0(base T B M n:Nat)(m:Int)(vs:List M7)(ls:List (List Tm))(f:Int->Option Int)(p:Nat)(L:List Tm)(w:MO)(hB:aK w)(hT:ac w base T B M n m vs ls f)(hb0:0<base)(hbase:base<=w.heap.size)(hn:0<=m)(hn2:m<=1099511627776)
  (hp:m % 8=(p:Int)) (hL:ls[p]?=MI L) (hLb:∀t∈L,(N6 ME t.2).wf=Nw) (hLl:L.length<=1048576) :
  Ni MK 198 #[Na (MI ⟨T,0,MH⟩)] w fun r w'=>∃v vs' f',r=MN v/\w'.ownsRow w.heap.size 3 1 v L.length (gm L)/\ac w' base T B M n m vs' (ls.set p []) f'/\MQ base w w':=by
 obtain⟨i0,hi,hz0,hz1,hz2⟩:=OF jE;obtain⟨t0,t1,t2,tlt⟩:=cF hT.box;have hp25:p<25:=by omega
 have hpl:p<ls.length:=by rw[hT.len];exact hp25
 obtain⟨u,hu,hown⟩:=ky hT.own p hpl;have hlc:=kq hT.own hT.len p hpl u hu;have hLp:ls[p]=L:=by rw[MR hpl]at hL;exact NC hL
 rw[hLp]at hown;have hBlt:=(hT.own.row.lt B rfl).2;have hBb:=(hT.own.row.lt B rfl).1;have HPl:M6 (∀q,Ni MK 235 #[MF ME m,MF ME m] (w.drewN q) fun e w'=>e=MN (MF ME (p:Int))/\∃k,w'=(w.drewN q).drewN k):=fun q=>by
  rw[<-hp,<-Fi m hn];exact qo m m _ (hB.IQ q) hn (by omega) hn (by omega)
 obtain⟨up,uc,rfl⟩:=cR hown;have hread:=bP hown;have HX:M6 (_/\_/\_/\_/\_/\_):=⟨hT,hread,hLb,hu,hown,hLp⟩;have hpI:(p:Int)<25:=by omega
 clear hT hread hLb hu hown hL hLp hp hB;go_enter TZ,TT
 go_wp2_with fail
 go_quiet ((go_at_call 235;exact Qe (HPl.out _)))
 go_wp2
 go_loopw [4,27] (fun off i wr=>∃(k:Nat) (f':Int->Option Int),i=MF ME k/\k<=L.length/\wr.ownsRow w.heap.size 3 1 off k (gm (L.take k))/\ac wr base T B M n m vs ls f'/\MQ base w wr/\w.heap.size<=wr.heap.size) (fun _ i _=>L.length-(On i).toNat)
 case atStart=>exact⟨0,f,rfl,Nx _,NY _ _ _ _,HX.out.1.below (pM (MY _ _) nq),pM (MY _ _) nq,MV _⟩
 case round =>
  obtain⟨k,f',rfl,hk,hoff,hT,hbr,hsz⟩:=hrel
  by_cases hlt:k<L.length
  ·obtain⟨u2,hu2,ho2⟩:=ky hT.own p hpl
   rw[HX.out.2.2.2.1]at hu2;obtain rfl:=NC hu2;rw[HX.out.2.2.2.2.2]at ho2;obtain⟨g,c',hform,hbg,hgl⟩:=ho2.form (by omega);simp only[N4]at hform;obtain⟨rfl,_,rfl⟩:=hform;have f1:=fi L k hlt;rw[<-ho2.cellAt _ (by omega),<-ho2.cellAt _ (by omega)]at f1;obtain⟨ta,hta⟩:∃ta,L[k].1=ta:=⟨_,rfl⟩;obtain⟨td,htd⟩:∃td,L[k].2=td:=⟨_,rfl⟩;rw[hta,htd]at f1;obtain⟨e1,e2⟩:=f1;have hid:(N6 ME td).wf=true:=by rw[<-htd];exact HX.out.2.2.1 _ (Nk hlt)
   have hcell:gm (L.take (k+1))=gm (L.take k)++[MF ME td]:=by
    rw[M9 hlt,<-htd];unfold gm;rw[OI];rfl
   have hk2:(k:Int)<(L.length:Int):=by omega
   have HN:M6 (∀j y,[MF ME td][j]?=MI y->((wr.alloc (MP #[MF ME ta,MF ME td] 187)).alloc (MP #[MF ME td] 3)).cell? ((⟨wr.heap.size+1,0,MH⟩:Oc).add j)=MI y):=by
    have h:=iV (wr.alloc (MP #[MF ME ta,MF ME td] 187)) [MF ME td] 3;have hs:(wr.alloc (MP #[MF ME ta,MF ME td] 187)).heap.size=wr.heap.size+1:=by simp
    rw[hs]at h;exact h
   have HR:M6 (_/\_/\_/\_/\_):=⟨hoff,hT,hbr,hcell,hsz⟩;clear hoff hT hbr hcell ho2 hta htd
   go_wp2_with (first|(at_builtin;refine O9 _ rfl _ _ 71 rfl w.heap.size 3 i0 _ 1 8 Tryz.underlying71 hi hz0 hz1 hz2 rfl (by decide) u4 k _ rfl ((HR.out.1.alloc _).alloc _) _ 1 1 [MF ME td] rfl rfl HN.out (by intro y hy;rw[List.mem_singleton.1 hy];rfl) (by decide) (by unfold NE;omega) (by omega) (by simp;omega) _ rfl ?_;intro g' cap w2 hown2 hg2 hlies hlt2))
   have hb2:∀q,q<w.heap.size->w2.heap[q]?=wr.heap[q]?:=fun q hq=>by
    rw[hg2.block q (by simp;omega) (fun e=>by have:=(HR.out.1.lt q e.symm).1;omega)];exact(((MY _ wr).alloc (MV _) _).alloc (by simp) _).block q (by omega)
   have hK:w2.cell? ⟨wr.heap.size,1,MH⟩=MI (MF ME td):=by
    have h1:w2.heap[wr.heap.size]?=MI (MP #[MF ME ta,MF ME td] 187 (0,0)):=by
     rw[hg2.block wr.heap.size (by simp;omega) (fun e=>by have:=(HR.out.1.lt _ e.symm).2;omega)];exact aN _ _ (M1 _ _)
    simp[Nl,h1]
   have hKl:wr.heap.size<w2.heap.size:=MX w2 ⟨wr.heap.size,1,MH⟩ hK;have hszr:=HR.out.2.2.2.2;have hT2:=HX.out.1.old HR.out.2.1 hb2;have hT2':ac w2.drew base T B M n m vs ls f':=hT2.Gf fun _ _ _=>rfl
   obtain⟨c0,c1,c2,clt⟩:=cF hT2.box;obtain⟨w3,f3,hr3,hm3,hg3⟩:=hT2'.map.IX hid 0;have hT3:=hT2'.II hm3 hg3;have hown3:w3.ownsRow w.heap.size 3 1 (MG (MI ⟨g',0,MH⟩) (k+1) cap) (k+1) (gm (L.take (k+1))):=by
    rw[HR.out.2.2.2.1];refine aw hown2 fun q hq=>?_
    rw[hg3.block q (hown2.lt q hq).2 (fun e=>by have:=(hown2.lt q hq).1;have:=HX.out.1.map.lt;have:=NC e;omega)];rfl
   have hbw3:MQ base w w3:=by
    refine⟨hg3.os.trans (hg2.os.trans HR.out.2.2.1.os),hg3.tape.trans (hg2.tape.trans HR.out.2.2.1.tape),hg3.output.trans (hg2.output.trans HR.out.2.2.1.output),Nm HR.out.2.2.1.size (Nm (show wr.heap.size<=w2.heap.size by omega) hg3.size),fun q hq=>?_⟩;rw[hg3.block q (by show q<w2.heap.size;omega) (fun e=>by have:=HX.out.1.hM;have:=NC e;omega)];exact(hb2 q (by omega)).trans (HR.out.2.2.1.block q hq)
   have HZ:M6 (_/\_/\_/\_):=⟨hown3,hT3,hbw3,Nm (show w.heap.size<=w2.heap.size by omega) hg3.size⟩;clear hown3 hT3 hbw3 hm3 hg3 hT2 hT2' hb2 hown2 hg2 hlies e1 e2
   go_region
   go_wp2
   go_roundw
   case rel=>exact⟨k+1,f3,by simp,hlt,HZ.out.1,HZ.out.2.1,HZ.out.2.2.1,HZ.out.2.2.2⟩
   case measure=>simp[On];omega
  ·obtain rfl:k=L.length:=by omega
   rw[NT]at hoff;obtain⟨c0,c1,c2,clt⟩:=cF hT.box;have hc5:=kq hT.own hT.len p hpl _ HX.out.2.2.2.1;have hfz:wr.frozen? ⟨B,p,MH⟩=false:=by
    have h25:=hT.own.row;rw[hT.len]at h25;exact h25.frozenAt p
   have hcl:=hT.Gc hp25 HX.out.2.2.2.1;have hoffB:∀g,u4.ownBlock=MI g->g≠B:=fun g hg e=>by have:=(hoff.lt g hg).1;omega
   have HR:M6 (_/\_/\_/\_):=⟨hoff,hcl,hbr,hoffB⟩;clear hoff hT hcl hbr hoffB;go_wp2;go_ret;refine⟨_,_,f',rfl,aw HR.out.1 fun g hg=>MU _ _ _ _ (HR.out.2.2.2 g hg),HR.out.2.1.1,HR.out.2.2.1.setCell hBb _⟩
theorem Ok.good{now:Int}{ls:List (List Tm)}(h:Ok now ls)(hn:0<=now)(ht:ls.flatten.length<=1048576):aX ls:=by
 refine⟨h.srt,fun t htm=>?_,ht⟩;obtain⟨l,hl,htl⟩:=List.mem_flatten.1 htm;obtain⟨i,hi,rfl⟩:=NV hl;exact kK (h.fit i _ (MR hi) t htl).1 hn
def dN(m:Int):Nat:=(m % 8).toNat
theorem FE(v:M7)(now:Int)(ls:List (List Tm))(w:MO)(hB:aK w)(hx:dh w v ls)(htot:ls.flatten.length<=1048576)(hm:cQ now ls) :
  Ni MK 151 #[Ny #[MF ME now,v]] w fun r w'=>MQ w.heap.size w w' /\
   ((now=1099511627776/\r=MN (Nv #[Ny #[MF ME 0,MG MH 0 0],MG MH 0 0,MF ME 9])) \/
     (now<1099511627776/\∃u vs x,r=MN (Nv #[Ny #[MF ME (now+1),u],x,MF ME 0])/\ar w' w.heap.size u vs ((bc ls (now+1)).set (dN (now+1)) []) /\
      w'.ownsRow w.heap.size 3 1 x ((bc ls (now+1)).getD (dN (now+1)) []).length (gm ((bc ls (now+1)).getD (dN (now+1)) [])))):=by
 obtain⟨a,ca,rfl,_⟩:=hx.F6;have hlen:∀l∈ls,l.length<=1048576:=fun l hl=>Nm (i7 hl) htot
 have hb0:∀W,MQ w.heap.size w W->aK W/\dh W (MG a ls.length ca) ls:=fun W h=>⟨hB.below h,hx.below h⟩
 have hG:=hm.2.good hm.1.1 htot;have HX:M6 (_/\_/\_/\_):=⟨hb0,hlen,hm,hG⟩;have hblt:=hB.lt;obtain⟨hn,hn2⟩:=hm.1;clear hb0 hlen hm hx hB hG;go_enter Tryz.func151,Tryz.ntmps151
 go_wp2_with fail
 have hbw:MQ w.heap.size w ((w.alloc (MP #[MF ME now,MG a ls.length ca] 52)).alloc (MP #[MF ME 0,MG MH 0 0] 52)):=((MY _ _).alloc (MV _) _).alloc (by simp) _;refine(pD _ now ls _ (HX.out.1 _ hbw).1 (HX.out.1 _ hbw).2 HX.out.2.1).mono ?_;rintro r w1 ⟨hb1,⟨_,T,B,M,n,vs,f,rfl,hT,hF,hnn⟩|⟨h1,_⟩⟩
 ·have hR:w1.heap[w.heap.size+1]?=MI (MP #[MF ME 0,MG MH 0 0] 52 (0,0)):=(hb1.block _ (by simp)).trans (bV _ _ _)
  have hbw1:=hbw.trans (hb1.mono hbw.size);rw[show((w.alloc (MP #[MF ME now,MG a ls.length ca] 52)).alloc (MP #[MF ME 0,MG MH 0 0] 52)).heap.size+2=w.heap.size+4 by simp]at hT;obtain⟨w2,hw2⟩:∃w2,w2=w1.alloc (MP #[MF ME now,MG (MI ⟨B,0,MH⟩) 25 25,P0 (MI M)] 275):=⟨_,rfl⟩;have hb2:MQ w1.heap.size w1 w2:=by rw[hw2];exact(MY _ _).alloc (MV _) _
  have hT2:ac w2 (w.heap.size+4) w1.heap.size B M n now vs ls f:=by rw[hw2];exact hT.Iu
  have hR2:=(hb2.block _ (Array.getElem?_eq_some_iff.1 hR).1).trans hR;have hbw2:=hbw1.trans (hb2.mono hbw1.size);have hTs:=hT2.hT;have hTl:=(Array.getElem?_eq_some_iff.1 hT2.box).1;have hlt1:=(Array.getElem?_eq_some_iff.1 hR).1;have hlt3:w.heap.size<w1.heap.size:=by omega
  obtain⟨c0,c1,f0,f1,hlt⟩:=au hR;have HT:M6 (_/\_/\_/\_/\_):=⟨hT2,hnn,hR2,hbw2,hw2⟩;have HQ:M6 (_/\_):=⟨hR,hbw1⟩;clear hR hb1 hbw hT hF hnn hb2 hT2 hR2 hbw2 hbw1 hw2
  by_cases hfull:now=1099511627776
  ·subst hfull
   go_wp2;have hf:=aN _ (MP #[MF ME 1099511627776,MG (MI ⟨B,0,MH⟩) 25 25,P0 (MI M)] 275) (iw (c:=MF ME 0) (d:=MG MH 0 0) HQ.out.1);obtain⟨g0,g1,_⟩:=au hf;refine Np (v:=Nv #[Ny #[MF ME 0,MG MH 0 0],MG MH 0 0,MF ME 9]) (by simp[Pf,R8,go_sem,g0,g1]) rfl ⟨?_,by first|exact .inl ⟨rfl,rfl⟩|rfl⟩;have h1:=((HQ.out.2.setCell (p:=⟨w.heap.size+1,0,MH⟩) (by simp) (MF ME 0)).setCell (p:=⟨w.heap.size+1,1,MH⟩) (by simp) (MG MH 0 0));exact h1.alloc h1.size _
  ·have hne:(now == 1099511627776)=false:=by simp;exact hfull
   have hlt9:now<1099511627776:=by omega
   clear hfull
   go_wp2_with fail
   rw[<-HT.out.2.2.2.2];refine(zy (w.heap.size+4) w1.heap.size B M n now vs ls f w2 (HX.out.1 _ HT.out.2.2.2.1).1 HT.out.1 (by omega) (by omega) hn hlt9 HX.out.2.2.2 HT.out.2.1).mono ?_;rintro r w3 ⟨rfl,vs3,n3,f3,hT3,hn3,hb3⟩;obtain⟨m,hm⟩:∃m,m=now+1:=⟨_,rfl⟩;rw[<-hm]at hT3;have hm8:m % 8=(dN m:Int):=by unfold dN;omega
   have hG3:=HX.out.2.2.2.GR m;have hp25:dN m<25:=by unfold dN;omega
   have hl:(bc ls m)[dN m]?=MI ((bc ls m).getD (dN m) []):=by simp[Pq,MR (show dN m<(bc ls m).length by rw[hG3.srt.len];exact hp25)]
   have hB3:aK w3:=(HX.out.1 _ HT.out.2.2.2.1).1.Gf (hb3.block 0 (by omega));have hs3:=hb3.size;have HG:=E0 (w.heap.size+4) w1.heap.size B M n3 m vs3 (bc ls m) f3 (dN m) _ w3 hB3 hT3 (by omega) (by omega) (by omega) (by omega) hm8 hl (fun t ht=>(hG3.bnd t (List.mem_flatten.2 ⟨_,Nu hl,ht⟩)).2.2) (Nm (i7 (Nu hl)) hG3.tot);have HZ:M6 (_/\_/\_):=⟨HG,hb3,hm⟩;clear HG hb3 hm hT3 hn3 hB3 hl hG3 hm8 hp25
   go_wp2_with fail
   refine HZ.out.1.mono ?_;rintro r w4 ⟨x,vs4,f4,rfl,hx4,hT4,hb4⟩;have hR4:=(hb4.block (w.heap.size+1) (by omega)).trans ((HZ.out.2.1.block (w.heap.size+1) (by omega)).trans HT.out.2.2.1);obtain⟨d0,d1,y0,y1,dlt⟩:=au hR4;obtain⟨q0,q1,q2,q3⟩:=cF hT4.box;obtain⟨xp,xc,rfl⟩:=cR hx4;have hbw4:MQ w.heap.size w w4:=(HT.out.2.2.2.1.trans (HZ.out.2.1.mono (by omega))).trans (hb4.mono (by omega));have HY:M6 (_/\_/\_/\_):=⟨hR4,hT4,hbw4,hx4⟩;clear hR4 hT4 hbw4 hx4 hb4 c0 c1 f0 f1;go_wp2;obtain⟨g0,g1⟩:=jC (c:=MF ME m) (d:=MG (MI ⟨B,0,MH⟩) 25 25) HY.out.1;refine Np (v:=Nv #[Ny #[MF ME m,MG (MI ⟨B,0,MH⟩) 25 25],MG xp ((bc ls m).getD (dN m) []).length xc,MF ME 0]) (by simp[Pf,R8,go_sem,g0,g1]) rfl ⟨?_,NF ⟨hlt9,MG (MI ⟨B,0,MH⟩) 25 25,vs4,MG xp ((bc ls m).getD (dN m) []).length xc,?_,?_,?_⟩⟩
   ·exact((HY.out.2.2.1.setCell (p:=⟨w.heap.size+1,0,MH⟩) (by simp) _).setCell (p:=⟨w.heap.size+1,1,MH⟩) (by simp) _)
   ·rw[<-HZ.out.2.2]
   ·rw[<-HZ.out.2.2]
    exact(HY.out.2.1.own.Hh (g:=w.heap.size+1) (by omega) _ _).GV (by omega)
   ·rw[<-HZ.out.2.2]
    refine aw (HY.out.2.2.2.mono (by omega)) fun g hg=>?_
    have:=(HY.out.2.2.2.lt g hg).1;rw[MU _ _ _ _ (by simp;omega),MU _ _ _ _ (by simp;omega)]
 ·exact absurd HX.out.2.2.1 h1
theorem qC:∀(k:Nat) (l:List Int),l.Nodup->(∀x∈l,0<=x/\x<(k:Int))->l.length<=k
 |0,l,_,h=>by
  cases l with
  |nil=>exact MV _
  |cons a l=>have:=h a (NM ..);omega
 |k+1,l,hn,h=>by
  by_cases hk:(k:Int)∈l
  ·have h1:=qC k (l.erase (k:Int)) (hn.erase _) fun x hx=>by
    have hm:=(hn.mem_erase_iff).1 hx;have:=h x hm.2;have h3:=hm.1;omega
   have h2:=List.length_erase_of_mem hk;have h3:=Qj hk;omega
  ·have h1:=qC k l hn fun x hx=>by
    have:=h x hx;have h3:x≠(k:Int):=fun e=>hk (e ▸ hx)
    omega
   omega
theorem Ok.I5{now:Int}{ls:List (List Tm)}(h:Ok now ls)(ht:t∈ls.flatten):cW now t=true:=by
 obtain⟨l,hl,htl⟩:=List.mem_flatten.1 ht;obtain⟨i,hi,rfl⟩:=NV hl;exact(h.fit i _ (MR hi) t htl).1
theorem Ok.Hr{now:Int}{ls:List (List Tm)}(h:Ok now ls):ls.flatten.length<=200:=by
 have h1:=qC 200 _ h.ids fun x hx=>by
  obtain⟨t,ht,rfl⟩:=List.mem_map.1 hx;have:=(jk now t).1 (h.I5 ht);omega
 rwa[N0]at h1
theorem Ok.Ia{now:Int}{ls:List (List Tm)}(h:Ok now ls):ls.flatten.length<=1048576:=Nm h.Hr (by omega)
theorem uO{w:MO}{base:Nat}{v:M7}{vs:List M7}{ls:List (List Tm)}(h:ar w base v vs ls){n:Nat}(hn:ls.length=n):∃p c,v=MG p n c:=by
 obtain⟨p,c,rfl⟩:=cR h.row;exact⟨p,c,by rw[hn]⟩
def jI(w:MO)(base:Nat)(p:Option Oc)(c:Nat)(ls:List (List Tm)):Prop:=∃vs,ar w base (MG p 25 c) vs ls
theorem jI.GV{w:MO}{base c:Nat}{p:Option Oc}{ls:List (List Tm)}(h:jI w base p c ls)(hb:b<=base):jI w b p c ls:=h.elim fun vs h=>⟨vs,h.GV hb⟩
theorem DU(v:M7)(now id x:Int)(ls:List (List Tm))(w:MO)(hB:aK w)(hx:dh w v ls)(hm:cQ now ls)(hf:cW now (x,id)=Nw)(hn:∀t∈ls.flatten,t.2≠id) :
  Ni MK 164 #[Ny #[MF ME now,v],MF ME id,MF ME x] w fun r w'=>∃p c,r=MN (Nv #[Ny #[MF ME now,MG p 25 c],MF ME 0])/\jI w' w.heap.size p c (dy ls now (x,id))/\cQ now (dy ls now (x,id))/\MQ w.heap.size w w':=by
 have hm2:=hm.ID hf hn;refine(BQ v now id x ls w hB hx (fun l hl=>Nm (i7 hl) hm.2.Ia) hm (kK hf hm.1.1).2.2).mono ?_;rintro r w' ⟨hb,⟨h1,_⟩|⟨_,h1,_⟩|⟨_,_,u,vs,rfl,hown⟩⟩
 ·rw[hf]at h1;cases h1
 ·exact absurd hn h1
 ·obtain⟨p,c,rfl⟩:=uO hown hm2.2.len
  exact⟨p,c,rfl,⟨_,hown⟩,hm2,hb⟩
structure dX(now:Int)(ls ms:List (List Tm))(L:List Tm):Prop where
 may:cQ (now+1) ms
 left:∀t,t∈ms.flatten↔t∈ls.flatten/\t.1≠now+1
 off:∀t,t∈L↔t∈ls.flatten/\t.1=now+1
 ord:L.Pairwise (fun a b=>ax a b<0)
 len:L.length<=200
theorem ze{now:Int}{ls:List (List Tm)}(hm:cQ now ls)(hlt:now<1099511627776):dX now ls ((bc ls (now+1)).set (dN (now+1)) []) ((bc ls (now+1)).getD (dN (now+1)) []):=by
 have hG:=hm.2.good hm.1.1 hm.2.Ia;have hG2:=hG.GR (now+1);have hl:(bc ls (now+1))[dN (now+1)]?=MI ((bc ls (now+1)).getD (dN (now+1)) []):=by
  simp[Pq,MR (show dN (now+1)<(bc ls (now+1)).length by rw[hG2.srt.len];exact lF _)]
 refine⟨A8 hm hlt hG,fun t=>xk hm hG t,vB hm.2 hm.1.1 hG,hG2.srt.ord _ (Nu hl),?_⟩;have h1:=i7 (Nu hl);rw[(mm hG (now+1)).length_eq]at h1;exact Nm h1 hm.2.Hr
theorem vZ(v:M7)(now:Int)(ls:List (List Tm))(w:MO)(hB:aK w)(hx:dh w v ls)(hm:cQ now ls)(hlt:now<1099511627776) :
  Ni MK 151 #[Ny #[MF ME now,v]] w fun r w'=>∃p c xp xc ms L,r=MN (Nv #[Ny #[MF ME (now+1),MG p 25 c],MG xp L.length xc,MF ME 0])/\jI w' w.heap.size p c ms/\dX now ls ms L /\
   w'.ownsRow w.heap.size 3 1 (MG xp L.length xc) L.length (gm L)/\MQ w.heap.size w w':=by
 have hL:=ze hm hlt;refine(FE v now ls w hB hx hm.2.Ia hm).mono ?_;rintro r w' ⟨hb,⟨h1,_⟩|⟨_,u,vs,x,rfl,hown,hx⟩⟩
 ·omega
 ·obtain⟨p,c,rfl⟩:=uO hown hL.may.2.len
  obtain⟨xp,xc,rfl⟩:=cR hx;exact⟨p,c,xp,xc,_,_,rfl,⟨_,hown⟩,hL,hx,hb⟩
theorem mf(a b id:Int)(g:Nat)(w:MO)(h:w.cell? ⟨g,0,MH⟩=MI (MF ME id)) :
  Ni MK 254 #[Ny #[MF ME a,MF ME b],Na (MI ⟨g,0,MH⟩)] w fun r w'=>r=MN (M3 (Nn (b=id)))/\w'=w.alloc (MP #[MF ME a,MF ME b] 187):=by
 have hlt:g<w.heap.size:=MX w ⟨g,0,MH⟩ h
 by_cases hb:b=id
 ·subst hb
  go_enter Tryz.func254,Tryz.ntmps254;go_wp2;go_ret;exact⟨by simp,rfl⟩
 ·have he:(b == id)=false:=by simpa using hb
  have hd:Nn (b=id)=false:=M0 hb;rw[hd];clear hb;go_enter Tryz.func254,Tryz.ntmps254;go_wp2;go_ret;exact⟨rfl,rfl⟩
theorem Ez(v:M7)(l:List Tm)(id:Int)(g:Nat)(w:MO)(hv:aO w v l)(h:w.cell? ⟨g,0,MH⟩=MI (MF ME id))(hex:∃t∈l,t.2=id) :
  Ni MK 200 #[v,PB (PD 254) #[] #[Na (MI ⟨g,0,MH⟩)]] w fun r w'=>∃(k:Nat) (hk:k<l.length),r=MN (MF ME k)/\l[k].2=id/\(∀t∈l.take k,t.2≠id)/\MQ w.heap.size w w':=by
 obtain⟨a,ca,rfl,hca,hma,pa⟩:=hv.F6;unfold NE at hma;have hglt:=MX w ⟨g,0,MH⟩ h;have HH:M6 (_/\_):=⟨h,hex⟩;clear h hex hv;go_enter SU,Sx;go_wp2
 go_loopw [8] (fun i wr=>∃k:Nat,i=MF ME k/\k<=l.length/\(∀t∈l.take k,t.2≠id)/\MQ w.heap.size w wr) (fun i _=>l.length-(On i).toNat)
 case atStart=>exact⟨0,rfl,Nx _,by simp,MY _ _⟩
 case round =>
  obtain⟨k,rfl,hk,hall,hbr⟩:=hrel
  by_cases hlt:k<l.length
  ·obtain⟨b1,o1,rfl,hb1,c1,d1⟩:=pa k hlt
   have e1:=(hbr.cell (p:=⟨b1,o1+k*2,MH⟩) hb1).trans c1;have e2:=(hbr.cell (p:=⟨b1,o1+k*2+1,MH⟩) hb1).trans d1;have e3:=(hbr.cell (p:=⟨g,0,MH⟩) hglt).trans HH.out.1;have HA:M6 (_/\_/\_):=⟨hall,hbr,e3⟩;have hkI:(k:Int)<(l.length:Int):=by omega
   have htk:l.take (k+1)=l.take k++[l[k]]:=M9 hlt;obtain⟨xa,hxa⟩:∃xa,xa=l[k].1:=⟨_,rfl⟩;obtain⟨xd,hxd⟩:∃xd,xd=l[k].2:=⟨_,rfl⟩;rw[<-hxa]at e1;rw[<-hxd]at e2;have HX:M6 (_/\_):=⟨htk,hxd⟩;clear hall hbr c1 d1 hb1 htk hxa hxd e3 pa;cases hd:Nn (xd=id)
   ·go_wp2_with fail
    refine(mf xa xd id g _ HA.out.2.2).mono ?_;rw[hd];rintro r w2 ⟨rfl,rfl⟩;go_wp2
    go_roundw
    case rel =>
     refine⟨k+1,by simp,hlt,fun t ht=>?_,HA.out.2.1.alloc HA.out.2.1.size _⟩;rw[HX.out.1]at ht;rcases List.mem_append.1 ht with ht|ht
     ·exact HA.out.1 t ht
     ·rw[List.mem_singleton.1 ht,<-HX.out.2]
      exact Nc hd
    case measure=>simp[On];omega
   ·go_wp2_with fail
    refine(mf xa xd id g _ HA.out.2.2).mono ?_;rw[hd];rintro r w2 ⟨rfl,rfl⟩;go_wp2;go_ret;exact⟨k,hlt,rfl,by rw[<-HX.out.2];exact M2 hd,HA.out.1,HA.out.2.1.alloc HA.out.2.1.size _⟩
  ·exfalso
   obtain⟨t,ht,e⟩:=HH.out.2;exact hall t (by rw[N1 (by omega)];exact ht) e
theorem El(W:MO):(zeroValue 187).run MK W=.ok (Ny #[MF ME 0,MF ME 0]) W:=by kernel_rfl
theorem Fn(base g c:Nat)(l:List Tm)(id:Int)(gid:Nat)(w:MO)(hown:w.ownsRow base 187 2 (MG (MI ⟨g,0,MH⟩) l.length c) l.length (ag l))(h:w.cell? ⟨gid,0,MH⟩=MI (MF ME id))(hne:gid≠g)(hex:∃t∈l,t.2=id) :
  Ni MK 253 #[MG (MI ⟨g,0,MH⟩) l.length c,PB (PD 254) #[] #[Na (MI ⟨gid,0,MH⟩)]] w fun r w'=>r=MN (MG (MI ⟨g,0,MH⟩) (kp l id).length c)/\w'.ownsRow base 187 2 (MG (MI ⟨g,0,MH⟩) (kp l id).length c) (kp l id).length (ag (kp l id))/\w.grownBy w' (MI g):=by
 have hidx:=Ez _ l id gid w (bP hown) h hex;have hglt:=MX w ⟨gid,0,MH⟩ h;have hcap:l.length<=c/\c<=maxLen:=by
  obtain⟨_,c',he,hc,hm,_⟩:=bP hown;cases he;exact⟨hc,hm⟩
 obtain⟨hc1,hc2⟩:=hcap;unfold NE at hc2;have H0:M6 (_/\_/\_):=⟨hidx,hown,h⟩;clear hidx hown h hex;go_enter Tryz.func253,Tryz.ntmps253
 go_wp2_with fail
 refine H0.out.1.mono ?_;rintro r w1 ⟨k,hk,rfl,hkid,hbef,hb1⟩;have hkp:kp (l.take k) id=l.take k:=qa hbef;have hms:=lv (junk:=[]) hk hkid;have H1:M6 (_/\_/\_/\_):=⟨hb1,hkp,hms.1,hms.2⟩;have hkm:((k:Int) == -1)=false:=by
  rw[Oh];omega
 clear hb1 hkp hms hkid hbef;go_wp2
 go_loopw [5,6] (fun s5 s6 wr=>∃(j:Nat) (junk:List Tm),s5=MF ME ((kp (l.take j) id).length:Nat)/\s6=MF ME j/\j<=l.length/\(kp (l.take j) id).length+junk.length=j/\junk≠[]/\wr.ownsRow base 187 2 (MG (MI ⟨g,0,MH⟩) l.length c) l.length (ag (aV l id junk j))/\w.grownBy wr (MI g)) (fun _ s6 _=>l.length-(On s6).toNat)
 case atStart =>
  obtain⟨hb1,hkp,hm1,hm2⟩:=H1.out;have e0:aV l id [l[k]] (k+1)=l:=by
   have:aV l id ([]++[l[k]]) (k+1)=aV l id [] k:=hm1;rw[Oz]at this;rw[this];unfold aV;rw[hkp,OG,Oo]
  have e1:(kp (l.take (k+1)) id).length=k:=by rw[hm2,hkp,NH];omega
  refine⟨k+1,[l[k]],by rw[e1],by simp,hk,by rw[e1];rfl,by simp,?_,qY hb1⟩;rw[e0];exact nD H0.out.2.1 hb1
 case round =>
  obtain⟨j,junk,rfl,rfl,hj,hjl,hjn,hrow,hgr⟩:=hrel;have hml:=qD hj hjl;have hc3:wr.cell? ⟨gid,0,MH⟩=MI (MF ME id):=hgr.cell H0.out.2.2 (by simpa using hne);obtain⟨x,junk',rfl⟩:∃x junk',junk=x::junk':=by
   cases junk with
   |nil=>exact absurd rfl hjn
   |cons x r=>exact⟨x,r,rfl⟩
  rw[Ox]at hjl;have hglt2:gid<wr.heap.size:=M8 hglt hgr.size;have hrl:=(hrow.lt g rfl).2;generalize hi:(kp (l.take j) id).length=i at *
  by_cases hlt:j<l.length
  ·have hat:=rh (id:=id) (junk:=x::junk') hlt (by rw[hi,Ox];omega)
   obtain⟨hj',hat'⟩:=List.getElem?_eq_some_iff.1 hat
   have ht:=fi (aV l id (x::junk') j) j hj';rw[hat']at ht;have f1:=(hrow.cellAt (j*2) (by omega)).trans ht.1;have f2:=(hrow.cellAt (j*2+1) (by omega)).trans ht.2;have hti:=fi (aV l id (x::junk') j) i (by omega);have f3:=(hrow.cellAt (i*2) (by omega)).trans hti.1;have f4:=(hrow.cellAt (i*2+1) (by omega)).trans hti.2;have f5:=hrow.frozenAt (i*2);have f6:=hrow.frozenAt (i*2+1);obtain⟨xa,hxa⟩:∃xa,xa=l[j].1:=⟨_,rfl⟩;obtain⟨xd,hxd⟩:∃xd,xd=l[j].2:=⟨_,rfl⟩;rw[<-hxa]at f1;rw[<-hxd]at f2;generalize ((aV l id (x::junk') j)[i]'(by omega)).1=oa at f3;generalize ((aV l id (x::junk') j)[i]'(by omega)).2=od at f4;have hlj:l[j]=(xa,xd):=by rw[hxa,hxd]
   have HR:M6 (_/\_/\_/\_/\_):=⟨hrow,hgr,hc3,hlj,hi⟩;have hjI:(j:Int)<(l.length:Int):=by omega
   have hiI:(i:Int)<(l.length:Int):=by omega
   have hilj:i<j:=by omega
   have hil:i<l.length:=by omega
   clear hrow hgr hc3 hat hat' ht hti hxa hxd hlj hj' hi hjn;have hcc:((wr.alloc (MP #[MF ME xa,MF ME xd] 187))).cell? ⟨gid,0,MH⟩=MI (MF ME id):=by
    rw[NG (a:=⟨gid,0,MH⟩) (Ov wr _ gid hglt2)];exact HR.out.2.2.1
   have HCC:M6 _:=hcc;clear hcc;cases hd:Nn (xd=id)
   ·go_wp2_with fail
    refine(mf xa xd id gid _ HCC.out).mono ?_;rw[hd];rintro r w2 ⟨rfl,rfl⟩;go_wp2
    go_roundw
    case rel =>
     obtain⟨hrow,hgr,hc3,hlj,hi⟩:=HR.out;have hne2:l[j].2≠id:=by rw[hlj];exact Nc hd
     obtain⟨m1,m2⟩:=oQ (x:=x) (junk:=junk') hlt hne2;have hr1:=hrow.stored (i*2) (MF ME xa);have hr2:=hr1.1.stored (i*2+1) (MF ME xd);have hts:=lg (aV l id (x::junk') j) i (xa,xd);rw[hts]at hr2;rw[hi,hlj]at m1;refine⟨j+1,junk'++[l[j]],by rw[m2,Ns,hi];simp,by simp,hlt,by rw[m2,Ns,hi];simp;omega,by simp,?_,?_⟩
     ·rw[hlj,m1];exact(hr2.1.alloc _).alloc _
     ·exact(((hgr.trans hr1.2).trans hr2.2).trans (OL _ _ _)).trans (OL _ _ _)
    case measure=>simp[On];omega
   ·go_wp2_with fail
    refine(mf xa xd id gid _ HCC.out).mono ?_;rw[hd];rintro r w2 ⟨rfl,rfl⟩;go_wp2
    go_roundw
    case rel =>
     obtain⟨hrow,hgr,hc3,hlj,hi⟩:=HR.out;have he2:l[j].2=id:=by rw[hlj];exact M2 hd
     obtain⟨m1,m2⟩:=lv (junk:=x::junk') hlt he2;refine⟨j+1,x::junk'++[l[j]],by rw[m2,hi],by simp,hlt,by rw[m2,hi];simp;omega,by simp,?_,?_⟩
     ·rw[m1];exact(hrow.alloc _).alloc _
     ·exact(hgr.trans (OL _ _ _)).trans (OL _ _ _)
    case measure=>simp[On];omega
  ·obtain rfl:j=l.length:=by omega
   have hii:i<l.length:=by omega
   obtain⟨vs,hcl⟩:=pd (P:=MK) wr 184 187 0 (MF ME 0) (MF ME 0) U0 El rfl rfl g (i*2) (l.length-i) (c-i) (by omega) (fun t ht=>by
    have h1:=hrow.cellAt (i*2+t) (by omega);rw[h1,MR (by rw[bZ,hml];omega)];rfl) (fun t _=>hrow.frozenAt _)
   have hcut:=kj vs (i*2) wr (l8 hrow (i:=i) (by omega)) (MV _);have e1:(ag (aV l id (x::junk') l.length)).take (i*2)=ag (kp l id):=by
    have e2:kp (l.take l.length) id=kp l id:=by rw[NT]
    rw[e2]at hi;rw[iM];unfold aV;rw[e2,OC,ZqA (by omega),<-hi,NT]
   rw[e1]at hcut;have hik:(kp l id).length=i:=by rw[<-hi,NT]
   have HR:M6 (_/\_/\_):=⟨hcut,hgr,hik⟩;have hiI:(i:Int)<(l.length:Int):=by omega
   have hiI2:(i:Int)<=(c:Int):=by omega
   have hcne:c≠i:=by omega
   clear hcut hgr hrow hi e1 hik;go_wp2;go_ret;obtain⟨r1,r2,r3⟩:=HR.out;rw[r3];exact⟨rfl,r1.1,r2.trans r1.2⟩
theorem L9{w:MO}(h1:w.cell? a1=MI v1)(h2:w.cell? a2=MI v2)(h3:w.cell? a3=MI v3)(h4:w.cell? a4=MI v4)(hf:w.frozen? a2=Nb)
  (k1:w'.heap[a1.block]?=w.heap[a1.block]?) (k2:w'.heap[a2.block]?=w.heap[a2.block]?) (k3:w'.heap[a3.block]?=w.heap[a3.block]?) (k4:w'.heap[a4.block]?=w.heap[a4.block]?) :
  w'.cell? a1=MI v1/\w'.cell? a2=MI v2/\w'.cell? a3=MI v3/\w'.cell? a4=MI v4/\w'.frozen? a2=false :=
 ⟨(NG k1).trans h1,(NG k2).trans h2,(NG k3).trans h3,(NG k4).trans h4,(OM k2).trans hf⟩
theorem Cz(base T B M n:Nat)(now:Int)(vs:List M7)(ls:List (List Tm))(f:Int->Option Int)(id:Int)(i:Nat)(w:MO)(hT:ac w base T B M n now vs ls f)(hbase:base<=w.heap.size)(hi:i<25)(hid:(N6 ME id).wf=Nw)(hf:f id=MI (i:Int))(l:List Tm)(hl:ls[i]?=MI l)(hex:∃t∈l,t.2=id) :
  Ni MK 237 #[Na (MI ⟨T,0,MH⟩),MF ME id] w fun r w'=>r=MN (Nv #[])/\∃vs' f',ac w' base T B M n now vs' (ls.set i (kp l id)) f'/\MQ base w w':=by
 obtain⟨t0,t1,t2,tlt⟩:=cF hT.box;have hi':i<ls.length:=by rw[hT.len];exact hi
 obtain⟨u,hu,hown⟩:=ky hT.own i hi';have hlc:=kq hT.own hT.len i hi' u hu;have hl0:=hl;rw[MR hi']at hl;rw[NC hl]at hown;have hlpos:0<l.length:=by obtain⟨t,ht,_⟩:=hex;exact Qj ht
 obtain⟨g,c,rfl,hbg,hgl⟩:=hown.form hlpos;have hBlt:B<w.heap.size:=(hT.own.row.lt B rfl).2;have hBb:=(hT.own.row.lt B rfl).1;have hfz:w.frozen? ⟨B,i,MH⟩=false:=by
  have h25:=hT.own.row;rw[hT.len]at h25;exact h25.frozenAt i
 have hgT:g≠T:=fun e=>hT.offT _ (NB _ (Nu hu)) (by rw[e];rfl)
 have hgM:g≠M:=fun e=>hT.offM _ (NB _ (Nu hu)) (by rw[e];rfl)
 have hgB:g≠B:=fun e=>(List.pairwise_cons.1 hT.own.apart).1 _ (Nu hu) B rfl (by rw[e];rfl)
 have hTB:T≠B:=fun e=>hT.offT _ (NM ..) (by rw[e];rfl)
 have hMB:M≠B:=fun e=>hT.offM _ (NM ..) (by rw[e];rfl)
 have hMlt:=hT.map.lt;obtain⟨w2,hw2⟩:∃w2,w2=w.alloc (MP #[MF ME id] 3):=⟨_,rfl⟩;have hbw:MQ w.heap.size w w2:=by rw[hw2];exact(MY _ _).alloc (MV _) _
 have hlt:w.heap.size<w2.heap.size:=by rw[hw2];simp
 have c1:w2.cell? ⟨w.heap.size,0,MH⟩=MI (MF ME id):=by rw[hw2];simp
 have c3:w2.cell? ⟨T,1,MH⟩=MI (MG (MI ⟨B,0,MH⟩) 25 25):=(hbw.cell (p:=⟨T,1,MH⟩) tlt).trans t1;have c4:w2.cell? ⟨T,2,MH⟩=MI (P0 (MI M)):=(hbw.cell (p:=⟨T,2,MH⟩) tlt).trans t2;have c5:w2.cell? ⟨B,i,MH⟩=MI (MG (MI ⟨g,0,MH⟩) l.length c):=(hbw.cell (p:=⟨B,i,MH⟩) hBlt).trans hlc;have c6:w2.frozen? ⟨B,i,MH⟩=false:=(hbw.frozen (p:=⟨B,i,MH⟩) hBlt).trans hfz;have hT2:=hT.below hbw;have hrun:(Instr.lookup 273 (P0 (MI M)) (MF ME id) Nb).run MK w2.drew=.ok (MF ME i) w2.drew:=by
  obtain⟨D,ho,hD⟩:=(hT2.map.Gf (w':=w2.drew) rfl);obtain⟨x,hr,hat,_⟩:=ho.lookup_int lY Va Ol (rB _) (Qg Ol hid);have h2:=(hD id hid).2 i hf;rw[hat]at h2;have:x=(i:Int):=by cases h2;rfl
  rw[this]at hr;exact hr
 have hown2:=nD hown hbw;have HT:M6 (_/\_/\_/\_/\_/\_):=⟨hT,hT2,hbw,hown2,hl0,hw2⟩;have HX:M6 _:=hex;have tlt2:T<w2.heap.size:=by omega
 have Blt2:B<w2.heap.size:=by omega
 have glt2:g<w2.heap.size:=by omega
 have Mlt2:M<w2.heap.size:=by omega
 have hiI:(i:Int)<25:=by omega
 clear hT hT2 hbw hown hown2 hw2 hex hl hl0 t0 t1 t2 hlc hfz hf;go_enter Tryz.func237,Tryz.ntmps237
 go_wp2_with fail
 rw[<-HT.out.2.2.2.2.2]
 go_region
 have hsg:w.heap.size≠g:=by omega
 have hdel:=Fn base g c l id w.heap.size w2.drew.drew (HT.out.2.2.2.1.drew.drew) c1 hsg HX.out;have hkp:∀W:MO,w2.drew.drew.grownBy W (MI g)->W.cell? ⟨T,1,MH⟩=MI (MG (MI ⟨B,0,MH⟩) 25 25)/\W.cell? ⟨B,i,MH⟩=MI (MG (MI ⟨g,0,MH⟩) l.length c)/\W.cell? ⟨w.heap.size,0,MH⟩=MI (MF ME id)/\W.cell? ⟨T,2,MH⟩=MI (P0 (MI M))/\W.frozen? ⟨B,i,MH⟩=false:=fun W hg =>
  L9 c3 c5 c1 c4 c6 (hg.block T tlt2 (fun e=>hgT (NC e).symm)) (hg.block B Blt2 (fun e=>hgB (NC e).symm)) (hg.block w.heap.size hlt (fun e=>hsg (NC e))) (hg.block T tlt2 (fun e=>hgT (NC e).symm))
 have HI:M6 (_/\_):=⟨hdel,hkp⟩;clear hdel hkp
 go_upto_region 2 with fail
 go_cut []from 11 to 27 (fun wx=>∃w5,w5.ownsRow base 187 2 (MG (MI ⟨g,0,MH⟩) (kp l id).length c) (kp l id).length (ag (kp l id))/\w2.drew.drew.grownBy w5 (MI g)/\wx=w5.setCell ⟨B,i,MH⟩ (MG (MI ⟨g,0,MH⟩) (kp l id).length c))
 case first =>
  go_region_with (first|(go_at_call 253;refine HI.out.1.mono ?_;rintro r w5 ⟨rfl,hown5,hg5⟩;obtain⟨s1,s2,s3,s4,s5⟩:=HI.out.2 _ hg5))
  all_goals
   go_wp2_with fail
   go_meet
   exact⟨w5,hown5,hg5,rfl⟩
 case rest =>
 obtain⟨w5,hown5,hg5,rfl⟩:=hcut;obtain⟨hT,hT2,hbw,hown2,hl0,_⟩:=HT.out;have hl1:ls[i]=l:=by rw[MR hi']at hl0;exact NC hl0
 obtain⟨w6,hw6⟩:∃w6,w6=w5.setCell ⟨B,i,MH⟩ (MG (MI ⟨g,0,MH⟩) (kp l id).length c):=⟨_,rfl⟩;have h6:∀k,k<w2.heap.size->k≠g->k≠B->w6.heap[k]?=w2.heap[k]?:=fun k hk hkg hkB=>by
  rw[hw6,MU _ _ _ _ hkB];exact hg5.block k hk (fun e=>hkg (NC e))
 have hT6:w6.heap[T]?=MI (MP #[MF ME now,MG (MI ⟨B,0,MH⟩) 25 25,P0 (MI M)] 275 (0,0)):=(h6 T tlt2 hgT.symm hTB).trans hT2.box;have hM6:ep w6 M n f:=hT2.map.Gf (h6 M Mlt2 hgM.symm hMB);have hown6:ar w6 base (MG (MI ⟨B,0,MH⟩) 25 25) (vs.set i (MG (MI ⟨g,0,MH⟩) (kp l id).length c)) (ls.set i (kp l id)):=by
  rw[hw6];exact ar.Gd (w:=w2.drew.drew) (hT2.own.Gf fun _ _ _=>rfl) hT2.len hi' hu hg5 hown5 (fun k hk=>Nt hk)
 have hoff:∀X,(∀x∈MG (MI ⟨B,0,MH⟩) 25 25::vs,x.ownBlock≠MI X)->∀x∈MG (MI ⟨B,0,MH⟩) 25 25::vs.set i (MG (MI ⟨g,0,MH⟩) (kp l id).length c),x.ownBlock≠MI X:=fun X ho x hx=>by
  rcases List.mem_cons.1 hx with rfl|hx
  ·exact ho _ (NM ..)
  ·rcases OB hx with h|rfl
   ·exact ho x (NB _ h)
   ·exact fun e=>ho _ (NB _ (Nu hu)) e
 have hTn6:ac w6.drew base T B M n now (vs.set i (MG (MI ⟨g,0,MH⟩) (kp l id).length c)) (ls.set i (kp l id)) f :=
  ⟨hT6,hown6.Gf fun _ _ _=>rfl,hM6.Gf rfl,hoff T hT.offT,hoff M hT.offM,hT.hT,hT.hM,hT.hTM,by rw[NA];exact hT.len⟩
 obtain⟨w7,f7,hr7,hm7,hg7⟩:=hTn6.map.IX hid 0;have hT7:=hTn6.II hm7 hg7;have hb7:MQ base w w7:=by
  have hs6:w2.heap.size<=w6.heap.size:=by rw[hw6];have:=hg5.size;simpa using this
  have h1:MQ base w w2.drew.drew:=((hbw.mono hbase).drew).drew;have h2:MQ base w w6:=by rw[hw6];exact(h1.grown hg5 (by show base<=w2.heap.size;omega) (fun k hk=>by rw[<-NC hk];exact hbg)).setCell hBb _
  exact h2.drew.grown hg7 (by show base<=w6.heap.size;omega) (fun k hk=>by rw[<-NC hk];exact hT.hM)
 have hK6:w6.cell? ⟨w.heap.size,0,MH⟩=MI (MF ME id):=(NG (a:=⟨w.heap.size,0,MH⟩) (h6 w.heap.size hlt hsg (by omega))).trans c1;obtain⟨q0,q1,q2,q3⟩:=cF hT6;have hK6l:=MX w6 ⟨w.heap.size,0,MH⟩ hK6;have HZ:M6 (_/\_):=⟨hT7,hb7⟩;rw[<-hw6];clear hT7 hb7 hTn6 hm7 hg7 hown6 hT6 hM6 h6 hown5 hg5 hw6 hoff c1 c3 c4 c5 c6 hrun hT hT2 hbw hown2
 go_wp2_with fail
 go_region
 go_end0
 exact⟨rfl,_,f7,HZ.out.1,HZ.out.2⟩
theorem D9{l:List Tm}(h:(l.map (·.2)).Nodup){a b:Tm}(ha:a∈l)(hb:b∈l)(e:a.2=b.2):a=b:=by
 induction l with
 |nil=>cases ha
 |cons x l ih =>
  rw[OA,QJ]at h;rcases List.mem_cons.1 ha with h1|h1
  ·rcases List.mem_cons.1 hb with h2|h2
   ·rw[h1,h2]
   ·exact absurd (List.mem_map.2 ⟨b,h2,by rw[<-e,h1]⟩) h.1
  ·rcases List.mem_cons.1 hb with h2|h2
   ·exact absurd (List.mem_map.2 ⟨a,h1,by rw[e,h2]⟩) h.1
   ·exact ih h.2 h1 h2
theorem uP{B:Nat}{w:MO}(h:MQ B w w')(hg:B<=g)(x y:M7):MQ B w ((w'.setCell ⟨g,0,MH⟩ x).setCell ⟨g,1,MH⟩ y):=(h.setCell (p:=⟨g,0,MH⟩) hg _).setCell (p:=⟨g,1,MH⟩) hg _
structure jW(now id:Int)(ls ms:List (List Tm)):Prop where
 may:cQ now ms
 mem:∀t,t∈ms.flatten↔t∈ls.flatten/\t.2≠id
theorem pV{l:List Tm}{id:Int}:t∈kp l id↔t∈l/\t.2≠id:=by unfold kp;simp
theorem BS{now id:Int}{ls:List (List Tm)}(h:cQ now ls){i:Nat}{l:List Tm}(hl:ls[i]?=MI l)(hex:∃t∈l,t.2=id):jW now id ls (ls.set i (kp l id)):=by
 have hi:=(List.getElem?_eq_some_iff.1 hl).1;obtain⟨a,b,e1,e2,_⟩:=oK ls i l (kp l id) hl;have hsub:(ls.set i (kp l id)).flatten.Sublist ls.flatten:=by
  have e3:ls.flatten=a.flatten++(l++b.flatten):=by
   have:=congrArg List.flatten e1
   simpa using this
  rw[e2,e3];simp only[PV,QS];exact(S3 _).append ((List.filter_sublist).append (S3 _))
 have hmemk:∀(k:Nat) (m:List Tm),(ls.set i (kp l id))[k]?=MI m->∃m',ls[k]?=MI m'/\∀t∈m,t∈m':=fun k m hk=>by
  by_cases hki:k=i
  ·subst hki
   rw[N7 hi]at hk;rw[<-NC hk];exact⟨l,hl,fun t ht=>(pV.1 ht).1⟩
  ·rw[N3 (Pi hki)]at hk
   exact⟨m,hk,fun t ht=>ht⟩
 refine⟨⟨h.1,by rw[NA];exact h.2.len,fun k m hk t ht=>?_,fun m hm=>?_,?_⟩,fun t=>?_⟩
 ·obtain⟨m',h1,h2⟩:=hmemk k m hk
  exact h.2.fit k m' h1 t (h2 t ht)
 ·rcases OB hm with hm|rfl
  ·exact h.2.ord m hm
  ·exact List.Pairwise.filter _ (h.2.ord l (Nu hl))
 ·exact List.Nodup.sublist (hsub.map _) h.2.ids
 ·constructor
  ·intro ht
   refine⟨hsub.subset ht,fun e=>?_⟩;obtain⟨m,hm,htm⟩:=List.mem_flatten.1 ht;obtain⟨k,hk,rfl⟩:=NV hm;obtain⟨s,hs,es⟩:=hex;have hst:t=s:=D9 h.2.ids (hsub.subset ht) (List.mem_flatten.2 ⟨l,Nu hl,hs⟩) (by rw[e,es])
   by_cases hki:k=i
   ·subst hki
    rw[NW]at htm;exact(pV.1 htm).2 e
   ·rw[Pe (Pi hki)]at htm
    rw[NA]at hk;have p1:=(h.2.fit k _ (MR hk) t htm).2;have p2:=(h.2.fit i l hl s hs).2;rw[hst]at p1;omega
  ·rintro⟨ht,hne⟩
   obtain⟨m,hm,htm⟩:=List.mem_flatten.1 ht;obtain⟨k,hk,rfl⟩:=NV hm
   by_cases hki:k=i
   ·subst hki
    rw[MR hk]at hl;rw[NC hl]at htm;exact List.mem_flatten.2 ⟨kp l id,Nu (N7 hi),pV.2 ⟨htm,hne⟩⟩
   ·refine List.mem_flatten.2 ⟨ls[k],Nu (i:=k) ?_,htm⟩
    rw[N3 (Pi hki)];exact MR hk
theorem E5(v:M7)(now id:Int)(ls:List (List Tm))(w:MO)(hB:aK w)(hx:dh w v ls)(hm:cQ now ls)(hid:(N6 ME id).wf=Nw) :
  Ni MK 208 #[Ny #[MF ME now,v],MF ME id] w fun r w'=>MQ w.heap.size w w' /\
   (((∀t∈ls.flatten,t.2≠id)/\r=MN (Nv #[Ny #[MF ME 0,MG MH 0 0],MF ME 8])) \/
     ((∃t∈ls.flatten,t.2=id)/\∃p c ms,r=MN (Nv #[Ny #[MF ME now,MG p 25 c],MF ME 0])/\jI w' w.heap.size p c ms/\jW now id ls ms)):=by
 obtain⟨a,ca,rfl,_⟩:=hx.F6;have hlen:∀l∈ls,l.length<=1048576:=fun l hl=>Nm (i7 hl) hm.2.Ia
 have hb0:∀W,MQ w.heap.size w W->aK W/\dh W (MG a ls.length ca) ls:=fun W h=>⟨hB.below h,hx.below h⟩
 have HX:M6 (_/\_/\_):=⟨hb0,hlen,hm⟩;clear hb0 hlen hm hx hB;go_enter Tryz.func208,Tryz.ntmps208
 go_wp2_with fail
 have hbw:MQ w.heap.size w ((w.alloc (MP #[MF ME now,MG a ls.length ca] 52)).alloc (MP #[MF ME 0,MG MH 0 0] 52)):=((MY _ _).alloc (MV _) _).alloc (by simp) _;refine(pD _ now ls _ (HX.out.1 _ hbw).1 (HX.out.1 _ hbw).2 HX.out.2.1).mono ?_;rintro r w1 ⟨hb1,⟨_,T,B,M,n,vs,f,rfl,hT,hF,hnn⟩|⟨h1,_⟩⟩
 ·have hR:w1.heap[w.heap.size+1]?=MI (MP #[MF ME 0,MG MH 0 0] 52 (0,0)):=(hb1.block _ (by simp)).trans (bV _ _ _)
  have hbw1:=hbw.trans (hb1.mono hbw.size);rw[show((w.alloc (MP #[MF ME now,MG a ls.length ca] 52)).alloc (MP #[MF ME 0,MG MH 0 0] 52)).heap.size+2=w.heap.size+4 by simp]at hT;obtain⟨w2,hw2⟩:∃w2,w2=(w1.alloc (MP #[MF ME now,MG (MI ⟨B,0,MH⟩) 25 25,P0 (MI M)] 275)):=⟨_,rfl⟩;have hb2:MQ w1.heap.size w1 w2:=by rw[hw2];exact(MY _ _).alloc (MV _) _
  have hT2:ac w2 (w.heap.size+4) w1.heap.size B M n now vs ls f:=by rw[hw2];exact hT.Iu
  have hR2:=(hb2.block _ (Array.getElem?_eq_some_iff.1 hR).1).trans hR;have hbw2:=hbw1.trans (hb2.mono hbw1.size);obtain⟨q0,q1,q2,q3⟩:=cF hT2.box;have hs2:w.heap.size+4<=w2.heap.size:=by have:=hT2.hT;omega
  have hlt1:=(Array.getElem?_eq_some_iff.1 hR).1;obtain⟨c0,c1,f0,f1,hlt⟩:=au hR2;have HT:M6 (_/\_/\_/\_/\_):=⟨hT2,hF,hR2,hbw2,hw2⟩;clear hR hb1 hbw hT hF hnn hb2 hT2 hR2 hbw2 hbw1 hw2
  go_wp2_with fail
  rw[<-HT.out.2.2.2.2];refine(qW w1.heap.size M n f id _ q2 HT.out.1.map hid).mono ?_;cases hhas:(f id).isSome
  ·rintro r w4 ⟨rfl,rfl⟩
   have HN:M6 _:=(HT.out.2.1.GP id).1 hhas;clear q0 q1 q2;go_wp2;obtain⟨g0,g1⟩:=jC (c:=MF ME 0) (d:=MG MH 0 0) HT.out.2.2.1;refine Np (v:=Nv #[Ny #[MF ME 0,MG MH 0 0],MF ME 8]) (by simp[Pf,Tryz.results208,go_sem,g0,g1]) rfl ⟨?_,Nt ⟨HN.out,rfl⟩⟩;exact uP HT.out.2.2.2.1 (by omega) _ _
  ·rintro r w4 ⟨rfl,rfl⟩
   have hexf:∃t∈ls.flatten,t.2=id:=by
    apply PM;intro hno;rw[(HT.out.2.1.GP id).2 (fun t ht e=>hno ⟨t,ht,e⟩)]at hhas;cases hhas
   obtain⟨t,ht,te⟩:=hexf;obtain⟨l,hlm,htl⟩:=List.mem_flatten.1 ht;obtain⟨i,hil,rfl⟩:=NV hlm;have hi25:i<25:=by rw[<-HX.out.2.2.2.len];exact hil
   have hl:=MR hil;have hfi:=HT.out.2.1.here i _ hl t htl;rw[te]at hfi;have HG:M6 _:=BS HX.out.2.2 hl ⟨t,htl,te⟩;have hrm:=Cz (w.heap.size+4) w1.heap.size B M n now vs ls f id i w4 HT.out.1 hs2 hi25 hid hfi _ hl ⟨t,htl,te⟩;have HP:M6 (_/\_):=⟨hrm,ht⟩;clear hrm;have HE:M6 (∃t∈ls.flatten,t.2=id):=⟨t,ht,te⟩;clear htl hfi hl
   go_wp2_with fail
   refine HP.out.1.mono ?_;rintro r w5 ⟨rfl,vs',f',hT5,hb5⟩;have hR5:=(hb5.block (w.heap.size+1) (by omega)).trans HT.out.2.2.1;obtain⟨c0',c1',f0',f1',hlt'⟩:=au hR5;obtain⟨p0',p1',p2',p3'⟩:=cF hT5.box;have HY:M6 (_/\_/\_):=⟨hR5,hT5,HT.out.2.2.2.1.trans (hb5.mono (by omega))⟩;clear hR5 hT5 hb5 c0 c1 f0 f1 hlt q0 q1 q2;go_wp2;obtain⟨g0,g1⟩:=jC (c:=MF ME now) (d:=MG (MI ⟨B,0,MH⟩) 25 25) HY.out.1;refine Np (v:=Nv #[Ny #[MF ME now,MG (MI ⟨B,0,MH⟩) 25 25],MF ME 0]) (by simp[Pf,Tryz.results208,go_sem,g0,g1]) rfl ⟨?_,NF ⟨HE.out,MI ⟨B,0,MH⟩,25,_,rfl,⟨vs',(HY.out.2.1.own.Hh (g:=w.heap.size+1) (by omega) _ _).GV (by omega)⟩,HG.out⟩⟩;exact uP HY.out.2.2 (by omega) _ _
 ·exact absurd HX.out.2.2 h1
end Go.Proofs.YtlnbhjdhcmgljaaGreatDoor.Q
