/-
  Contracts of the layers and of core, part 5. Conditions: as each theorem says.
-/
import Derived.Shelf.SlSortCmp.NoneTotal
import Derived.Deep.Upon
import Derived.Deep.CutRange
import Derived.RangeFuncNested
import Derived.RangeFuncBound
import Derived.Shelf.RegionOpen
import Derived.OwnWalkIn
import Derived.LoopNIn
import Derived.LoopIn
import Derived.Test.YtlnbhjdhcmgljaaGreatDoorQ0
open Array renaming getElem?_append_left->Rt,getElem?_modify->Qp,replicate_succ->Sg,replicate_zero->Sh,toList->RW
open Bool renaming false->Nb,false_ne_true->PE,noConfusion->PP,not_eq_true->Qc,not_eq_true'->SX,true->Nw
open Decidable renaming decide->Nn
open Go renaming Addr->Oc,Calls->Ni,Program->O8,TypeId->NU,Value->M7,World->MO,all_oneCell_toArray->OE,bodyPost_ret->Np,cell_of_row->MW,heap_alloc_new->M1,info_parts->OF,maxLen->NE,results_tmp2->SZ,undef->PL,wpAnyH_done->PS,wpAnyH_ready->NN,wpAnyH_take->ND,wpList_append_lies->O9,wpList_load_mid->O3,wpList_store_mid->OW,wp_region_held_drew->O2,yieldsIf_load_mid->Pt
open Go.Act renaming put->Nr
open Go.AllReadyH renaming cons->NP,nil->NX
open Go.CallsIn renaming inRound->Tr
open Go.Ending renaming returned->MN
open Go.Fence renaming wide->SJ
open Go.Fn renaming func->PD
open Go.Instr renaming index->Qy
open Go.IntKind renaming i64->ME,wrap_i64->Ow
open Go.Obj renaming cells->MP
open Go.Operand renaming tmp->O6
open Go.Proofs.SlLaysF0 renaming n6->Tv
open Go.Proofs.Tryz renaming func150->Uf,func221->UU,func224->Uk,func28->WF,func47->WH,func48->Sd,func50->Tl,func54->Qz,func70->Tj,ntmps150->T5,ntmps221->UH,ntmps224->Ua,ntmps28->Ww,ntmps47->Wy,ntmps48->RR,ntmps50->S1,ntmps54->Qk,ntmps70->SK,prog->MK,results126->VZ,results184->Vo,results27->Wb,underlying101->U2,underlying3->Ol,underlying44->RA,underlying46->U9
open Go.RowKit renaming Below->MQ,Hid->M6
open Go.RowKit.Below renaming heap_alloc->Ov,heap_setCell->MU,refl->MY
open Go.Sem renaming run_pure->P3
open Go.Sort renaming ahead->Ts,alloc_eq_grow->PQ,grow->Oj,mapBlock->Th
open Go.Value renaming agg->Ny,bool->M3,func->PB,int->MF,ownBlock->QQ,pointer->Na,slice->MG,tuple->Nv
open Go.World renaming block_lt_of_cell?->MX,cell?->Nl,cell?_of_block->NG,frozen?->Ng,grownBy_alloc->OL,heap_setCells_other->N8,ownsRow_nil->NY,setCell->Q4,setCells->Qd
open Int renaming eq_ofNat_of_zero_le->NL,natCast_emod->QY,tmod_eq_emod_of_nonneg->Oi,toNat_natCast->NR
open List renaming append_assoc->OC,append_nil->OG,append_toArray->Sk,countP_append->Qi,ext_getElem?->Ot,filter_append->OY,foldl_append->Pu,foldl_cons->O4,getD_eq_getElem?_getD->NK,getElem?_append->Q9,getElem?_drop->Pa,getElem?_eq_getElem->MR,getElem?_eq_none->Nz,getElem?_replicate->Pj,getElem?_set_ne->N3,getElem?_set_self->N7,getElem?_take_of_lt->O0,getElem_mem->Nk,length_append->Ns,length_cons->Ox,length_drop->NJ,length_pos_of_mem->Qj,length_set->NA,length_take->NH,map_append->OI,map_congr_left->PU,mem_append->QF,mem_cons_of_mem->NB,mem_cons_self->NM,mem_singleton->PY,nil_append->Oz,nodup_append->Qv,push_toArray->SY,range->Pm,range_succ->ZqB,replicate->Nj,setIfInBounds_toArray->MJ,set_cons_succ->MM,set_cons_zero->ML,size_toArray->OQ,take_append_drop->Oo,take_append_of_le_length->ZqA,take_length->NT,take_of_length_le->N1,take_succ_eq_append_getElem->M9,toList_toArray->NS
open Nat renaming le_refl->MV,le_trans->Nm,lt_of_lt_of_le->M8,lt_or_ge->Oq,mul_le_mul_right->O7,not_lt_zero->QH,zero_add->Oa,zero_le->Nx
open Ne renaming symm->Pi
open Option renaming getD_some->OV,map_some->OH,none->MH,some->MI
open Option.some renaming inj->NC
open Or renaming inl->Nt,inr->NF
open Prod renaming ext->Q8
namespace Go.Proofs.YtlnbhjdhcmgljaaGreatDoor.Q
set_option linter.unusedVariables false
set_option linter.unusedSimpArgs false
set_option maxHeartbeats 16000000
set_option maxRecDepth 100000
open Go.RowKit
attribute [local go_sem ↓] Go.wp_at_zero Go.wp_at_succ
variable {at_:Int}{out:List Int}{l:List Tm}{v:M7}{W W' w w':MO}{B g g10 g6 k:Nat}{P:O8}{t:Tm}
section
open Go.Shelf Go.Lib Go.Sort
def Fp:Go.Shelf.Ren:=⟨fun|6=>69|15=>88|14=>87|28=>141|29=>142|20=>133|21=>134|22=>135|23=>136|24=>137|25=>138|26=>139|27=>140|46=>186|47=>187|48=>188|49=>189|50=>190|57=>227|n=>n,fun|22=>44|24=>109|25=>153|3=>3|39=>131|0=>0|53=>155|55=>219|4=>4|46=>212|45=>211|50=>132|5=>5|9=>9|66=>265|70=>161|76=>300|77=>301|n=>n,fun|n=>n⟩
theorem tM:Tv MK Fp:={
 mixed:=by kernel_rfl
 f6:=⟨Tryz.f69.name,by decide,Tryz.func69.trans (congrArg MI (by kernel_rfl))⟩
 f14:=⟨Tryz.f87.name,by decide,Tryz.func87.trans (congrArg MI (by kernel_rfl))⟩
 f15:=Tryz.func88.trans (congrArg MI (by kernel_rfl))
 f20:=⟨Tryz.f133.name,by decide,Tryz.func133.trans (congrArg MI (by kernel_rfl))⟩
 f21:=⟨Tryz.f134.name,by decide,Tryz.func134.trans (congrArg MI (by kernel_rfl))⟩
 f22:=⟨Tryz.f135.name,by decide,Tryz.func135.trans (congrArg MI (by kernel_rfl))⟩
 f23:=⟨Tryz.f136.name,by decide,Tryz.func136.trans (congrArg MI (by kernel_rfl))⟩
 f24:=⟨Tryz.f137.name,by decide,Tryz.func137.trans (congrArg MI (by kernel_rfl))⟩
 f25:=⟨Tryz.f138.name,by decide,Tryz.func138.trans (congrArg MI (by kernel_rfl))⟩
 f26:=⟨Tryz.f139.name,by decide,Tryz.func139.trans (congrArg MI (by kernel_rfl))⟩
 f27:=⟨Tryz.f140.name,by decide,Tryz.func140.trans (congrArg MI (by kernel_rfl))⟩
 f28:=Tryz.func141.trans (congrArg MI (by kernel_rfl))
 f29:=Tryz.func142.trans (congrArg MI (by kernel_rfl))
 f46:=⟨Tryz.f186.name,by decide,Tryz.func186.trans (congrArg MI (by kernel_rfl))⟩
 f47:=Tryz.func187.trans (congrArg MI (by kernel_rfl))
 f48:=Tryz.func188.trans (congrArg MI (by kernel_rfl))
 f49:=⟨Tryz.f189.name,by decide,Tryz.func189.trans (congrArg MI (by kernel_rfl))⟩
 f50:=⟨Tryz.f190.name,by decide,Tryz.func190.trans (congrArg MI (by kernel_rfl))⟩
 f57:=⟨Tryz.f227.name,by decide,Tryz.func227.trans (congrArg MI (by kernel_rfl))⟩
 t0:=Tryz.underlying0
 a0:=Tryz.isAgg0
 z0:=Tryz.sizeOf0
 v0:=Tryz.zeroValue0
 t3:=Ol
 a3:=Tryz.isAgg3
 z3:=Tryz.sizeOf3
 v3:=Tryz.zeroValue3
 t4:=Tryz.underlying4
 a4:=Tryz.isAgg4
 z4:=Tryz.sizeOf4
 v4:=Tryz.zeroValue4
 t5:=Tryz.underlying5
 a5:=Tryz.isAgg5
 z5:=Tryz.sizeOf5
 v5:=Tryz.zeroValue5
 t9:=Tryz.underlying9
 a9:=Tryz.isAgg9
 z9:=Tryz.sizeOf9
 v9:=Tryz.zeroValue9
 t22:=RA
 a22:=Tryz.isAgg44
 z22:=Tryz.sizeOf44
 v22:=Tryz.zeroValue44
 t25:=Tryz.underlying153
 a25:=Tryz.isAgg153
 z25:=Tryz.sizeOf153
 v25:=Tryz.zeroValue153
 t39:=Tryz.underlying131
 a39:=Tryz.isAgg131
 z39:=Tryz.sizeOf131
 v39:=Tryz.zeroValue131
 t45:=Tryz.underlying211
 a45:=Tryz.isAgg211
 z45:=Tryz.sizeOf211
 v45:=Tryz.zeroValue211
 t46:=Tryz.underlying212
 a46:=Tryz.isAgg212
 z46:=Tryz.sizeOf212
 v46:=Tryz.zeroValue212
 t50:=Tryz.underlying132
 a50:=Tryz.isAgg132
 z50:=Tryz.sizeOf132
 v50:=Tryz.zeroValue132
 t53:=Tryz.underlying155
 a53:=Tryz.isAgg155
 z53:=Tryz.sizeOf155
 v53:=Tryz.zeroValue155
 t55:=Tryz.underlying219
 a55:=Tryz.isAgg219
 z55:=Tryz.sizeOf219
 v55:=Tryz.zeroValue219
 t66:=Tryz.underlying265
 a66:=Tryz.isAgg265
 z66:=Tryz.sizeOf265
 v66:=Tryz.zeroValue265
 t70:=Tryz.underlying161
 a70:=Tryz.isAgg161
 z70:=Tryz.sizeOf161
 v70:=Tryz.zeroValue161
 t76:=Tryz.underlying300
 a76:=Tryz.isAgg300
 z76:=Tryz.sizeOf300
 v76:=Tryz.zeroValue300
 t77:=Tryz.underlying301
 a77:=Tryz.isAgg301
 z77:=Tryz.sizeOf301
 v77:=Tryz.zeroValue301}
end
theorem Bi(a b c d:Int):(a=c/\b=d)\/((a == c)=Nb\/a=c/\(b == d)=Nb):=by
 simp only[Oh]
 by_cases h:a=c <;> by_cases h':b=d <;> simp[h,h']
theorem B3{a:MO}(h:MQ B a w)(n:Nat):MQ B a (w.drewN n):=h.trans ⟨rfl,rfl,rfl,MV _,fun _ _=>rfl⟩
theorem ug(h:MQ B w w')(hB:w.heap.size<=B):MQ w.heap.size w w':=h.mono hB
theorem rX:(Tryz.prog.info? 109).map (fun i=>(i.zero,i.size,i.bytes))=MI (MI (Ny #[MF ME 0,MF ME 0]),2,16):=by kernel_rfl
theorem lS(a:Tm):¬ax a a<0:=by rw[i8];omega
theorem we:∀ {l m:List Tm},l.Pairwise (fun a b=>ax a b<0)->m.Pairwise (fun a b=>ax a b<0)->(∀x,x∈l↔x∈m)->l=m
 | [],[],_,_,_=>rfl
 | [],b::m,_,_,h=>absurd ((h b).2 (NM ..)) (by simp)
 |a::l,[],_,_,h=>absurd ((h a).1 (NM ..)) (by simp)
 |a::l,b::m,h1,h2,h=>by
  have p1:=List.pairwise_cons.1 h1;have p2:=List.pairwise_cons.1 h2;have hab:a=b:=by
   rcases List.mem_cons.1 ((h a).1 (NM ..))with e|e
   ·exact e
   ·rcases List.mem_cons.1 ((h b).2 (NM ..))with e'|e'
    ·exact e'.symm
    ·exact absurd (ko (p1.1 b e') (p2.1 a e)) (lS a)
  subst hab;have:l=m:=we p1.2 p2.2 fun x=>by
   constructor
   ·intro hx
    rcases List.mem_cons.1 ((h x).1 (NB _ hx))with e|e
    ·subst e;exact absurd (p1.1 x hx) (lS x)
    ·exact e
   ·intro hx
    rcases List.mem_cons.1 ((h x).2 (NB _ hx))with e|e
    ·subst e;exact absurd (p2.1 x hx) (lS x)
    ·exact e
  rw[this]
theorem Ai(f:Nat->Nat->Nat)(s:Nat)(l:List Nat)(k:Nat)(hk:k<l.length):(l.take (k+1)).foldl f s=f ((l.take k).foldl f s) (l.getD k 0):=by
 rw[List.take_add_one,Pu,MR hk,NK,MR hk];simp only[Option.toList_some,O4,List.foldl_nil,OV]
theorem uT(f:Nat->Nat->Nat)(s N:Nat)(hs:s<N)(hf:∀h c,f h c<N)(l:List Nat):l.foldl f s<N:=by
 induction l generalizing s with
 |nil=>exact hs
 |cons c l ih=>exact ih _ (hf _ _)
theorem C4(f:Nat->Nat->Nat)(N:Nat)(hf:∀h c,f h c<N)(hi:∀h k c,h<N->k<N->c<N->f h c=f k c->h=k)(l:List Nat)(h k:Nat)(hh:h<N)(hk:k<N)(hl:∀c∈l,c<N)(e:l.foldl f h=l.foldl f k):h=k:=by
 induction l generalizing h k with
 |nil=>exact e
 |cons c l ih=>exact hi h k c hh hk (hl c (by simp)) (ih _ _ (hf _ _) (hf _ _) (fun x hx=>hl x (by simp[hx])) e)
theorem wN(f:Nat->Nat->Nat)(s N:Nat)(hs:s<N)(hf:∀h c,f h c<N)(hi:∀h k c,h<N->k<N->c<N->f h c=f k c->h=k)(hr:∀h c d,h<N->c<N->d<N->f h c=f h d->c=d)
  (p q:List Nat) (c d:Nat) (hc:c<N) (hd:d<N) (hq:∀x∈q,x<N) (e:(p++c::q).foldl f s=(p++d::q).foldl f s):c=d:=by
 rw[Pu,Pu,O4,O4]at e;exact hr _ c d (uT f s N hs hf p) hc hd (C4 f N hf hi q _ _ (hf _ _) (hf _ _) hq e)
def el(h c:Nat):Nat:=(h ^^^ c)*16777619 % 4294967296
def kE:Nat:=2166136261
def eS(l:List Nat):Nat:=l.foldl el kE
theorem su:kE<4294967296:=by unfold kE;omega
theorem tz(h c:Nat):el h c<4294967296:=Nat.mod_lt _ (by omega)
theorem rF(l:List Nat):eS l<4294967296:=uT el kE _ su tz l
theorem xF(l:List Nat)(k:Nat)(hk:k<l.length):eS (l.take (k+1))=el (eS (l.take k)) (l.getD k 0):=Ai el kE l k hk
theorem uH(x:Nat)(h:x<4294967296):x*16777619 % 4294967296*899433627 % 4294967296=x:=by omega
theorem oS(a b:Nat)(ha:a<4294967296)(hb:b<4294967296):a ^^^ b<4294967296:=Nat.xor_lt_two_pow (n:=32) ha hb
theorem wG(h c k d:Nat)(hh:h<4294967296)(hc:c<4294967296)(hk:k<4294967296)(hd:d<4294967296)(e:el h c=el k d):h ^^^ c=k ^^^ d:=by
 have e1:=uH _ (oS h c hh hc);have e2:=uH _ (oS k d hk hd);unfold el at e;rw[e]at e1;exact e1.symm.trans e2
theorem tU(a b c:Nat)(h:a ^^^ b=a ^^^ c):b=c:=by
 have:=congrArg (a ^^^ ·) h
 simpa [<-Nat.xor_assoc]using this
theorem AN(h c d:Nat)(hh:h<4294967296)(hc:c<4294967296)(hd:d<4294967296)(e:el h c=el h d):c=d :=
 tU h c d (wG h c h d hh hc hh hd e)
theorem DQ(h k c:Nat)(hh:h<4294967296)(hk:k<4294967296)(hc:c<4294967296)(e:el h c=el k c):h=k:=by
 have:=wG h c k c hh hc hk hc e;rw[Nat.xor_comm h,Nat.xor_comm k]at this;exact tU c h k this
theorem yY(p q:List Nat)(c d:Nat)(hc:c<4294967296)(hd:d<4294967296)(hq:∀x∈q,x<4294967296)(e:eS (p++c::q)=eS (p++d::q)):c=d :=
 wN el kE _ su tz DQ AN p q c d hc hd hq e
theorem AW(h c:Nat):((h ^^^ c:Nat):Int)*16777619 % 4294967296=((el h c:Nat):Int):=by
 unfold el;omega
def sM(n:Nat):List Nat:=[n % 256,n / 256 % 256,n / 65536 % 256,n / 16777216 % 256]
def fH(n:Nat):Nat:=eS (sM n)
def eR(b i:Nat):Nat:=eS [98,b,i,115]
theorem ye(b i j:Nat)(hi:i<4294967296)(hj:j<4294967296):eR b i=eR b j↔i=j :=
 ⟨fun e=>yY [98,b] [115] i j hi hj (by simp) e,fun e=>by rw[e]⟩
theorem CD(b:Nat)(l:List Nat)(w:MO)(hb:l.length<=1000)(hr:∀j,l.getD j 0<256)(hc:∀j,j<l.length->w.cell? ⟨b,j,MH⟩=MI (MF .u8 ((l.getD j 0:Nat):Int))) :
  Ni MK 50 #[MG (MI ⟨b,0,MH⟩) l.length l.length] w fun e w'=>e=MN (MF ME ((eS l:Nat):Int))/\w'=w:=by
 go_enter Tl,S1
 go_hidden (go_wp2)
 go_loop [3,8] (fun s i=>∃k:Nat,k<=l.length/\i=MF ME k/\s=MF .u32 ((eS (l.take k):Nat):Int)) (fun _ i=>l.length-(intOf i).toNat)
 case atStart=>exact⟨0,Nx _,rfl,rfl⟩
 case round =>
  obtain⟨k,hk,rfl,rfl⟩:=hrel
  by_cases hlt:k<l.length
  ·have hcell:=hc k hlt
   have hx:=hr k;have hs:=xF l k hlt;have hm:=rF (l.take k);generalize l.getD k 0=c at *;generalize eS (l.take k)=h at *;have e1:=u32_xor_nat h c hm (by omega);have hxl:=oS h c hm (by omega);have HS:M6 (eS (l.take (k+1))=el h c):=hs;clear hs
   go_hidden (go_wp2)
   go_round
   case rel=>exact⟨k+1,by omega,by go_num,by rw[HS.out,AW]⟩
   case measure=>simp[intOf];omega
  ·have:k=l.length:=by omega
   subst this;have hm:=rF l
   go_hidden (go_wp2)
   go_ret;exact⟨rfl,rfl⟩
theorem wd(a b c d:Int)(w:MO)(a0:0<=a)(a1:a<256)(b0:0<=b)(b1:b<256)(c0:0<=c)(c1:c<256)(d0:0<=d)(d1:d<256) :
  Ni MK 50 #[MG (MI ⟨w.heap.size,0,MH⟩) 4 4] (w.alloc (MP #[MF .u8 a,MF .u8 b,MF .u8 c,MF .u8 d] 5)) fun e w'=>e=MN (MF ME ((eS [a.toNat,b.toNat,c.toNat,d.toNat]:Nat):Int))/\w'=w.alloc (MP #[MF .u8 a,MF .u8 b,MF .u8 c,MF .u8 d] 5):=by
 refine CD w.heap.size [a.toNat,b.toNat,c.toNat,d.toNat] _ (by simp) ?_ ?_
 ·intro j
  match j with
  |0=>simp;omega
  |1=>simp;omega
  |2=>simp;omega
  |3=>simp;omega
  |j+4=>simp
 ·intro j hj
  match j,hj with
  |0,_=>simp[go_sem];omega
  |1,_=>simp[go_sem];omega
  |2,_=>simp[go_sem];omega
  |3,_=>simp[go_sem];omega
theorem yn(n:Nat)(h:n<=4294967295):eS [((n:Int) % 256).toNat,((n:Int) / 256 % 256).toNat,((n:Int) / 65536 % 256).toNat,((n:Int) / 16777216).toNat]=fH n:=by
 unfold fH sM;rw[show((n:Int) % 256).toNat=n % 256 by omega,show((n:Int) / 256 % 256).toNat=n / 256 % 256 by omega,show((n:Int) / 65536 % 256).toNat=n / 65536 % 256 by omega,show((n:Int) / 16777216).toNat=n / 16777216 % 256 by omega]
theorem yf(n:Nat)(w:MO)(h:n<=4294967295) :
  Ni MK 28 #[MF ME (n:Int)] w fun e w'=>e=MN (Nv #[MF ME ((fH n:Nat):Int),MF ME 0])/\MQ w.heap.size w w':=by
 rw[<-yn n h];go_enter WF,Ww
 go_wp2_with fail
 refine(wd _ _ _ _ _ (by omega) (by omega) (by omega) (by omega) (by omega) (by omega) (by omega) (by omega)).mono ?_;rintro e w' ⟨rfl,rfl⟩;go_wp2
 go_ret2
 exact⟨rfl,(MY _ _).alloc (MV _) _⟩
theorem E9(n:Int)(w:MO)(h:n<0\/4294967295<n) :
  Ni MK 28 #[MF ME n] w fun e w'=>e=MN (Nv #[MF ME 0,MF ME 2])/\w'=w:=by
 rcases h with h|h
 ·go_enter WF,Ww
  go_wp2
  go_ret2
  exact⟨rfl,rfl⟩
 ·have h0:¬n<0:=by omega
  go_enter WF,Ww;go_wp2
  go_ret2
  exact⟨rfl,rfl⟩
theorem zb(b i:Nat):eS [(98:Int).toNat,((b:Int)).toNat,((i:Int)).toNat,(115:Int).toNat]=eR b i:=by
 unfold eR;rw[NR,NR,show(98:Int).toNat=98 by omega,show(115:Int).toNat=115 by omega]
theorem Am(b i:Nat)(w:MO)(hb:b<12)(hi:i<32) :
  Ni MK 68 #[MF ME (b:Int),MF ME (i:Int)] w fun e w'=>e=MN (Nv #[MF ME ((eR b i:Nat):Int),MF ME 0])/\MQ w.heap.size w w':=by
 rw[<-zb b i];go_enter Tryz.func68,Tryz.ntmps68
 go_wp2_with fail
 refine(wd _ _ _ _ _ (by omega) (by omega) (by omega) (by omega) (by omega) (by omega) (by omega) (by omega)).mono ?_;rintro e w' ⟨rfl,rfl⟩;go_wp2
 go_ret2
 exact⟨rfl,(MY _ _).alloc (MV _) _⟩
theorem iX(a:List Int):∀v∈aj a,v.oneCell'=true:=by
 intro v hv;obtain⟨x,_,rfl⟩:=List.mem_map.1 hv;rfl
section
variable {T:NU}{n:Nat}{w w':MO}{g:Nat}{a b:List Int}
theorem aC.Hk(h:aC T n w g a){p:Oc}(hne:g≠p.block)(v:M7):aC T n (w.setCell p v) g a:=h.Gf (MU _ _ _ _ hne)
theorem aC.new(w:MO)(T:NU)(a:List Int):aC T a.length (w.alloc (MP (aj a).toArray T)) w.heap.size a:=⟨M1 _ _,rfl⟩
theorem aC.Gq(h:aC T n w g a):w.rangeAt g 0 (aj a):=fun j v hv=>by
 rw[Oa,MW w g j _ T (0,0) h.1]
 simpa using hv
theorem aC.GB(h:aC T n w g a):w.there g 0 n:=fun j hj=>by
 rw[Oa,h.F7 j (by rw[h.2];exact hj)];exact⟨rfl,h.Gu j⟩
theorem aC.I9{d:TypeDesc}(h:aC T n w g a)(hu:P.underlying T=MI d)(hd:d.isRow=Nw)(hi:(P.info? T).map (·.size)=MI n):(Instr.loadAt T (Na (MI ⟨g,0,MH⟩))).run P w=.ok (Ny (aj a).toArray) w :=
 run_loadAt_mid w g 0 T (aj a) d h.Gq hu hd (by rw[hi,dm,h.2])
theorem aC.Io{d:TypeDesc}(h:aC T n w g a)(hu:P.underlying T=MI d)(hd:d.isRow=Nw)(hi:(P.info? T).map (·.size)=MI n):(loadVar T ⟨g,0,MH⟩).run P w=.ok (Ny (aj a).toArray) w :=
 run_loadVar_mid w g 0 T (aj a) d h.Gq hu hd (by rw[hi,dm,h.2])
theorem aC.Hq(h:aC T n w g a)(hb:b.length=n)(hi:(P.info? T).map (·.size)=MI n):(Instr.storeAt T (Na (MI ⟨g,0,MH⟩)) (Ny (aj b).toArray)).run P w=.ok () (w.setCells g 0 (aj b))/\aC T n (w.setCells g 0 (aj b)) g b:=by
 constructor
 ·have h1:=run_storeAt_mid (P:=P) w g 0 T (aj b).toArray (by simp[dm,hb];exact h.GB) (by simp[dm,hb,hi]) (OE (iX b))
  simpa using h1
 ·have h1:=ks T g (aj b) [] (aj a) w (by rw[dm,dm,h.2,hb]) (by simpa using h.1)
  exact⟨by simpa using h1,hb⟩
theorem vv(g:Nat):∀(vs:List M7) (o:Nat) (w:MO),(w.setCells g o vs).tape=w.tape
 | [],_,_=>rfl
 |v::vs,o,w=>by rw[Qd,vv g vs];simp[Q4]
theorem nj(g:Nat):∀(vs:List M7) (o:Nat) (w:MO),(w.setCells g o vs).heap.size=w.heap.size
 | [],_,_=>rfl
 |v::vs,o,w=>by rw[Qd,nj g vs];simp
theorem kF{w0:MO}(h:MQ B w0 w)(hg:B<=g)(o:Nat)(vs:List M7)(hB:B<=w.heap.size):MQ B w0 (w.setCells g o vs):=by
 refine h.trans ⟨World.os_setCells _ _ _ _,vv _ _ _ _,World.output_setCells _ _ _ _,by rw[nj];exact MV _,fun i hi=>N8 w g o vs (by omega) (by omega)⟩
end
theorem D0(a b c d:Int)(w:MO) :
  Ni MK 70 #[Ny #[MF ME a,MF ME b],Ny #[MF ME c,MF ME d]] w fun r w'=>r=MN (MF ME (ax (a,b) (c,d)))/\w'=(((w.alloc (MP #[MF ME a,MF ME b] 109)).alloc (MP #[MF ME c,MF ME d] 109)).alloc (MP #[MF ME (cx a c),MF ME (cx b d)] 3)).drew:=by
 obtain⟨ans,hans⟩:∃ans,ans=ax (a,b) (c,d):=⟨_,rfl⟩;rw[<-hans];rw[nZ]at hans;obtain⟨x,hx⟩:∃x,x=cx a c:=⟨_,rfl⟩;obtain⟨y,hy⟩:∃y,y=cx b d:=⟨_,rfl⟩;rw[<-hx,<-hy]at hans;have H:M6 (_/\_/\_):=⟨hans,hx,hy⟩;clear hans hx hy;rw[<-H.out.2.1,<-H.out.2.2];go_enter Tj,SK
 go_wp2_with fail
 generalize hw2:(w.alloc (MP #[MF ME a,MF ME b] 109)).alloc (MP #[MF ME c,MF ME d] 109)=w2;have k1:w2.cell? ⟨w.heap.size,0,MH⟩=MI (MF ME a):=by rw[<-hw2];simp
 have k2:w2.cell? ⟨w.heap.size,1,MH⟩=MI (MF ME b):=by rw[<-hw2];simp
 have k3:w2.cell? ⟨w.heap.size+1,0,MH⟩=MI (MF ME c):=by rw[<-hw2];simp
 have k4:w2.cell? ⟨w.heap.size+1,1,MH⟩=MI (MF ME d):=by rw[<-hw2];simp
 have HW:M6 _:=hw2;clear hw2
 go_region_held3 (fun w'=>w'.cell? ⟨w.heap.size,0,MH⟩=MI (MF ME a)/\w'.cell? ⟨w.heap.size,1,MH⟩=MI (MF ME b)/\w'.cell? ⟨w.heap.size+1,0,MH⟩=MI (MF ME c)/\w'.cell? ⟨w.heap.size+1,1,MH⟩=MI (MF ME d)/\MQ w2.heap.size w2 w') (first|exact lr k1 k2 k3 k4 ((MY _ _).drew)|exact lr k1 k2 k3 k4 (((MY _ _).drew).alloc (MV _) _)) (first|(go_at_call_of 53 (MF ME a);refine(jZ a c _).mono ?_;rw[<-H.out.2.1];rintro r w1 ⟨rfl,rfl⟩)|(go_at_call_of 53 (MF ME b);refine(jZ b d _).mono ?_;rw[<-H.out.2.2];rintro r w1 ⟨rfl,rfl⟩)|(go_at_call 89;refine(oq x y w2.heap.size _ (by simp) (by simp)).mono ?_;rw[<-H.out.1];rintro r w1 ⟨rfl,rfl⟩))
 go_wp2;go_ret;exact⟨rfl,by rw[HW.out]⟩
section
open Go.Shelf Go.Lib Go.Sort
def gV(t:Tm):List Value:=[MF ME t.1,MF ME t.2]
theorem uA(l:List Tm):flatK gV 2 l.toArray=(ag l).toArray:=by
 refine ext_get! (by simp[bZ]) fun t ht=>?_
 have ht':t<l.length*2:=by simpa using ht
 rw[get_flatK _ _ _ t (by simpa using ht')];have hj:t / 2<l.length:=by omega
 obtain⟨h0,h1⟩:=fi l (t / 2) hj;have e:(l.toArray)[t / 2]! = l[t / 2]:=by simp[hj]
 rw[e];rcases Nat.mod_two_eq_zero_or_one t with m|m
 ·rw[m]
  have:(ag l)[t]?=MI (MF ME l[t / 2].1):=by rw[<-h0];congr 1;omega
  simp[gV,this]
 ·rw[m]
  have:(ag l)[t]?=MI (MF ME l[t / 2].2):=by rw[<-h1];congr 1;omega
  simp[gV,this]
theorem jA(x y:Tm):ltOf ax x y=Nw↔ax x y<0:=by unfold ltOf;simp
theorem tF:SWO (ltOf ax)where
 irrefl x:=by rw[<-Qc,jA];exact lS x
 trans x y z h1 h2:=by rw[jA]at *;exact ko h1 h2
 ntrans x y z h1 h2:=by rw[<-Qc,jA,i8]at *;omega
theorem vj(x y:Tm)(h1:ltOf ax x y=Nb)(h2:ltOf ax y x=Nb):x=y:=by
 rw[<-Qc,jA,i8]at *;obtain⟨a,b⟩:=x;obtain⟨c,d⟩:=y;simp only at h1 h2;have e1:a=c:=by omega
 have e2:b=d:=by omega
 rw[e1,e2]
def gR(l:List Tm):List Tm:=l.mergeSort fun x y=>!(ltOf ax) y x
theorem nG(l:List Tm):(gR l).Perm l:=List.mergeSort_perm _ _
theorem pK(l:List Tm):(gR l).length=l.length:=(nG l).length_eq
theorem DD(h:l.Nodup):(gR l).Pairwise (fun a b=>ax a b<0):=by
 have h1:(gR l).Pairwise (fun x y=>(!(ltOf ax) y x)=Nw):=List.pairwise_mergeSort (le:=fun x y=>!(ltOf ax) y x)
  (fun a b c h1 h2=>by simp only[SX]at *;exact tF.ntrans _ _ _ h2 h1)
  (fun a b=>by
   cases e:ltOf ax b a with
   |false=>simp
   |true =>
    have e':ltOf ax a b=false:=by rw[<-Qc,jA];rw[jA]at e;intro h;exact lS _ (ko h e)
    simp[e']) l
 have h2:(gR l).Nodup:=(nG l).nodup_iff.2 h;refine(h1.and h2).imp fun {a b} ⟨ha,hn⟩=>?_
 simp only[SX]at ha;rw[<-jA];cases e:ltOf ax a b with
 |true=>rfl
 |false=>exact absurd (vj a b e ha) hn
theorem Ff(blk off size:Nat)(w:MO):CmpLays MK 70 #[] gV 2 ax blk off size w :=
 fun m os dk _ x y=>(D0 x.1 x.2 y.1 y.2 _).mono (by
  rintro r w' ⟨h1,rfl⟩;exact⟨h1,1,_,by rw[PQ,PQ,PQ,grow_grow,grow_grow];rfl⟩)
theorem yB(w:MO)(g n k:Nat)(d:Array Tm)(os:Array Obj)(hk:k<w.heap.size)(hne:k≠g):(sortWorldK gV 2 w g 0 n d os).heap[k]?=w.heap[k]?:=by
 unfold sortWorldK Oj putRowK putRow Th Ts;simp only;rw[Rt (by simpa using hk),Qp,Nf (Pi hne)]
theorem A3(w:MO)(g n:Nat)(d:Array Tm)(os:Array Obj)(cur:Array M7)(e:NU)(hg:w.heap[g]?=MI (MP cur e (0,0))):(sortWorldK gV 2 w g 0 n d os).heap[g]?=MI (MP (putCells id 0 (flatK gV 2 d) cur) e (0,0)):=by
 have hk:=(Array.getElem?_eq_some_iff.1 hg).1;unfold sortWorldK Oj putRowK putRow Th Ts;simp only;rw[Rt (by simpa using hk),Qp,Nh rfl,hg];rfl
theorem yk(xs:List M7)(cur:Array M7)(h:xs.length<=cur.size):(putCells id 0 xs.toArray cur).toList.take xs.length=xs:=by
 apply Ot;intro i
 by_cases hi:i<xs.length
 ·rw[O0 hi]
  unfold putCells;simp[hi,show i<cur.size by omega]
 ·rw[Nz (by simp;omega),Nz (by omega)]
theorem Cd(base:Nat)(v:M7)(l:List Tm)(w:MO)(hown:w.ownsRow base 109 2 v l.length (ag l))(hl:l.length<=1000000) :
  Ni MK 69 #[v,PB (PD 70) #[] #[]] w fun r w'=>r=MN (Nv #[])/\w'.ownsRow base 109 2 v l.length (ag (gR l))/\w.grownBy w' v.ownBlock:=by
 have hown0:=hown;obtain⟨hlen,⟨rfl,h0⟩|⟨g,cap,cur,rfl,hb,hg,hn,hm,hs,ht⟩⟩:=hown
 ·obtain rfl:l=[]:=List.length_eq_zero_iff.1 h0
  refine(AnyF.slices_SortFunc_none {tM with} MH 0 (PB (PD 70) #[] #[]) w).mono ?_;rintro r w' ⟨rfl,rfl⟩;exact⟨rfl,by simpa [gR]using hown0,⟨rfl,rfl,rfl,MV _,fun _ _ _=>rfl⟩⟩
 ·have hlt:g<w.heap.size:=(Array.getElem?_eq_some_iff.1 hg).1
  have hH:HoldsK gV 2 w g 0 l.toArray:=by
   unfold HoldsK;rw[uA];intro j hj;have hj':j<(ag l).length:=by simpa using hj
   have hj2:j<l.length*2:=by rw[<-bZ];exact hj'
   have hc:cur.toList[j]?=(ag l)[j]?:=by rw[<-ht,O0 hj2]
   refine⟨?_,by simp[Ng,hg]⟩;simp only[Nl,hg,Oa];have hj3:j<cur.size:=by rw[hs];have:=O7 2 hn;omega
   simp only[Array.getElem?_toList]at hc;rw[MR hj']at hc;simp[hc,hj']
  have eg:∀args w,(callFunc 70 args).run MK w=.ok (.enter 70 args) w:=enters_of Tj (by kernel_rfl) rfl;have hcon:=AnyQ.slices_SortFunc_total tM 2 (fun w=>by kernel_rfl) (fun w=>by kernel_rfl) gV (fun _=>rfl) (fun x v hv=>by simp[gV]at hv;rcases hv with rfl|rfl <;> rfl) ax tF 70 #[] g 0 cap l.toArray w eg (Ff g 0 _ w) hH hlt (by simp;omega) vj;refine hcon.mono ?_;rintro r w' ⟨rfl,n,os,rfl⟩;have e1:(l.toArray.toList.mergeSort fun x y=>!(ltOf ax) y x).toArray=(gR l).toArray:=rfl;rw[e1];have hle:(ag (gR l)).length=l.length*2:=by rw[bZ,pK]
  refine⟨rfl,⟨by rw[hle],NF ⟨g,cap,_,rfl,hb,A3 w g n _ os cur _ hg,hn,hm,by unfold putCells;simpa using hs,?_⟩⟩,?_⟩
  ·rw[uA,<-hle]
   exact yk _ _ (by rw[hle,hs];exact O7 2 hn)
  ·exact⟨rfl,rfl,rfl,by unfold sortWorldK Oj putRowK putRow Th Ts;simp,fun k hk hne=>yB w g n k _ os hk (fun e=>hne (by rw[e];rfl))⟩
end
theorem m7(a b id:Int)(g:Nat)(w:MO)(h:w.cell? ⟨g,0,MH⟩=MI (MF ME id)) :
  Ni MK 181 #[Ny #[MF ME a,MF ME b],Na (MI ⟨g,0,MH⟩)] w fun r w'=>r=MN (M3 (Nn (b=id)))/\w'=w.alloc (MP #[MF ME a,MF ME b] 109):=by
 have hlt:g<w.heap.size:=MX w ⟨g,0,MH⟩ h
 by_cases hb:b=id
 ·subst hb
  go_enter Tryz.func181,Tryz.ntmps181;go_wp2;go_ret;exact⟨by simp,rfl⟩
 ·have he:(b == id)=false:=by simpa using hb
  have hd:Nn (b=id)=false:=M0 hb;rw[hd];clear hb;go_enter Tryz.func181,Tryz.ntmps181;go_wp2;go_ret;exact⟨rfl,rfl⟩
theorem AJ(v:M7)(l:List Tm)(id:Int)(g:Nat)(w:MO)(hv:aO w v l)(h:w.cell? ⟨g,0,MH⟩=MI (MF ME id))(hex:∃t∈l,t.2=id) :
  Ni MK 221 #[v,PB (PD 181) #[] #[Na (MI ⟨g,0,MH⟩)]] w fun r w'=>∃(k:Nat) (hk:k<l.length),r=MN (MF ME k)/\l[k].2=id/\(∀t∈l.take k,t.2≠id)/\MQ w.heap.size w w':=by
 obtain⟨a,ca,rfl,hca,hma,pa⟩:=hv.F6;unfold NE at hma;have hglt:=MX w ⟨g,0,MH⟩ h;have HH:M6 (_/\_):=⟨h,hex⟩;clear h hex hv;go_enter UU,UH;go_wp2
 go_loopw [8] (fun i wr=>∃k:Nat,i=MF ME k/\k<=l.length/\(∀t∈l.take k,t.2≠id)/\MQ w.heap.size w wr) (fun i _=>l.length-(intOf i).toNat)
 case atStart=>exact⟨0,rfl,Nx _,by simp,MY _ _⟩
 case round =>
  obtain⟨k,rfl,hk,hall,hbr⟩:=hrel
  by_cases hlt:k<l.length
  ·obtain⟨b1,o1,rfl,hb1,c1,d1⟩:=pa k hlt
   have e1:=(hbr.cell (p:=⟨b1,o1+k*2,MH⟩) hb1).trans c1;have e2:=(hbr.cell (p:=⟨b1,o1+k*2+1,MH⟩) hb1).trans d1;have e3:=(hbr.cell (p:=⟨g,0,MH⟩) hglt).trans HH.out.1;have HA:M6 (_/\_/\_):=⟨hall,hbr,e3⟩;have hkI:(k:Int)<(l.length:Int):=by omega
   have htk:l.take (k+1)=l.take k++[l[k]]:=M9 hlt;obtain⟨xa,hxa⟩:∃xa,xa=l[k].1:=⟨_,rfl⟩;obtain⟨xd,hxd⟩:∃xd,xd=l[k].2:=⟨_,rfl⟩;rw[<-hxa]at e1;rw[<-hxd]at e2;have HX:M6 (_/\_):=⟨htk,hxd⟩;clear hall hbr c1 d1 hb1 htk hxa hxd e3 pa;cases hd:Nn (xd=id)
   ·go_wp2_with fail
    refine(m7 xa xd id g _ HA.out.2.2).mono ?_;rw[hd];rintro r w2 ⟨rfl,rfl⟩;go_wp2
    go_roundw
    case rel =>
     refine⟨k+1,by simp,hlt,fun t ht=>?_,HA.out.2.1.alloc HA.out.2.1.size _⟩;rw[HX.out.1]at ht;rcases List.mem_append.1 ht with ht|ht
     ·exact HA.out.1 t ht
     ·rw[List.mem_singleton.1 ht,<-HX.out.2]
      exact Nc hd
    case measure=>simp[intOf];omega
   ·go_wp2_with fail
    refine(m7 xa xd id g _ HA.out.2.2).mono ?_;rw[hd];rintro r w2 ⟨rfl,rfl⟩;go_wp2;go_ret;exact⟨k,hlt,rfl,by rw[<-HX.out.2];exact M2 hd,HA.out.1,HA.out.2.1.alloc HA.out.2.1.size _⟩
  ·exfalso
   obtain⟨t,ht,e⟩:=HH.out.2;exact hall t (by rw[N1 (by omega)];exact ht) e
def dw(b k:Nat):List Tm:=(Pm k).map fun i=>(((eR b i:Nat):Int),(b:Int))
theorem qS(b k:Nat):dw b (k+1)=dw b k++[(((eR b k:Nat):Int),(b:Int))]:=by
 unfold dw;rw[ZqB,OI];rfl
theorem uZ(b k:Nat):(dw b k).length=k:=by simp[dw]
def wt(a:List Int)(b:Nat):Nat:=(a.getD b 0).toNat
def cL(a:List Int):Nat->List Tm
 |0=>[]
 |n+1=>cL a n++dw n (wt a n*4)
structure aZ(a:List Int):Prop where
 len:a.length=12
 low:∀b,0<=a.getD b 0
 high:∀b,a.getD b 0<=8
theorem aZ.Hw{a:List Int}(h:aZ a)(b:Nat):wt a b<=8:=by
 have:=h.high b;unfold wt;omega
theorem ne{a:List Int}(h:aZ a):∀n,(cL a n).length<=n*32
 |0=>by simp[cL]
 |n+1=>by
  have h1:=ne h n;have h2:=h.Hw n;rw[cL,Ns,uZ];omega
def ao(a:List Int):List Tm:=gR (cL a 12)
theorem qV{a:List Int}(h:aZ a):(ao a).length<=384:=by
 unfold ao;rw[pK];exact ne h 12
theorem dr:(Tryz.prog.info? 101).map (·.size)=MI 12:=by kernel_rfl
theorem tK(a:List Int)(k:Nat)(ha:a.length=12)(hk:k<12)(w:MO):(Qy 101 (Ny (aj a).toArray) (MF ME (k:Int))).run MK w=.ok (MF ME (a.getD k 0)) w:=by
 have h:(0:Int)<=(k:Int)/\(k:Int)<((12:Nat):Int):=by omega
 have e:(aj a)[k]?=MI (MF ME (a.getD k 0)):=by
  unfold aj;rw[List.getElem?_map,MR (by omega),NK,MR (by omega)];rfl
 simp[Qy,run_underlying U2,asIntOf,h,go_sem,part,e];omega
theorem tv(a:List Int)(w:MO)(ha:aZ a) :
  Ni MK 49 #[Ny (aj a).toArray] w fun r w'=>∃v,r=MN v/\w'.ownsRow w.heap.size 109 2 v (ao a).length (ag (ao a))/\MQ w.heap.size w w':=by
 obtain⟨i0,hi,hz0,hz1,hz2⟩:=OF rX;have HA:M6 _:=ha;have hlen:=ha.len;have hiW:(Tryz.prog.info? 101).map (·.size)=MI (aj a).length:=by rw[dr,dm,hlen]
 have HI0:M6 _:=hiW;clear hiW;go_enter Tryz.func49,Tryz.ntmps49
 go_wp2_with (refine O3 rfl 101 (O6 1) rfl w.heap.size 0 rfl (aj a) _ (aC.new w _ a).Gq U2 rfl HI0.out ?_)
 obtain⟨W0,hW0⟩:∃W0,W0=w.alloc (MP (aj a).toArray 101):=⟨_,rfl⟩;have hb0:MQ w.heap.size w W0:=by rw[hW0];exact(MY _ _).alloc (MV _) _
 have hs0:W0.heap.size=w.heap.size+1:=by rw[hW0];simp
 rw[<-hW0];have H0:M6 _:=hb0;clear hb0 hW0
 go_loopw [3,10] (fun x t wr=>∃i:Nat,t=MF ME i/\i<=12/\wr.ownsRow W0.heap.size 109 2 x (cL a i).length (ag (cL a i))/\MQ W0.heap.size W0 wr) (fun _ t _=>12-(intOf t).toNat)
 case atStart=>exact⟨0,rfl,Nx _,NY _ _ _ _,MY _ _⟩
 case round =>
  obtain⟨i,rfl,hil,hrow,hbi⟩:=hrel
  by_cases hlt:i<12
  ·have hx:=tK a i hlen hlt
   have hlow:=HA.out.low i;have hhigh:=HA.out.high i;have hwt:a.getD i 0=((wt a i:Nat):Int):=by unfold wt;omega
   rw[hwt]at hx;have hw8:=HA.out.Hw i;have hr1:=ne HA.out i;have HI:M6 (_/\_):=⟨hrow,hbi⟩;clear hrow hbi hlow hhigh hwt;have hraw:cL a (i+1)=cL a i++dw i (wt a i*4):=rfl;have HR:M6 _:=hraw;clear hraw;generalize wt a i=m at *;have hmI:(i:Int)<12:=by omega
   go_wp2
   go_loopw [3,16] (fun x t wr=>∃k:Nat,t=MF ME k/\k<=m*4/\wr.ownsRow W0.heap.size 109 2 x (cL a i++dw i k).length (ag (cL a i++dw i k))/\MQ W0.heap.size W0 wr) (fun _ t _=>m*4-(intOf t).toNat)
   case atStart=>exact⟨0,rfl,Nx _,by simpa [dw]using HI.out.1,HI.out.2⟩
   case round =>
    obtain⟨k,rfl,hk,hrk,hbk⟩:=hrel
    by_cases hkL:k<m*4
    ·have hkI:(k:Int)<(m:Int)*4:=by omega
     have hk32:k<32:=by omega
     have hcell:cL a i++dw i (k+1)=(cL a i++dw i k)++[(((eR i k:Nat):Int),(i:Int))]:=by rw[qS,OC]
     have hpl:(cL a i++dw i k).length<=1048576:=by rw[Ns,uZ];omega
     have hsp:=fun W=>Am i k W hlt hk32
     obtain⟨sp,hh⟩:∃sp,sp=eR i k:=⟨_,rfl⟩;obtain⟨Q,hQ⟩:∃Q,Q=cL a i++dw i k:=⟨_,rfl⟩;rw[<-hh,<-hQ]at hcell;rw[<-hh]at hsp;rw[<-hQ]at hrk hpl;have HK:M6 (_/\_/\_/\_/\_):=⟨hrk,hbk,hcell,hQ,hsp⟩;clear hrk hbk hcell hQ hsp hh
     go_wp2_with fail
     refine(HK.out.2.2.2.2 _).mono ?_;rintro r w3 ⟨rfl,hg3⟩;have hb3:MQ wr.heap.size wr w3:=hg3;have HB:M6 (_/\_):=⟨cq HK.out.1 hb3,HK.out.2.1.trans (hb3.mono HK.out.2.1.size)⟩;have hbsz:=HB.out.2.size;clear hg3 hb3
     go_wp2_with (first|(at_builtin;refine O9 _ rfl _ _ 44 rfl W0.heap.size 109 i0 _ 2 16 RA hi hz0 hz1 hz2 rfl (by decide) u3 _ _ rfl (HB.out.1.alloc _) _ 1 1 (ag [((sp:Int),(i:Int))]) rfl rfl (iV _ _ _) (gg _) (by decide) (by unfold NE;omega) (by omega) (by simp;omega) _ rfl ?_;intro g' cap w2 hown2 hg2 hlies hlt2))
     go_wp2
     go_roundw
     case rel =>
      refine⟨k+1,by simp,hkL,?_,?_⟩
      ·rw[HK.out.2.2.1,fw,Ns]
       exact hown2
      ·have h1:=HB.out.2.alloc HB.out.2.size (MP #[MF ME (sp:Int),MF ME (i:Int)] 109)
       exact h1.grown hg2 h1.size (fun j e=>(HB.out.1.lt j e).1)
     case measure=>simp[intOf];omega
    ·obtain rfl:k=m*4:=by omega
     have HK:M6 (_/\_):=⟨hrk,hbk⟩;clear hrk hbk;go_wp2
     go_roundw
     case rel=>exact⟨i+1,by simp,by omega,by rw[HR.out];exact HK.out.1,HK.out.2⟩
     case measure=>simp[intOf];omega
  ·obtain rfl:i=12:=by omega
   have hr12:=ne HA.out 12;have HK:M6 (_/\_):=⟨hrow,hbi⟩;clear hrow hbi
   go_wp2_with fail
   refine(Cd W0.heap.size u3 (cL a 12) _ HK.out.1 (by omega)).mono ?_;rintro r w3 ⟨rfl,hown3,hg3⟩;have H3:M6 (_/\_):=⟨hown3,hg3⟩;clear hown3 hg3;go_wp2;go_ret;refine⟨_,rfl,?_,H0.out.trans ((HK.out.2.grown H3.out.2 HK.out.2.size (fun j e=>(HK.out.1.lt j e).1)).mono H0.out.size)⟩;have h4:=H3.out.1.mono (base':=w.heap.size) (by omega);unfold ao;rw[pK];exact h4
theorem mz(n:Int)(w:MO):Ni MK 47 #[MF ME n] w fun r w'=>r=MN (M3 (Nn (0<=n/\n<12)))/\w'=w:=by
 obtain⟨ans,hans⟩:∃ans,ans=Nn (0<=n/\n<12):=⟨_,rfl⟩;rw[<-hans];have H:M6 _:=hans;clear hans;cases h1:Nn (0<=n)
 ·go_enter WH,Wy
  go_wp2;go_ret;exact⟨by rw[H.out,M0 (fun h=>Nc h1 h.1)];rfl,rfl⟩
 ·cases h2:Nn (n<12)
  ·go_enter WH,Wy
   go_wp2;go_ret;exact⟨by rw[H.out,M0 (fun h=>Nc h2 h.2)];rfl,rfl⟩
  ·go_enter WH,Wy
   go_wp2;go_ret;exact⟨by rw[H.out,Nq ⟨M2 h1,M2 h2⟩];rfl,rfl⟩
theorem AV(n:Int)(w:MO):Ni MK 224 #[MF ME n] w fun r w'=>r=MN (M3 (Nn (1<=n/\n<=8)))/\w'=w:=by
 obtain⟨ans,hans⟩:∃ans,ans=Nn (1<=n/\n<=8):=⟨_,rfl⟩;rw[<-hans];have H:M6 _:=hans;clear hans;cases h1:Nn (1<=n)
 ·go_enter Uk,Ua
  go_wp2;go_ret;exact⟨by rw[H.out,M0 (fun h=>Nc h1 h.1)];rfl,rfl⟩
 ·cases h2:Nn (n<=8)
  ·go_enter Uk,Ua
   go_wp2;go_ret;exact⟨by rw[H.out,M0 (fun h=>Nc h2 h.2)];rfl,rfl⟩
  ·go_enter Uk,Ua
   go_wp2;go_ret;exact⟨by rw[H.out,Nq ⟨M2 h1,M2 h2⟩];rfl,rfl⟩
theorem nc(a:List Int)(n:Int)(w:MO)(hlen:a.length=12) :
  Ni MK 30 #[Ny (aj a).toArray,MF ME n] w fun r w'=>r=MN (M3 (Nn (0<=n/\n<12/\0<a.getD n.toNat 0)))/\MQ w.heap.size w w':=by
 by_cases hn:0<=n/\n<12
 ·obtain⟨k,rfl⟩:=NL hn.1
  have hk:k<12:=by omega
  have hd:Nn (0<=(k:Int)/\(k:Int)<12)=true:=Nq hn;obtain⟨x,hx⟩:∃x,x=a.getD k 0:=⟨_,rfl⟩;have hA:=aC.new w 101 a;have hc:(w.alloc (MP (aj a).toArray 101)).cell? ⟨w.heap.size,k,MH⟩=MI (MF ME x):=by
   rw[hA.F7 k (by omega),hx,NK,MR (by omega)];rfl
  have hans:Nn (0<=(k:Int)/\(k:Int)<12/\0<a.getD (k:Int).toNat 0)=Nn (0<x):=by
   rw[NR,<-hx];exact decide_eq_decide.2 ⟨fun h=>h.2.2,fun h=>⟨by omega,by omega,h⟩⟩
  rw[hans];have hb0:MQ w.heap.size w (w.alloc (MP (aj a).toArray 101)):=(MY _ _).alloc (MV _) _;have HB:M6 _:=hb0;have HD:M6 _:=hd;clear hb0 hans hx hA hd;go_enter Tryz.func30,Tryz.ntmps30
  go_wp2_with fail
  refine(mz _ _).mono ?_;rw[HD.out];rintro r w1 ⟨rfl,hw1⟩;rw[<-hw1]at hc;have HW:M6 _:=hw1;clear hw1;go_wp2;go_ret;exact⟨rfl,by rw[HW.out];exact HB.out⟩
 ·have hd:Nn (0<=n/\n<12)=false:=M0 hn
  have hans:Nn (0<=n/\n<12/\0<a.getD n.toNat 0)=false:=M0 fun h=>hn ⟨h.1,h.2.1⟩
  rw[hans];have HD:M6 _:=hd;clear hans hd;go_enter Tryz.func30,Tryz.ntmps30
  go_wp2_with fail
  refine(mz _ _).mono ?_;rw[HD.out];rintro r w1 ⟨rfl,rfl⟩;go_wp2;go_ret;exact⟨rfl,(MY _ _).alloc (MV _) _⟩
theorem zM(u v:M7)(l m:List Tm)(w:MO)(hu:aO w u l)(hv:aO w v m) :
  Ni MK 48 #[u,v] w fun r w'=>r=MN (M3 (Nn (l=m)))/\∃q,w'=w.drewN q:=by
 obtain⟨a,ca,rfl,hca,hma,pa⟩:=hu.F6;obtain⟨b,cb,rfl,hcb,hmb,pb⟩:=hv.F6;unfold NE at hma hmb
 by_cases hlen:l.length=m.length
 ·have HL:M6 (l.length=m.length):=hlen
  rw[<-hlen]at hcb⊢;clear hlen;go_enter Sd,RR;go_wp2
  go_loopw [13] (fun i wr=>∃k:Nat,i=MF ME k/\k<=l.length/\(∀j,j<k->l[j]?=m[j]?)/\∃q,wr=w.drewN q) (fun i _=>l.length-(intOf i).toNat)
  case atStart=>exact⟨0,rfl,Nx _,fun j hj=>absurd hj (QH _),0,rfl⟩
  case round =>
   obtain⟨k,rfl,hk,hall,q,rfl⟩:=hrel;have HA:M6 _:=hall;clear hall
   by_cases hlt:k<l.length
   ·obtain⟨b1,o1,rfl,hb1,c1,d1⟩:=pa k hlt
    obtain⟨b2,o2,rfl,hb2,c2,d2⟩:=pb k (by rw[<-HL.out];exact hlt);clear hb1 hb2 pa pb;obtain⟨x1,hx1⟩:∃x,x=l[k].1:=⟨_,rfl⟩;obtain⟨y1,hy1⟩:∃x,x=l[k].2:=⟨_,rfl⟩;obtain⟨x2,hx2⟩:∃x,x=(m[k]'(by rw[<-HL.out];exact hlt)).1:=⟨_,rfl⟩;obtain⟨y2,hy2⟩:∃x,x=(m[k]'(by rw[<-HL.out];exact hlt)).2:=⟨_,rfl⟩;rw[<-hx1]at c1;rw[<-hy1]at d1;rw[<-hx2]at c2;rw[<-hy2]at d2;have HX:M6 (_/\_/\_/\_):=⟨hx1,hy1,hx2,hy2⟩;clear hx1 hy1 hx2 hy2;rcases Bi x1 y1 x2 y2 with⟨rfl,rfl⟩|hne
    ·go_wp2
     go_region
     go_wp2
     go_roundw
     case rel =>
      refine⟨k+1,by simp,hlt,fun j hj=>?_,q+1,rfl⟩;rcases Nat.lt_succ_iff_lt_or_eq.1 hj with h|rfl
      ·exact HA.out j h
      ·rw[MR hlt,MR (by rw[<-HL.out];exact hlt)]
       obtain⟨h1,h2,h3,h4⟩:=HX.out;exact congrArg MI (Q8 (h1.symm.trans h3) (h2.symm.trans h4))
     case measure=>simp[intOf];omega
    ·have HN:M6 (Nn (l=m)=Nb):=by
      refine M0 fun h=>?_
      subst h;obtain⟨h1,h2,h3,h4⟩:=HX.out;rcases hne with hne|⟨_,hne⟩
      ·rw[h1,<-h3]at hne;simp at hne
      ·rw[h2,<-h4]at hne;simp at hne
     rcases hne with hne|⟨rfl,hne⟩
     all_goals
      go_wp2
      go_region
      go_wp2;go_ret;exact⟨by rw[HN.out];rfl,q+1,rfl⟩
   ·have HE:M6 (Nn (l=m)=Nw):=by
     refine Nq (Ot fun j=>?_);rcases Oq j k with h|h
     ·exact HA.out j h
     ·rw[Nz (by omega),Nz (by rw[<-HL.out];omega)]
    clear pa pb;go_wp2;go_ret;exact⟨by rw[HE.out];rfl,q,rfl⟩
 ·have HN:M6 (Nn (l=m)=Nb):=M0 fun h=>hlen (by rw[h])
  clear pa pb;have hne:((l.length:Int) != (m.length:Int))=true:=by simp[bne_iff_ne];omega
  go_enter Sd,RR;go_wp2;go_ret;exact⟨by rw[HN.out];rfl,0,rfl⟩
def bt(l:List Tm)(b:Nat):Nat:=l.countP fun t=>Nn (t.2=(b:Int))
theorem pn(l m:List Tm)(b:Nat):bt (l++m) b=bt l b+bt m b:=Qi ..
theorem zP{m:List Tm}(h:l.Perm m)(b:Nat):bt l b=bt m b:=h.countP_eq _
theorem qj(l:List Tm)(b:Nat):bt l b<=l.length:=List.countP_le_length
theorem uL(c b:Nat):∀k,bt (dw c k) b=if c=b then k else 0
 |0=>by simp[dw,bt]
 |k+1=>by
  rw[qS,pn,uL c b k]
  by_cases h:c=b
  ·simp[h,bt]
  ·simp[h,bt]
   omega
theorem uN(a:List Int)(b:Nat):∀n,bt (cL a n) b=if b<n then wt a b*4 else 0
 |0=>by simp[cL,bt]
 |n+1=>by
  rw[cL,pn,uN a b n,uL]
  by_cases h1:b<n
  ·rw[Nh h1,Nf (by omega),Nh (by omega)];omega
  ·rw[Nf h1]
   by_cases h2:n=b
   ·subst h2;rw[Nh rfl,Nh (by omega)];omega
   ·rw[Nf h2,Nf (by omega)]
theorem oZ{b:Nat}:t∈dw b k↔∃i,i<k/\t=(((eR b i:Nat):Int),(b:Int)):=by
 unfold dw;simp only[List.mem_map,List.mem_range];exact⟨fun⟨i,h,e⟩=>⟨i,h,e.symm⟩,fun⟨i,h,e⟩=>⟨i,h,e.symm⟩⟩
theorem oj{a:List Int}{t:Tm}:∀ {n},t∈cL a n↔∃b i,b<n/\i<wt a b*4/\t=(((eR b i:Nat):Int),(b:Int))
 |0=>by simp[cL]
 |n+1=>by
  rw[cL,QF,oj (n:=n),oZ];constructor
  ·rintro(⟨b,i,h1,h2,h3⟩|⟨i,h1,h2⟩)
   ·exact⟨b,i,by omega,h2,h3⟩
   ·exact⟨n,i,by omega,h1,h2⟩
  ·rintro⟨b,i,h1,h2,h3⟩
   by_cases h:b=n
   ·subst h;exact NF ⟨i,h2,h3⟩
   ·exact Nt ⟨b,i,by omega,h2,h3⟩
theorem ln{a:List Int}:t∈ao a↔∃b i,b<12/\i<wt a b*4/\t=(((eR b i:Nat):Int),(b:Int)):=by
 unfold ao;rw[(nG _).mem_iff,oj]
def d8(l:List Tm):List Int:=(Pm 12).map fun b=>((bt l b:Nat):Int)
def aJ(l:List Tm):List Int:=(Pm 12).map fun b=>((bt l b / 4:Nat):Int)
theorem fT(l:List Tm):(d8 l).length=12:=by simp[d8]
theorem kb(l:List Tm):(aJ l).length=12:=by simp[aJ]
theorem n7(l:List Tm)(b:Nat)(h:b<12):(d8 l).getD b 0=((bt l b:Nat):Int):=by simp[d8,h]
theorem tO(l:List Tm)(b:Nat)(h:b<12):(aJ l).getD b 0=((bt l b / 4:Nat):Int):=by simp[aJ,h]
theorem ui(l:List Tm)(b:Nat)(h:¬b<12):(aJ l).getD b 0=0:=by simp[aJ,h]
theorem tQ(l:List Tm)(t:Tm)(b:Nat)(hb:b<12)(ht:t.2=(b:Int)):d8 (l++[t])=(d8 l).set b (((bt l b:Nat):Int)+1):=by
 apply Ot;intro j
 by_cases hj:j<12
 ·have e:bt (l++[t]) j=bt l j+if j=b then 1 else 0:=by
   rw[pn]
   congr 1
   by_cases h:j=b
   ·subst h;simp[bt,ht]
   ·simp[bt,ht,h];omega
  by_cases h:j=b
  ·subst h
   rw[N7 (by rw[fT];exact hj)];simp[d8,hj,e]
  ·rw[N3 (Pi h)]
   simp[d8,hj,e,h]
 ·rw[Nz (by rw[fT];omega),Nz (by rw[NA,fT];omega)]
def bD(l:List Tm):Prop:=∃a,aZ a/\l=ao a
theorem xB{a:List Int}(h:aZ a)(b:Nat):((wt a b:Nat):Int)=a.getD b 0:=by
 have:=h.low b;unfold wt;omega
theorem nb(a:List Int)(b:Nat)(hb:b<12):bt (ao a) b=wt a b*4:=by
 unfold ao;rw[zP (nG _),uN,Nh hb]
theorem l0{a:List Int}(h:aZ a):aJ (ao a)=a:=by
 apply Ot;intro j
 by_cases hj:j<12
 ·have e:=nb a j hj
  have e2:=xB h j;have hj':j<a.length:=by rw[h.len];exact hj
  rw[MR hj'];rw[NK,MR hj']at e2;simp only[OV]at e2;simp[aJ,hj,e,e2]
 ·rw[Nz (by rw[kb];omega),Nz (by rw[h.len];omega)]
theorem qQ(h:∀b,b<12->bt l b<=32):aZ (aJ l):=by
 refine⟨kb l,fun b=>?_,fun b=>?_⟩
 ·by_cases hb:b<12
  ·rw[tO l b hb];omega
  ·rw[ui l b hb];omega
 ·by_cases hb:b<12
  ·rw[tO l b hb];have:=h b hb;omega
  ·rw[ui l b hb];omega
theorem tE(h:∀b,b<12->bt l b<=32):bD l↔l=ao (aJ l):=by
 constructor
 ·rintro⟨a,ha,rfl⟩
  rw[l0 ha]
 ·intro e
  exact⟨aJ l,qQ h,e⟩
theorem qy(h:bD l):∀t∈l,0<=t.2/\t.2<12:=by
 obtain⟨a,ha,rfl⟩:=h;intro t ht;obtain⟨b,i,hb,_,rfl⟩:=ln.1 ht;exact⟨by simp,by simp only;omega⟩
theorem oO(h:bD l)(b:Nat)(hb:b<12):bt l b<=32:=by
 obtain⟨a,ha,rfl⟩:=h;rw[nb a b hb];have:=ha.Hw b;omega
theorem uG:(#[MF ME 0,MF ME 0,MF ME 0,MF ME 0,MF ME 0,MF ME 0,MF ME 0,MF ME 0,MF ME 0,MF ME 0,MF ME 0,MF ME 0]:Array M7)=(aj (Nj 12 0)).toArray:=rfl
def wL(l:List Tm)(k:Nat):List Int:=(Pm 12).map fun b=>if b<k then((bt l b / 4:Nat):Int)else 0
theorem mN(l:List Tm)(k:Nat):(wL l k).length=12:=by simp[wL]
theorem wZ(l:List Tm):wL l 0=Nj 12 0:=by simp[wL];rfl
theorem yL(l:List Tm):wL l 12=aJ l:=by
 unfold wL aJ;apply PU;intro b hb;rw[Nh (List.mem_range.1 hb)]
theorem FH(l:List Tm)(k:Nat)(hk:k<12):wL l (k+1)=(wL l k).set k ((bt l k / 4:Nat):Int):=by
 apply Ot;intro j
 by_cases hj:j<12
 ·by_cases h:j=k
  ·subst h
   rw[N7 (by rw[mN];exact hj)];simp[wL,hj]
  ·rw[N3 (Pi h)]
   simp[wL,hj,show j<k+1↔j<k by omega]
 ·rw[Nz (by rw[mN];omega),Nz (by rw[NA,mN];omega)]
def pN(l:List Tm)(w:MO)(r:Ending)(w':MO):Prop:=∃(a:List Int) (b:Bool),r=MN (Nv #[Ny (aj a).toArray,M3 b])/\a.length=12/\(b=Nw↔bD l)/\(b=Nw->a=aJ l)/\MQ w.heap.size w w'
theorem th(h:¬bD l)(hb:MQ w.heap.size w w'):pN l w (MN (Nv #[Ny (aj (Nj 12 0)).toArray,M3 Nb])) w' :=
 ⟨Nj 12 0,Nb,rfl,by simp,⟨fun e=>PP e,fun e=>absurd e h⟩,fun e=>PP e,hb⟩
theorem AZ(h:∀b,b<12->bt l b<=32)(hb:MQ w.heap.size w w'):pN l w (MN (Nv #[Ny (aj (aJ l)).toArray,M3 (Nn (l=ao (aJ l)))])) w' :=
 ⟨aJ l,_,rfl,kb l,by rw[decide_eq_true_iff];exact(tE h).symm,fun _=>rfl,hb⟩
theorem mD(v:M7)(l:List Tm)(w:MO)(hv:aO w v l) :
  Ni MK 27 #[Ny #[v]] w (pN l w):=by
 obtain⟨p,c,rfl,hc,hm,pv⟩:=hv.F6;unfold NE at hm;have HV:M6 (_/\_):=⟨hv,pv⟩;clear hv pv;go_enter Tryz.func27,Tryz.ntmps27;go_wp2;rw[uG];obtain⟨W0,hW0⟩:∃W0,W0=(((w.alloc (MP #[MG p l.length c] 46)).alloc (MP (aj (Nj 12 0)).toArray 101)).alloc (MP (aj (Nj 12 0)).toArray 101)).alloc (MP (aj (Nj 12 0)).toArray 101):=⟨_,rfl⟩;rw[<-hW0];have hbW:MQ w.heap.size w W0:=by rw[hW0];exact((((MY _ _).alloc (MV _) _).alloc (by simp) _).alloc (by simp;omega) _).alloc (by simp;omega) _
 have hR0:W0.heap[w.heap.size]?=MI (MP #[MG p l.length c] 46 (0,0)):=by rw[hW0];exact aN _ _ (aN _ _ (aN _ _ (M1 _ _)))
 have hA1:aC 101 12 W0 (w.heap.size+1) (Nj 12 0):=by rw[hW0];exact⟨aN _ _ (aN _ _ (bV _ _ _)),by simp⟩
 have hA2:aC 101 12 W0 (w.heap.size+1+1) (Nj 12 0):=by rw[hW0];exact⟨aN _ _ (by have:=M1 ((w.alloc (MP #[MG p l.length c] 46)).alloc (MP (aj (Nj 12 0)).toArray 101)) (MP (aj (Nj 12 0)).toArray 101);simpa using this),by simp⟩
 have hA3:aC 101 12 W0 (w.heap.size+1+1+1) (Nj 12 0):=by rw[hW0];exact⟨by have:=M1 (((w.alloc (MP #[MG p l.length c] 46)).alloc (MP (aj (Nj 12 0)).toArray 101)).alloc (MP (aj (Nj 12 0)).toArray 101)) (MP (aj (Nj 12 0)).toArray 101);simpa using this,by simp⟩
 have H0:M6 (_/\_/\_/\_/\_):=⟨hbW,hR0,hA1,hA2,hA3⟩;clear hbW hR0 hA1 hA2 hA3 hW0
 go_loopw [13] (fun t wr=>∃k:Nat,t=MF ME k/\k<=l.length/\(∀t∈l.take k,0<=t.2/\t.2<12)/\MQ w.heap.size w wr/\wr.heap[w.heap.size]?=MI (MP #[MG p l.length c] 46 (0,0))/\aC 101 12 wr (w.heap.size+1) (Nj 12 0)/\aC 101 12 wr (w.heap.size+1+1) (d8 (l.take k))/\aC 101 12 wr (w.heap.size+1+1+1) (Nj 12 0)) (fun t _=>l.length-(intOf t).toNat)
 case atStart=>exact⟨0,rfl,Nx _,by simp,H0.out⟩
 case round =>
  obtain⟨k,rfl,hk,hall,hb,hR,h1,h2,h3⟩:=hrel
  by_cases hlt:k<l.length
  ·obtain⟨b0,off,rfl,hb0,c1,c2⟩:=HV.out.2 k hlt
   have e1:=(hb.cell (p:=⟨b0,off+k*2,MH⟩) hb0).trans c1;have e2:=(hb.cell (p:=⟨b0,off+k*2+1,MH⟩) hb0).trans c2;obtain⟨ta,hta⟩:∃ta,ta=l[k].1:=⟨_,rfl⟩;obtain⟨td,htd⟩:∃td,td=l[k].2:=⟨_,rfl⟩;rw[<-hta]at e1;rw[<-htd]at e2;have htk:l.take (k+1)=l.take k++[(ta,td)]:=by rw[M9 hlt,hta,htd]
   have hmem:(ta,td)∈l:=by rw[hta,htd];exact Nk hlt
   have hkI:(k:Int)<(l.length:Int):=by omega
   have HK:M6 (_/\_/\_/\_/\_/\_/\_/\_):=⟨hall,hb,hR,h1,h2,h3,htk,hmem⟩;clear hall hb hR h1 h2 h3 htk hmem hta htd c1 c2
   go_wp2_with fail
   refine(mz _ _).mono ?_;rintro r w1 ⟨rfl,hw1⟩;have hX1:=M1 wr (MP #[MF ME ta,MF ME td] 109);have hs1:w1.heap.size=wr.heap.size+1:=by rw[hw1];simp
   rw[<-hw1]at hX1;have hbw1:MQ wr.heap.size wr w1:=by
    rw[hw1];exact(MY _ _).alloc (MV _) _
   clear hw1;obtain⟨d0,d1,_,_,dlt⟩:=au hX1;have q1:=HK.out.2.2.2.1.below hbw1;have q2:=HK.out.2.2.2.2.1.below hbw1;have q3:=HK.out.2.2.2.2.2.1.below hbw1;have qR:=af HK.out.2.2.1 hbw1;have qb:=HK.out.2.1.trans (hbw1.mono HK.out.2.1.size)
   by_cases hin:0<=td/\td<12
   ·obtain⟨b,rfl⟩:=NL hin.1
    have hb12:b<12:=by omega
    have hbI:(b:Int)<12:=by omega
    have hcl:=q2.F7 b (by rw[fT];exact hb12);have hfz:=q2.Gu b;have hcn:(d8 (l.take k))[b]'(by rw[fT];exact hb12)=((bt (l.take k) b:Nat):Int):=by
     have:=n7 (l.take k) b hb12;rwa[NK,MR (by rw[fT];exact hb12)]at this
    rw[hcn]at hcl;have hxk:bt (l.take k) b<=k:=Nm (qj _ _) (by rw[NH];omega);obtain⟨x,hx⟩:∃x,x=bt (l.take k) b:=⟨_,rfl⟩;rw[<-hx]at hcl hxk;have hd:Nn (0<=(b:Int)/\(b:Int)<12)=true:=Nq hin;rw[hd];have HQ:M6 (_/\_/\_/\_/\_/\_):=⟨q1,q2,q3,qR,qb,hx⟩;clear q1 q2 q3 qR qb hx hcn hd hin hbw1 hX1;go_wp2
    go_roundw
    case rel =>
     obtain⟨q1,q2,q3,qR,qb,hx⟩:=HQ.out;refine⟨k+1,by simp,hlt,fun t ht=>?_,qb.setCell (by simp;omega) _,?_,q1.Hk (by simp) _,?_,q3.Hk (by simp) _⟩
     ·rw[HK.out.2.2.2.2.2.2.1,QF]at ht
      rcases ht with ht|ht
      ·exact HK.out.1 t ht
      ·rw[PY]at ht
       subst ht;exact⟨by simp,by simpa using hbI⟩
     ·rw[MU _ _ _ _ (by simp;omega)]
      exact qR
     ·rw[HK.out.2.2.2.2.2.2.1,tQ _ _ b hb12 rfl,<-hx]
      exact q2.F4 b _
    case measure=>simp[intOf];omega
   ·have hd:Nn (0<=td/\td<12)=false:=M0 hin
    rw[hd];have hst:=(q1.Hq (P:=MK) (b:=Nj 12 0) (by simp) dr).2;have hno:¬bD l:=fun h=>hin (qy h _ HK.out.2.2.2.2.2.2.2)
    obtain⟨W5,hW5⟩:∃W5,W5=w1.setCells (w.heap.size+1) 0 (RW (#[MF ME 0,MF ME 0,MF ME 0,MF ME 0,MF ME 0,MF ME 0,MF ME 0,MF ME 0,MF ME 0,MF ME 0,MF ME 0,MF ME 0]:Array M7)):=⟨_,rfl⟩;have hst5:aC 101 12 W5 (w.heap.size+1) (Nj 12 0):=by rw[hW5];exact hst
    have hb5:MQ w.heap.size w W5:=by rw[hW5];exact kF qb (by omega) _ _ qb.size
    have hone:=OE (iX (Nj 12 0));have HQ:M6 (_/\_/\_/\_/\_):=⟨q1.GB,hb5,hst5,hno,hW5⟩;clear q1 q2 q3 qR qb hd hin hbw1 hX1 hst hno hW5 d0 d1 e1 e2 hst5 hb5;have HO:M6 _:=hone;clear hone
    go_wp2_with ((with_reducible refine OW rfl 101 (O6 2) (O6 21) rfl (w.heap.size+1) 0 #[MF ME 0,MF ME 0,MF ME 0,MF ME 0,MF ME 0,MF ME 0,MF ME 0,MF ME 0,MF ME 0,MF ME 0,MF ME 0,MF ME 0] ?hx ?hy ?ht ?hi ?h1 ?_);(case hx=>rfl);(case hy=>rfl);(case ht=>exact HQ.out.1);(case hi=>exact dr);(case h1=>exact HO.out);rw[<-HQ.out.2.2.2.2])
    refine Np (v:=Nv #[Ny (aj (Nj 12 0)).toArray,M3 Nb]) (bp Wb rfl rfl (HQ.out.2.2.1.Io U2 rfl dr)) rfl (th HQ.out.2.2.2.1 HQ.out.2.1)
  ·obtain rfl:k=l.length:=by omega
   rw[NT]at hall h2;have hi12:(Tryz.prog.info? 101).map (·.size)=MI (aj (d8 l)).length:=by rw[dr,dm,fT]
   have hcn:=fT l;have HK:M6 (_/\_/\_/\_/\_/\_/\_):=⟨hall,hb,hR,h1,h2,h3,hi12⟩;clear hall hb hR h1 h2 h3 hi12
   go_wp2_with ((with_reducible refine O3 rfl 101 (O6 4) rfl (w.heap.size+1+1) 0 ?hx (aj (d8 l)) _ ?hc U2 ?hd ?hi ?_);(case hx=>rfl);(case hc=>exact HK.out.2.2.2.2.1.Gq);(case hd=>rfl);(case hi=>exact HK.out.2.2.2.2.2.2))
   go_loopw [30] (fun t W=>∃j:Nat,t=MF ME j/\j<=12/\(∀b,b<j->bt l b<=32)/\MQ w.heap.size w W/\W.heap[w.heap.size]?=MI (MP #[MG p l.length c] 46 (0,0))/\aC 101 12 W (w.heap.size+1) (Nj 12 0)/\aC 101 12 W (w.heap.size+1+1+1) (wL l j)) (fun t _=>12-(intOf t).toNat)
   case atStart =>
    obtain⟨hall,hb,hR,h1,h2,h3,_⟩:=HK.out;exact⟨0,rfl,Nx _,fun b h=>absurd h (QH _),hb,hR,h1,by rw[wZ];exact h3⟩
   case round =>
    obtain⟨j,rfl,hj,hcnt,hb,hR,h1,h3⟩:=hrel
    by_cases hlt2:j<12
    ·have hix:=tK (d8 l) j hcn hlt2
     rw[n7 l j hlt2]at hix;have hjI:(j:Int)<12:=by omega
     have hxl:bt l j<=l.length:=qj l j;obtain⟨x,hx⟩:∃x,x=bt l j:=⟨_,rfl⟩;rw[<-hx]at hix hxl
     by_cases h32:x<=32
     ·have hgt:¬((32:Int)<(x:Int)):=by omega
      have hcl:=h3.F7 j (by rw[mN];exact hlt2);have hfz:=h3.Gu j;have HJ:M6 (_/\_/\_/\_/\_/\_):=⟨hcnt,hb,hR,h1,h3,hx⟩;clear hcnt hb hR h1 h3 hx;go_wp2
      go_roundw
      case rel =>
       obtain⟨hcnt,hb,hR,h1,h3,hx⟩:=HJ.out;refine⟨j+1,by simp,hlt2,fun b hb2=>?_,hb.setCell (by simp;omega) _,?_,h1.Hk (by simp) _,?_⟩
       ·by_cases e:b=j
        ·subst e;rw[<-hx];exact h32
        ·exact hcnt b (by omega)
       ·rw[MU _ _ _ _ (by simp;omega)]
        exact hR
       ·rw[FH l j hlt2,<-hx]
        have:=h3.F4 j (((x / 4:Nat):Int))
        first|exact this|(simpa using this)
      case measure=>simp[intOf];omega
     ·have hgt:(32:Int)<(x:Int):=by omega
      have hno:¬bD l:=fun h=>h32 (by rw[hx];exact oO h j hlt2)
      obtain⟨W5,hW5⟩:∃W5,W5=wr.setCells (w.heap.size+1) 0 (RW (#[MF ME 0,MF ME 0,MF ME 0,MF ME 0,MF ME 0,MF ME 0,MF ME 0,MF ME 0,MF ME 0,MF ME 0,MF ME 0,MF ME 0]:Array M7)):=⟨_,rfl⟩;have hst:=(h1.Hq (P:=MK) (b:=Nj 12 0) (by simp) dr).2;have hst5:aC 101 12 W5 (w.heap.size+1) (Nj 12 0):=by rw[hW5];exact hst
      have hb5:MQ w.heap.size w W5:=by rw[hW5];exact kF hb (by omega) _ _ hb.size
      have hone:=OE (iX (Nj 12 0));have HQ:M6 (_/\_/\_/\_/\_/\_):=⟨h1.GB,hb5,hst5,hno,hW5,hone⟩;clear hcnt hb hR h1 h3 hst hno hW5 hst5 hb5 hone hx
      go_wp2_with ((with_reducible refine OW rfl 101 (O6 2) (O6 36) rfl (w.heap.size+1) 0 #[MF ME 0,MF ME 0,MF ME 0,MF ME 0,MF ME 0,MF ME 0,MF ME 0,MF ME 0,MF ME 0,MF ME 0,MF ME 0,MF ME 0] ?hx ?hy ?ht ?hi ?h1 ?_);(case hx=>rfl);(case hy=>rfl);(case ht=>exact HQ.out.1);(case hi=>exact dr);(case h1=>exact HQ.out.2.2.2.2.2);rw[<-HQ.out.2.2.2.2.1])
      refine Np (v:=Nv #[Ny (aj (Nj 12 0)).toArray,M3 Nb]) (bp Wb rfl rfl (HQ.out.2.2.1.Io U2 rfl dr)) rfl (th HQ.out.2.2.2.1 HQ.out.2.1)
    ·obtain rfl:j=12:=by omega
     rw[yL]at h3;have hwt:aZ (aJ l):=qQ hcnt;have hv0:aO wr (MG p l.length c) l:=HV.out.1.below (ug hb (MV _));have hlw:=kb l;have hc0:=aM hR;have HS:M6 (_/\_/\_/\_/\_/\_/\_):=⟨hwt,hv0,hcnt,hb,hR,h1,h3⟩;have F1:wr.cell? ⟨w.heap.size,0,MH⟩=MI (MG p l.length c)/\wr.rangeAt (w.heap.size+1+1+1) 0 (aj (aJ l))/\wr.there (w.heap.size+1) 0 12:=⟨hc0,h3.Gq,h1.GB⟩;have G1:M6 _:=F1;have hu12:=U2;have hi12:(Tryz.prog.info? 101).map (·.size)=MI (aj (aJ l)).length:=by rw[dr,dm,kb]
     have hl12:(aj (aJ l)).length=12:=by rw[dm,kb]
     have ho12:=iX (aJ l);clear hcnt hb hR h1 h3 hwt hv0 F1;go_wp2;refine O2 (S:=fun W=>W.cell? ⟨w.heap.size,0,MH⟩=MI (MG p l.length c)/\W.rangeAt (w.heap.size+1+1+1) 0 (aj (aJ l))/\W.there (w.heap.size+1) 0 12) (by kernel_rfl) G1.out (fun hHeld=>?_)
     refine' ND (i:=0) (oi:=_) (v:=_) rfl (by kernel_rfl) (by kernel_rfl) (by kernel_rfl) (fun _ _ _ h=>h) (Pt (by rfl) _ _ rfl _ _ rfl _ _ (fun W h=>h.2.1) hu12 rfl hi12) hHeld ?_
     simp only[Nr,MJ,ML,MM]
     refine' ND (i:=3) (oi:=_) (v:=_) rfl (by kernel_rfl) (by kernel_rfl) (by kernel_rfl) (fun _ _ _ h=>h) (Pt (by rfl) _ _ rfl _ _ rfl _ _ (fun W h=>h.2.1) hu12 rfl hi12) hHeld ?_
     simp only[Nr,MJ,ML,MM];refine ND (i:=1) (oi:=_) (v:=Na (MI ⟨w.heap.size,0,MH⟩)) rfl (by kernel_rfl) (by kernel_rfl) (by kernel_rfl) (fun _ _ _ h=>h) (Nt ⟨by rfl,fun W hSw=>by go_simp⟩) hHeld ?_;simp only[Nr,MJ,ML,MM];refine ND (i:=2) (oi:=_) (v:=MG p l.length c) rfl (by kernel_rfl) (by kernel_rfl) (by kernel_rfl) (fun _ _ _ h=>h) (Nt ⟨by rfl,fun W hSw=>by have hh:=hSw.1;go_simp⟩) hHeld ?_;simp only[Nr,MJ,ML,MM];refine NN (rs:=[4]) (by kernel_rfl) (by simp) ?_;refine NP (o:=_) rfl (fun K hK=>?_) NX;go_simp;refine(tv _ _ HS.out.1).mono ?_;rintro r w2 ⟨u,rfl,hown2,hb2⟩;have hbw2:MQ wr.heap.size wr w2:=dt hb2;have hT1:aO w2 (MG p l.length c) l:=HS.out.2.1.below hbw2;have hT2:aO w2 u (ao (aJ l)):=bP hown2;have hA1:=HS.out.2.2.2.2.2.1.below hbw2;have hA3:=HS.out.2.2.2.2.2.2.below hbw2;have hR2:=af HS.out.2.2.2.2.1 hbw2;have hb3:=HS.out.2.2.2.1.trans (hbw2.mono HS.out.2.2.2.1.size);have HT:M6 (_/\_/\_/\_/\_/\_):=⟨hT1,hT2,hA1,hb3,hA3,hR2⟩;have G2:M6 (_/\_/\_):=⟨aM hR2,hA3.Gq,hA1.GB⟩;clear hT1 hT2 hA1 hA3 hR2 hb3 hbw2 hown2 hb2 hHeld;refine hK.out _ _ G2.out (fun hHeld=>?_);clear hK K
     try simp only[Nr,MJ,ML,MM]
     refine NN (rs:=[5]) (by kernel_rfl) (by simp) ?_;refine NP (o:=_) rfl (fun K hK=>?_) NX;go_simp;refine(zM _ _ l (ao (aJ l)) _ HT.out.1 HT.out.2.1).mono ?_;rintro r w3 ⟨rfl,q,rfl⟩;refine hK.out _ _ G2.out (fun hHeld=>?_);clear hK K
     try simp only[Nr,MJ,ML,MM]
     obtain⟨W9,hW9⟩:∃W9,W9=(w2.drewN q).setCells (w.heap.size+1) 0 (aj (aJ l)):=⟨_,rfl⟩;have hA9:aC 101 12 W9 (w.heap.size+1) (aJ l):=by rw[hW9];exact((show aC 101 12 (w2.drewN q) (w.heap.size+1) (Nj 12 0)from HT.out.2.2.1).Hq (P:=MK) (b:=aJ l) hlw dr).2
     have hb9:MQ w.heap.size w W9:=by rw[hW9];have h:=B3 HT.out.2.2.2.1 q;exact kF h (by omega) _ _ h.size
     have hsz12:(aj (aJ l)).toArray.size=12:=hl12;have hA9':aC 101 12 W9 (w.heap.size+1+1+1) (aJ l):=by rw[hW9];exact HT.out.2.2.2.2.1.Gf (N8 (w2.drewN q) _ _ _ HT.out.2.2.2.2.1.lt (by omega))
     have hR9:W9.heap[w.heap.size]?=MI (MP #[MG p l.length c] 46 (0,0)):=by rw[hW9];exact(N8 (w2.drewN q) _ _ _ (Array.getElem?_eq_some_iff.1 HT.out.2.2.2.2.2).1 (by omega)).trans HT.out.2.2.2.2.2
     have G9:M6 (_/\_/\_):=⟨aM hR9,hA9'.Gq,hA9.GB⟩;refine NN (rs:=[6]) (by kernel_rfl) (by simp) ?_;refine NP (o:=_) rfl (fun K hK=>?_) NX;rw[Nh (by rfl)];refine wp_store_mid _ _ _ rfl _ _ (aj (aJ l)).toArray rfl rfl (by rw[hsz12];exact G2.out.2.2) (by rw[hsz12];exact dr) (OE ho12) ?_;rw[NS,<-hW9];have H9:M6 (_/\_):=⟨hA9,hb9⟩;clear hA9 hb9 hA9' hR9 hW9;refine hK.out _ _ G9.out (fun hHeld=>?_);clear hK K
     try simp only[Nr,MJ,ML,MM]
     refine NN (rs:=[7]) (by kernel_rfl) (by simp) ?_;refine NP (o:=_) rfl (fun K hK=>?_) NX;go_simp;refine hK.out _ _ G9.out (fun hHeld=>?_);clear hK K
     try simp only[Nr,MJ,ML,MM]
     refine PS (by kernel_rfl) ?_ _;go_wp2;refine Np (v:=Nv #[Ny (aj (aJ l)).toArray,M3 (Nn (l=ao (aJ l)))]) (bp Wb rfl rfl (H9.out.1.Io U2 rfl dr)) rfl (AZ HS.out.2.2.1 H9.out.2)
theorem mq(w:MO)(a:List Int)(ha:a.length=12):(w.alloc (MP #[MF ME 0,MF ME 0,MF ME 0,MF ME 0,MF ME 0,MF ME 0,MF ME 0,MF ME 0,MF ME 0,MF ME 0,MF ME 0,MF ME 0] 101)).there w.heap.size 0 12/\aC 101 12 ((w.alloc (MP #[MF ME 0,MF ME 0,MF ME 0,MF ME 0,MF ME 0,MF ME 0,MF ME 0,MF ME 0,MF ME 0,MF ME 0,MF ME 0,MF ME 0] 101)).setCells w.heap.size 0 (aj a)) w.heap.size a/\MQ w.heap.size w ((w.alloc (MP #[MF ME 0,MF ME 0,MF ME 0,MF ME 0,MF ME 0,MF ME 0,MF ME 0,MF ME 0,MF ME 0,MF ME 0,MF ME 0,MF ME 0] 101)).setCells w.heap.size 0 (aj a)):=by
 rw[uG];have h:aC 101 12 (w.alloc (MP (aj (Nj 12 0)).toArray 101)) w.heap.size (Nj 12 0):=aC.new w _ _;have hb:MQ w.heap.size w (w.alloc (MP (aj (Nj 12 0)).toArray 101)):=(MY _ _).alloc (MV _) _;exact⟨h.GB,(h.Hq (P:=MK) (b:=a) ha dr).2,kF hb (MV _) _ _ hb.size⟩
theorem xV(v:M7)(l:List Tm)(w:MO)(hv:aO w v l) :
  Ni MK 150 #[Ny #[v]] w fun r w'=>∃e:Int,r=MN (MF ME e)/\(bD l->e=0)/\(¬bD l->e=6)/\MQ w.heap.size w w':=by
 obtain⟨p,c,rfl,_⟩:=hv.F6;have HV:M6 _:=hv;clear hv;go_enter Uf,T5
 go_wp2_with fail
 have hb0:MQ w.heap.size w (w.alloc (MP #[MG p l.length c] 46)):=(MY _ _).alloc (MV _) _;refine(mD _ l _ (HV.out.below hb0)).mono ?_;rintro r w1 ⟨a,b,rfl,hlen,hiff,ha,hb1⟩;obtain⟨f1,f2,f3⟩:=mq w1 a hlen;have hbb:=hb0.trans (hb1.mono hb0.size);obtain⟨W5,hW5⟩:∃W5,W5=(w1.alloc (MP #[MF ME 0,MF ME 0,MF ME 0,MF ME 0,MF ME 0,MF ME 0,MF ME 0,MF ME 0,MF ME 0,MF ME 0,MF ME 0,MF ME 0] 101)).setCells w1.heap.size 0 (aj a):=⟨_,rfl⟩;rw[<-hW5]at f2 f3;have hb5:=hbb.trans (f3.mono hbb.size);have hsz:(aj a).toArray.size=12:=by simp[dm,hlen]
 have k1:(w1.alloc (MP #[MF ME 0,MF ME 0,MF ME 0,MF ME 0,MF ME 0,MF ME 0,MF ME 0,MF ME 0,MF ME 0,MF ME 0,MF ME 0,MF ME 0] 101)).there w1.heap.size 0 (aj a).toArray.size:=by rw[hsz];exact f1
 have k2:(Tryz.prog.info? 101).map (·.size)=MI (aj a).toArray.size:=by rw[dr,hsz]
 have HQ:M6 (_/\_/\_/\_/\_/\_):=⟨k1,k2,OE (iX a),hW5,hiff,hb5⟩;clear k1 k2 f1 f2 f3 hb0 hb1 hbb hW5 hiff ha hb5 hsz;cases b
 all_goals
  go_wp2_with ((with_reducible refine OW rfl 101 (O6 3) (O6 8) rfl w1.heap.size 0 (aj a).toArray ?hx ?hy ?ht ?hi ?h1 ?_);(case hx=>rfl);(case hy=>rfl);(case ht=>exact HQ.out.1);(case hi=>exact HQ.out.2.1);(case h1=>exact HQ.out.2.2.1);rw[NS,<-HQ.out.2.2.2.1])
  go_ret
 ·exact⟨6,rfl,fun h=>PP (HQ.out.2.2.2.2.1.2 h),fun _=>rfl,HQ.out.2.2.2.2.2⟩
 ·exact⟨0,rfl,fun _=>rfl,fun h=>absurd (HQ.out.2.2.2.2.1.1 trivial) h,HQ.out.2.2.2.2.2⟩
theorem sL(b:Nat):∀k,k<=32->(dw b k).Nodup
 |0,_=>by simp[dw]
 |k+1,h=>by
  rw[qS,Qv];refine⟨sL b k (by omega),by simp,fun x hx y hy e=>?_⟩;rw[PY]at hy;obtain⟨i,hi,rfl⟩:=oZ.1 hx;rw[hy]at e;have e2:eR b i=eR b k:=by
   have:=congrArg Prod.fst e;simp only at this;exact Int.ofNat.inj this
  have:=(ye b i k (by omega) (by omega)).1 e2;omega
theorem sI{a:List Int}(ha:aZ a):∀n,(cL a n).Nodup
 |0=>by simp[cL]
 |n+1=>by
  rw[cL,Qv];have hw:=ha.Hw n;refine⟨sI ha n,sL n _ (by omega),fun x hx y hy e=>?_⟩;obtain⟨b,i,hb,_,rfl⟩:=oj.1 hx;obtain⟨j,_,rfl⟩:=oZ.1 hy;have:=congrArg Prod.snd e;simp only at this;omega
theorem iJ{a b:M7}{T:NU}(h:w.heap[g]?=MI (MP #[a] T (0,0))):(w.setCell ⟨g,0,MH⟩ b).heap[g]?=MI (MP #[b] T (0,0)):=by
 rw[Sort.setCell_eq];unfold Th;simp[Qp,h,Sort.onCells]
theorem aZ.F4{a:List Int}(h:aZ a)(j:Nat)(k:Int)(h0:0<=k)(h8:k<=8):aZ (a.set j k):=by
 have e:∀b,(a.set j k).getD b 0=a.getD b 0\/(a.set j k).getD b 0=k:=fun b=>by
  rw[NK,NK]
  by_cases hb:j=b
  ·subst hb
   by_cases hl:j<a.length
   ·right;rw[N7 hl];rfl
   ·left;rw[Nz (by rw[NA];omega),Nz (by omega)]
  ·left;rw[N3 hb]
 refine⟨by rw[NA];exact h.len,fun b=>?_,fun b=>?_⟩
 ·rcases e b with e|e <;> rw[e]
  ·exact h.low b
  ·exact h0
 ·rcases e b with e|e <;> rw[e]
  ·exact h.high b
  ·exact h8
theorem bD.wts(h:bD l):aZ (aJ l):=qQ fun b hb=>oO h b hb
def DA(l:List Tm)(n k:Int)(w:MO)(r:Ending)(w':MO):Prop:=∃(y:M7) (e:Int),r=MN (Nv #[Ny #[y],MF ME e])/\MQ w.heap.size w w' /\
 ((¬bD l/\e=6/\y=MG MH 0 0)\/(bD l/\¬((0<=n/\n<12)/\(1<=k/\k<=8))/\e=2/\y=MG MH 0 0)\/(bD l/\((0<=n/\n<12)/\(1<=k/\k<=8))/\0<(aJ l).getD n.toNat 0/\e=7/\y=MG MH 0 0) \/
  (bD l/\((0<=n/\n<12)/\(1<=k/\k<=8))/\¬0<(aJ l).getD n.toNat 0/\e=0/\w'.ownsRow w.heap.size 109 2 y (ao ((aJ l).set n.toNat k)).length (ag (ao ((aJ l).set n.toNat k)))))
theorem DR(v:M7)(l:List Tm)(n k:Int)(w:MO)(hv:aO w v l) :
  Ni MK 184 #[Ny #[v],MF ME n,MF ME k] w (DA l n k w):=by
 obtain⟨p,c,rfl,_⟩:=hv.F6;have HV:M6 _:=hv;clear hv;go_enter Tryz.func184,Tryz.ntmps184
 go_wp2_with fail
 obtain⟨W0,hW0⟩:∃W0,W0=(w.alloc (MP #[MG p l.length c] 46)).alloc (MP #[MG MH 0 0] 46):=⟨_,rfl⟩;rw[<-hW0];have hb0:MQ w.heap.size w W0:=by rw[hW0];exact((MY _ _).alloc (MV _) _).alloc (by simp) _
 have hR1:W0.heap[w.heap.size+1]?=MI (MP #[MG MH 0 0] 46 (0,0)):=by rw[hW0];exact bV _ _ _
 have hs0:W0.heap.size=w.heap.size+2:=by rw[hW0];simp
 refine(mD _ l _ (HV.out.below hb0)).mono ?_;rintro r w1 ⟨a,b,rfl,hlen,hiff,ha,hb1⟩;obtain⟨f1,f2,f3⟩:=mq w1 a hlen;have hbb:=hb0.trans (hb1.mono hb0.size);obtain⟨W5,hW5⟩:∃W5,W5=(w1.alloc (MP #[MF ME 0,MF ME 0,MF ME 0,MF ME 0,MF ME 0,MF ME 0,MF ME 0,MF ME 0,MF ME 0,MF ME 0,MF ME 0,MF ME 0] 101)).setCells w1.heap.size 0 (aj a):=⟨_,rfl⟩;rw[<-hW5]at f2 f3;have hb5:=hbb.trans (f3.mono hbb.size);have hR5:=af (af hR1 hb1) f3;have hc5:=aM hR5;have hf5:W5.frozen? ⟨w.heap.size+1,0,MH⟩=false:=by simp[Ng,hR5]
 have hsz:(aj a).toArray.size=12:=by simp[dm,hlen]
 have hs1:=hb1.size;have k1:(w1.alloc (MP #[MF ME 0,MF ME 0,MF ME 0,MF ME 0,MF ME 0,MF ME 0,MF ME 0,MF ME 0,MF ME 0,MF ME 0,MF ME 0,MF ME 0] 101)).there w1.heap.size 0 (aj a).toArray.size:=by rw[hsz];exact f1
 have k2:(Tryz.prog.info? 101).map (·.size)=MI (aj a).toArray.size:=by rw[dr,hsz]
 have HQ:M6 (_/\_/\_/\_):=⟨k1,k2,OE (iX a),hW5⟩;have HZ:M6 (_/\_/\_):=⟨f2,hb5,hR5⟩;have hRok:bD l\/¬bD l:=Classical.em _;have HI:M6 (_/\_):=⟨hiff,ha⟩;clear k1 k2 f1 f2 f3 hb0 hb1 hbb hW5 hiff ha hb5 hsz hR1 hR5 hW0 hRok;cases b
 ·have hno:¬bD l:=fun h=>PP (HI.out.1.2 h)
  have HN:M6 _:=hno;clear hno HI
  go_wp2_with ((with_reducible refine OW rfl 101 (O6 8) (O6 13) rfl w1.heap.size 0 (aj a).toArray ?hx ?hy ?ht ?hi ?h1 ?_);(case hx=>rfl);(case hy=>rfl);(case ht=>exact HQ.out.1);(case hi=>exact HQ.out.2.1);(case h1=>exact HQ.out.2.2.1);rw[NS,<-HQ.out.2.2.2])
  refine Np (v:=Nv #[Ny #[MG MH 0 0],MF ME 6]) (bp Vo rfl rfl (aI (P:=MK) (cs:=[MG MH 0 0]) (iJ HZ.out.2.2) U9 rfl (by kernel_rfl))) rfl ⟨_,_,rfl,HZ.out.2.1.setCell (by simp) _,Nt ⟨HN.out,rfl,rfl⟩⟩
 ·have HN:M6 (bD l/\a=aJ l):=⟨HI.out.1.1 rfl,HI.out.2 rfl⟩
  clear HI
  go_wp2_with ((with_reducible refine OW rfl 101 (O6 8) (O6 13) rfl w1.heap.size 0 (aj a).toArray ?hx ?hy ?ht ?hi ?h1 ?_);(case hx=>rfl);(case hy=>rfl);(case ht=>exact HQ.out.1);(case hi=>exact HQ.out.2.1);(case h1=>exact HQ.out.2.2.1);rw[NS,<-HQ.out.2.2.2])
  refine(mz n _).mono ?_
  by_cases hn:0<=n/\n<12
  ·have hnd:Nn (0<=n/\n<12)=true:=Nq hn
   rw[hnd];rintro r w6 ⟨rfl,rfl⟩;clear hnd
   go_wp2_with fail
   refine(AV k _).mono ?_
   by_cases hk:1<=k/\k<=8
   ·have hkd:Nn (1<=k/\k<=8)=true:=Nq hk
    rw[hkd];rintro r w7 ⟨rfl,rfl⟩;have HK:M6 ((0<=n/\n<12)/\(1<=k/\k<=8)):=⟨hn,hk⟩;have hg0:(Tryz.prog.info? 101).map (·.size)=MI (aj a).length:=by rw[dr,dm,hlen]
    have HG:M6 _:=hg0;clear hg0;clear hkd hk
    go_wp2_with ((with_reducible refine O3 rfl 101 (O6 8) rfl w1.heap.size 0 ?gx (aj a) _ ?gc U2 ?gd ?gi ?_);(case gx=>rfl);(case gc=>exact HZ.out.1.Gq);(case gd=>rfl);(case gi=>exact HG.out))
    refine(nc a n _ hlen).mono ?_
    by_cases hp:0<a.getD n.toNat 0
    ·have hpd:Nn (0<=n/\n<12/\0<a.getD n.toNat 0)=true:=Nq ⟨hn.1,hn.2,hp⟩
     rw[hpd];rintro r w8 ⟨rfl,hb8⟩;have hR8:=af HZ.out.2.2 hb8;have hc8:=aM hR8;have hf8:w8.frozen? ⟨w.heap.size+1,0,MH⟩=false:=by simp[Ng,hR8]
     have HB:M6 (_/\_/\_):=⟨HZ.out.1.below hb8,HZ.out.2.1.trans (hb8.mono HZ.out.2.1.size),hR8⟩;have HP:M6 _:=hp;clear hpd hp hb8 hR8;go_wp2;refine Np (v:=Nv #[Ny #[MG MH 0 0],MF ME 7]) (bp Vo rfl rfl (aI (P:=MK) (cs:=[MG MH 0 0]) (iJ HB.out.2.2) U9 rfl (by kernel_rfl))) rfl ⟨_,_,rfl,HB.out.2.1.setCell (by simp) _,NF (NF (Nt ⟨HN.out.1,HK.out,by rw[<-HN.out.2];exact HP.out,rfl,rfl⟩))⟩
    ·have hpd:Nn (0<=n/\n<12/\0<a.getD n.toNat 0)=false:=M0 fun h=>hp h.2.2
     rw[hpd];rintro r w8 ⟨rfl,hb8⟩;obtain⟨j,rfl⟩:=NL hn.1;have hj:j<12:=by omega
     have hjI:(j:Int)<12:=by omega
     have hA8:=HZ.out.1.below hb8;have hcj:=hA8.F7 j (by omega);have hfj:=hA8.Gu j;have hb8':=HZ.out.2.1.trans (hb8.mono HZ.out.2.1.size);have hR8:=af HZ.out.2.2 hb8;have hs8:=hb8.size;obtain⟨W9,hW9⟩:∃W9,W9=w8.setCell ⟨w1.heap.size,j,MH⟩ (MF ME k):=⟨_,rfl⟩;have hA9:aC 101 12 W9 w1.heap.size (a.set j k):=by rw[hW9];exact hA8.F4 j k
     have hb9:MQ w.heap.size w W9:=by rw[hW9];exact hb8'.setCell (by simp;omega) _
     have hR9:W9.heap[w.heap.size+1]?=MI (MP #[MG MH 0 0] 46 (0,0)):=by rw[hW9,MU _ _ _ _ (by simp;omega)];exact hR8
     have hi9:(Tryz.prog.info? 101).map (·.size)=MI (aj (a.set j k)).length:=by rw[dr,dm,NA,hlen]
     have hw9:aZ (a.set j k):=by rw[HN.out.2];exact HN.out.1.wts.F4 j k (by have:=HK.out.2;omega) (by have:=HK.out.2;omega)
     have hpj:¬0<a.getD j 0:=by simpa using hp
     have H9:M6 (_/\_/\_/\_/\_/\_/\_):=⟨hA9,hb9,hR9,hi9,hw9,hW9,hpj⟩;clear hA9 hb9 hR9 hi9 hw9 hW9 hpj hp hpd hA8 hb8' hR8 hb8
     go_wp2_with ((with_reducible refine O3 rfl 101 (O6 8) rfl w1.heap.size 0 ?jx (aj (a.set j k)) _ ?jc U2 ?jd ?ji ?_);(case jx=>rfl);(case jc=>rw[<-H9.out.2.2.2.2.2.1];exact H9.out.1.Gq);(case jd=>rfl);(case ji=>exact H9.out.2.2.2.1);rw[<-H9.out.2.2.2.2.2.1])
     refine(tv (a.set j k) _ H9.out.2.2.2.2.1).mono ?_;rintro r w10 ⟨y,rfl,ho10,hb10⟩;obtain⟨yp,yc,rfl⟩:=cR ho10;have hR10:=af H9.out.2.2.1 hb10;have hc10:=aM hR10;have hf10:w10.frozen? ⟨w.heap.size+1,0,MH⟩=false:=by simp[Ng,hR10]
     have hb11:=(H9.out.2.1.trans (hb10.mono H9.out.2.1.size)).setCell (p:=⟨w.heap.size+1,0,MH⟩) (by simp) (MG yp (ao (a.set j k)).length yc);have hs9:=H9.out.1.lt;have ho11:(w10.setCell ⟨w.heap.size+1,0,MH⟩ (MG yp (ao (a.set j k)).length yc)).ownsRow w.heap.size 109 2 (MG yp (ao (a.set j k)).length yc) (ao (a.set j k)).length (ag (ao (a.set j k))):=
      (aw ho10 (fun g hg=>MU _ _ _ _ (by have:=(ho10.lt g hg).1;simp;omega))).mono (by omega)
     have HF:M6 (_/\_/\_):=⟨hR10,hb11,ho11⟩;clear hR10 hb11 ho11 ho10 hb10;go_wp2;refine Np (v:=Nv #[Ny #[MG yp (ao (a.set j k)).length yc],MF ME 0]) (bp Vo rfl rfl (aI (P:=MK) (cs:=[MG yp (ao (a.set j k)).length yc]) (iJ HF.out.1) U9 rfl (by kernel_rfl))) rfl ⟨_,_,rfl,HF.out.2.1,NF (NF (NF ⟨HN.out.1,HK.out,by rw[<-HN.out.2];simpa using H9.out.2.2.2.2.2.2,rfl,by rw[<-HN.out.2];simpa using HF.out.2.2⟩))⟩
   ·have hkd:Nn (1<=k/\k<=8)=false:=M0 hk
    rw[hkd];rintro r w7 ⟨rfl,rfl⟩;have HNK:M6 _:=hk;clear hkd hk;go_wp2;refine Np (v:=Nv #[Ny #[MG MH 0 0],MF ME 2]) (bp Vo rfl rfl (aI (P:=MK) (cs:=[MG MH 0 0]) (iJ HZ.out.2.2) U9 rfl (by kernel_rfl))) rfl ⟨_,_,rfl,HZ.out.2.1.setCell (by simp) _,NF (Nt ⟨HN.out.1,fun h=>HNK.out h.2,rfl,rfl⟩)⟩
  ·have hnd:Nn (0<=n/\n<12)=false:=M0 hn
   rw[hnd];rintro r w6 ⟨rfl,rfl⟩;have HNK:M6 _:=hn;clear hnd hn;go_wp2;refine Np (v:=Nv #[Ny #[MG MH 0 0],MF ME 2]) (bp Vo rfl rfl (aI (P:=MK) (cs:=[MG MH 0 0]) (iJ HZ.out.2.2) U9 rfl (by kernel_rfl))) rfl ⟨_,_,rfl,HZ.out.2.1.setCell (by simp) _,NF (Nt ⟨HN.out.1,fun h=>HNK.out h.1,rfl,rfl⟩)⟩
theorem sQ(h:bD l):l.length<=384:=by
 obtain⟨a,ha,rfl⟩:=h;exact qV ha
def Dg(l:List Tm)(n:Int)(w:MO)(r:Ending)(w':MO):Prop:=∃(y:M7) (e:Int),r=MN (Nv #[Ny #[y],MF ME e])/\MQ w.heap.size w w' /\
 ((¬bD l/\e=6/\y=MG MH 0 0)\/(bD l/\¬((0<=n/\n<12)/\0<(aJ l).getD n.toNat 0)/\e=8/\y=MG MH 0 0) \/
  (bD l/\((0<=n/\n<12)/\0<(aJ l).getD n.toNat 0)/\e=0/\w'.ownsRow w.heap.size 109 2 y (ao ((aJ l).set n.toNat 0)).length (ag (ao ((aJ l).set n.toNat 0)))))
theorem aC.at{T:NU}{a:List Int}(h:aC T 12 w g a)(j:Nat)(hj:j<12):w.cell? ⟨g,j,MH⟩=MI (MF ME (a.getD j 0)):=by
 have hl:j<a.length:=by rw[h.2];exact hj
 rw[h.F7 j hl,NK,MR hl];rfl
theorem aO.Ga(h:aO w v l):∃p c,v=MG p l.length c:=by
 obtain⟨p,c,e,_⟩:=h.F6;exact⟨p,c,e⟩
def kC(w:MO)(g:Nat)(v:M7)(l:List Tm):Prop:=w.heap[g]?=MI (MP #[v] 46 (0,0))/\aO w v l
theorem kC.below(h:kC w g v l)(hb:MQ w.heap.size w w'):kC w' g v l:=⟨af h.1 hb,h.2.below hb⟩
theorem kC.new(h:aO w v l):kC (w.alloc (MP #[v] 46)) w.heap.size v l:=⟨M1 _ _,h.below ((MY _ _).alloc (MV _) _)⟩
theorem kC.F7(h:kC w g v l):w.cell? ⟨g,0,MH⟩=MI v:=aM h.1
theorem kC.lt(h:kC w g v l):g<w.heap.size:=(Array.getElem?_eq_some_iff.1 h.1).1
theorem mC(w:MO)(o:Obj):MQ w.heap.size w (w.alloc o):=(MY _ _).alloc (MV _) _
theorem Cl(W:MO):(zeroValue 109).run MK W=.ok (Ny #[MF ME 0,MF ME 0]) W:=by kernel_rfl
theorem Af(base g c:Nat)(l:List Tm)(id:Int)(gid:Nat)(w:MO)(hown:w.ownsRow base 109 2 (MG (MI ⟨g,0,MH⟩) l.length c) l.length (ag l))(h:w.cell? ⟨gid,0,MH⟩=MI (MF ME id))(hne:gid≠g)(hex:∃t∈l,t.2=id) :
  Ni MK 180 #[MG (MI ⟨g,0,MH⟩) l.length c,PB (PD 181) #[] #[Na (MI ⟨gid,0,MH⟩)]] w fun r w'=>r=MN (MG (MI ⟨g,0,MH⟩) (kp l id).length c)/\w'.ownsRow base 109 2 (MG (MI ⟨g,0,MH⟩) (kp l id).length c) (kp l id).length (ag (kp l id))/\w.grownBy w' (MI g):=by
 have hidx:=AJ _ l id gid w (bP hown) h hex;have hglt:=MX w ⟨gid,0,MH⟩ h;have hcap:l.length<=c/\c<=maxLen:=by
  obtain⟨_,c',he,hc,hm,_⟩:=bP hown;cases he;exact⟨hc,hm⟩
 obtain⟨hc1,hc2⟩:=hcap;unfold NE at hc2;have H0:M6 (_/\_/\_):=⟨hidx,hown,h⟩;clear hidx hown h hex;go_enter Tryz.func180,Tryz.ntmps180
 go_wp2_with fail
 refine H0.out.1.mono ?_;rintro r w1 ⟨k,hk,rfl,hkid,hbef,hb1⟩;have hkp:kp (l.take k) id=l.take k:=qa hbef;have hms:=lv (junk:=[]) hk hkid;have H1:M6 (_/\_/\_/\_):=⟨hb1,hkp,hms.1,hms.2⟩;have hkm:((k:Int) == -1)=false:=by
  rw[Oh];omega
 clear hb1 hkp hms hkid hbef;go_wp2
 go_loopw [5,6] (fun s5 s6 wr=>∃(j:Nat) (junk:List Tm),s5=MF ME ((kp (l.take j) id).length:Nat)/\s6=MF ME j/\j<=l.length/\(kp (l.take j) id).length+junk.length=j/\junk≠[]/\wr.ownsRow base 109 2 (MG (MI ⟨g,0,MH⟩) l.length c) l.length (ag (aV l id junk j))/\w.grownBy wr (MI g)) (fun _ s6 _=>l.length-(intOf s6).toNat)
 case atStart =>
  obtain⟨hb1,hkp,hm1,hm2⟩:=H1.out;have e0:aV l id [l[k]] (k+1)=l:=by
   have:aV l id ([]++[l[k]]) (k+1)=aV l id [] k:=hm1;rw[Oz]at this;rw[this];unfold aV;rw[hkp,OG,Oo]
  have e1:(kp (l.take (k+1)) id).length=k:=by rw[hm2,hkp,NH];omega
  refine⟨k+1,[l[k]],by rw[e1],by simp,hk,by rw[e1];rfl,by simp,?_,qY hb1⟩;rw[e0];exact nD H0.out.2.1 hb1
 case round =>
  obtain⟨j,junk,rfl,rfl,hj,hjl,hjn,hrow,hgr⟩:=hrel;have hml:=qD hj hjl;have hc3:wr.cell? ⟨gid,0,MH⟩=MI (MF ME id):=hgr.cell H0.out.2.2 (by simpa using hne);obtain⟨x,junk',rfl⟩:∃x junk',junk=x::junk':=by
   cases junk with
   |nil=>exact absurd rfl hjn
   |cons x r=>exact⟨x,r,rfl⟩
  rw[Ox]at hjl;have hglt2:gid<wr.heap.size:=M8 hglt hgr.size;have hrl:=(hrow.lt g rfl).2;generalize hi:(kp (l.take j) id).length=i at *
  by_cases hlt:j<l.length
  ·have hat:=rh (id:=id) (junk:=x::junk') hlt (by rw[hi,Ox];omega)
   obtain⟨hj',hat'⟩:=List.getElem?_eq_some_iff.1 hat
   have ht:=fi (aV l id (x::junk') j) j hj';rw[hat']at ht;have f1:=(hrow.cellAt (j*2) (by omega)).trans ht.1;have f2:=(hrow.cellAt (j*2+1) (by omega)).trans ht.2;have hti:=fi (aV l id (x::junk') j) i (by omega);have f3:=(hrow.cellAt (i*2) (by omega)).trans hti.1;have f4:=(hrow.cellAt (i*2+1) (by omega)).trans hti.2;have f5:=hrow.frozenAt (i*2);have f6:=hrow.frozenAt (i*2+1);obtain⟨xa,hxa⟩:∃xa,xa=l[j].1:=⟨_,rfl⟩;obtain⟨xd,hxd⟩:∃xd,xd=l[j].2:=⟨_,rfl⟩;rw[<-hxa]at f1;rw[<-hxd]at f2;generalize ((aV l id (x::junk') j)[i]'(by omega)).1=oa at f3;generalize ((aV l id (x::junk') j)[i]'(by omega)).2=od at f4;have hlj:l[j]=(xa,xd):=by rw[hxa,hxd]
   have HR:M6 (_/\_/\_/\_/\_):=⟨hrow,hgr,hc3,hlj,hi⟩;have hjI:(j:Int)<(l.length:Int):=by omega
   have hiI:(i:Int)<(l.length:Int):=by omega
   have hilj:i<j:=by omega
   have hil:i<l.length:=by omega
   clear hrow hgr hc3 hat hat' ht hti hxa hxd hlj hj' hi hjn;have hcc:((wr.alloc (MP #[MF ME xa,MF ME xd] 109))).cell? ⟨gid,0,MH⟩=MI (MF ME id):=by
    rw[NG (a:=⟨gid,0,MH⟩) (Ov wr _ gid hglt2)];exact HR.out.2.2.1
   have HCC:M6 _:=hcc;clear hcc;cases hd:Nn (xd=id)
   ·go_wp2_with fail
    refine(m7 xa xd id gid _ HCC.out).mono ?_;rw[hd];rintro r w2 ⟨rfl,rfl⟩;go_wp2
    go_roundw
    case rel =>
     obtain⟨hrow,hgr,hc3,hlj,hi⟩:=HR.out;have hne2:l[j].2≠id:=by rw[hlj];exact Nc hd
     obtain⟨m1,m2⟩:=oQ (x:=x) (junk:=junk') hlt hne2;have hr1:=hrow.stored (i*2) (MF ME xa);have hr2:=hr1.1.stored (i*2+1) (MF ME xd);have hts:=lg (aV l id (x::junk') j) i (xa,xd);rw[hts]at hr2;rw[hi,hlj]at m1;refine⟨j+1,junk'++[l[j]],by rw[m2,Ns,hi];simp,by simp,hlt,by rw[m2,Ns,hi];simp;omega,by simp,?_,?_⟩
     ·rw[hlj,m1];exact(hr2.1.alloc _).alloc _
     ·exact(((hgr.trans hr1.2).trans hr2.2).trans (OL _ _ _)).trans (OL _ _ _)
    case measure=>simp[intOf];omega
   ·go_wp2_with fail
    refine(m7 xa xd id gid _ HCC.out).mono ?_;rw[hd];rintro r w2 ⟨rfl,rfl⟩;go_wp2
    go_roundw
    case rel =>
     obtain⟨hrow,hgr,hc3,hlj,hi⟩:=HR.out;have he2:l[j].2=id:=by rw[hlj];exact M2 hd
     obtain⟨m1,m2⟩:=lv (junk:=x::junk') hlt he2;refine⟨j+1,x::junk'++[l[j]],by rw[m2,hi],by simp,hlt,by rw[m2,hi];simp;omega,by simp,?_,?_⟩
     ·rw[m1];exact(hrow.alloc _).alloc _
     ·exact(hgr.trans (OL _ _ _)).trans (OL _ _ _)
    case measure=>simp[intOf];omega
  ·obtain rfl:j=l.length:=by omega
   have hii:i<l.length:=by omega
   obtain⟨vs,hcl⟩:=pd (P:=MK) wr 44 109 0 (MF ME 0) (MF ME 0) RA Cl rfl rfl g (i*2) (l.length-i) (c-i) (by omega) (fun t ht=>by
    have h1:=hrow.cellAt (i*2+t) (by omega);rw[h1,MR (by rw[bZ,hml];omega)];rfl) (fun t _=>hrow.frozenAt _)
   have hcut:=kj vs (i*2) wr (l8 hrow (i:=i) (by omega)) (MV _);have e1:(ag (aV l id (x::junk') l.length)).take (i*2)=ag (kp l id):=by
    have e2:kp (l.take l.length) id=kp l id:=by rw[NT]
    rw[e2]at hi;rw[iM];unfold aV;rw[e2,OC,ZqA (by omega),<-hi,NT]
   rw[e1]at hcut;have hik:(kp l id).length=i:=by rw[<-hi,NT]
   have HR:M6 (_/\_/\_):=⟨hcut,hgr,hik⟩;have hiI:(i:Int)<(l.length:Int):=by omega
   have hiI2:(i:Int)<=(c:Int):=by omega
   have hcne:c≠i:=by omega
   clear hcut hgr hrow hi e1 hik;go_wp2;go_ret;obtain⟨r1,r2,r3⟩:=HR.out;rw[r3];exact⟨rfl,r1.1,r2.trans r1.2⟩
theorem mg{a:List Int}(ha:aZ a):(ao a).Pairwise (fun x y=>ax x y<0):=DD (sI ha 12)
theorem uF{a:List Int}(n b:Nat)(x:Int)(hn:n<a.length):wt (a.set n x) b=if b=n then x.toNat else wt a b:=by
 unfold wt
 by_cases h:b=n
 ·subst h
  rw[Nh rfl];simp[NK,N7 hn]
 ·rw[Nf h]
  simp[NK,N3 (Pi h)]
theorem Cm{a:List Int}(ha:aZ a)(n:Nat)(hn:n<12):kp (ao a) (n:Int)=ao (a.set n 0):=by
 have hw:=ha.F4 n 0 (by omega) (by omega);refine we ((mg ha).filter _) (mg hw) fun t=>?_
 unfold kp;rw[List.mem_filter,ln,ln];constructor
 ·rintro⟨⟨b,i,hb,hi,rfl⟩,hne⟩
  have hbn:b≠n:=fun e=>by subst e;simp at hne
  refine⟨b,i,hb,?_,rfl⟩;rw[uF n b 0 (by rw[ha.len];exact hn),Nf hbn];exact hi
 ·rintro⟨b,i,hb,hi,rfl⟩
  rw[uF n b 0 (by rw[ha.len];exact hn)]at hi
  by_cases hbn:b=n
  ·rw[Nh hbn]at hi
   simp at hi
  ·rw[Nf hbn]at hi
   refine⟨⟨b,i,hb,hi,rfl⟩,?_⟩;simp;omega
theorem bD.eq(h:bD l):l=ao (aJ l):=(tE fun b hb=>oO h b hb).1 h
theorem Ed(h:bD l)(n:Nat)(hn:n<12):kp l (n:Int)=ao ((aJ l).set n 0):=by
 have:=Cm h.wts n hn;rwa[<-h.eq]at this
theorem CQ(h:bD l)(n:Nat)(hn:n<12)(hp:0<(aJ l).getD n 0):∃t∈l,t.2=(n:Int):=by
 refine⟨(((eR n 0:Nat):Int),(n:Int)),?_,rfl⟩;rw[h.eq];refine ln.2 ⟨n,0,hn,?_,rfl⟩;unfold wt;omega
theorem Cx(v:M7)(l:List Tm)(w:MO)(hv:aO w v l)(h0:0<l.length)(hl:l.length<=1048576) :
  Ni MK 100 #[v] w fun r w'=>∃g c,r=MN (MG (MI ⟨g,0,MH⟩) l.length c)/\w'.ownsRow w.heap.size 109 2 (MG (MI ⟨g,0,MH⟩) l.length c) l.length (ag l)/\MQ w.heap.size w w':=by
 obtain⟨a,cap,rfl,hc,hm,h⟩:=hv;rcases h with⟨h,_⟩|⟨b,off,rfl,hb,hcell⟩
 ·omega
 ·obtain⟨i0,hi,hz0,hz1,hz2⟩:=OF rX
  have hnews:∀j u,(ag l)[j]?=MI u->(w.alloc (MP #[] 109)).cell? ((⟨b,off,MH⟩:Oc).add j)=MI u:=fun j u hu=>by
   have hj:=(List.getElem?_eq_some_iff.1 hu).1;rw[eJ,(bW w).cell (p:=⟨b,off+j,MH⟩) hb,hcell j hj,hu]
  have H0:M6 _:=hnews;have hnil:∀W,(binOp .eql 44 (MG (MI ⟨b,off,MH⟩) l.length cap) (MG MH 0 0)).run MK W=.ok (M3 Nb) W:=fun W=>by kernel_rfl
  clear hnews hcell;go_enter Tryz.func100,Tryz.ntmps100
  go_wp2_with (first|(at_builtin;refine O9 _ rfl _ _ 44 rfl w.heap.size 109 i0 _ 2 16 RA hi hz0 hz1 hz2 rfl (by decide) (MG (MI ⟨w.heap.size,0,MH⟩) 0 0) 0 [] rfl (o7 (M1 _ _) (MV _)) ⟨b,off,MH⟩ l.length cap (ag l) rfl (bZ l) H0.out (gg l) h0 (by unfold NE;omega) (by omega) (by simp) _ rfl ?_;intro g' c' w2 hown2 hg2 hlies hlt2))
  go_wp2;go_ret;refine⟨g',c',by simp,?_,?_⟩
  ·rw[Oa,Oz]at hown2
   exact hown2
  ·exact(bW w).grown hg2 (by simp) (fun j e=>by cases e;exact MV _)
theorem xq(v:M7)(l:List Tm)(n:Int)(w:MO)(hv:aO w v l) :
  Ni MK 126 #[Ny #[v],MF ME n] w (Dg l n w):=by
 obtain⟨p,c,rfl,_⟩:=hv.F6;have HV:M6 _:=hv;clear hv;go_enter Tryz.func126,Tryz.ntmps126
 go_wp2_with fail
 obtain⟨W0,hW0⟩:∃W0,W0=((w.alloc (MP #[MG p l.length c] 46)).alloc (MP #[MF ME n] 3)).alloc (MP #[MG MH 0 0] 46):=⟨_,rfl⟩;rw[<-hW0];have hb0:MQ w.heap.size w W0:=by rw[hW0];exact(((MY _ _).alloc (MV _) _).alloc (by simp) _).alloc (by simp;omega) _
 have hR0:W0.heap[w.heap.size]?=MI (MP #[MG p l.length c] 46 (0,0)):=by rw[hW0];exact aN _ _ (aN _ _ (M1 _ _))
 have hN0:W0.heap[w.heap.size+1]?=MI (MP #[MF ME n] 3 (0,0)):=by rw[hW0];exact aN _ _ (bV _ _ _)
 have hR1:W0.heap[w.heap.size+1+1]?=MI (MP #[MG MH 0 0] 46 (0,0)):=by rw[hW0];have:=M1 ((w.alloc (MP #[MG p l.length c] 46)).alloc (MP #[MF ME n] 3)) (MP #[MG MH 0 0] 46);simpa using this
 have hs0:W0.heap.size=w.heap.size+3:=by rw[hW0];simp
 refine(mD _ l _ (HV.out.below hb0)).mono ?_;rintro r w1 ⟨a,b,rfl,hlen,hiff,ha,hb1⟩;obtain⟨f1,f2,f3⟩:=mq w1 a hlen;have hbb:=hb0.trans (hb1.mono hb0.size);obtain⟨W5,hW5⟩:∃W5,W5=(w1.alloc (MP #[MF ME 0,MF ME 0,MF ME 0,MF ME 0,MF ME 0,MF ME 0,MF ME 0,MF ME 0,MF ME 0,MF ME 0,MF ME 0,MF ME 0] 101)).setCells w1.heap.size 0 (aj a):=⟨_,rfl⟩;rw[<-hW5]at f2 f3;have hb5:=hbb.trans (f3.mono hbb.size);have hR5:=af (af hR1 hb1) f3;have hN5:=af (af hN0 hb1) f3;have hS5:=af (af hR0 hb1) f3;have hc5:=aM hR5;have hn5:=aM hN5;have hf5:W5.frozen? ⟨w.heap.size+1+1,0,MH⟩=false:=by simp[Ng,hR5]
 have hsz:(aj a).toArray.size=12:=by simp[dm,hlen]
 have hs1:=hb1.size;have k1:(w1.alloc (MP #[MF ME 0,MF ME 0,MF ME 0,MF ME 0,MF ME 0,MF ME 0,MF ME 0,MF ME 0,MF ME 0,MF ME 0,MF ME 0,MF ME 0] 101)).there w1.heap.size 0 (aj a).toArray.size:=by rw[hsz];exact f1
 have k2:(Tryz.prog.info? 101).map (·.size)=MI (aj a).toArray.size:=by rw[dr,hsz]
 have hg0:(Tryz.prog.info? 101).map (·.size)=MI (aj a).length:=by rw[dr,dm,hlen]
 have HQ:M6 (_/\_/\_/\_/\_):=⟨k1,k2,OE (iX a),hW5,hg0⟩;have HZ:M6 (_/\_/\_/\_/\_):=⟨f2,hb5,hR5,hN5,hS5⟩;have HI:M6 (_/\_):=⟨hiff,ha⟩;clear k1 k2 f1 f2 f3 hb0 hb1 hbb hW5 hiff ha hb5 hsz hR1 hR5 hW0 hN5 hS5 hR0 hN0 hg0;cases b
 ·have hno:¬bD l:=fun h=>PP (HI.out.1.2 h)
  have HN:M6 _:=hno;clear hno HI
  go_wp2_with ((with_reducible refine OW rfl 101 (O6 6) (O6 12) rfl w1.heap.size 0 (aj a).toArray ?hx ?hy ?ht ?hi ?h1 ?_);(case hx=>rfl);(case hy=>rfl);(case ht=>exact HQ.out.1);(case hi=>exact HQ.out.2.1);(case h1=>exact HQ.out.2.2.1);rw[NS,<-HQ.out.2.2.2.1])
  refine Np (v:=Nv #[Ny #[MG MH 0 0],MF ME 6]) (bp VZ rfl rfl (aI (P:=MK) (cs:=[MG MH 0 0]) (iJ HZ.out.2.2.1) U9 rfl (by kernel_rfl))) rfl ⟨_,_,rfl,HZ.out.2.1.setCell (by simp;omega) _,Nt ⟨HN.out,rfl,rfl⟩⟩
 ·have HN:M6 (bD l/\a=aJ l):=⟨HI.out.1.1 rfl,HI.out.2 rfl⟩
  clear HI
  go_wp2_with (first|((with_reducible refine OW rfl 101 (O6 6) (O6 12) rfl w1.heap.size 0 (aj a).toArray ?hx ?hy ?ht ?hi ?h1 ?_);(case hx=>rfl);(case hy=>rfl);(case ht=>exact HQ.out.1);(case hi=>exact HQ.out.2.1);(case h1=>exact HQ.out.2.2.1);rw[NS,<-HQ.out.2.2.2.1])|((with_reducible refine O3 rfl 101 (O6 6) rfl w1.heap.size 0 ?gx (aj a) _ ?gc U2 ?gd ?gi ?_);(case gx=>rfl);(case gc=>exact HZ.out.1.Gq);(case gd=>rfl);(case gi=>exact HQ.out.2.2.2.2)))
  refine(nc a n _ hlen).mono ?_
  by_cases hp:(0<=n/\n<12)/\0<a.getD n.toNat 0
  ·have hpd:Nn (0<=n/\n<12/\0<a.getD n.toNat 0)=true:=Nq ⟨hp.1.1,hp.1.2,hp.2⟩
   rw[hpd];rintro r w8 ⟨rfl,hb8⟩;have hR8:=af HZ.out.2.2.1 hb8;have hN8:=af HZ.out.2.2.2.1 hb8;have hS8:=af HZ.out.2.2.2.2 hb8;have hb8':=HZ.out.2.1.trans (hb8.mono HZ.out.2.1.size);have hT8:=HV.out.below (ug hb8' (MV _));have hcS:=aM hS8;have hp':0<(aJ l).getD n.toNat 0:=by rw[<-HN.out.2];exact hp.2
   have hs8:=(Array.getElem?_eq_some_iff.1 hR8).1;obtain⟨j,rfl⟩:=NL hp.1.1;have hj:j<12:=by omega
   rw[NR]at hp';have hex:=CQ HN.out.1 j hj hp';have hl0:0<l.length:=by obtain⟨t,ht,_⟩:=hex;exact Qj ht
   have hl1:=sQ HN.out.1;have hkr:=Ed HN.out.1 j hj;have H8:M6 (_/\_/\_/\_/\_/\_/\_/\_):=⟨hR8,hN8,hS8,hb8',hT8,hex,hkr,hp'⟩;clear hR8 hN8 hS8 hb8' hT8 hex hkr hp' hpd hb8 hp HQ HZ hc5 hn5 hf5
   go_wp2_with fail
   refine(Cx _ l _ H8.out.2.2.2.2.1 hl0 (by omega)).mono ?_;rintro r w9 ⟨g,c9,rfl,ho9,hb9⟩;have hR9:=af H8.out.1 hb9;have hN9:=af H8.out.2.1 hb9;have hb9':=H8.out.2.2.2.1.trans (hb9.mono H8.out.2.2.2.1.size);have hg9:=(ho9.lt g rfl).1;have H9:M6 (_/\_/\_/\_):=⟨hR9,hN9,hb9',ho9⟩;clear hR9 hN9 hb9' ho9 hb9 hcS
   go_wp2_with fail
   refine(Af _ g c9 l (j:Int) (w.heap.size+1) _ H9.out.2.2.2 (aM H9.out.2.1) (by omega) H8.out.2.2.2.2.2.1).mono ?_;rintro r w10 ⟨rfl,ho10,hg10⟩;have hR10:w10.heap[w.heap.size+1+1]?=MI (MP #[MG MH 0 0] 46 (0,0)):=by
    rw[hg10.block _ (Array.getElem?_eq_some_iff.1 H9.out.1).1 (fun e=>by have:=NC e;omega)];exact H9.out.1
   have hb10:MQ w.heap.size w w10:=H9.out.2.2.1.grown hg10 H9.out.2.2.1.size (fun i e=>by have:=NC e;omega);have hc10:=aM hR10;have hf10:w10.frozen? ⟨w.heap.size+1+1,0,MH⟩=false:=by simp[Ng,hR10]
   have hb11:=hb10.setCell (p:=⟨w.heap.size+1+1,0,MH⟩) (by simp;omega) (MG (MI ⟨g,0,MH⟩) (kp l (j:Int)).length c9);have ho11:(w10.setCell ⟨w.heap.size+1+1,0,MH⟩ (MG (MI ⟨g,0,MH⟩) (kp l (j:Int)).length c9)).ownsRow w.heap.size 109 2 (MG (MI ⟨g,0,MH⟩) (kp l (j:Int)).length c9) (kp l (j:Int)).length (ag (kp l (j:Int))):=
    (aw ho10 (fun i hi=>MU _ _ _ _ (by have:=(ho10.lt i hi).1;simp;omega))).mono (by omega)
   rw[H8.out.2.2.2.2.2.2.1]at ho11 hb11;have H11:M6 (_/\_/\_):=⟨hb11,ho11,hR10⟩;have hkr:=H8.out.2.2.2.2.2.2.1;rw[hkr];clear hb11 ho11 hR10 ho10 hb10 hg10 hkr;go_wp2;refine Np (v:=Nv #[Ny #[MG (MI ⟨g,0,MH⟩) (ao ((aJ l).set j 0)).length c9],MF ME 0]) (bp VZ rfl rfl (aI (P:=MK) (cs:=[MG (MI ⟨g,0,MH⟩) (ao ((aJ l).set j 0)).length c9]) (iJ H11.out.2.2) U9 rfl (by kernel_rfl))) rfl ⟨_,_,rfl,H11.out.1,NF (NF ⟨HN.out.1,⟨⟨by omega,by omega⟩,?_⟩,rfl,H11.out.2.1⟩)⟩;rw[NR];exact H8.out.2.2.2.2.2.2.2
  ·have hpd:Nn (0<=n/\n<12/\0<a.getD n.toNat 0)=false:=M0 fun h=>hp ⟨⟨h.1,h.2.1⟩,h.2.2⟩
   rw[hpd];rintro r w8 ⟨rfl,hb8⟩;have hR8:=af HZ.out.2.2.1 hb8;have hc8:=aM hR8;have hf8:w8.frozen? ⟨w.heap.size+1+1,0,MH⟩=false:=by simp[Ng,hR8]
   have HB:M6 (_/\_/\_):=⟨HZ.out.2.1.trans (hb8.mono HZ.out.2.1.size),hR8,hp⟩;clear hpd hp hb8 hR8;go_wp2;refine Np (v:=Nv #[Ny #[MG MH 0 0],MF ME 8]) (bp VZ rfl rfl (aI (P:=MK) (cs:=[MG MH 0 0]) (iJ HB.out.2.1) U9 rfl (by kernel_rfl))) rfl ⟨_,_,rfl,HB.out.1.setCell (by simp;omega) _,NF (Nt ⟨HN.out.1,by rw[<-HN.out.2];exact HB.out.2.2,rfl,rfl⟩)⟩
theorem sq(b:Nat):(Nj 12 (0:Int)).getD b 0=0:=by
 rw[NK,Pj]
 split <;> rfl
theorem tu:aZ (Nj 12 0):=⟨by simp,fun b=>by rw[sq];omega,fun b=>by rw[sq];omega⟩
theorem li{a:List Int}(h:aZ a):bD (ao a):=⟨a,h,rfl⟩
theorem Ad(v:M7)(a:List Int)(b:Nat)(k:Int)(w:MO)(ha:aZ a)(hv:aO w v (ao a))(hb:b<12)(hk:1<=k/\k<=8)(h0:¬0<a.getD b 0) :
  Ni MK 184 #[Ny #[v],MF ME (b:Int),MF ME k] w fun r w'=>∃p c,r=MN (Nv #[Ny #[MG p (ao (a.set b k)).length c],MF ME 0])/\w'.ownsRow w.heap.size 109 2 (MG p (ao (a.set b k)).length c) (ao (a.set b k)).length (ag (ao (a.set b k)))/\MQ w.heap.size w w' :=
 (DR v (ao a) (b:Int) k w hv).mono fun r w' h=>by
  obtain⟨y,e,rfl,hbl,h⟩:=h;rw[l0 ha,NR]at h;have hok:=li ha;rcases h with⟨h1,_⟩|⟨_,h2,_⟩|⟨_,_,h3,_⟩|⟨_,_,_,rfl,ho⟩
  ·exact absurd hok h1
  ·exact absurd ⟨⟨by omega,by omega⟩,hk⟩ h2
  ·exact absurd h3 h0
  ·obtain⟨p,c,rfl⟩:=cR ho
   exact⟨p,c,rfl,ho,hbl⟩
def ma(out:List Int)(t:Tm):List Int:=if t.2∈out then out else out++[t.2]
def vY(m:List Tm):List Int:=m.foldl ma []
def dE(a:List Int)(out:List Int):List Int:=(Pm 12).map fun(b:Nat)=>if(b:Int)∈out then 0 else a.getD b 0
theorem lM(a out:List Int):(dE a out).length=12:=by simp[dE]
theorem Ah{a:List Int}(h:a.length=12):dE a []=a:=by
 apply Ot;intro j
 by_cases hj:j<12
 ·simp[dE,hj,NK,MR (show j<a.length by omega)]
 ·rw[Nz (by rw[lM];omega),Nz (by omega)]
theorem CV(a out:List Int)(b:Nat)(hb:b<12):(dE a out).getD b 0=if(b:Int)∈out then 0 else a.getD b 0:=by
 simp[dE,hb]
theorem yM(a out:List Int)(b:Nat)(hb:b<12):dE a (out++[(b:Int)])=(dE a out).set b 0:=by
 apply Ot;intro j
 by_cases hj:j<12
 ·by_cases h:j=b
  ·subst h
   rw[N7 (by rw[lM];exact hj)];simp[dE,hj]
  ·rw[N3 (Pi h)]
   have hne:¬((j:Int)=(b:Int)):=by omega
   simp[dE,hj,hne]
 ·rw[Nz (by rw[lM];omega),Nz (by rw[NA,lM];omega)]
abbrev i5(a:List Int)(n:Int):Prop:=0<=n/\n<12/\0<a.getD n.toNat 0
def gA(a:List Int)(out:List Int)(t:Tm):List Int:=if i5 (dE a out) t.2 then out++[t.2]else out
def fv(a:List Int)(m:List Tm):List Int:=m.foldl (gA a) []
theorem CG(a:List Int)(m:List Tm)(t:Tm):fv a (m++[t])=gA a (fv a m) t:=by simp[fv]
theorem BP(a:List Int)(m:List Tm):(fv a m).length<=m.length:=by
 have h:∀(m:List Tm) (x:List Int),(m.foldl (gA a) x).length<=x.length+m.length:=by
  intro m
  induction m with
  |nil=>intro x;simp
  |cons t m ih =>
   intro x;have h1:(gA a x t).length<=x.length+1:=by
    unfold gA
    split
    ·simp
    ·omega
   have:=ih (gA a x t);simp only[O4,Ox];omega
 simpa [fv]using h m []
theorem sB{a:List Int}{n:Int}(h:i5 a n):i5 (dE a out) n↔n∉ out:=by
 obtain⟨h0,h1,h2⟩:=h;obtain⟨b,rfl⟩:=NL h0;have hb:b<12:=by omega
 unfold i5;rw[NR]at *;rw[CV a out b hb]
 by_cases hm:(b:Int)∈out
 ·rw[Nh hm]
  exact⟨fun h=>absurd h.2.2 (by omega),fun h=>absurd hm h⟩
 ·rw[Nf hm]
  exact⟨fun _=>hm,fun _=>⟨h0,h1,h2⟩⟩
theorem yD{a:List Int}{m:List Tm}(h:∀t∈m,i5 a t.2):fv a m=vY m:=by
 have hh:∀(m:List Tm) (x:List Int),(∀t∈m,i5 a t.2)->m.foldl (gA a) x=m.foldl ma x:=by
  intro m
  induction m with
  |nil=>intro x _;rfl
  |cons t m ih =>
   intro x hm;have e:gA a x t=ma x t:=by
    unfold gA ma
    by_cases ht:t.2∈x
    ·rw[Nh ht,Nf (fun h=>(sB (hm t (NM ..))).1 h ht)]
    ·rw[Nf ht,Nh ((sB (hm t (NM ..))).2 ht)]
   rw[O4,O4,e];exact ih _ fun y hy=>hm y (NB _ hy)
 exact hh m [] h
theorem xW(h:bD l):∀t∈l,i5 (aJ l) t.2:=by
 intro t ht;have e:=h.eq;rw[e]at ht;obtain⟨b,i,hb,hi,rfl⟩:=ln.1 ht;refine⟨by simp,by simp only;omega,?_⟩;simp only[NR];unfold wt at hi;omega
def lD(l:List Tm)(at_:Int):List Tm:=l.filter (fun t=>Nn (at_<=t.1))++l.filter (fun t=>Nn (t.1<at_))
def ie(l:List Tm)(at_:Int):List Int:=vY (lD l at_)
theorem Cv:t∈lD l at_↔t∈l:=by
 unfold lD;simp only[QF,List.mem_filter,decide_eq_true_eq];constructor
 ·rintro(h|h) <;> exact h.1
 ·intro h
  by_cases h2:at_<=t.1
  ·exact Nt ⟨h,h2⟩
  ·exact NF ⟨h,by omega⟩
def eH(l:List Tm)(at_:Int):Nat:=l.findIdx fun t=>Nn (at_<=t.1)
theorem qd(l:List Tm)(at_:Int):eH l at_<=l.length:=List.findIdx_le_length
theorem rU(j:Nat)(hj:j<l.length)(h:j<eH l at_):l[j].1<at_:=by
 have:=List.not_of_lt_findIdx h;simp at this;exact this
theorem ts(hs:l.Pairwise (fun x y=>ax x y<0))(j:Nat)(hj:j<l.length)(h:eH l at_<=j):¬l[j].1<at_:=by
 have hlt:eH l at_<l.length:=by omega
 have h1:at_<=l[eH l at_].1:=by
  have:=List.findIdx_getElem (w:=hlt);exact M2 this
 by_cases e:eH l at_=j
 ·have:l[eH l at_]=l[j]:=by congr 1
  rw[this]at h1;omega
 ·have:=List.pairwise_iff_getElem.1 hs (eH l at_) j hlt hj (by omega)
  rw[i8]at this;omega
theorem zY{α:Type}(p:α->Bool)(l:List α)(k:Nat)(h1:∀j (hj:j<l.length),j<k->p l[j]=Nb)(h2:∀j (hj:j<l.length),k<=j->p l[j]=Nw):l.filter p=l.drop k/\l.filter (fun x=>!p x)=l.take k:=by
 have e1:(l.take k).filter p=[]:=List.filter_eq_nil_iff.2 fun x hx=>by
  obtain⟨j,hj,rfl⟩:=List.mem_take_iff_getElem.1 hx;rw[h1 j (by omega) (by omega)];exact PE
 have e2:(l.drop k).filter p=l.drop k:=List.filter_eq_self.2 fun x hx=>by
  obtain⟨j,hj,rfl⟩:=List.mem_drop_iff_getElem.1 hx;exact h2 _ (by omega) (by omega)
 have e3:(l.take k).filter (fun x=>!p x)=l.take k:=List.filter_eq_self.2 fun x hx=>by
  obtain⟨j,hj,rfl⟩:=List.mem_take_iff_getElem.1 hx;rw[h1 j (by omega) (by omega)];rfl
 have e4:(l.drop k).filter (fun x=>!p x)=[]:=List.filter_eq_nil_iff.2 fun x hx=>by
  obtain⟨j,hj,rfl⟩:=List.mem_drop_iff_getElem.1 hx;rw[h2 _ (by omega) (by omega)];exact PE
 constructor
 ·conv=>lhs;rw[<-Oo k l]
  rw[OY,e1,e2,Oz]
 ·conv=>lhs;rw[<-Oo k l]
  rw[OY,e3,e4,OG]
theorem zH(hs:l.Pairwise (fun x y=>ax x y<0))(at_:Int):lD l at_=l.drop (eH l at_)++l.take (eH l at_):=by
 have h:=zY (fun t:Tm=>Nn (at_<=t.1)) l (eH l at_) (fun j hj h=>by have:=rU j hj h;simp;omega) (fun j hj h=>by have:=ts hs j hj h;simp;omega);unfold lD;rw[h.1,<-h.2]
 congr 1
 apply List.filter_congr;intro t _
 by_cases e:at_<=t.1
 ·simp[e]
 ·simp[e]
  omega
def eM(l:List Tm)(i0 k:Nat):List Tm:=(Pm k).map fun j=>l.getD ((i0+j) % l.length) (0,0)
theorem CF(l:List Tm)(i0 k:Nat):eM l i0 (k+1)=eM l i0 k++[l.getD ((i0+k) % l.length) (0,0)]:=by simp[eM,ZqB]
theorem ud(l:List Tm)(i0 k:Nat):(eM l i0 k).length=k:=by simp[eM]
theorem Ek(l:List Tm)(i0:Nat)(h:i0<=l.length):eM l i0 l.length=l.drop i0++l.take i0:=by
 apply Ot;intro j
 by_cases hj:j<l.length
 ·have hl:0<l.length:=by omega
  rw[Q9,NJ];unfold eM;rw[List.getElem?_map,List.getElem?_range hj];simp only[OH]
  by_cases h2:j<l.length-i0
  ·rw[Nh h2,Pa,Nat.mod_eq_of_lt (by omega),NK,MR (by omega)]
   rfl
  ·have e:(i0+j) % l.length=j-(l.length-i0):=by
    rw[show i0+j=(j-(l.length-i0))+l.length by omega,Nat.add_mod_right,Nat.mod_eq_of_lt (by omega)]
   rw[Nf h2,e,O0 (by omega),NK,MR (by omega)];rfl
 ·rw[Nz (by rw[ud];omega),Nz (by simp;omega)]
theorem Bw(h:bD l)(at_:Int):fv (aJ l) (eM l (eH l at_) l.length)=ie l at_:=by
 have hs:l.Pairwise (fun x y=>ax x y<0):=by have:=mg h.wts;rwa[<-h.eq]at this
 rw[Ek l _ (qd l at_),<-zH hs at_];exact yD fun t ht=>xW h t (Cv.1 ht)
def Du(l:List Tm)(key:Int)(w:MO)(r:Ending)(w':MO):Prop:=∃(y:M7) (e:Int),r=MN (Nv #[y,MF ME e])/\MQ w.heap.size w w' /\
 ((¬bD l/\e=6/\y=MG MH 0 0)\/(bD l/\¬(0<=key/\key<=4294967295)/\e=2/\y=MG MH 0 0) \/
  (bD l/\(0<=key/\key<=4294967295)/\e=0/\w'.ownsRow w.heap.size 3 1 y (ie l (fH key.toNat:Nat)).length (aj (ie l (fH key.toNat:Nat)))))
theorem Fg(a b:List Int):aj (a++b)=aj a++aj b:=by simp[aj]
theorem uh(a b c:Int)(w:MO) :
  Ni MK 52 #[Ny #[MF ME a,MF ME b],MF ME c] w fun r w'=>r=MN (MF ME (cx a c))/\MQ w.heap.size w w':=by
 go_enter Tryz.func52,Tryz.ntmps52
 go_wp2_with fail
 refine(jZ a c _).mono ?_;rintro r w1 ⟨rfl,rfl⟩;go_wp2;go_ret;exact⟨rfl,(MY _ _).alloc (MV _) _⟩
theorem tc(a b:Int):cx a b<0↔a<b:=by
 unfold cx
 repeat' split
 all_goals omega
theorem Fd(v:M7)(l:List Tm)(at_:Int)(i0:Nat)(w:MO)(hv:aO w v l)(h0:i0<=l.length)(h1:∀j (hj:j<l.length),j<i0->l[j].1<at_)(h2:∀j (hj:j<l.length),i0<=j->¬l[j].1<at_)(hlen:l.length<=1048577) :
  Ni MK 51 #[v,MF ME at_,PB (PD 52) #[] #[]] w fun r w'=>∃b,r=MN (Nv #[MF ME i0,M3 b])/\MQ w.heap.size w w':=by
 obtain⟨a,ca,rfl,hca,hma,pa⟩:=hv.F6;unfold NE at hma;have HP:M6 (_/\_/\_):=⟨pa,h1,h2⟩;clear pa h1 h2;go_enter Tryz.func51,Tryz.ntmps51;go_wp2
 go_loopw [9,10] (fun i j wr=>∃(p q:Nat),i=MF ME p/\j=MF ME q/\p<=i0/\i0<=q/\q<=l.length/\MQ w.heap.size w wr) (fun i j _=>(intOf j).toNat-(intOf i).toNat)
 case atStart=>exact⟨0,l.length,rfl,rfl,Nx _,h0,MV _,MY _ _⟩
 case round =>
  obtain⟨p,q,rfl,rfl,hp,hq,hql,hb⟩:=hrel;have HB:M6 _:=hb;clear hb
  by_cases hlt:p<q
  ·have hpd:Nn ((p:Int)<(q:Int))=true:=Nq (by omega)
   obtain⟨m,hm⟩:∃m,m=(p+q) / 2:=⟨_,rfl⟩;have hm1:p<=m:=by omega
   have hm2:m<q:=by omega
   have hmI:((p:Int)+(q:Int)) / 2=(m:Int):=by omega
   have hmN:(p+q) / 2=m:=hm.symm;clear hm;obtain⟨b0,off,rfl,hbl,p1,p2⟩:=HP.out.1 m (by omega);have e1:=(HB.out.cell (p:=⟨b0,off+m*2,MH⟩) hbl).trans p1;have e2:=(HB.out.cell (p:=⟨b0,off+m*2+1,MH⟩) hbl).trans p2;obtain⟨xa,hxa⟩:∃xa,(l[m]'(by omega)).1=xa:=⟨_,rfl⟩;obtain⟨xd,hxd⟩:∃xd,(l[m]'(by omega)).2=xd:=⟨_,rfl⟩;rw[hxa]at e1;rw[hxd]at e2;have HX:M6 _:=hxa;clear hxa hxd p1 p2;have hm3:(0:Int)<=(m:Int):=by omega
   have hm4:(m:Int)<(l.length:Int):=by omega
   obtain⟨c,hc⟩:∃c,c=cx xa at_:=⟨_,rfl⟩;have hcal:=fun W=>uh xa xd at_ W
   rw[<-hc]at hcal;have HC:M6 (_/\_):=⟨hc,hcal⟩;clear hc hcal;cases hcd:Nn (c<0)
   ·go_wp2_with (first|(go_at_call 52;refine(HC.out.2 _).mono ?_;rintro r w1 ⟨rfl,hb1⟩))
    refine⟨⟨p,m,rfl,rfl,hp,?_,by omega,HB.out.trans (hb1.mono HB.out.size)⟩,by simp[intOf];omega⟩;rcases Oq m i0 with h|h
    ·have h3:=HP.out.2.1 m (by omega) h
     rw[HX.out]at h3;exact absurd ((tc _ _).2 h3) (by rw[<-HC.out.1];exact Nc hcd)
    ·exact h
   ·go_wp2_with (first|(go_at_call 52;refine(HC.out.2 _).mono ?_;rintro r w1 ⟨rfl,hb1⟩))
    refine⟨⟨m+1,q,by simp,rfl,?_,hq,hql,HB.out.trans (hb1.mono HB.out.size)⟩,by simp[intOf];omega⟩;rcases Oq m i0 with h|h
    ·exact h
    ·have h3:=HP.out.2.2 m (by omega) h
     rw[HX.out]at h3;have h4:xa<at_:=(tc _ _).1 (by rw[<-HC.out.1];exact M2 hcd);omega
  ·obtain rfl:p=i0:=by omega
   obtain rfl:q=p:=by omega
   obtain⟨m,hm⟩:∃m,m=q:=⟨_,rfl⟩;subst hm
   by_cases hlt2:m<l.length
   ·obtain⟨b0,off,rfl,hbl,p1,p2⟩:=HP.out.1 m (by omega)
    have e1:=(HB.out.cell (p:=⟨b0,off+m*2,MH⟩) hbl).trans p1;have e2:=(HB.out.cell (p:=⟨b0,off+m*2+1,MH⟩) hbl).trans p2;obtain⟨xa,hxa⟩:∃xa,(l[m]'(by omega)).1=xa:=⟨_,rfl⟩;obtain⟨xd,hxd⟩:∃xd,(l[m]'(by omega)).2=xd:=⟨_,rfl⟩;rw[hxa]at e1;rw[hxd]at e2;clear hxa hxd p1 p2;have hm3:(0:Int)<=(m:Int):=by omega
    have hm4:(m:Int)<(l.length:Int):=by omega
    have hcal:=fun W=>uh xa xd at_ W
    go_wp2_with (first|(go_at_call 52;refine(hcal _).mono ?_;rintro r w1 ⟨rfl,hb1⟩))
    go_ret2
    exact⟨_,rfl,HB.out.trans (hb1.mono HB.out.size)⟩
   ·obtain rfl:m=l.length:=by omega
    go_wp2
    go_ret2
    exact⟨_,rfl,HB.out⟩
section
open Go.Shelf
attribute [local go_sem] Oper.semAt_some
def fJ(S:Nat->Prop)(W W':MO):Prop:=∀k,S k->W'.heap[k]?=W.heap[k]?
theorem fJ.F0{S:Nat->Prop}{A B C:MO}(h1:fJ S A B)(h2:fJ S B C):fJ S A C:=fun k hk=>(h2 k hk).trans (h1 k hk)
theorem fJ.Gy(S:Nat->Prop)(A:MO):fJ S A A:=fun _ _=>rfl
theorem fJ.F7{S:Nat->Prop}{A B:MO}(h:fJ S A B)(hk:S k)(o:Nat):B.cell? ⟨k,o,MH⟩=A.cell? ⟨k,o,MH⟩:=NG (h k hk)
theorem FG(i0 k len j:Nat)(hj:j=(i0+k) % len)(hl:0<len)(h1:i0<=1048576)(h2:k<=1048576)(h3:len<=1048576)(W:MO):(binOp .rem 3 (MF ME ((i0:Int)+(k:Int))) (MF ME (len:Int))).run MK W=.ok (MF ME (j:Int)) W:=by
 have hz:¬(len:Int)=0:=by omega
 have hz0:(0:Int)<(len:Int):=by omega
 have hjI:((i0:Int)+(k:Int)).tmod (len:Int)=(j:Int):=by
  rw[hj,Oi (by omega),QY,Int.natCast_add]
 subst hj;go_simp;omega
theorem E8(n:Nat)(hn:1<=n)(l Bs Bf:Nat)(p:Option Oc)(c:Nat)(i0:Nat)(xs:List Tm)(S:Nat->Prop)(hSs:S Bs)(hSf:S Bf)(hi0:i0<=xs.length)(hlen:xs.length<=1048576)(hcap:xs.length<=c)
  (J Jx:List Tm->MO->Prop)
  (hY:∀pre x W,J pre W->pre.length<xs.length->YieldAt SJ (n-1) MK l #[Ny #[MF ME x.1,MF ME x.2]] W fun e W' =>
   (e=MN (M3 Nw)/\J (pre++[x]) W'/\fJ S W W')\/(e=MN (M3 Nb)/\Jx (pre++[x]) W'))
  (hD:∀pre W,J pre W->J pre W.drew)
  (W:MO) (hBs:W.cell? ⟨Bs,0,MH⟩=MI (MG p xs.length c)) (hBf:W.cell? ⟨Bf,0,MH⟩=MI (MF ME i0))
  (pa:∀i (hi:i<xs.length),∃b off,p=MI ⟨b,off,MH⟩/\S b/\W.cell? ⟨b,off+i*2,MH⟩=MI (MF ME xs[i].1)/\W.cell? ⟨b,off+i*2+1,MH⟩=MI (MF ME xs[i].2)) (h0:J [] W) :
  CallsIn SJ n MK 54 #[PB (.yield l) #[] #[],Na (MI ⟨Bs,0,MH⟩),Na (MI ⟨Bf,0,MH⟩)] W fun e W'=>(∃v,e=MN v) /\
   ((∃ys,ys=eM xs i0 xs.length/\J ys W')\/(∃pre:List Tm,True/\Jx pre W')):=by
 have HP:M6 _:=pa;clear pa;refine callsIn_of_wp Qz rfl trivial ?_ rfl;simp only[Qk,OQ,Ox,List.length_nil,Nat.reduceAdd,Nat.reduceSub,Sg,Sh,SY,Sk,Oz,List.cons_append]
 gi_wp2
 gi_loopw [7] (fun i wr=>∃k:Nat,k<=xs.length/\i=MF ME k/\J (eM xs i0 k) wr/\fJ S W wr)
  (fun i _=>xs.length-(intOf i).toNat)
 case atStart=>exact⟨0,Nx _,rfl,h0,fJ.Gy _ _⟩
 case round =>
  obtain⟨k,hk,rfl,hJs,hkp⟩:=hrel
  by_cases hlt:k<xs.length
  ·obtain⟨j,hj⟩:∃j,j=(i0+k) % xs.length:=⟨_,rfl⟩
   have hjl:j<xs.length:=by rw[hj];exact Nat.mod_lt _ (by omega)
   obtain⟨b,off,rfl,hSb,c1,c2⟩:=HP.out j hjl;have e1:=(hkp.F7 hSb (off+j*2)).trans c1;have e2:=(hkp.F7 hSb (off+j*2+1)).trans c2;have hs1:=(hkp.F7 hSs 0).trans hBs;have hf1:=(hkp.F7 hSf 0).trans hBf;have hcs:eM xs i0 (k+1)=eM xs i0 k++[xs[j]]:=by
    rw[CF,<-hj,NK,MR hjl];rfl
   obtain⟨ta,hta⟩:∃ta,ta=xs[j].1:=⟨_,rfl⟩;obtain⟨td,htd⟩:∃td,td=xs[j].2:=⟨_,rfl⟩;have hx:xs[j]=(ta,td):=by rw[hta,htd]
   rw[<-hta]at e1;rw[<-htd]at e2;rw[hx]at hcs;obtain⟨fn,tmps,assign,body,hy,hR⟩:=hY _ (ta,td) wr.drew (hD _ _ hJs) (by rw[ud];exact hlt);have hkI:(k:Int)<(xs.length:Int):=by omega
   have hjI:((i0:Int)+(k:Int)).tmod (xs.length:Int)=(j:Int):=by
    rw[hj,Oi (by omega),QY,Int.natCast_add]
   have hjW:(IntKind.i64.wrap ((i0:Int)+(k:Int))).tmod (xs.length:Int)=(j:Int):=by
    rw[show IntKind.i64.wrap ((i0:Int)+(k:Int))=(i0:Int)+(k:Int)by rw[Ow];omega];exact hjI
   have hrem:=FG i0 k xs.length j hj (by omega) (by omega) (by omega) hlen
   dsimp only at hy
   have hR':=hR.mono (R':=fun e W3=>∃go:Bool,e=MN (M3 go)/\(go=Nw->M6 (J (eM xs i0 k++[(ta,td)]) W3/\fJ S wr.drew W3))/\(go=Nb->M6 (Jx (eM xs i0 k++[(ta,td)]) W3/\True))) (fun e W3 h=>by
    rcases h with⟨h1,h2,h3⟩|⟨h1,h2⟩
    ·exact⟨Nw,h1,fun _=>⟨h2,h3⟩,fun h=>PP h⟩
    ·exact⟨Nb,h1,fun h=>PP h,fun _=>⟨h2,trivial⟩⟩)
   clear hR;have hmix:Tryz.prog.follows .mixedOrders=true:=by kernel_rfl
   have hz0:(0:Int)<(xs.length:Int):=by omega
   have hz3:¬xs=[]:=fun e=>by rw[e]at hlt;simp at hlt
   have hz4:¬xs.length=0:=by omega
   have hz5:(0:Int)<=(j:Int):=by omega
   have hz6:(j:Int)<(xs.length:Int):=by omega
   have hz:¬(xs.length:Int)=0:=by omega
   have hz2:((xs.length:Int) == 0)=false:=by rw[Oh];exact hz
   have HH:M6 (_/\_):=⟨hJs,hcs⟩;clear hJs hcs hY hD c1 c2 hx hta htd hj
   gi_wp2
   gi_region_with_o (with_reducible refine hR'.mono ?_;rintro e W3 ⟨go,rfl,hgo,hno⟩)
   all_goals
    cases go
    ·have hjx:=hno rfl
     clear hgo hno
     gi_wp2
     refine Np (results_none rfl _ _ _) rfl ?_;exact⟨⟨_,rfl⟩,NF ⟨_,trivial,hjx.out.1⟩⟩
    ·have hj3:=hgo rfl
     clear hgo hno
     gi_wp2
     go_roundw
     case rel=>exact⟨k+1,by omega,by simp,by rw[HH.out.2];exact hj3.out.1,hkp.F0 hj3.out.2⟩
     case measure=>simp[intOf];omega
  ·obtain rfl:k=xs.length:=by omega
   gi_wp2
   go_end0
   exact⟨⟨_,rfl⟩,Nt ⟨_,rfl,hJs⟩⟩
theorem DM(v:M7)(l:List Tm)(at_:Int)(w:MO)(hv:aO w v l)(hs:l.Pairwise (fun x y=>ax x y<0))(hlen:l.length<=1048577) :
  Ni MK 29 #[v,MF ME at_] w fun r w'=>∃Bf,r=MN (PB (PD 54) #[] #[Na (MI ⟨w.heap.size,0,MH⟩),Na (MI ⟨Bf,0,MH⟩)])/\w'.heap[w.heap.size]?=MI (MP #[v] 44 (0,0))/\w'.heap[Bf]?=MI (MP #[MF ME (eH l at_:Nat)] 3 (0,0))/\w.heap.size<Bf/\MQ w.heap.size w w':=by
 obtain⟨p,c,rfl⟩:=hv.Ga;have HV:M6 (_/\_):=⟨hv,hs⟩;clear hv hs;go_enter Tryz.func29,Tryz.ntmps29
 go_wp2_with fail
 obtain⟨W0,hW0⟩:∃W0,W0=w.alloc (MP #[MG p l.length c] 44):=⟨_,rfl⟩;have hb0:MQ w.heap.size w W0:=by rw[hW0];exact mC _ _
 have hR0:W0.heap[w.heap.size]?=MI (MP #[MG p l.length c] 44 (0,0)):=by rw[hW0];exact M1 _ _
 rw[<-hW0];clear hW0;refine(Fd _ l at_ (eH l at_) _ (HV.out.1.below hb0) (qd l at_) rU (ts HV.out.2) hlen).mono ?_;rintro r w1 ⟨bb,rfl,hb1⟩;have hR1:=af hR0 hb1;have hbw:=hb0.trans (hb1.mono hb0.size);have H1:M6 (_/\_):=⟨hR1,hbw⟩;clear hR1 hbw hb0 hb1 hR0;go_wp2;go_ret;exact⟨_,rfl,aN _ _ H1.out.1,M1 _ _,(Array.getElem?_eq_some_iff.1 H1.out.1).1,H1.out.2.alloc H1.out.2.size _⟩
end
section
open Go.Shelf
attribute [local go_sem] Oper.semAt_some
theorem xM(n:Nat)(hn:1<=n)(Bs Bf:Nat)(p:Option Oc)(c:Nat)(i0:Nat)(xs:List Tm)(S:Nat->Prop)(w:MO)(hSs:S Bs)(hSf:S Bf)(hi0:i0<=xs.length)(hlen:xs.length<=1048576)(hcap:xs.length<=c)
  (hS:∀k,S k->k<w.heap.size) (hBs:w.cell? ⟨Bs,0,MH⟩=MI (MG p xs.length c)) (hBf:w.cell? ⟨Bf,0,MH⟩=MI (MF ME i0))
  (pa:∀i (hi:i<xs.length),∃b off,p=MI ⟨b,off,MH⟩/\S b/\w.cell? ⟨b,off+i*2,MH⟩=MI (MF ME xs[i].1)/\w.cell? ⟨b,off+i*2+1,MH⟩=MI (MF ME xs[i].2)) :
  SeqStopsK SJ n MK 54 #[Na (MI ⟨Bs,0,MH⟩),Na (MI ⟨Bf,0,MH⟩)] (fun x:Tm=>#[Ny #[MF ME x.1,MF ME x.2]]) (fJ S) (fun ys=>ys=eM xs i0 xs.length) (fun _=>True) xs.length w:=fun l J Jx W hW hJ _ hY h0 =>
 E8 n hn l Bs Bf p c i0 xs S hSs hSf hi0 hlen hcap J Jx hY (fun pre W1 hj=>hJ pre W1 _ MH hj ⟨rfl,rfl,rfl,MV _,fun _ _ _=>rfl⟩ (fun r e=>by cases e)) W ((hW.cell (p:=⟨Bs,0,MH⟩) (hS _ hSs)).trans hBs) ((hW.cell (p:=⟨Bf,0,MH⟩) (hS _ hSf)).trans hBf)
  (fun i hi=>by
   obtain⟨b,off,hp,hb,h1,h2⟩:=pa i hi;exact⟨b,off,hp,hb,(hW.cell (p:=⟨b,off+i*2,MH⟩) (hS _ hb)).trans h1,(hW.cell (p:=⟨b,off+i*2+1,MH⟩) (hS _ hb)).trans h2⟩) h0
theorem rO{F:Fence}{n:Nat}(w:MO){ops:Array Oper}{rest:List Oper}{o:Oper}{a:Act}{Q:Exit->Act->MO->Prop}
  (hg:o.guard=MH) (T:NU) (x:Operand) (hop:o.op=.load T x) (v res:M7) (hx:a.eval x=v) (hr:(Instr.loadAt T v).run P w=.ok res w) (hK:wpListIn F n P ops Q rest (a.put o.dst res) w) :
  wpListIn F n P ops Q (o::rest) a w:=by
 refine wpListIn_plain hg fun K hK'=>?_
 unfold Oper.wpIn;refine⟨?_,?_⟩
 ·simp[Oper.about,hop,resolve,Target.leads,P3]
 ·rw[Oper.semAt_plain F _ _ (by rw[hop];intro c hc';cases hc')]
  simp[execOp,hop,hx,hr,Result.andThen];exact hK' _ _ hK
theorem mG{row:Option Nat}{cs:Array M7}{t:NU}{f:Nat×Nat}(h:W.heap[k]?=MI (MP cs t f))(hg:W.grownBy W' row)(hr:∀r,row=MI r->∃o:Obj,W.heap[r]?=MI o/\o.isCells=Nb):W'.heap[k]?=W.heap[k]?:=by
 refine hg.block k (Array.getElem?_eq_some_iff.1 h).1 (fun e=>?_);obtain⟨o,ho,hc⟩:=hr k e.symm;rw[h]at ho;cases ho;cases hc
def jw(w WL:MO)(g6 g10:Nat)(a:List Int)(out:List Int)(W:MO):Prop :=
 (∃v,Boxed W g10 71 v/\W.ownsRow WL.heap.size 3 1 v out.length (aj out))/\aC 101 12 W g6 (dE a out)/\MQ w.heap.size w W/\WL.heap.size<=W.heap.size
theorem Ex(w WL:MO)(g6 g10:Nat)(a:List Int)(hsz:w.heap.size<=WL.heap.size):OwnFrom WL.heap.size (fun(pre:List Tm) W=>jw w WL g6 g10 a (fv a pre) W):=by
 rintro pre W W' row ⟨⟨v,hb,ho⟩,hA,hB,hs⟩ hg hr;have hr2:∀r,row=MI r->∃o:Obj,W.heap[r]?=MI o/\o.isCells=false:=fun r e=>(hr r e).2
 refine⟨⟨v,(mG hb hg hr2).trans hb,aw ho (fun g hg'=>?_)⟩,hA.Gf (mG hA.1 hg hr2),hB.grown hg hB.size (fun k e=>Nm hsz (hr k e).1),Nm hs hg.size⟩;rcases ho.2 with⟨rfl,_⟩|⟨g2,cap,cur,rfl,_,hgb,_⟩
 ·cases hg'
 ·have e:g2=g:=by simpa [QQ]using hg'
  subst e;exact mG hgb hg hr2
theorem y8{cs:Array M7}{t e:NU}{f:Nat×Nat}(h:W.heap[k]?=MI (MP cs t f))(hte:t≠e){base size n:Nat}{xs:List M7}(hr:W.ownsRow base e size v n xs):v.ownBlock≠MI k:=by
 rcases hr.2 with⟨rfl,_⟩|⟨g,cap,cur,rfl,_,hgb,_⟩
 ·simp[QQ]
 ·intro e'
  have e2:g=k:=by simpa [QQ]using e'
  subst e2;rw[h]at hgb;cases hgb;exact hte rfl
def nA(N g6 g10:Nat)(k:Nat):Prop:=k<N/\k≠g6/\k≠g10
theorem pm{N:Nat}(h:MQ W.heap.size W W')(hN:N<=W.heap.size):fJ (nA N g6 g10) W W':=fun k hk=>h.block k (by have:=hk.1;omega)
theorem qu{N:Nat}(h:MQ W.heap.size W W'):KeepsFrom N W W':=⟨h.size,fun k o _ hk _=>(h.block k (Array.getElem?_eq_some_iff.1 hk).1).trans hk⟩
theorem jw.below{WL:MO}{a:List Int}(h:jw w WL g6 g10 a out W)(hb:MQ W.heap.size W W'):jw w WL g6 g10 a out W':=by
 obtain⟨⟨v,hx,ho⟩,hA,hB,hs⟩:=h;exact⟨⟨v,af hx hb,cq ho hb⟩,hA.below hb,hB.trans (hb.mono hB.size),Nm hs hb.size⟩
theorem Fm{WL w2 w1:MO}{b:Nat}{a:List Int}{v':M7}{tmp:Obj}(hx:Boxed w2 g10 71 v)(ho:w2.ownsRow WL.heap.size 3 1 v out.length (aj out))(hA:aC 101 12 w2 g6 (dE a out))(hB:MQ w.heap.size w w2)(hs:WL.heap.size<=w2.heap.size)
  (hown:w1.ownsRow WL.heap.size 3 1 v' (out.length+1) (aj out++[MF ME (b:Int)])) (hg:(w2.alloc tmp).grownBy w1 v.ownBlock) (h6:g6<WL.heap.size) (h10:g10<WL.heap.size) (hne:g6<g10) (hw:w.heap.size<=g6) (hb:b<12) :
  Boxed w1 g10 71 v/\aC 101 12 w1 g6 (dE a out)/\jw w WL g6 g10 a (out++[(b:Int)]) ((w1.setCell ⟨g10,0,MH⟩ v').setCell ⟨g6,b,MH⟩ (MF ME 0))/\fJ (nA WL.heap.size g6 g10) w2 ((w1.setCell ⟨g10,0,MH⟩ v').setCell ⟨g6,b,MH⟩ (MF ME 0)) /\
   KeepsFrom WL.heap.size w2 ((w1.setCell ⟨g10,0,MH⟩ v').setCell ⟨g6,b,MH⟩ (MF ME 0)):=by
 have hk:∀k,k<w2.heap.size->v.ownBlock≠MI k->w1.heap[k]?=w2.heap[k]?:=fun k h1 h2=>(hg.block k (by simp;omega) (fun e=>h2 e.symm)).trans (Ov _ _ _ h1)
 have hrow:∀k,k<WL.heap.size->v.ownBlock≠MI k:=fun k h e=>by have:=(ho.lt k e).1;omega
 have hx1:Boxed w1 g10 71 v:=(hk g10 (by omega) (hrow g10 h10)).trans hx;have hA1:aC 101 12 w1 g6 (dE a out):=hA.Gf (hk g6 (by omega) (hrow g6 h6));have hfar:∀k,k≠g6->k≠g10->((w1.setCell ⟨g10,0,MH⟩ v').setCell ⟨g6,b,MH⟩ (MF ME 0)).heap[k]?=w1.heap[k]?:=fun k h1 h2=>by
  rw[MU _ _ _ _ (by simpa using h1),MU _ _ _ _ (by simpa using h2)]
 have hgs:=hg.size;simp at hgs;have hbA:=hB.alloc hB.size tmp;have hbw:MQ w.heap.size w w1:=hbA.grown hg hbA.size (fun k e=>by have:=(ho.lt k e).1;omega);refine⟨hx1,hA1,⟨⟨v',?_,?_⟩,?_,(hbw.setCell (by simp;omega) _).setCell (by simp;omega) _,?_⟩,fun k hk2=>?_,⟨?_,fun k o h1 h2 h3=>?_⟩⟩
 ·exact(MU _ _ _ _ (by simp;omega)).trans (hx1.set v')
 ·rw[Fg,Ns]
  exact aw hown (fun g hg'=>hfar g (by have:=(hown.lt g hg').1;omega) (by have:=(hown.lt g hg').1;omega))
 ·rw[yM a out b hb]
  exact(hA1.Hk (by simp;omega) _).F4 b 0
 ·simp;omega
 ·rw[hfar k hk2.2.1 hk2.2.2]
  exact hk k (by have:=hk2.1;omega) (hrow k hk2.1)
 ·simp;omega
 ·rw[hfar k (by omega) (by omega)]
  have hlt:=(Array.getElem?_eq_some_iff.1 h2).1;refine(hk k hlt (fun e=>?_)).trans h2;rcases ho.2 with⟨rfl,_⟩|⟨g,cap,cur,rfl,_,hgb,_⟩
  ·cases e
  ·have e2:g=k:=by simpa [QQ]using e
   subst e2;rw[h2]at hgb;cases hgb;cases h3
theorem yX(v:M7)(l:List Tm)(n:Int)(w:MO)(hv:aO w v l) :
  Ni MK 15 #[Ny #[v],MF ME n] w (Du l n w):=by
 obtain⟨p,c,rfl,hcap,hm,pv⟩:=hv.F6;have HV:M6 (_/\_):=⟨hv,pv⟩;clear hv pv;refine(callsIn_wide (n:=3)).1 (callsIn_of_wp_marks Tryz.func15 rfl trivial (wpIn_wide.2 ?_) rfl);simp only[Tryz.ntmps15,OQ,Ox,List.length_nil,Nat.reduceAdd,Nat.reduceSub,Sg,Sh,SY,Sk,Oz,List.cons_append]
 go_wp2_with fail
 obtain⟨W0,hW0⟩:∃W0,W0=w.alloc (MP #[MG p l.length c] 46):=⟨_,rfl⟩;rw[<-hW0];have hb0:MQ w.heap.size w W0:=by rw[hW0];exact mC _ _
 have hR0:kC W0 w.heap.size (MG p l.length c) l:=by rw[hW0];exact kC.new HV.out.1
 refine(mD _ l _ hR0.2).mono ?_;rintro r w1 ⟨a,b,rfl,hlen,hiff,ha,hb1⟩;obtain⟨f1,f2,f3⟩:=mq w1 a hlen;have hbb:=hb0.trans (hb1.mono hb0.size);obtain⟨W5,hW5⟩:∃W5,W5=(w1.alloc (MP #[MF ME 0,MF ME 0,MF ME 0,MF ME 0,MF ME 0,MF ME 0,MF ME 0,MF ME 0,MF ME 0,MF ME 0,MF ME 0,MF ME 0] 101)).setCells w1.heap.size 0 (aj a):=⟨_,rfl⟩;rw[<-hW5]at f2 f3;have hb5:=hbb.trans (f3.mono hbb.size);have hR5:=(hR0.below hb1).below f3;have hsz:(aj a).toArray.size=12:=by simp[dm,hlen]
 have hs1:=hb1.size;have k1:(w1.alloc (MP #[MF ME 0,MF ME 0,MF ME 0,MF ME 0,MF ME 0,MF ME 0,MF ME 0,MF ME 0,MF ME 0,MF ME 0,MF ME 0,MF ME 0] 101)).there w1.heap.size 0 (aj a).toArray.size:=by rw[hsz];exact f1
 have k2:(Tryz.prog.info? 101).map (·.size)=MI (aj a).toArray.size:=by rw[dr,hsz]
 have HQ:M6 (_/\_/\_/\_):=⟨k1,k2,OE (iX a),hW5⟩;have HZ:M6 (_/\_/\_):=⟨f2,hb5,hR5⟩;have HI:M6 (_/\_):=⟨hiff,ha⟩;have hlt1:w.heap.size<w1.heap.size:=(hR0.below hb1).lt;clear k1 k2 f1 f2 f3 hb0 hb1 hbb hW5 hiff ha hb5 hsz hR5 hW0 hR0 hs1;cases b
 ·have hno:¬bD l:=fun h=>PP (HI.out.1.2 h)
  have HN:M6 _:=hno;clear hno HI
  go_wp2_with ((with_reducible refine OW rfl 101 (O6 6) (O6 15) rfl w1.heap.size 0 (aj a).toArray ?hx ?hy ?ht ?hi ?h1 ?_);(case hx=>rfl);(case hy=>rfl);(case ht=>exact HQ.out.1);(case hi=>exact HQ.out.2.1);(case h1=>exact HQ.out.2.2.1);rw[NS,<-HQ.out.2.2.2])
  exact⟨_,SZ rfl _ _ _,⟨_,_,rfl,HZ.out.2.1,Nt ⟨HN.out,rfl,rfl⟩⟩⟩
 ·have HN:M6 (bD l/\a=aJ l):=⟨HI.out.1.1 rfl,HI.out.2 rfl⟩
  clear HI
  by_cases hn:0<=n/\n<=4294967295
  ·obtain⟨key,rfl⟩:=NL hn.1
   have hkey:key<=4294967295:=by omega
   have hK:=fun W=>yf key W hkey
   obtain⟨at_,hat⟩:∃at_:Int,at_=(fH key:Nat):=⟨_,rfl⟩;rw[<-hat]at hK;have HK:M6 (_/\_):=⟨hK,hat⟩;clear hK hat hn
   go_wp2_with ((with_reducible refine OW rfl 101 (O6 6) (O6 15) rfl w1.heap.size 0 (aj a).toArray ?hx ?hy ?ht ?hi ?h1 ?_);(case hx=>rfl);(case hy=>rfl);(case ht=>exact HQ.out.1);(case hi=>exact HQ.out.2.1);(case h1=>exact HQ.out.2.2.1);rw[NS,<-HQ.out.2.2.2])
   refine(HK.out.1 _).mono ?_;rintro r w2 ⟨rfl,hb2⟩;have hbw2:=HZ.out.2.1.trans (hb2.mono HZ.out.2.1.size);have hR2:=HZ.out.2.2.below hb2;have hA2:=HZ.out.1.below hb2;have hcR:=hR2.F7;have hltR:=hR2.lt;have HY:M6 (_/\_/\_):=⟨hbw2,hR2,hA2⟩;clear hbw2 hR2 hA2 hb2 HZ HQ
   go_wp2_with fail
   obtain⟨W6,hW6⟩:∃W6,W6=w2.alloc (MP #[MG MH 0 0] 71):=⟨_,rfl⟩;have hb6:MQ w2.heap.size w2 W6:=by rw[hW6];exact mC _ _
   have hX6:Boxed W6 w2.heap.size 71 (MG MH 0 0):=by rw[hW6];exact Boxed.new _ _ _
   have hs6:W6.heap.size=w2.heap.size+1:=by rw[hW6];simp
   have hbw6:=HY.out.1.trans (hb6.mono HY.out.1.size);rw[<-hW6];have hsort:l.Pairwise (fun x y=>ax x y<0):=by have:=mg HN.out.1.wts;rwa[<-HN.out.1.eq]at this
   have hl384:=sQ HN.out.1;clear hW6;refine(DM _ l at_ _ (HV.out.1.below hbw6) hsort (by omega)).mono ?_;rintro r w3 ⟨Bf,rfl,hs3,hf3,hlt3,hb3⟩;have hbw3:=hbw6.trans (hb3.mono hbw6.size);have hA3:=(HY.out.2.2.below hb6).below hb3;have hX3:Boxed w3 w2.heap.size 71 (MG MH 0 0):=af hX6 hb3;have hg6:w1.heap.size<w2.heap.size:=HY.out.2.2.lt;have hBfs:=(Array.getElem?_eq_some_iff.1 hf3).1;obtain⟨H6,hH6⟩:∃H6,H6=W6.heap.size:=⟨_,rfl⟩;rw[<-hH6]at hs3 hlt3 hs6⊢;have hn3:=hb3.size;have HL:M6 (_/\_/\_/\_/\_):=⟨hbw3,hA3,hX3,hs3,hf3⟩;have HM:M6 (_/\_/\_/\_/\_):=⟨hsort,hs6,hlt3,hBfs,hg6⟩;clear hbw3 hA3 hX3 hs3 hf3 hsort hs6 hlt3 hBfs hb3 hb6 hX6 hbw6 HY hn3 hH6 hg6;go_wp2;obtain⟨i0,hi,hz0,hz1,hz2⟩:=OF jE;refine(wpIn_wide (n:=3)).1 ?_;have hcell:=HL.out.2.2.2;refine wpIn_rangeFunc_ownH (F:=SJ) rfl (by omega) (gf:=54) (lb:=#[Na (MI ⟨H6,0,MH⟩),Na (MI ⟨Bf,0,MH⟩)]) rfl trivial (enters_of Qz (by kernel_rfl) rfl)
    (xM 2 (by omega) H6 Bf p c (eH l at_) l (nA w3.heap.size w1.heap.size w2.heap.size) w3 ?hSs ?hSf (qd l at_) (by omega) hcap (fun k hk=>hk.1) (aM HL.out.2.2.2.1) (aM HL.out.2.2.2.2) ?hpa) fJ.F0 (fun W k o o' hk hW _ _ j hj=>World.putObj_heap_other (by have:=hj.1;omega)) (MY _ _) (fun _=>rfl)
    (fun pre W=>jw w w3 w1.heap.size w2.heap.size a (fv a pre) W) (fun _ _ _=>False) (Ex w w3 w1.heap.size w2.heap.size a HL.out.1.size) (fun _ _ _ _ _ hs _ _=>hs)
    ⟨⟨_,HL.out.2.2.1,NY _ _ _ _⟩,by rw[show fv a []=[]from rfl,Ah hlen];exact HL.out.2.1,HL.out.1,MV _⟩
    (fun x a' W=>∃Bx,w3.heap.size<=Bx/\W.heap[Bx]?=MI (MP #[MF ME x.1,MF ME x.2] 109 (0,0))/\a'={tmps:=#[Ny #[MG p l.length c],MF ME key,Na (MI ⟨w.heap.size,0,MH⟩),PL,MG MH 0 0,MF ME 0,Na (MI ⟨w1.heap.size,0,MH⟩),M3 Nw,MF ME at_,MF ME 0,Na (MI ⟨w2.heap.size,0,MH⟩),Na (MI ⟨Bx,0,MH⟩),Nv #[Ny (aj a).toArray,M3 Nw],Ny #[MG p l.length c],Nv #[Ny (aj a).toArray,M3 Nw],Ny (aj a).toArray,M3 Nw,M3 Nw,M3 Nb,Nv #[MF ME at_,MF ME 0],MF ME key,Nv #[MF ME at_,MF ME 0],MF ME at_,MF ME 0,MF ME 0,M3 Nb,PL,Na (MI ⟨w.heap.size,0,MH⟩),MG p l.length c,MF ME at_,PB (PD 54) #[] #[Na (MI ⟨H6,0,MH⟩),Na (MI ⟨Bf,0,MH⟩)],Ny #[MF ME x.1,MF ME x.2],PL,PL,PL,PL,PL,PL,PL,PL,PL,PL,PL,PL,PL],defers:=[]})
    (fun x a' _ X Y row hs hg hr=>by obtain⟨Bx,h1,h2,h3⟩:=hs;exact⟨Bx,h1,(mG h2 hg (fun r e=>(hr r e).2)).trans h2,h3⟩)
    ?assign ?body ?done ?stop
   case hSs=>obtain⟨_,h1,h2,h3,h4⟩:=HM.out;exact⟨by omega,by omega,by omega⟩
   case hSf=>obtain⟨_,h1,h2,h3,h4⟩:=HM.out;exact⟨by omega,by omega,by omega⟩
   case hpa =>
    intro i hi;obtain⟨b1,off,e1,e2,e3,e4⟩:=HV.out.2 i hi;obtain⟨_,h1,h2,h3,h4⟩:=HM.out;exact⟨b1,off,e1,⟨by omega,by omega,by omega⟩,(HL.out.1.cell (p:=⟨b1,off+i*2,MH⟩) e2).trans e3,(HL.out.1.cell (p:=⟨b1,off+i*2+1,MH⟩) e2).trans e4⟩
   case assign =>
    rintro lp pre ⟨xa,xd⟩ W K hC hK
    gi_wp2
    have hbn:=mC W (MP #[MF ME xa,MF ME xd] 109);exact hK _ _ (qu hbn) (pm hbn hC.2.2.2) (hC.below hbn) ⟨W.heap.size,hC.2.2.2,M1 _ _,rfl⟩
   case body =>
    rintro lp pre ⟨xa,xd⟩ a' W hlp _ hC ⟨Bx,hBx,hX,rfl⟩ hlt
    dsimp only at hX⊢
    have hout:=CG a pre (xa,xd);have hpl:=BP a pre;unfold gA at hout;obtain⟨out,ho⟩:∃out,out=fv a pre:=⟨_,rfl⟩;rw[<-ho]at hC hout hpl;obtain⟨⟨v,hbox,hrow⟩,hA,hB,hsz⟩:=hC;obtain⟨vp,vc,rfl⟩:=cR hrow;have hld:=hA.I9 (P:=MK) U2 rfl dr;have hx1:W.cell? ⟨Bx,1,MH⟩=MI (MF ME xd):=(au hX).2.1;have hml:=lM a out;obtain⟨mk,hmk⟩:∃mk,mk=dE a out:=⟨_,rfl⟩;rw[<-hmk]at hld hml
    by_cases hh:i5 (dE a out) xd
    ·have hd:Nn (0<=xd/\xd<12/\0<mk.getD xd.toNat 0)=true:=Nq (by rw[hmk];exact hh)
     rw[Nh hh]at hout;obtain⟨b,rfl⟩:=NL hh.1;have hb12:b<12:=by have:=hh.2.1;omega
     have hbI:(b:Int)<12:=by omega
     have hcal:Ni MK 30 #[Ny (aj mk).toArray,MF ME (b:Int)] W fun r w4=>r=MN (M3 Nw)/\M6 (MQ W.heap.size W w4/\True)/\w4.cell? ⟨w2.heap.size,0,MH⟩=MI (MG vp out.length vc)/\w4.cell? ⟨Bx,1,MH⟩=MI (MF ME (b:Int)):=(nc mk (b:Int) W hml).mono fun r w4 h=>by
      rw[hd]at h;exact⟨h.1,⟨h.2,trivial⟩,aM (af hbox h.2),(au (af hX h.2)).2.1⟩
     have HC:M6 (_/\_/\_/\_/\_/\_/\_/\_/\_):=⟨hbox,hrow,hA,hB,hsz,hX,hout,hld,hcal⟩;clear hbox hrow hA hB hsz hX hout hld hcal hh hd ho hmk;have fin5:∀(w4 w5:MO) {g' cap':Nat},MQ W.heap.size W w4->w5.ownsRow w3.heap.size 3 1 (MG (MI ⟨g',0,MH⟩) (out.length+1) cap') (out.length+1) (aj out++[MF ME (b:Int)])->(w4.alloc (MP #[MF ME (b:Int)] 3)).grownBy w5 (MG vp out.length vc).ownBlock ->
       w5.cell? ⟨w2.heap.size,0,MH⟩=MI (MG vp out.length vc)/\w5.frozen? ⟨w2.heap.size,0,MH⟩=Nb/\w5.cell? ⟨Bx,1,MH⟩=MI (MF ME (b:Int))/\w5.cell? ⟨w1.heap.size,b,MH⟩=MI (MF ME ((dE a out).getD b 0))/\w5.frozen? ⟨w1.heap.size,b,MH⟩=Nb/\(w2.heap.size≠Bx/\w1.heap.size≠w2.heap.size/\Bx≠w2.heap.size) /\
       M6 (KeepsFrom w3.heap.size W ((w5.setCell ⟨w2.heap.size,0,MH⟩ (MG (MI ⟨g',0,MH⟩) (out.length+1) cap')).setCell ⟨w1.heap.size,b,MH⟩ (MF ME 0))/\fJ (nA w3.heap.size w1.heap.size w2.heap.size) W ((w5.setCell ⟨w2.heap.size,0,MH⟩ (MG (MI ⟨g',0,MH⟩) (out.length+1) cap')).setCell ⟨w1.heap.size,b,MH⟩ (MF ME 0)) /\
        jw w w3 w1.heap.size w2.heap.size a (fv a (pre++[(xa,(b:Int))])) ((w5.setCell ⟨w2.heap.size,0,MH⟩ (MG (MI ⟨g',0,MH⟩) (out.length+1) cap')).setCell ⟨w1.heap.size,b,MH⟩ (MF ME 0))):=by
      intro w4 w5 g' cap' hb4 hown5 hg5;obtain⟨hbox,hrow,hA,hB,hsz,hX,hout,_,_⟩:=HC.out;obtain⟨_,q1,q2,q3,q4⟩:=HM.out;have hrow4:=cq hrow hb4;have hX4:=af hX hb4;obtain⟨s1,s2,s3,s4,s5⟩:=Fm (w:=w) (WL:=w3) (g6:=w1.heap.size) (g10:=w2.heap.size) (a:=a) (af hbox hb4) hrow4 (hA.below hb4) (hB.trans (hb4.mono hB.size)) (Nm hsz hb4.size) hown5 hg5 (by omega) (by omega) (by omega) (by omega) hb12;have hX5:w5.heap[Bx]?=MI (MP #[MF ME xa,MF ME (b:Int)] 109 (0,0)):=
       ((hg5.block Bx (by have:=(Array.getElem?_eq_some_iff.1 hX4).1;simp;omega) (fun e=>y8 hX4 (by decide) hrow4 e.symm)).trans (Ov _ _ _ (Array.getElem?_eq_some_iff.1 hX4).1)).trans hX4
      refine⟨aM s1,s1.frozen,(au hX5).2.1,s2.at b hb12,s2.Gu b,⟨by omega,by omega,by omega⟩,(qu hb4).trans s5,(pm hb4 hsz).F0 s4,?_⟩;rw[hout];exact s3
     gi_wp2_with (first|((with_reducible refine rO _ rfl 101 (O6 6) rfl (Na (MI ⟨w1.heap.size,0,MH⟩)) (Ny (aj mk).toArray) ?hx ?hr ?_);(case hx=>rfl);(case hr=>exact HC.out.2.2.2.2.2.2.2.1))|(refine⟨trivial,?_⟩;gi_at_call 30;refine(Tr lp (callsIn_wide.2 HC.out.2.2.2.2.2.2.2.2)).mono ?_;rintro r w4 ⟨rfl,hb4,hc4,hx4⟩)|(gi_at_builtin;refine wpListIn_append_own _ rfl _ _ 71 rfl w3.heap.size 3 i0 (MF ME 0) 1 8 Tryz.underlying71 hi hz0 hz1 hz2 rfl (by decide) (MG vp out.length vc) out.length (aj out) rfl ((cq HC.out.2.1 hb4.out.1).alloc _) ⟨w4.heap.size,0,MH⟩ 1 1 [MF ME (b:Int)] rfl rfl (iV _ _ _) (by intro u hu;rw[List.mem_singleton.1 hu];rfl) (by unfold NE;omega) (by omega) (by have h1:=hb4.out.1.size;have h2:=HC.out.2.2.2.2.1;simp;omega) ?_;intro v5 w5 hown5 hg5 _;obtain⟨g',cap',rfl⟩:=ownsRow_succ hown5;obtain⟨c5,d5,e5,f5,k5,m5,Hend⟩:=fin5 _ _ hb4.out.1 hown5 hg5))
     exact Hend.out
    ·have hd:Nn (0<=xd/\xd<12/\0<mk.getD xd.toNat 0)=false:=M0 (by rw[hmk];exact hh)
     rw[Nf hh]at hout;have hcal:Ni MK 30 #[Ny (aj mk).toArray,MF ME xd] W fun r w4=>r=MN (M3 Nb)/\M6 (MQ W.heap.size W w4/\True):=(nc mk xd W hml).mono fun r w4 h=>by
      rw[hd]at h;exact⟨h.1,⟨h.2,trivial⟩⟩
     have HC:M6 (_/\_/\_/\_/\_/\_/\_/\_/\_):=⟨hbox,hrow,hA,hB,hsz,hX,hout,hld,hcal⟩;clear hbox hrow hA hB hsz hX hout hld hcal hh hd ho hmk
     gi_wp2_with (first|((with_reducible refine rO _ rfl 101 (O6 6) rfl (Na (MI ⟨w1.heap.size,0,MH⟩)) (Ny (aj mk).toArray) ?hx ?hr ?_);(case hx=>rfl);(case hr=>exact HC.out.2.2.2.2.2.2.2.1))|(refine⟨trivial,?_⟩;gi_at_call 30;refine(Tr lp (callsIn_wide.2 HC.out.2.2.2.2.2.2.2.2)).mono ?_;rintro r w4 ⟨rfl,hb4⟩))
     obtain⟨hbox,hrow,hA,hB,hsz,hX,hout,_,_⟩:=HC.out;refine⟨qu hb4.out.1,pm hb4.out.1 hsz,?_⟩;show jw w w3 w1.heap.size w2.heap.size a (fv a (pre++[(xa,xd)])) w4;rw[hout];exact jw.below ⟨⟨_,hbox,hrow⟩,hA,hB,hsz⟩ hb4.out.1
   case done =>
    rintro D ys W hD rfl ⟨⟨v,hbox,hrow⟩,hA,hB,hsz⟩ hK;have hc:=hbox.cell;obtain⟨vp,vc,rfl⟩:=cR hrow;have HF:M6 (_/\_/\_/\_):=⟨hrow,hB,hK,hD⟩;clear hrow hB hK hD hA hbox;go_wp2;obtain⟨hrow,hB,hK,hD⟩:=HF.out;refine⟨by simp,Nt ⟨_,_,rfl,run_takeDeferred hK,?_⟩⟩;refine⟨_,SZ rfl _ _ _,⟨_,_,rfl,?_,NF (NF ⟨HN.out.1,⟨by omega,by omega⟩,rfl,?_⟩)⟩⟩
    ·exact hB.trans (belowK_b (w:=w) (MV _) W D _ _ (by have:=HL.out.1.size;omega) hK rfl rfl)
    ·have e:=Bw HN.out.1 at_
     rw[<-HN.out.2]at e;rw[e]at hrow⊢;rw[NR,<-HK.out.2];exact(ownsRow_putObj hrow _ hK rfl).mono HL.out.1.size
   case stop =>
    rintro D c' pre W _ _ h _;exact h.elim
  ·have hbad:n<0\/4294967295<n:=by omega
   go_wp2_with ((with_reducible refine OW rfl 101 (O6 6) (O6 15) rfl w1.heap.size 0 (aj a).toArray ?hx ?hy ?ht ?hi ?h1 ?_);(case hx=>rfl);(case hy=>rfl);(case ht=>exact HQ.out.1);(case hi=>exact HQ.out.2.1);(case h1=>exact HQ.out.2.2.1);rw[NS,<-HQ.out.2.2.2])
   refine(E9 n _ hbad).mono ?_;rintro r w2 ⟨rfl,rfl⟩;go_wp2;exact⟨_,SZ rfl _ _ _,⟨_,_,rfl,HZ.out.2.1,NF (Nt ⟨HN.out.1,hn,rfl,rfl⟩)⟩⟩
end
theorem Cq(v:M7)(a:List Int)(key:Nat)(w:MO)(ha:aZ a)(hv:aO w v (ao a))(hk:key<4294967296) :
  Ni MK 15 #[Ny #[v],MF ME (key:Int)] w fun r w'=>∃p c,r=MN (Nv #[MG p (ie (ao a) (fH key:Nat)).length c,MF ME 0])/\w'.ownsRow w.heap.size 3 1 (MG p (ie (ao a) (fH key:Nat)).length c) (ie (ao a) (fH key:Nat)).length (aj (ie (ao a) (fH key:Nat)))/\MQ w.heap.size w w' :=
 (yX v (ao a) (key:Int) w hv).mono fun r w' h=>by
  obtain⟨y,e,rfl,hbl,h⟩:=h;rw[NR]at h;rcases h with⟨h1,_⟩|⟨_,h2,_⟩|⟨_,_,rfl,ho⟩
  ·exact absurd (li ha) h1
  ·exact absurd ⟨by omega,by omega⟩ h2
  ·obtain⟨p,c,rfl⟩:=cR ho
   exact⟨p,c,rfl,ho,hbl⟩
theorem AX(v:M7)(a:List Int)(b:Nat)(w:MO)(ha:aZ a)(hv:aO w v (ao a))(hb:b<12)(h0:0<a.getD b 0) :
  Ni MK 126 #[Ny #[v],MF ME (b:Int)] w fun r w'=>∃p c,r=MN (Nv #[Ny #[MG p (ao (a.set b 0)).length c],MF ME 0])/\w'.ownsRow w.heap.size 109 2 (MG p (ao (a.set b 0)).length c) (ao (a.set b 0)).length (ag (ao (a.set b 0)))/\MQ w.heap.size w w' :=
 (xq v (ao a) (b:Int) w hv).mono fun r w' h=>by
  obtain⟨y,e,rfl,hbl,h⟩:=h;rw[l0 ha,NR]at h;rcases h with⟨h1,_⟩|⟨_,h2,_⟩|⟨_,_,rfl,ho⟩
  ·exact absurd (li ha) h1
  ·exact absurd ⟨⟨by omega,by omega⟩,h0⟩ h2
  ·obtain⟨p,c,rfl⟩:=cR ho
   exact⟨p,c,rfl,ho,hbl⟩
end Go.Proofs.YtlnbhjdhcmgljaaGreatDoor.Q
