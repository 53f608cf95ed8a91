/-
  Contracts of the layers and of core, part 5. Conditions: as each theorem says.
-/
import Derived.Shelf.SlSortCmp.NoneTotal
import Derived.Deep.Upon
import Derived.Deep.CutRange
import Derived.RangeFuncNested
import Derived.RangeFuncBound
import Derived.Shelf.RegionOpen
import Derived.OwnWalkIn
import Derived.LoopNIn
import Derived.LoopIn
import Derived.Test.YtmpokpecfclapaaGreatDoorQ0
open Array renaming getElem?_append_left->Rt,getElem?_modify->Qp,replicate_succ->Sg,replicate_zero->Sh,toList->RW
open Bool renaming false->Nb,false_ne_true->PE,noConfusion->PP,not_eq_true->Qc,not_eq_true'->SX,true->Nw
open Decidable renaming decide->Nn
open Go renaming Addr->Oc,Calls->Ni,Program->O8,TypeId->NU,Value->M7,World->MO,all_oneCell_toArray->OE,bodyPost_ret->Np,cell_of_row->MW,heap_alloc_new->M1,info_parts->OF,maxLen->NE,results_tmp2->SZ,undef->PL,wpAnyH_done->PS,wpAnyH_ready->NN,wpAnyH_take->ND,wpList_append_lies->O9,wpList_load_mid->O3,wpList_store_mid->OW,wp_region_held_drew->O2,yieldsIf_load_mid->Pt
open Go.Act renaming put->Nr
open Go.AllReadyH renaming cons->NP,nil->NX
open Go.CallsIn renaming inRound->Tr
open Go.Ending renaming returned->MN
open Go.Fence renaming wide->SJ
open Go.Fn renaming func->PD
open Go.Instr renaming index->Qy
open Go.IntKind renaming i64->ME,wrap_i64->Ow
open Go.Obj renaming cells->MP
open Go.Operand renaming tmp->O6
open Go.Proofs.SlLaysF0 renaming n6->Tv
open Go.Proofs.Tryz renaming func124->VV,func149->Ue,func150->Uf,func164->ayS,func190->ayT,func191->VP,func192->Rj,func193->Rk,func196->Wz,func207->UO,func209->S0,func234->TA,func236->US,ntmps124->VL,ntmps149->T4,ntmps150->T5,ntmps164->ayI,ntmps190->ayJ,ntmps191->VH,ntmps192->Q2,ntmps193->Q3,ntmps196->Wl,ntmps207->UC,ntmps209->SA,ntmps234->Tz,ntmps236->UF,prog->MK,results104->ayC,results147->TM,results153->ax6,underlying133->TC,underlying224->axR,underlying3->Ol,underlying48->ax1,underlying50->axV
open Go.RowKit renaming Below->MQ,Hid->M6
open Go.RowKit.Below renaming heap_alloc->Ov,heap_setCell->MU,refl->MY
open Go.Sem renaming run_pure->P3
open Go.Sort renaming ahead->Ts,alloc_eq_grow->PQ,grow->Oj,mapBlock->Th
open Go.Value renaming agg->Ny,bool->M3,func->PB,int->MF,ownBlock->QQ,pointer->Na,slice->MG,tuple->Nv
open Go.World renaming block_lt_of_cell?->MX,cell?->Nl,cell?_of_block->NG,frozen?->Ng,grownBy_alloc->OL,heap_setCells_other->N8,ownsRow_nil->NY,setCell->Q4,setCells->Qd
open Int renaming eq_ofNat_of_zero_le->NL,natCast_emod->QY,tmod_eq_emod_of_nonneg->Oi,toNat_natCast->NR
open List renaming append_assoc->OC,append_nil->OG,append_toArray->Sk,countP_append->Qi,ext_getElem?->Ot,filter_append->OY,foldl_append->Pu,foldl_cons->O4,getD_eq_getElem?_getD->NK,getElem?_append->Q9,getElem?_drop->Pa,getElem?_eq_getElem->MR,getElem?_eq_none->Nz,getElem?_replicate->Pj,getElem?_set_ne->N3,getElem?_set_self->N7,getElem?_take_of_lt->O0,getElem_mem->Nk,length_append->Ns,length_cons->Ox,length_drop->NJ,length_pos_of_mem->Qj,length_set->NA,length_take->NH,map_append->OI,map_congr_left->PU,mem_append->QF,mem_cons_of_mem->NB,mem_cons_self->NM,mem_singleton->PY,nil_append->Oz,nodup_append->Qv,push_toArray->SY,range->Pm,range_succ->ZqB,replicate->Nj,setIfInBounds_toArray->MJ,set_cons_succ->MM,set_cons_zero->ML,size_toArray->OQ,take_append_drop->Oo,take_append_of_le_length->ZqA,take_length->NT,take_of_length_le->N1,take_succ_eq_append_getElem->M9,toList_toArray->NS
open Nat renaming le_refl->MV,le_trans->Nm,lt_of_lt_of_le->M8,lt_or_ge->Oq,mul_le_mul_right->O7,not_lt_zero->QH,zero_add->Oa,zero_le->Nx
open Ne renaming symm->Pi
open Option renaming getD_some->OV,map_some->OH,none->MH,some->MI
open Option.some renaming inj->NC
open Or renaming inl->Nt,inr->NF
open Prod renaming ext->Q8
namespace Go.Proofs.YtmpokpecfclapaaGreatDoor.Q
set_option linter.unusedVariables false
set_option linter.unusedSimpArgs false
set_option maxHeartbeats 16000000
set_option maxRecDepth 100000
open Go.RowKit
attribute [local go_sem ↓] Go.wp_at_zero Go.wp_at_succ
variable {at_:Int}{out:List Int}{l:List Tm}{v:M7}{W W' w w':MO}{B g g10 g6 k:Nat}{P:O8}{t:Tm}
section
open Go.Shelf Go.Lib Go.Sort
def at4:Go.Shelf.Ren:=⟨fun|6=>235|15=>254|14=>253|28=>267|29=>268|20=>259|21=>260|22=>261|23=>262|24=>263|25=>264|26=>265|27=>266|46=>271|47=>272|48=>273|49=>274|50=>275|57=>276|n=>n,fun|22=>48|24=>153|25=>308|3=>3|39=>286|0=>0|53=>310|55=>332|4=>4|46=>325|45=>324|50=>166|5=>5|9=>9|66=>335|70=>133|76=>340|77=>341|n=>n,fun|n=>n⟩
theorem amZ:Tv MK at4:={
 mixed:=by kernel_rfl
 f6:=⟨Tryz.f235.name,by decide,Tryz.func235.trans (congrArg MI (by kernel_rfl))⟩
 f14:=⟨Tryz.f253.name,by decide,Tryz.func253.trans (congrArg MI (by kernel_rfl))⟩
 f15:=Tryz.func254.trans (congrArg MI (by kernel_rfl))
 f20:=⟨Tryz.f259.name,by decide,Tryz.func259.trans (congrArg MI (by kernel_rfl))⟩
 f21:=⟨Tryz.f260.name,by decide,Tryz.func260.trans (congrArg MI (by kernel_rfl))⟩
 f22:=⟨Tryz.f261.name,by decide,Tryz.func261.trans (congrArg MI (by kernel_rfl))⟩
 f23:=⟨Tryz.f262.name,by decide,Tryz.func262.trans (congrArg MI (by kernel_rfl))⟩
 f24:=⟨Tryz.f263.name,by decide,Tryz.func263.trans (congrArg MI (by kernel_rfl))⟩
 f25:=⟨Tryz.f264.name,by decide,Tryz.func264.trans (congrArg MI (by kernel_rfl))⟩
 f26:=⟨Tryz.f265.name,by decide,Tryz.func265.trans (congrArg MI (by kernel_rfl))⟩
 f27:=⟨Tryz.f266.name,by decide,Tryz.func266.trans (congrArg MI (by kernel_rfl))⟩
 f28:=Tryz.func267.trans (congrArg MI (by kernel_rfl))
 f29:=Tryz.func268.trans (congrArg MI (by kernel_rfl))
 f46:=⟨Tryz.f271.name,by decide,Tryz.func271.trans (congrArg MI (by kernel_rfl))⟩
 f47:=Tryz.func272.trans (congrArg MI (by kernel_rfl))
 f48:=Tryz.func273.trans (congrArg MI (by kernel_rfl))
 f49:=⟨Tryz.f274.name,by decide,Tryz.func274.trans (congrArg MI (by kernel_rfl))⟩
 f50:=⟨Tryz.f275.name,by decide,Tryz.func275.trans (congrArg MI (by kernel_rfl))⟩
 f57:=⟨Tryz.f276.name,by decide,Tryz.func276.trans (congrArg MI (by kernel_rfl))⟩
 t0:=Tryz.underlying0
 a0:=Tryz.isAgg0
 z0:=Tryz.sizeOf0
 v0:=Tryz.zeroValue0
 t3:=Ol
 a3:=Tryz.isAgg3
 z3:=Tryz.sizeOf3
 v3:=Tryz.zeroValue3
 t4:=Tryz.underlying4
 a4:=Tryz.isAgg4
 z4:=Tryz.sizeOf4
 v4:=Tryz.zeroValue4
 t5:=Tryz.underlying5
 a5:=Tryz.isAgg5
 z5:=Tryz.sizeOf5
 v5:=Tryz.zeroValue5
 t9:=Tryz.underlying9
 a9:=Tryz.isAgg9
 z9:=Tryz.sizeOf9
 v9:=Tryz.zeroValue9
 t22:=ax1
 a22:=Tryz.isAgg48
 z22:=Tryz.sizeOf48
 v22:=Tryz.zeroValue48
 t25:=Tryz.underlying308
 a25:=Tryz.isAgg308
 z25:=Tryz.sizeOf308
 v25:=Tryz.zeroValue308
 t39:=Tryz.underlying286
 a39:=Tryz.isAgg286
 z39:=Tryz.sizeOf286
 v39:=Tryz.zeroValue286
 t45:=Tryz.underlying324
 a45:=Tryz.isAgg324
 z45:=Tryz.sizeOf324
 v45:=Tryz.zeroValue324
 t46:=Tryz.underlying325
 a46:=Tryz.isAgg325
 z46:=Tryz.sizeOf325
 v46:=Tryz.zeroValue325
 t50:=Tryz.underlying166
 a50:=Tryz.isAgg166
 z50:=Tryz.sizeOf166
 v50:=Tryz.zeroValue166
 t53:=Tryz.underlying310
 a53:=Tryz.isAgg310
 z53:=Tryz.sizeOf310
 v53:=Tryz.zeroValue310
 t55:=Tryz.underlying332
 a55:=Tryz.isAgg332
 z55:=Tryz.sizeOf332
 v55:=Tryz.zeroValue332
 t66:=Tryz.underlying335
 a66:=Tryz.isAgg335
 z66:=Tryz.sizeOf335
 v66:=Tryz.zeroValue335
 t70:=TC
 a70:=Tryz.isAgg133
 z70:=Tryz.sizeOf133
 v70:=Tryz.zeroValue133
 t76:=Tryz.underlying340
 a76:=Tryz.isAgg340
 z76:=Tryz.sizeOf340
 v76:=Tryz.zeroValue340
 t77:=Tryz.underlying341
 a77:=Tryz.isAgg341
 z77:=Tryz.sizeOf341
 v77:=Tryz.zeroValue341}
end
theorem aug(a b c d:Int):(a=c/\b=d)\/((a == c)=Nb\/a=c/\(b == d)=Nb):=by
 simp only[Oh]
 by_cases h:a=c <;> by_cases h':b=d <;> simp[h,h']
theorem amB{a:MO}(h:MQ B a w)(n:Nat):MQ B a (w.drewN n):=h.trans ⟨rfl,rfl,rfl,MV _,fun _ _=>rfl⟩
theorem amC(h:MQ B w w')(hB:w.heap.size<=B):MQ w.heap.size w w':=h.mono hB
theorem amP:(Tryz.prog.info? 153).map (fun i=>(i.zero,i.size,i.bytes))=MI (MI (Ny #[MF ME 0,MF ME 0]),2,16):=by kernel_rfl
theorem afc(a:Tm):¬Xe a a<0:=by rw[acY];omega
theorem am0:∀ {l m:List Tm},l.Pairwise (fun a b=>Xe a b<0)->m.Pairwise (fun a b=>Xe a b<0)->(∀x,x∈l↔x∈m)->l=m
 | [],[],_,_,_=>rfl
 | [],b::m,_,_,h=>absurd ((h b).2 (NM ..)) (by simp)
 |a::l,[],_,_,h=>absurd ((h a).1 (NM ..)) (by simp)
 |a::l,b::m,h1,h2,h=>by
  have f:=List.pairwise_cons.1 h1;have d:=List.pairwise_cons.1 h2;have i:a=b:=by
   rcases List.mem_cons.1 ((h a).1 (NM ..))with e|e
   ·exact e
   ·rcases List.mem_cons.1 ((h b).2 (NM ..))with e'|e'
    ·exact e'.symm
    ·exact absurd (aef (f.1 b e') (d.1 a e)) (afc a)
  subst i;have:l=m:=am0 f.2 d.2 fun x=>by
   constructor
   ·intro c
    rcases List.mem_cons.1 ((h x).1 (NB _ c))with e|e
    ·subst e;exact absurd (f.1 x c) (afc x)
    ·exact e
   ·intro c
    rcases List.mem_cons.1 ((h x).2 (NB _ c))with e|e
    ·subst e;exact absurd (d.1 x c) (afc x)
    ·exact e
  rw[this]
theorem atG(f:Nat->Nat->Nat)(s:Nat)(l:List Nat)(k:Nat)(hk:k<l.length):(l.take (k+1)).foldl f s=f ((l.take k).foldl f s) (l.getD k 0):=by
 rw[List.take_add_one,Pu,MR hk,NK,MR hk];simp only[Option.toList_some,O4,List.foldl_nil,OV]
theorem amN(f:Nat->Nat->Nat)(s N:Nat)(hs:s<N)(hf:∀h c,f h c<N)(l:List Nat):l.foldl f s<N:=by
 induction l generalizing s with
 |nil=>exact hs
 |cons c l ih=>exact ih _ (hf _ _)
theorem atF(f:Nat->Nat->Nat)(N:Nat)(hf:∀h c,f h c<N)(hi:∀h k c,h<N->k<N->c<N->f h c=f k c->h=k)(l:List Nat)(h k:Nat)(hh:h<N)(hk:k<N)(hl:∀c∈l,c<N)(e:l.foldl f h=l.foldl f k):h=k:=by
 induction l generalizing h k with
 |nil=>exact e
 |cons c l ih=>exact hi h k c hh hk (hl c (by simp)) (ih _ _ (hf _ _) (hf _ _) (fun x hx=>hl x (by simp[hx])) e)
theorem atD(f:Nat->Nat->Nat)(s N:Nat)(hs:s<N)(hf:∀h c,f h c<N)(hi:∀h k c,h<N->k<N->c<N->f h c=f k c->h=k)(hr:∀h c d,h<N->c<N->d<N->f h c=f h d->c=d)
  (p q:List Nat) (c d:Nat) (hc:c<N) (hd:d<N) (hq:∀x∈q,x<N) (e:(p++c::q).foldl f s=(p++d::q).foldl f s):c=d:=by
 rw[Pu,Pu,O4,O4]at e;exact hr _ c d (amN f s N hs hf p) hc hd (atF f N hf hi q _ _ (hf _ _) (hf _ _) hq e)
def aah(h c:Nat):Nat:=(h ^^^ c)*16777619 % 4294967296
def aei:Nat:=2166136261
def aaS(l:List Nat):Nat:=l.foldl aah aei
theorem am4:aei<4294967296:=by unfold aei;omega
theorem am6(h c:Nat):aah h c<4294967296:=Nat.mod_lt _ (by omega)
theorem amR(l:List Nat):aaS l<4294967296:=amN aah aei _ am4 am6 l
theorem atU(l:List Nat)(k:Nat)(hk:k<l.length):aaS (l.take (k+1))=aah (aaS (l.take k)) (l.getD k 0):=atG aah aei l k hk
theorem amS(x:Nat)(h:x<4294967296):x*16777619 % 4294967296*899433627 % 4294967296=x:=by omega
theorem aiX(a b:Nat)(ha:a<4294967296)(hb:b<4294967296):a ^^^ b<4294967296:=Nat.xor_lt_two_pow (n:=32) ha hb
theorem am5(h c k d:Nat)(hh:h<4294967296)(hc:c<4294967296)(hk:k<4294967296)(hd:d<4294967296)(e:aah h c=aah k d):h ^^^ c=k ^^^ d:=by
 have f:=amS _ (aiX h c hh hc);have i:=amS _ (aiX k d hk hd);unfold aah at e;rw[e]at f;exact f.symm.trans i
theorem anf(a b c:Nat)(h:a ^^^ b=a ^^^ c):b=c:=by
 have:=congrArg (a ^^^ ·) h
 simpa [<-Nat.xor_assoc]using this
theorem aue(h c d:Nat)(hh:h<4294967296)(hc:c<4294967296)(hd:d<4294967296)(e:aah h c=aah h d):c=d :=
 anf h c d (am5 h c h d hh hc hh hd e)
theorem aud(h k c:Nat)(hh:h<4294967296)(hk:k<4294967296)(hc:c<4294967296)(e:aah h c=aah k c):h=k:=by
 have:=am5 h c k c hh hc hk hc e;rw[Nat.xor_comm h,Nat.xor_comm k]at this;exact anf c h k this
theorem atW(p q:List Nat)(c d:Nat)(hc:c<4294967296)(hd:d<4294967296)(hq:∀x∈q,x<4294967296)(e:aaS (p++c::q)=aaS (p++d::q)):c=d :=
 atD aah aei _ am4 am6 aud aue p q c d hc hd hq e
theorem auc(h c:Nat):((h ^^^ c:Nat):Int)*16777619 % 4294967296=((aah h c:Nat):Int):=by
 unfold aah;omega
def amD(n:Nat):List Nat:=[n % 256,n / 256 % 256,n / 65536 % 256,n / 16777216 % 256]
def abp(n:Nat):Nat:=aaS (amD n)
def aaA(b i:Nat):Nat:=aaS [98,b,i,115]
theorem aub(b i j:Nat)(hi:i<4294967296)(hj:j<4294967296):aaA b i=aaA b j↔i=j :=
 ⟨fun e=>atW [98,b] [115] i j hi hj (by simp) e,fun e=>by rw[e]⟩
theorem atV(b:Nat)(l:List Nat)(w:MO)(hb:l.length<=1000)(hr:∀j,l.getD j 0<256)(hc:∀j,j<l.length->w.cell? ⟨b,j,MH⟩=MI (MF .u8 ((l.getD j 0:Nat):Int))) :
  Ni MK 207 #[MG (MI ⟨b,0,MH⟩) l.length l.length] w fun e w'=>e=MN (MF ME ((aaS l:Nat):Int))/\w'=w:=by
 go_enter UO,UC
 go_hidden (go_wp2)
 go_loop [3,8] (fun s i=>∃k:Nat,k<=l.length/\i=MF ME k/\s=MF .u32 ((aaS (l.take k):Nat):Int)) (fun _ i=>l.length-(intOf i).toNat)
 case atStart=>exact⟨0,Nx _,rfl,rfl⟩
 case round =>
  obtain⟨k,q,rfl,rfl⟩:=hrel
  by_cases hlt:k<l.length
  ·have o:=hc k hlt
   have u:=hr k;have f:=atU l k hlt;have d:=amR (l.take k);generalize l.getD k 0=c at *;generalize aaS (l.take k)=h at *;have r:=u32_xor_nat h c d (by omega);have p:=aiX h c d (by omega);have m:M6 (aaS (l.take (k+1))=aah h c):=f;clear f
   go_hidden (go_wp2)
   go_round
   case rel=>exact⟨k+1,by omega,by go_num,by rw[m.out,auc]⟩
   case measure=>simp[intOf];omega
  ·have:k=l.length:=by omega
   subst this;have d:=amR l
   go_hidden (go_wp2)
   go_ret;exact⟨rfl,rfl⟩
theorem amQ(a b c d:Int)(w:MO)(a0:0<=a)(a1:a<256)(b0:0<=b)(b1:b<256)(c0:0<=c)(c1:c<256)(d0:0<=d)(d1:d<256) :
  Ni MK 207 #[MG (MI ⟨w.heap.size,0,MH⟩) 4 4] (w.alloc (MP #[MF .u8 a,MF .u8 b,MF .u8 c,MF .u8 d] 5)) fun e w'=>e=MN (MF ME ((aaS [a.toNat,b.toNat,c.toNat,d.toNat]:Nat):Int))/\w'=w.alloc (MP #[MF .u8 a,MF .u8 b,MF .u8 c,MF .u8 d] 5):=by
 refine atV w.heap.size [a.toNat,b.toNat,c.toNat,d.toNat] _ (by simp) ?_ ?_
 ·intro j
  match j with
  |0=>simp;omega
  |1=>simp;omega
  |2=>simp;omega
  |3=>simp;omega
  |j+4=>simp
 ·intro j f
  match j,f with
  |0,_=>simp[go_sem];omega
  |1,_=>simp[go_sem];omega
  |2,_=>simp[go_sem];omega
  |3,_=>simp[go_sem];omega
theorem atL(n:Nat)(h:n<=4294967295):aaS [((n:Int) % 256).toNat,((n:Int) / 256 % 256).toNat,((n:Int) / 65536 % 256).toNat,((n:Int) / 16777216).toNat]=abp n:=by
 unfold abp amD;rw[show((n:Int) % 256).toNat=n % 256 by omega,show((n:Int) / 256 % 256).toNat=n / 256 % 256 by omega,show((n:Int) / 65536 % 256).toNat=n / 65536 % 256 by omega,show((n:Int) / 16777216).toNat=n / 16777216 % 256 by omega]
theorem atM(n:Nat)(w:MO)(h:n<=4294967295) :
  Ni MK 164 #[MF ME (n:Int)] w fun e w'=>e=MN (Nv #[MF ME ((abp n:Nat):Int),MF ME 0])/\MQ w.heap.size w w':=by
 rw[<-atL n h];go_enter ayS,ayI
 go_wp2_with fail
 refine(amQ _ _ _ _ _ (by omega) (by omega) (by omega) (by omega) (by omega) (by omega) (by omega) (by omega)).mono ?_;rintro e w' ⟨rfl,rfl⟩;go_wp2
 go_ret2
 exact⟨rfl,(MY _ _).alloc (MV _) _⟩
theorem atN(n:Int)(w:MO)(h:n<0\/4294967295<n) :
  Ni MK 164 #[MF ME n] w fun e w'=>e=MN (Nv #[MF ME 0,MF ME 2])/\w'=w:=by
 rcases h with h|h
 ·go_enter ayS,ayI
  go_wp2
  go_ret2
  exact⟨rfl,rfl⟩
 ·have c:¬n<0:=by omega
  go_enter ayS,ayI;go_wp2
  go_ret2
  exact⟨rfl,rfl⟩
theorem at9(b i:Nat):aaS [(98:Int).toNat,((b:Int)).toNat,((i:Int)).toNat,(115:Int).toNat]=aaA b i:=by
 unfold aaA;rw[NR,NR,show(98:Int).toNat=98 by omega,show(115:Int).toNat=115 by omega]
theorem aua(b i:Nat)(w:MO)(hb:b<12)(hi:i<32) :
  Ni MK 234 #[MF ME (b:Int),MF ME (i:Int)] w fun e w'=>e=MN (Nv #[MF ME ((aaA b i:Nat):Int),MF ME 0])/\MQ w.heap.size w w':=by
 rw[<-at9 b i];go_enter TA,Tz
 go_wp2_with fail
 refine(amQ _ _ _ _ _ (by omega) (by omega) (by omega) (by omega) (by omega) (by omega) (by omega) (by omega)).mono ?_;rintro e w' ⟨rfl,rfl⟩;go_wp2
 go_ret2
 exact⟨rfl,(MY _ _).alloc (MV _) _⟩
theorem ac1(a:List Int):∀v∈WR a,v.oneCell'=true:=by
 intro v c;obtain⟨x,_,rfl⟩:=List.mem_map.1 c;rfl
section
variable {T:NU}{n:Nat}{w w':MO}{g:Nat}{a b:List Int}
theorem Xj.Hk(h:Xj T n w g a){p:Oc}(hne:g≠p.block)(v:M7):Xj T n (w.setCell p v) g a:=h.Gf (MU _ _ _ _ hne)
theorem Xj.new(w:MO)(T:NU)(a:List Int):Xj T a.length (w.alloc (MP (WR a).toArray T)) w.heap.size a:=⟨M1 _ _,rfl⟩
theorem Xj.Gq(h:Xj T n w g a):w.rangeAt g 0 (WR a):=fun j v hv=>by
 rw[Oa,MW w g j _ T (0,0) h.1]
 simpa using hv
theorem Xj.GB(h:Xj T n w g a):w.there g 0 n:=fun j hj=>by
 rw[Oa,h.F7 j (by rw[h.2];exact hj)];exact⟨rfl,h.Gu j⟩
theorem Xj.I9{d:TypeDesc}(h:Xj T n w g a)(hu:P.underlying T=MI d)(hd:d.isRow=Nw)(hi:(P.info? T).map (·.size)=MI n):(Instr.loadAt T (Na (MI ⟨g,0,MH⟩))).run P w=.ok (Ny (WR a).toArray) w :=
 run_loadAt_mid w g 0 T (WR a) d h.Gq hu hd (by rw[hi,Zv,h.2])
theorem Xj.Io{d:TypeDesc}(h:Xj T n w g a)(hu:P.underlying T=MI d)(hd:d.isRow=Nw)(hi:(P.info? T).map (·.size)=MI n):(loadVar T ⟨g,0,MH⟩).run P w=.ok (Ny (WR a).toArray) w :=
 run_loadVar_mid w g 0 T (WR a) d h.Gq hu hd (by rw[hi,Zv,h.2])
theorem Xj.Hq(h:Xj T n w g a)(hb:b.length=n)(hi:(P.info? T).map (·.size)=MI n):(Instr.storeAt T (Na (MI ⟨g,0,MH⟩)) (Ny (WR b).toArray)).run P w=.ok () (w.setCells g 0 (WR b))/\Xj T n (w.setCells g 0 (WR b)) g b:=by
 constructor
 ·have c:=run_storeAt_mid (P:=P) w g 0 T (WR b).toArray (by simp[Zv,hb];exact h.GB) (by simp[Zv,hb,hi]) (OE (ac1 b))
  simpa using c
 ·have c:=ac0 T g (WR b) [] (WR a) w (by rw[Zv,Zv,h.2,hb]) (by simpa using h.1)
  exact⟨by simpa using c,hb⟩
theorem am8(g:Nat):∀(vs:List M7) (o:Nat) (w:MO),(w.setCells g o vs).tape=w.tape
 | [],_,_=>rfl
 |v::vs,o,w=>by rw[Qd,am8 g vs];simp[Q4]
theorem ac3(g:Nat):∀(vs:List M7) (o:Nat) (w:MO),(w.setCells g o vs).heap.size=w.heap.size
 | [],_,_=>rfl
 |v::vs,o,w=>by rw[Qd,ac3 g vs];simp
theorem adF{w0:MO}(h:MQ B w0 w)(hg:B<=g)(o:Nat)(vs:List M7)(hB:B<=w.heap.size):MQ B w0 (w.setCells g o vs):=by
 refine h.trans ⟨World.os_setCells _ _ _ _,am8 _ _ _ _,World.output_setCells _ _ _ _,by rw[ac3];exact MV _,fun i hi=>N8 w g o vs (by omega) (by omega)⟩
end
theorem atz(a b c d:Int)(w:MO) :
  Ni MK 236 #[Ny #[MF ME a,MF ME b],Ny #[MF ME c,MF ME d]] w fun r w'=>r=MN (MF ME (Xe (a,b) (c,d)))/\w'=(((w.alloc (MP #[MF ME a,MF ME b] 153)).alloc (MP #[MF ME c,MF ME d] 153)).alloc (MP #[MF ME (YK a c),MF ME (YK b d)] 3)).drew:=by
 obtain⟨i,e⟩:∃i,i=Xe (a,b) (c,d):=⟨_,rfl⟩;rw[<-e];rw[aiC]at e;obtain⟨x,f⟩:∃x,x=YK a c:=⟨_,rfl⟩;obtain⟨y,h⟩:∃y,y=YK b d:=⟨_,rfl⟩;rw[<-f,<-h]at e;have H:M6 (_/\_/\_):=⟨e,f,h⟩;clear e f h;rw[<-H.out.2.1,<-H.out.2.2];go_enter US,UF
 go_wp2_with fail
 generalize hw2:(w.alloc (MP #[MF ME a,MF ME b] 153)).alloc (MP #[MF ME c,MF ME d] 153)=w2;have j:w2.cell? ⟨w.heap.size,0,MH⟩=MI (MF ME a):=by rw[<-hw2];simp
 have m:w2.cell? ⟨w.heap.size,1,MH⟩=MI (MF ME b):=by rw[<-hw2];simp
 have q:w2.cell? ⟨w.heap.size+1,0,MH⟩=MI (MF ME c):=by rw[<-hw2];simp
 have o:w2.cell? ⟨w.heap.size+1,1,MH⟩=MI (MF ME d):=by rw[<-hw2];simp
 have s:M6 _:=hw2;clear hw2
 go_region_held3 (fun w'=>w'.cell? ⟨w.heap.size,0,MH⟩=MI (MF ME a)/\w'.cell? ⟨w.heap.size,1,MH⟩=MI (MF ME b)/\w'.cell? ⟨w.heap.size+1,0,MH⟩=MI (MF ME c)/\w'.cell? ⟨w.heap.size+1,1,MH⟩=MI (MF ME d)/\MQ w2.heap.size w2 w') (first|exact afd j m q o ((MY _ _).drew)|exact afd j m q o (((MY _ _).drew).alloc (MV _) _)) (first|(go_at_call_of 210 (MF ME a);refine(aeg a c _).mono ?_;rw[<-H.out.2.1];rintro r p ⟨rfl,rfl⟩)|(go_at_call_of 210 (MF ME b);refine(aeg b d _).mono ?_;rw[<-H.out.2.2];rintro r p ⟨rfl,rfl⟩)|(go_at_call 246;refine(aiO x y w2.heap.size _ (by simp) (by simp)).mono ?_;rw[<-H.out.1];rintro r p ⟨rfl,rfl⟩))
 go_wp2;go_ret;exact⟨rfl,by rw[s.out]⟩
section
open Go.Shelf Go.Lib Go.Sort
def ab7(t:Tm):List Value:=[MF ME t.1,MF ME t.2]
theorem amM(l:List Tm):flatK ab7 2 l.toArray=(WP l).toArray:=by
 refine ext_get! (by simp[YE]) fun t ht=>?_
 have d:t<l.length*2:=by simpa using ht
 rw[get_flatK _ _ _ t (by simpa using d)];have c:t / 2<l.length:=by omega
 obtain⟨f,h⟩:=aaT l (t / 2) c;have e:(l.toArray)[t / 2]! = l[t / 2]:=by simp[c]
 rw[e];rcases Nat.mod_two_eq_zero_or_one t with m|m
 ·rw[m]
  have:(WP l)[t]?=MI (MF ME l[t / 2].1):=by rw[<-f];congr 1;omega
  simp[ab7,this]
 ·rw[m]
  have:(WP l)[t]?=MI (MF ME l[t / 2].2):=by rw[<-h];congr 1;omega
  simp[ab7,this]
theorem adH(x y:Tm):ltOf Xe x y=Nw↔Xe x y<0:=by unfold ltOf;simp
theorem am7:SWO (ltOf Xe)where
 irrefl x:=by rw[<-Qc,adH];exact afc x
 trans x y z h1 h2:=by rw[adH]at *;exact aef h1 h2
 ntrans x y z h1 h2:=by rw[<-Qc,adH,acY]at *;omega
theorem amT(x y:Tm)(h1:ltOf Xe x y=Nb)(h2:ltOf Xe y x=Nb):x=y:=by
 rw[<-Qc,adH,acY]at *;obtain⟨a,b⟩:=x;obtain⟨c,d⟩:=y;simp only at h1 h2;have e:a=c:=by omega
 have f:b=d:=by omega
 rw[e,f]
def ab8(l:List Tm):List Tm:=l.mergeSort fun x y=>!(ltOf Xe) y x
theorem agG(l:List Tm):(ab8 l).Perm l:=List.mergeSort_perm _ _
theorem aiS(l:List Tm):(ab8 l).length=l.length:=(agG l).length_eq
theorem at5(h:l.Nodup):(ab8 l).Pairwise (fun a b=>Xe a b<0):=by
 have f:(ab8 l).Pairwise (fun x y=>(!(ltOf Xe) y x)=Nw):=List.pairwise_mergeSort (le:=fun x y=>!(ltOf Xe) y x)
  (fun a b c f d=>by simp only[SX]at *;exact am7.ntrans _ _ _ d f)
  (fun a b=>by
   cases e:ltOf Xe b a with
   |false=>simp
   |true =>
    have i:ltOf Xe a b=false:=by rw[<-Qc,adH];rw[adH]at e;intro h;exact afc _ (aef h e)
    simp[i]) l
 have d:(ab8 l).Nodup:=(agG l).nodup_iff.2 h;refine(f.and d).imp fun {a b} ⟨ha,hn⟩=>?_
 simp only[SX]at ha;rw[<-adH];cases e:ltOf Xe a b with
 |true=>rfl
 |false=>exact absurd (amT a b e ha) hn
theorem att(blk off size:Nat)(w:MO):CmpLays MK 236 #[] ab7 2 Xe blk off size w :=
 fun m os dk _ x y=>(atz x.1 x.2 y.1 y.2 _).mono (by
  rintro r w' ⟨c,rfl⟩;exact⟨c,1,_,by rw[PQ,PQ,PQ,grow_grow,grow_grow];rfl⟩)
theorem at6(w:MO)(g n k:Nat)(d:Array Tm)(os:Array Obj)(hk:k<w.heap.size)(hne:k≠g):(sortWorldK ab7 2 w g 0 n d os).heap[k]?=w.heap[k]?:=by
 unfold sortWorldK Oj putRowK putRow Th Ts;simp only;rw[Rt (by simpa using hk),Qp,Nf (Pi hne)]
theorem at7(w:MO)(g n:Nat)(d:Array Tm)(os:Array Obj)(cur:Array M7)(e:NU)(hg:w.heap[g]?=MI (MP cur e (0,0))):(sortWorldK ab7 2 w g 0 n d os).heap[g]?=MI (MP (putCells id 0 (flatK ab7 2 d) cur) e (0,0)):=by
 have c:=(Array.getElem?_eq_some_iff.1 hg).1;unfold sortWorldK Oj putRowK putRow Th Ts;simp only;rw[Rt (by simpa using c),Qp,Nh rfl,hg];rfl
theorem atY(xs:List M7)(cur:Array M7)(h:xs.length<=cur.size):(putCells id 0 xs.toArray cur).toList.take xs.length=xs:=by
 apply Ot;intro i
 by_cases hi:i<xs.length
 ·rw[O0 hi]
  unfold putCells;simp[hi,show i<cur.size by omega]
 ·rw[Nz (by simp;omega),Nz (by omega)]
theorem at8(base:Nat)(v:M7)(l:List Tm)(w:MO)(hown:w.ownsRow base 153 2 v l.length (WP l))(hl:l.length<=1000000) :
  Ni MK 235 #[v,PB (PD 236) #[] #[]] w fun r w'=>r=MN (Nv #[])/\w'.ownsRow base 153 2 v l.length (WP (ab8 l))/\w.grownBy w' v.ownBlock:=by
 have s:=hown;obtain⟨K,⟨rfl,J⟩|⟨g,p,d,rfl,C,c,m,H,o,I⟩⟩:=hown
 ·obtain rfl:l=[]:=List.length_eq_zero_iff.1 J
  refine(AnyF.slices_SortFunc_none {amZ with} MH 0 (PB (PD 236) #[] #[]) w).mono ?_;rintro r w' ⟨rfl,rfl⟩;exact⟨rfl,by simpa [ab8]using s,⟨rfl,rfl,rfl,MV _,fun _ _ _=>rfl⟩⟩
 ·have z:g<w.heap.size:=(Array.getElem?_eq_some_iff.1 c).1
  have G:HoldsK ab7 2 w g 0 l.toArray:=by
   unfold HoldsK;rw[amM];intro j F;have f:j<(WP l).length:=by simpa using F
   have A:j<l.length*2:=by rw[<-YE];exact f
   have i:d.toList[j]?=(WP l)[j]?:=by rw[<-I,O0 A]
   refine⟨?_,by simp[Ng,c]⟩;simp only[Nl,c,Oa];have L:j<d.size:=by rw[o];have:=O7 2 m;omega
   simp only[Array.getElem?_toList]at i;rw[MR f]at i;simp[i,f]
  have D:∀args w,(callFunc 236 args).run MK w=.ok (.enter 236 args) w:=enters_of US (by kernel_rfl) rfl;have u:=AnyQ.slices_SortFunc_total amZ 2 (fun w=>by kernel_rfl) (fun w=>by kernel_rfl) ab7 (fun _=>rfl) (fun x v hv=>by simp[ab7]at hv;rcases hv with rfl|rfl <;> rfl) Xe am7 236 #[] g 0 p l.toArray w D (att g 0 _ w) G z (by simp;omega) amT;refine u.mono ?_;rintro r w' ⟨rfl,n,q,rfl⟩;have E:(l.toArray.toList.mergeSort fun x y=>!(ltOf Xe) y x).toArray=(ab8 l).toArray:=rfl;rw[E];have h:(WP (ab8 l)).length=l.length*2:=by rw[YE,aiS]
  refine⟨rfl,⟨by rw[h],NF ⟨g,p,_,rfl,C,at7 w g n _ q d _ c,m,H,by unfold putCells;simpa using o,?_⟩⟩,?_⟩
  ·rw[amM,<-h]
   exact atY _ _ (by rw[h,o];exact O7 2 m)
  ·exact⟨rfl,rfl,rfl,by unfold sortWorldK Oj putRowK putRow Th Ts;simp,fun k hk hne=>at6 w g n k _ q hk (fun e=>hne (by rw[e];rfl))⟩
end
theorem agy(a b id:Int)(g:Nat)(w:MO)(h:w.cell? ⟨g,0,MH⟩=MI (MF ME id)) :
  Ni MK 150 #[Ny #[MF ME a,MF ME b],Na (MI ⟨g,0,MH⟩)] w fun r w'=>r=MN (M3 (Nn (b=id)))/\w'=w.alloc (MP #[MF ME a,MF ME b] 153):=by
 have d:g<w.heap.size:=MX w ⟨g,0,MH⟩ h
 by_cases hb:b=id
 ·subst hb
  go_enter Uf,T5;go_wp2;go_ret;exact⟨by simp,rfl⟩
 ·have e:(b == id)=false:=by simpa using hb
  have c:Nn (b=id)=false:=M0 hb;rw[c];clear hb;go_enter Uf,T5;go_wp2;go_ret;exact⟨rfl,rfl⟩
theorem atJ(v:M7)(l:List Tm)(id:Int)(g:Nat)(w:MO)(hv:Xz w v l)(h:w.cell? ⟨g,0,MH⟩=MI (MF ME id))(hex:∃t∈l,t.2=id) :
  Ni MK 193 #[v,PB (PD 150) #[] #[Na (MI ⟨g,0,MH⟩)]] w fun r w'=>∃(k:Nat) (hk:k<l.length),r=MN (MF ME k)/\l[k].2=id/\(∀t∈l.take k,t.2≠id)/\MQ w.heap.size w w':=by
 obtain⟨a,O,rfl,N,I,F⟩:=hv.F6;unfold NE at I;have H:=MX w ⟨g,0,MH⟩ h;have G:M6 (_/\_):=⟨h,hex⟩;clear h hex hv;go_enter Rk,Q3;go_wp2
 go_loopw [8] (fun i wr=>∃k:Nat,i=MF ME k/\k<=l.length/\(∀t∈l.take k,t.2≠id)/\MQ w.heap.size w wr) (fun i _=>l.length-(intOf i).toNat)
 case atStart=>exact⟨0,rfl,Nx _,by simp,MY _ _⟩
 case round =>
  obtain⟨k,rfl,hk,o,f⟩:=hrel
  by_cases hlt:k<l.length
  ·obtain⟨A,z,rfl,s,D,C⟩:=F k hlt
   have J:=(f.cell (p:=⟨A,z+k*2,MH⟩) s).trans D;have L:=(f.cell (p:=⟨A,z+k*2+1,MH⟩) s).trans C;have E:=(f.cell (p:=⟨g,0,MH⟩) H).trans G.out.1;have d:M6 (_/\_/\_):=⟨o,f,E⟩;have M:(k:Int)<(l.length:Int):=by omega
   have y:l.take (k+1)=l.take k++[l[k]]:=M9 hlt;obtain⟨m,x⟩:∃m,m=l[k].1:=⟨_,rfl⟩;obtain⟨j,q⟩:∃j,j=l[k].2:=⟨_,rfl⟩;rw[<-x]at J;rw[<-q]at L;have u:M6 (_/\_):=⟨y,q⟩;clear o f D C s y x q E F;cases hd:Nn (j=id)
   ·go_wp2_with fail
    refine(agy m j id g _ d.out.2.2).mono ?_;rw[hd];rintro r K ⟨rfl,rfl⟩;go_wp2
    go_roundw
    case rel =>
     refine⟨k+1,by simp,hlt,fun t c=>?_,d.out.2.1.alloc d.out.2.1.size _⟩;rw[u.out.1]at c;rcases List.mem_append.1 c with c|c
     ·exact d.out.1 t c
     ·rw[List.mem_singleton.1 c,<-u.out.2]
      exact Nc hd
    case measure=>simp[intOf];omega
   ·go_wp2_with fail
    refine(agy m j id g _ d.out.2.2).mono ?_;rw[hd];rintro r K ⟨rfl,rfl⟩;go_wp2;go_ret;exact⟨k,hlt,rfl,by rw[<-u.out.2];exact M2 hd,d.out.1,d.out.2.1.alloc d.out.2.1.size _⟩
  ·exfalso
   obtain⟨t,c,e⟩:=G.out.2;exact o t (by rw[N1 (by omega)];exact c) e
def ZJ(b k:Nat):List Tm:=(Pm k).map fun i=>(((aaA b i:Nat):Int),(b:Int))
theorem aiT(b k:Nat):ZJ b (k+1)=ZJ b k++[(((aaA b k:Nat):Int),(b:Int))]:=by
 unfold ZJ;rw[ZqB,OI];rfl
theorem am1(b k:Nat):(ZJ b k).length=k:=by simp[ZJ]
def wt(a:List Int)(b:Nat):Nat:=(a.getD b 0).toNat
def YZ(a:List Int):Nat->List Tm
 |0=>[]
 |n+1=>YZ a n++ZJ n (wt a n*4)
structure XI(a:List Int):Prop where
 len:a.length=12
 low:∀b,0<=a.getD b 0
 high:∀b,a.getD b 0<=8
theorem XI.Hw{a:List Int}(h:XI a)(b:Nat):wt a b<=8:=by
 have:=h.high b;unfold wt;omega
theorem agF{a:List Int}(h:XI a):∀n,(YZ a n).length<=n*32
 |0=>by simp[YZ]
 |n+1=>by
  have d:=agF h n;have c:=h.Hw n;rw[YZ,Ns,am1];omega
def WW(a:List Int):List Tm:=ab8 (YZ a 12)
theorem aiU{a:List Int}(h:XI a):(WW a).length<=384:=by
 unfold WW;rw[aiS];exact agF h 12
theorem Zx:(Tryz.prog.info? 224).map (·.size)=MI 12:=by kernel_rfl
theorem amY(a:List Int)(k:Nat)(ha:a.length=12)(hk:k<12)(w:MO):(Qy 224 (Ny (WR a).toArray) (MF ME (k:Int))).run MK w=.ok (MF ME (a.getD k 0)) w:=by
 have h:(0:Int)<=(k:Int)/\(k:Int)<((12:Nat):Int):=by omega
 have e:(WR a)[k]?=MI (MF ME (a.getD k 0)):=by
  unfold WR;rw[List.getElem?_map,MR (by omega),NK,MR (by omega)];rfl
 simp[Qy,run_underlying axR,asIntOf,h,go_sem,part,e];omega
theorem am3(a:List Int)(w:MO)(ha:XI a) :
  Ni MK 192 #[Ny (WR a).toArray] w fun r w'=>∃v,r=MN v/\w'.ownsRow w.heap.size 153 2 v (WW a).length (WP (WW a))/\MQ w.heap.size w w':=by
 obtain⟨i0,hi,a6,b4,b3⟩:=OF amP;have o:M6 _:=ha;have I:=ha.len;have L:(Tryz.prog.info? 224).map (·.size)=MI (WR a).length:=by rw[Zx,Zv,I]
 have a2:M6 _:=L;clear L;go_enter Rj,Q2
 go_wp2_with (refine O3 rfl 224 (O6 1) rfl w.heap.size 0 rfl (WR a) _ (Xj.new w _ a).Gq axR rfl a2.out ?_)
 obtain⟨d,s⟩:∃d,d=w.alloc (MP (WR a).toArray 224):=⟨_,rfl⟩;have J:MQ w.heap.size w d:=by rw[s];exact(MY _ _).alloc (MV _) _
 have c8:d.heap.size=w.heap.size+1:=by rw[s];simp
 rw[<-s];have S:M6 _:=J;clear J s
 go_loopw [3,10] (fun x t wr=>∃i:Nat,t=MF ME i/\i<=12/\wr.ownsRow d.heap.size 153 2 x (YZ a i).length (WP (YZ a i))/\MQ d.heap.size d wr) (fun _ t _=>12-(intOf t).toNat)
 case atStart=>exact⟨0,rfl,Nx _,NY _ _ _ _,MY _ _⟩
 case round =>
  obtain⟨i,rfl,d3,q,u⟩:=hrel
  by_cases hlt:i<12
  ·have hx:=amY a i I hlt
   have Y:=o.out.low i;have V:=o.out.high i;have K:a.getD i 0=((wt a i:Nat):Int):=by unfold wt;omega
   rw[K]at hx;have c3:=o.out.Hw i;have b9:=agF o.out i;have O:M6 (_/\_):=⟨q,u⟩;clear q u Y V K;have H:YZ a (i+1)=YZ a i++ZJ i (wt a i*4):=rfl;have HR:M6 _:=H;clear H;generalize wt a i=m at *;have c7:(i:Int)<12:=by omega
   go_wp2
   go_loopw [3,16] (fun x t wr=>∃k:Nat,t=MF ME k/\k<=m*4/\wr.ownsRow d.heap.size 153 2 x (YZ a i++ZJ i k).length (WP (YZ a i++ZJ i k))/\MQ d.heap.size d wr) (fun _ t _=>m*4-(intOf t).toNat)
   case atStart=>exact⟨0,rfl,Nx _,by simpa [ZJ]using O.out.1,O.out.2⟩
   case round =>
    obtain⟨k,rfl,hk,f,y⟩:=hrel
    by_cases hkL:k<m*4
    ·have c4:(k:Int)<(m:Int)*4:=by omega
     have Z:k<32:=by omega
     have C:YZ a i++ZJ i (k+1)=(YZ a i++ZJ i k)++[(((aaA i k:Nat):Int),(i:Int))]:=by rw[aiT,OC]
     have a8:(YZ a i++ZJ i k).length<=1048576:=by rw[Ns,am1];omega
     have E:=fun W=>aua i k W hlt Z
     obtain⟨z,F⟩:∃z,z=aaA i k:=⟨_,rfl⟩;obtain⟨Q,A⟩:∃Q,Q=YZ a i++ZJ i k:=⟨_,rfl⟩;rw[<-F,<-A]at C;rw[<-F]at E;rw[<-A]at f a8;have c:M6 (_/\_/\_/\_/\_):=⟨f,y,C,A,E⟩;clear f y C A E F
     go_wp2_with fail
     refine(c.out.2.2.2.2 _).mono ?_;rintro r R ⟨rfl,h⟩;have D:MQ wr.heap.size wr R:=h;have p:M6 (_/\_):=⟨YI c.out.1 D,c.out.2.1.trans (D.mono c.out.2.1.size)⟩;have b6:=p.out.2.size;clear h D
     go_wp2_with (first|(at_builtin;refine O9 _ rfl _ _ 48 rfl d.heap.size 153 i0 _ 2 16 ax1 hi a6 b4 b3 rfl (by decide) u3 _ _ rfl (p.out.1.alloc _) _ 1 1 (WP [((z:Int),(i:Int))]) rfl rfl (acR _ _ _) (abJ _) (by decide) (by unfold NE;omega) (by omega) (by simp;omega) _ rfl ?_;intro g' c6 w2 U a7 b5 b8))
     go_wp2
     go_roundw
     case rel =>
      refine⟨k+1,by simp,hkL,?_,?_⟩
      ·rw[c.out.2.2.1,aa7,Ns]
       exact U
      ·have N:=p.out.2.alloc p.out.2.size (MP #[MF ME (z:Int),MF ME (i:Int)] 153)
       exact N.grown a7 N.size (fun j e=>(p.out.1.lt j e).1)
     case measure=>simp[intOf];omega
    ·obtain rfl:k=m*4:=by omega
     have c:M6 (_/\_):=⟨f,y⟩;clear f y;go_wp2
     go_roundw
     case rel=>exact⟨i+1,by simp,by omega,by rw[HR.out];exact c.out.1,c.out.2⟩
     case measure=>simp[intOf];omega
  ·obtain rfl:i=12:=by omega
   have b7:=agF o.out 12;have c:M6 (_/\_):=⟨q,u⟩;clear q u
   go_wp2_with fail
   refine(at8 d.heap.size u3 (YZ a 12) _ c.out.1 (by omega)).mono ?_;rintro r R ⟨rfl,G,h⟩;have M:M6 (_/\_):=⟨G,h⟩;clear G h;go_wp2;go_ret;refine⟨_,rfl,?_,S.out.trans ((c.out.2.grown M.out.2 c.out.2.size (fun j e=>(c.out.1.lt j e).1)).mono S.out.size)⟩;have h4:=M.out.1.mono (base':=w.heap.size) (by omega);unfold WW;rw[aiS];exact h4
theorem agB(n:Int)(w:MO):Ni MK 190 #[MF ME n] w fun r w'=>r=MN (M3 (Nn (0<=n/\n<12)))/\w'=w:=by
 obtain⟨d,c⟩:∃d,d=Nn (0<=n/\n<12):=⟨_,rfl⟩;rw[<-c];have H:M6 _:=c;clear c;cases h1:Nn (0<=n)
 ·go_enter ayT,ayJ
  go_wp2;go_ret;exact⟨by rw[H.out,M0 (fun h=>Nc h1 h.1)];rfl,rfl⟩
 ·cases h2:Nn (n<12)
  ·go_enter ayT,ayJ
   go_wp2;go_ret;exact⟨by rw[H.out,M0 (fun h=>Nc h2 h.2)];rfl,rfl⟩
  ·go_enter ayT,ayJ
   go_wp2;go_ret;exact⟨by rw[H.out,Nq ⟨M2 h1,M2 h2⟩];rfl,rfl⟩
theorem atK(n:Int)(w:MO):Ni MK 196 #[MF ME n] w fun r w'=>r=MN (M3 (Nn (1<=n/\n<=8)))/\w'=w:=by
 obtain⟨d,c⟩:∃d,d=Nn (1<=n/\n<=8):=⟨_,rfl⟩;rw[<-c];have H:M6 _:=c;clear c;cases h1:Nn (1<=n)
 ·go_enter Wz,Wl
  go_wp2;go_ret;exact⟨by rw[H.out,M0 (fun h=>Nc h1 h.1)];rfl,rfl⟩
 ·cases h2:Nn (n<=8)
  ·go_enter Wz,Wl
   go_wp2;go_ret;exact⟨by rw[H.out,M0 (fun h=>Nc h2 h.2)];rfl,rfl⟩
  ·go_enter Wz,Wl
   go_wp2;go_ret;exact⟨by rw[H.out,Nq ⟨M2 h1,M2 h2⟩];rfl,rfl⟩
theorem agA(a:List Int)(n:Int)(w:MO)(hlen:a.length=12) :
  Ni MK 148 #[Ny (WR a).toArray,MF ME n] w fun r w'=>r=MN (M3 (Nn (0<=n/\n<12/\0<a.getD n.toNat 0)))/\MQ w.heap.size w w':=by
 by_cases hn:0<=n/\n<12
 ·obtain⟨k,rfl⟩:=NL hn.1
  have u:k<12:=by omega
  have d:Nn (0<=(k:Int)/\(k:Int)<12)=true:=Nq hn;obtain⟨x,i⟩:∃x,x=a.getD k 0:=⟨_,rfl⟩;have m:=Xj.new w 224 a;have p:(w.alloc (MP (WR a).toArray 224)).cell? ⟨w.heap.size,k,MH⟩=MI (MF ME x):=by
   rw[m.F7 k (by omega),i,NK,MR (by omega)];rfl
  have c:Nn (0<=(k:Int)/\(k:Int)<12/\0<a.getD (k:Int).toNat 0)=Nn (0<x):=by
   rw[NR,<-i];exact decide_eq_decide.2 ⟨fun h=>h.2.2,fun h=>⟨by omega,by omega,h⟩⟩
  rw[c];have j:MQ w.heap.size w (w.alloc (MP (WR a).toArray 224)):=(MY _ _).alloc (MV _) _;have o:M6 _:=j;have f:M6 _:=d;clear j c i m d;go_enter Tryz.func148,Tryz.ntmps148
  go_wp2_with fail
  refine(agB _ _).mono ?_;rw[f.out];rintro r s ⟨rfl,e⟩;rw[<-e]at p;have q:M6 _:=e;clear e;go_wp2;go_ret;exact⟨rfl,by rw[q.out];exact o.out⟩
 ·have d:Nn (0<=n/\n<12)=false:=M0 hn
  have c:Nn (0<=n/\n<12/\0<a.getD n.toNat 0)=false:=M0 fun h=>hn ⟨h.1,h.2.1⟩
  rw[c];have f:M6 _:=d;clear c d;go_enter Tryz.func148,Tryz.ntmps148
  go_wp2_with fail
  refine(agB _ _).mono ?_;rw[f.out];rintro r s ⟨rfl,rfl⟩;go_wp2;go_ret;exact⟨rfl,(MY _ _).alloc (MV _) _⟩
theorem atB(u v:M7)(l m:List Tm)(w:MO)(hu:Xz w u l)(hv:Xz w v m) :
  Ni MK 191 #[u,v] w fun r w'=>r=MN (M3 (Nn (l=m)))/\∃q,w'=w.drewN q:=by
 obtain⟨a,ca,rfl,a2,L,e⟩:=hu.F6;obtain⟨b,cb,rfl,M,I,f⟩:=hv.F6;unfold NE at L I
 by_cases hlen:l.length=m.length
 ·have d:M6 (l.length=m.length):=hlen
  rw[<-hlen]at M⊢;clear hlen;go_enter VP,VH;go_wp2
  go_loopw [13] (fun i wr=>∃k:Nat,i=MF ME k/\k<=l.length/\(∀j,j<k->l[j]?=m[j]?)/\∃q,wr=w.drewN q) (fun i _=>l.length-(intOf i).toNat)
  case atStart=>exact⟨0,rfl,Nx _,fun j hj=>absurd hj (QH _),0,rfl⟩
  case round =>
   obtain⟨k,rfl,hk,F,q,rfl⟩:=hrel;have H:M6 _:=F;clear F
   by_cases hlt:k<l.length
   ·obtain⟨b1,o1,rfl,K,V,O⟩:=e k hlt
    obtain⟨b2,o2,rfl,J,Q,N⟩:=f k (by rw[<-d.out];exact hlt);clear K J e f;obtain⟨U,s⟩:∃x,x=l[k].1:=⟨_,rfl⟩;obtain⟨Z,o⟩:∃x,x=l[k].2:=⟨_,rfl⟩;obtain⟨Y,p⟩:∃x,x=(m[k]'(by rw[<-d.out];exact hlt)).1:=⟨_,rfl⟩;obtain⟨R,y⟩:∃x,x=(m[k]'(by rw[<-d.out];exact hlt)).2:=⟨_,rfl⟩;rw[<-s]at V;rw[<-o]at O;rw[<-p]at Q;rw[<-y]at N;have G:M6 (_/\_/\_/\_):=⟨s,o,p,y⟩;clear s o p y;rcases aug U Z Y R with⟨rfl,rfl⟩|c
    ·go_wp2
     go_region
     go_wp2
     go_roundw
     case rel =>
      refine⟨k+1,by simp,hlt,fun j hj=>?_,q+1,rfl⟩;rcases Nat.lt_succ_iff_lt_or_eq.1 hj with h|rfl
      ·exact H.out j h
      ·rw[MR hlt,MR (by rw[<-d.out];exact hlt)]
       obtain⟨z,D,A,E⟩:=G.out;exact congrArg MI (Q8 (z.symm.trans A) (D.symm.trans E))
     case measure=>simp[intOf];omega
    ·have C:M6 (Nn (l=m)=Nb):=by
      refine M0 fun h=>?_
      subst h;obtain⟨z,D,A,E⟩:=G.out;rcases c with c|⟨_,c⟩
      ·rw[z,<-A]at c;simp at c
      ·rw[D,<-E]at c;simp at c
     rcases c with c|⟨rfl,c⟩
     all_goals
      go_wp2
      go_region
      go_wp2;go_ret;exact⟨by rw[C.out];rfl,q+1,rfl⟩
   ·have S:M6 (Nn (l=m)=Nw):=by
     refine Nq (Ot fun j=>?_);rcases Oq j k with h|h
     ·exact H.out j h
     ·rw[Nz (by omega),Nz (by rw[<-d.out];omega)]
    clear e f;go_wp2;go_ret;exact⟨by rw[S.out];rfl,q,rfl⟩
 ·have C:M6 (Nn (l=m)=Nb):=M0 fun h=>hlen (by rw[h])
  clear e f;have c:((l.length:Int) != (m.length:Int))=true:=by simp[bne_iff_ne];omega
  go_enter VP,VH;go_wp2;go_ret;exact⟨by rw[C.out];rfl,0,rfl⟩
def XX(l:List Tm)(b:Nat):Nat:=l.countP fun t=>Nn (t.2=(b:Int))
theorem aiE(l m:List Tm)(b:Nat):XX (l++m) b=XX l b+XX m b:=Qi ..
theorem atu{m:List Tm}(h:l.Perm m)(b:Nat):XX l b=XX m b:=h.countP_eq _
theorem aiF(l:List Tm)(b:Nat):XX l b<=l.length:=List.countP_le_length
theorem amH(c b:Nat):∀k,XX (ZJ c k) b=if c=b then k else 0
 |0=>by simp[ZJ,XX]
 |k+1=>by
  rw[aiT,aiE,amH c b k]
  by_cases h:c=b
  ·simp[h,XX]
  ·simp[h,XX]
   omega
theorem amG(a:List Int)(b:Nat):∀n,XX (YZ a n) b=if b<n then wt a b*4 else 0
 |0=>by simp[YZ,XX]
 |n+1=>by
  rw[YZ,aiE,amG a b n,amH]
  by_cases h1:b<n
  ·rw[Nh h1,Nf (by omega),Nh (by omega)];omega
  ·rw[Nf h1]
   by_cases h2:n=b
   ·subst h2;rw[Nh rfl,Nh (by omega)];omega
   ·rw[Nf h2,Nf (by omega)]
theorem aiK{b:Nat}:t∈ZJ b k↔∃i,i<k/\t=(((aaA b i:Nat):Int),(b:Int)):=by
 unfold ZJ;simp only[List.mem_map,List.mem_range];exact⟨fun⟨i,h,e⟩=>⟨i,h,e.symm⟩,fun⟨i,h,e⟩=>⟨i,h,e.symm⟩⟩
theorem aiJ{a:List Int}{t:Tm}:∀ {n},t∈YZ a n↔∃b i,b<n/\i<wt a b*4/\t=(((aaA b i:Nat):Int),(b:Int))
 |0=>by simp[YZ]
 |n+1=>by
  rw[YZ,QF,aiJ (n:=n),aiK];constructor
  ·rintro(⟨b,i,h1,h2,h3⟩|⟨i,h1,h2⟩)
   ·exact⟨b,i,by omega,h2,h3⟩
   ·exact⟨n,i,by omega,h1,h2⟩
  ·rintro⟨b,i,h1,h2,h3⟩
   by_cases h:b=n
   ·subst h;exact NF ⟨i,h2,h3⟩
   ·exact Nt ⟨b,i,by omega,h2,h3⟩
theorem afg{a:List Int}:t∈WW a↔∃b i,b<12/\i<wt a b*4/\t=(((aaA b i:Nat):Int),(b:Int)):=by
 unfold WW;rw[(agG _).mem_iff,aiJ]
def Z5(l:List Tm):List Int:=(Pm 12).map fun b=>((XX l b:Nat):Int)
def Xt(l:List Tm):List Int:=(Pm 12).map fun b=>((XX l b / 4:Nat):Int)
theorem abI(l:List Tm):(Z5 l).length=12:=by simp[Z5]
theorem aej(l:List Tm):(Xt l).length=12:=by simp[Xt]
theorem aiD(l:List Tm)(b:Nat)(h:b<12):(Z5 l).getD b 0=((XX l b:Nat):Int):=by simp[Z5,h]
theorem am9(l:List Tm)(b:Nat)(h:b<12):(Xt l).getD b 0=((XX l b / 4:Nat):Int):=by simp[Xt,h]
theorem ana(l:List Tm)(b:Nat)(h:¬b<12):(Xt l).getD b 0=0:=by simp[Xt,h]
theorem amF(l:List Tm)(t:Tm)(b:Nat)(hb:b<12)(ht:t.2=(b:Int)):Z5 (l++[t])=(Z5 l).set b (((XX l b:Nat):Int)+1):=by
 apply Ot;intro j
 by_cases hj:j<12
 ·have e:XX (l++[t]) j=XX l j+if j=b then 1 else 0:=by
   rw[aiE]
   congr 1
   by_cases h:j=b
   ·subst h;simp[XX,ht]
   ·simp[XX,ht,h];omega
  by_cases h:j=b
  ·subst h
   rw[N7 (by rw[abI];exact hj)];simp[Z5,hj,e]
  ·rw[N3 (Pi h)]
   simp[Z5,hj,e,h]
 ·rw[Nz (by rw[abI];omega),Nz (by rw[NA,abI];omega)]
def Yd(l:List Tm):Prop:=∃a,XI a/\l=WW a
theorem aur{a:List Int}(h:XI a)(b:Nat):((wt a b:Nat):Int)=a.getD b 0:=by
 have:=h.low b;unfold wt;omega
theorem agx(a:List Int)(b:Nat)(hb:b<12):XX (WW a) b=wt a b*4:=by
 unfold WW;rw[atu (agG _),amG,Nh hb]
theorem agK{a:List Int}(h:XI a):Xt (WW a)=a:=by
 apply Ot;intro j
 by_cases hj:j<12
 ·have e:=agx a j hj
  have c:=aur h j;have d:j<a.length:=by rw[h.len];exact hj
  rw[MR d];rw[NK,MR d]at c;simp only[OV]at c;simp[Xt,hj,e,c]
 ·rw[Nz (by rw[aej];omega),Nz (by rw[h.len];omega)]
theorem aiV(h:∀b,b<12->XX l b<=32):XI (Xt l):=by
 refine⟨aej l,fun b=>?_,fun b=>?_⟩
 ·by_cases hb:b<12
  ·rw[am9 l b hb];omega
  ·rw[ana l b hb];omega
 ·by_cases hb:b<12
  ·rw[am9 l b hb];have:=h b hb;omega
  ·rw[ana l b hb];omega
theorem amW(h:∀b,b<12->XX l b<=32):Yd l↔l=WW (Xt l):=by
 constructor
 ·rintro⟨a,ha,rfl⟩
  rw[agK ha]
 ·intro e
  exact⟨Xt l,aiV h,e⟩
theorem aiQ(h:Yd l):∀t∈l,0<=t.2/\t.2<12:=by
 obtain⟨a,e,rfl⟩:=h;intro t c;obtain⟨b,i,d,_,rfl⟩:=afg.1 c;exact⟨by simp,by simp only;omega⟩
theorem aiP(h:Yd l)(b:Nat)(hb:b<12):XX l b<=32:=by
 obtain⟨a,c,rfl⟩:=h;rw[agx a b hb];have:=c.Hw b;omega
theorem ang:(#[MF ME 0,MF ME 0,MF ME 0,MF ME 0,MF ME 0,MF ME 0,MF ME 0,MF ME 0,MF ME 0,MF ME 0,MF ME 0,MF ME 0]:Array M7)=(WR (Nj 12 0)).toArray:=rfl
def wL(l:List Tm)(k:Nat):List Int:=(Pm 12).map fun b=>if b<k then((XX l b / 4:Nat):Int)else 0
theorem agJ(l:List Tm)(k:Nat):(wL l k).length=12:=by simp[wL]
theorem auj(l:List Tm):wL l 0=Nj 12 0:=by simp[wL];rfl
theorem auh(l:List Tm):wL l 12=Xt l:=by
 unfold wL Xt;apply PU;intro b c;rw[Nh (List.mem_range.1 c)]
theorem aui(l:List Tm)(k:Nat)(hk:k<12):wL l (k+1)=(wL l k).set k ((XX l k / 4:Nat):Int):=by
 apply Ot;intro j
 by_cases hj:j<12
 ·by_cases h:j=k
  ·subst h
   rw[N7 (by rw[agJ];exact hj)];simp[wL,hj]
  ·rw[N3 (Pi h)]
   simp[wL,hj,show j<k+1↔j<k by omega]
 ·rw[Nz (by rw[agJ];omega),Nz (by rw[NA,agJ];omega)]
def aiz(l:List Tm)(w:MO)(r:Ending)(w':MO):Prop:=∃(a:List Int) (b:Bool),r=MN (Nv #[Ny (WR a).toArray,M3 b])/\a.length=12/\(b=Nw↔Yd l)/\(b=Nw->a=Xt l)/\MQ w.heap.size w w'
theorem anc(h:¬Yd l)(hb:MQ w.heap.size w w'):aiz l w (MN (Nv #[Ny (WR (Nj 12 0)).toArray,M3 Nb])) w' :=
 ⟨Nj 12 0,Nb,rfl,by simp,⟨fun e=>PP e,fun e=>absurd e h⟩,fun e=>PP e,hb⟩
theorem auq(h:∀b,b<12->XX l b<=32)(hb:MQ w.heap.size w w'):aiz l w (MN (Nv #[Ny (WR (Xt l)).toArray,M3 (Nn (l=WW (Xt l)))])) w' :=
 ⟨Xt l,_,rfl,aej l,by rw[decide_eq_true_iff];exact(amW h).symm,fun _=>rfl,hb⟩
theorem agL(v:M7)(l:List Tm)(w:MO)(hv:Xz w v l) :
  Ni MK 147 #[Ny #[v]] w (aiz l w):=by
 obtain⟨p,c,rfl,hc,hm,pv⟩:=hv.F6;unfold NE at hm;have HV:M6 (_/\_):=⟨hv,pv⟩;clear hv pv;go_enter Tryz.func147,Tryz.ntmps147;go_wp2;rw[ang];obtain⟨J,H⟩:∃J,J=(((w.alloc (MP #[MG p l.length c] 50)).alloc (MP (WR (Nj 12 0)).toArray 224)).alloc (MP (WR (Nj 12 0)).toArray 224)).alloc (MP (WR (Nj 12 0)).toArray 224):=⟨_,rfl⟩;rw[<-H];have g4:MQ w.heap.size w J:=by rw[H];exact((((MY _ _).alloc (MV _) _).alloc (by simp) _).alloc (by simp;omega) _).alloc (by simp;omega) _
 have e7:J.heap[w.heap.size]?=MI (MP #[MG p l.length c] 50 (0,0)):=by rw[H];exact Xy _ _ (Xy _ _ (Xy _ _ (M1 _ _)))
 have U:Xj 224 12 J (w.heap.size+1) (Nj 12 0):=by rw[H];exact⟨Xy _ _ (Xy _ _ (Yu _ _ _)),by simp⟩
 have f7:Xj 224 12 J (w.heap.size+1+1) (Nj 12 0):=by rw[H];exact⟨Xy _ _ (by have:=M1 ((w.alloc (MP #[MG p l.length c] 50)).alloc (MP (WR (Nj 12 0)).toArray 224)) (MP (WR (Nj 12 0)).toArray 224);simpa using this),by simp⟩
 have V:Xj 224 12 J (w.heap.size+1+1+1) (Nj 12 0):=by rw[H];exact⟨by have:=M1 (((w.alloc (MP #[MG p l.length c] 50)).alloc (MP (WR (Nj 12 0)).toArray 224)).alloc (MP (WR (Nj 12 0)).toArray 224)) (MP (WR (Nj 12 0)).toArray 224);simpa using this,by simp⟩
 have H0:M6 (_/\_/\_/\_/\_):=⟨g4,e7,U,f7,V⟩;clear g4 e7 U f7 V H
 go_loopw [13] (fun t wr=>∃k:Nat,t=MF ME k/\k<=l.length/\(∀t∈l.take k,0<=t.2/\t.2<12)/\MQ w.heap.size w wr/\wr.heap[w.heap.size]?=MI (MP #[MG p l.length c] 50 (0,0))/\Xj 224 12 wr (w.heap.size+1) (Nj 12 0)/\Xj 224 12 wr (w.heap.size+1+1) (Z5 (l.take k))/\Xj 224 12 wr (w.heap.size+1+1+1) (Nj 12 0)) (fun t _=>l.length-(intOf t).toNat)
 case atStart=>exact⟨0,rfl,Nx _,by simp,H0.out⟩
 case round =>
  obtain⟨k,rfl,hk,Q,d,m,h1,Z,f⟩:=hrel
  by_cases hlt:k<l.length
  ·obtain⟨b0,e9,rfl,g1,c1,c2⟩:=HV.out.2 k hlt
   have e1:=(d.cell (p:=⟨b0,e9+k*2,MH⟩) g1).trans c1;have e2:=(d.cell (p:=⟨b0,e9+k*2+1,MH⟩) g1).trans c2;obtain⟨ta,c3⟩:∃ta,ta=l[k].1:=⟨_,rfl⟩;obtain⟨A,b6⟩:∃A,A=l[k].2:=⟨_,rfl⟩;rw[<-c3]at e1;rw[<-b6]at e2;have f9:l.take (k+1)=l.take k++[(ta,A)]:=by rw[M9 hlt,c3,b6]
   have d7:(ta,A)∈l:=by rw[c3,b6];exact Nk hlt
   have i7:(k:Int)<(l.length:Int):=by omega
   have s:M6 (_/\_/\_/\_/\_/\_/\_/\_):=⟨Q,d,m,h1,Z,f,f9,d7⟩;clear Q d m h1 Z f f9 d7 c3 b6 c1 c2
   go_wp2_with fail
   refine(agB _ _).mono ?_;rintro r w1 ⟨rfl,b7⟩;have b9:=M1 wr (MP #[MF ME ta,MF ME A] 153);have i5:w1.heap.size=wr.heap.size+1:=by rw[b7];simp
   rw[<-b7]at b9;have G:MQ wr.heap.size wr w1:=by
    rw[b7];exact(MY _ _).alloc (MV _) _
   clear b7;obtain⟨d0,d1,_,_,i6⟩:=Xa b9;have I:=s.out.2.2.2.1.below G;have N:=s.out.2.2.2.2.1.below G;have q3:=s.out.2.2.2.2.2.1.below G;have qR:=WO s.out.2.2.1 G;have M:=s.out.2.1.trans (G.mono s.out.2.1.size)
   by_cases hin:0<=A/\A<12
   ·obtain⟨b,rfl⟩:=NL hin.1
    have a7:b<12:=by omega
    have g9:(b:Int)<12:=by omega
    have c8:=N.F7 b (by rw[abI];exact a7);have i1:=N.Gu b;have b8:(Z5 (l.take k))[b]'(by rw[abI];exact a7)=((XX (l.take k) b:Nat):Int):=by
     have:=aiD (l.take k) b a7;rwa[NK,MR (by rw[abI];exact a7)]at this
    rw[b8]at c8;have h5:XX (l.take k) b<=k:=Nm (aiF _ _) (by rw[NH];omega);obtain⟨x,hx⟩:∃x,x=XX (l.take k) b:=⟨_,rfl⟩;rw[<-hx]at c8 h5;have hd:Nn (0<=(b:Int)/\(b:Int)<12)=true:=Nq hin;rw[hd];have y:M6 (_/\_/\_/\_/\_/\_):=⟨I,N,q3,qR,M,hx⟩;clear I N q3 qR M hx b8 hd hin G b9;go_wp2
    go_roundw
    case rel =>
     obtain⟨I,N,q3,qR,M,hx⟩:=y.out;refine⟨k+1,by simp,hlt,fun t ht=>?_,M.setCell (by simp;omega) _,?_,I.Hk (by simp) _,?_,q3.Hk (by simp) _⟩
     ·rw[s.out.2.2.2.2.2.2.1,QF]at ht
      rcases ht with ht|ht
      ·exact s.out.1 t ht
      ·rw[PY]at ht
       subst ht;exact⟨by simp,by simpa using g9⟩
     ·rw[MU _ _ _ _ (by simp;omega)]
      exact qR
     ·rw[s.out.2.2.2.2.2.2.1,amF _ _ b a7 rfl,<-hx]
      exact N.F4 b _
    case measure=>simp[intOf];omega
   ·have hd:Nn (0<=A/\A<12)=false:=M0 hin
    rw[hd];have b4:=(I.Hq (P:=MK) (b:=Nj 12 0) (by simp) Zx).2;have b5:¬Yd l:=fun h=>hin (aiQ h _ s.out.2.2.2.2.2.2.2)
    obtain⟨C,z⟩:∃C,C=w1.setCells (w.heap.size+1) 0 (RW (#[MF ME 0,MF ME 0,MF ME 0,MF ME 0,MF ME 0,MF ME 0,MF ME 0,MF ME 0,MF ME 0,MF ME 0,MF ME 0,MF ME 0]:Array M7)):=⟨_,rfl⟩;have a8:Xj 224 12 C (w.heap.size+1) (Nj 12 0):=by rw[z];exact b4
    have b3:MQ w.heap.size w C:=by rw[z];exact adF M (by omega) _ _ M.size
    have a6:=OE (ac1 (Nj 12 0));have y:M6 (_/\_/\_/\_/\_):=⟨I.GB,b3,a8,b5,z⟩;clear I N q3 qR M hd hin G b9 b4 b5 z d0 d1 e1 e2 a8 b3;have HO:M6 _:=a6;clear a6
    go_wp2_with ((with_reducible refine OW rfl 224 (O6 2) (O6 21) rfl (w.heap.size+1) 0 #[MF ME 0,MF ME 0,MF ME 0,MF ME 0,MF ME 0,MF ME 0,MF ME 0,MF ME 0,MF ME 0,MF ME 0,MF ME 0,MF ME 0] ?hx ?hy ?ht ?hi ?h1 ?_);(case hx=>rfl);(case hy=>rfl);(case ht=>exact y.out.1);(case hi=>exact Zx);(case h1=>exact HO.out);rw[<-y.out.2.2.2.2])
    refine Np (v:=Nv #[Ny (WR (Nj 12 0)).toArray,M3 Nb]) (XT TM rfl rfl (y.out.2.2.1.Io axR rfl Zx)) rfl (anc y.out.2.2.2.1 y.out.2.1)
  ·obtain rfl:k=l.length:=by omega
   rw[NT]at Q Z;have a2:(Tryz.prog.info? 224).map (·.size)=MI (WR (Z5 l)).length:=by rw[Zx,Zv,abI]
   have b8:=abI l;have s:M6 (_/\_/\_/\_/\_/\_/\_):=⟨Q,d,m,h1,Z,f,a2⟩;clear Q d m h1 Z f a2
   go_wp2_with ((with_reducible refine O3 rfl 224 (O6 4) rfl (w.heap.size+1+1) 0 ?hx (WR (Z5 l)) _ ?hc axR ?hd ?hi ?_);(case hx=>rfl);(case hc=>exact s.out.2.2.2.2.1.Gq);(case hd=>rfl);(case hi=>exact s.out.2.2.2.2.2.2))
   go_loopw [30] (fun t W=>∃j:Nat,t=MF ME j/\j<=12/\(∀b,b<j->XX l b<=32)/\MQ w.heap.size w W/\W.heap[w.heap.size]?=MI (MP #[MG p l.length c] 50 (0,0))/\Xj 224 12 W (w.heap.size+1) (Nj 12 0)/\Xj 224 12 W (w.heap.size+1+1+1) (wL l j)) (fun t _=>12-(intOf t).toNat)
   case atStart =>
    obtain⟨Q,d,m,h1,Z,f,_⟩:=s.out;exact⟨0,rfl,Nx _,fun b h=>absurd h (QH _),d,m,h1,by rw[auj];exact f⟩
   case round =>
    obtain⟨j,rfl,hj,D,d,m,h1,f⟩:=hrel
    by_cases hlt2:j<12
    ·have e6:=amY (Z5 l) j b8 hlt2
     rw[aiD l j hlt2]at e6;have i4:(j:Int)<12:=by omega
     have h7:XX l j<=l.length:=aiF l j;obtain⟨x,hx⟩:∃x,x=XX l j:=⟨_,rfl⟩;rw[<-hx]at e6 h7
     by_cases h32:x<=32
     ·have i3:¬((32:Int)<(x:Int)):=by omega
      have c8:=f.F7 j (by rw[agJ];exact hlt2);have i1:=f.Gu j;have HJ:M6 (_/\_/\_/\_/\_/\_):=⟨D,d,m,h1,f,hx⟩;clear D d m h1 f hx;go_wp2
      go_roundw
      case rel =>
       obtain⟨D,d,m,h1,f,hx⟩:=HJ.out;refine⟨j+1,by simp,hlt2,fun b c4=>?_,d.setCell (by simp;omega) _,?_,h1.Hk (by simp) _,?_⟩
       ·by_cases e:b=j
        ·subst e;rw[<-hx];exact h32
        ·exact D b (by omega)
       ·rw[MU _ _ _ _ (by simp;omega)]
        exact m
       ·rw[aui l j hlt2,<-hx]
        have:=f.F4 j (((x / 4:Nat):Int))
        first|exact this|(simpa using this)
      case measure=>simp[intOf];omega
     ·have i3:(32:Int)<(x:Int):=by omega
      have b5:¬Yd l:=fun h=>h32 (by rw[hx];exact aiP h j hlt2)
      obtain⟨C,z⟩:∃C,C=wr.setCells (w.heap.size+1) 0 (RW (#[MF ME 0,MF ME 0,MF ME 0,MF ME 0,MF ME 0,MF ME 0,MF ME 0,MF ME 0,MF ME 0,MF ME 0,MF ME 0,MF ME 0]:Array M7)):=⟨_,rfl⟩;have b4:=(h1.Hq (P:=MK) (b:=Nj 12 0) (by simp) Zx).2;have a8:Xj 224 12 C (w.heap.size+1) (Nj 12 0):=by rw[z];exact b4
      have b3:MQ w.heap.size w C:=by rw[z];exact adF d (by omega) _ _ d.size
      have a6:=OE (ac1 (Nj 12 0));have y:M6 (_/\_/\_/\_/\_/\_):=⟨h1.GB,b3,a8,b5,z,a6⟩;clear D d m h1 f b4 b5 z a8 b3 a6 hx
      go_wp2_with ((with_reducible refine OW rfl 224 (O6 2) (O6 36) rfl (w.heap.size+1) 0 #[MF ME 0,MF ME 0,MF ME 0,MF ME 0,MF ME 0,MF ME 0,MF ME 0,MF ME 0,MF ME 0,MF ME 0,MF ME 0,MF ME 0] ?hx ?hy ?ht ?hi ?h1 ?_);(case hx=>rfl);(case hy=>rfl);(case ht=>exact y.out.1);(case hi=>exact Zx);(case h1=>exact y.out.2.2.2.2.2);rw[<-y.out.2.2.2.2.1])
      refine Np (v:=Nv #[Ny (WR (Nj 12 0)).toArray,M3 Nb]) (XT TM rfl rfl (y.out.2.2.1.Io axR rfl Zx)) rfl (anc y.out.2.2.2.1 y.out.2.1)
    ·obtain rfl:j=12:=by omega
     rw[auh]at f;have g3:XI (Xt l):=aiV D;have e8:Xz wr (MG p l.length c) l:=HV.out.1.below (amC d (MV _));have h9:=aej l;have i2:=Xu m;have F:M6 (_/\_/\_/\_/\_/\_/\_):=⟨g3,e8,D,d,m,h1,f⟩;have F1:wr.cell? ⟨w.heap.size,0,MH⟩=MI (MG p l.length c)/\wr.rangeAt (w.heap.size+1+1+1) 0 (WR (Xt l))/\wr.there (w.heap.size+1) 0 12:=⟨i2,f.Gq,h1.GB⟩;have G1:M6 _:=F1;have d6:=axR;have a2:(Tryz.prog.info? 224).map (·.size)=MI (WR (Xt l)).length:=by rw[Zx,Zv,aej]
     have g8:(WR (Xt l)).length=12:=by rw[Zv,aej]
     have g7:=ac1 (Xt l);clear D d m h1 f g3 e8 F1;go_wp2;refine O2 (S:=fun W=>W.cell? ⟨w.heap.size,0,MH⟩=MI (MG p l.length c)/\W.rangeAt (w.heap.size+1+1+1) 0 (WR (Xt l))/\W.there (w.heap.size+1) 0 12) (by kernel_rfl) G1.out (fun hHeld=>?_)
     refine' ND (i:=0) (oi:=_) (v:=_) rfl (by kernel_rfl) (by kernel_rfl) (by kernel_rfl) (fun _ _ _ h=>h) (Pt (by rfl) _ _ rfl _ _ rfl _ _ (fun W h=>h.2.1) d6 rfl a2) hHeld ?_
     simp only[Nr,MJ,ML,MM]
     refine' ND (i:=3) (oi:=_) (v:=_) rfl (by kernel_rfl) (by kernel_rfl) (by kernel_rfl) (fun _ _ _ h=>h) (Pt (by rfl) _ _ rfl _ _ rfl _ _ (fun W h=>h.2.1) d6 rfl a2) hHeld ?_
     simp only[Nr,MJ,ML,MM];refine ND (i:=1) (oi:=_) (v:=Na (MI ⟨w.heap.size,0,MH⟩)) rfl (by kernel_rfl) (by kernel_rfl) (by kernel_rfl) (fun _ _ _ h=>h) (Nt ⟨by rfl,fun W hSw=>by go_simp⟩) hHeld ?_;simp only[Nr,MJ,ML,MM];refine ND (i:=2) (oi:=_) (v:=MG p l.length c) rfl (by kernel_rfl) (by kernel_rfl) (by kernel_rfl) (fun _ _ _ h=>h) (Nt ⟨by rfl,fun W hSw=>by have hh:=hSw.1;go_simp⟩) hHeld ?_;simp only[Nr,MJ,ML,MM];refine NN (rs:=[4]) (by kernel_rfl) (by simp) ?_;refine NP (o:=_) rfl (fun K hK=>?_) NX;go_simp;refine(am3 _ _ F.out.1).mono ?_;rintro r L ⟨u,rfl,d3,c4⟩;have O:MQ wr.heap.size wr L:=Za c4;have f0:Xz L (MG p l.length c) l:=F.out.2.1.below O;have g0:Xz L u (WW (Xt l)):=Yr d3;have U:=F.out.2.2.2.2.2.1.below O;have V:=F.out.2.2.2.2.2.2.below O;have c6:=WO F.out.2.2.2.2.1 O;have f8:=F.out.2.2.2.1.trans (O.mono F.out.2.2.2.1.size);have E:M6 (_/\_/\_/\_/\_/\_):=⟨f0,g0,U,f8,V,c6⟩;have G2:M6 (_/\_/\_):=⟨Xu c6,V.Gq,U.GB⟩;clear f0 g0 U V c6 f8 O d3 c4 hHeld;refine hK.out _ _ G2.out (fun hHeld=>?_);clear hK K
     try simp only[Nr,MJ,ML,MM]
     refine NN (rs:=[5]) (by kernel_rfl) (by simp) ?_;refine NP (o:=_) rfl (fun K hK=>?_) NX;go_simp;refine(atB _ _ l (WW (Xt l)) _ E.out.1 E.out.2.1).mono ?_;rintro r w3 ⟨rfl,q,rfl⟩;refine hK.out _ _ G2.out (fun hHeld=>?_);clear hK K
     try simp only[Nr,MJ,ML,MM]
     obtain⟨Y,R⟩:∃Y,Y=(L.drewN q).setCells (w.heap.size+1) 0 (WR (Xt l)):=⟨_,rfl⟩;have c7:Xj 224 12 Y (w.heap.size+1) (Xt l):=by rw[R];exact((show Xj 224 12 (L.drewN q) (w.heap.size+1) (Nj 12 0)from E.out.2.2.1).Hq (P:=MK) (b:=Xt l) h9 Zx).2
     have g5:MQ w.heap.size w Y:=by rw[R];have h:=amB E.out.2.2.2.1 q;exact adF h (by omega) _ _ h.size
     have d4:(WR (Xt l)).toArray.size=12:=g8;have d8:Xj 224 12 Y (w.heap.size+1+1+1) (Xt l):=by rw[R];exact E.out.2.2.2.2.1.Gf (N8 (L.drewN q) _ _ _ E.out.2.2.2.2.1.lt (by omega))
     have d9:Y.heap[w.heap.size]?=MI (MP #[MG p l.length c] 50 (0,0)):=by rw[R];exact(N8 (L.drewN q) _ _ _ (Array.getElem?_eq_some_iff.1 E.out.2.2.2.2.2).1 (by omega)).trans E.out.2.2.2.2.2
     have G9:M6 (_/\_/\_):=⟨Xu d9,d8.Gq,c7.GB⟩;refine NN (rs:=[6]) (by kernel_rfl) (by simp) ?_;refine NP (o:=_) rfl (fun K hK=>?_) NX;rw[Nh (by rfl)];refine wp_store_mid _ _ _ rfl _ _ (WR (Xt l)).toArray rfl rfl (by rw[d4];exact G2.out.2.2) (by rw[d4];exact Zx) (OE g7) ?_;rw[NS,<-R];have H9:M6 (_/\_):=⟨c7,g5⟩;clear c7 g5 d8 d9 R;refine hK.out _ _ G9.out (fun hHeld=>?_);clear hK K
     try simp only[Nr,MJ,ML,MM]
     refine NN (rs:=[7]) (by kernel_rfl) (by simp) ?_;refine NP (o:=_) rfl (fun K hK=>?_) NX;go_simp;refine hK.out _ _ G9.out (fun hHeld=>?_);clear hK K
     try simp only[Nr,MJ,ML,MM]
     refine PS (by kernel_rfl) ?_ _;go_wp2;refine Np (v:=Nv #[Ny (WR (Xt l)).toArray,M3 (Nn (l=WW (Xt l)))]) (XT TM rfl rfl (H9.out.1.Io axR rfl Zx)) rfl (auq F.out.2.2.1 H9.out.2)
theorem agz(w:MO)(a:List Int)(ha:a.length=12):(w.alloc (MP #[MF ME 0,MF ME 0,MF ME 0,MF ME 0,MF ME 0,MF ME 0,MF ME 0,MF ME 0,MF ME 0,MF ME 0,MF ME 0,MF ME 0] 224)).there w.heap.size 0 12/\Xj 224 12 ((w.alloc (MP #[MF ME 0,MF ME 0,MF ME 0,MF ME 0,MF ME 0,MF ME 0,MF ME 0,MF ME 0,MF ME 0,MF ME 0,MF ME 0,MF ME 0] 224)).setCells w.heap.size 0 (WR a)) w.heap.size a/\MQ w.heap.size w ((w.alloc (MP #[MF ME 0,MF ME 0,MF ME 0,MF ME 0,MF ME 0,MF ME 0,MF ME 0,MF ME 0,MF ME 0,MF ME 0,MF ME 0,MF ME 0] 224)).setCells w.heap.size 0 (WR a)):=by
 rw[ang];have h:Xj 224 12 (w.alloc (MP (WR (Nj 12 0)).toArray 224)) w.heap.size (Nj 12 0):=Xj.new w _ _;have c:MQ w.heap.size w (w.alloc (MP (WR (Nj 12 0)).toArray 224)):=(MY _ _).alloc (MV _) _;exact⟨h.GB,(h.Hq (P:=MK) (b:=a) ha Zx).2,adF c (MV _) _ _ c.size⟩
theorem atr(v:M7)(l:List Tm)(w:MO)(hv:Xz w v l) :
  Ni MK 117 #[Ny #[v]] w fun r w'=>∃e:Int,r=MN (MF ME e)/\(Yd l->e=0)/\(¬Yd l->e=6)/\MQ w.heap.size w w':=by
 obtain⟨p,c,rfl,_⟩:=hv.F6;have G:M6 _:=hv;clear hv;go_enter Tryz.func117,Tryz.ntmps117
 go_wp2_with fail
 have i:MQ w.heap.size w (w.alloc (MP #[MG p l.length c] 50)):=(MY _ _).alloc (MV _) _;refine(agL _ l _ (G.out.below i)).mono ?_;rintro r f ⟨a,b,rfl,u,s,F,y⟩;obtain⟨z,A,q⟩:=agz f a u;have m:=i.trans (y.mono i.size);obtain⟨E,o⟩:∃E,E=(f.alloc (MP #[MF ME 0,MF ME 0,MF ME 0,MF ME 0,MF ME 0,MF ME 0,MF ME 0,MF ME 0,MF ME 0,MF ME 0,MF ME 0,MF ME 0] 224)).setCells f.heap.size 0 (WR a):=⟨_,rfl⟩;rw[<-o]at A q;have x:=m.trans (q.mono m.size);have j:(WR a).toArray.size=12:=by simp[Zv,u]
 have C:(f.alloc (MP #[MF ME 0,MF ME 0,MF ME 0,MF ME 0,MF ME 0,MF ME 0,MF ME 0,MF ME 0,MF ME 0,MF ME 0,MF ME 0,MF ME 0] 224)).there f.heap.size 0 (WR a).toArray.size:=by rw[j];exact z
 have D:(Tryz.prog.info? 224).map (·.size)=MI (WR a).toArray.size:=by rw[Zx,j]
 have d:M6 (_/\_/\_/\_/\_/\_):=⟨C,D,OE (ac1 a),o,s,x⟩;clear C D z A q i y m o s F x j;cases b
 all_goals
  go_wp2_with ((with_reducible refine OW rfl 224 (O6 3) (O6 8) rfl f.heap.size 0 (WR a).toArray ?hx ?hy ?ht ?hi ?h1 ?_);(case hx=>rfl);(case hy=>rfl);(case ht=>exact d.out.1);(case hi=>exact d.out.2.1);(case h1=>exact d.out.2.2.1);rw[NS,<-d.out.2.2.2.1])
  go_ret
 ·exact⟨6,rfl,fun h=>PP (d.out.2.2.2.2.1.2 h),fun _=>rfl,d.out.2.2.2.2.2⟩
 ·exact⟨0,rfl,fun _=>rfl,fun h=>absurd (d.out.2.2.2.2.1.1 trivial) h,d.out.2.2.2.2.2⟩
theorem am2(b:Nat):∀k,k<=32->(ZJ b k).Nodup
 |0,_=>by simp[ZJ]
 |k+1,h=>by
  rw[aiT,Qv];refine⟨am2 b k (by omega),by simp,fun x hx y hy e=>?_⟩;rw[PY]at hy;obtain⟨i,d,rfl⟩:=aiK.1 hx;rw[hy]at e;have c:aaA b i=aaA b k:=by
   have:=congrArg Prod.fst e;simp only at this;exact Int.ofNat.inj this
  have:=(aub b i k (by omega) (by omega)).1 c;omega
theorem amU{a:List Int}(ha:XI a):∀n,(YZ a n).Nodup
 |0=>by simp[YZ]
 |n+1=>by
  rw[YZ,Qv];have d:=ha.Hw n;refine⟨amU ha n,am2 n _ (by omega),fun x hx y hy e=>?_⟩;obtain⟨b,i,c,_,rfl⟩:=aiJ.1 hx;obtain⟨j,_,rfl⟩:=aiK.1 hy;have:=congrArg Prod.snd e;simp only at this;omega
theorem ac2{a b:M7}{T:NU}(h:w.heap[g]?=MI (MP #[a] T (0,0))):(w.setCell ⟨g,0,MH⟩ b).heap[g]?=MI (MP #[b] T (0,0)):=by
 rw[Sort.setCell_eq];unfold Th;simp[Qp,h,Sort.onCells]
theorem XI.F4{a:List Int}(h:XI a)(j:Nat)(k:Int)(h0:0<=k)(h8:k<=8):XI (a.set j k):=by
 have e:∀b,(a.set j k).getD b 0=a.getD b 0\/(a.set j k).getD b 0=k:=fun b=>by
  rw[NK,NK]
  by_cases hb:j=b
  ·subst hb
   by_cases hl:j<a.length
   ·right;rw[N7 hl];rfl
   ·left;rw[Nz (by rw[NA];omega),Nz (by omega)]
  ·left;rw[N3 hb]
 refine⟨by rw[NA];exact h.len,fun b=>?_,fun b=>?_⟩
 ·rcases e b with e|e <;> rw[e]
  ·exact h.low b
  ·exact h0
 ·rcases e b with e|e <;> rw[e]
  ·exact h.high b
  ·exact h8
theorem Yd.wts(h:Yd l):XI (Xt l):=aiV fun b hb=>aiP h b hb
def atj(l:List Tm)(n k:Int)(w:MO)(r:Ending)(w':MO):Prop:=∃(y:M7) (e:Int),r=MN (Nv #[Ny #[y],MF ME e])/\MQ w.heap.size w w' /\
 ((¬Yd l/\e=6/\y=MG MH 0 0)\/(Yd l/\¬((0<=n/\n<12)/\(1<=k/\k<=8))/\e=2/\y=MG MH 0 0)\/(Yd l/\((0<=n/\n<12)/\(1<=k/\k<=8))/\0<(Xt l).getD n.toNat 0/\e=7/\y=MG MH 0 0) \/
  (Yd l/\((0<=n/\n<12)/\(1<=k/\k<=8))/\¬0<(Xt l).getD n.toNat 0/\e=0/\w'.ownsRow w.heap.size 153 2 y (WW ((Xt l).set n.toNat k)).length (WP (WW ((Xt l).set n.toNat k)))))
theorem atm(v:M7)(l:List Tm)(n k:Int)(w:MO)(hv:Xz w v l) :
  Ni MK 153 #[Ny #[v],MF ME n,MF ME k] w (atj l n k w):=by
 obtain⟨p,c,rfl,_⟩:=hv.F6;have HV:M6 _:=hv;clear hv;go_enter Tryz.func153,Tryz.ntmps153
 go_wp2_with fail
 obtain⟨D,x⟩:∃D,D=(w.alloc (MP #[MG p l.length c] 50)).alloc (MP #[MG MH 0 0] 50):=⟨_,rfl⟩;rw[<-x];have N:MQ w.heap.size w D:=by rw[x];exact((MY _ _).alloc (MV _) _).alloc (by simp) _
 have c6:D.heap[w.heap.size+1]?=MI (MP #[MG MH 0 0] 50 (0,0)):=by rw[x];exact Yu _ _ _
 have f8:D.heap.size=w.heap.size+2:=by rw[x];simp
 refine(agL _ l _ (HV.out.below N)).mono ?_;rintro r e ⟨a,b,rfl,s,a7,ha,M⟩;obtain⟨f1,f2,O⟩:=agz e a s;have V:=N.trans (M.mono N.size);obtain⟨W5,U⟩:∃W5,W5=(e.alloc (MP #[MF ME 0,MF ME 0,MF ME 0,MF ME 0,MF ME 0,MF ME 0,MF ME 0,MF ME 0,MF ME 0,MF ME 0,MF ME 0,MF ME 0] 224)).setCells e.heap.size 0 (WR a):=⟨_,rfl⟩;rw[<-U]at f2 O;have b5:=V.trans (O.mono V.size);have K:=WO (WO c6 M) O;have d9:=Xu K;have f0:W5.frozen? ⟨w.heap.size+1,0,MH⟩=false:=by simp[Ng,K]
 have Y:(WR a).toArray.size=12:=by simp[Zv,s]
 have e7:=M.size;have k1:(e.alloc (MP #[MF ME 0,MF ME 0,MF ME 0,MF ME 0,MF ME 0,MF ME 0,MF ME 0,MF ME 0,MF ME 0,MF ME 0,MF ME 0,MF ME 0] 224)).there e.heap.size 0 (WR a).toArray.size:=by rw[Y];exact f1
 have k2:(Tryz.prog.info? 224).map (·.size)=MI (WR a).toArray.size:=by rw[Zx,Y]
 have o:M6 (_/\_/\_/\_):=⟨k1,k2,OE (ac1 a),U⟩;have d:M6 (_/\_/\_):=⟨f2,b5,K⟩;have c8:Yd l\/¬Yd l:=Classical.em _;have F:M6 (_/\_):=⟨a7,ha⟩;clear k1 k2 f1 f2 O N M V U a7 ha b5 Y c6 K x c8;cases b
 ·have c4:¬Yd l:=fun h=>PP (F.out.1.2 h)
  have f:M6 _:=c4;clear c4 F
  go_wp2_with ((with_reducible refine OW rfl 224 (O6 8) (O6 13) rfl e.heap.size 0 (WR a).toArray ?hx ?hy ?ht ?hi ?h1 ?_);(case hx=>rfl);(case hy=>rfl);(case ht=>exact o.out.1);(case hi=>exact o.out.2.1);(case h1=>exact o.out.2.2.1);rw[NS,<-o.out.2.2.2])
  refine Np (v:=Nv #[Ny #[MG MH 0 0],MF ME 6]) (XT ax6 rfl rfl (Xp (P:=MK) (cs:=[MG MH 0 0]) (ac2 d.out.2.2) axV rfl (by kernel_rfl))) rfl ⟨_,_,rfl,d.out.2.1.setCell (by simp) _,Nt ⟨f.out,rfl,rfl⟩⟩
 ·have f:M6 (Yd l/\a=Xt l):=⟨F.out.1.1 rfl,F.out.2 rfl⟩
  clear F
  go_wp2_with ((with_reducible refine OW rfl 224 (O6 8) (O6 13) rfl e.heap.size 0 (WR a).toArray ?hx ?hy ?ht ?hi ?h1 ?_);(case hx=>rfl);(case hy=>rfl);(case ht=>exact o.out.1);(case hi=>exact o.out.2.1);(case h1=>exact o.out.2.2.1);rw[NS,<-o.out.2.2.2])
  refine(agB n _).mono ?_
  by_cases hn:0<=n/\n<12
  ·have A:Nn (0<=n/\n<12)=true:=Nq hn
   rw[A];rintro r w6 ⟨rfl,rfl⟩;clear A
   go_wp2_with fail
   refine(atK k _).mono ?_
   by_cases hk:1<=k/\k<=8
   ·have C:Nn (1<=k/\k<=8)=true:=Nq hk
    rw[C];rintro r w7 ⟨rfl,rfl⟩;have Q:M6 ((0<=n/\n<12)/\(1<=k/\k<=8)):=⟨hn,hk⟩;have b9:(Tryz.prog.info? 224).map (·.size)=MI (WR a).length:=by rw[Zx,Zv,s]
    have HG:M6 _:=b9;clear b9;clear C hk
    go_wp2_with ((with_reducible refine O3 rfl 224 (O6 8) rfl e.heap.size 0 ?gx (WR a) _ ?gc axR ?gd ?gi ?_);(case gx=>rfl);(case gc=>exact d.out.1.Gq);(case gd=>rfl);(case gi=>exact HG.out))
    refine(agA a n _ s).mono ?_
    by_cases hp:0<a.getD n.toNat 0
    ·have z:Nn (0<=n/\n<12/\0<a.getD n.toNat 0)=true:=Nq ⟨hn.1,hn.2,hp⟩
     rw[z];rintro r w8 ⟨rfl,i⟩;have q:=WO d.out.2.2 i;have e8:=Xu q;have d7:w8.frozen? ⟨w.heap.size+1,0,MH⟩=false:=by simp[Ng,q]
     have HB:M6 (_/\_/\_):=⟨d.out.1.below i,d.out.2.1.trans (i.mono d.out.2.1.size),q⟩;have HP:M6 _:=hp;clear z hp i q;go_wp2;refine Np (v:=Nv #[Ny #[MG MH 0 0],MF ME 7]) (XT ax6 rfl rfl (Xp (P:=MK) (cs:=[MG MH 0 0]) (ac2 HB.out.2.2) axV rfl (by kernel_rfl))) rfl ⟨_,_,rfl,HB.out.2.1.setCell (by simp) _,NF (NF (Nt ⟨f.out.1,Q.out,by rw[<-f.out.2];exact HP.out,rfl,rfl⟩))⟩
    ·have z:Nn (0<=n/\n<12/\0<a.getD n.toNat 0)=false:=M0 fun h=>hp h.2.2
     rw[z];rintro r w8 ⟨rfl,i⟩;obtain⟨j,rfl⟩:=NL hn.1;have hj:j<12:=by omega
     have d8:(j:Int)<12:=by omega
     have L:=d.out.1.below i;have d6:=L.F7 j (by omega);have f7:=L.Gu j;have a8:=d.out.2.1.trans (i.mono d.out.2.1.size);have q:=WO d.out.2.2 i;have e6:=i.size;obtain⟨G,u⟩:∃G,G=w8.setCell ⟨e.heap.size,j,MH⟩ (MF ME k):=⟨_,rfl⟩;have b8:Xj 224 12 G e.heap.size (a.set j k):=by rw[u];exact L.F4 j k
     have c7:MQ w.heap.size w G:=by rw[u];exact a8.setCell (by simp;omega) _
     have b3:G.heap[w.heap.size+1]?=MI (MP #[MG MH 0 0] 50 (0,0)):=by rw[u,MU _ _ _ _ (by simp;omega)];exact q
     have b6:(Tryz.prog.info? 224).map (·.size)=MI (WR (a.set j k)).length:=by rw[Zx,Zv,NA,s]
     have c3:XI (a.set j k):=by rw[f.out.2];exact f.out.1.wts.F4 j k (by have:=Q.out.2;omega) (by have:=Q.out.2;omega)
     have b4:¬0<a.getD j 0:=by simpa using hp
     have m:M6 (_/\_/\_/\_/\_/\_/\_):=⟨b8,c7,b3,b6,c3,u,b4⟩;clear b8 c7 b3 b6 c3 u b4 hp z L a8 q i
     go_wp2_with ((with_reducible refine O3 rfl 224 (O6 8) rfl e.heap.size 0 ?jx (WR (a.set j k)) _ ?jc axR ?jd ?ji ?_);(case jx=>rfl);(case jc=>rw[<-m.out.2.2.2.2.2.1];exact m.out.1.Gq);(case jd=>rfl);(case ji=>exact m.out.2.2.2.1);rw[<-m.out.2.2.2.2.2.1])
     refine(am3 (a.set j k) _ m.out.2.2.2.2.1).mono ?_;rintro r b7 ⟨y,rfl,J,R⟩;obtain⟨H,E,rfl⟩:=Y6 J;have I:=WO m.out.2.2.1 R;have d4:=Xu I;have d3:b7.frozen? ⟨w.heap.size+1,0,MH⟩=false:=by simp[Ng,I]
     have a2:=(m.out.2.1.trans (R.mono m.out.2.1.size)).setCell (p:=⟨w.heap.size+1,0,MH⟩) (by simp) (MG H (WW (a.set j k)).length E);have e9:=m.out.1.lt;have a6:(b7.setCell ⟨w.heap.size+1,0,MH⟩ (MG H (WW (a.set j k)).length E)).ownsRow w.heap.size 153 2 (MG H (WW (a.set j k)).length E) (WW (a.set j k)).length (WP (WW (a.set j k))):=
      (W8 J (fun g hg=>MU _ _ _ _ (by have:=(J.lt g hg).1;simp;omega))).mono (by omega)
     have Z:M6 (_/\_/\_):=⟨I,a2,a6⟩;clear I a2 a6 J R;go_wp2;refine Np (v:=Nv #[Ny #[MG H (WW (a.set j k)).length E],MF ME 0]) (XT ax6 rfl rfl (Xp (P:=MK) (cs:=[MG H (WW (a.set j k)).length E]) (ac2 Z.out.1) axV rfl (by kernel_rfl))) rfl ⟨_,_,rfl,Z.out.2.1,NF (NF (NF ⟨f.out.1,Q.out,by rw[<-f.out.2];simpa using m.out.2.2.2.2.2.2,rfl,by rw[<-f.out.2];simpa using Z.out.2.2⟩))⟩
   ·have C:Nn (1<=k/\k<=8)=false:=M0 hk
    rw[C];rintro r w7 ⟨rfl,rfl⟩;have S:M6 _:=hk;clear C hk;go_wp2;refine Np (v:=Nv #[Ny #[MG MH 0 0],MF ME 2]) (XT ax6 rfl rfl (Xp (P:=MK) (cs:=[MG MH 0 0]) (ac2 d.out.2.2) axV rfl (by kernel_rfl))) rfl ⟨_,_,rfl,d.out.2.1.setCell (by simp) _,NF (Nt ⟨f.out.1,fun h=>S.out h.2,rfl,rfl⟩)⟩
  ·have A:Nn (0<=n/\n<12)=false:=M0 hn
   rw[A];rintro r w6 ⟨rfl,rfl⟩;have S:M6 _:=hn;clear A hn;go_wp2;refine Np (v:=Nv #[Ny #[MG MH 0 0],MF ME 2]) (XT ax6 rfl rfl (Xp (P:=MK) (cs:=[MG MH 0 0]) (ac2 d.out.2.2) axV rfl (by kernel_rfl))) rfl ⟨_,_,rfl,d.out.2.1.setCell (by simp) _,NF (Nt ⟨f.out.1,fun h=>S.out h.1,rfl,rfl⟩)⟩
theorem amX(h:Yd l):l.length<=384:=by
 obtain⟨a,c,rfl⟩:=h;exact aiU c
def atk(l:List Tm)(n:Int)(w:MO)(r:Ending)(w':MO):Prop:=∃(y:M7) (e:Int),r=MN (Nv #[Ny #[y],MF ME e])/\MQ w.heap.size w w' /\
 ((¬Yd l/\e=6/\y=MG MH 0 0)\/(Yd l/\¬((0<=n/\n<12)/\0<(Xt l).getD n.toNat 0)/\e=8/\y=MG MH 0 0) \/
  (Yd l/\((0<=n/\n<12)/\0<(Xt l).getD n.toNat 0)/\e=0/\w'.ownsRow w.heap.size 153 2 y (WW ((Xt l).set n.toNat 0)).length (WP (WW ((Xt l).set n.toNat 0)))))
theorem Xj.at{T:NU}{a:List Int}(h:Xj T 12 w g a)(j:Nat)(hj:j<12):w.cell? ⟨g,j,MH⟩=MI (MF ME (a.getD j 0)):=by
 have c:j<a.length:=by rw[h.2];exact hj
 rw[h.F7 j c,NK,MR c];rfl
theorem Xz.Ga(h:Xz w v l):∃p c,v=MG p l.length c:=by
 obtain⟨p,c,e,_⟩:=h.F6;exact⟨p,c,e⟩
def aee(w:MO)(g:Nat)(v:M7)(l:List Tm):Prop:=w.heap[g]?=MI (MP #[v] 50 (0,0))/\Xz w v l
theorem aee.below(h:aee w g v l)(hb:MQ w.heap.size w w'):aee w' g v l:=⟨WO h.1 hb,h.2.below hb⟩
theorem aee.new(h:Xz w v l):aee (w.alloc (MP #[v] 50)) w.heap.size v l:=⟨M1 _ _,h.below ((MY _ _).alloc (MV _) _)⟩
theorem aee.F7(h:aee w g v l):w.cell? ⟨g,0,MH⟩=MI v:=Xu h.1
theorem aee.lt(h:aee w g v l):g<w.heap.size:=(Array.getElem?_eq_some_iff.1 h.1).1
theorem agw(w:MO)(o:Obj):MQ w.heap.size w (w.alloc o):=(MY _ _).alloc (MV _) _
theorem aus(W:MO):(zeroValue 153).run MK W=.ok (Ny #[MF ME 0,MF ME 0]) W:=by kernel_rfl
theorem atA(base g c:Nat)(l:List Tm)(id:Int)(gid:Nat)(w:MO)(hown:w.ownsRow base 153 2 (MG (MI ⟨g,0,MH⟩) l.length c) l.length (WP l))(h:w.cell? ⟨gid,0,MH⟩=MI (MF ME id))(hne:gid≠g)(hex:∃t∈l,t.2=id) :
  Ni MK 149 #[MG (MI ⟨g,0,MH⟩) l.length c,PB (PD 150) #[] #[Na (MI ⟨gid,0,MH⟩)]] w fun r w'=>r=MN (MG (MI ⟨g,0,MH⟩) (kp l id).length c)/\w'.ownsRow base 153 2 (MG (MI ⟨g,0,MH⟩) (kp l id).length c) (kp l id).length (WP (kp l id))/\w.grownBy w' (MI g):=by
 have Q:=atJ _ l id gid w (Yr hown) h hex;have b4:=MX w ⟨gid,0,MH⟩ h;have b3:l.length<=c/\c<=maxLen:=by
  obtain⟨_,c',he,hc,hm,_⟩:=Yr hown;cases he;exact⟨hc,hm⟩
 obtain⟨d9,b8⟩:=b3;unfold NE at b8;have L:M6 (_/\_/\_):=⟨Q,hown,h⟩;clear Q hown h hex;go_enter Ue,T4
 go_wp2_with fail
 refine L.out.1.mono ?_;rintro r w1 ⟨k,hk,rfl,M,N,u⟩;have s:kp (l.take k) id=l.take k:=aiI N;have J:=afh (junk:=[]) hk M;have H1:M6 (_/\_/\_/\_):=⟨u,s,J.1,J.2⟩;have d6:((k:Int) == -1)=false:=by
  rw[Oh];omega
 clear u s J M N;go_wp2
 go_loopw [5,6] (fun s5 s6 wr=>∃(j:Nat) (junk:List Tm),s5=MF ME ((kp (l.take j) id).length:Nat)/\s6=MF ME j/\j<=l.length/\(kp (l.take j) id).length+junk.length=j/\junk≠[]/\wr.ownsRow base 153 2 (MG (MI ⟨g,0,MH⟩) l.length c) l.length (WP (XE l id junk j))/\w.grownBy wr (MI g)) (fun _ s6 _=>l.length-(intOf s6).toNat)
 case atStart =>
  obtain⟨u,s,b5,b7⟩:=H1.out;have e0:XE l id [l[k]] (k+1)=l:=by
   have:XE l id ([]++[l[k]]) (k+1)=XE l id [] k:=b5;rw[Oz]at this;rw[this];unfold XE;rw[s,OG,Oo]
  have A:(kp (l.take (k+1)) id).length=k:=by rw[b7,s,NH];omega
  refine⟨k+1,[l[k]],by rw[A],by simp,hk,by rw[A];rfl,by simp,?_,aiH u⟩;rw[e0];exact agD L.out.2.1 u
 case round =>
  obtain⟨j,junk,rfl,rfl,hj,a6,V,d,m⟩:=hrel;have b6:=aiM hj a6;have D:wr.cell? ⟨gid,0,MH⟩=MI (MF ME id):=m.cell L.out.2.2 (by simpa using hne);obtain⟨x,f,rfl⟩:∃x f,junk=x::f:=by
   cases junk with
   |nil=>exact absurd rfl V
   |cons x r=>exact⟨x,r,rfl⟩
  rw[Ox]at a6;have a7:gid<wr.heap.size:=M8 b4 m.size;have d7:=(d.lt g rfl).2;generalize e:(kp (l.take j) id).length=i at *
  by_cases hlt:j<l.length
  ·have a2:=aiL (id:=id) (junk:=x::f) hlt (by rw[e,Ox];omega)
   obtain⟨R,O⟩:=List.getElem?_eq_some_iff.1 a2
   have y:=aaT (XE l id (x::f) j) j R;rw[O]at y;have f1:=(d.cellAt (j*2) (by omega)).trans y.1;have f2:=(d.cellAt (j*2+1) (by omega)).trans y.2;have H:=aaT (XE l id (x::f) j) i (by omega);have f3:=(d.cellAt (i*2) (by omega)).trans H.1;have f4:=(d.cellAt (i*2+1) (by omega)).trans H.2;have f5:=d.frozenAt (i*2);have f6:=d.frozenAt (i*2+1);obtain⟨q,G⟩:∃q,q=l[j].1:=⟨_,rfl⟩;obtain⟨o,I⟩:∃o,o=l[j].2:=⟨_,rfl⟩;rw[<-G]at f1;rw[<-I]at f2;generalize ((XE l id (x::f) j)[i]'(by omega)).1=oa at f3;generalize ((XE l id (x::f) j)[i]'(by omega)).2=od at f4;have p:l[j]=(q,o):=by rw[G,I]
   have z:M6 (_/\_/\_/\_/\_):=⟨d,m,D,p,e⟩;have d4:(j:Int)<(l.length:Int):=by omega
   have b9:(i:Int)<(l.length:Int):=by omega
   have c8:i<j:=by omega
   have e6:i<l.length:=by omega
   clear d m D a2 O y H G I p R e V;have Y:((wr.alloc (MP #[MF ME q,MF ME o] 153))).cell? ⟨gid,0,MH⟩=MI (MF ME id):=by
    rw[NG (a:=⟨gid,0,MH⟩) (Ov wr _ gid a7)];exact z.out.2.2.1
   have Z:M6 _:=Y;clear Y;cases hd:Nn (o=id)
   ·go_wp2_with fail
    refine(agy q o id gid _ Z.out).mono ?_;rw[hd];rintro r w2 ⟨rfl,rfl⟩;go_wp2
    go_roundw
    case rel =>
     obtain⟨d,m,D,p,e⟩:=z.out;have a8:l[j].2≠id:=by rw[p];exact Nc hd
     obtain⟨E,C⟩:=aiN (x:=x) (junk:=f) hlt a8;have S:=d.stored (i*2) (MF ME q);have K:=S.1.stored (i*2+1) (MF ME o);have c4:=afj (XE l id (x::f) j) i (q,o);rw[c4]at K;rw[e,p]at E;refine⟨j+1,f++[l[j]],by rw[C,Ns,e];simp,by simp,hlt,by rw[C,Ns,e];simp;omega,by simp,?_,?_⟩
     ·rw[p,E];exact(K.1.alloc _).alloc _
     ·exact(((m.trans S.2).trans K.2).trans (OL _ _ _)).trans (OL _ _ _)
    case measure=>simp[intOf];omega
   ·go_wp2_with fail
    refine(agy q o id gid _ Z.out).mono ?_;rw[hd];rintro r w2 ⟨rfl,rfl⟩;go_wp2
    go_roundw
    case rel =>
     obtain⟨d,m,D,p,e⟩:=z.out;have c3:l[j].2=id:=by rw[p];exact M2 hd
     obtain⟨E,C⟩:=afh (junk:=x::f) hlt c3;refine⟨j+1,x::f++[l[j]],by rw[C,e],by simp,hlt,by rw[C,e];simp;omega,by simp,?_,?_⟩
     ·rw[E];exact(d.alloc _).alloc _
     ·exact(m.trans (OL _ _ _)).trans (OL _ _ _)
    case measure=>simp[intOf];omega
  ·obtain rfl:j=l.length:=by omega
   have d3:i<l.length:=by omega
   obtain⟨vs,d8⟩:=aiR (P:=MK) wr 48 153 0 (MF ME 0) (MF ME 0) ax1 aus rfl rfl g (i*2) (l.length-i) (c-i) (by omega) (fun t y=>by
    have h1:=d.cellAt (i*2+t) (by omega);rw[h1,MR (by rw[YE,b6];omega)];rfl) (fun t _=>d.frozenAt _)
   have F:=aeh vs (i*2) wr (agE d (i:=i) (by omega)) (MV _);have A:(WP (XE l id (x::f) l.length)).take (i*2)=WP (kp l id):=by
    have e2:kp (l.take l.length) id=kp l id:=by rw[NT]
    rw[e2]at e;rw[ac4];unfold XE;rw[e2,OC,ZqA (by omega),<-e,NT]
   rw[A]at F;have U:(kp l id).length=i:=by rw[<-e,NT]
   have z:M6 (_/\_/\_):=⟨F,m,U⟩;have b9:(i:Int)<(l.length:Int):=by omega
   have c7:(i:Int)<=(c:Int):=by omega
   have c6:c≠i:=by omega
   clear F m d e A U;go_wp2;go_ret;obtain⟨r1,r2,r3⟩:=z.out;rw[r3];exact⟨rfl,r1.1,r2.trans r1.2⟩
theorem agH{a:List Int}(ha:XI a):(WW a).Pairwise (fun x y=>Xe x y<0):=at5 (amU ha 12)
theorem ane{a:List Int}(n b:Nat)(x:Int)(hn:n<a.length):wt (a.set n x) b=if b=n then x.toNat else wt a b:=by
 unfold wt
 by_cases h:b=n
 ·subst h
  rw[Nh rfl];simp[NK,N7 hn]
 ·rw[Nf h]
  simp[NK,N3 (Pi h)]
theorem atP{a:List Int}(ha:XI a)(n:Nat)(hn:n<12):kp (WW a) (n:Int)=WW (a.set n 0):=by
 have d:=ha.F4 n 0 (by omega) (by omega);refine am0 ((agH ha).filter _) (agH d) fun t=>?_
 unfold kp;rw[List.mem_filter,afg,afg];constructor
 ·rintro⟨⟨b,i,hb,hi,rfl⟩,hne⟩
  have c:b≠n:=fun e=>by subst e;simp at hne
  refine⟨b,i,hb,?_,rfl⟩;rw[ane n b 0 (by rw[ha.len];exact hn),Nf c];exact hi
 ·rintro⟨b,i,hb,hi,rfl⟩
  rw[ane n b 0 (by rw[ha.len];exact hn)]at hi
  by_cases c:b=n
  ·rw[Nh c]at hi
   simp at hi
  ·rw[Nf c]at hi
   refine⟨⟨b,i,hb,hi,rfl⟩,?_⟩;simp;omega
theorem Yd.eq(h:Yd l):l=WW (Xt l):=(amW fun b hb=>aiP h b hb).1 h
theorem atO(h:Yd l)(n:Nat)(hn:n<12):kp l (n:Int)=WW ((Xt l).set n 0):=by
 have:=atP h.wts n hn;rwa[<-h.eq]at this
theorem atH(h:Yd l)(n:Nat)(hn:n<12)(hp:0<(Xt l).getD n 0):∃t∈l,t.2=(n:Int):=by
 refine⟨(((aaA n 0:Nat):Int),(n:Int)),?_,rfl⟩;rw[h.eq];refine afg.2 ⟨n,0,hn,?_,rfl⟩;unfold wt;omega
theorem ats(v:M7)(l:List Tm)(w:MO)(hv:Xz w v l)(h0:0<l.length)(hl:l.length<=1048576) :
  Ni MK 80 #[v] w fun r w'=>∃g c,r=MN (MG (MI ⟨g,0,MH⟩) l.length c)/\w'.ownsRow w.heap.size 153 2 (MG (MI ⟨g,0,MH⟩) l.length c) l.length (WP l)/\MQ w.heap.size w w':=by
 obtain⟨a,o,rfl,K,L,h⟩:=hv;rcases h with⟨h,_⟩|⟨b,d,rfl,z,i⟩
 ·omega
 ·obtain⟨A,E,q,s,y⟩:=OF amP
  have m:∀j u,(WP l)[j]?=MI u->(w.alloc (MP #[] 153)).cell? ((⟨b,d,MH⟩:Oc).add j)=MI u:=fun j u hu=>by
   have C:=(List.getElem?_eq_some_iff.1 hu).1;rw[aas,(YF w).cell (p:=⟨b,d+j,MH⟩) z,i j C,hu]
  have D:M6 _:=m;have I:∀W,(binOp .eql 48 (MG (MI ⟨b,d,MH⟩) l.length o) (MG MH 0 0)).run MK W=.ok (M3 Nb) W:=fun W=>by kernel_rfl
  clear m i;go_enter Tryz.func80,Tryz.ntmps80
  go_wp2_with (first|(at_builtin;refine O9 _ rfl _ _ 48 rfl w.heap.size 153 A _ 2 16 ax1 E q s y rfl (by decide) (MG (MI ⟨w.heap.size,0,MH⟩) 0 0) 0 [] rfl (ai9 (M1 _ _) (MV _)) ⟨b,d,MH⟩ l.length o (WP l) rfl (YE l) D.out (abJ l) h0 (by unfold NE;omega) (by omega) (by simp) _ rfl ?_;intro G F M f x H J))
  go_wp2;go_ret;refine⟨G,F,by simp,?_,?_⟩
  ·rw[Oa,Oz]at f
   exact f
  ·exact(YF w).grown x (by simp) (fun j e=>by cases e;exact MV _)
theorem at0(v:M7)(l:List Tm)(n:Int)(w:MO)(hv:Xz w v l) :
  Ni MK 104 #[Ny #[v],MF ME n] w (atk l n w):=by
 obtain⟨p,c,rfl,_⟩:=hv.F6;have HV:M6 _:=hv;clear hv;go_enter Tryz.func104,Tryz.ntmps104
 go_wp2_with fail
 obtain⟨y,x⟩:∃y,y=((w.alloc (MP #[MG p l.length c] 50)).alloc (MP #[MF ME n] 3)).alloc (MP #[MG MH 0 0] 50):=⟨_,rfl⟩;rw[<-x];have L:MQ w.heap.size w y:=by rw[x];exact(((MY _ _).alloc (MV _) _).alloc (by simp) _).alloc (by simp;omega) _
 have b9:y.heap[w.heap.size]?=MI (MP #[MG p l.length c] 50 (0,0)):=by rw[x];exact Xy _ _ (Xy _ _ (M1 _ _))
 have d4:y.heap[w.heap.size+1]?=MI (MP #[MF ME n] 3 (0,0)):=by rw[x];exact Xy _ _ (Yu _ _ _)
 have d3:y.heap[w.heap.size+1+1]?=MI (MP #[MG MH 0 0] 50 (0,0)):=by rw[x];have:=M1 ((w.alloc (MP #[MG p l.length c] 50)).alloc (MP #[MF ME n] 3)) (MP #[MG MH 0 0] 50);simpa using this
 have g3:y.heap.size=w.heap.size+3:=by rw[x];simp
 refine(agL _ l _ (HV.out.below L)).mono ?_;rintro r u ⟨a,b,rfl,I,b5,ha,z⟩;obtain⟨f1,f2,C⟩:=agz u a I;have a6:=L.trans (z.mono L.size);obtain⟨W5,a2⟩:∃W5,W5=(u.alloc (MP #[MF ME 0,MF ME 0,MF ME 0,MF ME 0,MF ME 0,MF ME 0,MF ME 0,MF ME 0,MF ME 0,MF ME 0,MF ME 0,MF ME 0] 224)).setCells u.heap.size 0 (WR a):=⟨_,rfl⟩;rw[<-a2]at f2 C;have c3:=a6.trans (C.mono a6.size);have J:=WO (WO d3 z) C;have Y:=WO (WO d4 z) C;have c7:=WO (WO b9 z) C;have d9:=Xu J;have d7:=Xu Y;have e7:W5.frozen? ⟨w.heap.size+1+1,0,MH⟩=false:=by simp[Ng,J]
 have b3:(WR a).toArray.size=12:=by simp[Zv,I]
 have f9:=z.size;have k1:(u.alloc (MP #[MF ME 0,MF ME 0,MF ME 0,MF ME 0,MF ME 0,MF ME 0,MF ME 0,MF ME 0,MF ME 0,MF ME 0,MF ME 0,MF ME 0] 224)).there u.heap.size 0 (WR a).toArray.size:=by rw[b3];exact f1
 have k2:(Tryz.prog.info? 224).map (·.size)=MI (WR a).toArray.size:=by rw[Zx,b3]
 have c6:(Tryz.prog.info? 224).map (·.size)=MI (WR a).length:=by rw[Zx,Zv,I]
 have f:M6 (_/\_/\_/\_/\_):=⟨k1,k2,OE (ac1 a),a2,c6⟩;have d:M6 (_/\_/\_/\_/\_):=⟨f2,c3,J,Y,c7⟩;have G:M6 (_/\_):=⟨b5,ha⟩;clear k1 k2 f1 f2 C L z a6 a2 b5 ha c3 b3 d3 J x Y c7 b9 d4 c6;cases b
 ·have c8:¬Yd l:=fun h=>PP (G.out.1.2 h)
  have q:M6 _:=c8;clear c8 G
  go_wp2_with ((with_reducible refine OW rfl 224 (O6 6) (O6 12) rfl u.heap.size 0 (WR a).toArray ?hx ?hy ?ht ?hi ?h1 ?_);(case hx=>rfl);(case hy=>rfl);(case ht=>exact f.out.1);(case hi=>exact f.out.2.1);(case h1=>exact f.out.2.2.1);rw[NS,<-f.out.2.2.2.1])
  refine Np (v:=Nv #[Ny #[MG MH 0 0],MF ME 6]) (XT ayC rfl rfl (Xp (P:=MK) (cs:=[MG MH 0 0]) (ac2 d.out.2.2.1) axV rfl (by kernel_rfl))) rfl ⟨_,_,rfl,d.out.2.1.setCell (by simp;omega) _,Nt ⟨q.out,rfl,rfl⟩⟩
 ·have q:M6 (Yd l/\a=Xt l):=⟨G.out.1.1 rfl,G.out.2 rfl⟩
  clear G
  go_wp2_with (first|((with_reducible refine OW rfl 224 (O6 6) (O6 12) rfl u.heap.size 0 (WR a).toArray ?hx ?hy ?ht ?hi ?h1 ?_);(case hx=>rfl);(case hy=>rfl);(case ht=>exact f.out.1);(case hi=>exact f.out.2.1);(case h1=>exact f.out.2.2.1);rw[NS,<-f.out.2.2.2.1])|((with_reducible refine O3 rfl 224 (O6 6) rfl u.heap.size 0 ?gx (WR a) _ ?gc axR ?gd ?gi ?_);(case gx=>rfl);(case gc=>exact d.out.1.Gq);(case gd=>rfl);(case gi=>exact f.out.2.2.2.2)))
  refine(agA a n _ I).mono ?_
  by_cases hp:(0<=n/\n<12)/\0<a.getD n.toNat 0
  ·have E:Nn (0<=n/\n<12/\0<a.getD n.toNat 0)=true:=Nq ⟨hp.1.1,hp.1.2,hp.2⟩
   rw[E];rintro r w8 ⟨rfl,m⟩;have s:=WO d.out.2.2.1 m;have b8:=WO d.out.2.2.2.1 m;have Z:=WO d.out.2.2.2.2 m;have S:=d.out.2.1.trans (m.mono d.out.2.1.size);have d6:=HV.out.below (amC S (MV _));have d8:=Xu Z;have M:0<(Xt l).getD n.toNat 0:=by rw[<-q.out.2];exact hp.2
   have f8:=(Array.getElem?_eq_some_iff.1 s).1;obtain⟨j,rfl⟩:=NL hp.1.1;have hj:j<12:=by omega
   rw[NR]at M;have a7:=atH q.out.1 j hj M;have e6:0<l.length:=by obtain⟨t,ht,_⟩:=a7;exact Qj ht
   have f7:=amX q.out.1;have F:=atO q.out.1 j hj;have o:M6 (_/\_/\_/\_/\_/\_/\_/\_):=⟨s,b8,Z,S,d6,a7,F,M⟩;clear s b8 Z S d6 a7 F M E m hp f d d9 d7 e7
   go_wp2_with fail
   refine(ats _ l _ o.out.2.2.2.2.1 e6 (by omega)).mono ?_;rintro r w9 ⟨g,A,rfl,a8,N⟩;have b7:=WO o.out.1 N;have c4:=WO o.out.2.1 N;have b6:=o.out.2.2.2.1.trans (N.mono o.out.2.2.2.1.size);have g0:=(a8.lt g rfl).1;have D:M6 (_/\_/\_/\_):=⟨b7,c4,b6,a8⟩;clear b7 c4 b6 a8 N d8
   go_wp2_with fail
   refine(atA _ g A l (j:Int) (w.heap.size+1) _ D.out.2.2.2 (Xu D.out.2.1) (by omega) o.out.2.2.2.2.2.1).mono ?_;rintro r K ⟨rfl,R,U⟩;have H:K.heap[w.heap.size+1+1]?=MI (MP #[MG MH 0 0] 50 (0,0)):=by
    rw[U.block _ (Array.getElem?_eq_some_iff.1 D.out.1).1 (fun e=>by have:=NC e;omega)];exact D.out.1
   have b4:MQ w.heap.size w K:=D.out.2.2.1.grown U D.out.2.2.1.size (fun i e=>by have:=NC e;omega);have e9:=Xu H;have e8:K.frozen? ⟨w.heap.size+1+1,0,MH⟩=false:=by simp[Ng,H]
   have O:=b4.setCell (p:=⟨w.heap.size+1+1,0,MH⟩) (by simp;omega) (MG (MI ⟨g,0,MH⟩) (kp l (j:Int)).length A);have Q:(K.setCell ⟨w.heap.size+1+1,0,MH⟩ (MG (MI ⟨g,0,MH⟩) (kp l (j:Int)).length A)).ownsRow w.heap.size 153 2 (MG (MI ⟨g,0,MH⟩) (kp l (j:Int)).length A) (kp l (j:Int)).length (WP (kp l (j:Int))):=
    (W8 R (fun i hi=>MU _ _ _ _ (by have:=(R.lt i hi).1;simp;omega))).mono (by omega)
   rw[o.out.2.2.2.2.2.2.1]at Q O;have V:M6 (_/\_/\_):=⟨O,Q,H⟩;have F:=o.out.2.2.2.2.2.2.1;rw[F];clear O Q H R b4 U F;go_wp2;refine Np (v:=Nv #[Ny #[MG (MI ⟨g,0,MH⟩) (WW ((Xt l).set j 0)).length A],MF ME 0]) (XT ayC rfl rfl (Xp (P:=MK) (cs:=[MG (MI ⟨g,0,MH⟩) (WW ((Xt l).set j 0)).length A]) (ac2 V.out.2.2) axV rfl (by kernel_rfl))) rfl ⟨_,_,rfl,V.out.1,NF (NF ⟨q.out.1,⟨⟨by omega,by omega⟩,?_⟩,rfl,V.out.2.1⟩)⟩;rw[NR];exact o.out.2.2.2.2.2.2.2
  ·have E:Nn (0<=n/\n<12/\0<a.getD n.toNat 0)=false:=M0 fun h=>hp ⟨⟨h.1,h.2.1⟩,h.2.2⟩
   rw[E];rintro r w8 ⟨rfl,m⟩;have s:=WO d.out.2.2.1 m;have g1:=Xu s;have f0:w8.frozen? ⟨w.heap.size+1+1,0,MH⟩=false:=by simp[Ng,s]
   have HB:M6 (_/\_/\_):=⟨d.out.2.1.trans (m.mono d.out.2.1.size),s,hp⟩;clear E hp m s;go_wp2;refine Np (v:=Nv #[Ny #[MG MH 0 0],MF ME 8]) (XT ayC rfl rfl (Xp (P:=MK) (cs:=[MG MH 0 0]) (ac2 HB.out.2.1) axV rfl (by kernel_rfl))) rfl ⟨_,_,rfl,HB.out.1.setCell (by simp;omega) _,NF (Nt ⟨q.out.1,by rw[<-q.out.2];exact HB.out.2.2,rfl,rfl⟩)⟩
theorem amV(b:Nat):(Nj 12 (0:Int)).getD b 0=0:=by
 rw[NK,Pj]
 split <;> rfl
theorem aiW:XI (Nj 12 0):=⟨by simp,fun b=>by rw[amV];omega,fun b=>by rw[amV];omega⟩
theorem afi{a:List Int}(h:XI a):Yd (WW a):=⟨a,h,rfl⟩
theorem atn(v:M7)(a:List Int)(b:Nat)(k:Int)(w:MO)(ha:XI a)(hv:Xz w v (WW a))(hb:b<12)(hk:1<=k/\k<=8)(h0:¬0<a.getD b 0) :
  Ni MK 153 #[Ny #[v],MF ME (b:Int),MF ME k] w fun r w'=>∃p c,r=MN (Nv #[Ny #[MG p (WW (a.set b k)).length c],MF ME 0])/\w'.ownsRow w.heap.size 153 2 (MG p (WW (a.set b k)).length c) (WW (a.set b k)).length (WP (WW (a.set b k)))/\MQ w.heap.size w w' :=
 (atm v (WW a) (b:Int) k w hv).mono fun r w' h=>by
  obtain⟨y,e,rfl,f,h⟩:=h;rw[agK ha,NR]at h;have i:=afi ha;rcases h with⟨o,_⟩|⟨_,m,_⟩|⟨_,_,j,_⟩|⟨_,_,_,rfl,d⟩
  ·exact absurd i o
  ·exact absurd ⟨⟨by omega,by omega⟩,hk⟩ m
  ·exact absurd j h0
  ·obtain⟨p,c,rfl⟩:=Y6 d
   exact⟨p,c,rfl,d,f⟩
def agI(out:List Int)(t:Tm):List Int:=if t.2∈out then out else out++[t.2]
def amL(m:List Tm):List Int:=m.foldl agI []
def ZP(a:List Int)(out:List Int):List Int:=(Pm 12).map fun(b:Nat)=>if(b:Int)∈out then 0 else a.getD b 0
theorem aff(a out:List Int):(ZP a out).length=12:=by simp[ZP]
theorem atR{a:List Int}(h:a.length=12):ZP a []=a:=by
 apply Ot;intro j
 by_cases hj:j<12
 ·simp[ZP,hj,NK,MR (show j<a.length by omega)]
 ·rw[Nz (by rw[aff];omega),Nz (by omega)]
theorem atQ(a out:List Int)(b:Nat)(hb:b<12):(ZP a out).getD b 0=if(b:Int)∈out then 0 else a.getD b 0:=by
 simp[ZP,hb]
theorem atS(a out:List Int)(b:Nat)(hb:b<12):ZP a (out++[(b:Int)])=(ZP a out).set b 0:=by
 apply Ot;intro j
 by_cases hj:j<12
 ·by_cases h:j=b
  ·subst h
   rw[N7 (by rw[aff];exact hj)];simp[ZP,hj]
  ·rw[N3 (Pi h)]
   have c:¬((j:Int)=(b:Int)):=by omega
   simp[ZP,hj,c]
 ·rw[Nz (by rw[aff];omega),Nz (by rw[NA,aff];omega)]
abbrev acZ(a:List Int)(n:Int):Prop:=0<=n/\n<12/\0<a.getD n.toNat 0
def ab9(a:List Int)(out:List Int)(t:Tm):List Int:=if acZ (ZP a out) t.2 then out++[t.2]else out
def aa5(a:List Int)(m:List Tm):List Int:=m.foldl (ab9 a) []
theorem aum(a:List Int)(m:List Tm)(t:Tm):aa5 a (m++[t])=ab9 a (aa5 a m) t:=by simp[aa5]
theorem aul(a:List Int)(m:List Tm):(aa5 a m).length<=m.length:=by
 have h:∀(m:List Tm) (x:List Int),(m.foldl (ab9 a) x).length<=x.length+m.length:=by
  intro m
  induction m with
  |nil=>intro x;simp
  |cons t m ih =>
   intro x;have c:(ab9 a x t).length<=x.length+1:=by
    unfold ab9
    split
    ·simp
    ·omega
   have:=ih (ab9 a x t);simp only[O4,Ox];omega
 simpa [aa5]using h m []
theorem amO{a:List Int}{n:Int}(h:acZ a n):acZ (ZP a out) n↔n∉ out:=by
 obtain⟨c,f,e⟩:=h;obtain⟨b,rfl⟩:=NL c;have d:b<12:=by omega
 unfold acZ;rw[NR]at *;rw[atQ a out b d]
 by_cases hm:(b:Int)∈out
 ·rw[Nh hm]
  exact⟨fun h=>absurd h.2.2 (by omega),fun h=>absurd hm h⟩
 ·rw[Nf hm]
  exact⟨fun _=>hm,fun _=>⟨c,f,e⟩⟩
theorem auk{a:List Int}{m:List Tm}(h:∀t∈m,acZ a t.2):aa5 a m=amL m:=by
 have d:∀(m:List Tm) (x:List Int),(∀t∈m,acZ a t.2)->m.foldl (ab9 a) x=m.foldl agI x:=by
  intro m
  induction m with
  |nil=>intro x _;rfl
  |cons t m ih =>
   intro x c;have e:ab9 a x t=agI x t:=by
    unfold ab9 agI
    by_cases ht:t.2∈x
    ·rw[Nh ht,Nf (fun h=>(amO (c t (NM ..))).1 h ht)]
    ·rw[Nf ht,Nh ((amO (c t (NM ..))).2 ht)]
   rw[O4,O4,e];exact ih _ fun y hy=>c y (NB _ hy)
 exact d m [] h
theorem at2(h:Yd l):∀t∈l,acZ (Xt l) t.2:=by
 intro t c;have e:=h.eq;rw[e]at c;obtain⟨b,i,f,d,rfl⟩:=afg.1 c;refine⟨by simp,by simp only;omega,?_⟩;simp only[NR];unfold wt at d;omega
def afk(l:List Tm)(at_:Int):List Tm:=l.filter (fun t=>Nn (at_<=t.1))++l.filter (fun t=>Nn (t.1<at_))
def acy(l:List Tm)(at_:Int):List Int:=amL (afk l at_)
theorem atT:t∈afk l at_↔t∈l:=by
 unfold afk;simp only[QF,List.mem_filter,decide_eq_true_eq];constructor
 ·rintro(h|h) <;> exact h.1
 ·intro h
  by_cases h2:at_<=t.1
  ·exact Nt ⟨h,h2⟩
  ·exact NF ⟨h,by omega⟩
def aaz(l:List Tm)(at_:Int):Nat:=l.findIdx fun t=>Nn (at_<=t.1)
theorem aiG(l:List Tm)(at_:Int):aaz l at_<=l.length:=List.findIdx_le_length
theorem amJ(j:Nat)(hj:j<l.length)(h:j<aaz l at_):l[j].1<at_:=by
 have:=List.not_of_lt_findIdx h;simp at this;exact this
theorem amK(hs:l.Pairwise (fun x y=>Xe x y<0))(j:Nat)(hj:j<l.length)(h:aaz l at_<=j):¬l[j].1<at_:=by
 have c:aaz l at_<l.length:=by omega
 have d:at_<=l[aaz l at_].1:=by
  have:=List.findIdx_getElem (w:=c);exact M2 this
 by_cases e:aaz l at_=j
 ·have:l[aaz l at_]=l[j]:=by congr 1
  rw[this]at d;omega
 ·have:=List.pairwise_iff_getElem.1 hs (aaz l at_) j c hj (by omega)
  rw[acY]at this;omega
theorem atC{α:Type}(p:α->Bool)(l:List α)(k:Nat)(h1:∀j (hj:j<l.length),j<k->p l[j]=Nb)(h2:∀j (hj:j<l.length),k<=j->p l[j]=Nw):l.filter p=l.drop k/\l.filter (fun x=>!p x)=l.take k:=by
 have d:(l.take k).filter p=[]:=List.filter_eq_nil_iff.2 fun x hx=>by
  obtain⟨j,hj,rfl⟩:=List.mem_take_iff_getElem.1 hx;rw[h1 j (by omega) (by omega)];exact PE
 have e:(l.drop k).filter p=l.drop k:=List.filter_eq_self.2 fun x hx=>by
  obtain⟨j,hj,rfl⟩:=List.mem_drop_iff_getElem.1 hx;exact h2 _ (by omega) (by omega)
 have c:(l.take k).filter (fun x=>!p x)=l.take k:=List.filter_eq_self.2 fun x hx=>by
  obtain⟨j,hj,rfl⟩:=List.mem_take_iff_getElem.1 hx;rw[h1 j (by omega) (by omega)];rfl
 have f:(l.drop k).filter (fun x=>!p x)=[]:=List.filter_eq_nil_iff.2 fun x hx=>by
  obtain⟨j,hj,rfl⟩:=List.mem_drop_iff_getElem.1 hx;rw[h2 _ (by omega) (by omega)];exact PE
 constructor
 ·conv=>lhs;rw[<-Oo k l]
  rw[OY,d,e,Oz]
 ·conv=>lhs;rw[<-Oo k l]
  rw[OY,c,f,OG]
theorem auf(hs:l.Pairwise (fun x y=>Xe x y<0))(at_:Int):afk l at_=l.drop (aaz l at_)++l.take (aaz l at_):=by
 have h:=atC (fun t:Tm=>Nn (at_<=t.1)) l (aaz l at_) (fun j hj h=>by have:=amJ j hj h;simp;omega) (fun j hj h=>by have:=amK hs j hj h;simp;omega);unfold afk;rw[h.1,<-h.2]
 congr 1
 apply List.filter_congr;intro t _
 by_cases e:at_<=t.1
 ·simp[e]
 ·simp[e]
  omega
def aay(l:List Tm)(i0 k:Nat):List Tm:=(Pm k).map fun j=>l.getD ((i0+j) % l.length) (0,0)
theorem aty(l:List Tm)(i0 k:Nat):aay l i0 (k+1)=aay l i0 k++[l.getD ((i0+k) % l.length) (0,0)]:=by simp[aay,ZqB]
theorem amI(l:List Tm)(i0 k:Nat):(aay l i0 k).length=k:=by simp[aay]
theorem atv(l:List Tm)(i0:Nat)(h:i0<=l.length):aay l i0 l.length=l.drop i0++l.take i0:=by
 apply Ot;intro j
 by_cases hj:j<l.length
 ·have c:0<l.length:=by omega
  rw[Q9,NJ];unfold aay;rw[List.getElem?_map,List.getElem?_range hj];simp only[OH]
  by_cases h2:j<l.length-i0
  ·rw[Nh h2,Pa,Nat.mod_eq_of_lt (by omega),NK,MR (by omega)]
   rfl
  ·have e:(i0+j) % l.length=j-(l.length-i0):=by
    rw[show i0+j=(j-(l.length-i0))+l.length by omega,Nat.add_mod_right,Nat.mod_eq_of_lt (by omega)]
   rw[Nf h2,e,O0 (by omega),NK,MR (by omega)];rfl
 ·rw[Nz (by rw[amI];omega),Nz (by simp;omega)]
theorem aup(h:Yd l)(at_:Int):aa5 (Xt l) (aay l (aaz l at_) l.length)=acy l at_:=by
 have c:l.Pairwise (fun x y=>Xe x y<0):=by have:=agH h.wts;rwa[<-h.eq]at this
 rw[atv l _ (aiG l at_),<-auf c at_];exact auk fun t ht=>at2 h t (atT.1 ht)
def atl(l:List Tm)(key:Int)(w:MO)(r:Ending)(w':MO):Prop:=∃(y:M7) (e:Int),r=MN (Nv #[y,MF ME e])/\MQ w.heap.size w w' /\
 ((¬Yd l/\e=6/\y=MG MH 0 0)\/(Yd l/\¬(0<=key/\key<=4294967295)/\e=2/\y=MG MH 0 0) \/
  (Yd l/\(0<=key/\key<=4294967295)/\e=0/\w'.ownsRow w.heap.size 3 1 y (acy l (abp key.toNat:Nat)).length (WR (acy l (abp key.toNat:Nat)))))
theorem atI(a b:List Int):WR (a++b)=WR a++WR b:=by simp[WR]
theorem amA(a b c:Int)(w:MO) :
  Ni MK 209 #[Ny #[MF ME a,MF ME b],MF ME c] w fun r w'=>r=MN (MF ME (YK a c))/\MQ w.heap.size w w':=by
 go_enter S0,SA
 go_wp2_with fail
 refine(aeg a c _).mono ?_;rintro r d ⟨rfl,rfl⟩;go_wp2;go_ret;exact⟨rfl,(MY _ _).alloc (MV _) _⟩
theorem amE(a b:Int):YK a b<0↔a<b:=by
 unfold YK
 repeat' split
 all_goals omega
theorem at3(v:M7)(l:List Tm)(at_:Int)(i0:Nat)(w:MO)(hv:Xz w v l)(h0:i0<=l.length)(h1:∀j (hj:j<l.length),j<i0->l[j].1<at_)(h2:∀j (hj:j<l.length),i0<=j->¬l[j].1<at_)(hlen:l.length<=1048577) :
  Ni MK 208 #[v,MF ME at_,PB (PD 209) #[] #[]] w fun r w'=>∃b,r=MN (Nv #[MF ME i0,M3 b])/\MQ w.heap.size w w':=by
 obtain⟨a,ca,rfl,a6,U,N⟩:=hv.F6;unfold NE at U;have F:M6 (_/\_/\_):=⟨N,h1,h2⟩;clear N h1 h2;go_enter Tryz.func208,Tryz.ntmps208;go_wp2
 go_loopw [9,10] (fun i j wr=>∃(p q:Nat),i=MF ME p/\j=MF ME q/\p<=i0/\i0<=q/\q<=l.length/\MQ w.heap.size w wr) (fun i j _=>(intOf j).toNat-(intOf i).toNat)
 case atStart=>exact⟨0,l.length,rfl,rfl,Nx _,h0,MV _,MY _ _⟩
 case round =>
  obtain⟨p,q,rfl,rfl,Y,V,Q,L⟩:=hrel;have d:M6 _:=L;clear L
  by_cases hlt:p<q
  ·have a2:Nn ((p:Int)<(q:Int))=true:=Nq (by omega)
   obtain⟨m,G⟩:∃m,m=(p+q) / 2:=⟨_,rfl⟩;have Z:p<=m:=by omega
   have a7:m<q:=by omega
   have a8:((p:Int)+(q:Int)) / 2=(m:Int):=by omega
   have b3:(p+q) / 2=m:=G.symm;clear G;obtain⟨C,z,rfl,u,A,D⟩:=F.out.1 m (by omega);have J:=(d.out.cell (p:=⟨C,z+m*2,MH⟩) u).trans A;have I:=(d.out.cell (p:=⟨C,z+m*2+1,MH⟩) u).trans D;obtain⟨e,o⟩:∃e,(l[m]'(by omega)).1=e:=⟨_,rfl⟩;obtain⟨f,x⟩:∃f,(l[m]'(by omega)).2=f:=⟨_,rfl⟩;rw[o]at J;rw[x]at I;have M:M6 _:=o;clear o x A D;have R:(0:Int)<=(m:Int):=by omega
   have S:(m:Int)<(l.length:Int):=by omega
   obtain⟨c,K⟩:∃c,c=YK e at_:=⟨_,rfl⟩;have s:=fun W=>amA e f at_ W
   rw[<-K]at s;have E:M6 (_/\_):=⟨K,s⟩;clear K s;cases hcd:Nn (c<0)
   ·go_wp2_with (first|(go_at_call 209;refine(E.out.2 _).mono ?_;rintro r O ⟨rfl,y⟩))
    refine⟨⟨p,m,rfl,rfl,Y,?_,by omega,d.out.trans (y.mono d.out.size)⟩,by simp[intOf];omega⟩;rcases Oq m i0 with h|h
    ·have H:=F.out.2.1 m (by omega) h
     rw[M.out]at H;exact absurd ((amE _ _).2 H) (by rw[<-E.out.1];exact Nc hcd)
    ·exact h
   ·go_wp2_with (first|(go_at_call 209;refine(E.out.2 _).mono ?_;rintro r O ⟨rfl,y⟩))
    refine⟨⟨m+1,q,by simp,rfl,?_,V,Q,d.out.trans (y.mono d.out.size)⟩,by simp[intOf];omega⟩;rcases Oq m i0 with h|h
    ·exact h
    ·have H:=F.out.2.2 m (by omega) h
     rw[M.out]at H;have h4:e<at_:=(amE _ _).1 (by rw[<-E.out.1];exact M2 hcd);omega
  ·obtain rfl:p=i0:=by omega
   obtain rfl:q=p:=by omega
   obtain⟨m,G⟩:∃m,m=q:=⟨_,rfl⟩;subst G
   by_cases hlt2:m<l.length
   ·obtain⟨C,z,rfl,u,A,D⟩:=F.out.1 m (by omega)
    have J:=(d.out.cell (p:=⟨C,z+m*2,MH⟩) u).trans A;have I:=(d.out.cell (p:=⟨C,z+m*2+1,MH⟩) u).trans D;obtain⟨e,o⟩:∃e,(l[m]'(by omega)).1=e:=⟨_,rfl⟩;obtain⟨f,x⟩:∃f,(l[m]'(by omega)).2=f:=⟨_,rfl⟩;rw[o]at J;rw[x]at I;clear o x A D;have R:(0:Int)<=(m:Int):=by omega
    have S:(m:Int)<(l.length:Int):=by omega
    have s:=fun W=>amA e f at_ W
    go_wp2_with (first|(go_at_call 209;refine(s _).mono ?_;rintro r O ⟨rfl,y⟩))
    go_ret2
    exact⟨_,rfl,d.out.trans (y.mono d.out.size)⟩
   ·obtain rfl:m=l.length:=by omega
    go_wp2
    go_ret2
    exact⟨_,rfl,d.out⟩
section
open Go.Shelf
attribute [local go_sem] Oper.semAt_some
def abo(S:Nat->Prop)(W W':MO):Prop:=∀k,S k->W'.heap[k]?=W.heap[k]?
theorem abo.F0{S:Nat->Prop}{A B C:MO}(h1:abo S A B)(h2:abo S B C):abo S A C:=fun k hk=>(h2 k hk).trans (h1 k hk)
theorem abo.Gy(S:Nat->Prop)(A:MO):abo S A A:=fun _ _=>rfl
theorem abo.F7{S:Nat->Prop}{A B:MO}(h:abo S A B)(hk:S k)(o:Nat):B.cell? ⟨k,o,MH⟩=A.cell? ⟨k,o,MH⟩:=NG (h k hk)
theorem atZ(i0 k len j:Nat)(hj:j=(i0+k) % len)(hl:0<len)(h1:i0<=1048576)(h2:k<=1048576)(h3:len<=1048576)(W:MO):(binOp .rem 3 (MF ME ((i0:Int)+(k:Int))) (MF ME (len:Int))).run MK W=.ok (MF ME (j:Int)) W:=by
 have e:¬(len:Int)=0:=by omega
 have d:(0:Int)<(len:Int):=by omega
 have c:((i0:Int)+(k:Int)).tmod (len:Int)=(j:Int):=by
  rw[hj,Oi (by omega),QY,Int.natCast_add]
 subst hj;go_simp;omega
theorem ato(n:Nat)(hn:1<=n)(l Bs Bf:Nat)(p:Option Oc)(c:Nat)(i0:Nat)(xs:List Tm)(S:Nat->Prop)(hSs:S Bs)(hSf:S Bf)(hi0:i0<=xs.length)(hlen:xs.length<=1048576)(hcap:xs.length<=c)
  (J Jx:List Tm->MO->Prop)
  (hY:∀pre x W,J pre W->pre.length<xs.length->YieldAt SJ (n-1) MK l #[Ny #[MF ME x.1,MF ME x.2]] W fun e W' =>
   (e=MN (M3 Nw)/\J (pre++[x]) W'/\abo S W W')\/(e=MN (M3 Nb)/\Jx (pre++[x]) W'))
  (hD:∀pre W,J pre W->J pre W.drew)
  (W:MO) (hBs:W.cell? ⟨Bs,0,MH⟩=MI (MG p xs.length c)) (hBf:W.cell? ⟨Bf,0,MH⟩=MI (MF ME i0))
  (pa:∀i (hi:i<xs.length),∃b off,p=MI ⟨b,off,MH⟩/\S b/\W.cell? ⟨b,off+i*2,MH⟩=MI (MF ME xs[i].1)/\W.cell? ⟨b,off+i*2+1,MH⟩=MI (MF ME xs[i].2)) (h0:J [] W) :
  CallsIn SJ n MK 211 #[PB (.yield l) #[] #[],Na (MI ⟨Bs,0,MH⟩),Na (MI ⟨Bf,0,MH⟩)] W fun e W'=>(∃v,e=MN v) /\
   ((∃ys,ys=aay xs i0 xs.length/\J ys W')\/(∃pre:List Tm,True/\Jx pre W')):=by
 have R:M6 _:=pa;clear pa;refine callsIn_of_wp Tryz.func211 rfl trivial ?_ rfl;simp only[Tryz.ntmps211,OQ,Ox,List.length_nil,Nat.reduceAdd,Nat.reduceSub,Sg,Sh,SY,Sk,Oz,List.cons_append]
 gi_wp2
 gi_loopw [7] (fun i wr=>∃k:Nat,k<=xs.length/\i=MF ME k/\J (aay xs i0 k) wr/\abo S W wr)
  (fun i _=>xs.length-(intOf i).toNat)
 case atStart=>exact⟨0,Nx _,rfl,h0,abo.Gy _ _⟩
 case round =>
  obtain⟨k,hk,rfl,r,m⟩:=hrel
  by_cases hlt:k<xs.length
  ·obtain⟨j,o⟩:∃j,j=(i0+k) % xs.length:=⟨_,rfl⟩
   have E:j<xs.length:=by rw[o];exact Nat.mod_lt _ (by omega)
   obtain⟨b,off,rfl,G,L,H⟩:=R.out j E;have V:=(m.F7 G (off+j*2)).trans L;have U:=(m.F7 G (off+j*2+1)).trans H;have c4:=(m.F7 hSs 0).trans hBs;have b4:=(m.F7 hSf 0).trans hBf;have A:aay xs i0 (k+1)=aay xs i0 k++[xs[j]]:=by
    rw[aty,<-o,NK,MR E];rfl
   obtain⟨f,y⟩:∃f,f=xs[j].1:=⟨_,rfl⟩;obtain⟨d,s⟩:∃d,d=xs[j].2:=⟨_,rfl⟩;have K:xs[j]=(f,d):=by rw[y,s]
   rw[<-y]at V;rw[<-s]at U;rw[K]at A;obtain⟨fn,a8,a2,a7,Z,I⟩:=hY _ (f,d) wr.drew (hD _ _ r) (by rw[amI];exact hlt);have c3:(k:Int)<(xs.length:Int):=by omega
   have N:((i0:Int)+(k:Int)).tmod (xs.length:Int)=(j:Int):=by
    rw[o,Oi (by omega),QY,Int.natCast_add]
   have b9:(IntKind.i64.wrap ((i0:Int)+(k:Int))).tmod (xs.length:Int)=(j:Int):=by
    rw[show IntKind.i64.wrap ((i0:Int)+(k:Int))=(i0:Int)+(k:Int)by rw[Ow];omega];exact N
   have b3:=atZ i0 k xs.length j o (by omega) (by omega) (by omega) hlen
   dsimp only at Z
   have M:=I.mono (R':=fun e q=>∃go:Bool,e=MN (M3 go)/\(go=Nw->M6 (J (aay xs i0 k++[(f,d)]) q/\abo S wr.drew q))/\(go=Nb->M6 (Jx (aay xs i0 k++[(f,d)]) q/\True))) (fun e q h=>by
    rcases h with⟨C,D,Y⟩|⟨C,D⟩
    ·exact⟨Nw,C,fun _=>⟨D,Y⟩,fun h=>PP h⟩
    ·exact⟨Nb,C,fun h=>PP h,fun _=>⟨D,trivial⟩⟩)
   clear I;have a6:Tryz.prog.follows .mixedOrders=true:=by kernel_rfl
   have b5:(0:Int)<(xs.length:Int):=by omega
   have b6:¬xs=[]:=fun e=>by rw[e]at hlt;simp at hlt
   have c6:¬xs.length=0:=by omega
   have b7:(0:Int)<=(j:Int):=by omega
   have c7:(j:Int)<(xs.length:Int):=by omega
   have Q:¬(xs.length:Int)=0:=by omega
   have b8:((xs.length:Int) == 0)=false:=by rw[Oh];exact Q
   have HH:M6 (_/\_):=⟨r,A⟩;clear r A hY hD L H K y s o
   gi_wp2
   gi_region_with_o (with_reducible refine M.mono ?_;rintro e q ⟨go,rfl,z,u⟩)
   all_goals
    cases go
    ·have O:=u rfl
     clear z u
     gi_wp2
     refine Np (results_none rfl _ _ _) rfl ?_;exact⟨⟨_,rfl⟩,NF ⟨_,trivial,O.out.1⟩⟩
    ·have F:=z rfl
     clear z u
     gi_wp2
     go_roundw
     case rel=>exact⟨k+1,by omega,by simp,by rw[HH.out.2];exact F.out.1,m.F0 F.out.2⟩
     case measure=>simp[intOf];omega
  ·obtain rfl:k=xs.length:=by omega
   gi_wp2
   go_end0
   exact⟨⟨_,rfl⟩,Nt ⟨_,rfl,r⟩⟩
theorem atq(v:M7)(l:List Tm)(at_:Int)(w:MO)(hv:Xz w v l)(hs:l.Pairwise (fun x y=>Xe x y<0))(hlen:l.length<=1048577) :
  Ni MK 165 #[v,MF ME at_] w fun r w'=>∃Bf,r=MN (PB (PD 211) #[] #[Na (MI ⟨w.heap.size,0,MH⟩),Na (MI ⟨Bf,0,MH⟩)])/\w'.heap[w.heap.size]?=MI (MP #[v] 48 (0,0))/\w'.heap[Bf]?=MI (MP #[MF ME (aaz l at_:Nat)] 3 (0,0))/\w.heap.size<Bf/\MQ w.heap.size w w':=by
 obtain⟨p,c,rfl⟩:=hv.Ga;have q:M6 (_/\_):=⟨hv,hs⟩;clear hv hs;go_enter Tryz.func165,Tryz.ntmps165
 go_wp2_with fail
 obtain⟨h,e⟩:∃h,h=w.alloc (MP #[MG p l.length c] 48):=⟨_,rfl⟩;have d:MQ w.heap.size w h:=by rw[e];exact agw _ _
 have j:h.heap[w.heap.size]?=MI (MP #[MG p l.length c] 48 (0,0)):=by rw[e];exact M1 _ _
 rw[<-e];clear e;refine(at3 _ l at_ (aaz l at_) _ (q.out.1.below d) (aiG l at_) amJ (amK q.out.2) hlen).mono ?_;rintro r u ⟨s,rfl,i⟩;have o:=WO j i;have m:=d.trans (i.mono d.size);have f:M6 (_/\_):=⟨o,m⟩;clear o m d i j;go_wp2;go_ret;exact⟨_,rfl,Xy _ _ f.out.1,M1 _ _,(Array.getElem?_eq_some_iff.1 f.out.1).1,f.out.2.alloc f.out.2.size _⟩
end
section
open Go.Shelf
attribute [local go_sem] Oper.semAt_some
theorem atp(n:Nat)(hn:1<=n)(Bs Bf:Nat)(p:Option Oc)(c:Nat)(i0:Nat)(xs:List Tm)(S:Nat->Prop)(w:MO)(hSs:S Bs)(hSf:S Bf)(hi0:i0<=xs.length)(hlen:xs.length<=1048576)(hcap:xs.length<=c)
  (hS:∀k,S k->k<w.heap.size) (hBs:w.cell? ⟨Bs,0,MH⟩=MI (MG p xs.length c)) (hBf:w.cell? ⟨Bf,0,MH⟩=MI (MF ME i0))
  (pa:∀i (hi:i<xs.length),∃b off,p=MI ⟨b,off,MH⟩/\S b/\w.cell? ⟨b,off+i*2,MH⟩=MI (MF ME xs[i].1)/\w.cell? ⟨b,off+i*2+1,MH⟩=MI (MF ME xs[i].2)) :
  SeqStopsK SJ n MK 211 #[Na (MI ⟨Bs,0,MH⟩),Na (MI ⟨Bf,0,MH⟩)] (fun x:Tm=>#[Ny #[MF ME x.1,MF ME x.2]]) (abo S) (fun ys=>ys=aay xs i0 xs.length) (fun _=>True) xs.length w:=fun l J Jx W hW hJ _ hY h0 =>
 ato n hn l Bs Bf p c i0 xs S hSs hSf hi0 hlen hcap J Jx hY (fun pre W1 hj=>hJ pre W1 _ MH hj ⟨rfl,rfl,rfl,MV _,fun _ _ _=>rfl⟩ (fun r e=>by cases e)) W ((hW.cell (p:=⟨Bs,0,MH⟩) (hS _ hSs)).trans hBs) ((hW.cell (p:=⟨Bf,0,MH⟩) (hS _ hSf)).trans hBf)
  (fun i hi=>by
   obtain⟨b,off,f,d,j,h⟩:=pa i hi;exact⟨b,off,f,d,(hW.cell (p:=⟨b,off+i*2,MH⟩) (hS _ d)).trans j,(hW.cell (p:=⟨b,off+i*2+1,MH⟩) (hS _ d)).trans h⟩) h0
theorem anb{F:Fence}{n:Nat}(w:MO){ops:Array Oper}{rest:List Oper}{o:Oper}{a:Act}{Q:Exit->Act->MO->Prop}
  (hg:o.guard=MH) (T:NU) (x:Operand) (hop:o.op=.load T x) (v res:M7) (hx:a.eval x=v) (hr:(Instr.loadAt T v).run P w=.ok res w) (hK:wpListIn F n P ops Q rest (a.put o.dst res) w) :
  wpListIn F n P ops Q (o::rest) a w:=by
 refine wpListIn_plain hg fun K hK'=>?_
 unfold Oper.wpIn;refine⟨?_,?_⟩
 ·simp[Oper.about,hop,resolve,Target.leads,P3]
 ·rw[Oper.semAt_plain F _ _ (by rw[hop];intro c d;cases d)]
  simp[execOp,hop,hx,hr,Result.andThen];exact hK' _ _ hK
theorem agC{row:Option Nat}{cs:Array M7}{t:NU}{f:Nat×Nat}(h:W.heap[k]?=MI (MP cs t f))(hg:W.grownBy W' row)(hr:∀r,row=MI r->∃o:Obj,W.heap[r]?=MI o/\o.isCells=Nb):W'.heap[k]?=W.heap[k]?:=by
 refine hg.block k (Array.getElem?_eq_some_iff.1 h).1 (fun e=>?_);obtain⟨o,c,d⟩:=hr k e.symm;rw[h]at c;cases c;cases d
def adE(w WL:MO)(g6 g10:Nat)(a:List Int)(out:List Int)(W:MO):Prop :=
 (∃v,Boxed W g10 191 v/\W.ownsRow WL.heap.size 3 1 v out.length (WR out))/\Xj 224 12 W g6 (ZP a out)/\MQ w.heap.size w W/\WL.heap.size<=W.heap.size
theorem atw(w WL:MO)(g6 g10:Nat)(a:List Int)(hsz:w.heap.size<=WL.heap.size):OwnFrom WL.heap.size (fun(pre:List Tm) W=>adE w WL g6 g10 a (aa5 a pre) W):=by
 rintro pre W W' q ⟨⟨v,f,i⟩,j,m,s⟩ c h;have d:∀r,q=MI r->∃o:Obj,W.heap[r]?=MI o/\o.isCells=false:=fun r e=>(h r e).2
 refine⟨⟨v,(agC f c d).trans f,W8 i (fun g hg'=>?_)⟩,j.Gf (agC j.1 c d),m.grown c m.size (fun k e=>Nm hsz (h k e).1),Nm s c.size⟩;rcases i.2 with⟨rfl,_⟩|⟨u,y,x,rfl,_,p,_⟩
 ·cases hg'
 ·have e:u=g:=by simpa [QQ]using hg'
  subst e;exact agC p c d
theorem atX{cs:Array M7}{t e:NU}{f:Nat×Nat}(h:W.heap[k]?=MI (MP cs t f))(hte:t≠e){base size n:Nat}{xs:List M7}(hr:W.ownsRow base e size v n xs):v.ownBlock≠MI k:=by
 rcases hr.2 with⟨rfl,_⟩|⟨g,j,m,rfl,_,c,_⟩
 ·simp[QQ]
 ·intro d
  have i:g=k:=by simpa [QQ]using d
  subst i;rw[h]at c;cases c;exact hte rfl
def agv(N g6 g10:Nat)(k:Nat):Prop:=k<N/\k≠g6/\k≠g10
theorem aiB{N:Nat}(h:MQ W.heap.size W W')(hN:N<=W.heap.size):abo (agv N g6 g10) W W':=fun k hk=>h.block k (by have:=hk.1;omega)
theorem aiA{N:Nat}(h:MQ W.heap.size W W'):KeepsFrom N W W':=⟨h.size,fun k o _ hk _=>(h.block k (Array.getElem?_eq_some_iff.1 hk).1).trans hk⟩
theorem adE.below{WL:MO}{a:List Int}(h:adE w WL g6 g10 a out W)(hb:MQ W.heap.size W W'):adE w WL g6 g10 a out W':=by
 obtain⟨⟨v,f,d⟩,i,c,e⟩:=h;exact⟨⟨v,WO f hb,YI d hb⟩,i.below hb,c.trans (hb.mono c.size),Nm e hb.size⟩
theorem atx{WL w2 w1:MO}{b:Nat}{a:List Int}{v':M7}{tmp:Obj}(hx:Boxed w2 g10 191 v)(ho:w2.ownsRow WL.heap.size 3 1 v out.length (WR out))(hA:Xj 224 12 w2 g6 (ZP a out))(hB:MQ w.heap.size w w2)(hs:WL.heap.size<=w2.heap.size)
  (hown:w1.ownsRow WL.heap.size 3 1 v' (out.length+1) (WR out++[MF ME (b:Int)])) (hg:(w2.alloc tmp).grownBy w1 v.ownBlock) (h6:g6<WL.heap.size) (h10:g10<WL.heap.size) (hne:g6<g10) (hw:w.heap.size<=g6) (hb:b<12) :
  Boxed w1 g10 191 v/\Xj 224 12 w1 g6 (ZP a out)/\adE w WL g6 g10 a (out++[(b:Int)]) ((w1.setCell ⟨g10,0,MH⟩ v').setCell ⟨g6,b,MH⟩ (MF ME 0))/\abo (agv WL.heap.size g6 g10) w2 ((w1.setCell ⟨g10,0,MH⟩ v').setCell ⟨g6,b,MH⟩ (MF ME 0)) /\
   KeepsFrom WL.heap.size w2 ((w1.setCell ⟨g10,0,MH⟩ v').setCell ⟨g6,b,MH⟩ (MF ME 0)):=by
 have c:∀k,k<w2.heap.size->v.ownBlock≠MI k->w1.heap[k]?=w2.heap[k]?:=fun k h1 h2=>(hg.block k (by simp;omega) (fun e=>h2 e.symm)).trans (Ov _ _ _ h1)
 have d:∀k,k<WL.heap.size->v.ownBlock≠MI k:=fun k h e=>by have:=(ho.lt k e).1;omega
 have i:Boxed w1 g10 191 v:=(c g10 (by omega) (d g10 h10)).trans hx;have p:Xj 224 12 w1 g6 (ZP a out):=hA.Gf (c g6 (by omega) (d g6 h6));have f:∀k,k≠g6->k≠g10->((w1.setCell ⟨g10,0,MH⟩ v').setCell ⟨g6,b,MH⟩ (MF ME 0)).heap[k]?=w1.heap[k]?:=fun k h1 h2=>by
  rw[MU _ _ _ _ (by simpa using h1),MU _ _ _ _ (by simpa using h2)]
 have q:=hg.size;simp at q;have j:=hB.alloc hB.size tmp;have r:MQ w.heap.size w w1:=j.grown hg j.size (fun k e=>by have:=(ho.lt k e).1;omega);refine⟨i,p,⟨⟨v',?_,?_⟩,?_,(r.setCell (by simp;omega) _).setCell (by simp;omega) _,?_⟩,fun k hk2=>?_,⟨?_,fun k o h1 h2 h3=>?_⟩⟩
 ·exact(MU _ _ _ _ (by simp;omega)).trans (i.set v')
 ·rw[atI,Ns]
  exact W8 hown (fun g hg'=>f g (by have:=(hown.lt g hg').1;omega) (by have:=(hown.lt g hg').1;omega))
 ·rw[atS a out b hb]
  exact(p.Hk (by simp;omega) _).F4 b 0
 ·simp;omega
 ·rw[f k hk2.2.1 hk2.2.2]
  exact c k (by have:=hk2.1;omega) (d k hk2.1)
 ·simp;omega
 ·rw[f k (by omega) (by omega)]
  have s:=(Array.getElem?_eq_some_iff.1 h2).1;refine(c k s (fun e=>?_)).trans h2;rcases ho.2 with⟨rfl,_⟩|⟨g,y,x,rfl,_,m,_⟩
  ·cases e
  ·have u:g=k:=by simpa [QQ]using e
   subst u;rw[h2]at m;cases m;cases h3
theorem aun(v:M7)(l:List Tm)(n:Int)(w:MO)(hv:Xz w v l) :
  Ni MK 124 #[Ny #[v],MF ME n] w (atl l n w):=by
 obtain⟨p,c,rfl,i8,hm,pv⟩:=hv.F6;have HV:M6 (_/\_):=⟨hv,pv⟩;clear hv pv;refine(callsIn_wide (n:=3)).1 (callsIn_of_wp_marks VV rfl trivial (wpIn_wide.2 ?_) rfl);simp only[VL,OQ,Ox,List.length_nil,Nat.reduceAdd,Nat.reduceSub,Sg,Sh,SY,Sk,Oz,List.cons_append]
 go_wp2_with fail
 obtain⟨W0,c6⟩:∃W0,W0=w.alloc (MP #[MG p l.length c] 50):=⟨_,rfl⟩;rw[<-c6];have f9:MQ w.heap.size w W0:=by rw[c6];exact agw _ _
 have c3:aee W0 w.heap.size (MG p l.length c) l:=by rw[c6];exact aee.new HV.out.1
 refine(agL _ l _ c3.2).mono ?_;rintro r d ⟨a,b,rfl,d6,g3,ha,b3⟩;obtain⟨f1,f2,f3⟩:=agz d a d6;have f8:=f9.trans (b3.mono f9.size);obtain⟨W5,e8⟩:∃W5,W5=(d.alloc (MP #[MF ME 0,MF ME 0,MF ME 0,MF ME 0,MF ME 0,MF ME 0,MF ME 0,MF ME 0,MF ME 0,MF ME 0,MF ME 0,MF ME 0] 224)).setCells d.heap.size 0 (WR a):=⟨_,rfl⟩;rw[<-e8]at f2 f3;have g8:=f8.trans (f3.mono f8.size);have i2:=(c3.below b3).below f3;have s:(WR a).toArray.size=12:=by simp[Zv,d6]
 have j2:=b3.size;have k1:(d.alloc (MP #[MF ME 0,MF ME 0,MF ME 0,MF ME 0,MF ME 0,MF ME 0,MF ME 0,MF ME 0,MF ME 0,MF ME 0,MF ME 0,MF ME 0] 224)).there d.heap.size 0 (WR a).toArray.size:=by rw[s];exact f1
 have k2:(Tryz.prog.info? 224).map (·.size)=MI (WR a).toArray.size:=by rw[Zx,s]
 have H:M6 (_/\_/\_/\_):=⟨k1,k2,OE (ac1 a),e8⟩;have Z:M6 (_/\_/\_):=⟨f2,g8,i2⟩;have HI:M6 (_/\_):=⟨g3,ha⟩;have j9:w.heap.size<d.heap.size:=(c3.below b3).lt;clear k1 k2 f1 f2 f3 f9 b3 f8 e8 g3 ha g8 s i2 c6 c3 j2;cases b
 ·have h5:¬Yd l:=fun h=>PP (HI.out.1.2 h)
  have V:M6 _:=h5;clear h5 HI
  go_wp2_with ((with_reducible refine OW rfl 224 (O6 6) (O6 15) rfl d.heap.size 0 (WR a).toArray ?hx ?hy ?ht ?hi ?h1 ?_);(case hx=>rfl);(case hy=>rfl);(case ht=>exact H.out.1);(case hi=>exact H.out.2.1);(case h1=>exact H.out.2.2.1);rw[NS,<-H.out.2.2.2])
  exact⟨_,SZ rfl _ _ _,⟨_,_,rfl,Z.out.2.1,Nt ⟨V.out,rfl,rfl⟩⟩⟩
 ·have V:M6 (Yd l/\a=Xt l):=⟨HI.out.1.1 rfl,HI.out.2 rfl⟩
  clear HI
  by_cases hn:0<=n/\n<=4294967295
  ·obtain⟨a7,rfl⟩:=NL hn.1
   have i6:a7<=4294967295:=by omega
   have M:=fun W=>atM a7 W i6
   obtain⟨at_,e6⟩:∃at_:Int,at_=(abp a7:Nat):=⟨_,rfl⟩;rw[<-e6]at M;have HK:M6 (_/\_):=⟨M,e6⟩;clear M e6 hn
   go_wp2_with ((with_reducible refine OW rfl 224 (O6 6) (O6 15) rfl d.heap.size 0 (WR a).toArray ?hx ?hy ?ht ?hi ?h1 ?_);(case hx=>rfl);(case hy=>rfl);(case ht=>exact H.out.1);(case hi=>exact H.out.2.1);(case h1=>exact H.out.2.2.1);rw[NS,<-H.out.2.2.2])
   refine(HK.out.1 _).mono ?_;rintro r f ⟨rfl,b9⟩;have g1:=Z.out.2.1.trans (b9.mono Z.out.2.1.size);have c7:=Z.out.2.2.below b9;have g9:=Z.out.1.below b9;have l1:=c7.F7;have k0:=c7.lt;have HY:M6 (_/\_/\_):=⟨g1,c7,g9⟩;clear g1 c7 g9 b9 Z H
   go_wp2_with fail
   obtain⟨W6,b6⟩:∃W6,W6=f.alloc (MP #[MG MH 0 0] 191):=⟨_,rfl⟩;have e9:MQ f.heap.size f W6:=by rw[b6];exact agw _ _
   have i3:Boxed W6 f.heap.size 191 (MG MH 0 0):=by rw[b6];exact Boxed.new _ _ _
   have d8:W6.heap.size=f.heap.size+1:=by rw[b6];simp
   have b8:=HY.out.1.trans (e9.mono HY.out.1.size);rw[<-b6];have d3:l.Pairwise (fun x y=>Xe x y<0):=by have:=agH V.out.1.wts;rwa[<-V.out.1.eq]at this
   have j8:=amX V.out.1;clear b6;refine(atq _ l at_ _ (HV.out.1.below b8) d3 (by omega)).mono ?_;rintro r I ⟨Bf,rfl,e7,d7,d4,a8⟩;have g7:=b8.trans (a8.mono b8.size);have i4:=(HY.out.2.2.below e9).below a8;have i1:Boxed I f.heap.size 191 (MG MH 0 0):=WO i3 a8;have h9:d.heap.size<f.heap.size:=HY.out.2.2.lt;have g4:=(Array.getElem?_eq_some_iff.1 d7).1;obtain⟨H6,h7⟩:∃H6,H6=W6.heap.size:=⟨_,rfl⟩;rw[<-h7]at e7 d4 d8⊢;have j0:=a8.size;have O:M6 (_/\_/\_/\_/\_):=⟨g7,i4,i1,e7,d7⟩;have HM:M6 (_/\_/\_/\_/\_):=⟨d3,d8,d4,g4,h9⟩;clear g7 i4 i1 e7 d7 d3 d8 d4 g4 a8 e9 i3 b8 HY j0 h7 h9;go_wp2;obtain⟨i0,hi,j3,j6,j4⟩:=OF adB;refine(wpIn_wide (n:=3)).1 ?_;have j7:=O.out.2.2.2;refine wpIn_rangeFunc_ownH (F:=SJ) rfl (by omega) (gf:=211) (lb:=#[Na (MI ⟨H6,0,MH⟩),Na (MI ⟨Bf,0,MH⟩)]) rfl trivial (enters_of Tryz.func211 (by kernel_rfl) rfl)
    (atp 2 (by omega) H6 Bf p c (aaz l at_) l (agv I.heap.size d.heap.size f.heap.size) I ?hSs ?hSf (aiG l at_) (by omega) i8 (fun k hk=>hk.1) (Xu O.out.2.2.2.1) (Xu O.out.2.2.2.2) ?hpa) abo.F0 (fun W k o o' hk hW _ _ j hj=>World.putObj_heap_other (by have:=hj.1;omega)) (MY _ _) (fun _=>rfl)
    (fun S W=>adE w I d.heap.size f.heap.size a (aa5 a S) W) (fun _ _ _=>False) (atw w I d.heap.size f.heap.size a O.out.1.size) (fun _ _ _ _ _ hs _ _=>hs)
    ⟨⟨_,O.out.2.2.1,NY _ _ _ _⟩,by rw[show aa5 a []=[]from rfl,atR d6];exact O.out.2.1,O.out.1,MV _⟩
    (fun x a' W=>∃G,I.heap.size<=G/\W.heap[G]?=MI (MP #[MF ME x.1,MF ME x.2] 153 (0,0))/\a'={tmps:=#[Ny #[MG p l.length c],MF ME a7,Na (MI ⟨w.heap.size,0,MH⟩),PL,MG MH 0 0,MF ME 0,Na (MI ⟨d.heap.size,0,MH⟩),M3 Nw,MF ME at_,MF ME 0,Na (MI ⟨f.heap.size,0,MH⟩),Na (MI ⟨G,0,MH⟩),Nv #[Ny (WR a).toArray,M3 Nw],Ny #[MG p l.length c],Nv #[Ny (WR a).toArray,M3 Nw],Ny (WR a).toArray,M3 Nw,M3 Nw,M3 Nb,Nv #[MF ME at_,MF ME 0],MF ME a7,Nv #[MF ME at_,MF ME 0],MF ME at_,MF ME 0,MF ME 0,M3 Nb,PL,Na (MI ⟨w.heap.size,0,MH⟩),MG p l.length c,MF ME at_,PB (PD 211) #[] #[Na (MI ⟨H6,0,MH⟩),Na (MI ⟨Bf,0,MH⟩)],Ny #[MF ME x.1,MF ME x.2],PL,PL,PL,PL,PL,PL,PL,PL,PL,PL,PL,PL,PL],defers:=[]})
    (fun x a' _ X Y row hs hg hr=>by obtain⟨G,h1,h2,h3⟩:=hs;exact⟨G,h1,(agC h2 hg (fun r e=>(hr r e).2)).trans h2,h3⟩)
    ?assign ?body ?done ?stop
   case hSs=>obtain⟨_,h1,h2,h3,h4⟩:=HM.out;exact⟨by omega,by omega,by omega⟩
   case hSf=>obtain⟨_,h1,h2,h3,h4⟩:=HM.out;exact⟨by omega,by omega,by omega⟩
   case hpa =>
    intro i hi;obtain⟨b1,f0,e1,e2,e3,e4⟩:=HV.out.2 i hi;obtain⟨_,h1,h2,h3,h4⟩:=HM.out;exact⟨b1,f0,e1,⟨by omega,by omega,by omega⟩,(O.out.1.cell (p:=⟨b1,f0+i*2,MH⟩) e2).trans e3,(O.out.1.cell (p:=⟨b1,f0+i*2+1,MH⟩) e2).trans e4⟩
   case assign =>
    rintro lp S ⟨xa,A⟩ W K hC M
    gi_wp2
    have d9:=agw W (MP #[MF ME xa,MF ME A] 153);exact M _ _ (aiA d9) (aiB d9 hC.2.2.2) (hC.below d9) ⟨W.heap.size,hC.2.2.2,M1 _ _,rfl⟩
   case body =>
    rintro lp S ⟨xa,A⟩ a' W l0 _ hC ⟨G,l2,Q,rfl⟩ l3
    dsimp only at Q⊢
    have L:=aum a S (xa,A);have j1:=aul a S;unfold ab9 at L;obtain⟨out,ho⟩:∃out,out=aa5 a S:=⟨_,rfl⟩;rw[<-ho]at hC L j1;obtain⟨⟨v,J,m⟩,N,C,s⟩:=hC;obtain⟨vp,vc,rfl⟩:=Y6 m;have b5:=N.I9 (P:=MK) axR rfl Zx;have k8:W.cell? ⟨G,1,MH⟩=MI (MF ME A):=(Xa Q).2.1;have f7:=aff a out;obtain⟨R,b4⟩:∃R,R=ZP a out:=⟨_,rfl⟩;rw[<-b4]at b5 f7
    by_cases hh:acZ (ZP a out) A
    ·have hd:Nn (0<=A/\A<12/\0<R.getD A.toNat 0)=true:=Nq (by rw[b4];exact hh)
     rw[Nh hh]at L;obtain⟨b,rfl⟩:=NL hh.1;have g5:b<12:=by have:=hh.2.1;omega
     have k6:(b:Int)<12:=by omega
     have a6:Ni MK 148 #[Ny (WR R).toArray,MF ME (b:Int)] W fun r z=>r=MN (M3 Nw)/\M6 (MQ W.heap.size W z/\True)/\z.cell? ⟨f.heap.size,0,MH⟩=MI (MG vp out.length vc)/\z.cell? ⟨G,1,MH⟩=MI (MF ME (b:Int)):=(agA R (b:Int) W f7).mono fun r z h=>by
      rw[hd]at h;exact⟨h.1,⟨h.2,trivial⟩,Xu (WO J h.2),(Xa (WO Q h.2)).2.1⟩
     have U:M6 (_/\_/\_/\_/\_/\_/\_/\_/\_):=⟨J,m,N,C,s,Q,L,b5,a6⟩;clear J m N C s Q L b5 a6 hh hd ho b4;have i5:∀(z E:MO) {g' a2:Nat},MQ W.heap.size W z->E.ownsRow I.heap.size 3 1 (MG (MI ⟨g',0,MH⟩) (out.length+1) a2) (out.length+1) (WR out++[MF ME (b:Int)])->(z.alloc (MP #[MF ME (b:Int)] 3)).grownBy E (MG vp out.length vc).ownBlock ->
       E.cell? ⟨f.heap.size,0,MH⟩=MI (MG vp out.length vc)/\E.frozen? ⟨f.heap.size,0,MH⟩=Nb/\E.cell? ⟨G,1,MH⟩=MI (MF ME (b:Int))/\E.cell? ⟨d.heap.size,b,MH⟩=MI (MF ME ((ZP a out).getD b 0))/\E.frozen? ⟨d.heap.size,b,MH⟩=Nb/\(f.heap.size≠G/\d.heap.size≠f.heap.size/\G≠f.heap.size) /\
       M6 (KeepsFrom I.heap.size W ((E.setCell ⟨f.heap.size,0,MH⟩ (MG (MI ⟨g',0,MH⟩) (out.length+1) a2)).setCell ⟨d.heap.size,b,MH⟩ (MF ME 0))/\abo (agv I.heap.size d.heap.size f.heap.size) W ((E.setCell ⟨f.heap.size,0,MH⟩ (MG (MI ⟨g',0,MH⟩) (out.length+1) a2)).setCell ⟨d.heap.size,b,MH⟩ (MF ME 0)) /\
        adE w I d.heap.size f.heap.size a (aa5 a (S++[(xa,(b:Int))])) ((E.setCell ⟨f.heap.size,0,MH⟩ (MG (MI ⟨g',0,MH⟩) (out.length+1) a2)).setCell ⟨d.heap.size,b,MH⟩ (MF ME 0))):=by
      intro z E g' a2 q b7 c4;obtain⟨J,m,N,C,s,Q,L,_,_⟩:=U.out;obtain⟨_,q1,q2,q3,q4⟩:=HM.out;have g0:=YI m q;have c8:=WO Q q;obtain⟨s1,s2,s3,s4,s5⟩:=atx (w:=w) (WL:=I) (g6:=d.heap.size) (g10:=f.heap.size) (a:=a) (WO J q) g0 (N.below q) (C.trans (q.mono C.size)) (Nm s q.size) b7 c4 (by omega) (by omega) (by omega) (by omega) g5;have j5:E.heap[G]?=MI (MP #[MF ME xa,MF ME (b:Int)] 153 (0,0)):=
       ((c4.block G (by have:=(Array.getElem?_eq_some_iff.1 c8).1;simp;omega) (fun e=>atX c8 (by decide) g0 e.symm)).trans (Ov _ _ _ (Array.getElem?_eq_some_iff.1 c8).1)).trans c8
      refine⟨Xu s1,s1.frozen,(Xa j5).2.1,s2.at b g5,s2.Gu b,⟨by omega,by omega,by omega⟩,(aiA q).trans s5,(aiB q s).F0 s4,?_⟩;rw[L];exact s3
     gi_wp2_with (first|((with_reducible refine anb _ rfl 224 (O6 6) rfl (Na (MI ⟨d.heap.size,0,MH⟩)) (Ny (WR R).toArray) ?hx ?hr ?_);(case hx=>rfl);(case hr=>exact U.out.2.2.2.2.2.2.2.1))|(refine⟨trivial,?_⟩;gi_at_call 148;refine(Tr lp (callsIn_wide.2 U.out.2.2.2.2.2.2.2.2)).mono ?_;rintro r z ⟨rfl,q,k9,k7⟩)|(gi_at_builtin;refine wpListIn_append_own _ rfl _ _ 191 rfl I.heap.size 3 i0 (MF ME 0) 1 8 Tryz.underlying191 hi j3 j6 j4 rfl (by decide) (MG vp out.length vc) out.length (WR out) rfl ((YI U.out.2.1 q.out.1).alloc _) ⟨z.heap.size,0,MH⟩ 1 1 [MF ME (b:Int)] rfl rfl (acR _ _ _) (by intro u hu;rw[List.mem_singleton.1 hu];rfl) (by unfold NE;omega) (by omega) (by have h1:=q.out.1.size;have h2:=U.out.2.2.2.2.1;simp;omega) ?_;intro v5 E b7 c4 _;obtain⟨g',a2,rfl⟩:=ownsRow_succ b7;obtain⟨c5,d5,e5,f5,k5,m5,i9⟩:=i5 _ _ q.out.1 b7 c4))
     exact i9.out
    ·have hd:Nn (0<=A/\A<12/\0<R.getD A.toNat 0)=false:=M0 (by rw[b4];exact hh)
     rw[Nf hh]at L;have a6:Ni MK 148 #[Ny (WR R).toArray,MF ME A] W fun r z=>r=MN (M3 Nb)/\M6 (MQ W.heap.size W z/\True):=(agA R A W f7).mono fun r z h=>by
      rw[hd]at h;exact⟨h.1,⟨h.2,trivial⟩⟩
     have U:M6 (_/\_/\_/\_/\_/\_/\_/\_/\_):=⟨J,m,N,C,s,Q,L,b5,a6⟩;clear J m N C s Q L b5 a6 hh hd ho b4
     gi_wp2_with (first|((with_reducible refine anb _ rfl 224 (O6 6) rfl (Na (MI ⟨d.heap.size,0,MH⟩)) (Ny (WR R).toArray) ?hx ?hr ?_);(case hx=>rfl);(case hr=>exact U.out.2.2.2.2.2.2.2.1))|(refine⟨trivial,?_⟩;gi_at_call 148;refine(Tr lp (callsIn_wide.2 U.out.2.2.2.2.2.2.2.2)).mono ?_;rintro r z ⟨rfl,q⟩))
     obtain⟨J,m,N,C,s,Q,L,_,_⟩:=U.out;refine⟨aiA q.out.1,aiB q.out.1 s,?_⟩;show adE w I d.heap.size f.heap.size a (aa5 a (S++[(xa,A)])) z;rw[L];exact adE.below ⟨⟨_,J,m⟩,N,C,s⟩ q.out.1
   case done =>
    rintro D ys W hD rfl ⟨⟨v,J,m⟩,N,C,s⟩ M;have hc:=J.cell;obtain⟨vp,vc,rfl⟩:=Y6 m;have HF:M6 (_/\_/\_/\_):=⟨m,C,M,hD⟩;clear m C M hD N J;go_wp2;obtain⟨m,C,M,hD⟩:=HF.out;refine⟨by simp,Nt ⟨_,_,rfl,run_takeDeferred M,?_⟩⟩;refine⟨_,SZ rfl _ _ _,⟨_,_,rfl,?_,NF (NF ⟨V.out.1,⟨by omega,by omega⟩,rfl,?_⟩)⟩⟩
    ·exact C.trans (belowK_b (w:=w) (MV _) W D _ _ (by have:=O.out.1.size;omega) M rfl rfl)
    ·have e:=aup V.out.1 at_
     rw[<-V.out.2]at e;rw[e]at m⊢;rw[NR,<-HK.out.2];exact(ownsRow_putObj m _ M rfl).mono O.out.1.size
   case stop =>
    rintro D c' S W _ _ h _;exact h.elim
  ·have i7:n<0\/4294967295<n:=by omega
   go_wp2_with ((with_reducible refine OW rfl 224 (O6 6) (O6 15) rfl d.heap.size 0 (WR a).toArray ?hx ?hy ?ht ?hi ?h1 ?_);(case hx=>rfl);(case hy=>rfl);(case ht=>exact H.out.1);(case hi=>exact H.out.2.1);(case h1=>exact H.out.2.2.1);rw[NS,<-H.out.2.2.2])
   refine(atN n _ i7).mono ?_;rintro r f ⟨rfl,rfl⟩;go_wp2;exact⟨_,SZ rfl _ _ _,⟨_,_,rfl,Z.out.2.1,NF (Nt ⟨V.out.1,hn,rfl,rfl⟩)⟩⟩
end
theorem auo(v:M7)(a:List Int)(key:Nat)(w:MO)(ha:XI a)(hv:Xz w v (WW a))(hk:key<4294967296) :
  Ni MK 124 #[Ny #[v],MF ME (key:Int)] w fun r w'=>∃p c,r=MN (Nv #[MG p (acy (WW a) (abp key:Nat)).length c,MF ME 0])/\w'.ownsRow w.heap.size 3 1 (MG p (acy (WW a) (abp key:Nat)).length c) (acy (WW a) (abp key:Nat)).length (WR (acy (WW a) (abp key:Nat)))/\MQ w.heap.size w w' :=
 (aun v (WW a) (key:Int) w hv).mono fun r w' h=>by
  obtain⟨y,e,rfl,f,h⟩:=h;rw[NR]at h;rcases h with⟨j,_⟩|⟨_,i,_⟩|⟨_,_,rfl,d⟩
  ·exact absurd (afi ha) j
  ·exact absurd ⟨by omega,by omega⟩ i
  ·obtain⟨p,c,rfl⟩:=Y6 d
   exact⟨p,c,rfl,d,f⟩
theorem at1(v:M7)(a:List Int)(b:Nat)(w:MO)(ha:XI a)(hv:Xz w v (WW a))(hb:b<12)(h0:0<a.getD b 0) :
  Ni MK 104 #[Ny #[v],MF ME (b:Int)] w fun r w'=>∃p c,r=MN (Nv #[Ny #[MG p (WW (a.set b 0)).length c],MF ME 0])/\w'.ownsRow w.heap.size 153 2 (MG p (WW (a.set b 0)).length c) (WW (a.set b 0)).length (WP (WW (a.set b 0)))/\MQ w.heap.size w w' :=
 (at0 v (WW a) (b:Int) w hv).mono fun r w' h=>by
  obtain⟨y,e,rfl,f,h⟩:=h;rw[agK ha,NR]at h;rcases h with⟨j,_⟩|⟨_,i,_⟩|⟨_,_,rfl,d⟩
  ·exact absurd (afi ha) j
  ·exact absurd ⟨⟨by omega,by omega⟩,h0⟩ i
  ·obtain⟨p,c,rfl⟩:=Y6 d
   exact⟨p,c,rfl,d,f⟩
end Go.Proofs.YtmpokpecfclapaaGreatDoor.Q
