/-
  Contracts of the layers and of core, part 2. Conditions: as each theorem says.
-/
import Derived.Shelf.SlSortCmp.NoneTotal
import Derived.Deep.Upon
import Derived.Deep.CutRange
import Derived.RangeFuncNested
import Derived.RangeFuncBound
import Derived.Shelf.RegionOpen
import Derived.OwnWalkIn
import Derived.LoopNIn
import Derived.LoopIn
import Derived.Test.YtbdpocjfnnojbaaGreatDoorP0
open Array renaming getElem?_append_left->Rt,getElem?_eq_some_iff->ZAa,replicate_succ->Sg,replicate_zero->Sh,toList->RW
open Bool renaming false->Nb,noConfusion->PP,not_eq_true'->SX,true->Nw
open Decidable renaming decide->Nn
open Go renaming Addr->Oc,Calls->Ni,Program->O8,TypeId->NU,Value->M7,World->MO,maxLen->NE,results_tmp2->SZ,undef->PL
open Go.Act renaming put->Nr
open Go.AllReadyH renaming cons->NP,nil->NX
open Go.CallsIn renaming inRound->Tr
open Go.Ending renaming returned->MN
open Go.Fence renaming wide->SJ
open Go.Fn renaming func->PD
open Go.Instr renaming index->Qy
open Go.IntKind renaming i64->ME
open Go.Obj renaming cells->MP
open Go.Operand renaming tmp->O6
open Go.Proofs.SlLaysF0 renaming n6->Tv
open Go.Proofs.Tryz renaming func101->QB,func124->VV,func150->Uf,func182->ayY,func183->Ws,func185->TY,func188->ayh,func212->azr,func213->WC,func240->VR,func241->PH,func242->ayk,func243->S5,func246->aAT,ntmps101->Qo,ntmps124->VL,ntmps150->T5,ntmps182->ayN,ntmps183->Wg,ntmps185->TS,ntmps188->ax9,ntmps212->azm,ntmps213->Wn,ntmps240->VJ,ntmps241->PA,ntmps242->ayc,ntmps243->SD,ntmps246->aAJ,prog->MK,results124->VA,results182->Uq,results188->aAd,underlying311->az0,underlying46->U9,underlying48->ax1
open Go.RowKit renaming Below->MQ,Hid->M6
open Go.Sort renaming ahead->Ts,alloc_eq_grow->PQ,grow->Oj,mapBlock->Th
open Go.Value renaming agg->Ny,bool->M3,func->PB,int->MF,ownBlock->QQ,pointer->Na,slice->MG,tuple->Nv
open Go.World renaming cell?->Nl,frozen?->Ng,heap_setCells_other->N8,setCell->Q4,setCells->Qd
open List renaming append_toArray->Sk,getElem?_eq_some_iff->ZAb,length_eq_zero_iff->ZAc,mem_filter->ZAf,mem_map->ZAd,pairwise_cons->ZAe,push_toArray->SY,range->Pm,replicate->Nj
open Option renaming none->MH,some->MI
open Or renaming inl->Nt,inr->NF
namespace Go.Proofs.YtbdpocjfnnojbaaGreatDoor.Q
set_option linter.unusedVariables false
set_option linter.unusedSimpArgs false
set_option maxHeartbeats 16000000
set_option maxRecDepth 100000
open Go.RowKit
attribute [local go_sem ↓] Go.wp_at_zero Go.wp_at_succ
variable {at_:Int}{out:List Int}{l:List Tm}{v:M7}{W W' w w':MO}{B g g10 g6 k:Nat}{P:O8}{t:Tm}
section
open Go.Shelf Go.Lib Go.Sort
def at4:Go.Shelf.Ren:=⟨fun|6=>290|15=>309|14=>308|28=>322|29=>191|20=>314|21=>315|22=>316|23=>317|24=>318|25=>319|26=>320|27=>321|46=>325|47=>326|48=>327|49=>328|50=>329|57=>330|n=>n,fun|22=>46|24=>220|25=>418|3=>3|39=>137|0=>0|53=>326|55=>254|4=>4|46=>434|45=>433|50=>234|5=>5|9=>9|66=>441|70=>91|76=>446|77=>447|n=>n,fun|n=>n⟩
theorem amZ:Tv MK at4:={
 mixed:=by kernel_rfl
 f6:=⟨Tryz.f290.name,by decide,Tryz.func290.trans (congrArg MI (by kernel_rfl))⟩
 f14:=⟨Tryz.f308.name,by decide,Tryz.func308.trans (congrArg MI (by kernel_rfl))⟩
 f15:=Tryz.func309.trans (congrArg MI (by kernel_rfl))
 f20:=⟨Tryz.f314.name,by decide,Tryz.func314.trans (congrArg MI (by kernel_rfl))⟩
 f21:=⟨Tryz.f315.name,by decide,Tryz.func315.trans (congrArg MI (by kernel_rfl))⟩
 f22:=⟨Tryz.f316.name,by decide,Tryz.func316.trans (congrArg MI (by kernel_rfl))⟩
 f23:=⟨Tryz.f317.name,by decide,Tryz.func317.trans (congrArg MI (by kernel_rfl))⟩
 f24:=⟨Tryz.f318.name,by decide,Tryz.func318.trans (congrArg MI (by kernel_rfl))⟩
 f25:=⟨Tryz.f319.name,by decide,Tryz.func319.trans (congrArg MI (by kernel_rfl))⟩
 f26:=⟨Tryz.f320.name,by decide,Tryz.func320.trans (congrArg MI (by kernel_rfl))⟩
 f27:=⟨Tryz.f321.name,by decide,Tryz.func321.trans (congrArg MI (by kernel_rfl))⟩
 f28:=Tryz.func322.trans (congrArg MI (by kernel_rfl))
 f29:=Tryz.func191.trans (congrArg MI (by kernel_rfl))
 f46:=⟨Tryz.f325.name,by decide,Tryz.func325.trans (congrArg MI (by kernel_rfl))⟩
 f47:=Tryz.func326.trans (congrArg MI (by kernel_rfl))
 f48:=Tryz.func327.trans (congrArg MI (by kernel_rfl))
 f49:=⟨Tryz.f328.name,by decide,Tryz.func328.trans (congrArg MI (by kernel_rfl))⟩
 f50:=⟨Tryz.f329.name,by decide,Tryz.func329.trans (congrArg MI (by kernel_rfl))⟩
 f57:=⟨Tryz.f330.name,by decide,Tryz.func330.trans (congrArg MI (by kernel_rfl))⟩
 t0:=Tryz.underlying0
 a0:=Tryz.isAgg0
 z0:=Tryz.sizeOf0
 v0:=Tryz.zeroValue0
 t3:=Ol
 a3:=Tryz.isAgg3
 z3:=Tryz.sizeOf3
 v3:=Tryz.zeroValue3
 t4:=Tryz.underlying4
 a4:=Tryz.isAgg4
 z4:=Tryz.sizeOf4
 v4:=Tryz.zeroValue4
 t5:=Tryz.underlying5
 a5:=Tryz.isAgg5
 z5:=Tryz.sizeOf5
 v5:=Tryz.zeroValue5
 t9:=Tryz.underlying9
 a9:=Tryz.isAgg9
 z9:=Tryz.sizeOf9
 v9:=Tryz.zeroValue9
 t22:=U9
 a22:=Tryz.isAgg46
 z22:=Tryz.sizeOf46
 v22:=Tryz.zeroValue46
 t25:=Tryz.underlying418
 a25:=Tryz.isAgg418
 z25:=Tryz.sizeOf418
 v25:=Tryz.zeroValue418
 t39:=Tryz.underlying137
 a39:=Tryz.isAgg137
 z39:=Tryz.sizeOf137
 v39:=Tryz.zeroValue137
 t45:=Tryz.underlying433
 a45:=Tryz.isAgg433
 z45:=Tryz.sizeOf433
 v45:=Tryz.zeroValue433
 t46:=Tryz.underlying434
 a46:=Tryz.isAgg434
 z46:=Tryz.sizeOf434
 v46:=Tryz.zeroValue434
 t50:=Tryz.underlying234
 a50:=Tryz.isAgg234
 z50:=Tryz.sizeOf234
 v50:=Tryz.zeroValue234
 t53:=Tryz.underlying326
 a53:=Tryz.isAgg326
 z53:=Tryz.sizeOf326
 v53:=Tryz.zeroValue326
 t55:=Tryz.underlying254
 a55:=Tryz.isAgg254
 z55:=Tryz.sizeOf254
 v55:=Tryz.zeroValue254
 t66:=Tryz.underlying441
 a66:=Tryz.isAgg441
 z66:=Tryz.sizeOf441
 v66:=Tryz.zeroValue441
 t70:=Tryz.underlying91
 a70:=Tryz.isAgg91
 z70:=Tryz.sizeOf91
 v70:=Tryz.zeroValue91
 t76:=Tryz.underlying446
 a76:=Tryz.isAgg446
 z76:=Tryz.sizeOf446
 v76:=Tryz.zeroValue446
 t77:=Tryz.underlying447
 a77:=Tryz.isAgg447
 z77:=Tryz.sizeOf447
 v77:=Tryz.zeroValue447}
end
theorem aug(a b c d:Int):(a=c/\b=d)\/((a == c)=Nb\/a=c/\(b == d)=Nb):=by
 simp only[Oh]
 by_cases h:a=c <;> by_cases h':b=d <;> simp[h,h']
theorem amB{a:MO}(h:MQ B a w)(n:Nat):MQ B a (w.drewN n):=h.trans ⟨rfl,rfl,rfl,MV _,fun _ _=>rfl⟩
theorem amC(h:MQ B w w')(hB:w.heap.size<=B):yA w w':=h.mono hB
theorem amP:(MK.info? 220).map (fun i=>(i.zero,i.size,i.bytes))=MI (MI (Ny #[yB 0,yB 0]),2,16):=by kernel_rfl
theorem afc(a:Tm):¬Xe a a<0:=by rw[acY];omega
theorem am0:∀ {l m:List Tm},l.Pairwise (fun a b=>Xe a b<0)->m.Pairwise (fun a b=>Xe a b<0)->(∀x,x∈l↔x∈m)->l=m
 | [],[],_,_,_=>rfl
 | [],b::m,_,_,h=>absurd ((h b).2 (NM ..)) (by simp)
 |a::l,[],_,_,h=>absurd ((h a).1 (NM ..)) (by simp)
 |a::l,b::m,h1,h2,h=>by
  have j:=ZAe.1 h1;have o:=ZAe.1 h2;have q:a=b:=by
   rcases OO.1 ((h a).1 (NM ..))with e|e
   ·exact e
   ·rcases OO.1 ((h b).2 (NM ..))with e'|e'
    ·exact e'.symm
    ·exact absurd (aef (j.1 b e') (o.1 a e)) (afc a)
  subst q;have:l=m:=am0 j.2 o.2 fun x=>by
   constructor
   ·intro i
    rcases OO.1 ((h x).1 (NB _ i))with e|e
    ·subst e;exact absurd (j.1 x i) (afc x)
    ·exact e
   ·intro i
    rcases OO.1 ((h x).2 (NB _ i))with e|e
    ·subst e;exact absurd (o.1 x i) (afc x)
    ·exact e
  rw[this]
theorem atG(f:Nat->Nat->Nat)(s:Nat)(l:List Nat)(k:Nat)(hk:k<l.length):(l.take (k+1)).foldl f s=f ((l.take k).foldl f s) (l.getD k 0):=by
 rw[List.take_add_one,Pu,MR hk,NK,MR hk];simp only[Option.toList_some,O4,List.foldl_nil,OV]
theorem amN(f:Nat->Nat->Nat)(s N:Nat)(hs:s<N)(hf:∀h c,f h c<N)(l:List Nat):l.foldl f s<N:=by
 induction l generalizing s with
 |nil=>exact hs
 |cons c l ih=>exact ih _ (hf _ _)
theorem atF(f:Nat->Nat->Nat)(N:Nat)(hf:∀h c,f h c<N)(hi:∀h k c,h<N->k<N->c<N->f h c=f k c->h=k)(l:List Nat)(h k:Nat)(hh:h<N)(hk:k<N)(hl:∀c∈l,c<N)(e:l.foldl f h=l.foldl f k):h=k:=by
 induction l generalizing h k with
 |nil=>exact e
 |cons c l ih=>exact hi h k c hh hk (hl c (by simp)) (ih _ _ (hf _ _) (hf _ _) (fun x hx=>hl x (by simp[hx])) e)
theorem atD(f:Nat->Nat->Nat)(s N:Nat)(hs:s<N)(hf:∀h c,f h c<N)(hi:∀h k c,h<N->k<N->c<N->f h c=f k c->h=k)(hr:∀h c d,h<N->c<N->d<N->f h c=f h d->c=d)
  (p q:List Nat) (c d:Nat) (hc:c<N) (hd:d<N) (hq:∀x∈q,x<N) (e:(p++c::q).foldl f s=(p++d::q).foldl f s):c=d:=by
 rw[Pu,Pu,O4,O4]at e;exact hr _ c d (amN f s N hs hf p) hc hd (atF f N hf hi q _ _ (hf _ _) (hf _ _) hq e)
def aah(h c:Nat):Nat:=(h ^^^ c)*16777619 % 4294967296
def aei:Nat:=2166136261
def aaS(l:List Nat):Nat:=l.foldl aah aei
theorem am4:aei<4294967296:=by unfold aei;omega
theorem am6(h c:Nat):aah h c<4294967296:=Nat.mod_lt _ (by omega)
theorem amR(l:List Nat):aaS l<4294967296:=amN aah aei _ am4 am6 l
theorem atU(l:List Nat)(k:Nat)(hk:k<l.length):aaS (l.take (k+1))=aah (aaS (l.take k)) (l.getD k 0):=atG aah aei l k hk
theorem amS(x:Nat)(h:x<4294967296):x*16777619 % 4294967296*899433627 % 4294967296=x:=by omega
theorem aiX(a b:Nat)(ha:a<4294967296)(hb:b<4294967296):a ^^^ b<4294967296:=Nat.xor_lt_two_pow (n:=32) ha hb
theorem am5(h c k d:Nat)(hh:h<4294967296)(hc:c<4294967296)(hk:k<4294967296)(hd:d<4294967296)(e:aah h c=aah k d):h ^^^ c=k ^^^ d:=by
 have i:=amS _ (aiX h c hh hc);have j:=amS _ (aiX k d hk hd);unfold aah at e;rw[e]at i;exact i.symm.trans j
theorem anf(a b c:Nat)(h:a ^^^ b=a ^^^ c):b=c:=by
 have:=congrArg (a ^^^ ·) h
 simpa [<-Nat.xor_assoc]using this
theorem aue(h c d:Nat)(hh:h<4294967296)(hc:c<4294967296)(hd:d<4294967296)(e:aah h c=aah h d):c=d :=
 anf h c d (am5 h c h d hh hc hh hd e)
theorem aud(h k c:Nat)(hh:h<4294967296)(hk:k<4294967296)(hc:c<4294967296)(e:aah h c=aah k c):h=k:=by
 have:=am5 h c k c hh hc hk hc e;rw[Nat.xor_comm h,Nat.xor_comm k]at this;exact anf c h k this
theorem atW(p q:List Nat)(c d:Nat)(hc:c<4294967296)(hd:d<4294967296)(hq:∀x∈q,x<4294967296)(e:aaS (p++c::q)=aaS (p++d::q)):c=d :=
 atD aah aei _ am4 am6 aud aue p q c d hc hd hq e
theorem auc(h c:Nat):((h ^^^ c:Nat):Int)*16777619 % 4294967296=((aah h c:Nat):Int):=by
 unfold aah;omega
def amD(n:Nat):List Nat:=[n % 256,n / 256 % 256,n / 65536 % 256,n / 16777216 % 256]
def abp(n:Nat):Nat:=aaS (amD n)
def aaA(b i:Nat):Nat:=aaS [98,b,i,115]
theorem aub(b i j:Nat)(hi:i<4294967296)(hj:j<4294967296):aaA b i=aaA b j↔i=j :=
 ⟨fun e=>atW [98,b] [115] i j hi hj (by simp) e,fun e=>by rw[e]⟩
theorem atV(b:Nat)(l:List Nat)(w:MO)(hb:l.length<=1000)(hr:∀j,l.getD j 0<256)(hc:∀j,j<l.length->w.cell? ⟨b,j,MH⟩=MI (MF .u8 ((l.getD j 0:Nat):Int))) :
  Ni MK 262 #[MG (MI ⟨b,0,MH⟩) l.length l.length] w fun e w'=>e=MN (yB ((aaS l:Nat):Int))/\w'=w:=by
 go_enter Tryz.func262,Tryz.ntmps262
 go_hidden (go_wp2)
 go_loop [3,8] (fun s i=>∃k:Nat,k<=l.length/\i=yB k/\s=MF .u32 ((aaS (l.take k):Nat):Int)) (fun _ i=>l.length-(intOf i).toNat)
 case atStart=>exact⟨0,Nx _,rfl,rfl⟩
 case round =>
  obtain⟨k,z,rfl,rfl⟩:=hrel
  by_cases hlt:k<l.length
  ·have r:=hc k hlt
   have x:=hr k;have o:=atU l k hlt;have m:=amR (l.take k);generalize l.getD k 0=c at *;generalize aaS (l.take k)=h at *;have y:=u32_xor_nat h c m (by omega);have u:=aiX h c m (by omega);have q:M6 (aaS (l.take (k+1))=aah h c):=o;clear o
   go_hidden (go_wp2)
   go_round
   case rel=>exact⟨k+1,by omega,by go_num,by rw[q.out,auc]⟩
   case measure=>simp[intOf];omega
  ·have:k=l.length:=by omega
   subst this;have m:=amR l
   go_hidden (go_wp2)
   go_ret;exact⟨rfl,rfl⟩
theorem amQ(a b c d:Int)(w:MO)(a0:0<=a)(a1:a<256)(b0:0<=b)(b1:b<256)(c0:0<=c)(c1:c<256)(d0:0<=d)(d1:d<256) :
  Ni MK 262 #[MG (MI ⟨w.heap.size,0,MH⟩) 4 4] (w.alloc (MP #[MF .u8 a,MF .u8 b,MF .u8 c,MF .u8 d] 5)) fun e w'=>e=MN (yB ((aaS [a.toNat,b.toNat,c.toNat,d.toNat]:Nat):Int))/\w'=w.alloc (MP #[MF .u8 a,MF .u8 b,MF .u8 c,MF .u8 d] 5):=by
 refine atV w.heap.size [a.toNat,b.toNat,c.toNat,d.toNat] _ (by simp) ?_ ?_
 ·intro j
  match j with
  |0=>simp;omega
  |1=>simp;omega
  |2=>simp;omega
  |3=>simp;omega
  |j+4=>simp
 ·intro j i
  match j,i with
  |0,_=>simp[go_sem];omega
  |1,_=>simp[go_sem];omega
  |2,_=>simp[go_sem];omega
  |3,_=>simp[go_sem];omega
theorem atL(n:Nat)(h:n<=4294967295):aaS [((n:Int) % 256).toNat,((n:Int) / 256 % 256).toNat,((n:Int) / 65536 % 256).toNat,((n:Int) / 16777216).toNat]=abp n:=by
 unfold abp amD;rw[show((n:Int) % 256).toNat=n % 256 by omega,show((n:Int) / 256 % 256).toNat=n / 256 % 256 by omega,show((n:Int) / 65536 % 256).toNat=n / 65536 % 256 by omega,show((n:Int) / 16777216).toNat=n / 16777216 % 256 by omega]
theorem atM(n:Nat)(w:MO)(h:n<=4294967295) :
  Ni MK 212 #[yB (n:Int)] w fun e w'=>e=MN (Nv #[yB ((abp n:Nat):Int),yB 0])/\yA w w':=by
 rw[<-atL n h];go_enter azr,azm
 go_wp2_with fail
 refine(amQ _ _ _ _ _ (by omega) (by omega) (by omega) (by omega) (by omega) (by omega) (by omega) (by omega)).mono ?_;rintro e w' ⟨rfl,rfl⟩;go_wp2
 go_ret2
 exact⟨rfl,(MY _ _).alloc (MV _) _⟩
theorem atN(n:Int)(w:MO)(h:n<0\/4294967295<n) :
  Ni MK 212 #[yB n] w fun e w'=>e=MN (Nv #[yB 0,yB 2])/\w'=w:=by
 rcases h with h|h
 ·go_enter azr,azm
  go_wp2
  go_ret2
  exact⟨rfl,rfl⟩
 ·have i:¬n<0:=by omega
  go_enter azr,azm;go_wp2
  go_ret2
  exact⟨rfl,rfl⟩
theorem at9(b i:Nat):aaS [(98:Int).toNat,((b:Int)).toNat,((i:Int)).toNat,(115:Int).toNat]=aaA b i:=by
 unfold aaA;rw[NR,NR,show(98:Int).toNat=98 by omega,show(115:Int).toNat=115 by omega]
theorem aua(b i:Nat)(w:MO)(hb:b<12)(hi:i<32) :
  Ni MK 289 #[yB (b:Int),yB (i:Int)] w fun e w'=>e=MN (Nv #[yB ((aaA b i:Nat):Int),yB 0])/\yA w w':=by
 rw[<-at9 b i];go_enter Tryz.func289,Tryz.ntmps289
 go_wp2_with fail
 refine(amQ _ _ _ _ _ (by omega) (by omega) (by omega) (by omega) (by omega) (by omega) (by omega) (by omega)).mono ?_;rintro e w' ⟨rfl,rfl⟩;go_wp2
 go_ret2
 exact⟨rfl,(MY _ _).alloc (MV _) _⟩
theorem ac1(a:List Int):∀v∈WR a,v.oneCell'=true:=by
 intro v i;obtain⟨x,_,rfl⟩:=ZAd.1 i;rfl
section
variable {T:NU}{n:Nat}{w w':MO}{g:Nat}{a b:List Int}
theorem Xj.Hk(h:Xj T n w g a){p:Oc}(hne:g≠p.block)(v:M7):Xj T n (w.setCell p v) g a:=h.Gf (MU _ _ _ _ hne)
theorem Xj.new(w:MO)(T:NU)(a:List Int):Xj T a.length (w.alloc (MP (WR a).toArray T)) w.heap.size a:=⟨M1 _ _,rfl⟩
theorem Xj.Gq(h:Xj T n w g a):w.rangeAt g 0 (WR a):=fun j v hv=>by
 rw[Oa,MW w g j _ T (0,0) h.1]
 simpa using hv
theorem Xj.GB(h:Xj T n w g a):w.there g 0 n:=fun j hj=>by
 rw[Oa,h.F7 j (by rw[h.2];exact hj)];exact⟨rfl,h.Gu j⟩
theorem Xj.I9{d:TypeDesc}(h:Xj T n w g a)(hu:P.underlying T=MI d)(hd:d.isRow=Nw)(hi:(P.info? T).map (·.size)=MI n):(Instr.loadAt T (Na (MI ⟨g,0,MH⟩))).run P w=.ok (Ny (WR a).toArray) w :=
 run_loadAt_mid w g 0 T (WR a) d h.Gq hu hd (by rw[hi,Zv,h.2])
theorem Xj.Io{d:TypeDesc}(h:Xj T n w g a)(hu:P.underlying T=MI d)(hd:d.isRow=Nw)(hi:(P.info? T).map (·.size)=MI n):(loadVar T ⟨g,0,MH⟩).run P w=.ok (Ny (WR a).toArray) w :=
 run_loadVar_mid w g 0 T (WR a) d h.Gq hu hd (by rw[hi,Zv,h.2])
theorem Xj.Hq(h:Xj T n w g a)(hb:b.length=n)(hi:(P.info? T).map (·.size)=MI n):(Instr.storeAt T (Na (MI ⟨g,0,MH⟩)) (Ny (WR b).toArray)).run P w=.ok () (w.setCells g 0 (WR b))/\Xj T n (w.setCells g 0 (WR b)) g b:=by
 constructor
 ·have i:=run_storeAt_mid (P:=P) w g 0 T (WR b).toArray (by simp[Zv,hb];exact h.GB) (by simp[Zv,hb,hi]) (OE (ac1 b))
  simpa using i
 ·have i:=ac0 T g (WR b) [] (WR a) w (by rw[Zv,Zv,h.2,hb]) (by simpa using h.1)
  exact⟨by simpa using i,hb⟩
theorem am8(g:Nat):∀(vs:List M7) (o:Nat) (w:MO),(w.setCells g o vs).tape=w.tape
 | [],_,_=>rfl
 |v::vs,o,w=>by rw[Qd,am8 g vs];simp[Q4]
theorem ac3(g:Nat):∀(vs:List M7) (o:Nat) (w:MO),(w.setCells g o vs).heap.size=w.heap.size
 | [],_,_=>rfl
 |v::vs,o,w=>by rw[Qd,ac3 g vs];simp
theorem adF{w0:MO}(h:MQ B w0 w)(hg:B<=g)(o:Nat)(vs:List M7)(hB:B<=w.heap.size):MQ B w0 (w.setCells g o vs):=by
 refine h.trans ⟨World.os_setCells _ _ _ _,am8 _ _ _ _,World.output_setCells _ _ _ _,by rw[ac3];exact MV _,fun i hi=>N8 w g o vs (by omega) (by omega)⟩
end
theorem atz(a b c d:Int)(w:MO) :
  Ni MK 291 #[Ny #[yB a,yB b],Ny #[yB c,yB d]] w fun r w'=>r=MN (yB (Xe (a,b) (c,d)))/\w'=(((w.alloc (MP #[yB a,yB b] 220)).alloc (MP #[yB c,yB d] 220)).alloc (MP #[yB (YK a c),yB (YK b d)] 3)).drew:=by
 obtain⟨o,i⟩:=yE (Xe (a,b) (c,d));rw[<-i];rw[aiC]at i;obtain⟨x,m⟩:=yE (YK a c);obtain⟨y,j⟩:=yE (YK b d);rw[<-m,<-j]at i;have H:M6 (_/\_/\_):=⟨i,m,j⟩;clear i m j;rw[<-H.out.2.1,<-H.out.2.2];go_enter Tryz.func291,Tryz.ntmps291
 go_wp2_with fail
 generalize hw2:(w.alloc (MP #[yB a,yB b] 220)).alloc (MP #[yB c,yB d] 220)=w2;have q:w2.cell? ⟨w.heap.size,0,MH⟩=MI (yB a):=by rw[<-hw2];simp
 have s:w2.cell? ⟨w.heap.size,1,MH⟩=MI (yB b):=by rw[<-hw2];simp
 have u:w2.cell? ⟨w.heap.size+1,0,MH⟩=MI (yB c):=by rw[<-hw2];simp
 have A:w2.cell? ⟨w.heap.size+1,1,MH⟩=MI (yB d):=by rw[<-hw2];simp
 have C:M6 _:=hw2;clear hw2
 go_region_held3 (fun w'=>w'.cell? ⟨w.heap.size,0,MH⟩=MI (yB a)/\w'.cell? ⟨w.heap.size,1,MH⟩=MI (yB b)/\w'.cell? ⟨w.heap.size+1,0,MH⟩=MI (yB c)/\w'.cell? ⟨w.heap.size+1,1,MH⟩=MI (yB d)/\yA w2 w') (first|exact afd q s u A ((MY _ _).drew)|exact afd q s u A (((MY _ _).drew).alloc (MV _) _)) (first|(go_at_call_of 265 (yB a);refine(aeg a c _).mono ?_;rw[<-H.out.2.1];rintro r z ⟨rfl,rfl⟩)|(go_at_call_of 265 (yB b);refine(aeg b d _).mono ?_;rw[<-H.out.2.2];rintro r z ⟨rfl,rfl⟩)|(go_at_call 301;refine(aiO x y w2.heap.size _ (by simp) (by simp)).mono ?_;rw[<-H.out.1];rintro r z ⟨rfl,rfl⟩))
 go_wp2;go_ret;exact⟨rfl,by rw[C.out]⟩
section
open Go.Shelf Go.Lib Go.Sort
def ab7(t:Tm):List Value:=[yB t.1,yB t.2]
theorem amM(l:List Tm):flatK ab7 2 l.toArray=(WP l).toArray:=by
 refine ext_get! (by simp[YE]) fun t ht=>?_
 have j:t<l.length*2:=by simpa using ht
 rw[get_flatK _ _ _ t (by simpa using j)];have i:t / 2<l.length:=by omega
 obtain⟨q,o⟩:=aaT l (t / 2) i;have e:(l.toArray)[t / 2]! = l[t / 2]:=by simp[i]
 rw[e];rcases Nat.mod_two_eq_zero_or_one t with m|m
 ·rw[m]
  have:(WP l)[t]?=MI (yB l[t / 2].1):=by rw[<-q];congr 1;omega
  simp[ab7,this]
 ·rw[m]
  have:(WP l)[t]?=MI (yB l[t / 2].2):=by rw[<-o];congr 1;omega
  simp[ab7,this]
theorem adH(x y:Tm):ltOf Xe x y=Nw↔Xe x y<0:=by unfold ltOf;simp
theorem am7:SWO (ltOf Xe)where
 irrefl x:=by rw[<-Qc,adH];exact afc x
 trans x y z h1 h2:=by rw[adH]at *;exact aef h1 h2
 ntrans x y z h1 h2:=by rw[<-Qc,adH,acY]at *;omega
theorem amT(x y:Tm)(h1:ltOf Xe x y=Nb)(h2:ltOf Xe y x=Nb):x=y:=by
 rw[<-Qc,adH,acY]at *;obtain⟨a,b⟩:=x;obtain⟨c,d⟩:=y;simp only at h1 h2;have j:a=c:=by omega
 have i:b=d:=by omega
 rw[j,i]
def ab8(l:List Tm):List Tm:=l.mergeSort fun x y=>!(ltOf Xe) y x
theorem agG(l:List Tm):(ab8 l).Perm l:=List.mergeSort_perm _ _
theorem aiS(l:List Tm):(ab8 l).length=l.length:=(agG l).length_eq
theorem at5(h:l.Nodup):(ab8 l).Pairwise (fun a b=>Xe a b<0):=by
 have i:(ab8 l).Pairwise (fun x y=>(!(ltOf Xe) y x)=Nw):=List.pairwise_mergeSort (le:=fun x y=>!(ltOf Xe) y x)
  (fun a b c i j=>by simp only[SX]at *;exact am7.ntrans _ _ _ j i)
  (fun a b=>by
   cases e:ltOf Xe b a with
   |false=>simp
   |true =>
    have m:ltOf Xe a b=false:=by rw[<-Qc,adH];rw[adH]at e;intro h;exact afc _ (aef h e)
    simp[m]) l
 have j:(ab8 l).Nodup:=(agG l).nodup_iff.2 h;refine(i.and j).imp fun {a b} ⟨ha,hn⟩=>?_
 simp only[SX]at ha;rw[<-adH];cases e:ltOf Xe a b with
 |true=>rfl
 |false=>exact absurd (amT a b e ha) hn
theorem att(blk off size:Nat)(w:MO):CmpLays MK 291 #[] ab7 2 Xe blk off size w :=
 fun m os dk _ x y=>(atz x.1 x.2 y.1 y.2 _).mono (by
  rintro r w' ⟨i,rfl⟩;exact⟨i,1,_,by rw[PQ,PQ,PQ,grow_grow,grow_grow];rfl⟩)
theorem at6(w:MO)(g n k:Nat)(d:Array Tm)(os:Array Obj)(hk:k<w.heap.size)(hne:k≠g):(sortWorldK ab7 2 w g 0 n d os).heap[k]?=w.heap[k]?:=by
 unfold sortWorldK Oj putRowK putRow Th Ts;simp only;rw[Rt (by simpa using hk),Qp,Nf (Pi hne)]
theorem at7(w:MO)(g n:Nat)(d:Array Tm)(os:Array Obj)(cur:Array M7)(e:NU)(hg:w.heap[g]?=MI (MP cur e (0,0))):(sortWorldK ab7 2 w g 0 n d os).heap[g]?=MI (MP (putCells id 0 (flatK ab7 2 d) cur) e (0,0)):=by
 have i:=(ZAa.1 hg).1;unfold sortWorldK Oj putRowK putRow Th Ts;simp only;rw[Rt (by simpa using i),Qp,Nh rfl,hg];rfl
theorem atY(xs:List M7)(cur:Array M7)(h:xs.length<=cur.size):(putCells id 0 xs.toArray cur).toList.take xs.length=xs:=by
 apply Ot;intro i
 by_cases hi:i<xs.length
 ·rw[O0 hi]
  unfold putCells;simp[hi,show i<cur.size by omega]
 ·rw[Nz (by simp;omega),Nz (by omega)]
theorem at8(base:Nat)(v:M7)(l:List Tm)(w:MO)(hown:w.ownsRow base 220 2 v l.length (WP l))(hl:l.length<=1000000) :
  Ni MK 290 #[v,PB (PD 291) #[] #[]] w fun r w'=>r=MN (Nv #[])/\w'.ownsRow base 220 2 v l.length (WP (ab8 l))/\w.grownBy w' v.ownBlock:=by
 have D:=hown;obtain⟨R,⟨rfl,N⟩|⟨g,A,o,rfl,L,i,z,I,s,K⟩⟩:=hown
 ·obtain rfl:l=[]:=ZAc.1 N
  refine(AnyF.slices_SortFunc_none {amZ with} MH 0 (PB (PD 291) #[] #[]) w).mono ?_;rintro r w' ⟨rfl,rfl⟩;exact⟨rfl,by simpa [ab8]using D,⟨rfl,rfl,rfl,MV _,fun _ _ _=>rfl⟩⟩
 ·have F:g<w.heap.size:=(ZAa.1 i).1
  have H:HoldsK ab7 2 w g 0 l.toArray:=by
   unfold HoldsK;rw[amM];intro j Q;have q:j<(WP l).length:=by simpa using Q
   have G:j<l.length*2:=by rw[<-YE];exact q
   have u:o.toList[j]?=(WP l)[j]?:=by rw[<-K,O0 G]
   refine⟨?_,by simp[Ng,i]⟩;simp only[Nl,i,Oa];have S:j<o.size:=by rw[s];have:=O7 2 z;omega
   simp only[Array.getElem?_toList]at u;rw[MR q]at u;simp[u,q]
  have O:∀args w,(callFunc 291 args).run MK w=.ok (.enter 291 args) w:=enters_of Tryz.func291 (by kernel_rfl) rfl;have E:=AnyQ.slices_SortFunc_total amZ 2 (fun w=>by kernel_rfl) (fun w=>by kernel_rfl) ab7 (fun _=>rfl) (fun x v hv=>by simp[ab7]at hv;rcases hv with rfl|rfl <;> rfl) Xe am7 291 #[] g 0 A l.toArray w O (att g 0 _ w) H F (by simp;omega) amT;refine E.mono ?_;rintro r w' ⟨rfl,n,C,rfl⟩;have M:(l.toArray.toList.mergeSort fun x y=>!(ltOf Xe) y x).toArray=(ab8 l).toArray:=rfl;rw[M];have m:(WP (ab8 l)).length=l.length*2:=by rw[YE,aiS]
  refine⟨rfl,⟨by rw[m],NF ⟨g,A,_,rfl,L,at7 w g n _ C o _ i,z,I,by unfold putCells;simpa using s,?_⟩⟩,?_⟩
  ·rw[amM,<-m]
   exact atY _ _ (by rw[m,s];exact O7 2 z)
  ·exact⟨rfl,rfl,rfl,by unfold sortWorldK Oj putRowK putRow Th Ts;simp,fun k hk hne=>at6 w g n k _ C hk (fun e=>hne (by rw[e];rfl))⟩
end
theorem agy(a b id:Int)(g:Nat)(w:MO)(h:w.cell? ⟨g,0,MH⟩=MI (yB id)) :
  Ni MK 185 #[Ny #[yB a,yB b],Na (MI ⟨g,0,MH⟩)] w fun r w'=>r=MN (M3 (Nn (b=id)))/\w'=w.alloc (MP #[yB a,yB b] 220):=by
 have j:g<w.heap.size:=MX w ⟨g,0,MH⟩ h
 by_cases hb:b=id
 ·subst hb
  go_enter TY,TS;go_wp2;go_ret;exact⟨by simp,rfl⟩
 ·have m:(b == id)=false:=by simpa using hb
  have i:Nn (b=id)=false:=M0 hb;rw[i];clear hb;go_enter TY,TS;go_wp2;go_ret;exact⟨rfl,rfl⟩
theorem atJ(v:M7)(l:List Tm)(id:Int)(g:Nat)(w:MO)(hv:Xz w v l)(h:w.cell? ⟨g,0,MH⟩=MI (yB id))(hex:∃t∈l,t.2=id) :
  Ni MK 243 #[v,PB (PD 185) #[] #[Na (MI ⟨g,0,MH⟩)]] w fun r w'=>∃(k:Nat) (hk:k<l.length),r=MN (yB k)/\l[k].2=id/\(∀t∈l.take k,t.2≠id)/\yA w w':=by
 obtain⟨a,S,rfl,R,L,E⟩:=hv.F6;unfold NE at L;have K:=MX w ⟨g,0,MH⟩ h;have D:M6 (_/\_):=⟨h,hex⟩;clear h hex hv;go_enter S5,SD;go_wp2
 go_loopw [8] (fun i wr=>∃k:Nat,i=yB k/\k<=l.length/\(∀t∈l.take k,t.2≠id)/\yA w wr) (fun i _=>l.length-(intOf i).toNat)
 case atStart=>exact⟨0,rfl,Nx _,by simp,MY _ _⟩
 case round =>
  obtain⟨k,rfl,hk,u,o⟩:=hrel
  by_cases hlt:k<l.length
  ·obtain⟨I,G,rfl,y,c1,H⟩:=E k hlt
   have O:=(o.cell (p:=⟨I,G+k*2,MH⟩) y).trans c1;have M:=(o.cell (p:=⟨I,G+k*2+1,MH⟩) y).trans H;have F:=(o.cell (p:=⟨g,0,MH⟩) K).trans D.out.1;have m:M6 (_/\_/\_):=⟨u,o,F⟩;have Q:(k:Int)<(l.length:Int):=by omega
   have C:l.take (k+1)=l.take k++[l[k]]:=M9 hlt;obtain⟨s,A⟩:=yE (l[k].1);obtain⟨q,x⟩:=yE (l[k].2);rw[<-A]at O;rw[<-x]at M;have z:M6 (_/\_):=⟨C,x⟩;clear u o c1 H y C A x F E;cases hd:Nn (q=id)
   ·go_wp2_with fail
    refine(agy s q id g _ m.out.2.2).mono ?_;rw[hd];rintro r N ⟨rfl,rfl⟩;go_wp2
    go_roundw
    case rel =>
     refine⟨k+1,by simp,hlt,fun t j=>?_,m.out.2.1.alloc m.out.2.1.size _⟩;rw[z.out.1]at j;rcases QF.1 j with j|j
     ·exact m.out.1 t j
     ·rw[PY.1 j,<-z.out.2]
      exact Nc hd
    case measure=>simp[intOf];omega
   ·go_wp2_with fail
    refine(agy s q id g _ m.out.2.2).mono ?_;rw[hd];rintro r N ⟨rfl,rfl⟩;go_wp2;go_ret;exact⟨k,hlt,rfl,by rw[<-z.out.2];exact M2 hd,m.out.1,m.out.2.1.alloc m.out.2.1.size _⟩
  ·exfalso
   obtain⟨t,j,e⟩:=D.out.2;exact u t (by rw[N1 (by omega)];exact j) e
def ZJ(b k:Nat):List Tm:=(Pm k).map fun i=>(((aaA b i:Nat):Int),(b:Int))
theorem aiT(b k:Nat):ZJ b (k+1)=ZJ b k++[(((aaA b k:Nat):Int),(b:Int))]:=by
 unfold ZJ;rw[ZqB,OI];rfl
theorem am1(b k:Nat):(ZJ b k).length=k:=by simp[ZJ]
def wt(a:List Int)(b:Nat):Nat:=(a.getD b 0).toNat
def YZ(a:List Int):Nat->List Tm
 |0=>[]
 |n+1=>YZ a n++ZJ n (wt a n*4)
structure XI(a:List Int):Prop where
 len:a.length=12
 low:∀b,0<=a.getD b 0
 high:∀b,a.getD b 0<=8
theorem XI.Hw{a:List Int}(h:XI a)(b:Nat):wt a b<=8:=by
 have:=h.high b;unfold wt;omega
theorem agF{a:List Int}(h:XI a):∀n,(YZ a n).length<=n*32
 |0=>by simp[YZ]
 |n+1=>by
  have i:=agF h n;have j:=h.Hw n;rw[YZ,Ns,am1];omega
def WW(a:List Int):List Tm:=ab8 (YZ a 12)
theorem aiU{a:List Int}(h:XI a):(WW a).length<=384:=by
 unfold WW;rw[aiS];exact agF h 12
theorem Zx:(MK.info? 311).map (·.size)=MI 12:=by kernel_rfl
theorem amY(a:List Int)(k:Nat)(ha:a.length=12)(hk:k<12)(w:MO):(Qy 311 (Ny (WR a).toArray) (yB (k:Int))).run MK w=.ok (yB (a.getD k 0)) w:=by
 have h:(0:Int)<=(k:Int)/\(k:Int)<((12:Nat):Int):=by omega
 have e:(WR a)[k]?=MI (yB (a.getD k 0)):=by
  unfold WR;rw[List.getElem?_map,MR (by omega),NK,MR (by omega)];rfl
 simp[Qy,run_underlying az0,asIntOf,h,go_sem,part,e];omega
theorem am3(a:List Int)(w:MO)(ha:XI a) :
  Ni MK 242 #[Ny (WR a).toArray] w fun r w'=>∃v,r=MN v/\w'.ownsRow w.heap.size 220 2 v (WW a).length (WP (WW a))/\yA w w':=by
 obtain⟨i0,hi,b4,b6,b5⟩:=OF amP;have y:M6 _:=ha;have O:=ha.len;have U:(MK.info? 311).map (·.size)=MI (WR a).length:=by rw[Zx,Zv,O]
 have b8:M6 _:=U;clear U;go_enter ayk,ayc
 go_wp2_with (refine O3 rfl 311 (O6 1) rfl w.heap.size 0 rfl (WR a) _ (Xj.new w _ a).Gq az0 rfl b8.out ?_)
 obtain⟨q,D⟩:=yE (w.alloc (MP (WR a).toArray 311));have R:yA w q:=by rw[D];exact(MY _ _).alloc (MV _) _
 have d4:q.heap.size=w.heap.size+1:=by rw[D];simp
 rw[<-D];have V:M6 _:=R;clear R D
 go_loopw [3,10] (fun x t wr=>∃i:Nat,t=yB i/\i<=12/\wr.ownsRow q.heap.size 220 2 x (YZ a i).length (WP (YZ a i))/\yA q wr) (fun _ t _=>12-(intOf t).toNat)
 case atStart=>exact⟨0,rfl,Nx _,NY _ _ _ _,MY _ _⟩
 case round =>
  obtain⟨i,rfl,d3,A,E⟩:=hrel
  by_cases hlt:i<12
  ·have hx:=amY a i O hlt
   have a7:=y.out.low i;have a2:=y.out.high i;have S:a.getD i 0=((wt a i:Nat):Int):=by unfold wt;omega
   rw[S]at hx;have d8:=y.out.Hw i;have d6:=agF y.out i;have Y:M6 (_/\_):=⟨A,E⟩;clear A E a7 a2 S;have N:YZ a (i+1)=YZ a i++ZJ i (wt a i*4):=rfl;have HR:M6 _:=N;clear N;generalize wt a i=m at *;have d7:(i:Int)<12:=by omega
   go_wp2
   go_loopw [3,16] (fun x t wr=>∃k:Nat,t=yB k/\k<=m*4/\wr.ownsRow q.heap.size 220 2 x (YZ a i++ZJ i k).length (WP (YZ a i++ZJ i k))/\yA q wr) (fun _ t _=>m*4-(intOf t).toNat)
   case atStart=>exact⟨0,rfl,Nx _,by simpa [ZJ]using Y.out.1,Y.out.2⟩
   case round =>
    obtain⟨k,rfl,hk,s,C⟩:=hrel
    by_cases hkL:k<m*4
    ·have c8:(k:Int)<(m:Int)*4:=by omega
     have a8:k<32:=by omega
     have H:YZ a i++ZJ i (k+1)=(YZ a i++ZJ i k)++[(((aaA i k:Nat):Int),(i:Int))]:=by rw[aiT,OC]
     have b3:(YZ a i++ZJ i k).length<=1048576:=by rw[Ns,am1];omega
     have K:=fun W=>aua i k W hlt a8
     obtain⟨F,L⟩:=yE (aaA i k);obtain⟨Q,G⟩:=yE (YZ a i++ZJ i k);rw[<-L,<-G]at H;rw[<-L]at K;rw[<-G]at s b3;have o:M6 (_/\_/\_/\_/\_):=⟨s,C,H,G,K⟩;clear s C H G K L
     go_wp2_with fail
     refine(o.out.2.2.2.2 _).mono ?_;rintro r w3 ⟨rfl,u⟩;have I:yA wr w3:=u;have z:M6 (_/\_):=⟨YI o.out.1 I,o.out.2.1.trans (I.mono o.out.2.1.size)⟩;have c6:=z.out.2.size;clear u I
     go_wp2_with (first|(at_builtin;refine O9 _ rfl _ _ 46 rfl q.heap.size 220 i0 _ 2 16 U9 hi b4 b6 b5 rfl (by decide) u3 _ _ rfl (z.out.1.alloc _) _ 1 1 (WP [((F:Int),(i:Int))]) rfl rfl (acR _ _ _) (abJ _) (by decide) (by unfold NE;omega) (by omega) (by simp;omega) _ rfl ?_;intro g' c7 w2 a6 b7 b9 c3))
     go_wp2
     go_roundw
     case rel =>
      refine⟨k+1,by simp,hkL,?_,?_⟩
      ·rw[o.out.2.2.1,aa7,Ns]
       exact a6
      ·have Z:=z.out.2.alloc z.out.2.size (MP #[yB (F:Int),yB (i:Int)] 220)
       exact Z.grown b7 Z.size (fun j e=>(z.out.1.lt j e).1)
     case measure=>simp[intOf];omega
    ·obtain rfl:k=m*4:=by omega
     have o:M6 (_/\_):=⟨s,C⟩;clear s C;go_wp2
     go_roundw
     case rel=>exact⟨i+1,by simp,by omega,by rw[HR.out];exact o.out.1,o.out.2⟩
     case measure=>simp[intOf];omega
  ·obtain rfl:i=12:=by omega
   have c4:=agF y.out 12;have o:M6 (_/\_):=⟨A,E⟩;clear A E
   go_wp2_with fail
   refine(at8 q.heap.size u3 (YZ a 12) _ o.out.1 (by omega)).mono ?_;rintro r w3 ⟨rfl,M,u⟩;have H3:M6 (_/\_):=⟨M,u⟩;clear M u;go_wp2;go_ret;refine⟨_,rfl,?_,V.out.trans ((o.out.2.grown H3.out.2 o.out.2.size (fun j e=>(o.out.1.lt j e).1)).mono V.out.size)⟩;have h4:=H3.out.1.mono (base':=w.heap.size) (by omega);unfold WW;rw[aiS];exact h4
theorem agB(n:Int)(w:MO):Ni MK 240 #[yB n] w fun r w'=>r=MN (M3 (Nn (0<=n/\n<12)))/\w'=w:=by
 obtain⟨j,i⟩:=yE (Nn (0<=n/\n<12));rw[<-i];have H:M6 _:=i;clear i;cases h1:Nn (0<=n)
 ·go_enter VR,VJ
  go_wp2;go_ret;exact⟨by rw[H.out,M0 (fun h=>Nc h1 h.1)];rfl,rfl⟩
 ·cases h2:Nn (n<12)
  ·go_enter VR,VJ
   go_wp2;go_ret;exact⟨by rw[H.out,M0 (fun h=>Nc h2 h.2)];rfl,rfl⟩
  ·go_enter VR,VJ
   go_wp2;go_ret;exact⟨by rw[H.out,Nq ⟨M2 h1,M2 h2⟩];rfl,rfl⟩
theorem atK(n:Int)(w:MO):Ni MK 246 #[yB n] w fun r w'=>r=MN (M3 (Nn (1<=n/\n<=8)))/\w'=w:=by
 obtain⟨j,i⟩:=yE (Nn (1<=n/\n<=8));rw[<-i];have H:M6 _:=i;clear i;cases h1:Nn (1<=n)
 ·go_enter aAT,aAJ
  go_wp2;go_ret;exact⟨by rw[H.out,M0 (fun h=>Nc h1 h.1)];rfl,rfl⟩
 ·cases h2:Nn (n<=8)
  ·go_enter aAT,aAJ
   go_wp2;go_ret;exact⟨by rw[H.out,M0 (fun h=>Nc h2 h.2)];rfl,rfl⟩
  ·go_enter aAT,aAJ
   go_wp2;go_ret;exact⟨by rw[H.out,Nq ⟨M2 h1,M2 h2⟩];rfl,rfl⟩
theorem agA(a:List Int)(n:Int)(w:MO)(hlen:a.length=12) :
  Ni MK 183 #[Ny (WR a).toArray,yB n] w fun r w'=>r=MN (M3 (Nn (0<=n/\n<12/\0<a.getD n.toNat 0)))/\yA w w':=by
 by_cases hn:0<=n/\n<12
 ·obtain⟨k,rfl⟩:=NL hn.1
  have D:k<12:=by omega
  have j:Nn (0<=(k:Int)/\(k:Int)<12)=true:=Nq hn;obtain⟨x,q⟩:=yE (a.getD k 0);have u:=Xj.new w 311 a;have A:(w.alloc (MP (WR a).toArray 311)).cell? ⟨w.heap.size,k,MH⟩=MI (yB x):=by
   rw[u.F7 k (by omega),q,NK,MR (by omega)];rfl
  have i:Nn (0<=(k:Int)/\(k:Int)<12/\0<a.getD (k:Int).toNat 0)=Nn (0<x):=by
   rw[NR,<-q];exact decide_eq_decide.2 ⟨fun h=>h.2.2,fun h=>⟨by omega,by omega,h⟩⟩
  rw[i];have s:yA w (w.alloc (MP (WR a).toArray 311)):=(MY _ _).alloc (MV _) _;have y:M6 _:=s;have o:M6 _:=j;clear s i q u j;go_enter Ws,Wg
  go_wp2_with fail
  refine(agB _ _).mono ?_;rw[o.out];rintro r C ⟨rfl,m⟩;rw[<-m]at A;have z:M6 _:=m;clear m;go_wp2;go_ret;exact⟨rfl,by rw[z.out];exact y.out⟩
 ·have j:Nn (0<=n/\n<12)=false:=M0 hn
  have i:Nn (0<=n/\n<12/\0<a.getD n.toNat 0)=false:=M0 fun h=>hn ⟨h.1,h.2.1⟩
  rw[i];have o:M6 _:=j;clear i j;go_enter Ws,Wg
  go_wp2_with fail
  refine(agB _ _).mono ?_;rw[o.out];rintro r C ⟨rfl,rfl⟩;go_wp2;go_ret;exact⟨rfl,(MY _ _).alloc (MV _) _⟩
theorem atB(u v:M7)(l m:List Tm)(w:MO)(hu:Xz w u l)(hv:Xz w v m) :
  Ni MK 241 #[u,v] w fun r w'=>r=MN (M3 (Nn (l=m)))/\∃q,w'=w.drewN q:=by
 obtain⟨a,ca,rfl,a2,R,z⟩:=hu.F6;obtain⟨b,cb,rfl,U,Q,y⟩:=hv.F6;unfold NE at R Q
 by_cases hlen:l.length=m.length
 ·have s:M6 (l.length=m.length):=hlen
  rw[<-hlen]at U⊢;clear hlen;go_enter PH,PA;go_wp2
  go_loopw [13] (fun i wr=>∃k:Nat,i=yB k/\k<=l.length/\(∀j,j<k->l[j]?=m[j]?)/\∃q,wr=w.drewN q) (fun i _=>l.length-(intOf i).toNat)
  case atStart=>exact⟨0,rfl,Nx _,fun j hj=>absurd hj (QH _),0,rfl⟩
  case round =>
   obtain⟨k,rfl,hk,L,q,rfl⟩:=hrel;have N:M6 _:=L;clear L
   by_cases hlt:k<l.length
   ·obtain⟨b1,o1,rfl,S,c1,d1⟩:=z k hlt
    obtain⟨b2,o2,rfl,O,c2,V⟩:=y k (by rw[<-s.out];exact hlt);clear S O z y;obtain⟨Z,A⟩:∃x,x=l[k].1:=⟨_,rfl⟩;obtain⟨y1,D⟩:∃x,x=l[k].2:=⟨_,rfl⟩;obtain⟨x2,E⟩:∃x,x=(m[k]'(by rw[<-s.out];exact hlt)).1:=⟨_,rfl⟩;obtain⟨Y,C⟩:∃x,x=(m[k]'(by rw[<-s.out];exact hlt)).2:=⟨_,rfl⟩;rw[<-A]at c1;rw[<-D]at d1;rw[<-E]at c2;rw[<-C]at V;have M:M6 (_/\_/\_/\_):=⟨A,D,E,C⟩;clear A D E C;rcases aug Z y1 x2 Y with⟨rfl,rfl⟩|o
    ·go_wp2
     go_region
     go_wp2
     go_roundw
     case rel =>
      refine⟨k+1,by simp,hlt,fun j hj=>?_,q+1,rfl⟩;rcases Nat.lt_succ_iff_lt_or_eq.1 hj with h|rfl
      ·exact N.out j h
      ·rw[MR hlt,MR (by rw[<-s.out];exact hlt)]
       obtain⟨F,K,I,G⟩:=M.out;exact congrArg MI (Q8 (F.symm.trans I) (K.symm.trans G))
     case measure=>simp[intOf];omega
    ·have H:M6 (Nn (l=m)=Nb):=by
      refine M0 fun h=>?_
      subst h;obtain⟨F,K,I,G⟩:=M.out;rcases o with o|⟨_,o⟩
      ·rw[F,<-I]at o;simp at o
      ·rw[K,<-G]at o;simp at o
     rcases o with o|⟨rfl,o⟩
     all_goals
      go_wp2
      go_region
      go_wp2;go_ret;exact⟨by rw[H.out];rfl,q+1,rfl⟩
   ·have HE:M6 (Nn (l=m)=Nw):=by
     refine Nq (Ot fun j=>?_);rcases Oq j k with h|h
     ·exact N.out j h
     ·rw[Nz (by omega),Nz (by rw[<-s.out];omega)]
    clear z y;go_wp2;go_ret;exact⟨by rw[HE.out];rfl,q,rfl⟩
 ·have H:M6 (Nn (l=m)=Nb):=M0 fun h=>hlen (by rw[h])
  clear z y;have o:((l.length:Int) != (m.length:Int))=true:=by simp[bne_iff_ne];omega
  go_enter PH,PA;go_wp2;go_ret;exact⟨by rw[H.out];rfl,0,rfl⟩
def XX(l:List Tm)(b:Nat):Nat:=l.countP fun t=>Nn (t.2=(b:Int))
theorem aiE(l m:List Tm)(b:Nat):XX (l++m) b=XX l b+XX m b:=Qi ..
theorem atu{m:List Tm}(h:l.Perm m)(b:Nat):XX l b=XX m b:=h.countP_eq _
theorem aiF(l:List Tm)(b:Nat):XX l b<=l.length:=List.countP_le_length
theorem amH(c b:Nat):∀k,XX (ZJ c k) b=if c=b then k else 0
 |0=>by simp[ZJ,XX]
 |k+1=>by
  rw[aiT,aiE,amH c b k]
  by_cases h:c=b
  ·simp[h,XX]
  ·simp[h,XX]
   omega
theorem amG(a:List Int)(b:Nat):∀n,XX (YZ a n) b=if b<n then wt a b*4 else 0
 |0=>by simp[YZ,XX]
 |n+1=>by
  rw[YZ,aiE,amG a b n,amH]
  by_cases h1:b<n
  ·rw[Nh h1,Nf (by omega),Nh (by omega)];omega
  ·rw[Nf h1]
   by_cases h2:n=b
   ·subst h2;rw[Nh rfl,Nh (by omega)];omega
   ·rw[Nf h2,Nf (by omega)]
theorem aiK{b:Nat}:t∈ZJ b k↔∃i,i<k/\t=(((aaA b i:Nat):Int),(b:Int)):=by
 unfold ZJ;simp only[ZAd,List.mem_range];exact⟨fun⟨i,h,e⟩=>⟨i,h,e.symm⟩,fun⟨i,h,e⟩=>⟨i,h,e.symm⟩⟩
theorem aiJ{a:List Int}{t:Tm}:∀ {n},t∈YZ a n↔∃b i,b<n/\i<wt a b*4/\t=(((aaA b i:Nat):Int),(b:Int))
 |0=>by simp[YZ]
 |n+1=>by
  rw[YZ,QF,aiJ (n:=n),aiK];constructor
  ·rintro(⟨b,i,h1,h2,h3⟩|⟨i,h1,h2⟩)
   ·exact⟨b,i,by omega,h2,h3⟩
   ·exact⟨n,i,by omega,h1,h2⟩
  ·rintro⟨b,i,h1,h2,h3⟩
   by_cases h:b=n
   ·subst h;exact NF ⟨i,h2,h3⟩
   ·exact Nt ⟨b,i,by omega,h2,h3⟩
theorem afg{a:List Int}:t∈WW a↔∃b i,b<12/\i<wt a b*4/\t=(((aaA b i:Nat):Int),(b:Int)):=by
 unfold WW;rw[(agG _).mem_iff,aiJ]
def Z5(l:List Tm):List Int:=(Pm 12).map fun b=>((XX l b:Nat):Int)
def Xt(l:List Tm):List Int:=(Pm 12).map fun b=>((XX l b / 4:Nat):Int)
theorem abI(l:List Tm):(Z5 l).length=12:=by simp[Z5]
theorem aej(l:List Tm):(Xt l).length=12:=by simp[Xt]
theorem aiD(l:List Tm)(b:Nat)(h:b<12):(Z5 l).getD b 0=((XX l b:Nat):Int):=by simp[Z5,h]
theorem am9(l:List Tm)(b:Nat)(h:b<12):(Xt l).getD b 0=((XX l b / 4:Nat):Int):=by simp[Xt,h]
theorem ana(l:List Tm)(b:Nat)(h:¬b<12):(Xt l).getD b 0=0:=by simp[Xt,h]
theorem amF(l:List Tm)(t:Tm)(b:Nat)(hb:b<12)(ht:t.2=(b:Int)):Z5 (l++[t])=(Z5 l).set b (((XX l b:Nat):Int)+1):=by
 apply Ot;intro j
 by_cases hj:j<12
 ·have e:XX (l++[t]) j=XX l j+if j=b then 1 else 0:=by
   rw[aiE]
   congr 1
   by_cases h:j=b
   ·subst h;simp[XX,ht]
   ·simp[XX,ht,h];omega
  by_cases h:j=b
  ·subst h
   rw[N7 (by rw[abI];exact hj)];simp[Z5,hj,e]
  ·rw[N3 (Pi h)]
   simp[Z5,hj,e,h]
 ·rw[Nz (by rw[abI];omega),Nz (by rw[NA,abI];omega)]
def Yd(l:List Tm):Prop:=∃a,XI a/\l=WW a
theorem aur{a:List Int}(h:XI a)(b:Nat):((wt a b:Nat):Int)=a.getD b 0:=by
 have:=h.low b;unfold wt;omega
theorem agx(a:List Int)(b:Nat)(hb:b<12):XX (WW a) b=wt a b*4:=by
 unfold WW;rw[atu (agG _),amG,Nh hb]
theorem agK{a:List Int}(h:XI a):Xt (WW a)=a:=by
 apply Ot;intro j
 by_cases hj:j<12
 ·have e:=agx a j hj
  have i:=aur h j;have m:j<a.length:=by rw[h.len];exact hj
  rw[MR m];rw[NK,MR m]at i;simp only[OV]at i;simp[Xt,hj,e,i]
 ·rw[Nz (by rw[aej];omega),Nz (by rw[h.len];omega)]
theorem aiV(h:∀b,b<12->XX l b<=32):XI (Xt l):=by
 refine⟨aej l,fun b=>?_,fun b=>?_⟩
 ·by_cases hb:b<12
  ·rw[am9 l b hb];omega
  ·rw[ana l b hb];omega
 ·by_cases hb:b<12
  ·rw[am9 l b hb];have:=h b hb;omega
  ·rw[ana l b hb];omega
theorem amW(h:∀b,b<12->XX l b<=32):Yd l↔l=WW (Xt l):=by
 constructor
 ·rintro⟨a,ha,rfl⟩
  rw[agK ha]
 ·intro e
  exact⟨Xt l,aiV h,e⟩
theorem aiQ(h:Yd l):∀t∈l,0<=t.2/\t.2<12:=by
 obtain⟨a,o,rfl⟩:=h;intro t j;obtain⟨b,i,m,_,rfl⟩:=afg.1 j;exact⟨by simp,by simp only;omega⟩
theorem aiP(h:Yd l)(b:Nat)(hb:b<12):XX l b<=32:=by
 obtain⟨a,i,rfl⟩:=h;rw[agx a b hb];have:=i.Hw b;omega
theorem ang:(#[yB 0,yB 0,yB 0,yB 0,yB 0,yB 0,yB 0,yB 0,yB 0,yB 0,yB 0,yB 0]:Array M7)=(WR (Nj 12 0)).toArray:=rfl
def wL(l:List Tm)(k:Nat):List Int:=(Pm 12).map fun b=>if b<k then((XX l b / 4:Nat):Int)else 0
theorem agJ(l:List Tm)(k:Nat):(wL l k).length=12:=by simp[wL]
theorem auj(l:List Tm):wL l 0=Nj 12 0:=by simp[wL];rfl
theorem auh(l:List Tm):wL l 12=Xt l:=by
 unfold wL Xt;apply PU;intro b i;rw[Nh (List.mem_range.1 i)]
theorem aui(l:List Tm)(k:Nat)(hk:k<12):wL l (k+1)=(wL l k).set k ((XX l k / 4:Nat):Int):=by
 apply Ot;intro j
 by_cases hj:j<12
 ·by_cases h:j=k
  ·subst h
   rw[N7 (by rw[agJ];exact hj)];simp[wL,hj]
  ·rw[N3 (Pi h)]
   simp[wL,hj,show j<k+1↔j<k by omega]
 ·rw[Nz (by rw[agJ];omega),Nz (by rw[NA,agJ];omega)]
def aiz(l:List Tm)(w:MO)(r:Ending)(w':MO):Prop:=∃(a:List Int) (b:Bool),r=MN (Nv #[Ny (WR a).toArray,M3 b])/\a.length=12/\(b=Nw↔Yd l)/\(b=Nw->a=Xt l)/\yA w w'
theorem anc(h:¬Yd l)(hb:yA w w'):aiz l w (MN (Nv #[Ny (WR (Nj 12 0)).toArray,M3 Nb])) w' :=
 ⟨Nj 12 0,Nb,rfl,by simp,⟨fun e=>PP e,fun e=>absurd e h⟩,fun e=>PP e,hb⟩
theorem auq(h:∀b,b<12->XX l b<=32)(hb:yA w w'):aiz l w (MN (Nv #[Ny (WR (Xt l)).toArray,M3 (Nn (l=WW (Xt l)))])) w' :=
 ⟨Xt l,_,rfl,aej l,by rw[decide_eq_true_iff];exact(amW h).symm,fun _=>rfl,hb⟩
theorem agL(v:M7)(l:List Tm)(w:MO)(hv:Xz w v l) :
  Ni MK 182 #[Ny #[v]] w (aiz l w):=by
 obtain⟨p,c,rfl,hc,hm,pv⟩:=hv.F6;unfold NE at hm;have HV:M6 (_/\_):=⟨hv,pv⟩;clear hv pv;go_enter ayY,ayN;go_wp2;rw[ang];obtain⟨M,L⟩:=yE ((((w.alloc (MP #[MG p l.length c] 48)).alloc (MP (WR (Nj 12 0)).toArray 311)).alloc (MP (WR (Nj 12 0)).toArray 311)).alloc (MP (WR (Nj 12 0)).toArray 311));rw[<-L];have e9:yA w M:=by rw[L];exact((((MY _ _).alloc (MV _) _).alloc (by simp) _).alloc (by simp;omega) _).alloc (by simp;omega) _
 have g3:M.heap[w.heap.size]?=MI (MP #[MG p l.length c] 48 (0,0)):=by rw[L];exact Xy _ _ (Xy _ _ (Xy _ _ (M1 _ _)))
 have Y:Xj 311 12 M (w.heap.size+1) (Nj 12 0):=by rw[L];exact⟨Xy _ _ (Xy _ _ (Yu _ _ _)),by simp⟩
 have g5:Xj 311 12 M (w.heap.size+1+1) (Nj 12 0):=by rw[L];exact⟨Xy _ _ (by have:=M1 ((w.alloc (MP #[MG p l.length c] 48)).alloc (MP (WR (Nj 12 0)).toArray 311)) (MP (WR (Nj 12 0)).toArray 311);simpa using this),by simp⟩
 have a2:Xj 311 12 M (w.heap.size+1+1+1) (Nj 12 0):=by rw[L];exact⟨by have:=M1 (((w.alloc (MP #[MG p l.length c] 48)).alloc (MP (WR (Nj 12 0)).toArray 311)).alloc (MP (WR (Nj 12 0)).toArray 311)) (MP (WR (Nj 12 0)).toArray 311);simpa using this,by simp⟩
 have H0:M6 (_/\_/\_/\_/\_):=⟨e9,g3,Y,g5,a2⟩;clear e9 g3 Y g5 a2 L
 go_loopw [13] (fun t wr=>∃k:Nat,t=yB k/\k<=l.length/\(∀t∈l.take k,0<=t.2/\t.2<12)/\yA w wr/\wr.heap[w.heap.size]?=MI (MP #[MG p l.length c] 48 (0,0))/\Xj 311 12 wr (w.heap.size+1) (Nj 12 0)/\Xj 311 12 wr (w.heap.size+1+1) (Z5 (l.take k))/\Xj 311 12 wr (w.heap.size+1+1+1) (Nj 12 0)) (fun t _=>l.length-(intOf t).toNat)
 case atStart=>exact⟨0,rfl,Nx _,by simp,H0.out⟩
 case round =>
  obtain⟨k,rfl,hk,U,m,y,h1,h2,s⟩:=hrel
  by_cases hlt:k<l.length
  ·obtain⟨b0,off,rfl,g0,c1,c2⟩:=HV.out.2 k hlt
   have e1:=(m.cell (p:=⟨b0,off+k*2,MH⟩) g0).trans c1;have e2:=(m.cell (p:=⟨b0,off+k*2+1,MH⟩) g0).trans c2;obtain⟨ta,b8⟩:=yE (l[k].1);obtain⟨D,b9⟩:=yE (l[k].2);rw[<-b8]at e1;rw[<-b9]at e2;have f8:l.take (k+1)=l.take k++[(ta,D)]:=by rw[M9 hlt,b8,b9]
   have d7:(ta,D)∈l:=by rw[b8,b9];exact Nk hlt
   have i6:(k:Int)<(l.length:Int):=by omega
   have z:M6 (_/\_/\_/\_/\_/\_/\_/\_):=⟨U,m,y,h1,h2,s,f8,d7⟩;clear U m y h1 h2 s f8 d7 b8 b9 c1 c2
   go_wp2_with fail
   refine(agB _ _).mono ?_;rintro r w1 ⟨rfl,c3⟩;have c4:=M1 wr (MP #[yB ta,yB D] 220);have i7:w1.heap.size=wr.heap.size+1:=by rw[c3];simp
   rw[<-c3]at c4;have I:yA wr w1:=by
    rw[c3];exact(MY _ _).alloc (MV _) _
   clear c3;obtain⟨d0,d1,_,_,i5⟩:=Xa c4;have Q:=z.out.2.2.2.1.below I;have N:=z.out.2.2.2.2.1.below I;have q3:=z.out.2.2.2.2.2.1.below I;have qR:=WO z.out.2.2.1 I;have R:=z.out.2.1.trans (I.mono z.out.2.1.size)
   by_cases hin:0<=D/\D<12
   ·obtain⟨b,rfl⟩:=NL hin.1
    have a6:b<12:=by omega
    have i3:(b:Int)<12:=by omega
    have c8:=N.F7 b (by rw[abI];exact a6);have h7:=N.Gu b;have b7:(Z5 (l.take k))[b]'(by rw[abI];exact a6)=((XX (l.take k) b:Nat):Int):=by
     have:=aiD (l.take k) b a6;rwa[NK,MR (by rw[abI];exact a6)]at this
    rw[b7]at c8;have g9:XX (l.take k) b<=k:=Nm (aiF _ _) (by rw[NH];omega);obtain⟨x,hx⟩:=yE (XX (l.take k) b);rw[<-hx]at c8 g9;have hd:Nn (0<=(b:Int)/\(b:Int)<12)=true:=Nq hin;rw[hd];have A:M6 (_/\_/\_/\_/\_/\_):=⟨Q,N,q3,qR,R,hx⟩;clear Q N q3 qR R hx b7 hd hin I c4;go_wp2
    go_roundw
    case rel =>
     obtain⟨Q,N,q3,qR,R,hx⟩:=A.out;refine⟨k+1,by simp,hlt,fun t ht=>?_,R.setCell (by simp;omega) _,?_,Q.Hk (by simp) _,?_,q3.Hk (by simp) _⟩
     ·rw[z.out.2.2.2.2.2.2.1,QF]at ht
      rcases ht with ht|ht
      ·exact z.out.1 t ht
      ·rw[PY]at ht
       subst ht;exact⟨by simp,by simpa using i3⟩
     ·rw[MU _ _ _ _ (by simp;omega)]
      exact qR
     ·rw[z.out.2.2.2.2.2.2.1,amF _ _ b a6 rfl,<-hx]
      exact N.F4 b _
    case measure=>simp[intOf];omega
   ·have hd:Nn (0<=D/\D<12)=false:=M0 hin
    rw[hd];have b6:=(Q.Hq (P:=MK) (b:=Nj 12 0) (by simp) Zx).2;have b4:¬Yd l:=fun h=>hin (aiQ h _ z.out.2.2.2.2.2.2.2)
    obtain⟨E,C⟩:=yE (w1.setCells (w.heap.size+1) 0 (RW (#[yB 0,yB 0,yB 0,yB 0,yB 0,yB 0,yB 0,yB 0,yB 0,yB 0,yB 0,yB 0]:Array M7)));have a8:Xj 311 12 E (w.heap.size+1) (Nj 12 0):=by rw[C];exact b6
    have b5:yA w E:=by rw[C];exact adF R (by omega) _ _ R.size
    have b3:=OE (ac1 (Nj 12 0));have A:M6 (_/\_/\_/\_/\_):=⟨Q.GB,b5,a8,b4,C⟩;clear Q N q3 qR R hd hin I c4 b6 b4 C d0 d1 e1 e2 a8 b5;have HO:M6 _:=b3;clear b3
    go_wp2_with ((with_reducible refine OW rfl 311 (O6 2) (O6 21) rfl (w.heap.size+1) 0 #[yB 0,yB 0,yB 0,yB 0,yB 0,yB 0,yB 0,yB 0,yB 0,yB 0,yB 0,yB 0] ?hx ?hy ?ht ?hi ?h1 ?_);(case hx=>rfl);(case hy=>rfl);(case ht=>exact A.out.1);(case hi=>exact Zx);(case h1=>exact HO.out);rw[<-A.out.2.2.2.2])
    refine Np (v:=Nv #[Ny (WR (Nj 12 0)).toArray,M3 Nb]) (XT Uq rfl rfl (A.out.2.2.1.Io az0 rfl Zx)) rfl (anc A.out.2.2.2.1 A.out.2.1)
  ·obtain rfl:k=l.length:=by omega
   rw[NT]at U h2;have a7:(MK.info? 311).map (·.size)=MI (WR (Z5 l)).length:=by rw[Zx,Zv,abI]
   have b7:=abI l;have z:M6 (_/\_/\_/\_/\_/\_/\_):=⟨U,m,y,h1,h2,s,a7⟩;clear U m y h1 h2 s a7
   go_wp2_with ((with_reducible refine O3 rfl 311 (O6 4) rfl (w.heap.size+1+1) 0 ?hx (WR (Z5 l)) _ ?hc az0 ?hd ?hi ?_);(case hx=>rfl);(case hc=>exact z.out.2.2.2.2.1.Gq);(case hd=>rfl);(case hi=>exact z.out.2.2.2.2.2.2))
   go_loopw [30] (fun t W=>∃j:Nat,t=yB j/\j<=12/\(∀b,b<j->XX l b<=32)/\yA w W/\W.heap[w.heap.size]?=MI (MP #[MG p l.length c] 48 (0,0))/\Xj 311 12 W (w.heap.size+1) (Nj 12 0)/\Xj 311 12 W (w.heap.size+1+1+1) (wL l j)) (fun t _=>12-(intOf t).toNat)
   case atStart =>
    obtain⟨U,m,y,h1,h2,s,_⟩:=z.out;exact⟨0,rfl,Nx _,fun b h=>absurd h (QH _),m,y,h1,by rw[auj];exact s⟩
   case round =>
    obtain⟨j,rfl,hj,F,m,y,h1,s⟩:=hrel
    by_cases hlt2:j<12
    ·have f9:=amY (Z5 l) j b7 hlt2
     rw[aiD l j hlt2]at f9;have i4:(j:Int)<12:=by omega
     have i1:XX l j<=l.length:=aiF l j;obtain⟨x,hx⟩:=yE (XX l j);rw[<-hx]at f9 i1
     by_cases h32:x<=32
     ·have h5:¬((32:Int)<(x:Int)):=by omega
      have c8:=s.F7 j (by rw[agJ];exact hlt2);have h7:=s.Gu j;have HJ:M6 (_/\_/\_/\_/\_/\_):=⟨F,m,y,h1,s,hx⟩;clear F m y h1 s hx;go_wp2
      go_roundw
      case rel =>
       obtain⟨F,m,y,h1,s,hx⟩:=HJ.out;refine⟨j+1,by simp,hlt2,fun b c6=>?_,m.setCell (by simp;omega) _,?_,h1.Hk (by simp) _,?_⟩
       ·by_cases e:b=j
        ·subst e;rw[<-hx];exact h32
        ·exact F b (by omega)
       ·rw[MU _ _ _ _ (by simp;omega)]
        exact y
       ·rw[aui l j hlt2,<-hx]
        have:=s.F4 j (((x / 4:Nat):Int))
        first|exact this|(simpa using this)
      case measure=>simp[intOf];omega
     ·have h5:(32:Int)<(x:Int):=by omega
      have b4:¬Yd l:=fun h=>h32 (by rw[hx];exact aiP h j hlt2)
      obtain⟨E,C⟩:=yE (wr.setCells (w.heap.size+1) 0 (RW (#[yB 0,yB 0,yB 0,yB 0,yB 0,yB 0,yB 0,yB 0,yB 0,yB 0,yB 0,yB 0]:Array M7)));have b6:=(h1.Hq (P:=MK) (b:=Nj 12 0) (by simp) Zx).2;have a8:Xj 311 12 E (w.heap.size+1) (Nj 12 0):=by rw[C];exact b6
      have b5:yA w E:=by rw[C];exact adF m (by omega) _ _ m.size
      have b3:=OE (ac1 (Nj 12 0));have A:M6 (_/\_/\_/\_/\_/\_):=⟨h1.GB,b5,a8,b4,C,b3⟩;clear F m y h1 s b6 b4 C a8 b5 b3 hx
      go_wp2_with ((with_reducible refine OW rfl 311 (O6 2) (O6 36) rfl (w.heap.size+1) 0 #[yB 0,yB 0,yB 0,yB 0,yB 0,yB 0,yB 0,yB 0,yB 0,yB 0,yB 0,yB 0] ?hx ?hy ?ht ?hi ?h1 ?_);(case hx=>rfl);(case hy=>rfl);(case ht=>exact A.out.1);(case hi=>exact Zx);(case h1=>exact A.out.2.2.2.2.2);rw[<-A.out.2.2.2.2.1])
      refine Np (v:=Nv #[Ny (WR (Nj 12 0)).toArray,M3 Nb]) (XT Uq rfl rfl (A.out.2.2.1.Io az0 rfl Zx)) rfl (anc A.out.2.2.2.1 A.out.2.1)
    ·obtain rfl:j=12:=by omega
     rw[auh]at s;have e8:XI (Xt l):=aiV F;have e6:Xz wr (MG p l.length c) l:=HV.out.1.below (amC m (MV _));have i2:=aej l;have h9:=Xu y;have H:M6 (_/\_/\_/\_/\_/\_/\_):=⟨e8,e6,F,m,y,h1,s⟩;have F1:wr.cell? ⟨w.heap.size,0,MH⟩=MI (MG p l.length c)/\wr.rangeAt (w.heap.size+1+1+1) 0 (WR (Xt l))/\wr.there (w.heap.size+1) 0 12:=⟨h9,s.Gq,h1.GB⟩;have G1:M6 _:=F1;have d8:=az0;have a7:(MK.info? 311).map (·.size)=MI (WR (Xt l)).length:=by rw[Zx,Zv,aej]
     have g7:(WR (Xt l)).length=12:=by rw[Zv,aej]
     have g8:=ac1 (Xt l);clear F m y h1 s e8 e6 F1;go_wp2;refine O2 (S:=fun W=>W.cell? ⟨w.heap.size,0,MH⟩=MI (MG p l.length c)/\W.rangeAt (w.heap.size+1+1+1) 0 (WR (Xt l))/\W.there (w.heap.size+1) 0 12) (by kernel_rfl) G1.out (fun hHeld=>?_)
     refine' ND (i:=0) (oi:=_) (v:=_) rfl (by kernel_rfl) (by kernel_rfl) (by kernel_rfl) (fun _ _ _ h=>h) (Pt (by rfl) _ _ rfl _ _ rfl _ _ (fun W h=>h.2.1) d8 rfl a7) hHeld ?_
     simp only[Nr,MJ,ML,MM]
     refine' ND (i:=3) (oi:=_) (v:=_) rfl (by kernel_rfl) (by kernel_rfl) (by kernel_rfl) (fun _ _ _ h=>h) (Pt (by rfl) _ _ rfl _ _ rfl _ _ (fun W h=>h.2.1) d8 rfl a7) hHeld ?_
     simp only[Nr,MJ,ML,MM];refine ND (i:=1) (oi:=_) (v:=Na (MI ⟨w.heap.size,0,MH⟩)) rfl (by kernel_rfl) (by kernel_rfl) (by kernel_rfl) (fun _ _ _ h=>h) (Nt ⟨by rfl,fun W hSw=>by go_simp⟩) hHeld ?_;simp only[Nr,MJ,ML,MM];refine ND (i:=2) (oi:=_) (v:=MG p l.length c) rfl (by kernel_rfl) (by kernel_rfl) (by kernel_rfl) (fun _ _ _ h=>h) (Nt ⟨by rfl,fun W hSw=>by have hh:=hSw.1;go_simp⟩) hHeld ?_;simp only[Nr,MJ,ML,MM];refine yQ 4 fun K hK=>?_;go_simp;refine(am3 _ _ H.out.1).mono ?_;rintro r O ⟨u,rfl,d6,c6⟩;have V:yA wr O:=Za c6;have e7:Xz O (MG p l.length c) l:=H.out.2.1.below V;have f7:Xz O u (WW (Xt l)):=Yr d6;have Y:=H.out.2.2.2.2.2.1.below V;have a2:=H.out.2.2.2.2.2.2.below V;have d3:=WO H.out.2.2.2.2.1 V;have f0:=H.out.2.2.2.1.trans (V.mono H.out.2.2.2.1.size);have G:M6 (_/\_/\_/\_/\_/\_):=⟨e7,f7,Y,f0,a2,d3⟩;have G2:M6 (_/\_/\_):=⟨Xu d3,a2.Gq,Y.GB⟩;clear e7 f7 Y a2 d3 f0 V d6 c6 hHeld;refine hK.out _ _ G2.out (fun hHeld=>?_);clear hK K
     try simp only[Nr,MJ,ML,MM]
     refine yQ 5 fun K hK=>?_;go_simp;refine(atB _ _ l (WW (Xt l)) _ G.out.1 G.out.2.1).mono ?_;rintro r w3 ⟨rfl,q,rfl⟩;refine hK.out _ _ G2.out (fun hHeld=>?_);clear hK K
     try simp only[Nr,MJ,ML,MM]
     obtain⟨W9,Z⟩:=yE ((O.drewN q).setCells (w.heap.size+1) 0 (WR (Xt l)));have c7:Xj 311 12 W9 (w.heap.size+1) (Xt l):=by rw[Z];exact((show Xj 311 12 (O.drewN q) (w.heap.size+1) (Nj 12 0)from G.out.2.2.1).Hq (P:=MK) (b:=Xt l) i2 Zx).2
     have g1:yA w W9:=by rw[Z];have h:=amB G.out.2.2.2.1 q;exact adF h (by omega) _ _ h.size
     have d4:(WR (Xt l)).toArray.size=12:=g7;have d9:Xj 311 12 W9 (w.heap.size+1+1+1) (Xt l):=by rw[Z];exact G.out.2.2.2.2.1.Gf (N8 (O.drewN q) _ _ _ G.out.2.2.2.2.1.lt (by omega))
     have g4:W9.heap[w.heap.size]?=MI (MP #[MG p l.length c] 48 (0,0)):=by rw[Z];exact(N8 (O.drewN q) _ _ _ (ZAa.1 G.out.2.2.2.2.2).1 (by omega)).trans G.out.2.2.2.2.2
     have G9:M6 (_/\_/\_):=⟨Xu g4,d9.Gq,c7.GB⟩;refine yQ 6 fun K hK=>?_;rw[Nh (by rfl)];refine wp_store_mid _ _ _ rfl _ _ (WR (Xt l)).toArray rfl rfl (by rw[d4];exact G2.out.2.2) (by rw[d4];exact Zx) (OE g8) ?_;rw[NS,<-Z];have H9:M6 (_/\_):=⟨c7,g1⟩;clear c7 g1 d9 g4 Z;refine hK.out _ _ G9.out (fun hHeld=>?_);clear hK K
     try simp only[Nr,MJ,ML,MM]
     refine yQ 7 fun K hK=>?_;go_simp;refine hK.out _ _ G9.out (fun hHeld=>?_);clear hK K
     try simp only[Nr,MJ,ML,MM]
     refine PS (by kernel_rfl) ?_ _;go_wp2;refine Np (v:=Nv #[Ny (WR (Xt l)).toArray,M3 (Nn (l=WW (Xt l)))]) (XT Uq rfl rfl (H9.out.1.Io az0 rfl Zx)) rfl (auq H.out.2.2.1 H9.out.2)
theorem agz(w:MO)(a:List Int)(ha:a.length=12):(w.alloc (MP #[yB 0,yB 0,yB 0,yB 0,yB 0,yB 0,yB 0,yB 0,yB 0,yB 0,yB 0,yB 0] 311)).there w.heap.size 0 12/\Xj 311 12 ((w.alloc (MP #[yB 0,yB 0,yB 0,yB 0,yB 0,yB 0,yB 0,yB 0,yB 0,yB 0,yB 0,yB 0] 311)).setCells w.heap.size 0 (WR a)) w.heap.size a/\yA w ((w.alloc (MP #[yB 0,yB 0,yB 0,yB 0,yB 0,yB 0,yB 0,yB 0,yB 0,yB 0,yB 0,yB 0] 311)).setCells w.heap.size 0 (WR a)):=by
 rw[ang];have h:Xj 311 12 (w.alloc (MP (WR (Nj 12 0)).toArray 311)) w.heap.size (Nj 12 0):=Xj.new w _ _;have i:yA w (w.alloc (MP (WR (Nj 12 0)).toArray 311)):=(MY _ _).alloc (MV _) _;exact⟨h.GB,(h.Hq (P:=MK) (b:=a) ha Zx).2,adF i (MV _) _ _ i.size⟩
theorem atr(v:M7)(l:List Tm)(w:MO)(hv:Xz w v l) :
  Ni MK 150 #[Ny #[v]] w fun r w'=>∃e:Int,r=MN (yB e)/\(Yd l->e=0)/\(¬Yd l->e=6)/\yA w w':=by
 obtain⟨p,c,rfl,_⟩:=hv.F6;have H:M6 _:=hv;clear hv;go_enter Uf,T5
 go_wp2_with fail
 have m:yA w (w.alloc (MP #[MG p l.length c] 48)):=(MY _ _).alloc (MV _) _;refine(agL _ l _ (H.out.below m)).mono ?_;rintro r j ⟨a,b,rfl,y,x,I,z⟩;obtain⟨F,C,u⟩:=agz j a y;have q:=m.trans (z.mono m.size);obtain⟨G,s⟩:=yE ((j.alloc (MP #[yB 0,yB 0,yB 0,yB 0,yB 0,yB 0,yB 0,yB 0,yB 0,yB 0,yB 0,yB 0] 311)).setCells j.heap.size 0 (WR a));rw[<-s]at C u;have A:=q.trans (u.mono q.size);have o:(WR a).toArray.size=12:=by simp[Zv,y]
 have D:(j.alloc (MP #[yB 0,yB 0,yB 0,yB 0,yB 0,yB 0,yB 0,yB 0,yB 0,yB 0,yB 0,yB 0] 311)).there j.heap.size 0 (WR a).toArray.size:=by rw[o];exact F
 have E:(MK.info? 311).map (·.size)=MI (WR a).toArray.size:=by rw[Zx,o]
 have i:M6 (_/\_/\_/\_/\_/\_):=⟨D,E,OE (ac1 a),s,x,A⟩;clear D E F C u m z q s x I A o;cases b
 all_goals
  go_wp2_with ((with_reducible refine OW rfl 311 (O6 3) (O6 8) rfl j.heap.size 0 (WR a).toArray ?hx ?hy ?ht ?hi ?h1 ?_);(case hx=>rfl);(case hy=>rfl);(case ht=>exact i.out.1);(case hi=>exact i.out.2.1);(case h1=>exact i.out.2.2.1);rw[NS,<-i.out.2.2.2.1])
  go_ret
 ·exact⟨6,rfl,fun h=>PP (i.out.2.2.2.2.1.2 h),fun _=>rfl,i.out.2.2.2.2.2⟩
 ·exact⟨0,rfl,fun _=>rfl,fun h=>absurd (i.out.2.2.2.2.1.1 trivial) h,i.out.2.2.2.2.2⟩
theorem am2(b:Nat):∀k,k<=32->(ZJ b k).Nodup
 |0,_=>by simp[ZJ]
 |k+1,h=>by
  rw[aiT,Qv];refine⟨am2 b k (by omega),by simp,fun x hx y hy e=>?_⟩;rw[PY]at hy;obtain⟨i,m,rfl⟩:=aiK.1 hx;rw[hy]at e;have j:aaA b i=aaA b k:=by
   have:=congrArg Prod.fst e;simp only at this;exact Int.ofNat.inj this
  have:=(aub b i k (by omega) (by omega)).1 j;omega
theorem amU{a:List Int}(ha:XI a):∀n,(YZ a n).Nodup
 |0=>by simp[YZ]
 |n+1=>by
  rw[YZ,Qv];have o:=ha.Hw n;refine⟨amU ha n,am2 n _ (by omega),fun x hx y hy e=>?_⟩;obtain⟨b,i,m,_,rfl⟩:=aiJ.1 hx;obtain⟨j,_,rfl⟩:=aiK.1 hy;have:=congrArg Prod.snd e;simp only at this;omega
theorem ac2{a b:M7}{T:NU}(h:w.heap[g]?=MI (MP #[a] T (0,0))):(w.setCell ⟨g,0,MH⟩ b).heap[g]?=MI (MP #[b] T (0,0)):=by
 rw[Sort.setCell_eq];unfold Th;simp[Qp,h,Sort.onCells]
theorem XI.F4{a:List Int}(h:XI a)(j:Nat)(k:Int)(h0:0<=k)(h8:k<=8):XI (a.set j k):=by
 have e:∀b,(a.set j k).getD b 0=a.getD b 0\/(a.set j k).getD b 0=k:=fun b=>by
  rw[NK,NK]
  by_cases hb:j=b
  ·subst hb
   by_cases hl:j<a.length
   ·right;rw[N7 hl];rfl
   ·left;rw[Nz (by rw[NA];omega),Nz (by omega)]
  ·left;rw[N3 hb]
 refine⟨by rw[NA];exact h.len,fun b=>?_,fun b=>?_⟩
 ·rcases e b with e|e <;> rw[e]
  ·exact h.low b
  ·exact h0
 ·rcases e b with e|e <;> rw[e]
  ·exact h.high b
  ·exact h8
theorem Yd.wts(h:Yd l):XI (Xt l):=aiV fun b hb=>aiP h b hb
def atj(l:List Tm)(n k:Int)(w:MO)(r:Ending)(w':MO):Prop:=∃(y:M7) (e:Int),r=MN (Nv #[Ny #[y],yB e])/\yA w w' /\
 ((¬Yd l/\e=6/\y=MG MH 0 0)\/(Yd l/\¬((0<=n/\n<12)/\(1<=k/\k<=8))/\e=2/\y=MG MH 0 0)\/(Yd l/\((0<=n/\n<12)/\(1<=k/\k<=8))/\0<(Xt l).getD n.toNat 0/\e=7/\y=MG MH 0 0) \/
  (Yd l/\((0<=n/\n<12)/\(1<=k/\k<=8))/\¬0<(Xt l).getD n.toNat 0/\e=0/\w'.ownsRow w.heap.size 220 2 y (WW ((Xt l).set n.toNat k)).length (WP (WW ((Xt l).set n.toNat k)))))
theorem atm(v:M7)(l:List Tm)(n k:Int)(w:MO)(hv:Xz w v l) :
  Ni MK 188 #[Ny #[v],yB n,yB k] w (atj l n k w):=by
 obtain⟨p,c,rfl,_⟩:=hv.F6;have HV:M6 _:=hv;clear hv;go_enter ayh,ax9
 go_wp2_with fail
 obtain⟨H,E⟩:=yE ((w.alloc (MP #[MG p l.length c] 48)).alloc (MP #[MG MH 0 0] 48));rw[<-E];have R:yA w H:=by rw[E];exact((MY _ _).alloc (MV _) _).alloc (by simp) _
 have d4:H.heap[w.heap.size+1]?=MI (MP #[MG MH 0 0] 48 (0,0)):=by rw[E];exact Yu _ _ _
 have f0:H.heap.size=w.heap.size+2:=by rw[E];simp
 refine(agL _ l _ (HV.out.below R)).mono ?_;rintro r o ⟨a,b,rfl,z,b4,ha,O⟩;obtain⟨f1,f2,V⟩:=agz o a z;have a2:=R.trans (O.mono R.size);obtain⟨W5,Z⟩:=yE ((o.alloc (MP #[yB 0,yB 0,yB 0,yB 0,yB 0,yB 0,yB 0,yB 0,yB 0,yB 0,yB 0,yB 0] 311)).setCells o.heap.size 0 (WR a));rw[<-Z]at f2 V;have b7:=a2.trans (V.mono a2.size);have Q:=WO (WO d4 O) V;have e8:=Xu Q;have d9:W5.frozen? ⟨w.heap.size+1,0,MH⟩=false:=by simp[Ng,Q]
 have a7:(WR a).toArray.size=12:=by simp[Zv,z]
 have f9:=O.size;have k1:(o.alloc (MP #[yB 0,yB 0,yB 0,yB 0,yB 0,yB 0,yB 0,yB 0,yB 0,yB 0,yB 0,yB 0] 311)).there o.heap.size 0 (WR a).toArray.size:=by rw[a7];exact f1
 have k2:(MK.info? 311).map (·.size)=MI (WR a).toArray.size:=by rw[Zx,a7]
 have u:M6 (_/\_/\_/\_):=⟨k1,k2,OE (ac1 a),Z⟩;have i:M6 (_/\_/\_):=⟨f2,b7,Q⟩;have d6:Yd l\/¬Yd l:=Classical.em _;have K:M6 (_/\_):=⟨b4,ha⟩;clear k1 k2 f1 f2 V R O a2 Z b4 ha b7 a7 d4 Q E d6;cases b
 ·have b6:¬Yd l:=fun h=>PP (K.out.1.2 h)
  have m:M6 _:=b6;clear b6 K
  go_wp2_with ((with_reducible refine OW rfl 311 (O6 8) (O6 13) rfl o.heap.size 0 (WR a).toArray ?hx ?hy ?ht ?hi ?h1 ?_);(case hx=>rfl);(case hy=>rfl);(case ht=>exact u.out.1);(case hi=>exact u.out.2.1);(case h1=>exact u.out.2.2.1);rw[NS,<-u.out.2.2.2])
  refine Np (v:=Nv #[Ny #[MG MH 0 0],yB 6]) (XT aAd rfl rfl (Xp (P:=MK) (cs:=[MG MH 0 0]) (ac2 i.out.2.2) ax1 rfl (by kernel_rfl))) rfl ⟨_,_,rfl,i.out.2.1.setCell (by simp) _,Nt ⟨m.out,rfl,rfl⟩⟩
 ·have m:M6 (Yd l/\a=Xt l):=⟨K.out.1.1 rfl,K.out.2 rfl⟩
  clear K
  go_wp2_with ((with_reducible refine OW rfl 311 (O6 8) (O6 13) rfl o.heap.size 0 (WR a).toArray ?hx ?hy ?ht ?hi ?h1 ?_);(case hx=>rfl);(case hy=>rfl);(case ht=>exact u.out.1);(case hi=>exact u.out.2.1);(case h1=>exact u.out.2.2.1);rw[NS,<-u.out.2.2.2])
  refine(agB n _).mono ?_
  by_cases hn:0<=n/\n<12
  ·have A:Nn (0<=n/\n<12)=true:=Nq hn
   rw[A];rintro r w6 ⟨rfl,rfl⟩;clear A
   go_wp2_with fail
   refine(atK k _).mono ?_
   by_cases hk:1<=k/\k<=8
   ·have D:Nn (1<=k/\k<=8)=true:=Nq hk
    rw[D];rintro r w7 ⟨rfl,rfl⟩;have U:M6 ((0<=n/\n<12)/\(1<=k/\k<=8)):=⟨hn,hk⟩;have b9:(MK.info? 311).map (·.size)=MI (WR a).length:=by rw[Zx,Zv,z]
    have HG:M6 _:=b9;clear b9;clear D hk
    go_wp2_with ((with_reducible refine O3 rfl 311 (O6 8) rfl o.heap.size 0 ?gx (WR a) _ ?gc az0 ?gd ?gi ?_);(case gx=>rfl);(case gc=>exact i.out.1.Gq);(case gd=>rfl);(case gi=>exact HG.out))
    refine(agA a n _ z).mono ?_
    by_cases hp:0<a.getD n.toNat 0
    ·have F:Nn (0<=n/\n<12/\0<a.getD n.toNat 0)=true:=Nq ⟨hn.1,hn.2,hp⟩
     rw[F];rintro r w8 ⟨rfl,q⟩;have x:=WO i.out.2.2 q;have e7:=Xu x;have e9:w8.frozen? ⟨w.heap.size+1,0,MH⟩=false:=by simp[Ng,x]
     have HB:M6 (_/\_/\_):=⟨i.out.1.below q,i.out.2.1.trans (q.mono i.out.2.1.size),x⟩;have HP:M6 _:=hp;clear F hp q x;go_wp2;refine Np (v:=Nv #[Ny #[MG MH 0 0],yB 7]) (XT aAd rfl rfl (Xp (P:=MK) (cs:=[MG MH 0 0]) (ac2 HB.out.2.2) ax1 rfl (by kernel_rfl))) rfl ⟨_,_,rfl,HB.out.2.1.setCell (by simp) _,NF (NF (Nt ⟨m.out.1,U.out,by rw[<-m.out.2];exact HP.out,rfl,rfl⟩))⟩
    ·have F:Nn (0<=n/\n<12/\0<a.getD n.toNat 0)=false:=M0 fun h=>hp h.2.2
     rw[F];rintro r w8 ⟨rfl,q⟩;obtain⟨j,rfl⟩:=NL hn.1;have hj:j<12:=by omega
     have e6:(j:Int)<12:=by omega
     have S:=i.out.1.below q;have g1:=S.F7 j (by omega);have f8:=S.Gu j;have b3:=i.out.2.1.trans (q.mono i.out.2.1.size);have x:=WO i.out.2.2 q;have g0:=q.size;obtain⟨G,C⟩:=yE (w8.setCell ⟨o.heap.size,j,MH⟩ (yB k));have c3:Xj 311 12 G o.heap.size (a.set j k):=by rw[C];exact S.F4 j k
     have c4:yA w G:=by rw[C];exact b3.setCell (by simp;omega) _
     have c7:G.heap[w.heap.size+1]?=MI (MP #[MG MH 0 0] 48 (0,0)):=by rw[C,MU _ _ _ _ (by simp;omega)];exact x
     have d3:(MK.info? 311).map (·.size)=MI (WR (a.set j k)).length:=by rw[Zx,Zv,NA,z]
     have c8:XI (a.set j k):=by rw[m.out.2];exact m.out.1.wts.F4 j k (by have:=U.out.2;omega) (by have:=U.out.2;omega)
     have b8:¬0<a.getD j 0:=by simpa using hp
     have s:M6 (_/\_/\_/\_/\_/\_/\_):=⟨c3,c4,c7,d3,c8,C,b8⟩;clear c3 c4 c7 d3 c8 C b8 hp F S b3 x q
     go_wp2_with ((with_reducible refine O3 rfl 311 (O6 8) rfl o.heap.size 0 ?jx (WR (a.set j k)) _ ?jc az0 ?jd ?ji ?_);(case jx=>rfl);(case jc=>rw[<-s.out.2.2.2.2.2.1];exact s.out.1.Gq);(case jd=>rfl);(case ji=>exact s.out.2.2.2.1);rw[<-s.out.2.2.2.2.2.1])
     refine(am3 (a.set j k) _ s.out.2.2.2.2.1).mono ?_;rintro r c6 ⟨y,rfl,N,Y⟩;obtain⟨L,I,rfl⟩:=Y6 N;have M:=WO s.out.2.2.1 Y;have d8:=Xu M;have d7:c6.frozen? ⟨w.heap.size+1,0,MH⟩=false:=by simp[Ng,M]
     have a8:=(s.out.2.1.trans (Y.mono s.out.2.1.size)).setCell (p:=⟨w.heap.size+1,0,MH⟩) (by simp) (MG L (WW (a.set j k)).length I);have f7:=s.out.1.lt;have b5:(c6.setCell ⟨w.heap.size+1,0,MH⟩ (MG L (WW (a.set j k)).length I)).ownsRow w.heap.size 220 2 (MG L (WW (a.set j k)).length I) (WW (a.set j k)).length (WP (WW (a.set j k))):=
      (W8 N (fun g hg=>MU _ _ _ _ (by have:=(N.lt g hg).1;simp;omega))).mono (by omega)
     have HF:M6 (_/\_/\_):=⟨M,a8,b5⟩;clear M a8 b5 N Y;go_wp2;refine Np (v:=Nv #[Ny #[MG L (WW (a.set j k)).length I],yB 0]) (XT aAd rfl rfl (Xp (P:=MK) (cs:=[MG L (WW (a.set j k)).length I]) (ac2 HF.out.1) ax1 rfl (by kernel_rfl))) rfl ⟨_,_,rfl,HF.out.2.1,NF (NF (NF ⟨m.out.1,U.out,by rw[<-m.out.2];simpa using s.out.2.2.2.2.2.2,rfl,by rw[<-m.out.2];simpa using HF.out.2.2⟩))⟩
   ·have D:Nn (1<=k/\k<=8)=false:=M0 hk
    rw[D];rintro r w7 ⟨rfl,rfl⟩;have a6:M6 _:=hk;clear D hk;go_wp2;refine Np (v:=Nv #[Ny #[MG MH 0 0],yB 2]) (XT aAd rfl rfl (Xp (P:=MK) (cs:=[MG MH 0 0]) (ac2 i.out.2.2) ax1 rfl (by kernel_rfl))) rfl ⟨_,_,rfl,i.out.2.1.setCell (by simp) _,NF (Nt ⟨m.out.1,fun h=>a6.out h.2,rfl,rfl⟩)⟩
  ·have A:Nn (0<=n/\n<12)=false:=M0 hn
   rw[A];rintro r w6 ⟨rfl,rfl⟩;have a6:M6 _:=hn;clear A hn;go_wp2;refine Np (v:=Nv #[Ny #[MG MH 0 0],yB 2]) (XT aAd rfl rfl (Xp (P:=MK) (cs:=[MG MH 0 0]) (ac2 i.out.2.2) ax1 rfl (by kernel_rfl))) rfl ⟨_,_,rfl,i.out.2.1.setCell (by simp) _,NF (Nt ⟨m.out.1,fun h=>a6.out h.1,rfl,rfl⟩)⟩
theorem amX(h:Yd l):l.length<=384:=by
 obtain⟨a,i,rfl⟩:=h;exact aiU i
def atk(l:List Tm)(n:Int)(w:MO)(r:Ending)(w':MO):Prop:=∃(y:M7) (e:Int),r=MN (Nv #[Ny #[y],yB e])/\yA w w' /\
 ((¬Yd l/\e=6/\y=MG MH 0 0)\/(Yd l/\¬((0<=n/\n<12)/\0<(Xt l).getD n.toNat 0)/\e=8/\y=MG MH 0 0) \/
  (Yd l/\((0<=n/\n<12)/\0<(Xt l).getD n.toNat 0)/\e=0/\w'.ownsRow w.heap.size 220 2 y (WW ((Xt l).set n.toNat 0)).length (WP (WW ((Xt l).set n.toNat 0)))))
theorem Xj.at{T:NU}{a:List Int}(h:Xj T 12 w g a)(j:Nat)(hj:j<12):w.cell? ⟨g,j,MH⟩=MI (yB (a.getD j 0)):=by
 have i:j<a.length:=by rw[h.2];exact hj
 rw[h.F7 j i,NK,MR i];rfl
theorem Xz.Ga(h:Xz w v l):∃p c,v=MG p l.length c:=by
 obtain⟨p,c,e,_⟩:=h.F6;exact⟨p,c,e⟩
def aee(w:MO)(g:Nat)(v:M7)(l:List Tm):Prop:=w.heap[g]?=MI (MP #[v] 48 (0,0))/\Xz w v l
theorem aee.below(h:aee w g v l)(hb:yA w w'):aee w' g v l:=⟨WO h.1 hb,h.2.below hb⟩
theorem aee.new(h:Xz w v l):aee (w.alloc (MP #[v] 48)) w.heap.size v l:=⟨M1 _ _,h.below ((MY _ _).alloc (MV _) _)⟩
theorem aee.F7(h:aee w g v l):w.cell? ⟨g,0,MH⟩=MI v:=Xu h.1
theorem aee.lt(h:aee w g v l):g<w.heap.size:=(ZAa.1 h.1).1
theorem agw(w:MO)(o:Obj):yA w (w.alloc o):=(MY _ _).alloc (MV _) _
theorem aus(W:MO):(zeroValue 220).run MK W=.ok (Ny #[yB 0,yB 0]) W:=by kernel_rfl
theorem atA(base g c:Nat)(l:List Tm)(id:Int)(gid:Nat)(w:MO)(hown:w.ownsRow base 220 2 (MG (MI ⟨g,0,MH⟩) l.length c) l.length (WP l))(h:w.cell? ⟨gid,0,MH⟩=MI (yB id))(hne:gid≠g)(hex:∃t∈l,t.2=id) :
  Ni MK 184 #[MG (MI ⟨g,0,MH⟩) l.length c,PB (PD 185) #[] #[Na (MI ⟨gid,0,MH⟩)]] w fun r w'=>r=MN (MG (MI ⟨g,0,MH⟩) (kp l id).length c)/\w'.ownsRow base 220 2 (MG (MI ⟨g,0,MH⟩) (kp l id).length c) (kp l id).length (WP (kp l id))/\w.grownBy w' (MI g):=by
 have U:=atJ _ l id gid w (Yr hown) h hex;have b7:=MX w ⟨gid,0,MH⟩ h;have b9:l.length<=c/\c<=maxLen:=by
  obtain⟨_,c',he,hc,hm,_⟩:=Yr hown;cases he;exact⟨hc,hm⟩
 obtain⟨f0,c6⟩:=b9;unfold NE at c6;have R:M6 (_/\_/\_):=⟨U,hown,h⟩;clear U hown h hex;go_enter Tryz.func184,Tryz.ntmps184
 go_wp2_with fail
 refine R.out.1.mono ?_;rintro r w1 ⟨k,hk,rfl,S,V,C⟩;have A:kp (l.take k) id=l.take k:=aiI V;have M:=afh (junk:=[]) hk S;have H1:M6 (_/\_/\_/\_):=⟨C,A,M.1,M.2⟩;have e7:((k:Int) == -1)=false:=by
  rw[Oh];omega
 clear C A M S V;go_wp2
 go_loopw [5,6] (fun s5 s6 wr=>∃(j:Nat) (junk:List Tm),s5=yB ((kp (l.take j) id).length:Nat)/\s6=yB j/\j<=l.length/\(kp (l.take j) id).length+junk.length=j/\junk≠[]/\wr.ownsRow base 220 2 (MG (MI ⟨g,0,MH⟩) l.length c) l.length (WP (XE l id junk j))/\w.grownBy wr (MI g)) (fun _ s6 _=>l.length-(intOf s6).toNat)
 case atStart =>
  obtain⟨C,A,d3,d4⟩:=H1.out;have e0:XE l id [l[k]] (k+1)=l:=by
   have:XE l id ([]++[l[k]]) (k+1)=XE l id [] k:=d3;rw[Oz]at this;rw[this];unfold XE;rw[A,OG,Oo]
  have E:(kp (l.take (k+1)) id).length=k:=by rw[d4,A,NH];omega
  refine⟨k+1,[l[k]],by rw[E],by simp,hk,by rw[E];rfl,by simp,?_,aiH C⟩;rw[e0];exact agD R.out.2.1 C
 case round =>
  obtain⟨j,junk,rfl,rfl,hj,b3,a8,m,s⟩:=hrel;have c8:=aiM hj b3;have H:wr.cell? ⟨gid,0,MH⟩=MI (yB id):=s.cell R.out.2.2 (by simpa using hne);obtain⟨x,q,rfl⟩:∃x q,junk=x::q:=by
   cases junk with
   |nil=>exact absurd rfl a8
   |cons x r=>exact⟨x,r,rfl⟩
  rw[Ox]at b3;have b6:gid<wr.heap.size:=M8 b7 s.size;have f7:=(m.lt g rfl).2;generalize o:(kp (l.take j) id).length=i at *
  by_cases hlt:j<l.length
  ·have Z:=aiL (id:=id) (junk:=x::q) hlt (by rw[o,Ox];omega)
   obtain⟨b4,Y⟩:=ZAb.1 Z
   have G:=aaT (XE l id (x::q) j) j b4;rw[Y]at G;have f1:=(m.cellAt (j*2) (by omega)).trans G.1;have f2:=(m.cellAt (j*2+1) (by omega)).trans G.2;have Q:=aaT (XE l id (x::q) j) i (by omega);have f3:=(m.cellAt (i*2) (by omega)).trans Q.1;have f4:=(m.cellAt (i*2+1) (by omega)).trans Q.2;have f5:=m.frozenAt (i*2);have f6:=m.frozenAt (i*2+1);obtain⟨z,N⟩:=yE (l[j].1);obtain⟨u,O⟩:=yE (l[j].2);rw[<-N]at f1;rw[<-O]at f2;generalize ((XE l id (x::q) j)[i]'(by omega)).1=oa at f3;generalize ((XE l id (x::q) j)[i]'(by omega)).2=od at f4;have y:l[j]=(z,u):=by rw[N,O]
   have D:M6 (_/\_/\_/\_/\_):=⟨m,s,H,y,o⟩;have d9:(j:Int)<(l.length:Int):=by omega
   have c3:(i:Int)<(l.length:Int):=by omega
   have d6:i<j:=by omega
   have e8:i<l.length:=by omega
   clear m s H Z Y G Q N O y b4 o a8;have a6:((wr.alloc (MP #[yB z,yB u] 220))).cell? ⟨gid,0,MH⟩=MI (yB id):=by
    rw[NG (a:=⟨gid,0,MH⟩) (Ov wr _ gid b6)];exact D.out.2.2.1
   have a2:M6 _:=a6;clear a6;cases hd:Nn (u=id)
   ·go_wp2_with fail
    refine(agy z u id gid _ a2.out).mono ?_;rw[hd];rintro r w2 ⟨rfl,rfl⟩;go_wp2
    go_roundw
    case rel =>
     obtain⟨m,s,H,y,o⟩:=D.out;have b8:l[j].2≠id:=by rw[y];exact Nc hd
     obtain⟨I,F⟩:=aiN (x:=x) (junk:=q) hlt b8;have a7:=m.stored (i*2) (yB z);have L:=a7.1.stored (i*2+1) (yB u);have c4:=afj (XE l id (x::q) j) i (z,u);rw[c4]at L;rw[o,y]at I;refine⟨j+1,q++[l[j]],by rw[F,Ns,o];simp,by simp,hlt,by rw[F,Ns,o];simp;omega,by simp,?_,?_⟩
     ·rw[y,I];exact(L.1.alloc _).alloc _
     ·exact(((s.trans a7.2).trans L.2).trans (OL _ _ _)).trans (OL _ _ _)
    case measure=>simp[intOf];omega
   ·go_wp2_with fail
    refine(agy z u id gid _ a2.out).mono ?_;rw[hd];rintro r w2 ⟨rfl,rfl⟩;go_wp2
    go_roundw
    case rel =>
     obtain⟨m,s,H,y,o⟩:=D.out;have c7:l[j].2=id:=by rw[y];exact M2 hd
     obtain⟨I,F⟩:=afh (junk:=x::q) hlt c7;refine⟨j+1,x::q++[l[j]],by rw[F,o],by simp,hlt,by rw[F,o];simp;omega,by simp,?_,?_⟩
     ·rw[I];exact(m.alloc _).alloc _
     ·exact(s.trans (OL _ _ _)).trans (OL _ _ _)
    case measure=>simp[intOf];omega
  ·obtain rfl:j=l.length:=by omega
   have e6:i<l.length:=by omega
   obtain⟨vs,e9⟩:=aiR (P:=MK) wr 46 220 0 (yB 0) (yB 0) U9 aus rfl rfl g (i*2) (l.length-i) (c-i) (by omega) (fun t G=>by
    have h1:=m.cellAt (i*2+t) (by omega);rw[h1,MR (by rw[YE,c8];omega)];rfl) (fun t _=>m.frozenAt _)
   have K:=aeh vs (i*2) wr (agE m (i:=i) (by omega)) (MV _);have E:(WP (XE l id (x::q) l.length)).take (i*2)=WP (kp l id):=by
    have e2:kp (l.take l.length) id=kp l id:=by rw[NT]
    rw[e2]at o;rw[ac4];unfold XE;rw[e2,OC,ZqA (by omega),<-o,NT]
   rw[E]at K;have b5:(kp l id).length=i:=by rw[<-o,NT]
   have D:M6 (_/\_/\_):=⟨K,s,b5⟩;have c3:(i:Int)<(l.length:Int):=by omega
   have d8:(i:Int)<=(c:Int):=by omega
   have d7:c≠i:=by omega
   clear K s m o E b5;go_wp2;go_ret;obtain⟨r1,r2,r3⟩:=D.out;rw[r3];exact⟨rfl,r1.1,r2.trans r1.2⟩
theorem agH{a:List Int}(ha:XI a):(WW a).Pairwise (fun x y=>Xe x y<0):=at5 (amU ha 12)
theorem ane{a:List Int}(n b:Nat)(x:Int)(hn:n<a.length):wt (a.set n x) b=if b=n then x.toNat else wt a b:=by
 unfold wt
 by_cases h:b=n
 ·subst h
  rw[Nh rfl];simp[NK,N7 hn]
 ·rw[Nf h]
  simp[NK,N3 (Pi h)]
theorem atP{a:List Int}(ha:XI a)(n:Nat)(hn:n<12):kp (WW a) (n:Int)=WW (a.set n 0):=by
 have m:=ha.F4 n 0 (by omega) (by omega);refine am0 ((agH ha).filter _) (agH m) fun t=>?_
 unfold kp;rw[ZAf,afg,afg];constructor
 ·rintro⟨⟨b,i,hb,hi,rfl⟩,hne⟩
  have j:b≠n:=fun e=>by subst e;simp at hne
  refine⟨b,i,hb,?_,rfl⟩;rw[ane n b 0 (by rw[ha.len];exact hn),Nf j];exact hi
 ·rintro⟨b,i,hb,hi,rfl⟩
  rw[ane n b 0 (by rw[ha.len];exact hn)]at hi
  by_cases j:b=n
  ·rw[Nh j]at hi
   simp at hi
  ·rw[Nf j]at hi
   refine⟨⟨b,i,hb,hi,rfl⟩,?_⟩;simp;omega
theorem Yd.eq(h:Yd l):l=WW (Xt l):=(amW fun b hb=>aiP h b hb).1 h
theorem atO(h:Yd l)(n:Nat)(hn:n<12):kp l (n:Int)=WW ((Xt l).set n 0):=by
 have:=atP h.wts n hn;rwa[<-h.eq]at this
theorem atH(h:Yd l)(n:Nat)(hn:n<12)(hp:0<(Xt l).getD n 0):∃t∈l,t.2=(n:Int):=by
 refine⟨(((aaA n 0:Nat):Int),(n:Int)),?_,rfl⟩;rw[h.eq];refine afg.2 ⟨n,0,hn,?_,rfl⟩;unfold wt;omega
theorem ats(v:M7)(l:List Tm)(w:MO)(hv:Xz w v l)(h0:0<l.length)(hl:l.length<=1048576) :
  Ni MK 101 #[v] w fun r w'=>∃g c,r=MN (MG (MI ⟨g,0,MH⟩) l.length c)/\w'.ownsRow w.heap.size 220 2 (MG (MI ⟨g,0,MH⟩) l.length c) l.length (WP l)/\yA w w':=by
 obtain⟨a,q,rfl,O,N,h⟩:=hv;rcases h with⟨h,_⟩|⟨b,off,rfl,F,i⟩
 ·omega
 ·obtain⟨A,E,y,s,z⟩:=OF amP
  have m:∀j u,(WP l)[j]?=MI u->(w.alloc (MP #[] 220)).cell? ((⟨b,off,MH⟩:Oc).add j)=MI u:=fun j u hu=>by
   have G:=(ZAb.1 hu).1;rw[aas,(YF w).cell (p:=⟨b,off+j,MH⟩) F,i j G,hu]
  have H:M6 _:=m;have L:∀W,(binOp .eql 46 (MG (MI ⟨b,off,MH⟩) l.length q) (MG MH 0 0)).run MK W=.ok (M3 Nb) W:=fun W=>by kernel_rfl
  clear m i;go_enter QB,Qo
  go_wp2_with (first|(at_builtin;refine O9 _ rfl _ _ 46 rfl w.heap.size 220 A _ 2 16 U9 E y s z rfl (by decide) (MG (MI ⟨w.heap.size,0,MH⟩) 0 0) 0 [] rfl (ai9 (M1 _ _) (MV _)) ⟨b,off,MH⟩ l.length q (WP l) rfl (YE l) H.out (abJ l) h0 (by unfold NE;omega) (by omega) (by simp) _ rfl ?_;intro D C M o x I K))
  go_wp2;go_ret;refine⟨D,C,by simp,?_,?_⟩
  ·rw[Oa,Oz]at o
   exact o
  ·exact(YF w).grown x (by simp) (fun j e=>by cases e;exact MV _)
theorem at0(v:M7)(l:List Tm)(n:Int)(w:MO)(hv:Xz w v l) :
  Ni MK 124 #[Ny #[v],yB n] w (atk l n w):=by
 obtain⟨p,c,rfl,_⟩:=hv.F6;have HV:M6 _:=hv;clear hv;go_enter VV,VL
 go_wp2_with fail
 obtain⟨A,z⟩:=yE (((w.alloc (MP #[MG p l.length c] 48)).alloc (MP #[yB n] 3)).alloc (MP #[MG MH 0 0] 48));rw[<-z];have M:yA w A:=by rw[z];exact(((MY _ _).alloc (MV _) _).alloc (by simp) _).alloc (by simp;omega) _
 have d3:A.heap[w.heap.size]?=MI (MP #[MG p l.length c] 48 (0,0)):=by rw[z];exact Xy _ _ (Xy _ _ (M1 _ _))
 have d8:A.heap[w.heap.size+1]?=MI (MP #[yB n] 3 (0,0)):=by rw[z];exact Xy _ _ (Yu _ _ _)
 have d7:A.heap[w.heap.size+1+1]?=MI (MP #[MG MH 0 0] 48 (0,0)):=by rw[z];have:=M1 ((w.alloc (MP #[MG p l.length c] 48)).alloc (MP #[yB n] 3)) (MP #[MG MH 0 0] 48);simpa using this
 have g1:A.heap.size=w.heap.size+3:=by rw[z];simp
 refine(agL _ l _ (HV.out.below M)).mono ?_;rintro r y ⟨a,b,rfl,K,b7,ha,C⟩;obtain⟨f1,f2,D⟩:=agz y a K;have a7:=M.trans (C.mono M.size);obtain⟨W5,Z⟩:=yE ((y.alloc (MP #[yB 0,yB 0,yB 0,yB 0,yB 0,yB 0,yB 0,yB 0,yB 0,yB 0,yB 0,yB 0] 311)).setCells y.heap.size 0 (WR a));rw[<-Z]at f2 D;have c4:=a7.trans (D.mono a7.size);have L:=WO (WO d7 C) D;have a2:=WO (WO d8 C) D;have c6:=WO (WO d3 C) D;have e6:=Xu L;have e8:=Xu a2;have d9:W5.frozen? ⟨w.heap.size+1+1,0,MH⟩=false:=by simp[Ng,L]
 have b4:(WR a).toArray.size=12:=by simp[Zv,K]
 have g4:=C.size;have k1:(y.alloc (MP #[yB 0,yB 0,yB 0,yB 0,yB 0,yB 0,yB 0,yB 0,yB 0,yB 0,yB 0,yB 0] 311)).there y.heap.size 0 (WR a).toArray.size:=by rw[b4];exact f1
 have k2:(MK.info? 311).map (·.size)=MI (WR a).toArray.size:=by rw[Zx,b4]
 have c7:(MK.info? 311).map (·.size)=MI (WR a).length:=by rw[Zx,Zv,K]
 have o:M6 (_/\_/\_/\_/\_):=⟨k1,k2,OE (ac1 a),Z,c7⟩;have m:M6 (_/\_/\_/\_/\_):=⟨f2,c4,L,a2,c6⟩;have H:M6 (_/\_):=⟨b7,ha⟩;clear k1 k2 f1 f2 D M C a7 Z b7 ha c4 b4 d7 L z a2 c6 d3 d8 c7;cases b
 ·have b9:¬Yd l:=fun h=>PP (H.out.1.2 h)
  have u:M6 _:=b9;clear b9 H
  go_wp2_with ((with_reducible refine OW rfl 311 (O6 6) (O6 12) rfl y.heap.size 0 (WR a).toArray ?hx ?hy ?ht ?hi ?h1 ?_);(case hx=>rfl);(case hy=>rfl);(case ht=>exact o.out.1);(case hi=>exact o.out.2.1);(case h1=>exact o.out.2.2.1);rw[NS,<-o.out.2.2.2.1])
  refine Np (v:=Nv #[Ny #[MG MH 0 0],yB 6]) (XT VA rfl rfl (Xp (P:=MK) (cs:=[MG MH 0 0]) (ac2 m.out.2.2.1) ax1 rfl (by kernel_rfl))) rfl ⟨_,_,rfl,m.out.2.1.setCell (by simp;omega) _,Nt ⟨u.out,rfl,rfl⟩⟩
 ·have u:M6 (Yd l/\a=Xt l):=⟨H.out.1.1 rfl,H.out.2 rfl⟩
  clear H
  go_wp2_with (first|((with_reducible refine OW rfl 311 (O6 6) (O6 12) rfl y.heap.size 0 (WR a).toArray ?hx ?hy ?ht ?hi ?h1 ?_);(case hx=>rfl);(case hy=>rfl);(case ht=>exact o.out.1);(case hi=>exact o.out.2.1);(case h1=>exact o.out.2.2.1);rw[NS,<-o.out.2.2.2.1])|((with_reducible refine O3 rfl 311 (O6 6) rfl y.heap.size 0 ?gx (WR a) _ ?gc az0 ?gd ?gi ?_);(case gx=>rfl);(case gc=>exact m.out.1.Gq);(case gd=>rfl);(case gi=>exact o.out.2.2.2.2)))
  refine(agA a n _ K).mono ?_
  by_cases hp:(0<=n/\n<12)/\0<a.getD n.toNat 0
  ·have G:Nn (0<=n/\n<12/\0<a.getD n.toNat 0)=true:=Nq ⟨hp.1.1,hp.1.2,hp.2⟩
   rw[G];rintro r w8 ⟨rfl,q⟩;have x:=WO m.out.2.2.1 q;have c8:=WO m.out.2.2.2.1 q;have b5:=WO m.out.2.2.2.2 q;have S:=m.out.2.1.trans (q.mono m.out.2.1.size);have c3:=HV.out.below (amC S (MV _));have e9:=Xu b5;have Q:0<(Xt l).getD n.toNat 0:=by rw[<-u.out.2];exact hp.2
   have g5:=(ZAa.1 x).1;obtain⟨j,rfl⟩:=NL hp.1.1;have hj:j<12:=by omega
   rw[NR]at Q;have a8:=atH u.out.1 j hj Q;have e7:0<l.length:=by obtain⟨t,ht,_⟩:=a8;exact Qj ht
   have g3:=amX u.out.1;have F:=atO u.out.1 j hj;have s:M6 (_/\_/\_/\_/\_/\_/\_/\_):=⟨x,c8,b5,S,c3,a8,F,Q⟩;clear x c8 b5 S c3 a8 F Q G q hp o m e6 e8 d9
   go_wp2_with fail
   refine(ats _ l _ s.out.2.2.2.2.1 e7 (by omega)).mono ?_;rintro r w9 ⟨g,c9,rfl,b3,N⟩;have d4:=WO s.out.1 N;have d6:=WO s.out.2.1 N;have b8:=s.out.2.2.2.1.trans (N.mono s.out.2.2.2.1.size);have g0:=(b3.lt g rfl).1;have E:M6 (_/\_/\_/\_):=⟨d4,d6,b8,b3⟩;clear d4 d6 b8 b3 N e9
   go_wp2_with fail
   refine(atA _ g c9 l (j:Int) (w.heap.size+1) _ E.out.2.2.2 (Xu E.out.2.1) (by omega) s.out.2.2.2.2.2.1).mono ?_;rintro r O ⟨rfl,V,U⟩;have I:O.heap[w.heap.size+1+1]?=MI (MP #[MG MH 0 0] 48 (0,0)):=by
    rw[U.block _ (ZAa.1 E.out.1).1 (fun e=>by have:=NC e;omega)];exact E.out.1
   have b6:yA w O:=E.out.2.2.1.grown U E.out.2.2.1.size (fun i e=>by have:=NC e;omega);have f7:=Xu I;have f0:O.frozen? ⟨w.heap.size+1+1,0,MH⟩=false:=by simp[Ng,I]
   have R:=b6.setCell (p:=⟨w.heap.size+1+1,0,MH⟩) (by simp;omega) (MG (MI ⟨g,0,MH⟩) (kp l (j:Int)).length c9);have Y:(O.setCell ⟨w.heap.size+1+1,0,MH⟩ (MG (MI ⟨g,0,MH⟩) (kp l (j:Int)).length c9)).ownsRow w.heap.size 220 2 (MG (MI ⟨g,0,MH⟩) (kp l (j:Int)).length c9) (kp l (j:Int)).length (WP (kp l (j:Int))):=
    (W8 V (fun i hi=>MU _ _ _ _ (by have:=(V.lt i hi).1;simp;omega))).mono (by omega)
   rw[s.out.2.2.2.2.2.2.1]at Y R;have a6:M6 (_/\_/\_):=⟨R,Y,I⟩;have F:=s.out.2.2.2.2.2.2.1;rw[F];clear R Y I V b6 U F;go_wp2;refine Np (v:=Nv #[Ny #[MG (MI ⟨g,0,MH⟩) (WW ((Xt l).set j 0)).length c9],yB 0]) (XT VA rfl rfl (Xp (P:=MK) (cs:=[MG (MI ⟨g,0,MH⟩) (WW ((Xt l).set j 0)).length c9]) (ac2 a6.out.2.2) ax1 rfl (by kernel_rfl))) rfl ⟨_,_,rfl,a6.out.1,NF (NF ⟨u.out.1,⟨⟨by omega,by omega⟩,?_⟩,rfl,a6.out.2.1⟩)⟩;rw[NR];exact s.out.2.2.2.2.2.2.2
  ·have G:Nn (0<=n/\n<12/\0<a.getD n.toNat 0)=false:=M0 fun h=>hp ⟨⟨h.1,h.2.1⟩,h.2.2⟩
   rw[G];rintro r w8 ⟨rfl,q⟩;have x:=WO m.out.2.2.1 q;have f8:=Xu x;have f9:w8.frozen? ⟨w.heap.size+1+1,0,MH⟩=false:=by simp[Ng,x]
   have HB:M6 (_/\_/\_):=⟨m.out.2.1.trans (q.mono m.out.2.1.size),x,hp⟩;clear G hp q x;go_wp2;refine Np (v:=Nv #[Ny #[MG MH 0 0],yB 8]) (XT VA rfl rfl (Xp (P:=MK) (cs:=[MG MH 0 0]) (ac2 HB.out.2.1) ax1 rfl (by kernel_rfl))) rfl ⟨_,_,rfl,HB.out.1.setCell (by simp;omega) _,NF (Nt ⟨u.out.1,by rw[<-u.out.2];exact HB.out.2.2,rfl,rfl⟩)⟩
theorem amV(b:Nat):(Nj 12 (0:Int)).getD b 0=0:=by
 rw[NK,Pj]
 split <;> rfl
theorem aiW:XI (Nj 12 0):=⟨by simp,fun b=>by rw[amV];omega,fun b=>by rw[amV];omega⟩
theorem afi{a:List Int}(h:XI a):Yd (WW a):=⟨a,h,rfl⟩
theorem atn(v:M7)(a:List Int)(b:Nat)(k:Int)(w:MO)(ha:XI a)(hv:Xz w v (WW a))(hb:b<12)(hk:1<=k/\k<=8)(h0:¬0<a.getD b 0) :
  Ni MK 188 #[Ny #[v],yB (b:Int),yB k] w fun r w'=>∃p c,r=MN (Nv #[Ny #[MG p (WW (a.set b k)).length c],yB 0])/\w'.ownsRow w.heap.size 220 2 (MG p (WW (a.set b k)).length c) (WW (a.set b k)).length (WP (WW (a.set b k)))/\yA w w' :=
 (atm v (WW a) (b:Int) k w hv).mono fun r w' h=>by
  obtain⟨y,e,rfl,m,h⟩:=h;rw[agK ha,NR]at h;have j:=afi ha;rcases h with⟨q,_⟩|⟨_,s,_⟩|⟨_,_,o,_⟩|⟨_,_,_,rfl,i⟩
  ·exact absurd j q
  ·exact absurd ⟨⟨by omega,by omega⟩,hk⟩ s
  ·exact absurd o h0
  ·obtain⟨p,c,rfl⟩:=Y6 i
   exact⟨p,c,rfl,i,m⟩
def agI(out:List Int)(t:Tm):List Int:=if t.2∈out then out else out++[t.2]
def amL(m:List Tm):List Int:=m.foldl agI []
def ZP(a:List Int)(out:List Int):List Int:=(Pm 12).map fun(b:Nat)=>if(b:Int)∈out then 0 else a.getD b 0
theorem aff(a out:List Int):(ZP a out).length=12:=by simp[ZP]
theorem atR{a:List Int}(h:a.length=12):ZP a []=a:=by
 apply Ot;intro j
 by_cases hj:j<12
 ·simp[ZP,hj,NK,MR (show j<a.length by omega)]
 ·rw[Nz (by rw[aff];omega),Nz (by omega)]
theorem atQ(a out:List Int)(b:Nat)(hb:b<12):(ZP a out).getD b 0=if(b:Int)∈out then 0 else a.getD b 0:=by
 simp[ZP,hb]
theorem atS(a out:List Int)(b:Nat)(hb:b<12):ZP a (out++[(b:Int)])=(ZP a out).set b 0:=by
 apply Ot;intro j
 by_cases hj:j<12
 ·by_cases h:j=b
  ·subst h
   rw[N7 (by rw[aff];exact hj)];simp[ZP,hj]
  ·rw[N3 (Pi h)]
   have i:¬((j:Int)=(b:Int)):=by omega
   simp[ZP,hj,i]
 ·rw[Nz (by rw[aff];omega),Nz (by rw[NA,aff];omega)]
abbrev acZ(a:List Int)(n:Int):Prop:=0<=n/\n<12/\0<a.getD n.toNat 0
def ab9(a:List Int)(out:List Int)(t:Tm):List Int:=if acZ (ZP a out) t.2 then out++[t.2]else out
def aa5(a:List Int)(m:List Tm):List Int:=m.foldl (ab9 a) []
theorem aum(a:List Int)(m:List Tm)(t:Tm):aa5 a (m++[t])=ab9 a (aa5 a m) t:=by simp[aa5]
theorem aul(a:List Int)(m:List Tm):(aa5 a m).length<=m.length:=by
 have h:∀(m:List Tm) (x:List Int),(m.foldl (ab9 a) x).length<=x.length+m.length:=by
  intro m
  induction m with
  |nil=>intro x;simp
  |cons t m ih =>
   intro x;have i:(ab9 a x t).length<=x.length+1:=by
    unfold ab9
    split
    ·simp
    ·omega
   have:=ih (ab9 a x t);simp only[O4,Ox];omega
 simpa [aa5]using h m []
theorem amO{a:List Int}{n:Int}(h:acZ a n):acZ (ZP a out) n↔n∉ out:=by
 obtain⟨i,j,o⟩:=h;obtain⟨b,rfl⟩:=NL i;have m:b<12:=by omega
 unfold acZ;rw[NR]at *;rw[atQ a out b m]
 by_cases hm:(b:Int)∈out
 ·rw[Nh hm]
  exact⟨fun h=>absurd h.2.2 (by omega),fun h=>absurd hm h⟩
 ·rw[Nf hm]
  exact⟨fun _=>hm,fun _=>⟨i,j,o⟩⟩
theorem auk{a:List Int}{m:List Tm}(h:∀t∈m,acZ a t.2):aa5 a m=amL m:=by
 have j:∀(m:List Tm) (x:List Int),(∀t∈m,acZ a t.2)->m.foldl (ab9 a) x=m.foldl agI x:=by
  intro m
  induction m with
  |nil=>intro x _;rfl
  |cons t m ih =>
   intro x i;have e:ab9 a x t=agI x t:=by
    unfold ab9 agI
    by_cases ht:t.2∈x
    ·rw[Nh ht,Nf (fun h=>(amO (i t (NM ..))).1 h ht)]
    ·rw[Nf ht,Nh ((amO (i t (NM ..))).2 ht)]
   rw[O4,O4,e];exact ih _ fun y hy=>i y (NB _ hy)
 exact j m [] h
theorem at2(h:Yd l):∀t∈l,acZ (Xt l) t.2:=by
 intro t j;have e:=h.eq;rw[e]at j;obtain⟨b,i,o,m,rfl⟩:=afg.1 j;refine⟨by simp,by simp only;omega,?_⟩;simp only[NR];unfold wt at m;omega
def afk(l:List Tm)(at_:Int):List Tm:=l.filter (fun t=>Nn (at_<=t.1))++l.filter (fun t=>Nn (t.1<at_))
def acy(l:List Tm)(at_:Int):List Int:=amL (afk l at_)
theorem atT:t∈afk l at_↔t∈l:=by
 unfold afk;simp only[QF,ZAf,decide_eq_true_eq];constructor
 ·rintro(h|h) <;> exact h.1
 ·intro h
  by_cases h2:at_<=t.1
  ·exact Nt ⟨h,h2⟩
  ·exact NF ⟨h,by omega⟩
def aaz(l:List Tm)(at_:Int):Nat:=l.findIdx fun t=>Nn (at_<=t.1)
theorem aiG(l:List Tm)(at_:Int):aaz l at_<=l.length:=List.findIdx_le_length
theorem amJ(j:Nat)(hj:j<l.length)(h:j<aaz l at_):l[j].1<at_:=by
 have:=List.not_of_lt_findIdx h;simp at this;exact this
theorem amK(hs:l.Pairwise (fun x y=>Xe x y<0))(j:Nat)(hj:j<l.length)(h:aaz l at_<=j):¬l[j].1<at_:=by
 have i:aaz l at_<l.length:=by omega
 have m:at_<=l[aaz l at_].1:=by
  have:=List.findIdx_getElem (w:=i);exact M2 this
 by_cases e:aaz l at_=j
 ·have:l[aaz l at_]=l[j]:=by congr 1
  rw[this]at m;omega
 ·have:=List.pairwise_iff_getElem.1 hs (aaz l at_) j i hj (by omega)
  rw[acY]at this;omega
theorem atC{α:Type}(p:α->Bool)(l:List α)(k:Nat)(h1:∀j (hj:j<l.length),j<k->p l[j]=Nb)(h2:∀j (hj:j<l.length),k<=j->p l[j]=Nw):l.filter p=l.drop k/\l.filter (fun x=>!p x)=l.take k:=by
 have o:(l.take k).filter p=[]:=List.filter_eq_nil_iff.2 fun x hx=>by
  obtain⟨j,hj,rfl⟩:=List.mem_take_iff_getElem.1 hx;rw[h1 j (by omega) (by omega)];exact PE
 have q:(l.drop k).filter p=l.drop k:=List.filter_eq_self.2 fun x hx=>by
  obtain⟨j,hj,rfl⟩:=List.mem_drop_iff_getElem.1 hx;exact h2 _ (by omega) (by omega)
 have m:(l.take k).filter (fun x=>!p x)=l.take k:=List.filter_eq_self.2 fun x hx=>by
  obtain⟨j,hj,rfl⟩:=List.mem_take_iff_getElem.1 hx;rw[h1 j (by omega) (by omega)];rfl
 have i:(l.drop k).filter (fun x=>!p x)=[]:=List.filter_eq_nil_iff.2 fun x hx=>by
  obtain⟨j,hj,rfl⟩:=List.mem_drop_iff_getElem.1 hx;rw[h2 _ (by omega) (by omega)];exact PE
 constructor
 ·conv=>lhs;rw[<-Oo k l]
  rw[OY,o,q,Oz]
 ·conv=>lhs;rw[<-Oo k l]
  rw[OY,m,i,OG]
theorem auf(hs:l.Pairwise (fun x y=>Xe x y<0))(at_:Int):afk l at_=l.drop (aaz l at_)++l.take (aaz l at_):=by
 have h:=atC (fun t:Tm=>Nn (at_<=t.1)) l (aaz l at_) (fun j hj h=>by have:=amJ j hj h;simp;omega) (fun j hj h=>by have:=amK hs j hj h;simp;omega);unfold afk;rw[h.1,<-h.2]
 congr 1
 apply List.filter_congr;intro t _
 by_cases e:at_<=t.1
 ·simp[e]
 ·simp[e]
  omega
def aay(l:List Tm)(i0 k:Nat):List Tm:=(Pm k).map fun j=>l.getD ((i0+j) % l.length) (0,0)
theorem aty(l:List Tm)(i0 k:Nat):aay l i0 (k+1)=aay l i0 k++[l.getD ((i0+k) % l.length) (0,0)]:=by simp[aay,ZqB]
theorem amI(l:List Tm)(i0 k:Nat):(aay l i0 k).length=k:=by simp[aay]
theorem atv(l:List Tm)(i0:Nat)(h:i0<=l.length):aay l i0 l.length=l.drop i0++l.take i0:=by
 apply Ot;intro j
 by_cases hj:j<l.length
 ·have i:0<l.length:=by omega
  rw[Q9,NJ];unfold aay;rw[List.getElem?_map,List.getElem?_range hj];simp only[OH]
  by_cases h2:j<l.length-i0
  ·rw[Nh h2,Pa,Nat.mod_eq_of_lt (by omega),NK,MR (by omega)]
   rfl
  ·have e:(i0+j) % l.length=j-(l.length-i0):=by
    rw[show i0+j=(j-(l.length-i0))+l.length by omega,Nat.add_mod_right,Nat.mod_eq_of_lt (by omega)]
   rw[Nf h2,e,O0 (by omega),NK,MR (by omega)];rfl
 ·rw[Nz (by rw[amI];omega),Nz (by simp;omega)]
theorem aup(h:Yd l)(at_:Int):aa5 (Xt l) (aay l (aaz l at_) l.length)=acy l at_:=by
 have i:l.Pairwise (fun x y=>Xe x y<0):=by have:=agH h.wts;rwa[<-h.eq]at this
 rw[atv l _ (aiG l at_),<-auf i at_];exact auk fun t ht=>at2 h t (atT.1 ht)
def atl(l:List Tm)(key:Int)(w:MO)(r:Ending)(w':MO):Prop:=∃(y:M7) (e:Int),r=MN (Nv #[y,yB e])/\yA w w' /\
 ((¬Yd l/\e=6/\y=MG MH 0 0)\/(Yd l/\¬(0<=key/\key<=4294967295)/\e=2/\y=MG MH 0 0) \/
  (Yd l/\(0<=key/\key<=4294967295)/\e=0/\w'.ownsRow w.heap.size 3 1 y (acy l (abp key.toNat:Nat)).length (WR (acy l (abp key.toNat:Nat)))))
theorem atI(a b:List Int):WR (a++b)=WR a++WR b:=by simp[WR]
theorem amA(a b c:Int)(w:MO) :
  Ni MK 264 #[Ny #[yB a,yB b],yB c] w fun r w'=>r=MN (yB (YK a c))/\yA w w':=by
 go_enter Tryz.func264,Tryz.ntmps264
 go_wp2_with fail
 refine(aeg a c _).mono ?_;rintro r i ⟨rfl,rfl⟩;go_wp2;go_ret;exact⟨rfl,(MY _ _).alloc (MV _) _⟩
theorem amE(a b:Int):YK a b<0↔a<b:=by
 unfold YK
 repeat' split
 all_goals omega
theorem at3(v:M7)(l:List Tm)(at_:Int)(i0:Nat)(w:MO)(hv:Xz w v l)(h0:i0<=l.length)(h1:∀j (hj:j<l.length),j<i0->l[j].1<at_)(h2:∀j (hj:j<l.length),i0<=j->¬l[j].1<at_)(hlen:l.length<=1048577) :
  Ni MK 263 #[v,yB at_,PB (PD 264) #[] #[]] w fun r w'=>∃b,r=MN (Nv #[yB i0,M3 b])/\yA w w':=by
 obtain⟨a,ca,rfl,a2,V,R⟩:=hv.F6;unfold NE at V;have K:M6 (_/\_/\_):=⟨R,h1,h2⟩;clear R h1 h2;go_enter Tryz.func263,Tryz.ntmps263;go_wp2
 go_loopw [9,10] (fun i j wr=>∃(p q:Nat),i=yB p/\j=yB q/\p<=i0/\i0<=q/\q<=l.length/\yA w wr) (fun i j _=>(intOf j).toNat-(intOf i).toNat)
 case atStart=>exact⟨0,l.length,rfl,rfl,Nx _,h0,MV _,MY _ _⟩
 case round =>
  obtain⟨p,q,rfl,rfl,hp,hq,Y,Q⟩:=hrel;have o:M6 _:=Q;clear Q
  by_cases hlt:p<q
  ·have a6:Nn ((p:Int)<(q:Int))=true:=Nq (by omega)
   obtain⟨m,G⟩:=yE ((p+q) / 2);have a8:p<=m:=by omega
   have b3:m<q:=by omega
   have b4:((p:Int)+(q:Int)) / 2=(m:Int):=by omega
   have a7:(p+q) / 2=m:=G.symm;clear G;obtain⟨E,off,rfl,A,F,D⟩:=K.out.1 m (by omega);have N:=(o.out.cell (p:=⟨E,off+m*2,MH⟩) A).trans F;have L:=(o.out.cell (p:=⟨E,off+m*2+1,MH⟩) A).trans D;obtain⟨s,x⟩:∃s,(l[m]'(by omega)).1=s:=⟨_,rfl⟩;obtain⟨u,C⟩:∃u,(l[m]'(by omega)).2=u:=⟨_,rfl⟩;rw[x]at N;rw[C]at L;have O:M6 _:=x;clear x C F D;have U:(0:Int)<=(m:Int):=by omega
   have Z:(m:Int)<(l.length:Int):=by omega
   obtain⟨c,M⟩:=yE (YK s at_);have y:=fun W=>amA s u at_ W
   rw[<-M]at y;have H:M6 (_/\_):=⟨M,y⟩;clear M y;cases hcd:Nn (c<0)
   ·go_wp2_with (first|(go_at_call 264;refine(H.out.2 _).mono ?_;rintro r S ⟨rfl,z⟩))
    refine⟨⟨p,m,rfl,rfl,hp,?_,by omega,o.out.trans (z.mono o.out.size)⟩,by simp[intOf];omega⟩;rcases Oq m i0 with h|h
    ·have I:=K.out.2.1 m (by omega) h
     rw[O.out]at I;exact absurd ((amE _ _).2 I) (by rw[<-H.out.1];exact Nc hcd)
    ·exact h
   ·go_wp2_with (first|(go_at_call 264;refine(H.out.2 _).mono ?_;rintro r S ⟨rfl,z⟩))
    refine⟨⟨m+1,q,by simp,rfl,?_,hq,Y,o.out.trans (z.mono o.out.size)⟩,by simp[intOf];omega⟩;rcases Oq m i0 with h|h
    ·exact h
    ·have I:=K.out.2.2 m (by omega) h
     rw[O.out]at I;have h4:s<at_:=(amE _ _).1 (by rw[<-H.out.1];exact M2 hcd);omega
  ·obtain rfl:p=i0:=by omega
   obtain rfl:q=p:=by omega
   obtain⟨m,G⟩:=yE q;subst G
   by_cases hlt2:m<l.length
   ·obtain⟨E,off,rfl,A,F,D⟩:=K.out.1 m (by omega)
    have N:=(o.out.cell (p:=⟨E,off+m*2,MH⟩) A).trans F;have L:=(o.out.cell (p:=⟨E,off+m*2+1,MH⟩) A).trans D;obtain⟨s,x⟩:∃s,(l[m]'(by omega)).1=s:=⟨_,rfl⟩;obtain⟨u,C⟩:∃u,(l[m]'(by omega)).2=u:=⟨_,rfl⟩;rw[x]at N;rw[C]at L;clear x C F D;have U:(0:Int)<=(m:Int):=by omega
    have Z:(m:Int)<(l.length:Int):=by omega
    have y:=fun W=>amA s u at_ W
    go_wp2_with (first|(go_at_call 264;refine(y _).mono ?_;rintro r S ⟨rfl,z⟩))
    go_ret2
    exact⟨_,rfl,o.out.trans (z.mono o.out.size)⟩
   ·obtain rfl:m=l.length:=by omega
    go_wp2
    go_ret2
    exact⟨_,rfl,o.out⟩
section
open Go.Shelf
attribute [local go_sem] Oper.semAt_some
def abo(S:Nat->Prop)(W W':MO):Prop:=∀k,S k->W'.heap[k]?=W.heap[k]?
theorem abo.F0{S:Nat->Prop}{A B C:MO}(h1:abo S A B)(h2:abo S B C):abo S A C:=fun k hk=>(h2 k hk).trans (h1 k hk)
theorem abo.Gy(S:Nat->Prop)(A:MO):abo S A A:=fun _ _=>rfl
theorem abo.F7{S:Nat->Prop}{A B:MO}(h:abo S A B)(hk:S k)(o:Nat):B.cell? ⟨k,o,MH⟩=A.cell? ⟨k,o,MH⟩:=NG (h k hk)
theorem atZ(i0 k len j:Nat)(hj:j=(i0+k) % len)(hl:0<len)(h1:i0<=1048576)(h2:k<=1048576)(h3:len<=1048576)(W:MO):(binOp .rem 3 (yB ((i0:Int)+(k:Int))) (yB (len:Int))).run MK W=.ok (yB (j:Int)) W:=by
 have o:¬(len:Int)=0:=by omega
 have i:(0:Int)<(len:Int):=by omega
 have m:((i0:Int)+(k:Int)).tmod (len:Int)=(j:Int):=by
  rw[hj,Oi (by omega),QY,Int.natCast_add]
 subst hj;go_simp;omega
theorem ato(n:Nat)(hn:1<=n)(l Bs Bf:Nat)(p:Option Oc)(c:Nat)(i0:Nat)(xs:List Tm)(S:Nat->Prop)(hSs:S Bs)(hSf:S Bf)(hi0:i0<=xs.length)(hlen:xs.length<=1048576)(hcap:xs.length<=c)
  (J Jx:List Tm->MO->Prop)
  (hY:∀pre x W,J pre W->pre.length<xs.length->YieldAt SJ (n-1) MK l #[Ny #[yB x.1,yB x.2]] W fun e W' =>
   (e=MN (M3 Nw)/\J (pre++[x]) W'/\abo S W W')\/(e=MN (M3 Nb)/\Jx (pre++[x]) W'))
  (hD:∀pre W,J pre W->J pre W.drew)
  (W:MO) (hBs:W.cell? ⟨Bs,0,MH⟩=MI (MG p xs.length c)) (hBf:W.cell? ⟨Bf,0,MH⟩=MI (yB i0))
  (pa:∀i (hi:i<xs.length),∃b off,p=MI ⟨b,off,MH⟩/\S b/\W.cell? ⟨b,off+i*2,MH⟩=MI (yB xs[i].1)/\W.cell? ⟨b,off+i*2+1,MH⟩=MI (yB xs[i].2)) (h0:J [] W) :
  CallsIn SJ n MK 266 #[PB (.yield l) #[] #[],Na (MI ⟨Bs,0,MH⟩),Na (MI ⟨Bf,0,MH⟩)] W fun e W'=>(∃v,e=MN v) /\
   ((∃ys,ys=aay xs i0 xs.length/\J ys W')\/(∃pre:List Tm,True/\Jx pre W')):=by
 have Z:M6 _:=pa;clear pa;refine callsIn_of_wp Tryz.func266 rfl trivial ?_ rfl;simp only[Tryz.ntmps266,OQ,Ox,List.length_nil,Nat.reduceAdd,Nat.reduceSub,Sg,Sh,SY,Sk,Oz,List.cons_append]
 gi_wp2
 gi_loopw [7] (fun i wr=>∃k:Nat,k<=xs.length/\i=yB k/\J (aay xs i0 k) wr/\abo S W wr)
  (fun i _=>xs.length-(intOf i).toNat)
 case atStart=>exact⟨0,Nx _,rfl,h0,abo.Gy _ _⟩
 case round =>
  obtain⟨k,hk,rfl,u,q⟩:=hrel
  by_cases hlt:k<xs.length
  ·obtain⟨j,s⟩:=yE ((i0+k) % xs.length)
   have G:j<xs.length:=by rw[s];exact Nat.mod_lt _ (by omega)
   obtain⟨b,off,rfl,H,c1,c2⟩:=Z.out j G;have e1:=(q.F7 H (off+j*2)).trans c1;have R:=(q.F7 H (off+j*2+1)).trans c2;have c6:=(q.F7 hSs 0).trans hBs;have c3:=(q.F7 hSf 0).trans hBf;have C:aay xs i0 (k+1)=aay xs i0 k++[xs[j]]:=by
    rw[aty,<-s,NK,MR G];rfl
   obtain⟨o,D⟩:=yE (xs[j].1);obtain⟨m,y⟩:=yE (xs[j].2);have K:xs[j]=(o,m):=by rw[D,y]
   rw[<-D]at e1;rw[<-y]at R;rw[K]at C;obtain⟨fn,a8,a2,b3,Y,L⟩:=hY _ (o,m) wr.drew (hD _ _ u) (by rw[amI];exact hlt);have b6:(k:Int)<(xs.length:Int):=by omega
   have O:((i0:Int)+(k:Int)).tmod (xs.length:Int)=(j:Int):=by
    rw[s,Oi (by omega),QY,Int.natCast_add]
   have b5:(IntKind.i64.wrap ((i0:Int)+(k:Int))).tmod (xs.length:Int)=(j:Int):=by
    rw[show IntKind.i64.wrap ((i0:Int)+(k:Int))=(i0:Int)+(k:Int)by rw[Ow];omega];exact O
   have a6:=atZ i0 k xs.length j s (by omega) (by omega) (by omega) hlen
   dsimp only at Y
   have N:=L.mono (R':=fun e r=>∃go:Bool,e=MN (M3 go)/\(go=Nw->M6 (J (aay xs i0 k++[(o,m)]) r/\abo S wr.drew r))/\(go=Nb->M6 (Jx (aay xs i0 k++[(o,m)]) r/\True))) (fun e r h=>by
    rcases h with⟨E,F,V⟩|⟨E,F⟩
    ·exact⟨Nw,E,fun _=>⟨F,V⟩,fun h=>PP h⟩
    ·exact⟨Nb,E,fun h=>PP h,fun _=>⟨F,trivial⟩⟩)
   clear L;have a7:MK.follows .mixedOrders=true:=by kernel_rfl
   have b7:(0:Int)<(xs.length:Int):=by omega
   have b8:¬xs=[]:=fun e=>by rw[e]at hlt;simp at hlt
   have b4:¬xs.length=0:=by omega
   have c7:(0:Int)<=(j:Int):=by omega
   have c4:(j:Int)<(xs.length:Int):=by omega
   have U:¬(xs.length:Int)=0:=by omega
   have b9:((xs.length:Int) == 0)=false:=by rw[Oh];exact U
   have Q:M6 (_/\_):=⟨u,C⟩;clear u C hY hD c1 c2 K D y s
   gi_wp2
   gi_region_with_o (with_reducible refine N.mono ?_;rintro e r ⟨go,rfl,A,z⟩)
   all_goals
    cases go
    ·have M:=z rfl
     clear A z
     gi_wp2
     refine Np (results_none rfl _ _ _) rfl ?_;exact⟨⟨_,rfl⟩,NF ⟨_,trivial,M.out.1⟩⟩
    ·have I:=A rfl
     clear A z
     gi_wp2
     go_roundw
     case rel=>exact⟨k+1,by omega,by simp,by rw[Q.out.2];exact I.out.1,q.F0 I.out.2⟩
     case measure=>simp[intOf];omega
  ·obtain rfl:k=xs.length:=by omega
   gi_wp2
   go_end0
   exact⟨⟨_,rfl⟩,Nt ⟨_,rfl,u⟩⟩
theorem atq(v:M7)(l:List Tm)(at_:Int)(w:MO)(hv:Xz w v l)(hs:l.Pairwise (fun x y=>Xe x y<0))(hlen:l.length<=1048577) :
  Ni MK 213 #[v,yB at_] w fun r w'=>∃Bf,r=MN (PB (PD 266) #[] #[Na (MI ⟨w.heap.size,0,MH⟩),Na (MI ⟨Bf,0,MH⟩)])/\w'.heap[w.heap.size]?=MI (MP #[v] 46 (0,0))/\w'.heap[Bf]?=MI (MP #[yB (aaz l at_:Nat)] 3 (0,0))/\w.heap.size<Bf/\yA w w':=by
 obtain⟨p,c,rfl⟩:=hv.Ga;have A:M6 (_/\_):=⟨hv,hs⟩;clear hv hs;go_enter WC,Wn
 go_wp2_with fail
 obtain⟨m,j⟩:=yE (w.alloc (MP #[MG p l.length c] 46));have i:yA w m:=by rw[j];exact agw _ _
 have u:m.heap[w.heap.size]?=MI (MP #[MG p l.length c] 46 (0,0)):=by rw[j];exact M1 _ _
 rw[<-j];clear j;refine(at3 _ l at_ (aaz l at_) _ (A.out.1.below i) (aiG l at_) amJ (amK A.out.2) hlen).mono ?_;rintro r D ⟨C,rfl,q⟩;have s:=WO u q;have z:=i.trans (q.mono i.size);have o:M6 (_/\_):=⟨s,z⟩;clear s z i q u;go_wp2;go_ret;exact⟨_,rfl,Xy _ _ o.out.1,M1 _ _,(ZAa.1 o.out.1).1,o.out.2.alloc o.out.2.size _⟩
end
section
open Go.Shelf
attribute [local go_sem] Oper.semAt_some
theorem atp(n:Nat)(hn:1<=n)(Bs Bf:Nat)(p:Option Oc)(c:Nat)(i0:Nat)(xs:List Tm)(S:Nat->Prop)(w:MO)(hSs:S Bs)(hSf:S Bf)(hi0:i0<=xs.length)(hlen:xs.length<=1048576)(hcap:xs.length<=c)
  (hS:∀k,S k->k<w.heap.size) (hBs:w.cell? ⟨Bs,0,MH⟩=MI (MG p xs.length c)) (hBf:w.cell? ⟨Bf,0,MH⟩=MI (yB i0))
  (pa:∀i (hi:i<xs.length),∃b off,p=MI ⟨b,off,MH⟩/\S b/\w.cell? ⟨b,off+i*2,MH⟩=MI (yB xs[i].1)/\w.cell? ⟨b,off+i*2+1,MH⟩=MI (yB xs[i].2)) :
  SeqStopsK SJ n MK 266 #[Na (MI ⟨Bs,0,MH⟩),Na (MI ⟨Bf,0,MH⟩)] (fun x:Tm=>#[Ny #[yB x.1,yB x.2]]) (abo S) (fun ys=>ys=aay xs i0 xs.length) (fun _=>True) xs.length w:=fun l J Jx W hW hJ _ hY h0 =>
 ato n hn l Bs Bf p c i0 xs S hSs hSf hi0 hlen hcap J Jx hY (fun pre W1 hj=>hJ pre W1 _ MH hj ⟨rfl,rfl,rfl,MV _,fun _ _ _=>rfl⟩ (fun r e=>by cases e)) W ((hW.cell (p:=⟨Bs,0,MH⟩) (hS _ hSs)).trans hBs) ((hW.cell (p:=⟨Bf,0,MH⟩) (hS _ hSf)).trans hBf)
  (fun i hi=>by
   obtain⟨b,off,q,j,m,o⟩:=pa i hi;exact⟨b,off,q,j,(hW.cell (p:=⟨b,off+i*2,MH⟩) (hS _ j)).trans m,(hW.cell (p:=⟨b,off+i*2+1,MH⟩) (hS _ j)).trans o⟩) h0
theorem anb{F:Fence}{n:Nat}(w:MO){ops:Array Oper}{rest:List Oper}{o:Oper}{a:Act}{Q:Exit->Act->MO->Prop}
  (hg:o.guard=MH) (T:NU) (x:Operand) (hop:o.op=.load T x) (v res:M7) (hx:a.eval x=v) (hr:(Instr.loadAt T v).run P w=.ok res w) (hK:wpListIn F n P ops Q rest (a.put o.dst res) w) :
  wpListIn F n P ops Q (o::rest) a w:=by
 refine wpListIn_plain hg fun K hK'=>?_
 unfold Oper.wpIn;refine⟨?_,?_⟩
 ·simp[Oper.about,hop,resolve,Target.leads,P3]
 ·rw[Oper.semAt_plain F _ _ (by rw[hop];intro c i;cases i)]
  simp[execOp,hop,hx,hr,Result.andThen];exact hK' _ _ hK
theorem agC{row:Option Nat}{cs:Array M7}{t:NU}{f:Nat×Nat}(h:W.heap[k]?=MI (MP cs t f))(hg:W.grownBy W' row)(hr:∀r,row=MI r->∃o:Obj,W.heap[r]?=MI o/\o.isCells=Nb):W'.heap[k]?=W.heap[k]?:=by
 refine hg.block k (ZAa.1 h).1 (fun e=>?_);obtain⟨o,i,j⟩:=hr k e.symm;rw[h]at i;cases i;cases j
def adE(w WL:MO)(g6 g10:Nat)(a:List Int)(out:List Int)(W:MO):Prop :=
 (∃v,Boxed W g10 276 v/\W.ownsRow WL.heap.size 3 1 v out.length (WR out))/\Xj 311 12 W g6 (ZP a out)/\yA w W/\WL.heap.size<=W.heap.size
theorem atw(w WL:MO)(g6 g10:Nat)(a:List Int)(hsz:w.heap.size<=WL.heap.size):OwnFrom WL.heap.size (fun(pre:List Tm) W=>adE w WL g6 g10 a (aa5 a pre) W):=by
 rintro pre W W' y ⟨⟨v,u,s⟩,q,x,A⟩ i m;have j:∀r,y=MI r->∃o:Obj,W.heap[r]?=MI o/\o.isCells=false:=fun r e=>(m r e).2
 refine⟨⟨v,(agC u i j).trans u,W8 s (fun g hg'=>?_)⟩,q.Gf (agC q.1 i j),x.grown i x.size (fun k e=>Nm hsz (m k e).1),Nm A i.size⟩;rcases s.2 with⟨rfl,_⟩|⟨C,D,E,rfl,_,z,_⟩
 ·cases hg'
 ·have e:C=g:=by simpa [QQ]using hg'
  subst e;exact agC z i j
theorem atX{cs:Array M7}{t e:NU}{f:Nat×Nat}(h:W.heap[k]?=MI (MP cs t f))(hte:t≠e){base size n:Nat}{xs:List M7}(hr:W.ownsRow base e size v n xs):v.ownBlock≠MI k:=by
 rcases hr.2 with⟨rfl,_⟩|⟨g,q,o,rfl,_,i,_⟩
 ·simp[QQ]
 ·intro m
  have j:g=k:=by simpa [QQ]using m
  subst j;rw[h]at i;cases i;exact hte rfl
def agv(N g6 g10:Nat)(k:Nat):Prop:=k<N/\k≠g6/\k≠g10
theorem aiB{N:Nat}(h:yA W W')(hN:N<=W.heap.size):abo (agv N g6 g10) W W':=fun k hk=>h.block k (by have:=hk.1;omega)
theorem aiA{N:Nat}(h:yA W W'):KeepsFrom N W W':=⟨h.size,fun k o _ hk _=>(h.block k (ZAa.1 hk).1).trans hk⟩
theorem adE.below{WL:MO}{a:List Int}(h:adE w WL g6 g10 a out W)(hb:yA W W'):adE w WL g6 g10 a out W':=by
 obtain⟨⟨v,q,o⟩,m,i,j⟩:=h;exact⟨⟨v,WO q hb,YI o hb⟩,m.below hb,i.trans (hb.mono i.size),Nm j hb.size⟩
theorem atx{WL w2 w1:MO}{b:Nat}{a:List Int}{v':M7}{tmp:Obj}(hx:Boxed w2 g10 276 v)(ho:w2.ownsRow WL.heap.size 3 1 v out.length (WR out))(hA:Xj 311 12 w2 g6 (ZP a out))(hB:yA w w2)(hs:WL.heap.size<=w2.heap.size)
  (hown:w1.ownsRow WL.heap.size 3 1 v' (out.length+1) (WR out++[yB (b:Int)])) (hg:(w2.alloc tmp).grownBy w1 v.ownBlock) (h6:g6<WL.heap.size) (h10:g10<WL.heap.size) (hne:g6<g10) (hw:w.heap.size<=g6) (hb:b<12) :
  Boxed w1 g10 276 v/\Xj 311 12 w1 g6 (ZP a out)/\adE w WL g6 g10 a (out++[(b:Int)]) ((w1.setCell ⟨g10,0,MH⟩ v').setCell ⟨g6,b,MH⟩ (yB 0))/\abo (agv WL.heap.size g6 g10) w2 ((w1.setCell ⟨g10,0,MH⟩ v').setCell ⟨g6,b,MH⟩ (yB 0)) /\
   KeepsFrom WL.heap.size w2 ((w1.setCell ⟨g10,0,MH⟩ v').setCell ⟨g6,b,MH⟩ (yB 0)):=by
 have i:∀k,k<w2.heap.size->v.ownBlock≠MI k->w1.heap[k]?=w2.heap[k]?:=fun k h1 h2=>(hg.block k (by simp;omega) (fun e=>h2 e.symm)).trans (Ov _ _ _ h1)
 have m:∀k,k<WL.heap.size->v.ownBlock≠MI k:=fun k h e=>by have:=(ho.lt k e).1;omega
 have s:Boxed w1 g10 276 v:=(i g10 (by omega) (m g10 h10)).trans hx;have q:Xj 311 12 w1 g6 (ZP a out):=hA.Gf (i g6 (by omega) (m g6 h6));have j:∀k,k≠g6->k≠g10->((w1.setCell ⟨g10,0,MH⟩ v').setCell ⟨g6,b,MH⟩ (yB 0)).heap[k]?=w1.heap[k]?:=fun k h1 h2=>by
  rw[MU _ _ _ _ (by simpa using h1),MU _ _ _ _ (by simpa using h2)]
 have x:=hg.size;simp at x;have u:=hB.alloc hB.size tmp;have z:yA w w1:=u.grown hg u.size (fun k e=>by have:=(ho.lt k e).1;omega);refine⟨s,q,⟨⟨v',?_,?_⟩,?_,(z.setCell (by simp;omega) _).setCell (by simp;omega) _,?_⟩,fun k hk2=>?_,⟨?_,fun k o h1 h2 h3=>?_⟩⟩
 ·exact(MU _ _ _ _ (by simp;omega)).trans (s.set v')
 ·rw[atI,Ns]
  exact W8 hown (fun g hg'=>j g (by have:=(hown.lt g hg').1;omega) (by have:=(hown.lt g hg').1;omega))
 ·rw[atS a out b hb]
  exact(q.Hk (by simp;omega) _).F4 b 0
 ·simp;omega
 ·rw[j k hk2.2.1 hk2.2.2]
  exact i k (by have:=hk2.1;omega) (m k hk2.1)
 ·simp;omega
 ·rw[j k (by omega) (by omega)]
  have y:=(ZAa.1 h2).1;refine(i k y (fun e=>?_)).trans h2;rcases ho.2 with⟨rfl,_⟩|⟨g,C,D,rfl,_,r,_⟩
  ·cases e
  ·have A:g=k:=by simpa [QQ]using e
   subst A;rw[h2]at r;cases r;cases h3
theorem aun(v:M7)(l:List Tm)(n:Int)(w:MO)(hv:Xz w v l) :
  Ni MK 158 #[Ny #[v],yB n] w (atl l n w):=by
 obtain⟨p,c,rfl,i6,hm,pv⟩:=hv.F6;have HV:M6 (_/\_):=⟨hv,pv⟩;clear hv pv;refine(callsIn_wide (n:=3)).1 (callsIn_of_wp_marks Tryz.func158 rfl trivial (wpIn_wide.2 ?_) rfl);simp only[Tryz.ntmps158,OQ,Ox,List.length_nil,Nat.reduceAdd,Nat.reduceSub,Sg,Sh,SY,Sk,Oz,List.cons_append]
 go_wp2_with fail
 obtain⟨W0,c7⟩:=yE (w.alloc (MP #[MG p l.length c] 48));rw[<-c7];have d9:yA w W0:=by rw[c7];exact agw _ _
 have c6:aee W0 w.heap.size (MG p l.length c) l:=by rw[c7];exact aee.new HV.out.1
 refine(agL _ l _ c6.2).mono ?_;rintro r m ⟨a,b,rfl,d6,g0,ha,a8⟩;obtain⟨f1,f2,f3⟩:=agz m a d6;have f8:=d9.trans (a8.mono d9.size);obtain⟨W5,e8⟩:=yE ((m.alloc (MP #[yB 0,yB 0,yB 0,yB 0,yB 0,yB 0,yB 0,yB 0,yB 0,yB 0,yB 0,yB 0] 311)).setCells m.heap.size 0 (WR a));rw[<-e8]at f2 f3;have h5:=f8.trans (f3.mono f8.size);have h9:=(c6.below a8).below f3;have A:(WR a).toArray.size=12:=by simp[Zv,d6]
 have j5:=a8.size;have k1:(m.alloc (MP #[yB 0,yB 0,yB 0,yB 0,yB 0,yB 0,yB 0,yB 0,yB 0,yB 0,yB 0,yB 0] 311)).there m.heap.size 0 (WR a).toArray.size:=by rw[A];exact f1
 have k2:(MK.info? 311).map (·.size)=MI (WR a).toArray.size:=by rw[Zx,A]
 have I:M6 (_/\_/\_/\_):=⟨k1,k2,OE (ac1 a),e8⟩;have HZ:M6 (_/\_/\_):=⟨f2,h5,h9⟩;have HI:M6 (_/\_):=⟨g0,ha⟩;have j9:w.heap.size<m.heap.size:=(c6.below a8).lt;clear k1 k2 f1 f2 f3 d9 a8 f8 e8 g0 ha h5 A h9 c7 c6 j5;cases b
 ·have g9:¬Yd l:=fun h=>PP (HI.out.1.2 h)
  have Z:M6 _:=g9;clear g9 HI
  go_wp2_with ((with_reducible refine OW rfl 311 (O6 6) (O6 15) rfl m.heap.size 0 (WR a).toArray ?hx ?hy ?ht ?hi ?h1 ?_);(case hx=>rfl);(case hy=>rfl);(case ht=>exact I.out.1);(case hi=>exact I.out.2.1);(case h1=>exact I.out.2.2.1);rw[NS,<-I.out.2.2.2])
  exact⟨_,SZ rfl _ _ _,⟨_,_,rfl,HZ.out.2.1,Nt ⟨Z.out,rfl,rfl⟩⟩⟩
 ·have Z:M6 (Yd l/\a=Xt l):=⟨HI.out.1.1 rfl,HI.out.2 rfl⟩
  clear HI
  by_cases hn:0<=n/\n<=4294967295
  ·obtain⟨b5,rfl⟩:=NL hn.1
   have i5:b5<=4294967295:=by omega
   have N:=fun W=>atM b5 W i5
   obtain⟨at_,e7⟩:∃at_:Int,at_=(abp b5:Nat):=⟨_,rfl⟩;rw[<-e7]at N;have HK:M6 (_/\_):=⟨N,e7⟩;clear N e7 hn
   go_wp2_with ((with_reducible refine OW rfl 311 (O6 6) (O6 15) rfl m.heap.size 0 (WR a).toArray ?hx ?hy ?ht ?hi ?h1 ?_);(case hx=>rfl);(case hy=>rfl);(case ht=>exact I.out.1);(case hi=>exact I.out.2.1);(case h1=>exact I.out.2.2.1);rw[NS,<-I.out.2.2.2])
   refine(HK.out.1 _).mono ?_;rintro r q ⟨rfl,c3⟩;have g5:=HZ.out.2.1.trans (c3.mono HZ.out.2.1.size);have c8:=HZ.out.2.2.below c3;have i2:=HZ.out.1.below c3;have k0:=c8.F7;have j8:=c8.lt;have HY:M6 (_/\_/\_):=⟨g5,c8,i2⟩;clear g5 c8 i2 c3 HZ I
   go_wp2_with fail
   obtain⟨W6,b3⟩:=yE (q.alloc (MP #[MG MH 0 0] 276));have f7:yA q W6:=by rw[b3];exact agw _ _
   have i1:Boxed W6 q.heap.size 276 (MG MH 0 0):=by rw[b3];exact Boxed.new _ _ _
   have e6:W6.heap.size=q.heap.size+1:=by rw[b3];simp
   have b8:=HY.out.1.trans (f7.mono HY.out.1.size);rw[<-b3];have d3:l.Pairwise (fun x y=>Xe x y<0):=by have:=agH Z.out.1.wts;rwa[<-Z.out.1.eq]at this
   have j6:=amX Z.out.1;clear b3;refine(atq _ l at_ _ (HV.out.1.below b8) d3 (by omega)).mono ?_;rintro r H ⟨Bf,rfl,d7,d8,d4,b4⟩;have g1:=b8.trans (b4.mono b8.size);have g7:=(HY.out.2.2.below f7).below b4;have h7:Boxed H q.heap.size 276 (MG MH 0 0):=WO i1 b4;have i3:m.heap.size<q.heap.size:=HY.out.2.2.lt;have g4:=(ZAa.1 d8).1;obtain⟨H6,g8⟩:=yE W6.heap.size;rw[<-g8]at d7 d4 e6⊢;have j3:=b4.size;have Q:M6 (_/\_/\_/\_/\_):=⟨g1,g7,h7,d7,d8⟩;have HM:M6 (_/\_/\_/\_/\_):=⟨d3,e6,d4,g4,i3⟩;clear g1 g7 h7 d7 d8 d3 e6 d4 g4 b4 f7 i1 b8 HY j3 g8 i3;go_wp2;obtain⟨i0,hi,j4,j0,j2⟩:=OF adB;refine(wpIn_wide (n:=3)).1 ?_;have j7:=Q.out.2.2.2;refine wpIn_rangeFunc_ownH (F:=SJ) rfl (by omega) (gf:=266) (lb:=#[Na (MI ⟨H6,0,MH⟩),Na (MI ⟨Bf,0,MH⟩)]) rfl trivial (enters_of Tryz.func266 (by kernel_rfl) rfl)
    (atp 2 (by omega) H6 Bf p c (aaz l at_) l (agv H.heap.size m.heap.size q.heap.size) H ?hSs ?hSf (aiG l at_) (by omega) i6 (fun k hk=>hk.1) (Xu Q.out.2.2.2.1) (Xu Q.out.2.2.2.2) ?hpa) abo.F0 (fun W k o o' hk hW _ _ j hj=>World.putObj_heap_other (by have:=hj.1;omega)) (MY _ _) (fun _=>rfl)
    (fun U W=>adE w H m.heap.size q.heap.size a (aa5 a U) W) (fun _ _ _=>False) (atw w H m.heap.size q.heap.size a Q.out.1.size) (fun _ _ _ _ _ hs _ _=>hs)
    ⟨⟨_,Q.out.2.2.1,NY _ _ _ _⟩,by rw[show aa5 a []=[]from rfl,atR d6];exact Q.out.2.1,Q.out.1,MV _⟩
    (fun x a' W=>∃Bx,H.heap.size<=Bx/\W.heap[Bx]?=MI (MP #[yB x.1,yB x.2] 220 (0,0))/\a'={tmps:=#[Ny #[MG p l.length c],yB b5,Na (MI ⟨w.heap.size,0,MH⟩),PL,MG MH 0 0,yB 0,Na (MI ⟨m.heap.size,0,MH⟩),M3 Nw,yB at_,yB 0,Na (MI ⟨q.heap.size,0,MH⟩),Na (MI ⟨Bx,0,MH⟩),Nv #[Ny (WR a).toArray,M3 Nw],Ny #[MG p l.length c],Nv #[Ny (WR a).toArray,M3 Nw],Ny (WR a).toArray,M3 Nw,M3 Nw,M3 Nb,Nv #[yB at_,yB 0],yB b5,Nv #[yB at_,yB 0],yB at_,yB 0,yB 0,M3 Nb,PL,Na (MI ⟨w.heap.size,0,MH⟩),MG p l.length c,yB at_,PB (PD 266) #[] #[Na (MI ⟨H6,0,MH⟩),Na (MI ⟨Bf,0,MH⟩)],Ny #[yB x.1,yB x.2],PL,PL,PL,PL,PL,PL,PL,PL,PL,PL,PL,PL,PL],defers:=[]})
    (fun x a' _ X Y row hs hg hr=>by obtain⟨Bx,h1,h2,h3⟩:=hs;exact⟨Bx,h1,(agC h2 hg (fun r e=>(hr r e).2)).trans h2,h3⟩)
    ?assign ?body ?done ?stop
   case hSs=>obtain⟨_,h1,h2,h3,h4⟩:=HM.out;exact⟨by omega,by omega,by omega⟩
   case hSf=>obtain⟨_,h1,h2,h3,h4⟩:=HM.out;exact⟨by omega,by omega,by omega⟩
   case hpa =>
    intro i hi;obtain⟨b1,off,e1,e2,e3,e4⟩:=HV.out.2 i hi;obtain⟨_,h1,h2,h3,h4⟩:=HM.out;exact⟨b1,off,e1,⟨by omega,by omega,by omega⟩,(Q.out.1.cell (p:=⟨b1,off+i*2,MH⟩) e2).trans e3,(Q.out.1.cell (p:=⟨b1,off+i*2+1,MH⟩) e2).trans e4⟩
   case assign =>
    rintro lp U ⟨xa,E⟩ W K hC N
    gi_wp2
    have f0:=agw W (MP #[yB xa,yB E] 220);exact N _ _ (aiA f0) (aiB f0 hC.2.2.2) (hC.below f0) ⟨W.heap.size,hC.2.2.2,M1 _ _,rfl⟩
   case body =>
    rintro lp U ⟨xa,E⟩ a' W k9 _ hC ⟨Bx,k6,S,rfl⟩ k7
    dsimp only at S⊢
    have M:=aum a U (xa,E);have i9:=aul a U;unfold ab9 at M;obtain⟨out,ho⟩:=yE (aa5 a U);rw[<-ho]at hC M i9;obtain⟨⟨v,L,s⟩,O,G,A⟩:=hC;obtain⟨vp,vc,rfl⟩:=Y6 s;have b6:=O.I9 (P:=MK) az0 rfl Zx;have k8:W.cell? ⟨Bx,1,MH⟩=MI (yB E):=(Xa S).2.1;have e9:=aff a out;obtain⟨R,a7⟩:=yE (ZP a out);rw[<-a7]at b6 e9
    by_cases hh:acZ (ZP a out) E
    ·have hd:Nn (0<=E/\E<12/\0<R.getD E.toNat 0)=true:=Nq (by rw[a7];exact hh)
     rw[Nh hh]at M;obtain⟨b,rfl⟩:=NL hh.1;have g3:b<12:=by have:=hh.2.1;omega
     have l2:(b:Int)<12:=by omega
     have a6:Ni MK 183 #[Ny (WR R).toArray,yB (b:Int)] W fun r C=>r=MN (M3 Nw)/\M6 (yA W C/\True)/\C.cell? ⟨q.heap.size,0,MH⟩=MI (MG vp out.length vc)/\C.cell? ⟨Bx,1,MH⟩=MI (yB (b:Int)):=(agA R (b:Int) W e9).mono fun r C h=>by
      rw[hd]at h;exact⟨h.1,⟨h.2,trivial⟩,Xu (WO L h.2),(Xa (WO S h.2)).2.1⟩
     have V:M6 (_/\_/\_/\_/\_/\_/\_/\_/\_):=⟨L,s,O,G,A,S,M,b6,a6⟩;clear L s O G A S M b6 a6 hh hd ho a7;have i7:∀(C w5:MO) {g' a2:Nat},yA W C->w5.ownsRow H.heap.size 3 1 (MG (MI ⟨g',0,MH⟩) (out.length+1) a2) (out.length+1) (WR out++[yB (b:Int)])->(C.alloc (MP #[yB (b:Int)] 3)).grownBy w5 (MG vp out.length vc).ownBlock ->
       w5.cell? ⟨q.heap.size,0,MH⟩=MI (MG vp out.length vc)/\w5.frozen? ⟨q.heap.size,0,MH⟩=Nb/\w5.cell? ⟨Bx,1,MH⟩=MI (yB (b:Int))/\w5.cell? ⟨m.heap.size,b,MH⟩=MI (yB ((ZP a out).getD b 0))/\w5.frozen? ⟨m.heap.size,b,MH⟩=Nb/\(q.heap.size≠Bx/\m.heap.size≠q.heap.size/\Bx≠q.heap.size) /\
       M6 (KeepsFrom H.heap.size W ((w5.setCell ⟨q.heap.size,0,MH⟩ (MG (MI ⟨g',0,MH⟩) (out.length+1) a2)).setCell ⟨m.heap.size,b,MH⟩ (yB 0))/\abo (agv H.heap.size m.heap.size q.heap.size) W ((w5.setCell ⟨q.heap.size,0,MH⟩ (MG (MI ⟨g',0,MH⟩) (out.length+1) a2)).setCell ⟨m.heap.size,b,MH⟩ (yB 0)) /\
        adE w H m.heap.size q.heap.size a (aa5 a (U++[(xa,(b:Int))])) ((w5.setCell ⟨q.heap.size,0,MH⟩ (MG (MI ⟨g',0,MH⟩) (out.length+1) a2)).setCell ⟨m.heap.size,b,MH⟩ (yB 0))):=by
      intro C w5 g' a2 z b7 c4;obtain⟨L,s,O,G,A,S,M,_,_⟩:=V.out;obtain⟨_,q1,q2,q3,q4⟩:=HM.out;have f9:=YI s z;have b9:=WO S z;obtain⟨s1,s2,s3,s4,s5⟩:=atx (w:=w) (WL:=H) (g6:=m.heap.size) (g10:=q.heap.size) (a:=a) (WO L z) f9 (O.below z) (G.trans (z.mono G.size)) (Nm A z.size) b7 c4 (by omega) (by omega) (by omega) (by omega) g3;have j1:w5.heap[Bx]?=MI (MP #[yB xa,yB (b:Int)] 220 (0,0)):=
       ((c4.block Bx (by have:=(ZAa.1 b9).1;simp;omega) (fun e=>atX b9 (by decide) f9 e.symm)).trans (Ov _ _ _ (ZAa.1 b9).1)).trans b9
      refine⟨Xu s1,s1.frozen,(Xa j1).2.1,s2.at b g3,s2.Gu b,⟨by omega,by omega,by omega⟩,(aiA z).trans s5,(aiB z A).F0 s4,?_⟩;rw[M];exact s3
     gi_wp2_with (first|((with_reducible refine anb _ rfl 311 (O6 6) rfl (Na (MI ⟨m.heap.size,0,MH⟩)) (Ny (WR R).toArray) ?hx ?hr ?_);(case hx=>rfl);(case hr=>exact V.out.2.2.2.2.2.2.2.1))|(refine⟨trivial,?_⟩;gi_at_call 183;refine(Tr lp (callsIn_wide.2 V.out.2.2.2.2.2.2.2.2)).mono ?_;rintro r C ⟨rfl,z,l1,l0⟩)|(gi_at_builtin;refine wpListIn_append_own _ rfl _ _ 276 rfl H.heap.size 3 i0 (yB 0) 1 8 Tryz.underlying276 hi j4 j0 j2 rfl (by decide) (MG vp out.length vc) out.length (WR out) rfl ((YI V.out.2.1 z.out.1).alloc _) ⟨C.heap.size,0,MH⟩ 1 1 [yB (b:Int)] rfl rfl (acR _ _ _) (by intro u hu;rw[PY.1 hu];rfl) (by unfold NE;omega) (by omega) (by have h1:=z.out.1.size;have h2:=V.out.2.2.2.2.1;simp;omega) ?_;intro v5 w5 b7 c4 _;obtain⟨g',a2,rfl⟩:=ownsRow_succ b7;obtain⟨c5,d5,e5,f5,k5,m5,i4⟩:=i7 _ _ z.out.1 b7 c4))
     exact i4.out
    ·have hd:Nn (0<=E/\E<12/\0<R.getD E.toNat 0)=false:=M0 (by rw[a7];exact hh)
     rw[Nf hh]at M;have a6:Ni MK 183 #[Ny (WR R).toArray,yB E] W fun r C=>r=MN (M3 Nb)/\M6 (yA W C/\True):=(agA R E W e9).mono fun r C h=>by
      rw[hd]at h;exact⟨h.1,⟨h.2,trivial⟩⟩
     have V:M6 (_/\_/\_/\_/\_/\_/\_/\_/\_):=⟨L,s,O,G,A,S,M,b6,a6⟩;clear L s O G A S M b6 a6 hh hd ho a7
     gi_wp2_with (first|((with_reducible refine anb _ rfl 311 (O6 6) rfl (Na (MI ⟨m.heap.size,0,MH⟩)) (Ny (WR R).toArray) ?hx ?hr ?_);(case hx=>rfl);(case hr=>exact V.out.2.2.2.2.2.2.2.1))|(refine⟨trivial,?_⟩;gi_at_call 183;refine(Tr lp (callsIn_wide.2 V.out.2.2.2.2.2.2.2.2)).mono ?_;rintro r C ⟨rfl,z⟩))
     obtain⟨L,s,O,G,A,S,M,_,_⟩:=V.out;refine⟨aiA z.out.1,aiB z.out.1 A,?_⟩;show adE w H m.heap.size q.heap.size a (aa5 a (U++[(xa,E)])) C;rw[M];exact adE.below ⟨⟨_,L,s⟩,O,G,A⟩ z.out.1
   case done =>
    rintro D ys W hD rfl ⟨⟨v,L,s⟩,O,G,A⟩ N;have hc:=L.cell;obtain⟨vp,vc,rfl⟩:=Y6 s;have HF:M6 (_/\_/\_/\_):=⟨s,G,N,hD⟩;clear s G N hD O L;go_wp2;obtain⟨s,G,N,hD⟩:=HF.out;refine⟨by simp,Nt ⟨_,_,rfl,run_takeDeferred N,?_⟩⟩;refine⟨_,SZ rfl _ _ _,⟨_,_,rfl,?_,NF (NF ⟨Z.out.1,⟨by omega,by omega⟩,rfl,?_⟩)⟩⟩
    ·exact G.trans (belowK_b (w:=w) (MV _) W D _ _ (by have:=Q.out.1.size;omega) N rfl rfl)
    ·have e:=aup Z.out.1 at_
     rw[<-Z.out.2]at e;rw[e]at s⊢;rw[NR,<-HK.out.2];exact(ownsRow_putObj s _ N rfl).mono Q.out.1.size
   case stop =>
    rintro D c' U W _ _ h _;exact h.elim
  ·have i8:n<0\/4294967295<n:=by omega
   go_wp2_with ((with_reducible refine OW rfl 311 (O6 6) (O6 15) rfl m.heap.size 0 (WR a).toArray ?hx ?hy ?ht ?hi ?h1 ?_);(case hx=>rfl);(case hy=>rfl);(case ht=>exact I.out.1);(case hi=>exact I.out.2.1);(case h1=>exact I.out.2.2.1);rw[NS,<-I.out.2.2.2])
   refine(atN n _ i8).mono ?_;rintro r q ⟨rfl,rfl⟩;go_wp2;exact⟨_,SZ rfl _ _ _,⟨_,_,rfl,HZ.out.2.1,NF (Nt ⟨Z.out.1,hn,rfl,rfl⟩)⟩⟩
end
theorem auo(v:M7)(a:List Int)(key:Nat)(w:MO)(ha:XI a)(hv:Xz w v (WW a))(hk:key<4294967296) :
  Ni MK 158 #[Ny #[v],yB (key:Int)] w fun r w'=>∃p c,r=MN (Nv #[MG p (acy (WW a) (abp key:Nat)).length c,yB 0])/\w'.ownsRow w.heap.size 3 1 (MG p (acy (WW a) (abp key:Nat)).length c) (acy (WW a) (abp key:Nat)).length (WR (acy (WW a) (abp key:Nat)))/\yA w w' :=
 (aun v (WW a) (key:Int) w hv).mono fun r w' h=>by
  obtain⟨y,e,rfl,j,h⟩:=h;rw[NR]at h;rcases h with⟨m,_⟩|⟨_,o,_⟩|⟨_,_,rfl,i⟩
  ·exact absurd (afi ha) m
  ·exact absurd ⟨by omega,by omega⟩ o
  ·obtain⟨p,c,rfl⟩:=Y6 i
   exact⟨p,c,rfl,i,j⟩
theorem at1(v:M7)(a:List Int)(b:Nat)(w:MO)(ha:XI a)(hv:Xz w v (WW a))(hb:b<12)(h0:0<a.getD b 0) :
  Ni MK 124 #[Ny #[v],yB (b:Int)] w fun r w'=>∃p c,r=MN (Nv #[Ny #[MG p (WW (a.set b 0)).length c],yB 0])/\w'.ownsRow w.heap.size 220 2 (MG p (WW (a.set b 0)).length c) (WW (a.set b 0)).length (WP (WW (a.set b 0)))/\yA w w' :=
 (at0 v (WW a) (b:Int) w hv).mono fun r w' h=>by
  obtain⟨y,e,rfl,j,h⟩:=h;rw[agK ha,NR]at h;rcases h with⟨m,_⟩|⟨_,o,_⟩|⟨_,_,rfl,i⟩
  ·exact absurd (afi ha) m
  ·exact absurd ⟨⟨by omega,by omega⟩,h0⟩ o
  ·obtain⟨p,c,rfl⟩:=Y6 i
   exact⟨p,c,rfl,i,j⟩
end Go.Proofs.YtbdpocjfnnojbaaGreatDoor.Q
