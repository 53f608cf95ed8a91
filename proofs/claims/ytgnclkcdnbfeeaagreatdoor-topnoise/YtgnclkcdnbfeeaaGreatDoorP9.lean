/-
  Contracts of the layers and of core, part 9. Conditions: as each theorem says.
-/
import Derived.Deep.Upon
import Derived.BigQuiet
import Derived.Shelf.SlSortCmp.QuietGrown
import Derived.SizedLaws
import Derived.Deep.Slices
import Derived.Test.YtgnclkcdnbfeeaaGreatDoorP0
import Derived.Deep.CutRange
import Derived.Lib.AppendZerosOnto
open Array renaming getElem?_eq_some_iff->ZAa
open Bool renaming false->Nb,true->Nw
open Decidable renaming decide->Nn
open Go renaming Addr->Oc,Calls->Ni,Program->O8,TypeId->NU,Value->M7,World->MO,cell_grown->Ob,grownCap->QR,maxLen->NE,results->Pf,undef->PL,wpQuiet_nil->Oy,wp_region_quiet_grown->NQ
open Go.Builtin renaming append_->N2,zeroCells->N5
open Go.Calls renaming grown_of->NZ
open Go.Ending renaming returned->MN
open Go.Fn renaming func->PD
open Go.IntKind renaming i64->ME
open Go.Obj renaming cells->MP
open Go.Proofs.Tryz renaming func105->ayX,func122->Vk,func128->ayl,func129->azq,func134->R4,func150->Uf,func152->ayR,func170->S4,func171->azL,func182->ayY,func196->Wz,func200->SU,func224->Uk,func225->ayV,func226->azt,func227->RX,func236->US,func248->VO,func28->WF,func40->UX,func41->QN,func52->azy,func53->WG,func64->Wa,func86->WE,ntmps105->ayM,ntmps122->Vg,ntmps128->ayd,ntmps129->azl,ntmps134->RQ,ntmps150->T5,ntmps152->ayH,ntmps170->SC,ntmps171->azC,ntmps182->ayN,ntmps196->Wl,ntmps200->Sx,ntmps224->Ua,ntmps225->ayK,ntmps226->azn,ntmps227->RK,ntmps236->UF,ntmps248->VG,ntmps28->Ww,ntmps40->UP,ntmps41->QD,ntmps52->azs,ntmps53->Wx,ntmps64->VN,ntmps86->Wp,prog->MK,results107->azc,results122->Vc,results131->QG,results134->azf,results182->Uq,results184->Vo,results226->azg,results29->Qx,results86->azh,results88->ay7,underlying182->ay3,underlying195->ay4,underlying39->Qu,underlying50->axV,underlying70->ay6,underlying75->ax0
open Go.RowKit renaming Below->MQ,Hid->M6,intOf->On,ownsRow_setCell_below->QX
open Go.Sort renaming alloc_eq_grow->PQ,grow->Oj
open Go.Value renaming agg->Ny,bool->M3,func->PB,int->MF,ownBlock->QQ,pointer->Na,slice->MG,tuple->Nv
open Go.World renaming cell?->Nl,frozen?->Ng
open List renaming getElem?_eq_some_iff->ZAb,length_eq_zero_iff->ZAc,mem_map->ZAd,range->Pm,replicate->Nj
open Option renaming none->MH,some->MI
open Or renaming inl->Nt,inr->NF
namespace Go.Proofs.YtgnclkcdnbfeeaaGreatDoor.Q
set_option linter.unusedVariables false
set_option linter.unusedSimpArgs false
set_option maxHeartbeats 16000000
set_option maxRecDepth 100000
open Go.RowKit
attribute [local go_sem ↓] Go.wp_at_zero Go.wp_at_succ
section
variable {b d n x y:Int}{W w:MO}
theorem adT{g:Nat}{a:M7}{T:NU}(h:w.heap[g]?=MI (MP #[a] T (0,0))):w.cell? ⟨g,0,MH⟩=MI a/\w.frozen? ⟨g,0,MH⟩=Nb/\g<w.heap.size :=
 ⟨by simp[Nl,h],by simp[Ng,h],(ZAa.1 h).1⟩
theorem ag4{g:Nat}{a a':M7}{T:NU}(h:w.heap[g]?=MI (MP #[a] T (0,0))):(w.setCell ⟨g,0,MH⟩ a').heap[g]?=MI (MP #[a'] T (0,0)):=
 NI w g 0 _ _ a' h
section
open Go.Sort (grow grow_empty grow_grow alloc_eq_grow cell?_grow heap_grow_old)
theorem afy(w:MO)(q:Nat)(os:Array Obj):MQ w.heap.size w (Oj (w.drewN q) os):=
 ⟨rfl,rfl,rfl,by simp[Oj,World.drewN],fun k hk=>heap_grow_old (w.drewN q) os hk⟩
abbrev Zp(n d b:Int):Prop:=(0<=n/\n<=20)/\(1<=d/\d<=20)/\(0<=b/\b<=20)
def aaY(n d b:Int):Int:=if Zp n d b then 0 else 2
def YN(n d b x:Int):Int:=if Zp n d b then(if 0<=x/\x<=b*d then 0 else 6)else 2
def aeB(n d b:Int):Int×Int:=if Zp n d b then(b*d,0)else(0,2)
def aa9(n d b x:Int):Int×Int:=if YN n d b x=0 then(min (x+n) (b*d),0)else(0,YN n d b x)
def Zh(n d b x:Int):Int×Int:=if YN n d b x=0 then(if x<d then(0,11)else(x-d,0))else(0,YN n d b x)
theorem ajO:YN n d b x=0↔Zp n d b/\0<=x/\x<=b*d:=by
 unfold YN
 by_cases h:Zp n d b
 ·rw[Nh h]
  by_cases h2:0<=x/\x<=b*d
  ·rw[Nh h2];exact⟨fun _=>⟨h,h2⟩,fun _=>rfl⟩
  ·rw[Nf h2];exact⟨fun e=>absurd e (by decide),fun e=>absurd e.2 h2⟩
 ·rw[Nf h];exact⟨fun e=>absurd e (by decide),fun e=>absurd e.1 h⟩
theorem ajN(n d b x:Int):(YN n d b x=2/\¬Zp n d b)\/(YN n d b x=6/\Zp n d b)\/(YN n d b x=0/\Zp n d b/\0<=x/\x<=b*d):=by
 unfold YN
 by_cases h:Zp n d b
 ·rw[Nh h]
  by_cases h2:0<=x/\x<=b*d
  ·rw[Nh h2];exact NF (NF ⟨rfl,h,h2⟩)
  ·rw[Nf h2];exact NF (Nt ⟨rfl,h⟩)
 ·rw[Nf h];exact Nt ⟨rfl,h⟩
theorem afA(hd:1<=d/\d<=20)(hb:0<=b/\b<=20):0<=b*d/\b*d<=400 :=
 ⟨Int.mul_nonneg hb.1 (by omega),(Px hb.2 hd.2 (by omega) (by omega):b*d<=20*20)⟩
abbrev adf(n d b:Int):Value:=Ny #[MF ME n,MF ME d,MF ME b]
theorem ach(n lo:Int)(w:MO):Ni MK 53 #[MF ME n,MF ME lo] w fun r w'=>r=MN (M3 (Nn (lo<=n/\n<=20)))/\w'=w:=by
 obtain⟨c,a⟩:∃c,c=Nn (lo<=n/\n<=20):=⟨_,rfl⟩;rw[<-a];have H:M6 _:=a;clear a;cases h1:Nn (lo<=n)
 ·go_enter WG,Wx
  go_wp2;go_ret;exact⟨by rw[H.out,M0 (fun h=>Nc h1 h.1)];rfl,rfl⟩
 ·cases h2:Nn (n<=20)
  ·go_enter WG,Wx
   go_wp2;go_ret;exact⟨by rw[H.out,M0 (fun h=>Nc h2 h.2)];rfl,rfl⟩
  ·go_enter WG,Wx
   go_wp2;go_ret;exact⟨by rw[H.out,Nq ⟨M2 h1,M2 h2⟩];rfl,rfl⟩
theorem ajU(n d b:Int)(w:MO)(hd:1<=d/\d<=20)(hb:0<=b/\b<=20):Ni MK 41 #[adf n d b] w fun r w'=>r=MN (MF ME (b*d))/\∃q os,w'=Oj (w.drewN q) os:=by
 obtain⟨a,c⟩:=afA hd hb;go_enter QN,QD;go_wp2;go_ret;refine⟨rfl,0,#[MP #[MF ME n,MF ME d,MF ME b] 31],?_⟩;rw[PQ];rfl
theorem ajT(n d b:Int)(w:MO)(hd:1<=d/\d<=20)(hb:0<=b/\b<=20):Ni MK 41 #[adf n d b] w fun r w'=>r=MN (MF ME (b*d))/\MQ w.heap.size w w':=by
 refine(ajU n d b w hd hb).mono ?_;rintro r w' ⟨rfl,q,a,rfl⟩;exact⟨rfl,afy _ _ _⟩
theorem afz(n d b:Int)(w:MO):Ni MK 40 #[adf n d b] w fun r w'=>r=MN (MF ME (aaY n d b))/\MQ w.heap.size w w':=by
 obtain⟨c,a⟩:∃c,c=w.alloc (MP #[MF ME n,MF ME d,MF ME b] 31):=⟨_,rfl⟩;have f:c.heap[w.heap.size]?=MI (MP #[MF ME n,MF ME d,MF ME b] 31 (0,0)):=by rw[a];exact M1 _ _
 have g:MQ w.heap.size w c:=by rw[a];exact WQ _
 obtain⟨c0,c1,c2,_⟩:=aeD f;have H:M6 (_/\_):=⟨a,g⟩;clear a g f;cases h1:Nn (0<=n/\n<=20)
 ·have E:M6 (aaY n d b=2):=Nf fun h=>Nc h1 h.1
  go_enter UX,UP
  go_wp2_with fail
  rw[<-H.out.1];refine(ach _ _ _).mono ?_;rintro e w' ⟨rfl,rfl⟩;rw[h1];go_wp2;go_ret;exact⟨by rw[E.out];rfl,H.out.2⟩
 cases h2:Nn (0<=b/\b<=20)
 ·have E:M6 (aaY n d b=2):=Nf fun h=>Nc h2 h.2.2
  go_enter UX,UP
  go_wp2_with fail
  rw[<-H.out.1];refine(ach _ _ _).mono ?_;rintro e w' ⟨rfl,rfl⟩;rw[h1]
  go_wp2_with fail
  refine(ach _ _ _).mono ?_;rintro e w' ⟨rfl,rfl⟩;rw[h2];go_wp2;go_ret;exact⟨by rw[E.out];rfl,H.out.2⟩
 cases h3:Nn (1<=d/\d<=20)
 ·have E:M6 (aaY n d b=2):=Nf fun h=>Nc h3 h.2.1
  go_enter UX,UP
  go_wp2_with fail
  rw[<-H.out.1];refine(ach _ _ _).mono ?_;rintro e w' ⟨rfl,rfl⟩;rw[h1]
  go_wp2_with fail
  refine(ach _ _ _).mono ?_;rintro e w' ⟨rfl,rfl⟩;rw[h2]
  go_wp2_with fail
  refine(ach _ _ _).mono ?_;rintro e w' ⟨rfl,rfl⟩;rw[h3];go_wp2;go_ret;exact⟨by rw[E.out];rfl,H.out.2⟩
 ·have E:M6 (aaY n d b=0):=Nh ⟨M2 h1,M2 h3,M2 h2⟩
  go_enter UX,UP
  go_wp2_with fail
  rw[<-H.out.1];refine(ach _ _ _).mono ?_;rintro e w' ⟨rfl,rfl⟩;rw[h1]
  go_wp2_with fail
  refine(ach _ _ _).mono ?_;rintro e w' ⟨rfl,rfl⟩;rw[h2]
  go_wp2_with fail
  refine(ach _ _ _).mono ?_;rintro e w' ⟨rfl,rfl⟩;rw[h3];go_wp2;go_ret;exact⟨by rw[E.out];rfl,H.out.2⟩
def Bx(w W:MO)(n d b x:Int):Prop :=
 W.heap[w.heap.size]?=MI (MP #[MF ME n,MF ME d,MF ME b] 31 (0,0))/\W.heap[w.heap.size+1]?=MI (MP #[MF ME x] 50 (0,0))/\MQ w.heap.size w W
theorem ag3(w:MO)(n d b x:Int):Bx w ((w.alloc (MP #[MF ME n,MF ME d,MF ME b] 31)).alloc (MP #[MF ME x] 50)) n d b x :=
 ⟨Xy _ _ (M1 _ _),Yu _ _ _,((MY _ _).alloc (MV _) _).alloc (by simp) _⟩
theorem Bx.below{W':MO}(h:Bx w W n d b x)(hb:MQ W.heap.size W W'):Bx w W' n d b x :=
 ⟨WO h.1 hb,WO h.2.1 hb,h.2.2.trans (hb.mono h.2.2.size)⟩
theorem Bx.Gg(h:Bx w W n d b x):W.cell? ⟨w.heap.size,0,MH⟩=MI (MF ME n)/\W.cell? ⟨w.heap.size,1,MH⟩=MI (MF ME d)/\W.cell? ⟨w.heap.size,2,MH⟩=MI (MF ME b)/\W.cell? ⟨w.heap.size+1,0,MH⟩=MI (MF ME x):=by
 obtain⟨c0,c1,c2,_⟩:=aeD h.1;exact⟨c0,c1,c2,Xu h.2.1⟩
theorem ajQ(n d b x:Int)(w:MO):Ni MK 128 #[adf n d b,Ny #[MF ME x]] w fun r w'=>r=MN (MF ME (YN n d b x))/\MQ w.heap.size w w':=by
 obtain⟨t,p⟩:∃t,t=(w.alloc (MP #[MF ME n,MF ME d,MF ME b] 31)).alloc (MP #[MF ME x] 50):=⟨_,rfl⟩;have q:Bx w t n d b x:=by rw[p];exact ag3 _ _ _ _ _
 obtain⟨c0,c1,c2,c3⟩:=q.Gg;have H:M6 (_/\_):=⟨p,q⟩;clear p q;go_enter ayl,ayd
 go_wp2_with fail
 rw[<-H.out.1];refine(afz n d b _).mono ?_;rintro r a ⟨rfl,v⟩;have s:=H.out.2.below v;clear c0 c1 c2 c3 v H;obtain⟨c0,c1,c2,c3⟩:=s.Gg;have g:M6 _:=s.2.2;clear s
 by_cases hok:Zp n d b
 ·rw[show aaY n d b=0 from Nh hok]
  obtain⟨z,l,o⟩:=hok;obtain⟨C,F⟩:=afA l o;have u:M6 (∀W,_):=fun W=>ajU n d b W l o
  have E:M6 (YN n d b x=if 0<=x/\x<=b*d then 0 else 6):=Nh ⟨z,l,o⟩;clear z l o;generalize b*d=m at *;have A:∀n' os,(Oj (a.drewN n') os).cell? ⟨w.heap.size,0,MH⟩=MI (MF ME n):=Ob (MX _ _ c0) c0;have G:∀n' os,(Oj (a.drewN n') os).cell? ⟨w.heap.size,1,MH⟩=MI (MF ME d):=Ob (MX _ _ c1) c1;have B:∀n' os,(Oj (a.drewN n') os).cell? ⟨w.heap.size,2,MH⟩=MI (MF ME b):=Ob (MX _ _ c2) c2;have D:∀n' os,(Oj (a.drewN n') os).cell? ⟨w.heap.size+1,0,MH⟩=MI (MF ME x):=Ob (MX _ _ c3) c3;cases h1:Nn (x<0)
  case true =>
   have i:M6 (YN n d b x=6):=(by rw[E.out,Nf fun h=>by have:=M2 h1;omega]:YN n d b x=6);clear E
   go_wp2_with fail
   refine NQ XY (by kernel_rfl) ?_
   repeat (first|go_big_quiet_skip|quiet_step (first|(go_at_call 41;exact Calls.grown_of (u.out _))))
   refine Oy ?_;intro _ k;obtain⟨⟨e,c⟩,j⟩:=k;subst j;have f:M6 (MQ w.heap.size w (Oj (a.drewN e) c)):=g.out.trans ((afy a e c).mono g.out.size);generalize Oj (a.drewN e) c=w3 at f⊢;go_wp2;go_ret;exact⟨by rw[i.out];rfl,f.out⟩
  cases h2:Nn (m<x)
  case true =>
   have i:M6 (YN n d b x=6):=(by rw[E.out,Nf fun h=>by have:=M2 h2;omega]:YN n d b x=6);clear E
   go_wp2_with fail
   refine NQ XY (by kernel_rfl) ?_
   repeat (first|go_big_quiet_skip|quiet_step (first|(go_at_call 41;exact NZ (u.out _))))
   refine Oy ?_;intro _ k;obtain⟨⟨e,c⟩,j⟩:=k;subst j;have f:M6 (MQ w.heap.size w (Oj (a.drewN e) c)):=g.out.trans ((afy a e c).mono g.out.size);generalize Oj (a.drewN e) c=w3 at f⊢;go_wp2;go_ret;exact⟨by rw[i.out];rfl,f.out⟩
  case false =>
   have i:M6 (YN n d b x=0):=(by rw[E.out,Nh ⟨by have:=Nc h1;omega,by have:=Nc h2;omega⟩]:YN n d b x=0);clear E
   go_wp2_with fail
   refine NQ XY (by kernel_rfl) ?_
   repeat (first|go_big_quiet_skip|quiet_step (first|(go_at_call 41;exact NZ (u.out _))))
   refine Oy ?_;intro _ k;obtain⟨⟨e,c⟩,j⟩:=k;subst j;have f:M6 (MQ w.heap.size w (Oj (a.drewN e) c)):=g.out.trans ((afy a e c).mono g.out.size);generalize Oj (a.drewN e) c=w3 at f⊢;go_wp2;go_ret;exact⟨by rw[i.out];rfl,f.out⟩
 ·rw[show aaY n d b=2 from Nf hok]
  have i:M6 (YN n d b x=2):=Nf hok;clear hok;go_wp2;go_ret;exact⟨by rw[i.out];rfl,g.out⟩
theorem aob(h:Zp n d b):aaY n d b=0:=Nh h
theorem aoa(h:¬Zp n d b):aaY n d b=2:=Nf h
abbrev Z9(x:Int):Value:=Ny #[MF ME x]
theorem aod(n d b:Int)(w:MO):Ni MK 29 #[adf n d b] w fun r w'=>r=MN (Nv #[Z9 (aeB n d b).1,MF ME (aeB n d b).2])/\MQ w.heap.size w w':=by
 obtain⟨i,e⟩:∃i,i=(w.alloc (MP #[MF ME n,MF ME d,MF ME b] 31)).alloc (MP #[MF ME 0] 50):=⟨_,rfl⟩;have f:Bx w i n d b 0:=by rw[e];exact ag3 _ _ _ _ _
 obtain⟨c0,c1,c2,c3⟩:=f.Gg;have H:M6 (_/\_):=⟨e,f⟩;clear e f;go_enter Tryz.func29,Tryz.ntmps29
 go_wp2_with fail
 rw[<-H.out.1];refine(afz n d b _).mono ?_;rintro r p ⟨rfl,k⟩;have c:=H.out.2.below k;clear c0 c1 c2 c3 k H;obtain⟨c0,c1,c2,c3⟩:=c.Gg;obtain⟨_,l,_⟩:=adT c.2.1;have a:M6 (Bx _ _ _ _ _ _):=c;clear c
 by_cases hok:Zp n d b
 ·rw[aob hok]
  have E:M6 (aeB n d b=(b*d,0)):=Nh hok;have o:M6 (∀W,_):=fun W=>ajT n d b W hok.2.1 hok.2.2
  clear hok;generalize b*d=m at *
  go_wp2_with fail
  refine(o.out _).mono ?_;rintro r q ⟨rfl,j⟩;have g:=a.out.below j;clear c0 c1 c2 c3 l j a o;obtain⟨c3,l,_⟩:=adT g.2.1;have a:M6 (Bx _ _ _ _ _ _):=g;clear g;go_wp2;exact Np (v:=Nv #[Z9 m,MF ME 0]) (XT Qx rfl rfl (Xp (P:=MK) (cs:=[MF ME m]) (ag4 a.out.2.1) axV rfl (by kernel_rfl))) rfl ⟨by rw[E.out],a.out.2.2.setCell (by simp) _⟩
 ·rw[aoa hok]
  have E:M6 (aeB n d b=(0,2)):=Nf hok;clear hok;go_wp2;exact Np (v:=Nv #[Z9 0,MF ME 2]) (XT Qx rfl rfl (Xp (P:=MK) (cs:=[MF ME 0]) (ag4 a.out.2.1) axV rfl (by kernel_rfl))) rfl ⟨by rw[E.out],a.out.2.2.setCell (by simp) _⟩
def By(w W:MO)(n d b x y:Int):Prop :=
 Bx w W n d b x/\W.heap[w.heap.size+1+1]?=MI (MP #[MF ME y] 50 (0,0))
theorem ajP(w:MO)(n d b x y:Int):By w (((w.alloc (MP #[MF ME n,MF ME d,MF ME b] 31)).alloc (MP #[MF ME x] 50)).alloc (MP #[MF ME y] 50)) n d b x y :=
 ⟨(ag3 w n d b x).below (WQ _),aeC _ _ _ _⟩
theorem By.below{W':MO}(h:By w W n d b x y)(hb:MQ W.heap.size W W'):By w W' n d b x y :=
 ⟨h.1.below hb,WO h.2 hb⟩
theorem By.F4(h:By w W n d b x y)(z:Int):By w (W.setCell ⟨w.heap.size+1+1,0,MH⟩ (MF ME z)) n d b x z :=
 ⟨⟨(MU _ _ _ _ (by simp;omega)).trans h.1.1,(MU _ _ _ _ (by simp)).trans h.1.2.1,h.1.2.2.setCell (by simp;omega) _⟩,ag4 h.2⟩
theorem By.GY(h:By w W n d b x y):By w W.drew n d b x y:=h.below ((MY _ _).drew)
theorem By.res(h:By w W n d b x y){fn:Func}{i z:Tmp}(hr:fn.results=#[.cell i 50,.tmp z]){tmps:Array M7}{e:M7}(hx:tmps.getD i PL=Na (MI ⟨w.heap.size+1+1,0,MH⟩))(hz:tmps.getD z PL=e):
  (Pf fn tmps).run MK W=.ok (Nv #[Z9 y,e]) W :=
 XT hr hx hz (Xp (P:=MK) (cs:=[MF ME y]) h.2 axV rfl (by kernel_rfl))
theorem aoc(h:YN n d b x=0):aa9 n d b x=(min (x+n) (b*d),0):=Nh h
theorem ajS(e:Int)(h:YN n d b x=e)(he:e≠0):aa9 n d b x=(0,e):=by unfold aa9;rw[h,Nf he]
theorem aof(h:YN n d b x=0)(h2:d<=x):Zh n d b x=(x-d,0):=by unfold Zh;rw[Nh h,Nf (by omega)]
theorem aoe(h:YN n d b x=0)(h2:x<d):Zh n d b x=(0,11):=by unfold Zh;rw[Nh h,Nh h2]
theorem ajW(e:Int)(h:YN n d b x=e)(he:e≠0):Zh n d b x=(0,e):=by unfold Zh;rw[h,Nf he]
theorem Bx.GQ(h:Bx w W n d b x):W.cell? ⟨w.heap.size,0,MH⟩=MI (MF ME n)/\W.cell? ⟨w.heap.size,1,MH⟩=MI (MF ME d)/\W.cell? ⟨w.heap.size,2,MH⟩=MI (MF ME b)/\W.cell? ⟨w.heap.size+1,0,MH⟩=MI (MF ME x)/\Bx w W n d b x :=
 ⟨h.Gg.1,h.Gg.2.1,h.Gg.2.2.1,h.Gg.2.2.2,h⟩
theorem ajV(n d b x:Int)(w:MO):Ni MK 134 #[adf n d b,Z9 x] w fun r w'=>r=MN (Nv #[Z9 (Zh n d b x).1,MF ME (Zh n d b x).2])/\MQ w.heap.size w w':=by
 obtain⟨j,i⟩:∃j,j=((w.alloc (MP #[MF ME n,MF ME d,MF ME b] 31)).alloc (MP #[MF ME x] 50)).alloc (MP #[MF ME 0] 50):=⟨_,rfl⟩;have g:By w j n d b x 0:=by rw[i];exact ajP _ _ _ _ _ _
 obtain⟨c0,c1,c2,c3⟩:=g.1.Gg;have H:M6 (_/\By _ _ _ _ _ _ _):=⟨i,g⟩;clear i g;go_enter R4,RQ
 go_wp2_with fail
 rw[<-H.out.1];refine(ajQ n d b x _).mono ?_;rintro r s ⟨rfl,m⟩;have f:=H.out.2.below m;clear c0 c1 c2 c3 m H;obtain⟨c0,c1,c2,c3⟩:=f.1.Gg;obtain⟨c4,t,_⟩:=adT f.2;have c:M6 (By _ _ _ _ _ _ _):=f;clear f;rcases ajN n d b x with⟨a,_⟩|⟨a,_⟩|⟨a,e,p,k⟩
 ·have E:M6 (Zh n d b x=(0,2)):=ajW 2 a (by decide)
  rw[a];clear a;go_wp2;exact Np (v:=Nv #[Z9 0,MF ME 2]) ((c.out.F4 0).res azf rfl rfl) rfl ⟨by rw[E.out],(c.out.F4 0).1.2.2⟩
 ·have E:M6 (Zh n d b x=(0,6)):=ajW 6 a (by decide)
  rw[a];clear a;go_wp2;exact Np (v:=Nv #[Z9 0,MF ME 6]) ((c.out.F4 0).res azf rfl rfl) rfl ⟨by rw[E.out],(c.out.F4 0).1.2.2⟩
 ·have l:=afA e.2.1 e.2.2
  have q:=e.2.1;have o:x<=400:=by omega
  cases hc:Nn (x<d)
  ·have E:M6 (Zh n d b x=(x-d,0)):=aof a (by have:=Nc hc;omega)
   rw[a];clear a e k l;go_wp2;exact Np (v:=Nv #[Z9 (x-d),MF ME 0]) ((c.out.F4 (x-d)).res azf rfl rfl) rfl ⟨by rw[E.out],(c.out.F4 (x-d)).1.2.2⟩
  ·have E:M6 (Zh n d b x=(0,11)):=aoe a (M2 hc)
   rw[a];clear a e k l;go_wp2;exact Np (v:=Nv #[Z9 0,MF ME 11]) ((c.out.F4 0).res azf rfl rfl) rfl ⟨by rw[E.out],(c.out.F4 0).1.2.2⟩
theorem ajR(n d b x:Int)(w:MO):Ni MK 86 #[adf n d b,Z9 x] w fun r w'=>r=MN (Nv #[Z9 (aa9 n d b x).1,MF ME (aa9 n d b x).2])/\MQ w.heap.size w w':=by
 obtain⟨l,j⟩:∃l,l=((w.alloc (MP #[MF ME n,MF ME d,MF ME b] 31)).alloc (MP #[MF ME x] 50)).alloc (MP #[MF ME 0] 50):=⟨_,rfl⟩;have k:By w l n d b x 0:=by rw[j];exact ajP _ _ _ _ _ _
 obtain⟨c0,c1,c2,c3⟩:=k.1.Gg;have H:M6 (_/\By _ _ _ _ _ _ _):=⟨j,k⟩;clear j k;go_enter WE,Wp
 go_wp2_with fail
 rw[<-H.out.1];refine(ajQ n d b x _).mono ?_;rintro r C ⟨rfl,p⟩;have i:=H.out.2.below p;clear c0 c1 c2 c3 p H;obtain⟨c0,c1,c2,c3⟩:=i.1.Gg;obtain⟨c4,F,_⟩:=adT i.2;have e:M6 (By _ _ _ _ _ _ _):=i;clear i;rcases ajN n d b x with⟨a,_⟩|⟨a,_⟩|⟨a,f,B,z⟩
 ·have E:M6 (aa9 n d b x=(0,2)):=ajS 2 a (by decide)
  rw[a];clear a;go_wp2;exact Np (v:=Nv #[Z9 0,MF ME 2]) ((e.out.F4 0).res azh rfl rfl) rfl ⟨by rw[E.out],(e.out.F4 0).1.2.2⟩
 ·have E:M6 (aa9 n d b x=(0,6)):=ajS 6 a (by decide)
  rw[a];clear a;go_wp2;exact Np (v:=Nv #[Z9 0,MF ME 6]) ((e.out.F4 0).res azh rfl rfl) rfl ⟨by rw[E.out],(e.out.F4 0).1.2.2⟩
 ·have A:=afA f.2.1 f.2.2
  have D:=f.1;have q:M6 (∀W,_):=fun W=>ajT n d b W f.2.1 f.2.2
  have E:M6 (aa9 n d b x=(min (x+n) (b*d),0)):=aoc a;rw[a];clear a f;generalize b*d=m at *;have t:x<=400:=by omega
  have u:IntKind.i64.wrap (x+n)=x+n:=by rw[Ow];omega
  by_cases hm:m<x+n
  ·have a:M6 (min (x+n) m=m):=(by omega:min (x+n) m=m)
   go_wp2_with fail
   go_region_held3 (fun W=>W.cell? ⟨w.heap.size,0,MH⟩=MI (MF ME n)/\W.cell? ⟨w.heap.size,1,MH⟩=MI (MF ME d)/\W.cell? ⟨w.heap.size,2,MH⟩=MI (MF ME b)/\W.cell? ⟨w.heap.size+1,0,MH⟩=MI (MF ME x)/\Bx w W n d b x) (first|exact(e.out.GY).1.GQ|exact c.out.1.GQ|exact(c.out.F4 _).1.GQ) (first|(go_at_call 41;refine(q.out _).mono ?_;rintro r o ⟨rfl,g⟩;have c:M6 (By w o n d b x 0):=e.out.below (Za g);clear g;have c5:=Xu c.out.2;have s:=(adT c.out.2).2.1))
   all_goals
    go_wp2;exact Np (v:=Nv #[Z9 m,MF ME 0]) ((c.out.F4 m).res azh rfl rfl) rfl ⟨by rw[E.out,a.out],(c.out.F4 _).1.2.2⟩
  ·have a:M6 (min (x+n) m=x+n):=(by omega:min (x+n) m=x+n)
   go_wp2_with fail
   go_region_held3 (fun W=>W.cell? ⟨w.heap.size,0,MH⟩=MI (MF ME n)/\W.cell? ⟨w.heap.size,1,MH⟩=MI (MF ME d)/\W.cell? ⟨w.heap.size,2,MH⟩=MI (MF ME b)/\W.cell? ⟨w.heap.size+1,0,MH⟩=MI (MF ME x)/\Bx w W n d b x) (first|exact(e.out.GY).1.GQ|exact c.out.1.GQ|exact(c.out.F4 _).1.GQ) (first|(go_at_call 41;refine(q.out _).mono ?_;rintro r o ⟨rfl,g⟩;have c:M6 (By w o n d b x 0):=e.out.below (Za g);clear g;have c5:=Xu c.out.2;have s:=(adT c.out.2).2.1))
   all_goals
    go_wp2;exact Np (v:=Nv #[Z9 (x+n),MF ME 0]) ((c.out.F4 (x+n)).res azh rfl rfl) rfl ⟨by rw[E.out,a.out],(c.out.F4 _).1.2.2⟩
end
end
section
variable {a b c d u v y:M7}{w w0:MO}{T:NU}{B H R base g k:Nat}
theorem auL:(MK.info? 70).map (fun i=>(i.zero,i.size,i.bytes))=MI (MI (Ny #[MF ME 0,MF ME 0]),2,16):=by kernel_rfl
theorem ank{W w1:MO}(hb:MQ W.heap.size W w1):(∀b o,b<W.heap.size->w1.cell? ⟨b,o,MH⟩=W.cell? ⟨b,o,MH⟩)/\(∀b o,b<W.heap.size->w1.frozen? ⟨b,o,MH⟩=W.frozen? ⟨b,o,MH⟩):=
 ⟨fun b o h=>hb.cell (p:=⟨b,o,MH⟩) h,fun b o h=>hb.frozen (p:=⟨b,o,MH⟩) h⟩
theorem afp{fn:Func}{x y z:Tmp}{t u:NU}(h:fn.results=#[.cell x t,.cell y u,.tmp z]){tmps:Array M7}{P:O8}{p q:Oc}{v1 v2 v3:M7}(hx:tmps.getD x PL=Na (MI p))(hy:tmps.getD y PL=Na (MI q))(hz:tmps.getD z PL=v3)
  (h1:(loadVar t p).run P w=.ok v1 w) (h2:(loadVar u q).run P w=.ok v2 w):(Pf fn tmps).run P w=.ok (Nv #[v1,v2,v3]) w:=by
 have e:∀a:Oc,(asAddr (Na (MI a))).run P w=.ok a w:=fun a=>rfl
 simp only[Pg]at hx hy hz;simp[Pf,h,hx,hy,hz,e,h1,h2,Pn]
abbrev Sl:=Int×Bool×Int×Int
variable {l:List Sl}{x:Sl}
def XF:List Sl->List M7
 | []=>[]
 |t::l=>MF ME t.1::M3 t.2.1::MF ME t.2.2.1::MF ME t.2.2.2::XF l
theorem ac7:∀l:List Sl,(XF l).length=l.length*4
 | []=>rfl
 |t::l=>by simp[XF,ac7 l];omega
theorem adJ:∀(l:List Sl) (i:Nat) (h:i<l.length),(XF l)[i*4]?=MI (MF ME l[i].1)/\(XF l)[i*4+1]?=MI (M3 l[i].2.1)/\(XF l)[i*4+2]?=MI (MF ME l[i].2.2.1)/\(XF l)[i*4+3]?=MI (MF ME l[i].2.2.2)
 |t::l,0,_=>by simp[XF]
 |t::l,i+1,h=>by
  have e:=adJ l i (by simpa using h);rw[show(i+1)*4=i*4+1+1+1+1 by omega]
  simpa [XF]using e
theorem ann:∀(l:List Sl) (j:Nat) (t:Sl),((((XF l).set (j*4) (MF ME t.1)).set (j*4+1) (M3 t.2.1)).set (j*4+2) (MF ME t.2.2.1)).set (j*4+3) (MF ME t.2.2.2)=XF (l.set j t)
 | [],j,t=>by simp[XF]
 |x::l,0,t=>by simp[XF]
 |x::l,j+1,t=>by
  have:=ann l j t;rw[show(j+1)*4=j*4+1+1+1+1 by omega];simp[XF,this]
theorem auW(l:List Sl):∀u∈XF l,u.oneCell'=true:=by
 induction l with
 |nil=>simp[XF]
 |cons t l ih =>
  simp only[XF,OO];rintro u (rfl|rfl|rfl|rfl|h)
  ·rfl
  ·rfl
  ·rfl
  ·rfl
  ·exact ih u h
def Yy(w:MO)(v:M7)(l:List Sl):Prop:=XB w v l.length (XF l)
theorem Yy.below{w':MO}(h:Yy w v l)(hb:MQ w.heap.size w w'):Yy w' v l:=XB.below h hb
theorem Yy.F6(h:Yy w v l):
  ∃a cap,v=MG a l.length cap/\l.length<=cap/\cap<=NE/\∀i (hi:i<l.length),∃b off,a=MI ⟨b,off,MH⟩/\b<w.heap.size/\w.cell? ⟨b,off+i*4,MH⟩=MI (MF ME l[i].1)/\w.cell? ⟨b,off+i*4+1,MH⟩=MI (M3 l[i].2.1)/\w.cell? ⟨b,off+i*4+2,MH⟩=MI (MF ME l[i].2.2.1)/\w.cell? ⟨b,off+i*4+3,MH⟩=MI (MF ME l[i].2.2.2):=by
 obtain⟨a,cap,o,j,f,m|⟨b,off,m,p,e⟩⟩:=h
 ·exact⟨a,cap,o,j,f,fun i hi=>absurd hi (by omega)⟩
 ·refine⟨a,cap,o,j,f,fun i hi=>⟨b,off,m,p,?_,?_,?_,?_⟩⟩
  ·rw[e (i*4) (by rw[ac7];omega)];exact(adJ l i hi).1
  ·rw[Nat.add_assoc,e (i*4+1) (by rw[ac7];omega)];exact(adJ l i hi).2.1
  ·rw[Nat.add_assoc,e (i*4+2) (by rw[ac7];omega)];exact(adJ l i hi).2.2.1
  ·rw[Nat.add_assoc,e (i*4+3) (by rw[ac7];omega)];exact(adJ l i hi).2.2.2
theorem anm:(MK.info? 182).map (fun i=>(i.zero,i.size,i.bytes))=MI (MI (Ny #[MF ME 0,M3 Nb,MF ME 0,MF ME 0]),4,32):=by kernel_rfl
abbrev ZX(t:Sl):Prop:=t.2.1=Nb/\t.2.2.1=0/\t.2.2.2=0
abbrev ac5(n:Int):Prop:=0<=n/\n<=4294967295
abbrev aca(n:Int):Prop:=0<=n/\n<12
abbrev Yt(t:Sl):Prop:=if t.2.1=Nw then(0<=t.1/\t.1<=1048575)/\ac5 t.2.2.1/\aca t.2.2.2 else(0<=t.1/\t.1<=1048576)/\t.2.2.1=0/\t.2.2.2=0
theorem auF(g:Int)(u:Bool)(k b:Int):(u=Nb/\k=0/\b=0)\/u=Nw\/(u=Nb/\(k == 0)=Nb)\/(u=Nb/\k=0/\(b == 0)=Nb):=by
 cases u
 ·by_cases h:k=0
  ·by_cases h2:b=0
   ·exact Nt ⟨rfl,h,h2⟩
   ·exact NF (NF (NF ⟨rfl,h,by simpa using h2⟩))
  ·exact NF (NF (Nt ⟨rfl,by simpa using h⟩))
 ·exact NF (Nt rfl)
theorem afo(g:Int)(u:Bool)(k b:Int)(w:MO) :
  Ni MK 129 #[Ny #[MF ME g,M3 u,MF ME k,MF ME b]] w fun r w'=>r=MN (M3 (Nn (ZX (g,u,k,b))))/\MQ w.heap.size w w':=by
 rcases auF g u k b with⟨rfl,rfl,rfl⟩|rfl|⟨rfl,h⟩|⟨rfl,rfl,h⟩
 ·have e:Nn (ZX (g,Nb,0,0))=true:=Nq ⟨rfl,rfl,rfl⟩
  rw[e];clear e;go_enter azq,azl;go_wp2;go_ret;exact⟨rfl,YF w⟩
 ·have e:Nn (ZX (g,Nw,k,b))=false:=M0 fun h=>by cases h.1
  rw[e];clear e;go_enter azq,azl;go_wp2;go_ret;exact⟨rfl,YF w⟩
 ·have e:Nn (ZX (g,Nb,k,b))=false:=M0 fun h2=>by have:=h2.2.1;simp at this;simp[this]at h
  rw[e];clear e;go_enter azq,azl;go_wp2;go_ret;exact⟨rfl,YF w⟩
 ·have e:Nn (ZX (g,Nb,0,b))=false:=M0 fun h2=>by have:=h2.2.2;simp at this;simp[this]at h
  rw[e];clear e;go_enter azq,azl;go_wp2;go_ret;exact⟨rfl,YF w⟩
theorem aen(n:Int)(w:MO):Ni MK 170 #[MF ME n] w fun r w'=>r=MN (M3 (Nn (ac5 n)))/\w'=w:=by
 obtain⟨e,f⟩:∃e,e=Nn (ac5 n):=⟨_,rfl⟩;rw[<-f];have H:M6 _:=f;clear f;cases h1:Nn (0<=n)
 ·have E:M6 (e=Nb):=by rw[H.out];exact M0 fun g=>Nc h1 g.1
  go_enter S4,SC;go_wp2;go_ret;exact⟨by rw[E.out];rfl,rfl⟩
 cases h2:Nn (n<=4294967295)
 ·have E:M6 (e=Nb):=by rw[H.out];exact M0 fun g=>Nc h2 g.2
  go_enter S4,SC;go_wp2;go_ret;exact⟨by rw[E.out];rfl,rfl⟩
 ·have E:M6 (e=Nw):=by rw[H.out];exact Nq ⟨M2 h1,M2 h2⟩
  go_enter S4,SC;go_wp2;go_ret;exact⟨by rw[E.out];rfl,rfl⟩
theorem aem(n:Int)(w:MO):Ni MK 171 #[MF ME n] w fun r w'=>r=MN (M3 (Nn (aca n)))/\w'=w:=by
 obtain⟨e,f⟩:∃e,e=Nn (aca n):=⟨_,rfl⟩;rw[<-f];have H:M6 _:=f;clear f;cases h1:Nn (0<=n)
 ·have E:M6 (e=Nb):=by rw[H.out];exact M0 fun g=>Nc h1 g.1
  go_enter azL,azC;go_wp2;go_ret;exact⟨by rw[E.out];rfl,rfl⟩
 cases h2:Nn (n<12)
 ·have E:M6 (e=Nb):=by rw[H.out];exact M0 fun g=>Nc h2 g.2
  go_enter azL,azC;go_wp2;go_ret;exact⟨by rw[E.out];rfl,rfl⟩
 ·have E:M6 (e=Nw):=by rw[H.out];exact Nq ⟨M2 h1,M2 h2⟩
  go_enter azL,azC;go_wp2;go_ret;exact⟨by rw[E.out];rfl,rfl⟩
theorem aux(g:Int)(u:Bool)(k b:Int):let ans:=Nn (¬Yt (g,u,k,b))
  (g<0/\ans=Nw)\/(0<=g/\1048576<g/\ans=Nw)\/(0<=g/\g<=1048576/\ZX (g,u,k,b)/\ans=Nb) \/
  (0<=g/\g<=1048576/\¬ZX (g,u,k,b)/\(u=Nb/\ans=Nw\/u=Nw/\((g == 1048576)=Nw/\ans=Nw\/(g == 1048576)=Nb/\(¬ac5 k/\ans=Nw\/ac5 k/\ans=Nn (¬aca b))))):=by
 intro ans
 by_cases h1:g<0
 ·refine Nt ⟨h1,Nq fun h=>?_⟩
  unfold Yt at h
  split at h <;> simp at h <;> omega
 by_cases h2:1048576<g
 ·refine NF (Nt ⟨by omega,h2,Nq fun h=>?_⟩)
  unfold Yt at h
  split at h <;> simp at h <;> omega
 by_cases h3:ZX (g,u,k,b)
 ·refine NF (NF (Nt ⟨by omega,by omega,h3,M0 fun h=>h ?_⟩))
  obtain⟨f,e,i⟩:=h3;unfold Yt;rw[f,Nf (by simp)];exact⟨⟨by simp;omega,by simp;omega⟩,e,i⟩
 refine NF (NF (NF ⟨by omega,by omega,h3,?_⟩));cases u
 ·refine Nt ⟨rfl,Nq fun h=>h3 ?_⟩
  unfold Yt at h;simp at h;exact⟨rfl,h.2⟩
 refine NF ⟨rfl,?_⟩
 by_cases h4:g=1048576
 ·refine Nt ⟨by simp[h4],Nq fun h=>?_⟩
  unfold Yt at h;simp at h;omega
 refine NF ⟨by simpa using h4,?_⟩
 by_cases h5:ac5 k
 ·refine NF ⟨h5,?_⟩
  refine decide_eq_decide.2 ⟨fun h hb=>h ?_,fun h h'=>h ?_⟩
  ·unfold Yt
   rw[Nh rfl];exact⟨⟨by simp;omega,by simp;omega⟩,h5,hb⟩
  ·unfold Yt at h'
   rw[Nh rfl]at h';exact h'.2.2
 ·refine Nt ⟨h5,Nq fun h=>h5 ?_⟩
  unfold Yt at h;rw[Nh rfl]at h;exact h.2.1
theorem auQ(g:Int)(u:Bool)(k b:Int)(w:MO) :
  Ni MK 152 #[Ny #[MF ME g,M3 u,MF ME k,MF ME b]] w fun r w'=>r=MN (M3 (Nn (¬Yt (g,u,k,b))))/\MQ w.heap.size w w':=by
 have o:=aux g u k b;revert o;generalize Nn (¬Yt (g,u,k,b))=ans;intro o;rcases o with⟨A,rfl⟩|⟨A,I,rfl⟩|⟨A,I,p,rfl⟩|⟨A,I,p,o⟩
 ·go_enter ayR,ayH
  go_wp2;go_ret;exact⟨rfl,YF w⟩
 ·go_enter ayR,ayH
  go_wp2;go_ret;exact⟨rfl,YF w⟩
 ·have C:M6 _:=Nq p
  clear p;go_enter ayR,ayH
  go_wp2_with fail
  refine(afo g u k b _).mono ?_;rw[C.out];rintro r m ⟨rfl,e⟩;have f:M6 _:=(YF w).trans (e.mono (by simp));clear e;go_wp2;go_ret;exact⟨rfl,f.out⟩
 ·have C:M6 _:=M0 p
  clear p;obtain⟨t,s⟩:∃t,t=w.alloc (MP #[MF ME g,M3 u,MF ME k,MF ME b] 182):=⟨_,rfl⟩;have E:t.heap[w.heap.size]?=MI (MP #[MF ME g,M3 u,MF ME k,MF ME b] 182 (0,0)):=by rw[s];exact M1 _ _
  have z:MQ w.heap.size w t:=by rw[s];exact YF w
  go_enter ayR,ayH
  go_wp2_with fail
  rw[<-s];refine(afo g u k b _).mono ?_;rw[C.out];rintro r m ⟨rfl,e⟩;have i:=WO E e;have f:M6 _:=z.trans (e.mono z.size);have c0:m.cell? ⟨w.heap.size,0,MH⟩=MI (MF ME g):=by simp[Nl,i]
  have c1:m.cell? ⟨w.heap.size,1,MH⟩=MI (M3 u):=by simp[Nl,i]
  have c2:m.cell? ⟨w.heap.size,2,MH⟩=MI (MF ME k):=by simp[Nl,i]
  have c3:m.cell? ⟨w.heap.size,3,MH⟩=MI (MF ME b):=by simp[Nl,i]
  clear e E i z s;rcases o with⟨rfl,rfl⟩|⟨rfl,⟨J,rfl⟩|⟨J,⟨j,rfl⟩|⟨j,F⟩⟩⟩
  ·go_wp2
   go_ret;exact⟨rfl,f.out⟩
  ·go_wp2
   go_ret;exact⟨rfl,f.out⟩
  ·have D:M6 _:=M0 j
   clear j
   go_wp2_with fail
   refine(aen _ _).mono ?_;rw[D.out];rintro r G ⟨rfl,rfl⟩;go_wp2;go_ret;exact⟨rfl,f.out⟩
  ·have D:M6 _:=Nq j
   have K:M6 (ans = !(Nn (aca b))):=F.trans decide_not;clear j F
   go_wp2_with fail
   refine(aen _ _).mono ?_;rw[D.out];rintro r G ⟨rfl,rfl⟩
   go_wp2_with fail
   refine(aem _ _).mono ?_;generalize Nn (aca b)=bb at *;rintro r G ⟨rfl,rfl⟩;go_wp2;go_ret;exact⟨by rw[K.out];rfl,f.out⟩
def Yz(q:Sl->Bool):List Sl->Option Nat
 | []=>MH
 |t::l=>if q t then MI 0 else(Yz q l).map (·+1)
theorem ai1{q:Sl->Bool}:∀ {l:List Sl},(∀t∈l,q t=Nb)->Yz q l=MH
 | [],_=>rfl
 |t::l,h=>by
  unfold Yz;rw[h t (by simp),ai1 (l:=l) fun x hx=>h x (by simp[hx])];rfl
theorem ai4{q:Sl->Bool}:∀ {l:List Sl} {k:Nat} (hk:k<l.length),(∀t∈l.take k,q t=Nb)->q l[k]=Nw->Yz q l=MI k
 |t::l,0,_,_,h=>by
  unfold Yz;rw[Nh (by simpa using h)]
 |t::l,k+1,hk,h1,h2=>by
  unfold Yz;rw[Nf (by rw[h1 t (by simp)];simp),ai4 (l:=l) (k:=k) (by simpa using hk) (fun x hx=>h1 x (by simp[hx])) (by simpa using h2)];rfl
def agN(t:Sl):Bool:=Nn (¬Yt t)
theorem auK(v:M7)(l:List Sl)(w:MO)(hv:Yy w v l) :
  Ni MK 118 #[v,PB (PD 152) #[] #[]] w fun r w'=>r=MN (MF ME (Yn (Yz agN l)))/\MQ w.heap.size w w':=by
 obtain⟨q,F⟩:∃q,q=agN:=⟨_,rfl⟩;obtain⟨a,ca,rfl,a1,U,N⟩:=hv.F6;unfold NE at U;have S:M6 (∀(g:Int) (u:Bool) (k b:Int) (W:MO),Ni MK 152 #[Ny #[MF ME g,M3 u,MF ME k,MF ME b]] W fun r w'=>r=MN (M3 (q (g,u,k,b)))/\MQ W.heap.size W w'):=by rw[F];exact fun g u k b W=>auQ g u k b W
 rw[<-F];obtain⟨j,E⟩:∃j,j=Yn (Yz q l):=⟨_,rfl⟩;rw[<-E];have H:M6 _:=E;clear hv E F;go_enter Tryz.func118,Tryz.ntmps118;go_wp2
 go_loopw [8] (fun i wr=>∃k:Nat,i=MF ME k/\k<=l.length/\(∀t∈l.take k,q t=Nb)/\MQ w.heap.size w wr) (fun i _=>l.length-(On i).toNat)
 case atStart=>exact⟨0,rfl,Nx _,by simp,MY _ _⟩
 case round =>
  obtain⟨k,rfl,hk,m,f⟩:=hrel
  by_cases hlt:k<l.length
  ·obtain⟨C,D,rfl,o,c1,c2,c3,c4⟩:=N k hlt
   have Z:=(f.cell (p:=⟨C,D+k*4,MH⟩) o).trans c1;have V:=(f.cell (p:=⟨C,D+k*4+1,MH⟩) o).trans c2;have Y:=(f.cell (p:=⟨C,D+k*4+2,MH⟩) o).trans c3;have e4:=(f.cell (p:=⟨C,D+k*4+3,MH⟩) o).trans c4;have z:M6 (_/\_):=⟨m,f⟩;have a0:(k:Int)<(l.length:Int):=by omega
   have G:l.take (k+1)=l.take k++[l[k]]:=M9 hlt;have I:q l[k]=Nw->Yz q l=MI k:=fun h=>ai4 hlt m h
   have A:∃x,x=l[k]:=⟨_,rfl⟩;obtain⟨⟨K,J,M,P⟩,A⟩:=A;rw[<-A]at Z V Y e4 G I;have Q:M6 (_/\_):=⟨G,I⟩;clear m f c1 c2 c3 c4 o N G I A;cases hd:q (K,J,M,P)
   ·go_wp2_with fail
    refine(S.out K J M P _).mono ?_;rw[hd];rintro r w2 ⟨rfl,s⟩;have L:M6 _:=s;clear s;go_wp2
    go_roundw
    case rel =>
     refine⟨k+1,by simp,hlt,fun t e=>?_,z.out.2.trans (L.out.mono z.out.2.size)⟩;rw[Q.out.1]at e;rcases QF.1 e with e|e
     ·exact z.out.1 t e
     ·simp at e
      rw[e];exact hd
    case measure=>simp[On];omega
   ·go_wp2_with fail
    refine(S.out K J M P _).mono ?_;rw[hd];rintro r w2 ⟨rfl,s⟩;have O:M6 (j=(k:Int)):=by show j=_;rw[H.out,Q.out.2 hd];rfl
    have L:M6 _:=s;clear s;go_wp2;go_ret;exact⟨by rw[O.out];rfl,z.out.2.trans (L.out.mono z.out.2.size)⟩
  ·have O:M6 (j = -1):=by
    show j=_;rw[H.out,ai1 fun t e=>m t (by rw[N1 (by omega)];exact e)];rfl
   have HB:M6 _:=f;clear m f N;go_wp2;go_ret;exact⟨by rw[O.out];rfl,HB.out⟩
def aaU(t:Sl):Bool:=Nn (ZX t) && (t.1 != 1048576)
theorem auT(g:Int)(u:Bool)(k b:Int)(w:MO) :
  Ni MK 172 #[Ny #[MF ME g,M3 u,MF ME k,MF ME b]] w fun r w'=>r=MN (M3 (aaU (g,u,k,b)))/\MQ w.heap.size w w':=by
 have o:aaU (g,u,k,b)=(Nn (ZX (g,u,k,b)) && (g != 1048576)):=rfl;obtain⟨p,j⟩:∃p,p=aaU (g,u,k,b):=⟨_,rfl⟩;rw[<-j];rw[<-j]at o;have H:M6 _:=o;obtain⟨i,e⟩:∃i,i=w.alloc (MP #[MF ME g,M3 u,MF ME k,MF ME b] 182):=⟨_,rfl⟩;have z:i.heap[w.heap.size]?=MI (MP #[MF ME g,M3 u,MF ME k,MF ME b] 182 (0,0)):=by rw[e];exact M1 _ _
 have s:MQ w.heap.size w i:=by rw[e];exact YF w
 have f:M6 (_/\_/\_):=⟨e,z,s⟩;clear j o e z s;go_enter Tryz.func172,Tryz.ntmps172
 go_wp2_with fail
 rw[<-f.out.1];refine(afo g u k b _).mono ?_;generalize Nn (ZX (g,u,k,b))=fr at *;rintro r C ⟨rfl,m⟩;have t:=WO f.out.2.1 m;have c0:C.cell? ⟨w.heap.size,0,MH⟩=MI (MF ME g):=by simp[Nl,t]
 have A:M6 _:=f.out.2.2.trans (m.mono f.out.2.2.size);clear m t;cases fr
 ·go_wp2
  go_ret;exact⟨by rw[H.out];rfl,A.out⟩
 ·go_wp2
  go_ret;exact⟨by rw[H.out];rfl,A.out⟩
theorem anl(v:M7)(l:List Sl)(w:MO)(hv:Yy w v l) :
  Ni MK 118 #[v,PB (PD 172) #[] #[]] w fun r w'=>r=MN (MF ME (Yn (Yz aaU l)))/\MQ w.heap.size w w':=by
 obtain⟨q,F⟩:∃q,q=aaU:=⟨_,rfl⟩;obtain⟨a,ca,rfl,a1,U,N⟩:=hv.F6;unfold NE at U;have S:M6 (∀(g:Int) (u:Bool) (k b:Int) (W:MO),Ni MK 172 #[Ny #[MF ME g,M3 u,MF ME k,MF ME b]] W fun r w'=>r=MN (M3 (q (g,u,k,b)))/\MQ W.heap.size W w'):=by rw[F];exact fun g u k b W=>auT g u k b W
 rw[<-F];obtain⟨j,E⟩:∃j,j=Yn (Yz q l):=⟨_,rfl⟩;rw[<-E];have H:M6 _:=E;clear hv E F;go_enter Tryz.func118,Tryz.ntmps118;go_wp2
 go_loopw [8] (fun i wr=>∃k:Nat,i=MF ME k/\k<=l.length/\(∀t∈l.take k,q t=Nb)/\MQ w.heap.size w wr) (fun i _=>l.length-(On i).toNat)
 case atStart=>exact⟨0,rfl,Nx _,by simp,MY _ _⟩
 case round =>
  obtain⟨k,rfl,hk,m,f⟩:=hrel
  by_cases hlt:k<l.length
  ·obtain⟨C,D,rfl,o,c1,c2,c3,c4⟩:=N k hlt
   have Z:=(f.cell (p:=⟨C,D+k*4,MH⟩) o).trans c1;have V:=(f.cell (p:=⟨C,D+k*4+1,MH⟩) o).trans c2;have Y:=(f.cell (p:=⟨C,D+k*4+2,MH⟩) o).trans c3;have e4:=(f.cell (p:=⟨C,D+k*4+3,MH⟩) o).trans c4;have z:M6 (_/\_):=⟨m,f⟩;have a0:(k:Int)<(l.length:Int):=by omega
   have G:l.take (k+1)=l.take k++[l[k]]:=M9 hlt;have I:q l[k]=Nw->Yz q l=MI k:=fun h=>ai4 hlt m h
   have A:∃x,x=l[k]:=⟨_,rfl⟩;obtain⟨⟨K,J,M,P⟩,A⟩:=A;rw[<-A]at Z V Y e4 G I;have Q:M6 (_/\_):=⟨G,I⟩;clear m f c1 c2 c3 c4 o N G I A;cases hd:q (K,J,M,P)
   ·go_wp2_with fail
    refine(S.out K J M P _).mono ?_;rw[hd];rintro r w2 ⟨rfl,s⟩;have L:M6 _:=s;clear s;go_wp2
    go_roundw
    case rel =>
     refine⟨k+1,by simp,hlt,fun t e=>?_,z.out.2.trans (L.out.mono z.out.2.size)⟩;rw[Q.out.1]at e;rcases QF.1 e with e|e
     ·exact z.out.1 t e
     ·simp at e
      rw[e];exact hd
    case measure=>simp[On];omega
   ·go_wp2_with fail
    refine(S.out K J M P _).mono ?_;rw[hd];rintro r w2 ⟨rfl,s⟩;have O:M6 (j=(k:Int)):=by show j=_;rw[H.out,Q.out.2 hd];rfl
    have L:M6 _:=s;clear s;go_wp2;go_ret;exact⟨by rw[O.out];rfl,z.out.2.trans (L.out.mono z.out.2.size)⟩
  ·have O:M6 (j = -1):=by
    show j=_;rw[H.out,ai1 fun t e=>m t (by rw[N1 (by omega)];exact e)];rfl
   have HB:M6 _:=f;clear m f N;go_wp2;go_ret;exact⟨by rw[O.out];rfl,HB.out⟩
theorem ai3{q:Sl->Bool}:∀ {l:List Sl},(0<=Yn (Yz q l))↔∃t∈l,q t=Nw
 | []=>by simp[Yz,Yn]
 |t::l=>by
  unfold Yz;have i:=ai3 (q:=q) (l:=l)
  by_cases h:q t=Nw
  ·rw[Nh h]
   exact⟨fun _=>⟨t,by simp,h⟩,fun _=>by show(0:Int)<=((0:Nat):Int);omega⟩
  ·rw[Nf h]
   constructor
   ·intro j
    cases hf:Yz q l with
    |none=>rw[hf]at j;simp[Yn]at j
    |some k =>
     obtain⟨x,e,f⟩:=i.1 (by rw[hf];show(0:Int)<=(k:Int);omega);exact⟨x,by simp[e],f⟩
   ·rintro⟨x,e,f⟩
    rcases OO.1 e with rfl|e
    ·exact absurd f h
    ·have:=i.2 ⟨x,e,f⟩
     cases hf:Yz q l with
     |none=>rw[hf]at this;simp[Yn]at this
     |some k=>show(0:Int)<=((k+1:Nat):Int);omega
theorem auC(v:M7)(l:List Sl)(w:MO)(hv:Yy w v l) :
  Ni MK 80 #[v,PB (PD 152) #[] #[]] w fun r w'=>r=MN (M3 (Nn (¬ ∀t∈l,Yt t)))/\MQ w.heap.size w w':=by
 have p:M6 _:=hv;have f:Nn (¬ ∀t∈l,Yt t)=Nn (0<=Yn (Yz agN l)):=by
  refine decide_eq_decide.2 ?_;rw[ai3];constructor
  ·intro h
   refine PM fun hn=>h fun t ht=>PM fun ht2=>hn ⟨t,ht,Nq ht2⟩
  ·rintro⟨t,ht,h⟩ hall
   exact M2 h (hall t ht)
 rw[f];obtain⟨j,e⟩:∃j,j=Yn (Yz agN l):=⟨_,rfl⟩;rw[<-e];have o:M6 _:=e;clear f hv e;go_enter Tryz.func80,Tryz.ntmps80
 go_wp2_with fail
 refine(auK v l w p.out).mono ?_;rw[<-o.out];rintro r s ⟨rfl,i⟩;have m:M6 _:=i;clear i;go_wp2;go_ret;exact⟨rfl,m.out⟩
abbrev Z6(l:List Sl):Prop:=(1<=l.length/\l.length<=40)/\∀t∈l,Yt t
theorem agO(v:M7)(l:List Sl)(w:MO)(hv:Yy w v l) :
  Ni MK 105 #[Ny #[v]] w fun r w'=>r=MN (MF ME (if Z6 l then 0 else 6))/\MQ w.heap.size w w':=by
 obtain⟨e,j⟩:∃e:Int,e=if Z6 l then 0 else 6:=⟨_,rfl⟩
 rw[<-j];have H:M6 _:=j;clear j;obtain⟨p,c,rfl,G,z,_⟩:=hv.F6;unfold NE at z;have A:M6 _:=hv;clear hv;cases h1:Nn ((l.length:Int)<1)
 case true =>
  have E:M6 (e=6):=by
   show e=6;rw[H.out,Nf fun h=>by have:=h.1.1;have:=M2 h1;omega]
  go_enter ayX,ayM;go_wp2;go_ret;exact⟨by rw[E.out];rfl,YF w⟩
 cases h2:Nn (40<(l.length:Int))
 case true =>
  have E:M6 (e=6):=by
   show e=6;rw[H.out,Nf fun h=>by have:=h.1.2;have:=M2 h2;omega]
  go_enter ayX,ayM;go_wp2;go_ret;exact⟨by rw[E.out];rfl,YF w⟩
 obtain⟨f,i⟩:∃f,f=Nn (¬ ∀t∈l,Yt t):=⟨_,rfl⟩;have E:M6 (e=if f then 6 else 0):=by
  show e=_;rw[H.out,i];have D:=Nc h1;have C:=Nc h2
  by_cases h:∀t∈l,Yt t
  ·rw[Nh ⟨⟨by omega,by omega⟩,h⟩,M0 (by simpa using h)]
   rfl
  ·rw[Nf fun h'=>h h'.2,Nq h]
   rfl
 have m:M6 _:=i;clear i H;go_enter ayX,ayM
 go_wp2_with fail
 refine(auC _ l _ (A.out.below (YF w))).mono ?_;rw[<-m.out];rintro r F ⟨rfl,s⟩;have o:M6 _:=(YF w).trans (s.mono (by simp));clear s m;cases f
 ·go_wp2
  go_ret;exact⟨by rw[E.out];rfl,o.out⟩
 ·go_wp2
  go_ret;exact⟨by rw[E.out];rfl,o.out⟩
def Yj(l:List Sl)(s g:Int):Sl×Int :=
 if ¬Z6 l then((0,Nb,0,0),6)else if ¬(0<=s/\s<l.length)then((0,Nb,0,0),8)else
  let x:=l.getD s.toNat (0,Nb,0,0)
  if x.2.1=Nw/\x.1=g then(x,0)else((0,Nb,0,0),10)
theorem ajb(h:Yt x):¬ZX x↔x.2.1=true:=by
 unfold Yt at h;unfold ZX
 by_cases hu:x.2.1=Nw
 ·simp[hu]
 ·rw[Nf hu]at h
  simp only[Qc]at hu;simp[hu,h.2.1,h.2.2]
def adK(x:Sl):Value:=Ny #[MF ME x.1,M3 x.2.1,MF ME x.2.2.1,MF ME x.2.2.2]
def ani(w:MO)(g:Nat)(a b c d:M7):Prop :=
 (w.cell? ⟨g,0,MH⟩=MI a/\w.cell? ⟨g,1,MH⟩=MI b/\w.cell? ⟨g,2,MH⟩=MI c/\w.cell? ⟨g,3,MH⟩=MI d)/\(w.frozen? ⟨g,0,MH⟩=Nb/\w.frozen? ⟨g,1,MH⟩=Nb/\w.frozen? ⟨g,2,MH⟩=Nb/\w.frozen? ⟨g,3,MH⟩=Nb)
theorem auz(h:w.heap[g]?=MI (MP #[a,b,c,d] T (0,0))):ani w g a b c d:=by
 unfold ani;simp[Nl,Ng,h]
theorem ael{a' b' c' d':M7}(h:w.heap[g]?=MI (MP #[a,b,c,d] T (0,0))):
  ((((w.setCell ⟨g,0,MH⟩ a').setCell ⟨g,1,MH⟩ b').setCell ⟨g,2,MH⟩ c').setCell ⟨g,3,MH⟩ d').heap[g]?=MI (MP #[a',b',c',d'] T (0,0)):=
 NI _ _ 3 _ _ d' (NI _ _ 2 _ _ c' (NI _ _ 1 _ _ b' (NI w g 0 _ _ a' h)))
theorem aek(h:MQ B w0 w)(hg:B<=g):MQ B w0 ((((w.setCell ⟨g,0,MH⟩ a).setCell ⟨g,1,MH⟩ b).setCell ⟨g,2,MH⟩ c).setCell ⟨g,3,MH⟩ d):=
 (((h.setCell hg _).setCell hg _).setCell hg _).setCell hg _
theorem ai6{s g:Int}(hok:Z6 l)(h:s<0\/(l.length:Int)<=s):Yj l s g=((0,Nb,0,0),8):=by
 unfold Yj;rw[Nf (not_not_intro hok),Nh (by omega)]
theorem ai8{g:Int}(hok:Z6 l)(hk:k<l.length)(hx:x=l[k]):Yj l k g=if x.2.1=Nw/\x.1=g then(x,0)else((0,Nb,0,0),10):=by
 unfold Yj;rw[Nf (not_not_intro hok),Nf (by omega)];have:l.getD (k:Int).toNat (0,Nb,0,0)=x:=by
  rw[NR,NK,MR hk,hx];rfl
 rw[this]
theorem ai5(v:M7)(l:List Sl)(s g:Int)(w:MO)(hv:Yy w v l) :
  Ni MK 88 #[Ny #[v],Ny #[MF ME s,MF ME g]] w fun r w'=>r=MN (Nv #[adK (Yj l s g).1,MF ME (Yj l s g).2])/\MQ w.heap.size w w':=by
 obtain⟨p,c,rfl,hc,hm,O⟩:=hv.F6;unfold NE at hm;obtain⟨K,G⟩:∃K,K=((w.alloc (MP #[MG p l.length c] 39)).alloc (MP #[MF ME s,MF ME g] 70)).alloc (MP #[MF ME 0,M3 Nb,MF ME 0,MF ME 0] 182):=⟨_,rfl⟩;have b0:MQ w.heap.size w K:=by rw[G];exact(((MY _ _).alloc (MV _) _).alloc (by simp) _).alloc (by simp;omega) _
 have a9:K.heap[w.heap.size]?=MI (MP #[MG p l.length c] 39 (0,0)):=by rw[G];exact Xy _ _ (Xy _ _ (M1 _ _))
 have a6:K.heap[w.heap.size+1]?=MI (MP #[MF ME s,MF ME g] 70 (0,0)):=by rw[G];exact Xy _ _ (Yu _ _ _)
 have a5:K.heap[w.heap.size+1+1]?=MI (MP #[MF ME 0,M3 Nb,MF ME 0,MF ME 0] 182 (0,0)):=by rw[G];have:=M1 ((w.alloc (MP #[MG p l.length c] 39)).alloc (MP #[MF ME s,MF ME g] 70)) (MP #[MF ME 0,M3 Nb,MF ME 0,MF ME 0] 182);simpa using this
 have F:M6 (_/\_/\_/\_/\_/\_):=⟨hv,b0,a9,a6,a5,G⟩;clear hv b0 a9 a6 a5 G;go_enter Tryz.func88,Tryz.ntmps88
 go_wp2_with fail
 rw[<-F.out.2.2.2.2.2];refine(agO _ l _ (F.out.1.below F.out.2.1)).mono ?_;rintro r e ⟨rfl,j⟩;have z:=WO F.out.2.2.2.2.1 j;have a3:=WO F.out.2.2.1 j;have a2:=WO F.out.2.2.2.1 j;have s0:e.cell? ⟨w.heap.size+1+1,0,MH⟩=MI (MF ME 0):=by simp[Nl,z]
 have s1:e.cell? ⟨w.heap.size+1+1,1,MH⟩=MI (M3 Nb):=by simp[Nl,z]
 have s2:e.cell? ⟨w.heap.size+1+1,2,MH⟩=MI (MF ME 0):=by simp[Nl,z]
 have s3:e.cell? ⟨w.heap.size+1+1,3,MH⟩=MI (MF ME 0):=by simp[Nl,z]
 have f0:e.frozen? ⟨w.heap.size+1+1,0,MH⟩=false:=by simp[Ng,z]
 have f1:e.frozen? ⟨w.heap.size+1+1,1,MH⟩=false:=by simp[Ng,z]
 have f2:e.frozen? ⟨w.heap.size+1+1,2,MH⟩=false:=by simp[Ng,z]
 have f3:e.frozen? ⟨w.heap.size+1+1,3,MH⟩=false:=by simp[Ng,z]
 have t0:=Xu a3;obtain⟨h0,h1,_⟩:=Xa a2;have L:M6 (_/\_/\_/\_):=⟨j,z,a3,a2⟩;clear j z a3 a2;have I:M6 _:=F.out.2.1.trans (L.out.1.mono F.out.2.1.size)
 by_cases hok:Z6 l
 ·rw[Nh hok]
  by_cases hs0:s<0
  ·have o:M6 _:=ai6 (g:=g) hok (Nt hs0)
   clear O hok;go_wp2;exact Np (v:=Nv #[adK (0,Nb,0,0),MF ME 8]) (XT ay7 rfl rfl (Xp (P:=MK) (cs:=[MF ME 0,M3 Nb,MF ME 0,MF ME 0]) (ael L.out.2.1) ay3 rfl (by kernel_rfl))) rfl ⟨by rw[o.out],aek I.out (by omega)⟩
  by_cases hs1:(l.length:Int)<=s
  ·have o:M6 _:=ai6 (g:=g) hok (NF hs1)
   clear O hok;go_wp2;exact Np (v:=Nv #[adK (0,Nb,0,0),MF ME 8]) (XT ay7 rfl rfl (Xp (P:=MK) (cs:=[MF ME 0,M3 Nb,MF ME 0,MF ME 0]) (ael L.out.2.1) ay3 rfl (by kernel_rfl))) rfl ⟨by rw[o.out],aek I.out (by omega)⟩
  obtain⟨k,rfl⟩:=NL (a:=s) (by omega);have hk:k<l.length:=by omega
  have b3:(k:Int)<(l.length:Int):=by omega
  obtain⟨b1,o1,rfl,j,c1,c2,c3,c4⟩:=O k hk;have M:=I.out;have e1:=(M.cell (p:=⟨b1,o1+k*4,MH⟩) j).trans c1;have e2:=(M.cell (p:=⟨b1,o1+k*4+1,MH⟩) j).trans c2;have e3:=(M.cell (p:=⟨b1,o1+k*4+2,MH⟩) j).trans c3;have e4:=(M.cell (p:=⟨b1,o1+k*4+3,MH⟩) j).trans c4;obtain⟨⟨A,C,D,E⟩,V⟩:∃x,x=l[k]:=⟨_,rfl⟩;rw[<-V]at e1 e2 e3 e4;have f:=ai8 (g:=g) hok hk V;have m:=ajb (hok.2 l[k] (Nk hk));rw[<-V]at m;have o:M6 (_/\_):=⟨f,m⟩;obtain⟨Z,U⟩:∃Z,Z=e.alloc (MP #[MF ME A,M3 C,MF ME D,MF ME E] 182):=⟨_,rfl⟩;have a7:Z.heap[e.heap.size]?=MI (MP #[MF ME A,M3 C,MF ME D,MF ME E] 182 (0,0)):=by rw[U];exact M1 _ _
  have b2:MQ e.heap.size e Z:=by rw[U];exact YF e
  have Y:M6 (_/\_/\_):=⟨U,a7,b2⟩;clear f m V hok O c1 c2 c3 c4 j hs0 hs1 M U a7 b2
  go_wp2_with fail
  rw[<-Y.out.1];refine(afo A C D E _).mono ?_;rintro r i ⟨rfl,a4⟩;have N:=WO Y.out.2.1 a4;have S:=Y.out.2.2.trans (a4.mono Y.out.2.2.size);have t:=WO L.out.2.1 S;have a8:=WO L.out.2.2.2 S;have u0:i.cell? ⟨w.heap.size+1+1,0,MH⟩=MI (MF ME 0):=by simp[Nl,t]
  have u1:i.cell? ⟨w.heap.size+1+1,1,MH⟩=MI (M3 Nb):=by simp[Nl,t]
  have u2:i.cell? ⟨w.heap.size+1+1,2,MH⟩=MI (MF ME 0):=by simp[Nl,t]
  have u3:i.cell? ⟨w.heap.size+1+1,3,MH⟩=MI (MF ME 0):=by simp[Nl,t]
  have v0:i.frozen? ⟨w.heap.size+1+1,0,MH⟩=false:=by simp[Ng,t]
  have v1:i.frozen? ⟨w.heap.size+1+1,1,MH⟩=false:=by simp[Ng,t]
  have v2:i.frozen? ⟨w.heap.size+1+1,2,MH⟩=false:=by simp[Ng,t]
  have v3:i.frozen? ⟨w.heap.size+1+1,3,MH⟩=false:=by simp[Ng,t]
  have z0:i.cell? ⟨e.heap.size,0,MH⟩=MI (MF ME A):=by simp[Nl,N]
  have z1:i.cell? ⟨e.heap.size,1,MH⟩=MI (M3 C):=by simp[Nl,N]
  have z2:i.cell? ⟨e.heap.size,2,MH⟩=MI (MF ME D):=by simp[Nl,N]
  have z3:i.cell? ⟨e.heap.size,3,MH⟩=MI (MF ME E):=by simp[Nl,N]
  obtain⟨y0,y1,_⟩:=Xa a8;have a1:M6 _:=I.out.trans (S.mono I.out.size);have a0:M6 _:=t;clear N a4 S t a8 s0 s1 s2 s3 f0 f1 f2 f3 t0 h0 h1 e1 e2 e3 e4
  by_cases m:ZX (A,C,D,E)
  ·have J:=Nq m
   have f:Yj l k g=((0,Nb,0,0),10):=by
    rw[o.out.1,Nf fun h=>(o.out.2.2 h.1) m]
   have Q:M6 _:=f;rw[J];clear f J m;go_wp2;exact Np (v:=Nv #[adK (0,Nb,0,0),MF ME 10]) (XT ay7 rfl rfl (Xp (P:=MK) (cs:=[MF ME 0,M3 Nb,MF ME 0,MF ME 0]) (ael a0.out) ay3 rfl (by kernel_rfl))) rfl ⟨by rw[Q.out],aek a1.out (by omega)⟩
  ·have J:=M0 m
   rw[J];have hu:=o.out.2.1 m;cases hgn:(A != g)
   ·have f:Yj l k g=((A,C,D,E),0):=by
     rw[o.out.1,Nh ⟨hu,by simpa using hgn⟩]
    have Q:M6 _:=f;clear f J m hu;go_wp2;exact Np (v:=Nv #[adK (A,C,D,E),MF ME 0]) (XT ay7 rfl rfl (Xp (P:=MK) (cs:=[MF ME A,M3 C,MF ME D,MF ME E]) (ael a0.out) ay3 rfl (by kernel_rfl))) rfl ⟨by rw[Q.out],aek a1.out (by omega)⟩
   ·have f:Yj l k g=((0,Nb,0,0),10):=by
     rw[o.out.1,Nf fun h=>by have:=h.2;simp at hgn;exact hgn this]
    have Q:M6 _:=f;clear f J m hu;go_wp2;exact Np (v:=Nv #[adK (0,Nb,0,0),MF ME 10]) (XT ay7 rfl rfl (Xp (P:=MK) (cs:=[MF ME 0,M3 Nb,MF ME 0,MF ME 0]) (ael a0.out) ay3 rfl (by kernel_rfl))) rfl ⟨by rw[Q.out],aek a1.out (by omega)⟩
 ·rw[Nf hok]
  have f:Yj l s g=((0,Nb,0,0),6):=by unfold Yj;rw[Nh hok]
  have o:M6 _:=f;clear f O;go_wp2;exact Np (v:=Nv #[adK (0,Nb,0,0),MF ME 6]) (XT ay7 rfl rfl (Xp (P:=MK) (cs:=[MF ME 0,M3 Nb,MF ME 0,MF ME 0]) (ael L.out.2.1) ay3 rfl (by kernel_rfl))) rfl ⟨by rw[o.out],aek I.out (by omega)⟩
theorem auB(v:M7)(l:List Sl)(w:MO)(hv:Yy w v l)(h0:0<l.length)(hl:l.length<=1048576) :
  Ni MK 71 #[v] w fun r w'=>∃g c,r=MN (MG (MI ⟨g,0,MH⟩) l.length c)/\w'.ownsRow w.heap.size 182 4 (MG (MI ⟨g,0,MH⟩) l.length c) l.length (XF l)/\MQ w.heap.size w w':=by
 obtain⟨a,o,rfl,P,N,h⟩:=hv;rcases h with⟨h,_⟩|⟨b,off,rfl,I,i⟩
 ·omega
 ·obtain⟨E,G,t,z,A⟩:=OF anm
  have m:∀j u,(XF l)[j]?=MI u->(w.alloc (MP #[] 182)).cell? ((⟨b,off,MH⟩:Oc).add j)=MI u:=fun j u hu=>by
   have F:=(ZAb.1 hu).1;rw[aas,(YF w).cell (p:=⟨b,off+j,MH⟩) I,i j F,hu]
  have C:M6 _:=m;have L:∀W,(binOp .eql 37 (MG (MI ⟨b,off,MH⟩) l.length o) (MG MH 0 0)).run MK W=.ok (M3 Nb) W:=fun W=>by kernel_rfl
  clear m i;go_enter Tryz.func71,Tryz.ntmps71
  go_wp2_with (first|(at_builtin;refine O9 _ rfl _ _ 37 rfl w.heap.size 182 E _ 4 32 Tryz.underlying37 G t z A rfl (by decide) (MG (MI ⟨w.heap.size,0,MH⟩) 0 0) 0 [] rfl (ai9 (M1 _ _) (MV _)) ⟨b,off,MH⟩ l.length o (XF l) rfl (ac7 l) C.out (auW l) h0 (by unfold NE;omega) (by omega) (by simp) _ rfl ?_;intro J D O f s K M))
  go_wp2;go_ret;refine⟨J,D,by simp,?_,?_⟩
  ·rw[Oa,Oz]at f
   exact f
  ·exact(YF w).grown s (by simp) (fun j e=>by cases e;exact MV _)
theorem auX{n cap:Nat}(h:w.ownsRow base 182 4 (MG (MI ⟨g,0,MH⟩) n cap) n (XF l))(i:Nat)(x:Sl):
  ((((w.setCell ⟨g,i*4,MH⟩ (MF ME x.1)).setCell ⟨g,i*4+1,MH⟩ (M3 x.2.1)).setCell ⟨g,i*4+2,MH⟩ (MF ME x.2.2.1)).setCell ⟨g,i*4+3,MH⟩ (MF ME x.2.2.2)).ownsRow base 182 4 (MG (MI ⟨g,0,MH⟩) n cap) n (XF (l.set i x)):=by
 have e:=((((h.stored (i*4) (MF ME x.1)).1.stored (i*4+1) (M3 x.2.1)).1.stored (i*4+2) (MF ME x.2.2.1)).1.stored (i*4+3) (MF ME x.2.2.2)).1;rw[ann]at e;exact e
theorem auy{o:Nat}(h:MQ B w0 w)(hg:B<=g):MQ B w0 ((((w.setCell ⟨g,o,MH⟩ a).setCell ⟨g,o+1,MH⟩ b).setCell ⟨g,o+2,MH⟩ c).setCell ⟨g,o+3,MH⟩ d):=
 (((h.setCell hg _).setCell hg _).setCell hg _).setCell hg _
theorem auA{h o:Nat}{ob:Obj}(hh:w.heap[h]?=MI ob)(hne:h≠g):((((w.setCell ⟨g,o,MH⟩ a).setCell ⟨g,o+1,MH⟩ b).setCell ⟨g,o+2,MH⟩ c).setCell ⟨g,o+3,MH⟩ d).heap[h]?=MI ob:=by
 rw[MU _ _ _ _ (by simpa using hne),MU _ _ _ _ (by simpa using hne),MU _ _ _ _ (by simpa using hne),MU _ _ _ _ (by simpa using hne)];exact hh
theorem ac6(h:w.heap[g]?=MI (MP #[u] T (0,0))):(w.setCell ⟨g,0,MH⟩ v).heap[g]?=MI (MP #[v] T (0,0)):=by
 have:=NI w g 0 _ _ v h
 simpa using this
theorem ajc(v:M7)(l:List Sl)(i:Nat)(x1:Int)(x2:Bool)(x3 x4:Int)(w:MO)(hv:Yy w v l)(hi:i<l.length)(hl:l.length<=40) :
  Ni MK 173 #[Ny #[v],MF ME i,Ny #[MF ME x1,M3 x2,MF ME x3,MF ME x4]] w fun r w'=>∃p c,r=MN (Ny #[MG p l.length c])/\w'.ownsRow w.heap.size 182 4 (MG p l.length c) l.length (XF (l.set i (x1,x2,x3,x4)))/\MQ w.heap.size w w':=by
 obtain⟨p,c,rfl,_⟩:=hv.F6;obtain⟨t,s⟩:∃t,t=((w.alloc (MP #[MG p l.length c] 39)).alloc (MP #[MF ME x1,M3 x2,MF ME x3,MF ME x4] 182)).alloc (MP #[MG MH 0 0] 39):=⟨_,rfl⟩;have G:MQ w.heap.size w t:=by rw[s];exact(((MY _ _).alloc (MV _) _).alloc (by simp) _).alloc (by simp;omega) _
 have C:t.heap[w.heap.size+1]?=MI (MP #[MF ME x1,M3 x2,MF ME x3,MF ME x4] 182 (0,0)):=by rw[s];exact Xy _ _ (Yu _ _ _)
 have D:t.heap[w.heap.size+1+1]?=MI (MP #[MG MH 0 0] 39 (0,0)):=by rw[s];have:=M1 ((w.alloc (MP #[MG p l.length c] 39)).alloc (MP #[MF ME x1,M3 x2,MF ME x3,MF ME x4] 182)) (MP #[MG MH 0 0] 39);simpa using this
 have A:t.heap.size=w.heap.size+3:=by rw[s];simp
 have f:M6 (_/\_/\_/\_/\_/\_):=⟨hv,G,C,D,A,s⟩;clear hv G C D A s;go_enter Tryz.func173,Tryz.ntmps173
 go_wp2_with fail
 rw[<-f.out.2.2.2.2.2];refine(auB _ l _ (f.out.1.below f.out.2.1) (by omega) (by omega)).mono ?_;rintro r O ⟨g,c1,rfl,e,m⟩;have E:=WO f.out.2.2.1 m;have j:=WO f.out.2.2.2.1 m;obtain⟨⟨j0,j1,j2,j3⟩,_⟩:=auz E;have U:=Xu j;have V:O.frozen? ⟨w.heap.size+1+1,0,MH⟩=false:=by simp[Ng,j]
 have z:=adJ l i hi;have c0:=(e.cellAt (i*4) (by omega)).trans z.1;have J:=(e.cellAt (i*4+1) (by omega)).trans z.2.1;have c2:=(e.cellAt (i*4+2) (by omega)).trans z.2.2.1;have c3:=(e.cellAt (i*4+3) (by omega)).trans z.2.2.2;have f0:=e.frozenAt (i*4);have f1:=e.frozenAt (i*4+1);have f2:=e.frozenAt (i*4+2);have f3:=e.frozenAt (i*4+3);generalize l[i].1=y1 at c0;generalize l[i].2.1=y2 at J;generalize l[i].2.2.1=y3 at c2;generalize l[i].2.2.2=y4 at c3;have Y:(i:Int)<(l.length:Int):=by omega
 have Z:=(e.lt g rfl).2;have M:=(e.lt g rfl).1;rw[f.out.2.2.2.2.1]at M;have I:¬(w.heap.size+1+1=g):=by omega
 have S:¬(w.heap.size+1=g):=by omega
 have Q:M6 (_/\_/\_):=⟨e,m,j⟩;clear z E j e m;go_wp2;obtain⟨e,m,j⟩:=Q.out;have L:=auA (o:=i*4) (a:=MF ME x1) (b:=M3 x2) (c:=MF ME x3) (d:=MF ME x4) j I;have N:=ac6 (v:=MG (MI ⟨g,0,MH⟩) l.length c1) L;have F:=auX e i (x1,x2,x3,x4);have K:=f.out.2.1.trans (m.mono f.out.2.1.size);have A:=f.out.2.2.2.2.1;refine Np (v:=Ny #[MG (MI ⟨g,0,MH⟩) l.length c1]) (Z2 Tryz.results173 rfl (Xp (P:=MK) (cs:=[MG (MI ⟨g,0,MH⟩) l.length c1]) N Qu rfl (by kernel_rfl))) rfl ⟨_,_,rfl,?_,?_⟩
 ·exact(W8 F (fun g' hg'=>MU _ _ _ _ (by have:=(F.lt g' hg').1;simp;omega))).mono (by omega)
 ·exact(auy K (by omega)).setCell (by simp;omega) _
def aiY(m:List Sl)(e:Int)(w:MO)(r:Ending)(w':MO):Prop :=
 ∃p c,r=MN (Nv #[Ny #[MG p m.length c],MF ME e])/\w'.ownsRow w.heap.size 182 4 (MG p m.length c) m.length (XF m)/\MQ w.heap.size w w'
def ZQ(l:List Sl)(s g:Int):List Sl×Int :=
 if(Yj l s g).2=0 then(l.set s.toNat ((Yj l s g).1.1+1,Nb,0,0),0)else([],(Yj l s g).2)
theorem ai7{s g:Int}(h:Yj l s g=(x,0)):Z6 l/\∃k:Nat,s=k/\∃hk:k<l.length,x=l[k]/\x.2.1=Nw/\x.1=g:=by
 by_cases hok:Z6 l
 ·refine⟨hok,?_⟩
  by_cases hs:0<=s/\s<l.length
  ·obtain⟨k,rfl⟩:=NL hs.1
   have hk:k<l.length:=by omega
   rw[ai8 (x:=l[k]) hok hk rfl]at h
   split at h
   ·rename_i hh
    injection h with h1 h2;subst h1;exact⟨k,rfl,hk,rfl,hh.1,hh.2⟩
   ·injection h with h1 h2
    cases h2
  ·rw[ai6 hok (by omega)]at h
   injection h with h1 h2;cases h2
 ·unfold Yj at h
  rw[Nh hok]at h;injection h with h1 h2;cases h2
theorem ano(h:Yt x)(hu:x.2.1=Nw):0<=x.1/\x.1<=1048575:=by
 unfold Yt at h;rw[Nh hu]at h;exact h.1
theorem auD(v:M7)(l:List Sl)(s g:Int)(w:MO)(hv:Yy w v l) :
  Ni MK 131 #[Ny #[v],Ny #[MF ME s,MF ME g]] w (aiY (ZQ l s g).1 (ZQ l s g).2 w):=by
 obtain⟨p,c,rfl,hc,hm,_⟩:=hv.F6;unfold NE at hm;obtain⟨o,m⟩:∃o,o=((w.alloc (MP #[MG p l.length c] 39)).alloc (MP #[MF ME s,MF ME g] 70)).alloc (MP #[MG MH 0 0] 39):=⟨_,rfl⟩;have a6:MQ w.heap.size w o:=by rw[m];exact(((MY _ _).alloc (MV _) _).alloc (by simp) _).alloc (by simp;omega) _
 have a5:o.heap[w.heap.size]?=MI (MP #[MG p l.length c] 39 (0,0)):=by rw[m];exact Xy _ _ (Xy _ _ (M1 _ _))
 have a4:o.heap[w.heap.size+1]?=MI (MP #[MF ME s,MF ME g] 70 (0,0)):=by rw[m];exact Xy _ _ (Yu _ _ _)
 have a3:o.heap[w.heap.size+1+1]?=MI (MP #[MG MH 0 0] 39 (0,0)):=by rw[m];have:=M1 ((w.alloc (MP #[MG p l.length c] 39)).alloc (MP #[MF ME s,MF ME g] 70)) (MP #[MG MH 0 0] 39);simpa using this
 have a7:o.heap.size=w.heap.size+3:=by rw[m];simp
 have i:M6 (_/\_/\_/\_/\_/\_/\_):=⟨hv,a6,a5,a4,a3,a7,m⟩;clear hv a6 a5 a4 a3 a7 m;obtain⟨⟨f,L,M,N⟩,e,hx⟩:∃x e,Yj l s g=(x,e):=⟨_,_,rfl⟩;have b0:M6 (∀W y,Yy W y l->Ni MK 88 #[Ny #[y],Ny #[MF ME s,MF ME g]] W fun r w'=>r=MN (Nv #[Ny #[MF ME f,M3 L,MF ME M,MF ME N],MF ME e])/\MQ W.heap.size W w'):=fun W y hy=>by
  have:=ai5 y l s g W hy;rw[hx]at this;exact this
 have hX:M6 _:=hx;clear hx;go_enter Tryz.func131,Tryz.ntmps131
 go_wp2_with fail
 rw[<-i.out.2.2.2.2.2.2];refine(b0.out _ _ (i.out.1.below i.out.2.1)).mono ?_;rintro r j ⟨rfl,z⟩;have S:=WO i.out.2.2.1 z;have F:=WO i.out.2.2.2.2.1 z;have t0:=Xu S;have r0:=Xu F;have rf:j.frozen? ⟨w.heap.size+1+1,0,MH⟩=false:=by simp[Ng,F]
 obtain⟨h0,h1,_⟩:=Xa (WO i.out.2.2.2.1 z);have a1:=i.out.2.1.trans (z.mono i.out.2.1.size);have b4:w.heap.size+1+1<j.heap.size:=by have:=z.size;have:=i.out.2.2.2.2.2.1;omega
 have b5:w.heap.size<j.heap.size:=by omega
 have b8:w.heap.size+1<j.heap.size:=by omega
 have D:M6 (_/\_/\_):=⟨S,F,a1⟩;clear S F a1 z;obtain⟨Z,G⟩:∃Z,Z=j.alloc (MP #[MF ME f,M3 L,MF ME M,MF ME N] 182):=⟨_,rfl⟩;have I:MQ j.heap.size j Z:=by rw[G];exact YF j
 have Q:=WO D.out.2.1 I;have E:=D.out.2.2.trans (I.mono D.out.2.2.size)
 by_cases he:e=0
 ·subst he
  obtain⟨V,k,rfl,hk,O,hu,hg⟩:=ai7 hX.out;have J:=ano (V.2 _ (Nk hk)) (by rw[<-O];exact hu);rw[<-O]at J;have a8:=V.1.2;have C:ZQ l k g=(l.set k (f+1,Nb,0,0),0):=by unfold ZQ;rw[hX.out];simp
  have b7:(-9223372036854775808:Int)<=f+1:=by have:=J.1;simp at this;omega
  have b3:f+1<=(9223372036854775807:Int):=by have:=J.2;simp at this;omega
  have A:M6 (_/\_/\_/\_):=⟨C,G,Q,E⟩;have a9:M6 (∀W y,Yy W y l->Ni MK 173 #[Ny #[y],MF ME k,Ny #[MF ME (f+1),M3 Nb,MF ME 0,MF ME 0]] W fun r w'=>∃p c,r=MN (Ny #[MG p l.length c])/\w'.ownsRow W.heap.size 182 4 (MG p l.length c) l.length (XF (l.set k (f+1,Nb,0,0)))/\MQ W.heap.size W w'):=fun W y hy=>ajc y l k (f+1) Nb 0 0 W hy hk a8
  have b2:=E.size;clear V O hu hg J C G Q E
  go_wp2_with fail
  rw[<-A.out.2.1];refine(a9.out _ _ ((i.out.1.below A.out.2.2.2))).mono ?_;rintro r w3 ⟨q,d,rfl,U,Y⟩;have K:=WO A.out.2.2.1 Y;have r3:=Xu K;have b6:w3.frozen? ⟨w.heap.size+1+1,0,MH⟩=false:=by simp[Ng,K]
  have a0:=A.out.2.2.2.trans (Y.mono A.out.2.2.2.size);have a2:(w3.setCell ⟨w.heap.size+1+1,0,MH⟩ (MG q l.length d)).ownsRow w.heap.size 182 4 (MG q l.length d) l.length (XF (l.set k (f+1,Nb,0,0))):=
   (W8 U (fun g' hg'=>MU _ _ _ _ (by have:=(U.lt g' hg').1;have h2:=I.size;simp;omega))).mono (by omega)
  have t:M6 (_/\_/\_):=⟨ac6 (v:=MG q l.length d) K,a2,(show MQ w.heap.size w (w3.setCell ⟨w.heap.size+1+1,0,MH⟩ (MG q l.length d))from a0.setCell (by simp;omega) _)⟩;clear K U a2 Y a0 t0 r0 rf h0 h1;go_wp2;refine Np (v:=Nv #[Ny #[MG q l.length d],MF ME 0]) (XT QG rfl rfl (Xp (P:=MK) (cs:=[MG q l.length d]) t.out.1 Qu rfl (by kernel_rfl))) rfl ?_;rw[A.out.1];refine⟨q,d,?_,?_,t.out.2.2⟩
  ·simp
  ·simpa using t.out.2.1
 ·have C:ZQ l s g=([],e):=by unfold ZQ;rw[hX.out];simp[he]
  have b9:(e != 0)=true:=by simpa using he
  have t:M6 (_/\_/\_):=⟨Xy _ (MP #[MF ME f,M3 L,MF ME M,MF ME N] 182) (ac6 (v:=MG MH 0 0) D.out.2.1),(show MQ w.heap.size w ((j.setCell ⟨w.heap.size+1+1,0,MH⟩ (MG MH 0 0)).alloc (MP #[MF ME f,M3 L,MF ME M,MF ME N] 182))from(D.out.2.2.setCell (by simp;omega) _).alloc (by simp;omega) _),C⟩;clear Q E I C G he;go_wp2;refine Np (v:=Nv #[Ny #[MG MH 0 0],MF ME e]) (XT QG rfl rfl (Xp (P:=MK) (cs:=[MG MH 0 0]) t.out.1 Qu rfl (by kernel_rfl))) rfl ?_;rw[t.out.2.2];exact⟨MH,0,rfl,NY _ _ _ _,t.out.2.1⟩
def Y0(l:List Sl)(s g bk:Int):List Sl×Int :=
 if(Yj l s g).2=0 then(if aca bk then(l.set s.toNat ((Yj l s g).1.1,Nw,(Yj l s g).1.2.2.1,bk),0)else([],2))else([],(Yj l s g).2)
theorem auR(v:M7)(l:List Sl)(s g bk:Int)(w:MO)(hv:Yy w v l) :
  Ni MK 184 #[Ny #[v],Ny #[MF ME s,MF ME g],MF ME bk] w (aiY (Y0 l s g bk).1 (Y0 l s g bk).2 w):=by
 obtain⟨p,c,rfl,hc,hm,_⟩:=hv.F6;unfold NE at hm;obtain⟨C,A⟩:∃C,C=((w.alloc (MP #[MG p l.length c] 39)).alloc (MP #[MF ME s,MF ME g] 70)).alloc (MP #[MG MH 0 0] 39):=⟨_,rfl⟩;have a9:MQ w.heap.size w C:=by rw[A];exact(((MY _ _).alloc (MV _) _).alloc (by simp) _).alloc (by simp;omega) _
 have a8:C.heap[w.heap.size]?=MI (MP #[MG p l.length c] 39 (0,0)):=by rw[A];exact Xy _ _ (Xy _ _ (M1 _ _))
 have a6:C.heap[w.heap.size+1]?=MI (MP #[MF ME s,MF ME g] 70 (0,0)):=by rw[A];exact Xy _ _ (Yu _ _ _)
 have a5:C.heap[w.heap.size+1+1]?=MI (MP #[MG MH 0 0] 39 (0,0)):=by rw[A];have:=M1 ((w.alloc (MP #[MG p l.length c] 39)).alloc (MP #[MF ME s,MF ME g] 70)) (MP #[MG MH 0 0] 39);simpa using this
 have b2:C.heap.size=w.heap.size+3:=by rw[A];simp
 have t:M6 (_/\_/\_/\_/\_/\_/\_):=⟨hv,a9,a8,a6,a5,b2,A⟩;clear hv a9 a8 a6 a5 b2 A;obtain⟨⟨i,G,j,E⟩,e,hx⟩:∃x e,Yj l s g=(x,e):=⟨_,_,rfl⟩;have b6:M6 (∀W y,Yy W y l->Ni MK 88 #[Ny #[y],Ny #[MF ME s,MF ME g]] W fun r w'=>r=MN (Nv #[Ny #[MF ME i,M3 G,MF ME j,MF ME E],MF ME e])/\MQ W.heap.size W w'):=fun W y hy=>by
  have:=ai5 y l s g W hy;rw[hx]at this;exact this
 have O:M6 _:=hx;clear hx;go_enter Tryz.func184,Tryz.ntmps184
 go_wp2_with fail
 rw[<-t.out.2.2.2.2.2.2];refine(b6.out _ _ (t.out.1.below t.out.2.1)).mono ?_;rintro r f ⟨rfl,D⟩;have Y:=WO t.out.2.2.1 D;have L:=WO t.out.2.2.2.2.1 D;have t0:=Xu Y;have r0:=Xu L;have rf:f.frozen? ⟨w.heap.size+1+1,0,MH⟩=false:=by simp[Ng,L]
 obtain⟨h0,h1,_⟩:=Xa (WO t.out.2.2.2.1 D);have a3:=t.out.2.1.trans (D.mono t.out.2.1.size);have b9:w.heap.size+1+1<f.heap.size:=by have:=D.size;have:=t.out.2.2.2.2.2.1;omega
 have c5:w.heap.size<f.heap.size:=by omega
 have c8:w.heap.size+1<f.heap.size:=by omega
 have o:M6 (_/\_/\_):=⟨Y,L,a3⟩;clear Y L a3 D;obtain⟨W2,M⟩:∃W2,W2=f.alloc (MP #[MF ME i,M3 G,MF ME j,MF ME E] 182):=⟨_,rfl⟩;have F:MQ f.heap.size f W2:=by rw[M];exact YF f
 have V:=WO o.out.2.1 F;have J:=o.out.2.2.trans (F.mono o.out.2.2.size)
 by_cases he:e=0
 ·subst he
  obtain⟨U,k,rfl,hk,Q,hu,hg⟩:=ai7 O.out;have b0:=ano (U.2 _ (Nk hk)) (by rw[<-Q];exact hu);rw[<-Q]at b0;have b4:=U.1.2;have HO:M6 (_/\_/\_):=⟨M,V,J⟩;have b3:=J.size;have b7:G=true:=hu;subst b7;clear U Q hu hg b0 M V J;cases hbk:Nn (aca bk)
  ·have z:Y0 l k g bk=([],2):=by
    unfold Y0;rw[O.out,Nh rfl,Nf (id (Nc hbk))]
   have m:M6 (_/\_/\_):=⟨Xy _ (MP #[MF ME i,M3 Nw,MF ME j,MF ME E] 182) (ac6 (v:=MG MH 0 0) o.out.2.1),(show MQ w.heap.size w ((f.setCell ⟨w.heap.size+1+1,0,MH⟩ (MG MH 0 0)).alloc (MP #[MF ME i,M3 Nw,MF ME j,MF ME E] 182))from(o.out.2.2.setCell (by simp;omega) _).alloc (by simp;omega) _),z⟩;clear z F
   go_wp2_with fail
   refine(aem _ _).mono ?_;rw[hbk];rintro r w4 ⟨rfl,rfl⟩;go_wp2;refine Np (v:=Nv #[Ny #[MG MH 0 0],MF ME 2]) (XT Vo rfl rfl (Xp (P:=MK) (cs:=[MG MH 0 0]) m.out.1 Qu rfl (by kernel_rfl))) rfl ?_;rw[m.out.2.2];exact⟨MH,0,rfl,NY _ _ _ _,m.out.2.1⟩
  have z:Y0 l k g bk=(l.set k (i,Nw,j,bk),0):=by
   unfold Y0;rw[O.out,Nh rfl,Nh (id (M2 hbk))];simp
  have b5:M6 (∀W y,Yy W y l->Ni MK 173 #[Ny #[y],MF ME k,Ny #[MF ME i,M3 Nw,MF ME j,MF ME bk]] W fun r w'=>∃p c,r=MN (Ny #[MG p l.length c])/\w'.ownsRow W.heap.size 182 4 (MG p l.length c) l.length (XF (l.set k (i,Nw,j,bk)))/\MQ W.heap.size W w'):=fun W y hy=>ajc y l k i Nw j bk W hy hk b4
  have HU:M6 _:=z;clear z;obtain⟨W4,Z⟩:∃W4,W4=f.alloc (MP #[MF ME i,M3 Nw,MF ME j,MF ME bk] 182):=⟨_,rfl⟩;have K:MQ f.heap.size f W4:=by rw[Z];exact YF f
  have a7:=WO o.out.2.1 K;have a2:=o.out.2.2.trans (K.mono o.out.2.2.size);have I:M6 (_/\_/\_):=⟨Z,a7,a2⟩;have b8:=K.size;clear Z a7 a2 K F HO b3
  go_wp2_with fail
  refine(aem _ _).mono ?_;rw[hbk];rintro r w4 ⟨rfl,rfl⟩
  go_wp2_with fail
  rw[<-I.out.1];refine(b5.out _ _ ((t.out.1.below I.out.2.2))).mono ?_;rintro r w3 ⟨q,d,rfl,S,a0⟩;have N:=WO I.out.2.1 a0;have r3:=Xu N;have c7:w3.frozen? ⟨w.heap.size+1+1,0,MH⟩=false:=by simp[Ng,N]
  have a1:=I.out.2.2.trans (a0.mono I.out.2.2.size);have a4:(w3.setCell ⟨w.heap.size+1+1,0,MH⟩ (MG q l.length d)).ownsRow w.heap.size 182 4 (MG q l.length d) l.length (XF (l.set k (i,Nw,j,bk))):=
   (W8 S (fun g' hg'=>MU _ _ _ _ (by have:=(S.lt g' hg').1;simp;omega))).mono (by omega)
  have m:M6 (_/\_/\_):=⟨ac6 (v:=MG q l.length d) N,a4,(show MQ w.heap.size w (w3.setCell ⟨w.heap.size+1+1,0,MH⟩ (MG q l.length d))from a1.setCell (by simp;omega) _)⟩;clear N S a4 a0 a1 t0 r0 rf h0 h1;go_wp2;refine Np (v:=Nv #[Ny #[MG q l.length d],MF ME 0]) (XT Vo rfl rfl (Xp (P:=MK) (cs:=[MG q l.length d]) m.out.1 Qu rfl (by kernel_rfl))) rfl ?_;rw[HU.out];refine⟨q,d,?_,?_,m.out.2.2⟩
  ·simp
  ·simpa using m.out.2.1
 ·have z:Y0 l s g bk=([],e):=by unfold Y0;rw[O.out,Nf he]
  have c6:(e != 0)=true:=by simpa using he
  have m:M6 (_/\_/\_):=⟨Xy _ (MP #[MF ME i,M3 G,MF ME j,MF ME E] 182) (ac6 (v:=MG MH 0 0) o.out.2.1),(show MQ w.heap.size w ((f.setCell ⟨w.heap.size+1+1,0,MH⟩ (MG MH 0 0)).alloc (MP #[MF ME i,M3 G,MF ME j,MF ME E] 182))from(o.out.2.2.setCell (by simp;omega) _).alloc (by simp;omega) _),z⟩;clear V J F z M he;go_wp2;refine Np (v:=Nv #[Ny #[MG MH 0 0],MF ME e]) (XT Vo rfl rfl (Xp (P:=MK) (cs:=[MG MH 0 0]) m.out.1 Qu rfl (by kernel_rfl))) rfl ?_;rw[m.out.2.2];exact⟨MH,0,rfl,NY _ _ _ _,m.out.2.1⟩
theorem auO(n:Nat):madeCells #[MF ME 0,M3 Nb,MF ME 0,MF ME 0] (n*4)=(XF (Nj n (0,Nb,0,0))).toArray:=by
 apply Array.ext';apply Ot;intro i;have j:(XF (Nj n ((0:Int),Nb,(0:Int),(0:Int)))).length=n*4:=by rw[ac7];simp
 by_cases h:i<n*4
 ·have e:=adJ (Nj n ((0:Int),Nb,(0:Int),(0:Int))) (i / 4) (by simp;omega)
  simp only[List.getElem_replicate]at e;have m:(madeCells #[MF ME 0,M3 Nb,MF ME 0,MF ME 0] (n*4)).toList[i]?=MI ((#[MF ME 0,M3 Nb,MF ME 0,MF ME 0]:Array M7)[i % 4]!):=by
   unfold madeCells;simp[h]
  rw[m];have f:i % 4=0\/i % 4=1\/i % 4=2\/i % 4=3:=by omega
  rcases f with f|f|f|f
  ·rw[f]
   rw[show i / 4*4=i by omega]at e;exact e.1.symm
  ·rw[f]
   rw[show i / 4*4+1=i by omega]at e;exact e.2.1.symm
  ·rw[f]
   rw[show i / 4*4+2=i by omega]at e;exact e.2.2.1.symm
  ·rw[f]
   rw[show i / 4*4+3=i by omega]at e;exact e.2.2.2.symm
 ·rw[Nz (by simp[size_madeCells];omega),Nz (by simp[j];omega)]
def adI(n:Int):List Sl×Int:=if 1<=n/\n<=40 then(Nj n.toNat (0,Nb,0,0),0)else([],2)
theorem auN(n:Nat)(hn:n<=40)(W:MO):(Instr.makeSlice 37 (MF ME (n:Int)) (MF ME (n:Int))).run MK W=.ok (MG (MI ⟨W.heap.size,0,MH⟩) n n) (W.alloc (MP (XF (Nj n (0,Nb,0,0))).toArray 182)):=by
 obtain⟨m,j,f,e,i⟩:=OF anm;have h:=run_makeSlice (P:=MK) W 37 182 m _ Tryz.underlying37 j f ME ME n n (by omega) (by omega) (by rw[e];omega) (by rw[i];omega) (by omega);rw[h,e,NR,<-auO];rfl
theorem auM(n:Nat)(hn:n<=40)(W:MO):(W.alloc (MP (XF (Nj n (0,Nb,0,0))).toArray 182)).ownsRow W.heap.size 182 4 (MG (MI ⟨W.heap.size,0,MH⟩) n n) n (XF (Nj n (0,Nb,0,0))):=by
 have e:(XF (Nj n ((0:Int),Nb,(0:Int),(0:Int)))).length=n*4:=by rw[ac7];simp
 refine⟨e,NF ⟨W.heap.size,n,_,rfl,MV _,M1 W _,MV _,by unfold NE;omega,by simp[e],?_⟩⟩;simp;exact N1 (by omega)
theorem auP(n:Int)(w:MO):Ni MK 28 #[MF ME n] w (aiY (adI n).1 (adI n).2 w):=by
 have m:=M1 w (MP #[MG MH 0 0] 39)
 by_cases h:1<=n/\n<=40
 ·have i:adI n=(Nj n.toNat (0,Nb,0,0),0):=by unfold adI;rw[Nh h]
  obtain⟨E,I⟩:=h;obtain⟨k,rfl⟩:=NL (a:=n) (by omega);rw[NR]at i;have s:=auN k (by omega) (w.alloc (MP #[MG MH 0 0] 39));have j:=auM k (by omega) (w.alloc (MP #[MG MH 0 0] 39));have A:(w.alloc (MP #[MG MH 0 0] 39)).heap.size=w.heap.size+1:=by simp
  rw[A]at s j;obtain⟨Z,C⟩:∃Z,Z=(XF (Nj k ((0:Int),Nb,(0:Int),(0:Int)))).toArray:=⟨_,rfl⟩;rw[<-C]at s j;obtain⟨e,o⟩:∃e,e=(w.alloc (MP #[MG MH 0 0] 39)).alloc (MP Z 182):=⟨_,rfl⟩;rw[<-o]at s j;have p:e.heap[w.heap.size]?=MI (MP #[MG MH 0 0] 39 (0,0)):=by rw[o];exact Xy _ _ m
  have z:MQ w.heap.size w e:=by rw[o];exact((MY _ _).alloc (MV _) _).alloc (by simp) _
  have F:=Xu p;have G:e.frozen? ⟨w.heap.size,0,MH⟩=false:=by simp[Ng,p]
  have t:(e.setCell ⟨w.heap.size,0,MH⟩ (MG (MI ⟨w.heap.size+1,0,MH⟩) k k)).ownsRow w.heap.size 182 4 (MG (MI ⟨w.heap.size+1,0,MH⟩) k k) k (XF (Nj k (0,Nb,0,0))):=
   (W8 j (fun g hg=>MU _ _ _ _ (by have:=(j.lt g hg).1;simp;omega))).mono (by omega)
  have f:M6 (_/\_/\_/\_):=⟨ac6 (v:=MG (MI ⟨w.heap.size+1,0,MH⟩) k k) p,t,(show MQ w.heap.size w (e.setCell ⟨w.heap.size,0,MH⟩ (MG (MI ⟨w.heap.size+1,0,MH⟩) k k))from z.setCell (by simp) _),i⟩;clear p t z i j A C o m;go_enter WF,Ww;go_wp2;refine Np (v:=Nv #[Ny #[MG (MI ⟨w.heap.size+1,0,MH⟩) k k],MF ME 0]) (XT Tryz.results28 rfl rfl (Xp (P:=MK) (cs:=[MG (MI ⟨w.heap.size+1,0,MH⟩) k k]) f.out.1 Qu rfl (by kernel_rfl))) rfl ?_;rw[f.out.2.2.2];refine⟨MI ⟨w.heap.size+1,0,MH⟩,k,?_,?_,f.out.2.2.1⟩
  ·simp
  ·simpa using f.out.2.1
 ·have i:adI n=([],2):=by unfold adI;rw[Nf h]
  have f:M6 (_/\_):=⟨i,m⟩;have r:n<1\/(1<=n/\40<n):=by omega
  clear h i m;rcases r with r|⟨r,D⟩
  all_goals
   go_enter WF,Ww;go_wp2;refine Np (v:=Nv #[Ny #[MG MH 0 0],MF ME 2]) (XT Tryz.results28 rfl rfl (Xp (P:=MK) (cs:=[MG MH 0 0]) f.out.2 Qu rfl (by kernel_rfl))) rfl ?_;rw[f.out.1];exact⟨MH,0,rfl,NY _ _ _ _,YF w⟩
def Y8(l:List Sl)(key bk:Int):List Sl×Tm×Int :=
 if ¬Z6 l then([],(0,0),6)else if ¬(ac5 key/\aca bk)then([],(0,0),2)else
  match Yz aaU l with
  |none=>([],(0,0),9)
  |some k=>(l.set k ((l.getD k (0,Nb,0,0)).1,Nw,key,bk),((k:Int),(l.getD k (0,Nb,0,0)).1),0)
def anj(o:List Sl×Tm×Int)(w:MO)(r:Ending)(w':MO):Prop :=
 ∃p c,r=MN (Nv #[Ny #[MG p o.1.length c],Ny #[MF ME o.2.1.1,MF ME o.2.1.2],MF ME o.2.2])/\w'.ownsRow w.heap.size 182 4 (MG p o.1.length c) o.1.length (XF o.1)/\MQ w.heap.size w w'
theorem ai0{q:Sl->Bool}:∀ {l:List Sl} {k:Nat},Yz q l=MI k->∃h:k<l.length,q l[k]=Nw/\∀t∈l.take k,q t=Nb
 | [],k,h=>by simp[Yz]at h
 |t::l,k,h=>by
  unfold Yz at h
  by_cases hq:q t=Nw
  ·rw[Nh hq]at h
   injection h with h;subst h;exact⟨by simp,by simpa using hq,by simp⟩
  ·rw[Nf hq]at h
   cases hf:Yz q l with
   |none=>rw[hf]at h;cases h
   |some j =>
    rw[hf]at h;injection h with h;subst h;obtain⟨m,f,i⟩:=ai0 hf;refine⟨by simp;omega,by simpa using f,fun x e=>?_⟩;rw[PT]at e;rcases OO.1 e with rfl|e
    ·simpa using hq
    ·exact i x e
theorem afm{x:M7}(hR:w.heap[R]?=MI (MP #[a] T (0,0)))(hne:R≠H):(((w.setCell ⟨R,0,MH⟩ u).setCell ⟨H,0,MH⟩ x).setCell ⟨H,1,MH⟩ y).heap[R]?=MI (MP #[u] T (0,0)):=by
 rw[MU _ _ _ _ (by simpa using hne),MU _ _ _ _ (by simpa using hne)];exact ac6 hR
theorem afl{x:M7}{U:NU}(hH:w.heap[H]?=MI (MP #[b,c] U (0,0)))(hne:R≠H):(((w.setCell ⟨R,0,MH⟩ u).setCell ⟨H,0,MH⟩ x).setCell ⟨H,1,MH⟩ y).heap[H]?=MI (MP #[x,y] U (0,0)):=
 acb ((MU _ _ _ _ (by simpa using Pi hne)).trans hH)
theorem aiZ{x:M7}(h:MQ B w0 w)(hR:B<=R)(hH:B<=H):MQ B w0 (((w.setCell ⟨R,0,MH⟩ u).setCell ⟨H,0,MH⟩ x).setCell ⟨H,1,MH⟩ y):=
 ((h.setCell hR _).setCell hH _).setCell hH _
theorem auE{x:M7}{n:Nat}{xs:List M7}(h:w.ownsRow base 182 4 v n xs)(hR:R<base)(hH:H<base):(((w.setCell ⟨R,0,MH⟩ u).setCell ⟨H,0,MH⟩ x).setCell ⟨H,1,MH⟩ y).ownsRow base 182 4 v n xs :=
 QX (QX (QX h hR _) hH _) hH _
theorem auV(v:M7)(l:List Sl)(key bk:Int)(w:MO)(hv:Yy w v l) :
  Ni MK 122 #[Ny #[v],MF ME key,MF ME bk] w (anj (Y8 l key bk) w):=by
 obtain⟨p,c,rfl,hc,hm,J⟩:=hv.F6;unfold NE at hm;obtain⟨F,D⟩:∃F,F=((w.alloc (MP #[MG p l.length c] 39)).alloc (MP #[MG MH 0 0] 39)).alloc (MP #[MF ME 0,MF ME 0] 70):=⟨_,rfl⟩;have b6:MQ w.heap.size w F:=by rw[D];exact(((MY _ _).alloc (MV _) _).alloc (by simp) _).alloc (by simp;omega) _
 have b4:F.heap[w.heap.size]?=MI (MP #[MG p l.length c] 39 (0,0)):=by rw[D];exact Xy _ _ (Xy _ _ (M1 _ _))
 have a4:F.heap[w.heap.size+1]?=MI (MP #[MG MH 0 0] 39 (0,0)):=by rw[D];exact Xy _ _ (Yu _ _ _)
 have a5:F.heap[w.heap.size+1+1]?=MI (MP #[MF ME 0,MF ME 0] 70 (0,0)):=by rw[D];have:=M1 ((w.alloc (MP #[MG p l.length c] 39)).alloc (MP #[MG MH 0 0] 39)) (MP #[MF ME 0,MF ME 0] 70);simpa using this
 have b7:F.heap.size=w.heap.size+3:=by rw[D];simp
 have i:M6 (_/\_/\_/\_/\_/\_/\_):=⟨hv,b6,b4,a4,a5,b7,D⟩;clear hv b6 b4 a5 a4 b7 D;go_enter Vk,Vg
 go_wp2_with fail
 rw[<-i.out.2.2.2.2.2.2];refine(agO _ l _ (i.out.1.below i.out.2.1)).mono ?_;rintro r M ⟨rfl,z⟩;have a1:=WO i.out.2.2.1 z;have N:=WO i.out.2.2.2.1 z;have Z:=WO i.out.2.2.2.2.1 z;have t0:=Xu a1;have r0:=Xu N;have rf:M.frozen? ⟨w.heap.size+1,0,MH⟩=false:=by simp[Ng,N]
 obtain⟨h0,h1,a9,b3,_⟩:=Xa Z;have Y:=i.out.2.1.trans (z.mono i.out.2.1.size);have c9:w.heap.size+1+1<M.heap.size:=by have:=z.size;have:=i.out.2.2.2.2.2.1;omega
 have d1:w.heap.size<M.heap.size:=by omega
 have d5:w.heap.size+1<M.heap.size:=by omega
 have o:w.heap.size+1≠w.heap.size+1+1:=by omega
 have f:M6 (_/\_/\_/\_):=⟨a1,N,Z,Y⟩;have b0:∀e,Y8 l key bk=([],(0,0),e)->anj (Y8 l key bk) w (MN (Nv #[Ny #[MG MH 0 0],Ny #[MF ME 0,MF ME 0],MF ME e])) (((M.setCell ⟨w.heap.size+1,0,MH⟩ (MG MH 0 0)).setCell ⟨w.heap.size+1+1,0,MH⟩ (MF ME 0)).setCell ⟨w.heap.size+1+1,1,MH⟩ (MF ME 0)):=fun e he=>by
  rw[he];exact⟨MH,0,rfl,NY _ _ _ _,aiZ Y (by omega) (by omega)⟩
 have V:M6 _:=b0;clear b0 a1 N Z z Y
 by_cases hok:Z6 l
 ·rw[Nh hok]
  cases hkb:Nn (ac5 key)
  ·have s:M6 (Y8 l key bk=([],(0,0),2)):=by show Y8 l key bk=_;unfold Y8;rw[Nf (not_not_intro hok),Nh fun h=>Nc hkb h.1]
   clear J hok
   go_wp2_with fail
   refine(aen _ _).mono ?_;rw[hkb];rintro r K ⟨rfl,rfl⟩;go_wp2;exact Np (v:=Nv #[Ny #[MG MH 0 0],Ny #[MF ME 0,MF ME 0],MF ME 2]) (afp Vc rfl rfl rfl (Xp (P:=MK) (cs:=[MG MH 0 0]) (afm f.out.2.1 o) Qu rfl (by kernel_rfl)) (Xp (P:=MK) (cs:=[MF ME 0,MF ME 0]) (afl f.out.2.2.1 o) ay6 rfl (by kernel_rfl))) rfl (V.out _ s.out)
  cases hbb:Nn (aca bk)
  ·have s:M6 (Y8 l key bk=([],(0,0),2)):=by show Y8 l key bk=_;unfold Y8;rw[Nf (not_not_intro hok),Nh fun h=>Nc hbb h.2]
   clear J hok
   go_wp2_with fail
   refine(aen _ _).mono ?_;rw[hkb];rintro r K ⟨rfl,rfl⟩
   go_wp2_with fail
   refine(aem _ _).mono ?_;rw[hbb];rintro r K ⟨rfl,rfl⟩;go_wp2;exact Np (v:=Nv #[Ny #[MG MH 0 0],Ny #[MF ME 0,MF ME 0],MF ME 2]) (afp Vc rfl rfl rfl (Xp (P:=MK) (cs:=[MG MH 0 0]) (afm f.out.2.1 o) Qu rfl (by kernel_rfl)) (Xp (P:=MK) (cs:=[MF ME 0,MF ME 0]) (afl f.out.2.2.1 o) ay6 rfl (by kernel_rfl))) rfl (V.out _ s.out)
  have c5:=hok.1.2;have m:Y8 l key bk=match Yz aaU l with|none=>([],(0,0),9)|some k=>(l.set k ((l.getD k (0,Nb,0,0)).1,Nw,key,bk),((k:Int),(l.getD k (0,Nb,0,0)).1),0):=by
   unfold Y8;rw[Nf (not_not_intro hok),Nf (not_not_intro ⟨M2 hkb,M2 hbb⟩)]
  clear hok;cases hfd:Yz aaU l with
  |none =>
   rw[hfd]at m;have s:M6 _:=m;have L:Yn (Yz aaU l) = -1:=by rw[hfd];rfl
   have HI:M6 _:=L;clear L m J hfd
   go_wp2_with fail
   refine(aen _ _).mono ?_;rw[hkb];rintro r K ⟨rfl,rfl⟩
   go_wp2_with fail
   refine(aem _ _).mono ?_;rw[hbb];rintro r K ⟨rfl,rfl⟩
   go_wp2_with fail
   refine(anl _ l _ (i.out.1.below f.out.2.2.2)).mono ?_;rw[HI.out];rintro r G ⟨rfl,j⟩;have E:=WO f.out.2.1 j;have I:=WO f.out.2.2.1 j;have s0:=Xu E;have sf:G.frozen? ⟨w.heap.size+1,0,MH⟩=false:=by simp[Ng,E]
   obtain⟨u0,u1,d6,d3,_⟩:=Xa I;have C:=f.out.2.2.2.trans (j.mono f.out.2.2.2.size);have H3:M6 (_/\_/\_):=⟨E,I,C⟩;clear E I C j t0 r0 rf h0 h1 a9 b3;go_wp2;refine Np (v:=Nv #[Ny #[MG MH 0 0],Ny #[MF ME 0,MF ME 0],MF ME 9]) (afp Vc rfl rfl rfl (Xp (P:=MK) (cs:=[MG MH 0 0]) (afm H3.out.1 o) Qu rfl (by kernel_rfl)) (Xp (P:=MK) (cs:=[MF ME 0,MF ME 0]) (afl H3.out.2.1 o) ay6 rfl (by kernel_rfl))) rfl ?_;rw[s.out];exact⟨MH,0,rfl,NY _ _ _ _,aiZ H3.out.2.2 (by omega) (by omega)⟩
  |some k =>
   rw[hfd]at m;replace m:Y8 l key bk=(l.set k ((l.getD k (0,Nb,0,0)).1,Nw,key,bk),((k:Int),(l.getD k (0,Nb,0,0)).1),0):=m;obtain⟨hk,c7,_⟩:=ai0 hfd;have b8:l.getD k (0,Nb,0,0)=l[k]:=by
    rw[NK,MR hk];rfl
   rw[b8]at m;have L:Yn (Yz aaU l)=(k:Int):=by rw[hfd];rfl
   have HI:M6 _:=L;obtain⟨b1,o1,rfl,z,c1,_,_,_⟩:=J k hk;obtain⟨t,a7⟩:∃t,t=l[k].1:=⟨_,rfl⟩;rw[<-a7]at c1 m;have c6:M6 (∀W y,Yy W y l->Ni MK 173 #[Ny #[y],MF ME k,Ny #[MF ME t,M3 Nw,MF ME key,MF ME bk]] W fun r w'=>∃p c,r=MN (Ny #[MG p l.length c])/\w'.ownsRow W.heap.size 182 4 (MG p l.length c) l.length (XF (l.set k (t,Nw,key,bk)))/\MQ W.heap.size W w'):=fun W y hy=>ajc y l k t Nw key bk W hy hk c5
   have s:M6 _:=m;have d2:(k:Int)<(l.length:Int):=by omega
   clear L m J hfd b8 c7 a7
   go_wp2_with fail
   refine(aen _ _).mono ?_;rw[hkb];rintro r K ⟨rfl,rfl⟩
   go_wp2_with fail
   refine(aem _ _).mono ?_;rw[hbb];rintro r K ⟨rfl,rfl⟩
   go_wp2_with fail
   refine(anl _ l _ (i.out.1.below f.out.2.2.2)).mono ?_;rw[HI.out];rintro r G ⟨rfl,j⟩;have b2:=WO f.out.1 j;have E:=WO f.out.2.1 j;have I:=WO f.out.2.2.1 j;have C:=f.out.2.2.2.trans (j.mono f.out.2.2.2.size);have e1:=(C.cell (p:=⟨b1,o1+k*4,MH⟩) z).trans c1;have s0:=Xu b2;obtain⟨W4,a2⟩:∃W4,W4=G.alloc (MP #[MF ME t,M3 Nw,MF ME key,MF ME bk] 182):=⟨_,rfl⟩;have O:MQ G.heap.size G W4:=by rw[a2];exact YF G
   have a6:=WO E O;have b5:=WO I O;have a3:=C.trans (O.mono C.size);have m0:w.heap.size<G.heap.size:=by have:=j.size;omega
   have A:M6 (_/\_/\_/\_):=⟨a6,b5,a3,a2⟩;clear b2 E I C j t0 r0 rf h0 h1 a9 b3 O a6 b5 a3 a2 c1
   go_wp2_with fail
   rw[<-A.out.2.2.2];refine(c6.out _ _ (i.out.1.below A.out.2.2.1)).mono ?_;rintro r w5 ⟨q,d,rfl,a8,S⟩;have Q:=WO A.out.1 S;have a0:=WO A.out.2.1 S;have u0:=Xu Q;have uf:w5.frozen? ⟨w.heap.size+1,0,MH⟩=false:=by simp[Ng,Q]
   obtain⟨x0,x1,d7,d4,_⟩:=Xa a0;have c8:=(ZAa.1 A.out.2.1).1;have U:M6 (_/\_/\_/\_):=⟨Q,a0,auE (R:=w.heap.size+1) (H:=w.heap.size+1+1) (u:=MG q l.length d) (x:=MF ME (k:Int)) (y:=MF ME t) a8 (by omega) (by omega),A.out.2.2.1.trans (S.mono A.out.2.2.1.size)⟩;have b9:=A.out.2.2.1.size;clear Q a0 a8 S e1 s0;go_wp2;refine Np (v:=Nv #[Ny #[MG q l.length d],Ny #[MF ME (k:Int),MF ME t],MF ME 0]) (afp Vc rfl rfl rfl (Xp (P:=MK) (cs:=[MG q l.length d]) (afm U.out.1 o) Qu rfl (by kernel_rfl)) (Xp (P:=MK) (cs:=[MF ME (k:Int),MF ME t]) (afl U.out.2.1 o) ay6 rfl (by kernel_rfl))) rfl ?_;rw[s.out];refine⟨q,d,?_,?_,aiZ U.out.2.2.2 (by omega) (by omega)⟩
   ·simp
   ·simpa using U.out.2.2.1.mono b9
 ·rw[Nf hok]
  have s:M6 (Y8 l key bk=([],(0,0),6)):=by show Y8 l key bk=_;unfold Y8;rw[Nh hok]
  clear J;go_wp2;exact Np (v:=Nv #[Ny #[MG MH 0 0],Ny #[MF ME 0,MF ME 0],MF ME 6]) (afp Vc rfl rfl rfl (Xp (P:=MK) (cs:=[MG MH 0 0]) (afm f.out.2.1 o) Qu rfl (by kernel_rfl)) (Xp (P:=MK) (cs:=[MF ME 0,MF ME 0]) (afl f.out.2.2.1 o) ay6 rfl (by kernel_rfl))) rfl (V.out _ s.out)
theorem auU(h:Yt x):aaU x=(!x.2.1 && (x.1 != 1048576)):=by
 unfold aaU;have:=ajb h
 by_cases hu:x.2.1=Nw
 ·rw[M0 (this.2 hu),hu]
  rfl
 ·rw[Nq (PM fun hn=>hu (this.1 hn))]
  simp only[Qc]at hu;rw[hu];rfl
def aa6(bk:Int)(t:Sl):Bool:=t.2.1 && (t.2.2.2 == bk)
def afn(l:List Sl)(i:Nat):Tm:=((i:Int),(l.getD i (0,Nb,0,0)).1)
def YM(bk:Int)(l:List Sl)(k:Nat):List Tm:=((Pm k).filter fun i=>aa6 bk (l.getD i (0,Nb,0,0))).map (afn l)
def YL(bk:Int)(l:List Sl):List Tm:=YM bk l l.length
theorem auJ{bk:Int}(h:aa6 bk (l.getD k (0,Nb,0,0))=Nw):YM bk l (k+1)=YM bk l k++[afn l k]:=by
 unfold YM;rw[ZqB,OY,OI,List.filter_cons_of_pos (p:=fun i=>aa6 bk (l.getD i (0,Nb,0,0))) h,List.filter_nil];rfl
theorem auI{bk:Int}(h:aa6 bk (l.getD k (0,Nb,0,0))=Nb):YM bk l (k+1)=YM bk l k:=by
 unfold YM;rw[ZqB,OY,OI,List.filter_cons_of_neg (by rw[h];exact PE),List.filter_nil,P5,OG]
theorem auH(bk:Int)(l:List Sl)(k:Nat):(YM bk l k).length<=k:=by
 unfold YM;rw[N0];exact Nm (O1 ..) (by simp)
theorem auw{p:Option Oc}{c:Nat}{m:List Tm}(ho:w.ownsRow base 70 2 (MG p k c) k (WP m))(hb:base<=w.heap.size)(hk:k<=1000)(ty:NU)(x1 x2:Int):
  ∃p' c' w',(N2 #[56,56] ty #[MG p k c,MG (MI ⟨w.heap.size,0,MH⟩) 1 1]).run MK (w.alloc (MP #[MF ME x1,MF ME x2] 70))=.ok (MG p' (k+1) c') w' /\
   w'.ownsRow base 70 2 (MG p' (k+1) c') (k+1) (WP (m++[(x1,x2)]))/\MQ base w w':=by
 obtain⟨z,t,r,i,o⟩:=OF auL;have A:=acR w (WP [(x1,x2)]) 70;obtain⟨D,w',C,f,s,_⟩:=run_append_own (P:=MK) (w.alloc (MP #[MF ME x1,MF ME x2] 70)) base 56 ty 70 z _ 2 16 Tryz.underlying56 t r i o rfl (by decide) (MG p k c) k (WP m) (ho.alloc _) ⟨w.heap.size,0,MH⟩ 1 1 (WP [(x1,x2)]) rfl A (abJ _) (by unfold NE;omega) (by omega) (by simp;omega);rw[<-aa7]at f;obtain⟨p',c',rfl⟩:=Y6 f;refine⟨p',c',w',C,f,?_⟩;exact((MY _ _).alloc hb _).grown s (by simp;omega) (fun j e=>(ho.lt j e).1)
theorem auY(g:Int)(u:Bool)(k b bk:Int)(gc:Nat)(w:MO)(hcap:w.cell? ⟨gc,0,MH⟩=MI (MF ME bk))(hok:Yt (g,u,k,b)) :
  Ni MK 236 #[Ny #[MF ME g,M3 u,MF ME k,MF ME b],Na (MI ⟨gc,0,MH⟩)] w fun r w'=>r=MN (M3 (aa6 bk (g,u,k,b)))/\MQ w.heap.size w w':=by
 have t:aa6 bk (g,u,k,b)=(!Nn (ZX (g,u,k,b)) && (b == bk)):=by
  unfold aa6;have h:=ajb hok;cases u
  ·have s:ZX (g,Nb,k,b):=PM fun hn=>by have:=h.1 hn;cases this
   rw[Nq s];rfl
  ·have s:¬ZX (g,Nw,k,b):=h.2 rfl
   rw[M0 s];rfl
 obtain⟨z,m⟩:∃z,z=aa6 bk (g,u,k,b):=⟨_,rfl⟩;rw[<-m];rw[<-m]at t;have H:M6 _:=t;have F:=MX w _ hcap;obtain⟨f,i⟩:∃f,f=w.alloc (MP #[MF ME g,M3 u,MF ME k,MF ME b] 182):=⟨_,rfl⟩;have D:f.heap[w.heap.size]?=MI (MP #[MF ME g,M3 u,MF ME k,MF ME b] 182 (0,0)):=by rw[i];exact M1 _ _
 have o:MQ w.heap.size w f:=by rw[i];exact YF w
 have A:=(o.cell (p:=⟨gc,0,MH⟩) F).trans hcap;have e:M6 (_/\_/\_/\_):=⟨i,D,o,A⟩;clear m t i D o hok A;go_enter US,UF
 go_wp2_with fail
 rw[<-e.out.1];refine(afo g u k b _).mono ?_;generalize Nn (ZX (g,u,k,b))=fr at *;rintro r G ⟨rfl,j⟩;have C:=WO e.out.2.1 j;have c3:G.cell? ⟨w.heap.size,3,MH⟩=MI (MF ME b):=by simp[Nl,C]
 have I:=(j.cell (p:=⟨gc,0,MH⟩) (MX f _ e.out.2.2.2)).trans e.out.2.2.2;have E:M6 _:=e.out.2.2.1.trans (j.mono e.out.2.2.1.size);clear j C hcap;cases fr
 ·go_wp2
  go_ret;exact⟨by rw[H.out];rfl,E.out⟩
 ·go_wp2
  go_ret;exact⟨by rw[H.out];rfl,E.out⟩
theorem auZ(bk:Int)(w:MO):Ni MK 197 #[MF ME bk] w fun r w'=>r=MN (PB (PD 236) #[] #[Na (MI ⟨w.heap.size,0,MH⟩)])/\w'=w.alloc (MP #[MF ME bk] 3):=by
 go_enter Tryz.func197,Tryz.ntmps197;go_wp2;go_ret;exact⟨rfl,rfl⟩
theorem auG(v:M7)(l:List Sl)(bk:Int)(gc:Nat)(w:MO)(hv:Yy w v l)(hok:∀t∈l,Yt t)(hl:l.length<=40)(hcap:w.cell? ⟨gc,0,MH⟩=MI (MF ME bk)) :
  Ni MK 196 #[Ny #[v],PB (PD 236) #[] #[Na (MI ⟨gc,0,MH⟩)]] w fun r w'=>∃p c,r=MN (MG p (YL bk l).length c)/\w'.ownsRow w.heap.size 70 2 (MG p (YL bk l).length c) (YL bk l).length (WP (YL bk l))/\MQ w.heap.size w w':=by
 obtain⟨p,c,rfl,hc,hm,pa⟩:=hv.F6;unfold NE at hm;have a2:=MX w _ hcap;have Q:M6 (_/\_/\_/\_):=⟨pa,hok,hcap,a2⟩;clear hv pa hok hcap a2;go_enter Wz,Wl;go_wp2;obtain⟨W0,Z⟩:∃W0,W0=w.alloc (MP #[MG p l.length c] 39):=⟨_,rfl⟩;have a5:MQ w.heap.size w W0:=by rw[Z];exact YF w
 rw[<-Z];have a7:M6 _:=a5;clear Z a5
 go_loopw [5,11] (fun o i wr=>∃(k:Nat) (m:Option Oc) (s:Nat),i=MF ME k/\o=MG m (YM bk l k).length s/\k<=l.length/\wr.ownsRow w.heap.size 70 2 (MG m (YM bk l k).length s) (YM bk l k).length (WP (YM bk l k))/\MQ w.heap.size w wr) (fun _ i _=>l.length-(On i).toNat)
 case atStart=>exact⟨0,MH,0,rfl,rfl,Nx _,NY _ _ _ _,a7.out⟩
 case round =>
  obtain⟨k,m,s,rfl,rfl,hk,P,f⟩:=hrel
  by_cases hlt:k<l.length
  ·obtain⟨K,S,rfl,A,c1,c2,c3,c4⟩:=Q.out.1 k hlt
   replace c1:=(f.cell (p:=⟨K,S+k*4,MH⟩) A).trans c1;replace c2:=(f.cell (p:=⟨K,S+k*4+1,MH⟩) A).trans c2;replace c3:=(f.cell (p:=⟨K,S+k*4+2,MH⟩) A).trans c3;replace c4:=(f.cell (p:=⟨K,S+k*4+3,MH⟩) A).trans c4;have a8:K<wr.heap.size:=M8 A f.size;have I:l.getD k (0,Nb,0,0)=l[k]:=by simp[hlt]
   have V:=Q.out.2.1 l[k] (Nk hlt);obtain⟨⟨j,C,D,E⟩,hx⟩:∃x,x=l[k]:=⟨_,rfl⟩;rw[<-hx]at c1 c2 c3 c4 V I;have z:aa6 bk (j,C,D,E)=Nw->YM bk l (k+1)=YM bk l k++[((k:Int),j)]:=fun h=>by
    rw[auJ (by rw[I];exact h)];unfold afn;rw[I]
   have J:aa6 bk (j,C,D,E)=Nb->YM bk l (k+1)=YM bk l k:=fun h=>auI (by rw[I];exact h)
   obtain⟨L,G⟩:∃L,L=wr.alloc (MP #[MF ME j,M3 C,MF ME D,MF ME E] 182):=⟨_,rfl⟩;have a4:L.heap[wr.heap.size]?=MI (MP #[MF ME j,M3 C,MF ME D,MF ME E] 182 (0,0)):=by rw[G];exact M1 _ _
   have U:MQ w.heap.size w L:=by rw[G];exact f.alloc f.size _
   have a1:=(U.cell (p:=⟨gc,0,MH⟩) Q.out.2.2.2).trans Q.out.2.2.1;have a3:L.ownsRow w.heap.size 70 2 (MG m (YM bk l k).length s) (YM bk l k).length (WP (YM bk l k)):=by rw[G];exact P.alloc _
   have a6:=auH bk l k;have H:M6 (_/\_/\_/\_/\_/\_/\_/\_):=⟨z,J,G,a4,U,a1,a3,V⟩;clear z J G a4 U a1 a3 V P f hx I A;have b0:(k:Int)<(l.length:Int):=by omega
   go_wp2_with fail
   rw[<-H.out.2.2.1];refine(auY j C D E bk gc _ H.out.2.2.2.2.2.1 H.out.2.2.2.2.2.2.2).mono ?_;rintro r w2 ⟨rfl,N⟩;have a0:=WO H.out.2.2.2.1 N;have d0:w2.cell? ⟨wr.heap.size,0,MH⟩=MI (MF ME j):=by simp[Nl,a0]
   have a9:wr.heap.size<w2.heap.size:=(ZAa.1 a0).1;have M:=YI H.out.2.2.2.2.2.2.1 N;have F:=H.out.2.2.2.2.1.trans (N.mono H.out.2.2.2.2.1.size);clear N a0 c1 c2 c3 c4;cases hmine:aa6 bk (j,C,D,E)
   ·have J:=H.out.2.1 hmine
    have e:M6 (_/\_/\_):=⟨M,F,J⟩;clear M F J;go_wp2
    go_roundw
    case rel=>exact⟨k+1,m,s,by simp,by rw[e.out.2.2],hlt,by rw[e.out.2.2];exact e.out.1,e.out.2.1⟩
    case measure=>simp[On];omega
   ·have z:=H.out.1 hmine
    have Y:(YM bk l (k+1)).length=(YM bk l k).length+1:=by rw[z];simp
    obtain⟨q,d,w3,hr,O,z1⟩:=auw M F.size (by omega) 56 (k:Int) j;rw[<-z]at O;obtain⟨n,hn⟩:∃n,n=(YM bk l k).length:=⟨_,rfl⟩;rw[<-hn]at hr O Y⊢;have e:M6 (_/\_/\_/\_):=⟨hr,O,F.trans z1,Y⟩;clear hr O z1 Y z M F hn a6
    go_wp2_with (at_builtin;(with_reducible refine Z4 rfl _ _ 56 rfl (MG m n s) (MG (MI ⟨w2.heap.size,0,MH⟩) 1 1) (MG q (n+1) d) w3 ?hs ?hx ?hr ?_);(case hs=>rfl);(case hx=>rfl);(case hr=>exact e.out.1))
    go_roundw
    case rel=>exact⟨k+1,q,d,by simp,by rw[e.out.2.2.2],hlt,by rw[e.out.2.2.2];exact e.out.2.1,e.out.2.2.1⟩
    case measure=>simp[On];omega
  ·obtain rfl:k=l.length:=by omega
   have e:M6 (_/\_):=⟨P,f⟩;clear P f;go_wp2;go_ret;exact⟨m,s,rfl,e.out.1,e.out.2⟩
def aeo(l:List Sl)(bk:Int):List Tm×Int:=if Z6 l then(YL bk l,0)else([],6)
def auv(o:List Tm×Int)(w:MO)(r:Ending)(w':MO):Prop :=
 ∃p c,r=MN (Nv #[MG p o.1.length c,MF ME o.2])/\w'.ownsRow w.heap.size 70 2 (MG p o.1.length c) o.1.length (WP o.1)/\MQ w.heap.size w w'
theorem auS(v:M7)(l:List Sl)(bk:Int)(w:MO)(hv:Yy w v l) :
  Ni MK 150 #[Ny #[v],MF ME bk] w (auv (aeo l bk) w):=by
 obtain⟨p,c,rfl,hc,hm,_⟩:=hv.F6;unfold NE at hm;obtain⟨F,C⟩:∃F,F=w.alloc (MP #[MG p l.length c] 39):=⟨_,rfl⟩;have P:MQ w.heap.size w F:=by rw[C];exact YF w
 have O:F.heap[w.heap.size]?=MI (MP #[MG p l.length c] 39 (0,0)):=by rw[C];exact M1 _ _
 have m:M6 (_/\_/\_/\_):=⟨hv,P,O,C⟩;clear hv P O C;go_enter Uf,T5
 go_wp2_with fail
 rw[<-m.out.2.2.2];refine(agO _ l _ (m.out.1.below m.out.2.1)).mono ?_;rintro r f ⟨rfl,z⟩;have D:=WO m.out.2.2.1 z;have t0:=Xu D;have V:w.heap.size<f.heap.size:=(ZAa.1 D).1;have E:=m.out.2.1.trans (z.mono m.out.2.1.size)
 by_cases hok:Z6 l
 ·have t:aeo l bk=(YL bk l,0):=by unfold aeo;rw[Nh hok]
  rw[Nh hok];have J:M6 _:=t;have U:∀W,MQ f.heap.size f W->Ni MK 197 #[MF ME bk] W fun r i=>∃j,r=MN (PB (PD 236) #[] #[Na (MI ⟨j,0,MH⟩)])/\M6 (i.cell? ⟨j,0,MH⟩=MI (MF ME bk)/\MQ f.heap.size f i)/\i.cell? ⟨w.heap.size,0,MH⟩=MI (MG p l.length c)/\(∀n,n<W.heap.size->n<i.heap.size)/\(∀b o,b<W.heap.size->i.cell? ⟨b,o,MH⟩=W.cell? ⟨b,o,MH⟩)/\(∀b o,b<W.heap.size->i.frozen? ⟨b,o,MH⟩=W.frozen? ⟨b,o,MH⟩):=fun W hW=>by
   refine(auZ bk W).mono ?_;rintro r i ⟨rfl,rfl⟩;have I:MQ W.heap.size W (W.alloc (MP #[MF ME bk] 3)):=YF W;have N:=hW.trans (I.mono hW.size);exact⟨_,rfl,⟨Xu (M1 W _),N⟩,(N.cell (p:=⟨w.heap.size,0,MH⟩) V).trans t0,(fun n hn=>M8 hn I.size),(ank I).1,(ank I).2⟩
  have Q:∀W wt j,M6 (wt.cell? ⟨j,0,MH⟩=MI (MF ME bk)/\MQ f.heap.size f wt)->MQ wt.heap.size wt W->Ni MK 196 #[Ny #[MG p l.length c],PB (PD 236) #[] #[Na (MI ⟨j,0,MH⟩)]] W fun r i=>∃q d,r=MN (MG q (YL bk l).length d)/\M6 (i.ownsRow f.heap.size 70 2 (MG q (YL bk l).length d) (YL bk l).length (WP (YL bk l))/\MQ f.heap.size f i):=fun W wt j hy hw=>by
   have G:=hy.out.2.trans (hw.mono hy.out.2.size);refine(auG _ l bk j W (((m.out.1.below m.out.2.1).below z).below G) hok.2 hok.1.2 ((hw.cell (p:=⟨j,0,MH⟩) (MX wt _ hy.out.1)).trans hy.out.1)).mono ?_;rintro r i ⟨q,d,rfl,h1,Z⟩;exact⟨q,d,rfl,h1.mono G.size,G.trans (Z.mono G.size)⟩
  have A:M6 (_/\_/\_):=⟨U,Q,E⟩;clear U Q E z t D hok;go_wp2
  go_cut [4,5]from 12 to 15 (fun s e wx=>∃q d,s=MG q (YL bk l).length d/\e=MF ME 0/\wx.ownsRow f.heap.size 70 2 (MG q (YL bk l).length d) (YL bk l).length (WP (YL bk l))/\MQ f.heap.size f wx)
  case first =>
   go_region_with (first|(go_at_call 197;refine(A.out.1 _ ?hbW).mono ?_;(case hbW=>first|exact(MY _ _).drew|exact Below.refl _ _);rintro r w4 ⟨j,rfl,Y,k4,a1,a2,a0⟩)|(go_at_call 196;refine(A.out.2.1 _ w4 j Y ?hbW).mono ?_;(case hbW=>exact MY _ _);rintro r w5 ⟨q,d,rfl,M⟩))
   all_goals
    go_wp2_with fail
    go_meet
    exact⟨q,d,rfl,rfl,M.out.1,M.out.2⟩
  case rest =>
  obtain⟨q,d,rfl,rfl,K,L⟩:=hcut;have S:M6 (_/\_):=⟨K,L⟩;clear K L;go_wp2
  go_ret2
  rw[J.out];exact⟨q,d,rfl,S.out.1.mono A.out.2.2.size,A.out.2.2.trans (S.out.2.mono A.out.2.2.size)⟩
 ·have t:aeo l bk=([],6):=by unfold aeo;rw[Nf hok]
  rw[Nf hok];have J:M6 _:=t;have HB:M6 _:=E;clear E z D t hok;go_wp2
  go_ret2
  rw[J.out];exact⟨MH,0,rfl,NY _ _ _ _,HB.out⟩
theorem aja{T:List Sl}{s:Nat}(h:Z6 T)(hx:Yt x):Z6 (T.set s x):=by
 refine⟨by simpa using h.1,fun t ht=>?_⟩;rcases OB ht with e|e
 ·exact h.2 t e
 ·rw[e];exact hx
end
section
variable {o:Bool}{d f n t u:Int}{l:List Bool}{xs:List M7}{a b c v:M7}{W w w':MO}{T:NU}{base g k:Nat}
def Yi(l:List Bool):List Value:=l.map fun x=>M3 x
theorem age(l:List Bool):(Yi l).length=l.length:=by simp[Yi]
theorem arz(l:List Bool)(i:Nat)(h:i<l.length):(Yi l)[i]?=MI (M3 l[i]):=by simp[Yi,h]
def Yo(w:MO)(v:M7)(l:List Bool):Prop:=XB w v l.length (Yi l)
theorem Yo.below(h:Yo w v l)(hb:MQ w.heap.size w w'):Yo w' v l:=XB.below h hb
theorem Yo.F6(h:Yo w v l):
  ∃a cap,v=MG a l.length cap/\l.length<=cap/\cap<=NE/\∀i (hi:i<l.length),∃b off,a=MI ⟨b,off,MH⟩/\b<w.heap.size/\w.cell? ⟨b,off+i,MH⟩=MI (M3 l[i]):=by
 obtain⟨a,cap,p,j,e,m|⟨b,off,m,r,q⟩⟩:=h
 ·exact⟨a,cap,p,j,e,fun i hi=>absurd hi (by omega)⟩
 ·exact⟨a,cap,p,j,e,fun i hi=>⟨b,off,m,r,by rw[q i (by rw[age];omega)];exact arz l i hi⟩⟩
theorem ary(a b:List Bool):Yi (a++b)=Yi a++Yi b:=by simp[Yi]
theorem arA(l:List Bool):∀u∈Yi l,u.oneCell'=true:=by
 intro u e;obtain⟨x,_,rfl⟩:=ZAd.1 e;rfl
theorem alI:(MK.info? 4).map (fun i=>(i.zero,i.size,i.bytes))=MI (MI (M3 Nb),1,1):=by kernel_rfl
theorem acQ(h:w.ownsRow base 4 1 v l.length (Yi l)):Yo w v l:=Yr h
theorem ah2(w:MO):Yo w (MG MH 0 0) []:=Z3 w
theorem Yo.Ga(h:Yo w v l):∃p c,v=MG p l.length c:=by
 obtain⟨p,c,rfl,_⟩:=h;exact⟨p,c,rfl⟩
abbrev ZT(n f d:Int):Prop:=(1<=n/\n<=16)/\(1<=f/\f<=n)/\(1<=d/\d<=500)
def abz(n f d:Int):Int:=if ZT n f d then 0 else 2
abbrev ZO(n:Int)(k:Nat)(o:Bool)(u t:Int):Prop:=(k:Int)<=n/\(0<=t/\t<=10)/\(0<=u/\u<=1099511628276)/\(o=Nw\/u=0)
def YR(n f d:Int)(k:Nat)(o:Bool)(u t now:Int):Int :=
 if ZT n f d then(if 0<=now/\now<=1099511627776 then(if ZO n k o u t then 0 else 6)else 2)else 2
theorem arL(h:ZT n f d):abz n f d=0:=Nh h
theorem arK(h:¬ZT n f d):abz n f d=2:=Nf h
theorem alA(n f d:Int)(k:Nat)(o:Bool)(u t now:Int):(YR n f d k o u t now=2/\(¬ZT n f d\/¬(0<=now/\now<=1099511627776)))\/(YR n f d k o u t now=6/\ZT n f d/\(0<=now/\now<=1099511627776)/\¬ZO n k o u t)\/(YR n f d k o u t now=0/\ZT n f d/\(0<=now/\now<=1099511627776)/\ZO n k o u t):=by
 unfold YR
 by_cases h:ZT n f d
 ·rw[Nh h]
  by_cases h2:0<=now/\now<=1099511627776
  ·rw[Nh h2]
   by_cases h3:ZO n k o u t
   ·rw[Nh h3];exact NF (NF ⟨rfl,h,h2,h3⟩)
   ·rw[Nf h3];exact NF (Nt ⟨rfl,h,h2,h3⟩)
  ·rw[Nf h2];exact Nt ⟨rfl,NF h2⟩
 ·rw[Nf h];exact Nt ⟨rfl,Nt h⟩
abbrev Y5(v:M7)(o:Bool)(u t:Int):Value:=Ny #[v,M3 o,MF ME u,MF ME t]
theorem YB(n lo hi:Int)(w:MO):Ni MK 64 #[MF ME n,MF ME lo,MF ME hi] w fun r w'=>r=MN (M3 (Nn (lo<=n/\n<=hi)))/\w'=w:=by
 obtain⟨i,e⟩:∃i,i=Nn (lo<=n/\n<=hi):=⟨_,rfl⟩;rw[<-e];have H:M6 _:=e;clear e;cases h1:Nn (lo<=n)
 ·go_enter Wa,VN
  go_wp2;go_ret;exact⟨by rw[H.out,M0 (fun h=>Nc h1 h.1)];rfl,rfl⟩
 ·cases h2:Nn (n<=hi)
  ·go_enter Wa,VN
   go_wp2;go_ret;exact⟨by rw[H.out,M0 (fun h=>Nc h2 h.2)];rfl,rfl⟩
  ·go_enter Wa,VN
   go_wp2;go_ret;exact⟨by rw[H.out,Nq ⟨M2 h1,M2 h2⟩];rfl,rfl⟩
theorem ah3(n f d:Int)(w:MO):Ni MK 52 #[acS n f d] w fun r w'=>r=MN (MF ME (abz n f d))/\MQ w.heap.size w w':=by
 obtain⟨j,i⟩:∃j,j=w.alloc (MP #[MF ME n,MF ME f,MF ME d] 33):=⟨_,rfl⟩;have m:j.heap[w.heap.size]?=MI (MP #[MF ME n,MF ME f,MF ME d] 33 (0,0)):=by rw[i];exact M1 _ _
 have p:MQ w.heap.size w j:=by rw[i];exact WQ _
 obtain⟨c0,c1,c2,_⟩:=aeD m;have H:M6 (_/\_):=⟨i,p⟩;clear i p m;cases h1:Nn (1<=n/\n<=16)
 ·have E:M6 (abz n f d=2):=Nf fun h=>Nc h1 h.1
  go_enter azy,azs
  go_wp2_with fail
  rw[<-H.out.1];refine(YB _ _ _ _).mono ?_;rintro e w' ⟨rfl,rfl⟩;rw[h1];go_wp2;go_ret;exact⟨by rw[E.out];rfl,H.out.2⟩
 cases h2:Nn (1<=f/\f<=n)
 ·have E:M6 (abz n f d=2):=Nf fun h=>Nc h2 h.2.1
  go_enter azy,azs
  go_wp2_with fail
  rw[<-H.out.1];refine(YB _ _ _ _).mono ?_;rintro e w' ⟨rfl,rfl⟩;rw[h1]
  go_wp2_with fail
  refine(YB _ _ _ _).mono ?_;rintro e w' ⟨rfl,rfl⟩;rw[h2];go_wp2;go_ret;exact⟨by rw[E.out];rfl,H.out.2⟩
 cases h3:Nn (1<=d/\d<=500)
 ·have E:M6 (abz n f d=2):=Nf fun h=>Nc h3 h.2.2
  go_enter azy,azs
  go_wp2_with fail
  rw[<-H.out.1];refine(YB _ _ _ _).mono ?_;rintro e w' ⟨rfl,rfl⟩;rw[h1]
  go_wp2_with fail
  refine(YB _ _ _ _).mono ?_;rintro e w' ⟨rfl,rfl⟩;rw[h2]
  go_wp2_with fail
  refine(YB _ _ _ _).mono ?_;rintro e w' ⟨rfl,rfl⟩;rw[h3];go_wp2;go_ret;exact⟨by rw[E.out];rfl,H.out.2⟩
 ·have E:M6 (abz n f d=0):=Nh ⟨M2 h1,M2 h2,M2 h3⟩
  go_enter azy,azs
  go_wp2_with fail
  rw[<-H.out.1];refine(YB _ _ _ _).mono ?_;rintro e w' ⟨rfl,rfl⟩;rw[h1]
  go_wp2_with fail
  refine(YB _ _ _ _).mono ?_;rintro e w' ⟨rfl,rfl⟩;rw[h2]
  go_wp2_with fail
  refine(YB _ _ _ _).mono ?_;rintro e w' ⟨rfl,rfl⟩;rw[h3];go_wp2;go_ret;exact⟨by rw[E.out];rfl,H.out.2⟩
theorem alF{d:M7}(h:w.heap[g]?=MI (MP #[a,b,c,d] T (0,0))):w.cell? ⟨g,0,MH⟩=MI a/\w.cell? ⟨g,1,MH⟩=MI b/\w.cell? ⟨g,2,MH⟩=MI c/\w.cell? ⟨g,3,MH⟩=MI d/\g<w.heap.size :=
 ⟨by simp[Nl,h],by simp[Nl,h],by simp[Nl,h],by simp[Nl,h],(ZAa.1 h).1⟩
theorem alG{d:M7}(h:w.heap[g]?=MI (MP #[a,b,c,d] T (0,0))):w.frozen? ⟨g,0,MH⟩=Nb/\w.frozen? ⟨g,1,MH⟩=Nb/\w.frozen? ⟨g,2,MH⟩=Nb/\w.frozen? ⟨g,3,MH⟩=false :=
 ⟨by simp[Ng,h],by simp[Ng,h],by simp[Ng,h],by simp[Ng,h]⟩
def Hx(w W:MO)(n f d:Int)(v:M7)(o:Bool)(u t:Int):Prop :=
 W.heap[w.heap.size]?=MI (MP #[MF ME n,MF ME f,MF ME d] 33 (0,0))/\W.heap[w.heap.size+1]?=MI (MP #[v,M3 o,MF ME u,MF ME t] 195 (0,0))/\MQ w.heap.size w W
theorem ah4(w:MO)(n f d:Int)(v:M7)(o:Bool)(u t:Int):Hx w ((w.alloc (MP #[MF ME n,MF ME f,MF ME d] 33)).alloc (MP #[v,M3 o,MF ME u,MF ME t] 195)) n f d v o u t :=
 ⟨Xy _ _ (M1 _ _),Yu _ _ _,((MY _ _).alloc (MV _) _).alloc (by simp) _⟩
theorem Hx.below{W':MO}(h:Hx w W n f d v o u t)(hb:MQ W.heap.size W W'):Hx w W' n f d v o u t :=
 ⟨WO h.1 hb,WO h.2.1 hb,h.2.2.trans (hb.mono h.2.2.size)⟩
theorem Hx.Gg(h:Hx w W n f d v o u t):W.cell? ⟨w.heap.size,0,MH⟩=MI (MF ME n)/\W.cell? ⟨w.heap.size,1,MH⟩=MI (MF ME f)/\W.cell? ⟨w.heap.size,2,MH⟩=MI (MF ME d)/\W.cell? ⟨w.heap.size+1,0,MH⟩=MI v/\W.cell? ⟨w.heap.size+1,1,MH⟩=MI (M3 o)/\W.cell? ⟨w.heap.size+1,2,MH⟩=MI (MF ME u)/\W.cell? ⟨w.heap.size+1,3,MH⟩=MI (MF ME t):=by
 obtain⟨c0,c1,c2,_⟩:=aeD h.1;obtain⟨c3,c4,c5,c6,_⟩:=alF h.2.1;exact⟨c0,c1,c2,c3,c4,c5,c6⟩
theorem alK(n f d:Int)(p:Option Oc)(k c:Nat)(o:Bool)(u t:Int)(w:MO)(hn:n<=16):Ni MK 200 #[acS n f d,Y5 (MG p k c) o u t] w fun r w'=>r=MN (M3 (Nn (ZO n k o u t)))/\MQ w.heap.size w w':=by
 obtain⟨i,j⟩:∃i,i=(w.alloc (MP #[MF ME n,MF ME f,MF ME d] 33)).alloc (MP #[MG p k c,M3 o,MF ME u,MF ME t] 195):=⟨_,rfl⟩;have m:Hx w i n f d (MG p k c) o u t:=by rw[j];exact ah4 _ _ _ _ _ _ _ _
 obtain⟨c0,c1,c2,c3,c4,c5,c6⟩:=m.Gg;have H:M6 (_/\MQ w.heap.size w i):=⟨j,m.2.2⟩;clear j m;cases h1:Nn ((k:Int)<=n)
 ·have E:M6 (Nn (ZO n k o u t)=Nb):=M0 fun h=>Nc h1 h.1
  go_enter SU,Sx
  go_wp2_with fail
  rw[<-H.out.1];go_wp2;go_ret;exact⟨by rw[E.out];rfl,H.out.2⟩
 cases h2:Nn (0<=t/\t<=10)
 ·have E:M6 (Nn (ZO n k o u t)=Nb):=M0 fun h=>Nc h2 h.2.1
  go_enter SU,Sx
  go_wp2_with fail
  rw[<-H.out.1];refine(YB _ _ _ _).mono ?_;rintro e w' ⟨rfl,rfl⟩;rw[h2];go_wp2;go_ret;exact⟨by rw[E.out];rfl,H.out.2⟩
 cases h3:Nn (0<=u/\u<=1099511628276)
 ·have E:M6 (Nn (ZO n k o u t)=Nb):=M0 fun h=>Nc h3 h.2.2.1
  go_enter SU,Sx
  go_wp2_with fail
  rw[<-H.out.1];refine(YB _ _ _ _).mono ?_;rintro e w' ⟨rfl,rfl⟩;rw[h2]
  go_wp2_with fail
  refine(YB _ _ _ _).mono ?_;rintro e w' ⟨rfl,rfl⟩;rw[h3];go_wp2;go_ret;exact⟨by rw[E.out];rfl,H.out.2⟩
 cases o
 ·have E:M6 (Nn (ZO n k Nb u t)=(u == 0)):=Bool.eq_iff_iff.2 ⟨fun h=>by simpa using(M2 h).2.2.2.resolve_left (by decide),fun h=>Nq ⟨M2 h1,M2 h2,M2 h3,NF (by simpa using h)⟩⟩
  go_enter SU,Sx
  go_wp2_with fail
  rw[<-H.out.1];refine(YB _ _ _ _).mono ?_;rintro e w' ⟨rfl,rfl⟩;rw[h2]
  go_wp2_with fail
  refine(YB _ _ _ _).mono ?_;rintro e w' ⟨rfl,rfl⟩;rw[h3];go_wp2;go_ret;exact⟨by rw[E.out];rfl,H.out.2⟩
 ·have E:M6 (Nn (ZO n k Nw u t)=Nw):=Nq ⟨M2 h1,M2 h2,M2 h3,Nt rfl⟩
  go_enter SU,Sx
  go_wp2_with fail
  rw[<-H.out.1];refine(YB _ _ _ _).mono ?_;rintro e w' ⟨rfl,rfl⟩;rw[h2]
  go_wp2_with fail
  refine(YB _ _ _ _).mono ?_;rintro e w' ⟨rfl,rfl⟩;rw[h3];go_wp2;go_ret;exact⟨by rw[E.out];rfl,H.out.2⟩
theorem alC(n f d:Int)(p:Option Oc)(k c:Nat)(o:Bool)(u t now:Int)(w:MO):Ni MK 153 #[acS n f d,Y5 (MG p k c) o u t,MF ME now] w fun r w'=>r=MN (MF ME (YR n f d k o u t now))/\MQ w.heap.size w w':=by
 obtain⟨x,m⟩:∃x,x=(w.alloc (MP #[MF ME n,MF ME f,MF ME d] 33)).alloc (MP #[MG p k c,M3 o,MF ME u,MF ME t] 195):=⟨_,rfl⟩;have q:Hx w x n f d (MG p k c) o u t:=by rw[m];exact ah4 _ _ _ _ _ _ _ _
 obtain⟨c0,c1,c2,c3,c4,c5,c6⟩:=q.Gg;have H:M6 (_/\Hx _ _ _ _ _ _ _ _ _):=⟨m,q⟩;clear m q;go_enter Tryz.func153,Tryz.ntmps153
 go_wp2_with fail
 rw[<-H.out.1];refine(ah3 n f d _).mono ?_;rintro r D ⟨rfl,A⟩;have s:=H.out.2.below A;clear c0 c1 c2 c3 c4 c5 c6 A H;obtain⟨c0,c1,c2,c3,c4,c5,c6⟩:=s.Gg;have i:M6 (Hx _ _ _ _ _ _ _ _ _):=s;clear s
 by_cases hok:ZT n f d
 ·rw[arL hok]
  have B:=hok.1.2;cases h2:Nn (0<=now/\now<=1099511627776)
  ·have E:M6 (YR n f d k o u t now=2):=(by unfold YR;rw[Nh hok,Nf (Nc h2)]:YR n f d k o u t now=2)
   clear hok
   go_wp2_with fail
   refine(YB _ _ _ _).mono ?_;rintro e w' ⟨rfl,rfl⟩;rw[h2];go_wp2;go_ret;exact⟨by rw[E.out];rfl,i.out.2.2⟩
  cases h3:Nn (ZO n k o u t)
  ·have E:M6 (YR n f d k o u t now=6):=(by unfold YR;rw[Nh hok,Nh (M2 h2),Nf (Nc h3)]:YR n f d k o u t now=6)
   have y:M6 _:=h3;clear hok h3
   go_wp2_with fail
   refine(YB _ _ _ _).mono ?_;rintro e w' ⟨rfl,rfl⟩;rw[h2]
   go_wp2_with fail
   refine(alK n f d p k c o u t _ B).mono ?_;rintro r C ⟨rfl,j⟩;rw[y.out];have z:M6 _:=i.out.2.2.trans (j.mono i.out.2.2.size);clear j c0 c1 c2 c3 c4 c5 c6;go_wp2;go_ret;exact⟨by rw[E.out];rfl,z.out⟩
  ·have E:M6 (YR n f d k o u t now=0):=(by unfold YR;rw[Nh hok,Nh (M2 h2),Nh (M2 h3)]:YR n f d k o u t now=0)
   have y:M6 _:=h3;clear hok h3
   go_wp2_with fail
   refine(YB _ _ _ _).mono ?_;rintro e w' ⟨rfl,rfl⟩;rw[h2]
   go_wp2_with fail
   refine(alK n f d p k c o u t _ B).mono ?_;rintro r C ⟨rfl,j⟩;rw[y.out];have z:M6 _:=i.out.2.2.trans (j.mono i.out.2.2.size);clear j c0 c1 c2 c3 c4 c5 c6;go_wp2;go_ret;exact⟨by rw[E.out];rfl,z.out⟩
 ·rw[arK hok]
  have E:M6 (YR n f d k o u t now=2):=Nf hok;clear hok;go_wp2;go_ret;exact⟨by rw[E.out];rfl,i.out.2.2⟩
theorem ah1{p:Option Oc}{c:Nat}{m:List Bool}(ho:w.ownsRow base 4 1 (MG p k c) k (Yi m))(hb:base<=w.heap.size)(hk:k<=1000)(ty:NU)(u:M7)(hu:Yo w u l)(hl:l.length<=1000):
  ∃p' c' w',(N2 #[75,75] ty #[MG p k c,u]).run MK w=.ok (MG p' (k+l.length) c') w' /\
   w'.ownsRow base 4 1 (MG p' (k+l.length) c') (k+l.length) (Yi (m++l))/\MQ base w w':=by
 obtain⟨y,z,B,C,D⟩:=OF alI;obtain⟨a,q,rfl,M,L,h⟩:=hu
 by_cases h0:l.length=0
 ·obtain rfl:l=[]:=ZAc.1 h0
  rw[OG];have s:k<=c/\c<=maxLen:=by
   rcases ho.2 with⟨r,N⟩|⟨g,q,K,r,_,_,E,G,_⟩
   ·cases r;exact⟨MV _,by unfold NE;omega⟩
   ·cases r;exact⟨E,G⟩
  exact⟨p,c,w,aeY w _ ty _ y ax0 z p k c s.1 s.2 a q,ho,MY _ _⟩
 ·rcases h with⟨h,_⟩|⟨b,off,rfl,J,A⟩
  ·exact absurd h h0
  ·obtain⟨v',w',I,i,F,_⟩:=run_append_own (P:=MK) w base 75 ty 4 y _ 1 1 ax0 z B C D rfl (by decide) (MG p k c) k (Yi m) ho ⟨b,off,MH⟩ l.length q (Yi l) (by rw[age];omega) (fun j x hx=>by
    have H:=(ZAb.1 hx).1;rw[aas,A j H,hx]) (arA l) (by unfold NE;omega) (by omega) hb
   rw[<-ary]at i;obtain⟨p',c',rfl⟩:=Y6 i;exact⟨p',c',w',I,i,(MY _ _).grown F hb (fun j e=>(ho.lt j e).1)⟩
theorem alD(v:M7)(l:List Bool)(w:MO)(hv:Yo w v l)(hl:l.length<=1000) :
  Ni MK 77 #[v] w fun r w'=>∃p c,r=MN (MG p l.length c)/\w'.ownsRow w.heap.size 4 1 (MG p l.length c) l.length (Yi l)/\MQ w.heap.size w w':=by
 obtain⟨p,c,rfl⟩:=hv.Ga;cases p with
 |none =>
  obtain rfl:l=[]:=by
   obtain⟨a,B,x,_,_,h|⟨b,off,rfl,_⟩⟩:=hv
   ·exact ZAc.1 h.1
   ·cases x
  clear hv;have s:∀W,(binOp .eql 75 (MG MH 0 c) (MG MH 0 0)).run MK W=.ok (M3 Nw) W:=fun W=>by kernel_rfl
  go_enter Tryz.func77,Tryz.ntmps77;go_wp2;go_ret;exact⟨MH,0,rfl,NY _ _ _ _,MY _ _⟩
 |some q =>
  have s:∀W,(binOp .eql 75 (MG (MI q) l.length c) (MG MH 0 0)).run MK W=.ok (M3 Nb) W:=fun W=>by kernel_rfl
  have j:(w.alloc (MP #[] 4)).ownsRow w.heap.size 4 1 (MG (MI ⟨w.heap.size,0,MH⟩) 0 0) 0 (Yi []):=
   ⟨rfl,NF ⟨w.heap.size,0,#[],rfl,MV _,M1 _ _,MV _,Nx _,rfl,rfl⟩⟩
  obtain⟨y,A,z,hr,i,m⟩:=ah1 j (by simp) (by omega) 75 _ (hv.below (WQ w)) hl;rw[Oa,Oz]at i;rw[Oa]at hr;have e:M6 (_/\_/\_):=⟨hr,(WQ w).trans m,i⟩;clear hr m i hv j;go_enter Tryz.func77,Tryz.ntmps77
  go_wp2_with (at_builtin;(with_reducible refine Z4 rfl _ _ 75 rfl (MG (MI ⟨w.heap.size,0,MH⟩) 0 0) (MG (MI q) l.length c) (MG y l.length A) z ?hs ?hx ?hr ?_);(case hs=>rfl);(case hx=>rfl);(case hr=>exact e.out.1))
  go_wp2;go_ret;exact⟨_,_,rfl,e.out.2.2,e.out.2.1⟩
theorem arG(n:Nat)(w:MO)(h0:0<n)(hn:n<=1000) :
  Ni MK 256 #[MG MH 0 0,MF ME n] w fun r w'=>∃g c,r=MN (MG (MI ⟨g,0,MH⟩) 0 c)/\w'.ownsRow w.heap.size 4 1 (MG (MI ⟨g,0,MH⟩) 0 c) 0 (Yi [])/\MQ w.heap.size w w':=by
 obtain⟨B,C,y,D,m⟩:=OF alI;have p:∀ty,(N2 #[75,3] ty #[MG MH 0 0,MF ME n]).run MK w=.ok (MG (MI ⟨w.heap.size,0,MH⟩) n (QR w n 0 4)) (w.drew.alloc (MP (([]:List M7).toArray++N5 (M3 Nb).cells n++N5 (M3 Nb).cells (QR w n 0 4-n)) 4)):=fun ty=>by
  have h:=Lib.run_append_grow_zeros (P:=MK) w 75 3 ty 4 B (M3 Nb) ME ME ax0 Ol C y MH 0 0 [] (run_firstCells_none w.drew B.size 0 0 0) n h0 (by omega) (by omega) (by omega) (by rw[m];omega) (growslice_fits (by omega) (by rw[m];omega))
  simpa using h
 have E:=grownCap_ge w n 0 4;have j:=grownCap_le_maxLen w n 0 4 (by unfold NE;omega);obtain⟨G,x⟩:∃G,G=QR w n 0 4:=⟨_,rfl⟩;rw[<-x]at p E j;obtain⟨e,i⟩:∃e,e=([]:List M7).toArray++N5 (M3 Nb).cells n++N5 (M3 Nb).cells (G-n):=⟨_,rfl⟩;have z:e.size=G*1:=by rw[i];simp[size_zeroCells,Value.cells];omega
 rw[<-i]at p;have q:(w.drew.alloc (MP e 4)).ownsRow w.heap.size 4 1 (MG (MI ⟨w.heap.size,0,MH⟩) 0 G) 0 (Yi []):=
  ⟨rfl,NF ⟨w.heap.size,G,e,rfl,MV _,M1 w.drew _,Nx _,j,z,by simp[Yi]⟩⟩
 have s:MQ w.heap.size w (w.drew.alloc (MP e 4)):=((MY _ _).drew).alloc (MV _) _;have A:M6 (_/\_):=⟨q,s⟩;have F:¬((n:Int)<0):=by omega
 have H:(0:Int)<(n:Int):=by omega
 unfold NE at j;clear q s z i x C y D m;go_enter Tryz.func256,Tryz.ntmps256
 go_wp2_with (at_builtin;refine Lib.wpList_append_run _ rfl _ _ _ _ rfl _ _ rfl rfl _ _ (p _) ?_)
 all_goals (go_ret;exact⟨_,_,rfl,A.out.1,A.out.2⟩)
theorem arD(p:Option Oc)(c:Nat)(l:List Bool)(x:Bool)(g g2:Nat)(w:MO)(hv:Yo w (MG p l.length c) l)(hl:l.length<=16)
  (hg:w.heap[g]?=MI (MP #[MG p l.length c,MG (MI ⟨g2,0,MH⟩) 1 1] 75 (0,0))) (hx:Yo w (MG (MI ⟨g2,0,MH⟩) 1 1) [x]) :
  Ni MK 248 #[MG (MI ⟨g,0,MH⟩) 2 2] w fun r w'=>∃p' c',r=MN (MG p' (l.length+1) c')/\w'.ownsRow w.heap.size 4 1 (MG p' (l.length+1) c') (l.length+1) (Yi (l++[x]))/\MQ w.heap.size w w':=by
 obtain⟨a,O,N,L,M,_⟩:=hv.F6;cases N;unfold NE at M;obtain⟨c0,c1,_⟩:=Xa hg;have B:M6 (_/\_/\_):=⟨hv,hx,hg⟩;clear hv hx hg;obtain⟨k,G⟩:∃k,k=l.length:=⟨_,rfl⟩;have F:M6 _:=G;rw[<-G]at c0 L hl⊢;clear G;go_enter VO,VG;go_wp2
 go_loopw [3,11] (fun s i wr=>w=wr/\((i=MF ME 0/\s=MF ME 0)\/(i=MF ME 1/\s=MF ME k)\/(i=MF ME 2/\s=MF ME ((k:Int)+1)))) (fun _ i _=>2-(On i).toNat)
 case atStart=>exact⟨rfl,Nt ⟨rfl,rfl⟩⟩
 case round =>
  obtain⟨rfl,⟨rfl,rfl⟩|⟨rfl,rfl⟩|⟨rfl,rfl⟩⟩:=hrel
  ·go_wp2
   go_roundw
   case rel=>exact⟨trivial,NF (Nt ⟨rfl,rfl⟩)⟩
   case measure=>simp[On]
  ·go_wp2
   go_roundw
   case rel=>exact⟨trivial,NF (NF ⟨rfl,rfl⟩)⟩
   case measure=>simp[On]
  ·have K:∀W:MO,Ni MK 256 #[MG MH 0 0,MF ME ((k:Int)+1)] W fun r w'=>∃g c,r=MN (MG (MI ⟨g,0,MH⟩) 0 c)/\w'.ownsRow W.heap.size 4 1 (MG (MI ⟨g,0,MH⟩) 0 c) 0 (Yi [])/\MQ W.heap.size W w':=fun W=>by
    have:=arG (k+1) W (by omega) (by omega);rwa[Int.natCast_add]at this
   have J:M6 _:=K;clear K
   go_wp2_with fail
   refine(J.out _).mono ?_;rintro r P ⟨Q,c',rfl,j,H⟩;have I:M6 (_/\_):=⟨j,H⟩;clear j H c0 c1 J;go_wp2
   go_loopw [6,27] (fun s i wr=>∃q d,MQ w.heap.size w wr/\((i=MF ME 0/\s=MG q 0 d/\wr.ownsRow w.heap.size 4 1 (MG q 0 d) 0 (Yi []))\/(i=MF ME 1/\s=MG q k d/\wr.ownsRow w.heap.size 4 1 (MG q k d) k (Yi l))\/(i=MF ME 2/\s=MG q (k+1) d/\wr.ownsRow w.heap.size 4 1 (MG q (k+1) d) (k+1) (Yi (l++[x]))))) (fun _ i _=>2-(On i).toNat)
   case atStart=>exact⟨_,_,I.out.2,Nt ⟨rfl,rfl,I.out.1⟩⟩
   case round =>
    obtain⟨q,d,e,⟨rfl,rfl,j⟩|⟨rfl,rfl,j⟩|⟨rfl,rfl,j⟩⟩:=hrel
    ·have A:=WO B.out.2.2 e
     obtain⟨c0,c1,_⟩:=Xa A;obtain⟨D,E,C,hr,y,z⟩:=ah1 j e.size (by omega) 75 _ (B.out.1.below e) (by rw[<-F.out];omega);rw[Oa,Oz,<-F.out]at y;rw[Oa]at hr;rw[<-F.out]at hr c0;have m:M6 (_/\_/\_):=⟨hr,y,e.trans z⟩;clear hr y z e j A
     go_wp2_with (at_builtin;(with_reducible refine Z4 rfl _ _ 75 rfl (MG q 0 d) (MG p k c) (MG D k E) C ?hs ?hx ?hr ?_);(case hs=>rfl);(case hx=>rfl);(case hr=>exact m.out.1))
     go_wp2
     go_roundw
     case rel=>exact⟨_,_,m.out.2.2,NF (Nt ⟨rfl,rfl,m.out.2.1⟩)⟩
     case measure=>simp[On]
    ·have A:=WO B.out.2.2 e
     obtain⟨c0,c1,_⟩:=Xa A;obtain⟨D,E,C,hr,y,z⟩:=ah1 j e.size (by omega) 75 _ (B.out.2.1.below e) (by simp);have m:M6 (_/\_/\_):=⟨hr,y,e.trans z⟩;clear hr y z e j A
     go_wp2_with (at_builtin;(with_reducible refine Z4 rfl _ _ 75 rfl (MG q k d) (MG (MI ⟨g2,0,MH⟩) 1 1) (MG D (k+1) E) C ?hs ?hx ?hr ?_);(case hs=>rfl);(case hx=>rfl);(case hr=>exact m.out.1))
     go_wp2
     go_roundw
     case rel=>exact⟨_,_,m.out.2.2,NF (NF ⟨rfl,rfl,m.out.2.1⟩)⟩
     case measure=>simp[On]
    ·have m:M6 (_/\_):=⟨j,e⟩
     clear j e;go_wp2;go_ret;exact⟨_,_,rfl,m.out.1,m.out.2⟩
def Zj(n:Int)(l:List Bool)(x:Bool):List Bool:=(if(l.length:Int)<n then l else l.drop 1)++[x]
theorem alJ(x:Bool)(h:(l.length:Int)<=n)(h1:1<=n):((Zj n l x).length:Int)=min ((l.length:Int)+1) n:=by
 unfold Zj
 split
 ·simp;omega
 ·simp;omega
def aae(l:List Bool):Nat:=l.countP id
theorem alE(l:List Bool):aae l<=l.length:=List.countP_le_length
theorem arC(l:List Bool)(x:Bool):aae (l++[x])=aae l+(if x then 1 else 0):=by
 unfold aae;rw[Qi];cases x <;> simp
theorem arE(v:M7)(l:List Bool)(w:MO)(hv:Yo w v l) :
  Ni MK 225 #[v] w fun r w'=>r=MN (MF ME (aae l))/\w'=w:=by
 obtain⟨a,A,rfl,y,p,j⟩:=hv.F6;unfold NE at p;clear hv;go_enter ayV,ayK;go_wp2
 go_loopw [3,8] (fun s i wr=>∃(k:Nat),i=MF ME k/\s=MF ME (aae (l.take k))/\k<=l.length/\w=wr) (fun _ i _=>l.length-(On i).toNat)
 case atStart=>exact⟨0,rfl,by simp[aae],Nx _,rfl⟩
 case round =>
  obtain⟨k,rfl,rfl,C,rfl⟩:=hrel
  by_cases hlt:k<l.length
  ·obtain⟨B,D,rfl,z,c1⟩:=j k hlt
   have e:aae (l.take (k+1))=aae (l.take k)+(if l[k]then 1 else 0):=by rw[M9 hlt,arC]
   have q:aae (l.take k)<=k:=Nm (alE _) (by rw[NH];omega);obtain⟨s,m⟩:∃s,s=aae (l.take k):=⟨_,rfl⟩;rw[<-m]at e q⊢;have x:(k:Int)<(l.length:Int):=by omega
   cases hx:l[k]
   ·rw[hx]at c1 e
    have H:M6 _:=e;clear e m hx j;go_wp2
    go_roundw
    case rel=>exact⟨k+1,by simp,by rw[H.out];simp,hlt,trivial⟩
    case measure=>simp[On];omega
   ·rw[hx]at c1 e
    have H:M6 _:=e;clear e m hx j;go_wp2
    go_roundw
    case rel=>exact⟨k+1,by simp,by rw[H.out];simp,hlt,trivial⟩
    case measure=>simp[On];omega
  ·obtain rfl:k=l.length:=by omega
   clear j;rw[NT];go_wp2;go_ret;exact⟨rfl,rfl⟩
theorem Yo.IH{a:Oc}{c:Nat}(h:Yo w (MG (MI a) l.length c) l)(h0:0<l.length):∀p,(p=MI a/\l.length=1\/p=MI ⟨a.block,a.off+1,MH⟩)->Yo w (MG p (l.drop 1).length (c-1)) (l.drop 1):=by
 obtain⟨x,q,e,y,r,z|⟨b,off,rfl,m,j⟩⟩:=h
 ·omega
 ·cases e
  rintro p (⟨rfl,s⟩|rfl)
  ·refine⟨_,_,rfl,by rw[NJ];omega,by omega,Nt ⟨by rw[NJ];omega,?_⟩⟩
   have:(l.drop 1).length=0:=by rw[NJ];omega
   rw[ZAc.1 this];rfl
  ·refine⟨_,_,rfl,by rw[NJ];omega,by omega,NF ⟨b,off+1,rfl,m,fun i hi=>?_⟩⟩
   rw[age,NJ]at hi;have:=j (i+1) (by rw[age];omega);rw[show off+1+i=off+(i+1)by omega,this];simp[Yi]
theorem arB(w:MO)(x:Bool):Yo (w.alloc (MP #[M3 x] 4)) (MG (MI ⟨w.heap.size,0,MH⟩) 1 1) [x]:=
 ⟨_,_,rfl,MV _,by unfold NE;omega,NF ⟨w.heap.size,0,rfl,by simp,fun i hi=>by
  have h:=acR w (Yi [x]) 4;obtain rfl:i=0:=by simp[Yi]at hi;exact hi
  have:=h 0 (M3 x) rfl;rw[abl]at this;exact this⟩⟩
theorem arH(n:Int)(v:M7)(l:List Bool)(x:Bool)(w:MO)(hv:Yo w v l)(hn:1<=n/\n<=16)(hl:(l.length:Int)<=n) :
  Ni MK 224 #[MF ME n,v,M3 x] w fun r w'=>∃p c,r=MN (MG p (Zj n l x).length c)/\w'.ownsRow w.heap.size 4 1 (MG p (Zj n l x).length c) (Zj n l x).length (Yi (Zj n l x))/\MQ w.heap.size w w':=by
 obtain⟨p,c,rfl,L,C,_⟩:=hv.F6;unfold NE at C;have B:∀(q:Option Oc) (k d:Nat) (m:List Bool),m.length=k->m.length<=16->Yo w (MG q k d) m->Ni MK 248 #[MG (MI ⟨w.heap.size+1,0,MH⟩) 2 2] ((w.alloc (MP #[M3 x] 4)).alloc (MP #[MG q k d,MG (MI ⟨w.heap.size,0,MH⟩) 1 1] 75)) fun r w'=>∃i s z,r=MN (MG i z s)/\z=(m++[x]).length/\w'.ownsRow w.heap.size 4 1 (MG i z s) z (Yi (m++[x]))/\MQ w.heap.size w w':=by
  rintro q k d m rfl F G;have A:MQ w.heap.size w (w.alloc (MP #[M3 x] 4)):=WQ w;have e:MQ (w.alloc (MP #[M3 x] 4)).heap.size (w.alloc (MP #[M3 x] 4)) ((w.alloc (MP #[M3 x] 4)).alloc (MP #[MG q m.length d,MG (MI ⟨w.heap.size,0,MH⟩) 1 1] 75)):=WQ _;refine(arD q d m x (w.heap.size+1) w.heap.size _ ((G.below A).below e) F (Yu _ _ _) ((arB w x).below e)).mono ?_;rintro r w' ⟨i,s,rfl,y,j⟩;refine⟨i,s,m.length+1,rfl,by rw[Ns];rfl,y.mono (A.trans (e.mono A.size)).size,?_⟩;exact(A.trans (e.mono A.size)).trans (j.mono (A.trans (e.mono A.size)).size)
 by_cases hlt:(l.length:Int)<n
 ·have E:Zj n l x=l++[x]:=by unfold Zj;rw[Nh hlt]
  rw[E];have I:¬((0:Int)<(l.length:Int)+1-n):=by omega
  have K:M6 _:=B p l.length c l rfl (by omega) hv;clear B E hv;go_enter Uk,Ua
  go_wp2_with fail
  refine Nd K.out ?_;rintro r w' ⟨i,s,z,rfl,e,y,j⟩;have H:M6 (_/\_/\_):=⟨e,y,j⟩;clear e y j;go_wp2;go_ret;exact⟨i,s,by rw[<-H.out.1];rfl,by rw[<-H.out.1];exact H.out.2.1,H.out.2.2⟩
 ·have E:Zj n l x=l.drop 1++[x]:=by unfold Zj;rw[Nf hlt]
  rw[E];obtain rfl:n=l.length:=by omega
  obtain⟨a,J,D,_,_,h|⟨b,off,rfl,_⟩⟩:=id hv
  ·omega
  ·cases D
   by_cases hc1:c=1
   ·subst hc1
    have K:M6 _:=B (MI ⟨b,off,MH⟩) 0 0 (l.drop 1) (by simp;omega) (by simp;omega) (by have:=hv.IH (by omega) _ (Nt ⟨rfl,by omega⟩);rwa[NJ,show l.length-1=0 by omega]at this);clear B E hv;go_enter Uk,Ua
    go_wp2_with fail
    refine Nd K.out ?_;rintro r w' ⟨i,s,z,rfl,e,y,j⟩;have H:M6 (_/\_/\_):=⟨e,y,j⟩;clear e y j;go_wp2;go_ret;exact⟨i,s,by rw[<-H.out.1];rfl,by rw[<-H.out.1];exact H.out.2.1,H.out.2.2⟩
   ·have K:M6 _:=B (MI ⟨b,off+1,MH⟩) (l.length-1) (c-1) (l.drop 1) (by simp) (by simp;omega) (by have:=hv.IH (by omega) _ (NF rfl);rwa[NJ]at this)
    clear B E hv;go_enter Uk,Ua
    go_wp2_with fail
    refine Nd K.out ?_;rintro r w' ⟨i,s,z,rfl,e,y,j⟩;have H:M6 (_/\_/\_):=⟨e,y,j⟩;clear e y j;go_wp2;go_ret;exact⟨i,s,by rw[<-H.out.1];rfl,by rw[<-H.out.1];exact H.out.2.1,H.out.2.2⟩
section
open Go.Sort (grow grow_empty grow_grow alloc_eq_grow cell?_grow heap_grow_old)
theorem acn(w:MO)(q:Nat)(os:Array Obj):MQ w.heap.size w (Oj (w.drewN q) os):=
 ⟨rfl,rfl,rfl,by simp[Oj,World.drewN],fun k hk=>heap_grow_old (w.drewN q) os hk⟩
def aaL(d t:Int):Int:=min (d*2 ^ t.toNat) 500
theorem arJ(n f d t now:Int)(w:MO)(hd:1<=d/\d<=500)(ht:0<=t/\t<=10)(hnow:0<=now/\now<=1099511627776) :
  Ni MK 226 #[acS n f d,MF ME t,MF ME now] w fun r w'=>r=MN (Y5 (MG MH 0 0) Nw (now+aaL d t) (min (t+1) 10))/\MQ w.heap.size w w':=by
 obtain⟨k,rfl⟩:=NL ht.1;obtain⟨F,G⟩:=hnow;have D:k<=10:=by omega
 clear ht;have x:(1:Int)<=2 ^ k/\(2:Int) ^ k<=1024:=by
  have C:(1:Nat)<=2 ^ k:=Nat.one_le_two_pow;have B:2 ^ k<=2 ^ 10:=Nat.pow_le_pow_right (by decide) D;have L:((2 ^ k:Nat):Int)=(2:Int) ^ k:=by simp
  omega
 obtain⟨m,j⟩:∃m,m=d*2 ^ k:=⟨_,rfl⟩;have K:1<=m:=by rw[j];have:=Px hd.1 x.1 (by omega) (by omega);omega
 have J:m<=512000:=by rw[j];have:=Px hd.2 x.2 (by omega) (by omega);omega
 have I:wrap64 (d*2 ^ k)=m:=by rw[<-j];unfold wrap64;omega
 have E:M6 (aaL d (k:Int)=min m 500):=(by unfold aaL;rw[NR,<-j]:aaL d (k:Int)=min m 500);clear j x hd;obtain⟨s,q⟩:∃s,s=w.alloc (MP #[MF ME n,MF ME f,MF ME d] 33):=⟨_,rfl⟩;have y:MQ w.heap.size w s:=by rw[q];exact WQ _
 have z:s.heap.size=w.heap.size+1:=by rw[q];simp
 have H:M6 (_/\_/\_):=⟨q,y,z⟩;have A:∀u t:Int,(((w.alloc (MP #[MF ME n,MF ME f,MF ME d] 33)).alloc (MP #[MG MH 0 0,M3 Nw,MF ME u,MF ME t] 195)).heap[w.heap.size+1]?=MI (MP [MG MH 0 0,M3 Nw,MF ME u,MF ME t].toArray 195 (0,0)))/\MQ w.heap.size w ((w.alloc (MP #[MF ME n,MF ME f,MF ME d] 33)).alloc (MP #[MG MH 0 0,M3 Nw,MF ME u,MF ME t] 195)):=fun u t=>⟨Yu _ _ _,((MY _ _).alloc (MV _) _).alloc (by simp) _⟩
 have e:M6 _:=A;clear A q y z
 by_cases C:m<=500
 ·have p:M6 (min m 500=m):=(by omega:min m 500=m)
  by_cases B:(k:Int)+1<=10
  ·have i:M6 (min ((k:Int)+1) 10=k+1):=(by omega:min ((k:Int)+1) 10=k+1)
   go_enter azt,azn;go_wp2;exact Np (v:=Y5 (MG MH 0 0) Nw (now+m) (k+1)) (Z2 azg rfl (Xp (P:=MK) (cs:=[MG MH 0 0,M3 Nw,MF ME (now+m),MF ME (k+1)]) (e.out _ _).1 ay4 rfl (by kernel_rfl))) rfl ⟨by rw[E.out,p.out,i.out],(e.out _ _).2⟩
  ·have i:M6 (min ((k:Int)+1) 10=10):=(by omega:min ((k:Int)+1) 10=10)
   go_enter azt,azn;go_wp2
   all_goals exact Np (v:=Y5 (MG MH 0 0) Nw (now+m) 10) (Z2 azg rfl (Xp (P:=MK) (cs:=[MG MH 0 0,M3 Nw,MF ME (now+m),MF ME 10]) (e.out _ _).1 ay4 rfl (by kernel_rfl))) rfl ⟨by rw[E.out,p.out,i.out],(e.out _ _).2⟩
 ·have p:M6 (min m 500=500):=(by omega:min m 500=500)
  by_cases B:(k:Int)+1<=10
  ·have i:M6 (min ((k:Int)+1) 10=k+1):=(by omega:min ((k:Int)+1) 10=k+1)
   go_enter azt,azn;go_wp2;exact Np (v:=Y5 (MG MH 0 0) Nw (now+500) (k+1)) (Z2 azg rfl (Xp (P:=MK) (cs:=[MG MH 0 0,M3 Nw,MF ME (now+500),MF ME (k+1)]) (e.out _ _).1 ay4 rfl (by kernel_rfl))) rfl ⟨by rw[E.out,p.out,i.out],(e.out _ _).2⟩
  ·have i:M6 (min ((k:Int)+1) 10=10):=(by omega:min ((k:Int)+1) 10=10)
   go_enter azt,azn;go_wp2;exact Np (v:=Y5 (MG MH 0 0) Nw (now+500) 10) (Z2 azg rfl (Xp (P:=MK) (cs:=[MG MH 0 0,M3 Nw,MF ME (now+500),MF ME 10]) (e.out _ _).1 ay4 rfl (by kernel_rfl))) rfl ⟨by rw[E.out,p.out,i.out],(e.out _ _).2⟩
def Hy(w W:MO)(n f d:Int)(v:M7)(o:Bool)(u t:Int)(v':M7)(o':Bool)(u' t':Int):Prop :=
 Hx w W n f d v o u t/\W.heap[w.heap.size+1+1]?=MI (MP #[v',M3 o',MF ME u',MF ME t'] 195 (0,0))
section
variable {w W:MO}{n f d:Int}{v:M7}{o:Bool}{u t:Int}{v':M7}{o':Bool}{u' t':Int}
theorem alH(w:MO)(n f d:Int)(v:M7)(o:Bool)(u t:Int)(v':M7)(o':Bool)(u' t':Int):Hy w (((w.alloc (MP #[MF ME n,MF ME f,MF ME d] 33)).alloc (MP #[v,M3 o,MF ME u,MF ME t] 195)).alloc (MP #[v',M3 o',MF ME u',MF ME t'] 195)) n f d v o u t v' o' u' t' :=
 ⟨(ah4 w n f d v o u t).below (WQ _),aeC _ _ _ _⟩
theorem Hy.below{W':MO}(h:Hy w W n f d v o u t v' o' u' t')(hb:MQ W.heap.size W W'):Hy w W' n f d v o u t v' o' u' t' :=
 ⟨h.1.below hb,WO h.2 hb⟩
theorem arF{d a' b' c' d':M7}(h:w.heap[g]?=MI (MP #[a,b,c,d] T (0,0))):((((w.setCell ⟨g,0,MH⟩ a').setCell ⟨g,1,MH⟩ b').setCell ⟨g,2,MH⟩ c').setCell ⟨g,3,MH⟩ d').heap[g]?=MI (MP #[a',b',c',d'] T (0,0)):=
 NI _ _ 3 _ _ d' (NI _ _ 2 _ _ c' (NI _ _ 1 _ _ b' (NI w g 0 _ _ a' h)))
abbrev agf(W:MO)(g:Nat)(a b c d:M7):World:=(((W.setCell ⟨g,0,MH⟩ a).setCell ⟨g,1,MH⟩ b).setCell ⟨g,2,MH⟩ c).setCell ⟨g,3,MH⟩ d
theorem alL{d:M7}(h:k≠g):(agf W g a b c d).heap[k]?=W.heap[k]?:=by
 unfold agf;rw[MU _ _ _ _ h,MU _ _ _ _ h,MU _ _ _ _ h,MU _ _ _ _ h]
theorem Hy.F4(h:Hy w W n f d v o u t v' o' u' t')(a:M7)(b:Bool)(c e:Int):Hy w (agf W (w.heap.size+1+1) a (M3 b) (MF ME c) (MF ME e)) n f d v o u t a b c e :=
 ⟨⟨(alL (by omega)).trans h.1.1,(alL (by omega)).trans h.1.2.1,(((h.1.2.2.setCell (by simp;omega) _).setCell (by simp;omega) _).setCell (by simp;omega) _).setCell (by simp;omega) _⟩,arF h.2⟩
theorem Hy.Gi(h:Hy w W n f d v o u t v' o' u' t')(a:M7):Hy w (W.setCell ⟨w.heap.size+1,0,MH⟩ a) n f d a o u t v' o' u' t' :=
 ⟨⟨(MU _ _ _ _ (by simp)).trans h.1.1,NI W _ 0 _ _ a h.1.2.1,h.1.2.2.setCell (by simp) _⟩,(MU _ _ _ _ (by simp)).trans h.2⟩
theorem Hy.res(h:Hy w W n f d v o u t v' o' u' t'){fn:Func}{i y z:Tmp}(hr:fn.results=#[.cell i 195,.tmp y,.tmp z]){tmps:Array M7}{e1 e2:M7}(hx:tmps.getD i PL=Na (MI ⟨w.heap.size+1+1,0,MH⟩))(hy:tmps.getD y PL=e1)(hz:tmps.getD z PL=e2) :
  (Pf fn tmps).run MK W=.ok (Nv #[Y5 v' o' u' t',e1,e2]) W :=
 ae0 hr hx hy hz (Xp (P:=MK) (cs:=[v',M3 o',MF ME u',MF ME t']) h.2 ay4 rfl (by kernel_rfl))
theorem Hy.bel(h:Hy w W n f d v o u t v' o' u' t'):MQ w.heap.size w W:=h.1.2.2
theorem Hy.Gg(h:Hy w W n f d v o u t v' o' u' t'):W.cell? ⟨w.heap.size,0,MH⟩=MI (MF ME n)/\W.cell? ⟨w.heap.size,1,MH⟩=MI (MF ME f)/\W.cell? ⟨w.heap.size,2,MH⟩=MI (MF ME d)/\W.cell? ⟨w.heap.size+1,0,MH⟩=MI v/\W.cell? ⟨w.heap.size+1,1,MH⟩=MI (M3 o)/\W.cell? ⟨w.heap.size+1,2,MH⟩=MI (MF ME u)/\W.cell? ⟨w.heap.size+1,3,MH⟩=MI (MF ME t)/\W.frozen? ⟨w.heap.size+1,0,MH⟩=Nb/\W.frozen? ⟨w.heap.size+1,1,MH⟩=Nb/\W.frozen? ⟨w.heap.size+1,2,MH⟩=Nb/\W.cell? ⟨w.heap.size+1+1,0,MH⟩=MI v'/\W.cell? ⟨w.heap.size+1+1,1,MH⟩=MI (M3 o')/\W.cell? ⟨w.heap.size+1+1,2,MH⟩=MI (MF ME u')/\W.cell? ⟨w.heap.size+1+1,3,MH⟩=MI (MF ME t')/\W.frozen? ⟨w.heap.size+1+1,0,MH⟩=Nb/\W.frozen? ⟨w.heap.size+1+1,1,MH⟩=Nb/\W.frozen? ⟨w.heap.size+1+1,2,MH⟩=Nb/\W.frozen? ⟨w.heap.size+1+1,3,MH⟩=false:=by
 obtain⟨c0,c1,c2,c3,c4,c5,c6⟩:=h.1.Gg;obtain⟨z,p,q,A⟩:=alG h.1.2.1;obtain⟨s,i,e,y,_⟩:=alF h.2;obtain⟨r,x,j,m⟩:=alG h.2;exact⟨c0,c1,c2,c3,c4,c5,c6,z,p,q,s,i,e,y,r,x,j,m⟩
end
abbrev aeX:=(List Bool×Bool×Int×Int)×Bool×Int
def Zt(n f d:Int)(l:List Bool)(o:Bool)(u t:Int)(x:Bool)(now:Int)(may:Bool):aeX :=
 if YR n f d l.length o u t now=0 then
  (if o=Nb/\may=Nw/\f<=(aae (Zj n l x):Int)then(([],Nw,now+aaL d t,min (t+1) 10),Nw,0)else((Zj n l x,o,u,t),Nb,0))
 else(([],Nb,0,0),Nb,YR n f d l.length o u t now)
def Ze(n f d:Int)(l:List Bool)(o:Bool)(u t:Int)(now:Int):aeX :=
 if YR n f d l.length o u t now=0 then
  (if o=Nw/\u<=now then((l,Nb,0,t),Nw,0)else((l,o,u,t),Nb,0))
 else(([],Nb,0,0),Nb,YR n f d l.length o u t now)
def agd(w:MO)(O:aeX)(r:Ending)(w':MO):Prop :=
 ∃p c,r=MN (Nv #[Y5 (MG p O.1.1.length c) O.1.2.1 O.1.2.2.1 O.1.2.2.2,M3 O.2.1,MF ME O.2.2])/\Yo w' (MG p O.1.1.length c) O.1.1/\(∀b,QQ (MG p O.1.1.length c)=MI b->w.heap.size<=b)/\MQ w.heap.size w w'
theorem aeZ{b:Bool}{e:Int}{O:aeX}(h:O=(([],o,u,t),b,e))(hb:MQ w.heap.size w w'):agd w O (MN (Nv #[Y5 (MG MH 0 0) o u t,M3 b,MF ME e])) w':=by
 subst h;exact⟨MH,0,rfl,ah2 _,(by intro b h;cases h),hb⟩
theorem ad7{w2:MO}{p:Option Oc}{c:Nat}{b:Bool}{e:Int}{O:aeX}(h:O=((l,o,u,t),b,e))(hk:k=l.length)(hl:Yo w' (MG p k c) l)(hb:MQ w.heap.size w w')(ho:w2.ownsRow base 4 1 (MG p k c) k xs)(hbase:w.heap.size<=base):agd w O (MN (Nv #[Y5 (MG p k c) o u t,M3 b,MF ME e])) w':=by
 subst h hk;exact⟨p,c,rfl,hl,fun b hb=>Nm hbase (ho.lt b hb).1,hb⟩
theorem abm{e:NU}{n:Nat}(h:w.ownsRow base e k v n xs){a:Oc}{y:M7}(ha:a.block<base):(w.setCell a y).ownsRow base e k v n xs :=
 W8 h fun g hg=>MU _ _ _ _ (by have:=(h.lt g hg).1;omega)
theorem ad8{e:NU}{n:Nat}(h:w.ownsRow base e k v n xs){y0 y1 y2 y3:M7}(ha:g<base):(agf w g y0 y1 y2 y3).ownsRow base e k v n xs :=
 abm (abm (abm (abm h ha) ha) ha) ha
theorem arI(n f d:Int)(v:M7)(l:List Bool)(o:Bool)(u t:Int)(x:Bool)(now:Int)(may:Bool)(w:MO)(hv:Yo w v l)(hl:l.length<=140737488355328) :
  Ni MK 182 #[acS n f d,Y5 v o u t,M3 x,MF ME now,M3 may] w (agd w (Zt n f d l o u t x now may)):=by
 obtain⟨p,c,rfl⟩:=hv.Ga;obtain⟨W0,a3⟩:∃W0,W0=((w.alloc (MP #[MF ME n,MF ME f,MF ME d] 33)).alloc (MP #[MG p l.length c,M3 o,MF ME u,MF ME t] 195)).alloc (MP #[MG MH 0 0,M3 Nb,MF ME 0,MF ME 0] 195):=⟨_,rfl⟩;have a4:Hy w W0 n f d (MG p l.length c) o u t (MG MH 0 0) Nb 0 0:=by rw[a3];exact alH _ _ _ _ _ _ _ _ _ _ _ _
 obtain⟨c0,c1,c2,c3,c4,c5,c6,_⟩:=a4.Gg;have H:M6 (_/\Hy _ _ _ _ _ _ _ _ _ _ _ _ _/\Yo _ _ _):=⟨a3,a4,hv⟩;clear a3 a4 hv;go_enter ayY,ayN
 go_wp2_with fail
 rw[<-H.out.1];refine(alC n f d p l.length c o u t now _).mono ?_;rintro r S ⟨rfl,a2⟩;have O:M6 (Hy _ _ _ _ _ _ _ _ _ _ _ _ _/\Yo _ _ _):=⟨H.out.2.1.below a2,H.out.2.2.below (H.out.2.1.bel.trans (a2.mono H.out.2.1.bel.size))⟩;clear c0 c1 c2 c3 c4 c5 c6 a2 H;obtain⟨c0,c1,c2,c3,c4,c5,c6,F,A,B,L,I,G,D,C,K,z,J⟩:=O.out.1.Gg;rcases alA n f d l.length o u t now with⟨M,_⟩|⟨M,_⟩|⟨M,V,a7,hh⟩
 ·have E:M6 (Zt n f d l o u t x now may=(([],Nb,0,0),Nb,2)):=(by unfold Zt;rw[M,Nf (by decide)]:Zt n f d l o u t x now may=(([],false,0,0),false,2))
  rw[M];clear M;go_wp2;exact Np (v:=Nv #[Y5 (MG MH 0 0) Nb 0 0,M3 Nb,MF ME 2]) ((O.out.1.F4 _ _ _ _).res Uq rfl rfl rfl) rfl (aeZ E.out (O.out.1.F4 _ _ _ _).bel)
 ·have E:M6 (Zt n f d l o u t x now may=(([],Nb,0,0),Nb,6)):=(by unfold Zt;rw[M,Nf (by decide)]:Zt n f d l o u t x now may=(([],false,0,0),false,6))
  rw[M];clear M;go_wp2;exact Np (v:=Nv #[Y5 (MG MH 0 0) Nb 0 0,M3 Nb,MF ME 6]) ((O.out.1.F4 _ _ _ _).res Uq rfl rfl rfl) rfl (aeZ E.out (O.out.1.F4 _ _ _ _).bel)
 ·have E:M6 (Zt n f d l o u t x now may=if o=Nb/\may=Nw/\f<=(aae (Zj n l x):Int)then(([],Nw,now+aaL d t,min (t+1) 10),Nw,0)else((Zj n l x,o,u,t),Nb,0)):=Nh M
  rw[M];clear M;have HL:M6 _:=arH n (MG p l.length c) l x S O.out.2 V.1 hh.1
  go_wp2_with fail
  refine Nd HL.out ?_;rintro r j ⟨p',c',rfl,ho,a9⟩;obtain⟨k,hk⟩:∃k,k=(Zj n l x).length:=⟨_,rfl⟩;rw[<-hk]at ho⊢;have e:M6 (Hy _ _ _ _ _ _ _ _ _ _ _ _ _/\_/\_/\w.heap.size+1+1<S.heap.size):=⟨O.out.1.below a9,ho,hk,(ZAa.1 O.out.1.2).1⟩;clear ho a9 hk O HL c0 c1 c2 c3 c4 c5 c6 F A B L I G D C K z J;obtain⟨c0,c1,c2,c3,c4,c5,c6,F,A,B,L,I,G,D,C,K,z,J⟩:=e.out.1.Gg;have U:M6 (∀(q:Nat) (os:Array Obj),Ni MK 225 #[MG p' k c'] (Oj (j.drewN q) os) fun r w'=>r=MN (MF ME (aae (Zj n l x)))/\∃q' os',w'=Oj ((Oj (j.drewN q) os).drewN q') os'):=fun(q:Nat) (os:Array Obj)=>by
   refine(arE _ (Zj n l x) _ ((acQ (by rw[<-e.out.2.2.1];exact e.out.2.1)).below (acn _ _ _))).mono ?_;rintro r w' ⟨rfl,rfl⟩;exact⟨rfl,0,#[],(grow_empty _).symm⟩
  have b0:(aae (Zj n l x):Int)<=16:=by
   have h1:=alE (Zj n l x);have h2:=alJ x hh.1 V.1.1;omega
  have hf:f<=16:=by omega
  generalize aae (Zj n l x)=m at *;have Z:∀n' os,(Oj (j.drewN n') os).cell? ⟨w.heap.size,1,MH⟩=MI (MF ME f):=Ob (MX _ _ c1) c1;have Y:∀n' os,(Oj (j.drewN n') os).cell? ⟨w.heap.size+1,1,MH⟩=MI (M3 o):=Ob (MX _ _ c4) c4;have a6:∀(W':MO),MQ j.heap.size j W'->o=Nw\/may=Nb\/¬(f<=(m:Int))->Zt n f d l o u t x now may=((Zj n l x,o,u,t),Nb,0):=fun _ _ h=>by
   rw[E.out,Nf];rintro⟨h1,h2,h3⟩;rcases h with h|h|h
   ·rw[h1]at h;cases h
   ·rw[h2]at h;cases h
   ·exact h h3
  have ST:M6 _:=a6;clear a6;cases o
  case true =>
   have N:=ST.out j (MY _ _) (Nt rfl);have R:M6 _:=N;clear N
   go_wp2_with fail
   refine NQ XY (by kernel_rfl) ?_
   repeat (first|go_big_quiet_skip|quiet_step (first|(go_at_call 225;exact Calls.grown_of (U.out _ _))))
   refine Oy ?_;intro _ Q;obtain⟨⟨y,s⟩,P⟩:=Q;subst P;have i:M6 (Hy _ _ _ _ _ _ _ _ _ _ _ _ _/\_):=⟨e.out.1.below (acn j y s),YI e.out.2.1 (acn j y s)⟩;clear c0 c1 c2 c3 c4 c5 c6 F A B L I G D C K z J Z Y;generalize Oj (j.drewN y) s=w3 at i⊢;obtain⟨c0,c1,c2,c3,c4,c5,c6,F,A,B,L,I,G,D,C,K,z,J⟩:=i.out.1.Gg;go_wp2;exact Np (v:=Nv #[Y5 (MG p' k c') Nw u t,M3 Nb,MF ME 0]) (((i.out.1.Gi _).F4 _ _ _ _).res Uq rfl rfl rfl) rfl (ad7 R.out e.out.2.2.1 (acQ (base:=S.heap.size) (by rw[<-e.out.2.2.1];exact ad8 (abm i.out.2 (by have:=e.out.2.2.2;simp;omega)) e.out.2.2.2)) ((i.out.1.Gi _).F4 _ _ _ _).bel e.out.2.1 (by have:=e.out.2.2.2;omega))
  case false =>
   cases may
   case false =>
    have N:=ST.out j (MY _ _) (NF (Nt rfl));have R:M6 _:=N;clear N
    go_wp2_with fail
    refine NQ XY (by kernel_rfl) ?_
    repeat (first|go_big_quiet_skip|quiet_step (first|(go_at_call 225;exact Calls.grown_of (U.out _ _))))
    refine Oy ?_;intro _ Q;obtain⟨⟨y,s⟩,P⟩:=Q;subst P;have i:M6 (Hy _ _ _ _ _ _ _ _ _ _ _ _ _/\_):=⟨e.out.1.below (acn j y s),YI e.out.2.1 (acn j y s)⟩;clear c0 c1 c2 c3 c4 c5 c6 F A B L I G D C K z J Z Y;generalize Oj (j.drewN y) s=w3 at i⊢;obtain⟨c0,c1,c2,c3,c4,c5,c6,F,A,B,L,I,G,D,C,K,z,J⟩:=i.out.1.Gg;go_wp2;exact Np (v:=Nv #[Y5 (MG p' k c') Nb u t,M3 Nb,MF ME 0]) (((i.out.1.Gi _).F4 _ _ _ _).res Uq rfl rfl rfl) rfl (ad7 R.out e.out.2.2.1 (acQ (base:=S.heap.size) (by rw[<-e.out.2.2.1];exact ad8 (abm i.out.2 (by have:=e.out.2.2.2;simp;omega)) e.out.2.2.2)) ((i.out.1.Gi _).F4 _ _ _ _).bel e.out.2.1 (by have:=e.out.2.2.2;omega))
   case true =>
    cases hm:Nn (f<=(m:Int))
    case false =>
     have N:=ST.out j (MY _ _) (NF (NF (Nc hm)));have R:M6 _:=N;clear N
     go_wp2_with fail
     refine NQ XY (by kernel_rfl) ?_
     repeat (first|go_big_quiet_skip|quiet_step (first|(go_at_call 225;exact NZ (U.out _ _))))
     refine Oy ?_;intro _ Q;obtain⟨⟨y,s⟩,P⟩:=Q;subst P;have i:M6 (Hy _ _ _ _ _ _ _ _ _ _ _ _ _/\_):=⟨e.out.1.below (acn j y s),YI e.out.2.1 (acn j y s)⟩;clear c0 c1 c2 c3 c4 c5 c6 F A B L I G D C K z J Z Y;generalize Oj (j.drewN y) s=w3 at i⊢;obtain⟨c0,c1,c2,c3,c4,c5,c6,F,A,B,L,I,G,D,C,K,z,J⟩:=i.out.1.Gg;go_wp2;exact Np (v:=Nv #[Y5 (MG p' k c') Nb u t,M3 Nb,MF ME 0]) (((i.out.1.Gi _).F4 _ _ _ _).res Uq rfl rfl rfl) rfl (ad7 R.out e.out.2.2.1 (acQ (base:=S.heap.size) (by rw[<-e.out.2.2.1];exact ad8 (abm i.out.2 (by have:=e.out.2.2.2;simp;omega)) e.out.2.2.2)) ((i.out.1.Gi _).F4 _ _ _ _).bel e.out.2.1 (by have:=e.out.2.2.2;omega))
    case true =>
     have N:Zt n f d l Nb u t x now Nw=(([],Nw,now+aaL d t,min (t+1) 10),Nw,0):=by rw[E.out,Nh ⟨rfl,rfl,M2 hm⟩]
     have R:M6 _:=N;have HT:M6 (∀W,_):=fun W=>arJ n f d t now W V.2.2 hh.2.1 a7
     clear N
     go_wp2_with fail
     refine NQ XY (by kernel_rfl) ?_
     repeat (first|go_big_quiet_skip|quiet_step (first|(go_at_call 225;exact NZ (U.out _ _))))
     refine Oy ?_;intro _ Q;obtain⟨⟨y,s⟩,P⟩:=Q;subst P;have i:M6 (Hy _ _ _ _ _ _ _ _ _ _ _ _ _/\_):=⟨e.out.1.below (acn j y s),YI e.out.2.1 (acn j y s)⟩;clear c0 c1 c2 c3 c4 c5 c6 F A B L I G D C K z J Z Y;generalize Oj (j.drewN y) s=w3 at i⊢;obtain⟨c0,c1,c2,c3,c4,c5,c6,F,A,B,L,I,G,D,C,K,z,J⟩:=i.out.1.Gg;clear U hm b0 hf V hh a7 ST
     go_wp2_with fail
     refine(HT.out _).mono ?_;rintro r w4 ⟨rfl,a8⟩;have a5:M6 (Hy _ _ _ _ _ _ _ _ _ _ _ _ _):=i.out.1.below a8;clear c0 c1 c2 c3 c4 c5 c6 F A B L I G D C K z J a8;obtain⟨c0,c1,c2,c3,c4,c5,c6,F,A,B,L,I,G,D,C,K,z,J⟩:=a5.out.Gg;generalize now+aaL d t=hu at *;generalize min (t+1) 10=ht at *;go_wp2;exact Np (v:=Nv #[Y5 (MG MH 0 0) Nw hu ht,M3 Nw,MF ME 0]) ((a5.out.F4 _ _ _ _).res Uq rfl rfl rfl) rfl (aeZ R.out (a5.out.F4 _ _ _ _).bel)
end
section
variable {w W:MO}{n f d:Int}{v:M7}{o:Bool}{u t:Int}{v':M7}{o':Bool}{u' t':Int}
theorem Hy.IM(h:Hy w W n f d v o u t v' o' u' t')(b:Bool)(c:Int):Hy w ((W.setCell ⟨w.heap.size+1,1,MH⟩ (M3 b)).setCell ⟨w.heap.size+1,2,MH⟩ (MF ME c)) n f d v b c t v' o' u' t' :=
 ⟨⟨(MU _ _ _ _ (by simp)).trans ((MU _ _ _ _ (by simp)).trans h.1.1),NI _ _ 2 _ _ _ (NI W _ 1 _ _ _ h.1.2.1),(h.1.2.2.setCell (by simp) _).setCell (by simp) _⟩,(MU _ _ _ _ (by simp)).trans ((MU _ _ _ _ (by simp)).trans h.2)⟩
end
theorem alB(n f d:Int)(v:M7)(l:List Bool)(o:Bool)(u t:Int)(now:Int)(w:MO)(hv:Yo w v l) :
  Ni MK 107 #[acS n f d,Y5 v o u t,MF ME now] w (agd w (Ze n f d l o u t now)):=by
 obtain⟨p,c,rfl⟩:=hv.Ga;obtain⟨z,x⟩:∃z,z=((w.alloc (MP #[MF ME n,MF ME f,MF ME d] 33)).alloc (MP #[MG p l.length c,M3 o,MF ME u,MF ME t] 195)).alloc (MP #[MG MH 0 0,M3 Nb,MF ME 0,MF ME 0] 195):=⟨_,rfl⟩;have y:Hy w z n f d (MG p l.length c) o u t (MG MH 0 0) Nb 0 0:=by rw[x];exact alH _ _ _ _ _ _ _ _ _ _ _ _
 obtain⟨c0,c1,c2,c3,c4,c5,c6,_⟩:=y.Gg;have H:M6 (_/\Hy _ _ _ _ _ _ _ _ _ _ _ _ _/\Yo _ _ _):=⟨x,y,hv⟩;clear x y hv;go_enter Tryz.func107,Tryz.ntmps107
 go_wp2_with fail
 rw[<-H.out.1];refine(alC n f d p l.length c o u t now _).mono ?_;rintro r m ⟨rfl,s⟩;have j:M6 (Hy _ _ _ _ _ _ _ _ _ _ _ _ _/\Yo _ _ _):=⟨H.out.2.1.below s,H.out.2.2.below (H.out.2.1.bel.trans (s.mono H.out.2.1.bel.size))⟩;clear c0 c1 c2 c3 c4 c5 c6 s H;obtain⟨c0,c1,c2,c3,c4,c5,c6,L,F,G,R,N,M,K,I,Q,D,O⟩:=j.out.1.Gg;rcases alA n f d l.length o u t now with⟨i,_⟩|⟨i,_⟩|⟨i,S,Y,V⟩
 ·have E:M6 (Ze n f d l o u t now=(([],Nb,0,0),Nb,2)):=(by unfold Ze;rw[i,Nf (by decide)]:Ze n f d l o u t now=(([],false,0,0),false,2))
  rw[i];clear i;go_wp2;exact Np (v:=Nv #[Y5 (MG MH 0 0) Nb 0 0,M3 Nb,MF ME 2]) ((j.out.1.F4 _ _ _ _).res azc rfl rfl rfl) rfl (aeZ E.out (j.out.1.F4 _ _ _ _).bel)
 ·have E:M6 (Ze n f d l o u t now=(([],Nb,0,0),Nb,6)):=(by unfold Ze;rw[i,Nf (by decide)]:Ze n f d l o u t now=(([],false,0,0),false,6))
  rw[i];clear i;go_wp2;exact Np (v:=Nv #[Y5 (MG MH 0 0) Nb 0 0,M3 Nb,MF ME 6]) ((j.out.1.F4 _ _ _ _).res azc rfl rfl rfl) rfl (aeZ E.out (j.out.1.F4 _ _ _ _).bel)
 ·have E:M6 (Ze n f d l o u t now=if o=Nw/\u<=now then((l,Nb,0,t),Nw,0)else((l,o,u,t),Nb,0)):=Nh i
  rw[i];clear i;have P:M6 _:=alD (MG p l.length c) l m j.out.2 (by have:=V.1;omega)
  go_wp2_with fail
  refine Nd P.out ?_;rintro r Z ⟨A,B,rfl,J,C⟩;obtain⟨k,U⟩:∃k,k=l.length:=⟨_,rfl⟩;have e:M6 (Hy _ _ _ _ _ _ _ _ _ _ _ _ _/\_/\w.heap.size+1+1<m.heap.size):=⟨j.out.1.below C,J,(ZAa.1 j.out.1.2).1⟩;clear J C U j P c0 c1 c2 c3 c4 c5 c6 L F G R N M K I Q D O S;obtain⟨c0,c1,c2,c3,c4,c5,c6,L,F,G,R,N,M,K,I,Q,D,O⟩:=e.out.1.Gg;cases o
  case false =>
   have q:M6 (Ze n f d l Nb u t now=((l,Nb,u,t),Nb,0)):=(by rw[E.out,Nf (fun h=>by cases h.1)]:Ze n f d l false u t now=((l,false,u,t),false,0));go_wp2;exact Np (v:=Nv #[Y5 (MG A l.length B) Nb u t,M3 Nb,MF ME 0]) (((e.out.1.Gi _).F4 _ _ _ _).res azc rfl rfl rfl) rfl (ad7 q.out rfl (acQ (base:=m.heap.size) (ad8 (abm e.out.2.1 (by have:=e.out.2.2;simp;omega)) e.out.2.2)) ((e.out.1.Gi _).F4 _ _ _ _).bel e.out.2.1 (by have:=e.out.2.2;omega))
  case true =>
   by_cases hu:now<u
   ·have q:M6 (Ze n f d l Nw u t now=((l,Nw,u,t),Nb,0)):=(by rw[E.out,Nf (fun h=>by omega)]:Ze n f d l true u t now=((l,true,u,t),false,0))
    go_wp2;exact Np (v:=Nv #[Y5 (MG A l.length B) Nw u t,M3 Nb,MF ME 0]) (((e.out.1.Gi _).F4 _ _ _ _).res azc rfl rfl rfl) rfl (ad7 q.out rfl (acQ (base:=m.heap.size) (ad8 (abm e.out.2.1 (by have:=e.out.2.2;simp;omega)) e.out.2.2)) ((e.out.1.Gi _).F4 _ _ _ _).bel e.out.2.1 (by have:=e.out.2.2;omega))
   ·have q:M6 (Ze n f d l Nw u t now=((l,Nb,0,t),Nw,0)):=(by rw[E.out,Nh ⟨rfl,by omega⟩]:Ze n f d l true u t now=((l,false,0,t),true,0))
    go_wp2;exact Np (v:=Nv #[Y5 (MG A l.length B) Nb 0 t,M3 Nw,MF ME 0]) ((((e.out.1.Gi _).IM _ _).F4 _ _ _ _).res azc rfl rfl rfl) rfl (ad7 q.out rfl (acQ (base:=m.heap.size) (ad8 (abm (abm (abm e.out.2.1 (by have:=e.out.2.2;simp;omega)) (by have:=e.out.2.2;simp;omega)) (by have:=e.out.2.2;simp;omega)) e.out.2.2)) (((e.out.1.Gi _).IM _ _).F4 _ _ _ _).bel e.out.2.1 (by have:=e.out.2.2;omega))
def acP(out act per:Int):Bool×Int :=
 if(0<=act/\act<=12)/\(0<=out/\out<=act)/\(0<=per/\per<=100)then(Nn ((out+1)*100<=per*act),0)else(Nb,2)
theorem arw(out act per:Int)(w:MO):Ni MK 227 #[MF ME out,MF ME act,MF ME per] w fun r w'=>r=MN (Nv #[M3 (acP out act per).1,MF ME (acP out act per).2])/\w'=w:=by
 cases h1:Nn (0<=act/\act<=12)
 ·have E:M6 (acP out act per=(Nb,2)):=Nf fun h=>Nc h1 h.1
  go_enter RX,RK
  go_wp2_with fail
  refine(YB _ _ _ _).mono ?_;rintro e w' ⟨rfl,rfl⟩;rw[h1];go_wp2
  go_ret2
  exact⟨by rw[E.out];rfl,rfl⟩
 cases h2:Nn (0<=out/\out<=act)
 ·have E:M6 (acP out act per=(Nb,2)):=Nf fun h=>Nc h2 h.2.1
  go_enter RX,RK
  go_wp2_with fail
  refine(YB _ _ _ _).mono ?_;rintro e w' ⟨rfl,rfl⟩;rw[h1]
  go_wp2_with fail
  refine(YB _ _ _ _).mono ?_;rintro e w' ⟨rfl,rfl⟩;rw[h2];go_wp2
  go_ret2
  exact⟨by rw[E.out];rfl,rfl⟩
 cases h3:Nn (0<=per/\per<=100)
 ·have E:M6 (acP out act per=(Nb,2)):=Nf fun h=>Nc h3 h.2.2
  go_enter RX,RK
  go_wp2_with fail
  refine(YB _ _ _ _).mono ?_;rintro e w' ⟨rfl,rfl⟩;rw[h1]
  go_wp2_with fail
  refine(YB _ _ _ _).mono ?_;rintro e w' ⟨rfl,rfl⟩;rw[h2]
  go_wp2_with fail
  refine(YB _ _ _ _).mono ?_;rintro e w' ⟨rfl,rfl⟩;rw[h3];go_wp2
  go_ret2
  exact⟨by rw[E.out];rfl,rfl⟩
 ·have E:M6 (acP out act per=(Nn ((out+1)*100<=per*act),0)):=Nh ⟨M2 h1,M2 h2,M2 h3⟩
  have i:=M2 h1;have m:=M2 h2;have j:=M2 h3;have q:0<=per*act:=Int.mul_nonneg j.1 i.1;have z:per*act<=1200:=(Px j.2 i.2 i.1 (by omega):per*act<=100*12);obtain⟨s,p⟩:=i;obtain⟨x,A⟩:=m;have y:out<=12:=by omega
  clear j;go_enter RX,RK
  go_wp2_with fail
  refine(YB _ _ _ _).mono ?_;rintro e w' ⟨rfl,rfl⟩;rw[h1]
  go_wp2_with fail
  refine(YB _ _ _ _).mono ?_;rintro e w' ⟨rfl,rfl⟩;rw[h2]
  go_wp2_with fail
  refine(YB _ _ _ _).mono ?_;rintro e w' ⟨rfl,rfl⟩;rw[h3];go_wp2
  go_ret2
  exact⟨by rw[E.out];rfl,rfl⟩
theorem arx{now:Int}(hw:ZT n f d)(hnow:0<=now/\now<=1099511627776)(hh:ZO n l.length o u t)(h:o=Nb\/now<u):Ze n f d l o u t now=((l,o,u,t),Nb,0):=by
 unfold Ze YR;rw[Nh hw,Nh hnow,Nh hh,Nh rfl,Nf];rintro⟨h1,h2⟩;rcases h with h|h
 ·rw[h1]at h;cases h
 ·omega
end
end Go.Proofs.YtgnclkcdnbfeeaaGreatDoor.Q
