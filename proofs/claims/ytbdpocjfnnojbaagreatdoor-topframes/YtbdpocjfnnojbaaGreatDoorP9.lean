/-
  Contracts of the layers and of core, part 9. Conditions: as each theorem says.
-/
import Derived.Deep.Upon
import Derived.BigQuiet
import Derived.Shelf.SlSortCmp.QuietGrown
import Derived.SizedLaws
import Derived.Deep.Slices
import Derived.Test.YtbdpocjfnnojbaaGreatDoorP0
import Derived.Deep.CutRange
import Derived.Lib.AppendZerosOnto
open Array renaming getElem?_eq_some_iff->ZAa
open Bool renaming false->Nb,true->Nw
open Decidable renaming decide->Nn
open Go renaming Addr->Oc,Calls->Ni,Program->O8,TypeId->NU,Value->M7,World->MO,cell_grown->Ob,grownCap->QR,maxLen->NE,results->Pf,undef->PL,wpQuiet_nil->Oy,wp_region_quiet_grown->NQ
open Go.Builtin renaming append_->N2,zeroCells->N5
open Go.Calls renaming grown_of->NZ
open Go.Ending renaming returned->MN
open Go.Fn renaming func->PD
open Go.IntKind renaming i64->ME
open Go.Obj renaming cells->MP
open Go.Proofs.Tryz renaming func103->R3,func106->Ta,func112->SP,func114->S7,func144->Wu,func146->SL,func161->UT,func168->SS,func170->S4,func189->ayi,func203->Wv,func204->azN,func221->UU,func222->aAR,func223->Um,func224->Uk,func235->RS,func248->VO,func256->aAm,func280->aAW,func282->aAA,func283->aAB,func31->WI,func51->aAE,func52->azy,func70->Tj,func71->aAZ,func90->aA0,ntmps103->RP,ntmps106->SG,ntmps112->Su,ntmps114->SF,ntmps144->Wj,ntmps146->Sn,ntmps161->UG,ntmps168->Sw,ntmps170->SC,ntmps189->aya,ntmps203->Wk,ntmps204->azE,ntmps221->UH,ntmps222->aAH,ntmps223->Ub,ntmps224->Ua,ntmps235->RI,ntmps248->VG,ntmps256->aAg,ntmps280->aAM,ntmps282->aAu,ntmps283->aAv,ntmps31->WA,ntmps51->aAw,ntmps52->azs,ntmps70->SK,ntmps71->aAO,ntmps90->aAX,prog->MK,results112->aAj,results114->Vy,results146->Up,results161->aAc,results173->aAi,results233->az7,results235->aAC,results282->aAl,underlying134->az5,underlying208->az4,underlying222->aAo,underlying224->axR,underlying38->UZ,underlying40->U3,underlying51->aAp
open Go.RowKit renaming Below->MQ,Hid->M6,intOf->On,ownsRow_setCell_below->QX
open Go.Sort renaming alloc_eq_grow->PQ,grow->Oj
open Go.Value renaming agg->Ny,bool->M3,func->PB,int->MF,ownBlock->QQ,pointer->Na,slice->MG,tuple->Nv
open Go.World renaming cell?->Nl,frozen?->Ng
open List renaming getElem?_eq_some_iff->ZAb,length_eq_zero_iff->ZAc,mem_map->ZAd,range->Pm,replicate->Nj
open Option renaming none->MH,some->MI
open Or renaming inl->Nt,inr->NF
namespace Go.Proofs.YtbdpocjfnnojbaaGreatDoor.Q
set_option linter.unusedVariables false
set_option linter.unusedSimpArgs false
set_option maxHeartbeats 16000000
set_option maxRecDepth 100000
open Go.RowKit
attribute [local go_sem ↓] Go.wp_at_zero Go.wp_at_succ
section
variable {b d n x y:Int}{W w:MO}
theorem adT{g:Nat}{a:M7}{T:NU}(h:w.heap[g]?=MI (MP #[a] T (0,0))):w.cell? ⟨g,0,MH⟩=MI a/\w.frozen? ⟨g,0,MH⟩=Nb/\g<w.heap.size :=
 ⟨by simp[Nl,h],by simp[Ng,h],(ZAa.1 h).1⟩
theorem ag4{g:Nat}{a a':M7}{T:NU}(h:w.heap[g]?=MI (MP #[a] T (0,0))):(w.setCell ⟨g,0,MH⟩ a').heap[g]?=MI (MP #[a'] T (0,0)):=
 NI w g 0 _ _ a' h
section
open Go.Sort (grow grow_empty grow_grow alloc_eq_grow cell?_grow heap_grow_old)
theorem afy(w:MO)(q:Nat)(os:Array Obj):yA w (Oj (w.drewN q) os):=
 ⟨rfl,rfl,rfl,by simp[Oj,World.drewN],fun k hk=>heap_grow_old (w.drewN q) os hk⟩
abbrev Zp(n d b:Int):Prop:=(0<=n/\n<=20)/\(1<=d/\d<=20)/\(0<=b/\b<=20)
def aaY(n d b:Int):Int:=if Zp n d b then 0 else 2
def YN(n d b x:Int):Int:=if Zp n d b then(if 0<=x/\x<=b*d then 0 else 6)else 2
def aeB(n d b:Int):Int×Int:=if Zp n d b then(b*d,0)else(0,2)
def aa9(n d b x:Int):Int×Int:=if YN n d b x=0 then(min (x+n) (b*d),0)else(0,YN n d b x)
def Zh(n d b x:Int):Int×Int:=if YN n d b x=0 then(if x<d then(0,11)else(x-d,0))else(0,YN n d b x)
theorem ajO:YN n d b x=0↔Zp n d b/\0<=x/\x<=b*d:=by
 unfold YN
 by_cases h:Zp n d b
 ·rw[Nh h]
  by_cases h2:0<=x/\x<=b*d
  ·rw[Nh h2];exact⟨fun _=>⟨h,h2⟩,fun _=>rfl⟩
  ·rw[Nf h2];exact⟨fun e=>absurd e (by decide),fun e=>absurd e.2 h2⟩
 ·rw[Nf h];exact⟨fun e=>absurd e (by decide),fun e=>absurd e.1 h⟩
theorem ajN(n d b x:Int):(YN n d b x=2/\¬Zp n d b)\/(YN n d b x=6/\Zp n d b)\/(YN n d b x=0/\Zp n d b/\0<=x/\x<=b*d):=by
 unfold YN
 by_cases h:Zp n d b
 ·rw[Nh h]
  by_cases h2:0<=x/\x<=b*d
  ·rw[Nh h2];exact NF (NF ⟨rfl,h,h2⟩)
  ·rw[Nf h2];exact NF (Nt ⟨rfl,h⟩)
 ·rw[Nf h];exact Nt ⟨rfl,h⟩
theorem afA(hd:1<=d/\d<=20)(hb:0<=b/\b<=20):0<=b*d/\b*d<=400 :=
 ⟨Int.mul_nonneg hb.1 (by omega),(Px hb.2 hd.2 (by omega) (by omega):b*d<=20*20)⟩
abbrev adf(n d b:Int):Value:=Ny #[yB n,yB d,yB b]
theorem ach(n lo:Int)(w:MO):Ni MK 71 #[yB n,yB lo] w fun r w'=>r=MN (M3 (Nn (lo<=n/\n<=20)))/\w'=w:=by
 obtain⟨c,a⟩:=yE (Nn (lo<=n/\n<=20));rw[<-a];have H:M6 _:=a;clear a;cases h1:Nn (lo<=n)
 ·go_enter aAZ,aAO
  go_wp2;go_ret;exact⟨by rw[H.out,M0 (fun h=>Nc h1 h.1)];rfl,rfl⟩
 ·cases h2:Nn (n<=20)
  ·go_enter aAZ,aAO
   go_wp2;go_ret;exact⟨by rw[H.out,M0 (fun h=>Nc h2 h.2)];rfl,rfl⟩
  ·go_enter aAZ,aAO
   go_wp2;go_ret;exact⟨by rw[H.out,Nq ⟨M2 h1,M2 h2⟩];rfl,rfl⟩
theorem ajU(n d b:Int)(w:MO)(hd:1<=d/\d<=20)(hb:0<=b/\b<=20):Ni MK 52 #[adf n d b] w fun r w'=>r=MN (yB (b*d))/\∃q os,w'=Oj (w.drewN q) os:=by
 obtain⟨a,c⟩:=afA hd hb;go_enter azy,azs;go_wp2;go_ret;refine⟨rfl,0,#[MP #[yB n,yB d,yB b] 32],?_⟩;rw[PQ];rfl
theorem ajT(n d b:Int)(w:MO)(hd:1<=d/\d<=20)(hb:0<=b/\b<=20):Ni MK 52 #[adf n d b] w fun r w'=>r=MN (yB (b*d))/\yA w w':=by
 refine(ajU n d b w hd hb).mono ?_;rintro r w' ⟨rfl,q,a,rfl⟩;exact⟨rfl,afy _ _ _⟩
theorem afz(n d b:Int)(w:MO):Ni MK 51 #[adf n d b] w fun r w'=>r=MN (yB (aaY n d b))/\yA w w':=by
 obtain⟨c,a⟩:=yE (w.alloc (MP #[yB n,yB d,yB b] 32));have g:c.heap[w.heap.size]?=MI (MP #[yB n,yB d,yB b] 32 (0,0)):=by rw[a];exact M1 _ _
 have f:yA w c:=by rw[a];exact WQ _
 obtain⟨c0,c1,c2,_⟩:=aeD g;have H:M6 (_/\_):=⟨a,f⟩;clear a f g;cases h1:Nn (0<=n/\n<=20)
 ·have E:M6 (aaY n d b=2):=Nf fun h=>Nc h1 h.1
  go_enter aAE,aAw
  go_wp2_with fail
  rw[<-H.out.1];refine(ach _ _ _).mono ?_;rintro e w' ⟨rfl,rfl⟩;rw[h1];go_wp2;go_ret;exact⟨by rw[E.out];rfl,H.out.2⟩
 cases h2:Nn (0<=b/\b<=20)
 ·have E:M6 (aaY n d b=2):=Nf fun h=>Nc h2 h.2.2
  go_enter aAE,aAw
  go_wp2_with fail
  rw[<-H.out.1];refine(ach _ _ _).mono ?_;rintro e w' ⟨rfl,rfl⟩;rw[h1]
  go_wp2_with fail
  refine(ach _ _ _).mono ?_;rintro e w' ⟨rfl,rfl⟩;rw[h2];go_wp2;go_ret;exact⟨by rw[E.out];rfl,H.out.2⟩
 cases h3:Nn (1<=d/\d<=20)
 ·have E:M6 (aaY n d b=2):=Nf fun h=>Nc h3 h.2.1
  go_enter aAE,aAw
  go_wp2_with fail
  rw[<-H.out.1];refine(ach _ _ _).mono ?_;rintro e w' ⟨rfl,rfl⟩;rw[h1]
  go_wp2_with fail
  refine(ach _ _ _).mono ?_;rintro e w' ⟨rfl,rfl⟩;rw[h2]
  go_wp2_with fail
  refine(ach _ _ _).mono ?_;rintro e w' ⟨rfl,rfl⟩;rw[h3];go_wp2;go_ret;exact⟨by rw[E.out];rfl,H.out.2⟩
 ·have E:M6 (aaY n d b=0):=Nh ⟨M2 h1,M2 h3,M2 h2⟩
  go_enter aAE,aAw
  go_wp2_with fail
  rw[<-H.out.1];refine(ach _ _ _).mono ?_;rintro e w' ⟨rfl,rfl⟩;rw[h1]
  go_wp2_with fail
  refine(ach _ _ _).mono ?_;rintro e w' ⟨rfl,rfl⟩;rw[h2]
  go_wp2_with fail
  refine(ach _ _ _).mono ?_;rintro e w' ⟨rfl,rfl⟩;rw[h3];go_wp2;go_ret;exact⟨by rw[E.out];rfl,H.out.2⟩
def Bx(w W:MO)(n d b x:Int):Prop :=
 W.heap[w.heap.size]?=MI (MP #[yB n,yB d,yB b] 32 (0,0))/\W.heap[w.heap.size+1]?=MI (MP #[yB x] 51 (0,0))/\yA w W
theorem ag3(w:MO)(n d b x:Int):Bx w ((w.alloc (MP #[yB n,yB d,yB b] 32)).alloc (MP #[yB x] 51)) n d b x :=
 ⟨Xy _ _ (M1 _ _),Yu _ _ _,((MY _ _).alloc (MV _) _).alloc (by simp) _⟩
theorem Bx.below{W':MO}(h:Bx w W n d b x)(hb:yA W W'):Bx w W' n d b x :=
 ⟨WO h.1 hb,WO h.2.1 hb,h.2.2.trans (hb.mono h.2.2.size)⟩
theorem Bx.Gg(h:Bx w W n d b x):W.cell? ⟨w.heap.size,0,MH⟩=MI (yB n)/\W.cell? ⟨w.heap.size,1,MH⟩=MI (yB d)/\W.cell? ⟨w.heap.size,2,MH⟩=MI (yB b)/\W.cell? ⟨w.heap.size+1,0,MH⟩=MI (yB x):=by
 obtain⟨c0,c1,c2,_⟩:=aeD h.1;exact⟨c0,c1,c2,Xu h.2.1⟩
theorem ajQ(n d b x:Int)(w:MO):Ni MK 167 #[adf n d b,Ny #[yB x]] w fun r w'=>r=MN (yB (YN n d b x))/\yA w w':=by
 obtain⟨u,s⟩:=yE ((w.alloc (MP #[yB n,yB d,yB b] 32)).alloc (MP #[yB x] 51));have q:Bx w u n d b x:=by rw[s];exact ag3 _ _ _ _ _
 obtain⟨c0,c1,c2,c3⟩:=q.Gg;have H:M6 (_/\_):=⟨s,q⟩;clear s q;go_enter Tryz.func167,Tryz.ntmps167
 go_wp2_with fail
 rw[<-H.out.1];refine(afz n d b _).mono ?_;rintro r a ⟨rfl,v⟩;have p:=H.out.2.below v;clear c0 c1 c2 c3 v H;obtain⟨c0,c1,c2,c3⟩:=p.Gg;have g:M6 _:=p.2.2;clear p
 by_cases hok:Zp n d b
 ·rw[show aaY n d b=0 from Nh hok]
  obtain⟨z,o,l⟩:=hok;obtain⟨F,G⟩:=afA o l;have t:M6 (∀W,_):=fun W=>ajU n d b W o l
  have E:M6 (YN n d b x=if 0<=x/\x<=b*d then 0 else 6):=Nh ⟨z,o,l⟩;clear z o l;generalize b*d=m at *;have B:∀n' os,(Oj (a.drewN n') os).cell? ⟨w.heap.size,0,MH⟩=MI (yB n):=Ob (MX _ _ c0) c0;have A:∀n' os,(Oj (a.drewN n') os).cell? ⟨w.heap.size,1,MH⟩=MI (yB d):=Ob (MX _ _ c1) c1;have C:∀n' os,(Oj (a.drewN n') os).cell? ⟨w.heap.size,2,MH⟩=MI (yB b):=Ob (MX _ _ c2) c2;have D:∀n' os,(Oj (a.drewN n') os).cell? ⟨w.heap.size+1,0,MH⟩=MI (yB x):=Ob (MX _ _ c3) c3;cases h1:Nn (x<0)
  case true =>
   have i:M6 (YN n d b x=6):=(by rw[E.out,Nf fun h=>by have:=M2 h1;omega]:YN n d b x=6);clear E
   go_wp2_with fail
   refine NQ XY (by kernel_rfl) ?_
   repeat (first|go_big_quiet_skip|quiet_step (first|(go_at_call 52;exact Calls.grown_of (t.out _))))
   refine Oy ?_;intro _ k;obtain⟨⟨e,c⟩,j⟩:=k;subst j;have f:M6 (yA w (Oj (a.drewN e) c)):=g.out.trans ((afy a e c).mono g.out.size);generalize Oj (a.drewN e) c=w3 at f⊢;go_wp2;go_ret;exact⟨by rw[i.out];rfl,f.out⟩
  cases h2:Nn (m<x)
  case true =>
   have i:M6 (YN n d b x=6):=(by rw[E.out,Nf fun h=>by have:=M2 h2;omega]:YN n d b x=6);clear E
   go_wp2_with fail
   refine NQ XY (by kernel_rfl) ?_
   repeat (first|go_big_quiet_skip|quiet_step (first|(go_at_call 52;exact NZ (t.out _))))
   refine Oy ?_;intro _ k;obtain⟨⟨e,c⟩,j⟩:=k;subst j;have f:M6 (yA w (Oj (a.drewN e) c)):=g.out.trans ((afy a e c).mono g.out.size);generalize Oj (a.drewN e) c=w3 at f⊢;go_wp2;go_ret;exact⟨by rw[i.out];rfl,f.out⟩
  case false =>
   have i:M6 (YN n d b x=0):=(by rw[E.out,Nh ⟨by have:=Nc h1;omega,by have:=Nc h2;omega⟩]:YN n d b x=0);clear E
   go_wp2_with fail
   refine NQ XY (by kernel_rfl) ?_
   repeat (first|go_big_quiet_skip|quiet_step (first|(go_at_call 52;exact NZ (t.out _))))
   refine Oy ?_;intro _ k;obtain⟨⟨e,c⟩,j⟩:=k;subst j;have f:M6 (yA w (Oj (a.drewN e) c)):=g.out.trans ((afy a e c).mono g.out.size);generalize Oj (a.drewN e) c=w3 at f⊢;go_wp2;go_ret;exact⟨by rw[i.out];rfl,f.out⟩
 ·rw[show aaY n d b=2 from Nf hok]
  have i:M6 (YN n d b x=2):=Nf hok;clear hok;go_wp2;go_ret;exact⟨by rw[i.out];rfl,g.out⟩
theorem aob(h:Zp n d b):aaY n d b=0:=Nh h
theorem aoa(h:¬Zp n d b):aaY n d b=2:=Nf h
abbrev Z9(x:Int):Value:=Ny #[yB x]
theorem aod(n d b:Int)(w:MO):Ni MK 31 #[adf n d b] w fun r w'=>r=MN (Nv #[Z9 (aeB n d b).1,yB (aeB n d b).2])/\yA w w':=by
 obtain⟨i,f⟩:=yE ((w.alloc (MP #[yB n,yB d,yB b] 32)).alloc (MP #[yB 0] 51));have e:Bx w i n d b 0:=by rw[f];exact ag3 _ _ _ _ _
 obtain⟨c0,c1,c2,c3⟩:=e.Gg;have H:M6 (_/\_):=⟨f,e⟩;clear f e;go_enter WI,WA
 go_wp2_with fail
 rw[<-H.out.1];refine(afz n d b _).mono ?_;rintro r q ⟨rfl,k⟩;have c:=H.out.2.below k;clear c0 c1 c2 c3 k H;obtain⟨c0,c1,c2,c3⟩:=c.Gg;obtain⟨_,l,_⟩:=adT c.2.1;have a:M6 (Bx _ _ _ _ _ _):=c;clear c
 by_cases hok:Zp n d b
 ·rw[aob hok]
  have E:M6 (aeB n d b=(b*d,0)):=Nh hok;have o:M6 (∀W,_):=fun W=>ajT n d b W hok.2.1 hok.2.2
  clear hok;generalize b*d=m at *
  go_wp2_with fail
  refine(o.out _).mono ?_;rintro r p ⟨rfl,j⟩;have g:=a.out.below j;clear c0 c1 c2 c3 l j a o;obtain⟨c3,l,_⟩:=adT g.2.1;have a:M6 (Bx _ _ _ _ _ _):=g;clear g;go_wp2;exact Np (v:=Nv #[Z9 m,yB 0]) (XT Tryz.results31 rfl rfl (Xp (P:=MK) (cs:=[yB m]) (ag4 a.out.2.1) aAp rfl (by kernel_rfl))) rfl ⟨by rw[E.out],a.out.2.2.setCell (by simp) _⟩
 ·rw[aoa hok]
  have E:M6 (aeB n d b=(0,2)):=Nf hok;clear hok;go_wp2;exact Np (v:=Nv #[Z9 0,yB 2]) (XT Tryz.results31 rfl rfl (Xp (P:=MK) (cs:=[yB 0]) (ag4 a.out.2.1) aAp rfl (by kernel_rfl))) rfl ⟨by rw[E.out],a.out.2.2.setCell (by simp) _⟩
def By(w W:MO)(n d b x y:Int):Prop :=
 Bx w W n d b x/\W.heap[w.heap.size+1+1]?=MI (MP #[yB y] 51 (0,0))
theorem ajP(w:MO)(n d b x y:Int):By w (((w.alloc (MP #[yB n,yB d,yB b] 32)).alloc (MP #[yB x] 51)).alloc (MP #[yB y] 51)) n d b x y :=
 ⟨(ag3 w n d b x).below (WQ _),aeC _ _ _ _⟩
theorem By.below{W':MO}(h:By w W n d b x y)(hb:yA W W'):By w W' n d b x y :=
 ⟨h.1.below hb,WO h.2 hb⟩
theorem By.F4(h:By w W n d b x y)(z:Int):By w (W.setCell ⟨w.heap.size+1+1,0,MH⟩ (yB z)) n d b x z :=
 ⟨⟨(MU _ _ _ _ (by simp;omega)).trans h.1.1,(MU _ _ _ _ (by simp)).trans h.1.2.1,h.1.2.2.setCell (by simp;omega) _⟩,ag4 h.2⟩
theorem By.GY(h:By w W n d b x y):By w W.drew n d b x y:=h.below ((MY _ _).drew)
theorem By.res(h:By w W n d b x y){fn:Func}{i z:Tmp}(hr:fn.results=#[.cell i 51,.tmp z]){tmps:Array M7}{e:M7}(hx:tmps.getD i PL=Na (MI ⟨w.heap.size+1+1,0,MH⟩))(hz:tmps.getD z PL=e):
  (Pf fn tmps).run MK W=.ok (Nv #[Z9 y,e]) W :=
 XT hr hx hz (Xp (P:=MK) (cs:=[yB y]) h.2 aAp rfl (by kernel_rfl))
theorem aoc(h:YN n d b x=0):aa9 n d b x=(min (x+n) (b*d),0):=Nh h
theorem ajS(e:Int)(h:YN n d b x=e)(he:e≠0):aa9 n d b x=(0,e):=by unfold aa9;rw[h,Nf he]
theorem aof(h:YN n d b x=0)(h2:d<=x):Zh n d b x=(x-d,0):=by unfold Zh;rw[Nh h,Nf (by omega)]
theorem aoe(h:YN n d b x=0)(h2:x<d):Zh n d b x=(0,11):=by unfold Zh;rw[Nh h,Nh h2]
theorem ajW(e:Int)(h:YN n d b x=e)(he:e≠0):Zh n d b x=(0,e):=by unfold Zh;rw[h,Nf he]
theorem Bx.GQ(h:Bx w W n d b x):W.cell? ⟨w.heap.size,0,MH⟩=MI (yB n)/\W.cell? ⟨w.heap.size,1,MH⟩=MI (yB d)/\W.cell? ⟨w.heap.size,2,MH⟩=MI (yB b)/\W.cell? ⟨w.heap.size+1,0,MH⟩=MI (yB x)/\Bx w W n d b x :=
 ⟨h.Gg.1,h.Gg.2.1,h.Gg.2.2.1,h.Gg.2.2.2,h⟩
theorem ajV(n d b x:Int)(w:MO):Ni MK 173 #[adf n d b,Z9 x] w fun r w'=>r=MN (Nv #[Z9 (Zh n d b x).1,yB (Zh n d b x).2])/\yA w w':=by
 obtain⟨j,i⟩:=yE (((w.alloc (MP #[yB n,yB d,yB b] 32)).alloc (MP #[yB x] 51)).alloc (MP #[yB 0] 51));have g:By w j n d b x 0:=by rw[i];exact ajP _ _ _ _ _ _
 obtain⟨c0,c1,c2,c3⟩:=g.1.Gg;have H:M6 (_/\By _ _ _ _ _ _ _):=⟨i,g⟩;clear i g;go_enter Tryz.func173,Tryz.ntmps173
 go_wp2_with fail
 rw[<-H.out.1];refine(ajQ n d b x _).mono ?_;rintro r s ⟨rfl,m⟩;have f:=H.out.2.below m;clear c0 c1 c2 c3 m H;obtain⟨c0,c1,c2,c3⟩:=f.1.Gg;obtain⟨c4,q,_⟩:=adT f.2;have c:M6 (By _ _ _ _ _ _ _):=f;clear f;rcases ajN n d b x with⟨a,_⟩|⟨a,_⟩|⟨a,e,o,k⟩
 ·have E:M6 (Zh n d b x=(0,2)):=ajW 2 a (by decide)
  rw[a];clear a;go_wp2;exact Np (v:=Nv #[Z9 0,yB 2]) ((c.out.F4 0).res aAi rfl rfl) rfl ⟨by rw[E.out],(c.out.F4 0).1.2.2⟩
 ·have E:M6 (Zh n d b x=(0,6)):=ajW 6 a (by decide)
  rw[a];clear a;go_wp2;exact Np (v:=Nv #[Z9 0,yB 6]) ((c.out.F4 0).res aAi rfl rfl) rfl ⟨by rw[E.out],(c.out.F4 0).1.2.2⟩
 ·have l:=afA e.2.1 e.2.2
  have t:=e.2.1;have p:x<=400:=by omega
  cases hc:Nn (x<d)
  ·have E:M6 (Zh n d b x=(x-d,0)):=aof a (by have:=Nc hc;omega)
   rw[a];clear a e k l;go_wp2;exact Np (v:=Nv #[Z9 (x-d),yB 0]) ((c.out.F4 (x-d)).res aAi rfl rfl) rfl ⟨by rw[E.out],(c.out.F4 (x-d)).1.2.2⟩
  ·have E:M6 (Zh n d b x=(0,11)):=aoe a (M2 hc)
   rw[a];clear a e k l;go_wp2;exact Np (v:=Nv #[Z9 0,yB 11]) ((c.out.F4 0).res aAi rfl rfl) rfl ⟨by rw[E.out],(c.out.F4 0).1.2.2⟩
theorem ajR(n d b x:Int)(w:MO):Ni MK 112 #[adf n d b,Z9 x] w fun r w'=>r=MN (Nv #[Z9 (aa9 n d b x).1,yB (aa9 n d b x).2])/\yA w w':=by
 obtain⟨o,k⟩:=yE (((w.alloc (MP #[yB n,yB d,yB b] 32)).alloc (MP #[yB x] 51)).alloc (MP #[yB 0] 51));have j:By w o n d b x 0:=by rw[k];exact ajP _ _ _ _ _ _
 obtain⟨c0,c1,c2,c3⟩:=j.1.Gg;have H:M6 (_/\By _ _ _ _ _ _ _):=⟨k,j⟩;clear k j;go_enter SP,Su
 go_wp2_with fail
 rw[<-H.out.1];refine(ajQ n d b x _).mono ?_;rintro r D ⟨rfl,p⟩;have i:=H.out.2.below p;clear c0 c1 c2 c3 p H;obtain⟨c0,c1,c2,c3⟩:=i.1.Gg;obtain⟨c4,C,_⟩:=adT i.2;have e:M6 (By _ _ _ _ _ _ _):=i;clear i;rcases ajN n d b x with⟨a,_⟩|⟨a,_⟩|⟨a,f,z,t⟩
 ·have E:M6 (aa9 n d b x=(0,2)):=ajS 2 a (by decide)
  rw[a];clear a;go_wp2;exact Np (v:=Nv #[Z9 0,yB 2]) ((e.out.F4 0).res aAj rfl rfl) rfl ⟨by rw[E.out],(e.out.F4 0).1.2.2⟩
 ·have E:M6 (aa9 n d b x=(0,6)):=ajS 6 a (by decide)
  rw[a];clear a;go_wp2;exact Np (v:=Nv #[Z9 0,yB 6]) ((e.out.F4 0).res aAj rfl rfl) rfl ⟨by rw[E.out],(e.out.F4 0).1.2.2⟩
 ·have A:=afA f.2.1 f.2.2
  have F:=f.1;have q:M6 (∀W,_):=fun W=>ajT n d b W f.2.1 f.2.2
  have E:M6 (aa9 n d b x=(min (x+n) (b*d),0)):=aoc a;rw[a];clear a f;generalize b*d=m at *;have B:x<=400:=by omega
  have u:IntKind.i64.wrap (x+n)=x+n:=by rw[Ow];omega
  by_cases hm:m<x+n
  ·have a:M6 (min (x+n) m=m):=(by omega:min (x+n) m=m)
   go_wp2_with fail
   go_region_held3 (fun W=>W.cell? ⟨w.heap.size,0,MH⟩=MI (yB n)/\W.cell? ⟨w.heap.size,1,MH⟩=MI (yB d)/\W.cell? ⟨w.heap.size,2,MH⟩=MI (yB b)/\W.cell? ⟨w.heap.size+1,0,MH⟩=MI (yB x)/\Bx w W n d b x) (first|exact(e.out.GY).1.GQ|exact c.out.1.GQ|exact(c.out.F4 _).1.GQ) (first|(go_at_call 52;refine(q.out _).mono ?_;rintro r l ⟨rfl,g⟩;have c:M6 (By w l n d b x 0):=e.out.below (Za g);clear g;have c5:=Xu c.out.2;have s:=(adT c.out.2).2.1))
   all_goals
    go_wp2;exact Np (v:=Nv #[Z9 m,yB 0]) ((c.out.F4 m).res aAj rfl rfl) rfl ⟨by rw[E.out,a.out],(c.out.F4 _).1.2.2⟩
  ·have a:M6 (min (x+n) m=x+n):=(by omega:min (x+n) m=x+n)
   go_wp2_with fail
   go_region_held3 (fun W=>W.cell? ⟨w.heap.size,0,MH⟩=MI (yB n)/\W.cell? ⟨w.heap.size,1,MH⟩=MI (yB d)/\W.cell? ⟨w.heap.size,2,MH⟩=MI (yB b)/\W.cell? ⟨w.heap.size+1,0,MH⟩=MI (yB x)/\Bx w W n d b x) (first|exact(e.out.GY).1.GQ|exact c.out.1.GQ|exact(c.out.F4 _).1.GQ) (first|(go_at_call 52;refine(q.out _).mono ?_;rintro r l ⟨rfl,g⟩;have c:M6 (By w l n d b x 0):=e.out.below (Za g);clear g;have c5:=Xu c.out.2;have s:=(adT c.out.2).2.1))
   all_goals
    go_wp2;exact Np (v:=Nv #[Z9 (x+n),yB 0]) ((c.out.F4 (x+n)).res aAj rfl rfl) rfl ⟨by rw[E.out,a.out],(c.out.F4 _).1.2.2⟩
end
end
section
variable {a b c d u v y:M7}{w w0:MO}{T:NU}{B H R base g k:Nat}
theorem auL:(MK.info? 134).map (fun i=>(i.zero,i.size,i.bytes))=MI (MI (Ny #[yB 0,yB 0]),2,16):=by kernel_rfl
theorem ank{W w1:MO}(hb:yA W w1):(∀b o,b<W.heap.size->w1.cell? ⟨b,o,MH⟩=W.cell? ⟨b,o,MH⟩)/\(∀b o,b<W.heap.size->w1.frozen? ⟨b,o,MH⟩=W.frozen? ⟨b,o,MH⟩):=
 ⟨fun b o h=>hb.cell (p:=⟨b,o,MH⟩) h,fun b o h=>hb.frozen (p:=⟨b,o,MH⟩) h⟩
theorem afp{fn:Func}{x y z:Tmp}{t u:NU}(h:fn.results=#[.cell x t,.cell y u,.tmp z]){tmps:Array M7}{P:O8}{p q:Oc}{v1 v2 v3:M7}(hx:tmps.getD x PL=Na (MI p))(hy:tmps.getD y PL=Na (MI q))(hz:tmps.getD z PL=v3)
  (h1:(loadVar t p).run P w=.ok v1 w) (h2:(loadVar u q).run P w=.ok v2 w):(Pf fn tmps).run P w=.ok (Nv #[v1,v2,v3]) w:=by
 have e:∀a:Oc,(asAddr (Na (MI a))).run P w=.ok a w:=fun a=>rfl
 simp only[Pg]at hx hy hz;simp[Pf,h,hx,hy,hz,e,h1,h2,Pn]
abbrev Sl:=Int×Bool×Int×Int
variable {l:List Sl}{x:Sl}
def XF:List Sl->List M7
 | []=>[]
 |t::l=>yB t.1::M3 t.2.1::yB t.2.2.1::yB t.2.2.2::XF l
theorem ac7:∀l:List Sl,(XF l).length=l.length*4
 | []=>rfl
 |t::l=>by simp[XF,ac7 l];omega
theorem adJ:∀(l:List Sl) (i:Nat) (h:i<l.length),(XF l)[i*4]?=MI (yB l[i].1)/\(XF l)[i*4+1]?=MI (M3 l[i].2.1)/\(XF l)[i*4+2]?=MI (yB l[i].2.2.1)/\(XF l)[i*4+3]?=MI (yB l[i].2.2.2)
 |t::l,0,_=>by simp[XF]
 |t::l,i+1,h=>by
  have e:=adJ l i (by simpa using h);rw[show(i+1)*4=i*4+1+1+1+1 by omega]
  simpa [XF]using e
theorem ann:∀(l:List Sl) (j:Nat) (t:Sl),((((XF l).set (j*4) (yB t.1)).set (j*4+1) (M3 t.2.1)).set (j*4+2) (yB t.2.2.1)).set (j*4+3) (yB t.2.2.2)=XF (l.set j t)
 | [],j,t=>by simp[XF]
 |x::l,0,t=>by simp[XF]
 |x::l,j+1,t=>by
  have:=ann l j t;rw[show(j+1)*4=j*4+1+1+1+1 by omega];simp[XF,this]
theorem auW(l:List Sl):∀u∈XF l,u.oneCell'=true:=by
 induction l with
 |nil=>simp[XF]
 |cons t l ih =>
  simp only[XF,OO];rintro u (rfl|rfl|rfl|rfl|h)
  ·rfl
  ·rfl
  ·rfl
  ·rfl
  ·exact ih u h
def Yy(w:MO)(v:M7)(l:List Sl):Prop:=XB w v l.length (XF l)
theorem Yy.below{w':MO}(h:Yy w v l)(hb:yA w w'):Yy w' v l:=XB.below h hb
theorem Yy.F6(h:Yy w v l):
  ∃a cap,v=MG a l.length cap/\l.length<=cap/\cap<=NE/\∀i (hi:i<l.length),∃b off,a=MI ⟨b,off,MH⟩/\b<w.heap.size/\w.cell? ⟨b,off+i*4,MH⟩=MI (yB l[i].1)/\w.cell? ⟨b,off+i*4+1,MH⟩=MI (M3 l[i].2.1)/\w.cell? ⟨b,off+i*4+2,MH⟩=MI (yB l[i].2.2.1)/\w.cell? ⟨b,off+i*4+3,MH⟩=MI (yB l[i].2.2.2):=by
 obtain⟨a,cap,o,m,j,f|⟨b,off,f,p,e⟩⟩:=h
 ·exact⟨a,cap,o,m,j,fun i hi=>absurd hi (by omega)⟩
 ·refine⟨a,cap,o,m,j,fun i hi=>⟨b,off,f,p,?_,?_,?_,?_⟩⟩
  ·rw[e (i*4) (by rw[ac7];omega)];exact(adJ l i hi).1
  ·rw[Nat.add_assoc,e (i*4+1) (by rw[ac7];omega)];exact(adJ l i hi).2.1
  ·rw[Nat.add_assoc,e (i*4+2) (by rw[ac7];omega)];exact(adJ l i hi).2.2.1
  ·rw[Nat.add_assoc,e (i*4+3) (by rw[ac7];omega)];exact(adJ l i hi).2.2.2
theorem anm:(MK.info? 208).map (fun i=>(i.zero,i.size,i.bytes))=MI (MI (Ny #[yB 0,M3 Nb,yB 0,yB 0]),4,32):=by kernel_rfl
abbrev ZX(t:Sl):Prop:=t.2.1=Nb/\t.2.2.1=0/\t.2.2.2=0
abbrev ac5(n:Int):Prop:=0<=n/\n<=4294967295
abbrev aca(n:Int):Prop:=0<=n/\n<12
abbrev Yt(t:Sl):Prop:=if t.2.1=Nw then(0<=t.1/\t.1<=1048575)/\ac5 t.2.2.1/\aca t.2.2.2 else(0<=t.1/\t.1<=1048576)/\t.2.2.1=0/\t.2.2.2=0
theorem auF(g:Int)(u:Bool)(k b:Int):(u=Nb/\k=0/\b=0)\/u=Nw\/(u=Nb/\(k == 0)=Nb)\/(u=Nb/\k=0/\(b == 0)=Nb):=by
 cases u
 ·by_cases h:k=0
  ·by_cases h2:b=0
   ·exact Nt ⟨rfl,h,h2⟩
   ·exact NF (NF (NF ⟨rfl,h,by simpa using h2⟩))
  ·exact NF (NF (Nt ⟨rfl,by simpa using h⟩))
 ·exact NF (Nt rfl)
theorem afo(g:Int)(u:Bool)(k b:Int)(w:MO) :
  Ni MK 168 #[Ny #[yB g,M3 u,yB k,yB b]] w fun r w'=>r=MN (M3 (Nn (ZX (g,u,k,b))))/\yA w w':=by
 rcases auF g u k b with⟨rfl,rfl,rfl⟩|rfl|⟨rfl,h⟩|⟨rfl,rfl,h⟩
 ·have e:Nn (ZX (g,Nb,0,0))=true:=Nq ⟨rfl,rfl,rfl⟩
  rw[e];clear e;go_enter SS,Sw;go_wp2;go_ret;exact⟨rfl,YF w⟩
 ·have e:Nn (ZX (g,Nw,k,b))=false:=M0 fun h=>by cases h.1
  rw[e];clear e;go_enter SS,Sw;go_wp2;go_ret;exact⟨rfl,YF w⟩
 ·have e:Nn (ZX (g,Nb,k,b))=false:=M0 fun h2=>by have:=h2.2.1;simp at this;simp[this]at h
  rw[e];clear e;go_enter SS,Sw;go_wp2;go_ret;exact⟨rfl,YF w⟩
 ·have e:Nn (ZX (g,Nb,0,b))=false:=M0 fun h2=>by have:=h2.2.2;simp at this;simp[this]at h
  rw[e];clear e;go_enter SS,Sw;go_wp2;go_ret;exact⟨rfl,YF w⟩
theorem aen(n:Int)(w:MO):Ni MK 221 #[yB n] w fun r w'=>r=MN (M3 (Nn (ac5 n)))/\w'=w:=by
 obtain⟨e,f⟩:=yE (Nn (ac5 n));rw[<-f];have H:M6 _:=f;clear f;cases h1:Nn (0<=n)
 ·have E:M6 (e=Nb):=by rw[H.out];exact M0 fun g=>Nc h1 g.1
  go_enter UU,UH;go_wp2;go_ret;exact⟨by rw[E.out];rfl,rfl⟩
 cases h2:Nn (n<=4294967295)
 ·have E:M6 (e=Nb):=by rw[H.out];exact M0 fun g=>Nc h2 g.2
  go_enter UU,UH;go_wp2;go_ret;exact⟨by rw[E.out];rfl,rfl⟩
 ·have E:M6 (e=Nw):=by rw[H.out];exact Nq ⟨M2 h1,M2 h2⟩
  go_enter UU,UH;go_wp2;go_ret;exact⟨by rw[E.out];rfl,rfl⟩
theorem aem(n:Int)(w:MO):Ni MK 222 #[yB n] w fun r w'=>r=MN (M3 (Nn (aca n)))/\w'=w:=by
 obtain⟨e,f⟩:=yE (Nn (aca n));rw[<-f];have H:M6 _:=f;clear f;cases h1:Nn (0<=n)
 ·have E:M6 (e=Nb):=by rw[H.out];exact M0 fun g=>Nc h1 g.1
  go_enter aAR,aAH;go_wp2;go_ret;exact⟨by rw[E.out];rfl,rfl⟩
 cases h2:Nn (n<12)
 ·have E:M6 (e=Nb):=by rw[H.out];exact M0 fun g=>Nc h2 g.2
  go_enter aAR,aAH;go_wp2;go_ret;exact⟨by rw[E.out];rfl,rfl⟩
 ·have E:M6 (e=Nw):=by rw[H.out];exact Nq ⟨M2 h1,M2 h2⟩
  go_enter aAR,aAH;go_wp2;go_ret;exact⟨by rw[E.out];rfl,rfl⟩
theorem aux(g:Int)(u:Bool)(k b:Int):let ans:=Nn (¬Yt (g,u,k,b))
  (g<0/\ans=Nw)\/(0<=g/\1048576<g/\ans=Nw)\/(0<=g/\g<=1048576/\ZX (g,u,k,b)/\ans=Nb) \/
  (0<=g/\g<=1048576/\¬ZX (g,u,k,b)/\(u=Nb/\ans=Nw\/u=Nw/\((g == 1048576)=Nw/\ans=Nw\/(g == 1048576)=Nb/\(¬ac5 k/\ans=Nw\/ac5 k/\ans=Nn (¬aca b))))):=by
 intro ans
 by_cases h1:g<0
 ·refine Nt ⟨h1,Nq fun h=>?_⟩
  unfold Yt at h
  split at h <;> simp at h <;> omega
 by_cases h2:1048576<g
 ·refine NF (Nt ⟨by omega,h2,Nq fun h=>?_⟩)
  unfold Yt at h
  split at h <;> simp at h <;> omega
 by_cases h3:ZX (g,u,k,b)
 ·refine NF (NF (Nt ⟨by omega,by omega,h3,M0 fun h=>h ?_⟩))
  obtain⟨i,e,f⟩:=h3;unfold Yt;rw[i,Nf (by simp)];exact⟨⟨by simp;omega,by simp;omega⟩,e,f⟩
 refine NF (NF (NF ⟨by omega,by omega,h3,?_⟩));cases u
 ·refine Nt ⟨rfl,Nq fun h=>h3 ?_⟩
  unfold Yt at h;simp at h;exact⟨rfl,h.2⟩
 refine NF ⟨rfl,?_⟩
 by_cases h4:g=1048576
 ·refine Nt ⟨by simp[h4],Nq fun h=>?_⟩
  unfold Yt at h;simp at h;omega
 refine NF ⟨by simpa using h4,?_⟩
 by_cases h5:ac5 k
 ·refine NF ⟨h5,?_⟩
  refine decide_eq_decide.2 ⟨fun h hb=>h ?_,fun h h'=>h ?_⟩
  ·unfold Yt
   rw[Nh rfl];exact⟨⟨by simp;omega,by simp;omega⟩,h5,hb⟩
  ·unfold Yt at h'
   rw[Nh rfl]at h';exact h'.2.2
 ·refine Nt ⟨h5,Nq fun h=>h5 ?_⟩
  unfold Yt at h;rw[Nh rfl]at h;exact h.2.1
theorem auQ(g:Int)(u:Bool)(k b:Int)(w:MO) :
  Ni MK 203 #[Ny #[yB g,M3 u,yB k,yB b]] w fun r w'=>r=MN (M3 (Nn (¬Yt (g,u,k,b))))/\yA w w':=by
 have o:=aux g u k b;revert o;generalize Nn (¬Yt (g,u,k,b))=ans;intro o;rcases o with⟨C,rfl⟩|⟨C,F,rfl⟩|⟨C,F,j,rfl⟩|⟨C,F,j,o⟩
 ·go_enter Wv,Wk
  go_wp2;go_ret;exact⟨rfl,YF w⟩
 ·go_enter Wv,Wk
  go_wp2;go_ret;exact⟨rfl,YF w⟩
 ·have D:M6 _:=Nq j
  clear j;go_enter Wv,Wk
  go_wp2_with fail
  refine(afo g u k b _).mono ?_;rw[D.out];rintro r p ⟨rfl,e⟩;have f:M6 _:=(YF w).trans (e.mono (by simp));clear e;go_wp2;go_ret;exact⟨rfl,f.out⟩
 ·have D:M6 _:=M0 j
  clear j;obtain⟨t,s⟩:=yE (w.alloc (MP #[yB g,M3 u,yB k,yB b] 208));have G:t.heap[w.heap.size]?=MI (MP #[yB g,M3 u,yB k,yB b] 208 (0,0)):=by rw[s];exact M1 _ _
  have z:yA w t:=by rw[s];exact YF w
  go_enter Wv,Wk
  go_wp2_with fail
  rw[<-s];refine(afo g u k b _).mono ?_;rw[D.out];rintro r p ⟨rfl,e⟩;have i:=WO G e;have f:M6 _:=z.trans (e.mono z.size);have c0:p.cell? ⟨w.heap.size,0,MH⟩=MI (yB g):=by simp[Nl,i]
  have c1:p.cell? ⟨w.heap.size,1,MH⟩=MI (M3 u):=by simp[Nl,i]
  have c2:p.cell? ⟨w.heap.size,2,MH⟩=MI (yB k):=by simp[Nl,i]
  have c3:p.cell? ⟨w.heap.size,3,MH⟩=MI (yB b):=by simp[Nl,i]
  clear e G i z s;rcases o with⟨rfl,rfl⟩|⟨rfl,⟨K,rfl⟩|⟨K,⟨m,rfl⟩|⟨m,I⟩⟩⟩
  ·go_wp2
   go_ret;exact⟨rfl,f.out⟩
  ·go_wp2
   go_ret;exact⟨rfl,f.out⟩
  ·have A:M6 _:=M0 m
   clear m
   go_wp2_with fail
   refine(aen _ _).mono ?_;rw[A.out];rintro r E ⟨rfl,rfl⟩;go_wp2;go_ret;exact⟨rfl,f.out⟩
  ·have A:M6 _:=Nq m
   have J:M6 (ans = !(Nn (aca b))):=I.trans decide_not;clear m I
   go_wp2_with fail
   refine(aen _ _).mono ?_;rw[A.out];rintro r E ⟨rfl,rfl⟩
   go_wp2_with fail
   refine(aem _ _).mono ?_;generalize Nn (aca b)=bb at *;rintro r E ⟨rfl,rfl⟩;go_wp2;go_ret;exact⟨by rw[J.out];rfl,f.out⟩
def Yz(q:Sl->Bool):List Sl->Option Nat
 | []=>MH
 |t::l=>if q t then MI 0 else(Yz q l).map (·+1)
theorem ai1{q:Sl->Bool}:∀ {l:List Sl},(∀t∈l,q t=Nb)->Yz q l=MH
 | [],_=>rfl
 |t::l,h=>by
  unfold Yz;rw[h t (by simp),ai1 (l:=l) fun x hx=>h x (by simp[hx])];rfl
theorem ai4{q:Sl->Bool}:∀ {l:List Sl} {k:Nat} (hk:k<l.length),(∀t∈l.take k,q t=Nb)->q l[k]=Nw->Yz q l=MI k
 |t::l,0,_,_,h=>by
  unfold Yz;rw[Nh (by simpa using h)]
 |t::l,k+1,hk,h1,h2=>by
  unfold Yz;rw[Nf (by rw[h1 t (by simp)];simp),ai4 (l:=l) (k:=k) (by simpa using hk) (fun x hx=>h1 x (by simp[hx])) (by simpa using h2)];rfl
def agN(t:Sl):Bool:=Nn (¬Yt t)
theorem auK(v:M7)(l:List Sl)(w:MO)(hv:Yy w v l) :
  Ni MK 157 #[v,PB (PD 203) #[] #[]] w fun r w'=>r=MN (yB (Yn (Yz agN l)))/\yA w w':=by
 obtain⟨q,I⟩:=yE agN;obtain⟨a,ca,rfl,a1,U,K⟩:=hv.F6;unfold NE at U;have S:M6 (∀(g:Int) (u:Bool) (k b:Int) (W:MO),Ni MK 203 #[Ny #[yB g,M3 u,yB k,yB b]] W fun r w'=>r=MN (M3 (q (g,u,k,b)))/\yA W w'):=by rw[I];exact fun g u k b W=>auQ g u k b W
 rw[<-I];obtain⟨j,E⟩:=yE (Yn (Yz q l));rw[<-E];have H:M6 _:=E;clear hv E I;go_enter Tryz.func157,Tryz.ntmps157;go_wp2
 go_loopw [8] (fun i wr=>∃k:Nat,i=yB k/\k<=l.length/\(∀t∈l.take k,q t=Nb)/\yA w wr) (fun i _=>l.length-(On i).toNat)
 case atStart=>exact⟨0,rfl,Nx _,by simp,MY _ _⟩
 case round =>
  obtain⟨k,rfl,hk,m,f⟩:=hrel
  by_cases hlt:k<l.length
  ·obtain⟨D,C,rfl,s,c1,c2,c3,c4⟩:=K k hlt
   have e1:=(f.cell (p:=⟨D,C+k*4,MH⟩) s).trans c1;have Y:=(f.cell (p:=⟨D,C+k*4+1,MH⟩) s).trans c2;have Z:=(f.cell (p:=⟨D,C+k*4+2,MH⟩) s).trans c3;have V:=(f.cell (p:=⟨D,C+k*4+3,MH⟩) s).trans c4;have z:M6 (_/\_):=⟨m,f⟩;have a0:(k:Int)<(l.length:Int):=by omega
   have G:l.take (k+1)=l.take k++[l[k]]:=M9 hlt;have F:q l[k]=Nw->Yz q l=MI k:=fun h=>ai4 hlt m h
   have A:∃x,x=l[k]:=⟨_,rfl⟩;obtain⟨⟨J,O,M,L⟩,A⟩:=A;rw[<-A]at e1 Y Z V G F;have Q:M6 (_/\_):=⟨G,F⟩;clear m f c1 c2 c3 c4 s K G F A;cases hd:q (J,O,M,L)
   ·go_wp2_with fail
    refine(S.out J O M L _).mono ?_;rw[hd];rintro r w2 ⟨rfl,o⟩;have N:M6 _:=o;clear o;go_wp2
    go_roundw
    case rel =>
     refine⟨k+1,by simp,hlt,fun t e=>?_,z.out.2.trans (N.out.mono z.out.2.size)⟩;rw[Q.out.1]at e;rcases QF.1 e with e|e
     ·exact z.out.1 t e
     ·simp at e
      rw[e];exact hd
    case measure=>simp[On];omega
   ·go_wp2_with fail
    refine(S.out J O M L _).mono ?_;rw[hd];rintro r w2 ⟨rfl,o⟩;have P:M6 (j=(k:Int)):=by show j=_;rw[H.out,Q.out.2 hd];rfl
    have N:M6 _:=o;clear o;go_wp2;go_ret;exact⟨by rw[P.out];rfl,z.out.2.trans (N.out.mono z.out.2.size)⟩
  ·have P:M6 (j = -1):=by
    show j=_;rw[H.out,ai1 fun t e=>m t (by rw[N1 (by omega)];exact e)];rfl
   have HB:M6 _:=f;clear m f K;go_wp2;go_ret;exact⟨by rw[P.out];rfl,HB.out⟩
def aaU(t:Sl):Bool:=Nn (ZX t) && (t.1 != 1048576)
theorem auT(g:Int)(u:Bool)(k b:Int)(w:MO) :
  Ni MK 223 #[Ny #[yB g,M3 u,yB k,yB b]] w fun r w'=>r=MN (M3 (aaU (g,u,k,b)))/\yA w w':=by
 have o:aaU (g,u,k,b)=(Nn (ZX (g,u,k,b)) && (g != 1048576)):=rfl;obtain⟨p,j⟩:=yE (aaU (g,u,k,b));rw[<-j];rw[<-j]at o;have H:M6 _:=o;obtain⟨f,e⟩:=yE (w.alloc (MP #[yB g,M3 u,yB k,yB b] 208));have A:f.heap[w.heap.size]?=MI (MP #[yB g,M3 u,yB k,yB b] 208 (0,0)):=by rw[e];exact M1 _ _
 have s:yA w f:=by rw[e];exact YF w
 have i:M6 (_/\_/\_):=⟨e,A,s⟩;clear j o e A s;go_enter Um,Ub
 go_wp2_with fail
 rw[<-i.out.1];refine(afo g u k b _).mono ?_;generalize Nn (ZX (g,u,k,b))=fr at *;rintro r C ⟨rfl,m⟩;have t:=WO i.out.2.1 m;have c0:C.cell? ⟨w.heap.size,0,MH⟩=MI (yB g):=by simp[Nl,t]
 have z:M6 _:=i.out.2.2.trans (m.mono i.out.2.2.size);clear m t;cases fr
 ·go_wp2
  go_ret;exact⟨by rw[H.out];rfl,z.out⟩
 ·go_wp2
  go_ret;exact⟨by rw[H.out];rfl,z.out⟩
theorem anl(v:M7)(l:List Sl)(w:MO)(hv:Yy w v l) :
  Ni MK 157 #[v,PB (PD 223) #[] #[]] w fun r w'=>r=MN (yB (Yn (Yz aaU l)))/\yA w w':=by
 obtain⟨q,I⟩:=yE aaU;obtain⟨a,ca,rfl,a1,U,K⟩:=hv.F6;unfold NE at U;have S:M6 (∀(g:Int) (u:Bool) (k b:Int) (W:MO),Ni MK 223 #[Ny #[yB g,M3 u,yB k,yB b]] W fun r w'=>r=MN (M3 (q (g,u,k,b)))/\yA W w'):=by rw[I];exact fun g u k b W=>auT g u k b W
 rw[<-I];obtain⟨j,E⟩:=yE (Yn (Yz q l));rw[<-E];have H:M6 _:=E;clear hv E I;go_enter Tryz.func157,Tryz.ntmps157;go_wp2
 go_loopw [8] (fun i wr=>∃k:Nat,i=yB k/\k<=l.length/\(∀t∈l.take k,q t=Nb)/\yA w wr) (fun i _=>l.length-(On i).toNat)
 case atStart=>exact⟨0,rfl,Nx _,by simp,MY _ _⟩
 case round =>
  obtain⟨k,rfl,hk,m,f⟩:=hrel
  by_cases hlt:k<l.length
  ·obtain⟨D,C,rfl,s,c1,c2,c3,c4⟩:=K k hlt
   have e1:=(f.cell (p:=⟨D,C+k*4,MH⟩) s).trans c1;have Y:=(f.cell (p:=⟨D,C+k*4+1,MH⟩) s).trans c2;have Z:=(f.cell (p:=⟨D,C+k*4+2,MH⟩) s).trans c3;have V:=(f.cell (p:=⟨D,C+k*4+3,MH⟩) s).trans c4;have z:M6 (_/\_):=⟨m,f⟩;have a0:(k:Int)<(l.length:Int):=by omega
   have G:l.take (k+1)=l.take k++[l[k]]:=M9 hlt;have F:q l[k]=Nw->Yz q l=MI k:=fun h=>ai4 hlt m h
   have A:∃x,x=l[k]:=⟨_,rfl⟩;obtain⟨⟨J,O,M,L⟩,A⟩:=A;rw[<-A]at e1 Y Z V G F;have Q:M6 (_/\_):=⟨G,F⟩;clear m f c1 c2 c3 c4 s K G F A;cases hd:q (J,O,M,L)
   ·go_wp2_with fail
    refine(S.out J O M L _).mono ?_;rw[hd];rintro r w2 ⟨rfl,o⟩;have N:M6 _:=o;clear o;go_wp2
    go_roundw
    case rel =>
     refine⟨k+1,by simp,hlt,fun t e=>?_,z.out.2.trans (N.out.mono z.out.2.size)⟩;rw[Q.out.1]at e;rcases QF.1 e with e|e
     ·exact z.out.1 t e
     ·simp at e
      rw[e];exact hd
    case measure=>simp[On];omega
   ·go_wp2_with fail
    refine(S.out J O M L _).mono ?_;rw[hd];rintro r w2 ⟨rfl,o⟩;have P:M6 (j=(k:Int)):=by show j=_;rw[H.out,Q.out.2 hd];rfl
    have N:M6 _:=o;clear o;go_wp2;go_ret;exact⟨by rw[P.out];rfl,z.out.2.trans (N.out.mono z.out.2.size)⟩
  ·have P:M6 (j = -1):=by
    show j=_;rw[H.out,ai1 fun t e=>m t (by rw[N1 (by omega)];exact e)];rfl
   have HB:M6 _:=f;clear m f K;go_wp2;go_ret;exact⟨by rw[P.out];rfl,HB.out⟩
theorem ai3{q:Sl->Bool}:∀ {l:List Sl},(0<=Yn (Yz q l))↔∃t∈l,q t=Nw
 | []=>by simp[Yz,Yn]
 |t::l=>by
  unfold Yz;have i:=ai3 (q:=q) (l:=l)
  by_cases h:q t=Nw
  ·rw[Nh h]
   exact⟨fun _=>⟨t,by simp,h⟩,fun _=>by show(0:Int)<=((0:Nat):Int);omega⟩
  ·rw[Nf h]
   constructor
   ·intro j
    cases hf:Yz q l with
    |none=>rw[hf]at j;simp[Yn]at j
    |some k =>
     obtain⟨x,e,f⟩:=i.1 (by rw[hf];show(0:Int)<=(k:Int);omega);exact⟨x,by simp[e],f⟩
   ·rintro⟨x,e,f⟩
    rcases OO.1 e with rfl|e
    ·exact absurd f h
    ·have:=i.2 ⟨x,e,f⟩
     cases hf:Yz q l with
     |none=>rw[hf]at this;simp[Yn]at this
     |some k=>show(0:Int)<=((k+1:Nat):Int);omega
theorem auC(v:M7)(l:List Sl)(w:MO)(hv:Yy w v l) :
  Ni MK 106 #[v,PB (PD 203) #[] #[]] w fun r w'=>r=MN (M3 (Nn (¬ ∀t∈l,Yt t)))/\yA w w':=by
 have p:M6 _:=hv;have f:Nn (¬ ∀t∈l,Yt t)=Nn (0<=Yn (Yz agN l)):=by
  refine decide_eq_decide.2 ?_;rw[ai3];constructor
  ·intro h
   refine PM fun hn=>h fun t ht=>PM fun ht2=>hn ⟨t,ht,Nq ht2⟩
  ·rintro⟨t,ht,h⟩ hall
   exact M2 h (hall t ht)
 rw[f];obtain⟨j,e⟩:=yE (Yn (Yz agN l));rw[<-e];have o:M6 _:=e;clear f hv e;go_enter Ta,SG
 go_wp2_with fail
 refine(auK v l w p.out).mono ?_;rw[<-o.out];rintro r s ⟨rfl,i⟩;have m:M6 _:=i;clear i;go_wp2;go_ret;exact⟨rfl,m.out⟩
abbrev Z6(l:List Sl):Prop:=(1<=l.length/\l.length<=40)/\∀t∈l,Yt t
theorem agO(v:M7)(l:List Sl)(w:MO)(hv:Yy w v l) :
  Ni MK 144 #[Ny #[v]] w fun r w'=>r=MN (yB (if Z6 l then 0 else 6))/\yA w w':=by
 obtain⟨e,i⟩:∃e:Int,e=if Z6 l then 0 else 6:=⟨_,rfl⟩
 rw[<-i];have H:M6 _:=i;clear i;obtain⟨p,c,rfl,D,A,_⟩:=hv.F6;unfold NE at A;have z:M6 _:=hv;clear hv;cases h1:Nn ((l.length:Int)<1)
 case true =>
  have E:M6 (e=6):=by
   show e=6;rw[H.out,Nf fun h=>by have:=h.1.1;have:=M2 h1;omega]
  go_enter Wu,Wj;go_wp2;go_ret;exact⟨by rw[E.out];rfl,YF w⟩
 cases h2:Nn (40<(l.length:Int))
 case true =>
  have E:M6 (e=6):=by
   show e=6;rw[H.out,Nf fun h=>by have:=h.1.2;have:=M2 h2;omega]
  go_enter Wu,Wj;go_wp2;go_ret;exact⟨by rw[E.out];rfl,YF w⟩
 obtain⟨f,j⟩:=yE (Nn (¬ ∀t∈l,Yt t));have E:M6 (e=if f then 6 else 0):=by
  show e=_;rw[H.out,j];have F:=Nc h1;have C:=Nc h2
  by_cases h:∀t∈l,Yt t
  ·rw[Nh ⟨⟨by omega,by omega⟩,h⟩,M0 (by simpa using h)]
   rfl
  ·rw[Nf fun h'=>h h'.2,Nq h]
   rfl
 have o:M6 _:=j;clear j H;go_enter Wu,Wj
 go_wp2_with fail
 refine(auC _ l _ (z.out.below (YF w))).mono ?_;rw[<-o.out];rintro r G ⟨rfl,s⟩;have m:M6 _:=(YF w).trans (s.mono (by simp));clear s o;cases f
 ·go_wp2
  go_ret;exact⟨by rw[E.out];rfl,m.out⟩
 ·go_wp2
  go_ret;exact⟨by rw[E.out];rfl,m.out⟩
def Yj(l:List Sl)(s g:Int):Sl×Int :=
 if ¬Z6 l then((0,Nb,0,0),6)else if ¬(0<=s/\s<l.length)then((0,Nb,0,0),8)else
  let x:=l.getD s.toNat (0,Nb,0,0)
  if x.2.1=Nw/\x.1=g then(x,0)else((0,Nb,0,0),10)
theorem ajb(h:Yt x):¬ZX x↔x.2.1=true:=by
 unfold Yt at h;unfold ZX
 by_cases hu:x.2.1=Nw
 ·simp[hu]
 ·rw[Nf hu]at h
  simp only[Qc]at hu;simp[hu,h.2.1,h.2.2]
def adK(x:Sl):Value:=Ny #[yB x.1,M3 x.2.1,yB x.2.2.1,yB x.2.2.2]
def ani(w:MO)(g:Nat)(a b c d:M7):Prop :=
 (w.cell? ⟨g,0,MH⟩=MI a/\w.cell? ⟨g,1,MH⟩=MI b/\w.cell? ⟨g,2,MH⟩=MI c/\w.cell? ⟨g,3,MH⟩=MI d)/\(w.frozen? ⟨g,0,MH⟩=Nb/\w.frozen? ⟨g,1,MH⟩=Nb/\w.frozen? ⟨g,2,MH⟩=Nb/\w.frozen? ⟨g,3,MH⟩=Nb)
theorem auz(h:w.heap[g]?=MI (MP #[a,b,c,d] T (0,0))):ani w g a b c d:=by
 unfold ani;simp[Nl,Ng,h]
theorem ael{a' b' c' d':M7}(h:w.heap[g]?=MI (MP #[a,b,c,d] T (0,0))):
  ((((w.setCell ⟨g,0,MH⟩ a').setCell ⟨g,1,MH⟩ b').setCell ⟨g,2,MH⟩ c').setCell ⟨g,3,MH⟩ d').heap[g]?=MI (MP #[a',b',c',d'] T (0,0)):=
 NI _ _ 3 _ _ d' (NI _ _ 2 _ _ c' (NI _ _ 1 _ _ b' (NI w g 0 _ _ a' h)))
theorem aek(h:MQ B w0 w)(hg:B<=g):MQ B w0 ((((w.setCell ⟨g,0,MH⟩ a).setCell ⟨g,1,MH⟩ b).setCell ⟨g,2,MH⟩ c).setCell ⟨g,3,MH⟩ d):=
 (((h.setCell hg _).setCell hg _).setCell hg _).setCell hg _
theorem ai6{s g:Int}(hok:Z6 l)(h:s<0\/(l.length:Int)<=s):Yj l s g=((0,Nb,0,0),8):=by
 unfold Yj;rw[Nf (not_not_intro hok),Nh (by omega)]
theorem ai8{g:Int}(hok:Z6 l)(hk:k<l.length)(hx:x=l[k]):Yj l k g=if x.2.1=Nw/\x.1=g then(x,0)else((0,Nb,0,0),10):=by
 unfold Yj;rw[Nf (not_not_intro hok),Nf (by omega)];have:l.getD (k:Int).toNat (0,Nb,0,0)=x:=by
  rw[NR,NK,MR hk,hx];rfl
 rw[this]
theorem ai5(v:M7)(l:List Sl)(s g:Int)(w:MO)(hv:Yy w v l) :
  Ni MK 114 #[Ny #[v],Ny #[yB s,yB g]] w fun r w'=>r=MN (Nv #[adK (Yj l s g).1,yB (Yj l s g).2])/\yA w w':=by
 obtain⟨p,c,rfl,hc,hm,O⟩:=hv.F6;unfold NE at hm;obtain⟨K,I⟩:=yE (((w.alloc (MP #[MG p l.length c] 40)).alloc (MP #[yB s,yB g] 134)).alloc (MP #[yB 0,M3 Nb,yB 0,yB 0] 208));have a8:yA w K:=by rw[I];exact(((MY _ _).alloc (MV _) _).alloc (by simp) _).alloc (by simp;omega) _
 have a9:K.heap[w.heap.size]?=MI (MP #[MG p l.length c] 40 (0,0)):=by rw[I];exact Xy _ _ (Xy _ _ (M1 _ _))
 have a5:K.heap[w.heap.size+1]?=MI (MP #[yB s,yB g] 134 (0,0)):=by rw[I];exact Xy _ _ (Yu _ _ _)
 have a7:K.heap[w.heap.size+1+1]?=MI (MP #[yB 0,M3 Nb,yB 0,yB 0] 208 (0,0)):=by rw[I];have:=M1 ((w.alloc (MP #[MG p l.length c] 40)).alloc (MP #[yB s,yB g] 134)) (MP #[yB 0,M3 Nb,yB 0,yB 0] 208);simpa using this
 have D:M6 (_/\_/\_/\_/\_/\_):=⟨hv,a8,a9,a5,a7,I⟩;clear hv a8 a9 a5 a7 I;go_enter S7,SF
 go_wp2_with fail
 rw[<-D.out.2.2.2.2.2];refine(agO _ l _ (D.out.1.below D.out.2.1)).mono ?_;rintro r e ⟨rfl,j⟩;have z:=WO D.out.2.2.2.2.1 j;have a0:=WO D.out.2.2.1 j;have a4:=WO D.out.2.2.2.1 j;have s0:e.cell? ⟨w.heap.size+1+1,0,MH⟩=MI (yB 0):=by simp[Nl,z]
 have s1:e.cell? ⟨w.heap.size+1+1,1,MH⟩=MI (M3 Nb):=by simp[Nl,z]
 have s2:e.cell? ⟨w.heap.size+1+1,2,MH⟩=MI (yB 0):=by simp[Nl,z]
 have s3:e.cell? ⟨w.heap.size+1+1,3,MH⟩=MI (yB 0):=by simp[Nl,z]
 have f0:e.frozen? ⟨w.heap.size+1+1,0,MH⟩=false:=by simp[Ng,z]
 have f1:e.frozen? ⟨w.heap.size+1+1,1,MH⟩=false:=by simp[Ng,z]
 have f2:e.frozen? ⟨w.heap.size+1+1,2,MH⟩=false:=by simp[Ng,z]
 have f3:e.frozen? ⟨w.heap.size+1+1,3,MH⟩=false:=by simp[Ng,z]
 have t0:=Xu a0;obtain⟨h0,h1,_⟩:=Xa a4;have J:M6 (_/\_/\_/\_):=⟨j,z,a0,a4⟩;clear j z a0 a4;have G:M6 _:=D.out.2.1.trans (J.out.1.mono D.out.2.1.size)
 by_cases hok:Z6 l
 ·rw[Nh hok]
  by_cases hs0:s<0
  ·have o:M6 _:=ai6 (g:=g) hok (Nt hs0)
   clear O hok;go_wp2;exact Np (v:=Nv #[adK (0,Nb,0,0),yB 8]) (XT Vy rfl rfl (Xp (P:=MK) (cs:=[yB 0,M3 Nb,yB 0,yB 0]) (ael J.out.2.1) az4 rfl (by kernel_rfl))) rfl ⟨by rw[o.out],aek G.out (by omega)⟩
  by_cases hs1:(l.length:Int)<=s
  ·have o:M6 _:=ai6 (g:=g) hok (NF hs1)
   clear O hok;go_wp2;exact Np (v:=Nv #[adK (0,Nb,0,0),yB 8]) (XT Vy rfl rfl (Xp (P:=MK) (cs:=[yB 0,M3 Nb,yB 0,yB 0]) (ael J.out.2.1) az4 rfl (by kernel_rfl))) rfl ⟨by rw[o.out],aek G.out (by omega)⟩
  obtain⟨k,rfl⟩:=NL (a:=s) (by omega);have hk:k<l.length:=by omega
  have b3:(k:Int)<(l.length:Int):=by omega
  obtain⟨Z,Y,rfl,j,c1,c2,c3,c4⟩:=O k hk;have M:=G.out;have e1:=(M.cell (p:=⟨Z,Y+k*4,MH⟩) j).trans c1;have e2:=(M.cell (p:=⟨Z,Y+k*4+1,MH⟩) j).trans c2;have e3:=(M.cell (p:=⟨Z,Y+k*4+2,MH⟩) j).trans c3;have e4:=(M.cell (p:=⟨Z,Y+k*4+3,MH⟩) j).trans c4;obtain⟨⟨A,C,F,E⟩,U⟩:∃x,x=l[k]:=⟨_,rfl⟩;rw[<-U]at e1 e2 e3 e4;have f:=ai8 (g:=g) hok hk U;have m:=ajb (hok.2 l[k] (Nk hk));rw[<-U]at m;have o:M6 (_/\_):=⟨f,m⟩;obtain⟨W2,V⟩:=yE (e.alloc (MP #[yB A,M3 C,yB F,yB E] 208));have b2:W2.heap[e.heap.size]?=MI (MP #[yB A,M3 C,yB F,yB E] 208 (0,0)):=by rw[V];exact M1 _ _
  have a6:yA e W2:=by rw[V];exact YF e
  have H2:M6 (_/\_/\_):=⟨V,b2,a6⟩;clear f m U hok O c1 c2 c3 c4 j hs0 hs1 M V b2 a6
  go_wp2_with fail
  rw[<-H2.out.1];refine(afo A C F E _).mono ?_;rintro r i ⟨rfl,a1⟩;have N:=WO H2.out.2.1 a1;have S:=H2.out.2.2.trans (a1.mono H2.out.2.2.size);have t:=WO J.out.2.1 S;have b0:=WO J.out.2.2.2 S;have u0:i.cell? ⟨w.heap.size+1+1,0,MH⟩=MI (yB 0):=by simp[Nl,t]
  have u1:i.cell? ⟨w.heap.size+1+1,1,MH⟩=MI (M3 Nb):=by simp[Nl,t]
  have u2:i.cell? ⟨w.heap.size+1+1,2,MH⟩=MI (yB 0):=by simp[Nl,t]
  have u3:i.cell? ⟨w.heap.size+1+1,3,MH⟩=MI (yB 0):=by simp[Nl,t]
  have v0:i.frozen? ⟨w.heap.size+1+1,0,MH⟩=false:=by simp[Ng,t]
  have v1:i.frozen? ⟨w.heap.size+1+1,1,MH⟩=false:=by simp[Ng,t]
  have v2:i.frozen? ⟨w.heap.size+1+1,2,MH⟩=false:=by simp[Ng,t]
  have v3:i.frozen? ⟨w.heap.size+1+1,3,MH⟩=false:=by simp[Ng,t]
  have z0:i.cell? ⟨e.heap.size,0,MH⟩=MI (yB A):=by simp[Nl,N]
  have z1:i.cell? ⟨e.heap.size,1,MH⟩=MI (M3 C):=by simp[Nl,N]
  have z2:i.cell? ⟨e.heap.size,2,MH⟩=MI (yB F):=by simp[Nl,N]
  have z3:i.cell? ⟨e.heap.size,3,MH⟩=MI (yB E):=by simp[Nl,N]
  obtain⟨y0,y1,_⟩:=Xa b0;have a2:M6 _:=G.out.trans (S.mono G.out.size);have a3:M6 _:=t;clear N a1 S t b0 s0 s1 s2 s3 f0 f1 f2 f3 t0 h0 h1 e1 e2 e3 e4
  by_cases m:ZX (A,C,F,E)
  ·have L:=Nq m
   have f:Yj l k g=((0,Nb,0,0),10):=by
    rw[o.out.1,Nf fun h=>(o.out.2.2 h.1) m]
   have Q:M6 _:=f;rw[L];clear f L m;go_wp2;exact Np (v:=Nv #[adK (0,Nb,0,0),yB 10]) (XT Vy rfl rfl (Xp (P:=MK) (cs:=[yB 0,M3 Nb,yB 0,yB 0]) (ael a3.out) az4 rfl (by kernel_rfl))) rfl ⟨by rw[Q.out],aek a2.out (by omega)⟩
  ·have L:=M0 m
   rw[L];have hu:=o.out.2.1 m;cases hgn:(A != g)
   ·have f:Yj l k g=((A,C,F,E),0):=by
     rw[o.out.1,Nh ⟨hu,by simpa using hgn⟩]
    have Q:M6 _:=f;clear f L m hu;go_wp2;exact Np (v:=Nv #[adK (A,C,F,E),yB 0]) (XT Vy rfl rfl (Xp (P:=MK) (cs:=[yB A,M3 C,yB F,yB E]) (ael a3.out) az4 rfl (by kernel_rfl))) rfl ⟨by rw[Q.out],aek a2.out (by omega)⟩
   ·have f:Yj l k g=((0,Nb,0,0),10):=by
     rw[o.out.1,Nf fun h=>by have:=h.2;simp at hgn;exact hgn this]
    have Q:M6 _:=f;clear f L m hu;go_wp2;exact Np (v:=Nv #[adK (0,Nb,0,0),yB 10]) (XT Vy rfl rfl (Xp (P:=MK) (cs:=[yB 0,M3 Nb,yB 0,yB 0]) (ael a3.out) az4 rfl (by kernel_rfl))) rfl ⟨by rw[Q.out],aek a2.out (by omega)⟩
 ·rw[Nf hok]
  have f:Yj l s g=((0,Nb,0,0),6):=by unfold Yj;rw[Nh hok]
  have o:M6 _:=f;clear f O;go_wp2;exact Np (v:=Nv #[adK (0,Nb,0,0),yB 6]) (XT Vy rfl rfl (Xp (P:=MK) (cs:=[yB 0,M3 Nb,yB 0,yB 0]) (ael J.out.2.1) az4 rfl (by kernel_rfl))) rfl ⟨by rw[o.out],aek G.out (by omega)⟩
theorem auB(v:M7)(l:List Sl)(w:MO)(hv:Yy w v l)(h0:0<l.length)(hl:l.length<=1048576) :
  Ni MK 97 #[v] w fun r w'=>∃g c,r=MN (MG (MI ⟨g,0,MH⟩) l.length c)/\w'.ownsRow w.heap.size 208 4 (MG (MI ⟨g,0,MH⟩) l.length c) l.length (XF l)/\yA w w':=by
 obtain⟨a,o,rfl,P,O,h⟩:=hv;rcases h with⟨h,_⟩|⟨b,off,rfl,G,f⟩
 ·omega
 ·obtain⟨C,F,z,s,A⟩:=OF anm
  have i:∀j u,(XF l)[j]?=MI u->(w.alloc (MP #[] 208)).cell? ((⟨b,off,MH⟩:Oc).add j)=MI u:=fun j u hu=>by
   have I:=(ZAb.1 hu).1;rw[aas,(YF w).cell (p:=⟨b,off+j,MH⟩) G,f j I,hu]
  have J:M6 _:=i;have M:∀W,(binOp .eql 38 (MG (MI ⟨b,off,MH⟩) l.length o) (MG MH 0 0)).run MK W=.ok (M3 Nb) W:=fun W=>by kernel_rfl
  clear i f;go_enter Tryz.func97,Tryz.ntmps97
  go_wp2_with (first|(at_builtin;refine O9 _ rfl _ _ 38 rfl w.heap.size 208 C _ 4 32 UZ F z s A rfl (by decide) (MG (MI ⟨w.heap.size,0,MH⟩) 0 0) 0 [] rfl (ai9 (M1 _ _) (MV _)) ⟨b,off,MH⟩ l.length o (XF l) rfl (ac7 l) J.out (auW l) h0 (by unfold NE;omega) (by omega) (by simp) _ rfl ?_;intro E D N m t K L))
  go_wp2;go_ret;refine⟨E,D,by simp,?_,?_⟩
  ·rw[Oa,Oz]at m
   exact m
  ·exact(YF w).grown t (by simp) (fun j e=>by cases e;exact MV _)
theorem auX{n cap:Nat}(h:w.ownsRow base 208 4 (MG (MI ⟨g,0,MH⟩) n cap) n (XF l))(i:Nat)(x:Sl):
  ((((w.setCell ⟨g,i*4,MH⟩ (yB x.1)).setCell ⟨g,i*4+1,MH⟩ (M3 x.2.1)).setCell ⟨g,i*4+2,MH⟩ (yB x.2.2.1)).setCell ⟨g,i*4+3,MH⟩ (yB x.2.2.2)).ownsRow base 208 4 (MG (MI ⟨g,0,MH⟩) n cap) n (XF (l.set i x)):=by
 have e:=((((h.stored (i*4) (yB x.1)).1.stored (i*4+1) (M3 x.2.1)).1.stored (i*4+2) (yB x.2.2.1)).1.stored (i*4+3) (yB x.2.2.2)).1;rw[ann]at e;exact e
theorem auy{o:Nat}(h:MQ B w0 w)(hg:B<=g):MQ B w0 ((((w.setCell ⟨g,o,MH⟩ a).setCell ⟨g,o+1,MH⟩ b).setCell ⟨g,o+2,MH⟩ c).setCell ⟨g,o+3,MH⟩ d):=
 (((h.setCell hg _).setCell hg _).setCell hg _).setCell hg _
theorem auA{h o:Nat}{ob:Obj}(hh:w.heap[h]?=MI ob)(hne:h≠g):((((w.setCell ⟨g,o,MH⟩ a).setCell ⟨g,o+1,MH⟩ b).setCell ⟨g,o+2,MH⟩ c).setCell ⟨g,o+3,MH⟩ d).heap[h]?=MI ob:=by
 rw[MU _ _ _ _ (by simpa using hne),MU _ _ _ _ (by simpa using hne),MU _ _ _ _ (by simpa using hne),MU _ _ _ _ (by simpa using hne)];exact hh
theorem ac6(h:w.heap[g]?=MI (MP #[u] T (0,0))):(w.setCell ⟨g,0,MH⟩ v).heap[g]?=MI (MP #[v] T (0,0)):=by
 have:=NI w g 0 _ _ v h
 simpa using this
theorem ajc(v:M7)(l:List Sl)(i:Nat)(x1:Int)(x2:Bool)(x3 x4:Int)(w:MO)(hv:Yy w v l)(hi:i<l.length)(hl:l.length<=40) :
  Ni MK 224 #[Ny #[v],yB i,Ny #[yB x1,M3 x2,yB x3,yB x4]] w fun r w'=>∃p c,r=MN (Ny #[MG p l.length c])/\w'.ownsRow w.heap.size 208 4 (MG p l.length c) l.length (XF (l.set i (x1,x2,x3,x4)))/\yA w w':=by
 obtain⟨p,c,rfl,_⟩:=hv.F6;obtain⟨t,j⟩:=yE (((w.alloc (MP #[MG p l.length c] 40)).alloc (MP #[yB x1,M3 x2,yB x3,yB x4] 208)).alloc (MP #[MG MH 0 0] 40));have C:yA w t:=by rw[j];exact(((MY _ _).alloc (MV _) _).alloc (by simp) _).alloc (by simp;omega) _
 have E:t.heap[w.heap.size+1]?=MI (MP #[yB x1,M3 x2,yB x3,yB x4] 208 (0,0)):=by rw[j];exact Xy _ _ (Yu _ _ _)
 have D:t.heap[w.heap.size+1+1]?=MI (MP #[MG MH 0 0] 40 (0,0)):=by rw[j];have:=M1 ((w.alloc (MP #[MG p l.length c] 40)).alloc (MP #[yB x1,M3 x2,yB x3,yB x4] 208)) (MP #[MG MH 0 0] 40);simpa using this
 have A:t.heap.size=w.heap.size+3:=by rw[j];simp
 have f:M6 (_/\_/\_/\_/\_/\_):=⟨hv,C,E,D,A,j⟩;clear hv C E D A j;go_enter Uk,Ua
 go_wp2_with fail
 rw[<-f.out.2.2.2.2.2];refine(auB _ l _ (f.out.1.below f.out.2.1) (by omega) (by omega)).mono ?_;rintro r Q ⟨g,c1,rfl,e,m⟩;have G:=WO f.out.2.2.1 m;have s:=WO f.out.2.2.2.1 m;obtain⟨⟨j0,j1,j2,j3⟩,_⟩:=auz G;have V:=Xu s;have Y:Q.frozen? ⟨w.heap.size+1+1,0,MH⟩=false:=by simp[Ng,s]
 have z:=adJ l i hi;have c0:=(e.cellAt (i*4) (by omega)).trans z.1;have L:=(e.cellAt (i*4+1) (by omega)).trans z.2.1;have c2:=(e.cellAt (i*4+2) (by omega)).trans z.2.2.1;have c3:=(e.cellAt (i*4+3) (by omega)).trans z.2.2.2;have f0:=e.frozenAt (i*4);have f1:=e.frozenAt (i*4+1);have f2:=e.frozenAt (i*4+2);have f3:=e.frozenAt (i*4+3);generalize l[i].1=y1 at c0;generalize l[i].2.1=y2 at L;generalize l[i].2.2.1=y3 at c2;generalize l[i].2.2.2=y4 at c3;have U:(i:Int)<(l.length:Int):=by omega
 have Z:=(e.lt g rfl).2;have N:=(e.lt g rfl).1;rw[f.out.2.2.2.2.1]at N;have I:¬(w.heap.size+1+1=g):=by omega
 have S:¬(w.heap.size+1=g):=by omega
 have O:M6 (_/\_/\_):=⟨e,m,s⟩;clear z G s e m;go_wp2;obtain⟨e,m,s⟩:=O.out;have M:=auA (o:=i*4) (a:=yB x1) (b:=M3 x2) (c:=yB x3) (d:=yB x4) s I;have K:=ac6 (v:=MG (MI ⟨g,0,MH⟩) l.length c1) M;have F:=auX e i (x1,x2,x3,x4);have J:=f.out.2.1.trans (m.mono f.out.2.1.size);have A:=f.out.2.2.2.2.1;refine Np (v:=Ny #[MG (MI ⟨g,0,MH⟩) l.length c1]) (Z2 Tryz.results224 rfl (Xp (P:=MK) (cs:=[MG (MI ⟨g,0,MH⟩) l.length c1]) K U3 rfl (by kernel_rfl))) rfl ⟨_,_,rfl,?_,?_⟩
 ·exact(W8 F (fun g' hg'=>MU _ _ _ _ (by have:=(F.lt g' hg').1;simp;omega))).mono (by omega)
 ·exact(auy J (by omega)).setCell (by simp;omega) _
def aiY(m:List Sl)(e:Int)(w:MO)(r:Ending)(w':MO):Prop :=
 ∃p c,r=MN (Nv #[Ny #[MG p m.length c],yB e])/\w'.ownsRow w.heap.size 208 4 (MG p m.length c) m.length (XF m)/\yA w w'
def ZQ(l:List Sl)(s g:Int):List Sl×Int :=
 if(Yj l s g).2=0 then(l.set s.toNat ((Yj l s g).1.1+1,Nb,0,0),0)else([],(Yj l s g).2)
theorem ai7{s g:Int}(h:Yj l s g=(x,0)):Z6 l/\∃k:Nat,s=k/\∃hk:k<l.length,x=l[k]/\x.2.1=Nw/\x.1=g:=by
 by_cases hok:Z6 l
 ·refine⟨hok,?_⟩
  by_cases hs:0<=s/\s<l.length
  ·obtain⟨k,rfl⟩:=NL hs.1
   have hk:k<l.length:=by omega
   rw[ai8 (x:=l[k]) hok hk rfl]at h
   split at h
   ·rename_i hh
    injection h with h1 h2;subst h1;exact⟨k,rfl,hk,rfl,hh.1,hh.2⟩
   ·injection h with h1 h2
    cases h2
  ·rw[ai6 hok (by omega)]at h
   injection h with h1 h2;cases h2
 ·unfold Yj at h
  rw[Nh hok]at h;injection h with h1 h2;cases h2
theorem ano(h:Yt x)(hu:x.2.1=Nw):0<=x.1/\x.1<=1048575:=by
 unfold Yt at h;rw[Nh hu]at h;exact h.1
theorem auD(v:M7)(l:List Sl)(s g:Int)(w:MO)(hv:Yy w v l) :
  Ni MK 170 #[Ny #[v],Ny #[yB s,yB g]] w (aiY (ZQ l s g).1 (ZQ l s g).2 w):=by
 obtain⟨p,c,rfl,hc,hm,_⟩:=hv.F6;unfold NE at hm;obtain⟨o,m⟩:=yE (((w.alloc (MP #[MG p l.length c] 40)).alloc (MP #[yB s,yB g] 134)).alloc (MP #[MG MH 0 0] 40));have a3:yA w o:=by rw[m];exact(((MY _ _).alloc (MV _) _).alloc (by simp) _).alloc (by simp;omega) _
 have a5:o.heap[w.heap.size]?=MI (MP #[MG p l.length c] 40 (0,0)):=by rw[m];exact Xy _ _ (Xy _ _ (M1 _ _))
 have a4:o.heap[w.heap.size+1]?=MI (MP #[yB s,yB g] 134 (0,0)):=by rw[m];exact Xy _ _ (Yu _ _ _)
 have a6:o.heap[w.heap.size+1+1]?=MI (MP #[MG MH 0 0] 40 (0,0)):=by rw[m];have:=M1 ((w.alloc (MP #[MG p l.length c] 40)).alloc (MP #[yB s,yB g] 134)) (MP #[MG MH 0 0] 40);simpa using this
 have a7:o.heap.size=w.heap.size+3:=by rw[m];simp
 have i:M6 (_/\_/\_/\_/\_/\_/\_):=⟨hv,a3,a5,a4,a6,a7,m⟩;clear hv a3 a5 a4 a6 a7 m;obtain⟨⟨f,N,M,L⟩,e,Z⟩:∃x e,Yj l s g=(x,e):=⟨_,_,rfl⟩;have a9:M6 (∀W y,Yy W y l->Ni MK 114 #[Ny #[y],Ny #[yB s,yB g]] W fun r w'=>r=MN (Nv #[Ny #[yB f,M3 N,yB M,yB L],yB e])/\yA W w'):=fun W y hy=>by
  have:=ai5 y l s g W hy;rw[Z]at this;exact this
 have hX:M6 _:=Z;clear Z;go_enter S4,SC
 go_wp2_with fail
 rw[<-i.out.2.2.2.2.2.2];refine(a9.out _ _ (i.out.1.below i.out.2.1)).mono ?_;rintro r j ⟨rfl,z⟩;have S:=WO i.out.2.2.1 z;have I:=WO i.out.2.2.2.2.1 z;have t0:=Xu S;have r0:=Xu I;have rf:j.frozen? ⟨w.heap.size+1+1,0,MH⟩=false:=by simp[Ng,I]
 obtain⟨h0,h1,_⟩:=Xa (WO i.out.2.2.2.1 z);have a0:=i.out.2.1.trans (z.mono i.out.2.1.size);have b8:w.heap.size+1+1<j.heap.size:=by have:=z.size;have:=i.out.2.2.2.2.2.1;omega
 have b5:w.heap.size<j.heap.size:=by omega
 have b3:w.heap.size+1<j.heap.size:=by omega
 have D:M6 (_/\_/\_):=⟨S,I,a0⟩;clear S I a0 z;obtain⟨W2,J⟩:=yE (j.alloc (MP #[yB f,M3 N,yB M,yB L] 208));have F:yA j W2:=by rw[J];exact YF j
 have Y:=WO D.out.2.1 F;have E:=D.out.2.2.trans (F.mono D.out.2.2.size)
 by_cases he:e=0
 ·subst he
  obtain⟨U,k,rfl,hk,Q,hu,hg⟩:=ai7 hX.out;have G:=ano (U.2 _ (Nk hk)) (by rw[<-Q];exact hu);rw[<-Q]at G;have a8:=U.1.2;have C:ZQ l k g=(l.set k (f+1,Nb,0,0),0):=by unfold ZQ;rw[hX.out];simp
  have b4:(-9223372036854775808:Int)<=f+1:=by have:=G.1;simp at this;omega
  have b6:f+1<=(9223372036854775807:Int):=by have:=G.2;simp at this;omega
  have A:M6 (_/\_/\_/\_):=⟨C,J,Y,E⟩;have b0:M6 (∀W y,Yy W y l->Ni MK 224 #[Ny #[y],yB k,Ny #[yB (f+1),M3 Nb,yB 0,yB 0]] W fun r w'=>∃p c,r=MN (Ny #[MG p l.length c])/\w'.ownsRow W.heap.size 208 4 (MG p l.length c) l.length (XF (l.set k (f+1,Nb,0,0)))/\yA W w'):=fun W y hy=>ajc y l k (f+1) Nb 0 0 W hy hk a8
  have b2:=E.size;clear U Q hu hg G C J Y E
  go_wp2_with fail
  rw[<-A.out.2.1];refine(b0.out _ _ ((i.out.1.below A.out.2.2.2))).mono ?_;rintro r w3 ⟨q,d,rfl,O,V⟩;have K:=WO A.out.2.2.1 V;have r3:=Xu K;have b9:w3.frozen? ⟨w.heap.size+1+1,0,MH⟩=false:=by simp[Ng,K]
  have a1:=A.out.2.2.2.trans (V.mono A.out.2.2.2.size);have a2:(w3.setCell ⟨w.heap.size+1+1,0,MH⟩ (MG q l.length d)).ownsRow w.heap.size 208 4 (MG q l.length d) l.length (XF (l.set k (f+1,Nb,0,0))):=
   (W8 O (fun g' hg'=>MU _ _ _ _ (by have:=(O.lt g' hg').1;have h2:=F.size;simp;omega))).mono (by omega)
  have t:M6 (_/\_/\_):=⟨ac6 (v:=MG q l.length d) K,a2,(show yA w (w3.setCell ⟨w.heap.size+1+1,0,MH⟩ (MG q l.length d))from a1.setCell (by simp;omega) _)⟩;clear K O a2 V a1 t0 r0 rf h0 h1;go_wp2;refine Np (v:=Nv #[Ny #[MG q l.length d],yB 0]) (XT Tryz.results170 rfl rfl (Xp (P:=MK) (cs:=[MG q l.length d]) t.out.1 U3 rfl (by kernel_rfl))) rfl ?_;rw[A.out.1];refine⟨q,d,?_,?_,t.out.2.2⟩
  ·simp
  ·simpa using t.out.2.1
 ·have C:ZQ l s g=([],e):=by unfold ZQ;rw[hX.out];simp[he]
  have b7:(e != 0)=true:=by simpa using he
  have t:M6 (_/\_/\_):=⟨Xy _ (MP #[yB f,M3 N,yB M,yB L] 208) (ac6 (v:=MG MH 0 0) D.out.2.1),(show yA w ((j.setCell ⟨w.heap.size+1+1,0,MH⟩ (MG MH 0 0)).alloc (MP #[yB f,M3 N,yB M,yB L] 208))from(D.out.2.2.setCell (by simp;omega) _).alloc (by simp;omega) _),C⟩;clear Y E F C J he;go_wp2;refine Np (v:=Nv #[Ny #[MG MH 0 0],yB e]) (XT Tryz.results170 rfl rfl (Xp (P:=MK) (cs:=[MG MH 0 0]) t.out.1 U3 rfl (by kernel_rfl))) rfl ?_;rw[t.out.2.2];exact⟨MH,0,rfl,NY _ _ _ _,t.out.2.1⟩
def Y0(l:List Sl)(s g bk:Int):List Sl×Int :=
 if(Yj l s g).2=0 then(if aca bk then(l.set s.toNat ((Yj l s g).1.1,Nw,(Yj l s g).1.2.2.1,bk),0)else([],2))else([],(Yj l s g).2)
theorem auR(v:M7)(l:List Sl)(s g bk:Int)(w:MO)(hv:Yy w v l) :
  Ni MK 235 #[Ny #[v],Ny #[yB s,yB g],yB bk] w (aiY (Y0 l s g bk).1 (Y0 l s g bk).2 w):=by
 obtain⟨p,c,rfl,hc,hm,_⟩:=hv.F6;unfold NE at hm;obtain⟨C,A⟩:=yE (((w.alloc (MP #[MG p l.length c] 40)).alloc (MP #[yB s,yB g] 134)).alloc (MP #[MG MH 0 0] 40));have a7:yA w C:=by rw[A];exact(((MY _ _).alloc (MV _) _).alloc (by simp) _).alloc (by simp;omega) _
 have a8:C.heap[w.heap.size]?=MI (MP #[MG p l.length c] 40 (0,0)):=by rw[A];exact Xy _ _ (Xy _ _ (M1 _ _))
 have a5:C.heap[w.heap.size+1]?=MI (MP #[yB s,yB g] 134 (0,0)):=by rw[A];exact Xy _ _ (Yu _ _ _)
 have a9:C.heap[w.heap.size+1+1]?=MI (MP #[MG MH 0 0] 40 (0,0)):=by rw[A];have:=M1 ((w.alloc (MP #[MG p l.length c] 40)).alloc (MP #[yB s,yB g] 134)) (MP #[MG MH 0 0] 40);simpa using this
 have b0:C.heap.size=w.heap.size+3:=by rw[A];simp
 have t:M6 (_/\_/\_/\_/\_/\_/\_):=⟨hv,a7,a8,a5,a9,b0,A⟩;clear hv a7 a8 a5 a9 b0 A;obtain⟨⟨i,I,j,E⟩,e,hx⟩:∃x e,Yj l s g=(x,e):=⟨_,_,rfl⟩;have b5:M6 (∀W y,Yy W y l->Ni MK 114 #[Ny #[y],Ny #[yB s,yB g]] W fun r w'=>r=MN (Nv #[Ny #[yB i,M3 I,yB j,yB E],yB e])/\yA W w'):=fun W y hy=>by
  have:=ai5 y l s g W hy;rw[hx]at this;exact this
 have O:M6 _:=hx;clear hx;go_enter RS,RI
 go_wp2_with fail
 rw[<-t.out.2.2.2.2.2.2];refine(b5.out _ _ (t.out.1.below t.out.2.1)).mono ?_;rintro r f ⟨rfl,D⟩;have S:=WO t.out.2.2.1 D;have L:=WO t.out.2.2.2.2.1 D;have t0:=Xu S;have r0:=Xu L;have rf:f.frozen? ⟨w.heap.size+1+1,0,MH⟩=false:=by simp[Ng,L]
 obtain⟨h0,h1,_⟩:=Xa (WO t.out.2.2.2.1 D);have a2:=t.out.2.1.trans (D.mono t.out.2.1.size);have c8:w.heap.size+1+1<f.heap.size:=by have:=D.size;have:=t.out.2.2.2.2.2.1;omega
 have c7:w.heap.size<f.heap.size:=by omega
 have b9:w.heap.size+1<f.heap.size:=by omega
 have o:M6 (_/\_/\_):=⟨S,L,a2⟩;clear S L a2 D;obtain⟨W2,K⟩:=yE (f.alloc (MP #[yB i,M3 I,yB j,yB E] 208));have F:yA f W2:=by rw[K];exact YF f
 have a0:=WO o.out.2.1 F;have J:=o.out.2.2.trans (F.mono o.out.2.2.size)
 by_cases he:e=0
 ·subst he
  obtain⟨Z,k,rfl,hk,Q,hu,hg⟩:=ai7 O.out;have a6:=ano (Z.2 _ (Nk hk)) (by rw[<-Q];exact hu);rw[<-Q]at a6;have b3:=Z.1.2;have HO:M6 (_/\_/\_):=⟨K,a0,J⟩;have b4:=J.size;have b7:I=true:=hu;subst b7;clear Z Q hu hg a6 K a0 J;cases hbk:Nn (aca bk)
  ·have z:Y0 l k g bk=([],2):=by
    unfold Y0;rw[O.out,Nh rfl,Nf (id (Nc hbk))]
   have m:M6 (_/\_/\_):=⟨Xy _ (MP #[yB i,M3 Nw,yB j,yB E] 208) (ac6 (v:=MG MH 0 0) o.out.2.1),(show yA w ((f.setCell ⟨w.heap.size+1+1,0,MH⟩ (MG MH 0 0)).alloc (MP #[yB i,M3 Nw,yB j,yB E] 208))from(o.out.2.2.setCell (by simp;omega) _).alloc (by simp;omega) _),z⟩;clear z F
   go_wp2_with fail
   refine(aem _ _).mono ?_;rw[hbk];rintro r w4 ⟨rfl,rfl⟩;go_wp2;refine Np (v:=Nv #[Ny #[MG MH 0 0],yB 2]) (XT aAC rfl rfl (Xp (P:=MK) (cs:=[MG MH 0 0]) m.out.1 U3 rfl (by kernel_rfl))) rfl ?_;rw[m.out.2.2];exact⟨MH,0,rfl,NY _ _ _ _,m.out.2.1⟩
  have z:Y0 l k g bk=(l.set k (i,Nw,j,bk),0):=by
   unfold Y0;rw[O.out,Nh rfl,Nh (id (M2 hbk))];simp
  have b6:M6 (∀W y,Yy W y l->Ni MK 224 #[Ny #[y],yB k,Ny #[yB i,M3 Nw,yB j,yB bk]] W fun r w'=>∃p c,r=MN (Ny #[MG p l.length c])/\w'.ownsRow W.heap.size 208 4 (MG p l.length c) l.length (XF (l.set k (i,Nw,j,bk)))/\yA W w'):=fun W y hy=>ajc y l k i Nw j bk W hy hk b3
  have HU:M6 _:=z;clear z;obtain⟨W4,V⟩:=yE (f.alloc (MP #[yB i,M3 Nw,yB j,yB bk] 208));have M:yA f W4:=by rw[V];exact YF f
  have b2:=WO o.out.2.1 M;have a1:=o.out.2.2.trans (M.mono o.out.2.2.size);have G:M6 (_/\_/\_):=⟨V,b2,a1⟩;have b8:=M.size;clear V b2 a1 M F HO b4
  go_wp2_with fail
  refine(aem _ _).mono ?_;rw[hbk];rintro r w4 ⟨rfl,rfl⟩
  go_wp2_with fail
  rw[<-G.out.1];refine(b6.out _ _ ((t.out.1.below G.out.2.2))).mono ?_;rintro r w3 ⟨q,d,rfl,Y,U⟩;have N:=WO G.out.2.1 U;have r3:=Xu N;have c6:w3.frozen? ⟨w.heap.size+1+1,0,MH⟩=false:=by simp[Ng,N]
  have a4:=G.out.2.2.trans (U.mono G.out.2.2.size);have a3:(w3.setCell ⟨w.heap.size+1+1,0,MH⟩ (MG q l.length d)).ownsRow w.heap.size 208 4 (MG q l.length d) l.length (XF (l.set k (i,Nw,j,bk))):=
   (W8 Y (fun g' hg'=>MU _ _ _ _ (by have:=(Y.lt g' hg').1;simp;omega))).mono (by omega)
  have m:M6 (_/\_/\_):=⟨ac6 (v:=MG q l.length d) N,a3,(show yA w (w3.setCell ⟨w.heap.size+1+1,0,MH⟩ (MG q l.length d))from a4.setCell (by simp;omega) _)⟩;clear N Y a3 U a4 t0 r0 rf h0 h1;go_wp2;refine Np (v:=Nv #[Ny #[MG q l.length d],yB 0]) (XT aAC rfl rfl (Xp (P:=MK) (cs:=[MG q l.length d]) m.out.1 U3 rfl (by kernel_rfl))) rfl ?_;rw[HU.out];refine⟨q,d,?_,?_,m.out.2.2⟩
  ·simp
  ·simpa using m.out.2.1
 ·have z:Y0 l s g bk=([],e):=by unfold Y0;rw[O.out,Nf he]
  have c5:(e != 0)=true:=by simpa using he
  have m:M6 (_/\_/\_):=⟨Xy _ (MP #[yB i,M3 I,yB j,yB E] 208) (ac6 (v:=MG MH 0 0) o.out.2.1),(show yA w ((f.setCell ⟨w.heap.size+1+1,0,MH⟩ (MG MH 0 0)).alloc (MP #[yB i,M3 I,yB j,yB E] 208))from(o.out.2.2.setCell (by simp;omega) _).alloc (by simp;omega) _),z⟩;clear a0 J F z K he;go_wp2;refine Np (v:=Nv #[Ny #[MG MH 0 0],yB e]) (XT aAC rfl rfl (Xp (P:=MK) (cs:=[MG MH 0 0]) m.out.1 U3 rfl (by kernel_rfl))) rfl ?_;rw[m.out.2.2];exact⟨MH,0,rfl,NY _ _ _ _,m.out.2.1⟩
theorem auO(n:Nat):madeCells #[yB 0,M3 Nb,yB 0,yB 0] (n*4)=(XF (Nj n (0,Nb,0,0))).toArray:=by
 apply Array.ext';apply Ot;intro i;have j:(XF (Nj n ((0:Int),Nb,(0:Int),(0:Int)))).length=n*4:=by rw[ac7];simp
 by_cases h:i<n*4
 ·have e:=adJ (Nj n ((0:Int),Nb,(0:Int),(0:Int))) (i / 4) (by simp;omega)
  simp only[List.getElem_replicate]at e;have m:(madeCells #[yB 0,M3 Nb,yB 0,yB 0] (n*4)).toList[i]?=MI ((#[yB 0,M3 Nb,yB 0,yB 0]:Array M7)[i % 4]!):=by
   unfold madeCells;simp[h]
  rw[m];have f:i % 4=0\/i % 4=1\/i % 4=2\/i % 4=3:=by omega
  rcases f with f|f|f|f
  ·rw[f]
   rw[show i / 4*4=i by omega]at e;exact e.1.symm
  ·rw[f]
   rw[show i / 4*4+1=i by omega]at e;exact e.2.1.symm
  ·rw[f]
   rw[show i / 4*4+2=i by omega]at e;exact e.2.2.1.symm
  ·rw[f]
   rw[show i / 4*4+3=i by omega]at e;exact e.2.2.2.symm
 ·rw[Nz (by simp[size_madeCells];omega),Nz (by simp[j];omega)]
def adI(n:Int):List Sl×Int:=if 1<=n/\n<=40 then(Nj n.toNat (0,Nb,0,0),0)else([],2)
theorem auN(n:Nat)(hn:n<=40)(W:MO):(Instr.makeSlice 38 (yB (n:Int)) (yB (n:Int))).run MK W=.ok (MG (MI ⟨W.heap.size,0,MH⟩) n n) (W.alloc (MP (XF (Nj n (0,Nb,0,0))).toArray 208)):=by
 obtain⟨m,j,f,e,i⟩:=OF anm;have h:=run_makeSlice (P:=MK) W 38 208 m _ UZ j f ME ME n n (by omega) (by omega) (by rw[e];omega) (by rw[i];omega) (by omega);rw[h,e,NR,<-auO];rfl
theorem auM(n:Nat)(hn:n<=40)(W:MO):(W.alloc (MP (XF (Nj n (0,Nb,0,0))).toArray 208)).ownsRow W.heap.size 208 4 (MG (MI ⟨W.heap.size,0,MH⟩) n n) n (XF (Nj n (0,Nb,0,0))):=by
 have e:(XF (Nj n ((0:Int),Nb,(0:Int),(0:Int)))).length=n*4:=by rw[ac7];simp
 refine⟨e,NF ⟨W.heap.size,n,_,rfl,MV _,M1 W _,MV _,by unfold NE;omega,by simp[e],?_⟩⟩;simp;exact N1 (by omega)
theorem auP(n:Int)(w:MO):Ni MK 30 #[yB n] w (aiY (adI n).1 (adI n).2 w):=by
 have o:=M1 w (MP #[MG MH 0 0] 40)
 by_cases h:1<=n/\n<=40
 ·have i:adI n=(Nj n.toNat (0,Nb,0,0),0):=by unfold adI;rw[Nh h]
  obtain⟨E,F⟩:=h;obtain⟨k,rfl⟩:=NL (a:=n) (by omega);rw[NR]at i;have r:=auN k (by omega) (w.alloc (MP #[MG MH 0 0] 40));have j:=auM k (by omega) (w.alloc (MP #[MG MH 0 0] 40));have A:(w.alloc (MP #[MG MH 0 0] 40)).heap.size=w.heap.size+1:=by simp
  rw[A]at r j;obtain⟨Z,C⟩:=yE ((XF (Nj k ((0:Int),Nb,(0:Int),(0:Int)))).toArray);rw[<-C]at r j;obtain⟨f,m⟩:=yE ((w.alloc (MP #[MG MH 0 0] 40)).alloc (MP Z 208));rw[<-m]at r j;have p:f.heap[w.heap.size]?=MI (MP #[MG MH 0 0] 40 (0,0)):=by rw[m];exact Xy _ _ o
  have t:yA w f:=by rw[m];exact((MY _ _).alloc (MV _) _).alloc (by simp) _
  have D:=Xu p;have I:f.frozen? ⟨w.heap.size,0,MH⟩=false:=by simp[Ng,p]
  have z:(f.setCell ⟨w.heap.size,0,MH⟩ (MG (MI ⟨w.heap.size+1,0,MH⟩) k k)).ownsRow w.heap.size 208 4 (MG (MI ⟨w.heap.size+1,0,MH⟩) k k) k (XF (Nj k (0,Nb,0,0))):=
   (W8 j (fun g hg=>MU _ _ _ _ (by have:=(j.lt g hg).1;simp;omega))).mono (by omega)
  have e:M6 (_/\_/\_/\_):=⟨ac6 (v:=MG (MI ⟨w.heap.size+1,0,MH⟩) k k) p,z,(show yA w (f.setCell ⟨w.heap.size,0,MH⟩ (MG (MI ⟨w.heap.size+1,0,MH⟩) k k))from t.setCell (by simp) _),i⟩;clear p z t i j A C m o;go_enter Tryz.func30,Tryz.ntmps30;go_wp2;refine Np (v:=Nv #[Ny #[MG (MI ⟨w.heap.size+1,0,MH⟩) k k],yB 0]) (XT Tryz.results30 rfl rfl (Xp (P:=MK) (cs:=[MG (MI ⟨w.heap.size+1,0,MH⟩) k k]) e.out.1 U3 rfl (by kernel_rfl))) rfl ?_;rw[e.out.2.2.2];refine⟨MI ⟨w.heap.size+1,0,MH⟩,k,?_,?_,e.out.2.2.1⟩
  ·simp
  ·simpa using e.out.2.1
 ·have i:adI n=([],2):=by unfold adI;rw[Nf h]
  have e:M6 (_/\_):=⟨i,o⟩;have s:n<1\/(1<=n/\40<n):=by omega
  clear h i o;rcases s with s|⟨s,G⟩
  all_goals
   go_enter Tryz.func30,Tryz.ntmps30;go_wp2;refine Np (v:=Nv #[Ny #[MG MH 0 0],yB 2]) (XT Tryz.results30 rfl rfl (Xp (P:=MK) (cs:=[MG MH 0 0]) e.out.2 U3 rfl (by kernel_rfl))) rfl ?_;rw[e.out.1];exact⟨MH,0,rfl,NY _ _ _ _,YF w⟩
def Y8(l:List Sl)(key bk:Int):List Sl×Tm×Int :=
 if ¬Z6 l then([],(0,0),6)else if ¬(ac5 key/\aca bk)then([],(0,0),2)else
  match Yz aaU l with
  |none=>([],(0,0),9)
  |some k=>(l.set k ((l.getD k (0,Nb,0,0)).1,Nw,key,bk),((k:Int),(l.getD k (0,Nb,0,0)).1),0)
def anj(o:List Sl×Tm×Int)(w:MO)(r:Ending)(w':MO):Prop :=
 ∃p c,r=MN (Nv #[Ny #[MG p o.1.length c],Ny #[yB o.2.1.1,yB o.2.1.2],yB o.2.2])/\w'.ownsRow w.heap.size 208 4 (MG p o.1.length c) o.1.length (XF o.1)/\yA w w'
theorem ai0{q:Sl->Bool}:∀ {l:List Sl} {k:Nat},Yz q l=MI k->∃h:k<l.length,q l[k]=Nw/\∀t∈l.take k,q t=Nb
 | [],k,h=>by simp[Yz]at h
 |t::l,k,h=>by
  unfold Yz at h
  by_cases hq:q t=Nw
  ·rw[Nh hq]at h
   injection h with h;subst h;exact⟨by simp,by simpa using hq,by simp⟩
  ·rw[Nf hq]at h
   cases hf:Yz q l with
   |none=>rw[hf]at h;cases h
   |some j =>
    rw[hf]at h;injection h with h;subst h;obtain⟨m,i,f⟩:=ai0 hf;refine⟨by simp;omega,by simpa using i,fun x e=>?_⟩;rw[PT]at e;rcases OO.1 e with rfl|e
    ·simpa using hq
    ·exact f x e
theorem afm{x:M7}(hR:w.heap[R]?=MI (MP #[a] T (0,0)))(hne:R≠H):(((w.setCell ⟨R,0,MH⟩ u).setCell ⟨H,0,MH⟩ x).setCell ⟨H,1,MH⟩ y).heap[R]?=MI (MP #[u] T (0,0)):=by
 rw[MU _ _ _ _ (by simpa using hne),MU _ _ _ _ (by simpa using hne)];exact ac6 hR
theorem afl{x:M7}{U:NU}(hH:w.heap[H]?=MI (MP #[b,c] U (0,0)))(hne:R≠H):(((w.setCell ⟨R,0,MH⟩ u).setCell ⟨H,0,MH⟩ x).setCell ⟨H,1,MH⟩ y).heap[H]?=MI (MP #[x,y] U (0,0)):=
 acb ((MU _ _ _ _ (by simpa using Pi hne)).trans hH)
theorem aiZ{x:M7}(h:MQ B w0 w)(hR:B<=R)(hH:B<=H):MQ B w0 (((w.setCell ⟨R,0,MH⟩ u).setCell ⟨H,0,MH⟩ x).setCell ⟨H,1,MH⟩ y):=
 ((h.setCell hR _).setCell hH _).setCell hH _
theorem auE{x:M7}{n:Nat}{xs:List M7}(h:w.ownsRow base 208 4 v n xs)(hR:R<base)(hH:H<base):(((w.setCell ⟨R,0,MH⟩ u).setCell ⟨H,0,MH⟩ x).setCell ⟨H,1,MH⟩ y).ownsRow base 208 4 v n xs :=
 QX (QX (QX h hR _) hH _) hH _
theorem auV(v:M7)(l:List Sl)(key bk:Int)(w:MO)(hv:Yy w v l) :
  Ni MK 161 #[Ny #[v],yB key,yB bk] w (anj (Y8 l key bk) w):=by
 obtain⟨p,c,rfl,hc,hm,J⟩:=hv.F6;unfold NE at hm;obtain⟨F,D⟩:=yE (((w.alloc (MP #[MG p l.length c] 40)).alloc (MP #[MG MH 0 0] 40)).alloc (MP #[yB 0,yB 0] 134));have b3:yA w F:=by rw[D];exact(((MY _ _).alloc (MV _) _).alloc (by simp) _).alloc (by simp;omega) _
 have b4:F.heap[w.heap.size]?=MI (MP #[MG p l.length c] 40 (0,0)):=by rw[D];exact Xy _ _ (Xy _ _ (M1 _ _))
 have b5:F.heap[w.heap.size+1]?=MI (MP #[MG MH 0 0] 40 (0,0)):=by rw[D];exact Xy _ _ (Yu _ _ _)
 have a5:F.heap[w.heap.size+1+1]?=MI (MP #[yB 0,yB 0] 134 (0,0)):=by rw[D];have:=M1 ((w.alloc (MP #[MG p l.length c] 40)).alloc (MP #[MG MH 0 0] 40)) (MP #[yB 0,yB 0] 134);simpa using this
 have b6:F.heap.size=w.heap.size+3:=by rw[D];simp
 have i:M6 (_/\_/\_/\_/\_/\_/\_):=⟨hv,b3,b4,b5,a5,b6,D⟩;clear hv b3 b4 a5 b5 b6 D;go_enter UT,UG
 go_wp2_with fail
 rw[<-i.out.2.2.2.2.2.2];refine(agO _ l _ (i.out.1.below i.out.2.1)).mono ?_;rintro r M ⟨rfl,z⟩;have a0:=WO i.out.2.2.1 z;have S:=WO i.out.2.2.2.1 z;have a2:=WO i.out.2.2.2.2.1 z;have t0:=Xu a0;have r0:=Xu S;have rf:M.frozen? ⟨w.heap.size+1,0,MH⟩=false:=by simp[Ng,S]
 obtain⟨h0,h1,a8,b0,_⟩:=Xa a2;have V:=i.out.2.1.trans (z.mono i.out.2.1.size);have d6:w.heap.size+1+1<M.heap.size:=by have:=z.size;have:=i.out.2.2.2.2.2.1;omega
 have d3:w.heap.size<M.heap.size:=by omega
 have c9:w.heap.size+1<M.heap.size:=by omega
 have o:w.heap.size+1≠w.heap.size+1+1:=by omega
 have f:M6 (_/\_/\_/\_):=⟨a0,S,a2,V⟩;have a9:∀e,Y8 l key bk=([],(0,0),e)->anj (Y8 l key bk) w (MN (Nv #[Ny #[MG MH 0 0],Ny #[yB 0,yB 0],yB e])) (((M.setCell ⟨w.heap.size+1,0,MH⟩ (MG MH 0 0)).setCell ⟨w.heap.size+1+1,0,MH⟩ (yB 0)).setCell ⟨w.heap.size+1+1,1,MH⟩ (yB 0)):=fun e he=>by
  rw[he];exact⟨MH,0,rfl,NY _ _ _ _,aiZ V (by omega) (by omega)⟩
 have Y:M6 _:=a9;clear a9 a0 S a2 z V
 by_cases hok:Z6 l
 ·rw[Nh hok]
  cases hkb:Nn (ac5 key)
  ·have s:M6 (Y8 l key bk=([],(0,0),2)):=by show Y8 l key bk=_;unfold Y8;rw[Nf (not_not_intro hok),Nh fun h=>Nc hkb h.1]
   clear J hok
   go_wp2_with fail
   refine(aen _ _).mono ?_;rw[hkb];rintro r K ⟨rfl,rfl⟩;go_wp2;exact Np (v:=Nv #[Ny #[MG MH 0 0],Ny #[yB 0,yB 0],yB 2]) (afp aAc rfl rfl rfl (Xp (P:=MK) (cs:=[MG MH 0 0]) (afm f.out.2.1 o) U3 rfl (by kernel_rfl)) (Xp (P:=MK) (cs:=[yB 0,yB 0]) (afl f.out.2.2.1 o) az5 rfl (by kernel_rfl))) rfl (Y.out _ s.out)
  cases hbb:Nn (aca bk)
  ·have s:M6 (Y8 l key bk=([],(0,0),2)):=by show Y8 l key bk=_;unfold Y8;rw[Nf (not_not_intro hok),Nh fun h=>Nc hbb h.2]
   clear J hok
   go_wp2_with fail
   refine(aen _ _).mono ?_;rw[hkb];rintro r K ⟨rfl,rfl⟩
   go_wp2_with fail
   refine(aem _ _).mono ?_;rw[hbb];rintro r K ⟨rfl,rfl⟩;go_wp2;exact Np (v:=Nv #[Ny #[MG MH 0 0],Ny #[yB 0,yB 0],yB 2]) (afp aAc rfl rfl rfl (Xp (P:=MK) (cs:=[MG MH 0 0]) (afm f.out.2.1 o) U3 rfl (by kernel_rfl)) (Xp (P:=MK) (cs:=[yB 0,yB 0]) (afl f.out.2.2.1 o) az5 rfl (by kernel_rfl))) rfl (Y.out _ s.out)
  have b9:=hok.1.2;have m:Y8 l key bk=match Yz aaU l with|none=>([],(0,0),9)|some k=>(l.set k ((l.getD k (0,Nb,0,0)).1,Nw,key,bk),((k:Int),(l.getD k (0,Nb,0,0)).1),0):=by
   unfold Y8;rw[Nf (not_not_intro hok),Nf (not_not_intro ⟨M2 hkb,M2 hbb⟩)]
  clear hok;cases hfd:Yz aaU l with
  |none =>
   rw[hfd]at m;have s:M6 _:=m;have L:Yn (Yz aaU l) = -1:=by rw[hfd];rfl
   have HI:M6 _:=L;clear L m J hfd
   go_wp2_with fail
   refine(aen _ _).mono ?_;rw[hkb];rintro r K ⟨rfl,rfl⟩
   go_wp2_with fail
   refine(aem _ _).mono ?_;rw[hbb];rintro r K ⟨rfl,rfl⟩
   go_wp2_with fail
   refine(anl _ l _ (i.out.1.below f.out.2.2.2)).mono ?_;rw[HI.out];rintro r G ⟨rfl,j⟩;have E:=WO f.out.2.1 j;have I:=WO f.out.2.2.1 j;have s0:=Xu E;have sf:G.frozen? ⟨w.heap.size+1,0,MH⟩=false:=by simp[Ng,E]
   obtain⟨u0,u1,d4,d7,_⟩:=Xa I;have C:=f.out.2.2.2.trans (j.mono f.out.2.2.2.size);have H3:M6 (_/\_/\_):=⟨E,I,C⟩;clear E I C j t0 r0 rf h0 h1 a8 b0;go_wp2;refine Np (v:=Nv #[Ny #[MG MH 0 0],Ny #[yB 0,yB 0],yB 9]) (afp aAc rfl rfl rfl (Xp (P:=MK) (cs:=[MG MH 0 0]) (afm H3.out.1 o) U3 rfl (by kernel_rfl)) (Xp (P:=MK) (cs:=[yB 0,yB 0]) (afl H3.out.2.1 o) az5 rfl (by kernel_rfl))) rfl ?_;rw[s.out];exact⟨MH,0,rfl,NY _ _ _ _,aiZ H3.out.2.2 (by omega) (by omega)⟩
  |some k =>
   rw[hfd]at m;replace m:Y8 l key bk=(l.set k ((l.getD k (0,Nb,0,0)).1,Nw,key,bk),((k:Int),(l.getD k (0,Nb,0,0)).1),0):=m;obtain⟨hk,c6,_⟩:=ai0 hfd;have a7:l.getD k (0,Nb,0,0)=l[k]:=by
    rw[NK,MR hk];rfl
   rw[a7]at m;have L:Yn (Yz aaU l)=(k:Int):=by rw[hfd];rfl
   have HI:M6 _:=L;obtain⟨b1,o1,rfl,z,c1,_,_,_⟩:=J k hk;obtain⟨t,b2⟩:=yE (l[k].1);rw[<-b2]at c1 m;have c7:M6 (∀W y,Yy W y l->Ni MK 224 #[Ny #[y],yB k,Ny #[yB t,M3 Nw,yB key,yB bk]] W fun r w'=>∃p c,r=MN (Ny #[MG p l.length c])/\w'.ownsRow W.heap.size 208 4 (MG p l.length c) l.length (XF (l.set k (t,Nw,key,bk)))/\yA W w'):=fun W y hy=>ajc y l k t Nw key bk W hy hk b9
   have s:M6 _:=m;have d2:(k:Int)<(l.length:Int):=by omega
   clear L m J hfd a7 c6 b2
   go_wp2_with fail
   refine(aen _ _).mono ?_;rw[hkb];rintro r K ⟨rfl,rfl⟩
   go_wp2_with fail
   refine(aem _ _).mono ?_;rw[hbb];rintro r K ⟨rfl,rfl⟩
   go_wp2_with fail
   refine(anl _ l _ (i.out.1.below f.out.2.2.2)).mono ?_;rw[HI.out];rintro r G ⟨rfl,j⟩;have a6:=WO f.out.1 j;have E:=WO f.out.2.1 j;have I:=WO f.out.2.2.1 j;have C:=f.out.2.2.2.trans (j.mono f.out.2.2.2.size);have e1:=(C.cell (p:=⟨b1,o1+k*4,MH⟩) z).trans c1;have s0:=Xu a6;obtain⟨W4,a1⟩:=yE (G.alloc (MP #[yB t,M3 Nw,yB key,yB bk] 208));have N:yA G W4:=by rw[a1];exact YF G
   have b8:=WO E N;have a4:=WO I N;have a3:=C.trans (N.mono C.size);have m0:w.heap.size<G.heap.size:=by have:=j.size;omega
   have A:M6 (_/\_/\_/\_):=⟨b8,a4,a3,a1⟩;clear a6 E I C j t0 r0 rf h0 h1 a8 b0 N b8 a4 a3 a1 c1
   go_wp2_with fail
   rw[<-A.out.2.2.2];refine(c7.out _ _ (i.out.1.below A.out.2.2.1)).mono ?_;rintro r w5 ⟨q,d,rfl,b7,O⟩;have Q:=WO A.out.1 O;have Z:=WO A.out.2.1 O;have u0:=Xu Q;have uf:w5.frozen? ⟨w.heap.size+1,0,MH⟩=false:=by simp[Ng,Q]
   obtain⟨x0,x1,d1,d5,_⟩:=Xa Z;have c8:=(ZAa.1 A.out.2.1).1;have U:M6 (_/\_/\_/\_):=⟨Q,Z,auE (R:=w.heap.size+1) (H:=w.heap.size+1+1) (u:=MG q l.length d) (x:=yB (k:Int)) (y:=yB t) b7 (by omega) (by omega),A.out.2.2.1.trans (O.mono A.out.2.2.1.size)⟩;have c5:=A.out.2.2.1.size;clear Q Z b7 O e1 s0;go_wp2;refine Np (v:=Nv #[Ny #[MG q l.length d],Ny #[yB (k:Int),yB t],yB 0]) (afp aAc rfl rfl rfl (Xp (P:=MK) (cs:=[MG q l.length d]) (afm U.out.1 o) U3 rfl (by kernel_rfl)) (Xp (P:=MK) (cs:=[yB (k:Int),yB t]) (afl U.out.2.1 o) az5 rfl (by kernel_rfl))) rfl ?_;rw[s.out];refine⟨q,d,?_,?_,aiZ U.out.2.2.2 (by omega) (by omega)⟩
   ·simp
   ·simpa using U.out.2.2.1.mono c5
 ·rw[Nf hok]
  have s:M6 (Y8 l key bk=([],(0,0),6)):=by show Y8 l key bk=_;unfold Y8;rw[Nh hok]
  clear J;go_wp2;exact Np (v:=Nv #[Ny #[MG MH 0 0],Ny #[yB 0,yB 0],yB 6]) (afp aAc rfl rfl rfl (Xp (P:=MK) (cs:=[MG MH 0 0]) (afm f.out.2.1 o) U3 rfl (by kernel_rfl)) (Xp (P:=MK) (cs:=[yB 0,yB 0]) (afl f.out.2.2.1 o) az5 rfl (by kernel_rfl))) rfl (Y.out _ s.out)
theorem auU(h:Yt x):aaU x=(!x.2.1 && (x.1 != 1048576)):=by
 unfold aaU;have:=ajb h
 by_cases hu:x.2.1=Nw
 ·rw[M0 (this.2 hu),hu]
  rfl
 ·rw[Nq (PM fun hn=>hu (this.1 hn))]
  simp only[Qc]at hu;rw[hu];rfl
def aa6(bk:Int)(t:Sl):Bool:=t.2.1 && (t.2.2.2 == bk)
def afn(l:List Sl)(i:Nat):Tm:=((i:Int),(l.getD i (0,Nb,0,0)).1)
def YM(bk:Int)(l:List Sl)(k:Nat):List Tm:=((Pm k).filter fun i=>aa6 bk (l.getD i (0,Nb,0,0))).map (afn l)
def YL(bk:Int)(l:List Sl):List Tm:=YM bk l l.length
theorem auJ{bk:Int}(h:aa6 bk (l.getD k (0,Nb,0,0))=Nw):YM bk l (k+1)=YM bk l k++[afn l k]:=by
 unfold YM;rw[ZqB,OY,OI,List.filter_cons_of_pos (p:=fun i=>aa6 bk (l.getD i (0,Nb,0,0))) h,List.filter_nil];rfl
theorem auI{bk:Int}(h:aa6 bk (l.getD k (0,Nb,0,0))=Nb):YM bk l (k+1)=YM bk l k:=by
 unfold YM;rw[ZqB,OY,OI,List.filter_cons_of_neg (by rw[h];exact PE),List.filter_nil,P5,OG]
theorem auH(bk:Int)(l:List Sl)(k:Nat):(YM bk l k).length<=k:=by
 unfold YM;rw[N0];exact Nm (O1 ..) (by simp)
theorem auw{p:Option Oc}{c:Nat}{m:List Tm}(ho:w.ownsRow base 134 2 (MG p k c) k (WP m))(hb:base<=w.heap.size)(hk:k<=1000)(ty:NU)(x1 x2:Int):
  ∃p' c' w',(N2 #[57,57] ty #[MG p k c,MG (MI ⟨w.heap.size,0,MH⟩) 1 1]).run MK (w.alloc (MP #[yB x1,yB x2] 134))=.ok (MG p' (k+1) c') w' /\
   w'.ownsRow base 134 2 (MG p' (k+1) c') (k+1) (WP (m++[(x1,x2)]))/\MQ base w w':=by
 obtain⟨s,C,o,i,r⟩:=OF auL;have z:=acR w (WP [(x1,x2)]) 134;obtain⟨D,w',A,f,t,_⟩:=run_append_own (P:=MK) (w.alloc (MP #[yB x1,yB x2] 134)) base 57 ty 134 s _ 2 16 Tryz.underlying57 C o i r rfl (by decide) (MG p k c) k (WP m) (ho.alloc _) ⟨w.heap.size,0,MH⟩ 1 1 (WP [(x1,x2)]) rfl z (abJ _) (by unfold NE;omega) (by omega) (by simp;omega);rw[<-aa7]at f;obtain⟨p',c',rfl⟩:=Y6 f;refine⟨p',c',w',A,f,?_⟩;exact((MY _ _).alloc hb _).grown t (by simp;omega) (fun j e=>(ho.lt j e).1)
theorem auY(g:Int)(u:Bool)(k b bk:Int)(gc:Nat)(w:MO)(hcap:w.cell? ⟨gc,0,MH⟩=MI (yB bk))(hok:Yt (g,u,k,b)) :
  Ni MK 292 #[Ny #[yB g,M3 u,yB k,yB b],Na (MI ⟨gc,0,MH⟩)] w fun r w'=>r=MN (M3 (aa6 bk (g,u,k,b)))/\yA w w':=by
 have t:aa6 bk (g,u,k,b)=(!Nn (ZX (g,u,k,b)) && (b == bk)):=by
  unfold aa6;have h:=ajb hok;cases u
  ·have s:ZX (g,Nb,k,b):=PM fun hn=>by have:=h.1 hn;cases this
   rw[Nq s];rfl
  ·have s:¬ZX (g,Nw,k,b):=h.2 rfl
   rw[M0 s];rfl
 obtain⟨z,m⟩:=yE (aa6 bk (g,u,k,b));rw[<-m];rw[<-m]at t;have H:M6 _:=t;have F:=MX w _ hcap;obtain⟨f,i⟩:=yE (w.alloc (MP #[yB g,M3 u,yB k,yB b] 208));have E:f.heap[w.heap.size]?=MI (MP #[yB g,M3 u,yB k,yB b] 208 (0,0)):=by rw[i];exact M1 _ _
 have o:yA w f:=by rw[i];exact YF w
 have C:=(o.cell (p:=⟨gc,0,MH⟩) F).trans hcap;have e:M6 (_/\_/\_/\_):=⟨i,E,o,C⟩;clear m t i E o hok C;go_enter Tryz.func292,Tryz.ntmps292
 go_wp2_with fail
 rw[<-e.out.1];refine(afo g u k b _).mono ?_;generalize Nn (ZX (g,u,k,b))=fr at *;rintro r G ⟨rfl,j⟩;have A:=WO e.out.2.1 j;have c3:G.cell? ⟨w.heap.size,3,MH⟩=MI (yB b):=by simp[Nl,A]
 have I:=(j.cell (p:=⟨gc,0,MH⟩) (MX f _ e.out.2.2.2)).trans e.out.2.2.2;have D:M6 _:=e.out.2.2.1.trans (j.mono e.out.2.2.1.size);clear j A hcap;cases fr
 ·go_wp2
  go_ret;exact⟨by rw[H.out];rfl,D.out⟩
 ·go_wp2
  go_ret;exact⟨by rw[H.out];rfl,D.out⟩
theorem auZ(bk:Int)(w:MO):Ni MK 248 #[yB bk] w fun r w'=>r=MN (PB (PD 292) #[] #[Na (MI ⟨w.heap.size,0,MH⟩)])/\w'=w.alloc (MP #[yB bk] 3):=by
 go_enter VO,VG;go_wp2;go_ret;exact⟨rfl,rfl⟩
theorem auG(v:M7)(l:List Sl)(bk:Int)(gc:Nat)(w:MO)(hv:Yy w v l)(hok:∀t∈l,Yt t)(hl:l.length<=40)(hcap:w.cell? ⟨gc,0,MH⟩=MI (yB bk)) :
  Ni MK 247 #[Ny #[v],PB (PD 292) #[] #[Na (MI ⟨gc,0,MH⟩)]] w fun r w'=>∃p c,r=MN (MG p (YL bk l).length c)/\w'.ownsRow w.heap.size 134 2 (MG p (YL bk l).length c) (YL bk l).length (WP (YL bk l))/\yA w w':=by
 obtain⟨p,c,rfl,hc,hm,pa⟩:=hv.F6;unfold NE at hm;have a3:=MX w _ hcap;have O:M6 (_/\_/\_/\_):=⟨pa,hok,hcap,a3⟩;clear hv pa hok hcap a3;go_enter Tryz.func247,Tryz.ntmps247;go_wp2;obtain⟨W0,V⟩:=yE (w.alloc (MP #[MG p l.length c] 40));have a2:yA w W0:=by rw[V];exact YF w
 rw[<-V];have a7:M6 _:=a2;clear V a2
 go_loopw [5,11] (fun o i wr=>∃(k:Nat) (m:Option Oc) (s:Nat),i=yB k/\o=MG m (YM bk l k).length s/\k<=l.length/\wr.ownsRow w.heap.size 134 2 (MG m (YM bk l k).length s) (YM bk l k).length (WP (YM bk l k))/\yA w wr) (fun _ i _=>l.length-(On i).toNat)
 case atStart=>exact⟨0,MH,0,rfl,rfl,Nx _,NY _ _ _ _,a7.out⟩
 case round =>
  obtain⟨k,m,s,rfl,rfl,hk,Q,f⟩:=hrel
  by_cases hlt:k<l.length
  ·obtain⟨L,S,rfl,A,c1,c2,c3,c4⟩:=O.out.1 k hlt
   replace c1:=(f.cell (p:=⟨L,S+k*4,MH⟩) A).trans c1;replace c2:=(f.cell (p:=⟨L,S+k*4+1,MH⟩) A).trans c2;replace c3:=(f.cell (p:=⟨L,S+k*4+2,MH⟩) A).trans c3;replace c4:=(f.cell (p:=⟨L,S+k*4+3,MH⟩) A).trans c4;have a8:L<wr.heap.size:=M8 A f.size;have J:l.getD k (0,Nb,0,0)=l[k]:=by simp[hlt]
   have Y:=O.out.2.1 l[k] (Nk hlt);obtain⟨⟨j,E,D,C⟩,hx⟩:∃x,x=l[k]:=⟨_,rfl⟩;rw[<-hx]at c1 c2 c3 c4 Y J;have z:aa6 bk (j,E,D,C)=Nw->YM bk l (k+1)=YM bk l k++[((k:Int),j)]:=fun h=>by
    rw[auJ (by rw[J];exact h)];unfold afn;rw[J]
   have I:aa6 bk (j,E,D,C)=Nb->YM bk l (k+1)=YM bk l k:=fun h=>auI (by rw[J];exact h)
   obtain⟨K,G⟩:=yE (wr.alloc (MP #[yB j,M3 E,yB D,yB C] 208));have a4:K.heap[wr.heap.size]?=MI (MP #[yB j,M3 E,yB D,yB C] 208 (0,0)):=by rw[G];exact M1 _ _
   have U:yA w K:=by rw[G];exact f.alloc f.size _
   have a1:=(U.cell (p:=⟨gc,0,MH⟩) O.out.2.2.2).trans O.out.2.2.1;have a5:K.ownsRow w.heap.size 134 2 (MG m (YM bk l k).length s) (YM bk l k).length (WP (YM bk l k)):=by rw[G];exact Q.alloc _
   have a6:=auH bk l k;have H:M6 (_/\_/\_/\_/\_/\_/\_/\_):=⟨z,I,G,a4,U,a1,a5,Y⟩;clear z I G a4 U a1 a5 Y Q f hx J A;have a9:(k:Int)<(l.length:Int):=by omega
   go_wp2_with fail
   rw[<-H.out.2.2.1];refine(auY j E D C bk gc _ H.out.2.2.2.2.2.1 H.out.2.2.2.2.2.2.2).mono ?_;rintro r w2 ⟨rfl,M⟩;have Z:=WO H.out.2.2.2.1 M;have d0:w2.cell? ⟨wr.heap.size,0,MH⟩=MI (yB j):=by simp[Nl,Z]
   have b0:wr.heap.size<w2.heap.size:=(ZAa.1 Z).1;have N:=YI H.out.2.2.2.2.2.2.1 M;have F:=H.out.2.2.2.2.1.trans (M.mono H.out.2.2.2.2.1.size);clear M Z c1 c2 c3 c4;cases hmine:aa6 bk (j,E,D,C)
   ·have I:=H.out.2.1 hmine
    have e:M6 (_/\_/\_):=⟨N,F,I⟩;clear N F I;go_wp2
    go_roundw
    case rel=>exact⟨k+1,m,s,by simp,by rw[e.out.2.2],hlt,by rw[e.out.2.2];exact e.out.1,e.out.2.1⟩
    case measure=>simp[On];omega
   ·have z:=H.out.1 hmine
    have a0:(YM bk l (k+1)).length=(YM bk l k).length+1:=by rw[z];simp
    obtain⟨q,d,w3,hr,P,z1⟩:=auw N F.size (by omega) 57 (k:Int) j;rw[<-z]at P;obtain⟨n,hn⟩:=yE ((YM bk l k).length);rw[<-hn]at hr P a0⊢;have e:M6 (_/\_/\_/\_):=⟨hr,P,F.trans z1,a0⟩;clear hr P z1 a0 z N F hn a6
    go_wp2_with (at_builtin;(with_reducible refine Z4 rfl _ _ 57 rfl (MG m n s) (MG (MI ⟨w2.heap.size,0,MH⟩) 1 1) (MG q (n+1) d) w3 ?hs ?hx ?hr ?_);(case hs=>rfl);(case hx=>rfl);(case hr=>exact e.out.1))
    go_roundw
    case rel=>exact⟨k+1,q,d,by simp,by rw[e.out.2.2.2],hlt,by rw[e.out.2.2.2];exact e.out.2.1,e.out.2.2.1⟩
    case measure=>simp[On];omega
  ·obtain rfl:k=l.length:=by omega
   have e:M6 (_/\_):=⟨Q,f⟩;clear Q f;go_wp2;go_ret;exact⟨m,s,rfl,e.out.1,e.out.2⟩
def aeo(l:List Sl)(bk:Int):List Tm×Int:=if Z6 l then(YL bk l,0)else([],6)
def auv(o:List Tm×Int)(w:MO)(r:Ending)(w':MO):Prop :=
 ∃p c,r=MN (Nv #[MG p o.1.length c,yB o.2])/\w'.ownsRow w.heap.size 134 2 (MG p o.1.length c) o.1.length (WP o.1)/\yA w w'
theorem auS(v:M7)(l:List Sl)(bk:Int)(w:MO)(hv:Yy w v l) :
  Ni MK 189 #[Ny #[v],yB bk] w (auv (aeo l bk) w):=by
 obtain⟨p,c,rfl,hc,hm,_⟩:=hv.F6;unfold NE at hm;obtain⟨G,C⟩:=yE (w.alloc (MP #[MG p l.length c] 40));have L:yA w G:=by rw[C];exact YF w
 have M:G.heap[w.heap.size]?=MI (MP #[MG p l.length c] 40 (0,0)):=by rw[C];exact M1 _ _
 have m:M6 (_/\_/\_/\_):=⟨hv,L,M,C⟩;clear hv L M C;go_enter ayi,aya
 go_wp2_with fail
 rw[<-m.out.2.2.2];refine(agO _ l _ (m.out.1.below m.out.2.1)).mono ?_;rintro r f ⟨rfl,z⟩;have D:=WO m.out.2.2.1 z;have t0:=Xu D;have Y:w.heap.size<f.heap.size:=(ZAa.1 D).1;have E:=m.out.2.1.trans (z.mono m.out.2.1.size)
 by_cases hok:Z6 l
 ·have t:aeo l bk=(YL bk l,0):=by unfold aeo;rw[Nh hok]
  rw[Nh hok];have J:M6 _:=t;have U:∀W,yA f W->Ni MK 248 #[yB bk] W fun r i=>∃j,r=MN (PB (PD 292) #[] #[Na (MI ⟨j,0,MH⟩)])/\M6 (i.cell? ⟨j,0,MH⟩=MI (yB bk)/\yA f i)/\i.cell? ⟨w.heap.size,0,MH⟩=MI (MG p l.length c)/\(∀n,n<W.heap.size->n<i.heap.size)/\(∀b o,b<W.heap.size->i.cell? ⟨b,o,MH⟩=W.cell? ⟨b,o,MH⟩)/\(∀b o,b<W.heap.size->i.frozen? ⟨b,o,MH⟩=W.frozen? ⟨b,o,MH⟩):=fun W hW=>by
   refine(auZ bk W).mono ?_;rintro r i ⟨rfl,rfl⟩;have F:yA W (W.alloc (MP #[yB bk] 3)):=YF W;have N:=hW.trans (F.mono hW.size);exact⟨_,rfl,⟨Xu (M1 W _),N⟩,(N.cell (p:=⟨w.heap.size,0,MH⟩) Y).trans t0,(fun n hn=>M8 hn F.size),(ank F).1,(ank F).2⟩
  have Q:∀W wt j,M6 (wt.cell? ⟨j,0,MH⟩=MI (yB bk)/\yA f wt)->yA wt W->Ni MK 247 #[Ny #[MG p l.length c],PB (PD 292) #[] #[Na (MI ⟨j,0,MH⟩)]] W fun r i=>∃q d,r=MN (MG q (YL bk l).length d)/\M6 (i.ownsRow f.heap.size 134 2 (MG q (YL bk l).length d) (YL bk l).length (WP (YL bk l))/\yA f i):=fun W wt j hy hw=>by
   have I:=hy.out.2.trans (hw.mono hy.out.2.size);refine(auG _ l bk j W (((m.out.1.below m.out.2.1).below z).below I) hok.2 hok.1.2 ((hw.cell (p:=⟨j,0,MH⟩) (MX wt _ hy.out.1)).trans hy.out.1)).mono ?_;rintro r i ⟨q,d,rfl,Z,h2⟩;exact⟨q,d,rfl,Z.mono I.size,I.trans (h2.mono I.size)⟩
  have A:M6 (_/\_/\_):=⟨U,Q,E⟩;clear U Q E z t D hok;go_wp2
  go_cut [4,5]from 12 to 15 (fun s e wx=>∃q d,s=MG q (YL bk l).length d/\e=yB 0/\wx.ownsRow f.heap.size 134 2 (MG q (YL bk l).length d) (YL bk l).length (WP (YL bk l))/\yA f wx)
  case first =>
   go_region_with (first|(go_at_call 248;refine(A.out.1 _ ?hbW).mono ?_;(case hbW=>first|exact(MY _ _).drew|exact Below.refl _ _);rintro r w4 ⟨j,rfl,V,k4,a1,a2,a0⟩)|(go_at_call 247;refine(A.out.2.1 _ w4 j V ?hbW).mono ?_;(case hbW=>exact MY _ _);rintro r w5 ⟨q,d,rfl,P⟩))
   all_goals
    go_wp2_with fail
    go_meet
    exact⟨q,d,rfl,rfl,P.out.1,P.out.2⟩
  case rest =>
  obtain⟨q,d,rfl,rfl,K,O⟩:=hcut;have S:M6 (_/\_):=⟨K,O⟩;clear K O;go_wp2
  go_ret2
  rw[J.out];exact⟨q,d,rfl,S.out.1.mono A.out.2.2.size,A.out.2.2.trans (S.out.2.mono A.out.2.2.size)⟩
 ·have t:aeo l bk=([],6):=by unfold aeo;rw[Nf hok]
  rw[Nf hok];have J:M6 _:=t;have HB:M6 _:=E;clear E z D t hok;go_wp2
  go_ret2
  rw[J.out];exact⟨MH,0,rfl,NY _ _ _ _,HB.out⟩
theorem aja{T:List Sl}{s:Nat}(h:Z6 T)(hx:Yt x):Z6 (T.set s x):=by
 refine⟨by simpa using h.1,fun t ht=>?_⟩;rcases OB ht with e|e
 ·exact h.2 t e
 ·rw[e];exact hx
end
section
variable {o:Bool}{d f n t u:Int}{l:List Bool}{xs:List M7}{a b c v:M7}{W w w':MO}{T:NU}{base g k:Nat}
def Yi(l:List Bool):List Value:=l.map fun x=>M3 x
theorem age(l:List Bool):(Yi l).length=l.length:=by simp[Yi]
theorem arz(l:List Bool)(i:Nat)(h:i<l.length):(Yi l)[i]?=MI (M3 l[i]):=by simp[Yi,h]
def Yo(w:MO)(v:M7)(l:List Bool):Prop:=XB w v l.length (Yi l)
theorem Yo.below(h:Yo w v l)(hb:yA w w'):Yo w' v l:=XB.below h hb
theorem Yo.F6(h:Yo w v l):
  ∃a cap,v=MG a l.length cap/\l.length<=cap/\cap<=NE/\∀i (hi:i<l.length),∃b off,a=MI ⟨b,off,MH⟩/\b<w.heap.size/\w.cell? ⟨b,off+i,MH⟩=MI (M3 l[i]):=by
 obtain⟨a,cap,p,m,j,e|⟨b,off,e,r,q⟩⟩:=h
 ·exact⟨a,cap,p,m,j,fun i hi=>absurd hi (by omega)⟩
 ·exact⟨a,cap,p,m,j,fun i hi=>⟨b,off,e,r,by rw[q i (by rw[age];omega)];exact arz l i hi⟩⟩
theorem ary(a b:List Bool):Yi (a++b)=Yi a++Yi b:=by simp[Yi]
theorem arA(l:List Bool):∀u∈Yi l,u.oneCell'=true:=by
 intro u e;obtain⟨x,_,rfl⟩:=ZAd.1 e;rfl
theorem alI:(MK.info? 4).map (fun i=>(i.zero,i.size,i.bytes))=MI (MI (M3 Nb),1,1):=by kernel_rfl
theorem acQ(h:w.ownsRow base 4 1 v l.length (Yi l)):Yo w v l:=Yr h
theorem ah2(w:MO):Yo w (MG MH 0 0) []:=Z3 w
theorem Yo.Ga(h:Yo w v l):∃p c,v=MG p l.length c:=by
 obtain⟨p,c,rfl,_⟩:=h;exact⟨p,c,rfl⟩
abbrev ZT(n f d:Int):Prop:=(1<=n/\n<=16)/\(1<=f/\f<=n)/\(1<=d/\d<=500)
def abz(n f d:Int):Int:=if ZT n f d then 0 else 2
abbrev ZO(n:Int)(k:Nat)(o:Bool)(u t:Int):Prop:=(k:Int)<=n/\(0<=t/\t<=10)/\(0<=u/\u<=1099511628276)/\(o=Nw\/u=0)
def YR(n f d:Int)(k:Nat)(o:Bool)(u t now:Int):Int :=
 if ZT n f d then(if 0<=now/\now<=1099511627776 then(if ZO n k o u t then 0 else 6)else 2)else 2
theorem arL(h:ZT n f d):abz n f d=0:=Nh h
theorem arK(h:¬ZT n f d):abz n f d=2:=Nf h
theorem alA(n f d:Int)(k:Nat)(o:Bool)(u t now:Int):(YR n f d k o u t now=2/\(¬ZT n f d\/¬(0<=now/\now<=1099511627776)))\/(YR n f d k o u t now=6/\ZT n f d/\(0<=now/\now<=1099511627776)/\¬ZO n k o u t)\/(YR n f d k o u t now=0/\ZT n f d/\(0<=now/\now<=1099511627776)/\ZO n k o u t):=by
 unfold YR
 by_cases h:ZT n f d
 ·rw[Nh h]
  by_cases h2:0<=now/\now<=1099511627776
  ·rw[Nh h2]
   by_cases h3:ZO n k o u t
   ·rw[Nh h3];exact NF (NF ⟨rfl,h,h2,h3⟩)
   ·rw[Nf h3];exact NF (Nt ⟨rfl,h,h2,h3⟩)
  ·rw[Nf h2];exact Nt ⟨rfl,NF h2⟩
 ·rw[Nf h];exact Nt ⟨rfl,Nt h⟩
abbrev Y5(v:M7)(o:Bool)(u t:Int):Value:=Ny #[v,M3 o,yB u,yB t]
theorem YB(n lo hi:Int)(w:MO):Ni MK 90 #[yB n,yB lo,yB hi] w fun r w'=>r=MN (M3 (Nn (lo<=n/\n<=hi)))/\w'=w:=by
 obtain⟨i,e⟩:=yE (Nn (lo<=n/\n<=hi));rw[<-e];have H:M6 _:=e;clear e;cases h1:Nn (lo<=n)
 ·go_enter aA0,aAX
  go_wp2;go_ret;exact⟨by rw[H.out,M0 (fun h=>Nc h1 h.1)];rfl,rfl⟩
 ·cases h2:Nn (n<=hi)
  ·go_enter aA0,aAX
   go_wp2;go_ret;exact⟨by rw[H.out,M0 (fun h=>Nc h2 h.2)];rfl,rfl⟩
  ·go_enter aA0,aAX
   go_wp2;go_ret;exact⟨by rw[H.out,Nq ⟨M2 h1,M2 h2⟩];rfl,rfl⟩
theorem ah3(n f d:Int)(w:MO):Ni MK 70 #[acS n f d] w fun r w'=>r=MN (yB (abz n f d))/\yA w w':=by
 obtain⟨j,i⟩:=yE (w.alloc (MP #[yB n,yB f,yB d] 34));have p:j.heap[w.heap.size]?=MI (MP #[yB n,yB f,yB d] 34 (0,0)):=by rw[i];exact M1 _ _
 have m:yA w j:=by rw[i];exact WQ _
 obtain⟨c0,c1,c2,_⟩:=aeD p;have H:M6 (_/\_):=⟨i,m⟩;clear i m p;cases h1:Nn (1<=n/\n<=16)
 ·have E:M6 (abz n f d=2):=Nf fun h=>Nc h1 h.1
  go_enter Tj,SK
  go_wp2_with fail
  rw[<-H.out.1];refine(YB _ _ _ _).mono ?_;rintro e w' ⟨rfl,rfl⟩;rw[h1];go_wp2;go_ret;exact⟨by rw[E.out];rfl,H.out.2⟩
 cases h2:Nn (1<=f/\f<=n)
 ·have E:M6 (abz n f d=2):=Nf fun h=>Nc h2 h.2.1
  go_enter Tj,SK
  go_wp2_with fail
  rw[<-H.out.1];refine(YB _ _ _ _).mono ?_;rintro e w' ⟨rfl,rfl⟩;rw[h1]
  go_wp2_with fail
  refine(YB _ _ _ _).mono ?_;rintro e w' ⟨rfl,rfl⟩;rw[h2];go_wp2;go_ret;exact⟨by rw[E.out];rfl,H.out.2⟩
 cases h3:Nn (1<=d/\d<=500)
 ·have E:M6 (abz n f d=2):=Nf fun h=>Nc h3 h.2.2
  go_enter Tj,SK
  go_wp2_with fail
  rw[<-H.out.1];refine(YB _ _ _ _).mono ?_;rintro e w' ⟨rfl,rfl⟩;rw[h1]
  go_wp2_with fail
  refine(YB _ _ _ _).mono ?_;rintro e w' ⟨rfl,rfl⟩;rw[h2]
  go_wp2_with fail
  refine(YB _ _ _ _).mono ?_;rintro e w' ⟨rfl,rfl⟩;rw[h3];go_wp2;go_ret;exact⟨by rw[E.out];rfl,H.out.2⟩
 ·have E:M6 (abz n f d=0):=Nh ⟨M2 h1,M2 h2,M2 h3⟩
  go_enter Tj,SK
  go_wp2_with fail
  rw[<-H.out.1];refine(YB _ _ _ _).mono ?_;rintro e w' ⟨rfl,rfl⟩;rw[h1]
  go_wp2_with fail
  refine(YB _ _ _ _).mono ?_;rintro e w' ⟨rfl,rfl⟩;rw[h2]
  go_wp2_with fail
  refine(YB _ _ _ _).mono ?_;rintro e w' ⟨rfl,rfl⟩;rw[h3];go_wp2;go_ret;exact⟨by rw[E.out];rfl,H.out.2⟩
theorem alF{d:M7}(h:w.heap[g]?=MI (MP #[a,b,c,d] T (0,0))):w.cell? ⟨g,0,MH⟩=MI a/\w.cell? ⟨g,1,MH⟩=MI b/\w.cell? ⟨g,2,MH⟩=MI c/\w.cell? ⟨g,3,MH⟩=MI d/\g<w.heap.size :=
 ⟨by simp[Nl,h],by simp[Nl,h],by simp[Nl,h],by simp[Nl,h],(ZAa.1 h).1⟩
theorem alG{d:M7}(h:w.heap[g]?=MI (MP #[a,b,c,d] T (0,0))):w.frozen? ⟨g,0,MH⟩=Nb/\w.frozen? ⟨g,1,MH⟩=Nb/\w.frozen? ⟨g,2,MH⟩=Nb/\w.frozen? ⟨g,3,MH⟩=false :=
 ⟨by simp[Ng,h],by simp[Ng,h],by simp[Ng,h],by simp[Ng,h]⟩
def Hx(w W:MO)(n f d:Int)(v:M7)(o:Bool)(u t:Int):Prop :=
 W.heap[w.heap.size]?=MI (MP #[yB n,yB f,yB d] 34 (0,0))/\W.heap[w.heap.size+1]?=MI (MP #[v,M3 o,yB u,yB t] 224 (0,0))/\yA w W
theorem ah4(w:MO)(n f d:Int)(v:M7)(o:Bool)(u t:Int):Hx w ((w.alloc (MP #[yB n,yB f,yB d] 34)).alloc (MP #[v,M3 o,yB u,yB t] 224)) n f d v o u t :=
 ⟨Xy _ _ (M1 _ _),Yu _ _ _,((MY _ _).alloc (MV _) _).alloc (by simp) _⟩
theorem Hx.below{W':MO}(h:Hx w W n f d v o u t)(hb:yA W W'):Hx w W' n f d v o u t :=
 ⟨WO h.1 hb,WO h.2.1 hb,h.2.2.trans (hb.mono h.2.2.size)⟩
theorem Hx.Gg(h:Hx w W n f d v o u t):W.cell? ⟨w.heap.size,0,MH⟩=MI (yB n)/\W.cell? ⟨w.heap.size,1,MH⟩=MI (yB f)/\W.cell? ⟨w.heap.size,2,MH⟩=MI (yB d)/\W.cell? ⟨w.heap.size+1,0,MH⟩=MI v/\W.cell? ⟨w.heap.size+1,1,MH⟩=MI (M3 o)/\W.cell? ⟨w.heap.size+1,2,MH⟩=MI (yB u)/\W.cell? ⟨w.heap.size+1,3,MH⟩=MI (yB t):=by
 obtain⟨c0,c1,c2,_⟩:=aeD h.1;obtain⟨c3,c4,c5,c6,_⟩:=alF h.2.1;exact⟨c0,c1,c2,c3,c4,c5,c6⟩
theorem alK(n f d:Int)(p:Option Oc)(k c:Nat)(o:Bool)(u t:Int)(w:MO)(hn:n<=16):Ni MK 256 #[acS n f d,Y5 (MG p k c) o u t] w fun r w'=>r=MN (M3 (Nn (ZO n k o u t)))/\yA w w':=by
 obtain⟨i,m⟩:=yE ((w.alloc (MP #[yB n,yB f,yB d] 34)).alloc (MP #[MG p k c,M3 o,yB u,yB t] 224));have j:Hx w i n f d (MG p k c) o u t:=by rw[m];exact ah4 _ _ _ _ _ _ _ _
 obtain⟨c0,c1,c2,c3,c4,c5,c6⟩:=j.Gg;have H:M6 (_/\yA w i):=⟨m,j.2.2⟩;clear m j;cases h1:Nn ((k:Int)<=n)
 ·have E:M6 (Nn (ZO n k o u t)=Nb):=M0 fun h=>Nc h1 h.1
  go_enter aAm,aAg
  go_wp2_with fail
  rw[<-H.out.1];go_wp2;go_ret;exact⟨by rw[E.out];rfl,H.out.2⟩
 cases h2:Nn (0<=t/\t<=10)
 ·have E:M6 (Nn (ZO n k o u t)=Nb):=M0 fun h=>Nc h2 h.2.1
  go_enter aAm,aAg
  go_wp2_with fail
  rw[<-H.out.1];refine(YB _ _ _ _).mono ?_;rintro e w' ⟨rfl,rfl⟩;rw[h2];go_wp2;go_ret;exact⟨by rw[E.out];rfl,H.out.2⟩
 cases h3:Nn (0<=u/\u<=1099511628276)
 ·have E:M6 (Nn (ZO n k o u t)=Nb):=M0 fun h=>Nc h3 h.2.2.1
  go_enter aAm,aAg
  go_wp2_with fail
  rw[<-H.out.1];refine(YB _ _ _ _).mono ?_;rintro e w' ⟨rfl,rfl⟩;rw[h2]
  go_wp2_with fail
  refine(YB _ _ _ _).mono ?_;rintro e w' ⟨rfl,rfl⟩;rw[h3];go_wp2;go_ret;exact⟨by rw[E.out];rfl,H.out.2⟩
 cases o
 ·have E:M6 (Nn (ZO n k Nb u t)=(u == 0)):=Bool.eq_iff_iff.2 ⟨fun h=>by simpa using(M2 h).2.2.2.resolve_left (by decide),fun h=>Nq ⟨M2 h1,M2 h2,M2 h3,NF (by simpa using h)⟩⟩
  go_enter aAm,aAg
  go_wp2_with fail
  rw[<-H.out.1];refine(YB _ _ _ _).mono ?_;rintro e w' ⟨rfl,rfl⟩;rw[h2]
  go_wp2_with fail
  refine(YB _ _ _ _).mono ?_;rintro e w' ⟨rfl,rfl⟩;rw[h3];go_wp2;go_ret;exact⟨by rw[E.out];rfl,H.out.2⟩
 ·have E:M6 (Nn (ZO n k Nw u t)=Nw):=Nq ⟨M2 h1,M2 h2,M2 h3,Nt rfl⟩
  go_enter aAm,aAg
  go_wp2_with fail
  rw[<-H.out.1];refine(YB _ _ _ _).mono ?_;rintro e w' ⟨rfl,rfl⟩;rw[h2]
  go_wp2_with fail
  refine(YB _ _ _ _).mono ?_;rintro e w' ⟨rfl,rfl⟩;rw[h3];go_wp2;go_ret;exact⟨by rw[E.out];rfl,H.out.2⟩
theorem alC(n f d:Int)(p:Option Oc)(k c:Nat)(o:Bool)(u t now:Int)(w:MO):Ni MK 204 #[acS n f d,Y5 (MG p k c) o u t,yB now] w fun r w'=>r=MN (yB (YR n f d k o u t now))/\yA w w':=by
 obtain⟨y,s⟩:=yE ((w.alloc (MP #[yB n,yB f,yB d] 34)).alloc (MP #[MG p k c,M3 o,yB u,yB t] 224));have q:Hx w y n f d (MG p k c) o u t:=by rw[s];exact ah4 _ _ _ _ _ _ _ _
 obtain⟨c0,c1,c2,c3,c4,c5,c6⟩:=q.Gg;have H:M6 (_/\Hx _ _ _ _ _ _ _ _ _):=⟨s,q⟩;clear s q;go_enter azN,azE
 go_wp2_with fail
 rw[<-H.out.1];refine(ah3 n f d _).mono ?_;rintro r D ⟨rfl,A⟩;have m:=H.out.2.below A;clear c0 c1 c2 c3 c4 c5 c6 A H;obtain⟨c0,c1,c2,c3,c4,c5,c6⟩:=m.Gg;have i:M6 (Hx _ _ _ _ _ _ _ _ _):=m;clear m
 by_cases hok:ZT n f d
 ·rw[arL hok]
  have B:=hok.1.2;cases h2:Nn (0<=now/\now<=1099511627776)
  ·have E:M6 (YR n f d k o u t now=2):=(by unfold YR;rw[Nh hok,Nf (Nc h2)]:YR n f d k o u t now=2)
   clear hok
   go_wp2_with fail
   refine(YB _ _ _ _).mono ?_;rintro e w' ⟨rfl,rfl⟩;rw[h2];go_wp2;go_ret;exact⟨by rw[E.out];rfl,i.out.2.2⟩
  cases h3:Nn (ZO n k o u t)
  ·have E:M6 (YR n f d k o u t now=6):=(by unfold YR;rw[Nh hok,Nh (M2 h2),Nf (Nc h3)]:YR n f d k o u t now=6)
   have z:M6 _:=h3;clear hok h3
   go_wp2_with fail
   refine(YB _ _ _ _).mono ?_;rintro e w' ⟨rfl,rfl⟩;rw[h2]
   go_wp2_with fail
   refine(alK n f d p k c o u t _ B).mono ?_;rintro r C ⟨rfl,j⟩;rw[z.out];have x:M6 _:=i.out.2.2.trans (j.mono i.out.2.2.size);clear j c0 c1 c2 c3 c4 c5 c6;go_wp2;go_ret;exact⟨by rw[E.out];rfl,x.out⟩
  ·have E:M6 (YR n f d k o u t now=0):=(by unfold YR;rw[Nh hok,Nh (M2 h2),Nh (M2 h3)]:YR n f d k o u t now=0)
   have z:M6 _:=h3;clear hok h3
   go_wp2_with fail
   refine(YB _ _ _ _).mono ?_;rintro e w' ⟨rfl,rfl⟩;rw[h2]
   go_wp2_with fail
   refine(alK n f d p k c o u t _ B).mono ?_;rintro r C ⟨rfl,j⟩;rw[z.out];have x:M6 _:=i.out.2.2.trans (j.mono i.out.2.2.size);clear j c0 c1 c2 c3 c4 c5 c6;go_wp2;go_ret;exact⟨by rw[E.out];rfl,x.out⟩
 ·rw[arK hok]
  have E:M6 (YR n f d k o u t now=2):=Nf hok;clear hok;go_wp2;go_ret;exact⟨by rw[E.out];rfl,i.out.2.2⟩
theorem ah1{p:Option Oc}{c:Nat}{m:List Bool}(ho:w.ownsRow base 4 1 (MG p k c) k (Yi m))(hb:base<=w.heap.size)(hk:k<=1000)(ty:NU)(u:M7)(hu:Yo w u l)(hl:l.length<=1000):
  ∃p' c' w',(N2 #[222,222] ty #[MG p k c,u]).run MK w=.ok (MG p' (k+l.length) c') w' /\
   w'.ownsRow base 4 1 (MG p' (k+l.length) c') (k+l.length) (Yi (m++l))/\MQ base w w':=by
 obtain⟨y,z,C,B,D⟩:=OF alI;obtain⟨a,i,rfl,M,L,h⟩:=hu
 by_cases h0:l.length=0
 ·obtain rfl:l=[]:=ZAc.1 h0
  rw[OG];have s:k<=c/\c<=maxLen:=by
   rcases ho.2 with⟨r,N⟩|⟨g,i,K,r,_,_,E,G,_⟩
   ·cases r;exact⟨MV _,by unfold NE;omega⟩
   ·cases r;exact⟨E,G⟩
  exact⟨p,c,w,aeY w _ ty _ y aAo z p k c s.1 s.2 a i,ho,MY _ _⟩
 ·rcases h with⟨h,_⟩|⟨b,off,rfl,J,A⟩
  ·exact absurd h h0
  ·obtain⟨v',w',F,q,H,_⟩:=run_append_own (P:=MK) w base 222 ty 4 y _ 1 1 aAo z C B D rfl (by decide) (MG p k c) k (Yi m) ho ⟨b,off,MH⟩ l.length i (Yi l) (by rw[age];omega) (fun j x hx=>by
    have I:=(ZAb.1 hx).1;rw[aas,A j I,hx]) (arA l) (by unfold NE;omega) (by omega) hb
   rw[<-ary]at q;obtain⟨p',c',rfl⟩:=Y6 q;exact⟨p',c',w',F,q,(MY _ _).grown H hb (fun j e=>(ho.lt j e).1)⟩
theorem alD(v:M7)(l:List Bool)(w:MO)(hv:Yo w v l)(hl:l.length<=1000) :
  Ni MK 103 #[v] w fun r w'=>∃p c,r=MN (MG p l.length c)/\w'.ownsRow w.heap.size 4 1 (MG p l.length c) l.length (Yi l)/\yA w w':=by
 obtain⟨p,c,rfl⟩:=hv.Ga;cases p with
 |none =>
  obtain rfl:l=[]:=by
   obtain⟨a,B,y,_,_,h|⟨b,off,rfl,_⟩⟩:=hv
   ·exact ZAc.1 h.1
   ·cases y
  clear hv;have s:∀W,(binOp .eql 222 (MG MH 0 c) (MG MH 0 0)).run MK W=.ok (M3 Nw) W:=fun W=>by kernel_rfl
  go_enter R3,RP;go_wp2;go_ret;exact⟨MH,0,rfl,NY _ _ _ _,MY _ _⟩
 |some q =>
  have s:∀W,(binOp .eql 222 (MG (MI q) l.length c) (MG MH 0 0)).run MK W=.ok (M3 Nb) W:=fun W=>by kernel_rfl
  have j:(w.alloc (MP #[] 4)).ownsRow w.heap.size 4 1 (MG (MI ⟨w.heap.size,0,MH⟩) 0 0) 0 (Yi []):=
   ⟨rfl,NF ⟨w.heap.size,0,#[],rfl,MV _,M1 _ _,MV _,Nx _,rfl,rfl⟩⟩
  obtain⟨z,x,A,hr,e,m⟩:=ah1 j (by simp) (by omega) 222 _ (hv.below (WQ w)) hl;rw[Oa,Oz]at e;rw[Oa]at hr;have i:M6 (_/\_/\_):=⟨hr,(WQ w).trans m,e⟩;clear hr m e hv j;go_enter R3,RP
  go_wp2_with (at_builtin;(with_reducible refine Z4 rfl _ _ 222 rfl (MG (MI ⟨w.heap.size,0,MH⟩) 0 0) (MG (MI q) l.length c) (MG z l.length x) A ?hs ?hx ?hr ?_);(case hs=>rfl);(case hx=>rfl);(case hr=>exact i.out.1))
  go_wp2;go_ret;exact⟨_,_,rfl,i.out.2.2,i.out.2.1⟩
theorem arG(n:Nat)(w:MO)(h0:0<n)(hn:n<=1000) :
  Ni MK 312 #[MG MH 0 0,yB n] w fun r w'=>∃g c,r=MN (MG (MI ⟨g,0,MH⟩) 0 c)/\w'.ownsRow w.heap.size 4 1 (MG (MI ⟨g,0,MH⟩) 0 c) 0 (Yi [])/\yA w w':=by
 obtain⟨A,B,z,D,p⟩:=OF alI;have j:∀ty,(N2 #[222,3] ty #[MG MH 0 0,yB n]).run MK w=.ok (MG (MI ⟨w.heap.size,0,MH⟩) n (QR w n 0 4)) (w.drew.alloc (MP (([]:List M7).toArray++N5 (M3 Nb).cells n++N5 (M3 Nb).cells (QR w n 0 4-n)) 4)):=fun ty=>by
  have h:=Lib.run_append_grow_zeros (P:=MK) w 222 3 ty 4 A (M3 Nb) ME ME aAo Ol B z MH 0 0 [] (run_firstCells_none w.drew A.size 0 0 0) n h0 (by omega) (by omega) (by omega) (by rw[p];omega) (growslice_fits (by omega) (by rw[p];omega))
  simpa using h
 have E:=grownCap_ge w n 0 4;have i:=grownCap_le_maxLen w n 0 4 (by unfold NE;omega);obtain⟨G,y⟩:=yE (QR w n 0 4);rw[<-y]at j E i;obtain⟨e,m⟩:=yE (([]:List M7).toArray++N5 (M3 Nb).cells n++N5 (M3 Nb).cells (G-n));have x:e.size=G*1:=by rw[m];simp[size_zeroCells,Value.cells];omega
 rw[<-m]at j;have s:(w.drew.alloc (MP e 4)).ownsRow w.heap.size 4 1 (MG (MI ⟨w.heap.size,0,MH⟩) 0 G) 0 (Yi []):=
  ⟨rfl,NF ⟨w.heap.size,G,e,rfl,MV _,M1 w.drew _,Nx _,i,x,by simp[Yi]⟩⟩
 have q:yA w (w.drew.alloc (MP e 4)):=((MY _ _).drew).alloc (MV _) _;have C:M6 (_/\_):=⟨s,q⟩;have F:¬((n:Int)<0):=by omega
 have H:(0:Int)<(n:Int):=by omega
 unfold NE at i;clear s q x m y B z D p;go_enter Tryz.func312,Tryz.ntmps312
 go_wp2_with (at_builtin;refine Lib.wpList_append_run _ rfl _ _ _ _ rfl _ _ rfl rfl _ _ (j _) ?_)
 all_goals (go_ret;exact⟨_,_,rfl,C.out.1,C.out.2⟩)
theorem arD(p:Option Oc)(c:Nat)(l:List Bool)(x:Bool)(g g2:Nat)(w:MO)(hv:Yo w (MG p l.length c) l)(hl:l.length<=16)
  (hg:w.heap[g]?=MI (MP #[MG p l.length c,MG (MI ⟨g2,0,MH⟩) 1 1] 222 (0,0))) (hx:Yo w (MG (MI ⟨g2,0,MH⟩) 1 1) [x]) :
  Ni MK 304 #[MG (MI ⟨g,0,MH⟩) 2 2] w fun r w'=>∃p' c',r=MN (MG p' (l.length+1) c')/\w'.ownsRow w.heap.size 4 1 (MG p' (l.length+1) c') (l.length+1) (Yi (l++[x]))/\yA w w':=by
 obtain⟨a,P,N,L,M,_⟩:=hv.F6;cases N;unfold NE at M;obtain⟨c0,c1,_⟩:=Xa hg;have B:M6 (_/\_/\_):=⟨hv,hx,hg⟩;clear hv hx hg;obtain⟨k,G⟩:=yE l.length;have C:M6 _:=G;rw[<-G]at c0 L hl⊢;clear G;go_enter Tryz.func304,Tryz.ntmps304;go_wp2
 go_loopw [3,11] (fun s i wr=>w=wr/\((i=yB 0/\s=yB 0)\/(i=yB 1/\s=yB k)\/(i=yB 2/\s=yB ((k:Int)+1)))) (fun _ i _=>2-(On i).toNat)
 case atStart=>exact⟨rfl,Nt ⟨rfl,rfl⟩⟩
 case round =>
  obtain⟨rfl,⟨rfl,rfl⟩|⟨rfl,rfl⟩|⟨rfl,rfl⟩⟩:=hrel
  ·go_wp2
   go_roundw
   case rel=>exact⟨trivial,NF (Nt ⟨rfl,rfl⟩)⟩
   case measure=>simp[On]
  ·go_wp2
   go_roundw
   case rel=>exact⟨trivial,NF (NF ⟨rfl,rfl⟩)⟩
   case measure=>simp[On]
  ·have K:∀W:MO,Ni MK 312 #[MG MH 0 0,yB ((k:Int)+1)] W fun r w'=>∃g c,r=MN (MG (MI ⟨g,0,MH⟩) 0 c)/\w'.ownsRow W.heap.size 4 1 (MG (MI ⟨g,0,MH⟩) 0 c) 0 (Yi [])/\yA W w':=fun W=>by
    have:=arG (k+1) W (by omega) (by omega);rwa[Int.natCast_add]at this
   have I:M6 _:=K;clear K
   go_wp2_with fail
   refine(I.out _).mono ?_;rintro r Q ⟨O,c',rfl,j,H⟩;have J:M6 (_/\_):=⟨j,H⟩;clear j H c0 c1 I;go_wp2
   go_loopw [6,27] (fun s i wr=>∃q d,yA w wr/\((i=yB 0/\s=MG q 0 d/\wr.ownsRow w.heap.size 4 1 (MG q 0 d) 0 (Yi []))\/(i=yB 1/\s=MG q k d/\wr.ownsRow w.heap.size 4 1 (MG q k d) k (Yi l))\/(i=yB 2/\s=MG q (k+1) d/\wr.ownsRow w.heap.size 4 1 (MG q (k+1) d) (k+1) (Yi (l++[x]))))) (fun _ i _=>2-(On i).toNat)
   case atStart=>exact⟨_,_,J.out.2,Nt ⟨rfl,rfl,J.out.1⟩⟩
   case round =>
    obtain⟨q,d,e,⟨rfl,rfl,j⟩|⟨rfl,rfl,j⟩|⟨rfl,rfl,j⟩⟩:=hrel
    ·have z:=WO B.out.2.2 e
     obtain⟨c0,c1,_⟩:=Xa z;obtain⟨F,E,D,hr,y,A⟩:=ah1 j e.size (by omega) 222 _ (B.out.1.below e) (by rw[<-C.out];omega);rw[Oa,Oz,<-C.out]at y;rw[Oa]at hr;rw[<-C.out]at hr c0;have m:M6 (_/\_/\_):=⟨hr,y,e.trans A⟩;clear hr y A e j z
     go_wp2_with (at_builtin;(with_reducible refine Z4 rfl _ _ 222 rfl (MG q 0 d) (MG p k c) (MG F k E) D ?hs ?hx ?hr ?_);(case hs=>rfl);(case hx=>rfl);(case hr=>exact m.out.1))
     go_wp2
     go_roundw
     case rel=>exact⟨_,_,m.out.2.2,NF (Nt ⟨rfl,rfl,m.out.2.1⟩)⟩
     case measure=>simp[On]
    ·have z:=WO B.out.2.2 e
     obtain⟨c0,c1,_⟩:=Xa z;obtain⟨F,E,D,hr,y,A⟩:=ah1 j e.size (by omega) 222 _ (B.out.2.1.below e) (by simp);have m:M6 (_/\_/\_):=⟨hr,y,e.trans A⟩;clear hr y A e j z
     go_wp2_with (at_builtin;(with_reducible refine Z4 rfl _ _ 222 rfl (MG q k d) (MG (MI ⟨g2,0,MH⟩) 1 1) (MG F (k+1) E) D ?hs ?hx ?hr ?_);(case hs=>rfl);(case hx=>rfl);(case hr=>exact m.out.1))
     go_wp2
     go_roundw
     case rel=>exact⟨_,_,m.out.2.2,NF (NF ⟨rfl,rfl,m.out.2.1⟩)⟩
     case measure=>simp[On]
    ·have m:M6 (_/\_):=⟨j,e⟩
     clear j e;go_wp2;go_ret;exact⟨_,_,rfl,m.out.1,m.out.2⟩
def Zj(n:Int)(l:List Bool)(x:Bool):List Bool:=(if(l.length:Int)<n then l else l.drop 1)++[x]
theorem alJ(x:Bool)(h:(l.length:Int)<=n)(h1:1<=n):((Zj n l x).length:Int)=min ((l.length:Int)+1) n:=by
 unfold Zj
 split
 ·simp;omega
 ·simp;omega
def aae(l:List Bool):Nat:=l.countP id
theorem alE(l:List Bool):aae l<=l.length:=List.countP_le_length
theorem arC(l:List Bool)(x:Bool):aae (l++[x])=aae l+(if x then 1 else 0):=by
 unfold aae;rw[Qi];cases x <;> simp
theorem arE(v:M7)(l:List Bool)(w:MO)(hv:Yo w v l) :
  Ni MK 281 #[v] w fun r w'=>r=MN (yB (aae l))/\w'=w:=by
 obtain⟨a,D,rfl,y,p,j⟩:=hv.F6;unfold NE at p;clear hv;go_enter Tryz.func281,Tryz.ntmps281;go_wp2
 go_loopw [3,8] (fun s i wr=>∃(k:Nat),i=yB k/\s=yB (aae (l.take k))/\k<=l.length/\w=wr) (fun _ i _=>l.length-(On i).toNat)
 case atStart=>exact⟨0,rfl,by simp[aae],Nx _,rfl⟩
 case round =>
  obtain⟨k,rfl,rfl,C,rfl⟩:=hrel
  by_cases hlt:k<l.length
  ·obtain⟨B,A,rfl,z,c1⟩:=j k hlt
   have e:aae (l.take (k+1))=aae (l.take k)+(if l[k]then 1 else 0):=by rw[M9 hlt,arC]
   have q:aae (l.take k)<=k:=Nm (alE _) (by rw[NH];omega);obtain⟨s,m⟩:=yE (aae (l.take k));rw[<-m]at e q⊢;have x:(k:Int)<(l.length:Int):=by omega
   cases hx:l[k]
   ·rw[hx]at c1 e
    have H:M6 _:=e;clear e m hx j;go_wp2
    go_roundw
    case rel=>exact⟨k+1,by simp,by rw[H.out];simp,hlt,trivial⟩
    case measure=>simp[On];omega
   ·rw[hx]at c1 e
    have H:M6 _:=e;clear e m hx j;go_wp2
    go_roundw
    case rel=>exact⟨k+1,by simp,by rw[H.out];simp,hlt,trivial⟩
    case measure=>simp[On];omega
  ·obtain rfl:k=l.length:=by omega
   clear j;rw[NT];go_wp2;go_ret;exact⟨rfl,rfl⟩
theorem Yo.IH{a:Oc}{c:Nat}(h:Yo w (MG (MI a) l.length c) l)(h0:0<l.length):∀p,(p=MI a/\l.length=1\/p=MI ⟨a.block,a.off+1,MH⟩)->Yo w (MG p (l.drop 1).length (c-1)) (l.drop 1):=by
 obtain⟨r,q,j,z,y,s|⟨b,off,rfl,m,e⟩⟩:=h
 ·omega
 ·cases j
  rintro p (⟨rfl,x⟩|rfl)
  ·refine⟨_,_,rfl,by rw[NJ];omega,by omega,Nt ⟨by rw[NJ];omega,?_⟩⟩
   have:(l.drop 1).length=0:=by rw[NJ];omega
   rw[ZAc.1 this];rfl
  ·refine⟨_,_,rfl,by rw[NJ];omega,by omega,NF ⟨b,off+1,rfl,m,fun i hi=>?_⟩⟩
   rw[age,NJ]at hi;have:=e (i+1) (by rw[age];omega);rw[show off+1+i=off+(i+1)by omega,this];simp[Yi]
theorem arB(w:MO)(x:Bool):Yo (w.alloc (MP #[M3 x] 4)) (MG (MI ⟨w.heap.size,0,MH⟩) 1 1) [x]:=
 ⟨_,_,rfl,MV _,by unfold NE;omega,NF ⟨w.heap.size,0,rfl,by simp,fun i hi=>by
  have h:=acR w (Yi [x]) 4;obtain rfl:i=0:=by simp[Yi]at hi;exact hi
  have:=h 0 (M3 x) rfl;rw[abl]at this;exact this⟩⟩
theorem arH(n:Int)(v:M7)(l:List Bool)(x:Bool)(w:MO)(hv:Yo w v l)(hn:1<=n/\n<=16)(hl:(l.length:Int)<=n) :
  Ni MK 280 #[yB n,v,M3 x] w fun r w'=>∃p c,r=MN (MG p (Zj n l x).length c)/\w'.ownsRow w.heap.size 4 1 (MG p (Zj n l x).length c) (Zj n l x).length (Yi (Zj n l x))/\yA w w':=by
 obtain⟨p,c,rfl,J,C,_⟩:=hv.F6;unfold NE at C;have B:∀(q:Option Oc) (k d:Nat) (m:List Bool),m.length=k->m.length<=16->Yo w (MG q k d) m->Ni MK 304 #[MG (MI ⟨w.heap.size+1,0,MH⟩) 2 2] ((w.alloc (MP #[M3 x] 4)).alloc (MP #[MG q k d,MG (MI ⟨w.heap.size,0,MH⟩) 1 1] 222)) fun r w'=>∃j s A,r=MN (MG j A s)/\A=(m++[x]).length/\w'.ownsRow w.heap.size 4 1 (MG j A s) A (Yi (m++[x]))/\yA w w':=by
  rintro q k d m rfl D F;have z:yA w (w.alloc (MP #[M3 x] 4)):=WQ w;have e:MQ (w.alloc (MP #[M3 x] 4)).heap.size (w.alloc (MP #[M3 x] 4)) ((w.alloc (MP #[M3 x] 4)).alloc (MP #[MG q m.length d,MG (MI ⟨w.heap.size,0,MH⟩) 1 1] 222)):=WQ _;refine(arD q d m x (w.heap.size+1) w.heap.size _ ((F.below z).below e) D (Yu _ _ _) ((arB w x).below e)).mono ?_;rintro r w' ⟨j,s,rfl,y,i⟩;refine⟨j,s,m.length+1,rfl,by rw[Ns];rfl,y.mono (z.trans (e.mono z.size)).size,?_⟩;exact(z.trans (e.mono z.size)).trans (i.mono (z.trans (e.mono z.size)).size)
 by_cases hlt:(l.length:Int)<n
 ·have E:Zj n l x=l++[x]:=by unfold Zj;rw[Nh hlt]
  rw[E];have I:¬((0:Int)<(l.length:Int)+1-n):=by omega
  have K:M6 _:=B p l.length c l rfl (by omega) hv;clear B E hv;go_enter aAW,aAM
  go_wp2_with fail
  refine Nd K.out ?_;rintro r w' ⟨j,s,A,rfl,e,y,i⟩;have H:M6 (_/\_/\_):=⟨e,y,i⟩;clear e y i;go_wp2;go_ret;exact⟨j,s,by rw[<-H.out.1];rfl,by rw[<-H.out.1];exact H.out.2.1,H.out.2.2⟩
 ·have E:Zj n l x=l.drop 1++[x]:=by unfold Zj;rw[Nf hlt]
  rw[E];obtain rfl:n=l.length:=by omega
  obtain⟨a,L,G,_,_,h|⟨b,off,rfl,_⟩⟩:=id hv
  ·omega
  ·cases G
   by_cases hc1:c=1
   ·subst hc1
    have K:M6 _:=B (MI ⟨b,off,MH⟩) 0 0 (l.drop 1) (by simp;omega) (by simp;omega) (by have:=hv.IH (by omega) _ (Nt ⟨rfl,by omega⟩);rwa[NJ,show l.length-1=0 by omega]at this);clear B E hv;go_enter aAW,aAM
    go_wp2_with fail
    refine Nd K.out ?_;rintro r w' ⟨j,s,A,rfl,e,y,i⟩;have H:M6 (_/\_/\_):=⟨e,y,i⟩;clear e y i;go_wp2;go_ret;exact⟨j,s,by rw[<-H.out.1];rfl,by rw[<-H.out.1];exact H.out.2.1,H.out.2.2⟩
   ·have K:M6 _:=B (MI ⟨b,off+1,MH⟩) (l.length-1) (c-1) (l.drop 1) (by simp) (by simp;omega) (by have:=hv.IH (by omega) _ (NF rfl);rwa[NJ]at this)
    clear B E hv;go_enter aAW,aAM
    go_wp2_with fail
    refine Nd K.out ?_;rintro r w' ⟨j,s,A,rfl,e,y,i⟩;have H:M6 (_/\_/\_):=⟨e,y,i⟩;clear e y i;go_wp2;go_ret;exact⟨j,s,by rw[<-H.out.1];rfl,by rw[<-H.out.1];exact H.out.2.1,H.out.2.2⟩
section
open Go.Sort (grow grow_empty grow_grow alloc_eq_grow cell?_grow heap_grow_old)
theorem acn(w:MO)(q:Nat)(os:Array Obj):yA w (Oj (w.drewN q) os):=
 ⟨rfl,rfl,rfl,by simp[Oj,World.drewN],fun k hk=>heap_grow_old (w.drewN q) os hk⟩
def aaL(d t:Int):Int:=min (d*2 ^ t.toNat) 500
theorem arJ(n f d t now:Int)(w:MO)(hd:1<=d/\d<=500)(ht:0<=t/\t<=10)(hnow:0<=now/\now<=1099511627776) :
  Ni MK 282 #[acS n f d,yB t,yB now] w fun r w'=>r=MN (Y5 (MG MH 0 0) Nw (now+aaL d t) (min (t+1) 10))/\yA w w':=by
 obtain⟨k,rfl⟩:=NL ht.1;obtain⟨G,F⟩:=hnow;have D:k<=10:=by omega
 clear ht;have x:(1:Int)<=2 ^ k/\(2:Int) ^ k<=1024:=by
  have C:(1:Nat)<=2 ^ k:=Nat.one_le_two_pow;have B:2 ^ k<=2 ^ 10:=Nat.pow_le_pow_right (by decide) D;have J:((2 ^ k:Nat):Int)=(2:Int) ^ k:=by simp
  omega
 obtain⟨m,p⟩:=yE (d*2 ^ k);have L:1<=m:=by rw[p];have:=Px hd.1 x.1 (by omega) (by omega);omega
 have K:m<=512000:=by rw[p];have:=Px hd.2 x.2 (by omega) (by omega);omega
 have I:wrap64 (d*2 ^ k)=m:=by rw[<-p];unfold wrap64;omega
 have E:M6 (aaL d (k:Int)=min m 500):=(by unfold aaL;rw[NR,<-p]:aaL d (k:Int)=min m 500);clear p x hd;obtain⟨s,q⟩:=yE (w.alloc (MP #[yB n,yB f,yB d] 34));have y:yA w s:=by rw[q];exact WQ _
 have A:s.heap.size=w.heap.size+1:=by rw[q];simp
 have H:M6 (_/\_/\_):=⟨q,y,A⟩;have z:∀u t:Int,(((w.alloc (MP #[yB n,yB f,yB d] 34)).alloc (MP #[MG MH 0 0,M3 Nw,yB u,yB t] 224)).heap[w.heap.size+1]?=MI (MP [MG MH 0 0,M3 Nw,yB u,yB t].toArray 224 (0,0)))/\yA w ((w.alloc (MP #[yB n,yB f,yB d] 34)).alloc (MP #[MG MH 0 0,M3 Nw,yB u,yB t] 224)):=fun u t=>⟨Yu _ _ _,((MY _ _).alloc (MV _) _).alloc (by simp) _⟩
 have e:M6 _:=z;clear z q y A
 by_cases C:m<=500
 ·have j:M6 (min m 500=m):=(by omega:min m 500=m)
  by_cases B:(k:Int)+1<=10
  ·have i:M6 (min ((k:Int)+1) 10=k+1):=(by omega:min ((k:Int)+1) 10=k+1)
   go_enter aAA,aAu;go_wp2;exact Np (v:=Y5 (MG MH 0 0) Nw (now+m) (k+1)) (Z2 aAl rfl (Xp (P:=MK) (cs:=[MG MH 0 0,M3 Nw,yB (now+m),yB (k+1)]) (e.out _ _).1 axR rfl (by kernel_rfl))) rfl ⟨by rw[E.out,j.out,i.out],(e.out _ _).2⟩
  ·have i:M6 (min ((k:Int)+1) 10=10):=(by omega:min ((k:Int)+1) 10=10)
   go_enter aAA,aAu;go_wp2
   all_goals exact Np (v:=Y5 (MG MH 0 0) Nw (now+m) 10) (Z2 aAl rfl (Xp (P:=MK) (cs:=[MG MH 0 0,M3 Nw,yB (now+m),yB 10]) (e.out _ _).1 axR rfl (by kernel_rfl))) rfl ⟨by rw[E.out,j.out,i.out],(e.out _ _).2⟩
 ·have j:M6 (min m 500=500):=(by omega:min m 500=500)
  by_cases B:(k:Int)+1<=10
  ·have i:M6 (min ((k:Int)+1) 10=k+1):=(by omega:min ((k:Int)+1) 10=k+1)
   go_enter aAA,aAu;go_wp2;exact Np (v:=Y5 (MG MH 0 0) Nw (now+500) (k+1)) (Z2 aAl rfl (Xp (P:=MK) (cs:=[MG MH 0 0,M3 Nw,yB (now+500),yB (k+1)]) (e.out _ _).1 axR rfl (by kernel_rfl))) rfl ⟨by rw[E.out,j.out,i.out],(e.out _ _).2⟩
  ·have i:M6 (min ((k:Int)+1) 10=10):=(by omega:min ((k:Int)+1) 10=10)
   go_enter aAA,aAu;go_wp2;exact Np (v:=Y5 (MG MH 0 0) Nw (now+500) 10) (Z2 aAl rfl (Xp (P:=MK) (cs:=[MG MH 0 0,M3 Nw,yB (now+500),yB 10]) (e.out _ _).1 axR rfl (by kernel_rfl))) rfl ⟨by rw[E.out,j.out,i.out],(e.out _ _).2⟩
def Hy(w W:MO)(n f d:Int)(v:M7)(o:Bool)(u t:Int)(v':M7)(o':Bool)(u' t':Int):Prop :=
 Hx w W n f d v o u t/\W.heap[w.heap.size+1+1]?=MI (MP #[v',M3 o',yB u',yB t'] 224 (0,0))
section
variable {w W:MO}{n f d:Int}{v:M7}{o:Bool}{u t:Int}{v':M7}{o':Bool}{u' t':Int}
theorem alH(w:MO)(n f d:Int)(v:M7)(o:Bool)(u t:Int)(v':M7)(o':Bool)(u' t':Int):Hy w (((w.alloc (MP #[yB n,yB f,yB d] 34)).alloc (MP #[v,M3 o,yB u,yB t] 224)).alloc (MP #[v',M3 o',yB u',yB t'] 224)) n f d v o u t v' o' u' t' :=
 ⟨(ah4 w n f d v o u t).below (WQ _),aeC _ _ _ _⟩
theorem Hy.below{W':MO}(h:Hy w W n f d v o u t v' o' u' t')(hb:yA W W'):Hy w W' n f d v o u t v' o' u' t' :=
 ⟨h.1.below hb,WO h.2 hb⟩
theorem arF{d a' b' c' d':M7}(h:w.heap[g]?=MI (MP #[a,b,c,d] T (0,0))):((((w.setCell ⟨g,0,MH⟩ a').setCell ⟨g,1,MH⟩ b').setCell ⟨g,2,MH⟩ c').setCell ⟨g,3,MH⟩ d').heap[g]?=MI (MP #[a',b',c',d'] T (0,0)):=
 NI _ _ 3 _ _ d' (NI _ _ 2 _ _ c' (NI _ _ 1 _ _ b' (NI w g 0 _ _ a' h)))
abbrev agf(W:MO)(g:Nat)(a b c d:M7):World:=(((W.setCell ⟨g,0,MH⟩ a).setCell ⟨g,1,MH⟩ b).setCell ⟨g,2,MH⟩ c).setCell ⟨g,3,MH⟩ d
theorem alL{d:M7}(h:k≠g):(agf W g a b c d).heap[k]?=W.heap[k]?:=by
 unfold agf;rw[MU _ _ _ _ h,MU _ _ _ _ h,MU _ _ _ _ h,MU _ _ _ _ h]
theorem Hy.F4(h:Hy w W n f d v o u t v' o' u' t')(a:M7)(b:Bool)(c e:Int):Hy w (agf W (w.heap.size+1+1) a (M3 b) (yB c) (yB e)) n f d v o u t a b c e :=
 ⟨⟨(alL (by omega)).trans h.1.1,(alL (by omega)).trans h.1.2.1,(((h.1.2.2.setCell (by simp;omega) _).setCell (by simp;omega) _).setCell (by simp;omega) _).setCell (by simp;omega) _⟩,arF h.2⟩
theorem Hy.Gi(h:Hy w W n f d v o u t v' o' u' t')(a:M7):Hy w (W.setCell ⟨w.heap.size+1,0,MH⟩ a) n f d a o u t v' o' u' t' :=
 ⟨⟨(MU _ _ _ _ (by simp)).trans h.1.1,NI W _ 0 _ _ a h.1.2.1,h.1.2.2.setCell (by simp) _⟩,(MU _ _ _ _ (by simp)).trans h.2⟩
theorem Hy.res(h:Hy w W n f d v o u t v' o' u' t'){fn:Func}{i y z:Tmp}(hr:fn.results=#[.cell i 224,.tmp y,.tmp z]){tmps:Array M7}{e1 e2:M7}(hx:tmps.getD i PL=Na (MI ⟨w.heap.size+1+1,0,MH⟩))(hy:tmps.getD y PL=e1)(hz:tmps.getD z PL=e2) :
  (Pf fn tmps).run MK W=.ok (Nv #[Y5 v' o' u' t',e1,e2]) W :=
 ae0 hr hx hy hz (Xp (P:=MK) (cs:=[v',M3 o',yB u',yB t']) h.2 axR rfl (by kernel_rfl))
theorem Hy.bel(h:Hy w W n f d v o u t v' o' u' t'):yA w W:=h.1.2.2
theorem Hy.Gg(h:Hy w W n f d v o u t v' o' u' t'):W.cell? ⟨w.heap.size,0,MH⟩=MI (yB n)/\W.cell? ⟨w.heap.size,1,MH⟩=MI (yB f)/\W.cell? ⟨w.heap.size,2,MH⟩=MI (yB d)/\W.cell? ⟨w.heap.size+1,0,MH⟩=MI v/\W.cell? ⟨w.heap.size+1,1,MH⟩=MI (M3 o)/\W.cell? ⟨w.heap.size+1,2,MH⟩=MI (yB u)/\W.cell? ⟨w.heap.size+1,3,MH⟩=MI (yB t)/\W.frozen? ⟨w.heap.size+1,0,MH⟩=Nb/\W.frozen? ⟨w.heap.size+1,1,MH⟩=Nb/\W.frozen? ⟨w.heap.size+1,2,MH⟩=Nb/\W.cell? ⟨w.heap.size+1+1,0,MH⟩=MI v'/\W.cell? ⟨w.heap.size+1+1,1,MH⟩=MI (M3 o')/\W.cell? ⟨w.heap.size+1+1,2,MH⟩=MI (yB u')/\W.cell? ⟨w.heap.size+1+1,3,MH⟩=MI (yB t')/\W.frozen? ⟨w.heap.size+1+1,0,MH⟩=Nb/\W.frozen? ⟨w.heap.size+1+1,1,MH⟩=Nb/\W.frozen? ⟨w.heap.size+1+1,2,MH⟩=Nb/\W.frozen? ⟨w.heap.size+1+1,3,MH⟩=false:=by
 obtain⟨c0,c1,c2,c3,c4,c5,c6⟩:=h.1.Gg;obtain⟨z,p,e,A⟩:=alG h.1.2.1;obtain⟨m,r,j,i,_⟩:=alF h.2;obtain⟨y,q,s,x⟩:=alG h.2;exact⟨c0,c1,c2,c3,c4,c5,c6,z,p,e,m,r,j,i,y,q,s,x⟩
end
abbrev aeX:=(List Bool×Bool×Int×Int)×Bool×Int
def Zt(n f d:Int)(l:List Bool)(o:Bool)(u t:Int)(x:Bool)(now:Int)(may:Bool):aeX :=
 if YR n f d l.length o u t now=0 then
  (if o=Nb/\may=Nw/\f<=(aae (Zj n l x):Int)then(([],Nw,now+aaL d t,min (t+1) 10),Nw,0)else((Zj n l x,o,u,t),Nb,0))
 else(([],Nb,0,0),Nb,YR n f d l.length o u t now)
def Ze(n f d:Int)(l:List Bool)(o:Bool)(u t:Int)(now:Int):aeX :=
 if YR n f d l.length o u t now=0 then
  (if o=Nw/\u<=now then((l,Nb,0,t),Nw,0)else((l,o,u,t),Nb,0))
 else(([],Nb,0,0),Nb,YR n f d l.length o u t now)
def agd(w:MO)(O:aeX)(r:Ending)(w':MO):Prop :=
 ∃p c,r=MN (Nv #[Y5 (MG p O.1.1.length c) O.1.2.1 O.1.2.2.1 O.1.2.2.2,M3 O.2.1,yB O.2.2])/\Yo w' (MG p O.1.1.length c) O.1.1/\(∀b,QQ (MG p O.1.1.length c)=MI b->w.heap.size<=b)/\yA w w'
theorem aeZ{b:Bool}{e:Int}{O:aeX}(h:O=(([],o,u,t),b,e))(hb:yA w w'):agd w O (MN (Nv #[Y5 (MG MH 0 0) o u t,M3 b,yB e])) w':=by
 subst h;exact⟨MH,0,rfl,ah2 _,(by intro b h;cases h),hb⟩
theorem ad7{w2:MO}{p:Option Oc}{c:Nat}{b:Bool}{e:Int}{O:aeX}(h:O=((l,o,u,t),b,e))(hk:k=l.length)(hl:Yo w' (MG p k c) l)(hb:yA w w')(ho:w2.ownsRow base 4 1 (MG p k c) k xs)(hbase:w.heap.size<=base):agd w O (MN (Nv #[Y5 (MG p k c) o u t,M3 b,yB e])) w':=by
 subst h hk;exact⟨p,c,rfl,hl,fun b hb=>Nm hbase (ho.lt b hb).1,hb⟩
theorem abm{e:NU}{n:Nat}(h:w.ownsRow base e k v n xs){a:Oc}{y:M7}(ha:a.block<base):(w.setCell a y).ownsRow base e k v n xs :=
 W8 h fun g hg=>MU _ _ _ _ (by have:=(h.lt g hg).1;omega)
theorem ad8{e:NU}{n:Nat}(h:w.ownsRow base e k v n xs){y0 y1 y2 y3:M7}(ha:g<base):(agf w g y0 y1 y2 y3).ownsRow base e k v n xs :=
 abm (abm (abm (abm h ha) ha) ha) ha
theorem arI(n f d:Int)(v:M7)(l:List Bool)(o:Bool)(u t:Int)(x:Bool)(now:Int)(may:Bool)(w:MO)(hv:Yo w v l)(hl:l.length<=140737488355328) :
  Ni MK 233 #[acS n f d,Y5 v o u t,M3 x,yB now,M3 may] w (agd w (Zt n f d l o u t x now may)):=by
 obtain⟨p,c,rfl⟩:=hv.Ga;obtain⟨W0,a2⟩:=yE (((w.alloc (MP #[yB n,yB f,yB d] 34)).alloc (MP #[MG p l.length c,M3 o,yB u,yB t] 224)).alloc (MP #[MG MH 0 0,M3 Nb,yB 0,yB 0] 224));have a5:Hy w W0 n f d (MG p l.length c) o u t (MG MH 0 0) Nb 0 0:=by rw[a2];exact alH _ _ _ _ _ _ _ _ _ _ _ _
 obtain⟨c0,c1,c2,c3,c4,c5,c6,_⟩:=a5.Gg;have H:M6 (_/\Hy _ _ _ _ _ _ _ _ _ _ _ _ _/\Yo _ _ _):=⟨a2,a5,hv⟩;clear a2 a5 hv;go_enter Tryz.func233,Tryz.ntmps233
 go_wp2_with fail
 rw[<-H.out.1];refine(alC n f d p l.length c o u t now _).mono ?_;rintro r U ⟨rfl,a4⟩;have O:M6 (Hy _ _ _ _ _ _ _ _ _ _ _ _ _/\Yo _ _ _):=⟨H.out.2.1.below a4,H.out.2.2.below (H.out.2.1.bel.trans (a4.mono H.out.2.1.bel.size))⟩;clear c0 c1 c2 c3 c4 c5 c6 a4 H;obtain⟨c0,c1,c2,c3,c4,c5,c6,L,G,C,F,J,A,z,D,I,K,B⟩:=O.out.1.Gg;rcases alA n f d l.length o u t now with⟨M,_⟩|⟨M,_⟩|⟨M,V,a7,hh⟩
 ·have E:M6 (Zt n f d l o u t x now may=(([],Nb,0,0),Nb,2)):=(by unfold Zt;rw[M,Nf (by decide)]:Zt n f d l o u t x now may=(([],false,0,0),false,2))
  rw[M];clear M;go_wp2;exact Np (v:=Nv #[Y5 (MG MH 0 0) Nb 0 0,M3 Nb,yB 2]) ((O.out.1.F4 _ _ _ _).res az7 rfl rfl rfl) rfl (aeZ E.out (O.out.1.F4 _ _ _ _).bel)
 ·have E:M6 (Zt n f d l o u t x now may=(([],Nb,0,0),Nb,6)):=(by unfold Zt;rw[M,Nf (by decide)]:Zt n f d l o u t x now may=(([],false,0,0),false,6))
  rw[M];clear M;go_wp2;exact Np (v:=Nv #[Y5 (MG MH 0 0) Nb 0 0,M3 Nb,yB 6]) ((O.out.1.F4 _ _ _ _).res az7 rfl rfl rfl) rfl (aeZ E.out (O.out.1.F4 _ _ _ _).bel)
 ·have E:M6 (Zt n f d l o u t x now may=if o=Nb/\may=Nw/\f<=(aae (Zj n l x):Int)then(([],Nw,now+aaL d t,min (t+1) 10),Nw,0)else((Zj n l x,o,u,t),Nb,0)):=Nh M
  rw[M];clear M;have HL:M6 _:=arH n (MG p l.length c) l x U O.out.2 V.1 hh.1
  go_wp2_with fail
  refine Nd HL.out ?_;rintro r j ⟨Z,c',rfl,ho,a8⟩;obtain⟨k,hk⟩:=yE ((Zj n l x).length);rw[<-hk]at ho⊢;have e:M6 (Hy _ _ _ _ _ _ _ _ _ _ _ _ _/\_/\_/\w.heap.size+1+1<U.heap.size):=⟨O.out.1.below a8,ho,hk,(ZAa.1 O.out.1.2).1⟩;clear ho a8 hk O HL c0 c1 c2 c3 c4 c5 c6 L G C F J A z D I K B;obtain⟨c0,c1,c2,c3,c4,c5,c6,L,G,C,F,J,A,z,D,I,K,B⟩:=e.out.1.Gg;have S:M6 (∀(q:Nat) (os:Array Obj),Ni MK 281 #[MG Z k c'] (Oj (j.drewN q) os) fun r w'=>r=MN (yB (aae (Zj n l x)))/\∃q' os',w'=Oj ((Oj (j.drewN q) os).drewN q') os'):=fun(q:Nat) (os:Array Obj)=>by
   refine(arE _ (Zj n l x) _ ((acQ (by rw[<-e.out.2.2.1];exact e.out.2.1)).below (acn _ _ _))).mono ?_;rintro r w' ⟨rfl,rfl⟩;exact⟨rfl,0,#[],(grow_empty _).symm⟩
  have b0:(aae (Zj n l x):Int)<=16:=by
   have h1:=alE (Zj n l x);have h2:=alJ x hh.1 V.1.1;omega
  have hf:f<=16:=by omega
  generalize aae (Zj n l x)=m at *;have Y:∀n' os,(Oj (j.drewN n') os).cell? ⟨w.heap.size,1,MH⟩=MI (yB f):=Ob (MX _ _ c1) c1;have k4:∀n' os,(Oj (j.drewN n') os).cell? ⟨w.heap.size+1,1,MH⟩=MI (M3 o):=Ob (MX _ _ c4) c4;have a6:∀(W':MO),yA j W'->o=Nw\/may=Nb\/¬(f<=(m:Int))->Zt n f d l o u t x now may=((Zj n l x,o,u,t),Nb,0):=fun _ _ h=>by
   rw[E.out,Nf];rintro⟨h1,h2,h3⟩;rcases h with h|h|h
   ·rw[h1]at h;cases h
   ·rw[h2]at h;cases h
   ·exact h h3
  have ST:M6 _:=a6;clear a6;cases o
  case true =>
   have N:=ST.out j (MY _ _) (Nt rfl);have R:M6 _:=N;clear N
   go_wp2_with fail
   refine NQ XY (by kernel_rfl) ?_
   repeat (first|go_big_quiet_skip|quiet_step (first|(go_at_call 281;exact Calls.grown_of (S.out _ _))))
   refine Oy ?_;intro _ Q;obtain⟨⟨y,s⟩,P⟩:=Q;subst P;have i:M6 (Hy _ _ _ _ _ _ _ _ _ _ _ _ _/\_):=⟨e.out.1.below (acn j y s),YI e.out.2.1 (acn j y s)⟩;clear c0 c1 c2 c3 c4 c5 c6 L G C F J A z D I K B Y k4;generalize Oj (j.drewN y) s=w3 at i⊢;obtain⟨c0,c1,c2,c3,c4,c5,c6,L,G,C,F,J,A,z,D,I,K,B⟩:=i.out.1.Gg;go_wp2;exact Np (v:=Nv #[Y5 (MG Z k c') Nw u t,M3 Nb,yB 0]) (((i.out.1.Gi _).F4 _ _ _ _).res az7 rfl rfl rfl) rfl (ad7 R.out e.out.2.2.1 (acQ (base:=U.heap.size) (by rw[<-e.out.2.2.1];exact ad8 (abm i.out.2 (by have:=e.out.2.2.2;simp;omega)) e.out.2.2.2)) ((i.out.1.Gi _).F4 _ _ _ _).bel e.out.2.1 (by have:=e.out.2.2.2;omega))
  case false =>
   cases may
   case false =>
    have N:=ST.out j (MY _ _) (NF (Nt rfl));have R:M6 _:=N;clear N
    go_wp2_with fail
    refine NQ XY (by kernel_rfl) ?_
    repeat (first|go_big_quiet_skip|quiet_step (first|(go_at_call 281;exact Calls.grown_of (S.out _ _))))
    refine Oy ?_;intro _ Q;obtain⟨⟨y,s⟩,P⟩:=Q;subst P;have i:M6 (Hy _ _ _ _ _ _ _ _ _ _ _ _ _/\_):=⟨e.out.1.below (acn j y s),YI e.out.2.1 (acn j y s)⟩;clear c0 c1 c2 c3 c4 c5 c6 L G C F J A z D I K B Y k4;generalize Oj (j.drewN y) s=w3 at i⊢;obtain⟨c0,c1,c2,c3,c4,c5,c6,L,G,C,F,J,A,z,D,I,K,B⟩:=i.out.1.Gg;go_wp2;exact Np (v:=Nv #[Y5 (MG Z k c') Nb u t,M3 Nb,yB 0]) (((i.out.1.Gi _).F4 _ _ _ _).res az7 rfl rfl rfl) rfl (ad7 R.out e.out.2.2.1 (acQ (base:=U.heap.size) (by rw[<-e.out.2.2.1];exact ad8 (abm i.out.2 (by have:=e.out.2.2.2;simp;omega)) e.out.2.2.2)) ((i.out.1.Gi _).F4 _ _ _ _).bel e.out.2.1 (by have:=e.out.2.2.2;omega))
   case true =>
    cases hm:Nn (f<=(m:Int))
    case false =>
     have N:=ST.out j (MY _ _) (NF (NF (Nc hm)));have R:M6 _:=N;clear N
     go_wp2_with fail
     refine NQ XY (by kernel_rfl) ?_
     repeat (first|go_big_quiet_skip|quiet_step (first|(go_at_call 281;exact NZ (S.out _ _))))
     refine Oy ?_;intro _ Q;obtain⟨⟨y,s⟩,P⟩:=Q;subst P;have i:M6 (Hy _ _ _ _ _ _ _ _ _ _ _ _ _/\_):=⟨e.out.1.below (acn j y s),YI e.out.2.1 (acn j y s)⟩;clear c0 c1 c2 c3 c4 c5 c6 L G C F J A z D I K B Y k4;generalize Oj (j.drewN y) s=w3 at i⊢;obtain⟨c0,c1,c2,c3,c4,c5,c6,L,G,C,F,J,A,z,D,I,K,B⟩:=i.out.1.Gg;go_wp2;exact Np (v:=Nv #[Y5 (MG Z k c') Nb u t,M3 Nb,yB 0]) (((i.out.1.Gi _).F4 _ _ _ _).res az7 rfl rfl rfl) rfl (ad7 R.out e.out.2.2.1 (acQ (base:=U.heap.size) (by rw[<-e.out.2.2.1];exact ad8 (abm i.out.2 (by have:=e.out.2.2.2;simp;omega)) e.out.2.2.2)) ((i.out.1.Gi _).F4 _ _ _ _).bel e.out.2.1 (by have:=e.out.2.2.2;omega))
    case true =>
     have N:Zt n f d l Nb u t x now Nw=(([],Nw,now+aaL d t,min (t+1) 10),Nw,0):=by rw[E.out,Nh ⟨rfl,rfl,M2 hm⟩]
     have R:M6 _:=N;have HT:M6 (∀W,_):=fun W=>arJ n f d t now W V.2.2 hh.2.1 a7
     clear N
     go_wp2_with fail
     refine NQ XY (by kernel_rfl) ?_
     repeat (first|go_big_quiet_skip|quiet_step (first|(go_at_call 281;exact NZ (S.out _ _))))
     refine Oy ?_;intro _ Q;obtain⟨⟨y,s⟩,P⟩:=Q;subst P;have i:M6 (Hy _ _ _ _ _ _ _ _ _ _ _ _ _/\_):=⟨e.out.1.below (acn j y s),YI e.out.2.1 (acn j y s)⟩;clear c0 c1 c2 c3 c4 c5 c6 L G C F J A z D I K B Y k4;generalize Oj (j.drewN y) s=w3 at i⊢;obtain⟨c0,c1,c2,c3,c4,c5,c6,L,G,C,F,J,A,z,D,I,K,B⟩:=i.out.1.Gg;clear S hm b0 hf V hh a7 ST
     go_wp2_with fail
     refine(HT.out _).mono ?_;rintro r w4 ⟨rfl,a9⟩;have a3:M6 (Hy _ _ _ _ _ _ _ _ _ _ _ _ _):=i.out.1.below a9;clear c0 c1 c2 c3 c4 c5 c6 L G C F J A z D I K B a9;obtain⟨c0,c1,c2,c3,c4,c5,c6,L,G,C,F,J,A,z,D,I,K,B⟩:=a3.out.Gg;generalize now+aaL d t=hu at *;generalize min (t+1) 10=ht at *;go_wp2;exact Np (v:=Nv #[Y5 (MG MH 0 0) Nw hu ht,M3 Nw,yB 0]) ((a3.out.F4 _ _ _ _).res az7 rfl rfl rfl) rfl (aeZ R.out (a3.out.F4 _ _ _ _).bel)
end
section
variable {w W:MO}{n f d:Int}{v:M7}{o:Bool}{u t:Int}{v':M7}{o':Bool}{u' t':Int}
theorem Hy.IM(h:Hy w W n f d v o u t v' o' u' t')(b:Bool)(c:Int):Hy w ((W.setCell ⟨w.heap.size+1,1,MH⟩ (M3 b)).setCell ⟨w.heap.size+1,2,MH⟩ (yB c)) n f d v b c t v' o' u' t' :=
 ⟨⟨(MU _ _ _ _ (by simp)).trans ((MU _ _ _ _ (by simp)).trans h.1.1),NI _ _ 2 _ _ _ (NI W _ 1 _ _ _ h.1.2.1),(h.1.2.2.setCell (by simp) _).setCell (by simp) _⟩,(MU _ _ _ _ (by simp)).trans ((MU _ _ _ _ (by simp)).trans h.2)⟩
end
theorem alB(n f d:Int)(v:M7)(l:List Bool)(o:Bool)(u t:Int)(now:Int)(w:MO)(hv:Yo w v l) :
  Ni MK 146 #[acS n f d,Y5 v o u t,yB now] w (agd w (Ze n f d l o u t now)):=by
 obtain⟨p,c,rfl⟩:=hv.Ga;obtain⟨B,s⟩:=yE (((w.alloc (MP #[yB n,yB f,yB d] 34)).alloc (MP #[MG p l.length c,M3 o,yB u,yB t] 224)).alloc (MP #[MG MH 0 0,M3 Nb,yB 0,yB 0] 224));have y:Hy w B n f d (MG p l.length c) o u t (MG MH 0 0) Nb 0 0:=by rw[s];exact alH _ _ _ _ _ _ _ _ _ _ _ _
 obtain⟨c0,c1,c2,c3,c4,c5,c6,_⟩:=y.Gg;have H:M6 (_/\Hy _ _ _ _ _ _ _ _ _ _ _ _ _/\Yo _ _ _):=⟨s,y,hv⟩;clear s y hv;go_enter SL,Sn
 go_wp2_with fail
 rw[<-H.out.1];refine(alC n f d p l.length c o u t now _).mono ?_;rintro r q ⟨rfl,x⟩;have j:M6 (Hy _ _ _ _ _ _ _ _ _ _ _ _ _/\Yo _ _ _):=⟨H.out.2.1.below x,H.out.2.2.below (H.out.2.1.bel.trans (x.mono H.out.2.1.bel.size))⟩;clear c0 c1 c2 c3 c4 c5 c6 x H;obtain⟨c0,c1,c2,c3,c4,c5,c6,R,N,J,M,P,F,D,L,O,Q,I⟩:=j.out.1.Gg;rcases alA n f d l.length o u t now with⟨i,_⟩|⟨i,_⟩|⟨i,S,Y,V⟩
 ·have E:M6 (Ze n f d l o u t now=(([],Nb,0,0),Nb,2)):=(by unfold Ze;rw[i,Nf (by decide)]:Ze n f d l o u t now=(([],false,0,0),false,2))
  rw[i];clear i;go_wp2;exact Np (v:=Nv #[Y5 (MG MH 0 0) Nb 0 0,M3 Nb,yB 2]) ((j.out.1.F4 _ _ _ _).res Up rfl rfl rfl) rfl (aeZ E.out (j.out.1.F4 _ _ _ _).bel)
 ·have E:M6 (Ze n f d l o u t now=(([],Nb,0,0),Nb,6)):=(by unfold Ze;rw[i,Nf (by decide)]:Ze n f d l o u t now=(([],false,0,0),false,6))
  rw[i];clear i;go_wp2;exact Np (v:=Nv #[Y5 (MG MH 0 0) Nb 0 0,M3 Nb,yB 6]) ((j.out.1.F4 _ _ _ _).res Up rfl rfl rfl) rfl (aeZ E.out (j.out.1.F4 _ _ _ _).bel)
 ·have E:M6 (Ze n f d l o u t now=if o=Nw/\u<=now then((l,Nb,0,t),Nw,0)else((l,o,u,t),Nb,0)):=Nh i
  rw[i];clear i;have K:M6 _:=alD (MG p l.length c) l q j.out.2 (by have:=V.1;omega)
  go_wp2_with fail
  refine Nd K.out ?_;rintro r Z ⟨z,A,rfl,G,C⟩;obtain⟨k,U⟩:=yE l.length;have e:M6 (Hy _ _ _ _ _ _ _ _ _ _ _ _ _/\_/\w.heap.size+1+1<q.heap.size):=⟨j.out.1.below C,G,(ZAa.1 j.out.1.2).1⟩;clear G C U j K c0 c1 c2 c3 c4 c5 c6 R N J M P F D L O Q I S;obtain⟨c0,c1,c2,c3,c4,c5,c6,R,N,J,M,P,F,D,L,O,Q,I⟩:=e.out.1.Gg;cases o
  case false =>
   have m:M6 (Ze n f d l Nb u t now=((l,Nb,u,t),Nb,0)):=(by rw[E.out,Nf (fun h=>by cases h.1)]:Ze n f d l false u t now=((l,false,u,t),false,0));go_wp2;exact Np (v:=Nv #[Y5 (MG z l.length A) Nb u t,M3 Nb,yB 0]) (((e.out.1.Gi _).F4 _ _ _ _).res Up rfl rfl rfl) rfl (ad7 m.out rfl (acQ (base:=q.heap.size) (ad8 (abm e.out.2.1 (by have:=e.out.2.2;simp;omega)) e.out.2.2)) ((e.out.1.Gi _).F4 _ _ _ _).bel e.out.2.1 (by have:=e.out.2.2;omega))
  case true =>
   by_cases hu:now<u
   ·have m:M6 (Ze n f d l Nw u t now=((l,Nw,u,t),Nb,0)):=(by rw[E.out,Nf (fun h=>by omega)]:Ze n f d l true u t now=((l,true,u,t),false,0))
    go_wp2;exact Np (v:=Nv #[Y5 (MG z l.length A) Nw u t,M3 Nb,yB 0]) (((e.out.1.Gi _).F4 _ _ _ _).res Up rfl rfl rfl) rfl (ad7 m.out rfl (acQ (base:=q.heap.size) (ad8 (abm e.out.2.1 (by have:=e.out.2.2;simp;omega)) e.out.2.2)) ((e.out.1.Gi _).F4 _ _ _ _).bel e.out.2.1 (by have:=e.out.2.2;omega))
   ·have m:M6 (Ze n f d l Nw u t now=((l,Nb,0,t),Nw,0)):=(by rw[E.out,Nh ⟨rfl,by omega⟩]:Ze n f d l true u t now=((l,false,0,t),true,0))
    go_wp2;exact Np (v:=Nv #[Y5 (MG z l.length A) Nb 0 t,M3 Nw,yB 0]) ((((e.out.1.Gi _).IM _ _).F4 _ _ _ _).res Up rfl rfl rfl) rfl (ad7 m.out rfl (acQ (base:=q.heap.size) (ad8 (abm (abm (abm e.out.2.1 (by have:=e.out.2.2;simp;omega)) (by have:=e.out.2.2;simp;omega)) (by have:=e.out.2.2;simp;omega)) e.out.2.2)) (((e.out.1.Gi _).IM _ _).F4 _ _ _ _).bel e.out.2.1 (by have:=e.out.2.2;omega))
def acP(out act per:Int):Bool×Int :=
 if(0<=act/\act<=12)/\(0<=out/\out<=act)/\(0<=per/\per<=100)then(Nn ((out+1)*100<=per*act),0)else(Nb,2)
theorem arw(out act per:Int)(w:MO):Ni MK 283 #[yB out,yB act,yB per] w fun r w'=>r=MN (Nv #[M3 (acP out act per).1,yB (acP out act per).2])/\w'=w:=by
 cases h1:Nn (0<=act/\act<=12)
 ·have E:M6 (acP out act per=(Nb,2)):=Nf fun h=>Nc h1 h.1
  go_enter aAB,aAv
  go_wp2_with fail
  refine(YB _ _ _ _).mono ?_;rintro e w' ⟨rfl,rfl⟩;rw[h1];go_wp2
  go_ret2
  exact⟨by rw[E.out];rfl,rfl⟩
 cases h2:Nn (0<=out/\out<=act)
 ·have E:M6 (acP out act per=(Nb,2)):=Nf fun h=>Nc h2 h.2.1
  go_enter aAB,aAv
  go_wp2_with fail
  refine(YB _ _ _ _).mono ?_;rintro e w' ⟨rfl,rfl⟩;rw[h1]
  go_wp2_with fail
  refine(YB _ _ _ _).mono ?_;rintro e w' ⟨rfl,rfl⟩;rw[h2];go_wp2
  go_ret2
  exact⟨by rw[E.out];rfl,rfl⟩
 cases h3:Nn (0<=per/\per<=100)
 ·have E:M6 (acP out act per=(Nb,2)):=Nf fun h=>Nc h3 h.2.2
  go_enter aAB,aAv
  go_wp2_with fail
  refine(YB _ _ _ _).mono ?_;rintro e w' ⟨rfl,rfl⟩;rw[h1]
  go_wp2_with fail
  refine(YB _ _ _ _).mono ?_;rintro e w' ⟨rfl,rfl⟩;rw[h2]
  go_wp2_with fail
  refine(YB _ _ _ _).mono ?_;rintro e w' ⟨rfl,rfl⟩;rw[h3];go_wp2
  go_ret2
  exact⟨by rw[E.out];rfl,rfl⟩
 ·have E:M6 (acP out act per=(Nn ((out+1)*100<=per*act),0)):=Nh ⟨M2 h1,M2 h2,M2 h3⟩
  have i:=M2 h1;have m:=M2 h2;have j:=M2 h3;have y:0<=per*act:=Int.mul_nonneg j.1 i.1;have q:per*act<=1200:=(Px j.2 i.2 i.1 (by omega):per*act<=100*12);obtain⟨z,A⟩:=i;obtain⟨x,p⟩:=m;have s:out<=12:=by omega
  clear j;go_enter aAB,aAv
  go_wp2_with fail
  refine(YB _ _ _ _).mono ?_;rintro e w' ⟨rfl,rfl⟩;rw[h1]
  go_wp2_with fail
  refine(YB _ _ _ _).mono ?_;rintro e w' ⟨rfl,rfl⟩;rw[h2]
  go_wp2_with fail
  refine(YB _ _ _ _).mono ?_;rintro e w' ⟨rfl,rfl⟩;rw[h3];go_wp2
  go_ret2
  exact⟨by rw[E.out];rfl,rfl⟩
theorem arx{now:Int}(hw:ZT n f d)(hnow:0<=now/\now<=1099511627776)(hh:ZO n l.length o u t)(h:o=Nb\/now<u):Ze n f d l o u t now=((l,o,u,t),Nb,0):=by
 unfold Ze YR;rw[Nh hw,Nh hnow,Nh hh,Nh rfl,Nf];rintro⟨h1,h2⟩;rcases h with h|h
 ·rw[h1]at h;cases h
 ·omega
end
end Go.Proofs.YtbdpocjfnnojbaaGreatDoor.Q
