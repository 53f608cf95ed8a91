/-
  Contracts of the layers and of core, part 1. Conditions: as each theorem says.
-/
import Derived.Deep.Upon
import Derived.BigQuiet
import Derived.Shelf.SlSortCmp.QuietGrown
import Derived.SizedLaws
import Derived.Deep.Slices
import Derived.Test.YtgnclkcdnbfeeaaGreatDoorQ0
open Bool renaming false->Nb
open Decidable renaming decide->Nn
open Go renaming Calls->Ni,TypeId->NU,Value->M7,World->MO,bodyPost_ret->Np,cell_grown->Ob,heap_alloc_new->M1,heap_setCell_same->NI,results->Pf,undef->PL,wpQuiet_nil->Oy,wp_region_quiet_grown->NQ
open Go.Calls renaming grown_of->NZ
open Go.Ending renaming returned->MN
open Go.IntKind renaming i64->ME,wrap_i64->Ow
open Go.Obj renaming cells->MP
open Go.Proofs.Tryz renaming func128->ayl,func134->R4,func40->UX,func41->QN,func53->WG,func86->WE,ntmps128->ayd,ntmps134->RQ,ntmps40->UP,ntmps41->QD,ntmps53->Wx,ntmps86->Wp,prog->MK,results134->azf,results29->Qx,results86->azh,underlying50->axV
open Go.RowKit renaming Below->MQ,Hid->M6
open Go.RowKit.Below renaming heap_setCell->MU,refl->MY
open Go.Sort renaming alloc_eq_grow->PQ,grow->Oj
open Go.Value renaming agg->Ny,bool->M3,int->MF,pointer->Na,tuple->Nv
open Go.World renaming block_lt_of_cell?->MX,cell?->Nl,frozen?->Ng
open Int renaming mul_le_mul->Px
open Nat renaming le_refl->MV
open Option renaming none->MH,some->MI
open Or renaming inl->Nt,inr->NF
namespace Go.Proofs.YtgnclkcdnbfeeaaGreatDoor.Q
set_option linter.unusedVariables false
set_option linter.unusedSimpArgs false
set_option maxHeartbeats 16000000
set_option maxRecDepth 100000
open Go.RowKit
attribute [local go_sem ↓] Go.wp_at_zero Go.wp_at_succ
variable {b d n x y:Int}{W w:MO}
theorem adT{g:Nat}{a:M7}{T:NU}(h:w.heap[g]?=MI (MP #[a] T (0,0))):w.cell? ⟨g,0,MH⟩=MI a/\w.frozen? ⟨g,0,MH⟩=Nb/\g<w.heap.size :=
 ⟨by simp[Nl,h],by simp[Ng,h],(Array.getElem?_eq_some_iff.1 h).1⟩
theorem ag4{g:Nat}{a a':M7}{T:NU}(h:w.heap[g]?=MI (MP #[a] T (0,0))):(w.setCell ⟨g,0,MH⟩ a').heap[g]?=MI (MP #[a'] T (0,0)):=
 NI w g 0 _ _ a' h
section
open Go.Sort (grow grow_empty grow_grow alloc_eq_grow cell?_grow heap_grow_old)
theorem afy(w:MO)(q:Nat)(os:Array Obj):MQ w.heap.size w (Oj (w.drewN q) os):=
 ⟨rfl,rfl,rfl,by simp[Oj,World.drewN],fun k hk=>heap_grow_old (w.drewN q) os hk⟩
abbrev Zp(n d b:Int):Prop:=(0<=n/\n<=20)/\(1<=d/\d<=20)/\(0<=b/\b<=20)
def aaY(n d b:Int):Int:=if Zp n d b then 0 else 2
def YN(n d b x:Int):Int:=if Zp n d b then(if 0<=x/\x<=b*d then 0 else 6)else 2
def aeB(n d b:Int):Int×Int:=if Zp n d b then(b*d,0)else(0,2)
def aa9(n d b x:Int):Int×Int:=if YN n d b x=0 then(min (x+n) (b*d),0)else(0,YN n d b x)
def Zh(n d b x:Int):Int×Int:=if YN n d b x=0 then(if x<d then(0,11)else(x-d,0))else(0,YN n d b x)
theorem ajO:YN n d b x=0↔Zp n d b/\0<=x/\x<=b*d:=by
 unfold YN
 by_cases h:Zp n d b
 ·rw[Nh h]
  by_cases h2:0<=x/\x<=b*d
  ·rw[Nh h2];exact⟨fun _=>⟨h,h2⟩,fun _=>rfl⟩
  ·rw[Nf h2];exact⟨fun e=>absurd e (by decide),fun e=>absurd e.2 h2⟩
 ·rw[Nf h];exact⟨fun e=>absurd e (by decide),fun e=>absurd e.1 h⟩
theorem ajN(n d b x:Int):(YN n d b x=2/\¬Zp n d b)\/(YN n d b x=6/\Zp n d b)\/(YN n d b x=0/\Zp n d b/\0<=x/\x<=b*d):=by
 unfold YN
 by_cases h:Zp n d b
 ·rw[Nh h]
  by_cases h2:0<=x/\x<=b*d
  ·rw[Nh h2];exact NF (NF ⟨rfl,h,h2⟩)
  ·rw[Nf h2];exact NF (Nt ⟨rfl,h⟩)
 ·rw[Nf h];exact Nt ⟨rfl,h⟩
theorem afA(hd:1<=d/\d<=20)(hb:0<=b/\b<=20):0<=b*d/\b*d<=400 :=
 ⟨Int.mul_nonneg hb.1 (by omega),(Px hb.2 hd.2 (by omega) (by omega):b*d<=20*20)⟩
abbrev adf(n d b:Int):Value:=Ny #[MF ME n,MF ME d,MF ME b]
theorem ach(n lo:Int)(w:MO):Ni MK 53 #[MF ME n,MF ME lo] w fun r w'=>r=MN (M3 (Nn (lo<=n/\n<=20)))/\w'=w:=by
 obtain⟨c,a⟩:∃c,c=Nn (lo<=n/\n<=20):=⟨_,rfl⟩;rw[<-a];have H:M6 _:=a;clear a;cases h1:Nn (lo<=n)
 ·go_enter WG,Wx
  go_wp2;go_ret;exact⟨by rw[H.out,M0 (fun h=>Nc h1 h.1)];rfl,rfl⟩
 ·cases h2:Nn (n<=20)
  ·go_enter WG,Wx
   go_wp2;go_ret;exact⟨by rw[H.out,M0 (fun h=>Nc h2 h.2)];rfl,rfl⟩
  ·go_enter WG,Wx
   go_wp2;go_ret;exact⟨by rw[H.out,Nq ⟨M2 h1,M2 h2⟩];rfl,rfl⟩
theorem ajU(n d b:Int)(w:MO)(hd:1<=d/\d<=20)(hb:0<=b/\b<=20):Ni MK 41 #[adf n d b] w fun r w'=>r=MN (MF ME (b*d))/\∃q os,w'=Oj (w.drewN q) os:=by
 obtain⟨a,c⟩:=afA hd hb;go_enter QN,QD;go_wp2;go_ret;refine⟨rfl,0,#[MP #[MF ME n,MF ME d,MF ME b] 31],?_⟩;rw[PQ];rfl
theorem ajT(n d b:Int)(w:MO)(hd:1<=d/\d<=20)(hb:0<=b/\b<=20):Ni MK 41 #[adf n d b] w fun r w'=>r=MN (MF ME (b*d))/\MQ w.heap.size w w':=by
 refine(ajU n d b w hd hb).mono ?_;rintro r w' ⟨rfl,q,a,rfl⟩;exact⟨rfl,afy _ _ _⟩
theorem afz(n d b:Int)(w:MO):Ni MK 40 #[adf n d b] w fun r w'=>r=MN (MF ME (aaY n d b))/\MQ w.heap.size w w':=by
 obtain⟨c,a⟩:∃c,c=w.alloc (MP #[MF ME n,MF ME d,MF ME b] 31):=⟨_,rfl⟩;have f:c.heap[w.heap.size]?=MI (MP #[MF ME n,MF ME d,MF ME b] 31 (0,0)):=by rw[a];exact M1 _ _
 have g:MQ w.heap.size w c:=by rw[a];exact WQ _
 obtain⟨c0,c1,c2,_⟩:=aeD f;have H:M6 (_/\_):=⟨a,g⟩;clear a g f;cases h1:Nn (0<=n/\n<=20)
 ·have E:M6 (aaY n d b=2):=Nf fun h=>Nc h1 h.1
  go_enter UX,UP
  go_wp2_with fail
  rw[<-H.out.1];refine(ach _ _ _).mono ?_;rintro e w' ⟨rfl,rfl⟩;rw[h1];go_wp2;go_ret;exact⟨by rw[E.out];rfl,H.out.2⟩
 cases h2:Nn (0<=b/\b<=20)
 ·have E:M6 (aaY n d b=2):=Nf fun h=>Nc h2 h.2.2
  go_enter UX,UP
  go_wp2_with fail
  rw[<-H.out.1];refine(ach _ _ _).mono ?_;rintro e w' ⟨rfl,rfl⟩;rw[h1]
  go_wp2_with fail
  refine(ach _ _ _).mono ?_;rintro e w' ⟨rfl,rfl⟩;rw[h2];go_wp2;go_ret;exact⟨by rw[E.out];rfl,H.out.2⟩
 cases h3:Nn (1<=d/\d<=20)
 ·have E:M6 (aaY n d b=2):=Nf fun h=>Nc h3 h.2.1
  go_enter UX,UP
  go_wp2_with fail
  rw[<-H.out.1];refine(ach _ _ _).mono ?_;rintro e w' ⟨rfl,rfl⟩;rw[h1]
  go_wp2_with fail
  refine(ach _ _ _).mono ?_;rintro e w' ⟨rfl,rfl⟩;rw[h2]
  go_wp2_with fail
  refine(ach _ _ _).mono ?_;rintro e w' ⟨rfl,rfl⟩;rw[h3];go_wp2;go_ret;exact⟨by rw[E.out];rfl,H.out.2⟩
 ·have E:M6 (aaY n d b=0):=Nh ⟨M2 h1,M2 h3,M2 h2⟩
  go_enter UX,UP
  go_wp2_with fail
  rw[<-H.out.1];refine(ach _ _ _).mono ?_;rintro e w' ⟨rfl,rfl⟩;rw[h1]
  go_wp2_with fail
  refine(ach _ _ _).mono ?_;rintro e w' ⟨rfl,rfl⟩;rw[h2]
  go_wp2_with fail
  refine(ach _ _ _).mono ?_;rintro e w' ⟨rfl,rfl⟩;rw[h3];go_wp2;go_ret;exact⟨by rw[E.out];rfl,H.out.2⟩
def Bx(w W:MO)(n d b x:Int):Prop :=
 W.heap[w.heap.size]?=MI (MP #[MF ME n,MF ME d,MF ME b] 31 (0,0))/\W.heap[w.heap.size+1]?=MI (MP #[MF ME x] 50 (0,0))/\MQ w.heap.size w W
theorem ag3(w:MO)(n d b x:Int):Bx w ((w.alloc (MP #[MF ME n,MF ME d,MF ME b] 31)).alloc (MP #[MF ME x] 50)) n d b x :=
 ⟨Xy _ _ (M1 _ _),Yu _ _ _,((MY _ _).alloc (MV _) _).alloc (by simp) _⟩
theorem Bx.below{W':MO}(h:Bx w W n d b x)(hb:MQ W.heap.size W W'):Bx w W' n d b x :=
 ⟨WO h.1 hb,WO h.2.1 hb,h.2.2.trans (hb.mono h.2.2.size)⟩
theorem Bx.Gg(h:Bx w W n d b x):W.cell? ⟨w.heap.size,0,MH⟩=MI (MF ME n)/\W.cell? ⟨w.heap.size,1,MH⟩=MI (MF ME d)/\W.cell? ⟨w.heap.size,2,MH⟩=MI (MF ME b)/\W.cell? ⟨w.heap.size+1,0,MH⟩=MI (MF ME x):=by
 obtain⟨c0,c1,c2,_⟩:=aeD h.1;exact⟨c0,c1,c2,Xu h.2.1⟩
theorem ajQ(n d b x:Int)(w:MO):Ni MK 128 #[adf n d b,Ny #[MF ME x]] w fun r w'=>r=MN (MF ME (YN n d b x))/\MQ w.heap.size w w':=by
 obtain⟨t,p⟩:∃t,t=(w.alloc (MP #[MF ME n,MF ME d,MF ME b] 31)).alloc (MP #[MF ME x] 50):=⟨_,rfl⟩;have q:Bx w t n d b x:=by rw[p];exact ag3 _ _ _ _ _
 obtain⟨c0,c1,c2,c3⟩:=q.Gg;have H:M6 (_/\_):=⟨p,q⟩;clear p q;go_enter ayl,ayd
 go_wp2_with fail
 rw[<-H.out.1];refine(afz n d b _).mono ?_;rintro r a ⟨rfl,v⟩;have s:=H.out.2.below v;clear c0 c1 c2 c3 v H;obtain⟨c0,c1,c2,c3⟩:=s.Gg;have g:M6 _:=s.2.2;clear s
 by_cases hok:Zp n d b
 ·rw[show aaY n d b=0 from Nh hok]
  obtain⟨z,l,o⟩:=hok;obtain⟨C,F⟩:=afA l o;have u:M6 (∀W,_):=fun W=>ajU n d b W l o
  have E:M6 (YN n d b x=if 0<=x/\x<=b*d then 0 else 6):=Nh ⟨z,l,o⟩;clear z l o;generalize b*d=m at *;have A:∀n' os,(Oj (a.drewN n') os).cell? ⟨w.heap.size,0,MH⟩=MI (MF ME n):=Ob (MX _ _ c0) c0;have G:∀n' os,(Oj (a.drewN n') os).cell? ⟨w.heap.size,1,MH⟩=MI (MF ME d):=Ob (MX _ _ c1) c1;have B:∀n' os,(Oj (a.drewN n') os).cell? ⟨w.heap.size,2,MH⟩=MI (MF ME b):=Ob (MX _ _ c2) c2;have D:∀n' os,(Oj (a.drewN n') os).cell? ⟨w.heap.size+1,0,MH⟩=MI (MF ME x):=Ob (MX _ _ c3) c3;cases h1:Nn (x<0)
  case true =>
   have i:M6 (YN n d b x=6):=(by rw[E.out,Nf fun h=>by have:=M2 h1;omega]:YN n d b x=6);clear E
   go_wp2_with fail
   refine NQ XY (by kernel_rfl) ?_
   repeat (first|go_big_quiet_skip|quiet_step (first|(go_at_call 41;exact Calls.grown_of (u.out _))))
   refine Oy ?_;intro _ k;obtain⟨⟨e,c⟩,j⟩:=k;subst j;have f:M6 (MQ w.heap.size w (Oj (a.drewN e) c)):=g.out.trans ((afy a e c).mono g.out.size);generalize Oj (a.drewN e) c=w3 at f⊢;go_wp2;go_ret;exact⟨by rw[i.out];rfl,f.out⟩
  cases h2:Nn (m<x)
  case true =>
   have i:M6 (YN n d b x=6):=(by rw[E.out,Nf fun h=>by have:=M2 h2;omega]:YN n d b x=6);clear E
   go_wp2_with fail
   refine NQ XY (by kernel_rfl) ?_
   repeat (first|go_big_quiet_skip|quiet_step (first|(go_at_call 41;exact NZ (u.out _))))
   refine Oy ?_;intro _ k;obtain⟨⟨e,c⟩,j⟩:=k;subst j;have f:M6 (MQ w.heap.size w (Oj (a.drewN e) c)):=g.out.trans ((afy a e c).mono g.out.size);generalize Oj (a.drewN e) c=w3 at f⊢;go_wp2;go_ret;exact⟨by rw[i.out];rfl,f.out⟩
  case false =>
   have i:M6 (YN n d b x=0):=(by rw[E.out,Nh ⟨by have:=Nc h1;omega,by have:=Nc h2;omega⟩]:YN n d b x=0);clear E
   go_wp2_with fail
   refine NQ XY (by kernel_rfl) ?_
   repeat (first|go_big_quiet_skip|quiet_step (first|(go_at_call 41;exact NZ (u.out _))))
   refine Oy ?_;intro _ k;obtain⟨⟨e,c⟩,j⟩:=k;subst j;have f:M6 (MQ w.heap.size w (Oj (a.drewN e) c)):=g.out.trans ((afy a e c).mono g.out.size);generalize Oj (a.drewN e) c=w3 at f⊢;go_wp2;go_ret;exact⟨by rw[i.out];rfl,f.out⟩
 ·rw[show aaY n d b=2 from Nf hok]
  have i:M6 (YN n d b x=2):=Nf hok;clear hok;go_wp2;go_ret;exact⟨by rw[i.out];rfl,g.out⟩
theorem aob(h:Zp n d b):aaY n d b=0:=Nh h
theorem aoa(h:¬Zp n d b):aaY n d b=2:=Nf h
abbrev Z9(x:Int):Value:=Ny #[MF ME x]
theorem aod(n d b:Int)(w:MO):Ni MK 29 #[adf n d b] w fun r w'=>r=MN (Nv #[Z9 (aeB n d b).1,MF ME (aeB n d b).2])/\MQ w.heap.size w w':=by
 obtain⟨i,e⟩:∃i,i=(w.alloc (MP #[MF ME n,MF ME d,MF ME b] 31)).alloc (MP #[MF ME 0] 50):=⟨_,rfl⟩;have f:Bx w i n d b 0:=by rw[e];exact ag3 _ _ _ _ _
 obtain⟨c0,c1,c2,c3⟩:=f.Gg;have H:M6 (_/\_):=⟨e,f⟩;clear e f;go_enter Tryz.func29,Tryz.ntmps29
 go_wp2_with fail
 rw[<-H.out.1];refine(afz n d b _).mono ?_;rintro r p ⟨rfl,k⟩;have c:=H.out.2.below k;clear c0 c1 c2 c3 k H;obtain⟨c0,c1,c2,c3⟩:=c.Gg;obtain⟨_,l,_⟩:=adT c.2.1;have a:M6 (Bx _ _ _ _ _ _):=c;clear c
 by_cases hok:Zp n d b
 ·rw[aob hok]
  have E:M6 (aeB n d b=(b*d,0)):=Nh hok;have o:M6 (∀W,_):=fun W=>ajT n d b W hok.2.1 hok.2.2
  clear hok;generalize b*d=m at *
  go_wp2_with fail
  refine(o.out _).mono ?_;rintro r q ⟨rfl,j⟩;have g:=a.out.below j;clear c0 c1 c2 c3 l j a o;obtain⟨c3,l,_⟩:=adT g.2.1;have a:M6 (Bx _ _ _ _ _ _):=g;clear g;go_wp2;exact Np (v:=Nv #[Z9 m,MF ME 0]) (XT Qx rfl rfl (Xp (P:=MK) (cs:=[MF ME m]) (ag4 a.out.2.1) axV rfl (by kernel_rfl))) rfl ⟨by rw[E.out],a.out.2.2.setCell (by simp) _⟩
 ·rw[aoa hok]
  have E:M6 (aeB n d b=(0,2)):=Nf hok;clear hok;go_wp2;exact Np (v:=Nv #[Z9 0,MF ME 2]) (XT Qx rfl rfl (Xp (P:=MK) (cs:=[MF ME 0]) (ag4 a.out.2.1) axV rfl (by kernel_rfl))) rfl ⟨by rw[E.out],a.out.2.2.setCell (by simp) _⟩
def By(w W:MO)(n d b x y:Int):Prop :=
 Bx w W n d b x/\W.heap[w.heap.size+1+1]?=MI (MP #[MF ME y] 50 (0,0))
theorem ajP(w:MO)(n d b x y:Int):By w (((w.alloc (MP #[MF ME n,MF ME d,MF ME b] 31)).alloc (MP #[MF ME x] 50)).alloc (MP #[MF ME y] 50)) n d b x y :=
 ⟨(ag3 w n d b x).below (WQ _),aeC _ _ _ _⟩
theorem By.below{W':MO}(h:By w W n d b x y)(hb:MQ W.heap.size W W'):By w W' n d b x y :=
 ⟨h.1.below hb,WO h.2 hb⟩
theorem By.F4(h:By w W n d b x y)(z:Int):By w (W.setCell ⟨w.heap.size+1+1,0,MH⟩ (MF ME z)) n d b x z :=
 ⟨⟨(MU _ _ _ _ (by simp;omega)).trans h.1.1,(MU _ _ _ _ (by simp)).trans h.1.2.1,h.1.2.2.setCell (by simp;omega) _⟩,ag4 h.2⟩
theorem By.GY(h:By w W n d b x y):By w W.drew n d b x y:=h.below ((MY _ _).drew)
theorem By.res(h:By w W n d b x y){fn:Func}{i z:Tmp}(hr:fn.results=#[.cell i 50,.tmp z]){tmps:Array M7}{e:M7}(hx:tmps.getD i PL=Na (MI ⟨w.heap.size+1+1,0,MH⟩))(hz:tmps.getD z PL=e):
  (Pf fn tmps).run MK W=.ok (Nv #[Z9 y,e]) W :=
 XT hr hx hz (Xp (P:=MK) (cs:=[MF ME y]) h.2 axV rfl (by kernel_rfl))
theorem aoc(h:YN n d b x=0):aa9 n d b x=(min (x+n) (b*d),0):=Nh h
theorem ajS(e:Int)(h:YN n d b x=e)(he:e≠0):aa9 n d b x=(0,e):=by unfold aa9;rw[h,Nf he]
theorem aof(h:YN n d b x=0)(h2:d<=x):Zh n d b x=(x-d,0):=by unfold Zh;rw[Nh h,Nf (by omega)]
theorem aoe(h:YN n d b x=0)(h2:x<d):Zh n d b x=(0,11):=by unfold Zh;rw[Nh h,Nh h2]
theorem ajW(e:Int)(h:YN n d b x=e)(he:e≠0):Zh n d b x=(0,e):=by unfold Zh;rw[h,Nf he]
theorem Bx.GQ(h:Bx w W n d b x):W.cell? ⟨w.heap.size,0,MH⟩=MI (MF ME n)/\W.cell? ⟨w.heap.size,1,MH⟩=MI (MF ME d)/\W.cell? ⟨w.heap.size,2,MH⟩=MI (MF ME b)/\W.cell? ⟨w.heap.size+1,0,MH⟩=MI (MF ME x)/\Bx w W n d b x :=
 ⟨h.Gg.1,h.Gg.2.1,h.Gg.2.2.1,h.Gg.2.2.2,h⟩
theorem ajV(n d b x:Int)(w:MO):Ni MK 134 #[adf n d b,Z9 x] w fun r w'=>r=MN (Nv #[Z9 (Zh n d b x).1,MF ME (Zh n d b x).2])/\MQ w.heap.size w w':=by
 obtain⟨j,i⟩:∃j,j=((w.alloc (MP #[MF ME n,MF ME d,MF ME b] 31)).alloc (MP #[MF ME x] 50)).alloc (MP #[MF ME 0] 50):=⟨_,rfl⟩;have g:By w j n d b x 0:=by rw[i];exact ajP _ _ _ _ _ _
 obtain⟨c0,c1,c2,c3⟩:=g.1.Gg;have H:M6 (_/\By _ _ _ _ _ _ _):=⟨i,g⟩;clear i g;go_enter R4,RQ
 go_wp2_with fail
 rw[<-H.out.1];refine(ajQ n d b x _).mono ?_;rintro r s ⟨rfl,m⟩;have f:=H.out.2.below m;clear c0 c1 c2 c3 m H;obtain⟨c0,c1,c2,c3⟩:=f.1.Gg;obtain⟨c4,t,_⟩:=adT f.2;have c:M6 (By _ _ _ _ _ _ _):=f;clear f;rcases ajN n d b x with⟨a,_⟩|⟨a,_⟩|⟨a,e,p,k⟩
 ·have E:M6 (Zh n d b x=(0,2)):=ajW 2 a (by decide)
  rw[a];clear a;go_wp2;exact Np (v:=Nv #[Z9 0,MF ME 2]) ((c.out.F4 0).res azf rfl rfl) rfl ⟨by rw[E.out],(c.out.F4 0).1.2.2⟩
 ·have E:M6 (Zh n d b x=(0,6)):=ajW 6 a (by decide)
  rw[a];clear a;go_wp2;exact Np (v:=Nv #[Z9 0,MF ME 6]) ((c.out.F4 0).res azf rfl rfl) rfl ⟨by rw[E.out],(c.out.F4 0).1.2.2⟩
 ·have l:=afA e.2.1 e.2.2
  have q:=e.2.1;have o:x<=400:=by omega
  cases hc:Nn (x<d)
  ·have E:M6 (Zh n d b x=(x-d,0)):=aof a (by have:=Nc hc;omega)
   rw[a];clear a e k l;go_wp2;exact Np (v:=Nv #[Z9 (x-d),MF ME 0]) ((c.out.F4 (x-d)).res azf rfl rfl) rfl ⟨by rw[E.out],(c.out.F4 (x-d)).1.2.2⟩
  ·have E:M6 (Zh n d b x=(0,11)):=aoe a (M2 hc)
   rw[a];clear a e k l;go_wp2;exact Np (v:=Nv #[Z9 0,MF ME 11]) ((c.out.F4 0).res azf rfl rfl) rfl ⟨by rw[E.out],(c.out.F4 0).1.2.2⟩
theorem ajR(n d b x:Int)(w:MO):Ni MK 86 #[adf n d b,Z9 x] w fun r w'=>r=MN (Nv #[Z9 (aa9 n d b x).1,MF ME (aa9 n d b x).2])/\MQ w.heap.size w w':=by
 obtain⟨l,j⟩:∃l,l=((w.alloc (MP #[MF ME n,MF ME d,MF ME b] 31)).alloc (MP #[MF ME x] 50)).alloc (MP #[MF ME 0] 50):=⟨_,rfl⟩;have k:By w l n d b x 0:=by rw[j];exact ajP _ _ _ _ _ _
 obtain⟨c0,c1,c2,c3⟩:=k.1.Gg;have H:M6 (_/\By _ _ _ _ _ _ _):=⟨j,k⟩;clear j k;go_enter WE,Wp
 go_wp2_with fail
 rw[<-H.out.1];refine(ajQ n d b x _).mono ?_;rintro r C ⟨rfl,p⟩;have i:=H.out.2.below p;clear c0 c1 c2 c3 p H;obtain⟨c0,c1,c2,c3⟩:=i.1.Gg;obtain⟨c4,F,_⟩:=adT i.2;have e:M6 (By _ _ _ _ _ _ _):=i;clear i;rcases ajN n d b x with⟨a,_⟩|⟨a,_⟩|⟨a,f,B,z⟩
 ·have E:M6 (aa9 n d b x=(0,2)):=ajS 2 a (by decide)
  rw[a];clear a;go_wp2;exact Np (v:=Nv #[Z9 0,MF ME 2]) ((e.out.F4 0).res azh rfl rfl) rfl ⟨by rw[E.out],(e.out.F4 0).1.2.2⟩
 ·have E:M6 (aa9 n d b x=(0,6)):=ajS 6 a (by decide)
  rw[a];clear a;go_wp2;exact Np (v:=Nv #[Z9 0,MF ME 6]) ((e.out.F4 0).res azh rfl rfl) rfl ⟨by rw[E.out],(e.out.F4 0).1.2.2⟩
 ·have A:=afA f.2.1 f.2.2
  have D:=f.1;have q:M6 (∀W,_):=fun W=>ajT n d b W f.2.1 f.2.2
  have E:M6 (aa9 n d b x=(min (x+n) (b*d),0)):=aoc a;rw[a];clear a f;generalize b*d=m at *;have t:x<=400:=by omega
  have u:IntKind.i64.wrap (x+n)=x+n:=by rw[Ow];omega
  by_cases hm:m<x+n
  ·have a:M6 (min (x+n) m=m):=(by omega:min (x+n) m=m)
   go_wp2_with fail
   go_region_held3 (fun W=>W.cell? ⟨w.heap.size,0,MH⟩=MI (MF ME n)/\W.cell? ⟨w.heap.size,1,MH⟩=MI (MF ME d)/\W.cell? ⟨w.heap.size,2,MH⟩=MI (MF ME b)/\W.cell? ⟨w.heap.size+1,0,MH⟩=MI (MF ME x)/\Bx w W n d b x) (first|exact(e.out.GY).1.GQ|exact c.out.1.GQ|exact(c.out.F4 _).1.GQ) (first|(go_at_call 41;refine(q.out _).mono ?_;rintro r o ⟨rfl,g⟩;have c:M6 (By w o n d b x 0):=e.out.below (Za g);clear g;have c5:=Xu c.out.2;have s:=(adT c.out.2).2.1))
   all_goals
    go_wp2;exact Np (v:=Nv #[Z9 m,MF ME 0]) ((c.out.F4 m).res azh rfl rfl) rfl ⟨by rw[E.out,a.out],(c.out.F4 _).1.2.2⟩
  ·have a:M6 (min (x+n) m=x+n):=(by omega:min (x+n) m=x+n)
   go_wp2_with fail
   go_region_held3 (fun W=>W.cell? ⟨w.heap.size,0,MH⟩=MI (MF ME n)/\W.cell? ⟨w.heap.size,1,MH⟩=MI (MF ME d)/\W.cell? ⟨w.heap.size,2,MH⟩=MI (MF ME b)/\W.cell? ⟨w.heap.size+1,0,MH⟩=MI (MF ME x)/\Bx w W n d b x) (first|exact(e.out.GY).1.GQ|exact c.out.1.GQ|exact(c.out.F4 _).1.GQ) (first|(go_at_call 41;refine(q.out _).mono ?_;rintro r o ⟨rfl,g⟩;have c:M6 (By w o n d b x 0):=e.out.below (Za g);clear g;have c5:=Xu c.out.2;have s:=(adT c.out.2).2.1))
   all_goals
    go_wp2;exact Np (v:=Nv #[Z9 (x+n),MF ME 0]) ((c.out.F4 (x+n)).res azh rfl rfl) rfl ⟨by rw[E.out,a.out],(c.out.F4 _).1.2.2⟩
end
end Go.Proofs.YtgnclkcdnbfeeaaGreatDoor.Q
