/-
  Contracts of the layers and of core, part 1. Conditions: as each theorem says.
-/
import Derived.Deep.Upon
import Derived.BigQuiet
import Derived.Shelf.SlSortCmp.QuietGrown
import Derived.SizedLaws
import Derived.Deep.Slices
import Derived.Test.YtlnbhjdhcmgljaaGreatDoorQ0
open Bool renaming false->Nb
open Decidable renaming decide->Nn
open Go renaming Calls->Ni,TypeId->NU,Value->M7,World->MO,bodyPost_ret->Np,cell_grown->Ob,heap_alloc_new->M1,heap_setCell_same->NI,results->Pf,undef->PL,wpQuiet_nil->Oy,wp_region_quiet_grown->NQ
open Go.Calls renaming grown_of->NZ
open Go.Ending renaming returned->MN
open Go.IntKind renaming i64->ME,wrap_i64->Ow
open Go.Obj renaming cells->MP
open Go.Proofs.Tryz renaming func114->S7,func64->Wa,func65->Sf,func86->WE,ntmps114->SF,ntmps64->VN,ntmps65->RV,ntmps86->Wp,prog->MK,results114->Vy,results171->Vx,underlying49->OX
open Go.RowKit renaming Below->MQ,Hid->M6
open Go.RowKit.Below renaming heap_setCell->MU,refl->MY
open Go.Sort renaming alloc_eq_grow->PQ,grow->Oj
open Go.Value renaming agg->Ny,bool->M3,int->MF,pointer->Na,tuple->Nv
open Go.World renaming block_lt_of_cell?->MX,cell?->Nl,frozen?->Ng
open Int renaming mul_le_mul->Px
open Nat renaming le_refl->MV
open Option renaming none->MH,some->MI
open Or renaming inl->Nt,inr->NF
namespace Go.Proofs.YtlnbhjdhcmgljaaGreatDoor.Q
set_option linter.unusedVariables false
set_option linter.unusedSimpArgs false
set_option maxHeartbeats 16000000
set_option maxRecDepth 100000
open Go.RowKit
attribute [local go_sem ↓] Go.wp_at_zero Go.wp_at_succ
variable {b d n x y:Int}{W w:MO}
theorem kv{g:Nat}{a:M7}{T:NU}(h:w.heap[g]?=MI (MP #[a] T (0,0))):w.cell? ⟨g,0,MH⟩=MI a/\w.frozen? ⟨g,0,MH⟩=Nb/\g<w.heap.size :=
 ⟨by simp[Nl,h],by simp[Ng,h],(Array.getElem?_eq_some_iff.1 h).1⟩
theorem nM{g:Nat}{a a':M7}{T:NU}(h:w.heap[g]?=MI (MP #[a] T (0,0))):(w.setCell ⟨g,0,MH⟩ a').heap[g]?=MI (MP #[a'] T (0,0)):=
 NI w g 0 _ _ a' h
section
open Go.Sort (grow grow_empty grow_grow alloc_eq_grow cell?_grow heap_grow_old)
theorem nu(w:MO)(q:Nat)(os:Array Obj):MQ w.heap.size w (Oj (w.drewN q) os):=
 ⟨rfl,rfl,rfl,by simp[Oj,World.drewN],fun k hk=>heap_grow_old (w.drewN q) os hk⟩
abbrev dq(n d b:Int):Prop:=(0<=n/\n<=20)/\(1<=d/\d<=20)/\(0<=b/\b<=20)
def fF(n d b:Int):Int:=if dq n d b then 0 else 2
def cJ(n d b x:Int):Int:=if dq n d b then(if 0<=x/\x<=b*d then 0 else 6)else 2
def kX(n d b:Int):Int×Int:=if dq n d b then(b*d,0)else(0,2)
def fI(n d b x:Int):Int×Int:=if cJ n d b x=0 then(min (x+n) (b*d),0)else(0,cJ n d b x)
def dp(n d b x:Int):Int×Int:=if cJ n d b x=0 then(if x<d then(0,11)else(x-d,0))else(0,cJ n d b x)
theorem vx:cJ n d b x=0↔dq n d b/\0<=x/\x<=b*d:=by
 unfold cJ
 by_cases h:dq n d b
 ·rw[Nh h]
  by_cases h2:0<=x/\x<=b*d
  ·rw[Nh h2];exact⟨fun _=>⟨h,h2⟩,fun _=>rfl⟩
  ·rw[Nf h2];exact⟨fun e=>absurd e (by decide),fun e=>absurd e.2 h2⟩
 ·rw[Nf h];exact⟨fun e=>absurd e (by decide),fun e=>absurd e.1 h⟩
theorem tN(n d b x:Int):(cJ n d b x=2/\¬dq n d b)\/(cJ n d b x=6/\dq n d b)\/(cJ n d b x=0/\dq n d b/\0<=x/\x<=b*d):=by
 unfold cJ
 by_cases h:dq n d b
 ·rw[Nh h]
  by_cases h2:0<=x/\x<=b*d
  ·rw[Nh h2];exact NF (NF ⟨rfl,h,h2⟩)
  ·rw[Nf h2];exact NF (Nt ⟨rfl,h⟩)
 ·rw[Nf h];exact Nt ⟨rfl,h⟩
theorem mb(hd:1<=d/\d<=20)(hb:0<=b/\b<=20):0<=b*d/\b*d<=400 :=
 ⟨Int.mul_nonneg hb.1 (by omega),(Px hb.2 hd.2 (by omega) (by omega):b*d<=20*20)⟩
abbrev jS(n d b:Int):Value:=Ny #[MF ME n,MF ME d,MF ME b]
theorem il(n lo:Int)(w:MO):Ni MK 86 #[MF ME n,MF ME lo] w fun r w'=>r=MN (M3 (Nn (lo<=n/\n<=20)))/\w'=w:=by
 obtain⟨ans,hans⟩:∃ans,ans=Nn (lo<=n/\n<=20):=⟨_,rfl⟩;rw[<-hans];have H:M6 _:=hans;clear hans;cases h1:Nn (lo<=n)
 ·go_enter WE,Wp
  go_wp2;go_ret;exact⟨by rw[H.out,M0 (fun h=>Nc h1 h.1)];rfl,rfl⟩
 ·cases h2:Nn (n<=20)
  ·go_enter WE,Wp
   go_wp2;go_ret;exact⟨by rw[H.out,M0 (fun h=>Nc h2 h.2)];rfl,rfl⟩
  ·go_enter WE,Wp
   go_wp2;go_ret;exact⟨by rw[H.out,Nq ⟨M2 h1,M2 h2⟩];rfl,rfl⟩
theorem r8(n d b:Int)(w:MO)(hd:1<=d/\d<=20)(hb:0<=b/\b<=20):Ni MK 65 #[jS n d b] w fun r w'=>r=MN (MF ME (b*d))/\∃q os,w'=Oj (w.drewN q) os:=by
 obtain⟨h1,h2⟩:=mb hd hb;go_enter Sf,RV;go_wp2;go_ret;refine⟨rfl,0,#[MP #[MF ME n,MF ME d,MF ME b] 30],?_⟩;rw[PQ];rfl
theorem ub(n d b:Int)(w:MO)(hd:1<=d/\d<=20)(hb:0<=b/\b<=20):Ni MK 65 #[jS n d b] w fun r w'=>r=MN (MF ME (b*d))/\MQ w.heap.size w w':=by
 refine(r8 n d b w hd hb).mono ?_;rintro r w' ⟨rfl,q,os,rfl⟩;exact⟨rfl,nu _ _ _⟩
theorem nr(n d b:Int)(w:MO):Ni MK 64 #[jS n d b] w fun r w'=>r=MN (MF ME (fF n d b))/\MQ w.heap.size w w':=by
 obtain⟨W0,hW0⟩:∃W0,W0=w.alloc (MP #[MF ME n,MF ME d,MF ME b] 30):=⟨_,rfl⟩;have hB0:W0.heap[w.heap.size]?=MI (MP #[MF ME n,MF ME d,MF ME b] 30 (0,0)):=by rw[hW0];exact M1 _ _
 have hb0:MQ w.heap.size w W0:=by rw[hW0];exact ai _
 obtain⟨c0,c1,c2,_⟩:=lK hB0;have H:M6 (_/\_):=⟨hW0,hb0⟩;clear hW0 hb0 hB0;cases h1:Nn (0<=n/\n<=20)
 ·have E:M6 (fF n d b=2):=Nf fun h=>Nc h1 h.1
  go_enter Wa,VN
  go_wp2_with fail
  rw[<-H.out.1];refine(il _ _ _).mono ?_;rintro e w' ⟨rfl,rfl⟩;rw[h1];go_wp2;go_ret;exact⟨by rw[E.out];rfl,H.out.2⟩
 cases h2:Nn (0<=b/\b<=20)
 ·have E:M6 (fF n d b=2):=Nf fun h=>Nc h2 h.2.2
  go_enter Wa,VN
  go_wp2_with fail
  rw[<-H.out.1];refine(il _ _ _).mono ?_;rintro e w' ⟨rfl,rfl⟩;rw[h1]
  go_wp2_with fail
  refine(il _ _ _).mono ?_;rintro e w' ⟨rfl,rfl⟩;rw[h2];go_wp2;go_ret;exact⟨by rw[E.out];rfl,H.out.2⟩
 cases h3:Nn (1<=d/\d<=20)
 ·have E:M6 (fF n d b=2):=Nf fun h=>Nc h3 h.2.1
  go_enter Wa,VN
  go_wp2_with fail
  rw[<-H.out.1];refine(il _ _ _).mono ?_;rintro e w' ⟨rfl,rfl⟩;rw[h1]
  go_wp2_with fail
  refine(il _ _ _).mono ?_;rintro e w' ⟨rfl,rfl⟩;rw[h2]
  go_wp2_with fail
  refine(il _ _ _).mono ?_;rintro e w' ⟨rfl,rfl⟩;rw[h3];go_wp2;go_ret;exact⟨by rw[E.out];rfl,H.out.2⟩
 ·have E:M6 (fF n d b=0):=Nh ⟨M2 h1,M2 h3,M2 h2⟩
  go_enter Wa,VN
  go_wp2_with fail
  rw[<-H.out.1];refine(il _ _ _).mono ?_;rintro e w' ⟨rfl,rfl⟩;rw[h1]
  go_wp2_with fail
  refine(il _ _ _).mono ?_;rintro e w' ⟨rfl,rfl⟩;rw[h2]
  go_wp2_with fail
  refine(il _ _ _).mono ?_;rintro e w' ⟨rfl,rfl⟩;rw[h3];go_wp2;go_ret;exact⟨by rw[E.out];rfl,H.out.2⟩
def Bx(w W:MO)(n d b x:Int):Prop :=
 W.heap[w.heap.size]?=MI (MP #[MF ME n,MF ME d,MF ME b] 30 (0,0))/\W.heap[w.heap.size+1]?=MI (MP #[MF ME x] 49 (0,0))/\MQ w.heap.size w W
theorem oN(w:MO)(n d b x:Int):Bx w ((w.alloc (MP #[MF ME n,MF ME d,MF ME b] 30)).alloc (MP #[MF ME x] 49)) n d b x :=
 ⟨aN _ _ (M1 _ _),bV _ _ _,((MY _ _).alloc (MV _) _).alloc (by simp) _⟩
theorem Bx.below{W':MO}(h:Bx w W n d b x)(hb:MQ W.heap.size W W'):Bx w W' n d b x :=
 ⟨af h.1 hb,af h.2.1 hb,h.2.2.trans (hb.mono h.2.2.size)⟩
theorem Bx.Gg(h:Bx w W n d b x):W.cell? ⟨w.heap.size,0,MH⟩=MI (MF ME n)/\W.cell? ⟨w.heap.size,1,MH⟩=MI (MF ME d)/\W.cell? ⟨w.heap.size,2,MH⟩=MI (MF ME b)/\W.cell? ⟨w.heap.size+1,0,MH⟩=MI (MF ME x):=by
 obtain⟨c0,c1,c2,_⟩:=lK h.1;exact⟨c0,c1,c2,aM h.2.1⟩
theorem sV(n d b x:Int)(w:MO):Ni MK 165 #[jS n d b,Ny #[MF ME x]] w fun r w'=>r=MN (MF ME (cJ n d b x))/\MQ w.heap.size w w':=by
 obtain⟨W0,hW0⟩:∃W0,W0=(w.alloc (MP #[MF ME n,MF ME d,MF ME b] 30)).alloc (MP #[MF ME x] 49):=⟨_,rfl⟩;have hX0:Bx w W0 n d b x:=by rw[hW0];exact oN _ _ _ _ _
 obtain⟨c0,c1,c2,c3⟩:=hX0.Gg;have H:M6 (_/\_):=⟨hW0,hX0⟩;clear hW0 hX0;go_enter Tryz.func165,Tryz.ntmps165
 go_wp2_with fail
 rw[<-H.out.1];refine(nr n d b _).mono ?_;rintro r w1 ⟨rfl,hb1⟩;have hX1:=H.out.2.below hb1;clear c0 c1 c2 c3 hb1 H;obtain⟨c0,c1,c2,c3⟩:=hX1.Gg;have HB:M6 _:=hX1.2.2;clear hX1
 by_cases hok:dq n d b
 ·rw[show fF n d b=0 from Nh hok]
  obtain⟨hn,hd,hb⟩:=hok;obtain⟨m1,m2⟩:=mb hd hb;have HM:M6 (∀W,_):=fun W=>r8 n d b W hd hb
  have E:M6 (cJ n d b x=if 0<=x/\x<=b*d then 0 else 6):=Nh ⟨hn,hd,hb⟩;clear hn hd hb;generalize b*d=m at *;have k0:∀n' os,(Oj (w1.drewN n') os).cell? ⟨w.heap.size,0,MH⟩=MI (MF ME n):=Ob (MX _ _ c0) c0;have k1:∀n' os,(Oj (w1.drewN n') os).cell? ⟨w.heap.size,1,MH⟩=MI (MF ME d):=Ob (MX _ _ c1) c1;have k2:∀n' os,(Oj (w1.drewN n') os).cell? ⟨w.heap.size,2,MH⟩=MI (MF ME b):=Ob (MX _ _ c2) c2;have k3:∀n' os,(Oj (w1.drewN n') os).cell? ⟨w.heap.size+1,0,MH⟩=MI (MF ME x):=Ob (MX _ _ c3) c3;cases h1:Nn (x<0)
  case true =>
   have E2:M6 (cJ n d b x=6):=(by rw[E.out,Nf fun h=>by have:=M2 h1;omega]:cJ n d b x=6);clear E
   go_wp2_with fail
   refine NQ bB (by kernel_rfl) ?_
   repeat (first|go_big_quiet_skip|quiet_step (first|(go_at_call 65;exact Calls.grown_of (HM.out _))))
   refine Oy ?_;intro _ hw';obtain⟨⟨nq,osq⟩,hw''⟩:=hw';subst hw'';have HB2:M6 (MQ w.heap.size w (Oj (w1.drewN nq) osq)):=HB.out.trans ((nu w1 nq osq).mono HB.out.size);generalize Oj (w1.drewN nq) osq=w3 at HB2⊢;go_wp2;go_ret;exact⟨by rw[E2.out];rfl,HB2.out⟩
  cases h2:Nn (m<x)
  case true =>
   have E2:M6 (cJ n d b x=6):=(by rw[E.out,Nf fun h=>by have:=M2 h2;omega]:cJ n d b x=6);clear E
   go_wp2_with fail
   refine NQ bB (by kernel_rfl) ?_
   repeat (first|go_big_quiet_skip|quiet_step (first|(go_at_call 65;exact NZ (HM.out _))))
   refine Oy ?_;intro _ hw';obtain⟨⟨nq,osq⟩,hw''⟩:=hw';subst hw'';have HB2:M6 (MQ w.heap.size w (Oj (w1.drewN nq) osq)):=HB.out.trans ((nu w1 nq osq).mono HB.out.size);generalize Oj (w1.drewN nq) osq=w3 at HB2⊢;go_wp2;go_ret;exact⟨by rw[E2.out];rfl,HB2.out⟩
  case false =>
   have E2:M6 (cJ n d b x=0):=(by rw[E.out,Nh ⟨by have:=Nc h1;omega,by have:=Nc h2;omega⟩]:cJ n d b x=0);clear E
   go_wp2_with fail
   refine NQ bB (by kernel_rfl) ?_
   repeat (first|go_big_quiet_skip|quiet_step (first|(go_at_call 65;exact NZ (HM.out _))))
   refine Oy ?_;intro _ hw';obtain⟨⟨nq,osq⟩,hw''⟩:=hw';subst hw'';have HB2:M6 (MQ w.heap.size w (Oj (w1.drewN nq) osq)):=HB.out.trans ((nu w1 nq osq).mono HB.out.size);generalize Oj (w1.drewN nq) osq=w3 at HB2⊢;go_wp2;go_ret;exact⟨by rw[E2.out];rfl,HB2.out⟩
 ·rw[show fF n d b=2 from Nf hok]
  have E2:M6 (cJ n d b x=2):=Nf hok;clear hok;go_wp2;go_ret;exact⟨by rw[E2.out];rfl,HB.out⟩
theorem At(h:dq n d b):fF n d b=0:=Nh h
theorem D1(h:¬dq n d b):fF n d b=2:=Nf h
abbrev eC(x:Int):Value:=Ny #[MF ME x]
theorem DI(n d b:Int)(w:MO):Ni MK 43 #[jS n d b] w fun r w'=>r=MN (Nv #[eC (kX n d b).1,MF ME (kX n d b).2])/\MQ w.heap.size w w':=by
 obtain⟨W0,hW0⟩:∃W0,W0=(w.alloc (MP #[MF ME n,MF ME d,MF ME b] 30)).alloc (MP #[MF ME 0] 49):=⟨_,rfl⟩;have hX0:Bx w W0 n d b 0:=by rw[hW0];exact oN _ _ _ _ _
 obtain⟨c0,c1,c2,c3⟩:=hX0.Gg;have H:M6 (_/\_):=⟨hW0,hX0⟩;clear hW0 hX0;go_enter Tryz.func43,Tryz.ntmps43
 go_wp2_with fail
 rw[<-H.out.1];refine(nr n d b _).mono ?_;rintro r w1 ⟨rfl,hb1⟩;have hX1:=H.out.2.below hb1;clear c0 c1 c2 c3 hb1 H;obtain⟨c0,c1,c2,c3⟩:=hX1.Gg;obtain⟨_,f3,_⟩:=kv hX1.2.1;have HX:M6 (Bx _ _ _ _ _ _):=hX1;clear hX1
 by_cases hok:dq n d b
 ·rw[At hok]
  have E:M6 (kX n d b=(b*d,0)):=Nh hok;have HM:M6 (∀W,_):=fun W=>ub n d b W hok.2.1 hok.2.2
  clear hok;generalize b*d=m at *
  go_wp2_with fail
  refine(HM.out _).mono ?_;rintro r w2 ⟨rfl,hb2⟩;have hX2:=HX.out.below hb2;clear c0 c1 c2 c3 f3 hb2 HX HM;obtain⟨c3,f3,_⟩:=kv hX2.2.1;have HX:M6 (Bx _ _ _ _ _ _):=hX2;clear hX2;go_wp2;exact Np (v:=Nv #[eC m,MF ME 0]) (bp Tryz.results43 rfl rfl (aI (P:=MK) (cs:=[MF ME m]) (nM HX.out.2.1) OX rfl (by kernel_rfl))) rfl ⟨by rw[E.out],HX.out.2.2.setCell (by simp) _⟩
 ·rw[D1 hok]
  have E:M6 (kX n d b=(0,2)):=Nf hok;clear hok;go_wp2;exact Np (v:=Nv #[eC 0,MF ME 2]) (bp Tryz.results43 rfl rfl (aI (P:=MK) (cs:=[MF ME 0]) (nM HX.out.2.1) OX rfl (by kernel_rfl))) rfl ⟨by rw[E.out],HX.out.2.2.setCell (by simp) _⟩
def By(w W:MO)(n d b x y:Int):Prop :=
 Bx w W n d b x/\W.heap[w.heap.size+1+1]?=MI (MP #[MF ME y] 49 (0,0))
theorem sj(w:MO)(n d b x y:Int):By w (((w.alloc (MP #[MF ME n,MF ME d,MF ME b] 30)).alloc (MP #[MF ME x] 49)).alloc (MP #[MF ME y] 49)) n d b x y :=
 ⟨(oN w n d b x).below (ai _),lC _ _ _ _⟩
theorem By.below{W':MO}(h:By w W n d b x y)(hb:MQ W.heap.size W W'):By w W' n d b x y :=
 ⟨h.1.below hb,af h.2 hb⟩
theorem By.F4(h:By w W n d b x y)(z:Int):By w (W.setCell ⟨w.heap.size+1+1,0,MH⟩ (MF ME z)) n d b x z :=
 ⟨⟨(MU _ _ _ _ (by simp;omega)).trans h.1.1,(MU _ _ _ _ (by simp)).trans h.1.2.1,h.1.2.2.setCell (by simp;omega) _⟩,nM h.2⟩
theorem By.GY(h:By w W n d b x y):By w W.drew n d b x y:=h.below ((MY _ _).drew)
theorem By.res(h:By w W n d b x y){fn:Func}{i z:Tmp}(hr:fn.results=#[.cell i 49,.tmp z]){tmps:Array M7}{e:M7}(hx:tmps.getD i PL=Na (MI ⟨w.heap.size+1+1,0,MH⟩))(hz:tmps.getD z PL=e):
  (Pf fn tmps).run MK W=.ok (Nv #[eC y,e]) W :=
 bp hr hx hz (aI (P:=MK) (cs:=[MF ME y]) h.2 OX rfl (by kernel_rfl))
theorem wK(h:cJ n d b x=0):fI n d b x=(min (x+n) (b*d),0):=Nh h
theorem sg(e:Int)(h:cJ n d b x=e)(he:e≠0):fI n d b x=(0,e):=by unfold fI;rw[h,Nf he]
theorem BM(h:cJ n d b x=0)(h2:d<=x):dp n d b x=(x-d,0):=by unfold dp;rw[Nh h,Nf (by omega)]
theorem AP(h:cJ n d b x=0)(h2:x<d):dp n d b x=(0,11):=by unfold dp;rw[Nh h,Nh h2]
theorem rZ(e:Int)(h:cJ n d b x=e)(he:e≠0):dp n d b x=(0,e):=by unfold dp;rw[h,Nf he]
theorem Bx.GQ(h:Bx w W n d b x):W.cell? ⟨w.heap.size,0,MH⟩=MI (MF ME n)/\W.cell? ⟨w.heap.size,1,MH⟩=MI (MF ME d)/\W.cell? ⟨w.heap.size,2,MH⟩=MI (MF ME b)/\W.cell? ⟨w.heap.size+1,0,MH⟩=MI (MF ME x)/\Bx w W n d b x :=
 ⟨h.Gg.1,h.Gg.2.1,h.Gg.2.2.1,h.Gg.2.2.2,h⟩
theorem vI(n d b x:Int)(w:MO):Ni MK 171 #[jS n d b,eC x] w fun r w'=>r=MN (Nv #[eC (dp n d b x).1,MF ME (dp n d b x).2])/\MQ w.heap.size w w':=by
 obtain⟨W0,hW0⟩:∃W0,W0=((w.alloc (MP #[MF ME n,MF ME d,MF ME b] 30)).alloc (MP #[MF ME x] 49)).alloc (MP #[MF ME 0] 49):=⟨_,rfl⟩;have hX0:By w W0 n d b x 0:=by rw[hW0];exact sj _ _ _ _ _ _
 obtain⟨c0,c1,c2,c3⟩:=hX0.1.Gg;have H:M6 (_/\By _ _ _ _ _ _ _):=⟨hW0,hX0⟩;clear hW0 hX0;go_enter Tryz.func171,Tryz.ntmps171
 go_wp2_with fail
 rw[<-H.out.1];refine(sV n d b x _).mono ?_;rintro r w1 ⟨rfl,hb1⟩;have hX1:=H.out.2.below hb1;clear c0 c1 c2 c3 hb1 H;obtain⟨c0,c1,c2,c3⟩:=hX1.1.Gg;obtain⟨c4,f4,_⟩:=kv hX1.2;have HX:M6 (By _ _ _ _ _ _ _):=hX1;clear hX1;rcases tN n d b x with⟨hE,_⟩|⟨hE,_⟩|⟨hE,hok,hx0,hx1⟩
 ·have E:M6 (dp n d b x=(0,2)):=rZ 2 hE (by decide)
  rw[hE];clear hE;go_wp2;exact Np (v:=Nv #[eC 0,MF ME 2]) ((HX.out.F4 0).res Vx rfl rfl) rfl ⟨by rw[E.out],(HX.out.F4 0).1.2.2⟩
 ·have E:M6 (dp n d b x=(0,6)):=rZ 6 hE (by decide)
  rw[hE];clear hE;go_wp2;exact Np (v:=Nv #[eC 0,MF ME 6]) ((HX.out.F4 0).res Vx rfl rfl) rfl ⟨by rw[E.out],(HX.out.F4 0).1.2.2⟩
 ·have hx2:=mb hok.2.1 hok.2.2
  have hd:=hok.2.1;have hx3:x<=400:=by omega
  cases hc:Nn (x<d)
  ·have E:M6 (dp n d b x=(x-d,0)):=BM hE (by have:=Nc hc;omega)
   rw[hE];clear hE hok hx1 hx2;go_wp2;exact Np (v:=Nv #[eC (x-d),MF ME 0]) ((HX.out.F4 (x-d)).res Vx rfl rfl) rfl ⟨by rw[E.out],(HX.out.F4 (x-d)).1.2.2⟩
  ·have E:M6 (dp n d b x=(0,11)):=AP hE (M2 hc)
   rw[hE];clear hE hok hx1 hx2;go_wp2;exact Np (v:=Nv #[eC 0,MF ME 11]) ((HX.out.F4 0).res Vx rfl rfl) rfl ⟨by rw[E.out],(HX.out.F4 0).1.2.2⟩
theorem sG(n d b x:Int)(w:MO):Ni MK 114 #[jS n d b,eC x] w fun r w'=>r=MN (Nv #[eC (fI n d b x).1,MF ME (fI n d b x).2])/\MQ w.heap.size w w':=by
 obtain⟨W0,hW0⟩:∃W0,W0=((w.alloc (MP #[MF ME n,MF ME d,MF ME b] 30)).alloc (MP #[MF ME x] 49)).alloc (MP #[MF ME 0] 49):=⟨_,rfl⟩;have hX0:By w W0 n d b x 0:=by rw[hW0];exact sj _ _ _ _ _ _
 obtain⟨c0,c1,c2,c3⟩:=hX0.1.Gg;have H:M6 (_/\By _ _ _ _ _ _ _):=⟨hW0,hX0⟩;clear hW0 hX0;go_enter S7,SF
 go_wp2_with fail
 rw[<-H.out.1];refine(sV n d b x _).mono ?_;rintro r w1 ⟨rfl,hb1⟩;have hX1:=H.out.2.below hb1;clear c0 c1 c2 c3 hb1 H;obtain⟨c0,c1,c2,c3⟩:=hX1.1.Gg;obtain⟨c4,f4,_⟩:=kv hX1.2;have HX:M6 (By _ _ _ _ _ _ _):=hX1;clear hX1;rcases tN n d b x with⟨hE,_⟩|⟨hE,_⟩|⟨hE,hok,hx0,hx1⟩
 ·have E:M6 (fI n d b x=(0,2)):=sg 2 hE (by decide)
  rw[hE];clear hE;go_wp2;exact Np (v:=Nv #[eC 0,MF ME 2]) ((HX.out.F4 0).res Vy rfl rfl) rfl ⟨by rw[E.out],(HX.out.F4 0).1.2.2⟩
 ·have E:M6 (fI n d b x=(0,6)):=sg 6 hE (by decide)
  rw[hE];clear hE;go_wp2;exact Np (v:=Nv #[eC 0,MF ME 6]) ((HX.out.F4 0).res Vy rfl rfl) rfl ⟨by rw[E.out],(HX.out.F4 0).1.2.2⟩
 ·have hx2:=mb hok.2.1 hok.2.2
  have hn:=hok.1;have HM:M6 (∀W,_):=fun W=>ub n d b W hok.2.1 hok.2.2
  have E:M6 (fI n d b x=(min (x+n) (b*d),0)):=wK hE;rw[hE];clear hE hok;generalize b*d=m at *;have hx3:x<=400:=by omega
  have hwr:IntKind.i64.wrap (x+n)=x+n:=by rw[Ow];omega
  by_cases hm:m<x+n
  ·have hE:M6 (min (x+n) m=m):=(by omega:min (x+n) m=m)
   go_wp2_with fail
   go_region_held3 (fun W=>W.cell? ⟨w.heap.size,0,MH⟩=MI (MF ME n)/\W.cell? ⟨w.heap.size,1,MH⟩=MI (MF ME d)/\W.cell? ⟨w.heap.size,2,MH⟩=MI (MF ME b)/\W.cell? ⟨w.heap.size+1,0,MH⟩=MI (MF ME x)/\Bx w W n d b x) (first|exact(HX.out.GY).1.GQ|exact HX5.out.1.GQ|exact(HX5.out.F4 _).1.GQ) (first|(go_at_call 65;refine(HM.out _).mono ?_;rintro r w5 ⟨rfl,hb5⟩;have HX5:M6 (By w w5 n d b x 0):=HX.out.below (dt hb5);clear hb5;have c5:=aM HX5.out.2;have f5:=(kv HX5.out.2).2.1))
   all_goals
    go_wp2;exact Np (v:=Nv #[eC m,MF ME 0]) ((HX5.out.F4 m).res Vy rfl rfl) rfl ⟨by rw[E.out,hE.out],(HX5.out.F4 _).1.2.2⟩
  ·have hE:M6 (min (x+n) m=x+n):=(by omega:min (x+n) m=x+n)
   go_wp2_with fail
   go_region_held3 (fun W=>W.cell? ⟨w.heap.size,0,MH⟩=MI (MF ME n)/\W.cell? ⟨w.heap.size,1,MH⟩=MI (MF ME d)/\W.cell? ⟨w.heap.size,2,MH⟩=MI (MF ME b)/\W.cell? ⟨w.heap.size+1,0,MH⟩=MI (MF ME x)/\Bx w W n d b x) (first|exact(HX.out.GY).1.GQ|exact HX5.out.1.GQ|exact(HX5.out.F4 _).1.GQ) (first|(go_at_call 65;refine(HM.out _).mono ?_;rintro r w5 ⟨rfl,hb5⟩;have HX5:M6 (By w w5 n d b x 0):=HX.out.below (dt hb5);clear hb5;have c5:=aM HX5.out.2;have f5:=(kv HX5.out.2).2.1))
   all_goals
    go_wp2;exact Np (v:=Nv #[eC (x+n),MF ME 0]) ((HX5.out.F4 (x+n)).res Vy rfl rfl) rfl ⟨by rw[E.out,hE.out],(HX5.out.F4 _).1.2.2⟩
end
end Go.Proofs.YtlnbhjdhcmgljaaGreatDoor.Q
