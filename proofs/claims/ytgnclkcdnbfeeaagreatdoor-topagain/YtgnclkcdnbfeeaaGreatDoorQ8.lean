/-
  Contracts of the layers and of core, part 8. Conditions: as each theorem says.
-/
import Derived.Deep.Upon
import Derived.BigQuiet
import Derived.Lib.AppendZerosOnto
import Derived.Shelf.SlSortCmp.QuietGrown
import Derived.Deep.CutRange
import Derived.Test.YtgnclkcdnbfeeaaGreatDoorQ0
open Bool renaming false->Nb,true->Nw
open Decidable renaming decide->Nn
open Go renaming Addr->Oc,Calls->Ni,TypeId->NU,Value->M7,World->MO,bodyPost_ret->Np,cell_grown->Ob,grownCap->QR,heap_alloc_new->M1,heap_setCell_same->NI,info_parts->OF,maxLen->NE,results->Pf,undef->PL,wpQuiet_nil->Oy,wp_region_quiet_grown->NQ
open Go.Builtin renaming append_->N2,zeroCells->N5
open Go.Calls renaming grown_of->NZ,mono->Nd
open Go.Ending renaming returned->MN
open Go.IntKind renaming i64->ME
open Go.Obj renaming cells->MP
open Go.Proofs.Tryz renaming func182->ayY,func200->SU,func224->Uk,func225->ayV,func226->azt,func227->RX,func248->VO,func52->azy,func64->Wa,ntmps182->ayN,ntmps200->Sx,ntmps224->Ua,ntmps225->ayK,ntmps226->azn,ntmps227->RK,ntmps248->VG,ntmps52->azs,ntmps64->VN,prog->MK,results107->azc,results182->Uq,results226->azg,underlying195->ay4,underlying3->Ol,underlying75->ax0
open Go.RowKit renaming Below->MQ,Hid->M6,intOf->On
open Go.RowKit.Below renaming heap_setCell->MU,refl->MY
open Go.Sort renaming grow->Oj
open Go.Value renaming agg->Ny,bool->M3,int->MF,ownBlock->QQ,pointer->Na,slice->MG,tuple->Nv
open Go.World renaming block_lt_of_cell?->MX,cell?->Nl,frozen?->Ng,ownsRow_nil->NY
open Int renaming eq_ofNat_of_zero_le->NL,mul_le_mul->Px,toNat_natCast->NR
open List renaming append_nil->OG,countP_append->Qi,length_append->Ns,length_drop->NJ,length_take->NH,nil_append->Oz,take_length->NT,take_succ_eq_append_getElem->M9
open Nat renaming le_refl->MV,le_trans->Nm,zero_add->Oa,zero_le->Nx
open Option renaming none->MH,some->MI
open Or renaming inl->Nt,inr->NF
namespace Go.Proofs.YtgnclkcdnbfeeaaGreatDoor.Q
set_option linter.unusedVariables false
set_option linter.unusedSimpArgs false
set_option maxHeartbeats 16000000
set_option maxRecDepth 100000
open Go.RowKit
attribute [local go_sem ↓] Go.wp_at_zero Go.wp_at_succ
variable {o:Bool}{d f n t u:Int}{l:List Bool}{xs:List M7}{a b c v:M7}{W w w':MO}{T:NU}{base g k:Nat}
def Yi(l:List Bool):List Value:=l.map fun x=>M3 x
theorem age(l:List Bool):(Yi l).length=l.length:=by simp[Yi]
theorem arz(l:List Bool)(i:Nat)(h:i<l.length):(Yi l)[i]?=MI (M3 l[i]):=by simp[Yi,h]
def Yo(w:MO)(v:M7)(l:List Bool):Prop:=XB w v l.length (Yi l)
theorem Yo.below(h:Yo w v l)(hb:MQ w.heap.size w w'):Yo w' v l:=XB.below h hb
theorem Yo.F6(h:Yo w v l):
  ∃a cap,v=MG a l.length cap/\l.length<=cap/\cap<=NE/\∀i (hi:i<l.length),∃b off,a=MI ⟨b,off,MH⟩/\b<w.heap.size/\w.cell? ⟨b,off+i,MH⟩=MI (M3 l[i]):=by
 obtain⟨a,cap,p,j,e,m|⟨b,off,m,r,q⟩⟩:=h
 ·exact⟨a,cap,p,j,e,fun i hi=>absurd hi (by omega)⟩
 ·exact⟨a,cap,p,j,e,fun i hi=>⟨b,off,m,r,by rw[q i (by rw[age];omega)];exact arz l i hi⟩⟩
theorem ary(a b:List Bool):Yi (a++b)=Yi a++Yi b:=by simp[Yi]
theorem arA(l:List Bool):∀u∈Yi l,u.oneCell'=true:=by
 intro u e;obtain⟨x,_,rfl⟩:=List.mem_map.1 e;rfl
theorem alI:(Tryz.prog.info? 4).map (fun i=>(i.zero,i.size,i.bytes))=MI (MI (M3 Nb),1,1):=by kernel_rfl
theorem acQ(h:w.ownsRow base 4 1 v l.length (Yi l)):Yo w v l:=Yr h
theorem ah2(w:MO):Yo w (MG MH 0 0) []:=Z3 w
theorem Yo.Ga(h:Yo w v l):∃p c,v=MG p l.length c:=by
 obtain⟨p,c,rfl,_⟩:=h;exact⟨p,c,rfl⟩
abbrev ZT(n f d:Int):Prop:=(1<=n/\n<=16)/\(1<=f/\f<=n)/\(1<=d/\d<=500)
def abz(n f d:Int):Int:=if ZT n f d then 0 else 2
abbrev ZO(n:Int)(k:Nat)(o:Bool)(u t:Int):Prop:=(k:Int)<=n/\(0<=t/\t<=10)/\(0<=u/\u<=1099511628276)/\(o=Nw\/u=0)
def YR(n f d:Int)(k:Nat)(o:Bool)(u t now:Int):Int :=
 if ZT n f d then(if 0<=now/\now<=1099511627776 then(if ZO n k o u t then 0 else 6)else 2)else 2
theorem arL(h:ZT n f d):abz n f d=0:=Nh h
theorem arK(h:¬ZT n f d):abz n f d=2:=Nf h
theorem alA(n f d:Int)(k:Nat)(o:Bool)(u t now:Int):(YR n f d k o u t now=2/\(¬ZT n f d\/¬(0<=now/\now<=1099511627776)))\/(YR n f d k o u t now=6/\ZT n f d/\(0<=now/\now<=1099511627776)/\¬ZO n k o u t)\/(YR n f d k o u t now=0/\ZT n f d/\(0<=now/\now<=1099511627776)/\ZO n k o u t):=by
 unfold YR
 by_cases h:ZT n f d
 ·rw[Nh h]
  by_cases h2:0<=now/\now<=1099511627776
  ·rw[Nh h2]
   by_cases h3:ZO n k o u t
   ·rw[Nh h3];exact NF (NF ⟨rfl,h,h2,h3⟩)
   ·rw[Nf h3];exact NF (Nt ⟨rfl,h,h2,h3⟩)
  ·rw[Nf h2];exact Nt ⟨rfl,NF h2⟩
 ·rw[Nf h];exact Nt ⟨rfl,Nt h⟩
abbrev Y5(v:M7)(o:Bool)(u t:Int):Value:=Ny #[v,M3 o,MF ME u,MF ME t]
theorem YB(n lo hi:Int)(w:MO):Ni MK 64 #[MF ME n,MF ME lo,MF ME hi] w fun r w'=>r=MN (M3 (Nn (lo<=n/\n<=hi)))/\w'=w:=by
 obtain⟨i,e⟩:∃i,i=Nn (lo<=n/\n<=hi):=⟨_,rfl⟩;rw[<-e];have H:M6 _:=e;clear e;cases h1:Nn (lo<=n)
 ·go_enter Wa,VN
  go_wp2;go_ret;exact⟨by rw[H.out,M0 (fun h=>Nc h1 h.1)];rfl,rfl⟩
 ·cases h2:Nn (n<=hi)
  ·go_enter Wa,VN
   go_wp2;go_ret;exact⟨by rw[H.out,M0 (fun h=>Nc h2 h.2)];rfl,rfl⟩
  ·go_enter Wa,VN
   go_wp2;go_ret;exact⟨by rw[H.out,Nq ⟨M2 h1,M2 h2⟩];rfl,rfl⟩
theorem ah3(n f d:Int)(w:MO):Ni MK 52 #[acS n f d] w fun r w'=>r=MN (MF ME (abz n f d))/\MQ w.heap.size w w':=by
 obtain⟨j,i⟩:∃j,j=w.alloc (MP #[MF ME n,MF ME f,MF ME d] 33):=⟨_,rfl⟩;have m:j.heap[w.heap.size]?=MI (MP #[MF ME n,MF ME f,MF ME d] 33 (0,0)):=by rw[i];exact M1 _ _
 have p:MQ w.heap.size w j:=by rw[i];exact WQ _
 obtain⟨c0,c1,c2,_⟩:=aeD m;have H:M6 (_/\_):=⟨i,p⟩;clear i p m;cases h1:Nn (1<=n/\n<=16)
 ·have E:M6 (abz n f d=2):=Nf fun h=>Nc h1 h.1
  go_enter azy,azs
  go_wp2_with fail
  rw[<-H.out.1];refine(YB _ _ _ _).mono ?_;rintro e w' ⟨rfl,rfl⟩;rw[h1];go_wp2;go_ret;exact⟨by rw[E.out];rfl,H.out.2⟩
 cases h2:Nn (1<=f/\f<=n)
 ·have E:M6 (abz n f d=2):=Nf fun h=>Nc h2 h.2.1
  go_enter azy,azs
  go_wp2_with fail
  rw[<-H.out.1];refine(YB _ _ _ _).mono ?_;rintro e w' ⟨rfl,rfl⟩;rw[h1]
  go_wp2_with fail
  refine(YB _ _ _ _).mono ?_;rintro e w' ⟨rfl,rfl⟩;rw[h2];go_wp2;go_ret;exact⟨by rw[E.out];rfl,H.out.2⟩
 cases h3:Nn (1<=d/\d<=500)
 ·have E:M6 (abz n f d=2):=Nf fun h=>Nc h3 h.2.2
  go_enter azy,azs
  go_wp2_with fail
  rw[<-H.out.1];refine(YB _ _ _ _).mono ?_;rintro e w' ⟨rfl,rfl⟩;rw[h1]
  go_wp2_with fail
  refine(YB _ _ _ _).mono ?_;rintro e w' ⟨rfl,rfl⟩;rw[h2]
  go_wp2_with fail
  refine(YB _ _ _ _).mono ?_;rintro e w' ⟨rfl,rfl⟩;rw[h3];go_wp2;go_ret;exact⟨by rw[E.out];rfl,H.out.2⟩
 ·have E:M6 (abz n f d=0):=Nh ⟨M2 h1,M2 h2,M2 h3⟩
  go_enter azy,azs
  go_wp2_with fail
  rw[<-H.out.1];refine(YB _ _ _ _).mono ?_;rintro e w' ⟨rfl,rfl⟩;rw[h1]
  go_wp2_with fail
  refine(YB _ _ _ _).mono ?_;rintro e w' ⟨rfl,rfl⟩;rw[h2]
  go_wp2_with fail
  refine(YB _ _ _ _).mono ?_;rintro e w' ⟨rfl,rfl⟩;rw[h3];go_wp2;go_ret;exact⟨by rw[E.out];rfl,H.out.2⟩
theorem alF{d:M7}(h:w.heap[g]?=MI (MP #[a,b,c,d] T (0,0))):w.cell? ⟨g,0,MH⟩=MI a/\w.cell? ⟨g,1,MH⟩=MI b/\w.cell? ⟨g,2,MH⟩=MI c/\w.cell? ⟨g,3,MH⟩=MI d/\g<w.heap.size :=
 ⟨by simp[Nl,h],by simp[Nl,h],by simp[Nl,h],by simp[Nl,h],(Array.getElem?_eq_some_iff.1 h).1⟩
theorem alG{d:M7}(h:w.heap[g]?=MI (MP #[a,b,c,d] T (0,0))):w.frozen? ⟨g,0,MH⟩=Nb/\w.frozen? ⟨g,1,MH⟩=Nb/\w.frozen? ⟨g,2,MH⟩=Nb/\w.frozen? ⟨g,3,MH⟩=false :=
 ⟨by simp[Ng,h],by simp[Ng,h],by simp[Ng,h],by simp[Ng,h]⟩
def Hx(w W:MO)(n f d:Int)(v:M7)(o:Bool)(u t:Int):Prop :=
 W.heap[w.heap.size]?=MI (MP #[MF ME n,MF ME f,MF ME d] 33 (0,0))/\W.heap[w.heap.size+1]?=MI (MP #[v,M3 o,MF ME u,MF ME t] 195 (0,0))/\MQ w.heap.size w W
theorem ah4(w:MO)(n f d:Int)(v:M7)(o:Bool)(u t:Int):Hx w ((w.alloc (MP #[MF ME n,MF ME f,MF ME d] 33)).alloc (MP #[v,M3 o,MF ME u,MF ME t] 195)) n f d v o u t :=
 ⟨Xy _ _ (M1 _ _),Yu _ _ _,((MY _ _).alloc (MV _) _).alloc (by simp) _⟩
theorem Hx.below{W':MO}(h:Hx w W n f d v o u t)(hb:MQ W.heap.size W W'):Hx w W' n f d v o u t :=
 ⟨WO h.1 hb,WO h.2.1 hb,h.2.2.trans (hb.mono h.2.2.size)⟩
theorem Hx.Gg(h:Hx w W n f d v o u t):W.cell? ⟨w.heap.size,0,MH⟩=MI (MF ME n)/\W.cell? ⟨w.heap.size,1,MH⟩=MI (MF ME f)/\W.cell? ⟨w.heap.size,2,MH⟩=MI (MF ME d)/\W.cell? ⟨w.heap.size+1,0,MH⟩=MI v/\W.cell? ⟨w.heap.size+1,1,MH⟩=MI (M3 o)/\W.cell? ⟨w.heap.size+1,2,MH⟩=MI (MF ME u)/\W.cell? ⟨w.heap.size+1,3,MH⟩=MI (MF ME t):=by
 obtain⟨c0,c1,c2,_⟩:=aeD h.1;obtain⟨c3,c4,c5,c6,_⟩:=alF h.2.1;exact⟨c0,c1,c2,c3,c4,c5,c6⟩
theorem alK(n f d:Int)(p:Option Oc)(k c:Nat)(o:Bool)(u t:Int)(w:MO)(hn:n<=16):Ni MK 200 #[acS n f d,Y5 (MG p k c) o u t] w fun r w'=>r=MN (M3 (Nn (ZO n k o u t)))/\MQ w.heap.size w w':=by
 obtain⟨i,j⟩:∃i,i=(w.alloc (MP #[MF ME n,MF ME f,MF ME d] 33)).alloc (MP #[MG p k c,M3 o,MF ME u,MF ME t] 195):=⟨_,rfl⟩;have m:Hx w i n f d (MG p k c) o u t:=by rw[j];exact ah4 _ _ _ _ _ _ _ _
 obtain⟨c0,c1,c2,c3,c4,c5,c6⟩:=m.Gg;have H:M6 (_/\MQ w.heap.size w i):=⟨j,m.2.2⟩;clear j m;cases h1:Nn ((k:Int)<=n)
 ·have E:M6 (Nn (ZO n k o u t)=Nb):=M0 fun h=>Nc h1 h.1
  go_enter SU,Sx
  go_wp2_with fail
  rw[<-H.out.1];go_wp2;go_ret;exact⟨by rw[E.out];rfl,H.out.2⟩
 cases h2:Nn (0<=t/\t<=10)
 ·have E:M6 (Nn (ZO n k o u t)=Nb):=M0 fun h=>Nc h2 h.2.1
  go_enter SU,Sx
  go_wp2_with fail
  rw[<-H.out.1];refine(YB _ _ _ _).mono ?_;rintro e w' ⟨rfl,rfl⟩;rw[h2];go_wp2;go_ret;exact⟨by rw[E.out];rfl,H.out.2⟩
 cases h3:Nn (0<=u/\u<=1099511628276)
 ·have E:M6 (Nn (ZO n k o u t)=Nb):=M0 fun h=>Nc h3 h.2.2.1
  go_enter SU,Sx
  go_wp2_with fail
  rw[<-H.out.1];refine(YB _ _ _ _).mono ?_;rintro e w' ⟨rfl,rfl⟩;rw[h2]
  go_wp2_with fail
  refine(YB _ _ _ _).mono ?_;rintro e w' ⟨rfl,rfl⟩;rw[h3];go_wp2;go_ret;exact⟨by rw[E.out];rfl,H.out.2⟩
 cases o
 ·have E:M6 (Nn (ZO n k Nb u t)=(u == 0)):=Bool.eq_iff_iff.2 ⟨fun h=>by simpa using(M2 h).2.2.2.resolve_left (by decide),fun h=>Nq ⟨M2 h1,M2 h2,M2 h3,NF (by simpa using h)⟩⟩
  go_enter SU,Sx
  go_wp2_with fail
  rw[<-H.out.1];refine(YB _ _ _ _).mono ?_;rintro e w' ⟨rfl,rfl⟩;rw[h2]
  go_wp2_with fail
  refine(YB _ _ _ _).mono ?_;rintro e w' ⟨rfl,rfl⟩;rw[h3];go_wp2;go_ret;exact⟨by rw[E.out];rfl,H.out.2⟩
 ·have E:M6 (Nn (ZO n k Nw u t)=Nw):=Nq ⟨M2 h1,M2 h2,M2 h3,Nt rfl⟩
  go_enter SU,Sx
  go_wp2_with fail
  rw[<-H.out.1];refine(YB _ _ _ _).mono ?_;rintro e w' ⟨rfl,rfl⟩;rw[h2]
  go_wp2_with fail
  refine(YB _ _ _ _).mono ?_;rintro e w' ⟨rfl,rfl⟩;rw[h3];go_wp2;go_ret;exact⟨by rw[E.out];rfl,H.out.2⟩
theorem alC(n f d:Int)(p:Option Oc)(k c:Nat)(o:Bool)(u t now:Int)(w:MO):Ni MK 153 #[acS n f d,Y5 (MG p k c) o u t,MF ME now] w fun r w'=>r=MN (MF ME (YR n f d k o u t now))/\MQ w.heap.size w w':=by
 obtain⟨x,m⟩:∃x,x=(w.alloc (MP #[MF ME n,MF ME f,MF ME d] 33)).alloc (MP #[MG p k c,M3 o,MF ME u,MF ME t] 195):=⟨_,rfl⟩;have q:Hx w x n f d (MG p k c) o u t:=by rw[m];exact ah4 _ _ _ _ _ _ _ _
 obtain⟨c0,c1,c2,c3,c4,c5,c6⟩:=q.Gg;have H:M6 (_/\Hx _ _ _ _ _ _ _ _ _):=⟨m,q⟩;clear m q;go_enter Tryz.func153,Tryz.ntmps153
 go_wp2_with fail
 rw[<-H.out.1];refine(ah3 n f d _).mono ?_;rintro r D ⟨rfl,A⟩;have s:=H.out.2.below A;clear c0 c1 c2 c3 c4 c5 c6 A H;obtain⟨c0,c1,c2,c3,c4,c5,c6⟩:=s.Gg;have i:M6 (Hx _ _ _ _ _ _ _ _ _):=s;clear s
 by_cases hok:ZT n f d
 ·rw[arL hok]
  have B:=hok.1.2;cases h2:Nn (0<=now/\now<=1099511627776)
  ·have E:M6 (YR n f d k o u t now=2):=(by unfold YR;rw[Nh hok,Nf (Nc h2)]:YR n f d k o u t now=2)
   clear hok
   go_wp2_with fail
   refine(YB _ _ _ _).mono ?_;rintro e w' ⟨rfl,rfl⟩;rw[h2];go_wp2;go_ret;exact⟨by rw[E.out];rfl,i.out.2.2⟩
  cases h3:Nn (ZO n k o u t)
  ·have E:M6 (YR n f d k o u t now=6):=(by unfold YR;rw[Nh hok,Nh (M2 h2),Nf (Nc h3)]:YR n f d k o u t now=6)
   have y:M6 _:=h3;clear hok h3
   go_wp2_with fail
   refine(YB _ _ _ _).mono ?_;rintro e w' ⟨rfl,rfl⟩;rw[h2]
   go_wp2_with fail
   refine(alK n f d p k c o u t _ B).mono ?_;rintro r C ⟨rfl,j⟩;rw[y.out];have z:M6 _:=i.out.2.2.trans (j.mono i.out.2.2.size);clear j c0 c1 c2 c3 c4 c5 c6;go_wp2;go_ret;exact⟨by rw[E.out];rfl,z.out⟩
  ·have E:M6 (YR n f d k o u t now=0):=(by unfold YR;rw[Nh hok,Nh (M2 h2),Nh (M2 h3)]:YR n f d k o u t now=0)
   have y:M6 _:=h3;clear hok h3
   go_wp2_with fail
   refine(YB _ _ _ _).mono ?_;rintro e w' ⟨rfl,rfl⟩;rw[h2]
   go_wp2_with fail
   refine(alK n f d p k c o u t _ B).mono ?_;rintro r C ⟨rfl,j⟩;rw[y.out];have z:M6 _:=i.out.2.2.trans (j.mono i.out.2.2.size);clear j c0 c1 c2 c3 c4 c5 c6;go_wp2;go_ret;exact⟨by rw[E.out];rfl,z.out⟩
 ·rw[arK hok]
  have E:M6 (YR n f d k o u t now=2):=Nf hok;clear hok;go_wp2;go_ret;exact⟨by rw[E.out];rfl,i.out.2.2⟩
theorem ah1{p:Option Oc}{c:Nat}{m:List Bool}(ho:w.ownsRow base 4 1 (MG p k c) k (Yi m))(hb:base<=w.heap.size)(hk:k<=1000)(ty:NU)(u:M7)(hu:Yo w u l)(hl:l.length<=1000):
  ∃p' c' w',(N2 #[75,75] ty #[MG p k c,u]).run MK w=.ok (MG p' (k+l.length) c') w' /\
   w'.ownsRow base 4 1 (MG p' (k+l.length) c') (k+l.length) (Yi (m++l))/\MQ base w w':=by
 obtain⟨y,z,B,C,D⟩:=OF alI;obtain⟨a,q,rfl,M,L,h⟩:=hu
 by_cases h0:l.length=0
 ·obtain rfl:l=[]:=List.length_eq_zero_iff.1 h0
  rw[OG];have s:k<=c/\c<=maxLen:=by
   rcases ho.2 with⟨r,N⟩|⟨g,q,K,r,_,_,E,G,_⟩
   ·cases r;exact⟨MV _,by unfold NE;omega⟩
   ·cases r;exact⟨E,G⟩
  exact⟨p,c,w,aeY w _ ty _ y ax0 z p k c s.1 s.2 a q,ho,MY _ _⟩
 ·rcases h with⟨h,_⟩|⟨b,off,rfl,J,A⟩
  ·exact absurd h h0
  ·obtain⟨v',w',I,i,F,_⟩:=run_append_own (P:=MK) w base 75 ty 4 y _ 1 1 ax0 z B C D rfl (by decide) (MG p k c) k (Yi m) ho ⟨b,off,MH⟩ l.length q (Yi l) (by rw[age];omega) (fun j x hx=>by
    have H:=(List.getElem?_eq_some_iff.1 hx).1;rw[aas,A j H,hx]) (arA l) (by unfold NE;omega) (by omega) hb
   rw[<-ary]at i;obtain⟨p',c',rfl⟩:=Y6 i;exact⟨p',c',w',I,i,(MY _ _).grown F hb (fun j e=>(ho.lt j e).1)⟩
theorem alD(v:M7)(l:List Bool)(w:MO)(hv:Yo w v l)(hl:l.length<=1000) :
  Ni MK 77 #[v] w fun r w'=>∃p c,r=MN (MG p l.length c)/\w'.ownsRow w.heap.size 4 1 (MG p l.length c) l.length (Yi l)/\MQ w.heap.size w w':=by
 obtain⟨p,c,rfl⟩:=hv.Ga;cases p with
 |none =>
  obtain rfl:l=[]:=by
   obtain⟨a,B,x,_,_,h|⟨b,off,rfl,_⟩⟩:=hv
   ·exact List.length_eq_zero_iff.1 h.1
   ·cases x
  clear hv;have s:∀W,(binOp .eql 75 (MG MH 0 c) (MG MH 0 0)).run MK W=.ok (M3 Nw) W:=fun W=>by kernel_rfl
  go_enter Tryz.func77,Tryz.ntmps77;go_wp2;go_ret;exact⟨MH,0,rfl,NY _ _ _ _,MY _ _⟩
 |some q =>
  have s:∀W,(binOp .eql 75 (MG (MI q) l.length c) (MG MH 0 0)).run MK W=.ok (M3 Nb) W:=fun W=>by kernel_rfl
  have j:(w.alloc (MP #[] 4)).ownsRow w.heap.size 4 1 (MG (MI ⟨w.heap.size,0,MH⟩) 0 0) 0 (Yi []):=
   ⟨rfl,NF ⟨w.heap.size,0,#[],rfl,MV _,M1 _ _,MV _,Nx _,rfl,rfl⟩⟩
  obtain⟨y,A,z,hr,i,m⟩:=ah1 j (by simp) (by omega) 75 _ (hv.below (WQ w)) hl;rw[Oa,Oz]at i;rw[Oa]at hr;have e:M6 (_/\_/\_):=⟨hr,(WQ w).trans m,i⟩;clear hr m i hv j;go_enter Tryz.func77,Tryz.ntmps77
  go_wp2_with (at_builtin;(with_reducible refine Z4 rfl _ _ 75 rfl (MG (MI ⟨w.heap.size,0,MH⟩) 0 0) (MG (MI q) l.length c) (MG y l.length A) z ?hs ?hx ?hr ?_);(case hs=>rfl);(case hx=>rfl);(case hr=>exact e.out.1))
  go_wp2;go_ret;exact⟨_,_,rfl,e.out.2.2,e.out.2.1⟩
theorem arG(n:Nat)(w:MO)(h0:0<n)(hn:n<=1000) :
  Ni MK 256 #[MG MH 0 0,MF ME n] w fun r w'=>∃g c,r=MN (MG (MI ⟨g,0,MH⟩) 0 c)/\w'.ownsRow w.heap.size 4 1 (MG (MI ⟨g,0,MH⟩) 0 c) 0 (Yi [])/\MQ w.heap.size w w':=by
 obtain⟨B,C,y,D,m⟩:=OF alI;have p:∀ty,(N2 #[75,3] ty #[MG MH 0 0,MF ME n]).run MK w=.ok (MG (MI ⟨w.heap.size,0,MH⟩) n (QR w n 0 4)) (w.drew.alloc (MP (([]:List M7).toArray++N5 (M3 Nb).cells n++N5 (M3 Nb).cells (QR w n 0 4-n)) 4)):=fun ty=>by
  have h:=Lib.run_append_grow_zeros (P:=MK) w 75 3 ty 4 B (M3 Nb) ME ME ax0 Ol C y MH 0 0 [] (run_firstCells_none w.drew B.size 0 0 0) n h0 (by omega) (by omega) (by omega) (by rw[m];omega) (growslice_fits (by omega) (by rw[m];omega))
  simpa using h
 have E:=grownCap_ge w n 0 4;have j:=grownCap_le_maxLen w n 0 4 (by unfold NE;omega);obtain⟨G,x⟩:∃G,G=QR w n 0 4:=⟨_,rfl⟩;rw[<-x]at p E j;obtain⟨e,i⟩:∃e,e=([]:List M7).toArray++N5 (M3 Nb).cells n++N5 (M3 Nb).cells (G-n):=⟨_,rfl⟩;have z:e.size=G*1:=by rw[i];simp[size_zeroCells,Value.cells];omega
 rw[<-i]at p;have q:(w.drew.alloc (MP e 4)).ownsRow w.heap.size 4 1 (MG (MI ⟨w.heap.size,0,MH⟩) 0 G) 0 (Yi []):=
  ⟨rfl,NF ⟨w.heap.size,G,e,rfl,MV _,M1 w.drew _,Nx _,j,z,by simp[Yi]⟩⟩
 have s:MQ w.heap.size w (w.drew.alloc (MP e 4)):=((MY _ _).drew).alloc (MV _) _;have A:M6 (_/\_):=⟨q,s⟩;have F:¬((n:Int)<0):=by omega
 have H:(0:Int)<(n:Int):=by omega
 unfold NE at j;clear q s z i x C y D m;go_enter Tryz.func256,Tryz.ntmps256
 go_wp2_with (at_builtin;refine Lib.wpList_append_run _ rfl _ _ _ _ rfl _ _ rfl rfl _ _ (p _) ?_)
 all_goals (go_ret;exact⟨_,_,rfl,A.out.1,A.out.2⟩)
theorem arD(p:Option Oc)(c:Nat)(l:List Bool)(x:Bool)(g g2:Nat)(w:MO)(hv:Yo w (MG p l.length c) l)(hl:l.length<=16)
  (hg:w.heap[g]?=MI (MP #[MG p l.length c,MG (MI ⟨g2,0,MH⟩) 1 1] 75 (0,0))) (hx:Yo w (MG (MI ⟨g2,0,MH⟩) 1 1) [x]) :
  Ni MK 248 #[MG (MI ⟨g,0,MH⟩) 2 2] w fun r w'=>∃p' c',r=MN (MG p' (l.length+1) c')/\w'.ownsRow w.heap.size 4 1 (MG p' (l.length+1) c') (l.length+1) (Yi (l++[x]))/\MQ w.heap.size w w':=by
 obtain⟨a,O,N,L,M,_⟩:=hv.F6;cases N;unfold NE at M;obtain⟨c0,c1,_⟩:=Xa hg;have B:M6 (_/\_/\_):=⟨hv,hx,hg⟩;clear hv hx hg;obtain⟨k,G⟩:∃k,k=l.length:=⟨_,rfl⟩;have F:M6 _:=G;rw[<-G]at c0 L hl⊢;clear G;go_enter VO,VG;go_wp2
 go_loopw [3,11] (fun s i wr=>w=wr/\((i=MF ME 0/\s=MF ME 0)\/(i=MF ME 1/\s=MF ME k)\/(i=MF ME 2/\s=MF ME ((k:Int)+1)))) (fun _ i _=>2-(On i).toNat)
 case atStart=>exact⟨rfl,Nt ⟨rfl,rfl⟩⟩
 case round =>
  obtain⟨rfl,⟨rfl,rfl⟩|⟨rfl,rfl⟩|⟨rfl,rfl⟩⟩:=hrel
  ·go_wp2
   go_roundw
   case rel=>exact⟨trivial,NF (Nt ⟨rfl,rfl⟩)⟩
   case measure=>simp[On]
  ·go_wp2
   go_roundw
   case rel=>exact⟨trivial,NF (NF ⟨rfl,rfl⟩)⟩
   case measure=>simp[On]
  ·have K:∀W:MO,Ni MK 256 #[MG MH 0 0,MF ME ((k:Int)+1)] W fun r w'=>∃g c,r=MN (MG (MI ⟨g,0,MH⟩) 0 c)/\w'.ownsRow W.heap.size 4 1 (MG (MI ⟨g,0,MH⟩) 0 c) 0 (Yi [])/\MQ W.heap.size W w':=fun W=>by
    have:=arG (k+1) W (by omega) (by omega);rwa[Int.natCast_add]at this
   have J:M6 _:=K;clear K
   go_wp2_with fail
   refine(J.out _).mono ?_;rintro r P ⟨Q,c',rfl,j,H⟩;have I:M6 (_/\_):=⟨j,H⟩;clear j H c0 c1 J;go_wp2
   go_loopw [6,27] (fun s i wr=>∃q d,MQ w.heap.size w wr/\((i=MF ME 0/\s=MG q 0 d/\wr.ownsRow w.heap.size 4 1 (MG q 0 d) 0 (Yi []))\/(i=MF ME 1/\s=MG q k d/\wr.ownsRow w.heap.size 4 1 (MG q k d) k (Yi l))\/(i=MF ME 2/\s=MG q (k+1) d/\wr.ownsRow w.heap.size 4 1 (MG q (k+1) d) (k+1) (Yi (l++[x]))))) (fun _ i _=>2-(On i).toNat)
   case atStart=>exact⟨_,_,I.out.2,Nt ⟨rfl,rfl,I.out.1⟩⟩
   case round =>
    obtain⟨q,d,e,⟨rfl,rfl,j⟩|⟨rfl,rfl,j⟩|⟨rfl,rfl,j⟩⟩:=hrel
    ·have A:=WO B.out.2.2 e
     obtain⟨c0,c1,_⟩:=Xa A;obtain⟨D,E,C,hr,y,z⟩:=ah1 j e.size (by omega) 75 _ (B.out.1.below e) (by rw[<-F.out];omega);rw[Oa,Oz,<-F.out]at y;rw[Oa]at hr;rw[<-F.out]at hr c0;have m:M6 (_/\_/\_):=⟨hr,y,e.trans z⟩;clear hr y z e j A
     go_wp2_with (at_builtin;(with_reducible refine Z4 rfl _ _ 75 rfl (MG q 0 d) (MG p k c) (MG D k E) C ?hs ?hx ?hr ?_);(case hs=>rfl);(case hx=>rfl);(case hr=>exact m.out.1))
     go_wp2
     go_roundw
     case rel=>exact⟨_,_,m.out.2.2,NF (Nt ⟨rfl,rfl,m.out.2.1⟩)⟩
     case measure=>simp[On]
    ·have A:=WO B.out.2.2 e
     obtain⟨c0,c1,_⟩:=Xa A;obtain⟨D,E,C,hr,y,z⟩:=ah1 j e.size (by omega) 75 _ (B.out.2.1.below e) (by simp);have m:M6 (_/\_/\_):=⟨hr,y,e.trans z⟩;clear hr y z e j A
     go_wp2_with (at_builtin;(with_reducible refine Z4 rfl _ _ 75 rfl (MG q k d) (MG (MI ⟨g2,0,MH⟩) 1 1) (MG D (k+1) E) C ?hs ?hx ?hr ?_);(case hs=>rfl);(case hx=>rfl);(case hr=>exact m.out.1))
     go_wp2
     go_roundw
     case rel=>exact⟨_,_,m.out.2.2,NF (NF ⟨rfl,rfl,m.out.2.1⟩)⟩
     case measure=>simp[On]
    ·have m:M6 (_/\_):=⟨j,e⟩
     clear j e;go_wp2;go_ret;exact⟨_,_,rfl,m.out.1,m.out.2⟩
def Zj(n:Int)(l:List Bool)(x:Bool):List Bool:=(if(l.length:Int)<n then l else l.drop 1)++[x]
theorem alJ(x:Bool)(h:(l.length:Int)<=n)(h1:1<=n):((Zj n l x).length:Int)=min ((l.length:Int)+1) n:=by
 unfold Zj
 split
 ·simp;omega
 ·simp;omega
def aae(l:List Bool):Nat:=l.countP id
theorem alE(l:List Bool):aae l<=l.length:=List.countP_le_length
theorem arC(l:List Bool)(x:Bool):aae (l++[x])=aae l+(if x then 1 else 0):=by
 unfold aae;rw[Qi];cases x <;> simp
theorem arE(v:M7)(l:List Bool)(w:MO)(hv:Yo w v l) :
  Ni MK 225 #[v] w fun r w'=>r=MN (MF ME (aae l))/\w'=w:=by
 obtain⟨a,A,rfl,y,p,j⟩:=hv.F6;unfold NE at p;clear hv;go_enter ayV,ayK;go_wp2
 go_loopw [3,8] (fun s i wr=>∃(k:Nat),i=MF ME k/\s=MF ME (aae (l.take k))/\k<=l.length/\w=wr) (fun _ i _=>l.length-(On i).toNat)
 case atStart=>exact⟨0,rfl,by simp[aae],Nx _,rfl⟩
 case round =>
  obtain⟨k,rfl,rfl,C,rfl⟩:=hrel
  by_cases hlt:k<l.length
  ·obtain⟨B,D,rfl,z,c1⟩:=j k hlt
   have e:aae (l.take (k+1))=aae (l.take k)+(if l[k]then 1 else 0):=by rw[M9 hlt,arC]
   have q:aae (l.take k)<=k:=Nm (alE _) (by rw[NH];omega);obtain⟨s,m⟩:∃s,s=aae (l.take k):=⟨_,rfl⟩;rw[<-m]at e q⊢;have x:(k:Int)<(l.length:Int):=by omega
   cases hx:l[k]
   ·rw[hx]at c1 e
    have H:M6 _:=e;clear e m hx j;go_wp2
    go_roundw
    case rel=>exact⟨k+1,by simp,by rw[H.out];simp,hlt,trivial⟩
    case measure=>simp[On];omega
   ·rw[hx]at c1 e
    have H:M6 _:=e;clear e m hx j;go_wp2
    go_roundw
    case rel=>exact⟨k+1,by simp,by rw[H.out];simp,hlt,trivial⟩
    case measure=>simp[On];omega
  ·obtain rfl:k=l.length:=by omega
   clear j;rw[NT];go_wp2;go_ret;exact⟨rfl,rfl⟩
theorem Yo.IH{a:Oc}{c:Nat}(h:Yo w (MG (MI a) l.length c) l)(h0:0<l.length):∀p,(p=MI a/\l.length=1\/p=MI ⟨a.block,a.off+1,MH⟩)->Yo w (MG p (l.drop 1).length (c-1)) (l.drop 1):=by
 obtain⟨x,q,e,y,r,z|⟨b,off,rfl,m,j⟩⟩:=h
 ·omega
 ·cases e
  rintro p (⟨rfl,s⟩|rfl)
  ·refine⟨_,_,rfl,by rw[NJ];omega,by omega,Nt ⟨by rw[NJ];omega,?_⟩⟩
   have:(l.drop 1).length=0:=by rw[NJ];omega
   rw[List.length_eq_zero_iff.1 this];rfl
  ·refine⟨_,_,rfl,by rw[NJ];omega,by omega,NF ⟨b,off+1,rfl,m,fun i hi=>?_⟩⟩
   rw[age,NJ]at hi;have:=j (i+1) (by rw[age];omega);rw[show off+1+i=off+(i+1)by omega,this];simp[Yi]
theorem arB(w:MO)(x:Bool):Yo (w.alloc (MP #[M3 x] 4)) (MG (MI ⟨w.heap.size,0,MH⟩) 1 1) [x]:=
 ⟨_,_,rfl,MV _,by unfold NE;omega,NF ⟨w.heap.size,0,rfl,by simp,fun i hi=>by
  have h:=acR w (Yi [x]) 4;obtain rfl:i=0:=by simp[Yi]at hi;exact hi
  have:=h 0 (M3 x) rfl;rw[abl]at this;exact this⟩⟩
theorem arH(n:Int)(v:M7)(l:List Bool)(x:Bool)(w:MO)(hv:Yo w v l)(hn:1<=n/\n<=16)(hl:(l.length:Int)<=n) :
  Ni MK 224 #[MF ME n,v,M3 x] w fun r w'=>∃p c,r=MN (MG p (Zj n l x).length c)/\w'.ownsRow w.heap.size 4 1 (MG p (Zj n l x).length c) (Zj n l x).length (Yi (Zj n l x))/\MQ w.heap.size w w':=by
 obtain⟨p,c,rfl,L,C,_⟩:=hv.F6;unfold NE at C;have B:∀(q:Option Oc) (k d:Nat) (m:List Bool),m.length=k->m.length<=16->Yo w (MG q k d) m->Ni MK 248 #[MG (MI ⟨w.heap.size+1,0,MH⟩) 2 2] ((w.alloc (MP #[M3 x] 4)).alloc (MP #[MG q k d,MG (MI ⟨w.heap.size,0,MH⟩) 1 1] 75)) fun r w'=>∃i s z,r=MN (MG i z s)/\z=(m++[x]).length/\w'.ownsRow w.heap.size 4 1 (MG i z s) z (Yi (m++[x]))/\MQ w.heap.size w w':=by
  rintro q k d m rfl F G;have A:MQ w.heap.size w (w.alloc (MP #[M3 x] 4)):=WQ w;have e:MQ (w.alloc (MP #[M3 x] 4)).heap.size (w.alloc (MP #[M3 x] 4)) ((w.alloc (MP #[M3 x] 4)).alloc (MP #[MG q m.length d,MG (MI ⟨w.heap.size,0,MH⟩) 1 1] 75)):=WQ _;refine(arD q d m x (w.heap.size+1) w.heap.size _ ((G.below A).below e) F (Yu _ _ _) ((arB w x).below e)).mono ?_;rintro r w' ⟨i,s,rfl,y,j⟩;refine⟨i,s,m.length+1,rfl,by rw[Ns];rfl,y.mono (A.trans (e.mono A.size)).size,?_⟩;exact(A.trans (e.mono A.size)).trans (j.mono (A.trans (e.mono A.size)).size)
 by_cases hlt:(l.length:Int)<n
 ·have E:Zj n l x=l++[x]:=by unfold Zj;rw[Nh hlt]
  rw[E];have I:¬((0:Int)<(l.length:Int)+1-n):=by omega
  have K:M6 _:=B p l.length c l rfl (by omega) hv;clear B E hv;go_enter Uk,Ua
  go_wp2_with fail
  refine Nd K.out ?_;rintro r w' ⟨i,s,z,rfl,e,y,j⟩;have H:M6 (_/\_/\_):=⟨e,y,j⟩;clear e y j;go_wp2;go_ret;exact⟨i,s,by rw[<-H.out.1];rfl,by rw[<-H.out.1];exact H.out.2.1,H.out.2.2⟩
 ·have E:Zj n l x=l.drop 1++[x]:=by unfold Zj;rw[Nf hlt]
  rw[E];obtain rfl:n=l.length:=by omega
  obtain⟨a,J,D,_,_,h|⟨b,off,rfl,_⟩⟩:=id hv
  ·omega
  ·cases D
   by_cases hc1:c=1
   ·subst hc1
    have K:M6 _:=B (MI ⟨b,off,MH⟩) 0 0 (l.drop 1) (by simp;omega) (by simp;omega) (by have:=hv.IH (by omega) _ (Nt ⟨rfl,by omega⟩);rwa[NJ,show l.length-1=0 by omega]at this);clear B E hv;go_enter Uk,Ua
    go_wp2_with fail
    refine Nd K.out ?_;rintro r w' ⟨i,s,z,rfl,e,y,j⟩;have H:M6 (_/\_/\_):=⟨e,y,j⟩;clear e y j;go_wp2;go_ret;exact⟨i,s,by rw[<-H.out.1];rfl,by rw[<-H.out.1];exact H.out.2.1,H.out.2.2⟩
   ·have K:M6 _:=B (MI ⟨b,off+1,MH⟩) (l.length-1) (c-1) (l.drop 1) (by simp) (by simp;omega) (by have:=hv.IH (by omega) _ (NF rfl);rwa[NJ]at this)
    clear B E hv;go_enter Uk,Ua
    go_wp2_with fail
    refine Nd K.out ?_;rintro r w' ⟨i,s,z,rfl,e,y,j⟩;have H:M6 (_/\_/\_):=⟨e,y,j⟩;clear e y j;go_wp2;go_ret;exact⟨i,s,by rw[<-H.out.1];rfl,by rw[<-H.out.1];exact H.out.2.1,H.out.2.2⟩
section
open Go.Sort (grow grow_empty grow_grow alloc_eq_grow cell?_grow heap_grow_old)
theorem acn(w:MO)(q:Nat)(os:Array Obj):MQ w.heap.size w (Oj (w.drewN q) os):=
 ⟨rfl,rfl,rfl,by simp[Oj,World.drewN],fun k hk=>heap_grow_old (w.drewN q) os hk⟩
def aaL(d t:Int):Int:=min (d*2 ^ t.toNat) 500
theorem arJ(n f d t now:Int)(w:MO)(hd:1<=d/\d<=500)(ht:0<=t/\t<=10)(hnow:0<=now/\now<=1099511627776) :
  Ni MK 226 #[acS n f d,MF ME t,MF ME now] w fun r w'=>r=MN (Y5 (MG MH 0 0) Nw (now+aaL d t) (min (t+1) 10))/\MQ w.heap.size w w':=by
 obtain⟨k,rfl⟩:=NL ht.1;obtain⟨F,G⟩:=hnow;have D:k<=10:=by omega
 clear ht;have x:(1:Int)<=2 ^ k/\(2:Int) ^ k<=1024:=by
  have C:(1:Nat)<=2 ^ k:=Nat.one_le_two_pow;have B:2 ^ k<=2 ^ 10:=Nat.pow_le_pow_right (by decide) D;have L:((2 ^ k:Nat):Int)=(2:Int) ^ k:=by simp
  omega
 obtain⟨m,j⟩:∃m,m=d*2 ^ k:=⟨_,rfl⟩;have K:1<=m:=by rw[j];have:=Px hd.1 x.1 (by omega) (by omega);omega
 have J:m<=512000:=by rw[j];have:=Px hd.2 x.2 (by omega) (by omega);omega
 have I:wrap64 (d*2 ^ k)=m:=by rw[<-j];unfold wrap64;omega
 have E:M6 (aaL d (k:Int)=min m 500):=(by unfold aaL;rw[NR,<-j]:aaL d (k:Int)=min m 500);clear j x hd;obtain⟨s,q⟩:∃s,s=w.alloc (MP #[MF ME n,MF ME f,MF ME d] 33):=⟨_,rfl⟩;have y:MQ w.heap.size w s:=by rw[q];exact WQ _
 have z:s.heap.size=w.heap.size+1:=by rw[q];simp
 have H:M6 (_/\_/\_):=⟨q,y,z⟩;have A:∀u t:Int,(((w.alloc (MP #[MF ME n,MF ME f,MF ME d] 33)).alloc (MP #[MG MH 0 0,M3 Nw,MF ME u,MF ME t] 195)).heap[w.heap.size+1]?=MI (MP [MG MH 0 0,M3 Nw,MF ME u,MF ME t].toArray 195 (0,0)))/\MQ w.heap.size w ((w.alloc (MP #[MF ME n,MF ME f,MF ME d] 33)).alloc (MP #[MG MH 0 0,M3 Nw,MF ME u,MF ME t] 195)):=fun u t=>⟨Yu _ _ _,((MY _ _).alloc (MV _) _).alloc (by simp) _⟩
 have e:M6 _:=A;clear A q y z
 by_cases C:m<=500
 ·have p:M6 (min m 500=m):=(by omega:min m 500=m)
  by_cases B:(k:Int)+1<=10
  ·have i:M6 (min ((k:Int)+1) 10=k+1):=(by omega:min ((k:Int)+1) 10=k+1)
   go_enter azt,azn;go_wp2;exact Np (v:=Y5 (MG MH 0 0) Nw (now+m) (k+1)) (Z2 azg rfl (Xp (P:=MK) (cs:=[MG MH 0 0,M3 Nw,MF ME (now+m),MF ME (k+1)]) (e.out _ _).1 ay4 rfl (by kernel_rfl))) rfl ⟨by rw[E.out,p.out,i.out],(e.out _ _).2⟩
  ·have i:M6 (min ((k:Int)+1) 10=10):=(by omega:min ((k:Int)+1) 10=10)
   go_enter azt,azn;go_wp2
   all_goals exact Np (v:=Y5 (MG MH 0 0) Nw (now+m) 10) (Z2 azg rfl (Xp (P:=MK) (cs:=[MG MH 0 0,M3 Nw,MF ME (now+m),MF ME 10]) (e.out _ _).1 ay4 rfl (by kernel_rfl))) rfl ⟨by rw[E.out,p.out,i.out],(e.out _ _).2⟩
 ·have p:M6 (min m 500=500):=(by omega:min m 500=500)
  by_cases B:(k:Int)+1<=10
  ·have i:M6 (min ((k:Int)+1) 10=k+1):=(by omega:min ((k:Int)+1) 10=k+1)
   go_enter azt,azn;go_wp2;exact Np (v:=Y5 (MG MH 0 0) Nw (now+500) (k+1)) (Z2 azg rfl (Xp (P:=MK) (cs:=[MG MH 0 0,M3 Nw,MF ME (now+500),MF ME (k+1)]) (e.out _ _).1 ay4 rfl (by kernel_rfl))) rfl ⟨by rw[E.out,p.out,i.out],(e.out _ _).2⟩
  ·have i:M6 (min ((k:Int)+1) 10=10):=(by omega:min ((k:Int)+1) 10=10)
   go_enter azt,azn;go_wp2;exact Np (v:=Y5 (MG MH 0 0) Nw (now+500) 10) (Z2 azg rfl (Xp (P:=MK) (cs:=[MG MH 0 0,M3 Nw,MF ME (now+500),MF ME 10]) (e.out _ _).1 ay4 rfl (by kernel_rfl))) rfl ⟨by rw[E.out,p.out,i.out],(e.out _ _).2⟩
def Hy(w W:MO)(n f d:Int)(v:M7)(o:Bool)(u t:Int)(v':M7)(o':Bool)(u' t':Int):Prop :=
 Hx w W n f d v o u t/\W.heap[w.heap.size+1+1]?=MI (MP #[v',M3 o',MF ME u',MF ME t'] 195 (0,0))
section
variable {w W:MO}{n f d:Int}{v:M7}{o:Bool}{u t:Int}{v':M7}{o':Bool}{u' t':Int}
theorem alH(w:MO)(n f d:Int)(v:M7)(o:Bool)(u t:Int)(v':M7)(o':Bool)(u' t':Int):Hy w (((w.alloc (MP #[MF ME n,MF ME f,MF ME d] 33)).alloc (MP #[v,M3 o,MF ME u,MF ME t] 195)).alloc (MP #[v',M3 o',MF ME u',MF ME t'] 195)) n f d v o u t v' o' u' t' :=
 ⟨(ah4 w n f d v o u t).below (WQ _),aeC _ _ _ _⟩
theorem Hy.below{W':MO}(h:Hy w W n f d v o u t v' o' u' t')(hb:MQ W.heap.size W W'):Hy w W' n f d v o u t v' o' u' t' :=
 ⟨h.1.below hb,WO h.2 hb⟩
theorem arF{d a' b' c' d':M7}(h:w.heap[g]?=MI (MP #[a,b,c,d] T (0,0))):((((w.setCell ⟨g,0,MH⟩ a').setCell ⟨g,1,MH⟩ b').setCell ⟨g,2,MH⟩ c').setCell ⟨g,3,MH⟩ d').heap[g]?=MI (MP #[a',b',c',d'] T (0,0)):=
 NI _ _ 3 _ _ d' (NI _ _ 2 _ _ c' (NI _ _ 1 _ _ b' (NI w g 0 _ _ a' h)))
abbrev agf(W:MO)(g:Nat)(a b c d:M7):World:=(((W.setCell ⟨g,0,MH⟩ a).setCell ⟨g,1,MH⟩ b).setCell ⟨g,2,MH⟩ c).setCell ⟨g,3,MH⟩ d
theorem alL{d:M7}(h:k≠g):(agf W g a b c d).heap[k]?=W.heap[k]?:=by
 unfold agf;rw[MU _ _ _ _ h,MU _ _ _ _ h,MU _ _ _ _ h,MU _ _ _ _ h]
theorem Hy.F4(h:Hy w W n f d v o u t v' o' u' t')(a:M7)(b:Bool)(c e:Int):Hy w (agf W (w.heap.size+1+1) a (M3 b) (MF ME c) (MF ME e)) n f d v o u t a b c e :=
 ⟨⟨(alL (by omega)).trans h.1.1,(alL (by omega)).trans h.1.2.1,(((h.1.2.2.setCell (by simp;omega) _).setCell (by simp;omega) _).setCell (by simp;omega) _).setCell (by simp;omega) _⟩,arF h.2⟩
theorem Hy.Gi(h:Hy w W n f d v o u t v' o' u' t')(a:M7):Hy w (W.setCell ⟨w.heap.size+1,0,MH⟩ a) n f d a o u t v' o' u' t' :=
 ⟨⟨(MU _ _ _ _ (by simp)).trans h.1.1,NI W _ 0 _ _ a h.1.2.1,h.1.2.2.setCell (by simp) _⟩,(MU _ _ _ _ (by simp)).trans h.2⟩
theorem Hy.res(h:Hy w W n f d v o u t v' o' u' t'){fn:Func}{i y z:Tmp}(hr:fn.results=#[.cell i 195,.tmp y,.tmp z]){tmps:Array M7}{e1 e2:M7}(hx:tmps.getD i PL=Na (MI ⟨w.heap.size+1+1,0,MH⟩))(hy:tmps.getD y PL=e1)(hz:tmps.getD z PL=e2) :
  (Pf fn tmps).run MK W=.ok (Nv #[Y5 v' o' u' t',e1,e2]) W :=
 ae0 hr hx hy hz (Xp (P:=MK) (cs:=[v',M3 o',MF ME u',MF ME t']) h.2 ay4 rfl (by kernel_rfl))
theorem Hy.bel(h:Hy w W n f d v o u t v' o' u' t'):MQ w.heap.size w W:=h.1.2.2
theorem Hy.Gg(h:Hy w W n f d v o u t v' o' u' t'):W.cell? ⟨w.heap.size,0,MH⟩=MI (MF ME n)/\W.cell? ⟨w.heap.size,1,MH⟩=MI (MF ME f)/\W.cell? ⟨w.heap.size,2,MH⟩=MI (MF ME d)/\W.cell? ⟨w.heap.size+1,0,MH⟩=MI v/\W.cell? ⟨w.heap.size+1,1,MH⟩=MI (M3 o)/\W.cell? ⟨w.heap.size+1,2,MH⟩=MI (MF ME u)/\W.cell? ⟨w.heap.size+1,3,MH⟩=MI (MF ME t)/\W.frozen? ⟨w.heap.size+1,0,MH⟩=Nb/\W.frozen? ⟨w.heap.size+1,1,MH⟩=Nb/\W.frozen? ⟨w.heap.size+1,2,MH⟩=Nb/\W.cell? ⟨w.heap.size+1+1,0,MH⟩=MI v'/\W.cell? ⟨w.heap.size+1+1,1,MH⟩=MI (M3 o')/\W.cell? ⟨w.heap.size+1+1,2,MH⟩=MI (MF ME u')/\W.cell? ⟨w.heap.size+1+1,3,MH⟩=MI (MF ME t')/\W.frozen? ⟨w.heap.size+1+1,0,MH⟩=Nb/\W.frozen? ⟨w.heap.size+1+1,1,MH⟩=Nb/\W.frozen? ⟨w.heap.size+1+1,2,MH⟩=Nb/\W.frozen? ⟨w.heap.size+1+1,3,MH⟩=false:=by
 obtain⟨c0,c1,c2,c3,c4,c5,c6⟩:=h.1.Gg;obtain⟨z,p,q,A⟩:=alG h.1.2.1;obtain⟨s,i,e,y,_⟩:=alF h.2;obtain⟨r,x,j,m⟩:=alG h.2;exact⟨c0,c1,c2,c3,c4,c5,c6,z,p,q,s,i,e,y,r,x,j,m⟩
end
abbrev aeX:=(List Bool×Bool×Int×Int)×Bool×Int
def Zt(n f d:Int)(l:List Bool)(o:Bool)(u t:Int)(x:Bool)(now:Int)(may:Bool):aeX :=
 if YR n f d l.length o u t now=0 then
  (if o=Nb/\may=Nw/\f<=(aae (Zj n l x):Int)then(([],Nw,now+aaL d t,min (t+1) 10),Nw,0)else((Zj n l x,o,u,t),Nb,0))
 else(([],Nb,0,0),Nb,YR n f d l.length o u t now)
def Ze(n f d:Int)(l:List Bool)(o:Bool)(u t:Int)(now:Int):aeX :=
 if YR n f d l.length o u t now=0 then
  (if o=Nw/\u<=now then((l,Nb,0,t),Nw,0)else((l,o,u,t),Nb,0))
 else(([],Nb,0,0),Nb,YR n f d l.length o u t now)
def agd(w:MO)(O:aeX)(r:Ending)(w':MO):Prop :=
 ∃p c,r=MN (Nv #[Y5 (MG p O.1.1.length c) O.1.2.1 O.1.2.2.1 O.1.2.2.2,M3 O.2.1,MF ME O.2.2])/\Yo w' (MG p O.1.1.length c) O.1.1/\(∀b,QQ (MG p O.1.1.length c)=MI b->w.heap.size<=b)/\MQ w.heap.size w w'
theorem aeZ{b:Bool}{e:Int}{O:aeX}(h:O=(([],o,u,t),b,e))(hb:MQ w.heap.size w w'):agd w O (MN (Nv #[Y5 (MG MH 0 0) o u t,M3 b,MF ME e])) w':=by
 subst h;exact⟨MH,0,rfl,ah2 _,(by intro b h;cases h),hb⟩
theorem ad7{w2:MO}{p:Option Oc}{c:Nat}{b:Bool}{e:Int}{O:aeX}(h:O=((l,o,u,t),b,e))(hk:k=l.length)(hl:Yo w' (MG p k c) l)(hb:MQ w.heap.size w w')(ho:w2.ownsRow base 4 1 (MG p k c) k xs)(hbase:w.heap.size<=base):agd w O (MN (Nv #[Y5 (MG p k c) o u t,M3 b,MF ME e])) w':=by
 subst h hk;exact⟨p,c,rfl,hl,fun b hb=>Nm hbase (ho.lt b hb).1,hb⟩
theorem abm{e:NU}{n:Nat}(h:w.ownsRow base e k v n xs){a:Oc}{y:M7}(ha:a.block<base):(w.setCell a y).ownsRow base e k v n xs :=
 W8 h fun g hg=>MU _ _ _ _ (by have:=(h.lt g hg).1;omega)
theorem ad8{e:NU}{n:Nat}(h:w.ownsRow base e k v n xs){y0 y1 y2 y3:M7}(ha:g<base):(agf w g y0 y1 y2 y3).ownsRow base e k v n xs :=
 abm (abm (abm (abm h ha) ha) ha) ha
theorem arI(n f d:Int)(v:M7)(l:List Bool)(o:Bool)(u t:Int)(x:Bool)(now:Int)(may:Bool)(w:MO)(hv:Yo w v l)(hl:l.length<=140737488355328) :
  Ni MK 182 #[acS n f d,Y5 v o u t,M3 x,MF ME now,M3 may] w (agd w (Zt n f d l o u t x now may)):=by
 obtain⟨p,c,rfl⟩:=hv.Ga;obtain⟨W0,a3⟩:∃W0,W0=((w.alloc (MP #[MF ME n,MF ME f,MF ME d] 33)).alloc (MP #[MG p l.length c,M3 o,MF ME u,MF ME t] 195)).alloc (MP #[MG MH 0 0,M3 Nb,MF ME 0,MF ME 0] 195):=⟨_,rfl⟩;have a4:Hy w W0 n f d (MG p l.length c) o u t (MG MH 0 0) Nb 0 0:=by rw[a3];exact alH _ _ _ _ _ _ _ _ _ _ _ _
 obtain⟨c0,c1,c2,c3,c4,c5,c6,_⟩:=a4.Gg;have H:M6 (_/\Hy _ _ _ _ _ _ _ _ _ _ _ _ _/\Yo _ _ _):=⟨a3,a4,hv⟩;clear a3 a4 hv;go_enter ayY,ayN
 go_wp2_with fail
 rw[<-H.out.1];refine(alC n f d p l.length c o u t now _).mono ?_;rintro r S ⟨rfl,a2⟩;have O:M6 (Hy _ _ _ _ _ _ _ _ _ _ _ _ _/\Yo _ _ _):=⟨H.out.2.1.below a2,H.out.2.2.below (H.out.2.1.bel.trans (a2.mono H.out.2.1.bel.size))⟩;clear c0 c1 c2 c3 c4 c5 c6 a2 H;obtain⟨c0,c1,c2,c3,c4,c5,c6,F,A,B,L,I,G,D,C,K,z,J⟩:=O.out.1.Gg;rcases alA n f d l.length o u t now with⟨M,_⟩|⟨M,_⟩|⟨M,V,a7,hh⟩
 ·have E:M6 (Zt n f d l o u t x now may=(([],Nb,0,0),Nb,2)):=(by unfold Zt;rw[M,Nf (by decide)]:Zt n f d l o u t x now may=(([],false,0,0),false,2))
  rw[M];clear M;go_wp2;exact Np (v:=Nv #[Y5 (MG MH 0 0) Nb 0 0,M3 Nb,MF ME 2]) ((O.out.1.F4 _ _ _ _).res Uq rfl rfl rfl) rfl (aeZ E.out (O.out.1.F4 _ _ _ _).bel)
 ·have E:M6 (Zt n f d l o u t x now may=(([],Nb,0,0),Nb,6)):=(by unfold Zt;rw[M,Nf (by decide)]:Zt n f d l o u t x now may=(([],false,0,0),false,6))
  rw[M];clear M;go_wp2;exact Np (v:=Nv #[Y5 (MG MH 0 0) Nb 0 0,M3 Nb,MF ME 6]) ((O.out.1.F4 _ _ _ _).res Uq rfl rfl rfl) rfl (aeZ E.out (O.out.1.F4 _ _ _ _).bel)
 ·have E:M6 (Zt n f d l o u t x now may=if o=Nb/\may=Nw/\f<=(aae (Zj n l x):Int)then(([],Nw,now+aaL d t,min (t+1) 10),Nw,0)else((Zj n l x,o,u,t),Nb,0)):=Nh M
  rw[M];clear M;have HL:M6 _:=arH n (MG p l.length c) l x S O.out.2 V.1 hh.1
  go_wp2_with fail
  refine Nd HL.out ?_;rintro r j ⟨p',c',rfl,ho,a9⟩;obtain⟨k,hk⟩:∃k,k=(Zj n l x).length:=⟨_,rfl⟩;rw[<-hk]at ho⊢;have e:M6 (Hy _ _ _ _ _ _ _ _ _ _ _ _ _/\_/\_/\w.heap.size+1+1<S.heap.size):=⟨O.out.1.below a9,ho,hk,(Array.getElem?_eq_some_iff.1 O.out.1.2).1⟩;clear ho a9 hk O HL c0 c1 c2 c3 c4 c5 c6 F A B L I G D C K z J;obtain⟨c0,c1,c2,c3,c4,c5,c6,F,A,B,L,I,G,D,C,K,z,J⟩:=e.out.1.Gg;have U:M6 (∀(q:Nat) (os:Array Obj),Ni MK 225 #[MG p' k c'] (Oj (j.drewN q) os) fun r w'=>r=MN (MF ME (aae (Zj n l x)))/\∃q' os',w'=Oj ((Oj (j.drewN q) os).drewN q') os'):=fun(q:Nat) (os:Array Obj)=>by
   refine(arE _ (Zj n l x) _ ((acQ (by rw[<-e.out.2.2.1];exact e.out.2.1)).below (acn _ _ _))).mono ?_;rintro r w' ⟨rfl,rfl⟩;exact⟨rfl,0,#[],(grow_empty _).symm⟩
  have b0:(aae (Zj n l x):Int)<=16:=by
   have h1:=alE (Zj n l x);have h2:=alJ x hh.1 V.1.1;omega
  have hf:f<=16:=by omega
  generalize aae (Zj n l x)=m at *;have Z:∀n' os,(Oj (j.drewN n') os).cell? ⟨w.heap.size,1,MH⟩=MI (MF ME f):=Ob (MX _ _ c1) c1;have Y:∀n' os,(Oj (j.drewN n') os).cell? ⟨w.heap.size+1,1,MH⟩=MI (M3 o):=Ob (MX _ _ c4) c4;have a6:∀(W':MO),MQ j.heap.size j W'->o=Nw\/may=Nb\/¬(f<=(m:Int))->Zt n f d l o u t x now may=((Zj n l x,o,u,t),Nb,0):=fun _ _ h=>by
   rw[E.out,Nf];rintro⟨h1,h2,h3⟩;rcases h with h|h|h
   ·rw[h1]at h;cases h
   ·rw[h2]at h;cases h
   ·exact h h3
  have ST:M6 _:=a6;clear a6;cases o
  case true =>
   have N:=ST.out j (MY _ _) (Nt rfl);have R:M6 _:=N;clear N
   go_wp2_with fail
   refine NQ XY (by kernel_rfl) ?_
   repeat (first|go_big_quiet_skip|quiet_step (first|(go_at_call 225;exact Calls.grown_of (U.out _ _))))
   refine Oy ?_;intro _ Q;obtain⟨⟨y,s⟩,P⟩:=Q;subst P;have i:M6 (Hy _ _ _ _ _ _ _ _ _ _ _ _ _/\_):=⟨e.out.1.below (acn j y s),YI e.out.2.1 (acn j y s)⟩;clear c0 c1 c2 c3 c4 c5 c6 F A B L I G D C K z J Z Y;generalize Oj (j.drewN y) s=w3 at i⊢;obtain⟨c0,c1,c2,c3,c4,c5,c6,F,A,B,L,I,G,D,C,K,z,J⟩:=i.out.1.Gg;go_wp2;exact Np (v:=Nv #[Y5 (MG p' k c') Nw u t,M3 Nb,MF ME 0]) (((i.out.1.Gi _).F4 _ _ _ _).res Uq rfl rfl rfl) rfl (ad7 R.out e.out.2.2.1 (acQ (base:=S.heap.size) (by rw[<-e.out.2.2.1];exact ad8 (abm i.out.2 (by have:=e.out.2.2.2;simp;omega)) e.out.2.2.2)) ((i.out.1.Gi _).F4 _ _ _ _).bel e.out.2.1 (by have:=e.out.2.2.2;omega))
  case false =>
   cases may
   case false =>
    have N:=ST.out j (MY _ _) (NF (Nt rfl));have R:M6 _:=N;clear N
    go_wp2_with fail
    refine NQ XY (by kernel_rfl) ?_
    repeat (first|go_big_quiet_skip|quiet_step (first|(go_at_call 225;exact Calls.grown_of (U.out _ _))))
    refine Oy ?_;intro _ Q;obtain⟨⟨y,s⟩,P⟩:=Q;subst P;have i:M6 (Hy _ _ _ _ _ _ _ _ _ _ _ _ _/\_):=⟨e.out.1.below (acn j y s),YI e.out.2.1 (acn j y s)⟩;clear c0 c1 c2 c3 c4 c5 c6 F A B L I G D C K z J Z Y;generalize Oj (j.drewN y) s=w3 at i⊢;obtain⟨c0,c1,c2,c3,c4,c5,c6,F,A,B,L,I,G,D,C,K,z,J⟩:=i.out.1.Gg;go_wp2;exact Np (v:=Nv #[Y5 (MG p' k c') Nb u t,M3 Nb,MF ME 0]) (((i.out.1.Gi _).F4 _ _ _ _).res Uq rfl rfl rfl) rfl (ad7 R.out e.out.2.2.1 (acQ (base:=S.heap.size) (by rw[<-e.out.2.2.1];exact ad8 (abm i.out.2 (by have:=e.out.2.2.2;simp;omega)) e.out.2.2.2)) ((i.out.1.Gi _).F4 _ _ _ _).bel e.out.2.1 (by have:=e.out.2.2.2;omega))
   case true =>
    cases hm:Nn (f<=(m:Int))
    case false =>
     have N:=ST.out j (MY _ _) (NF (NF (Nc hm)));have R:M6 _:=N;clear N
     go_wp2_with fail
     refine NQ XY (by kernel_rfl) ?_
     repeat (first|go_big_quiet_skip|quiet_step (first|(go_at_call 225;exact NZ (U.out _ _))))
     refine Oy ?_;intro _ Q;obtain⟨⟨y,s⟩,P⟩:=Q;subst P;have i:M6 (Hy _ _ _ _ _ _ _ _ _ _ _ _ _/\_):=⟨e.out.1.below (acn j y s),YI e.out.2.1 (acn j y s)⟩;clear c0 c1 c2 c3 c4 c5 c6 F A B L I G D C K z J Z Y;generalize Oj (j.drewN y) s=w3 at i⊢;obtain⟨c0,c1,c2,c3,c4,c5,c6,F,A,B,L,I,G,D,C,K,z,J⟩:=i.out.1.Gg;go_wp2;exact Np (v:=Nv #[Y5 (MG p' k c') Nb u t,M3 Nb,MF ME 0]) (((i.out.1.Gi _).F4 _ _ _ _).res Uq rfl rfl rfl) rfl (ad7 R.out e.out.2.2.1 (acQ (base:=S.heap.size) (by rw[<-e.out.2.2.1];exact ad8 (abm i.out.2 (by have:=e.out.2.2.2;simp;omega)) e.out.2.2.2)) ((i.out.1.Gi _).F4 _ _ _ _).bel e.out.2.1 (by have:=e.out.2.2.2;omega))
    case true =>
     have N:Zt n f d l Nb u t x now Nw=(([],Nw,now+aaL d t,min (t+1) 10),Nw,0):=by rw[E.out,Nh ⟨rfl,rfl,M2 hm⟩]
     have R:M6 _:=N;have HT:M6 (∀W,_):=fun W=>arJ n f d t now W V.2.2 hh.2.1 a7
     clear N
     go_wp2_with fail
     refine NQ XY (by kernel_rfl) ?_
     repeat (first|go_big_quiet_skip|quiet_step (first|(go_at_call 225;exact NZ (U.out _ _))))
     refine Oy ?_;intro _ Q;obtain⟨⟨y,s⟩,P⟩:=Q;subst P;have i:M6 (Hy _ _ _ _ _ _ _ _ _ _ _ _ _/\_):=⟨e.out.1.below (acn j y s),YI e.out.2.1 (acn j y s)⟩;clear c0 c1 c2 c3 c4 c5 c6 F A B L I G D C K z J Z Y;generalize Oj (j.drewN y) s=w3 at i⊢;obtain⟨c0,c1,c2,c3,c4,c5,c6,F,A,B,L,I,G,D,C,K,z,J⟩:=i.out.1.Gg;clear U hm b0 hf V hh a7 ST
     go_wp2_with fail
     refine(HT.out _).mono ?_;rintro r w4 ⟨rfl,a8⟩;have a5:M6 (Hy _ _ _ _ _ _ _ _ _ _ _ _ _):=i.out.1.below a8;clear c0 c1 c2 c3 c4 c5 c6 F A B L I G D C K z J a8;obtain⟨c0,c1,c2,c3,c4,c5,c6,F,A,B,L,I,G,D,C,K,z,J⟩:=a5.out.Gg;generalize now+aaL d t=hu at *;generalize min (t+1) 10=ht at *;go_wp2;exact Np (v:=Nv #[Y5 (MG MH 0 0) Nw hu ht,M3 Nw,MF ME 0]) ((a5.out.F4 _ _ _ _).res Uq rfl rfl rfl) rfl (aeZ R.out (a5.out.F4 _ _ _ _).bel)
end
section
variable {w W:MO}{n f d:Int}{v:M7}{o:Bool}{u t:Int}{v':M7}{o':Bool}{u' t':Int}
theorem Hy.IM(h:Hy w W n f d v o u t v' o' u' t')(b:Bool)(c:Int):Hy w ((W.setCell ⟨w.heap.size+1,1,MH⟩ (M3 b)).setCell ⟨w.heap.size+1,2,MH⟩ (MF ME c)) n f d v b c t v' o' u' t' :=
 ⟨⟨(MU _ _ _ _ (by simp)).trans ((MU _ _ _ _ (by simp)).trans h.1.1),NI _ _ 2 _ _ _ (NI W _ 1 _ _ _ h.1.2.1),(h.1.2.2.setCell (by simp) _).setCell (by simp) _⟩,(MU _ _ _ _ (by simp)).trans ((MU _ _ _ _ (by simp)).trans h.2)⟩
end
theorem alB(n f d:Int)(v:M7)(l:List Bool)(o:Bool)(u t:Int)(now:Int)(w:MO)(hv:Yo w v l) :
  Ni MK 107 #[acS n f d,Y5 v o u t,MF ME now] w (agd w (Ze n f d l o u t now)):=by
 obtain⟨p,c,rfl⟩:=hv.Ga;obtain⟨z,x⟩:∃z,z=((w.alloc (MP #[MF ME n,MF ME f,MF ME d] 33)).alloc (MP #[MG p l.length c,M3 o,MF ME u,MF ME t] 195)).alloc (MP #[MG MH 0 0,M3 Nb,MF ME 0,MF ME 0] 195):=⟨_,rfl⟩;have y:Hy w z n f d (MG p l.length c) o u t (MG MH 0 0) Nb 0 0:=by rw[x];exact alH _ _ _ _ _ _ _ _ _ _ _ _
 obtain⟨c0,c1,c2,c3,c4,c5,c6,_⟩:=y.Gg;have H:M6 (_/\Hy _ _ _ _ _ _ _ _ _ _ _ _ _/\Yo _ _ _):=⟨x,y,hv⟩;clear x y hv;go_enter Tryz.func107,Tryz.ntmps107
 go_wp2_with fail
 rw[<-H.out.1];refine(alC n f d p l.length c o u t now _).mono ?_;rintro r m ⟨rfl,s⟩;have j:M6 (Hy _ _ _ _ _ _ _ _ _ _ _ _ _/\Yo _ _ _):=⟨H.out.2.1.below s,H.out.2.2.below (H.out.2.1.bel.trans (s.mono H.out.2.1.bel.size))⟩;clear c0 c1 c2 c3 c4 c5 c6 s H;obtain⟨c0,c1,c2,c3,c4,c5,c6,L,F,G,R,N,M,K,I,Q,D,O⟩:=j.out.1.Gg;rcases alA n f d l.length o u t now with⟨i,_⟩|⟨i,_⟩|⟨i,S,Y,V⟩
 ·have E:M6 (Ze n f d l o u t now=(([],Nb,0,0),Nb,2)):=(by unfold Ze;rw[i,Nf (by decide)]:Ze n f d l o u t now=(([],false,0,0),false,2))
  rw[i];clear i;go_wp2;exact Np (v:=Nv #[Y5 (MG MH 0 0) Nb 0 0,M3 Nb,MF ME 2]) ((j.out.1.F4 _ _ _ _).res azc rfl rfl rfl) rfl (aeZ E.out (j.out.1.F4 _ _ _ _).bel)
 ·have E:M6 (Ze n f d l o u t now=(([],Nb,0,0),Nb,6)):=(by unfold Ze;rw[i,Nf (by decide)]:Ze n f d l o u t now=(([],false,0,0),false,6))
  rw[i];clear i;go_wp2;exact Np (v:=Nv #[Y5 (MG MH 0 0) Nb 0 0,M3 Nb,MF ME 6]) ((j.out.1.F4 _ _ _ _).res azc rfl rfl rfl) rfl (aeZ E.out (j.out.1.F4 _ _ _ _).bel)
 ·have E:M6 (Ze n f d l o u t now=if o=Nw/\u<=now then((l,Nb,0,t),Nw,0)else((l,o,u,t),Nb,0)):=Nh i
  rw[i];clear i;have P:M6 _:=alD (MG p l.length c) l m j.out.2 (by have:=V.1;omega)
  go_wp2_with fail
  refine Nd P.out ?_;rintro r Z ⟨A,B,rfl,J,C⟩;obtain⟨k,U⟩:∃k,k=l.length:=⟨_,rfl⟩;have e:M6 (Hy _ _ _ _ _ _ _ _ _ _ _ _ _/\_/\w.heap.size+1+1<m.heap.size):=⟨j.out.1.below C,J,(Array.getElem?_eq_some_iff.1 j.out.1.2).1⟩;clear J C U j P c0 c1 c2 c3 c4 c5 c6 L F G R N M K I Q D O S;obtain⟨c0,c1,c2,c3,c4,c5,c6,L,F,G,R,N,M,K,I,Q,D,O⟩:=e.out.1.Gg;cases o
  case false =>
   have q:M6 (Ze n f d l Nb u t now=((l,Nb,u,t),Nb,0)):=(by rw[E.out,Nf (fun h=>by cases h.1)]:Ze n f d l false u t now=((l,false,u,t),false,0));go_wp2;exact Np (v:=Nv #[Y5 (MG A l.length B) Nb u t,M3 Nb,MF ME 0]) (((e.out.1.Gi _).F4 _ _ _ _).res azc rfl rfl rfl) rfl (ad7 q.out rfl (acQ (base:=m.heap.size) (ad8 (abm e.out.2.1 (by have:=e.out.2.2;simp;omega)) e.out.2.2)) ((e.out.1.Gi _).F4 _ _ _ _).bel e.out.2.1 (by have:=e.out.2.2;omega))
  case true =>
   by_cases hu:now<u
   ·have q:M6 (Ze n f d l Nw u t now=((l,Nw,u,t),Nb,0)):=(by rw[E.out,Nf (fun h=>by omega)]:Ze n f d l true u t now=((l,true,u,t),false,0))
    go_wp2;exact Np (v:=Nv #[Y5 (MG A l.length B) Nw u t,M3 Nb,MF ME 0]) (((e.out.1.Gi _).F4 _ _ _ _).res azc rfl rfl rfl) rfl (ad7 q.out rfl (acQ (base:=m.heap.size) (ad8 (abm e.out.2.1 (by have:=e.out.2.2;simp;omega)) e.out.2.2)) ((e.out.1.Gi _).F4 _ _ _ _).bel e.out.2.1 (by have:=e.out.2.2;omega))
   ·have q:M6 (Ze n f d l Nw u t now=((l,Nb,0,t),Nw,0)):=(by rw[E.out,Nh ⟨rfl,by omega⟩]:Ze n f d l true u t now=((l,false,0,t),true,0))
    go_wp2;exact Np (v:=Nv #[Y5 (MG A l.length B) Nb 0 t,M3 Nw,MF ME 0]) ((((e.out.1.Gi _).IM _ _).F4 _ _ _ _).res azc rfl rfl rfl) rfl (ad7 q.out rfl (acQ (base:=m.heap.size) (ad8 (abm (abm (abm e.out.2.1 (by have:=e.out.2.2;simp;omega)) (by have:=e.out.2.2;simp;omega)) (by have:=e.out.2.2;simp;omega)) e.out.2.2)) (((e.out.1.Gi _).IM _ _).F4 _ _ _ _).bel e.out.2.1 (by have:=e.out.2.2;omega))
def acP(out act per:Int):Bool×Int :=
 if(0<=act/\act<=12)/\(0<=out/\out<=act)/\(0<=per/\per<=100)then(Nn ((out+1)*100<=per*act),0)else(Nb,2)
theorem arw(out act per:Int)(w:MO):Ni MK 227 #[MF ME out,MF ME act,MF ME per] w fun r w'=>r=MN (Nv #[M3 (acP out act per).1,MF ME (acP out act per).2])/\w'=w:=by
 cases h1:Nn (0<=act/\act<=12)
 ·have E:M6 (acP out act per=(Nb,2)):=Nf fun h=>Nc h1 h.1
  go_enter RX,RK
  go_wp2_with fail
  refine(YB _ _ _ _).mono ?_;rintro e w' ⟨rfl,rfl⟩;rw[h1];go_wp2
  go_ret2
  exact⟨by rw[E.out];rfl,rfl⟩
 cases h2:Nn (0<=out/\out<=act)
 ·have E:M6 (acP out act per=(Nb,2)):=Nf fun h=>Nc h2 h.2.1
  go_enter RX,RK
  go_wp2_with fail
  refine(YB _ _ _ _).mono ?_;rintro e w' ⟨rfl,rfl⟩;rw[h1]
  go_wp2_with fail
  refine(YB _ _ _ _).mono ?_;rintro e w' ⟨rfl,rfl⟩;rw[h2];go_wp2
  go_ret2
  exact⟨by rw[E.out];rfl,rfl⟩
 cases h3:Nn (0<=per/\per<=100)
 ·have E:M6 (acP out act per=(Nb,2)):=Nf fun h=>Nc h3 h.2.2
  go_enter RX,RK
  go_wp2_with fail
  refine(YB _ _ _ _).mono ?_;rintro e w' ⟨rfl,rfl⟩;rw[h1]
  go_wp2_with fail
  refine(YB _ _ _ _).mono ?_;rintro e w' ⟨rfl,rfl⟩;rw[h2]
  go_wp2_with fail
  refine(YB _ _ _ _).mono ?_;rintro e w' ⟨rfl,rfl⟩;rw[h3];go_wp2
  go_ret2
  exact⟨by rw[E.out];rfl,rfl⟩
 ·have E:M6 (acP out act per=(Nn ((out+1)*100<=per*act),0)):=Nh ⟨M2 h1,M2 h2,M2 h3⟩
  have i:=M2 h1;have m:=M2 h2;have j:=M2 h3;have q:0<=per*act:=Int.mul_nonneg j.1 i.1;have z:per*act<=1200:=(Px j.2 i.2 i.1 (by omega):per*act<=100*12);obtain⟨s,p⟩:=i;obtain⟨x,A⟩:=m;have y:out<=12:=by omega
  clear j;go_enter RX,RK
  go_wp2_with fail
  refine(YB _ _ _ _).mono ?_;rintro e w' ⟨rfl,rfl⟩;rw[h1]
  go_wp2_with fail
  refine(YB _ _ _ _).mono ?_;rintro e w' ⟨rfl,rfl⟩;rw[h2]
  go_wp2_with fail
  refine(YB _ _ _ _).mono ?_;rintro e w' ⟨rfl,rfl⟩;rw[h3];go_wp2
  go_ret2
  exact⟨by rw[E.out];rfl,rfl⟩
theorem arx{now:Int}(hw:ZT n f d)(hnow:0<=now/\now<=1099511627776)(hh:ZO n l.length o u t)(h:o=Nb\/now<u):Ze n f d l o u t now=((l,o,u,t),Nb,0):=by
 unfold Ze YR;rw[Nh hw,Nh hnow,Nh hh,Nh rfl,Nf];rintro⟨h1,h2⟩;rcases h with h|h
 ·rw[h1]at h;cases h
 ·omega
end Go.Proofs.YtgnclkcdnbfeeaaGreatDoor.Q
