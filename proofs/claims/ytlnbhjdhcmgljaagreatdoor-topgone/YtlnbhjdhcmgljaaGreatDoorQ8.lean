/-
  Contracts of the layers and of core, part 8. Conditions: as each theorem says.
-/
import Derived.Deep.Upon
import Derived.BigQuiet
import Derived.Lib.AppendZerosOnto
import Derived.Shelf.SlSortCmp.QuietGrown
import Derived.Deep.CutRange
import Derived.Test.YtlnbhjdhcmgljaaGreatDoorQ0
open Bool renaming false->Nb,true->Nw
open Decidable renaming decide->Nn
open Go renaming Addr->Oc,Calls->Ni,TypeId->NU,Value->M7,World->MO,bodyPost_ret->Np,cell_grown->Ob,grownCap->QR,heap_alloc_new->M1,heap_setCell_same->NI,info_parts->OF,maxLen->NE,results->Pf,undef->PL,wpQuiet_nil->Oy,wp_region_quiet_grown->NQ
open Go.Builtin renaming append_->N2,zeroCells->N5
open Go.Calls renaming grown_of->NZ,mono->Nd
open Go.Ending renaming returned->MN
open Go.IntKind renaming i64->ME
open Go.Obj renaming cells->MP
open Go.Proofs.Tryz renaming func132->Rp,func146->SL,func193->Rk,func214->ZqC,func230->R1,func241->PH,func243->S5,func244->VT,func257->QP,func85->Wd,ntmps132->Q6,ntmps146->Sn,ntmps193->Q3,ntmps214->Sz,ntmps230->RN,ntmps241->PA,ntmps243->SD,ntmps244->VK,ntmps257->QE,ntmps85->VU,prog->MK,results146->Up,results214->Vf,results243->Vz,underlying3->Ol,underlying92->VE,underlying94->Vi
open Go.RowKit renaming Below->MQ,Hid->M6,intOf->On
open Go.RowKit.Below renaming heap_setCell->MU,refl->MY
open Go.Sort renaming grow->Oj
open Go.Value renaming agg->Ny,bool->M3,int->MF,ownBlock->QQ,pointer->Na,slice->MG,tuple->Nv
open Go.World renaming block_lt_of_cell?->MX,cell?->Nl,frozen?->Ng,ownsRow_nil->NY
open Int renaming eq_ofNat_of_zero_le->NL,mul_le_mul->Px,toNat_natCast->NR
open List renaming append_nil->OG,countP_append->Qi,length_append->Ns,length_drop->NJ,length_take->NH,nil_append->Oz,take_length->NT,take_succ_eq_append_getElem->M9
open Nat renaming le_refl->MV,le_trans->Nm,zero_add->Oa,zero_le->Nx
open Option renaming none->MH,some->MI
open Or renaming inl->Nt,inr->NF
namespace Go.Proofs.YtlnbhjdhcmgljaaGreatDoor.Q
set_option linter.unusedVariables false
set_option linter.unusedSimpArgs false
set_option maxHeartbeats 16000000
set_option maxRecDepth 100000
open Go.RowKit
attribute [local go_sem ↓] Go.wp_at_zero Go.wp_at_succ
variable {o:Bool}{d f n t u:Int}{l:List Bool}{xs:List M7}{a b c v:M7}{W w w':MO}{T:NU}{base g k:Nat}
def bF(l:List Bool):List Value:=l.map fun x=>M3 x
theorem mt(l:List Bool):(bF l).length=l.length:=by simp[bF]
theorem wW(l:List Bool)(i:Nat)(h:i<l.length):(bF l)[i]?=MI (M3 l[i]):=by simp[bF,h]
def bK(w:MO)(v:M7)(l:List Bool):Prop:=aR w v l.length (bF l)
theorem bK.below(h:bK w v l)(hb:MQ w.heap.size w w'):bK w' v l:=aR.below h hb
theorem bK.F6(h:bK w v l):
  ∃a cap,v=MG a l.length cap/\l.length<=cap/\cap<=NE/\∀i (hi:i<l.length),∃b off,a=MI ⟨b,off,MH⟩/\b<w.heap.size/\w.cell? ⟨b,off+i,MH⟩=MI (M3 l[i]):=by
 obtain⟨a,cap,hv,hc,hm,h1|⟨b,off,h1,h2,h3⟩⟩:=h
 ·exact⟨a,cap,hv,hc,hm,fun i hi=>absurd hi (by omega)⟩
 ·exact⟨a,cap,hv,hc,hm,fun i hi=>⟨b,off,h1,h2,by rw[h3 i (by rw[mt];omega)];exact wW l i hi⟩⟩
theorem zX(a b:List Bool):bF (a++b)=bF a++bF b:=by simp[bF]
theorem xm(l:List Bool):∀u∈bF l,u.oneCell'=true:=by
 intro u hu;obtain⟨x,_,rfl⟩:=List.mem_map.1 hu;rfl
theorem tG:(Tryz.prog.info? 4).map (fun i=>(i.zero,i.size,i.bytes))=MI (MI (M3 Nb),1,1):=by kernel_rfl
theorem iW(h:w.ownsRow base 4 1 v l.length (bF l)):bK w v l:=bP h
theorem pC(w:MO):bK w (MG MH 0 0) []:=dZ w
theorem bK.Ga(h:bK w v l):∃p c,v=MG p l.length c:=by
 obtain⟨p,c,rfl,_⟩:=h;exact⟨p,c,rfl⟩
abbrev dR(n f d:Int):Prop:=(1<=n/\n<=16)/\(1<=f/\f<=n)/\(1<=d/\d<=500)
def fW(n f d:Int):Int:=if dR n f d then 0 else 2
abbrev dI(n:Int)(k:Nat)(o:Bool)(u t:Int):Prop:=(k:Int)<=n/\(0<=t/\t<=10)/\(0<=u/\u<=1099511628276)/\(o=Nw\/u=0)
def cD(n f d:Int)(k:Nat)(o:Bool)(u t now:Int):Int :=
 if dR n f d then(if 0<=now/\now<=1099511627776 then(if dI n k o u t then 0 else 6)else 2)else 2
theorem Ef(h:dR n f d):fW n f d=0:=Nh h
theorem zG(h:¬dR n f d):fW n f d=2:=Nf h
theorem uY(n f d:Int)(k:Nat)(o:Bool)(u t now:Int):(cD n f d k o u t now=2/\(¬dR n f d\/¬(0<=now/\now<=1099511627776)))\/(cD n f d k o u t now=6/\dR n f d/\(0<=now/\now<=1099511627776)/\¬dI n k o u t)\/(cD n f d k o u t now=0/\dR n f d/\(0<=now/\now<=1099511627776)/\dI n k o u t):=by
 unfold cD
 by_cases h:dR n f d
 ·rw[Nh h]
  by_cases h2:0<=now/\now<=1099511627776
  ·rw[Nh h2]
   by_cases h3:dI n k o u t
   ·rw[Nh h3];exact NF (NF ⟨rfl,h,h2,h3⟩)
   ·rw[Nf h3];exact NF (Nt ⟨rfl,h,h2,h3⟩)
  ·rw[Nf h2];exact Nt ⟨rfl,NF h2⟩
 ·rw[Nf h];exact Nt ⟨rfl,Nt h⟩
abbrev cO(v:M7)(o:Bool)(u t:Int):Value:=Ny #[v,M3 o,MF ME u,MF ME t]
theorem cd(n lo hi:Int)(w:MO):Ni MK 132 #[MF ME n,MF ME lo,MF ME hi] w fun r w'=>r=MN (M3 (Nn (lo<=n/\n<=hi)))/\w'=w:=by
 obtain⟨ans,hans⟩:∃ans,ans=Nn (lo<=n/\n<=hi):=⟨_,rfl⟩;rw[<-hans];have H:M6 _:=hans;clear hans;cases h1:Nn (lo<=n)
 ·go_enter Rp,Q6
  go_wp2;go_ret;exact⟨by rw[H.out,M0 (fun h=>Nc h1 h.1)];rfl,rfl⟩
 ·cases h2:Nn (n<=hi)
  ·go_enter Rp,Q6
   go_wp2;go_ret;exact⟨by rw[H.out,M0 (fun h=>Nc h2 h.2)];rfl,rfl⟩
  ·go_enter Rp,Q6
   go_wp2;go_ret;exact⟨by rw[H.out,Nq ⟨M2 h1,M2 h2⟩];rfl,rfl⟩
theorem oW(n f d:Int)(w:MO):Ni MK 85 #[iR n f d] w fun r w'=>r=MN (MF ME (fW n f d))/\MQ w.heap.size w w':=by
 obtain⟨W0,hW0⟩:∃W0,W0=w.alloc (MP #[MF ME n,MF ME f,MF ME d] 32):=⟨_,rfl⟩;have hB0:W0.heap[w.heap.size]?=MI (MP #[MF ME n,MF ME f,MF ME d] 32 (0,0)):=by rw[hW0];exact M1 _ _
 have hb0:MQ w.heap.size w W0:=by rw[hW0];exact ai _
 obtain⟨c0,c1,c2,_⟩:=lK hB0;have H:M6 (_/\_):=⟨hW0,hb0⟩;clear hW0 hb0 hB0;cases h1:Nn (1<=n/\n<=16)
 ·have E:M6 (fW n f d=2):=Nf fun h=>Nc h1 h.1
  go_enter Wd,VU
  go_wp2_with fail
  rw[<-H.out.1];refine(cd _ _ _ _).mono ?_;rintro e w' ⟨rfl,rfl⟩;rw[h1];go_wp2;go_ret;exact⟨by rw[E.out];rfl,H.out.2⟩
 cases h2:Nn (1<=f/\f<=n)
 ·have E:M6 (fW n f d=2):=Nf fun h=>Nc h2 h.2.1
  go_enter Wd,VU
  go_wp2_with fail
  rw[<-H.out.1];refine(cd _ _ _ _).mono ?_;rintro e w' ⟨rfl,rfl⟩;rw[h1]
  go_wp2_with fail
  refine(cd _ _ _ _).mono ?_;rintro e w' ⟨rfl,rfl⟩;rw[h2];go_wp2;go_ret;exact⟨by rw[E.out];rfl,H.out.2⟩
 cases h3:Nn (1<=d/\d<=500)
 ·have E:M6 (fW n f d=2):=Nf fun h=>Nc h3 h.2.2
  go_enter Wd,VU
  go_wp2_with fail
  rw[<-H.out.1];refine(cd _ _ _ _).mono ?_;rintro e w' ⟨rfl,rfl⟩;rw[h1]
  go_wp2_with fail
  refine(cd _ _ _ _).mono ?_;rintro e w' ⟨rfl,rfl⟩;rw[h2]
  go_wp2_with fail
  refine(cd _ _ _ _).mono ?_;rintro e w' ⟨rfl,rfl⟩;rw[h3];go_wp2;go_ret;exact⟨by rw[E.out];rfl,H.out.2⟩
 ·have E:M6 (fW n f d=0):=Nh ⟨M2 h1,M2 h2,M2 h3⟩
  go_enter Wd,VU
  go_wp2_with fail
  rw[<-H.out.1];refine(cd _ _ _ _).mono ?_;rintro e w' ⟨rfl,rfl⟩;rw[h1]
  go_wp2_with fail
  refine(cd _ _ _ _).mono ?_;rintro e w' ⟨rfl,rfl⟩;rw[h2]
  go_wp2_with fail
  refine(cd _ _ _ _).mono ?_;rintro e w' ⟨rfl,rfl⟩;rw[h3];go_wp2;go_ret;exact⟨by rw[E.out];rfl,H.out.2⟩
theorem rC{d:M7}(h:w.heap[g]?=MI (MP #[a,b,c,d] T (0,0))):w.cell? ⟨g,0,MH⟩=MI a/\w.cell? ⟨g,1,MH⟩=MI b/\w.cell? ⟨g,2,MH⟩=MI c/\w.cell? ⟨g,3,MH⟩=MI d/\g<w.heap.size :=
 ⟨by simp[Nl,h],by simp[Nl,h],by simp[Nl,h],by simp[Nl,h],(Array.getElem?_eq_some_iff.1 h).1⟩
theorem ry{d:M7}(h:w.heap[g]?=MI (MP #[a,b,c,d] T (0,0))):w.frozen? ⟨g,0,MH⟩=Nb/\w.frozen? ⟨g,1,MH⟩=Nb/\w.frozen? ⟨g,2,MH⟩=Nb/\w.frozen? ⟨g,3,MH⟩=false :=
 ⟨by simp[Ng,h],by simp[Ng,h],by simp[Ng,h],by simp[Ng,h]⟩
def Hx(w W:MO)(n f d:Int)(v:M7)(o:Bool)(u t:Int):Prop :=
 W.heap[w.heap.size]?=MI (MP #[MF ME n,MF ME f,MF ME d] 32 (0,0))/\W.heap[w.heap.size+1]?=MI (MP #[v,M3 o,MF ME u,MF ME t] 94 (0,0))/\MQ w.heap.size w W
theorem qv(w:MO)(n f d:Int)(v:M7)(o:Bool)(u t:Int):Hx w ((w.alloc (MP #[MF ME n,MF ME f,MF ME d] 32)).alloc (MP #[v,M3 o,MF ME u,MF ME t] 94)) n f d v o u t :=
 ⟨aN _ _ (M1 _ _),bV _ _ _,((MY _ _).alloc (MV _) _).alloc (by simp) _⟩
theorem Hx.below{W':MO}(h:Hx w W n f d v o u t)(hb:MQ W.heap.size W W'):Hx w W' n f d v o u t :=
 ⟨af h.1 hb,af h.2.1 hb,h.2.2.trans (hb.mono h.2.2.size)⟩
theorem Hx.Gg(h:Hx w W n f d v o u t):W.cell? ⟨w.heap.size,0,MH⟩=MI (MF ME n)/\W.cell? ⟨w.heap.size,1,MH⟩=MI (MF ME f)/\W.cell? ⟨w.heap.size,2,MH⟩=MI (MF ME d)/\W.cell? ⟨w.heap.size+1,0,MH⟩=MI v/\W.cell? ⟨w.heap.size+1,1,MH⟩=MI (M3 o)/\W.cell? ⟨w.heap.size+1,2,MH⟩=MI (MF ME u)/\W.cell? ⟨w.heap.size+1,3,MH⟩=MI (MF ME t):=by
 obtain⟨c0,c1,c2,_⟩:=lK h.1;obtain⟨c3,c4,c5,c6,_⟩:=rC h.2.1;exact⟨c0,c1,c2,c3,c4,c5,c6⟩
theorem vX(n f d:Int)(p:Option Oc)(k c:Nat)(o:Bool)(u t:Int)(w:MO)(hn:n<=16):Ni MK 230 #[iR n f d,cO (MG p k c) o u t] w fun r w'=>r=MN (M3 (Nn (dI n k o u t)))/\MQ w.heap.size w w':=by
 obtain⟨W0,hW0⟩:∃W0,W0=(w.alloc (MP #[MF ME n,MF ME f,MF ME d] 32)).alloc (MP #[MG p k c,M3 o,MF ME u,MF ME t] 94):=⟨_,rfl⟩;have hX0:Hx w W0 n f d (MG p k c) o u t:=by rw[hW0];exact qv _ _ _ _ _ _ _ _
 obtain⟨c0,c1,c2,c3,c4,c5,c6⟩:=hX0.Gg;have H:M6 (_/\MQ w.heap.size w W0):=⟨hW0,hX0.2.2⟩;clear hW0 hX0;cases h1:Nn ((k:Int)<=n)
 ·have E:M6 (Nn (dI n k o u t)=Nb):=M0 fun h=>Nc h1 h.1
  go_enter R1,RN
  go_wp2_with fail
  rw[<-H.out.1];go_wp2;go_ret;exact⟨by rw[E.out];rfl,H.out.2⟩
 cases h2:Nn (0<=t/\t<=10)
 ·have E:M6 (Nn (dI n k o u t)=Nb):=M0 fun h=>Nc h2 h.2.1
  go_enter R1,RN
  go_wp2_with fail
  rw[<-H.out.1];refine(cd _ _ _ _).mono ?_;rintro e w' ⟨rfl,rfl⟩;rw[h2];go_wp2;go_ret;exact⟨by rw[E.out];rfl,H.out.2⟩
 cases h3:Nn (0<=u/\u<=1099511628276)
 ·have E:M6 (Nn (dI n k o u t)=Nb):=M0 fun h=>Nc h3 h.2.2.1
  go_enter R1,RN
  go_wp2_with fail
  rw[<-H.out.1];refine(cd _ _ _ _).mono ?_;rintro e w' ⟨rfl,rfl⟩;rw[h2]
  go_wp2_with fail
  refine(cd _ _ _ _).mono ?_;rintro e w' ⟨rfl,rfl⟩;rw[h3];go_wp2;go_ret;exact⟨by rw[E.out];rfl,H.out.2⟩
 cases o
 ·have E:M6 (Nn (dI n k Nb u t)=(u == 0)):=Bool.eq_iff_iff.2 ⟨fun h=>by simpa using(M2 h).2.2.2.resolve_left (by decide),fun h=>Nq ⟨M2 h1,M2 h2,M2 h3,NF (by simpa using h)⟩⟩
  go_enter R1,RN
  go_wp2_with fail
  rw[<-H.out.1];refine(cd _ _ _ _).mono ?_;rintro e w' ⟨rfl,rfl⟩;rw[h2]
  go_wp2_with fail
  refine(cd _ _ _ _).mono ?_;rintro e w' ⟨rfl,rfl⟩;rw[h3];go_wp2;go_ret;exact⟨by rw[E.out];rfl,H.out.2⟩
 ·have E:M6 (Nn (dI n k Nw u t)=Nw):=Nq ⟨M2 h1,M2 h2,M2 h3,Nt rfl⟩
  go_enter R1,RN
  go_wp2_with fail
  rw[<-H.out.1];refine(cd _ _ _ _).mono ?_;rintro e w' ⟨rfl,rfl⟩;rw[h2]
  go_wp2_with fail
  refine(cd _ _ _ _).mono ?_;rintro e w' ⟨rfl,rfl⟩;rw[h3];go_wp2;go_ret;exact⟨by rw[E.out];rfl,H.out.2⟩
theorem vF(n f d:Int)(p:Option Oc)(k c:Nat)(o:Bool)(u t now:Int)(w:MO):Ni MK 193 #[iR n f d,cO (MG p k c) o u t,MF ME now] w fun r w'=>r=MN (MF ME (cD n f d k o u t now))/\MQ w.heap.size w w':=by
 obtain⟨W0,hW0⟩:∃W0,W0=(w.alloc (MP #[MF ME n,MF ME f,MF ME d] 32)).alloc (MP #[MG p k c,M3 o,MF ME u,MF ME t] 94):=⟨_,rfl⟩;have hX0:Hx w W0 n f d (MG p k c) o u t:=by rw[hW0];exact qv _ _ _ _ _ _ _ _
 obtain⟨c0,c1,c2,c3,c4,c5,c6⟩:=hX0.Gg;have H:M6 (_/\Hx _ _ _ _ _ _ _ _ _):=⟨hW0,hX0⟩;clear hW0 hX0;go_enter Rk,Q3
 go_wp2_with fail
 rw[<-H.out.1];refine(oW n f d _).mono ?_;rintro r w1 ⟨rfl,hb1⟩;have hX1:=H.out.2.below hb1;clear c0 c1 c2 c3 c4 c5 c6 hb1 H;obtain⟨c0,c1,c2,c3,c4,c5,c6⟩:=hX1.Gg;have HX:M6 (Hx _ _ _ _ _ _ _ _ _):=hX1;clear hX1
 by_cases hok:dR n f d
 ·rw[Ef hok]
  have hn:=hok.1.2;cases h2:Nn (0<=now/\now<=1099511627776)
  ·have E:M6 (cD n f d k o u t now=2):=(by unfold cD;rw[Nh hok,Nf (Nc h2)]:cD n f d k o u t now=2)
   clear hok
   go_wp2_with fail
   refine(cd _ _ _ _).mono ?_;rintro e w' ⟨rfl,rfl⟩;rw[h2];go_wp2;go_ret;exact⟨by rw[E.out];rfl,HX.out.2.2⟩
  cases h3:Nn (dI n k o u t)
  ·have E:M6 (cD n f d k o u t now=6):=(by unfold cD;rw[Nh hok,Nh (M2 h2),Nf (Nc h3)]:cD n f d k o u t now=6)
   have H3:M6 _:=h3;clear hok h3
   go_wp2_with fail
   refine(cd _ _ _ _).mono ?_;rintro e w' ⟨rfl,rfl⟩;rw[h2]
   go_wp2_with fail
   refine(vX n f d p k c o u t _ hn).mono ?_;rintro r w2 ⟨rfl,hb2⟩;rw[H3.out];have HB:M6 _:=HX.out.2.2.trans (hb2.mono HX.out.2.2.size);clear hb2 c0 c1 c2 c3 c4 c5 c6;go_wp2;go_ret;exact⟨by rw[E.out];rfl,HB.out⟩
  ·have E:M6 (cD n f d k o u t now=0):=(by unfold cD;rw[Nh hok,Nh (M2 h2),Nh (M2 h3)]:cD n f d k o u t now=0)
   have H3:M6 _:=h3;clear hok h3
   go_wp2_with fail
   refine(cd _ _ _ _).mono ?_;rintro e w' ⟨rfl,rfl⟩;rw[h2]
   go_wp2_with fail
   refine(vX n f d p k c o u t _ hn).mono ?_;rintro r w2 ⟨rfl,hb2⟩;rw[H3.out];have HB:M6 _:=HX.out.2.2.trans (hb2.mono HX.out.2.2.size);clear hb2 c0 c1 c2 c3 c4 c5 c6;go_wp2;go_ret;exact⟨by rw[E.out];rfl,HB.out⟩
 ·rw[zG hok]
  have E:M6 (cD n f d k o u t now=2):=Nf hok;clear hok;go_wp2;go_ret;exact⟨by rw[E.out];rfl,HX.out.2.2⟩
theorem pQ{p:Option Oc}{c:Nat}{m:List Bool}(ho:w.ownsRow base 4 1 (MG p k c) k (bF m))(hb:base<=w.heap.size)(hk:k<=1000)(ty:NU)(u:M7)(hu:bK w u l)(hl:l.length<=1000):
  ∃p' c' w',(N2 #[92,92] ty #[MG p k c,u]).run MK w=.ok (MG p' (k+l.length) c') w' /\
   w'.ownsRow base 4 1 (MG p' (k+l.length) c') (k+l.length) (bF (m++l))/\MQ base w w':=by
 obtain⟨i0,hi,hz0,hz1,hz2⟩:=OF tG;obtain⟨a,cap,rfl,hc,hm,h⟩:=hu
 by_cases h0:l.length=0
 ·obtain rfl:l=[]:=List.length_eq_zero_iff.1 h0
  rw[OG];have hkc:k<=c/\c<=maxLen:=by
   rcases ho.2 with⟨he,h2⟩|⟨g,cap,cur,he,_,_,h5,h6,_⟩
   ·cases he;exact⟨MV _,by unfold NE;omega⟩
   ·cases he;exact⟨h5,h6⟩
  exact⟨p,c,w,kR w _ ty _ i0 VE hi p k c hkc.1 hkc.2 a cap,ho,MY _ _⟩
 ·rcases h with⟨h,_⟩|⟨b,off,rfl,hb2,hcell⟩
  ·exact absurd h h0
  ·obtain⟨v',w',hr,ho',hg,_⟩:=run_append_own (P:=MK) w base 92 ty 4 i0 _ 1 1 VE hi hz0 hz1 hz2 rfl (by decide) (MG p k c) k (bF m) ho ⟨b,off,MH⟩ l.length cap (bF l) (by rw[mt];omega) (fun j x hx=>by
    have hj:=(List.getElem?_eq_some_iff.1 hx).1;rw[eJ,hcell j hj,hx]) (xm l) (by unfold NE;omega) (by omega) hb
   rw[<-zX]at ho';obtain⟨p',c',rfl⟩:=cR ho';exact⟨p',c',w',hr,ho',(MY _ _).grown hg hb (fun j e=>(ho.lt j e).1)⟩
theorem sv(v:M7)(l:List Bool)(w:MO)(hv:bK w v l)(hl:l.length<=1000) :
  Ni MK 102 #[v] w fun r w'=>∃p c,r=MN (MG p l.length c)/\w'.ownsRow w.heap.size 4 1 (MG p l.length c) l.length (bF l)/\MQ w.heap.size w w':=by
 obtain⟨p,c,rfl⟩:=hv.Ga;cases p with
 |none =>
  obtain rfl:l=[]:=by
   obtain⟨a,cap,he,_,_,h|⟨b,off,rfl,_⟩⟩:=hv
   ·exact List.length_eq_zero_iff.1 h.1
   ·cases he
  clear hv;have hnil:∀W,(binOp .eql 92 (MG MH 0 c) (MG MH 0 0)).run MK W=.ok (M3 Nw) W:=fun W=>by kernel_rfl
  go_enter Tryz.func102,Tryz.ntmps102;go_wp2;go_ret;exact⟨MH,0,rfl,NY _ _ _ _,MY _ _⟩
 |some q =>
  have hnil:∀W,(binOp .eql 92 (MG (MI q) l.length c) (MG MH 0 0)).run MK W=.ok (M3 Nb) W:=fun W=>by kernel_rfl
  have hown:(w.alloc (MP #[] 4)).ownsRow w.heap.size 4 1 (MG (MI ⟨w.heap.size,0,MH⟩) 0 0) 0 (bF []):=
   ⟨rfl,NF ⟨w.heap.size,0,#[],rfl,MV _,M1 _ _,MV _,Nx _,rfl,rfl⟩⟩
  obtain⟨p',c',w4,hr,ho,hb4⟩:=pQ hown (by simp) (by omega) 92 _ (hv.below (ai w)) hl;rw[Oa,Oz]at ho;rw[Oa]at hr;have HQ:M6 (_/\_/\_):=⟨hr,(ai w).trans hb4,ho⟩;clear hr hb4 ho hv hown;go_enter Tryz.func102,Tryz.ntmps102
  go_wp2_with (at_builtin;(with_reducible refine d7 rfl _ _ 92 rfl (MG (MI ⟨w.heap.size,0,MH⟩) 0 0) (MG (MI q) l.length c) (MG p' l.length c') w4 ?hs ?hx ?hr ?_);(case hs=>rfl);(case hx=>rfl);(case hr=>exact HQ.out.1))
  go_wp2;go_ret;exact⟨_,_,rfl,HQ.out.2.2,HQ.out.2.1⟩
theorem wU(n:Nat)(w:MO)(h0:0<n)(hn:n<=1000) :
  Ni MK 263 #[MG MH 0 0,MF ME n] w fun r w'=>∃g c,r=MN (MG (MI ⟨g,0,MH⟩) 0 c)/\w'.ownsRow w.heap.size 4 1 (MG (MI ⟨g,0,MH⟩) 0 c) 0 (bF [])/\MQ w.heap.size w w':=by
 obtain⟨i0,hi,hz0,hz1,hz2⟩:=OF tG;have hrz:∀ty,(N2 #[92,3] ty #[MG MH 0 0,MF ME n]).run MK w=.ok (MG (MI ⟨w.heap.size,0,MH⟩) n (QR w n 0 4)) (w.drew.alloc (MP (([]:List M7).toArray++N5 (M3 Nb).cells n++N5 (M3 Nb).cells (QR w n 0 4-n)) 4)):=fun ty=>by
  have h:=Lib.run_append_grow_zeros (P:=MK) w 92 3 ty 4 i0 (M3 Nb) ME ME VE Ol hi hz0 MH 0 0 [] (run_firstCells_none w.drew i0.size 0 0 0) n h0 (by omega) (by omega) (by omega) (by rw[hz2];omega) (growslice_fits (by omega) (by rw[hz2];omega))
  simpa using h
 have hG:=grownCap_ge w n 0 4;have hG2:=grownCap_le_maxLen w n 0 4 (by unfold NE;omega);obtain⟨G,hGe⟩:∃G,G=QR w n 0 4:=⟨_,rfl⟩;rw[<-hGe]at hrz hG hG2;obtain⟨cs,hcs⟩:∃cs,cs=([]:List M7).toArray++N5 (M3 Nb).cells n++N5 (M3 Nb).cells (G-n):=⟨_,rfl⟩;have hsz:cs.size=G*1:=by rw[hcs];simp[size_zeroCells,Value.cells];omega
 rw[<-hcs]at hrz;have hown:(w.drew.alloc (MP cs 4)).ownsRow w.heap.size 4 1 (MG (MI ⟨w.heap.size,0,MH⟩) 0 G) 0 (bF []):=
  ⟨rfl,NF ⟨w.heap.size,G,cs,rfl,MV _,M1 w.drew _,Nx _,hG2,hsz,by simp[bF]⟩⟩
 have hbel:MQ w.heap.size w (w.drew.alloc (MP cs 4)):=((MY _ _).drew).alloc (MV _) _;have HQ:M6 (_/\_):=⟨hown,hbel⟩;have h1:¬((n:Int)<0):=by omega
 have h2:(0:Int)<(n:Int):=by omega
 unfold NE at hG2;clear hown hbel hsz hcs hGe hi hz0 hz1 hz2;go_enter Tryz.func263,Tryz.ntmps263
 go_wp2_with (at_builtin;refine Lib.wpList_append_run _ rfl _ _ _ _ rfl _ _ rfl rfl _ _ (hrz _) ?_)
 all_goals (go_ret;exact⟨_,_,rfl,HQ.out.1,HQ.out.2⟩)
theorem L8(p:Option Oc)(c:Nat)(l:List Bool)(x:Bool)(g g2:Nat)(w:MO)(hv:bK w (MG p l.length c) l)(hl:l.length<=16)
  (hg:w.heap[g]?=MI (MP #[MG p l.length c,MG (MI ⟨g2,0,MH⟩) 1 1] 92 (0,0))) (hx:bK w (MG (MI ⟨g2,0,MH⟩) 1 1) [x]) :
  Ni MK 257 #[MG (MI ⟨g,0,MH⟩) 2 2] w fun r w'=>∃p' c',r=MN (MG p' (l.length+1) c')/\w'.ownsRow w.heap.size 4 1 (MG p' (l.length+1) c') (l.length+1) (bF (l++[x]))/\MQ w.heap.size w w':=by
 obtain⟨a,ca,he,hca,hcm,_⟩:=hv.F6;cases he;unfold NE at hcm;obtain⟨c0,c1,_⟩:=au hg;have HV:M6 (_/\_/\_):=⟨hv,hx,hg⟩;clear hv hx hg;obtain⟨k,hk⟩:∃k,k=l.length:=⟨_,rfl⟩;have HK:M6 _:=hk;rw[<-hk]at c0 hca hl⊢;clear hk;go_enter QP,QE;go_wp2
 go_loopw [3,11] (fun s i wr=>w=wr/\((i=MF ME 0/\s=MF ME 0)\/(i=MF ME 1/\s=MF ME k)\/(i=MF ME 2/\s=MF ME ((k:Int)+1)))) (fun _ i _=>2-(On i).toNat)
 case atStart=>exact⟨rfl,Nt ⟨rfl,rfl⟩⟩
 case round =>
  obtain⟨rfl,⟨rfl,rfl⟩|⟨rfl,rfl⟩|⟨rfl,rfl⟩⟩:=hrel
  ·go_wp2
   go_roundw
   case rel=>exact⟨trivial,NF (Nt ⟨rfl,rfl⟩)⟩
   case measure=>simp[On]
  ·go_wp2
   go_roundw
   case rel=>exact⟨trivial,NF (NF ⟨rfl,rfl⟩)⟩
   case measure=>simp[On]
  ·have hG:∀W:MO,Ni MK 263 #[MG MH 0 0,MF ME ((k:Int)+1)] W fun r w'=>∃g c,r=MN (MG (MI ⟨g,0,MH⟩) 0 c)/\w'.ownsRow W.heap.size 4 1 (MG (MI ⟨g,0,MH⟩) 0 c) 0 (bF [])/\MQ W.heap.size W w':=fun W=>by
    have:=wU (k+1) W (by omega) (by omega);rwa[Int.natCast_add]at this
   have HG:M6 _:=hG;clear hG
   go_wp2_with fail
   refine(HG.out _).mono ?_;rintro r w1 ⟨g',c',rfl,ho,hb1⟩;have HW:M6 (_/\_):=⟨ho,hb1⟩;clear ho hb1 c0 c1 HG;go_wp2
   go_loopw [6,27] (fun s i wr=>∃q d,MQ w.heap.size w wr/\((i=MF ME 0/\s=MG q 0 d/\wr.ownsRow w.heap.size 4 1 (MG q 0 d) 0 (bF []))\/(i=MF ME 1/\s=MG q k d/\wr.ownsRow w.heap.size 4 1 (MG q k d) k (bF l))\/(i=MF ME 2/\s=MG q (k+1) d/\wr.ownsRow w.heap.size 4 1 (MG q (k+1) d) (k+1) (bF (l++[x]))))) (fun _ i _=>2-(On i).toNat)
   case atStart=>exact⟨_,_,HW.out.2,Nt ⟨rfl,rfl,HW.out.1⟩⟩
   case round =>
    obtain⟨q,d,hb,⟨rfl,rfl,ho⟩|⟨rfl,rfl,ho⟩|⟨rfl,rfl,ho⟩⟩:=hrel
    ·have hg':=af HV.out.2.2 hb
     obtain⟨c0,c1,_⟩:=au hg';obtain⟨q',d',w5,hr,ho',hb'⟩:=pQ ho hb.size (by omega) 92 _ (HV.out.1.below hb) (by rw[<-HK.out];omega);rw[Oa,Oz,<-HK.out]at ho';rw[Oa]at hr;rw[<-HK.out]at hr c0;have HQ:M6 (_/\_/\_):=⟨hr,ho',hb.trans hb'⟩;clear hr ho' hb' hb ho hg'
     go_wp2_with (at_builtin;(with_reducible refine d7 rfl _ _ 92 rfl (MG q 0 d) (MG p k c) (MG q' k d') w5 ?hs ?hx ?hr ?_);(case hs=>rfl);(case hx=>rfl);(case hr=>exact HQ.out.1))
     go_wp2
     go_roundw
     case rel=>exact⟨_,_,HQ.out.2.2,NF (Nt ⟨rfl,rfl,HQ.out.2.1⟩)⟩
     case measure=>simp[On]
    ·have hg':=af HV.out.2.2 hb
     obtain⟨c0,c1,_⟩:=au hg';obtain⟨q',d',w5,hr,ho',hb'⟩:=pQ ho hb.size (by omega) 92 _ (HV.out.2.1.below hb) (by simp);have HQ:M6 (_/\_/\_):=⟨hr,ho',hb.trans hb'⟩;clear hr ho' hb' hb ho hg'
     go_wp2_with (at_builtin;(with_reducible refine d7 rfl _ _ 92 rfl (MG q k d) (MG (MI ⟨g2,0,MH⟩) 1 1) (MG q' (k+1) d') w5 ?hs ?hx ?hr ?_);(case hs=>rfl);(case hx=>rfl);(case hr=>exact HQ.out.1))
     go_wp2
     go_roundw
     case rel=>exact⟨_,_,HQ.out.2.2,NF (NF ⟨rfl,rfl,HQ.out.2.1⟩)⟩
     case measure=>simp[On]
    ·have HQ:M6 (_/\_):=⟨ho,hb⟩
     clear ho hb;go_wp2;go_ret;exact⟨_,_,rfl,HQ.out.1,HQ.out.2⟩
def dd(n:Int)(l:List Bool)(x:Bool):List Bool:=(if(l.length:Int)<n then l else l.drop 1)++[x]
theorem uq(x:Bool)(h:(l.length:Int)<=n)(h1:1<=n):((dd n l x).length:Int)=min ((l.length:Int)+1) n:=by
 unfold dd
 split
 ·simp;omega
 ·simp;omega
def eh(l:List Bool):Nat:=l.countP id
theorem sD(l:List Bool):eh l<=l.length:=List.countP_le_length
theorem Ar(l:List Bool)(x:Bool):eh (l++[x])=eh l+(if x then 1 else 0):=by
 unfold eh;rw[Qi];cases x <;> simp
theorem Az(v:M7)(l:List Bool)(w:MO)(hv:bK w v l) :
  Ni MK 242 #[v] w fun r w'=>r=MN (MF ME (eh l))/\w'=w:=by
 obtain⟨a,ca,rfl,hca,hma,pa⟩:=hv.F6;unfold NE at hma;clear hv;go_enter Tryz.func242,Tryz.ntmps242;go_wp2
 go_loopw [3,8] (fun s i wr=>∃(k:Nat),i=MF ME k/\s=MF ME (eh (l.take k))/\k<=l.length/\w=wr) (fun _ i _=>l.length-(On i).toNat)
 case atStart=>exact⟨0,rfl,by simp[eh],Nx _,rfl⟩
 case round =>
  obtain⟨k,rfl,rfl,hk,rfl⟩:=hrel
  by_cases hlt:k<l.length
  ·obtain⟨b1,o1,rfl,hb1,c1⟩:=pa k hlt
   have hs:eh (l.take (k+1))=eh (l.take k)+(if l[k]then 1 else 0):=by rw[M9 hlt,Ar]
   have hm:eh (l.take k)<=k:=Nm (sD _) (by rw[NH];omega);obtain⟨s,hss⟩:∃s,s=eh (l.take k):=⟨_,rfl⟩;rw[<-hss]at hs hm⊢;have hkd:(k:Int)<(l.length:Int):=by omega
   cases hx:l[k]
   ·rw[hx]at c1 hs
    have H:M6 _:=hs;clear hs hss hx pa;go_wp2
    go_roundw
    case rel=>exact⟨k+1,by simp,by rw[H.out];simp,hlt,trivial⟩
    case measure=>simp[On];omega
   ·rw[hx]at c1 hs
    have H:M6 _:=hs;clear hs hss hx pa;go_wp2
    go_roundw
    case rel=>exact⟨k+1,by simp,by rw[H.out];simp,hlt,trivial⟩
    case measure=>simp[On];omega
  ·obtain rfl:k=l.length:=by omega
   clear pa;rw[NT];go_wp2;go_ret;exact⟨rfl,rfl⟩
theorem bK.IH{a:Oc}{c:Nat}(h:bK w (MG (MI a) l.length c) l)(h0:0<l.length):∀p,(p=MI a/\l.length=1\/p=MI ⟨a.block,a.off+1,MH⟩)->bK w (MG p (l.drop 1).length (c-1)) (l.drop 1):=by
 obtain⟨a',cap,he,hc,hm,h1|⟨b,off,rfl,h2,h3⟩⟩:=h
 ·omega
 ·cases he
  rintro p (⟨rfl,hp⟩|rfl)
  ·refine⟨_,_,rfl,by rw[NJ];omega,by omega,Nt ⟨by rw[NJ];omega,?_⟩⟩
   have:(l.drop 1).length=0:=by rw[NJ];omega
   rw[List.length_eq_zero_iff.1 this];rfl
  ·refine⟨_,_,rfl,by rw[NJ];omega,by omega,NF ⟨b,off+1,rfl,h2,fun i hi=>?_⟩⟩
   rw[mt,NJ]at hi;have:=h3 (i+1) (by rw[mt];omega);rw[show off+1+i=off+(i+1)by omega,this];simp[bF]
theorem xH(w:MO)(x:Bool):bK (w.alloc (MP #[M3 x] 4)) (MG (MI ⟨w.heap.size,0,MH⟩) 1 1) [x]:=
 ⟨_,_,rfl,MV _,by unfold NE;omega,NF ⟨w.heap.size,0,rfl,by simp,fun i hi=>by
  have h:=iV w (bF [x]) 4;obtain rfl:i=0:=by simp[bF]at hi;exact hi
  have:=h 0 (M3 x) rfl;rw[fG]at this;exact this⟩⟩
theorem DS(n:Int)(v:M7)(l:List Bool)(x:Bool)(w:MO)(hv:bK w v l)(hn:1<=n/\n<=16)(hl:(l.length:Int)<=n) :
  Ni MK 241 #[MF ME n,v,M3 x] w fun r w'=>∃p c,r=MN (MG p (dd n l x).length c)/\w'.ownsRow w.heap.size 4 1 (MG p (dd n l x).length c) (dd n l x).length (bF (dd n l x))/\MQ w.heap.size w w':=by
 obtain⟨p,c,rfl,hc,hcm,_⟩:=hv.F6;unfold NE at hcm;have key:∀(q:Option Oc) (k d:Nat) (m:List Bool),m.length=k->m.length<=16->bK w (MG q k d) m->Ni MK 257 #[MG (MI ⟨w.heap.size+1,0,MH⟩) 2 2] ((w.alloc (MP #[M3 x] 4)).alloc (MP #[MG q k d,MG (MI ⟨w.heap.size,0,MH⟩) 1 1] 92)) fun r w'=>∃p' c' k',r=MN (MG p' k' c')/\k'=(m++[x]).length/\w'.ownsRow w.heap.size 4 1 (MG p' k' c') k' (bF (m++[x]))/\MQ w.heap.size w w':=by
  rintro q k d m rfl hm hq;have h1:MQ w.heap.size w (w.alloc (MP #[M3 x] 4)):=ai w;have h2:MQ (w.alloc (MP #[M3 x] 4)).heap.size (w.alloc (MP #[M3 x] 4)) ((w.alloc (MP #[M3 x] 4)).alloc (MP #[MG q m.length d,MG (MI ⟨w.heap.size,0,MH⟩) 1 1] 92)):=ai _;refine(L8 q d m x (w.heap.size+1) w.heap.size _ ((hq.below h1).below h2) hm (bV _ _ _) ((xH w x).below h2)).mono ?_;rintro r w' ⟨p',c',rfl,h3,h4⟩;refine⟨p',c',m.length+1,rfl,by rw[Ns];rfl,h3.mono (h1.trans (h2.mono h1.size)).size,?_⟩;exact(h1.trans (h2.mono h1.size)).trans (h4.mono (h1.trans (h2.mono h1.size)).size)
 by_cases hlt:(l.length:Int)<n
 ·have E:dd n l x=l++[x]:=by unfold dd;rw[Nh hlt]
  rw[E];have hmax:¬((0:Int)<(l.length:Int)+1-n):=by omega
  have K:M6 _:=key p l.length c l rfl (by omega) hv;clear key E hv;go_enter PH,PA
  go_wp2_with fail
  refine Nd K.out ?_;rintro r w' ⟨p',c',k',rfl,h2,h3,h4⟩;have H:M6 (_/\_/\_):=⟨h2,h3,h4⟩;clear h2 h3 h4;go_wp2;go_ret;exact⟨p',c',by rw[<-H.out.1];rfl,by rw[<-H.out.1];exact H.out.2.1,H.out.2.2⟩
 ·have E:dd n l x=l.drop 1++[x]:=by unfold dd;rw[Nf hlt]
  rw[E];obtain rfl:n=l.length:=by omega
  obtain⟨a,ca,he,_,_,h|⟨b,off,rfl,_⟩⟩:=id hv
  ·omega
  ·cases he
   by_cases hc1:c=1
   ·subst hc1
    have K:M6 _:=key (MI ⟨b,off,MH⟩) 0 0 (l.drop 1) (by simp;omega) (by simp;omega) (by have:=hv.IH (by omega) _ (Nt ⟨rfl,by omega⟩);rwa[NJ,show l.length-1=0 by omega]at this);clear key E hv;go_enter PH,PA
    go_wp2_with fail
    refine Nd K.out ?_;rintro r w' ⟨p',c',k',rfl,h2,h3,h4⟩;have H:M6 (_/\_/\_):=⟨h2,h3,h4⟩;clear h2 h3 h4;go_wp2;go_ret;exact⟨p',c',by rw[<-H.out.1];rfl,by rw[<-H.out.1];exact H.out.2.1,H.out.2.2⟩
   ·have K:M6 _:=key (MI ⟨b,off+1,MH⟩) (l.length-1) (c-1) (l.drop 1) (by simp) (by simp;omega) (by have:=hv.IH (by omega) _ (NF rfl);rwa[NJ]at this)
    clear key E hv;go_enter PH,PA
    go_wp2_with fail
    refine Nd K.out ?_;rintro r w' ⟨p',c',k',rfl,h2,h3,h4⟩;have H:M6 (_/\_/\_):=⟨h2,h3,h4⟩;clear h2 h3 h4;go_wp2;go_ret;exact⟨p',c',by rw[<-H.out.1];rfl,by rw[<-H.out.1];exact H.out.2.1,H.out.2.2⟩
section
open Go.Sort (grow grow_empty grow_grow alloc_eq_grow cell?_grow heap_grow_old)
theorem iB(w:MO)(q:Nat)(os:Array Obj):MQ w.heap.size w (Oj (w.drewN q) os):=
 ⟨rfl,rfl,rfl,by simp[Oj,World.drewN],fun k hk=>heap_grow_old (w.drewN q) os hk⟩
def fd(d t:Int):Int:=min (d*2 ^ t.toNat) 500
theorem BA(n f d t now:Int)(w:MO)(hd:1<=d/\d<=500)(ht:0<=t/\t<=10)(hnow:0<=now/\now<=1099511627776) :
  Ni MK 243 #[iR n f d,MF ME t,MF ME now] w fun r w'=>r=MN (cO (MG MH 0 0) Nw (now+fd d t) (min (t+1) 10))/\MQ w.heap.size w w':=by
 obtain⟨k,rfl⟩:=NL ht.1;obtain⟨now0,now1⟩:=hnow;have hk:k<=10:=by omega
 clear ht;have hp:(1:Int)<=2 ^ k/\(2:Int) ^ k<=1024:=by
  have h1:(1:Nat)<=2 ^ k:=Nat.one_le_two_pow;have h2:2 ^ k<=2 ^ 10:=Nat.pow_le_pow_right (by decide) hk;have h3:((2 ^ k:Nat):Int)=(2:Int) ^ k:=by simp
  omega
 obtain⟨m,hm⟩:∃m,m=d*2 ^ k:=⟨_,rfl⟩;have m0:1<=m:=by rw[hm];have:=Px hd.1 hp.1 (by omega) (by omega);omega
 have m1:m<=512000:=by rw[hm];have:=Px hd.2 hp.2 (by omega) (by omega);omega
 have hsh:wrap64 (d*2 ^ k)=m:=by rw[<-hm];unfold wrap64;omega
 have E:M6 (fd d (k:Int)=min m 500):=(by unfold fd;rw[NR,<-hm]:fd d (k:Int)=min m 500);clear hm hp hd;obtain⟨W0,hW0⟩:∃W0,W0=w.alloc (MP #[MF ME n,MF ME f,MF ME d] 32):=⟨_,rfl⟩;have hb0:MQ w.heap.size w W0:=by rw[hW0];exact ai _
 have hs0:W0.heap.size=w.heap.size+1:=by rw[hW0];simp
 have H:M6 (_/\_/\_):=⟨hW0,hb0,hs0⟩;have key:∀u t:Int,(((w.alloc (MP #[MF ME n,MF ME f,MF ME d] 32)).alloc (MP #[MG MH 0 0,M3 Nw,MF ME u,MF ME t] 94)).heap[w.heap.size+1]?=MI (MP [MG MH 0 0,M3 Nw,MF ME u,MF ME t].toArray 94 (0,0)))/\MQ w.heap.size w ((w.alloc (MP #[MF ME n,MF ME f,MF ME d] 32)).alloc (MP #[MG MH 0 0,M3 Nw,MF ME u,MF ME t] 94)):=fun u t=>⟨bV _ _ _,((MY _ _).alloc (MV _) _).alloc (by simp) _⟩
 have KK:M6 _:=key;clear key hW0 hb0 hs0
 by_cases h1:m<=500
 ·have E1:M6 (min m 500=m):=(by omega:min m 500=m)
  by_cases h2:(k:Int)+1<=10
  ·have E2:M6 (min ((k:Int)+1) 10=k+1):=(by omega:min ((k:Int)+1) 10=k+1)
   go_enter S5,SD;go_wp2;exact Np (v:=cO (MG MH 0 0) Nw (now+m) (k+1)) (ey Vz rfl (aI (P:=MK) (cs:=[MG MH 0 0,M3 Nw,MF ME (now+m),MF ME (k+1)]) (KK.out _ _).1 Vi rfl (by kernel_rfl))) rfl ⟨by rw[E.out,E1.out,E2.out],(KK.out _ _).2⟩
  ·have E2:M6 (min ((k:Int)+1) 10=10):=(by omega:min ((k:Int)+1) 10=10)
   go_enter S5,SD;go_wp2
   all_goals exact Np (v:=cO (MG MH 0 0) Nw (now+m) 10) (ey Vz rfl (aI (P:=MK) (cs:=[MG MH 0 0,M3 Nw,MF ME (now+m),MF ME 10]) (KK.out _ _).1 Vi rfl (by kernel_rfl))) rfl ⟨by rw[E.out,E1.out,E2.out],(KK.out _ _).2⟩
 ·have E1:M6 (min m 500=500):=(by omega:min m 500=500)
  by_cases h2:(k:Int)+1<=10
  ·have E2:M6 (min ((k:Int)+1) 10=k+1):=(by omega:min ((k:Int)+1) 10=k+1)
   go_enter S5,SD;go_wp2;exact Np (v:=cO (MG MH 0 0) Nw (now+500) (k+1)) (ey Vz rfl (aI (P:=MK) (cs:=[MG MH 0 0,M3 Nw,MF ME (now+500),MF ME (k+1)]) (KK.out _ _).1 Vi rfl (by kernel_rfl))) rfl ⟨by rw[E.out,E1.out,E2.out],(KK.out _ _).2⟩
  ·have E2:M6 (min ((k:Int)+1) 10=10):=(by omega:min ((k:Int)+1) 10=10)
   go_enter S5,SD;go_wp2;exact Np (v:=cO (MG MH 0 0) Nw (now+500) 10) (ey Vz rfl (aI (P:=MK) (cs:=[MG MH 0 0,M3 Nw,MF ME (now+500),MF ME 10]) (KK.out _ _).1 Vi rfl (by kernel_rfl))) rfl ⟨by rw[E.out,E1.out,E2.out],(KK.out _ _).2⟩
def Hy(w W:MO)(n f d:Int)(v:M7)(o:Bool)(u t:Int)(v':M7)(o':Bool)(u' t':Int):Prop :=
 Hx w W n f d v o u t/\W.heap[w.heap.size+1+1]?=MI (MP #[v',M3 o',MF ME u',MF ME t'] 94 (0,0))
section
variable {w W:MO}{n f d:Int}{v:M7}{o:Bool}{u t:Int}{v':M7}{o':Bool}{u' t':Int}
theorem sT(w:MO)(n f d:Int)(v:M7)(o:Bool)(u t:Int)(v':M7)(o':Bool)(u' t':Int):Hy w (((w.alloc (MP #[MF ME n,MF ME f,MF ME d] 32)).alloc (MP #[v,M3 o,MF ME u,MF ME t] 94)).alloc (MP #[v',M3 o',MF ME u',MF ME t'] 94)) n f d v o u t v' o' u' t' :=
 ⟨(qv w n f d v o u t).below (ai _),lC _ _ _ _⟩
theorem Hy.below{W':MO}(h:Hy w W n f d v o u t v' o' u' t')(hb:MQ W.heap.size W W'):Hy w W' n f d v o u t v' o' u' t' :=
 ⟨h.1.below hb,af h.2 hb⟩
theorem zK{d a' b' c' d':M7}(h:w.heap[g]?=MI (MP #[a,b,c,d] T (0,0))):((((w.setCell ⟨g,0,MH⟩ a').setCell ⟨g,1,MH⟩ b').setCell ⟨g,2,MH⟩ c').setCell ⟨g,3,MH⟩ d').heap[g]?=MI (MP #[a',b',c',d'] T (0,0)):=
 NI _ _ 3 _ _ d' (NI _ _ 2 _ _ c' (NI _ _ 1 _ _ b' (NI w g 0 _ _ a' h)))
abbrev nJ(W:MO)(g:Nat)(a b c d:M7):World:=(((W.setCell ⟨g,0,MH⟩ a).setCell ⟨g,1,MH⟩ b).setCell ⟨g,2,MH⟩ c).setCell ⟨g,3,MH⟩ d
theorem ur{d:M7}(h:k≠g):(nJ W g a b c d).heap[k]?=W.heap[k]?:=by
 unfold nJ;rw[MU _ _ _ _ h,MU _ _ _ _ h,MU _ _ _ _ h,MU _ _ _ _ h]
theorem Hy.F4(h:Hy w W n f d v o u t v' o' u' t')(a:M7)(b:Bool)(c e:Int):Hy w (nJ W (w.heap.size+1+1) a (M3 b) (MF ME c) (MF ME e)) n f d v o u t a b c e :=
 ⟨⟨(ur (by omega)).trans h.1.1,(ur (by omega)).trans h.1.2.1,(((h.1.2.2.setCell (by simp;omega) _).setCell (by simp;omega) _).setCell (by simp;omega) _).setCell (by simp;omega) _⟩,zK h.2⟩
theorem Hy.Gi(h:Hy w W n f d v o u t v' o' u' t')(a:M7):Hy w (W.setCell ⟨w.heap.size+1,0,MH⟩ a) n f d a o u t v' o' u' t' :=
 ⟨⟨(MU _ _ _ _ (by simp)).trans h.1.1,NI W _ 0 _ _ a h.1.2.1,h.1.2.2.setCell (by simp) _⟩,(MU _ _ _ _ (by simp)).trans h.2⟩
theorem Hy.res(h:Hy w W n f d v o u t v' o' u' t'){fn:Func}{i y z:Tmp}(hr:fn.results=#[.cell i 94,.tmp y,.tmp z]){tmps:Array M7}{e1 e2:M7}(hx:tmps.getD i PL=Na (MI ⟨w.heap.size+1+1,0,MH⟩))(hy:tmps.getD y PL=e1)(hz:tmps.getD z PL=e2) :
  (Pf fn tmps).run MK W=.ok (Nv #[cO v' o' u' t',e1,e2]) W :=
 kP hr hx hy hz (aI (P:=MK) (cs:=[v',M3 o',MF ME u',MF ME t']) h.2 Vi rfl (by kernel_rfl))
theorem Hy.bel(h:Hy w W n f d v o u t v' o' u' t'):MQ w.heap.size w W:=h.1.2.2
theorem Hy.Gg(h:Hy w W n f d v o u t v' o' u' t'):W.cell? ⟨w.heap.size,0,MH⟩=MI (MF ME n)/\W.cell? ⟨w.heap.size,1,MH⟩=MI (MF ME f)/\W.cell? ⟨w.heap.size,2,MH⟩=MI (MF ME d)/\W.cell? ⟨w.heap.size+1,0,MH⟩=MI v/\W.cell? ⟨w.heap.size+1,1,MH⟩=MI (M3 o)/\W.cell? ⟨w.heap.size+1,2,MH⟩=MI (MF ME u)/\W.cell? ⟨w.heap.size+1,3,MH⟩=MI (MF ME t)/\W.frozen? ⟨w.heap.size+1,0,MH⟩=Nb/\W.frozen? ⟨w.heap.size+1,1,MH⟩=Nb/\W.frozen? ⟨w.heap.size+1,2,MH⟩=Nb/\W.cell? ⟨w.heap.size+1+1,0,MH⟩=MI v'/\W.cell? ⟨w.heap.size+1+1,1,MH⟩=MI (M3 o')/\W.cell? ⟨w.heap.size+1+1,2,MH⟩=MI (MF ME u')/\W.cell? ⟨w.heap.size+1+1,3,MH⟩=MI (MF ME t')/\W.frozen? ⟨w.heap.size+1+1,0,MH⟩=Nb/\W.frozen? ⟨w.heap.size+1+1,1,MH⟩=Nb/\W.frozen? ⟨w.heap.size+1+1,2,MH⟩=Nb/\W.frozen? ⟨w.heap.size+1+1,3,MH⟩=false:=by
 obtain⟨c0,c1,c2,c3,c4,c5,c6⟩:=h.1.Gg;obtain⟨f0,f1,f2,f3⟩:=ry h.1.2.1;obtain⟨d0,d1,d2,d3,_⟩:=rC h.2;obtain⟨g0,g1,g2,g3⟩:=ry h.2;exact⟨c0,c1,c2,c3,c4,c5,c6,f0,f1,f2,d0,d1,d2,d3,g0,g1,g2,g3⟩
end
abbrev kW:=(List Bool×Bool×Int×Int)×Bool×Int
def di(n f d:Int)(l:List Bool)(o:Bool)(u t:Int)(x:Bool)(now:Int)(may:Bool):kW :=
 if cD n f d l.length o u t now=0 then
  (if o=Nb/\may=Nw/\f<=(eh (dd n l x):Int)then(([],Nw,now+fd d t,min (t+1) 10),Nw,0)else((dd n l x,o,u,t),Nb,0))
 else(([],Nb,0,0),Nb,cD n f d l.length o u t now)
def da(n f d:Int)(l:List Bool)(o:Bool)(u t:Int)(now:Int):kW :=
 if cD n f d l.length o u t now=0 then
  (if o=Nw/\u<=now then((l,Nb,0,t),Nw,0)else((l,o,u,t),Nb,0))
 else(([],Nb,0,0),Nb,cD n f d l.length o u t now)
def mL(w:MO)(O:kW)(r:Ending)(w':MO):Prop :=
 ∃p c,r=MN (Nv #[cO (MG p O.1.1.length c) O.1.2.1 O.1.2.2.1 O.1.2.2.2,M3 O.2.1,MF ME O.2.2])/\bK w' (MG p O.1.1.length c) O.1.1/\(∀b,QQ (MG p O.1.1.length c)=MI b->w.heap.size<=b)/\MQ w.heap.size w w'
theorem lc{b:Bool}{e:Int}{O:kW}(h:O=(([],o,u,t),b,e))(hb:MQ w.heap.size w w'):mL w O (MN (Nv #[cO (MG MH 0 0) o u t,M3 b,MF ME e])) w':=by
 subst h;exact⟨MH,0,rfl,pC _,(by intro b h;cases h),hb⟩
theorem ke{w2:MO}{p:Option Oc}{c:Nat}{b:Bool}{e:Int}{O:kW}(h:O=((l,o,u,t),b,e))(hk:k=l.length)(hl:bK w' (MG p k c) l)(hb:MQ w.heap.size w w')(ho:w2.ownsRow base 4 1 (MG p k c) k xs)(hbase:w.heap.size<=base):mL w O (MN (Nv #[cO (MG p k c) o u t,M3 b,MF ME e])) w':=by
 subst h hk;exact⟨p,c,rfl,hl,fun b hb=>Nm hbase (ho.lt b hb).1,hb⟩
theorem fM{e:NU}{n:Nat}(h:w.ownsRow base e k v n xs){a:Oc}{y:M7}(ha:a.block<base):(w.setCell a y).ownsRow base e k v n xs :=
 aw h fun g hg=>MU _ _ _ _ (by have:=(h.lt g hg).1;omega)
theorem kf{e:NU}{n:Nat}(h:w.ownsRow base e k v n xs){y0 y1 y2 y3:M7}(ha:g<base):(nJ w g y0 y1 y2 y3).ownsRow base e k v n xs :=
 fM (fM (fM (fM h ha) ha) ha) ha
theorem CZ(n f d:Int)(v:M7)(l:List Bool)(o:Bool)(u t:Int)(x:Bool)(now:Int)(may:Bool)(w:MO)(hv:bK w v l)(hl:l.length<=140737488355328) :
  Ni MK 214 #[iR n f d,cO v o u t,M3 x,MF ME now,M3 may] w (mL w (di n f d l o u t x now may)):=by
 obtain⟨p,c,rfl⟩:=hv.Ga;obtain⟨W0,hW0⟩:∃W0,W0=((w.alloc (MP #[MF ME n,MF ME f,MF ME d] 32)).alloc (MP #[MG p l.length c,M3 o,MF ME u,MF ME t] 94)).alloc (MP #[MG MH 0 0,M3 Nb,MF ME 0,MF ME 0] 94):=⟨_,rfl⟩;have hX0:Hy w W0 n f d (MG p l.length c) o u t (MG MH 0 0) Nb 0 0:=by rw[hW0];exact sT _ _ _ _ _ _ _ _ _ _ _ _
 obtain⟨c0,c1,c2,c3,c4,c5,c6,_⟩:=hX0.Gg;have H:M6 (_/\Hy _ _ _ _ _ _ _ _ _ _ _ _ _/\bK _ _ _):=⟨hW0,hX0,hv⟩;clear hW0 hX0 hv;go_enter ZqC,Sz
 go_wp2_with fail
 rw[<-H.out.1];refine(vF n f d p l.length c o u t now _).mono ?_;rintro r w1 ⟨rfl,hb1⟩;have HX:M6 (Hy _ _ _ _ _ _ _ _ _ _ _ _ _/\bK _ _ _):=⟨H.out.2.1.below hb1,H.out.2.2.below (H.out.2.1.bel.trans (hb1.mono H.out.2.1.bel.size))⟩;clear c0 c1 c2 c3 c4 c5 c6 hb1 H;obtain⟨c0,c1,c2,c3,c4,c5,c6,f0,f1,f2,d0,d1,d2,d3,g0,g1,g2,g3⟩:=HX.out.1.Gg;rcases uY n f d l.length o u t now with⟨hE,_⟩|⟨hE,_⟩|⟨hE,hok,hnow,hh⟩
 ·have E:M6 (di n f d l o u t x now may=(([],Nb,0,0),Nb,2)):=(by unfold di;rw[hE,Nf (by decide)]:di n f d l o u t x now may=(([],false,0,0),false,2))
  rw[hE];clear hE;go_wp2;exact Np (v:=Nv #[cO (MG MH 0 0) Nb 0 0,M3 Nb,MF ME 2]) ((HX.out.1.F4 _ _ _ _).res Vf rfl rfl rfl) rfl (lc E.out (HX.out.1.F4 _ _ _ _).bel)
 ·have E:M6 (di n f d l o u t x now may=(([],Nb,0,0),Nb,6)):=(by unfold di;rw[hE,Nf (by decide)]:di n f d l o u t x now may=(([],false,0,0),false,6))
  rw[hE];clear hE;go_wp2;exact Np (v:=Nv #[cO (MG MH 0 0) Nb 0 0,M3 Nb,MF ME 6]) ((HX.out.1.F4 _ _ _ _).res Vf rfl rfl rfl) rfl (lc E.out (HX.out.1.F4 _ _ _ _).bel)
 ·have E:M6 (di n f d l o u t x now may=if o=Nb/\may=Nw/\f<=(eh (dd n l x):Int)then(([],Nw,now+fd d t,min (t+1) 10),Nw,0)else((dd n l x,o,u,t),Nb,0)):=Nh hE
  rw[hE];clear hE;have HL:M6 _:=DS n (MG p l.length c) l x w1 HX.out.2 hok.1 hh.1
  go_wp2_with fail
  refine Nd HL.out ?_;rintro r w2 ⟨p',c',rfl,ho,hb2⟩;obtain⟨k,hk⟩:∃k,k=(dd n l x).length:=⟨_,rfl⟩;rw[<-hk]at ho⊢;have HO:M6 (Hy _ _ _ _ _ _ _ _ _ _ _ _ _/\_/\_/\w.heap.size+1+1<w1.heap.size):=⟨HX.out.1.below hb2,ho,hk,(Array.getElem?_eq_some_iff.1 HX.out.1.2).1⟩;clear ho hb2 hk HX HL c0 c1 c2 c3 c4 c5 c6 f0 f1 f2 d0 d1 d2 d3 g0 g1 g2 g3;obtain⟨c0,c1,c2,c3,c4,c5,c6,f0,f1,f2,d0,d1,d2,d3,g0,g1,g2,g3⟩:=HO.out.1.Gg;have HF:M6 (∀(q:Nat) (os:Array Obj),Ni MK 242 #[MG p' k c'] (Oj (w2.drewN q) os) fun r w'=>r=MN (MF ME (eh (dd n l x)))/\∃q' os',w'=Oj ((Oj (w2.drewN q) os).drewN q') os'):=fun(q:Nat) (os:Array Obj)=>by
   refine(Az _ (dd n l x) _ ((iW (by rw[<-HO.out.2.2.1];exact HO.out.2.1)).below (iB _ _ _))).mono ?_;rintro r w' ⟨rfl,rfl⟩;exact⟨rfl,0,#[],(grow_empty _).symm⟩
  have hcnt:(eh (dd n l x):Int)<=16:=by
   have h1:=sD (dd n l x);have h2:=uq x hh.1 hok.1.1;omega
  have hf:f<=16:=by omega
  generalize eh (dd n l x)=m at *;have k1:∀n' os,(Oj (w2.drewN n') os).cell? ⟨w.heap.size,1,MH⟩=MI (MF ME f):=Ob (MX _ _ c1) c1;have k4:∀n' os,(Oj (w2.drewN n') os).cell? ⟨w.heap.size+1,1,MH⟩=MI (M3 o):=Ob (MX _ _ c4) c4;have stays:∀(W':MO),MQ w2.heap.size w2 W'->o=Nw\/may=Nb\/¬(f<=(m:Int))->di n f d l o u t x now may=((dd n l x,o,u,t),Nb,0):=fun _ _ h=>by
   rw[E.out,Nf];rintro⟨h1,h2,h3⟩;rcases h with h|h|h
   ·rw[h1]at h;cases h
   ·rw[h2]at h;cases h
   ·exact h h3
  have ST:M6 _:=stays;clear stays;cases o
  case true =>
   have E2:=ST.out w2 (MY _ _) (Nt rfl);have EE:M6 _:=E2;clear E2
   go_wp2_with fail
   refine NQ bB (by kernel_rfl) ?_
   repeat (first|go_big_quiet_skip|quiet_step (first|(go_at_call 242;exact Calls.grown_of (HF.out _ _))))
   refine Oy ?_;intro _ hw';obtain⟨⟨nq,osq⟩,hw''⟩:=hw';subst hw'';have HO2:M6 (Hy _ _ _ _ _ _ _ _ _ _ _ _ _/\_):=⟨HO.out.1.below (iB w2 nq osq),cq HO.out.2.1 (iB w2 nq osq)⟩;clear c0 c1 c2 c3 c4 c5 c6 f0 f1 f2 d0 d1 d2 d3 g0 g1 g2 g3 k1 k4;generalize Oj (w2.drewN nq) osq=w3 at HO2⊢;obtain⟨c0,c1,c2,c3,c4,c5,c6,f0,f1,f2,d0,d1,d2,d3,g0,g1,g2,g3⟩:=HO2.out.1.Gg;go_wp2;exact Np (v:=Nv #[cO (MG p' k c') Nw u t,M3 Nb,MF ME 0]) (((HO2.out.1.Gi _).F4 _ _ _ _).res Vf rfl rfl rfl) rfl (ke EE.out HO.out.2.2.1 (iW (base:=w1.heap.size) (by rw[<-HO.out.2.2.1];exact kf (fM HO2.out.2 (by have:=HO.out.2.2.2;simp;omega)) HO.out.2.2.2)) ((HO2.out.1.Gi _).F4 _ _ _ _).bel HO.out.2.1 (by have:=HO.out.2.2.2;omega))
  case false =>
   cases may
   case false =>
    have E2:=ST.out w2 (MY _ _) (NF (Nt rfl));have EE:M6 _:=E2;clear E2
    go_wp2_with fail
    refine NQ bB (by kernel_rfl) ?_
    repeat (first|go_big_quiet_skip|quiet_step (first|(go_at_call 242;exact Calls.grown_of (HF.out _ _))))
    refine Oy ?_;intro _ hw';obtain⟨⟨nq,osq⟩,hw''⟩:=hw';subst hw'';have HO2:M6 (Hy _ _ _ _ _ _ _ _ _ _ _ _ _/\_):=⟨HO.out.1.below (iB w2 nq osq),cq HO.out.2.1 (iB w2 nq osq)⟩;clear c0 c1 c2 c3 c4 c5 c6 f0 f1 f2 d0 d1 d2 d3 g0 g1 g2 g3 k1 k4;generalize Oj (w2.drewN nq) osq=w3 at HO2⊢;obtain⟨c0,c1,c2,c3,c4,c5,c6,f0,f1,f2,d0,d1,d2,d3,g0,g1,g2,g3⟩:=HO2.out.1.Gg;go_wp2;exact Np (v:=Nv #[cO (MG p' k c') Nb u t,M3 Nb,MF ME 0]) (((HO2.out.1.Gi _).F4 _ _ _ _).res Vf rfl rfl rfl) rfl (ke EE.out HO.out.2.2.1 (iW (base:=w1.heap.size) (by rw[<-HO.out.2.2.1];exact kf (fM HO2.out.2 (by have:=HO.out.2.2.2;simp;omega)) HO.out.2.2.2)) ((HO2.out.1.Gi _).F4 _ _ _ _).bel HO.out.2.1 (by have:=HO.out.2.2.2;omega))
   case true =>
    cases hm:Nn (f<=(m:Int))
    case false =>
     have E2:=ST.out w2 (MY _ _) (NF (NF (Nc hm)));have EE:M6 _:=E2;clear E2
     go_wp2_with fail
     refine NQ bB (by kernel_rfl) ?_
     repeat (first|go_big_quiet_skip|quiet_step (first|(go_at_call 242;exact NZ (HF.out _ _))))
     refine Oy ?_;intro _ hw';obtain⟨⟨nq,osq⟩,hw''⟩:=hw';subst hw'';have HO2:M6 (Hy _ _ _ _ _ _ _ _ _ _ _ _ _/\_):=⟨HO.out.1.below (iB w2 nq osq),cq HO.out.2.1 (iB w2 nq osq)⟩;clear c0 c1 c2 c3 c4 c5 c6 f0 f1 f2 d0 d1 d2 d3 g0 g1 g2 g3 k1 k4;generalize Oj (w2.drewN nq) osq=w3 at HO2⊢;obtain⟨c0,c1,c2,c3,c4,c5,c6,f0,f1,f2,d0,d1,d2,d3,g0,g1,g2,g3⟩:=HO2.out.1.Gg;go_wp2;exact Np (v:=Nv #[cO (MG p' k c') Nb u t,M3 Nb,MF ME 0]) (((HO2.out.1.Gi _).F4 _ _ _ _).res Vf rfl rfl rfl) rfl (ke EE.out HO.out.2.2.1 (iW (base:=w1.heap.size) (by rw[<-HO.out.2.2.1];exact kf (fM HO2.out.2 (by have:=HO.out.2.2.2;simp;omega)) HO.out.2.2.2)) ((HO2.out.1.Gi _).F4 _ _ _ _).bel HO.out.2.1 (by have:=HO.out.2.2.2;omega))
    case true =>
     have E2:di n f d l Nb u t x now Nw=(([],Nw,now+fd d t,min (t+1) 10),Nw,0):=by rw[E.out,Nh ⟨rfl,rfl,M2 hm⟩]
     have EE:M6 _:=E2;have HT:M6 (∀W,_):=fun W=>BA n f d t now W hok.2.2 hh.2.1 hnow
     clear E2
     go_wp2_with fail
     refine NQ bB (by kernel_rfl) ?_
     repeat (first|go_big_quiet_skip|quiet_step (first|(go_at_call 242;exact NZ (HF.out _ _))))
     refine Oy ?_;intro _ hw';obtain⟨⟨nq,osq⟩,hw''⟩:=hw';subst hw'';have HO2:M6 (Hy _ _ _ _ _ _ _ _ _ _ _ _ _/\_):=⟨HO.out.1.below (iB w2 nq osq),cq HO.out.2.1 (iB w2 nq osq)⟩;clear c0 c1 c2 c3 c4 c5 c6 f0 f1 f2 d0 d1 d2 d3 g0 g1 g2 g3 k1 k4;generalize Oj (w2.drewN nq) osq=w3 at HO2⊢;obtain⟨c0,c1,c2,c3,c4,c5,c6,f0,f1,f2,d0,d1,d2,d3,g0,g1,g2,g3⟩:=HO2.out.1.Gg;clear HF hm hcnt hf hok hh hnow ST
     go_wp2_with fail
     refine(HT.out _).mono ?_;rintro r w4 ⟨rfl,hb4⟩;have HO3:M6 (Hy _ _ _ _ _ _ _ _ _ _ _ _ _):=HO2.out.1.below hb4;clear c0 c1 c2 c3 c4 c5 c6 f0 f1 f2 d0 d1 d2 d3 g0 g1 g2 g3 hb4;obtain⟨c0,c1,c2,c3,c4,c5,c6,f0,f1,f2,d0,d1,d2,d3,g0,g1,g2,g3⟩:=HO3.out.Gg;generalize now+fd d t=hu at *;generalize min (t+1) 10=ht at *;go_wp2;exact Np (v:=Nv #[cO (MG MH 0 0) Nw hu ht,M3 Nw,MF ME 0]) ((HO3.out.F4 _ _ _ _).res Vf rfl rfl rfl) rfl (lc EE.out (HO3.out.F4 _ _ _ _).bel)
end
section
variable {w W:MO}{n f d:Int}{v:M7}{o:Bool}{u t:Int}{v':M7}{o':Bool}{u' t':Int}
theorem Hy.IM(h:Hy w W n f d v o u t v' o' u' t')(b:Bool)(c:Int):Hy w ((W.setCell ⟨w.heap.size+1,1,MH⟩ (M3 b)).setCell ⟨w.heap.size+1,2,MH⟩ (MF ME c)) n f d v b c t v' o' u' t' :=
 ⟨⟨(MU _ _ _ _ (by simp)).trans ((MU _ _ _ _ (by simp)).trans h.1.1),NI _ _ 2 _ _ _ (NI W _ 1 _ _ _ h.1.2.1),(h.1.2.2.setCell (by simp) _).setCell (by simp) _⟩,(MU _ _ _ _ (by simp)).trans ((MU _ _ _ _ (by simp)).trans h.2)⟩
end
theorem uE(n f d:Int)(v:M7)(l:List Bool)(o:Bool)(u t:Int)(now:Int)(w:MO)(hv:bK w v l) :
  Ni MK 146 #[iR n f d,cO v o u t,MF ME now] w (mL w (da n f d l o u t now)):=by
 obtain⟨p,c,rfl⟩:=hv.Ga;obtain⟨W0,hW0⟩:∃W0,W0=((w.alloc (MP #[MF ME n,MF ME f,MF ME d] 32)).alloc (MP #[MG p l.length c,M3 o,MF ME u,MF ME t] 94)).alloc (MP #[MG MH 0 0,M3 Nb,MF ME 0,MF ME 0] 94):=⟨_,rfl⟩;have hX0:Hy w W0 n f d (MG p l.length c) o u t (MG MH 0 0) Nb 0 0:=by rw[hW0];exact sT _ _ _ _ _ _ _ _ _ _ _ _
 obtain⟨c0,c1,c2,c3,c4,c5,c6,_⟩:=hX0.Gg;have H:M6 (_/\Hy _ _ _ _ _ _ _ _ _ _ _ _ _/\bK _ _ _):=⟨hW0,hX0,hv⟩;clear hW0 hX0 hv;go_enter SL,Sn
 go_wp2_with fail
 rw[<-H.out.1];refine(vF n f d p l.length c o u t now _).mono ?_;rintro r w1 ⟨rfl,hb1⟩;have HX:M6 (Hy _ _ _ _ _ _ _ _ _ _ _ _ _/\bK _ _ _):=⟨H.out.2.1.below hb1,H.out.2.2.below (H.out.2.1.bel.trans (hb1.mono H.out.2.1.bel.size))⟩;clear c0 c1 c2 c3 c4 c5 c6 hb1 H;obtain⟨c0,c1,c2,c3,c4,c5,c6,f0,f1,f2,d0,d1,d2,d3,g0,g1,g2,g3⟩:=HX.out.1.Gg;rcases uY n f d l.length o u t now with⟨hE,_⟩|⟨hE,_⟩|⟨hE,hok,hnow,hh⟩
 ·have E:M6 (da n f d l o u t now=(([],Nb,0,0),Nb,2)):=(by unfold da;rw[hE,Nf (by decide)]:da n f d l o u t now=(([],false,0,0),false,2))
  rw[hE];clear hE;go_wp2;exact Np (v:=Nv #[cO (MG MH 0 0) Nb 0 0,M3 Nb,MF ME 2]) ((HX.out.1.F4 _ _ _ _).res Up rfl rfl rfl) rfl (lc E.out (HX.out.1.F4 _ _ _ _).bel)
 ·have E:M6 (da n f d l o u t now=(([],Nb,0,0),Nb,6)):=(by unfold da;rw[hE,Nf (by decide)]:da n f d l o u t now=(([],false,0,0),false,6))
  rw[hE];clear hE;go_wp2;exact Np (v:=Nv #[cO (MG MH 0 0) Nb 0 0,M3 Nb,MF ME 6]) ((HX.out.1.F4 _ _ _ _).res Up rfl rfl rfl) rfl (lc E.out (HX.out.1.F4 _ _ _ _).bel)
 ·have E:M6 (da n f d l o u t now=if o=Nw/\u<=now then((l,Nb,0,t),Nw,0)else((l,o,u,t),Nb,0)):=Nh hE
  rw[hE];clear hE;have HL:M6 _:=sv (MG p l.length c) l w1 HX.out.2 (by have:=hh.1;omega)
  go_wp2_with fail
  refine Nd HL.out ?_;rintro r w2 ⟨p',c',rfl,ho,hb2⟩;obtain⟨k,hk⟩:∃k,k=l.length:=⟨_,rfl⟩;have HO:M6 (Hy _ _ _ _ _ _ _ _ _ _ _ _ _/\_/\w.heap.size+1+1<w1.heap.size):=⟨HX.out.1.below hb2,ho,(Array.getElem?_eq_some_iff.1 HX.out.1.2).1⟩;clear ho hb2 hk HX HL c0 c1 c2 c3 c4 c5 c6 f0 f1 f2 d0 d1 d2 d3 g0 g1 g2 g3 hok;obtain⟨c0,c1,c2,c3,c4,c5,c6,f0,f1,f2,d0,d1,d2,d3,g0,g1,g2,g3⟩:=HO.out.1.Gg;cases o
  case false =>
   have EE:M6 (da n f d l Nb u t now=((l,Nb,u,t),Nb,0)):=(by rw[E.out,Nf (fun h=>by cases h.1)]:da n f d l false u t now=((l,false,u,t),false,0));go_wp2;exact Np (v:=Nv #[cO (MG p' l.length c') Nb u t,M3 Nb,MF ME 0]) (((HO.out.1.Gi _).F4 _ _ _ _).res Up rfl rfl rfl) rfl (ke EE.out rfl (iW (base:=w1.heap.size) (kf (fM HO.out.2.1 (by have:=HO.out.2.2;simp;omega)) HO.out.2.2)) ((HO.out.1.Gi _).F4 _ _ _ _).bel HO.out.2.1 (by have:=HO.out.2.2;omega))
  case true =>
   by_cases hu:now<u
   ·have EE:M6 (da n f d l Nw u t now=((l,Nw,u,t),Nb,0)):=(by rw[E.out,Nf (fun h=>by omega)]:da n f d l true u t now=((l,true,u,t),false,0))
    go_wp2;exact Np (v:=Nv #[cO (MG p' l.length c') Nw u t,M3 Nb,MF ME 0]) (((HO.out.1.Gi _).F4 _ _ _ _).res Up rfl rfl rfl) rfl (ke EE.out rfl (iW (base:=w1.heap.size) (kf (fM HO.out.2.1 (by have:=HO.out.2.2;simp;omega)) HO.out.2.2)) ((HO.out.1.Gi _).F4 _ _ _ _).bel HO.out.2.1 (by have:=HO.out.2.2;omega))
   ·have EE:M6 (da n f d l Nw u t now=((l,Nb,0,t),Nw,0)):=(by rw[E.out,Nh ⟨rfl,by omega⟩]:da n f d l true u t now=((l,false,0,t),true,0))
    go_wp2;exact Np (v:=Nv #[cO (MG p' l.length c') Nb 0 t,M3 Nw,MF ME 0]) ((((HO.out.1.Gi _).IM _ _).F4 _ _ _ _).res Up rfl rfl rfl) rfl (ke EE.out rfl (iW (base:=w1.heap.size) (kf (fM (fM (fM HO.out.2.1 (by have:=HO.out.2.2;simp;omega)) (by have:=HO.out.2.2;simp;omega)) (by have:=HO.out.2.2;simp;omega)) HO.out.2.2)) (((HO.out.1.Gi _).IM _ _).F4 _ _ _ _).bel HO.out.2.1 (by have:=HO.out.2.2;omega))
def iU(out act per:Int):Bool×Int :=
 if(0<=act/\act<=12)/\(0<=out/\out<=act)/\(0<=per/\per<=100)then(Nn ((out+1)*100<=per*act),0)else(Nb,2)
theorem xe(out act per:Int)(w:MO):Ni MK 244 #[MF ME out,MF ME act,MF ME per] w fun r w'=>r=MN (Nv #[M3 (iU out act per).1,MF ME (iU out act per).2])/\w'=w:=by
 cases h1:Nn (0<=act/\act<=12)
 ·have E:M6 (iU out act per=(Nb,2)):=Nf fun h=>Nc h1 h.1
  go_enter VT,VK
  go_wp2_with fail
  refine(cd _ _ _ _).mono ?_;rintro e w' ⟨rfl,rfl⟩;rw[h1];go_wp2
  go_ret2
  exact⟨by rw[E.out];rfl,rfl⟩
 cases h2:Nn (0<=out/\out<=act)
 ·have E:M6 (iU out act per=(Nb,2)):=Nf fun h=>Nc h2 h.2.1
  go_enter VT,VK
  go_wp2_with fail
  refine(cd _ _ _ _).mono ?_;rintro e w' ⟨rfl,rfl⟩;rw[h1]
  go_wp2_with fail
  refine(cd _ _ _ _).mono ?_;rintro e w' ⟨rfl,rfl⟩;rw[h2];go_wp2
  go_ret2
  exact⟨by rw[E.out];rfl,rfl⟩
 cases h3:Nn (0<=per/\per<=100)
 ·have E:M6 (iU out act per=(Nb,2)):=Nf fun h=>Nc h3 h.2.2
  go_enter VT,VK
  go_wp2_with fail
  refine(cd _ _ _ _).mono ?_;rintro e w' ⟨rfl,rfl⟩;rw[h1]
  go_wp2_with fail
  refine(cd _ _ _ _).mono ?_;rintro e w' ⟨rfl,rfl⟩;rw[h2]
  go_wp2_with fail
  refine(cd _ _ _ _).mono ?_;rintro e w' ⟨rfl,rfl⟩;rw[h3];go_wp2
  go_ret2
  exact⟨by rw[E.out];rfl,rfl⟩
 ·have E:M6 (iU out act per=(Nn ((out+1)*100<=per*act),0)):=Nh ⟨M2 h1,M2 h2,M2 h3⟩
  have b1:=M2 h1;have b2:=M2 h2;have b3:=M2 h3;have m0:0<=per*act:=Int.mul_nonneg b3.1 b1.1;have m1:per*act<=1200:=(Px b3.2 b1.2 b1.1 (by omega):per*act<=100*12);obtain⟨a0,a1⟩:=b1;obtain⟨o0,o1⟩:=b2;have o2:out<=12:=by omega
  clear b3;go_enter VT,VK
  go_wp2_with fail
  refine(cd _ _ _ _).mono ?_;rintro e w' ⟨rfl,rfl⟩;rw[h1]
  go_wp2_with fail
  refine(cd _ _ _ _).mono ?_;rintro e w' ⟨rfl,rfl⟩;rw[h2]
  go_wp2_with fail
  refine(cd _ _ _ _).mono ?_;rintro e w' ⟨rfl,rfl⟩;rw[h3];go_wp2
  go_ret2
  exact⟨by rw[E.out];rfl,rfl⟩
theorem EC{now:Int}(hw:dR n f d)(hnow:0<=now/\now<=1099511627776)(hh:dI n l.length o u t)(h:o=Nb\/now<u):da n f d l o u t now=((l,o,u,t),Nb,0):=by
 unfold da cD;rw[Nh hw,Nh hnow,Nh hh,Nh rfl,Nf];rintro⟨h1,h2⟩;rcases h with h|h
 ·rw[h1]at h;cases h
 ·omega
end Go.Proofs.YtlnbhjdhcmgljaaGreatDoor.Q
