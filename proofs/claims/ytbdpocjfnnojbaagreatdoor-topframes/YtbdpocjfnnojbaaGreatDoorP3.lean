/-
  Contracts of the layers and of core, part 3. Conditions: as each theorem says.
-/
import Derived.BigQuiet
import Derived.Shelf.Spec.SlicesInsert
import Derived.Maps.OwnSet
import Derived.Shelf.SlSortCmp.QuietGrown
import Derived.Deep.CutRange
import Derived.Deep.Upon
import Derived.Test.YtbdpocjfnnojbaaGreatDoorP0
open Array renaming getElem?_eq_some_iff->ZAa
open Bool renaming false->Nb,true->Nw
open Decidable renaming decide->Nn
open Go renaming Addr->Oc,Calls->Ni,TypeId->NU,Value->M7,World->MO,cell_grown->Ob,maxLen->NE,results->Pf,wpQuiet_nil->Oy,wp_region_quiet_grown->NQ
open Go.Builtin renaming zeroCells->N5
open Go.Calls renaming grown_of->NZ,quiet_of->Qe
open Go.Ending renaming returned->MN
open Go.Exit renaming noGoto_ret->Sb
open Go.Extern.SlicesOverlaps renaming overlaps->P9
open Go.Fn renaming func->PD
open Go.Instr renaming index->Qy
open Go.IntKind renaming i64->ME
open Go.Lit renaming int->N6
open Go.Maps renaming keyOf_int_mk->Qg
open Go.Obj renaming cells->MP
open Go.Proofs.Tryz renaming func151->azp,func159->RT,func16->az9,func166->VQ,func207->UO,func209->S0,func214->ZqC,func217->RZ,func219->VB,func227->RX,func228->S6,func230->R1,func257->QP,func260->aAU,func261->Vr,func268->aAz,func279->aAy,func295->aAV,func32->ayD,func35->aA1,func36->azV,func38->Uu,func53->WG,func54->Qz,func57->Uw,ntmps151->azk,ntmps159->RJ,ntmps16->az6,ntmps166->VI,ntmps207->UC,ntmps209->SA,ntmps214->Sz,ntmps217->RM,ntmps219->Vu,ntmps227->RK,ntmps228->SE,ntmps230->RN,ntmps257->QE,ntmps260->aAK,ntmps261->Vm,ntmps268->aAt,ntmps279->aAs,ntmps295->aAL,ntmps32->ayw,ntmps35->aAY,ntmps36->azQ,ntmps38->Ud,ntmps53->Wx,ntmps54->Qk,ntmps57->Ul,prog->MK,results151->R8,results166->aAD,results207->aAe,results227->ayf,underlying227->azY,underlying338->az3
open Go.Question renaming appendCap->PF
open Go.RowKit renaming Below->MQ,Hid->M6,intOf->On
open Go.Sort renaming alloc_eq_grow->PQ,grow->Oj
open Go.Value renaming agg->Ny,bool->M3,func->PB,int->MF,map->P0,pointer->Na,slice->MG,tuple->Nv
open Go.World renaming cell?->Nl,frozen?->Ng,setCell->Q4,shape?->QO
open Go.World.ownsRow renaming drew->PZ
open Int renaming mul_pos->Tn,mul_right_comm->Rx,tdiv_eq_ediv_of_nonneg->OT
open List renaming flatMap_cons->S9,flatten_cons->QS,getD->Pq,getElem?_eq_some_iff->ZAb,length_eq_zero_iff->ZAc,mem_map->ZAd,nodup_cons->QJ,pairwise_cons->ZAe,perm_middle->QC,range->Pm,replicate->Nj,takeWhile_cons_of_neg->Ru,takeWhile_cons_of_pos->Rv
open List.Sublist renaming append_right->Rz,refl->S3
open Option renaming none->MH,some->MI
open Or renaming inl->Nt,inr->NF
namespace Go.Proofs.YtbdpocjfnnojbaaGreatDoor.Q
set_option linter.unusedVariables false
set_option linter.unusedSimpArgs false
set_option maxHeartbeats 16000000
set_option maxRecDepth 100000
open Go.RowKit
attribute [local go_sem ↓] Go.wp_at_zero Go.wp_at_succ
section
variable {m:Int}{a c v1 v2 v3 v4:M7}{w':MO}{b g p:Nat}{a1 a2 a3 a4:Oc}{t x:Tm}
def agR{α β:Type}(R:α->β->Prop)(l:List α)(m:List β):Prop:=l.length=m.length/\∀i (h1:i<l.length) (h2:i<m.length),R l[i] m[i]
def Zo(w:MO)(v:M7)(ls:List (List Tm)):Prop:=∃vs,XB w v ls.length vs/\agR (Xz w) vs ls
theorem agR.GV{α β:Type}{R S:α->β->Prop}(hRS:∀a b,R a b->S a b){l:List α}{m:List β}(h:agR R l m):agR S l m:=⟨h.1,fun i h1 h2=>hRS _ _ (h.2 i h1 h2)⟩
theorem Zo.below{w:MO}{v:M7}{ls:List (List Tm)}(h:Zo w v ls)(hb:yA w w'):Zo w' v ls:=by
 obtain⟨i,d,e⟩:=h;exact⟨i,d.below hb,e.GV (fun _ _ h=>h.below hb)⟩
theorem Zo.F6{w:MO}{v:M7}{ls:List (List Tm)}(h:Zo w v ls) :
  ∃a cap,v=MG a ls.length cap/\ls.length<=cap/\cap<=NE/\∀i (hi:i<ls.length),∃b off u,a=MI ⟨b,off,MH⟩/\b<w.heap.size/\w.cell? ⟨b,off+i,MH⟩=MI u/\Xz w u ls[i]:=by
 obtain⟨o,⟨a,cap,j,l,n,e⟩,d⟩:=h;have r:=d.1;refine⟨a,cap,j,l,n,fun i hi=>?_⟩;obtain⟨q,_⟩|⟨b,off,ha,hb,hcell⟩:=e
 ·omega
 ·exact⟨b,off,o[i]'(by omega),ha,hb,by rw[hcell i (by omega)];exact MR _,d.2 i (by omega) hi⟩
theorem ajp{B:Nat}{a w:MO}(h:MQ B a w)(n:Nat):MQ B a (w.drewN n):=h.trans ⟨rfl,rfl,rfl,MV _,fun _ _=>rfl⟩
def Xq(at' now:Int):Int :=
 if at' / 8=now / 8 then at' % 8 else if at' / 64=now / 64 then 8+at' / 8 % 8 else if at' / 512=now / 512 then 16+at' / 64 % 8 else 24
theorem agV(n:Int)(w:MO):Ni MK 53 #[yB n] w fun r w'=>r=MN (M3 (Nn (0<=n/\n<=1099511627776)))/\w'=w:=by
 obtain⟨e,d⟩:=yE (Nn (0<=n/\n<=1099511627776));rw[<-d];have H:M6 _:=d;clear d;cases h1:Nn (0<=n)
 ·go_enter WG,Wx
  go_wp2;go_ret;exact⟨by rw[H.out,M0 (fun h=>Nc h1 h.1)];rfl,rfl⟩
 ·cases h2:Nn (n<=1099511627776)
  ·go_enter WG,Wx
   go_wp2;go_ret;exact⟨by rw[H.out,M0 (fun h=>Nc h2 h.2)];rfl,rfl⟩
  ·go_enter WG,Wx
   go_wp2;go_ret;exact⟨by rw[H.out,Nq ⟨M2 h1,M2 h2⟩];rfl,rfl⟩
theorem ajv:(MK.info? 230).map (fun i=>(i.zero,i.size,i.bytes))=MI (MI (Ny #[yB 0,yB 0]),2,16):=by kernel_rfl
theorem avX:(MK.info? 227).map (fun i=>(i.zero,i.size,i.bytes))=MI (MI (MG MH 0 0),1,24):=by kernel_rfl
def avy(a b:M7):Prop:=∀g,a.ownBlock=MI g->b.ownBlock≠MI g
structure WZ(w:MO)(base:Nat)(v:M7)(vs:List M7)(ls:List (List Tm)):Prop where
 row:w.ownsRow base 227 1 v ls.length vs
 each:agR (fun u l=>w.ownsRow base 230 2 u l.length (WP l)) vs ls
 apart:(v::vs).Pairwise avy
theorem WZ.Gf{w:MO}{base:Nat}{v:M7}{vs:List M7}{ls:List (List Tm)}(h:WZ w base v vs ls)(hk:∀g,base<=g->g<w.heap.size->w'.heap[g]?=w.heap[g]?):WZ w' base v vs ls :=
 ⟨W8 h.row fun g hg=>hk g (h.row.lt g hg).1 (h.row.lt g hg).2,h.each.GV fun u l hu=>W8 hu fun g hg=>hk g (hu.lt g hg).1 (hu.lt g hg).2,h.apart⟩
theorem WZ.below{w:MO}{base:Nat}{v:M7}{vs:List M7}{ls:List (List Tm)}(h:WZ w base v vs ls)(hb:yA w w'):WZ w' base v vs ls :=
 h.Gf fun g _ hg=>hb.block g hg
theorem WZ.GV{w:MO}{base:Nat}{v:M7}{vs:List M7}{ls:List (List Tm)}(h:WZ w base v vs ls)(hb:b<=base):WZ w b v vs ls :=
 ⟨h.row.mono hb,h.each.GV fun u l hu=>hu.mono hb,h.apart⟩
def YA(x:List Tm)(t:Tm)(j:Nat):List Tm:=x.take j++t::x.drop j
theorem avY(x:List Tm)(t:Tm)(j:Nat):(YA x t j).length=x.length+1:=by
 simp only[YA,Ns,Ox,NH,NJ];omega
theorem ajw(x:List Tm)(t:Tm):YA x t x.length=x++[t]:=by simp[YA]
def aaW:List (List Tm):=Nj 25 []
theorem avF(w:MO):WZ (w.alloc (MP (Nj 25 (MG MH 0 0)).toArray 227)) w.heap.size (MG (MI ⟨w.heap.size,0,MH⟩) 25 25) (Nj 25 (MG MH 0 0)) aaW:=by
 refine⟨?_,⟨by simp[aaW],fun i h1 h2=>?_⟩,?_⟩
 ·have:=World.ownsRow_lit (base:=w.heap.size) (e:=227) (size:=1) w (Nj 25 (MG MH 0 0)).toArray 25 (MV _) (by unfold NE;omega) (by simp)
  simpa [aaW]using this
 ·simp only[aaW,List.getElem_replicate]
  exact NY _ _ _ _
 ·refine ZAe.2 ⟨fun x hx k hk e=>?_,List.pairwise_replicate.2 (NF fun k hk=>?_)⟩
  ·rw[(List.mem_replicate.1 hx).2]at e;cases e
  ·cases hk
theorem av4(W:MO):(Instr.makeSlice 52 (yB 25) (yB 25)).run MK W=.ok (MG (MI ⟨W.heap.size,0,MH⟩) 25 25) (W.alloc (MP (Nj 25 (MG MH 0 0)).toArray 227)):=by
 obtain⟨n,l,i,d,j⟩:=OF avX;have h:=run_makeSlice (P:=MK) W 52 227 n _ Tryz.underlying52 l i ME ME 25 25 (by decide) (by decide) (by rw[d];decide) (by rw[j];decide) (by decide);have e:madeCells (MG MH 0 0).cells (Int.toNat 25*1)=(Nj 25 (MG MH 0 0)).toArray:=Array.toList_inj.1 (toList_madeCells_one (MG MH 0 0) 25);rw[h,d,e];rfl
theorem adR{w:MO}{b d:M7}{T:NU}(h:w.heap[g]?=MI (MP #[a,b] T (0,0))):((w.setCell ⟨g,0,MH⟩ c).setCell ⟨g,1,MH⟩ d).cell? ⟨g,0,MH⟩=MI c/\((w.setCell ⟨g,0,MH⟩ c).setCell ⟨g,1,MH⟩ d).cell? ⟨g,1,MH⟩=MI d :=
 ⟨(Xa (acb h)).1,(Xa (acb h)).2.1⟩
theorem WZ.Hh{w:MO}{base:Nat}{v:M7}{vs:List M7}{ls:List (List Tm)}(h:WZ w base v vs ls)(hg:g<base)(c d:M7):WZ ((w.setCell ⟨g,0,MH⟩ c).setCell ⟨g,1,MH⟩ d) base v vs ls :=
 h.Gf fun i h1 _=>by rw[MU _ _ _ _ (by simp;omega),MU _ _ _ _ (by simp;omega)]
theorem anL(now:Int)(w:MO):Ni MK 54 #[yB now] w fun r w'=>r=MN (Ny #[yB now,MG (MI ⟨w.heap.size+1,0,MH⟩) 25 25])/\WZ w' (w.heap.size+1) (MG (MI ⟨w.heap.size+1,0,MH⟩) 25 25) (Nj 25 (MG MH 0 0)) aaW/\w'.heap.size=w.heap.size+2/\yA w w':=by
 have e:=av4;generalize hc:(Nj 25 (MG MH 0 0)).toArray=cs at e;have d:M6 _:=hc;clear hc;go_enter Qz,Qk;go_wp2;refine Np (v:=Ny #[yB now,MG (MI ⟨w.heap.size+1,0,MH⟩) 25 25]) (by simp[Pf,Tryz.results54,go_sem]) rfl ⟨rfl,?_,by simp,?_⟩
 ·have h:=avF (w.alloc (MP #[yB now,MG (MI ⟨w.heap.size+1,0,MH⟩) 25 25] 54))
  rw[d.out]at h
  simpa using h
 ·exact((MY _ _).alloc (MV _) _).alloc (by simp) _
theorem awa(now:Int)(w:MO)(h:0<=now/\now<=1099511627776):Ni MK 32 #[yB now] w fun r w'=>∃v vs,r=MN (Nv #[Ny #[yB now,v],yB 0])/\WZ w' w.heap.size v vs aaW/\yA w w':=by
 have s:Nn (0<=now/\now<=1099511627776)=true:=Nq h;clear h;go_enter ayD,ayw
 go_wp2_with fail
 refine(agV _ _).mono ?_;rw[s];rintro r l ⟨rfl,rfl⟩
 go_wp2_with fail
 refine(anL _ _).mono ?_;rintro r l ⟨rfl,e,u,j⟩;have n:(w.alloc (MP #[yB 0,MG MH 0 0] 54)).heap.size=w.heap.size+1:=by simp
 rw[n]at e;have i:l.heap[w.heap.size]?=MI (MP #[yB 0,MG MH 0 0] 54 (0,0)):=(j.block _ (by simp)).trans (M1 _ _);obtain⟨c0,c1,A,z,y⟩:=Xa i;have H:M6 (_/\_/\_):=⟨i,e,j⟩;clear i e j;go_wp2;obtain⟨o,q⟩:=adR (c:=yB now) (d:=MG (MI ⟨w.heap.size+1+1,0,MH⟩) 25 25) H.out.1;refine Np (v:=Nv #[Ny #[yB now,MG (MI ⟨w.heap.size+1+1,0,MH⟩) 25 25],yB 0]) (by simp[Pf,Tryz.results32,go_sem,o,q]) rfl ⟨_,Nj 25 (MG MH 0 0),rfl,?_,?_⟩
 ·have h:=H.out.2.1.Hh (g:=w.heap.size) (by omega) (yB now) (MG (MI ⟨w.heap.size+1+1,0,MH⟩) 25 25)
  exact h.GV (by omega)
 ·exact((((MY _ _).alloc (MV _) _).trans (H.out.2.2.mono (by simp))).setCell (by simp) _).setCell (by simp) _
structure Xo(w:MO):Prop where
 c0:w.cell? ⟨10,0,MH⟩=MI (yB 8)
 c1:w.cell? ⟨10,1,MH⟩=MI (yB 64)
 c2:w.cell? ⟨10,2,MH⟩=MI (yB 512)
theorem Xo.lt{w:MO}(h:Xo w):10<w.heap.size:=MX w ⟨10,0,MH⟩ h.c0
theorem Xo.Gf{w:MO}(h:Xo w)(h0:w'.heap[10]?=w.heap[10]?):Xo w' :=
 ⟨(NG (a:=⟨10,0,MH⟩) h0).trans h.c0,(NG (a:=⟨10,1,MH⟩) h0).trans h.c1,(NG (a:=⟨10,2,MH⟩) h0).trans h.c2⟩
theorem Xo.below{w:MO}(h:Xo w)(hb:yA w w'):Xo w':=h.Gf (hb.block 10 h.lt)
theorem Xo.IQ{w:MO}(h:Xo w)(q:Nat):Xo (w.drewN q):=⟨h.c0,h.c1,h.c2⟩
theorem anP(W:MO):(Qy 22 (Ny #[yB 8,yB 64,yB 512]) (yB 0)).run MK W=.ok (yB 8) W:=by kernel_rfl
theorem anQ(W:MO):(Qy 22 (Ny #[yB 8,yB 64,yB 512]) (yB 1)).run MK W=.ok (yB 64) W:=by kernel_rfl
theorem anR(W:MO):(Qy 22 (Ny #[yB 8,yB 64,yB 512]) (yB 2)).run MK W=.ok (yB 512) W:=by kernel_rfl
theorem ajD(x n:Int)(w:MO)(hB:Xo w)(hx:0<=x)(hx2:x<=4398046511104)(hn:0<=n)(hn2:n<=4398046511104) :
  Ni MK 261 #[yB x,yB n] w fun r w'=>r=MN (yB (Xq x n))/\∃q,w'=w.drewN q:=by
 have a1:x.tdiv 8=x / 8:=OT hx;have a2:x.tdiv 64=x / 64:=OT hx;have a3:x.tdiv 512=x / 512:=OT hx;have a4:n.tdiv 8=n / 8:=OT hn;have C:n.tdiv 64=n / 64:=OT hn;have D:n.tdiv 512=n / 512:=OT hn;have E:x.tmod 8=x % 8:=Oi hx;have z:(x / 8).tmod 8=x / 8 % 8:=Oi (by omega);have F:(x / 64).tmod 8=x / 64 % 8:=Oi (by omega);obtain⟨p,o⟩:=yE (Xq x n);rw[<-o];unfold Xq at o;have s:M6 _:=o;clear o;obtain⟨c0,c1,c2⟩:=hB;have y:=anP;have A:=anQ;have v:=anR;go_enter Vr,Vm;go_wp2
 go_loopw [8] (fun i wr=>∃(k:Nat) (q:Nat),i=yB k/\k<=3/\wr=w.drewN q/\(1<=k->¬x / 8=n / 8)/\(2<=k->¬x / 64=n / 64)/\(3<=k->¬x / 512=n / 512)) (fun i _=>3-(On i).toNat)
 case atStart=>exact⟨0,0,rfl,by omega,rfl,by omega,by omega,by omega⟩
 case round =>
  obtain⟨k,q,rfl,B,rfl,e,j,l⟩:=hrel;have u:k=0\/k=1\/k=2\/k=3:=by omega
  rcases u with rfl|rfl|rfl|rfl
  ·by_cases h1:x / 8=n / 8
   ·have d:M6 (p=x % 8):=by show p=_;rw[s.out,Nh h1]
    go_wp2
    go_region
    go_wp2;go_ret;exact⟨by rw[d.out];rfl,q+1,rfl⟩
   ·have d:M6 (¬x / 8=n / 8):=h1
    clear e j l;go_wp2
    go_region
    go_wp2
    go_roundw
    case rel=>exact⟨1,q+1,rfl,by omega,rfl,fun _=>d.out,by omega,by omega⟩
    case measure=>simp[On]
  ·by_cases h1:x / 64=n / 64
   ·have d:M6 (p=8+x / 8 % 8):=by show p=_;rw[s.out,Nf (e (by omega)),Nh h1]
    clear e j l;go_wp2
    go_region
    go_wp2;go_ret;exact⟨by rw[d.out];rfl,q+1,rfl⟩
   ·have d:M6 (_/\¬x / 64=n / 64):=⟨e (by omega),h1⟩
    clear e j l;go_wp2
    go_region
    go_wp2
    go_roundw
    case rel=>exact⟨2,q+1,rfl,by omega,rfl,fun _=>d.out.1,fun _=>d.out.2,by omega⟩
    case measure=>simp[On]
  ·by_cases h1:x / 512=n / 512
   ·have d:M6 (p=16+x / 64 % 8):=by show p=_;rw[s.out,Nf (e (by omega)),Nf (j (by omega)),Nh h1]
    clear e j l;go_wp2
    go_region
    go_wp2;go_ret;exact⟨by rw[d.out];rfl,q+1,rfl⟩
   ·have d:M6 (_/\_/\¬x / 512=n / 512):=⟨e (by omega),j (by omega),h1⟩
    clear e j l;go_wp2
    go_region
    go_wp2
    go_roundw
    case rel=>exact⟨3,q+1,rfl,by omega,rfl,fun _=>d.out.1,fun _=>d.out.2.1,fun _=>d.out.2.2⟩
    case measure=>simp[On]
  ·have d:M6 (p=24):=by show p=_;rw[s.out,Nf (e (by omega)),Nf (j (by omega)),Nf (l (by omega))]
   clear e j l;go_wp2;go_ret;exact⟨by rw[d.out];rfl,q,rfl⟩
theorem awq(n:Int)(w:MO)(hB:Xo w)(hn:0<=n)(hn2:n<=4398046511104) :
  Ni MK 260 #[yB 0,yB n] w fun r w'=>r=MN (yB (8+n / 8 % 8))/\w'=w:=by
 have a4:n.tdiv 8=n / 8:=OT hn;have d:(n / 8).tmod 8=n / 8 % 8:=Oi (by omega);obtain⟨c0,c1,c2⟩:=hB;go_enter aAU,aAK;go_wp2;go_ret;exact⟨rfl,rfl⟩
theorem awr(n:Int)(w:MO)(hB:Xo w)(hn:0<=n)(hn2:n<=4398046511104) :
  Ni MK 260 #[yB 1,yB n] w fun r w'=>r=MN (yB (16+n / 64 % 8))/\w'=w:=by
 have a4:n.tdiv 64=n / 64:=OT hn;have d:(n / 64).tmod 8=n / 64 % 8:=Oi (by omega);obtain⟨c0,c1,c2⟩:=hB;go_enter aAU,aAK;go_wp2;go_ret;exact⟨rfl,rfl⟩
theorem aws(n:Int)(w:MO) :
  Ni MK 260 #[yB 2,yB n] w fun r w'=>r=MN (yB 24)/\w'=w:=by
 go_enter aAU,aAK;go_wp2;go_ret;exact⟨rfl,rfl⟩
def Zg(now:Int)(t:Tm):Bool:=Nn (now<t.1) && Nn (t.1<=now+500) && Nn (t.1<=1099511627776) && Nn (0<=t.2) && Nn (t.2<=199)
theorem ada(now:Int)(t:Tm):Zg now t=Nw↔now<t.1/\t.1<=now+500/\t.1<=1099511627776/\0<=t.2/\t.2<=199:=by
 simp[Zg,and_assoc]
theorem anM(x y n:Int)(w:MO)(hn:0<=n)(hn2:n<=1099511627776) :
  Ni MK 228 #[Ny #[yB x,yB y],yB n] w fun r w'=>r=MN (M3 (Zg n (x,y)))/\w'=w.alloc (MP #[yB x,yB y] 230):=by
 obtain⟨d,e⟩:=yE (Zg n (x,y));rw[<-e];have H:M6 _:=e;clear e;cases h1:Nn (n<x)
 ·have i:M6 (d=Nb):=by show d=Nb;rw[H.out];simp only[Zg,h1,Bool.false_and]
  go_enter S6,SE;go_wp2;go_ret;exact⟨by rw[i.out];rfl,rfl⟩
 ·go_enter S6,SE
  go_wp2
  all_goals
   go_ret;refine⟨congrArg (fun b=>MN (M3 b)) (Bool.eq_iff_iff.2 ?_),rfl⟩;rw[H.out,ada];have:=M2 h1;simp only[decide_eq_true_eq,Bool.false_eq_true,false_iff];omega
theorem aey{w:MO}{b:M7}{T:NU}(h:w.heap[g]?=MI (MP #[a,b,c] T (0,0))):w.cell? ⟨g,0,MH⟩=MI a/\w.cell? ⟨g,1,MH⟩=MI b/\w.cell? ⟨g,2,MH⟩=MI c/\g<w.heap.size:=by
 refine⟨by simp[Nl,h],by simp[Nl,h],by simp[Nl,h],?_⟩;exact(ZAa.1 h).1
def Zy(n:Int)(m:Int):Bool:=Nn (n % m=0)
theorem avH(n:Int)(w:MO)(hB:Xo w)(hn:0<=n)(hn2:n<=4398046511104) :
  Ni MK 258 #[yB n] w fun r w'=>r=MN (Ny #[M3 (Zy n 8),M3 (Zy n 64),M3 (Zy n 512)])/\yA w w':=by
 have a1:n.tmod 8=n % 8:=Oi hn;have a2:n.tmod 64=n % 64:=Oi hn;have a3:n.tmod 512=n % 512:=Oi hn;obtain⟨s,B⟩:∃b,b=Zy n 8:=⟨_,rfl⟩;obtain⟨u,A⟩:∃b,b=Zy n 64:=⟨_,rfl⟩;obtain⟨q,C⟩:∃b,b=Zy n 512:=⟨_,rfl⟩;rw[<-B,<-A,<-C];unfold Zy at B A C;have e1:(n % 8 == 0)=s:=by rw[B];by_cases h:n % 8=0 <;> simp[h]
 have T:(n % 64 == 0)=u:=by rw[A];by_cases h:n % 64=0 <;> simp[h]
 have U:(n % 512 == 0)=q:=by rw[C];by_cases h:n % 512=0 <;> simp[h]
 clear B A C;obtain⟨c0,c1,c2⟩:=hB;have R:=anP;have i1:=anQ;have Q:=anR;have F:10<w.heap.size:=MX w ⟨10,0,MH⟩ c0;have L:0<w.heap.size:=Pb (Nx _) F;go_enter Tryz.func258,Tryz.ntmps258;go_wp2
 go_loopw [7] (fun i wr=>∃k:Nat,i=yB k/\k<=3/\yA w wr/\wr.heap[w.heap.size]?=MI (MP #[M3 Nb,M3 Nb,M3 Nb] 394 (0,0))/\wr.heap[w.heap.size+1]?=MI (MP #[M3 (Nn (1<=k) && s),M3 (Nn (2<=k) && u),M3 (Nn (3<=k) && q)] 394 (0,0))) (fun i _=>3-(On i).toNat)
 case atStart =>
  exact⟨0,rfl,by omega,((MY _ _).alloc (MV _) _).alloc (by simp) _,Xy _ _ (M1 _ _),Yu _ _ _⟩
 case round =>
  obtain⟨k,rfl,hk,l,j,d⟩:=hrel;have G:k=0\/k=1\/k=2\/k=3:=by omega
  rcases G with rfl|rfl|rfl|rfl
  ·obtain⟨y,z,o,D⟩:=aey d
   have E:wr.frozen? ⟨w.heap.size+1,0,MH⟩=false:=by simp[Ng,d]
   have e:M6 (_/\_/\_):=⟨l,j,d⟩;clear l j d;go_wp2;refine⟨⟨1,rfl,by omega,e.out.1.setCell (by simp) _,(MU _ _ _ _ (by simp)).trans e.out.2.1,(NI _ _ 0 _ _ _ e.out.2.2).trans ?_⟩,by simp[On]⟩;simp
  ·obtain⟨y,z,o,D⟩:=aey d
   have E:wr.frozen? ⟨w.heap.size+1,1,MH⟩=false:=by simp[Ng,d]
   have e:M6 (_/\_/\_):=⟨l,j,d⟩;clear l j d;go_wp2;refine⟨⟨2,rfl,by omega,e.out.1.setCell (by simp) _,(MU _ _ _ _ (by simp)).trans e.out.2.1,(NI _ _ 1 _ _ _ e.out.2.2).trans ?_⟩,by simp[On]⟩;simp
  ·obtain⟨y,z,o,D⟩:=aey d
   have E:wr.frozen? ⟨w.heap.size+1,2,MH⟩=false:=by simp[Ng,d]
   have e:M6 (_/\_/\_):=⟨l,j,d⟩;clear l j d;go_wp2;refine⟨⟨3,rfl,by omega,e.out.1.setCell (by simp) _,(MU _ _ _ _ (by simp)).trans e.out.2.1,(NI _ _ 2 _ _ _ e.out.2.2).trans ?_⟩,by simp[On]⟩;simp
  ·obtain⟨y,z,o,D⟩:=aey d
   obtain⟨V,Z,x2,M⟩:=aey j;have E:wr.frozen? ⟨w.heap.size,0,MH⟩=false:=by simp[Ng,j]
   have f1:wr.frozen? ⟨w.heap.size,1,MH⟩=false:=by simp[Ng,j]
   have Y:wr.frozen? ⟨w.heap.size,2,MH⟩=false:=by simp[Ng,j]
   have N:wr.cell? ⟨w.heap.size+1,0,MH⟩=MI (M3 s):=by rw[y];simp
   have O:wr.cell? ⟨w.heap.size+1,1,MH⟩=MI (M3 u):=by rw[z];simp
   have P:wr.cell? ⟨w.heap.size+1,2,MH⟩=MI (M3 q):=by rw[o];simp
   have e:M6 (_/\_/\_):=⟨l,j,d⟩;clear l j d y z o;go_wp2;have I:=NI _ _ 2 _ _ (M3 q) (NI _ _ 1 _ _ (M3 u) (NI wr w.heap.size 0 _ _ (M3 s) e.out.2.1));obtain⟨H,K,J,_⟩:=aey I;refine Np (v:=Ny #[M3 s,M3 u,M3 q]) (by simp[Pf,Tryz.results258,go_sem,H,K,J]) rfl ⟨rfl,?_⟩;exact((e.out.1.setCell (by simp) _).setCell (by simp) _).setCell (by simp) _
structure Ok(now:Int)(ls:List (List Tm)):Prop where
 len:ls.length=25
 fit:∀(i:Nat) (l:List Tm),ls[i]?=MI l->∀t∈l,Zg now t=Nw/\Xq t.1 now=(i:Int)
 ord:∀l∈ls,l.Pairwise (fun a b=>Xe a b<0)
 ids:(ls.flatten.map (·.2)).Nodup
structure Z7(f:Int->Option Int)(ls:List (List Tm)):Prop where
 here:∀(i:Nat) (l:List Tm),ls[i]?=MI l->∀t∈l,f t.2=MI (i:Int)
 gone:∀id,(∀t∈ls.flatten,t.2≠id)->f id=MH
theorem ajs(ls:List (List Tm))(i:Nat)(l l':List Tm)(h:ls[i]?=MI l):∃a b,ls=a++l::b/\ls.set i l'=a++l'::b/\a.length=i:=by
 have d:=(ZAb.1 h).1;have e:=(ZAb.1 h).2;refine⟨ls.take i,ls.drop (i+1),?_,?_,by rw[NH];omega⟩
 ·rw[<-e,Pp,Oo]
 ·rw[List.set_eq_take_append_cons_drop,Nh d]
theorem anS(l:List Tm)(t:Tm)(j:Nat):(YA l t j).Perm (t::l):=by
 unfold YA;have h:=QC (a:=t) (l₁:=l.take j) (l₂:=l.drop j);rwa[Oo]at h
theorem ajA{l:List Tm}{j:Nat}:x∈YA l t j↔x=t\/x∈l:=by
 rw[(anS l t j).mem_iff,OO]
theorem afu{ls:List (List Tm)}{i:Nat}{l:List Tm}(h:ls[i]?=MI l)(t:Tm)(j:Nat):(ls.set i (YA l t j)).flatten.Perm (t::ls.flatten):=by
 obtain⟨a,b,n,d,_⟩:=ajs ls i l (YA l t j) h;rw[n]at d⊢;rw[d];simp only[PV,QS];have e:(a.flatten++(YA l t j++b.flatten)).Perm (a.flatten++(t::l++b.flatten)):=((anS l t j).append_right _).append_left _;refine e.trans ?_;simp only[List.cons_append];exact QC
theorem anT{l:List Tm}(h:l.Pairwise (fun a b=>Xe a b<0))(t:Tm)(j:Nat)(h1:∀x∈l.take j,Xe x t<0)(h2:∀x∈l.drop j,Xe t x<0):(YA l t j).Pairwise (fun a b=>Xe a b<0):=by
 unfold YA;have e:=List.pairwise_append.1 (by rw[Oo];exact h:(l.take j++l.drop j).Pairwise _);refine List.pairwise_append.2 ⟨e.1,ZAe.2 ⟨h2,e.2.1⟩,fun x hx y d=>?_⟩;rcases OO.1 d with rfl|d
 ·exact h1 x hx
 ·exact e.2.2 x hx y d
theorem Ok.ID{now:Int}{ls:List (List Tm)}(h:Ok now ls){i:Nat}{l:List Tm}(hl:ls[i]?=MI l)(hf:Zg now t=Nw)(hp:Xq t.1 now=(i:Int))(hn:∀x∈ls.flatten,x.2≠t.2)(j:Nat)
  (h1:∀x∈l.take j,Xe x t<0) (h2:∀x∈l.drop j,Xe t x<0):Ok now (ls.set i (YA l t j)):=by
 have o:=(ZAb.1 hl).1;refine⟨by rw[NA];exact h.len,fun k m hk x d=>?_,fun m n=>?_,?_⟩
 ·by_cases hki:k=i
  ·subst hki
   rw[N7 o]at hk;rw[<-NC hk]at d;rcases ajA.1 d with rfl|d
   ·exact⟨hf,hp⟩
   ·exact h.fit k l hl x d
  ·rw[N3 (Pi hki)]at hk
   exact h.fit k m hk x d
 ·rcases OB n with n|rfl
  ·exact h.ord m n
  ·exact anT (h.ord l (Nu hl)) t j h1 h2
 ·rw[((afu hl t j).map _).nodup_iff,OA,QJ]
  refine⟨fun n=>?_,h.ids⟩;obtain⟨x,d,e⟩:=ZAd.1 n;exact hn x d e
theorem Z7.ID{f:Int->Option Int}{ls:List (List Tm)}(h:Z7 f ls){i:Nat}{l:List Tm}(hl:ls[i]?=MI l)(hn:∀x∈ls.flatten,x.2≠t.2)(j:Nat):Z7 (fun k=>if k=t.2 then MI (i:Int)else f k) (ls.set i (YA l t j)):=by
 have o:=(ZAb.1 hl).1;refine⟨fun k m hk x d=>?_,fun id hid=>?_⟩
 ·by_cases hki:k=i
  ·subst hki
   rw[N7 o]at hk;rw[<-NC hk]at d;rcases ajA.1 d with rfl|d
   ·exact Nh rfl
   ·have:x.2≠t.2:=hn x (List.mem_flatten.2 ⟨l,Nu hl,d⟩)
    simp only[Nf this];exact h.here k l hl x d
  ·rw[N3 (Pi hki)]at hk
   have:x.2≠t.2:=hn x (List.mem_flatten.2 ⟨m,Nu hk,d⟩);simp only[Nf this];exact h.here k m hk x d
 ·have n:id≠t.2:=fun e=>hid t ((afu hl t j).mem_iff.2 (NM ..)) e.symm
  simp only[Nf n];exact h.gone id fun x d=>hid x ((afu hl t j).mem_iff.2 (NB _ d))
theorem Z7.GP{f:Int->Option Int}{ls:List (List Tm)}(h:Z7 f ls)(id:Int):(f id).isSome=Nb↔∀x∈ls.flatten,x.2≠id:=by
 constructor
 ·intro i x d e
  obtain⟨m,l,j⟩:=List.mem_flatten.1 d;obtain⟨k,n,rfl⟩:=NV l;have:=h.here k _ (MR n) x j;rw[e]at this;rw[this]at i;cases i
 ·intro d
  rw[h.gone id d];rfl
def YG(ls:List (List Tm))(i k:Nat):List (List Tm):=(Pm 25).map fun(a:Nat)=>if a<i then ls.getD a []else if a=i then(ls.getD i []).take k else []
theorem aeu(ls:List (List Tm))(i k a:Nat)(ha:a<25):(YG ls i k)[a]?=MI (if a<i then ls.getD a []else if a=i then(ls.getD i []).take k else []):=by
 simp[YG,ha]
theorem aev(ls:List (List Tm))(i k:Nat):(YG ls i k).length=25:=by simp[YG]
theorem awi(ls:List (List Tm))(i k:Nat)(hi:i<25)(l:List Tm)(hl:ls[i]?=MI l)(hk:k<l.length):(YG ls i k).set i (YA (l.take k) l[k] (l.take k).length)=YG ls i (k+1):=by
 apply Ot;intro a;have e:ls.getD i []=l:=by simp[Pq,hl]
 rcases Oq a 25 with d|d
 ·rw[aeu _ _ _ _ d]
  by_cases hai:a=i
  ·subst hai
   rw[N7 (by rw[aev];exact d),Nf (by omega),Nh rfl,e,ajw,M9 hk]
  ·rw[N3 (Pi hai),aeu _ _ _ _ d,Nf hai,Nf hai]
 ·rw[Nz (by rw[NA,aev];exact d),Nz (by rw[aev];exact d)]
theorem awh(ls:List (List Tm))(i:Nat)(l:List Tm)(hl:ls[i]?=MI l):YG ls i l.length=YG ls (i+1) 0:=by
 have d:ls.getD i []=l:=by simp[Pq,hl]
 unfold YG;refine PU fun a _=>?_
 rcases Nat.lt_trichotomy a i with h|h|h
 ·rw[Nh h,Nh (by omega)]
 ·subst h
  rw[Nf (by omega),Nh rfl,Nh (by omega),d,NT]
 ·rw[Nf (by omega),Nf (by omega),Nf (by omega)]
  split
  ·simp
  ·rfl
theorem awe(ls:List (List Tm))(h:ls.length=25):YG ls 25 0=ls:=by
 apply Ot;intro a;rcases Oq a 25 with d|d
 ·rw[aeu _ _ _ _ d,Nh d,MR (by omega)]
  simp[Pq,MR (show a<ls.length by omega)]
 ·rw[Nz (by rw[aev];exact d),Nz (by omega)]
theorem ajC(ls:List (List Tm)):YG ls 0 0=Nj 25 []:=by
 apply Ot;intro a;rcases Oq a 25 with d|d
 ·rw[aeu _ _ _ _ d,Pj,Nh d,Nf (QH _)]
  split
  ·simp
  ·rfl
 ·rw[Nz (by rw[aev];exact d),Nz (by simp;exact d)]
theorem awf(ls:List (List Tm))(hls:ls.length=25)(i k:Nat)(l:List Tm)(hl:ls[i]?=MI l):YG ls i k=ls.take i++l.take k::Nj (24-i) []:=by
 have j:=(ZAb.1 hl).1;have e:ls.getD i []=l:=by simp[Pq,hl]
 apply Ot;intro a;rcases Oq a 25 with d|d
 ·rw[aeu _ _ _ _ d,Q9,NH,show min i ls.length=i by omega]
  rcases Nat.lt_trichotomy a i with h|h|h
  ·rw[Nh h,Nh h,O0 h,MR (by omega)]
   simp[Pq,MR (show a<ls.length by omega)]
  ·subst h
   rw[Nf (by omega),Nh rfl,Nf (by omega),Nat.sub_self,e];rfl
  ·rw[Nf (by omega),Nf (by omega),Nf (by omega),show a-i=(a-i-1)+1 by omega,N9,Pj,Nh (by omega)]
 ·rw[Nz (by rw[aev];exact d),Nz (by simp;omega)]
theorem awg(ls:List (List Tm))(hls:ls.length=25)(i k:Nat)(l:List Tm)(hl:ls[i]?=MI l):(YG ls i k).flatten=(ls.take i).flatten++l.take k:=by
 rw[awf ls hls i k l hl];simp
theorem Ok.IA{now:Int}{ls:List (List Tm)}(h:Ok now ls){i k:Nat}{l:List Tm}(hl:ls[i]?=MI l)(hk:k<l.length) :
  Zg now l[k]=Nw/\Xq (l[k]).1 now=(i:Int)/\(∀x∈(YG ls i k).flatten,x.2≠(l[k]).2)/\∀x∈l.take k,Xe x l[k]<0:=by
 have o:=h.fit i l hl l[k] (Nk hk);refine⟨o.1,o.2,fun x hx e=>?_,fun x hx=>?_⟩
 ·rw[awg ls h.len i k l hl]at hx
  have A:=(ZAb.1 hl).1;have w:ls.flatten=((ls.take i).flatten++l.take k)++(l[k]::(l.drop (k+1)++(ls.drop (i+1)).flatten)):=by
   have y:ls=ls.take i++l::ls.drop (i+1):=by
    have r:=(ZAb.1 hl).2;rw[<-r,Pp,Oo]
   have u:l=l.take k++l[k]::l.drop (k+1):=by rw[Pp,Oo]
   have s:ls.flatten=(ls.take i).flatten++(l++(ls.drop (i+1)).flatten):=by
    have n:(ls.take i++l::ls.drop (i+1)).flatten=(ls.take i).flatten++(l++(ls.drop (i+1)).flatten):=by simp
    rw[<-y]at n;exact n
   have z:l++(ls.drop (i+1)).flatten=(l.take k++l[k]::l.drop (k+1))++(ls.drop (i+1)).flatten:=congrArg (·++(ls.drop (i+1)).flatten) u;rw[s,z];simp only[OC,List.cons_append]
  have d:=h.ids;rw[w,OI,Qv]at d;exact d.2.2 x.2 (ZAd.2 ⟨x,hx,rfl⟩) (l[k]).2 (ZAd.2 ⟨l[k],NM ..,rfl⟩) e
 ·have v:=h.ord l (Nu hl)
  obtain⟨j,q,rfl⟩:=NV hx;rw[List.getElem_take];exact List.pairwise_iff_getElem.1 v j k (by simp at q;omega) hk (by simp at q;omega)
theorem anK(a b c d:Int)(w:MO) :
  Ni MK 278 #[Ny #[yB a,yB b],Ny #[yB c,yB d]] w fun r w'=>r=MN (yB (Xe (a,b) (c,d)))/\w'=(((w.alloc (MP #[yB a,yB b] 230)).alloc (MP #[yB c,yB d] 230)).alloc (MP #[yB (YK a c),yB (YK b d)] 3)).drew:=by
 obtain⟨l,e⟩:=yE (Xe (a,b) (c,d));rw[<-e];rw[aiC]at e;obtain⟨x,j⟩:=yE (YK a c);obtain⟨y,i⟩:=yE (YK b d);rw[<-j,<-i]at e;have H:M6 (_/\_/\_):=⟨e,j,i⟩;clear e j i;rw[<-H.out.2.1,<-H.out.2.2];go_enter Tryz.func278,Tryz.ntmps278
 go_wp2_with fail
 generalize hw2:(w.alloc (MP #[yB a,yB b] 230)).alloc (MP #[yB c,yB d] 230)=w2;have n:w2.cell? ⟨w.heap.size,0,MH⟩=MI (yB a):=by rw[<-hw2];simp
 have o:w2.cell? ⟨w.heap.size,1,MH⟩=MI (yB b):=by rw[<-hw2];simp
 have q:w2.cell? ⟨w.heap.size+1,0,MH⟩=MI (yB c):=by rw[<-hw2];simp
 have u:w2.cell? ⟨w.heap.size+1,1,MH⟩=MI (yB d):=by rw[<-hw2];simp
 have v:M6 _:=hw2;clear hw2
 go_region_held3 (fun w'=>w'.cell? ⟨w.heap.size,0,MH⟩=MI (yB a)/\w'.cell? ⟨w.heap.size,1,MH⟩=MI (yB b)/\w'.cell? ⟨w.heap.size+1,0,MH⟩=MI (yB c)/\w'.cell? ⟨w.heap.size+1,1,MH⟩=MI (yB d)/\yA w2 w') (first|exact afd n o q u ((MY _ _).drew)|exact afd n o q u (((MY _ _).drew).alloc (MV _) _)) (first|(go_at_call_of 265 (yB a);refine(aeg a c _).mono ?_;rw[<-H.out.2.1];rintro r s ⟨rfl,rfl⟩)|(go_at_call_of 265 (yB b);refine(aeg b d _).mono ?_;rw[<-H.out.2.2];rintro r s ⟨rfl,rfl⟩)|(go_at_call 301;refine(aiO x y w2.heap.size _ (by simp) (by simp)).mono ?_;rw[<-H.out.1];rintro r s ⟨rfl,rfl⟩))
 go_wp2;go_ret;exact⟨rfl,by rw[v.out]⟩
theorem ajq(a b c d:Int)(w:MO) :
  Ni MK 278 #[Ny #[yB a,yB b],Ny #[yB c,yB d]] w fun r w'=>r=MN (yB (Xe (a,b) (c,d)))/\yA w w' :=
 (anK a b c d w).mono fun r w' h=>⟨h.1,by rw[h.2];exact((((MY _ _).alloc (MV _) _).alloc (by simp) _).alloc (by simp;omega) _).drew⟩
theorem adb{w:MO}(h1:w.cell? a1=MI v1)(h2:w.cell? a2=MI v2)(h3:w.cell? a3=MI v3)(h4:w.cell? a4=MI v4)
  (hb:yA w w'):w'.cell? a1=MI v1/\w'.cell? a2=MI v2/\w'.cell? a3=MI v3/\w'.cell? a4=MI v4/\yA w w' :=
 ⟨(hb.cell (MX w _ h1)).trans h1,(hb.cell (MX w _ h2)).trans h2,(hb.cell (MX w _ h3)).trans h3,(hb.cell (MX w _ h4)).trans h4,hb⟩
theorem awl(v:M7)(l:List Tm)(ta td:Int)(i0:Nat)(w:MO)(hv:Xz w v l)(h0:i0<=l.length)(h1:∀j (hj:j<l.length),j<i0->Xe l[j] (ta,td)<0)(h2:∀j (hj:j<l.length),i0<=j->¬Xe l[j] (ta,td)<0)(hlen:l.length<=1048577) :
  Ni MK 277 #[v,Ny #[yB ta,yB td],PB (PD 278) #[] #[]] w fun r w'=>∃b,r=MN (Nv #[yB i0,M3 b])/\yA w w':=by
 obtain⟨a,ca,rfl,a0,V,Q⟩:=hv.F6;unfold NE at V;have L:M6 (_/\_/\_):=⟨Q,h1,h2⟩;clear Q h1 h2;go_enter Tryz.func277,Tryz.ntmps277;go_wp2
 go_loopw [9,10] (fun i j wr=>∃(p q:Nat),i=yB p/\j=yB q/\p<=i0/\i0<=q/\q<=l.length/\MQ (w.heap.size+1) (w.alloc (MP #[yB ta,yB td] 230)) wr) (fun i j _=>(On j).toNat-(On i).toNat)
 case atStart=>exact⟨0,l.length,rfl,rfl,Nx _,h0,MV _,MY _ _⟩
 case round =>
  obtain⟨p,q,rfl,rfl,hp,hq,Y,G⟩:=hrel;have C:wr.cell? ⟨w.heap.size,0,MH⟩=MI (yB ta):=by rw[G.cell (p:=⟨w.heap.size,0,MH⟩) (by simp)];simp
  have D:wr.cell? ⟨w.heap.size,1,MH⟩=MI (yB td):=by rw[G.cell (p:=⟨w.heap.size,1,MH⟩) (by simp)];simp
  have O:yA w wr:=(((MY _ _).alloc (MV _) _)).trans (G.mono (by omega));have n:M6 (_/\_):=⟨G,O⟩;clear G O
  by_cases hlt:p<q
  ·have b4:Nn ((p:Int)<(q:Int))=true:=Nq (by omega)
   obtain⟨m,J⟩:=yE ((p+q) / 2);have b5:p<=m:=by omega
   have b6:m<q:=by omega
   have N:((p:Int)+(q:Int)) / 2=(m:Int):=by omega
   have HM:M6 (_/\_):=⟨J,N⟩;clear J N;obtain⟨o,off,rfl,z,I,F⟩:=L.out.1 m (by omega);have u:=(n.out.2.cell (p:=⟨o,off+m*2,MH⟩) z).trans I;have s:=(n.out.2.cell (p:=⟨o,off+m*2+1,MH⟩) z).trans F;obtain⟨e,A⟩:∃e,(l[m]'(by omega)).1=e:=⟨_,rfl⟩;obtain⟨d,B⟩:∃d,(l[m]'(by omega)).2=d:=⟨_,rfl⟩;have M:l[m]'(by omega)=(e,d):=Q8 A B;rw[A]at u;rw[B]at s;have P:M6 _:=M;clear M A B I F;have U:(0:Int)<=(m:Int):=by omega
   have Z:(m:Int)<(l.length:Int):=by omega
   have T:o<wr.heap.size:=M8 z n.out.2.size
   go_wp2_with fail
   rw[HM.out.2];obtain⟨c,H⟩:=yE (Xe (e,d) (ta,td));have E:M6 _:=H;clear H;cases hcd:Nn (c<0)
   ·go_region_held3 (fun w'=>w'.cell? ⟨o,off+m*2,MH⟩=MI (yB e)/\w'.cell? ⟨o,off+m*2+1,MH⟩=MI (yB d)/\w'.cell? ⟨w.heap.size,0,MH⟩=MI (yB ta)/\w'.cell? ⟨w.heap.size,1,MH⟩=MI (yB td)/\yA wr w') (first|exact adb u s C D ((MY _ _).drew)|exact adb u s C D (Za y)) (first|(go_at_call 278;refine(ajq e d ta td _).mono ?_;rw[<-E.out];rintro r R ⟨rfl,y⟩))
    go_wp2;refine⟨⟨p,m,rfl,rfl,hp,?_,by omega,n.out.1.trans ((Za y).mono (by have:=n.out.1.size;simpa using this))⟩,by simp[On];omega⟩;rcases Oq m i0 with h|h
    ·have K:=L.out.2.1 m (by omega) h
     rw[P.out,<-E.out]at K;exact absurd K (Nc hcd)
    ·exact h
   ·go_region_held3 (fun w'=>w'.cell? ⟨o,off+m*2,MH⟩=MI (yB e)/\w'.cell? ⟨o,off+m*2+1,MH⟩=MI (yB d)/\w'.cell? ⟨w.heap.size,0,MH⟩=MI (yB ta)/\w'.cell? ⟨w.heap.size,1,MH⟩=MI (yB td)/\yA wr w') (first|exact adb u s C D ((MY _ _).drew)|exact adb u s C D (Za y)) (first|(go_at_call 278;refine(ajq e d ta td _).mono ?_;rw[<-E.out];rintro r R ⟨rfl,y⟩))
    go_wp2;refine⟨⟨m+1,q,by simp,rfl,?_,hq,Y,n.out.1.trans ((Za y).mono (by have:=n.out.1.size;simpa using this))⟩,by simp[On];omega⟩;rcases Oq m i0 with h|h
    ·exact h
    ·have K:=L.out.2.2 m (by omega) h
     rw[P.out,<-E.out]at K;have:=M2 hcd;omega
  ·obtain rfl:p=i0:=by omega
   obtain rfl:q=p:=by omega
   obtain⟨m,J⟩:=yE q;subst J
   by_cases hlt2:m<l.length
   ·obtain⟨o,off,rfl,z,I,F⟩:=L.out.1 m (by omega)
    have u:=(n.out.2.cell (p:=⟨o,off+m*2,MH⟩) z).trans I;have s:=(n.out.2.cell (p:=⟨o,off+m*2+1,MH⟩) z).trans F;obtain⟨e,A⟩:∃e,(l[m]'(by omega)).1=e:=⟨_,rfl⟩;obtain⟨d,B⟩:∃d,(l[m]'(by omega)).2=d:=⟨_,rfl⟩;rw[A]at u;rw[B]at s;clear A B I F;have U:(0:Int)<=(m:Int):=by omega
    have Z:(m:Int)<(l.length:Int):=by omega
    have T:o<wr.heap.size:=M8 z n.out.2.size;obtain⟨c,H⟩:=yE (Xe (e,d) (ta,td));have E:M6 _:=H;clear H
    go_wp2_with fail
    go_region_held3 (fun w'=>w'.cell? ⟨o,off+m*2,MH⟩=MI (yB e)/\w'.cell? ⟨o,off+m*2+1,MH⟩=MI (yB d)/\w'.cell? ⟨w.heap.size,0,MH⟩=MI (yB ta)/\w'.cell? ⟨w.heap.size,1,MH⟩=MI (yB td)/\yA wr w') (first|exact adb u s C D ((MY _ _).drew)|exact adb u s C D (Za y)) (first|(go_at_call 278;refine(ajq e d ta td _).mono ?_;rw[<-E.out];rintro r R ⟨rfl,y⟩))
    go_wp2
    go_ret2
    exact⟨_,rfl,n.out.2.trans ((Za y).mono n.out.2.size)⟩
   ·obtain rfl:m=l.length:=by omega
    go_wp2_with fail
    go_region
    go_wp2
    go_ret2
    exact⟨_,rfl,n.out.2.drew⟩
def afs(base:Nat)(v:M7)(l:List Tm)(t:Tm)(i:Nat)(w:MO)(r:Ending)(w':MO):Prop :=
 ∃g cap,r=MN (MG (MI ⟨g,0,MH⟩) (l.length+1) cap)/\w'.ownsRow base 230 2 (MG (MI ⟨g,0,MH⟩) (l.length+1) cap) (l.length+1) (WP (YA l t i))/\w.grownBy w' v.ownBlock/\(v.ownBlock=MI g\/w.heap.size<=g)
theorem ajH:∀(l:List Tm) (i:Nat),(WP l).drop (i*2)=WP (l.drop i)
 | [],i=>by simp[WP]
 |t::l,0=>by simp[WP]
 |t::l,i+1=>by rw[show(i+1)*2=i*2+1+1 by omega];simp[WP,ajH l i]
theorem av0(base:Nat)(v:M7)(l:List Tm)(ta td:Int)(k:Nat)(w:MO)(hown:w.ownsRow base 230 2 v l.length (WP l))(hbase:base<=w.heap.size)
  (hk:w.heap[k]?=MI (MP #[yB ta,yB td] 230 (0,0))) (hlen:l.length<=1048577) :
  Ni MK 279 #[v,yB l.length,MG (MI ⟨k,0,MH⟩) 1 1] w (afs base v l (ta,td) l.length w):=by
 obtain⟨A,B,y,s,z⟩:=OF ajv;have i:∀j u,(WP [(ta,td)])[j]?=MI u->w.cell? ((⟨k,0,MH⟩:Oc).add j)=MI u:=fun j u hu=>by
  have D:(⟨k,0,MH⟩:Oc).add j=⟨k,j,MH⟩:=by unfold Addr.add;split <;> simp_all
  rw[D,MW w k j _ _ (0,0) hk]
  simpa [WP]using hu
 obtain⟨p,c,rfl⟩:=Y6 hown;have H:l.length<=c:=by
  rcases hown.2 with⟨h,_⟩|⟨g,d,F,h,_,_,C,_⟩
  ·simp only[N4]at h;omega
  ·simp only[N4]at h;omega
 have I:c<=9223372036854775807:=by
  rcases hown.2 with⟨h,_⟩|⟨g,d,F,h,_,_,_,C,_⟩
  ·simp only[N4]at h;omega
  ·simp only[N4]at h;unfold NE at C;omega
 by_cases hcl:c=l.length
 ·subst hcl
  have e:M6 (_/\_):=⟨hown,i⟩;clear hown i;go_enter aAy,aAs
  go_wp2_with (first|(at_builtin;refine O9 _ rfl _ _ 227 rfl base 230 A _ 2 16 azY B y s z rfl (by decide) (MG p l.length l.length) _ _ rfl e.out.1 _ 1 1 (WP [(ta,td)]) rfl rfl e.out.2 (abJ _) (by decide) (by unfold NE;omega) (by omega) hbase _ rfl ?_;intro r d G n q o E))
  all_goals
   go_ret;exact⟨r,d,rfl,by rw[ajw,aa7];exact n,q,o.imp id (fun h=>by omega)⟩
 ·have e:M6 (_/\_):=⟨hown,i⟩
  clear hown i;go_enter aAy,aAs
  go_wp2_with (first|(at_builtin;refine O9 _ rfl _ _ 227 rfl base 230 A _ 2 16 azY B y s z rfl (by decide) (MG p l.length c) _ _ rfl e.out.1 _ 1 1 (WP [(ta,td)]) rfl rfl e.out.2 (abJ _) (by decide) (by unfold NE;omega) (by omega) hbase _ rfl ?_;intro r d G n q o E))
  all_goals
   go_ret;exact⟨r,d,rfl,by rw[ajw,aa7];exact n,q,o.imp id (fun h=>by omega)⟩
theorem av1(base g c:Nat)(l:List Tm)(ta td:Int)(i k:Nat)(w:MO)(hown:w.ownsRow base 230 2 (MG (MI ⟨g,0,MH⟩) l.length c) l.length (WP l))(hbase:base<=w.heap.size)(hi:i<l.length)(hroom:c<l.length+1)
  (hk:w.heap[k]?=MI (MP #[yB ta,yB td] 230 (0,0))) (hlen:l.length<=1048577) :
  Ni MK 279 #[MG (MI ⟨g,0,MH⟩) l.length c,yB i,MG (MI ⟨k,0,MH⟩) 1 1] w (afs base (MG (MI ⟨g,0,MH⟩) l.length c) l (ta,td) i w):=by
 obtain⟨U,E,O,H,T⟩:=OF ajv;have Q:c=l.length:=by
  rcases hown.2 with⟨h,_⟩|⟨g',e,c8,h,_,_,h2,_⟩
  ·cases h
  ·simp only[N4]at h;omega
 subst Q;have I:(MK.info? 230).map (·.size)=MI 2:=by rw[E];simp[H]
 have a0:=(hown.lt g rfl).2;have b6:k<w.heap.size:=(ZAa.1 hk).1;obtain⟨e,z,Y,r,y,J,L,d,c9⟩:=ag0 (P:=MK) w 227 3 227 230 U _ ME 2 16 azY Ol E O H T rfl (by decide) base ⟨g,0,MH⟩ i l.length (l.length+1-i) (WP (l.take i)) (by rw[YE,NH];omega)
  (fun j u hu=>by
   rw[abl,hown.cellAt j (by have:=(ZAb.1 hu).1;rw[YE,NH]at this;omega)];rw[<-ac4]at hu;rw[List.getElem?_take]at hu
   split at hu
   ·exact hu
   ·cases hu) (by omega) (by omega) (by unfold NE;omega) (by omega) hbase
 have N:i+(l.length+1-i)=l.length+1:=by omega
 rw[N]at r y L;rw[show((l.length+1-i:Nat):Int)=(l.length:Int)+1-(i:Int)by omega]at r;obtain⟨K,M,F,n⟩:=aa8 (P:=MK) Y 227 3 230 2 azY I base w.heap.size (l.length+1) e _ y (i*2) (l.length+1-i) (e-i) ⟨k,0,MH⟩ 1 1 1 (WP [(ta,td)]) (by simp only[PR];split <;> omega) rfl (by simp[WP];omega)
  (fun j u hu=>by
   rw[abl,(d.cell (a:=⟨k,j,MH⟩) (v:=u) (by rw[MW w k j _ _ (0,0) hk];simpa [WP]using hu) (by simp))]) (abJ _)
 obtain⟨Z,R,s,o⟩:=aa8 (P:=MK) K.drew 227 3 230 2 azY I base w.heap.size (l.length+1) e _ F ((i+1)*2) (l.length-i) (e-(i+1)) ⟨g,i*2,MH⟩ (l.length-i) (l.length-i) (l.length-i) (WP (l.drop i)) (by simp only[PR];split <;> omega) (by rw[YE,NJ]) (by rw[YE,NJ];omega)
  (fun j u hu=>by
   rw[aas];have q:=(ZAb.1 hu).1;rw[YE,NJ]at q;have V:w.cell? ⟨g,i*2+j,MH⟩=MI u:=by
    rw[hown.cellAt _ (by omega),<-hu,<-ajH,Pa]
   exact n.cell (a:=⟨g,i*2+j,MH⟩) (d.cell V (by simp)) (by simp;omega)) (abJ _)
 have D:(WP (l.take i)++z).take (i*2)++WP [(ta,td)]++(WP (l.take i)++z).drop (i*2+(WP [(ta,td)]).length)=WP (l.take i++[(ta,td)])++z.drop 2:=by
  have A:(WP (l.take i)).length=i*2:=by rw[YE,NH];omega
  rw[<-A,Qb,aa7,Qa];simp[WP]
 have C:∀ys:List M7,((WP (l.take i++[(ta,td)])++ys).take ((i+1)*2)++WP (l.drop i)++(WP (l.take i++[(ta,td)])++ys).drop ((i+1)*2+(WP (l.drop i)).length))=WP (YA l (ta,td) i)++ys.drop ((l.length-i)*2):=fun ys=>by
  have A:(WP (l.take i++[(ta,td)])).length=(i+1)*2:=by rw[YE];simp;omega
  rw[<-A,Qb,Qa,YE (l.drop i),NJ,YA,aa7,aa7];simp[WP]
 rw[D,C]at s;rw[List.drop_drop,PI (by rw[J];omega),OG]at s;have G:w.grownBy Z (MG (MI ⟨g,0,MH⟩) l.length l.length).ownBlock :=
  ⟨o.os.trans (n.os.trans d.os),o.tape.trans (n.tape.trans d.tape),o.output.trans (n.output.trans d.output),Nm d.size (Nm n.size o.size),fun j q _=>by
   rw[o.block j (M8 q (Nm d.size n.size)) (by simp;omega)];show K.heap[j]?=_;rw[n.block j (M8 q d.size) (by simp;omega),d.block j q (by simp)]⟩
 have B:M6 (_/\_/\_/\_/\_):=⟨r,M,R,s,G⟩;have b9:(i:Int)<=(l.length:Int):=by omega
 have c7:(i:Int)<(l.length:Int)+1:=by omega
 have b7:¬e=i:=by omega
 have b5:¬e=i+1:=by omega
 have b4:¬l.length=i:=by omega
 have b8:((i:Int) == (l.length:Int))=false:=by simp;omega
 clear r y F s d n o J hown hk D C G;go_enter aAy,aAs
 go_wp2_with (first|(at_builtin;refine Lib.wpList_append_run _ rfl _ _ _ _ rfl _ _ rfl rfl _ _ B.out.1 ?_))
 go_region
 go_wp2;go_ret;exact⟨w.heap.size,e,rfl,B.out.2.2.2.1,B.out.2.2.2.2,NF (MV _)⟩
theorem av2(base g c:Nat)(l:List Tm)(ta td:Int)(i k:Nat)(w:MO)(hown:w.ownsRow base 230 2 (MG (MI ⟨g,0,MH⟩) l.length c) l.length (WP l))(hbase:base<=w.heap.size)(hi:i<l.length)(hroom:l.length+1<=c)(hkg:k≠g)
  (hk:w.heap[k]?=MI (MP #[yB ta,yB td] 230 (0,0))) (hlen:l.length<=1048577) :
  Ni MK 279 #[MG (MI ⟨g,0,MH⟩) l.length c,yB i,MG (MI ⟨k,0,MH⟩) 1 1] w (afs base (MG (MI ⟨g,0,MH⟩) l.length c) l (ta,td) i w):=by
 obtain⟨i0,K,c8,N,c9⟩:=OF ajv;have F:(MK.info? 230).map (·.size)=MI 2:=by rw[K];simp[N]
 obtain⟨d,z,D,A,G,L⟩:∃d:Array M7,w.heap[g]?=MI (MP d 230 (0,0))/\c<=NE/\d.size=c*2/\d.toList.take (l.length*2)=WP l/\base<=g:=by
  rcases hown.2 with⟨h,_⟩|⟨g',b9,d,h,U,hg,h2,V,R,Y⟩
  ·cases h
  ·simp only[N4,Qs,Q1,and_true,true_and]at h
   obtain⟨rfl,rfl⟩:=h;exact⟨d,hg,V,R,Y,U⟩
 have q:w.ownsRow base 230 2 (MG (MI ⟨g,0,MH⟩) (l.length+1) c) (l.length+1) (d.toList.take ((l.length+1)*2)):=
  ⟨by simp only[NH,Om,A];omega,NF ⟨g,c,d,rfl,L,z,hroom,D,A,rfl⟩⟩
 have I:d.toList.take ((l.length+1)*2)=WP l++(d.toList.drop (l.length*2)).take 2:=by
  rw[<-G,show(l.length+1)*2=l.length*2+2 by omega,List.take_add]
 rw[I]at q;have s:((d.toList.drop (l.length*2)).take 2).length=2:=by simp only[NH,NJ,Om,A];omega
 generalize (d.toList.drop (l.length*2)).take 2=sp at q s;have a0:=(hown.lt g rfl).2;obtain⟨Z,d7,E,n⟩:=aa8 (P:=MK) w.drew 227 3 230 2 azY F base g (l.length+1) c _ q ((i+1)*2) (l.length-i) (c-(i+1)) ⟨g,i*2,MH⟩ (l.length+1-i) (c-i) (l.length-i) (WP (l.drop i)) (by simp only[PR];split <;> omega) (by rw[YE,NJ]) (by rw[YE,NJ];omega)
  (fun j u hu=>by
   rw[aas];have r:=(ZAb.1 hu).1;rw[YE,NJ]at r;have Q:w.cell? ⟨g,i*2+j,MH⟩=MI u:=by
    rw[hown.cellAt _ (by omega),<-hu,<-ajH,Pa]
   exact Q) (abJ _)
 obtain⟨w3,b8,y,o⟩:=aa8 (P:=MK) Z 227 3 230 2 azY F base g (l.length+1) c _ E (i*2) (l.length+1-i) (c-i) ⟨k,0,MH⟩ 1 1 1 (WP [(ta,td)]) (by simp only[PR];split <;> omega) rfl (by simp[WP];omega)
  (fun j u hu=>by
   rw[abl,(n.cell (a:=⟨k,j,MH⟩) (v:=u) (show w.cell? _=_ by rw[MW w k j _ _ (0,0) hk];simpa [WP]using hu) (by simp;omega))]) (abJ _)
 have B:∀xs:List M7,xs=(WP l++sp).take ((i+1)*2)++WP (l.drop i)++(WP l++sp).drop ((i+1)*2+(WP (l.drop i)).length)->xs.take (i*2)++WP [(ta,td)]++xs.drop (i*2+(WP [(ta,td)]).length)=WP (YA l (ta,td) i):=fun xs hxs=>by
  have e1:(WP l++sp).drop ((i+1)*2+(WP (l.drop i)).length)=[]:=PI (by rw[Ns,YE,YE,NJ,s];omega);have T:(WP l++sp).take ((i+1)*2)=WP (l.take (i+1)):=by
   rw[ZqA (by rw[YE];omega),ac4]
  rw[e1,T,OG]at hxs;have H:(WP (l.take (i+1))).length=(i+1)*2:=by rw[YE,NH];omega
  have O:xs.take (i*2)=WP (l.take i):=by
   rw[hxs,ZqA (by rw[H];omega),ac4,List.take_take,show min i (i+1)=i by omega]
  have e5:xs.drop (i*2+(WP [(ta,td)]).length)=WP (l.drop i):=by
   rw[hxs,show i*2+(WP [(ta,td)]).length=(WP (l.take (i+1))).length by rw[H];simp[WP];omega,List.drop_left]
  rw[O,e5,YA,aa7];simp[WP]
 rw[B _ rfl]at y;have C:w.grownBy w3 (MG (MI ⟨g,0,MH⟩) l.length c).ownBlock :=
  ⟨o.os.trans n.os,o.tape.trans n.tape,o.output.trans n.output,Nm n.size o.size,fun j r hne=>by
   rw[o.block j (M8 r n.size) hne];exact n.block j r hne⟩
 have M:∀lb cb,(callFunc 302 #[MG (MI ⟨k,0,MH⟩) 1 1,MG (MI ⟨g,(i+1)*2,MH⟩) lb cb]).run MK w=.ok (.value (M3 Nb)) w:=fun lb cb=>by
  rw[run_callFunc_extern Tryz.func302 (by kernel_rfl) (by kernel_rfl) (by kernel_rfl) (e:=P9 #[227,227] #[4]) (by kernel_rfl),
   Lib.run_overlaps_apart w 227 4 230 azY 2 Tryz.sizeOf230 ⟨k,0,MH⟩ ⟨g,(i+1)*2,MH⟩ 1 1 lb cb hkg 230 230 2 d.size (by simp[QO,hk]) (by simp[QO,z]) (by omega) (by simp[Ng,hk]) (by simp[Ng,hk])]
  rfl
 have J:M6 (_/\_):=⟨y,C⟩;have b7:(i:Int)<=(l.length:Int):=by omega
 have c7:(i:Int)<=(l.length:Int)+1:=by omega
 have b5:¬c=i:=by omega
 have b4:¬c=i+1:=by omega
 have b6:((i:Int) == (l.length:Int))=false:=by simp;omega
 have d6:(l.length:Int)+1<=(c:Int):=by omega
 unfold NE at D;clear E y n o hown q hk B C z G I s;go_enter aAy,aAs
 go_wp2_with (simp only[M])
 go_region
 go_wp2;go_ret;exact⟨g,c,rfl,J.out.1,J.out.2,Nt rfl⟩
theorem avZ(base:Nat)(v:M7)(l:List Tm)(ta td:Int)(i k:Nat)(w:MO)(hown:w.ownsRow base 230 2 v l.length (WP l))(hbase:base<=w.heap.size)(hi:i<=l.length)(hkv:v.ownBlock≠MI k)
  (hk:w.heap[k]?=MI (MP #[yB ta,yB td] 230 (0,0))) (hlen:l.length<=1048577) :
  Ni MK 279 #[v,yB i,MG (MI ⟨k,0,MH⟩) 1 1] w (afs base v l (ta,td) i w):=by
 rcases Oq i l.length with d|j
 ·obtain⟨g,c,rfl,_⟩:=hown.form (by omega)
  rcases Oq c (l.length+1)with h|h
  ·exact av1 base g c l ta td i k w hown hbase d h hk hlen
  ·exact av2 base g c l ta td i k w hown hbase d h (fun e=>hkv (by rw[e];rfl)) hk hlen
 ·obtain rfl:i=l.length:=by omega
  exact av0 base v l ta td k w hown hbase hk hlen
section
open Go.Maps (Keyed int_keyed keyOf_int_mk)
theorem anX(W:MO):(zeroValue 3).run MK W=.ok (yB 0) W:=by kernel_rfl
theorem agW:Keyed MK 3:=int_keyed Ol
def aaj(w:MO)(b n:Nat)(f:Int->Option Int):Prop :=
 ∃D:DataW Unit,w.ownsMap MK 3 (plainElem MK 3) b n D/\∀id,(N6 ME id).wf=Nw->Maps.has D (N6 ME id)=(f id).isSome/\∀x,f id=MI x->D.atKey (N6 ME id) (.lit (N6 ME 0))=.lit (N6 ME x)
theorem aaj.Gf{w:MO}{n:Nat}{f:Int->Option Int}(h:aaj w b n f)(hb:w'.heap[b]?=w.heap[b]?):aaj w' b n f:=by
 obtain⟨D,⟨l,d,e,i⟩,j⟩:=h;exact⟨D,⟨l,d,hb.trans e,i⟩,j⟩
theorem aaj.lt{w:MO}{n:Nat}{f:Int->Option Int}(h:aaj w b n f):b<w.heap.size:=by
 obtain⟨D,⟨l,e,d,i⟩,j⟩:=h;exact(ZAa.1 d).1
structure WM(w:MO)(base T B M n:Nat)(now:Int)(vs:List M7)(ls:List (List Tm))(f:Int->Option Int):Prop where
 box:w.heap[T]?=MI (MP #[yB now,MG (MI ⟨B,0,MH⟩) 25 25,P0 (MI M)] 340 (0,0))
 own:WZ w base (MG (MI ⟨B,0,MH⟩) 25 25) vs ls
 map:aaj w M n f
 offT:∀u∈MG (MI ⟨B,0,MH⟩) 25 25::vs,u.ownBlock≠MI T
 offM:∀u∈MG (MI ⟨B,0,MH⟩) 25 25::vs,u.ownBlock≠MI M
 hT:base<=T
 hM:base<=M
 hTM:T≠M
 len:ls.length=25
theorem YS{w:MO}{b:M7}{T:NU}(h:w.heap[g]?=MI (MP #[a,b,c] T (0,0))):w.cell? ⟨g,0,MH⟩=MI a/\w.cell? ⟨g,1,MH⟩=MI b/\w.cell? ⟨g,2,MH⟩=MI c/\g<w.heap.size:=by
 refine⟨by simp[Nl,h],by simp[Nl,h],by simp[Nl,h],?_⟩;exact(ZAa.1 h).1
theorem WM.Gf{w:MO}{base T B M n:Nat}{now:Int}{vs:List M7}{ls:List (List Tm)}{f:Int->Option Int}(h:WM w base T B M n now vs ls f)(hk:∀g,base<=g->g<w.heap.size->w'.heap[g]?=w.heap[g]?):WM w' base T B M n now vs ls f :=
 ⟨(hk T h.hT (ZAa.1 h.box).1).trans h.box,h.own.Gf hk,h.map.Gf (hk M h.hM h.map.lt),h.offT,h.offM,h.hT,h.hM,h.hTM,h.len⟩
theorem WM.below{w:MO}{base T B M n:Nat}{now:Int}{vs:List M7}{ls:List (List Tm)}{f:Int->Option Int}(h:WM w base T B M n now vs ls f)(hb:yA w w'):WM w' base T B M n now vs ls f :=
 h.Gf fun g _ hg=>hb.block g hg
theorem aju(T M n:Nat)(f:Int->Option Int)(id:Int)(w:MO)(hc:w.cell? ⟨T,2,MH⟩=MI (P0 (MI M)))(hm:aaj w M n f)(hid:(N6 ME id).wf=Nw) :
  Ni MK 229 #[Na (MI ⟨T,0,MH⟩),yB id] w fun r w'=>r=MN (M3 (f id).isSome)/\w'=w:=by
 obtain⟨D,e,j⟩:=hm;have l:keyOf MK 3 (yB id)=MI (N6 ME id):=Qg Ol hid;obtain⟨b,d⟩:=yE (Maps.has D (N6 ME id));have o:M6 (b=(f id).isSome):=by rw[d];exact(j id hid).1
 have i:M6 (_/\_):=⟨e,d⟩;clear j d e;rw[<-o.out];go_enter Tryz.func229,Tryz.ntmps229
 go_wp2_with (first|(at_lookup;refine wpList_lookup_own_ok_int _ rfl _ _ 338 rfl 3 3 ME agW az3 Ol (anX _) M n D rfl i.out.1 _ _ rfl l ?_;rw[<-i.out.2];intro c q s))
 go_ret;exact⟨rfl,rfl⟩
end
section
open Go.Sort (grow grow_empty grow_grow alloc_eq_grow cell?_grow heap_grow_old)
def acz(a:List Tm)(t:Tm):Bool:=match a.getLast? with|none=>Nw|some x=>Nn (Xe x t<0)
theorem acA(w:MO)(q:Nat)(os:Array Obj):yA w (Oj (w.drewN q) os):=
 ⟨rfl,rfl,rfl,by simp[Oj,World.drewN],fun k hk=>heap_grow_old (w.drewN q) os hk⟩
theorem aer{now:Int}(h:Zg now t=Nw)(hn:0<=now):0<=t.1/\t.1<=4398046511104/\(N6 ME t.2).wf=true:=by
 have h:=(ada now t).1 h;exact⟨by omega,by omega,aez (by omega) (by omega)⟩
theorem ajr(x y n:Int)(w:MO)(hn:0<=n)(hn2:n<=1099511627776) :
  Ni MK 228 #[Ny #[yB x,yB y],yB n] w fun r w'=>r=MN (M3 (Zg n (x,y)))/\∃q os,w'=Oj (w.drewN q) os :=
 (anM x y n w hn hn2).mono fun r w' h=>⟨h.1,0,#[_],h.2.trans (PQ w _)⟩
theorem ajE(x n:Int)(w:MO)(hB:Xo w)(hx:0<=x)(hx2:x<=4398046511104)(hn:0<=n)(hn2:n<=4398046511104) :
  Ni MK 261 #[yB x,yB n] w fun r w'=>r=MN (yB (Xq x n))/\∃q os,w'=Oj (w.drewN q) os :=
 (ajD x n w hB hx hx2 hn hn2).mono fun r w' h=>by
  obtain⟨d,q,e⟩:=h;exact⟨d,q,#[],by rw[grow_empty];exact e⟩
theorem anO(T M n:Nat)(f:Int->Option Int)(id:Int)(w:MO)(hc:w.cell? ⟨T,2,MH⟩=MI (P0 (MI M)))(hm:aaj w M n f)(hid:(N6 ME id).wf=Nw) :
  Ni MK 229 #[Na (MI ⟨T,0,MH⟩),yB id] w fun r w'=>r=MN (M3 (f id).isSome)/\∃q os,w'=Oj (w.drewN q) os :=
 (aju T M n f id w hc hm hid).mono fun r w' h=>⟨h.1,0,#[],by rw[grow_empty];exact h.2⟩
theorem avK(a b c d:Int)(w:MO) :
  Ni MK 278 #[Ny #[yB a,yB b],Ny #[yB c,yB d]] w fun r w'=>r=MN (yB (Xe (a,b) (c,d)))/\∃q os,w'=Oj (w.drewN q) os :=
 (anK a b c d w).mono fun r w' h=>by
  refine⟨h.1,1,#[MP #[yB a,yB b] 230,MP #[yB c,yB d] 230,MP #[yB (YK a c),yB (YK b d)] 3],?_⟩;rw[h.2,PQ,PQ,PQ,grow_grow,grow_grow];rfl
theorem avN(base T B M n:Nat)(now:Int)(vs:List M7)(ls:List (List Tm))(f:Int->Option Int)(ta td:Int)(i:Nat)(w:MO)(hB:Xo w)(hT:WM w base T B M n now vs ls f)(hn:0<=now)(hn2:now<=1099511627776)(hi:i<25)
  (h:(Zg now (ta,td) && Nn (Xq ta now=i) && !(f td).isSome)=Nb) :
  Ni MK 257 #[Na (MI ⟨T,0,MH⟩),Ny #[yB ta,yB td],yB i] w fun r w'=>r=MN (M3 Nb)/\yA w w':=by
 have XY:=XY;obtain⟨J,N,I,H⟩:=YS hT.box;have z:=hT.map;obtain⟨d,l⟩:=yE (w.alloc (MP #[yB ta,yB td] 230));have j:yA w d:=by rw[l];exact(MY _ _).alloc (MV _) _
 have G:w.heap.size<d.heap.size:=by rw[l];simp
 have E:T<d.heap.size:=by omega
 have Q:∀n os,(Oj (d.drewN n) os).cell? ⟨w.heap.size,0,MH⟩=MI (yB ta):=Ob G (by rw[l];simp);have R:∀n os,(Oj (d.drewN n) os).cell? ⟨w.heap.size,1,MH⟩=MI (yB td):=Ob G (by rw[l];simp);have U:∀n os,(Oj (d.drewN n) os).cell? ⟨T,0,MH⟩=MI (yB now):=Ob E ((j.cell (p:=⟨T,0,MH⟩) H).trans J);have P:∀n os,(Oj (d.drewN n) os).cell? ⟨T,2,MH⟩=MI (P0 (MI M)):=Ob E ((j.cell (p:=⟨T,2,MH⟩) H).trans I);have D:∀n os,Xo (Oj (d.drewN n) os):=fun n os=>(hB.below j).below (acA d n os)
 have F:∀q os,aaj (Oj (d.drewN q) os) M n f:=fun q os=>(z.Gf (j.block M z.lt)).Gf ((acA d q os).block M (M8 z.lt j.size))
 have e:M6 (_/\_/\_):=⟨D,F,j⟩;have C:M6 _:=l;clear D F j hT z J N I l;cases hfit:Zg now (ta,td)
 ·have A:M6 (∀W:MO,Ni MK 228 #[Ny #[yB ta,yB td],yB now] W fun r w'=>r=MN (M3 Nb)/\∃q os,w'=Oj (W.drewN q) os):=fun W=>by rw[<-hfit];exact ajr ta td now W hn hn2
  clear h;go_enter QP,QE
  go_wp2_with fail
  rw[<-C.out];refine NQ XY (by kernel_rfl) ?_
  repeat (first|go_big_quiet_skip|quiet_step (first|(go_at_call 228;exact NZ (A.out _))))
  refine Oy ?_;intro _ u;obtain⟨⟨v,s⟩,o⟩:=u;subst o;go_wp2;go_ret;exact⟨rfl,e.out.2.2.trans ((acA d v s).mono e.out.2.2.size)⟩
 ·have y:=aer hfit hn
  have A:M6 (∀W:MO,Ni MK 228 #[Ny #[yB ta,yB td],yB now] W fun r w'=>r=MN (M3 Nw)/\∃q os,w'=Oj (W.drewN q) os):=fun W=>by rw[<-hfit];exact ajr ta td now W hn hn2
  rw[hfit]at h;cases hpl:Nn (Xq ta now=i)
  ·have K:(Xq ta now != (i:Int))=true:=by simpa using hpl
   clear h hpl;go_enter QP,QE
   go_wp2_with fail
   rw[<-C.out];refine NQ XY (by kernel_rfl) ?_
   repeat (first|go_big_quiet_skip|quiet_step (first|(go_at_call 228;exact NZ (A.out _))|(go_at_call 261;exact NZ (ajE ta now _ (e.out.1 _ _) y.1 y.2.1 hn (by omega)))))
   refine Oy ?_;intro _ u;obtain⟨⟨v,s⟩,o⟩:=u;subst o;go_wp2;go_ret;exact⟨rfl,e.out.2.2.trans ((acA d v s).mono e.out.2.2.size)⟩
  ·have K:(Xq ta now != (i:Int))=false:=by simpa using hpl
   have L:(f td).isSome=true:=by rw[hpl]at h;simpa using h
   have O:M6 (∀q os,Ni MK 229 #[Na (MI ⟨T,0,MH⟩),yB td] (Oj (d.drewN q) os) fun r w'=>r=MN (M3 Nw)/\∃q' os',w'=Oj ((Oj (d.drewN q) os).drewN q') os'):=fun q os=>by rw[<-L];exact anO T M n f td _ (P _ _) (e.out.2.1 _ _) y.2.2
   clear h hpl;go_enter QP,QE
   go_wp2_with fail
   rw[<-C.out];refine NQ XY (by kernel_rfl) ?_
   repeat (first|go_big_quiet_skip|quiet_step (first|(go_at_call 228;exact NZ (A.out _))|(go_at_call 261;exact NZ (ajE ta now _ (e.out.1 _ _) y.1 y.2.1 hn (by omega)))|(go_at_call 229;exact NZ (O.out _ _))))
   refine Oy ?_;intro _ u;obtain⟨⟨v,s⟩,o⟩:=u;subst o;go_wp2;go_ret;exact⟨rfl,e.out.2.2.trans ((acA d v s).mono e.out.2.2.size)⟩
theorem aet{w:MO}{base:Nat}{v:M7}{vs:List M7}{ls:List (List Tm)}(h:WZ w base v vs ls)(i:Nat)(hi:i<ls.length):∃u,vs[i]?=MI u/\w.ownsRow base 230 2 u ls[i].length (WP ls[i]):=by
 have d:=h.each.1;exact⟨vs[i]'(by omega),MR _,h.each.2 i (by omega) hi⟩
theorem aes{w:MO}{base B n cap:Nat}{vs:List M7}{ls:List (List Tm)}(h:WZ w base (MG (MI ⟨B,0,MH⟩) n cap) vs ls)(hn:ls.length=n)(i:Nat)(hi:i<ls.length)(u:M7)(hu:vs[i]?=MI u):w.cell? ⟨B,i,MH⟩=MI u:=by
 have d:=h.row;rw[hn]at d;rw[d.cellAt i (by omega),hu]
theorem anN(base T B M n:Nat)(now:Int)(vs:List M7)(ls:List (List Tm))(f:Int->Option Int)(ta td:Int)(i:Nat)(w:MO)(hB:Xo w)(hT:WM w base T B M n now vs ls f)(hn:0<=now)(hn2:now<=1099511627776)(hi:i<25)
  (hfit:Zg now (ta,td)=Nw) (hpl:Xq ta now=i) (hhas:(f td).isSome=Nb) (l:List Tm) (hl:ls[i]?=MI l) (hll:l.length<=1048577) :
  Ni MK 257 #[Na (MI ⟨T,0,MH⟩),Ny #[yB ta,yB td],yB i] w fun r w'=>r=MN (M3 (acz l (ta,td)))/\yA w w':=by
 have XY:=XY;obtain⟨t0,t1,t2,L⟩:=YS hT.box;have G:=hT.map;have V:i<ls.length:=by rw[hT.len];exact hi
 obtain⟨u,hu,F⟩:=aet hT.own i V;have c7:=aes hT.own hT.len i V u hu;rw[MR V]at hl;rw[NC hl]at F;have d6:B<w.heap.size:=(hT.own.row.lt B rfl).2;obtain⟨d,v⟩:=yE (w.alloc (MP #[yB ta,yB td] 230));have j:yA w d:=by rw[v];exact(MY _ _).alloc (MV _) _
 have C:w.heap.size<d.heap.size:=by rw[v];simp
 have b8:T<d.heap.size:=by omega
 have c1:d.cell? ⟨w.heap.size,0,MH⟩=MI (yB ta):=by rw[v];simp
 have c2:d.cell? ⟨w.heap.size,1,MH⟩=MI (yB td):=by rw[v];simp
 have k1:∀n os,(Oj (d.drewN n) os).cell? ⟨w.heap.size,0,MH⟩=MI (yB ta):=Ob C c1;have k2:∀n os,(Oj (d.drewN n) os).cell? ⟨w.heap.size,1,MH⟩=MI (yB td):=Ob C c2;have k3:∀n os,(Oj (d.drewN n) os).cell? ⟨T,0,MH⟩=MI (yB now):=Ob b8 ((j.cell (p:=⟨T,0,MH⟩) L).trans t0);have k4:∀n os,(Oj (d.drewN n) os).cell? ⟨T,2,MH⟩=MI (P0 (MI M)):=Ob b8 ((j.cell (p:=⟨T,2,MH⟩) L).trans t2);have b7:∀n os,Xo (Oj (d.drewN n) os):=fun n os=>(hB.below j).below (acA d n os)
 have R:∀q os,aaj (Oj (d.drewN q) os) M n f:=fun q os=>(G.Gf (j.block M G.lt)).Gf ((acA d q os).block M (M8 G.lt j.size))
 have hb:=aer hfit hn;have HF:M6 (∀W:MO,Ni MK 228 #[Ny #[yB ta,yB td],yB now] W fun r w'=>r=MN (M3 Nw)/\∃q os,w'=Oj (W.drewN q) os):=fun W=>by rw[<-hfit];exact ajr ta td now W hn hn2
 have HS:M6 (∀q os,Ni MK 229 #[Na (MI ⟨T,0,MH⟩),yB td] (Oj (d.drewN q) os) fun r w'=>r=MN (M3 Nb)/\∃q' os',w'=Oj ((Oj (d.drewN q) os).drewN q') os'):=fun q os=>by rw[<-hhas];exact anO T M n f td _ (k4 _ _) (R _ _) hb.2.2
 have d8:(Xq ta now != (i:Int))=false:=by simpa using hpl
 have z:M6 (_/\_/\_/\_):=⟨b7,R,j,F⟩;have A:M6 (_/\_/\_/\_/\_/\_):=⟨c7,t1,c1,c2,d6,L⟩;have HW:M6 _:=v;obtain⟨D,K⟩:=yE (acz l (ta,td));rw[<-K];have HA:M6 _:=K;obtain⟨p,c,rfl⟩:=Y6 F;clear b7 R j hT G t0 t1 t2 v F c7 hu hl hpl hhas hfit c1 c2 K;have d9:(i:Int)<25:=by omega
 go_enter QP,QE
 go_wp2_with fail
 rw[<-HW.out];refine NQ XY (by kernel_rfl) ?_
 repeat (first|go_big_quiet_skip|quiet_step (first|(go_at_call 228;exact NZ (HF.out _))|(go_at_call 261;exact NZ (ajE ta now _ (z.out.1 _ _) hb.1 hb.2.1 hn (by omega)))|(go_at_call 229;exact NZ (HS.out _ _))))
 refine Oy ?_;intro _ Z;obtain⟨⟨nq,c8⟩,J⟩:=Z;subst J;have e:=acA d nq c8;generalize Oj (d.drewN nq) c8=w3 at e⊢;have H:yA w w3:=z.out.2.2.1.trans (e.mono z.out.2.2.1.size);have d1:=(H.cell (p:=⟨T,1,MH⟩) A.out.2.2.2.2.2).trans A.out.2.1;have d2:=(H.cell (p:=⟨B,i,MH⟩) A.out.2.2.2.2.1).trans A.out.1;have d3:=(e.cell (p:=⟨w.heap.size,0,MH⟩) C).trans A.out.2.2.1;have d4:=(e.cell (p:=⟨w.heap.size,1,MH⟩) C).trans A.out.2.2.2.1;have b6:w.heap.size<w3.heap.size:=M8 C e.size;have y:M6 (_/\_):=⟨H,e⟩;clear e H k1 k2 k3 k4
 by_cases hnil:l=[]
 ·subst hnil
  have HE:M6 (D=Nw):=HA.out
  go_wp2_with fail
  go_region
  go_wp2;go_ret;exact⟨by rw[HE.out];rfl,y.out.1.drew⟩
 ·obtain⟨P,hP⟩:∃P,l.length=P+1:=⟨l.length-1,by have:=List.length_pos_iff.2 hnil;omega⟩
  have a0:P<l.length:=by omega
  obtain⟨g,c',b5,e9,Q⟩:=z.out.2.2.2.form (by omega);simp only[N4]at b5;obtain⟨rfl,_,rfl⟩:=b5;have b9:g<w3.heap.size:=M8 Q y.out.1.size;have E:=aaT l P a0;rw[<-z.out.2.2.2.cellAt _ (by omega),<-z.out.2.2.2.cellAt _ (by omega)]at E;obtain⟨o,U⟩:∃o,l[P].1=o:=⟨_,rfl⟩;obtain⟨s,Y⟩:∃s,l[P].2=s:=⟨_,rfl⟩;rw[U,Y]at E;have e1:=(y.out.1.cell (p:=⟨g,P*2,MH⟩) Q).trans E.1;have e2:=(y.out.1.cell (p:=⟨g,P*2+1,MH⟩) Q).trans E.2;have b4:l.getLast?=MI (o,s):=by
   rw[List.getLast?_eq_getElem?,hP,Nat.add_sub_cancel,MR a0];exact congrArg MI (Q8 U Y)
  obtain⟨I,O⟩:=yE (Xe (o,s) (ta,td));have HE:M6 (D=Nn (I<0)):=by show D=_;rw[HA.out,acz,b4,O]
  have HQ:M6 (∀W:MO,Ni MK 278 #[Ny #[yB o,yB s],Ny #[yB ta,yB td]] W fun r w'=>r=MN (yB I)/\∃q os,w'=Oj (W.drewN q) os):=fun W=>by rw[O];exact avK o s ta td W
  obtain⟨N,hN⟩:=yE l.length;rw[<-hN]at d2;have f9:((N:Int) == 0)=false:=by simp;omega
  have e8:IntKind.i64.wrap ((N:Int)-1)=(P:Int):=by rw[Ow];omega
  have f8:(P:Int)<(N:Int):=by omega
  have e7:(0:Int)<=(P:Int):=by omega
  have q1:∀n os,(Oj (w3.drewN n) os).cell? ⟨g,P*2,MH⟩=MI (yB o):=Ob b9 e1;have q2:∀n os,(Oj (w3.drewN n) os).cell? ⟨g,P*2+1,MH⟩=MI (yB s):=Ob b9 e2;have q3:∀n os,(Oj (w3.drewN n) os).cell? ⟨w.heap.size,0,MH⟩=MI (yB ta):=Ob b6 d3;have q4:∀n os,(Oj (w3.drewN n) os).cell? ⟨w.heap.size,1,MH⟩=MI (yB td):=Ob b6 d4;clear E U Y b4 O hN hP a0
  go_wp2_with fail
  refine NQ XY (by kernel_rfl) ?_
  repeat (first|go_big_quiet_skip|quiet_step (first|(go_at_call 278;exact NZ (HQ.out _))))
  refine Oy ?_;intro _ Z;obtain⟨⟨d7,c9⟩,J⟩:=Z;subst J;go_wp2;go_ret;exact⟨by rw[HE.out];rfl,y.out.1.trans ((acA w3 d7 c9).mono y.out.1.size)⟩
end
section
open Go.Sort (grow grow_empty grow_grow alloc_eq_grow cell?_grow heap_grow_old)
theorem WZ.Gd{w w1:MO}{base B n cap:Nat}{vs:List M7}{ls:List (List Tm)}(h:WZ w base (MG (MI ⟨B,0,MH⟩) n cap) vs ls)(hn:ls.length=n){i:Nat}(hi:i<ls.length){u u':M7}(hu:vs[i]?=MI u){l':List Tm}
  (hg:w.grownBy w1 u.ownBlock) (hu':w1.ownsRow base 230 2 u' l'.length (WP l')) (hl:∀g,u'.ownBlock=MI g->u.ownBlock=MI g\/w.heap.size<=g) :
  WZ (w1.setCell ⟨B,i,MH⟩ u') base (MG (MI ⟨B,0,MH⟩) n cap) (vs.set i u') (ls.set i l'):=by
 have F:=h.each.1;have q:i<vs.length:=by omega
 have o:=ZAe.1 h.apart;have z:vs[i]=u:=by rw[MR q]at hu;exact NC hu
 have C:u.ownBlock≠MI B:=fun e=>o.1 u (by rw[<-z];exact Nk q) B rfl e
 have r:=List.pairwise_iff_getElem.1 o.2;have A:∀j (l:j<vs.length),j≠i->∀g,vs[j].ownBlock=MI g->u.ownBlock≠MI g:=fun j l hji g hg' e=>by
  rcases QM hji with d|d
  ·exact r j i l q d g hg' (by rw[z];exact e)
  ·exact r i j q l d g (by rw[z];exact e) hg'
 have H:=(h.row.lt B rfl).2;have s:∀j (l:j<vs.length) g,vs[j].ownBlock=MI g->base<=g/\g<w.heap.size:=fun j l g hg'=>(h.each.2 j l (by omega)).lt g hg'
 have hu'B:∀g,u'.ownBlock=MI g->g≠B:=fun g hg' e=>by
  rcases hl g hg' with d|d
  ·rw[e]at d;exact C d
  ·omega
 have E:w1.ownsRow base 227 1 (MG (MI ⟨B,0,MH⟩) n cap) n vs:=by
  have d:=h.row;rw[hn]at d;exact d.kept hg (NF (fun e=>C e.symm))
 have D:=(E.stored i u').1;refine⟨by rw[NA,hn];exact D,⟨by simp[F],fun j d h2=>?_⟩,?_⟩
 ·by_cases hji:j=i
  ·subst hji
   simp only[NW];exact W8 hu' fun g hg'=>MU _ _ _ _ (hu'B g hg')
  ·rw[Pe (Pi hji),Pe (Pi hji)]
   have l:j<vs.length:=by simpa using d
   refine W8 (h.each.2 j l (by omega)) fun g hg'=>?_
   rw[MU _ _ _ _ (fun e=>o.1 vs[j] (Nk l) B rfl (by rw[hg'];exact congrArg MI e))];exact hg.block g (s j l g hg').2 (fun e=>A j l hji g hg' e.symm)
 ·refine ZAe.2 ⟨fun x hx g hg' e=>?_,List.pairwise_iff_getElem.2 fun a b ha hb hab g hga e=>?_⟩
  ·obtain⟨j,l,rfl⟩:=NV hx
   have G:g=B:=(NC hg').symm
   by_cases hji:j=i
   ·subst hji
    simp only[NW]at e;exact hu'B g e G
   ·rw[Pe (Pi hji)]at e
    exact o.1 _ (Nk (by simpa using l)) g hg' e
  ·have v:a<vs.length:=by simpa using ha
   have y:b<vs.length:=by simpa using hb
   by_cases hai:a=i
   ·subst hai
    simp only[NW]at hga;rw[Pe (by omega)]at e;rcases hl g hga with d|d
    ·exact A b y (by omega) g e d
    ·have:=(s b y g e).2;omega
   ·rw[Pe (Pi hai)]at hga
    by_cases hbi:b=i
    ·subst hbi
     simp only[NW]at e;rcases hl g e with d|d
     ·exact A a v hai g hga d
     ·have:=(s a v g hga).2;omega
    ·rw[Pe (Pi hbi)]at e
     exact r a b v y hab g hga e
def aex(f:Int->Option Int)(id x k:Int):Option Int:=if k=id then MI x else f k
theorem aaj.Gd{w:MO}{n:Nat}{f:Int->Option Int}(h:aaj w b n f)(hn:n<NE){id x:Int}(hid:(N6 ME id).wf=Nw)(hx:(N6 ME x).wf=Nw):
  ∃w',(Instr.mapUpdate 338 (P0 (MI b)) (yB id) (yB x)).run MK w=.ok () w'/\aaj w' b (n+1) (aex f id x)/\w.grownBy w' (MI b):=by
 obtain⟨D,d,q⟩:=h;obtain⟨w',r,l,o⟩:=d.update agW az3 hn (Qg Ol hid) (plainElem_int Ol hx);refine⟨w',r,⟨_,l,fun k hk=>?_⟩,o⟩;have j:Maps.IsMap D:=by obtain⟨u,s,_,_,_,rfl⟩:=d;exact⟨_,rfl⟩
 by_cases e:k=id
 ·subst e
  unfold aex;rw[Nh rfl];refine⟨Maps.has_put_same (k:=N6 ME k) j trivial _,fun y hy=>?_⟩;rw[Maps.atKey_put_same (k:=N6 ME k) j trivial,NC hy]
 ·unfold aex
  rw[Nf e];have i:N6 ME k≠N6 ME id:=fun h=>e (by cases h;rfl)
  rw[Maps.has_put_other i,Maps.atKey_put_other i];exact q k hk
theorem avS{w:MO}(h1:w.cell? a1=MI v1)(h2:w.cell? a2=MI v2)(h3:w.cell? a3=MI v3)(h4:w.cell? a4=MI v4)(hf:w.frozen? a2=Nb)
  (e1:w'.heap[a1.block]?=w.heap[a1.block]?) (e2:w'.heap[a2.block]?=w.heap[a2.block]?) (e3:w'.heap[a3.block]?=w.heap[a3.block]?) (e4:w'.heap[a4.block]?=w.heap[a4.block]?) :
  w'.cell? a1=MI v1/\w'.cell? a2=MI v2/\w'.cell? a3=MI v3/\w'.cell? a4=MI v4/\w'.frozen? a2=false :=
 ⟨(NG e1).trans h1,(NG e2).trans h2,(NG e3).trans h3,(NG e4).trans h4,(OM e2).trans hf⟩
theorem WZ.If{w:MO}{base:Nat}{v:M7}{vs:List M7}{ls:List (List Tm)}{row:Option Nat}(h:WZ w base v vs ls)(hg:w.grownBy w' row)(ho:∀u∈v::vs,∀g,u.ownBlock=MI g->MI g≠row):WZ w' base v vs ls:=by
 refine⟨W8 h.row fun g hg'=>hg.block g (h.row.lt g hg').2 (ho v (NM ..) g hg'),⟨h.each.1,fun i h1 h2=>?_⟩,h.apart⟩;have d:=h.each.2 i h1 h2;exact W8 d fun g hg'=>hg.block g (d.lt g hg').2 (ho _ (NB _ (Nk h1)) g hg')
def adO(w:MO)(vs:List M7)(T B M g:Nat):Prop:=g<w.heap.size/\g≠T/\g≠B/\g≠M/\∀u∈vs,u.ownBlock≠MI g
theorem ajG(base T B M n:Nat)(now:Int)(vs:List M7)(ls:List (List Tm))(f:Int->Option Int)(ta td:Int)(i j:Nat)(w:MO)(hB:Xo w)(hT:WM w base T B M n now vs ls f)(hb0:10<base)(hbase:base<=w.heap.size)(hn:0<=now)(hn2:now<=1099511627776)(hnn:n<NE)
  (hi:i<25) (hta:0<=ta/\ta<=4398046511104) (htd:(N6 ME td).wf=Nw) (hpl:Xq ta now=i) (l:List Tm) (hl:ls[i]?=MI l) (hll:l.length<=1048576) (hj:j<=l.length)
  (h1:∀k (hk:k<l.length),k<j->Xe l[k] (ta,td)<0) (h2:∀k (hk:k<l.length),j<=k->¬Xe l[k] (ta,td)<0) :
  Ni MK 230 #[Na (MI ⟨T,0,MH⟩),Ny #[yB ta,yB td]] w fun r w'=>r=MN (Nv #[])/\∃vs',WM w' base T B M (n+1) now vs' (ls.set i (YA l (ta,td) j)) (aex f td i)/\MQ base w w'/\∀g,adO w vs T B M g->w'.heap[g]?=w.heap[g]?/\adO w' vs' T B M g:=by
 have XY:=XY;obtain⟨t0,t1,t2,d9⟩:=YS hT.box;have f8:i<ls.length:=by rw[hT.len];exact hi
 obtain⟨u,O,b8⟩:=aet hT.own i f8;have h8:=aes hT.own hT.len i f8 u O;have i7:=hl;rw[MR f8]at hl;rw[NC hl]at b8;have j8:B<w.heap.size:=(hT.own.row.lt B rfl).2;obtain⟨s,R⟩:=yE (w.alloc (MP #[yB ta,yB td] 230));have V:yA w s:=by rw[R];exact(MY _ _).alloc (MV _) _
 have e9:w.heap.size<s.heap.size:=by rw[R];simp
 have j9:T<s.heap.size:=by omega
 have g9:B<s.heap.size:=by omega
 have c1:s.cell? ⟨w.heap.size,0,MH⟩=MI (yB ta):=by rw[R];simp
 have c2:s.cell? ⟨w.heap.size,1,MH⟩=MI (yB td):=by rw[R];simp
 have c3:s.cell? ⟨T,0,MH⟩=MI (yB now):=(V.cell (p:=⟨T,0,MH⟩) d9).trans t0;have c4:s.cell? ⟨T,1,MH⟩=MI (MG (MI ⟨B,0,MH⟩) 25 25):=(V.cell (p:=⟨T,1,MH⟩) d9).trans t1;have c5:s.cell? ⟨B,i,MH⟩=MI u:=(V.cell (p:=⟨B,i,MH⟩) j8).trans h8;have k9:M6 (∀q,Ni MK 261 #[yB ta,yB now] (s.drewN q) fun e w'=>e=MN (yB (i:Int))/\∃m,w'=(s.drewN q).drewN m):=fun q=>by
  rw[<-hpl];exact ajD ta now _ ((hB.below V).IQ q) hta.1 hta.2 hn (by omega)
 have d:M6 (_/\_/\_/\_/\_/\_):=⟨hT,b8,V,h1,h2,i7⟩;have HW:M6 _:=R;obtain⟨p,c,rfl⟩:=Y6 b8;clear hT b8 V h1 h2 R hB t0 t1 t2 hl i7 h8 hpl;have l5:(i:Int)<25:=by omega
 go_enter R1,RN
 go_wp2_with fail
 rw[<-HW.out]
 go_quiet ((go_at_call 261;exact Qe (k9.out _)))
 have K:yA s (s.drewN nq):=ajp (MY _ _) nq;generalize s.drewN nq=w3 at K⊢;have d1:=(K.cell (p:=⟨w.heap.size,0,MH⟩) e9).trans c1;have d2:=(K.cell (p:=⟨w.heap.size,1,MH⟩) e9).trans c2;have d4:=(K.cell (p:=⟨T,1,MH⟩) j9).trans c4;have d5:=(K.cell (p:=⟨B,i,MH⟩) g9).trans c5;have g7:yA w w3:=d.out.2.2.1.trans (K.mono d.out.2.2.1.size);have Y:M6 (_/\_):=⟨K,g7⟩;clear K g7 c1 c2 c3 c4 c5;have f9:∀W:MO,yA w3 W->Ni MK 277 #[MG p l.length c,Ny #[yB ta,yB td],PB (PD 278) #[] #[]] W fun r w'=>∃b,r=MN (Nv #[yB j,M3 b])/\yA W w':=fun W hW =>
  awl _ l ta td j W (Yr (W8 d.out.2.1 fun g hg=>(hW.block g (M8 (d.out.2.1.lt g hg).2 Y.out.2.size)).trans (Y.out.2.block g (d.out.2.1.lt g hg).2))) hj d.out.2.2.2.1 (fun k hk hjk=>by have:=d.out.2.2.2.2.1 k hk hjk;omega) (by omega)
 have HS:M6 _:=f9;clear f9
 go_wp2_with fail
 go_region_held3 (fun W=>W.cell? ⟨w.heap.size,0,MH⟩=MI (yB ta)/\W.cell? ⟨w.heap.size,1,MH⟩=MI (yB td)/\W.cell? ⟨T,1,MH⟩=MI (MG (MI ⟨B,0,MH⟩) 25 25)/\W.cell? ⟨B,i,MH⟩=MI (MG p l.length c)/\yA w3 W) (first|exact adb d1 d2 d4 d5 ((MY _ _).drew)|exact adb d1 d2 d4 d5 (Za c7)) (first|(go_at_call 277;refine(HS.out _ ((MY _ _).drew)).mono ?_;rintro r o ⟨bb,rfl,c7⟩))
 have L:yA w o:=Y.out.2.trans ((Za c7).mono Y.out.2.size);have Z:yA w3 o:=Za c7;have C:=d.out.1.below L;have c9:=W8 d.out.2.1 fun g hg=>L.block g (d.out.2.1.lt g hg).2
 have m0:=L.size;have l6:=Z.size;have g4:w.heap.size<w3.heap.size:=M8 e9 Y.out.1.size;have e1:=(Z.cell (p:=⟨w.heap.size,0,MH⟩) g4).trans d1;have e2:=(Z.cell (p:=⟨w.heap.size,1,MH⟩) g4).trans d2;have e4:=(L.cell (p:=⟨T,1,MH⟩) d9).trans (YS d.out.1.box).2.1;have e5:=(Z.cell (p:=⟨B,i,MH⟩) (M8 g9 Y.out.1.size)).trans d5;have e6:o.frozen? ⟨B,i,MH⟩=false:=by
  have j3:=C.own.row;rw[C.len]at j3;exact j3.frozenAt i
 have b5:(MG p l.length c).ownBlock≠MI T:=d.out.1.offT _ (NB _ (Nu O));have a0:(MG p l.length c).ownBlock≠MI M:=d.out.1.offM _ (NB _ (Nu O));have c8:(MG p l.length c).ownBlock≠MI B:=fun e=>(ZAe.1 d.out.1.own.apart).1 _ (Nu O) B rfl e
 have b6:(MG p l.length c).ownBlock≠MI w.heap.size:=fun e=>by have:=(d.out.2.1.lt _ e).2;omega
 have i3:(MG p l.length c).ownBlock≠MI o.heap.size:=fun e=>by have:=(d.out.2.1.lt _ e).2;omega
 obtain⟨I,U⟩:=yE ((o.alloc (MP #[yB ta,yB td] 230)).drew);have D:yA o I:=by rw[U];exact((MY _ _).alloc (MV _) _).drew
 have d7:Ni MK 279 #[MG p l.length c,yB j,MG (MI ⟨o.heap.size,0,MH⟩) 1 1] I (afs base (MG p l.length c) l (ta,td) j I):=
  avZ base _ l ta td j o.heap.size I (W8 c9 fun g hg=>D.block g (c9.lt g hg).2) (by have:=D.size;omega) hj i3 (by rw[U];exact M1 o _) (by omega)
 rw[U]at d7;have G:∀W:MO,I.grownBy W (MG p l.length c).ownBlock->∀k,k<o.heap.size->(MG p l.length c).ownBlock≠MI k->W.heap[k]?=o.heap[k]?:=fun W hg k hk hne =>
  (hg.block k (M8 hk D.size) (fun e=>hne e.symm)).trans (D.block k hk)
 have h9:∀W:MO,((o.alloc (MP #[yB ta,yB td] 230)).drew).grownBy W (MG p l.length c).ownBlock->W.cell? ⟨w.heap.size,0,MH⟩=MI (yB ta)/\W.cell? ⟨B,i,MH⟩=MI (MG p l.length c)/\W.cell? ⟨w.heap.size,1,MH⟩=MI (yB td)/\W.cell? ⟨T,1,MH⟩=MI (MG (MI ⟨B,0,MH⟩) 25 25)/\W.frozen? ⟨B,i,MH⟩=false:=fun W hg=>by
  rw[<-U]at hg;exact avS e1 e5 e2 e4 e6 (G W hg _ (by show w.heap.size<_;omega) b6) (G W hg _ (by show B<_;omega) c8) (G W hg _ (by show w.heap.size<_;omega) b6) (G W hg _ (by show T<_;omega) b5)
 have J:M6 (_/\_/\_/\_/\_/\_/\_):=⟨d7,h9,G,C,L,U,D⟩;clear d7 h9 G C L Z c9 d1 d2 d4 d5 b5 a0 c8 b6 i3 c7 U D;have k7:T≠B:=fun e=>d.out.1.offT _ (NM ..) (by rw[e];rfl)
 have d6:T<o.heap.size:=by omega
 have l4:B<o.heap.size:=by omega
 have j5:w.heap.size<o.heap.size:=by omega
 have i8:((o.alloc (MP #[yB ta,yB td] 230)).drew).cell? ⟨T,1,MH⟩=MI (MG (MI ⟨B,0,MH⟩) 25 25):=(NG (a:=⟨T,1,MH⟩) (Ov o _ T d6)).trans e4;have HE:M6 _:=i8;clear i8
 go_upto_region 3 with fail
 go_cut []from 28 to 46 (fun wx=>∃N z H,N.ownsRow base 230 2 (MG (MI ⟨z,0,MH⟩) (l.length+1) H) (l.length+1) (WP (YA l (ta,td) j))/\((o.alloc (MP #[yB ta,yB td] 230)).drew).grownBy N (MG p l.length c).ownBlock/\((MG p l.length c).ownBlock=MI z\/((o.alloc (MP #[yB ta,yB td] 230)).drew).heap.size<=z)/\wx=N.setCell ⟨B,i,MH⟩ (MG (MI ⟨z,0,MH⟩) (l.length+1) H))
 case first =>
  go_region_with (first|(go_at_call 279;refine J.out.1.mono ?_;rintro r N ⟨z,H,rfl,b7,E,P⟩;obtain⟨s1,s2,s3,s4,s5⟩:=J.out.2.1 _ E))
  all_goals
   go_wp2_with fail
   go_meet
   exact⟨N,z,H,b7,E,P,rfl⟩
 case rest =>
 obtain⟨N,z,H,b7,E,P,rfl⟩:=hcut;rw[<-J.out.2.2.2.2.2.1]at E P;have G:=J.out.2.2.1 N E;have D:=J.out.2.2.2.2.2.2;have C:=J.out.2.2.2.1;have b5:(MG p l.length c).ownBlock≠MI T:=d.out.1.offT _ (NB _ (Nu O));have a0:(MG p l.length c).ownBlock≠MI M:=d.out.1.offM _ (NB _ (Nu O));have b6:(MG p l.length c).ownBlock≠MI w.heap.size:=fun e=>by have:=(d.out.2.1.lt _ e).2;omega
 have j6:M<o.heap.size:=C.map.lt;have k6:M≠B:=fun e=>d.out.1.offM _ (NM ..) (by rw[e];rfl)
 have d6:T<o.heap.size:=by omega
 obtain⟨v,b4⟩:=yE (N.setCell ⟨B,i,MH⟩ (MG (MI ⟨z,0,MH⟩) (l.length+1) H));have h6:∀k,k<o.heap.size->(MG p l.length c).ownBlock≠MI k->k≠B->v.heap[k]?=o.heap[k]?:=fun k hk hne c8=>by
  rw[b4,MU _ _ _ _ c8];exact G k hk hne
 have d8:v.heap[T]?=MI (MP #[yB now,MG (MI ⟨B,0,MH⟩) 25 25,P0 (MI M)] 340 (0,0)):=(h6 T d6 b5 k7).trans C.box;have i4:aaj v M n f:=C.map.Gf (h6 M j6 a0 k6);have k5:v.cell? ⟨w.heap.size,1,MH⟩=MI (yB td):=(NG (a:=⟨w.heap.size,1,MH⟩) (h6 _ j5 b6 (Nat.ne_of_gt (d.out.1.own.row.lt B rfl).2))).trans e2;obtain⟨w7,m4,h7,i6⟩:=aaj.Gd (w:=v.drew) (i4.Gf rfl) hnn htd (show(N6 ME (i:Int)).wf=Nw from aez (by omega) (by omega));have g3:WZ v base (MG (MI ⟨B,0,MH⟩) 25 25) (vs.set i (MG (MI ⟨z,0,MH⟩) (l.length+1) H)) (ls.set i (YA l (ta,td) j)):=by
  rw[b4];refine WZ.Gd (w:=I) (C.own.below D) C.len (by rw[C.len];exact hi) O E (by rw[avY];exact b7) (fun g hg=>?_);obtain rfl:z=g:=NC hg;exact P
 have l3:=D.size;have b9:∀X,(MG p l.length c).ownBlock≠MI X->X<o.heap.size->(∀x∈MG (MI ⟨B,0,MH⟩) 25 25::vs,x.ownBlock≠MI X)->∀x∈MG (MI ⟨B,0,MH⟩) 25 25::vs.set i (MG (MI ⟨z,0,MH⟩) (l.length+1) H),x.ownBlock≠MI X:=fun X hX hXl ho x F=>by
  rcases OO.1 F with rfl|F
  ·exact ho _ (NM ..)
  ·rcases OB F with h|rfl
   ·exact ho x (NB _ h)
   ·intro e
    obtain rfl:z=X:=NC e;rcases P with h|h
    ·exact hX h
    ·omega
 have hY:MQ base w v:=by
  have L:=J.out.2.2.2.2.1;have i5:=(d.out.1.own.row.lt B rfl).1;have k0:MQ base w I:=((L.mono hbase).trans (D.mono (by omega)));rw[b4];refine(k0.grown E (by omega) (fun k hk=>(d.out.2.1.lt k hk).1)).setCell ?_ _;exact i5
 have Q:M6 (MQ base w v):=hY;clear hY;obtain⟨l7,l8,l9,j7⟩:=YS d8;have l1:w.heap.size<v.heap.size:=MX v ⟨w.heap.size,1,MH⟩ k5;have A:M6 (_/\_/\_/\_/\_/\_):=⟨d8,h7,i6,g3,h6,P⟩;rw[<-b4];clear d8 i4 h7 i6 g3 h6 b4 G D C b7 E P e1 e2 e4 e5 e6
 go_wp2_with fail
 go_region
 go_end0
 refine⟨rfl,vs.set i (MG (MI ⟨z,0,MH⟩) (l.length+1) H),⟨?_,?_,?_,?_,?_,d.out.1.hT,d.out.1.hM,d.out.1.hTM,?_⟩,?_,fun g hg=>?_⟩
 ·exact(A.out.2.2.1.block T j7 (fun e=>d.out.1.hTM (NC e))).trans A.out.1
 ·refine(A.out.2.2.2.1.Gf (w':=v.drew) fun _ _ _=>rfl).If A.out.2.2.1 fun x F g hg e=>?_
  obtain rfl:g=M:=NC e;exact b9 g a0 (by omega) d.out.1.offM x F hg
 ·exact A.out.2.1
 ·exact fun x F=>b9 T b5 (by omega) d.out.1.offT x F
 ·exact fun x F=>b9 M a0 (by omega) d.out.1.offM x F
 ·rw[NA];exact d.out.1.len
 ·refine⟨A.out.2.2.1.os.trans Q.out.os,A.out.2.2.1.tape.trans Q.out.tape,A.out.2.2.1.output.trans Q.out.output,Nm Q.out.size A.out.2.2.1.size,fun k hk=>?_⟩
  have m3:=d.out.1.hM;have i5:=(d.out.1.own.row.lt B rfl).1;rw[A.out.2.2.1.block k (M8 hk (Nm hbase Q.out.size)) (fun e=>by have:=NC e;omega)];exact Q.out.block k hk
 ·obtain⟨e8,k8,e7,j4,E⟩:=hg
  have i9:(MG p l.length c).ownBlock≠MI g:=E _ (Nu O);have g8:g<o.heap.size:=M8 e8 J.out.2.2.2.2.1.size;have l0:v.heap[g]?=w.heap[g]?:=(A.out.2.2.2.2.1 g g8 i9 e7).trans (J.out.2.2.2.2.1.block g e8);have g6:g<v.heap.size:=M8 e8 Q.out.size;refine⟨(A.out.2.2.1.block g g6 (fun e=>j4 (NC e))).trans l0,M8 g6 A.out.2.2.1.size,k8,e7,j4,fun x F=>b9 g i9 g8 (fun y hy=>?_) x (NB _ F)⟩;rcases OO.1 hy with rfl|hy
  ·exact fun e=>e7 (NC e).symm
  ·exact E y hy
end
section
open Go.Sort (grow grow_empty grow_grow alloc_eq_grow cell?_grow heap_grow_old)
theorem anH{l:List Tm}(h:l.Pairwise (fun a b=>Xe a b<0))(hb:acz l t=Nw):∀x∈l,Xe x t<0:=by
 unfold acz at hb;cases hl:l.getLast? with
 |none=>rw[List.getLast?_eq_none_iff]at hl;subst hl;intro x d;cases d
 |some y =>
  rw[hl]at hb;have e:Xe y t<0:=M2 hb;obtain⟨i,rfl⟩:=List.getLast?_eq_some_iff.1 hl;intro x d;rcases QF.1 d with d|d
  ·exact aef ((List.pairwise_append.1 h).2.2 x d y (PY.2 rfl)) e
  ·rw[PY.1 d];exact e
theorem avI{l:List Tm}(h:∀x∈l,Xe x t<0):acz l t=true:=by
 unfold acz;cases hl:l.getLast? with
 |none=>rfl
 |some y=>exact Nq (h y (List.mem_of_getLast? hl))
theorem ajI{w:MO}{b c0 c1 c2:M7}{T:NU}(h:w.heap[g]?=MI (MP #[a,b,c] T (0,0))):(((w.setCell ⟨g,0,MH⟩ c0).setCell ⟨g,1,MH⟩ c1).setCell ⟨g,2,MH⟩ c2).heap[g]?=MI (MP #[c0,c1,c2] T (0,0)):=
 NI _ _ 2 _ _ c2 (NI _ _ 1 _ _ c1 (NI w g 0 _ _ c0 h))
theorem awd(now:Int):Ok now (Nj 25 []):=by
 refine⟨by simp,fun i l hl t ht=>?_,fun l hl=>?_,by simp⟩
 ·rw[Pj]at hl
  split at hl
  ·rw[<-NC hl]at ht;cases ht
  ·cases hl
 ·rw[(List.mem_replicate.1 hl).2];exact .nil
theorem avM:Z7 (fun _=>MH) (Nj 25 []):=by
 refine⟨fun i l hl t ht=>?_,fun id _=>rfl⟩;rw[Pj]at hl
 split at hl
 ·rw[<-NC hl]at ht;cases ht
 ·cases hl
theorem av5(w:MO):aaj (w.alloc (.map #[] 0)) w.heap.size 0 (fun _=>MH):=by
 exact⟨.map [],World.ownsMap_made w _ _ _,fun id hid=>⟨rfl,fun x hx=>by cases hx⟩⟩
theorem awo(v:M7)(now:Int)(ls:List (List Tm))(w:MO)(hx:Zo w v ls)(h:¬((0<=now/\now<=1099511627776)/\ls.length=25)) :
  Ni MK 207 #[Ny #[yB now,v]] w fun r w'=>yA w w'/\r=MN (Nv #[Ny #[yB 0,MG MH 0 0,P0 MH],M3 Nb]):=by
 obtain⟨a,o,rfl,l,d,j⟩:=hx.F6;clear j;unfold NE at d;cases ht:Nn (0<=now/\now<=1099511627776)
 ·clear h
  go_enter UO,UC
  go_wp2_with fail
  refine(agV _ _).mono ?_;rw[ht];rintro r i ⟨rfl,rfl⟩;go_wp2;refine Np (v:=Nv #[Ny #[yB 0,MG MH 0 0,P0 MH],M3 Nb]) (by simp[Pf,aAe,go_sem]) rfl ⟨?_,rfl⟩;exact((MY _ _).alloc (MV _) _).alloc (by simp) _
 ·have n:((ls.length:Int) != 25)=true:=by
   have:ls.length≠25:=fun e=>h ⟨M2 ht,e⟩
   simp[bne_iff_ne];omega
  clear h;go_enter UO,UC
  go_wp2_with fail
  refine(agV _ _).mono ?_;rw[ht];rintro r i ⟨rfl,rfl⟩;go_wp2;refine Np (v:=Nv #[Ny #[yB 0,MG MH 0 0,P0 MH],M3 Nb]) (by simp[Pf,aAe,go_sem]) rfl ⟨?_,rfl⟩;exact((MY _ _).alloc (MV _) _).alloc (by simp) _
def avz(now:Int)(ls:List (List Tm))(w:MO)(r:Ending)(w':MO):Prop :=
 yA w w'/\((Ok now ls/\∃T B M n vs f,r=MN (Nv #[Ny #[yB now,MG (MI ⟨B,0,MH⟩) 25 25,P0 (MI M)],M3 Nw])/\WM w' (w.heap.size+2) T B M n now vs ls f/\Z7 f ls/\n<=26214400) \/
  (¬Ok now ls/\r=MN (Nv #[Ny #[yB 0,MG MH 0 0,P0 MH],M3 Nb])))
theorem awp(v:M7)(now:Int)(ls:List (List Tm))(w:MO)(hB:Xo w)(hx:Zo w v ls)(hn:0<=now)(hn2:now<=1099511627776)(h25:ls.length=25)(hlen:∀l∈ls,l.length<=1048576) :
  Ni MK 207 #[Ny #[yB now,v]] w (avz now ls w):=by
 obtain⟨a,ca,rfl,j6,j5,pa⟩:=hx.F6;unfold NE at j5;have ht:Nn (0<=now/\now<=1099511627776)=true:=Nq ⟨hn,hn2⟩;have j9:=hB.lt;have HX:M6 (_/\_/\_/\_):=⟨pa,hB,hlen,h25⟩;rw[h25]at j6⊢;clear pa hB hlen h25 hx;go_enter UO,UC
 go_wp2_with fail
 refine(agV _ _).mono ?_;rw[ht];rintro r I ⟨rfl,rfl⟩
 go_wp2_with fail
 refine(anL _ _).mono ?_;rintro r I ⟨rfl,R,b7,P⟩;have i4:((w.alloc (MP #[yB now,MG a 25 ca] 54)).alloc (MP #[MF ME 0,MG MH 0 0,P0 MH] 340)).heap.size=w.heap.size+2:=by simp
 unfold yA at P;rw[i4]at R b7 P⊢;obtain⟨H,hH⟩:=yE (w.heap.size+2);rw[<-hH]at R b7 P⊢;have b6:I.heap[w.heap.size]?=MI (MP #[yB now,MG a 25 ca] 54 (0,0)):=(P.block _ (by omega)).trans (Xy _ _ (M1 _ _));have b8:I.heap[w.heap.size+1]?=MI (MP #[yB 0,MG MH 0 0,P0 MH] 340 (0,0)):=(P.block _ (by omega)).trans (Yu _ _ _);have b9:yA w I:=(((MY _ _).alloc (MV _) _).alloc (by simp) _).trans (P.mono (by omega));obtain⟨c0,c1,_,_,j3⟩:=Xa b6;have HW:M6 (_/\_/\_/\_/\_/\_):=⟨R,P,b6,b8,b9,hH⟩;clear R P b6 b8 b9 i4 hH;have k0:∀W:MO,(Instr.makeMap 338 MH).run MK W=.ok (P0 (MI W.heap.size)) (W.alloc (.map #[] 0)):=fun _=>rfl
 have c3:((I.alloc (.map #[] 0)).alloc (MP #[yB now,MG (MI ⟨H+1,0,MH⟩) 25 25,P0 (MI (H+2))] 340)).cell? ⟨w.heap.size,1,MH⟩=MI (MG a 25 ca):=
  ((((MY _ I).alloc (MV _) (.map #[] 0)).alloc (by simp) (MP #[yB now,MG (MI ⟨H+1,0,MH⟩) 25 25,P0 (MI (H+2))] 340)).cell (p:=⟨w.heap.size,1,MH⟩) j3).trans c1
 go_wp2
 go_loopw [28] (fun i wr=>∃(k n:Nat) (B:List M7) (f:Int->Option Int),i=yB k/\k<=25/\WM wr (w.heap.size+2) (H+2+1) (H+1) (H+2) n now B (YG ls k 0) f/\Z7 f (YG ls k 0)/\Ok now (YG ls k 0)/\n<=k*1048576/\yA w wr/\wr.heap[w.heap.size+1]?=MI (MP #[yB 0,MG MH 0 0,P0 MH] 340 (0,0))) (fun i _=>25-(On i).toNat)
 case atStart =>
  obtain⟨R,P,b6,b8,b9,hH⟩:=HW.out;refine⟨0,0,Nj 25 (MG MH 0 0),fun _=>MH,rfl,by omega,?_,?_,?_,by omega,?_,?_⟩
  ·rw[ajC]
   have j4:yA I ((I.alloc (.map #[] 0)).alloc (MP #[yB now,MG (MI ⟨H+1,0,MH⟩) 25 25,P0 (MI (H+2))] 340)):=((MY _ I).alloc (MV _) _).alloc (by simp) _;have hm:=av5 I;rw[b7]at hm;refine⟨?_,(R.below j4).GV (by omega),hm.Gf (Ov _ _ _ (by simp;omega)),fun u K e=>?_,fun u K e=>?_,by omega,by omega,by omega,by simp⟩
   ·have:=Yu I (.map #[] 0) (MP #[yB now,MG (MI ⟨H+1,0,MH⟩) 25 25,P0 (MI (H+2))] 340)
    rw[b7]at this;exact this
   ·rcases OO.1 K with rfl|K
    ·have:=NC e;simp at this
    ·rw[(List.mem_replicate.1 K).2]at e;cases e
   ·rcases OO.1 K with rfl|K
    ·have:=NC e;simp at this
    ·rw[(List.mem_replicate.1 K).2]at e;cases e
  ·rw[ajC];exact avM
  ·rw[ajC];exact awd now
  ·exact(b9.alloc (by omega) _).alloc (by simp;omega) _
  ·exact Xy _ _ (Xy _ _ b8)
 case round =>
  obtain⟨k,n,B,f,rfl,hk,E,J,G,N,b4,y⟩:=hrel;obtain⟨w2,j7⟩:=yE wr;subst j7
  by_cases hlt:k<25
  ·have k6:Nn ((k:Int)<25)=true:=Nq (by omega)
   have h7:k<ls.length:=by rw[HX.out.2.2.2];exact hlt
   obtain⟨b0,off,u,rfl,d9,cu,K⟩:=HX.out.1 k h7;obtain⟨l,hl⟩:=yE (ls[k]);have c9:ls[k]?=MI l:=by rw[hl];exact MR h7
   rw[<-hl]at K;obtain⟨ul,uc,rfl,k8,j8,pu⟩:=K.F6;unfold NE at j8;have i6:=(b4.cell (p:=⟨b0,off+k,MH⟩) d9).trans cu;have k9:=HX.out.2.2.1 l (Nu c9);have k7:(k:Int)<25:=by omega
   have D:M6 (_/\_/\_/\_/\_/\_/\_/\_):=⟨E,J,G,N,b4,y,pu,c9⟩;clear E J G N y pu hl cu K c9;go_wp2
   go_loopw [35] (fun i wr=>∃(q n:Nat) (B:List M7) (f:Int->Option Int),i=yB q/\q<=l.length/\WM wr (w.heap.size+2) (H+2+1) (H+1) (H+2) n now B (YG ls k q) f/\Z7 f (YG ls k q)/\Ok now (YG ls k q)/\n<=k*1048576+q/\yA w wr/\wr.heap[w.heap.size+1]?=MI (MP #[yB 0,MG MH 0 0,P0 MH] 340 (0,0))) (fun i _=>l.length-(On i).toNat)
   case atStart=>exact⟨0,n,B,f,rfl,Nx _,D.out.1,D.out.2.1,D.out.2.2.1,Nat.le_add_right_of_le D.out.2.2.2.1,D.out.2.2.2.2.1,D.out.2.2.2.2.2.1⟩
   case round =>
    obtain⟨q,n,B,f,rfl,hq,E,J,G,N,V,y⟩:=hrel
    by_cases hq2:q<l.length
    ·obtain⟨bu,ou,rfl,i3,p1,p2⟩:=D.out.2.2.2.2.2.2.1 q hq2
     have e1:=(V.cell (p:=⟨bu,ou+q*2,MH⟩) i3).trans p1;have e2:=(V.cell (p:=⟨bu,ou+q*2+1,MH⟩) i3).trans p2;obtain⟨s,d7⟩:∃s,l[q].1=s:=⟨_,rfl⟩;obtain⟨o,e7⟩:∃o,l[q].2=o:=⟨_,rfl⟩;have h8:l[q]=(s,o):=Q8 d7 e7;rw[d7]at e1;rw[e7]at e2;have hg:ls.getD k []=l:=by simp[Pq,D.out.2.2.2.2.2.2.2]
     have c8:(YG ls k q)[k]?=MI (l.take q):=by rw[aeu _ _ _ _ hlt,Nf (PC _),Nh rfl,hg]
     obtain⟨L,T⟩:=yE (wr.alloc (MP #[yB s,yB o] 230));have Z:yA wr L:=by rw[T];exact(MY _ _).alloc (MV _) _
     have i8:Xo L:=(HX.out.2.1.below V).below Z;have a0:=E.below Z;have g4:L.heap[w.heap.size+1]?=MI (MP #[yB 0,MG MH 0 0,P0 MH] 340 (0,0)):=(Z.block _ (ZAa.1 y).1).trans y;have i7:L.cell? ⟨wr.heap.size,0,MH⟩=MI (yB s):=by rw[T];simp
     have i5:L.cell? ⟨wr.heap.size,1,MH⟩=MI (yB o):=by rw[T];simp
     have g9:wr.heap.size<L.heap.size:=by rw[T];simp
     have g7:=G.ord (l.take q) (Nu c8);have i9:w.heap.size+2<=L.heap.size:=by have:=a0.hT;have:=(ZAa.1 a0.box).1;omega
     have d:M6 (_/\_/\_/\_/\_/\_/\_/\_/\_/\_):=⟨h8,c8,Z,i8,a0,J,G,N,V,g7⟩;have z:M6 (_/\_/\_/\_):=⟨T,g4,i7,i5⟩;clear E J G N y d7 e7 h8 hg c8 p1 p2 Z i8 a0 g4 T i7 i5 g7 i6 d9;cases hgood:(Zg now (s,o) && Nn (Xq s now=(k:Int)) && !(f o).isSome)
     ·have Y:¬Ok now ls:=fun hok=>by
       have Q:=hok.IA D.out.2.2.2.2.2.2.2 hq2;rw[d.out.1]at Q;have h1:(f o).isSome=false:=(d.out.2.2.2.2.2.1.GP o).2 Q.2.2.1;simp[Q.1,Q.2.1,h1]at hgood
      have HN:M6 _:=Y;clear Y
      go_wp2_with fail
      refine(avN (w.heap.size+2) (H+2+1) (H+1) (H+2) n now B (YG ls k q) f s o k _ (by rw[<-z.out.1];exact d.out.2.2.2.1) (by rw[<-z.out.1];exact d.out.2.2.2.2.1) hn hn2 hlt hgood).mono ?_;rw[<-z.out.1];rintro r F ⟨rfl,C⟩;have A:F.heap[w.heap.size+1]?=MI (MP #[yB 0,MG MH 0 0,P0 MH] 340 (0,0)):=(C.block _ (by omega)).trans z.out.2.1;obtain⟨z0,z1,z2,z3⟩:=YS A;have y0:F.frozen? ⟨w.heap.size+1,0,MH⟩=false:=by simp[Ng,A]
      have y1:F.frozen? ⟨w.heap.size+1,1,MH⟩=false:=by simp[Ng,A]
      have y2:F.frozen? ⟨w.heap.size+1,2,MH⟩=false:=by simp[Ng,A]
      have O:yA w F:=((d.out.2.2.2.2.2.2.2.2.1.trans (d.out.2.2.1.mono d.out.2.2.2.2.2.2.2.2.1.size)).trans (C.mono (by omega)));have j:M6 (_/\_):=⟨O,A⟩;clear O A C;go_wp2;have hz:=ajI (c0:=yB 0) (c1:=MG MH 0 0) (c2:=P0 MH) j.out.2;obtain⟨x0,x1,x2,_⟩:=YS hz;refine Np (v:=Nv #[Ny #[yB 0,MG MH 0 0,P0 MH],M3 Nb]) (by simp[Pf,aAe,go_sem,x0,x1,x2]) rfl ⟨?_,NF ⟨HN.out,rfl⟩⟩;exact((j.out.1.setCell (by simp) _).setCell (by simp) _).setCell (by simp) _
     ·have U:(Zg now (s,o)=Nw/\Xq s now=(k:Int))/\(f o).isSome=false:=by simpa using hgood
      clear hgood;have g6:=aer U.1.1 hn;cases hbe:acz (l.take q) (s,o)
      ·have Y:¬Ok now ls:=fun hok=>by
        have Q:=hok.IA D.out.2.2.2.2.2.2.2 hq2;rw[d.out.1]at Q;rw[avI Q.2.2.2]at hbe;cases hbe
       have HN:M6 _:=Y;clear Y
       go_wp2_with fail
       refine(anN (w.heap.size+2) (H+2+1) (H+1) (H+2) n now B (YG ls k q) f s o k _ (by rw[<-z.out.1];exact d.out.2.2.2.1) (by rw[<-z.out.1];exact d.out.2.2.2.2.1) hn hn2 hlt U.1.1 U.1.2 U.2 (l.take q) d.out.2.1 (by rw[NH];omega)).mono ?_;rw[hbe,<-z.out.1];rintro r F ⟨rfl,C⟩;have A:F.heap[w.heap.size+1]?=MI (MP #[yB 0,MG MH 0 0,P0 MH] 340 (0,0)):=(C.block _ (by omega)).trans z.out.2.1;obtain⟨z0,z1,z2,z3⟩:=YS A;have y0:F.frozen? ⟨w.heap.size+1,0,MH⟩=false:=by simp[Ng,A]
       have y1:F.frozen? ⟨w.heap.size+1,1,MH⟩=false:=by simp[Ng,A]
       have y2:F.frozen? ⟨w.heap.size+1,2,MH⟩=false:=by simp[Ng,A]
       have O:yA w F:=((d.out.2.2.2.2.2.2.2.2.1.trans (d.out.2.2.1.mono d.out.2.2.2.2.2.2.2.2.1.size)).trans (C.mono (by omega)));have j:M6 (_/\_):=⟨O,A⟩;clear O A C;go_wp2;have hz:=ajI (c0:=yB 0) (c1:=MG MH 0 0) (c2:=P0 MH) j.out.2;obtain⟨x0,x1,x2,_⟩:=YS hz;refine Np (v:=Nv #[Ny #[yB 0,MG MH 0 0,P0 MH],M3 Nb]) (by simp[Pf,aAe,go_sem,x0,x1,x2]) rfl ⟨?_,NF ⟨HN.out,rfl⟩⟩;exact((j.out.1.setCell (by simp) _).setCell (by simp) _).setCell (by simp) _
      ·have M:M6 (_/\_):=⟨U,g6⟩
       clear U g6
       go_wp2_with fail
       refine(anN (w.heap.size+2) (H+2+1) (H+1) (H+2) n now B (YG ls k q) f s o k _ (by rw[<-z.out.1];exact d.out.2.2.2.1) (by rw[<-z.out.1];exact d.out.2.2.2.2.1) hn hn2 hlt M.out.1.1.1 M.out.1.1.2 M.out.1.2 (l.take q) d.out.2.1 (by rw[NH];omega)).mono ?_;rw[hbe,<-z.out.1];rintro r F ⟨rfl,C⟩;have g1:=(C.cell (p:=⟨wr.heap.size,0,MH⟩) g9).trans z.out.2.2.1;have g2:=(C.cell (p:=⟨wr.heap.size,1,MH⟩) g9).trans z.out.2.2.2;have g8:=anH d.out.2.2.2.2.2.2.2.2.2 hbe;have HP:M6 (∀W:MO,yA L W->Ni MK 230 #[Na (MI ⟨H+2+1,0,MH⟩),Ny #[yB s,yB o]] W fun r w'=>r=MN (Nv #[])/\∃b5,WM w' (w.heap.size+2) (H+2+1) (H+1) (H+2) (n+1) now b5 ((YG ls k q).set k (YA (l.take q) (s,o) (l.take q).length)) (aex f o k)/\MQ (w.heap.size+2) W w'/\∀g,adO W B (H+2+1) (H+1) (H+2) g->w'.heap[g]?=W.heap[g]?/\adO w' b5 (H+2+1) (H+1) (H+2) g):=fun W hW =>
        ajG (w.heap.size+2) (H+2+1) (H+1) (H+2) n now B (YG ls k q) f s o k (l.take q).length W (d.out.2.2.2.1.below hW) (d.out.2.2.2.2.1.below hW) (by omega) (Nm i9 hW.size) hn hn2 (by have:=d.out.2.2.2.2.2.2.2.1;unfold NE;omega) hlt ⟨M.out.2.1,M.out.2.2.1⟩ M.out.2.2.2 M.out.1.1.2 (l.take q) d.out.2.1 (by rw[NH];omega) (MV _) (fun a ha _=>g8 _ (Nk ha)) (fun a ha h=>absurd ha (by omega))
       have e9:M6 _:=C;clear C g8
       go_wp2_with fail
       refine(HP.out _ e9.out).mono ?_;rintro r w5 ⟨rfl,b5,f8,d6,_⟩;have g3:(YG ls k q).set k (YA (l.take q) (s,o) (l.take q).length)=YG ls k (q+1):=by
        rw[<-d.out.1];exact awi ls k q hlt l D.out.2.2.2.2.2.2.2 hq2
       have c7:=(d.out.2.2.2.2.2.1.GP o).1 M.out.1.2;have e8:=d.out.2.2.2.2.2.2.1.ID d.out.2.1 (t:=(s,o)) M.out.1.1.1 M.out.1.1.2 c7 (l.take q).length (by rw[NT];exact anH d.out.2.2.2.2.2.2.2.2.2 hbe) (by rw[List.drop_length];intro x hx;cases hx);have d8:Z7 (aex f o k) _:=d.out.2.2.2.2.2.1.ID d.out.2.1 (t:=(s,o)) c7 (l.take q).length;rw[g3]at f8 e8 d8;have O:yA w w5:=((d.out.2.2.2.2.2.2.2.2.1.trans (d.out.2.2.1.mono d.out.2.2.2.2.2.2.2.2.1.size)).trans (e9.out.mono (by omega))).trans (d6.mono (by omega));have f9:w5.heap[w.heap.size+1]?=MI (MP #[yB 0,MG MH 0 0,P0 MH] 340 (0,0)):=(d6.block _ (by omega)).trans ((e9.out.block _ (by omega)).trans z.out.2.1);have j:M6 (_/\_/\_/\_/\_):=⟨f8,d8,e8,O,f9⟩;clear f8 d8 e8 O f9 d6 g3 c7;go_wp2
       go_roundw
       case rel=>exact⟨q+1,n+1,b5,_,by simp,hq2,j.out.1,j.out.2.1,j.out.2.2.1,Nat.succ_le_succ d.out.2.2.2.2.2.2.2.1,j.out.2.2.2.1,j.out.2.2.2.2⟩
       case measure=>simp[On];omega
    ·obtain rfl:q=l.length:=by omega
     have h9:=awh ls k l D.out.2.2.2.2.2.2.2;rw[h9]at E J G;have j:M6 (_/\_/\_/\_/\_/\_):=⟨E,J,G,N,V,y⟩;clear E J G N y h9 i6 d9;go_wp2
     go_roundw
     case rel=>exact⟨k+1,n,B,f,by simp,hlt,j.out.1,j.out.2.1,j.out.2.2.1,by have:=j.out.2.2.2.1;omega,j.out.2.2.2.2.1,j.out.2.2.2.2.2⟩
     case measure=>simp[On];omega
  ·obtain rfl:k=25:=by omega
   rw[awe ls HX.out.2.2.2]at E J G;obtain⟨t0,t1,t2,k5⟩:=YS E.box;obtain⟨z0,z1,z2,z3⟩:=YS y;have y0:w2.frozen? ⟨w.heap.size+1,0,MH⟩=false:=by simp[Ng,y]
   have y1:w2.frozen? ⟨w.heap.size+1,1,MH⟩=false:=by simp[Ng,y]
   have y2:w2.frozen? ⟨w.heap.size+1,2,MH⟩=false:=by simp[Ng,y]
   have j:M6 (_/\_/\_/\_/\_/\_):=⟨E,J,G,N,b4,y⟩;clear E J G N b4 y;go_wp2;have hz:=ajI (c0:=yB now) (c1:=MG (MI ⟨H+1,0,MH⟩) 25 25) (c2:=P0 (MI (H+2))) j.out.2.2.2.2.2;obtain⟨x0,x1,x2,_⟩:=YS hz;refine Np (v:=Nv #[Ny #[yB now,MG (MI ⟨H+1,0,MH⟩) 25 25,P0 (MI (H+2))],M3 Nw]) (by simp[Pf,aAe,go_sem,x0,x1,x2]) rfl ⟨?_,Nt ⟨j.out.2.2.1,H+2+1,H+1,H+2,n,B,f,rfl,?_,j.out.2.1,j.out.2.2.2.1⟩⟩
   ·exact((j.out.2.2.2.2.1.setCell (by simp) _).setCell (by simp) _).setCell (by simp) _
   ·refine j.out.1.Gf fun g hg _=>?_
    rw[MU _ _ _ _ (by simp;omega),MU _ _ _ _ (by simp;omega),MU _ _ _ _ (by simp;omega)]
end
section
open Go.Sort (grow grow_empty grow_grow alloc_eq_grow cell?_grow heap_grow_old)
def Y9(now:Int)(ls:List (List Tm)):Prop:=(0<=now/\now<=1099511627776)/\Ok now ls
def avA(now:Int)(ls:List (List Tm))(w:MO)(r:Ending)(w':MO):Prop :=
 yA w w'/\((Y9 now ls/\∃T B M n vs f,r=MN (Nv #[Ny #[yB now,MG (MI ⟨B,0,MH⟩) 25 25,P0 (MI M)],M3 Nw])/\WM w' (w.heap.size+2) T B M n now vs ls f/\Z7 f ls/\n<=26214400) \/
  (¬Y9 now ls/\r=MN (Nv #[Ny #[yB 0,MG MH 0 0,P0 MH],M3 Nb])))
theorem ajJ(v:M7)(now:Int)(ls:List (List Tm))(w:MO)(hB:Xo w)(hx:Zo w v ls)(hlen:∀l∈ls,l.length<=1048576) :
  Ni MK 207 #[Ny #[yB now,v]] w (avA now ls w):=by
 by_cases h:(0<=now/\now<=1099511627776)/\ls.length=25
 ·refine(awp v now ls w hB hx h.1.1 h.1.2 h.2 hlen).mono fun r w' ht=>⟨ht.1,?_⟩
  rcases ht.2 with⟨d,e⟩|⟨d,e⟩
  ·exact Nt ⟨⟨h.1,d⟩,e⟩
  ·exact NF ⟨fun hm=>d hm.2,e⟩
 ·exact(awo v now ls w hx h).mono fun r w' ht=>⟨ht.1,NF ⟨fun hm=>h ⟨hm.1,hm.2.len⟩,ht.2⟩⟩
theorem WM.Iu{w:MO}{base T B M n:Nat}{now:Int}{vs:List M7}{ls:List (List Tm)}{f:Int->Option Int}(h:WM w base T B M n now vs ls f):WM (w.alloc (MP #[yB now,MG (MI ⟨B,0,MH⟩) 25 25,P0 (MI M)] 340)) base w.heap.size B M n now vs ls f:=by
 have q:yA w (w.alloc (MP #[yB now,MG (MI ⟨B,0,MH⟩) 25 25,P0 (MI M)] 340)):=(MY _ _).alloc (MV _) _;have j:=h.below q;have o:∀u∈MG (MI ⟨B,0,MH⟩) 25 25::vs,∀g,u.ownBlock=MI g->g<w.heap.size:=fun u d g hg=>by
  rcases OO.1 d with rfl|d
  ·exact(h.own.row.lt g hg).2
  ·obtain⟨i,l,rfl⟩:=NV d
   exact((h.own.each.2 i l (by rw[<-h.own.each.1];exact l)).lt g hg).2
 exact⟨M1 w _,j.own,j.map,fun u d e=>absurd (o u d _ e) (PC _),j.offM,PJ (Pb h.hT (ZAa.1 h.box).1),j.hM,fun e=>absurd h.map.lt (by rw[<-e];exact PC _),h.len⟩
def aaX(l:List Tm)(t:Tm):Nat:=(l.takeWhile fun x=>Nn (Xe x t<0)).length
theorem anW(l:List Tm)(t:Tm):aaX l t<=l.length:=by
 unfold aaX;exact(List.takeWhile_sublist _).length_le
theorem agY(l:List Tm)(t:Tm):∀x∈l.take (aaX l t),Xe x t<0:=by
 unfold aaX
 induction l with
 |nil=>intro x d;cases d
 |cons y l ih =>
  by_cases hy:Xe y t<0
  ·rw[Rv (by simpa using hy)]
   intro x d;rcases OO.1 (by simpa using d)with rfl|d
   ·exact hy
   ·exact ih x d
  ·rw[Ru (by simpa using hy)]
   intro x d;cases d
theorem agZ{l:List Tm}(h:l.Pairwise (fun a b=>Xe a b<0))(t:Tm):∀x∈l.drop (aaX l t),¬Xe x t<0:=by
 unfold aaX
 induction l with
 |nil=>intro x d;cases d
 |cons y l ih =>
  have i:=ZAe.1 h
  by_cases hy:Xe y t<0
  ·rw[Rv (by simpa using hy)]
   simpa using ih i.2
  ·rw[Ru (by simpa using hy)]
   intro x d e;rcases OO.1 (by simpa using d)with rfl|d
   ·exact hy e
   ·exact hy (aef (i.1 x d) e)
theorem anJ{a b:Tm}(h:¬Xe a b<0)(hne:a.2≠b.2):Xe b a<0:=by
 rw[acY]at *;omega
def ZK(ls:List (List Tm))(now:Int)(t:Tm):List (List Tm):=ls.set (Xq t.1 now).toNat (YA (ls.getD (Xq t.1 now).toNat []) t (aaX (ls.getD (Xq t.1 now).toNat []) t))
theorem aew{x n:Int}:0<=Xq x n/\Xq x n<25:=by
 unfold Xq
 repeat' split
 all_goals omega
theorem Y9.ID{now:Int}{ls:List (List Tm)}(h:Y9 now ls)(hf:Zg now t=Nw)(hn:∀x∈ls.flatten,x.2≠t.2):Y9 now (ZK ls now t):=by
 have j:=@aew t.1 now;have i:(Xq t.1 now).toNat<ls.length:=by rw[h.2.len];omega
 have d:ls[(Xq t.1 now).toNat]?=MI (ls.getD (Xq t.1 now).toNat []):=by simp[Pq,MR i]
 refine⟨h.1,h.2.ID d hf (by omega) hn _ (agY _ _) fun x hx=>?_⟩;have e:=agZ (h.2.ord _ (Nu d)) t x hx;exact anJ e (hn x (List.mem_flatten.2 ⟨_,Nu d,List.mem_of_mem_drop hx⟩))
theorem avE(v:M7)(now id x:Int)(ls:List (List Tm))(w:MO)(hB:Xo w)(hx:Zo w v ls)(hlen:∀l∈ls,l.length<=1048576)(hm:Y9 now ls)(hid:(N6 ME id).wf=Nw) :
  Ni MK 166 #[Ny #[yB now,v],yB id,yB x] w fun r w'=>yA w w' /\
   ((Zg now (x,id)=Nb/\r=MN (Nv #[Ny #[yB 0,MG MH 0 0],yB 2])) \/
     (Zg now (x,id)=Nw/\¬(∀t∈ls.flatten,t.2≠id)/\r=MN (Nv #[Ny #[yB 0,MG MH 0 0],yB 7])) \/
     (Zg now (x,id)=Nw/\(∀t∈ls.flatten,t.2≠id)/\∃u vs,r=MN (Nv #[Ny #[yB now,u],yB 0])/\WZ w' w.heap.size u vs (ZK ls now (x,id)))):=by
 obtain⟨a,ca,rfl,_⟩:=hx.F6;have c9:∀W,yA w W->Xo W/\Zo W (MG a ls.length ca) ls:=fun W h=>⟨hB.below h,hx.below h⟩
 have y:M6 (_/\_/\_):=⟨c9,hlen,hm⟩;have g4:=hB.lt;obtain⟨hn,d8⟩:=hm.1;clear c9 hlen hm hx hB;go_enter VQ,VI
 go_wp2_with fail
 have D:yA w ((w.alloc (MP #[yB now,MG a ls.length ca] 54)).alloc (MP #[yB 0,MG MH 0 0] 54)):=((MY _ _).alloc (MV _) _).alloc (by simp) _;refine(ajJ _ now ls _ (y.out.1 _ D).1 (y.out.1 _ D).2 y.out.2.1).mono ?_;rintro r o ⟨N,⟨_,T,B,M,n,vs,f,rfl,V,hF,d6⟩|⟨h1,_⟩⟩
 ·have hR:o.heap[w.heap.size+1]?=MI (MP #[yB 0,MG MH 0 0] 54 (0,0)):=(N.block _ (by simp)).trans (Yu _ _ _)
  have H:=D.trans (N.mono D.size);rw[show((w.alloc (MP #[yB now,MG a ls.length ca] 54)).alloc (MP #[yB 0,MG MH 0 0] 54)).heap.size+2=w.heap.size+4 by simp]at V;obtain⟨q,z⟩:=yE ((o.alloc (MP #[yB now,MG (MI ⟨B,0,MH⟩) 25 25,P0 (MI M)] 340)).alloc (MP #[yB x,yB id] 230));have K:yA o q:=by rw[z];exact((MY _ _).alloc (MV _) _).alloc (by simp) _
  have P:WM q (w.heap.size+4) o.heap.size B M n now vs ls f:=by rw[z];exact V.Iu.below ((MY _ _).alloc (MV _) _)
  have e8:=(K.block _ (ZAa.1 hR).1).trans hR;have b8:=H.trans (K.mono H.size);have U:q.cell? ⟨o.heap.size+1,0,MH⟩=MI (yB x):=by rw[z];simp
  have R:q.cell? ⟨o.heap.size+1,1,MH⟩=MI (yB id):=by rw[z];simp
  have c7:o.heap.size+1<q.heap.size:=by rw[z];simp
  obtain⟨q0,q1,q2,q3⟩:=YS P.box;have e:M6 (_/\_/\_/\_/\_/\_/\_):=⟨P,hF,d6,e8,b8,z,H⟩;clear hR N D V hF d6 K P e8 b8 H z
  go_wp2_with fail
  rw[<-e.out.2.2.2.2.2.1];have i3:=e.out.2.2.2.2.2.2.size;refine(anM x id now _ hn d8).mono ?_;cases hfit:Zg now (x,id)
  ·rintro r w3 ⟨rfl,C⟩
   have s:yA q w3:=by rw[C];exact(MY _ _).alloc (MV _) _
   have A:=(s.block _ (ZAa.1 e.out.2.2.2.1).1).trans e.out.2.2.2.1;obtain⟨c0,c1,f0,f1,c8⟩:=Xa A;have j:M6 (_/\_):=⟨A,e.out.2.2.2.2.1.trans (s.mono e.out.2.2.2.2.1.size)⟩;clear C s A q0 q1 q2 q3 U R;go_wp2;obtain⟨F,G⟩:=adR (c:=yB 0) (d:=MG MH 0 0) j.out.1;refine Np (v:=Nv #[Ny #[yB 0,MG MH 0 0],yB 2]) (by simp[Pf,aAD,go_sem,F,G]) rfl ⟨?_,Nt ⟨hfit,rfl⟩⟩;exact((j.out.2.setCell (p:=⟨w.heap.size+1,0,MH⟩) (by simp) _).setCell (p:=⟨w.heap.size+1,1,MH⟩) (by simp) _)
  ·rintro r w3 ⟨rfl,C⟩
   have s:yA q w3:=by rw[C];exact(MY _ _).alloc (MV _) _
   have L:=e.out.1.below s;have b7:=e.out.2.2.2.2.1.trans (s.mono e.out.2.2.2.2.1.size);have A:=(s.block _ (ZAa.1 e.out.2.2.2.1).1).trans e.out.2.2.2.1;have b9:=(s.cell (p:=⟨o.heap.size+1,0,MH⟩) c7).trans U;have e9:=(s.cell (p:=⟨o.heap.size+1,1,MH⟩) c7).trans R;obtain⟨c0,c1,f0,f1,c8⟩:=Xa A;obtain⟨p0,p1,Y,p3⟩:=YS L.box;have j:M6 (_/\_/\_):=⟨A,b7,L⟩;clear C s A q0 q1 q2 q3 U R b7 L
   go_wp2_with fail
   refine(aju o.heap.size M n f id _ Y j.out.2.2.map hid).mono ?_;cases hhas:(f id).isSome
   ·rintro r w4 ⟨rfl,rfl⟩
    have a0:=(e.out.2.1.GP id).1 hhas;have f9:=@aew x now;have J:=aer hfit hn;obtain⟨i,hi⟩:∃i:Nat,Xq x now=(i:Int):=⟨(Xq x now).toNat,by omega⟩;have b5:i<25:=by omega
    have d7:i<ls.length:=by rw[y.out.2.2.2.len];exact b5
    have E:ls[i]?=MI (ls.getD i []):=by simp[Pq,MR d7]
    have b6:=y.out.2.2.2.ord _ (Nu E);have e7:=y.out.2.1 _ (Nu E);have HP:=ajG (w.heap.size+4) o.heap.size B M n now vs ls f x id i (aaX (ls.getD i []) (x,id)) w4 (y.out.1 _ j.out.2.1).1 j.out.2.2 (by omega) (by have:=(ZAa.1 j.out.2.2.box).1;have:=j.out.2.2.hT;omega) hn d8 (by have:=e.out.2.2.1;unfold NE;omega) b5 ⟨J.1,J.2.1⟩ hid hi _ E e7 (anW _ _) (fun k hk hkp=>agY _ _ _ (List.mem_take_iff_getElem.2 ⟨k,by omega,rfl⟩)) (fun k hk hkp=>agZ b6 _ _ (List.mem_drop_iff_getElem.2 ⟨k-aaX (ls.getD i []) (x,id),by omega,by congr 1;omega⟩));have Z:M6 (_/\_/\_/\_):=⟨HP,a0,hi,E⟩;clear HP a0 f9 J hi E b6 e7 d7
    go_wp2_with fail
    refine Z.out.1.mono ?_;rintro r w5 ⟨rfl,f8,I,O,_⟩;have Q:=(O.block (w.heap.size+1) (by omega)).trans j.out.1;have b4:ls.set i (YA (ls.getD i []) (x,id) (aaX (ls.getD i []) (x,id)))=ZK ls now (x,id):=by
     unfold ZK;rw[show(Xq (x,id).1 now).toNat=i by rw[Z.out.2.2.1];rfl]
    rw[b4]at I;obtain⟨g9,g7,h8,g6,g3⟩:=Xa Q;obtain⟨g8,i4,h7,h9⟩:=YS I.box;have HY:M6 (_/\_/\_):=⟨Q,I,j.out.2.1.trans (O.mono (by omega))⟩;clear Q I O b4 c0 c1 f0 f1 c8 p0 p1 Y p3 b9 e9;go_wp2;obtain⟨F,G⟩:=adR (c:=yB now) (d:=MG (MI ⟨B,0,MH⟩) 25 25) HY.out.1;refine Np (v:=Nv #[Ny #[yB now,MG (MI ⟨B,0,MH⟩) 25 25],yB 0]) (by simp[Pf,aAD,go_sem,F,G]) rfl ⟨?_,NF (NF ⟨hfit,Z.out.2.1,_,f8,rfl,?_⟩)⟩
    ·exact((HY.out.2.2.setCell (p:=⟨w.heap.size+1,0,MH⟩) (by simp) _).setCell (p:=⟨w.heap.size+1,1,MH⟩) (by simp) _)
    ·exact(HY.out.2.1.own.Hh (g:=w.heap.size+1) (by omega) _ _).GV (by omega)
   ·rintro r w4 ⟨rfl,rfl⟩
    have d9:¬(∀t∈ls.flatten,t.2≠id):=fun h=>by rw[(e.out.2.1.GP id).2 h]at hhas;cases hhas
    have HN:M6 _:=d9;clear d9 p0 p1 Y p3 b9 e9;go_wp2;obtain⟨F,G⟩:=adR (c:=yB 0) (d:=MG MH 0 0) j.out.1;refine Np (v:=Nv #[Ny #[yB 0,MG MH 0 0],yB 7]) (by simp[Pf,aAD,go_sem,F,G]) rfl ⟨?_,NF (Nt ⟨hfit,HN.out,rfl⟩)⟩;exact((j.out.2.1.setCell (p:=⟨w.heap.size+1,0,MH⟩) (by simp) _).setCell (p:=⟨w.heap.size+1,1,MH⟩) (by simp) _)
 ·exact absurd y.out.2.2 h1
end
section
open Go.Sort (grow grow_empty grow_grow alloc_eq_grow cell?_grow heap_grow_old)
structure XC(ls:List (List Tm)):Prop where
 len:ls.length=25
 ord:∀l∈ls,l.Pairwise (fun a b=>Xe a b<0)
 ids:(ls.flatten.map (·.2)).Nodup
theorem Ok.srt{now:Int}{ls:List (List Tm)}(h:Ok now ls):XC ls:=⟨h.len,h.ord,h.ids⟩
theorem agS(ls:List (List Tm))(now:Int)(t:Tm)(i:Nat)(hi:Xq t.1 now=(i:Int)):ZK ls now t=ls.set i (YA (ls.getD i []) t (aaX (ls.getD i []) t)):=by
 unfold ZK;rw[hi];rfl
theorem XC.ID{ls:List (List Tm)}(h:XC ls)(now:Int)(hn:∀x∈ls.flatten,x.2≠t.2):XC (ZK ls now t):=by
 have q:=@aew t.1 now;obtain⟨i,o⟩:∃i:Nat,Xq t.1 now=(i:Int):=⟨(Xq t.1 now).toNat,by omega⟩;have n:i<ls.length:=by rw[h.len];omega
 have l:ls[i]?=MI (ls.getD i []):=by simp[Pq,MR n]
 rw[agS ls now t i o];refine⟨by rw[NA];exact h.len,fun m d=>?_,?_⟩
 ·rcases OB d with d|rfl
  ·exact h.ord m d
  ·refine anT (h.ord _ (Nu l)) t _ (agY _ _) fun x j=>?_
   exact anJ (agZ (h.ord _ (Nu l)) t x j) (hn x (List.mem_flatten.2 ⟨_,Nu l,List.mem_of_mem_drop j⟩))
 ·rw[((afu l t _).map _).nodup_iff,OA,QJ]
  refine⟨fun d=>?_,h.ids⟩;obtain⟨x,j,e⟩:=ZAd.1 d;exact hn x j e
theorem ajo{ls:List (List Tm)}(h:ls.length=25)(now:Int)(t:Tm):(ZK ls now t).flatten.Perm (t::ls.flatten):=by
 have j:=@aew t.1 now;obtain⟨i,e⟩:∃i:Nat,Xq t.1 now=(i:Int):=⟨(Xq t.1 now).toNat,by omega⟩;have d:i<ls.length:=by rw[h];omega
 rw[agS ls now t i e];exact afu (by simp[Pq,MR d]) t _
def abL(ls:List (List Tm))(now:Int)(l:List Tm):List (List Tm):=l.foldl (fun ls t=>ZK ls now t) ls
theorem avB(ls:List (List Tm))(now:Int)(l:List Tm)(t:Tm):abL ls now (l++[t])=ZK (abL ls now l) now t:=by simp[abL]
theorem anE(ls:List (List Tm))(now:Int)(l:List Tm)(h:ls.length=25):(abL ls now l).flatten.Perm (l++ls.flatten):=by
 induction l generalizing ls with
 |nil=>exact .refl _
 |cons t l ih =>
  have d:(ZK ls now t).length=25:=by unfold ZK;rw[NA];exact h
  exact(ih (ZK ls now t) d).trans (((ajo h now t).append_left l).trans QC)
theorem anF(ls:List (List Tm))(now:Int)(l:List Tm)(h:XC ls)(hn:((l++ls.flatten).map (·.2)).Nodup):XC (abL ls now l):=by
 induction l generalizing ls with
 |nil=>exact h
 |cons t l ih =>
  have d:(((t::l)++ls.flatten).map (·.2)).Nodup:=hn;rw[List.cons_append,OA,QJ]at d;have i:∀x∈ls.flatten,x.2≠t.2:=fun x hx e=>d.1 (ZAd.2 ⟨x,Qq _ hx,e⟩)
  refine ih (ZK ls now t) (h.ID now i) ?_;have j:((l++(ZK ls now t).flatten).map (·.2)).Perm (((t::l)++ls.flatten).map (·.2)):=(((ajo h.len now t).append_left l).trans QC).map _;rw[j.nodup_iff];exact hn
theorem adc{ls:List (List Tm)}{l:List Tm}(h:l∈ls):l.length<=ls.flatten.length:=by
 induction ls with
 |nil=>cases h
 |cons m ls ih =>
  rw[QS,Ns];rcases OO.1 h with rfl|h
  ·omega
  ·have:=ih h;omega
theorem adQ{ls:List (List Tm)}{L:List Tm}(h:ls[p]?=MI L):(L++(ls.set p []).flatten).Perm ls.flatten:=by
 obtain⟨a,b,e,d,_⟩:=ajs ls p L [] h;rw[d,e];simp only[PV,QS,Oz];rw[<-OC,<-OC];exact List.perm_append_comm.append_right _
theorem XC.Gc{ls:List (List Tm)}(h:XC ls){L:List Tm}(hL:ls[p]?=MI L):XC (ls.set p []):=by
 refine⟨by rw[NA];exact h.len,fun m d=>?_,?_⟩
 ·rcases OB d with d|rfl
  ·exact h.ord m d
  ·exact .nil
 ·have:=((adQ hL).map (·.2)).nodup_iff.2 h.ids
  rw[OI,Qv]at this;exact this.2.1
theorem WM.Gc{w:MO}{base T B M n:Nat}{now:Int}{vs:List M7}{ls:List (List Tm)}{f:Int->Option Int}(h:WM w base T B M n now vs ls f)(hp:p<25){u:M7}(hu:vs[p]?=MI u):
  WM (w.setCell ⟨B,p,MH⟩ (MG MH 0 0)) base T B M n now (vs.set p (MG MH 0 0)) (ls.set p []) f/\∀g,u.ownBlock=MI g->adO (w.setCell ⟨B,p,MH⟩ (MG MH 0 0)) (vs.set p (MG MH 0 0)) T B M g/\(w.setCell ⟨B,p,MH⟩ (MG MH 0 0)).heap[g]?=w.heap[g]?:=by
 have r:p<ls.length:=by rw[h.len];exact hp
 have l:p<vs.length:=by rw[h.own.each.1];exact r
 have C:T≠B:=fun e=>h.offT _ (NM ..) (by rw[e];rfl)
 have E:M≠B:=fun e=>h.offM _ (NM ..) (by rw[e];rfl)
 have o:u∈vs:=Nu hu;have D:w.grownBy w u.ownBlock:=⟨rfl,rfl,rfl,MV _,fun _ _ _=>rfl⟩;have A:=h.own.Gd h.len r hu D (u':=MG MH 0 0) (l':=[]) (NY _ _ _ _) (fun g hg=>by cases hg);have v:∀X,(∀x∈MG (MI ⟨B,0,MH⟩) 25 25::vs,x.ownBlock≠MI X)->∀x∈MG (MI ⟨B,0,MH⟩) 25 25::vs.set p (MG MH 0 0),x.ownBlock≠MI X:=fun X ho x i=>by
  rcases OO.1 i with rfl|i
  ·exact ho _ (NM ..)
  ·rcases OB i with h|rfl
   ·exact ho x (NB _ h)
   ·intro e;cases e
 refine⟨⟨(MU _ _ _ _ C).trans h.box,A,h.map.Gf (MU _ _ _ _ E),v T h.offT,v M h.offM,h.hT,h.hM,h.hTM,by rw[NA];exact h.len⟩,fun g hg=>?_⟩;have y:g≠B:=fun e=>(ZAe.1 h.own.apart).1 u o B rfl (by rw[hg,e])
 have q:vs[p]=u:=by rw[MR l]at hu;exact NC hu
 have F:g<w.heap.size:=by
  have d:=(h.own.each.2 p l r).lt g (by rw[q];exact hg);exact d.2
 refine⟨⟨by simpa using F,fun e=>h.offT u (NB _ o) (by rw[hg,e]),y,fun e=>h.offM u (NB _ o) (by rw[hg,e]),fun x i e=>?_⟩,MU _ _ _ _ y⟩;obtain⟨j,G,rfl⟩:=NV i
 by_cases hjp:j=p
 ·subst hjp
  rw[NW]at e;cases e
 ·rw[Pe (Pi hjp)]at e
  have z:j<vs.length:=by simpa using G
  have s:=List.pairwise_iff_getElem.1 (ZAe.1 h.own.apart).2;rcases QM hjp with d|d
  ·exact s j p z l d g e (by rw[q];exact hg)
  ·exact s p j l z d g (by rw[q];exact hg) e
theorem avQ(base T B M n:Nat)(now:Int)(vs:List M7)(ls:List (List Tm))(f:Int->Option Int)(p:Nat)(L:List Tm)(w:MO)(hB:Xo w)(hT:WM w base T B M n now vs ls f)(hb0:10<base)(hbase:base<=w.heap.size)(hn:0<=now)(hn2:now<=1099511627776)
  (hp:p<25) (hL:ls[p]?=MI L) (hLb:∀t∈L,0<=t.1/\t.1<=4398046511104/\(N6 ME t.2).wf=Nw) (hS:XC ls) (htot:ls.flatten.length<=1048576) (hnn:n<=1000000000) :
  Ni MK 259 #[Na (MI ⟨T,0,MH⟩),yB p] w fun r w'=>r=MN (Nv #[])/\∃vs' n' f',WM w' base T B M n' now vs' (abL (ls.set p []) now L) f'/\n'<=n+L.length/\MQ base w w':=by
 obtain⟨t0,t1,t2,h9⟩:=YS hT.box;have O:p<ls.length:=by rw[hT.len];exact hp
 obtain⟨u,hu,F⟩:=aet hT.own p O;have h7:=aes hT.own hT.len p O u hu;have e7:ls[p]=L:=by rw[MR O]at hL;exact NC hL
 rw[e7]at F;have h8:w.frozen? ⟨B,p,MH⟩=false:=by
  have d8:=hT.own.row;rw[hT.len]at d8;exact d8.frozenAt p
 have d9:=hT.Gc hp hu;have c8:((L++(ls.set p []).flatten).map (·.2)).Nodup:=((adQ hL).map (·.2)).nodup_iff.2 hS.ids;have g9:L.length<=1048576:=Nm (adc (Nu hL)) htot;obtain⟨up,uc,rfl⟩:=Y6 F;have b4:=Yr F;have g4:=(hT.own.row.lt B rfl).1;have o:M6 (_/\_/\_/\_/\_/\_/\_/\_/\_):=⟨hT,d9,c8,b4,hLb,hS,hL,hB,htot⟩;have i4:T≠B:=fun e=>hT.offT _ (NM ..) (by rw[e];rfl)
 have i5:(p:Int)<25:=by omega
 clear hT d9 c8 b4 hLb hS hB hu F hL e7 htot;go_enter Tryz.func259,Tryz.ntmps259;go_wp2
 go_loopw [24] (fun i wr=>∃(k n':Nat) (vs':List M7) (f':Int->Option Int),i=yB k/\k<=L.length/\WM wr base T B M n' now vs' (abL (ls.set p []) now (L.take k)) f'/\n'<=n+k/\MQ base w wr/\∀g,(MG up L.length uc).ownBlock=MI g->adO wr vs' T B M g/\wr.heap[g]?=w.heap[g]?) (fun i _=>L.length-(On i).toNat)
 case atStart =>
  exact⟨0,n,_,f,rfl,Nx _,o.out.2.1.1,MV _,(MY _ _).setCell (by exact g4) _,o.out.2.1.2⟩
 case round =>
  obtain⟨k,n',vs',f',rfl,hk,hT,G,v,E⟩:=hrel
  by_cases hlt:k<L.length
  ·obtain⟨ga,ca,hv,_,_,pu⟩:=Xz.F6 o.out.2.2.2.1
   simp only[N4]at hv;obtain⟨rfl,_,rfl⟩:=hv;obtain⟨I,ou,rfl,i3,p1,p2⟩:=pu k hlt;have U:=E I rfl;have e1:=(NG (a:=⟨I,ou+k*2,MH⟩) U.2).trans p1;have e2:=(NG (a:=⟨I,ou+k*2+1,MH⟩) U.2).trans p2;obtain⟨j,Y⟩:∃j,L[k].1=j:=⟨_,rfl⟩;obtain⟨l,Z⟩:∃l,L[k].2=l:=⟨_,rfl⟩;have N:L[k]=(j,l):=Q8 Y Z;rw[Y]at e1;rw[Z]at e2;have z:=o.out.2.2.2.2.1 L[k] (Nk hlt);rw[N]at z;have V:L.take (k+1)=L.take k++[(j,l)]:=by rw[M9 hlt,N]
   obtain⟨d,A⟩:=yE (abL (ls.set p []) now (L.take k));have Q:XC (ls.set p []):=o.out.2.2.2.2.2.1.Gc o.out.2.2.2.2.2.2.1;have K:(((L.take k++[(j,l)])++(ls.set p []).flatten).map (·.2)).Nodup:=by
    rw[<-V];exact o.out.2.2.1.sublist ((Rz (List.take_sublist _ _) _).map _)
   have J:XC d:=by
    rw[A];refine anF _ _ _ Q (K.sublist ((Rz (List.sublist_append_left _ _) _).map _))
   have R:d.flatten.Perm (L.take k++(ls.set p []).flatten):=by rw[A];exact anE _ _ _ Q.len
   have f9:∀x∈d.flatten,x.2≠l:=fun x hx e=>by
    have g8:=R.mem_iff.1 hx;have y:(((j,l)::(L.take k++(ls.set p []).flatten)).map (·.2)).Nodup:=by
     refine(List.Perm.nodup_iff (List.Perm.map _ ?_)).1 K;rw[OC];exact QC
    rw[OA,QJ]at y;exact y.1 (ZAd.2 ⟨x,g8,e⟩)
   have g7:=@aew j now;obtain⟨i,hi⟩:∃i:Nat,Xq j now=(i:Int):=⟨(Xq j now).toNat,by omega⟩;have b6:i<25:=by omega
   have d6:i<d.length:=by rw[J.len];exact b6
   have H:d[i]?=MI (d.getD i []):=by simp[Pq,MR d6]
   have b7:=J.ord _ (Nu H);have e8:(d.getD i []).length<=1048576:=by
    refine Nm (adc (Nu H)) ?_;rw[R.length_eq];refine Nm ?_ o.out.2.2.2.2.2.2.2.2;rw[<-(adQ o.out.2.2.2.2.2.2.1).length_eq,Ns,Ns,NH];omega
   rw[<-A]at hT;obtain⟨D,P⟩:=yE (wr.alloc (MP #[yB j,yB l] 230));have C:yA wr D:=by rw[P];exact(MY _ _).alloc (MV _) _
   have c7:=hT.below C;have e9:Xo D:=(o.out.2.2.2.2.2.2.2.1.Gf (v.block 10 hb0)).below C;have g3:=C.size;have g6:=v.size;have b5:d.set i (YA (d.getD i []) (j,l) (aaX (d.getD i []) (j,l)))=abL (ls.set p []) now (L.take (k+1)):=by
    rw[V,avB,<-A,agS d now (j,l) i hi]
   have HP:=ajG base T B M n' now vs' d f' j l i (aaX (d.getD i []) (j,l)) D e9 c7 hb0 (by omega) hn hn2 (by unfold NE;omega) b6 ⟨z.1,z.2.1⟩ z.2.2 hi _ H e8 (anW _ _) (fun k hk hkp=>agY _ _ _ (List.mem_take_iff_getElem.2 ⟨k,by omega,rfl⟩)) (fun k hk hkp=>agZ b7 _ _ (List.mem_drop_iff_getElem.2 ⟨k-aaX (d.getD i []) (j,l),by omega,by congr 1;omega⟩));rw[b5]at HP;have q:M6 (_/\_/\_/\_/\_/\_):=⟨HP,P,E,v,C,G⟩;clear HP P E v C G b5 c7 e9 hT e8 b7 H d6 hi g7 f9 R J K Q A V z N Y Z p1 p2 U g3 g6
   go_wp2_with fail
   rw[<-q.out.2.1];refine q.out.1.mono ?_;rintro r w5 ⟨rfl,d7,f8,c9,b9⟩;have a0:∀g,(MG (MI ⟨I,ou,MH⟩) L.length uc).ownBlock=MI g->adO w5 d7 T B M g/\w5.heap[g]?=w.heap[g]?:=fun g hg=>by
    obtain⟨y,h2⟩:=q.out.2.2.1 g hg;have h3:=b9 g ⟨M8 y.1 q.out.2.2.2.2.1.size,y.2⟩;exact⟨h3.2,h3.1.trans ((q.out.2.2.2.2.1.block g y.1).trans h2)⟩
   have b8:MQ base w w5:=(q.out.2.2.2.1.trans (q.out.2.2.2.2.1.mono (by have:=q.out.2.2.2.1.size;omega))).trans c9;have s:M6 (_/\_/\_):=⟨f8,a0,b8⟩;clear f8 a0 b8 c9 b9;go_wp2
   go_roundw
   case rel=>exact⟨k+1,n'+1,d7,_,by simp,hlt,s.out.1,by have:=q.out.2.2.2.2.2;omega,s.out.2.2,s.out.2.1⟩
   case measure=>simp[On];omega
  ·obtain rfl:k=L.length:=by omega
   rw[NT]at hT;have s:M6 (_/\_/\_):=⟨hT,G,v⟩;clear hT G v E;go_wp2
   go_end0
   exact⟨rfl,vs',n',f',s.out.1,s.out.2.1,s.out.2.2⟩
end
def ace(ls:List (List Tm))(m:Int)(p:Nat):List (List Tm):=abL (ls.set p []) m (ls.getD p [])
structure XJ(ls:List (List Tm)):Prop where
 srt:XC ls
 bnd:∀t∈ls.flatten,0<=t.1/\t.1<=4398046511104/\(N6 ME t.2).wf=Nw
 tot:ls.flatten.length<=1048576
theorem agU{ls:List (List Tm)}(h:ls.length=25)(m:Int)(hp:p<25):(ace ls m p).flatten.Perm ls.flatten:=by
 have d:ls[p]?=MI (ls.getD p []):=by simp[Pq,MR (show p<ls.length by omega)]
 exact(anE _ m _ (by rw[NA];exact h)).trans (adQ d)
theorem XJ.Il{ls:List (List Tm)}(h:XJ ls)(m:Int)(hp:p<25):XJ (ace ls m p):=by
 have e:ls[p]?=MI (ls.getD p []):=by simp[Pq,MR (show p<ls.length by rw[h.srt.len];exact hp)]
 have d:=agU h.srt.len m hp;refine⟨anF _ _ _ (h.srt.Gc e) ?_,fun t ht=>h.bnd t (d.mem_iff.1 ht),by rw[d.length_eq];exact h.tot⟩;exact((adQ e).map (·.2)).nodup_iff.2 h.srt.ids
def acB(m:Int):Nat:=(8+m / 8 % 8).toNat
def acf(m:Int):Nat:=(16+m / 64 % 8).toNat
def aak(ls:List (List Tm))(m:Int):List (List Tm):=if Zy m 8 then ace ls m (acB m)else ls
def aal(ls:List (List Tm))(m:Int):List (List Tm):=if Zy m 64 then ace (aak ls m) m (acf m)else aak ls m
def XO(ls:List (List Tm))(m:Int):List (List Tm):=if Zy m 512 then ace (aal ls m) m 24 else aal ls m
theorem ajK(m:Int):acB m<25:=by unfold acB;omega
theorem ajL(m:Int):acf m<25:=by unfold acf;omega
theorem XJ.Hm{ls:List (List Tm)}(h:XJ ls)(m:Int):XJ (aak ls m):=by
 unfold aak
 split
 ·exact h.Il m (ajK m)
 ·exact h
theorem XJ.Hs{ls:List (List Tm)}(h:XJ ls)(m:Int):XJ (aal ls m):=by
 unfold aal
 split
 ·exact(h.Hm m).Il m (ajL m)
 ·exact h.Hm m
theorem XJ.GR{ls:List (List Tm)}(h:XJ ls)(m:Int):XJ (XO ls m):=by
 unfold XO
 split
 ·exact(h.Hs m).Il m (by omega)
 ·exact h.Hs m
theorem WM.I6{w:MO}{base T B M n:Nat}{now:Int}{vs:List M7}{ls:List (List Tm)}{f:Int->Option Int}(h:WM w base T B M n now vs ls f):WM (w.setCell ⟨T,0,MH⟩ (yB m)) base T B M n m vs ls f:=by
 refine⟨(NI w T 0 _ _ (yB m) h.box),?_,h.map.Gf (MU _ _ _ _ (Pi h.hTM)),h.offT,h.offM,h.hT,h.hM,h.hTM,h.len⟩;refine h.own.If (row:=MI T) ⟨rfl,rfl,rfl,by simp,fun k _ hk=>MU _ _ _ _ (fun e=>hk (by rw[e]))⟩ fun u hu g hg e=>?_
 exact h.offT u hu (by rw[hg,NC e])
theorem avT(b1 b2 b3:Bool)(W:MO):(Qy 394 (Ny #[M3 b1,M3 b2,M3 b3]) (yB 0)).run MK W=.ok (M3 b1) W:=by kernel_rfl
theorem avU(b1 b2 b3:Bool)(W:MO):(Qy 394 (Ny #[M3 b1,M3 b2,M3 b3]) (yB 1)).run MK W=.ok (M3 b2) W:=by kernel_rfl
theorem avV(b1 b2 b3:Bool)(W:MO):(Qy 394 (Ny #[M3 b1,M3 b2,M3 b3]) (yB 2)).run MK W=.ok (M3 b3) W:=by kernel_rfl
theorem ajt(base T B M n:Nat)(now:Int)(vs:List M7)(ls:List (List Tm))(f:Int->Option Int)(p:Nat)(w:MO)(hB:Xo w)(hT:WM w base T B M n now vs ls f)(hb0:10<base)(hbase:base<=w.heap.size)(hn:0<=now)(hn2:now<=1099511627776)
  (hp:p<25) (hG:XJ ls) (hnn:n<=1000000000) :
  Ni MK 259 #[Na (MI ⟨T,0,MH⟩),yB p] w fun r w'=>r=MN (Nv #[])/\∃vs' n' f',WM w' base T B M n' now vs' (ace ls now p) f'/\n'<=n+1048576/\MQ base w w':=by
 have d:ls[p]?=MI (ls.getD p []):=by simp[Pq,MR (show p<ls.length by rw[hG.srt.len];exact hp)]
 refine(avQ base T B M n now vs ls f p _ w hB hT hb0 hbase hn hn2 hp d (fun t ht=>hG.bnd t (List.mem_flatten.2 ⟨_,Nu d,ht⟩)) hG.srt hG.tot hnn).mono fun r w' h=>?_
 obtain⟨e,vs',n',f',j,l,i⟩:=h;have:=adc (Nu d);have:=hG.tot;exact⟨e,vs',n',f',j,by omega,i⟩
theorem awn(base T B M n:Nat)(now:Int)(vs:List M7)(ls:List (List Tm))(f:Int->Option Int)(w:MO)(hB:Xo w)(hT:WM w base T B M n now vs ls f)(hb0:10<base)(hbase:base<=w.heap.size)(hn:0<=now)(hn2:now<1099511627776)(hG:XJ ls)(hnn:n<=26214400) :
  Ni MK 208 #[Na (MI ⟨T,0,MH⟩)] w fun r w'=>r=MN (Nv #[])/\∃vs' n' f',WM w' base T B M n' (now+1) vs' (XO ls (now+1)) f'/\n'<=100000000/\MQ base w w':=by
 obtain⟨t0,t1,t2,b7⟩:=YS hT.box;have b5:w.frozen? ⟨T,0,MH⟩=false:=by simp[Ng,hT.box]
 have Z:IntKind.i64.wrap (now+1)=now+1:=by rw[Ow];omega
 obtain⟨m,V⟩:=yE (now+1);rw[<-V]at Z⊢;have P:WM (w.setCell ⟨T,0,MH⟩ (yB m)) base T B M n m vs ls f:=hT.I6;obtain⟨L,H⟩:=yE (w.setCell ⟨T,0,MH⟩ (yB m));rw[<-H]at P;have N:MQ base w L:=by rw[H];exact(MY _ _).setCell hT.hT _
 have a0:Xo L:=hB.Gf (N.block 10 hb0);have C:0<=m:=by omega
 have U:m<=1099511627776:=by omega
 have l:M6 (_/\_/\_/\_/\_/\_):=⟨P,H,N,a0,hG,V⟩;clear hT P H N a0 hB hG V Z;go_enter Tryz.func208,Tryz.ntmps208
 go_wp2_with fail
 rw[<-l.out.2.2.2.2.2,<-l.out.2.1];refine(avH m _ l.out.2.2.2.1 C (by omega)).mono ?_;obtain⟨J,Q⟩:∃b,b=Zy m 8:=⟨_,rfl⟩;obtain⟨K,O⟩:∃b,b=Zy m 64:=⟨_,rfl⟩;obtain⟨I,R⟩:∃b,b=Zy m 512:=⟨_,rfl⟩;rw[<-Q,<-O,<-R];rintro r w2 ⟨rfl,Y⟩;have b9:=l.out.2.2.1.size;have A:M6 (_/\_/\_/\_):=⟨Q,O,R,Y⟩;clear Q O R Y;have j0:=avT J K I;have j1:=avU J K I;have j2:=avV J K I;go_wp2
 go_loopw [19] (fun i wr=>∃(k n':Nat) (vs':List M7) (f':Int->Option Int),i=yB k/\k<=3/\WM wr base T B M n' m vs' (if k=0 then ls else if k=1 then aak ls m else if k=2 then aal ls m else XO ls m) f'/\n'<=n+k*1048576/\MQ base w wr) (fun i _=>3-(On i).toNat)
 case atStart=>exact⟨0,n,vs,f,rfl,by omega,l.out.1.below A.out.2.2.2,by omega,l.out.2.2.1.trans (A.out.2.2.2.mono (by omega))⟩
 case round =>
  obtain⟨k,n',vs',f',rfl,hk,hT,u,q⟩:=hrel;obtain⟨c0,c1,c2,b8⟩:=YS hT.box;have D:Xo wr:=l.out.2.2.2.1.Gf ((q.block 10 hb0).trans (l.out.2.2.1.block 10 hb0).symm);have b6:=q.size;have b4:k=0\/k=1\/k=2\/k=3:=by omega
  rcases b4 with rfl|rfl|rfl|rfl
  ·rw[Nh rfl]at hT
   have d:M6 (_/\_/\_/\_):=⟨hT,u,q,D⟩;clear hT u q D;cases J
   ·have e:aak ls m=ls:=by unfold aak;rw[<-A.out.1];rfl
    have j:M6 _:=e;clear e;go_wp2
    go_roundw
    case rel=>exact⟨1,n',vs',f',rfl,by omega,by rw[Nf (by omega),Nh rfl,j.out];exact d.out.1,by have:=d.out.2.1;omega,d.out.2.2.1⟩
    case measure=>simp[On]
   ·have e:aak ls m=ace ls m (acB m):=by unfold aak;rw[<-A.out.1];rfl
    have y:(8+m / 8 % 8:Int)=(acB m:Int):=by unfold acB;omega
    have j:M6 (_/\_):=⟨e,y⟩;clear e y
    go_wp2_with fail
    refine(awq m _ d.out.2.2.2 C (by omega)).mono ?_;rw[j.out.2];rintro r w3 ⟨rfl,rfl⟩
    go_wp2_with fail
    refine(ajt base T B M n' m vs' ls f' (acB m) _ d.out.2.2.2 d.out.1 hb0 (by omega) C U (ajK m) l.out.2.2.2.2.1 (by have:=d.out.2.1;omega)).mono ?_;rintro r w4 ⟨rfl,E,F,G,s,v,z⟩;have o:M6 (_/\_/\_):=⟨s,v,z⟩;clear s v z;go_wp2
    go_roundw
    case rel=>exact⟨1,F,E,G,rfl,by omega,by rw[Nf (by omega),Nh rfl,j.out.1];exact o.out.1,by have:=d.out.2.1;have:=o.out.2.1;omega,d.out.2.2.1.trans o.out.2.2⟩
    case measure=>simp[On]
  ·rw[Nf (by omega),Nh rfl]at hT
   have d:M6 (_/\_/\_/\_):=⟨hT,u,q,D⟩;clear hT u q D;cases K
   ·have e:aal ls m=aak ls m:=by unfold aal;rw[<-A.out.2.1];rfl
    have j:M6 _:=e;clear e;go_wp2
    go_roundw
    case rel=>exact⟨2,n',vs',f',rfl,by omega,by rw[Nf (by omega),Nf (by omega),Nh rfl,j.out];exact d.out.1,by have:=d.out.2.1;omega,d.out.2.2.1⟩
    case measure=>simp[On]
   ·have e:aal ls m=ace (aak ls m) m (acf m):=by unfold aal;rw[<-A.out.2.1];rfl
    have y:(16+m / 64 % 8:Int)=(acf m:Int):=by unfold acf;omega
    have j:M6 (_/\_):=⟨e,y⟩;clear e y
    go_wp2_with fail
    refine(awr m _ d.out.2.2.2 C (by omega)).mono ?_;rw[j.out.2];rintro r w3 ⟨rfl,rfl⟩
    go_wp2_with fail
    refine(ajt base T B M n' m vs' (aak ls m) f' (acf m) _ d.out.2.2.2 d.out.1 hb0 (by omega) C U (ajL m) (l.out.2.2.2.2.1.Hm m) (by have:=d.out.2.1;omega)).mono ?_;rintro r w4 ⟨rfl,E,F,G,s,v,z⟩;have o:M6 (_/\_/\_):=⟨s,v,z⟩;clear s v z;go_wp2
    go_roundw
    case rel=>exact⟨2,F,E,G,rfl,by omega,by rw[Nf (by omega),Nf (by omega),Nh rfl,j.out.1];exact o.out.1,by have:=d.out.2.1;have:=o.out.2.1;omega,d.out.2.2.1.trans o.out.2.2⟩
    case measure=>simp[On]
  ·rw[Nf (by omega),Nf (by omega),Nh rfl]at hT
   have d:M6 (_/\_/\_/\_):=⟨hT,u,q,D⟩;clear hT u q D;cases I
   ·have e:XO ls m=aal ls m:=by unfold XO;rw[<-A.out.2.2.1];rfl
    have j:M6 _:=e;clear e;go_wp2
    go_roundw
    case rel=>exact⟨3,n',vs',f',rfl,by omega,by rw[Nf (by omega),Nf (by omega),Nf (by omega),j.out];exact d.out.1,by have:=d.out.2.1;omega,d.out.2.2.1⟩
    case measure=>simp[On]
   ·have e:XO ls m=ace (aal ls m) m (24):=by unfold XO;rw[<-A.out.2.2.1];rfl
    have y:(24:Int)=((24:Nat):Int):=rfl;have j:M6 (_/\_):=⟨e,y⟩;clear e y
    go_wp2_with fail
    refine(aws m _).mono ?_;rintro r w3 ⟨rfl,rfl⟩
    go_wp2_with fail
    refine(ajt base T B M n' m vs' (aal ls m) f' 24 _ d.out.2.2.2 d.out.1 hb0 (by omega) C U (by omega) (l.out.2.2.2.2.1.Hs m) (by have:=d.out.2.1;omega)).mono ?_;rintro r w4 ⟨rfl,E,F,G,s,v,z⟩;have o:M6 (_/\_/\_):=⟨s,v,z⟩;clear s v z;go_wp2
    go_roundw
    case rel=>exact⟨3,F,E,G,rfl,by omega,by rw[Nf (by omega),Nf (by omega),Nf (by omega),j.out.1];exact o.out.1,by have:=d.out.2.1;have:=o.out.2.1;omega,d.out.2.2.1.trans o.out.2.2⟩
    case measure=>simp[On]
  ·rw[Nf (by omega),Nf (by omega),Nf (by omega)]at hT
   have d:M6 (_/\_/\_):=⟨hT,u,q⟩;clear hT u q;go_wp2
   go_end0
   exact⟨rfl,vs',n',f',d.out.1,by have:=d.out.2.1;omega,d.out.2.2⟩
theorem av8{ls:List (List Tm)}{i:Nat}{l:List Tm}(h:(ZK ls m t)[i]?=MI l)(hx:x∈l):(x=t/\Xq t.1 m=(i:Int))\/∃l',ls[i]?=MI l'/\x∈l':=by
 have e:=@aew t.1 m;obtain⟨j,d⟩:∃j:Nat,Xq t.1 m=(j:Int):=⟨(Xq t.1 m).toNat,by omega⟩;rw[agS ls m t j d]at h
 by_cases hij:i=j
 ·subst hij
  by_cases hl:i<ls.length
  ·rw[N7 hl]at h
   rw[<-NC h]at hx;rcases ajA.1 hx with rfl|hx
   ·exact Nt ⟨rfl,d⟩
   ·exact NF ⟨_,by simp[Pq,MR hl],hx⟩
  ·rw[Nz (by rw[NA];omega)]at h
   cases h
 ·rw[N3 (Pi hij)]at h
  exact NF ⟨l,h,hx⟩
theorem av7{i:Nat}(a:List Tm):∀ {ls:List (List Tm)} {l:List Tm},(abL ls m a)[i]?=MI l->x∈l->(x∈a/\Xq x.1 m=(i:Int))\/∃l',ls[i]?=MI l'/\x∈l':=by
 induction a with
 |nil=>intro ls l h e;exact NF ⟨l,h,e⟩
 |cons t a ih =>
  intro ls l h e;rcases ih (ls:=ZK ls m t) h e with⟨j,n⟩|⟨l',j,n⟩
  ·exact Nt ⟨NB _ j,n⟩
  ·rcases av8 j n with⟨rfl,d⟩|d
   ·exact Nt ⟨NM ..,d⟩
   ·exact NF d
theorem ajz{ls:List (List Tm)}{i:Nat}{l:List Tm}(h:(ace ls m p)[i]?=MI l)(hx:x∈l):Xq x.1 m=(i:Int)\/(i≠p/\∃l',ls[i]?=MI l'/\x∈l'):=by
 rcases av7 _ h hx with⟨_,e⟩|⟨l',d,e⟩
 ·exact Nt e
 ·by_cases hip:i=p
  ·subst hip
   by_cases hl:i<ls.length
   ·rw[N7 hl]at d
    rw[<-NC d]at e;cases e
   ·rw[Nz (by rw[NA];omega)]at d
    cases d
  ·rw[N3 (Pi hip)]at d
   exact NF ⟨hip,l',d,e⟩
theorem awm{at' now:Int}(h0:0<=now)(h1:now<at')(h2:at'<=now+500):Xq at' (now+1)=Xq at' now\/((now+1) % 8=0/\Xq at' now=8+(now+1) / 8 % 8)\/((now+1) % 64=0/\Xq at' now=16+(now+1) / 64 % 8)\/((now+1) % 512=0/\Xq at' now=24):=by
 unfold Xq
 by_cases a1:at' / 8=now / 8
 ·rw[Nh a1,Nh (by omega)];exact Nt rfl
 ·rw[Nf a1]
  by_cases a2:at' / 64=now / 64
  ·rw[Nh a2]
   by_cases b1:at' / 8=(now+1) / 8
   ·right;left;constructor <;> omega
   ·rw[Nf b1,Nh (by omega)];exact Nt rfl
  ·rw[Nf a2]
   by_cases a3:at' / 512=now / 512
   ·rw[Nh a3]
    by_cases b2:at' / 64=(now+1) / 64
    ·right;right;left;constructor <;> omega
    ·rw[Nf (by omega),Nf b2,Nh (by omega)];exact Nt rfl
   ·rw[Nf a3]
    by_cases b3:at' / 512=(now+1) / 512
    ·right;right;right;constructor <;> omega
    ·rw[Nf (by omega),Nf (by omega),Nf b3];exact Nt rfl
theorem avG(n m:Int):Zy n m=Nw↔n % m=0:=by unfold Zy;simp
theorem ajy{now:Int}{ls:List (List Tm)}(h:Ok now ls)(h0:0<=now):∀(i:Nat) (l:List Tm),(XO ls (now+1))[i]?=MI l->∀t∈l,Xq t.1 (now+1)=(i:Int):=by
 obtain⟨m,A⟩:=yE (now+1);have z:∀(i:Nat) (l:List Tm),ls[i]?=MI l->∀t∈l,Xq t.1 m=(i:Int)\/(Zy m 8=Nw/\i=acB m)\/(Zy m 64=Nw/\i=acf m)\/(Zy m 512=Nw/\i=24):=fun i l e t o=>by
  have y:=h.fit i l e t o;have w:=(ada now t).1 y.1;have n:=awm h0 w.1 w.2.1;rw[y.2,<-A]at n;simp only[avG];unfold acB acf;rcases n with n|n|n|n
  ·exact Nt n
  ·exact NF (Nt ⟨n.1,by omega⟩)
  ·exact NF (NF (Nt ⟨n.1,by omega⟩))
  ·exact NF (NF (NF ⟨n.1,by omega⟩))
 have u:∀(i:Nat) (l:List Tm),(aak ls m)[i]?=MI l->∀t∈l,Xq t.1 m=(i:Int)\/(Zy m 64=Nw/\i=acf m)\/(Zy m 512=Nw/\i=24):=fun i l e t o=>by
  unfold aak at e
  split at e
  ·rcases ajz e o with j|⟨j,q,s,r⟩
   ·exact Nt j
   ·rcases z i q s t r with d|d|d
    ·exact Nt d
    ·exact absurd d.2 j
    ·exact NF d
  ·rename_i hnb
   rcases z i l e t o with d|d|d
   ·exact Nt d
   ·exact absurd d.1 hnb
   ·exact NF d
 have v:∀(i:Nat) (l:List Tm),(aal ls m)[i]?=MI l->∀t∈l,Xq t.1 m=(i:Int)\/(Zy m 512=Nw/\i=24):=fun i l e t o=>by
  unfold aal at e
  split at e
  ·rcases ajz e o with j|⟨j,q,s,r⟩
   ·exact Nt j
   ·rcases u i q s t r with d|d|d
    ·exact Nt d
    ·exact absurd d.2 j
    ·exact NF d
  ·rename_i hnb
   rcases u i l e t o with d|d|d
   ·exact Nt d
   ·exact absurd d.1 hnb
   ·exact NF d
 rw[<-A];intro i l e t o;unfold XO at e
 split at e
 ·rcases ajz e o with j|⟨j,q,s,r⟩
  ·exact j
  ·rcases v i q s t r with d|d
   ·exact d
   ·exact absurd d.2 j
 ·rename_i hnb
  rcases v i l e t o with d|d
  ·exact d
  ·exact absurd d.1 hnb
theorem agX{ls:List (List Tm)}(h:XJ ls)(m:Int):(XO ls m).flatten.Perm ls.flatten:=by
 have e:(aak ls m).flatten.Perm ls.flatten:=by
  unfold aak
  split
  ·exact agU h.srt.len m (ajK m)
  ·exact .refl _
 have d:(aal ls m).flatten.Perm ls.flatten:=by
  unfold aal
  split
  ·exact(agU (h.Hm m).srt.len m (ajL m)).trans e
  ·exact e
 unfold XO
 split
 ·exact(agU (h.Hs m).srt.len m (by omega)).trans d
 ·exact d
theorem afv(m:Int):(m % 8).toNat<25:=by omega
theorem ajF{x:Int}(h0:0<=m)(h1:m<=x):Xq x m=m % 8↔x=m:=by
 constructor
 ·intro h
  unfold Xq at h
  split at h
  ·omega
  ·split at h
   ·omega
   ·split at h
    ·omega
    ·omega
 ·rintro rfl
  unfold Xq;rw[Nh rfl]
theorem anU{now:Int}{ls:List (List Tm)}(h:Ok now ls)(h0:0<=now)(hG:XJ ls):∀x,x∈(XO ls (now+1)).getD ((now+1) % 8).toNat []↔x∈ls.flatten/\x.1=now+1:=by
 intro x;have u:=(hG.GR (now+1)).srt.len;have d:(XO ls (now+1))[((now+1) % 8).toNat]?=MI ((XO ls (now+1)).getD ((now+1) % 8).toNat []):=by
  simp[Pq,MR (show((now+1) % 8).toNat<(XO ls (now+1)).length by rw[u];exact afv _)]
 have o:=agX hG (now+1);have n:∀t∈ls.flatten,now+1<=t.1:=fun t ht=>by
  obtain⟨l,d,v⟩:=List.mem_flatten.1 ht;obtain⟨i,j,rfl⟩:=NV d;have:=(ada now t).1 (h.fit i _ (MR j) t v).1;omega
 constructor
 ·intro e
  have s:x∈ls.flatten:=o.mem_iff.1 (List.mem_flatten.2 ⟨_,Nu d,e⟩);have r:=ajy h h0 _ _ d x e;exact⟨s,(ajF (by omega) (n x s)).1 (by rw[r];omega)⟩
 ·rintro⟨e,he⟩
  obtain⟨l,w,q⟩:=List.mem_flatten.1 (o.mem_iff.2 e);obtain⟨i,j,rfl⟩:=NV w;have r:=ajy h h0 i _ (MR j) x q;have z:=(ajF (by omega) (n x e)).2 he;have y:i=((now+1) % 8).toNat:=by omega
  subst y;rw[MR j]at d;rw[<-NC d];exact q
theorem awb{now:Int}{ls:List (List Tm)}(h:Y9 now ls)(hlt:now<1099511627776)(hG:XJ ls):Y9 (now+1) ((XO ls (now+1)).set ((now+1) % 8).toNat []):=by
 have u:=h.1.1;have d:=hG.GR (now+1);have v:(XO ls (now+1))[((now+1) % 8).toNat]?=MI ((XO ls (now+1)).getD ((now+1) % 8).toNat []):=by
  simp[Pq,MR (show((now+1) % 8).toNat<(XO ls (now+1)).length by rw[d.srt.len];exact afv _)]
 have n:=d.srt.Gc v;refine⟨by omega,n.len,fun i l hil t ht=>?_,n.ord,n.ids⟩
 by_cases hi:i=((now+1) % 8).toNat
 ·subst hi
  rw[N7 (by rw[d.srt.len];exact afv _)]at hil;rw[<-NC hil]at ht;cases ht
 ·rw[N3 (Pi hi)]at hil
  have s:=ajy h.2 u i l hil t ht;have w:t∈ls.flatten:=(agX hG (now+1)).mem_iff.1 (List.mem_flatten.2 ⟨l,Nu hil,ht⟩);obtain⟨A,r,q⟩:=List.mem_flatten.1 w;obtain⟨j,y,rfl⟩:=NV r;have o:=(ada now t).1 (h.2.fit j _ (MR y) t q).1;refine⟨(ada _ _).2 ⟨?_,by omega,o.2.2.1,o.2.2.2⟩,s⟩;have z:t.1≠now+1:=fun e=>by
   have:=(ajF (show 0<=now+1 by omega) (by omega)).2 e;omega
  omega
theorem av6{now:Int}{ls:List (List Tm)}(h:Ok now ls)(t x:Tm):x∈(ZK ls now t).flatten↔x=t\/x∈ls.flatten:=by
 rw[(ajo h.len now t).mem_iff,OO]
theorem av9{now:Int}{ls:List (List Tm)}(h:Y9 now ls)(hG:XJ ls)(x:Tm):x∈((XO ls (now+1)).set ((now+1) % 8).toNat []).flatten↔x∈ls.flatten/\x.1≠now+1:=by
 have l:(XO ls (now+1))[((now+1) % 8).toNat]?=MI ((XO ls (now+1)).getD ((now+1) % 8).toNat []):=by
  simp[Pq,MR (show((now+1) % 8).toNat<(XO ls (now+1)).length by rw[(hG.GR (now+1)).srt.len];exact afv _)]
 have i:=(adQ l).trans (agX hG (now+1));have j:=anU h.2 h.1.1 hG x;have q:((XO ls (now+1)).flatten.map (·.2)).Nodup:=(hG.GR (now+1)).srt.ids;have o:x∈(XO ls (now+1)).getD ((now+1) % 8).toNat []->¬x∈((XO ls (now+1)).set ((now+1) % 8).toNat []).flatten:=fun h1 h2=>by
  have n:=((adQ l).map (·.2)).nodup_iff.2 q;rw[OI,Qv]at n;exact n.2.2 x.2 (ZAd.2 ⟨x,h1,rfl⟩) x.2 (ZAd.2 ⟨x,h2,rfl⟩) rfl
 constructor
 ·intro d
  refine⟨i.mem_iff.1 (Qq _ d),fun e=>?_⟩;exact o (j.2 ⟨i.mem_iff.1 (Qq _ d),e⟩) d
 ·rintro⟨d,hne⟩
  rcases QF.1 (i.mem_iff.2 d)with h1|h1
  ·exact absurd (j.1 h1).2 hne
  ·exact h1
theorem WM.old{w0 wr:MO}{base T B M n0 n:Nat}{now now0:Int}{vs:List M7}{ls0 ls:List (List Tm)}{f0 f:Int->Option Int}(h0:WM w0 base T B M n0 now0 vs ls0 f0)(h:WM wr base T B M n now vs ls f)(hk:∀g,g<w0.heap.size->w'.heap[g]?=wr.heap[g]?):WM w' base T B M n now vs ls f:=by
 have d:=(ZAa.1 h0.box).1;have e:vs.length=25:=by rw[h0.own.each.1,h0.len]
 refine⟨(hk T d).trans h.box,⟨W8 h.own.row fun g hg=>hk g (h0.own.row.lt g hg).2,⟨h.own.each.1,fun i h1 h2=>?_⟩,h.own.apart⟩,h.map.Gf (hk M h0.map.lt),h.offT,h.offM,h.hT,h.hM,h.hTM,h.len⟩;exact W8 (h.own.each.2 i h1 h2) fun g hg=>hk g ((h0.own.each.2 i h1 (by rw[<-h0.own.each.1];exact h1)).lt g hg).2
theorem aaj.IX{w:MO}{n:Nat}{f:Int->Option Int}(h:aaj w b n f){id:Int}(hid:(N6 ME id).wf=Nw)(ty:NU):
  ∃w' f',(Builtin.delete_ #[338,3] ty #[P0 (MI b),yB id]).run MK w=.ok (Nv #[]) w'/\aaj w' b n f'/\w.grownBy w' (MI b):=by
 obtain⟨D,j,r⟩:=h;obtain⟨w',s,l,o⟩:=j.drop agW az3 (Qg Ol hid) ty;obtain⟨A,v,z,u,q,rfl⟩:=o;refine⟨_,fun k=>if k=id then MH else f k,s,⟨_,l,fun k hk=>?_⟩,⟨rfl,rfl,rfl,by simp[Go.ChangeMaps.setBlock],fun i _ hi=>Go.ChangeMaps.heap_setBlock_other q _ (fun e=>hi (by rw[e]))⟩⟩
 dsimp only
 by_cases e:k=id
 ·subst e
  rw[Nh rfl];exact⟨Maps.has_del_same,fun y hy=>by cases hy⟩
 ·rw[Nf e]
  have d:N6 ME k≠N6 ME id:=fun h=>e (by cases h;rfl)
  rw[Maps.has_del_other d,Maps.atKey_del_other d];exact r k hk
theorem WM.II{w:MO}{base T B M n:Nat}{now:Int}{vs:List M7}{ls:List (List Tm)}{f f':Int->Option Int}(h:WM w base T B M n now vs ls f)(hm:aaj w' M n f')(hg:w.grownBy w' (MI M)):WM w' base T B M n now vs ls f':=by
 refine⟨(hg.block T (ZAa.1 h.box).1 (fun e=>h.hTM (NC e))).trans h.box,h.own.If hg fun u hu g hg' e=>?_,hm,h.offT,h.offM,h.hT,h.hM,h.hTM,h.len⟩;exact h.offM u hu (by rw[hg',NC e])
def abM(l:List Tm):List Value:=l.map fun t=>yB t.2
theorem awj(m:Int)(h:0<=m):Xq m m=m % 8:=by unfold Xq;rw[Nh rfl]
theorem avO(base T B M n:Nat)(m:Int)(vs:List M7)(ls:List (List Tm))(f:Int->Option Int)(p:Nat)(L:List Tm)(w:MO)(hB:Xo w)(hT:WM w base T B M n m vs ls f)(hb0:10<base)(hbase:base<=w.heap.size)(hn:0<=m)(hn2:m<=1099511627776)
  (hp:m % 8=(p:Int)) (hL:ls[p]?=MI L) (hLb:∀t∈L,(N6 ME t.2).wf=Nw) (hLl:L.length<=1048576) :
  Ni MK 209 #[Na (MI ⟨T,0,MH⟩)] w fun r w'=>∃v vs' f',r=MN v/\w'.ownsRow w.heap.size 3 1 v L.length (abM L)/\WM w' base T B M n m vs' (ls.set p []) f'/\MQ base w w':=by
 obtain⟨i0,hi,d8,e7,e9⟩:=OF adB;obtain⟨t0,t1,t2,h9⟩:=YS hT.box;have b5:p<25:=by omega
 have F:p<ls.length:=by rw[hT.len];exact b5
 obtain⟨u,U,E⟩:=aet hT.own p F;have g8:=aes hT.own hT.len p F u U;have Q:ls[p]=L:=by rw[MR F]at hL;exact NC hL
 rw[Q]at E;have g6:=(hT.own.row.lt B rfl).2;have d9:=(hT.own.row.lt B rfl).1;have g3:M6 (∀q,Ni MK 261 #[yB m,yB m] (w.drewN q) fun e w'=>e=MN (yB (p:Int))/\∃k,w'=(w.drewN q).drewN k):=fun q=>by
  rw[<-hp,<-awj m hn];exact ajD m m _ (hB.IQ q) hn (by omega) hn (by omega)
 obtain⟨up,uc,rfl⟩:=Y6 E;have Z:=Yr E;have s:M6 (_/\_/\_/\_/\_/\_):=⟨hT,Z,hLb,U,E,Q⟩;have i7:(p:Int)<25:=by omega
 clear hT Z hLb U E hL Q hp hB;go_enter S0,SA
 go_wp2_with fail
 go_quiet ((go_at_call 261;exact Qe (g3.out _)))
 go_wp2
 go_loopw [4,27] (fun off i wr=>∃(k:Nat) (f':Int->Option Int),i=yB k/\k<=L.length/\wr.ownsRow w.heap.size 3 1 off k (abM (L.take k))/\WM wr base T B M n m vs ls f'/\MQ base w wr/\w.heap.size<=wr.heap.size) (fun _ i _=>L.length-(On i).toNat)
 case atStart=>exact⟨0,f,rfl,Nx _,NY _ _ _ _,s.out.1.below (ajp (MY _ _) nq),ajp (MY _ _) nq,MV _⟩
 case round =>
  obtain⟨k,f',rfl,hk,A,hT,I,f9⟩:=hrel
  by_cases hlt:k<L.length
  ·obtain⟨u2,c9,G⟩:=aet hT.own p F
   rw[s.out.2.2.2.1]at c9;obtain rfl:=NC c9;rw[s.out.2.2.2.2.2]at G;obtain⟨g,c',a0,i5,i4⟩:=G.form (by omega);simp only[N4]at a0;obtain⟨rfl,_,rfl⟩:=a0;have R:=aaT L k hlt;rw[<-G.cellAt _ (by omega),<-G.cellAt _ (by omega)]at R;obtain⟨D,b8⟩:∃D,L[k].1=D:=⟨_,rfl⟩;obtain⟨l,J⟩:∃l,L[k].2=l:=⟨_,rfl⟩;rw[b8,J]at R;obtain⟨e1,e2⟩:=R;have f8:(N6 ME l).wf=true:=by rw[<-J];exact s.out.2.2.1 _ (Nk hlt)
   have Y:abM (L.take (k+1))=abM (L.take k)++[yB l]:=by
    rw[M9 hlt,<-J];unfold abM;rw[OI];rfl
   have i6:(k:Int)<(L.length:Int):=by omega
   have HN:M6 (∀j y,[yB l][j]?=MI y->((wr.alloc (MP #[yB D,yB l] 230)).alloc (MP #[yB l] 3)).cell? ((⟨wr.heap.size+1,0,MH⟩:Oc).add j)=MI y):=by
    have h:=acR (wr.alloc (MP #[yB D,yB l] 230)) [yB l] 3;have hs:(wr.alloc (MP #[yB D,yB l] 230)).heap.size=wr.heap.size+1:=by simp
    rw[hs]at h;exact h
   have d:M6 (_/\_/\_/\_/\_):=⟨A,hT,I,Y,f9⟩;clear A hT I Y G b8 J
   go_wp2_with (first|(at_builtin;refine O9 _ rfl _ _ 276 rfl w.heap.size 3 i0 _ 1 8 Tryz.underlying276 hi d8 e7 e9 rfl (by decide) u4 k _ rfl ((d.out.1.alloc _).alloc _) _ 1 1 [yB l] rfl rfl HN.out (by intro y hy;rw[PY.1 hy];rfl) (by decide) (by unfold NE;omega) (by omega) (by simp;omega) _ rfl ?_;intro g' d7 z H C d6 g4))
   have O:∀q,q<w.heap.size->z.heap[q]?=wr.heap[q]?:=fun q hq=>by
    rw[C.block q (by simp;omega) (fun e=>by have:=(d.out.1.lt q e.symm).1;omega)];exact(((MY _ wr).alloc (MV _) _).alloc (by simp) _).block q (by omega)
   have hK:z.cell? ⟨wr.heap.size,1,MH⟩=MI (yB l):=by
    have h1:z.heap[wr.heap.size]?=MI (MP #[yB D,yB l] 230 (0,0)):=by
     rw[C.block wr.heap.size (by simp;omega) (fun e=>by have:=(d.out.1.lt _ e.symm).2;omega)];exact Xy _ _ (M1 _ _)
    simp[Nl,h1]
   have g9:wr.heap.size<z.heap.size:=MX z ⟨wr.heap.size,1,MH⟩ hK;have g7:=d.out.2.2.2.2;have P:=s.out.1.old d.out.2.1 O;have N:WM z.drew base T B M n m vs ls f':=P.Gf fun _ _ _=>rfl
   obtain⟨c0,c1,c2,e8⟩:=YS P.box;obtain⟨w3,f3,h8,b9,o⟩:=N.map.IX f8 0;have b7:=N.II b9 o;have V:w3.ownsRow w.heap.size 3 1 (MG (MI ⟨g',0,MH⟩) (k+1) d7) (k+1) (abM (L.take (k+1))):=by
    rw[d.out.2.2.2.1];refine W8 H fun q hq=>?_
    rw[o.block q (H.lt q hq).2 (fun e=>by have:=(H.lt q hq).1;have:=s.out.1.map.lt;have:=NC e;omega)];rfl
   have b6:MQ base w w3:=by
    refine⟨o.os.trans (C.os.trans d.out.2.2.1.os),o.tape.trans (C.tape.trans d.out.2.2.1.tape),o.output.trans (C.output.trans d.out.2.2.1.output),Nm d.out.2.2.1.size (Nm (show wr.heap.size<=z.heap.size by omega) o.size),fun q hq=>?_⟩;rw[o.block q (by show q<z.heap.size;omega) (fun e=>by have:=s.out.1.hM;have:=NC e;omega)];exact(O q (by omega)).trans (d.out.2.2.1.block q hq)
   have K:M6 (_/\_/\_/\_):=⟨V,b7,b6,Nm (show w.heap.size<=z.heap.size by omega) o.size⟩;clear V b7 b6 b9 o P N O H C d6 e1 e2
   go_region
   go_wp2
   go_roundw
   case rel=>exact⟨k+1,f3,by simp,hlt,K.out.1,K.out.2.1,K.out.2.2.1,K.out.2.2.2⟩
   case measure=>simp[On];omega
  ·obtain rfl:k=L.length:=by omega
   rw[NT]at A;obtain⟨c0,c1,c2,e8⟩:=YS hT.box;have i3:=aes hT.own hT.len p F _ s.out.2.2.2.1;have h7:wr.frozen? ⟨B,p,MH⟩=false:=by
    have c7:=hT.own.row;rw[hT.len]at c7;exact c7.frozenAt p
   have c8:=hT.Gc b5 s.out.2.2.2.1;have b4:∀g,u4.ownBlock=MI g->g≠B:=fun g hg e=>by have:=(A.lt g hg).1;omega
   have d:M6 (_/\_/\_/\_):=⟨A,c8,I,b4⟩;clear A hT c8 I b4;go_wp2;go_ret;refine⟨_,_,f',rfl,W8 d.out.1 fun g hg=>MU _ _ _ _ (d.out.2.2.2 g hg),d.out.2.1.1,d.out.2.2.1.setCell d9 _⟩
theorem Ok.good{now:Int}{ls:List (List Tm)}(h:Ok now ls)(hn:0<=now)(ht:ls.flatten.length<=1048576):XJ ls:=by
 refine⟨h.srt,fun t htm=>?_,ht⟩;obtain⟨l,e,d⟩:=List.mem_flatten.1 htm;obtain⟨i,j,rfl⟩:=NV e;exact aer (h.fit i _ (MR j) t d).1 hn
def ZZ(m:Int):Nat:=(m % 8).toNat
theorem avC(v:M7)(now:Int)(ls:List (List Tm))(w:MO)(hB:Xo w)(hx:Zo w v ls)(htot:ls.flatten.length<=1048576)(hm:Y9 now ls) :
  Ni MK 151 #[Ny #[yB now,v]] w fun r w'=>yA w w' /\
   ((now=1099511627776/\r=MN (Nv #[Ny #[yB 0,MG MH 0 0],MG MH 0 0,yB 9])) \/
     (now<1099511627776/\∃u vs x,r=MN (Nv #[Ny #[yB (now+1),u],x,yB 0])/\WZ w' w.heap.size u vs ((XO ls (now+1)).set (ZZ (now+1)) []) /\
      w'.ownsRow w.heap.size 3 1 x ((XO ls (now+1)).getD (ZZ (now+1)) []).length (abM ((XO ls (now+1)).getD (ZZ (now+1)) [])))):=by
 obtain⟨a,Q,rfl,_⟩:=hx.F6;have b4:∀l∈ls,l.length<=1048576:=fun l o=>Nm (adc o) htot
 have b6:∀W,yA w W->Xo W/\Zo W (MG a ls.length Q) ls:=fun W h=>⟨hB.below h,hx.below h⟩
 have hG:=hm.2.good hm.1.1 htot;have e:M6 (_/\_/\_/\_):=⟨b6,b4,hm,hG⟩;have d8:=hB.lt;obtain⟨hn,g3⟩:=hm.1;clear b6 b4 hm hx hB hG;go_enter azp,azk
 go_wp2_with fail
 have y:yA w ((w.alloc (MP #[yB now,MG a ls.length Q] 54)).alloc (MP #[yB 0,MG MH 0 0] 54)):=((MY _ _).alloc (MV _) _).alloc (by simp) _;refine(ajJ _ now ls _ (e.out.1 _ y).1 (e.out.1 _ y).2 e.out.2.1).mono ?_;rintro r i ⟨K,⟨_,T,B,M,n,vs,f,rfl,V,hF,b7⟩|⟨H,_⟩⟩
 ·have s:i.heap[w.heap.size+1]?=MI (MP #[yB 0,MG MH 0 0] 54 (0,0)):=(K.block _ (by simp)).trans (Yu _ _ _)
  have C:=y.trans (K.mono y.size);rw[show((w.alloc (MP #[yB now,MG a ls.length Q] 54)).alloc (MP #[yB 0,MG MH 0 0] 54)).heap.size+2=w.heap.size+4 by simp]at V;obtain⟨A,E⟩:=yE (i.alloc (MP #[yB now,MG (MI ⟨B,0,MH⟩) 25 25,P0 (MI M)] 340));have I:yA i A:=by rw[E];exact(MY _ _).alloc (MV _) _
  have F:WM A (w.heap.size+4) i.heap.size B M n now vs ls f:=by rw[E];exact V.Iu
  have b8:=(I.block _ (ZAa.1 s).1).trans s;have b5:=C.trans (I.mono C.size);have g4:=F.hT;have f8:=(ZAa.1 F.box).1;have d9:=(ZAa.1 s).1;have d7:w.heap.size<i.heap.size:=by omega
  obtain⟨c0,c1,f0,f1,e9⟩:=Xa s;have j:M6 (_/\_/\_/\_/\_):=⟨F,b7,b8,b5,E⟩;have HQ:M6 (_/\_):=⟨s,C⟩;clear s K y V hF b7 I F b8 b5 C E
  by_cases hfull:now=1099511627776
  ·subst hfull
   go_wp2;have hf:=Xy _ (MP #[yB 1099511627776,MG (MI ⟨B,0,MH⟩) 25 25,P0 (MI M)] 340) (acb (c:=yB 0) (d:=MG MH 0 0) HQ.out.1);obtain⟨R,U,_⟩:=Xa hf;refine Np (v:=Nv #[Ny #[yB 0,MG MH 0 0],MG MH 0 0,yB 9]) (by simp[Pf,R8,go_sem,R,U]) rfl ⟨?_,by first|exact .inl ⟨rfl,rfl⟩|rfl⟩;have H:=((HQ.out.2.setCell (p:=⟨w.heap.size+1,0,MH⟩) (by simp) (yB 0)).setCell (p:=⟨w.heap.size+1,1,MH⟩) (by simp) (MG MH 0 0));exact H.alloc H.size _
  ·have e8:(now == 1099511627776)=false:=by simp;exact hfull
   have Z:now<1099511627776:=by omega
   clear hfull
   go_wp2_with fail
   rw[<-j.out.2.2.2.2];refine(awn (w.heap.size+4) i.heap.size B M n now vs ls f A (e.out.1 _ j.out.2.2.2.1).1 j.out.1 (by omega) (by omega) hn Z e.out.2.2.2 j.out.2.1).mono ?_;rintro r w3 ⟨rfl,c8,n3,f3,J,d6,D⟩;obtain⟨m,hm⟩:=yE (now+1);rw[<-hm]at J;have b9:m % 8=(ZZ m:Int):=by unfold ZZ;omega
   have G:=e.out.2.2.2.GR m;have a0:ZZ m<25:=by unfold ZZ;omega
   have o:(XO ls m)[ZZ m]?=MI ((XO ls m).getD (ZZ m) []):=by simp[Pq,MR (show ZZ m<(XO ls m).length by rw[G.srt.len];exact a0)]
   have c7:Xo w3:=(e.out.1 _ j.out.2.2.2.1).1.Gf (D.block 10 (by omega));have e7:=D.size;have HG:=avO (w.heap.size+4) i.heap.size B M n3 m c8 (XO ls m) f3 (ZZ m) _ w3 c7 J (by omega) (by omega) (by omega) (by omega) b9 o (fun t ht=>(G.bnd t (List.mem_flatten.2 ⟨_,Nu o,ht⟩)).2.2) (Nm (adc (Nu o)) G.tot);have q:M6 (_/\_/\_):=⟨HG,D,hm⟩;clear HG D hm J d6 c7 o G b9 a0
   go_wp2_with fail
   refine q.out.1.mono ?_;rintro r w4 ⟨x,c9,f4,rfl,L,N,P⟩;have O:=(P.block (w.heap.size+1) (by omega)).trans ((q.out.2.1.block (w.heap.size+1) (by omega)).trans j.out.2.2.1);obtain⟨d0,d1,y0,y1,f9⟩:=Xa O;obtain⟨q0,q1,q2,q3⟩:=YS N.box;obtain⟨xp,xc,rfl⟩:=Y6 L;have Y:yA w w4:=(j.out.2.2.2.1.trans (q.out.2.1.mono (by omega))).trans (P.mono (by omega));have z:M6 (_/\_/\_/\_):=⟨O,N,Y,L⟩;clear O N Y L P c0 c1 f0 f1;go_wp2;obtain⟨R,U⟩:=adR (c:=yB m) (d:=MG (MI ⟨B,0,MH⟩) 25 25) z.out.1;refine Np (v:=Nv #[Ny #[yB m,MG (MI ⟨B,0,MH⟩) 25 25],MG xp ((XO ls m).getD (ZZ m) []).length xc,yB 0]) (by simp[Pf,R8,go_sem,R,U]) rfl ⟨?_,NF ⟨Z,MG (MI ⟨B,0,MH⟩) 25 25,c9,MG xp ((XO ls m).getD (ZZ m) []).length xc,?_,?_,?_⟩⟩
   ·exact((z.out.2.2.1.setCell (p:=⟨w.heap.size+1,0,MH⟩) (by simp) _).setCell (p:=⟨w.heap.size+1,1,MH⟩) (by simp) _)
   ·rw[<-q.out.2.2]
   ·rw[<-q.out.2.2]
    exact(z.out.2.1.own.Hh (g:=w.heap.size+1) (by omega) _ _).GV (by omega)
   ·rw[<-q.out.2.2]
    refine W8 (z.out.2.2.2.mono (by omega)) fun g hg=>?_
    have:=(z.out.2.2.2.lt g hg).1;rw[MU _ _ _ _ (by simp;omega),MU _ _ _ _ (by simp;omega)]
 ·exact absurd e.out.2.2.1 H
theorem ajB:∀(k:Nat) (l:List Int),l.Nodup->(∀x∈l,0<=x/\x<(k:Int))->l.length<=k
 |0,l,_,h=>by
  cases l with
  |nil=>exact MV _
  |cons a l=>have:=h a (NM ..);omega
 |k+1,l,hn,h=>by
  by_cases hk:(k:Int)∈l
  ·have j:=ajB k (l.erase (k:Int)) (hn.erase _) fun x hx=>by
    have d:=(hn.mem_erase_iff).1 hx;have:=h x d.2;have i:=d.1;omega
   have n:=List.length_erase_of_mem hk;have i:=Qj hk;omega
  ·have j:=ajB k l hn fun x hx=>by
    have:=h x hx;have i:x≠(k:Int):=fun e=>hk (e ▸ hx)
    omega
   omega
theorem Ok.I5{now:Int}{ls:List (List Tm)}(h:Ok now ls)(ht:t∈ls.flatten):Zg now t=true:=by
 obtain⟨l,e,d⟩:=List.mem_flatten.1 ht;obtain⟨i,j,rfl⟩:=NV e;exact(h.fit i _ (MR j) t d).1
theorem Ok.Hr{now:Int}{ls:List (List Tm)}(h:Ok now ls):ls.flatten.length<=200:=by
 have e:=ajB 200 _ h.ids fun x hx=>by
  obtain⟨t,d,rfl⟩:=ZAd.1 hx;have:=(ada now t).1 (h.I5 d);omega
 rwa[N0]at e
theorem Ok.Ia{now:Int}{ls:List (List Tm)}(h:Ok now ls):ls.flatten.length<=1048576:=Nm h.Hr (by omega)
theorem anV{w:MO}{base:Nat}{v:M7}{vs:List M7}{ls:List (List Tm)}(h:WZ w base v vs ls){n:Nat}(hn:ls.length=n):∃p c,v=MG p n c:=by
 obtain⟨p,c,rfl⟩:=Y6 h.row;exact⟨p,c,by rw[hn]⟩
def adP(w:MO)(base:Nat)(p:Option Oc)(c:Nat)(ls:List (List Tm)):Prop:=∃vs,WZ w base (MG p 25 c) vs ls
theorem adP.GV{w:MO}{base c:Nat}{p:Option Oc}{ls:List (List Tm)}(h:adP w base p c ls)(hb:b<=base):adP w b p c ls:=h.elim fun vs h=>⟨vs,h.GV hb⟩
theorem avD(v:M7)(now id x:Int)(ls:List (List Tm))(w:MO)(hB:Xo w)(hx:Zo w v ls)(hm:Y9 now ls)(hf:Zg now (x,id)=Nw)(hn:∀t∈ls.flatten,t.2≠id) :
  Ni MK 166 #[Ny #[yB now,v],yB id,yB x] w fun r w'=>∃p c,r=MN (Nv #[Ny #[yB now,MG p 25 c],yB 0])/\adP w' w.heap.size p c (ZK ls now (x,id))/\Y9 now (ZK ls now (x,id))/\yA w w':=by
 have i:=hm.ID hf hn;refine(avE v now id x ls w hB hx (fun l hl=>Nm (adc hl) hm.2.Ia) hm (aer hf hm.1.1).2.2).mono ?_;rintro r w' ⟨j,⟨d,_⟩|⟨_,d,_⟩|⟨_,_,u,n,rfl,e⟩⟩
 ·rw[hf]at d;cases d
 ·exact absurd hn d
 ·obtain⟨p,c,rfl⟩:=anV e i.2.len
  exact⟨p,c,rfl,⟨_,e⟩,i,j⟩
structure Z8(now:Int)(ls ms:List (List Tm))(L:List Tm):Prop where
 may:Y9 (now+1) ms
 left:∀t,t∈ms.flatten↔t∈ls.flatten/\t.1≠now+1
 off:∀t,t∈L↔t∈ls.flatten/\t.1=now+1
 ord:L.Pairwise (fun a b=>Xe a b<0)
 len:L.length<=200
theorem av3{now:Int}{ls:List (List Tm)}(hm:Y9 now ls)(hlt:now<1099511627776):Z8 now ls ((XO ls (now+1)).set (ZZ (now+1)) []) ((XO ls (now+1)).getD (ZZ (now+1)) []):=by
 have d:=hm.2.good hm.1.1 hm.2.Ia;have e:=d.GR (now+1);have j:(XO ls (now+1))[ZZ (now+1)]?=MI ((XO ls (now+1)).getD (ZZ (now+1)) []):=by
  simp[Pq,MR (show ZZ (now+1)<(XO ls (now+1)).length by rw[e.srt.len];exact afv _)]
 refine⟨awb hm hlt d,fun t=>av9 hm d t,anU hm.2 hm.1.1 d,e.srt.ord _ (Nu j),?_⟩;have i:=adc (Nu j);rw[(agX d (now+1)).length_eq]at i;exact Nm i hm.2.Hr
theorem anG(v:M7)(now:Int)(ls:List (List Tm))(w:MO)(hB:Xo w)(hx:Zo w v ls)(hm:Y9 now ls)(hlt:now<1099511627776) :
  Ni MK 151 #[Ny #[yB now,v]] w fun r w'=>∃p c xp xc ms L,r=MN (Nv #[Ny #[yB (now+1),MG p 25 c],MG xp L.length xc,yB 0])/\adP w' w.heap.size p c ms/\Z8 now ls ms L /\
   w'.ownsRow w.heap.size 3 1 (MG xp L.length xc) L.length (abM L)/\yA w w':=by
 have e:=av3 hm hlt;refine(avC v now ls w hB hx hm.2.Ia hm).mono ?_;rintro r w' ⟨i,⟨j,_⟩|⟨_,u,l,x,rfl,d,hx⟩⟩
 ·omega
 ·obtain⟨p,c,rfl⟩:=anV d e.may.2.len
  obtain⟨xp,xc,rfl⟩:=Y6 hx;exact⟨p,c,xp,xc,_,_,rfl,⟨_,d⟩,e,hx,i⟩
theorem agT(a b id:Int)(g:Nat)(w:MO)(h:w.cell? ⟨g,0,MH⟩=MI (yB id)) :
  Ni MK 300 #[Ny #[yB a,yB b],Na (MI ⟨g,0,MH⟩)] w fun r w'=>r=MN (M3 (Nn (b=id)))/\w'=w.alloc (MP #[yB a,yB b] 230):=by
 have e:g<w.heap.size:=MX w ⟨g,0,MH⟩ h
 by_cases hb:b=id
 ·subst hb
  go_enter Tryz.func300,Tryz.ntmps300;go_wp2;go_ret;exact⟨by simp,rfl⟩
 ·have i:(b == id)=false:=by simpa using hb
  have d:Nn (b=id)=false:=M0 hb;rw[d];clear hb;go_enter Tryz.func300,Tryz.ntmps300;go_wp2;go_ret;exact⟨rfl,rfl⟩
theorem avW(v:M7)(l:List Tm)(id:Int)(g:Nat)(w:MO)(hv:Xz w v l)(h:w.cell? ⟨g,0,MH⟩=MI (yB id))(hex:∃t∈l,t.2=id) :
  Ni MK 211 #[v,PB (PD 300) #[] #[Na (MI ⟨g,0,MH⟩)]] w fun r w'=>∃(k:Nat) (hk:k<l.length),r=MN (yB k)/\l[k].2=id/\(∀t∈l.take k,t.2≠id)/\yA w w':=by
 obtain⟨a,P,rfl,O,J,D⟩:=hv.F6;unfold NE at J;have I:=MX w ⟨g,0,MH⟩ h;have C:M6 (_/\_):=⟨h,hex⟩;clear h hex hv;go_enter Tryz.func211,Tryz.ntmps211;go_wp2
 go_loopw [8] (fun i wr=>∃k:Nat,i=yB k/\k<=l.length/\(∀t∈l.take k,t.2≠id)/\yA w wr) (fun i _=>l.length-(On i).toNat)
 case atStart=>exact⟨0,rfl,Nx _,by simp,MY _ _⟩
 case round =>
  obtain⟨k,rfl,hk,s,n⟩:=hrel
  by_cases hlt:k<l.length
  ·obtain⟨H,F,rfl,y,c1,G⟩:=D k hlt
   have M:=(n.cell (p:=⟨H,F+k*2,MH⟩) y).trans c1;have K:=(n.cell (p:=⟨H,F+k*2+1,MH⟩) y).trans G;have E:=(n.cell (p:=⟨g,0,MH⟩) I).trans C.out.1;have j:M6 (_/\_/\_):=⟨s,n,E⟩;have N:(k:Int)<(l.length:Int):=by omega
   have B:l.take (k+1)=l.take k++[l[k]]:=M9 hlt;obtain⟨q,A⟩:=yE (l[k].1);obtain⟨o,u⟩:=yE (l[k].2);rw[<-A]at M;rw[<-u]at K;have z:M6 (_/\_):=⟨B,u⟩;clear s n c1 G y B A u E D;cases hd:Nn (o=id)
   ·go_wp2_with fail
    refine(agT q o id g _ j.out.2.2).mono ?_;rw[hd];rintro r L ⟨rfl,rfl⟩;go_wp2
    go_roundw
    case rel =>
     refine⟨k+1,by simp,hlt,fun t d=>?_,j.out.2.1.alloc j.out.2.1.size _⟩;rw[z.out.1]at d;rcases QF.1 d with d|d
     ·exact j.out.1 t d
     ·rw[PY.1 d,<-z.out.2]
      exact Nc hd
    case measure=>simp[On];omega
   ·go_wp2_with fail
    refine(agT q o id g _ j.out.2.2).mono ?_;rw[hd];rintro r L ⟨rfl,rfl⟩;go_wp2;go_ret;exact⟨k,hlt,rfl,by rw[<-z.out.2];exact M2 hd,j.out.1,j.out.2.1.alloc j.out.2.1.size _⟩
  ·exfalso
   obtain⟨t,d,e⟩:=C.out.2;exact s t (by rw[N1 (by omega)];exact d) e
theorem awt(W:MO):(zeroValue 230).run MK W=.ok (Ny #[yB 0,yB 0]) W:=by kernel_rfl
theorem avL(base g c:Nat)(l:List Tm)(id:Int)(gid:Nat)(w:MO)(hown:w.ownsRow base 230 2 (MG (MI ⟨g,0,MH⟩) l.length c) l.length (WP l))(h:w.cell? ⟨gid,0,MH⟩=MI (yB id))(hne:gid≠g)(hex:∃t∈l,t.2=id) :
  Ni MK 299 #[MG (MI ⟨g,0,MH⟩) l.length c,PB (PD 300) #[] #[Na (MI ⟨gid,0,MH⟩)]] w fun r w'=>r=MN (MG (MI ⟨g,0,MH⟩) (kp l id).length c)/\w'.ownsRow base 230 2 (MG (MI ⟨g,0,MH⟩) (kp l id).length c) (kp l id).length (WP (kp l id))/\w.grownBy w' (MI g):=by
 have N:=avW _ l id gid w (Yr hown) h hex;have b6:=MX w ⟨gid,0,MH⟩ h;have b8:l.length<=c/\c<=maxLen:=by
  obtain⟨_,c',he,hc,hm,_⟩:=Yr hown;cases he;exact⟨hc,hm⟩
 obtain⟨g6,c8⟩:=b8;unfold NE at c8;have L:M6 (_/\_/\_):=⟨N,hown,h⟩;clear N hown h hex;go_enter Tryz.func299,Tryz.ntmps299
 go_wp2_with fail
 refine L.out.1.mono ?_;rintro r w1 ⟨k,hk,rfl,M,O,y⟩;have v:kp (l.take k) id=l.take k:=aiI O;have H:=afh (junk:=[]) hk M;have H1:M6 (_/\_/\_/\_):=⟨y,v,H.1,H.2⟩;have f9:((k:Int) == -1)=false:=by
  rw[Oh];omega
 clear y v H M O;go_wp2
 go_loopw [5,6] (fun s5 s6 wr=>∃(j:Nat) (junk:List Tm),s5=yB ((kp (l.take j) id).length:Nat)/\s6=yB j/\j<=l.length/\(kp (l.take j) id).length+junk.length=j/\junk≠[]/\wr.ownsRow base 230 2 (MG (MI ⟨g,0,MH⟩) l.length c) l.length (WP (XE l id junk j))/\w.grownBy wr (MI g)) (fun _ s6 _=>l.length-(On s6).toNat)
 case atStart =>
  obtain⟨y,v,d7,d8⟩:=H1.out;have e0:XE l id [l[k]] (k+1)=l:=by
   have:XE l id ([]++[l[k]]) (k+1)=XE l id [] k:=d7;rw[Oz]at this;rw[this];unfold XE;rw[v,OG,Oo]
  have A:(kp (l.take (k+1)) id).length=k:=by rw[d8,v,NH];omega
  refine⟨k+1,[l[k]],by rw[A],by simp,hk,by rw[A];rfl,by simp,?_,aiH y⟩;rw[e0];exact agD L.out.2.1 y
 case round =>
  obtain⟨j,junk,rfl,rfl,hj,Z,Y,d,o⟩:=hrel;have d6:=aiM hj Z;have D:wr.cell? ⟨gid,0,MH⟩=MI (yB id):=o.cell L.out.2.2 (by simpa using hne);obtain⟨x,n,rfl⟩:∃x n,junk=x::n:=by
   cases junk with
   |nil=>exact absurd rfl Y
   |cons x r=>exact⟨x,r,rfl⟩
  rw[Ox]at Z;have b5:gid<wr.heap.size:=M8 b6 o.size;have g7:=(d.lt g rfl).2;generalize e:(kp (l.take j) id).length=i at *
  by_cases hlt:j<l.length
  ·have R:=aiL (id:=id) (junk:=x::n) hlt (by rw[e,Ox];omega)
   obtain⟨a0,Q⟩:=ZAb.1 R
   have C:=aaT (XE l id (x::n) j) j a0;rw[Q]at C;have f1:=(d.cellAt (j*2) (by omega)).trans C.1;have f2:=(d.cellAt (j*2+1) (by omega)).trans C.2;have K:=aaT (XE l id (x::n) j) i (by omega);have f3:=(d.cellAt (i*2) (by omega)).trans K.1;have f4:=(d.cellAt (i*2+1) (by omega)).trans K.2;have f5:=d.frozenAt (i*2);have f6:=d.frozenAt (i*2+1);obtain⟨u,I⟩:=yE (l[j].1);obtain⟨q,J⟩:=yE (l[j].2);rw[<-I]at f1;rw[<-J]at f2;generalize ((XE l id (x::n) j)[i]'(by omega)).1=oa at f3;generalize ((XE l id (x::n) j)[i]'(by omega)).2=od at f4;have s:l[j]=(u,q):=by rw[I,J]
   have z:M6 (_/\_/\_/\_/\_):=⟨d,o,D,s,e⟩;have e9:(j:Int)<(l.length:Int):=by omega
   have b9:(i:Int)<(l.length:Int):=by omega
   have d9:i<j:=by omega
   have g3:i<l.length:=by omega
   clear d o D R Q C K I J s a0 e Y;have U:((wr.alloc (MP #[yB u,yB q] 230))).cell? ⟨gid,0,MH⟩=MI (yB id):=by
    rw[NG (a:=⟨gid,0,MH⟩) (Ov wr _ gid b5)];exact z.out.2.2.1
   have T:M6 _:=U;clear U;cases hd:Nn (q=id)
   ·go_wp2_with fail
    refine(agT u q id gid _ T.out).mono ?_;rw[hd];rintro r w2 ⟨rfl,rfl⟩;go_wp2
    go_roundw
    case rel =>
     obtain⟨d,o,D,s,e⟩:=z.out;have b7:l[j].2≠id:=by rw[s];exact Nc hd
     obtain⟨E,B⟩:=aiN (x:=x) (junk:=n) hlt b7;have V:=d.stored (i*2) (yB u);have G:=V.1.stored (i*2+1) (yB q);have c7:=afj (XE l id (x::n) j) i (u,q);rw[c7]at G;rw[e,s]at E;refine⟨j+1,n++[l[j]],by rw[B,Ns,e];simp,by simp,hlt,by rw[B,Ns,e];simp;omega,by simp,?_,?_⟩
     ·rw[s,E];exact(G.1.alloc _).alloc _
     ·exact(((o.trans V.2).trans G.2).trans (OL _ _ _)).trans (OL _ _ _)
    case measure=>simp[On];omega
   ·go_wp2_with fail
    refine(agT u q id gid _ T.out).mono ?_;rw[hd];rintro r w2 ⟨rfl,rfl⟩;go_wp2
    go_roundw
    case rel =>
     obtain⟨d,o,D,s,e⟩:=z.out;have c9:l[j].2=id:=by rw[s];exact M2 hd
     obtain⟨E,B⟩:=afh (junk:=x::n) hlt c9;refine⟨j+1,x::n++[l[j]],by rw[B,e],by simp,hlt,by rw[B,e];simp;omega,by simp,?_,?_⟩
     ·rw[E];exact(d.alloc _).alloc _
     ·exact(o.trans (OL _ _ _)).trans (OL _ _ _)
    case measure=>simp[On];omega
  ·obtain rfl:j=l.length:=by omega
   have f8:i<l.length:=by omega
   obtain⟨vs,g4⟩:=aiR (P:=MK) wr 227 230 0 (yB 0) (yB 0) azY awt rfl rfl g (i*2) (l.length-i) (c-i) (by omega) (fun t C=>by
    have h1:=d.cellAt (i*2+t) (by omega);rw[h1,MR (by rw[YE,d6];omega)];rfl) (fun t _=>d.frozenAt _)
   have F:=aeh vs (i*2) wr (agE d (i:=i) (by omega)) (MV _);have A:(WP (XE l id (x::n) l.length)).take (i*2)=WP (kp l id):=by
    have e2:kp (l.take l.length) id=kp l id:=by rw[NT]
    rw[e2]at e;rw[ac4];unfold XE;rw[e2,OC,ZqA (by omega),<-e,NT]
   rw[A]at F;have b4:(kp l id).length=i:=by rw[<-e,NT]
   have z:M6 (_/\_/\_):=⟨F,o,b4⟩;have b9:(i:Int)<(l.length:Int):=by omega
   have e8:(i:Int)<=(c:Int):=by omega
   have e7:c≠i:=by omega
   clear F o d e A b4;go_wp2;go_ret;obtain⟨r1,r2,r3⟩:=z.out;rw[r3];exact⟨rfl,r1.1,r2.trans r1.2⟩
theorem avR{w:MO}(h1:w.cell? a1=MI v1)(h2:w.cell? a2=MI v2)(h3:w.cell? a3=MI v3)(h4:w.cell? a4=MI v4)(hf:w.frozen? a2=Nb)
  (k1:w'.heap[a1.block]?=w.heap[a1.block]?) (k2:w'.heap[a2.block]?=w.heap[a2.block]?) (k3:w'.heap[a3.block]?=w.heap[a3.block]?) (k4:w'.heap[a4.block]?=w.heap[a4.block]?) :
  w'.cell? a1=MI v1/\w'.cell? a2=MI v2/\w'.cell? a3=MI v3/\w'.cell? a4=MI v4/\w'.frozen? a2=false :=
 ⟨(NG k1).trans h1,(NG k2).trans h2,(NG k3).trans h3,(NG k4).trans h4,(OM k2).trans hf⟩
theorem awk(base T B M n:Nat)(now:Int)(vs:List M7)(ls:List (List Tm))(f:Int->Option Int)(id:Int)(i:Nat)(w:MO)(hT:WM w base T B M n now vs ls f)(hbase:base<=w.heap.size)(hi:i<25)(hid:(N6 ME id).wf=Nw)(hf:f id=MI (i:Int))(l:List Tm)(hl:ls[i]?=MI l)(hex:∃t∈l,t.2=id) :
  Ni MK 276 #[Na (MI ⟨T,0,MH⟩),yB id] w fun r w'=>r=MN (Nv #[])/\∃vs' f',WM w' base T B M n now vs' (ls.set i (kp l id)) f'/\MQ base w w':=by
 obtain⟨t0,t1,t2,c8⟩:=YS hT.box;have E:i<ls.length:=by rw[hT.len];exact hi
 obtain⟨u,z,I⟩:=aet hT.own i E;have b6:=aes hT.own hT.len i E u z;have C:=hl;rw[MR E]at hl;rw[NC hl]at I;have d8:0<l.length:=by obtain⟨t,ht,_⟩:=hex;exact Qj ht
 obtain⟨g,c,rfl,g6,i3⟩:=I.form d8;have b4:B<w.heap.size:=(hT.own.row.lt B rfl).2;have g3:=(hT.own.row.lt B rfl).1;have c7:w.frozen? ⟨B,i,MH⟩=false:=by
  have d7:=hT.own.row;rw[hT.len]at d7;exact d7.frozenAt i
 have P:g≠T:=fun e=>hT.offT _ (NB _ (Nu z)) (by rw[e];rfl)
 have f8:g≠M:=fun e=>hT.offM _ (NB _ (Nu z)) (by rw[e];rfl)
 have f9:g≠B:=fun e=>(ZAe.1 hT.own.apart).1 _ (Nu z) B rfl (by rw[e];rfl)
 have g7:T≠B:=fun e=>hT.offT _ (NM ..) (by rw[e];rfl)
 have g8:M≠B:=fun e=>hT.offM _ (NM ..) (by rw[e];rfl)
 have g9:=hT.map.lt;obtain⟨d,A⟩:=yE (w.alloc (MP #[yB id] 3));have o:yA w d:=by rw[A];exact(MY _ _).alloc (MV _) _
 have c9:w.heap.size<d.heap.size:=by rw[A];simp
 have c1:d.cell? ⟨w.heap.size,0,MH⟩=MI (yB id):=by rw[A];simp
 have c3:d.cell? ⟨T,1,MH⟩=MI (MG (MI ⟨B,0,MH⟩) 25 25):=(o.cell (p:=⟨T,1,MH⟩) c8).trans t1;have c4:d.cell? ⟨T,2,MH⟩=MI (P0 (MI M)):=(o.cell (p:=⟨T,2,MH⟩) c8).trans t2;have c5:d.cell? ⟨B,i,MH⟩=MI (MG (MI ⟨g,0,MH⟩) l.length c):=(o.cell (p:=⟨B,i,MH⟩) b4).trans b6;have c6:d.frozen? ⟨B,i,MH⟩=false:=(o.frozen (p:=⟨B,i,MH⟩) b4).trans c7;have q:=hT.below o;have d9:(Instr.lookup 338 (P0 (MI M)) (yB id) Nb).run MK d.drew=.ok (yB i) d.drew:=by
  obtain⟨D,F,hD⟩:=(q.map.Gf (w':=d.drew) rfl);obtain⟨x,hr,e9,_⟩:=F.lookup_int agW az3 Ol (anX _) (Qg Ol hid);have J:=(hD id hid).2 i hf;rw[e9]at J;have:x=(i:Int):=by cases J;rfl
  rw[this]at hr;exact hr
 have H:=agD I o;have V:M6 (_/\_/\_/\_/\_/\_):=⟨hT,q,o,H,C,A⟩;have HX:M6 _:=hex;have N:T<d.heap.size:=by omega
 have e8:B<d.heap.size:=by omega
 have h7:g<d.heap.size:=by omega
 have e7:M<d.heap.size:=by omega
 have h9:(i:Int)<25:=by omega
 clear hT q o I H A hex hl C t0 t1 t2 b6 c7 hf;go_enter Tryz.func276,Tryz.ntmps276
 go_wp2_with fail
 rw[<-V.out.2.2.2.2.2]
 go_region
 have R:w.heap.size≠g:=by omega
 have a0:=avL base g c l id w.heap.size d.drew.drew (V.out.2.2.2.1.drew.drew) c1 R HX.out;have b8:∀W:MO,d.drew.drew.grownBy W (MI g)->W.cell? ⟨T,1,MH⟩=MI (MG (MI ⟨B,0,MH⟩) 25 25)/\W.cell? ⟨B,i,MH⟩=MI (MG (MI ⟨g,0,MH⟩) l.length c)/\W.cell? ⟨w.heap.size,0,MH⟩=MI (yB id)/\W.cell? ⟨T,2,MH⟩=MI (P0 (MI M))/\W.frozen? ⟨B,i,MH⟩=false:=fun W hg =>
  avR c3 c5 c1 c4 c6 (hg.block T N (fun e=>P (NC e).symm)) (hg.block B e8 (fun e=>f9 (NC e).symm)) (hg.block w.heap.size c9 (fun e=>R (NC e))) (hg.block T N (fun e=>P (NC e).symm))
 have HI:M6 (_/\_):=⟨a0,b8⟩;clear a0 b8
 go_upto_region 2 with fail
 go_cut []from 11 to 27 (fun wx=>∃v,v.ownsRow base 230 2 (MG (MI ⟨g,0,MH⟩) (kp l id).length c) (kp l id).length (WP (kp l id))/\d.drew.drew.grownBy v (MI g)/\wx=v.setCell ⟨B,i,MH⟩ (MG (MI ⟨g,0,MH⟩) (kp l id).length c))
 case first =>
  go_region_with (first|(go_at_call 299;refine HI.out.1.mono ?_;rintro r v ⟨rfl,G,s⟩;obtain⟨s1,s2,s3,s4,s5⟩:=HI.out.2 _ s))
  all_goals
   go_wp2_with fail
   go_meet
   exact⟨v,G,s,rfl⟩
 case rest =>
 obtain⟨v,G,s,rfl⟩:=hcut;obtain⟨hT,q,o,H,C,_⟩:=V.out;have i6:ls[i]=l:=by rw[MR E]at C;exact NC C
 obtain⟨j,y⟩:=yE (v.setCell ⟨B,i,MH⟩ (MG (MI ⟨g,0,MH⟩) (kp l id).length c));have K:∀k,k<d.heap.size->k≠g->k≠B->j.heap[k]?=d.heap[k]?:=fun k hk hkg hkB=>by
  rw[y,MU _ _ _ _ hkB];exact s.block k hk (fun e=>hkg (NC e))
 have Q:j.heap[T]?=MI (MP #[yB now,MG (MI ⟨B,0,MH⟩) 25 25,P0 (MI M)] 340 (0,0)):=(K T N P.symm g7).trans q.box;have b9:aaj j M n f:=q.map.Gf (K M e7 f8.symm g8);have Z:WZ j base (MG (MI ⟨B,0,MH⟩) 25 25) (vs.set i (MG (MI ⟨g,0,MH⟩) (kp l id).length c)) (ls.set i (kp l id)):=by
  rw[y];exact WZ.Gd (w:=d.drew.drew) (q.own.Gf fun _ _ _=>rfl) q.len E z s G (fun k hk=>Nt hk)
 have O:∀X,(∀x∈MG (MI ⟨B,0,MH⟩) 25 25::vs,x.ownBlock≠MI X)->∀x∈MG (MI ⟨B,0,MH⟩) 25 25::vs.set i (MG (MI ⟨g,0,MH⟩) (kp l id).length c),x.ownBlock≠MI X:=fun X F x Y=>by
  rcases OO.1 Y with rfl|Y
  ·exact F _ (NM ..)
  ·rcases OB Y with h|rfl
   ·exact F x (NB _ h)
   ·exact fun e=>F _ (NB _ (Nu z)) e
 have L:WM j.drew base T B M n now (vs.set i (MG (MI ⟨g,0,MH⟩) (kp l id).length c)) (ls.set i (kp l id)) f :=
  ⟨Q,Z.Gf fun _ _ _=>rfl,b9.Gf rfl,O T hT.offT,O M hT.offM,hT.hT,hT.hM,hT.hTM,by rw[NA];exact hT.len⟩
 obtain⟨w7,f7,i4,d6,U⟩:=L.map.IX hid 0;have b7:=L.II d6 U;have b5:MQ base w w7:=by
  have i5:d.heap.size<=j.heap.size:=by rw[y];have:=s.size;simpa using this
  have h1:MQ base w d.drew.drew:=((o.mono hbase).drew).drew;have J:MQ base w j:=by rw[y];exact(h1.grown s (by show base<=d.heap.size;omega) (fun k hk=>by rw[<-NC hk];exact g6)).setCell g3 _
  exact J.drew.grown U (by show base<=j.heap.size;omega) (fun k hk=>by rw[<-NC hk];exact hT.hM)
 have g4:j.cell? ⟨w.heap.size,0,MH⟩=MI (yB id):=(NG (a:=⟨w.heap.size,0,MH⟩) (K w.heap.size c9 R (by omega))).trans c1;obtain⟨q0,q1,q2,q3⟩:=YS Q;have h8:=MX j ⟨w.heap.size,0,MH⟩ g4;have HZ:M6 (_/\_):=⟨b7,b5⟩;rw[<-y];clear b7 b5 L d6 U Z Q b9 K G s y O c1 c3 c4 c5 c6 d9 hT q o H
 go_wp2_with fail
 go_region
 go_end0
 exact⟨rfl,_,f7,HZ.out.1,HZ.out.2⟩
theorem awc{l:List Tm}(h:(l.map (·.2)).Nodup){a b:Tm}(ha:a∈l)(hb:b∈l)(e:a.2=b.2):a=b:=by
 induction l with
 |nil=>cases ha
 |cons x l ih =>
  rw[OA,QJ]at h;rcases OO.1 ha with i|i
  ·rcases OO.1 hb with d|d
   ·rw[i,d]
   ·exact absurd (ZAd.2 ⟨b,d,by rw[<-e,i]⟩) h.1
  ·rcases OO.1 hb with d|d
   ·exact absurd (ZAd.2 ⟨a,i,by rw[e,d]⟩) h.1
   ·exact ih h.2 i d
theorem anI{B:Nat}{w:MO}(h:MQ B w w')(hg:B<=g)(x y:M7):MQ B w ((w'.setCell ⟨g,0,MH⟩ x).setCell ⟨g,1,MH⟩ y):=(h.setCell (p:=⟨g,0,MH⟩) hg _).setCell (p:=⟨g,1,MH⟩) hg _
structure aeq(now id:Int)(ls ms:List (List Tm)):Prop where
 may:Y9 now ms
 mem:∀t,t∈ms.flatten↔t∈ls.flatten/\t.2≠id
theorem ajx{l:List Tm}{id:Int}:t∈kp l id↔t∈l/\t.2≠id:=by unfold kp;simp
theorem avP{now id:Int}{ls:List (List Tm)}(h:Y9 now ls){i:Nat}{l:List Tm}(hl:ls[i]?=MI l)(hex:∃t∈l,t.2=id):aeq now id ls (ls.set i (kp l id)):=by
 have v:=(ZAb.1 hl).1;obtain⟨a,b,F,A,_⟩:=ajs ls i l (kp l id) hl;have r:(ls.set i (kp l id)).flatten.Sublist ls.flatten:=by
  have D:ls.flatten=a.flatten++(l++b.flatten):=by
   have:=congrArg List.flatten F
   simpa using this
  rw[A,D];simp only[PV,QS];exact(S3 _).append ((List.filter_sublist).append (S3 _))
 have w:∀(k:Nat) (m:List Tm),(ls.set i (kp l id))[k]?=MI m->∃q,ls[k]?=MI q/\∀t∈m,t∈q:=fun k m d=>by
  by_cases hki:k=i
  ·subst hki
   rw[N7 v]at d;rw[<-NC d];exact⟨l,hl,fun t j=>(ajx.1 j).1⟩
  ·rw[N3 (Pi hki)]at d
   exact⟨m,d,fun t j=>j⟩
 refine⟨⟨h.1,by rw[NA];exact h.2.len,fun k m d t j=>?_,fun m o=>?_,?_⟩,fun t=>?_⟩
 ·obtain⟨q,z,C⟩:=w k m d
  exact h.2.fit k q z t (C t j)
 ·rcases OB o with o|rfl
  ·exact h.2.ord m o
  ·exact List.Pairwise.filter _ (h.2.ord l (Nu hl))
 ·exact List.Nodup.sublist (r.map _) h.2.ids
 ·constructor
  ·intro j
   refine⟨r.subset j,fun e=>?_⟩;obtain⟨m,o,n⟩:=List.mem_flatten.1 j;obtain⟨k,d,rfl⟩:=NV o;obtain⟨s,u,B⟩:=hex;have y:t=s:=awc h.2.ids (r.subset j) (List.mem_flatten.2 ⟨l,Nu hl,u⟩) (by rw[e,B])
   by_cases hki:k=i
   ·subst hki
    rw[NW]at n;exact(ajx.1 n).2 e
   ·rw[Pe (Pi hki)]at n
    rw[NA]at d;have E:=(h.2.fit k _ (MR d) t n).2;have G:=(h.2.fit i l hl s u).2;rw[y]at E;omega
  ·rintro⟨j,hne⟩
   obtain⟨m,o,n⟩:=List.mem_flatten.1 j;obtain⟨k,d,rfl⟩:=NV o
   by_cases hki:k=i
   ·subst hki
    rw[MR d]at hl;rw[NC hl]at n;exact List.mem_flatten.2 ⟨kp l id,Nu (N7 v),ajx.2 ⟨n,hne⟩⟩
   ·refine List.mem_flatten.2 ⟨ls[k],Nu (i:=k) ?_,n⟩
    rw[N3 (Pi hki)];exact MR d
theorem avJ(v:M7)(now id:Int)(ls:List (List Tm))(w:MO)(hB:Xo w)(hx:Zo w v ls)(hm:Y9 now ls)(hid:(N6 ME id).wf=Nw) :
  Ni MK 227 #[Ny #[yB now,v],yB id] w fun r w'=>yA w w' /\
   (((∀t∈ls.flatten,t.2≠id)/\r=MN (Nv #[Ny #[yB 0,MG MH 0 0],yB 8])) \/
     ((∃t∈ls.flatten,t.2=id)/\∃p c ms,r=MN (Nv #[Ny #[yB now,MG p 25 c],yB 0])/\adP w' w.heap.size p c ms/\aeq now id ls ms)):=by
 obtain⟨a,P,rfl,_⟩:=hx.F6;have Z:∀l∈ls,l.length<=1048576:=fun l q=>Nm (adc q) hm.2.Ia
 have b5:∀W,yA w W->Xo W/\Zo W (MG a ls.length P) ls:=fun W h=>⟨hB.below h,hx.below h⟩
 have s:M6 (_/\_/\_):=⟨b5,Z,hm⟩;clear b5 Z hm hx hB;go_enter RX,RK
 go_wp2_with fail
 have u:yA w ((w.alloc (MP #[yB now,MG a ls.length P] 54)).alloc (MP #[yB 0,MG MH 0 0] 54)):=((MY _ _).alloc (MV _) _).alloc (by simp) _;refine(ajJ _ now ls _ (s.out.1 _ u).1 (s.out.1 _ u).2 s.out.2.1).mono ?_;rintro r o ⟨J,⟨_,T,B,M,n,vs,f,rfl,Y,hF,d7⟩|⟨h1,_⟩⟩
 ·have F:o.heap[w.heap.size+1]?=MI (MP #[yB 0,MG MH 0 0] 54 (0,0)):=(J.block _ (by simp)).trans (Yu _ _ _)
  have G:=u.trans (J.mono u.size);rw[show((w.alloc (MP #[yB now,MG a ls.length P] 54)).alloc (MP #[yB 0,MG MH 0 0] 54)).heap.size+2=w.heap.size+4 by simp]at Y;obtain⟨y,C⟩:=yE ((o.alloc (MP #[yB now,MG (MI ⟨B,0,MH⟩) 25 25,P0 (MI M)] 340)));have H:yA o y:=by rw[C];exact(MY _ _).alloc (MV _) _
  have D:WM y (w.heap.size+4) o.heap.size B M n now vs ls f:=by rw[C];exact Y.Iu
  have N:=(H.block _ (ZAa.1 F).1).trans F;have a0:=G.trans (H.mono G.size);obtain⟨q0,q1,R,q3⟩:=YS D.box;have c8:w.heap.size+4<=y.heap.size:=by have:=D.hT;omega
  have d9:=(ZAa.1 F).1;obtain⟨c0,c1,f0,f1,c9⟩:=Xa N;have j:M6 (_/\_/\_/\_/\_):=⟨D,hF,N,a0,C⟩;clear F J u Y hF d7 H D N a0 G C
  go_wp2_with fail
  rw[<-j.out.2.2.2.2];refine(aju o.heap.size M n f id _ R j.out.1.map hid).mono ?_;cases hhas:(f id).isSome
  ·rintro r w4 ⟨rfl,rfl⟩
   have HN:M6 _:=(j.out.2.1.GP id).1 hhas;clear q0 q1 R;go_wp2;obtain⟨Q,V⟩:=adR (c:=yB 0) (d:=MG MH 0 0) j.out.2.2.1;refine Np (v:=Nv #[Ny #[yB 0,MG MH 0 0],yB 8]) (by simp[Pf,ayf,go_sem,Q,V]) rfl ⟨?_,Nt ⟨HN.out,rfl⟩⟩;exact anI j.out.2.2.2.1 (by omega) _ _
  ·rintro r w4 ⟨rfl,rfl⟩
   have b7:∃t∈ls.flatten,t.2=id:=by
    apply PM;intro c7;rw[(j.out.2.1.GP id).2 (fun t z e=>c7 ⟨t,z,e⟩)]at hhas;cases hhas
   obtain⟨t,z,E⟩:=b7;obtain⟨l,b9,A⟩:=List.mem_flatten.1 z;obtain⟨i,b6,rfl⟩:=NV b9;have b8:i<25:=by rw[<-s.out.2.2.2.len];exact b6
   have q:=MR b6;have I:=j.out.2.1.here i _ q t A;rw[E]at I;have HG:M6 _:=avP s.out.2.2 q ⟨t,A,E⟩;have b4:=awk (w.heap.size+4) o.heap.size B M n now vs ls f id i w4 j.out.1 c8 b8 hid I _ q ⟨t,A,E⟩;have HP:M6 (_/\_):=⟨b4,z⟩;clear b4;have HE:M6 (∃t∈ls.flatten,t.2=id):=⟨t,z,E⟩;clear A I q
   go_wp2_with fail
   refine HP.out.1.mono ?_;rintro r w5 ⟨rfl,d6,f',O,K⟩;have L:=(K.block (w.heap.size+1) (by omega)).trans j.out.2.2.1;obtain⟨f8,e8,g3,e7,d8⟩:=Xa L;obtain⟨e9,g6,f9,g4⟩:=YS O.box;have U:M6 (_/\_/\_):=⟨L,O,j.out.2.2.2.1.trans (K.mono (by omega))⟩;clear L O K c0 c1 f0 f1 c9 q0 q1 R;go_wp2;obtain⟨Q,V⟩:=adR (c:=yB now) (d:=MG (MI ⟨B,0,MH⟩) 25 25) U.out.1;refine Np (v:=Nv #[Ny #[yB now,MG (MI ⟨B,0,MH⟩) 25 25],yB 0]) (by simp[Pf,ayf,go_sem,Q,V]) rfl ⟨?_,NF ⟨HE.out,MI ⟨B,0,MH⟩,25,_,rfl,⟨d6,(U.out.2.1.own.Hh (g:=w.heap.size+1) (by omega) _ _).GV (by omega)⟩,HG.out⟩⟩;exact anI U.out.2.2 (by omega) _ _
 ·exact absurd s.out.2.2 h1
end
section
variable {a b c:Int}{m ws:List Int}{l:List Ld}{v:M7}{w w':MO}{i k t:Nat}
abbrev ab3(num den flows:Int):Prop:=(1<=den/\den<=num/\num<=20)/\0<=flows/\flows<=40
abbrev ago(num den flows wt total:Int):Prop:=ab3 num den flows/\1<=wt/\wt<=total/\total<=96
theorem aiv(n:Int)(w:MO):Ni MK 295 #[yB n] w fun r w'=>r=MN (M3 (Nn (0<=n/\n<=40)))/\w'=w:=by
 obtain⟨d,e⟩:=yE (Nn (0<=n/\n<=40));rw[<-e];have H:M6 _:=e;clear e;cases h1:Nn (0<=n)
 ·have E:M6 (d=Nb):=by rw[H.out];exact M0 fun g=>Nc h1 g.1
  go_enter aAV,aAL;go_wp2;go_ret;exact⟨by rw[E.out];rfl,rfl⟩
 cases h2:Nn (n<=40)
 ·have E:M6 (d=Nb):=by rw[H.out];exact M0 fun g=>Nc h2 g.2
  go_enter aAV,aAL;go_wp2;go_ret;exact⟨by rw[E.out];rfl,rfl⟩
 ·have E:M6 (d=Nw):=by rw[H.out];exact Nq ⟨M2 h1,M2 h2⟩
  go_enter aAV,aAL;go_wp2;go_ret;exact⟨by rw[E.out];rfl,rfl⟩
theorem aiy(a b c:Int)(w:MO):Ni MK 268 #[yB a,yB b,yB c] w fun r w'=>r=MN (M3 (Nn (ab3 a b c)))/\w'=w:=by
 obtain⟨d,f⟩:=yE (Nn (ab3 a b c));rw[<-f];have H:M6 _:=f;clear f;cases h1:Nn (1<=b)
 ·have E:M6 (d=Nb):=by rw[H.out];exact M0 fun g=>Nc h1 g.1.1
  clear H;go_enter aAz,aAt;go_wp2;go_ret;exact⟨by rw[E.out];rfl,rfl⟩
 cases h2:Nn (b<=a)
 ·have E:M6 (d=Nb):=by rw[H.out];exact M0 fun g=>Nc h2 g.1.2.1
  clear H;go_enter aAz,aAt;go_wp2;go_ret;exact⟨by rw[E.out];rfl,rfl⟩
 cases h3:Nn (a<=20)
 ·have E:M6 (d=Nb):=by rw[H.out];exact M0 fun g=>Nc h3 g.1.2.2
  clear H;go_enter aAz,aAt;go_wp2;go_ret;exact⟨by rw[E.out];rfl,rfl⟩
 have E:M6 (d=Nn (0<=c/\c<=40)):=by
  rw[H.out];exact decide_eq_decide.2 ⟨fun g=>g.2,fun g=>⟨⟨M2 h1,M2 h2,M2 h3⟩,g⟩⟩
 clear H;go_enter aAz,aAt
 go_wp2_with fail
 refine(aiv _ _).mono ?_;rintro e w' ⟨rfl,rfl⟩;go_wp2;go_ret;exact⟨by rw[E.out,Bool.decide_and];rfl,rfl⟩
theorem as2(a b:Int)(w:MO)(h1:0<=a)(h2:a<=1000000)(h3:1<=b)(h4:b<=1000000):Ni MK 296 #[yB a,yB b] w fun r w'=>r=MN (yB ((a+b-1) / b))/\w'=w:=by
 go_enter Tryz.func296,Tryz.ntmps296;go_wp2;go_ret;exact⟨rfl,rfl⟩
def agq(num den flows wt total:Int):Int:=(num*(flows+1)*wt+den*total-1) / (den*total)
theorem ate{d e:Int}(h:ago a b c d e):(0<a*(c+1)/\a*(c+1)<=820)/\(0<a*(c+1)*d/\a*(c+1)*d<=78720)/\0<b*e/\b*e<=1920:=by
 obtain⟨⟨⟨s,A,p⟩,u,x⟩,C,B,o⟩:=h;have f:0<a*(c+1):=Tn (by omega) (by omega);have r:a*(c+1)<=20*41:=Px (by omega) (by omega) (by omega) (by omega);have n:0<a*(c+1)*d:=Tn f (by omega);have y:a*(c+1)*d<=820*96:=Px (by omega) (by omega) (by omega) (by omega);have g:0<b*e:=Tn (by omega) (by omega);have z:b*e<=20*96:=Px (by omega) (by omega) (by omega) (by omega);omega
theorem asS(a b c d e:Int)(w:MO)(h:ago a b c d e):Ni MK 270 #[yB a,yB b,yB c,yB d,yB e] w fun r w'=>r=MN (Nv #[yB (agq a b c d e),yB 0])/\w'=w:=by
 obtain⟨⟨z,n⟩,⟨F,G⟩,g,y⟩:=ate h;have f:M6 _:=Nq h.1;obtain⟨⟨⟨p,A,o⟩,s,u⟩,C,B,D⟩:=h;have H:Nn (d<1)=false:=M0 (by omega);have x:Nn (e<d)=false:=M0 (by omega);have E:Nn (96<e)=false:=M0 (by omega);go_enter Tryz.func270,Tryz.ntmps270
 go_wp2_with fail
 refine(aiy _ _ _ _).mono ?_;rintro r w' ⟨rfl,rfl⟩;rw[f.out]
 go_wp2_with fail
 refine(as2 _ _ _ (by omega) (by omega) (by omega) (by omega)).mono ?_;rintro r w' ⟨rfl,rfl⟩;go_wp2
 go_ret2
 exact⟨rfl,rfl⟩
def abG:List Ld->List M7
 | []=>[]
 |t::l=>yB t.1::yB t.2.1::yB t.2.2::abG l
theorem agt:∀l:List Ld,(abG l).length=l.length*3
 | []=>rfl
 |t::l=>by simp[abG,agt l];omega
theorem ags:∀(l:List Ld) (i:Nat) (h:i<l.length),(abG l)[i*3]?=MI (yB l[i].1)/\(abG l)[i*3+1]?=MI (yB l[i].2.1)/\(abG l)[i*3+2]?=MI (yB l[i].2.2)
 |t::l,0,_=>by simp[abG]
 |t::l,i+1,h=>by
  have d:=ags l i (by simpa using h);rw[show(i+1)*3=i*3+1+1+1 by omega]
  simpa [abG]using d
def aaR(w:MO)(v:M7)(l:List Ld):Prop:=XB w v l.length (abG l)
theorem aaR.below(h:aaR w v l)(hb:yA w w'):aaR w' v l:=XB.below h hb
theorem aaR.F6(h:aaR w v l):
  ∃a cap,v=MG a l.length cap/\l.length<=cap/\cap<=NE/\∀i (hi:i<l.length),∃b off,a=MI ⟨b,off,MH⟩/\b<w.heap.size/\w.cell? ⟨b,off+i*3,MH⟩=MI (yB l[i].1)/\w.cell? ⟨b,off+i*3+1,MH⟩=MI (yB l[i].2.1)/\w.cell? ⟨b,off+i*3+2,MH⟩=MI (yB l[i].2.2):=by
 obtain⟨a,cap,n,g,f,e|⟨b,off,e,o,d⟩⟩:=h
 ·exact⟨a,cap,n,g,f,fun i hi=>absurd hi (by omega)⟩
 ·refine⟨a,cap,n,g,f,fun i hi=>⟨b,off,e,o,?_,?_,?_⟩⟩
  ·rw[d (i*3) (by rw[agt];omega)];exact(ags l i hi).1
  ·rw[Nat.add_assoc,d (i*3+1) (by rw[agt];omega)];exact(ags l i hi).2.1
  ·rw[Nat.add_assoc,d (i*3+2) (by rw[agt];omega)];exact(ags l i hi).2.2
def abE(w:MO)(v:M7)(a:List Int):Prop:=XB w v a.length (WR a)
theorem abE.below{l:List Int}(h:abE w v l)(hb:yA w w'):abE w' v l:=XB.below h hb
theorem amp(a:List Int)(i:Nat)(h:i<a.length):(WR a)[i]?=MI (yB a[i]):=by
 unfold WR;rw[List.getElem?_map,MR h];rfl
theorem abE.F6{l:List Int}(h:abE w v l):
  ∃a cap,v=MG a l.length cap/\l.length<=cap/\cap<=NE/\∀i (hi:i<l.length),∃b off,a=MI ⟨b,off,MH⟩/\b<w.heap.size/\w.cell? ⟨b,off+i,MH⟩=MI (yB l[i]):=by
 obtain⟨a,cap,g,f,e,d|⟨b,off,d,o,n⟩⟩:=h
 ·exact⟨a,cap,g,f,e,fun i hi=>absurd hi (by omega)⟩
 ·refine⟨a,cap,g,f,e,fun i hi=>⟨b,off,d,o,?_⟩⟩
  rw[n i (by rw[Zv];exact hi)];exact amp l i hi
theorem amq(w:MO):abE w (MG MH 0 0) []:=Z3 w
theorem Xj.Jc{n:Nat}{g:Nat}{a:List Int}{T:NU}(h:Xj T n w g a)(hn:n<=1000):abE w (MG (MI ⟨g,0,MH⟩) n n) a:=by
 refine⟨_,n,by rw[h.2],by rw[h.2];exact MV _,by unfold NE;omega,NF ⟨g,0,rfl,h.lt,fun i hi=>?_⟩⟩;rw[Oa,amp a i (by rwa[Zv]at hi)];exact h.F7 i (by rwa[Zv]at hi)
abbrev ab4(x:Ld):Prop:=(0<=x.2.1/\x.2.1<=8)/\0<=x.2.2/\x.2.2<=40
def ZW:Int->List Ld->Bool
 |_,[]=>Nw
 |n,x::l=>Nn (n<=x.1/\x.1<12/\ab4 x) && ZW (x.1+1) l
def adC(n:Int)(l:List Ld):Prop:=ZW n l=Nw
theorem amu{n:Int}{x:Ld}:adC n (x::l)↔(n<=x.1/\x.1<12/\ab4 x)/\adC (x.1+1) l:=by
 unfold adC;rw[show ZW n (x::l)=(Nn (n<=x.1/\x.1<12/\ab4 x) && ZW (x.1+1) l)from rfl,Po,decide_eq_true_eq]
def acv(l:List Ld):Prop:=l.length<=12/\adC 0 l
def abH(l:List Ld):Bool:=Nn (l.length<=12) && ZW 0 l
theorem afa:abH l=Nw↔acv l:=by
 unfold abH acv adC;rw[Po,decide_eq_true_eq]
theorem ata(h:¬acv l):abH l=false:=by
 cases hb:abH l
 ·rfl
 ·exact absurd (afa.1 hb) h
theorem afb{p:Prop} [Decidable p]{b:Bool}(h:¬p):(Nn p && b)=false:=by rw[M0 h];rfl
theorem amv{p:Prop} [Decidable p]{b:Bool}(h:p):(Nn p && b)=b:=by rw[Nq h];rfl
theorem adD:∀ {n:Int} {l:List Ld},adC n l->∀x∈l,ab4 x
 |_,[],_,x,d=>by cases d
 |_,y::l,h,x,d=>by
  have h:=amu.1 h;rcases OO.1 d with rfl|d
  ·exact h.1.2.2
  ·exact adD h.2 x d
def Zf(l:List Ld):Int:=(l.map (·.2.1)).sum
theorem atg:Zf []=0:=rfl
theorem ath(l:List Ld)(x:Ld):Zf (l++[x])=Zf l+x.2.1:=by simp[Zf]
theorem agu:∀(l:List Ld),(∀x∈l,ab4 x)->0<=Zf l/\Zf l<=8*l.length
 | [],_=>by simp[Zf]
 |x::l,h=>by
  have d:=agu l fun y hy=>h y (NB _ hy)
  have e:=(h x (NM ..)).1;simp[Zf]at d⊢;omega
theorem amz:∀(l:List Ld),(∀x∈l,ab4 x)->∀x∈l,x.2.1<=Zf l
 | [],_,x,d=>by cases d
 |y::l,h,x,d=>by
  have g:=agu l fun y hy=>h y (NB _ hy)
  have f:=(h y (NM ..)).1;have e:Zf (y::l)=y.2.1+Zf l:=by simp[Zf]
  rw[e];rcases OO.1 d with rfl|d
  ·omega
  ·have:=amz l (fun y hy=>h y (NB _ hy)) x d
   omega
theorem ab5(w:MO){o:Obj}:yA w (w.alloc o):=(MY _ _).alloc (MV _) _
theorem aix(v:M7)(l:List Ld)(w:MO)(hv:aaR w v l) :
  Ni MK 267 #[v] w fun r w'=>r=MN (M3 (abH l))/\yA w w':=by
 obtain⟨a,S,rfl,K,C,s⟩:=hv.F6;unfold NE at C;clear hv
 by_cases hbig:12<l.length
 ·have E:M6 (abH l=Nb):=ata fun h=>by have:=h.1;omega
  have D:(12:Int)<(l.length:Int):=by omega
  clear s;go_enter Tryz.func267,Tryz.ntmps267;go_wp2;go_ret;exact⟨by rw[E.out];rfl,MY _ _⟩
 ·have E:M6 (abH l=ZW 0 l):=amv (by omega)
  rw[E.out];have D:¬((12:Int)<(l.length:Int)):=by omega
  go_enter Tryz.func267,Tryz.ntmps267;go_wp2
  go_loopw [3,11] (fun nx i wr=>∃(k:Nat) (n:Int),i=yB k/\nx=yB n/\k<=l.length/\(0<=n/\n<=12)/\ZW 0 l=ZW n (l.drop k)/\yA w wr) (fun _ i _=>l.length-(On i).toNat)
  case atStart=>exact⟨0,0,rfl,rfl,Nx _,⟨by omega,by omega⟩,rfl,MY _ _⟩
  case round =>
   obtain⟨k,n,rfl,rfl,R,Q,f,e⟩:=hrel
   by_cases hlt:k<l.length
   ·obtain⟨o,z,rfl,g,c1,c2,c3⟩:=s k hlt
    replace c1:=(e.cell (p:=⟨o,z+k*3,MH⟩) g).trans c1;replace c2:=(e.cell (p:=⟨o,z+k*3+1,MH⟩) g).trans c2;replace c3:=(e.cell (p:=⟨o,z+k*3+2,MH⟩) g).trans c3;rw[OK hlt]at f;obtain⟨⟨d,y,u⟩,B⟩:∃x,x=l[k]:=⟨_,rfl⟩;rw[<-B]at c1 c2 c3 f;replace f:ZW 0 l=(Nn (n<=d/\d<12/\ab4 (d,y,u)) && ZW (d+1) (l.drop (k+1))):=f;have I:o<wr.heap.size:=M8 g e.size;have A:yA w (wr.alloc (MP #[yB d,yB y,yB u] 353)):=e.alloc e.size _;have H:M6 (_/\_):=⟨f,A⟩;clear f e A B s g;have L:(k:Int)<(l.length:Int):=by omega
    cases h1:Nn (d<n)
    case true =>
     have F:M6 (ZW 0 l=Nb):=by rw[H.out.1];exact afb fun h=>by have:=M2 h1;omega
     go_wp2;go_ret;exact⟨by rw[F.out];rfl,H.out.2⟩
    cases h2:Nn (12<=d)
    case true =>
     have F:M6 (ZW 0 l=Nb):=by rw[H.out.1];exact afb fun h=>by have:=M2 h2;omega
     go_wp2;go_ret;exact⟨by rw[F.out];rfl,H.out.2⟩
    cases h3:Nn (y<0)
    case true =>
     have F:M6 (ZW 0 l=Nb):=by rw[H.out.1];exact afb fun h=>by have:=M2 h3;have:=h.2.2.1;simp at this;omega
     go_wp2;go_ret;exact⟨by rw[F.out];rfl,H.out.2⟩
    cases h4:Nn (8<y)
    case true =>
     have F:M6 (ZW 0 l=Nb):=by rw[H.out.1];exact afb fun h=>by have:=M2 h4;have:=h.2.2.1;simp at this;omega
     go_wp2;go_ret;exact⟨by rw[F.out];rfl,H.out.2⟩
    cases h5:Nn (0<=u/\u<=40)
    case false =>
     have F:M6 (ZW 0 l=Nb):=by rw[H.out.1];exact afb fun h=>Nc h5 h.2.2.2
     go_wp2_with fail
     refine(aiv _ _).mono ?_;rw[h5];rintro r w' ⟨rfl,rfl⟩;go_wp2;go_ret;exact⟨by rw[F.out];rfl,H.out.2⟩
    have F:M6 (0<=d+1/\d+1<=12/\ZW 0 l=ZW (d+1) (l.drop (k+1))):=by
     have T:=Nc h1;have O:=Nc h2;have P:=Nc h3;have N:=Nc h4;refine⟨show 0<=d+1 by omega,show d+1<=12 by omega,?_⟩;rw[H.out.1];exact amv ⟨by omega,by omega,⟨by simp;omega,by simp;omega⟩,M2 h5⟩
    have J:-1000<=d:=by have:=Nc h1;omega
    have M:d<=1000:=by have:=Nc h2;omega
    go_wp2_with fail
    refine(aiv _ _).mono ?_;rw[h5];rintro r w' ⟨rfl,rfl⟩;go_wp2
    go_roundw
    case rel=>exact⟨k+1,d+1,by simp,rfl,hlt,⟨F.out.1,F.out.2.1⟩,F.out.2.2,H.out.2⟩
    case measure=>simp[On];omega
   ·obtain rfl:k=l.length:=by omega
    have F:M6 (ZW 0 l=Nw):=by rw[f,List.drop_length];rfl
    have G:M6 _:=e;clear s f e;go_wp2;go_ret;exact⟨by rw[F.out];rfl,G.out⟩
theorem ati(v:M7)(l:List Ld)(w:MO)(hv:aaR w v l)(hok:acv l) :
  Ni MK 269 #[v] w fun r w'=>r=MN (yB (Zf l))/\yA w w':=by
 obtain⟨a,S,rfl,P,E,y⟩:=hv.F6;unfold NE at E;clear hv;have Q:=hok.1;have A:=adD hok.2;go_enter Tryz.func269,Tryz.ntmps269;go_wp2
 go_loopw [3,8] (fun s i wr=>∃(k:Nat),i=yB k/\s=yB (Zf (l.take k))/\k<=l.length/\yA w wr) (fun _ i _=>l.length-(On i).toNat)
 case atStart=>exact⟨0,rfl,by simp[atg],Nx _,MY _ _⟩
 case round =>
  obtain⟨k,rfl,rfl,R,d⟩:=hrel
  by_cases hlt:k<l.length
  ·obtain⟨n,z,rfl,f,c1,c2,c3⟩:=y k hlt
   replace c1:=(d.cell (p:=⟨n,z+k*3,MH⟩) f).trans c1;replace c2:=(d.cell (p:=⟨n,z+k*3+1,MH⟩) f).trans c2;replace c3:=(d.cell (p:=⟨n,z+k*3+2,MH⟩) f).trans c3;have e:Zf (l.take (k+1))=Zf (l.take k)+l[k].2.1:=by rw[M9 hlt,ath]
   have o:=A l[k] (Nk hlt);obtain⟨G,D⟩:=agu (l.take k) fun x g=>A x (List.mem_of_mem_take g)
   have K:((l.take k).length:Int)<=12:=by rw[NH];omega
   obtain⟨⟨I,u,J⟩,g⟩:∃x,x=l[k]:=⟨_,rfl⟩;rw[<-g]at c1 c2 c3 e o;have M:0<=u:=o.1.1;have N:u<=8:=o.1.2;replace e:Zf (l.take (k+1))=Zf (l.take k)+u:=e;obtain⟨s,C⟩:=yE (Zf (l.take k));rw[<-C]at e G D⊢;have T:s<=96:=by omega
   have L:n<wr.heap.size:=M8 f d.size;have B:yA w (wr.alloc (MP #[yB I,yB u,yB J] 353)):=d.alloc d.size _;have H:M6 (_/\_):=⟨e,B⟩;clear e B C d g o y f D K;have O:(k:Int)<(l.length:Int):=by omega
   go_wp2
   go_roundw
   case rel=>exact⟨k+1,by simp,by rw[H.out.1],hlt,H.out.2⟩
   case measure=>simp[On];omega
  ·obtain rfl:k=l.length:=by omega
   have F:M6 _:=d;clear y d;rw[NT];go_wp2;go_ret;exact⟨rfl,F.out⟩
def adA(a b c t:Int)(x:Ld):Int:=if x.2.1=0 then 0 else agq a b c x.2.1 t
def aax(a b c:Int)(l:List Ld):List Int:=l.map (adA a b c (Zf l))
def aa3(l:List Ld)(a b c:Int):Int×List Int:=if abH l then if ab3 a b c then(0,aax a b c l)else(2,[])else(6,[])
def ami(o:Int×List Int)(w:MO)(r:Ending)(w':MO):Prop:=∃y,r=MN (Nv #[y,yB o.1])/\abE w' y o.2/\yA w w'
theorem as4(hok:acv l)(hf:ab3 a b c){x:Ld}(hx:x∈l)(h0:x.2.1≠0):ago a b c x.2.1 (Zf l):=by
 have e:=(adD hok.2 x hx).1;have d:=amz l (adD hok.2) x hx;have g:=agu l (adD hok.2);have f:=hok.1;exact⟨hf,by omega,d,by omega⟩
def ZI(m:List Int)(k:Nat):List Int:=m.take k++Nj (m.length-k) 0
theorem amm(m:List Int)(k:Nat)(h:k<=m.length):(ZI m k).length=m.length:=by
 simp[ZI];omega
theorem aml(m:List Int)(k:Nat)(h:k<m.length):(ZI m k)[k]'(by rw[amm m k (by omega)];exact h)=0:=by
 unfold ZI;rw[List.getElem_append_right (by simp;omega)];simp
theorem amn(m:List Int)(k:Nat)(h:k<m.length):(ZI m k).set k m[k]=ZI m (k+1):=by
 unfold ZI;rw[Pw _ _ (by simp;omega)];have e:k-(m.take k).length=0:=by simp;omega
 have d:m.length-k=(m.length-(k+1))+1:=by omega
 rw[e,d,List.replicate_succ,ML,M9 h,OC];rfl
theorem asX(m:List Int)(k:Nat)(h:k<m.length)(h0:m[k]=0):ZI m k=ZI m (k+1):=by
 rw[<-amn m k h,h0];have:=aml m k h;refine(PX (by simp) fun i h1 h2=>?_);rw[Pc]
 split
 ·subst_vars;exact this
 ·rfl
theorem asV{x:Int}(h:m[k]?=MI x):(ZI m k).set k x=ZI m (k+1):=by
 obtain⟨d,rfl⟩:=ZAb.1 h;exact amn m k d
theorem asW(h:m[k]?=MI 0):ZI m k=ZI m (k+1):=by
 obtain⟨d,e⟩:=ZAb.1 h;exact asX m k d e
theorem asT(m:List Int):ZI m m.length=m:=by simp[ZI]
theorem asU(m:List Int):ZI m 0=Nj m.length 0:=by simp[ZI]
theorem atb(n:Nat)(hn:n<=40)(W:MO):(Instr.makeSlice 276 (yB (n:Int)) (yB (n:Int))).run MK W=.ok (MG (MI ⟨W.heap.size,0,MH⟩) n n) (W.alloc (MP (WR (Nj n 0)).toArray 3)):=by
 obtain⟨p,o,f,d,g⟩:=OF adB;have h:=run_makeSlice (P:=MK) W 276 3 p _ Tryz.underlying276 o f ME ME n n (by omega) (by omega) (by rw[d];omega) (by rw[g];omega) (by omega);have e:madeCells (yB 0).cells (n*1)=(WR (Nj n 0)).toArray:=by
  rw[P6];apply Array.toList_inj.1;exact(toList_madeCells_one (yB 0) n).trans (by simp[WR])
 rw[h,d,NR,e]
theorem asY(v:M7)(l:List Ld)(a b c:Int)(w:MO)(hv:aaR w v l) :
  Ni MK 214 #[v,yB a,yB b,yB c] w (ami (aa3 l a b c) w):=by
 obtain⟨p,ca,rfl,b5,a6,_⟩:=hv.F6;have B:M6 (_/\True):=⟨hv,trivial⟩;clear hv;unfold NE at a6;cases hok:abH l
 ·have n:aa3 l a b c=(6,[]):=by unfold aa3;rw[hok,Nf PE]
  rw[n];clear n;go_enter ZqC,Sz
  go_wp2_with fail
  refine(aix _ l _ B.out.1).mono ?_;rw[hok];rintro r w1 ⟨rfl,d⟩;have s:M6 _:=d;clear d;go_wp2
  go_ret2
  exact⟨_,rfl,amq _,s.out⟩
 cases hf:Nn (ab3 a b c)
 ·have n:aa3 l a b c=(2,[]):=by unfold aa3;rw[Nh hok,Nf (Nc hf)]
  rw[n];clear n;go_enter ZqC,Sz
  go_wp2_with fail
  refine(aix _ l _ B.out.1).mono ?_;rw[hok];rintro r w1 ⟨rfl,d⟩;have s:M6 _:=d;clear d
  go_wp2_with fail
  refine(aiy _ _ _ _).mono ?_;rw[hf];rintro r g ⟨rfl,rfl⟩;go_wp2
  go_ret2
  exact⟨_,rfl,amq _,s.out⟩
 have n:aa3 l a b c=(0,aax a b c l):=by unfold aa3;rw[Nh hok,Nh (M2 hf)]
 rw[n];have b0:=(afa.1 hok).1;have Q:M6 (acv l/\ab3 a b c):=⟨afa.1 hok,M2 hf⟩;have A:=atb l.length (by omega);obtain⟨Z,O⟩:=yE ((WR (Nj l.length 0)).toArray);rw[<-O]at A;have HZ:M6 _:=O;clear O n;go_enter ZqC,Sz
 go_wp2_with fail
 refine(aix _ l _ B.out.1).mono ?_;rw[hok];rintro r w1 ⟨rfl,d⟩;have s:M6 _:=d;clear d
 go_wp2_with fail
 refine(aiy _ _ _ _).mono ?_;rw[hf];rintro r g ⟨rfl,rfl⟩;clear hok hf
 go_wp2_with fail
 refine(ati _ l _ (B.out.1.below s.out) Q.out.1).mono ?_;rintro r g ⟨rfl,S⟩;have J:M6 _:=s.out.trans (S.mono s.out.size);clear S s;obtain⟨t,F⟩:=yE (Zf l);rw[<-F];obtain⟨m,D⟩:=yE (aax a b c l);have U:m.length=l.length:=by rw[D];simp[aax]
 have R:∀k (h:k<l.length),m[k]?=MI (adA a b c t l[k]):=fun k h=>by
  subst D F;simp[aax,h]
 have f:M6 (_/\_/\_/\_):=⟨F,D,U,R⟩;clear F D U R
 go_wp2;obtain⟨E,C⟩:=yE (g.alloc (MP Z 3));have T:yA g E:=by rw[C];exact ab5 _
 have a0:Xj 3 l.length E g.heap.size (ZI m 0):=by rw[C,HZ.out,asU,f.out.2.2.1];exact⟨M1 _ _,by simp⟩
 rw[<-C];have N:M6 (_/\_/\_):=⟨a0,J.out.trans (T.mono J.out.size),J.out.size⟩;clear a0 T C A J
 go_loopw [31] (fun i wr=>∃(k:Nat),i=yB k/\k<=l.length/\Xj 3 l.length wr g.heap.size (ZI m k)/\yA w wr) (fun i _=>l.length-(On i).toNat)
 case atStart=>exact⟨0,rfl,Nx _,N.out.1,N.out.2.1⟩
 case round =>
  obtain⟨k,rfl,hk,o,e⟩:=hrel
  by_cases hlt:k<l.length
  ·obtain⟨_,_,K,_,_,pa⟩:=B.out.1.F6
   obtain⟨I,P,rfl,d,c1,c2,c3⟩:=(by injection K with K;subst K;exact pa k hlt:∃b off,p=some ⟨b,off,none⟩/\b<w.heap.size/\w.cell? ⟨b,off+k*3,none⟩=some (.int .i64 l[k].1)/\w.cell? ⟨b,off+k*3+1,none⟩=some (.int .i64 l[k].2.1)/\w.cell? ⟨b,off+k*3+2,none⟩=some (.int .i64 l[k].2.2));clear pa K;replace c1:=(e.cell (p:=⟨I,P+k*3,MH⟩) d).trans c1;replace c2:=(e.cell (p:=⟨I,P+k*3+1,MH⟩) d).trans c2;replace c3:=(e.cell (p:=⟨I,P+k*3+2,MH⟩) d).trans c3;have A:m[k]?=MI (adA a b c t l[k]):=f.out.2.2.2 k hlt;have y:l[k].2.1≠0->ago a b c l[k].2.1 t:=fun h0=>by rw[f.out.1];exact as4 Q.out.1 Q.out.2 (Nk hlt) h0
   obtain⟨⟨x1,u,x3⟩,hx⟩:∃x,x=l[k]:=⟨_,rfl⟩;rw[<-hx]at c1 c2 c3 A y;have a9:I<wr.heap.size:=M8 d e.size;have hg:=o.lt;have a7:=o.F7 k (by rw[amm m k (by rw[f.out.2.2.1];omega),f.out.2.2.1];exact hlt);rw[aml m k (by rw[f.out.2.2.1];exact hlt)]at a7;have b6:=o.Gu k;have V:yA w (wr.alloc (MP #[yB x1,yB u,yB x3] 353)):=e.alloc e.size _;have Y:Xj 3 l.length (wr.alloc (MP #[yB x1,yB u,yB x3] 353)) g.heap.size (ZI m k):=o.below (ab5 _);have b7:(k:Int)<(l.length:Int):=by omega
   have H:M6 (_/\_/\_/\_/\_/\_):=⟨Y,V,A,y,o,e⟩;clear Y V A hx o e d y;cases h0:(u == 0)
   ·have z:u≠0:=by simpa using h0
    have y:=H.out.2.2.2.1 z;have G:M6 (m[k]?=MI (agq a b c u t)):=by
     rw[H.out.2.2.1];unfold adA;rw[Nf z];rfl
    clear z;have a5:M6 (_/\True):=⟨y,trivial⟩;clear y
    go_wp2_with fail
    refine(asS _ _ _ _ _ _ a5.out.1).mono ?_;rintro r w' ⟨rfl,rfl⟩;obtain⟨L,M⟩:=yE (agq a b c u t);rw[<-M];have a8:M6 _:=M;clear M;go_wp2
    go_roundw
    case rel =>
     have h1:=H.out.2.2.2.2.1.F4 k L;rw[asV (by rw[a8.out];exact G.out)]at h1;have h2:yA w (wr.setCell ⟨g.heap.size,k,MH⟩ (yB L)):=H.out.2.2.2.2.2.setCell (by exact N.out.2.2) _;exact⟨k+1,by simp,hlt,h1.below (ab5 _),h2.alloc h2.size _⟩
    case measure=>simp[On];omega
   ·have z:u=0:=by simpa using h0
    have G:M6 (m[k]?=MI 0):=by
     rw[H.out.2.2.1];unfold adA;rw[Nh z];rfl
    subst z;clear h0;go_wp2
    go_roundw
    case rel=>exact⟨k+1,by simp,hlt,by rw[<-asW G.out];exact H.out.1,H.out.2.1⟩
    case measure=>simp[On];omega
  ·obtain rfl:k=l.length:=by omega
   have H:M6 (_/\_):=⟨o,e⟩;clear o e;go_wp2
   go_ret2
   refine⟨_,rfl,?_,H.out.2⟩;have:=H.out.1.Jc (by omega);rw[<-f.out.2.2.1,asT]at this;rw[<-f.out.2.1];rw[f.out.2.2.1]at this;exact this
abbrev Zn:Ld:=(0,0,0)
def Yx(q:Ld->Bool):List Ld->Option Nat
 | []=>MH
 |t::l=>if q t then MI 0 else(Yx q l).map (·+1)
theorem ait{q:Ld->Bool}:∀ {l:List Ld},(∀t∈l,q t=Nb)->Yx q l=MH
 | [],_=>rfl
 |t::l,h=>by
  unfold Yx;rw[h t (by simp),ait (l:=l) fun x hx=>h x (by simp[hx])];rfl
theorem aiu{q:Ld->Bool}:∀ {l:List Ld} {k:Nat} (hk:k<l.length),(∀t∈l.take k,q t=Nb)->q l[k]=Nw->Yx q l=MI k
 |t::l,0,_,_,h=>by
  unfold Yx;rw[Nh (by simpa using h)]
 |t::l,k+1,hk,h1,h2=>by
  unfold Yx;rw[Nf (by rw[h1 t (by simp)];simp),aiu (l:=l) (k:=k) (by simpa using hk) (fun x hx=>h1 x (by simp[hx])) (by simpa using h2)];rfl
theorem agr{q:Ld->Bool}:∀ {l:List Ld} {k:Nat},Yx q l=MI k->∃hk:k<l.length,q l[k]=Nw
 | [],k,h=>by simp[Yx]at h
 |t::l,k,h=>by
  unfold Yx at h
  split at h
  case isTrue h1=>injection h with h;subst h;exact⟨by simp,h1⟩
  case isFalse h1 =>
   cases h2:Yx q l with
   |none=>rw[h2]at h;cases h
   |some j =>
    rw[h2]at h;injection h with h;subst h;obtain⟨e,d⟩:=agr h2;exact⟨by simpa using e,by simpa using d⟩
theorem amo{q:Ld->Bool}:∀ {l:List Ld},Yx q l=MH->∀t∈l,q t=Nb
 | [],_,t,d=>by simp at d
 |x::l,h,t,d=>by
  unfold Yx at h
  split at h
  case isTrue h1=>cases h
  case isFalse h1 =>
   cases h2:Yx q l with
   |none =>
    rcases OO.1 d with rfl|d
    ·simpa using h1
    ·exact amo h2 t d
   |some j=>rw[h2]at h;cases h
def Zw(x:Ld):Bool:=x.2.1 != 0
def aa4(b:Int)(x:Ld):Bool:=(x.1 == b) && (x.2.1 != 0)
def YJ(l:List Ld)(m:List Int)(i:Nat):Bool:=Nn ((l.getD i Zn).2.2<m.getD i 0)
def Zm(l:List Ld)(m:List Int):List Int->Nat->Option Nat
 | [],_=>MH
 |b::ws,t=>match Yx (aa4 b) l with
  |none=>Zm l m ws t
  |some i=>if t=0 then MH else if YJ l m i then MI i else Zm l m ws (t-1)
theorem agp{l:List Ld}{m:List Int}:∀ {ws:List Int} {t:Nat} {i:Nat},Zm l m ws t=MI i->i<l.length/\YJ l m i=Nw/\Zw (l.getD i Zn)=Nw
 | [],t,i,h=>by cases h
 |b::ws,t,i,h=>by
  unfold Zm at h;cases h1:Yx (aa4 b) l with
  |none=>rw[h1]at h;exact agp h
  |some j =>
   rw[h1]at h;simp only at h
   split at h
   ·cases h
   ·split at h
    case isTrue h2 =>
     injection h with h;subst h;obtain⟨e,d⟩:=agr h1;refine⟨e,h2,?_⟩;unfold aa4 at d;rw[Po]at d;unfold Zw
     simpa [e]using d.2
    ·exact agp h
def acx(l:List Ld)(i j:Nat):Bool:=Nn ((l.getD i Zn).2.2*(l.getD j Zn).2.1<(l.getD j Zn).2.2*(l.getD i Zn).2.1)
def Yp(l:List Ld)(m:List Int):Nat->Option Nat
 |0=>MH
 |k+1=>if YJ l m k && (match Yp l m k with|none=>Nw|some j=>acx l k j)then MI k else Yp l m k
abbrev aed(l:List Ld)(m:List Int)(lo hi:Nat)(o:Option Nat):Prop:=match o with
 |none=>∀j,lo<=j->j<hi->YJ l m j=Nb
 |some i=>(lo<=i/\i<hi/\YJ l m i=Nw)/\∀j,lo<=j->j<hi->YJ l m j=Nw ->
   (j<i->(l.getD i Zn).2.2*(l.getD j Zn).2.1<(l.getD j Zn).2.2*(l.getD i Zn).2.1)/\(i<=j->(l.getD i Zn).2.2*(l.getD j Zn).2.1<=(l.getD j Zn).2.2*(l.getD i Zn).2.1)
theorem as1{a1 w1 a2 w2 a3 w3:Int}(p1:0<w1)(p2:0<w2)(p3:0<w3)(h1:a1*w2<a2*w1)(h2:a2*w3<=a3*w2):a1*w3<a3*w1:=by
 have g:a1*w2*w3<a2*w1*w3:=Int.mul_lt_mul_of_pos_right h1 p3;have n:a2*w3*w1<=a3*w2*w1:=Int.mul_le_mul_of_nonneg_right h2 (by omega);have f:a2*w1*w3=a2*w3*w1:=Rx _ _ _;have d:a1*w2*w3=a1*w3*w2:=Rx _ _ _;have e:a3*w2*w1=a3*w1*w2:=Rx _ _ _;exact Int.lt_of_mul_lt_mul_right (a:=w2) (by omega) (by omega)
section
variable {l:List Ld}{m:List Int}
abbrev ae8(l:List Ld)(m:List Int):Prop:=∀j,YJ l m j=Nw->0<(l.getD j Zn).2.1
theorem amk(hw:ae8 l m){o:Option Nat}(h:aed l m 0 k o)(h1:YJ l m k=Nw)(h2:∀j,o=MI j->acx l k j=Nw):aed l m 0 (k+1) (MI k):=by
 refine⟨⟨Nx _,by omega,h1⟩,fun j _ hj hr=>⟨fun hlt=>?_,fun hge=>?_⟩⟩
 ·cases o with
  |none =>
   have:=h j (Nx _) hlt;rw[this]at hr;cases hr
  |some i =>
   have n:=M2 (h2 i rfl);obtain⟨⟨_,p,f⟩,g⟩:=h;have e:=g j (Nx _) hlt hr;refine as1 (hw k h1) (hw i f) (hw j hr) n ?_;rcases Oq j i with d|d
   ·exact Int.le_of_lt (e.1 d)
   ·exact e.2 d
 ·obtain rfl:j=k:=by omega
  exact Qh _
theorem amj{o:Option Nat}(h:aed l m 0 k o)(h1:YJ l m k=Nb\/∃j,o=MI j/\acx l k j=Nb):aed l m 0 (k+1) o:=by
 cases o with
 |none =>
  intro j _ p;rcases Oq j k with d|g
  ·exact h j (Nx _) d
  ·obtain rfl:j=k:=by omega
   rcases h1 with h1|⟨_,e,_⟩
   ·exact h1
   ·cases e
 |some i =>
  obtain⟨⟨_,r,f⟩,n⟩:=h;refine⟨⟨Nx _,by omega,f⟩,fun j _ p hr=>?_⟩;rcases Oq j k with d|g
  ·exact n j (Nx _) d hr
  ·obtain rfl:j=k:=by omega
   refine⟨fun _=>by omega,fun _=>?_⟩;rcases h1 with h1|⟨q,e,h1⟩
   ·rw[h1]at hr;cases hr
   ·injection e with e
    subst e;have:=Nc h1;omega
theorem ais(hw:ae8 l m):∀k,aed l m 0 k (Yp l m k)
 |0=>fun _ _ h=>by omega
 |k+1=>by
  have d:=ais hw k;unfold Yp;cases h1:YJ l m k
  ·rw[Bool.false_and,Nf PE]
   exact amj d (Nt h1)
  ·rw[Bool.true_and]
   cases h2:Yp l m k with
   |none =>
    rw[h2]at d;rw[Nh rfl];exact amk hw d h1 (fun j e=>by cases e)
   |some i =>
    rw[h2]at d;show aed l m 0 (k+1) (if acx l k i=Nw then MI k else MI i)
    by_cases h3:acx l k i=Nw
    ·rw[Nh h3]
     exact amk hw d h1 (fun j e=>by injection e with e;subst e;exact h3)
    ·rw[Nf h3]
     exact amj d (NF ⟨i,rfl,by simpa using h3⟩)
end
def acw(l:List Ld)(m:List Int)(ws:List Int)(t:Nat):Option Nat:=match Zm l m ws t with
 |some i=>MI i
 |none=>Yp l m l.length
def abF(l:List Ld)(o:Option Nat):Int×Int:=match o with
 |some i=>((l.getD i Zn).1,0)
 |none=>(0,9)
def ab6(ws:List Int)(l:List Ld)(a b c t:Int):Int×Int :=
 if abH l then if ab3 a b c then
  if 0<=t/\t<=12/\ws.length<=12 then
   if l.any Zw then abF l (acw l (aax a b c l) ws t.toNat)else(0,11)
  else(0,2)
 else(0,2)else(0,6)
theorem asZ(a b c:Int)(l:List Ld)(i:Nat):(aax a b c l).getD i 0=if h:i<l.length then adA a b c (Zf l) l[i]else 0:=by
 unfold aax
 split
 case isTrue h=>simp[h]
 case isFalse h=>simp[Nz (Nat.le_of_not_lt h)]
theorem amw(hok:acv l):ae8 l (aax a b c l):=by
 intro j g;have d:=M2 g;rw[asZ]at d
 split at d
 case isTrue h =>
  have f:=adD hok.2 l[j] (Nk h);have e:l.getD j Zn=l[j]:=by simp[h]
  rw[e]at d⊢;unfold adA at d
  split at d
  case isTrue h0=>have:=f.2.1;omega
  case isFalse h0=>have:=f.1.1;omega
 case isFalse h =>
  have e:l.getD j Zn=Zn:=by simp[Nz (Nat.le_of_not_lt h)]
  rw[e]at d;simp[Zn]at d
theorem asN{ws:List Int}{t:Nat}(h:Yp l m l.length=MI i)(hw:ae8 l m):i<l.length/\YJ l m i=true:=by
 have:=ais hw l.length;rw[h]at this;exact⟨this.1.2.1,this.1.2.2⟩
theorem amy(x1 x2 x3:Int)(w:MO) :
  Ni MK 216 #[Ny #[yB x1,yB x2,yB x3]] w fun r w'=>r=MN (M3 (Zw (x1,x2,x3)))/\yA w w':=by
 have d:Zw (x1,x2,x3)=(x2 != 0):=rfl;obtain⟨f,e⟩:=yE (Zw (x1,x2,x3));rw[<-e]at d⊢;have H:M6 _:=d;clear d e;go_enter Tryz.func216,Tryz.ntmps216;go_wp2;go_ret;exact⟨by rw[H.out];rfl,ab5 w⟩
theorem atc(x1 x2 x3 bk:Int)(g:Nat)(w:MO)(hc:w.cell? ⟨g,0,MH⟩=MI (yB bk)) :
  Ni MK 272 #[Ny #[yB x1,yB x2,yB x3],Na (MI ⟨g,0,MH⟩)] w fun r w'=>r=MN (M3 (aa4 bk (x1,x2,x3)))/\yA w w':=by
 have p:g<w.heap.size:=MX w ⟨g,0,MH⟩ hc;have e:aa4 bk (x1,x2,x3)=((x1 == bk) && Zw (x1,x2,x3)):=rfl;obtain⟨d,f⟩:=yE (aa4 bk (x1,x2,x3));rw[<-f]at e⊢;have H:M6 _:=e;clear e f;cases h:(x1 == bk)
 ·have E:M6 (d=Nb):=by rw[H.out,h];rfl
  clear H;go_enter Tryz.func272,Tryz.ntmps272;go_wp2;go_ret;exact⟨by rw[E.out];rfl,ab5 w⟩
 ·have E:M6 (d=Zw (x1,x2,x3)):=by rw[H.out,h];rfl
  obtain rfl:x1=bk:=by simpa using h
  clear H h;go_enter Tryz.func272,Tryz.ntmps272
  go_wp2_with fail
  refine(amy _ _ _ _).mono ?_;rw[<-E.out];rintro r s ⟨rfl,n⟩;have o:M6 _:=(ab5 w).trans (n.mono (by simp));clear n;go_wp2;go_ret;exact⟨rfl,o.out⟩
theorem as6(v:M7)(l:List Ld)(w:MO)(hv:aaR w v l) :
  Ni MK 271 #[v,PB (PD 216) #[] #[]] w fun r w'=>r=MN (yB (Yn (Yx Zw l)))/\yA w w':=by
 obtain⟨q,E⟩:=yE Zw;obtain⟨a,Y,rfl,U,N,I⟩:=hv.F6;unfold NE at N;have M:M6 (∀(e g f:Int) (W:MO),Ni MK 216 #[Ny #[yB e,yB g,yB f]] W fun r w'=>r=MN (M3 (q (e,g,f)))/\yA W w'):=by rw[E];exact fun e g f W=>amy e g f W
 rw[<-E];obtain⟨o,B⟩:=yE (Yn (Yx q l));rw[<-B];have H:M6 _:=B;clear hv B E;go_enter Tryz.func271,Tryz.ntmps271;go_wp2
 go_loopw [8] (fun i wr=>∃k:Nat,i=yB k/\k<=l.length/\(∀t∈l.take k,q t=Nb)/\yA w wr) (fun i _=>l.length-(On i).toNat)
 case atStart=>exact⟨0,rfl,Nx _,by simp,MY _ _⟩
 case round =>
  obtain⟨k,rfl,V,s,n⟩:=hrel
  by_cases hlt:k<l.length
  ·obtain⟨G,F,rfl,A,c1,c2,c3⟩:=I k hlt
   have S:=(n.cell (p:=⟨G,F+k*3,MH⟩) A).trans c1;have O:=(n.cell (p:=⟨G,F+k*3+1,MH⟩) A).trans c2;have P:=(n.cell (p:=⟨G,F+k*3+2,MH⟩) A).trans c3;have y:M6 (_/\_):=⟨s,n⟩;have T:(k:Int)<(l.length:Int):=by omega
   have D:l.take (k+1)=l.take k++[l[k]]:=M9 hlt;have C:q l[k]=Nw->Yx q l=MI k:=fun h=>aiu hlt s h
   have z:∃x,x=l[k]:=⟨_,rfl⟩;obtain⟨⟨e,g,f⟩,z⟩:=z;rw[<-z]at S O P D C;have L:M6 (_/\_):=⟨D,C⟩;clear s n c1 c2 c3 A I D C z;cases hd:q (e,g,f)
   ·go_wp2_with fail
    refine(M.out e g f _).mono ?_;rw[hd];rintro r R ⟨rfl,u⟩;have J:M6 _:=u;clear u;go_wp2
    go_roundw
    case rel =>
     refine⟨k+1,by simp,hlt,fun t d=>?_,y.out.2.trans (J.out.mono y.out.2.size)⟩;rw[L.out.1]at d;rcases QF.1 d with d|d
     ·exact y.out.1 t d
     ·simp at d
      rw[d];exact hd
    case measure=>simp[On];omega
   ·go_wp2_with fail
    refine(M.out e g f _).mono ?_;rw[hd];rintro r R ⟨rfl,u⟩;have K:M6 (o=(k:Int)):=by show o=_;rw[H.out,L.out.2 hd];rfl
    have J:M6 _:=u;clear u;go_wp2;go_ret;exact⟨by rw[K.out];rfl,y.out.2.trans (J.out.mono y.out.2.size)⟩
  ·have K:M6 (o = -1):=by
    show o=_;rw[H.out,ait fun t d=>s t (by rw[N1 (by omega)];exact d)];rfl
   have Q:M6 _:=n;clear s n I;go_wp2;go_ret;exact⟨by rw[K.out];rfl,Q.out⟩
theorem as5(v:M7)(l:List Ld)(bk:Int)(g:Nat)(w:MO)(hv:aaR w v l)(hc:w.cell? ⟨g,0,MH⟩=MI (yB bk)) :
  Ni MK 271 #[v,PB (PD 272) #[] #[Na (MI ⟨g,0,MH⟩)]] w fun r w'=>r=MN (yB (Yn (Yx (aa4 bk) l)))/\yA w w':=by
 obtain⟨q,F⟩:=yE (aa4 bk);obtain⟨a,ca,rfl,Y,P,J⟩:=hv.F6;unfold NE at P;have O:=MX w ⟨g,0,MH⟩ hc;have N:M6 (∀(e n f:Int) (W:MO),yA w W->Ni MK 272 #[Ny #[yB e,yB n,yB f],Na (MI ⟨g,0,MH⟩)] W fun r w'=>r=MN (M3 (q (e,n,f)))/\yA W w'):=by
  rw[F];exact fun e n f W hb=>atc e n f bk g W ((hb.cell (p:=⟨g,0,MH⟩) O).trans hc)
 rw[<-F];obtain⟨u,C⟩:=yE (Yn (Yx q l));rw[<-C];have H:M6 _:=C;clear hv C F hc;go_enter Tryz.func271,Tryz.ntmps271;go_wp2
 go_loopw [8] (fun i wr=>∃k:Nat,i=yB k/\k<=l.length/\(∀t∈l.take k,q t=Nb)/\yA w wr) (fun i _=>l.length-(On i).toNat)
 case atStart=>exact⟨0,rfl,Nx _,by simp,MY _ _⟩
 case round =>
  obtain⟨k,rfl,Z,y,o⟩:=hrel
  by_cases hlt:k<l.length
  ·obtain⟨I,G,rfl,B,c1,c2,c3⟩:=J k hlt
   have U:=(o.cell (p:=⟨I,G+k*3,MH⟩) B).trans c1;have Q:=(o.cell (p:=⟨I,G+k*3+1,MH⟩) B).trans c2;have R:=(o.cell (p:=⟨I,G+k*3+2,MH⟩) B).trans c3;have s:M6 (_/\_):=⟨y,o⟩;have V:(k:Int)<(l.length:Int):=by omega
   have E:l.take (k+1)=l.take k++[l[k]]:=M9 hlt;have D:q l[k]=Nw->Yx q l=MI k:=fun h=>aiu hlt y h
   have A:∃x,x=l[k]:=⟨_,rfl⟩;obtain⟨⟨e,n,f⟩,A⟩:=A;rw[<-A]at U Q R E D;have M:M6 (_/\_):=⟨E,D⟩;clear y o c1 c2 c3 B J E D A;cases hd:q (e,n,f)
   ·go_wp2_with fail
    refine(N.out e n f _ s.out.2).mono ?_;rw[hd];rintro r T ⟨rfl,z⟩;have K:M6 _:=z;clear z;go_wp2
    go_roundw
    case rel =>
     refine⟨k+1,by simp,hlt,fun t d=>?_,s.out.2.trans (K.out.mono s.out.2.size)⟩;rw[M.out.1]at d;rcases QF.1 d with d|d
     ·exact s.out.1 t d
     ·simp at d
      rw[d];exact hd
    case measure=>simp[On];omega
   ·go_wp2_with fail
    refine(N.out e n f _ s.out.2).mono ?_;rw[hd];rintro r T ⟨rfl,z⟩;have L:M6 (u=(k:Int)):=by show u=_;rw[H.out,M.out.2 hd];rfl
    have K:M6 _:=z;clear z;go_wp2;go_ret;exact⟨by rw[L.out];rfl,s.out.2.trans (K.out.mono s.out.2.size)⟩
  ·have L:M6 (u = -1):=by
    show u=_;rw[H.out,ait fun t d=>y t (by rw[N1 (by omega)];exact d)];rfl
   have S:M6 _:=o;clear y o J;go_wp2;go_ret;exact⟨by rw[L.out];rfl,S.out⟩
theorem as3:l.any Zw=Nn (0<=Yn (Yx Zw l)):=by
 cases h:Yx Zw l with
 |none =>
  rw[show l.any Zw=Nb from List.any_eq_false.2 fun x hx=>by simp[amo h x hx]];rfl
 |some k =>
  obtain⟨d,e⟩:=agr h;rw[show l.any Zw=Nw from List.any_eq_true.2 ⟨l[k],Nk d,e⟩];exact(Nq (show(0:Int)<=Yn (MI k)from Int.natCast_nonneg k)).symm
theorem as0(v:M7)(l:List Ld)(w:MO)(hv:aaR w v l) :
  Ni MK 215 #[v,PB (PD 216) #[] #[]] w fun r w'=>r=MN (M3 (l.any Zw))/\yA w w':=by
 obtain⟨a,s,rfl,_,_,_⟩:=hv.F6;have d:M6 (_/\_):=⟨hv,as3 (l:=l)⟩;clear hv;obtain⟨f,e⟩:=yE (l.any Zw);rw[<-e]at d⊢;clear e;go_enter Tryz.func215,Tryz.ntmps215
 go_wp2_with fail
 refine(as6 _ l _ d.out.1).mono ?_;obtain⟨i,n⟩:=yE (Yn (Yx Zw l));rw[<-n]at d⊢;clear n;rintro r p ⟨rfl,g⟩;have o:M6 _:=g;clear g;go_wp2;go_ret;exact⟨by rw[d.out.2];rfl,o.out⟩
def adz(w:MO)(gl gc:Nat)(v u:M7)(l:List Ld)(m:List Int):Prop :=
 w.cell? ⟨gl,0,MH⟩=MI v/\w.cell? ⟨gc,0,MH⟩=MI u/\aaR w v l/\abE w u m
theorem adz.below{gl gc:Nat}{u:M7}(h:adz w gl gc v u l m)(hb:yA w w'):adz w' gl gc v u l m :=
 ⟨(hb.cell (p:=⟨gl,0,MH⟩) (MX w ⟨gl,0,MH⟩ h.1)).trans h.1,(hb.cell (p:=⟨gc,0,MH⟩) (MX w ⟨gc,0,MH⟩ h.2.1)).trans h.2.1,h.2.2.1.below hb,h.2.2.2.below hb⟩
theorem amx(i:Nat)(gl gc:Nat)(v u:M7)(l:List Ld)(m:List Int)(w:MO)(he:adz w gl gc v u l m)(hml:m.length=l.length)(hi:i<l.length) :
  Ni MK 217 #[yB (i:Int),Na (MI ⟨gl,0,MH⟩),Na (MI ⟨gc,0,MH⟩)] w fun r w'=>r=MN (M3 (YJ l m i))/\yA w w':=by
 obtain⟨F,I,g,o⟩:=he;obtain⟨p,c,rfl,H,z,d⟩:=g.F6;obtain⟨K,c2,rfl,C,x,n⟩:=o.F6;obtain⟨L,J,rfl,y,_,_,D⟩:=d i hi;obtain⟨G,M,rfl,s,E⟩:=n i (by omega);unfold NE at z x;have e:YJ l m i=Nn (l[i].2.2<m[i]'(by omega)):=by
  unfold YJ;simp[hi,show i<m.length by omega]
 rw[e];generalize l[i].2.2=f at *;generalize (m[i]'(by omega))=cp at *;have A:(i:Int)<(l.length:Int):=by omega
 have B:(i:Int)<(m.length:Int):=by omega
 clear e d n g o y s hml;go_enter RZ,RM;go_wp2
 go_region
 go_wp2;go_ret;exact⟨rfl,(MY _ _).drew⟩
theorem asQ(hk:k<ws.length)(h:Yx (aa4 ws[k]) l=MH):Zm l m (ws.drop k) t=Zm l m (ws.drop (k+1)) t:=by
 rw[OK hk,Zm,h]
theorem asR(hk:k<ws.length)(h:Yx (aa4 ws[k]) l=MI i):Zm l m (ws.drop k) 0=none:=by
 rw[OK hk,Zm,h];simp
theorem asO(hk:k<ws.length)(h:Yx (aa4 ws[k]) l=MI i)(ht:t≠0)(hr:YJ l m i=Nw):Zm l m (ws.drop k) t=MI i:=by
 rw[OK hk,Zm,h];simp[ht,hr]
theorem asP(hk:k<ws.length)(h:Yx (aa4 ws[k]) l=MI i)(hr:YJ l m i=Nb):Zm l m (ws.drop k) (t+1)=Zm l m (ws.drop (k+1)) t:=by
 rw[OK hk,Zm,h];simp[hr]
theorem asM(y v u:M7)(ws:List Int)(l:List Ld)(m:List Int)(t gl gc:Nat)(w:MO)(hy:abE w y ws)(he:adz w gl gc v u l m)(hml:m.length=l.length)(ht:t<=12) :
  Ni MK 218 #[y,v,yB (t:Int),PB (PD 217) #[] #[Na (MI ⟨gl,0,MH⟩),Na (MI ⟨gc,0,MH⟩)]] w fun r w'=>r=MN (yB (Yn (Zm l m ws t)))/\yA w w':=by
 obtain⟨py,cy,rfl,a5,a0,Z⟩:=hy.F6;obtain⟨pv,cv,rfl,_,_,_⟩:=he.2.2.1.F6;unfold NE at a0;obtain⟨g,e⟩:=yE (Zm l m ws t);rw[<-e];have C:M6 (_/\_/\_):=⟨he,hml,Z⟩;have HA:M6 _:=e;clear he hml Z hy e;go_enter Tryz.func218,Tryz.ntmps218;go_wp2
 go_step3
 go_wp2
 go_step3
 go_wp2
 go_loopw [2,9,15] (fun s f i wr=>∃(k n:Nat),i=yB k/\s=yB (n:Int)/\f=yB (-1)/\k<=ws.length/\n<=12/\g=Zm l m (ws.drop k) n/\yA w wr) (fun _ _ i _=>ws.length-(On i).toNat)
 case atStart=>exact⟨0,t,rfl,rfl,rfl,Nx _,ht,by rw[HA.out];rfl,MY _ _⟩
 case round =>
  obtain⟨k,n,rfl,rfl,rfl,hk,hn,e,z⟩:=hrel
  by_cases hlt:k<ws.length
  ·obtain⟨Y,o1,rfl,I,c1⟩:=C.out.2.2 k hlt
   replace c1:=(z.cell (p:=⟨Y,o1+k,MH⟩) I).trans c1;have a7:Y<wr.heap.size:=M8 I z.size;have a6:(k:Int)<(ws.length:Int):=by omega
   have M:=fun h=>asQ (l:=l) (m:=m) (t:=n) hlt h
   have K:=fun i h=>asR (l:=l) (m:=m) (i:=i) hlt h
   have H:=fun i h=>asO (l:=l) (m:=m) (t:=n) (i:=i) hlt h
   have L:=fun i j h=>asP (l:=l) (m:=m) (t:=j) (i:=i) hlt h
   obtain⟨x,V⟩:=yE (ws[k]);rw[<-V]at c1 M K H L;obtain⟨G,F⟩:=yE (wr.alloc (MP #[yB x] 3));have S:yA wr G:=by rw[F];exact ab5 _
   have T:G.cell? ⟨wr.heap.size,0,MH⟩=MI (yB x):=by rw[F];exact(MW _ wr.heap.size 0 _ 3 (0,0) (M1 wr _)).trans rfl
   have J:=z.trans (S.mono z.size);have U:=C.out.1.below J;have B:M6 (_/\_/\_/\_):=⟨F,T,J,U⟩;have o:M6 (_/\_/\_/\_/\_):=⟨M,K,H,L,e⟩;clear M K H L V F S T J U z I e
   go_wp2_with fail
   rw[<-B.out.1];refine(as5 _ l x wr.heap.size _ B.out.2.2.2.2.2.1 B.out.2.1).mono ?_;cases hf:Yx (aa4 x) l with
   |none =>
    rintro r P ⟨rfl,D⟩;have d:M6 (yA w P/\g=Zm l m (ws.drop (k+1)) n):=⟨B.out.2.2.1.trans (D.mono B.out.2.2.1.size),by rw[o.out.2.2.2.2];exact o.out.1 hf⟩;clear D hf;rw[show Yn MH = -1 from rfl];go_wp2
    go_roundw
    case rel=>exact⟨k+1,n,by simp,rfl,rfl,hlt,hn,d.out.2,d.out.1⟩
    case measure=>simp[On];omega
   |some i =>
    rintro r P ⟨rfl,D⟩;have d:M6 (yA w P):=B.out.2.2.1.trans (D.mono B.out.2.2.1.size);have R:=(agr hf).1;have O:M6 _:=hf;clear D hf;rw[show Yn (MI i)=(i:Int)from rfl];have a9:¬((i:Int)<0):=by omega
    cases n with
    |zero =>
     have A:M6 (g=MH):=by rw[o.out.2.2.2.2];exact o.out.2.1 i O.out
     go_wp2;rw[Sb];go_ret;exact⟨by rw[A.out];rfl,d.out⟩
    |succ n =>
     have a8:(((n+1:Nat):Int) == 0)=false:=by rw[Oh];omega
     cases hr:YJ l m i
     ·have A:M6 (g=Zm l m (ws.drop (k+1)) n):=by rw[o.out.2.2.2.2];exact o.out.2.2.2.1 i n O.out hr
      go_wp2_with fail
      refine(amx i gl gc _ u l m _ (C.out.1.below d.out) C.out.2.1 R).mono ?_;rw[hr];rintro r Q ⟨rfl,E⟩;have N:M6 (yA w Q):=d.out.trans (E.mono d.out.size);clear E;go_wp2
      go_roundw
      case rel=>exact⟨k+1,n,by simp,by simp,rfl,hlt,by omega,A.out,N.out⟩
      case measure=>simp[On];omega
     ·have A:M6 (g=MI i):=by rw[o.out.2.2.2.2];exact o.out.2.2.1 i O.out (by omega) hr
      go_wp2_with fail
      refine(amx i gl gc _ u l m _ (C.out.1.below d.out) C.out.2.1 R).mono ?_;rw[hr];rintro r Q ⟨rfl,E⟩;have N:M6 (yA w Q):=d.out.trans (E.mono d.out.size);clear E;go_wp2;rw[Sb];go_ret;exact⟨by rw[A.out];rfl,N.out⟩
  ·have A:M6 (g=MH):=by
    rw[e,List.drop_of_length_le (by omega)];rfl
   have d:M6 _:=z;clear e z;go_wp2;rw[Sb];go_ret;exact⟨by rw[A.out];rfl,d.out⟩
section
open Go.Sort (grow grow_empty grow_grow alloc_eq_grow cell?_grow heap_grow_old)
theorem ae9(w:MO)(q:Nat)(os:Array Obj):yA w (Oj (w.drewN q) os):=
 ⟨rfl,rfl,rfl,by simp[Oj,World.drewN],fun k hk=>heap_grow_old (w.drewN q) os hk⟩
theorem as7(x1 x2 x3 y1 y2 y3:Int)(w:MO)(hx:ab4 (x1,x2,x3))(hy:ab4 (y1,y2,y3)) :
  Ni MK 273 #[Ny #[yB x1,yB x2,yB x3],Ny #[yB y1,yB y2,yB y3]] w fun r w'=>r=MN (M3 (Nn (x3*y2<y3*x2)))/\∃q os,w'=Oj (w.drewN q) os:=by
 obtain⟨⟨e,f⟩,p,o⟩:=hx;obtain⟨⟨d,g⟩,n,s⟩:=hy;simp only at e f p o d g n s;have u:0<=x3*y2:=Int.mul_nonneg p d;have x:x3*y2<=40*8:=Px o g d (by omega);have z:0<=y3*x2:=Int.mul_nonneg n e;have y:y3*x2<=40*8:=Px s f e (by omega);clear e f p o d g n s;go_enter Tryz.func273,Tryz.ntmps273;go_wp2;go_ret;refine⟨rfl,0,#[MP #[yB x1,yB x2,yB x3] 353,MP #[yB y1,yB y2,yB y3] 353],?_⟩;rw[PQ,PQ,grow_grow];rfl
theorem atf(i:Nat)(gl gc:Nat)(v u:M7)(l:List Ld)(m:List Int)(w:MO)(he:adz w gl gc v u l m)(hml:m.length=l.length)(hi:i<l.length) :
  Ni MK 217 #[yB (i:Int),Na (MI ⟨gl,0,MH⟩),Na (MI ⟨gc,0,MH⟩)] w fun r w'=>r=MN (M3 (YJ l m i))/\∃q os,w'=Oj (w.drewN q) os:=by
 obtain⟨F,I,g,o⟩:=he;obtain⟨p,c,rfl,H,z,d⟩:=g.F6;obtain⟨K,c2,rfl,C,x,n⟩:=o.F6;obtain⟨L,J,rfl,y,_,_,D⟩:=d i hi;obtain⟨G,M,rfl,s,E⟩:=n i (by omega);unfold NE at z x;have e:YJ l m i=Nn (l[i].2.2<m[i]'(by omega)):=by
  unfold YJ;simp[hi,show i<m.length by omega]
 rw[e];generalize l[i].2.2=f at *;generalize (m[i]'(by omega))=cp at *;have A:(i:Int)<(l.length:Int):=by omega
 have B:(i:Int)<(m.length:Int):=by omega
 clear e d n g o y s hml;go_enter RZ,RM;go_wp2
 go_region
 go_wp2;go_ret;exact⟨rfl,1,#[],by rw[grow_empty];rfl⟩
theorem amt(h:YJ l m k=Nb):Yp l m (k+1)=Yp l m k:=by
 rw[Yp,h];rfl
theorem amr(h:YJ l m k=Nw)(h2:Yp l m k=MH):Yp l m (k+1)=MI k:=by
 rw[Yp,h,h2];rfl
theorem ams{j:Nat}(h:YJ l m k=Nw)(h2:Yp l m k=MI j):Yp l m (k+1)=if acx l k j then MI k else MI j:=by
 rw[Yp,h,h2];rfl
theorem aiw{l:List Ld}{m:List Int}:∀ {k j:Nat},Yp l m k=MI j->j<k
 |0,j,h=>by cases h
 |k+1,j,h=>by
  cases hr:YJ l m k
  ·rw[amt hr]at h
   have:=aiw h;omega
  ·cases ho:Yp l m k with
   |none =>
    rw[amr hr ho]at h;injection h with h;omega
   |some i =>
    have d:=aiw ho;rw[ams hr ho]at h
    split at h <;> (injection h with h;omega)
theorem as8(v u:M7)(l:List Ld)(m:List Int)(gl gc:Nat)(w:MO)(he:adz w gl gc v u l m)(hml:m.length=l.length)(hok:∀x∈l,ab4 x) :
  Ni MK 219 #[v,PB (PD 217) #[] #[Na (MI ⟨gl,0,MH⟩),Na (MI ⟨gc,0,MH⟩)]] w fun r w'=>r=MN (yB (Yn (Yp l m l.length)))/\yA w w':=by
 have XY:=XY;obtain⟨pv,cv,rfl,b8,b7,pa⟩:=he.2.2.1.F6;unfold NE at b7;obtain⟨b5,Y⟩:=yE (Yp l m l.length);rw[<-Y];have H:M6 (_/\_/\_/\_):=⟨he,hml,pa,hok⟩;have HA:M6 _:=Y;clear he hml pa hok Y;go_enter VB,Vu;go_wp2
 go_loopw [5,10] (fun f i wr=>∃(k:Nat),i=yB k/\f=yB (Yn (Yp l m k))/\k<=l.length/\yA w wr) (fun _ i _=>l.length-(On i).toNat)
 case atStart=>exact⟨0,rfl,rfl,Nx _,MY _ _⟩
 case round =>
  obtain⟨k,rfl,rfl,hk,C⟩:=hrel
  by_cases hlt:k<l.length
  ·obtain⟨z,B,rfl,G,c1,c2,c3⟩:=H.out.2.2.1 k hlt
   have b6:=G;replace c1:=(C.cell (p:=⟨z,B+k*3,MH⟩) G).trans c1;replace c2:=(C.cell (p:=⟨z,B+k*3+1,MH⟩) G).trans c2;replace c3:=(C.cell (p:=⟨z,B+k*3+2,MH⟩) G).trans c3;have c0:z<wr.heap.size:=M8 G C.size;have c5:(k:Int)<(l.length:Int):=by omega
   have V:=H.out.2.2.2 l[k] (Nk hlt);have a6:l.getD k Zn=l[k]:=by simp[hlt]
   obtain⟨⟨L,M,O⟩,hx⟩:∃x,x=l[k]:=⟨_,rfl⟩;rw[<-hx]at c1 c2 c3 V a6;obtain⟨d,P⟩:=yE (wr.alloc (MP #[yB L,yB M,yB O] 353));have b0:yA wr d:=by rw[P];exact ab5 _
   have I:d.heap[wr.heap.size]?=MI (MP #[yB L,yB M,yB O] 353 (0,0)):=by rw[P];exact M1 _ _
   have a5:yA w d:=C.trans (b0.mono C.size);have a0:wr.heap.size<d.heap.size:=(ZAa.1 I).1;have R:∀n os,(Oj (d.drewN n) os).cell? ⟨wr.heap.size,0,MH⟩=MI (yB L):=Ob a0 (by simp[Nl,I]);have S:∀n os,(Oj (d.drewN n) os).cell? ⟨wr.heap.size,1,MH⟩=MI (yB M):=Ob a0 (by simp[Nl,I]);have T:∀n os,(Oj (d.drewN n) os).cell? ⟨wr.heap.size,2,MH⟩=MI (yB O):=Ob a0 (by simp[Nl,I]);have e:M6 (_/\_/\_/\_):=⟨P,a5,V,a6⟩;have K:M6 (∀n os,Ni MK 217 #[yB (k:Int),Na (MI ⟨gl,0,MH⟩),Na (MI ⟨gc,0,MH⟩)] (Oj (d.drewN n) os) fun r w'=>r=MN (M3 (YJ l m k))/\∃q' os',w'=Oj ((Oj (d.drewN n) os).drewN q') os'):=
    fun n os=>atf k gl gc _ u l m _ ((H.out.1.below a5).below (ae9 d n os)) H.out.2.1 hlt
   clear hx P b0 I a5 V a6 G;cases hr:YJ l m k
   ·have F:M6 _:=K.out
    rw[hr]at F;have A:M6 (Yp l m (k+1)=Yp l m k):=amt hr;obtain⟨f,hf⟩:=yE (Yn (Yp l m k));rw[<-hf];have HF:M6 _:=hf;clear hf K R S T
    go_wp2_with fail
    rw[<-e.out.1];refine NQ XY (by kernel_rfl) ?_
    repeat (first|go_big_quiet_skip|quiet_step (first|(go_at_call 217;exact NZ (F.out _ _))))
    refine Oy ?_;intro _ E;obtain⟨⟨o,g⟩,D⟩:=E;subst D;have s:M6 (yA w (Oj (d.drewN o) g)):=e.out.2.1.trans ((ae9 d o g).mono e.out.2.1.size);generalize Oj (d.drewN o) g=w3 at s⊢;go_wp2
    go_roundw
    case rel=>exact⟨k+1,by simp,by rw[A.out,HF.out],hlt,s.out⟩
    case measure=>simp[On];omega
   ·have F:M6 _:=K.out
    rw[hr]at F;cases ho:Yp l m k with
    |none =>
     have A:M6 (Yp l m (k+1)=MI k):=amr hr ho;rw[show Yn MH = -1 from rfl];clear K R S T ho
     go_wp2_with fail
     rw[<-e.out.1];refine NQ XY (by kernel_rfl) ?_
     repeat (first|go_big_quiet_skip|quiet_step (first|(go_at_call 217;exact NZ (F.out _ _))))
     refine Oy ?_;intro _ E;obtain⟨⟨o,g⟩,D⟩:=E;subst D;have s:M6 (yA w (Oj (d.drewN o) g)):=e.out.2.1.trans ((ae9 d o g).mono e.out.2.1.size);generalize Oj (d.drewN o) g=w3 at s⊢;go_wp2
     go_roundw
     case rel=>exact⟨k+1,by simp,by rw[A.out];rfl,hlt,s.out⟩
     case measure=>simp[On];omega
    |some j =>
     have b9:=aiw ho;have a7:j<l.length:=by omega
     have hN:=ams hr ho;have a8:l.getD j Zn=l[j]:=by simp[a7]
     have U:=H.out.2.2.2 l[j] (Nk a7);obtain⟨b2,o2,N,J,d1,d2,d3⟩:=H.out.2.2.1 j a7;injection N with N;injection N with N e3;subst N e3;have Z:z<d.heap.size:=M8 J e.out.2.1.size;obtain⟨⟨y1,y2,y3⟩,hy⟩:∃y,y=l[j]:=⟨_,rfl⟩;rw[<-hy]at d1 d2 d3 a8 U;have j1:∀n os,(Oj (d.drewN n) os).cell? ⟨z,B+j*3,MH⟩=MI (yB y1):=Ob Z ((e.out.2.1.cell (p:=⟨z,B+j*3,MH⟩) J).trans d1);have j2:∀n os,(Oj (d.drewN n) os).cell? ⟨z,B+j*3+1,MH⟩=MI (yB y2):=Ob Z ((e.out.2.1.cell (p:=⟨z,B+j*3+1,MH⟩) J).trans d2);have j3:∀n os,(Oj (d.drewN n) os).cell? ⟨z,B+j*3+2,MH⟩=MI (yB y3):=Ob Z ((e.out.2.1.cell (p:=⟨z,B+j*3+2,MH⟩) J).trans d3);have Q:M6 (∀W,Ni MK 273 #[Ny #[yB L,yB M,yB O],Ny #[yB y1,yB y2,yB y3]] W fun r w'=>r=MN (M3 (acx l k j))/\∃q os,w'=Oj (W.drewN q) os):=fun W=>by
      unfold acx;rw[e.out.2.2.2,a8];exact as7 L M O y1 y2 y3 W e.out.2.2.1 U
     have A:M6 _:=hN;rw[show Yn (MI j)=(j:Int)from rfl];have c4:(0:Int)<=(j:Int):=by omega
     have c6:(j:Int)<(l.length:Int):=by omega
     clear a8 U hy d1 d2 d3 J b6 hN ho K;cases hs:acx l k j
     ·rw[hs]at A Q
      have a9:M6 (Yp l m (k+1)=MI j):=A.out;clear A
      go_wp2_with fail
      rw[<-e.out.1];refine NQ XY (by kernel_rfl) ?_
      repeat (first|go_big_quiet_skip|quiet_step (first|(go_at_call 217;exact NZ (F.out _ _))|(go_at_call 273;exact NZ (Q.out _))))
      refine Oy ?_;intro _ E;obtain⟨⟨o,g⟩,D⟩:=E;subst D;have s:M6 (yA w (Oj (d.drewN o) g)):=e.out.2.1.trans ((ae9 d o g).mono e.out.2.1.size);generalize Oj (d.drewN o) g=w3 at s⊢;clear R S T j1 j2 j3;go_wp2
      go_roundw
      case rel=>exact⟨k+1,by simp,by rw[a9.out];rfl,hlt,s.out⟩
      case measure=>simp[On];omega
     ·rw[hs]at A Q
      have a9:M6 (Yp l m (k+1)=MI k):=A.out;clear A
      go_wp2_with fail
      rw[<-e.out.1];refine NQ XY (by kernel_rfl) ?_
      repeat (first|go_big_quiet_skip|quiet_step (first|(go_at_call 217;exact NZ (F.out _ _))|(go_at_call 273;exact NZ (Q.out _))))
      refine Oy ?_;intro _ E;obtain⟨⟨o,g⟩,D⟩:=E;subst D;have s:M6 (yA w (Oj (d.drewN o) g)):=e.out.2.1.trans ((ae9 d o g).mono e.out.2.1.size);generalize Oj (d.drewN o) g=w3 at s⊢;clear R S T j1 j2 j3;go_wp2
      go_roundw
      case rel=>exact⟨k+1,by simp,by rw[a9.out];rfl,hlt,s.out⟩
      case measure=>simp[On];omega
  ·obtain rfl:k=l.length:=by omega
   rw[<-HA.out];have s:M6 _:=C;clear C;go_wp2;go_ret;exact⟨rfl,s.out⟩
end
theorem ami.Ga{o:Int×List Int}{r:Ending}(h:ami o w r w'):∃p c,r=MN (Nv #[MG p o.2.length c,yB o.1])/\abE w' (MG p o.2.length c) o.2/\yA w w':=by
 obtain⟨y,rfl,d,e⟩:=h;obtain⟨p,c,rfl,_⟩:=d.F6;exact⟨p,c,rfl,d,e⟩
theorem as9(hw:ae8 l m)(h:Yp l m l.length=MI i):i<l.length/\YJ l m i=true:=by
 have:=ais hw l.length;rw[h]at this;exact⟨this.1.2.1,this.1.2.2⟩
theorem atd(y v:M7)(ws:List Int)(l:List Ld)(a b c t:Int)(w:MO)(hy:abE w y ws)(hv:aaR w v l) :
  Ni MK 159 #[y,v,yB a,yB b,yB c,yB t] w fun r w'=>r=MN (Nv #[yB (ab6 ws l a b c t).1,yB (ab6 ws l a b c t).2])/\yA w w':=by
 obtain⟨py,cy,rfl,_,c9,_⟩:=hy.F6;obtain⟨N,cv,rfl,_,c8,_⟩:=hv.F6;unfold NE at c9 c8;obtain⟨f,g,a0⟩:∃f g,ab6 ws l a b c t=(f,g):=⟨_,_,rfl⟩;rw[a0];obtain⟨M,U⟩:=yE (w.alloc (MP #[MG N l.length cv] 289));have T:yA w M:=by rw[U];exact ab5 _
 have a6:M.cell? ⟨w.heap.size,0,MH⟩=MI (MG N l.length cv):=by rw[U];exact(MW _ w.heap.size 0 _ 289 (0,0) (M1 w _)).trans rfl
 have a8:w.heap.size<M.heap.size:=MX M _ a6;have o:M6 (_/\_/\_/\_/\_):=⟨U,T,a6,hv.below T,hy.below T⟩;have V:M6 (_/\True):=⟨a0,trivial⟩;clear U T a6 hv hy a0;go_enter RT,RJ
 go_wp2_with fail
 rw[<-o.out.1];refine(asY _ l a b c _ o.out.2.2.2.1).mono ?_;rintro r z b5;obtain⟨p1,c1,rfl,K,u⟩:=b5.Ga;clear b5;cases hok:abH l
 ·have E:aa3 l a b c=(6,[]):=by unfold aa3;rw[hok,Nf PE]
  have d:M6 (f=0/\g=6):=by
   have h:=V.out.1;unfold ab6 at h;rw[hok,Nf PE]at h;injection h with h1 h2;exact⟨h1.symm,h2.symm⟩
  rw[E];have n:M6 _:=o.out.2.1.trans (u.mono o.out.2.1.size);clear K u E hok;go_wp2
  go_ret2
  exact⟨by rw[d.out.1,d.out.2];rfl,n.out.alloc n.out.size _⟩
 by_cases hf:ab3 a b c
 case neg =>
  have E:aa3 l a b c=(2,[]):=by unfold aa3;rw[Nh hok,Nf hf]
  have d:M6 (f=0/\g=2):=by
   have h:=V.out.1;unfold ab6 at h;rw[Nh hok,Nf hf]at h;injection h with h1 h2;exact⟨h1.symm,h2.symm⟩
  rw[E];have n:M6 _:=o.out.2.1.trans (u.mono o.out.2.1.size);clear K u E hok hf;go_wp2
  go_ret2
  exact⟨by rw[d.out.1,d.out.2];rfl,n.out.alloc n.out.size _⟩
 have E:aa3 l a b c=(0,aax a b c l):=by unfold aa3;rw[Nh hok,Nh hf]
 rw[E]at K⊢;have hL:=afa.1 hok;have a7:=amw (a:=a) (b:=b) (c:=c) hL;obtain⟨m,Z⟩:=yE (aax a b c l);have b6:m.length=l.length:=by rw[Z];simp[aax]
 rw[<-Z]at K a7⊢;have hp:ab6 ws l a b c t=if 0<=t/\t<=12/\ws.length<=12 then if l.any Zw then abF l (acw l m ws t.toNat)else(0,11)else(0,2):=by
  unfold ab6;rw[Nh hok,Nh hf,<-Z]
 rw[V.out.1]at hp;have a5:=o.out.2.1.trans (u.mono o.out.2.1.size);have c0:=(u.cell (p:=⟨w.heap.size,0,MH⟩) a8).trans o.out.2.2.1;obtain⟨R,S⟩:=yE (z.alloc (MP #[MG p1 m.length c1] 276));have J:yA z R:=by rw[S];exact ab5 _
 have b0:R.cell? ⟨z.heap.size,0,MH⟩=MI (MG p1 m.length c1):=by rw[S];exact(MW _ z.heap.size 0 _ 276 (0,0) (M1 z _)).trans rfl
 have c5:w.heap.size<z.heap.size:=M8 a8 u.size;have c4:adz R w.heap.size z.heap.size (MG N l.length cv) (MG p1 m.length c1) l m:=⟨(J.cell (p:=⟨w.heap.size,0,MH⟩) c5).trans c0,b0,(o.out.2.2.2.1.below u).below J,K.below J⟩;have b8:=(o.out.2.2.2.2.below u).below J;have b9:=a5.trans (J.mono a5.size);have e:M6 (_/\_/\_/\_/\_/\_/\_/\_):=⟨S,c4,b8,b9,b6,a7,hL,hp⟩;clear S c4 b8 b9 b0 J a5 u hp Z K hL E hf hok V a7 b6 o;rcases(by omega:t<0\/(0<=t/\12<t)\/(0<=t/\t<=12))with h1|⟨h1,h2⟩|⟨h1,h2⟩
 ·have d:M6 (f=0/\g=2):=by
   have h:=e.out.2.2.2.2.2.2.2;rw[Nf (by omega)]at h;injection h with h1 h2;exact⟨h1,h2⟩
  go_wp2;rw[<-e.out.1]
  go_ret2
  exact⟨by rw[d.out.1,d.out.2];rfl,e.out.2.2.2.1⟩
 ·have d:M6 (f=0/\g=2):=by
   have h:=e.out.2.2.2.2.2.2.2;rw[Nf (by omega)]at h;injection h with h1 h2;exact⟨h1,h2⟩
  go_wp2;rw[<-e.out.1]
  go_ret2
  exact⟨by rw[d.out.1,d.out.2];rfl,e.out.2.2.2.1⟩
 obtain⟨L,rfl⟩:=NL h1;rcases Oq 12 ws.length with Y|Y
 ·have d:M6 (f=0/\g=2):=by
   have h:=e.out.2.2.2.2.2.2.2;rw[Nf (by omega)]at h;injection h with h1 h2;exact⟨h1,h2⟩
  have c7:(12:Int)<(ws.length:Int):=by omega
  clear Y;go_wp2;rw[<-e.out.1]
  go_ret2
  exact⟨by rw[d.out.1,d.out.2];rfl,e.out.2.2.2.1⟩
 have c7:Nn ((12:Int)<(ws.length:Int))=false:=M0 (by omega);have d7:Nn ((12:Int)<(L:Int))=false:=M0 (by omega);have d8:Nn ((L:Int)<0)=false:=M0 (by omega);have HP:M6 ((f,g)=if l.any Zw then abF l (acw l m ws L)else(0,11)):=by
  have h:=e.out.2.2.2.2.2.2.2;rw[Nh ⟨h1,h2,Y⟩]at h;rw[NR]at h;exact h
 clear Y
 go_wp2_with fail
 rw[<-e.out.1];refine(as0 _ l _ e.out.2.1.2.2.1).mono ?_;cases hany:l.any Zw
 ·rintro r w3 ⟨rfl,G⟩
  have d:M6 (f=0/\g=11):=by
   have h:=HP.out;rw[hany,Nf PE]at h;injection h with h1 h2;exact⟨h1,h2⟩
  have n:M6 _:=e.out.2.2.2.1.trans (G.mono e.out.2.2.2.1.size);clear G hany;go_wp2
  go_ret2
  exact⟨by rw[d.out.1,d.out.2];rfl,n.out⟩
 rintro r w3 ⟨rfl,G⟩;have s:M6 (_/\_/\_/\(f,g)=abF l (acw l m ws L)):=⟨e.out.2.1.below G,e.out.2.2.1.below G,e.out.2.2.2.1.trans (G.mono e.out.2.2.2.1.size),by have h:=HP.out;rw[Nh hany]at h;exact h⟩;clear G hany HP c0;have A:=s.out.1.1
 go_wp2_with fail
 refine(asM _ _ _ ws l m L w.heap.size z.heap.size _ s.out.2.1 s.out.1 e.out.2.2.2.2.1 (by omega)).mono ?_;cases hal:Zm l m ws L with
 |some i =>
  rintro r I ⟨rfl,D⟩;obtain⟨P,_,_⟩:=agp hal;rw[show Yn (MI i)=(i:Int)from rfl];have d5:=(D.cell (p:=⟨w.heap.size,0,MH⟩) (MX w3 _ A)).trans A;have b7:=s.out.1.2.2.1.below D;obtain⟨_,_,C,_,_,O⟩:=b7.F6;obtain⟨b1,o1,rfl,_,d1,_,_⟩:=(by injection C with C;subst C;exact O i P:∃b off,N=some ⟨b,off,none⟩/\b<I.heap.size/\I.cell? ⟨b,off+i*3,none⟩=some (.int .i64 l[i].1)/\I.cell? ⟨b,off+i*3+1,none⟩=some (.int .i64 l[i].2.1)/\I.cell? ⟨b,off+i*3+2,none⟩=some (.int .i64 l[i].2.2));have d:M6 (f=l[i].1/\g=0):=by
   have h:=s.out.2.2.2;unfold acw at h;rw[hal]at h;simp only[abF]at h;injection h with h1 h2;exact⟨by rw[h1];simp[P],h2⟩
  have n:M6 (yA w I):=s.out.2.2.1.trans (D.mono s.out.2.2.1.size);have c6:(i:Int)<(l.length:Int):=by omega
  have d0:(0:Int)<=(i:Int):=by omega
  obtain⟨x,Q⟩:=yE (l[i].1);rw[<-Q]at d1 d;clear D A b7 C O hal Q;go_wp2
  go_ret2
  exact⟨by rw[d.out.1,d.out.2];rfl,n.out⟩
 |none =>
  rintro r I ⟨rfl,D⟩;rw[show Yn MH = -1 from rfl];have B:M6 (_/\_/\(f,g)=abF l (Yp l m l.length)):=⟨s.out.1.below D,s.out.2.2.1.trans (D.mono s.out.2.2.1.size),by have h:=s.out.2.2.2;unfold acw at h;rw[hal]at h;exact h⟩;clear D hal A;have A:=B.out.1.1
  go_wp2_with fail
  refine(as8 _ _ l m w.heap.size z.heap.size _ B.out.1 e.out.2.2.2.2.1 (adD e.out.2.2.2.2.2.2.1.2)).mono ?_;cases hle:Yp l m l.length with
  |none =>
   rintro r H ⟨rfl,F⟩;rw[show Yn MH = -1 from rfl];have d:M6 (f=0/\g=9):=by
    have h:=B.out.2.2;rw[hle]at h;simp only[abF]at h;injection h with h1 h2;exact⟨h1,h2⟩
   have n:M6 (yA w H):=B.out.2.1.trans (F.mono B.out.2.1.size);clear F A hle;go_wp2
   go_ret2
   exact⟨by rw[d.out.1,d.out.2];rfl,n.out⟩
  |some i =>
   rintro r H ⟨rfl,F⟩;obtain⟨P,_⟩:=as9 e.out.2.2.2.2.2.1 hle;rw[show Yn (MI i)=(i:Int)from rfl];have d6:=(F.cell (p:=⟨w.heap.size,0,MH⟩) (MX I _ A)).trans A;have a9:=B.out.1.2.2.1.below F;obtain⟨_,_,C,_,_,O⟩:=a9.F6;obtain⟨b1,o1,rfl,_,d1,_,_⟩:=(by injection C with C;subst C;exact O i P:∃b off,N=some ⟨b,off,none⟩/\b<H.heap.size/\H.cell? ⟨b,off+i*3,none⟩=some (.int .i64 l[i].1)/\H.cell? ⟨b,off+i*3+1,none⟩=some (.int .i64 l[i].2.1)/\H.cell? ⟨b,off+i*3+2,none⟩=some (.int .i64 l[i].2.2));have d:M6 (f=l[i].1/\g=0):=by
    have h:=B.out.2.2;rw[hle]at h;simp only[abF]at h;injection h with h1 h2;exact⟨by rw[h1];simp[P],h2⟩
   have n:M6 (yA w H):=B.out.2.1.trans (F.mono B.out.2.1.size);have c6:(i:Int)<(l.length:Int):=by omega
   have d0:(0:Int)<=(i:Int):=by omega
   obtain⟨x,Q⟩:=yE (l[i].1);rw[<-Q]at d1 d;clear F A a9 C O hle Q;go_wp2
   go_ret2
   exact⟨by rw[d.out.1,d.out.2];rfl,n.out⟩
end
section
variable {a w:MO}{b base:Nat}
structure Ev where
 kind:Int
 key:Int
 slot:Int
 gen:Int
 good:Bool
 req:Int
 be:Int
 wt:Int
 deriving DecidableEq
variable {e:Ev}
def Ev.Hi:Ev:=⟨0,0,0,0,Nb,0,0,0⟩
def Ev.num(e:Ev)(o:Nat):Int :=
 match o with
 |1=>e.key
 |2=>e.slot
 |3=>e.gen
 |4=>if e.good then 1 else 0
 |5=>e.req
 |6=>e.be
 |7=>e.wt
 |_=>0
def Ev.Gd(e:Ev)(o:Nat)(n:Int):Ev :=
 match o with
 |1=>{e with key:=n}
 |2=>{e with slot:=n}
 |3=>{e with gen:=n}
 |4=>{e with good:=n == 1}
 |5=>{e with req:=n}
 |6=>{e with be:=n}
 |7=>{e with wt:=n}
 |_=>e
structure Xf where
 off:Nat
 lo:Int
 hi:Int
variable {fs:List Xf}
def Zz(k:Int):Option (List Xf):=
 if k=1 then MI [⟨1,0,4294967295⟩]
 else if k=2 then MI [⟨2,0,39⟩,⟨3,0,1048576⟩]
 else if k=3 then MI [⟨2,0,39⟩,⟨3,0,1048576⟩]
 else if k=4 then MI [⟨2,0,39⟩,⟨3,0,1048576⟩,⟨4,0,1⟩]
 else if k=5 then MI [⟨5,0,1048576⟩,⟨6,0,11⟩,⟨7,1,8⟩]
 else if k=6 then MI [⟨5,0,1048576⟩,⟨6,0,11⟩]
 else if k=7 then MI []
 else MH
theorem afx(k:Int):(k<1\/7<k)/\Zz k=MH\/k=1\/k=2\/k=3\/k=4\/k=5\/k=6\/k=7:=by
 by_cases h:k<1\/7<k
 ·refine Nt ⟨h,?_⟩
  unfold Zz;rw[Nf (by omega),Nf (by omega),Nf (by omega),Nf (by omega),Nf (by omega),Nf (by omega),Nf (by omega)]
 ·omega
def Ev.GZ(e:Ev)(f:Xf):Bool:=Nn (f.lo<=e.num f.off/\e.num f.off<=f.hi)
def Ev.Gc(e:Ev)(fs:List Xf):Ev:=fs.foldl (fun e f=>e.Gd f.off 0) e
def Ev.GE(e:Ev)(fs:List Xf):Bool:=Nn ({e.Gc fs with kind:=0}=Ev.Hi)
def Yk(e:Ev):Int :=
 match Zz e.kind with
 |none=>5
 |some fs=>if fs.all e.GZ then(if e.GE fs then 0 else 3)else 2
theorem awP(x y:M7)(lo hi n:Int)(w:MO)(h1:lo<=n)(h2:n<=hi) :
  Ni MK 35 #[Ny #[x,y,yB lo,yB hi],yB n] w fun e w'=>e=MN (M3 Nw)/\yA w w':=by
 go_enter aA1,aAY;go_wp2;go_ret;exact⟨rfl,(MY _ _).alloc (MV _) _⟩
theorem awO(x y:M7)(lo hi n:Int)(w:MO)(h1:¬(lo<=n/\n<=hi)) :
  Ni MK 35 #[Ny #[x,y,yB lo,yB hi],yB n] w fun e w'=>e=MN (M3 Nb)/\yA w w':=by
 by_cases h2:lo<=n
 ·have c:¬n<=hi:=by omega
  go_enter aA1,aAY;go_wp2;go_ret;exact⟨rfl,(MY _ _).alloc (MV _) _⟩
 ·have c:Nn (lo<=n)=false:=by simpa using h2
  go_enter aA1,aAY;go_wp2;go_ret;exact⟨rfl,(MY _ _).alloc (MV _) _⟩
theorem awH(b o:Nat)(lo hi n:Int)(w:MO)(h:w.cell? ⟨b,o,MH⟩=MI (yB n)) :
  Ni MK 18 #[Ny #[Na (MI ⟨b,o,MH⟩),Na MH,yB lo,yB hi]] w fun e w'=>e=MN (yB n)/\yA w w':=by
 have c:b<w.heap.size:=MX w _ h;go_enter Tryz.func18,Tryz.ntmps18;go_wp2;go_ret;exact⟨rfl,(MY _ _).alloc (MV _) _⟩
theorem awG(b o:Nat)(lo hi:Int)(t:Bool)(w:MO)(h:w.cell? ⟨b,o,MH⟩=MI (M3 t)) :
  Ni MK 18 #[Ny #[Na MH,Na (MI ⟨b,o,MH⟩),yB lo,yB hi]] w fun e w'=>e=MN (yB (if t then 1 else 0))/\yA w w':=by
 have c:b<w.heap.size:=MX w _ h;cases t
 all_goals
  go_enter Tryz.func18,Tryz.ntmps18;go_wp2;go_ret;exact⟨rfl,(MY _ _).alloc (MV _) _⟩
theorem awN(b o:Nat)(lo hi n:Int)(v:M7)(w:MO)(h:w.cell? ⟨b,o,MH⟩=MI v)(hf:w.frozen? ⟨b,o,MH⟩=Nb) :
  Ni MK 57 #[Ny #[Na (MI ⟨b,o,MH⟩),Na MH,yB lo,yB hi],yB n] w fun e w'=>e=MN (Nv #[]) /\
   w'=(w.setCell ⟨b,o,MH⟩ (yB n)).alloc (MP #[Na (MI ⟨b,o,MH⟩),Na MH,yB lo,yB hi] 94):=by
 have c:b<w.heap.size:=MX w _ h;go_enter Uw,Ul;go_wp2
 first|go_end0|(refine Np (v:=Nv #[]) (by simp[Pf,Tryz.results57,go_sem]) rfl ?_)
 exact⟨rfl,rfl⟩
theorem awM(b o:Nat)(lo hi n:Int)(v:M7)(w:MO)(h:w.cell? ⟨b,o,MH⟩=MI v)(hf:w.frozen? ⟨b,o,MH⟩=Nb) :
  Ni MK 57 #[Ny #[Na MH,Na (MI ⟨b,o,MH⟩),yB lo,yB hi],yB n] w fun e w'=>e=MN (Nv #[]) /\
   w'=(w.setCell ⟨b,o,MH⟩ (M3 (n == 1))).alloc (MP #[Na MH,Na (MI ⟨b,o,MH⟩),yB lo,yB hi] 94):=by
 have c:b<w.heap.size:=MX w _ h;go_enter Uw,Ul;go_wp2
 go_end0
 exact⟨rfl,rfl⟩
def afw(e:Ev):Array Value:=#[yB e.kind,yB e.key,yB e.slot,yB e.gen,M3 e.good,yB e.req,yB e.be,yB e.wt]
def YT(w:MO)(b:Nat)(e:Ev):Prop:=w.heap[b]?=MI (MP (afw e) 61)
theorem YT.lt(h:YT w b e):b<w.heap.size:=by
 rcases Oq b w.heap.size with c|d
 ·exact c
 ·unfold YT at h;rw[QT d]at h;cases h
theorem YT.F7(h:YT w b e)(o:Nat):w.cell? ⟨b,o,MH⟩=(afw e)[o]?:=by
 unfold YT at h;simp[Nl,h]
theorem YT.Gu(h:YT w b e)(o:Nat):w.frozen? ⟨b,o,MH⟩=false:=by
 unfold YT at h;simp[Ng,h]
theorem YT.below{w':MO}{B:Nat}(h:YT w b e)(hb:MQ B w w')(hlt:b<B):YT w' b e:=by
 unfold YT;rw[hb.block b hlt];exact h
def pp(b:Nat)(f:Xf):Option Addr:=if f.off=4 then MH else MI ⟨b,f.off,MH⟩
def pq(b:Nat)(f:Xf):Option Addr:=if f.off=4 then MI ⟨b,f.off,MH⟩else MH
def acg(b:Nat)(f:Xf):List Value:=[Na (pp b f),Na (pq b f),yB f.lo,yB f.hi]
theorem an5(b:Nat)(f:Xf)(e:Ev)(w:MO)(hE:YT w b e)(h1:1<=f.off)(h7:f.off<=7) :
  Ni MK 18 #[Ny #[Na (pp b f),Na (pq b f),yB f.lo,yB f.hi]] w fun r w'=>r=MN (yB (e.num f.off))/\yA w w':=by
 have c:=hE.F7 f.off;obtain⟨o,lo,hi⟩:=f
 dsimp only at *
 obtain rfl|rfl|rfl|rfl|rfl|rfl|rfl:o=1\/o=2\/o=3\/o=4\/o=5\/o=6\/o=7:=by omega
 case inr.inr.inr.inl=>exact awG b 4 lo hi e.good w c
 all_goals exact awH b _ lo hi _ w c
theorem an6(o:Obj)(a:Oc)(v:M7):w.grownBy ((w.setCell a v).alloc o) (MI a.block):=by
 have c:(w.setCell a v).heap.size=w.heap.size:=by simp[Q4]
 refine⟨rfl,rfl,rfl,?_,fun k hk hne=>?_⟩
 ·show w.heap.size<=((w.setCell a v).heap.push o).size
  rw[Array.size_push,c];omega
 ·rw[Ov _ _ _ (by rw[c];exact hk),MU _ _ _ _ (fun h=>hne (by rw[h]))]
theorem anY{e':Ev}(h:YT w b e)(x:Obj)(o:Nat)(v:M7)(hv:(afw e).setIfInBounds o v=afw e'):YT ((w.setCell ⟨b,o,MH⟩ v).alloc x) b e':=by
 have c:(w.setCell ⟨b,o,MH⟩ v).heap.size=w.heap.size:=by simp[Q4]
 have d:w.heap[b]?=MI (MP (afw e) 61):=h;unfold YT;rw[Ov _ _ _ (by rw[c];exact h.lt)];simp only[Q4,Qp,d,if_true,OH];simp[hv]
theorem awL(b:Nat)(f:Xf)(e:Ev)(n:Int)(w:MO)(hE:YT w b e)(h1:1<=f.off)(h7:f.off<=7) :
  Ni MK 57 #[Ny #[Na (pp b f),Na (pq b f),yB f.lo,yB f.hi],yB n] w fun r w'=>r=MN (Nv #[])/\YT w' b (e.Gd f.off n)/\w.grownBy w' (MI b):=by
 have c:=hE.F7 f.off;have d:=hE.Gu f.off;obtain⟨o,lo,hi⟩:=f
 dsimp only at *
 obtain rfl|rfl|rfl|rfl|rfl|rfl|rfl:o=1\/o=2\/o=3\/o=4\/o=5\/o=6\/o=7:=by omega
 case inr.inr.inr.inl =>
  refine(awM b 4 lo hi n _ w c d).mono ?_;rintro r w' ⟨rfl,rfl⟩;exact⟨rfl,anY hE _ _ _ rfl,an6 _ _ _⟩
 all_goals
  refine(awN b _ lo hi n _ w c d).mono ?_;rintro r w' ⟨rfl,rfl⟩;exact⟨rfl,anY hE _ _ _ rfl,an6 _ _ _⟩
theorem adS(w:MO)(o:Obj):(w.alloc o).heap[w.heap.size]?=MI o:=by show(w.heap.push o)[w.heap.size]?=MI o;simp
theorem ajM(b:Nat)(w:MO) :
  Ni MK 37 #[Na (MI ⟨b,0,MH⟩)] w fun e w'=>e=MN (MG (MI ⟨w.heap.size,0,MH⟩) 2 2) /\
   w'=(w.alloc (MP #[Na (MI ⟨b,2,MH⟩),Na MH,yB 0,yB 39,Na (MI ⟨b,3,MH⟩),Na MH,yB 0,yB 1048576] 94)).drew:=by
 go_enter Tryz.func37,Tryz.ntmps37;go_wp2
 go_region
 go_wp2;go_ret;exact⟨rfl,rfl⟩
theorem anZ(b:Nat)(w:MO) :
  Ni MK 38 #[Na (MI ⟨b,0,MH⟩)] w fun e w'=>e=MN (MG (MI ⟨w.heap.size,0,MH⟩) 2 2) /\
   w'=(w.alloc (MP #[Na (MI ⟨b,5,MH⟩),Na MH,yB 0,yB 1048576,Na (MI ⟨b,6,MH⟩),Na MH,yB 0,yB 11] 94)).drew:=by
 go_enter Uu,Ud;go_wp2
 go_region
 go_wp2;go_ret;exact⟨rfl,rfl⟩
theorem ag2{n:Nat}{e:NU}{size:Nat}(cs:Array M7)(hb:base<=w.heap.size)(hm:n<=NE)(hs:cs.size=n*size):(w.alloc (MP cs e)).ownsRow base e size (MG (MI ⟨w.heap.size,0,MH⟩) n n) n cs.toList :=
 ⟨by simp[hs],NF ⟨w.heap.size,n,cs,rfl,hb,adS w _,MV _,hm,hs,by rw[N1 (by simp[hs])]⟩⟩
def ade(b:Nat)(fs:List Xf)(w:MO)(r:Ending)(w':MO):Prop :=
 ∃v,r=MN (Nv #[v,M3 Nw])/\yA w w'/\w'.ownsRow w.heap.size 94 4 v fs.length (fs.flatMap (acg b))
theorem awF(b:Nat)(e:Ev)(w:MO)(hE:YT w b e)(hk:e.kind<1\/7<e.kind) :
  Ni MK 16 #[Na (MI ⟨b,0,MH⟩)] w fun r w'=>r=MN (Nv #[MG MH 0 0,M3 Nb])/\w'=w:=by
 have i:w.cell? ⟨b,0,MH⟩=MI (yB e.kind):=hE.F7 0;generalize e.kind=k at *;have d:(k == 1)=false:=beq_eq_false_iff_ne.2 (by omega);have j:(k == 2)=false:=beq_eq_false_iff_ne.2 (by omega);have c:(k == 3)=false:=beq_eq_false_iff_ne.2 (by omega);have f:(k == 4)=false:=beq_eq_false_iff_ne.2 (by omega);have g:(k == 5)=false:=beq_eq_false_iff_ne.2 (by omega);have m:(k == 6)=false:=beq_eq_false_iff_ne.2 (by omega);have l:(k == 7)=false:=beq_eq_false_iff_ne.2 (by omega);clear hk;go_enter az9,az6;go_wp2
 go_ret2
 exact⟨rfl,rfl⟩
theorem awy(b:Nat)(w:MO)(hc:w.cell? ⟨b,0,MH⟩=MI (yB 1)) :
  Ni MK 16 #[Na (MI ⟨b,0,MH⟩)] w (ade b [⟨1,0,4294967295⟩] w):=by
 go_enter az9,az6;go_wp2
 go_ret2
 exact⟨_,rfl,(MY _ _).alloc (MV _) _,ag2 _ (MV _) (by unfold NE;omega) rfl⟩
theorem awz(b:Nat)(w:MO)(hc:w.cell? ⟨b,0,MH⟩=MI (yB 2)) :
  Ni MK 16 #[Na (MI ⟨b,0,MH⟩)] w (ade b [⟨2,0,39⟩,⟨3,0,1048576⟩] w):=by
 go_enter az9,az6
 go_wp2_with fail
 refine(ajM b _).mono ?_;rintro r c ⟨rfl,rfl⟩;go_wp2
 go_ret2
 exact⟨_,rfl,((MY _ _).alloc (MV _) _).drew,(ag2 _ (MV _) (by unfold NE;omega) rfl).drew⟩
theorem an0(need old:Nat)(e:NU)(t:Nat)(h:need<=NE):need<=(PF need old e).cut t/\(PF need old e).cut t<=maxLen:=by
 unfold NE at *;simp only[Question.cut];have:t % (2 ^ 63-need)<2 ^ 63-need:=Nat.mod_lt _ (by omega);omega
theorem an9{n cap g:Nat}{e:NU}{size:Nat}(x y z:Array M7)(hg:w.heap.size=g)(hb:base<=w.heap.size)(hn:n<=cap)(hm:cap<=NE)(hs:x.size+y.size=n*size)(hz:z.size=size):
  (w.alloc (MP (x++(y++N5 z (cap-n))) e)).ownsRow base e size (MG (MI ⟨g,0,MH⟩) n cap) n (x.toList++y.toList):=by
 subst hg;refine⟨by simp[hs],NF ⟨w.heap.size,cap,_,rfl,hb,adS w _,hn,hm,?_,?_⟩⟩
 ·rw[RD,RD,Go.size_zeroCells,hz,<-Nat.add_assoc,hs,<-ON]
  congr 1;omega
 ·rw[<-Array.append_assoc,Rh,Rh]
  exact List.take_left' (by simp[hs])
theorem awB(b:Nat)(w:MO)(hc:w.cell? ⟨b,0,MH⟩=MI (yB 4)) :
  Ni MK 16 #[Na (MI ⟨b,0,MH⟩)] w (ade b [⟨2,0,39⟩,⟨3,0,1048576⟩,⟨4,0,1⟩] w):=by
 go_enter az9,az6
 go_wp2_with fail
 go_region_held3 (fun d=>True) (go_keep) (first|(go_at_call 37;refine(ajM b _).mono ?_;rintro r d ⟨rfl,rfl⟩))
 all_goals
  go_wp2
  go_ret2
  obtain⟨c1,c2⟩:=an0 3 2 94 (w.tape (w.drawn+1+1) (PF 3 2 94)) (by unfold NE;omega);generalize (PF 3 2 94).cut (w.tape (w.drawn+1+1) (PF 3 2 94))=c at *;refine⟨_,rfl,?_,?_⟩
  ·exact((((((MY _ _).alloc (MV _) _).alloc (by simp) _).alloc (by simp;omega) _).drew).drew).drew
  ·exact PZ (PZ (PZ (an9 (size:=4) #[Na (MI ⟨b,2,MH⟩),Na MH,yB 0,yB 39,Na (MI ⟨b,3,MH⟩),Na MH,yB 0,yB 1048576] #[Na MH,Na (MI ⟨b,4,MH⟩),yB 0,yB 1] #[Na MH,Na MH,yB 0,yB 0] (by simp) (by simp;omega) c1 c2 rfl rfl)))
theorem awC(b:Nat)(w:MO)(hc:w.cell? ⟨b,0,MH⟩=MI (yB 5)) :
  Ni MK 16 #[Na (MI ⟨b,0,MH⟩)] w (ade b [⟨5,0,1048576⟩,⟨6,0,11⟩,⟨7,1,8⟩] w):=by
 go_enter az9,az6
 go_wp2_with fail
 go_region_held3 (fun d=>True) (go_keep) (first|(go_at_call 38;refine(anZ b _).mono ?_;rintro r d ⟨rfl,rfl⟩))
 all_goals
  go_wp2
  go_ret2
  obtain⟨c1,c2⟩:=an0 3 2 94 (w.tape (w.drawn+1+1) (PF 3 2 94)) (by unfold NE;omega);generalize (PF 3 2 94).cut (w.tape (w.drawn+1+1) (PF 3 2 94))=c at *;refine⟨_,rfl,?_,?_⟩
  ·exact((((((MY _ _).alloc (MV _) _).alloc (by simp) _).alloc (by simp;omega) _).drew).drew).drew
  ·exact PZ (PZ (PZ (an9 (size:=4) #[Na (MI ⟨b,5,MH⟩),Na MH,yB 0,yB 1048576,Na (MI ⟨b,6,MH⟩),Na MH,yB 0,yB 11] #[Na (MI ⟨b,7,MH⟩),Na MH,yB 1,yB 8] #[Na MH,Na MH,yB 0,yB 0] (by simp) (by simp;omega) c1 c2 rfl rfl)))
theorem awA(b:Nat)(w:MO)(hc:w.cell? ⟨b,0,MH⟩=MI (yB 3)) :
  Ni MK 16 #[Na (MI ⟨b,0,MH⟩)] w (ade b [⟨2,0,39⟩,⟨3,0,1048576⟩] w):=by
 go_enter az9,az6
 go_wp2_with fail
 refine(ajM b _).mono ?_;rintro r c ⟨rfl,rfl⟩;go_wp2
 go_ret2
 exact⟨_,rfl,((MY _ _).alloc (MV _) _).drew,(ag2 _ (MV _) (by unfold NE;omega) rfl).drew⟩
theorem awD(b:Nat)(w:MO)(hc:w.cell? ⟨b,0,MH⟩=MI (yB 6)) :
  Ni MK 16 #[Na (MI ⟨b,0,MH⟩)] w (ade b [⟨5,0,1048576⟩,⟨6,0,11⟩] w):=by
 go_enter az9,az6
 go_wp2_with fail
 refine(anZ b _).mono ?_;rintro r c ⟨rfl,rfl⟩;go_wp2
 go_ret2
 exact⟨_,rfl,((MY _ _).alloc (MV _) _).drew,(ag2 _ (MV _) (by unfold NE;omega) rfl).drew⟩
theorem awE(b:Nat)(w:MO)(hc:w.cell? ⟨b,0,MH⟩=MI (yB 7)) :
  Ni MK 16 #[Na (MI ⟨b,0,MH⟩)] w (ade b [] w):=by
 go_enter az9,az6;go_wp2
 go_ret2
 exact⟨_,rfl,MY _ _,NY _ _ _ _⟩
theorem an1(b:Nat)(e:Ev)(fs:List Xf)(w:MO)(hE:YT w b e)(hf:Zz e.kind=MI fs) :
  Ni MK 16 #[Na (MI ⟨b,0,MH⟩)] w (ade b fs w):=by
 have c:w.cell? ⟨b,0,MH⟩=MI (yB e.kind):=hE.F7 0;generalize e.kind=k at *;rcases afx k with⟨_,h⟩|rfl|rfl|rfl|rfl|rfl|rfl|rfl
 ·rw[h]at hf;cases hf
 all_goals (unfold Zz at hf;simp at hf;subst hf)
 ·exact awy b w c
 ·exact awz b w c
 ·exact awA b w c
 ·exact awB b w c
 ·exact awC b w c
 ·exact awD b w c
 ·exact awE b w c
theorem an2(b:Nat):∀(fs:List Xf) (k:Nat) (f:Xf),fs[k]?=MI f->∀j,j<4->(fs.flatMap (acg b))[k*4+j]?=(acg b f)[j]?
 | [],k,f,h,j,hj=>by simp at h
 |x::fs,0,f,h,j,hj=>by
  simp at h;subst h;rw[S9,OJ (by simp[acg];omega)];simp
 |x::fs,k+1,f,h,j,hj=>by
  simp at h;rw[S9,Tw (by simp[acg];omega)];rw[show(k+1)*4+j-(acg b x).length=k*4+j by simp[acg];omega];exact an2 b fs k f h j hj
theorem awK{v:M7}(h:w.ownsRow base 94 4 v fs.length (fs.flatMap (acg b))):
  (v=MG MH 0 0/\fs=[])\/∃g cap,v=MG (MI ⟨g,0,MH⟩) fs.length cap/\base<=g/\g<w.heap.size /\
   ∀k f,fs[k]?=MI f->w.cell? ⟨g,k*4,MH⟩=MI (Na (pp b f))/\w.cell? ⟨g,k*4+1,MH⟩=MI (Na (pq b f))/\w.cell? ⟨g,k*4+2,MH⟩=MI (yB f.lo)/\w.cell? ⟨g,k*4+3,MH⟩=MI (yB f.hi):=by
 obtain⟨s,⟨rfl,i⟩|⟨g,cap,q,rfl,o,d,i,t,r,n⟩⟩:=h
 ·exact Nt ⟨rfl,ZAc.1 i⟩
 ·refine NF ⟨g,cap,rfl,o,?_,fun k f hf=>?_⟩
  ·rcases Oq g w.heap.size with m|l
   ·exact m
   ·rw[QT l]at d;cases d
  ·have u:k<fs.length:=by
    rcases Oq k fs.length with h|h
    ·exact h
    ·rw[Nz h]at hf;cases hf
   have c:∀j,j<4->w.cell? ⟨g,k*4+j,MH⟩=(acg b f)[j]?:=by
    intro j p;rw[<-an2 b fs k f hf j p,<-n,O0 (by omega)];simp[Nl,d]
   exact⟨c 0 (by omega),c 1 (by omega),c 2 (by omega),c 3 (by omega)⟩
theorem an4{k:Int}(h:Zz k=MI fs):∀f,f∈fs->1<=f.off/\f.off<=7:=by
 rcases afx k with⟨_,c⟩|rfl|rfl|rfl|rfl|rfl|rfl|rfl
 ·rw[c]at h;cases h
 all_goals (unfold Zz at h;simp at h;subst h;simp)
theorem an8{v:M7}(h:w.ownsRow base 94 4 v fs.length (fs.flatMap (acg b))):
  ∃a cap,v=MG a fs.length cap/\∀k f,fs[k]?=MI f->∃g,a=MI ⟨g,0,MH⟩/\base<=g/\g<w.heap.size /\
   w.cell? ⟨g,k*4,MH⟩=MI (Na (pp b f))/\w.cell? ⟨g,k*4+1,MH⟩=MI (Na (pq b f))/\w.cell? ⟨g,k*4+2,MH⟩=MI (yB f.lo)/\w.cell? ⟨g,k*4+3,MH⟩=MI (yB f.hi):=by
 rcases awK h with⟨rfl,rfl⟩|⟨g,cap,rfl,d,i,c⟩
 ·exact⟨MH,0,rfl,fun k f hf=>by simp at hf⟩
 ·exact⟨_,cap,rfl,fun k f hf=>⟨g,rfl,d,i,c k f hf⟩⟩
theorem an7{b c:MO}{row:Option Nat}(h:a.grownBy b row)(k:b.grownBy c row):a.grownBy c row :=
 ⟨k.os.trans h.os,k.tape.trans h.tape,k.output.trans h.output,Nm h.size k.size,fun i hi hne=>(k.block i (M8 hi h.size) hne).trans (h.block i hi hne)⟩
theorem awI{b:MO}{row:Option Nat}(h:yA a b):a.grownBy b row :=
 ⟨h.os,h.tape,h.output,h.size,fun i hi _=>h.block i hi⟩
theorem an3{k:Int}(h:Zz k=MI fs):fs.length<=3:=by
 rcases afx k with⟨_,c⟩|rfl|rfl|rfl|rfl|rfl|rfl|rfl
 ·rw[c]at h;cases h
 all_goals (unfold Zz at h;simp at h;subst h;simp)
theorem awJ(e:Ev)(fs:List Xf)(w:MO)(hf:Zz e.kind=MI fs) :
  Ni MK 36 #[Ny #[yB e.kind,yB e.key,yB e.slot,yB e.gen,M3 e.good,yB e.req,yB e.be,yB e.wt]] w fun r w'=>r=MN (M3 (!e.GE fs))/\yA w w':=by
 have K:=an3 hf;go_enter azV,azQ
 go_wp2_with fail
 refine(an1 w.heap.size e fs _ (adS w _) hf).mono ?_;rintro r n ⟨v,rfl,p,l⟩;obtain⟨a,L,rfl,t⟩:=an8 l;have D:YT n w.heap.size e:=YT.below (adS w _) p (by simp);have y:M6 (Zz e.kind=MI fs/\_/\_):=⟨hf,l,t⟩;clear hf l t
 go_wp2
 go_loopw [13] (fun i wr=>∃k:Nat,k<=fs.length/\i=yB k/\YT wr w.heap.size (e.Gc (fs.take k))/\n.grownBy wr (MI w.heap.size)) (fun i _=>fs.length-(On i).toNat)
 case atStart=>exact⟨0,Nx _,rfl,D,⟨rfl,rfl,rfl,MV _,fun _ _ _=>rfl⟩⟩
 case round =>
  obtain⟨k,z,rfl,d,j⟩:=hrel
  by_cases hlt:k<fs.length
  ·have m:fs[k]?=MI fs[k]:=MR hlt
   have s:fs.take (k+1)=fs.take k++[fs[k]]:=M9 hlt;have q:=an4 y.out.1 fs[k] (Nk hlt);generalize fs[k]=f at *;obtain⟨g,rfl,I,J,c0,c1,c2,c3⟩:=y.out.2.2 k f m;have u:∀o,wr.cell? ⟨g,o,MH⟩=n.cell? ⟨g,o,MH⟩:=fun o=>j.cell_far ⟨g,o,MH⟩ J (by simp at I⊢;omega)
   rw[<-u]at c0 c1 c2 c3;have G:M6 (_/\_):=⟨m,s⟩;clear m s u;have N:=j.size;have B:=d.lt;have C:∀x,YT (wr.alloc x) w.heap.size (e.Gc (fs.take k)):=fun x=>by unfold YT;rw[Ov _ _ _ B];exact d
   go_wp2_with fail
   refine(awL w.heap.size f _ 0 _ (C _) q.1 q.2).mono ?_;rintro r Y ⟨rfl,F,E⟩;go_wp2
   go_roundw
   case rel=>exact⟨k+1,by omega,by go_num,by rw[G.out.2,Ev.Gc,Pu];exact F,an7 (an7 j (awI ((MY _ _).alloc (MV _) _))) E⟩
   case measure=>simp[On];omega
  ·have:k=fs.length:=by omega
   subst this;rw[NT]at d;have A:yA w wr:=(((MY w.heap.size w).alloc (MV _) _).trans (p.mono (by simp))).grown j (by have:=p.size;simp at this;omega) (by intro k z;cases z;exact MV _);have M:=d.Gu 0;have S:wr.cell? ⟨w.heap.size,0,MH⟩=MI (yB (e.Gc fs).kind):=d.F7 0;have O:wr.cell? ⟨w.heap.size,1,MH⟩=MI (yB (e.Gc fs).key):=d.F7 1;have V:wr.cell? ⟨w.heap.size,2,MH⟩=MI (yB (e.Gc fs).slot):=d.F7 2;have T:wr.cell? ⟨w.heap.size,3,MH⟩=MI (yB (e.Gc fs).gen):=d.F7 3;have P:wr.cell? ⟨w.heap.size,4,MH⟩=MI (M3 (e.Gc fs).good):=d.F7 4;have U:wr.cell? ⟨w.heap.size,5,MH⟩=MI (yB (e.Gc fs).req):=d.F7 5;have R:wr.cell? ⟨w.heap.size,6,MH⟩=MI (yB (e.Gc fs).be):=d.F7 6;have Q:wr.cell? ⟨w.heap.size,7,MH⟩=MI (yB (e.Gc fs).wt):=d.F7 7;have H:M6 (e.GE fs=Nn ({e.Gc fs with kind:=0}=Ev.Hi)):=rfl;generalize e.Gc fs=c at *;go_wp2
   all_goals
    go_ret;refine⟨?_,A.setCell (MV _) _⟩;rw[H.out];simp[Ev.Hi, *]
theorem YT.Jl(h:YT w b e):w.cell? ⟨b,0,MH⟩=MI (yB e.kind)/\w.cell? ⟨b,1,MH⟩=MI (yB e.key)/\w.cell? ⟨b,2,MH⟩=MI (yB e.slot)/\w.cell? ⟨b,3,MH⟩=MI (yB e.gen)/\w.cell? ⟨b,4,MH⟩=MI (M3 e.good)/\w.cell? ⟨b,5,MH⟩=MI (yB e.req)/\w.cell? ⟨b,6,MH⟩=MI (yB e.be)/\w.cell? ⟨b,7,MH⟩=MI (yB e.wt):=
 ⟨h.F7 0,h.F7 1,h.F7 2,h.F7 3,h.F7 4,h.F7 5,h.F7 6,h.F7 7⟩
theorem ag1{W b:MO}(h:yA W a)(k:yA a b):yA W b:=h.trans (k.mono h.size)
theorem aeA{W:MO}{B:Nat}{v0 v1 v2 v3:M7}(n0:W.cell? ⟨B,0,MH⟩=MI v0)(n1:W.cell? ⟨B,1,MH⟩=MI v1)(n2:W.cell? ⟨B,2,MH⟩=MI v2)(n3:W.cell? ⟨B,3,MH⟩=MI v3)(h:yA W a):
  a.cell? ⟨B,0,MH⟩=MI v0/\a.cell? ⟨B,1,MH⟩=MI v1/\a.cell? ⟨B,2,MH⟩=MI v2/\a.cell? ⟨B,3,MH⟩=MI v3/\yA W a:=by
 have c:B<W.heap.size:=MX W ⟨B,0,MH⟩ n0;exact⟨by rw[h.cell c];exact n0,by rw[h.cell c];exact n1,by rw[h.cell c];exact n2,by rw[h.cell c];exact n3,h⟩
theorem awu{α:Type}(p:α->Bool)(l:List α)(k:Nat)(x:α)(h:l[k]?=MI x)(hp:p x=Nb):l.all p=false:=by
 rw[Bool.eq_false_iff];intro c;rw[List.all_eq_true]at c;have:=c x (Nu h);rw[hp]at this;cases this
theorem awx(e:Ev)(fs:List Xf)(w:MO)(hf:Zz e.kind=MI fs) :
  Ni MK 15 #[Ny #[yB e.kind,yB e.key,yB e.slot,yB e.gen,M3 e.good,yB e.req,yB e.be,yB e.wt]] w fun r w'=>r=MN (yB (Yk e))/\yA w w':=by
 have a0:=an3 hf;have I:M6 (Yk e=if fs.all e.GZ then(if e.GE fs then 0 else 3)else 2):=by unfold Yk;rw[hf];exact rfl
 go_enter Tryz.func15,Tryz.ntmps15
 go_wp2_with fail
 refine(an1 w.heap.size e fs _ (adS w _) hf).mono ?_;rintro r l ⟨v,rfl,H,B⟩;obtain⟨a,a1,rfl,P⟩:=an8 B;have A:YT l w.heap.size e:=YT.below (adS w _) H (by simp);have F:M6 (Zz e.kind=MI fs/\_/\_):=⟨hf,B,P⟩;clear hf B P
 go_wp2
 go_loopw [15] (fun i wr=>∃k:Nat,k<=fs.length/\i=yB k/\(fs.take k).all e.GZ=Nw/\yA l wr) (fun i _=>fs.length-(On i).toNat)
 case atStart=>exact⟨0,Nx _,rfl,rfl,MY _ _⟩
 case round =>
  obtain⟨k,hk,rfl,J,t⟩:=hrel;have K:yA w wr:=(((MY w.heap.size w).alloc (MV _) _).trans (H.mono (by simp))).trans (t.mono (by have:=H.size;simp at this;omega));have j:M6 (_/\_):=⟨J,K⟩;clear J K
  by_cases hlt:k<fs.length
  ·have C:fs[k]?=MI fs[k]:=MR hlt
   have L:fs.take (k+1)=fs.take k++[fs[k]]:=M9 hlt;have z:=an4 F.out.1 fs[k] (Nk hlt);generalize fs[k]=f at *;obtain⟨g,rfl,g1,g2,c0,c1,c2,c3⟩:=F.out.2.2 k f C;have Q:∀o,wr.cell? ⟨g,o,MH⟩=l.cell? ⟨g,o,MH⟩:=fun o=>t.cell (p:=⟨g,o,MH⟩) g2
   rw[<-Q]at c0 c1 c2 c3;have S:M6 (_/\_):=⟨C,L⟩;clear C L Q;have V:=t.size;have U:=A.lt;have G:=A.below t U;have D:∀x,YT (wr.alloc x) w.heap.size e:=fun x=>by unfold YT;rw[Ov _ _ _ (by omega)];exact G
   go_wp2_with fail
   obtain⟨W,d⟩:=yE (wr.alloc (MP #[Na (pp w.heap.size f),Na (pq w.heap.size f),yB f.lo,yB f.hi] 94));have q:W.cell? ⟨wr.heap.size,0,MH⟩=MI (Na (pp w.heap.size f)):=by rw[d];simp
   have m:W.cell? ⟨wr.heap.size,1,MH⟩=MI (Na (pq w.heap.size f)):=by rw[d];simp
   have s:W.cell? ⟨wr.heap.size,2,MH⟩=MI (yB f.lo):=by rw[d];simp
   have n:W.cell? ⟨wr.heap.size,3,MH⟩=MI (yB f.hi):=by rw[d];simp
   have O:YT W w.heap.size e:=by rw[d];exact D _
   have M:yA l W:=by rw[d];exact t.alloc V _
   rw[<-d];have N:M6 (_/\_):=⟨d,D⟩;clear d D;have T:M6 (e.GZ f=Nn (f.lo<=e.num f.off/\e.num f.off<=f.hi)):=rfl
   by_cases hin:f.lo<=e.num f.off/\e.num f.off<=f.hi
   ·go_region_held3 (fun w'=>w'.cell? ⟨wr.heap.size,0,MH⟩=MI (Na (pp w.heap.size f))/\w'.cell? ⟨wr.heap.size,1,MH⟩=MI (Na (pq w.heap.size f))/\w'.cell? ⟨wr.heap.size,2,MH⟩=MI (yB f.lo)/\w'.cell? ⟨wr.heap.size,3,MH⟩=MI (yB f.hi)/\yA W w') (first|exact aeA q m s n ((MY _ _).drew)|exact aeA q m s n (ag1 (Za c) u)|exact aeA q m s n (Za c))
     (first|(go_at_call 18;refine(an5 w.heap.size f e W.drew O z.1 z.2).mono ?_;rintro r y ⟨rfl,c⟩)|(go_at_call 35;refine(awP _ _ f.lo f.hi (e.num f.off) y hin.1 hin.2).mono ?_;rintro r Z ⟨rfl,u⟩))
    go_wp2
    go_roundw
    case rel =>
     refine⟨k+1,by omega,by go_num,?_,M.trans ((ag1 (Za c) u).mono M.size)⟩;rw[S.out.2,List.all_append,j.out.1];simp[T.out,hin]
    case measure=>simp[On];omega
   ·go_region_held3 (fun w'=>w'.cell? ⟨wr.heap.size,0,MH⟩=MI (Na (pp w.heap.size f))/\w'.cell? ⟨wr.heap.size,1,MH⟩=MI (Na (pq w.heap.size f))/\w'.cell? ⟨wr.heap.size,2,MH⟩=MI (yB f.lo)/\w'.cell? ⟨wr.heap.size,3,MH⟩=MI (yB f.hi)/\yA W w') (first|exact aeA q m s n ((MY _ _).drew)|exact aeA q m s n (ag1 (Za c) u)|exact aeA q m s n (Za c))
     (first|(go_at_call 18;refine(an5 w.heap.size f e W.drew O z.1 z.2).mono ?_;rintro r y ⟨rfl,c⟩)|(go_at_call 35;refine(awO _ _ f.lo f.hi (e.num f.off) y hin).mono ?_;rintro r Z ⟨rfl,u⟩))
    go_wp2;go_ret;refine⟨?_,?_⟩
    ·rw[I.out,awu _ fs k f S.out.1 (by rw[T.out];simpa using hin)];rfl
    ·exact j.out.2.trans ((((MY wr.heap.size wr).alloc (MV _) _).trans (N.out.1 ▸ (ag1 (Za c) u).mono (by rw[N.out.1];simp))).mono j.out.2.size)
  ·have:k=fs.length:=by omega
   subst this;rw[NT]at j;have E:=I.out;rw[j.out.1]at E;have R:M6 (Yk e=if e.GE fs then 0 else 3):=E;clear E I;have G:=A.below t A.lt;obtain⟨e0,e1,e2,e3,e4,e5,e6,e7⟩:=G.Jl
   go_wp2_with fail
   refine(awJ e fs _ F.out.1).mono ?_;rintro r y ⟨rfl,c⟩;have Y:M6 (yA w y):=j.out.2.trans (c.mono j.out.2.size);cases hcl:e.GE fs
   all_goals
    rw[hcl]at R;go_wp2;go_ret;exact⟨by rw[R.out];rfl,Y.out⟩
theorem aww(e:Ev)(w:MO)(hf:e.kind<1\/7<e.kind)(hn:Zz e.kind=MH) :
  Ni MK 15 #[Ny #[yB e.kind,yB e.key,yB e.slot,yB e.gen,M3 e.good,yB e.req,yB e.be,yB e.wt]] w fun r w'=>r=MN (yB (Yk e))/\yA w w':=by
 have c:M6 (Yk e=5):=by unfold Yk;rw[hn];exact rfl
 go_enter Tryz.func15,Tryz.ntmps15
 go_wp2_with fail
 refine(awF w.heap.size e _ (adS w _) hf).mono ?_;rintro r d ⟨rfl,rfl⟩;go_wp2;go_ret;exact⟨by rw[c.out];rfl,(MY _ _).alloc (MV _) _⟩
theorem awv(e:Ev)(w:MO) :
  Ni MK 15 #[Ny #[yB e.kind,yB e.key,yB e.slot,yB e.gen,M3 e.good,yB e.req,yB e.be,yB e.wt]] w fun r w'=>r=MN (yB (Yk e))/\yA w w':=by
 cases h:Zz e.kind with
 |some fs=>exact awx e fs w h
 |none =>
  refine aww e w ?_ h;rcases afx e.kind with⟨c,_⟩|c|c|c|c|c|c|c
  ·exact c
  all_goals (rw[c]at h;simp[Zz]at h)
end
end Go.Proofs.YtbdpocjfnnojbaaGreatDoor.Q
