/-
  Contracts of the layers and of core, part 7. Conditions: as each theorem says.
-/
import Derived.Test.YtbdpocjfnnojbaaGreatDoorP4
open Array renaming getElem?_eq_some_iff->ZAa
open Bool renaming false->Nb,true->Nw
open Decidable renaming decide->Nn
open Go renaming Addr->Oc,Calls->Ni,Program->O8,TypeId->NU,Value->M7,World->MO,grownCap->QR,maxLen->NE
open Go.Builtin renaming append_->N2,zeroCells->N5
open Go.Calls renaming quiet_of->Qe
open Go.Ending renaming returned->MN
open Go.Fn renaming func->PD
open Go.IntKind renaming i64->ME
open Go.Obj renaming cells->MP
open Go.Oper renaming wp->RB
open Go.Operand renaming tmp->O6
open Go.Proofs.Tryz renaming func101->QB,func102->ayy,func105->ayX,func122->Vk,func145->SM,func148->azK,func149->Ue,func152->ayR,func154->UR,func155->ayv,func156->SN,func162->VW,func205->Rl,func210->Uj,func50->Tl,func68->ayE,func69->Si,func91->TP,func93->Ux,func94->azd,func96->UY,ntmps101->Qo,ntmps102->ays,ntmps105->ayM,ntmps122->Vg,ntmps145->Sr,ntmps148->azB,ntmps149->T4,ntmps152->ayH,ntmps154->UE,ntmps155->ayr,ntmps156->Ss,ntmps162->VM,ntmps205->Q5,ntmps210->T9,ntmps50->S1,ntmps68->ayx,ntmps69->R0,ntmps91->TI,ntmps93->Un,ntmps94->ay9,ntmps96->UV,prog->MK,results122->Vc,underlying227->azY,underlying38->UZ,underlying41->PK,underlying46->U9,underlying49->OX
open Go.RowKit renaming Below->MQ,Hid->M6
open Go.Value renaming agg->Ny,bool->M3,func->PB,int->MF,pointer->Na,slice->MG,tuple->Nv
open Go.World renaming cell?->Nl,frozen?->Ng
open List renaming find?_append->Tf,getElem?_eq_some_iff->ZAb,length_eq_zero_iff->ZAc,mem_map->ZAd,range->Pm,replicate->Nj
open Option renaming none->MH,some->MI
open Or renaming inl->Nt,inr->NF
open Prod.mk renaming injEq->Q7
namespace Go.Proofs.YtbdpocjfnnojbaaGreatDoor.Q
set_option linter.unusedVariables false
set_option linter.unusedSimpArgs false
set_option maxHeartbeats 16000000
set_option maxRecDepth 100000
open Go.RowKit
attribute [local go_sem ↓] Go.wp_at_zero Go.wp_at_succ
variable {v:M7}{W w5:MO}{b base:Nat}
structure Us where
 ph:Option Oc
 ch:Nat
 pt:Option Oc
 ct:Nat
 pf:Option Oc
 cf:Nat
 pl:Option Oc
 cl:Nat
 pr:Option Oc
 cr:Nat
 ps:Option Oc
 cs:Nat
 pw:Option Oc
 cw:Nat
 ms:List Mk
def Vs.us(V:Vs):Us:=⟨MI ⟨V.bh,0,MH⟩,V.ch,V.pt,V.ct,V.pf,V.cf,V.pl,V.cl,V.pr,V.cr,V.ps,V.cs,V.pw,V.cw,V.ms⟩
abbrev XR(U:Us)(G:Gt):Array Value:=#[yB G.cfg.flows,yB G.cfg.num,yB G.cfg.den,yB G.cfg.tries,yB G.cfg.warm,yB G.cfg.drain,yB G.cfg.idle,yB G.cfg.conn,yB G.cfg.ret,yB G.cfg.most,yB G.cfg.bn,yB G.cfg.bd,yB G.cfg.bb,yB G.cfg.wn,yB G.cfg.wf,yB G.cfg.wh,yB G.now,MG U.pt G.tab.length U.ct,MG U.pf G.fls.length U.cf,MG U.pl G.liv.length U.cl,MG U.pr G.req.length U.cr,MG U.ps (WW G.wts).length U.cs,MG U.ph 12 U.ch,yB G.tok,yB G.wnow,MG U.pw 25 U.cw]
abbrev acN(U:Us)(G:Gt):Value:=Ny (XR U G)
abbrev aeL(U:Us)(G:Gt):Array Value:=#[yB G.cfg.flows,yB G.cfg.num,yB G.cfg.den,yB G.cfg.tries,yB G.cfg.warm,yB G.cfg.drain,yB G.cfg.idle,yB G.cfg.conn,yB G.cfg.ret,yB G.cfg.most,yB G.cfg.bn,yB G.cfg.bd,yB G.cfg.bb,yB G.cfg.wn,yB G.cfg.wf,yB G.cfg.wh,yB G.now,MG U.pt G.tab.length U.ct,MG U.pf G.fls.length U.cf,MG U.pl G.liv.length U.cl,MG U.pr G.req.length U.cr,MG U.ps (WW G.wts).length U.cs,MG U.ph 12 U.ch,yB G.tok,yB G.wnow,MG U.pw 25 U.cw,MG MH 0 0]
structure Xd(w:MO)(U:Us)(G:Gt):Prop where
 tab:Yy w (MG U.pt G.tab.length U.ct) G.tab
 fls:ZR w (MG U.pf G.fls.length U.cf) G.fls
 book:aaM w (MG U.pl G.liv.length U.cl) (MG U.pr G.req.length U.cr) G.liv G.req
 ring:Xz w (MG U.ps (WW G.wts).length U.cs) (WW G.wts)
 whl:∃ls,Y9 G.wnow ls/\(∀t,t∈ls.flatten↔G.tms t)/\Zo w (MG U.pw 25 U.cw) ls
 hea:Xw aa0 w (MG U.ph 12 U.ch) (U.ms.zip G.hea)
 msl:U.ms.length=12
 hel:G.hea.length=12
 marks:∀(i:Nat) (m:Mk) (h:He),U.ms[i]?=MI m->G.hea[i]?=MI h->Yo w (MG m.1 h.marks.length m.2) h.marks
section
variable {base:Nat}{w w':MO}{g:Nat}{V:Vs}{U:Us}{G:Gt}
theorem Xd.below(h:Xd w U G)(hb:yA w w'):Xd w' U G:=by
 obtain⟨ls,a,d,f⟩:=h.whl;exact⟨h.tab.below hb,Xw.below h.fls hb,h.book.below hb,h.ring.below hb,⟨ls,a,d,f.below hb⟩,Xw.below h.hea hb,h.msl,h.hel,fun i m x e1 e2=>(h.marks i m x e1 e2).below hb⟩
structure RG(w:MO)(g:Nat)(U:Us)(G:Gt):Prop where
 box:w.heap[g]?=MI (MP (aeL U G) 165 (0,0))
 wat:Xd w U G
theorem RG.below(h:RG w g U G)(hb:yA w w'):RG w' g U G:=⟨WO h.box hb,h.wat.below hb⟩
theorem RG.lt(h:RG w g U G):g<w.heap.size:=(ZAa.1 h.box).1
theorem RG.c0(h:RG w g U G):w.cell? ⟨g,0,MH⟩=MI (yB G.cfg.flows):=by rw[MW w g 0 _ _ (0,0) h.box];rfl
theorem RG.c1(h:RG w g U G):w.cell? ⟨g,1,MH⟩=MI (yB G.cfg.num):=by rw[MW w g 1 _ _ (0,0) h.box];rfl
theorem RG.c2(h:RG w g U G):w.cell? ⟨g,2,MH⟩=MI (yB G.cfg.den):=by rw[MW w g 2 _ _ (0,0) h.box];rfl
theorem RG.c3(h:RG w g U G):w.cell? ⟨g,3,MH⟩=MI (yB G.cfg.tries):=by rw[MW w g 3 _ _ (0,0) h.box];rfl
theorem RG.c4(h:RG w g U G):w.cell? ⟨g,4,MH⟩=MI (yB G.cfg.warm):=by rw[MW w g 4 _ _ (0,0) h.box];rfl
theorem RG.c5(h:RG w g U G):w.cell? ⟨g,5,MH⟩=MI (yB G.cfg.drain):=by rw[MW w g 5 _ _ (0,0) h.box];rfl
theorem RG.c6(h:RG w g U G):w.cell? ⟨g,6,MH⟩=MI (yB G.cfg.idle):=by rw[MW w g 6 _ _ (0,0) h.box];rfl
theorem RG.c7(h:RG w g U G):w.cell? ⟨g,7,MH⟩=MI (yB G.cfg.conn):=by rw[MW w g 7 _ _ (0,0) h.box];rfl
theorem RG.c8(h:RG w g U G):w.cell? ⟨g,8,MH⟩=MI (yB G.cfg.ret):=by rw[MW w g 8 _ _ (0,0) h.box];rfl
theorem RG.c9(h:RG w g U G):w.cell? ⟨g,9,MH⟩=MI (yB G.cfg.most):=by rw[MW w g 9 _ _ (0,0) h.box];rfl
theorem RG.Hf(h:RG w g U G):w.cell? ⟨g,10,MH⟩=MI (yB G.cfg.bn):=by rw[MW w g 10 _ _ (0,0) h.box];rfl
theorem RG.Hn(h:RG w g U G):w.cell? ⟨g,11,MH⟩=MI (yB G.cfg.bd):=by rw[MW w g 11 _ _ (0,0) h.box];rfl
theorem RG.Hg(h:RG w g U G):w.cell? ⟨g,12,MH⟩=MI (yB G.cfg.bb):=by rw[MW w g 12 _ _ (0,0) h.box];rfl
theorem RG.GS(h:RG w g U G):w.cell? ⟨g,13,MH⟩=MI (yB G.cfg.wn):=by rw[MW w g 13 _ _ (0,0) h.box];rfl
theorem RG.GU(h:RG w g U G):w.cell? ⟨g,14,MH⟩=MI (yB G.cfg.wf):=by rw[MW w g 14 _ _ (0,0) h.box];rfl
theorem RG.GO(h:RG w g U G):w.cell? ⟨g,15,MH⟩=MI (yB G.cfg.wh):=by rw[MW w g 15 _ _ (0,0) h.box];rfl
theorem RG.Gm(h:RG w g U G):w.cell? ⟨g,16,MH⟩=MI (yB G.now):=by rw[MW w g 16 _ _ (0,0) h.box];rfl
theorem RG.Gs(h:RG w g U G):w.cell? ⟨g,17,MH⟩=MI (MG U.pt G.tab.length U.ct):=by rw[MW w g 17 _ _ (0,0) h.box];rfl
theorem RG.Gr(h:RG w g U G):w.cell? ⟨g,18,MH⟩=MI (MG U.pf G.fls.length U.cf):=by rw[MW w g 18 _ _ (0,0) h.box];rfl
theorem RG.Gn(h:RG w g U G):w.cell? ⟨g,19,MH⟩=MI (MG U.pl G.liv.length U.cl):=by rw[MW w g 19 _ _ (0,0) h.box];rfl
theorem RG.GD(h:RG w g U G):w.cell? ⟨g,20,MH⟩=MI (MG U.pr G.req.length U.cr):=by rw[MW w g 20 _ _ (0,0) h.box];rfl
theorem RG.GX(h:RG w g U G):w.cell? ⟨g,21,MH⟩=MI (MG U.ps (WW G.wts).length U.cs):=by rw[MW w g 21 _ _ (0,0) h.box];rfl
theorem RG.GI(h:RG w g U G):w.cell? ⟨g,22,MH⟩=MI (MG U.ph 12 U.ch):=by rw[MW w g 22 _ _ (0,0) h.box];rfl
theorem RG.Id(h:RG w g U G):w.cell? ⟨g,23,MH⟩=MI (yB G.tok):=by rw[MW w g 23 _ _ (0,0) h.box];rfl
theorem RG.GJ(h:RG w g U G):w.cell? ⟨g,24,MH⟩=MI (yB G.wnow):=by rw[MW w g 24 _ _ (0,0) h.box];rfl
theorem RG.GH(h:RG w g U G):w.cell? ⟨g,25,MH⟩=MI (MG U.pw 25 U.cw):=by rw[MW w g 25 _ _ (0,0) h.box];rfl
theorem apH(h:RG w g U G)(b:Int) :
  Ni MK 149 #[gP g,yB b] w fun r w'=>r=MN (M3 (Zr G.fls b))/\yA w w':=by
 obtain⟨W,d⟩:=yE (w.alloc (MP #[yB b] 3));have a:yA w W:=by rw[d];exact WQ w
 have i:=h.below a;have l:W.cell? ⟨w.heap.size,0,MH⟩=MI (yB b):=by rw[d];exact Xu (M1 _ _)
 have o:M6 _:=aj8 (MG U.pf G.fls.length U.cf) G.fls b w.heap.size W i.wat.fls l;have q:=h.Gr;have s:=h.lt;have H:M6 _:=a;clear i h l a;go_enter Ue,T4
 go_wp2_with fail
 rw[<-d];refine Nd o.out ?_;rintro r u ⟨rfl,f⟩;have m:M6 _:=H.out.trans (f.mono H.out.size);clear f;go_wp2;go_ret;exact⟨rfl,m.out⟩
theorem apU(h:RG w g U G)(b:Int) :
  Ni MK 122 #[gP g,yB b] w fun r w'=>r=MN (abR (WS G.liv b))/\yA w w':=by
 obtain⟨W,E⟩:=yE ((w.alloc (MP #[yB b] 3)).alloc (YQ aa1));have N:=acu w (MP #[yB b] 3) (YQ aa1);rw[<-E]at N;obtain⟨F,L,C,a9⟩:=N;have D:=h.below C;have P:W.cell? ⟨w.heap.size,0,MH⟩=MI (yB b):=Xu F;have A:M6 _:=akz (MG U.pl G.liv.length U.cl) G.liv b w.heap.size W D.wat.book.1 P;have M:=h.Gn;have b3:=h.lt;have H:M6 (_/\_/\_):=⟨C,D,L⟩;clear h P C D F L
 by_cases hi:G.liv.findIdx (fun x=>x.1 == b)<G.liv.length
 ·obtain⟨i,q⟩:=yE (G.liv.findIdx (fun x=>x.1 == b))
  have u:X6 (G.liv.findIdx (fun x=>x.1 == b)) G.liv.length=(i:Int):=by rw[<-q];exact Nh (by rw[q];exact hi)
  rw[u]at A;rw[<-q]at hi;obtain⟨x,s⟩:=yE (WS G.liv b);have K:x=G.liv[i]:=by rw[s,afQ,<-q];simp[hi]
  have a6:(i:Int)<(G.liv.length:Int):=by omega
  rw[<-s];have T:M6 (_/\_):=⟨K,q⟩;clear u q s K;go_enter Vk,Vg
  go_wp2_with fail
  rw[<-E];refine Nd A.out ?_;rintro r l ⟨rfl,o⟩;have B:=H.out.2.1.below o;have J:=B.Gn;have m:=WO H.out.2.2 o;obtain⟨a,a7,he,a0,Q,O⟩:=adt.F6 B.wat.book.1;injection he with e1 e2 e3;unfold NE at Q;rw[e3]at J;obtain⟨b1,o1,I,a8,z1,z2,z3,z4,Y,z6⟩:=O i hi;rw[e1,I]at J;rw[<-T.out.1]at z1 z2 z3 z4 Y z6;have R:w.heap.size+1<l.heap.size:=(ZAa.1 m).1;have f0:l.frozen? ⟨w.heap.size+1,0,MH⟩=false:=by simp[Ng,m]
  have f1:l.frozen? ⟨w.heap.size+1,1,MH⟩=false:=by simp[Ng,m]
  have f2:l.frozen? ⟨w.heap.size+1,2,MH⟩=false:=by simp[Ng,m]
  have f3:l.frozen? ⟨w.heap.size+1,3,MH⟩=false:=by simp[Ng,m]
  have f4:l.frozen? ⟨w.heap.size+1,4,MH⟩=false:=by simp[Ng,m]
  have f5:l.frozen? ⟨w.heap.size+1,5,MH⟩=false:=by simp[Ng,m]
  have Z:l.cell? ⟨w.heap.size+1,0,MH⟩=MI (yB 0):=by rw[MW l _ 0 _ _ (0,0) m];rfl
  have S:l.cell? ⟨w.heap.size+1,1,MH⟩=MI (yB 0):=by rw[MW l _ 1 _ _ (0,0) m];rfl
  have k2:l.cell? ⟨w.heap.size+1,2,MH⟩=MI (yB 0):=by rw[MW l _ 2 _ _ (0,0) m];rfl
  have k3:l.cell? ⟨w.heap.size+1,3,MH⟩=MI (yB 0):=by rw[MW l _ 3 _ _ (0,0) m];rfl
  have k4:l.cell? ⟨w.heap.size+1,4,MH⟩=MI (yB 0):=by rw[MW l _ 4 _ _ (0,0) m];rfl
  have k5:l.cell? ⟨w.heap.size+1,5,MH⟩=MI (yB 0):=by rw[MW l _ 5 _ _ (0,0) m];rfl
  have y:M6 (_/\_):=⟨af0 (a':=yB x.1) (b':=yB x.2.1) (c':=yB x.2.2.1) (d':=yB x.2.2.2.1) (e':=yB x.2.2.2.2.1) (f':=yB x.2.2.2.2.2) m,afE (a:=yB x.1) (b:=yB x.2.1) (c:=yB x.2.2.1) (d:=yB x.2.2.2.1) (e:=yB x.2.2.2.2.1) (f:=yB x.2.2.2.2.2) (H.out.1.trans (o.mono H.out.1.size)) (Ps _)⟩;clear o M B m O e1 I e3;go_wp2;exact Np (Z2 Vc rfl (afS y.out.1)) rfl ⟨rfl,y.out.2⟩
 ·have u:X6 (G.liv.findIdx (fun x=>x.1 == b)) G.liv.length = -1:=Nf hi
  rw[u]at A;have s:WS G.liv b=aa1:=by rw[afQ];simp[hi]
  rw[s];clear u s;go_enter Vk,Vg
  go_wp2_with fail
  rw[<-E];refine Nd A.out ?_;rintro r l ⟨rfl,o⟩;have m:=WO H.out.2.2 o;have R:w.heap.size+1<l.heap.size:=(ZAa.1 m).1;have f0:l.frozen? ⟨w.heap.size+1,0,MH⟩=false:=by simp[Ng,m]
  have f1:l.frozen? ⟨w.heap.size+1,1,MH⟩=false:=by simp[Ng,m]
  have f2:l.frozen? ⟨w.heap.size+1,2,MH⟩=false:=by simp[Ng,m]
  have f3:l.frozen? ⟨w.heap.size+1,3,MH⟩=false:=by simp[Ng,m]
  have f4:l.frozen? ⟨w.heap.size+1,4,MH⟩=false:=by simp[Ng,m]
  have f5:l.frozen? ⟨w.heap.size+1,5,MH⟩=false:=by simp[Ng,m]
  have Z:l.cell? ⟨w.heap.size+1,0,MH⟩=MI (yB 0):=by rw[MW l _ 0 _ _ (0,0) m];rfl
  have S:l.cell? ⟨w.heap.size+1,1,MH⟩=MI (yB 0):=by rw[MW l _ 1 _ _ (0,0) m];rfl
  have k2:l.cell? ⟨w.heap.size+1,2,MH⟩=MI (yB 0):=by rw[MW l _ 2 _ _ (0,0) m];rfl
  have k3:l.cell? ⟨w.heap.size+1,3,MH⟩=MI (yB 0):=by rw[MW l _ 3 _ _ (0,0) m];rfl
  have k4:l.cell? ⟨w.heap.size+1,4,MH⟩=MI (yB 0):=by rw[MW l _ 4 _ _ (0,0) m];rfl
  have k5:l.cell? ⟨w.heap.size+1,5,MH⟩=MI (yB 0):=by rw[MW l _ 5 _ _ (0,0) m];rfl
  have y:M6 (_/\_):=⟨af0 (a':=yB 0) (b':=yB 0) (c':=yB 0) (d':=yB 0) (e':=yB 0) (f':=yB 0) m,afE (a:=yB 0) (b:=yB 0) (c:=yB 0) (d:=yB 0) (e:=yB 0) (f:=yB 0) (H.out.1.trans (o.mono H.out.1.size)) (Ps _)⟩;clear o M m;go_wp2;exact Np (Z2 Vc rfl (afS (x:=aa1) y.out.1)) rfl ⟨rfl,y.out.2⟩
end
section
variable {base:Nat}{w w':MO}{g:Nat}{V:Vs}{U:Us}{G:Gt}
theorem abW(n a b:Int)(w:MO):Ni MK 68 #[yB n,yB a,yB b] w fun r w'=>r=MN (M3 (Nn (a<=n/\n<=b)))/\w'=w:=by
 obtain⟨z,d⟩:=yE (Nn (a<=n/\n<=b));rw[<-d]
 by_cases h1:a<=n
 ·by_cases h2:n<=b
  ·have f:M6 (z=Nw):=d.trans (Nq ⟨h1,h2⟩)
   clear d;go_enter ayE,ayx;go_wp2;go_ret;exact⟨by rw[f.out];rfl,rfl⟩
  ·have f:M6 (z=Nb):=d.trans (M0 fun h=>h2 h.2)
   clear d;have i:¬n<=b:=h2;go_enter ayE,ayx;go_wp2;go_ret;exact⟨by rw[f.out];rfl,rfl⟩
 ·have f:M6 (z=Nb):=d.trans (M0 fun h=>h1 h.1)
  clear d;go_enter ayE,ayx;go_wp2;go_ret;exact⟨by rw[f.out];rfl,rfl⟩
theorem apW(h:RG w g U G)(hwm:Wm G):Ni MK 94 #[gP g] w fun r w'=>r=MN (M3 Nw)/\yA w w':=by
 have d7:=hwm.im.bs.book.1.1;have d2:=h.Gn;have e9:=h.lt;obtain⟨al,f6,d4,d5,b6,b4⟩:=adt.F6 h.wat.book.1;injection d4 with el1 eln el3;unfold NE at b6;rw[el1,el3]at d2;clear el1 el3 eln;have H:M6 (_/\_/\_):=⟨h,hwm,b4⟩;clear h hwm b4;go_enter azd,ay9;go_wp2
 go_loopw [12] (fun t wr=>∃(k:Nat),t=yB (k:Int)/\k<=G.liv.length/\M6 (yA w wr)) (fun t _=>G.liv.length-(intOf t).toNat)
 case atStart=>exact⟨0,rfl,Nx _,MY _ _⟩
 case round =>
  obtain⟨k,rfl,hk,d⟩:=hrel;obtain⟨W,hW⟩:=yE wr;subst hW
  by_cases hlt:k<G.liv.length
  ·have d3:(k:Int)<(G.liv.length:Int):=by omega
   obtain⟨m,s,d0,l,N,Y,S,T,O,R⟩:=H.out.2.2 k hlt;obtain⟨⟨f,o,x3,y,i,Q⟩,L⟩:∃x,x=G.liv[k]:=⟨_,rfl⟩;have I:(f,o,x3,y,i,Q)∈G.liv:=by rw[L];exact Nk hlt
   rw[<-L]at N Y S T O R;have d1:y<=G.now:=H.out.2.1.im.bs.since _ I;have e0:=(d.out.cell (p:=⟨m,s+k*6,MH⟩) l).trans N;have e1:=(d.out.cell (p:=⟨m,s+k*6+1,MH⟩) l).trans Y;have e2:=(d.out.cell (p:=⟨m,s+k*6+2,MH⟩) l).trans S;have e3:=(d.out.cell (p:=⟨m,s+k*6+3,MH⟩) l).trans T;have e4:=(d.out.cell (p:=⟨m,s+k*6+4,MH⟩) l).trans O;have e5:=(d.out.cell (p:=⟨m,s+k*6+5,MH⟩) l).trans R;have b7:m<W.heap.size:=M8 l d.out.size;obtain⟨a,D⟩:=yE (W.alloc (YQ (f,o,x3,y,i,Q)));have J:yA W a:=by rw[D];exact WQ W
   have q:a.heap[W.heap.size]?=MI (YQ (f,o,x3,y,i,Q)):=by rw[D];exact M1 _ _
   have C:=(H.out.1.below d.out).below J;have y0:a.cell? ⟨W.heap.size,0,MH⟩=MI (yB f):=by rw[MW a _ 0 _ _ (0,0) q];rfl
   have y1:a.cell? ⟨W.heap.size,1,MH⟩=MI (yB o):=by rw[MW a _ 1 _ _ (0,0) q];rfl
   have y3:a.cell? ⟨W.heap.size,3,MH⟩=MI (yB y):=by rw[MW a _ 3 _ _ (0,0) q];rfl
   have y4:a.cell? ⟨W.heap.size,4,MH⟩=MI (yB i):=by rw[MW a _ 4 _ _ (0,0) q];rfl
   have b5:W.heap.size<a.heap.size:=(ZAa.1 q).1;have a7:=C.Gm;have a0:=C.lt;have d6:¬G.now<y:=by omega
   have F:M6 (_/\_/\_):=⟨C,d.out.trans (J.mono d.out.size),I⟩;clear C J q I L N Y S T O R d1 l;subst d0
   go_wp2_with fail
   rw[<-D];clear D e0 e1 e2 e3 e4 e5 b7
   go_quiet (fail)
   have P:(a.drewN nq).cell? ⟨W.heap.size,0,MH⟩=MI (yB f):=y0;have v1:(a.drewN nq).cell? ⟨W.heap.size,1,MH⟩=MI (yB o):=y1;have M:(a.drewN nq).cell? ⟨W.heap.size,4,MH⟩=MI (yB i):=y4;have K:(a.drewN nq).cell? ⟨g,16,MH⟩=MI (yB G.now):=a7;have E:W.heap.size<(a.drewN nq).heap.size:=b5;have a6:g<(a.drewN nq).heap.size:=a0;have B:M6 (_/\_):=⟨F.out.1.below (ZE (MY _ _) nq),ZE F.out.2.1 nq⟩;obtain⟨u,a8⟩:=yE (a.drewN nq);rw[<-a8]at P v1 M K E a6 B⊢;clear a8 y0 y1 y3 y4 a7 b5 a0
   by_cases h3:o=3
   ·subst h3
    have b9:¬i<=G.now:=by have:=H.out.2.1.till _ F.out.2.2 rfl;simp only at this;omega
    have d8:Nn (i<=G.now)=false:=M0 b9;have a9:Zr G.fls f=true:=H.out.2.1.im.drn _ F.out.2.2 rfl;have HB:M6 (∀X,yA u X->Ni MK 149 #[gP g,yB f] X fun r w'=>r=MN (M3 Nw)/\(w'.cell? ⟨g,16,MH⟩=MI (yB G.now)/\w'.cell? ⟨W.heap.size,0,MH⟩=MI (yB f)/\w'.cell? ⟨W.heap.size,1,MH⟩=MI (yB 3)/\w'.cell? ⟨W.heap.size,4,MH⟩=MI (yB i))/\M6 (yA u w')):=fun X hX=>by
     refine(apH (B.out.1.below hX) f).mono ?_;rw[a9];rintro r w' ⟨rfl,hb⟩;have A:=hX.trans (hb.mono hX.size);exact⟨rfl,⟨(A.cell a6).trans K,(A.cell E).trans P,(A.cell E).trans v1,(A.cell E).trans M⟩,A⟩
    clear a9
    go_wp2_with fail
    apply aan
    ·intro b8
     go_region_held3 (fun X=>X.cell? ⟨g,16,MH⟩=MI (yB G.now)/\X.cell? ⟨W.heap.size,0,MH⟩=MI (yB f)/\X.cell? ⟨W.heap.size,1,MH⟩=MI (yB 3)/\X.cell? ⟨W.heap.size,4,MH⟩=MI (yB i)) (first|exact⟨K,P,v1,M⟩|exact b3) (first|(go_at_call 149;refine(HB.out _ (by first|exact(MY _ _).drew|exact Below.refl _ _)).mono ?_;rintro r w3 ⟨rfl,b3,Z⟩))
     all_goals
      rename_i hHe;clear hHe b3;revert w3;exact b8.out
    intro w3 Z;have HQ:M6 _:=Z.out;clear Z;go_wp2
    go_roundw
    case rel=>exact⟨k+1,by go_num,hlt,B.out.2.trans (HQ.out.mono B.out.2.size)⟩
    case measure=>simp[intOf];omega
   ·have d9:(o == 3)=false:=beq_eq_false_iff_ne.2 h3
    clear h3
    go_wp2_with fail
    go_quiet (fail)
    go_wp2
    go_roundw
    case rel=>exact⟨k+1,by go_num,hlt,ZE B.out.2 _⟩
    case measure=>simp[intOf];omega
  ·obtain rfl:k=G.liv.length:=by omega
   have d3:¬(G.liv.length:Int)<(G.liv.length:Int):=by omega
   go_wp2;go_ret;exact⟨rfl,d.out⟩
end
abbrev ag9(c:Cf):Value:=Ny #[yB c.flows,yB c.num,yB c.den,yB c.tries,yB c.warm,yB c.drain,yB c.idle,yB c.conn,yB c.ret,yB c.most,yB c.bn,yB c.bd,yB c.bb,yB c.wn,yB c.wf,yB c.wh]
abbrev aha(c:Cf):Obj:=MP #[yB c.flows,yB c.num,yB c.den,yB c.tries,yB c.warm,yB c.drain,yB c.idle,yB c.conn,yB c.ret,yB c.most,yB c.bn,yB c.bd,yB c.bb,yB c.wn,yB c.wf,yB c.wh] 36
theorem aj6{w:MO}{g:Nat}{c:Cf}(h:w.heap[g]?=MI (aha c)):w.cell? ⟨g,0,MH⟩=MI (yB c.flows)/\w.cell? ⟨g,1,MH⟩=MI (yB c.num)/\w.cell? ⟨g,2,MH⟩=MI (yB c.den)/\w.cell? ⟨g,3,MH⟩=MI (yB c.tries)/\w.cell? ⟨g,4,MH⟩=MI (yB c.warm)/\w.cell? ⟨g,5,MH⟩=MI (yB c.drain)/\w.cell? ⟨g,6,MH⟩=MI (yB c.idle)/\w.cell? ⟨g,7,MH⟩=MI (yB c.conn)/\w.cell? ⟨g,8,MH⟩=MI (yB c.ret)/\w.cell? ⟨g,9,MH⟩=MI (yB c.most)/\w.cell? ⟨g,10,MH⟩=MI (yB c.bn)/\w.cell? ⟨g,11,MH⟩=MI (yB c.bd)/\w.cell? ⟨g,12,MH⟩=MI (yB c.bb)/\w.cell? ⟨g,13,MH⟩=MI (yB c.wn)/\w.cell? ⟨g,14,MH⟩=MI (yB c.wf)/\w.cell? ⟨g,15,MH⟩=MI (yB c.wh)/\g<w.heap.size :=
 ⟨by simp[Nl,h],by simp[Nl,h],by simp[Nl,h],by simp[Nl,h],by simp[Nl,h],by simp[Nl,h],by simp[Nl,h],by simp[Nl,h],by simp[Nl,h],by simp[Nl,h],by simp[Nl,h],by simp[Nl,h],by simp[Nl,h],by simp[Nl,h],by simp[Nl,h],by simp[Nl,h],(ZAa.1 h).1⟩
theorem ahs(n:Int)(w:MO):Ni MK 69 #[yB n] w fun r w'=>r=MN (M3 (Nn (1<=n/\n<=500)))/\w'=w:=by
 have H:M6 _:=abW n 1 500 w;go_enter Si,R0
 go_wp2_with fail
 refine Nd H.out ?_;rintro r a ⟨rfl,rfl⟩;go_wp2;go_ret;exact⟨by show MN (M3 (Nn (1<=n) && Nn (n<=500)))=_;rw[Bool.decide_and],rfl⟩
theorem apI(c:Cf)(w:MO):Ni MK 50 #[ag9 c] w fun r w'=>r=MN (M3 (Nn (adg c)))/\yA w w':=by
 obtain⟨x,l⟩:=yE (Nn (adg c));rw[<-l];have H:M6 _:=l;clear l;obtain⟨i,f⟩:=yE (w.alloc (aha c));have u:yA w i:=by rw[f];exact WQ w
 have o:i.heap[w.heap.size]?=MI (aha c):=by rw[f];exact M1 _ _
 obtain⟨k0,T,k2,k3,k4,k5,Z,k7,k8,k9,O,I,E,J,F,D,C⟩:=aj6 o;have a:M6 (_/\_/\_):=⟨u,o,f⟩;clear u o f;go_enter Tl,S1
 go_wp2_with fail
 rw[<-a.out.2.2];refine(abW c.flows 1 40 _).mono ?_;rintro r d ⟨rfl,rfl⟩
 by_cases t0:1<=c.flows/\c.flows<=40
 rotate_left
 ·rw[M0 t0]
  go_wp2;go_ret;exact⟨by rw[H.out,M0 (fun h=>t0 h.1)];rfl,a.out.1⟩
 rw[Nq t0]
 go_wp2_with fail
 refine(abW c.den 1 c.num _).mono ?_;rintro r d ⟨rfl,rfl⟩
 by_cases t1:1<=c.den/\c.den<=c.num
 rotate_left
 ·rw[M0 t1]
  go_wp2;go_ret;exact⟨by rw[H.out,M0 (fun h=>t1 h.2.1)];rfl,a.out.1⟩
 rw[Nq t1]
 by_cases t2:c.num<=20
 rotate_left
 ·have P:Nn (c.num<=20)=false:=M0 t2
  have HT:M6 (¬(c.num<=20)):=t2;go_wp2;go_ret;exact⟨by rw[H.out,M0 (fun h=>by have:=h.2.2.1;omega)];rfl,a.out.1⟩
 have P:Nn (c.num<=20)=true:=Nq t2
 go_wp2_with fail
 refine(abW c.tries 0 12 _).mono ?_;rintro r d ⟨rfl,rfl⟩
 by_cases t3:0<=c.tries/\c.tries<=12
 rotate_left
 ·rw[M0 t3]
  go_wp2;go_ret;exact⟨by rw[H.out,M0 (fun h=>t3 h.2.2.2.1)];rfl,a.out.1⟩
 rw[Nq t3]
 go_wp2_with fail
 refine(abW c.warm 0 500 _).mono ?_;rintro r d ⟨rfl,rfl⟩
 by_cases t4:0<=c.warm/\c.warm<=500
 rotate_left
 ·rw[M0 t4]
  go_wp2;go_ret;exact⟨by rw[H.out,M0 (fun h=>t4 h.2.2.2.2.1)];rfl,a.out.1⟩
 rw[Nq t4]
 go_wp2_with fail
 refine(ahs c.drain _).mono ?_;rintro r d ⟨rfl,rfl⟩
 by_cases t5:1<=c.drain/\c.drain<=500
 rotate_left
 ·rw[M0 t5]
  go_wp2;go_ret;exact⟨by rw[H.out,M0 (fun h=>t5 h.2.2.2.2.2.1)];rfl,a.out.1⟩
 rw[Nq t5]
 go_wp2_with fail
 refine(ahs c.idle _).mono ?_;rintro r d ⟨rfl,rfl⟩
 by_cases t6:1<=c.idle/\c.idle<=500
 rotate_left
 ·rw[M0 t6]
  go_wp2;go_ret;exact⟨by rw[H.out,M0 (fun h=>t6 h.2.2.2.2.2.2.1)];rfl,a.out.1⟩
 rw[Nq t6]
 go_wp2_with fail
 refine(ahs c.conn _).mono ?_;rintro r d ⟨rfl,rfl⟩
 by_cases t7:1<=c.conn/\c.conn<=500
 rotate_left
 ·rw[M0 t7]
  go_wp2;go_ret;exact⟨by rw[H.out,M0 (fun h=>t7 h.2.2.2.2.2.2.2.1)];rfl,a.out.1⟩
 rw[Nq t7]
 go_wp2_with fail
 refine(abW c.ret 0 20 _).mono ?_;rintro r d ⟨rfl,rfl⟩
 by_cases t8:0<=c.ret/\c.ret<=20
 rotate_left
 ·rw[M0 t8]
  go_wp2;go_ret;exact⟨by rw[H.out,M0 (fun h=>t8 h.2.2.2.2.2.2.2.2.1)];rfl,a.out.1⟩
 rw[Nq t8]
 go_wp2_with fail
 refine(abW c.most 0 100 _).mono ?_;rintro r d ⟨rfl,rfl⟩
 by_cases t9:0<=c.most/\c.most<=100
 rotate_left
 ·rw[M0 t9]
  go_wp2;go_ret;exact⟨by rw[H.out,M0 (fun h=>t9 h.2.2.2.2.2.2.2.2.2.1)];rfl,a.out.1⟩
 rw[Nq t9]
 go_wp2_with fail
 refine(afz c.bn c.bd c.bb _).mono ?_;rintro r w2 ⟨rfl,m⟩;have s:=WO a.out.2.1 m;have q:M6 _:=a.out.1.trans (m.mono a.out.1.size);obtain⟨j0,j1,j2,j3,j4,S,j6,j7,j8,Y,K,L,M,N,B,Q,R⟩:=aj6 s;clear m k0 T k2 k3 k4 k5 Z k7 k8 k9 O I E J F D C
 by_cases tb:Zp c.bn c.bd c.bb
 rotate_left
 ·rw[show aaY c.bn c.bd c.bb=2 from Nf tb]
  clear s;go_wp2;go_ret;exact⟨by rw[H.out,M0 (fun h=>tb h.2.2.2.2.2.2.2.2.2.2.1)];rfl,q.out⟩
 rw[show aaY c.bn c.bd c.bb=0 from Nh tb];clear s
 go_wp2_with fail
 refine(ah3 c.wn c.wf c.wh _).mono ?_;rintro r w3 ⟨rfl,A⟩;have y:M6 _:=q.out.trans (A.mono q.out.size);clear A j0 j1 j2 j3 j4 S j6 j7 j8 Y K L M N B Q R
 by_cases tw:ZT c.wn c.wf c.wh
 rotate_left
 ·rw[show abz c.wn c.wf c.wh=2 from Nf tw]
  go_wp2;go_ret;exact⟨by rw[H.out,M0 (fun h=>tw h.2.2.2.2.2.2.2.2.2.2.2)];rfl,y.out⟩
 rw[show abz c.wn c.wf c.wh=0 from Nh tw];go_wp2;go_ret;exact⟨by rw[H.out,Nq ⟨t0,t1,t2,t3,t4,t5,t6,t7,t8,t9,tb,tw⟩];rfl,y.out⟩
abbrev ZB(t:Tm):List Value:=[yB t.1,yB t.2]
theorem ahM(x:Tm):(ZB x).length=2:=rfl
theorem ahL(x:Tm):∀u∈ZB x,u.oneCell'=true:=by
 intro u a;simp only[OO,OD,or_false]at a;rcases a with rfl|rfl <;> rfl
theorem ahG:∀l:List Tm,rv ZB l=WP l
 | []=>rfl
 |t::l=>by simp only[rv,WP,ahG l,List.cons_append,Oz]
theorem ahN{w:MO}{l:List Tm}:Xz w v l↔Xw ZB w v l:=by
 unfold Xz Xw;rw[ahG]
 try exact Iff.rfl
theorem ahr:(MK.info? 230).map (fun i=>(i.zero,i.size,i.bytes))=MI (MI (Ny #[yB 0,yB 0]),2,16):=by kernel_rfl
section
variable {α:Type}{c:α->List M7}{k:Nat}{t e:NU}{z:M7}{bytes:Nat}
theorem ajY(hk:∀x,(c x).length=k)(h1:∀x,∀u∈c x,u.oneCell'=Nw)(hk0:0<k)(ht:MK.underlying t=MI (.slice e))(hinfo:(MK.info? e).map (fun i=>(i.zero,i.size,i.bytes))=MI (MI z,k,bytes))(hz:z.cells.size=k){w:MO}{p:Option Oc}{n cc:Nat}{m:List α}(ho:w.ownsRow base e k (MG p n cc) n (rv c m))(hb:base<=w.heap.size)
  (ty:NU) (u:M7) (l:List α) (hu:Xw c w u l) (hl:(n+l.length)*bytes<=140737488355328) (hl2:n+l.length<=NE) :
  ∃p' c' w',(N2 #[t,t] ty #[MG p n cc,u]).run MK w=.ok (MG p' (n+l.length) c') w'/\w'.ownsRow base e k (MG p' (n+l.length) c') (n+l.length) (rv c (m++l))/\MQ base w w':=by
 by_cases h0:l.length=0
 ·obtain rfl:l=[]:=ZAc.1 h0
  obtain⟨r,hi,_⟩:=OF hinfo;obtain⟨a,f,rfl,_,_,_⟩:=hu;have o:n<=cc/\cc<=maxLen:=by
   rcases ho.2 with⟨d,D⟩|⟨g,f,C,d,_,_,s,A,_⟩
   ·cases d;exact⟨MV _,by unfold NE;omega⟩
   ·cases d;exact⟨s,A⟩
  exact⟨p,cc,w,aeY w _ ty _ r ht hi p n cc o.1 o.2 a f,by rw[OG];exact ho,MY _ _⟩
 ·obtain⟨g,c',w',y,q,B,_⟩:=ag6 hk h1 hk0 ht hinfo hz ho hb ty u l hu (by omega) hl hl2
  exact⟨_,_,_,y,q,(MY _ _).grown B hb (fun j e=>(ho.lt j e).1)⟩
theorem adW(hk:∀x,(c x).length=k)(h1:∀x,∀u∈c x,u.oneCell'=Nw)(hk0:0<k)(ht:MK.underlying t=MI (.slice e))(hinfo:(MK.info? e).map (fun i=>(i.zero,i.size,i.bytes))=MI (MI z,k,bytes))(hz:z.cells.size=k){w:MO}(ty:NU)(u:M7)(l:List α)(hu:Xw c w u l)(hl:l.length*bytes<=140737488355328)(hl2:l.length<=NE) :
  ∃p' c' w',(N2 #[t,t] ty #[MG (MI ⟨w.heap.size,0,MH⟩) 0 0,u]).run MK (w.alloc (MP #[] e))=.ok (MG p' l.length c') w'/\w'.ownsRow w.heap.size e k (MG p' l.length c') l.length (rv c l)/\yA w w':=by
 have f:(w.alloc (MP #[] e)).ownsRow w.heap.size e k (MG (MI ⟨w.heap.size,0,MH⟩) 0 0) 0 (rv c []):=
  ⟨by simp[rv],NF ⟨w.heap.size,0,#[],rfl,MV _,M1 _ _,MV _,Nx _,by simp,by simp[rv]⟩⟩
 obtain⟨p',c',w',d,a,m⟩:=ajY hk h1 hk0 ht hinfo hz f (by simp) ty u l (Xw.below hu (WQ w)) (by rw[Oa];exact hl) (by rw[Oa];exact hl2);rw[Oa]at d a;rw[Oz]at a;exact⟨p',c',w',d,a,(WQ w).trans m⟩
end
theorem ao9(n:Nat)(w:MO)(hn:n<=1000) :
  Ni MK 210 #[MG MH 0 0,yB n] w fun r w'=>∃p c,r=MN (MG p 0 c)/\w'.ownsRow w.heap.size 230 2 (MG p 0 c) 0 (rv ZB [])/\yA w w':=by
 by_cases h0:n=0
 ·subst h0
  go_enter Uj,T9;go_wp2;go_ret;exact⟨MH,0,rfl,NY _ _ _ _,MY _ _⟩
 obtain⟨x,hi,u,A,l⟩:=OF ahr;have f:∀ty,(N2 #[227,3] ty #[MG MH 0 0,yB n]).run MK w=.ok (MG (MI ⟨w.heap.size,0,MH⟩) n (QR w n 0 230)) (w.drew.alloc (MP (([]:List M7).toArray++N5 (Ny #[yB 0,yB 0]).cells n++N5 (Ny #[yB 0,yB 0]).cells (QR w n 0 230-n)) 230)):=fun ty=>by
  have h:=Lib.run_append_grow_zeros (P:=MK) w 227 3 ty 230 x (Ny #[yB 0,yB 0]) ME ME azY Ol hi u MH 0 0 [] (run_firstCells_none w.drew x.size 0 0 0) n (by omega) (by omega) (by omega) (by omega) (by rw[l];omega) (growslice_fits (by omega) (by rw[l];omega))
  simpa using h
 have B:=grownCap_ge w n 0 230;have d:=grownCap_le_maxLen w n 0 230 (by unfold NE;omega);obtain⟨G,s⟩:=yE (QR w n 0 230);rw[<-s]at f B d;obtain⟨a,i⟩:=yE (([]:List M7).toArray++N5 (Ny #[yB 0,yB 0]).cells n++N5 (Ny #[yB 0,yB 0]).cells (G-n));have q:a.size=G*2:=by rw[i];simp[size_zeroCells,Value.cells];omega
 rw[<-i]at f;have o:(w.drew.alloc (MP a 230)).ownsRow w.heap.size 230 2 (MG (MI ⟨w.heap.size,0,MH⟩) 0 G) 0 (rv ZB []):=
  ⟨rfl,NF ⟨w.heap.size,G,a,rfl,MV _,M1 w.drew _,Nx _,d,q,by simp[rv]⟩⟩
 have m:yA w (w.drew.alloc (MP a 230)):=((MY _ _).drew).alloc (MV _) _;have y:M6 (_/\_):=⟨o,m⟩;have C:¬((n:Int)<0):=by omega
 have D:(0:Int)<(n:Int):=by omega
 unfold NE at d;clear o m q i s hi u A l h0;go_enter Uj,T9
 go_wp2_with (at_builtin;refine Lib.wpList_append_run _ rfl _ _ _ _ rfl _ _ rfl rfl _ _ (f _) ?_)
 all_goals (go_ret;exact⟨_,_,rfl,y.out.1,y.out.2⟩)
theorem afM{ls:List (List Tm)}{k:Nat}(hk:k<ls.length):(ls.take (k+1)).flatten=(ls.take k).flatten++ls[k]:=by
 rw[M9 hk,PV];simp
theorem ahl{ls:List (List Tm)}(k:Nat):(ls.take k).flatten.length<=ls.flatten.length:=by
 conv=>rhs;rw[<-Oo k ls,PV,Ns]
 omega
theorem aoQ(v:M7)(ls:List (List Tm))(w:MO)(hv:Zo w v ls)(N:Nat)(hN:N=ls.flatten.length)(hl:N<=200)(hls:ls.length<=100) :
  Ni MK 152 #[v] w fun r w'=>∃p c,r=MN (MG p N c)/\Xz w' (MG p N c) ls.flatten/\yA w w':=by
 have b5:M6 _:=hN;rw[hN]at hl;clear hN;obtain⟨vs,a9,M⟩:=hv;obtain⟨a,b7,rfl,hc,hm,hr⟩:=a9;unfold NE at hm;have Y:∀k (L:k<ls.length),∃b off A y,a=MI ⟨b,off,MH⟩/\b<w.heap.size/\w.cell? ⟨b,off+k,MH⟩=MI (MG A ls[k].length y)/\Xz w (MG A ls[k].length y) ls[k]:=by
  intro k L;have R:k<vs.length:=by rw[M.1];exact L
  have u:=M.2 k R L;obtain⟨A,y,a7,_,_,_⟩:=u.F6;rw[a7]at u;rcases hr with⟨h0,_⟩|⟨b,off,h1,h2,h3⟩
  ·omega
  ·exact⟨b,off,A,y,h1,h2,by rw[h3 k R,MR R,a7],u⟩
 have H:M6 (_/\_):=⟨Y,hl⟩;obtain⟨m,S⟩:=yE ls.length;rw[<-S]at hc hls⊢;have F:M6 _:=S;clear hr Y M S;have G:M6 (∀n:Nat,n<=1000->∀W:MO,Ni MK 210 #[MG MH 0 0,yB (n:Int)] W fun r w'=>∃p c,r=MN (MG p 0 c)/\w'.ownsRow W.heap.size 230 2 (MG p 0 c) 0 (rv ZB [])/\yA W w'):=fun n hn W=>ao9 n W hn
 go_enter ayR,ayH;go_wp2
 go_loopw [3,11] (fun s i wr=>∃(k n:Nat),w=wr/\i=yB (k:Int)/\s=yB (n:Int)/\k<=m/\n<=200/\M6 (n=(ls.take k).flatten.length)) (fun _ i _=>m-(intOf i).toNat)
 case atStart=>exact⟨0,0,rfl,rfl,rfl,Nx _,by omega,by simp[M6]⟩
 case round =>
  obtain⟨k,n,rfl,rfl,rfl,L,hn,HN⟩:=hrel
  by_cases hlt:k<m
  ·have b3:(k:Int)<(m:Int):=by omega
   have B:k<ls.length:=by rw[<-F.out];exact hlt
   obtain⟨b,off,A,y,Q,I,D,u⟩:=H.out.1 k B;obtain⟨d,o⟩:=yE ((ls[k]).length);rw[<-o]at D;have x:(ls.take (k+1)).flatten.length=n+d:=by rw[afM B,Ns,<-HN.out,o]
   have a6:n+d<=200:=by rw[<-x];exact Nm (ahl _) H.out.2
   have HF:M6 _:=x;have b6:¬((n:Int)+(d:Int)<0):=by omega
   clear x o u;subst Q;go_wp2
   go_roundw
   case rel=>exact⟨k+1,n+d,by simp,by simp,by simp,hlt,a6,HF.out.symm⟩
   case measure=>simp[intOf];omega
  ·obtain rfl:k=m:=by omega
   have b3:¬(k:Int)<(k:Int):=by omega
   have HT:M6 (n=ls.flatten.length):=by
    have:=HN.out;rw[F.out,NT]at this;exact this
   go_wp2_with fail
   refine(G.out n (by omega) _).mono ?_;rintro r w1 ⟨p1,c1,rfl,C,Z⟩;have HW:M6 (_/\_):=⟨C,Z⟩;clear C Z;go_wp2
   go_loopw [6,27] (fun s i wr=>∃(j q:Nat) (p:Option Oc) (c:Nat),i=yB (j:Int)/\s=MG p q c/\j<=k/\M6 (q=(ls.take j).flatten.length/\wr.ownsRow w.heap.size 230 2 (MG p q c) q (rv ZB (ls.take j).flatten)/\yA w wr)) (fun _ i _=>k-(intOf i).toNat)
   case atStart=>exact⟨0,0,p1,c1,rfl,rfl,Nx _,by simp,by rw[List.take_zero];exact HW.out.1,HW.out.2⟩
   case round =>
    obtain⟨j,q,p,c,rfl,rfl,hj,f⟩:=hrel
    by_cases hlt:j<k
    ·have b4:(j:Int)<(k:Int):=by omega
     have B:j<ls.length:=by rw[<-F.out];exact hlt
     obtain⟨b,off,A,y,Q,I,D,u⟩:=H.out.1 j B;have a8:=(f.out.2.2.cell (p:=⟨b,off+j,MH⟩) I).trans D;obtain⟨d,o⟩:=yE ((ls[j]).length);have x:(ls.take (j+1)).flatten.length=q+d:=by rw[afM B,Ns,<-f.out.1,o]
     have a6:q+d<=200:=by rw[<-x];exact Nm (ahl _) H.out.2
     obtain⟨p',c',w5,O,E,a0⟩:=ajY ahM ahL (by decide) azY ahr rfl f.out.2.1 f.out.2.2.size 227 _ ls[j] (ahN.1 (u.below f.out.2.2)) (by rw[<-o];omega) (by rw[<-o];unfold NE;omega);rw[<-o]at O E a8;rw[<-afM B]at E;have J:M6 (_/\_/\_/\_):=⟨O,E,f.out.2.2.trans a0,x⟩;have b8:b<wr.heap.size:=M8 I f.out.2.2.size;clear x o u O E a0 D I;subst Q
     go_wp2_with (at_builtin;(with_reducible refine Z4 rfl _ _ 227 rfl (MG p q c) (MG A d y) (MG p' (q+d) c') w5 ?hs ?hx ?hr ?_);(case hs=>rfl);(case hx=>rfl);(case hr=>exact J.out.1))
     go_wp2
     go_roundw
     case rel=>exact⟨j+1,q+d,p',c',by simp,rfl,hlt,J.out.2.2.2.symm,J.out.2.1,J.out.2.2.1⟩
     case measure=>simp[intOf];omega
    ·obtain rfl:j=k:=by omega
     have b4:¬(j:Int)<(j:Int):=by omega
     have K:=f.out.1;have C:=f.out.2.1;rw[F.out,NT]at K C;have T:q=N:=K.trans b5.out.symm;have P:=abw (c:=ZB) (l:=ls.flatten) (k:=2) (v:=MG p q c) (w:=wr) (base:=w.heap.size) (e:=230) (by rw[<-K];exact C);rw[T]at P;rw[T];have HE:M6 (_/\_):=⟨ahN.2 P,f.out.2.2⟩;clear K C T P;go_wp2;go_ret;exact⟨p,c,rfl,HE.out.1,HE.out.2⟩
abbrev acM(t:awY):List Value:=[yB t.1,M3 t.2.1,yB t.2.2.1,yB t.2.2.2]
theorem aqA(x:awY):(acM x).length=4:=rfl
theorem aqz(x:awY):∀u∈acM x,u.oneCell'=true:=by
 intro u a;simp only[OO,OD,or_false]at a;rcases a with rfl|rfl|rfl|rfl <;> rfl
theorem ahD:∀l:List awY,rv acM l=XF l
 | []=>rfl
 |t::l=>by
  have:=ahD l;simp only[rv,this];rfl
theorem ahE:∀l:List Tm,rv ZB l=WP l
 | []=>rfl
 |t::l=>by
  have:=ahE l;simp only[rv,this];rfl
abbrev Sc:=Option Oc×Nat×Nat
abbrev aaJ(x:Sc):List Value:=[MG x.1 x.2.1 x.2.2]
theorem acl(x:Sc):(aaJ x).length=1:=rfl
theorem aqw(x:Sc):∀u∈aaJ x,u.oneCell'=true:=by
 intro u a;simp only[OO,OD,or_false]at a;subst a;rfl
theorem apx:(MK.info? 208).map (fun i=>(i.zero,i.size,i.bytes))=MI (MI (Ny #[yB 0,M3 Nb,yB 0,yB 0]),4,32):=by kernel_rfl
theorem apy:(MK.info? 220).map (fun i=>(i.zero,i.size,i.bytes))=MI (MI (Ny #[yB 0,yB 0]),2,16):=by kernel_rfl
theorem apt:(MK.info? 224).map (fun i=>(i.zero,i.size,i.bytes))=MI (MI (Ny #[MG MH 0 0,M3 Nb,yB 0,yB 0]),4,48):=by kernel_rfl
theorem apv:(MK.info? 227).map (fun i=>(i.zero,i.size,i.bytes))=MI (MI (MG MH 0 0),1,24):=by kernel_rfl
theorem aoM(v:M7)(l:List awY)(w:MO)(hv:Xw acM w v l)(hl:l.length<=1000) :
  Ni MK 97 #[v] w fun r w'=>∃p c,r=MN (MG p l.length c)/\w'.ownsRow w.heap.size 208 4 (MG p l.length c) l.length (rv acM l)/\yA w w':=by
 obtain⟨p,c,rfl,B,A⟩:=Xw.Ga hv;cases p with
 |none =>
  obtain rfl:l=[]:=by
   obtain⟨a,y,s,_,_,h|⟨b,off,rfl,_⟩⟩:=hv
   ·exact ZAc.1 h.1
   ·cases s
  clear hv;have m:∀W,(binOp .eql 38 (MG MH 0 c) (MG MH 0 0)).run MK W=.ok (M3 Nw) W:=fun W=>by kernel_rfl
  go_enter Tryz.func97,Tryz.ntmps97;go_wp2;go_ret;exact⟨MH,0,rfl,NY _ _ _ _,MY _ _⟩
 |some q =>
  have m:∀W,(binOp .eql 38 (MG (MI q) l.length c) (MG MH 0 0)).run MK W=.ok (M3 Nb) W:=fun W=>by kernel_rfl
  obtain⟨u,o,x,hr,i,f⟩:=adW aqA aqz (by decide) UZ apx rfl 38 _ l hv (by omega) (by unfold NE;omega);have d:M6 (_/\_/\_):=⟨hr,f,i⟩;clear hr f i hv;go_enter Tryz.func97,Tryz.ntmps97
  go_wp2_with (at_builtin;(with_reducible refine Z4 rfl _ _ 38 rfl (MG (MI ⟨w.heap.size,0,MH⟩) 0 0) (MG (MI q) l.length c) (MG u l.length o) x ?hs ?hx ?hr ?_);(case hs=>rfl);(case hx=>rfl);(case hr=>exact d.out.1))
  go_wp2;go_ret;exact⟨_,_,rfl,d.out.2.2,d.out.2.1⟩
theorem aoJ(v:M7)(l:List Fl)(w:MO)(hv:Xw WX w v l)(hl:l.length<=1000) :
  Ni MK 98 #[v] w fun r w'=>∃p c,r=MN (MG p l.length c)/\w'.ownsRow w.heap.size 211 7 (MG p l.length c) l.length (rv WX l)/\yA w w':=by
 obtain⟨p,c,rfl,B,A⟩:=Xw.Ga hv;cases p with
 |none =>
  obtain rfl:l=[]:=by
   obtain⟨a,y,s,_,_,h|⟨b,off,rfl,_⟩⟩:=hv
   ·exact ZAc.1 h.1
   ·cases s
  clear hv;have m:∀W,(binOp .eql 41 (MG MH 0 c) (MG MH 0 0)).run MK W=.ok (M3 Nw) W:=fun W=>by kernel_rfl
  go_enter Tryz.func98,Tryz.ntmps98;go_wp2;go_ret;exact⟨MH,0,rfl,NY _ _ _ _,MY _ _⟩
 |some q =>
  have m:∀W,(binOp .eql 41 (MG (MI q) l.length c) (MG MH 0 0)).run MK W=.ok (M3 Nb) W:=fun W=>by kernel_rfl
  obtain⟨u,o,x,hr,i,f⟩:=adW XL acI (by decide) PK ad0 rfl 41 _ l hv (by omega) (by unfold NE;omega);have d:M6 (_/\_/\_):=⟨hr,f,i⟩;clear hr f i hv;go_enter Tryz.func98,Tryz.ntmps98
  go_wp2_with (at_builtin;(with_reducible refine Z4 rfl _ _ 41 rfl (MG (MI ⟨w.heap.size,0,MH⟩) 0 0) (MG (MI q) l.length c) (MG u l.length o) x ?hs ?hx ?hr ?_);(case hs=>rfl);(case hx=>rfl);(case hr=>exact d.out.1))
  go_wp2;go_ret;exact⟨_,_,rfl,d.out.2.2,d.out.2.1⟩
theorem aoN(v:M7)(l:List Tm)(w:MO)(hv:Xw ZB w v l)(hl:l.length<=1000) :
  Ni MK 101 #[v] w fun r w'=>∃p c,r=MN (MG p l.length c)/\w'.ownsRow w.heap.size 220 2 (MG p l.length c) l.length (rv ZB l)/\yA w w':=by
 obtain⟨p,c,rfl,B,A⟩:=Xw.Ga hv;cases p with
 |none =>
  obtain rfl:l=[]:=by
   obtain⟨a,y,s,_,_,h|⟨b,off,rfl,_⟩⟩:=hv
   ·exact ZAc.1 h.1
   ·cases s
  clear hv;have m:∀W,(binOp .eql 46 (MG MH 0 c) (MG MH 0 0)).run MK W=.ok (M3 Nw) W:=fun W=>by kernel_rfl
  go_enter QB,Qo;go_wp2;go_ret;exact⟨MH,0,rfl,NY _ _ _ _,MY _ _⟩
 |some q =>
  have m:∀W,(binOp .eql 46 (MG (MI q) l.length c) (MG MH 0 0)).run MK W=.ok (M3 Nb) W:=fun W=>by kernel_rfl
  obtain⟨u,o,x,hr,i,f⟩:=adW ahM ahL (by decide) U9 apy rfl 46 _ l hv (by omega) (by unfold NE;omega);have d:M6 (_/\_/\_):=⟨hr,f,i⟩;clear hr f i hv;go_enter QB,Qo
  go_wp2_with (at_builtin;(with_reducible refine Z4 rfl _ _ 46 rfl (MG (MI ⟨w.heap.size,0,MH⟩) 0 0) (MG (MI q) l.length c) (MG u l.length o) x ?hs ?hx ?hr ?_);(case hs=>rfl);(case hx=>rfl);(case hr=>exact d.out.1))
  go_wp2;go_ret;exact⟨_,_,rfl,d.out.2.2,d.out.2.1⟩
theorem aoK(v:M7)(l:List (Mk×He))(w:MO)(hv:Xw aa0 w v l)(hl:l.length<=1000) :
  Ni MK 102 #[v] w fun r w'=>∃p c,r=MN (MG p l.length c)/\w'.ownsRow w.heap.size 224 4 (MG p l.length c) l.length (rv aa0 l)/\yA w w':=by
 obtain⟨p,c,rfl,B,A⟩:=Xw.Ga hv;cases p with
 |none =>
  obtain rfl:l=[]:=by
   obtain⟨a,y,s,_,_,h|⟨b,off,rfl,_⟩⟩:=hv
   ·exact ZAc.1 h.1
   ·cases s
  clear hv;have m:∀W,(binOp .eql 49 (MG MH 0 c) (MG MH 0 0)).run MK W=.ok (M3 Nw) W:=fun W=>by kernel_rfl
  go_enter ayy,ays;go_wp2;go_ret;exact⟨MH,0,rfl,NY _ _ _ _,MY _ _⟩
 |some q =>
  have m:∀W,(binOp .eql 49 (MG (MI q) l.length c) (MG MH 0 0)).run MK W=.ok (M3 Nb) W:=fun W=>by kernel_rfl
  obtain⟨u,o,x,hr,i,f⟩:=adW aci apb (by decide) OX apt rfl 49 _ l hv (by omega) (by unfold NE;omega);have d:M6 (_/\_/\_):=⟨hr,f,i⟩;clear hr f i hv;go_enter ayy,ays
  go_wp2_with (at_builtin;(with_reducible refine Z4 rfl _ _ 49 rfl (MG (MI ⟨w.heap.size,0,MH⟩) 0 0) (MG (MI q) l.length c) (MG u l.length o) x ?hs ?hx ?hr ?_);(case hs=>rfl);(case hx=>rfl);(case hr=>exact d.out.1))
  go_wp2;go_ret;exact⟨_,_,rfl,d.out.2.2,d.out.2.1⟩
theorem aoL(v:M7)(l:List Sc)(w:MO)(hv:Xw aaJ w v l)(hl:l.length<=1000) :
  Ni MK 104 #[v] w fun r w'=>∃p c,r=MN (MG p l.length c)/\w'.ownsRow w.heap.size 227 1 (MG p l.length c) l.length (rv aaJ l)/\yA w w':=by
 obtain⟨p,c,rfl,B,A⟩:=Xw.Ga hv;cases p with
 |none =>
  obtain rfl:l=[]:=by
   obtain⟨a,y,s,_,_,h|⟨b,off,rfl,_⟩⟩:=hv
   ·exact ZAc.1 h.1
   ·cases s
  clear hv;have m:∀W,(binOp .eql 52 (MG MH 0 c) (MG MH 0 0)).run MK W=.ok (M3 Nw) W:=fun W=>by kernel_rfl
  go_enter Tryz.func104,Tryz.ntmps104;go_wp2;go_ret;exact⟨MH,0,rfl,NY _ _ _ _,MY _ _⟩
 |some q =>
  have m:∀W,(binOp .eql 52 (MG (MI q) l.length c) (MG MH 0 0)).run MK W=.ok (M3 Nb) W:=fun W=>by kernel_rfl
  obtain⟨u,o,x,hr,i,f⟩:=adW acl aqw (by decide) Tryz.underlying52 apv rfl 52 _ l hv (by omega) (by unfold NE;omega);have d:M6 (_/\_/\_):=⟨hr,f,i⟩;clear hr f i hv;go_enter Tryz.func104,Tryz.ntmps104
  go_wp2_with (at_builtin;(with_reducible refine Z4 rfl _ _ 52 rfl (MG (MI ⟨w.heap.size,0,MH⟩) 0 0) (MG (MI q) l.length c) (MG u l.length o) x ?hs ?hx ?hr ?_);(case hs=>rfl);(case hx=>rfl);(case hr=>exact d.out.1))
  go_wp2;go_ret;exact⟨_,_,rfl,d.out.2.2,d.out.2.1⟩
theorem aoO(v:M7)(l:List Tm)(w:MO)(hv:Xw ZB w v l)(hl:l.length<=1000) :
  Ni MK 105 #[v] w fun r w'=>∃p c,r=MN (MG p l.length c)/\w'.ownsRow w.heap.size 230 2 (MG p l.length c) l.length (rv ZB l)/\yA w w':=by
 obtain⟨p,c,rfl,B,A⟩:=Xw.Ga hv;cases p with
 |none =>
  obtain rfl:l=[]:=by
   obtain⟨a,y,s,_,_,h|⟨b,off,rfl,_⟩⟩:=hv
   ·exact ZAc.1 h.1
   ·cases s
  clear hv;have m:∀W,(binOp .eql 227 (MG MH 0 c) (MG MH 0 0)).run MK W=.ok (M3 Nw) W:=fun W=>by kernel_rfl
  go_enter ayX,ayM;go_wp2;go_ret;exact⟨MH,0,rfl,NY _ _ _ _,MY _ _⟩
 |some q =>
  have m:∀W,(binOp .eql 227 (MG (MI q) l.length c) (MG MH 0 0)).run MK W=.ok (M3 Nb) W:=fun W=>by kernel_rfl
  obtain⟨u,o,x,hr,i,f⟩:=adW ahM ahL (by decide) azY ahr rfl 227 _ l hv (by omega) (by unfold NE;omega);have d:M6 (_/\_/\_):=⟨hr,f,i⟩;clear hr f i hv;go_enter ayX,ayM
  go_wp2_with (at_builtin;(with_reducible refine Z4 rfl _ _ 227 rfl (MG (MI ⟨w.heap.size,0,MH⟩) 0 0) (MG (MI q) l.length c) (MG u l.length o) x ?hs ?hx ?hr ?_);(case hs=>rfl);(case hx=>rfl);(case hr=>exact d.out.1))
  go_wp2;go_ret;exact⟨_,_,rfl,d.out.2.2,d.out.2.1⟩
structure Og(w0 w:MO)(g:Nat)(U:Us)(G:Gt):Prop where
 box:w.heap[g]?=MI (MP (aeL U G) 165 (0,0))
 bel:yA w0 w
 low:w0.heap.size<=g
structure Rw(w:MO)(lo hi:Nat)(e:NU)(k:Nat)(p:Option Oc)(n c:Nat)(xs:List M7):Prop where
 own:w.ownsRow lo e k (MG p n c) n xs
 up:∀b,p.map (·.block)=MI b->b<hi
section
variable {base:Nat}{w0 w w':MO}{g:Nat}{V:Vs}{U:Us}{G:Gt}
theorem Og.lt(h:Og w0 w g U G):g<w.heap.size:=(ZAa.1 h.box).1
theorem Og.fz(h:Og w0 w g U G)(k:Nat):w.frozen? ⟨g,k,MH⟩=false:=by simp[Ng,h.box]
theorem Og.Gs(h:Og w0 w g U G):w.cell? ⟨g,17,MH⟩=MI (MG U.pt G.tab.length U.ct):=by rw[MW w g 17 _ _ (0,0) h.box];rfl
theorem Og.Gr(h:Og w0 w g U G):w.cell? ⟨g,18,MH⟩=MI (MG U.pf G.fls.length U.cf):=by rw[MW w g 18 _ _ (0,0) h.box];rfl
theorem Og.Gn(h:Og w0 w g U G):w.cell? ⟨g,19,MH⟩=MI (MG U.pl G.liv.length U.cl):=by rw[MW w g 19 _ _ (0,0) h.box];rfl
theorem Og.GD(h:Og w0 w g U G):w.cell? ⟨g,20,MH⟩=MI (MG U.pr G.req.length U.cr):=by rw[MW w g 20 _ _ (0,0) h.box];rfl
theorem Og.GX(h:Og w0 w g U G):w.cell? ⟨g,21,MH⟩=MI (MG U.ps (WW G.wts).length U.cs):=by rw[MW w g 21 _ _ (0,0) h.box];rfl
theorem Og.GI(h:Og w0 w g U G):w.cell? ⟨g,22,MH⟩=MI (MG U.ph 12 U.ch):=by rw[MW w g 22 _ _ (0,0) h.box];rfl
theorem Og.below(h:Og w0 w g U G)(hb:yA w w'):Og w0 w' g U G:=⟨WO h.box hb,h.bel.trans (hb.mono h.bel.size),h.low⟩
theorem Og.Ix(h:Og w0 w g U G)(p:Option Oc)(c:Nat):Og w0 (w.setCell ⟨g,17,MH⟩ (MG p G.tab.length c)) g {U with pt:=p,ct:=c} G:=⟨YO h.box rfl,h.bel.setCell h.low _,h.low⟩
theorem Og.IU(h:Og w0 w g U G)(p:Option Oc)(c:Nat):Og w0 (w.setCell ⟨g,18,MH⟩ (MG p G.fls.length c)) g {U with pf:=p,cf:=c} G:=⟨YO h.box rfl,h.bel.setCell h.low _,h.low⟩
theorem Og.I3(h:Og w0 w g U G)(p:Option Oc)(c:Nat):Og w0 (w.setCell ⟨g,19,MH⟩ (MG p G.liv.length c)) g {U with pl:=p,cl:=c} G:=⟨YO h.box rfl,h.bel.setCell h.low _,h.low⟩
theorem Og.Ju(h:Og w0 w g U G)(p:Option Oc)(c:Nat):Og w0 (w.setCell ⟨g,20,MH⟩ (MG p G.req.length c)) g {U with pr:=p,cr:=c} G:=⟨YO h.box rfl,h.bel.setCell h.low _,h.low⟩
theorem Og.IJ(h:Og w0 w g U G)(p:Option Oc)(c:Nat):Og w0 (w.setCell ⟨g,21,MH⟩ (MG p (WW G.wts).length c)) g {U with ps:=p,cs:=c} G:=⟨YO h.box rfl,h.bel.setCell h.low _,h.low⟩
theorem Og.IY(h:Og w0 w g U G)(p:Option Oc)(c:Nat):Og w0 (w.setCell ⟨g,22,MH⟩ (MG p 12 c)) g {U with ph:=p,ch:=c} G:=⟨YO h.box rfl,h.bel.setCell h.low _,h.low⟩
theorem Og.Ih(h:Og w0 w g U G)(p:Option Oc)(c:Nat):Og w0 (w.setCell ⟨g,25,MH⟩ (MG p 25 c)) g {U with pw:=p,cw:=c} G:=⟨YO h.box rfl,h.bel.setCell h.low _,h.low⟩
theorem Og.GH(h:Og w0 w g U G):w.cell? ⟨g,25,MH⟩=MI (MG U.pw 25 U.cw):=by rw[MW w g 25 _ _ (0,0) h.box];rfl
variable {lo hi k n c:Nat}{e:NU}{p:Option Oc}{xs:List M7}
theorem ad5{w1:MO}(hg:g<w.heap.size)(hs:w.heap.size<=w1.heap.size)(ho:w1.ownsRow w.heap.size e k (MG p n c) n xs)(j:Nat)(v:M7):Rw (w1.setCell ⟨g,j,MH⟩ v) w.heap.size (w1.setCell ⟨g,j,MH⟩ v).heap.size e k p n c xs :=
 ⟨W8 ho fun b hb=>MU _ _ _ _ (fun a=>by have:=(ho.lt b hb).1;have a:b=g:=a;omega),fun b hb=>by
  have:=(ho.lt b (by rw[XV];exact hb)).2
  simpa using this⟩
theorem Rw.step(h:Rw w lo hi e k p n c xs){w1:MO}(hb:yA w w1)(hg:g<lo)(j:Nat)(v:M7):Rw (w1.setCell ⟨g,j,MH⟩ v) lo hi e k p n c xs :=
 ⟨W8 h.own fun b hb'=>by
  rw[MU _ _ _ _ (fun a=>by have:=(h.own.lt b hb').1;have a:b=g:=a;omega)];exact hb.block b (h.own.lt b hb').2,h.up⟩
theorem Rw.Gz(h:Rw w lo hi e k p n c xs)(hb:p.map (·.block)=MI b):lo<=b/\b<hi:=⟨(h.own.lt b (by rw[XV];exact hb)).1,h.up b hb⟩
theorem Rw.Gf(h:Rw w lo hi e k p n c xs)(hk:∀b,lo<=b->b<hi->b<w.heap.size->w'.heap[b]?=w.heap[b]?):Rw w' lo hi e k p n c xs :=
 ⟨W8 h.own fun b hb=>hk b (h.own.lt b hb).1 (h.up b (by rw[<-XV];exact hb)) (h.own.lt b hb).2,h.up⟩
end
structure Xm(w:MO)(s0 s1 s2 s3 s4 s5:Nat)(U:Us)(G:Gt):Prop where
 t1:Rw w s0 s1 208 4 U.pt G.tab.length U.ct (rv acM G.tab)
 t2:Rw w s1 s2 211 7 U.pf G.fls.length U.cf (rv WX G.fls)
 t3:Rw w s2 s3 214 6 U.pl G.liv.length U.cl (WT Xg G.liv)
 t4:Rw w s3 s4 217 5 U.pr G.req.length U.cr (WT abC G.req)
 t5:Rw w s4 s5 220 2 U.ps (WW G.wts).length U.cs (rv ZB (WW G.wts))
 l1:s0<=s1
 l2:s1<=s2
 l3:s2<=s3
 l4:s3<=s4
 l5:s4<=s5
structure L1(w0 w:MO)(g:Nat)(U:Us)(G:Gt)(s0 s1 s2 s3 s4 s5 s6 bh ch:Nat)(ms0 ms:List Mk)(j:Nat):Prop where
 og:Og w0 w g U G
 five:Xm w s0 s1 s2 s3 s4 s5 U G
 hea:w.ownsRow s5 224 4 (MG (MI ⟨bh,0,MH⟩) 12 ch) 12 (rv aa0 (ms.zip G.hea))
 len:ms.length=12
 hel:G.hea.length=12
 new:∀(i:Nat) (m:Mk) (x:He),i<j->ms[i]?=MI m->G.hea[i]?=MI x->w.ownsRow s6 4 1 (MG m.1 x.marks.length m.2) x.marks.length (Yi x.marks)
 old:∀i,j<=i->ms[i]?=ms0[i]?
 gs:g<s0
 bs:bh<s6
 ss:s6<=w.heap.size
structure L2(w0 w:MO)(g:Nat)(U:Us)(G:Gt)(s0 s1 s2 s3 s4 s5 s6 s7 bh ch bw cw:Nat)(ms:List Mk)(xs ys:List Sc)(ls:List (List Tm))(j:Nat):Prop where
 og:Og w0 w g U G
 five:Xm w s0 s1 s2 s3 s4 s5 U G
 hea:w.ownsRow s5 224 4 (MG (MI ⟨bh,0,MH⟩) 12 ch) 12 (rv aa0 (ms.zip G.hea))
 len:ms.length=12
 hel:G.hea.length=12
 mks:∀(i:Nat) (m:Mk) (x:He),ms[i]?=MI m->G.hea[i]?=MI x->Rw w s6 s7 4 1 m.1 x.marks.length m.2 (Yi x.marks)
 row:w.ownsRow s7 227 1 (MG (MI ⟨bw,0,MH⟩) 25 cw) 25 (rv aaJ ys)
 ylen:ys.length=25
 new:∀i (h1:i<ys.length) (h2:i<ls.length),i<j->w.ownsRow (bw+1) 230 2 (MG ys[i].1 ys[i].2.1 ys[i].2.2) ls[i].length (rv ZB ls[i])
 old:∀i,j<=i->ys[i]?=xs[i]?
 gs:g<s0
 bs:bh<s6
 ss:s6<=s7
 pw:U.pw=MI ⟨bw,0,MH⟩
 cw:U.cw=cw
section
variable {base:Nat}{w0 w w':MO}{g:Nat}{U:Us}{G:Gt}{s0 s1 s2 s3 s4 s5 s6 s7 bh ch bw cw:Nat}{ms0 ms:List Mk}{xs ys:List Sc}{ls:List (List Tm)}{j:Nat}
theorem Xm.Gf(h:Xm w s0 s1 s2 s3 s4 s5 U G)(hk:∀b,s0<=b->b<s5->b<w.heap.size->w'.heap[b]?=w.heap[b]?):Xm w' s0 s1 s2 s3 s4 s5 U G:=by
 have l:=h.l1;have d:=h.l2;have i:=h.l3;have f:=h.l4;have a:=h.l5;exact⟨h.t1.Gf fun b q1 q2=>hk b (by omega) (by omega),h.t2.Gf fun b q1 q2=>hk b (by omega) (by omega),h.t3.Gf fun b q1 q2=>hk b (by omega) (by omega),h.t4.Gf fun b q1 q2=>hk b (by omega) (by omega),h.t5.Gf fun b q1 q2=>hk b (by omega) (by omega),l,d,i,f,a⟩
theorem Xm.le(h:Xm w s0 s1 s2 s3 s4 s5 U G):s0<=s5:=by
 have l:=h.l1;have d:=h.l2;have i:=h.l3;have f:=h.l4;have a:=h.l5;omega
theorem L1.Hb(h:L1 w0 w g U G s0 s1 s2 s3 s4 s5 s6 bh ch ms0 ms j):s5<=bh/\bh<w.heap.size:=h.hea.lt bh rfl
theorem L1.F7(h:L1 w0 w g U G s0 s1 s2 s3 s4 s5 s6 bh ch ms0 ms j)(hj:j<12):∃m x,ms0[j]?=MI m/\G.hea[j]?=MI x/\w.cell? ⟨bh,j*4,MH⟩=MI (MG m.1 x.marks.length m.2):=by
 have d:j<ms.length:=by rw[h.len];exact hj
 have q:j<G.hea.length:=by rw[h.hel];exact hj
 have f:j<(ms.zip G.hea).length:=by rw[Qn,h.len,h.hel];omega
 have o:(12:Nat)=(ms.zip G.hea).length:=by rw[Qn,h.len,h.hel];rfl
 have a:=abU aci (l:=ms.zip G.hea) h.hea o (i:=j) (j:=0) f (by omega);refine⟨ms[j],G.hea[j],by rw[<-h.old j (MV _)];exact MR d,MR q,?_⟩;rw[Oe,Qf]at a;exact a
theorem L1.next(h:L1 w0 w g U G s0 s1 s2 s3 s4 s5 s6 bh ch ms0 ms j)(hj:j<12)(hb:yA w w'){x:He}(hx:G.hea[j]?=MI x){p:Option Oc}{c B:Nat}(hB:w.heap.size<=B)(ho:w'.ownsRow B 4 1 (MG p x.marks.length c) x.marks.length (Yi x.marks)) :
  L1 w0 (w'.setCell ⟨bh,j*4,MH⟩ (MG p x.marks.length c)) g U G s0 s1 s2 s3 s4 s5 s6 bh ch ms0 (ms.set j (p,c)) (j+1):=by
 have F:=h.Hb;have I:=h.bs;have H:=h.ss;have D:=h.five.le;have E:=h.gs;have u:j<ms.length:=by rw[h.len];exact hj
 have C:j<G.hea.length:=by rw[h.hel];exact hj
 have A:j<(ms.zip G.hea).length:=by rw[Qn,h.len,h.hel];omega
 have q:G.hea[j]=x:=NC ((MR C).symm.trans hx);have a:∀b,b<w.heap.size->b≠bh->(w'.setCell ⟨bh,j*4,MH⟩ (MG p x.marks.length c)).heap[b]?=w.heap[b]?:=fun b l f=>(MU _ _ _ _ f).trans (hb.block b l)
 have s:w'.ownsRow s5 224 4 (MG (MI ⟨bh,0,MH⟩) 12 ch) 12 (rv aa0 (ms.zip G.hea)):=W8 h.hea fun b e=>hb.block b (h.hea.lt b e).2
 have o:=adn aci s (i:=j) (j:=0) A (by omega) (MG p x.marks.length c) ((p,c),x) (by rw[Qf,q];rfl);have r:(ms.zip G.hea).set j ((p,c),x)=(ms.set j (p,c)).zip G.hea:=by
  apply PX
  ·simp
  ·intro k l f
   simp only[Pc,Qf]
   split
   ·rename_i ek
    subst ek;rw[q]
   ·rfl
 rw[Oe,r]at o;refine⟨⟨(a g h.og.lt (by omega)).trans h.og.box,(h.og.bel.trans (hb.mono h.og.bel.size)).setCell (Nm h.og.low (by show g<=bh;omega)) _,h.og.low⟩,h.five.Gf fun b l f q3=>a b q3 (by omega),o,by rw[NA];exact h.len,h.hel,fun i m y hi e1 e2=>?_,fun i hi=>?_,h.gs,h.bs,by simpa using Nm h.ss hb.size⟩
 ·by_cases e:i=j
  ·subst e
   rw[N7 u]at e1;cases e1;obtain rfl:x=y:=NC (hx.symm.trans e2);exact W8 (ho.mono (by omega)) fun b eb=>MU _ _ _ _ (by have:=(ho.lt b eb).1;show b≠bh;omega)
  ·rw[N3 (Pi e)]at e1
   have d:=h.new i m y (by omega) e1 e2;exact W8 d fun b eb=>a b (d.lt b eb).2 (by have:=(d.lt b eb).1;omega)
 ·rw[N3 (by omega)]
  exact h.old i (by omega)
theorem L1.I0(h:L1 w0 w g U G s0 s1 s2 s3 s4 s5 s6 bh ch ms0 ms 12)(hb:yA w w')(hx:xs.length=25)(ho:w'.ownsRow w.heap.size 227 1 (MG (MI ⟨bw,0,MH⟩) 25 cw) 25 (rv aaJ xs)) :
  L2 w0 (w'.setCell ⟨g,25,MH⟩ (MG (MI ⟨bw,0,MH⟩) 25 cw)) g {U with pw:=MI ⟨bw,0,MH⟩,cw:=cw} G s0 s1 s2 s3 s4 s5 s6 w.heap.size bh ch bw cw ms xs xs ls 0:=by
 have q:=h.Hb;have s:=h.bs;have r:=h.ss;have l:=h.five.le;have o:=h.gs;have f:∀b,b<w.heap.size->b≠g->(w'.setCell ⟨g,25,MH⟩ (MG (MI ⟨bw,0,MH⟩) 25 cw)).heap[b]?=w.heap[b]?:=fun b q1 q2=>(MU _ _ _ _ q2).trans (hb.block b q1)
 have a:Xm (w'.setCell ⟨g,25,MH⟩ (MG (MI ⟨bw,0,MH⟩) 25 cw)) s0 s1 s2 s3 s4 s5 U G:=h.five.Gf fun b q1 q2 q3=>f b q3 (by omega)
 refine⟨(h.og.below hb).Ih _ _,⟨a.t1,a.t2,a.t3,a.t4,a.t5,a.l1,a.l2,a.l3,a.l4,a.l5⟩,W8 h.hea fun b e=>f b (h.hea.lt b e).2 (by have:=(h.hea.lt b e).1;omega),h.len,h.hel,fun i m x e1 e2=>?_,W8 ho fun b e=>MU _ _ _ _ (by have:=(ho.lt b e).1;have:=h.og.lt;show b≠g;omega),hx,fun i _ _ hi=>absurd hi (QH _),fun i _=>rfl,h.gs,h.bs,h.ss,rfl,rfl⟩;have hi:i<12:=by rw[<-h.len];exact(ZAb.1 e1).1
 have d:=h.new i m x hi e1 e2;exact⟨W8 d fun b eb=>f b (d.lt b eb).2 (by have:=(d.lt b eb).1;omega),fun b eb=>(d.lt b (by rw[XV];exact eb)).2⟩
theorem L2.Hu(h:L2 w0 w g U G s0 s1 s2 s3 s4 s5 s6 s7 bh ch bw cw ms xs ys ls j):s7<=bw/\bw<w.heap.size:=h.row.lt bw rfl
theorem L2.F7(h:L2 w0 w g U G s0 s1 s2 s3 s4 s5 s6 s7 bh ch bw cw ms xs ys ls j){a:Option Oc}{n c:Nat}(hx:xs[j]?=MI (a,n,c)):w.cell? ⟨bw,j,MH⟩=MI (MG a n c):=by
 have d:=h.old j (MV _);rw[hx]at d;obtain⟨f,e⟩:=ZAb.1 d;have:=abU acl (l:=ys) h.row (by rw[h.ylen]) (i:=j) (j:=0) f (by omega);rw[e,P6,Oe]at this;exact this
theorem L2.next(h:L2 w0 w g U G s0 s1 s2 s3 s4 s5 s6 s7 bh ch bw cw ms xs ys ls j)(hj:j<25)(hls:ls.length=25)(hb:yA w w'){p:Option Oc}{n c B:Nat}(hn:∀h2:j<ls.length,n=ls[j].length)(hB:w.heap.size<=B)(ho:∀h2:j<ls.length,w'.ownsRow B 230 2 (MG p n c) n (rv ZB ls[j])) :
  L2 w0 (w'.setCell ⟨bw,j,MH⟩ (MG p n c)) g U G s0 s1 s2 s3 s4 s5 s6 s7 bh ch bw cw ms xs (ys.set j (p,n,c)) ls (j+1):=by
 have s:s5<=bh/\bh<w.heap.size:=h.hea.lt bh rfl;have y:=h.bs;have u:=h.ss;have r:=h.Hu;have o:=h.five.le;have q:=h.gs;have d:∀b,b<w.heap.size->b≠bw->(w'.setCell ⟨bw,j,MH⟩ (MG p n c)).heap[b]?=w.heap[b]?:=fun b q1 q2=>(MU _ _ _ _ q2).trans (hb.block b q1)
 have l:w'.ownsRow s7 227 1 (MG (MI ⟨bw,0,MH⟩) 25 cw) 25 (rv aaJ ys):=W8 h.row fun b e=>hb.block b (h.row.lt b e).2
 have f:=adn acl l (i:=j) (j:=0) (by rw[h.ylen];exact hj) (by omega) (MG p n c) (p,n,c) rfl;rw[P6,Oe]at f;refine⟨⟨(d g h.og.lt (by omega)).trans h.og.box,(h.og.bel.trans (hb.mono h.og.bel.size)).setCell (Nm h.og.low (by show g<=bw;omega)) _,h.og.low⟩,h.five.Gf fun b q1 q2 q3=>d b q3 (by omega),W8 h.hea fun b e=>d b (h.hea.lt b e).2 (by have e:b=bh:=(NC e).symm;omega),h.len,h.hel,fun i m x e1 e2=>(h.mks i m x e1 e2).Gf fun b q1 q2 q3=>d b q3 (by omega),f,by rw[NA];exact h.ylen,fun i q1 q2 q3=>?_,fun i q1=>?_,h.gs,h.bs,h.ss,h.pw,h.cw⟩
 ·by_cases e:i=j
  ·subst e
   simp only[NW];rw[<-hn q2];have a:=ho q2;exact W8 (a.mono (by omega)) fun b eb=>MU _ _ _ _ (by have:=(a.lt b eb).1;show b≠bw;omega)
  ·simp only[Pe (Pi e)]
   have a:=h.new i (by rw[NA]at q1;exact q1) q2 (by omega);exact W8 a fun b eb=>d b (a.lt b eb).2 (by have:=(a.lt b eb).1;omega)
 ·rw[N3 (by omega)]
  exact h.old i (by omega)
theorem L2.Jb(h:L2 w0 w g U G s0 s1 s2 s3 s4 s5 s6 s7 bh ch bw cw ms xs ys ls 25)(hph:U.ph=MI ⟨bh,0,MH⟩)(hch:U.ch=ch)(hm:Y9 G.wnow ls)(ht:∀t,t∈ls.flatten↔G.tms t)(hblk:Xo w0)(hout:G.out=[]) :
  OR w0.heap.size w g ⟨bh,ch,U.pt,U.ct,U.pf,U.cf,U.pl,U.cl,U.pr,U.cr,U.ps,U.cs,U.pw,U.cw,MH,0,ms⟩ G:=by
 have A:=h.og.low;have J:s5<=bh/\bh<w.heap.size:=h.hea.lt bh rfl;have E:=h.bs;have D:=h.ss;have L:=h.Hu;have B:=h.gs;have F:=h.five.l1;have C:=h.five.l2;have I:=h.five.l3;have K:=h.five.l4;have H:=h.five.l5;have a:∀b,Vs.off ⟨bh,ch,U.pt,U.ct,U.pf,U.cf,U.pl,U.cl,U.pr,U.cr,U.ps,U.cs,U.pw,U.cw,MH,0,ms⟩ w0.heap.size g b->b<=g\/(s1<=b/\b<s2)\/b=bh:=fun b hb=>by
  rcases hb with(e|e|e|e)|e
  ·exact Nt (by omega)
  ·exact NF (NF e)
  ·exact NF (Nt (h.five.t2.Gz e))
  ·cases e
  ·exact Nt (by omega)
 have y:Yy w (MG U.pt G.tab.length U.ct) G.tab:=by
  have:=abw (c:=acM) (l:=G.tab) h.five.t1.own;unfold Xw at this;rw[ahD]at this;exact this
 have u:Xz w (MG U.ps (WW G.wts).length U.cs) (WW G.wts):=by
  have:=abw (c:=ZB) (l:=WW G.wts) h.five.t5.own;unfold Xw at this;rw[ahE]at this;exact this
 have q:=hm.2.len;refine⟨?_,?_⟩
 ·rw[h.og.box]
  simp only[ahn,aeL,hph,hch,hout,List.length_nil]
 ·refine⟨abt y fun b e hb=>?_,fun W k1 k2=>⟨abt (Yr h.five.t3.own) (fun b e hb=>?_) W k1 k2,abt (Yr h.five.t4.own) (fun b e hb=>?_) W k1 k2⟩,abt u fun b e hb=>?_,⟨ls,hm,ht,fun W k1 k2=>?_⟩,h.five.t2.own.mono (by omega),h.hea.mono (by omega),h.len,h.hel,fun i m x e1 e2=>abt (acQ (h.mks i m x e1 e2).own) fun b e hb=>?_,?_,h.og.low,h.og.lt,?_,?_,?_,?_,?_,?_,hblk.below h.og.bel,hblk.lt⟩
  ·have:=h.five.t1.Gz e
   rcases a b hb with e|e|e <;> omega
  ·have:=h.five.t3.Gz e
   rcases a b hb with e|e|e <;> omega
  ·have:=h.five.t4.Gz e
   rcases a b hb with e|e|e <;> omega
  ·have:=h.five.t5.Gz e
   rcases a b hb with e|e|e <;> omega
  ·have r:∀b,s7<=b->b<w.heap.size->W.heap[b]?=w.heap[b]?:=fun b q1 q2=>k2 b q2 fun hb=>by rcases a b hb with e|e|e <;> omega
   have s:W.ownsRow s7 227 1 (MG (MI ⟨bw,0,MH⟩) 25 cw) 25 (rv aaJ ys):=W8 h.row fun b e=>r b (h.row.lt b e).1 (h.row.lt b e).2
   show Zo W (MG U.pw 25 U.cw) ls;rw[h.pw,h.cw];refine⟨rv aaJ ys,?_,?_,fun i h1 h2=>?_⟩
   ·rw[q]
    exact Yr s
   ·rw[abx acl,P6,h.ylen,q]
   ·have d:i<ys.length:=by rwa[abx acl,P6]at h1
    have e:(rv aaJ ys)[i]=MG ys[i].1 ys[i].2.1 ys[i].2.2:=by
     have:=ZA acl ys i 0 d (by omega);rw[P6,Oe,MR h1]at this;exact NC this
    rw[e];have f:=h.new i d h2 (by rw[h.ylen]at d;exact d);have o:W.ownsRow (bw+1) 230 2 (MG ys[i].1 ys[i].2.1 ys[i].2.2) ls[i].length (rv ZB ls[i]):=W8 f fun b e=>r b (by have:=(f.lt b e).1;omega) (f.lt b e).2
    rw[ahG]at o;exact Yr o
  ·have:=(h.mks i m x e1 e2).Gz e
   rcases a b hb with e|e|e <;> omega
  ·show w.ownsRow _ _ _ (MG MH G.out.length 0) G.out.length (rv Z1 G.out)
   rw[hout];exact NY _ _ _ _
  ·show bh≠g
   omega
  ·intro e
   have:=h.five.t2.Gz e;omega
  ·intro e
   have e:U.pf.map (·.block)=MI bh:=e;have:=h.five.t2.Gz e;omega
  ·intro e;cases e
  ·intro e;cases e
  ·intro b _ e;cases e
theorem apV{ls:List (List Tm)}(h:Zo w v ls):∃xs:List Sc,xs.length=ls.length/\Xw aaJ w v xs/\∀i (h1:i<xs.length) (h2:i<ls.length),xs[i].2.1=ls[i].length/\Xz w (MG xs[i].1 xs[i].2.1 xs[i].2.2) ls[i]:=by
 obtain⟨d,r,s,m⟩:=h;have y:∀(d:List M7),(∀u∈d,∃a n c,u=MG a n c)->∃xs:List Sc,rv aaJ xs=d:=by
  intro d
  induction d with
  |nil=>intro _;exact⟨[],rfl⟩
  |cons u d ih =>
   intro f;obtain⟨a,n,c,rfl⟩:=f u NM;obtain⟨xs,rfl⟩:=ih fun x hx=>f x (NB _ hx)
   exact⟨(a,n,c)::xs,rfl⟩
 obtain⟨xs,rfl⟩:=y d fun u f=>by
  obtain⟨i,hi,rfl⟩:=NV f;obtain⟨a,c,e,_⟩:=(m i hi (by omega)).F6;exact⟨a,_,c,e⟩
 have q:xs.length=ls.length:=by rw[<-s,abx acl,P6]
 refine⟨xs,q,?_,fun i h1 h2=>?_⟩
 ·unfold Xw
  rw[q];exact r
 ·have o:i<(rv aaJ xs).length:=by rw[abx acl,P6];exact h1
  have l:=m i o h2;have e:(rv aaJ xs)[i]=MG xs[i].1 xs[i].2.1 xs[i].2.2:=by
   have:=ZA acl xs i 0 h1 (by omega);rw[P6,Oe,MR o]at this;exact NC this
  rw[e]at l;obtain⟨a,c,A,_⟩:=l.F6;injection A with _ e3 _;exact⟨e3,l⟩
end
section
variable {base:Nat}{w0 w w':MO}{g:Nat}{V:Vs}{U:Us}{G:Gt}
theorem aqE{l:List awY}(h:Yy w v l):Xw acM w v l:=by
 unfold Xw;rw[ahD];exact h
theorem aqO{l:List Tm}(h:Xz w v l):Xw ZB w v l:=by
 unfold Xw;rw[ahE];exact h
theorem akX{e k n c:Nat}{p:Option Oc}{xs:List M7}(h:w.ownsRow base e k (MG p n c) n xs)(hn:0<n):∃b,p=MI ⟨b,0,MH⟩/\n<=c/\c<=9223372036854775807:=by
 rcases h.2 with⟨a,_⟩|⟨i,m,l,a,_,_,d,f,_⟩
 ·cases a
  omega
 ·cases a
  exact⟨i,rfl,d,f⟩
theorem akW{e k n c:Nat}{xs:List M7}(h:w.ownsRow base e k (MG (MI ⟨b,0,MH⟩) n c) n xs)(j:Nat):w.frozen? ⟨b,j,MH⟩=false:=by
 rcases h.2 with⟨a,_⟩|⟨l,i,f,a,_,d,_⟩
 ·cases a
 ·cases a
  simp[Ng,d]
theorem ao1{ls:List (List Tm)}{j:Nat}(hj:j<ls.length):(ls[j]).length<=ls.flatten.length:=by
 have a:=afM hj;have d:=ahl (ls:=ls) (j+1);rw[a,Ns]at d;omega
theorem aqh(h0:Xd w0 U G)(h:Og w0 w g U G)(hwm:Wm G)(hblk:Xo w0)(hout:G.out=[]) :
  Ni MK 73 #[gP g] w fun r w'=>r=MN (Nv #[])/\∃V,OR w0.heap.size w' g V G/\yA w0 w':=by
 have S:=hwm.im.bs;have n7:G.tab.length<=1000:=by have:=S.tab.1;omega
 have l6:G.fls.length<=1000:=by have:=S.Gb;omega
 have i8:G.liv.length<=1000:=by have:=S.book.1.1;omega
 have n3:G.req.length<=1000:=by have:=S.book.2.1;omega
 have n5:(WW G.wts).length<=1000:=by have:=aiU S.wts;omega
 have f7:(U.ms.zip G.hea).length=12:=by rw[Qn,h0.msl,h0.hel];rfl
 have l9:(U.ms.zip G.hea).length<=1000:=by rw[f7];omega
 have i9:∀x∈G.hea,x.marks.length<=16:=fun x hx=>by have:=(S.hea x hx).1;have:=S.Gx.1.2;omega
 have q:M6 (_/\_/\_/\_/\_/\_/\_):=⟨h0,n7,l6,i8,n3,n5,l9⟩;have HM:M6 (_/\_/\_/\_/\_):=⟨hwm,hblk,hout,f7,i9⟩;have o:M6 _:=h;have c17:=h.Gs;have f17:=h.fz 17;have hgl:=h.lt;clear h0 h hwm hblk hout S n7 l6 i8 n3 n5 f7 l9 i9;go_enter Tryz.func73,Tryz.ntmps73;have l7:M6 _:=aoM _ G.tab _ (aqE (q.out.1.tab.below o.out.bel)) q.out.2.1
 go_wp2_with fail
 refine Nd l7.out ?_;rintro r v1 ⟨p1,c1,rfl,n9,d1⟩;have d:=o.out.below d1;have q9:=d.Gs;have r6:=d.fz 17;have o5:=d.lt;obtain⟨y,d0⟩:=yE (v1.setCell ⟨g,17,MH⟩ (MG p1 G.tab.length c1));have d3:=d.Ix p1 c1;rw[<-d0]at d3;have t1:=ad5 o.out.lt d1.size n9 17 (MG p1 G.tab.length c1);rw[<-d0]at t1;have H1:M6 (_/\_):=⟨d3,t1⟩;have g4:M6 (w.heap.size<=y.heap.size):=by show _<=_;rw[d0];simpa using d1.size
 have y7:=d3.lt;have q4:v1.cell? ⟨g,18,MH⟩=MI (MG U.pf G.fls.length U.cf):=d.Gr;clear d d3 t1 n9 d1
 go_wp2_with fail
 rw[<-d0];clear d0 q9 r6 o5 q4;have n1:M6 _:=aoJ _ G.fls _ (Xw.below q.out.1.fls H1.out.1.bel) q.out.2.2.1;refine Nd n1.out ?_;rintro r v2 ⟨p2,c2,rfl,m1,b7⟩;have d:=H1.out.1.below b7;have q6:=d.Gr;have r2:=d.fz 18;have o8:=d.lt;obtain⟨A,b5⟩:=yE (v2.setCell ⟨g,18,MH⟩ (MG p2 G.fls.length c2));have d4:=d.IU p2 c2;rw[<-b5]at d4;have t2:=ad5 H1.out.1.lt b7.size m1 18 (MG p2 G.fls.length c2);rw[<-b5]at t2;have l:=H1.out.2.step b7 (g:=g) (by have:=o.out.lt;have:=g4.out;omega) 18 (MG p2 G.fls.length c2);rw[<-b5]at l;have H2:M6 (_/\_/\_):=⟨d4,l,t2⟩;have b8:M6 (w.heap.size<=y.heap.size/\y.heap.size<=A.heap.size):=⟨g4.out,(by rw[b5];simpa using b7.size)⟩;have z7:=d4.lt;have u7:v2.cell? ⟨g,19,MH⟩=MI (MG U.pl G.liv.length U.cl):=d.Gn;clear d d4 t2 m1 b7 l
 go_wp2_with fail
 rw[<-b5];clear b5 q6 r2 o8 u7;have m5:M6 _:=alR _ G.liv _ (q.out.1.book.below H2.out.1.bel).1 q.out.2.2.2.1;refine Nd m5.out ?_;rintro r v3 ⟨p3,c3,rfl,l8,b4⟩;have d:=H2.out.1.below b4;have r8:=d.Gn;have p0:=d.fz 19;have o7:=d.lt;obtain⟨B,a0⟩:=yE (v3.setCell ⟨g,19,MH⟩ (MG p3 G.liv.length c3));have d2:=d.I3 p3 c3;rw[<-a0]at d2;have t3:=ad5 H2.out.1.lt b4.size l8 19 (MG p3 G.liv.length c3);rw[<-a0]at t3;have l:=H2.out.2.1.step b4 (g:=g) (by have:=o.out.lt;have:=b8.out;omega) 19 (MG p3 G.liv.length c3);rw[<-a0]at l;have u:=H2.out.2.2.step b4 (g:=g) (by have:=o.out.lt;have:=b8.out;omega) 19 (MG p3 G.liv.length c3);rw[<-a0]at u;have H3:M6 (_/\_/\_/\_):=⟨d2,l,u,t3⟩;have a8:M6 (w.heap.size<=y.heap.size/\y.heap.size<=A.heap.size/\A.heap.size<=B.heap.size):=⟨b8.out.1,b8.out.2,(by rw[a0];simpa using b4.size)⟩;have u8:=d2.lt;have q8:v3.cell? ⟨g,20,MH⟩=MI (MG U.pr G.req.length U.cr):=d.GD;clear d d2 t3 l8 b4 l u
 go_wp2_with fail
 rw[<-a0];clear a0 r8 p0 o7 q8;have m2:M6 _:=alS _ G.req _ (q.out.1.book.below H3.out.1.bel).2 q.out.2.2.2.2.1;refine Nd m2.out ?_;rintro r v4 ⟨p4,c4,rfl,m7,a9⟩;have d:=H3.out.1.below a9;have r4:=d.GD;have s9:=d.fz 20;have o6:=d.lt;obtain⟨M,P⟩:=yE (v4.setCell ⟨g,20,MH⟩ (MG p4 G.req.length c4));have d8:=d.Ju p4 c4;rw[<-P]at d8;have t4:=ad5 H3.out.1.lt a9.size m7 20 (MG p4 G.req.length c4);rw[<-P]at t4;have l:=H3.out.2.1.step a9 (g:=g) (by have:=o.out.lt;have:=a8.out;omega) 20 (MG p4 G.req.length c4);rw[<-P]at l;have u:=H3.out.2.2.1.step a9 (g:=g) (by have:=o.out.lt;have:=a8.out;omega) 20 (MG p4 G.req.length c4);rw[<-P]at u;have E:=H3.out.2.2.2.step a9 (g:=g) (by have:=o.out.lt;have:=a8.out;omega) 20 (MG p4 G.req.length c4);rw[<-P]at E;have T:M6 (_/\_/\_/\_/\_):=⟨d8,l,u,E,t4⟩;have J:M6 (w.heap.size<=y.heap.size/\y.heap.size<=A.heap.size/\A.heap.size<=B.heap.size/\B.heap.size<=M.heap.size):=⟨a8.out.1,a8.out.2.1,a8.out.2.2,(by rw[P];simpa using a9.size)⟩;have v8:=d8.lt;have u6:v4.cell? ⟨g,21,MH⟩=MI (MG U.ps (WW G.wts).length U.cs):=d.GX;clear d d8 t4 m7 a9 l u E
 go_wp2_with fail
 rw[<-P];clear P r4 s9 o6 u6;have n8:M6 _:=aoN _ (WW G.wts) _ (aqO (q.out.1.ring.below T.out.1.bel)) q.out.2.2.2.2.2.1;refine Nd n8.out ?_;rintro r v5 ⟨p5,c5,rfl,n6,R⟩;have d:=T.out.1.below R;have u5:=d.GX;have r9:=d.fz 21;have o4:=d.lt;obtain⟨w5,L⟩:=yE (v5.setCell ⟨g,21,MH⟩ (MG p5 (WW G.wts).length c5));have d7:=d.IJ p5 c5;rw[<-L]at d7;have t5:=ad5 T.out.1.lt R.size n6 21 (MG p5 (WW G.wts).length c5);rw[<-L]at t5;have l:=T.out.2.1.step R (g:=g) (by have:=o.out.lt;have:=J.out;omega) 21 (MG p5 (WW G.wts).length c5);rw[<-L]at l;have u:=T.out.2.2.1.step R (g:=g) (by have:=o.out.lt;have:=J.out;omega) 21 (MG p5 (WW G.wts).length c5);rw[<-L]at u;have E:=T.out.2.2.2.1.step R (g:=g) (by have:=o.out.lt;have:=J.out;omega) 21 (MG p5 (WW G.wts).length c5);rw[<-L]at E;have a7:=T.out.2.2.2.2.step R (g:=g) (by have:=o.out.lt;have:=J.out;omega) 21 (MG p5 (WW G.wts).length c5);rw[<-L]at a7;have N:M6 (_/\_/\_/\_/\_/\_):=⟨d7,l,u,E,a7,t5⟩;have F:M6 (w.heap.size<=y.heap.size/\y.heap.size<=A.heap.size/\A.heap.size<=B.heap.size/\B.heap.size<=M.heap.size/\M.heap.size<=w5.heap.size):=⟨J.out.1,J.out.2.1,J.out.2.2.1,J.out.2.2.2,(by rw[L];simpa using R.size)⟩;have y8:=d7.lt;have p8:v5.cell? ⟨g,22,MH⟩=MI (MG U.ph 12 U.ch):=d.GI;clear d d7 t5 n6 R l u E a7
 go_wp2_with fail
 rw[<-L];clear L u5 r9 o4 p8;have i4:M6 _:=aoK (MG U.ph 12 U.ch) (U.ms.zip G.hea) _ (Xw.below q.out.1.hea N.out.1.bel) q.out.2.2.2.2.2.2;rw[HM.out.2.2.2.1]at i4;refine Nd i4.out ?_;rintro r v6 ⟨Z,c6,rfl,m4,K⟩;have d:=N.out.1.below K;have q5:=d.GI;have q7:=d.fz 22;have o3:=d.lt;obtain⟨w6,H⟩:=yE (v6.setCell ⟨g,22,MH⟩ (MG Z 12 c6));have d9:=d.IY Z c6;rw[<-H]at d9;have t6:=ad5 N.out.1.lt K.size m4 22 (MG Z 12 c6);rw[<-H]at t6;have l:=N.out.2.1.step K (g:=g) (by have:=o.out.lt;have:=F.out;omega) 22 (MG Z 12 c6);rw[<-H]at l;have u:=N.out.2.2.1.step K (g:=g) (by have:=o.out.lt;have:=F.out;omega) 22 (MG Z 12 c6);rw[<-H]at u;have E:=N.out.2.2.2.1.step K (g:=g) (by have:=o.out.lt;have:=F.out;omega) 22 (MG Z 12 c6);rw[<-H]at E;have a7:=N.out.2.2.2.2.1.step K (g:=g) (by have:=o.out.lt;have:=F.out;omega) 22 (MG Z 12 c6);rw[<-H]at a7;have i5:=N.out.2.2.2.2.2.step K (g:=g) (by have:=o.out.lt;have:=F.out;omega) 22 (MG Z 12 c6);rw[<-H]at i5;have I:M6 (_/\_/\_/\_/\_/\_/\_):=⟨d9,l,u,E,a7,i5,t6⟩;have b3:M6 (w.heap.size<=y.heap.size/\y.heap.size<=A.heap.size/\A.heap.size<=B.heap.size/\B.heap.size<=M.heap.size/\M.heap.size<=w5.heap.size/\w5.heap.size<=w6.heap.size):=⟨F.out.1,F.out.2.1,F.out.2.2.1,F.out.2.2.2.1,F.out.2.2.2.2,(by rw[H];simpa using K.size)⟩;have u9:=d9.lt;clear d d9 t6 m4 K l u E a7 i5
 go_wp2_with fail
 rw[<-H];clear H q5 q7 o3;obtain⟨bh,d6,z9,z8⟩:=akX I.out.2.2.2.2.2.2.own (by omega);obtain⟨O,g5,u1,u2,u3,u4⟩:∃O:Us,L1 w0 w6 g O G w.heap.size y.heap.size A.heap.size B.heap.size M.heap.size w5.heap.size w6.heap.size bh c6 U.ms U.ms 0/\O.ph=MI ⟨bh,0,MH⟩/\O.ch=c6/\O.pw=U.pw/\O.cw=U.cw:=by
  refine⟨_,⟨I.out.1,⟨I.out.2.1,I.out.2.2.1,I.out.2.2.2.1,I.out.2.2.2.2.1,I.out.2.2.2.2.2.1,b3.out.1,b3.out.2.1,b3.out.2.2.1,b3.out.2.2.2.1,b3.out.2.2.2.2.1⟩,by rw[<-d6];exact I.out.2.2.2.2.2.2.own,q.out.1.msl,q.out.1.hel,fun i m x hi=>absurd hi (QH _),fun i _=>rfl,o.out.lt,I.out.2.2.2.2.2.2.up bh (by rw[d6];rfl),MV _⟩,d6,rfl,rfl,rfl⟩
 obtain⟨s0,e0⟩:∃s,s=w.heap.size:=⟨_,rfl⟩;obtain⟨s1,e1⟩:∃s,s=y.heap.size:=⟨_,rfl⟩;obtain⟨s2,e2⟩:∃s,s=A.heap.size:=⟨_,rfl⟩;obtain⟨s3,e3⟩:∃s,s=B.heap.size:=⟨_,rfl⟩;obtain⟨s4,e4⟩:∃s,s=M.heap.size:=⟨_,rfl⟩;obtain⟨s5,e5⟩:∃s,s=w5.heap.size:=⟨_,rfl⟩;obtain⟨s6,e6⟩:∃s,s=w6.heap.size:=⟨_,rfl⟩;rw[<-e0,<-e1,<-e2,<-e3,<-e4,<-e5,<-e6]at g5;have HG:M6 _:=g5;have HU:M6 (_/\_/\_/\_):=⟨u1,u2,u3,u4⟩;subst d6;clear g5 u1 u2 u3 u4 e0 e1 e2 e3 e4 e5 e6;clear H1 H2 H3 T N I g4 b8 a8 J F b3 l7 n1 m5 m2 n8 i4
 go_loopw [78] (fun t wr=>∃(j:Nat) (ms:List Mk),t=yB (j:Int)/\j<=12/\M6 (L1 w0 wr g O G s0 s1 s2 s3 s4 s5 s6 bh c6 U.ms ms j)) (fun t _=>12-(intOf t).toNat)
 case atStart=>exact⟨0,U.ms,rfl,by omega,HG.out⟩
 case round =>
  obtain⟨j,ms,rfl,hj,HI⟩:=hrel;obtain⟨W,hW⟩:=yE wr;subst hW
  by_cases hlt:j<12
  ·have r7:(j:Int)<12:=by omega
   have s8:(0:Int)<=(j:Int):=by omega
   have f:=HI.out;obtain⟨m,x,em,ex,q0⟩:=f.F7 hlt;have m8:x.marks.length<=1000:=by have:=HM.out.2.2.2.2 x (Nu ex);omega
   have m6:=f.og.GI;rw[HU.out.1,HU.out.2.1]at m6;have f6:=f.og.lt;have a6:=f.Hb.2;have m9:¬g=bh:=by have:=f.Hb.1;have:=f.five.le;have:=f.gs;omega
   have hgb2:¬bh=g:=fun e=>m9 e.symm
   have g8:W.frozen? ⟨bh,j*4,MH⟩=false:=akW f.hea _;have HK:M6 (∀X,yA W X->Ni MK 103 #[MG m.1 x.marks.length m.2] X fun r w'=>∃p c,r=MN (MG p x.marks.length c)/\(w'.cell? ⟨bh,j*4,MH⟩=MI (MG m.1 x.marks.length m.2)/\w'.frozen? ⟨bh,j*4,MH⟩=Nb/\bh<w'.heap.size)/\w'.cell? ⟨g,22,MH⟩=MI (MG (MI ⟨bh,0,MH⟩) 12 c6)/\(w'.setCell ⟨bh,j*4,MH⟩ (MG p x.marks.length c)).cell? ⟨g,22,MH⟩=MI (MG (MI ⟨bh,0,MH⟩) 12 c6) /\
     ∃u3,u3=w'.setCell ⟨bh,j*4,MH⟩ (MG p x.marks.length c)/\M6 (L1 w0 u3 g O G s0 s1 s2 s3 s4 s5 s6 bh c6 U.ms (ms.set j (p,c)) (j+1))):=fun X hX=>by
    refine(alD (MG m.1 x.marks.length m.2) x.marks X (((q.out.1.marks j m x em ex).below f.og.bel).below hX) m8).mono ?_;rintro r w' ⟨p,c,rfl,ho,hb⟩;have D:=hX.trans (hb.mono hX.size);have hS:w'.cell? ⟨g,22,MH⟩=MI (MG (MI ⟨bh,0,MH⟩) 12 c6):=(D.cell f6).trans m6;refine⟨p,c,rfl,⟨(D.cell a6).trans q0,(OM (a:=⟨bh,j*4,MH⟩) (D.block bh a6)).trans g8,M8 a6 D.size⟩,hS,?_,_,rfl,f.next hlt D ex hX.size ho⟩;rw[<-hS];exact NG (MU _ _ _ _ m9)
   clear f em ex m8
   go_wp2_with fail
   apply aan
   ·intro g3
    go_region_with (first|(go_at_call 103;refine(HK.out _ (by first|exact(MY _ _).drew|exact Below.refl _ _)).mono ?_;rintro r B ⟨p,c,rfl,⟨u0,v0,i3⟩,g9,i7,u4,b6,hQ⟩))
    all_goals
     rw[<-b6];clear i7;clear b6 u0 v0 i3 g9;revert p c u4;exact g3.out
   intro p c u4 hQ;have HQ:M6 _:=hQ.out;clear hQ HK;go_wp2
   go_roundw
   case rel=>exact⟨j+1,ms.set j (p,c),by go_num,hlt,HQ.out⟩
   case measure=>simp[intOf];omega
  ·obtain rfl:j=12:=by omega
   obtain⟨ls,f9,hT,n0⟩:=q.out.1.whl;obtain⟨xs,n2,l0,m0⟩:=apV n0;have g0:=f9.2.len;have f8:xs.length=25:=by rw[n2,g0]
   have e9:=HI.out.og.GH;rw[HU.out.2.2.1,HU.out.2.2.2]at e9;have f6:=HI.out.og.lt;have HC:=aoL (MG U.pw 25 U.cw) xs W (Xw.below l0 HI.out.og.bel) (by omega);rw[f8]at HC;have HC:M6 _:=HC;have HL:M6 (_/\_/\_/\_/\_):=⟨f9,hT,f8,m0,g0⟩;clear f9 hT n0 n2 l0 m0 g0 f8
   go_wp2_with fail
   refine Nd HC.out ?_;rintro r v7 ⟨p7,cw,rfl,i1,g2⟩;obtain⟨bw,rfl,w9,y9⟩:=akX i1 (by omega);have d5:=HI.out.og.below g2;have r0:=d5.GH;have p9:=d5.fz 25;have o9:=d5.lt;obtain⟨w8,i6⟩:=yE (v7.setCell ⟨g,25,MH⟩ (MG (MI ⟨bw,0,MH⟩) 25 cw));have C:=HI.out.I0 (ls:=ls) g2 HL.out.2.2.1 i1;rw[<-i6]at C;obtain⟨s7,e7⟩:∃s,s=W.heap.size:=⟨_,rfl⟩;rw[<-e7]at C;obtain⟨U8,g6⟩:∃U8:Us,U8={O with pw:=MI ⟨bw,0,MH⟩,cw:=cw}:=⟨_,rfl⟩;rw[<-g6]at C;have m3:¬g=bw:=by have:=C.Hu.1;have:=C.ss;have:=C.bs;have:=(C.hea.lt bh rfl).1;have:=C.five.le;have:=C.gs;omega
   have v9:¬bw=g:=fun e=>m3 e.symm
   have H8:M6 (_/\_):=⟨C,g6⟩;clear C g6 i1 g2 d5 e7
   go_wp2_with fail
   rw[<-i6];clear i6 r0 p9 o9 e9 f6
   go_loopw [119] (fun t wr=>∃(j:Nat) (ys:List Sc),t=yB (j:Int)/\j<=25/\M6 (L2 w0 wr g U8 G s0 s1 s2 s3 s4 s5 s6 s7 bh c6 bw cw ms xs ys ls j)) (fun t _=>25-(intOf t).toNat)
   case atStart=>exact⟨0,xs,rfl,by omega,H8.out.1⟩
   case round =>
    obtain⟨j,ys,rfl,hj,HJ⟩:=hrel;obtain⟨X,hX⟩:=yE wr;subst hX
    by_cases hlt:j<25
    ·have r7:(j:Int)<25:=by omega
     have s8:(0:Int)<=(j:Int):=by omega
     have f:=HJ.out;have g1:j<xs.length:=by rw[HL.out.2.2.1];exact hlt
     have g7:j<ls.length:=by rw[HL.out.2.2.2.2];exact hlt
     obtain⟨Q,b9⟩:=HL.out.2.2.2.1 j g1 g7;obtain⟨a,n,cc,i2⟩:∃a n cc,xs[j]=((a,n,cc):Sc):=⟨_,_,_,rfl⟩;rw[i2]at Q b9;replace Q:n=ls[j].length:=Q;replace b9:Xz w0 (MG a n cc) ls[j]:=b9;have q0:X.cell? ⟨bw,j,MH⟩=MI (MG a n cc):=f.F7 ((MR g1).trans (by rw[i2]));have g8:X.frozen? ⟨bw,j,MH⟩=false:=akW f.row j;have a6:=f.Hu.2;have e9:X.cell? ⟨g,25,MH⟩=MI (MG (MI ⟨bw,0,MH⟩) 25 cw):=by
      have:=f.og.GH;rw[f.pw,f.cw]at this;exact this
     have r3:=f.og.lt;have o0:n<=1000:=by rw[Q];have:=HL.out.1.2.Hr;have:=ao1 g7;omega
     have HK:M6 (∀Y,yA X Y->Ni MK 105 #[MG a n cc] Y fun r w'=>∃p c,r=MN (MG p n c)/\(w'.cell? ⟨bw,j,MH⟩=MI (MG a n cc)/\w'.frozen? ⟨bw,j,MH⟩=Nb/\bw<w'.heap.size)/\w'.cell? ⟨g,25,MH⟩=MI (MG (MI ⟨bw,0,MH⟩) 25 cw)/\(w'.setCell ⟨bw,j,MH⟩ (MG p n c)).cell? ⟨g,25,MH⟩=MI (MG (MI ⟨bw,0,MH⟩) 25 cw) /\
       ∃u3,u3=w'.setCell ⟨bw,j,MH⟩ (MG p n c)/\M6 (L2 w0 u3 g U8 G s0 s1 s2 s3 s4 s5 s6 s7 bh c6 bw cw ms xs (ys.set j (p,n,c)) ls (j+1))):=fun Y hY=>by
      have n4:=aoO (MG a n cc) ls[j] Y (ahN.1 ((b9.below f.og.bel).below hY)) (by rw[<-Q];exact o0);rw[<-Q]at n4;refine n4.mono ?_;rintro r w' ⟨p,c,rfl,ho,hb⟩;have D:=hY.trans (hb.mono hY.size);have hS:w'.cell? ⟨g,25,MH⟩=MI (MG (MI ⟨bw,0,MH⟩) 25 cw):=(D.cell r3).trans e9;refine⟨p,c,rfl,⟨(D.cell a6).trans q0,(OM (a:=⟨bw,j,MH⟩) (D.block bw a6)).trans g8,M8 a6 D.size⟩,hS,?_,_,rfl,f.next hlt HL.out.2.2.2.2 D (fun _=>Q) hY.size (fun _=>ho)⟩;rw[<-hS];exact NG (MU _ _ _ _ m3)
     clear f g1 i2 Q b9 g7
     go_wp2_with fail
     apply aan
     ·intro g3
      go_region_with (first|(go_at_call 105;refine(HK.out _ (by first|exact(MY _ _).drew|exact Below.refl _ _)).mono ?_;rintro r B ⟨p,c,rfl,⟨u0,v0,i3⟩,g9,i7,u4,b6,hQ⟩))
      all_goals
       rw[<-b6];clear i7;clear b6 u0 v0 i3 g9;revert p c u4;exact g3.out
     intro p c u4 hQ;have HQ:M6 _:=hQ.out;clear hQ HK;go_wp2
     go_roundw
     case rel=>exact⟨j+1,ys.set j (p,n,c),by go_num,hlt,HQ.out⟩
     case measure=>simp[intOf];omega
    ·obtain rfl:j=25:=by omega
     go_wp2
     go_end0
     have h9:=HJ.out;exact⟨rfl,_,h9.Jb (by rw[H8.out.2];exact HU.out.1) (by rw[H8.out.2];exact HU.out.2.1) HL.out.1 HL.out.2.1 HM.out.2.1 HM.out.2.2.1,h9.og.bel⟩
end
section
variable {base:Nat}{w w':MO}{g:Nat}{V:Vs}{U:Us}{G:Gt}
theorem aos(hb:yA W w5)(v:M7)(T:NU):∃bx u3,bx=w5.heap.size/\u3=w5.alloc (MP #[v] T)/\M6 (yA W u3):=
 ⟨_,_,rfl,rfl,hb.alloc hb.size _⟩
theorem aot(hb:yA W w5)(v:M7):∃bx u3,bx=W.heap.size/\u3=w5.setCell ⟨W.heap.size,0,MH⟩ v/\M6 (yA W u3):=
 ⟨_,_,rfl,rfl,hb.setCell (MV _) _⟩
theorem aqk(h:RG w g U G)(hwm:Wm G):Ni MK 91 #[gP g] w fun r w'=>r=MN (M3 Nw)/\yA w w':=by
 have m:=hwm.im.bs;have N:=ahf m.GM m.tok;obtain⟨tk,R⟩:=yE (min (G.tok+G.cfg.bn) (G.cfg.bb*G.cfg.bd));rw[<-R]at N;have F:=h.lt;have P:=h.Hf;have Q:=h.Hn;have S:=h.Hg;have O:=h.Id;have T:M6 (∀X,yA w X->Ni MK 112 #[Ny #[yB G.cfg.bn,yB G.cfg.bd,yB G.cfg.bb],Ny #[yB G.tok]] X fun r w'=>r=MN (Nv #[Ny #[yB tk],yB 0])/\M6 (yA w w')/\(∀n,n<X.heap.size->n<w'.heap.size)/\(∀b o,b<X.heap.size->w'.cell? ⟨b,o,MH⟩=X.cell? ⟨b,o,MH⟩)/\(∀b o,b<X.heap.size->w'.frozen? ⟨b,o,MH⟩=X.frozen? ⟨b,o,MH⟩)):=fun X hX=>by
  refine(ajR G.cfg.bn G.cfg.bd G.cfg.bb G.tok X).mono ?_;rw[N];rintro r w' ⟨rfl,s⟩;exact⟨rfl,hX.trans (s.mono hX.size),fun n hn=>M8 hn s.size,fun b o hb'=>s.cell (p:=⟨b,o,MH⟩) hb',fun b o hb'=>OM (a:=⟨b,o,MH⟩) (s.block b hb')⟩
 have x:M6 (∀X,yA w X->X.cell? ⟨g,10,MH⟩=MI (yB G.cfg.bn)/\X.cell? ⟨g,11,MH⟩=MI (yB G.cfg.bd)/\X.cell? ⟨g,12,MH⟩=MI (yB G.cfg.bb)/\X.cell? ⟨g,23,MH⟩=MI (yB G.tok)/\yA w X):=fun X hX =>
  ⟨(hX.cell F).trans P,(hX.cell F).trans Q,(hX.cell F).trans S,(hX.cell F).trans O,hX⟩
 have H:M6 (_/\_):=⟨h,hwm⟩;clear h hwm m N R;go_enter TP,TI
 go_wp2_with fail
 apply aan
 ·intro B
  go_region_held3 (fun X=>X.cell? ⟨g,10,MH⟩=MI (yB G.cfg.bn)/\X.cell? ⟨g,11,MH⟩=MI (yB G.cfg.bd)/\X.cell? ⟨g,12,MH⟩=MI (yB G.cfg.bb)/\X.cell? ⟨g,23,MH⟩=MI (yB G.tok)/\yA w X) (first|exact x.out _ ((MY _ _).drew)|exact x.out _ (((MY _ _).drew).alloc (by simp) _)|exact x.out _ l.out|exact x.out _ (l.out.alloc l.out.size _)|exact x.out _ (((MY _ _).alloc (MV _) _).drew)|exact x.out _ (l.out.setCell (MV _) _)) (first|(go_at_call 112;refine(T.out _ ?hbW).mono ?_;(case hbW=>first|with_reducible assumption|exact(MY _ _).drew|exact((MY _ _).drew).alloc (by simp) _|exact((Below.refl _ _).alloc (Nat.le_refl _) _).drew);rintro r w5 ⟨rfl,l,a7,a6,a0⟩))
  all_goals
   clear a7 a6 a0;rename_i hHe;clear hHe
   first
   | (obtain⟨I,d,y,A,u⟩:=aos l.out (yB tk) 51
      rw[<-A]
      try rw[<-y]
      clear A y l;revert I d;exact B.out)
   | (obtain⟨I,d,y,A,u⟩:=aot l.out (yB tk)
      rw[<-A]
      try rw[<-y]
      clear A y l;revert I d;exact B.out)
 intro I d u;clear P Q S O T x;have K:=u.out;clear u;have q:=H.out.1.below K;have hwm:=H.out.2;have m:=hwm.im.bs;have J:=q.c0;have C:=q.Gs;have E:=q.Gn;have D:=q.GD;have i:=q.lt;have a8:((G.tab.length:Int) == G.cfg.flows)=true:=by rw[m.tabLen];exact beq_self_eq_true _
 have HL:M6 (∀X,yA d X->Ni MK 143 #[Ny #[MG U.pl G.liv.length U.cl,MG U.pr G.req.length U.cr]] X fun r w'=>r=MN (yB 0)/\(w'.cell? ⟨g,0,MH⟩=MI (yB G.cfg.flows)/\w'.cell? ⟨g,17,MH⟩=MI (MG U.pt G.tab.length U.ct)/\w'.cell? ⟨g,19,MH⟩=MI (MG U.pl G.liv.length U.cl)/\w'.cell? ⟨g,20,MH⟩=MI (MG U.pr G.req.length U.cr)/\yA d w')):=fun X hX=>by
  refine(ah9 _ _ G.liv G.req X (q.below hX).wat.book).mono ?_;rw[show ae5 G.liv G.req=0 from Nh m.book];rintro r w' ⟨rfl,s⟩;have f:=hX.trans (s.mono hX.size);exact⟨rfl,(f.cell i).trans J,(f.cell i).trans C,(f.cell i).trans E,(f.cell i).trans D,f⟩
 have HT:M6 (∀X,yA d X->Ni MK 144 #[Ny #[MG U.pt G.tab.length U.ct]] X fun r w'=>r=MN (yB 0)/\(w'.cell? ⟨g,0,MH⟩=MI (yB G.cfg.flows)/\w'.cell? ⟨g,17,MH⟩=MI (MG U.pt G.tab.length U.ct)/\w'.cell? ⟨g,19,MH⟩=MI (MG U.pl G.liv.length U.cl)/\w'.cell? ⟨g,20,MH⟩=MI (MG U.pr G.req.length U.cr)/\yA d w')):=fun X hX=>by
  refine(agO _ G.tab X (q.below hX).wat.tab).mono ?_;rw[Nh m.tab];rintro r w' ⟨rfl,s⟩;have f:=hX.trans (s.mono hX.size);exact⟨rfl,(f.cell i).trans J,(f.cell i).trans C,(f.cell i).trans E,(f.cell i).trans D,f⟩
 have Z:M6 _:=K;clear q hwm m K
 go_wp2_with fail
 apply aan
 ·intro B
  go_region_held3 (fun X=>X.cell? ⟨g,0,MH⟩=MI (yB G.cfg.flows)/\X.cell? ⟨g,17,MH⟩=MI (MG U.pt G.tab.length U.ct)/\X.cell? ⟨g,19,MH⟩=MI (MG U.pl G.liv.length U.cl)/\X.cell? ⟨g,20,MH⟩=MI (MG U.pr G.req.length U.cr)/\yA d X) (first|exact⟨J,C,E,D,(MY _ _).drew⟩|exact⟨J,C,E,D,Below.refl _ _⟩|exact L|exact M) (first|(go_at_call 143;refine(HL.out _ ?hbW).mono ?_;(case hbW=>first|with_reducible assumption|exact(MY _ _).drew|exact Below.refl _ _);rintro r w6 ⟨rfl,L⟩)|(go_at_call 144;refine(HT.out _ ?hbW).mono ?_;(case hbW=>first|with_reducible assumption|exact L.2.2.2.2|exact(Below.refl _ _).drew);rintro r Y ⟨rfl,M⟩))
  all_goals
   have u:M6 _:=M.2.2.2.2;rename_i hHe;clear hHe L M;revert Y;exact B.out
 intro Y u;have HQ:M6 _:=u.out;clear u;go_wp2;go_ret;exact⟨rfl,Z.out.trans (HQ.out.mono Z.out.size)⟩
end
section
variable {base:Nat}{w w':MO}{g:Nat}{V:Vs}{U:Us}{G:Gt}
theorem aou(hb:yA W w5)(v0 v1 v2 v3:M7)(T:NU):∃bx u3,bx=w5.heap.size/\u3=w5.alloc (MP #[v0,v1,v2,v3] T)/\M6 (yA W u3):=
 ⟨_,_,rfl,rfl,hb.alloc hb.size _⟩
theorem aov(hb:yA W w5)(v0 v1 v2 v3:M7):∃bx u3,bx=W.heap.size/\u3=(((w5.setCell ⟨W.heap.size,0,MH⟩ v0).setCell ⟨W.heap.size,1,MH⟩ v1).setCell ⟨W.heap.size,2,MH⟩ v2).setCell ⟨W.heap.size,3,MH⟩ v3/\M6 (yA W u3):=
 ⟨_,_,rfl,rfl,(((hb.setCell (MV _) _).setCell (MV _) _).setCell (MV _) _).setCell (MV _) _⟩
theorem apK(hwm:Wm G){x:He}(hx:x∈G.hea):Ze G.cfg.wn G.cfg.wf G.cfg.wh x.marks x.out x.till x.times G.now=((x.marks,x.out,x.till,x.times),Nb,0):=by
 have a:=hwm.im.bs.now;refine arx hwm.im.bs.Gx (by omega) (hwm.im.bs.hea x hx) ?_;cases ho:x.out
 ·exact Nt rfl
 ·exact NF (hwm.out x hx ho)
theorem aoD(h:RG w g U G)(hwm:Wm G){m:Mk}{x:He}(hx:x∈G.hea)(hm:Yo w (MG m.1 x.marks.length m.2) x.marks)(hc:w.cell? ⟨b,0,MH⟩=MI (gP g)):
  Ni MK 145 #[abQ m.1 m.2 x,Na (MI ⟨b,0,MH⟩)] w fun r w'=>r=MN (M3 Nb)/\yA w w':=by
 obtain⟨W,D⟩:=yE (w.alloc (MP #[MG m.1 x.marks.length m.2,M3 x.out,yB x.till,yB x.times] 224));have f:yA w W:=by rw[D];exact WQ w
 have q:W.heap[w.heap.size]?=MI (MP #[MG m.1 x.marks.length m.2,M3 x.out,yB x.till,yB x.times] 224):=by rw[D];exact M1 _ _
 have l:=h.below f;have A:=l.lt;have I:b<w.heap.size:=MX w ⟨b,0,MH⟩ hc;have O:b<W.heap.size:=M8 I f.size;have S:W.cell? ⟨b,0,MH⟩=MI (gP g):=(f.cell I).trans hc;have Y:W.cell? ⟨w.heap.size,0,MH⟩=MI (MG m.1 x.marks.length m.2):=by rw[MW W _ 0 _ _ (0,0) q];rfl
 have y1:W.cell? ⟨w.heap.size,1,MH⟩=MI (M3 x.out):=by rw[MW W _ 1 _ _ (0,0) q];rfl
 have y2:W.cell? ⟨w.heap.size,2,MH⟩=MI (yB x.till):=by rw[MW W _ 2 _ _ (0,0) q];rfl
 have y3:W.cell? ⟨w.heap.size,3,MH⟩=MI (yB x.times):=by rw[MW W _ 3 _ _ (0,0) q];rfl
 have y:w.heap.size<W.heap.size:=(ZAa.1 q).1;have L:=l.GS;have R:=l.GU;have M:=l.GO;have P:=l.Gm;have K:=apK hwm hx;have HB:M6 (∀X,yA W X->Ni MK 146 #[Ny #[yB G.cfg.wn,yB G.cfg.wf,yB G.cfg.wh],abQ m.1 m.2 x,yB G.now] X fun r w'=>∃p c,r=MN (Nv #[abQ p c x,M3 Nb,yB 0])/\M6 (yA W w')/\(∀n,n<X.heap.size->n<w'.heap.size)/\(∀b o,b<X.heap.size->w'.cell? ⟨b,o,MH⟩=X.cell? ⟨b,o,MH⟩)/\(∀b o,b<X.heap.size->w'.frozen? ⟨b,o,MH⟩=X.frozen? ⟨b,o,MH⟩)):=fun X hX=>by
  refine(alB G.cfg.wn G.cfg.wf G.cfg.wh (MG m.1 x.marks.length m.2) x.marks x.out x.till x.times G.now X (hm.below (f.trans (hX.mono f.size)))).mono ?_;rw[K];rintro r w' ⟨p,c,rfl,_,_,C⟩;exact⟨p,c,rfl,hX.trans (C.mono hX.size),fun n hn=>M8 hn C.size,fun b o hb'=>C.cell (p:=⟨b,o,MH⟩) hb',fun b o hb'=>OM (a:=⟨b,o,MH⟩) (C.block b hb')⟩
 have i:M6 (∀X,yA W X->X.cell? ⟨b,0,MH⟩=MI (gP g)/\X.cell? ⟨g,13,MH⟩=MI (yB G.cfg.wn)/\X.cell? ⟨g,14,MH⟩=MI (yB G.cfg.wf)/\X.cell? ⟨g,15,MH⟩=MI (yB G.cfg.wh)/\X.cell? ⟨g,16,MH⟩=MI (yB G.now)/\X.cell? ⟨w.heap.size,0,MH⟩=MI (MG m.1 x.marks.length m.2)/\X.cell? ⟨w.heap.size,1,MH⟩=MI (M3 x.out)/\X.cell? ⟨w.heap.size,2,MH⟩=MI (yB x.till)/\X.cell? ⟨w.heap.size,3,MH⟩=MI (yB x.times)/\yA W X):=fun X hX =>
  ⟨(hX.cell O).trans S,(hX.cell A).trans L,(hX.cell A).trans R,(hX.cell A).trans M,(hX.cell A).trans P,(hX.cell y).trans Y,(hX.cell y).trans y1,(hX.cell y).trans y2,(hX.cell y).trans y3,hX⟩
 have H:M6 _:=f;clear K f l h hwm hx hm hc q I;go_enter SM,Sr
 go_wp2_with fail
 rw[<-D];clear D;apply aan
 ·intro J
  go_region_held3 (fun X=>X.cell? ⟨b,0,MH⟩=MI (gP g)/\X.cell? ⟨g,13,MH⟩=MI (yB G.cfg.wn)/\X.cell? ⟨g,14,MH⟩=MI (yB G.cfg.wf)/\X.cell? ⟨g,15,MH⟩=MI (yB G.cfg.wh)/\X.cell? ⟨g,16,MH⟩=MI (yB G.now)/\X.cell? ⟨w.heap.size,0,MH⟩=MI (MG m.1 x.marks.length m.2)/\X.cell? ⟨w.heap.size,1,MH⟩=MI (M3 x.out)/\X.cell? ⟨w.heap.size,2,MH⟩=MI (yB x.till)/\X.cell? ⟨w.heap.size,3,MH⟩=MI (yB x.times)/\yA W X) (first|exact i.out _ ((MY _ _).drew)|exact i.out _ (((MY _ _).drew).alloc (by simp) _)|exact i.out _ d.out|exact i.out _ (d.out.alloc d.out.size _)|exact i.out _ (((MY _ _).alloc (MV _) _).drew)|exact i.out _ ((((d.out.setCell (MV _) _).setCell (MV _) _).setCell (MV _) _).setCell (MV _) _)) (first|(go_at_call 146;refine(HB.out _ ?hbW).mono ?_;(case hbW=>first|with_reducible assumption|exact(MY _ _).drew|exact((MY _ _).drew).alloc (by simp) _|exact((Below.refl _ _).alloc (Nat.le_refl _) _).drew);rintro r w5 ⟨p,c,rfl,d,T,Q,N⟩))
  all_goals
   clear T Q N;rename_i hHe;clear hHe
   first
   | (obtain⟨B,F,s,u,E⟩:=aou d.out (MG p x.marks.length c) (M3 x.out) (yB x.till) (yB x.times) 224
      rw[<-u]
      try rw[<-s]
      clear u s d;revert p c B F;exact J.out)
   | (obtain⟨B,F,s,u,E⟩:=aov d.out (MG p x.marks.length c) (M3 x.out) (yB x.till) (yB x.times)
      rw[<-u]
      try rw[<-s]
      clear u s d;revert p c B F;exact J.out)
 intro p c B F E;have Z:M6 _:=E.out;clear E;go_wp2;go_ret;exact⟨rfl,H.out.trans (Z.out.mono H.out.size)⟩
theorem apn(v:M7)(l:List (Mk×He))(w:MO)(hv:Xw aa0 w v l)(f:Nat)(hcl:∀x∈l,∀W,yA w W->Ni MK 145 #[abQ x.1.1 x.1.2 x.2,Na (MI ⟨f,0,MH⟩)] W fun r w'=>r=MN (M3 Nb)/\yA W w') :
  Ni MK 205 #[v,PB (PD 145) #[] #[Na (MI ⟨f,0,MH⟩)]] w fun r w'=>r=MN (yB (-1))/\yA w w':=by
 obtain⟨a,O,rfl,J,D,A⟩:=Xw.F6 aci hv;unfold NE at D;have E:M6 _:=hcl;clear hv hcl;go_enter Rl,Q5;go_wp2
 go_loopw [8] (fun i wr=>∃k:Nat,i=yB k/\k<=l.length/\yA w wr) (fun i _=>l.length-(intOf i).toNat)
 case atStart=>exact⟨0,rfl,Nx _,MY _ _⟩
 case round =>
  obtain⟨k,rfl,N,d⟩:=hrel
  by_cases hlt:k<l.length
  ·obtain⟨s,q,rfl,o,m⟩:=A k hlt
   have I:(k:Int)<(l.length:Int):=by omega
   obtain⟨x,y⟩:=yE (l[k]);have B:x∈l:=by rw[y];exact Nk hlt
   rw[<-y]at m;have Q:=(d.cell (p:=⟨s,q+k*4,MH⟩) o).trans ((m 0 (by omega)).trans (rfl:_=MI (MG x.1.1 x.2.marks.length x.1.2)));have L:=(d.cell (p:=⟨s,q+k*4+1,MH⟩) o).trans ((m 1 (by omega)).trans (rfl:_=MI (M3 x.2.out)));have P:=(d.cell (p:=⟨s,q+k*4+2,MH⟩) o).trans ((m 2 (by omega)).trans (rfl:_=MI (yB x.2.till)));have K:=(d.cell (p:=⟨s,q+k*4+3,MH⟩) o).trans ((m 3 (by omega)).trans (rfl:_=MI (yB x.2.times)));have u:M6 (_/\_):=⟨d,B⟩;clear d m o A y B
   go_wp2_with fail
   refine(E.out x u.out.2 _ u.out.1).mono ?_;rintro r M ⟨rfl,C⟩;have H:M6 _:=C;clear C;go_wp2
   go_roundw
   case rel=>exact⟨k+1,by simp,hlt,u.out.1.trans (H.out.mono u.out.1.size)⟩
   case measure=>simp[intOf];omega
  ·have F:M6 _:=d
   clear d A;go_wp2;go_ret;exact⟨rfl,F.out⟩
theorem aoS(v:M7)(l:List (Mk×He))(w:MO)(hv:Xw aa0 w v l)(f:Nat)(hcl:∀x∈l,∀W,yA w W->Ni MK 145 #[abQ x.1.1 x.1.2 x.2,Na (MI ⟨f,0,MH⟩)] W fun r w'=>r=MN (M3 Nb)/\yA W w') :
  Ni MK 147 #[v,PB (PD 145) #[] #[Na (MI ⟨f,0,MH⟩)]] w fun r w'=>r=MN (M3 Nb)/\yA w w':=by
 have d:M6 _:=apn v l w hv f hcl;clear hv hcl;go_enter Tryz.func147,Tryz.ntmps147
 go_wp2_with fail
 refine Nd d.out ?_;rintro r m ⟨rfl,a⟩;have i:M6 _:=a;clear a;go_wp2;go_ret;exact⟨rfl,i.out⟩
theorem aph(h:RG w g U G)(hwm:Wm G):Ni MK 92 #[gP g] w fun r w'=>r=MN (M3 Nw)/\yA w w':=by
 obtain⟨W,a⟩:=yE (w.alloc (MP #[gP g] 161));have f:yA w W:=by rw[a];exact WQ w
 have l:=h.below f;have A:W.cell? ⟨w.heap.size,0,MH⟩=MI (gP g):=by rw[a];exact Xu (M1 _ _)
 have o:w.heap.size<W.heap.size:=by rw[a];simp
 have q:∀x∈U.ms.zip G.hea,∀X,yA W X->Ni MK 145 #[abQ x.1.1 x.1.2 x.2,Na (MI ⟨w.heap.size,0,MH⟩)] X fun r w'=>r=MN (M3 Nb)/\yA X w':=by
  intro x C X u;obtain⟨i,hi,e⟩:=NV C;have D:U.ms[i]?=MI x.1:=by rw[<-e,Qf];exact MR _
  have y:G.hea[i]?=MI x.2:=by rw[<-e,Qf];exact MR _
  have m:=l.below u;exact aoD m hwm (Nu y) (m.wat.marks i x.1 x.2 D y) ((u.cell o).trans A)
 have d:M6 (_/\_):=⟨aoS (MG U.ph 12 U.ch) (U.ms.zip G.hea) W l.wat.hea w.heap.size q,f⟩;have E:=h.GI;have F:=h.lt;clear l h A f q o hwm;go_enter Tryz.func92,Tryz.ntmps92
 go_wp2_with fail
 rw[<-a];refine Nd d.out.1 ?_;rintro r H ⟨rfl,s⟩;have B:M6 _:=d.out.2.trans (s.mono d.out.2.size);clear s;go_wp2;go_ret;exact⟨rfl,B.out⟩
end
section
variable {base:Nat}{w w':MO}{g:Nat}{V:Vs}{U:Us}{G:Gt}
theorem ao2(h:RG w g U G)(f:Fl)(hr:0<=f.ret/\f.ret<=G.cfg.ret)(hd:G.now+1<=f.due/\f.due<=G.now+500)(hnow:0<=G.now/\G.now<=1099511626776)(hst:WY G.liv f.be=2\/WY G.liv f.be=3) :
  Ni MK 148 #[gP g,ZS f,yB f.slot,Ny #[yB f.gen,M3 Nw,yB f.key,yB f.be]] w fun r w'=>r=MN (M3 Nw)/\yA w w':=by
 obtain⟨W,A⟩:=yE ((w.alloc (MP #[yB f.slot,yB f.gen,yB f.key,yB f.be,M3 f.srv,yB f.ret,yB f.due] 211)).alloc (MP #[yB f.gen,M3 Nw,yB f.key,yB f.be] 208));have K:=acu w (MP #[yB f.slot,yB f.gen,yB f.key,yB f.be,M3 f.srv,yB f.ret,yB f.due] 211) (MP #[yB f.gen,M3 Nw,yB f.key,yB f.be] 208);rw[<-A]at K;obtain⟨d,i,u,N⟩:=K;clear N;have y:=h.below u;obtain⟨x,q⟩:=yE (WS G.liv f.be);have M:M6 _:=apU y f.be;rw[<-q]at M;have B:x.2.1=2\/x.2.1=3:=by rw[q];exact hst
 have O:∀X:MO,(Instr.field 214 (abR x) 1).run MK X=.ok (yB x.2.1) X:=fun X=>by kernel_rfl
 have P:W.cell? ⟨w.heap.size,3,MH⟩=MI (yB f.be):=by rw[MW W _ 3 _ _ (0,0) d];rfl
 have I:w.heap.size<W.heap.size:=(ZAa.1 d).1;have F:w.heap.size+1<W.heap.size:=(ZAa.1 i).1;have H:M6 (_/\_/\_/\_):=⟨u,y,d,i⟩;have D:M6 (∀X:MO,Ni MK 68 #[yB f.ret,yB 0,yB G.cfg.ret] X fun r w'=>r=MN (M3 Nw)/\w'=X):=fun X=>by
  have:=abW f.ret 0 G.cfg.ret X;rwa[Nq hr]at this
 have C:IntKind.i64.wrap (G.now+1)=G.now+1:=by rw[Ow];omega
 have E:IntKind.i64.wrap (G.now+500)=G.now+500:=by rw[Ow];omega
 have m:M6 (∀X:MO,Ni MK 68 #[yB f.due,yB (G.now+1),yB (G.now+500)] X fun r w'=>r=MN (M3 Nw)/\w'=X):=fun X=>by
  have:=abW f.due (G.now+1) (G.now+500) X;rwa[Nq hd]at this
 clear h u y d i q hst hr hd hnow;go_enter azK,azB
 go_wp2_with fail
 rw[<-A];clear A;refine Nd M.out ?_;rintro r a ⟨rfl,l⟩;have o:=H.out.2.1.below l;have d:=WO H.out.2.2.1 l;have i:=WO H.out.2.2.2 l;have Y:a.cell? ⟨w.heap.size,0,MH⟩=MI (yB f.slot):=by rw[MW a _ 0 _ _ (0,0) d];rfl
 have y1:a.cell? ⟨w.heap.size,1,MH⟩=MI (yB f.gen):=by rw[MW a _ 1 _ _ (0,0) d];rfl
 have y2:a.cell? ⟨w.heap.size,2,MH⟩=MI (yB f.key):=by rw[MW a _ 2 _ _ (0,0) d];rfl
 have y3:a.cell? ⟨w.heap.size,3,MH⟩=MI (yB f.be):=by rw[MW a _ 3 _ _ (0,0) d];rfl
 have y5:a.cell? ⟨w.heap.size,5,MH⟩=MI (yB f.ret):=by rw[MW a _ 5 _ _ (0,0) d];rfl
 have Z:a.cell? ⟨w.heap.size,6,MH⟩=MI (yB f.due):=by rw[MW a _ 6 _ _ (0,0) d];rfl
 have z0:a.cell? ⟨w.heap.size+1,0,MH⟩=MI (yB f.gen):=by rw[MW a _ 0 _ _ (0,0) i];rfl
 have z2:a.cell? ⟨w.heap.size+1,2,MH⟩=MI (yB f.key):=by rw[MW a _ 2 _ _ (0,0) i];rfl
 have z3:a.cell? ⟨w.heap.size+1,3,MH⟩=MI (yB f.be):=by rw[MW a _ 3 _ _ (0,0) i];rfl
 have e8:=o.c8;have S:=o.Gm;have T:=o.lt;have R:w.heap.size<a.heap.size:=M8 I l.size;have Q:w.heap.size+1<a.heap.size:=M8 F l.size;have L:M6 _:=H.out.1.trans (l.mono H.out.1.size);clear l o d i P I F;obtain⟨s,J⟩:=yE x.2.1;rw[<-J]at B O;clear J;rcases B with rfl|rfl
 ·go_wp2_with fail
  go_quiet (first|(go_at_call_of 68 (yB f.ret);exact Qe ((D.out _).mono fun r w' h=>⟨h.1,0,h.2⟩))|(go_at_call_of 68 (yB f.due);rw[C,E];exact Calls.quiet_of ((m.out _).mono fun r w' h=>⟨h.1,0,h.2⟩))|(go_at_call_of 68 (yB f.due);exact Qe ((m.out _).mono fun r w' h=>⟨h.1,0,h.2⟩)))
  go_wp2;go_ret;exact⟨rfl,ZE L.out _⟩
 ·go_wp2_with fail
  go_quiet (first|(go_at_call_of 68 (yB f.ret);exact Qe ((D.out _).mono fun r w' h=>⟨h.1,0,h.2⟩))|(go_at_call_of 68 (yB f.due);rw[C,E];exact Calls.quiet_of ((m.out _).mono fun r w' h=>⟨h.1,0,h.2⟩))|(go_at_call_of 68 (yB f.due);exact Qe ((m.out _).mono fun r w' h=>⟨h.1,0,h.2⟩)))
  go_wp2;go_ret;exact⟨rfl,ZE L.out _⟩
theorem aqm{p:Option Oc}{c n:Nat}{f:Fl}{L:List Fl}(hn:n=L.length)(h:ZR w (MG p (n+1) c) (f::L)) :
  ∃p2 c2,(∀W:MO,(Instr.sliceAt 41 (MG p (n+1) c) (MI (yB 1)) MH MH).run MK W=.ok (MG p2 n c2) W)/\ZR w (MG p2 n c2) L:=by
 subst hn;obtain⟨a,r,u,l,H,x⟩:=h;have l:L.length+1<=r:=l;injection u with e1 e2 e3;subst e1 e3;have d:MK.underlying 41=MI (.slice (MK.elem 41)):=by kernel_rfl
 obtain⟨F,hi,C,o,E⟩:=OF ad0;have q:∀W:MO,(sizeOf (MK.elem 41)).run MK W=.ok 7 W:=fun W=>by
  rw[show MK.elem 41=211 by kernel_rfl];simp[sizeOf,typeInfo,hi,o]
 refine⟨if c=1 then p else p.map (·.add (1*7)),c-1,fun W=>?_,?_⟩
 ·rw[run_sliceAt_slice _ _ _ _ _ _ d]
  rw[run_slice_l _ _ _ _ _ d _ _ (by omega) (by omega),q];simp[Result.andThen,sliced]
 ·refine⟨_,_,rfl,by omega,by unfold NE at *;omega,?_⟩
  by_cases h0:L.length=0
  ·exact Nt ⟨h0,by rw[ZAc.1 h0];rfl⟩
  ·rcases x with⟨s,_⟩|⟨b,off,rfl,A,m⟩
   ·exact absurd s (by simp)
   ·refine NF ⟨b,off+1*7,by rw[Nf (by omega)];simp[Addr.add],A,fun i hi'=>?_⟩
    have D:=abx XL L;have B:i<(rv WX L).length:=hi';have y:=m (1*7+i) (by
     show 1*7+i<(WX f++rv WX L).length;rw[Ns,XL];omega)
    rw[Nat.add_assoc,y];show(WX f++rv WX L)[1*7+i]?=_;rw[Tw (by rw[XL];omega),XL,Nat.one_mul,Nat.add_sub_cancel_left]
theorem aqx{k:Nat}(hk:k<G.tab.length):Xx k (G.tab.drop k)=if G.tab[k].2.1=Nw then((k:Int),G.tab[k].1,G.tab[k].2.2.1,G.tab[k].2.2.2)::Xx ((k+1:Nat):Int) (G.tab.drop (k+1))else Xx ((k+1:Nat):Int) (G.tab.drop (k+1)):=by
 rw[(Pp hk).symm];show(if G.tab[k].2.1=Nw then _ else _)=_;rw[show((k:Int)+1)=((k+1:Nat):Int)by push_cast;rfl]
theorem aq8{P:O8}{w:MO}{ops:Array Oper}{rest:List Oper}{o:Oper}{a:Act}{Q:Exit->Act->MO->Prop}(hgd:o.guard=MH)(T:NU)(x:Operand)(lo hi mx:Option Operand)
  (ho:o.op=.slice T x lo hi mx) (y:M7) (hr:(Instr.sliceAt T (a.eval x) (lo.map a.eval) (hi.map a.eval) (mx.map a.eval)).run P w=.ok y w)
  (h:wpList P ops Q rest (a.put o.dst y) w):wpList P ops Q (o::rest) a w :=
 wpList_plain hgd fun _ hK=>by
  unfold RB execOp;simp only[ho,Pn,P3,PG,hr];exact hK _ _ h
theorem ao3(h:RG w g U G)(hwm:Wm G):Ni MK 93 #[gP g] w fun r w'=>r=MN (M3 Nw)/\yA w w':=by
 have d7:=h.Gs;have g2:=h.Gr;have f8:=h.lt;have a9:=h.wat.fls;have a6:=hwm.im.bs.seats;obtain⟨al,f9,d9,f6,d3,d0⟩:=Yy.F6 h.wat.tab;injection d9 with el1 eln el3;unfold NE at d3;rw[el1,el3]at d7;clear el1 el3 eln;have H:M6 (_/\_/\_/\_/\_):=⟨h,hwm,d0,a9,a6⟩;clear h hwm d0 a9 a6
 go_enter Ux,Un;go_wp2
 go_loopw [3,18] (fun v i wr=>∃(k:Nat) (L:List Fl) (p:Option Oc) (c:Nat),i=yB (k:Int)/\v=MG p L.length c/\k<=G.tab.length/\M6 (ZR w (MG p L.length c) L/\L.map Fl.F8=Xx k (G.tab.drop k)/\(∀f∈L,f∈G.fls)/\yA w wr)) (fun _ i _=>G.tab.length-(intOf i).toNat)
 case atStart=>exact⟨0,G.fls,U.pf,U.cf,rfl,rfl,Nx _,H.out.2.2.2.1,by rw[List.drop_zero];exact H.out.2.2.2.2,fun f hf=>hf,MY _ _⟩
 case round =>
  obtain⟨k,L,p,c,rfl,rfl,hk,q⟩:=hrel;obtain⟨W,hW⟩:=yE wr;subst hW
  by_cases hlt:k<G.tab.length
  ·have d8:(k:Int)<(G.tab.length:Int):=by omega
   obtain⟨F,O,d6,A,z0,z1,z2,z3⟩:=H.out.2.2.1 k hlt;obtain⟨⟨Q,R,T,S⟩,d2⟩:∃x,x=G.tab[k]:=⟨_,rfl⟩;have Z:=aqx (G:=G) hlt;rw[<-d2]at z0 z1 z2 z3 Z;have u:=q.out.2.2.2;have e0:=(u.cell (p:=⟨F,O+k*4,MH⟩) A).trans z0;have e1:=(u.cell (p:=⟨F,O+k*4+1,MH⟩) A).trans z1;have e2:=(u.cell (p:=⟨F,O+k*4+2,MH⟩) A).trans z2;have e3:=(u.cell (p:=⟨F,O+k*4+3,MH⟩) A).trans z3;have a8:F<W.heap.size:=M8 A u.size;obtain⟨l,B⟩:=yE (W.alloc (MP #[yB Q,M3 R,yB T,yB S] 208));have b5:yA W l:=by rw[B];exact WQ W
   have C:l.heap[W.heap.size]?=MI (MP #[yB Q,M3 R,yB T,yB S] 208):=by rw[B];exact M1 _ _
   have y0:l.cell? ⟨W.heap.size,0,MH⟩=MI (yB Q):=by rw[MW l _ 0 _ _ (0,0) C];rfl
   have y1:l.cell? ⟨W.heap.size,1,MH⟩=MI (M3 R):=by rw[MW l _ 1 _ _ (0,0) C];rfl
   have y2:l.cell? ⟨W.heap.size,2,MH⟩=MI (yB T):=by rw[MW l _ 2 _ _ (0,0) C];rfl
   have y3:l.cell? ⟨W.heap.size,3,MH⟩=MI (yB S):=by rw[MW l _ 3 _ _ (0,0) C];rfl
   have N:W.heap.size<l.heap.size:=(ZAa.1 C).1;have m:M6 (_/\_):=⟨u.trans (b5.mono u.size),Z⟩;clear b5 C d2 z0 z1 z2 z3 A u Z;subst d6;cases R
   ·go_wp2_with fail
    rw[<-B];clear B e0 e1 e2 e3 a8;go_wp2
    go_roundw
    case rel=>exact⟨k+1,L,p,c,by go_num,rfl,hlt,q.out.1,by rw[q.out.2.1,m.out.2,Nf (by show ¬Nb=Nw;decide)],q.out.2.2.1,m.out.1⟩
    case measure=>simp[intOf];omega
   ·have I:=q.out.2.1
    rw[m.out.2,Nh rfl]at I;cases L with
    |nil=>exact absurd I (by simp)
    |cons f L' =>
     rw[OA]at I;obtain⟨E,d1⟩:=List.cons.inj I;clear I;have E:f.F8=((k:Int),Q,T,S):=E;unfold Fl.F8 at E;simp only[Q7]at E;obtain⟨q1,rfl,rfl,rfl⟩:=E;obtain⟨n,P⟩:=yE L'.length;have M:(f::L').length=n+1:=by rw[Ox,P]
     have a0:ZR w (MG p (n+1) c) (f::L'):=by rw[<-M];exact q.out.1
     obtain⟨p2,c2,b9,b7⟩:=aqm P a0;obtain⟨a2,g4,e9,Y,a7,b3⟩:=ZR.F6 a0;injection e9 with ev1 ev2 ev3;obtain⟨a,d,b6,s,t0,t1,t2,t3,t4,t5,t6⟩:=b3 0 (by simp);simp only[Nat.zero_mul,Oe,MS]at t0 t1 t2 t3 t4 t5 t6;rw[b6]at ev1;subst ev1;have f7:n+1<=c:=by rw[ev3];rw[M]at Y;exact Y
     have g1:c<=9223372036854775807:=by rw[ev3];exact a7
     have D:f∈G.fls:=q.out.2.2.1 f NM;have b4:=H.out.1.below m.out.1;have y:a<l.heap.size:=M8 s m.out.1.size;have v0:=(m.out.1.cell (p:=⟨a,d,MH⟩) s).trans t0;have v1:=(m.out.1.cell (p:=⟨a,d+1,MH⟩) s).trans t1;have v2:=(m.out.1.cell (p:=⟨a,d+2,MH⟩) s).trans t2;have v3:=(m.out.1.cell (p:=⟨a,d+3,MH⟩) s).trans t3;have v4:=(m.out.1.cell (p:=⟨a,d+4,MH⟩) s).trans t4;have v5:=(m.out.1.cell (p:=⟨a,d+5,MH⟩) s).trans t5;have v6:=(m.out.1.cell (p:=⟨a,d+6,MH⟩) s).trans t6;have HF:M6 (∀X,yA l X->Ni MK 148 #[gP g,ZS f,yB (k:Int),Ny #[yB f.gen,M3 Nw,yB f.key,yB f.be]] X fun r w'=>r=MN (M3 Nw)/\(w'.cell? ⟨a,d,MH⟩=MI (yB f.slot)/\w'.cell? ⟨a,d+1,MH⟩=MI (yB f.gen)/\w'.cell? ⟨a,d+2,MH⟩=MI (yB f.key)/\w'.cell? ⟨a,d+3,MH⟩=MI (yB f.be)/\w'.cell? ⟨a,d+4,MH⟩=MI (M3 f.srv)/\w'.cell? ⟨a,d+5,MH⟩=MI (yB f.ret)/\w'.cell? ⟨a,d+6,MH⟩=MI (yB f.due)/\w'.cell? ⟨W.heap.size,0,MH⟩=MI (yB f.gen)/\w'.cell? ⟨W.heap.size,1,MH⟩=MI (M3 Nw)/\w'.cell? ⟨W.heap.size,2,MH⟩=MI (yB f.key)/\w'.cell? ⟨W.heap.size,3,MH⟩=MI (yB f.be))/\M6 (yA l w')):=fun X hX=>by
      have g3:=H.out.2.1.due f D;have d5:=H.out.2.1.im.hi f D;rw[<-q1];refine(ao2 (b4.below hX) f (H.out.2.1.im.bs.rets f D) ⟨by omega,d5⟩ H.out.2.1.im.bs.now (H.out.2.1.im.be f D)).mono ?_;rintro r w' ⟨rfl,hb⟩;have o:=hX.trans (hb.mono hX.size);exact⟨rfl,⟨(o.cell y).trans v0,(o.cell y).trans v1,(o.cell y).trans v2,(o.cell y).trans v3,(o.cell y).trans v4,(o.cell y).trans v5,(o.cell y).trans v6,(o.cell N).trans y0,(o.cell N).trans y1,(o.cell N).trans y2,(o.cell N).trans y3⟩,o⟩
     have g0:(((n+1:Nat):Int) == 0)=false:=beq_eq_false_iff_ne.2 (by omega);have J:M6 (_/\_/\_/\_):=⟨b9,b7,d1,P⟩;rw[M];clear b9 b7 d1 a0 b3 ev2 ev3 b6 t0 t1 t2 t3 t4 t5 t6 b4 D P M Y a7 q1 s
     go_wp2_with fail
     rw[<-B];clear B e0 e1 e2 e3 a8
     go_wp2_with fail
     apply aan
     ·intro d4
      go_region_held3 (fun X=>X.cell? ⟨a,d,MH⟩=MI (yB f.slot)/\X.cell? ⟨a,d+1,MH⟩=MI (yB f.gen)/\X.cell? ⟨a,d+2,MH⟩=MI (yB f.key)/\X.cell? ⟨a,d+3,MH⟩=MI (yB f.be)/\X.cell? ⟨a,d+4,MH⟩=MI (M3 f.srv)/\X.cell? ⟨a,d+5,MH⟩=MI (yB f.ret)/\X.cell? ⟨a,d+6,MH⟩=MI (yB f.due)/\X.cell? ⟨W.heap.size,0,MH⟩=MI (yB f.gen)/\X.cell? ⟨W.heap.size,1,MH⟩=MI (M3 Nw)/\X.cell? ⟨W.heap.size,2,MH⟩=MI (yB f.key)/\X.cell? ⟨W.heap.size,3,MH⟩=MI (yB f.be)) (first|exact⟨v0,v1,v2,v3,v4,v5,v6,y0,y1,y2,y3⟩|exact b8) (first|(go_at_call 148;refine(HF.out _ (by first|exact(MY _ _).drew|exact Below.refl _ _)).mono ?_;rintro r w3 ⟨rfl,b8,hQ⟩))
      all_goals
       rename_i hHe;clear hHe b8;revert w3;exact d4.out
     intro w3 hQ;have HQ:M6 _:=hQ.out;clear hQ
     go_wp2_with ((with_reducible refine aq8 rfl 41 (O6 39) (MI (.const (yB 1))) MH MH rfl (MG p2 n c2) ?hr ?_);(case hr=>exact J.out.1 _))
     go_wp2
     go_roundw
     case rel=>exact⟨k+1,L',p2,c2,by go_num,by rw[J.out.2.2.2],hlt,by rw[<-J.out.2.2.2];exact J.out.2.1,J.out.2.2.1,fun x hx=>q.out.2.2.1 x (NB _ hx),m.out.1.trans (HQ.out.mono m.out.1.size)⟩
     case measure=>simp[intOf];omega
  ·obtain rfl:k=G.tab.length:=by omega
   have d8:¬(G.tab.length:Int)<(G.tab.length:Int):=by omega
   have K:=q.out.2.1;rw[List.drop_length]at K;have K:L=[]:=List.map_eq_nil_iff.1 K;subst K;go_wp2;go_ret;exact⟨rfl,q.out.2.2.2⟩
end
section
variable {base:Nat}{w w':MO}{g:Nat}{V:Vs}{U:Us}{G:Gt}
theorem akH{L:List awV}{l:awV}(b:Int)(hl:∀x∈L,x.1<l.1):WS (L++[l]) b=if b=l.1 then l else WS L b:=by
 split
 ·rename_i h
  subst h;unfold WS;rw[Tf,List.find?_eq_none.2 (fun x a=>by have:=hl x a;simp;omega)];simp
 ·rename_i h
  unfold WS;rw[Tf];have:[l].find? (fun x=>x.1 == b)=none:=by rw[List.find?_eq_none];intro x a;rw[PY]at a;subst a;simp;exact fun e=>h e.symm
  rw[this,Option.or_none]
theorem afY{L:List awV}(hr:Zq L){j:Nat}(hj:j<L.length):∀x∈L.take j,x.1<L[j].1:=by
 intro x f;have h:L=L.take j++(L[j]::L.drop (j+1)):=by rw[Pp hj,Oo]
 have d:(L.take j++(L[j]::L.drop (j+1))).Pairwise (fun a b=>a.1<b.1):=by rw[<-h];exact hr
 exact(List.pairwise_append.1 d).2.2 x f L[j] NM
theorem apT(h:Bs G){l:awV}(hl:l∈G.liv):(0<=l.1/\l.1<=11)/\(1<=l.2.2.1/\l.2.2.1<=8):=
 ⟨(h.book.1.2.1 l hl).1.1,(h.book.1.2.1 l hl).1.2.1⟩
def aap(G:Gt)(j:Nat):List Int:=(Pm 12).map fun b:Nat=>if WY (G.liv.take j) (b:Int)=2 then 0 else 4*G.wts.getD b 0
theorem acj(j:Nat):(aap G j).length=12:=by simp[aap]
theorem afP(j:Nat)(hb:b<12):(aap G j)[b]'(by rw[acj];exact hb)=if WY (G.liv.take j) b=2 then 0 else 4*G.wts.getD b 0:=by
 simp[aap]
theorem apS(h:Bs G):aap G 0=Z5 (WW G.wts):=by
 unfold aap Z5;apply PU;intro b a;have a:=List.mem_range.1 a;rw[Nf (by show ¬(0:Int)=2;decide),agx _ _ a];have:=h.wts.low b;unfold wt;omega
theorem apP(h:Im G):aap G G.liv.length=Nj 12 0:=by
 unfold aap;rw[NT];have:∀b∈Pm 12,(if WY G.liv ((b:Nat):Int)=2 then(0:Int)else 4*G.wts.getD b 0)=0:=by
  intro b a;have a:=List.mem_range.1 a
  split
  ·rfl
  ·rename_i hn
   rw[h.ring b a,Nf hn];rfl
 rw[PU this];rfl
theorem apR(hr:Zq G.liv){j:Nat}(hj:j<G.liv.length)(hs:¬G.liv[j].2.1=2):aap G (j+1)=aap G j:=by
 unfold aap;apply PU;intro b f;have a:∀c:Int,WY (G.liv.take (j+1)) c=if c=G.liv[j].1 then G.liv[j].2.1 else WY (G.liv.take j) c:=fun c=>by
  show(WS _ _).2.1=_;rw[M9 hj,akH c (afY hr hj)]
  split <;> rfl
 rw[a]
 by_cases e:(b:Int)=G.liv[j].1
 ·have d:¬WY (G.liv.take j) (b:Int)=2:=by
   show ¬(WS _ _).2.1=2;rw[ahv fun x hx=>by have:=afY hr hj x hx;omega]
   decide
  rw[Nh e,Nf hs,Nf d]
 ·rw[Nf e]
theorem apQ(h:Im G){j:Nat}(hj:j<G.liv.length)(hb:b<12)(hbe:G.liv[j].1=(b:Int))(hs:G.liv[j].2.1=2):
  (aap G j)[b]'(by rw[acj];exact hb)=G.liv[j].2.2.1*4/\aap G (j+1)=(aap G j).set b 0:=by
 have a:Zq G.liv:=h.bs.Gv;have d:∀c:Int,WY (G.liv.take (j+1)) c=if c=G.liv[j].1 then G.liv[j].2.1 else WY (G.liv.take j) c:=fun c=>by
  show(WS _ _).2.1=_;rw[M9 hj,akH c (afY a hj)]
  split <;> rfl
 have f:WS G.liv (b:Int)=G.liv[j]:=by rw[<-hbe];exact abd a (Nk hj)
 have i:WY G.liv (b:Int)=2:=by show(WS _ _).2.1=2;rw[f];exact hs
 have l:¬WY (G.liv.take j) (b:Int)=2:=by
  show ¬(WS _ _).2.1=2;rw[ahv fun x hx=>by have:=afY a hj x hx;omega]
  decide
 refine⟨?_,?_⟩
 ·rw[afP j hb,Nf l,h.ring b hb,Nh i,f]
  omega
 ·apply Ot
  intro c
  by_cases hc:c<12
  ·by_cases e:c=b
   ·subst e
    rw[N7 (by rw[acj];exact hc),MR (by rw[acj];exact hc),afP (j+1) hc,d,Nh hbe.symm,Nh hs]
   ·rw[N3 (Pi e),MR (by rw[acj];exact hc),MR (by rw[acj];exact hc),afP (j+1) hc,afP j hc,d,Nf (show ¬(c:Int)=G.liv[j].1 by rw[hbe];omega)]
  ·rw[Nz (by rw[acj];omega),Nz (by rw[NA,acj];omega)]
theorem alu:(#[yB 0,yB 0,yB 0,yB 0,yB 0,yB 0,yB 0,yB 0,yB 0,yB 0,yB 0,yB 0]:Array M7)=(WR (Nj 12 0)).toArray:=rfl
theorem aps:(MK.info? 275).map (·.size)=MI 12:=by kernel_rfl
theorem aoY(W:MO):(binOp .eql 275 (Ny #[yB 0,yB 0,yB 0,yB 0,yB 0,yB 0,yB 0,yB 0,yB 0,yB 0,yB 0,yB 0]) (Ny #[yB 0,yB 0,yB 0,yB 0,yB 0,yB 0,yB 0,yB 0,yB 0,yB 0,yB 0,yB 0])).run MK W=.ok (M3 Nw) W:=by kernel_rfl
theorem aqs(h:RG w g U G)(hwm:Wm G):Ni MK 95 #[gP g] w fun r w'=>r=MN (M3 Nw)/\yA w w':=by
 have d0:=h.GX;have i8:=h.lt;have b6:=afi hwm.im.bs.wts;have HR:M6 _:=atr (MG U.ps (WW G.wts).length U.cs) (WW G.wts) w h.wat.ring;have a7:=apS hwm.im.bs;obtain⟨l,hl⟩:=yE (WW G.wts);have l6:l.length<=384:=by rw[hl];exact aiU hwm.im.bs.wts
 have b4:=h.wat.ring;rw[<-hl]at d0 HR b6 a7 b4;obtain⟨al,i9,g2,g8,d9,d8⟩:=b4.F6;injection g2 with el1 eln el3;obtain⟨av,i2,g4,g7,e9,d6⟩:=adt.F6 h.wat.book.1;injection g4 with ev1 evn ev3;unfold NE at d9 e9;have H:M6 (_/\_/\_/\_/\_/\_/\_):=⟨h,hwm,b6,a7,d8,d6,hl⟩;have K:M6 (_/\_/\_/\_):=⟨el1,el3,ev1,ev3⟩;clear h hwm b6 a7 d8 d6 hl b4 el1 eln el3 ev1 evn ev3;go_enter Tryz.func95,Tryz.ntmps95
 go_wp2_with fail
 refine Nd HR.out ?_;rintro r N ⟨e,rfl,he,_,f⟩;obtain rfl:e=0:=he H.out.2.2.1;have b5:=(H.out.1.below f).GX;have a8:=(H.out.1.below f).Gn;have a0:=(H.out.1.below f).lt;rw[<-H.out.2.2.2.2.2.2,K.out.1,K.out.2.1]at b5;rw[K.out.2.2.1,K.out.2.2.2]at a8;obtain⟨A,hA⟩:=yE N.heap.size;obtain⟨I,Y⟩:=yE (N.alloc (MP (WR (Nj 12 0)).toArray 275));have P:yA N I:=by rw[Y];exact WQ N
 have d4:Xj 275 12 I A (Nj 12 0):=by rw[hA,Y];exact⟨M1 _ _,by simp⟩
 have f9:=(P.cell (p:=⟨g,21,MH⟩) a0).trans b5;have f6:g<I.heap.size:=M8 a0 P.size;have d1:yA w I:=f.trans (P.mono f.size);have f7:w.heap.size<=A:=by rw[hA];exact f.size
 have Z:M6 (_/\_/\_/\_):=⟨d1,d4,f7,a8⟩;clear f he a8 P d4 d1 f9 f6
 go_wp2_with fail
 rw[alu,<-Y,<-hA];clear Y hA d0 b5 a0
 go_loopw [22] (fun t wr=>∃k:Nat,t=yB (k:Int)/\k<=l.length/\M6 (yA w wr/\Xj 275 12 wr A (Z5 (l.take k)))) (fun t _=>l.length-(intOf t).toNat)
 case atStart=>exact⟨0,rfl,Nx _,Z.out.1,by rw[List.take_zero];exact Z.out.2.1⟩
 case round =>
  obtain⟨k,rfl,hk,u⟩:=hrel;obtain⟨W,hW⟩:=yE wr;subst hW
  by_cases hlt:k<l.length
  ·have b3:(k:Int)<(l.length:Int):=by omega
   obtain⟨b0,off,Q,S,c1,c2⟩:=H.out.2.2.2.2.1 k hlt;have a:=u.out.1;have e1:=(a.cell (p:=⟨b0,off+k*2,MH⟩) S).trans c1;have e2:=(a.cell (p:=⟨b0,off+k*2+1,MH⟩) S).trans c2;have i4:b0<W.heap.size:=M8 S a.size;obtain⟨M,a9⟩:=yE (l[k].1);obtain⟨td,T⟩:=yE (l[k].2);rw[<-a9]at e1;rw[<-T]at e2;have R:l.take (k+1)=l.take k++[(M,td)]:=by rw[M9 hlt,a9,T]
   have a6:=aiQ H.out.2.2.1 l[k] (Nk hlt);rw[<-T]at a6;obtain⟨b,rfl⟩:=NL a6.1;have s:b<12:=by omega
   have g5:(b:Int)<12:=by omega
   obtain⟨d,m⟩:=yE (W.alloc (MP #[yB M,yB (b:Int)] 220));have D:yA W d:=by rw[m];exact WQ W
   have B:d.heap[W.heap.size]?=MI (MP #[yB M,yB (b:Int)] 220):=by rw[m];exact M1 _ _
   have q:=u.out.2.below D;have g1:=u.out.2.lt;have E:=u.out.2.F7 b (by rw[abI];exact s);have g0:=u.out.2.Gu b;have d2:(Z5 (l.take k))[b]'(by rw[abI];exact s)=((XX (l.take k) b:Nat):Int):=by
    have:=aiD (l.take k) b s;rwa[NK,MR (by rw[abI];exact s)]at this
   rw[d2]at E;have f8:XX (l.take k) b<=k:=Nm (aiF _ _) (by rw[NH];omega);obtain⟨x,L⟩:=yE (XX (l.take k) b);rw[<-L]at E f8;have HQ:M6 (_/\_):=⟨L,R⟩;clear q L d2 a6 D B R a9 T c1 c2 a S m;subst Q;go_wp2
   go_roundw
   case rel =>
    obtain⟨L,R⟩:=HQ.out;have hq:=(u.out.1.setCell (p:=⟨A,b,MH⟩) Z.out.2.2.1 (yB ((x:Int)+1)));refine⟨k+1,by go_num,hlt,hq.alloc hq.size _,?_⟩;rw[R,amF _ _ b s rfl,<-L];exact(u.out.2.F4 b _).below (WQ _)
   case measure=>simp[intOf];omega
  ·obtain rfl:k=l.length:=by omega
   have b3:¬(l.length:Int)<(l.length:Int):=by omega
   obtain⟨a,y⟩:=u.out;rw[NT,<-H.out.2.2.2.1]at y;have g6:=(H.out.1.below a).Gn;rw[K.out.2.2.1,K.out.2.2.2]at g6;have i1:=(H.out.1.below a).lt;have H2:M6 (_/\_):=⟨a,y⟩;clear a y;go_wp2
   go_loopw [40] (fun t wr=>∃k:Nat,t=yB (k:Int)/\k<=G.liv.length/\M6 (yA w wr/\Xj 275 12 wr A (aap G k))) (fun t _=>G.liv.length-(intOf t).toNat)
   case atStart=>exact⟨0,rfl,Nx _,H2.out.1,H2.out.2⟩
   case round =>
    obtain⟨k,rfl,hk,HJ⟩:=hrel;obtain⟨X,hX⟩:=yE wr;subst hX
    by_cases hlt:k<G.liv.length
    ·have b3:(k:Int)<(G.liv.length:Int):=by omega
     obtain⟨C,F,Q,f,z0,z1,z2,z3,z4,z5⟩:=H.out.2.2.2.2.2.1 k hlt;obtain⟨⟨x1,J,i,x4,x5,x6⟩,o⟩:∃x,x=G.liv[k]:=⟨_,rfl⟩;have O:(x1,J,i,x4,x5,x6)∈G.liv:=by rw[o];exact Nk hlt
     rw[<-o]at z0 z1 z2 z3 z4 z5;have a:=HJ.out.1;have e0:=(a.cell (p:=⟨C,F+k*6,MH⟩) f).trans z0;have e1:=(a.cell (p:=⟨C,F+k*6+1,MH⟩) f).trans z1;have e2:=(a.cell (p:=⟨C,F+k*6+2,MH⟩) f).trans z2;have e3:=(a.cell (p:=⟨C,F+k*6+3,MH⟩) f).trans z3;have e4:=(a.cell (p:=⟨C,F+k*6+4,MH⟩) f).trans z4;have e5:=(a.cell (p:=⟨C,F+k*6+5,MH⟩) f).trans z5;have b9:C<X.heap.size:=M8 f a.size;obtain⟨d,m⟩:=yE (X.alloc (YQ (x1,J,i,x4,x5,x6)));have D:yA X d:=by rw[m];exact WQ X
     have B:d.heap[X.heap.size]?=MI (YQ (x1,J,i,x4,x5,x6)):=by rw[m];exact M1 _ _
     have y0:d.cell? ⟨X.heap.size,0,MH⟩=MI (yB x1):=by rw[MW d _ 0 _ _ (0,0) B];rfl
     have y1:d.cell? ⟨X.heap.size,1,MH⟩=MI (yB J):=by rw[MW d _ 1 _ _ (0,0) B];rfl
     have y2:d.cell? ⟨X.heap.size,2,MH⟩=MI (yB i):=by rw[MW d _ 2 _ _ (0,0) B];rfl
     have l7:X.heap.size<d.heap.size:=(ZAa.1 B).1;have q:=HJ.out.2.below D;have b8:=(H.out.2.1.im.bs.book.1.1:_);have HX:M6 (_/\_/\_/\_):=⟨a.trans (D.mono a.size),q,O,o⟩;clear D B a f z0 z1 z2 z3 z4 z5
     by_cases h2:J=2
     ·subst h2
      have b7:=apT H.out.2.1.im.bs O;obtain⟨b,rfl⟩:=NL b7.1.1;have s:b<12:=by omega
      have g5:(b:Int)<12:=by omega
      obtain⟨d5,d7⟩:=apQ H.out.2.1.im hlt s (by rw[<-o]) (by rw[<-o]);have E:=q.F7 b (by rw[acj];exact s);rw[d5,<-o]at E;have E:d.cell? ⟨A,b,MH⟩=MI (yB (i*4)):=E;have g0:=q.Gu b;have g1:=q.lt;have g3:¬X.heap.size=A:=by have:=HJ.out.2.lt;omega
      have g9:¬A=X.heap.size:=fun e=>g3 e.symm
      have i3:1<=i/\i<=8:=b7.2;have i7:IntKind.i64.wrap (i*4)=i*4:=by rw[Ow];omega
      have l0:IntKind.i64.wrap (i*4-i*4)=0:=by rw[Int.sub_self];rfl
      have HN:M6 (_/\_):=⟨d7,q.F4 b 0⟩;clear d5 d7 q O o b7 b8;subst Q
      go_wp2_with fail
      rw[<-m];clear m e0 e1 e2 e3 e4 e5 b9
      go_wp2_with fail
      go_region
      go_wp2
      go_roundw
      case rel =>
       refine⟨k+1,by go_num,hlt,HX.out.1.drew.setCell Z.out.2.2.1 _,?_⟩;rw[HN.out.1];exact HN.out.2
      case measure=>simp[intOf];omega
     ·have i6:(J == 2)=false:=beq_eq_false_iff_ne.2 h2
      have d3:=apR (G:=G) H.out.2.1.im.bs.Gv hlt (by rw[<-o];exact h2);have HN:M6 _:=d3;clear d3 h2 O o q b8;subst Q
      go_wp2_with fail
      rw[<-m];clear m e0 e1 e2 e3 e4 e5 b9;go_wp2
      go_roundw
      case rel=>exact⟨k+1,by go_num,hlt,HX.out.1,by rw[HN.out];exact HX.out.2.1⟩
      case measure=>simp[intOf];omega
    ·obtain rfl:k=G.liv.length:=by omega
     have b3:¬(G.liv.length:Int)<(G.liv.length:Int):=by omega
     obtain⟨a,y⟩:=HJ.out;rw[apP H.out.2.1.im]at y;have i5:=aoY;have HF:M6 (_/\_):=⟨a,y⟩;clear a y
     go_wp2_with ((with_reducible refine O3 rfl 275 (O6 3) rfl A 0 ?gx (WR (Nj 12 0)) _ ?gc Tryz.underlying275 ?gd ?gi ?_);(case gx=>rfl);(case gc=>exact HF.out.2.Gq);(case gd=>rfl);(case gi=>exact aps);rw[<-alu])
     go_wp2;go_ret;exact⟨rfl,HF.out.1⟩
end
def acJ(s d:Int)(t:Tm):Bool:=(t.2 == s) && (t.1 == d)
theorem aoG(x1 x2:Int)(s d:Int)(g:Nat)(w:MO)(hc:w.cell? ⟨g,0,MH⟩=MI (yB s))(hd:w.cell? ⟨g,6,MH⟩=MI (yB d)) :
  Ni MK 155 #[Ny #[yB x1,yB x2],Na (MI ⟨g,0,MH⟩)] w fun r w'=>r=MN (M3 (acJ s d (x1,x2)))/\yA w w':=by
 have f:g<w.heap.size:=MX w ⟨g,0,MH⟩ hc;unfold acJ
 by_cases e:x2=s
 ·subst e
  go_enter ayv,ayr;go_wp2;go_ret;exact⟨by simp,WQ w⟩
 ·have a:(x2 == s)=false:=beq_eq_false_iff_ne.2 e
  go_enter ayv,ayr;go_wp2;go_ret;exact⟨by simp[a],WQ w⟩
theorem app(v:M7)(l:List Tm)(s d:Int)(g:Nat)(w:MO)(hv:Xz w v l)(hc:w.cell? ⟨g,0,MH⟩=MI (yB s))(hd:w.cell? ⟨g,6,MH⟩=MI (yB d)) :
  Ni MK 211 #[v,PB (PD 155) #[] #[Na (MI ⟨g,0,MH⟩)]] w fun r w'=>r=MN (yB (X6 (l.findIdx (acJ s d)) l.length))/\yA w w':=by
 obtain⟨q,K⟩:∃q:Tm->Bool,q=(acJ s d):=⟨_,rfl⟩;obtain⟨a,ca,rfl,a6,T,L⟩:=Xz.F6 hv;unfold NE at T;have O:=MX w ⟨g,0,MH⟩ hc;have R:M6 (∀(m o:Int) (W:MO),yA w W->Ni MK 155 #[Ny #[yB m,yB o],Na (MI ⟨g,0,MH⟩)] W fun r w'=>r=MN (M3 (q (m,o)))/\yA W w'):=by
  rw[K];exact fun m o W hb=>aoG m o s d g W ((hb.cell (p:=⟨g,0,MH⟩) O).trans hc) ((hb.cell (p:=⟨g,6,MH⟩) O).trans hd)
 rw[<-K];obtain⟨y,E⟩:=yE (X6 (l.findIdx q) l.length);rw[<-E];have H:M6 _:=E;clear hv E K hc hd;go_enter Tryz.func211,Tryz.ntmps211;go_wp2
 go_loopw [8] (fun i wr=>∃k:Nat,i=yB k/\k<=l.length/\(∀t∈l.take k,q t=Nb)/\yA w wr) (fun i _=>l.length-(intOf i).toNat)
 case atStart=>exact⟨0,rfl,Nx _,by simp,MY _ _⟩
 case round =>
  obtain⟨k,rfl,hk,B,A⟩:=hrel
  by_cases hlt:k<l.length
  ·obtain⟨S,Q,rfl,I,c1,c2⟩:=L k hlt
   have e1:=(A.cell (p:=⟨S,Q+k*2,MH⟩) I).trans c1;have Y:=(A.cell (p:=⟨S,Q+k*2+1,MH⟩) I).trans c2;have u:M6 (_/\_):=⟨B,A⟩;have a0:(k:Int)<(l.length:Int):=by omega
   have J:l.take (k+1)=l.take k++[l[k]]:=M9 hlt;have F:q l[k]=Nw->l.findIdx q=k:=fun h=>abZ hlt B h
   have D:∃x,x=l[k]:=⟨_,rfl⟩;obtain⟨⟨m,o⟩,D⟩:=D;rw[<-D]at e1 Y J F;have P:M6 (_/\_):=⟨J,F⟩;clear B A c1 c2 I L J F D;cases hdd:q (m,o)
   ·go_wp2_with fail
    refine(R.out m o _ u.out.2).mono ?_;rw[hdd];rintro r w2 ⟨rfl,C⟩;have M:M6 _:=C;clear C;go_wp2
    go_roundw
    case rel =>
     refine⟨k+1,by simp,hlt,fun t f=>?_,u.out.2.trans (M.out.mono u.out.2.size)⟩;rw[P.out.1]at f;rcases QF.1 f with f|f
     ·exact u.out.1 t f
     ·simp at f
      rw[f];exact hdd
    case measure=>simp[intOf];omega
   ·go_wp2_with fail
    refine(R.out m o _ u.out.2).mono ?_;rw[hdd];rintro r w2 ⟨rfl,C⟩;have N:M6 (y=(k:Int)):=by show y=_;rw[H.out,P.out.2 hdd];exact Nh hlt
    have M:M6 _:=C;clear C;go_wp2;go_ret;exact⟨by rw[N.out];rfl,u.out.2.trans (M.out.mono u.out.2.size)⟩
  ·have N:M6 (y = -1):=by
    show y=_;rw[H.out,acp fun t f=>B t (by rw[N1 (by omega)];exact f)];exact Nf (PC _)
   have Z:M6 _:=A;clear B A L;go_wp2;go_ret;exact⟨by rw[N.out];rfl,Z.out⟩
theorem aoT(v:M7)(l:List Tm)(s d:Int)(g:Nat)(w:MO)(hv:Xz w v l)(hc:w.cell? ⟨g,0,MH⟩=MI (yB s))(hd:w.cell? ⟨g,6,MH⟩=MI (yB d)) :
  Ni MK 154 #[v,PB (PD 155) #[] #[Na (MI ⟨g,0,MH⟩)]] w fun r w'=>r=MN (M3 (l.any (acJ s d)))/\yA w w':=by
 rw[<-ahq];have i:M6 _:=app v l s d g w hv hc hd;obtain⟨m,a⟩:=yE (X6 (l.findIdx (acJ s d)) l.length);rw[<-a]at i⊢;clear a hv;go_enter UR,UE
 go_wp2_with fail
 refine Nd i.out ?_;rintro r q ⟨rfl,f⟩;have o:M6 _:=f;clear f;go_wp2;go_ret;exact⟨rfl,o.out⟩
theorem aoH(f:Fl)(p:Option Oc)(c:Nat)(l:List Tm)(b:Nat)(w:MO)(hc:w.cell? ⟨b,0,MH⟩=MI (MG p l.length c))(hv:Xz w (MG p l.length c) l)(hm:(f.due,f.slot)∈l) :
  Ni MK 153 #[ZS f,Na (MI ⟨b,0,MH⟩)] w fun r w'=>r=MN (M3 Nb)/\yA w w':=by
 obtain⟨W,i⟩:=yE (w.alloc (MP #[yB f.slot,yB f.gen,yB f.key,yB f.be,M3 f.srv,yB f.ret,yB f.due] 211));have d:yA w W:=by rw[i];exact WQ w
 have m:W.heap[w.heap.size]?=MI (MP #[yB f.slot,yB f.gen,yB f.key,yB f.be,M3 f.srv,yB f.ret,yB f.due] 211):=by rw[i];exact M1 _ _
 have u:b<w.heap.size:=MX w ⟨b,0,MH⟩ hc;have o:l.any (acJ f.slot f.due)=true:=List.any_eq_true.2 ⟨_,hm,by simp[acJ]⟩;have a:=aoT (MG p l.length c) l f.slot f.due w.heap.size W (hv.below d) (by rw[MW W _ 0 _ _ (0,0) m];rfl) (by rw[MW W _ 6 _ _ (0,0) m];rfl);rw[o]at a;have H:M6 (_/\_):=⟨a,d⟩;clear a d m o hm hv;go_enter Tryz.func153,Tryz.ntmps153
 go_wp2_with fail
 rw[<-i];refine Nd H.out.1 ?_;rintro r x ⟨rfl,q⟩;have s:M6 _:=H.out.2.trans (q.mono H.out.2.size);clear q;go_wp2;go_ret;exact⟨rfl,s.out⟩
theorem apq(v:M7)(l:List Fl)(w:MO)(hv:ZR w v l)(b:Nat)(hcl:∀f∈l,∀W,yA w W->Ni MK 153 #[ZS f,Na (MI ⟨b,0,MH⟩)] W fun r w'=>r=MN (M3 Nb)/\yA W w') :
  Ni MK 162 #[v,PB (PD 153) #[] #[Na (MI ⟨b,0,MH⟩)]] w fun r w'=>r=MN (yB (-1))/\yA w w':=by
 obtain⟨a,Q,rfl,I,C,y⟩:=ZR.F6 hv;unfold NE at C;have D:M6 _:=hcl;clear hv hcl;go_enter VW,VM;go_wp2
 go_loopw [8] (fun i wr=>∃k:Nat,i=yB k/\k<=l.length/\yA w wr) (fun i _=>l.length-(intOf i).toNat)
 case atStart=>exact⟨0,rfl,Nx _,MY _ _⟩
 case round =>
  obtain⟨k,rfl,P,d⟩:=hrel
  by_cases hlt:k<l.length
  ·obtain⟨q,o,rfl,m,c1,c2,c3,c4,c5,c6,c7⟩:=y k hlt
   have H:(k:Int)<(l.length:Int):=by omega
   obtain⟨x,u⟩:=yE (l[k]);have A:x∈l:=by rw[u];exact Nk hlt
   rw[<-u]at c1 c2 c3 c4 c5 c6 c7;have S:=(d.cell (p:=⟨q,o+k*7,MH⟩) m).trans c1;have L:=(d.cell (p:=⟨q,o+k*7+1,MH⟩) m).trans c2;have N:=(d.cell (p:=⟨q,o+k*7+2,MH⟩) m).trans c3;have J:=(d.cell (p:=⟨q,o+k*7+3,MH⟩) m).trans c4;have R:=(d.cell (p:=⟨q,o+k*7+4,MH⟩) m).trans c5;have M:=(d.cell (p:=⟨q,o+k*7+5,MH⟩) m).trans c6;have K:=(d.cell (p:=⟨q,o+k*7+6,MH⟩) m).trans c7;have s:M6 (_/\_):=⟨d,A⟩;clear d c1 c2 c3 c4 c5 c6 c7 m y u A
   go_wp2_with fail
   refine(D.out x s.out.2 _ s.out.1).mono ?_;rintro r O ⟨rfl,B⟩;have F:M6 _:=B;clear B;go_wp2
   go_roundw
   case rel=>exact⟨k+1,by simp,hlt,s.out.1.trans (F.out.mono s.out.1.size)⟩
   case measure=>simp[intOf];omega
  ·have E:M6 _:=d
   clear d y;go_wp2;go_ret;exact⟨rfl,E.out⟩
theorem aoU(v:M7)(l:List Fl)(w:MO)(hv:ZR w v l)(b:Nat)(hcl:∀f∈l,∀W,yA w W->Ni MK 153 #[ZS f,Na (MI ⟨b,0,MH⟩)] W fun r w'=>r=MN (M3 Nb)/\yA W w') :
  Ni MK 156 #[v,PB (PD 153) #[] #[Na (MI ⟨b,0,MH⟩)]] w fun r w'=>r=MN (M3 Nb)/\yA w w':=by
 have d:M6 _:=apq v l w hv b hcl;clear hv hcl;go_enter SN,Ss
 go_wp2_with fail
 refine Nd d.out ?_;rintro r m ⟨rfl,a⟩;have i:M6 _:=a;clear a;go_wp2;go_ret;exact⟨rfl,i.out⟩
section
variable {base:Nat}{w w':MO}{g:Nat}{V:Vs}{U:Us}{G:Gt}
theorem aqX(hwm:Wm G){ls:List (List Tm)}(hm:Y9 G.wnow ls)(hT:∀t,t∈ls.flatten↔G.tms t):ls.flatten.length=G.fls.length/\∀f∈G.fls,(f.due,f.slot)∈ls.flatten:=by
 have d:∀t,t∈ls.flatten↔∃f∈G.fls,t=(f.due,f.slot):=fun t=>by
  rw[hT,hwm.im.bs.tms];constructor
  ·rintro⟨f,a,e,_⟩;exact⟨f,a,e⟩
  ·rintro⟨f,a,e⟩;exact⟨f,a,e,by rw[hwm.wnow];exact hwm.due f a⟩
 refine⟨?_,fun f a=>(d _).2 ⟨f,a,rfl⟩⟩;have l:(ls.flatten.map (·.2)).Nodup:=hm.2.ids;have i:(G.fls.map (·.slot)).Nodup:=by
  have:=hwm.im.bs.Ge;rw[List.Nodup,List.pairwise_map];exact this.imp fun h=>by omega
 have m:(ls.flatten.map (·.2)).Perm (G.fls.map (·.slot)):=by
  refine(List.perm_ext_iff_of_nodup l i).2 fun s=>?_
  simp only[ZAd];constructor
  ·rintro⟨t,ht,rfl⟩
   obtain⟨f,a,rfl⟩:=(d t).1 ht;exact⟨f,a,rfl⟩
  ·rintro⟨f,a,rfl⟩
   exact⟨_,(d _).2 ⟨f,a,rfl⟩,rfl⟩
 have:=m.length_eq;rwa[N0,N0]at this
theorem aq7(h:RG w g U G)(hwm:Wm G)(hblk:Xo w):Ni MK 96 #[gP g] w fun r w'=>r=MN (M3 Nw)/\yA w w':=by
 obtain⟨ls,o,hT,O⟩:=h.wat.whl;obtain⟨Z,T⟩:=aqX hwm o hT;have hn:=hwm.im.bs.now;have b4:=hwm.wnow;have d3:=h.GJ;have d4:=h.GH;have d6:=h.lt;have HA:M6 _:=anG (MG U.pw 25 U.cw) G.wnow ls w hblk O o (by omega);have d2:(G.wnow != G.now)=false:=by rw[b4];simp
 have H:M6 (_/\_/\_/\_/\_):=⟨h,o,O,Z,T⟩;clear o hT O Z T h hwm hblk hn b4;go_enter UY,UV
 go_wp2_with fail
 refine Nd HA.out ?_;rintro r w1 ⟨p,c,xp,xc,ms,L,rfl,_,_,_,I⟩;obtain⟨A,E⟩:=yE (w1.alloc (MP #[yB (G.wnow+1),MG p 25 c] 54));have F:yA w A:=by rw[E];exact I.alloc I.size _
 have x:=H.out.1.below F;have b8:=x.GJ;have b7:=x.Gm;have b5:=x.lt;have HB:M6 _:=F;clear I F x
 go_wp2_with fail
 rw[<-E];clear E
 go_quiet (fail)
 have l:M6 _:=ZE HB.out nq;obtain⟨R,b3⟩:=yE (A.drewN nq);rw[<-b3]at l⊢;clear b3 b8 b7 b5;have D:=H.out.1.below l.out;have d0:=D.GH;have d1:=D.lt;obtain⟨n,s⟩:=yE ls.flatten.length;have HC:M6 _:=aoQ (MG U.pw 25 U.cw) ls R (H.out.2.2.1.below l.out) n s (by rw[s];exact H.out.2.1.2.Hr) (by rw[H.out.2.1.2.len];omega);have Q:M6 _:=s;clear s;clear D
 go_wp2_with fail
 refine Nd HC.out ?_;rintro r i ⟨q,d,rfl,a8,J⟩;obtain⟨a,m⟩:=yE (i.alloc (MP #[MG q n d] 227));have M:yA i a:=by rw[m];exact WQ i
 have N:yA w a:=(l.out.trans (J.mono l.out.size)).trans (M.mono (Nm l.out.size J.size));have u:a.cell? ⟨i.heap.size,0,MH⟩=MI (MG q n d):=by rw[m];exact Xu (M1 _ _)
 have C:i.heap.size<a.heap.size:=by rw[m];simp
 have y:=H.out.1.below N;have a0:=y.Gr;have b6:=y.lt;obtain⟨B,P⟩:=yE i.heap.size;rw[<-P]at u C;have a6:n=G.fls.length:=Q.out.trans H.out.2.2.2.1;have d5:((n:Int) == (G.fls.length:Int))=true:=by rw[a6];exact beq_self_eq_true _
 have HK:M6 (∀X,yA a X->Ni MK 156 #[MG U.pf G.fls.length U.cf,PB (PD 153) #[] #[Na (MI ⟨B,0,MH⟩)]] X fun r w'=>r=MN (M3 Nb)/\(w'.cell? ⟨g,18,MH⟩=MI (MG U.pf G.fls.length U.cf)/\w'.cell? ⟨B,0,MH⟩=MI (MG q n d))/\M6 (yA a w')):=fun X hX=>by
  refine(aoU _ G.fls X (y.below hX).wat.fls B fun f hf Y hY=>?_).mono ?_
  ·have a9:=hX.trans (hY.mono hX.size)
   have hv:Xz Y (MG q n d) ls.flatten:=(a8.below M).below a9;rw[Q.out]at hv;exact aoH f q d ls.flatten B Y (by rw[<-Q.out];exact(a9.cell C).trans u) hv (H.out.2.2.2.2 f hf)
  ·rintro r w' ⟨rfl,hb⟩
   have K:=hX.trans (hb.mono hX.size);exact⟨rfl,⟨(K.cell b6).trans a0,(K.cell C).trans u⟩,K⟩
 have HD:M6 _:=N;clear a8 J M N y a6 d0
 go_wp2_with fail
 rw[<-m,<-P];clear m P
 go_wp2_with fail
 apply aan
 ·intro b9
  go_region_held3 (fun X=>X.cell? ⟨g,18,MH⟩=MI (MG U.pf G.fls.length U.cf)/\X.cell? ⟨B,0,MH⟩=MI (MG q n d)) (first|exact⟨a0,u⟩|exact a7) (first|(go_at_call 156;refine(HK.out _ (by first|exact(MY _ _).drew|exact Below.refl _ _)).mono ?_;rintro r w5 ⟨rfl,a7,S⟩))
  all_goals
   rename_i hHe;clear hHe a7;revert w5;exact b9.out
 intro w5 S;have HQ:M6 _:=S.out;clear S;go_wp2;go_ret;exact⟨rfl,HD.out.trans (HQ.out.mono HD.out.size)⟩
end
section
variable {base:Nat}{w w':MO}{g:Nat}{V:Vs}{U:Us}{G:Gt}
theorem ap4(h:RG w g U G)(hwm:Wm G)(hblk:Xo w):Ni MK 72 #[gP g] w fun r w'=>r=MN (M3 Nw)/\yA w w':=by
 have P:=h.c0;have N:=h.c1;have Q:=h.c2;have R:=h.c3;have T:=h.c4;have k5:=h.c5;have O:=h.c6;have S:=h.c7;have k8:=h.c8;have Y:=h.c9;have M:=h.Hf;have I:=h.Hn;have E:=h.Hg;have J:=h.GS;have F:=h.GU;have D:=h.GO;have a7:=h.lt;have C:M6 _:=apI G.cfg w;rw[Nq hwm.im.bs.cfg]at C;have Z:M6 (∀X:MO,Ni MK 68 #[yB G.now,yB 0,yB 1099511626776] X fun r w'=>r=MN (M3 Nw)/\w'=X):=fun X=>by
  have:=abW G.now 0 1099511626776 X;rwa[Nq hwm.im.bs.now]at this
 have H:M6 (_/\_/\_):=⟨h,hwm,hblk⟩;clear h hwm hblk;go_enter Tryz.func72,Tryz.ntmps72
 go_wp2_with fail
 refine Nd C.out ?_;rintro r w1 ⟨rfl,f⟩;have L:=(H.out.1.below f).Gm;have a0:=(H.out.1.below f).lt;have m:M6 _:=f;clear f P N Q R T k5 O S k8 Y M I E J F D
 go_wp2_with fail
 refine(Z.out _).mono ?_;rintro r a6 ⟨rfl,rfl⟩;clear L;have a:M6 _:=aqk (H.out.1.below m.out) H.out.2.1
 go_wp2_with fail
 refine Nd a.out ?_;rintro r w2 ⟨rfl,x⟩;have l:M6 _:=m.out.trans (x.mono m.out.size);clear x;have a:M6 _:=aph (H.out.1.below l.out) H.out.2.1
 go_wp2_with fail
 refine Nd a.out ?_;rintro r w3 ⟨rfl,A⟩;have i:M6 _:=l.out.trans (A.mono l.out.size);clear A;have a:M6 _:=ao3 (H.out.1.below i.out) H.out.2.1
 go_wp2_with fail
 refine Nd a.out ?_;rintro r w4 ⟨rfl,B⟩;have o:M6 _:=i.out.trans (B.mono i.out.size);clear B;have a:M6 _:=apW (H.out.1.below o.out) H.out.2.1
 go_wp2_with fail
 refine Nd a.out ?_;rintro r w5 ⟨rfl,y⟩;have q:M6 _:=o.out.trans (y.mono o.out.size);clear y;have a:M6 _:=aqs (H.out.1.below q.out) H.out.2.1
 go_wp2_with fail
 refine Nd a.out ?_;rintro r w6 ⟨rfl,u⟩;have d:M6 _:=q.out.trans (u.mono q.out.size);clear u;have a:M6 _:=aq7 (H.out.1.below d.out) H.out.2.1 (H.out.2.2.below d.out)
 go_wp2_with fail
 refine Nd a.out ?_;rintro r w7 ⟨rfl,s⟩;have K:M6 _:=d.out.trans (s.mono d.out.size);clear s;go_wp2;go_ret;exact⟨rfl,K.out⟩
end
end Go.Proofs.YtbdpocjfnnojbaaGreatDoor.Q
