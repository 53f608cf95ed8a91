/-
  Contracts of the layers and of core, part 7. Conditions: as each theorem says.
-/
import Derived.Test.YtgnclkcdnbfeeaaGreatDoorP4
open Array renaming getElem?_eq_some_iff->ZAa
open Bool renaming false->Nb,true->Nw
open Decidable renaming decide->Nn
open Go renaming Addr->Oc,Calls->Ni,Program->O8,TypeId->NU,Value->M7,World->MO,grownCap->QR,maxLen->NE
open Go.Builtin renaming append_->N2,zeroCells->N5
open Go.Calls renaming quiet_of->Qe
open Go.Ending renaming returned->MN
open Go.Fn renaming func->PD
open Go.IntKind renaming i64->ME
open Go.Obj renaming cells->MP
open Go.Oper renaming wp->RB
open Go.Operand renaming tmp->O6
open Go.Proofs.Tryz renaming func106->Ta,func110->ayW,func113->SR,func114->S7,func123->Uo,func154->UR,func159->RT,func160->VD,func50->Tl,func54->Qz,func55->Tp,func65->Sf,func66->RF,func67->Ra,func68->ayE,func69->Si,func70->Tj,func75->WJ,func78->WK,func96->UY,ntmps106->SG,ntmps110->ayL,ntmps113->Sv,ntmps114->SF,ntmps123->Uc,ntmps154->UE,ntmps159->RJ,ntmps160->Vv,ntmps50->S1,ntmps54->Qk,ntmps55->S8,ntmps65->RV,ntmps66->Ro,ntmps67->QU,ntmps68->ayx,ntmps69->R0,ntmps70->SK,ntmps75->WB,ntmps78->WD,ntmps96->UV,prog->MK,results96->azi,underlying198->Ls,underlying40->U3,underlying45->ayo,underlying48->ax1
open Go.RowKit renaming Below->MQ,Hid->M6
open Go.Value renaming agg->Ny,bool->M3,func->PB,int->MF,pointer->Na,slice->MG,tuple->Nv
open Go.World renaming cell?->Nl,frozen?->Ng
open List renaming find?_append->Tf,getElem?_eq_some_iff->ZAb,length_eq_zero_iff->ZAc,mem_map->ZAd,range->Pm,replicate->Nj
open Option renaming none->MH,some->MI
open Or renaming inl->Nt,inr->NF
namespace Go.Proofs.YtgnclkcdnbfeeaaGreatDoor.Q
set_option linter.unusedVariables false
set_option linter.unusedSimpArgs false
set_option maxHeartbeats 16000000
set_option maxRecDepth 100000
open Go.RowKit
attribute [local go_sem ↓] Go.wp_at_zero Go.wp_at_succ
variable {v:M7}{W w5:MO}{b base:Nat}
structure Us where
 ph:Option Oc
 ch:Nat
 pt:Option Oc
 ct:Nat
 pf:Option Oc
 cf:Nat
 pl:Option Oc
 cl:Nat
 pr:Option Oc
 cr:Nat
 ps:Option Oc
 cs:Nat
 pw:Option Oc
 cw:Nat
 ms:List Mk
def Vs.us(V:Vs):Us:=⟨MI ⟨V.bh,0,MH⟩,V.ch,V.pt,V.ct,V.pf,V.cf,V.pl,V.cl,V.pr,V.cr,V.ps,V.cs,V.pw,V.cw,V.ms⟩
abbrev XR(U:Us)(G:Gt):Array Value:=#[MF ME G.cfg.flows,MF ME G.cfg.num,MF ME G.cfg.den,MF ME G.cfg.tries,MF ME G.cfg.warm,MF ME G.cfg.drain,MF ME G.cfg.idle,MF ME G.cfg.conn,MF ME G.cfg.ret,MF ME G.cfg.most,MF ME G.cfg.bn,MF ME G.cfg.bd,MF ME G.cfg.bb,MF ME G.cfg.wn,MF ME G.cfg.wf,MF ME G.cfg.wh,MF ME G.now,MG U.pt G.tab.length U.ct,MG U.pf G.fls.length U.cf,MG U.pl G.liv.length U.cl,MG U.pr G.req.length U.cr,MG U.ps (WW G.wts).length U.cs,MG U.ph 12 U.ch,MF ME G.tok,MF ME G.wnow,MG U.pw 25 U.cw]
abbrev acN(U:Us)(G:Gt):Value:=Ny (XR U G)
abbrev aeL(U:Us)(G:Gt):Array Value:=#[MF ME G.cfg.flows,MF ME G.cfg.num,MF ME G.cfg.den,MF ME G.cfg.tries,MF ME G.cfg.warm,MF ME G.cfg.drain,MF ME G.cfg.idle,MF ME G.cfg.conn,MF ME G.cfg.ret,MF ME G.cfg.most,MF ME G.cfg.bn,MF ME G.cfg.bd,MF ME G.cfg.bb,MF ME G.cfg.wn,MF ME G.cfg.wf,MF ME G.cfg.wh,MF ME G.now,MG U.pt G.tab.length U.ct,MG U.pf G.fls.length U.cf,MG U.pl G.liv.length U.cl,MG U.pr G.req.length U.cr,MG U.ps (WW G.wts).length U.cs,MG U.ph 12 U.ch,MF ME G.tok,MF ME G.wnow,MG U.pw 25 U.cw,MG MH 0 0]
structure Xd(w:MO)(U:Us)(G:Gt):Prop where
 tab:Yy w (MG U.pt G.tab.length U.ct) G.tab
 fls:ZR w (MG U.pf G.fls.length U.cf) G.fls
 book:aaM w (MG U.pl G.liv.length U.cl) (MG U.pr G.req.length U.cr) G.liv G.req
 ring:Xz w (MG U.ps (WW G.wts).length U.cs) (WW G.wts)
 whl:∃ls,Y9 G.wnow ls/\(∀t,t∈ls.flatten↔G.tms t)/\Zo w (MG U.pw 25 U.cw) ls
 hea:Xw aa0 w (MG U.ph 12 U.ch) (U.ms.zip G.hea)
 msl:U.ms.length=12
 hel:G.hea.length=12
 marks:∀(i:Nat) (m:Mk) (h:He),U.ms[i]?=MI m->G.hea[i]?=MI h->Yo w (MG m.1 h.marks.length m.2) h.marks
section
variable {base:Nat}{w w':MO}{g:Nat}{V:Vs}{U:Us}{G:Gt}
theorem Xd.below(h:Xd w U G)(hb:MQ w.heap.size w w'):Xd w' U G:=by
 obtain⟨ls,d,f,a⟩:=h.whl;exact⟨h.tab.below hb,Xw.below h.fls hb,h.book.below hb,h.ring.below hb,⟨ls,d,f,a.below hb⟩,Xw.below h.hea hb,h.msl,h.hel,fun i m x e1 e2=>(h.marks i m x e1 e2).below hb⟩
structure RG(w:MO)(g:Nat)(U:Us)(G:Gt):Prop where
 box:w.heap[g]?=MI (MP (aeL U G) 147 (0,0))
 wat:Xd w U G
theorem RG.below(h:RG w g U G)(hb:MQ w.heap.size w w'):RG w' g U G:=⟨WO h.box hb,h.wat.below hb⟩
theorem RG.lt(h:RG w g U G):g<w.heap.size:=(ZAa.1 h.box).1
theorem RG.c0(h:RG w g U G):w.cell? ⟨g,0,MH⟩=MI (MF ME G.cfg.flows):=by rw[MW w g 0 _ _ (0,0) h.box];rfl
theorem RG.c1(h:RG w g U G):w.cell? ⟨g,1,MH⟩=MI (MF ME G.cfg.num):=by rw[MW w g 1 _ _ (0,0) h.box];rfl
theorem RG.c2(h:RG w g U G):w.cell? ⟨g,2,MH⟩=MI (MF ME G.cfg.den):=by rw[MW w g 2 _ _ (0,0) h.box];rfl
theorem RG.c3(h:RG w g U G):w.cell? ⟨g,3,MH⟩=MI (MF ME G.cfg.tries):=by rw[MW w g 3 _ _ (0,0) h.box];rfl
theorem RG.c4(h:RG w g U G):w.cell? ⟨g,4,MH⟩=MI (MF ME G.cfg.warm):=by rw[MW w g 4 _ _ (0,0) h.box];rfl
theorem RG.c5(h:RG w g U G):w.cell? ⟨g,5,MH⟩=MI (MF ME G.cfg.drain):=by rw[MW w g 5 _ _ (0,0) h.box];rfl
theorem RG.c6(h:RG w g U G):w.cell? ⟨g,6,MH⟩=MI (MF ME G.cfg.idle):=by rw[MW w g 6 _ _ (0,0) h.box];rfl
theorem RG.c7(h:RG w g U G):w.cell? ⟨g,7,MH⟩=MI (MF ME G.cfg.conn):=by rw[MW w g 7 _ _ (0,0) h.box];rfl
theorem RG.c8(h:RG w g U G):w.cell? ⟨g,8,MH⟩=MI (MF ME G.cfg.ret):=by rw[MW w g 8 _ _ (0,0) h.box];rfl
theorem RG.c9(h:RG w g U G):w.cell? ⟨g,9,MH⟩=MI (MF ME G.cfg.most):=by rw[MW w g 9 _ _ (0,0) h.box];rfl
theorem RG.Hf(h:RG w g U G):w.cell? ⟨g,10,MH⟩=MI (MF ME G.cfg.bn):=by rw[MW w g 10 _ _ (0,0) h.box];rfl
theorem RG.Hn(h:RG w g U G):w.cell? ⟨g,11,MH⟩=MI (MF ME G.cfg.bd):=by rw[MW w g 11 _ _ (0,0) h.box];rfl
theorem RG.Hg(h:RG w g U G):w.cell? ⟨g,12,MH⟩=MI (MF ME G.cfg.bb):=by rw[MW w g 12 _ _ (0,0) h.box];rfl
theorem RG.GS(h:RG w g U G):w.cell? ⟨g,13,MH⟩=MI (MF ME G.cfg.wn):=by rw[MW w g 13 _ _ (0,0) h.box];rfl
theorem RG.GU(h:RG w g U G):w.cell? ⟨g,14,MH⟩=MI (MF ME G.cfg.wf):=by rw[MW w g 14 _ _ (0,0) h.box];rfl
theorem RG.GO(h:RG w g U G):w.cell? ⟨g,15,MH⟩=MI (MF ME G.cfg.wh):=by rw[MW w g 15 _ _ (0,0) h.box];rfl
theorem RG.Gm(h:RG w g U G):w.cell? ⟨g,16,MH⟩=MI (MF ME G.now):=by rw[MW w g 16 _ _ (0,0) h.box];rfl
theorem RG.Gs(h:RG w g U G):w.cell? ⟨g,17,MH⟩=MI (MG U.pt G.tab.length U.ct):=by rw[MW w g 17 _ _ (0,0) h.box];rfl
theorem RG.Gr(h:RG w g U G):w.cell? ⟨g,18,MH⟩=MI (MG U.pf G.fls.length U.cf):=by rw[MW w g 18 _ _ (0,0) h.box];rfl
theorem RG.Gn(h:RG w g U G):w.cell? ⟨g,19,MH⟩=MI (MG U.pl G.liv.length U.cl):=by rw[MW w g 19 _ _ (0,0) h.box];rfl
theorem RG.GD(h:RG w g U G):w.cell? ⟨g,20,MH⟩=MI (MG U.pr G.req.length U.cr):=by rw[MW w g 20 _ _ (0,0) h.box];rfl
theorem RG.GX(h:RG w g U G):w.cell? ⟨g,21,MH⟩=MI (MG U.ps (WW G.wts).length U.cs):=by rw[MW w g 21 _ _ (0,0) h.box];rfl
theorem RG.GI(h:RG w g U G):w.cell? ⟨g,22,MH⟩=MI (MG U.ph 12 U.ch):=by rw[MW w g 22 _ _ (0,0) h.box];rfl
theorem RG.Id(h:RG w g U G):w.cell? ⟨g,23,MH⟩=MI (MF ME G.tok):=by rw[MW w g 23 _ _ (0,0) h.box];rfl
theorem RG.GJ(h:RG w g U G):w.cell? ⟨g,24,MH⟩=MI (MF ME G.wnow):=by rw[MW w g 24 _ _ (0,0) h.box];rfl
theorem RG.GH(h:RG w g U G):w.cell? ⟨g,25,MH⟩=MI (MG U.pw 25 U.cw):=by rw[MW w g 25 _ _ (0,0) h.box];rfl
theorem apH(h:RG w g U G)(b:Int) :
  Ni MK 110 #[gP g,MF ME b] w fun r w'=>r=MN (M3 (Zr G.fls b))/\MQ w.heap.size w w':=by
 obtain⟨W,a⟩:∃W,W=w.alloc (MP #[MF ME b] 3):=⟨_,rfl⟩;have d:MQ w.heap.size w W:=by rw[a];exact WQ w
 have l:=h.below d;have i:W.cell? ⟨w.heap.size,0,MH⟩=MI (MF ME b):=by rw[a];exact Xu (M1 _ _)
 have o:M6 _:=aj8 (MG U.pf G.fls.length U.cf) G.fls b w.heap.size W l.wat.fls i;have q:=h.Gr;have s:=h.lt;have H:M6 _:=d;clear l h i d;go_enter ayW,ayL
 go_wp2_with fail
 rw[<-a];refine Nd o.out ?_;rintro r u ⟨rfl,f⟩;have m:M6 _:=H.out.trans (f.mono H.out.size);clear f;go_wp2;go_ret;exact⟨rfl,m.out⟩
theorem apU(h:RG w g U G)(b:Int) :
  Ni MK 96 #[gP g,MF ME b] w fun r w'=>r=MN (abR (WS G.liv b))/\MQ w.heap.size w w':=by
 obtain⟨W,D⟩:∃W,W=(w.alloc (MP #[MF ME b] 3)).alloc (YQ aa1):=⟨_,rfl⟩;have O:=acu w (MP #[MF ME b] 3) (YQ aa1);rw[<-D]at O;obtain⟨F,K,C,a9⟩:=O;have E:=h.below C;have P:W.cell? ⟨w.heap.size,0,MH⟩=MI (MF ME b):=Xu F;have A:M6 _:=akz (MG U.pl G.liv.length U.cl) G.liv b w.heap.size W E.wat.book.1 P;have I:=h.Gn;have b3:=h.lt;have H:M6 (_/\_/\_):=⟨C,E,K⟩;clear h P C E F K
 by_cases hi:G.liv.findIdx (fun x=>x.1 == b)<G.liv.length
 ·obtain⟨i,q⟩:∃i,i=G.liv.findIdx (fun x=>x.1 == b):=⟨_,rfl⟩
  have u:X6 (G.liv.findIdx (fun x=>x.1 == b)) G.liv.length=(i:Int):=by rw[<-q];exact Nh (by rw[q];exact hi)
  rw[u]at A;rw[<-q]at hi;obtain⟨x,s⟩:∃x,x=WS G.liv b:=⟨_,rfl⟩;have M:x=G.liv[i]:=by rw[s,afQ,<-q];simp[hi]
  have a7:(i:Int)<(G.liv.length:Int):=by omega
  rw[<-s];have S:M6 (_/\_):=⟨M,q⟩;clear u q s M;go_enter UY,UV
  go_wp2_with fail
  rw[<-D];refine Nd A.out ?_;rintro r l ⟨rfl,o⟩;have B:=H.out.2.1.below o;have J:=B.Gn;have m:=WO H.out.2.2 o;obtain⟨a,a6,he,a0,R,N⟩:=adt.F6 B.wat.book.1;injection he with e1 e2 e3;unfold NE at R;rw[e3]at J;obtain⟨b1,o1,L,a8,T,z2,z3,z4,z5,z6⟩:=N i hi;rw[e1,L]at J;rw[<-S.out.1]at T z2 z3 z4 z5 z6;have Q:w.heap.size+1<l.heap.size:=(ZAa.1 m).1;have f0:l.frozen? ⟨w.heap.size+1,0,MH⟩=false:=by simp[Ng,m]
  have f1:l.frozen? ⟨w.heap.size+1,1,MH⟩=false:=by simp[Ng,m]
  have f2:l.frozen? ⟨w.heap.size+1,2,MH⟩=false:=by simp[Ng,m]
  have f3:l.frozen? ⟨w.heap.size+1,3,MH⟩=false:=by simp[Ng,m]
  have f4:l.frozen? ⟨w.heap.size+1,4,MH⟩=false:=by simp[Ng,m]
  have f5:l.frozen? ⟨w.heap.size+1,5,MH⟩=false:=by simp[Ng,m]
  have Y:l.cell? ⟨w.heap.size+1,0,MH⟩=MI (MF ME 0):=by rw[MW l _ 0 _ _ (0,0) m];rfl
  have k1:l.cell? ⟨w.heap.size+1,1,MH⟩=MI (MF ME 0):=by rw[MW l _ 1 _ _ (0,0) m];rfl
  have Z:l.cell? ⟨w.heap.size+1,2,MH⟩=MI (MF ME 0):=by rw[MW l _ 2 _ _ (0,0) m];rfl
  have k3:l.cell? ⟨w.heap.size+1,3,MH⟩=MI (MF ME 0):=by rw[MW l _ 3 _ _ (0,0) m];rfl
  have k4:l.cell? ⟨w.heap.size+1,4,MH⟩=MI (MF ME 0):=by rw[MW l _ 4 _ _ (0,0) m];rfl
  have k5:l.cell? ⟨w.heap.size+1,5,MH⟩=MI (MF ME 0):=by rw[MW l _ 5 _ _ (0,0) m];rfl
  have y:M6 (_/\_):=⟨af0 (a':=MF ME x.1) (b':=MF ME x.2.1) (c':=MF ME x.2.2.1) (d':=MF ME x.2.2.2.1) (e':=MF ME x.2.2.2.2.1) (f':=MF ME x.2.2.2.2.2) m,afE (a:=MF ME x.1) (b:=MF ME x.2.1) (c:=MF ME x.2.2.1) (d:=MF ME x.2.2.2.1) (e:=MF ME x.2.2.2.2.1) (f:=MF ME x.2.2.2.2.2) (H.out.1.trans (o.mono H.out.1.size)) (Ps _)⟩;clear o I B m N e1 L e3;go_wp2;exact Np (Z2 azi rfl (afS y.out.1)) rfl ⟨rfl,y.out.2⟩
 ·have u:X6 (G.liv.findIdx (fun x=>x.1 == b)) G.liv.length = -1:=Nf hi
  rw[u]at A;have s:WS G.liv b=aa1:=by rw[afQ];simp[hi]
  rw[s];clear u s;go_enter UY,UV
  go_wp2_with fail
  rw[<-D];refine Nd A.out ?_;rintro r l ⟨rfl,o⟩;have m:=WO H.out.2.2 o;have Q:w.heap.size+1<l.heap.size:=(ZAa.1 m).1;have f0:l.frozen? ⟨w.heap.size+1,0,MH⟩=false:=by simp[Ng,m]
  have f1:l.frozen? ⟨w.heap.size+1,1,MH⟩=false:=by simp[Ng,m]
  have f2:l.frozen? ⟨w.heap.size+1,2,MH⟩=false:=by simp[Ng,m]
  have f3:l.frozen? ⟨w.heap.size+1,3,MH⟩=false:=by simp[Ng,m]
  have f4:l.frozen? ⟨w.heap.size+1,4,MH⟩=false:=by simp[Ng,m]
  have f5:l.frozen? ⟨w.heap.size+1,5,MH⟩=false:=by simp[Ng,m]
  have Y:l.cell? ⟨w.heap.size+1,0,MH⟩=MI (MF ME 0):=by rw[MW l _ 0 _ _ (0,0) m];rfl
  have k1:l.cell? ⟨w.heap.size+1,1,MH⟩=MI (MF ME 0):=by rw[MW l _ 1 _ _ (0,0) m];rfl
  have Z:l.cell? ⟨w.heap.size+1,2,MH⟩=MI (MF ME 0):=by rw[MW l _ 2 _ _ (0,0) m];rfl
  have k3:l.cell? ⟨w.heap.size+1,3,MH⟩=MI (MF ME 0):=by rw[MW l _ 3 _ _ (0,0) m];rfl
  have k4:l.cell? ⟨w.heap.size+1,4,MH⟩=MI (MF ME 0):=by rw[MW l _ 4 _ _ (0,0) m];rfl
  have k5:l.cell? ⟨w.heap.size+1,5,MH⟩=MI (MF ME 0):=by rw[MW l _ 5 _ _ (0,0) m];rfl
  have y:M6 (_/\_):=⟨af0 (a':=MF ME 0) (b':=MF ME 0) (c':=MF ME 0) (d':=MF ME 0) (e':=MF ME 0) (f':=MF ME 0) m,afE (a:=MF ME 0) (b:=MF ME 0) (c:=MF ME 0) (d:=MF ME 0) (e:=MF ME 0) (f:=MF ME 0) (H.out.1.trans (o.mono H.out.1.size)) (Ps _)⟩;clear o I m;go_wp2;exact Np (Z2 azi rfl (afS (x:=aa1) y.out.1)) rfl ⟨rfl,y.out.2⟩
end
section
variable {base:Nat}{w w':MO}{g:Nat}{V:Vs}{U:Us}{G:Gt}
theorem abW(n a b:Int)(w:MO):Ni MK 50 #[MF ME n,MF ME a,MF ME b] w fun r w'=>r=MN (M3 (Nn (a<=n/\n<=b)))/\w'=w:=by
 obtain⟨z,d⟩:∃z,z=Nn (a<=n/\n<=b):=⟨_,rfl⟩;rw[<-d]
 by_cases h1:a<=n
 ·by_cases h2:n<=b
  ·have f:M6 (z=Nw):=d.trans (Nq ⟨h1,h2⟩)
   clear d;go_enter Tl,S1;go_wp2;go_ret;exact⟨by rw[f.out];rfl,rfl⟩
  ·have f:M6 (z=Nb):=d.trans (M0 fun h=>h2 h.2)
   clear d;have i:¬n<=b:=h2;go_enter Tl,S1;go_wp2;go_ret;exact⟨by rw[f.out];rfl,rfl⟩
 ·have f:M6 (z=Nb):=d.trans (M0 fun h=>h1 h.1)
  clear d;go_enter Tl,S1;go_wp2;go_ret;exact⟨by rw[f.out];rfl,rfl⟩
theorem apW(h:RG w g U G)(hwm:Wm G):Ni MK 68 #[gP g] w fun r w'=>r=MN (M3 Nw)/\MQ w.heap.size w w':=by
 have d6:=hwm.im.bs.book.1.1;have b9:=h.Gn;have f6:=h.lt;obtain⟨al,d8,d2,d7,b6,b3⟩:=adt.F6 h.wat.book.1;injection d2 with el1 eln el3;unfold NE at b6;rw[el1,el3]at b9;clear el1 el3 eln;have H:M6 (_/\_/\_):=⟨h,hwm,b3⟩;clear h hwm b3;go_enter ayE,ayx;go_wp2
 go_loopw [12] (fun t wr=>∃(k:Nat),t=MF ME (k:Int)/\k<=G.liv.length/\M6 (MQ w.heap.size w wr)) (fun t _=>G.liv.length-(intOf t).toNat)
 case atStart=>exact⟨0,rfl,Nx _,MY _ _⟩
 case round =>
  obtain⟨k,rfl,hk,d⟩:=hrel;obtain⟨W,hW⟩:∃W,W=wr:=⟨_,rfl⟩;subst hW
  by_cases hlt:k<G.liv.length
  ·have d0:(k:Int)<(G.liv.length:Int):=by omega
   obtain⟨o,y,d1,l,T,M,O,P,S,Z⟩:=H.out.2.2 k hlt;obtain⟨⟨f,m,Q,s,i,x6⟩,K⟩:∃x,x=G.liv[k]:=⟨_,rfl⟩;have I:(f,m,Q,s,i,x6)∈G.liv:=by rw[K];exact Nk hlt
   rw[<-K]at T M O P S Z;have d3:s<=G.now:=H.out.2.1.im.bs.since _ I;have e0:=(d.out.cell (p:=⟨o,y+k*6,MH⟩) l).trans T;have e1:=(d.out.cell (p:=⟨o,y+k*6+1,MH⟩) l).trans M;have e2:=(d.out.cell (p:=⟨o,y+k*6+2,MH⟩) l).trans O;have e3:=(d.out.cell (p:=⟨o,y+k*6+3,MH⟩) l).trans P;have e4:=(d.out.cell (p:=⟨o,y+k*6+4,MH⟩) l).trans S;have e5:=(d.out.cell (p:=⟨o,y+k*6+5,MH⟩) l).trans Z;have b7:o<W.heap.size:=M8 l d.out.size;obtain⟨a,E⟩:∃a,a=W.alloc (YQ (f,m,Q,s,i,x6)):=⟨_,rfl⟩;have L:MQ W.heap.size W a:=by rw[E];exact WQ W
   have q:a.heap[W.heap.size]?=MI (YQ (f,m,Q,s,i,x6)):=by rw[E];exact M1 _ _
   have C:=(H.out.1.below d.out).below L;have y0:a.cell? ⟨W.heap.size,0,MH⟩=MI (MF ME f):=by rw[MW a _ 0 _ _ (0,0) q];rfl
   have y1:a.cell? ⟨W.heap.size,1,MH⟩=MI (MF ME m):=by rw[MW a _ 1 _ _ (0,0) q];rfl
   have y3:a.cell? ⟨W.heap.size,3,MH⟩=MI (MF ME s):=by rw[MW a _ 3 _ _ (0,0) q];rfl
   have y4:a.cell? ⟨W.heap.size,4,MH⟩=MI (MF ME i):=by rw[MW a _ 4 _ _ (0,0) q];rfl
   have a7:W.heap.size<a.heap.size:=(ZAa.1 q).1;have a8:=C.Gm;have a0:=C.lt;have d5:¬G.now<s:=by omega
   have F:M6 (_/\_/\_):=⟨C,d.out.trans (L.mono d.out.size),I⟩;clear C L q I K T M O P S Z d3 l;subst d1
   go_wp2_with fail
   rw[<-E];clear E e0 e1 e2 e3 e4 e5 b7
   go_quiet (fail)
   have Y:(a.drewN nq).cell? ⟨W.heap.size,0,MH⟩=MI (MF ME f):=y0;have N:(a.drewN nq).cell? ⟨W.heap.size,1,MH⟩=MI (MF ME m):=y1;have R:(a.drewN nq).cell? ⟨W.heap.size,4,MH⟩=MI (MF ME i):=y4;have J:(a.drewN nq).cell? ⟨g,16,MH⟩=MI (MF ME G.now):=a8;have D:W.heap.size<(a.drewN nq).heap.size:=a7;have a6:g<(a.drewN nq).heap.size:=a0;have B:M6 (_/\_):=⟨F.out.1.below (ZE (MY _ _) nq),ZE F.out.2.1 nq⟩;obtain⟨u,a9⟩:∃u,u=a.drewN nq:=⟨_,rfl⟩;rw[<-a9]at Y N R J D a6 B⊢;clear a9 y0 y1 y3 y4 a8 a7 a0
   by_cases h3:m=3
   ·subst h3
    have b8:¬i<=G.now:=by have:=H.out.2.1.till _ F.out.2.2 rfl;simp only at this;omega
    have e9:Nn (i<=G.now)=false:=M0 b8;have b4:Zr G.fls f=true:=H.out.2.1.im.drn _ F.out.2.2 rfl;have HB:M6 (∀X,MQ u.heap.size u X->Ni MK 110 #[gP g,MF ME f] X fun r w'=>r=MN (M3 Nw)/\(w'.cell? ⟨g,16,MH⟩=MI (MF ME G.now)/\w'.cell? ⟨W.heap.size,0,MH⟩=MI (MF ME f)/\w'.cell? ⟨W.heap.size,1,MH⟩=MI (MF ME 3)/\w'.cell? ⟨W.heap.size,4,MH⟩=MI (MF ME i))/\M6 (MQ u.heap.size u w')):=fun X hX=>by
     refine(apH (B.out.1.below hX) f).mono ?_;rw[b4];rintro r w' ⟨rfl,hb⟩;have A:=hX.trans (hb.mono hX.size);exact⟨rfl,⟨(A.cell a6).trans J,(A.cell D).trans Y,(A.cell D).trans N,(A.cell D).trans R⟩,A⟩
    clear b4
    go_wp2_with fail
    apply aan
    ·intro d4
     go_region_held3 (fun X=>X.cell? ⟨g,16,MH⟩=MI (MF ME G.now)/\X.cell? ⟨W.heap.size,0,MH⟩=MI (MF ME f)/\X.cell? ⟨W.heap.size,1,MH⟩=MI (MF ME 3)/\X.cell? ⟨W.heap.size,4,MH⟩=MI (MF ME i)) (first|exact⟨J,Y,N,R⟩|exact b5) (first|(go_at_call 110;refine(HB.out _ (by first|exact(MY _ _).drew|exact Below.refl _ _)).mono ?_;rintro r w3 ⟨rfl,b5,hQ⟩))
     all_goals
      rename_i hHe;clear hHe b5;revert w3;exact d4.out
    intro w3 hQ;have HQ:M6 _:=hQ.out;clear hQ;go_wp2
    go_roundw
    case rel=>exact⟨k+1,by go_num,hlt,B.out.2.trans (HQ.out.mono B.out.2.size)⟩
    case measure=>simp[intOf];omega
   ·have d9:(m == 3)=false:=beq_eq_false_iff_ne.2 h3
    clear h3
    go_wp2_with fail
    go_quiet (fail)
    go_wp2
    go_roundw
    case rel=>exact⟨k+1,by go_num,hlt,ZE B.out.2 _⟩
    case measure=>simp[intOf];omega
  ·obtain rfl:k=G.liv.length:=by omega
   have d0:¬(G.liv.length:Int)<(G.liv.length:Int):=by omega
   go_wp2;go_ret;exact⟨rfl,d.out⟩
end
abbrev ag9(c:Cf):Value:=Ny #[MF ME c.flows,MF ME c.num,MF ME c.den,MF ME c.tries,MF ME c.warm,MF ME c.drain,MF ME c.idle,MF ME c.conn,MF ME c.ret,MF ME c.most,MF ME c.bn,MF ME c.bd,MF ME c.bb,MF ME c.wn,MF ME c.wf,MF ME c.wh]
abbrev aha(c:Cf):Obj:=MP #[MF ME c.flows,MF ME c.num,MF ME c.den,MF ME c.tries,MF ME c.warm,MF ME c.drain,MF ME c.idle,MF ME c.conn,MF ME c.ret,MF ME c.most,MF ME c.bn,MF ME c.bd,MF ME c.bb,MF ME c.wn,MF ME c.wf,MF ME c.wh] 35
theorem aj6{w:MO}{g:Nat}{c:Cf}(h:w.heap[g]?=MI (aha c)):w.cell? ⟨g,0,MH⟩=MI (MF ME c.flows)/\w.cell? ⟨g,1,MH⟩=MI (MF ME c.num)/\w.cell? ⟨g,2,MH⟩=MI (MF ME c.den)/\w.cell? ⟨g,3,MH⟩=MI (MF ME c.tries)/\w.cell? ⟨g,4,MH⟩=MI (MF ME c.warm)/\w.cell? ⟨g,5,MH⟩=MI (MF ME c.drain)/\w.cell? ⟨g,6,MH⟩=MI (MF ME c.idle)/\w.cell? ⟨g,7,MH⟩=MI (MF ME c.conn)/\w.cell? ⟨g,8,MH⟩=MI (MF ME c.ret)/\w.cell? ⟨g,9,MH⟩=MI (MF ME c.most)/\w.cell? ⟨g,10,MH⟩=MI (MF ME c.bn)/\w.cell? ⟨g,11,MH⟩=MI (MF ME c.bd)/\w.cell? ⟨g,12,MH⟩=MI (MF ME c.bb)/\w.cell? ⟨g,13,MH⟩=MI (MF ME c.wn)/\w.cell? ⟨g,14,MH⟩=MI (MF ME c.wf)/\w.cell? ⟨g,15,MH⟩=MI (MF ME c.wh)/\g<w.heap.size :=
 ⟨by simp[Nl,h],by simp[Nl,h],by simp[Nl,h],by simp[Nl,h],by simp[Nl,h],by simp[Nl,h],by simp[Nl,h],by simp[Nl,h],by simp[Nl,h],by simp[Nl,h],by simp[Nl,h],by simp[Nl,h],by simp[Nl,h],by simp[Nl,h],by simp[Nl,h],by simp[Nl,h],(ZAa.1 h).1⟩
theorem ahs(n:Int)(w:MO):Ni MK 51 #[MF ME n] w fun r w'=>r=MN (M3 (Nn (1<=n/\n<=500)))/\w'=w:=by
 have H:M6 _:=abW n 1 500 w;go_enter Tryz.func51,Tryz.ntmps51
 go_wp2_with fail
 refine Nd H.out ?_;rintro r a ⟨rfl,rfl⟩;go_wp2;go_ret;exact⟨by show MN (M3 (Nn (1<=n) && Nn (n<=500)))=_;rw[Bool.decide_and],rfl⟩
theorem apI(c:Cf)(w:MO):Ni MK 39 #[ag9 c] w fun r w'=>r=MN (M3 (Nn (adg c)))/\MQ w.heap.size w w':=by
 obtain⟨x,l⟩:∃x,x=Nn (adg c):=⟨_,rfl⟩;rw[<-l];have H:M6 _:=l;clear l;obtain⟨i,f⟩:∃i,i=w.alloc (aha c):=⟨_,rfl⟩;have y:MQ w.heap.size w i:=by rw[f];exact WQ w
 have o:i.heap[w.heap.size]?=MI (aha c):=by rw[f];exact M1 _ _
 obtain⟨T,k1,S,k3,k4,k5,k6,k7,k8,k9,M,E,K,O,R,D,B⟩:=aj6 o;have a:M6 (_/\_/\_):=⟨y,o,f⟩;clear y o f;go_enter Tryz.func39,Tryz.ntmps39
 go_wp2_with fail
 rw[<-a.out.2.2];refine(abW c.flows 1 40 _).mono ?_;rintro r d ⟨rfl,rfl⟩
 by_cases t0:1<=c.flows/\c.flows<=40
 rotate_left
 ·rw[M0 t0]
  go_wp2;go_ret;exact⟨by rw[H.out,M0 (fun h=>t0 h.1)];rfl,a.out.1⟩
 rw[Nq t0]
 go_wp2_with fail
 refine(abW c.den 1 c.num _).mono ?_;rintro r d ⟨rfl,rfl⟩
 by_cases t1:1<=c.den/\c.den<=c.num
 rotate_left
 ·rw[M0 t1]
  go_wp2;go_ret;exact⟨by rw[H.out,M0 (fun h=>t1 h.2.1)];rfl,a.out.1⟩
 rw[Nq t1]
 by_cases t2:c.num<=20
 rotate_left
 ·have F:Nn (c.num<=20)=false:=M0 t2
  have HT:M6 (¬(c.num<=20)):=t2;go_wp2;go_ret;exact⟨by rw[H.out,M0 (fun h=>by have:=h.2.2.1;omega)];rfl,a.out.1⟩
 have F:Nn (c.num<=20)=true:=Nq t2
 go_wp2_with fail
 refine(abW c.tries 0 12 _).mono ?_;rintro r d ⟨rfl,rfl⟩
 by_cases t3:0<=c.tries/\c.tries<=12
 rotate_left
 ·rw[M0 t3]
  go_wp2;go_ret;exact⟨by rw[H.out,M0 (fun h=>t3 h.2.2.2.1)];rfl,a.out.1⟩
 rw[Nq t3]
 go_wp2_with fail
 refine(abW c.warm 0 500 _).mono ?_;rintro r d ⟨rfl,rfl⟩
 by_cases t4:0<=c.warm/\c.warm<=500
 rotate_left
 ·rw[M0 t4]
  go_wp2;go_ret;exact⟨by rw[H.out,M0 (fun h=>t4 h.2.2.2.2.1)];rfl,a.out.1⟩
 rw[Nq t4]
 go_wp2_with fail
 refine(ahs c.drain _).mono ?_;rintro r d ⟨rfl,rfl⟩
 by_cases t5:1<=c.drain/\c.drain<=500
 rotate_left
 ·rw[M0 t5]
  go_wp2;go_ret;exact⟨by rw[H.out,M0 (fun h=>t5 h.2.2.2.2.2.1)];rfl,a.out.1⟩
 rw[Nq t5]
 go_wp2_with fail
 refine(ahs c.idle _).mono ?_;rintro r d ⟨rfl,rfl⟩
 by_cases t6:1<=c.idle/\c.idle<=500
 rotate_left
 ·rw[M0 t6]
  go_wp2;go_ret;exact⟨by rw[H.out,M0 (fun h=>t6 h.2.2.2.2.2.2.1)];rfl,a.out.1⟩
 rw[Nq t6]
 go_wp2_with fail
 refine(ahs c.conn _).mono ?_;rintro r d ⟨rfl,rfl⟩
 by_cases t7:1<=c.conn/\c.conn<=500
 rotate_left
 ·rw[M0 t7]
  go_wp2;go_ret;exact⟨by rw[H.out,M0 (fun h=>t7 h.2.2.2.2.2.2.2.1)];rfl,a.out.1⟩
 rw[Nq t7]
 go_wp2_with fail
 refine(abW c.ret 0 20 _).mono ?_;rintro r d ⟨rfl,rfl⟩
 by_cases t8:0<=c.ret/\c.ret<=20
 rotate_left
 ·rw[M0 t8]
  go_wp2;go_ret;exact⟨by rw[H.out,M0 (fun h=>t8 h.2.2.2.2.2.2.2.2.1)];rfl,a.out.1⟩
 rw[Nq t8]
 go_wp2_with fail
 refine(abW c.most 0 100 _).mono ?_;rintro r d ⟨rfl,rfl⟩
 by_cases t9:0<=c.most/\c.most<=100
 rotate_left
 ·rw[M0 t9]
  go_wp2;go_ret;exact⟨by rw[H.out,M0 (fun h=>t9 h.2.2.2.2.2.2.2.2.2.1)];rfl,a.out.1⟩
 rw[Nq t9]
 go_wp2_with fail
 refine(afz c.bn c.bd c.bb _).mono ?_;rintro r w2 ⟨rfl,q⟩;have s:=WO a.out.2.1 q;have m:M6 _:=a.out.1.trans (q.mono a.out.1.size);obtain⟨Y,j1,j2,j3,Z,j5,j6,j7,j8,j9,C,I,Q,P,L,J,N⟩:=aj6 s;clear q T k1 S k3 k4 k5 k6 k7 k8 k9 M E K O R D B
 by_cases tb:Zp c.bn c.bd c.bb
 rotate_left
 ·rw[show aaY c.bn c.bd c.bb=2 from Nf tb]
  clear s;go_wp2;go_ret;exact⟨by rw[H.out,M0 (fun h=>tb h.2.2.2.2.2.2.2.2.2.2.1)];rfl,m.out⟩
 rw[show aaY c.bn c.bd c.bb=0 from Nh tb];clear s
 go_wp2_with fail
 refine(ah3 c.wn c.wf c.wh _).mono ?_;rintro r w3 ⟨rfl,A⟩;have u:M6 _:=m.out.trans (A.mono m.out.size);clear A Y j1 j2 j3 Z j5 j6 j7 j8 j9 C I Q P L J N
 by_cases tw:ZT c.wn c.wf c.wh
 rotate_left
 ·rw[show abz c.wn c.wf c.wh=2 from Nf tw]
  go_wp2;go_ret;exact⟨by rw[H.out,M0 (fun h=>tw h.2.2.2.2.2.2.2.2.2.2.2)];rfl,u.out⟩
 rw[show abz c.wn c.wf c.wh=0 from Nh tw];go_wp2;go_ret;exact⟨by rw[H.out,Nq ⟨t0,t1,t2,t3,t4,t5,t6,t7,t8,t9,tb,tw⟩];rfl,u.out⟩
abbrev ZB(t:Tm):List Value:=[MF ME t.1,MF ME t.2]
theorem ahM(x:Tm):(ZB x).length=2:=rfl
theorem ahL(x:Tm):∀u∈ZB x,u.oneCell'=true:=by
 intro u a;simp only[OO,OD,or_false]at a;rcases a with rfl|rfl <;> rfl
theorem ahG:∀l:List Tm,rv ZB l=WP l
 | []=>rfl
 |t::l=>by simp only[rv,WP,ahG l,List.cons_append,Oz]
theorem ahN{w:MO}{l:List Tm}:Xz w v l↔Xw ZB w v l:=by
 unfold Xz Xw;rw[ahG]
 try exact Iff.rfl
theorem ahr:(MK.info? 201).map (fun i=>(i.zero,i.size,i.bytes))=MI (MI (Ny #[MF ME 0,MF ME 0]),2,16):=by kernel_rfl
section
variable {α:Type}{c:α->List M7}{k:Nat}{t e:NU}{z:M7}{bytes:Nat}
theorem ajY(hk:∀x,(c x).length=k)(h1:∀x,∀u∈c x,u.oneCell'=Nw)(hk0:0<k)(ht:MK.underlying t=MI (.slice e))(hinfo:(MK.info? e).map (fun i=>(i.zero,i.size,i.bytes))=MI (MI z,k,bytes))(hz:z.cells.size=k){w:MO}{p:Option Oc}{n cc:Nat}{m:List α}(ho:w.ownsRow base e k (MG p n cc) n (rv c m))(hb:base<=w.heap.size)
  (ty:NU) (u:M7) (l:List α) (hu:Xw c w u l) (hl:(n+l.length)*bytes<=140737488355328) (hl2:n+l.length<=NE) :
  ∃p' c' w',(N2 #[t,t] ty #[MG p n cc,u]).run MK w=.ok (MG p' (n+l.length) c') w'/\w'.ownsRow base e k (MG p' (n+l.length) c') (n+l.length) (rv c (m++l))/\MQ base w w':=by
 by_cases h0:l.length=0
 ·obtain rfl:l=[]:=ZAc.1 h0
  obtain⟨y,hi,_⟩:=OF hinfo;obtain⟨a,o,rfl,_,_,_⟩:=hu;have f:n<=cc/\cc<=maxLen:=by
   rcases ho.2 with⟨d,D⟩|⟨g,o,C,d,_,_,r,A,_⟩
   ·cases d;exact⟨MV _,by unfold NE;omega⟩
   ·cases d;exact⟨r,A⟩
  exact⟨p,cc,w,aeY w _ ty _ y ht hi p n cc f.1 f.2 a o,by rw[OG];exact ho,MY _ _⟩
 ·obtain⟨g,c',w',B,q,s,_⟩:=ag6 hk h1 hk0 ht hinfo hz ho hb ty u l hu (by omega) hl hl2
  exact⟨_,_,_,B,q,(MY _ _).grown s hb (fun j e=>(ho.lt j e).1)⟩
theorem adW(hk:∀x,(c x).length=k)(h1:∀x,∀u∈c x,u.oneCell'=Nw)(hk0:0<k)(ht:MK.underlying t=MI (.slice e))(hinfo:(MK.info? e).map (fun i=>(i.zero,i.size,i.bytes))=MI (MI z,k,bytes))(hz:z.cells.size=k){w:MO}(ty:NU)(u:M7)(l:List α)(hu:Xw c w u l)(hl:l.length*bytes<=140737488355328)(hl2:l.length<=NE) :
  ∃p' c' w',(N2 #[t,t] ty #[MG (MI ⟨w.heap.size,0,MH⟩) 0 0,u]).run MK (w.alloc (MP #[] e))=.ok (MG p' l.length c') w'/\w'.ownsRow w.heap.size e k (MG p' l.length c') l.length (rv c l)/\MQ w.heap.size w w':=by
 have f:(w.alloc (MP #[] e)).ownsRow w.heap.size e k (MG (MI ⟨w.heap.size,0,MH⟩) 0 0) 0 (rv c []):=
  ⟨by simp[rv],NF ⟨w.heap.size,0,#[],rfl,MV _,M1 _ _,MV _,Nx _,by simp,by simp[rv]⟩⟩
 obtain⟨p',c',w',d,a,m⟩:=ajY hk h1 hk0 ht hinfo hz f (by simp) ty u l (Xw.below hu (WQ w)) (by rw[Oa];exact hl) (by rw[Oa];exact hl2);rw[Oa]at d a;rw[Oz]at a;exact⟨p',c',w',d,a,(WQ w).trans m⟩
end
theorem ao9(n:Nat)(w:MO)(hn:n<=1000) :
  Ni MK 159 #[MG MH 0 0,MF ME n] w fun r w'=>∃p c,r=MN (MG p 0 c)/\w'.ownsRow w.heap.size 201 2 (MG p 0 c) 0 (rv ZB [])/\MQ w.heap.size w w':=by
 by_cases h0:n=0
 ·subst h0
  go_enter RT,RJ;go_wp2;go_ret;exact⟨MH,0,rfl,NY _ _ _ _,MY _ _⟩
 obtain⟨y,hi,s,A,i⟩:=OF ahr;have l:∀ty,(N2 #[198,3] ty #[MG MH 0 0,MF ME n]).run MK w=.ok (MG (MI ⟨w.heap.size,0,MH⟩) n (QR w n 0 201)) (w.drew.alloc (MP (([]:List M7).toArray++N5 (Ny #[MF ME 0,MF ME 0]).cells n++N5 (Ny #[MF ME 0,MF ME 0]).cells (QR w n 0 201-n)) 201)):=fun ty=>by
  have h:=Lib.run_append_grow_zeros (P:=MK) w 198 3 ty 201 y (Ny #[MF ME 0,MF ME 0]) ME ME Ls Ol hi s MH 0 0 [] (run_firstCells_none w.drew y.size 0 0 0) n (by omega) (by omega) (by omega) (by omega) (by rw[i];omega) (growslice_fits (by omega) (by rw[i];omega))
  simpa using h
 have B:=grownCap_ge w n 0 201;have f:=grownCap_le_maxLen w n 0 201 (by unfold NE;omega);obtain⟨G,q⟩:∃G,G=QR w n 0 201:=⟨_,rfl⟩;rw[<-q]at l B f;obtain⟨a,d⟩:∃a,a=([]:List M7).toArray++N5 (Ny #[MF ME 0,MF ME 0]).cells n++N5 (Ny #[MF ME 0,MF ME 0]).cells (G-n):=⟨_,rfl⟩;have u:a.size=G*2:=by rw[d];simp[size_zeroCells,Value.cells];omega
 rw[<-d]at l;have m:(w.drew.alloc (MP a 201)).ownsRow w.heap.size 201 2 (MG (MI ⟨w.heap.size,0,MH⟩) 0 G) 0 (rv ZB []):=
  ⟨rfl,NF ⟨w.heap.size,G,a,rfl,MV _,M1 w.drew _,Nx _,f,u,by simp[rv]⟩⟩
 have o:MQ w.heap.size w (w.drew.alloc (MP a 201)):=((MY _ _).drew).alloc (MV _) _;have x:M6 (_/\_):=⟨m,o⟩;have C:¬((n:Int)<0):=by omega
 have D:(0:Int)<(n:Int):=by omega
 unfold NE at f;clear m o u d q hi s A i h0;go_enter RT,RJ
 go_wp2_with (at_builtin;refine Lib.wpList_append_run _ rfl _ _ _ _ rfl _ _ rfl rfl _ _ (l _) ?_)
 all_goals (go_ret;exact⟨_,_,rfl,x.out.1,x.out.2⟩)
theorem afM{ls:List (List Tm)}{k:Nat}(hk:k<ls.length):(ls.take (k+1)).flatten=(ls.take k).flatten++ls[k]:=by
 rw[M9 hk,PV];simp
theorem ahl{ls:List (List Tm)}(k:Nat):(ls.take k).flatten.length<=ls.flatten.length:=by
 conv=>rhs;rw[<-Oo k ls,PV,Ns]
 omega
theorem aoQ(v:M7)(ls:List (List Tm))(w:MO)(hv:Zo w v ls)(N:Nat)(hN:N=ls.flatten.length)(hl:N<=200)(hls:ls.length<=100) :
  Ni MK 113 #[v] w fun r w'=>∃p c,r=MN (MG p N c)/\Xz w' (MG p N c) ls.flatten/\MQ w.heap.size w w':=by
 have b3:M6 _:=hN;rw[hN]at hl;clear hN;obtain⟨vs,a9,M⟩:=hv;obtain⟨a,b8,rfl,hc,hm,hr⟩:=a9;unfold NE at hm;have Y:∀k (I:k<ls.length),∃b off y A,a=MI ⟨b,off,MH⟩/\b<w.heap.size/\w.cell? ⟨b,off+k,MH⟩=MI (MG y ls[k].length A)/\Xz w (MG y ls[k].length A) ls[k]:=by
  intro k I;have T:k<vs.length:=by rw[M.1];exact I
  have u:=M.2 k T I;obtain⟨y,A,Z,_,_,_⟩:=u.F6;rw[Z]at u;rcases hr with⟨h0,_⟩|⟨b,off,h1,h2,h3⟩
  ·omega
  ·exact⟨b,off,y,A,h1,h2,by rw[h3 k T,MR T,Z],u⟩
 have H:M6 (_/\_):=⟨Y,hl⟩;obtain⟨m,O⟩:∃m,m=ls.length:=⟨_,rfl⟩;rw[<-O]at hc hls⊢;have F:M6 _:=O;clear hr Y M O;have G:M6 (∀n:Nat,n<=1000->∀W:MO,Ni MK 159 #[MG MH 0 0,MF ME (n:Int)] W fun r w'=>∃p c,r=MN (MG p 0 c)/\w'.ownsRow W.heap.size 201 2 (MG p 0 c) 0 (rv ZB [])/\MQ W.heap.size W w'):=fun n hn W=>ao9 n W hn
 go_enter SR,Sv;go_wp2
 go_loopw [3,11] (fun s i wr=>∃(k n:Nat),w=wr/\i=MF ME (k:Int)/\s=MF ME (n:Int)/\k<=m/\n<=200/\M6 (n=(ls.take k).flatten.length)) (fun _ i _=>m-(intOf i).toNat)
 case atStart=>exact⟨0,0,rfl,rfl,rfl,Nx _,by omega,by simp[M6]⟩
 case round =>
  obtain⟨k,n,rfl,rfl,rfl,I,hn,HN⟩:=hrel
  by_cases hlt:k<m
  ·have b4:(k:Int)<(m:Int):=by omega
   have B:k<ls.length:=by rw[<-F.out];exact hlt
   obtain⟨b,off,y,A,Q,L,D,u⟩:=H.out.1 k B;obtain⟨d,o⟩:∃d,d=(ls[k]).length:=⟨_,rfl⟩;rw[<-o]at D;have x:(ls.take (k+1)).flatten.length=n+d:=by rw[afM B,Ns,<-HN.out,o]
   have a0:n+d<=200:=by rw[<-x];exact Nm (ahl _) H.out.2
   have HF:M6 _:=x;have b6:¬((n:Int)+(d:Int)<0):=by omega
   clear x o u;subst Q;go_wp2
   go_roundw
   case rel=>exact⟨k+1,n+d,by simp,by simp,by simp,hlt,a0,HF.out.symm⟩
   case measure=>simp[intOf];omega
  ·obtain rfl:k=m:=by omega
   have b4:¬(k:Int)<(k:Int):=by omega
   have HT:M6 (n=ls.flatten.length):=by
    have:=HN.out;rw[F.out,NT]at this;exact this
   go_wp2_with fail
   refine(G.out n (by omega) _).mono ?_;rintro r w1 ⟨p1,c1,rfl,C,a6⟩;have HW:M6 (_/\_):=⟨C,a6⟩;clear C a6;go_wp2
   go_loopw [6,27] (fun s i wr=>∃(j q:Nat) (p:Option Oc) (c:Nat),i=MF ME (j:Int)/\s=MG p q c/\j<=k/\M6 (q=(ls.take j).flatten.length/\wr.ownsRow w.heap.size 201 2 (MG p q c) q (rv ZB (ls.take j).flatten)/\MQ w.heap.size w wr)) (fun _ i _=>k-(intOf i).toNat)
   case atStart=>exact⟨0,0,p1,c1,rfl,rfl,Nx _,by simp,by rw[List.take_zero];exact HW.out.1,HW.out.2⟩
   case round =>
    obtain⟨j,q,p,c,rfl,rfl,hj,f⟩:=hrel
    by_cases hlt:j<k
    ·have b5:(j:Int)<(k:Int):=by omega
     have B:j<ls.length:=by rw[<-F.out];exact hlt
     obtain⟨b,off,y,A,Q,L,D,u⟩:=H.out.1 j B;have a8:=(f.out.2.2.cell (p:=⟨b,off+j,MH⟩) L).trans D;obtain⟨d,o⟩:∃d,d=(ls[j]).length:=⟨_,rfl⟩;have x:(ls.take (j+1)).flatten.length=q+d:=by rw[afM B,Ns,<-f.out.1,o]
     have a0:q+d<=200:=by rw[<-x];exact Nm (ahl _) H.out.2
     obtain⟨p',c',w5,R,E,a7⟩:=ajY ahM ahL (by decide) Ls ahr rfl f.out.2.1 f.out.2.2.size 198 _ ls[j] (ahN.1 (u.below f.out.2.2)) (by rw[<-o];omega) (by rw[<-o];unfold NE;omega);rw[<-o]at R E a8;rw[<-afM B]at E;have K:M6 (_/\_/\_/\_):=⟨R,E,f.out.2.2.trans a7,x⟩;have b7:b<wr.heap.size:=M8 L f.out.2.2.size;clear x o u R E a7 D L;subst Q
     go_wp2_with (at_builtin;(with_reducible refine Z4 rfl _ _ 198 rfl (MG p q c) (MG y d A) (MG p' (q+d) c') w5 ?hs ?hx ?hr ?_);(case hs=>rfl);(case hx=>rfl);(case hr=>exact K.out.1))
     go_wp2
     go_roundw
     case rel=>exact⟨j+1,q+d,p',c',by simp,rfl,hlt,K.out.2.2.2.symm,K.out.2.1,K.out.2.2.1⟩
     case measure=>simp[intOf];omega
    ·obtain rfl:j=k:=by omega
     have b5:¬(j:Int)<(j:Int):=by omega
     have J:=f.out.1;have C:=f.out.2.1;rw[F.out,NT]at J C;have S:q=N:=J.trans b3.out.symm;have P:=abw (c:=ZB) (l:=ls.flatten) (k:=2) (v:=MG p q c) (w:=wr) (base:=w.heap.size) (e:=201) (by rw[<-J];exact C);rw[S]at P;rw[S];have HE:M6 (_/\_):=⟨ahN.2 P,f.out.2.2⟩;clear J C S P;go_wp2;go_ret;exact⟨p,c,rfl,HE.out.1,HE.out.2⟩
abbrev acM(t:awY):List Value:=[MF ME t.1,M3 t.2.1,MF ME t.2.2.1,MF ME t.2.2.2]
theorem aqA(x:awY):(acM x).length=4:=rfl
theorem aqz(x:awY):∀u∈acM x,u.oneCell'=true:=by
 intro u a;simp only[OO,OD,or_false]at a;rcases a with rfl|rfl|rfl|rfl <;> rfl
theorem ahD:∀l:List awY,rv acM l=XF l
 | []=>rfl
 |t::l=>by
  have:=ahD l;simp only[rv,this];rfl
theorem ahE:∀l:List Tm,rv ZB l=WP l
 | []=>rfl
 |t::l=>by
  have:=ahE l;simp only[rv,this];rfl
abbrev Sc:=Option Oc×Nat×Nat
abbrev aaJ(x:Sc):List Value:=[MG x.1 x.2.1 x.2.2]
theorem acl(x:Sc):(aaJ x).length=1:=rfl
theorem aqw(x:Sc):∀u∈aaJ x,u.oneCell'=true:=by
 intro u a;simp only[OO,OD,or_false]at a;subst a;rfl
theorem apx:(MK.info? 182).map (fun i=>(i.zero,i.size,i.bytes))=MI (MI (Ny #[MF ME 0,M3 Nb,MF ME 0,MF ME 0]),4,32):=by kernel_rfl
theorem apy:(MK.info? 192).map (fun i=>(i.zero,i.size,i.bytes))=MI (MI (Ny #[MF ME 0,MF ME 0]),2,16):=by kernel_rfl
theorem apt:(MK.info? 195).map (fun i=>(i.zero,i.size,i.bytes))=MI (MI (Ny #[MG MH 0 0,M3 Nb,MF ME 0,MF ME 0]),4,48):=by kernel_rfl
theorem apv:(MK.info? 198).map (fun i=>(i.zero,i.size,i.bytes))=MI (MI (MG MH 0 0),1,24):=by kernel_rfl
theorem aoM(v:M7)(l:List awY)(w:MO)(hv:Xw acM w v l)(hl:l.length<=1000) :
  Ni MK 71 #[v] w fun r w'=>∃p c,r=MN (MG p l.length c)/\w'.ownsRow w.heap.size 182 4 (MG p l.length c) l.length (rv acM l)/\MQ w.heap.size w w':=by
 obtain⟨p,c,rfl,B,A⟩:=Xw.Ga hv;cases p with
 |none =>
  obtain rfl:l=[]:=by
   obtain⟨a,y,o,_,_,h|⟨b,off,rfl,_⟩⟩:=hv
   ·exact ZAc.1 h.1
   ·cases o
  clear hv;have m:∀W,(binOp .eql 37 (MG MH 0 c) (MG MH 0 0)).run MK W=.ok (M3 Nw) W:=fun W=>by kernel_rfl
  go_enter Tryz.func71,Tryz.ntmps71;go_wp2;go_ret;exact⟨MH,0,rfl,NY _ _ _ _,MY _ _⟩
 |some q =>
  have m:∀W,(binOp .eql 37 (MG (MI q) l.length c) (MG MH 0 0)).run MK W=.ok (M3 Nb) W:=fun W=>by kernel_rfl
  obtain⟨s,x,u,hr,i,f⟩:=adW aqA aqz (by decide) Tryz.underlying37 apx rfl 37 _ l hv (by omega) (by unfold NE;omega);have d:M6 (_/\_/\_):=⟨hr,f,i⟩;clear hr f i hv;go_enter Tryz.func71,Tryz.ntmps71
  go_wp2_with (at_builtin;(with_reducible refine Z4 rfl _ _ 37 rfl (MG (MI ⟨w.heap.size,0,MH⟩) 0 0) (MG (MI q) l.length c) (MG s l.length x) u ?hs ?hx ?hr ?_);(case hs=>rfl);(case hx=>rfl);(case hr=>exact d.out.1))
  go_wp2;go_ret;exact⟨_,_,rfl,d.out.2.2,d.out.2.1⟩
theorem aoJ(v:M7)(l:List Fl)(w:MO)(hv:Xw WX w v l)(hl:l.length<=1000) :
  Ni MK 72 #[v] w fun r w'=>∃p c,r=MN (MG p l.length c)/\w'.ownsRow w.heap.size 72 7 (MG p l.length c) l.length (rv WX l)/\MQ w.heap.size w w':=by
 obtain⟨p,c,rfl,B,A⟩:=Xw.Ga hv;cases p with
 |none =>
  obtain rfl:l=[]:=by
   obtain⟨a,y,o,_,_,h|⟨b,off,rfl,_⟩⟩:=hv
   ·exact ZAc.1 h.1
   ·cases o
  clear hv;have m:∀W,(binOp .eql 40 (MG MH 0 c) (MG MH 0 0)).run MK W=.ok (M3 Nw) W:=fun W=>by kernel_rfl
  go_enter Tryz.func72,Tryz.ntmps72;go_wp2;go_ret;exact⟨MH,0,rfl,NY _ _ _ _,MY _ _⟩
 |some q =>
  have m:∀W,(binOp .eql 40 (MG (MI q) l.length c) (MG MH 0 0)).run MK W=.ok (M3 Nb) W:=fun W=>by kernel_rfl
  obtain⟨s,x,u,hr,i,f⟩:=adW XL acI (by decide) U3 ad0 rfl 40 _ l hv (by omega) (by unfold NE;omega);have d:M6 (_/\_/\_):=⟨hr,f,i⟩;clear hr f i hv;go_enter Tryz.func72,Tryz.ntmps72
  go_wp2_with (at_builtin;(with_reducible refine Z4 rfl _ _ 40 rfl (MG (MI ⟨w.heap.size,0,MH⟩) 0 0) (MG (MI q) l.length c) (MG s l.length x) u ?hs ?hx ?hr ?_);(case hs=>rfl);(case hx=>rfl);(case hr=>exact d.out.1))
  go_wp2;go_ret;exact⟨_,_,rfl,d.out.2.2,d.out.2.1⟩
theorem aoN(v:M7)(l:List Tm)(w:MO)(hv:Xw ZB w v l)(hl:l.length<=1000) :
  Ni MK 75 #[v] w fun r w'=>∃p c,r=MN (MG p l.length c)/\w'.ownsRow w.heap.size 192 2 (MG p l.length c) l.length (rv ZB l)/\MQ w.heap.size w w':=by
 obtain⟨p,c,rfl,B,A⟩:=Xw.Ga hv;cases p with
 |none =>
  obtain rfl:l=[]:=by
   obtain⟨a,y,o,_,_,h|⟨b,off,rfl,_⟩⟩:=hv
   ·exact ZAc.1 h.1
   ·cases o
  clear hv;have m:∀W,(binOp .eql 45 (MG MH 0 c) (MG MH 0 0)).run MK W=.ok (M3 Nw) W:=fun W=>by kernel_rfl
  go_enter WJ,WB;go_wp2;go_ret;exact⟨MH,0,rfl,NY _ _ _ _,MY _ _⟩
 |some q =>
  have m:∀W,(binOp .eql 45 (MG (MI q) l.length c) (MG MH 0 0)).run MK W=.ok (M3 Nb) W:=fun W=>by kernel_rfl
  obtain⟨s,x,u,hr,i,f⟩:=adW ahM ahL (by decide) ayo apy rfl 45 _ l hv (by omega) (by unfold NE;omega);have d:M6 (_/\_/\_):=⟨hr,f,i⟩;clear hr f i hv;go_enter WJ,WB
  go_wp2_with (at_builtin;(with_reducible refine Z4 rfl _ _ 45 rfl (MG (MI ⟨w.heap.size,0,MH⟩) 0 0) (MG (MI q) l.length c) (MG s l.length x) u ?hs ?hx ?hr ?_);(case hs=>rfl);(case hx=>rfl);(case hr=>exact d.out.1))
  go_wp2;go_ret;exact⟨_,_,rfl,d.out.2.2,d.out.2.1⟩
theorem aoK(v:M7)(l:List (Mk×He))(w:MO)(hv:Xw aa0 w v l)(hl:l.length<=1000) :
  Ni MK 76 #[v] w fun r w'=>∃p c,r=MN (MG p l.length c)/\w'.ownsRow w.heap.size 195 4 (MG p l.length c) l.length (rv aa0 l)/\MQ w.heap.size w w':=by
 obtain⟨p,c,rfl,B,A⟩:=Xw.Ga hv;cases p with
 |none =>
  obtain rfl:l=[]:=by
   obtain⟨a,y,o,_,_,h|⟨b,off,rfl,_⟩⟩:=hv
   ·exact ZAc.1 h.1
   ·cases o
  clear hv;have m:∀W,(binOp .eql 48 (MG MH 0 c) (MG MH 0 0)).run MK W=.ok (M3 Nw) W:=fun W=>by kernel_rfl
  go_enter Tryz.func76,Tryz.ntmps76;go_wp2;go_ret;exact⟨MH,0,rfl,NY _ _ _ _,MY _ _⟩
 |some q =>
  have m:∀W,(binOp .eql 48 (MG (MI q) l.length c) (MG MH 0 0)).run MK W=.ok (M3 Nb) W:=fun W=>by kernel_rfl
  obtain⟨s,x,u,hr,i,f⟩:=adW aci apb (by decide) ax1 apt rfl 48 _ l hv (by omega) (by unfold NE;omega);have d:M6 (_/\_/\_):=⟨hr,f,i⟩;clear hr f i hv;go_enter Tryz.func76,Tryz.ntmps76
  go_wp2_with (at_builtin;(with_reducible refine Z4 rfl _ _ 48 rfl (MG (MI ⟨w.heap.size,0,MH⟩) 0 0) (MG (MI q) l.length c) (MG s l.length x) u ?hs ?hx ?hr ?_);(case hs=>rfl);(case hx=>rfl);(case hr=>exact d.out.1))
  go_wp2;go_ret;exact⟨_,_,rfl,d.out.2.2,d.out.2.1⟩
theorem aoL(v:M7)(l:List Sc)(w:MO)(hv:Xw aaJ w v l)(hl:l.length<=1000) :
  Ni MK 78 #[v] w fun r w'=>∃p c,r=MN (MG p l.length c)/\w'.ownsRow w.heap.size 198 1 (MG p l.length c) l.length (rv aaJ l)/\MQ w.heap.size w w':=by
 obtain⟨p,c,rfl,B,A⟩:=Xw.Ga hv;cases p with
 |none =>
  obtain rfl:l=[]:=by
   obtain⟨a,y,o,_,_,h|⟨b,off,rfl,_⟩⟩:=hv
   ·exact ZAc.1 h.1
   ·cases o
  clear hv;have m:∀W,(binOp .eql 51 (MG MH 0 c) (MG MH 0 0)).run MK W=.ok (M3 Nw) W:=fun W=>by kernel_rfl
  go_enter WK,WD;go_wp2;go_ret;exact⟨MH,0,rfl,NY _ _ _ _,MY _ _⟩
 |some q =>
  have m:∀W,(binOp .eql 51 (MG (MI q) l.length c) (MG MH 0 0)).run MK W=.ok (M3 Nb) W:=fun W=>by kernel_rfl
  obtain⟨s,x,u,hr,i,f⟩:=adW acl aqw (by decide) Tryz.underlying51 apv rfl 51 _ l hv (by omega) (by unfold NE;omega);have d:M6 (_/\_/\_):=⟨hr,f,i⟩;clear hr f i hv;go_enter WK,WD
  go_wp2_with (at_builtin;(with_reducible refine Z4 rfl _ _ 51 rfl (MG (MI ⟨w.heap.size,0,MH⟩) 0 0) (MG (MI q) l.length c) (MG s l.length x) u ?hs ?hx ?hr ?_);(case hs=>rfl);(case hx=>rfl);(case hr=>exact d.out.1))
  go_wp2;go_ret;exact⟨_,_,rfl,d.out.2.2,d.out.2.1⟩
theorem aoO(v:M7)(l:List Tm)(w:MO)(hv:Xw ZB w v l)(hl:l.length<=1000) :
  Ni MK 79 #[v] w fun r w'=>∃p c,r=MN (MG p l.length c)/\w'.ownsRow w.heap.size 201 2 (MG p l.length c) l.length (rv ZB l)/\MQ w.heap.size w w':=by
 obtain⟨p,c,rfl,B,A⟩:=Xw.Ga hv;cases p with
 |none =>
  obtain rfl:l=[]:=by
   obtain⟨a,y,o,_,_,h|⟨b,off,rfl,_⟩⟩:=hv
   ·exact ZAc.1 h.1
   ·cases o
  clear hv;have m:∀W,(binOp .eql 198 (MG MH 0 c) (MG MH 0 0)).run MK W=.ok (M3 Nw) W:=fun W=>by kernel_rfl
  go_enter Tryz.func79,Tryz.ntmps79;go_wp2;go_ret;exact⟨MH,0,rfl,NY _ _ _ _,MY _ _⟩
 |some q =>
  have m:∀W,(binOp .eql 198 (MG (MI q) l.length c) (MG MH 0 0)).run MK W=.ok (M3 Nb) W:=fun W=>by kernel_rfl
  obtain⟨s,x,u,hr,i,f⟩:=adW ahM ahL (by decide) Ls ahr rfl 198 _ l hv (by omega) (by unfold NE;omega);have d:M6 (_/\_/\_):=⟨hr,f,i⟩;clear hr f i hv;go_enter Tryz.func79,Tryz.ntmps79
  go_wp2_with (at_builtin;(with_reducible refine Z4 rfl _ _ 198 rfl (MG (MI ⟨w.heap.size,0,MH⟩) 0 0) (MG (MI q) l.length c) (MG s l.length x) u ?hs ?hx ?hr ?_);(case hs=>rfl);(case hx=>rfl);(case hr=>exact d.out.1))
  go_wp2;go_ret;exact⟨_,_,rfl,d.out.2.2,d.out.2.1⟩
structure Og(w0 w:MO)(g:Nat)(U:Us)(G:Gt):Prop where
 box:w.heap[g]?=MI (MP (aeL U G) 147 (0,0))
 bel:MQ w0.heap.size w0 w
 low:w0.heap.size<=g
structure Rw(w:MO)(lo hi:Nat)(e:NU)(k:Nat)(p:Option Oc)(n c:Nat)(xs:List M7):Prop where
 own:w.ownsRow lo e k (MG p n c) n xs
 up:∀b,p.map (·.block)=MI b->b<hi
section
variable {base:Nat}{w0 w w':MO}{g:Nat}{V:Vs}{U:Us}{G:Gt}
theorem Og.lt(h:Og w0 w g U G):g<w.heap.size:=(ZAa.1 h.box).1
theorem Og.fz(h:Og w0 w g U G)(k:Nat):w.frozen? ⟨g,k,MH⟩=false:=by simp[Ng,h.box]
theorem Og.Gs(h:Og w0 w g U G):w.cell? ⟨g,17,MH⟩=MI (MG U.pt G.tab.length U.ct):=by rw[MW w g 17 _ _ (0,0) h.box];rfl
theorem Og.Gr(h:Og w0 w g U G):w.cell? ⟨g,18,MH⟩=MI (MG U.pf G.fls.length U.cf):=by rw[MW w g 18 _ _ (0,0) h.box];rfl
theorem Og.Gn(h:Og w0 w g U G):w.cell? ⟨g,19,MH⟩=MI (MG U.pl G.liv.length U.cl):=by rw[MW w g 19 _ _ (0,0) h.box];rfl
theorem Og.GD(h:Og w0 w g U G):w.cell? ⟨g,20,MH⟩=MI (MG U.pr G.req.length U.cr):=by rw[MW w g 20 _ _ (0,0) h.box];rfl
theorem Og.GX(h:Og w0 w g U G):w.cell? ⟨g,21,MH⟩=MI (MG U.ps (WW G.wts).length U.cs):=by rw[MW w g 21 _ _ (0,0) h.box];rfl
theorem Og.GI(h:Og w0 w g U G):w.cell? ⟨g,22,MH⟩=MI (MG U.ph 12 U.ch):=by rw[MW w g 22 _ _ (0,0) h.box];rfl
theorem Og.below(h:Og w0 w g U G)(hb:MQ w.heap.size w w'):Og w0 w' g U G:=⟨WO h.box hb,h.bel.trans (hb.mono h.bel.size),h.low⟩
theorem Og.Ix(h:Og w0 w g U G)(p:Option Oc)(c:Nat):Og w0 (w.setCell ⟨g,17,MH⟩ (MG p G.tab.length c)) g {U with pt:=p,ct:=c} G:=⟨YO h.box rfl,h.bel.setCell h.low _,h.low⟩
theorem Og.IU(h:Og w0 w g U G)(p:Option Oc)(c:Nat):Og w0 (w.setCell ⟨g,18,MH⟩ (MG p G.fls.length c)) g {U with pf:=p,cf:=c} G:=⟨YO h.box rfl,h.bel.setCell h.low _,h.low⟩
theorem Og.I3(h:Og w0 w g U G)(p:Option Oc)(c:Nat):Og w0 (w.setCell ⟨g,19,MH⟩ (MG p G.liv.length c)) g {U with pl:=p,cl:=c} G:=⟨YO h.box rfl,h.bel.setCell h.low _,h.low⟩
theorem Og.Ju(h:Og w0 w g U G)(p:Option Oc)(c:Nat):Og w0 (w.setCell ⟨g,20,MH⟩ (MG p G.req.length c)) g {U with pr:=p,cr:=c} G:=⟨YO h.box rfl,h.bel.setCell h.low _,h.low⟩
theorem Og.IJ(h:Og w0 w g U G)(p:Option Oc)(c:Nat):Og w0 (w.setCell ⟨g,21,MH⟩ (MG p (WW G.wts).length c)) g {U with ps:=p,cs:=c} G:=⟨YO h.box rfl,h.bel.setCell h.low _,h.low⟩
theorem Og.IY(h:Og w0 w g U G)(p:Option Oc)(c:Nat):Og w0 (w.setCell ⟨g,22,MH⟩ (MG p 12 c)) g {U with ph:=p,ch:=c} G:=⟨YO h.box rfl,h.bel.setCell h.low _,h.low⟩
theorem Og.Ih(h:Og w0 w g U G)(p:Option Oc)(c:Nat):Og w0 (w.setCell ⟨g,25,MH⟩ (MG p 25 c)) g {U with pw:=p,cw:=c} G:=⟨YO h.box rfl,h.bel.setCell h.low _,h.low⟩
theorem Og.GH(h:Og w0 w g U G):w.cell? ⟨g,25,MH⟩=MI (MG U.pw 25 U.cw):=by rw[MW w g 25 _ _ (0,0) h.box];rfl
variable {lo hi k n c:Nat}{e:NU}{p:Option Oc}{xs:List M7}
theorem ad5{w1:MO}(hg:g<w.heap.size)(hs:w.heap.size<=w1.heap.size)(ho:w1.ownsRow w.heap.size e k (MG p n c) n xs)(j:Nat)(v:M7):Rw (w1.setCell ⟨g,j,MH⟩ v) w.heap.size (w1.setCell ⟨g,j,MH⟩ v).heap.size e k p n c xs :=
 ⟨W8 ho fun b hb=>MU _ _ _ _ (fun a=>by have:=(ho.lt b hb).1;have a:b=g:=a;omega),fun b hb=>by
  have:=(ho.lt b (by rw[XV];exact hb)).2
  simpa using this⟩
theorem Rw.step(h:Rw w lo hi e k p n c xs){w1:MO}(hb:MQ w.heap.size w w1)(hg:g<lo)(j:Nat)(v:M7):Rw (w1.setCell ⟨g,j,MH⟩ v) lo hi e k p n c xs :=
 ⟨W8 h.own fun b hb'=>by
  rw[MU _ _ _ _ (fun a=>by have:=(h.own.lt b hb').1;have a:b=g:=a;omega)];exact hb.block b (h.own.lt b hb').2,h.up⟩
theorem Rw.Gz(h:Rw w lo hi e k p n c xs)(hb:p.map (·.block)=MI b):lo<=b/\b<hi:=⟨(h.own.lt b (by rw[XV];exact hb)).1,h.up b hb⟩
theorem Rw.Gf(h:Rw w lo hi e k p n c xs)(hk:∀b,lo<=b->b<hi->b<w.heap.size->w'.heap[b]?=w.heap[b]?):Rw w' lo hi e k p n c xs :=
 ⟨W8 h.own fun b hb=>hk b (h.own.lt b hb).1 (h.up b (by rw[<-XV];exact hb)) (h.own.lt b hb).2,h.up⟩
end
structure Xm(w:MO)(s0 s1 s2 s3 s4 s5:Nat)(U:Us)(G:Gt):Prop where
 t1:Rw w s0 s1 182 4 U.pt G.tab.length U.ct (rv acM G.tab)
 t2:Rw w s1 s2 72 7 U.pf G.fls.length U.cf (rv WX G.fls)
 t3:Rw w s2 s3 186 6 U.pl G.liv.length U.cl (WT Xg G.liv)
 t4:Rw w s3 s4 189 5 U.pr G.req.length U.cr (WT abC G.req)
 t5:Rw w s4 s5 192 2 U.ps (WW G.wts).length U.cs (rv ZB (WW G.wts))
 l1:s0<=s1
 l2:s1<=s2
 l3:s2<=s3
 l4:s3<=s4
 l5:s4<=s5
structure L1(w0 w:MO)(g:Nat)(U:Us)(G:Gt)(s0 s1 s2 s3 s4 s5 s6 bh ch:Nat)(ms0 ms:List Mk)(j:Nat):Prop where
 og:Og w0 w g U G
 five:Xm w s0 s1 s2 s3 s4 s5 U G
 hea:w.ownsRow s5 195 4 (MG (MI ⟨bh,0,MH⟩) 12 ch) 12 (rv aa0 (ms.zip G.hea))
 len:ms.length=12
 hel:G.hea.length=12
 new:∀(i:Nat) (m:Mk) (x:He),i<j->ms[i]?=MI m->G.hea[i]?=MI x->w.ownsRow s6 4 1 (MG m.1 x.marks.length m.2) x.marks.length (Yi x.marks)
 old:∀i,j<=i->ms[i]?=ms0[i]?
 gs:g<s0
 bs:bh<s6
 ss:s6<=w.heap.size
structure L2(w0 w:MO)(g:Nat)(U:Us)(G:Gt)(s0 s1 s2 s3 s4 s5 s6 s7 bh ch bw cw:Nat)(ms:List Mk)(xs ys:List Sc)(ls:List (List Tm))(j:Nat):Prop where
 og:Og w0 w g U G
 five:Xm w s0 s1 s2 s3 s4 s5 U G
 hea:w.ownsRow s5 195 4 (MG (MI ⟨bh,0,MH⟩) 12 ch) 12 (rv aa0 (ms.zip G.hea))
 len:ms.length=12
 hel:G.hea.length=12
 mks:∀(i:Nat) (m:Mk) (x:He),ms[i]?=MI m->G.hea[i]?=MI x->Rw w s6 s7 4 1 m.1 x.marks.length m.2 (Yi x.marks)
 row:w.ownsRow s7 198 1 (MG (MI ⟨bw,0,MH⟩) 25 cw) 25 (rv aaJ ys)
 ylen:ys.length=25
 new:∀i (h1:i<ys.length) (h2:i<ls.length),i<j->w.ownsRow (bw+1) 201 2 (MG ys[i].1 ys[i].2.1 ys[i].2.2) ls[i].length (rv ZB ls[i])
 old:∀i,j<=i->ys[i]?=xs[i]?
 gs:g<s0
 bs:bh<s6
 ss:s6<=s7
 pw:U.pw=MI ⟨bw,0,MH⟩
 cw:U.cw=cw
section
variable {base:Nat}{w0 w w':MO}{g:Nat}{U:Us}{G:Gt}{s0 s1 s2 s3 s4 s5 s6 s7 bh ch bw cw:Nat}{ms0 ms:List Mk}{xs ys:List Sc}{ls:List (List Tm)}{j:Nat}
theorem Xm.Gf(h:Xm w s0 s1 s2 s3 s4 s5 U G)(hk:∀b,s0<=b->b<s5->b<w.heap.size->w'.heap[b]?=w.heap[b]?):Xm w' s0 s1 s2 s3 s4 s5 U G:=by
 have d:=h.l1;have l:=h.l2;have f:=h.l3;have i:=h.l4;have a:=h.l5;exact⟨h.t1.Gf fun b q1 q2=>hk b (by omega) (by omega),h.t2.Gf fun b q1 q2=>hk b (by omega) (by omega),h.t3.Gf fun b q1 q2=>hk b (by omega) (by omega),h.t4.Gf fun b q1 q2=>hk b (by omega) (by omega),h.t5.Gf fun b q1 q2=>hk b (by omega) (by omega),d,l,f,i,a⟩
theorem Xm.le(h:Xm w s0 s1 s2 s3 s4 s5 U G):s0<=s5:=by
 have d:=h.l1;have l:=h.l2;have f:=h.l3;have i:=h.l4;have a:=h.l5;omega
theorem L1.Hb(h:L1 w0 w g U G s0 s1 s2 s3 s4 s5 s6 bh ch ms0 ms j):s5<=bh/\bh<w.heap.size:=h.hea.lt bh rfl
theorem L1.F7(h:L1 w0 w g U G s0 s1 s2 s3 s4 s5 s6 bh ch ms0 ms j)(hj:j<12):∃m x,ms0[j]?=MI m/\G.hea[j]?=MI x/\w.cell? ⟨bh,j*4,MH⟩=MI (MG m.1 x.marks.length m.2):=by
 have d:j<ms.length:=by rw[h.len];exact hj
 have q:j<G.hea.length:=by rw[h.hel];exact hj
 have o:j<(ms.zip G.hea).length:=by rw[Qn,h.len,h.hel];omega
 have f:(12:Nat)=(ms.zip G.hea).length:=by rw[Qn,h.len,h.hel];rfl
 have a:=abU aci (l:=ms.zip G.hea) h.hea f (i:=j) (j:=0) o (by omega);refine⟨ms[j],G.hea[j],by rw[<-h.old j (MV _)];exact MR d,MR q,?_⟩;rw[Oe,Qf]at a;exact a
theorem L1.next(h:L1 w0 w g U G s0 s1 s2 s3 s4 s5 s6 bh ch ms0 ms j)(hj:j<12)(hb:MQ w.heap.size w w'){x:He}(hx:G.hea[j]?=MI x){p:Option Oc}{c B:Nat}(hB:w.heap.size<=B)(ho:w'.ownsRow B 4 1 (MG p x.marks.length c) x.marks.length (Yi x.marks)) :
  L1 w0 (w'.setCell ⟨bh,j*4,MH⟩ (MG p x.marks.length c)) g U G s0 s1 s2 s3 s4 s5 s6 bh ch ms0 (ms.set j (p,c)) (j+1):=by
 have H:=h.Hb;have F:=h.bs;have I:=h.ss;have D:=h.five.le;have E:=h.gs;have u:j<ms.length:=by rw[h.len];exact hj
 have C:j<G.hea.length:=by rw[h.hel];exact hj
 have A:j<(ms.zip G.hea).length:=by rw[Qn,h.len,h.hel];omega
 have q:G.hea[j]=x:=NC ((MR C).symm.trans hx);have a:∀b,b<w.heap.size->b≠bh->(w'.setCell ⟨bh,j*4,MH⟩ (MG p x.marks.length c)).heap[b]?=w.heap[b]?:=fun b l f=>(MU _ _ _ _ f).trans (hb.block b l)
 have s:w'.ownsRow s5 195 4 (MG (MI ⟨bh,0,MH⟩) 12 ch) 12 (rv aa0 (ms.zip G.hea)):=W8 h.hea fun b e=>hb.block b (h.hea.lt b e).2
 have o:=adn aci s (i:=j) (j:=0) A (by omega) (MG p x.marks.length c) ((p,c),x) (by rw[Qf,q];rfl);have r:(ms.zip G.hea).set j ((p,c),x)=(ms.set j (p,c)).zip G.hea:=by
  apply PX
  ·simp
  ·intro k l f
   simp only[Pc,Qf]
   split
   ·rename_i ek
    subst ek;rw[q]
   ·rfl
 rw[Oe,r]at o;refine⟨⟨(a g h.og.lt (by omega)).trans h.og.box,(h.og.bel.trans (hb.mono h.og.bel.size)).setCell (Nm h.og.low (by show g<=bh;omega)) _,h.og.low⟩,h.five.Gf fun b l f q3=>a b q3 (by omega),o,by rw[NA];exact h.len,h.hel,fun i m y hi e1 e2=>?_,fun i hi=>?_,h.gs,h.bs,by simpa using Nm h.ss hb.size⟩
 ·by_cases e:i=j
  ·subst e
   rw[N7 u]at e1;cases e1;obtain rfl:x=y:=NC (hx.symm.trans e2);exact W8 (ho.mono (by omega)) fun b eb=>MU _ _ _ _ (by have:=(ho.lt b eb).1;show b≠bh;omega)
  ·rw[N3 (Pi e)]at e1
   have d:=h.new i m y (by omega) e1 e2;exact W8 d fun b eb=>a b (d.lt b eb).2 (by have:=(d.lt b eb).1;omega)
 ·rw[N3 (by omega)]
  exact h.old i (by omega)
theorem L1.I0(h:L1 w0 w g U G s0 s1 s2 s3 s4 s5 s6 bh ch ms0 ms 12)(hb:MQ w.heap.size w w')(hx:xs.length=25)(ho:w'.ownsRow w.heap.size 198 1 (MG (MI ⟨bw,0,MH⟩) 25 cw) 25 (rv aaJ xs)) :
  L2 w0 (w'.setCell ⟨g,25,MH⟩ (MG (MI ⟨bw,0,MH⟩) 25 cw)) g {U with pw:=MI ⟨bw,0,MH⟩,cw:=cw} G s0 s1 s2 s3 s4 s5 s6 w.heap.size bh ch bw cw ms xs xs ls 0:=by
 have r:=h.Hb;have q:=h.bs;have s:=h.ss;have l:=h.five.le;have o:=h.gs;have f:∀b,b<w.heap.size->b≠g->(w'.setCell ⟨g,25,MH⟩ (MG (MI ⟨bw,0,MH⟩) 25 cw)).heap[b]?=w.heap[b]?:=fun b q1 q2=>(MU _ _ _ _ q2).trans (hb.block b q1)
 have a:Xm (w'.setCell ⟨g,25,MH⟩ (MG (MI ⟨bw,0,MH⟩) 25 cw)) s0 s1 s2 s3 s4 s5 U G:=h.five.Gf fun b q1 q2 q3=>f b q3 (by omega)
 refine⟨(h.og.below hb).Ih _ _,⟨a.t1,a.t2,a.t3,a.t4,a.t5,a.l1,a.l2,a.l3,a.l4,a.l5⟩,W8 h.hea fun b e=>f b (h.hea.lt b e).2 (by have:=(h.hea.lt b e).1;omega),h.len,h.hel,fun i m x e1 e2=>?_,W8 ho fun b e=>MU _ _ _ _ (by have:=(ho.lt b e).1;have:=h.og.lt;show b≠g;omega),hx,fun i _ _ hi=>absurd hi (QH _),fun i _=>rfl,h.gs,h.bs,h.ss,rfl,rfl⟩;have hi:i<12:=by rw[<-h.len];exact(ZAb.1 e1).1
 have d:=h.new i m x hi e1 e2;exact⟨W8 d fun b eb=>f b (d.lt b eb).2 (by have:=(d.lt b eb).1;omega),fun b eb=>(d.lt b (by rw[XV];exact eb)).2⟩
theorem L2.Hu(h:L2 w0 w g U G s0 s1 s2 s3 s4 s5 s6 s7 bh ch bw cw ms xs ys ls j):s7<=bw/\bw<w.heap.size:=h.row.lt bw rfl
theorem L2.F7(h:L2 w0 w g U G s0 s1 s2 s3 s4 s5 s6 s7 bh ch bw cw ms xs ys ls j){a:Option Oc}{n c:Nat}(hx:xs[j]?=MI (a,n,c)):w.cell? ⟨bw,j,MH⟩=MI (MG a n c):=by
 have d:=h.old j (MV _);rw[hx]at d;obtain⟨f,e⟩:=ZAb.1 d;have:=abU acl (l:=ys) h.row (by rw[h.ylen]) (i:=j) (j:=0) f (by omega);rw[e,P6,Oe]at this;exact this
theorem L2.next(h:L2 w0 w g U G s0 s1 s2 s3 s4 s5 s6 s7 bh ch bw cw ms xs ys ls j)(hj:j<25)(hls:ls.length=25)(hb:MQ w.heap.size w w'){p:Option Oc}{n c B:Nat}(hn:∀h2:j<ls.length,n=ls[j].length)(hB:w.heap.size<=B)(ho:∀h2:j<ls.length,w'.ownsRow B 201 2 (MG p n c) n (rv ZB ls[j])) :
  L2 w0 (w'.setCell ⟨bw,j,MH⟩ (MG p n c)) g U G s0 s1 s2 s3 s4 s5 s6 s7 bh ch bw cw ms xs (ys.set j (p,n,c)) ls (j+1):=by
 have s:s5<=bh/\bh<w.heap.size:=h.hea.lt bh rfl;have r:=h.bs;have y:=h.ss;have u:=h.Hu;have o:=h.five.le;have q:=h.gs;have d:∀b,b<w.heap.size->b≠bw->(w'.setCell ⟨bw,j,MH⟩ (MG p n c)).heap[b]?=w.heap[b]?:=fun b q1 q2=>(MU _ _ _ _ q2).trans (hb.block b q1)
 have l:w'.ownsRow s7 198 1 (MG (MI ⟨bw,0,MH⟩) 25 cw) 25 (rv aaJ ys):=W8 h.row fun b e=>hb.block b (h.row.lt b e).2
 have f:=adn acl l (i:=j) (j:=0) (by rw[h.ylen];exact hj) (by omega) (MG p n c) (p,n,c) rfl;rw[P6,Oe]at f;refine⟨⟨(d g h.og.lt (by omega)).trans h.og.box,(h.og.bel.trans (hb.mono h.og.bel.size)).setCell (Nm h.og.low (by show g<=bw;omega)) _,h.og.low⟩,h.five.Gf fun b q1 q2 q3=>d b q3 (by omega),W8 h.hea fun b e=>d b (h.hea.lt b e).2 (by have e:b=bh:=(NC e).symm;omega),h.len,h.hel,fun i m x e1 e2=>(h.mks i m x e1 e2).Gf fun b q1 q2 q3=>d b q3 (by omega),f,by rw[NA];exact h.ylen,fun i q1 q2 q3=>?_,fun i q1=>?_,h.gs,h.bs,h.ss,h.pw,h.cw⟩
 ·by_cases e:i=j
  ·subst e
   simp only[NW];rw[<-hn q2];have a:=ho q2;exact W8 (a.mono (by omega)) fun b eb=>MU _ _ _ _ (by have:=(a.lt b eb).1;show b≠bw;omega)
  ·simp only[Pe (Pi e)]
   have a:=h.new i (by rw[NA]at q1;exact q1) q2 (by omega);exact W8 a fun b eb=>d b (a.lt b eb).2 (by have:=(a.lt b eb).1;omega)
 ·rw[N3 (by omega)]
  exact h.old i (by omega)
theorem L2.Jb(h:L2 w0 w g U G s0 s1 s2 s3 s4 s5 s6 s7 bh ch bw cw ms xs ys ls 25)(hph:U.ph=MI ⟨bh,0,MH⟩)(hch:U.ch=ch)(hm:Y9 G.wnow ls)(ht:∀t,t∈ls.flatten↔G.tms t)(hblk:Xo w0)(hout:G.out=[]) :
  OR w0.heap.size w g ⟨bh,ch,U.pt,U.ct,U.pf,U.cf,U.pl,U.cl,U.pr,U.cr,U.ps,U.cs,U.pw,U.cw,MH,0,ms⟩ G:=by
 have A:=h.og.low;have I:s5<=bh/\bh<w.heap.size:=h.hea.lt bh rfl;have C:=h.bs;have J:=h.ss;have K:=h.Hu;have B:=h.gs;have D:=h.five.l1;have F:=h.five.l2;have L:=h.five.l3;have E:=h.five.l4;have H:=h.five.l5;have a:∀b,Vs.off ⟨bh,ch,U.pt,U.ct,U.pf,U.cf,U.pl,U.cl,U.pr,U.cr,U.ps,U.cs,U.pw,U.cw,MH,0,ms⟩ w0.heap.size g b->b<=g\/(s1<=b/\b<s2)\/b=bh:=fun b hb=>by
  rcases hb with(e|e|e|e)|e
  ·exact Nt (by omega)
  ·exact NF (NF e)
  ·exact NF (Nt (h.five.t2.Gz e))
  ·cases e
  ·exact Nt (by omega)
 have u:Yy w (MG U.pt G.tab.length U.ct) G.tab:=by
  have:=abw (c:=acM) (l:=G.tab) h.five.t1.own;unfold Xw at this;rw[ahD]at this;exact this
 have y:Xz w (MG U.ps (WW G.wts).length U.cs) (WW G.wts):=by
  have:=abw (c:=ZB) (l:=WW G.wts) h.five.t5.own;unfold Xw at this;rw[ahE]at this;exact this
 have q:=hm.2.len;refine⟨?_,?_⟩
 ·rw[h.og.box]
  simp only[ahn,aeL,hph,hch,hout,List.length_nil]
 ·refine⟨abt u fun b e hb=>?_,fun W k1 k2=>⟨abt (Yr h.five.t3.own) (fun b e hb=>?_) W k1 k2,abt (Yr h.five.t4.own) (fun b e hb=>?_) W k1 k2⟩,abt y fun b e hb=>?_,⟨ls,hm,ht,fun W k1 k2=>?_⟩,h.five.t2.own.mono (by omega),h.hea.mono (by omega),h.len,h.hel,fun i m x e1 e2=>abt (acQ (h.mks i m x e1 e2).own) fun b e hb=>?_,?_,h.og.low,h.og.lt,?_,?_,?_,?_,?_,?_,hblk.below h.og.bel,hblk.lt⟩
  ·have:=h.five.t1.Gz e
   rcases a b hb with e|e|e <;> omega
  ·have:=h.five.t3.Gz e
   rcases a b hb with e|e|e <;> omega
  ·have:=h.five.t4.Gz e
   rcases a b hb with e|e|e <;> omega
  ·have:=h.five.t5.Gz e
   rcases a b hb with e|e|e <;> omega
  ·have r:∀b,s7<=b->b<w.heap.size->W.heap[b]?=w.heap[b]?:=fun b q1 q2=>k2 b q2 fun hb=>by rcases a b hb with e|e|e <;> omega
   have s:W.ownsRow s7 198 1 (MG (MI ⟨bw,0,MH⟩) 25 cw) 25 (rv aaJ ys):=W8 h.row fun b e=>r b (h.row.lt b e).1 (h.row.lt b e).2
   show Zo W (MG U.pw 25 U.cw) ls;rw[h.pw,h.cw];refine⟨rv aaJ ys,?_,?_,fun i h1 h2=>?_⟩
   ·rw[q]
    exact Yr s
   ·rw[abx acl,P6,h.ylen,q]
   ·have d:i<ys.length:=by rwa[abx acl,P6]at h1
    have e:(rv aaJ ys)[i]=MG ys[i].1 ys[i].2.1 ys[i].2.2:=by
     have:=ZA acl ys i 0 d (by omega);rw[P6,Oe,MR h1]at this;exact NC this
    rw[e];have f:=h.new i d h2 (by rw[h.ylen]at d;exact d);have o:W.ownsRow (bw+1) 201 2 (MG ys[i].1 ys[i].2.1 ys[i].2.2) ls[i].length (rv ZB ls[i]):=W8 f fun b e=>r b (by have:=(f.lt b e).1;omega) (f.lt b e).2
    rw[ahG]at o;exact Yr o
  ·have:=(h.mks i m x e1 e2).Gz e
   rcases a b hb with e|e|e <;> omega
  ·show w.ownsRow _ _ _ (MG MH G.out.length 0) G.out.length (rv Z1 G.out)
   rw[hout];exact NY _ _ _ _
  ·show bh≠g
   omega
  ·intro e
   have:=h.five.t2.Gz e;omega
  ·intro e
   have e:U.pf.map (·.block)=MI bh:=e;have:=h.five.t2.Gz e;omega
  ·intro e;cases e
  ·intro e;cases e
  ·intro b _ e;cases e
theorem apV{ls:List (List Tm)}(h:Zo w v ls):∃xs:List Sc,xs.length=ls.length/\Xw aaJ w v xs/\∀i (h1:i<xs.length) (h2:i<ls.length),xs[i].2.1=ls[i].length/\Xz w (MG xs[i].1 xs[i].2.1 xs[i].2.2) ls[i]:=by
 obtain⟨d,r,s,m⟩:=h;have y:∀(d:List M7),(∀u∈d,∃a n c,u=MG a n c)->∃xs:List Sc,rv aaJ xs=d:=by
  intro d
  induction d with
  |nil=>intro _;exact⟨[],rfl⟩
  |cons u d ih =>
   intro f;obtain⟨a,n,c,rfl⟩:=f u NM;obtain⟨xs,rfl⟩:=ih fun x hx=>f x (NB _ hx)
   exact⟨(a,n,c)::xs,rfl⟩
 obtain⟨xs,rfl⟩:=y d fun u f=>by
  obtain⟨i,hi,rfl⟩:=NV f;obtain⟨a,c,e,_⟩:=(m i hi (by omega)).F6;exact⟨a,_,c,e⟩
 have q:xs.length=ls.length:=by rw[<-s,abx acl,P6]
 refine⟨xs,q,?_,fun i h1 h2=>?_⟩
 ·unfold Xw
  rw[q];exact r
 ·have o:i<(rv aaJ xs).length:=by rw[abx acl,P6];exact h1
  have l:=m i o h2;have e:(rv aaJ xs)[i]=MG xs[i].1 xs[i].2.1 xs[i].2.2:=by
   have:=ZA acl xs i 0 h1 (by omega);rw[P6,Oe,MR o]at this;exact NC this
  rw[e]at l;obtain⟨a,c,A,_⟩:=l.F6;injection A with _ e3 _;exact⟨e3,l⟩
end
section
variable {base:Nat}{w0 w w':MO}{g:Nat}{V:Vs}{U:Us}{G:Gt}
theorem aqE{l:List awY}(h:Yy w v l):Xw acM w v l:=by
 unfold Xw;rw[ahD];exact h
theorem aqO{l:List Tm}(h:Xz w v l):Xw ZB w v l:=by
 unfold Xw;rw[ahE];exact h
theorem akX{e k n c:Nat}{p:Option Oc}{xs:List M7}(h:w.ownsRow base e k (MG p n c) n xs)(hn:0<n):∃b,p=MI ⟨b,0,MH⟩/\n<=c/\c<=9223372036854775807:=by
 rcases h.2 with⟨a,_⟩|⟨d,m,l,a,_,_,f,i,_⟩
 ·cases a
  omega
 ·cases a
  exact⟨d,rfl,f,i⟩
theorem akW{e k n c:Nat}{xs:List M7}(h:w.ownsRow base e k (MG (MI ⟨b,0,MH⟩) n c) n xs)(j:Nat):w.frozen? ⟨b,j,MH⟩=false:=by
 rcases h.2 with⟨a,_⟩|⟨i,l,f,a,_,d,_⟩
 ·cases a
 ·cases a
  simp[Ng,d]
theorem ao1{ls:List (List Tm)}{j:Nat}(hj:j<ls.length):(ls[j]).length<=ls.flatten.length:=by
 have a:=afM hj;have d:=ahl (ls:=ls) (j+1);rw[a,Ns]at d;omega
theorem aqh(h0:Xd w0 U G)(h:Og w0 w g U G)(hwm:Wm G)(hblk:Xo w0)(hout:G.out=[]) :
  Ni MK 55 #[gP g] w fun r w'=>r=MN (Nv #[])/\∃V,OR w0.heap.size w' g V G/\MQ w0.heap.size w0 w':=by
 have S:=hwm.im.bs;have m3:G.tab.length<=1000:=by have:=S.tab.1;omega
 have n3:G.fls.length<=1000:=by have:=S.Gb;omega
 have m4:G.liv.length<=1000:=by have:=S.book.1.1;omega
 have n7:G.req.length<=1000:=by have:=S.book.2.1;omega
 have n5:(WW G.wts).length<=1000:=by have:=aiU S.wts;omega
 have f8:(U.ms.zip G.hea).length=12:=by rw[Qn,h0.msl,h0.hel];rfl
 have m7:(U.ms.zip G.hea).length<=1000:=by rw[f8];omega
 have l7:∀x∈G.hea,x.marks.length<=16:=fun x hx=>by have:=(S.hea x hx).1;have:=S.Gx.1.2;omega
 have q:M6 (_/\_/\_/\_/\_/\_/\_):=⟨h0,m3,n3,m4,n7,n5,m7⟩;have HM:M6 (_/\_/\_/\_/\_):=⟨hwm,hblk,hout,f8,l7⟩;have o:M6 _:=h;have c17:=h.Gs;have f17:=h.fz 17;have hgl:=h.lt;clear h0 h hwm hblk hout S m3 n3 m4 n7 n5 f8 m7 l7;go_enter Tp,S8;have n6:M6 _:=aoM _ G.tab _ (aqE (q.out.1.tab.below o.out.bel)) q.out.2.1
 go_wp2_with fail
 refine Nd n6.out ?_;rintro r v1 ⟨p1,c1,rfl,m8,d9⟩;have d:=o.out.below d9;have r3:=d.Gs;have u5:=d.fz 17;have o7:=d.lt;obtain⟨y,b8⟩:∃y,y=v1.setCell ⟨g,17,MH⟩ (MG p1 G.tab.length c1):=⟨_,rfl⟩;have d5:=d.Ix p1 c1;rw[<-b8]at d5;have t1:=ad5 o.out.lt d9.size m8 17 (MG p1 G.tab.length c1);rw[<-b8]at t1;have H1:M6 (_/\_):=⟨d5,t1⟩;have g4:M6 (w.heap.size<=y.heap.size):=by show _<=_;rw[b8];simpa using d9.size
 have y8:=d5.lt;have p8:v1.cell? ⟨g,18,MH⟩=MI (MG U.pf G.fls.length U.cf):=d.Gr;clear d d5 t1 m8 d9
 go_wp2_with fail
 rw[<-b8];clear b8 r3 u5 o7 p8;have n0:M6 _:=aoJ _ G.fls _ (Xw.below q.out.1.fls H1.out.1.bel) q.out.2.2.1;refine Nd n0.out ?_;rintro r v2 ⟨p2,c2,rfl,i9,b9⟩;have d:=H1.out.1.below b9;have s8:=d.Gr;have r4:=d.fz 18;have o8:=d.lt;obtain⟨A,b5⟩:∃A,A=v2.setCell ⟨g,18,MH⟩ (MG p2 G.fls.length c2):=⟨_,rfl⟩;have d3:=d.IU p2 c2;rw[<-b5]at d3;have t2:=ad5 H1.out.1.lt b9.size i9 18 (MG p2 G.fls.length c2);rw[<-b5]at t2;have l:=H1.out.2.step b9 (g:=g) (by have:=o.out.lt;have:=g4.out;omega) 18 (MG p2 G.fls.length c2);rw[<-b5]at l;have H2:M6 (_/\_/\_):=⟨d3,l,t2⟩;have b6:M6 (w.heap.size<=y.heap.size/\y.heap.size<=A.heap.size):=⟨g4.out,(by rw[b5];simpa using b9.size)⟩;have z9:=d3.lt;have r8:v2.cell? ⟨g,19,MH⟩=MI (MG U.pl G.liv.length U.cl):=d.Gn;clear d d3 t2 i9 b9 l
 go_wp2_with fail
 rw[<-b5];clear b5 s8 r4 o8 r8;have m2:M6 _:=alR _ G.liv _ (q.out.1.book.below H2.out.1.bel).1 q.out.2.2.2.1;refine Nd m2.out ?_;rintro r v3 ⟨p3,c3,rfl,m0,b4⟩;have d:=H2.out.1.below b4;have r6:=d.Gn;have s9:=d.fz 19;have o9:=d.lt;obtain⟨B,a9⟩:∃B,B=v3.setCell ⟨g,19,MH⟩ (MG p3 G.liv.length c3):=⟨_,rfl⟩;have d1:=d.I3 p3 c3;rw[<-a9]at d1;have t3:=ad5 H2.out.1.lt b4.size m0 19 (MG p3 G.liv.length c3);rw[<-a9]at t3;have l:=H2.out.2.1.step b4 (g:=g) (by have:=o.out.lt;have:=b6.out;omega) 19 (MG p3 G.liv.length c3);rw[<-a9]at l;have u:=H2.out.2.2.step b4 (g:=g) (by have:=o.out.lt;have:=b6.out;omega) 19 (MG p3 G.liv.length c3);rw[<-a9]at u;have H3:M6 (_/\_/\_/\_):=⟨d1,l,u,t3⟩;have a0:M6 (w.heap.size<=y.heap.size/\y.heap.size<=A.heap.size/\A.heap.size<=B.heap.size):=⟨b6.out.1,b6.out.2,(by rw[a9];simpa using b4.size)⟩;have w9:=d1.lt;have q5:v3.cell? ⟨g,20,MH⟩=MI (MG U.pr G.req.length U.cr):=d.GD;clear d d1 t3 m0 b4 l u
 go_wp2_with fail
 rw[<-a9];clear a9 r6 s9 o9 q5;have l6:M6 _:=alS _ G.req _ (q.out.1.book.below H3.out.1.bel).2 q.out.2.2.2.2.1;refine Nd l6.out ?_;rintro r v4 ⟨p4,c4,rfl,n8,a6⟩;have d:=H3.out.1.below a6;have q9:=d.GD;have q6:=d.fz 20;have o3:=d.lt;obtain⟨M,R⟩:∃M,M=v4.setCell ⟨g,20,MH⟩ (MG p4 G.req.length c4):=⟨_,rfl⟩;have d8:=d.Ju p4 c4;rw[<-R]at d8;have t4:=ad5 H3.out.1.lt a6.size n8 20 (MG p4 G.req.length c4);rw[<-R]at t4;have l:=H3.out.2.1.step a6 (g:=g) (by have:=o.out.lt;have:=a0.out;omega) 20 (MG p4 G.req.length c4);rw[<-R]at l;have u:=H3.out.2.2.1.step a6 (g:=g) (by have:=o.out.lt;have:=a0.out;omega) 20 (MG p4 G.req.length c4);rw[<-R]at u;have F:=H3.out.2.2.2.step a6 (g:=g) (by have:=o.out.lt;have:=a0.out;omega) 20 (MG p4 G.req.length c4);rw[<-R]at F;have H4:M6 (_/\_/\_/\_/\_):=⟨d8,l,u,F,t4⟩;have L:M6 (w.heap.size<=y.heap.size/\y.heap.size<=A.heap.size/\A.heap.size<=B.heap.size/\B.heap.size<=M.heap.size):=⟨a0.out.1,a0.out.2.1,a0.out.2.2,(by rw[R];simpa using a6.size)⟩;have z7:=d8.lt;have u7:v4.cell? ⟨g,21,MH⟩=MI (MG U.ps (WW G.wts).length U.cs):=d.GX;clear d d8 t4 n8 a6 l u F
 go_wp2_with fail
 rw[<-R];clear R q9 q6 o3 u7;have l0:M6 _:=aoN _ (WW G.wts) _ (aqO (q.out.1.ring.below H4.out.1.bel)) q.out.2.2.2.2.2.1;refine Nd l0.out ?_;rintro r v5 ⟨p5,c5,rfl,l9,P⟩;have d:=H4.out.1.below P;have r9:=d.GX;have r7:=d.fz 21;have o5:=d.lt;obtain⟨w5,J⟩:∃w5,w5=v5.setCell ⟨g,21,MH⟩ (MG p5 (WW G.wts).length c5):=⟨_,rfl⟩;have d4:=d.IJ p5 c5;rw[<-J]at d4;have t5:=ad5 H4.out.1.lt P.size l9 21 (MG p5 (WW G.wts).length c5);rw[<-J]at t5;have l:=H4.out.2.1.step P (g:=g) (by have:=o.out.lt;have:=L.out;omega) 21 (MG p5 (WW G.wts).length c5);rw[<-J]at l;have u:=H4.out.2.2.1.step P (g:=g) (by have:=o.out.lt;have:=L.out;omega) 21 (MG p5 (WW G.wts).length c5);rw[<-J]at u;have F:=H4.out.2.2.2.1.step P (g:=g) (by have:=o.out.lt;have:=L.out;omega) 21 (MG p5 (WW G.wts).length c5);rw[<-J]at F;have a8:=H4.out.2.2.2.2.step P (g:=g) (by have:=o.out.lt;have:=L.out;omega) 21 (MG p5 (WW G.wts).length c5);rw[<-J]at a8;have N:M6 (_/\_/\_/\_/\_/\_):=⟨d4,l,u,F,a8,t5⟩;have E:M6 (w.heap.size<=y.heap.size/\y.heap.size<=A.heap.size/\A.heap.size<=B.heap.size/\B.heap.size<=M.heap.size/\M.heap.size<=w5.heap.size):=⟨L.out.1,L.out.2.1,L.out.2.2.1,L.out.2.2.2,(by rw[J];simpa using P.size)⟩;have z8:=d4.lt;have u6:v5.cell? ⟨g,22,MH⟩=MI (MG U.ph 12 U.ch):=d.GI;clear d d4 t5 l9 P l u F a8
 go_wp2_with fail
 rw[<-J];clear J r9 r7 o5 u6;have g9:M6 _:=aoK (MG U.ph 12 U.ch) (U.ms.zip G.hea) _ (Xw.below q.out.1.hea N.out.1.bel) q.out.2.2.2.2.2.2;rw[HM.out.2.2.2.1]at g9;refine Nd g9.out ?_;rintro r v6 ⟨Z,c6,rfl,n9,K⟩;have d:=N.out.1.below K;have r2:=d.GI;have q4:=d.fz 22;have o6:=d.lt;obtain⟨w6,H⟩:∃w6,w6=v6.setCell ⟨g,22,MH⟩ (MG Z 12 c6):=⟨_,rfl⟩;have d7:=d.IY Z c6;rw[<-H]at d7;have t6:=ad5 N.out.1.lt K.size n9 22 (MG Z 12 c6);rw[<-H]at t6;have l:=N.out.2.1.step K (g:=g) (by have:=o.out.lt;have:=E.out;omega) 22 (MG Z 12 c6);rw[<-H]at l;have u:=N.out.2.2.1.step K (g:=g) (by have:=o.out.lt;have:=E.out;omega) 22 (MG Z 12 c6);rw[<-H]at u;have F:=N.out.2.2.2.1.step K (g:=g) (by have:=o.out.lt;have:=E.out;omega) 22 (MG Z 12 c6);rw[<-H]at F;have a8:=N.out.2.2.2.2.1.step K (g:=g) (by have:=o.out.lt;have:=E.out;omega) 22 (MG Z 12 c6);rw[<-H]at a8;have g5:=N.out.2.2.2.2.2.step K (g:=g) (by have:=o.out.lt;have:=E.out;omega) 22 (MG Z 12 c6);rw[<-H]at g5;have I:M6 (_/\_/\_/\_/\_/\_/\_):=⟨d7,l,u,F,a8,g5,t6⟩;have b3:M6 (w.heap.size<=y.heap.size/\y.heap.size<=A.heap.size/\A.heap.size<=B.heap.size/\B.heap.size<=M.heap.size/\M.heap.size<=w5.heap.size/\w5.heap.size<=w6.heap.size):=⟨E.out.1,E.out.2.1,E.out.2.2.1,E.out.2.2.2.1,E.out.2.2.2.2,(by rw[H];simpa using K.size)⟩;have y7:=d7.lt;clear d d7 t6 n9 K l u F a8 g5
 go_wp2_with fail
 rw[<-H];clear H r2 q4 o6;obtain⟨bh,e9,v8,u8⟩:=akX I.out.2.2.2.2.2.2.own (by omega);obtain⟨O,i5,u1,u2,T,u4⟩:∃O:Us,L1 w0 w6 g O G w.heap.size y.heap.size A.heap.size B.heap.size M.heap.size w5.heap.size w6.heap.size bh c6 U.ms U.ms 0/\O.ph=MI ⟨bh,0,MH⟩/\O.ch=c6/\O.pw=U.pw/\O.cw=U.cw:=by
  refine⟨_,⟨I.out.1,⟨I.out.2.1,I.out.2.2.1,I.out.2.2.2.1,I.out.2.2.2.2.1,I.out.2.2.2.2.2.1,b3.out.1,b3.out.2.1,b3.out.2.2.1,b3.out.2.2.2.1,b3.out.2.2.2.2.1⟩,by rw[<-e9];exact I.out.2.2.2.2.2.2.own,q.out.1.msl,q.out.1.hel,fun i m x hi=>absurd hi (QH _),fun i _=>rfl,o.out.lt,I.out.2.2.2.2.2.2.up bh (by rw[e9];rfl),MV _⟩,e9,rfl,rfl,rfl⟩
 obtain⟨s0,e0⟩:∃s,s=w.heap.size:=⟨_,rfl⟩;obtain⟨s1,e1⟩:∃s,s=y.heap.size:=⟨_,rfl⟩;obtain⟨s2,e2⟩:∃s,s=A.heap.size:=⟨_,rfl⟩;obtain⟨s3,e3⟩:∃s,s=B.heap.size:=⟨_,rfl⟩;obtain⟨s4,e4⟩:∃s,s=M.heap.size:=⟨_,rfl⟩;obtain⟨s5,e5⟩:∃s,s=w5.heap.size:=⟨_,rfl⟩;obtain⟨s6,e6⟩:∃s,s=w6.heap.size:=⟨_,rfl⟩;rw[<-e0,<-e1,<-e2,<-e3,<-e4,<-e5,<-e6]at i5;have HG:M6 _:=i5;have HU:M6 (_/\_/\_/\_):=⟨u1,u2,T,u4⟩;subst e9;clear i5 u1 u2 T u4 e0 e1 e2 e3 e4 e5 e6;clear H1 H2 H3 H4 N I g4 b6 a0 L E b3 n6 n0 m2 l6 l0 g9
 go_loopw [78] (fun t wr=>∃(j:Nat) (ms:List Mk),t=MF ME (j:Int)/\j<=12/\M6 (L1 w0 wr g O G s0 s1 s2 s3 s4 s5 s6 bh c6 U.ms ms j)) (fun t _=>12-(intOf t).toNat)
 case atStart=>exact⟨0,U.ms,rfl,by omega,HG.out⟩
 case round =>
  obtain⟨j,ms,rfl,hj,HI⟩:=hrel;obtain⟨W,hW⟩:∃W,W=wr:=⟨_,rfl⟩;subst hW
  by_cases hlt:j<12
  ·have q7:(j:Int)<12:=by omega
   have q8:(0:Int)<=(j:Int):=by omega
   have f:=HI.out;obtain⟨m,x,em,ex,q0⟩:=f.F7 hlt;have m1:x.marks.length<=1000:=by have:=HM.out.2.2.2.2 x (Nu ex);omega
   have m5:=f.og.GI;rw[HU.out.1,HU.out.2.1]at m5;have f6:=f.og.lt;have a7:=f.Hb.2;have n1:¬g=bh:=by have:=f.Hb.1;have:=f.five.le;have:=f.gs;omega
   have hgb2:¬bh=g:=fun e=>n1 e.symm
   have g1:W.frozen? ⟨bh,j*4,MH⟩=false:=akW f.hea _;have HK:M6 (∀X,MQ W.heap.size W X->Ni MK 77 #[MG m.1 x.marks.length m.2] X fun r w'=>∃p c,r=MN (MG p x.marks.length c)/\(w'.cell? ⟨bh,j*4,MH⟩=MI (MG m.1 x.marks.length m.2)/\w'.frozen? ⟨bh,j*4,MH⟩=Nb/\bh<w'.heap.size)/\w'.cell? ⟨g,22,MH⟩=MI (MG (MI ⟨bh,0,MH⟩) 12 c6)/\(w'.setCell ⟨bh,j*4,MH⟩ (MG p x.marks.length c)).cell? ⟨g,22,MH⟩=MI (MG (MI ⟨bh,0,MH⟩) 12 c6) /\
     ∃T,T=w'.setCell ⟨bh,j*4,MH⟩ (MG p x.marks.length c)/\M6 (L1 w0 T g O G s0 s1 s2 s3 s4 s5 s6 bh c6 U.ms (ms.set j (p,c)) (j+1))):=fun X hX=>by
    refine(alD (MG m.1 x.marks.length m.2) x.marks X (((q.out.1.marks j m x em ex).below f.og.bel).below hX) m1).mono ?_;rintro r w' ⟨p,c,rfl,ho,hb⟩;have D:=hX.trans (hb.mono hX.size);have hS:w'.cell? ⟨g,22,MH⟩=MI (MG (MI ⟨bh,0,MH⟩) 12 c6):=(D.cell f6).trans m5;refine⟨p,c,rfl,⟨(D.cell a7).trans q0,(OM (a:=⟨bh,j*4,MH⟩) (D.block bh a7)).trans g1,M8 a7 D.size⟩,hS,?_,_,rfl,f.next hlt D ex hX.size ho⟩;rw[<-hS];exact NG (MU _ _ _ _ n1)
   clear f em ex m1
   go_wp2_with fail
   apply aan
   ·intro i6
    go_region_with (first|(go_at_call 77;refine(HK.out _ (by first|exact(MY _ _).drew|exact Below.refl _ _)).mono ?_;rintro r B ⟨p,c,rfl,⟨u0,v0,g2⟩,g8,i7,u4,d0,hQ⟩))
    all_goals
     rw[<-d0];clear i7;clear d0 u0 v0 g2 g8;revert p c u4;exact i6.out
   intro p c u4 hQ;have HQ:M6 _:=hQ.out;clear hQ HK;go_wp2
   go_roundw
   case rel=>exact⟨j+1,ms.set j (p,c),by go_num,hlt,HQ.out⟩
   case measure=>simp[intOf];omega
  ·obtain rfl:j=12:=by omega
   obtain⟨ls,f7,hT,n4⟩:=q.out.1.whl;obtain⟨xs,n2,m9,i8⟩:=apV n4;have g0:=f7.2.len;have f9:xs.length=25:=by rw[n2,g0]
   have d2:=HI.out.og.GH;rw[HU.out.2.2.1,HU.out.2.2.2]at d2;have f6:=HI.out.og.lt;have HC:=aoL (MG U.pw 25 U.cw) xs W (Xw.below m9 HI.out.og.bel) (by omega);rw[f9]at HC;have HC:M6 _:=HC;have HL:M6 (_/\_/\_/\_/\_):=⟨f7,hT,f9,i8,g0⟩;clear f7 hT n4 n2 m9 i8 g0 f9
   go_wp2_with fail
   refine Nd HC.out ?_;rintro r v7 ⟨p7,cw,rfl,g7,g6⟩;obtain⟨bw,rfl,v9,y9⟩:=akX g7 (by omega);have d6:=HI.out.og.below g6;have r0:=d6.GH;have p9:=d6.fz 25;have o4:=d6.lt;obtain⟨w8,i4⟩:∃w8,w8=v7.setCell ⟨g,25,MH⟩ (MG (MI ⟨bw,0,MH⟩) 25 cw):=⟨_,rfl⟩;have C:=HI.out.I0 (ls:=ls) g6 HL.out.2.2.1 g7;rw[<-i4]at C;obtain⟨s7,e7⟩:∃s,s=W.heap.size:=⟨_,rfl⟩;rw[<-e7]at C;obtain⟨U8,i1⟩:∃U8:Us,U8={O with pw:=MI ⟨bw,0,MH⟩,cw:=cw}:=⟨_,rfl⟩;rw[<-i1]at C;have l8:¬g=bw:=by have:=C.Hu.1;have:=C.ss;have:=C.bs;have:=(C.hea.lt bh rfl).1;have:=C.five.le;have:=C.gs;omega
   have u9:¬bw=g:=fun e=>l8 e.symm
   have H8:M6 (_/\_):=⟨C,i1⟩;clear C i1 g7 g6 d6 e7
   go_wp2_with fail
   rw[<-i4];clear i4 r0 p9 o4 d2 f6
   go_loopw [119] (fun t wr=>∃(j:Nat) (ys:List Sc),t=MF ME (j:Int)/\j<=25/\M6 (L2 w0 wr g U8 G s0 s1 s2 s3 s4 s5 s6 s7 bh c6 bw cw ms xs ys ls j)) (fun t _=>25-(intOf t).toNat)
   case atStart=>exact⟨0,xs,rfl,by omega,H8.out.1⟩
   case round =>
    obtain⟨j,ys,rfl,hj,HJ⟩:=hrel;obtain⟨X,hX⟩:∃X,X=wr:=⟨_,rfl⟩;subst hX
    by_cases hlt:j<25
    ·have q7:(j:Int)<25:=by omega
     have q8:(0:Int)<=(j:Int):=by omega
     have f:=HJ.out;have i2:j<xs.length:=by rw[HL.out.2.2.1];exact hlt
     have g3:j<ls.length:=by rw[HL.out.2.2.2.2];exact hlt
     obtain⟨Q,b7⟩:=HL.out.2.2.2.1 j i2 g3;obtain⟨a,n,cc,i3⟩:∃a n cc,xs[j]=((a,n,cc):Sc):=⟨_,_,_,rfl⟩;rw[i3]at Q b7;replace Q:n=ls[j].length:=Q;replace b7:Xz w0 (MG a n cc) ls[j]:=b7;have q0:X.cell? ⟨bw,j,MH⟩=MI (MG a n cc):=f.F7 ((MR i2).trans (by rw[i3]));have g1:X.frozen? ⟨bw,j,MH⟩=false:=akW f.row j;have a7:=f.Hu.2;have d2:X.cell? ⟨g,25,MH⟩=MI (MG (MI ⟨bw,0,MH⟩) 25 cw):=by
      have:=f.og.GH;rw[f.pw,f.cw]at this;exact this
     have p0:=f.og.lt;have o0:n<=1000:=by rw[Q];have:=HL.out.1.2.Hr;have:=ao1 g3;omega
     have HK:M6 (∀Y,MQ X.heap.size X Y->Ni MK 79 #[MG a n cc] Y fun r w'=>∃p c,r=MN (MG p n c)/\(w'.cell? ⟨bw,j,MH⟩=MI (MG a n cc)/\w'.frozen? ⟨bw,j,MH⟩=Nb/\bw<w'.heap.size)/\w'.cell? ⟨g,25,MH⟩=MI (MG (MI ⟨bw,0,MH⟩) 25 cw)/\(w'.setCell ⟨bw,j,MH⟩ (MG p n c)).cell? ⟨g,25,MH⟩=MI (MG (MI ⟨bw,0,MH⟩) 25 cw) /\
       ∃T,T=w'.setCell ⟨bw,j,MH⟩ (MG p n c)/\M6 (L2 w0 T g U8 G s0 s1 s2 s3 s4 s5 s6 s7 bh c6 bw cw ms xs (ys.set j (p,n,c)) ls (j+1))):=fun Y hY=>by
      have m6:=aoO (MG a n cc) ls[j] Y (ahN.1 ((b7.below f.og.bel).below hY)) (by rw[<-Q];exact o0);rw[<-Q]at m6;refine m6.mono ?_;rintro r w' ⟨p,c,rfl,ho,hb⟩;have D:=hY.trans (hb.mono hY.size);have hS:w'.cell? ⟨g,25,MH⟩=MI (MG (MI ⟨bw,0,MH⟩) 25 cw):=(D.cell p0).trans d2;refine⟨p,c,rfl,⟨(D.cell a7).trans q0,(OM (a:=⟨bw,j,MH⟩) (D.block bw a7)).trans g1,M8 a7 D.size⟩,hS,?_,_,rfl,f.next hlt HL.out.2.2.2.2 D (fun _=>Q) hY.size (fun _=>ho)⟩;rw[<-hS];exact NG (MU _ _ _ _ l8)
     clear f i2 i3 Q b7 g3
     go_wp2_with fail
     apply aan
     ·intro i6
      go_region_with (first|(go_at_call 79;refine(HK.out _ (by first|exact(MY _ _).drew|exact Below.refl _ _)).mono ?_;rintro r B ⟨p,c,rfl,⟨u0,v0,g2⟩,g8,i7,u4,d0,hQ⟩))
      all_goals
       rw[<-d0];clear i7;clear d0 u0 v0 g2 g8;revert p c u4;exact i6.out
     intro p c u4 hQ;have HQ:M6 _:=hQ.out;clear hQ HK;go_wp2
     go_roundw
     case rel=>exact⟨j+1,ys.set j (p,n,c),by go_num,hlt,HQ.out⟩
     case measure=>simp[intOf];omega
    ·obtain rfl:j=25:=by omega
     go_wp2
     go_end0
     have h9:=HJ.out;exact⟨rfl,_,h9.Jb (by rw[H8.out.2];exact HU.out.1) (by rw[H8.out.2];exact HU.out.2.1) HL.out.1 HL.out.2.1 HM.out.2.1 HM.out.2.2.1,h9.og.bel⟩
end
section
variable {base:Nat}{w w':MO}{g:Nat}{V:Vs}{U:Us}{G:Gt}
theorem aos(hb:MQ W.heap.size W w5)(v:M7)(T:NU):∃bx u3,bx=w5.heap.size/\u3=w5.alloc (MP #[v] T)/\M6 (MQ W.heap.size W u3):=
 ⟨_,_,rfl,rfl,hb.alloc hb.size _⟩
theorem aot(hb:MQ W.heap.size W w5)(v:M7):∃bx u3,bx=W.heap.size/\u3=w5.setCell ⟨W.heap.size,0,MH⟩ v/\M6 (MQ W.heap.size W u3):=
 ⟨_,_,rfl,rfl,hb.setCell (MV _) _⟩
theorem aqk(h:RG w g U G)(hwm:Wm G):Ni MK 65 #[gP g] w fun r w'=>r=MN (M3 Nw)/\MQ w.heap.size w w':=by
 have m:=hwm.im.bs;have N:=ahf m.GM m.tok;obtain⟨tk,R⟩:∃tk,tk=min (G.tok+G.cfg.bn) (G.cfg.bb*G.cfg.bd):=⟨_,rfl⟩;rw[<-R]at N;have F:=h.lt;have Q:=h.Hf;have O:=h.Hn;have P:=h.Hg;have S:=h.Id;have Z:M6 (∀X,MQ w.heap.size w X->Ni MK 86 #[Ny #[MF ME G.cfg.bn,MF ME G.cfg.bd,MF ME G.cfg.bb],Ny #[MF ME G.tok]] X fun r w'=>r=MN (Nv #[Ny #[MF ME tk],MF ME 0])/\M6 (MQ w.heap.size w w')/\(∀n,n<X.heap.size->n<w'.heap.size)/\(∀b o,b<X.heap.size->w'.cell? ⟨b,o,MH⟩=X.cell? ⟨b,o,MH⟩)/\(∀b o,b<X.heap.size->w'.frozen? ⟨b,o,MH⟩=X.frozen? ⟨b,o,MH⟩)):=fun X hX=>by
  refine(ajR G.cfg.bn G.cfg.bd G.cfg.bb G.tok X).mono ?_;rw[N];rintro r w' ⟨rfl,u⟩;exact⟨rfl,hX.trans (u.mono hX.size),fun n hn=>M8 hn u.size,fun b o hb'=>u.cell (p:=⟨b,o,MH⟩) hb',fun b o hb'=>OM (a:=⟨b,o,MH⟩) (u.block b hb')⟩
 have x:M6 (∀X,MQ w.heap.size w X->X.cell? ⟨g,10,MH⟩=MI (MF ME G.cfg.bn)/\X.cell? ⟨g,11,MH⟩=MI (MF ME G.cfg.bd)/\X.cell? ⟨g,12,MH⟩=MI (MF ME G.cfg.bb)/\X.cell? ⟨g,23,MH⟩=MI (MF ME G.tok)/\MQ w.heap.size w X):=fun X hX =>
  ⟨(hX.cell F).trans Q,(hX.cell F).trans O,(hX.cell F).trans P,(hX.cell F).trans S,hX⟩
 have H:M6 (_/\_):=⟨h,hwm⟩;clear h hwm m N R;go_enter Sf,RV
 go_wp2_with fail
 apply aan
 ·intro B
  go_region_held3 (fun X=>X.cell? ⟨g,10,MH⟩=MI (MF ME G.cfg.bn)/\X.cell? ⟨g,11,MH⟩=MI (MF ME G.cfg.bd)/\X.cell? ⟨g,12,MH⟩=MI (MF ME G.cfg.bb)/\X.cell? ⟨g,23,MH⟩=MI (MF ME G.tok)/\MQ w.heap.size w X) (first|exact x.out _ ((MY _ _).drew)|exact x.out _ (((MY _ _).drew).alloc (by simp) _)|exact x.out _ l.out|exact x.out _ (l.out.alloc l.out.size _)|exact x.out _ (((MY _ _).alloc (MV _) _).drew)|exact x.out _ (l.out.setCell (MV _) _)) (first|(go_at_call 86;refine(Z.out _ ?hbW).mono ?_;(case hbW=>first|with_reducible assumption|exact(MY _ _).drew|exact((MY _ _).drew).alloc (by simp) _|exact((Below.refl _ _).alloc (Nat.le_refl _) _).drew);rintro r w5 ⟨rfl,l,a0,a7,a6⟩))
  all_goals
   clear a0 a7 a6;rename_i hHe;clear hHe
   first
   | (obtain⟨I,d,y,A,s⟩:=aos l.out (MF ME tk) 50
      rw[<-A]
      try rw[<-y]
      clear A y l;revert I d;exact B.out)
   | (obtain⟨I,d,y,A,s⟩:=aot l.out (MF ME tk)
      rw[<-A]
      try rw[<-y]
      clear A y l;revert I d;exact B.out)
 intro I d s;clear Q O P S Z x;have M:=s.out;clear s;have q:=H.out.1.below M;have hwm:=H.out.2;have m:=hwm.im.bs;have J:=q.c0;have E:=q.Gs;have C:=q.Gn;have D:=q.GD;have i:=q.lt;have a8:((G.tab.length:Int) == G.cfg.flows)=true:=by rw[m.tabLen];exact beq_self_eq_true _
 have HL:M6 (∀X,MQ d.heap.size d X->Ni MK 104 #[Ny #[MG U.pl G.liv.length U.cl,MG U.pr G.req.length U.cr]] X fun r w'=>r=MN (MF ME 0)/\(w'.cell? ⟨g,0,MH⟩=MI (MF ME G.cfg.flows)/\w'.cell? ⟨g,17,MH⟩=MI (MG U.pt G.tab.length U.ct)/\w'.cell? ⟨g,19,MH⟩=MI (MG U.pl G.liv.length U.cl)/\w'.cell? ⟨g,20,MH⟩=MI (MG U.pr G.req.length U.cr)/\MQ d.heap.size d w')):=fun X hX=>by
  refine(ah9 _ _ G.liv G.req X (q.below hX).wat.book).mono ?_;rw[show ae5 G.liv G.req=0 from Nh m.book];rintro r w' ⟨rfl,u⟩;have f:=hX.trans (u.mono hX.size);exact⟨rfl,(f.cell i).trans J,(f.cell i).trans E,(f.cell i).trans C,(f.cell i).trans D,f⟩
 have HT:M6 (∀X,MQ d.heap.size d X->Ni MK 105 #[Ny #[MG U.pt G.tab.length U.ct]] X fun r w'=>r=MN (MF ME 0)/\(w'.cell? ⟨g,0,MH⟩=MI (MF ME G.cfg.flows)/\w'.cell? ⟨g,17,MH⟩=MI (MG U.pt G.tab.length U.ct)/\w'.cell? ⟨g,19,MH⟩=MI (MG U.pl G.liv.length U.cl)/\w'.cell? ⟨g,20,MH⟩=MI (MG U.pr G.req.length U.cr)/\MQ d.heap.size d w')):=fun X hX=>by
  refine(agO _ G.tab X (q.below hX).wat.tab).mono ?_;rw[Nh m.tab];rintro r w' ⟨rfl,u⟩;have f:=hX.trans (u.mono hX.size);exact⟨rfl,(f.cell i).trans J,(f.cell i).trans E,(f.cell i).trans C,(f.cell i).trans D,f⟩
 have Y:M6 _:=M;clear q hwm m M
 go_wp2_with fail
 apply aan
 ·intro B
  go_region_held3 (fun X=>X.cell? ⟨g,0,MH⟩=MI (MF ME G.cfg.flows)/\X.cell? ⟨g,17,MH⟩=MI (MG U.pt G.tab.length U.ct)/\X.cell? ⟨g,19,MH⟩=MI (MG U.pl G.liv.length U.cl)/\X.cell? ⟨g,20,MH⟩=MI (MG U.pr G.req.length U.cr)/\MQ d.heap.size d X) (first|exact⟨J,E,C,D,(MY _ _).drew⟩|exact⟨J,E,C,D,Below.refl _ _⟩|exact K|exact L) (first|(go_at_call 104;refine(HL.out _ ?hbW).mono ?_;(case hbW=>first|with_reducible assumption|exact(MY _ _).drew|exact Below.refl _ _);rintro r w6 ⟨rfl,K⟩)|(go_at_call 105;refine(HT.out _ ?hbW).mono ?_;(case hbW=>first|with_reducible assumption|exact K.2.2.2.2|exact(Below.refl _ _).drew);rintro r T ⟨rfl,L⟩))
  all_goals
   have s:M6 _:=L.2.2.2.2;rename_i hHe;clear hHe K L;revert T;exact B.out
 intro T s;have HQ:M6 _:=s.out;clear s;go_wp2;go_ret;exact⟨rfl,Y.out.trans (HQ.out.mono Y.out.size)⟩
end
section
variable {base:Nat}{w w':MO}{g:Nat}{V:Vs}{U:Us}{G:Gt}
theorem aou(hb:MQ W.heap.size W w5)(v0 v1 v2 v3:M7)(T:NU):∃bx u3,bx=w5.heap.size/\u3=w5.alloc (MP #[v0,v1,v2,v3] T)/\M6 (MQ W.heap.size W u3):=
 ⟨_,_,rfl,rfl,hb.alloc hb.size _⟩
theorem aov(hb:MQ W.heap.size W w5)(v0 v1 v2 v3:M7):∃bx u3,bx=W.heap.size/\u3=(((w5.setCell ⟨W.heap.size,0,MH⟩ v0).setCell ⟨W.heap.size,1,MH⟩ v1).setCell ⟨W.heap.size,2,MH⟩ v2).setCell ⟨W.heap.size,3,MH⟩ v3/\M6 (MQ W.heap.size W u3):=
 ⟨_,_,rfl,rfl,(((hb.setCell (MV _) _).setCell (MV _) _).setCell (MV _) _).setCell (MV _) _⟩
theorem apK(hwm:Wm G){x:He}(hx:x∈G.hea):Ze G.cfg.wn G.cfg.wf G.cfg.wh x.marks x.out x.till x.times G.now=((x.marks,x.out,x.till,x.times),Nb,0):=by
 have a:=hwm.im.bs.now;refine arx hwm.im.bs.Gx (by omega) (hwm.im.bs.hea x hx) ?_;cases ho:x.out
 ·exact Nt rfl
 ·exact NF (hwm.out x hx ho)
theorem aoD(h:RG w g U G)(hwm:Wm G){m:Mk}{x:He}(hx:x∈G.hea)(hm:Yo w (MG m.1 x.marks.length m.2) x.marks)(hc:w.cell? ⟨b,0,MH⟩=MI (gP g)):
  Ni MK 106 #[abQ m.1 m.2 x,Na (MI ⟨b,0,MH⟩)] w fun r w'=>r=MN (M3 Nb)/\MQ w.heap.size w w':=by
 obtain⟨W,E⟩:∃W,W=w.alloc (MP #[MG m.1 x.marks.length m.2,M3 x.out,MF ME x.till,MF ME x.times] 195):=⟨_,rfl⟩;have f:MQ w.heap.size w W:=by rw[E];exact WQ w
 have i:W.heap[w.heap.size]?=MI (MP #[MG m.1 x.marks.length m.2,M3 x.out,MF ME x.till,MF ME x.times] 195):=by rw[E];exact M1 _ _
 have q:=h.below f;have A:=q.lt;have I:b<w.heap.size:=MX w ⟨b,0,MH⟩ hc;have S:b<W.heap.size:=M8 I f.size;have T:W.cell? ⟨b,0,MH⟩=MI (gP g):=(f.cell I).trans hc;have y0:W.cell? ⟨w.heap.size,0,MH⟩=MI (MG m.1 x.marks.length m.2):=by rw[MW W _ 0 _ _ (0,0) i];rfl
 have Y:W.cell? ⟨w.heap.size,1,MH⟩=MI (M3 x.out):=by rw[MW W _ 1 _ _ (0,0) i];rfl
 have y2:W.cell? ⟨w.heap.size,2,MH⟩=MI (MF ME x.till):=by rw[MW W _ 2 _ _ (0,0) i];rfl
 have y3:W.cell? ⟨w.heap.size,3,MH⟩=MI (MF ME x.times):=by rw[MW W _ 3 _ _ (0,0) i];rfl
 have y:w.heap.size<W.heap.size:=(ZAa.1 i).1;have M:=q.GS;have R:=q.GU;have L:=q.GO;have O:=q.Gm;have K:=apK hwm hx;have HB:M6 (∀X,MQ W.heap.size W X->Ni MK 107 #[Ny #[MF ME G.cfg.wn,MF ME G.cfg.wf,MF ME G.cfg.wh],abQ m.1 m.2 x,MF ME G.now] X fun r w'=>∃p c,r=MN (Nv #[abQ p c x,M3 Nb,MF ME 0])/\M6 (MQ W.heap.size W w')/\(∀n,n<X.heap.size->n<w'.heap.size)/\(∀b o,b<X.heap.size->w'.cell? ⟨b,o,MH⟩=X.cell? ⟨b,o,MH⟩)/\(∀b o,b<X.heap.size->w'.frozen? ⟨b,o,MH⟩=X.frozen? ⟨b,o,MH⟩)):=fun X hX=>by
  refine(alB G.cfg.wn G.cfg.wf G.cfg.wh (MG m.1 x.marks.length m.2) x.marks x.out x.till x.times G.now X (hm.below (f.trans (hX.mono f.size)))).mono ?_;rw[K];rintro r w' ⟨p,c,rfl,_,_,F⟩;exact⟨p,c,rfl,hX.trans (F.mono hX.size),fun n hn=>M8 hn F.size,fun b o hb'=>F.cell (p:=⟨b,o,MH⟩) hb',fun b o hb'=>OM (a:=⟨b,o,MH⟩) (F.block b hb')⟩
 have l:M6 (∀X,MQ W.heap.size W X->X.cell? ⟨b,0,MH⟩=MI (gP g)/\X.cell? ⟨g,13,MH⟩=MI (MF ME G.cfg.wn)/\X.cell? ⟨g,14,MH⟩=MI (MF ME G.cfg.wf)/\X.cell? ⟨g,15,MH⟩=MI (MF ME G.cfg.wh)/\X.cell? ⟨g,16,MH⟩=MI (MF ME G.now)/\X.cell? ⟨w.heap.size,0,MH⟩=MI (MG m.1 x.marks.length m.2)/\X.cell? ⟨w.heap.size,1,MH⟩=MI (M3 x.out)/\X.cell? ⟨w.heap.size,2,MH⟩=MI (MF ME x.till)/\X.cell? ⟨w.heap.size,3,MH⟩=MI (MF ME x.times)/\MQ W.heap.size W X):=fun X hX =>
  ⟨(hX.cell S).trans T,(hX.cell A).trans M,(hX.cell A).trans R,(hX.cell A).trans L,(hX.cell A).trans O,(hX.cell y).trans y0,(hX.cell y).trans Y,(hX.cell y).trans y2,(hX.cell y).trans y3,hX⟩
 have H:M6 _:=f;clear K f q h hwm hx hm hc i I;go_enter Ta,SG
 go_wp2_with fail
 rw[<-E];clear E;apply aan
 ·intro J
  go_region_held3 (fun X=>X.cell? ⟨b,0,MH⟩=MI (gP g)/\X.cell? ⟨g,13,MH⟩=MI (MF ME G.cfg.wn)/\X.cell? ⟨g,14,MH⟩=MI (MF ME G.cfg.wf)/\X.cell? ⟨g,15,MH⟩=MI (MF ME G.cfg.wh)/\X.cell? ⟨g,16,MH⟩=MI (MF ME G.now)/\X.cell? ⟨w.heap.size,0,MH⟩=MI (MG m.1 x.marks.length m.2)/\X.cell? ⟨w.heap.size,1,MH⟩=MI (M3 x.out)/\X.cell? ⟨w.heap.size,2,MH⟩=MI (MF ME x.till)/\X.cell? ⟨w.heap.size,3,MH⟩=MI (MF ME x.times)/\MQ W.heap.size W X) (first|exact l.out _ ((MY _ _).drew)|exact l.out _ (((MY _ _).drew).alloc (by simp) _)|exact l.out _ d.out|exact l.out _ (d.out.alloc d.out.size _)|exact l.out _ (((MY _ _).alloc (MV _) _).drew)|exact l.out _ ((((d.out.setCell (MV _) _).setCell (MV _) _).setCell (MV _) _).setCell (MV _) _)) (first|(go_at_call 107;refine(HB.out _ ?hbW).mono ?_;(case hbW=>first|with_reducible assumption|exact(MY _ _).drew|exact((MY _ _).drew).alloc (by simp) _|exact((Below.refl _ _).alloc (Nat.le_refl _) _).drew);rintro r w5 ⟨p,c,rfl,d,N,Q,P⟩))
  all_goals
   clear N Q P;rename_i hHe;clear hHe
   first
   | (obtain⟨B,C,s,u,D⟩:=aou d.out (MG p x.marks.length c) (M3 x.out) (MF ME x.till) (MF ME x.times) 195
      rw[<-u]
      try rw[<-s]
      clear u s d;revert p c B C;exact J.out)
   | (obtain⟨B,C,s,u,D⟩:=aov d.out (MG p x.marks.length c) (M3 x.out) (MF ME x.till) (MF ME x.times)
      rw[<-u]
      try rw[<-s]
      clear u s d;revert p c B C;exact J.out)
 intro p c B C D;have Z:M6 _:=D.out;clear D;go_wp2;go_ret;exact⟨rfl,H.out.trans (Z.out.mono H.out.size)⟩
theorem apn(v:M7)(l:List (Mk×He))(w:MO)(hv:Xw aa0 w v l)(f:Nat)(hcl:∀x∈l,∀W,MQ w.heap.size w W->Ni MK 106 #[abQ x.1.1 x.1.2 x.2,Na (MI ⟨f,0,MH⟩)] W fun r w'=>r=MN (M3 Nb)/\MQ W.heap.size W w') :
  Ni MK 154 #[v,PB (PD 106) #[] #[Na (MI ⟨f,0,MH⟩)]] w fun r w'=>r=MN (MF ME (-1))/\MQ w.heap.size w w':=by
 obtain⟨a,L,rfl,I,D,A⟩:=Xw.F6 aci hv;unfold NE at D;have H:M6 _:=hcl;clear hv hcl;go_enter UR,UE;go_wp2
 go_loopw [8] (fun i wr=>∃k:Nat,i=MF ME k/\k<=l.length/\MQ w.heap.size w wr) (fun i _=>l.length-(intOf i).toNat)
 case atStart=>exact⟨0,rfl,Nx _,MY _ _⟩
 case round =>
  obtain⟨k,rfl,P,d⟩:=hrel
  by_cases hlt:k<l.length
  ·obtain⟨s,u,rfl,o,m⟩:=A k hlt
   have J:(k:Int)<(l.length:Int):=by omega
   obtain⟨x,y⟩:∃x,x=l[k]:=⟨_,rfl⟩;have B:x∈l:=by rw[y];exact Nk hlt
   rw[<-y]at m;have N:=(d.cell (p:=⟨s,u+k*4,MH⟩) o).trans ((m 0 (by omega)).trans (rfl:_=MI (MG x.1.1 x.2.marks.length x.1.2)));have K:=(d.cell (p:=⟨s,u+k*4+1,MH⟩) o).trans ((m 1 (by omega)).trans (rfl:_=MI (M3 x.2.out)));have M:=(d.cell (p:=⟨s,u+k*4+2,MH⟩) o).trans ((m 2 (by omega)).trans (rfl:_=MI (MF ME x.2.till)));have Q:=(d.cell (p:=⟨s,u+k*4+3,MH⟩) o).trans ((m 3 (by omega)).trans (rfl:_=MI (MF ME x.2.times)));have q:M6 (_/\_):=⟨d,B⟩;clear d m o A y B
   go_wp2_with fail
   refine(H.out x q.out.2 _ q.out.1).mono ?_;rintro r O ⟨rfl,C⟩;have E:M6 _:=C;clear C;go_wp2
   go_roundw
   case rel=>exact⟨k+1,by simp,hlt,q.out.1.trans (E.out.mono q.out.1.size)⟩
   case measure=>simp[intOf];omega
  ·have F:M6 _:=d
   clear d A;go_wp2;go_ret;exact⟨rfl,F.out⟩
theorem aoS(v:M7)(l:List (Mk×He))(w:MO)(hv:Xw aa0 w v l)(f:Nat)(hcl:∀x∈l,∀W,MQ w.heap.size w W->Ni MK 106 #[abQ x.1.1 x.1.2 x.2,Na (MI ⟨f,0,MH⟩)] W fun r w'=>r=MN (M3 Nb)/\MQ W.heap.size W w') :
  Ni MK 108 #[v,PB (PD 106) #[] #[Na (MI ⟨f,0,MH⟩)]] w fun r w'=>r=MN (M3 Nb)/\MQ w.heap.size w w':=by
 have d:M6 _:=apn v l w hv f hcl;clear hv hcl;go_enter Tryz.func108,Tryz.ntmps108
 go_wp2_with fail
 refine Nd d.out ?_;rintro r m ⟨rfl,a⟩;have i:M6 _:=a;clear a;go_wp2;go_ret;exact⟨rfl,i.out⟩
theorem aph(h:RG w g U G)(hwm:Wm G):Ni MK 66 #[gP g] w fun r w'=>r=MN (M3 Nw)/\MQ w.heap.size w w':=by
 obtain⟨W,a⟩:∃W,W=w.alloc (MP #[gP g] 143):=⟨_,rfl⟩;have f:MQ w.heap.size w W:=by rw[a];exact WQ w
 have l:=h.below f;have A:W.cell? ⟨w.heap.size,0,MH⟩=MI (gP g):=by rw[a];exact Xu (M1 _ _)
 have o:w.heap.size<W.heap.size:=by rw[a];simp
 have m:∀x∈U.ms.zip G.hea,∀X,MQ W.heap.size W X->Ni MK 106 #[abQ x.1.1 x.1.2 x.2,Na (MI ⟨w.heap.size,0,MH⟩)] X fun r w'=>r=MN (M3 Nb)/\MQ X.heap.size X w':=by
  intro x C X y;obtain⟨i,hi,e⟩:=NV C;have B:U.ms[i]?=MI x.1:=by rw[<-e,Qf];exact MR _
  have u:G.hea[i]?=MI x.2:=by rw[<-e,Qf];exact MR _
  have q:=l.below y;exact aoD q hwm (Nu u) (q.wat.marks i x.1 x.2 B u) ((y.cell o).trans A)
 have d:M6 (_/\_):=⟨aoS (MG U.ph 12 U.ch) (U.ms.zip G.hea) W l.wat.hea w.heap.size m,f⟩;have E:=h.GI;have F:=h.lt;clear l h A f m o hwm;go_enter RF,Ro
 go_wp2_with fail
 rw[<-a];refine Nd d.out.1 ?_;rintro r H ⟨rfl,s⟩;have D:M6 _:=d.out.2.trans (s.mono d.out.2.size);clear s;go_wp2;go_ret;exact⟨rfl,D.out⟩
end
section
variable {base:Nat}{w w':MO}{g:Nat}{V:Vs}{U:Us}{G:Gt}
theorem ao2(h:RG w g U G)(f:Fl)(hr:0<=f.ret/\f.ret<=G.cfg.ret)(hd:G.now+1<=f.due/\f.due<=G.now+500)(hnow:0<=G.now/\G.now<=1099511626776)(hst:WY G.liv f.be=2\/WY G.liv f.be=3) :
  Ni MK 109 #[gP g,ZS f,MF ME f.slot,Ny #[MF ME f.gen,M3 Nw,MF ME f.key,MF ME f.be]] w fun r w'=>r=MN (M3 Nw)/\MQ w.heap.size w w':=by
 obtain⟨W,y⟩:∃W,W=(w.alloc (MP #[MF ME f.slot,MF ME f.gen,MF ME f.key,MF ME f.be,M3 f.srv,MF ME f.ret,MF ME f.due] 72)).alloc (MP #[MF ME f.gen,M3 Nw,MF ME f.key,MF ME f.be] 182):=⟨_,rfl⟩;have L:=acu w (MP #[MF ME f.slot,MF ME f.gen,MF ME f.key,MF ME f.be,M3 f.srv,MF ME f.ret,MF ME f.due] 72) (MP #[MF ME f.gen,M3 Nw,MF ME f.key,MF ME f.be] 182);rw[<-y]at L;obtain⟨d,i,u,O⟩:=L;clear O;have A:=h.below u;obtain⟨x,q⟩:∃x,x=WS G.liv f.be:=⟨_,rfl⟩;have J:M6 _:=apU A f.be;rw[<-q]at J;have B:x.2.1=2\/x.2.1=3:=by rw[q];exact hst
 have N:∀X:MO,(Instr.field 186 (abR x) 1).run MK X=.ok (MF ME x.2.1) X:=fun X=>by kernel_rfl
 have P:W.cell? ⟨w.heap.size,3,MH⟩=MI (MF ME f.be):=by rw[MW W _ 3 _ _ (0,0) d];rfl
 have F:w.heap.size<W.heap.size:=(ZAa.1 d).1;have E:w.heap.size+1<W.heap.size:=(ZAa.1 i).1;have H:M6 (_/\_/\_/\_):=⟨u,A,d,i⟩;have C:M6 (∀X:MO,Ni MK 50 #[MF ME f.ret,MF ME 0,MF ME G.cfg.ret] X fun r w'=>r=MN (M3 Nw)/\w'=X):=fun X=>by
  have:=abW f.ret 0 G.cfg.ret X;rwa[Nq hr]at this
 have I:IntKind.i64.wrap (G.now+1)=G.now+1:=by rw[Ow];omega
 have D:IntKind.i64.wrap (G.now+500)=G.now+500:=by rw[Ow];omega
 have o:M6 (∀X:MO,Ni MK 50 #[MF ME f.due,MF ME (G.now+1),MF ME (G.now+500)] X fun r w'=>r=MN (M3 Nw)/\w'=X):=fun X=>by
  have:=abW f.due (G.now+1) (G.now+500) X;rwa[Nq hd]at this
 clear h u A d i q hst hr hd hnow;go_enter Tryz.func109,Tryz.ntmps109
 go_wp2_with fail
 rw[<-y];clear y;refine Nd J.out ?_;rintro r a ⟨rfl,l⟩;have m:=H.out.2.1.below l;have d:=WO H.out.2.2.1 l;have i:=WO H.out.2.2.2 l;have y0:a.cell? ⟨w.heap.size,0,MH⟩=MI (MF ME f.slot):=by rw[MW a _ 0 _ _ (0,0) d];rfl
 have y1:a.cell? ⟨w.heap.size,1,MH⟩=MI (MF ME f.gen):=by rw[MW a _ 1 _ _ (0,0) d];rfl
 have y2:a.cell? ⟨w.heap.size,2,MH⟩=MI (MF ME f.key):=by rw[MW a _ 2 _ _ (0,0) d];rfl
 have y3:a.cell? ⟨w.heap.size,3,MH⟩=MI (MF ME f.be):=by rw[MW a _ 3 _ _ (0,0) d];rfl
 have y5:a.cell? ⟨w.heap.size,5,MH⟩=MI (MF ME f.ret):=by rw[MW a _ 5 _ _ (0,0) d];rfl
 have y6:a.cell? ⟨w.heap.size,6,MH⟩=MI (MF ME f.due):=by rw[MW a _ 6 _ _ (0,0) d];rfl
 have Y:a.cell? ⟨w.heap.size+1,0,MH⟩=MI (MF ME f.gen):=by rw[MW a _ 0 _ _ (0,0) i];rfl
 have Z:a.cell? ⟨w.heap.size+1,2,MH⟩=MI (MF ME f.key):=by rw[MW a _ 2 _ _ (0,0) i];rfl
 have z3:a.cell? ⟨w.heap.size+1,3,MH⟩=MI (MF ME f.be):=by rw[MW a _ 3 _ _ (0,0) i];rfl
 have e8:=m.c8;have Q:=m.Gm;have T:=m.lt;have R:w.heap.size<a.heap.size:=M8 F l.size;have S:w.heap.size+1<a.heap.size:=M8 E l.size;have M:M6 _:=H.out.1.trans (l.mono H.out.1.size);clear l m d i P F E;obtain⟨s,K⟩:∃s,s=x.2.1:=⟨_,rfl⟩;rw[<-K]at B N;clear K;rcases B with rfl|rfl
 ·go_wp2_with fail
  go_quiet (first|(go_at_call_of 50 (MF ME f.ret);exact Qe ((C.out _).mono fun r w' h=>⟨h.1,0,h.2⟩))|(go_at_call_of 50 (MF ME f.due);rw[I,D];exact Calls.quiet_of ((o.out _).mono fun r w' h=>⟨h.1,0,h.2⟩))|(go_at_call_of 50 (MF ME f.due);exact Qe ((o.out _).mono fun r w' h=>⟨h.1,0,h.2⟩)))
  go_wp2;go_ret;exact⟨rfl,ZE M.out _⟩
 ·go_wp2_with fail
  go_quiet (first|(go_at_call_of 50 (MF ME f.ret);exact Qe ((C.out _).mono fun r w' h=>⟨h.1,0,h.2⟩))|(go_at_call_of 50 (MF ME f.due);rw[I,D];exact Calls.quiet_of ((o.out _).mono fun r w' h=>⟨h.1,0,h.2⟩))|(go_at_call_of 50 (MF ME f.due);exact Qe ((o.out _).mono fun r w' h=>⟨h.1,0,h.2⟩)))
  go_wp2;go_ret;exact⟨rfl,ZE M.out _⟩
theorem aqm{p:Option Oc}{c n:Nat}{f:Fl}{L:List Fl}(hn:n=L.length)(h:ZR w (MG p (n+1) c) (f::L)) :
  ∃p2 c2,(∀W:MO,(Instr.sliceAt 40 (MG p (n+1) c) (MI (MF ME 1)) MH MH).run MK W=.ok (MG p2 n c2) W)/\ZR w (MG p2 n c2) L:=by
 subst hn;obtain⟨a,r,x,l,F,A⟩:=h;have l:L.length+1<=r:=l;injection x with e1 e2 e3;subst e1 e3;have d:MK.underlying 40=MI (.slice (MK.elem 40)):=by kernel_rfl
 obtain⟨H,hi,B,q,E⟩:=OF ad0;have o:∀W:MO,(sizeOf (MK.elem 40)).run MK W=.ok 7 W:=fun W=>by
  rw[show MK.elem 40=72 by kernel_rfl];simp[sizeOf,typeInfo,hi,q]
 refine⟨if c=1 then p else p.map (·.add (1*7)),c-1,fun W=>?_,?_⟩
 ·rw[run_sliceAt_slice _ _ _ _ _ _ d]
  rw[run_slice_l _ _ _ _ _ d _ _ (by omega) (by omega),o];simp[Result.andThen,sliced]
 ·refine⟨_,_,rfl,by omega,by unfold NE at *;omega,?_⟩
  by_cases h0:L.length=0
  ·exact Nt ⟨h0,by rw[ZAc.1 h0];rfl⟩
  ·rcases A with⟨s,_⟩|⟨b,off,rfl,y,m⟩
   ·exact absurd s (by simp)
   ·refine NF ⟨b,off+1*7,by rw[Nf (by omega)];simp[Addr.add],y,fun i hi'=>?_⟩
    have C:=abx XL L;have D:i<(rv WX L).length:=hi';have u:=m (1*7+i) (by
     show 1*7+i<(WX f++rv WX L).length;rw[Ns,XL];omega)
    rw[Nat.add_assoc,u];show(WX f++rv WX L)[1*7+i]?=_;rw[Tw (by rw[XL];omega),XL,Nat.one_mul,Nat.add_sub_cancel_left]
theorem aqx{k:Nat}(hk:k<G.tab.length):Xx k (G.tab.drop k)=if G.tab[k].2.1=Nw then((k:Int),G.tab[k].1,G.tab[k].2.2.1,G.tab[k].2.2.2)::Xx ((k+1:Nat):Int) (G.tab.drop (k+1))else Xx ((k+1:Nat):Int) (G.tab.drop (k+1)):=by
 rw[(Pp hk).symm];show(if G.tab[k].2.1=Nw then _ else _)=_;rw[show((k:Int)+1)=((k+1:Nat):Int)by push_cast;rfl]
theorem aq8{P:O8}{w:MO}{ops:Array Oper}{rest:List Oper}{o:Oper}{a:Act}{Q:Exit->Act->MO->Prop}(hgd:o.guard=MH)(T:NU)(x:Operand)(lo hi mx:Option Operand)
  (ho:o.op=.slice T x lo hi mx) (y:M7) (hr:(Instr.sliceAt T (a.eval x) (lo.map a.eval) (hi.map a.eval) (mx.map a.eval)).run P w=.ok y w)
  (h:wpList P ops Q rest (a.put o.dst y) w):wpList P ops Q (o::rest) a w :=
 wpList_plain hgd fun _ hK=>by
  unfold RB execOp;simp only[ho,Pn,P3,PG,hr];exact hK _ _ h
theorem ao3(h:RG w g U G)(hwm:Wm G):Ni MK 67 #[gP g] w fun r w'=>r=MN (M3 Nw)/\MQ w.heap.size w w':=by
 have d7:=h.Gs;have g0:=h.Gr;have g4:=h.lt;have b5:=h.wat.fls;have a6:=hwm.im.bs.seats;obtain⟨al,f7,d6,f6,d3,b4⟩:=Yy.F6 h.wat.tab;injection d6 with el1 eln el3;unfold NE at d3;rw[el1,el3]at d7;clear el1 el3 eln;have H:M6 (_/\_/\_/\_/\_):=⟨h,hwm,b4,b5,a6⟩;clear h hwm b4 b5 a6
 go_enter Ra,QU;go_wp2
 go_loopw [3,18] (fun v i wr=>∃(k:Nat) (L:List Fl) (p:Option Oc) (c:Nat),i=MF ME (k:Int)/\v=MG p L.length c/\k<=G.tab.length/\M6 (ZR w (MG p L.length c) L/\L.map Fl.F8=Xx k (G.tab.drop k)/\(∀f∈L,f∈G.fls)/\MQ w.heap.size w wr)) (fun _ i _=>G.tab.length-(intOf i).toNat)
 case atStart=>exact⟨0,G.fls,U.pf,U.cf,rfl,rfl,Nx _,H.out.2.2.2.1,by rw[List.drop_zero];exact H.out.2.2.2.2,fun f hf=>hf,MY _ _⟩
 case round =>
  obtain⟨k,L,p,c,rfl,rfl,hk,q⟩:=hrel;obtain⟨W,hW⟩:∃W,W=wr:=⟨_,rfl⟩;subst hW
  by_cases hlt:k<G.tab.length
  ·have d4:(k:Int)<(G.tab.length:Int):=by omega
   obtain⟨F,T,d5,B,z0,z1,z2,z3⟩:=H.out.2.2.1 k hlt;obtain⟨⟨Q,O,R,S⟩,b6⟩:∃x,x=G.tab[k]:=⟨_,rfl⟩;have Z:=aqx (G:=G) hlt;rw[<-b6]at z0 z1 z2 z3 Z;have u:=q.out.2.2.2;have e0:=(u.cell (p:=⟨F,T+k*4,MH⟩) B).trans z0;have e1:=(u.cell (p:=⟨F,T+k*4+1,MH⟩) B).trans z1;have e2:=(u.cell (p:=⟨F,T+k*4+2,MH⟩) B).trans z2;have e3:=(u.cell (p:=⟨F,T+k*4+3,MH⟩) B).trans z3;have a8:F<W.heap.size:=M8 B u.size;obtain⟨l,C⟩:∃l,l=W.alloc (MP #[MF ME Q,M3 O,MF ME R,MF ME S] 182):=⟨_,rfl⟩;have b8:MQ W.heap.size W l:=by rw[C];exact WQ W
   have A:l.heap[W.heap.size]?=MI (MP #[MF ME Q,M3 O,MF ME R,MF ME S] 182):=by rw[C];exact M1 _ _
   have y0:l.cell? ⟨W.heap.size,0,MH⟩=MI (MF ME Q):=by rw[MW l _ 0 _ _ (0,0) A];rfl
   have y1:l.cell? ⟨W.heap.size,1,MH⟩=MI (M3 O):=by rw[MW l _ 1 _ _ (0,0) A];rfl
   have y2:l.cell? ⟨W.heap.size,2,MH⟩=MI (MF ME R):=by rw[MW l _ 2 _ _ (0,0) A];rfl
   have y3:l.cell? ⟨W.heap.size,3,MH⟩=MI (MF ME S):=by rw[MW l _ 3 _ _ (0,0) A];rfl
   have M:W.heap.size<l.heap.size:=(ZAa.1 A).1;have m:M6 (_/\_):=⟨u.trans (b8.mono u.size),Z⟩;clear b8 A b6 z0 z1 z2 z3 B u Z;subst d5;cases O
   ·go_wp2_with fail
    rw[<-C];clear C e0 e1 e2 e3 a8;go_wp2
    go_roundw
    case rel=>exact⟨k+1,L,p,c,by go_num,rfl,hlt,q.out.1,by rw[q.out.2.1,m.out.2,Nf (by show ¬Nb=Nw;decide)],q.out.2.2.1,m.out.1⟩
    case measure=>simp[intOf];omega
   ·have J:=q.out.2.1
    rw[m.out.2,Nh rfl]at J;cases L with
    |nil=>exact absurd J (by simp)
    |cons f L' =>
     rw[OA]at J;obtain⟨E,d1⟩:=List.cons.inj J;clear J;have E:f.F8=((k:Int),Q,R,S):=E;unfold Fl.F8 at E;simp only[Q7]at E;obtain⟨q1,rfl,rfl,rfl⟩:=E;obtain⟨n,P⟩:∃n,n=L'.length:=⟨_,rfl⟩;have N:(f::L').length=n+1:=by rw[Ox,P]
     have a0:ZR w (MG p (n+1) c) (f::L'):=by rw[<-N];exact q.out.1
     obtain⟨p2,c2,b9,b7⟩:=aqm P a0;obtain⟨a2,g1,d9,Y,a7,d2⟩:=ZR.F6 a0;injection d9 with ev1 ev2 ev3;obtain⟨a,d,b3,s,t0,t1,t2,t3,t4,t5,t6⟩:=d2 0 (by simp);simp only[Nat.zero_mul,Oe,MS]at t0 t1 t2 t3 t4 t5 t6;rw[b3]at ev1;subst ev1;have f8:n+1<=c:=by rw[ev3];rw[N]at Y;exact Y
     have g3:c<=9223372036854775807:=by rw[ev3];exact a7
     have D:f∈G.fls:=q.out.2.2.1 f NM;have a9:=H.out.1.below m.out.1;have y:a<l.heap.size:=M8 s m.out.1.size;have v0:=(m.out.1.cell (p:=⟨a,d,MH⟩) s).trans t0;have v1:=(m.out.1.cell (p:=⟨a,d+1,MH⟩) s).trans t1;have v2:=(m.out.1.cell (p:=⟨a,d+2,MH⟩) s).trans t2;have v3:=(m.out.1.cell (p:=⟨a,d+3,MH⟩) s).trans t3;have v4:=(m.out.1.cell (p:=⟨a,d+4,MH⟩) s).trans t4;have v5:=(m.out.1.cell (p:=⟨a,d+5,MH⟩) s).trans t5;have v6:=(m.out.1.cell (p:=⟨a,d+6,MH⟩) s).trans t6;have HF:M6 (∀X,MQ l.heap.size l X->Ni MK 109 #[gP g,ZS f,MF ME (k:Int),Ny #[MF ME f.gen,M3 Nw,MF ME f.key,MF ME f.be]] X fun r w'=>r=MN (M3 Nw)/\(w'.cell? ⟨a,d,MH⟩=MI (MF ME f.slot)/\w'.cell? ⟨a,d+1,MH⟩=MI (MF ME f.gen)/\w'.cell? ⟨a,d+2,MH⟩=MI (MF ME f.key)/\w'.cell? ⟨a,d+3,MH⟩=MI (MF ME f.be)/\w'.cell? ⟨a,d+4,MH⟩=MI (M3 f.srv)/\w'.cell? ⟨a,d+5,MH⟩=MI (MF ME f.ret)/\w'.cell? ⟨a,d+6,MH⟩=MI (MF ME f.due)/\w'.cell? ⟨W.heap.size,0,MH⟩=MI (MF ME f.gen)/\w'.cell? ⟨W.heap.size,1,MH⟩=MI (M3 Nw)/\w'.cell? ⟨W.heap.size,2,MH⟩=MI (MF ME f.key)/\w'.cell? ⟨W.heap.size,3,MH⟩=MI (MF ME f.be))/\M6 (MQ l.heap.size l w')):=fun X hX=>by
      have f9:=H.out.2.1.due f D;have e9:=H.out.2.1.im.hi f D;rw[<-q1];refine(ao2 (a9.below hX) f (H.out.2.1.im.bs.rets f D) ⟨by omega,e9⟩ H.out.2.1.im.bs.now (H.out.2.1.im.be f D)).mono ?_;rintro r w' ⟨rfl,hb⟩;have o:=hX.trans (hb.mono hX.size);exact⟨rfl,⟨(o.cell y).trans v0,(o.cell y).trans v1,(o.cell y).trans v2,(o.cell y).trans v3,(o.cell y).trans v4,(o.cell y).trans v5,(o.cell y).trans v6,(o.cell M).trans y0,(o.cell M).trans y1,(o.cell M).trans y2,(o.cell M).trans y3⟩,o⟩
     have g2:(((n+1:Nat):Int) == 0)=false:=beq_eq_false_iff_ne.2 (by omega);have I:M6 (_/\_/\_/\_):=⟨b9,b7,d1,P⟩;rw[N];clear b9 b7 d1 a0 d2 ev2 ev3 b3 t0 t1 t2 t3 t4 t5 t6 a9 D P N Y a7 q1 s
     go_wp2_with fail
     rw[<-C];clear C e0 e1 e2 e3 a8
     go_wp2_with fail
     apply aan
     ·intro d8
      go_region_held3 (fun X=>X.cell? ⟨a,d,MH⟩=MI (MF ME f.slot)/\X.cell? ⟨a,d+1,MH⟩=MI (MF ME f.gen)/\X.cell? ⟨a,d+2,MH⟩=MI (MF ME f.key)/\X.cell? ⟨a,d+3,MH⟩=MI (MF ME f.be)/\X.cell? ⟨a,d+4,MH⟩=MI (M3 f.srv)/\X.cell? ⟨a,d+5,MH⟩=MI (MF ME f.ret)/\X.cell? ⟨a,d+6,MH⟩=MI (MF ME f.due)/\X.cell? ⟨W.heap.size,0,MH⟩=MI (MF ME f.gen)/\X.cell? ⟨W.heap.size,1,MH⟩=MI (M3 Nw)/\X.cell? ⟨W.heap.size,2,MH⟩=MI (MF ME f.key)/\X.cell? ⟨W.heap.size,3,MH⟩=MI (MF ME f.be)) (first|exact⟨v0,v1,v2,v3,v4,v5,v6,y0,y1,y2,y3⟩|exact d0) (first|(go_at_call 109;refine(HF.out _ (by first|exact(MY _ _).drew|exact Below.refl _ _)).mono ?_;rintro r w3 ⟨rfl,d0,hQ⟩))
      all_goals
       rename_i hHe;clear hHe d0;revert w3;exact d8.out
     intro w3 hQ;have HQ:M6 _:=hQ.out;clear hQ
     go_wp2_with ((with_reducible refine aq8 rfl 40 (O6 39) (MI (.const (MF ME 1))) MH MH rfl (MG p2 n c2) ?hr ?_);(case hr=>exact I.out.1 _))
     go_wp2
     go_roundw
     case rel=>exact⟨k+1,L',p2,c2,by go_num,by rw[I.out.2.2.2],hlt,by rw[<-I.out.2.2.2];exact I.out.2.1,I.out.2.2.1,fun x hx=>q.out.2.2.1 x (NB _ hx),m.out.1.trans (HQ.out.mono m.out.1.size)⟩
     case measure=>simp[intOf];omega
  ·obtain rfl:k=G.tab.length:=by omega
   have d4:¬(G.tab.length:Int)<(G.tab.length:Int):=by omega
   have K:=q.out.2.1;rw[List.drop_length]at K;have K:L=[]:=List.map_eq_nil_iff.1 K;subst K;go_wp2;go_ret;exact⟨rfl,q.out.2.2.2⟩
end
section
variable {base:Nat}{w w':MO}{g:Nat}{V:Vs}{U:Us}{G:Gt}
theorem akH{L:List awV}{l:awV}(b:Int)(hl:∀x∈L,x.1<l.1):WS (L++[l]) b=if b=l.1 then l else WS L b:=by
 split
 ·rename_i h
  subst h;unfold WS;rw[Tf,List.find?_eq_none.2 (fun x a=>by have:=hl x a;simp;omega)];simp
 ·rename_i h
  unfold WS;rw[Tf];have:[l].find? (fun x=>x.1 == b)=none:=by rw[List.find?_eq_none];intro x a;rw[PY]at a;subst a;simp;exact fun e=>h e.symm
  rw[this,Option.or_none]
theorem afY{L:List awV}(hr:Zq L){j:Nat}(hj:j<L.length):∀x∈L.take j,x.1<L[j].1:=by
 intro x f;have h:L=L.take j++(L[j]::L.drop (j+1)):=by rw[Pp hj,Oo]
 have d:(L.take j++(L[j]::L.drop (j+1))).Pairwise (fun a b=>a.1<b.1):=by rw[<-h];exact hr
 exact(List.pairwise_append.1 d).2.2 x f L[j] NM
theorem apT(h:Bs G){l:awV}(hl:l∈G.liv):(0<=l.1/\l.1<=11)/\(1<=l.2.2.1/\l.2.2.1<=8):=
 ⟨(h.book.1.2.1 l hl).1.1,(h.book.1.2.1 l hl).1.2.1⟩
def aap(G:Gt)(j:Nat):List Int:=(Pm 12).map fun b:Nat=>if WY (G.liv.take j) (b:Int)=2 then 0 else 4*G.wts.getD b 0
theorem acj(j:Nat):(aap G j).length=12:=by simp[aap]
theorem afP(j:Nat)(hb:b<12):(aap G j)[b]'(by rw[acj];exact hb)=if WY (G.liv.take j) b=2 then 0 else 4*G.wts.getD b 0:=by
 simp[aap]
theorem apS(h:Bs G):aap G 0=Z5 (WW G.wts):=by
 unfold aap Z5;apply PU;intro b a;have a:=List.mem_range.1 a;rw[Nf (by show ¬(0:Int)=2;decide),agx _ _ a];have:=h.wts.low b;unfold wt;omega
theorem apP(h:Im G):aap G G.liv.length=Nj 12 0:=by
 unfold aap;rw[NT];have:∀b∈Pm 12,(if WY G.liv ((b:Nat):Int)=2 then(0:Int)else 4*G.wts.getD b 0)=0:=by
  intro b a;have a:=List.mem_range.1 a
  split
  ·rfl
  ·rename_i hn
   rw[h.ring b a,Nf hn];rfl
 rw[PU this];rfl
theorem apR(hr:Zq G.liv){j:Nat}(hj:j<G.liv.length)(hs:¬G.liv[j].2.1=2):aap G (j+1)=aap G j:=by
 unfold aap;apply PU;intro b f;have a:∀c:Int,WY (G.liv.take (j+1)) c=if c=G.liv[j].1 then G.liv[j].2.1 else WY (G.liv.take j) c:=fun c=>by
  show(WS _ _).2.1=_;rw[M9 hj,akH c (afY hr hj)]
  split <;> rfl
 rw[a]
 by_cases e:(b:Int)=G.liv[j].1
 ·have d:¬WY (G.liv.take j) (b:Int)=2:=by
   show ¬(WS _ _).2.1=2;rw[ahv fun x hx=>by have:=afY hr hj x hx;omega]
   decide
  rw[Nh e,Nf hs,Nf d]
 ·rw[Nf e]
theorem apQ(h:Im G){j:Nat}(hj:j<G.liv.length)(hb:b<12)(hbe:G.liv[j].1=(b:Int))(hs:G.liv[j].2.1=2):
  (aap G j)[b]'(by rw[acj];exact hb)=G.liv[j].2.2.1*4/\aap G (j+1)=(aap G j).set b 0:=by
 have a:Zq G.liv:=h.bs.Gv;have f:∀c:Int,WY (G.liv.take (j+1)) c=if c=G.liv[j].1 then G.liv[j].2.1 else WY (G.liv.take j) c:=fun c=>by
  show(WS _ _).2.1=_;rw[M9 hj,akH c (afY a hj)]
  split <;> rfl
 have d:WS G.liv (b:Int)=G.liv[j]:=by rw[<-hbe];exact abd a (Nk hj)
 have i:WY G.liv (b:Int)=2:=by show(WS _ _).2.1=2;rw[d];exact hs
 have l:¬WY (G.liv.take j) (b:Int)=2:=by
  show ¬(WS _ _).2.1=2;rw[ahv fun x hx=>by have:=afY a hj x hx;omega]
  decide
 refine⟨?_,?_⟩
 ·rw[afP j hb,Nf l,h.ring b hb,Nh i,d]
  omega
 ·apply Ot
  intro c
  by_cases hc:c<12
  ·by_cases e:c=b
   ·subst e
    rw[N7 (by rw[acj];exact hc),MR (by rw[acj];exact hc),afP (j+1) hc,f,Nh hbe.symm,Nh hs]
   ·rw[N3 (Pi e),MR (by rw[acj];exact hc),MR (by rw[acj];exact hc),afP (j+1) hc,afP j hc,f,Nf (show ¬(c:Int)=G.liv[j].1 by rw[hbe];omega)]
  ·rw[Nz (by rw[acj];omega),Nz (by rw[NA,acj];omega)]
theorem alu:(#[MF ME 0,MF ME 0,MF ME 0,MF ME 0,MF ME 0,MF ME 0,MF ME 0,MF ME 0,MF ME 0,MF ME 0,MF ME 0,MF ME 0]:Array M7)=(WR (Nj 12 0)).toArray:=rfl
theorem aps:(MK.info? 232).map (·.size)=MI 12:=by kernel_rfl
theorem aoY(W:MO):(binOp .eql 232 (Ny #[MF ME 0,MF ME 0,MF ME 0,MF ME 0,MF ME 0,MF ME 0,MF ME 0,MF ME 0,MF ME 0,MF ME 0,MF ME 0,MF ME 0]) (Ny #[MF ME 0,MF ME 0,MF ME 0,MF ME 0,MF ME 0,MF ME 0,MF ME 0,MF ME 0,MF ME 0,MF ME 0,MF ME 0,MF ME 0])).run MK W=.ok (M3 Nw) W:=by kernel_rfl
theorem aqs(h:RG w g U G)(hwm:Wm G):Ni MK 69 #[gP g] w fun r w'=>r=MN (M3 Nw)/\MQ w.heap.size w w':=by
 have d4:=h.GX;have l7:=h.lt;have b6:=afi hwm.im.bs.wts;have HR:M6 _:=atr (MG U.ps (WW G.wts).length U.cs) (WW G.wts) w h.wat.ring;have a6:=apS hwm.im.bs;obtain⟨l,hl⟩:∃l,l=WW G.wts:=⟨_,rfl⟩;have i2:l.length<=384:=by rw[hl];exact aiU hwm.im.bs.wts
 have a9:=h.wat.ring;rw[<-hl]at d4 HR b6 a6 a9;obtain⟨al,i4,g3,g8,f6,d3⟩:=a9.F6;injection g3 with el1 eln el3;obtain⟨av,i7,g4,g9,e9,d6⟩:=adt.F6 h.wat.book.1;injection g4 with ev1 evn ev3;unfold NE at f6 e9;have H:M6 (_/\_/\_/\_/\_/\_/\_):=⟨h,hwm,b6,a6,d3,d6,hl⟩;have J:M6 (_/\_/\_/\_):=⟨el1,el3,ev1,ev3⟩;clear h hwm b6 a6 d3 d6 hl a9 el1 eln el3 ev1 evn ev3;go_enter Si,R0
 go_wp2_with fail
 refine Nd HR.out ?_;rintro r L ⟨e,rfl,he,_,f⟩;obtain rfl:e=0:=he H.out.2.2.1;have b7:=(H.out.1.below f).GX;have a8:=(H.out.1.below f).Gn;have a0:=(H.out.1.below f).lt;rw[<-H.out.2.2.2.2.2.2,J.out.1,J.out.2.1]at b7;rw[J.out.2.2.1,J.out.2.2.2]at a8;obtain⟨A,hA⟩:∃A,A=L.heap.size:=⟨_,rfl⟩;obtain⟨F,Q⟩:∃F,F=L.alloc (MP (WR (Nj 12 0)).toArray 232):=⟨_,rfl⟩;have P:MQ L.heap.size L F:=by rw[Q];exact WQ L
 have d5:Xj 232 12 F A (Nj 12 0):=by rw[hA,Q];exact⟨M1 _ _,by simp⟩
 have g5:=(P.cell (p:=⟨g,21,MH⟩) a0).trans b7;have d9:g<F.heap.size:=M8 a0 P.size;have d2:MQ w.heap.size w F:=f.trans (P.mono f.size);have g2:w.heap.size<=A:=by rw[hA];exact f.size
 have H1:M6 (_/\_/\_/\_):=⟨d2,d5,g2,a8⟩;clear f he a8 P d5 d2 g5 d9
 go_wp2_with fail
 rw[alu,<-Q,<-hA];clear Q hA d4 b7 a0
 go_loopw [22] (fun t wr=>∃k:Nat,t=MF ME (k:Int)/\k<=l.length/\M6 (MQ w.heap.size w wr/\Xj 232 12 wr A (Z5 (l.take k)))) (fun t _=>l.length-(intOf t).toNat)
 case atStart=>exact⟨0,rfl,Nx _,H1.out.1,by rw[List.take_zero];exact H1.out.2.1⟩
 case round =>
  obtain⟨k,rfl,hk,u⟩:=hrel;obtain⟨W,hW⟩:∃W,W=wr:=⟨_,rfl⟩;subst hW
  by_cases hlt:k<l.length
  ·have b3:(k:Int)<(l.length:Int):=by omega
   obtain⟨b0,off,R,Y,c1,c2⟩:=H.out.2.2.2.2.1 k hlt;have a:=u.out.1;have e1:=(a.cell (p:=⟨b0,off+k*2,MH⟩) Y).trans c1;have e2:=(a.cell (p:=⟨b0,off+k*2+1,MH⟩) Y).trans c2;have i5:b0<W.heap.size:=M8 Y a.size;obtain⟨M,b4⟩:∃M,M=l[k].1:=⟨_,rfl⟩;obtain⟨td,T⟩:∃td,td=l[k].2:=⟨_,rfl⟩;rw[<-b4]at e1;rw[<-T]at e2;have S:l.take (k+1)=l.take k++[(M,td)]:=by rw[M9 hlt,b4,T]
   have a7:=aiQ H.out.2.2.1 l[k] (Nk hlt);rw[<-T]at a7;obtain⟨b,rfl⟩:=NL a7.1;have s:b<12:=by omega
   have f9:(b:Int)<12:=by omega
   obtain⟨d,m⟩:∃d,d=W.alloc (MP #[MF ME M,MF ME (b:Int)] 192):=⟨_,rfl⟩;have E:MQ W.heap.size W d:=by rw[m];exact WQ W
   have y:d.heap[W.heap.size]?=MI (MP #[MF ME M,MF ME (b:Int)] 192):=by rw[m];exact M1 _ _
   have q:=u.out.2.below E;have g6:=u.out.2.lt;have D:=u.out.2.F7 b (by rw[abI];exact s);have f7:=u.out.2.Gu b;have d0:(Z5 (l.take k))[b]'(by rw[abI];exact s)=((XX (l.take k) b:Nat):Int):=by
    have:=aiD (l.take k) b s;rwa[NK,MR (by rw[abI];exact s)]at this
   rw[d0]at D;have g0:XX (l.take k) b<=k:=Nm (aiF _ _) (by rw[NH];omega);obtain⟨x,N⟩:∃x,x=XX (l.take k) b:=⟨_,rfl⟩;rw[<-N]at D g0;have HQ:M6 (_/\_):=⟨N,S⟩;clear q N d0 a7 E y S b4 T c1 c2 a Y m;subst R;go_wp2
   go_roundw
   case rel =>
    obtain⟨N,S⟩:=HQ.out;have hq:=(u.out.1.setCell (p:=⟨A,b,MH⟩) H1.out.2.2.1 (MF ME ((x:Int)+1)));refine⟨k+1,by go_num,hlt,hq.alloc hq.size _,?_⟩;rw[S,amF _ _ b s rfl,<-N];exact(u.out.2.F4 b _).below (WQ _)
   case measure=>simp[intOf];omega
  ·obtain rfl:k=l.length:=by omega
   have b3:¬(l.length:Int)<(l.length:Int):=by omega
   obtain⟨a,B⟩:=u.out;rw[NT,<-H.out.2.2.2.1]at B;have g1:=(H.out.1.below a).Gn;rw[J.out.2.2.1,J.out.2.2.2]at g1;have i1:=(H.out.1.below a).lt;have H2:M6 (_/\_):=⟨a,B⟩;clear a B;go_wp2
   go_loopw [40] (fun t wr=>∃k:Nat,t=MF ME (k:Int)/\k<=G.liv.length/\M6 (MQ w.heap.size w wr/\Xj 232 12 wr A (aap G k))) (fun t _=>G.liv.length-(intOf t).toNat)
   case atStart=>exact⟨0,rfl,Nx _,H2.out.1,H2.out.2⟩
   case round =>
    obtain⟨k,rfl,hk,Z⟩:=hrel;obtain⟨X,hX⟩:∃X,X=wr:=⟨_,rfl⟩;subst hX
    by_cases hlt:k<G.liv.length
    ·have b3:(k:Int)<(G.liv.length:Int):=by omega
     obtain⟨C,K,R,f,z0,z1,z2,z3,z4,z5⟩:=H.out.2.2.2.2.2.1 k hlt;obtain⟨⟨x1,I,i,x4,x5,x6⟩,o⟩:∃x,x=G.liv[k]:=⟨_,rfl⟩;have O:(x1,I,i,x4,x5,x6)∈G.liv:=by rw[o];exact Nk hlt
     rw[<-o]at z0 z1 z2 z3 z4 z5;have a:=Z.out.1;have e0:=(a.cell (p:=⟨C,K+k*6,MH⟩) f).trans z0;have e1:=(a.cell (p:=⟨C,K+k*6+1,MH⟩) f).trans z1;have e2:=(a.cell (p:=⟨C,K+k*6+2,MH⟩) f).trans z2;have e3:=(a.cell (p:=⟨C,K+k*6+3,MH⟩) f).trans z3;have e4:=(a.cell (p:=⟨C,K+k*6+4,MH⟩) f).trans z4;have e5:=(a.cell (p:=⟨C,K+k*6+5,MH⟩) f).trans z5;have b9:C<X.heap.size:=M8 f a.size;obtain⟨d,m⟩:∃d,d=X.alloc (YQ (x1,I,i,x4,x5,x6)):=⟨_,rfl⟩;have E:MQ X.heap.size X d:=by rw[m];exact WQ X
     have y:d.heap[X.heap.size]?=MI (YQ (x1,I,i,x4,x5,x6)):=by rw[m];exact M1 _ _
     have y0:d.cell? ⟨X.heap.size,0,MH⟩=MI (MF ME x1):=by rw[MW d _ 0 _ _ (0,0) y];rfl
     have y1:d.cell? ⟨X.heap.size,1,MH⟩=MI (MF ME I):=by rw[MW d _ 1 _ _ (0,0) y];rfl
     have y2:d.cell? ⟨X.heap.size,2,MH⟩=MI (MF ME i):=by rw[MW d _ 2 _ _ (0,0) y];rfl
     have i3:X.heap.size<d.heap.size:=(ZAa.1 y).1;have q:=Z.out.2.below E;have b8:=(H.out.2.1.im.bs.book.1.1:_);have HX:M6 (_/\_/\_/\_):=⟨a.trans (E.mono a.size),q,O,o⟩;clear E y a f z0 z1 z2 z3 z4 z5
     by_cases h2:I=2
     ·subst h2
      have b5:=apT H.out.2.1.im.bs O;obtain⟨b,rfl⟩:=NL b5.1.1;have s:b<12:=by omega
      have f9:(b:Int)<12:=by omega
      obtain⟨d8,d7⟩:=apQ H.out.2.1.im hlt s (by rw[<-o]) (by rw[<-o]);have D:=q.F7 b (by rw[acj];exact s);rw[d8,<-o]at D;have D:d.cell? ⟨A,b,MH⟩=MI (MF ME (i*4)):=D;have f7:=q.Gu b;have g6:=q.lt;have f8:¬X.heap.size=A:=by have:=Z.out.2.lt;omega
      have g7:¬A=X.heap.size:=fun e=>f8 e.symm
      have l6:1<=i/\i<=8:=b5.2;have i8:IntKind.i64.wrap (i*4)=i*4:=by rw[Ow];omega
      have l0:IntKind.i64.wrap (i*4-i*4)=0:=by rw[Int.sub_self];rfl
      have HN:M6 (_/\_):=⟨d7,q.F4 b 0⟩;clear d8 d7 q O o b5 b8;subst R
      go_wp2_with fail
      rw[<-m];clear m e0 e1 e2 e3 e4 e5 b9
      go_wp2_with fail
      go_region
      go_wp2
      go_roundw
      case rel =>
       refine⟨k+1,by go_num,hlt,HX.out.1.drew.setCell H1.out.2.2.1 _,?_⟩;rw[HN.out.1];exact HN.out.2
      case measure=>simp[intOf];omega
     ·have i6:(I == 2)=false:=beq_eq_false_iff_ne.2 h2
      have d1:=apR (G:=G) H.out.2.1.im.bs.Gv hlt (by rw[<-o];exact h2);have HN:M6 _:=d1;clear d1 h2 O o q b8;subst R
      go_wp2_with fail
      rw[<-m];clear m e0 e1 e2 e3 e4 e5 b9;go_wp2
      go_roundw
      case rel=>exact⟨k+1,by go_num,hlt,HX.out.1,by rw[HN.out];exact HX.out.2.1⟩
      case measure=>simp[intOf];omega
    ·obtain rfl:k=G.liv.length:=by omega
     have b3:¬(G.liv.length:Int)<(G.liv.length:Int):=by omega
     obtain⟨a,B⟩:=Z.out;rw[apP H.out.2.1.im]at B;have i9:=aoY;have HF:M6 (_/\_):=⟨a,B⟩;clear a B
     go_wp2_with ((with_reducible refine O3 rfl 232 (O6 3) rfl A 0 ?gx (WR (Nj 12 0)) _ ?gc Tryz.underlying232 ?gd ?gi ?_);(case gx=>rfl);(case gc=>exact HF.out.2.Gq);(case gd=>rfl);(case gi=>exact aps);rw[<-alu])
     go_wp2;go_ret;exact⟨rfl,HF.out.1⟩
end
def acJ(s d:Int)(t:Tm):Bool:=(t.2 == s) && (t.1 == d)
theorem aoG(x1 x2:Int)(s d:Int)(g:Nat)(w:MO)(hc:w.cell? ⟨g,0,MH⟩=MI (MF ME s))(hd:w.cell? ⟨g,6,MH⟩=MI (MF ME d)) :
  Ni MK 116 #[Ny #[MF ME x1,MF ME x2],Na (MI ⟨g,0,MH⟩)] w fun r w'=>r=MN (M3 (acJ s d (x1,x2)))/\MQ w.heap.size w w':=by
 have f:g<w.heap.size:=MX w ⟨g,0,MH⟩ hc;unfold acJ
 by_cases e:x2=s
 ·subst e
  go_enter Tryz.func116,Tryz.ntmps116;go_wp2;go_ret;exact⟨by simp,WQ w⟩
 ·have a:(x2 == s)=false:=beq_eq_false_iff_ne.2 e
  go_enter Tryz.func116,Tryz.ntmps116;go_wp2;go_ret;exact⟨by simp[a],WQ w⟩
theorem app(v:M7)(l:List Tm)(s d:Int)(g:Nat)(w:MO)(hv:Xz w v l)(hc:w.cell? ⟨g,0,MH⟩=MI (MF ME s))(hd:w.cell? ⟨g,6,MH⟩=MI (MF ME d)) :
  Ni MK 160 #[v,PB (PD 116) #[] #[Na (MI ⟨g,0,MH⟩)]] w fun r w'=>r=MN (MF ME (X6 (l.findIdx (acJ s d)) l.length))/\MQ w.heap.size w w':=by
 obtain⟨q,F⟩:∃q:Tm->Bool,q=(acJ s d):=⟨_,rfl⟩;obtain⟨a,ca,rfl,a6,T,M⟩:=Xz.F6 hv;unfold NE at T;have O:=MX w ⟨g,0,MH⟩ hc;have R:M6 (∀(o m:Int) (W:MO),MQ w.heap.size w W->Ni MK 116 #[Ny #[MF ME o,MF ME m],Na (MI ⟨g,0,MH⟩)] W fun r w'=>r=MN (M3 (q (o,m)))/\MQ W.heap.size W w'):=by
  rw[F];exact fun o m W hb=>aoG o m s d g W ((hb.cell (p:=⟨g,0,MH⟩) O).trans hc) ((hb.cell (p:=⟨g,6,MH⟩) O).trans hd)
 rw[<-F];obtain⟨A,E⟩:∃A,A=X6 (l.findIdx q) l.length:=⟨_,rfl⟩;rw[<-E];have H:M6 _:=E;clear hv E F hc hd;go_enter VD,Vv;go_wp2
 go_loopw [8] (fun i wr=>∃k:Nat,i=MF ME k/\k<=l.length/\(∀t∈l.take k,q t=Nb)/\MQ w.heap.size w wr) (fun i _=>l.length-(intOf i).toNat)
 case atStart=>exact⟨0,rfl,Nx _,by simp,MY _ _⟩
 case round =>
  obtain⟨k,rfl,hk,B,y⟩:=hrel
  by_cases hlt:k<l.length
  ·obtain⟨Q,S,rfl,I,c1,c2⟩:=M k hlt
   have Z:=(y.cell (p:=⟨Q,S+k*2,MH⟩) I).trans c1;have Y:=(y.cell (p:=⟨Q,S+k*2+1,MH⟩) I).trans c2;have u:M6 (_/\_):=⟨B,y⟩;have a0:(k:Int)<(l.length:Int):=by omega
   have J:l.take (k+1)=l.take k++[l[k]]:=M9 hlt;have K:q l[k]=Nw->l.findIdx q=k:=fun h=>abZ hlt B h
   have D:∃x,x=l[k]:=⟨_,rfl⟩;obtain⟨⟨o,m⟩,D⟩:=D;rw[<-D]at Z Y J K;have P:M6 (_/\_):=⟨J,K⟩;clear B y c1 c2 I M J K D;cases hdd:q (o,m)
   ·go_wp2_with fail
    refine(R.out o m _ u.out.2).mono ?_;rw[hdd];rintro r w2 ⟨rfl,C⟩;have L:M6 _:=C;clear C;go_wp2
    go_roundw
    case rel =>
     refine⟨k+1,by simp,hlt,fun t f=>?_,u.out.2.trans (L.out.mono u.out.2.size)⟩;rw[P.out.1]at f;rcases QF.1 f with f|f
     ·exact u.out.1 t f
     ·simp at f
      rw[f];exact hdd
    case measure=>simp[intOf];omega
   ·go_wp2_with fail
    refine(R.out o m _ u.out.2).mono ?_;rw[hdd];rintro r w2 ⟨rfl,C⟩;have N:M6 (A=(k:Int)):=by show A=_;rw[H.out,P.out.2 hdd];exact Nh hlt
    have L:M6 _:=C;clear C;go_wp2;go_ret;exact⟨by rw[N.out];rfl,u.out.2.trans (L.out.mono u.out.2.size)⟩
  ·have N:M6 (A = -1):=by
    show A=_;rw[H.out,acp fun t f=>B t (by rw[N1 (by omega)];exact f)];exact Nf (PC _)
   have HB:M6 _:=y;clear B y M;go_wp2;go_ret;exact⟨by rw[N.out];rfl,HB.out⟩
theorem aoT(v:M7)(l:List Tm)(s d:Int)(g:Nat)(w:MO)(hv:Xz w v l)(hc:w.cell? ⟨g,0,MH⟩=MI (MF ME s))(hd:w.cell? ⟨g,6,MH⟩=MI (MF ME d)) :
  Ni MK 115 #[v,PB (PD 116) #[] #[Na (MI ⟨g,0,MH⟩)]] w fun r w'=>r=MN (M3 (l.any (acJ s d)))/\MQ w.heap.size w w':=by
 rw[<-ahq];have m:M6 _:=app v l s d g w hv hc hd;obtain⟨i,a⟩:∃i,i=X6 (l.findIdx (acJ s d)) l.length:=⟨_,rfl⟩;rw[<-a]at m⊢;clear a hv;go_enter Tryz.func115,Tryz.ntmps115
 go_wp2_with fail
 refine Nd m.out ?_;rintro r q ⟨rfl,f⟩;have o:M6 _:=f;clear f;go_wp2;go_ret;exact⟨rfl,o.out⟩
theorem aoH(f:Fl)(p:Option Oc)(c:Nat)(l:List Tm)(b:Nat)(w:MO)(hc:w.cell? ⟨b,0,MH⟩=MI (MG p l.length c))(hv:Xz w (MG p l.length c) l)(hm:(f.due,f.slot)∈l) :
  Ni MK 114 #[ZS f,Na (MI ⟨b,0,MH⟩)] w fun r w'=>r=MN (M3 Nb)/\MQ w.heap.size w w':=by
 obtain⟨W,d⟩:∃W,W=w.alloc (MP #[MF ME f.slot,MF ME f.gen,MF ME f.key,MF ME f.be,M3 f.srv,MF ME f.ret,MF ME f.due] 72):=⟨_,rfl⟩;have i:MQ w.heap.size w W:=by rw[d];exact WQ w
 have a:W.heap[w.heap.size]?=MI (MP #[MF ME f.slot,MF ME f.gen,MF ME f.key,MF ME f.be,M3 f.srv,MF ME f.ret,MF ME f.due] 72):=by rw[d];exact M1 _ _
 have u:b<w.heap.size:=MX w ⟨b,0,MH⟩ hc;have o:l.any (acJ f.slot f.due)=true:=List.any_eq_true.2 ⟨_,hm,by simp[acJ]⟩;have m:=aoT (MG p l.length c) l f.slot f.due w.heap.size W (hv.below i) (by rw[MW W _ 0 _ _ (0,0) a];rfl) (by rw[MW W _ 6 _ _ (0,0) a];rfl);rw[o]at m;have H:M6 (_/\_):=⟨m,i⟩;clear m i a o hm hv;go_enter S7,SF
 go_wp2_with fail
 rw[<-d];refine Nd H.out.1 ?_;rintro r x ⟨rfl,q⟩;have s:M6 _:=H.out.2.trans (q.mono H.out.2.size);clear q;go_wp2;go_ret;exact⟨rfl,s.out⟩
theorem apq(v:M7)(l:List Fl)(w:MO)(hv:ZR w v l)(b:Nat)(hcl:∀f∈l,∀W,MQ w.heap.size w W->Ni MK 114 #[ZS f,Na (MI ⟨b,0,MH⟩)] W fun r w'=>r=MN (M3 Nb)/\MQ W.heap.size W w') :
  Ni MK 123 #[v,PB (PD 114) #[] #[Na (MI ⟨b,0,MH⟩)]] w fun r w'=>r=MN (MF ME (-1))/\MQ w.heap.size w w':=by
 obtain⟨a,K,rfl,I,C,y⟩:=ZR.F6 hv;unfold NE at C;have D:M6 _:=hcl;clear hv hcl;go_enter Uo,Uc;go_wp2
 go_loopw [8] (fun i wr=>∃k:Nat,i=MF ME k/\k<=l.length/\MQ w.heap.size w wr) (fun i _=>l.length-(intOf i).toNat)
 case atStart=>exact⟨0,rfl,Nx _,MY _ _⟩
 case round =>
  obtain⟨k,rfl,P,d⟩:=hrel
  by_cases hlt:k<l.length
  ·obtain⟨o,q,rfl,m,c1,c2,c3,c4,c5,c6,c7⟩:=y k hlt
   have H:(k:Int)<(l.length:Int):=by omega
   obtain⟨x,u⟩:∃x,x=l[k]:=⟨_,rfl⟩;have A:x∈l:=by rw[u];exact Nk hlt
   rw[<-u]at c1 c2 c3 c4 c5 c6 c7;have M:=(d.cell (p:=⟨o,q+k*7,MH⟩) m).trans c1;have J:=(d.cell (p:=⟨o,q+k*7+1,MH⟩) m).trans c2;have L:=(d.cell (p:=⟨o,q+k*7+2,MH⟩) m).trans c3;have S:=(d.cell (p:=⟨o,q+k*7+3,MH⟩) m).trans c4;have O:=(d.cell (p:=⟨o,q+k*7+4,MH⟩) m).trans c5;have R:=(d.cell (p:=⟨o,q+k*7+5,MH⟩) m).trans c6;have N:=(d.cell (p:=⟨o,q+k*7+6,MH⟩) m).trans c7;have s:M6 (_/\_):=⟨d,A⟩;clear d c1 c2 c3 c4 c5 c6 c7 m y u A
   go_wp2_with fail
   refine(D.out x s.out.2 _ s.out.1).mono ?_;rintro r Q ⟨rfl,B⟩;have E:M6 _:=B;clear B;go_wp2
   go_roundw
   case rel=>exact⟨k+1,by simp,hlt,s.out.1.trans (E.out.mono s.out.1.size)⟩
   case measure=>simp[intOf];omega
  ·have F:M6 _:=d
   clear d y;go_wp2;go_ret;exact⟨rfl,F.out⟩
theorem aoU(v:M7)(l:List Fl)(w:MO)(hv:ZR w v l)(b:Nat)(hcl:∀f∈l,∀W,MQ w.heap.size w W->Ni MK 114 #[ZS f,Na (MI ⟨b,0,MH⟩)] W fun r w'=>r=MN (M3 Nb)/\MQ W.heap.size W w') :
  Ni MK 117 #[v,PB (PD 114) #[] #[Na (MI ⟨b,0,MH⟩)]] w fun r w'=>r=MN (M3 Nb)/\MQ w.heap.size w w':=by
 have d:M6 _:=apq v l w hv b hcl;clear hv hcl;go_enter Tryz.func117,Tryz.ntmps117
 go_wp2_with fail
 refine Nd d.out ?_;rintro r m ⟨rfl,a⟩;have i:M6 _:=a;clear a;go_wp2;go_ret;exact⟨rfl,i.out⟩
section
variable {base:Nat}{w w':MO}{g:Nat}{V:Vs}{U:Us}{G:Gt}
theorem aqX(hwm:Wm G){ls:List (List Tm)}(hm:Y9 G.wnow ls)(hT:∀t,t∈ls.flatten↔G.tms t):ls.flatten.length=G.fls.length/\∀f∈G.fls,(f.due,f.slot)∈ls.flatten:=by
 have d:∀t,t∈ls.flatten↔∃f∈G.fls,t=(f.due,f.slot):=fun t=>by
  rw[hT,hwm.im.bs.tms];constructor
  ·rintro⟨f,a,e,_⟩;exact⟨f,a,e⟩
  ·rintro⟨f,a,e⟩;exact⟨f,a,e,by rw[hwm.wnow];exact hwm.due f a⟩
 refine⟨?_,fun f a=>(d _).2 ⟨f,a,rfl⟩⟩;have l:(ls.flatten.map (·.2)).Nodup:=hm.2.ids;have i:(G.fls.map (·.slot)).Nodup:=by
  have:=hwm.im.bs.Ge;rw[List.Nodup,List.pairwise_map];exact this.imp fun h=>by omega
 have m:(ls.flatten.map (·.2)).Perm (G.fls.map (·.slot)):=by
  refine(List.perm_ext_iff_of_nodup l i).2 fun s=>?_
  simp only[ZAd];constructor
  ·rintro⟨t,ht,rfl⟩
   obtain⟨f,a,rfl⟩:=(d t).1 ht;exact⟨f,a,rfl⟩
  ·rintro⟨f,a,rfl⟩
   exact⟨_,(d _).2 ⟨f,a,rfl⟩,rfl⟩
 have:=m.length_eq;rwa[N0,N0]at this
theorem aq7(h:RG w g U G)(hwm:Wm G)(hblk:Xo w):Ni MK 70 #[gP g] w fun r w'=>r=MN (M3 Nw)/\MQ w.heap.size w w':=by
 obtain⟨ls,o,hT,N⟩:=h.wat.whl;obtain⟨T,Z⟩:=aqX hwm o hT;have hn:=hwm.im.bs.now;have a7:=hwm.wnow;have d5:=h.GJ;have d2:=h.GH;have d6:=h.lt;have HA:M6 _:=anG (MG U.pw 25 U.cw) G.wnow ls w hblk N o (by omega);have d3:(G.wnow != G.now)=false:=by rw[a7];simp
 have H:M6 (_/\_/\_/\_/\_):=⟨h,o,N,T,Z⟩;clear o hT N T Z h hwm hblk hn a7;go_enter Tj,SK
 go_wp2_with fail
 refine Nd HA.out ?_;rintro r w1 ⟨p,c,xp,xc,ms,L,rfl,_,_,_,E⟩;obtain⟨A,K⟩:∃A,A=w1.alloc (MP #[MF ME (G.wnow+1),MG p 25 c] 53):=⟨_,rfl⟩;have J:MQ w.heap.size w A:=by rw[K];exact E.alloc E.size _
 have s:=H.out.1.below J;have d0:=s.GJ;have b7:=s.Gm;have b6:=s.lt;have HB:M6 _:=J;clear E J s
 go_wp2_with fail
 rw[<-K];clear K
 go_quiet (fail)
 have l:M6 _:=ZE HB.out nq;obtain⟨Q,a6⟩:∃Q,Q=A.drewN nq:=⟨_,rfl⟩;rw[<-a6]at l⊢;clear a6 d0 b7 b6;have M:=H.out.1.below l.out;have b8:=M.GH;have d1:=M.lt;obtain⟨n,x⟩:∃n,n=ls.flatten.length:=⟨_,rfl⟩;have HC:M6 _:=aoQ (MG U.pw 25 U.cw) ls Q (H.out.2.2.1.below l.out) n x (by rw[x];exact H.out.2.1.2.Hr) (by rw[H.out.2.1.2.len];omega);have P:M6 _:=x;clear x;clear M
 go_wp2_with fail
 refine Nd HC.out ?_;rintro r i ⟨q,d,rfl,b3,O⟩;obtain⟨a,m⟩:∃a,a=i.alloc (MP #[MG q n d] 198):=⟨_,rfl⟩;have I:MQ i.heap.size i a:=by rw[m];exact WQ i
 have D:MQ w.heap.size w a:=(l.out.trans (O.mono l.out.size)).trans (I.mono (Nm l.out.size O.size));have u:a.cell? ⟨i.heap.size,0,MH⟩=MI (MG q n d):=by rw[m];exact Xu (M1 _ _)
 have C:i.heap.size<a.heap.size:=by rw[m];simp
 have y:=H.out.1.below D;have b4:=y.Gr;have b5:=y.lt;obtain⟨B,R⟩:∃B,B=i.heap.size:=⟨_,rfl⟩;rw[<-R]at u C;have a9:n=G.fls.length:=P.out.trans H.out.2.2.2.1;have d4:((n:Int) == (G.fls.length:Int))=true:=by rw[a9];exact beq_self_eq_true _
 have HK:M6 (∀X,MQ a.heap.size a X->Ni MK 117 #[MG U.pf G.fls.length U.cf,PB (PD 114) #[] #[Na (MI ⟨B,0,MH⟩)]] X fun r w'=>r=MN (M3 Nb)/\(w'.cell? ⟨g,18,MH⟩=MI (MG U.pf G.fls.length U.cf)/\w'.cell? ⟨B,0,MH⟩=MI (MG q n d))/\M6 (MQ a.heap.size a w')):=fun X hX=>by
  refine(aoU _ G.fls X (y.below hX).wat.fls B fun f hf Y hY=>?_).mono ?_
  ·have a8:=hX.trans (hY.mono hX.size)
   have hv:Xz Y (MG q n d) ls.flatten:=(b3.below I).below a8;rw[P.out]at hv;exact aoH f q d ls.flatten B Y (by rw[<-P.out];exact(a8.cell C).trans u) hv (H.out.2.2.2.2 f hf)
  ·rintro r w' ⟨rfl,hb⟩
   have F:=hX.trans (hb.mono hX.size);exact⟨rfl,⟨(F.cell b5).trans b4,(F.cell C).trans u⟩,F⟩
 have HD:M6 _:=D;clear b3 O I D y a9 b8
 go_wp2_with fail
 rw[<-m,<-R];clear m R
 go_wp2_with fail
 apply aan
 ·intro b9
  go_region_held3 (fun X=>X.cell? ⟨g,18,MH⟩=MI (MG U.pf G.fls.length U.cf)/\X.cell? ⟨B,0,MH⟩=MI (MG q n d)) (first|exact⟨b4,u⟩|exact a0) (first|(go_at_call 117;refine(HK.out _ (by first|exact(MY _ _).drew|exact Below.refl _ _)).mono ?_;rintro r w5 ⟨rfl,a0,S⟩))
  all_goals
   rename_i hHe;clear hHe a0;revert w5;exact b9.out
 intro w5 S;have HQ:M6 _:=S.out;clear S;go_wp2;go_ret;exact⟨rfl,HD.out.trans (HQ.out.mono HD.out.size)⟩
end
section
variable {base:Nat}{w w':MO}{g:Nat}{V:Vs}{U:Us}{G:Gt}
theorem ap4(h:RG w g U G)(hwm:Wm G)(hblk:Xo w):Ni MK 54 #[gP g] w fun r w'=>r=MN (M3 Nw)/\MQ w.heap.size w w':=by
 have O:=h.c0;have T:=h.c1;have N:=h.c2;have k3:=h.c3;have Q:=h.c4;have R:=h.c5;have S:=h.c6;have k7:=h.c7;have Z:=h.c8;have Y:=h.c9;have J:=h.Hf;have F:=h.Hn;have I:=h.Hg;have K:=h.GS;have M:=h.GU;have D:=h.GO;have a7:=h.lt;have C:M6 _:=apI G.cfg w;rw[Nq hwm.im.bs.cfg]at C;have P:M6 (∀X:MO,Ni MK 50 #[MF ME G.now,MF ME 0,MF ME 1099511626776] X fun r w'=>r=MN (M3 Nw)/\w'=X):=fun X=>by
  have:=abW G.now 0 1099511626776 X;rwa[Nq hwm.im.bs.now]at this
 have H:M6 (_/\_/\_):=⟨h,hwm,hblk⟩;clear h hwm hblk;go_enter Qz,Qk
 go_wp2_with fail
 refine Nd C.out ?_;rintro r w1 ⟨rfl,f⟩;have E:=(H.out.1.below f).Gm;have a0:=(H.out.1.below f).lt;have o:M6 _:=f;clear f O T N k3 Q R S k7 Z Y J F I K M D
 go_wp2_with fail
 refine(P.out _).mono ?_;rintro r a6 ⟨rfl,rfl⟩;clear E;have a:M6 _:=aqk (H.out.1.below o.out) H.out.2.1
 go_wp2_with fail
 refine Nd a.out ?_;rintro r w2 ⟨rfl,A⟩;have i:M6 _:=o.out.trans (A.mono o.out.size);clear A;have a:M6 _:=aph (H.out.1.below i.out) H.out.2.1
 go_wp2_with fail
 refine Nd a.out ?_;rintro r w3 ⟨rfl,B⟩;have l:M6 _:=i.out.trans (B.mono i.out.size);clear B;have a:M6 _:=ao3 (H.out.1.below l.out) H.out.2.1
 go_wp2_with fail
 refine Nd a.out ?_;rintro r w4 ⟨rfl,s⟩;have m:M6 _:=l.out.trans (s.mono l.out.size);clear s;have a:M6 _:=apW (H.out.1.below m.out) H.out.2.1
 go_wp2_with fail
 refine Nd a.out ?_;rintro r w5 ⟨rfl,y⟩;have q:M6 _:=m.out.trans (y.mono m.out.size);clear y;have a:M6 _:=aqs (H.out.1.below q.out) H.out.2.1
 go_wp2_with fail
 refine Nd a.out ?_;rintro r w6 ⟨rfl,x⟩;have d:M6 _:=q.out.trans (x.mono q.out.size);clear x;have a:M6 _:=aq7 (H.out.1.below d.out) H.out.2.1 (H.out.2.2.below d.out)
 go_wp2_with fail
 refine Nd a.out ?_;rintro r w7 ⟨rfl,u⟩;have L:M6 _:=d.out.trans (u.mono d.out.size);clear u;go_wp2;go_ret;exact⟨rfl,L.out⟩
end
end Go.Proofs.YtgnclkcdnbfeeaaGreatDoor.Q
