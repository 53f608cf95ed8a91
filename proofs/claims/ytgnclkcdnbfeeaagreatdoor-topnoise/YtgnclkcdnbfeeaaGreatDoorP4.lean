/-
  Contracts of the layers and of core, part 4. Conditions: as each theorem says.
-/
import Derived.Test.YtgnclkcdnbfeeaaGreatDoorP9
import Derived.Test.YtgnclkcdnbfeeaaGreatDoorP1
import Derived.Test.YtgnclkcdnbfeeaaGreatDoorP2
import Derived.Test.YtgnclkcdnbfeeaaGreatDoorP3
import Derived.Test.YtgnclkcdnbfeeaaGreatDoorP10
open Array renaming getElem?_eq_some_iff->ZAa
open Bool renaming false->Nb,true->Nw
open Decidable renaming decide->Nn
open Go renaming Addr->Oc,Calls->Ni,Program->O8,TypeId->NU,Value->M7,World->MO,maxLen->NE
open Go.Builtin renaming append_->N2,clear_->Rs,zeroCells->N5
open Go.Calls renaming quiet_of->Qe
open Go.Ending renaming returned->MN
open Go.Extern.SlicesOverlaps renaming overlaps->P9
open Go.Fn renaming func->PD
open Go.IntKind renaming i64->ME
open Go.Lit renaming int->N6
open Go.Obj renaming cells->MP
open Go.Proofs.Tryz renaming func110->ayW,func121->T0,func123->Uo,func124->VV,func125->azu,func130->ayz,func132->Rp,func135->UL,func141->ayQ,func142->ayP,func155->ayv,func169->UM,func174->Wr,func181->azS,func183->Ws,func56->azX,func83->Vw,func85->Wd,func91->TP,func96->UY,func99->azW,ntmps110->ayL,ntmps121->TU,ntmps123->Uc,ntmps124->VL,ntmps125->azo,ntmps130->ayt,ntmps132->Q6,ntmps135->Uz,ntmps141->ayG,ntmps142->ayF,ntmps155->ayr,ntmps169->UA,ntmps181->azG,ntmps183->Wg,ntmps56->azT,ntmps83->Vt,ntmps85->VU,ntmps91->TI,ntmps96->UV,ntmps99->azR,prog->MK,results96->azi,underlying40->U3
open Go.RowKit renaming Below->MQ,Hid->M6
open Go.Value renaming agg->Ny,bool->M3,func->PB,int->MF,pointer->Na,slice->MG,tuple->Nv
open Go.World renaming cell?->Nl,frozen?->Ng,shape?->QO
open List renaming find?_cons_of_neg->Pr,find?_cons_of_pos->Ql,findIdx_cons->Tc,getElem?_eq_some_iff->ZAb,mem_filter->ZAf,mem_map->ZAd,mem_map_of_mem->Ri,pairwise_cons->ZAe,range->Pm,replicate->Nj
open Option renaming none->MH,some->MI
open Or renaming inl->Nt,inr->NF
namespace Go.Proofs.YtgnclkcdnbfeeaaGreatDoor.Q
set_option linter.unusedVariables false
set_option linter.unusedSimpArgs false
set_option maxHeartbeats 16000000
set_option maxRecDepth 100000
open Go.RowKit
attribute [local go_sem ↓] Go.wp_at_zero Go.wp_at_succ
section
variable {d n t:Int}{i:Nat}{α:Type}
abbrev awV:=Lf
variable {L:List awV}{l:awV}
abbrev aw0:=Rq
variable {R:List aw0}
abbrev awY:=Sl
structure Fl where
 slot:Int
 gen:Int
 key:Int
 be:Int
 srv:Bool
 ret:Int
 due:Int
 deriving DecidableEq
variable {f y:Fl}{fs:List Fl}
structure Ou where
 kind:Int
 slot:Int
 gen:Int
 be:Int
 req:Int
 code:Int
 why:Int
 deriving DecidableEq
structure He where
 marks:List Bool
 out:Bool
 till:Int
 times:Int
 deriving DecidableEq
structure Gt where
 cfg:Cf
 now:Int
 tab:List awY
 fls:List Fl
 liv:List awV
 req:List aw0
 wts:List Int
 hea:List He
 tok:Int
 wnow:Int
 tms:Tm->Prop
 out:List Ou
abbrev XM:He:=⟨[],Nb,0,0⟩
abbrev ao0:Fl:=⟨0,0,0,0,Nb,0,0⟩
abbrev aa1:awV:=(0,0,0,0,0,0)
abbrev adg(c:Cf):Prop :=
 (1<=c.flows/\c.flows<=40)/\(1<=c.den/\c.den<=c.num)/\c.num<=20/\(0<=c.tries/\c.tries<=12)/\(0<=c.warm/\c.warm<=500) /\
 (1<=c.drain/\c.drain<=500)/\(1<=c.idle/\c.idle<=500)/\(1<=c.conn/\c.conn<=500)/\(0<=c.ret/\c.ret<=20)/\(0<=c.most/\c.most<=100) /\
 Zp c.bn c.bd c.bb/\ZT c.wn c.wf c.wh
def WS(L:List awV)(b:Int):awV:=(L.find? fun x=>x.1 == b).getD aa1
abbrev WY(L:List awV)(b:Int):Int:=(WS L b).2.1
def abu(fs:List Fl)(b:Int):Nat:=fs.countP fun f=>f.be == b
def Zr(fs:List Fl)(b:Int):Bool:=fs.any fun f=>f.be == b
def ZM(G:Gt)(o:Ou):Gt:={G with out:=G.out++[o]}
def acm(G:Gt)(k c:Int):Gt:=ZM G ⟨k,0,0,0,0,c,0⟩
def abi(G:Gt)(k:Int)(f:Fl):Gt:=ZM G ⟨k,f.slot,f.gen,f.be,0,0,0⟩
def aeQ(G:Gt)(b r:Int):Gt:=ZM G ⟨9,0,0,b,r,0,0⟩
def aaF(fs:List Fl)(s:Int):Nat:=fs.findIdx fun f=>f.slot == s
def Yf(G:Gt)(b:Int):Gt :=
 if WY G.liv b=3/\Zr G.fls b=Nb then
  aeQ {G with liv:=(aau G.liv G.req b).1.1,req:=(aau G.liv G.req b).1.2} b (WS G.liv b).2.2.2.2.2
 else G
def abV(G:Gt)(l:awV):Int :=
 if(G.hea.getD l.1.toNat XM).out then 0 else aw1 l.2.2.1 (G.now-l.2.2.2.1) G.cfg.warm
def aab(G:Gt)(fs:List Fl):List (Int×Int×Int):=
 (G.liv.filter fun l=>l.2.1 == 2).map fun l=>(l.1,abV G l,(abu fs l.1:Int))
def ahS(G:Gt)(key:Int):List Int:=acy (WW G.wts) (abp key.toNat:Nat)
def XD(G:Gt)(key:Int)(fs:List Fl):Int×Int :=
 ab6 (ahS G key) (aab G fs) G.cfg.num G.cfg.den (fs.length:Int) G.cfg.tries
def abN(L:List awV):Nat:=L.countP fun l=>l.2.1 == 2
def abf(L:List awV)(H:List He):Nat:=L.countP fun l=>(l.2.1 == 2) && (H.getD l.1.toNat XM).out
def abS(G:Gt)(b:Int):Bool :=
 (acP (abf G.liv G.hea:Int) (abN G.liv:Int) G.cfg.most).1 && (WY G.liv b == 2)
def afO(x:List Bool×Bool×Int×Int):He:=⟨x.1,x.2.1,x.2.2.1,x.2.2.2⟩
def afT(G:Gt)(b:Int)(failed:Bool):He :=
 afO (Zt G.cfg.wn G.cfg.wf G.cfg.wh (G.hea.getD b.toNat XM).marks (G.hea.getD b.toNat XM).out (G.hea.getD b.toNat XM).till (G.hea.getD b.toNat XM).times failed G.now (abS G b)).1
def Yh(G:Gt)(b:Int)(failed:Bool):Gt:={G with hea:=G.hea.set b.toNat (afT G b failed)}
def aeG(G:Gt)(s:Int):Gt:={G with tms:=fun t=>G.tms t/\t.2≠s}
def Xs(G:Gt)(i:Nat):Fl:=G.fls.getD i ao0
def Y4(G:Gt)(i:Nat)(f:Fl):Gt:={G with fls:=G.fls.set i f}
def YW(G:Gt)(i:Nat)(ticks:Int):Gt :=
 {G with fls:=G.fls.set i {Xs G i with due:=G.now+ticks},tms:=fun t=>(G.tms t/\t.2≠(Xs G i).slot)\/t=(G.now+ticks,(Xs G i).slot)}
def Yl(fs:List Fl)(s g:Int):List Fl:=fs.filter fun f=>!((f.slot == s) && (f.gen == g))
def Yg(G:Gt)(f:Fl)(kind why:Int):Gt :=
 Yf (ZM {G with tab:=(ZQ G.tab f.slot f.gen).1,fls:=Yl G.fls f.slot f.gen,tms:=fun t=>G.tms t/\t.2≠f.slot} ⟨kind,f.slot,f.gen,f.be,0,0,why⟩) f.be
def ZL(G:Gt)(i:Nat)(b:Int):Gt :=
 let f:=Xs G i
 let G1:=Y4 {G with tab:=(Y0 G.tab f.slot f.gen b).1} i {f with be:=b,ret:=f.ret+1}
 let G2:=YW G1 i G.cfg.conn
 Yf (abi G2 5 (Xs G2 i)) f.be
def YP(G:Gt)(i:Nat)(why:Int):Gt :=
 let f:=Xs G i
 let G1:=Yh G f.be Nw
 let s:=Zh G.cfg.bn G.cfg.bd G.cfg.bb G.tok
 if f.ret=G.cfg.ret\/s.2≠0 then Yg G1 f 6 why
 else
  let c:=XD G1 f.key (Yl G.fls f.slot f.gen)
  if c.2≠0 then Yg G1 f 6 4
  else ZL {G1 with tok:=s.1} i c.1
def abh(G:Gt)(i:Nat):Gt :=
 let f:=Xs G i
 let G1:=YW (Y4 (Yh G f.be Nb) i {f with srv:=Nw}) i G.cfg.idle
 abi G1 4 (Xs G1 i)
def aaZ(G:Gt)(i:Nat):Gt :=
 let G1:=if(Xs G i).srv then YW G i G.cfg.idle else G
 abi G1 3 (Xs G1 i)
def Y1(t:awY):Bool:=!t.2.1 && (t.1 != 1048576)
def Y3(fs:List Fl)(s:Int):Nat:=fs.findIdx fun f=>Nn (s<f.slot)
def abv(G:Gt)(key b:Int):Gt :=
 let o:=Y8 G.tab key b
 {G with tab:=o.1,fls:=Xi G.fls ⟨o.2.1.1,o.2.1.2,key,b,Nb,0,0⟩ (Y3 G.fls o.2.1.1)}
def aaI(G:Gt)(key:Int):Gt :=
 if G.tab.any Y1=Nb then acm G 2 9
 else
  let c:=XD G key G.fls
  if c.2≠0 then acm G 2 11
  else
   let i:=Y3 G.fls (Y8 G.tab key c.1).2.1.1
   let G2:=YW (abv G key c.1) i G.cfg.conn
   abi {G2 with tok:=(aa9 G.cfg.bn G.cfg.bd G.cfg.bb G.tok).1} 1 (Xs G2 i)
def aaq(G:Gt)(e:Ev):Gt :=
 let c:=(Yj G.tab e.slot e.gen).2
 if c≠0 then acm G 10 c
 else
  let i:=aaF G.fls e.slot
  if e.kind=3 then Yg G (Xs G i) 7 0
  else if e.kind=2 then aaZ G i
  else if(Xs G i).srv then acm G 10 7
  else if e.good then abh G i
  else YP G i 3
def YV(G:Gt)(kind:Int)(e:Ev):ae1:=ZU G.liv G.req (e.req,kind,e.be,e.wt,0) G.now G.cfg.drain
def Yv(G:Gt)(kind:Int)(e:Ev):Gt :=
 ZM {G with liv:=(YV G kind e).1.1,req:=(YV G kind e).1.2} ⟨8,0,0,0,e.req,(YV G kind e).2.1,0⟩
def acC(G:Gt)(kind:Int)(e:Ev):Bool:=(YV G kind e).2.2.1 && ((YV G kind e).2.1 == 0)
def abg(G:Gt)(e:Ev):Gt :=
 if acC G 2 e=Nb then Yv G 2 e
 else if WY G.liv e.be=1 then aeQ (Yv G 2 e) e.be e.req
 else Yf {Yv G 2 e with wts:=G.wts.set e.be.toNat 0} e.be
def YX(G:Gt)(b:Int):Gt:={G with hea:=G.hea.set b.toNat XM,wts:=G.wts.set b.toNat (WS G.liv b).2.2.1}
def YH(G:Gt):Gt :=
 (abn G.liv G.req G.now).2.1.foldl YX {G with liv:=(abn G.liv G.req G.now).1.1,req:=(abn G.liv G.req G.now).1.2}
def abO(G:Gt)(h:He):He:=afO (Ze G.cfg.wn G.cfg.wf G.cfg.wh h.marks h.out h.till h.times G.now).1
def aaC(G:Gt):Gt:={G with hea:=G.hea.map (abO G)}
def X5(G:Gt)(s:Int):Gt :=
 let i:=aaF G.fls s
 if(Xs G i).srv then Yg G (Xs G i) 6 1 else YP G i 5
def aaD(fs:List Fl)(n:Int):List Int:=(fs.filter fun f=>f.due == n).map (·.slot)
def Zs(G:Gt):Gt:=(aaD G.fls (G.wnow+1)).foldl X5 {G with wnow:=G.wnow+1,tms:=fun t=>G.tms t/\t.1≠G.wnow+1}
def Ye(G:Gt)(h:Tm):Gt:=Yg G (Xs G (aaF G.fls h.1)) 6 2
def Zd(G:Gt)(l:awV):Gt :=
 if l.2.1≠3\/G.now<l.2.2.2.2.1 then G else(YL l.1 G.tab).foldl Ye G
def acG(G:Gt):Gt:=G.liv.foldl Zd G
def abj(G:Gt):Gt:=acG (Zs (aaC (YH {G with now:=G.now+1})))
def Xb(G:Gt)(e:Ev):Gt :=
 if e.kind=1 then aaI G e.key
 else if e.kind=5 then Yv G 1 e
 else if e.kind=6 then abg G e
 else if e.kind=7 then abj G
 else aaq G e
abbrev aeE:=Int×Int×Int×Int
def Xx:Int->List awY->List aeE
 |_,[]=>[]
 |n,t::l=>if t.2.1=Nw then(n,t.1,t.2.2.1,t.2.2.2)::Xx (n+1) l else Xx (n+1) l
abbrev Fl.F8(f:Fl):aeE:=(f.slot,f.gen,f.key,f.be)
theorem aeM:∀ {n:Int} {l:List awY} {s:aeE},s∈Xx n l↔∃(i:Nat) (h:i<l.length),s.1=n+i/\l[i].2.1=Nw/\s.2=(l[i].1,l[i].2.2.1,l[i].2.2.2)
 |n,[],s=>by simp[Xx]
 |n,t::l,s=>by
  have a:=@aeM (n+1) l s;have b:(∃(i:Nat) (h:i<(t::l).length),s.1=n+i/\(t::l)[i].2.1=Nw/\s.2=((t::l)[i].1,(t::l)[i].2.2.1,(t::l)[i].2.2.2))↔(s.1=n/\t.2.1=Nw/\s.2=(t.1,t.2.2.1,t.2.2.2))\/s∈Xx (n+1) l:=by
   rw[a];constructor
   ·rintro⟨i,hi,h1,h2,h3⟩
    cases i with
    |zero=>exact Nt ⟨by simpa using h1,h2,h3⟩
    |succ i=>exact NF ⟨i,by simpa using hi,by rw[h1];push_cast;omega,h2,h3⟩
   ·rintro(⟨h1,h2,h3⟩|⟨i,hi,h1,h2,h3⟩)
    ·exact⟨0,by simp,by simpa using h1,h2,h3⟩
    ·exact⟨i+1,by simpa using hi,by rw[h1];push_cast;omega,h2,h3⟩
  rw[b,show Xx n (t::l)=if t.2.1=Nw then(n,t.1,t.2.2.1,t.2.2.2)::Xx (n+1) l else Xx (n+1) l from rfl]
  split
  case isTrue h =>
   rw[OO];constructor
   ·rintro(rfl|h1)
    ·exact Nt ⟨rfl,h,rfl⟩
    ·exact NF h1
   ·rintro(⟨h1,_,h3⟩|h1)
    ·exact Nt (Q8 h1 h3)
    ·exact NF h1
  case isFalse h =>
   constructor
   ·exact NF
   ·rintro(⟨_,h2,_⟩|h1)
    ·exact absurd h2 h
    ·exact h1
theorem afZ{l:List awY}{s:aeE}(h:s∈Xx n l):n<=s.1:=by
 obtain⟨i,_,a,_⟩:=aeM.1 h;omega
theorem ahH:∀ {n:Int} {l:List awY},(Xx n l).Pairwise (fun a b=>a.1<b.1)
 |n,[]=>by simp[Xx]
 |n,t::l=>by
  unfold Xx
  split
  case isTrue h=>exact ZAe.2 ⟨fun s hs=>by have:=afZ hs;show n<s.1;omega,ahH⟩
  case isFalse h=>exact ahH
theorem ak8:∀ {n:Int} {l:List awY},(Xx n l).length<=l.length
 |n,[]=>by simp[Xx]
 |n,t::l=>by
  have:=@ak8 (n+1) l;unfold Xx
  split <;> simp <;> omega
theorem ak6{x:awY}(hx:x.2.1=Nb):∀ {n:Int} {l:List awY} {k:Nat},k<l.length->Xx n (l.set k x)=(Xx n l).filter (fun s=>s.1 != n+k)
 |n,t::l,0,_=>by
  have a:(Xx (n+1) l).filter (fun s=>s.1 != n)=Xx (n+1) l:=List.filter_eq_self.2 fun s hs=>by have:=afZ hs;simp;omega
  simp only[ML,Xx,hx]
  by_cases h:t.2.1=Nw
  ·simp[h,a]
  ·simp[h,a]
 |n,t::l,k+1,hk=>by
  have b:=@ak6 x hx (n+1) l k (by simpa using hk);have e:∀s:aeE,(s.1 != n+((k+1:Nat):Int))=(s.1 != n+1+(k:Int)):=fun s=>by rw[show n+((k+1:Nat):Int)=n+1+(k:Int)by push_cast;omega]
  simp only[MM,Xx,b,e]
  by_cases h:t.2.1=Nw
  ·have:(n != n+1+(k:Int))=true:=by simp;omega
   simp[h,this]
  ·simp[h]
theorem ak9{x:awY}(hx:x.2.1=Nw):∀ {n:Int} {l:List awY} {k:Nat} (hk:k<l.length),l[k].2.1=Nw->Xx n (l.set k x)=(Xx n l).map (fun s=>if s.1=n+k then(n+k,x.1,x.2.2.1,x.2.2.2)else s)
 |n,t::l,0,_,hu=>by
  have b:(Xx (n+1) l).map (fun s=>if s.1=n then(n,x.1,x.2.2.1,x.2.2.2)else s)=Xx (n+1) l:=by
   conv=>rhs;rw[<-List.map_id (Xx (n+1) l)]
   exact PU fun s hs=>by have:=afZ hs;rw[Nf (by omega)];rfl
  simp only[MS]at hu;simp only[ML,Xx,hx,hu,if_true,OA,Int.natCast_zero,Int.add_zero,b]
 |n,t::l,k+1,hk,hu=>by
  have a:=@ak9 x hx (n+1) l k (by simpa using hk) (by simpa using hu);simp only[MM,Xx,a];rw[show n+((k+1:Nat):Int)=n+1+(k:Int)by push_cast;omega]
  by_cases h:t.2.1=Nw
  ·rw[Nh h,Nh h,OA,Nf (by show ¬n=n+1+(k:Int);omega)]
  ·rw[Nf h,Nf h]
theorem apA(a x:α)(l:List α)(i:Nat):Xi (a::l) x (i+1)=a::Xi l x i:=by simp[Xi]
theorem apC(x:α)(l:List α):Xi l x 0=x::l:=by simp[Xi]
theorem ala{x:awY}(hx:x.2.1=Nw):∀ {n:Int} {l:List awY} {k:Nat} (hk:k<l.length),l[k].2.1=Nb->Xx n (l.set k x)=Xi (Xx n l) (n+k,x.1,x.2.2.1,x.2.2.2) ((Xx n l).findIdx fun s=>Nn (n+k<s.1))
 |n,t::l,0,_,hu=>by
  simp only[MS]at hu;have b:(Xx (n+1) l).findIdx (fun s=>Nn (n<s.1))=0:=by
   cases hs:Xx (n+1) l with
   |nil=>rfl
   |cons s r =>
    have:=afZ (s:=s) (by rw[hs];simp);simp[Tc,show n<s.1 by omega]
  simp only[ML,Xx,hx,hu,if_true,Int.natCast_zero,Int.add_zero,Bool.false_eq_true,if_false,b,apC]
 |n,t::l,k+1,hk,hu=>by
  have a:=@ala x hx (n+1) l k (by simpa using hk) (by simpa using hu);simp only[MM,Xx,a];rw[show n+((k+1:Nat):Int)=n+1+(k:Int)by push_cast;omega]
  by_cases h:t.2.1=Nw
  ·rw[Nh h,Nh h]
   have:Nn (n+1+(k:Int)<n)=false:=by simp;omega
   rw[Tc];simp only[this,cond_false];rw[apA]
  ·rw[Nf h,Nf h]
structure Bs(G:Gt):Prop where
 cfg:adg G.cfg
 now:0<=G.now/\G.now<=1099511626776
 tab:Z6 G.tab
 tabLen:(G.tab.length:Int)=G.cfg.flows
 book:Ym G.liv G.req
 tok:0<=G.tok/\G.tok<=G.cfg.bb*G.cfg.bd
 hel:G.hea.length=12
 hea:∀h∈G.hea,ZO G.cfg.wn h.marks.length h.out h.till h.times
 seats:G.fls.map Fl.F8=Xx 0 G.tab
 rets:∀f∈G.fls,0<=f.ret/\f.ret<=G.cfg.ret
 since:∀l∈G.liv,l.2.2.2.1<=G.now
 wts:XI G.wts
 wnow:0<=G.wnow/\G.wnow<=G.now
 tms:∀t,G.tms t↔∃f∈G.fls,t=(f.due,f.slot)/\G.wnow<f.due
section
variable {G:Gt}
theorem Bs.Ge(h:Bs G):G.fls.Pairwise (fun a b=>a.slot<b.slot):=by
 have c:(G.fls.map Fl.F8).Pairwise (fun a b=>a.1<b.1):=by rw[h.seats];exact ahH
 exact(List.pairwise_map (f:=Fl.F8) (R:=fun a b=>a.1<b.1)).1 c
theorem Bs.slot(h:Bs G)(hf:f∈G.fls):∃(k:Nat) (hk:k<G.tab.length),f.slot=k/\G.tab[k]=(f.gen,Nw,f.key,f.be):=by
 have e:f.F8∈Xx 0 G.tab:=by rw[<-h.seats];exact Ri hf
 obtain⟨i,g,c,b,a⟩:=aeM.1 e;refine⟨i,g,by rw[show f.slot=(0:Int)+i from c];omega,?_⟩;generalize G.tab[i]=t at b a;obtain⟨m,j,o,p⟩:=t;simp only[Q7]at b a⊢;exact⟨a.1.symm,b,a.2.1.symm,a.2.2.symm⟩
theorem Bs.F9(h:Bs G)(hf:f∈G.fls):(0<=f.slot/\f.slot<40)/\(0<=f.gen/\f.gen<=1048575)/\(0<=f.key/\f.key<=4294967295)/\(0<=f.be/\f.be<12):=by
 obtain⟨k,c,e,b⟩:=h.slot hf;have a:=h.tab.2 _ (Nk c);have g:=h.tab.1.2;rw[b]at a;unfold Yt at a;rw[Nh rfl]at a;exact⟨by omega,a.1,a.2.1,a.2.2⟩
theorem Bs.IV(h:Bs G)(hf:f∈G.fls):Yj G.tab f.slot f.gen=((f.gen,Nw,f.key,f.be),0):=by
 obtain⟨k,c,a,b⟩:=h.slot hf;rw[a,ai8 h.tab c rfl,b,Nh ⟨rfl,rfl⟩]
theorem Bs.Hj(h:Bs G)(hf:f∈G.fls):ZQ G.tab f.slot f.gen=(G.tab.set f.slot.toNat (f.gen+1,Nb,0,0),0):=by
 unfold ZQ;rw[h.IV hf,Nh rfl]
theorem Bs.Ho(h:Bs G)(hf:f∈G.fls){b:Int}(hb:0<=b/\b<12):Y0 G.tab f.slot f.gen b=(G.tab.set f.slot.toNat (f.gen,Nw,f.key,b),0):=by
 unfold Y0;rw[h.IV hf,Nh rfl,Nh hb]
theorem Bs.Ic(h:Bs G){k:Fl}(hf:f∈G.fls)(hk:k∈G.fls)(e:f.slot=k.slot):f=k:=by
 obtain⟨i,b,rfl⟩:=NV hf;obtain⟨j,g,rfl⟩:=NV hk;have c:=List.pairwise_iff_getElem.1 h.Ge;rcases Nat.lt_trichotomy i j with a|rfl|a
 ·have:=c i j b g a;omega
 ·rfl
 ·have:=c j i g b a;omega
theorem Bs.GL(h:Bs G)(hf:f∈G.fls):Yl G.fls f.slot f.gen=G.fls.filter fun x=>x.slot != f.slot:=by
 unfold Yl;refine List.filter_congr fun x hx=>?_
 by_cases e:x.slot=f.slot
 ·rw[h.Ic hx hf e]
  simp
 ·have b:(x.slot == f.slot)=false:=by simpa using e
  have a:(x.slot != f.slot)=true:=by simpa using e
  rw[b,a];rfl
theorem Bs.Ie(h:Bs G)(hi:i<G.fls.length):aaF G.fls G.fls[i].slot=i:=by
 unfold aaF;refine abZ hi (fun t ht=>?_) (by simp);obtain⟨j,b,rfl⟩:=NV ht;have a:j<i:=by simp at b;omega
 have:=List.pairwise_iff_getElem.1 h.Ge j i (by omega) hi a;simp only[List.getElem_take];simp;omega
theorem Bs.GG(h:Bs G)(hf:f∈G.fls):∃hi:aaF G.fls f.slot<G.fls.length,G.fls[aaF G.fls f.slot]=f:=by
 obtain⟨i,hi,rfl⟩:=NV hf;have e:=h.Ie hi;exact⟨by rw[e];exact hi,by simp only[e]⟩
theorem XA(hi:i<G.fls.length):Xs G i=G.fls[i]:=by simp[Xs,hi]
theorem Bs.Jv(h:Bs G){s g:Int}(hg:(Yj G.tab s g).2=0):∃f∈G.fls,f.slot=s/\f.gen=g:=by
 obtain⟨x,m⟩:∃x,x=(Yj G.tab s g).1:=⟨_,rfl⟩;obtain⟨_,k,rfl,p,a,c,j⟩:=ai7 (x:=x) (Q8 m.symm hg);have b:((k:Int),x.1,x.2.2.1,x.2.2.2)∈Xx 0 G.tab:=aeM.2 ⟨k,p,by simp,by rw[<-a];exact c,by rw[<-a]⟩;rw[<-h.seats]at b;obtain⟨f,o,e⟩:=ZAd.1 b;simp only[Fl.F8,Q7]at e;exact⟨f,o,e.1,by rw[e.2.1,j]⟩
theorem Bs.Gb(h:Bs G):G.fls.length<=40:=by
 have a:=congrArg List.length h.seats;rw[N0]at a;have:=@ak8 0 G.tab;have:=h.tab.1.2;omega
theorem Bs.Gd(h:Bs G)(hfree:G.tab.any Y1=Nw){key b:Int}(hk:0<=key/\key<=4294967295)(hb:0<=b/\b<12) :
  ∃(k:Nat) (hlt:k<G.tab.length),Y8 G.tab key b=(G.tab.set k (G.tab[k].1,Nw,key,b),((k:Int),G.tab[k].1),0)/\G.tab[k].2.1=Nb/\(0<=G.tab[k].1/\G.tab[k].1<=1048575)/\∀j (hj:j<k),Y1 (G.tab[j]'(by omega))=false:=by
 have g:∀t∈G.tab,aaU t=Y1 t:=fun t e=>auU (h.tab.2 t e)
 cases hf:Yz aaU G.tab with
 |none =>
  obtain⟨t,e,c⟩:=List.any_eq_true.1 hfree;rw[<-g t e]at c;have a:=ai3.2 ⟨t,e,c⟩;rw[hf]at a;exact absurd a (by decide)
 |some k =>
  obtain⟨hlt,c,p⟩:=ai0 hf;rw[g _ (Nk hlt)]at c;have o:G.tab[k].2.1=Nb/\G.tab[k].1≠1048576:=by simpa [Y1]using c
  have m:=h.tab.2 _ (Nk hlt);unfold Yt at m;rw[Nf (by rw[o.1];simp)]at m;refine⟨k,hlt,?_,o.1,by omega,fun j hj=>?_⟩
  ·unfold Y8
   rw[Nf (fun a=>a h.tab),Nf (fun a=>a ⟨hk,hb⟩),hf];simp[hlt]
  ·rw[<-g _ (Nk _)]
   refine p _ (List.mem_iff_getElem.2 ⟨j,by simp;omega,by simp⟩)
end
abbrev Zq(L:List awV):Prop:=L.Pairwise (fun a b=>a.1<b.1)
theorem ahv{b:Int}(h:∀x∈L,x.1≠b):WS L b=aa1:=by
 unfold WS;rw[List.find?_eq_none.2 (fun x hx=>by simpa using h x hx)];rfl
theorem abd:∀ {L:List awV} (_:Zq L) {x:awV} (_:x∈L),WS L x.1=x
 |y::L,hr,x,a=>by
  obtain⟨c,e⟩:=ZAe.1 hr;unfold WS;rcases OO.1 a with rfl|a
  ·simp
  ·have b:(y.1 == x.1)=false:=by have:=c x a;simp;omega
   rw[Pr (by simpa using b)];exact abd e a
theorem aeK(L:List awV)(b:Int):(WS L b∈L/\(WS L b).1=b)\/((∀x∈L,x.1≠b)/\WS L b=aa1):=by
 unfold WS;cases h:L.find? (fun x=>x.1 == b)with
 |none=>exact NF ⟨fun x hx=>by have:=List.find?_eq_none.1 h x hx;simpa using this,rfl⟩
 |some x=>exact Nt ⟨List.mem_of_find?_eq_some h,by simpa using List.find?_some h⟩
theorem adl{b:Int}(h:WY L b≠0):WS L b∈L/\(WS L b).1=b:=by
 rcases aeK L b with a|⟨_,a⟩
 ·exact a
 ·exact absurd (by rw[show WY L b=(WS L b).2.1 from rfl,a]) h
def Yq(L:List awV)(b:Int)(y:awV->awV):List awV:=L.map fun x=>if x.1=b then y x else x
theorem ahI(hr:Zq L)(hi:i<L.length){b:Int}(hb:L[i].1=b)(y:awV->awV):L.set i (y L[i])=Yq L b y:=by
 apply PX
 ·simp[Yq]
 ·intro k j o
  simp only[Yq,QZ,Pc];have g:k<L.length:=by simpa using j
  by_cases e:i=k
  ·subst e
   rw[Nh rfl,Nh hb]
  ·rw[Nf e,Nf]
   intro m;have c:=List.pairwise_iff_getElem.1 hr;rcases QM e with a|a
   ·have:=c i k hi g a;omega
   ·have:=c k i g hi a;omega
theorem ap3(hr:Zq L)(b:Int){y:awV->awV}(hy:∀x,(y x).1=x.1):Zq (Yq L b y):=by
 unfold Yq;refine List.pairwise_map.2 (hr.imp fun {a c} h=>?_);have e:∀x:awV,(if x.1=b then y x else x).1=x.1:=fun x=>by split;exact hy x;rfl
 rw[e,e];exact h
theorem akG(hr:Zq L){x:awV}(hx:x∈L){y:awV->awV}(hy:∀x,(y x).1=x.1):WS (Yq L x.1 y) x.1=y x:=by
 have a:y x∈Yq L x.1 y:=ZAd.2 ⟨x,hx,by rw[Nh rfl]⟩;have b:=abd (ap3 hr x.1 hy) a;rwa[hy]at b
theorem ahu:∀(L:List awV) {b c:Int} (_:c≠b) {y:awV->awV} (_:∀x,(y x).1=x.1),WS (Yq L b y) c=WS L c
 | [],b,c,_,y,_=>rfl
 |x::L,b,c,hne,y,hy=>by
  have a:=ahu L hne hy;unfold WS Yq at a⊢;rw[OA]
  by_cases e:x.1=b
  ·rw[Nh e,Pr (by rw[hy,e];simpa using Pi hne),Pr (by rw[e];simpa using Pi hne)]
   exact a
  ·rw[Nf e]
   by_cases e2:x.1=c
   ·rw[Ql (by simpa using e2),Ql (by simpa using e2)]
   ·rw[Pr (by simpa using e2),Pr (by simpa using e2)]
    exact a
theorem afV(hr:Zq L){x:awV}(hx:x∈L):Ys L x.1=Nw/\∃hp:Xk L x.1<L.length,L[Xk L x.1]=x:=by
 obtain⟨i,a,rfl⟩:=NV hx;obtain⟨c,b⟩:=aic hr a;exact⟨c,by rw[b];exact a,by simp only[b]⟩
theorem akj(x:awV):(ZF x).1=x.1:=rfl
theorem ako(hb:Ym L R){b:Int}(h3:WY L b=3):aau L R b=((Yq L b ZF,R),0)/\Ym (Yq L b ZF) R:=by
 obtain⟨j,a⟩:=adl (L:=L) (b:=b) (by rw[h3];decide);have o:Zq L:=hb.1.2.2;obtain⟨m,c,q⟩:=afV o j;rw[a]at m c;have g:L[Xk L b]=WS L b:=by simp only[a]at q;exact q
 have s:L.set (Xk L b) (ZF L[Xk L b])=Yq L b ZF:=ahI o c (by rw[g,a]) ZF;have e:aau L R b=((Yq L b ZF,R),0):=by
  unfold aau;rw[Nh hb,MR c,OV,Nh ⟨m,by rw[g];exact h3⟩,s]
 obtain⟨u,p,_,r⟩:=arV hb j a h3;rw[e]at p;cases p;exact⟨e,r⟩
theorem aku(x:awV)(u id:Int):(aag x u id).1=x.1:=rfl
theorem aqo(hr:Zq L){b:Int}(h:WY L b=1\/WY L b=2)(id u:Int):ZH L b id u=(Yq L b (fun x=>aag x u id),0):=by
 obtain⟨m,e⟩:=adl (L:=L) (b:=b) (by omega);obtain⟨j,c,g⟩:=afV hr m;rw[e]at j c;have a:L[Xk L b]=WS L b:=by simp only[e]at g;exact g
 unfold ZH;rw[Nh j,MR c,OV,a,Nf (by show ¬WY L b=4;omega),Nf (by show ¬WY L b=3;omega),<-ahI hr c (by rw[a,e]) (fun x=>aag x u id),a]
theorem aqp(hr:Zq L){b:Int}(h:¬(WY L b=1\/WY L b=2))(hok:∀x∈L,Y7 x)(id u:Int):ZH L b id u=(L,if WY L b=3 then 12 else 8):=by
 rcases aeK L b with⟨g,c⟩|⟨p,c⟩
 ·obtain⟨e,j,m⟩:=afV hr g
  rw[c]at e j;have o:L[Xk L b]=WS L b:=by simp only[c]at m;exact m
  have q:=(hok _ g).2;unfold ZH;rw[Nh e,MR j,OV,o];have a:WY L b=3\/WY L b=4:=by
   have:WY L b=(WS L b).2.1:=rfl;omega
  rcases a with a|a
  ·rw[Nf (by show ¬WY L b=4;omega),Nh a,Nh a]
  ·rw[Nh a,Nf (by omega)]
 ·have e:Ys L b=false:=by
   cases hh:Ys L b
   ·rfl
   ·exact absurd (aib hh) (p _ (Nk _))
  unfold ZH;rw[Nf (by rw[e];simp),Nf (by rw[show WY L b=(WS L b).2.1 from rfl,c];decide)]
section
variable {G:Gt}
theorem Bs.Jh(h:Bs G)(o:List Ou):Bs {G with out:=o}:=⟨h.cfg,h.now,h.tab,h.tabLen,h.book,h.tok,h.hel,h.hea,h.seats,h.rets,h.since,h.wts,h.wnow,h.tms⟩
theorem Bs.GT(h:Bs G)(o:Ou):Bs (ZM G o):=h.Jh _
theorem Bs.IR(h:Bs G)(hb:Ym L R)(hs:∀l∈L,l.2.2.2.1<=G.now):Bs {G with liv:=L,req:=R}:=⟨h.cfg,h.now,h.tab,h.tabLen,hb,h.tok,h.hel,h.hea,h.seats,h.rets,hs,h.wts,h.wnow,h.tms⟩
theorem Bs.Hp(h:Bs G)(hn:0<=n/\n<=G.cfg.bb*G.cfg.bd):Bs {G with tok:=n}:=⟨h.cfg,h.now,h.tab,h.tabLen,h.book,hn,h.hel,h.hea,h.seats,h.rets,h.since,h.wts,h.wnow,h.tms⟩
theorem Bs.Ij(h:Bs G){H:List He}(hl:H.length=12)(hh:∀x∈H,ZO G.cfg.wn x.marks.length x.out x.till x.times):Bs {G with hea:=H}:=⟨h.cfg,h.now,h.tab,h.tabLen,h.book,h.tok,hl,hh,h.seats,h.rets,h.since,h.wts,h.wnow,h.tms⟩
theorem Bs.Jg(h:Bs G){a:List Int}(ha:XI a):Bs {G with wts:=a}:=⟨h.cfg,h.now,h.tab,h.tabLen,h.book,h.tok,h.hel,h.hea,h.seats,h.rets,h.since,ha,h.wnow,h.tms⟩
theorem akL{b:Int}{y:awV->awV}(h:l∈Yq L b y):∃x∈L,l=x\/l=y x:=by
 obtain⟨x,a,rfl⟩:=ZAd.1 h;refine⟨x,a,?_⟩
 split
 ·exact NF rfl
 ·exact Nt rfl
theorem ahh(h:Bs G)(b:Int):Yf G b=if WY G.liv b=3/\Zr G.fls b=Nb then aeQ {G with liv:=Yq G.liv b ZF} b (WS G.liv b).2.2.2.2.2 else G:=by
 unfold Yf
 split
 case isTrue hc =>
  rw[(ako h.book hc.1).1]
 case isFalse hc=>rfl
theorem Bs.Ii(h:Bs G)(b:Int):Bs (Yf G b):=by
 rw[ahh h]
 split
 case isTrue hc =>
  refine Bs.GT (Bs.IR (R:=G.req) h (ako h.book hc.1).2 fun l hl=>?_) _;obtain⟨x,a,rfl|rfl⟩:=akL hl
  ·exact h.since _ a
  ·exact h.since x a
 case isFalse hc=>exact h
theorem Bs.IE(h:Bs G){b:Int}(hb:0<=b/\b<12):ZO G.cfg.wn (G.hea.getD b.toNat XM).marks.length (G.hea.getD b.toNat XM).out (G.hea.getD b.toNat XM).till (G.hea.getD b.toNat XM).times:=by
 have a:b.toNat<G.hea.length:=by rw[h.hel];omega
 have e:G.hea.getD b.toNat XM=G.hea[b.toNat]:=by simp[a]
 rw[e];exact h.hea _ (Nk a)
theorem akx(hd:1<=d):1<=aaL d t/\aaL d t<=500:=by
 unfold aaL;have a:(1:Int)<=2 ^ t.toNat:=by
  have:=Nat.one_le_two_pow (n:=t.toNat)
  exact_mod_cast this
 have b:1<=d*2 ^ t.toNat:=by
  have:=Px hd a (by omega) (by omega);omega
 omega
theorem ap9{f:Int}{l:List Bool}{o:Bool}{u:Int}{x:Bool}{now:Int}{may:Bool}(hw:ZT n f d)(hnow:0<=now/\now<=1099511627776)(hh:ZO n l.length o u t):
  (Zt n f d l o u t x now may).2.2=0/\ZO n (Zt n f d l o u t x now may).1.1.length (Zt n f d l o u t x now may).1.2.1 (Zt n f d l o u t x now may).1.2.2.1 (Zt n f d l o u t x now may).1.2.2.2:=by
 have a:YR n f d l.length o u t now=0:=by unfold YR;rw[Nh hw,Nh hnow,Nh hh]
 have j:=alJ (l:=l) x hh.1 hw.1.1;obtain⟨m,c,e,b⟩:=hh;have g:=akx (d:=d) (t:=t) hw.2.2.1;unfold Zt;rw[Nh a]
 split
 ·refine⟨rfl,by simp;omega,?_,?_,Nt rfl⟩
  ·show 0<=min (t+1) 10/\min (t+1) 10<=10
   omega
  ·show 0<=now+aaL d t/\now+aaL d t<=1099511628276
   omega
 ·exact⟨rfl,by show((Zj n l x).length:Int)<=n;omega,c,e,b⟩
theorem aoo{f:Int}{l:List Bool}{o:Bool}{u:Int}{now:Int}(hw:ZT n f d)(hnow:0<=now/\now<=1099511627776)(hh:ZO n l.length o u t):
  Ze n f d l o u t now=if o=Nw/\u<=now then((l,Nb,0,t),Nw,0)else((l,o,u,t),Nb,0):=by
 have a:YR n f d l.length o u t now=0:=by unfold YR;rw[Nh hw,Nh hnow,Nh hh]
 unfold Ze;rw[Nh a]
theorem aac{α:Type}{l:List α}{x y:α}(h:y∈l.set i x):y=x\/y∈l:=by
 rcases OB h with h|h
 ·exact NF h
 ·exact Nt h
theorem Bs.GN(h:Bs G):0<=G.now/\G.now<=1099511627776:=by have:=h.now;omega
theorem Bs.Gx(h:Bs G):ZT G.cfg.wn G.cfg.wf G.cfg.wh:=h.cfg.2.2.2.2.2.2.2.2.2.2.2
theorem Bs.GM(h:Bs G):Zp G.cfg.bn G.cfg.bd G.cfg.bb:=h.cfg.2.2.2.2.2.2.2.2.2.2.1
theorem Bs.GA(h:Bs G){b:Int}(hb:0<=b/\b<12)(x:Bool):Bs (Yh G b x):=by
 refine h.Ij (by rw[NA];exact h.hel) fun y a=>?_
 rcases aac a with rfl|a
 ·exact(ap9 h.Gx h.GN (h.IE hb)).2
 ·exact h.hea y a
theorem ahw{α β:Type}(f:α->β){l:List α}(hi:i<l.length){y:α}(hy:f y=f l[i]):(l.set i y).map f=l.map f:=by
 rw[List.map_set,hy];apply PX
 ·simp
 ·intro k a b
  simp only[Pc,QZ]
  split
  ·rename_i e;subst e;rfl
  ·rfl
theorem abe{l:List Fl}(hr:l.Pairwise (fun a b=>a.slot<b.slot))(hi:i<l.length)(hy:y.slot=l[i].slot):f∈l.set i y↔f=y\/(f∈l/\f.slot≠y.slot):=by
 have m:=List.pairwise_iff_getElem.1 hr;constructor
 ·intro h
  obtain⟨k,j,rfl⟩:=NV h;rw[Pc];have c:k<l.length:=by simpa using j
  split
  ·exact Nt rfl
  ·rename_i e
   refine NF ⟨Nk c,?_⟩;rw[hy];rcases QM e with g|g
   ·have:=m i k hi c g;omega
   ·have:=m k i c hi g;omega
 ·rintro(rfl|⟨h1,h2⟩)
  ·exact List.mem_iff_getElem.2 ⟨i,by simpa using hi,by simp⟩
  ·obtain⟨k,j,rfl⟩:=NV h1
   refine List.mem_iff_getElem.2 ⟨k,by simpa using j,?_⟩;rw[Pc,Nf];intro e;subst e;exact h2 hy.symm
theorem Bs.Hd(h:Bs G)(hi:i<G.fls.length)(hs:f.F8=G.fls[i].F8)(hd:f.due=G.fls[i].due)(hr:0<=f.ret/\f.ret<=G.cfg.ret):Bs (Y4 G i f):=by
 have b:f.slot=G.fls[i].slot:=congrArg Prod.fst hs;refine⟨h.cfg,h.now,h.tab,h.tabLen,h.book,h.tok,h.hel,h.hea,?_,fun x a=>?_,h.since,h.wts,h.wnow,fun t=>?_⟩
 ·show(G.fls.set i f).map Fl.F8=_
  rw[ahw Fl.F8 hi hs];exact h.seats
 ·rcases aac a with rfl|a
  ·exact hr
  ·exact h.rets x a
 ·show G.tms t↔∃x∈G.fls.set i f,_
  rw[h.tms t];constructor
  ·rintro⟨x,a,e1,e2⟩
   by_cases e:x.slot=f.slot
   ·have c:=h.Ic a (Nk hi) (e.trans b)
    subst c;exact⟨f,(abe h.Ge hi b).2 (Nt rfl),by rw[e1,hd,b],by rw[hd];exact e2⟩
   ·exact⟨x,(abe h.Ge hi b).2 (NF ⟨a,e⟩),e1,e2⟩
  ·rintro⟨x,a,e1,e2⟩
   rcases(abe h.Ge hi b).1 a with rfl|⟨a,_⟩
   ·exact⟨_,Nk hi,by rw[e1,hd,b],by rw[<-hd];exact e2⟩
   ·exact⟨x,a,e1,e2⟩
theorem Bs.It(h:Bs G)(hi:i<G.fls.length)(hn:1<=n/\n<=500):Bs (YW G i n):=by
 have c:=h.wnow;have b:({Xs G i with due:=G.now+n}:Fl).slot=G.fls[i].slot:=by rw[XA hi]
 refine⟨h.cfg,h.now,h.tab,h.tabLen,h.book,h.tok,h.hel,h.hea,?_,fun x a=>?_,h.since,h.wts,h.wnow,fun t=>?_⟩
 ·show(G.fls.set i _).map Fl.F8=_
  rw[ahw Fl.F8 hi (by rw[XA hi])];exact h.seats
 ·rcases aac a with rfl|a
  ·rw[XA hi]
   exact h.rets G.fls[i] (Nk hi)
  ·exact h.rets x a
 ·show((G.tms t/\t.2≠(Xs G i).slot)\/t=(G.now+n,(Xs G i).slot))↔∃x∈G.fls.set i {Xs G i with due:=G.now+n},_
  rw[h.tms t];constructor
  ·rintro(⟨⟨x,a,e1,e2⟩,e3⟩|e)
   ·exact⟨x,(abe h.Ge hi b).2 (NF ⟨a,fun e=>e3 (by rw[e1];exact e)⟩),e1,e2⟩
   ·exact⟨_,(abe h.Ge hi b).2 (Nt rfl),e,by show G.wnow<G.now+n;omega⟩
  ·rintro⟨x,a,e1,e2⟩
   rcases(abe h.Ge hi b).1 a with rfl|⟨a,hne⟩
   ·exact NF e1
   ·exact Nt ⟨⟨x,a,e1,e2⟩,by rw[e1];exact hne⟩
theorem Bs.Iw(h:Bs G)(hf:f∈G.fls):Bs {G with tab:=(ZQ G.tab f.slot f.gen).1,fls:=Yl G.fls f.slot f.gen,tms:=fun t=>G.tms t/\t.2≠f.slot}:=by
 obtain⟨k,g,e,m⟩:=h.slot hf;have o:=(h.F9 hf).2.1;have j:=h.F9 hf;refine⟨h.cfg,h.now,?_,?_,h.book,h.tok,h.hel,h.hea,?_,fun x a=>?_,h.since,h.wts,h.wnow,fun t=>?_⟩
 ·show Z6 (ZQ G.tab f.slot f.gen).1
  rw[h.Hj hf];refine aja h.tab ?_;unfold Yt;rw[Nf (by simp)];exact⟨by show 0<=f.gen+1/\f.gen+1<=1048576;omega,rfl,rfl⟩
 ·show((ZQ G.tab f.slot f.gen).1.length:Int)=_
  rw[h.Hj hf,NA];exact h.tabLen
 ·show(Yl G.fls f.slot f.gen).map Fl.F8=Xx 0 (ZQ G.tab f.slot f.gen).1
  rw[h.Hj hf,h.GL hf];show _=Xx 0 (G.tab.set f.slot.toNat (f.gen+1,Nb,0,0));rw[e,NR,ak6 rfl g,<-h.seats,List.filter_map]
  congr 1
  refine List.filter_congr fun x _=>?_
  simp[Fl.F8]
 ·have c:x∈Yl G.fls f.slot f.gen:=a
  rw[h.GL hf]at c;exact h.rets x (ZAf.1 c).1
 ·show(G.tms t/\t.2≠f.slot)↔∃x∈Yl G.fls f.slot f.gen,_
  rw[h.GL hf,h.tms t];constructor
  ·rintro⟨⟨x,a,e3,e4⟩,b⟩
   refine⟨x,ZAf.2 ⟨a,?_⟩,e3,e4⟩;rw[e3]at b
   simpa using b
  ·rintro⟨x,a,e3,e4⟩
   obtain⟨a,b⟩:=ZAf.1 a;refine⟨⟨x,a,e3,e4⟩,?_⟩;rw[e3]
   simpa using b
theorem Bs.Hc(h:Bs G)(hf:f∈G.fls)(kind why:Int):Bs (Yg G f kind why):=((h.Iw hf).GT _).Ii _
theorem Bs.Ig(h:Bs G)(hi:i<G.fls.length){b:Int}(hb:0<=b/\b<12)(hr:G.fls[i].ret+1<=G.cfg.ret):
  Bs (Y4 {G with tab:=(Y0 G.tab G.fls[i].slot G.fls[i].gen b).1} i {G.fls[i]with be:=b,ret:=G.fls[i].ret+1}):=by
 have c:=Nk hi;obtain⟨f,m⟩:∃f,f=G.fls[i]:=⟨_,rfl⟩;rw[<-m]at hr c⊢;obtain⟨k,w,p,u⟩:=h.slot c;have q:=h.F9 c;have o:({f with be:=b,ret:=f.ret+1}:Fl).slot=G.fls[i].slot:=by rw[<-m]
 refine⟨h.cfg,h.now,?_,?_,h.book,h.tok,h.hel,h.hea,?_,fun x a=>?_,h.since,h.wts,h.wnow,fun t=>?_⟩
 ·show Z6 (Y0 G.tab f.slot f.gen b).1
  rw[h.Ho c hb];refine aja h.tab ?_;unfold Yt;rw[Nh rfl];exact⟨q.2.1,q.2.2.1,hb⟩
 ·show((Y0 G.tab f.slot f.gen b).1.length:Int)=_
  rw[h.Ho c hb,NA];exact h.tabLen
 ·show(G.fls.set i {f with be:=b,ret:=f.ret+1}).map Fl.F8=Xx 0 (Y0 G.tab f.slot f.gen b).1
  rw[h.Ho c hb];show _=Xx 0 (G.tab.set f.slot.toNat (f.gen,Nw,f.key,b));rw[p,NR,ak9 rfl w (by rw[u]),<-h.seats,List.map_map];apply PX
  ·simp
  ·intro j A z
   simp only[QZ,Pc,Function.comp_apply];have v:j<G.fls.length:=by simpa using z
   by_cases e:i=j
   ·subst e
    rw[Nh rfl,<-m,Nh (by show f.slot=0+(k:Int);omega)];simp[Fl.F8,p]
   ·rw[Nf e,Nf]
    show ¬G.fls[j].slot=0+(k:Int);intro g;have:=h.Ie hi;have r:=h.Ie v;rw[g,Int.zero_add,<-p,m,this]at r;exact e r
 ·rcases aac a with rfl|a
  ·have:=h.rets f c
   exact⟨by show 0<=f.ret+1;omega,hr⟩
  ·exact h.rets x a
 ·show G.tms t↔∃x∈G.fls.set i {f with be:=b,ret:=f.ret+1},_
  rw[h.tms t];constructor
  ·rintro⟨x,a,g,e4⟩
   by_cases e:x.slot=f.slot
   ·have s:=h.Ic a c e
    subst s;exact⟨_,(abe h.Ge hi o).2 (Nt rfl),g,e4⟩
   ·exact⟨x,(abe h.Ge hi o).2 (NF ⟨a,e⟩),g,e4⟩
  ·rintro⟨x,a,g,e4⟩
   rcases(abe h.Ge hi o).1 a with rfl|⟨a,_⟩
   ·exact⟨f,c,g,e4⟩
   ·exact⟨x,a,g,e4⟩
end
section
variable {G:Gt}
theorem akT{W:awV->Int}{F:awV->Int}:∀ {L:List awV} {n:Int},Zq L->(∀l∈L,n<=l.1/\l.1<=11/\(0<=W l/\W l<=8)/\0<=F l/\F l<=40)->adC n (L.map fun l=>(l.1,W l,F l))
 | [],n,_,_=>rfl
 |x::L,n,hr,h=>by
  obtain⟨e,g⟩:=ZAe.1 hr;obtain⟨b,p,c,o,a⟩:=h x (by simp);rw[OA];refine amu.2 ⟨⟨b,by show x.1<12;omega,c,o,a⟩,akT g fun l hl=>?_⟩;obtain⟨_,m,j⟩:=h l (NB _ hl);exact⟨by show x.1+1<=l.1;have:=e l hl;omega,m,j⟩
theorem aj7(fs:List Fl)(b:Int):abu fs b<=fs.length:=List.countP_le_length
theorem aq9{wg gone warm:Int}(h:1<=wg/\wg<=8)(hg:0<=gone)(hw:0<=warm):1<=aw1 wg gone warm/\aw1 wg gone warm<=wg:=by
 unfold aw1
 split
 ·omega
 ·rename_i hlt
  have a:wg*gone / warm<=wg:=by
   refine Int.ediv_le_of_le_mul (by omega) ?_;exact Int.mul_le_mul_of_nonneg_left (by omega) (by omega)
  omega
theorem Bs.lf(h:Bs G)(hl:l∈G.liv):Y7 l:=h.book.1.2.1 l hl
theorem Bs.Jp(h:Bs G)(hl:l∈G.liv):0<=abV G l/\abV G l<=l.2.2.1/\l.2.2.1<=8:=by
 have b:=(h.lf hl).1;have e:=h.since l hl;have a:0<=G.cfg.warm:=h.cfg.2.2.2.2.1.1;have c:=aq9 (wg:=l.2.2.1) (gone:=G.now-l.2.2.2.1) (warm:=G.cfg.warm) b.2.1 (by omega) a;unfold abV
 split <;> omega
theorem Bs.Jt(h:Bs G)(hfs:fs.length<=40):acv (aab G fs):=by
 refine⟨?_,?_⟩
 ·have a:=h.book.1.1
  have c:=O1 (fun l:awV=>l.2.1 == 2) G.liv;simp only[aab,N0];omega
 ·refine akT (h.book.1.2.2.filter _) fun l hl=>?_
  have b:=(ZAf.1 hl).1;have a:=(h.lf b).1;have c:=h.Jp b;have e:=aj7 fs l.1;exact⟨a.1.1,a.1.2,⟨c.1,by omega⟩,by omega,by omega⟩
theorem Bs.Jm(h:Bs G){n:Nat}(hn:n<=40):ab3 G.cfg.num G.cfg.den n:=⟨⟨h.cfg.2.1.1,h.cfg.2.1.2,h.cfg.2.2.1⟩,by omega,by omega⟩
theorem aoz{l:List Ld}{a b c:Int}(hok:acv l){ws:List Int}{t:Nat}(h:acw l (aax a b c l) ws t=MI i):i<l.length:=by
 unfold acw at h;cases h1:Zm l (aax a b c l) ws t with
 |some j =>
  rw[h1]at h;cases h;exact(agp h1).1
 |none =>
  rw[h1]at h;exact(asN (ws:=ws) (t:=t) h (amw hok)).1
theorem Bs.Ib(h:Bs G){key:Int}(hfs:fs.length<=40)(hc:(XD G key fs).2=0):WY G.liv (XD G key fs).1=2/\0<=(XD G key fs).1/\(XD G key fs).1<12:=by
 unfold XD at hc⊢;generalize ahS G key=ws at hc⊢;have b:=h.Jt hfs;unfold ab6 at hc⊢;rw[Nh (afa.2 b),Nh (h.Jm hfs)]at hc⊢
 split at hc
 case isFalse=>simp at hc
 case isTrue h1 =>
  rw[Nh h1]
  split at hc
  case isFalse=>simp at hc
  case isTrue h2 =>
   rw[Nh h2];cases hch:acw (aab G fs) (aax G.cfg.num G.cfg.den (fs.length:Int) (aab G fs)) ws G.cfg.tries.toNat with
   |none=>rw[hch]at hc;simp[abF]at hc
   |some i =>
    have c:=aoz b hch;have j:(aab G fs)[i]∈aab G fs:=Nk c;have e:(abF (aab G fs) (MI i)).1=(aab G fs)[i].1:=by simp[abF,c]
    rw[e];obtain⟨l,a,g⟩:=ZAd.1 j;obtain⟨a,o⟩:=ZAf.1 a;rw[<-g];have m:=(h.lf a).1.1;refine⟨?_,m.1,by show l.1<12;omega⟩;show(WS G.liv l.1).2.1=2;rw[abd h.book.1.2.2 a]
    simpa using o
theorem ahT(fs:List Fl)(s g:Int):(Yl fs s g).length<=fs.length:=O1 _ _
theorem ahK{b x:Int}(hb:Zp n d b)(hx:0<=x/\x<=b*d)(h:(Zh n d b x).2=0):Zh n d b x=(x-d,0)/\d<=x:=by
 have a:YN n d b x=0:=ajO.2 ⟨hb,hx⟩;unfold Zh at h⊢;rw[Nh a]at h⊢
 split at h
 ·simp at h
 ·rename_i h1
  exact⟨Nf h1,by omega⟩
theorem ahf{b x:Int}(hb:Zp n d b)(hx:0<=x/\x<=b*d):aa9 n d b x=(min (x+n) (b*d),0):=by
 have a:YN n d b x=0:=ajO.2 ⟨hb,hx⟩;unfold aa9;rw[Nh a]
theorem Bs.conn(h:Bs G):1<=G.cfg.conn/\G.cfg.conn<=500:=h.cfg.2.2.2.2.2.2.2.1
theorem Bs.idle(h:Bs G):1<=G.cfg.idle/\G.cfg.idle<=500:=h.cfg.2.2.2.2.2.2.1
theorem Bs.drain(h:Bs G):1<=G.cfg.drain/\G.cfg.drain<=500:=h.cfg.2.2.2.2.2.1
theorem Bs.I1(h:Bs G)(hi:i<G.fls.length){b:Int}(hb:0<=b/\b<12)(hr:G.fls[i].ret+1<=G.cfg.ret):Bs (ZL G i b):=by
 have a:=h.Ig hi hb hr;unfold ZL;simp only[XA hi];refine Bs.Ii (Bs.GT (Bs.It a ?_ h.conn) _) _;show i<(G.fls.set i _).length;rw[NA];exact hi
theorem Bs.I8(h:Bs G)(hi:i<G.fls.length)(why:Int):Bs (YP G i why):=by
 have b:=Nk hi;have m:=(h.F9 b).2.2.2;have a:=h.GA m Nw;have u:=h.rets _ b;unfold YP;simp only[XA hi]
 split
 ·exact a.Hc b _ _
 ·rename_i hn
  have o:(Zh G.cfg.bn G.cfg.bd G.cfg.bb G.tok).2=0:=by
   by_cases e:(Zh G.cfg.bn G.cfg.bd G.cfg.bb G.tok).2=0
   ·exact e
   ·exact absurd (NF e) hn
  have p:¬G.fls[i].ret=G.cfg.ret:=fun e=>hn (Nt e)
  obtain⟨j,s⟩:=ahK h.GM h.tok o
  split
  ·exact a.Hc b _ _
  ·rename_i c
   have c:(XD (Yh G G.fls[i].be Nw) G.fls[i].key (Yl G.fls G.fls[i].slot G.fls[i].gen)).2=0:=by
    by_cases e:(XD (Yh G G.fls[i].be Nw) G.fls[i].key (Yl G.fls G.fls[i].slot G.fls[i].gen)).2=0
    ·exact e
    ·exact absurd e c
   have g:=a.Ib (Nm (ahT _ _ _) h.Gb) c;have r:=h.GM.2.1;have q:=h.tok;refine Bs.I1 (Bs.Hp a ?_) hi g.2 (by show G.fls[i].ret+1<=G.cfg.ret;omega);rw[j];show 0<=G.tok-G.cfg.bd/\G.tok-G.cfg.bd<=G.cfg.bb*G.cfg.bd;omega
theorem ad4(fs:List Fl)(s:Int):Y3 fs s<=fs.length:=List.findIdx_le_length
theorem ad1(l:List α)(x:α)(hi:i<=l.length):(Xi l x i).length=l.length+1:=by
 simp only[Xi,Ns,Ox,NH,NJ];omega
theorem apB{β:Type}(f:α->β)(l:List α)(x:α)(i:Nat):(Xi l x i).map f=Xi (l.map f) (f x) i:=by
 simp[Xi,List.map_take,List.map_drop]
theorem abT{α:Type}{l:List α}{x y:α}:y∈Xi l x i↔y=x\/y∈l:=by
 unfold Xi;constructor
 ·intro h
  rcases QF.1 h with h|h
  ·exact NF (List.mem_of_mem_take h)
  ·rcases OO.1 h with h|h
   ·exact Nt h
   ·exact NF (List.mem_of_mem_drop h)
 ·rintro(rfl|h)
  ·simp
  ·rw[<-Oo i l]at h
   rcases QF.1 h with h|h
   ·exact List.mem_append_left _ h
   ·exact Qq _ (NB _ h)
theorem akA(l:List α)(x:α)(hi:i<=l.length):(Xi l x i)[i]'(by rw[ad1 l x hi];omega)=x:=by
 unfold Xi;rw[List.getElem_append_right (by simp;omega)];simp[P1 hi]
theorem Bs.Jn(h:Bs G)(hfree:G.tab.any Y1=Nw){key b:Int}(hk:0<=key/\key<=4294967295)(hb:0<=b/\b<12):Bs (abv G key b):=by
 obtain⟨k,g,e,m,j,_⟩:=h.Gd hfree hk hb;have c:0<=G.cfg.ret:=h.cfg.2.2.2.2.2.2.2.2.1.1;have o:=h.wnow;unfold abv;rw[e];refine⟨h.cfg,h.now,?_,?_,h.book,h.tok,h.hel,h.hea,?_,fun x a=>?_,h.since,h.wts,h.wnow,fun t=>?_⟩
 ·refine aja h.tab ?_
  unfold Yt;rw[Nh rfl];exact⟨j,hk,hb⟩
 ·show((G.tab.set k _).length:Int)=_
  rw[NA];exact h.tabLen
 ·show(Xi G.fls _ (Y3 G.fls (k:Int))).map Fl.F8=Xx 0 (G.tab.set k (G.tab[k].1,Nw,key,b))
  rw[apB,ala rfl g m,<-h.seats]
  congr 1
  ·simp[Fl.F8]
  ·unfold Y3
   rw[List.findIdx_map]
   congr 1
   funext f
   simp[Fl.F8]
 ·rcases abT.1 a with rfl|a
  ·exact⟨Qh _,c⟩
  ·exact h.rets x a
 ·show G.tms t↔∃f∈Xi G.fls _ _,_
  rw[h.tms t];constructor
  ·rintro⟨x,a,e1,e2⟩
   exact⟨x,abT.2 (NF a),e1,e2⟩
  ·rintro⟨x,a,e1,e2⟩
   rcases abT.1 a with rfl|a
   ·exact absurd e2 (by show ¬G.wnow<0;omega)
   ·exact⟨x,a,e1,e2⟩
theorem Bs.Mp(h:Bs G){key:Int}(hk:0<=key/\key<=4294967295):Bs (aaI G key):=by
 unfold aaI
 split
 ·exact h.GT _
 ·rename_i a
  have a:G.tab.any Y1=true:=by cases e:G.tab.any Y1;exact absurd e a;rfl
  simp only[]
  split
  ·exact h.GT _
  ·rename_i b
   have b:(XD G key G.fls).2=0:=by
    by_cases e:(XD G key G.fls).2=0
    ·exact e
    ·exact absurd e b
   have g:=h.Ib h.Gb b;have m:=h.Jn a hk g.2;have j:=h.tok;have c:=h.GM;refine Bs.GT (Bs.Hp (Bs.It m ?_ h.conn) ?_) _
   ·show Y3 G.fls _<(Xi G.fls _ (Y3 G.fls _)).length
    rw[ad1 _ _ (ad4 _ _)];have:=ad4 G.fls (Y8 G.tab key (XD G key G.fls).1).2.1.1;omega
   ·rw[ahf c j]
    show 0<=min (G.tok+G.cfg.bn) (G.cfg.bb*G.cfg.bd)/\min (G.tok+G.cfg.bn) (G.cfg.bb*G.cfg.bd)<=G.cfg.bb*G.cfg.bd;have:=c.1;omega
end
section
variable {G:Gt}
theorem aj0(hb:Ym L R){r:aw0}{now drain:Int}(ha:acT r now drain):
  (ZV R r.1<R.length/\ZU L R r now drain=((L,R),(R[ZV R r.1]?.getD (0,0,0,0,0)).2.2.2.2,Nb,0)) \/
  ((∀q∈R,q.1≠r.1)/\R.length=100/\ZU L R r now drain=((L,R),9,Nb,0)) \/
  ((∀q∈R,q.1≠r.1)/\R.length<100/\ZU L R r now drain=((Zl L R r (now+drain)).1,(Zl L R r (now+drain)).2,Nw,0)):=by
 by_cases h1:ZV R r.1<R.length
 ·exact Nt ⟨h1,arR hb ha h1⟩
 ·have a:=asn h1
  by_cases h2:R.length=100
  ·exact NF (Nt ⟨a,h2,arP hb h2 ha a⟩)
  ·have b:=hb.2.1
   exact NF (NF ⟨a,by omega,arQ hb (by omega) ha a⟩)
theorem aom(hb:Ym L R){r:aw0}{now drain:Int}(ha:acT r now drain)(hs:∀l∈L,l.2.2.2.1<=now):
  (ZU L R r now drain).2.2.2=0/\Ym (ZU L R r now drain).1.1 (ZU L R r now drain).1.2/\∀l∈(ZU L R r now drain).1.1,l.2.2.2.1<=now:=by
 rcases aj0 hb ha with⟨_,e⟩|⟨_,_,e⟩|⟨g,b,e⟩
 ·rw[e];exact⟨rfl,hb,hs⟩
 ·rw[e];exact⟨rfl,hb,hs⟩
 ·rw[e]
  have m:=ha.2.1;have o:=ha.2.2;obtain⟨c,_,_,a⟩:=asB hb b ha.1 g (u:=now+drain) (by omega);refine⟨rfl,c,fun l hl=>?_⟩;rcases a l hl with h|⟨_,rfl⟩|⟨y,j,rfl⟩
  ·exact hs l h
  ·show(0:Int)<=now
   omega
  ·exact hs y j
theorem Bs.Jd(h:Bs G){e:Ev}(he:0<=e.req/\e.req<=1048576){kind:Int}(hk:kind=1\/kind=2):acT (e.req,kind,e.be,e.wt,0) G.now G.cfg.drain:=by
 have a:=h.now;have b:=h.drain;exact⟨⟨he,hk⟩,by omega,by omega⟩
theorem Bs.Mc(h:Bs G){e:Ev}(he:0<=e.req/\e.req<=1048576){kind:Int}(hk:kind=1\/kind=2):Bs (Yv G kind e):=by
 obtain⟨_,a,b⟩:=aom h.book (h.Jd he hk) h.since;exact Bs.GT (Bs.IR h a b) _
theorem Bs.Iv(h:Bs G){b:Int}(hs:WY G.liv b≠0):(0<=b/\b<12)/\1<=(WS G.liv b).2.2.1/\(WS G.liv b).2.2.1<=8:=by
 obtain⟨c,e⟩:=adl hs;have a:=(h.lf c).1;have g:=a.1;rw[e]at g;exact⟨by omega,a.2.1⟩
theorem apa(hn:1<=n):ZO n XM.marks.length XM.out XM.till XM.times:=⟨by show((0:Nat):Int)<=n;omega,⟨by decide,by decide⟩,⟨by decide,by decide⟩,NF rfl⟩
theorem Bs.I4(h:Bs G){b:Int}(hs:WY G.liv b≠0):Bs (YX G b):=by
 have c:=h.Iv hs;refine Bs.Jg (Bs.Ij (H:=G.hea.set b.toNat XM) h (by rw[NA];exact h.hel) fun x a=>?_) (h.wts.F4 b.toNat (WS G.liv b).2.2.1 (by omega) (by omega));rcases aac a with rfl|a
 ·exact apa h.Gx.1.1
 ·exact h.hea x a
theorem alm(l:List Int):∀(G:Gt),Bs G->(∀b∈l,WY G.liv b≠0)->Bs (l.foldl YX G):=by
 induction l with
 |nil=>exact fun G h _=>h
 |cons b l ih=>exact fun G h hs=>ih _ (h.I4 (hs b (by simp))) fun c hc=>hs c (NB _ hc)
theorem alo(n:Int)(x:awV):(XH n x).1=x.1:=by unfold XH;split <;> rfl
theorem aht(f:awV->awV)(hf:∀x,(f x).1=x.1):∀(L:List awV) (b:Int),WS (L.map f) b=if ∃x∈L,x.1=b then f (WS L b)else aa1
 | [],b=>by rw[Nf (by simp)];rfl
 |x::L,b=>by
  have j:=aht f hf L b
  by_cases e:x.1=b
  ·have g:WS ((x::L).map f) b=f x:=by unfold WS;rw[OA,Ql (by rw[hf];simpa using e)];rfl
   have c:WS (x::L) b=x:=by unfold WS;rw[Ql (by simpa using e)];rfl
   rw[g,c,Nh ⟨x,by simp,e⟩]
  ·have g:WS ((x::L).map f) b=WS (L.map f) b:=by unfold WS;rw[OA,Pr (by rw[hf];simpa using e)]
   have c:WS (x::L) b=WS L b:=by unfold WS;rw[Pr (by simpa using e)]
   have m:(∃y∈x::L,y.1=b)↔∃y∈L,y.1=b:=⟨fun⟨y,a,hb⟩=>by
    rcases OO.1 a with rfl|a
    ·exact absurd hb e
    ·exact⟨y,a,hb⟩,fun⟨y,a,hb⟩=>⟨y,NB _ a,hb⟩⟩
   rw[g,c,j];simp only[m]
theorem af3(h:Bs G):YH G=(XW G.liv).foldl YX {G with liv:=G.liv.map (XH G.now)}:=by
 unfold YH;rw[amf h.book h.GN]
theorem ad2{b:Int}:b∈XW L↔∃x∈L,x.2.1=1/\x.1=b:=by
 unfold XW;constructor
 ·intro h
  obtain⟨x,a,rfl⟩:=ZAd.1 h;obtain⟨a,c⟩:=ZAf.1 a;exact⟨x,a,by simpa using c,rfl⟩
 ·rintro⟨x,a,c,rfl⟩
  exact Ri (ZAf.2 ⟨a,by simpa using c⟩)
theorem Bs.IP(h:Bs G):Bs {G with liv:=G.liv.map (XH G.now)}:=by
 refine Bs.IR (R:=G.req) h (asG h.book h.GN) fun l hl=>?_
 obtain⟨x,a,rfl⟩:=ZAd.1 hl;unfold XH
 split
 ·exact Qh _
 ·exact h.since x a
theorem alr(h:Bs G){b:Int}(hb:b∈XW G.liv):WY (G.liv.map (XH G.now)) b=2:=by
 obtain⟨x,a,c,rfl⟩:=ad2.1 hb;show(WS (G.liv.map (XH G.now)) x.1).2.1=2;rw[aht _ (alo _),Nh ⟨x,a,rfl⟩,abd h.book.1.2.2 a];unfold XH;rw[Nh c]
theorem Bs.Jf(h:Bs G):Bs (YH G):=by
 rw[af3 h];refine alm _ _ h.IP fun b hb=>?_
 show WY (G.liv.map (XH G.now)) b≠0;rw[alr h hb]
 decide
theorem aj1(h:Bs G){x:He}(hx:x∈G.hea):abO G x=if x.out=Nw/\x.till<=G.now then⟨x.marks,Nb,0,x.times⟩else x:=by
 unfold abO;rw[aoo h.Gx h.GN (h.hea x hx)]
 split <;> rfl
theorem Bs.I2(h:Bs G):Bs (aaC G):=by
 refine h.Ij (by rw[N0];exact h.hel) fun y hy=>?_
 obtain⟨x,b,rfl⟩:=ZAd.1 hy;have a:=h.hea x b;rw[aj1 h b]
 split
 ·exact⟨a.1,a.2.1,⟨Qh 0,by show(0:Int)<=1099511628276;omega⟩,NF rfl⟩
 ·exact a
def adi(G G':Gt)(s:Int):Prop:=∀f:Fl,f.slot≠s->(f∈G'.fls↔f∈G.fls)
theorem afJ(b:Int):(Yf G b).fls=G.fls:=by
 unfold Yf
 split <;> rfl
theorem ad3(h:Bs G)(hf:f∈G.fls)(kind why:Int):adi G (Yg G f kind why) f.slot:=by
 intro x a;unfold Yg;rw[afJ];show x∈Yl G.fls f.slot f.gen↔_;rw[h.GL hf,ZAf];exact⟨fun h=>h.1,fun h=>⟨h,by simpa using a⟩⟩
theorem aqc(h:Bs G)(hi:i<G.fls.length)(hy:y.slot=G.fls[i].slot){x:Fl}(hx:x.slot≠G.fls[i].slot):x∈G.fls.set i y↔x∈G.fls:=by
 rw[abe h.Ge hi hy];constructor
 ·rintro(rfl|h)
  ·exact absurd hy hx
  ·exact h.1
 ·exact fun h=>NF ⟨h,by rw[hy];exact hx⟩
theorem akZ(hi:i<G.fls.length)(b:Int):(ZL G i b).fls=G.fls.set i {G.fls[i]with be:=b,ret:=G.fls[i].ret+1,due:=G.now+G.cfg.conn}:=by
 unfold ZL;simp only[XA hi,afJ];show(G.fls.set i _).set i _=_;rw[List.set_set]
 congr 1
 have e:Xs (Y4 {G with tab:=(Y0 G.tab G.fls[i].slot G.fls[i].gen b).1} i {G.fls[i]with be:=b,ret:=G.fls[i].ret+1}) i={G.fls[i]with be:=b,ret:=G.fls[i].ret+1}:=by
  simp[Xs,Y4,hi]
 rw[e];rfl
theorem akU(h:Bs G)(hi:i<G.fls.length)(why:Int):adi G (YP G i why) G.fls[i].slot:=by
 have a:=Nk hi;have e:=(h.F9 a).2.2.2;have c:=h.GA e Nw;intro x b;unfold YP;simp only[XA hi]
 split
 ·exact ad3 c a _ _ x b
 ·split
  ·exact ad3 c a _ _ x b
  ·rw[akZ (G:={Yh G G.fls[i].be Nw with tok:=_}) hi]
   refine aqc h hi ?_ b;rfl
theorem Bs.Jy(h:Bs G)(hf:f∈G.fls):Bs (X5 G f.slot)/\adi G (X5 G f.slot) f.slot:=by
 obtain⟨a,e⟩:=h.GG hf;unfold X5;simp only[]
 split
 ·rw[XA a,e]
  exact⟨h.Hc hf _ _,ad3 h hf _ _⟩
 ·refine⟨h.I8 a _,?_⟩
  have:=akU h a 5;rw[e]at this;exact this
theorem Bs.IF(h:Bs G)(n:Int):(aaD G.fls n).Nodup/\∀s∈aaD G.fls n,∃f∈G.fls,f.slot=s/\f.due=n:=by
 refine⟨?_,fun s hs=>?_⟩
 ·unfold aaD
  refine List.pairwise_map.2 ((h.Ge.filter _).imp fun {a b} hab=>?_);show a.slot≠b.slot;omega
 ·obtain⟨f,c,rfl⟩:=ZAd.1 hs
  obtain⟨c,e⟩:=ZAf.1 c;exact⟨f,c,rfl,by simpa using e⟩
theorem Bs.IN(h:Bs G)(hw:G.wnow+1<=G.now):Bs {G with wnow:=G.wnow+1,tms:=fun t=>G.tms t/\t.1≠G.wnow+1}:=by
 have b:=h.wnow;refine⟨h.cfg,h.now,h.tab,h.tabLen,h.book,h.tok,h.hel,h.hea,h.seats,h.rets,h.since,h.wts,⟨by show 0<=G.wnow+1;omega,hw⟩,fun t=>?_⟩;show(G.tms t/\t.1≠G.wnow+1)↔∃f∈G.fls,t=(f.due,f.slot)/\G.wnow+1<f.due;rw[h.tms t];constructor
 ·rintro⟨⟨f,hf,e1,e2⟩,a⟩
  rw[e1]at a;have a:f.due≠G.wnow+1:=a;exact⟨f,hf,e1,by omega⟩
 ·rintro⟨f,hf,e1,e2⟩
  refine⟨⟨f,hf,e1,by omega⟩,?_⟩;rw[e1];show f.due≠G.wnow+1;omega
theorem Bs.IW(h:Bs G)(b:Int):(YL b G.tab).Pairwise (fun a b=>a.1<b.1)/\∀t∈YL b G.tab,∃f∈G.fls,f.slot=t.1/\f.gen=t.2/\f.be=b:=by
 refine⟨?_,fun t ht=>?_⟩
 ·unfold YL YM
  refine List.pairwise_map.2 (List.Pairwise.imp (fun {a c} hac=>?_) ((List.pairwise_lt_range).filter _));show(a:Int)<(c:Int);omega
 ·unfold YL YM at ht
  obtain⟨i,q,rfl⟩:=ZAd.1 ht;obtain⟨p,j⟩:=ZAf.1 q;have m:i<G.tab.length:=by simpa using p
  have e:G.tab.getD i (0,Nb,0,0)=G.tab[i]:=by simp[m]
  rw[e]at j;simp only[aa6,Po,beq_iff_eq]at j;have o:((i:Int),G.tab[i].1,G.tab[i].2.2.1,G.tab[i].2.2.2)∈Xx 0 G.tab:=aeM.2 ⟨i,m,by simp,j.1,rfl⟩;rw[<-h.seats]at o;obtain⟨f,r,g⟩:=ZAd.1 o;simp only[Fl.F8,Q7]at g;exact⟨f,r,g.1,by rw[g.2.1];simp[afn,m],by rw[g.2.2.2];exact j.2⟩
theorem Bs.next(h:Bs G)(hn:G.now+1<=1099511626776):Bs {G with now:=G.now+1}:=by
 have b:=h.now;have a:=h.wnow;exact⟨h.cfg,⟨by show 0<=G.now+1;omega,hn⟩,h.tab,h.tabLen,h.book,h.tok,h.hel,h.hea,h.seats,h.rets,fun l hl=>by have:=h.since l hl;show l.2.2.2.1<=G.now+1;omega,h.wts,⟨a.1,by show G.wnow<=G.now+1;omega⟩,h.tms⟩
theorem ahR(l:List Int):∀G:Gt,(l.foldl YX G).wnow=G.wnow/\(l.foldl YX G).now=G.now/\(l.foldl YX G).fls=G.fls/\(l.foldl YX G).liv=G.liv/\(l.foldl YX G).tab=G.tab/\(l.foldl YX G).out=G.out/\(l.foldl YX G).cfg=G.cfg/\(l.foldl YX G).tok=G.tok/\(l.foldl YX G).req=G.req/\(l.foldl YX G).tms=G.tms:=by
 induction l with
 |nil=>exact fun G=>⟨rfl,rfl,rfl,rfl,rfl,rfl,rfl,rfl,rfl,rfl⟩
 |cons b l ih=>exact fun G=>ih (YX G b)
end
structure Im(G:Gt):Prop where
 bs:Bs G
 be:∀f∈G.fls,WY G.liv f.be=2\/WY G.liv f.be=3
 ring:∀b:Nat,b<12->G.wts.getD b 0=if WY G.liv b=2 then(WS G.liv b).2.2.1 else 0
 drn:∀l∈G.liv,l.2.1=3->Zr G.fls l.1=Nw
 hi:∀f∈G.fls,f.due<=G.now+500
structure Wm(G:Gt):Prop where
 im:Im G
 wnow:G.wnow=G.now
 due:∀f∈G.fls,G.now<f.due
 till:∀l∈G.liv,l.2.1=3->G.now<l.2.2.2.2.1
 out:∀h∈G.hea,h.out=Nw->G.now<h.till
section
variable {G:Gt}
theorem acF{b:Int}:Zr fs b=Nw↔∃f∈fs,f.be=b:=by
 unfold Zr;rw[List.any_eq_true];simp
theorem aoy{b:Int}(h:Zr fs b=Nb):∀f∈fs,f.be≠b:=by
 intro f a e;have:Zr fs b=true:=acF.2 ⟨f,a,e⟩;rw[h]at this;cases this
theorem Im.GT(h:Im G)(o:Ou):Im (ZM G o):=⟨h.bs.GT o,h.be,h.ring,h.drn,h.hi⟩
structure Ya(G:Gt)(b:Int):Prop where
 bs:Bs G
 be:∀f∈G.fls,WY G.liv f.be=2\/WY G.liv f.be=3
 ring:∀b:Nat,b<12->G.wts.getD b 0=if WY G.liv b=2 then(WS G.liv b).2.2.1 else 0
 drn:∀l∈G.liv,l.2.1=3->l.1≠b->Zr G.fls l.1=Nw
 hi:∀f∈G.fls,f.due<=G.now+500
theorem Bs.Gv(h:Bs G):Zq G.liv:=h.book.1.2.2
theorem aqP(hr:Zq G.liv){b:Int}(h3:WY G.liv b=3)(c:Int):WS (Yq G.liv b ZF) c=if c=b then ZF (WS G.liv b)else WS G.liv c:=by
 obtain⟨a,e⟩:=adl (L:=G.liv) (b:=b) (by rw[h3];decide)
 split
 ·rename_i hc
  subst hc;have:=akG hr a akj;rw[e]at this;exact this
 ·rename_i hc
  exact ahu _ hc akj
theorem Ya.Ii{b:Int}(h:Ya G b):Im (Yf G b):=by
 have g:=h.bs.Ii b;rw[ahh h.bs]at g⊢
 split
 case isTrue hc =>
  rw[Nh hc]at g;have a:=aqP (G:=G) h.bs.Gv hc.1;have j:∀c,WY (Yq G.liv b ZF) c=if c=b then 4 else WY G.liv c:=fun c=>by
   show(WS (Yq G.liv b ZF) c).2.1=_;rw[a]
   split <;> rfl
  refine⟨g,fun f hf=>?_,fun c hcl=>?_,fun l hl h3=>?_,h.hi⟩
  ·show WY (Yq G.liv b ZF) f.be=2\/WY (Yq G.liv b ZF) f.be=3
   rw[j,Nf (aoy hc.2 f hf)];exact h.be f hf
  ·show G.wts.getD c 0=if WY (Yq G.liv b ZF) c=2 then(WS (Yq G.liv b ZF) c).2.2.1 else 0
   rw[h.ring c hcl,j,a]
   by_cases e:(c:Int)=b
   ·rw[Nh e,Nf (show ¬WY G.liv (c:Int)=2 by rw[e,hc.1];decide),Nf (by decide)]
   ·rw[Nf e,Nf e]
  ·obtain⟨x,m,e⟩:=ZAd.1 hl
   by_cases hb:x.1=b
   ·rw[Nh hb]at e
    rw[<-e]at h3;exact absurd h3 (show ¬(4:Int)=3 by decide)
   ·rw[Nf hb]at e
    subst e;exact h.drn x m h3 hb
 case isFalse hc =>
  refine⟨h.bs,h.be,h.ring,fun l hl h3=>?_,h.hi⟩
  by_cases e:l.1=b
  ·subst e
   have a:WY G.liv l.1=3:=by show(WS G.liv l.1).2.1=3;rw[abd h.bs.Gv hl];exact h3
   cases hb:Zr G.fls l.1
   ·exact absurd ⟨a,hb⟩ hc
   ·rfl
  ·exact h.drn l hl h3 e
theorem Im.Iw(h:Im G)(hf:f∈G.fls):Ya {G with tab:=(ZQ G.tab f.slot f.gen).1,fls:=Yl G.fls f.slot f.gen,tms:=fun t=>G.tms t/\t.2≠f.slot} f.be:=by
 have b:=h.bs.GL hf;refine⟨h.bs.Iw hf,fun x a=>?_,h.ring,fun l hl h3 hne=>?_,fun x a=>?_⟩
 ·have a:x∈Yl G.fls f.slot f.gen:=a
  rw[b]at a;exact h.be x (ZAf.1 a).1
 ·show Zr (Yl G.fls f.slot f.gen) l.1=Nw
  rw[b];obtain⟨x,a,e⟩:=acF.1 (h.drn l hl h3);refine acF.2 ⟨x,ZAf.2 ⟨a,?_⟩,e⟩;have:x.slot≠f.slot:=fun e2=>hne (by rw[<-e,h.bs.Ic a hf e2])
  simpa using this
 ·have a:x∈Yl G.fls f.slot f.gen:=a
  rw[b]at a;exact h.hi x (ZAf.1 a).1
theorem Ya.GT{b:Int}(h:Ya G b)(o:Ou):Ya (ZM G o) b:=⟨h.bs.GT o,h.be,h.ring,h.drn,h.hi⟩
theorem Im.Hc(h:Im G)(hf:f∈G.fls)(kind why:Int):Im (Yg G f kind why):=((h.Iw hf).GT _).Ii
theorem Im.GA(h:Im G){b:Int}(hb:0<=b/\b<12)(x:Bool):Im (Yh G b x):=⟨h.bs.GA hb x,h.be,h.ring,h.drn,h.hi⟩
theorem Im.Hp(h:Im G)(hn:0<=n/\n<=G.cfg.bb*G.cfg.bd):Im {G with tok:=n}:=⟨h.bs.Hp hn,h.be,h.ring,h.drn,h.hi⟩
theorem aj5(hi:i<fs.length)(hy:y.be=fs[i].be)(b:Int):Zr (fs.set i y) b=Zr fs b:=by
 have c:(fs.set i y).map Fl.be=fs.map Fl.be:=ahw Fl.be hi hy;have a:∀l:List Fl,Zr l b=(l.map Fl.be).any (· == b):=fun l=>by simp[Zr,List.any_map,Function.comp_def]
 rw[a,a,c]
theorem Im.Mi(h:Im G)(hi:i<G.fls.length)(hy:y.be=G.fls[i].be)(hd:y.due<=G.now+500){T:Tm->Prop}(hb:Bs {G with fls:=G.fls.set i y,tms:=T}):Im {G with fls:=G.fls.set i y,tms:=T}:=by
 refine⟨hb,fun x a=>?_,h.ring,fun l hl h3=>?_,fun x a=>?_⟩
 ·rcases aac a with rfl|a
  ·rw[hy];exact h.be _ (Nk hi)
  ·exact h.be x a
 ·show Zr (G.fls.set i y) l.1=Nw
  rw[aj5 hi hy];exact h.drn l hl h3
 ·rcases aac a with rfl|a
  ·exact hd
  ·exact h.hi x a
theorem Im.It(h:Im G)(hi:i<G.fls.length)(hn:1<=n/\n<=500):Im (YW G i n):=
 h.Mi hi (by rw[XA hi]) (by show G.now+n<=G.now+500;omega) (h.bs.It hi hn)
theorem Im.Hd(h:Im G)(hi:i<G.fls.length)(hs:f.F8=G.fls[i].F8)(hd:f.due=G.fls[i].due)(hr:0<=f.ret/\f.ret<=G.cfg.ret):Im (Y4 G i f):=
 h.Mi (T:=G.tms) hi (congrArg (fun s=>s.2.2.2) hs) (by rw[hd];exact h.hi _ (Nk hi)) (h.bs.Hd hi hs hd hr)
theorem Im.Ig(h:Im G)(hi:i<G.fls.length){b:Int}(hb:0<=b/\b<12)(h2:WY G.liv b=2)(hr:G.fls[i].ret+1<=G.cfg.ret):
  Ya (Y4 {G with tab:=(Y0 G.tab G.fls[i].slot G.fls[i].gen b).1} i {G.fls[i]with be:=b,ret:=G.fls[i].ret+1}) G.fls[i].be:=by
 have c:({G.fls[i]with be:=b,ret:=G.fls[i].ret+1}:Fl).slot=G.fls[i].slot:=rfl;refine⟨h.bs.Ig hi hb hr,fun x a=>?_,h.ring,fun l hl h3 hne=>?_,fun x a=>?_⟩
 ·rcases aac a with rfl|a
  ·exact Nt h2
  ·exact h.be x a
 ·obtain⟨x,a,e⟩:=acF.1 (h.drn l hl h3)
  refine acF.2 ⟨x,(abe h.bs.Ge hi c).2 (NF ⟨a,fun e2=>hne ?_⟩),e⟩;rw[<-e,h.bs.Ic a (Nk hi) e2]
 ·rcases aac a with rfl|a
  ·exact h.hi G.fls[i] (Nk hi)
  ·exact h.hi x a
theorem Ya.It{b:Int}(h:Ya G b)(hi:i<G.fls.length)(hn:1<=n/\n<=500):Ya (YW G i n) b:=by
 refine⟨h.bs.It hi hn,fun x a=>?_,h.ring,fun l hl h3 hne=>?_,fun x a=>?_⟩
 ·rcases aac a with rfl|a
  ·rw[XA hi];exact h.be G.fls[i] (Nk hi)
  ·exact h.be x a
 ·show Zr (G.fls.set i _) l.1=Nw
  rw[aj5 hi (by rw[XA hi])];exact h.drn l hl h3 hne
 ·rcases aac a with rfl|a
  ·show G.now+n<=G.now+500;omega
  ·exact h.hi x a
theorem Im.I1(h:Im G)(hi:i<G.fls.length){b:Int}(hb:0<=b/\b<12)(h2:WY G.liv b=2)(hr:G.fls[i].ret+1<=G.cfg.ret):Im (ZL G i b):=by
 have a:=h.Ig hi hb h2 hr;unfold ZL;simp only[XA hi];refine Ya.Ii (Ya.GT (Ya.It a ?_ h.bs.conn) _);show i<(G.fls.set i _).length;rw[NA];exact hi
theorem aeI(h:Bs G)(hi:i<G.fls.length)(why:Int):
  (∃y,YP G i why=Yg (Yh G G.fls[i].be Nw) G.fls[i] 6 y/\(y=why\/y=4)) \/
  (∃c,YP G i why=ZL {Yh G G.fls[i].be Nw with tok:=G.tok-G.cfg.bd} i c/\G.cfg.bd<=G.tok/\G.fls[i].ret+1<=G.cfg.ret/\WY G.liv c=2/\(0<=c/\c<12)/\XD (Yh G G.fls[i].be Nw) G.fls[i].key (Yl G.fls G.fls[i].slot G.fls[i].gen)=(c,0)):=by
 have g:=Nk hi;have p:=(h.F9 g).2.2.2;have o:=h.GA p Nw;have s:=h.rets _ g;unfold YP;simp only[XA hi]
 split
 ·exact Nt ⟨why,rfl,Nt rfl⟩
 ·rename_i hn
  have q:(Zh G.cfg.bn G.cfg.bd G.cfg.bb G.tok).2=0:=by
   by_cases e:(Zh G.cfg.bn G.cfg.bd G.cfg.bb G.tok).2=0
   ·exact e
   ·exact absurd (NF e) hn
  have r:¬G.fls[i].ret=G.cfg.ret:=fun e=>hn (Nt e)
  obtain⟨m,j⟩:=ahK h.GM h.tok q
  split
  ·exact Nt ⟨4,rfl,NF rfl⟩
  ·rename_i a
   have a:(XD (Yh G G.fls[i].be Nw) G.fls[i].key (Yl G.fls G.fls[i].slot G.fls[i].gen)).2=0:=by
    by_cases e:(XD (Yh G G.fls[i].be Nw) G.fls[i].key (Yl G.fls G.fls[i].slot G.fls[i].gen)).2=0
    ·exact e
    ·exact absurd e a
   have b:=o.Ib (Nm (ahT _ _ _) h.Gb) a;refine NF ⟨_,?_,j,by omega,b.1,b.2,Q8 rfl a⟩;rw[m]
theorem ahO(h:Bs G)(hd:G.cfg.bd<=G.tok):0<=G.tok-G.cfg.bd/\G.tok-G.cfg.bd<=G.cfg.bb*G.cfg.bd:=by
 have:=h.tok;have:=h.GM.2.1;omega
theorem Im.I8(h:Im G)(hi:i<G.fls.length)(why:Int):Im (YP G i why):=by
 have a:=Nk hi;have b:=(h.bs.F9 a).2.2.2;rcases aeI h.bs hi why with⟨y,e,_⟩|⟨c,e,g,o,p,j,_⟩
 ·rw[e]
  exact(h.GA b Nw).Hc a _ _
 ·rw[e]
  have m:=ahO h.bs g;exact Im.I1 (Im.Hp (n:=G.tok-G.cfg.bd) (h.GA b Nw) m) hi j p o
theorem Im.Mr(h:Im G)(hi:i<G.fls.length):Im (aaZ G i):=by
 unfold aaZ;refine Im.GT ?_ _
 split
 ·exact h.It hi h.bs.idle
 ·exact h
theorem Im.Mu(h:Im G)(hi:i<G.fls.length):Im (abh G i):=by
 have a:=Nk hi;have b:=(h.bs.F9 a).2.2.2;unfold abh;simp only[XA hi];refine Im.GT (Im.It (Im.Hd (h.GA b Nb) (i:=i) hi (f:={G.fls[i]with srv:=Nw}) rfl rfl (h.bs.rets G.fls[i] a)) ?_ h.bs.idle) _;show i<(G.fls.set i _).length;rw[NA];exact hi
theorem afU(h:Bs G){key:Int}(hk:0<=key/\key<=4294967295) :
  (aaI G key=acm G 2 9/\G.tab.any Y1=Nb)\/(aaI G key=acm G 2 11/\G.tab.any Y1=Nw/\(XD G key G.fls).2≠0) \/
  (∃(k:Nat) (hlt:k<G.tab.length),XD G key G.fls=((XD G key G.fls).1,0)/\WY G.liv (XD G key G.fls).1=2/\(0<=(XD G key G.fls).1/\(XD G key G.fls).1<12)/\G.tab.any Y1=Nw /\
   G.tab[k].2.1=Nb/\(0<=G.tab[k].1/\G.tab[k].1<=1048575)/\(∀j (hj:j<k),Y1 (G.tab[j]'(by omega))=Nb) /\
   aaI G key=ZM {G with tab:=G.tab.set k (G.tab[k].1,Nw,key,(XD G key G.fls).1),fls:=Xi G.fls ⟨k,G.tab[k].1,key,(XD G key G.fls).1,Nb,0,G.now+G.cfg.conn⟩ (Y3 G.fls k),tms:=fun t=>(G.tms t/\t.2≠(k:Int))\/t=(G.now+G.cfg.conn,(k:Int)),tok:=min (G.tok+G.cfg.bn) (G.cfg.bb*G.cfg.bd)} ⟨1,k,G.tab[k].1,(XD G key G.fls).1,0,0,0⟩):=by
 unfold aaI
 split
 ·rename_i a
  exact Nt ⟨rfl,a⟩
 ·rename_i a
  have a:G.tab.any Y1=true:=by cases e:G.tab.any Y1;exact absurd e a;rfl
  simp only[]
  split
  ·rename_i b
   exact NF (Nt ⟨rfl,a,b⟩)
  ·rename_i b
   have b:(XD G key G.fls).2=0:=by
    by_cases e:(XD G key G.fls).2=0
    ·exact e
    ·exact absurd e b
   have g:=h.Ib h.Gb b;obtain⟨k,hlt,e,u,s,hj⟩:=h.Gd a hk g.2;refine NF (NF ⟨k,hlt,Q8 rfl b,g.1,g.2,a,u,s,hj,?_⟩);have c:=ad4 G.fls (k:Int);have o:=ad1 G.fls (⟨(k:Int),G.tab[k].1,key,(XD G key G.fls).1,Nb,0,0⟩:Fl) c;have q:Xs (abv G key (XD G key G.fls).1) (Y3 G.fls (k:Int))=⟨k,G.tab[k].1,key,(XD G key G.fls).1,Nb,0,0⟩:=by
    unfold abv;rw[e];rw[XA (by show Y3 G.fls (k:Int)<(Xi G.fls _ _).length;rw[o];omega)];exact akA _ _ c
   have m:(Xi G.fls (⟨k,G.tab[k].1,key,(XD G key G.fls).1,Nb,0,0⟩:Fl) (Y3 G.fls (k:Int))).set (Y3 G.fls (k:Int)) ⟨k,G.tab[k].1,key,(XD G key G.fls).1,Nb,0,G.now+G.cfg.conn⟩=Xi G.fls ⟨k,G.tab[k].1,key,(XD G key G.fls).1,Nb,0,G.now+G.cfg.conn⟩ (Y3 G.fls (k:Int)):=by
    unfold Xi;rw[Pw _ _ (by simp;omega)];simp[P1 c]
   rw[ahf h.GM h.tok,e];simp only[];have r:YW (abv G key (XD G key G.fls).1) (Y3 G.fls (k:Int)) G.cfg.conn={G with tab:=G.tab.set k (G.tab[k].1,Nw,key,(XD G key G.fls).1),fls:=Xi G.fls ⟨k,G.tab[k].1,key,(XD G key G.fls).1,Nb,0,G.now+G.cfg.conn⟩ (Y3 G.fls k),tms:=fun t=>(G.tms t/\t.2≠(k:Int))\/t=(G.now+G.cfg.conn,(k:Int))}:=by
    unfold YW;rw[q];unfold abv;rw[e];simp only[];rw[m]
   rw[r];unfold abi;have p:Xs {G with tab:=G.tab.set k (G.tab[k].1,Nw,key,(XD G key G.fls).1),fls:=Xi G.fls ⟨k,G.tab[k].1,key,(XD G key G.fls).1,Nb,0,G.now+G.cfg.conn⟩ (Y3 G.fls k),tms:=fun t=>(G.tms t/\t.2≠(k:Int))\/t=(G.now+G.cfg.conn,(k:Int))} (Y3 G.fls (k:Int))=⟨k,G.tab[k].1,key,(XD G key G.fls).1,Nb,0,G.now+G.cfg.conn⟩:=by
    rw[XA (by show Y3 G.fls (k:Int)<(Xi G.fls _ _).length;rw[ad1 _ _ c];omega)];exact akA _ _ c
   rw[p]
theorem Im.Mp(h:Im G){key:Int}(hk:0<=key/\key<=4294967295):Im (aaI G key):=by
 have b:=h.bs.Mp hk;have g:=h.bs.conn;rcases afU h.bs hk with⟨e,_⟩|⟨e,_⟩|⟨k,j,_,c,_,_,_,_,_,e⟩
 ·rw[e];exact h.GT _
 ·rw[e];exact h.GT _
 ·rw[e]at b⊢
  refine⟨b,fun x a=>?_,h.ring,fun l hl h3=>?_,fun x a=>?_⟩
  ·rcases abT.1 a with rfl|a
   ·exact Nt c
   ·exact h.be x a
  ·obtain⟨x,a,e⟩:=acF.1 (h.drn l hl h3)
   exact acF.2 ⟨x,abT.2 (NF a),e⟩
  ·rcases abT.1 a with rfl|a
   ·show G.now+G.cfg.conn<=G.now+500;omega
   ·exact h.hi x a
end
section
variable {G:Gt}
theorem akF{L':List awV}(hr:Zq L)(hr':Zq L')(h:∀x:awV,x.1≠n->(x∈L'↔x∈L)){c:Int}(hc:c≠n):WS L' c=WS L c:=by
 rcases aeK L c with⟨a,e⟩|⟨g,e⟩
 ·have b:WS L c∈L':=(h _ (by rw[e];exact hc)).2 a
  have:=abd hr' b;rwa[e]at this
 ·rw[e]
  refine ahv fun x hx e2=>?_
  exact g x ((h x (by rw[e2];exact hc)).1 hx) e2
theorem akD(hb:ZD L){m:Int}(hn:0<=n/\n<=11)(hm:1<=m/\m<=8):
  ((WY L n=0\/WY L n=4)/\(Zu L n m).2=0/\(∀c,WS (Zu L n m).1 c=if c=n then(n,1,m,0,0,0)else WS L c)/\∀x∈(Zu L n m).1,x∈L\/x=(n,1,m,0,0,0)) \/
  (¬(WY L n=0\/WY L n=4)/\Zu L n m=(L,7)):=by
 have a:=alW hb n m;have q:Zq L:=hb.2;unfold Zu at a⊢;rw[Nf (by omega)]at a⊢;rcases aeK L n with⟨r,j⟩|⟨z,j⟩
 ·obtain⟨o,p,v⟩:=afV q r
  rw[j]at o p;have u:L[Xk L n]=WS L n:=by simp only[j]at v;exact v
  rw[Nh o,MR p,OV,u]at a⊢;have s:WY L n=(WS L n).2.1:=rfl;have C:WY L n≠0:=by
   have:=(hb.1 _ r).2;omega
  by_cases h4:(WS L n).2.1=4
  ·rw[Nh h4]at a⊢
   have w:L.set (Xk L n) ((n,1,m,0,0,0):awV)=Yq L n (fun _=>(n,1,m,0,0,0)):=by
    have:=ahI q p (b:=n) (by rw[u,j]) (fun _=>((n,1,m,0,0,0):awV));exact this
   have g:Zq (L.set (Xk L n) ((n,1,m,0,0,0):awV)):=a.2;refine Nt ⟨NF h4,rfl,fun c=>?_,fun x hx=>?_⟩
   ·show WS (L.set (Xk L n) (n,1,m,0,0,0)) c=_
    split
    ·rename_i hc
     subst hc;have B:((c,1,m,0,0,0):awV)∈L.set (Xk L c) (c,1,m,0,0,0):=List.mem_iff_getElem.2 ⟨Xk L c,by simpa using p,by simp⟩;exact abd g B
    ·rename_i hc
     refine akF q g (n:=n) (fun x hx=>?_) hc;rw[w];constructor
     ·intro h
      obtain⟨y,A,e⟩:=ZAd.1 h
      split at e
      ·exact absurd (by rw[<-e]) hx
      ·rw[<-e];exact A
     ·intro h
      exact ZAd.2 ⟨x,h,by rw[Nf hx]⟩
   ·rcases aac hx with h|h
    ·exact NF h
    ·exact Nt h
  ·rw[Nf h4]
   exact NF ⟨fun h=>by rcases h with h|h <;> omega,rfl⟩
 ·have o:Ys L n=false:=by
   cases hh:Ys L n
   ·rfl
   ·exact absurd (aib hh) (z _ (Nk _))
  rw[Nf (by rw[o];simp)]at a⊢;have g:Zq (Xi L ((n,1,m,0,0,0):awV) (Xk L n)):=a.2;have s:WY L n=0:=by show(WS L n).2.1=0;rw[j]
  refine Nt ⟨Nt s,rfl,fun c=>?_,fun x hx=>?_⟩
  ·show WS (Xi L (n,1,m,0,0,0) (Xk L n)) c=_
   split
   ·rename_i hc
    subst hc;exact abd g (x:=(c,1,m,0,0,0)) (abT.2 (Nt rfl))
   ·rename_i hc
    refine akF q g (n:=n) (fun x hx=>?_) hc;rw[abT];exact⟨fun h=>h.resolve_left fun e=>hx (by rw[e]),NF⟩
  ·exact(abT.1 hx).symm
theorem ag7(h:Bs G){e:Ev}(he:0<=e.req/\e.req<=1048576){kind:Int}(hk:kind=1\/kind=2) :
  ((YV G kind e).2.2.1=Nb/\(YV G kind e).1=(G.liv,G.req)) \/
  ((YV G kind e).2.2.1=Nw/\kind=1/\(YV G kind e).1.1=(Zu G.liv e.be e.wt).1/\(YV G kind e).2.1=(Zu G.liv e.be e.wt).2) \/
  ((YV G kind e).2.2.1=Nw/\kind=2/\(YV G kind e).1.1=(ZH G.liv e.be e.req (G.now+G.cfg.drain)).1/\(YV G kind e).2.1=(ZH G.liv e.be e.req (G.now+G.cfg.drain)).2):=by
 unfold YV;rcases aj0 h.book (h.Jd (e:=e) he hk)with⟨_,q⟩|⟨_,_,q⟩|⟨_,_,q⟩
 ·rw[q];exact Nt ⟨rfl,rfl⟩
 ·rw[q];exact Nt ⟨rfl,rfl⟩
 ·rw[q]
  rcases hk with rfl|rfl
  ·exact NF (Nt ⟨rfl,rfl,by unfold Zl;rw[Nh rfl],by unfold Zl;rw[Nh rfl]⟩)
  ·exact NF (NF ⟨rfl,rfl,by unfold Zl;rw[Nf (show ¬(2:Int)=1 by decide)],by unfold Zl;rw[Nf (show ¬(2:Int)=1 by decide)]⟩)
theorem Im.liv(h:Im G)(hb:Bs {G with liv:=L,req:=R})(hc:∀c,c≠n->WS L c=WS G.liv c)(h0:WY G.liv n≠2/\WY G.liv n≠3)(h1:WY L n≠2/\WY L n≠3):Im {G with liv:=L,req:=R}:=by
 refine⟨hb,fun f hf=>?_,fun c hcl=>?_,fun l j h3=>?_,h.hi⟩
 ·have o:=h.be f hf
  show(WS L f.be).2.1=2\/(WS L f.be).2.1=3;rw[hc f.be (fun e=>by rw[e]at o;omega)];exact o
 ·show G.wts.getD c 0=if(WS L c).2.1=2 then(WS L c).2.2.1 else 0
  rw[h.ring c hcl]
  by_cases e:(c:Int)=n
  ·rw[Nf (by rw[e];exact h0.1),Nf (by rw[e];exact h1.1)]
  ·rw[hc c e]
 ·have j:l∈L:=j
  have a:=abd hb.Gv j;have a:WS L l.1=l:=a;have p:l.1≠n:=fun e=>h1.2 (by show(WS L n).2.1=3;rw[<-e,a];exact h3)
  have g:=hc l.1 p;rw[a]at g;have q:WY G.liv l.1=3:=by show(WS G.liv l.1).2.1=3;rw[<-g];exact h3
  obtain⟨m,_⟩:=adl (L:=G.liv) (b:=l.1) (by rw[q];decide);rw[<-g]at m;exact h.drn l m h3
theorem Im.Mh(h:Im G)(hb:Bs {G with req:=R}):Im {G with req:=R}:=⟨hb,h.be,h.ring,h.drn,h.hi⟩
structure XZ(e:Ev):Prop where
 kind:1<=e.kind/\e.kind<=7
 key:0<=e.key/\e.key<=4294967295
 req:0<=e.req/\e.req<=1048576
 be:0<=e.be/\e.be<=11
 wt:e.kind=5->1<=e.wt/\e.wt<=8
theorem Im.Ms(h:Im G){e:Ev}(he:XZ e)(h5:e.kind=5):Im (Yv G 1 e):=by
 have a:=h.bs.Mc he.req (Nt rfl:(1:Int)=1\/(1:Int)=2);refine Im.GT ?_ _;have a:Bs {G with liv:=(YV G 1 e).1.1,req:=(YV G 1 e).1.2}:=a.Jh G.out;rcases ag7 h.bs he.req (Nt rfl:(1:Int)=1\/(1:Int)=2)with⟨_,q⟩|⟨_,_,q,_⟩|⟨_,k,_⟩
 ·rw[q]
  exact h
 ·rw[q]at a⊢
  rcases akD h.bs.book.1.2 he.be (he.wt h5)with⟨b,_,h1,_⟩|⟨_,e1⟩
  ·refine h.liv (n:=e.be) a (fun c hc=>by rw[h1,Nf hc]) (by rcases b with b|b <;> rw[b] <;> decide) ?_
   have:WY (Zu G.liv e.be e.wt).1 e.be=1:=by show(WS (Zu G.liv e.be e.wt).1 e.be).2.1=1;rw[h1,Nh rfl]
   rw[this]
   decide
  ·rw[e1]at a⊢
   exact h.Mh a
 ·exact absurd k (by decide)
theorem ahC(h:Bs G){e:Ev}(he:0<=e.req/\e.req<=1048576) :
  (acC G 2 e=Nb/\(YV G 2 e).1.1=G.liv) \/
  (acC G 2 e=Nw/\(YV G 2 e).2.2.1=Nw/\(YV G 2 e).2.1=0/\(WY G.liv e.be=1\/WY G.liv e.be=2)/\(YV G 2 e).1.1=Yq G.liv e.be (fun x=>aag x (G.now+G.cfg.drain) e.req)):=by
 unfold acC;rcases ag7 h he (NF rfl:(2:Int)=1\/(2:Int)=2)with⟨h1,q⟩|⟨_,k,_⟩|⟨h1,_,q,a⟩
 ·rw[h1,q]
  exact Nt ⟨rfl,rfl⟩
 ·exact absurd k (by decide)
 ·rw[h1,q,a]
  by_cases hs:WY G.liv e.be=1\/WY G.liv e.be=2
  ·rw[aqo h.Gv hs]
   exact NF ⟨rfl,rfl,rfl,hs,rfl⟩
  ·rw[aqp h.Gv hs h.book.1.2.1]
   refine Nt ⟨?_,rfl⟩
   by_cases h3:WY G.liv e.be=3
   ·rw[Nh h3];rfl
   ·rw[Nf h3];rfl
theorem Im.Mt(h:Im G){e:Ev}(he:XZ e):Im (abg G e):=by
 have j:=h.bs.Mc he.req (NF rfl:(2:Int)=1\/(2:Int)=2);have j:Bs {G with liv:=(YV G 2 e).1.1,req:=(YV G 2 e).1.2}:=j.Jh G.out;unfold abg;rcases ahC h.bs he.req with⟨s,q⟩|⟨s,_,_,D,q⟩
 ·rw[Nh s]
  refine Im.GT ?_ _;rw[q]at j⊢;exact h.Mh j
 ·rw[Nf (by rw[s];decide)]
  rw[q]at j;obtain⟨A,B⟩:=adl (L:=G.liv) (b:=e.be) (by omega);have v:WS (Yq G.liv e.be (fun x=>aag x (G.now+G.cfg.drain) e.req)) e.be=aag (WS G.liv e.be) (G.now+G.cfg.drain) e.req:=by
   have:=akG h.bs.Gv A (y:=fun x=>aag x (G.now+G.cfg.drain) e.req) (fun x=>aku x _ _);rw[B]at this;exact this
  have o:∀c,c≠e.be->WS (Yq G.liv e.be (fun x=>aag x (G.now+G.cfg.drain) e.req)) c=WS G.liv c:=fun c hc=>ahu _ hc (fun x=>aku x _ _)
  have r:WY (Yq G.liv e.be (fun x=>aag x (G.now+G.cfg.drain) e.req)) e.be=if WY G.liv e.be=2 then 3 else 4:=by
   show(WS _ e.be).2.1=_;rw[v];rfl
  by_cases m:WY G.liv e.be=1
  ·rw[Nh m]
   refine Im.GT (Im.GT ?_ _) _;rw[q];refine h.liv (n:=e.be) j o (by rw[m];decide) ?_;rw[r,Nf (by rw[m];decide)]
   decide
  ·rw[Nf m]
   have m:WY G.liv e.be=2:=by omega
   rw[Nh m]at r;refine Ya.Ii ?_;have z:Bs {Yv G 2 e with wts:=G.wts.set e.be.toNat 0}:=Bs.Jg (h.bs.Mc he.req (NF rfl)) (h.bs.wts.F4 _ 0 (by omega) (by omega));have u:(Yv G 2 e).liv=Yq G.liv e.be (fun x=>aag x (G.now+G.cfg.drain) e.req):=q;refine⟨z,fun f hf=>?_,fun c hcl=>?_,fun l p h3 hne=>?_,h.hi⟩
   ·show WY (Yv G 2 e).liv f.be=2\/WY (Yv G 2 e).liv f.be=3
    rw[u]
    by_cases a:f.be=e.be
    ·rw[a,r];exact NF rfl
    ·show(WS _ f.be).2.1=2\/(WS _ f.be).2.1=3
     rw[o _ a];exact h.be f hf
   ·show(G.wts.set e.be.toNat 0).getD c 0=if WY (Yv G 2 e).liv c=2 then(WS (Yv G 2 e).liv c).2.2.1 else 0
    rw[u];have w:=h.bs.wts.len
    by_cases a:(c:Int)=e.be
    ·rw[Nf (by rw[a,r];decide)]
     have g:e.be.toNat=c:=by omega
     rw[g];simp[w,hcl]
    ·rw[show WY (Yq G.liv e.be (fun x=>aag x (G.now+G.cfg.drain) e.req)) (c:Int)=WY G.liv c by show(WS _ (c:Int)).2.1=_;rw[o _ a],o _ a,<-h.ring c hcl]
     have g:e.be.toNat≠c:=by have:=he.be;omega
     simp[N3 g]
   ·have p:l∈(Yv G 2 e).liv:=p
    rw[u]at p;obtain⟨x,C,a⟩:=ZAd.1 p
    by_cases g:x.1=e.be
    ·rw[Nh g]at a
     exact absurd (by rw[<-a];exact g) hne
    ·rw[Nf g]at a
     subst a;exact h.drn x C h3
theorem aln(l:List Int):∀(G:Gt),G.wts.length=12->(∀b∈l,0<=b/\b<12)->l.Nodup->∀c:Nat,c<12->(l.foldl YX G).wts.getD c 0=if(c:Int)∈l then(WS G.liv c).2.2.1 else G.wts.getD c 0:=by
 induction l with
 |nil=>intro G _ _ _ c _;simp
 |cons b l ih =>
  intro G m j q c g;obtain⟨p,o⟩:=List.nodup_cons.1 q;have r:=j b (by simp);rw[O4,ih (YX G b) (by show(G.wts.set _ _).length=12;rw[NA];exact m) (fun x hx=>j x (NB _ hx)) o c g];show(if(c:Int)∈l then(WS G.liv c).2.2.1 else(G.wts.set b.toNat (WS G.liv b).2.2.1).getD c 0)=_
  by_cases e:(c:Int)=b
  ·have a:b.toNat=c:=by omega
   rw[Nf (by rw[e];exact p),Nh (by rw[e];simp),a,<-e];simp[m,g]
  ·have a:b.toNat≠c:=by omega
   by_cases hm:(c:Int)∈l
   ·rw[Nh hm,Nh (NB _ hm)]
   ·rw[Nf hm,Nf (by simp[e,hm])]
    simp[N3 a]
theorem alq(hr:Zq L):(XW L).Nodup:=by
 unfold XW;refine List.pairwise_map.2 ((hr.filter _).imp fun {a b} h=>?_);show a.1≠b.1;omega
theorem alf(hb:Bs G)(c:Int):WS (G.liv.map (XH G.now)) c=XH G.now (WS G.liv c):=by
 rw[aht _ (alo _)];rcases aeK G.liv c with⟨a,e⟩|⟨b,e⟩
 ·rw[Nh ⟨_,a,e⟩]
 ·rw[Nf (fun⟨x,hx,h⟩=>b x hx h),e]
  rfl
theorem Im.Jf(h:Im G):Im (YH G):=by
 have q:=h.bs.Jf;rw[af3 h.bs]at q⊢;obtain⟨_,u,o,p,_⟩:=ahR (XW G.liv) {G with liv:=G.liv.map (XH G.now)};refine⟨q,fun f hf=>?_,fun c hcl=>?_,fun l hl g=>?_,fun f hf=>?_⟩
 ·rw[o]at hf
  rw[p];show(WS (G.liv.map (XH G.now)) f.be).2.1=2\/(WS (G.liv.map (XH G.now)) f.be).2.1=3;have a:=h.be f hf;rw[alf h.bs];unfold XH;rw[Nf (by show ¬WY G.liv f.be=1;omega)];exact a
 ·rw[aln _ {G with liv:=G.liv.map (XH G.now)} h.bs.wts.len (fun b hb'=>?_) (alq h.bs.Gv) c hcl,p]
  ·show(if(c:Int)∈XW G.liv then(WS (G.liv.map (XH G.now)) c).2.2.1 else G.wts.getD c 0)=if(WS (G.liv.map (XH G.now)) c).2.1=2 then(WS (G.liv.map (XH G.now)) c).2.2.1 else 0
   rw[alf h.bs]
   by_cases hm:(c:Int)∈XW G.liv
   ·obtain⟨x,j,a,e⟩:=ad2.1 hm
    have s:WS G.liv c=x:=by rw[<-e];exact abd h.bs.Gv j
    have m:(XH G.now (WS G.liv c)).2.1=2:=by unfold XH;rw[s,Nh a]
    rw[Nh hm,Nh m]
   ·have r:¬(WS G.liv c).2.1=1:=fun a=>by
     obtain⟨v,g⟩:=adl (L:=G.liv) (b:=(c:Int)) (by show(WS G.liv c).2.1≠0;omega);exact hm (ad2.2 ⟨_,v,a,g⟩)
    have m:XH G.now (WS G.liv c)=WS G.liv c:=by unfold XH;rw[Nf r]
    rw[Nf hm,m,h.ring c hcl]
  ·obtain⟨x,j,_,rfl⟩:=ad2.1 hb'
   have:=(h.bs.lf j).1.1;omega
 ·rw[p]at hl
  rw[o];obtain⟨x,j,rfl⟩:=ZAd.1 hl;unfold XH at g⊢
  split at g
  ·exact absurd g (show ¬(2:Int)=3 by decide)
  ·rename_i a
   rw[Nf a];exact h.drn x j g
 ·rw[o]at hf
  rw[u];exact h.hi f hf
theorem Im.I2(h:Im G):Im (aaC G):=⟨h.bs.I2,h.be,h.ring,h.drn,h.hi⟩
theorem aop(h:Bs G):∀x∈(aaC G).hea,x.out=Nw->(aaC G).now<x.till:=by
 intro y c a;obtain⟨x,b,rfl⟩:=ZAd.1 c;rw[aj1 h b]at a⊢
 split at a
 ·exact absurd a (show ¬Nb=Nw by decide)
 ·rename_i hn
  rw[Nf hn];show G.now<x.till
  by_cases hlt:G.now<x.till
  ·exact hlt
  ·exact absurd ⟨a,by omega⟩ hn
theorem Im.next(h:Im G)(hn:G.now+1<=1099511626776):Im {G with now:=G.now+1}:=⟨h.bs.next hn,h.be,h.ring,h.drn,fun f hf=>by have:=h.hi f hf;show f.due<=G.now+1+500;omega⟩
theorem Im.IN(h:Im G)(hw:G.wnow+1<=G.now):Im {G with wnow:=G.wnow+1,tms:=fun t=>G.tms t/\t.1≠G.wnow+1}:=⟨h.bs.IN hw,h.be,h.ring,h.drn,h.hi⟩
end
section
variable {G:Gt}
def adh(L L':List awV):Prop:=∀l∈L',l.2.1=3->l∈L
theorem adh.Gy(L:List awV):adh L L:=fun _ h _=>h
theorem adh.F0{A B C:List awV}(h:adh A B)(k:adh B C):adh A C:=fun l hl h3=>h l (k l hl h3) h3
theorem akk(h:Bs G)(b:Int):adh G.liv (Yf G b).liv:=by
 rw[ahh h]
 split
 case isTrue hc =>
  intro l c a;obtain⟨x,g,e⟩:=ZAd.1 c
  by_cases hb:x.1=b
  ·rw[Nh hb]at e
   rw[<-e]at a;exact absurd a (show ¬(4:Int)=3 by decide)
  ·rw[Nf hb]at e
   rw[<-e];exact g
 case isFalse hc=>exact adh.Gy _
structure Xc(G G':Gt):Prop where
 now:G'.now=G.now
 wnow:G'.wnow=G.wnow
 cfg:G'.cfg=G.cfg
 ends:adh G.liv G'.liv
 out:(∀h∈G.hea,h.out=Nw->G.now<h.till)->∀h∈G'.hea,h.out=Nw->G.now<h.till
theorem Xc.Gy(G:Gt):Xc G G:=⟨rfl,rfl,rfl,adh.Gy _,fun h=>h⟩
theorem Xc.F0{A B C:Gt}(h:Xc A B)(k:Xc B C):Xc A C :=
 ⟨k.now.trans h.now,k.wnow.trans h.wnow,k.cfg.trans h.cfg,h.ends.F0 k.ends,fun ho=>by have:=k.out;rw[h.now]at this;exact this (h.out ho)⟩
theorem ahi(b:Int):(Yf G b).now=G.now/\(Yf G b).wnow=G.wnow/\(Yf G b).cfg=G.cfg/\(Yf G b).hea=G.hea/\(Yf G b).fls=G.fls/\(Yf G b).tab=G.tab/\(Yf G b).tok=G.tok/\(Yf G b).wts=G.wts/\(Yf G b).tms=G.tms:=by
 unfold Yf
 split <;> exact⟨rfl,rfl,rfl,rfl,rfl,rfl,rfl,rfl,rfl⟩
theorem Xc.Ii(h:Bs G)(b:Int):Xc G (Yf G b):=by
 obtain⟨e,c,g,a,_⟩:=ahi (G:=G) b;exact⟨e,c,g,akk h b,fun ho=>by rw[a];exact ho⟩
theorem Xc.Hc(h:Bs G)(hf:f∈G.fls)(kind why:Int):Xc G (Yg G f kind why):=by
 have a:=Xc.Ii ((h.Iw hf).GT ⟨kind,f.slot,f.gen,f.be,0,0,why⟩) f.be;exact⟨a.now,a.wnow,a.cfg,a.ends,a.out⟩
theorem Xc.GA(h:Bs G){b:Int}(hb:0<=b/\b<12)(x:Bool):Xc G (Yh G b x):=by
 refine⟨rfl,rfl,rfl,adh.Gy _,fun ho y a hy2=>?_⟩;rcases aac a with rfl|a
 ·have c:b.toNat<G.hea.length:=by rw[h.hel];omega
  have e:G.hea.getD b.toNat XM=G.hea[b.toNat]:=by simp[c]
  have g:=h.IE hb;have m:=akx (d:=G.cfg.wh) (t:=(G.hea.getD b.toNat XM).times) h.Gx.2.2.1;have j:YR G.cfg.wn G.cfg.wf G.cfg.wh (G.hea.getD b.toNat XM).marks.length (G.hea.getD b.toNat XM).out (G.hea.getD b.toNat XM).till (G.hea.getD b.toNat XM).times G.now=0:=by unfold YR;rw[Nh h.Gx,Nh h.GN,Nh g]
  unfold afT Zt at hy2⊢;rw[Nh j]at hy2⊢
  split at hy2
  ·rename_i hc
   rw[Nh hc];show G.now<G.now+aaL G.cfg.wh (G.hea.getD b.toNat XM).times;omega
  ·rename_i hc
   rw[Nf hc];show G.now<(G.hea.getD b.toNat XM).till;rw[e]at hy2⊢;exact ho _ (Nk c) hy2
 ·exact ho y a hy2
theorem Xc.I1(h:Bs G)(hi:i<G.fls.length){b:Int}(hb:0<=b/\b<12)(hr:G.fls[i].ret+1<=G.cfg.ret):Xc G (ZL G i b):=by
 have c:=h.Ig hi hb hr;unfold ZL;simp only[XA hi];have e:=Bs.It c (i:=i) (by show i<(G.fls.set i _).length;rw[NA];exact hi) h.conn;have a:=Xc.Ii (Bs.GT e ⟨5,(Xs (YW (Y4 {G with tab:=(Y0 G.tab G.fls[i].slot G.fls[i].gen b).1} i {G.fls[i]with be:=b,ret:=G.fls[i].ret+1}) i G.cfg.conn) i).slot,(Xs (YW (Y4 {G with tab:=(Y0 G.tab G.fls[i].slot G.fls[i].gen b).1} i {G.fls[i]with be:=b,ret:=G.fls[i].ret+1}) i G.cfg.conn) i).gen,(Xs (YW (Y4 {G with tab:=(Y0 G.tab G.fls[i].slot G.fls[i].gen b).1} i {G.fls[i]with be:=b,ret:=G.fls[i].ret+1}) i G.cfg.conn) i).be,0,0,0⟩) G.fls[i].be;exact⟨a.now,a.wnow,a.cfg,a.ends,a.out⟩
theorem Xc.I8(h:Bs G)(hi:i<G.fls.length)(why:Int):Xc G (YP G i why):=by
 have j:=Nk hi;have g:=(h.F9 j).2.2.2;have a:=Xc.GA h g Nw;rcases aeI h hi why with⟨y,e,_⟩|⟨c,e,m,q,r,o,_⟩
 ·rw[e]
  exact a.F0 (Xc.Hc (h.GA g Nw) j _ _)
 ·rw[e]
  have p:=ahO h m;have b:=Xc.I1 (Bs.Hp (n:=G.tok-G.cfg.bd) (h.GA g Nw) p) hi o q;exact⟨b.now.trans a.now,b.wnow.trans a.wnow,b.cfg.trans a.cfg,a.ends.F0 b.ends,fun ho=>b.out (a.out ho)⟩
theorem akm(h:Bs G)(hi:i<G.fls.length)(why:Int):∀x∈(YP G i why).fls,x.slot=G.fls[i].slot->x.due=G.now+G.cfg.conn:=by
 have b:=Nk hi;have j:=(h.F9 b).2.2.2;intro x a e;rcases aeI h hi why with⟨y,q,_⟩|⟨c,q,_⟩
 ·rw[q]at a
  unfold Yg at a;rw[afJ]at a;have a:x∈Yl G.fls G.fls[i].slot G.fls[i].gen:=a;rw[h.GL b]at a;have:=(ZAf.1 a).2;rw[e]at this;simp at this
 ·rw[q,akZ (G:={Yh G G.fls[i].be Nw with tok:=_}) hi]at a
  have a:x∈G.fls.set i {G.fls[i]with be:=c,ret:=G.fls[i].ret+1,due:=G.now+G.cfg.conn}:=a;have g:({G.fls[i]with be:=c,ret:=G.fls[i].ret+1,due:=G.now+G.cfg.conn}:Fl).slot=G.fls[i].slot:=rfl;rcases(abe h.Ge hi g).1 a with rfl|⟨_,hne⟩
  ·rfl
  ·exact absurd e hne
theorem afL(h:Bs G)(hf:f∈G.fls)(kind why:Int):∀x∈(Yg G f kind why).fls,x∈G.fls/\x.slot≠f.slot:=by
 intro x a;unfold Yg at a;rw[afJ]at a;have a:x∈Yl G.fls f.slot f.gen:=a;rw[h.GL hf]at a;obtain⟨b,c⟩:=ZAf.1 a;exact⟨b,by simpa using c⟩
theorem ahy(h:Im G)(hf:f∈G.fls):Im (X5 G f.slot)/\Xc G (X5 G f.slot)/\adi G (X5 G f.slot) f.slot/\∀x∈(X5 G f.slot).fls,x.slot=f.slot->x.due=G.now+G.cfg.conn:=by
 obtain⟨a,e⟩:=h.bs.GG hf;refine⟨?_,?_,(h.bs.Jy hf).2,?_⟩
 ·unfold X5
  simp only[]
  split
  ·rw[XA a,e];exact h.Hc hf _ _
  ·exact h.I8 a _
 ·unfold X5
  simp only[]
  split
  ·rw[XA a,e];exact Xc.Hc h.bs hf _ _
  ·exact Xc.I8 h.bs a _
 ·unfold X5
  simp only[]
  split
  ·rw[XA a,e]
   intro x b c;exact absurd c (afL h.bs hf _ _ x b).2
  ·have:=akm h.bs a 5
   rw[e]at this;exact this
theorem akQ:∀(l:List Int) (G:Gt),Im G->l.Nodup->(∀s∈l,∃f∈G.fls,f.slot=s)->(∀f∈G.fls,G.now<f.due\/f.slot∈l) ->
  Im (l.foldl X5 G)/\Xc G (l.foldl X5 G)/\∀f∈(l.foldl X5 G).fls,G.now<f.due
 | [],G,h,_,_,hd=>⟨h,Xc.Gy G,fun f b=>(hd f b).resolve_right (by simp)⟩
 |s::l,G,h,hn,hs,hd=>by
  obtain⟨f,b,rfl⟩:=hs s (by simp);obtain⟨q,g,j,m⟩:=ahy h b;obtain⟨r,p⟩:=List.nodup_cons.1 hn;have z:=h.bs.conn;obtain⟨v,o,u⟩:=akQ l _ q p (fun c hc=>by
   obtain⟨k,w,rfl⟩:=hs c (NB _ hc);exact⟨k,(j k fun e=>r (by rw[<-e];exact hc)).2 w,rfl⟩) (fun x hx=>by
   rw[g.now]
   by_cases e:x.slot=f.slot
   ·have:=m x hx e
    exact Nt (by omega)
   ·rcases hd x ((j x e).1 hx)with h5|h5
    ·exact Nt h5
    ·rcases OO.1 h5 with a|a
     ·exact absurd a e
     ·exact NF a)
  refine⟨v,g.F0 o,fun x hx=>?_⟩;have:=u x hx;rw[g.now]at this;exact this
theorem akK(hf:f∈fs)(h:f.due=n):f.slot∈aaD fs n:=Ri (ZAf.2 ⟨hf,by simpa using h⟩)
theorem Im.Je(h:Im G)(hw:G.wnow+1=G.now)(hd:∀f∈G.fls,G.wnow<f.due) :
  Im (Zs G)/\(Zs G).now=G.now/\(Zs G).wnow=G.now/\(Zs G).cfg=G.cfg/\adh G.liv (Zs G).liv/\((∀h∈G.hea,h.out=Nw->G.now<h.till)->∀h∈(Zs G).hea,h.out=Nw->G.now<h.till)/\∀f∈(Zs G).fls,G.now<f.due:=by
 obtain⟨c,m⟩:=h.bs.IF (G.wnow+1);obtain⟨j,a,g⟩:=akQ (aaD G.fls (G.wnow+1)) _ (h.IN (by omega)) c (fun s hs=>by
  obtain⟨f,b,e,_⟩:=m s hs;exact⟨f,b,e⟩) (fun f b=>by
   have:=hd f b
   by_cases e:f.due=G.wnow+1
   ·exact NF (akK b e)
   ·exact Nt (by show G.now<f.due;omega))
 exact⟨j,a.now,a.wnow.trans hw,a.cfg,a.ends,a.out,g⟩
structure YU(G G':Gt):Prop where
 step:Xc G G'
 fls:∀f∈G'.fls,f∈G.fls
theorem YU.F0{A B C:Gt}(h:YU A B)(k:YU B C):YU A C:=⟨h.step.F0 k.step,fun f hf=>h.fls f (k.fls f hf)⟩
theorem aka:∀(l:List Tm) (G:Gt),Im G->l.Pairwise (fun a b=>a.1<b.1)->(∀t∈l,∃f∈G.fls,f.slot=t.1) ->
  Im (l.foldl Ye G)/\YU G (l.foldl Ye G)/\∀f∈(l.foldl Ye G).fls,∀t∈l,f.slot≠t.1
 | [],G,h,_,_=>⟨h,⟨Xc.Gy G,fun _ h=>h⟩,fun _ _ t ht=>by cases ht⟩
 |t::l,G,h,hn,hs=>by
  obtain⟨f,g,e⟩:=hs t (by simp);obtain⟨A,s⟩:=h.bs.GG g;have m:Ye G t=Yg G f 6 2:=by unfold Ye;rw[<-e,XA A,s]
  have u:Im (Ye G t):=by rw[m];exact h.Hc g _ _
  have D:YU G (Ye G t):=by rw[m];exact⟨Xc.Hc h.bs g _ _,fun x hx=>(afL h.bs g _ _ x hx).1⟩
  have w:adi G (Ye G t) t.1:=by rw[m,<-e];exact ad3 h.bs g _ _
  have p:∀x∈(Ye G t).fls,x.slot≠t.1:=by rw[m,<-e];exact fun x hx=>(afL h.bs g _ _ x hx).2
  obtain⟨z,r⟩:=ZAe.1 hn;obtain⟨v,o,B⟩:=aka l _ u r fun c j=>by
   obtain⟨k,C,q⟩:=hs c (NB _ j);refine⟨k,(w k fun e3=>?_).2 C,q⟩;have:=z c j;omega
  refine⟨v,D.F0 o,fun x hx c j=>?_⟩;rcases OO.1 j with rfl|j
  ·exact p x (o.fls x hx)
  ·exact B x hx c j
theorem Bs.Jj(h:Bs G)(hf:f∈G.fls):(f.slot,f.gen)∈YL f.be G.tab:=by
 obtain⟨k,a,c,b⟩:=h.slot hf;unfold YL YM;refine ZAd.2 ⟨k,ZAf.2 ⟨by simpa using a,?_⟩,?_⟩
 ·simp[aa6,a,b]
 ·simp[afn,a,b,c]
theorem ahd(h:Im G)(l:awV):Im (Zd G l)/\YU G (Zd G l)/\(l.2.1=3->l.2.2.2.2.1<=G.now->∀f∈(Zd G l).fls,f.be≠l.1):=by
 unfold Zd
 split
 ·rename_i a
  refine⟨h,⟨Xc.Gy G,fun _ h=>h⟩,fun h3 hu=>?_⟩;rcases a with a|a
  ·exact absurd h3 a
  ·omega
 ·obtain⟨g,o⟩:=h.bs.IW l.1
  obtain⟨m,c,j⟩:=aka (YL l.1 G.tab) G h g fun t ht=>by
   obtain⟨f,b,e,_⟩:=o t ht;exact⟨f,b,e⟩
  refine⟨m,c,fun _ _ f b e=>?_⟩;have:=h.bs.Jj (c.fls f b);rw[e]at this;exact j f b _ this rfl
theorem akd:∀(L:List awV) (G:Gt),Im G->Im (L.foldl Zd G)/\YU G (L.foldl Zd G)/\∀l∈L,l.2.1=3->l.2.2.2.2.1<=G.now->∀f∈(L.foldl Zd G).fls,f.be≠l.1
 | [],G,h=>⟨h,⟨Xc.Gy G,fun _ h=>h⟩,fun _ hl=>by cases hl⟩
 |l::L,G,h=>by
  obtain⟨j,g,o⟩:=ahd h l;obtain⟨p,e,m⟩:=akd L _ j;refine⟨p,g.F0 e,fun x c=>?_⟩;rcases OO.1 c with rfl|c
  ·exact fun a b f hf=>o a b f (e.fls f hf)
  ·intro a b
   exact m x c a (by rw[g.step.now];exact b)
theorem Im.Mq(h:Im G):Im (acG G)/\YU G (acG G)/\∀l∈(acG G).liv,l.2.1=3->G.now<l.2.2.2.2.1:=by
 obtain⟨b,a,j⟩:=akd G.liv G h;refine⟨b,a,fun l hl h3=>?_⟩
 by_cases hlt:G.now<l.2.2.2.2.1
 ·exact hlt
 ·have c:=a.step.ends l hl h3
  obtain⟨f,g,e⟩:=acF.1 (b.drn l hl h3);exact absurd e (j l c h3 (by omega) f g)
theorem aeS(h:Bs G):(YH G).now=G.now/\(YH G).wnow=G.wnow/\(YH G).fls=G.fls/\(YH G).cfg=G.cfg/\(YH G).out=G.out/\(YH G).tab=G.tab/\(YH G).tok=G.tok/\(YH G).liv=G.liv.map (XH G.now):=by
 rw[af3 h];obtain⟨g,c,a,m,e,b,o,j,_⟩:=ahR (XW G.liv) {G with liv:=G.liv.map (XH G.now)};exact⟨c,g,a,o,b,e,j,m⟩
theorem Wm.I6(h:Wm G)(hn:G.now+1<=1099511626776):Wm (abj G)/\(abj G).now=G.now+1/\(abj G).cfg=G.cfg:=by
 have m:=h.im.next hn;obtain⟨D,B,v,w,_⟩:=aeS m.bs;have q:=m.Jf;have A:=q.I2;have a:(aaC (YH {G with now:=G.now+1})).now=G.now+1:=D;have g:(aaC (YH {G with now:=G.now+1})).wnow=G.now:=B.trans h.wnow;obtain⟨z,r,s,u,E,o,C⟩:=A.Je (by rw[g,a]) (fun f b=>by
  have b:f∈(YH {G with now:=G.now+1}).fls:=b;rw[v]at b;rw[g];exact h.due f b)
 obtain⟨c1,c2,c3⟩:=z.Mq;have e:(Zs (aaC (YH {G with now:=G.now+1}))).now=G.now+1:=r.trans a;have c:(abj G).now=G.now+1:=c2.step.now.trans e;refine⟨⟨c1,?_,fun f b=>?_,fun l hl h4=>?_,fun x hx ho=>?_⟩,c,c2.step.cfg.trans (u.trans w)⟩
 ·rw[c]
  exact c2.step.wnow.trans (s.trans a)
 ·rw[c]
  have:=C f (c2.fls f b);rw[a]at this;exact this
 ·rw[c]
  have:=c3 l hl h4;rw[e]at this;exact this
 ·rw[c]
  have p:=c2.step.out;rw[e]at p;rw[a]at o;have j:=aop (G:=YH {G with now:=G.now+1}) q.bs;rw[a]at j;exact p (o j) x hx ho
end
section
variable {G:Gt}
theorem Wm.of(h:Wm G){G':Gt}(im:Im G')(st:Xc G G')(hd:∀f∈G'.fls,G.now<f.due):Wm G' :=
 ⟨im,by rw[st.wnow,st.now];exact h.wnow,by rw[st.now];exact hd,fun l hl h3=>by rw[st.now];exact h.till l (st.ends l hl h3) h3,by rw[st.now];exact st.out h.out⟩
theorem Wm.Jh(h:Wm G)(o:List Ou):Wm {G with out:=o}:=⟨⟨h.im.bs.Jh o,h.im.be,h.im.ring,h.im.drn,h.im.hi⟩,h.wnow,h.due,h.till,h.out⟩
theorem Wm.GT(h:Wm G)(o:Ou):Wm (ZM G o):=h.Jh _
theorem Wm.Hc(h:Wm G)(hf:f∈G.fls)(kind why:Int):Wm (Yg G f kind why):=
 h.of (h.im.Hc hf _ _) (Xc.Hc h.im.bs hf _ _) fun x hx=>h.due x (afL h.im.bs hf _ _ x hx).1
theorem Wm.I8(h:Wm G)(hi:i<G.fls.length)(why:Int):Wm (YP G i why):=by
 refine h.of (h.im.I8 hi _) (Xc.I8 h.im.bs hi _) fun x hx=>?_
 by_cases e:x.slot=G.fls[i].slot
 ·have a:=akm h.im.bs hi why x hx e
  have b:=h.im.bs.conn;omega
 ·exact h.due x ((akU h.im.bs hi why x e).1 hx)
theorem Wm.Mr(h:Wm G)(hi:i<G.fls.length):Wm (aaZ G i):=by
 have b:=h.im.Mr hi;have c:=h.im.bs.idle;unfold aaZ at b⊢
 split at b
 ·rename_i hs
  rw[Nh hs];refine h.of b ⟨rfl,rfl,rfl,adh.Gy _,fun ho=>ho⟩ fun x a=>?_
  rcases aac a with rfl|a
  ·show G.now<G.now+G.cfg.idle;omega
  ·exact h.due x a
 ·rename_i hs
  rw[Nf hs];exact h.GT _
theorem Wm.Mu(h:Wm G)(hi:i<G.fls.length):Wm (abh G i):=by
 have b:=h.im.Mu hi;have j:=h.im.bs.idle;have c:=Nk hi;have g:=(h.im.bs.F9 c).2.2.2;have e:=Xc.GA h.im.bs g Nb;unfold abh at b⊢;simp only[XA hi]at b⊢;refine h.of b ⟨rfl,rfl,rfl,adh.Gy _,e.out⟩ fun x a=>?_
 have a:x∈(G.fls.set i _).set i _:=a;rcases aac a with rfl|a
 ·show G.now<G.now+G.cfg.idle;omega
 ·rcases aac a with rfl|a
  ·exact h.due G.fls[i] c
  ·exact h.due x a
theorem Wm.Mz(h:Wm G)(e:Ev):Wm (aaq G e):=by
 unfold aaq;simp only[]
 split
 ·exact h.GT _
 ·rename_i b
  have b:(Yj G.tab e.slot e.gen).2=0:=by
   by_cases e':(Yj G.tab e.slot e.gen).2=0
   ·exact e'
   ·exact absurd e' b
  obtain⟨f,c,j,m⟩:=h.im.bs.Jv b;rw[<-j];obtain⟨a,g⟩:=h.im.bs.GG c
  split
  ·rw[XA a,g]
   exact h.Hc c _ _
  ·split
   ·exact h.Mr a
   ·split
    ·exact h.GT _
    ·split
     ·exact h.Mu a
     ·exact h.I8 a _
theorem Wm.Mp(h:Wm G){key:Int}(hk:0<=key/\key<=4294967295):Wm (aaI G key):=by
 have b:=h.im.Mp hk;have c:=h.im.bs.conn;rcases afU h.im.bs hk with⟨e,_⟩|⟨e,_⟩|⟨k,g,_,_,_,_,_,_,_,e⟩
 ·rw[e];exact h.GT _
 ·rw[e];exact h.GT _
 ·rw[e]at b⊢
  refine h.of b ⟨rfl,rfl,rfl,adh.Gy _,fun ho=>ho⟩ fun x a=>?_
  rcases abT.1 a with rfl|a
  ·show G.now<G.now+G.cfg.conn;omega
  ·exact h.due x a
theorem Wm.Ms(h:Wm G){e:Ev}(he:XZ e)(h5:e.kind=5):Wm (Yv G 1 e):=by
 refine h.of (h.im.Ms he h5) ⟨rfl,rfl,rfl,fun l a h3=>?_,fun ho=>ho⟩ h.due;have a:l∈(YV G 1 e).1.1:=a;rcases ag7 h.im.bs he.req (Nt rfl:(1:Int)=1\/(1:Int)=2)with⟨_,q⟩|⟨_,_,q,_⟩|⟨_,k,_⟩
 ·rw[q]at a;exact a
 ·rw[q]at a
  rcases akD h.im.bs.book.1.2 he.be (he.wt h5)with⟨_,_,_,b⟩|⟨_,e1⟩
  ·rcases b l a with b|rfl
   ·exact b
   ·exact absurd h3 (show ¬(1:Int)=3 by decide)
  ·rw[e1]at a;exact a
 ·exact absurd k (by decide)
theorem Wm.Mt(h:Wm G){e:Ev}(he:XZ e):Wm (abg G e):=by
 have z:=h.im.bs.drain;have a:=h.im.Mt he;have o:=h.im.bs.Mc he.req (NF rfl:(2:Int)=1\/(2:Int)=2);have r:Bs {Yv G 2 e with wts:=G.wts.set e.be.toNat 0}:=Bs.Jg o (h.im.bs.wts.F4 _ 0 (by omega) (by omega));have m:∀l∈(Yv G 2 e).liv,l.2.1=3->G.now<l.2.2.2.2.1:=by
  intro l b c;have b:l∈(YV G 2 e).1.1:=b;rcases ahC h.im.bs he.req with⟨_,q⟩|⟨_,_,_,B,q⟩
  ·rw[q]at b;exact h.till l b c
  ·rw[q]at b
   obtain⟨x,g,s⟩:=akL b;rcases s with rfl|rfl
   ·exact h.till _ g c
   ·show G.now<G.now+G.cfg.drain
    omega
 unfold abg at a⊢
 split
 ·rename_i hy
  rw[Nh hy]at a;exact⟨a,h.wnow,h.due,m,h.out⟩
 ·rename_i hy
  rw[Nf hy]at a
  split
  ·rename_i h2
   rw[Nh h2]at a;exact⟨a,h.wnow,h.due,m,h.out⟩
  ·rename_i h2
   rw[Nf h2]at a;obtain⟨j,w,A,v,u,_⟩:=ahi (G:={Yv G 2 e with wts:=G.wts.set e.be.toNat 0}) e.be;have p:=akk r e.be;refine⟨a,by rw[j,w];exact h.wnow,fun f hf=>?_,fun l b c=>?_,fun x g ho=>?_⟩
   ·rw[j];rw[u]at hf;exact h.due f hf
   ·rw[j];exact m l (p l b c) c
   ·rw[j];rw[v]at g;exact h.out x g ho
theorem Wm.Mm(h:Wm G){e:Ev}(he:XZ e)(hn:e.kind=7->G.now+1<=1099511626776):Wm (Xb G e):=by
 unfold Xb
 split
 ·exact h.Mp he.key
 ·split
  ·rename_i h5
   exact h.Ms he h5
  ·split
   ·exact h.Mt he
   ·split
    ·rename_i h7
     exact(h.I6 (hn h7)).1
    ·exact h.Mz e
end
section
variable {G:Gt}
theorem aki(b:Int):(Yf G b).out.length<=G.out.length+1:=by
 unfold Yf
 split
 ·show(G.out++[_]).length<=_;simp
 ·omega
theorem afK(f:Fl)(kind why:Int):(Yg G f kind why).out.length<=G.out.length+2:=by
 unfold Yg;refine Nm (aki _) ?_;show(G.out++[_]).length+1<=_;simp
theorem aqr(i:Nat)(b:Int):(ZL G i b).out.length<=G.out.length+2:=by
 unfold ZL;refine Nm (aki _) ?_;show(G.out++[_]).length+1<=_;simp
theorem aoZ(i:Nat)(why:Int):(YP G i why).out.length<=G.out.length+2:=by
 unfold YP;simp only[]
 split
 ·exact afK (G:=Yh G _ Nw) _ _ _
 ·split
  ·exact afK (G:=Yh G _ Nw) _ _ _
  ·exact aqr (G:={Yh G _ Nw with tok:=_}) _ _
theorem akP(s:Int):(X5 G s).out.length<=G.out.length+2:=by
 unfold X5;simp only[]
 split
 ·exact afK _ _ _
 ·exact aoZ _ _
theorem aj9(t:Tm):(Ye G t).out.length<=G.out.length+2:=afK _ _ _
theorem akS:∀(l:List Int) (G:Gt) (k:Nat),Im G->l.Nodup->(∀s∈l,∃f∈G.fls,f.slot=s)->k<=l.length ->
  Im ((l.take k).foldl X5 G)/\Xc G ((l.take k).foldl X5 G)/\(∀s∈l.drop k,∃f∈((l.take k).foldl X5 G).fls,f.slot=s)/\((l.take k).foldl X5 G).out.length<=G.out.length+2*k
 |l,G,0,h,_,hs,_=>⟨h,Xc.Gy G,hs,MV _⟩
 | [],G,k+1,_,_,_,hk=>by simp at hk
 |s::l,G,k+1,h,hn,hs,hk=>by
  obtain⟨f,q,rfl⟩:=hs s (by simp);obtain⟨m,u,o,_⟩:=ahy h q;obtain⟨c,b⟩:=List.nodup_cons.1 hn;obtain⟨r,g,p,v⟩:=akS l (X5 G f.slot) k m b (fun s hs'=>by
   obtain⟨x,j,e⟩:=hs s (NB _ hs');have a:x.slot≠f.slot:=fun e2=>c (by rw[<-e2,e];exact hs')
   exact⟨x,(o x a).2 j,e⟩) (by simpa using hk)
  have w:=akP (G:=G) f.slot;rw[PT,O4,List.drop_succ_cons];exact⟨r,u.F0 g,p,by omega⟩
theorem ake:∀(l:List Tm) (G:Gt) (k:Nat),Im G->l.Pairwise (fun a b=>a.1<b.1)->(∀t∈l,∃f∈G.fls,f.slot=t.1)->k<=l.length ->
  Im ((l.take k).foldl Ye G)/\Xc G ((l.take k).foldl Ye G)/\(∀t∈l.drop k,∃f∈((l.take k).foldl Ye G).fls,f.slot=t.1)/\((l.take k).foldl Ye G).out.length<=G.out.length+2*k
 |l,G,0,h,_,hs,_=>⟨h,Xc.Gy G,hs,MV _⟩
 | [],G,k+1,_,_,_,hk=>by simp at hk
 |t::l,G,k+1,h,hn,hs,hk=>by
  obtain⟨f,c,e⟩:=hs t (by simp);obtain⟨A,q⟩:=h.bs.GG c;have g:Ye G t=Yg G f 6 2:=by
   unfold Ye;rw[<-e,XA A,q]
  have u:Im (Ye G t):=by rw[g];exact h.Hc c _ _
  have C:Xc G (Ye G t):=by rw[g];exact Xc.Hc h.bs c _ _
  have z:adi G (Ye G t) f.slot:=by rw[g];exact ad3 h.bs c _ _
  obtain⟨p,o⟩:=ZAe.1 hn;obtain⟨v,r,B,D⟩:=ake l (Ye G t) k u o (fun s hs'=>by
   obtain⟨x,w,j⟩:=hs s (NB _ hs');have m:x.slot≠f.slot:=fun e4=>by have:=p s hs';rw[<-e,<-j,e4]at this;omega
   exact⟨x,(z x m).2 w,j⟩) (by simpa using hk)
  have E:=aj9 (G:=G) t;rw[PT,O4,List.drop_succ_cons];exact⟨v,C.F0 r,B,by omega⟩
theorem ak1:∀ {l m:List Int},l.Pairwise (·<·)->m.Pairwise (·<·)->(∀x,x∈l↔x∈m)->l=m
 | [],[],_,_,_=>rfl
 | [],b::m,_,_,h=>absurd ((h b).2 (NM ..)) (by simp)
 |a::l,[],_,_,h=>absurd ((h a).1 (NM ..)) (by simp)
 |a::l,b::m,h1,h2,h=>by
  obtain⟨g,p⟩:=ZAe.1 h1;obtain⟨j,o⟩:=ZAe.1 h2;have e:a=b:=by
   rcases OO.1 ((h a).1 (NM ..))with e|e
   ·exact e
   ·rcases OO.1 ((h b).2 (NM ..))with e2|e2
    ·exact e2.symm
    ·have:=g b e2;have:=j a e;omega
  subst e;rw[ak1 p o fun x=>?_];constructor
  ·intro c
   rcases OO.1 ((h x).1 (NB _ c))with e|e
   ·have:=g x c;omega
   ·exact e
  ·intro c
   rcases OO.1 ((h x).2 (NB _ c))with e|e
   ·have:=j x c;omega
   ·exact e
theorem apL(h:Bs G){ls ms:List (List Tm)}{L:List Tm}(ht:∀t,t∈ls.flatten↔G.tms t)(hL:Z8 G.wnow ls ms L):L.map (·.2)=aaD G.fls (G.wnow+1):=by
 refine ak1 ?_ ?_ fun x=>?_
 ·refine List.pairwise_map.2 (hL.ord.imp_of_mem fun {a b} ha hb hc=>?_)
  have q:=((hL.off a).1 ha).2;have o:=((hL.off b).1 hb).2;unfold Xe at hc;rw[q,o,Nf (by omega),Nf (by omega)]at hc
  split at hc
  ·assumption
  ·split at hc <;> omega
 ·unfold aaD
  exact List.pairwise_map.2 (h.Ge.filter _)
 ·constructor
  ·intro j
   obtain⟨t,p,rfl⟩:=ZAd.1 j;obtain⟨r,m⟩:=(hL.off t).1 p;obtain⟨f,c,e,_⟩:=(h.tms t).1 ((ht t).1 r);rw[e]at m⊢;exact akK c m
  ·intro j
   obtain⟨f,c,rfl⟩:=ZAd.1 j;obtain⟨c,g⟩:=ZAf.1 c;have g:f.due=G.wnow+1:=by simpa using g
   refine ZAd.2 ⟨(f.due,f.slot),(hL.off _).2 ⟨(ht _).2 ((h.tms _).2 ⟨f,c,rfl,by omega⟩),g⟩,rfl⟩
theorem apM{ls ms:List (List Tm)}{L:List Tm}(ht:∀t,t∈ls.flatten↔G.tms t)(hL:Z8 G.wnow ls ms L)(t:Tm):t∈ms.flatten↔G.tms t/\t.1≠G.wnow+1:=(hL.left t).trans (and_congr (ht t) Iff.rfl)
end
end
section
variable {f:Fl}{n s:Int}{junk l:List Fl}{xs:List M7}{L:List awV}{W:MO}{P:MO->Prop}{b c cap j k:Nat}{S:Nat->Prop}{p:Option Oc}{T:Tm->Prop}
abbrev WX(f:Fl):List Value:=[MF ME f.slot,MF ME f.gen,MF ME f.key,MF ME f.be,M3 f.srv,MF ME f.ret,MF ME f.due]
abbrev Z1(o:Ou):List Value:=[MF ME o.kind,MF ME o.slot,MF ME o.gen,MF ME o.be,MF ME o.req,MF ME o.code,MF ME o.why]
abbrev Mk:=Option Oc×Nat
abbrev aa0(x:Mk×He):List Value:=[MG x.1.1 x.2.marks.length x.1.2,M3 x.2.out,MF ME x.2.till,MF ME x.2.times]
theorem XL(x:Fl):(WX x).length=7:=rfl
theorem akV(x:Ou):(Z1 x).length=7:=rfl
theorem aci(x:Mk×He):(aa0 x).length=4:=rfl
theorem acI(x:Fl):∀u∈WX x,u.oneCell'=true:=by
 intro u a;simp only[OO,OD,or_false]at a;rcases a with rfl|rfl|rfl|rfl|rfl|rfl|rfl <;> rfl
theorem aqd(x:Ou):∀u∈Z1 x,u.oneCell'=true:=by
 intro u a;simp only[OO,OD,or_false]at a;rcases a with rfl|rfl|rfl|rfl|rfl|rfl|rfl <;> rfl
theorem apb(x:Mk×He):∀u∈aa0 x,u.oneCell'=true:=by
 intro u a;simp only[OO,OD,or_false]at a;rcases a with rfl|rfl|rfl|rfl <;> rfl
structure Vs where
 bh:Nat
 ch:Nat
 pt:Option Oc
 ct:Nat
 pf:Option Oc
 cf:Nat
 pl:Option Oc
 cl:Nat
 pr:Option Oc
 cr:Nat
 ps:Option Oc
 cs:Nat
 pw:Option Oc
 cw:Nat
 po:Option Oc
 co:Nat
 ms:List Mk
def Vs.own(V:Vs)(g b:Nat):Prop:=b=g\/b=V.bh\/V.pf.map (·.block)=MI b\/V.po.map (·.block)=MI b
def Vs.off(V:Vs)(base g b:Nat):Prop:=V.own g b\/b<base
def XG(S:Nat->Prop)(w:MO)(P:MO->Prop):Prop :=
 ∀w',w.heap.size<=w'.heap.size->(∀b,b<w.heap.size->¬S b->w'.heap[b]?=w.heap[b]?)->P w'
theorem XG.now{w:MO}(h:XG S w P):P w:=h w (MV _) fun _ _ _=>rfl
theorem XG.step{S':Nat->Prop}{w w':MO}(h:XG S w P)(hs:w.heap.size<=w'.heap.size)(hb:∀b,b<w.heap.size->¬S b->w'.heap[b]?=w.heap[b]?)(hS:∀b,b<w.heap.size->S' b->S b):XG S' w' P :=
 fun w'' h1 h2=>h w'' (Nm hs h1) fun b hlt hn=>(h2 b (M8 hlt hs) fun h=>hn (hS b hlt h)).trans (hb b hlt hn)
theorem XG.below{w w':MO}(h:XG S w P)(hb:MQ w.heap.size w w'):XG S w' P:=h.step hb.size (fun b hlt _=>hb.block b hlt) fun _ _ h=>h
theorem abt{w:MO}{n:Nat}(h:XB w (MG p k c) n xs)(hS:∀b,p.map (·.block)=MI b->¬S b):XG S w fun W=>XB W (MG p k c) n xs:=by
 intro w' u t;obtain⟨a,cap,e,o,m,d|⟨b,off,d,q,r⟩⟩:=h
 ·exact⟨a,cap,e,o,m,Nt d⟩
 ·refine⟨a,cap,e,o,m,NF ⟨b,off,d,M8 q u,fun i hi=>?_⟩⟩
  rw[<-r i hi];cases e;subst d;have:=t b q (hS b rfl);simp only[Nl,this]
abbrev ahn(V:Vs)(G:Gt):Array Value:=#[MF ME G.cfg.flows,MF ME G.cfg.num,MF ME G.cfg.den,MF ME G.cfg.tries,MF ME G.cfg.warm,MF ME G.cfg.drain,MF ME G.cfg.idle,MF ME G.cfg.conn,MF ME G.cfg.ret,MF ME G.cfg.most,MF ME G.cfg.bn,MF ME G.cfg.bd,MF ME G.cfg.bb,MF ME G.cfg.wn,MF ME G.cfg.wf,MF ME G.cfg.wh,MF ME G.now,MG V.pt G.tab.length V.ct,MG V.pf G.fls.length V.cf,MG V.pl G.liv.length V.cl,MG V.pr G.req.length V.cr,MG V.ps (WW G.wts).length V.cs,MG (MI ⟨V.bh,0,MH⟩) 12 V.ch,MF ME G.tok,MF ME G.wnow,MG V.pw 25 V.cw,MG V.po G.out.length V.co]
structure hI(base:Nat)(w:MO)(g:Nat)(V:Vs)(G:Gt):Prop where
 tab:XG (V.off base g) w fun W=>Yy W (MG V.pt G.tab.length V.ct) G.tab
 book:XG (V.off base g) w fun W=>aaM W (MG V.pl G.liv.length V.cl) (MG V.pr G.req.length V.cr) G.liv G.req
 ring:XG (V.off base g) w fun W=>Xz W (MG V.ps (WW G.wts).length V.cs) (WW G.wts)
 whl:∃ls,Y9 G.wnow ls/\(∀t,t∈ls.flatten↔G.tms t)/\XG (V.off base g) w fun W=>Zo W (MG V.pw 25 V.cw) ls
 fls:w.ownsRow base 72 7 (MG V.pf G.fls.length V.cf) G.fls.length (rv WX G.fls)
 hea:w.ownsRow base 195 4 (MG (MI ⟨V.bh,0,MH⟩) 12 V.ch) 12 (rv aa0 (V.ms.zip G.hea))
 msl:V.ms.length=12
 hel:G.hea.length=12
 marks:∀(i:Nat) (m:Mk) (h:He),V.ms[i]?=MI m->G.hea[i]?=MI h->XG (V.off base g) w fun W=>Yo W (MG m.1 h.marks.length m.2) h.marks
 out:w.ownsRow base 83 7 (MG V.po G.out.length V.co) G.out.length (rv Z1 G.out)
 low:base<=g
 lt:g<w.heap.size
 hg:V.bh≠g
 fg:V.pf.map (·.block)≠MI g
 fh:V.pf.map (·.block)≠MI V.bh
 og:V.po.map (·.block)≠MI g
 oh:V.po.map (·.block)≠MI V.bh
 fo:∀b,V.pf.map (·.block)=MI b->V.po.map (·.block)≠MI b
 blk:Xo w
 pos:1<base
structure OR(base:Nat)(w:MO)(g:Nat)(V:Vs)(G:Gt):Prop where
 box:w.heap[g]?=MI (MP (ahn V G) 147 (0,0))
 rest:hI base w g V G
section
variable {base:Nat}{w w':MO}{g:Nat}{V:Vs}{G:Gt}
theorem XV(p:Option Oc)(n c:Nat):(MG p n c).ownBlock=p.map (·.block):=by cases p <;> rfl
theorem OR.c0(h:OR base w g V G):w.cell? ⟨g,0,MH⟩=MI (MF ME G.cfg.flows):=by rw[MW w g 0 _ _ (0,0) h.box];rfl
theorem OR.c1(h:OR base w g V G):w.cell? ⟨g,1,MH⟩=MI (MF ME G.cfg.num):=by rw[MW w g 1 _ _ (0,0) h.box];rfl
theorem OR.c2(h:OR base w g V G):w.cell? ⟨g,2,MH⟩=MI (MF ME G.cfg.den):=by rw[MW w g 2 _ _ (0,0) h.box];rfl
theorem OR.c3(h:OR base w g V G):w.cell? ⟨g,3,MH⟩=MI (MF ME G.cfg.tries):=by rw[MW w g 3 _ _ (0,0) h.box];rfl
theorem OR.c4(h:OR base w g V G):w.cell? ⟨g,4,MH⟩=MI (MF ME G.cfg.warm):=by rw[MW w g 4 _ _ (0,0) h.box];rfl
theorem OR.c5(h:OR base w g V G):w.cell? ⟨g,5,MH⟩=MI (MF ME G.cfg.drain):=by rw[MW w g 5 _ _ (0,0) h.box];rfl
theorem OR.c6(h:OR base w g V G):w.cell? ⟨g,6,MH⟩=MI (MF ME G.cfg.idle):=by rw[MW w g 6 _ _ (0,0) h.box];rfl
theorem OR.c7(h:OR base w g V G):w.cell? ⟨g,7,MH⟩=MI (MF ME G.cfg.conn):=by rw[MW w g 7 _ _ (0,0) h.box];rfl
theorem OR.c8(h:OR base w g V G):w.cell? ⟨g,8,MH⟩=MI (MF ME G.cfg.ret):=by rw[MW w g 8 _ _ (0,0) h.box];rfl
theorem OR.c9(h:OR base w g V G):w.cell? ⟨g,9,MH⟩=MI (MF ME G.cfg.most):=by rw[MW w g 9 _ _ (0,0) h.box];rfl
theorem OR.Hf(h:OR base w g V G):w.cell? ⟨g,10,MH⟩=MI (MF ME G.cfg.bn):=by rw[MW w g 10 _ _ (0,0) h.box];rfl
theorem OR.Hn(h:OR base w g V G):w.cell? ⟨g,11,MH⟩=MI (MF ME G.cfg.bd):=by rw[MW w g 11 _ _ (0,0) h.box];rfl
theorem OR.Hg(h:OR base w g V G):w.cell? ⟨g,12,MH⟩=MI (MF ME G.cfg.bb):=by rw[MW w g 12 _ _ (0,0) h.box];rfl
theorem OR.GS(h:OR base w g V G):w.cell? ⟨g,13,MH⟩=MI (MF ME G.cfg.wn):=by rw[MW w g 13 _ _ (0,0) h.box];rfl
theorem OR.GU(h:OR base w g V G):w.cell? ⟨g,14,MH⟩=MI (MF ME G.cfg.wf):=by rw[MW w g 14 _ _ (0,0) h.box];rfl
theorem OR.GO(h:OR base w g V G):w.cell? ⟨g,15,MH⟩=MI (MF ME G.cfg.wh):=by rw[MW w g 15 _ _ (0,0) h.box];rfl
theorem OR.Gm(h:OR base w g V G):w.cell? ⟨g,16,MH⟩=MI (MF ME G.now):=by rw[MW w g 16 _ _ (0,0) h.box];rfl
theorem OR.Gs(h:OR base w g V G):w.cell? ⟨g,17,MH⟩=MI (MG V.pt G.tab.length V.ct):=by rw[MW w g 17 _ _ (0,0) h.box];rfl
theorem OR.Gr(h:OR base w g V G):w.cell? ⟨g,18,MH⟩=MI (MG V.pf G.fls.length V.cf):=by rw[MW w g 18 _ _ (0,0) h.box];rfl
theorem OR.Gn(h:OR base w g V G):w.cell? ⟨g,19,MH⟩=MI (MG V.pl G.liv.length V.cl):=by rw[MW w g 19 _ _ (0,0) h.box];rfl
theorem OR.GD(h:OR base w g V G):w.cell? ⟨g,20,MH⟩=MI (MG V.pr G.req.length V.cr):=by rw[MW w g 20 _ _ (0,0) h.box];rfl
theorem OR.GX(h:OR base w g V G):w.cell? ⟨g,21,MH⟩=MI (MG V.ps (WW G.wts).length V.cs):=by rw[MW w g 21 _ _ (0,0) h.box];rfl
theorem OR.GI(h:OR base w g V G):w.cell? ⟨g,22,MH⟩=MI (MG (MI ⟨V.bh,0,MH⟩) 12 V.ch):=by rw[MW w g 22 _ _ (0,0) h.box];rfl
theorem OR.Id(h:OR base w g V G):w.cell? ⟨g,23,MH⟩=MI (MF ME G.tok):=by rw[MW w g 23 _ _ (0,0) h.box];rfl
theorem OR.GJ(h:OR base w g V G):w.cell? ⟨g,24,MH⟩=MI (MF ME G.wnow):=by rw[MW w g 24 _ _ (0,0) h.box];rfl
theorem OR.GH(h:OR base w g V G):w.cell? ⟨g,25,MH⟩=MI (MG V.pw 25 V.cw):=by rw[MW w g 25 _ _ (0,0) h.box];rfl
theorem OR.Ip(h:OR base w g V G):w.cell? ⟨g,26,MH⟩=MI (MG V.po G.out.length V.co):=by rw[MW w g 26 _ _ (0,0) h.box];rfl
theorem OR.fz(h:OR base w g V G)(k:Nat):w.frozen? ⟨g,k,MH⟩=false:=by simp[Ng,h.box]
theorem OR.lt(h:OR base w g V G):g<w.heap.size:=h.rest.lt
theorem hI.step(h:hI base w g V G)(hs:w.heap.size<=w'.heap.size)(hb:∀b,b<w.heap.size->b≠g->w'.heap[b]?=w.heap[b]?):hI base w' g V G:=by
 have a:∀ {P:MO->Prop},XG (V.off base g) w P->XG (V.off base g) w' P:=fun hP=>hP.step hs (fun b hlt hn=>hb b hlt fun e=>hn (Nt (Nt e))) fun _ _ h=>h
 have d:∀ {e:NU} {k:Nat} {p:Option Oc} {n c:Nat} {xs:List M7},w.ownsRow base e k (MG p n c) n xs->p.map (·.block)≠MI g->w'.ownsRow base e k (MG p n c) n xs:=fun ho hne =>
  W8 ho fun b hb'=>hb b (ho.lt b hb').2 fun e=>hne (by rw[<-XV _ _ _,hb',e])
 obtain⟨q,r,o,t⟩:=h.whl;exact⟨a h.tab,a h.book,a h.ring,⟨q,r,o,a t⟩,d h.fls h.fg,d h.hea (fun e=>h.hg (NC e)),h.msl,h.hel,fun i m x e1 e2=>a (h.marks i m x e1 e2),d h.out h.og,h.low,M8 h.lt hs,h.hg,h.fg,h.fh,h.og,h.oh,h.fo,
  h.blk.Gf (hb 1 (by have:=h.low;have:=h.pos;have:=h.lt;omega) (by have:=h.low;have:=h.pos;omega)),h.pos⟩
theorem hI.below(h:hI base w g V G)(hb:MQ w.heap.size w w'):hI base w' g V G:=h.step hb.size fun b hlt _=>hb.block b hlt
theorem OR.below(h:OR base w g V G)(hb:MQ w.heap.size w w'):OR base w' g V G:=⟨WO h.box hb,h.rest.below hb⟩
theorem OR.GW(h:OR base w g V G)(o:Obj):OR base (w.alloc o) g V G:=h.below ((MY _ _).alloc (MV _) o)
theorem hI.F4(h:hI base w g V G)(k:Nat)(v:M7):hI base (w.setCell ⟨g,k,MH⟩ v) g V G :=
 h.step (by simp) fun b _ hne=>MU _ _ _ _ hne
end
section
variable {base:Nat}{w w':MO}{g:Nat}{V:Vs}{G:Gt}
theorem hI.Ha(h:hI base w g V G)(hb:V.own g b):base<=b/\b<w.heap.size:=by
 rcases hb with rfl|rfl|e|e
 ·exact⟨h.low,h.lt⟩
 ·exact h.hea.lt _ rfl
 ·exact h.fls.lt b (by rw[XV];exact e)
 ·exact h.out.lt b (by rw[XV];exact e)
theorem hI.new(h:hI base w g V G)(hb:w.heap.size<=b):¬V.own g b:=fun e=>by have:=(h.Ha e).2;omega
theorem hI.GF(h:hI base w g V G)(hb:w.heap.size<=b):¬V.off base g b:=fun e=>e.elim (h.new hb) fun e=>by have:=h.low;have:=h.lt;omega
theorem hI.Jq(h:hI base w g V G)(hb:MQ w.heap.size w w'){m:List awY}(ho:w'.ownsRow w.heap.size 182 4 (MG p m.length c) m.length (XF m)):
  hI base w' g {V with pt:=p,ct:=c} {G with tab:=m}:=by
 have a:=h.below hb;exact⟨abt (Yr ho) (fun b e=>h.GF (ho.lt b (by rw[XV];exact e)).1),a.book,a.ring,a.whl,a.fls,a.hea,a.msl,a.hel,a.marks,a.out,a.low,a.lt,a.hg,a.fg,a.fh,a.og,a.oh,a.fo,a.blk,a.pos⟩
theorem hI.IR(h:hI base w g V G)(hb:MQ w.heap.size w w'){q:Option Oc}{R:List aw0}(ho:Yw w.heap.size w' (MG p L.length c) (MG q R.length k) L R):
  hI base w' g {V with pl:=p,cl:=c,pr:=q,cr:=k} {G with liv:=L,req:=R}:=by
 have a:=h.below hb;exact⟨a.tab,fun W h1 h2=>⟨abt ho.1.1 (fun b e=>h.GF (ho.2.1 b (by rw[XV];exact e))) W h1 h2,abt ho.1.2 (fun b e=>h.GF (ho.2.2 b (by rw[XV];exact e))) W h1 h2⟩,a.ring,a.whl,a.fls,a.hea,a.msl,a.hel,a.marks,a.out,a.low,a.lt,a.hg,a.fg,a.fh,a.og,a.oh,a.fo,a.blk,a.pos⟩
theorem hI.Js(h:hI base w g V G)(hb:MQ w.heap.size w w'){a:List Int}(ho:w'.ownsRow w.heap.size 192 2 (MG p (WW a).length c) (WW a).length (WP (WW a))):
  hI base w' g {V with ps:=p,cs:=c} {G with wts:=a}:=by
 have d:=h.below hb;exact⟨d.tab,d.book,abt (Yr ho) (fun b e=>h.GF (ho.lt b (by rw[XV];exact e)).1),d.whl,d.fls,d.hea,d.msl,d.hel,d.marks,d.out,d.low,d.lt,d.hg,d.fg,d.fh,d.og,d.oh,d.fo,d.blk,d.pos⟩
theorem hI.I7(h:hI base w g V G)(hb:MQ w.heap.size w w'){ls:List (List Tm)}(ho:adP w' w.heap.size p c ls)(hm:Y9 n ls)(ht:∀t,t∈ls.flatten↔T t):
  hI base w' g {V with pw:=p,cw:=c} {G with wnow:=n,tms:=T}:=by
 have a:=h.below hb;refine⟨a.tab,a.book,a.ring,⟨ls,hm,ht,fun W h1 h2=>?_⟩,a.fls,a.hea,a.msl,a.hel,a.marks,a.out,a.low,a.lt,a.hg,a.fg,a.fh,a.og,a.oh,a.fo,a.blk,a.pos⟩;obtain⟨d,ho⟩:=ho;have k:=ho.Gf (w':=W) fun b h3 h4=>h2 b h4 (h.GF h3)
 exact⟨d,Yr k.row,k.each.1,fun i h1 h2=>Yr (k.each.2 i h1 h2)⟩
theorem hI.IB(h:hI base w g V G)(hs:w.heap.size<=w'.heap.size)(hb:∀b,b<w.heap.size->V.pf.map (·.block)≠MI b->w'.heap[b]?=w.heap[b]?){m:List Fl}
  (ho:w'.ownsRow base 72 7 (MG p m.length c) m.length (rv WX m)) (hp:∀b,p.map (·.block)=MI b->V.pf.map (·.block)=MI b\/w.heap.size<=b) :
  hI base w' g {V with pf:=p,cf:=c} {G with fls:=m}:=by
 have a:∀ {P:MO->Prop},XG (V.off base g) w P->XG (Vs.off {V with pf:=p,cf:=c} base g) w' P:=fun hP=>hP.step hs (fun b hlt hn=>hb b hlt fun e=>hn (Nt (NF (NF (Nt e))))) fun b hlt hS=>by
  rcases hS with(e|e|e|e)|e
  ·exact Nt (Nt e)
  ·exact Nt (NF (Nt e))
  ·rcases hp b e with e|e
   ·exact Nt (NF (NF (Nt e)))
   ·omega
  ·exact Nt (NF (NF (NF e)))
  ·exact NF e
 have d:∀b,V.own g b->V.pf.map (·.block)≠MI b->p.map (·.block)≠MI b:=fun b hb1 hb2 e=>by
  rcases hp b e with e|e
  ·exact hb2 e
  ·exact h.new e hb1
 obtain⟨q,r,o,t⟩:=h.whl;refine⟨a h.tab,a h.book,a h.ring,⟨q,r,o,a t⟩,ho,W8 h.hea fun b e=>hb b (h.hea.lt b e).2 fun e2=>h.fh (by rw[e2,<-e];rfl),h.msl,h.hel,fun i m x e1 e2=>a (h.marks i m x e1 e2),
  W8 h.out fun b e=>hb b (h.out.lt b e).2 fun e2=>h.fo b e2 (by rw[<-e,XV]),h.low,M8 h.lt hs,h.hg,d g (Nt rfl) h.fg,d _ (NF (Nt rfl)) h.fh,h.og,h.oh,fun b e1 e2=>?_,
  h.blk.Gf (hb 1 (by have:=h.low;have:=h.pos;have:=h.lt;omega) fun e=>by have:=(h.Ha (NF (NF (Nt e)))).1;have:=h.pos;omega),h.pos⟩
 exact d b (NF (NF (NF e2))) (fun e=>h.fo b e e2) e1
theorem hI.Jh(h:hI base w g V G)(hs:w.heap.size<=w'.heap.size)(hb:∀b,b<w.heap.size->V.po.map (·.block)≠MI b->w'.heap[b]?=w.heap[b]?){m:List Ou}
  (ho:w'.ownsRow base 83 7 (MG p m.length c) m.length (rv Z1 m)) (hp:∀b,p.map (·.block)=MI b->V.po.map (·.block)=MI b\/w.heap.size<=b) :
  hI base w' g {V with po:=p,co:=c} {G with out:=m}:=by
 have a:∀ {P:MO->Prop},XG (V.off base g) w P->XG (Vs.off {V with po:=p,co:=c} base g) w' P:=fun hP=>hP.step hs (fun b hlt hn=>hb b hlt fun e=>hn (Nt (NF (NF (NF e))))) fun b hlt hS=>by
  rcases hS with(e|e|e|e)|e
  ·exact Nt (Nt e)
  ·exact Nt (NF (Nt e))
  ·exact Nt (NF (NF (Nt e)))
  ·rcases hp b e with e|e
   ·exact Nt (NF (NF (NF e)))
   ·omega
  ·exact NF e
 have d:∀b,V.own g b->V.po.map (·.block)≠MI b->p.map (·.block)≠MI b:=fun b hb1 hb2 e=>by
  rcases hp b e with e|e
  ·exact hb2 e
  ·exact h.new e hb1
 obtain⟨q,r,o,t⟩:=h.whl;refine⟨a h.tab,a h.book,a h.ring,⟨q,r,o,a t⟩,W8 h.fls fun b e=>hb b (h.fls.lt b e).2 fun e2=>h.fo b (by rw[<-e,XV]) e2,W8 h.hea fun b e=>hb b (h.hea.lt b e).2 fun e2=>h.oh (by rw[e2,<-e];rfl),h.msl,h.hel,fun i m x e1 e2=>a (h.marks i m x e1 e2),
  ho,h.low,M8 h.lt hs,h.hg,h.fg,h.fh,d g (Nt rfl) h.og,d _ (NF (Nt rfl)) h.oh,fun b e1=>d b (NF (NF (Nt e1))) (h.fo b e1),
  h.blk.Gf (hb 1 (by have:=h.low;have:=h.pos;have:=h.lt;omega) fun e=>by have:=(h.Ha (NF (NF (NF e)))).1;have:=h.pos;omega),h.pos⟩
theorem hI.Hd(h:hI base w g V G){bf:Nat}(hp:V.pf=MI ⟨bf,0,MH⟩){i:Nat}(hi:i<G.fls.length)(hj:j<7)(v:M7)(y:Fl)(hy:WX y=(WX G.fls[i]).set j v):
  hI base (w.setCell ⟨bf,i*7+j,MH⟩ v) g V {G with fls:=G.fls.set i y}:=by
 have d:=h.fls;rw[hp]at d;have a:=adn XL d hi hj v y hy;rw[<-hp]at a;have o:=hI.IB (p:=V.pf) (c:=V.cf) (m:=G.fls.set i y) h (w':=w.setCell ⟨bf,i*7+j,MH⟩ v) (by simp) (fun b _ hne=>MU _ _ _ _ (fun e=>hne (by rw[hp,e];rfl))) (by rw[NA];exact a) fun b e=>Nt e
 exact o
theorem akN(h:hI base w g V G){i:Nat}(hi:i<12):∃m x,V.ms[i]?=MI m/\G.hea[i]?=MI x/\(V.ms.zip G.hea)[i]?=MI (m,x)/\G.hea.getD i XM=x:=by
 have d:i<V.ms.length:=by rw[h.msl];exact hi
 have a:i<G.hea.length:=by rw[h.hel];exact hi
 refine⟨V.ms[i],G.hea[i],MR d,MR a,?_,by simp[a]⟩;rw[MR (by simp;omega)];simp
theorem hI.Ir(h:hI base w g V G){i:Nat}(hi:i<12){x:He}(hm:XG (V.off base g) w fun W=>Yo W (MG p x.marks.length c) x.marks):
  hI base ((((w.setCell ⟨V.bh,i*4,MH⟩ (MG p x.marks.length c)).setCell ⟨V.bh,i*4+1,MH⟩ (M3 x.out)).setCell ⟨V.bh,i*4+2,MH⟩ (MF ME x.till)).setCell ⟨V.bh,i*4+3,MH⟩ (MF ME x.times)) g {V with ms:=V.ms.set i (p,c)} {G with hea:=G.hea.set i x}:=by
 obtain⟨K,t,J,o,C,M⟩:=akN h hi;obtain⟨q,B⟩:=ZAb.1 C;have I:=adn aci h.hea q (j:=0) (by omega) (MG p x.marks.length c) ((p,c),{t with marks:=x.marks}) (by rw[B];rfl);have D:=adn aci I (i:=i) (by simpa using q) (j:=1) (by omega) (M3 x.out) ((p,c),{t with marks:=x.marks,out:=x.out}) (by rw[NW];rfl);have E:=adn aci D (i:=i) (by simpa using q) (j:=2) (by omega) (MF ME x.till) ((p,c),{t with marks:=x.marks,out:=x.out,till:=x.till}) (by rw[NW];rfl);have r:=adn aci E (i:=i) (by simpa using q) (j:=3) (by omega) (MF ME x.times) ((p,c),x) (by rw[NW];rfl);simp only[List.set_set,Oe]at r;have A:(V.ms.zip G.hea).set i ((p,c),x)=(V.ms.set i (p,c)).zip (G.hea.set i x):=by
  apply PX
  ·simp
  ·intro k v z
   simp only[Pc,Qf]
   split <;> rfl
 rw[A]at r;have d:∀b,b<w.heap.size->b≠V.bh->((((w.setCell ⟨V.bh,i*4,MH⟩ (MG p x.marks.length c)).setCell ⟨V.bh,i*4+1,MH⟩ (M3 x.out)).setCell ⟨V.bh,i*4+2,MH⟩ (MF ME x.till)).setCell ⟨V.bh,i*4+3,MH⟩ (MF ME x.times)).heap[b]?=w.heap[b]?:=fun b _ hne=>by
  rw[MU _ _ _ _ hne,MU _ _ _ _ hne,MU _ _ _ _ hne,MU _ _ _ _ hne]
 have u:w.heap.size<=((((w.setCell ⟨V.bh,i*4,MH⟩ (MG p x.marks.length c)).setCell ⟨V.bh,i*4+1,MH⟩ (M3 x.out)).setCell ⟨V.bh,i*4+2,MH⟩ (MF ME x.till)).setCell ⟨V.bh,i*4+3,MH⟩ (MF ME x.times)).heap.size:=by simp
 generalize ((((w.setCell ⟨V.bh,i*4,MH⟩ (MG p x.marks.length c)).setCell ⟨V.bh,i*4+1,MH⟩ (M3 x.out)).setCell ⟨V.bh,i*4+2,MH⟩ (MF ME x.till)).setCell ⟨V.bh,i*4+3,MH⟩ (MF ME x.times))=w' at r d u⊢;have a:∀ {P:MO->Prop},XG (V.off base g) w P->XG (V.off base g) w' P:=fun hP=>hP.step u (fun b hlt hn=>d b hlt fun e=>hn (Nt (NF (Nt e)))) fun _ _ h=>h
 obtain⟨H,v,z,F⟩:=h.whl;refine⟨a h.tab,a h.book,a h.ring,⟨H,v,z,a F⟩,W8 h.fls fun b e=>d b (h.fls.lt b e).2 fun o=>h.fh (by rw[<-o,<-e,XV]),r,by rw[NA];exact h.msl,by rw[NA];exact h.hel,fun k m y f1 f2=>?_,
  W8 h.out fun b e=>d b (h.out.lt b e).2 fun o=>h.oh (by rw[<-o,<-e,XV]),h.low,M8 h.lt u,h.hg,h.fg,h.fh,h.og,h.oh,h.fo,
  h.blk.Gf (d 1 (by have:=h.low;have:=h.pos;have:=h.lt;omega) fun e=>by have:=(h.Ha (NF (Nt rfl))).1;have:=h.pos;omega),h.pos⟩
 by_cases hk:k=i
 ·subst hk
  rw[N7 (by rw[h.msl];exact hi)]at f1;rw[N7 (by rw[h.hel];exact hi)]at f2;cases f1;cases f2;exact a hm
 ·rw[N3 (Pi hk)]at f1 f2
  exact a (h.marks k m y f1 f2)
theorem YO{cs cs':Array M7}{T:NU}(h:w.heap[g]?=MI (MP cs T (0,0))){v:M7}(he:cs.setIfInBounds k v=cs'):(w.setCell ⟨g,k,MH⟩ v).heap[g]?=MI (MP cs' T (0,0)):=by
 rw[<-he];exact NI w g k cs T v h
theorem OR.Ja(h:OR base w g V G)(n:Int):OR base (w.setCell ⟨g,16,MH⟩ (MF ME n)) g V {G with now:=n}:=
 ⟨YO h.box rfl,let r:=h.rest.F4 16 (MF ME n);⟨r.tab,r.book,r.ring,r.whl,r.fls,r.hea,r.msl,r.hel,r.marks,r.out,r.low,r.lt,r.hg,r.fg,r.fh,r.og,r.oh,r.fo,r.blk,r.pos⟩⟩
theorem OR.IC(h:OR base w g V G)(n:Int):OR base (w.setCell ⟨g,23,MH⟩ (MF ME n)) g V {G with tok:=n}:=
 ⟨YO h.box rfl,let r:=h.rest.F4 23 (MF ME n);⟨r.tab,r.book,r.ring,r.whl,r.fls,r.hea,r.msl,r.hel,r.marks,r.out,r.low,r.lt,r.hg,r.fg,r.fh,r.og,r.oh,r.fo,r.blk,r.pos⟩⟩
theorem OR.Ix(h:OR base w g V G)(hb:MQ w.heap.size w w'){m:List awY}(ho:w'.ownsRow w.heap.size 182 4 (MG p m.length c) m.length (XF m)):
  OR base (w'.setCell ⟨g,17,MH⟩ (MG p m.length c)) g {V with pt:=p,ct:=c} {G with tab:=m}:=
 ⟨YO (WO h.box hb) rfl,(h.rest.Jq hb ho).F4 _ _⟩
theorem OR.Iq(h:OR base w g V G)(hb:MQ w.heap.size w w'){q:Option Oc}{R:List aw0}(ho:Yw w.heap.size w' (MG p L.length c) (MG q R.length k) L R):
  OR base ((w'.setCell ⟨g,19,MH⟩ (MG p L.length c)).setCell ⟨g,20,MH⟩ (MG q R.length k)) g {V with pl:=p,cl:=c,pr:=q,cr:=k} {G with liv:=L,req:=R}:=
 ⟨YO (YO (WO h.box hb) rfl) rfl,((h.rest.IR hb ho).F4 _ _).F4 _ _⟩
theorem OR.IJ(h:OR base w g V G)(hb:MQ w.heap.size w w'){a:List Int}(ho:w'.ownsRow w.heap.size 192 2 (MG p (WW a).length c) (WW a).length (WP (WW a))):
  OR base (w'.setCell ⟨g,21,MH⟩ (MG p (WW a).length c)) g {V with ps:=p,cs:=c} {G with wts:=a}:=
 ⟨YO (WO h.box hb) rfl,(h.rest.Js hb ho).F4 _ _⟩
theorem OR.Ih(h:OR base w g V G)(hb:MQ w.heap.size w w'){ls:List (List Tm)}(ho:adP w' w.heap.size p c ls)(hm:Y9 n ls)(ht:∀t,t∈ls.flatten↔T t):
  OR base ((w'.setCell ⟨g,24,MH⟩ (MF ME n)).setCell ⟨g,25,MH⟩ (MG p 25 c)) g {V with pw:=p,cw:=c} {G with wnow:=n,tms:=T}:=
 ⟨YO (YO (WO h.box hb) rfl) rfl,((h.rest.I7 hb ho hm ht).F4 _ _).F4 _ _⟩
theorem OR.IU(h:OR base w g V G)(hs:w.heap.size<=w'.heap.size)(hb:∀b,b<w.heap.size->V.pf.map (·.block)≠MI b->w'.heap[b]?=w.heap[b]?){m:List Fl}
  (ho:w'.ownsRow base 72 7 (MG p m.length c) m.length (rv WX m)) (hp:∀b,p.map (·.block)=MI b->V.pf.map (·.block)=MI b\/w.heap.size<=b) :
  OR base (w'.setCell ⟨g,18,MH⟩ (MG p m.length c)) g {V with pf:=p,cf:=c} {G with fls:=m}:=
 ⟨YO ((hb g h.lt h.rest.fg).trans h.box) rfl,(h.rest.IB hs hb ho hp).F4 _ _⟩
theorem OR.Jw(h:OR base w g V G)(hs:w.heap.size<=w'.heap.size)(hb:∀b,b<w.heap.size->V.po.map (·.block)≠MI b->w'.heap[b]?=w.heap[b]?){m:List Ou}
  (ho:w'.ownsRow base 83 7 (MG p m.length c) m.length (rv Z1 m)) (hp:∀b,p.map (·.block)=MI b->V.po.map (·.block)=MI b\/w.heap.size<=b) :
  OR base (w'.setCell ⟨g,26,MH⟩ (MG p m.length c)) g {V with po:=p,co:=c} {G with out:=m}:=
 ⟨YO ((hb g h.lt h.rest.og).trans h.box) rfl,(h.rest.Jh hs hb ho hp).F4 _ _⟩
theorem OR.Hd(h:OR base w g V G){bf:Nat}(hp:V.pf=MI ⟨bf,0,MH⟩){i:Nat}(hi:i<G.fls.length)(hj:j<7)(v:M7)(y:Fl)(hy:WX y=(WX G.fls[i]).set j v):
  OR base (w.setCell ⟨bf,i*7+j,MH⟩ v) g V {G with fls:=G.fls.set i y}:=by
 refine⟨?_,h.rest.Hd hp hi hj v y hy⟩;rw[MU _ _ _ _ (fun e=>h.rest.fg (by rw[hp];exact congrArg MI e.symm)),h.box];simp only[ahn,NA]
theorem OR.Ir(h:OR base w g V G){i:Nat}(hi:i<12){x:He}(hm:XG (V.off base g) w fun W=>Yo W (MG p x.marks.length c) x.marks):
  OR base ((((w.setCell ⟨V.bh,i*4,MH⟩ (MG p x.marks.length c)).setCell ⟨V.bh,i*4+1,MH⟩ (M3 x.out)).setCell ⟨V.bh,i*4+2,MH⟩ (MF ME x.till)).setCell ⟨V.bh,i*4+3,MH⟩ (MF ME x.times)) g {V with ms:=V.ms.set i (p,c)} {G with hea:=G.hea.set i x}:=by
 refine⟨?_,h.rest.Ir hi hm⟩;have a:g≠V.bh:=fun e=>h.rest.hg e.symm
 rw[MU _ _ _ _ a,MU _ _ _ _ a,MU _ _ _ _ a,MU _ _ _ _ a];exact h.box
end
abbrev ZS(f:Fl):Value:=Ny #[MF ME f.slot,MF ME f.gen,MF ME f.key,MF ME f.be,M3 f.srv,MF ME f.ret,MF ME f.due]
abbrev ZR(w:MO)(v:M7)(l:List Fl):Prop:=Xw WX w v l
theorem ZR.F6{w:MO}{v:M7}(h:ZR w v l):
  ∃a cap,v=MG a l.length cap/\l.length<=cap/\cap<=NE/\∀i (hi:i<l.length),∃b off,a=MI ⟨b,off,MH⟩/\b<w.heap.size/\w.cell? ⟨b,off+i*7,MH⟩=MI (MF ME l[i].slot)/\w.cell? ⟨b,off+i*7+1,MH⟩=MI (MF ME l[i].gen)/\w.cell? ⟨b,off+i*7+2,MH⟩=MI (MF ME l[i].key)/\w.cell? ⟨b,off+i*7+3,MH⟩=MI (MF ME l[i].be)/\w.cell? ⟨b,off+i*7+4,MH⟩=MI (M3 l[i].srv)/\w.cell? ⟨b,off+i*7+5,MH⟩=MI (MF ME l[i].ret)/\w.cell? ⟨b,off+i*7+6,MH⟩=MI (MF ME l[i].due):=by
 obtain⟨a,cap,q,t,r,e⟩:=Xw.F6 XL h;refine⟨a,cap,q,t,r,fun i hi=>?_⟩;obtain⟨b,off,o,m,d⟩:=e i hi;exact⟨b,off,o,m,(d 0 (by omega)).trans rfl,(d 1 (by omega)).trans rfl,(d 2 (by omega)).trans rfl,(d 3 (by omega)).trans rfl,(d 4 (by omega)).trans rfl,(d 5 (by omega)).trans rfl,(d 6 (by omega)).trans rfl⟩
theorem ahq{α:Type}{p:α->Bool}{l:List α}:Nn (0<=X6 (l.findIdx p) l.length)=l.any p:=by
 unfold X6
 by_cases h:l.findIdx p<l.length
 ·rw[Nh h]
  have:l.any p=true:=List.any_eq_true.2 ⟨l[l.findIdx p],Nk h,List.findIdx_getElem (w:=h)⟩;rw[this];simp
 ·rw[Nf h]
  have:l.any p=false:=by
   rw[List.any_eq_false];intro x a d;exact h (List.findIdx_lt_length_of_exists ⟨x,a,d⟩)
  rw[this];rfl
theorem aoB(f:Fl)(n:Int)(g:Nat)(w:MO)(hc:w.cell? ⟨g,0,MH⟩=MI (MF ME n)) :
  Ni MK 130 #[ZS f,Na (MI ⟨g,0,MH⟩)] w fun r w'=>r=MN (M3 (f.slot == n))/\MQ w.heap.size w w':=by
 have a:g<w.heap.size:=MX w ⟨g,0,MH⟩ hc;go_enter ayz,ayt;go_wp2;go_ret;exact⟨rfl,WQ w⟩
theorem apl(v:M7)(l:List Fl)(n:Int)(g:Nat)(w:MO)(hv:ZR w v l)(hc:w.cell? ⟨g,0,MH⟩=MI (MF ME n)) :
  Ni MK 123 #[v,PB (PD 130) #[] #[Na (MI ⟨g,0,MH⟩)]] w fun r w'=>r=MN (MF ME (X6 (l.findIdx (fun f=>f.slot == n)) l.length))/\MQ w.heap.size w w':=by
 obtain⟨q,E⟩:∃q:Fl->Bool,q=(fun f=>f.slot == n):=⟨_,rfl⟩;obtain⟨a,ca,rfl,a8,R,K⟩:=ZR.F6 hv;unfold NE at R;have Q:=MX w ⟨g,0,MH⟩ hc;have O:M6 (∀(x:Fl) (W:MO),MQ w.heap.size w W->Ni MK 130 #[ZS x,Na (MI ⟨g,0,MH⟩)] W fun r w'=>r=MN (M3 (q x))/\MQ W.heap.size W w'):=by
  rw[E];exact fun x W hb=>aoB x n g W ((hb.cell (p:=⟨g,0,MH⟩) Q).trans hc)
 rw[<-E];obtain⟨z,D⟩:∃z,z=X6 (l.findIdx q) l.length:=⟨_,rfl⟩;rw[<-D];have H:M6 _:=D;clear hv D E hc;go_enter Uo,Uc;go_wp2
 go_loopw [8] (fun i wr=>∃k:Nat,i=MF ME k/\k<=l.length/\(∀t∈l.take k,q t=Nb)/\MQ w.heap.size w wr) (fun i _=>l.length-(intOf i).toNat)
 case atStart=>exact⟨0,rfl,Nx _,by simp,MY _ _⟩
 case round =>
  obtain⟨k,rfl,hk,A,d⟩:=hrel
  by_cases hlt:k<l.length
  ·obtain⟨o,u,rfl,m,c1,c2,c3,c4,c5,c6,c7⟩:=K k hlt
   have Z:=(d.cell (p:=⟨o,u+k*7,MH⟩) m).trans c1;have U:=(d.cell (p:=⟨o,u+k*7+1,MH⟩) m).trans c2;have Y:=(d.cell (p:=⟨o,u+k*7+2,MH⟩) m).trans c3;have e4:=(d.cell (p:=⟨o,u+k*7+3,MH⟩) m).trans c4;have e5:=(d.cell (p:=⟨o,u+k*7+4,MH⟩) m).trans c5;have e6:=(d.cell (p:=⟨o,u+k*7+5,MH⟩) m).trans c6;have e7:=(d.cell (p:=⟨o,u+k*7+6,MH⟩) m).trans c7;have y:M6 (_/\_):=⟨A,d⟩;have a7:(k:Int)<(l.length:Int):=by omega
   have F:l.take (k+1)=l.take k++[l[k]]:=M9 hlt;have I:q l[k]=Nw->l.findIdx q=k:=fun h=>abZ hlt A h
   have C:∃x,x=l[k]:=⟨_,rfl⟩;obtain⟨x,C⟩:=C;rw[<-C]at Z U Y e4 e5 e6 e7 F I;have N:M6 (_/\_):=⟨F,I⟩;clear A d c1 c2 c3 c4 c5 c6 c7 m K F I C;cases hd:q x
   ·go_wp2_with fail
    refine(O.out x _ y.out.2).mono ?_;rw[hd];rintro r w2 ⟨rfl,B⟩;have J:M6 _:=B;clear B;go_wp2
    go_roundw
    case rel =>
     refine⟨k+1,by simp,hlt,fun t e=>?_,y.out.2.trans (J.out.mono y.out.2.size)⟩;rw[N.out.1]at e;rcases QF.1 e with e|e
     ·exact y.out.1 t e
     ·simp at e
      rw[e];exact hd
    case measure=>simp[intOf];omega
   ·go_wp2_with fail
    refine(O.out x _ y.out.2).mono ?_;rw[hd];rintro r w2 ⟨rfl,B⟩;have M:M6 (z=(k:Int)):=by show z=_;rw[H.out,N.out.2 hd];exact Nh hlt
    have J:M6 _:=B;clear B;go_wp2;go_ret;exact⟨by rw[M.out];rfl,y.out.2.trans (J.out.mono y.out.2.size)⟩
  ·have M:M6 (z = -1):=by
    show z=_;rw[H.out,acp fun t e=>A t (by rw[N1 (by omega)];exact e)];exact Nf (PC _)
   have HB:M6 _:=d;clear A d K;go_wp2;go_ret;exact⟨by rw[M.out];rfl,HB.out⟩
theorem aoF(f:Fl)(n:Int)(g:Nat)(w:MO)(hc:w.cell? ⟨g,0,MH⟩=MI (MF ME n)) :
  Ni MK 124 #[ZS f,Na (MI ⟨g,0,MH⟩)] w fun r w'=>r=MN (M3 (Nn (n<f.slot)))/\MQ w.heap.size w w':=by
 have a:g<w.heap.size:=MX w ⟨g,0,MH⟩ hc;go_enter VV,VL;go_wp2;go_ret;exact⟨rfl,WQ w⟩
theorem apo(v:M7)(l:List Fl)(n:Int)(g:Nat)(w:MO)(hv:ZR w v l)(hc:w.cell? ⟨g,0,MH⟩=MI (MF ME n)) :
  Ni MK 123 #[v,PB (PD 124) #[] #[Na (MI ⟨g,0,MH⟩)]] w fun r w'=>r=MN (MF ME (X6 (l.findIdx (fun f=>Nn (n<f.slot))) l.length))/\MQ w.heap.size w w':=by
 obtain⟨q,E⟩:∃q:Fl->Bool,q=(fun f=>Nn (n<f.slot)):=⟨_,rfl⟩;obtain⟨a,ca,rfl,a8,R,K⟩:=ZR.F6 hv;unfold NE at R;have Q:=MX w ⟨g,0,MH⟩ hc;have O:M6 (∀(x:Fl) (W:MO),MQ w.heap.size w W->Ni MK 124 #[ZS x,Na (MI ⟨g,0,MH⟩)] W fun r w'=>r=MN (M3 (q x))/\MQ W.heap.size W w'):=by
  rw[E];exact fun x W hb=>aoF x n g W ((hb.cell (p:=⟨g,0,MH⟩) Q).trans hc)
 rw[<-E];obtain⟨z,D⟩:∃z,z=X6 (l.findIdx q) l.length:=⟨_,rfl⟩;rw[<-D];have H:M6 _:=D;clear hv D E hc;go_enter Uo,Uc;go_wp2
 go_loopw [8] (fun i wr=>∃k:Nat,i=MF ME k/\k<=l.length/\(∀t∈l.take k,q t=Nb)/\MQ w.heap.size w wr) (fun i _=>l.length-(intOf i).toNat)
 case atStart=>exact⟨0,rfl,Nx _,by simp,MY _ _⟩
 case round =>
  obtain⟨k,rfl,hk,A,d⟩:=hrel
  by_cases hlt:k<l.length
  ·obtain⟨o,u,rfl,m,c1,c2,c3,c4,c5,c6,c7⟩:=K k hlt
   have Z:=(d.cell (p:=⟨o,u+k*7,MH⟩) m).trans c1;have U:=(d.cell (p:=⟨o,u+k*7+1,MH⟩) m).trans c2;have Y:=(d.cell (p:=⟨o,u+k*7+2,MH⟩) m).trans c3;have e4:=(d.cell (p:=⟨o,u+k*7+3,MH⟩) m).trans c4;have e5:=(d.cell (p:=⟨o,u+k*7+4,MH⟩) m).trans c5;have e6:=(d.cell (p:=⟨o,u+k*7+5,MH⟩) m).trans c6;have e7:=(d.cell (p:=⟨o,u+k*7+6,MH⟩) m).trans c7;have y:M6 (_/\_):=⟨A,d⟩;have a7:(k:Int)<(l.length:Int):=by omega
   have F:l.take (k+1)=l.take k++[l[k]]:=M9 hlt;have I:q l[k]=Nw->l.findIdx q=k:=fun h=>abZ hlt A h
   have C:∃x,x=l[k]:=⟨_,rfl⟩;obtain⟨x,C⟩:=C;rw[<-C]at Z U Y e4 e5 e6 e7 F I;have N:M6 (_/\_):=⟨F,I⟩;clear A d c1 c2 c3 c4 c5 c6 c7 m K F I C;cases hd:q x
   ·go_wp2_with fail
    refine(O.out x _ y.out.2).mono ?_;rw[hd];rintro r w2 ⟨rfl,B⟩;have J:M6 _:=B;clear B;go_wp2
    go_roundw
    case rel =>
     refine⟨k+1,by simp,hlt,fun t e=>?_,y.out.2.trans (J.out.mono y.out.2.size)⟩;rw[N.out.1]at e;rcases QF.1 e with e|e
     ·exact y.out.1 t e
     ·simp at e
      rw[e];exact hd
    case measure=>simp[intOf];omega
   ·go_wp2_with fail
    refine(O.out x _ y.out.2).mono ?_;rw[hd];rintro r w2 ⟨rfl,B⟩;have M:M6 (z=(k:Int)):=by show z=_;rw[H.out,N.out.2 hd];exact Nh hlt
    have J:M6 _:=B;clear B;go_wp2;go_ret;exact⟨by rw[M.out];rfl,y.out.2.trans (J.out.mono y.out.2.size)⟩
  ·have M:M6 (z = -1):=by
    show z=_;rw[H.out,acp fun t e=>A t (by rw[N1 (by omega)];exact e)];exact Nf (PC _)
   have HB:M6 _:=d;clear A d K;go_wp2;go_ret;exact⟨by rw[M.out];rfl,HB.out⟩
theorem aoA(f:Fl)(n:Int)(g:Nat)(w:MO)(hc:w.cell? ⟨g,0,MH⟩=MI (MF ME n)) :
  Ni MK 155 #[ZS f,Na (MI ⟨g,0,MH⟩)] w fun r w'=>r=MN (M3 (f.be == n))/\MQ w.heap.size w w':=by
 have a:g<w.heap.size:=MX w ⟨g,0,MH⟩ hc;go_enter ayv,ayr;go_wp2;go_ret;exact⟨rfl,WQ w⟩
theorem apk(v:M7)(l:List Fl)(n:Int)(g:Nat)(w:MO)(hv:ZR w v l)(hc:w.cell? ⟨g,0,MH⟩=MI (MF ME n)) :
  Ni MK 123 #[v,PB (PD 155) #[] #[Na (MI ⟨g,0,MH⟩)]] w fun r w'=>r=MN (MF ME (X6 (l.findIdx (fun f=>f.be == n)) l.length))/\MQ w.heap.size w w':=by
 obtain⟨q,E⟩:∃q:Fl->Bool,q=(fun f=>f.be == n):=⟨_,rfl⟩;obtain⟨a,ca,rfl,a8,R,K⟩:=ZR.F6 hv;unfold NE at R;have Q:=MX w ⟨g,0,MH⟩ hc;have O:M6 (∀(x:Fl) (W:MO),MQ w.heap.size w W->Ni MK 155 #[ZS x,Na (MI ⟨g,0,MH⟩)] W fun r w'=>r=MN (M3 (q x))/\MQ W.heap.size W w'):=by
  rw[E];exact fun x W hb=>aoA x n g W ((hb.cell (p:=⟨g,0,MH⟩) Q).trans hc)
 rw[<-E];obtain⟨z,D⟩:∃z,z=X6 (l.findIdx q) l.length:=⟨_,rfl⟩;rw[<-D];have H:M6 _:=D;clear hv D E hc;go_enter Uo,Uc;go_wp2
 go_loopw [8] (fun i wr=>∃k:Nat,i=MF ME k/\k<=l.length/\(∀t∈l.take k,q t=Nb)/\MQ w.heap.size w wr) (fun i _=>l.length-(intOf i).toNat)
 case atStart=>exact⟨0,rfl,Nx _,by simp,MY _ _⟩
 case round =>
  obtain⟨k,rfl,hk,A,d⟩:=hrel
  by_cases hlt:k<l.length
  ·obtain⟨o,u,rfl,m,c1,c2,c3,c4,c5,c6,c7⟩:=K k hlt
   have Z:=(d.cell (p:=⟨o,u+k*7,MH⟩) m).trans c1;have U:=(d.cell (p:=⟨o,u+k*7+1,MH⟩) m).trans c2;have Y:=(d.cell (p:=⟨o,u+k*7+2,MH⟩) m).trans c3;have e4:=(d.cell (p:=⟨o,u+k*7+3,MH⟩) m).trans c4;have e5:=(d.cell (p:=⟨o,u+k*7+4,MH⟩) m).trans c5;have e6:=(d.cell (p:=⟨o,u+k*7+5,MH⟩) m).trans c6;have e7:=(d.cell (p:=⟨o,u+k*7+6,MH⟩) m).trans c7;have y:M6 (_/\_):=⟨A,d⟩;have a7:(k:Int)<(l.length:Int):=by omega
   have F:l.take (k+1)=l.take k++[l[k]]:=M9 hlt;have I:q l[k]=Nw->l.findIdx q=k:=fun h=>abZ hlt A h
   have C:∃x,x=l[k]:=⟨_,rfl⟩;obtain⟨x,C⟩:=C;rw[<-C]at Z U Y e4 e5 e6 e7 F I;have N:M6 (_/\_):=⟨F,I⟩;clear A d c1 c2 c3 c4 c5 c6 c7 m K F I C;cases hd:q x
   ·go_wp2_with fail
    refine(O.out x _ y.out.2).mono ?_;rw[hd];rintro r w2 ⟨rfl,B⟩;have J:M6 _:=B;clear B;go_wp2
    go_roundw
    case rel =>
     refine⟨k+1,by simp,hlt,fun t e=>?_,y.out.2.trans (J.out.mono y.out.2.size)⟩;rw[N.out.1]at e;rcases QF.1 e with e|e
     ·exact y.out.1 t e
     ·simp at e
      rw[e];exact hd
    case measure=>simp[intOf];omega
   ·go_wp2_with fail
    refine(O.out x _ y.out.2).mono ?_;rw[hd];rintro r w2 ⟨rfl,B⟩;have M:M6 (z=(k:Int)):=by show z=_;rw[H.out,N.out.2 hd];exact Nh hlt
    have J:M6 _:=B;clear B;go_wp2;go_ret;exact⟨by rw[M.out];rfl,y.out.2.trans (J.out.mono y.out.2.size)⟩
  ·have M:M6 (z = -1):=by
    show z=_;rw[H.out,acp fun t e=>A t (by rw[N1 (by omega)];exact e)];exact Nf (PC _)
   have HB:M6 _:=d;clear A d K;go_wp2;go_ret;exact⟨by rw[M.out];rfl,HB.out⟩
theorem aj8(v:M7)(l:List Fl)(n:Int)(g:Nat)(w:MO)(hv:ZR w v l)(hc:w.cell? ⟨g,0,MH⟩=MI (MF ME n)) :
  Ni MK 117 #[v,PB (PD 155) #[] #[Na (MI ⟨g,0,MH⟩)]] w fun r w'=>r=MN (M3 (l.any (fun f=>f.be == n)))/\MQ w.heap.size w w':=by
 rw[<-ahq];have i:M6 _:=apk v l n g w hv hc;obtain⟨e,a⟩:∃e,e=X6 (l.findIdx (fun f=>f.be == n)) l.length:=⟨_,rfl⟩;rw[<-a]at i⊢;clear a hv;go_enter Tryz.func117,Tryz.ntmps117
 go_wp2_with fail
 refine Nd i.out ?_;rintro r w1 ⟨rfl,d⟩;have m:M6 _:=d;clear d;go_wp2;go_ret;exact⟨rfl,m.out⟩
theorem aoE(x1 x2 x3 x4 x5 x6:Int)(n:Int)(g:Nat)(w:MO)(hc:w.cell? ⟨g,0,MH⟩=MI (MF ME n)) :
  Ni MK 142 #[ZG x1 x2 x3 x4 x5 x6,Na (MI ⟨g,0,MH⟩)] w fun r w'=>r=MN (M3 (x1 == n))/\MQ w.heap.size w w':=by
 have a:g<w.heap.size:=MX w ⟨g,0,MH⟩ hc;go_enter ayP,ayF;go_wp2;go_ret;exact⟨rfl,WQ w⟩
theorem akz(v:M7)(l:List awV)(n:Int)(g:Nat)(w:MO)(hv:adt w v l)(hc:w.cell? ⟨g,0,MH⟩=MI (MF ME n)) :
  Ni MK 141 #[v,PB (PD 142) #[] #[Na (MI ⟨g,0,MH⟩)]] w fun r w'=>r=MN (MF ME (X6 (l.findIdx (fun x=>x.1 == n)) l.length))/\MQ w.heap.size w w':=by
 obtain⟨q,N⟩:∃q:awV->Bool,q=(fun x=>x.1 == n):=⟨_,rfl⟩;obtain⟨a,ca,rfl,b0,a8,U⟩:=adt.F6 hv;unfold NE at a8;have a7:=MX w ⟨g,0,MH⟩ hc;have HQ:M6 (∀(u m y A o z:Int) (W:MO),MQ w.heap.size w W->Ni MK 142 #[ZG u m y A o z,Na (MI ⟨g,0,MH⟩)] W fun r w'=>r=MN (M3 (q (u,m,y,A,o,z)))/\MQ W.heap.size W w'):=by
  rw[N];exact fun u m y A o z W hb=>aoE u m y A o z n g W ((hb.cell (p:=⟨g,0,MH⟩) a7).trans hc)
 rw[<-N];obtain⟨D,M⟩:∃D,D=X6 (l.findIdx q) l.length:=⟨_,rfl⟩;rw[<-M];have H:M6 _:=M;clear hv M N hc;go_enter ayQ,ayG;go_wp2
 go_loopw [8] (fun i wr=>∃k:Nat,i=MF ME k/\k<=l.length/\(∀t∈l.take k,q t=Nb)/\MQ w.heap.size w wr) (fun i _=>l.length-(intOf i).toNat)
 case atStart=>exact⟨0,rfl,Nx _,by simp,MY _ _⟩
 case round =>
  obtain⟨k,rfl,hk,I,d⟩:=hrel
  by_cases hlt:k<l.length
  ·obtain⟨E,F,rfl,B,c1,c2,c3,c4,c5,c6⟩:=U k hlt
   have e1:=(d.cell (p:=⟨E,F+k*6,MH⟩) B).trans c1;have e2:=(d.cell (p:=⟨E,F+k*6+1,MH⟩) B).trans c2;have e3:=(d.cell (p:=⟨E,F+k*6+2,MH⟩) B).trans c3;have e4:=(d.cell (p:=⟨E,F+k*6+3,MH⟩) B).trans c4;have e5:=(d.cell (p:=⟨E,F+k*6+4,MH⟩) B).trans c5;have e6:=(d.cell (p:=⟨E,F+k*6+5,MH⟩) B).trans c6;have C:M6 (_/\_):=⟨I,d⟩;have a9:(k:Int)<(l.length:Int):=by omega
   have O:l.take (k+1)=l.take k++[l[k]]:=M9 hlt;have Q:q l[k]=Nw->l.findIdx q=k:=fun h=>abZ hlt I h
   have K:∃x,x=l[k]:=⟨_,rfl⟩;obtain⟨⟨u,m,y,A,o,z⟩,K⟩:=K;rw[<-K]at e1 e2 e3 e4 e5 e6 O Q;have Z:M6 (_/\_):=⟨O,Q⟩;clear I d c1 c2 c3 c4 c5 c6 B U O Q K;cases hd:q (u,m,y,A,o,z)
   ·go_wp2_with fail
    refine(HQ.out u m y A o z _ C.out.2).mono ?_;rw[hd];rintro r w2 ⟨rfl,J⟩;have R:M6 _:=J;clear J;go_wp2
    go_roundw
    case rel =>
     refine⟨k+1,by simp,hlt,fun t e=>?_,C.out.2.trans (R.out.mono C.out.2.size)⟩;rw[Z.out.1]at e;rcases QF.1 e with e|e
     ·exact C.out.1 t e
     ·simp at e
      rw[e];exact hd
    case measure=>simp[intOf];omega
   ·go_wp2_with fail
    refine(HQ.out u m y A o z _ C.out.2).mono ?_;rw[hd];rintro r w2 ⟨rfl,J⟩;have Y:M6 (D=(k:Int)):=by show D=_;rw[H.out,Z.out.2 hd];exact Nh hlt
    have R:M6 _:=J;clear J;go_wp2;go_ret;exact⟨by rw[Y.out];rfl,C.out.2.trans (R.out.mono C.out.2.size)⟩
  ·have Y:M6 (D = -1):=by
    show D=_;rw[H.out,acp fun t e=>I t (by rw[N1 (by omega)];exact e)];exact Nf (PC _)
   have HB:M6 _:=d;clear I d U;go_wp2;go_ret;exact⟨by rw[Y.out];rfl,HB.out⟩
theorem aoC(x1:Int)(x2:Bool)(x3 x4:Int)(w:MO) :
  Ni MK 81 #[Ny #[MF ME x1,M3 x2,MF ME x3,MF ME x4]] w fun r w'=>r=MN (M3 (Y1 (x1,x2,x3,x4)))/\MQ w.heap.size w w':=by
 cases x2
 ·go_enter Tryz.func81,Tryz.ntmps81
  go_wp2;go_ret;exact⟨rfl,WQ w⟩
 ·go_enter Tryz.func81,Tryz.ntmps81
  go_wp2;go_ret;exact⟨rfl,WQ w⟩
theorem apm(v:M7)(l:List awY)(w:MO)(hv:Yy w v l) :
  Ni MK 118 #[v,PB (PD 81) #[] #[]] w fun r w'=>r=MN (MF ME (X6 (l.findIdx (Y1)) l.length))/\MQ w.heap.size w w':=by
 obtain⟨q,K⟩:∃q:awY->Bool,q=(Y1):=⟨_,rfl⟩;obtain⟨a,ca,rfl,a8,Z,Q⟩:=Yy.F6 hv;unfold NE at Z;have Y:M6 (∀(o:Int) (m:Bool) (u y:Int) (W:MO),MQ w.heap.size w W->Ni MK 81 #[Ny #[MF ME o,M3 m,MF ME u,MF ME y]] W fun r w'=>r=MN (M3 (q (o,m,u,y)))/\MQ W.heap.size W w'):=by
  rw[K];exact fun o m u y W hb=>aoC o m u y W
 rw[<-K];obtain⟨A,J⟩:∃A,A=X6 (l.findIdx q) l.length:=⟨_,rfl⟩;rw[<-J];have H:M6 _:=J;clear hv J K;go_enter Tryz.func118,Tryz.ntmps118;go_wp2
 go_loopw [8] (fun i wr=>∃k:Nat,i=MF ME k/\k<=l.length/\(∀t∈l.take k,q t=Nb)/\MQ w.heap.size w wr) (fun i _=>l.length-(intOf i).toNat)
 case atStart=>exact⟨0,rfl,Nx _,by simp,MY _ _⟩
 case round =>
  obtain⟨k,rfl,hk,B,e⟩:=hrel
  by_cases hlt:k<l.length
  ·obtain⟨F,I,rfl,C,c1,c2,c3,c4⟩:=Q k hlt
   have e1:=(e.cell (p:=⟨F,I+k*4,MH⟩) C).trans c1;have e2:=(e.cell (p:=⟨F,I+k*4+1,MH⟩) C).trans c2;have e3:=(e.cell (p:=⟨F,I+k*4+2,MH⟩) C).trans c3;have e4:=(e.cell (p:=⟨F,I+k*4+3,MH⟩) C).trans c4;have z:M6 (_/\_):=⟨B,e⟩;have a7:(k:Int)<(l.length:Int):=by omega
   have M:l.take (k+1)=l.take k++[l[k]]:=M9 hlt;have N:q l[k]=Nw->l.findIdx q=k:=fun h=>abZ hlt B h
   have E:∃x,x=l[k]:=⟨_,rfl⟩;obtain⟨⟨o,m,u,y⟩,E⟩:=E;rw[<-E]at e1 e2 e3 e4 M N;have U:M6 (_/\_):=⟨M,N⟩;clear B e c1 c2 c3 c4 C Q M N E;cases hd:q (o,m,u,y)
   ·go_wp2_with fail
    refine(Y.out o m u y _ z.out.2).mono ?_;rw[hd];rintro r w2 ⟨rfl,D⟩;have O:M6 _:=D;clear D;go_wp2
    go_roundw
    case rel =>
     refine⟨k+1,by simp,hlt,fun t d=>?_,z.out.2.trans (O.out.mono z.out.2.size)⟩;rw[U.out.1]at d;rcases QF.1 d with d|d
     ·exact z.out.1 t d
     ·simp at d
      rw[d];exact hd
    case measure=>simp[intOf];omega
   ·go_wp2_with fail
    refine(Y.out o m u y _ z.out.2).mono ?_;rw[hd];rintro r w2 ⟨rfl,D⟩;have R:M6 (A=(k:Int)):=by show A=_;rw[H.out,U.out.2 hd];exact Nh hlt
    have O:M6 _:=D;clear D;go_wp2;go_ret;exact⟨by rw[R.out];rfl,z.out.2.trans (O.out.mono z.out.2.size)⟩
  ·have R:M6 (A = -1):=by
    show A=_;rw[H.out,acp fun t d=>B t (by rw[N1 (by omega)];exact d)];exact Nf (PC _)
   have HB:M6 _:=e;clear B e Q;go_wp2;go_ret;exact⟨by rw[R.out];rfl,HB.out⟩
theorem aoR(v:M7)(l:List awY)(w:MO)(hv:Yy w v l) :
  Ni MK 80 #[v,PB (PD 81) #[] #[]] w fun r w'=>r=MN (M3 (l.any (Y1)))/\MQ w.heap.size w w':=by
 rw[<-ahq];have i:M6 _:=apm v l w hv;obtain⟨e,a⟩:∃e,e=X6 (l.findIdx (Y1)) l.length:=⟨_,rfl⟩;rw[<-a]at i⊢;clear a hv;go_enter Tryz.func80,Tryz.ntmps80
 go_wp2_with fail
 refine Nd i.out ?_;rintro r w1 ⟨rfl,d⟩;have m:M6 _:=d;clear d;go_wp2;go_ret;exact⟨rfl,m.out⟩
abbrev aqe(o:Ou):Value:=Ny #[MF ME o.kind,MF ME o.slot,MF ME o.gen,MF ME o.be,MF ME o.req,MF ME o.code,MF ME o.why]
abbrev ahA(o:Ou):Obj:=MP #[MF ME o.kind,MF ME o.slot,MF ME o.gen,MF ME o.be,MF ME o.req,MF ME o.code,MF ME o.why] 83
abbrev gP(g:Nat):Value:=Na (MI ⟨g,0,MH⟩)
theorem apw:(MK.info? 83).map (fun i=>(i.zero,i.size,i.bytes))=MI (MI (Ny #[MF ME 0,MF ME 0,MF ME 0,MF ME 0,MF ME 0,MF ME 0,MF ME 0]),7,56):=by kernel_rfl
theorem OR.GY{base:Nat}{w:MO}{g:Nat}{V:Vs}{G:Gt}(h:OR base w g V G):OR base w.drew g V G:=⟨h.box,h.rest.step (MV _) fun _ _ _=>rfl⟩
theorem OR.base{base:Nat}{w:MO}{g:Nat}{V:Vs}{G:Gt}(h:OR base w g V G):base<=w.heap.size:=PJ (Pb h.rest.low h.rest.lt)
structure WV(V V':Vs)(g:Nat)(w w':MO):Prop where
 os:w'.os=w.os
 tape:w'.tape=w.tape
 output:w'.output=w.output
 size:w.heap.size<=w'.heap.size
 block:∀b,b<w.heap.size->¬V.own g b->w'.heap[b]?=w.heap[b]?
 ext:∀b,V'.own g b->V.own g b\/w.heap.size<=b
section
variable {base:Nat}{V V1 V2:Vs}{g:Nat}{w w1 w2:MO}{G:Gt}
theorem WV.Gy(V:Vs)(g:Nat)(w:MO):WV V V g w w:=⟨rfl,rfl,rfl,MV _,fun _ _ _=>rfl,fun _ h=>Nt h⟩
theorem WV.F5(h:MQ w.heap.size w w1):WV V V g w w1:=⟨h.os,h.tape,h.output,h.size,fun b hb _=>h.block b hb,fun _ h=>Nt h⟩
theorem WV.F0(h:WV V V1 g w w1)(k:WV V1 V2 g w1 w2):WV V V2 g w w2 :=
 ⟨k.os.trans h.os,k.tape.trans h.tape,k.output.trans h.output,Nm h.size k.size,fun b hb hn=>(k.block b (M8 hb h.size) fun e=>by
   rcases h.ext b e with e|e
   ·exact hn e
   ·omega).trans (h.block b hb hn),fun b e=>by
  rcases k.ext b e with e|e
  ·exact h.ext b e
  ·have:=h.size;exact NF (by omega)⟩
theorem WV.below(h:WV V V1 g w w1)(hb:MQ w1.heap.size w1 w2):WV V V1 g w w2:=h.F0 (WV.F5 hb)
theorem WV.F4(h:WV V V1 g w w1)(k:Nat)(v:M7):WV V V1 g w (w1.setCell ⟨g,k,MH⟩ v):=
 ⟨h.os,h.tape,h.output,by simpa using h.size,fun b hb hn=>(MU w1 ⟨g,k,MH⟩ v b fun e=>hn (Nt e)).trans (h.block b hb hn),h.ext⟩
theorem WV.Gp(h:WV V V1 g w w1)(e:∀b,V2.own g b->V1.own g b):WV V V2 g w w1:=⟨h.os,h.tape,h.output,h.size,h.block,fun b hb=>h.ext b (e b hb)⟩
theorem WV.IT(h:WV V V1 g w w1)(hG:OR base w g V G):MQ base w w1 :=
 ⟨h.os,h.tape,h.output,h.size,fun b hb=>h.block b (M8 hb hG.base) fun e=>by have:=(hG.rest.Ha e).1;omega⟩
theorem WV.Gf(h:WV V V1 g w w1){o:Obj}(hb:w.heap[b]?=MI o)(hn:¬V.own g b):w1.heap[b]?=MI o:=(h.block b (ZAa.1 hb).1 hn).trans hb
theorem WV.Ik(h:WV V V1 g w w1)(hb:b<w.heap.size)(hn:¬V.own g b):¬V1.own g b:=fun e=>by
 rcases h.ext b e with e|e
 ·exact hn e
 ·omega
end
def aaa(base:Nat)(w:MO)(g:Nat)(V:Vs)(G':Gt)(r:Ending)(w':MO):Prop :=
 r=MN (Nv #[])/\∃V',OR base w' g V' G'/\(V'.pf=V.pf/\V'.cf=V.cf/\V'.bh=V.bh)/\WV V V' g w w'
def aam(base:Nat)(w:MO)(g:Nat)(V:Vs)(G':Gt)(r:Ending)(w':MO):Prop :=
 r=MN (Nv #[])/\∃V',OR base w' g V' G'/\V'.bh=V.bh/\WV V V' g w w'
theorem aqU{base:Nat}{g:Nat}{V:Vs}{G:Gt}(h:OR base W g V G)(hl:G.out.length<=1000000)(o:Ou):
  ∃q c' w5,(N2 #[61,61] 61 #[MG V.po G.out.length V.co,MG (MI ⟨W.heap.size,0,MH⟩) 1 1]).run MK ((W.alloc (ahA o)).drew)=.ok (MG (MI ⟨q,0,MH⟩) (G.out.length+1) c') w5 /\
   (w5.cell? ⟨g,26,MH⟩=MI (MG V.po G.out.length V.co)/\w5.frozen? ⟨g,26,MH⟩=Nb) /\
   OR base (w5.setCell ⟨g,26,MH⟩ (MG (MI ⟨q,0,MH⟩) (G.out.length+1) c')) g {V with po:=MI ⟨q,0,MH⟩,co:=c'} (ZM G o) /\
   WV V {V with po:=MI ⟨q,0,MH⟩,co:=c'} g W (w5.setCell ⟨g,26,MH⟩ (MG (MI ⟨q,0,MH⟩) (G.out.length+1) c')):=by
 have x:=h.rest;obtain⟨q,c',w5,A,z,a,v⟩:=afC akV aqd (by decide) Tryz.underlying61 apw rfl (w:=W.drew) (base:=base) h.GY.rest.out h.base 61 o #[MF ME o.kind,MF ME o.slot,MF ME o.gen,MF ME o.be,MF ME o.req,MF ME o.code,MF ME o.why] rfl (by omega) (by unfold NE;omega);have d:∀b,b<W.heap.size->V.po.map (·.block)≠MI b->w5.heap[b]?=W.heap[b]?:=fun b hb hne=>a.block b hb (fun e=>hne (by rw[e,XV]))
 have r:=(d g h.lt x.og).trans h.box;have t:∀b,(MI (⟨q,0,MH⟩:Oc)).map (·.block)=MI b->V.po.map (·.block)=MI b\/W.heap.size<=b:=fun b e=>by
  cases e;rcases v with e|e
  ·exact Nt (by rw[<-XV _ G.out.length V.co];exact e)
  ·exact NF (PJ e)
 have i:(G.out++[o]).length=G.out.length+1:=by simp
 have u:=h.Jw (w':=w5) (p:=MI ⟨q,0,MH⟩) (c:=c') (m:=G.out++[o]) a.size d (by rw[i];exact z) t;rw[i]at u;refine⟨q,c',w5,A,⟨by rw[MW w5 g 26 _ _ (0,0) r];rfl,by simp[Ng,r]⟩,u,?_⟩;have y:WV V {V with po:=MI ⟨q,0,MH⟩,co:=c'} g W w5:=by
  refine⟨a.os,a.tape,a.output,a.size,fun b hb hn=>d b hb fun e=>hn (NF (NF (NF e))),fun b e=>?_⟩;rcases e with e|e|e|e
  ·exact Nt (Nt e)
  ·exact Nt (NF (Nt e))
  ·exact Nt (NF (NF (Nt e)))
  ·exact(t b e).imp (fun e=>NF (NF (NF e))) id
 exact y.F4 26 _
theorem aeR{base:Nat}{w:MO}{g:Nat}{V:Vs}{G:Gt}(h:OR base w g V G)(hl:G.out.length<=1000000)(o:Ou) :
  Ni MK 95 #[gP g,aqe o] w (aaa base w g V (ZM G o)):=by
 obtain⟨W,d⟩:∃W,W=w.alloc (ahA o):=⟨_,rfl⟩;have m:MQ w.heap.size w W:=by rw[d];exact WQ w
 have a:W.heap[w.heap.size]?=MI (ahA o):=by rw[d];exact M1 _ _
 have e:=h.below m;have v:=h.lt;have y:g≠w.heap.size:=by omega
 have I:W.cell? ⟨w.heap.size,0,MH⟩=MI (MF ME o.kind):=by rw[MW W _ 0 _ _ (0,0) a];rfl
 have H:W.cell? ⟨w.heap.size,1,MH⟩=MI (MF ME o.slot):=by rw[MW W _ 1 _ _ (0,0) a];rfl
 have M:W.cell? ⟨w.heap.size,2,MH⟩=MI (MF ME o.gen):=by rw[MW W _ 2 _ _ (0,0) a];rfl
 have J:W.cell? ⟨w.heap.size,3,MH⟩=MI (MF ME o.be):=by rw[MW W _ 3 _ _ (0,0) a];rfl
 have K:W.cell? ⟨w.heap.size,4,MH⟩=MI (MF ME o.req):=by rw[MW W _ 4 _ _ (0,0) a];rfl
 have C:W.cell? ⟨w.heap.size,5,MH⟩=MI (MF ME o.code):=by rw[MW W _ 5 _ _ (0,0) a];rfl
 have E:W.cell? ⟨w.heap.size,6,MH⟩=MI (MF ME o.why):=by rw[MW W _ 6 _ _ (0,0) a];rfl
 have x:=e.Ip;have B:=e.lt;obtain⟨q,F,D,u,⟨A,z⟩,t,r⟩:=aqU e hl o;have i:M6 (_/\_/\_):=⟨u,t,(WV.F5 m).F0 r⟩;clear u t r e h m a;go_enter Tryz.func95,Tryz.ntmps95;go_wp2;rw[<-d];clear d
 go_region_law (first|(refine aec (by rfl) _ _ 61 (by rfl) _ _ _ _ (by rfl) (by rfl) i.out.1 ?_))
 all_goals
  go_wp2
  go_end0
  exact⟨rfl,_,i.out.2.1,⟨rfl,rfl,rfl⟩,i.out.2.2⟩
theorem af1{base:Nat}{w:MO}{g:Nat}{V:Vs}{G:Gt}(h:OR base w g V G)(hl:G.out.length<=1000000)(k c:Int) :
  Ni MK 82 #[gP g,MF ME k,MF ME c] w (aaa base w g V (acm G k c)):=by
 have H:M6 _:=aeR h hl ⟨k,0,0,0,0,c,0⟩;clear h hl;go_enter Tryz.func82,Tryz.ntmps82
 go_wp2_with fail
 refine Nd H.out ?_;rintro r w1 ⟨rfl,d,a⟩;have e:M6 _:=a;clear a;go_wp2
 go_end0
 exact⟨rfl,d,e.out⟩
theorem alj{base:Nat}{w:MO}{g:Nat}{V:Vs}{G:Gt}(h:OR base w g V G)(hl:G.out.length<=1000000)(b q:Int) :
  Ni MK 97 #[gP g,MF ME b,MF ME q] w (aaa base w g V (aeQ G b q)):=by
 have H:M6 _:=aeR h hl ⟨9,0,0,b,q,0,0⟩;clear h hl;go_enter Tryz.func97,Tryz.ntmps97
 go_wp2_with fail
 refine Nd H.out ?_;rintro r w1 ⟨rfl,d,a⟩;have e:M6 _:=a;clear a;go_wp2
 go_end0
 exact⟨rfl,d,e.out⟩
theorem aeP{base:Nat}{w:MO}{g:Nat}{V:Vs}{G:Gt}(h:OR base w g V G)(hl:G.out.length<=1000000)(k:Int)(f:Fl) :
  Ni MK 87 #[gP g,MF ME k,ZS f] w (aaa base w g V (abi G k f)):=by
 obtain⟨W,e⟩:∃W,W=w.alloc (MP #[MF ME f.slot,MF ME f.gen,MF ME f.key,MF ME f.be,M3 f.srv,MF ME f.ret,MF ME f.due] 72):=⟨_,rfl⟩;have a:MQ w.heap.size w W:=by rw[e];exact WQ w
 have H:M6 (_/\_):=⟨aeR (h.below a) hl ⟨k,f.slot,f.gen,f.be,0,0,0⟩,WV.F5 (V:=V) (g:=g) a⟩;clear h hl a;go_enter Tryz.func87,Tryz.ntmps87
 go_wp2_with fail
 rw[<-e];refine Nd H.out.1 ?_;rintro r w1 ⟨rfl,m,i⟩;have d:M6 _:=i;clear i;go_wp2
 go_end0
 exact⟨rfl,m,d.out.1,d.out.2.1,H.out.2.F0 d.out.2.2⟩
section
variable {base:Nat}{w:MO}{g:Nat}{V:Vs}{G:Gt}
theorem OR.GK(h:OR base w g V G):ZR w (MG V.pf G.fls.length V.cf) G.fls:=abw h.rest.fls
theorem OR.bf(h:OR base w g V G)(h0:0<G.fls.length):∃bf,V.pf=MI ⟨bf,0,MH⟩/\base<=bf/\bf<w.heap.size:=by
 obtain⟨d,e,a,i,m⟩:=h.rest.fls.form h0;have a:MG V.pf G.fls.length V.cf=MG (MI ⟨d,0,MH⟩) G.fls.length e:=a;injection a with e1 _ _;exact⟨d,e1,h.rest.fls.lt d (by rw[XV,e1];rfl)⟩
theorem OR.Gl(h:OR base w g V G){bf:Nat}(hp:V.pf=MI ⟨bf,0,MH⟩){i:Nat}(hi:i<G.fls.length) :
  w.cell? ⟨bf,i*7,MH⟩=MI (MF ME G.fls[i].slot)/\w.cell? ⟨bf,i*7+1,MH⟩=MI (MF ME G.fls[i].gen)/\w.cell? ⟨bf,i*7+2,MH⟩=MI (MF ME G.fls[i].key)/\w.cell? ⟨bf,i*7+3,MH⟩=MI (MF ME G.fls[i].be)/\w.cell? ⟨bf,i*7+4,MH⟩=MI (M3 G.fls[i].srv)/\w.cell? ⟨bf,i*7+5,MH⟩=MI (MF ME G.fls[i].ret)/\w.cell? ⟨bf,i*7+6,MH⟩=MI (MF ME G.fls[i].due):=by
 have a:=h.rest.fls;rw[hp]at a;exact⟨(abU XL a rfl hi (j:=0) (by omega)).trans rfl,(abU XL a rfl hi (j:=1) (by omega)).trans rfl,(abU XL a rfl hi (j:=2) (by omega)).trans rfl,(abU XL a rfl hi (j:=3) (by omega)).trans rfl,(abU XL a rfl hi (j:=4) (by omega)).trans rfl,(abU XL a rfl hi (j:=5) (by omega)).trans rfl,(abU XL a rfl hi (j:=6) (by omega)).trans rfl⟩
theorem OR.Hv(h:OR base w g V G){bf:Nat}(hp:V.pf=MI ⟨bf,0,MH⟩)(j:Nat):w.frozen? ⟨bf,j,MH⟩=false:=by
 have a:=h.rest.fls;rw[hp]at a;exact a.frozenAt j
abbrev fP(bf i:Nat):Value:=Na (MI ⟨bf,i*7,MH⟩)
theorem OR.Jk(h:OR base w g V G):G.fls.length<=V.cf/\V.cf<=9223372036854775807:=by
 obtain⟨a,cap,d,i,e,_⟩:=h.GK.F6;injection d with e1 e2 e3;unfold NE at e;omega
theorem ahm(h:OR base w g V G){i:Nat}(hi:i<G.fls.length)(hs:aaF G.fls s=i){bf:Nat}(hp:V.pf=MI ⟨bf,0,MH⟩)(hl:G.fls.length<=40):
  Ni MK 89 #[gP g,MF ME s] w fun r w'=>r=MN (fP bf i)/\MQ w.heap.size w w':=by
 obtain⟨W,d⟩:∃W,W=w.alloc (MP #[MF ME s] 3):=⟨_,rfl⟩;have e:MQ w.heap.size w W:=by rw[d];exact WQ w
 have o:=h.below e;have u:W.cell? ⟨w.heap.size,0,MH⟩=MI (MF ME s):=by rw[d];exact Xu (M1 _ _)
 have q:X6 (G.fls.findIdx (fun f=>f.slot == s)) G.fls.length=(i:Int):=by
  have:G.fls.findIdx (fun f=>f.slot == s)=i:=hs;rw[this];exact Nh hi
 have m:M6 _:=apl (MG V.pf G.fls.length V.cf) G.fls s w.heap.size W o.GK u;rw[q]at m;have t:=h.Gr;have A:=h.lt;rw[hp]at t m;have H:M6 (_/\_):=⟨e,o⟩;have z:(i:Int)<(G.fls.length:Int):=by omega
 have y:=h.Jk;clear o h hs q u e;go_enter Tryz.func89,Tryz.ntmps89
 go_wp2_with fail
 rw[<-d];refine Nd m.out ?_;rintro r w1 ⟨rfl,a⟩;have v:=(H.out.2.below a).Gr;rw[hp]at v;have x:M6 _:=H.out.1.trans (a.mono H.out.1.size);clear a t;go_wp2;go_ret;exact⟨by simp,x.out⟩
theorem akC(h:OR base w g V G)(b:Int) :
  Ni MK 110 #[gP g,MF ME b] w fun r w'=>r=MN (M3 (Zr G.fls b))/\MQ w.heap.size w w':=by
 obtain⟨W,a⟩:∃W,W=w.alloc (MP #[MF ME b] 3):=⟨_,rfl⟩;have d:MQ w.heap.size w W:=by rw[a];exact WQ w
 have m:=h.below d;have i:W.cell? ⟨w.heap.size,0,MH⟩=MI (MF ME b):=by rw[a];exact Xu (M1 _ _)
 have q:M6 _:=aj8 (MG V.pf G.fls.length V.cf) G.fls b w.heap.size W m.GK i;have t:=h.Gr;have u:=h.lt;have H:M6 _:=d;clear m h i d;go_enter ayW,ayL
 go_wp2_with fail
 rw[<-a];refine Nd q.out ?_;rintro r w1 ⟨rfl,e⟩;have o:M6 _:=H.out.trans (e.mono H.out.size);clear e;go_wp2;go_ret;exact⟨rfl,o.out⟩
theorem af0{w:MO}{g:Nat}{a b c d e f a' b' c' d' e' f':M7}{T:NU}(h:w.heap[g]?=MI (MP #[a,b,c,d,e,f] T (0,0))):((((((w.setCell ⟨g,0,MH⟩ a').setCell ⟨g,1,MH⟩ b').setCell ⟨g,2,MH⟩ c').setCell ⟨g,3,MH⟩ d').setCell ⟨g,4,MH⟩ e').setCell ⟨g,5,MH⟩ f').heap[g]?=MI (MP #[a',b',c',d',e',f'] T (0,0)):=
 YO (YO (YO (YO (YO (YO h rfl) rfl) rfl) rfl) rfl) rfl
theorem afE{w:MO}{B h:Nat}{a b c d e f:M7}(H:MQ B w W)(hh:B<=h):MQ B w ((((((W.setCell ⟨h,0,MH⟩ a).setCell ⟨h,1,MH⟩ b).setCell ⟨h,2,MH⟩ c).setCell ⟨h,3,MH⟩ d).setCell ⟨h,4,MH⟩ e).setCell ⟨h,5,MH⟩ f):=
 (((((H.setCell hh _).setCell hh _).setCell hh _).setCell hh _).setCell hh _).setCell hh _
abbrev abR(x:awV):Value:=Ny #[MF ME x.1,MF ME x.2.1,MF ME x.2.2.1,MF ME x.2.2.2.1,MF ME x.2.2.2.2.1,MF ME x.2.2.2.2.2]
abbrev YQ(x:awV):Obj:=MP #[MF ME x.1,MF ME x.2.1,MF ME x.2.2.1,MF ME x.2.2.2.1,MF ME x.2.2.2.2.1,MF ME x.2.2.2.2.2] 186
theorem afS{q:Nat}{x:awV}(h:W.heap[q]?=MI (YQ x)):(loadVar 186 ⟨q,0,MH⟩).run MK W=.ok (abR x) W :=
 Xp (cs:=[MF ME x.1,MF ME x.2.1,MF ME x.2.2.1,MF ME x.2.2.2.1,MF ME x.2.2.2.2.1,MF ME x.2.2.2.2.2]) h Tryz.underlying186 rfl (by kernel_rfl)
theorem afQ{b:Int}:WS L b=L.getD (L.findIdx fun x=>x.1 == b) aa1:=by
 unfold WS;rw[List.find?_eq_getElem?_findIdx];simp
theorem afR(h:OR base w g V G)(b:Int) :
  Ni MK 96 #[gP g,MF ME b] w fun r w'=>r=MN (abR (WS G.liv b))/\MQ w.heap.size w w':=by
 obtain⟨W,B⟩:∃W,W=(w.alloc (MP #[MF ME b] 3)).alloc (YQ aa1):=⟨_,rfl⟩;have N:=acu w (MP #[MF ME b] 3) (YQ aa1);rw[<-B]at N;obtain⟨D,I,A,b0⟩:=N;have C:=h.below A;have O:W.cell? ⟨w.heap.size,0,MH⟩=MI (MF ME b):=Xu D;have y:M6 _:=akz (MG V.pl G.liv.length V.cl) G.liv b w.heap.size W C.rest.book.now.1 O;have E:=h.Gn;have b2:=h.lt;have H:M6 (_/\_/\_):=⟨A,C,I⟩;clear h O A C D I
 by_cases hi:G.liv.findIdx (fun x=>x.1 == b)<G.liv.length
 ·obtain⟨i,q⟩:∃i,i=G.liv.findIdx (fun x=>x.1 == b):=⟨_,rfl⟩
  have u:X6 (G.liv.findIdx (fun x=>x.1 == b)) G.liv.length=(i:Int):=by rw[<-q];exact Nh (by rw[q];exact hi)
  rw[u]at y;rw[<-q]at hi;obtain⟨x,t⟩:∃x,x=WS G.liv b:=⟨_,rfl⟩;have K:x=G.liv[i]:=by rw[t,afQ,<-q];simp[hi]
  have a8:(i:Int)<(G.liv.length:Int):=by omega
  rw[<-t];have U:M6 (_/\_):=⟨K,q⟩;clear u q t K;go_enter UY,UV
  go_wp2_with fail
  rw[<-B];refine Nd y.out ?_;rintro r w1 ⟨rfl,o⟩;have z:=H.out.2.1.below o;have F:=z.Gn;have m:=WO H.out.2.2 o;obtain⟨a,cap,he,a7,R,M⟩:=adt.F6 z.rest.book.now.1;injection he with e1 e2 e3;unfold NE at R;rw[e3]at F;obtain⟨b1,o1,J,a9,Y,z2,z3,z4,z5,z6⟩:=M i hi;rw[e1,J]at F;rw[<-U.out.1]at Y z2 z3 z4 z5 z6;have Q:w.heap.size+1<w1.heap.size:=(ZAa.1 m).1;have f0:w1.frozen? ⟨w.heap.size+1,0,MH⟩=false:=by simp[Ng,m]
  have f1:w1.frozen? ⟨w.heap.size+1,1,MH⟩=false:=by simp[Ng,m]
  have f2:w1.frozen? ⟨w.heap.size+1,2,MH⟩=false:=by simp[Ng,m]
  have f3:w1.frozen? ⟨w.heap.size+1,3,MH⟩=false:=by simp[Ng,m]
  have f4:w1.frozen? ⟨w.heap.size+1,4,MH⟩=false:=by simp[Ng,m]
  have f5:w1.frozen? ⟨w.heap.size+1,5,MH⟩=false:=by simp[Ng,m]
  have Z:w1.cell? ⟨w.heap.size+1,0,MH⟩=MI (MF ME 0):=by rw[MW w1 _ 0 _ _ (0,0) m];rfl
  have k1:w1.cell? ⟨w.heap.size+1,1,MH⟩=MI (MF ME 0):=by rw[MW w1 _ 1 _ _ (0,0) m];rfl
  have k2:w1.cell? ⟨w.heap.size+1,2,MH⟩=MI (MF ME 0):=by rw[MW w1 _ 2 _ _ (0,0) m];rfl
  have k3:w1.cell? ⟨w.heap.size+1,3,MH⟩=MI (MF ME 0):=by rw[MW w1 _ 3 _ _ (0,0) m];rfl
  have k4:w1.cell? ⟨w.heap.size+1,4,MH⟩=MI (MF ME 0):=by rw[MW w1 _ 4 _ _ (0,0) m];rfl
  have k5:w1.cell? ⟨w.heap.size+1,5,MH⟩=MI (MF ME 0):=by rw[MW w1 _ 5 _ _ (0,0) m];rfl
  have v:M6 (_/\_):=⟨af0 (a':=MF ME x.1) (b':=MF ME x.2.1) (c':=MF ME x.2.2.1) (d':=MF ME x.2.2.2.1) (e':=MF ME x.2.2.2.2.1) (f':=MF ME x.2.2.2.2.2) m,afE (a:=MF ME x.1) (b:=MF ME x.2.1) (c:=MF ME x.2.2.1) (d:=MF ME x.2.2.2.1) (e:=MF ME x.2.2.2.2.1) (f:=MF ME x.2.2.2.2.2) (H.out.1.trans (o.mono H.out.1.size)) (Ps _)⟩;clear o E z m M e1 J e3;go_wp2;exact Np (Z2 azi rfl (afS v.out.1)) rfl ⟨rfl,v.out.2⟩
 ·have u:X6 (G.liv.findIdx (fun x=>x.1 == b)) G.liv.length = -1:=Nf hi
  rw[u]at y;have t:WS G.liv b=aa1:=by rw[afQ];simp[hi]
  rw[t];clear u t;go_enter UY,UV
  go_wp2_with fail
  rw[<-B];refine Nd y.out ?_;rintro r w1 ⟨rfl,o⟩;have m:=WO H.out.2.2 o;have Q:w.heap.size+1<w1.heap.size:=(ZAa.1 m).1;have f0:w1.frozen? ⟨w.heap.size+1,0,MH⟩=false:=by simp[Ng,m]
  have f1:w1.frozen? ⟨w.heap.size+1,1,MH⟩=false:=by simp[Ng,m]
  have f2:w1.frozen? ⟨w.heap.size+1,2,MH⟩=false:=by simp[Ng,m]
  have f3:w1.frozen? ⟨w.heap.size+1,3,MH⟩=false:=by simp[Ng,m]
  have f4:w1.frozen? ⟨w.heap.size+1,4,MH⟩=false:=by simp[Ng,m]
  have f5:w1.frozen? ⟨w.heap.size+1,5,MH⟩=false:=by simp[Ng,m]
  have Z:w1.cell? ⟨w.heap.size+1,0,MH⟩=MI (MF ME 0):=by rw[MW w1 _ 0 _ _ (0,0) m];rfl
  have k1:w1.cell? ⟨w.heap.size+1,1,MH⟩=MI (MF ME 0):=by rw[MW w1 _ 1 _ _ (0,0) m];rfl
  have k2:w1.cell? ⟨w.heap.size+1,2,MH⟩=MI (MF ME 0):=by rw[MW w1 _ 2 _ _ (0,0) m];rfl
  have k3:w1.cell? ⟨w.heap.size+1,3,MH⟩=MI (MF ME 0):=by rw[MW w1 _ 3 _ _ (0,0) m];rfl
  have k4:w1.cell? ⟨w.heap.size+1,4,MH⟩=MI (MF ME 0):=by rw[MW w1 _ 4 _ _ (0,0) m];rfl
  have k5:w1.cell? ⟨w.heap.size+1,5,MH⟩=MI (MF ME 0):=by rw[MW w1 _ 5 _ _ (0,0) m];rfl
  have v:M6 (_/\_):=⟨af0 (a':=MF ME 0) (b':=MF ME 0) (c':=MF ME 0) (d':=MF ME 0) (e':=MF ME 0) (f':=MF ME 0) m,afE (a:=MF ME 0) (b:=MF ME 0) (c:=MF ME 0) (d:=MF ME 0) (e:=MF ME 0) (f:=MF ME 0) (H.out.1.trans (o.mono H.out.1.size)) (Ps _)⟩;clear o E m;go_wp2;exact Np (Z2 azi rfl (afS (x:=aa1) v.out.1)) rfl ⟨rfl,v.out.2⟩
end
section
variable {base:Nat}{w:MO}{g:Nat}{V:Vs}{G:Gt}
theorem ahp{w':MO}(h:OR base w' g V G)(hb:WV V V g w w'):aaa base w g V G (MN (Nv #[])) w':=⟨rfl,V,h,⟨rfl,rfl,rfl⟩,hb⟩
theorem ahg(h:OR base w g V G)(hl:G.out.length<=1000000)(b:Int) :
  Ni MK 99 #[gP g,MF ME b] w (aaa base w g V (Yf G b)):=by
 obtain⟨⟨C,J,D,E,B,i⟩,Z⟩:∃x,x=WS G.liv b:=⟨_,rfl⟩;have Q:M6 _:=afR h b;rw[<-Z]at Q;have d3:=h.lt;have y:Yf G b=if J=3/\Zr G.fls b=Nb then aeQ {G with liv:=(aau G.liv G.req b).1.1,req:=(aau G.liv G.req b).1.2} b i else G:=by unfold Yf WY;rw[<-Z]
 obtain⟨O,Y⟩:∃O,O=Yf G b:=⟨_,rfl⟩;rw[<-Y];rw[<-Y]at y;have H:M6 (_/\_):=⟨h,hl⟩;clear h Z Y hl
 by_cases h3:J=3
 ·subst h3
  cases hbz:Zr G.fls b
  ·rw[Nh ⟨rfl,hbz⟩]at y
   have HO:M6 _:=y;clear y;go_enter azW,azR
   go_wp2_with fail
   refine Nd Q.out ?_;rintro r w1 ⟨rfl,a⟩;have z:=H.out.1.below a;have A:=z.GW (YQ (C,3,D,E,B,i));have F:=akC A b;rw[hbz]at F;have HS:M6 _:=a.size;have t:M6 (_/\_/\_):=⟨F,A,(WV.F5 (V:=V) (g:=g) a).below (WQ w1 (o:=YQ (C,3,D,E,B,i)))⟩;clear a z A F
   go_wp2_with fail
   refine Nd t.out.1 ?_;rintro r w2 ⟨rfl,u⟩;have I:=t.out.2.1.below u;have b2:w1.heap.size<w2.heap.size:=by have:=u.size;simp at this;omega
   have k5:w2.cell? ⟨w1.heap.size,5,MH⟩=MI (MF ME i):=by
    rw[MW w2 _ 5 _ _ (0,0) (WO (M1 w1 (YQ (C,3,D,E,B,i))) u)];rfl
   have a9:=I.Gn;have b0:=I.GD;have b5:=I.lt;have HF:=arW (MG V.pl G.liv.length V.cl) (MG V.pr G.req.length V.cr) G.liv G.req b w2 I.rest.book.now;have d:M6 (_/\_/\_):=⟨HF,I,t.out.2.2.below u⟩;clear u I HF
   go_wp2_with fail
   refine Nd d.out.1 ?_;rintro r w3 ⟨p,c,q,m,rfl,a8,v⟩;have R:=d.out.2.1.Iq v a8;have b8:=(d.out.2.1.below v).Gn;have b9:=(d.out.2.1.below v).GD;have b6:=(d.out.2.1.below v).fz 19;have b7:=(d.out.2.1.below v).fz 20;have b4:=(d.out.2.1.below v).lt;have kk:=(v.cell (p:=⟨w1.heap.size,5,MH⟩) b2).trans k5;have M:¬w1.heap.size=g:=fun e=>by have:=H.out.1.lt;have:=HS.out;omega
   have b3:¬g=w1.heap.size:=fun e=>M e.symm
   obtain⟨N,K⟩:∃N,N=(w3.setCell ⟨g,19,MH⟩ (MG p (aau G.liv G.req b).1.1.length c)).setCell ⟨g,20,MH⟩ (MG q (aau G.liv G.req b).1.2.length m):=⟨_,rfl⟩;rw[<-K]at R;have d2:N.cell? ⟨w1.heap.size,5,MH⟩=MI (MF ME i):=by
    rw[K];exact(NG (MU _ _ _ _ M)).trans ((NG (MU _ _ _ _ M)).trans kk)
   have a7:WV V {V with pl:=p,cl:=c,pr:=q,cr:=m} g w N:=by
    rw[K];exact(((d.out.2.2.below v).F4 19 _).F4 20 _).Gp fun _ h=>h
   have H3:M6 (_/\_):=⟨alj R H.out.2 b i,a7⟩;clear R a7 a8 v k5 a9 b0
   go_wp2_with fail
   rw[<-K]
   go_wp2_with fail
   refine Nd H3.out.1 ?_;rintro r w5 ⟨rfl,V',h5,h6,h7⟩;have U:M6 (_/\_/\_):=⟨h5,h6,h7⟩;clear h5 h6 h7;go_wp2
   go_end0
   rw[HO.out];exact⟨rfl,V',U.out.1,U.out.2.1,H3.out.2.F0 U.out.2.2⟩
  ·rw[Nf (fun hc=>by rw[hbz]at hc;cases hc.2)]at y
   subst y;go_enter azW,azR
   go_wp2_with fail
   refine Nd Q.out ?_;rintro r w1 ⟨rfl,a⟩;have z:=H.out.1.below a;have A:=z.GW (YQ (C,3,D,E,B,i));have F:=akC A b;rw[hbz]at F;have t:M6 (_/\_/\_):=⟨F,A,(WV.F5 (V:=V) (g:=g) a).below (WQ w1 (o:=YQ (C,3,D,E,B,i)))⟩;clear a z A F
   go_wp2_with fail
   refine Nd t.out.1 ?_;rintro r w2 ⟨rfl,u⟩;have d:M6 (_/\_):=⟨t.out.2.1.below u,t.out.2.2.below u⟩;clear u;go_wp2
   go_end0
   exact ahp d.out.1 d.out.2
 ·rw[Nf (fun hc=>h3 hc.1)]at y
  subst y;have M:(J != 3)=true:=by simpa using h3
  go_enter azW,azR
  go_wp2_with fail
  refine Nd Q.out ?_;rintro r w1 ⟨rfl,a⟩;have z:=H.out.1.below a;have t:M6 (_/\_):=⟨z.GW (YQ (C,J,D,E,B,i)),(WV.F5 (V:=V) (g:=g) a).below (WQ w1 (o:=YQ (C,J,D,E,B,i)))⟩;clear a z;go_wp2
  go_end0
  exact ahp t.out.1 t.out.2
end
section
variable {base:Nat}{w:MO}{g:Nat}{V:Vs}{G:Gt}
theorem OR.Jr(h:OR base w g V G)(hT:∀t,G.tms t↔T t):OR base w g V {G with tms:=T}:=by
 obtain⟨e,a,d,i⟩:=h.rest.whl;have r:=h.rest;exact⟨h.box,r.tab,r.book,r.ring,⟨e,a,fun t=>(d t).trans (hT t),i⟩,r.fls,r.hea,r.msl,r.hel,r.marks,r.out,r.low,r.lt,r.hg,r.fg,r.fh,r.og,r.oh,r.fo,r.blk,r.pos⟩
theorem aq5(h:0<=n/\n<=1000000):(N6 ME n).wf=true:=aez (by omega) (by omega)
theorem afD(h:MQ base w W)(hg:base<=g)(a b:Nat)(x y:M7):MQ base w ((W.setCell ⟨g,a,MH⟩ x).setCell ⟨g,b,MH⟩ y):=(h.setCell (p:=⟨g,a,MH⟩) hg x).setCell (p:=⟨g,b,MH⟩) hg y
abbrev af4(n:Int)(v:M7):Obj:=MP #[MF ME n,v] 53
theorem akg(h:OR base w g V G)(hs:0<=s/\s<40):
  Ni MK 126 #[gP g,MF ME s] w (aaa base w g V (aeG G s)):=by
 obtain⟨D,q,A,z⟩:=h.rest.whl;have Q:=h.GJ;have N:=h.GH;have R:=h.lt;have C:M6 _:=avJ (MG V.pw 25 V.cw) G.wnow s D w h.rest.blk z.now q (aq5 (by omega));have H:M6 (_/\_/\_):=⟨h,q,A⟩;clear h q A z hs;go_enter Tryz.func126,Tryz.ntmps126
 go_wp2_with fail
 refine Nd C.out ?_;rintro r w1 ⟨d,⟨y,rfl⟩|⟨B,p,c,U,rfl,u,m⟩⟩
 ·have a:=H.out.1.below d
  have i:M6 (_/\_):=⟨(a.GW (af4 0 (MG MH 0 0))).Jr (T:=fun t=>G.tms t/\t.2≠s) (fun t=>⟨fun h=>⟨h,y t ((H.out.2.2 t).2 h)⟩,fun h=>h.1⟩),(WV.F5 (V:=V) (g:=g) d).below (WQ w1 (o:=af4 0 (MG MH 0 0)))⟩;clear d a y;go_wp2
  go_end0
  exact ahp i.out.1 i.out.2
 ·have a:=H.out.1.below d
  have x:=(H.out.1.Ih (T:=fun t=>G.tms t/\t.2≠s) d u m.may (fun t=>(m.mem t).trans (and_congr (H.out.2.2 t) Iff.rfl))).GW (af4 G.wnow (MG p 25 c));have v:WV V {V with pw:=p,cw:=c} g w ((w1.setCell ⟨g,24,MH⟩ (MF ME G.wnow)).setCell ⟨g,25,MH⟩ (MG p 25 c)):=(((WV.F5 (V:=V) (g:=g) d).F4 24 _).F4 25 _).Gp fun _ h=>h
  have J:=a.GJ;have I:=a.GH;have M:=a.fz 24;have O:=a.fz 25;have E:=a.lt;have K:¬w1.heap.size=g:=fun e=>by omega
  have F:¬g=w1.heap.size:=fun e=>by omega
  have i:M6 (_/\_):=⟨x,v.below (WQ _ (o:=af4 G.wnow (MG p 25 c)))⟩;clear d a v x u m B;go_wp2
  go_end0
  exact⟨rfl,_,i.out.1,⟨rfl,rfl,rfl⟩,i.out.2⟩
theorem aqY{i:Nat}(hi:i<G.fls.length)(n:Int):YW G i n={G with fls:=G.fls.set i {G.fls[i]with due:=G.now+n},tms:=fun t=>(G.tms t/\t.2≠G.fls[i].slot)\/t=(G.now+n,G.fls[i].slot)}:=by
 unfold YW;rw[XA hi]
theorem af2(h:OR base w g V G){i:Nat}(hi:i<G.fls.length){bf:Nat}(hp:V.pf=MI ⟨bf,0,MH⟩)(hn:1<=n/\n<=500)(hs:0<=G.fls[i].slot/\G.fls[i].slot<40)(hw:G.wnow=G.now)(hnow:0<=G.now/\G.now<=1099511626776):
  Ni MK 85 #[gP g,fP bf i,MF ME n] w (aaa base w g V (YW G i n)):=by
 rw[aqY hi];obtain⟨s,B⟩:∃s,s=G.fls[i].slot:=⟨_,rfl⟩;obtain⟨F,q2,q3,q4,q5,q6,q7⟩:=h.Gl hp hi;have b6:=h.Gm;have b7:=h.lt;have fz:=h.Hv hp (i*7+6);have b3:bf<w.heap.size:=MX w ⟨bf,i*7,MH⟩ F;have b4:¬bf=g:=fun e=>h.rest.fg (by rw[hp,e];rfl)
 have b8:¬g=bf:=fun e=>b4 e.symm
 obtain⟨d,q⟩:∃d,d=G.now+n:=⟨_,rfl⟩;have b2:IntKind.i64.wrap (G.now+n)=d:=by rw[q,Ow];omega
 obtain⟨y,u⟩:∃y:Fl,y={G.fls[i]with due:=d}:=⟨_,rfl⟩;have x:=h.Hd hp hi (j:=6) (by omega) (MF ME d) y (by rw[u];rfl);obtain⟨w1,z⟩:∃w1,w1=w.setCell ⟨bf,i*7+6,MH⟩ (MF ME d):=⟨_,rfl⟩;rw[<-z]at x;have O:WV V V g w w1:=by
  rw[z];exact⟨rfl,rfl,rfl,by simp,fun b _ hn=>MU w ⟨bf,i*7+6,MH⟩ _ b fun e=>hn (NF (NF (Nt (by rw[hp,e];rfl)))),fun _ h=>Nt h⟩
 rw[<-B]at F hs⊢;have Q:i<(G.fls.set i y).length:=by rw[NA];exact hi
 have a8:(G.fls.set i y)[i]=y:=by simp
 have Z:=x.Gl hp (i:=i) Q;simp only[a8]at Z;obtain⟨v,r2,r3,r4,r5,r6,r7⟩:=Z;have A:y.slot=s:=by rw[u,B]
 have Y:y.due=d:=by rw[u]
 have r1:w1.cell? ⟨bf,i*7,MH⟩=MI (MF ME s):=by rw[<-A];exact v
 have HD:M6 _:=akg x hs;have H:M6 (_/\_/\_/\_/\_/\_/\_):=⟨O,A,Y,q,hp,hs,hi⟩;have HW:M6 (_/\_/\_/\_):=⟨hw,hnow,hn,u⟩;clear v h x O A Y hp B q hs r2 r3 r4 r5 r6 r7 hw hnow hn u Q a8;go_enter Wd,VU
 go_wp2_with fail
 rw[<-z];clear z F q2 q3 q4 q5 q6 q7 b6 fz b2
 go_wp2_with fail
 refine Nd HD.out ?_;rintro r w2 ⟨rfl,a,m,E,a7⟩;obtain⟨ls,I,J,hA⟩:=m.rest.whl;have U:a.pf=MI ⟨bf,0,MH⟩:=E.1.trans H.out.2.2.2.2.1;have D:i<(aeG {G with fls:=G.fls.set i y} s).fls.length:=by show i<(G.fls.set i y).length;rw[NA];exact H.out.2.2.2.2.2.2
 have R:=m.Gl U (i:=i) D;have N:(aeG {G with fls:=G.fls.set i y} s).fls[i]'D=y:=NW (h:=by rw[NA];exact H.out.2.2.2.2.2.2);simp only[N]at R;obtain⟨v,t2,t3,t4,t5,t6,u7⟩:=R;have t1:w2.cell? ⟨bf,i*7,MH⟩=MI (MF ME s):=by rw[<-H.out.2.1];exact v
 have t7:w2.cell? ⟨bf,i*7+6,MH⟩=MI (MF ME d):=by rw[<-H.out.2.2.1];exact u7
 have d7:w2.cell? ⟨g,24,MH⟩=MI (MF ME G.wnow):=m.GJ;have d4:=m.GH;have d3:=m.lt;have b9:bf<w2.heap.size:=MX w2 ⟨bf,i*7,MH⟩ t1;have hx:=HW.out;have hs:=H.out.2.2.2.2.2.1;have q:=H.out.2.2.2.1;have M:Zg G.wnow (d,s)=true:=(ada _ _).2 ⟨by show G.wnow<d;omega,by show d<=G.wnow+500;omega,by show d<=1099511627776;omega,hs.1,by show s<=199;omega⟩;have K:∀t∈ls.flatten,t.2≠s:=fun t hmem=>((J t).1 hmem).2
 have HA:M6 (∀W,MQ w2.heap.size w2 W->Ni MK 127 #[Ny #[MF ME G.wnow,MG a.pw 25 a.cw],MF ME s,MF ME d] W fun r w'=>∃p c,r=MN (Nv #[Ny #[MF ME G.wnow,MG p 25 c],MF ME 0])/\w'.cell? ⟨g,24,MH⟩=MI (MF ME G.wnow)/\w'.cell? ⟨g,25,MH⟩=MI (MG a.pw 25 a.cw)/\w'.frozen? ⟨g,24,MH⟩=Nb/\w'.frozen? ⟨g,25,MH⟩=Nb/\g<w'.heap.size /\
   M6 (OR base ((w'.setCell ⟨g,24,MH⟩ (MF ME G.wnow)).setCell ⟨g,25,MH⟩ (MG p 25 c)) g {a with pw:=p,cw:=c} {G with fls:=G.fls.set i y,tms:=fun t=>(G.tms t/\t.2≠s)\/t=(d,s)}/\WV a {a with pw:=p,cw:=c} g w2 ((w'.setCell ⟨g,24,MH⟩ (MF ME G.wnow)).setCell ⟨g,25,MH⟩ (MG p 25 c)))):=by
  refine fun W hW=>(avD (MG a.pw 25 a.cw) G.wnow s d ls W (m.rest.blk.below hW) (hA.now.below hW) I M K).mono ?_
  rintro r w' ⟨p,c,rfl,a9,b0,hb⟩;have C:MQ w2.heap.size w2 w':=hW.trans (hb.mono hW.size);have o:=m.below C;have b5:=m.Ih (T:=fun t=>(G.tms t/\t.2≠s)\/t=(d,s)) C (a9.GV hW.size) b0 (fun t=>(av6 (now:=G.wnow) I.2 (d,s) t).trans ((or_congr Iff.rfl (J t)).trans or_comm));exact⟨p,c,rfl,o.GJ,o.GH,o.fz 24,o.fz 25,o.lt,b5,(((WV.F5 (V:=a) (g:=g) C).F4 24 _).F4 25 _).Gp fun _ h=>h⟩
 have H2:M6 (_/\_):=⟨E,a7⟩;clear v u7 m hA I J M K hx hs q a7 E t2 t3 t4 t5 t6 U N D r1 b7 b3 HD
 go_wp2_with fail
 go_region_with (first|(go_at_call 127;refine(HA.out _ (by first|exact(MY _ _).drew|exact Below.refl _ _)).mono ?_;rintro r w3 ⟨p,c,rfl,d9,d6,d8,d5,d2,o⟩))
 all_goals
  go_wp2
  go_end0
  have u:=HW.out.2.2.2;have q:=H.out.2.2.2.1;subst u q;exact⟨rfl,{a with pw:=p,cw:=c},o.out.1,H2.out.1,H.out.1.F0 (H2.out.2.F0 o.out.2)⟩
end
theorem ad0:(MK.info? 72).map (fun i=>(i.zero,i.size,i.bytes))=MI (MI (Ny #[MF ME 0,MF ME 0,MF ME 0,MF ME 0,M3 Nb,MF ME 0,MF ME 0]),7,56):=by kernel_rfl
theorem aoI(q:Oc)(c:Nat)(l:List Fl)(w:MO)(hv:ZR w (MG (MI q) l.length c) l)(h0:0<l.length)(hl:l.length<=1000) :
  Ni MK 72 #[MG (MI q) l.length c] w fun r w'=>∃g c',r=MN (MG (MI ⟨g,0,MH⟩) l.length c')/\w'.ownsRow w.heap.size 72 7 (MG (MI ⟨g,0,MH⟩) l.length c') l.length (rv WX l)/\MQ w.heap.size w w':=by
 have v:∀W,(binOp .eql 40 (MG (MI q) l.length c) (MG MH 0 0)).run MK W=.ok (M3 Nb) W:=fun W=>by kernel_rfl
 have m:(w.alloc (MP #[] 72)).ownsRow w.heap.size 72 7 (MG (MI ⟨w.heap.size,0,MH⟩) 0 0) 0 (rv WX []):=
  ⟨rfl,NF ⟨w.heap.size,0,#[],rfl,MV _,M1 _ _,MV _,Nx _,rfl,rfl⟩⟩
 have t:∃g c' d,(N2 #[40,40] 40 #[MG (MI ⟨w.heap.size,0,MH⟩) 0 0,MG (MI q) l.length c]).run MK (w.alloc (MP #[] 72))=.ok (MG (MI ⟨g,0,MH⟩) l.length c') d/\d.ownsRow w.heap.size 72 7 (MG (MI ⟨g,0,MH⟩) l.length c') l.length (rv WX l)/\MQ w.heap.size w d:=by
  obtain⟨g,c',d,hr,a,u,_⟩:=ag6 XL acI (by decide) U3 ad0 rfl m (by simp) 40 _ l (Xw.below hv (WQ w)) (by omega) (by omega) (by unfold NE;omega);rw[Oa]at hr a;rw[Oz]at a;exact⟨_,_,_,hr,a,(WQ w).trans (ae4 u (by simp) (fun g e=>by cases e;exact MV _))⟩
 obtain⟨g,c',d,hr,a,o⟩:=t;have i:M6 (_/\_/\_):=⟨hr,o,a⟩;clear hr o a hv m;go_enter Tryz.func72,Tryz.ntmps72
 go_wp2_with (at_builtin;(with_reducible refine Z4 rfl _ _ 40 rfl (MG (MI ⟨w.heap.size,0,MH⟩) 0 0) (MG (MI q) l.length c) (MG (MI ⟨g,0,MH⟩) l.length c') d ?hs ?hx ?hr ?_);(case hs=>rfl);(case hx=>rfl);(case hr=>exact i.out.1))
 go_wp2;go_ret;exact⟨_,_,rfl,i.out.2.2,i.out.2.1⟩
def Y2(s n:Int)(f:Fl):Bool:=(f.slot == s) && (f.gen == n)
theorem ahc(f:Fl)(s n:Int)(g:Nat)(w:MO)(hc:w.cell? ⟨g,0,MH⟩=MI (MF ME s))(hd:w.cell? ⟨g,1,MH⟩=MI (MF ME n)) :
  Ni MK 181 #[ZS f,Na (MI ⟨g,0,MH⟩)] w fun r w'=>r=MN (M3 (Y2 s n f))/\w'=w.alloc (MP #[MF ME f.slot,MF ME f.gen,MF ME f.key,MF ME f.be,M3 f.srv,MF ME f.ret,MF ME f.due] 72):=by
 have m:g<w.heap.size:=MX w ⟨g,0,MH⟩ hc
 by_cases e:f.slot=s/\f.gen=n
 ·obtain⟨rfl,rfl⟩:=e
  go_enter azS,azG;go_wp2;go_ret;exact⟨by simp[Y2],rfl⟩
 ·have a:Y2 s n f=false:=by
   cases h:Y2 s n f
   ·rfl
   ·exact absurd (by simpa [Y2]using h) e
  rw[a]
  by_cases e1:f.slot=s
  ·subst e1
   have d:(f.gen == n)=false:=by rw[Oh];exact fun h=>e ⟨rfl,h⟩
   have i:¬f.gen=n:=fun h=>e ⟨rfl,h⟩
   clear e a;go_enter azS,azG;go_wp2;go_ret;exact⟨rfl,rfl⟩
  ·have d:(f.slot == s)=false:=by rw[Oh];exact e1
   clear e a;go_enter azS,azG;go_wp2;go_ret;exact⟨rfl,rfl⟩
theorem apr(v:M7)(l:List Fl)(s n:Int)(g:Nat)(w:MO)(hv:ZR w v l)(hc:w.cell? ⟨g,0,MH⟩=MI (MF ME s))(hd:w.cell? ⟨g,1,MH⟩=MI (MF ME n)) :
  Ni MK 123 #[v,PB (PD 181) #[] #[Na (MI ⟨g,0,MH⟩)]] w fun r w'=>r=MN (MF ME (X6 (l.findIdx (Y2 s n)) l.length))/\MQ w.heap.size w w':=by
 obtain⟨q,E⟩:∃q:Fl->Bool,q=(Y2 s n):=⟨_,rfl⟩;obtain⟨a,ca,rfl,a8,R,K⟩:=ZR.F6 hv;unfold NE at R;have N:=MX w ⟨g,0,MH⟩ hc;have Q:M6 (∀(x:Fl) (W:MO),MQ w.heap.size w W->Ni MK 181 #[ZS x,Na (MI ⟨g,0,MH⟩)] W fun r w'=>r=MN (M3 (q x))/\MQ W.heap.size W w'):=by
  rw[E];exact fun x W hb=>(fun H=>H.mono fun r w' h=>⟨h.1,by rw[h.2];exact WQ W⟩) (ahc x s n g W ((hb.cell (p:=⟨g,0,MH⟩) N).trans hc) ((hb.cell (p:=⟨g,1,MH⟩) N).trans hd))
 rw[<-E];obtain⟨z,D⟩:∃z,z=X6 (l.findIdx q) l.length:=⟨_,rfl⟩;rw[<-D];have H:M6 _:=D;clear hv D E hc hd;go_enter Uo,Uc;go_wp2
 go_loopw [8] (fun i wr=>∃k:Nat,i=MF ME k/\k<=l.length/\(∀t∈l.take k,q t=Nb)/\MQ w.heap.size w wr) (fun i _=>l.length-(intOf i).toNat)
 case atStart=>exact⟨0,rfl,Nx _,by simp,MY _ _⟩
 case round =>
  obtain⟨k,rfl,hk,A,d⟩:=hrel
  by_cases hlt:k<l.length
  ·obtain⟨o,u,rfl,m,c1,c2,c3,c4,c5,c6,c7⟩:=K k hlt
   have Z:=(d.cell (p:=⟨o,u+k*7,MH⟩) m).trans c1;have U:=(d.cell (p:=⟨o,u+k*7+1,MH⟩) m).trans c2;have Y:=(d.cell (p:=⟨o,u+k*7+2,MH⟩) m).trans c3;have e4:=(d.cell (p:=⟨o,u+k*7+3,MH⟩) m).trans c4;have e5:=(d.cell (p:=⟨o,u+k*7+4,MH⟩) m).trans c5;have e6:=(d.cell (p:=⟨o,u+k*7+5,MH⟩) m).trans c6;have e7:=(d.cell (p:=⟨o,u+k*7+6,MH⟩) m).trans c7;have y:M6 (_/\_):=⟨A,d⟩;have a7:(k:Int)<(l.length:Int):=by omega
   have F:l.take (k+1)=l.take k++[l[k]]:=M9 hlt;have I:q l[k]=Nw->l.findIdx q=k:=fun h=>abZ hlt A h
   have C:∃x,x=l[k]:=⟨_,rfl⟩;obtain⟨x,C⟩:=C;rw[<-C]at Z U Y e4 e5 e6 e7 F I;have O:M6 (_/\_):=⟨F,I⟩;clear A d c1 c2 c3 c4 c5 c6 c7 m K F I C;cases hd:q x
   ·go_wp2_with fail
    refine(Q.out x _ y.out.2).mono ?_;rw[hd];rintro r w2 ⟨rfl,B⟩;have J:M6 _:=B;clear B;go_wp2
    go_roundw
    case rel =>
     refine⟨k+1,by simp,hlt,fun t e=>?_,y.out.2.trans (J.out.mono y.out.2.size)⟩;rw[O.out.1]at e;rcases QF.1 e with e|e
     ·exact y.out.1 t e
     ·simp at e
      rw[e];exact hd
    case measure=>simp[intOf];omega
   ·go_wp2_with fail
    refine(Q.out x _ y.out.2).mono ?_;rw[hd];rintro r w2 ⟨rfl,B⟩;have M:M6 (z=(k:Int)):=by show z=_;rw[H.out,O.out.2 hd];exact Nh hlt
    have J:M6 _:=B;clear B;go_wp2;go_ret;exact⟨by rw[M.out];rfl,y.out.2.trans (J.out.mono y.out.2.size)⟩
  ·have M:M6 (z = -1):=by
    show z=_;rw[H.out,acp fun t e=>A t (by rw[N1 (by omega)];exact e)];exact Nf (PC _)
   have HB:M6 _:=d;clear A d K;go_wp2;go_ret;exact⟨by rw[M.out];rfl,HB.out⟩
def awZ(l:List Fl)(s n:Int):List Fl:=l.filter fun f=>!Y2 s n f
theorem akE(l:List Fl)(t:Fl)(s n:Int):awZ (l++[t]) s n=awZ l s n++if Y2 s n t=Nw then []else [t]:=by
 unfold awZ;rw[OY]
 by_cases h:Y2 s n t=Nw <;> simp[h]
theorem apJ(h:∀t∈l,Y2 s n t=Nb):awZ l s n=l:=List.filter_eq_self.2 fun t ht=>by rw[h t ht];rfl
theorem aqi{w:MO}{base g n size i:Nat}{e:NU}(h:w.ownsRow base e size (MG (MI ⟨g,0,MH⟩) n cap) n xs)(hi:i<=n):w.ownsRow base e size (MG (MI ⟨g,0,MH⟩) i cap) i (xs.take (i*size)):=agE h hi
theorem aqj{base g n size:Nat}{e:NU}(vs:List M7)(o:Nat)(w:MO)(h:w.ownsRow base e size (MG (MI ⟨g,0,MH⟩) n cap) n xs)(ho:n*size<=o):(w.setCells g o vs).ownsRow base e size (MG (MI ⟨g,0,MH⟩) n cap) n xs/\w.grownBy (w.setCells g o vs) (MI g):=aeh vs o w h ho
theorem aqu{P:O8}(w:MO)(t e ty:NU)(zs:Array M7)(k:Nat)(hk:zs.size=k)(hk0:0<k)(h1:∀j,j<k->(zs[j]!).oneCell'=Nw)(ht:P.underlying t=MI (.slice e))(hv:∀w,(zeroValue e).run P w=.ok (Ny zs) w)(g o n c:Nat)(hn:0<n)
  (hc:∀j,j<n*k->(w.cell? ⟨g,o+j,MH⟩).isSome=Nw) (hf:∀j,j<n*k->w.frozen? ⟨g,o+j,MH⟩=Nb) :
  ∃vs,(Rs #[t] ty #[MG (MI ⟨g,o,MH⟩) n c]).run P w=.ok (Nv #[]) (w.setCells g o vs):=by
 have d:(N5 zs n).toList.length=n*k:=by rw[Om,size_zeroCells,hk]
 have q:∀v∈(N5 zs n).toList,v.oneCell'=true:=by
  intro v hv;simp only[N5,Array.toList_map,ZAd]at hv;obtain⟨i,_,rfl⟩:=hv;exact h1 (i % zs.size) (by rw[hk];exact Nat.mod_lt _ hk0)
 have a:=run_storeCells_cells (P:=P) g o (N5 zs n).toList 0 w (by rw[d];simpa using hc) (by rw[d];simpa using hf) q;simp only[Oe]at a;refine⟨(N5 zs n).toList,?_⟩;obtain⟨m,rfl⟩:∃m,n=m+1:=⟨n-1,by omega⟩;simp[Rs,run_underlying ht,hv,Value.cells,a]
theorem ara(W:MO):(zeroValue 72).run MK W=.ok (Ny #[MF ME 0,MF ME 0,MF ME 0,MF ME 0,M3 Nb,MF ME 0,MF ME 0]) W:=by kernel_rfl
theorem ahe(h:j<l.length):l.drop j=l[j]::l.drop (j+1):=(Pp h).symm
def Xr(l:List Fl)(s n:Int)(junk:List Fl)(j:Nat):List Fl:=awZ (l.take j) s n++junk++l.drop j
theorem ap6(hj:j<l.length)(hl:(awZ (l.take j) s n).length+junk.length=j):(Xr l s n junk j)[j]?=MI l[j]:=by
 unfold Xr;rw[Tw (by rw[Ns];omega),Ns,hl,Nat.sub_self,ahe hj];rfl
theorem ap7(hj:j<=l.length)(hl:(awZ (l.take j) s n).length+junk.length=j):(Xr l s n junk j).length=l.length:=by
 unfold Xr;rw[Ns,Ns,NJ];omega
theorem akM(hj:j<l.length)(e:Y2 s n l[j]=Nw):Xr l s n (junk++[l[j]]) (j+1)=Xr l s n junk j/\awZ (l.take (j+1)) s n=awZ (l.take j) s n:=by
 have a:awZ (l.take (j+1)) s n=awZ (l.take j) s n:=by rw[M9 hj,akE,Nh e,OG]
 refine⟨?_,a⟩;unfold Xr;rw[a,ahe hj];simp
theorem ap8{x:Fl}(hj:j<l.length)(e:¬Y2 s n l[j]=Nw):Xr l s n (junk++[l[j]]) (j+1)=(Xr l s n (x::junk) j).set (awZ (l.take j) s n).length l[j]/\awZ (l.take (j+1)) s n=awZ (l.take j) s n++[l[j]]:=by
 have a:awZ (l.take (j+1)) s n=awZ (l.take j) s n++[l[j]]:=by rw[M9 hj,akE,Nf e]
 refine⟨?_,a⟩;unfold Xr;rw[a,ahe hj];simp
theorem aqv{w:MO}{base g n:Nat}(h:w.ownsRow base 72 7 (MG (MI ⟨g,0,MH⟩) n cap) n (rv WX l)){i:Nat}(hi:i<l.length)(y:Fl):
  (((((((w.setCell ⟨g,i*7,MH⟩ (MF ME y.slot)).setCell ⟨g,i*7+1,MH⟩ (MF ME y.gen)).setCell ⟨g,i*7+2,MH⟩ (MF ME y.key)).setCell ⟨g,i*7+3,MH⟩ (MF ME y.be)).setCell ⟨g,i*7+4,MH⟩ (M3 y.srv)).setCell ⟨g,i*7+5,MH⟩ (MF ME y.ret)).setCell ⟨g,i*7+6,MH⟩ (MF ME y.due)).ownsRow base 72 7 (MG (MI ⟨g,0,MH⟩) n cap) n (rv WX (l.set i y))/\w.grownBy (((((((w.setCell ⟨g,i*7,MH⟩ (MF ME y.slot)).setCell ⟨g,i*7+1,MH⟩ (MF ME y.gen)).setCell ⟨g,i*7+2,MH⟩ (MF ME y.key)).setCell ⟨g,i*7+3,MH⟩ (MF ME y.be)).setCell ⟨g,i*7+4,MH⟩ (M3 y.srv)).setCell ⟨g,i*7+5,MH⟩ (MF ME y.ret)).setCell ⟨g,i*7+6,MH⟩ (MF ME y.due)) (MI g):=by
 have r:=h.stored (i*7) (MF ME y.slot);have q:=r.1.stored (i*7+1) (MF ME y.gen);have o:=q.1.stored (i*7+2) (MF ME y.key);have m:=o.1.stored (i*7+3) (MF ME y.be);have e:=m.1.stored (i*7+4) (M3 y.srv);have d:=e.1.stored (i*7+5) (MF ME y.ret);have a:=d.1.stored (i*7+6) (MF ME y.due);have B:=ack XL l i 0 (MF ME y.slot) ({l[i]with slot:=y.slot}:Fl) hi (by omega) rfl;have x:=ack XL (l.set i ({l[i]with slot:=y.slot}:Fl)) i 1 (MF ME y.gen) ({l[i]with slot:=y.slot,gen:=y.gen}:Fl) (by simpa using hi) (by omega) (by rw[NW];rfl);have t:=ack XL (l.set i ({l[i]with slot:=y.slot,gen:=y.gen}:Fl)) i 2 (MF ME y.key) ({l[i]with slot:=y.slot,gen:=y.gen,key:=y.key}:Fl) (by simpa using hi) (by omega) (by rw[NW];rfl);have v:=ack XL (l.set i ({l[i]with slot:=y.slot,gen:=y.gen,key:=y.key}:Fl)) i 3 (MF ME y.be) ({l[i]with slot:=y.slot,gen:=y.gen,key:=y.key,be:=y.be}:Fl) (by simpa using hi) (by omega) (by rw[NW];rfl);have u:=ack XL (l.set i ({l[i]with slot:=y.slot,gen:=y.gen,key:=y.key,be:=y.be}:Fl)) i 4 (M3 y.srv) ({l[i]with slot:=y.slot,gen:=y.gen,key:=y.key,be:=y.be,srv:=y.srv}:Fl) (by simpa using hi) (by omega) (by rw[NW];rfl);have A:=ack XL (l.set i ({l[i]with slot:=y.slot,gen:=y.gen,key:=y.key,be:=y.be,srv:=y.srv}:Fl)) i 5 (MF ME y.ret) ({l[i]with slot:=y.slot,gen:=y.gen,key:=y.key,be:=y.be,srv:=y.srv,ret:=y.ret}:Fl) (by simpa using hi) (by omega) (by rw[NW];rfl);have z:=ack XL (l.set i ({l[i]with slot:=y.slot,gen:=y.gen,key:=y.key,be:=y.be,srv:=y.srv,ret:=y.ret}:Fl)) i 6 (MF ME y.due) ({l[i]with slot:=y.slot,gen:=y.gen,key:=y.key,be:=y.be,srv:=y.srv,ret:=y.ret,due:=y.due}:Fl) (by simpa using hi) (by omega) (by rw[NW];rfl);simp only[List.set_set,Oe]at B x t v u A z;rw[B]at r q o m e d a;rw[x]at q o m e d a;rw[t]at o m e d a;rw[v]at m e d a;rw[u]at e d a;rw[A]at d a;rw[z]at a;exact⟨a.1,(((((r.2.trans q.2).trans o.2).trans m.2).trans e.2).trans d.2).trans a.2⟩
theorem aoX(base g c:Nat)(l:List Fl)(s n:Int)(gid:Nat)(w:MO)(hown:w.ownsRow base 72 7 (MG (MI ⟨g,0,MH⟩) l.length c) l.length (rv WX l))(h:w.cell? ⟨gid,0,MH⟩=MI (MF ME s))(hd:w.cell? ⟨gid,1,MH⟩=MI (MF ME n))(hne:gid≠g)(hex:∃t∈l,Y2 s n t=Nw) :
  Ni MK 180 #[MG (MI ⟨g,0,MH⟩) l.length c,PB (PD 181) #[] #[Na (MI ⟨gid,0,MH⟩)]] w fun r w'=>r=MN (MG (MI ⟨g,0,MH⟩) (awZ l s n).length c)/\w'.ownsRow base 72 7 (MG (MI ⟨g,0,MH⟩) (awZ l s n).length c) (awZ l s n).length (rv WX (awZ l s n))/\w.grownBy w' (MI g):=by
 have R:=apr _ l s n gid w (abw hown) h hd;have d2:=MX w ⟨gid,0,MH⟩ h;obtain⟨k,D⟩:∃k,k=l.findIdx (Y2 s n):=⟨_,rfl⟩;have B:k<l.length:=by rw[D];obtain⟨t,O,e⟩:=hex;exact List.findIdx_lt_length_of_exists ⟨t,O,e⟩
 have a8:Y2 s n l[k]=true:=by subst D;exact List.findIdx_getElem (w:=B)
 have a9:∀t∈l.take k,Y2 s n t=false:=by
  intro t O;obtain⟨j,hj,rfl⟩:=NV O;have d3:j<k:=by simp at hj;omega
  rw[List.getElem_take];have:=List.not_of_lt_findIdx (p:=Y2 s n) (xs:=l) (i:=j) (by rw[<-D];exact d3)
  simpa using this
 have b7:X6 (l.findIdx (Y2 s n)) l.length=(k:Int):=by rw[<-D];exact Nh B
 rw[b7]at R;have b9:l.length<=c/\c<=maxLen:=by
  obtain⟨_,c',he,hc,hm,_⟩:=abw hown;cases he;exact⟨hc,hm⟩
 obtain⟨g7,d4⟩:=b9;unfold NE at d4;have F:awZ (l.take k) s n=l.take k:=apJ a9;have Z:=akM (junk:=[]) B a8;have M:M6 (_/\_/\_/\_):=⟨R,hown,h,hd⟩;have H1:M6 (_/\_/\_):=⟨F,Z.1,Z.2⟩;have g8:((k:Int) == -1)=false:=by
  rw[Oh];omega
 clear R hown h hd hex D b7 F Z a8 a9;go_enter Tryz.func180,Tryz.ntmps180
 go_wp2_with fail
 refine Nd M.out.1 ?_;rintro r w1 ⟨rfl,b2⟩;have C:M6 _:=b2;clear b2;go_wp2
 go_loopw [5,6] (fun s5 s6 wr=>∃(j:Nat) (junk:List Fl),s5=MF ME ((awZ (l.take j) s n).length:Nat)/\s6=MF ME j/\j<=l.length/\(awZ (l.take j) s n).length+junk.length=j/\junk≠[]/\wr.ownsRow base 72 7 (MG (MI ⟨g,0,MH⟩) l.length c) l.length (rv WX (Xr l s n junk j))/\w.grownBy wr (MI g)) (fun _ s6 _=>l.length-(intOf s6).toNat)
 case atStart =>
  obtain⟨F,d5,d6⟩:=H1.out;have e0:Xr l s n [l[k]] (k+1)=l:=by
   have:Xr l s n ([]++[l[k]]) (k+1)=Xr l s n [] k:=d5;rw[Oz]at this;rw[this];unfold Xr;rw[F,OG,Oo]
  have I:(awZ (l.take (k+1)) s n).length=k:=by rw[d6,F,NH];omega
  refine⟨k+1,[l[k]],by rw[I],by simp,B,by rw[I];rfl,by simp,?_,⟨C.out.os,C.out.tape,C.out.output,C.out.size,fun k B _=>C.out.block k B⟩⟩;rw[e0];exact YI M.out.2.1 C.out
 case round =>
  obtain⟨j,junk,rfl,rfl,hj,b3,b5,m,v⟩:=hrel;have b4:=ap7 hj b3;have Y:wr.cell? ⟨gid,0,MH⟩=MI (MF ME s):=v.cell M.out.2.2.1 (by simpa using hne);have U:wr.cell? ⟨gid,1,MH⟩=MI (MF ME n):=v.cell M.out.2.2.2 (by simpa using hne);obtain⟨x,d,rfl⟩:∃x d,junk=x::d:=by
   cases junk with
   |nil=>exact absurd rfl b5
   |cons x r=>exact⟨x,r,rfl⟩
  rw[Ox]at b3;have a7:gid<wr.heap.size:=M8 d2 v.size;have g9:=(m.lt g rfl).2;generalize u:(awZ (l.take j) s n).length=i at *
  by_cases hlt:j<l.length
  ·have b0:=ap6 (s:=s) (n:=n) (junk:=x::d) hlt (by rw[u,Ox];omega)
   obtain⟨q,z⟩:=ZAb.1 b0
   have o:i<(Xr l s n (x::d) j).length:=by omega
   have f0:=(m.cellAt (j*7) (by omega)).trans ((ZA XL (Xr l s n (x::d) j) j 0 q (by omega)).trans (show(WX ((Xr l s n (x::d) j)[j]'q))[0]?=MI (MF ME l[j].slot)by rw[z];rfl));have f1:=(m.cellAt (j*7+1) (by omega)).trans ((ZA XL (Xr l s n (x::d) j) j 1 q (by omega)).trans (show(WX ((Xr l s n (x::d) j)[j]'q))[1]?=MI (MF ME l[j].gen)by rw[z];rfl));have f2:=(m.cellAt (j*7+2) (by omega)).trans ((ZA XL (Xr l s n (x::d) j) j 2 q (by omega)).trans (show(WX ((Xr l s n (x::d) j)[j]'q))[2]?=MI (MF ME l[j].key)by rw[z];rfl));have f3:=(m.cellAt (j*7+3) (by omega)).trans ((ZA XL (Xr l s n (x::d) j) j 3 q (by omega)).trans (show(WX ((Xr l s n (x::d) j)[j]'q))[3]?=MI (MF ME l[j].be)by rw[z];rfl));have f4:=(m.cellAt (j*7+4) (by omega)).trans ((ZA XL (Xr l s n (x::d) j) j 4 q (by omega)).trans (show(WX ((Xr l s n (x::d) j)[j]'q))[4]?=MI (M3 l[j].srv)by rw[z];rfl));have f5:=(m.cellAt (j*7+5) (by omega)).trans ((ZA XL (Xr l s n (x::d) j) j 5 q (by omega)).trans (show(WX ((Xr l s n (x::d) j)[j]'q))[5]?=MI (MF ME l[j].ret)by rw[z];rfl));have f6:=(m.cellAt (j*7+6) (by omega)).trans ((ZA XL (Xr l s n (x::d) j) j 6 q (by omega)).trans (show(WX ((Xr l s n (x::d) j)[j]'q))[6]?=MI (MF ME l[j].due)by rw[z];rfl));have g0:=(m.cellAt (i*7) (by omega)).trans ((ZA XL (Xr l s n (x::d) j) i 0 o (by omega)).trans (show(WX ((Xr l s n (x::d) j)[i]'o))[0]?=MI (MF ME ((Xr l s n (x::d) j)[i]'o).slot)from rfl));have z0:=m.frozenAt (i*7);have g1:=(m.cellAt (i*7+1) (by omega)).trans ((ZA XL (Xr l s n (x::d) j) i 1 o (by omega)).trans (show(WX ((Xr l s n (x::d) j)[i]'o))[1]?=MI (MF ME ((Xr l s n (x::d) j)[i]'o).gen)from rfl));have z1:=m.frozenAt (i*7+1);have g2:=(m.cellAt (i*7+2) (by omega)).trans ((ZA XL (Xr l s n (x::d) j) i 2 o (by omega)).trans (show(WX ((Xr l s n (x::d) j)[i]'o))[2]?=MI (MF ME ((Xr l s n (x::d) j)[i]'o).key)from rfl));have z2:=m.frozenAt (i*7+2);have g3:=(m.cellAt (i*7+3) (by omega)).trans ((ZA XL (Xr l s n (x::d) j) i 3 o (by omega)).trans (show(WX ((Xr l s n (x::d) j)[i]'o))[3]?=MI (MF ME ((Xr l s n (x::d) j)[i]'o).be)from rfl));have z3:=m.frozenAt (i*7+3);have g4:=(m.cellAt (i*7+4) (by omega)).trans ((ZA XL (Xr l s n (x::d) j) i 4 o (by omega)).trans (show(WX ((Xr l s n (x::d) j)[i]'o))[4]?=MI (M3 ((Xr l s n (x::d) j)[i]'o).srv)from rfl));have z4:=m.frozenAt (i*7+4);have g5:=(m.cellAt (i*7+5) (by omega)).trans ((ZA XL (Xr l s n (x::d) j) i 5 o (by omega)).trans (show(WX ((Xr l s n (x::d) j)[i]'o))[5]?=MI (MF ME ((Xr l s n (x::d) j)[i]'o).ret)from rfl));have z5:=m.frozenAt (i*7+5);have g6:=(m.cellAt (i*7+6) (by omega)).trans ((ZA XL (Xr l s n (x::d) j) i 6 o (by omega)).trans (show(WX ((Xr l s n (x::d) j)[i]'o))[6]?=MI (MF ME ((Xr l s n (x::d) j)[i]'o).due)from rfl));have z6:=m.frozenAt (i*7+6);obtain⟨y,hy⟩:∃y,y=l[j]:=⟨_,rfl⟩;rw[<-hy]at f0 f1 f2 f3 f4 f5 f6;generalize ((Xr l s n (x::d) j)[i]'o)=od at g0 g1 g2 g3 g4 g5 g6;have A:=aqv m o y;have N:M6 (_/\_/\_/\_/\_):=⟨A,m,v,hy,u⟩;have f9:(j:Int)<(l.length:Int):=by omega
   have d7:(i:Int)<(l.length:Int):=by omega
   have e8:i<j:=by omega
   have f8:i<l.length:=by omega
   have h8:wr.heap.size≠gid:=by omega
   have J:M6 (_/\_):=⟨(NG (a:=⟨gid,0,MH⟩) (Ov wr (MP #[MF ME y.slot,MF ME y.gen,MF ME y.key,MF ME y.be,M3 y.srv,MF ME y.ret,MF ME y.due] 72) gid a7)).trans Y,(NG (a:=⟨gid,1,MH⟩) (Ov wr (MP #[MF ME y.slot,MF ME y.gen,MF ME y.key,MF ME y.be,M3 y.srv,MF ME y.ret,MF ME y.due] 72) gid a7)).trans U⟩;clear m v Y U b0 z hy q o u b5 A b4;cases hd:Y2 s n y
   ·go_wp2_with fail
    refine(ahc y s n gid _ J.out.1 J.out.2).mono ?_;rw[hd];rintro r w2 ⟨rfl,rfl⟩;go_wp2
    go_roundw
    case rel =>
     obtain⟨A,m,v,E,u⟩:=N.out;have b8:¬Y2 s n l[j]=true:=by rw[<-E,hd];decide
     obtain⟨K,H⟩:=ap8 (x:=x) (junk:=d) hlt b8;rw[u,<-E]at K;refine⟨j+1,d++[l[j]],by rw[H,Ns,u];simp,by simp,hlt,by rw[H,Ns,u];simp;omega,by simp,?_,?_⟩
     ·rw[<-E,K];exact(A.1.alloc _).alloc _
     ·exact((v.trans A.2).trans (OL _ _ _)).trans (OL _ _ _)
    case measure=>simp[intOf];omega
   ·go_wp2_with fail
    refine(ahc y s n gid _ J.out.1 J.out.2).mono ?_;rw[hd];rintro r w2 ⟨rfl,rfl⟩;go_wp2
    go_roundw
    case rel =>
     obtain⟨A,m,v,E,u⟩:=N.out;have d8:Y2 s n l[j]=true:=by rw[<-E];exact hd
     obtain⟨K,H⟩:=akM (junk:=x::d) hlt d8;refine⟨j+1,x::d++[l[j]],by rw[H,u],by simp,hlt,by rw[H,u];simp;omega,by simp,?_,?_⟩
     ·rw[K];exact(m.alloc _).alloc _
     ·exact(v.trans (OL _ _ _)).trans (OL _ _ _)
    case measure=>simp[intOf];omega
  ·obtain rfl:j=l.length:=by omega
   have h9:i<l.length:=by omega
   obtain⟨vs,f7⟩:=aqu (P:=MK) wr 40 72 0 #[MF ME 0,MF ME 0,MF ME 0,MF ME 0,M3 Nb,MF ME 0,MF ME 0] 7 rfl (by decide) (by decide) U3 ara g (i*7) (l.length-i) (c-i) (by omega) (fun t O=>by
    have h1:=m.cellAt (i*7+t) (by omega);rw[h1,MR (by rw[abx XL,b4];omega)];rfl) (fun t _=>m.frozenAt _)
   have Q:=aqj vs (i*7) wr (aqi m (i:=i) (by omega)) (MV _);have I:(rv WX (Xr l s n (x::d) l.length)).take (i*7)=rv WX (awZ l s n):=by
    have e2:awZ (l.take l.length) s n=awZ l s n:=by rw[NT]
    rw[e2]at u;rw[ahF XL];unfold Xr;rw[e2,OC,ZqA (by omega),<-u,NT]
   rw[I]at Q;have b6:(awZ l s n).length=i:=by rw[<-u,NT]
   have N:M6 (_/\_/\_):=⟨Q,v,b6⟩;have d7:(i:Int)<(l.length:Int):=by omega
   have e9:(i:Int)<=(c:Int):=by omega
   have d9:c≠i:=by omega
   clear Q v m u I b6 Y U;go_wp2;go_ret;obtain⟨r1,r2,r3⟩:=N.out;rw[r3];exact⟨rfl,r1.1,r2.trans r1.2⟩
section
variable {base:Nat}{w:MO}{g:Nat}{V:Vs}{G:Gt}
theorem alp(h:OR base w g V G)(hf:f∈G.fls)(hl:G.fls.length<=40):
  Ni MK 132 #[gP g,Ny #[MF ME f.slot,MF ME f.gen]] w fun r w'=>∃q c,r=MN (MG (MI ⟨q,0,MH⟩) (Yl G.fls f.slot f.gen).length c)/\w'.ownsRow w.heap.size 72 7 (MG (MI ⟨q,0,MH⟩) (Yl G.fls f.slot f.gen).length c) (Yl G.fls f.slot f.gen).length (rv WX (Yl G.fls f.slot f.gen))/\MQ w.heap.size w w':=by
 have C:0<G.fls.length:=Qj hf;obtain⟨bf,Q,_,R⟩:=h.bf C;obtain⟨W,d⟩:∃W,W=w.alloc (MP #[MF ME f.slot,MF ME f.gen] 70):=⟨_,rfl⟩;have u:MQ w.heap.size w W:=by rw[d];exact WQ w
 have B:W.heap[w.heap.size]?=MI (MP #[MF ME f.slot,MF ME f.gen] 70 (0,0)):=by rw[d];exact M1 _ _
 have z:W.heap.size=w.heap.size+1:=by rw[d];simp
 have I:=h.below u;have m:=I.GK;have J:=h.Gr;rw[Q]at m J;have U:=h.lt;have O:M6 _:=aoI ⟨bf,0,MH⟩ V.cf G.fls W m C (by omega);have A:∃t∈G.fls,Y2 f.slot f.gen t=true:=⟨f,hf,by simp[Y2]⟩;have H:M6 (_/\_/\_/\_):=⟨u,B,A,z⟩;clear h I m hf u B A z;go_enter Rp,Q6
 go_wp2_with fail
 rw[<-d];refine Nd O.out ?_;rintro r w1 ⟨q,c,rfl,o,e⟩;have x:=WO H.out.2.1 e;obtain⟨F,E,_,_,K⟩:=Xa x;have M:=(o.lt q rfl).1;have N:=H.out.2.2.2;have i:=H.out.1;have a:M6 (_/\_/\_):=⟨aoX W.heap.size q c G.fls f.slot f.gen w.heap.size w1 o F E (by omega) H.out.2.2.1,i.trans (e.mono i.size),(by omega:w.heap.size<=q)⟩;clear o e x F E K M N i
 go_wp2_with fail
 refine Nd a.out.1 ?_;rintro r w2 ⟨rfl,y,v⟩;have D:M6 (_/\_):=⟨y.mono (by rw[H.out.2.2.2];exact Ps _),a.out.2.1.grown v a.out.2.1.size (fun k hk=>by rw[<-NC hk];exact a.out.2.2)⟩;clear y v;go_wp2;go_ret;exact⟨q,c,rfl,D.out.1,D.out.2⟩
end
section
variable {base:Nat}{w:MO}{g:Nat}{V:Vs}{G:Gt}
abbrev ahk(f:Fl):Obj:=MP #[MF ME f.slot,MF ME f.gen,MF ME f.key,MF ME f.be,M3 f.srv,MF ME f.ret,MF ME f.due] 72
theorem adZ{q:Nat}(h:W.heap[q]?=MI (ahk f)):W.cell? ⟨q,0,MH⟩=MI (MF ME f.slot)/\W.cell? ⟨q,1,MH⟩=MI (MF ME f.gen)/\W.cell? ⟨q,2,MH⟩=MI (MF ME f.key)/\W.cell? ⟨q,3,MH⟩=MI (MF ME f.be)/\W.cell? ⟨q,4,MH⟩=MI (M3 f.srv)/\W.cell? ⟨q,5,MH⟩=MI (MF ME f.ret)/\W.cell? ⟨q,6,MH⟩=MI (MF ME f.due)/\q<W.heap.size :=
 ⟨by rw[MW W _ 0 _ _ (0,0) h];rfl,by rw[MW W _ 1 _ _ (0,0) h];rfl,by rw[MW W _ 2 _ _ (0,0) h];rfl,by rw[MW W _ 3 _ _ (0,0) h];rfl,by rw[MW W _ 4 _ _ (0,0) h];rfl,by rw[MW W _ 5 _ _ (0,0) h];rfl,by rw[MW W _ 6 _ _ (0,0) h];rfl,(ZAa.1 h).1⟩
theorem adY(h:OR base w g V G)(hbs:Bs G)(hf:f∈G.fls)(hl:G.out.length<=900000)(kind why:Int):
  Ni MK 90 #[gP g,ZS f,MF ME kind,MF ME why] w (aam base w g V (Yg G f kind why)):=by
 have d5:=(hbs.F9 hf).1;have a9:=hbs.Gb;obtain⟨m,x⟩:∃m,m=(ZQ G.tab f.slot f.gen).1:=⟨_,rfl⟩;have b4:(ZQ G.tab f.slot f.gen).2=0:=by rw[hbs.Hj hf]
 obtain⟨W,K⟩:∃W,W=w.alloc (ahk f):=⟨_,rfl⟩;have hB:MQ w.heap.size w W:=by rw[K];exact WQ w
 have v:W.heap[w.heap.size]?=MI (ahk f):=by rw[K];exact M1 _ _
 have o:=h.below hB;have d6:¬V.own g w.heap.size:=h.rest.new (MV _);have g9:w.heap.size<W.heap.size:=(ZAa.1 v).1;have i3:=h.lt;have i1:¬g=w.heap.size:=by omega
 have i0:¬w.heap.size=g:=by omega
 obtain⟨x0,x1,x2,x3,x4,x5,x6,_⟩:=adZ v;have g7:=o.Gs;have f7:=o.lt;have HD:M6 (∀W',MQ W.heap.size W W'->Ni MK 131 #[Ny #[MG V.pt G.tab.length V.ct],Ny #[MF ME f.slot,MF ME f.gen]] W' fun r w'=>∃p c,r=MN (Nv #[Ny #[MG p m.length c],MF ME 0])/\w'.cell? ⟨g,17,MH⟩=MI (MG V.pt G.tab.length V.ct)/\w'.frozen? ⟨g,17,MH⟩=Nb/\g<w'.heap.size/\(w'.cell? ⟨w.heap.size,0,MH⟩=MI (MF ME f.slot)/\w'.cell? ⟨w.heap.size,1,MH⟩=MI (MF ME f.gen)) /\
   M6 (OR base (w'.setCell ⟨g,17,MH⟩ (MG p m.length c)) g {V with pt:=p,ct:=c} {G with tab:=m}/\WV V {V with pt:=p,ct:=c} g W (w'.setCell ⟨g,17,MH⟩ (MG p m.length c)))):=by
  refine fun W' hW'=>(auD (MG V.pt G.tab.length V.ct) G.tab f.slot f.gen W' (o.rest.tab.now.below hW')).mono ?_
  rw[<-x,b4];rintro r w' ⟨p,c,rfl,ho,u⟩;have E:MQ W.heap.size W w':=hW'.trans (u.mono hW'.size);have i:=o.below E;have M:=adZ (WO v E);exact⟨p,c,rfl,i.Gs,i.fz 17,i.lt,⟨M.1,M.2.1⟩,o.Ix E (ho.mono hW'.size),((WV.F5 (V:=V) (g:=g) E).F4 17 _).Gp fun _ h=>h⟩
 have H:M6 (_/\_/\_/\_/\_/\_/\_):=⟨h,hB,v,d6,hf,x,hl⟩;have HX:M6 (_/\_):=⟨d5,a9⟩;clear h hbs hf d5 a9 hl x b4 hB v o d6 x2 x3 x4 x5 x6;go_enter Tryz.func90,Tryz.ntmps90
 go_wp2_with fail
 rw[<-K];clear K
 go_region_with (first|(go_at_call 131;refine(HD.out _ (by first|exact(MY _ _).drew|exact Below.refl _ _)).mono ?_;rintro r w3 ⟨p,c,rfl,f9,h9,d9,⟨y0,y1⟩,i⟩))
 all_goals
  obtain⟨I,Z⟩:∃I,I=w3.setCell ⟨g,17,MH⟩ (MG p m.length c):=⟨_,rfl⟩;have C:=i.out.1;have z:=i.out.2;rw[<-Z]at C z;have Q:=z.Gf H.out.2.2.1 H.out.2.2.2.1;have d2:¬Vs.own {V with pt:=p,ct:=c} g w.heap.size:=H.out.2.2.2.1;have b5:=alp C (f:=f) H.out.2.2.2.2.1 HX.out.2;obtain⟨z0,z1,z2,z3,_,_,_,g8⟩:=adZ Q;have d:M6 (_/\_/\_/\_/\_):=⟨b5,C,(WV.F5 (V:=V) (g:=g) H.out.2.1).F0 z,Q,d2⟩;clear i C z Q b5 f9 h9 d9 y0 y1 x0 x1 g7 f7 g9 d2;rw[<-Z];clear Z
  go_wp2_with fail
  refine Nd d.out.1 ?_;rintro r w5 ⟨q,c5,rfl,U,a⟩;have A:=d.out.2.1.below a;have e9:=A.Gr;have h8:=A.fz 18;have d8:=A.lt;obtain⟨w6,y⟩:∃w6,w6=w5.setCell ⟨g,18,MH⟩ (MG (MI ⟨q,0,MH⟩) (Yl G.fls f.slot f.gen).length c5):=⟨_,rfl⟩;have R:=(U.lt q rfl).1;have B:=d.out.2.1.IU (p:=MI ⟨q,0,MH⟩) (c:=c5) (m:=Yl G.fls f.slot f.gen) a.size (fun b u _=>a.block b u) (U.mono d.out.2.1.base) (fun b e=>by cases e;exact NF R);rw[<-y]at B;have F:WV {V with pt:=p,ct:=c} {V with pt:=p,ct:=c,pf:=MI ⟨q,0,MH⟩,cf:=c5} g I w6:=by
   rw[y];have M:WV {V with pt:=p,ct:=c} {V with pt:=p,ct:=c,pf:=MI ⟨q,0,MH⟩,cf:=c5} g I w5:=by
    refine⟨a.os,a.tape,a.output,a.size,fun b u _=>a.block b u,fun b e=>?_⟩;rcases e with e|e|e|e
    ·exact Nt (Nt e)
    ·exact Nt (NF (Nt e))
    ·cases e;exact NF R
    ·exact Nt (NF (NF (NF e)))
   exact M.F4 18 _
  have d4:=F.Gf d.out.2.2.2.1 d.out.2.2.2.2;have a7:=F.Ik (ZAa.1 d.out.2.2.2.1).1 d.out.2.2.2.2;obtain⟨v0,v1,v2,v3,_,_,_,f8⟩:=adZ (WO d.out.2.2.2.1 a);have t:M6 (_/\_/\_/\_/\_):=⟨akg B HX.out.1,d.out.2.2.1.F0 F,d4,a7,B⟩;clear B F d4 a7 U a A z0 z1 z2 z3 g8 R
  go_wp2_with fail
  rw[<-y];clear y e9 h8 d8;refine Nd t.out.1 ?_;rintro r w7 ⟨rfl,V7,O,b8,D⟩;have B7:M6 (V7.bh=V.bh):=b8.2.2;clear b8;have N:=D.Gf t.out.2.2.1 t.out.2.2.2.1;have b2:=D.Ik (ZAa.1 t.out.2.2.1).1 t.out.2.2.2.1;obtain⟨k0,k1,k2,k3,_,_,_,e8⟩:=adZ N;have b9:(aeG {G with tab:=m,fls:=Yl G.fls f.slot f.gen} f.slot).out.length<=1000000:=by show G.out.length<=1000000;have:=H.out.2.2.2.2.2.2;omega
  have J:M6 (_/\_/\_/\_/\_):=⟨aeR O b9 ⟨kind,f.slot,f.gen,f.be,0,0,why⟩,t.out.2.1.F0 D,N,b2,O⟩;clear O D N b2 v0 v1 v2 v3 f8 b9
  go_wp2_with fail
  refine Nd J.out.1 ?_;rintro r w8 ⟨rfl,V8,b0,b7,Y⟩;have B8:M6 (V8.bh=V.bh):=b7.2.2.trans B7.out;clear b7;have d7:=Y.Gf J.out.2.2.1 J.out.2.2.2.1;obtain⟨j0,j1,j2,j3,_,_,_,i2⟩:=adZ d7;have a8:(ZM (aeG {G with tab:=m,fls:=Yl G.fls f.slot f.gen} f.slot) ⟨kind,f.slot,f.gen,f.be,0,0,why⟩).out.length<=1000000:=by show(G.out++[_]).length<=1000000;have:=H.out.2.2.2.2.2.2;simp;omega
  have H8:M6 (_/\_):=⟨ahg b0 a8 f.be,J.out.2.1.F0 Y⟩;clear b0 Y d7 k0 k1 k2 k3 e8 a8
  go_wp2_with fail
  refine Nd H8.out.1 ?_;rintro r w9 ⟨rfl,V9,b6,d3,b3⟩;have H9:M6 (_/\_/\_):=⟨b6,H8.out.2.F0 b3,d3.2.2.trans B8.out⟩;clear b6 b3 d3;go_wp2
  go_end0
  have x:=H.out.2.2.2.2.2.1;subst x;exact⟨rfl,V9,H9.out.1,H9.out.2.2,H9.out.2.1⟩
end
end
section
variable {b key:Int}{i k:Nat}
section
variable {base:Nat}{w:MO}{g:Nat}{V:Vs}{G:Gt}
theorem OR.G5(h:OR base w g V G)(hi:i<12):
  ∃m x,V.ms[i]?=MI m/\G.hea[i]?=MI x/\G.hea.getD i XM=x/\w.cell? ⟨V.bh,i*4,MH⟩=MI (MG m.1 x.marks.length m.2)/\w.cell? ⟨V.bh,i*4+1,MH⟩=MI (M3 x.out)/\w.cell? ⟨V.bh,i*4+2,MH⟩=MI (MF ME x.till)/\w.cell? ⟨V.bh,i*4+3,MH⟩=MI (MF ME x.times)/\(∀j,w.frozen? ⟨V.bh,j,MH⟩=Nb)/\V.bh<w.heap.size:=by
 obtain⟨m,x,f,d,e,o⟩:=akN h.rest hi;obtain⟨n,c⟩:=ZAb.1 e;have l:(12:Nat)=(V.ms.zip G.hea).length:=by rw[Qn,h.rest.msl,h.rest.hel];rfl
 have a:=fun j (hj:j<4)=>abU aci h.rest.hea l n hj
 simp only[c]at a;exact⟨m,x,f,d,o,(a 0 (by omega)).trans rfl,(a 1 (by omega)).trans rfl,(a 2 (by omega)).trans rfl,(a 3 (by omega)).trans rfl,fun j=>h.rest.hea.frozenAt j,(h.rest.hea.lt V.bh rfl).2⟩
theorem OR.G8(h:OR base w g V G):12<=V.ch/\V.ch<=9223372036854775807:=by
 rcases h.rest.hea.2 with⟨a,_⟩|⟨f,j,e,a,_,_,d,c,_⟩
 ·cases a
 ·cases a
  unfold NE at c;exact⟨d,c⟩
theorem aq4(h:OR base w g V G)(hbs:Bs G){l:awV}(hl:l∈G.liv) :
  Ni MK 169 #[gP g,abR l] w fun r w'=>r=MN (MF ME (abV G l))/\MQ w.heap.size w w':=by
 obtain⟨F,p,a,c,q,u⟩:=l;have T:=(hbs.lf hl).1;have B:=hbs.since _ hl;have L:=hbs.now;have n:=hbs.cfg.2.2.2.2.1;obtain⟨⟨f,o⟩,⟨C,y⟩,⟨z,A⟩,_⟩:=T;have f:0<=F:=f;have o:F<=11:=o;obtain⟨k,rfl⟩:=NL f;obtain⟨W,d⟩:∃W,W=w.alloc (YQ ((k:Int),p,a,c,q,u)):=⟨_,rfl⟩;have s:MQ w.heap.size w W:=by rw[d];exact WQ w
 have j:W.heap[w.heap.size]?=MI (YQ ((k:Int),p,a,c,q,u)):=by rw[d];exact M1 _ _
 have e:=h.below s;obtain⟨m,x,_,_,K,_,t,_,_,_,O⟩:=e.G5 (i:=k) (by omega);have S:W.cell? ⟨w.heap.size,0,MH⟩=MI (MF ME (k:Int)):=by rw[MW W _ 0 _ _ (0,0) j];rfl
 have J:W.cell? ⟨w.heap.size,2,MH⟩=MI (MF ME a):=by rw[MW W _ 2 _ _ (0,0) j];rfl
 have I:W.cell? ⟨w.heap.size,3,MH⟩=MI (MF ME c):=by rw[MW W _ 3 _ _ (0,0) j];rfl
 have N:=e.GI;have D:=e.Gm;have c4:=e.c4;have P:=e.lt;have U:=h.G8;have Y:(k:Int)<12:=by omega
 have a0:(0:Int)<=(k:Int):=by omega
 obtain⟨E,M⟩:∃E,E=G.now:=⟨_,rfl⟩;have v:abV G ((k:Int),p,a,c,q,u)=if x.out=Nw then 0 else aw1 a (G.now-c) G.cfg.warm:=by
  unfold abV;simp only[NR];rw[K]
 have Q:M6 (∀W':MO,Ni MK 218 #[MF ME a,MF ME c,MF ME G.now,MF ME G.cfg.warm] W' fun r w'=>r=MN (Nv #[MF ME (aw1 a (G.now-c) G.cfg.warm),MF ME 0])/\w'=W'):=fun W' =>
  auu a c G.now G.cfg.warm W' C y ⟨z,A,n.1,n.2⟩ B (by omega)
 have H:M6 (_/\_):=⟨s,v⟩;clear h hbs hl B L n f o C y z A s j e K v M;cases ho:x.out
 ·rw[H.out.2,ho,Nf (by decide)]
  rw[ho]at t;go_enter UM,UA
  go_wp2_with fail
  rw[<-d];clear d
  go_quiet (fail)
  have z2:(W.drewN nq).cell? ⟨w.heap.size,2,MH⟩=MI (MF ME a):=J;have z3:(W.drewN nq).cell? ⟨w.heap.size,3,MH⟩=MI (MF ME c):=I;have Z:(W.drewN nq).cell? ⟨g,16,MH⟩=MI (MF ME G.now):=D;have z4:(W.drewN nq).cell? ⟨g,4,MH⟩=MI (MF ME G.cfg.warm):=c4;have R:M6 _:=ZE H.out.1 nq;generalize W.drewN nq=W1 at *;clear S J I D c4 N t P O
  go_wp2_with fail
  go_quiet ((go_at_call 218;exact Qe ((Q.out _).mono fun r w' h=>⟨h.1,0,h.2⟩)))
  go_wp2;go_ret;exact⟨rfl,ZE R.out _⟩
 ·rw[H.out.2,ho,Nh rfl]
  rw[ho]at t;go_enter UM,UA
  go_wp2_with fail
  rw[<-d];clear d
  go_quiet (fail)
  go_wp2;go_ret;exact⟨rfl,ZE H.out.1 _⟩
end
section
variable {base:Nat}{w:MO}{g:Nat}{V:Vs}{G:Gt}
theorem aoj(L:List awV)(x:awV):abN (L++[x])=abN L+if x.2.1=2 then 1 else 0:=by
 unfold abN;rw[Qi]
 by_cases h:x.2.1=2 <;> simp[h]
theorem aqg(L:List awV)(x:awV)(H:List He):abf (L++[x]) H=abf L H+if x.2.1=2/\(H.getD x.1.toNat XM).out=Nw then 1 else 0:=by
 unfold abf;rw[Qi,List.countP_singleton];generalize H.getD x.1.toNat XM=y
 by_cases h:x.2.1=2
 ·cases h2:y.out <;> simp[h]
 ·have:(x.2.1 == 2)=false:=by rw[Oh];exact h
  simp[h,this]
theorem aoi(L:List awV):abN L<=L.length:=List.countP_le_length
theorem aqf(L:List awV)(H:List He):abf L H<=L.length:=List.countP_le_length
theorem ap5(h:OR base w g V G)(hbs:Bs G)(b:Int) :
  Ni MK 183 #[gP g,MF ME b] w fun r w'=>r=MN (M3 (abS G b))/\MQ w.heap.size w w':=by
 have b6:=hbs.book.1.1;have a8:=h.Gn;have f0:=h.lt;have e8:=h.G8;obtain⟨al,d4,b0,b7,a7,a4⟩:=adt.F6 h.rest.book.now.1;injection b0 with el1 _ el3;unfold NE at a7;rw[el1,el3]at a8;obtain⟨N,Z⟩:∃N,N=abS G b:=⟨_,rfl⟩;rw[<-Z];have H:M6 (_/\_/\_):=⟨h,hbs,a4⟩;have HN:M6 _:=Z;clear h hbs a4 el1 el3 Z;go_enter Ws,Wg;go_wp2
 go_loopw [5,6,18] (fun s5 s6 t wr=>∃k:Nat,s5=MF ME (abN (G.liv.take k):Nat)/\s6=MF ME (abf (G.liv.take k) G.hea:Nat)/\t=MF ME k/\k<=G.liv.length/\MQ w.heap.size w wr) (fun _ _ t _=>G.liv.length-(intOf t).toNat)
 case atStart=>exact⟨0,rfl,rfl,rfl,Nx _,MY _ _⟩
 case round =>
  obtain⟨k,rfl,rfl,rfl,hk,a⟩:=hrel
  by_cases hlt:k<G.liv.length
  ·obtain⟨s,v,a9,d,I,B,C,E,F,J⟩:=H.out.2.2 k hlt
   subst a9;have j:=(H.out.2.1.lf (Nk hlt)).1.1;have P:G.liv.take (k+1)=G.liv.take k++[G.liv[k]]:=M9 hlt;have f:=aoj (G.liv.take k) G.liv[k];have e:=aqg (G.liv.take k) G.liv[k] G.hea;rw[<-P]at f e;have a5:=aoi (G.liv.take k);have a6:=aqf (G.liv.take k) G.hea;rw[NH]at a5 a6;obtain⟨⟨x1,x2,S,T,U,Y⟩,M⟩:∃x,x=G.liv[k]:=⟨_,rfl⟩;rw[<-M]at I B C E F J j f e;have j:0<=x1/\x1<=11:=j;obtain⟨n,rfl⟩:=NL j.1;have b4:(n:Int)<12:=by omega
   have d2:(0:Int)<=(n:Int):=by omega
   obtain⟨D,L⟩:∃D,D=abN (G.liv.take k):=⟨_,rfl⟩;obtain⟨l,R⟩:∃l,l=abf (G.liv.take k) G.hea:=⟨_,rfl⟩;rw[<-L]at f a5⊢;rw[<-R]at e a6⊢;have b3:IntKind.i64.wrap ((D:Int)+1)=(D:Int)+1:=by rw[Ow];omega
   have b5:IntKind.i64.wrap ((l:Int)+1)=(l:Int)+1:=by rw[Ow];omega
   have e0:=(a.cell (p:=⟨s,v+k*6,MH⟩) d).trans I;have e1:=(a.cell (p:=⟨s,v+k*6+1,MH⟩) d).trans B;have e2:=(a.cell (p:=⟨s,v+k*6+2,MH⟩) d).trans C;have e3:=(a.cell (p:=⟨s,v+k*6+3,MH⟩) d).trans E;have e4:=(a.cell (p:=⟨s,v+k*6+4,MH⟩) d).trans F;have e5:=(a.cell (p:=⟨s,v+k*6+5,MH⟩) d).trans J;have d0:s<wr.heap.size:=M8 d a.size;have d3:(k:Int)<(G.liv.length:Int):=by omega
   by_cases h2:x2=2
   ·subst h2
    obtain⟨q,u⟩:∃q,q=wr.alloc (YQ ((n:Int),2,S,T,U,Y)):=⟨_,rfl⟩;have y:MQ wr.heap.size wr q:=by rw[u];exact WQ wr
    have Q:q.heap[wr.heap.size]?=MI (YQ ((n:Int),2,S,T,U,Y)):=by rw[u];exact M1 _ _
    have A:=(H.out.1.below a).below y;obtain⟨m,x,_,_,f4,_,q1,_,_,_,d7⟩:=A.G5 (i:=n) (by omega);have y0:q.cell? ⟨wr.heap.size,0,MH⟩=MI (MF ME (n:Int)):=by rw[MW q _ 0 _ _ (0,0) Q];rfl
    have e9:=A.GI;have b9:=A.lt;have d5:wr.heap.size<q.heap.size:=(ZAa.1 Q).1;have a0:(G.hea.getD ((n:Int),(2:Int),S,T,U,Y).1.toNat XM).out=x.out:=by rw[<-f4];rfl
    rw[a0]at e;cases ho:x.out
    ·rw[ho]at q1
     have c:M6 (_/\_/\_):=⟨f,(by rw[e,ho,Nf (by simp)];rfl:abf (G.liv.take (k+1)) G.hea=l),a.trans (y.mono a.size)⟩;clear a y Q A f4 a0 f e P M I B C E F J j L R d
     go_wp2_with fail
     rw[<-u];clear u
     go_quiet (fail)
     go_wp2
     go_roundw
     case rel=>exact⟨k+1,by rw[c.out.1];rfl,by rw[c.out.2.1],by simp,hlt,ZE c.out.2.2 _⟩
     case measure=>simp[intOf];omega
    ·rw[ho]at q1
     have c:M6 (_/\_/\_):=⟨f,(by rw[e,ho,Nh ⟨rfl,rfl⟩]:abf (G.liv.take (k+1)) G.hea=l+1),a.trans (y.mono a.size)⟩;clear a y Q A f4 a0 f e P M I B C E F J j L R d
     go_wp2_with fail
     rw[<-u];clear u
     go_quiet (fail)
     go_wp2
     go_roundw
     case rel=>exact⟨k+1,by rw[c.out.1];rfl,by rw[c.out.2.1];rfl,by simp,hlt,ZE c.out.2.2 _⟩
     case measure=>simp[intOf];omega
   ·have d8:(x2 != 2)=true:=by simpa using h2
    have c:M6 (_/\_/\_):=⟨(by rw[f,Nf h2];rfl:abN (G.liv.take (k+1))=D),(by rw[e,Nf (fun h=>h2 h.1)];rfl:abf (G.liv.take (k+1)) G.hea=l),a.trans ((WQ wr (o:=YQ ((n:Int),x2,S,T,U,Y))).mono a.size)⟩;clear a f e P M I B C E F J j L R d;go_wp2
    go_roundw
    case rel=>exact⟨k+1,by rw[c.out.1],by rw[c.out.2.1],by simp,hlt,c.out.2.2⟩
    case measure=>simp[intOf];omega
  ·obtain rfl:k=G.liv.length:=by omega
   rw[NT];have b8:¬((G.liv.length:Int)<(G.liv.length:Int)):=by omega
   obtain⟨O,hO⟩:∃O,O=acP (abf G.liv G.hea:Int) (abN G.liv:Int) G.cfg.most:=⟨_,rfl⟩;have HA:M6 (∀X:MO,Ni MK 227 #[MF ME (abf G.liv G.hea:Int),MF ME (abN G.liv:Int),MF ME G.cfg.most] X fun r w'=>r=MN (Nv #[M3 O.1,MF ME O.2])/\w'=X):=by
    rw[hO];exact fun X=>arw _ _ _ X
   have K:=H.out.1.below a;have d9:=K.c9;have b2:=K.lt;obtain⟨x,hx⟩:∃x,x=WS G.liv b:=⟨_,rfl⟩;have z:M6 (_/\_):=⟨afR K b,a⟩;rw[<-hx]at z;have HE:M6 (N=(O.1 && (x.2.1 == 2))):=by show N=_;rw[HN.out];unfold abS;rw[<-hO,hx]
   clear K hO hx;have d1:∀X:MO,(Instr.field 186 (abR x) 1).run MK X=.ok (MF ME x.2.1) X:=fun X=>by kernel_rfl
   cases hO1:O.1
   ·go_wp2_with fail
    refine(HA.out _).mono ?_;rw[hO1];rintro r w3 ⟨rfl,rfl⟩;go_wp2;go_ret;exact⟨by rw[HE.out,hO1];rfl,z.out.2⟩
   ·go_wp2_with fail
    refine(HA.out _).mono ?_;rw[hO1];rintro r w3 ⟨rfl,rfl⟩
    go_wp2_with fail
    refine Nd z.out.1 ?_;rintro r w4 ⟨rfl,a3⟩;have HB:M6 _:=z.out.2.trans (a3.mono z.out.2.size);clear a3;go_wp2;go_ret;exact⟨by rw[HE.out,hO1];rfl,HB.out⟩
abbrev abQ(p:Option Oc)(c:Nat)(x:He):Value:=Ny #[MG p x.marks.length c,M3 x.out,MF ME x.till,MF ME x.times]
theorem OR.Hz(h:OR base w g V G){w':MO}(hb:MQ w.heap.size w w')(i:Nat)(a b c d:M7)(ms:List Mk) :
  WV V {V with ms:=ms} g w ((((w'.setCell ⟨V.bh,i*4,MH⟩ a).setCell ⟨V.bh,i*4+1,MH⟩ b).setCell ⟨V.bh,i*4+2,MH⟩ c).setCell ⟨V.bh,i*4+3,MH⟩ d):=by
 refine⟨hb.os,hb.tape,hb.output,by simpa using hb.size,fun k hk hn=>?_,fun _ h=>Nt h⟩;have f:k≠V.bh:=fun e=>hn (NF (Nt e))
 rw[MU _ _ _ _ f,MU _ _ _ _ f,MU _ _ _ _ f,MU _ _ _ _ f];exact hb.block k hk
theorem akO(h:OR base w g V G)(hbs:Bs G)(hb:0<=b/\b<12)(fl:Bool):
  Ni MK 133 #[gP g,MF ME b,M3 fl] w (aaa base w g V (Yh G b fl)):=by
 obtain⟨k,rfl⟩:=NL hb.1;have I:k<12:=by omega
 obtain⟨m,x,L,A,M,q0,q1,U,T,J,n⟩:=h.G5 I;have C:=h.rest.marks k m x L A;have E:=hbs.hea x (Nu A);have S:x.marks.length<=16:=by have:=E.1;have:=hbs.Gx.1.2;omega
 obtain⟨y,v⟩:∃y,y=afT G (k:Int) fl:=⟨_,rfl⟩;have u:y=afO (Zt G.cfg.wn G.cfg.wf G.cfg.wh x.marks x.out x.till x.times fl G.now (abS G k)).1:=by
  rw[v];unfold afT;rw[NR,M]
 have B:Yh G (k:Int) fl={G with hea:=G.hea.set k y}:=by unfold Yh;rw[NR,v]
 rw[B];have d0:=h.GI;have b5:=h.lt;have b8:=h.G8;have b4:¬g=V.bh:=fun e=>h.rest.hg e.symm
 have a0:¬V.bh=g:=h.rest.hg;have a6:(k:Int)<12:=by omega
 have b0:(0:Int)<=(k:Int):=by omega
 have a9:=h.GS;have b2:=h.GU;have a7:=h.GO;have b9:=h.Gm;have q:∀ {X:MO},OR base X g V G->X.cell? ⟨g,13,MH⟩=MI (MF ME G.cfg.wn)/\X.cell? ⟨g,14,MH⟩=MI (MF ME G.cfg.wf)/\X.cell? ⟨g,15,MH⟩=MI (MF ME G.cfg.wh)/\X.cell? ⟨g,16,MH⟩=MI (MF ME G.now):=fun {X} hX=>⟨hX.GS,hX.GU,hX.GO,hX.Gm⟩
 have s:∀ {X:MO},MQ w.heap.size w X->X.cell? ⟨V.bh,k*4,MH⟩=MI (MG m.1 x.marks.length m.2)/\X.cell? ⟨V.bh,k*4+1,MH⟩=MI (M3 x.out)/\X.cell? ⟨V.bh,k*4+2,MH⟩=MI (MF ME x.till)/\X.cell? ⟨V.bh,k*4+3,MH⟩=MI (MF ME x.times)/\(∀j,X.frozen? ⟨V.bh,j,MH⟩=Nb)/\V.bh<X.heap.size:=fun {X} hX =>
  ⟨(hX.cell n).trans q0,(hX.cell n).trans q1,(hX.cell n).trans U,(hX.cell n).trans T,fun j=>(OM (a:=⟨V.bh,j,MH⟩) (hX.block V.bh n)).trans (J j),M8 n hX.size⟩
 have HM:M6 (∀X,MQ w.heap.size w X->Ni MK 183 #[gP g,MF ME (k:Int)] X fun r d=>r=MN (M3 (abS G k))/\(d.cell? ⟨g,13,MH⟩=MI (MF ME G.cfg.wn)/\d.cell? ⟨g,14,MH⟩=MI (MF ME G.cfg.wf)/\d.cell? ⟨g,15,MH⟩=MI (MF ME G.cfg.wh)/\d.cell? ⟨g,16,MH⟩=MI (MF ME G.now))/\(d.cell? ⟨V.bh,k*4,MH⟩=MI (MG m.1 x.marks.length m.2)/\d.cell? ⟨V.bh,k*4+1,MH⟩=MI (M3 x.out)/\d.cell? ⟨V.bh,k*4+2,MH⟩=MI (MF ME x.till)/\d.cell? ⟨V.bh,k*4+3,MH⟩=MI (MF ME x.times))/\M6 (MQ w.heap.size w d)):=by
  refine fun X hX=>(ap5 (h.below hX) hbs (k:Int)).mono ?_
  rintro r d ⟨rfl,t⟩;have l:=hX.trans (t.mono hX.size);have f:=s l;exact⟨rfl,q (h.below l),⟨f.1,f.2.1,f.2.2.1,f.2.2.2.1⟩,l⟩
 have Y:M6 (∀X,MQ w.heap.size w X->Ni MK 182 #[Ny #[MF ME G.cfg.wn,MF ME G.cfg.wf,MF ME G.cfg.wh],abQ m.1 m.2 x,M3 fl,MF ME G.now,M3 (abS G k)] X fun r d=>∃p c H F,r=MN (Nv #[abQ p c y,M3 H,MF ME F])/\(d.cell? ⟨g,13,MH⟩=MI (MF ME G.cfg.wn)/\d.cell? ⟨g,14,MH⟩=MI (MF ME G.cfg.wf)/\d.cell? ⟨g,15,MH⟩=MI (MF ME G.cfg.wh)/\d.cell? ⟨g,16,MH⟩=MI (MF ME G.now)) /\
   (((((d.setCell ⟨V.bh,k*4,MH⟩ (MG p y.marks.length c)).setCell ⟨V.bh,k*4+1,MH⟩ (M3 y.out)).setCell ⟨V.bh,k*4+2,MH⟩ (MF ME y.till)).setCell ⟨V.bh,k*4+3,MH⟩ (MF ME y.times)).cell? ⟨g,13,MH⟩=MI (MF ME G.cfg.wn)/\((((d.setCell ⟨V.bh,k*4,MH⟩ (MG p y.marks.length c)).setCell ⟨V.bh,k*4+1,MH⟩ (M3 y.out)).setCell ⟨V.bh,k*4+2,MH⟩ (MF ME y.till)).setCell ⟨V.bh,k*4+3,MH⟩ (MF ME y.times)).cell? ⟨g,14,MH⟩=MI (MF ME G.cfg.wf)/\((((d.setCell ⟨V.bh,k*4,MH⟩ (MG p y.marks.length c)).setCell ⟨V.bh,k*4+1,MH⟩ (M3 y.out)).setCell ⟨V.bh,k*4+2,MH⟩ (MF ME y.till)).setCell ⟨V.bh,k*4+3,MH⟩ (MF ME y.times)).cell? ⟨g,15,MH⟩=MI (MF ME G.cfg.wh)/\((((d.setCell ⟨V.bh,k*4,MH⟩ (MG p y.marks.length c)).setCell ⟨V.bh,k*4+1,MH⟩ (M3 y.out)).setCell ⟨V.bh,k*4+2,MH⟩ (MF ME y.till)).setCell ⟨V.bh,k*4+3,MH⟩ (MF ME y.times)).cell? ⟨g,16,MH⟩=MI (MF ME G.now)) /\
   (d.cell? ⟨V.bh,k*4,MH⟩=MI (MG m.1 x.marks.length m.2)/\d.cell? ⟨V.bh,k*4+1,MH⟩=MI (M3 x.out)/\d.cell? ⟨V.bh,k*4+2,MH⟩=MI (MF ME x.till)/\d.cell? ⟨V.bh,k*4+3,MH⟩=MI (MF ME x.times)/\d.frozen? ⟨V.bh,k*4,MH⟩=Nb/\d.frozen? ⟨V.bh,k*4+1,MH⟩=Nb/\d.frozen? ⟨V.bh,k*4+2,MH⟩=Nb/\d.frozen? ⟨V.bh,k*4+3,MH⟩=Nb/\V.bh<d.heap.size) /\
   M6 (OR base ((((d.setCell ⟨V.bh,k*4,MH⟩ (MG p y.marks.length c)).setCell ⟨V.bh,k*4+1,MH⟩ (M3 y.out)).setCell ⟨V.bh,k*4+2,MH⟩ (MF ME y.till)).setCell ⟨V.bh,k*4+3,MH⟩ (MF ME y.times)) g {V with ms:=V.ms.set k (p,c)} {G with hea:=G.hea.set k y}/\WV V {V with ms:=V.ms.set k (p,c)} g w ((((d.setCell ⟨V.bh,k*4,MH⟩ (MG p y.marks.length c)).setCell ⟨V.bh,k*4+1,MH⟩ (M3 y.out)).setCell ⟨V.bh,k*4+2,MH⟩ (MF ME y.till)).setCell ⟨V.bh,k*4+3,MH⟩ (MF ME y.times)))):=by
  refine fun X hX=>(arI G.cfg.wn G.cfg.wf G.cfg.wh (MG m.1 x.marks.length m.2) x.marks x.out x.till x.times fl G.now (abS G k) X (C.below hX).now (by omega)).mono ?_
  rintro r d ⟨p,c,rfl,O,N,t⟩;have l:=hX.trans (t.mono hX.size);have f:=s l;have D:=h.below l;have R:XG (V.off base g) d fun Z=>Yo Z (MG p y.marks.length c) y.marks:=by
   rw[u];exact abt O (fun z e=>h.rest.GF (Nm hX.size (N z (by rw[XV];exact e))))
  have o:=D.Ir I R;refine⟨p,c,(Zt G.cfg.wn G.cfg.wf G.cfg.wh x.marks x.out x.till x.times fl G.now (abS G k)).2.1,(Zt G.cfg.wn G.cfg.wf G.cfg.wh x.marks x.out x.till x.times fl G.now (abS G k)).2.2,by rw[u];rfl,q D,⟨o.GS,o.GU,o.GO,o.Gm⟩,⟨f.1,f.2.1,f.2.2.1,f.2.2.2.1,f.2.2.2.2.1 _,f.2.2.2.2.1 _,f.2.2.2.2.1 _,f.2.2.2.2.1 _,f.2.2.2.2.2⟩,o,h.Hz l k _ _ _ _ _⟩
 have P:=q h;clear h hbs C E S v u B L A M q s J hb;go_enter Tryz.func133,Tryz.ntmps133
 go_wp2_with fail
 obtain⟨b6,a4,a5,d1⟩:=P
 go_region_with (first|(go_at_call 183;refine(HM.out _ (by first|exact(MY _ _).drew|exact Below.refl _ _)).mono ?_;rintro r w4 ⟨rfl,⟨a8,a3,d2,b7⟩,⟨t0,t1,t2,t3⟩,Q⟩)|(go_at_call 182;refine(Y.out _ Q.out).mono ?_;rintro r w5 ⟨p,c,H,F,rfl,_,_,⟨u0,u1,u2,u3,v0,v1,v2,v3,b3⟩,K⟩))
 all_goals
  go_wp2
  go_end0
  exact⟨rfl,_,K.out.1,⟨rfl,rfl,rfl⟩,K.out.2⟩
end
section
variable {base:Nat}{w:MO}{g:Nat}{V:Vs}{G:Gt}
abbrev adU(X:MO)(bf i:Nat)(f:Fl):Prop:=X.cell? ⟨bf,i*7,MH⟩=MI (MF ME f.slot)/\X.cell? ⟨bf,i*7+1,MH⟩=MI (MF ME f.gen)/\X.cell? ⟨bf,i*7+2,MH⟩=MI (MF ME f.key)/\X.cell? ⟨bf,i*7+3,MH⟩=MI (MF ME f.be)/\X.cell? ⟨bf,i*7+4,MH⟩=MI (M3 f.srv)/\X.cell? ⟨bf,i*7+5,MH⟩=MI (MF ME f.ret)/\X.cell? ⟨bf,i*7+6,MH⟩=MI (MF ME f.due)
theorem OR.Gw(h:OR base w g V G){bf:Nat}(hp:V.pf=MI ⟨bf,0,MH⟩)(hi:i<G.fls.length):adU w bf i (Xs G i):=by
 rw[XA hi];exact h.Gl hp hi
theorem akq{G1 G2:Gt}{y:Fl}(h:G2=Y4 G1 i y)(hi:i<G1.fls.length):∃hi2:i<G2.fls.length,G2.fls[i]=y:=by
 subst h;exact⟨by show i<(G1.fls.set i y).length;rw[NA];exact hi,NW (h:=by rw[NA];exact hi)⟩
theorem akp{G1 G:Gt}{f:Fl}(h:G1.fls=G.fls)(hi:i<G.fls.length)(hf:f=Xs G i):∃hi1:i<G1.fls.length,G1.fls[i]=f:=by
 have hi1:i<G1.fls.length:=by rw[h];exact hi
 refine⟨hi1,?_⟩;rw[<-XA hi1,hf];unfold Xs;rw[h]
theorem ahP(i:Nat)(n:Int):(YW G i n).fls.length=G.fls.length:=by
 show(G.fls.set i _).length=_;rw[NA]
theorem ao4(h:OR base w g V G)(hbs:Bs G)(hw:G.wnow=G.now)(hl:G.out.length<=900000)(hi:i<G.fls.length){bf:Nat}(hp:V.pf=MI ⟨bf,0,MH⟩):
  Ni MK 91 #[gP g,fP bf i] w (aam base w g V (aaZ G i)):=by
 obtain⟨O,a⟩:∃O,O=aaZ G i:=⟨_,rfl⟩;rw[<-a];unfold aaZ at a;obtain⟨f,o⟩:∃f,f=Xs G i:=⟨_,rfl⟩;have D:=h.Gw hp hi;rw[<-o]at a D;have q:0<=G.fls[i].slot/\G.fls[i].slot<40:=(hbs.F9 (Nk hi)).1;obtain⟨I,L,P,N,x,M,J⟩:=D;have Q:=h.lt;cases hsv:f.srv
 ·rw[hsv,Nf (by decide)]at a
  simp only[]at a;rw[<-o]at a;have H:M6 (_/\_):=⟨aeP h (by omega) 3 f,a⟩;rw[hsv]at x;clear h hbs a o hw hl q;go_enter TP,TI
  go_wp2_with fail
  have F:ZS f=Ny #[MF ME f.slot,MF ME f.gen,MF ME f.key,MF ME f.be,M3 Nb,MF ME f.ret,MF ME f.due]:=by rw[<-hsv]
  have C:=H.out.1;rw[F]at C;refine Nd C ?_;rintro r K ⟨rfl,y,e,j,l⟩;have d:M6 (_/\_/\_):=⟨e,j.2.2,l⟩;clear e j l;go_wp2
  go_end0
  rw[H.out.2];exact⟨rfl,y,d.out.1,d.out.2.1,d.out.2.2⟩
 ·rw[hsv,Nh rfl]at a
  simp only[]at a;have c6:=h.c6;rw[hsv]at x;obtain⟨m,c⟩:∃m,m=YW G i G.cfg.idle:=⟨_,rfl⟩;have u:=af2 h hi hp (n:=G.cfg.idle) hbs.idle q hw hbs.now;rw[<-c]at a u;have z:i<m.fls.length:=by rw[c,ahP];exact hi
  have A:m.out.length<=1000000:=by rw[c];show G.out.length<=1000000;omega
  have H:M6 (_/\_/\_/\_/\_):=⟨u,a,z,A,hp⟩;clear h hbs a o hw hl q u c z A hp hi;go_enter TP,TI
  go_wp2_with fail
  refine Nd H.out.1 ?_;rintro r U ⟨rfl,Y,c,t,B⟩;obtain⟨v,s⟩:∃v,v=Xs m i:=⟨_,rfl⟩;have E:=c.Gw (t.1.trans H.out.2.2.2.2) H.out.2.2.1;rw[<-s]at E;obtain⟨T,Z,R,x3,x4,S,x6⟩:=E;have p:M6 (_/\_/\_/\_):=⟨aeP c H.out.2.2.2.1 3 v,t.2.2,B,s⟩;clear c t B s I L P N x M J c6
  go_wp2_with fail
  refine Nd p.out.1 ?_;rintro r K ⟨rfl,y,e,j,l⟩;have d:M6 (_/\_/\_):=⟨e,j.2.2.trans p.out.2.1,p.out.2.2.1.F0 l⟩;clear e j l;go_wp2
  go_end0
  rw[H.out.2.1,<-p.out.2.2.2];exact⟨rfl,y,d.out.1,d.out.2.1,d.out.2.2⟩
theorem aqy(h:OR base w g V G)(hbs:Bs G)(hw:G.wnow=G.now)(hl:G.out.length<=900000)(hi:i<G.fls.length){bf:Nat}(hp:V.pf=MI ⟨bf,0,MH⟩):
  Ni MK 92 #[gP g,fP bf i] w (aam base w g V (abh G i)):=by
 obtain⟨O,o⟩:∃O,O=abh G i:=⟨_,rfl⟩;rw[<-o];unfold abh at o;simp only[]at o;obtain⟨f,F⟩:∃f,f=Xs G i:=⟨_,rfl⟩;have R:f∈G.fls:=by rw[F,XA hi];exact Nk hi
 have D:=hbs.F9 R;obtain⟨q0,q1,q2,q3,q4,q5,q6⟩:=h.Gw hp hi;rw[<-F]at o q0 q1 q2 q3 q4 q5 q6;have b9:=h.lt;obtain⟨m,a⟩:∃m,m=Yh G f.be false:=⟨_,rfl⟩;have Y:=akO h hbs D.2.2.2 Nb;have L:=hbs.GA D.2.2.2 Nb;rw[<-a]at o Y L;have a0:m.fls=G.fls/\m.cfg=G.cfg/\m.now=G.now/\m.wnow=G.wnow/\m.out=G.out:=by rw[a];exact⟨rfl,rfl,rfl,rfl,rfl⟩
 have H:M6 (_/\_/\_/\_/\_/\_/\_/\_):=⟨Y,o,L,a0,hp,hi,F,R⟩;have v:M6 (_/\_/\_/\_):=⟨hbs,hw,hl,D⟩;clear h hbs o F hw hl D Y a a0 L hp hi R;go_enter Tryz.func92,Tryz.ntmps92
 go_wp2_with fail
 refine Nd H.out.1 ?_;rintro r q ⟨rfl,I,a,M,b0⟩;have d:I.pf=MI ⟨bf,0,MH⟩:=M.1.trans H.out.2.2.2.2.1;obtain⟨C,N⟩:=akp H.out.2.2.2.1.1 H.out.2.2.2.2.2.1 H.out.2.2.2.2.2.2.1;obtain⟨y,J⟩:∃y:Fl,y={f with srv:=Nw}:=⟨_,rfl⟩;obtain⟨u0,u1,u2,u3,u4,u5,u6⟩:=a.Gl d C;rw[N]at u4;have b6:=a.Hv d (i*7+4);have S:=a.Hd d C (j:=4) (by omega) (M3 Nw) y (by rw[N,J];rfl);obtain⟨x,B⟩:∃x,x=q.setCell ⟨bf,i*7+4,MH⟩ (M3 Nw):=⟨_,rfl⟩;rw[<-B]at S;have a8:WV I I g q x:=by
  rw[B];exact⟨rfl,rfl,rfl,by simp,fun b _ hn=>MU q ⟨bf,i*7+4,MH⟩ _ b fun e=>hn (NF (NF (Nt (by rw[d,e];rfl)))),fun _ h=>Nt h⟩
 obtain⟨c,t⟩:∃c,c=Y4 m i y:=⟨_,rfl⟩;have A:OR base x g I c:=by rw[t];exact S
 obtain⟨T,a4⟩:=akq t C;have p:c.cfg=G.cfg/\c.now=G.now/\c.wnow=G.wnow/\c.out=G.out:=by rw[t];exact⟨H.out.2.2.2.1.2.1,H.out.2.2.2.1.2.2.1,H.out.2.2.2.1.2.2.2.1,H.out.2.2.2.1.2.2.2.2⟩
 have a5:0<=c.fls[i].slot/\c.fls[i].slot<40:=by rw[a4,J];exact v.out.2.2.2.1
 have e6:x.cell? ⟨g,6,MH⟩=MI (MF ME G.cfg.idle):=by rw[<-p.1];exact A.c6
 have b8:=A.lt;have HW:=af2 A T d (n:=G.cfg.idle) v.out.1.idle a5 (by rw[p.2.2.1,p.2.1];exact v.out.2.1) (by rw[p.2.1];exact v.out.1.now);have b4:=a.lt;have d6:q.cell? ⟨g,6,MH⟩=MI (MF ME G.cfg.idle):=by rw[<-H.out.2.2.2.1.2.1];exact a.c6
 have b3:bf<q.heap.size:=MX q ⟨bf,i*7,MH⟩ u0;have b5:¬bf=g:=fun e=>a.rest.fg (by rw[d,e];rfl)
 have b7:¬g=bf:=fun e=>b5 e.symm
 have l:M6 (_/\_/\_/\_/\_/\_/\_/\_):=⟨HW,b0.F0 a8,d,T,t,p,M.2.2,J⟩;clear a M b0 a8 S A C T d N J t a4 p a5 HW q0 q1 q2 q3 q4 q5 q6 u0 u1 u2 u3 u5 u6
 go_wp2_with fail
 rw[<-B];clear B u4 b6 d6 b3 b4;refine Nd l.out.1 ?_;rintro r w3 ⟨rfl,V3,E,Q,b2⟩;obtain⟨s,u⟩:∃s,s=YW c i G.cfg.idle:=⟨_,rfl⟩;rw[<-u]at E;have a3:i<s.fls.length:=by rw[u,ahP];exact l.out.2.2.2.1
 obtain⟨K,P⟩:∃K,K=Xs s i:=⟨_,rfl⟩;have hx:=E.Gw (Q.1.trans l.out.2.2.1) a3;rw[<-P]at hx;obtain⟨x0,x1,x2,x3,x4,x5,x6⟩:=hx;have a9:s.out.length<=1000000:=by rw[u];show c.out.length<=1000000;rw[l.out.2.2.2.2.2.1.2.2.2];have:=v.out.2.2.1;omega
 have z:M6 (_/\_/\_/\_/\_):=⟨aeP E a9 4 K,Q.2.2.trans l.out.2.2.2.2.2.2.1,l.out.2.1.F0 b2,P,u⟩;clear E Q b2 P u a9 a3 e6
 go_wp2_with fail
 refine Nd z.out.1 ?_;rintro r w7 ⟨rfl,V7,Z,a6,a7⟩;have U:M6 (_/\_/\_):=⟨Z,a6.2.2.trans z.out.2.1,z.out.2.2.1.F0 a7⟩;clear Z a6 a7;go_wp2
 go_end0
 have hz:O=abi s 4 K:=by rw[H.out.2.1,z.out.2.2.2.1,z.out.2.2.2.2,l.out.2.2.2.2.1,l.out.2.2.2.2.2.2.2]
 rw[hz];exact⟨rfl,V7,U.out.1,U.out.2.1,U.out.2.2⟩
end
section
variable {base:Nat}{w:MO}{g:Nat}{V:Vs}{G:Gt}
theorem akt{w1:MO}{bf:Nat}{v:M7}(hp:V.pf=MI ⟨bf,0,MH⟩)(h:w1=w.setCell ⟨bf,k,MH⟩ v):WV V V g w w1:=by
 subst h;exact⟨rfl,rfl,rfl,by simp,fun b _ hn=>MU w ⟨bf,k,MH⟩ _ b fun e=>hn (NF (NF (Nt (by rw[hp,e];rfl)))),fun _ h=>Nt h⟩
theorem OR.Ji(h:OR base w g V G){bf:Nat}(hp:V.pf=MI ⟨bf,0,MH⟩)(hi:i<G.fls.length){f:Fl}(hf:f=Xs G i)(b n:Int):
  OR base ((w.setCell ⟨bf,i*7+3,MH⟩ (MF ME b)).setCell ⟨bf,i*7+5,MH⟩ (MF ME n)) g V (Y4 G i {f with be:=b,ret:=n}) /\
  WV V V g w ((w.setCell ⟨bf,i*7+3,MH⟩ (MF ME b)).setCell ⟨bf,i*7+5,MH⟩ (MF ME n)):=by
 rw[XA hi]at hf;have e:=h.Hd hp hi (j:=3) (by omega) (MF ME b) {f with be:=b} (by rw[hf];rfl);have a:i<(G.fls.set i {f with be:=b}).length:=by rw[NA];exact hi
 have d:(G.fls.set i {f with be:=b})[i]={f with be:=b}:=NW (h:=a);have l:=e.Hd hp (i:=i) a (j:=5) (by omega) (MF ME n) {f with be:=b,ret:=n} (by show _=(WX ((G.fls.set i {f with be:=b})[i])).set 5 _;rw[d];rfl);have c:(G.fls.set i {f with be:=b}).set i {f with be:=b,ret:=n}=G.fls.set i {f with be:=b,ret:=n}:=List.set_set _;refine⟨?_,(akt hp rfl).F0 (akt hp rfl)⟩;unfold Y4;rw[<-c];exact l
theorem aqq(h:OR base w g V G)(hbs:Bs G)(hw:G.wnow=G.now)(hl:G.out.length<=900000)(hi:i<G.fls.length){bf:Nat}(hp:V.pf=MI ⟨bf,0,MH⟩)(hb:0<=b/\b<12)(hr:0<=(Xs G i).ret/\(Xs G i).ret+1<=20):
  Ni MK 135 #[gP g,fP bf i,MF ME b] w (aam base w g V (ZL G i b)):=by
 obtain⟨O,q⟩:∃O,O=ZL G i b:=⟨_,rfl⟩;rw[<-q];unfold ZL at q;simp only[]at q;obtain⟨f,F⟩:∃f,f=Xs G i:=⟨_,rfl⟩;have Q:f∈G.fls:=by rw[F,XA hi];exact Nk hi
 have b6:=hbs.F9 Q;obtain⟨T,q1,q2,q3,q4,q5,q6⟩:=h.Gw hp hi;rw[<-F]at q hr T q1 q2 q3 q4 q5 q6;have d7:=h.lt;have d1:bf<w.heap.size:=MX w ⟨bf,i*7,MH⟩ T;have d2:¬bf=g:=fun e=>h.rest.fg (by rw[hp,e];rfl)
 have d8:¬g=bf:=fun e=>d2 e.symm
 obtain⟨m,Y⟩:∃m,m=(Y0 G.tab f.slot f.gen b).1:=⟨_,rfl⟩;rw[<-Y]at q;have a6:(Y0 G.tab f.slot f.gen b).2=0:=by rw[hbs.Ho Q hb]
 have d4:=h.Gs;have HD:M6 (∀W',MQ w.heap.size w W'->Ni MK 184 #[Ny #[MG V.pt G.tab.length V.ct],Ny #[MF ME f.slot,MF ME f.gen],MF ME b] W' fun r s=>∃p c,r=MN (Nv #[Ny #[MG p m.length c],MF ME 0])/\s.cell? ⟨g,17,MH⟩=MI (MG V.pt G.tab.length V.ct)/\s.frozen? ⟨g,17,MH⟩=Nb/\g<s.heap.size /\
   M6 (OR base (s.setCell ⟨g,17,MH⟩ (MG p m.length c)) g {V with pt:=p,ct:=c} {G with tab:=m}/\WV V {V with pt:=p,ct:=c} g w (s.setCell ⟨g,17,MH⟩ (MG p m.length c)))):=by
  refine fun W' hW'=>(auR (MG V.pt G.tab.length V.ct) G.tab f.slot f.gen b W' (h.rest.tab.now.below hW')).mono ?_
  rw[<-Y,a6];rintro r s ⟨p,c,rfl,ho,hb⟩;have P:MQ w.heap.size w s:=hW'.trans (hb.mono hW'.size);have o:=h.below P;exact⟨p,c,rfl,o.Gs,o.fz 17,o.lt,h.Ix P (ho.mono hW'.size),((WV.F5 (V:=V) (g:=g) P).F4 17 _).Gp fun _ h=>h⟩
 have d0:IntKind.i64.wrap (f.ret+1)=f.ret+1:=by rw[Ow];omega
 have H:M6 (_/\_/\_/\_):=⟨q,hp,hi,F⟩;have A:M6 (_/\_/\_/\_):=⟨hbs,hw,hl,b6⟩;clear h hbs q F hw hl b6 hp hi Q Y a6 hr hb;go_enter UL,Uz
 go_wp2_with fail
 go_region_with (first|(go_at_call 184;refine(HD.out _ (by first|exact(MY _ _).drew|exact Below.refl _ _)).mono ?_;rintro r w3 ⟨p,c,rfl,d3,d5,b9,o⟩))
 all_goals
  obtain⟨t,N⟩:∃t,t=w3.setCell ⟨g,17,MH⟩ (MG p m.length c):=⟨_,rfl⟩;have d:=o.out.1;have J:=o.out.2;rw[<-N]at d J;rw[<-N];clear N o d3 d5 b9 d4 T q1 q2 q3 q4 q5 q6 d7 d1;have l:Vs.pf {V with pt:=p,ct:=c}=MI ⟨bf,0,MH⟩:=H.out.2.1;have C:i<({G with tab:=m}:Gt).fls.length:=H.out.2.2.1;obtain⟨x0,x1,x2,x3,x4,x5,x6⟩:=d.Gl l C;have a5:({G with tab:=m}:Gt).fls[i]=f:=by rw[H.out.2.2.2,XA H.out.2.2.1]
  rw[a5]at x3 x5;have z3:=d.Hv l (i*7+3);have z5:=d.Hv l (i*7+5);have b8:=d.lt;have e7:t.cell? ⟨g,7,MH⟩=MI (MF ME G.cfg.conn):=d.c7;have b7:bf<t.heap.size:=MX t ⟨bf,i*7,MH⟩ x0;obtain⟨K,R⟩:=d.Ji l C (f:=f) H.out.2.2.2 b (f.ret+1);obtain⟨w6,E⟩:∃w6,w6=(t.setCell ⟨bf,i*7+3,MH⟩ (MF ME b)).setCell ⟨bf,i*7+5,MH⟩ (MF ME (f.ret+1)):=⟨_,rfl⟩;obtain⟨a,y⟩:∃a,a=Y4 {G with tab:=m} i {f with be:=b,ret:=f.ret+1}:=⟨_,rfl⟩;obtain⟨I,a0⟩:=akq y C;have z:a.cfg=G.cfg/\a.now=G.now/\a.wnow=G.wnow/\a.out=G.out:=by rw[y];exact⟨rfl,rfl,rfl,rfl⟩
  rw[<-E,<-y]at K;rw[<-E]at R;have a8:0<=a.fls[i].slot/\a.fls[i].slot<40:=by rw[a0];exact A.out.2.2.2.1
  have HW:=af2 K I l (n:=G.cfg.conn) A.out.1.conn a8 (by rw[z.2.2.1,z.2.1];exact A.out.2.1) (by rw[z.2.1];exact A.out.1.now);have v:M6 (_/\_/\_/\_/\_/\_):=⟨HW,J.F0 R,l,I,y,z⟩;clear d J K R l C I a5 a0 y z a8 HW x0 x1 x2 x4 x6
  go_wp2_with fail
  rw[<-E];clear E x3 x5 z3 z5 b8 e7 b7 d0;refine Nd v.out.1 ?_;rintro r w7 ⟨rfl,V7,D,M,b3⟩;obtain⟨j,x⟩:∃j,j=YW a i G.cfg.conn:=⟨_,rfl⟩;rw[<-x]at D;have b5:i<j.fls.length:=by rw[x,ahP];exact v.out.2.2.2.1
  obtain⟨B,L⟩:∃B,B=Xs j i:=⟨_,rfl⟩;have hx:=D.Gw (M.1.trans v.out.2.2.1) b5;rw[<-L]at hx;obtain⟨y0,y1,y2,y3,y4,y5,y6⟩:=hx;have b2:j.out.length<=900000:=by rw[x];show a.out.length<=900000;rw[v.out.2.2.2.2.2.2.2.2];exact A.out.2.2.1
  have u:M6 (_/\_/\_/\_/\_/\_):=⟨aeP D (by omega) 5 B,M.2.2,v.out.2.1.F0 b3,L,x,b2⟩;clear D M b3 L x b2 b5
  go_wp2_with fail
  refine Nd u.out.1 ?_;rintro r w8 ⟨rfl,V8,a3,a9,b0⟩;have Z:(abi j 5 B).out.length<=1000000:=by show(j.out++[_]).length<=1000000;have:=u.out.2.2.2.2.2;simp;omega
  have S:M6 (_/\_/\_):=⟨ahg a3 Z f.be,a9.2.2.trans u.out.2.1,u.out.2.2.1.F0 b0⟩;clear a3 b0 a9 Z y0 y1 y2 y3 y4 y5 y6
  go_wp2_with fail
  refine Nd S.out.1 ?_;rintro r w9 ⟨rfl,V9,a7,b4,a4⟩;have U:M6 (_/\_/\_):=⟨a7,b4.2.2.trans S.out.2.1,S.out.2.2.F0 a4⟩;clear a7 b4 a4;go_wp2
  go_end0
  have hz:O=Yf (abi j 5 B) f.be:=by rw[H.out.1,u.out.2.2.2.1,u.out.2.2.2.2.1,v.out.2.2.2.2.1]
  rw[hz];exact⟨rfl,V9,U.out.1,U.out.2.1,U.out.2.2⟩
end
theorem aao(l:List Fl):(rv WX l).length=l.length*7:=abx XL l
theorem ahj(l:List Fl)(i:Nat):(rv WX l).take (i*7)=rv WX (l.take i):=ahF XL l i
theorem akn(l:List Fl)(i:Nat):(rv WX l).drop (i*7)=rv WX (l.drop i):=ak4 XL l i
theorem ahz(x:Fl):rv WX [x]=WX x:=by simp[rv]
theorem akB{α:Type}(l:List α)(x:α):Xi l x l.length=l++[x]:=by simp[Xi]
def afB(base:Nat)(v:M7)(l:List Fl)(t:Fl)(i:Nat)(w:MO)(r:Ending)(w':MO):Prop :=
 ∃g cap,r=MN (MG (MI ⟨g,0,MH⟩) (l.length+1) cap)/\w'.ownsRow base 72 7 (MG (MI ⟨g,0,MH⟩) (l.length+1) cap) (l.length+1) (rv WX (Xi l t i))/\w.grownBy w' v.ownBlock/\(v.ownBlock=MI g\/w.heap.size<=g)
theorem apE(base:Nat)(v:M7)(l:List Fl)(x:Fl)(cs:Array M7)(hxs:cs.toList=WX x)(k:Nat)(w:MO)(hown:w.ownsRow base 72 7 v l.length (rv WX l))(hbase:base<=w.heap.size)
  (hk:w.heap[k]?=MI (MP cs 72 (0,0))) (hlen:l.length<=1000) :
  Ni MK 125 #[v,MF ME l.length,MG (MI ⟨k,0,MH⟩) 1 1] w (afB base v l x l.length w):=by
 obtain⟨t,y,q,r,s⟩:=OF ad0;have e:∀j u,(rv WX [x])[j]?=MI u->w.cell? ((⟨k,0,MH⟩:Oc).add j)=MI u:=fun j u hu=>by
  have A:(⟨k,0,MH⟩:Oc).add j=⟨k,j,MH⟩:=by unfold Addr.add;split <;> simp_all
  rw[A,MW w k j _ _ (0,0) hk];rw[ahz,<-hxs]at hu;simpa using hu
 obtain⟨p,c,rfl⟩:=Y6 hown;have E:l.length<=c:=by
  rcases hown.2 with⟨h,_⟩|⟨g,a,C,h,_,_,z,_⟩
  ·simp only[N4]at h;omega
  ·simp only[N4]at h;omega
 have F:c<=9223372036854775807:=by
  rcases hown.2 with⟨h,_⟩|⟨g,a,C,h,_,_,_,z,_⟩
  ·simp only[N4]at h;omega
  ·simp only[N4]at h;unfold NE at z;omega
 by_cases hcl:c=l.length
 ·subst hcl
  have d:M6 (_/\_):=⟨hown,e⟩;clear hown e;go_enter azu,azo
  go_wp2_with (first|(at_builtin;refine O9 _ rfl _ _ 40 rfl base 72 t _ 7 56 U3 y q r s rfl (by decide) (MG p l.length l.length) _ _ rfl d.out.1 _ 1 1 (rv WX [x]) rfl rfl d.out.2 (adm acI _) (by decide) (by unfold NE;omega) (by omega) hbase _ rfl ?_;intro o a D f n m B))
  all_goals
   go_ret;exact⟨o,a,rfl,by rw[akB,acL];exact f,n,m.imp id (fun h=>by omega)⟩
 ·have d:M6 (_/\_):=⟨hown,e⟩
  clear hown e;go_enter azu,azo
  go_wp2_with (first|(at_builtin;refine O9 _ rfl _ _ 40 rfl base 72 t _ 7 56 U3 y q r s rfl (by decide) (MG p l.length c) _ _ rfl d.out.1 _ 1 1 (rv WX [x]) rfl rfl d.out.2 (adm acI _) (by decide) (by unfold NE;omega) (by omega) hbase _ rfl ?_;intro o a D f n m B))
  all_goals
   go_ret;exact⟨o,a,rfl,by rw[akB,acL];exact f,n,m.imp id (fun h=>by omega)⟩
theorem apF(base g c:Nat)(l:List Fl)(x:Fl)(cs:Array M7)(hxs:cs.toList=WX x)(i k:Nat)(w:MO)(hown:w.ownsRow base 72 7 (MG (MI ⟨g,0,MH⟩) l.length c) l.length (rv WX l))(hbase:base<=w.heap.size)(hi:i<l.length)(hroom:c<l.length+1)
  (hk:w.heap[k]?=MI (MP cs 72 (0,0))) (hlen:l.length<=1000) :
  Ni MK 125 #[MG (MI ⟨g,0,MH⟩) l.length c,MF ME i,MG (MI ⟨k,0,MH⟩) 1 1] w (afB base (MG (MI ⟨g,0,MH⟩) l.length c) l x i w):=by
 obtain⟨S,A,L,F,N⟩:=OF ad0;have K:c=l.length:=by
  rcases hown.2 with⟨h,_⟩|⟨g',e,a8,h,_,_,h2,_⟩
  ·cases h
  ·simp only[N4]at h;omega
 subst K;have D:(MK.info? 72).map (·.size)=MI 7:=by rw[A];simp[F]
 have Z:=(hown.lt g rfl).2;have a4:k<w.heap.size:=(ZAa.1 hk).1;obtain⟨e,t,T,o,q,C,I,d,a5⟩:=ag0 (P:=MK) w 40 3 40 72 S _ ME 7 56 U3 Ol A L F N rfl (by decide) base ⟨g,0,MH⟩ i l.length (l.length+1-i) (rv WX (l.take i)) (by rw[aao,NH];omega)
  (fun j u hu=>by
   rw[abl,hown.cellAt j (by have:=(ZAb.1 hu).1;rw[aao,NH]at this;omega)];rw[<-ahj]at hu;rw[List.getElem?_take]at hu
   split at hu
   ·exact hu
   ·cases hu) (by omega) (by omega) (by unfold NE;omega) (by omega) hbase
 have M:i+(l.length+1-i)=l.length+1:=by omega
 rw[M]at o q I;rw[show((l.length+1-i:Nat):Int)=(l.length:Int)+1-(i:Int)by omega]at o;obtain⟨H,J,E,f⟩:=aa8 (P:=MK) T 40 3 72 7 U3 D base w.heap.size (l.length+1) e _ q (i*7) (l.length+1-i) (e-i) ⟨k,0,MH⟩ 1 1 1 (rv WX [x]) (by simp only[PR];split <;> omega) rfl (by simp[rv];omega)
  (fun j u hu=>by
   rw[abl,(d.cell (a:=⟨k,j,MH⟩) (v:=u) (by rw[MW w k j _ _ (0,0) hk];rw[ahz,<-hxs]at hu;simpa using hu) (by simp))]) (adm acI _)
 obtain⟨Q,O,p,m⟩:=aa8 (P:=MK) H.drew 40 3 72 7 U3 D base w.heap.size (l.length+1) e _ E ((i+1)*7) (l.length-i) (e-(i+1)) ⟨g,i*7,MH⟩ (l.length-i) (l.length-i) (l.length-i) (rv WX (l.drop i)) (by simp only[PR];split <;> omega) (by rw[aao,NJ]) (by rw[aao,NJ];omega)
  (fun j u hu=>by
   rw[aas];have n:=(ZAb.1 hu).1;rw[aao,NJ]at n;have R:w.cell? ⟨g,i*7+j,MH⟩=MI u:=by
    rw[hown.cellAt _ (by omega),<-hu,<-akn,Pa]
   exact f.cell (a:=⟨g,i*7+j,MH⟩) (d.cell R (by simp)) (by simp;omega)) (adm acI _)
 have z:(rv WX (l.take i)++t).take (i*7)++rv WX [x]++(rv WX (l.take i)++t).drop (i*7+(rv WX [x]).length)=rv WX (l.take i++[x])++t.drop 7:=by
  have r:(rv WX (l.take i)).length=i*7:=by rw[aao,NH];omega
  rw[<-r,Qb,acL,Qa];simp[rv]
 have y:∀ys:List M7,((rv WX (l.take i++[x])++ys).take ((i+1)*7)++rv WX (l.drop i)++(rv WX (l.take i++[x])++ys).drop ((i+1)*7+(rv WX (l.drop i)).length))=rv WX (Xi l x i)++ys.drop ((l.length-i)*7):=fun ys=>by
  have r:(rv WX (l.take i++[x])).length=(i+1)*7:=by rw[aao];simp;omega
  rw[<-r,Qb,Qa,aao (l.drop i),NJ,Xi,acL,acL];simp[rv]
 rw[z,y]at p;rw[List.drop_drop,PI (by rw[C];omega),OG]at p;have B:w.grownBy Q (MG (MI ⟨g,0,MH⟩) l.length l.length).ownBlock :=
  ⟨m.os.trans (f.os.trans d.os),m.tape.trans (f.tape.trans d.tape),m.output.trans (f.output.trans d.output),Nm d.size (Nm f.size m.size),fun j n _=>by
   rw[m.block j (M8 n (Nm d.size f.size)) (by simp;omega)];show H.heap[j]?=_;rw[f.block j (M8 n d.size) (by simp;omega),d.block j n (by simp)]⟩
 have s:M6 (_/\_/\_/\_/\_):=⟨o,J,O,p,B⟩;have a7:(i:Int)<=(l.length:Int):=by omega
 have a6:(i:Int)<(l.length:Int)+1:=by omega
 have a0:¬e=i:=by omega
 have Y:¬e=i+1:=by omega
 have a3:¬l.length=i:=by omega
 have U:((i:Int) == (l.length:Int))=false:=by simp;omega
 clear o q E p d f m C hown hk z y B;go_enter azu,azo
 go_wp2_with (first|(at_builtin;refine Lib.wpList_append_run _ rfl _ _ _ _ rfl _ _ rfl rfl _ _ s.out.1 ?_))
 go_region
 go_wp2;go_ret;exact⟨w.heap.size,e,rfl,s.out.2.2.2.1,s.out.2.2.2.2,NF (MV _)⟩
theorem apG(base g c:Nat)(l:List Fl)(x:Fl)(cs:Array M7)(hxs:cs.toList=WX x)(i k:Nat)(w:MO)(hown:w.ownsRow base 72 7 (MG (MI ⟨g,0,MH⟩) l.length c) l.length (rv WX l))(hbase:base<=w.heap.size)(hi:i<l.length)(hroom:l.length+1<=c)(hkg:k≠g)
  (hk:w.heap[k]?=MI (MP cs 72 (0,0))) (hlen:l.length<=1000) :
  Ni MK 125 #[MG (MI ⟨g,0,MH⟩) l.length c,MF ME i,MG (MI ⟨k,0,MH⟩) 1 1] w (afB base (MG (MI ⟨g,0,MH⟩) l.length c) l x i w):=by
 obtain⟨i0,K,a8,L,b3⟩:=OF ad0;have B:(MK.info? 72).map (·.size)=MI 7:=by rw[K];simp[L]
 obtain⟨d,r,C,q,z,I⟩:∃d:Array M7,w.heap[g]?=MI (MP d 72 (0,0))/\c<=NE/\d.size=c*7/\d.toList.take (l.length*7)=rv WX l/\base<=g:=by
  rcases hown.2 with⟨h,_⟩|⟨g',b4,d,h,hb,O,h2,Z,S,T⟩
  ·cases h
  ·simp only[N4,Qs,Q1,and_true,true_and]at h
   obtain⟨rfl,rfl⟩:=h;exact⟨d,O,Z,S,T,hb⟩
 have n:w.ownsRow base 72 7 (MG (MI ⟨g,0,MH⟩) (l.length+1) c) (l.length+1) (d.toList.take ((l.length+1)*7)):=
  ⟨by simp only[NH,Om,q];omega,NF ⟨g,c,d,rfl,I,r,hroom,C,q,rfl⟩⟩
 have F:d.toList.take ((l.length+1)*7)=rv WX l++(d.toList.drop (l.length*7)).take 7:=by
  rw[<-z,show(l.length+1)*7=l.length*7+7 by omega,List.take_add]
 rw[F]at n;have p:((d.toList.drop (l.length*7)).take 7).length=7:=by simp only[NH,NJ,Om,q];omega
 generalize (d.toList.drop (l.length*7)).take 7=sp at n p;have a4:=(hown.lt g rfl).2;obtain⟨Y,b2,y,f⟩:=aa8 (P:=MK) w.drew 40 3 72 7 U3 B base g (l.length+1) c _ n ((i+1)*7) (l.length-i) (c-(i+1)) ⟨g,i*7,MH⟩ (l.length+1-i) (c-i) (l.length-i) (rv WX (l.drop i)) (by simp only[PR];split <;> omega) (by rw[aao,NJ]) (by rw[aao,NJ];omega)
  (fun j u hu=>by
   rw[aas];have o:=(ZAb.1 hu).1;rw[aao,NJ]at o;have U:w.cell? ⟨g,i*7+j,MH⟩=MI u:=by
    rw[hown.cellAt _ (by omega),<-hu,<-akn,Pa]
   exact U) (adm acI _)
 obtain⟨Q,a7,s,m⟩:=aa8 (P:=MK) Y 40 3 72 7 U3 B base g (l.length+1) c _ y (i*7) (l.length+1-i) (c-i) ⟨k,0,MH⟩ 1 1 1 (rv WX [x]) (by simp only[PR];split <;> omega) rfl (by simp[rv];omega)
  (fun j u hu=>by
   rw[abl,(f.cell (a:=⟨k,j,MH⟩) (v:=u) (show w.cell? _=_ by rw[MW w k j _ _ (0,0) hk];rw[ahz,<-hxs]at hu;simpa using hu) (by simp;omega))]) (adm acI _)
 have t:∀xs:List M7,xs=(rv WX l++sp).take ((i+1)*7)++rv WX (l.drop i)++(rv WX l++sp).drop ((i+1)*7+(rv WX (l.drop i)).length)->xs.take (i*7)++rv WX [x]++xs.drop (i*7+(rv WX [x]).length)=rv WX (Xi l x i):=fun xs hxs=>by
  have N:(rv WX l++sp).drop ((i+1)*7+(rv WX (l.drop i)).length)=[]:=PI (by rw[Ns,aao,aao,NJ,p];omega);have M:(rv WX l++sp).take ((i+1)*7)=rv WX (l.take (i+1)):=by
   rw[ZqA (by rw[aao];omega),ahj]
  rw[N,M,OG]at hxs;have D:(rv WX (l.take (i+1))).length=(i+1)*7:=by rw[aao,NH];omega
  have e4:xs.take (i*7)=rv WX (l.take i):=by
   rw[hxs,ZqA (by rw[D];omega),ahj,List.take_take,show min i (i+1)=i by omega]
  have R:xs.drop (i*7+(rv WX [x]).length)=rv WX (l.drop i):=by
   rw[hxs,show i*7+(rv WX [x]).length=(rv WX (l.take (i+1))).length by rw[D];simp[rv];omega,List.drop_left]
  rw[e4,R,Xi,acL];simp[rv]
 rw[t _ rfl]at s;have A:w.grownBy Q (MG (MI ⟨g,0,MH⟩) l.length c).ownBlock :=
  ⟨m.os.trans f.os,m.tape.trans f.tape,m.output.trans f.output,Nm f.size m.size,fun j o hne=>by
   rw[m.block j (M8 o f.size) hne];exact f.block j o hne⟩
 have J:cs.size=7:=by rw[<-Om,hxs];rfl
 have H:∀lb cb,(callFunc 174 #[MG (MI ⟨k,0,MH⟩) 1 1,MG (MI ⟨g,(i+1)*7,MH⟩) lb cb]).run MK w=.ok (.value (M3 Nb)) w:=fun lb cb=>by
  rw[run_callFunc_extern Wr (by kernel_rfl) (by kernel_rfl) (by kernel_rfl) (e:=P9 #[40,40] #[4]) (by kernel_rfl),
   Lib.run_overlaps_apart w 40 4 72 U3 7 Tryz.sizeOf72 ⟨k,0,MH⟩ ⟨g,(i+1)*7,MH⟩ 1 1 lb cb hkg 72 72 7 d.size (by simp[QO,hk,J]) (by simp[QO,r]) (by omega) (by simp[Ng,hk]) (by simp[Ng,hk])]
  rfl
 have E:M6 (_/\_):=⟨s,A⟩;have b0:(i:Int)<=(l.length:Int):=by omega
 have a9:(i:Int)<=(l.length:Int)+1:=by omega
 have a5:¬c=i:=by omega
 have a3:¬c=i+1:=by omega
 have a0:((i:Int) == (l.length:Int))=false:=by simp;omega
 have a6:(l.length:Int)+1<=(c:Int):=by omega
 unfold NE at C;clear y s f m hown n hk t A r z F p;go_enter azu,azo
 go_wp2_with (simp only[H])
 go_region
 go_wp2;go_ret;exact⟨g,c,rfl,E.out.1,E.out.2,Nt rfl⟩
theorem apD(base:Nat)(v:M7)(l:List Fl)(x:Fl)(cs:Array M7)(hxs:cs.toList=WX x)(i k:Nat)(w:MO)(hown:w.ownsRow base 72 7 v l.length (rv WX l))(hbase:base<=w.heap.size)(hi:i<=l.length)(hkv:v.ownBlock≠MI k)
  (hk:w.heap[k]?=MI (MP cs 72 (0,0))) (hlen:l.length<=1000) :
  Ni MK 125 #[v,MF ME i,MG (MI ⟨k,0,MH⟩) 1 1] w (afB base v l x i w):=by
 rcases Oq i l.length with a|d
 ·obtain⟨g,c,rfl,_⟩:=hown.form (by omega)
  rcases Oq c (l.length+1)with h|h
  ·exact apF base g c l x cs hxs i k w hown hbase a h hk hlen
  ·exact apG base g c l x cs hxs i k w hown hbase a h (fun e=>hkv (by rw[e];rfl)) hk hlen
 ·obtain rfl:i=l.length:=by omega
  exact apE base v l x cs hxs k w hown hbase hk hlen
section
variable {base:Nat}{w:MO}{g:Nat}{V:Vs}{G:Gt}
def aoh(base:Nat)(w:MO)(g:Nat)(V:Vs)(G':Gt)(i:Nat)(r:Ending)(w':MO):Prop :=
 ∃V' bf,r=MN (fP bf i)/\OR base w' g V' G'/\V'.pf=MI ⟨bf,0,MH⟩/\V'.bh=V.bh/\WV V V' g w w'
theorem aql(h:OR base w g V G)(hbs:Bs G)(hfree:G.tab.any Y1=Nw)(hk:0<=key/\key<=4294967295)(hb:0<=b/\b<12):
  Ni MK 84 #[gP g,MF ME key,MF ME b] w (aoh base w g V (abv G key b) (Y3 G.fls (Y8 G.tab key b).2.1.1)):=by
 obtain⟨j,d4,t,e9,b8,d8⟩:=hbs.Gd hfree hk hb;have a0:=hbs.Gb;obtain⟨l,a5⟩:∃l,l=G.tab[j].1:=⟨_,rfl⟩;obtain⟨m,hm⟩:∃m,m=G.tab.set j (l,Nw,key,b):=⟨_,rfl⟩;rw[<-a5,<-hm]at t;obtain⟨x,Q⟩:∃x:Fl,x=⟨(j:Int),l,key,b,Nb,0,0⟩:=⟨_,rfl⟩;obtain⟨i,A⟩:∃i,i=Y3 G.fls (j:Int):=⟨_,rfl⟩;have n:i<=G.fls.length:=by rw[A];exact ad4 _ _
 have Y:abv G key b={G with tab:=m,fls:=Xi G.fls x i}:=by unfold abv;rw[t,Q,A]
 have a3:Y3 G.fls (Y8 G.tab key b).2.1.1=i:=by rw[t,A]
 rw[Y,a3];have S:=auV (MG V.pt G.tab.length V.ct) G.tab key b w h.rest.tab.now;rw[t]at S;have g4:=h.Gs;have h0:=h.lt;have H:M6 (_/\_/\_/\_/\_/\_):=⟨h,S,a0,Q,A,n⟩;clear h hbs S a0 Q n t Y hm a5 b8 hfree hk hb e9 d8 a3 A;clear d4;go_enter Tryz.func84,Tryz.ntmps84
 go_wp2_with fail
 refine Nd H.out.2.1 ?_;rintro r d ⟨p,c,rfl,B,E⟩;have u:=H.out.1.below E;have g6:=u.Gs;have g5:=u.Gr;have g7:=u.fz 17;have f6:=u.lt;have f5:¬g=d.heap.size:=by omega
 have f0:¬g=d.heap.size+1:=by omega
 have f8:¬d.heap.size=g:=by omega
 have g0:¬d.heap.size+1=g:=by omega
 have M:=H.out.1.Ix E B;have b3:WV V {V with pt:=p,ct:=c} g w (d.setCell ⟨g,17,MH⟩ (MG p m.length c)):=((WV.F5 (V:=V) (g:=g) E).F4 17 _).Gp fun _ h=>h
 obtain⟨W,O⟩:∃W,W=((d.setCell ⟨g,17,MH⟩ (MG p m.length c)).alloc (MP #[MG p m.length c] 39)).alloc (MP #[MF ME (j:Int),MF ME l] 70):=⟨_,rfl⟩;have a9:=acu (d.setCell ⟨g,17,MH⟩ (MG p m.length c)) (MP #[MG p m.length c] 39) (MP #[MF ME (j:Int),MF ME l] 70);rw[<-O]at a9;obtain⟨_,F,J,d5⟩:=a9;have b5:(d.setCell ⟨g,17,MH⟩ (MG p m.length c)).heap.size=d.heap.size:=by simp
 rw[b5]at F;have L:=M.below J;have b4:=b3.below J;obtain⟨R,y1,_,_,b0⟩:=Xa F;have HI:=apo (MG V.pf G.fls.length V.cf) G.fls (j:Int) (d.heap.size+1) W L.GK R;have b6:¬Vs.own {V with pt:=p,ct:=c} g (d.heap.size+1):=M.rest.new (by simp);have I:M6 (_/\_/\_/\_/\_):=⟨HI,L,b4,F,b6⟩;clear B E u M b3 F J d5 b5 L b4 HI R y1 b0 b6
 go_wp2_with fail
 rw[<-O];clear O;refine Nd I.out.1 ?_;rintro r N ⟨rfl,D⟩;have v:=I.out.2.1.below D;have a4:=I.out.2.2.1.below D;obtain⟨R,y1,_,_,b0⟩:=Xa (WO I.out.2.2.2.1 D);have g2:=v.Gr;have f9:=v.lt;have g3:=H.out.2.2.1;have n:=H.out.2.2.2.2.2;have U:M6 (∀X k,MQ N.heap.size N X->X.heap[k]?=MI (MP #[MF ME (j:Int),MF ME l,MF ME key,MF ME b,M3 Nb,MF ME 0,MF ME 0] 72 (0,0))->N.heap.size<=k->Ni MK 125 #[MG V.pf G.fls.length V.cf,MF ME (i:Int),MG (MI ⟨k,0,MH⟩) 1 1] X fun r w'=>∃q a,r=MN (MG (MI ⟨q,0,MH⟩) (G.fls.length+1) a)/\w'.cell? ⟨g,18,MH⟩=MI (MG V.pf G.fls.length V.cf)/\w'.frozen? ⟨g,18,MH⟩=Nb/\g<w'.heap.size/\a<=9223372036854775807/\G.fls.length+1<=a /\
   M6 (OR base (w'.setCell ⟨g,18,MH⟩ (MG (MI ⟨q,0,MH⟩) (G.fls.length+1) a)) g {V with pt:=p,ct:=c,pf:=MI ⟨q,0,MH⟩,cf:=a} {G with tab:=m,fls:=Xi G.fls x i}/\WV V {V with pt:=p,ct:=c,pf:=MI ⟨q,0,MH⟩,cf:=a} g w (w'.setCell ⟨g,18,MH⟩ (MG (MI ⟨q,0,MH⟩) (G.fls.length+1) a)))):=by
  intro X k hX hk g9;have o:=v.below hX;have d0:(MG V.pf G.fls.length V.cf).ownBlock≠MI k:=fun e=>by
   have:=(v.rest.fls.lt k e).2;omega
  refine(apD base (MG V.pf G.fls.length V.cf) G.fls x #[MF ME (j:Int),MF ME l,MF ME key,MF ME b,M3 Nb,MF ME 0,MF ME 0] (by rw[H.out.2.2.2.1]) i k X o.rest.fls o.base n d0 hk (by omega)).mono ?_;rintro r w' ⟨q,a,rfl,B,s,hq⟩;have K:∀z,z<X.heap.size->V.pf.map (·.block)≠MI z->w'.heap[z]?=X.heap[z]?:=fun z hz hn=>s.block z hz (fun e=>hn (by rw[e,XV]))
  have a8:=(K g o.lt o.rest.fg).trans o.box;have Z:(Xi G.fls x i).length=G.fls.length+1:=ad1 _ _ n;have a7:∀z,(MI (⟨q,0,MH⟩:Oc)).map (·.block)=MI z->V.pf.map (·.block)=MI z\/X.heap.size<=z:=fun z e=>by
   cases e;exact hq.imp (fun e=>by rw[<-XV V.pf G.fls.length V.cf];exact e) id
  have a6:=o.IU (w':=w') (p:=MI ⟨q,0,MH⟩) (c:=a) (m:=Xi G.fls x i) s.size K (by rw[Z];exact B) a7;rw[Z]at a6;have T:a<=9223372036854775807/\G.fls.length+1<=a:=by
   rcases B.2 with⟨P,_⟩|⟨g',c',g8,P,_,_,h1,h2,_⟩
   ·cases P
   ·cases P
    unfold NE at h2;exact⟨h2,h1⟩
  have e8:WV {V with pt:=p,ct:=c} {V with pt:=p,ct:=c,pf:=MI ⟨q,0,MH⟩,cf:=a} g X w':=by
   refine⟨s.os,s.tape,s.output,s.size,fun z hz hn=>K z hz fun e=>hn (NF (NF (Nt e))),fun z e=>?_⟩;rcases e with e|e|e|e
   ·exact Nt (Nt e)
   ·exact Nt (NF (Nt e))
   ·exact(a7 z e).imp (fun e=>NF (NF (Nt e))) id
   ·exact Nt (NF (NF (NF e)))
  refine⟨q,a,rfl,by rw[MW w' g 18 _ _ (0,0) a8];rfl,by simp[Ng,a8],M8 o.lt s.size,T.1,T.2,a6,?_⟩;exact((a4.below hX).F0 e8).F4 18 _
 have b2:G.fls.findIdx (fun f=>Nn ((j:Int)<f.slot))=i:=H.out.2.2.2.2.1.symm;rw[b2];have HZ:M6 _:=n;clear v a4 D b2 n
 by_cases hil:i<G.fls.length
 ·have y:X6 i G.fls.length=(i:Int):=Nh hil
  rw[y];have b9:(i:Int)<(G.fls.length:Int)+1:=by omega
  have g1:¬((i:Int)<0):=by omega
  clear y
  go_wp2_with fail
  go_region_with (first|(go_at_call 125;refine(U.out _ _ ?hb ?hk ?hn).mono ?_;(case hb=>first|exact((MY _ _).alloc (MV _) _).drew|exact((Below.refl _ _).drew).alloc (by simp) _);(case hk=>exact M1 _ _);(case hn=>exact MV _);rintro r w5 ⟨q,a,rfl,d7,d2,b7,d3,d1,C⟩))
  all_goals
   go_wp2;go_ret;exact⟨_,q,by simp,C.out.1,rfl,rfl,C.out.2⟩
 ·obtain rfl:i=G.fls.length:=by have:=HZ.out;omega
  have y:X6 G.fls.length G.fls.length = -1:=Nf hil;rw[y];have b9:(G.fls.length:Int)<(G.fls.length:Int)+1:=by omega
  clear y
  go_wp2_with fail
  go_region_with (first|(go_at_call 125;refine(U.out _ _ ?hb ?hk ?hn).mono ?_;(case hb=>first|exact((MY _ _).alloc (MV _) _).drew|exact((Below.refl _ _).drew).alloc (by simp) _);(case hk=>exact M1 _ _);(case hn=>exact MV _);rintro r w5 ⟨q,a,rfl,d7,d2,b7,d3,d1,C⟩))
  all_goals
   go_wp2;go_ret;exact⟨_,q,by simp,C.out.1,rfl,rfl,C.out.2⟩
end
abbrev adk(x:Ld):List Value:=[MF ME x.1,MF ME x.2.1,MF ME x.2.2]
theorem apO(x:Ld):(adk x).length=3:=rfl
theorem apN(x:Ld):∀u∈adk x,u.oneCell'=true:=by
 intro u a;simp only[OO,OD,or_false]at a;rcases a with rfl|rfl|rfl <;> rfl
theorem ak5:∀l:List Ld,rv adk l=abG l
 | []=>rfl
 |x::l=>by simp[rv,abG,ak5 l]
theorem apu:(MK.info? 298).map (fun i=>(i.zero,i.size,i.bytes))=MI (MI (Ny #[MF ME 0,MF ME 0,MF ME 0]),3,24):=by kernel_rfl
def abc(fs:List Fl):List Int:=(Pm 12).map fun(b:Nat)=>((abu fs (b:Int):Nat):Int)
theorem aeF(fs:List Fl):(abc fs).length=12:=by simp[abc]
theorem afI(fs:List Fl){b:Nat}(hb:b<12):(abc fs)[b]'(by rw[aeF];exact hb)=((abu fs (b:Int):Nat):Int):=by simp[abc]
theorem aoP(fs:List Fl)(f:Fl){b:Nat}(hb:b<12)(he:f.be=(b:Int)):abc (fs++[f])=(abc fs).set b (((abu fs (b:Int):Nat):Int)+1):=by
 apply PX
 ·simp[aeF]
 ·intro k c d
  have a:k<12:=by simpa [aeF]using c
  rw[afI _ a,Pc];unfold abu;rw[Qi]
  by_cases e:b=k
  ·subst e
   rw[Nh rfl];simp[he]
  ·rw[Nf e,afI _ a]
   have:(f.be == (k:Int))=false:=by rw[he,Oh];omega
   simp[abu,this]
section
variable {base:Nat}{w:MO}{g:Nat}{V:Vs}{G:Gt}
def aaH(G:Gt)(fs:List Fl)(k:Nat):List Ld:=((G.liv.take k).filter fun l=>l.2.1 == 2).map fun l=>(l.1,abV G l,(abu fs l.1:Int))
theorem apX(fs:List Fl):aaH G fs G.liv.length=aab G fs:=by unfold aaH aab;rw[NT]
theorem ap0(fs:List Fl)(hk:k<G.liv.length)(h:G.liv[k].2.1=2):aaH G fs (k+1)=aaH G fs k++[(G.liv[k].1,abV G G.liv[k],(abu fs G.liv[k].1:Int))]:=by
 unfold aaH;rw[M9 hk,OY,OI];simp[h]
theorem apZ(fs:List Fl)(hk:k<G.liv.length)(h:¬G.liv[k].2.1=2):aaH G fs (k+1)=aaH G fs k:=by
 unfold aaH;rw[M9 hk,OY,OI];have:(G.liv[k].2.1 == 2)=false:=by rw[Oh];exact h
 simp[this]
theorem apY(fs:List Fl)(k:Nat):(aaH G fs k).length<=G.liv.length:=by
 unfold aaH;rw[N0];exact Nm (O1 _ _) (List.length_take_le' _ _)
theorem ap2{W:MO}{B:Nat}{p:Option Oc}{n c:Nat}{m:List Ld}(ho:W.ownsRow B 298 3 (MG p n c) n (rv adk m))(hB:B<=W.heap.size)(hn:n<=1000)(x:Ld) :
  ∃q c' w5,(N2 #[246,246] 246 #[MG p n c,MG (MI ⟨W.heap.size,0,MH⟩) 1 1]).run MK (W.alloc (MP #[MF ME x.1,MF ME x.2.1,MF ME x.2.2] 298))=.ok (MG (MI ⟨q,0,MH⟩) (n+1) c') w5 /\
   w5.ownsRow B 298 3 (MG (MI ⟨q,0,MH⟩) (n+1) c') (n+1) (rv adk (m++[x]))/\MQ B W w5/\∀b,b<W.heap.size->p.map (·.block)≠MI b->w5.heap[b]?=W.heap[b]?:=by
 obtain⟨q,c',w5,f,d,a,j⟩:=afC apO apN (by decide) Tryz.underlying246 apu rfl ho hB 246 x #[MF ME x.1,MF ME x.2.1,MF ME x.2.2] rfl (by omega) (by unfold NE;omega);exact⟨q,c',w5,f,d,(MY _ _).grown a hB (fun k hk=>(ho.lt k hk).1),fun b hb hne=>a.block b hb fun e=>hne (by rw[<-XV p n c,<-e])⟩
theorem ap1(h:OR base w g V G)(hbs:Bs G)(v:M7)(fs:List Fl)(hv:ZR w v fs)(hfs:∀f∈fs,0<=f.be/\f.be<12)(hl:fs.length<=40) :
  Ni MK 121 #[gP g,v] w fun r w'=>∃y,r=MN y/\aaR w' y (aab G fs)/\MQ w.heap.size w w':=by
 obtain⟨pa,ca,rfl,j5,i2,pf⟩:=hv.F6;unfold NE at i2;obtain⟨W,hW⟩:∃W,W=w.alloc (MP (WR (Nj 12 0)).toArray 232):=⟨_,rfl⟩;have hB:MQ w.heap.size w W:=by rw[hW];exact WQ w
 have j:Xj 232 12 W w.heap.size (abc []):=by
  have e:abc []=Nj 12 0:=by rfl
  rw[hW,e];exact Xj.new w 232 (Nj 12 0)
 have i8:=hbs.book.1.1;have H:M6 (_/\_/\_/\_/\_/\_):=⟨h,hbs,hfs,pf,hB,j⟩;have j7:=h.lt;clear h hbs hv hfs pf hB j;go_enter T0,TU;go_wp2;rw[show(w.alloc (MP #[MF ME 0,MF ME 0,MF ME 0,MF ME 0,MF ME 0,MF ME 0,MF ME 0,MF ME 0,MF ME 0,MF ME 0,MF ME 0,MF ME 0] 232))=W from hW.symm];clear hW
 go_loopw [13] (fun t wr=>∃k:Nat,t=MF ME k/\k<=fs.length/\Xj 232 12 wr w.heap.size (abc (fs.take k))/\MQ w.heap.size w wr/\w.heap.size<wr.heap.size) (fun t _=>fs.length-(intOf t).toNat)
 case atStart=>exact⟨0,rfl,Nx _,H.out.2.2.2.2.2,H.out.2.2.2.2.1,H.out.2.2.2.2.2.lt⟩
 case round =>
  obtain⟨k,rfl,hk,j,a,b6⟩:=hrel
  by_cases hlt:k<fs.length
  ·obtain⟨m,u,rfl,l,P,L,M,N,O,Q,z6⟩:=H.out.2.2.2.1 k hlt
   have b5:=H.out.2.2.1 _ (Nk hlt);have a5:fs.take (k+1)=fs.take k++[fs[k]]:=M9 hlt;obtain⟨f,d4⟩:∃f,f=fs[k]:=⟨_,rfl⟩;rw[<-d4]at P L M N O Q z6 b5 a5;obtain⟨b,a3⟩:=NL b5.1;have U:b<12:=by omega
   have f5:(b:Int)<12:=by omega
   have h0:(0:Int)<=(b:Int):=by omega
   have e0:=(a.cell (p:=⟨m,u+k*7,MH⟩) l).trans P;have e1:=(a.cell (p:=⟨m,u+k*7+1,MH⟩) l).trans L;have e2:=(a.cell (p:=⟨m,u+k*7+2,MH⟩) l).trans M;have e3:=(a.cell (p:=⟨m,u+k*7+3,MH⟩) l).trans N;have e4:=(a.cell (p:=⟨m,u+k*7+4,MH⟩) l).trans O;have e5:=(a.cell (p:=⟨m,u+k*7+5,MH⟩) l).trans Q;have e6:=(a.cell (p:=⟨m,u+k*7+6,MH⟩) l).trans z6;rw[a3]at e3;have a1:=j.F7 b (by rw[aeF];exact U);rw[afI _ U]at a1;have a2:=j.Gu b;obtain⟨d,F⟩:∃d:Int,d=((abu (fs.take k) (b:Int):Nat):Int):=⟨_,rfl⟩;rw[<-F]at a1;have j2:0<=d/\d<=40:=by have:=aj7 (fs.take k) (b:Int);rw[NH]at this;omega
   have j1:IntKind.i64.wrap (d+1)=d+1:=by rw[Ow];omega
   have e9:m<wr.heap.size:=M8 l a.size;have f6:(k:Int)<(fs.length:Int):=by omega
   have R:M6 (_/\_/\_/\_/\_/\_):=⟨j,a,b6,a5,a3,F⟩;clear j a a5 a3 F P L M N O Q z6 d4 b5 l;have i7:¬w.heap.size=wr.heap.size:=by omega
   have i4:¬wr.heap.size=w.heap.size:=by omega
   go_wp2
   go_roundw
   case rel =>
    obtain⟨j,a,b6,a5,a3,F⟩:=R.out;refine⟨k+1,by simp,hlt,?_,?_,?_⟩
    ·rw[a5,aoP _ _ U a3,<-F]
     first
     |exact(j.F4 b (d+1)).below (WQ _)
     |exact(j.below (WQ _)).set b (d+1)
    ·first
     |exact(a.setCell (p:=⟨w.heap.size,b,MH⟩) (MV _) _).alloc (by simp;omega) _
     |exact(a.alloc (by omega) _).setCell (p:=⟨w.heap.size,b,none⟩) (Nat.le_refl _) _
    ·simp;omega
   case measure=>simp[intOf];omega
  ·obtain rfl:k=fs.length:=by omega
   rw[NT]at j;have i5:¬((fs.length:Int)<(fs.length:Int)):=by omega
   have b4:=H.out.1.below a;have f0:=b4.Gn;have i6:=b4.lt;obtain⟨al,j3,g3,i9,e8,d3⟩:=adt.F6 H.out.1.rest.book.now.1;injection g3 with el1 _ el3;unfold NE at e8;rw[el1,el3]at f0;obtain⟨W1,h6⟩:∃W1,W1=wr:=⟨_,rfl⟩;subst h6;have HL:M6 (_/\_/\_/\_):=⟨j,a,b6,d3⟩;clear j a b4 hlt d3 el1 el3;go_wp2
   go_loopw [8,31] (fun s8 t wr=>∃(k:Nat) (p:Option Oc) (n c:Nat),s8=MG p n c/\t=MF ME k/\k<=G.liv.length/\n=(aaH G fs k).length/\wr.ownsRow (w.heap.size+1) 298 3 (MG p n c) n (rv adk (aaH G fs k))/\Xj 232 12 wr w.heap.size (abc fs)/\MQ w.heap.size w wr/\w.heap.size<wr.heap.size) (fun _ t _=>G.liv.length-(intOf t).toNat)
   case atStart=>exact⟨0,MH,0,0,rfl,rfl,Nx _,rfl,NY _ _ _ _,HL.out.1,HL.out.2.1,HL.out.2.2.1⟩
   case round =>
    obtain⟨k,p,n,c,rfl,rfl,hk,J,D,j,a,d0⟩:=hrel
    by_cases hlt:k<G.liv.length
    ·obtain⟨m,u,f8,l,P,L,M,N,O,Q⟩:=HL.out.2.2.2 k hlt
     subst f8;have a4:=Nk hlt;have Y:=(H.out.2.1.lf a4).1.1;have S:=ap0 (G:=G) fs hlt;have I:=apZ (G:=G) fs hlt;have d8:=apY (G:=G) fs k;obtain⟨⟨x1,x2,A,B,C,E⟩,b8⟩:∃x,x=G.liv[k]:=⟨_,rfl⟩;rw[<-b8]at P L M N O Q a4 Y S I;have Y:0<=x1/\x1<=11:=Y;obtain⟨b,rfl⟩:=NL Y.1;have U:b<12:=by omega
     have f5:(b:Int)<12:=by omega
     have h0:(0:Int)<=(b:Int):=by omega
     have e0:=(a.cell (p:=⟨m,u+k*6,MH⟩) l).trans P;have e1:=(a.cell (p:=⟨m,u+k*6+1,MH⟩) l).trans L;have e2:=(a.cell (p:=⟨m,u+k*6+2,MH⟩) l).trans M;have e3:=(a.cell (p:=⟨m,u+k*6+3,MH⟩) l).trans N;have e4:=(a.cell (p:=⟨m,u+k*6+4,MH⟩) l).trans O;have e5:=(a.cell (p:=⟨m,u+k*6+5,MH⟩) l).trans Q;have e9:m<wr.heap.size:=M8 l a.size;have f6:(k:Int)<(G.liv.length:Int):=by omega
     by_cases h2:x2=2
     ·subst h2
      have S:=S rfl;obtain⟨K,a9⟩:∃K,K=wr.alloc (YQ ((b:Int),2,A,B,C,E)):=⟨_,rfl⟩;have T:MQ wr.heap.size wr K:=by rw[a9];exact WQ wr
      have b2:K.heap[wr.heap.size]?=MI (YQ ((b:Int),2,A,B,C,E)):=by rw[a9];exact M1 _ _
      have b9:=j.below T;have d2:=YI D T;have d7:=(H.out.1.below a).below T;have a6:∀ {X:MO},X.heap[wr.heap.size]?=MI (YQ ((b:Int),2,A,B,C,E))->X.cell? ⟨wr.heap.size,0,MH⟩=MI (MF ME (b:Int))/\X.cell? ⟨wr.heap.size,1,MH⟩=MI (MF ME 2)/\X.cell? ⟨wr.heap.size,2,MH⟩=MI (MF ME A)/\X.cell? ⟨wr.heap.size,3,MH⟩=MI (MF ME B)/\X.cell? ⟨wr.heap.size,4,MH⟩=MI (MF ME C)/\X.cell? ⟨wr.heap.size,5,MH⟩=MI (MF ME E):=fun {X} hX =>
       ⟨by rw[MW X _ 0 _ _ (0,0) hX];rfl,by rw[MW X _ 1 _ _ (0,0) hX];rfl,by rw[MW X _ 2 _ _ (0,0) hX];rfl,by rw[MW X _ 3 _ _ (0,0) hX];rfl,by rw[MW X _ 4 _ _ (0,0) hX];rfl,by rw[MW X _ 5 _ _ (0,0) hX];rfl⟩
      obtain⟨d,F⟩:∃d:Int,d=((abu fs (b:Int):Nat):Int):=⟨_,rfl⟩;obtain⟨wt,b7⟩:∃wt,wt=abV G ((b:Int),2,A,B,C,E):=⟨_,rfl⟩;have a0:∀ {X:MO},Xj 232 12 X w.heap.size (abc fs)->X.cell? ⟨w.heap.size,b,MH⟩=MI (MF ME d):=fun {X} hX=>by
       have:=hX.F7 b (by rw[aeF];exact U);rw[afI _ U,<-F]at this;exact this
      have g5:M6 (∀X:MO,MQ K.heap.size K X->Ni MK 169 #[gP g,abR ((b:Int),2,A,B,C,E)] X fun r w'=>r=MN (MF ME wt)/\∃q c' s,
        (w'.cell? ⟨wr.heap.size,0,MH⟩=MI (MF ME (b:Int))/\w'.cell? ⟨wr.heap.size,1,MH⟩=MI (MF ME 2)/\w'.cell? ⟨wr.heap.size,2,MH⟩=MI (MF ME A)/\w'.cell? ⟨wr.heap.size,3,MH⟩=MI (MF ME B)/\w'.cell? ⟨wr.heap.size,4,MH⟩=MI (MF ME C)/\w'.cell? ⟨wr.heap.size,5,MH⟩=MI (MF ME E)/\w'.cell? ⟨w.heap.size,b,MH⟩=MI (MF ME d)) /\
        ((w'.alloc (MP #[MF ME (b:Int),MF ME wt,MF ME d] 298)).cell? ⟨wr.heap.size,0,MH⟩=MI (MF ME (b:Int))/\(w'.alloc (MP #[MF ME (b:Int),MF ME wt,MF ME d] 298)).cell? ⟨wr.heap.size,1,MH⟩=MI (MF ME 2)/\(w'.alloc (MP #[MF ME (b:Int),MF ME wt,MF ME d] 298)).cell? ⟨wr.heap.size,2,MH⟩=MI (MF ME A)/\(w'.alloc (MP #[MF ME (b:Int),MF ME wt,MF ME d] 298)).cell? ⟨wr.heap.size,3,MH⟩=MI (MF ME B)/\(w'.alloc (MP #[MF ME (b:Int),MF ME wt,MF ME d] 298)).cell? ⟨wr.heap.size,4,MH⟩=MI (MF ME C)/\(w'.alloc (MP #[MF ME (b:Int),MF ME wt,MF ME d] 298)).cell? ⟨wr.heap.size,5,MH⟩=MI (MF ME E)/\(w'.alloc (MP #[MF ME (b:Int),MF ME wt,MF ME d] 298)).cell? ⟨w.heap.size,b,MH⟩=MI (MF ME d)) /\
        (s.cell? ⟨wr.heap.size,0,MH⟩=MI (MF ME (b:Int))/\s.cell? ⟨wr.heap.size,1,MH⟩=MI (MF ME 2)/\s.cell? ⟨wr.heap.size,2,MH⟩=MI (MF ME A)/\s.cell? ⟨wr.heap.size,3,MH⟩=MI (MF ME B)/\s.cell? ⟨wr.heap.size,4,MH⟩=MI (MF ME C)/\s.cell? ⟨wr.heap.size,5,MH⟩=MI (MF ME E)/\s.cell? ⟨w.heap.size,b,MH⟩=MI (MF ME d)) /\
        M6 ((N2 #[246,246] 246 #[MG p n c,MG (MI ⟨w'.heap.size,0,MH⟩) 1 1]).run MK (w'.alloc (MP #[MF ME (b:Int),MF ME wt,MF ME d] 298))=.ok (MG (MI ⟨q,0,MH⟩) (n+1) c') s/\s.ownsRow (w.heap.size+1) 298 3 (MG (MI ⟨q,0,MH⟩) (n+1) c') (n+1) (rv adk (aaH G fs (k+1)))/\Xj 232 12 s w.heap.size (abc fs)/\MQ w.heap.size w s/\w.heap.size<s.heap.size)):=by
       refine fun X hX=>(aq4 (d7.below hX) H.out.2.1 a4).mono ?_
       rintro r w' ⟨rfl,g9⟩;have a7:MQ K.heap.size K w':=hX.trans (g9.mono hX.size);have b0:=b9.below a7;have h8:=YI d2 a7;have a8:=WO b2 a7;have g2:MQ w.heap.size w w':=(a.trans (T.mono a.size)).trans (a7.mono (Nm a.size T.size));obtain⟨q,c',s,hr,g1,g8,d5⟩:=ap2 h8 (Nm (by omega) (Nm T.size a7.size)) (by omega) ((b:Int),wt,d);have d1:∀z,p.map (·.block)=MI z->w.heap.size+1<=z/\z<wr.heap.size:=fun z e=>D.lt z (by rw[XV];exact e)
       have g0:wr.heap.size<w'.heap.size:=(ZAa.1 a8).1;have g7:=(d5 wr.heap.size g0 (fun e=>by have:=(d1 _ e).2;omega)).trans a8;have b3:=b0.Gf (d5 w.heap.size b0.lt (fun e=>by have:=(d1 _ e).1;omega));have i1:=WO a8 (WQ w' (o:=MP #[MF ME (b:Int),MF ME wt,MF ME d] 298));have f9:=b0.below (WQ w' (o:=MP #[MF ME (b:Int),MF ME wt,MF ME d] 298));have Z:=a6 a8;have f2:=a6 i1;have f3:=a6 g7;refine⟨by rw[b7],q,c',s,⟨Z.1,Z.2.1,Z.2.2.1,Z.2.2.2.1,Z.2.2.2.2.1,Z.2.2.2.2.2,a0 b0⟩,⟨f2.1,f2.2.1,f2.2.2.1,f2.2.2.2.1,f2.2.2.2.2.1,f2.2.2.2.2.2,a0 f9⟩,⟨f3.1,f3.2.1,f3.2.2.1,f3.2.2.2.1,f3.2.2.2.2.1,f3.2.2.2.2.2,a0 b3⟩,hr,?_,b3,g2.trans (g8.mono (Ps _)),b3.lt⟩;rw[S,<-b7,<-F];exact g1
      obtain⟨y0,y1,y2,y3,y4,y5⟩:=a6 b2;have yc:=a0 b9;have j4:wr.heap.size<K.heap.size:=(ZAa.1 b2).1;have i3:M6 (n+1=(aaH G fs (k+1)).length):=by show n+1=_;rw[S,Ns,<-J];rfl
      clear D j a S I b8 P L M N O Q a4 Y T b2 b9 d2 d7 a6 a0 F b7 J d8 l
      go_wp2_with fail
      rw[<-a9];clear a9
      go_region_held3 (fun X=>X.cell? ⟨wr.heap.size,0,MH⟩=MI (MF ME (b:Int))/\X.cell? ⟨wr.heap.size,1,MH⟩=MI (MF ME 2)/\X.cell? ⟨wr.heap.size,2,MH⟩=MI (MF ME A)/\X.cell? ⟨wr.heap.size,3,MH⟩=MI (MF ME B)/\X.cell? ⟨wr.heap.size,4,MH⟩=MI (MF ME C)/\X.cell? ⟨wr.heap.size,5,MH⟩=MI (MF ME E)/\X.cell? ⟨w.heap.size,b,MH⟩=MI (MF ME d)) (first|exact⟨y0,y1,y2,y3,y4,y5,yc⟩|exact g6|exact h7|exact g4) (first|(go_at_call 169;refine(g5.out _ (by first|exact(MY _ _).drew|exact Below.refl _ _)).mono ?_;rintro r w4 ⟨rfl,q,c',s,g6,h7,g4,hQ⟩)|(refine aec (by rfl) _ _ 246 (by rfl) _ _ _ _ (by rfl) (by rfl) hQ.out.1 ?_))
      all_goals
       go_wp2
       go_roundw
       case rel=>exact⟨k+1,MI ⟨q,0,MH⟩,n+1,c',rfl,by simp,hlt,i3.out,hQ.out.2.1,hQ.out.2.2.1,hQ.out.2.2.2.1,hQ.out.2.2.2.2⟩
       case measure=>simp[intOf];omega
     ·have I:=I h2
      have j6:(x2 == 2)=false:=by rw[Oh];exact h2
      have R:M6 (_/\_/\_/\_/\_/\_):=⟨D,j,a,d0,J,I⟩;clear D j a S I b8 P L M N O Q a4 Y J d8 l;go_wp2
      go_roundw
      case rel =>
       obtain⟨D,j,a,d0,J,I⟩:=R.out;refine⟨k+1,p,n,c,rfl,by simp,hlt,by rw[I];exact J,by rw[I];exact D.alloc _,j.below (WQ _),a.alloc (by omega) _,by simp;omega⟩
      case measure=>simp[intOf];omega
    ·obtain rfl:k=G.liv.length:=by omega
     have j0:¬((G.liv.length:Int)<(G.liv.length:Int)):=by omega
     rw[apX]at J D;have R:M6 (_/\_/\_):=⟨D,a,J⟩;clear D a J j;go_wp2;go_ret;refine⟨_,rfl,?_,R.out.2.1⟩;have h9:=Yr R.out.1;rw[ak5,R.out.2.2]at h9;rw[R.out.2.2];exact h9
end
section
variable {base:Nat}{w:MO}{g:Nat}{V:Vs}{G:Gt}
abbrev ag8(G:Gt):Obj:=MP #[MF ME G.cfg.flows,MF ME G.cfg.num,MF ME G.cfg.den,MF ME G.cfg.tries,MF ME G.cfg.warm,MF ME G.cfg.drain,MF ME G.cfg.idle,MF ME G.cfg.conn,MF ME G.cfg.ret,MF ME G.cfg.most,MF ME G.cfg.bn,MF ME G.cfg.bd,MF ME G.cfg.bb,MF ME G.cfg.wn,MF ME G.cfg.wf,MF ME G.cfg.wh] 35
theorem ahb(h:OR base w g V G)(hbs:Bs G)(hkey:0<=key/\key<=4294967295)(v:M7)(fs:List Fl)(hv:ZR w v fs)(hfs:∀f∈fs,0<=f.be/\f.be<12)(hl:fs.length<=40):
  Ni MK 83 #[gP g,MF ME key,v] w fun r w'=>r=MN (Nv #[MF ME (XD G key fs).1,M3 ((XD G key fs).2 == 0)])/\MQ w.heap.size w w':=by
 obtain⟨D,rfl⟩:=NL hkey.1;obtain⟨N,L,rfl,b0,a8,_⟩:=hv.F6;unfold NE at a8;obtain⟨j,A⟩:∃j,j=acy (WW G.wts) (abp D:Nat):=⟨_,rfl⟩;have C:=auo (MG V.ps (WW G.wts).length V.cs) G.wts D w hbs.wts h.rest.ring.now (by omega);rw[<-A]at C;have a5:=h.GX;have b2:=h.lt;obtain⟨O,E⟩:∃O,O=XD G (D:Int) fs:=⟨_,rfl⟩;have I:O=ab6 j (aab G fs) G.cfg.num G.cfg.den (fs.length:Int) G.cfg.tries:=by
  rw[E,A];unfold XD ahS;rw[NR]
 rw[<-E];have H:M6 (_/\_/\_/\_/\_/\_/\_):=⟨h,hbs,hv,hfs,hl,C,I⟩;clear h hbs hv hfs C E I A hkey;go_enter Vw,Vt
 go_wp2_with fail
 refine Nd H.out.2.2.2.2.2.1 ?_;rintro r e ⟨p,c,rfl,M,n⟩;have a:=H.out.1.below n;have c0:=a.c0;have c1:=a.c1;have c2:=a.c2;have c3:=a.c3;have c4:=a.c4;have c5:=a.c5;have c6:=a.c6;have c7:=a.c7;have c8:=a.c8;have c9:=a.c9;have a0:=a.Hf;have T:=a.Hn;have U:=a.Hg;have a4:=a.GS;have a6:=a.GU;have Z:=a.GO;have a9:=a.lt;obtain⟨W,u⟩:∃W,W=e.alloc (ag8 G):=⟨_,rfl⟩;have q:MQ e.heap.size e W:=by rw[u];exact WQ e
 have o:W.heap[e.heap.size]?=MI (ag8 G):=by rw[u];exact M1 _ _
 have K:=a.below q;have B:MQ w.heap.size w W:=n.trans (q.mono n.size);have F:ZR W (MG N fs.length L) fs:=Xw.below H.out.2.2.1 B;have J:abE W (MG p j.length c) j:=Yr (YI M q);have s:∀ {X:MO},X.heap[e.heap.size]?=MI (ag8 G)->X.cell? ⟨e.heap.size,1,MH⟩=MI (MF ME G.cfg.num)/\X.cell? ⟨e.heap.size,2,MH⟩=MI (MF ME G.cfg.den)/\X.cell? ⟨e.heap.size,3,MH⟩=MI (MF ME G.cfg.tries):=fun {X} hX =>
  ⟨by rw[MW X _ 1 _ _ (0,0) hX];rfl,by rw[MW X _ 2 _ _ (0,0) hX];rfl,by rw[MW X _ 3 _ _ (0,0) hX];rfl⟩
 have a3:M6 (∀X,MQ W.heap.size W X->Ni MK 121 #[gP g,MG N fs.length L] X fun r w'=>∃z m d,r=MN (MG z m d)/\(w'.cell? ⟨e.heap.size,1,MH⟩=MI (MF ME G.cfg.num)/\w'.cell? ⟨e.heap.size,2,MH⟩=MI (MF ME G.cfg.den)/\w'.cell? ⟨e.heap.size,3,MH⟩=MI (MF ME G.cfg.tries))/\M6 (aaR w' (MG z m d) (aab G fs)/\MQ W.heap.size W w')):=by
  refine fun X hX=>(ap1 (K.below hX) H.out.2.1 _ fs (Xw.below F hX) H.out.2.2.2.1 H.out.2.2.2.2.1).mono ?_
  rintro r w' ⟨y,rfl,t,x⟩;obtain⟨z,d,rfl,_⟩:=t.F6;have l:=hX.trans (x.mono hX.size);exact⟨z,_,d,rfl,s (WO o l),t,l⟩
 have HP:M6 (∀X z m d,MQ W.heap.size W X->aaR X (MG z m d) (aab G fs)->Ni MK 120 #[MG p j.length c,MG z m d,MF ME G.cfg.num,MF ME G.cfg.den,MF ME (fs.length:Int),MF ME G.cfg.tries] X fun r w'=>r=MN (Nv #[MF ME O.1,MF ME O.2])/\(w'.cell? ⟨e.heap.size,1,MH⟩=MI (MF ME G.cfg.num)/\w'.cell? ⟨e.heap.size,2,MH⟩=MI (MF ME G.cfg.den)/\w'.cell? ⟨e.heap.size,3,MH⟩=MI (MF ME G.cfg.tries))/\M6 (MQ W.heap.size W w')):=by
  refine fun X z m d hX t=>(atd (MG p j.length c) (MG z m d) j (aab G fs) G.cfg.num G.cfg.den (fs.length:Int) G.cfg.tries X (J.below hX) t).mono ?_
  rw[<-H.out.2.2.2.2.2.2];rintro r w' ⟨rfl,x⟩;have l:=hX.trans (x.mono hX.size);exact⟨rfl,s (WO o l),l⟩
 have R:=s o;have Q:M6 _:=B;clear a K n q o F J s B M
 go_wp2_with fail
 rw[<-u];clear u c0 c1 c2 c3 c4 c5 c6 c7 c8 c9 a0 T U a4 a6 Z a5
 go_region_held3 (fun X=>X.cell? ⟨e.heap.size,1,MH⟩=MI (MF ME G.cfg.num)/\X.cell? ⟨e.heap.size,2,MH⟩=MI (MF ME G.cfg.den)/\X.cell? ⟨e.heap.size,3,MH⟩=MI (MF ME G.cfg.tries)) (first|exact R|exact Y|exact a7) (first|(go_at_call 121;refine(a3.out _ (by first|exact(MY _ _).drew|exact Below.refl _ _)).mono ?_;rintro r w4 ⟨z,m,d,rfl,Y,P⟩)|(go_at_call 120;refine(HP.out _ z m d P.out.2 P.out.1).mono ?_;rintro r w5 ⟨rfl,a7,S⟩))
 all_goals
  go_wp2
  go_ret2
  exact⟨rfl,Q.out.trans (S.out.mono Q.out.size)⟩
end
section
variable {base:Nat}{w:MO}{g:Nat}{V:Vs}{G:Gt}
theorem ao8{w':MO}{r:Ending}{G':Gt}(h:aaa base w g V G' r w'):aam base w g V G' r w':=by
 obtain⟨e,a,d,f,c⟩:=h;exact⟨e,a,d,f.2.2,c⟩
theorem aqb(h:OR base w g V G)(hbs:Bs G)(hw:G.wnow=G.now)(hl:G.out.length<=900000)(hkey:0<=key/\key<=4294967295):
  Ni MK 56 #[gP g,MF ME key] w (aam base w g V (aaI G key)):=by
 have J:M6 _:=aoR (MG V.pt G.tab.length V.ct) G.tab w h.rest.tab.now;have d2:=h.Gs;have g5:=h.lt;have b9:∀f∈G.fls,0<=f.be/\f.be<12:=fun f hf=>(hbs.F9 hf).2.2.2
 have H:M6 (_/\_/\_/\_):=⟨h,hbs,hl,b9⟩;obtain⟨O,a⟩:∃O,O=aaI G key:=⟨_,rfl⟩;rw[<-a];have Z:=a;unfold aaI at a;clear h hbs hl b9;cases hfree:G.tab.any Y1
 ·rw[hfree,Nh rfl]at a
  rw[hfree]at J;have HO:M6 _:=a;clear a Z;go_enter azX,azT
  go_wp2_with fail
  refine Nd J.out ?_;rintro r w1 ⟨rfl,m⟩;have o:M6 (_/\_):=⟨af1 (H.out.1.below m) (by have:=H.out.2.2.1;omega) 2 9,WV.F5 (V:=V) (g:=g) m⟩;clear m
  go_wp2_with fail
  refine Nd o.out.1 ?_;rintro r w2 ⟨rfl,V2,u,I,F⟩;have p:M6 (_/\_/\_):=⟨u,I.2.2,o.out.2.F0 F⟩;clear u I F;go_wp2
  go_end0
  rw[HO.out];exact⟨rfl,V2,p.out.1,p.out.2.1,p.out.2.2⟩
 ·rw[hfree,Nf (by decide)]at a
  rw[hfree]at J;obtain⟨⟨K,Q⟩,q⟩:∃Q,Q=XD G key G.fls:=⟨_,rfl⟩
  by_cases hc0:Q=0
  ·subst hc0
   rw[<-q]at a;simp only[]at a;rw[Nf (by decide)]at a;have a4:=H.out.2.1.Ib (key:=key) H.out.2.1.Gb (by rw[<-q]);rw[<-q]at a4;have a9:0<=K/\K<12:=a4.2;obtain⟨d,B⟩:∃d,d=abv G key K:=⟨_,rfl⟩;obtain⟨i,P⟩:∃i,i=Y3 G.fls (Y8 G.tab key K).2.1.1:=⟨_,rfl⟩;rw[<-B,<-P]at a;have b4:Bs d:=by rw[B];exact H.out.2.1.Jn hfree hkey a9
   have b5:i<d.fls.length:=by
    rw[B,P];show Y3 G.fls _<(Xi G.fls _ (Y3 G.fls _)).length;rw[ad1 _ _ (ad4 _ _)];have:=ad4 G.fls (Y8 G.tab key K).2.1.1;omega
   have y:d.cfg=G.cfg/\d.now=G.now/\d.wnow=G.wnow/\d.tok=G.tok/\d.out=G.out:=by rw[B];exact⟨rfl,rfl,rfl,rfl,rfl⟩
   have c:M6 (_/\_/\_/\_/\_/\_/\_/\_):=⟨a,b4,b5,y,a9,B,P,hw⟩;have Y:M6 _:=q;clear a Z b4 y a9 B P a4 hw q b5;go_enter azX,azT
   go_wp2_with fail
   refine Nd J.out ?_;rintro r w1 ⟨rfl,m⟩;have l:=H.out.1.below m;have d4:=l.Gr;have b3:=l.lt;have z:=ahb l H.out.2.1 hkey _ G.fls l.GK H.out.2.2.2 H.out.2.1.Gb;rw[<-Y.out]at z;have o:M6 (_/\_/\_):=⟨z,l,WV.F5 (V:=V) (g:=g) m⟩;clear m l z d2
   go_wp2_with fail
   refine Nd o.out.1 ?_;rintro r w2 ⟨rfl,A⟩;have u:=o.out.2.1.below A;have T:=aql u H.out.2.1 hfree hkey c.out.2.2.2.2.1;rw[<-c.out.2.2.2.2.2.1,<-c.out.2.2.2.2.2.2.1]at T;have p:M6 (_/\_):=⟨T,o.out.2.2.below A⟩;clear A u T d4 b3
   go_wp2_with fail
   refine Nd p.out.1 ?_;rintro r w3 ⟨V3,bf,rfl,N,R,b0,e8⟩;have e7:w3.cell? ⟨g,7,MH⟩=MI (MF ME G.cfg.conn):=by rw[<-c.out.2.2.2.1.1];exact N.c7
   have f5:=N.lt;have d0:=H.out.2.1.now;have y:=c.out.2.2.2.1;have d3:=af2 N c.out.2.2.1 R (n:=G.cfg.conn) H.out.2.1.conn (c.out.2.1.F9 (Nk c.out.2.2.1)).1 (by rw[y.2.2.1,y.2.1];exact c.out.2.2.2.2.2.2.2) (by rw[y.2.1];exact d0);have v:M6 (_/\_/\_/\_):=⟨d3,p.out.2.F0 e8,R,b0⟩;clear N e8 R b0 d3 d0 y
   go_wp2_with fail
   refine Nd v.out.1 ?_;rintro r C ⟨rfl,V4,s,S,b8⟩;obtain⟨j,L⟩:∃j,j=YW d i G.cfg.conn:=⟨_,rfl⟩;rw[<-L]at s;have x:j.cfg=d.cfg/\j.tok=d.tok/\j.out=d.out/\j.fls.length=d.fls.length:=by rw[L];exact⟨rfl,rfl,rfl,by show(d.fls.set i _).length=_;rw[NA]⟩
   have a7:i<j.fls.length:=by rw[x.2.2.2];exact c.out.2.2.1
   have b6:V4.pf=MI ⟨bf,0,MH⟩:=S.1.trans v.out.2.2.1;obtain⟨f,a3⟩:∃f,f=j.fls[i]:=⟨_,rfl⟩;have fc:∀(X:MO) (V':Vs) (t:Int),OR base X g V' {j with tok:=t}->V'.pf=MI ⟨bf,0,MH⟩->X.cell? ⟨bf,i*7,MH⟩=MI (MF ME f.slot)/\X.cell? ⟨bf,i*7+1,MH⟩=MI (MF ME f.gen)/\X.cell? ⟨bf,i*7+2,MH⟩=MI (MF ME f.key)/\X.cell? ⟨bf,i*7+3,MH⟩=MI (MF ME f.be)/\X.cell? ⟨bf,i*7+4,MH⟩=MI (M3 f.srv)/\X.cell? ⟨bf,i*7+5,MH⟩=MI (MF ME f.ret)/\X.cell? ⟨bf,i*7+6,MH⟩=MI (MF ME f.due):=fun X V' t hX hp=>by
    rw[a3];exact hX.Gl hp a7
   have g0:C.cell? ⟨g,10,MH⟩=MI (MF ME G.cfg.bn):=by rw[<-c.out.2.2.2.1.1,<-x.1];exact s.Hf
   have g1:C.cell? ⟨g,11,MH⟩=MI (MF ME G.cfg.bd):=by rw[<-c.out.2.2.2.1.1,<-x.1];exact s.Hn
   have g3:C.cell? ⟨g,12,MH⟩=MI (MF ME G.cfg.bb):=by rw[<-c.out.2.2.2.1.1,<-x.1];exact s.Hg
   have d1:C.cell? ⟨g,23,MH⟩=MI (MF ME G.tok):=by rw[<-c.out.2.2.2.1.2.2.2.1,<-x.2.1];exact s.Id
   have f0:=s.lt;obtain⟨tk,a5⟩:∃tk,tk=(aa9 G.cfg.bn G.cfg.bd G.cfg.bb G.tok).1:=⟨_,rfl⟩;have b2:=v.out.2.1.F0 b8;have HE:M6 (∀X,MQ C.heap.size C X->Ni MK 86 #[Ny #[MF ME G.cfg.bn,MF ME G.cfg.bd,MF ME G.cfg.bb],Ny #[MF ME G.tok]] X fun r D=>∃e,r=MN (Nv #[Ny #[MF ME tk],MF ME e])/\D.cell? ⟨g,23,MH⟩=MI (MF ME G.tok)/\D.frozen? ⟨g,23,MH⟩=Nb/\g<D.heap.size/\M6 (OR base (D.setCell ⟨g,23,MH⟩ (MF ME tk)) g V4 {j with tok:=tk}/\WV V V4 g w (D.setCell ⟨g,23,MH⟩ (MF ME tk)))):=by
    refine fun X hX=>(ajR G.cfg.bn G.cfg.bd G.cfg.bb G.tok X).mono ?_
    rintro r D ⟨rfl,g4⟩;have a8:=hX.trans (g4.mono hX.size);have a0:=s.below a8;exact⟨_,by rw[a5],(a8.cell f0).trans d1,a0.fz 23,a0.lt,a0.IC tk,(b2.below a8).F4 23 _⟩
   have E:M6 (_/\_/\_/\_/\_/\_):=⟨fc,b6,S.2.2.trans v.out.2.2.2,x,L,a5⟩;have f8:M6 (f=Xs j i):=by show f=_;rw[XA a7,a3]
   clear s S b8 x L fc b6 b2 a5 a3 a7 e7 f5
   go_wp2_with fail
   go_region_with (first|(go_at_call 86;refine(HE.out _ (by first|exact(MY _ _).drew|exact Below.refl _ _)).mono ?_;rintro r w5 ⟨ee,rfl,f6,g2,e9,hQ⟩))
   all_goals
    obtain⟨w6,U⟩:∃w6,w6=w5.setCell ⟨g,23,MH⟩ (MF ME tk):=⟨_,rfl⟩;have M:=hQ.out.1;have a6:=hQ.out.2;rw[<-U]at M a6;obtain⟨x0,x1,x2,x3,x4,x5,x6⟩:=E.out.1 _ _ _ M E.out.2.1;have d8:({j with tok:=tk}:Gt).out.length<=1000000:=by show j.out.length<=1000000;rw[E.out.2.2.2.1.2.2.1,c.out.2.2.2.1.2.2.2.2];have:=H.out.2.2.1;omega
    have H6:M6 (_/\_):=⟨aeP M d8 1 f,a6⟩;clear hQ M a6 d8 f6 g2 e9 g0 g1 g3 d1;rw[<-U];clear U
    go_wp2_with fail
    refine Nd H6.out.1 ?_;rintro r w7 ⟨rfl,V7,b7,d5,d7⟩;have H7:M6 (_/\_/\_):=⟨b7,d5.2.2.trans E.out.2.2.1,H6.out.2.F0 d7⟩;clear b7 d5 d7;go_wp2
    go_end0
    have hz:O=abi {j with tok:=tk} 1 f:=by rw[c.out.1,f8.out,E.out.2.2.2.2.2,E.out.2.2.2.2.1]
    rw[hz];exact⟨rfl,V7,H7.out.1,H7.out.2.1,H7.out.2.2⟩
  ·rw[<-q]at a
   simp only[]at a;rw[Nh hc0]at a;have f9:(Q == 0)=false:=by rw[Oh];exact hc0
   have HO:M6 _:=a;have Y:M6 _:=q;clear a Z q;go_enter azX,azT
   go_wp2_with fail
   refine Nd J.out ?_;rintro r w1 ⟨rfl,m⟩;have l:=H.out.1.below m;have d4:=l.Gr;have b3:=l.lt;have z:=ahb l H.out.2.1 hkey _ G.fls l.GK H.out.2.2.2 H.out.2.1.Gb;rw[<-Y.out,f9]at z;have o:M6 (_/\_/\_):=⟨z,l,WV.F5 (V:=V) (g:=g) m⟩;clear m l z d2
   go_wp2_with fail
   refine Nd o.out.1 ?_;rintro r w2 ⟨rfl,A⟩;have p:M6 (_/\_):=⟨af1 (o.out.2.1.below A) (by have:=H.out.2.2.1;omega) 2 11,o.out.2.2.below A⟩;clear A
   go_wp2_with fail
   refine Nd p.out.1 ?_;rintro r w3 ⟨rfl,V2,u,I,F⟩;have v:M6 (_/\_/\_):=⟨u,I.2.2,p.out.2.F0 F⟩;clear u I F;go_wp2
   go_end0
   rw[HO.out];exact⟨rfl,V2,v.out.1,v.out.2.1,v.out.2.2⟩
end
end
end Go.Proofs.YtgnclkcdnbfeeaaGreatDoor.Q
