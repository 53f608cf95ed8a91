/-
  Contracts of the layers and of core, part 4. Conditions: as each theorem says.
-/
import Derived.Test.YtbdpocjfnnojbaaGreatDoorP9
import Derived.Test.YtbdpocjfnnojbaaGreatDoorP1
import Derived.Test.YtbdpocjfnnojbaaGreatDoorP2
import Derived.Test.YtbdpocjfnnojbaaGreatDoorP3
import Derived.Test.YtbdpocjfnnojbaaGreatDoorP10
open Array renaming getElem?_eq_some_iff->ZAa
open Bool renaming false->Nb,true->Nw
open Decidable renaming decide->Nn
open Go renaming Addr->Oc,Calls->Ni,Program->O8,TypeId->NU,Value->M7,World->MO,maxLen->NE
open Go.Builtin renaming append_->N2,clear_->Rs,zeroCells->N5
open Go.Calls renaming quiet_of->Qe
open Go.Ending renaming returned->MN
open Go.Extern.SlicesOverlaps renaming overlaps->P9
open Go.Fn renaming func->PD
open Go.IntKind renaming i64->ME
open Go.Lit renaming int->N6
open Go.Obj renaming cells->MP
open Go.Proofs.Tryz renaming func106->Ta,func110->ayW,func113->SR,func121->T0,func122->Vk,func123->Uo,func125->azu,func149->Ue,func156->SN,func160->VD,func162->VW,func163->S2,func164->ayS,func169->UM,func171->azL,func174->Wr,func181->azS,func206->RY,func220->Uh,func225->ayV,func231->R2,func232->ayu,func234->TA,func74->Vj,ntmps106->SG,ntmps110->ayL,ntmps113->Sv,ntmps121->TU,ntmps122->Vg,ntmps123->Uc,ntmps125->azo,ntmps149->T4,ntmps156->Ss,ntmps160->Vv,ntmps162->VM,ntmps163->SB,ntmps164->ayI,ntmps169->UA,ntmps171->azC,ntmps174->Wf,ntmps181->azG,ntmps206->RL,ntmps220->T7,ntmps231->RO,ntmps232->ayq,ntmps234->Tz,ntmps74->Vd,prog->MK,results122->Vc,underlying41->PK
open Go.RowKit renaming Below->MQ,Hid->M6
open Go.Value renaming agg->Ny,bool->M3,func->PB,int->MF,pointer->Na,slice->MG,tuple->Nv
open Go.World renaming cell?->Nl,frozen?->Ng,shape?->QO
open List renaming find?_cons_of_neg->Pr,find?_cons_of_pos->Ql,findIdx_cons->Tc,getElem?_eq_some_iff->ZAb,mem_filter->ZAf,mem_map->ZAd,mem_map_of_mem->Ri,pairwise_cons->ZAe,range->Pm,replicate->Nj
open Option renaming none->MH,some->MI
open Or renaming inl->Nt,inr->NF
open Prod.mk renaming injEq->Q7
namespace Go.Proofs.YtbdpocjfnnojbaaGreatDoor.Q
set_option linter.unusedVariables false
set_option linter.unusedSimpArgs false
set_option maxHeartbeats 16000000
set_option maxRecDepth 100000
open Go.RowKit
attribute [local go_sem ↓] Go.wp_at_zero Go.wp_at_succ
section
variable {d n t:Int}{i:Nat}{α:Type}
abbrev awV:=Lf
variable {L:List awV}{l:awV}
abbrev aw0:=Rq
variable {R:List aw0}
abbrev awY:=Sl
structure Fl where
 slot:Int
 gen:Int
 key:Int
 be:Int
 srv:Bool
 ret:Int
 due:Int
 deriving DecidableEq
variable {f y:Fl}{fs:List Fl}
structure Ou where
 kind:Int
 slot:Int
 gen:Int
 be:Int
 req:Int
 code:Int
 why:Int
 deriving DecidableEq
structure He where
 marks:List Bool
 out:Bool
 till:Int
 times:Int
 deriving DecidableEq
structure Gt where
 cfg:Cf
 now:Int
 tab:List awY
 fls:List Fl
 liv:List awV
 req:List aw0
 wts:List Int
 hea:List He
 tok:Int
 wnow:Int
 tms:Tm->Prop
 out:List Ou
abbrev XM:He:=⟨[],Nb,0,0⟩
abbrev ao0:Fl:=⟨0,0,0,0,Nb,0,0⟩
abbrev aa1:awV:=(0,0,0,0,0,0)
abbrev adg(c:Cf):Prop :=
 (1<=c.flows/\c.flows<=40)/\(1<=c.den/\c.den<=c.num)/\c.num<=20/\(0<=c.tries/\c.tries<=12)/\(0<=c.warm/\c.warm<=500) /\
 (1<=c.drain/\c.drain<=500)/\(1<=c.idle/\c.idle<=500)/\(1<=c.conn/\c.conn<=500)/\(0<=c.ret/\c.ret<=20)/\(0<=c.most/\c.most<=100) /\
 Zp c.bn c.bd c.bb/\ZT c.wn c.wf c.wh
def WS(L:List awV)(b:Int):awV:=(L.find? fun x=>x.1 == b).getD aa1
abbrev WY(L:List awV)(b:Int):Int:=(WS L b).2.1
def abu(fs:List Fl)(b:Int):Nat:=fs.countP fun f=>f.be == b
def Zr(fs:List Fl)(b:Int):Bool:=fs.any fun f=>f.be == b
def ZM(G:Gt)(o:Ou):Gt:={G with out:=G.out++[o]}
def acm(G:Gt)(k c:Int):Gt:=ZM G ⟨k,0,0,0,0,c,0⟩
def abi(G:Gt)(k:Int)(f:Fl):Gt:=ZM G ⟨k,f.slot,f.gen,f.be,0,0,0⟩
def aeQ(G:Gt)(b r:Int):Gt:=ZM G ⟨9,0,0,b,r,0,0⟩
def aaF(fs:List Fl)(s:Int):Nat:=fs.findIdx fun f=>f.slot == s
def Yf(G:Gt)(b:Int):Gt :=
 if WY G.liv b=3/\Zr G.fls b=Nb then
  aeQ {G with liv:=(aau G.liv G.req b).1.1,req:=(aau G.liv G.req b).1.2} b (WS G.liv b).2.2.2.2.2
 else G
def abV(G:Gt)(l:awV):Int :=
 if(G.hea.getD l.1.toNat XM).out then 0 else aw1 l.2.2.1 (G.now-l.2.2.2.1) G.cfg.warm
def aab(G:Gt)(fs:List Fl):List (Int×Int×Int):=
 (G.liv.filter fun l=>l.2.1 == 2).map fun l=>(l.1,abV G l,(abu fs l.1:Int))
def ahS(G:Gt)(key:Int):List Int:=acy (WW G.wts) (abp key.toNat:Nat)
def XD(G:Gt)(key:Int)(fs:List Fl):Int×Int :=
 ab6 (ahS G key) (aab G fs) G.cfg.num G.cfg.den (fs.length:Int) G.cfg.tries
def abN(L:List awV):Nat:=L.countP fun l=>l.2.1 == 2
def abf(L:List awV)(H:List He):Nat:=L.countP fun l=>(l.2.1 == 2) && (H.getD l.1.toNat XM).out
def abS(G:Gt)(b:Int):Bool :=
 (acP (abf G.liv G.hea:Int) (abN G.liv:Int) G.cfg.most).1 && (WY G.liv b == 2)
def afO(x:List Bool×Bool×Int×Int):He:=⟨x.1,x.2.1,x.2.2.1,x.2.2.2⟩
def afT(G:Gt)(b:Int)(failed:Bool):He :=
 afO (Zt G.cfg.wn G.cfg.wf G.cfg.wh (G.hea.getD b.toNat XM).marks (G.hea.getD b.toNat XM).out (G.hea.getD b.toNat XM).till (G.hea.getD b.toNat XM).times failed G.now (abS G b)).1
def Yh(G:Gt)(b:Int)(failed:Bool):Gt:={G with hea:=G.hea.set b.toNat (afT G b failed)}
def aeG(G:Gt)(s:Int):Gt:={G with tms:=fun t=>G.tms t/\t.2≠s}
def Xs(G:Gt)(i:Nat):Fl:=G.fls.getD i ao0
def Y4(G:Gt)(i:Nat)(f:Fl):Gt:={G with fls:=G.fls.set i f}
def YW(G:Gt)(i:Nat)(ticks:Int):Gt :=
 {G with fls:=G.fls.set i {Xs G i with due:=G.now+ticks},tms:=fun t=>(G.tms t/\t.2≠(Xs G i).slot)\/t=(G.now+ticks,(Xs G i).slot)}
def Yl(fs:List Fl)(s g:Int):List Fl:=fs.filter fun f=>!((f.slot == s) && (f.gen == g))
def Yg(G:Gt)(f:Fl)(kind why:Int):Gt :=
 Yf (ZM {G with tab:=(ZQ G.tab f.slot f.gen).1,fls:=Yl G.fls f.slot f.gen,tms:=fun t=>G.tms t/\t.2≠f.slot} ⟨kind,f.slot,f.gen,f.be,0,0,why⟩) f.be
def ZL(G:Gt)(i:Nat)(b:Int):Gt :=
 let f:=Xs G i
 let G1:=Y4 {G with tab:=(Y0 G.tab f.slot f.gen b).1} i {f with be:=b,ret:=f.ret+1}
 let G2:=YW G1 i G.cfg.conn
 Yf (abi G2 5 (Xs G2 i)) f.be
def YP(G:Gt)(i:Nat)(why:Int):Gt :=
 let f:=Xs G i
 let G1:=Yh G f.be Nw
 let s:=Zh G.cfg.bn G.cfg.bd G.cfg.bb G.tok
 if f.ret=G.cfg.ret\/s.2≠0 then Yg G1 f 6 why
 else
  let c:=XD G1 f.key (Yl G.fls f.slot f.gen)
  if c.2≠0 then Yg G1 f 6 4
  else ZL {G1 with tok:=s.1} i c.1
def abh(G:Gt)(i:Nat):Gt :=
 let f:=Xs G i
 let G1:=YW (Y4 (Yh G f.be Nb) i {f with srv:=Nw}) i G.cfg.idle
 abi G1 4 (Xs G1 i)
def aaZ(G:Gt)(i:Nat):Gt :=
 let G1:=if(Xs G i).srv then YW G i G.cfg.idle else G
 abi G1 3 (Xs G1 i)
def Y1(t:awY):Bool:=!t.2.1 && (t.1 != 1048576)
def Y3(fs:List Fl)(s:Int):Nat:=fs.findIdx fun f=>Nn (s<f.slot)
def abv(G:Gt)(key b:Int):Gt :=
 let o:=Y8 G.tab key b
 {G with tab:=o.1,fls:=Xi G.fls ⟨o.2.1.1,o.2.1.2,key,b,Nb,0,0⟩ (Y3 G.fls o.2.1.1)}
def aaI(G:Gt)(key:Int):Gt :=
 if G.tab.any Y1=Nb then acm G 2 9
 else
  let c:=XD G key G.fls
  if c.2≠0 then acm G 2 11
  else
   let i:=Y3 G.fls (Y8 G.tab key c.1).2.1.1
   let G2:=YW (abv G key c.1) i G.cfg.conn
   abi {G2 with tok:=(aa9 G.cfg.bn G.cfg.bd G.cfg.bb G.tok).1} 1 (Xs G2 i)
def aaq(G:Gt)(e:Ev):Gt :=
 let c:=(Yj G.tab e.slot e.gen).2
 if c≠0 then acm G 10 c
 else
  let i:=aaF G.fls e.slot
  if e.kind=3 then Yg G (Xs G i) 7 0
  else if e.kind=2 then aaZ G i
  else if(Xs G i).srv then acm G 10 7
  else if e.good then abh G i
  else YP G i 3
def YV(G:Gt)(kind:Int)(e:Ev):ae1:=ZU G.liv G.req (e.req,kind,e.be,e.wt,0) G.now G.cfg.drain
def Yv(G:Gt)(kind:Int)(e:Ev):Gt :=
 ZM {G with liv:=(YV G kind e).1.1,req:=(YV G kind e).1.2} ⟨8,0,0,0,e.req,(YV G kind e).2.1,0⟩
def acC(G:Gt)(kind:Int)(e:Ev):Bool:=(YV G kind e).2.2.1 && ((YV G kind e).2.1 == 0)
def abg(G:Gt)(e:Ev):Gt :=
 if acC G 2 e=Nb then Yv G 2 e
 else if WY G.liv e.be=1 then aeQ (Yv G 2 e) e.be e.req
 else Yf {Yv G 2 e with wts:=G.wts.set e.be.toNat 0} e.be
def YX(G:Gt)(b:Int):Gt:={G with hea:=G.hea.set b.toNat XM,wts:=G.wts.set b.toNat (WS G.liv b).2.2.1}
def YH(G:Gt):Gt :=
 (abn G.liv G.req G.now).2.1.foldl YX {G with liv:=(abn G.liv G.req G.now).1.1,req:=(abn G.liv G.req G.now).1.2}
def abO(G:Gt)(h:He):He:=afO (Ze G.cfg.wn G.cfg.wf G.cfg.wh h.marks h.out h.till h.times G.now).1
def aaC(G:Gt):Gt:={G with hea:=G.hea.map (abO G)}
def X5(G:Gt)(s:Int):Gt :=
 let i:=aaF G.fls s
 if(Xs G i).srv then Yg G (Xs G i) 6 1 else YP G i 5
def aaD(fs:List Fl)(n:Int):List Int:=(fs.filter fun f=>f.due == n).map (·.slot)
def Zs(G:Gt):Gt:=(aaD G.fls (G.wnow+1)).foldl X5 {G with wnow:=G.wnow+1,tms:=fun t=>G.tms t/\t.1≠G.wnow+1}
def Ye(G:Gt)(h:Tm):Gt:=Yg G (Xs G (aaF G.fls h.1)) 6 2
def Zd(G:Gt)(l:awV):Gt :=
 if l.2.1≠3\/G.now<l.2.2.2.2.1 then G else(YL l.1 G.tab).foldl Ye G
def acG(G:Gt):Gt:=G.liv.foldl Zd G
def abj(G:Gt):Gt:=acG (Zs (aaC (YH {G with now:=G.now+1})))
def Xb(G:Gt)(e:Ev):Gt :=
 if e.kind=1 then aaI G e.key
 else if e.kind=5 then Yv G 1 e
 else if e.kind=6 then abg G e
 else if e.kind=7 then abj G
 else aaq G e
abbrev aeE:=Int×Int×Int×Int
def Xx:Int->List awY->List aeE
 |_,[]=>[]
 |n,t::l=>if t.2.1=Nw then(n,t.1,t.2.2.1,t.2.2.2)::Xx (n+1) l else Xx (n+1) l
abbrev Fl.F8(f:Fl):aeE:=(f.slot,f.gen,f.key,f.be)
theorem aeM:∀ {n:Int} {l:List awY} {s:aeE},s∈Xx n l↔∃(i:Nat) (h:i<l.length),s.1=n+i/\l[i].2.1=Nw/\s.2=(l[i].1,l[i].2.2.1,l[i].2.2.2)
 |n,[],s=>by simp[Xx]
 |n,t::l,s=>by
  have a:=@aeM (n+1) l s;have b:(∃(i:Nat) (h:i<(t::l).length),s.1=n+i/\(t::l)[i].2.1=Nw/\s.2=((t::l)[i].1,(t::l)[i].2.2.1,(t::l)[i].2.2.2))↔(s.1=n/\t.2.1=Nw/\s.2=(t.1,t.2.2.1,t.2.2.2))\/s∈Xx (n+1) l:=by
   rw[a];constructor
   ·rintro⟨i,hi,h1,h2,h3⟩
    cases i with
    |zero=>exact Nt ⟨by simpa using h1,h2,h3⟩
    |succ i=>exact NF ⟨i,by simpa using hi,by rw[h1];push_cast;omega,h2,h3⟩
   ·rintro(⟨h1,h2,h3⟩|⟨i,hi,h1,h2,h3⟩)
    ·exact⟨0,by simp,by simpa using h1,h2,h3⟩
    ·exact⟨i+1,by simpa using hi,by rw[h1];push_cast;omega,h2,h3⟩
  rw[b,show Xx n (t::l)=if t.2.1=Nw then(n,t.1,t.2.2.1,t.2.2.2)::Xx (n+1) l else Xx (n+1) l from rfl]
  split
  case isTrue h =>
   rw[OO];constructor
   ·rintro(rfl|h1)
    ·exact Nt ⟨rfl,h,rfl⟩
    ·exact NF h1
   ·rintro(⟨h1,_,h3⟩|h1)
    ·exact Nt (Q8 h1 h3)
    ·exact NF h1
  case isFalse h =>
   constructor
   ·exact NF
   ·rintro(⟨_,h2,_⟩|h1)
    ·exact absurd h2 h
    ·exact h1
theorem afZ{l:List awY}{s:aeE}(h:s∈Xx n l):n<=s.1:=by
 obtain⟨i,_,a,_⟩:=aeM.1 h;omega
theorem ahH:∀ {n:Int} {l:List awY},(Xx n l).Pairwise (fun a b=>a.1<b.1)
 |n,[]=>by simp[Xx]
 |n,t::l=>by
  unfold Xx
  split
  case isTrue h=>exact ZAe.2 ⟨fun s hs=>by have:=afZ hs;show n<s.1;omega,ahH⟩
  case isFalse h=>exact ahH
theorem ak8:∀ {n:Int} {l:List awY},(Xx n l).length<=l.length
 |n,[]=>by simp[Xx]
 |n,t::l=>by
  have:=@ak8 (n+1) l;unfold Xx
  split <;> simp <;> omega
theorem ak6{x:awY}(hx:x.2.1=Nb):∀ {n:Int} {l:List awY} {k:Nat},k<l.length->Xx n (l.set k x)=(Xx n l).filter (fun s=>s.1 != n+k)
 |n,t::l,0,_=>by
  have a:(Xx (n+1) l).filter (fun s=>s.1 != n)=Xx (n+1) l:=List.filter_eq_self.2 fun s hs=>by have:=afZ hs;simp;omega
  simp only[ML,Xx,hx]
  by_cases h:t.2.1=Nw
  ·simp[h,a]
  ·simp[h,a]
 |n,t::l,k+1,hk=>by
  have b:=@ak6 x hx (n+1) l k (by simpa using hk);have e:∀s:aeE,(s.1 != n+((k+1:Nat):Int))=(s.1 != n+1+(k:Int)):=fun s=>by rw[show n+((k+1:Nat):Int)=n+1+(k:Int)by push_cast;omega]
  simp only[MM,Xx,b,e]
  by_cases h:t.2.1=Nw
  ·have:(n != n+1+(k:Int))=true:=by simp;omega
   simp[h,this]
  ·simp[h]
theorem ak9{x:awY}(hx:x.2.1=Nw):∀ {n:Int} {l:List awY} {k:Nat} (hk:k<l.length),l[k].2.1=Nw->Xx n (l.set k x)=(Xx n l).map (fun s=>if s.1=n+k then(n+k,x.1,x.2.2.1,x.2.2.2)else s)
 |n,t::l,0,_,hu=>by
  have b:(Xx (n+1) l).map (fun s=>if s.1=n then(n,x.1,x.2.2.1,x.2.2.2)else s)=Xx (n+1) l:=by
   conv=>rhs;rw[<-List.map_id (Xx (n+1) l)]
   exact PU fun s hs=>by have:=afZ hs;rw[Nf (by omega)];rfl
  simp only[MS]at hu;simp only[ML,Xx,hx,hu,if_true,OA,Int.natCast_zero,Int.add_zero,b]
 |n,t::l,k+1,hk,hu=>by
  have a:=@ak9 x hx (n+1) l k (by simpa using hk) (by simpa using hu);simp only[MM,Xx,a];rw[show n+((k+1:Nat):Int)=n+1+(k:Int)by push_cast;omega]
  by_cases h:t.2.1=Nw
  ·rw[Nh h,Nh h,OA,Nf (by show ¬n=n+1+(k:Int);omega)]
  ·rw[Nf h,Nf h]
theorem apA(a x:α)(l:List α)(i:Nat):Xi (a::l) x (i+1)=a::Xi l x i:=by simp[Xi]
theorem apC(x:α)(l:List α):Xi l x 0=x::l:=by simp[Xi]
theorem ala{x:awY}(hx:x.2.1=Nw):∀ {n:Int} {l:List awY} {k:Nat} (hk:k<l.length),l[k].2.1=Nb->Xx n (l.set k x)=Xi (Xx n l) (n+k,x.1,x.2.2.1,x.2.2.2) ((Xx n l).findIdx fun s=>Nn (n+k<s.1))
 |n,t::l,0,_,hu=>by
  simp only[MS]at hu;have b:(Xx (n+1) l).findIdx (fun s=>Nn (n<s.1))=0:=by
   cases hs:Xx (n+1) l with
   |nil=>rfl
   |cons s r =>
    have:=afZ (s:=s) (by rw[hs];simp);simp[Tc,show n<s.1 by omega]
  simp only[ML,Xx,hx,hu,if_true,Int.natCast_zero,Int.add_zero,Bool.false_eq_true,if_false,b,apC]
 |n,t::l,k+1,hk,hu=>by
  have a:=@ala x hx (n+1) l k (by simpa using hk) (by simpa using hu);simp only[MM,Xx,a];rw[show n+((k+1:Nat):Int)=n+1+(k:Int)by push_cast;omega]
  by_cases h:t.2.1=Nw
  ·rw[Nh h,Nh h]
   have:Nn (n+1+(k:Int)<n)=false:=by simp;omega
   rw[Tc];simp only[this,cond_false];rw[apA]
  ·rw[Nf h,Nf h]
structure Bs(G:Gt):Prop where
 cfg:adg G.cfg
 now:0<=G.now/\G.now<=1099511626776
 tab:Z6 G.tab
 tabLen:(G.tab.length:Int)=G.cfg.flows
 book:Ym G.liv G.req
 tok:0<=G.tok/\G.tok<=G.cfg.bb*G.cfg.bd
 hel:G.hea.length=12
 hea:∀h∈G.hea,ZO G.cfg.wn h.marks.length h.out h.till h.times
 seats:G.fls.map Fl.F8=Xx 0 G.tab
 rets:∀f∈G.fls,0<=f.ret/\f.ret<=G.cfg.ret
 since:∀l∈G.liv,l.2.2.2.1<=G.now
 wts:XI G.wts
 wnow:0<=G.wnow/\G.wnow<=G.now
 tms:∀t,G.tms t↔∃f∈G.fls,t=(f.due,f.slot)/\G.wnow<f.due
section
variable {G:Gt}
theorem Bs.Ge(h:Bs G):G.fls.Pairwise (fun a b=>a.slot<b.slot):=by
 have c:(G.fls.map Fl.F8).Pairwise (fun a b=>a.1<b.1):=by rw[h.seats];exact ahH
 exact(List.pairwise_map (f:=Fl.F8) (R:=fun a b=>a.1<b.1)).1 c
theorem Bs.slot(h:Bs G)(hf:f∈G.fls):∃(k:Nat) (hk:k<G.tab.length),f.slot=k/\G.tab[k]=(f.gen,Nw,f.key,f.be):=by
 have c:f.F8∈Xx 0 G.tab:=by rw[<-h.seats];exact Ri hf
 obtain⟨i,g,e,b,a⟩:=aeM.1 c;refine⟨i,g,by rw[show f.slot=(0:Int)+i from e];omega,?_⟩;generalize G.tab[i]=t at b a;obtain⟨j,m,p,o⟩:=t;simp only[Q7]at b a⊢;exact⟨a.1.symm,b,a.2.1.symm,a.2.2.symm⟩
theorem Bs.F9(h:Bs G)(hf:f∈G.fls):(0<=f.slot/\f.slot<40)/\(0<=f.gen/\f.gen<=1048575)/\(0<=f.key/\f.key<=4294967295)/\(0<=f.be/\f.be<12):=by
 obtain⟨k,c,e,b⟩:=h.slot hf;have a:=h.tab.2 _ (Nk c);have g:=h.tab.1.2;rw[b]at a;unfold Yt at a;rw[Nh rfl]at a;exact⟨by omega,a.1,a.2.1,a.2.2⟩
theorem Bs.IV(h:Bs G)(hf:f∈G.fls):Yj G.tab f.slot f.gen=((f.gen,Nw,f.key,f.be),0):=by
 obtain⟨k,c,b,a⟩:=h.slot hf;rw[b,ai8 h.tab c rfl,a,Nh ⟨rfl,rfl⟩]
theorem Bs.Hj(h:Bs G)(hf:f∈G.fls):ZQ G.tab f.slot f.gen=(G.tab.set f.slot.toNat (f.gen+1,Nb,0,0),0):=by
 unfold ZQ;rw[h.IV hf,Nh rfl]
theorem Bs.Ho(h:Bs G)(hf:f∈G.fls){b:Int}(hb:0<=b/\b<12):Y0 G.tab f.slot f.gen b=(G.tab.set f.slot.toNat (f.gen,Nw,f.key,b),0):=by
 unfold Y0;rw[h.IV hf,Nh rfl,Nh hb]
theorem Bs.Ic(h:Bs G){k:Fl}(hf:f∈G.fls)(hk:k∈G.fls)(e:f.slot=k.slot):f=k:=by
 obtain⟨i,g,rfl⟩:=NV hf;obtain⟨j,c,rfl⟩:=NV hk;have b:=List.pairwise_iff_getElem.1 h.Ge;rcases Nat.lt_trichotomy i j with a|rfl|a
 ·have:=b i j g c a;omega
 ·rfl
 ·have:=b j i c g a;omega
theorem Bs.GL(h:Bs G)(hf:f∈G.fls):Yl G.fls f.slot f.gen=G.fls.filter fun x=>x.slot != f.slot:=by
 unfold Yl;refine List.filter_congr fun x hx=>?_
 by_cases e:x.slot=f.slot
 ·rw[h.Ic hx hf e]
  simp
 ·have b:(x.slot == f.slot)=false:=by simpa using e
  have a:(x.slot != f.slot)=true:=by simpa using e
  rw[b,a];rfl
theorem Bs.Ie(h:Bs G)(hi:i<G.fls.length):aaF G.fls G.fls[i].slot=i:=by
 unfold aaF;refine abZ hi (fun t ht=>?_) (by simp);obtain⟨j,b,rfl⟩:=NV ht;have a:j<i:=by simp at b;omega
 have:=List.pairwise_iff_getElem.1 h.Ge j i (by omega) hi a;simp only[List.getElem_take];simp;omega
theorem Bs.GG(h:Bs G)(hf:f∈G.fls):∃hi:aaF G.fls f.slot<G.fls.length,G.fls[aaF G.fls f.slot]=f:=by
 obtain⟨i,hi,rfl⟩:=NV hf;have e:=h.Ie hi;exact⟨by rw[e];exact hi,by simp only[e]⟩
theorem XA(hi:i<G.fls.length):Xs G i=G.fls[i]:=by simp[Xs,hi]
theorem Bs.Jv(h:Bs G){s g:Int}(hg:(Yj G.tab s g).2=0):∃f∈G.fls,f.slot=s/\f.gen=g:=by
 obtain⟨x,j⟩:=yE ((Yj G.tab s g).1);obtain⟨_,k,rfl,p,b,m,c⟩:=ai7 (x:=x) (Q8 j.symm hg);have a:((k:Int),x.1,x.2.2.1,x.2.2.2)∈Xx 0 G.tab:=aeM.2 ⟨k,p,by simp,by rw[<-b];exact m,by rw[<-b]⟩;rw[<-h.seats]at a;obtain⟨f,o,e⟩:=ZAd.1 a;simp only[Fl.F8,Q7]at e;exact⟨f,o,e.1,by rw[e.2.1,c]⟩
theorem Bs.Gb(h:Bs G):G.fls.length<=40:=by
 have a:=congrArg List.length h.seats;rw[N0]at a;have:=@ak8 0 G.tab;have:=h.tab.1.2;omega
theorem Bs.Gd(h:Bs G)(hfree:G.tab.any Y1=Nw){key b:Int}(hk:0<=key/\key<=4294967295)(hb:0<=b/\b<12) :
  ∃(k:Nat) (hlt:k<G.tab.length),Y8 G.tab key b=(G.tab.set k (G.tab[k].1,Nw,key,b),((k:Int),G.tab[k].1),0)/\G.tab[k].2.1=Nb/\(0<=G.tab[k].1/\G.tab[k].1<=1048575)/\∀j (hj:j<k),Y1 (G.tab[j]'(by omega))=false:=by
 have g:∀t∈G.tab,aaU t=Y1 t:=fun t e=>auU (h.tab.2 t e)
 cases hf:Yz aaU G.tab with
 |none =>
  obtain⟨t,e,c⟩:=List.any_eq_true.1 hfree;rw[<-g t e]at c;have a:=ai3.2 ⟨t,e,c⟩;rw[hf]at a;exact absurd a (by decide)
 |some k =>
  obtain⟨hlt,c,p⟩:=ai0 hf;rw[g _ (Nk hlt)]at c;have m:G.tab[k].2.1=Nb/\G.tab[k].1≠1048576:=by simpa [Y1]using c
  have o:=h.tab.2 _ (Nk hlt);unfold Yt at o;rw[Nf (by rw[m.1];simp)]at o;refine⟨k,hlt,?_,m.1,by omega,fun j hj=>?_⟩
  ·unfold Y8
   rw[Nf (fun a=>a h.tab),Nf (fun a=>a ⟨hk,hb⟩),hf];simp[hlt]
  ·rw[<-g _ (Nk _)]
   refine p _ (List.mem_iff_getElem.2 ⟨j,by simp;omega,by simp⟩)
end
abbrev Zq(L:List awV):Prop:=L.Pairwise (fun a b=>a.1<b.1)
theorem ahv{b:Int}(h:∀x∈L,x.1≠b):WS L b=aa1:=by
 unfold WS;rw[List.find?_eq_none.2 (fun x hx=>by simpa using h x hx)];rfl
theorem abd:∀ {L:List awV} (_:Zq L) {x:awV} (_:x∈L),WS L x.1=x
 |y::L,hr,x,a=>by
  obtain⟨c,e⟩:=ZAe.1 hr;unfold WS;rcases OO.1 a with rfl|a
  ·simp
  ·have b:(y.1 == x.1)=false:=by have:=c x a;simp;omega
   rw[Pr (by simpa using b)];exact abd e a
theorem aeK(L:List awV)(b:Int):(WS L b∈L/\(WS L b).1=b)\/((∀x∈L,x.1≠b)/\WS L b=aa1):=by
 unfold WS;cases h:L.find? (fun x=>x.1 == b)with
 |none=>exact NF ⟨fun x hx=>by have:=List.find?_eq_none.1 h x hx;simpa using this,rfl⟩
 |some x=>exact Nt ⟨List.mem_of_find?_eq_some h,by simpa using List.find?_some h⟩
theorem adl{b:Int}(h:WY L b≠0):WS L b∈L/\(WS L b).1=b:=by
 rcases aeK L b with a|⟨_,a⟩
 ·exact a
 ·exact absurd (by rw[show WY L b=(WS L b).2.1 from rfl,a]) h
def Yq(L:List awV)(b:Int)(y:awV->awV):List awV:=L.map fun x=>if x.1=b then y x else x
theorem ahI(hr:Zq L)(hi:i<L.length){b:Int}(hb:L[i].1=b)(y:awV->awV):L.set i (y L[i])=Yq L b y:=by
 apply PX
 ·simp[Yq]
 ·intro k j o
  simp only[Yq,QZ,Pc];have c:k<L.length:=by simpa using j
  by_cases e:i=k
  ·subst e
   rw[Nh rfl,Nh hb]
  ·rw[Nf e,Nf]
   intro m;have g:=List.pairwise_iff_getElem.1 hr;rcases QM e with a|a
   ·have:=g i k hi c a;omega
   ·have:=g k i c hi a;omega
theorem ap3(hr:Zq L)(b:Int){y:awV->awV}(hy:∀x,(y x).1=x.1):Zq (Yq L b y):=by
 unfold Yq;refine List.pairwise_map.2 (hr.imp fun {a c} h=>?_);have e:∀x:awV,(if x.1=b then y x else x).1=x.1:=fun x=>by split;exact hy x;rfl
 rw[e,e];exact h
theorem akG(hr:Zq L){x:awV}(hx:x∈L){y:awV->awV}(hy:∀x,(y x).1=x.1):WS (Yq L x.1 y) x.1=y x:=by
 have a:y x∈Yq L x.1 y:=ZAd.2 ⟨x,hx,by rw[Nh rfl]⟩;have b:=abd (ap3 hr x.1 hy) a;rwa[hy]at b
theorem ahu:∀(L:List awV) {b c:Int} (_:c≠b) {y:awV->awV} (_:∀x,(y x).1=x.1),WS (Yq L b y) c=WS L c
 | [],b,c,_,y,_=>rfl
 |x::L,b,c,hne,y,hy=>by
  have a:=ahu L hne hy;unfold WS Yq at a⊢;rw[OA]
  by_cases e:x.1=b
  ·rw[Nh e,Pr (by rw[hy,e];simpa using Pi hne),Pr (by rw[e];simpa using Pi hne)]
   exact a
  ·rw[Nf e]
   by_cases e2:x.1=c
   ·rw[Ql (by simpa using e2),Ql (by simpa using e2)]
   ·rw[Pr (by simpa using e2),Pr (by simpa using e2)]
    exact a
theorem afV(hr:Zq L){x:awV}(hx:x∈L):Ys L x.1=Nw/\∃hp:Xk L x.1<L.length,L[Xk L x.1]=x:=by
 obtain⟨i,a,rfl⟩:=NV hx;obtain⟨c,b⟩:=aic hr a;exact⟨c,by rw[b];exact a,by simp only[b]⟩
theorem akj(x:awV):(ZF x).1=x.1:=rfl
theorem ako(hb:Ym L R){b:Int}(h3:WY L b=3):aau L R b=((Yq L b ZF,R),0)/\Ym (Yq L b ZF) R:=by
 obtain⟨p,a⟩:=adl (L:=L) (b:=b) (by rw[h3];decide);have o:Zq L:=hb.1.2.2;obtain⟨m,c,q⟩:=afV o p;rw[a]at m c;have g:L[Xk L b]=WS L b:=by simp only[a]at q;exact q
 have r:L.set (Xk L b) (ZF L[Xk L b])=Yq L b ZF:=ahI o c (by rw[g,a]) ZF;have e:aau L R b=((Yq L b ZF,R),0):=by
  unfold aau;rw[Nh hb,MR c,OV,Nh ⟨m,by rw[g];exact h3⟩,r]
 obtain⟨u,j,_,s⟩:=arV hb p a h3;rw[e]at j;cases j;exact⟨e,s⟩
theorem aku(x:awV)(u id:Int):(aag x u id).1=x.1:=rfl
theorem aqo(hr:Zq L){b:Int}(h:WY L b=1\/WY L b=2)(id u:Int):ZH L b id u=(Yq L b (fun x=>aag x u id),0):=by
 obtain⟨m,c⟩:=adl (L:=L) (b:=b) (by omega);obtain⟨g,e,j⟩:=afV hr m;rw[c]at g e;have a:L[Xk L b]=WS L b:=by simp only[c]at j;exact j
 unfold ZH;rw[Nh g,MR e,OV,a,Nf (by show ¬WY L b=4;omega),Nf (by show ¬WY L b=3;omega),<-ahI hr e (by rw[a,c]) (fun x=>aag x u id),a]
theorem aqp(hr:Zq L){b:Int}(h:¬(WY L b=1\/WY L b=2))(hok:∀x∈L,Y7 x)(id u:Int):ZH L b id u=(L,if WY L b=3 then 12 else 8):=by
 rcases aeK L b with⟨j,e⟩|⟨p,e⟩
 ·obtain⟨c,g,m⟩:=afV hr j
  rw[e]at c g;have o:L[Xk L b]=WS L b:=by simp only[e]at m;exact m
  have q:=(hok _ j).2;unfold ZH;rw[Nh c,MR g,OV,o];have a:WY L b=3\/WY L b=4:=by
   have:WY L b=(WS L b).2.1:=rfl;omega
  rcases a with a|a
  ·rw[Nf (by show ¬WY L b=4;omega),Nh a,Nh a]
  ·rw[Nh a,Nf (by omega)]
 ·have c:Ys L b=false:=by
   cases hh:Ys L b
   ·rfl
   ·exact absurd (aib hh) (p _ (Nk _))
  unfold ZH;rw[Nf (by rw[c];simp),Nf (by rw[show WY L b=(WS L b).2.1 from rfl,e];decide)]
section
variable {G:Gt}
theorem Bs.Jh(h:Bs G)(o:List Ou):Bs {G with out:=o}:=⟨h.cfg,h.now,h.tab,h.tabLen,h.book,h.tok,h.hel,h.hea,h.seats,h.rets,h.since,h.wts,h.wnow,h.tms⟩
theorem Bs.GT(h:Bs G)(o:Ou):Bs (ZM G o):=h.Jh _
theorem Bs.IR(h:Bs G)(hb:Ym L R)(hs:∀l∈L,l.2.2.2.1<=G.now):Bs {G with liv:=L,req:=R}:=⟨h.cfg,h.now,h.tab,h.tabLen,hb,h.tok,h.hel,h.hea,h.seats,h.rets,hs,h.wts,h.wnow,h.tms⟩
theorem Bs.Hp(h:Bs G)(hn:0<=n/\n<=G.cfg.bb*G.cfg.bd):Bs {G with tok:=n}:=⟨h.cfg,h.now,h.tab,h.tabLen,h.book,hn,h.hel,h.hea,h.seats,h.rets,h.since,h.wts,h.wnow,h.tms⟩
theorem Bs.Ij(h:Bs G){H:List He}(hl:H.length=12)(hh:∀x∈H,ZO G.cfg.wn x.marks.length x.out x.till x.times):Bs {G with hea:=H}:=⟨h.cfg,h.now,h.tab,h.tabLen,h.book,h.tok,hl,hh,h.seats,h.rets,h.since,h.wts,h.wnow,h.tms⟩
theorem Bs.Jg(h:Bs G){a:List Int}(ha:XI a):Bs {G with wts:=a}:=⟨h.cfg,h.now,h.tab,h.tabLen,h.book,h.tok,h.hel,h.hea,h.seats,h.rets,h.since,ha,h.wnow,h.tms⟩
theorem akL{b:Int}{y:awV->awV}(h:l∈Yq L b y):∃x∈L,l=x\/l=y x:=by
 obtain⟨x,a,rfl⟩:=ZAd.1 h;refine⟨x,a,?_⟩
 split
 ·exact NF rfl
 ·exact Nt rfl
theorem ahh(h:Bs G)(b:Int):Yf G b=if WY G.liv b=3/\Zr G.fls b=Nb then aeQ {G with liv:=Yq G.liv b ZF} b (WS G.liv b).2.2.2.2.2 else G:=by
 unfold Yf
 split
 case isTrue hc =>
  rw[(ako h.book hc.1).1]
 case isFalse hc=>rfl
theorem Bs.Ii(h:Bs G)(b:Int):Bs (Yf G b):=by
 rw[ahh h]
 split
 case isTrue hc =>
  refine Bs.GT (Bs.IR (R:=G.req) h (ako h.book hc.1).2 fun l hl=>?_) _;obtain⟨x,a,rfl|rfl⟩:=akL hl
  ·exact h.since _ a
  ·exact h.since x a
 case isFalse hc=>exact h
theorem Bs.IE(h:Bs G){b:Int}(hb:0<=b/\b<12):ZO G.cfg.wn (G.hea.getD b.toNat XM).marks.length (G.hea.getD b.toNat XM).out (G.hea.getD b.toNat XM).till (G.hea.getD b.toNat XM).times:=by
 have a:b.toNat<G.hea.length:=by rw[h.hel];omega
 have e:G.hea.getD b.toNat XM=G.hea[b.toNat]:=by simp[a]
 rw[e];exact h.hea _ (Nk a)
theorem akx(hd:1<=d):1<=aaL d t/\aaL d t<=500:=by
 unfold aaL;have a:(1:Int)<=2 ^ t.toNat:=by
  have:=Nat.one_le_two_pow (n:=t.toNat)
  exact_mod_cast this
 have b:1<=d*2 ^ t.toNat:=by
  have:=Px hd a (by omega) (by omega);omega
 omega
theorem ap9{f:Int}{l:List Bool}{o:Bool}{u:Int}{x:Bool}{now:Int}{may:Bool}(hw:ZT n f d)(hnow:0<=now/\now<=1099511627776)(hh:ZO n l.length o u t):
  (Zt n f d l o u t x now may).2.2=0/\ZO n (Zt n f d l o u t x now may).1.1.length (Zt n f d l o u t x now may).1.2.1 (Zt n f d l o u t x now may).1.2.2.1 (Zt n f d l o u t x now may).1.2.2.2:=by
 have e:YR n f d l.length o u t now=0:=by unfold YR;rw[Nh hw,Nh hnow,Nh hh]
 have g:=alJ (l:=l) x hh.1 hw.1.1;obtain⟨j,b,a,c⟩:=hh;have m:=akx (d:=d) (t:=t) hw.2.2.1;unfold Zt;rw[Nh e]
 split
 ·refine⟨rfl,by simp;omega,?_,?_,Nt rfl⟩
  ·show 0<=min (t+1) 10/\min (t+1) 10<=10
   omega
  ·show 0<=now+aaL d t/\now+aaL d t<=1099511628276
   omega
 ·exact⟨rfl,by show((Zj n l x).length:Int)<=n;omega,b,a,c⟩
theorem aoo{f:Int}{l:List Bool}{o:Bool}{u:Int}{now:Int}(hw:ZT n f d)(hnow:0<=now/\now<=1099511627776)(hh:ZO n l.length o u t):
  Ze n f d l o u t now=if o=Nw/\u<=now then((l,Nb,0,t),Nw,0)else((l,o,u,t),Nb,0):=by
 have a:YR n f d l.length o u t now=0:=by unfold YR;rw[Nh hw,Nh hnow,Nh hh]
 unfold Ze;rw[Nh a]
theorem aac{α:Type}{l:List α}{x y:α}(h:y∈l.set i x):y=x\/y∈l:=by
 rcases OB h with h|h
 ·exact NF h
 ·exact Nt h
theorem Bs.GN(h:Bs G):0<=G.now/\G.now<=1099511627776:=by have:=h.now;omega
theorem Bs.Gx(h:Bs G):ZT G.cfg.wn G.cfg.wf G.cfg.wh:=h.cfg.2.2.2.2.2.2.2.2.2.2.2
theorem Bs.GM(h:Bs G):Zp G.cfg.bn G.cfg.bd G.cfg.bb:=h.cfg.2.2.2.2.2.2.2.2.2.2.1
theorem Bs.GA(h:Bs G){b:Int}(hb:0<=b/\b<12)(x:Bool):Bs (Yh G b x):=by
 refine h.Ij (by rw[NA];exact h.hel) fun y a=>?_
 rcases aac a with rfl|a
 ·exact(ap9 h.Gx h.GN (h.IE hb)).2
 ·exact h.hea y a
theorem ahw{α β:Type}(f:α->β){l:List α}(hi:i<l.length){y:α}(hy:f y=f l[i]):(l.set i y).map f=l.map f:=by
 rw[List.map_set,hy];apply PX
 ·simp
 ·intro k a b
  simp only[Pc,QZ]
  split
  ·rename_i e;subst e;rfl
  ·rfl
theorem abe{l:List Fl}(hr:l.Pairwise (fun a b=>a.slot<b.slot))(hi:i<l.length)(hy:y.slot=l[i].slot):f∈l.set i y↔f=y\/(f∈l/\f.slot≠y.slot):=by
 have m:=List.pairwise_iff_getElem.1 hr;constructor
 ·intro h
  obtain⟨k,j,rfl⟩:=NV h;rw[Pc];have g:k<l.length:=by simpa using j
  split
  ·exact Nt rfl
  ·rename_i e
   refine NF ⟨Nk g,?_⟩;rw[hy];rcases QM e with c|c
   ·have:=m i k hi g c;omega
   ·have:=m k i g hi c;omega
 ·rintro(rfl|⟨h1,h2⟩)
  ·exact List.mem_iff_getElem.2 ⟨i,by simpa using hi,by simp⟩
  ·obtain⟨k,j,rfl⟩:=NV h1
   refine List.mem_iff_getElem.2 ⟨k,by simpa using j,?_⟩;rw[Pc,Nf];intro e;subst e;exact h2 hy.symm
theorem Bs.Hd(h:Bs G)(hi:i<G.fls.length)(hs:f.F8=G.fls[i].F8)(hd:f.due=G.fls[i].due)(hr:0<=f.ret/\f.ret<=G.cfg.ret):Bs (Y4 G i f):=by
 have b:f.slot=G.fls[i].slot:=congrArg Prod.fst hs;refine⟨h.cfg,h.now,h.tab,h.tabLen,h.book,h.tok,h.hel,h.hea,?_,fun x a=>?_,h.since,h.wts,h.wnow,fun t=>?_⟩
 ·show(G.fls.set i f).map Fl.F8=_
  rw[ahw Fl.F8 hi hs];exact h.seats
 ·rcases aac a with rfl|a
  ·exact hr
  ·exact h.rets x a
 ·show G.tms t↔∃x∈G.fls.set i f,_
  rw[h.tms t];constructor
  ·rintro⟨x,a,e1,e2⟩
   by_cases e:x.slot=f.slot
   ·have c:=h.Ic a (Nk hi) (e.trans b)
    subst c;exact⟨f,(abe h.Ge hi b).2 (Nt rfl),by rw[e1,hd,b],by rw[hd];exact e2⟩
   ·exact⟨x,(abe h.Ge hi b).2 (NF ⟨a,e⟩),e1,e2⟩
  ·rintro⟨x,a,e1,e2⟩
   rcases(abe h.Ge hi b).1 a with rfl|⟨a,_⟩
   ·exact⟨_,Nk hi,by rw[e1,hd,b],by rw[<-hd];exact e2⟩
   ·exact⟨x,a,e1,e2⟩
theorem Bs.It(h:Bs G)(hi:i<G.fls.length)(hn:1<=n/\n<=500):Bs (YW G i n):=by
 have c:=h.wnow;have b:({Xs G i with due:=G.now+n}:Fl).slot=G.fls[i].slot:=by rw[XA hi]
 refine⟨h.cfg,h.now,h.tab,h.tabLen,h.book,h.tok,h.hel,h.hea,?_,fun x a=>?_,h.since,h.wts,h.wnow,fun t=>?_⟩
 ·show(G.fls.set i _).map Fl.F8=_
  rw[ahw Fl.F8 hi (by rw[XA hi])];exact h.seats
 ·rcases aac a with rfl|a
  ·rw[XA hi]
   exact h.rets G.fls[i] (Nk hi)
  ·exact h.rets x a
 ·show((G.tms t/\t.2≠(Xs G i).slot)\/t=(G.now+n,(Xs G i).slot))↔∃x∈G.fls.set i {Xs G i with due:=G.now+n},_
  rw[h.tms t];constructor
  ·rintro(⟨⟨x,a,e1,e2⟩,e3⟩|e)
   ·exact⟨x,(abe h.Ge hi b).2 (NF ⟨a,fun e=>e3 (by rw[e1];exact e)⟩),e1,e2⟩
   ·exact⟨_,(abe h.Ge hi b).2 (Nt rfl),e,by show G.wnow<G.now+n;omega⟩
  ·rintro⟨x,a,e1,e2⟩
   rcases(abe h.Ge hi b).1 a with rfl|⟨a,hne⟩
   ·exact NF e1
   ·exact Nt ⟨⟨x,a,e1,e2⟩,by rw[e1];exact hne⟩
theorem Bs.Iw(h:Bs G)(hf:f∈G.fls):Bs {G with tab:=(ZQ G.tab f.slot f.gen).1,fls:=Yl G.fls f.slot f.gen,tms:=fun t=>G.tms t/\t.2≠f.slot}:=by
 obtain⟨k,g,e,o⟩:=h.slot hf;have m:=(h.F9 hf).2.1;have j:=h.F9 hf;refine⟨h.cfg,h.now,?_,?_,h.book,h.tok,h.hel,h.hea,?_,fun x a=>?_,h.since,h.wts,h.wnow,fun t=>?_⟩
 ·show Z6 (ZQ G.tab f.slot f.gen).1
  rw[h.Hj hf];refine aja h.tab ?_;unfold Yt;rw[Nf (by simp)];exact⟨by show 0<=f.gen+1/\f.gen+1<=1048576;omega,rfl,rfl⟩
 ·show((ZQ G.tab f.slot f.gen).1.length:Int)=_
  rw[h.Hj hf,NA];exact h.tabLen
 ·show(Yl G.fls f.slot f.gen).map Fl.F8=Xx 0 (ZQ G.tab f.slot f.gen).1
  rw[h.Hj hf,h.GL hf];show _=Xx 0 (G.tab.set f.slot.toNat (f.gen+1,Nb,0,0));rw[e,NR,ak6 rfl g,<-h.seats,List.filter_map]
  congr 1
  refine List.filter_congr fun x _=>?_
  simp[Fl.F8]
 ·have c:x∈Yl G.fls f.slot f.gen:=a
  rw[h.GL hf]at c;exact h.rets x (ZAf.1 c).1
 ·show(G.tms t/\t.2≠f.slot)↔∃x∈Yl G.fls f.slot f.gen,_
  rw[h.GL hf,h.tms t];constructor
  ·rintro⟨⟨x,a,e3,e4⟩,b⟩
   refine⟨x,ZAf.2 ⟨a,?_⟩,e3,e4⟩;rw[e3]at b
   simpa using b
  ·rintro⟨x,a,e3,e4⟩
   obtain⟨a,b⟩:=ZAf.1 a;refine⟨⟨x,a,e3,e4⟩,?_⟩;rw[e3]
   simpa using b
theorem Bs.Hc(h:Bs G)(hf:f∈G.fls)(kind why:Int):Bs (Yg G f kind why):=((h.Iw hf).GT _).Ii _
theorem Bs.Ig(h:Bs G)(hi:i<G.fls.length){b:Int}(hb:0<=b/\b<12)(hr:G.fls[i].ret+1<=G.cfg.ret):
  Bs (Y4 {G with tab:=(Y0 G.tab G.fls[i].slot G.fls[i].gen b).1} i {G.fls[i]with be:=b,ret:=G.fls[i].ret+1}):=by
 have c:=Nk hi;obtain⟨f,m⟩:=yE (G.fls[i]);rw[<-m]at hr c⊢;obtain⟨k,z,p,v⟩:=h.slot c;have q:=h.F9 c;have o:({f with be:=b,ret:=f.ret+1}:Fl).slot=G.fls[i].slot:=by rw[<-m]
 refine⟨h.cfg,h.now,?_,?_,h.book,h.tok,h.hel,h.hea,?_,fun x a=>?_,h.since,h.wts,h.wnow,fun t=>?_⟩
 ·show Z6 (Y0 G.tab f.slot f.gen b).1
  rw[h.Ho c hb];refine aja h.tab ?_;unfold Yt;rw[Nh rfl];exact⟨q.2.1,q.2.2.1,hb⟩
 ·show((Y0 G.tab f.slot f.gen b).1.length:Int)=_
  rw[h.Ho c hb,NA];exact h.tabLen
 ·show(G.fls.set i {f with be:=b,ret:=f.ret+1}).map Fl.F8=Xx 0 (Y0 G.tab f.slot f.gen b).1
  rw[h.Ho c hb];show _=Xx 0 (G.tab.set f.slot.toNat (f.gen,Nw,f.key,b));rw[p,NR,ak9 rfl z (by rw[v]),<-h.seats,List.map_map];apply PX
  ·simp
  ·intro j A u
   simp only[QZ,Pc,Function.comp_apply];have w:j<G.fls.length:=by simpa using u
   by_cases e:i=j
   ·subst e
    rw[Nh rfl,<-m,Nh (by show f.slot=0+(k:Int);omega)];simp[Fl.F8,p]
   ·rw[Nf e,Nf]
    show ¬G.fls[j].slot=0+(k:Int);intro g;have:=h.Ie hi;have r:=h.Ie w;rw[g,Int.zero_add,<-p,m,this]at r;exact e r
 ·rcases aac a with rfl|a
  ·have:=h.rets f c
   exact⟨by show 0<=f.ret+1;omega,hr⟩
  ·exact h.rets x a
 ·show G.tms t↔∃x∈G.fls.set i {f with be:=b,ret:=f.ret+1},_
  rw[h.tms t];constructor
  ·rintro⟨x,a,g,e4⟩
   by_cases e:x.slot=f.slot
   ·have s:=h.Ic a c e
    subst s;exact⟨_,(abe h.Ge hi o).2 (Nt rfl),g,e4⟩
   ·exact⟨x,(abe h.Ge hi o).2 (NF ⟨a,e⟩),g,e4⟩
  ·rintro⟨x,a,g,e4⟩
   rcases(abe h.Ge hi o).1 a with rfl|⟨a,_⟩
   ·exact⟨f,c,g,e4⟩
   ·exact⟨x,a,g,e4⟩
end
section
variable {G:Gt}
theorem akT{W:awV->Int}{F:awV->Int}:∀ {L:List awV} {n:Int},Zq L->(∀l∈L,n<=l.1/\l.1<=11/\(0<=W l/\W l<=8)/\0<=F l/\F l<=40)->adC n (L.map fun l=>(l.1,W l,F l))
 | [],n,_,_=>rfl
 |x::L,n,hr,h=>by
  obtain⟨b,m⟩:=ZAe.1 hr;obtain⟨o,p,j,g,a⟩:=h x (by simp);rw[OA];refine amu.2 ⟨⟨o,by show x.1<12;omega,j,g,a⟩,akT m fun l hl=>?_⟩;obtain⟨_,c,e⟩:=h l (NB _ hl);exact⟨by show x.1+1<=l.1;have:=b l hl;omega,c,e⟩
theorem aj7(fs:List Fl)(b:Int):abu fs b<=fs.length:=List.countP_le_length
theorem aq9{wg gone warm:Int}(h:1<=wg/\wg<=8)(hg:0<=gone)(hw:0<=warm):1<=aw1 wg gone warm/\aw1 wg gone warm<=wg:=by
 unfold aw1
 split
 ·omega
 ·rename_i hlt
  have a:wg*gone / warm<=wg:=by
   refine Int.ediv_le_of_le_mul (by omega) ?_;exact Int.mul_le_mul_of_nonneg_left (by omega) (by omega)
  omega
theorem Bs.lf(h:Bs G)(hl:l∈G.liv):Y7 l:=h.book.1.2.1 l hl
theorem Bs.Jp(h:Bs G)(hl:l∈G.liv):0<=abV G l/\abV G l<=l.2.2.1/\l.2.2.1<=8:=by
 have a:=(h.lf hl).1;have c:=h.since l hl;have b:0<=G.cfg.warm:=h.cfg.2.2.2.2.1.1;have e:=aq9 (wg:=l.2.2.1) (gone:=G.now-l.2.2.2.1) (warm:=G.cfg.warm) a.2.1 (by omega) b;unfold abV
 split <;> omega
theorem Bs.Jt(h:Bs G)(hfs:fs.length<=40):acv (aab G fs):=by
 refine⟨?_,?_⟩
 ·have a:=h.book.1.1
  have c:=O1 (fun l:awV=>l.2.1 == 2) G.liv;simp only[aab,N0];omega
 ·refine akT (h.book.1.2.2.filter _) fun l hl=>?_
  have b:=(ZAf.1 hl).1;have a:=(h.lf b).1;have c:=h.Jp b;have e:=aj7 fs l.1;exact⟨a.1.1,a.1.2,⟨c.1,by omega⟩,by omega,by omega⟩
theorem Bs.Jm(h:Bs G){n:Nat}(hn:n<=40):ab3 G.cfg.num G.cfg.den n:=⟨⟨h.cfg.2.1.1,h.cfg.2.1.2,h.cfg.2.2.1⟩,by omega,by omega⟩
theorem aoz{l:List Ld}{a b c:Int}(hok:acv l){ws:List Int}{t:Nat}(h:acw l (aax a b c l) ws t=MI i):i<l.length:=by
 unfold acw at h;cases h1:Zm l (aax a b c l) ws t with
 |some j =>
  rw[h1]at h;cases h;exact(agp h1).1
 |none =>
  rw[h1]at h;exact(asN (ws:=ws) (t:=t) h (amw hok)).1
theorem Bs.Ib(h:Bs G){key:Int}(hfs:fs.length<=40)(hc:(XD G key fs).2=0):WY G.liv (XD G key fs).1=2/\0<=(XD G key fs).1/\(XD G key fs).1<12:=by
 unfold XD at hc⊢;generalize ahS G key=ws at hc⊢;have b:=h.Jt hfs;unfold ab6 at hc⊢;rw[Nh (afa.2 b),Nh (h.Jm hfs)]at hc⊢
 split at hc
 case isFalse=>simp at hc
 case isTrue h1 =>
  rw[Nh h1]
  split at hc
  case isFalse=>simp at hc
  case isTrue h2 =>
   rw[Nh h2];cases hch:acw (aab G fs) (aax G.cfg.num G.cfg.den (fs.length:Int) (aab G fs)) ws G.cfg.tries.toNat with
   |none=>rw[hch]at hc;simp[abF]at hc
   |some i =>
    have c:=aoz b hch;have o:(aab G fs)[i]∈aab G fs:=Nk c;have e:(abF (aab G fs) (MI i)).1=(aab G fs)[i].1:=by simp[abF,c]
    rw[e];obtain⟨l,a,m⟩:=ZAd.1 o;obtain⟨a,g⟩:=ZAf.1 a;rw[<-m];have j:=(h.lf a).1.1;refine⟨?_,j.1,by show l.1<12;omega⟩;show(WS G.liv l.1).2.1=2;rw[abd h.book.1.2.2 a]
    simpa using g
theorem ahT(fs:List Fl)(s g:Int):(Yl fs s g).length<=fs.length:=O1 _ _
theorem ahK{b x:Int}(hb:Zp n d b)(hx:0<=x/\x<=b*d)(h:(Zh n d b x).2=0):Zh n d b x=(x-d,0)/\d<=x:=by
 have a:YN n d b x=0:=ajO.2 ⟨hb,hx⟩;unfold Zh at h⊢;rw[Nh a]at h⊢
 split at h
 ·simp at h
 ·rename_i h1
  exact⟨Nf h1,by omega⟩
theorem ahf{b x:Int}(hb:Zp n d b)(hx:0<=x/\x<=b*d):aa9 n d b x=(min (x+n) (b*d),0):=by
 have a:YN n d b x=0:=ajO.2 ⟨hb,hx⟩;unfold aa9;rw[Nh a]
theorem Bs.conn(h:Bs G):1<=G.cfg.conn/\G.cfg.conn<=500:=h.cfg.2.2.2.2.2.2.2.1
theorem Bs.idle(h:Bs G):1<=G.cfg.idle/\G.cfg.idle<=500:=h.cfg.2.2.2.2.2.2.1
theorem Bs.drain(h:Bs G):1<=G.cfg.drain/\G.cfg.drain<=500:=h.cfg.2.2.2.2.2.1
theorem Bs.I1(h:Bs G)(hi:i<G.fls.length){b:Int}(hb:0<=b/\b<12)(hr:G.fls[i].ret+1<=G.cfg.ret):Bs (ZL G i b):=by
 have a:=h.Ig hi hb hr;unfold ZL;simp only[XA hi];refine Bs.Ii (Bs.GT (Bs.It a ?_ h.conn) _) _;show i<(G.fls.set i _).length;rw[NA];exact hi
theorem Bs.I8(h:Bs G)(hi:i<G.fls.length)(why:Int):Bs (YP G i why):=by
 have b:=Nk hi;have m:=(h.F9 b).2.2.2;have a:=h.GA m Nw;have s:=h.rets _ b;unfold YP;simp only[XA hi]
 split
 ·exact a.Hc b _ _
 ·rename_i hn
  have j:(Zh G.cfg.bn G.cfg.bd G.cfg.bb G.tok).2=0:=by
   by_cases e:(Zh G.cfg.bn G.cfg.bd G.cfg.bb G.tok).2=0
   ·exact e
   ·exact absurd (NF e) hn
  have q:¬G.fls[i].ret=G.cfg.ret:=fun e=>hn (Nt e)
  obtain⟨o,r⟩:=ahK h.GM h.tok j
  split
  ·exact a.Hc b _ _
  ·rename_i c
   have c:(XD (Yh G G.fls[i].be Nw) G.fls[i].key (Yl G.fls G.fls[i].slot G.fls[i].gen)).2=0:=by
    by_cases e:(XD (Yh G G.fls[i].be Nw) G.fls[i].key (Yl G.fls G.fls[i].slot G.fls[i].gen)).2=0
    ·exact e
    ·exact absurd e c
   have g:=a.Ib (Nm (ahT _ _ _) h.Gb) c;have u:=h.GM.2.1;have p:=h.tok;refine Bs.I1 (Bs.Hp a ?_) hi g.2 (by show G.fls[i].ret+1<=G.cfg.ret;omega);rw[o];show 0<=G.tok-G.cfg.bd/\G.tok-G.cfg.bd<=G.cfg.bb*G.cfg.bd;omega
theorem ad4(fs:List Fl)(s:Int):Y3 fs s<=fs.length:=List.findIdx_le_length
theorem ad1(l:List α)(x:α)(hi:i<=l.length):(Xi l x i).length=l.length+1:=by
 simp only[Xi,Ns,Ox,NH,NJ];omega
theorem apB{β:Type}(f:α->β)(l:List α)(x:α)(i:Nat):(Xi l x i).map f=Xi (l.map f) (f x) i:=by
 simp[Xi,List.map_take,List.map_drop]
theorem abT{α:Type}{l:List α}{x y:α}:y∈Xi l x i↔y=x\/y∈l:=by
 unfold Xi;constructor
 ·intro h
  rcases QF.1 h with h|h
  ·exact NF (List.mem_of_mem_take h)
  ·rcases OO.1 h with h|h
   ·exact Nt h
   ·exact NF (List.mem_of_mem_drop h)
 ·rintro(rfl|h)
  ·simp
  ·rw[<-Oo i l]at h
   rcases QF.1 h with h|h
   ·exact List.mem_append_left _ h
   ·exact Qq _ (NB _ h)
theorem akA(l:List α)(x:α)(hi:i<=l.length):(Xi l x i)[i]'(by rw[ad1 l x hi];omega)=x:=by
 unfold Xi;rw[List.getElem_append_right (by simp;omega)];simp[P1 hi]
theorem Bs.Jn(h:Bs G)(hfree:G.tab.any Y1=Nw){key b:Int}(hk:0<=key/\key<=4294967295)(hb:0<=b/\b<12):Bs (abv G key b):=by
 obtain⟨k,g,e,m,j,_⟩:=h.Gd hfree hk hb;have c:0<=G.cfg.ret:=h.cfg.2.2.2.2.2.2.2.2.1.1;have o:=h.wnow;unfold abv;rw[e];refine⟨h.cfg,h.now,?_,?_,h.book,h.tok,h.hel,h.hea,?_,fun x a=>?_,h.since,h.wts,h.wnow,fun t=>?_⟩
 ·refine aja h.tab ?_
  unfold Yt;rw[Nh rfl];exact⟨j,hk,hb⟩
 ·show((G.tab.set k _).length:Int)=_
  rw[NA];exact h.tabLen
 ·show(Xi G.fls _ (Y3 G.fls (k:Int))).map Fl.F8=Xx 0 (G.tab.set k (G.tab[k].1,Nw,key,b))
  rw[apB,ala rfl g m,<-h.seats]
  congr 1
  ·simp[Fl.F8]
  ·unfold Y3
   rw[List.findIdx_map]
   congr 1
   funext f
   simp[Fl.F8]
 ·rcases abT.1 a with rfl|a
  ·exact⟨Qh _,c⟩
  ·exact h.rets x a
 ·show G.tms t↔∃f∈Xi G.fls _ _,_
  rw[h.tms t];constructor
  ·rintro⟨x,a,e1,e2⟩
   exact⟨x,abT.2 (NF a),e1,e2⟩
  ·rintro⟨x,a,e1,e2⟩
   rcases abT.1 a with rfl|a
   ·exact absurd e2 (by show ¬G.wnow<0;omega)
   ·exact⟨x,a,e1,e2⟩
theorem Bs.Mp(h:Bs G){key:Int}(hk:0<=key/\key<=4294967295):Bs (aaI G key):=by
 unfold aaI
 split
 ·exact h.GT _
 ·rename_i a
  have a:G.tab.any Y1=true:=by cases e:G.tab.any Y1;exact absurd e a;rfl
  simp only[]
  split
  ·exact h.GT _
  ·rename_i b
   have b:(XD G key G.fls).2=0:=by
    by_cases e:(XD G key G.fls).2=0
    ·exact e
    ·exact absurd e b
   have j:=h.Ib h.Gb b;have m:=h.Jn a hk j.2;have g:=h.tok;have c:=h.GM;refine Bs.GT (Bs.Hp (Bs.It m ?_ h.conn) ?_) _
   ·show Y3 G.fls _<(Xi G.fls _ (Y3 G.fls _)).length
    rw[ad1 _ _ (ad4 _ _)];have:=ad4 G.fls (Y8 G.tab key (XD G key G.fls).1).2.1.1;omega
   ·rw[ahf c g]
    show 0<=min (G.tok+G.cfg.bn) (G.cfg.bb*G.cfg.bd)/\min (G.tok+G.cfg.bn) (G.cfg.bb*G.cfg.bd)<=G.cfg.bb*G.cfg.bd;have:=c.1;omega
end
section
variable {G:Gt}
theorem aj0(hb:Ym L R){r:aw0}{now drain:Int}(ha:acT r now drain):
  (ZV R r.1<R.length/\ZU L R r now drain=((L,R),(R[ZV R r.1]?.getD (0,0,0,0,0)).2.2.2.2,Nb,0)) \/
  ((∀q∈R,q.1≠r.1)/\R.length=100/\ZU L R r now drain=((L,R),9,Nb,0)) \/
  ((∀q∈R,q.1≠r.1)/\R.length<100/\ZU L R r now drain=((Zl L R r (now+drain)).1,(Zl L R r (now+drain)).2,Nw,0)):=by
 by_cases h1:ZV R r.1<R.length
 ·exact Nt ⟨h1,arR hb ha h1⟩
 ·have a:=asn h1
  by_cases h2:R.length=100
  ·exact NF (Nt ⟨a,h2,arP hb h2 ha a⟩)
  ·have b:=hb.2.1
   exact NF (NF ⟨a,by omega,arQ hb (by omega) ha a⟩)
theorem aom(hb:Ym L R){r:aw0}{now drain:Int}(ha:acT r now drain)(hs:∀l∈L,l.2.2.2.1<=now):
  (ZU L R r now drain).2.2.2=0/\Ym (ZU L R r now drain).1.1 (ZU L R r now drain).1.2/\∀l∈(ZU L R r now drain).1.1,l.2.2.2.1<=now:=by
 rcases aj0 hb ha with⟨_,e⟩|⟨_,_,e⟩|⟨c,g,e⟩
 ·rw[e];exact⟨rfl,hb,hs⟩
 ·rw[e];exact⟨rfl,hb,hs⟩
 ·rw[e]
  have m:=ha.2.1;have o:=ha.2.2;obtain⟨a,_,_,b⟩:=asB hb g ha.1 c (u:=now+drain) (by omega);refine⟨rfl,a,fun l hl=>?_⟩;rcases b l hl with h|⟨_,rfl⟩|⟨y,j,rfl⟩
  ·exact hs l h
  ·show(0:Int)<=now
   omega
  ·exact hs y j
theorem Bs.Jd(h:Bs G){e:Ev}(he:0<=e.req/\e.req<=1048576){kind:Int}(hk:kind=1\/kind=2):acT (e.req,kind,e.be,e.wt,0) G.now G.cfg.drain:=by
 have a:=h.now;have b:=h.drain;exact⟨⟨he,hk⟩,by omega,by omega⟩
theorem Bs.Mc(h:Bs G){e:Ev}(he:0<=e.req/\e.req<=1048576){kind:Int}(hk:kind=1\/kind=2):Bs (Yv G kind e):=by
 obtain⟨_,a,b⟩:=aom h.book (h.Jd he hk) h.since;exact Bs.GT (Bs.IR h a b) _
theorem Bs.Iv(h:Bs G){b:Int}(hs:WY G.liv b≠0):(0<=b/\b<12)/\1<=(WS G.liv b).2.2.1/\(WS G.liv b).2.2.1<=8:=by
 obtain⟨g,e⟩:=adl hs;have a:=(h.lf g).1;have c:=a.1;rw[e]at c;exact⟨by omega,a.2.1⟩
theorem apa(hn:1<=n):ZO n XM.marks.length XM.out XM.till XM.times:=⟨by show((0:Nat):Int)<=n;omega,⟨by decide,by decide⟩,⟨by decide,by decide⟩,NF rfl⟩
theorem Bs.I4(h:Bs G){b:Int}(hs:WY G.liv b≠0):Bs (YX G b):=by
 have c:=h.Iv hs;refine Bs.Jg (Bs.Ij (H:=G.hea.set b.toNat XM) h (by rw[NA];exact h.hel) fun x a=>?_) (h.wts.F4 b.toNat (WS G.liv b).2.2.1 (by omega) (by omega));rcases aac a with rfl|a
 ·exact apa h.Gx.1.1
 ·exact h.hea x a
theorem alm(l:List Int):∀(G:Gt),Bs G->(∀b∈l,WY G.liv b≠0)->Bs (l.foldl YX G):=by
 induction l with
 |nil=>exact fun G h _=>h
 |cons b l ih=>exact fun G h hs=>ih _ (h.I4 (hs b (by simp))) fun c hc=>hs c (NB _ hc)
theorem alo(n:Int)(x:awV):(XH n x).1=x.1:=by unfold XH;split <;> rfl
theorem aht(f:awV->awV)(hf:∀x,(f x).1=x.1):∀(L:List awV) (b:Int),WS (L.map f) b=if ∃x∈L,x.1=b then f (WS L b)else aa1
 | [],b=>by rw[Nf (by simp)];rfl
 |x::L,b=>by
  have j:=aht f hf L b
  by_cases e:x.1=b
  ·have c:WS ((x::L).map f) b=f x:=by unfold WS;rw[OA,Ql (by rw[hf];simpa using e)];rfl
   have g:WS (x::L) b=x:=by unfold WS;rw[Ql (by simpa using e)];rfl
   rw[c,g,Nh ⟨x,by simp,e⟩]
  ·have c:WS ((x::L).map f) b=WS (L.map f) b:=by unfold WS;rw[OA,Pr (by rw[hf];simpa using e)]
   have g:WS (x::L) b=WS L b:=by unfold WS;rw[Pr (by simpa using e)]
   have m:(∃y∈x::L,y.1=b)↔∃y∈L,y.1=b:=⟨fun⟨y,a,hb⟩=>by
    rcases OO.1 a with rfl|a
    ·exact absurd hb e
    ·exact⟨y,a,hb⟩,fun⟨y,a,hb⟩=>⟨y,NB _ a,hb⟩⟩
   rw[c,g,j];simp only[m]
theorem af3(h:Bs G):YH G=(XW G.liv).foldl YX {G with liv:=G.liv.map (XH G.now)}:=by
 unfold YH;rw[amf h.book h.GN]
theorem ad2{b:Int}:b∈XW L↔∃x∈L,x.2.1=1/\x.1=b:=by
 unfold XW;constructor
 ·intro h
  obtain⟨x,a,rfl⟩:=ZAd.1 h;obtain⟨a,c⟩:=ZAf.1 a;exact⟨x,a,by simpa using c,rfl⟩
 ·rintro⟨x,a,c,rfl⟩
  exact Ri (ZAf.2 ⟨a,by simpa using c⟩)
theorem Bs.IP(h:Bs G):Bs {G with liv:=G.liv.map (XH G.now)}:=by
 refine Bs.IR (R:=G.req) h (asG h.book h.GN) fun l hl=>?_
 obtain⟨x,a,rfl⟩:=ZAd.1 hl;unfold XH
 split
 ·exact Qh _
 ·exact h.since x a
theorem alr(h:Bs G){b:Int}(hb:b∈XW G.liv):WY (G.liv.map (XH G.now)) b=2:=by
 obtain⟨x,a,c,rfl⟩:=ad2.1 hb;show(WS (G.liv.map (XH G.now)) x.1).2.1=2;rw[aht _ (alo _),Nh ⟨x,a,rfl⟩,abd h.book.1.2.2 a];unfold XH;rw[Nh c]
theorem Bs.Jf(h:Bs G):Bs (YH G):=by
 rw[af3 h];refine alm _ _ h.IP fun b hb=>?_
 show WY (G.liv.map (XH G.now)) b≠0;rw[alr h hb]
 decide
theorem aj1(h:Bs G){x:He}(hx:x∈G.hea):abO G x=if x.out=Nw/\x.till<=G.now then⟨x.marks,Nb,0,x.times⟩else x:=by
 unfold abO;rw[aoo h.Gx h.GN (h.hea x hx)]
 split <;> rfl
theorem Bs.I2(h:Bs G):Bs (aaC G):=by
 refine h.Ij (by rw[N0];exact h.hel) fun y hy=>?_
 obtain⟨x,b,rfl⟩:=ZAd.1 hy;have a:=h.hea x b;rw[aj1 h b]
 split
 ·exact⟨a.1,a.2.1,⟨Qh 0,by show(0:Int)<=1099511628276;omega⟩,NF rfl⟩
 ·exact a
def adi(G G':Gt)(s:Int):Prop:=∀f:Fl,f.slot≠s->(f∈G'.fls↔f∈G.fls)
theorem afJ(b:Int):(Yf G b).fls=G.fls:=by
 unfold Yf
 split <;> rfl
theorem ad3(h:Bs G)(hf:f∈G.fls)(kind why:Int):adi G (Yg G f kind why) f.slot:=by
 intro x a;unfold Yg;rw[afJ];show x∈Yl G.fls f.slot f.gen↔_;rw[h.GL hf,ZAf];exact⟨fun h=>h.1,fun h=>⟨h,by simpa using a⟩⟩
theorem aqc(h:Bs G)(hi:i<G.fls.length)(hy:y.slot=G.fls[i].slot){x:Fl}(hx:x.slot≠G.fls[i].slot):x∈G.fls.set i y↔x∈G.fls:=by
 rw[abe h.Ge hi hy];constructor
 ·rintro(rfl|h)
  ·exact absurd hy hx
  ·exact h.1
 ·exact fun h=>NF ⟨h,by rw[hy];exact hx⟩
theorem akZ(hi:i<G.fls.length)(b:Int):(ZL G i b).fls=G.fls.set i {G.fls[i]with be:=b,ret:=G.fls[i].ret+1,due:=G.now+G.cfg.conn}:=by
 unfold ZL;simp only[XA hi,afJ];show(G.fls.set i _).set i _=_;rw[List.set_set]
 congr 1
 have e:Xs (Y4 {G with tab:=(Y0 G.tab G.fls[i].slot G.fls[i].gen b).1} i {G.fls[i]with be:=b,ret:=G.fls[i].ret+1}) i={G.fls[i]with be:=b,ret:=G.fls[i].ret+1}:=by
  simp[Xs,Y4,hi]
 rw[e];rfl
theorem akU(h:Bs G)(hi:i<G.fls.length)(why:Int):adi G (YP G i why) G.fls[i].slot:=by
 have b:=Nk hi;have e:=(h.F9 b).2.2.2;have c:=h.GA e Nw;intro x a;unfold YP;simp only[XA hi]
 split
 ·exact ad3 c b _ _ x a
 ·split
  ·exact ad3 c b _ _ x a
  ·rw[akZ (G:={Yh G G.fls[i].be Nw with tok:=_}) hi]
   refine aqc h hi ?_ a;rfl
theorem Bs.Jy(h:Bs G)(hf:f∈G.fls):Bs (X5 G f.slot)/\adi G (X5 G f.slot) f.slot:=by
 obtain⟨a,e⟩:=h.GG hf;unfold X5;simp only[]
 split
 ·rw[XA a,e]
  exact⟨h.Hc hf _ _,ad3 h hf _ _⟩
 ·refine⟨h.I8 a _,?_⟩
  have:=akU h a 5;rw[e]at this;exact this
theorem Bs.IF(h:Bs G)(n:Int):(aaD G.fls n).Nodup/\∀s∈aaD G.fls n,∃f∈G.fls,f.slot=s/\f.due=n:=by
 refine⟨?_,fun s hs=>?_⟩
 ·unfold aaD
  refine List.pairwise_map.2 ((h.Ge.filter _).imp fun {a b} hab=>?_);show a.slot≠b.slot;omega
 ·obtain⟨f,c,rfl⟩:=ZAd.1 hs
  obtain⟨c,e⟩:=ZAf.1 c;exact⟨f,c,rfl,by simpa using e⟩
theorem Bs.IN(h:Bs G)(hw:G.wnow+1<=G.now):Bs {G with wnow:=G.wnow+1,tms:=fun t=>G.tms t/\t.1≠G.wnow+1}:=by
 have b:=h.wnow;refine⟨h.cfg,h.now,h.tab,h.tabLen,h.book,h.tok,h.hel,h.hea,h.seats,h.rets,h.since,h.wts,⟨by show 0<=G.wnow+1;omega,hw⟩,fun t=>?_⟩;show(G.tms t/\t.1≠G.wnow+1)↔∃f∈G.fls,t=(f.due,f.slot)/\G.wnow+1<f.due;rw[h.tms t];constructor
 ·rintro⟨⟨f,hf,e1,e2⟩,a⟩
  rw[e1]at a;have a:f.due≠G.wnow+1:=a;exact⟨f,hf,e1,by omega⟩
 ·rintro⟨f,hf,e1,e2⟩
  refine⟨⟨f,hf,e1,by omega⟩,?_⟩;rw[e1];show f.due≠G.wnow+1;omega
theorem Bs.IW(h:Bs G)(b:Int):(YL b G.tab).Pairwise (fun a b=>a.1<b.1)/\∀t∈YL b G.tab,∃f∈G.fls,f.slot=t.1/\f.gen=t.2/\f.be=b:=by
 refine⟨?_,fun t ht=>?_⟩
 ·unfold YL YM
  refine List.pairwise_map.2 (List.Pairwise.imp (fun {a c} hac=>?_) ((List.pairwise_lt_range).filter _));show(a:Int)<(c:Int);omega
 ·unfold YL YM at ht
  obtain⟨i,r,rfl⟩:=ZAd.1 ht;obtain⟨p,j⟩:=ZAf.1 r;have m:i<G.tab.length:=by simpa using p
  have e:G.tab.getD i (0,Nb,0,0)=G.tab[i]:=by simp[m]
  rw[e]at j;simp only[aa6,Po,beq_iff_eq]at j;have o:((i:Int),G.tab[i].1,G.tab[i].2.2.1,G.tab[i].2.2.2)∈Xx 0 G.tab:=aeM.2 ⟨i,m,by simp,j.1,rfl⟩;rw[<-h.seats]at o;obtain⟨f,q,g⟩:=ZAd.1 o;simp only[Fl.F8,Q7]at g;exact⟨f,q,g.1,by rw[g.2.1];simp[afn,m],by rw[g.2.2.2];exact j.2⟩
theorem Bs.next(h:Bs G)(hn:G.now+1<=1099511626776):Bs {G with now:=G.now+1}:=by
 have b:=h.now;have a:=h.wnow;exact⟨h.cfg,⟨by show 0<=G.now+1;omega,hn⟩,h.tab,h.tabLen,h.book,h.tok,h.hel,h.hea,h.seats,h.rets,fun l hl=>by have:=h.since l hl;show l.2.2.2.1<=G.now+1;omega,h.wts,⟨a.1,by show G.wnow<=G.now+1;omega⟩,h.tms⟩
theorem ahR(l:List Int):∀G:Gt,(l.foldl YX G).wnow=G.wnow/\(l.foldl YX G).now=G.now/\(l.foldl YX G).fls=G.fls/\(l.foldl YX G).liv=G.liv/\(l.foldl YX G).tab=G.tab/\(l.foldl YX G).out=G.out/\(l.foldl YX G).cfg=G.cfg/\(l.foldl YX G).tok=G.tok/\(l.foldl YX G).req=G.req/\(l.foldl YX G).tms=G.tms:=by
 induction l with
 |nil=>exact fun G=>⟨rfl,rfl,rfl,rfl,rfl,rfl,rfl,rfl,rfl,rfl⟩
 |cons b l ih=>exact fun G=>ih (YX G b)
end
structure Im(G:Gt):Prop where
 bs:Bs G
 be:∀f∈G.fls,WY G.liv f.be=2\/WY G.liv f.be=3
 ring:∀b:Nat,b<12->G.wts.getD b 0=if WY G.liv b=2 then(WS G.liv b).2.2.1 else 0
 drn:∀l∈G.liv,l.2.1=3->Zr G.fls l.1=Nw
 hi:∀f∈G.fls,f.due<=G.now+500
structure Wm(G:Gt):Prop where
 im:Im G
 wnow:G.wnow=G.now
 due:∀f∈G.fls,G.now<f.due
 till:∀l∈G.liv,l.2.1=3->G.now<l.2.2.2.2.1
 out:∀h∈G.hea,h.out=Nw->G.now<h.till
section
variable {G:Gt}
theorem acF{b:Int}:Zr fs b=Nw↔∃f∈fs,f.be=b:=by
 unfold Zr;rw[List.any_eq_true];simp
theorem aoy{b:Int}(h:Zr fs b=Nb):∀f∈fs,f.be≠b:=by
 intro f a e;have:Zr fs b=true:=acF.2 ⟨f,a,e⟩;rw[h]at this;cases this
theorem Im.GT(h:Im G)(o:Ou):Im (ZM G o):=⟨h.bs.GT o,h.be,h.ring,h.drn,h.hi⟩
structure Ya(G:Gt)(b:Int):Prop where
 bs:Bs G
 be:∀f∈G.fls,WY G.liv f.be=2\/WY G.liv f.be=3
 ring:∀b:Nat,b<12->G.wts.getD b 0=if WY G.liv b=2 then(WS G.liv b).2.2.1 else 0
 drn:∀l∈G.liv,l.2.1=3->l.1≠b->Zr G.fls l.1=Nw
 hi:∀f∈G.fls,f.due<=G.now+500
theorem Bs.Gv(h:Bs G):Zq G.liv:=h.book.1.2.2
theorem aqP(hr:Zq G.liv){b:Int}(h3:WY G.liv b=3)(c:Int):WS (Yq G.liv b ZF) c=if c=b then ZF (WS G.liv b)else WS G.liv c:=by
 obtain⟨a,e⟩:=adl (L:=G.liv) (b:=b) (by rw[h3];decide)
 split
 ·rename_i hc
  subst hc;have:=akG hr a akj;rw[e]at this;exact this
 ·rename_i hc
  exact ahu _ hc akj
theorem Ya.Ii{b:Int}(h:Ya G b):Im (Yf G b):=by
 have g:=h.bs.Ii b;rw[ahh h.bs]at g⊢
 split
 case isTrue hc =>
  rw[Nh hc]at g;have a:=aqP (G:=G) h.bs.Gv hc.1;have j:∀c,WY (Yq G.liv b ZF) c=if c=b then 4 else WY G.liv c:=fun c=>by
   show(WS (Yq G.liv b ZF) c).2.1=_;rw[a]
   split <;> rfl
  refine⟨g,fun f hf=>?_,fun c hcl=>?_,fun l hl h3=>?_,h.hi⟩
  ·show WY (Yq G.liv b ZF) f.be=2\/WY (Yq G.liv b ZF) f.be=3
   rw[j,Nf (aoy hc.2 f hf)];exact h.be f hf
  ·show G.wts.getD c 0=if WY (Yq G.liv b ZF) c=2 then(WS (Yq G.liv b ZF) c).2.2.1 else 0
   rw[h.ring c hcl,j,a]
   by_cases e:(c:Int)=b
   ·rw[Nh e,Nf (show ¬WY G.liv (c:Int)=2 by rw[e,hc.1];decide),Nf (by decide)]
   ·rw[Nf e,Nf e]
  ·obtain⟨x,m,e⟩:=ZAd.1 hl
   by_cases hb:x.1=b
   ·rw[Nh hb]at e
    rw[<-e]at h3;exact absurd h3 (show ¬(4:Int)=3 by decide)
   ·rw[Nf hb]at e
    subst e;exact h.drn x m h3 hb
 case isFalse hc =>
  refine⟨h.bs,h.be,h.ring,fun l hl h3=>?_,h.hi⟩
  by_cases e:l.1=b
  ·subst e
   have a:WY G.liv l.1=3:=by show(WS G.liv l.1).2.1=3;rw[abd h.bs.Gv hl];exact h3
   cases hb:Zr G.fls l.1
   ·exact absurd ⟨a,hb⟩ hc
   ·rfl
  ·exact h.drn l hl h3 e
theorem Im.Iw(h:Im G)(hf:f∈G.fls):Ya {G with tab:=(ZQ G.tab f.slot f.gen).1,fls:=Yl G.fls f.slot f.gen,tms:=fun t=>G.tms t/\t.2≠f.slot} f.be:=by
 have b:=h.bs.GL hf;refine⟨h.bs.Iw hf,fun x a=>?_,h.ring,fun l hl h3 hne=>?_,fun x a=>?_⟩
 ·have a:x∈Yl G.fls f.slot f.gen:=a
  rw[b]at a;exact h.be x (ZAf.1 a).1
 ·show Zr (Yl G.fls f.slot f.gen) l.1=Nw
  rw[b];obtain⟨x,a,e⟩:=acF.1 (h.drn l hl h3);refine acF.2 ⟨x,ZAf.2 ⟨a,?_⟩,e⟩;have:x.slot≠f.slot:=fun e2=>hne (by rw[<-e,h.bs.Ic a hf e2])
  simpa using this
 ·have a:x∈Yl G.fls f.slot f.gen:=a
  rw[b]at a;exact h.hi x (ZAf.1 a).1
theorem Ya.GT{b:Int}(h:Ya G b)(o:Ou):Ya (ZM G o) b:=⟨h.bs.GT o,h.be,h.ring,h.drn,h.hi⟩
theorem Im.Hc(h:Im G)(hf:f∈G.fls)(kind why:Int):Im (Yg G f kind why):=((h.Iw hf).GT _).Ii
theorem Im.GA(h:Im G){b:Int}(hb:0<=b/\b<12)(x:Bool):Im (Yh G b x):=⟨h.bs.GA hb x,h.be,h.ring,h.drn,h.hi⟩
theorem Im.Hp(h:Im G)(hn:0<=n/\n<=G.cfg.bb*G.cfg.bd):Im {G with tok:=n}:=⟨h.bs.Hp hn,h.be,h.ring,h.drn,h.hi⟩
theorem aj5(hi:i<fs.length)(hy:y.be=fs[i].be)(b:Int):Zr (fs.set i y) b=Zr fs b:=by
 have c:(fs.set i y).map Fl.be=fs.map Fl.be:=ahw Fl.be hi hy;have a:∀l:List Fl,Zr l b=(l.map Fl.be).any (· == b):=fun l=>by simp[Zr,List.any_map,Function.comp_def]
 rw[a,a,c]
theorem Im.Mi(h:Im G)(hi:i<G.fls.length)(hy:y.be=G.fls[i].be)(hd:y.due<=G.now+500){T:Tm->Prop}(hb:Bs {G with fls:=G.fls.set i y,tms:=T}):Im {G with fls:=G.fls.set i y,tms:=T}:=by
 refine⟨hb,fun x a=>?_,h.ring,fun l hl h3=>?_,fun x a=>?_⟩
 ·rcases aac a with rfl|a
  ·rw[hy];exact h.be _ (Nk hi)
  ·exact h.be x a
 ·show Zr (G.fls.set i y) l.1=Nw
  rw[aj5 hi hy];exact h.drn l hl h3
 ·rcases aac a with rfl|a
  ·exact hd
  ·exact h.hi x a
theorem Im.It(h:Im G)(hi:i<G.fls.length)(hn:1<=n/\n<=500):Im (YW G i n):=
 h.Mi hi (by rw[XA hi]) (by show G.now+n<=G.now+500;omega) (h.bs.It hi hn)
theorem Im.Hd(h:Im G)(hi:i<G.fls.length)(hs:f.F8=G.fls[i].F8)(hd:f.due=G.fls[i].due)(hr:0<=f.ret/\f.ret<=G.cfg.ret):Im (Y4 G i f):=
 h.Mi (T:=G.tms) hi (congrArg (fun s=>s.2.2.2) hs) (by rw[hd];exact h.hi _ (Nk hi)) (h.bs.Hd hi hs hd hr)
theorem Im.Ig(h:Im G)(hi:i<G.fls.length){b:Int}(hb:0<=b/\b<12)(h2:WY G.liv b=2)(hr:G.fls[i].ret+1<=G.cfg.ret):
  Ya (Y4 {G with tab:=(Y0 G.tab G.fls[i].slot G.fls[i].gen b).1} i {G.fls[i]with be:=b,ret:=G.fls[i].ret+1}) G.fls[i].be:=by
 have c:({G.fls[i]with be:=b,ret:=G.fls[i].ret+1}:Fl).slot=G.fls[i].slot:=rfl;refine⟨h.bs.Ig hi hb hr,fun x a=>?_,h.ring,fun l hl h3 hne=>?_,fun x a=>?_⟩
 ·rcases aac a with rfl|a
  ·exact Nt h2
  ·exact h.be x a
 ·obtain⟨x,a,e⟩:=acF.1 (h.drn l hl h3)
  refine acF.2 ⟨x,(abe h.bs.Ge hi c).2 (NF ⟨a,fun e2=>hne ?_⟩),e⟩;rw[<-e,h.bs.Ic a (Nk hi) e2]
 ·rcases aac a with rfl|a
  ·exact h.hi G.fls[i] (Nk hi)
  ·exact h.hi x a
theorem Ya.It{b:Int}(h:Ya G b)(hi:i<G.fls.length)(hn:1<=n/\n<=500):Ya (YW G i n) b:=by
 refine⟨h.bs.It hi hn,fun x a=>?_,h.ring,fun l hl h3 hne=>?_,fun x a=>?_⟩
 ·rcases aac a with rfl|a
  ·rw[XA hi];exact h.be G.fls[i] (Nk hi)
  ·exact h.be x a
 ·show Zr (G.fls.set i _) l.1=Nw
  rw[aj5 hi (by rw[XA hi])];exact h.drn l hl h3 hne
 ·rcases aac a with rfl|a
  ·show G.now+n<=G.now+500;omega
  ·exact h.hi x a
theorem Im.I1(h:Im G)(hi:i<G.fls.length){b:Int}(hb:0<=b/\b<12)(h2:WY G.liv b=2)(hr:G.fls[i].ret+1<=G.cfg.ret):Im (ZL G i b):=by
 have a:=h.Ig hi hb h2 hr;unfold ZL;simp only[XA hi];refine Ya.Ii (Ya.GT (Ya.It a ?_ h.bs.conn) _);show i<(G.fls.set i _).length;rw[NA];exact hi
theorem aeI(h:Bs G)(hi:i<G.fls.length)(why:Int):
  (∃y,YP G i why=Yg (Yh G G.fls[i].be Nw) G.fls[i] 6 y/\(y=why\/y=4)) \/
  (∃c,YP G i why=ZL {Yh G G.fls[i].be Nw with tok:=G.tok-G.cfg.bd} i c/\G.cfg.bd<=G.tok/\G.fls[i].ret+1<=G.cfg.ret/\WY G.liv c=2/\(0<=c/\c<12)/\XD (Yh G G.fls[i].be Nw) G.fls[i].key (Yl G.fls G.fls[i].slot G.fls[i].gen)=(c,0)):=by
 have g:=Nk hi;have m:=(h.F9 g).2.2.2;have o:=h.GA m Nw;have s:=h.rets _ g;unfold YP;simp only[XA hi]
 split
 ·exact Nt ⟨why,rfl,Nt rfl⟩
 ·rename_i hn
  have j:(Zh G.cfg.bn G.cfg.bd G.cfg.bb G.tok).2=0:=by
   by_cases e:(Zh G.cfg.bn G.cfg.bd G.cfg.bb G.tok).2=0
   ·exact e
   ·exact absurd (NF e) hn
  have r:¬G.fls[i].ret=G.cfg.ret:=fun e=>hn (Nt e)
  obtain⟨p,q⟩:=ahK h.GM h.tok j
  split
  ·exact Nt ⟨4,rfl,NF rfl⟩
  ·rename_i a
   have a:(XD (Yh G G.fls[i].be Nw) G.fls[i].key (Yl G.fls G.fls[i].slot G.fls[i].gen)).2=0:=by
    by_cases e:(XD (Yh G G.fls[i].be Nw) G.fls[i].key (Yl G.fls G.fls[i].slot G.fls[i].gen)).2=0
    ·exact e
    ·exact absurd e a
   have b:=o.Ib (Nm (ahT _ _ _) h.Gb) a;refine NF ⟨_,?_,q,by omega,b.1,b.2,Q8 rfl a⟩;rw[p]
theorem ahO(h:Bs G)(hd:G.cfg.bd<=G.tok):0<=G.tok-G.cfg.bd/\G.tok-G.cfg.bd<=G.cfg.bb*G.cfg.bd:=by
 have:=h.tok;have:=h.GM.2.1;omega
theorem Im.I8(h:Im G)(hi:i<G.fls.length)(why:Int):Im (YP G i why):=by
 have b:=Nk hi;have a:=(h.bs.F9 b).2.2.2;rcases aeI h.bs hi why with⟨y,e,_⟩|⟨c,e,o,j,p,g,_⟩
 ·rw[e]
  exact(h.GA a Nw).Hc b _ _
 ·rw[e]
  have m:=ahO h.bs o;exact Im.I1 (Im.Hp (n:=G.tok-G.cfg.bd) (h.GA a Nw) m) hi g p j
theorem Im.Mr(h:Im G)(hi:i<G.fls.length):Im (aaZ G i):=by
 unfold aaZ;refine Im.GT ?_ _
 split
 ·exact h.It hi h.bs.idle
 ·exact h
theorem Im.Mu(h:Im G)(hi:i<G.fls.length):Im (abh G i):=by
 have a:=Nk hi;have b:=(h.bs.F9 a).2.2.2;unfold abh;simp only[XA hi];refine Im.GT (Im.It (Im.Hd (h.GA b Nb) (i:=i) hi (f:={G.fls[i]with srv:=Nw}) rfl rfl (h.bs.rets G.fls[i] a)) ?_ h.bs.idle) _;show i<(G.fls.set i _).length;rw[NA];exact hi
theorem afU(h:Bs G){key:Int}(hk:0<=key/\key<=4294967295) :
  (aaI G key=acm G 2 9/\G.tab.any Y1=Nb)\/(aaI G key=acm G 2 11/\G.tab.any Y1=Nw/\(XD G key G.fls).2≠0) \/
  (∃(k:Nat) (hlt:k<G.tab.length),XD G key G.fls=((XD G key G.fls).1,0)/\WY G.liv (XD G key G.fls).1=2/\(0<=(XD G key G.fls).1/\(XD G key G.fls).1<12)/\G.tab.any Y1=Nw /\
   G.tab[k].2.1=Nb/\(0<=G.tab[k].1/\G.tab[k].1<=1048575)/\(∀j (hj:j<k),Y1 (G.tab[j]'(by omega))=Nb) /\
   aaI G key=ZM {G with tab:=G.tab.set k (G.tab[k].1,Nw,key,(XD G key G.fls).1),fls:=Xi G.fls ⟨k,G.tab[k].1,key,(XD G key G.fls).1,Nb,0,G.now+G.cfg.conn⟩ (Y3 G.fls k),tms:=fun t=>(G.tms t/\t.2≠(k:Int))\/t=(G.now+G.cfg.conn,(k:Int)),tok:=min (G.tok+G.cfg.bn) (G.cfg.bb*G.cfg.bd)} ⟨1,k,G.tab[k].1,(XD G key G.fls).1,0,0,0⟩):=by
 unfold aaI
 split
 ·rename_i a
  exact Nt ⟨rfl,a⟩
 ·rename_i a
  have a:G.tab.any Y1=true:=by cases e:G.tab.any Y1;exact absurd e a;rfl
  simp only[]
  split
  ·rename_i b
   exact NF (Nt ⟨rfl,a,b⟩)
  ·rename_i b
   have b:(XD G key G.fls).2=0:=by
    by_cases e:(XD G key G.fls).2=0
    ·exact e
    ·exact absurd e b
   have g:=h.Ib h.Gb b;obtain⟨k,hlt,e,u,r,hj⟩:=h.Gd a hk g.2;refine NF (NF ⟨k,hlt,Q8 rfl b,g.1,g.2,a,u,r,hj,?_⟩);have c:=ad4 G.fls (k:Int);have o:=ad1 G.fls (⟨(k:Int),G.tab[k].1,key,(XD G key G.fls).1,Nb,0,0⟩:Fl) c;have q:Xs (abv G key (XD G key G.fls).1) (Y3 G.fls (k:Int))=⟨k,G.tab[k].1,key,(XD G key G.fls).1,Nb,0,0⟩:=by
    unfold abv;rw[e];rw[XA (by show Y3 G.fls (k:Int)<(Xi G.fls _ _).length;rw[o];omega)];exact akA _ _ c
   have m:(Xi G.fls (⟨k,G.tab[k].1,key,(XD G key G.fls).1,Nb,0,0⟩:Fl) (Y3 G.fls (k:Int))).set (Y3 G.fls (k:Int)) ⟨k,G.tab[k].1,key,(XD G key G.fls).1,Nb,0,G.now+G.cfg.conn⟩=Xi G.fls ⟨k,G.tab[k].1,key,(XD G key G.fls).1,Nb,0,G.now+G.cfg.conn⟩ (Y3 G.fls (k:Int)):=by
    unfold Xi;rw[Pw _ _ (by simp;omega)];simp[P1 c]
   rw[ahf h.GM h.tok,e];simp only[];have s:YW (abv G key (XD G key G.fls).1) (Y3 G.fls (k:Int)) G.cfg.conn={G with tab:=G.tab.set k (G.tab[k].1,Nw,key,(XD G key G.fls).1),fls:=Xi G.fls ⟨k,G.tab[k].1,key,(XD G key G.fls).1,Nb,0,G.now+G.cfg.conn⟩ (Y3 G.fls k),tms:=fun t=>(G.tms t/\t.2≠(k:Int))\/t=(G.now+G.cfg.conn,(k:Int))}:=by
    unfold YW;rw[q];unfold abv;rw[e];simp only[];rw[m]
   rw[s];unfold abi;have p:Xs {G with tab:=G.tab.set k (G.tab[k].1,Nw,key,(XD G key G.fls).1),fls:=Xi G.fls ⟨k,G.tab[k].1,key,(XD G key G.fls).1,Nb,0,G.now+G.cfg.conn⟩ (Y3 G.fls k),tms:=fun t=>(G.tms t/\t.2≠(k:Int))\/t=(G.now+G.cfg.conn,(k:Int))} (Y3 G.fls (k:Int))=⟨k,G.tab[k].1,key,(XD G key G.fls).1,Nb,0,G.now+G.cfg.conn⟩:=by
    rw[XA (by show Y3 G.fls (k:Int)<(Xi G.fls _ _).length;rw[ad1 _ _ c];omega)];exact akA _ _ c
   rw[p]
theorem Im.Mp(h:Im G){key:Int}(hk:0<=key/\key<=4294967295):Im (aaI G key):=by
 have b:=h.bs.Mp hk;have j:=h.bs.conn;rcases afU h.bs hk with⟨e,_⟩|⟨e,_⟩|⟨k,g,_,c,_,_,_,_,_,e⟩
 ·rw[e];exact h.GT _
 ·rw[e];exact h.GT _
 ·rw[e]at b⊢
  refine⟨b,fun x a=>?_,h.ring,fun l hl h3=>?_,fun x a=>?_⟩
  ·rcases abT.1 a with rfl|a
   ·exact Nt c
   ·exact h.be x a
  ·obtain⟨x,a,e⟩:=acF.1 (h.drn l hl h3)
   exact acF.2 ⟨x,abT.2 (NF a),e⟩
  ·rcases abT.1 a with rfl|a
   ·show G.now+G.cfg.conn<=G.now+500;omega
   ·exact h.hi x a
end
section
variable {G:Gt}
theorem akF{L':List awV}(hr:Zq L)(hr':Zq L')(h:∀x:awV,x.1≠n->(x∈L'↔x∈L)){c:Int}(hc:c≠n):WS L' c=WS L c:=by
 rcases aeK L c with⟨g,e⟩|⟨b,e⟩
 ·have a:WS L c∈L':=(h _ (by rw[e];exact hc)).2 g
  have:=abd hr' a;rwa[e]at this
 ·rw[e]
  refine ahv fun x hx e2=>?_
  exact b x ((h x (by rw[e2];exact hc)).1 hx) e2
theorem akD(hb:ZD L){m:Int}(hn:0<=n/\n<=11)(hm:1<=m/\m<=8):
  ((WY L n=0\/WY L n=4)/\(Zu L n m).2=0/\(∀c,WS (Zu L n m).1 c=if c=n then(n,1,m,0,0,0)else WS L c)/\∀x∈(Zu L n m).1,x∈L\/x=(n,1,m,0,0,0)) \/
  (¬(WY L n=0\/WY L n=4)/\Zu L n m=(L,7)):=by
 have a:=alW hb n m;have q:Zq L:=hb.2;unfold Zu at a⊢;rw[Nf (by omega)]at a⊢;rcases aeK L n with⟨r,j⟩|⟨z,j⟩
 ·obtain⟨o,p,v⟩:=afV q r
  rw[j]at o p;have s:L[Xk L n]=WS L n:=by simp only[j]at v;exact v
  rw[Nh o,MR p,OV,s]at a⊢;have u:WY L n=(WS L n).2.1:=rfl;have C:WY L n≠0:=by
   have:=(hb.1 _ r).2;omega
  by_cases h4:(WS L n).2.1=4
  ·rw[Nh h4]at a⊢
   have w:L.set (Xk L n) ((n,1,m,0,0,0):awV)=Yq L n (fun _=>(n,1,m,0,0,0)):=by
    have:=ahI q p (b:=n) (by rw[s,j]) (fun _=>((n,1,m,0,0,0):awV));exact this
   have g:Zq (L.set (Xk L n) ((n,1,m,0,0,0):awV)):=a.2;refine Nt ⟨NF h4,rfl,fun c=>?_,fun x hx=>?_⟩
   ·show WS (L.set (Xk L n) (n,1,m,0,0,0)) c=_
    split
    ·rename_i hc
     subst hc;have A:((c,1,m,0,0,0):awV)∈L.set (Xk L c) (c,1,m,0,0,0):=List.mem_iff_getElem.2 ⟨Xk L c,by simpa using p,by simp⟩;exact abd g A
    ·rename_i hc
     refine akF q g (n:=n) (fun x hx=>?_) hc;rw[w];constructor
     ·intro h
      obtain⟨y,B,e⟩:=ZAd.1 h
      split at e
      ·exact absurd (by rw[<-e]) hx
      ·rw[<-e];exact B
     ·intro h
      exact ZAd.2 ⟨x,h,by rw[Nf hx]⟩
   ·rcases aac hx with h|h
    ·exact NF h
    ·exact Nt h
  ·rw[Nf h4]
   exact NF ⟨fun h=>by rcases h with h|h <;> omega,rfl⟩
 ·have o:Ys L n=false:=by
   cases hh:Ys L n
   ·rfl
   ·exact absurd (aib hh) (z _ (Nk _))
  rw[Nf (by rw[o];simp)]at a⊢;have g:Zq (Xi L ((n,1,m,0,0,0):awV) (Xk L n)):=a.2;have u:WY L n=0:=by show(WS L n).2.1=0;rw[j]
  refine Nt ⟨Nt u,rfl,fun c=>?_,fun x hx=>?_⟩
  ·show WS (Xi L (n,1,m,0,0,0) (Xk L n)) c=_
   split
   ·rename_i hc
    subst hc;exact abd g (x:=(c,1,m,0,0,0)) (abT.2 (Nt rfl))
   ·rename_i hc
    refine akF q g (n:=n) (fun x hx=>?_) hc;rw[abT];exact⟨fun h=>h.resolve_left fun e=>hx (by rw[e]),NF⟩
  ·exact(abT.1 hx).symm
theorem ag7(h:Bs G){e:Ev}(he:0<=e.req/\e.req<=1048576){kind:Int}(hk:kind=1\/kind=2) :
  ((YV G kind e).2.2.1=Nb/\(YV G kind e).1=(G.liv,G.req)) \/
  ((YV G kind e).2.2.1=Nw/\kind=1/\(YV G kind e).1.1=(Zu G.liv e.be e.wt).1/\(YV G kind e).2.1=(Zu G.liv e.be e.wt).2) \/
  ((YV G kind e).2.2.1=Nw/\kind=2/\(YV G kind e).1.1=(ZH G.liv e.be e.req (G.now+G.cfg.drain)).1/\(YV G kind e).2.1=(ZH G.liv e.be e.req (G.now+G.cfg.drain)).2):=by
 unfold YV;rcases aj0 h.book (h.Jd (e:=e) he hk)with⟨_,q⟩|⟨_,_,q⟩|⟨_,_,q⟩
 ·rw[q];exact Nt ⟨rfl,rfl⟩
 ·rw[q];exact Nt ⟨rfl,rfl⟩
 ·rw[q]
  rcases hk with rfl|rfl
  ·exact NF (Nt ⟨rfl,rfl,by unfold Zl;rw[Nh rfl],by unfold Zl;rw[Nh rfl]⟩)
  ·exact NF (NF ⟨rfl,rfl,by unfold Zl;rw[Nf (show ¬(2:Int)=1 by decide)],by unfold Zl;rw[Nf (show ¬(2:Int)=1 by decide)]⟩)
theorem Im.liv(h:Im G)(hb:Bs {G with liv:=L,req:=R})(hc:∀c,c≠n->WS L c=WS G.liv c)(h0:WY G.liv n≠2/\WY G.liv n≠3)(h1:WY L n≠2/\WY L n≠3):Im {G with liv:=L,req:=R}:=by
 refine⟨hb,fun f hf=>?_,fun c hcl=>?_,fun l j h3=>?_,h.hi⟩
 ·have o:=h.be f hf
  show(WS L f.be).2.1=2\/(WS L f.be).2.1=3;rw[hc f.be (fun e=>by rw[e]at o;omega)];exact o
 ·show G.wts.getD c 0=if(WS L c).2.1=2 then(WS L c).2.2.1 else 0
  rw[h.ring c hcl]
  by_cases e:(c:Int)=n
  ·rw[Nf (by rw[e];exact h0.1),Nf (by rw[e];exact h1.1)]
  ·rw[hc c e]
 ·have j:l∈L:=j
  have a:=abd hb.Gv j;have a:WS L l.1=l:=a;have p:l.1≠n:=fun e=>h1.2 (by show(WS L n).2.1=3;rw[<-e,a];exact h3)
  have g:=hc l.1 p;rw[a]at g;have q:WY G.liv l.1=3:=by show(WS G.liv l.1).2.1=3;rw[<-g];exact h3
  obtain⟨m,_⟩:=adl (L:=G.liv) (b:=l.1) (by rw[q];decide);rw[<-g]at m;exact h.drn l m h3
theorem Im.Mh(h:Im G)(hb:Bs {G with req:=R}):Im {G with req:=R}:=⟨hb,h.be,h.ring,h.drn,h.hi⟩
structure XZ(e:Ev):Prop where
 kind:1<=e.kind/\e.kind<=7
 key:0<=e.key/\e.key<=4294967295
 req:0<=e.req/\e.req<=1048576
 be:0<=e.be/\e.be<=11
 wt:e.kind=5->1<=e.wt/\e.wt<=8
theorem Im.Ms(h:Im G){e:Ev}(he:XZ e)(h5:e.kind=5):Im (Yv G 1 e):=by
 have a:=h.bs.Mc he.req (Nt rfl:(1:Int)=1\/(1:Int)=2);refine Im.GT ?_ _;have a:Bs {G with liv:=(YV G 1 e).1.1,req:=(YV G 1 e).1.2}:=a.Jh G.out;rcases ag7 h.bs he.req (Nt rfl:(1:Int)=1\/(1:Int)=2)with⟨_,q⟩|⟨_,_,q,_⟩|⟨_,k,_⟩
 ·rw[q]
  exact h
 ·rw[q]at a⊢
  rcases akD h.bs.book.1.2 he.be (he.wt h5)with⟨b,_,h1,_⟩|⟨_,e1⟩
  ·refine h.liv (n:=e.be) a (fun c hc=>by rw[h1,Nf hc]) (by rcases b with b|b <;> rw[b] <;> decide) ?_
   have:WY (Zu G.liv e.be e.wt).1 e.be=1:=by show(WS (Zu G.liv e.be e.wt).1 e.be).2.1=1;rw[h1,Nh rfl]
   rw[this]
   decide
  ·rw[e1]at a⊢
   exact h.Mh a
 ·exact absurd k (by decide)
theorem ahC(h:Bs G){e:Ev}(he:0<=e.req/\e.req<=1048576) :
  (acC G 2 e=Nb/\(YV G 2 e).1.1=G.liv) \/
  (acC G 2 e=Nw/\(YV G 2 e).2.2.1=Nw/\(YV G 2 e).2.1=0/\(WY G.liv e.be=1\/WY G.liv e.be=2)/\(YV G 2 e).1.1=Yq G.liv e.be (fun x=>aag x (G.now+G.cfg.drain) e.req)):=by
 unfold acC;rcases ag7 h he (NF rfl:(2:Int)=1\/(2:Int)=2)with⟨h1,q⟩|⟨_,k,_⟩|⟨h1,_,q,a⟩
 ·rw[h1,q]
  exact Nt ⟨rfl,rfl⟩
 ·exact absurd k (by decide)
 ·rw[h1,q,a]
  by_cases hs:WY G.liv e.be=1\/WY G.liv e.be=2
  ·rw[aqo h.Gv hs]
   exact NF ⟨rfl,rfl,rfl,hs,rfl⟩
  ·rw[aqp h.Gv hs h.book.1.2.1]
   refine Nt ⟨?_,rfl⟩
   by_cases h3:WY G.liv e.be=3
   ·rw[Nh h3];rfl
   ·rw[Nf h3];rfl
theorem Im.Mt(h:Im G){e:Ev}(he:XZ e):Im (abg G e):=by
 have m:=h.bs.Mc he.req (NF rfl:(2:Int)=1\/(2:Int)=2);have m:Bs {G with liv:=(YV G 2 e).1.1,req:=(YV G 2 e).1.2}:=m.Jh G.out;unfold abg;rcases ahC h.bs he.req with⟨s,q⟩|⟨s,_,_,D,q⟩
 ·rw[Nh s]
  refine Im.GT ?_ _;rw[q]at m⊢;exact h.Mh m
 ·rw[Nf (by rw[s];decide)]
  rw[q]at m;obtain⟨A,C⟩:=adl (L:=G.liv) (b:=e.be) (by omega);have v:WS (Yq G.liv e.be (fun x=>aag x (G.now+G.cfg.drain) e.req)) e.be=aag (WS G.liv e.be) (G.now+G.cfg.drain) e.req:=by
   have:=akG h.bs.Gv A (y:=fun x=>aag x (G.now+G.cfg.drain) e.req) (fun x=>aku x _ _);rw[C]at this;exact this
  have o:∀c,c≠e.be->WS (Yq G.liv e.be (fun x=>aag x (G.now+G.cfg.drain) e.req)) c=WS G.liv c:=fun c hc=>ahu _ hc (fun x=>aku x _ _)
  have r:WY (Yq G.liv e.be (fun x=>aag x (G.now+G.cfg.drain) e.req)) e.be=if WY G.liv e.be=2 then 3 else 4:=by
   show(WS _ e.be).2.1=_;rw[v];rfl
  by_cases j:WY G.liv e.be=1
  ·rw[Nh j]
   refine Im.GT (Im.GT ?_ _) _;rw[q];refine h.liv (n:=e.be) m o (by rw[j];decide) ?_;rw[r,Nf (by rw[j];decide)]
   decide
  ·rw[Nf j]
   have j:WY G.liv e.be=2:=by omega
   rw[Nh j]at r;refine Ya.Ii ?_;have z:Bs {Yv G 2 e with wts:=G.wts.set e.be.toNat 0}:=Bs.Jg (h.bs.Mc he.req (NF rfl)) (h.bs.wts.F4 _ 0 (by omega) (by omega));have u:(Yv G 2 e).liv=Yq G.liv e.be (fun x=>aag x (G.now+G.cfg.drain) e.req):=q;refine⟨z,fun f hf=>?_,fun c hcl=>?_,fun l p h3 hne=>?_,h.hi⟩
   ·show WY (Yv G 2 e).liv f.be=2\/WY (Yv G 2 e).liv f.be=3
    rw[u]
    by_cases a:f.be=e.be
    ·rw[a,r];exact NF rfl
    ·show(WS _ f.be).2.1=2\/(WS _ f.be).2.1=3
     rw[o _ a];exact h.be f hf
   ·show(G.wts.set e.be.toNat 0).getD c 0=if WY (Yv G 2 e).liv c=2 then(WS (Yv G 2 e).liv c).2.2.1 else 0
    rw[u];have w:=h.bs.wts.len
    by_cases a:(c:Int)=e.be
    ·rw[Nf (by rw[a,r];decide)]
     have g:e.be.toNat=c:=by omega
     rw[g];simp[w,hcl]
    ·rw[show WY (Yq G.liv e.be (fun x=>aag x (G.now+G.cfg.drain) e.req)) (c:Int)=WY G.liv c by show(WS _ (c:Int)).2.1=_;rw[o _ a],o _ a,<-h.ring c hcl]
     have g:e.be.toNat≠c:=by have:=he.be;omega
     simp[N3 g]
   ·have p:l∈(Yv G 2 e).liv:=p
    rw[u]at p;obtain⟨x,B,a⟩:=ZAd.1 p
    by_cases g:x.1=e.be
    ·rw[Nh g]at a
     exact absurd (by rw[<-a];exact g) hne
    ·rw[Nf g]at a
     subst a;exact h.drn x B h3
theorem aln(l:List Int):∀(G:Gt),G.wts.length=12->(∀b∈l,0<=b/\b<12)->l.Nodup->∀c:Nat,c<12->(l.foldl YX G).wts.getD c 0=if(c:Int)∈l then(WS G.liv c).2.2.1 else G.wts.getD c 0:=by
 induction l with
 |nil=>intro G _ _ _ c _;simp
 |cons b l ih =>
  intro G j g o c m;obtain⟨p,q⟩:=List.nodup_cons.1 o;have r:=g b (by simp);rw[O4,ih (YX G b) (by show(G.wts.set _ _).length=12;rw[NA];exact j) (fun x hx=>g x (NB _ hx)) q c m];show(if(c:Int)∈l then(WS G.liv c).2.2.1 else(G.wts.set b.toNat (WS G.liv b).2.2.1).getD c 0)=_
  by_cases e:(c:Int)=b
  ·have a:b.toNat=c:=by omega
   rw[Nf (by rw[e];exact p),Nh (by rw[e];simp),a,<-e];simp[j,m]
  ·have a:b.toNat≠c:=by omega
   by_cases hm:(c:Int)∈l
   ·rw[Nh hm,Nh (NB _ hm)]
   ·rw[Nf hm,Nf (by simp[e,hm])]
    simp[N3 a]
theorem alq(hr:Zq L):(XW L).Nodup:=by
 unfold XW;refine List.pairwise_map.2 ((hr.filter _).imp fun {a b} h=>?_);show a.1≠b.1;omega
theorem alf(hb:Bs G)(c:Int):WS (G.liv.map (XH G.now)) c=XH G.now (WS G.liv c):=by
 rw[aht _ (alo _)];rcases aeK G.liv c with⟨b,e⟩|⟨a,e⟩
 ·rw[Nh ⟨_,b,e⟩]
 ·rw[Nf (fun⟨x,hx,h⟩=>a x hx h),e]
  rfl
theorem Im.Jf(h:Im G):Im (YH G):=by
 have q:=h.bs.Jf;rw[af3 h.bs]at q⊢;obtain⟨_,u,p,o,_⟩:=ahR (XW G.liv) {G with liv:=G.liv.map (XH G.now)};refine⟨q,fun f hf=>?_,fun c hcl=>?_,fun l hl g=>?_,fun f hf=>?_⟩
 ·rw[p]at hf
  rw[o];show(WS (G.liv.map (XH G.now)) f.be).2.1=2\/(WS (G.liv.map (XH G.now)) f.be).2.1=3;have a:=h.be f hf;rw[alf h.bs];unfold XH;rw[Nf (by show ¬WY G.liv f.be=1;omega)];exact a
 ·rw[aln _ {G with liv:=G.liv.map (XH G.now)} h.bs.wts.len (fun b hb'=>?_) (alq h.bs.Gv) c hcl,o]
  ·show(if(c:Int)∈XW G.liv then(WS (G.liv.map (XH G.now)) c).2.2.1 else G.wts.getD c 0)=if(WS (G.liv.map (XH G.now)) c).2.1=2 then(WS (G.liv.map (XH G.now)) c).2.2.1 else 0
   rw[alf h.bs]
   by_cases hm:(c:Int)∈XW G.liv
   ·obtain⟨x,j,a,e⟩:=ad2.1 hm
    have r:WS G.liv c=x:=by rw[<-e];exact abd h.bs.Gv j
    have m:(XH G.now (WS G.liv c)).2.1=2:=by unfold XH;rw[r,Nh a]
    rw[Nh hm,Nh m]
   ·have s:¬(WS G.liv c).2.1=1:=fun a=>by
     obtain⟨v,g⟩:=adl (L:=G.liv) (b:=(c:Int)) (by show(WS G.liv c).2.1≠0;omega);exact hm (ad2.2 ⟨_,v,a,g⟩)
    have m:XH G.now (WS G.liv c)=WS G.liv c:=by unfold XH;rw[Nf s]
    rw[Nf hm,m,h.ring c hcl]
  ·obtain⟨x,j,_,rfl⟩:=ad2.1 hb'
   have:=(h.bs.lf j).1.1;omega
 ·rw[o]at hl
  rw[p];obtain⟨x,j,rfl⟩:=ZAd.1 hl;unfold XH at g⊢
  split at g
  ·exact absurd g (show ¬(2:Int)=3 by decide)
  ·rename_i a
   rw[Nf a];exact h.drn x j g
 ·rw[p]at hf
  rw[u];exact h.hi f hf
theorem Im.I2(h:Im G):Im (aaC G):=⟨h.bs.I2,h.be,h.ring,h.drn,h.hi⟩
theorem aop(h:Bs G):∀x∈(aaC G).hea,x.out=Nw->(aaC G).now<x.till:=by
 intro y c a;obtain⟨x,b,rfl⟩:=ZAd.1 c;rw[aj1 h b]at a⊢
 split at a
 ·exact absurd a (show ¬Nb=Nw by decide)
 ·rename_i hn
  rw[Nf hn];show G.now<x.till
  by_cases hlt:G.now<x.till
  ·exact hlt
  ·exact absurd ⟨a,by omega⟩ hn
theorem Im.next(h:Im G)(hn:G.now+1<=1099511626776):Im {G with now:=G.now+1}:=⟨h.bs.next hn,h.be,h.ring,h.drn,fun f hf=>by have:=h.hi f hf;show f.due<=G.now+1+500;omega⟩
theorem Im.IN(h:Im G)(hw:G.wnow+1<=G.now):Im {G with wnow:=G.wnow+1,tms:=fun t=>G.tms t/\t.1≠G.wnow+1}:=⟨h.bs.IN hw,h.be,h.ring,h.drn,h.hi⟩
end
section
variable {G:Gt}
def adh(L L':List awV):Prop:=∀l∈L',l.2.1=3->l∈L
theorem adh.Gy(L:List awV):adh L L:=fun _ h _=>h
theorem adh.F0{A B C:List awV}(h:adh A B)(k:adh B C):adh A C:=fun l hl h3=>h l (k l hl h3) h3
theorem akk(h:Bs G)(b:Int):adh G.liv (Yf G b).liv:=by
 rw[ahh h]
 split
 case isTrue hc =>
  intro l c a;obtain⟨x,g,e⟩:=ZAd.1 c
  by_cases hb:x.1=b
  ·rw[Nh hb]at e
   rw[<-e]at a;exact absurd a (show ¬(4:Int)=3 by decide)
  ·rw[Nf hb]at e
   rw[<-e];exact g
 case isFalse hc=>exact adh.Gy _
structure Xc(G G':Gt):Prop where
 now:G'.now=G.now
 wnow:G'.wnow=G.wnow
 cfg:G'.cfg=G.cfg
 ends:adh G.liv G'.liv
 out:(∀h∈G.hea,h.out=Nw->G.now<h.till)->∀h∈G'.hea,h.out=Nw->G.now<h.till
theorem Xc.Gy(G:Gt):Xc G G:=⟨rfl,rfl,rfl,adh.Gy _,fun h=>h⟩
theorem Xc.F0{A B C:Gt}(h:Xc A B)(k:Xc B C):Xc A C :=
 ⟨k.now.trans h.now,k.wnow.trans h.wnow,k.cfg.trans h.cfg,h.ends.F0 k.ends,fun ho=>by have:=k.out;rw[h.now]at this;exact this (h.out ho)⟩
theorem ahi(b:Int):(Yf G b).now=G.now/\(Yf G b).wnow=G.wnow/\(Yf G b).cfg=G.cfg/\(Yf G b).hea=G.hea/\(Yf G b).fls=G.fls/\(Yf G b).tab=G.tab/\(Yf G b).tok=G.tok/\(Yf G b).wts=G.wts/\(Yf G b).tms=G.tms:=by
 unfold Yf
 split <;> exact⟨rfl,rfl,rfl,rfl,rfl,rfl,rfl,rfl,rfl⟩
theorem Xc.Ii(h:Bs G)(b:Int):Xc G (Yf G b):=by
 obtain⟨c,e,a,g,_⟩:=ahi (G:=G) b;exact⟨c,e,a,akk h b,fun ho=>by rw[g];exact ho⟩
theorem Xc.Hc(h:Bs G)(hf:f∈G.fls)(kind why:Int):Xc G (Yg G f kind why):=by
 have a:=Xc.Ii ((h.Iw hf).GT ⟨kind,f.slot,f.gen,f.be,0,0,why⟩) f.be;exact⟨a.now,a.wnow,a.cfg,a.ends,a.out⟩
theorem Xc.GA(h:Bs G){b:Int}(hb:0<=b/\b<12)(x:Bool):Xc G (Yh G b x):=by
 refine⟨rfl,rfl,rfl,adh.Gy _,fun ho y a hy2=>?_⟩;rcases aac a with rfl|a
 ·have c:b.toNat<G.hea.length:=by rw[h.hel];omega
  have e:G.hea.getD b.toNat XM=G.hea[b.toNat]:=by simp[c]
  have g:=h.IE hb;have m:=akx (d:=G.cfg.wh) (t:=(G.hea.getD b.toNat XM).times) h.Gx.2.2.1;have j:YR G.cfg.wn G.cfg.wf G.cfg.wh (G.hea.getD b.toNat XM).marks.length (G.hea.getD b.toNat XM).out (G.hea.getD b.toNat XM).till (G.hea.getD b.toNat XM).times G.now=0:=by unfold YR;rw[Nh h.Gx,Nh h.GN,Nh g]
  unfold afT Zt at hy2⊢;rw[Nh j]at hy2⊢
  split at hy2
  ·rename_i hc
   rw[Nh hc];show G.now<G.now+aaL G.cfg.wh (G.hea.getD b.toNat XM).times;omega
  ·rename_i hc
   rw[Nf hc];show G.now<(G.hea.getD b.toNat XM).till;rw[e]at hy2⊢;exact ho _ (Nk c) hy2
 ·exact ho y a hy2
theorem Xc.I1(h:Bs G)(hi:i<G.fls.length){b:Int}(hb:0<=b/\b<12)(hr:G.fls[i].ret+1<=G.cfg.ret):Xc G (ZL G i b):=by
 have c:=h.Ig hi hb hr;unfold ZL;simp only[XA hi];have e:=Bs.It c (i:=i) (by show i<(G.fls.set i _).length;rw[NA];exact hi) h.conn;have a:=Xc.Ii (Bs.GT e ⟨5,(Xs (YW (Y4 {G with tab:=(Y0 G.tab G.fls[i].slot G.fls[i].gen b).1} i {G.fls[i]with be:=b,ret:=G.fls[i].ret+1}) i G.cfg.conn) i).slot,(Xs (YW (Y4 {G with tab:=(Y0 G.tab G.fls[i].slot G.fls[i].gen b).1} i {G.fls[i]with be:=b,ret:=G.fls[i].ret+1}) i G.cfg.conn) i).gen,(Xs (YW (Y4 {G with tab:=(Y0 G.tab G.fls[i].slot G.fls[i].gen b).1} i {G.fls[i]with be:=b,ret:=G.fls[i].ret+1}) i G.cfg.conn) i).be,0,0,0⟩) G.fls[i].be;exact⟨a.now,a.wnow,a.cfg,a.ends,a.out⟩
theorem Xc.I8(h:Bs G)(hi:i<G.fls.length)(why:Int):Xc G (YP G i why):=by
 have j:=Nk hi;have g:=(h.F9 j).2.2.2;have a:=Xc.GA h g Nw;rcases aeI h hi why with⟨y,e,_⟩|⟨c,e,q,o,r,m,_⟩
 ·rw[e]
  exact a.F0 (Xc.Hc (h.GA g Nw) j _ _)
 ·rw[e]
  have p:=ahO h q;have b:=Xc.I1 (Bs.Hp (n:=G.tok-G.cfg.bd) (h.GA g Nw) p) hi m o;exact⟨b.now.trans a.now,b.wnow.trans a.wnow,b.cfg.trans a.cfg,a.ends.F0 b.ends,fun ho=>b.out (a.out ho)⟩
theorem akm(h:Bs G)(hi:i<G.fls.length)(why:Int):∀x∈(YP G i why).fls,x.slot=G.fls[i].slot->x.due=G.now+G.cfg.conn:=by
 have b:=Nk hi;have j:=(h.F9 b).2.2.2;intro x a e;rcases aeI h hi why with⟨y,q,_⟩|⟨c,q,_⟩
 ·rw[q]at a
  unfold Yg at a;rw[afJ]at a;have a:x∈Yl G.fls G.fls[i].slot G.fls[i].gen:=a;rw[h.GL b]at a;have:=(ZAf.1 a).2;rw[e]at this;simp at this
 ·rw[q,akZ (G:={Yh G G.fls[i].be Nw with tok:=_}) hi]at a
  have a:x∈G.fls.set i {G.fls[i]with be:=c,ret:=G.fls[i].ret+1,due:=G.now+G.cfg.conn}:=a;have g:({G.fls[i]with be:=c,ret:=G.fls[i].ret+1,due:=G.now+G.cfg.conn}:Fl).slot=G.fls[i].slot:=rfl;rcases(abe h.Ge hi g).1 a with rfl|⟨_,hne⟩
  ·rfl
  ·exact absurd e hne
theorem afL(h:Bs G)(hf:f∈G.fls)(kind why:Int):∀x∈(Yg G f kind why).fls,x∈G.fls/\x.slot≠f.slot:=by
 intro x a;unfold Yg at a;rw[afJ]at a;have a:x∈Yl G.fls f.slot f.gen:=a;rw[h.GL hf]at a;obtain⟨b,c⟩:=ZAf.1 a;exact⟨b,by simpa using c⟩
theorem ahy(h:Im G)(hf:f∈G.fls):Im (X5 G f.slot)/\Xc G (X5 G f.slot)/\adi G (X5 G f.slot) f.slot/\∀x∈(X5 G f.slot).fls,x.slot=f.slot->x.due=G.now+G.cfg.conn:=by
 obtain⟨a,e⟩:=h.bs.GG hf;refine⟨?_,?_,(h.bs.Jy hf).2,?_⟩
 ·unfold X5
  simp only[]
  split
  ·rw[XA a,e];exact h.Hc hf _ _
  ·exact h.I8 a _
 ·unfold X5
  simp only[]
  split
  ·rw[XA a,e];exact Xc.Hc h.bs hf _ _
  ·exact Xc.I8 h.bs a _
 ·unfold X5
  simp only[]
  split
  ·rw[XA a,e]
   intro x c b;exact absurd b (afL h.bs hf _ _ x c).2
  ·have:=akm h.bs a 5
   rw[e]at this;exact this
theorem akQ:∀(l:List Int) (G:Gt),Im G->l.Nodup->(∀s∈l,∃f∈G.fls,f.slot=s)->(∀f∈G.fls,G.now<f.due\/f.slot∈l) ->
  Im (l.foldl X5 G)/\Xc G (l.foldl X5 G)/\∀f∈(l.foldl X5 G).fls,G.now<f.due
 | [],G,h,_,_,hd=>⟨h,Xc.Gy G,fun f a=>(hd f a).resolve_right (by simp)⟩
 |s::l,G,h,hn,hs,hd=>by
  obtain⟨f,a,rfl⟩:=hs s (by simp);obtain⟨o,b,j,p⟩:=ahy h a;obtain⟨v,w⟩:=List.nodup_cons.1 hn;have z:=h.bs.conn;obtain⟨m,r,q⟩:=akQ l _ o w (fun c hc=>by
   obtain⟨k,u,rfl⟩:=hs c (NB _ hc);exact⟨k,(j k fun e=>v (by rw[<-e];exact hc)).2 u,rfl⟩) (fun x hx=>by
   rw[b.now]
   by_cases e:x.slot=f.slot
   ·have:=p x hx e
    exact Nt (by omega)
   ·rcases hd x ((j x e).1 hx)with h5|h5
    ·exact Nt h5
    ·rcases OO.1 h5 with g|g
     ·exact absurd g e
     ·exact NF g)
  refine⟨m,b.F0 r,fun x hx=>?_⟩;have:=q x hx;rw[b.now]at this;exact this
theorem akK(hf:f∈fs)(h:f.due=n):f.slot∈aaD fs n:=Ri (ZAf.2 ⟨hf,by simpa using h⟩)
theorem Im.Je(h:Im G)(hw:G.wnow+1=G.now)(hd:∀f∈G.fls,G.wnow<f.due) :
  Im (Zs G)/\(Zs G).now=G.now/\(Zs G).wnow=G.now/\(Zs G).cfg=G.cfg/\adh G.liv (Zs G).liv/\((∀h∈G.hea,h.out=Nw->G.now<h.till)->∀h∈(Zs G).hea,h.out=Nw->G.now<h.till)/\∀f∈(Zs G).fls,G.now<f.due:=by
 obtain⟨g,m⟩:=h.bs.IF (G.wnow+1);obtain⟨c,a,j⟩:=akQ (aaD G.fls (G.wnow+1)) _ (h.IN (by omega)) g (fun s hs=>by
  obtain⟨f,b,e,_⟩:=m s hs;exact⟨f,b,e⟩) (fun f b=>by
   have:=hd f b
   by_cases e:f.due=G.wnow+1
   ·exact NF (akK b e)
   ·exact Nt (by show G.now<f.due;omega))
 exact⟨c,a.now,a.wnow.trans hw,a.cfg,a.ends,a.out,j⟩
structure YU(G G':Gt):Prop where
 step:Xc G G'
 fls:∀f∈G'.fls,f∈G.fls
theorem YU.F0{A B C:Gt}(h:YU A B)(k:YU B C):YU A C:=⟨h.step.F0 k.step,fun f hf=>h.fls f (k.fls f hf)⟩
theorem aka:∀(l:List Tm) (G:Gt),Im G->l.Pairwise (fun a b=>a.1<b.1)->(∀t∈l,∃f∈G.fls,f.slot=t.1) ->
  Im (l.foldl Ye G)/\YU G (l.foldl Ye G)/\∀f∈(l.foldl Ye G).fls,∀t∈l,f.slot≠t.1
 | [],G,h,_,_=>⟨h,⟨Xc.Gy G,fun _ h=>h⟩,fun _ _ t ht=>by cases ht⟩
 |t::l,G,h,hn,hs=>by
  obtain⟨f,g,e⟩:=hs t (by simp);obtain⟨w,C⟩:=h.bs.GG g;have m:Ye G t=Yg G f 6 2:=by unfold Ye;rw[<-e,XA w,C]
  have r:Im (Ye G t):=by rw[m];exact h.Hc g _ _
  have z:YU G (Ye G t):=by rw[m];exact⟨Xc.Hc h.bs g _ _,fun x hx=>(afL h.bs g _ _ x hx).1⟩
  have p:adi G (Ye G t) t.1:=by rw[m,<-e];exact ad3 h.bs g _ _
  have s:∀x∈(Ye G t).fls,x.slot≠t.1:=by rw[m,<-e];exact fun x hx=>(afL h.bs g _ _ x hx).2
  obtain⟨A,B⟩:=ZAe.1 hn;obtain⟨q,o,D⟩:=aka l _ r B fun c j=>by
   obtain⟨k,v,u⟩:=hs c (NB _ j);refine⟨k,(p k fun e3=>?_).2 v,u⟩;have:=A c j;omega
  refine⟨q,z.F0 o,fun x hx c j=>?_⟩;rcases OO.1 j with rfl|j
  ·exact s x (o.fls x hx)
  ·exact D x hx c j
theorem Bs.Jj(h:Bs G)(hf:f∈G.fls):(f.slot,f.gen)∈YL f.be G.tab:=by
 obtain⟨k,a,c,b⟩:=h.slot hf;unfold YL YM;refine ZAd.2 ⟨k,ZAf.2 ⟨by simpa using a,?_⟩,?_⟩
 ·simp[aa6,a,b]
 ·simp[afn,a,b,c]
theorem ahd(h:Im G)(l:awV):Im (Zd G l)/\YU G (Zd G l)/\(l.2.1=3->l.2.2.2.2.1<=G.now->∀f∈(Zd G l).fls,f.be≠l.1):=by
 unfold Zd
 split
 ·rename_i a
  refine⟨h,⟨Xc.Gy G,fun _ h=>h⟩,fun h3 hu=>?_⟩;rcases a with a|a
  ·exact absurd h3 a
  ·omega
 ·obtain⟨j,o⟩:=h.bs.IW l.1
  obtain⟨g,c,m⟩:=aka (YL l.1 G.tab) G h j fun t ht=>by
   obtain⟨f,b,e,_⟩:=o t ht;exact⟨f,b,e⟩
  refine⟨g,c,fun _ _ f b e=>?_⟩;have:=h.bs.Jj (c.fls f b);rw[e]at this;exact m f b _ this rfl
theorem akd:∀(L:List awV) (G:Gt),Im G->Im (L.foldl Zd G)/\YU G (L.foldl Zd G)/\∀l∈L,l.2.1=3->l.2.2.2.2.1<=G.now->∀f∈(L.foldl Zd G).fls,f.be≠l.1
 | [],G,h=>⟨h,⟨Xc.Gy G,fun _ h=>h⟩,fun _ hl=>by cases hl⟩
 |l::L,G,h=>by
  obtain⟨o,g,j⟩:=ahd h l;obtain⟨m,e,p⟩:=akd L _ o;refine⟨m,g.F0 e,fun x a=>?_⟩;rcases OO.1 a with rfl|a
  ·exact fun b c f hf=>j b c f (e.fls f hf)
  ·intro b c
   exact p x a b (by rw[g.step.now];exact c)
theorem Im.Mq(h:Im G):Im (acG G)/\YU G (acG G)/\∀l∈(acG G).liv,l.2.1=3->G.now<l.2.2.2.2.1:=by
 obtain⟨b,a,j⟩:=akd G.liv G h;refine⟨b,a,fun l hl h3=>?_⟩
 by_cases hlt:G.now<l.2.2.2.2.1
 ·exact hlt
 ·have c:=a.step.ends l hl h3
  obtain⟨f,g,e⟩:=acF.1 (b.drn l hl h3);exact absurd e (j l c h3 (by omega) f g)
theorem aeS(h:Bs G):(YH G).now=G.now/\(YH G).wnow=G.wnow/\(YH G).fls=G.fls/\(YH G).cfg=G.cfg/\(YH G).out=G.out/\(YH G).tab=G.tab/\(YH G).tok=G.tok/\(YH G).liv=G.liv.map (XH G.now):=by
 rw[af3 h];obtain⟨c,e,o,m,b,a,g,j,_⟩:=ahR (XW G.liv) {G with liv:=G.liv.map (XH G.now)};exact⟨e,c,o,g,a,b,j,m⟩
theorem Wm.I6(h:Wm G)(hn:G.now+1<=1099511626776):Wm (abj G)/\(abj G).now=G.now+1/\(abj G).cfg=G.cfg:=by
 have m:=h.im.next hn;obtain⟨z,u,w,v,_⟩:=aeS m.bs;have o:=m.Jf;have s:=o.I2;have a:(aaC (YH {G with now:=G.now+1})).now=G.now+1:=z;have g:(aaC (YH {G with now:=G.now+1})).wnow=G.now:=u.trans h.wnow;obtain⟨A,B,C,r,E,q,D⟩:=s.Je (by rw[g,a]) (fun f b=>by
  have b:f∈(YH {G with now:=G.now+1}).fls:=b;rw[w]at b;rw[g];exact h.due f b)
 obtain⟨c1,c2,c3⟩:=A.Mq;have e:(Zs (aaC (YH {G with now:=G.now+1}))).now=G.now+1:=B.trans a;have c:(abj G).now=G.now+1:=c2.step.now.trans e;refine⟨⟨c1,?_,fun f b=>?_,fun l hl h4=>?_,fun x hx ho=>?_⟩,c,c2.step.cfg.trans (r.trans v)⟩
 ·rw[c]
  exact c2.step.wnow.trans (C.trans a)
 ·rw[c]
  have:=D f (c2.fls f b);rw[a]at this;exact this
 ·rw[c]
  have:=c3 l hl h4;rw[e]at this;exact this
 ·rw[c]
  have j:=c2.step.out;rw[e]at j;rw[a]at q;have p:=aop (G:=YH {G with now:=G.now+1}) o.bs;rw[a]at p;exact j (q p) x hx ho
end
section
variable {G:Gt}
theorem Wm.of(h:Wm G){G':Gt}(im:Im G')(st:Xc G G')(hd:∀f∈G'.fls,G.now<f.due):Wm G' :=
 ⟨im,by rw[st.wnow,st.now];exact h.wnow,by rw[st.now];exact hd,fun l hl h3=>by rw[st.now];exact h.till l (st.ends l hl h3) h3,by rw[st.now];exact st.out h.out⟩
theorem Wm.Jh(h:Wm G)(o:List Ou):Wm {G with out:=o}:=⟨⟨h.im.bs.Jh o,h.im.be,h.im.ring,h.im.drn,h.im.hi⟩,h.wnow,h.due,h.till,h.out⟩
theorem Wm.GT(h:Wm G)(o:Ou):Wm (ZM G o):=h.Jh _
theorem Wm.Hc(h:Wm G)(hf:f∈G.fls)(kind why:Int):Wm (Yg G f kind why):=
 h.of (h.im.Hc hf _ _) (Xc.Hc h.im.bs hf _ _) fun x hx=>h.due x (afL h.im.bs hf _ _ x hx).1
theorem Wm.I8(h:Wm G)(hi:i<G.fls.length)(why:Int):Wm (YP G i why):=by
 refine h.of (h.im.I8 hi _) (Xc.I8 h.im.bs hi _) fun x hx=>?_
 by_cases e:x.slot=G.fls[i].slot
 ·have a:=akm h.im.bs hi why x hx e
  have b:=h.im.bs.conn;omega
 ·exact h.due x ((akU h.im.bs hi why x e).1 hx)
theorem Wm.Mr(h:Wm G)(hi:i<G.fls.length):Wm (aaZ G i):=by
 have a:=h.im.Mr hi;have c:=h.im.bs.idle;unfold aaZ at a⊢
 split at a
 ·rename_i hs
  rw[Nh hs];refine h.of a ⟨rfl,rfl,rfl,adh.Gy _,fun ho=>ho⟩ fun x b=>?_
  rcases aac b with rfl|b
  ·show G.now<G.now+G.cfg.idle;omega
  ·exact h.due x b
 ·rename_i hs
  rw[Nf hs];exact h.GT _
theorem Wm.Mu(h:Wm G)(hi:i<G.fls.length):Wm (abh G i):=by
 have b:=h.im.Mu hi;have j:=h.im.bs.idle;have c:=Nk hi;have g:=(h.im.bs.F9 c).2.2.2;have e:=Xc.GA h.im.bs g Nb;unfold abh at b⊢;simp only[XA hi]at b⊢;refine h.of b ⟨rfl,rfl,rfl,adh.Gy _,e.out⟩ fun x a=>?_
 have a:x∈(G.fls.set i _).set i _:=a;rcases aac a with rfl|a
 ·show G.now<G.now+G.cfg.idle;omega
 ·rcases aac a with rfl|a
  ·exact h.due G.fls[i] c
  ·exact h.due x a
theorem Wm.Mz(h:Wm G)(e:Ev):Wm (aaq G e):=by
 unfold aaq;simp only[]
 split
 ·exact h.GT _
 ·rename_i b
  have b:(Yj G.tab e.slot e.gen).2=0:=by
   by_cases e':(Yj G.tab e.slot e.gen).2=0
   ·exact e'
   ·exact absurd e' b
  obtain⟨f,c,j,m⟩:=h.im.bs.Jv b;rw[<-j];obtain⟨a,g⟩:=h.im.bs.GG c
  split
  ·rw[XA a,g]
   exact h.Hc c _ _
  ·split
   ·exact h.Mr a
   ·split
    ·exact h.GT _
    ·split
     ·exact h.Mu a
     ·exact h.I8 a _
theorem Wm.Mp(h:Wm G){key:Int}(hk:0<=key/\key<=4294967295):Wm (aaI G key):=by
 have b:=h.im.Mp hk;have g:=h.im.bs.conn;rcases afU h.im.bs hk with⟨e,_⟩|⟨e,_⟩|⟨k,c,_,_,_,_,_,_,_,e⟩
 ·rw[e];exact h.GT _
 ·rw[e];exact h.GT _
 ·rw[e]at b⊢
  refine h.of b ⟨rfl,rfl,rfl,adh.Gy _,fun ho=>ho⟩ fun x a=>?_
  rcases abT.1 a with rfl|a
  ·show G.now<G.now+G.cfg.conn;omega
  ·exact h.due x a
theorem Wm.Ms(h:Wm G){e:Ev}(he:XZ e)(h5:e.kind=5):Wm (Yv G 1 e):=by
 refine h.of (h.im.Ms he h5) ⟨rfl,rfl,rfl,fun l a h3=>?_,fun ho=>ho⟩ h.due;have a:l∈(YV G 1 e).1.1:=a;rcases ag7 h.im.bs he.req (Nt rfl:(1:Int)=1\/(1:Int)=2)with⟨_,q⟩|⟨_,_,q,_⟩|⟨_,k,_⟩
 ·rw[q]at a;exact a
 ·rw[q]at a
  rcases akD h.im.bs.book.1.2 he.be (he.wt h5)with⟨_,_,_,b⟩|⟨_,e1⟩
  ·rcases b l a with b|rfl
   ·exact b
   ·exact absurd h3 (show ¬(1:Int)=3 by decide)
  ·rw[e1]at a;exact a
 ·exact absurd k (by decide)
theorem Wm.Mt(h:Wm G){e:Ev}(he:XZ e):Wm (abg G e):=by
 have z:=h.im.bs.drain;have a:=h.im.Mt he;have o:=h.im.bs.Mc he.req (NF rfl:(2:Int)=1\/(2:Int)=2);have r:Bs {Yv G 2 e with wts:=G.wts.set e.be.toNat 0}:=Bs.Jg o (h.im.bs.wts.F4 _ 0 (by omega) (by omega));have m:∀l∈(Yv G 2 e).liv,l.2.1=3->G.now<l.2.2.2.2.1:=by
  intro l b c;have b:l∈(YV G 2 e).1.1:=b;rcases ahC h.im.bs he.req with⟨_,q⟩|⟨_,_,_,A,q⟩
  ·rw[q]at b;exact h.till l b c
  ·rw[q]at b
   obtain⟨x,j,v⟩:=akL b;rcases v with rfl|rfl
   ·exact h.till _ j c
   ·show G.now<G.now+G.cfg.drain
    omega
 unfold abg at a⊢
 split
 ·rename_i hy
  rw[Nh hy]at a;exact⟨a,h.wnow,h.due,m,h.out⟩
 ·rename_i hy
  rw[Nf hy]at a
  split
  ·rename_i h2
   rw[Nh h2]at a;exact⟨a,h.wnow,h.due,m,h.out⟩
  ·rename_i h2
   rw[Nf h2]at a;obtain⟨g,u,B,w,s,_⟩:=ahi (G:={Yv G 2 e with wts:=G.wts.set e.be.toNat 0}) e.be;have p:=akk r e.be;refine⟨a,by rw[g,u];exact h.wnow,fun f hf=>?_,fun l b c=>?_,fun x j ho=>?_⟩
   ·rw[g];rw[s]at hf;exact h.due f hf
   ·rw[g];exact m l (p l b c) c
   ·rw[g];rw[w]at j;exact h.out x j ho
theorem Wm.Mm(h:Wm G){e:Ev}(he:XZ e)(hn:e.kind=7->G.now+1<=1099511626776):Wm (Xb G e):=by
 unfold Xb
 split
 ·exact h.Mp he.key
 ·split
  ·rename_i h5
   exact h.Ms he h5
  ·split
   ·exact h.Mt he
   ·split
    ·rename_i h7
     exact(h.I6 (hn h7)).1
    ·exact h.Mz e
end
section
variable {G:Gt}
theorem aki(b:Int):(Yf G b).out.length<=G.out.length+1:=by
 unfold Yf
 split
 ·show(G.out++[_]).length<=_;simp
 ·omega
theorem afK(f:Fl)(kind why:Int):(Yg G f kind why).out.length<=G.out.length+2:=by
 unfold Yg;refine Nm (aki _) ?_;show(G.out++[_]).length+1<=_;simp
theorem aqr(i:Nat)(b:Int):(ZL G i b).out.length<=G.out.length+2:=by
 unfold ZL;refine Nm (aki _) ?_;show(G.out++[_]).length+1<=_;simp
theorem aoZ(i:Nat)(why:Int):(YP G i why).out.length<=G.out.length+2:=by
 unfold YP;simp only[]
 split
 ·exact afK (G:=Yh G _ Nw) _ _ _
 ·split
  ·exact afK (G:=Yh G _ Nw) _ _ _
  ·exact aqr (G:={Yh G _ Nw with tok:=_}) _ _
theorem akP(s:Int):(X5 G s).out.length<=G.out.length+2:=by
 unfold X5;simp only[]
 split
 ·exact afK _ _ _
 ·exact aoZ _ _
theorem aj9(t:Tm):(Ye G t).out.length<=G.out.length+2:=afK _ _ _
theorem akS:∀(l:List Int) (G:Gt) (k:Nat),Im G->l.Nodup->(∀s∈l,∃f∈G.fls,f.slot=s)->k<=l.length ->
  Im ((l.take k).foldl X5 G)/\Xc G ((l.take k).foldl X5 G)/\(∀s∈l.drop k,∃f∈((l.take k).foldl X5 G).fls,f.slot=s)/\((l.take k).foldl X5 G).out.length<=G.out.length+2*k
 |l,G,0,h,_,hs,_=>⟨h,Xc.Gy G,hs,MV _⟩
 | [],G,k+1,_,_,_,hk=>by simp at hk
 |s::l,G,k+1,h,hn,hs,hk=>by
  obtain⟨f,q,rfl⟩:=hs s (by simp);obtain⟨m,u,g,_⟩:=ahy h q;obtain⟨a,b⟩:=List.nodup_cons.1 hn;obtain⟨o,r,p,w⟩:=akS l (X5 G f.slot) k m b (fun s hs'=>by
   obtain⟨x,j,e⟩:=hs s (NB _ hs');have c:x.slot≠f.slot:=fun e2=>a (by rw[<-e2,e];exact hs')
   exact⟨x,(g x c).2 j,e⟩) (by simpa using hk)
  have v:=akP (G:=G) f.slot;rw[PT,O4,List.drop_succ_cons];exact⟨o,u.F0 r,p,by omega⟩
theorem ake:∀(l:List Tm) (G:Gt) (k:Nat),Im G->l.Pairwise (fun a b=>a.1<b.1)->(∀t∈l,∃f∈G.fls,f.slot=t.1)->k<=l.length ->
  Im ((l.take k).foldl Ye G)/\Xc G ((l.take k).foldl Ye G)/\(∀t∈l.drop k,∃f∈((l.take k).foldl Ye G).fls,f.slot=t.1)/\((l.take k).foldl Ye G).out.length<=G.out.length+2*k
 |l,G,0,h,_,hs,_=>⟨h,Xc.Gy G,hs,MV _⟩
 | [],G,k+1,_,_,_,hk=>by simp at hk
 |t::l,G,k+1,h,hn,hs,hk=>by
  obtain⟨f,c,e⟩:=hs t (by simp);obtain⟨z,v⟩:=h.bs.GG c;have g:Ye G t=Yg G f 6 2:=by
   unfold Ye;rw[<-e,XA z,v]
  have u:Im (Ye G t):=by rw[g];exact h.Hc c _ _
  have A:Xc G (Ye G t):=by rw[g];exact Xc.Hc h.bs c _ _
  have q:adi G (Ye G t) f.slot:=by rw[g];exact ad3 h.bs c _ _
  obtain⟨o,p⟩:=ZAe.1 hn;obtain⟨r,w,C,D⟩:=ake l (Ye G t) k u p (fun s hs'=>by
   obtain⟨x,B,j⟩:=hs s (NB _ hs');have m:x.slot≠f.slot:=fun e4=>by have:=o s hs';rw[<-e,<-j,e4]at this;omega
   exact⟨x,(q x m).2 B,j⟩) (by simpa using hk)
  have E:=aj9 (G:=G) t;rw[PT,O4,List.drop_succ_cons];exact⟨r,A.F0 w,C,by omega⟩
theorem ak1:∀ {l m:List Int},l.Pairwise (·<·)->m.Pairwise (·<·)->(∀x,x∈l↔x∈m)->l=m
 | [],[],_,_,_=>rfl
 | [],b::m,_,_,h=>absurd ((h b).2 (NM ..)) (by simp)
 |a::l,[],_,_,h=>absurd ((h a).1 (NM ..)) (by simp)
 |a::l,b::m,h1,h2,h=>by
  obtain⟨g,p⟩:=ZAe.1 h1;obtain⟨j,o⟩:=ZAe.1 h2;have e:a=b:=by
   rcases OO.1 ((h a).1 (NM ..))with e|e
   ·exact e
   ·rcases OO.1 ((h b).2 (NM ..))with e2|e2
    ·exact e2.symm
    ·have:=g b e2;have:=j a e;omega
  subst e;rw[ak1 p o fun x=>?_];constructor
  ·intro c
   rcases OO.1 ((h x).1 (NB _ c))with e|e
   ·have:=g x c;omega
   ·exact e
  ·intro c
   rcases OO.1 ((h x).2 (NB _ c))with e|e
   ·have:=j x c;omega
   ·exact e
theorem apL(h:Bs G){ls ms:List (List Tm)}{L:List Tm}(ht:∀t,t∈ls.flatten↔G.tms t)(hL:Z8 G.wnow ls ms L):L.map (·.2)=aaD G.fls (G.wnow+1):=by
 refine ak1 ?_ ?_ fun x=>?_
 ·refine List.pairwise_map.2 (hL.ord.imp_of_mem fun {a b} ha hb hc=>?_)
  have p:=((hL.off a).1 ha).2;have q:=((hL.off b).1 hb).2;unfold Xe at hc;rw[p,q,Nf (by omega),Nf (by omega)]at hc
  split at hc
  ·assumption
  ·split at hc <;> omega
 ·unfold aaD
  exact List.pairwise_map.2 (h.Ge.filter _)
 ·constructor
  ·intro g
   obtain⟨t,r,rfl⟩:=ZAd.1 g;obtain⟨o,m⟩:=(hL.off t).1 r;obtain⟨f,c,e,_⟩:=(h.tms t).1 ((ht t).1 o);rw[e]at m⊢;exact akK c m
  ·intro g
   obtain⟨f,c,rfl⟩:=ZAd.1 g;obtain⟨c,j⟩:=ZAf.1 c;have j:f.due=G.wnow+1:=by simpa using j
   refine ZAd.2 ⟨(f.due,f.slot),(hL.off _).2 ⟨(ht _).2 ((h.tms _).2 ⟨f,c,rfl,by omega⟩),j⟩,rfl⟩
theorem apM{ls ms:List (List Tm)}{L:List Tm}(ht:∀t,t∈ls.flatten↔G.tms t)(hL:Z8 G.wnow ls ms L)(t:Tm):t∈ms.flatten↔G.tms t/\t.1≠G.wnow+1:=(hL.left t).trans (and_congr (ht t) Iff.rfl)
end
end
section
variable {f:Fl}{n s:Int}{junk l:List Fl}{xs:List M7}{L:List awV}{W:MO}{P:MO->Prop}{b c cap j k:Nat}{S:Nat->Prop}{p:Option Oc}{T:Tm->Prop}
abbrev WX(f:Fl):List Value:=[yB f.slot,yB f.gen,yB f.key,yB f.be,M3 f.srv,yB f.ret,yB f.due]
abbrev Z1(o:Ou):List Value:=[yB o.kind,yB o.slot,yB o.gen,yB o.be,yB o.req,yB o.code,yB o.why]
abbrev Mk:=Option Oc×Nat
abbrev aa0(x:Mk×He):List Value:=[MG x.1.1 x.2.marks.length x.1.2,M3 x.2.out,yB x.2.till,yB x.2.times]
theorem XL(x:Fl):(WX x).length=7:=rfl
theorem akV(x:Ou):(Z1 x).length=7:=rfl
theorem aci(x:Mk×He):(aa0 x).length=4:=rfl
theorem acI(x:Fl):∀u∈WX x,u.oneCell'=true:=by
 intro u a;simp only[OO,OD,or_false]at a;rcases a with rfl|rfl|rfl|rfl|rfl|rfl|rfl <;> rfl
theorem aqd(x:Ou):∀u∈Z1 x,u.oneCell'=true:=by
 intro u a;simp only[OO,OD,or_false]at a;rcases a with rfl|rfl|rfl|rfl|rfl|rfl|rfl <;> rfl
theorem apb(x:Mk×He):∀u∈aa0 x,u.oneCell'=true:=by
 intro u a;simp only[OO,OD,or_false]at a;rcases a with rfl|rfl|rfl|rfl <;> rfl
structure Vs where
 bh:Nat
 ch:Nat
 pt:Option Oc
 ct:Nat
 pf:Option Oc
 cf:Nat
 pl:Option Oc
 cl:Nat
 pr:Option Oc
 cr:Nat
 ps:Option Oc
 cs:Nat
 pw:Option Oc
 cw:Nat
 po:Option Oc
 co:Nat
 ms:List Mk
def Vs.own(V:Vs)(g b:Nat):Prop:=b=g\/b=V.bh\/V.pf.map (·.block)=MI b\/V.po.map (·.block)=MI b
def Vs.off(V:Vs)(base g b:Nat):Prop:=V.own g b\/b<base
def XG(S:Nat->Prop)(w:MO)(P:MO->Prop):Prop :=
 ∀w',w.heap.size<=w'.heap.size->(∀b,b<w.heap.size->¬S b->w'.heap[b]?=w.heap[b]?)->P w'
theorem XG.now{w:MO}(h:XG S w P):P w:=h w (MV _) fun _ _ _=>rfl
theorem XG.step{S':Nat->Prop}{w w':MO}(h:XG S w P)(hs:w.heap.size<=w'.heap.size)(hb:∀b,b<w.heap.size->¬S b->w'.heap[b]?=w.heap[b]?)(hS:∀b,b<w.heap.size->S' b->S b):XG S' w' P :=
 fun w'' h1 h2=>h w'' (Nm hs h1) fun b hlt hn=>(h2 b (M8 hlt hs) fun h=>hn (hS b hlt h)).trans (hb b hlt hn)
theorem XG.below{w w':MO}(h:XG S w P)(hb:yA w w'):XG S w' P:=h.step hb.size (fun b hlt _=>hb.block b hlt) fun _ _ h=>h
theorem abt{w:MO}{n:Nat}(h:XB w (MG p k c) n xs)(hS:∀b,p.map (·.block)=MI b->¬S b):XG S w fun W=>XB W (MG p k c) n xs:=by
 intro w' r u;obtain⟨a,cap,e,o,m,d|⟨b,off,d,q,t⟩⟩:=h
 ·exact⟨a,cap,e,o,m,Nt d⟩
 ·refine⟨a,cap,e,o,m,NF ⟨b,off,d,M8 q r,fun i hi=>?_⟩⟩
  rw[<-t i hi];cases e;subst d;have:=u b q (hS b rfl);simp only[Nl,this]
abbrev ahn(V:Vs)(G:Gt):Array Value:=#[yB G.cfg.flows,yB G.cfg.num,yB G.cfg.den,yB G.cfg.tries,yB G.cfg.warm,yB G.cfg.drain,yB G.cfg.idle,yB G.cfg.conn,yB G.cfg.ret,yB G.cfg.most,yB G.cfg.bn,yB G.cfg.bd,yB G.cfg.bb,yB G.cfg.wn,yB G.cfg.wf,yB G.cfg.wh,yB G.now,MG V.pt G.tab.length V.ct,MG V.pf G.fls.length V.cf,MG V.pl G.liv.length V.cl,MG V.pr G.req.length V.cr,MG V.ps (WW G.wts).length V.cs,MG (MI ⟨V.bh,0,MH⟩) 12 V.ch,yB G.tok,yB G.wnow,MG V.pw 25 V.cw,MG V.po G.out.length V.co]
structure hI(base:Nat)(w:MO)(g:Nat)(V:Vs)(G:Gt):Prop where
 tab:XG (V.off base g) w fun W=>Yy W (MG V.pt G.tab.length V.ct) G.tab
 book:XG (V.off base g) w fun W=>aaM W (MG V.pl G.liv.length V.cl) (MG V.pr G.req.length V.cr) G.liv G.req
 ring:XG (V.off base g) w fun W=>Xz W (MG V.ps (WW G.wts).length V.cs) (WW G.wts)
 whl:∃ls,Y9 G.wnow ls/\(∀t,t∈ls.flatten↔G.tms t)/\XG (V.off base g) w fun W=>Zo W (MG V.pw 25 V.cw) ls
 fls:w.ownsRow base 211 7 (MG V.pf G.fls.length V.cf) G.fls.length (rv WX G.fls)
 hea:w.ownsRow base 224 4 (MG (MI ⟨V.bh,0,MH⟩) 12 V.ch) 12 (rv aa0 (V.ms.zip G.hea))
 msl:V.ms.length=12
 hel:G.hea.length=12
 marks:∀(i:Nat) (m:Mk) (h:He),V.ms[i]?=MI m->G.hea[i]?=MI h->XG (V.off base g) w fun W=>Yo W (MG m.1 h.marks.length m.2) h.marks
 out:w.ownsRow base 120 7 (MG V.po G.out.length V.co) G.out.length (rv Z1 G.out)
 low:base<=g
 lt:g<w.heap.size
 hg:V.bh≠g
 fg:V.pf.map (·.block)≠MI g
 fh:V.pf.map (·.block)≠MI V.bh
 og:V.po.map (·.block)≠MI g
 oh:V.po.map (·.block)≠MI V.bh
 fo:∀b,V.pf.map (·.block)=MI b->V.po.map (·.block)≠MI b
 blk:Xo w
 pos:10<base
structure OR(base:Nat)(w:MO)(g:Nat)(V:Vs)(G:Gt):Prop where
 box:w.heap[g]?=MI (MP (ahn V G) 165 (0,0))
 rest:hI base w g V G
section
variable {base:Nat}{w w':MO}{g:Nat}{V:Vs}{G:Gt}
theorem XV(p:Option Oc)(n c:Nat):(MG p n c).ownBlock=p.map (·.block):=by cases p <;> rfl
theorem OR.c0(h:OR base w g V G):w.cell? ⟨g,0,MH⟩=MI (yB G.cfg.flows):=by rw[MW w g 0 _ _ (0,0) h.box];rfl
theorem OR.c1(h:OR base w g V G):w.cell? ⟨g,1,MH⟩=MI (yB G.cfg.num):=by rw[MW w g 1 _ _ (0,0) h.box];rfl
theorem OR.c2(h:OR base w g V G):w.cell? ⟨g,2,MH⟩=MI (yB G.cfg.den):=by rw[MW w g 2 _ _ (0,0) h.box];rfl
theorem OR.c3(h:OR base w g V G):w.cell? ⟨g,3,MH⟩=MI (yB G.cfg.tries):=by rw[MW w g 3 _ _ (0,0) h.box];rfl
theorem OR.c4(h:OR base w g V G):w.cell? ⟨g,4,MH⟩=MI (yB G.cfg.warm):=by rw[MW w g 4 _ _ (0,0) h.box];rfl
theorem OR.c5(h:OR base w g V G):w.cell? ⟨g,5,MH⟩=MI (yB G.cfg.drain):=by rw[MW w g 5 _ _ (0,0) h.box];rfl
theorem OR.c6(h:OR base w g V G):w.cell? ⟨g,6,MH⟩=MI (yB G.cfg.idle):=by rw[MW w g 6 _ _ (0,0) h.box];rfl
theorem OR.c7(h:OR base w g V G):w.cell? ⟨g,7,MH⟩=MI (yB G.cfg.conn):=by rw[MW w g 7 _ _ (0,0) h.box];rfl
theorem OR.c8(h:OR base w g V G):w.cell? ⟨g,8,MH⟩=MI (yB G.cfg.ret):=by rw[MW w g 8 _ _ (0,0) h.box];rfl
theorem OR.c9(h:OR base w g V G):w.cell? ⟨g,9,MH⟩=MI (yB G.cfg.most):=by rw[MW w g 9 _ _ (0,0) h.box];rfl
theorem OR.Hf(h:OR base w g V G):w.cell? ⟨g,10,MH⟩=MI (yB G.cfg.bn):=by rw[MW w g 10 _ _ (0,0) h.box];rfl
theorem OR.Hn(h:OR base w g V G):w.cell? ⟨g,11,MH⟩=MI (yB G.cfg.bd):=by rw[MW w g 11 _ _ (0,0) h.box];rfl
theorem OR.Hg(h:OR base w g V G):w.cell? ⟨g,12,MH⟩=MI (yB G.cfg.bb):=by rw[MW w g 12 _ _ (0,0) h.box];rfl
theorem OR.GS(h:OR base w g V G):w.cell? ⟨g,13,MH⟩=MI (yB G.cfg.wn):=by rw[MW w g 13 _ _ (0,0) h.box];rfl
theorem OR.GU(h:OR base w g V G):w.cell? ⟨g,14,MH⟩=MI (yB G.cfg.wf):=by rw[MW w g 14 _ _ (0,0) h.box];rfl
theorem OR.GO(h:OR base w g V G):w.cell? ⟨g,15,MH⟩=MI (yB G.cfg.wh):=by rw[MW w g 15 _ _ (0,0) h.box];rfl
theorem OR.Gm(h:OR base w g V G):w.cell? ⟨g,16,MH⟩=MI (yB G.now):=by rw[MW w g 16 _ _ (0,0) h.box];rfl
theorem OR.Gs(h:OR base w g V G):w.cell? ⟨g,17,MH⟩=MI (MG V.pt G.tab.length V.ct):=by rw[MW w g 17 _ _ (0,0) h.box];rfl
theorem OR.Gr(h:OR base w g V G):w.cell? ⟨g,18,MH⟩=MI (MG V.pf G.fls.length V.cf):=by rw[MW w g 18 _ _ (0,0) h.box];rfl
theorem OR.Gn(h:OR base w g V G):w.cell? ⟨g,19,MH⟩=MI (MG V.pl G.liv.length V.cl):=by rw[MW w g 19 _ _ (0,0) h.box];rfl
theorem OR.GD(h:OR base w g V G):w.cell? ⟨g,20,MH⟩=MI (MG V.pr G.req.length V.cr):=by rw[MW w g 20 _ _ (0,0) h.box];rfl
theorem OR.GX(h:OR base w g V G):w.cell? ⟨g,21,MH⟩=MI (MG V.ps (WW G.wts).length V.cs):=by rw[MW w g 21 _ _ (0,0) h.box];rfl
theorem OR.GI(h:OR base w g V G):w.cell? ⟨g,22,MH⟩=MI (MG (MI ⟨V.bh,0,MH⟩) 12 V.ch):=by rw[MW w g 22 _ _ (0,0) h.box];rfl
theorem OR.Id(h:OR base w g V G):w.cell? ⟨g,23,MH⟩=MI (yB G.tok):=by rw[MW w g 23 _ _ (0,0) h.box];rfl
theorem OR.GJ(h:OR base w g V G):w.cell? ⟨g,24,MH⟩=MI (yB G.wnow):=by rw[MW w g 24 _ _ (0,0) h.box];rfl
theorem OR.GH(h:OR base w g V G):w.cell? ⟨g,25,MH⟩=MI (MG V.pw 25 V.cw):=by rw[MW w g 25 _ _ (0,0) h.box];rfl
theorem OR.Ip(h:OR base w g V G):w.cell? ⟨g,26,MH⟩=MI (MG V.po G.out.length V.co):=by rw[MW w g 26 _ _ (0,0) h.box];rfl
theorem OR.fz(h:OR base w g V G)(k:Nat):w.frozen? ⟨g,k,MH⟩=false:=by simp[Ng,h.box]
theorem OR.lt(h:OR base w g V G):g<w.heap.size:=h.rest.lt
theorem hI.step(h:hI base w g V G)(hs:w.heap.size<=w'.heap.size)(hb:∀b,b<w.heap.size->b≠g->w'.heap[b]?=w.heap[b]?):hI base w' g V G:=by
 have a:∀ {P:MO->Prop},XG (V.off base g) w P->XG (V.off base g) w' P:=fun hP=>hP.step hs (fun b hlt hn=>hb b hlt fun e=>hn (Nt (Nt e))) fun _ _ h=>h
 have d:∀ {e:NU} {k:Nat} {p:Option Oc} {n c:Nat} {xs:List M7},w.ownsRow base e k (MG p n c) n xs->p.map (·.block)≠MI g->w'.ownsRow base e k (MG p n c) n xs:=fun ho hne =>
  W8 ho fun b hb'=>hb b (ho.lt b hb').2 fun e=>hne (by rw[<-XV _ _ _,hb',e])
 obtain⟨o,r,t,q⟩:=h.whl;exact⟨a h.tab,a h.book,a h.ring,⟨o,r,t,a q⟩,d h.fls h.fg,d h.hea (fun e=>h.hg (NC e)),h.msl,h.hel,fun i m x e1 e2=>a (h.marks i m x e1 e2),d h.out h.og,h.low,M8 h.lt hs,h.hg,h.fg,h.fh,h.og,h.oh,h.fo,
  h.blk.Gf (hb 10 (by have:=h.low;have:=h.pos;have:=h.lt;omega) (by have:=h.low;have:=h.pos;omega)),h.pos⟩
theorem hI.below(h:hI base w g V G)(hb:yA w w'):hI base w' g V G:=h.step hb.size fun b hlt _=>hb.block b hlt
theorem OR.below(h:OR base w g V G)(hb:yA w w'):OR base w' g V G:=⟨WO h.box hb,h.rest.below hb⟩
theorem OR.GW(h:OR base w g V G)(o:Obj):OR base (w.alloc o) g V G:=h.below ((MY _ _).alloc (MV _) o)
theorem hI.F4(h:hI base w g V G)(k:Nat)(v:M7):hI base (w.setCell ⟨g,k,MH⟩ v) g V G :=
 h.step (by simp) fun b _ hne=>MU _ _ _ _ hne
end
section
variable {base:Nat}{w w':MO}{g:Nat}{V:Vs}{G:Gt}
theorem hI.Ha(h:hI base w g V G)(hb:V.own g b):base<=b/\b<w.heap.size:=by
 rcases hb with rfl|rfl|e|e
 ·exact⟨h.low,h.lt⟩
 ·exact h.hea.lt _ rfl
 ·exact h.fls.lt b (by rw[XV];exact e)
 ·exact h.out.lt b (by rw[XV];exact e)
theorem hI.new(h:hI base w g V G)(hb:w.heap.size<=b):¬V.own g b:=fun e=>by have:=(h.Ha e).2;omega
theorem hI.GF(h:hI base w g V G)(hb:w.heap.size<=b):¬V.off base g b:=fun e=>e.elim (h.new hb) fun e=>by have:=h.low;have:=h.lt;omega
theorem hI.Jq(h:hI base w g V G)(hb:yA w w'){m:List awY}(ho:w'.ownsRow w.heap.size 208 4 (MG p m.length c) m.length (XF m)):
  hI base w' g {V with pt:=p,ct:=c} {G with tab:=m}:=by
 have a:=h.below hb;exact⟨abt (Yr ho) (fun b e=>h.GF (ho.lt b (by rw[XV];exact e)).1),a.book,a.ring,a.whl,a.fls,a.hea,a.msl,a.hel,a.marks,a.out,a.low,a.lt,a.hg,a.fg,a.fh,a.og,a.oh,a.fo,a.blk,a.pos⟩
theorem hI.IR(h:hI base w g V G)(hb:yA w w'){q:Option Oc}{R:List aw0}(ho:Yw w.heap.size w' (MG p L.length c) (MG q R.length k) L R):
  hI base w' g {V with pl:=p,cl:=c,pr:=q,cr:=k} {G with liv:=L,req:=R}:=by
 have a:=h.below hb;exact⟨a.tab,fun W h1 h2=>⟨abt ho.1.1 (fun b e=>h.GF (ho.2.1 b (by rw[XV];exact e))) W h1 h2,abt ho.1.2 (fun b e=>h.GF (ho.2.2 b (by rw[XV];exact e))) W h1 h2⟩,a.ring,a.whl,a.fls,a.hea,a.msl,a.hel,a.marks,a.out,a.low,a.lt,a.hg,a.fg,a.fh,a.og,a.oh,a.fo,a.blk,a.pos⟩
theorem hI.Js(h:hI base w g V G)(hb:yA w w'){a:List Int}(ho:w'.ownsRow w.heap.size 220 2 (MG p (WW a).length c) (WW a).length (WP (WW a))):
  hI base w' g {V with ps:=p,cs:=c} {G with wts:=a}:=by
 have d:=h.below hb;exact⟨d.tab,d.book,abt (Yr ho) (fun b e=>h.GF (ho.lt b (by rw[XV];exact e)).1),d.whl,d.fls,d.hea,d.msl,d.hel,d.marks,d.out,d.low,d.lt,d.hg,d.fg,d.fh,d.og,d.oh,d.fo,d.blk,d.pos⟩
theorem hI.I7(h:hI base w g V G)(hb:yA w w'){ls:List (List Tm)}(ho:adP w' w.heap.size p c ls)(hm:Y9 n ls)(ht:∀t,t∈ls.flatten↔T t):
  hI base w' g {V with pw:=p,cw:=c} {G with wnow:=n,tms:=T}:=by
 have a:=h.below hb;refine⟨a.tab,a.book,a.ring,⟨ls,hm,ht,fun W h1 h2=>?_⟩,a.fls,a.hea,a.msl,a.hel,a.marks,a.out,a.low,a.lt,a.hg,a.fg,a.fh,a.og,a.oh,a.fo,a.blk,a.pos⟩;obtain⟨d,ho⟩:=ho;have k:=ho.Gf (w':=W) fun b h3 h4=>h2 b h4 (h.GF h3)
 exact⟨d,Yr k.row,k.each.1,fun i h1 h2=>Yr (k.each.2 i h1 h2)⟩
theorem hI.IB(h:hI base w g V G)(hs:w.heap.size<=w'.heap.size)(hb:∀b,b<w.heap.size->V.pf.map (·.block)≠MI b->w'.heap[b]?=w.heap[b]?){m:List Fl}
  (ho:w'.ownsRow base 211 7 (MG p m.length c) m.length (rv WX m)) (hp:∀b,p.map (·.block)=MI b->V.pf.map (·.block)=MI b\/w.heap.size<=b) :
  hI base w' g {V with pf:=p,cf:=c} {G with fls:=m}:=by
 have a:∀ {P:MO->Prop},XG (V.off base g) w P->XG (Vs.off {V with pf:=p,cf:=c} base g) w' P:=fun hP=>hP.step hs (fun b hlt hn=>hb b hlt fun e=>hn (Nt (NF (NF (Nt e))))) fun b hlt hS=>by
  rcases hS with(e|e|e|e)|e
  ·exact Nt (Nt e)
  ·exact Nt (NF (Nt e))
  ·rcases hp b e with e|e
   ·exact Nt (NF (NF (Nt e)))
   ·omega
  ·exact Nt (NF (NF (NF e)))
  ·exact NF e
 have d:∀b,V.own g b->V.pf.map (·.block)≠MI b->p.map (·.block)≠MI b:=fun b hb1 hb2 e=>by
  rcases hp b e with e|e
  ·exact hb2 e
  ·exact h.new e hb1
 obtain⟨o,r,t,q⟩:=h.whl;refine⟨a h.tab,a h.book,a h.ring,⟨o,r,t,a q⟩,ho,W8 h.hea fun b e=>hb b (h.hea.lt b e).2 fun e2=>h.fh (by rw[e2,<-e];rfl),h.msl,h.hel,fun i m x e1 e2=>a (h.marks i m x e1 e2),
  W8 h.out fun b e=>hb b (h.out.lt b e).2 fun e2=>h.fo b e2 (by rw[<-e,XV]),h.low,M8 h.lt hs,h.hg,d g (Nt rfl) h.fg,d _ (NF (Nt rfl)) h.fh,h.og,h.oh,fun b e1 e2=>?_,
  h.blk.Gf (hb 10 (by have:=h.low;have:=h.pos;have:=h.lt;omega) fun e=>by have:=(h.Ha (NF (NF (Nt e)))).1;have:=h.pos;omega),h.pos⟩
 exact d b (NF (NF (NF e2))) (fun e=>h.fo b e e2) e1
theorem hI.Jh(h:hI base w g V G)(hs:w.heap.size<=w'.heap.size)(hb:∀b,b<w.heap.size->V.po.map (·.block)≠MI b->w'.heap[b]?=w.heap[b]?){m:List Ou}
  (ho:w'.ownsRow base 120 7 (MG p m.length c) m.length (rv Z1 m)) (hp:∀b,p.map (·.block)=MI b->V.po.map (·.block)=MI b\/w.heap.size<=b) :
  hI base w' g {V with po:=p,co:=c} {G with out:=m}:=by
 have a:∀ {P:MO->Prop},XG (V.off base g) w P->XG (Vs.off {V with po:=p,co:=c} base g) w' P:=fun hP=>hP.step hs (fun b hlt hn=>hb b hlt fun e=>hn (Nt (NF (NF (NF e))))) fun b hlt hS=>by
  rcases hS with(e|e|e|e)|e
  ·exact Nt (Nt e)
  ·exact Nt (NF (Nt e))
  ·exact Nt (NF (NF (Nt e)))
  ·rcases hp b e with e|e
   ·exact Nt (NF (NF (NF e)))
   ·omega
  ·exact NF e
 have d:∀b,V.own g b->V.po.map (·.block)≠MI b->p.map (·.block)≠MI b:=fun b hb1 hb2 e=>by
  rcases hp b e with e|e
  ·exact hb2 e
  ·exact h.new e hb1
 obtain⟨o,r,t,q⟩:=h.whl;refine⟨a h.tab,a h.book,a h.ring,⟨o,r,t,a q⟩,W8 h.fls fun b e=>hb b (h.fls.lt b e).2 fun e2=>h.fo b (by rw[<-e,XV]) e2,W8 h.hea fun b e=>hb b (h.hea.lt b e).2 fun e2=>h.oh (by rw[e2,<-e];rfl),h.msl,h.hel,fun i m x e1 e2=>a (h.marks i m x e1 e2),
  ho,h.low,M8 h.lt hs,h.hg,h.fg,h.fh,d g (Nt rfl) h.og,d _ (NF (Nt rfl)) h.oh,fun b e1=>d b (NF (NF (Nt e1))) (h.fo b e1),
  h.blk.Gf (hb 10 (by have:=h.low;have:=h.pos;have:=h.lt;omega) fun e=>by have:=(h.Ha (NF (NF (NF e)))).1;have:=h.pos;omega),h.pos⟩
theorem hI.Hd(h:hI base w g V G){bf:Nat}(hp:V.pf=MI ⟨bf,0,MH⟩){i:Nat}(hi:i<G.fls.length)(hj:j<7)(v:M7)(y:Fl)(hy:WX y=(WX G.fls[i]).set j v):
  hI base (w.setCell ⟨bf,i*7+j,MH⟩ v) g V {G with fls:=G.fls.set i y}:=by
 have d:=h.fls;rw[hp]at d;have a:=adn XL d hi hj v y hy;rw[<-hp]at a;have o:=hI.IB (p:=V.pf) (c:=V.cf) (m:=G.fls.set i y) h (w':=w.setCell ⟨bf,i*7+j,MH⟩ v) (by simp) (fun b _ hne=>MU _ _ _ _ (fun e=>hne (by rw[hp,e];rfl))) (by rw[NA];exact a) fun b e=>Nt e
 exact o
theorem akN(h:hI base w g V G){i:Nat}(hi:i<12):∃m x,V.ms[i]?=MI m/\G.hea[i]?=MI x/\(V.ms.zip G.hea)[i]?=MI (m,x)/\G.hea.getD i XM=x:=by
 have d:i<V.ms.length:=by rw[h.msl];exact hi
 have a:i<G.hea.length:=by rw[h.hel];exact hi
 refine⟨V.ms[i],G.hea[i],MR d,MR a,?_,by simp[a]⟩;rw[MR (by simp;omega)];simp
theorem hI.Ir(h:hI base w g V G){i:Nat}(hi:i<12){x:He}(hm:XG (V.off base g) w fun W=>Yo W (MG p x.marks.length c) x.marks):
  hI base ((((w.setCell ⟨V.bh,i*4,MH⟩ (MG p x.marks.length c)).setCell ⟨V.bh,i*4+1,MH⟩ (M3 x.out)).setCell ⟨V.bh,i*4+2,MH⟩ (yB x.till)).setCell ⟨V.bh,i*4+3,MH⟩ (yB x.times)) g {V with ms:=V.ms.set i (p,c)} {G with hea:=G.hea.set i x}:=by
 obtain⟨M,u,K,q,F,J⟩:=akN h hi;obtain⟨r,B⟩:=ZAb.1 F;have H:=adn aci h.hea r (j:=0) (by omega) (MG p x.marks.length c) ((p,c),{u with marks:=x.marks}) (by rw[B];rfl);have I:=adn aci H (i:=i) (by simpa using r) (j:=1) (by omega) (M3 x.out) ((p,c),{u with marks:=x.marks,out:=x.out}) (by rw[NW];rfl);have C:=adn aci I (i:=i) (by simpa using r) (j:=2) (by omega) (yB x.till) ((p,c),{u with marks:=x.marks,out:=x.out,till:=x.till}) (by rw[NW];rfl);have o:=adn aci C (i:=i) (by simpa using r) (j:=3) (by omega) (yB x.times) ((p,c),x) (by rw[NW];rfl);simp only[List.set_set,Oe]at o;have A:(V.ms.zip G.hea).set i ((p,c),x)=(V.ms.set i (p,c)).zip (G.hea.set i x):=by
  apply PX
  ·simp
  ·intro k v z
   simp only[Pc,Qf]
   split <;> rfl
 rw[A]at o;have d:∀b,b<w.heap.size->b≠V.bh->((((w.setCell ⟨V.bh,i*4,MH⟩ (MG p x.marks.length c)).setCell ⟨V.bh,i*4+1,MH⟩ (M3 x.out)).setCell ⟨V.bh,i*4+2,MH⟩ (yB x.till)).setCell ⟨V.bh,i*4+3,MH⟩ (yB x.times)).heap[b]?=w.heap[b]?:=fun b _ hne=>by
  rw[MU _ _ _ _ hne,MU _ _ _ _ hne,MU _ _ _ _ hne,MU _ _ _ _ hne]
 have t:w.heap.size<=((((w.setCell ⟨V.bh,i*4,MH⟩ (MG p x.marks.length c)).setCell ⟨V.bh,i*4+1,MH⟩ (M3 x.out)).setCell ⟨V.bh,i*4+2,MH⟩ (yB x.till)).setCell ⟨V.bh,i*4+3,MH⟩ (yB x.times)).heap.size:=by simp
 generalize ((((w.setCell ⟨V.bh,i*4,MH⟩ (MG p x.marks.length c)).setCell ⟨V.bh,i*4+1,MH⟩ (M3 x.out)).setCell ⟨V.bh,i*4+2,MH⟩ (yB x.till)).setCell ⟨V.bh,i*4+3,MH⟩ (yB x.times))=w' at o d t⊢;have a:∀ {P:MO->Prop},XG (V.off base g) w P->XG (V.off base g) w' P:=fun hP=>hP.step t (fun b hlt hn=>d b hlt fun e=>hn (Nt (NF (Nt e)))) fun _ _ h=>h
 obtain⟨E,v,z,D⟩:=h.whl;refine⟨a h.tab,a h.book,a h.ring,⟨E,v,z,a D⟩,W8 h.fls fun b e=>d b (h.fls.lt b e).2 fun q=>h.fh (by rw[<-q,<-e,XV]),o,by rw[NA];exact h.msl,by rw[NA];exact h.hel,fun k m y f1 f2=>?_,
  W8 h.out fun b e=>d b (h.out.lt b e).2 fun q=>h.oh (by rw[<-q,<-e,XV]),h.low,M8 h.lt t,h.hg,h.fg,h.fh,h.og,h.oh,h.fo,
  h.blk.Gf (d 10 (by have:=h.low;have:=h.pos;have:=h.lt;omega) fun e=>by have:=(h.Ha (NF (Nt rfl))).1;have:=h.pos;omega),h.pos⟩
 by_cases hk:k=i
 ·subst hk
  rw[N7 (by rw[h.msl];exact hi)]at f1;rw[N7 (by rw[h.hel];exact hi)]at f2;cases f1;cases f2;exact a hm
 ·rw[N3 (Pi hk)]at f1 f2
  exact a (h.marks k m y f1 f2)
theorem YO{cs cs':Array M7}{T:NU}(h:w.heap[g]?=MI (MP cs T (0,0))){v:M7}(he:cs.setIfInBounds k v=cs'):(w.setCell ⟨g,k,MH⟩ v).heap[g]?=MI (MP cs' T (0,0)):=by
 rw[<-he];exact NI w g k cs T v h
theorem OR.Ja(h:OR base w g V G)(n:Int):OR base (w.setCell ⟨g,16,MH⟩ (yB n)) g V {G with now:=n}:=
 ⟨YO h.box rfl,let r:=h.rest.F4 16 (yB n);⟨r.tab,r.book,r.ring,r.whl,r.fls,r.hea,r.msl,r.hel,r.marks,r.out,r.low,r.lt,r.hg,r.fg,r.fh,r.og,r.oh,r.fo,r.blk,r.pos⟩⟩
theorem OR.IC(h:OR base w g V G)(n:Int):OR base (w.setCell ⟨g,23,MH⟩ (yB n)) g V {G with tok:=n}:=
 ⟨YO h.box rfl,let r:=h.rest.F4 23 (yB n);⟨r.tab,r.book,r.ring,r.whl,r.fls,r.hea,r.msl,r.hel,r.marks,r.out,r.low,r.lt,r.hg,r.fg,r.fh,r.og,r.oh,r.fo,r.blk,r.pos⟩⟩
theorem OR.Ix(h:OR base w g V G)(hb:yA w w'){m:List awY}(ho:w'.ownsRow w.heap.size 208 4 (MG p m.length c) m.length (XF m)):
  OR base (w'.setCell ⟨g,17,MH⟩ (MG p m.length c)) g {V with pt:=p,ct:=c} {G with tab:=m}:=
 ⟨YO (WO h.box hb) rfl,(h.rest.Jq hb ho).F4 _ _⟩
theorem OR.Iq(h:OR base w g V G)(hb:yA w w'){q:Option Oc}{R:List aw0}(ho:Yw w.heap.size w' (MG p L.length c) (MG q R.length k) L R):
  OR base ((w'.setCell ⟨g,19,MH⟩ (MG p L.length c)).setCell ⟨g,20,MH⟩ (MG q R.length k)) g {V with pl:=p,cl:=c,pr:=q,cr:=k} {G with liv:=L,req:=R}:=
 ⟨YO (YO (WO h.box hb) rfl) rfl,((h.rest.IR hb ho).F4 _ _).F4 _ _⟩
theorem OR.IJ(h:OR base w g V G)(hb:yA w w'){a:List Int}(ho:w'.ownsRow w.heap.size 220 2 (MG p (WW a).length c) (WW a).length (WP (WW a))):
  OR base (w'.setCell ⟨g,21,MH⟩ (MG p (WW a).length c)) g {V with ps:=p,cs:=c} {G with wts:=a}:=
 ⟨YO (WO h.box hb) rfl,(h.rest.Js hb ho).F4 _ _⟩
theorem OR.Ih(h:OR base w g V G)(hb:yA w w'){ls:List (List Tm)}(ho:adP w' w.heap.size p c ls)(hm:Y9 n ls)(ht:∀t,t∈ls.flatten↔T t):
  OR base ((w'.setCell ⟨g,24,MH⟩ (yB n)).setCell ⟨g,25,MH⟩ (MG p 25 c)) g {V with pw:=p,cw:=c} {G with wnow:=n,tms:=T}:=
 ⟨YO (YO (WO h.box hb) rfl) rfl,((h.rest.I7 hb ho hm ht).F4 _ _).F4 _ _⟩
theorem OR.IU(h:OR base w g V G)(hs:w.heap.size<=w'.heap.size)(hb:∀b,b<w.heap.size->V.pf.map (·.block)≠MI b->w'.heap[b]?=w.heap[b]?){m:List Fl}
  (ho:w'.ownsRow base 211 7 (MG p m.length c) m.length (rv WX m)) (hp:∀b,p.map (·.block)=MI b->V.pf.map (·.block)=MI b\/w.heap.size<=b) :
  OR base (w'.setCell ⟨g,18,MH⟩ (MG p m.length c)) g {V with pf:=p,cf:=c} {G with fls:=m}:=
 ⟨YO ((hb g h.lt h.rest.fg).trans h.box) rfl,(h.rest.IB hs hb ho hp).F4 _ _⟩
theorem OR.Jw(h:OR base w g V G)(hs:w.heap.size<=w'.heap.size)(hb:∀b,b<w.heap.size->V.po.map (·.block)≠MI b->w'.heap[b]?=w.heap[b]?){m:List Ou}
  (ho:w'.ownsRow base 120 7 (MG p m.length c) m.length (rv Z1 m)) (hp:∀b,p.map (·.block)=MI b->V.po.map (·.block)=MI b\/w.heap.size<=b) :
  OR base (w'.setCell ⟨g,26,MH⟩ (MG p m.length c)) g {V with po:=p,co:=c} {G with out:=m}:=
 ⟨YO ((hb g h.lt h.rest.og).trans h.box) rfl,(h.rest.Jh hs hb ho hp).F4 _ _⟩
theorem OR.Hd(h:OR base w g V G){bf:Nat}(hp:V.pf=MI ⟨bf,0,MH⟩){i:Nat}(hi:i<G.fls.length)(hj:j<7)(v:M7)(y:Fl)(hy:WX y=(WX G.fls[i]).set j v):
  OR base (w.setCell ⟨bf,i*7+j,MH⟩ v) g V {G with fls:=G.fls.set i y}:=by
 refine⟨?_,h.rest.Hd hp hi hj v y hy⟩;rw[MU _ _ _ _ (fun e=>h.rest.fg (by rw[hp];exact congrArg MI e.symm)),h.box];simp only[ahn,NA]
theorem OR.Ir(h:OR base w g V G){i:Nat}(hi:i<12){x:He}(hm:XG (V.off base g) w fun W=>Yo W (MG p x.marks.length c) x.marks):
  OR base ((((w.setCell ⟨V.bh,i*4,MH⟩ (MG p x.marks.length c)).setCell ⟨V.bh,i*4+1,MH⟩ (M3 x.out)).setCell ⟨V.bh,i*4+2,MH⟩ (yB x.till)).setCell ⟨V.bh,i*4+3,MH⟩ (yB x.times)) g {V with ms:=V.ms.set i (p,c)} {G with hea:=G.hea.set i x}:=by
 refine⟨?_,h.rest.Ir hi hm⟩;have a:g≠V.bh:=fun e=>h.rest.hg e.symm
 rw[MU _ _ _ _ a,MU _ _ _ _ a,MU _ _ _ _ a,MU _ _ _ _ a];exact h.box
end
abbrev ZS(f:Fl):Value:=Ny #[yB f.slot,yB f.gen,yB f.key,yB f.be,M3 f.srv,yB f.ret,yB f.due]
abbrev ZR(w:MO)(v:M7)(l:List Fl):Prop:=Xw WX w v l
theorem ZR.F6{w:MO}{v:M7}(h:ZR w v l):
  ∃a cap,v=MG a l.length cap/\l.length<=cap/\cap<=NE/\∀i (hi:i<l.length),∃b off,a=MI ⟨b,off,MH⟩/\b<w.heap.size/\w.cell? ⟨b,off+i*7,MH⟩=MI (yB l[i].slot)/\w.cell? ⟨b,off+i*7+1,MH⟩=MI (yB l[i].gen)/\w.cell? ⟨b,off+i*7+2,MH⟩=MI (yB l[i].key)/\w.cell? ⟨b,off+i*7+3,MH⟩=MI (yB l[i].be)/\w.cell? ⟨b,off+i*7+4,MH⟩=MI (M3 l[i].srv)/\w.cell? ⟨b,off+i*7+5,MH⟩=MI (yB l[i].ret)/\w.cell? ⟨b,off+i*7+6,MH⟩=MI (yB l[i].due):=by
 obtain⟨a,cap,m,t,e,o⟩:=Xw.F6 XL h;refine⟨a,cap,m,t,e,fun i hi=>?_⟩;obtain⟨b,off,q,r,d⟩:=o i hi;exact⟨b,off,q,r,(d 0 (by omega)).trans rfl,(d 1 (by omega)).trans rfl,(d 2 (by omega)).trans rfl,(d 3 (by omega)).trans rfl,(d 4 (by omega)).trans rfl,(d 5 (by omega)).trans rfl,(d 6 (by omega)).trans rfl⟩
theorem ahq{α:Type}{p:α->Bool}{l:List α}:Nn (0<=X6 (l.findIdx p) l.length)=l.any p:=by
 unfold X6
 by_cases h:l.findIdx p<l.length
 ·rw[Nh h]
  have:l.any p=true:=List.any_eq_true.2 ⟨l[l.findIdx p],Nk h,List.findIdx_getElem (w:=h)⟩;rw[this];simp
 ·rw[Nf h]
  have:l.any p=false:=by
   rw[List.any_eq_false];intro x d a;exact h (List.findIdx_lt_length_of_exists ⟨x,d,a⟩)
  rw[this];rfl
theorem aoB(f:Fl)(n:Int)(g:Nat)(w:MO)(hc:w.cell? ⟨g,0,MH⟩=MI (yB n)) :
  Ni MK 169 #[ZS f,Na (MI ⟨g,0,MH⟩)] w fun r w'=>r=MN (M3 (f.slot == n))/\yA w w':=by
 have a:g<w.heap.size:=MX w ⟨g,0,MH⟩ hc;go_enter UM,UA;go_wp2;go_ret;exact⟨rfl,WQ w⟩
theorem apl(v:M7)(l:List Fl)(n:Int)(g:Nat)(w:MO)(hv:ZR w v l)(hc:w.cell? ⟨g,0,MH⟩=MI (yB n)) :
  Ni MK 162 #[v,PB (PD 169) #[] #[Na (MI ⟨g,0,MH⟩)]] w fun r w'=>r=MN (yB (X6 (l.findIdx (fun f=>f.slot == n)) l.length))/\yA w w':=by
 obtain⟨q,I⟩:∃q:Fl->Bool,q=(fun f=>f.slot == n):=⟨_,rfl⟩;obtain⟨a,ca,rfl,a8,R,J⟩:=ZR.F6 hv;unfold NE at R;have Q:=MX w ⟨g,0,MH⟩ hc;have O:M6 (∀(x:Fl) (W:MO),yA w W->Ni MK 169 #[ZS x,Na (MI ⟨g,0,MH⟩)] W fun r w'=>r=MN (M3 (q x))/\yA W w'):=by
  rw[I];exact fun x W hb=>aoB x n g W ((hb.cell (p:=⟨g,0,MH⟩) Q).trans hc)
 rw[<-I];obtain⟨z,D⟩:=yE (X6 (l.findIdx q) l.length);rw[<-D];have H:M6 _:=D;clear hv D I hc;go_enter VW,VM;go_wp2
 go_loopw [8] (fun i wr=>∃k:Nat,i=yB k/\k<=l.length/\(∀t∈l.take k,q t=Nb)/\yA w wr) (fun i _=>l.length-(intOf i).toNat)
 case atStart=>exact⟨0,rfl,Nx _,by simp,MY _ _⟩
 case round =>
  obtain⟨k,rfl,hk,A,d⟩:=hrel
  by_cases hlt:k<l.length
  ·obtain⟨u,o,rfl,m,c1,c2,c3,c4,c5,c6,c7⟩:=J k hlt
   have e1:=(d.cell (p:=⟨u,o+k*7,MH⟩) m).trans c1;have Z:=(d.cell (p:=⟨u,o+k*7+1,MH⟩) m).trans c2;have e3:=(d.cell (p:=⟨u,o+k*7+2,MH⟩) m).trans c3;have U:=(d.cell (p:=⟨u,o+k*7+3,MH⟩) m).trans c4;have e5:=(d.cell (p:=⟨u,o+k*7+4,MH⟩) m).trans c5;have e6:=(d.cell (p:=⟨u,o+k*7+5,MH⟩) m).trans c6;have Y:=(d.cell (p:=⟨u,o+k*7+6,MH⟩) m).trans c7;have y:M6 (_/\_):=⟨A,d⟩;have a7:(k:Int)<(l.length:Int):=by omega
   have F:l.take (k+1)=l.take k++[l[k]]:=M9 hlt;have E:q l[k]=Nw->l.findIdx q=k:=fun h=>abZ hlt A h
   have C:∃x,x=l[k]:=⟨_,rfl⟩;obtain⟨x,C⟩:=C;rw[<-C]at e1 Z e3 U e5 e6 Y F E;have N:M6 (_/\_):=⟨F,E⟩;clear A d c1 c2 c3 c4 c5 c6 c7 m J F E C;cases hd:q x
   ·go_wp2_with fail
    refine(O.out x _ y.out.2).mono ?_;rw[hd];rintro r w2 ⟨rfl,B⟩;have K:M6 _:=B;clear B;go_wp2
    go_roundw
    case rel =>
     refine⟨k+1,by simp,hlt,fun t e=>?_,y.out.2.trans (K.out.mono y.out.2.size)⟩;rw[N.out.1]at e;rcases QF.1 e with e|e
     ·exact y.out.1 t e
     ·simp at e
      rw[e];exact hd
    case measure=>simp[intOf];omega
   ·go_wp2_with fail
    refine(O.out x _ y.out.2).mono ?_;rw[hd];rintro r w2 ⟨rfl,B⟩;have M:M6 (z=(k:Int)):=by show z=_;rw[H.out,N.out.2 hd];exact Nh hlt
    have K:M6 _:=B;clear B;go_wp2;go_ret;exact⟨by rw[M.out];rfl,y.out.2.trans (K.out.mono y.out.2.size)⟩
  ·have M:M6 (z = -1):=by
    show z=_;rw[H.out,acp fun t e=>A t (by rw[N1 (by omega)];exact e)];exact Nf (PC _)
   have HB:M6 _:=d;clear A d J;go_wp2;go_ret;exact⟨by rw[M.out];rfl,HB.out⟩
theorem aoF(f:Fl)(n:Int)(g:Nat)(w:MO)(hc:w.cell? ⟨g,0,MH⟩=MI (yB n)) :
  Ni MK 163 #[ZS f,Na (MI ⟨g,0,MH⟩)] w fun r w'=>r=MN (M3 (Nn (n<f.slot)))/\yA w w':=by
 have a:g<w.heap.size:=MX w ⟨g,0,MH⟩ hc;go_enter S2,SB;go_wp2;go_ret;exact⟨rfl,WQ w⟩
theorem apo(v:M7)(l:List Fl)(n:Int)(g:Nat)(w:MO)(hv:ZR w v l)(hc:w.cell? ⟨g,0,MH⟩=MI (yB n)) :
  Ni MK 162 #[v,PB (PD 163) #[] #[Na (MI ⟨g,0,MH⟩)]] w fun r w'=>r=MN (yB (X6 (l.findIdx (fun f=>Nn (n<f.slot))) l.length))/\yA w w':=by
 obtain⟨q,I⟩:∃q:Fl->Bool,q=(fun f=>Nn (n<f.slot)):=⟨_,rfl⟩;obtain⟨a,ca,rfl,a8,R,J⟩:=ZR.F6 hv;unfold NE at R;have Q:=MX w ⟨g,0,MH⟩ hc;have O:M6 (∀(x:Fl) (W:MO),yA w W->Ni MK 163 #[ZS x,Na (MI ⟨g,0,MH⟩)] W fun r w'=>r=MN (M3 (q x))/\yA W w'):=by
  rw[I];exact fun x W hb=>aoF x n g W ((hb.cell (p:=⟨g,0,MH⟩) Q).trans hc)
 rw[<-I];obtain⟨z,D⟩:=yE (X6 (l.findIdx q) l.length);rw[<-D];have H:M6 _:=D;clear hv D I hc;go_enter VW,VM;go_wp2
 go_loopw [8] (fun i wr=>∃k:Nat,i=yB k/\k<=l.length/\(∀t∈l.take k,q t=Nb)/\yA w wr) (fun i _=>l.length-(intOf i).toNat)
 case atStart=>exact⟨0,rfl,Nx _,by simp,MY _ _⟩
 case round =>
  obtain⟨k,rfl,hk,A,d⟩:=hrel
  by_cases hlt:k<l.length
  ·obtain⟨u,o,rfl,m,c1,c2,c3,c4,c5,c6,c7⟩:=J k hlt
   have e1:=(d.cell (p:=⟨u,o+k*7,MH⟩) m).trans c1;have Z:=(d.cell (p:=⟨u,o+k*7+1,MH⟩) m).trans c2;have e3:=(d.cell (p:=⟨u,o+k*7+2,MH⟩) m).trans c3;have U:=(d.cell (p:=⟨u,o+k*7+3,MH⟩) m).trans c4;have e5:=(d.cell (p:=⟨u,o+k*7+4,MH⟩) m).trans c5;have e6:=(d.cell (p:=⟨u,o+k*7+5,MH⟩) m).trans c6;have Y:=(d.cell (p:=⟨u,o+k*7+6,MH⟩) m).trans c7;have y:M6 (_/\_):=⟨A,d⟩;have a7:(k:Int)<(l.length:Int):=by omega
   have F:l.take (k+1)=l.take k++[l[k]]:=M9 hlt;have E:q l[k]=Nw->l.findIdx q=k:=fun h=>abZ hlt A h
   have C:∃x,x=l[k]:=⟨_,rfl⟩;obtain⟨x,C⟩:=C;rw[<-C]at e1 Z e3 U e5 e6 Y F E;have N:M6 (_/\_):=⟨F,E⟩;clear A d c1 c2 c3 c4 c5 c6 c7 m J F E C;cases hd:q x
   ·go_wp2_with fail
    refine(O.out x _ y.out.2).mono ?_;rw[hd];rintro r w2 ⟨rfl,B⟩;have K:M6 _:=B;clear B;go_wp2
    go_roundw
    case rel =>
     refine⟨k+1,by simp,hlt,fun t e=>?_,y.out.2.trans (K.out.mono y.out.2.size)⟩;rw[N.out.1]at e;rcases QF.1 e with e|e
     ·exact y.out.1 t e
     ·simp at e
      rw[e];exact hd
    case measure=>simp[intOf];omega
   ·go_wp2_with fail
    refine(O.out x _ y.out.2).mono ?_;rw[hd];rintro r w2 ⟨rfl,B⟩;have M:M6 (z=(k:Int)):=by show z=_;rw[H.out,N.out.2 hd];exact Nh hlt
    have K:M6 _:=B;clear B;go_wp2;go_ret;exact⟨by rw[M.out];rfl,y.out.2.trans (K.out.mono y.out.2.size)⟩
  ·have M:M6 (z = -1):=by
    show z=_;rw[H.out,acp fun t e=>A t (by rw[N1 (by omega)];exact e)];exact Nf (PC _)
   have HB:M6 _:=d;clear A d J;go_wp2;go_ret;exact⟨by rw[M.out];rfl,HB.out⟩
theorem aoA(f:Fl)(n:Int)(g:Nat)(w:MO)(hc:w.cell? ⟨g,0,MH⟩=MI (yB n)) :
  Ni MK 206 #[ZS f,Na (MI ⟨g,0,MH⟩)] w fun r w'=>r=MN (M3 (f.be == n))/\yA w w':=by
 have a:g<w.heap.size:=MX w ⟨g,0,MH⟩ hc;go_enter RY,RL;go_wp2;go_ret;exact⟨rfl,WQ w⟩
theorem apk(v:M7)(l:List Fl)(n:Int)(g:Nat)(w:MO)(hv:ZR w v l)(hc:w.cell? ⟨g,0,MH⟩=MI (yB n)) :
  Ni MK 162 #[v,PB (PD 206) #[] #[Na (MI ⟨g,0,MH⟩)]] w fun r w'=>r=MN (yB (X6 (l.findIdx (fun f=>f.be == n)) l.length))/\yA w w':=by
 obtain⟨q,I⟩:∃q:Fl->Bool,q=(fun f=>f.be == n):=⟨_,rfl⟩;obtain⟨a,ca,rfl,a8,R,J⟩:=ZR.F6 hv;unfold NE at R;have Q:=MX w ⟨g,0,MH⟩ hc;have O:M6 (∀(x:Fl) (W:MO),yA w W->Ni MK 206 #[ZS x,Na (MI ⟨g,0,MH⟩)] W fun r w'=>r=MN (M3 (q x))/\yA W w'):=by
  rw[I];exact fun x W hb=>aoA x n g W ((hb.cell (p:=⟨g,0,MH⟩) Q).trans hc)
 rw[<-I];obtain⟨z,D⟩:=yE (X6 (l.findIdx q) l.length);rw[<-D];have H:M6 _:=D;clear hv D I hc;go_enter VW,VM;go_wp2
 go_loopw [8] (fun i wr=>∃k:Nat,i=yB k/\k<=l.length/\(∀t∈l.take k,q t=Nb)/\yA w wr) (fun i _=>l.length-(intOf i).toNat)
 case atStart=>exact⟨0,rfl,Nx _,by simp,MY _ _⟩
 case round =>
  obtain⟨k,rfl,hk,A,d⟩:=hrel
  by_cases hlt:k<l.length
  ·obtain⟨u,o,rfl,m,c1,c2,c3,c4,c5,c6,c7⟩:=J k hlt
   have e1:=(d.cell (p:=⟨u,o+k*7,MH⟩) m).trans c1;have Z:=(d.cell (p:=⟨u,o+k*7+1,MH⟩) m).trans c2;have e3:=(d.cell (p:=⟨u,o+k*7+2,MH⟩) m).trans c3;have U:=(d.cell (p:=⟨u,o+k*7+3,MH⟩) m).trans c4;have e5:=(d.cell (p:=⟨u,o+k*7+4,MH⟩) m).trans c5;have e6:=(d.cell (p:=⟨u,o+k*7+5,MH⟩) m).trans c6;have Y:=(d.cell (p:=⟨u,o+k*7+6,MH⟩) m).trans c7;have y:M6 (_/\_):=⟨A,d⟩;have a7:(k:Int)<(l.length:Int):=by omega
   have F:l.take (k+1)=l.take k++[l[k]]:=M9 hlt;have E:q l[k]=Nw->l.findIdx q=k:=fun h=>abZ hlt A h
   have C:∃x,x=l[k]:=⟨_,rfl⟩;obtain⟨x,C⟩:=C;rw[<-C]at e1 Z e3 U e5 e6 Y F E;have N:M6 (_/\_):=⟨F,E⟩;clear A d c1 c2 c3 c4 c5 c6 c7 m J F E C;cases hd:q x
   ·go_wp2_with fail
    refine(O.out x _ y.out.2).mono ?_;rw[hd];rintro r w2 ⟨rfl,B⟩;have K:M6 _:=B;clear B;go_wp2
    go_roundw
    case rel =>
     refine⟨k+1,by simp,hlt,fun t e=>?_,y.out.2.trans (K.out.mono y.out.2.size)⟩;rw[N.out.1]at e;rcases QF.1 e with e|e
     ·exact y.out.1 t e
     ·simp at e
      rw[e];exact hd
    case measure=>simp[intOf];omega
   ·go_wp2_with fail
    refine(O.out x _ y.out.2).mono ?_;rw[hd];rintro r w2 ⟨rfl,B⟩;have M:M6 (z=(k:Int)):=by show z=_;rw[H.out,N.out.2 hd];exact Nh hlt
    have K:M6 _:=B;clear B;go_wp2;go_ret;exact⟨by rw[M.out];rfl,y.out.2.trans (K.out.mono y.out.2.size)⟩
  ·have M:M6 (z = -1):=by
    show z=_;rw[H.out,acp fun t e=>A t (by rw[N1 (by omega)];exact e)];exact Nf (PC _)
   have HB:M6 _:=d;clear A d J;go_wp2;go_ret;exact⟨by rw[M.out];rfl,HB.out⟩
theorem aj8(v:M7)(l:List Fl)(n:Int)(g:Nat)(w:MO)(hv:ZR w v l)(hc:w.cell? ⟨g,0,MH⟩=MI (yB n)) :
  Ni MK 156 #[v,PB (PD 206) #[] #[Na (MI ⟨g,0,MH⟩)]] w fun r w'=>r=MN (M3 (l.any (fun f=>f.be == n)))/\yA w w':=by
 rw[<-ahq];have e:M6 _:=apk v l n g w hv hc;obtain⟨i,a⟩:=yE (X6 (l.findIdx (fun f=>f.be == n)) l.length);rw[<-a]at e⊢;clear a hv;go_enter SN,Ss
 go_wp2_with fail
 refine Nd e.out ?_;rintro r w1 ⟨rfl,d⟩;have m:M6 _:=d;clear d;go_wp2;go_ret;exact⟨rfl,m.out⟩
theorem aoE(x1 x2 x3 x4 x5 x6:Int)(n:Int)(g:Nat)(w:MO)(hc:w.cell? ⟨g,0,MH⟩=MI (yB n)) :
  Ni MK 181 #[ZG x1 x2 x3 x4 x5 x6,Na (MI ⟨g,0,MH⟩)] w fun r w'=>r=MN (M3 (x1 == n))/\yA w w':=by
 have a:g<w.heap.size:=MX w ⟨g,0,MH⟩ hc;go_enter azS,azG;go_wp2;go_ret;exact⟨rfl,WQ w⟩
theorem akz(v:M7)(l:List awV)(n:Int)(g:Nat)(w:MO)(hv:adt w v l)(hc:w.cell? ⟨g,0,MH⟩=MI (yB n)) :
  Ni MK 180 #[v,PB (PD 181) #[] #[Na (MI ⟨g,0,MH⟩)]] w fun r w'=>r=MN (yB (X6 (l.findIdx (fun x=>x.1 == n)) l.length))/\yA w w':=by
 obtain⟨q,Q⟩:∃q:awV->Bool,q=(fun x=>x.1 == n):=⟨_,rfl⟩;obtain⟨a,ca,rfl,b0,a8,R⟩:=adt.F6 hv;unfold NE at a8;have a7:=MX w ⟨g,0,MH⟩ hc;have HQ:M6 (∀(m A y o u z:Int) (W:MO),yA w W->Ni MK 181 #[ZG m A y o u z,Na (MI ⟨g,0,MH⟩)] W fun r w'=>r=MN (M3 (q (m,A,y,o,u,z)))/\yA W w'):=by
  rw[Q];exact fun m A y o u z W hb=>aoE m A y o u z n g W ((hb.cell (p:=⟨g,0,MH⟩) a7).trans hc)
 rw[<-Q];obtain⟨D,M⟩:=yE (X6 (l.findIdx q) l.length);rw[<-M];have H:M6 _:=M;clear hv M Q hc;go_enter Tryz.func180,Tryz.ntmps180;go_wp2
 go_loopw [8] (fun i wr=>∃k:Nat,i=yB k/\k<=l.length/\(∀t∈l.take k,q t=Nb)/\yA w wr) (fun i _=>l.length-(intOf i).toNat)
 case atStart=>exact⟨0,rfl,Nx _,by simp,MY _ _⟩
 case round =>
  obtain⟨k,rfl,hk,I,d⟩:=hrel
  by_cases hlt:k<l.length
  ·obtain⟨F,E,rfl,B,c1,c2,c3,c4,c5,c6⟩:=R k hlt
   have e1:=(d.cell (p:=⟨F,E+k*6,MH⟩) B).trans c1;have e2:=(d.cell (p:=⟨F,E+k*6+1,MH⟩) B).trans c2;have e3:=(d.cell (p:=⟨F,E+k*6+2,MH⟩) B).trans c3;have e4:=(d.cell (p:=⟨F,E+k*6+3,MH⟩) B).trans c4;have e5:=(d.cell (p:=⟨F,E+k*6+4,MH⟩) B).trans c5;have e6:=(d.cell (p:=⟨F,E+k*6+5,MH⟩) B).trans c6;have C:M6 (_/\_):=⟨I,d⟩;have a9:(k:Int)<(l.length:Int):=by omega
   have O:l.take (k+1)=l.take k++[l[k]]:=M9 hlt;have N:q l[k]=Nw->l.findIdx q=k:=fun h=>abZ hlt I h
   have K:∃x,x=l[k]:=⟨_,rfl⟩;obtain⟨⟨m,A,y,o,u,z⟩,K⟩:=K;rw[<-K]at e1 e2 e3 e4 e5 e6 O N;have Z:M6 (_/\_):=⟨O,N⟩;clear I d c1 c2 c3 c4 c5 c6 B R O N K;cases hd:q (m,A,y,o,u,z)
   ·go_wp2_with fail
    refine(HQ.out m A y o u z _ C.out.2).mono ?_;rw[hd];rintro r w2 ⟨rfl,J⟩;have U:M6 _:=J;clear J;go_wp2
    go_roundw
    case rel =>
     refine⟨k+1,by simp,hlt,fun t e=>?_,C.out.2.trans (U.out.mono C.out.2.size)⟩;rw[Z.out.1]at e;rcases QF.1 e with e|e
     ·exact C.out.1 t e
     ·simp at e
      rw[e];exact hd
    case measure=>simp[intOf];omega
   ·go_wp2_with fail
    refine(HQ.out m A y o u z _ C.out.2).mono ?_;rw[hd];rintro r w2 ⟨rfl,J⟩;have Y:M6 (D=(k:Int)):=by show D=_;rw[H.out,Z.out.2 hd];exact Nh hlt
    have U:M6 _:=J;clear J;go_wp2;go_ret;exact⟨by rw[Y.out];rfl,C.out.2.trans (U.out.mono C.out.2.size)⟩
  ·have Y:M6 (D = -1):=by
    show D=_;rw[H.out,acp fun t e=>I t (by rw[N1 (by omega)];exact e)];exact Nf (PC _)
   have HB:M6 _:=d;clear I d R;go_wp2;go_ret;exact⟨by rw[Y.out];rfl,HB.out⟩
theorem aoC(x1:Int)(x2:Bool)(x3 x4:Int)(w:MO) :
  Ni MK 107 #[Ny #[yB x1,M3 x2,yB x3,yB x4]] w fun r w'=>r=MN (M3 (Y1 (x1,x2,x3,x4)))/\yA w w':=by
 cases x2
 ·go_enter Tryz.func107,Tryz.ntmps107
  go_wp2;go_ret;exact⟨rfl,WQ w⟩
 ·go_enter Tryz.func107,Tryz.ntmps107
  go_wp2;go_ret;exact⟨rfl,WQ w⟩
theorem apm(v:M7)(l:List awY)(w:MO)(hv:Yy w v l) :
  Ni MK 157 #[v,PB (PD 107) #[] #[]] w fun r w'=>r=MN (yB (X6 (l.findIdx (Y1)) l.length))/\yA w w':=by
 obtain⟨q,N⟩:∃q:awY->Bool,q=(Y1):=⟨_,rfl⟩;obtain⟨a,ca,rfl,a8,Z,O⟩:=Yy.F6 hv;unfold NE at Z;have Y:M6 (∀(m:Int) (y:Bool) (u o:Int) (W:MO),yA w W->Ni MK 107 #[Ny #[yB m,M3 y,yB u,yB o]] W fun r w'=>r=MN (M3 (q (m,y,u,o)))/\yA W w'):=by
  rw[N];exact fun m y u o W hb=>aoC m y u o W
 rw[<-N];obtain⟨A,J⟩:=yE (X6 (l.findIdx q) l.length);rw[<-J];have H:M6 _:=J;clear hv J N;go_enter Tryz.func157,Tryz.ntmps157;go_wp2
 go_loopw [8] (fun i wr=>∃k:Nat,i=yB k/\k<=l.length/\(∀t∈l.take k,q t=Nb)/\yA w wr) (fun i _=>l.length-(intOf i).toNat)
 case atStart=>exact⟨0,rfl,Nx _,by simp,MY _ _⟩
 case round =>
  obtain⟨k,rfl,hk,B,e⟩:=hrel
  by_cases hlt:k<l.length
  ·obtain⟨I,F,rfl,D,c1,c2,c3,c4⟩:=O k hlt
   have e1:=(e.cell (p:=⟨I,F+k*4,MH⟩) D).trans c1;have e2:=(e.cell (p:=⟨I,F+k*4+1,MH⟩) D).trans c2;have e3:=(e.cell (p:=⟨I,F+k*4+2,MH⟩) D).trans c3;have e4:=(e.cell (p:=⟨I,F+k*4+3,MH⟩) D).trans c4;have z:M6 (_/\_):=⟨B,e⟩;have a7:(k:Int)<(l.length:Int):=by omega
   have M:l.take (k+1)=l.take k++[l[k]]:=M9 hlt;have K:q l[k]=Nw->l.findIdx q=k:=fun h=>abZ hlt B h
   have E:∃x,x=l[k]:=⟨_,rfl⟩;obtain⟨⟨m,y,u,o⟩,E⟩:=E;rw[<-E]at e1 e2 e3 e4 M K;have U:M6 (_/\_):=⟨M,K⟩;clear B e c1 c2 c3 c4 D O M K E;cases hd:q (m,y,u,o)
   ·go_wp2_with fail
    refine(Y.out m y u o _ z.out.2).mono ?_;rw[hd];rintro r w2 ⟨rfl,C⟩;have Q:M6 _:=C;clear C;go_wp2
    go_roundw
    case rel =>
     refine⟨k+1,by simp,hlt,fun t d=>?_,z.out.2.trans (Q.out.mono z.out.2.size)⟩;rw[U.out.1]at d;rcases QF.1 d with d|d
     ·exact z.out.1 t d
     ·simp at d
      rw[d];exact hd
    case measure=>simp[intOf];omega
   ·go_wp2_with fail
    refine(Y.out m y u o _ z.out.2).mono ?_;rw[hd];rintro r w2 ⟨rfl,C⟩;have R:M6 (A=(k:Int)):=by show A=_;rw[H.out,U.out.2 hd];exact Nh hlt
    have Q:M6 _:=C;clear C;go_wp2;go_ret;exact⟨by rw[R.out];rfl,z.out.2.trans (Q.out.mono z.out.2.size)⟩
  ·have R:M6 (A = -1):=by
    show A=_;rw[H.out,acp fun t d=>B t (by rw[N1 (by omega)];exact d)];exact Nf (PC _)
   have HB:M6 _:=e;clear B e O;go_wp2;go_ret;exact⟨by rw[R.out];rfl,HB.out⟩
theorem aoR(v:M7)(l:List awY)(w:MO)(hv:Yy w v l) :
  Ni MK 106 #[v,PB (PD 107) #[] #[]] w fun r w'=>r=MN (M3 (l.any (Y1)))/\yA w w':=by
 rw[<-ahq];have e:M6 _:=apm v l w hv;obtain⟨i,a⟩:=yE (X6 (l.findIdx (Y1)) l.length);rw[<-a]at e⊢;clear a hv;go_enter Ta,SG
 go_wp2_with fail
 refine Nd e.out ?_;rintro r w1 ⟨rfl,d⟩;have m:M6 _:=d;clear d;go_wp2;go_ret;exact⟨rfl,m.out⟩
abbrev aqe(o:Ou):Value:=Ny #[yB o.kind,yB o.slot,yB o.gen,yB o.be,yB o.req,yB o.code,yB o.why]
abbrev ahA(o:Ou):Obj:=MP #[yB o.kind,yB o.slot,yB o.gen,yB o.be,yB o.req,yB o.code,yB o.why] 120
abbrev gP(g:Nat):Value:=Na (MI ⟨g,0,MH⟩)
theorem apw:(MK.info? 120).map (fun i=>(i.zero,i.size,i.bytes))=MI (MI (Ny #[yB 0,yB 0,yB 0,yB 0,yB 0,yB 0,yB 0]),7,56):=by kernel_rfl
theorem OR.GY{base:Nat}{w:MO}{g:Nat}{V:Vs}{G:Gt}(h:OR base w g V G):OR base w.drew g V G:=⟨h.box,h.rest.step (MV _) fun _ _ _=>rfl⟩
theorem OR.base{base:Nat}{w:MO}{g:Nat}{V:Vs}{G:Gt}(h:OR base w g V G):base<=w.heap.size:=PJ (Pb h.rest.low h.rest.lt)
structure WV(V V':Vs)(g:Nat)(w w':MO):Prop where
 os:w'.os=w.os
 tape:w'.tape=w.tape
 output:w'.output=w.output
 size:w.heap.size<=w'.heap.size
 block:∀b,b<w.heap.size->¬V.own g b->w'.heap[b]?=w.heap[b]?
 ext:∀b,V'.own g b->V.own g b\/w.heap.size<=b
section
variable {base:Nat}{V V1 V2:Vs}{g:Nat}{w w1 w2:MO}{G:Gt}
theorem WV.Gy(V:Vs)(g:Nat)(w:MO):WV V V g w w:=⟨rfl,rfl,rfl,MV _,fun _ _ _=>rfl,fun _ h=>Nt h⟩
theorem WV.F5(h:yA w w1):WV V V g w w1:=⟨h.os,h.tape,h.output,h.size,fun b hb _=>h.block b hb,fun _ h=>Nt h⟩
theorem WV.F0(h:WV V V1 g w w1)(k:WV V1 V2 g w1 w2):WV V V2 g w w2 :=
 ⟨k.os.trans h.os,k.tape.trans h.tape,k.output.trans h.output,Nm h.size k.size,fun b hb hn=>(k.block b (M8 hb h.size) fun e=>by
   rcases h.ext b e with e|e
   ·exact hn e
   ·omega).trans (h.block b hb hn),fun b e=>by
  rcases k.ext b e with e|e
  ·exact h.ext b e
  ·have:=h.size;exact NF (by omega)⟩
theorem WV.below(h:WV V V1 g w w1)(hb:yA w1 w2):WV V V1 g w w2:=h.F0 (WV.F5 hb)
theorem WV.F4(h:WV V V1 g w w1)(k:Nat)(v:M7):WV V V1 g w (w1.setCell ⟨g,k,MH⟩ v):=
 ⟨h.os,h.tape,h.output,by simpa using h.size,fun b hb hn=>(MU w1 ⟨g,k,MH⟩ v b fun e=>hn (Nt e)).trans (h.block b hb hn),h.ext⟩
theorem WV.Gp(h:WV V V1 g w w1)(e:∀b,V2.own g b->V1.own g b):WV V V2 g w w1:=⟨h.os,h.tape,h.output,h.size,h.block,fun b hb=>h.ext b (e b hb)⟩
theorem WV.IT(h:WV V V1 g w w1)(hG:OR base w g V G):MQ base w w1 :=
 ⟨h.os,h.tape,h.output,h.size,fun b hb=>h.block b (M8 hb hG.base) fun e=>by have:=(hG.rest.Ha e).1;omega⟩
theorem WV.Gf(h:WV V V1 g w w1){o:Obj}(hb:w.heap[b]?=MI o)(hn:¬V.own g b):w1.heap[b]?=MI o:=(h.block b (ZAa.1 hb).1 hn).trans hb
theorem WV.Ik(h:WV V V1 g w w1)(hb:b<w.heap.size)(hn:¬V.own g b):¬V1.own g b:=fun e=>by
 rcases h.ext b e with e|e
 ·exact hn e
 ·omega
end
def aaa(base:Nat)(w:MO)(g:Nat)(V:Vs)(G':Gt)(r:Ending)(w':MO):Prop :=
 r=MN (Nv #[])/\∃V',OR base w' g V' G'/\(V'.pf=V.pf/\V'.cf=V.cf/\V'.bh=V.bh)/\WV V V' g w w'
def aam(base:Nat)(w:MO)(g:Nat)(V:Vs)(G':Gt)(r:Ending)(w':MO):Prop :=
 r=MN (Nv #[])/\∃V',OR base w' g V' G'/\V'.bh=V.bh/\WV V V' g w w'
theorem aqU{base:Nat}{g:Nat}{V:Vs}{G:Gt}(h:OR base W g V G)(hl:G.out.length<=1000000)(o:Ou):
  ∃q c' w5,(N2 #[62,62] 62 #[MG V.po G.out.length V.co,MG (MI ⟨W.heap.size,0,MH⟩) 1 1]).run MK ((W.alloc (ahA o)).drew)=.ok (MG (MI ⟨q,0,MH⟩) (G.out.length+1) c') w5 /\
   (w5.cell? ⟨g,26,MH⟩=MI (MG V.po G.out.length V.co)/\w5.frozen? ⟨g,26,MH⟩=Nb) /\
   OR base (w5.setCell ⟨g,26,MH⟩ (MG (MI ⟨q,0,MH⟩) (G.out.length+1) c')) g {V with po:=MI ⟨q,0,MH⟩,co:=c'} (ZM G o) /\
   WV V {V with po:=MI ⟨q,0,MH⟩,co:=c'} g W (w5.setCell ⟨g,26,MH⟩ (MG (MI ⟨q,0,MH⟩) (G.out.length+1) c')):=by
 have x:=h.rest;obtain⟨q,c',w5,A,y,a,v⟩:=afC akV aqd (by decide) Tryz.underlying62 apw rfl (w:=W.drew) (base:=base) h.GY.rest.out h.base 62 o #[yB o.kind,yB o.slot,yB o.gen,yB o.be,yB o.req,yB o.code,yB o.why] rfl (by omega) (by unfold NE;omega);have d:∀b,b<W.heap.size->V.po.map (·.block)≠MI b->w5.heap[b]?=W.heap[b]?:=fun b hb hne=>a.block b hb (fun e=>hne (by rw[e,XV]))
 have r:=(d g h.lt x.og).trans h.box;have t:∀b,(MI (⟨q,0,MH⟩:Oc)).map (·.block)=MI b->V.po.map (·.block)=MI b\/W.heap.size<=b:=fun b e=>by
  cases e;rcases v with e|e
  ·exact Nt (by rw[<-XV _ G.out.length V.co];exact e)
  ·exact NF (PJ e)
 have i:(G.out++[o]).length=G.out.length+1:=by simp
 have u:=h.Jw (w':=w5) (p:=MI ⟨q,0,MH⟩) (c:=c') (m:=G.out++[o]) a.size d (by rw[i];exact y) t;rw[i]at u;refine⟨q,c',w5,A,⟨by rw[MW w5 g 26 _ _ (0,0) r];rfl,by simp[Ng,r]⟩,u,?_⟩;have z:WV V {V with po:=MI ⟨q,0,MH⟩,co:=c'} g W w5:=by
  refine⟨a.os,a.tape,a.output,a.size,fun b hb hn=>d b hb fun e=>hn (NF (NF (NF e))),fun b e=>?_⟩;rcases e with e|e|e|e
  ·exact Nt (Nt e)
  ·exact Nt (NF (Nt e))
  ·exact Nt (NF (NF (Nt e)))
  ·exact(t b e).imp (fun e=>NF (NF (NF e))) id
 exact z.F4 26 _
theorem aeR{base:Nat}{w:MO}{g:Nat}{V:Vs}{G:Gt}(h:OR base w g V G)(hl:G.out.length<=1000000)(o:Ou) :
  Ni MK 121 #[gP g,aqe o] w (aaa base w g V (ZM G o)):=by
 obtain⟨W,d⟩:=yE (w.alloc (ahA o));have m:yA w W:=by rw[d];exact WQ w
 have a:W.heap[w.heap.size]?=MI (ahA o):=by rw[d];exact M1 _ _
 have e:=h.below m;have v:=h.lt;have A:g≠w.heap.size:=by omega
 have H:W.cell? ⟨w.heap.size,0,MH⟩=MI (yB o.kind):=by rw[MW W _ 0 _ _ (0,0) a];rfl
 have I:W.cell? ⟨w.heap.size,1,MH⟩=MI (yB o.slot):=by rw[MW W _ 1 _ _ (0,0) a];rfl
 have C:W.cell? ⟨w.heap.size,2,MH⟩=MI (yB o.gen):=by rw[MW W _ 2 _ _ (0,0) a];rfl
 have M:W.cell? ⟨w.heap.size,3,MH⟩=MI (yB o.be):=by rw[MW W _ 3 _ _ (0,0) a];rfl
 have F:W.cell? ⟨w.heap.size,4,MH⟩=MI (yB o.req):=by rw[MW W _ 4 _ _ (0,0) a];rfl
 have J:W.cell? ⟨w.heap.size,5,MH⟩=MI (yB o.code):=by rw[MW W _ 5 _ _ (0,0) a];rfl
 have K:W.cell? ⟨w.heap.size,6,MH⟩=MI (yB o.why):=by rw[MW W _ 6 _ _ (0,0) a];rfl
 have x:=e.Ip;have B:=e.lt;obtain⟨q,D,E,u,⟨z,y⟩,r,t⟩:=aqU e hl o;have i:M6 (_/\_/\_):=⟨u,r,(WV.F5 m).F0 t⟩;clear u r t e h m a;go_enter T0,TU;go_wp2;rw[<-d];clear d
 go_region_law (first|(refine aec (by rfl) _ _ 62 (by rfl) _ _ _ _ (by rfl) (by rfl) i.out.1 ?_))
 all_goals
  go_wp2
  go_end0
  exact⟨rfl,_,i.out.2.1,⟨rfl,rfl,rfl⟩,i.out.2.2⟩
theorem af1{base:Nat}{w:MO}{g:Nat}{V:Vs}{G:Gt}(h:OR base w g V G)(hl:G.out.length<=1000000)(k c:Int) :
  Ni MK 108 #[gP g,yB k,yB c] w (aaa base w g V (acm G k c)):=by
 have H:M6 _:=aeR h hl ⟨k,0,0,0,0,c,0⟩;clear h hl;go_enter Tryz.func108,Tryz.ntmps108
 go_wp2_with fail
 refine Nd H.out ?_;rintro r w1 ⟨rfl,e,a⟩;have d:M6 _:=a;clear a;go_wp2
 go_end0
 exact⟨rfl,e,d.out⟩
theorem alj{base:Nat}{w:MO}{g:Nat}{V:Vs}{G:Gt}(h:OR base w g V G)(hl:G.out.length<=1000000)(b q:Int) :
  Ni MK 123 #[gP g,yB b,yB q] w (aaa base w g V (aeQ G b q)):=by
 have H:M6 _:=aeR h hl ⟨9,0,0,b,q,0,0⟩;clear h hl;go_enter Uo,Uc
 go_wp2_with fail
 refine Nd H.out ?_;rintro r w1 ⟨rfl,e,a⟩;have d:M6 _:=a;clear a;go_wp2
 go_end0
 exact⟨rfl,e,d.out⟩
theorem aeP{base:Nat}{w:MO}{g:Nat}{V:Vs}{G:Gt}(h:OR base w g V G)(hl:G.out.length<=1000000)(k:Int)(f:Fl) :
  Ni MK 113 #[gP g,yB k,ZS f] w (aaa base w g V (abi G k f)):=by
 obtain⟨W,i⟩:=yE (w.alloc (MP #[yB f.slot,yB f.gen,yB f.key,yB f.be,M3 f.srv,yB f.ret,yB f.due] 211));have a:yA w W:=by rw[i];exact WQ w
 have H:M6 (_/\_):=⟨aeR (h.below a) hl ⟨k,f.slot,f.gen,f.be,0,0,0⟩,WV.F5 (V:=V) (g:=g) a⟩;clear h hl a;go_enter SR,Sv
 go_wp2_with fail
 rw[<-i];refine Nd H.out.1 ?_;rintro r w1 ⟨rfl,m,e⟩;have d:M6 _:=e;clear e;go_wp2
 go_end0
 exact⟨rfl,m,d.out.1,d.out.2.1,H.out.2.F0 d.out.2.2⟩
section
variable {base:Nat}{w:MO}{g:Nat}{V:Vs}{G:Gt}
theorem OR.GK(h:OR base w g V G):ZR w (MG V.pf G.fls.length V.cf) G.fls:=abw h.rest.fls
theorem OR.bf(h:OR base w g V G)(h0:0<G.fls.length):∃bf,V.pf=MI ⟨bf,0,MH⟩/\base<=bf/\bf<w.heap.size:=by
 obtain⟨d,e,a,i,m⟩:=h.rest.fls.form h0;have a:MG V.pf G.fls.length V.cf=MG (MI ⟨d,0,MH⟩) G.fls.length e:=a;injection a with e1 _ _;exact⟨d,e1,h.rest.fls.lt d (by rw[XV,e1];rfl)⟩
theorem OR.Gl(h:OR base w g V G){bf:Nat}(hp:V.pf=MI ⟨bf,0,MH⟩){i:Nat}(hi:i<G.fls.length) :
  w.cell? ⟨bf,i*7,MH⟩=MI (yB G.fls[i].slot)/\w.cell? ⟨bf,i*7+1,MH⟩=MI (yB G.fls[i].gen)/\w.cell? ⟨bf,i*7+2,MH⟩=MI (yB G.fls[i].key)/\w.cell? ⟨bf,i*7+3,MH⟩=MI (yB G.fls[i].be)/\w.cell? ⟨bf,i*7+4,MH⟩=MI (M3 G.fls[i].srv)/\w.cell? ⟨bf,i*7+5,MH⟩=MI (yB G.fls[i].ret)/\w.cell? ⟨bf,i*7+6,MH⟩=MI (yB G.fls[i].due):=by
 have a:=h.rest.fls;rw[hp]at a;exact⟨(abU XL a rfl hi (j:=0) (by omega)).trans rfl,(abU XL a rfl hi (j:=1) (by omega)).trans rfl,(abU XL a rfl hi (j:=2) (by omega)).trans rfl,(abU XL a rfl hi (j:=3) (by omega)).trans rfl,(abU XL a rfl hi (j:=4) (by omega)).trans rfl,(abU XL a rfl hi (j:=5) (by omega)).trans rfl,(abU XL a rfl hi (j:=6) (by omega)).trans rfl⟩
theorem OR.Hv(h:OR base w g V G){bf:Nat}(hp:V.pf=MI ⟨bf,0,MH⟩)(j:Nat):w.frozen? ⟨bf,j,MH⟩=false:=by
 have a:=h.rest.fls;rw[hp]at a;exact a.frozenAt j
abbrev fP(bf i:Nat):Value:=Na (MI ⟨bf,i*7,MH⟩)
theorem OR.Jk(h:OR base w g V G):G.fls.length<=V.cf/\V.cf<=9223372036854775807:=by
 obtain⟨a,cap,d,i,e,_⟩:=h.GK.F6;injection d with e1 e2 e3;unfold NE at e;omega
theorem ahm(h:OR base w g V G){i:Nat}(hi:i<G.fls.length)(hs:aaF G.fls s=i){bf:Nat}(hp:V.pf=MI ⟨bf,0,MH⟩)(hl:G.fls.length<=40):
  Ni MK 115 #[gP g,yB s] w fun r w'=>r=MN (fP bf i)/\yA w w':=by
 obtain⟨W,m⟩:=yE (w.alloc (MP #[yB s] 3));have e:yA w W:=by rw[m];exact WQ w
 have o:=h.below e;have u:W.cell? ⟨w.heap.size,0,MH⟩=MI (yB s):=by rw[m];exact Xu (M1 _ _)
 have q:X6 (G.fls.findIdx (fun f=>f.slot == s)) G.fls.length=(i:Int):=by
  have:G.fls.findIdx (fun f=>f.slot == s)=i:=hs;rw[this];exact Nh hi
 have d:M6 _:=apl (MG V.pf G.fls.length V.cf) G.fls s w.heap.size W o.GK u;rw[q]at d;have t:=h.Gr;have A:=h.lt;rw[hp]at t d;have H:M6 (_/\_):=⟨e,o⟩;have z:(i:Int)<(G.fls.length:Int):=by omega
 have y:=h.Jk;clear o h hs q u e;go_enter Tryz.func115,Tryz.ntmps115
 go_wp2_with fail
 rw[<-m];refine Nd d.out ?_;rintro r w1 ⟨rfl,a⟩;have v:=(H.out.2.below a).Gr;rw[hp]at v;have x:M6 _:=H.out.1.trans (a.mono H.out.1.size);clear a t;go_wp2;go_ret;exact⟨by simp,x.out⟩
theorem akC(h:OR base w g V G)(b:Int) :
  Ni MK 149 #[gP g,yB b] w fun r w'=>r=MN (M3 (Zr G.fls b))/\yA w w':=by
 obtain⟨W,d⟩:=yE (w.alloc (MP #[yB b] 3));have a:yA w W:=by rw[d];exact WQ w
 have i:=h.below a;have m:W.cell? ⟨w.heap.size,0,MH⟩=MI (yB b):=by rw[d];exact Xu (M1 _ _)
 have q:M6 _:=aj8 (MG V.pf G.fls.length V.cf) G.fls b w.heap.size W i.GK m;have t:=h.Gr;have u:=h.lt;have H:M6 _:=a;clear i h m a;go_enter Ue,T4
 go_wp2_with fail
 rw[<-d];refine Nd q.out ?_;rintro r w1 ⟨rfl,e⟩;have o:M6 _:=H.out.trans (e.mono H.out.size);clear e;go_wp2;go_ret;exact⟨rfl,o.out⟩
theorem af0{w:MO}{g:Nat}{a b c d e f a' b' c' d' e' f':M7}{T:NU}(h:w.heap[g]?=MI (MP #[a,b,c,d,e,f] T (0,0))):((((((w.setCell ⟨g,0,MH⟩ a').setCell ⟨g,1,MH⟩ b').setCell ⟨g,2,MH⟩ c').setCell ⟨g,3,MH⟩ d').setCell ⟨g,4,MH⟩ e').setCell ⟨g,5,MH⟩ f').heap[g]?=MI (MP #[a',b',c',d',e',f'] T (0,0)):=
 YO (YO (YO (YO (YO (YO h rfl) rfl) rfl) rfl) rfl) rfl
theorem afE{w:MO}{B h:Nat}{a b c d e f:M7}(H:MQ B w W)(hh:B<=h):MQ B w ((((((W.setCell ⟨h,0,MH⟩ a).setCell ⟨h,1,MH⟩ b).setCell ⟨h,2,MH⟩ c).setCell ⟨h,3,MH⟩ d).setCell ⟨h,4,MH⟩ e).setCell ⟨h,5,MH⟩ f):=
 (((((H.setCell hh _).setCell hh _).setCell hh _).setCell hh _).setCell hh _).setCell hh _
abbrev abR(x:awV):Value:=Ny #[yB x.1,yB x.2.1,yB x.2.2.1,yB x.2.2.2.1,yB x.2.2.2.2.1,yB x.2.2.2.2.2]
abbrev YQ(x:awV):Obj:=MP #[yB x.1,yB x.2.1,yB x.2.2.1,yB x.2.2.2.1,yB x.2.2.2.2.1,yB x.2.2.2.2.2] 214
theorem afS{q:Nat}{x:awV}(h:W.heap[q]?=MI (YQ x)):(loadVar 214 ⟨q,0,MH⟩).run MK W=.ok (abR x) W :=
 Xp (cs:=[yB x.1,yB x.2.1,yB x.2.2.1,yB x.2.2.2.1,yB x.2.2.2.2.1,yB x.2.2.2.2.2]) h Tryz.underlying214 rfl (by kernel_rfl)
theorem afQ{b:Int}:WS L b=L.getD (L.findIdx fun x=>x.1 == b) aa1:=by
 unfold WS;rw[List.find?_eq_getElem?_findIdx];simp
theorem afR(h:OR base w g V G)(b:Int) :
  Ni MK 122 #[gP g,yB b] w fun r w'=>r=MN (abR (WS G.liv b))/\yA w w':=by
 obtain⟨W,C⟩:=yE ((w.alloc (MP #[yB b] 3)).alloc (YQ aa1));have M:=acu w (MP #[yB b] 3) (YQ aa1);rw[<-C]at M;obtain⟨D,J,A,b0⟩:=M;have B:=h.below A;have O:W.cell? ⟨w.heap.size,0,MH⟩=MI (yB b):=Xu D;have y:M6 _:=akz (MG V.pl G.liv.length V.cl) G.liv b w.heap.size W B.rest.book.now.1 O;have K:=h.Gn;have b2:=h.lt;have H:M6 (_/\_/\_):=⟨A,B,J⟩;clear h O A B D J
 by_cases hi:G.liv.findIdx (fun x=>x.1 == b)<G.liv.length
 ·obtain⟨i,q⟩:=yE (G.liv.findIdx (fun x=>x.1 == b))
  have u:X6 (G.liv.findIdx (fun x=>x.1 == b)) G.liv.length=(i:Int):=by rw[<-q];exact Nh (by rw[q];exact hi)
  rw[u]at y;rw[<-q]at hi;obtain⟨x,t⟩:=yE (WS G.liv b);have I:x=G.liv[i]:=by rw[t,afQ,<-q];simp[hi]
  have a8:(i:Int)<(G.liv.length:Int):=by omega
  rw[<-t];have Y:M6 (_/\_):=⟨I,q⟩;clear u q t I;go_enter Vk,Vg
  go_wp2_with fail
  rw[<-C];refine Nd y.out ?_;rintro r w1 ⟨rfl,o⟩;have z:=H.out.2.1.below o;have F:=z.Gn;have m:=WO H.out.2.2 o;obtain⟨a,cap,he,a7,Q,N⟩:=adt.F6 z.rest.book.now.1;injection he with e1 e2 e3;unfold NE at Q;rw[e3]at F;obtain⟨b1,o1,E,a9,z1,z2,z3,z4,Z,z6⟩:=N i hi;rw[e1,E]at F;rw[<-Y.out.1]at z1 z2 z3 z4 Z z6;have R:w.heap.size+1<w1.heap.size:=(ZAa.1 m).1;have f0:w1.frozen? ⟨w.heap.size+1,0,MH⟩=false:=by simp[Ng,m]
  have f1:w1.frozen? ⟨w.heap.size+1,1,MH⟩=false:=by simp[Ng,m]
  have f2:w1.frozen? ⟨w.heap.size+1,2,MH⟩=false:=by simp[Ng,m]
  have f3:w1.frozen? ⟨w.heap.size+1,3,MH⟩=false:=by simp[Ng,m]
  have f4:w1.frozen? ⟨w.heap.size+1,4,MH⟩=false:=by simp[Ng,m]
  have f5:w1.frozen? ⟨w.heap.size+1,5,MH⟩=false:=by simp[Ng,m]
  have k0:w1.cell? ⟨w.heap.size+1,0,MH⟩=MI (yB 0):=by rw[MW w1 _ 0 _ _ (0,0) m];rfl
  have U:w1.cell? ⟨w.heap.size+1,1,MH⟩=MI (yB 0):=by rw[MW w1 _ 1 _ _ (0,0) m];rfl
  have k2:w1.cell? ⟨w.heap.size+1,2,MH⟩=MI (yB 0):=by rw[MW w1 _ 2 _ _ (0,0) m];rfl
  have k3:w1.cell? ⟨w.heap.size+1,3,MH⟩=MI (yB 0):=by rw[MW w1 _ 3 _ _ (0,0) m];rfl
  have k4:w1.cell? ⟨w.heap.size+1,4,MH⟩=MI (yB 0):=by rw[MW w1 _ 4 _ _ (0,0) m];rfl
  have k5:w1.cell? ⟨w.heap.size+1,5,MH⟩=MI (yB 0):=by rw[MW w1 _ 5 _ _ (0,0) m];rfl
  have v:M6 (_/\_):=⟨af0 (a':=yB x.1) (b':=yB x.2.1) (c':=yB x.2.2.1) (d':=yB x.2.2.2.1) (e':=yB x.2.2.2.2.1) (f':=yB x.2.2.2.2.2) m,afE (a:=yB x.1) (b:=yB x.2.1) (c:=yB x.2.2.1) (d:=yB x.2.2.2.1) (e:=yB x.2.2.2.2.1) (f:=yB x.2.2.2.2.2) (H.out.1.trans (o.mono H.out.1.size)) (Ps _)⟩;clear o K z m N e1 E e3;go_wp2;exact Np (Z2 Vc rfl (afS v.out.1)) rfl ⟨rfl,v.out.2⟩
 ·have u:X6 (G.liv.findIdx (fun x=>x.1 == b)) G.liv.length = -1:=Nf hi
  rw[u]at y;have t:WS G.liv b=aa1:=by rw[afQ];simp[hi]
  rw[t];clear u t;go_enter Vk,Vg
  go_wp2_with fail
  rw[<-C];refine Nd y.out ?_;rintro r w1 ⟨rfl,o⟩;have m:=WO H.out.2.2 o;have R:w.heap.size+1<w1.heap.size:=(ZAa.1 m).1;have f0:w1.frozen? ⟨w.heap.size+1,0,MH⟩=false:=by simp[Ng,m]
  have f1:w1.frozen? ⟨w.heap.size+1,1,MH⟩=false:=by simp[Ng,m]
  have f2:w1.frozen? ⟨w.heap.size+1,2,MH⟩=false:=by simp[Ng,m]
  have f3:w1.frozen? ⟨w.heap.size+1,3,MH⟩=false:=by simp[Ng,m]
  have f4:w1.frozen? ⟨w.heap.size+1,4,MH⟩=false:=by simp[Ng,m]
  have f5:w1.frozen? ⟨w.heap.size+1,5,MH⟩=false:=by simp[Ng,m]
  have k0:w1.cell? ⟨w.heap.size+1,0,MH⟩=MI (yB 0):=by rw[MW w1 _ 0 _ _ (0,0) m];rfl
  have U:w1.cell? ⟨w.heap.size+1,1,MH⟩=MI (yB 0):=by rw[MW w1 _ 1 _ _ (0,0) m];rfl
  have k2:w1.cell? ⟨w.heap.size+1,2,MH⟩=MI (yB 0):=by rw[MW w1 _ 2 _ _ (0,0) m];rfl
  have k3:w1.cell? ⟨w.heap.size+1,3,MH⟩=MI (yB 0):=by rw[MW w1 _ 3 _ _ (0,0) m];rfl
  have k4:w1.cell? ⟨w.heap.size+1,4,MH⟩=MI (yB 0):=by rw[MW w1 _ 4 _ _ (0,0) m];rfl
  have k5:w1.cell? ⟨w.heap.size+1,5,MH⟩=MI (yB 0):=by rw[MW w1 _ 5 _ _ (0,0) m];rfl
  have v:M6 (_/\_):=⟨af0 (a':=yB 0) (b':=yB 0) (c':=yB 0) (d':=yB 0) (e':=yB 0) (f':=yB 0) m,afE (a:=yB 0) (b:=yB 0) (c:=yB 0) (d:=yB 0) (e:=yB 0) (f:=yB 0) (H.out.1.trans (o.mono H.out.1.size)) (Ps _)⟩;clear o K m;go_wp2;exact Np (Z2 Vc rfl (afS (x:=aa1) v.out.1)) rfl ⟨rfl,v.out.2⟩
end
section
variable {base:Nat}{w:MO}{g:Nat}{V:Vs}{G:Gt}
theorem ahp{w':MO}(h:OR base w' g V G)(hb:WV V V g w w'):aaa base w g V G (MN (Nv #[])) w':=⟨rfl,V,h,⟨rfl,rfl,rfl⟩,hb⟩
theorem ahg(h:OR base w g V G)(hl:G.out.length<=1000000)(b:Int) :
  Ni MK 125 #[gP g,yB b] w (aaa base w g V (Yf G b)):=by
 obtain⟨⟨C,J,F,D,E,i⟩,U⟩:∃x,x=WS G.liv b:=⟨_,rfl⟩;have N:M6 _:=afR h b;rw[<-U]at N;have d3:=h.lt;have y:Yf G b=if J=3/\Zr G.fls b=Nb then aeQ {G with liv:=(aau G.liv G.req b).1.1,req:=(aau G.liv G.req b).1.2} b i else G:=by unfold Yf WY;rw[<-U]
 obtain⟨O,Z⟩:=yE (Yf G b);rw[<-Z];rw[<-Z]at y;have H:M6 (_/\_):=⟨h,hl⟩;clear h U Z hl
 by_cases h3:J=3
 ·subst h3
  cases hbz:Zr G.fls b
  ·rw[Nh ⟨rfl,hbz⟩]at y
   have HO:M6 _:=y;clear y;go_enter azu,azo
   go_wp2_with fail
   refine Nd N.out ?_;rintro r w1 ⟨rfl,a⟩;have z:=H.out.1.below a;have A:=z.GW (YQ (C,3,F,D,E,i));have B:=akC A b;rw[hbz]at B;have HS:M6 _:=a.size;have t:M6 (_/\_/\_):=⟨B,A,(WV.F5 (V:=V) (g:=g) a).below (WQ w1 (o:=YQ (C,3,F,D,E,i)))⟩;clear a z A B
   go_wp2_with fail
   refine Nd t.out.1 ?_;rintro r w2 ⟨rfl,u⟩;have I:=t.out.2.1.below u;have b0:w1.heap.size<w2.heap.size:=by have:=u.size;simp at this;omega
   have k5:w2.cell? ⟨w1.heap.size,5,MH⟩=MI (yB i):=by
    rw[MW w2 _ 5 _ _ (0,0) (WO (M1 w1 (YQ (C,3,F,D,E,i))) u)];rfl
   have b2:=I.Gn;have a9:=I.GD;have b4:=I.lt;have HF:=arW (MG V.pl G.liv.length V.cl) (MG V.pr G.req.length V.cr) G.liv G.req b w2 I.rest.book.now;have d:M6 (_/\_/\_):=⟨HF,I,t.out.2.2.below u⟩;clear u I HF
   go_wp2_with fail
   refine Nd d.out.1 ?_;rintro r w3 ⟨p,c,q,m,rfl,a7,v⟩;have R:=d.out.2.1.Iq v a7;have d2:=(d.out.2.1.below v).Gn;have b6:=(d.out.2.1.below v).GD;have b7:=(d.out.2.1.below v).fz 19;have b8:=(d.out.2.1.below v).fz 20;have b5:=(d.out.2.1.below v).lt;have kk:=(v.cell (p:=⟨w1.heap.size,5,MH⟩) b0).trans k5;have M:¬w1.heap.size=g:=fun e=>by have:=H.out.1.lt;have:=HS.out;omega
   have b3:¬g=w1.heap.size:=fun e=>M e.symm
   obtain⟨Q,K⟩:=yE ((w3.setCell ⟨g,19,MH⟩ (MG p (aau G.liv G.req b).1.1.length c)).setCell ⟨g,20,MH⟩ (MG q (aau G.liv G.req b).1.2.length m));rw[<-K]at R;have b9:Q.cell? ⟨w1.heap.size,5,MH⟩=MI (yB i):=by
    rw[K];exact(NG (MU _ _ _ _ M)).trans ((NG (MU _ _ _ _ M)).trans kk)
   have a8:WV V {V with pl:=p,cl:=c,pr:=q,cr:=m} g w Q:=by
    rw[K];exact(((d.out.2.2.below v).F4 19 _).F4 20 _).Gp fun _ h=>h
   have H3:M6 (_/\_):=⟨alj R H.out.2 b i,a8⟩;clear R a8 a7 v k5 b2 a9
   go_wp2_with fail
   rw[<-K]
   go_wp2_with fail
   refine Nd H3.out.1 ?_;rintro r w5 ⟨rfl,V',h5,h6,h7⟩;have Y:M6 (_/\_/\_):=⟨h5,h6,h7⟩;clear h5 h6 h7;go_wp2
   go_end0
   rw[HO.out];exact⟨rfl,V',Y.out.1,Y.out.2.1,H3.out.2.F0 Y.out.2.2⟩
  ·rw[Nf (fun hc=>by rw[hbz]at hc;cases hc.2)]at y
   subst y;go_enter azu,azo
   go_wp2_with fail
   refine Nd N.out ?_;rintro r w1 ⟨rfl,a⟩;have z:=H.out.1.below a;have A:=z.GW (YQ (C,3,F,D,E,i));have B:=akC A b;rw[hbz]at B;have t:M6 (_/\_/\_):=⟨B,A,(WV.F5 (V:=V) (g:=g) a).below (WQ w1 (o:=YQ (C,3,F,D,E,i)))⟩;clear a z A B
   go_wp2_with fail
   refine Nd t.out.1 ?_;rintro r w2 ⟨rfl,u⟩;have d:M6 (_/\_):=⟨t.out.2.1.below u,t.out.2.2.below u⟩;clear u;go_wp2
   go_end0
   exact ahp d.out.1 d.out.2
 ·rw[Nf (fun hc=>h3 hc.1)]at y
  subst y;have M:(J != 3)=true:=by simpa using h3
  go_enter azu,azo
  go_wp2_with fail
  refine Nd N.out ?_;rintro r w1 ⟨rfl,a⟩;have z:=H.out.1.below a;have t:M6 (_/\_):=⟨z.GW (YQ (C,J,F,D,E,i)),(WV.F5 (V:=V) (g:=g) a).below (WQ w1 (o:=YQ (C,J,F,D,E,i)))⟩;clear a z;go_wp2
  go_end0
  exact ahp t.out.1 t.out.2
end
section
variable {base:Nat}{w:MO}{g:Nat}{V:Vs}{G:Gt}
theorem OR.Jr(h:OR base w g V G)(hT:∀t,G.tms t↔T t):OR base w g V {G with tms:=T}:=by
 obtain⟨a,e,i,d⟩:=h.rest.whl;have r:=h.rest;exact⟨h.box,r.tab,r.book,r.ring,⟨a,e,fun t=>(i t).trans (hT t),d⟩,r.fls,r.hea,r.msl,r.hel,r.marks,r.out,r.low,r.lt,r.hg,r.fg,r.fh,r.og,r.oh,r.fo,r.blk,r.pos⟩
theorem aq5(h:0<=n/\n<=1000000):(N6 ME n).wf=true:=aez (by omega) (by omega)
theorem afD(h:MQ base w W)(hg:base<=g)(a b:Nat)(x y:M7):MQ base w ((W.setCell ⟨g,a,MH⟩ x).setCell ⟨g,b,MH⟩ y):=(h.setCell (p:=⟨g,a,MH⟩) hg x).setCell (p:=⟨g,b,MH⟩) hg y
abbrev af4(n:Int)(v:M7):Obj:=MP #[yB n,v] 54
theorem akg(h:OR base w g V G)(hs:0<=s/\s<40):
  Ni MK 165 #[gP g,yB s] w (aaa base w g V (aeG G s)):=by
 obtain⟨D,q,A,z⟩:=h.rest.whl;have I:=h.GJ;have J:=h.GH;have Q:=h.lt;have C:M6 _:=avJ (MG V.pw 25 V.cw) G.wnow s D w h.rest.blk z.now q (aq5 (by omega));have H:M6 (_/\_/\_):=⟨h,q,A⟩;clear h q A z hs;go_enter Tryz.func165,Tryz.ntmps165
 go_wp2_with fail
 refine Nd C.out ?_;rintro r w1 ⟨d,⟨y,rfl⟩|⟨B,p,c,U,rfl,u,m⟩⟩
 ·have a:=H.out.1.below d
  have i:M6 (_/\_):=⟨(a.GW (af4 0 (MG MH 0 0))).Jr (T:=fun t=>G.tms t/\t.2≠s) (fun t=>⟨fun h=>⟨h,y t ((H.out.2.2 t).2 h)⟩,fun h=>h.1⟩),(WV.F5 (V:=V) (g:=g) d).below (WQ w1 (o:=af4 0 (MG MH 0 0)))⟩;clear d a y;go_wp2
  go_end0
  exact ahp i.out.1 i.out.2
 ·have a:=H.out.1.below d
  have v:=(H.out.1.Ih (T:=fun t=>G.tms t/\t.2≠s) d u m.may (fun t=>(m.mem t).trans (and_congr (H.out.2.2 t) Iff.rfl))).GW (af4 G.wnow (MG p 25 c));have x:WV V {V with pw:=p,cw:=c} g w ((w1.setCell ⟨g,24,MH⟩ (yB G.wnow)).setCell ⟨g,25,MH⟩ (MG p 25 c)):=(((WV.F5 (V:=V) (g:=g) d).F4 24 _).F4 25 _).Gp fun _ h=>h
  have K:=a.GJ;have N:=a.GH;have M:=a.fz 24;have R:=a.fz 25;have F:=a.lt;have O:¬w1.heap.size=g:=fun e=>by omega
  have E:¬g=w1.heap.size:=fun e=>by omega
  have i:M6 (_/\_):=⟨v,x.below (WQ _ (o:=af4 G.wnow (MG p 25 c)))⟩;clear d a x v u m B;go_wp2
  go_end0
  exact⟨rfl,_,i.out.1,⟨rfl,rfl,rfl⟩,i.out.2⟩
theorem aqY{i:Nat}(hi:i<G.fls.length)(n:Int):YW G i n={G with fls:=G.fls.set i {G.fls[i]with due:=G.now+n},tms:=fun t=>(G.tms t/\t.2≠G.fls[i].slot)\/t=(G.now+n,G.fls[i].slot)}:=by
 unfold YW;rw[XA hi]
theorem af2(h:OR base w g V G){i:Nat}(hi:i<G.fls.length){bf:Nat}(hp:V.pf=MI ⟨bf,0,MH⟩)(hn:1<=n/\n<=500)(hs:0<=G.fls[i].slot/\G.fls[i].slot<40)(hw:G.wnow=G.now)(hnow:0<=G.now/\G.now<=1099511626776):
  Ni MK 111 #[gP g,fP bf i,yB n] w (aaa base w g V (YW G i n)):=by
 rw[aqY hi];obtain⟨s,C⟩:=yE (G.fls[i].slot);obtain⟨I,q2,q3,q4,q5,q6,q7⟩:=h.Gl hp hi;have b2:=h.Gm;have b5:=h.lt;have fz:=h.Hv hp (i*7+6);have b3:bf<w.heap.size:=MX w ⟨bf,i*7,MH⟩ I;have b4:¬bf=g:=fun e=>h.rest.fg (by rw[hp,e];rfl)
 have b9:¬g=bf:=fun e=>b4 e.symm
 obtain⟨d,q⟩:=yE (G.now+n);have b6:IntKind.i64.wrap (G.now+n)=d:=by rw[q,Ow];omega
 obtain⟨y,u⟩:∃y:Fl,y={G.fls[i]with due:=d}:=⟨_,rfl⟩;have x:=h.Hd hp hi (j:=6) (by omega) (yB d) y (by rw[u];rfl);obtain⟨w1,z⟩:=yE (w.setCell ⟨bf,i*7+6,MH⟩ (yB d));rw[<-z]at x;have N:WV V V g w w1:=by
  rw[z];exact⟨rfl,rfl,rfl,by simp,fun b _ hn=>MU w ⟨bf,i*7+6,MH⟩ _ b fun e=>hn (NF (NF (Nt (by rw[hp,e];rfl)))),fun _ h=>Nt h⟩
 rw[<-C]at I hs⊢;have Y:i<(G.fls.set i y).length:=by rw[NA];exact hi
 have a8:(G.fls.set i y)[i]=y:=by simp
 have U:=x.Gl hp (i:=i) Y;simp only[a8]at U;obtain⟨v,r2,r3,r4,r5,r6,r7⟩:=U;have A:y.slot=s:=by rw[u,C]
 have R:y.due=d:=by rw[u]
 have r1:w1.cell? ⟨bf,i*7,MH⟩=MI (yB s):=by rw[<-A];exact v
 have HD:M6 _:=akg x hs;have H:M6 (_/\_/\_/\_/\_/\_/\_):=⟨N,A,R,q,hp,hs,hi⟩;have HW:M6 (_/\_/\_/\_):=⟨hw,hnow,hn,u⟩;clear v h x N A R hp C q hs r2 r3 r4 r5 r6 r7 hw hnow hn u Y a8;go_enter Tryz.func111,Tryz.ntmps111
 go_wp2_with fail
 rw[<-z];clear z I q2 q3 q4 q5 q6 q7 b2 fz b6
 go_wp2_with fail
 refine Nd HD.out ?_;rintro r w2 ⟨rfl,a,m,F,Q⟩;obtain⟨ls,E,J,hA⟩:=m.rest.whl;have Z:a.pf=MI ⟨bf,0,MH⟩:=F.1.trans H.out.2.2.2.2.1;have D:i<(aeG {G with fls:=G.fls.set i y} s).fls.length:=by show i<(G.fls.set i y).length;rw[NA];exact H.out.2.2.2.2.2.2
 have a7:=m.Gl Z (i:=i) D;have M:(aeG {G with fls:=G.fls.set i y} s).fls[i]'D=y:=NW (h:=by rw[NA];exact H.out.2.2.2.2.2.2);simp only[M]at a7;obtain⟨v,t2,t3,t4,t5,t6,u7⟩:=a7;have t1:w2.cell? ⟨bf,i*7,MH⟩=MI (yB s):=by rw[<-H.out.2.1];exact v
 have t7:w2.cell? ⟨bf,i*7+6,MH⟩=MI (yB d):=by rw[<-H.out.2.2.1];exact u7
 have d8:w2.cell? ⟨g,24,MH⟩=MI (yB G.wnow):=m.GJ;have d5:=m.GH;have d2:=m.lt;have b8:bf<w2.heap.size:=MX w2 ⟨bf,i*7,MH⟩ t1;have hx:=HW.out;have hs:=H.out.2.2.2.2.2.1;have q:=H.out.2.2.2.1;have O:Zg G.wnow (d,s)=true:=(ada _ _).2 ⟨by show G.wnow<d;omega,by show d<=G.wnow+500;omega,by show d<=1099511627776;omega,hs.1,by show s<=199;omega⟩;have K:∀t∈ls.flatten,t.2≠s:=fun t hmem=>((J t).1 hmem).2
 have HA:M6 (∀W,yA w2 W->Ni MK 166 #[Ny #[yB G.wnow,MG a.pw 25 a.cw],yB s,yB d] W fun r w'=>∃p c,r=MN (Nv #[Ny #[yB G.wnow,MG p 25 c],yB 0])/\w'.cell? ⟨g,24,MH⟩=MI (yB G.wnow)/\w'.cell? ⟨g,25,MH⟩=MI (MG a.pw 25 a.cw)/\w'.frozen? ⟨g,24,MH⟩=Nb/\w'.frozen? ⟨g,25,MH⟩=Nb/\g<w'.heap.size /\
   M6 (OR base ((w'.setCell ⟨g,24,MH⟩ (yB G.wnow)).setCell ⟨g,25,MH⟩ (MG p 25 c)) g {a with pw:=p,cw:=c} {G with fls:=G.fls.set i y,tms:=fun t=>(G.tms t/\t.2≠s)\/t=(d,s)}/\WV a {a with pw:=p,cw:=c} g w2 ((w'.setCell ⟨g,24,MH⟩ (yB G.wnow)).setCell ⟨g,25,MH⟩ (MG p 25 c)))):=by
  refine fun W hW=>(avD (MG a.pw 25 a.cw) G.wnow s d ls W (m.rest.blk.below hW) (hA.now.below hW) E O K).mono ?_
  rintro r w' ⟨p,c,rfl,a9,b0,hb⟩;have B:yA w2 w':=hW.trans (hb.mono hW.size);have o:=m.below B;have b7:=m.Ih (T:=fun t=>(G.tms t/\t.2≠s)\/t=(d,s)) B (a9.GV hW.size) b0 (fun t=>(av6 (now:=G.wnow) E.2 (d,s) t).trans ((or_congr Iff.rfl (J t)).trans or_comm));exact⟨p,c,rfl,o.GJ,o.GH,o.fz 24,o.fz 25,o.lt,b7,(((WV.F5 (V:=a) (g:=g) B).F4 24 _).F4 25 _).Gp fun _ h=>h⟩
 have H2:M6 (_/\_):=⟨F,Q⟩;clear v u7 m hA E J O K hx hs q Q F t2 t3 t4 t5 t6 Z M D r1 b5 b3 HD
 go_wp2_with fail
 go_region_with (first|(go_at_call 166;refine(HA.out _ (by first|exact(MY _ _).drew|exact Below.refl _ _)).mono ?_;rintro r w3 ⟨p,c,rfl,d6,d4,d7,d9,d3,o⟩))
 all_goals
  go_wp2
  go_end0
  have u:=HW.out.2.2.2;have q:=H.out.2.2.2.1;subst u q;exact⟨rfl,{a with pw:=p,cw:=c},o.out.1,H2.out.1,H.out.1.F0 (H2.out.2.F0 o.out.2)⟩
end
theorem ad0:(MK.info? 211).map (fun i=>(i.zero,i.size,i.bytes))=MI (MI (Ny #[yB 0,yB 0,yB 0,yB 0,M3 Nb,yB 0,yB 0]),7,56):=by kernel_rfl
theorem aoI(q:Oc)(c:Nat)(l:List Fl)(w:MO)(hv:ZR w (MG (MI q) l.length c) l)(h0:0<l.length)(hl:l.length<=1000) :
  Ni MK 98 #[MG (MI q) l.length c] w fun r w'=>∃g c',r=MN (MG (MI ⟨g,0,MH⟩) l.length c')/\w'.ownsRow w.heap.size 211 7 (MG (MI ⟨g,0,MH⟩) l.length c') l.length (rv WX l)/\yA w w':=by
 have v:∀W,(binOp .eql 41 (MG (MI q) l.length c) (MG MH 0 0)).run MK W=.ok (M3 Nb) W:=fun W=>by kernel_rfl
 have m:(w.alloc (MP #[] 211)).ownsRow w.heap.size 211 7 (MG (MI ⟨w.heap.size,0,MH⟩) 0 0) 0 (rv WX []):=
  ⟨rfl,NF ⟨w.heap.size,0,#[],rfl,MV _,M1 _ _,MV _,Nx _,rfl,rfl⟩⟩
 have t:∃g c' d,(N2 #[41,41] 41 #[MG (MI ⟨w.heap.size,0,MH⟩) 0 0,MG (MI q) l.length c]).run MK (w.alloc (MP #[] 211))=.ok (MG (MI ⟨g,0,MH⟩) l.length c') d/\d.ownsRow w.heap.size 211 7 (MG (MI ⟨g,0,MH⟩) l.length c') l.length (rv WX l)/\yA w d:=by
  obtain⟨g,c',d,hr,a,u,_⟩:=ag6 XL acI (by decide) PK ad0 rfl m (by simp) 41 _ l (Xw.below hv (WQ w)) (by omega) (by omega) (by unfold NE;omega);rw[Oa]at hr a;rw[Oz]at a;exact⟨_,_,_,hr,a,(WQ w).trans (ae4 u (by simp) (fun g e=>by cases e;exact MV _))⟩
 obtain⟨g,c',d,hr,a,o⟩:=t;have i:M6 (_/\_/\_):=⟨hr,o,a⟩;clear hr o a hv m;go_enter Tryz.func98,Tryz.ntmps98
 go_wp2_with (at_builtin;(with_reducible refine Z4 rfl _ _ 41 rfl (MG (MI ⟨w.heap.size,0,MH⟩) 0 0) (MG (MI q) l.length c) (MG (MI ⟨g,0,MH⟩) l.length c') d ?hs ?hx ?hr ?_);(case hs=>rfl);(case hx=>rfl);(case hr=>exact i.out.1))
 go_wp2;go_ret;exact⟨_,_,rfl,i.out.2.2,i.out.2.1⟩
def Y2(s n:Int)(f:Fl):Bool:=(f.slot == s) && (f.gen == n)
theorem ahc(f:Fl)(s n:Int)(g:Nat)(w:MO)(hc:w.cell? ⟨g,0,MH⟩=MI (yB s))(hd:w.cell? ⟨g,1,MH⟩=MI (yB n)) :
  Ni MK 232 #[ZS f,Na (MI ⟨g,0,MH⟩)] w fun r w'=>r=MN (M3 (Y2 s n f))/\w'=w.alloc (MP #[yB f.slot,yB f.gen,yB f.key,yB f.be,M3 f.srv,yB f.ret,yB f.due] 211):=by
 have i:g<w.heap.size:=MX w ⟨g,0,MH⟩ hc
 by_cases e:f.slot=s/\f.gen=n
 ·obtain⟨rfl,rfl⟩:=e
  go_enter ayu,ayq;go_wp2;go_ret;exact⟨by simp[Y2],rfl⟩
 ·have a:Y2 s n f=false:=by
   cases h:Y2 s n f
   ·rfl
   ·exact absurd (by simpa [Y2]using h) e
  rw[a]
  by_cases e1:f.slot=s
  ·subst e1
   have d:(f.gen == n)=false:=by rw[Oh];exact fun h=>e ⟨rfl,h⟩
   have m:¬f.gen=n:=fun h=>e ⟨rfl,h⟩
   clear e a;go_enter ayu,ayq;go_wp2;go_ret;exact⟨rfl,rfl⟩
  ·have d:(f.slot == s)=false:=by rw[Oh];exact e1
   clear e a;go_enter ayu,ayq;go_wp2;go_ret;exact⟨rfl,rfl⟩
theorem apr(v:M7)(l:List Fl)(s n:Int)(g:Nat)(w:MO)(hv:ZR w v l)(hc:w.cell? ⟨g,0,MH⟩=MI (yB s))(hd:w.cell? ⟨g,1,MH⟩=MI (yB n)) :
  Ni MK 162 #[v,PB (PD 232) #[] #[Na (MI ⟨g,0,MH⟩)]] w fun r w'=>r=MN (yB (X6 (l.findIdx (Y2 s n)) l.length))/\yA w w':=by
 obtain⟨q,I⟩:∃q:Fl->Bool,q=(Y2 s n):=⟨_,rfl⟩;obtain⟨a,ca,rfl,a8,R,J⟩:=ZR.F6 hv;unfold NE at R;have N:=MX w ⟨g,0,MH⟩ hc;have Q:M6 (∀(x:Fl) (W:MO),yA w W->Ni MK 232 #[ZS x,Na (MI ⟨g,0,MH⟩)] W fun r w'=>r=MN (M3 (q x))/\yA W w'):=by
  rw[I];exact fun x W hb=>(fun H=>H.mono fun r w' h=>⟨h.1,by rw[h.2];exact WQ W⟩) (ahc x s n g W ((hb.cell (p:=⟨g,0,MH⟩) N).trans hc) ((hb.cell (p:=⟨g,1,MH⟩) N).trans hd))
 rw[<-I];obtain⟨z,D⟩:=yE (X6 (l.findIdx q) l.length);rw[<-D];have H:M6 _:=D;clear hv D I hc hd;go_enter VW,VM;go_wp2
 go_loopw [8] (fun i wr=>∃k:Nat,i=yB k/\k<=l.length/\(∀t∈l.take k,q t=Nb)/\yA w wr) (fun i _=>l.length-(intOf i).toNat)
 case atStart=>exact⟨0,rfl,Nx _,by simp,MY _ _⟩
 case round =>
  obtain⟨k,rfl,hk,A,d⟩:=hrel
  by_cases hlt:k<l.length
  ·obtain⟨u,o,rfl,m,c1,c2,c3,c4,c5,c6,c7⟩:=J k hlt
   have e1:=(d.cell (p:=⟨u,o+k*7,MH⟩) m).trans c1;have Z:=(d.cell (p:=⟨u,o+k*7+1,MH⟩) m).trans c2;have e3:=(d.cell (p:=⟨u,o+k*7+2,MH⟩) m).trans c3;have U:=(d.cell (p:=⟨u,o+k*7+3,MH⟩) m).trans c4;have e5:=(d.cell (p:=⟨u,o+k*7+4,MH⟩) m).trans c5;have e6:=(d.cell (p:=⟨u,o+k*7+5,MH⟩) m).trans c6;have Y:=(d.cell (p:=⟨u,o+k*7+6,MH⟩) m).trans c7;have y:M6 (_/\_):=⟨A,d⟩;have a7:(k:Int)<(l.length:Int):=by omega
   have F:l.take (k+1)=l.take k++[l[k]]:=M9 hlt;have E:q l[k]=Nw->l.findIdx q=k:=fun h=>abZ hlt A h
   have C:∃x,x=l[k]:=⟨_,rfl⟩;obtain⟨x,C⟩:=C;rw[<-C]at e1 Z e3 U e5 e6 Y F E;have O:M6 (_/\_):=⟨F,E⟩;clear A d c1 c2 c3 c4 c5 c6 c7 m J F E C;cases hd:q x
   ·go_wp2_with fail
    refine(Q.out x _ y.out.2).mono ?_;rw[hd];rintro r w2 ⟨rfl,B⟩;have K:M6 _:=B;clear B;go_wp2
    go_roundw
    case rel =>
     refine⟨k+1,by simp,hlt,fun t e=>?_,y.out.2.trans (K.out.mono y.out.2.size)⟩;rw[O.out.1]at e;rcases QF.1 e with e|e
     ·exact y.out.1 t e
     ·simp at e
      rw[e];exact hd
    case measure=>simp[intOf];omega
   ·go_wp2_with fail
    refine(Q.out x _ y.out.2).mono ?_;rw[hd];rintro r w2 ⟨rfl,B⟩;have M:M6 (z=(k:Int)):=by show z=_;rw[H.out,O.out.2 hd];exact Nh hlt
    have K:M6 _:=B;clear B;go_wp2;go_ret;exact⟨by rw[M.out];rfl,y.out.2.trans (K.out.mono y.out.2.size)⟩
  ·have M:M6 (z = -1):=by
    show z=_;rw[H.out,acp fun t e=>A t (by rw[N1 (by omega)];exact e)];exact Nf (PC _)
   have HB:M6 _:=d;clear A d J;go_wp2;go_ret;exact⟨by rw[M.out];rfl,HB.out⟩
def awZ(l:List Fl)(s n:Int):List Fl:=l.filter fun f=>!Y2 s n f
theorem akE(l:List Fl)(t:Fl)(s n:Int):awZ (l++[t]) s n=awZ l s n++if Y2 s n t=Nw then []else [t]:=by
 unfold awZ;rw[OY]
 by_cases h:Y2 s n t=Nw <;> simp[h]
theorem apJ(h:∀t∈l,Y2 s n t=Nb):awZ l s n=l:=List.filter_eq_self.2 fun t ht=>by rw[h t ht];rfl
theorem aqi{w:MO}{base g n size i:Nat}{e:NU}(h:w.ownsRow base e size (MG (MI ⟨g,0,MH⟩) n cap) n xs)(hi:i<=n):w.ownsRow base e size (MG (MI ⟨g,0,MH⟩) i cap) i (xs.take (i*size)):=agE h hi
theorem aqj{base g n size:Nat}{e:NU}(vs:List M7)(o:Nat)(w:MO)(h:w.ownsRow base e size (MG (MI ⟨g,0,MH⟩) n cap) n xs)(ho:n*size<=o):(w.setCells g o vs).ownsRow base e size (MG (MI ⟨g,0,MH⟩) n cap) n xs/\w.grownBy (w.setCells g o vs) (MI g):=aeh vs o w h ho
theorem aqu{P:O8}(w:MO)(t e ty:NU)(zs:Array M7)(k:Nat)(hk:zs.size=k)(hk0:0<k)(h1:∀j,j<k->(zs[j]!).oneCell'=Nw)(ht:P.underlying t=MI (.slice e))(hv:∀w,(zeroValue e).run P w=.ok (Ny zs) w)(g o n c:Nat)(hn:0<n)
  (hc:∀j,j<n*k->(w.cell? ⟨g,o+j,MH⟩).isSome=Nw) (hf:∀j,j<n*k->w.frozen? ⟨g,o+j,MH⟩=Nb) :
  ∃vs,(Rs #[t] ty #[MG (MI ⟨g,o,MH⟩) n c]).run P w=.ok (Nv #[]) (w.setCells g o vs):=by
 have d:(N5 zs n).toList.length=n*k:=by rw[Om,size_zeroCells,hk]
 have q:∀v∈(N5 zs n).toList,v.oneCell'=true:=by
  intro v hv;simp only[N5,Array.toList_map,ZAd]at hv;obtain⟨i,_,rfl⟩:=hv;exact h1 (i % zs.size) (by rw[hk];exact Nat.mod_lt _ hk0)
 have a:=run_storeCells_cells (P:=P) g o (N5 zs n).toList 0 w (by rw[d];simpa using hc) (by rw[d];simpa using hf) q;simp only[Oe]at a;refine⟨(N5 zs n).toList,?_⟩;obtain⟨m,rfl⟩:∃m,n=m+1:=⟨n-1,by omega⟩;simp[Rs,run_underlying ht,hv,Value.cells,a]
theorem ara(W:MO):(zeroValue 211).run MK W=.ok (Ny #[yB 0,yB 0,yB 0,yB 0,M3 Nb,yB 0,yB 0]) W:=by kernel_rfl
theorem ahe(h:j<l.length):l.drop j=l[j]::l.drop (j+1):=(Pp h).symm
def Xr(l:List Fl)(s n:Int)(junk:List Fl)(j:Nat):List Fl:=awZ (l.take j) s n++junk++l.drop j
theorem ap6(hj:j<l.length)(hl:(awZ (l.take j) s n).length+junk.length=j):(Xr l s n junk j)[j]?=MI l[j]:=by
 unfold Xr;rw[Tw (by rw[Ns];omega),Ns,hl,Nat.sub_self,ahe hj];rfl
theorem ap7(hj:j<=l.length)(hl:(awZ (l.take j) s n).length+junk.length=j):(Xr l s n junk j).length=l.length:=by
 unfold Xr;rw[Ns,Ns,NJ];omega
theorem akM(hj:j<l.length)(e:Y2 s n l[j]=Nw):Xr l s n (junk++[l[j]]) (j+1)=Xr l s n junk j/\awZ (l.take (j+1)) s n=awZ (l.take j) s n:=by
 have a:awZ (l.take (j+1)) s n=awZ (l.take j) s n:=by rw[M9 hj,akE,Nh e,OG]
 refine⟨?_,a⟩;unfold Xr;rw[a,ahe hj];simp
theorem ap8{x:Fl}(hj:j<l.length)(e:¬Y2 s n l[j]=Nw):Xr l s n (junk++[l[j]]) (j+1)=(Xr l s n (x::junk) j).set (awZ (l.take j) s n).length l[j]/\awZ (l.take (j+1)) s n=awZ (l.take j) s n++[l[j]]:=by
 have a:awZ (l.take (j+1)) s n=awZ (l.take j) s n++[l[j]]:=by rw[M9 hj,akE,Nf e]
 refine⟨?_,a⟩;unfold Xr;rw[a,ahe hj];simp
theorem aqv{w:MO}{base g n:Nat}(h:w.ownsRow base 211 7 (MG (MI ⟨g,0,MH⟩) n cap) n (rv WX l)){i:Nat}(hi:i<l.length)(y:Fl):
  (((((((w.setCell ⟨g,i*7,MH⟩ (yB y.slot)).setCell ⟨g,i*7+1,MH⟩ (yB y.gen)).setCell ⟨g,i*7+2,MH⟩ (yB y.key)).setCell ⟨g,i*7+3,MH⟩ (yB y.be)).setCell ⟨g,i*7+4,MH⟩ (M3 y.srv)).setCell ⟨g,i*7+5,MH⟩ (yB y.ret)).setCell ⟨g,i*7+6,MH⟩ (yB y.due)).ownsRow base 211 7 (MG (MI ⟨g,0,MH⟩) n cap) n (rv WX (l.set i y))/\w.grownBy (((((((w.setCell ⟨g,i*7,MH⟩ (yB y.slot)).setCell ⟨g,i*7+1,MH⟩ (yB y.gen)).setCell ⟨g,i*7+2,MH⟩ (yB y.key)).setCell ⟨g,i*7+3,MH⟩ (yB y.be)).setCell ⟨g,i*7+4,MH⟩ (M3 y.srv)).setCell ⟨g,i*7+5,MH⟩ (yB y.ret)).setCell ⟨g,i*7+6,MH⟩ (yB y.due)) (MI g):=by
 have r:=h.stored (i*7) (yB y.slot);have q:=r.1.stored (i*7+1) (yB y.gen);have o:=q.1.stored (i*7+2) (yB y.key);have m:=o.1.stored (i*7+3) (yB y.be);have e:=m.1.stored (i*7+4) (M3 y.srv);have d:=e.1.stored (i*7+5) (yB y.ret);have a:=d.1.stored (i*7+6) (yB y.due);have x:=ack XL l i 0 (yB y.slot) ({l[i]with slot:=y.slot}:Fl) hi (by omega) rfl;have z:=ack XL (l.set i ({l[i]with slot:=y.slot}:Fl)) i 1 (yB y.gen) ({l[i]with slot:=y.slot,gen:=y.gen}:Fl) (by simpa using hi) (by omega) (by rw[NW];rfl);have A:=ack XL (l.set i ({l[i]with slot:=y.slot,gen:=y.gen}:Fl)) i 2 (yB y.key) ({l[i]with slot:=y.slot,gen:=y.gen,key:=y.key}:Fl) (by simpa using hi) (by omega) (by rw[NW];rfl);have t:=ack XL (l.set i ({l[i]with slot:=y.slot,gen:=y.gen,key:=y.key}:Fl)) i 3 (yB y.be) ({l[i]with slot:=y.slot,gen:=y.gen,key:=y.key,be:=y.be}:Fl) (by simpa using hi) (by omega) (by rw[NW];rfl);have u:=ack XL (l.set i ({l[i]with slot:=y.slot,gen:=y.gen,key:=y.key,be:=y.be}:Fl)) i 4 (M3 y.srv) ({l[i]with slot:=y.slot,gen:=y.gen,key:=y.key,be:=y.be,srv:=y.srv}:Fl) (by simpa using hi) (by omega) (by rw[NW];rfl);have v:=ack XL (l.set i ({l[i]with slot:=y.slot,gen:=y.gen,key:=y.key,be:=y.be,srv:=y.srv}:Fl)) i 5 (yB y.ret) ({l[i]with slot:=y.slot,gen:=y.gen,key:=y.key,be:=y.be,srv:=y.srv,ret:=y.ret}:Fl) (by simpa using hi) (by omega) (by rw[NW];rfl);have B:=ack XL (l.set i ({l[i]with slot:=y.slot,gen:=y.gen,key:=y.key,be:=y.be,srv:=y.srv,ret:=y.ret}:Fl)) i 6 (yB y.due) ({l[i]with slot:=y.slot,gen:=y.gen,key:=y.key,be:=y.be,srv:=y.srv,ret:=y.ret,due:=y.due}:Fl) (by simpa using hi) (by omega) (by rw[NW];rfl);simp only[List.set_set,Oe]at x z A t u v B;rw[x]at r q o m e d a;rw[z]at q o m e d a;rw[A]at o m e d a;rw[t]at m e d a;rw[u]at e d a;rw[v]at d a;rw[B]at a;exact⟨a.1,(((((r.2.trans q.2).trans o.2).trans m.2).trans e.2).trans d.2).trans a.2⟩
theorem aoX(base g c:Nat)(l:List Fl)(s n:Int)(gid:Nat)(w:MO)(hown:w.ownsRow base 211 7 (MG (MI ⟨g,0,MH⟩) l.length c) l.length (rv WX l))(h:w.cell? ⟨gid,0,MH⟩=MI (yB s))(hd:w.cell? ⟨gid,1,MH⟩=MI (yB n))(hne:gid≠g)(hex:∃t∈l,Y2 s n t=Nw) :
  Ni MK 231 #[MG (MI ⟨g,0,MH⟩) l.length c,PB (PD 232) #[] #[Na (MI ⟨gid,0,MH⟩)]] w fun r w'=>r=MN (MG (MI ⟨g,0,MH⟩) (awZ l s n).length c)/\w'.ownsRow base 211 7 (MG (MI ⟨g,0,MH⟩) (awZ l s n).length c) (awZ l s n).length (rv WX (awZ l s n))/\w.grownBy w' (MI g):=by
 have R:=apr _ l s n gid w (abw hown) h hd;have b8:=MX w ⟨gid,0,MH⟩ h;obtain⟨k,F⟩:=yE (l.findIdx (Y2 s n));have C:k<l.length:=by rw[F];obtain⟨t,O,e⟩:=hex;exact List.findIdx_lt_length_of_exists ⟨t,O,e⟩
 have a8:Y2 s n l[k]=true:=by subst F;exact List.findIdx_getElem (w:=C)
 have a9:∀t∈l.take k,Y2 s n t=false:=by
  intro t O;obtain⟨j,hj,rfl⟩:=NV O;have d4:j<k:=by simp at hj;omega
  rw[List.getElem_take];have:=List.not_of_lt_findIdx (p:=Y2 s n) (xs:=l) (i:=j) (by rw[<-F];exact d4)
  simpa using this
 have b4:X6 (l.findIdx (Y2 s n)) l.length=(k:Int):=by rw[<-F];exact Nh C
 rw[b4]at R;have d2:l.length<=c/\c<=maxLen:=by
  obtain⟨_,c',he,hc,hm,_⟩:=abw hown;cases he;exact⟨hc,hm⟩
 obtain⟨g9,d5⟩:=d2;unfold NE at d5;have D:awZ (l.take k) s n=l.take k:=apJ a9;have U:=akM (junk:=[]) C a8;have M:M6 (_/\_/\_/\_):=⟨R,hown,h,hd⟩;have H1:M6 (_/\_/\_):=⟨D,U.1,U.2⟩;have f9:((k:Int) == -1)=false:=by
  rw[Oh];omega
 clear R hown h hd hex F b4 D U a8 a9;go_enter R2,RO
 go_wp2_with fail
 refine Nd M.out.1 ?_;rintro r w1 ⟨rfl,b2⟩;have B:M6 _:=b2;clear b2;go_wp2
 go_loopw [5,6] (fun s5 s6 wr=>∃(j:Nat) (junk:List Fl),s5=yB ((awZ (l.take j) s n).length:Nat)/\s6=yB j/\j<=l.length/\(awZ (l.take j) s n).length+junk.length=j/\junk≠[]/\wr.ownsRow base 211 7 (MG (MI ⟨g,0,MH⟩) l.length c) l.length (rv WX (Xr l s n junk j))/\w.grownBy wr (MI g)) (fun _ s6 _=>l.length-(intOf s6).toNat)
 case atStart =>
  obtain⟨D,d7,d8⟩:=H1.out;have e0:Xr l s n [l[k]] (k+1)=l:=by
   have:Xr l s n ([]++[l[k]]) (k+1)=Xr l s n [] k:=d7;rw[Oz]at this;rw[this];unfold Xr;rw[D,OG,Oo]
  have H:(awZ (l.take (k+1)) s n).length=k:=by rw[d8,D,NH];omega
  refine⟨k+1,[l[k]],by rw[H],by simp,C,by rw[H];rfl,by simp,?_,⟨B.out.os,B.out.tape,B.out.output,B.out.size,fun k C _=>B.out.block k C⟩⟩;rw[e0];exact YI M.out.2.1 B.out
 case round =>
  obtain⟨j,junk,rfl,rfl,hj,b6,b5,m,v⟩:=hrel;have b3:=ap7 hj b6;have Y:wr.cell? ⟨gid,0,MH⟩=MI (yB s):=v.cell M.out.2.2.1 (by simpa using hne);have Z:wr.cell? ⟨gid,1,MH⟩=MI (yB n):=v.cell M.out.2.2.2 (by simpa using hne);obtain⟨x,d,rfl⟩:∃x d,junk=x::d:=by
   cases junk with
   |nil=>exact absurd rfl b5
   |cons x r=>exact⟨x,r,rfl⟩
  rw[Ox]at b6;have a7:gid<wr.heap.size:=M8 b8 v.size;have h8:=(m.lt g rfl).2;generalize u:(awZ (l.take j) s n).length=i at *
  by_cases hlt:j<l.length
  ·have b0:=ap6 (s:=s) (n:=n) (junk:=x::d) hlt (by rw[u,Ox];omega)
   obtain⟨q,z⟩:=ZAb.1 b0
   have o:i<(Xr l s n (x::d) j).length:=by omega
   have f0:=(m.cellAt (j*7) (by omega)).trans ((ZA XL (Xr l s n (x::d) j) j 0 q (by omega)).trans (show(WX ((Xr l s n (x::d) j)[j]'q))[0]?=MI (yB l[j].slot)by rw[z];rfl));have f1:=(m.cellAt (j*7+1) (by omega)).trans ((ZA XL (Xr l s n (x::d) j) j 1 q (by omega)).trans (show(WX ((Xr l s n (x::d) j)[j]'q))[1]?=MI (yB l[j].gen)by rw[z];rfl));have f2:=(m.cellAt (j*7+2) (by omega)).trans ((ZA XL (Xr l s n (x::d) j) j 2 q (by omega)).trans (show(WX ((Xr l s n (x::d) j)[j]'q))[2]?=MI (yB l[j].key)by rw[z];rfl));have f3:=(m.cellAt (j*7+3) (by omega)).trans ((ZA XL (Xr l s n (x::d) j) j 3 q (by omega)).trans (show(WX ((Xr l s n (x::d) j)[j]'q))[3]?=MI (yB l[j].be)by rw[z];rfl));have f4:=(m.cellAt (j*7+4) (by omega)).trans ((ZA XL (Xr l s n (x::d) j) j 4 q (by omega)).trans (show(WX ((Xr l s n (x::d) j)[j]'q))[4]?=MI (M3 l[j].srv)by rw[z];rfl));have f5:=(m.cellAt (j*7+5) (by omega)).trans ((ZA XL (Xr l s n (x::d) j) j 5 q (by omega)).trans (show(WX ((Xr l s n (x::d) j)[j]'q))[5]?=MI (yB l[j].ret)by rw[z];rfl));have f6:=(m.cellAt (j*7+6) (by omega)).trans ((ZA XL (Xr l s n (x::d) j) j 6 q (by omega)).trans (show(WX ((Xr l s n (x::d) j)[j]'q))[6]?=MI (yB l[j].due)by rw[z];rfl));have g0:=(m.cellAt (i*7) (by omega)).trans ((ZA XL (Xr l s n (x::d) j) i 0 o (by omega)).trans (show(WX ((Xr l s n (x::d) j)[i]'o))[0]?=MI (yB ((Xr l s n (x::d) j)[i]'o).slot)from rfl));have z0:=m.frozenAt (i*7);have g1:=(m.cellAt (i*7+1) (by omega)).trans ((ZA XL (Xr l s n (x::d) j) i 1 o (by omega)).trans (show(WX ((Xr l s n (x::d) j)[i]'o))[1]?=MI (yB ((Xr l s n (x::d) j)[i]'o).gen)from rfl));have z1:=m.frozenAt (i*7+1);have g2:=(m.cellAt (i*7+2) (by omega)).trans ((ZA XL (Xr l s n (x::d) j) i 2 o (by omega)).trans (show(WX ((Xr l s n (x::d) j)[i]'o))[2]?=MI (yB ((Xr l s n (x::d) j)[i]'o).key)from rfl));have z2:=m.frozenAt (i*7+2);have g3:=(m.cellAt (i*7+3) (by omega)).trans ((ZA XL (Xr l s n (x::d) j) i 3 o (by omega)).trans (show(WX ((Xr l s n (x::d) j)[i]'o))[3]?=MI (yB ((Xr l s n (x::d) j)[i]'o).be)from rfl));have z3:=m.frozenAt (i*7+3);have g4:=(m.cellAt (i*7+4) (by omega)).trans ((ZA XL (Xr l s n (x::d) j) i 4 o (by omega)).trans (show(WX ((Xr l s n (x::d) j)[i]'o))[4]?=MI (M3 ((Xr l s n (x::d) j)[i]'o).srv)from rfl));have z4:=m.frozenAt (i*7+4);have g5:=(m.cellAt (i*7+5) (by omega)).trans ((ZA XL (Xr l s n (x::d) j) i 5 o (by omega)).trans (show(WX ((Xr l s n (x::d) j)[i]'o))[5]?=MI (yB ((Xr l s n (x::d) j)[i]'o).ret)from rfl));have z5:=m.frozenAt (i*7+5);have g6:=(m.cellAt (i*7+6) (by omega)).trans ((ZA XL (Xr l s n (x::d) j) i 6 o (by omega)).trans (show(WX ((Xr l s n (x::d) j)[i]'o))[6]?=MI (yB ((Xr l s n (x::d) j)[i]'o).due)from rfl));have z6:=m.frozenAt (i*7+6);obtain⟨y,hy⟩:=yE (l[j]);rw[<-hy]at f0 f1 f2 f3 f4 f5 f6;generalize ((Xr l s n (x::d) j)[i]'o)=od at g0 g1 g2 g3 g4 g5 g6;have A:=aqv m o y;have K:M6 (_/\_/\_/\_/\_):=⟨A,m,v,hy,u⟩;have f7:(j:Int)<(l.length:Int):=by omega
   have d3:(i:Int)<(l.length:Int):=by omega
   have d9:i<j:=by omega
   have g7:i<l.length:=by omega
   have h9:wr.heap.size≠gid:=by omega
   have J:M6 (_/\_):=⟨(NG (a:=⟨gid,0,MH⟩) (Ov wr (MP #[yB y.slot,yB y.gen,yB y.key,yB y.be,M3 y.srv,yB y.ret,yB y.due] 211) gid a7)).trans Y,(NG (a:=⟨gid,1,MH⟩) (Ov wr (MP #[yB y.slot,yB y.gen,yB y.key,yB y.be,M3 y.srv,yB y.ret,yB y.due] 211) gid a7)).trans Z⟩;clear m v Y Z b0 z hy q o u b5 A b3;cases hd:Y2 s n y
   ·go_wp2_with fail
    refine(ahc y s n gid _ J.out.1 J.out.2).mono ?_;rw[hd];rintro r w2 ⟨rfl,rfl⟩;go_wp2
    go_roundw
    case rel =>
     obtain⟨A,m,v,E,u⟩:=K.out;have b9:¬Y2 s n l[j]=true:=by rw[<-E,hd];decide
     obtain⟨N,I⟩:=ap8 (x:=x) (junk:=d) hlt b9;rw[u,<-E]at N;refine⟨j+1,d++[l[j]],by rw[I,Ns,u];simp,by simp,hlt,by rw[I,Ns,u];simp;omega,by simp,?_,?_⟩
     ·rw[<-E,N];exact(A.1.alloc _).alloc _
     ·exact((v.trans A.2).trans (OL _ _ _)).trans (OL _ _ _)
    case measure=>simp[intOf];omega
   ·go_wp2_with fail
    refine(ahc y s n gid _ J.out.1 J.out.2).mono ?_;rw[hd];rintro r w2 ⟨rfl,rfl⟩;go_wp2
    go_roundw
    case rel =>
     obtain⟨A,m,v,E,u⟩:=K.out;have d6:Y2 s n l[j]=true:=by rw[<-E];exact hd
     obtain⟨N,I⟩:=akM (junk:=x::d) hlt d6;refine⟨j+1,x::d++[l[j]],by rw[I,u],by simp,hlt,by rw[I,u];simp;omega,by simp,?_,?_⟩
     ·rw[N];exact(m.alloc _).alloc _
     ·exact(v.trans (OL _ _ _)).trans (OL _ _ _)
    case measure=>simp[intOf];omega
  ·obtain rfl:j=l.length:=by omega
   have f8:i<l.length:=by omega
   obtain⟨vs,g8⟩:=aqu (P:=MK) wr 41 211 0 #[yB 0,yB 0,yB 0,yB 0,M3 Nb,yB 0,yB 0] 7 rfl (by decide) (by decide) PK ara g (i*7) (l.length-i) (c-i) (by omega) (fun t O=>by
    have h1:=m.cellAt (i*7+t) (by omega);rw[h1,MR (by rw[abx XL,b3];omega)];rfl) (fun t _=>m.frozenAt _)
   have Q:=aqj vs (i*7) wr (aqi m (i:=i) (by omega)) (MV _);have H:(rv WX (Xr l s n (x::d) l.length)).take (i*7)=rv WX (awZ l s n):=by
    have e2:awZ (l.take l.length) s n=awZ l s n:=by rw[NT]
    rw[e2]at u;rw[ahF XL];unfold Xr;rw[e2,OC,ZqA (by omega),<-u,NT]
   rw[H]at Q;have b7:(awZ l s n).length=i:=by rw[<-u,NT]
   have K:M6 (_/\_/\_):=⟨Q,v,b7⟩;have d3:(i:Int)<(l.length:Int):=by omega
   have e9:(i:Int)<=(c:Int):=by omega
   have e8:c≠i:=by omega
   clear Q v m u H b7 Y Z;go_wp2;go_ret;obtain⟨r1,r2,r3⟩:=K.out;rw[r3];exact⟨rfl,r1.1,r2.trans r1.2⟩
section
variable {base:Nat}{w:MO}{g:Nat}{V:Vs}{G:Gt}
theorem alp(h:OR base w g V G)(hf:f∈G.fls)(hl:G.fls.length<=40):
  Ni MK 171 #[gP g,Ny #[yB f.slot,yB f.gen]] w fun r w'=>∃q c,r=MN (MG (MI ⟨q,0,MH⟩) (Yl G.fls f.slot f.gen).length c)/\w'.ownsRow w.heap.size 211 7 (MG (MI ⟨q,0,MH⟩) (Yl G.fls f.slot f.gen).length c) (Yl G.fls f.slot f.gen).length (rv WX (Yl G.fls f.slot f.gen))/\yA w w':=by
 have B:0<G.fls.length:=Qj hf;obtain⟨bf,O,_,R⟩:=h.bf B;obtain⟨W,d⟩:=yE (w.alloc (MP #[yB f.slot,yB f.gen] 134));have u:yA w W:=by rw[d];exact WQ w
 have D:W.heap[w.heap.size]?=MI (MP #[yB f.slot,yB f.gen] 134 (0,0)):=by rw[d];exact M1 _ _
 have x:W.heap.size=w.heap.size+1:=by rw[d];simp
 have C:=h.below u;have m:=C.GK;have K:=h.Gr;rw[O]at m K;have U:=h.lt;have Q:M6 _:=aoI ⟨bf,0,MH⟩ V.cf G.fls W m B (by omega);have v:∃t∈G.fls,Y2 f.slot f.gen t=true:=⟨f,hf,by simp[Y2]⟩;have H:M6 (_/\_/\_/\_):=⟨u,D,v,x⟩;clear h C m hf u D v x;go_enter azL,azC
 go_wp2_with fail
 rw[<-d];refine Nd Q.out ?_;rintro r w1 ⟨q,c,rfl,o,i⟩;have A:=WO H.out.2.1 i;obtain⟨E,F,_,_,J⟩:=Xa A;have M:=(o.lt q rfl).1;have N:=H.out.2.2.2;have e:=H.out.1;have a:M6 (_/\_/\_):=⟨aoX W.heap.size q c G.fls f.slot f.gen w.heap.size w1 o E F (by omega) H.out.2.2.1,e.trans (i.mono e.size),(by omega:w.heap.size<=q)⟩;clear o i A E F J M N e
 go_wp2_with fail
 refine Nd a.out.1 ?_;rintro r w2 ⟨rfl,y,z⟩;have I:M6 (_/\_):=⟨y.mono (by rw[H.out.2.2.2];exact Ps _),a.out.2.1.grown z a.out.2.1.size (fun k hk=>by rw[<-NC hk];exact a.out.2.2)⟩;clear y z;go_wp2;go_ret;exact⟨q,c,rfl,I.out.1,I.out.2⟩
end
section
variable {base:Nat}{w:MO}{g:Nat}{V:Vs}{G:Gt}
abbrev ahk(f:Fl):Obj:=MP #[yB f.slot,yB f.gen,yB f.key,yB f.be,M3 f.srv,yB f.ret,yB f.due] 211
theorem adZ{q:Nat}(h:W.heap[q]?=MI (ahk f)):W.cell? ⟨q,0,MH⟩=MI (yB f.slot)/\W.cell? ⟨q,1,MH⟩=MI (yB f.gen)/\W.cell? ⟨q,2,MH⟩=MI (yB f.key)/\W.cell? ⟨q,3,MH⟩=MI (yB f.be)/\W.cell? ⟨q,4,MH⟩=MI (M3 f.srv)/\W.cell? ⟨q,5,MH⟩=MI (yB f.ret)/\W.cell? ⟨q,6,MH⟩=MI (yB f.due)/\q<W.heap.size :=
 ⟨by rw[MW W _ 0 _ _ (0,0) h];rfl,by rw[MW W _ 1 _ _ (0,0) h];rfl,by rw[MW W _ 2 _ _ (0,0) h];rfl,by rw[MW W _ 3 _ _ (0,0) h];rfl,by rw[MW W _ 4 _ _ (0,0) h];rfl,by rw[MW W _ 5 _ _ (0,0) h];rfl,by rw[MW W _ 6 _ _ (0,0) h];rfl,(ZAa.1 h).1⟩
theorem adY(h:OR base w g V G)(hbs:Bs G)(hf:f∈G.fls)(hl:G.out.length<=900000)(kind why:Int):
  Ni MK 116 #[gP g,ZS f,yB kind,yB why] w (aam base w g V (Yg G f kind why)):=by
 have a9:=(hbs.F9 hf).1;have d7:=hbs.Gb;obtain⟨m,v⟩:=yE ((ZQ G.tab f.slot f.gen).1);have b0:(ZQ G.tab f.slot f.gen).2=0:=by rw[hbs.Hj hf]
 obtain⟨W,J⟩:=yE (w.alloc (ahk f));have hB:yA w W:=by rw[J];exact WQ w
 have x:W.heap[w.heap.size]?=MI (ahk f):=by rw[J];exact M1 _ _
 have o:=h.below hB;have a8:¬V.own g w.heap.size:=h.rest.new (MV _);have f9:w.heap.size<W.heap.size:=(ZAa.1 x).1;have i2:=h.lt;have i1:¬g=w.heap.size:=by omega
 have i0:¬w.heap.size=g:=by omega
 obtain⟨x0,x1,x2,x3,x4,x5,x6,_⟩:=adZ x;have g9:=o.Gs;have h8:=o.lt;have HD:M6 (∀W',yA W W'->Ni MK 170 #[Ny #[MG V.pt G.tab.length V.ct],Ny #[yB f.slot,yB f.gen]] W' fun r w'=>∃p c,r=MN (Nv #[Ny #[MG p m.length c],yB 0])/\w'.cell? ⟨g,17,MH⟩=MI (MG V.pt G.tab.length V.ct)/\w'.frozen? ⟨g,17,MH⟩=Nb/\g<w'.heap.size/\(w'.cell? ⟨w.heap.size,0,MH⟩=MI (yB f.slot)/\w'.cell? ⟨w.heap.size,1,MH⟩=MI (yB f.gen)) /\
   M6 (OR base (w'.setCell ⟨g,17,MH⟩ (MG p m.length c)) g {V with pt:=p,ct:=c} {G with tab:=m}/\WV V {V with pt:=p,ct:=c} g W (w'.setCell ⟨g,17,MH⟩ (MG p m.length c)))):=by
  refine fun W' hW'=>(auD (MG V.pt G.tab.length V.ct) G.tab f.slot f.gen W' (o.rest.tab.now.below hW')).mono ?_
  rw[<-v,b0];rintro r w' ⟨p,c,rfl,ho,u⟩;have A:yA W w':=hW'.trans (u.mono hW'.size);have i:=o.below A;have M:=adZ (WO x A);exact⟨p,c,rfl,i.Gs,i.fz 17,i.lt,⟨M.1,M.2.1⟩,o.Ix A (ho.mono hW'.size),((WV.F5 (V:=V) (g:=g) A).F4 17 _).Gp fun _ h=>h⟩
 have H:M6 (_/\_/\_/\_/\_/\_/\_):=⟨h,hB,x,a8,hf,v,hl⟩;have HX:M6 (_/\_):=⟨a9,d7⟩;clear h hbs hf a9 d7 hl v b0 hB x o a8 x2 x3 x4 x5 x6;go_enter Tryz.func116,Tryz.ntmps116
 go_wp2_with fail
 rw[<-J];clear J
 go_region_with (first|(go_at_call 170;refine(HD.out _ (by first|exact(MY _ _).drew|exact Below.refl _ _)).mono ?_;rintro r w3 ⟨p,c,rfl,h9,f8,d9,⟨y0,y1⟩,i⟩))
 all_goals
  obtain⟨K,N⟩:=yE (w3.setCell ⟨g,17,MH⟩ (MG p m.length c));have E:=i.out.1;have y:=i.out.2;rw[<-N]at E y;have Z:=y.Gf H.out.2.2.1 H.out.2.2.2.1;have a7:¬Vs.own {V with pt:=p,ct:=c} g w.heap.size:=H.out.2.2.2.1;have b5:=alp E (f:=f) H.out.2.2.2.2.1 HX.out.2;obtain⟨z0,z1,z2,z3,_,_,_,g8⟩:=adZ Z;have d:M6 (_/\_/\_/\_/\_):=⟨b5,E,(WV.F5 (V:=V) (g:=g) H.out.2.1).F0 y,Z,a7⟩;clear i E y Z b5 h9 f8 d9 y0 y1 x0 x1 g9 h8 f9 a7;rw[<-N];clear N
  go_wp2_with fail
  refine Nd d.out.1 ?_;rintro r w5 ⟨q,c5,rfl,Y,a⟩;have D:=d.out.2.1.below a;have g7:=D.Gr;have e9:=D.fz 18;have d8:=D.lt;obtain⟨w6,B⟩:=yE (w5.setCell ⟨g,18,MH⟩ (MG (MI ⟨q,0,MH⟩) (Yl G.fls f.slot f.gen).length c5));have R:=(Y.lt q rfl).1;have F:=d.out.2.1.IU (p:=MI ⟨q,0,MH⟩) (c:=c5) (m:=Yl G.fls f.slot f.gen) a.size (fun b u _=>a.block b u) (Y.mono d.out.2.1.base) (fun b e=>by cases e;exact NF R);rw[<-B]at F;have C:WV {V with pt:=p,ct:=c} {V with pt:=p,ct:=c,pf:=MI ⟨q,0,MH⟩,cf:=c5} g K w6:=by
   rw[B];have M:WV {V with pt:=p,ct:=c} {V with pt:=p,ct:=c,pf:=MI ⟨q,0,MH⟩,cf:=c5} g K w5:=by
    refine⟨a.os,a.tape,a.output,a.size,fun b u _=>a.block b u,fun b e=>?_⟩;rcases e with e|e|e|e
    ·exact Nt (Nt e)
    ·exact Nt (NF (Nt e))
    ·cases e;exact NF R
    ·exact Nt (NF (NF (NF e)))
   exact M.F4 18 _
  have b9:=C.Gf d.out.2.2.2.1 d.out.2.2.2.2;have b4:=C.Ik (ZAa.1 d.out.2.2.2.1).1 d.out.2.2.2.2;obtain⟨v0,v1,v2,v3,_,_,_,f7⟩:=adZ (WO d.out.2.2.2.1 a);have t:M6 (_/\_/\_/\_/\_):=⟨akg F HX.out.1,d.out.2.2.1.F0 C,b9,b4,F⟩;clear F C b9 b4 Y a D z0 z1 z2 z3 g8 R
  go_wp2_with fail
  rw[<-B];clear B g7 e9 d8;refine Nd t.out.1 ?_;rintro r w7 ⟨rfl,V7,O,b2,z⟩;have B7:M6 (V7.bh=V.bh):=b2.2.2;clear b2;have Q:=z.Gf t.out.2.2.1 t.out.2.2.2.1;have b6:=z.Ik (ZAa.1 t.out.2.2.1).1 t.out.2.2.2.1;obtain⟨k0,k1,k2,k3,_,_,_,e8⟩:=adZ Q;have d5:(aeG {G with tab:=m,fls:=Yl G.fls f.slot f.gen} f.slot).out.length<=1000000:=by show G.out.length<=1000000;have:=H.out.2.2.2.2.2.2;omega
  have I:M6 (_/\_/\_/\_/\_):=⟨aeR O d5 ⟨kind,f.slot,f.gen,f.be,0,0,why⟩,t.out.2.1.F0 z,Q,b6,O⟩;clear O z Q b6 v0 v1 v2 v3 f7 d5
  go_wp2_with fail
  refine Nd I.out.1 ?_;rintro r w8 ⟨rfl,V8,b3,d4,U⟩;have B8:M6 (V8.bh=V.bh):=d4.2.2.trans B7.out;clear d4;have d3:=U.Gf I.out.2.2.1 I.out.2.2.2.1;obtain⟨j0,j1,j2,j3,_,_,_,i3⟩:=adZ d3;have b8:(ZM (aeG {G with tab:=m,fls:=Yl G.fls f.slot f.gen} f.slot) ⟨kind,f.slot,f.gen,f.be,0,0,why⟩).out.length<=1000000:=by show(G.out++[_]).length<=1000000;have:=H.out.2.2.2.2.2.2;simp;omega
  have H8:M6 (_/\_):=⟨ahg b3 b8 f.be,I.out.2.1.F0 U⟩;clear b3 U d3 k0 k1 k2 k3 e8 b8
  go_wp2_with fail
  refine Nd H8.out.1 ?_;rintro r w9 ⟨rfl,V9,d2,b7,d6⟩;have H9:M6 (_/\_/\_):=⟨d2,H8.out.2.F0 d6,b7.2.2.trans B8.out⟩;clear d2 d6 b7;go_wp2
  go_end0
  have v:=H.out.2.2.2.2.2.1;subst v;exact⟨rfl,V9,H9.out.1,H9.out.2.2,H9.out.2.1⟩
end
end
section
variable {b key:Int}{i k:Nat}
section
variable {base:Nat}{w:MO}{g:Nat}{V:Vs}{G:Gt}
theorem OR.G5(h:OR base w g V G)(hi:i<12):
  ∃m x,V.ms[i]?=MI m/\G.hea[i]?=MI x/\G.hea.getD i XM=x/\w.cell? ⟨V.bh,i*4,MH⟩=MI (MG m.1 x.marks.length m.2)/\w.cell? ⟨V.bh,i*4+1,MH⟩=MI (M3 x.out)/\w.cell? ⟨V.bh,i*4+2,MH⟩=MI (yB x.till)/\w.cell? ⟨V.bh,i*4+3,MH⟩=MI (yB x.times)/\(∀j,w.frozen? ⟨V.bh,j,MH⟩=Nb)/\V.bh<w.heap.size:=by
 obtain⟨m,x,f,n,e,d⟩:=akN h.rest hi;obtain⟨l,c⟩:=ZAb.1 e;have o:(12:Nat)=(V.ms.zip G.hea).length:=by rw[Qn,h.rest.msl,h.rest.hel];rfl
 have a:=fun j (hj:j<4)=>abU aci h.rest.hea o l hj
 simp only[c]at a;exact⟨m,x,f,n,d,(a 0 (by omega)).trans rfl,(a 1 (by omega)).trans rfl,(a 2 (by omega)).trans rfl,(a 3 (by omega)).trans rfl,fun j=>h.rest.hea.frozenAt j,(h.rest.hea.lt V.bh rfl).2⟩
theorem OR.G8(h:OR base w g V G):12<=V.ch/\V.ch<=9223372036854775807:=by
 rcases h.rest.hea.2 with⟨a,_⟩|⟨j,f,e,a,_,_,d,c,_⟩
 ·cases a
 ·cases a
  unfold NE at c;exact⟨d,c⟩
theorem aq4(h:OR base w g V G)(hbs:Bs G){l:awV}(hl:l∈G.liv) :
  Ni MK 220 #[gP g,abR l] w fun r w'=>r=MN (yB (abV G l))/\yA w w':=by
 obtain⟨K,u,c,a,s,t⟩:=l;have R:=(hbs.lf hl).1;have B:=hbs.since _ hl;have L:=hbs.now;have o:=hbs.cfg.2.2.2.2.1;obtain⟨⟨f,n⟩,⟨y,A⟩,⟨D,C⟩,_⟩:=R;have f:0<=K:=f;have n:K<=11:=n;obtain⟨k,rfl⟩:=NL f;obtain⟨W,e⟩:=yE (w.alloc (YQ ((k:Int),u,c,a,s,t)));have p:yA w W:=by rw[e];exact WQ w
 have j:W.heap[w.heap.size]?=MI (YQ ((k:Int),u,c,a,s,t)):=by rw[e];exact M1 _ _
 have d:=h.below p;obtain⟨m,x,_,_,E,_,q,_,_,_,M⟩:=d.G5 (i:=k) (by omega);have Q:W.cell? ⟨w.heap.size,0,MH⟩=MI (yB (k:Int)):=by rw[MW W _ 0 _ _ (0,0) j];rfl
 have F:W.cell? ⟨w.heap.size,2,MH⟩=MI (yB c):=by rw[MW W _ 2 _ _ (0,0) j];rfl
 have I:W.cell? ⟨w.heap.size,3,MH⟩=MI (yB a):=by rw[MW W _ 3 _ _ (0,0) j];rfl
 have O:=d.GI;have z:=d.Gm;have c4:=d.c4;have P:=d.lt;have Y:=h.G8;have U:(k:Int)<12:=by omega
 have Z:(0:Int)<=(k:Int):=by omega
 obtain⟨J,N⟩:=yE G.now;have v:abV G ((k:Int),u,c,a,s,t)=if x.out=Nw then 0 else aw1 c (G.now-a) G.cfg.warm:=by
  unfold abV;simp only[NR];rw[E]
 have T:M6 (∀W':MO,Ni MK 274 #[yB c,yB a,yB G.now,yB G.cfg.warm] W' fun r w'=>r=MN (Nv #[yB (aw1 c (G.now-a) G.cfg.warm),yB 0])/\w'=W'):=fun W' =>
  auu c a G.now G.cfg.warm W' y A ⟨D,C,o.1,o.2⟩ B (by omega)
 have H:M6 (_/\_):=⟨p,v⟩;clear h hbs hl B L o f n y A D C p j d E v N;cases ho:x.out
 ·rw[H.out.2,ho,Nf (by decide)]
  rw[ho]at q;go_enter Uh,T7
  go_wp2_with fail
  rw[<-e];clear e
  go_quiet (fail)
  have z2:(W.drewN nq).cell? ⟨w.heap.size,2,MH⟩=MI (yB c):=F;have z3:(W.drewN nq).cell? ⟨w.heap.size,3,MH⟩=MI (yB a):=I;have a0:(W.drewN nq).cell? ⟨g,16,MH⟩=MI (yB G.now):=z;have z4:(W.drewN nq).cell? ⟨g,4,MH⟩=MI (yB G.cfg.warm):=c4;have S:M6 _:=ZE H.out.1 nq;generalize W.drewN nq=W1 at *;clear Q F I z c4 O q P M
  go_wp2_with fail
  go_quiet ((go_at_call 274;exact Qe ((T.out _).mono fun r w' h=>⟨h.1,0,h.2⟩)))
  go_wp2;go_ret;exact⟨rfl,ZE S.out _⟩
 ·rw[H.out.2,ho,Nh rfl]
  rw[ho]at q;go_enter Uh,T7
  go_wp2_with fail
  rw[<-e];clear e
  go_quiet (fail)
  go_wp2;go_ret;exact⟨rfl,ZE H.out.1 _⟩
end
section
variable {base:Nat}{w:MO}{g:Nat}{V:Vs}{G:Gt}
theorem aoj(L:List awV)(x:awV):abN (L++[x])=abN L+if x.2.1=2 then 1 else 0:=by
 unfold abN;rw[Qi]
 by_cases h:x.2.1=2 <;> simp[h]
theorem aqg(L:List awV)(x:awV)(H:List He):abf (L++[x]) H=abf L H+if x.2.1=2/\(H.getD x.1.toNat XM).out=Nw then 1 else 0:=by
 unfold abf;rw[Qi,List.countP_singleton];generalize H.getD x.1.toNat XM=y
 by_cases h:x.2.1=2
 ·cases h2:y.out <;> simp[h]
 ·have:(x.2.1 == 2)=false:=by rw[Oh];exact h
  simp[h,this]
theorem aoi(L:List awV):abN L<=L.length:=List.countP_le_length
theorem aqf(L:List awV)(H:List He):abf L H<=L.length:=List.countP_le_length
theorem ap5(h:OR base w g V G)(hbs:Bs G)(b:Int) :
  Ni MK 234 #[gP g,yB b] w fun r w'=>r=MN (M3 (abS G b))/\yA w w':=by
 have d0:=hbs.book.1.1;have a9:=h.Gn;have d7:=h.lt;have d2:=h.G8;obtain⟨al,d8,b0,b4,a7,a4⟩:=adt.F6 h.rest.book.now.1;injection b0 with el1 _ el3;unfold NE at a7;rw[el1,el3]at a9;obtain⟨N,Z⟩:=yE (abS G b);rw[<-Z];have H:M6 (_/\_/\_):=⟨h,hbs,a4⟩;have HN:M6 _:=Z;clear h hbs a4 el1 el3 Z;go_enter TA,Tz;go_wp2
 go_loopw [5,6,18] (fun s5 s6 t wr=>∃k:Nat,s5=yB (abN (G.liv.take k):Nat)/\s6=yB (abf (G.liv.take k) G.hea:Nat)/\t=yB k/\k<=G.liv.length/\yA w wr) (fun _ _ t _=>G.liv.length-(intOf t).toNat)
 case atStart=>exact⟨0,rfl,rfl,rfl,Nx _,MY _ _⟩
 case round =>
  obtain⟨k,rfl,rfl,rfl,hk,a⟩:=hrel
  by_cases hlt:k<G.liv.length
  ·obtain⟨l,v,a8,d,B,J,F,I,C,D⟩:=H.out.2.2 k hlt
   subst a8;have j:=(H.out.2.1.lf (Nk hlt)).1.1;have M:G.liv.take (k+1)=G.liv.take k++[G.liv[k]]:=M9 hlt;have f:=aoj (G.liv.take k) G.liv[k];have e:=aqg (G.liv.take k) G.liv[k] G.hea;rw[<-M]at f e;have a3:=aoi (G.liv.take k);have a6:=aqf (G.liv.take k) G.hea;rw[NH]at a3 a6;obtain⟨⟨x1,x2,Y,T,U,S⟩,R⟩:∃x,x=G.liv[k]:=⟨_,rfl⟩;rw[<-R]at B J F I C D j f e;have j:0<=x1/\x1<=11:=j;obtain⟨n,rfl⟩:=NL j.1;have b9:(n:Int)<12:=by omega
   have f0:(0:Int)<=(n:Int):=by omega
   obtain⟨E,Q⟩:=yE (abN (G.liv.take k));obtain⟨q,K⟩:=yE (abf (G.liv.take k) G.hea);rw[<-Q]at f a3⊢;rw[<-K]at e a6⊢;have b3:IntKind.i64.wrap ((E:Int)+1)=(E:Int)+1:=by rw[Ow];omega
   have b7:IntKind.i64.wrap ((q:Int)+1)=(q:Int)+1:=by rw[Ow];omega
   have e0:=(a.cell (p:=⟨l,v+k*6,MH⟩) d).trans B;have e1:=(a.cell (p:=⟨l,v+k*6+1,MH⟩) d).trans J;have e2:=(a.cell (p:=⟨l,v+k*6+2,MH⟩) d).trans F;have e3:=(a.cell (p:=⟨l,v+k*6+3,MH⟩) d).trans I;have e4:=(a.cell (p:=⟨l,v+k*6+4,MH⟩) d).trans C;have e5:=(a.cell (p:=⟨l,v+k*6+5,MH⟩) d).trans D;have b8:l<wr.heap.size:=M8 d a.size;have e8:(k:Int)<(G.liv.length:Int):=by omega
   by_cases h2:x2=2
   ·subst h2
    obtain⟨s,u⟩:=yE (wr.alloc (YQ ((n:Int),2,Y,T,U,S)));have A:yA wr s:=by rw[u];exact WQ wr
    have P:s.heap[wr.heap.size]?=MI (YQ ((n:Int),2,Y,T,U,S)):=by rw[u];exact M1 _ _
    have z:=(H.out.1.below a).below A;obtain⟨m,x,_,_,f4,_,q1,_,_,_,d1⟩:=z.G5 (i:=n) (by omega);have y0:s.cell? ⟨wr.heap.size,0,MH⟩=MI (yB (n:Int)):=by rw[MW s _ 0 _ _ (0,0) P];rfl
    have d3:=z.GI;have b6:=z.lt;have e9:wr.heap.size<s.heap.size:=(ZAa.1 P).1;have a0:(G.hea.getD ((n:Int),(2:Int),Y,T,U,S).1.toNat XM).out=x.out:=by rw[<-f4];rfl
    rw[a0]at e;cases ho:x.out
    ·rw[ho]at q1
     have c:M6 (_/\_/\_):=⟨f,(by rw[e,ho,Nf (by simp)];rfl:abf (G.liv.take (k+1)) G.hea=q),a.trans (A.mono a.size)⟩;clear a A P z f4 a0 f e M R B J F I C D j Q K d
     go_wp2_with fail
     rw[<-u];clear u
     go_quiet (fail)
     go_wp2
     go_roundw
     case rel=>exact⟨k+1,by rw[c.out.1];rfl,by rw[c.out.2.1],by simp,hlt,ZE c.out.2.2 _⟩
     case measure=>simp[intOf];omega
    ·rw[ho]at q1
     have c:M6 (_/\_/\_):=⟨f,(by rw[e,ho,Nh ⟨rfl,rfl⟩]:abf (G.liv.take (k+1)) G.hea=q+1),a.trans (A.mono a.size)⟩;clear a A P z f4 a0 f e M R B J F I C D j Q K d
     go_wp2_with fail
     rw[<-u];clear u
     go_quiet (fail)
     go_wp2
     go_roundw
     case rel=>exact⟨k+1,by rw[c.out.1];rfl,by rw[c.out.2.1];rfl,by simp,hlt,ZE c.out.2.2 _⟩
     case measure=>simp[intOf];omega
   ·have d5:(x2 != 2)=true:=by simpa using h2
    have c:M6 (_/\_/\_):=⟨(by rw[f,Nf h2];rfl:abN (G.liv.take (k+1))=E),(by rw[e,Nf (fun h=>h2 h.1)];rfl:abf (G.liv.take (k+1)) G.hea=q),a.trans ((WQ wr (o:=YQ ((n:Int),x2,Y,T,U,S))).mono a.size)⟩;clear a f e M R B J F I C D j Q K d;go_wp2
    go_roundw
    case rel=>exact⟨k+1,by rw[c.out.1],by rw[c.out.2.1],by simp,hlt,c.out.2.2⟩
    case measure=>simp[intOf];omega
  ·obtain rfl:k=G.liv.length:=by omega
   rw[NT];have b5:¬((G.liv.length:Int)<(G.liv.length:Int)):=by omega
   obtain⟨O,hO⟩:=yE (acP (abf G.liv G.hea:Int) (abN G.liv:Int) G.cfg.most);have HA:M6 (∀X:MO,Ni MK 283 #[yB (abf G.liv G.hea:Int),yB (abN G.liv:Int),yB G.cfg.most] X fun r w'=>r=MN (Nv #[M3 O.1,yB O.2])/\w'=X):=by
    rw[hO];exact fun X=>arw _ _ _ X
   have L:=H.out.1.below a;have d9:=L.c9;have b2:=L.lt;obtain⟨x,hx⟩:=yE (WS G.liv b);have y:M6 (_/\_):=⟨afR L b,a⟩;rw[<-hx]at y;have HE:M6 (N=(O.1 && (x.2.1 == 2))):=by show N=_;rw[HN.out];unfold abS;rw[<-hO,hx]
   clear L hO hx;have d4:∀X:MO,(Instr.field 214 (abR x) 1).run MK X=.ok (yB x.2.1) X:=fun X=>by kernel_rfl
   cases hO1:O.1
   ·go_wp2_with fail
    refine(HA.out _).mono ?_;rw[hO1];rintro r w3 ⟨rfl,rfl⟩;go_wp2;go_ret;exact⟨by rw[HE.out,hO1];rfl,y.out.2⟩
   ·go_wp2_with fail
    refine(HA.out _).mono ?_;rw[hO1];rintro r w3 ⟨rfl,rfl⟩
    go_wp2_with fail
    refine Nd y.out.1 ?_;rintro r w4 ⟨rfl,a5⟩;have HB:M6 _:=y.out.2.trans (a5.mono y.out.2.size);clear a5;go_wp2;go_ret;exact⟨by rw[HE.out,hO1];rfl,HB.out⟩
abbrev abQ(p:Option Oc)(c:Nat)(x:He):Value:=Ny #[MG p x.marks.length c,M3 x.out,yB x.till,yB x.times]
theorem OR.Hz(h:OR base w g V G){w':MO}(hb:yA w w')(i:Nat)(a b c d:M7)(ms:List Mk) :
  WV V {V with ms:=ms} g w ((((w'.setCell ⟨V.bh,i*4,MH⟩ a).setCell ⟨V.bh,i*4+1,MH⟩ b).setCell ⟨V.bh,i*4+2,MH⟩ c).setCell ⟨V.bh,i*4+3,MH⟩ d):=by
 refine⟨hb.os,hb.tape,hb.output,by simpa using hb.size,fun k hk hn=>?_,fun _ h=>Nt h⟩;have f:k≠V.bh:=fun e=>hn (NF (Nt e))
 rw[MU _ _ _ _ f,MU _ _ _ _ f,MU _ _ _ _ f,MU _ _ _ _ f];exact hb.block k hk
theorem akO(h:OR base w g V G)(hbs:Bs G)(hb:0<=b/\b<12)(fl:Bool):
  Ni MK 172 #[gP g,yB b,M3 fl] w (aaa base w g V (Yh G b fl)):=by
 obtain⟨k,rfl⟩:=NL hb.1;have I:k<12:=by omega
 obtain⟨m,x,H,v,F,Y,q1,T,q3,J,n⟩:=h.G5 I;have C:=h.rest.marks k m x H v;have D:=hbs.hea x (Nu v);have R:x.marks.length<=16:=by have:=D.1;have:=hbs.Gx.1.2;omega
 obtain⟨y,A⟩:=yE (afT G (k:Int) fl);have t:y=afO (Zt G.cfg.wn G.cfg.wf G.cfg.wh x.marks x.out x.till x.times fl G.now (abS G k)).1:=by
  rw[A];unfold afT;rw[NR,F]
 have B:Yh G (k:Int) fl={G with hea:=G.hea.set k y}:=by unfold Yh;rw[NR,A]
 rw[B];have b9:=h.GI;have b2:=h.lt;have a6:=h.G8;have a8:¬g=V.bh:=fun e=>h.rest.hg e.symm
 have a0:¬V.bh=g:=h.rest.hg;have b5:(k:Int)<12:=by omega
 have d1:(0:Int)<=(k:Int):=by omega
 have b4:=h.GS;have a3:=h.GU;have d2:=h.GO;have a5:=h.Gm;have q:∀ {X:MO},OR base X g V G->X.cell? ⟨g,13,MH⟩=MI (yB G.cfg.wn)/\X.cell? ⟨g,14,MH⟩=MI (yB G.cfg.wf)/\X.cell? ⟨g,15,MH⟩=MI (yB G.cfg.wh)/\X.cell? ⟨g,16,MH⟩=MI (yB G.now):=fun {X} hX=>⟨hX.GS,hX.GU,hX.GO,hX.Gm⟩
 have u:∀ {X:MO},yA w X->X.cell? ⟨V.bh,k*4,MH⟩=MI (MG m.1 x.marks.length m.2)/\X.cell? ⟨V.bh,k*4+1,MH⟩=MI (M3 x.out)/\X.cell? ⟨V.bh,k*4+2,MH⟩=MI (yB x.till)/\X.cell? ⟨V.bh,k*4+3,MH⟩=MI (yB x.times)/\(∀j,X.frozen? ⟨V.bh,j,MH⟩=Nb)/\V.bh<X.heap.size:=fun {X} hX =>
  ⟨(hX.cell n).trans Y,(hX.cell n).trans q1,(hX.cell n).trans T,(hX.cell n).trans q3,fun j=>(OM (a:=⟨V.bh,j,MH⟩) (hX.block V.bh n)).trans (J j),M8 n hX.size⟩
 have U:M6 (∀X,yA w X->Ni MK 234 #[gP g,yB (k:Int)] X fun r d=>r=MN (M3 (abS G k))/\(d.cell? ⟨g,13,MH⟩=MI (yB G.cfg.wn)/\d.cell? ⟨g,14,MH⟩=MI (yB G.cfg.wf)/\d.cell? ⟨g,15,MH⟩=MI (yB G.cfg.wh)/\d.cell? ⟨g,16,MH⟩=MI (yB G.now))/\(d.cell? ⟨V.bh,k*4,MH⟩=MI (MG m.1 x.marks.length m.2)/\d.cell? ⟨V.bh,k*4+1,MH⟩=MI (M3 x.out)/\d.cell? ⟨V.bh,k*4+2,MH⟩=MI (yB x.till)/\d.cell? ⟨V.bh,k*4+3,MH⟩=MI (yB x.times))/\M6 (yA w d)):=by
  refine fun X hX=>(ap5 (h.below hX) hbs (k:Int)).mono ?_
  rintro r d ⟨rfl,s⟩;have l:=hX.trans (s.mono hX.size);have f:=u l;exact⟨rfl,q (h.below l),⟨f.1,f.2.1,f.2.2.1,f.2.2.2.1⟩,l⟩
 have HN:M6 (∀X,yA w X->Ni MK 233 #[Ny #[yB G.cfg.wn,yB G.cfg.wf,yB G.cfg.wh],abQ m.1 m.2 x,M3 fl,yB G.now,M3 (abS G k)] X fun r d=>∃p c K L,r=MN (Nv #[abQ p c y,M3 K,yB L])/\(d.cell? ⟨g,13,MH⟩=MI (yB G.cfg.wn)/\d.cell? ⟨g,14,MH⟩=MI (yB G.cfg.wf)/\d.cell? ⟨g,15,MH⟩=MI (yB G.cfg.wh)/\d.cell? ⟨g,16,MH⟩=MI (yB G.now)) /\
   (((((d.setCell ⟨V.bh,k*4,MH⟩ (MG p y.marks.length c)).setCell ⟨V.bh,k*4+1,MH⟩ (M3 y.out)).setCell ⟨V.bh,k*4+2,MH⟩ (yB y.till)).setCell ⟨V.bh,k*4+3,MH⟩ (yB y.times)).cell? ⟨g,13,MH⟩=MI (yB G.cfg.wn)/\((((d.setCell ⟨V.bh,k*4,MH⟩ (MG p y.marks.length c)).setCell ⟨V.bh,k*4+1,MH⟩ (M3 y.out)).setCell ⟨V.bh,k*4+2,MH⟩ (yB y.till)).setCell ⟨V.bh,k*4+3,MH⟩ (yB y.times)).cell? ⟨g,14,MH⟩=MI (yB G.cfg.wf)/\((((d.setCell ⟨V.bh,k*4,MH⟩ (MG p y.marks.length c)).setCell ⟨V.bh,k*4+1,MH⟩ (M3 y.out)).setCell ⟨V.bh,k*4+2,MH⟩ (yB y.till)).setCell ⟨V.bh,k*4+3,MH⟩ (yB y.times)).cell? ⟨g,15,MH⟩=MI (yB G.cfg.wh)/\((((d.setCell ⟨V.bh,k*4,MH⟩ (MG p y.marks.length c)).setCell ⟨V.bh,k*4+1,MH⟩ (M3 y.out)).setCell ⟨V.bh,k*4+2,MH⟩ (yB y.till)).setCell ⟨V.bh,k*4+3,MH⟩ (yB y.times)).cell? ⟨g,16,MH⟩=MI (yB G.now)) /\
   (d.cell? ⟨V.bh,k*4,MH⟩=MI (MG m.1 x.marks.length m.2)/\d.cell? ⟨V.bh,k*4+1,MH⟩=MI (M3 x.out)/\d.cell? ⟨V.bh,k*4+2,MH⟩=MI (yB x.till)/\d.cell? ⟨V.bh,k*4+3,MH⟩=MI (yB x.times)/\d.frozen? ⟨V.bh,k*4,MH⟩=Nb/\d.frozen? ⟨V.bh,k*4+1,MH⟩=Nb/\d.frozen? ⟨V.bh,k*4+2,MH⟩=Nb/\d.frozen? ⟨V.bh,k*4+3,MH⟩=Nb/\V.bh<d.heap.size) /\
   M6 (OR base ((((d.setCell ⟨V.bh,k*4,MH⟩ (MG p y.marks.length c)).setCell ⟨V.bh,k*4+1,MH⟩ (M3 y.out)).setCell ⟨V.bh,k*4+2,MH⟩ (yB y.till)).setCell ⟨V.bh,k*4+3,MH⟩ (yB y.times)) g {V with ms:=V.ms.set k (p,c)} {G with hea:=G.hea.set k y}/\WV V {V with ms:=V.ms.set k (p,c)} g w ((((d.setCell ⟨V.bh,k*4,MH⟩ (MG p y.marks.length c)).setCell ⟨V.bh,k*4+1,MH⟩ (M3 y.out)).setCell ⟨V.bh,k*4+2,MH⟩ (yB y.till)).setCell ⟨V.bh,k*4+3,MH⟩ (yB y.times)))):=by
  refine fun X hX=>(arI G.cfg.wn G.cfg.wf G.cfg.wh (MG m.1 x.marks.length m.2) x.marks x.out x.till x.times fl G.now (abS G k) X (C.below hX).now (by omega)).mono ?_
  rintro r d ⟨p,c,rfl,O,N,s⟩;have l:=hX.trans (s.mono hX.size);have f:=u l;have E:=h.below l;have P:XG (V.off base g) d fun Z=>Yo Z (MG p y.marks.length c) y.marks:=by
   rw[t];exact abt O (fun z e=>h.rest.GF (Nm hX.size (N z (by rw[XV];exact e))))
  have o:=E.Ir I P;refine⟨p,c,(Zt G.cfg.wn G.cfg.wf G.cfg.wh x.marks x.out x.till x.times fl G.now (abS G k)).2.1,(Zt G.cfg.wn G.cfg.wf G.cfg.wh x.marks x.out x.till x.times fl G.now (abS G k)).2.2,by rw[t];rfl,q E,⟨o.GS,o.GU,o.GO,o.Gm⟩,⟨f.1,f.2.1,f.2.2.1,f.2.2.2.1,f.2.2.2.2.1 _,f.2.2.2.2.1 _,f.2.2.2.2.1 _,f.2.2.2.2.1 _,f.2.2.2.2.2⟩,o,h.Hz l k _ _ _ _ _⟩
 have Q:=q h;clear h hbs C D R A t B H v F q u J hb;go_enter Tryz.func172,Tryz.ntmps172
 go_wp2_with fail
 obtain⟨a7,d0,b8,b7⟩:=Q
 go_region_with (first|(go_at_call 234;refine(U.out _ (by first|exact(MY _ _).drew|exact Below.refl _ _)).mono ?_;rintro r w4 ⟨rfl,⟨b6,a9,b0,b3⟩,⟨t0,t1,t2,t3⟩,S⟩)|(go_at_call 233;refine(HN.out _ S.out).mono ?_;rintro r w5 ⟨p,c,K,L,rfl,_,_,⟨u0,u1,u2,u3,v0,v1,v2,v3,a4⟩,M⟩))
 all_goals
  go_wp2
  go_end0
  exact⟨rfl,_,M.out.1,⟨rfl,rfl,rfl⟩,M.out.2⟩
end
section
variable {base:Nat}{w:MO}{g:Nat}{V:Vs}{G:Gt}
abbrev adU(X:MO)(bf i:Nat)(f:Fl):Prop:=X.cell? ⟨bf,i*7,MH⟩=MI (yB f.slot)/\X.cell? ⟨bf,i*7+1,MH⟩=MI (yB f.gen)/\X.cell? ⟨bf,i*7+2,MH⟩=MI (yB f.key)/\X.cell? ⟨bf,i*7+3,MH⟩=MI (yB f.be)/\X.cell? ⟨bf,i*7+4,MH⟩=MI (M3 f.srv)/\X.cell? ⟨bf,i*7+5,MH⟩=MI (yB f.ret)/\X.cell? ⟨bf,i*7+6,MH⟩=MI (yB f.due)
theorem OR.Gw(h:OR base w g V G){bf:Nat}(hp:V.pf=MI ⟨bf,0,MH⟩)(hi:i<G.fls.length):adU w bf i (Xs G i):=by
 rw[XA hi];exact h.Gl hp hi
theorem akq{G1 G2:Gt}{y:Fl}(h:G2=Y4 G1 i y)(hi:i<G1.fls.length):∃hi2:i<G2.fls.length,G2.fls[i]=y:=by
 subst h;exact⟨by show i<(G1.fls.set i y).length;rw[NA];exact hi,NW (h:=by rw[NA];exact hi)⟩
theorem akp{G1 G:Gt}{f:Fl}(h:G1.fls=G.fls)(hi:i<G.fls.length)(hf:f=Xs G i):∃hi1:i<G1.fls.length,G1.fls[i]=f:=by
 have hi1:i<G1.fls.length:=by rw[h];exact hi
 refine⟨hi1,?_⟩;rw[<-XA hi1,hf];unfold Xs;rw[h]
theorem ahP(i:Nat)(n:Int):(YW G i n).fls.length=G.fls.length:=by
 show(G.fls.set i _).length=_;rw[NA]
theorem ao4(h:OR base w g V G)(hbs:Bs G)(hw:G.wnow=G.now)(hl:G.out.length<=900000)(hi:i<G.fls.length){bf:Nat}(hp:V.pf=MI ⟨bf,0,MH⟩):
  Ni MK 117 #[gP g,fP bf i] w (aam base w g V (aaZ G i)):=by
 obtain⟨O,a⟩:=yE (aaZ G i);rw[<-a];unfold aaZ at a;obtain⟨f,p⟩:=yE (Xs G i);have E:=h.Gw hp hi;rw[<-p]at a E;have q:0<=G.fls[i].slot/\G.fls[i].slot<40:=(hbs.F9 (Nk hi)).1;obtain⟨K,N,I,P,u,M,J⟩:=E;have Q:=h.lt;cases hsv:f.srv
 ·rw[hsv,Nf (by decide)]at a
  simp only[]at a;rw[<-p]at a;have H:M6 (_/\_):=⟨aeP h (by omega) 3 f,a⟩;rw[hsv]at u;clear h hbs a p hw hl q;go_enter Tryz.func117,Tryz.ntmps117
  go_wp2_with fail
  have F:ZS f=Ny #[yB f.slot,yB f.gen,yB f.key,yB f.be,M3 Nb,yB f.ret,yB f.due]:=by rw[<-hsv]
  have C:=H.out.1;rw[F]at C;refine Nd C ?_;rintro r L ⟨rfl,y,j,l,e⟩;have d:M6 (_/\_/\_):=⟨j,l.2.2,e⟩;clear j l e;go_wp2
  go_end0
  rw[H.out.2];exact⟨rfl,y,d.out.1,d.out.2.1,d.out.2.2⟩
 ·rw[hsv,Nh rfl]at a
  simp only[]at a;have c6:=h.c6;rw[hsv]at u;obtain⟨m,c⟩:=yE (YW G i G.cfg.idle);have v:=af2 h hi hp (n:=G.cfg.idle) hbs.idle q hw hbs.now;rw[<-c]at a v;have z:i<m.fls.length:=by rw[c,ahP];exact hi
  have B:m.out.length<=1000000:=by rw[c];show G.out.length<=1000000;omega
  have H:M6 (_/\_/\_/\_/\_):=⟨v,a,z,B,hp⟩;clear h hbs a p hw hl q v c z B hp hi;go_enter Tryz.func117,Tryz.ntmps117
  go_wp2_with fail
  refine Nd H.out.1 ?_;rintro r w1 ⟨rfl,R,c,t,A⟩;obtain⟨x,s⟩:=yE (Xs m i);have D:=c.Gw (t.1.trans H.out.2.2.2.2) H.out.2.2.1;rw[<-s]at D;obtain⟨S,T,x2,Z,U,Y,x6⟩:=D;have o:M6 (_/\_/\_/\_):=⟨aeP c H.out.2.2.2.1 3 x,t.2.2,A,s⟩;clear c t A s K N I P u M J c6
  go_wp2_with fail
  refine Nd o.out.1 ?_;rintro r L ⟨rfl,y,j,l,e⟩;have d:M6 (_/\_/\_):=⟨j,l.2.2.trans o.out.2.1,o.out.2.2.1.F0 e⟩;clear j l e;go_wp2
  go_end0
  rw[H.out.2.1,<-o.out.2.2.2];exact⟨rfl,y,d.out.1,d.out.2.1,d.out.2.2⟩
theorem aqy(h:OR base w g V G)(hbs:Bs G)(hw:G.wnow=G.now)(hl:G.out.length<=900000)(hi:i<G.fls.length){bf:Nat}(hp:V.pf=MI ⟨bf,0,MH⟩):
  Ni MK 118 #[gP g,fP bf i] w (aam base w g V (abh G i)):=by
 obtain⟨O,o⟩:=yE (abh G i);rw[<-o];unfold abh at o;simp only[]at o;obtain⟨f,J⟩:=yE (Xs G i);have M:f∈G.fls:=by rw[J,XA hi];exact Nk hi
 have B:=hbs.F9 M;obtain⟨q0,q1,q2,q3,q4,q5,q6⟩:=h.Gw hp hi;rw[<-J]at o q0 q1 q2 q3 q4 q5 q6;have b9:=h.lt;obtain⟨m,a⟩:=yE (Yh G f.be false);have Y:=akO h hbs B.2.2.2 Nb;have L:=hbs.GA B.2.2.2 Nb;rw[<-a]at o Y L;have a6:m.fls=G.fls/\m.cfg=G.cfg/\m.now=G.now/\m.wnow=G.wnow/\m.out=G.out:=by rw[a];exact⟨rfl,rfl,rfl,rfl,rfl⟩
 have H:M6 (_/\_/\_/\_/\_/\_/\_/\_):=⟨Y,o,L,a6,hp,hi,J,M⟩;have x:M6 (_/\_/\_/\_):=⟨hbs,hw,hl,B⟩;clear h hbs o J hw hl B Y a a6 L hp hi M;go_enter Tryz.func118,Tryz.ntmps118
 go_wp2_with fail
 refine Nd H.out.1 ?_;rintro r s ⟨rfl,F,a,T,a9⟩;have d:F.pf=MI ⟨bf,0,MH⟩:=T.1.trans H.out.2.2.2.2.1;obtain⟨D,N⟩:=akp H.out.2.2.2.1.1 H.out.2.2.2.2.2.1 H.out.2.2.2.2.2.2.1;obtain⟨y,K⟩:∃y:Fl,y={f with srv:=Nw}:=⟨_,rfl⟩;obtain⟨u0,u1,u2,u3,u4,u5,u6⟩:=a.Gl d D;rw[N]at u4;have b6:=a.Hv d (i*7+4);have Q:=a.Hd d D (j:=4) (by omega) (M3 Nw) y (by rw[N,K];rfl);obtain⟨z,C⟩:=yE (s.setCell ⟨bf,i*7+4,MH⟩ (M3 Nw));rw[<-C]at Q;have a3:WV F F g s z:=by
  rw[C];exact⟨rfl,rfl,rfl,by simp,fun b _ hn=>MU s ⟨bf,i*7+4,MH⟩ _ b fun e=>hn (NF (NF (Nt (by rw[d,e];rfl)))),fun _ h=>Nt h⟩
 obtain⟨c,u⟩:=yE (Y4 m i y);have A:OR base z g F c:=by rw[u];exact Q
 obtain⟨S,a4⟩:=akq u D;have p:c.cfg=G.cfg/\c.now=G.now/\c.wnow=G.wnow/\c.out=G.out:=by rw[u];exact⟨H.out.2.2.2.1.2.1,H.out.2.2.2.1.2.2.1,H.out.2.2.2.1.2.2.2.1,H.out.2.2.2.1.2.2.2.2⟩
 have b2:0<=c.fls[i].slot/\c.fls[i].slot<40:=by rw[a4,K];exact x.out.2.2.2.1
 have e6:z.cell? ⟨g,6,MH⟩=MI (yB G.cfg.idle):=by rw[<-p.1];exact A.c6
 have b8:=A.lt;have HW:=af2 A S d (n:=G.cfg.idle) x.out.1.idle b2 (by rw[p.2.2.1,p.2.1];exact x.out.2.1) (by rw[p.2.1];exact x.out.1.now);have b3:=a.lt;have d6:s.cell? ⟨g,6,MH⟩=MI (yB G.cfg.idle):=by rw[<-H.out.2.2.2.1.2.1];exact a.c6
 have b4:bf<s.heap.size:=MX s ⟨bf,i*7,MH⟩ u0;have b5:¬bf=g:=fun e=>a.rest.fg (by rw[d,e];rfl)
 have b7:¬g=bf:=fun e=>b5 e.symm
 have l:M6 (_/\_/\_/\_/\_/\_/\_/\_):=⟨HW,a9.F0 a3,d,S,u,p,T.2.2,K⟩;clear a T a9 a3 Q A D S d N K u a4 p b2 HW q0 q1 q2 q3 q4 q5 q6 u0 u1 u2 u3 u5 u6
 go_wp2_with fail
 rw[<-C];clear C u4 b6 d6 b4 b3;refine Nd l.out.1 ?_;rintro r w3 ⟨rfl,V3,E,R,a5⟩;obtain⟨q,t⟩:=yE (YW c i G.cfg.idle);rw[<-t]at E;have b0:i<q.fls.length:=by rw[t,ahP];exact l.out.2.2.2.1
 obtain⟨I,P⟩:=yE (Xs q i);have hx:=E.Gw (R.1.trans l.out.2.2.1) b0;rw[<-P]at hx;obtain⟨x0,x1,x2,x3,x4,x5,x6⟩:=hx;have Z:q.out.length<=1000000:=by rw[t];show c.out.length<=1000000;rw[l.out.2.2.2.2.2.1.2.2.2];have:=x.out.2.2.1;omega
 have v:M6 (_/\_/\_/\_/\_):=⟨aeP E Z 4 I,R.2.2.trans l.out.2.2.2.2.2.2.1,l.out.2.1.F0 a5,P,t⟩;clear E R a5 P t Z b0 e6
 go_wp2_with fail
 refine Nd v.out.1 ?_;rintro r w7 ⟨rfl,V7,a7,a8,a0⟩;have U:M6 (_/\_/\_):=⟨a7,a8.2.2.trans v.out.2.1,v.out.2.2.1.F0 a0⟩;clear a7 a8 a0;go_wp2
 go_end0
 have hz:O=abi q 4 I:=by rw[H.out.2.1,v.out.2.2.2.1,v.out.2.2.2.2,l.out.2.2.2.2.1,l.out.2.2.2.2.2.2.2]
 rw[hz];exact⟨rfl,V7,U.out.1,U.out.2.1,U.out.2.2⟩
end
section
variable {base:Nat}{w:MO}{g:Nat}{V:Vs}{G:Gt}
theorem akt{w1:MO}{bf:Nat}{v:M7}(hp:V.pf=MI ⟨bf,0,MH⟩)(h:w1=w.setCell ⟨bf,k,MH⟩ v):WV V V g w w1:=by
 subst h;exact⟨rfl,rfl,rfl,by simp,fun b _ hn=>MU w ⟨bf,k,MH⟩ _ b fun e=>hn (NF (NF (Nt (by rw[hp,e];rfl)))),fun _ h=>Nt h⟩
theorem OR.Ji(h:OR base w g V G){bf:Nat}(hp:V.pf=MI ⟨bf,0,MH⟩)(hi:i<G.fls.length){f:Fl}(hf:f=Xs G i)(b n:Int):
  OR base ((w.setCell ⟨bf,i*7+3,MH⟩ (yB b)).setCell ⟨bf,i*7+5,MH⟩ (yB n)) g V (Y4 G i {f with be:=b,ret:=n}) /\
  WV V V g w ((w.setCell ⟨bf,i*7+3,MH⟩ (yB b)).setCell ⟨bf,i*7+5,MH⟩ (yB n)):=by
 rw[XA hi]at hf;have c:=h.Hd hp hi (j:=3) (by omega) (yB b) {f with be:=b} (by rw[hf];rfl);have a:i<(G.fls.set i {f with be:=b}).length:=by rw[NA];exact hi
 have d:(G.fls.set i {f with be:=b})[i]={f with be:=b}:=NW (h:=a);have l:=c.Hd hp (i:=i) a (j:=5) (by omega) (yB n) {f with be:=b,ret:=n} (by show _=(WX ((G.fls.set i {f with be:=b})[i])).set 5 _;rw[d];rfl);have e:(G.fls.set i {f with be:=b}).set i {f with be:=b,ret:=n}=G.fls.set i {f with be:=b,ret:=n}:=List.set_set _;refine⟨?_,(akt hp rfl).F0 (akt hp rfl)⟩;unfold Y4;rw[<-e];exact l
theorem aqq(h:OR base w g V G)(hbs:Bs G)(hw:G.wnow=G.now)(hl:G.out.length<=900000)(hi:i<G.fls.length){bf:Nat}(hp:V.pf=MI ⟨bf,0,MH⟩)(hb:0<=b/\b<12)(hr:0<=(Xs G i).ret/\(Xs G i).ret+1<=20):
  Ni MK 174 #[gP g,fP bf i,yB b] w (aam base w g V (ZL G i b)):=by
 obtain⟨O,s⟩:=yE (ZL G i b);rw[<-s];unfold ZL at s;simp only[]at s;obtain⟨f,F⟩:=yE (Xs G i);have I:f∈G.fls:=by rw[F,XA hi];exact Nk hi
 have a0:=hbs.F9 I;obtain⟨S,q1,q2,q3,q4,q5,q6⟩:=h.Gw hp hi;rw[<-F]at s hr S q1 q2 q3 q4 q5 q6;have d3:=h.lt;have d1:bf<w.heap.size:=MX w ⟨bf,i*7,MH⟩ S;have d2:¬bf=g:=fun e=>h.rest.fg (by rw[hp,e];rfl)
 have d8:¬g=bf:=fun e=>d2 e.symm
 obtain⟨m,T⟩:=yE ((Y0 G.tab f.slot f.gen b).1);rw[<-T]at s;have a3:(Y0 G.tab f.slot f.gen b).2=0:=by rw[hbs.Ho I hb]
 have d4:=h.Gs;have HD:M6 (∀W',yA w W'->Ni MK 235 #[Ny #[MG V.pt G.tab.length V.ct],Ny #[yB f.slot,yB f.gen],yB b] W' fun r q=>∃p c,r=MN (Nv #[Ny #[MG p m.length c],yB 0])/\q.cell? ⟨g,17,MH⟩=MI (MG V.pt G.tab.length V.ct)/\q.frozen? ⟨g,17,MH⟩=Nb/\g<q.heap.size /\
   M6 (OR base (q.setCell ⟨g,17,MH⟩ (MG p m.length c)) g {V with pt:=p,ct:=c} {G with tab:=m}/\WV V {V with pt:=p,ct:=c} g w (q.setCell ⟨g,17,MH⟩ (MG p m.length c)))):=by
  refine fun W' hW'=>(auR (MG V.pt G.tab.length V.ct) G.tab f.slot f.gen b W' (h.rest.tab.now.below hW')).mono ?_
  rw[<-T,a3];rintro r q ⟨p,c,rfl,ho,hb⟩;have L:yA w q:=hW'.trans (hb.mono hW'.size);have o:=h.below L;exact⟨p,c,rfl,o.Gs,o.fz 17,o.lt,h.Ix L (ho.mono hW'.size),((WV.F5 (V:=V) (g:=g) L).F4 17 _).Gp fun _ h=>h⟩
 have d5:IntKind.i64.wrap (f.ret+1)=f.ret+1:=by rw[Ow];omega
 have H:M6 (_/\_/\_/\_):=⟨s,hp,hi,F⟩;have A:M6 (_/\_/\_/\_):=⟨hbs,hw,hl,a0⟩;clear h hbs s F hw hl a0 hp hi I T a3 hr hb;go_enter Wr,Wf
 go_wp2_with fail
 go_region_with (first|(go_at_call 235;refine(HD.out _ (by first|exact(MY _ _).drew|exact Below.refl _ _)).mono ?_;rintro r w3 ⟨p,c,rfl,d7,d0,b9,o⟩))
 all_goals
  obtain⟨u,K⟩:=yE (w3.setCell ⟨g,17,MH⟩ (MG p m.length c));have d:=o.out.1;have J:=o.out.2;rw[<-K]at d J;rw[<-K];clear K o d7 d0 b9 d4 S q1 q2 q3 q4 q5 q6 d3 d1;have l:Vs.pf {V with pt:=p,ct:=c}=MI ⟨bf,0,MH⟩:=H.out.2.1;have E:i<({G with tab:=m}:Gt).fls.length:=H.out.2.2.1;obtain⟨x0,x1,x2,x3,x4,x5,x6⟩:=d.Gl l E;have a6:({G with tab:=m}:Gt).fls[i]=f:=by rw[H.out.2.2.2,XA H.out.2.2.1]
  rw[a6]at x3 x5;have z3:=d.Hv l (i*7+3);have z5:=d.Hv l (i*7+5);have b7:=d.lt;have e7:u.cell? ⟨g,7,MH⟩=MI (yB G.cfg.conn):=d.c7;have b8:bf<u.heap.size:=MX u ⟨bf,i*7,MH⟩ x0;obtain⟨R,P⟩:=d.Ji l E (f:=f) H.out.2.2.2 b (f.ret+1);obtain⟨w6,D⟩:=yE ((u.setCell ⟨bf,i*7+3,MH⟩ (yB b)).setCell ⟨bf,i*7+5,MH⟩ (yB (f.ret+1)));obtain⟨a,y⟩:∃a,a=Y4 {G with tab:=m} i {f with be:=b,ret:=f.ret+1}:=⟨_,rfl⟩;obtain⟨N,a4⟩:=akq y E;have z:a.cfg=G.cfg/\a.now=G.now/\a.wnow=G.wnow/\a.out=G.out:=by rw[y];exact⟨rfl,rfl,rfl,rfl⟩
  rw[<-D,<-y]at R;rw[<-D]at P;have b3:0<=a.fls[i].slot/\a.fls[i].slot<40:=by rw[a4];exact A.out.2.2.2.1
  have HW:=af2 R N l (n:=G.cfg.conn) A.out.1.conn b3 (by rw[z.2.2.1,z.2.1];exact A.out.2.1) (by rw[z.2.1];exact A.out.1.now);have v:M6 (_/\_/\_/\_/\_/\_):=⟨HW,J.F0 P,l,N,y,z⟩;clear d J R P l E N a6 a4 y z b3 HW x0 x1 x2 x4 x6
  go_wp2_with fail
  rw[<-D];clear D x3 x5 z3 z5 b7 e7 b8 d5;refine Nd v.out.1 ?_;rintro r w7 ⟨rfl,V7,C,M,Z⟩;obtain⟨j,x⟩:=yE (YW a i G.cfg.conn);rw[<-x]at C;have a8:i<j.fls.length:=by rw[x,ahP];exact v.out.2.2.2.1
  obtain⟨B,Q⟩:=yE (Xs j i);have hx:=C.Gw (M.1.trans v.out.2.2.1) a8;rw[<-Q]at hx;obtain⟨y0,y1,y2,y3,y4,y5,y6⟩:=hx;have b5:j.out.length<=900000:=by rw[x];show a.out.length<=900000;rw[v.out.2.2.2.2.2.2.2.2];exact A.out.2.2.1
  have t:M6 (_/\_/\_/\_/\_/\_):=⟨aeP C (by omega) 5 B,M.2.2,v.out.2.1.F0 Z,Q,x,b5⟩;clear C M Z Q x b5 a8
  go_wp2_with fail
  refine Nd t.out.1 ?_;rintro r w8 ⟨rfl,V8,a5,b4,b0⟩;have a9:(abi j 5 B).out.length<=1000000:=by show(j.out++[_]).length<=1000000;have:=t.out.2.2.2.2.2;simp;omega
  have U:M6 (_/\_/\_):=⟨ahg a5 a9 f.be,b4.2.2.trans t.out.2.1,t.out.2.2.1.F0 b0⟩;clear a5 b0 b4 a9 y0 y1 y2 y3 y4 y5 y6
  go_wp2_with fail
  refine Nd U.out.1 ?_;rintro r w9 ⟨rfl,V9,b2,a7,b6⟩;have Y:M6 (_/\_/\_):=⟨b2,a7.2.2.trans U.out.2.1,U.out.2.2.F0 b6⟩;clear b2 a7 b6;go_wp2
  go_end0
  have hz:O=Yf (abi j 5 B) f.be:=by rw[H.out.1,t.out.2.2.2.1,t.out.2.2.2.2.1,v.out.2.2.2.2.1]
  rw[hz];exact⟨rfl,V9,Y.out.1,Y.out.2.1,Y.out.2.2⟩
end
theorem aao(l:List Fl):(rv WX l).length=l.length*7:=abx XL l
theorem ahj(l:List Fl)(i:Nat):(rv WX l).take (i*7)=rv WX (l.take i):=ahF XL l i
theorem akn(l:List Fl)(i:Nat):(rv WX l).drop (i*7)=rv WX (l.drop i):=ak4 XL l i
theorem ahz(x:Fl):rv WX [x]=WX x:=by simp[rv]
theorem akB{α:Type}(l:List α)(x:α):Xi l x l.length=l++[x]:=by simp[Xi]
def afB(base:Nat)(v:M7)(l:List Fl)(t:Fl)(i:Nat)(w:MO)(r:Ending)(w':MO):Prop :=
 ∃g cap,r=MN (MG (MI ⟨g,0,MH⟩) (l.length+1) cap)/\w'.ownsRow base 211 7 (MG (MI ⟨g,0,MH⟩) (l.length+1) cap) (l.length+1) (rv WX (Xi l t i))/\w.grownBy w' v.ownBlock/\(v.ownBlock=MI g\/w.heap.size<=g)
theorem apE(base:Nat)(v:M7)(l:List Fl)(x:Fl)(cs:Array M7)(hxs:cs.toList=WX x)(k:Nat)(w:MO)(hown:w.ownsRow base 211 7 v l.length (rv WX l))(hbase:base<=w.heap.size)
  (hk:w.heap[k]?=MI (MP cs 211 (0,0))) (hlen:l.length<=1000) :
  Ni MK 164 #[v,yB l.length,MG (MI ⟨k,0,MH⟩) 1 1] w (afB base v l x l.length w):=by
 obtain⟨t,y,r,q,s⟩:=OF ad0;have e:∀j u,(rv WX [x])[j]?=MI u->w.cell? ((⟨k,0,MH⟩:Oc).add j)=MI u:=fun j u hu=>by
  have A:(⟨k,0,MH⟩:Oc).add j=⟨k,j,MH⟩:=by unfold Addr.add;split <;> simp_all
  rw[A,MW w k j _ _ (0,0) hk];rw[ahz,<-hxs]at hu;simpa using hu
 obtain⟨p,c,rfl⟩:=Y6 hown;have E:l.length<=c:=by
  rcases hown.2 with⟨h,_⟩|⟨g,a,C,h,_,_,z,_⟩
  ·simp only[N4]at h;omega
  ·simp only[N4]at h;omega
 have F:c<=9223372036854775807:=by
  rcases hown.2 with⟨h,_⟩|⟨g,a,C,h,_,_,_,z,_⟩
  ·simp only[N4]at h;omega
  ·simp only[N4]at h;unfold NE at z;omega
 by_cases hcl:c=l.length
 ·subst hcl
  have d:M6 (_/\_):=⟨hown,e⟩;clear hown e;go_enter ayS,ayI
  go_wp2_with (first|(at_builtin;refine O9 _ rfl _ _ 41 rfl base 211 t _ 7 56 PK y r q s rfl (by decide) (MG p l.length l.length) _ _ rfl d.out.1 _ 1 1 (rv WX [x]) rfl rfl d.out.2 (adm acI _) (by decide) (by unfold NE;omega) (by omega) hbase _ rfl ?_;intro o a D f n m B))
  all_goals
   go_ret;exact⟨o,a,rfl,by rw[akB,acL];exact f,n,m.imp id (fun h=>by omega)⟩
 ·have d:M6 (_/\_):=⟨hown,e⟩
  clear hown e;go_enter ayS,ayI
  go_wp2_with (first|(at_builtin;refine O9 _ rfl _ _ 41 rfl base 211 t _ 7 56 PK y r q s rfl (by decide) (MG p l.length c) _ _ rfl d.out.1 _ 1 1 (rv WX [x]) rfl rfl d.out.2 (adm acI _) (by decide) (by unfold NE;omega) (by omega) hbase _ rfl ?_;intro o a D f n m B))
  all_goals
   go_ret;exact⟨o,a,rfl,by rw[akB,acL];exact f,n,m.imp id (fun h=>by omega)⟩
theorem apF(base g c:Nat)(l:List Fl)(x:Fl)(cs:Array M7)(hxs:cs.toList=WX x)(i k:Nat)(w:MO)(hown:w.ownsRow base 211 7 (MG (MI ⟨g,0,MH⟩) l.length c) l.length (rv WX l))(hbase:base<=w.heap.size)(hi:i<l.length)(hroom:c<l.length+1)
  (hk:w.heap[k]?=MI (MP cs 211 (0,0))) (hlen:l.length<=1000) :
  Ni MK 164 #[MG (MI ⟨g,0,MH⟩) l.length c,yB i,MG (MI ⟨k,0,MH⟩) 1 1] w (afB base (MG (MI ⟨g,0,MH⟩) l.length c) l x i w):=by
 obtain⟨Q,A,L,D,O⟩:=OF ad0;have M:c=l.length:=by
  rcases hown.2 with⟨h,_⟩|⟨g',e,a7,h,_,_,h2,_⟩
  ·cases h
  ·simp only[N4]at h;omega
 subst M;have E:(MK.info? 211).map (·.size)=MI 7:=by rw[A];simp[D]
 have U:=(hown.lt g rfl).2;have a0:k<w.heap.size:=(ZAa.1 hk).1;obtain⟨e,r,S,o,q,F,I,d,a8⟩:=ag0 (P:=MK) w 41 3 41 211 Q _ ME 7 56 PK Ol A L D O rfl (by decide) base ⟨g,0,MH⟩ i l.length (l.length+1-i) (rv WX (l.take i)) (by rw[aao,NH];omega)
  (fun j u hu=>by
   rw[abl,hown.cellAt j (by have:=(ZAb.1 hu).1;rw[aao,NH]at this;omega)];rw[<-ahj]at hu;rw[List.getElem?_take]at hu
   split at hu
   ·exact hu
   ·cases hu) (by omega) (by omega) (by unfold NE;omega) (by omega) hbase
 have K:i+(l.length+1-i)=l.length+1:=by omega
 rw[K]at o q I;rw[show((l.length+1-i:Nat):Int)=(l.length:Int)+1-(i:Int)by omega]at o;obtain⟨H,J,B,f⟩:=aa8 (P:=MK) S 41 3 211 7 PK E base w.heap.size (l.length+1) e _ q (i*7) (l.length+1-i) (e-i) ⟨k,0,MH⟩ 1 1 1 (rv WX [x]) (by simp only[PR];split <;> omega) rfl (by simp[rv];omega)
  (fun j u hu=>by
   rw[abl,(d.cell (a:=⟨k,j,MH⟩) (v:=u) (by rw[MW w k j _ _ (0,0) hk];rw[ahz,<-hxs]at hu;simpa using hu) (by simp))]) (adm acI _)
 obtain⟨T,N,p,m⟩:=aa8 (P:=MK) H.drew 41 3 211 7 PK E base w.heap.size (l.length+1) e _ B ((i+1)*7) (l.length-i) (e-(i+1)) ⟨g,i*7,MH⟩ (l.length-i) (l.length-i) (l.length-i) (rv WX (l.drop i)) (by simp only[PR];split <;> omega) (by rw[aao,NJ]) (by rw[aao,NJ];omega)
  (fun j u hu=>by
   rw[aas];have n:=(ZAb.1 hu).1;rw[aao,NJ]at n;have R:w.cell? ⟨g,i*7+j,MH⟩=MI u:=by
    rw[hown.cellAt _ (by omega),<-hu,<-akn,Pa]
   exact f.cell (a:=⟨g,i*7+j,MH⟩) (d.cell R (by simp)) (by simp;omega)) (adm acI _)
 have z:(rv WX (l.take i)++r).take (i*7)++rv WX [x]++(rv WX (l.take i)++r).drop (i*7+(rv WX [x]).length)=rv WX (l.take i++[x])++r.drop 7:=by
  have s:(rv WX (l.take i)).length=i*7:=by rw[aao,NH];omega
  rw[<-s,Qb,acL,Qa];simp[rv]
 have y:∀ys:List M7,((rv WX (l.take i++[x])++ys).take ((i+1)*7)++rv WX (l.drop i)++(rv WX (l.take i++[x])++ys).drop ((i+1)*7+(rv WX (l.drop i)).length))=rv WX (Xi l x i)++ys.drop ((l.length-i)*7):=fun ys=>by
  have s:(rv WX (l.take i++[x])).length=(i+1)*7:=by rw[aao];simp;omega
  rw[<-s,Qb,Qa,aao (l.drop i),NJ,Xi,acL,acL];simp[rv]
 rw[z,y]at p;rw[List.drop_drop,PI (by rw[F];omega),OG]at p;have C:w.grownBy T (MG (MI ⟨g,0,MH⟩) l.length l.length).ownBlock :=
  ⟨m.os.trans (f.os.trans d.os),m.tape.trans (f.tape.trans d.tape),m.output.trans (f.output.trans d.output),Nm d.size (Nm f.size m.size),fun j n _=>by
   rw[m.block j (M8 n (Nm d.size f.size)) (by simp;omega)];show H.heap[j]?=_;rw[f.block j (M8 n d.size) (by simp;omega),d.block j n (by simp)]⟩
 have t:M6 (_/\_/\_/\_/\_):=⟨o,J,N,p,C⟩;have a5:(i:Int)<=(l.length:Int):=by omega
 have a6:(i:Int)<(l.length:Int)+1:=by omega
 have a3:¬e=i:=by omega
 have Z:¬e=i+1:=by omega
 have Y:¬l.length=i:=by omega
 have a4:((i:Int) == (l.length:Int))=false:=by simp;omega
 clear o q B p d f m F hown hk z y C;go_enter ayS,ayI
 go_wp2_with (first|(at_builtin;refine Lib.wpList_append_run _ rfl _ _ _ _ rfl _ _ rfl rfl _ _ t.out.1 ?_))
 go_region
 go_wp2;go_ret;exact⟨w.heap.size,e,rfl,t.out.2.2.2.1,t.out.2.2.2.2,NF (MV _)⟩
theorem apG(base g c:Nat)(l:List Fl)(x:Fl)(cs:Array M7)(hxs:cs.toList=WX x)(i k:Nat)(w:MO)(hown:w.ownsRow base 211 7 (MG (MI ⟨g,0,MH⟩) l.length c) l.length (rv WX l))(hbase:base<=w.heap.size)(hi:i<l.length)(hroom:l.length+1<=c)(hkg:k≠g)
  (hk:w.heap[k]?=MI (MP cs 211 (0,0))) (hlen:l.length<=1000) :
  Ni MK 164 #[MG (MI ⟨g,0,MH⟩) l.length c,yB i,MG (MI ⟨k,0,MH⟩) 1 1] w (afB base (MG (MI ⟨g,0,MH⟩) l.length c) l x i w):=by
 obtain⟨i0,H,b0,K,b2⟩:=OF ad0;have B:(MK.info? 211).map (·.size)=MI 7:=by rw[H];simp[K]
 obtain⟨d,r,z,s,C,I⟩:∃d:Array M7,w.heap[g]?=MI (MP d 211 (0,0))/\c<=NE/\d.size=c*7/\d.toList.take (l.length*7)=rv WX l/\base<=g:=by
  rcases hown.2 with⟨h,_⟩|⟨g',a8,d,h,R,Z,h2,S,O,T⟩
  ·cases h
  ·simp only[N4,Qs,Q1,and_true,true_and]at h
   obtain⟨rfl,rfl⟩:=h;exact⟨d,Z,S,O,T,R⟩
 have n:w.ownsRow base 211 7 (MG (MI ⟨g,0,MH⟩) (l.length+1) c) (l.length+1) (d.toList.take ((l.length+1)*7)):=
  ⟨by simp only[NH,Om,s];omega,NF ⟨g,c,d,rfl,I,r,hroom,z,s,rfl⟩⟩
 have E:d.toList.take ((l.length+1)*7)=rv WX l++(d.toList.drop (l.length*7)).take 7:=by
  rw[<-C,show(l.length+1)*7=l.length*7+7 by omega,List.take_add]
 rw[E]at n;have p:((d.toList.drop (l.length*7)).take 7).length=7:=by simp only[NH,NJ,Om,s];omega
 generalize (d.toList.drop (l.length*7)).take 7=sp at n p;have a0:=(hown.lt g rfl).2;obtain⟨U,b4,A,f⟩:=aa8 (P:=MK) w.drew 41 3 211 7 PK B base g (l.length+1) c _ n ((i+1)*7) (l.length-i) (c-(i+1)) ⟨g,i*7,MH⟩ (l.length+1-i) (c-i) (l.length-i) (rv WX (l.drop i)) (by simp only[PR];split <;> omega) (by rw[aao,NJ]) (by rw[aao,NJ];omega)
  (fun j u hu=>by
   rw[aas];have o:=(ZAb.1 hu).1;rw[aao,NJ]at o;have N:w.cell? ⟨g,i*7+j,MH⟩=MI u:=by
    rw[hown.cellAt _ (by omega),<-hu,<-akn,Pa]
   exact N) (adm acI _)
 obtain⟨w3,a7,q,m⟩:=aa8 (P:=MK) U 41 3 211 7 PK B base g (l.length+1) c _ A (i*7) (l.length+1-i) (c-i) ⟨k,0,MH⟩ 1 1 1 (rv WX [x]) (by simp only[PR];split <;> omega) rfl (by simp[rv];omega)
  (fun j u hu=>by
   rw[abl,(f.cell (a:=⟨k,j,MH⟩) (v:=u) (show w.cell? _=_ by rw[MW w k j _ _ (0,0) hk];rw[ahz,<-hxs]at hu;simpa using hu) (by simp;omega))]) (adm acI _)
 have t:∀xs:List M7,xs=(rv WX l++sp).take ((i+1)*7)++rv WX (l.drop i)++(rv WX l++sp).drop ((i+1)*7+(rv WX (l.drop i)).length)->xs.take (i*7)++rv WX [x]++xs.drop (i*7+(rv WX [x]).length)=rv WX (Xi l x i):=fun xs hxs=>by
  have e1:(rv WX l++sp).drop ((i+1)*7+(rv WX (l.drop i)).length)=[]:=PI (by rw[Ns,aao,aao,NJ,p];omega);have Q:(rv WX l++sp).take ((i+1)*7)=rv WX (l.take (i+1)):=by
   rw[ZqA (by rw[aao];omega),ahj]
  rw[e1,Q,OG]at hxs;have D:(rv WX (l.take (i+1))).length=(i+1)*7:=by rw[aao,NH];omega
  have M:xs.take (i*7)=rv WX (l.take i):=by
   rw[hxs,ZqA (by rw[D];omega),ahj,List.take_take,show min i (i+1)=i by omega]
  have Y:xs.drop (i*7+(rv WX [x]).length)=rv WX (l.drop i):=by
   rw[hxs,show i*7+(rv WX [x]).length=(rv WX (l.take (i+1))).length by rw[D];simp[rv];omega,List.drop_left]
  rw[M,Y,Xi,acL];simp[rv]
 rw[t _ rfl]at q;have y:w.grownBy w3 (MG (MI ⟨g,0,MH⟩) l.length c).ownBlock :=
  ⟨m.os.trans f.os,m.tape.trans f.tape,m.output.trans f.output,Nm f.size m.size,fun j o hne=>by
   rw[m.block j (M8 o f.size) hne];exact f.block j o hne⟩
 have L:cs.size=7:=by rw[<-Om,hxs];rfl
 have J:∀lb cb,(callFunc 225 #[MG (MI ⟨k,0,MH⟩) 1 1,MG (MI ⟨g,(i+1)*7,MH⟩) lb cb]).run MK w=.ok (.value (M3 Nb)) w:=fun lb cb=>by
  rw[run_callFunc_extern ayV (by kernel_rfl) (by kernel_rfl) (by kernel_rfl) (e:=P9 #[41,41] #[4]) (by kernel_rfl),
   Lib.run_overlaps_apart w 41 4 211 PK 7 Tryz.sizeOf211 ⟨k,0,MH⟩ ⟨g,(i+1)*7,MH⟩ 1 1 lb cb hkg 211 211 7 d.size (by simp[QO,hk,L]) (by simp[QO,r]) (by omega) (by simp[Ng,hk]) (by simp[Ng,hk])]
  rfl
 have F:M6 (_/\_):=⟨q,y⟩;have a6:(i:Int)<=(l.length:Int):=by omega
 have a9:(i:Int)<=(l.length:Int)+1:=by omega
 have a4:¬c=i:=by omega
 have a3:¬c=i+1:=by omega
 have a5:((i:Int) == (l.length:Int))=false:=by simp;omega
 have b3:(l.length:Int)+1<=(c:Int):=by omega
 unfold NE at z;clear A q f m hown n hk t y r C E p;go_enter ayS,ayI
 go_wp2_with (simp only[J])
 go_region
 go_wp2;go_ret;exact⟨g,c,rfl,F.out.1,F.out.2,Nt rfl⟩
theorem apD(base:Nat)(v:M7)(l:List Fl)(x:Fl)(cs:Array M7)(hxs:cs.toList=WX x)(i k:Nat)(w:MO)(hown:w.ownsRow base 211 7 v l.length (rv WX l))(hbase:base<=w.heap.size)(hi:i<=l.length)(hkv:v.ownBlock≠MI k)
  (hk:w.heap[k]?=MI (MP cs 211 (0,0))) (hlen:l.length<=1000) :
  Ni MK 164 #[v,yB i,MG (MI ⟨k,0,MH⟩) 1 1] w (afB base v l x i w):=by
 rcases Oq i l.length with a|d
 ·obtain⟨g,c,rfl,_⟩:=hown.form (by omega)
  rcases Oq c (l.length+1)with h|h
  ·exact apF base g c l x cs hxs i k w hown hbase a h hk hlen
  ·exact apG base g c l x cs hxs i k w hown hbase a h (fun e=>hkv (by rw[e];rfl)) hk hlen
 ·obtain rfl:i=l.length:=by omega
  exact apE base v l x cs hxs k w hown hbase hk hlen
section
variable {base:Nat}{w:MO}{g:Nat}{V:Vs}{G:Gt}
def aoh(base:Nat)(w:MO)(g:Nat)(V:Vs)(G':Gt)(i:Nat)(r:Ending)(w':MO):Prop :=
 ∃V' bf,r=MN (fP bf i)/\OR base w' g V' G'/\V'.pf=MI ⟨bf,0,MH⟩/\V'.bh=V.bh/\WV V V' g w w'
theorem aql(h:OR base w g V G)(hbs:Bs G)(hfree:G.tab.any Y1=Nw)(hk:0<=key/\key<=4294967295)(hb:0<=b/\b<12):
  Ni MK 110 #[gP g,yB key,yB b] w (aoh base w g V (abv G key b) (Y3 G.fls (Y8 G.tab key b).2.1.1)):=by
 obtain⟨j,d2,t,d7,b8,d8⟩:=hbs.Gd hfree hk hb;have b6:=hbs.Gb;obtain⟨l,a7⟩:=yE (G.tab[j].1);obtain⟨m,hm⟩:=yE (G.tab.set j (l,Nw,key,b));rw[<-a7,<-hm]at t;obtain⟨x,R⟩:∃x:Fl,x=⟨(j:Int),l,key,b,Nb,0,0⟩:=⟨_,rfl⟩;obtain⟨i,A⟩:=yE (Y3 G.fls (j:Int));have n:i<=G.fls.length:=by rw[A];exact ad4 _ _
 have U:abv G key b={G with tab:=m,fls:=Xi G.fls x i}:=by unfold abv;rw[t,R,A]
 have b4:Y3 G.fls (Y8 G.tab key b).2.1.1=i:=by rw[t,A]
 rw[U,b4];have O:=auV (MG V.pt G.tab.length V.ct) G.tab key b w h.rest.tab.now;rw[t]at O;have g8:=h.Gs;have g7:=h.lt;have H:M6 (_/\_/\_/\_/\_/\_):=⟨h,O,b6,R,A,n⟩;clear h hbs O b6 R n t U hm a7 b8 hfree hk hb d7 d8 b4 A;clear d2;go_enter ayW,ayL
 go_wp2_with fail
 refine Nd H.out.2.1 ?_;rintro r d ⟨p,c,rfl,B,E⟩;have u:=H.out.1.below E;have h0:=u.Gs;have g6:=u.Gr;have g1:=u.fz 17;have f0:=u.lt;have f6:¬g=d.heap.size:=by omega
 have g0:¬g=d.heap.size+1:=by omega
 have f9:¬d.heap.size=g:=by omega
 have f8:¬d.heap.size+1=g:=by omega
 have L:=H.out.1.Ix E B;have a5:WV V {V with pt:=p,ct:=c} g w (d.setCell ⟨g,17,MH⟩ (MG p m.length c)):=((WV.F5 (V:=V) (g:=g) E).F4 17 _).Gp fun _ h=>h
 obtain⟨W,N⟩:=yE (((d.setCell ⟨g,17,MH⟩ (MG p m.length c)).alloc (MP #[MG p m.length c] 40)).alloc (MP #[yB (j:Int),yB l] 134));have b5:=acu (d.setCell ⟨g,17,MH⟩ (MG p m.length c)) (MP #[MG p m.length c] 40) (MP #[yB (j:Int),yB l] 134);rw[<-N]at b5;obtain⟨_,D,J,b9⟩:=b5;have b2:(d.setCell ⟨g,17,MH⟩ (MG p m.length c)).heap.size=d.heap.size:=by simp
 rw[b2]at D;have M:=L.below J;have a6:=a5.below J;obtain⟨Q,y1,_,_,a4⟩:=Xa D;have HI:=apo (MG V.pf G.fls.length V.cf) G.fls (j:Int) (d.heap.size+1) W M.GK Q;have b3:¬Vs.own {V with pt:=p,ct:=c} g (d.heap.size+1):=L.rest.new (by simp);have I:M6 (_/\_/\_/\_/\_):=⟨HI,M,a6,D,b3⟩;clear B E u L a5 D J b9 b2 M a6 HI Q y1 a4 b3
 go_wp2_with fail
 rw[<-N];clear N;refine Nd I.out.1 ?_;rintro r P ⟨rfl,F⟩;have y:=I.out.2.1.below F;have a0:=I.out.2.2.1.below F;obtain⟨Q,y1,_,_,a4⟩:=Xa (WO I.out.2.2.2.1 F);have g3:=y.Gr;have f5:=y.lt;have g4:=H.out.2.2.1;have n:=H.out.2.2.2.2.2;have T:M6 (∀X k,yA P X->X.heap[k]?=MI (MP #[yB (j:Int),yB l,yB key,yB b,M3 Nb,yB 0,yB 0] 211 (0,0))->P.heap.size<=k->Ni MK 164 #[MG V.pf G.fls.length V.cf,yB (i:Int),MG (MI ⟨k,0,MH⟩) 1 1] X fun r w'=>∃q a,r=MN (MG (MI ⟨q,0,MH⟩) (G.fls.length+1) a)/\w'.cell? ⟨g,18,MH⟩=MI (MG V.pf G.fls.length V.cf)/\w'.frozen? ⟨g,18,MH⟩=Nb/\g<w'.heap.size/\a<=9223372036854775807/\G.fls.length+1<=a /\
   M6 (OR base (w'.setCell ⟨g,18,MH⟩ (MG (MI ⟨q,0,MH⟩) (G.fls.length+1) a)) g {V with pt:=p,ct:=c,pf:=MI ⟨q,0,MH⟩,cf:=a} {G with tab:=m,fls:=Xi G.fls x i}/\WV V {V with pt:=p,ct:=c,pf:=MI ⟨q,0,MH⟩,cf:=a} g w (w'.setCell ⟨g,18,MH⟩ (MG (MI ⟨q,0,MH⟩) (G.fls.length+1) a)))):=by
  intro X k hX hk g5;have o:=y.below hX;have e9:(MG V.pf G.fls.length V.cf).ownBlock≠MI k:=fun e=>by
   have:=(y.rest.fls.lt k e).2;omega
  refine(apD base (MG V.pf G.fls.length V.cf) G.fls x #[yB (j:Int),yB l,yB key,yB b,M3 Nb,yB 0,yB 0] (by rw[H.out.2.2.2.1]) i k X o.rest.fls o.base n e9 hk (by omega)).mono ?_;rintro r w' ⟨q,a,rfl,B,s,hq⟩;have K:∀z,z<X.heap.size->V.pf.map (·.block)≠MI z->w'.heap[z]?=X.heap[z]?:=fun z hz hn=>s.block z hz (fun e=>hn (by rw[e,XV]))
  have a3:=(K g o.lt o.rest.fg).trans o.box;have Z:(Xi G.fls x i).length=G.fls.length+1:=ad1 _ _ n;have a8:∀z,(MI (⟨q,0,MH⟩:Oc)).map (·.block)=MI z->V.pf.map (·.block)=MI z\/X.heap.size<=z:=fun z e=>by
   cases e;exact hq.imp (fun e=>by rw[<-XV V.pf G.fls.length V.cf];exact e) id
  have b0:=o.IU (w':=w') (p:=MI ⟨q,0,MH⟩) (c:=a) (m:=Xi G.fls x i) s.size K (by rw[Z];exact B) a8;rw[Z]at b0;have Y:a<=9223372036854775807/\G.fls.length+1<=a:=by
   rcases B.2 with⟨S,_⟩|⟨g',c',g2,S,_,_,h1,h2,_⟩
   ·cases S
   ·cases S
    unfold NE at h2;exact⟨h2,h1⟩
  have d5:WV {V with pt:=p,ct:=c} {V with pt:=p,ct:=c,pf:=MI ⟨q,0,MH⟩,cf:=a} g X w':=by
   refine⟨s.os,s.tape,s.output,s.size,fun z hz hn=>K z hz fun e=>hn (NF (NF (Nt e))),fun z e=>?_⟩;rcases e with e|e|e|e
   ·exact Nt (Nt e)
   ·exact Nt (NF (Nt e))
   ·exact(a8 z e).imp (fun e=>NF (NF (Nt e))) id
   ·exact Nt (NF (NF (NF e)))
  refine⟨q,a,rfl,by rw[MW w' g 18 _ _ (0,0) a3];rfl,by simp[Ng,a3],M8 o.lt s.size,Y.1,Y.2,b0,?_⟩;exact((a0.below hX).F0 d5).F4 18 _
 have a9:G.fls.findIdx (fun f=>Nn ((j:Int)<f.slot))=i:=H.out.2.2.2.2.1.symm;rw[a9];have HZ:M6 _:=n;clear y a0 F a9 n
 by_cases hil:i<G.fls.length
 ·have v:X6 i G.fls.length=(i:Int):=Nh hil
  rw[v];have d3:(i:Int)<(G.fls.length:Int)+1:=by omega
  have g9:¬((i:Int)<0):=by omega
  clear v
  go_wp2_with fail
  go_region_with (first|(go_at_call 164;refine(T.out _ _ ?hb ?hk ?hn).mono ?_;(case hb=>first|exact((MY _ _).alloc (MV _) _).drew|exact((Below.refl _ _).drew).alloc (by simp) _);(case hk=>exact M1 _ _);(case hn=>exact MV _);rintro r w5 ⟨q,a,rfl,d4,d0,b7,e8,d1,C⟩))
  all_goals
   go_wp2;go_ret;exact⟨_,q,by simp,C.out.1,rfl,rfl,C.out.2⟩
 ·obtain rfl:i=G.fls.length:=by have:=HZ.out;omega
  have v:X6 G.fls.length G.fls.length = -1:=Nf hil;rw[v];have d3:(G.fls.length:Int)<(G.fls.length:Int)+1:=by omega
  clear v
  go_wp2_with fail
  go_region_with (first|(go_at_call 164;refine(T.out _ _ ?hb ?hk ?hn).mono ?_;(case hb=>first|exact((MY _ _).alloc (MV _) _).drew|exact((Below.refl _ _).drew).alloc (by simp) _);(case hk=>exact M1 _ _);(case hn=>exact MV _);rintro r w5 ⟨q,a,rfl,d4,d0,b7,e8,d1,C⟩))
  all_goals
   go_wp2;go_ret;exact⟨_,q,by simp,C.out.1,rfl,rfl,C.out.2⟩
end
abbrev adk(x:Ld):List Value:=[yB x.1,yB x.2.1,yB x.2.2]
theorem apO(x:Ld):(adk x).length=3:=rfl
theorem apN(x:Ld):∀u∈adk x,u.oneCell'=true:=by
 intro u a;simp only[OO,OD,or_false]at a;rcases a with rfl|rfl|rfl <;> rfl
theorem ak5:∀l:List Ld,rv adk l=abG l
 | []=>rfl
 |x::l=>by simp[rv,abG,ak5 l]
theorem apu:(MK.info? 353).map (fun i=>(i.zero,i.size,i.bytes))=MI (MI (Ny #[yB 0,yB 0,yB 0]),3,24):=by kernel_rfl
def abc(fs:List Fl):List Int:=(Pm 12).map fun(b:Nat)=>((abu fs (b:Int):Nat):Int)
theorem aeF(fs:List Fl):(abc fs).length=12:=by simp[abc]
theorem afI(fs:List Fl){b:Nat}(hb:b<12):(abc fs)[b]'(by rw[aeF];exact hb)=((abu fs (b:Int):Nat):Int):=by simp[abc]
theorem aoP(fs:List Fl)(f:Fl){b:Nat}(hb:b<12)(he:f.be=(b:Int)):abc (fs++[f])=(abc fs).set b (((abu fs (b:Int):Nat):Int)+1):=by
 apply PX
 ·simp[aeF]
 ·intro k c d
  have a:k<12:=by simpa [aeF]using c
  rw[afI _ a,Pc];unfold abu;rw[Qi]
  by_cases e:b=k
  ·subst e
   rw[Nh rfl];simp[he]
  ·rw[Nf e,afI _ a]
   have:(f.be == (k:Int))=false:=by rw[he,Oh];omega
   simp[abu,this]
section
variable {base:Nat}{w:MO}{g:Nat}{V:Vs}{G:Gt}
def aaH(G:Gt)(fs:List Fl)(k:Nat):List Ld:=((G.liv.take k).filter fun l=>l.2.1 == 2).map fun l=>(l.1,abV G l,(abu fs l.1:Int))
theorem apX(fs:List Fl):aaH G fs G.liv.length=aab G fs:=by unfold aaH aab;rw[NT]
theorem ap0(fs:List Fl)(hk:k<G.liv.length)(h:G.liv[k].2.1=2):aaH G fs (k+1)=aaH G fs k++[(G.liv[k].1,abV G G.liv[k],(abu fs G.liv[k].1:Int))]:=by
 unfold aaH;rw[M9 hk,OY,OI];simp[h]
theorem apZ(fs:List Fl)(hk:k<G.liv.length)(h:¬G.liv[k].2.1=2):aaH G fs (k+1)=aaH G fs k:=by
 unfold aaH;rw[M9 hk,OY,OI];have:(G.liv[k].2.1 == 2)=false:=by rw[Oh];exact h
 simp[this]
theorem apY(fs:List Fl)(k:Nat):(aaH G fs k).length<=G.liv.length:=by
 unfold aaH;rw[N0];exact Nm (O1 _ _) (List.length_take_le' _ _)
theorem ap2{W:MO}{B:Nat}{p:Option Oc}{n c:Nat}{m:List Ld}(ho:W.ownsRow B 353 3 (MG p n c) n (rv adk m))(hB:B<=W.heap.size)(hn:n<=1000)(x:Ld) :
  ∃q c' w5,(N2 #[289,289] 289 #[MG p n c,MG (MI ⟨W.heap.size,0,MH⟩) 1 1]).run MK (W.alloc (MP #[yB x.1,yB x.2.1,yB x.2.2] 353))=.ok (MG (MI ⟨q,0,MH⟩) (n+1) c') w5 /\
   w5.ownsRow B 353 3 (MG (MI ⟨q,0,MH⟩) (n+1) c') (n+1) (rv adk (m++[x]))/\MQ B W w5/\∀b,b<W.heap.size->p.map (·.block)≠MI b->w5.heap[b]?=W.heap[b]?:=by
 obtain⟨q,c',w5,f,d,a,j⟩:=afC apO apN (by decide) Tryz.underlying289 apu rfl ho hB 289 x #[yB x.1,yB x.2.1,yB x.2.2] rfl (by omega) (by unfold NE;omega);exact⟨q,c',w5,f,d,(MY _ _).grown a hB (fun k hk=>(ho.lt k hk).1),fun b hb hne=>a.block b hb fun e=>hne (by rw[<-XV p n c,<-e])⟩
theorem ap1(h:OR base w g V G)(hbs:Bs G)(v:M7)(fs:List Fl)(hv:ZR w v fs)(hfs:∀f∈fs,0<=f.be/\f.be<12)(hl:fs.length<=40) :
  Ni MK 160 #[gP g,v] w fun r w'=>∃y,r=MN y/\aaR w' y (aab G fs)/\yA w w':=by
 obtain⟨pa,ca,rfl,j1,f5,pf⟩:=hv.F6;unfold NE at f5;obtain⟨W,hW⟩:=yE (w.alloc (MP (WR (Nj 12 0)).toArray 275));have hB:yA w W:=by rw[hW];exact WQ w
 have j:Xj 275 12 W w.heap.size (abc []):=by
  have e:abc []=Nj 12 0:=by rfl
  rw[hW,e];exact Xj.new w 275 (Nj 12 0)
 have j0:=hbs.book.1.1;have H:M6 (_/\_/\_/\_/\_/\_):=⟨h,hbs,hfs,pf,hB,j⟩;have j3:=h.lt;clear h hbs hv hfs pf hB j;go_enter VD,Vv;go_wp2;rw[show(w.alloc (MP #[yB 0,yB 0,yB 0,yB 0,yB 0,yB 0,yB 0,yB 0,yB 0,yB 0,yB 0,yB 0] 275))=W from hW.symm];clear hW
 go_loopw [13] (fun t wr=>∃k:Nat,t=yB k/\k<=fs.length/\Xj 275 12 wr w.heap.size (abc (fs.take k))/\yA w wr/\w.heap.size<wr.heap.size) (fun t _=>fs.length-(intOf t).toNat)
 case atStart=>exact⟨0,rfl,Nx _,H.out.2.2.2.2.2,H.out.2.2.2.2.1,H.out.2.2.2.2.2.lt⟩
 case round =>
  obtain⟨k,rfl,hk,j,a,b6⟩:=hrel
  by_cases hlt:k<fs.length
  ·obtain⟨m,u,rfl,l,M,R,P,Q,N,O,z6⟩:=H.out.2.2.2.1 k hlt
   have b8:=H.out.2.2.1 _ (Nk hlt);have a5:fs.take (k+1)=fs.take k++[fs[k]]:=M9 hlt;obtain⟨f,d3⟩:=yE (fs[k]);rw[<-d3]at M R P Q N O z6 b8 a5;obtain⟨b,a6⟩:=NL b8.1;have U:b<12:=by omega
   have i2:(b:Int)<12:=by omega
   have g8:(0:Int)<=(b:Int):=by omega
   have e0:=(a.cell (p:=⟨m,u+k*7,MH⟩) l).trans M;have e1:=(a.cell (p:=⟨m,u+k*7+1,MH⟩) l).trans R;have e2:=(a.cell (p:=⟨m,u+k*7+2,MH⟩) l).trans P;have e3:=(a.cell (p:=⟨m,u+k*7+3,MH⟩) l).trans Q;have e4:=(a.cell (p:=⟨m,u+k*7+4,MH⟩) l).trans N;have e5:=(a.cell (p:=⟨m,u+k*7+5,MH⟩) l).trans O;have e6:=(a.cell (p:=⟨m,u+k*7+6,MH⟩) l).trans z6;rw[a6]at e3;have a1:=j.F7 b (by rw[aeF];exact U);rw[afI _ U]at a1;have a2:=j.Gu b;obtain⟨d,I⟩:∃d:Int,d=((abu (fs.take k) (b:Int):Nat):Int):=⟨_,rfl⟩;rw[<-I]at a1;have j7:0<=d/\d<=40:=by have:=aj7 (fs.take k) (b:Int);rw[NH]at this;omega
   have j5:IntKind.i64.wrap (d+1)=d+1:=by rw[Ow];omega
   have e9:m<wr.heap.size:=M8 l a.size;have h0:(k:Int)<(fs.length:Int):=by omega
   have L:M6 (_/\_/\_/\_/\_/\_):=⟨j,a,b6,a5,a6,I⟩;clear j a a5 a6 I M R P Q N O z6 d3 b8 l;have i9:¬w.heap.size=wr.heap.size:=by omega
   have i4:¬wr.heap.size=w.heap.size:=by omega
   go_wp2
   go_roundw
   case rel =>
    obtain⟨j,a,b6,a5,a6,I⟩:=L.out;refine⟨k+1,by simp,hlt,?_,?_,?_⟩
    ·rw[a5,aoP _ _ U a6,<-I]
     first
     |exact(j.F4 b (d+1)).below (WQ _)
     |exact(j.below (WQ _)).set b (d+1)
    ·first
     |exact(a.setCell (p:=⟨w.heap.size,b,MH⟩) (MV _) _).alloc (by simp;omega) _
     |exact(a.alloc (by omega) _).setCell (p:=⟨w.heap.size,b,none⟩) (Nat.le_refl _) _
    ·simp;omega
   case measure=>simp[intOf];omega
  ·obtain rfl:k=fs.length:=by omega
   rw[NT]at j;have i5:¬((fs.length:Int)<(fs.length:Int)):=by omega
   have b4:=H.out.1.below a;have g5:=b4.Gn;have i6:=b4.lt;obtain⟨al,j4,h6,i7,e8,d7⟩:=adt.F6 H.out.1.rest.book.now.1;injection h6 with el1 _ el3;unfold NE at e8;rw[el1,el3]at g5;obtain⟨W1,g7⟩:=yE wr;subst g7;have HL:M6 (_/\_/\_/\_):=⟨j,a,b6,d7⟩;clear j a b4 hlt d7 el1 el3;go_wp2
   go_loopw [8,31] (fun s8 t wr=>∃(k:Nat) (p:Option Oc) (n c:Nat),s8=MG p n c/\t=yB k/\k<=G.liv.length/\n=(aaH G fs k).length/\wr.ownsRow (w.heap.size+1) 353 3 (MG p n c) n (rv adk (aaH G fs k))/\Xj 275 12 wr w.heap.size (abc fs)/\yA w wr/\w.heap.size<wr.heap.size) (fun _ t _=>G.liv.length-(intOf t).toNat)
   case atStart=>exact⟨0,MH,0,0,rfl,rfl,Nx _,rfl,NY _ _ _ _,HL.out.1,HL.out.2.1,HL.out.2.2.1⟩
   case round =>
    obtain⟨k,p,n,c,rfl,rfl,hk,J,B,j,a,d0⟩:=hrel
    by_cases hlt:k<G.liv.length
    ·obtain⟨m,u,f8,l,M,R,P,Q,N,O⟩:=HL.out.2.2.2 k hlt
     subst f8;have a0:=Nk hlt;have Y:=(H.out.2.1.lf a0).1.1;have S:=ap0 (G:=G) fs hlt;have F:=apZ (G:=G) fs hlt;have d1:=apY (G:=G) fs k;obtain⟨⟨x1,x2,E,C,D,A⟩,b9⟩:∃x,x=G.liv[k]:=⟨_,rfl⟩;rw[<-b9]at M R P Q N O a0 Y S F;have Y:0<=x1/\x1<=11:=Y;obtain⟨b,rfl⟩:=NL Y.1;have U:b<12:=by omega
     have i2:(b:Int)<12:=by omega
     have g8:(0:Int)<=(b:Int):=by omega
     have e0:=(a.cell (p:=⟨m,u+k*6,MH⟩) l).trans M;have e1:=(a.cell (p:=⟨m,u+k*6+1,MH⟩) l).trans R;have e2:=(a.cell (p:=⟨m,u+k*6+2,MH⟩) l).trans P;have e3:=(a.cell (p:=⟨m,u+k*6+3,MH⟩) l).trans Q;have e4:=(a.cell (p:=⟨m,u+k*6+4,MH⟩) l).trans N;have e5:=(a.cell (p:=⟨m,u+k*6+5,MH⟩) l).trans O;have e9:m<wr.heap.size:=M8 l a.size;have h0:(k:Int)<(G.liv.length:Int):=by omega
     by_cases h2:x2=2
     ·subst h2
      have S:=S rfl;obtain⟨K,a9⟩:=yE (wr.alloc (YQ ((b:Int),2,E,C,D,A)));have T:yA wr K:=by rw[a9];exact WQ wr
      have b0:K.heap[wr.heap.size]?=MI (YQ ((b:Int),2,E,C,D,A)):=by rw[a9];exact M1 _ _
      have b7:=j.below T;have d5:=YI B T;have d2:=(H.out.1.below a).below T;have a3:∀ {X:MO},X.heap[wr.heap.size]?=MI (YQ ((b:Int),2,E,C,D,A))->X.cell? ⟨wr.heap.size,0,MH⟩=MI (yB (b:Int))/\X.cell? ⟨wr.heap.size,1,MH⟩=MI (yB 2)/\X.cell? ⟨wr.heap.size,2,MH⟩=MI (yB E)/\X.cell? ⟨wr.heap.size,3,MH⟩=MI (yB C)/\X.cell? ⟨wr.heap.size,4,MH⟩=MI (yB D)/\X.cell? ⟨wr.heap.size,5,MH⟩=MI (yB A):=fun {X} hX =>
       ⟨by rw[MW X _ 0 _ _ (0,0) hX];rfl,by rw[MW X _ 1 _ _ (0,0) hX];rfl,by rw[MW X _ 2 _ _ (0,0) hX];rfl,by rw[MW X _ 3 _ _ (0,0) hX];rfl,by rw[MW X _ 4 _ _ (0,0) hX];rfl,by rw[MW X _ 5 _ _ (0,0) hX];rfl⟩
      obtain⟨d,I⟩:∃d:Int,d=((abu fs (b:Int):Nat):Int):=⟨_,rfl⟩;obtain⟨wt,b3⟩:=yE (abV G ((b:Int),2,E,C,D,A));have a7:∀ {X:MO},Xj 275 12 X w.heap.size (abc fs)->X.cell? ⟨w.heap.size,b,MH⟩=MI (yB d):=fun {X} hX=>by
       have:=hX.F7 b (by rw[aeF];exact U);rw[afI _ U,<-I]at this;exact this
      have g6:M6 (∀X:MO,yA K X->Ni MK 220 #[gP g,abR ((b:Int),2,E,C,D,A)] X fun r w'=>r=MN (yB wt)/\∃q Z s,
        (w'.cell? ⟨wr.heap.size,0,MH⟩=MI (yB (b:Int))/\w'.cell? ⟨wr.heap.size,1,MH⟩=MI (yB 2)/\w'.cell? ⟨wr.heap.size,2,MH⟩=MI (yB E)/\w'.cell? ⟨wr.heap.size,3,MH⟩=MI (yB C)/\w'.cell? ⟨wr.heap.size,4,MH⟩=MI (yB D)/\w'.cell? ⟨wr.heap.size,5,MH⟩=MI (yB A)/\w'.cell? ⟨w.heap.size,b,MH⟩=MI (yB d)) /\
        ((w'.alloc (MP #[yB (b:Int),yB wt,yB d] 353)).cell? ⟨wr.heap.size,0,MH⟩=MI (yB (b:Int))/\(w'.alloc (MP #[yB (b:Int),yB wt,yB d] 353)).cell? ⟨wr.heap.size,1,MH⟩=MI (yB 2)/\(w'.alloc (MP #[yB (b:Int),yB wt,yB d] 353)).cell? ⟨wr.heap.size,2,MH⟩=MI (yB E)/\(w'.alloc (MP #[yB (b:Int),yB wt,yB d] 353)).cell? ⟨wr.heap.size,3,MH⟩=MI (yB C)/\(w'.alloc (MP #[yB (b:Int),yB wt,yB d] 353)).cell? ⟨wr.heap.size,4,MH⟩=MI (yB D)/\(w'.alloc (MP #[yB (b:Int),yB wt,yB d] 353)).cell? ⟨wr.heap.size,5,MH⟩=MI (yB A)/\(w'.alloc (MP #[yB (b:Int),yB wt,yB d] 353)).cell? ⟨w.heap.size,b,MH⟩=MI (yB d)) /\
        (s.cell? ⟨wr.heap.size,0,MH⟩=MI (yB (b:Int))/\s.cell? ⟨wr.heap.size,1,MH⟩=MI (yB 2)/\s.cell? ⟨wr.heap.size,2,MH⟩=MI (yB E)/\s.cell? ⟨wr.heap.size,3,MH⟩=MI (yB C)/\s.cell? ⟨wr.heap.size,4,MH⟩=MI (yB D)/\s.cell? ⟨wr.heap.size,5,MH⟩=MI (yB A)/\s.cell? ⟨w.heap.size,b,MH⟩=MI (yB d)) /\
        M6 ((N2 #[289,289] 289 #[MG p n c,MG (MI ⟨w'.heap.size,0,MH⟩) 1 1]).run MK (w'.alloc (MP #[yB (b:Int),yB wt,yB d] 353))=.ok (MG (MI ⟨q,0,MH⟩) (n+1) Z) s/\s.ownsRow (w.heap.size+1) 353 3 (MG (MI ⟨q,0,MH⟩) (n+1) Z) (n+1) (rv adk (aaH G fs (k+1)))/\Xj 275 12 s w.heap.size (abc fs)/\yA w s/\w.heap.size<s.heap.size)):=by
       refine fun X hX=>(aq4 (d2.below hX) H.out.2.1 a0).mono ?_
       rintro r w' ⟨rfl,g0⟩;have a4:yA K w':=hX.trans (g0.mono hX.size);have a8:=b7.below a4;have g9:=YI d5 a4;have b2:=WO b0 a4;have i3:yA w w':=(a.trans (T.mono a.size)).trans (a4.mono (Nm a.size T.size));obtain⟨q,Z,s,hr,h7,f9,d8⟩:=ap2 g9 (Nm (by omega) (Nm T.size a4.size)) (by omega) ((b:Int),wt,d);have d4:∀z,p.map (·.block)=MI z->w.heap.size+1<=z/\z<wr.heap.size:=fun z e=>B.lt z (by rw[XV];exact e)
       have g2:wr.heap.size<w'.heap.size:=(ZAa.1 b2).1;have g3:=(d8 wr.heap.size g2 (fun e=>by have:=(d4 _ e).2;omega)).trans b2;have b5:=a8.Gf (d8 w.heap.size a8.lt (fun e=>by have:=(d4 _ e).1;omega));have f0:=WO b2 (WQ w' (o:=MP #[yB (b:Int),yB wt,yB d] 353));have f6:=a8.below (WQ w' (o:=MP #[yB (b:Int),yB wt,yB d] 353));have f1:=a3 b2;have f2:=a3 f0;have f3:=a3 g3;refine⟨by rw[b3],q,Z,s,⟨f1.1,f1.2.1,f1.2.2.1,f1.2.2.2.1,f1.2.2.2.2.1,f1.2.2.2.2.2,a7 a8⟩,⟨f2.1,f2.2.1,f2.2.2.1,f2.2.2.2.1,f2.2.2.2.2.1,f2.2.2.2.2.2,a7 f6⟩,⟨f3.1,f3.2.1,f3.2.2.1,f3.2.2.2.1,f3.2.2.2.2.1,f3.2.2.2.2.2,a7 b5⟩,hr,?_,b5,i3.trans (f9.mono (Ps _)),b5.lt⟩;rw[S,<-b3,<-I];exact h7
      obtain⟨y0,y1,y2,y3,y4,y5⟩:=a3 b0;have yc:=a7 b7;have j6:wr.heap.size<K.heap.size:=(ZAa.1 b0).1;have g1:M6 (n+1=(aaH G fs (k+1)).length):=by show n+1=_;rw[S,Ns,<-J];rfl
      clear B j a S F b9 M R P Q N O a0 Y T b0 b7 d5 d2 a3 a7 I b3 J d1 l
      go_wp2_with fail
      rw[<-a9];clear a9
      go_region_held3 (fun X=>X.cell? ⟨wr.heap.size,0,MH⟩=MI (yB (b:Int))/\X.cell? ⟨wr.heap.size,1,MH⟩=MI (yB 2)/\X.cell? ⟨wr.heap.size,2,MH⟩=MI (yB E)/\X.cell? ⟨wr.heap.size,3,MH⟩=MI (yB C)/\X.cell? ⟨wr.heap.size,4,MH⟩=MI (yB D)/\X.cell? ⟨wr.heap.size,5,MH⟩=MI (yB A)/\X.cell? ⟨w.heap.size,b,MH⟩=MI (yB d)) (first|exact⟨y0,y1,y2,y3,y4,y5,yc⟩|exact h8|exact i1|exact g4) (first|(go_at_call 220;refine(g6.out _ (by first|exact(MY _ _).drew|exact Below.refl _ _)).mono ?_;rintro r w4 ⟨rfl,q,Z,s,h8,i1,g4,hQ⟩)|(refine aec (by rfl) _ _ 289 (by rfl) _ _ _ _ (by rfl) (by rfl) hQ.out.1 ?_))
      all_goals
       go_wp2
       go_roundw
       case rel=>exact⟨k+1,MI ⟨q,0,MH⟩,n+1,Z,rfl,by simp,hlt,g1.out,hQ.out.2.1,hQ.out.2.2.1,hQ.out.2.2.2.1,hQ.out.2.2.2.2⟩
       case measure=>simp[intOf];omega
     ·have F:=F h2
      have j2:(x2 == 2)=false:=by rw[Oh];exact h2
      have L:M6 (_/\_/\_/\_/\_/\_):=⟨B,j,a,d0,J,F⟩;clear B j a S F b9 M R P Q N O a0 Y J d1 l;go_wp2
      go_roundw
      case rel =>
       obtain⟨B,j,a,d0,J,F⟩:=L.out;refine⟨k+1,p,n,c,rfl,by simp,hlt,by rw[F];exact J,by rw[F];exact B.alloc _,j.below (WQ _),a.alloc (by omega) _,by simp;omega⟩
      case measure=>simp[intOf];omega
    ·obtain rfl:k=G.liv.length:=by omega
     have i8:¬((G.liv.length:Int)<(G.liv.length:Int)):=by omega
     rw[apX]at J B;have L:M6 (_/\_/\_):=⟨B,a,J⟩;clear B a J j;go_wp2;go_ret;refine⟨_,rfl,?_,L.out.2.1⟩;have h9:=Yr L.out.1;rw[ak5,L.out.2.2]at h9;rw[L.out.2.2];exact h9
end
section
variable {base:Nat}{w:MO}{g:Nat}{V:Vs}{G:Gt}
abbrev ag8(G:Gt):Obj:=MP #[yB G.cfg.flows,yB G.cfg.num,yB G.cfg.den,yB G.cfg.tries,yB G.cfg.warm,yB G.cfg.drain,yB G.cfg.idle,yB G.cfg.conn,yB G.cfg.ret,yB G.cfg.most,yB G.cfg.bn,yB G.cfg.bd,yB G.cfg.bb,yB G.cfg.wn,yB G.cfg.wf,yB G.cfg.wh] 36
theorem ahb(h:OR base w g V G)(hbs:Bs G)(hkey:0<=key/\key<=4294967295)(v:M7)(fs:List Fl)(hv:ZR w v fs)(hfs:∀f∈fs,0<=f.be/\f.be<12)(hl:fs.length<=40):
  Ni MK 109 #[gP g,yB key,v] w fun r w'=>r=MN (Nv #[yB (XD G key fs).1,M3 ((XD G key fs).2 == 0)])/\yA w w':=by
 obtain⟨D,rfl⟩:=NL hkey.1;obtain⟨N,P,rfl,b0,Y,_⟩:=hv.F6;unfold NE at Y;obtain⟨j,B⟩:=yE (acy (WW G.wts) (abp D:Nat));have C:=auo (MG V.ps (WW G.wts).length V.cs) G.wts D w hbs.wts h.rest.ring.now (by omega);rw[<-B]at C;have U:=h.GX;have b2:=h.lt;obtain⟨O,E⟩:=yE (XD G (D:Int) fs);have K:O=ab6 j (aab G fs) G.cfg.num G.cfg.den (fs.length:Int) G.cfg.tries:=by
  rw[E,B];unfold XD ahS;rw[NR]
 rw[<-E];have H:M6 (_/\_/\_/\_/\_/\_/\_):=⟨h,hbs,hv,hfs,hl,C,K⟩;clear h hbs hv hfs C E K B hkey;go_enter Tryz.func109,Tryz.ntmps109
 go_wp2_with fail
 refine Nd H.out.2.2.2.2.2.1 ?_;rintro r e ⟨p,c,rfl,L,n⟩;have a:=H.out.1.below n;have c0:=a.c0;have c1:=a.c1;have c2:=a.c2;have c3:=a.c3;have c4:=a.c4;have c5:=a.c5;have c6:=a.c6;have c7:=a.c7;have c8:=a.c8;have c9:=a.c9;have Z:=a.Hf;have a5:=a.Hn;have a7:=a.Hg;have S:=a.GS;have R:=a.GU;have a8:=a.GO;have a9:=a.lt;obtain⟨W,t⟩:=yE (e.alloc (ag8 G));have q:yA e W:=by rw[t];exact WQ e
 have s:W.heap[e.heap.size]?=MI (ag8 G):=by rw[t];exact M1 _ _
 have F:=a.below q;have x:yA w W:=n.trans (q.mono n.size);have J:ZR W (MG N fs.length P) fs:=Xw.below H.out.2.2.1 x;have I:abE W (MG p j.length c) j:=Yr (YI L q);have o:∀ {X:MO},X.heap[e.heap.size]?=MI (ag8 G)->X.cell? ⟨e.heap.size,1,MH⟩=MI (yB G.cfg.num)/\X.cell? ⟨e.heap.size,2,MH⟩=MI (yB G.cfg.den)/\X.cell? ⟨e.heap.size,3,MH⟩=MI (yB G.cfg.tries):=fun {X} hX =>
  ⟨by rw[MW X _ 1 _ _ (0,0) hX];rfl,by rw[MW X _ 2 _ _ (0,0) hX];rfl,by rw[MW X _ 3 _ _ (0,0) hX];rfl⟩
 have a3:M6 (∀X,yA W X->Ni MK 160 #[gP g,MG N fs.length P] X fun r w'=>∃z m d,r=MN (MG z m d)/\(w'.cell? ⟨e.heap.size,1,MH⟩=MI (yB G.cfg.num)/\w'.cell? ⟨e.heap.size,2,MH⟩=MI (yB G.cfg.den)/\w'.cell? ⟨e.heap.size,3,MH⟩=MI (yB G.cfg.tries))/\M6 (aaR w' (MG z m d) (aab G fs)/\yA W w')):=by
  refine fun X hX=>(ap1 (F.below hX) H.out.2.1 _ fs (Xw.below J hX) H.out.2.2.2.1 H.out.2.2.2.2.1).mono ?_
  rintro r w' ⟨y,rfl,u,A⟩;obtain⟨z,d,rfl,_⟩:=u.F6;have l:=hX.trans (A.mono hX.size);exact⟨z,_,d,rfl,o (WO s l),u,l⟩
 have HP:M6 (∀X z m d,yA W X->aaR X (MG z m d) (aab G fs)->Ni MK 159 #[MG p j.length c,MG z m d,yB G.cfg.num,yB G.cfg.den,yB (fs.length:Int),yB G.cfg.tries] X fun r w'=>r=MN (Nv #[yB O.1,yB O.2])/\(w'.cell? ⟨e.heap.size,1,MH⟩=MI (yB G.cfg.num)/\w'.cell? ⟨e.heap.size,2,MH⟩=MI (yB G.cfg.den)/\w'.cell? ⟨e.heap.size,3,MH⟩=MI (yB G.cfg.tries))/\M6 (yA W w')):=by
  refine fun X z m d hX u=>(atd (MG p j.length c) (MG z m d) j (aab G fs) G.cfg.num G.cfg.den (fs.length:Int) G.cfg.tries X (I.below hX) u).mono ?_
  rw[<-H.out.2.2.2.2.2.2];rintro r w' ⟨rfl,A⟩;have l:=hX.trans (A.mono hX.size);exact⟨rfl,o (WO s l),l⟩
 have a0:=o s;have M:M6 _:=x;clear a F n q s J I o x L
 go_wp2_with fail
 rw[<-t];clear t c0 c1 c2 c3 c4 c5 c6 c7 c8 c9 Z a5 a7 S R a8 U
 go_region_held3 (fun X=>X.cell? ⟨e.heap.size,1,MH⟩=MI (yB G.cfg.num)/\X.cell? ⟨e.heap.size,2,MH⟩=MI (yB G.cfg.den)/\X.cell? ⟨e.heap.size,3,MH⟩=MI (yB G.cfg.tries)) (first|exact a0|exact a4|exact a6) (first|(go_at_call 160;refine(a3.out _ (by first|exact(MY _ _).drew|exact Below.refl _ _)).mono ?_;rintro r w4 ⟨z,m,d,rfl,a4,Q⟩)|(go_at_call 159;refine(HP.out _ z m d Q.out.2 Q.out.1).mono ?_;rintro r w5 ⟨rfl,a6,T⟩))
 all_goals
  go_wp2
  go_ret2
  exact⟨rfl,M.out.trans (T.out.mono M.out.size)⟩
end
section
variable {base:Nat}{w:MO}{g:Nat}{V:Vs}{G:Gt}
theorem ao8{w':MO}{r:Ending}{G':Gt}(h:aaa base w g V G' r w'):aam base w g V G' r w':=by
 obtain⟨c,f,d,a,e⟩:=h;exact⟨c,f,d,a.2.2,e⟩
theorem aqb(h:OR base w g V G)(hbs:Bs G)(hw:G.wnow=G.now)(hl:G.out.length<=900000)(hkey:0<=key/\key<=4294967295):
  Ni MK 74 #[gP g,yB key] w (aam base w g V (aaI G key)):=by
 have J:M6 _:=aoR (MG V.pt G.tab.length V.ct) G.tab w h.rest.tab.now;have d5:=h.Gs;have g5:=h.lt;have e8:∀f∈G.fls,0<=f.be/\f.be<12:=fun f hf=>(hbs.F9 hf).2.2.2
 have H:M6 (_/\_/\_/\_):=⟨h,hbs,hl,e8⟩;obtain⟨O,a⟩:=yE (aaI G key);rw[<-a];have Z:=a;unfold aaI at a;clear h hbs hl e8;cases hfree:G.tab.any Y1
 ·rw[hfree,Nh rfl]at a
  rw[hfree]at J;have HO:M6 _:=a;clear a Z;go_enter Vj,Vd
  go_wp2_with fail
  refine Nd J.out ?_;rintro r w1 ⟨rfl,m⟩;have o:M6 (_/\_):=⟨af1 (H.out.1.below m) (by have:=H.out.2.2.1;omega) 2 9,WV.F5 (V:=V) (g:=g) m⟩;clear m
  go_wp2_with fail
  refine Nd o.out.1 ?_;rintro r w2 ⟨rfl,V2,s,I,F⟩;have p:M6 (_/\_/\_):=⟨s,I.2.2,o.out.2.F0 F⟩;clear s I F;go_wp2
  go_end0
  rw[HO.out];exact⟨rfl,V2,p.out.1,p.out.2.1,p.out.2.2⟩
 ·rw[hfree,Nf (by decide)]at a
  rw[hfree]at J;obtain⟨⟨K,P⟩,q⟩:∃P,P=XD G key G.fls:=⟨_,rfl⟩
  by_cases hc0:P=0
  ·subst hc0
   rw[<-q]at a;simp only[]at a;rw[Nf (by decide)]at a;have T:=H.out.2.1.Ib (key:=key) H.out.2.1.Gb (by rw[<-q]);rw[<-q]at T;have a9:0<=K/\K<12:=T.2;obtain⟨d,B⟩:=yE (abv G key K);obtain⟨i,Q⟩:=yE (Y3 G.fls (Y8 G.tab key K).2.1.1);rw[<-B,<-Q]at a;have b2:Bs d:=by rw[B];exact H.out.2.1.Jn hfree hkey a9
   have d0:i<d.fls.length:=by
    rw[B,Q];show Y3 G.fls _<(Xi G.fls _ (Y3 G.fls _)).length;rw[ad1 _ _ (ad4 _ _)];have:=ad4 G.fls (Y8 G.tab key K).2.1.1;omega
   have z:d.cfg=G.cfg/\d.now=G.now/\d.wnow=G.wnow/\d.tok=G.tok/\d.out=G.out:=by rw[B];exact⟨rfl,rfl,rfl,rfl,rfl⟩
   have c:M6 (_/\_/\_/\_/\_/\_/\_/\_):=⟨a,b2,d0,z,a9,B,Q,hw⟩;have a6:M6 _:=q;clear a Z b2 z a9 B Q T hw q d0;go_enter Vj,Vd
   go_wp2_with fail
   refine Nd J.out ?_;rintro r w1 ⟨rfl,m⟩;have l:=H.out.1.below m;have d4:=l.Gr;have b0:=l.lt;have A:=ahb l H.out.2.1 hkey _ G.fls l.GK H.out.2.2.2 H.out.2.1.Gb;rw[<-a6.out]at A;have o:M6 (_/\_/\_):=⟨A,l,WV.F5 (V:=V) (g:=g) m⟩;clear m l A d5
   go_wp2_with fail
   refine Nd o.out.1 ?_;rintro r w2 ⟨rfl,y⟩;have s:=o.out.2.1.below y;have a5:=aql s H.out.2.1 hfree hkey c.out.2.2.2.2.1;rw[<-c.out.2.2.2.2.2.1,<-c.out.2.2.2.2.2.2.1]at a5;have p:M6 (_/\_):=⟨a5,o.out.2.2.below y⟩;clear y s a5 d4 b0
   go_wp2_with fail
   refine Nd p.out.1 ?_;rintro r w3 ⟨V3,bf,rfl,M,R,b3,b7⟩;have e7:w3.cell? ⟨g,7,MH⟩=MI (yB G.cfg.conn):=by rw[<-c.out.2.2.2.1.1];exact M.c7
   have f5:=M.lt;have d3:=H.out.2.1.now;have z:=c.out.2.2.2.1;have d2:=af2 M c.out.2.2.1 R (n:=G.cfg.conn) H.out.2.1.conn (c.out.2.1.F9 (Nk c.out.2.2.1)).1 (by rw[z.2.2.1,z.2.1];exact c.out.2.2.2.2.2.2.2) (by rw[z.2.1];exact d3);have v:M6 (_/\_/\_/\_):=⟨d2,p.out.2.F0 b7,R,b3⟩;clear M b7 R b3 d2 d3 z
   go_wp2_with fail
   refine Nd v.out.1 ?_;rintro r E ⟨rfl,V4,u,a8,b5⟩;obtain⟨j,L⟩:=yE (YW d i G.cfg.conn);rw[<-L]at u;have x:j.cfg=d.cfg/\j.tok=d.tok/\j.out=d.out/\j.fls.length=d.fls.length:=by rw[L];exact⟨rfl,rfl,rfl,by show(d.fls.set i _).length=_;rw[NA]⟩
   have a7:i<j.fls.length:=by rw[x.2.2.2];exact c.out.2.2.1
   have b8:V4.pf=MI ⟨bf,0,MH⟩:=a8.1.trans v.out.2.2.1;obtain⟨f,a4⟩:=yE (j.fls[i]);have fc:∀(X:MO) (V':Vs) (t:Int),OR base X g V' {j with tok:=t}->V'.pf=MI ⟨bf,0,MH⟩->X.cell? ⟨bf,i*7,MH⟩=MI (yB f.slot)/\X.cell? ⟨bf,i*7+1,MH⟩=MI (yB f.gen)/\X.cell? ⟨bf,i*7+2,MH⟩=MI (yB f.key)/\X.cell? ⟨bf,i*7+3,MH⟩=MI (yB f.be)/\X.cell? ⟨bf,i*7+4,MH⟩=MI (M3 f.srv)/\X.cell? ⟨bf,i*7+5,MH⟩=MI (yB f.ret)/\X.cell? ⟨bf,i*7+6,MH⟩=MI (yB f.due):=fun X V' t hX hp=>by
    rw[a4];exact hX.Gl hp a7
   have f8:E.cell? ⟨g,10,MH⟩=MI (yB G.cfg.bn):=by rw[<-c.out.2.2.2.1.1,<-x.1];exact u.Hf
   have g4:E.cell? ⟨g,11,MH⟩=MI (yB G.cfg.bd):=by rw[<-c.out.2.2.2.1.1,<-x.1];exact u.Hn
   have f6:E.cell? ⟨g,12,MH⟩=MI (yB G.cfg.bb):=by rw[<-c.out.2.2.2.1.1,<-x.1];exact u.Hg
   have d8:E.cell? ⟨g,23,MH⟩=MI (yB G.tok):=by rw[<-c.out.2.2.2.1.2.2.2.1,<-x.2.1];exact u.Id
   have f0:=u.lt;obtain⟨tk,Y⟩:=yE ((aa9 G.cfg.bn G.cfg.bd G.cfg.bb G.tok).1);have b4:=v.out.2.1.F0 b5;have HE:M6 (∀X,yA E X->Ni MK 112 #[Ny #[yB G.cfg.bn,yB G.cfg.bd,yB G.cfg.bb],Ny #[yB G.tok]] X fun r C=>∃e,r=MN (Nv #[Ny #[yB tk],yB e])/\C.cell? ⟨g,23,MH⟩=MI (yB G.tok)/\C.frozen? ⟨g,23,MH⟩=Nb/\g<C.heap.size/\M6 (OR base (C.setCell ⟨g,23,MH⟩ (yB tk)) g V4 {j with tok:=tk}/\WV V V4 g w (C.setCell ⟨g,23,MH⟩ (yB tk)))):=by
    refine fun X hX=>(ajR G.cfg.bn G.cfg.bd G.cfg.bb G.tok X).mono ?_
    rintro r C ⟨rfl,g1⟩;have S:=hX.trans (g1.mono hX.size);have a3:=u.below S;exact⟨_,by rw[Y],(S.cell f0).trans d8,a3.fz 23,a3.lt,a3.IC tk,(b4.below S).F4 23 _⟩
   have D:M6 (_/\_/\_/\_/\_/\_):=⟨fc,b8,a8.2.2.trans v.out.2.2.2,x,L,Y⟩;have g0:M6 (f=Xs j i):=by show f=_;rw[XA a7,a4]
   clear u a8 b5 x L fc b8 b4 Y a4 a7 e7 f5
   go_wp2_with fail
   go_region_with (first|(go_at_call 112;refine(HE.out _ (by first|exact(MY _ _).drew|exact Below.refl _ _)).mono ?_;rintro r w5 ⟨ee,rfl,g3,f9,e9,hQ⟩))
   all_goals
    obtain⟨w6,U⟩:=yE (w5.setCell ⟨g,23,MH⟩ (yB tk));have N:=hQ.out.1;have a0:=hQ.out.2;rw[<-U]at N a0;obtain⟨x0,x1,x2,x3,x4,x5,x6⟩:=D.out.1 _ _ _ N D.out.2.1;have d7:({j with tok:=tk}:Gt).out.length<=1000000:=by show j.out.length<=1000000;rw[D.out.2.2.2.1.2.2.1,c.out.2.2.2.1.2.2.2.2];have:=H.out.2.2.1;omega
    have H6:M6 (_/\_):=⟨aeP N d7 1 f,a0⟩;clear hQ N a0 d7 g3 f9 e9 f8 g4 f6 d8;rw[<-U];clear U
    go_wp2_with fail
    refine Nd H6.out.1 ?_;rintro r w7 ⟨rfl,V7,b9,d1,b6⟩;have H7:M6 (_/\_/\_):=⟨b9,d1.2.2.trans D.out.2.2.1,H6.out.2.F0 b6⟩;clear b9 d1 b6;go_wp2
    go_end0
    have hz:O=abi {j with tok:=tk} 1 f:=by rw[c.out.1,g0.out,D.out.2.2.2.2.2,D.out.2.2.2.2.1]
    rw[hz];exact⟨rfl,V7,H7.out.1,H7.out.2.1,H7.out.2.2⟩
  ·rw[<-q]at a
   simp only[]at a;rw[Nh hc0]at a;have g2:(P == 0)=false:=by rw[Oh];exact hc0
   have HO:M6 _:=a;have a6:M6 _:=q;clear a Z q;go_enter Vj,Vd
   go_wp2_with fail
   refine Nd J.out ?_;rintro r w1 ⟨rfl,m⟩;have l:=H.out.1.below m;have d4:=l.Gr;have b0:=l.lt;have A:=ahb l H.out.2.1 hkey _ G.fls l.GK H.out.2.2.2 H.out.2.1.Gb;rw[<-a6.out,g2]at A;have o:M6 (_/\_/\_):=⟨A,l,WV.F5 (V:=V) (g:=g) m⟩;clear m l A d5
   go_wp2_with fail
   refine Nd o.out.1 ?_;rintro r w2 ⟨rfl,y⟩;have p:M6 (_/\_):=⟨af1 (o.out.2.1.below y) (by have:=H.out.2.2.1;omega) 2 11,o.out.2.2.below y⟩;clear y
   go_wp2_with fail
   refine Nd p.out.1 ?_;rintro r w3 ⟨rfl,V2,s,I,F⟩;have v:M6 (_/\_/\_):=⟨s,I.2.2,p.out.2.F0 F⟩;clear s I F;go_wp2
   go_end0
   rw[HO.out];exact⟨rfl,V2,v.out.1,v.out.2.1,v.out.2.2⟩
end
end
end Go.Proofs.YtbdpocjfnnojbaaGreatDoor.Q
