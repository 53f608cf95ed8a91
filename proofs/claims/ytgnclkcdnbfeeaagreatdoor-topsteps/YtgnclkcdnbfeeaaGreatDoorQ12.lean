/-
  Contracts of the layers and of core, part 12. Conditions: as each theorem says.
-/
import Derived.Test.YtgnclkcdnbfeeaaGreatDoorQ1
import Derived.Test.YtgnclkcdnbfeeaaGreatDoorQ2
import Derived.Test.YtgnclkcdnbfeeaaGreatDoorQ4
import Derived.Test.YtgnclkcdnbfeeaaGreatDoorQ5
import Derived.Test.YtgnclkcdnbfeeaaGreatDoorQ6
import Derived.Test.YtgnclkcdnbfeeaaGreatDoorQ7
import Derived.Test.YtgnclkcdnbfeeaaGreatDoorQ8
import Derived.Test.YtgnclkcdnbfeeaaGreatDoorQ9
import Derived.Test.YtgnclkcdnbfeeaaGreatDoorQ10
open Bool renaming and_eq_true->Po,false->Nb,true->Nw
open Decidable renaming decide->Nn
open Int renaming le_refl->Qh,mul_le_mul->Px,toNat_natCast->NR
open List renaming ext_getElem->PX,find?_cons_of_neg->Pr,find?_cons_of_pos->Ql,findIdx_cons->Tc,foldl_cons->O4,getElem?_eq_getElem->MR,getElem?_set_ne->N3,getElem_cons_zero->MS,getElem_map->QZ,getElem_mem->Nk,getElem_of_mem->NV,getElem_set->Pc,length_append->Ns,length_cons->Ox,length_drop->NJ,length_filter_le->O1,length_map->N0,length_set->NA,length_take->NH,map_congr_left->PU,map_cons->OA,mem_append_right->Qq,mem_cons->OO,mem_cons_of_mem->NB,mem_cons_self->NM,mem_map_of_mem->Ri,mem_or_eq_of_mem_set->OB,set_append_right->Pw,set_cons_succ->MM,set_cons_zero->ML,take_append_drop->Oo,take_succ_cons->PT
open Nat renaming le_refl->MV,le_trans->Nm,lt_or_gt_of_ne->QM,min_eq_left->P1
open Ne renaming symm->Pi
open Option renaming getD_some->OV,some->MI
open Or renaming inl->Nt,inr->NF
open Prod renaming ext->Q8
open Prod.mk renaming injEq->Q7
namespace Go.Proofs.YtgnclkcdnbfeeaaGreatDoor.Q
set_option linter.unusedVariables false
set_option linter.unusedSimpArgs false
set_option maxHeartbeats 16000000
set_option maxRecDepth 100000
open Go.RowKit
attribute [local go_sem ↓] Go.wp_at_zero Go.wp_at_succ
variable {d n t:Int}{i:Nat}{α:Type}
abbrev awV:=Lf
variable {L:List awV}{l:awV}
abbrev aw0:=Rq
variable {R:List aw0}
abbrev awY:=Sl
structure Fl where
 slot:Int
 gen:Int
 key:Int
 be:Int
 srv:Bool
 ret:Int
 due:Int
 deriving DecidableEq
variable {f y:Fl}{fs:List Fl}
structure Ou where
 kind:Int
 slot:Int
 gen:Int
 be:Int
 req:Int
 code:Int
 why:Int
 deriving DecidableEq
structure He where
 marks:List Bool
 out:Bool
 till:Int
 times:Int
 deriving DecidableEq
structure Gt where
 cfg:Cf
 now:Int
 tab:List awY
 fls:List Fl
 liv:List awV
 req:List aw0
 wts:List Int
 hea:List He
 tok:Int
 wnow:Int
 tms:Tm->Prop
 out:List Ou
abbrev XM:He:=⟨[],Nb,0,0⟩
abbrev ao0:Fl:=⟨0,0,0,0,Nb,0,0⟩
abbrev aa1:awV:=(0,0,0,0,0,0)
abbrev adg(c:Cf):Prop :=
 (1<=c.flows/\c.flows<=40)/\(1<=c.den/\c.den<=c.num)/\c.num<=20/\(0<=c.tries/\c.tries<=12)/\(0<=c.warm/\c.warm<=500) /\
 (1<=c.drain/\c.drain<=500)/\(1<=c.idle/\c.idle<=500)/\(1<=c.conn/\c.conn<=500)/\(0<=c.ret/\c.ret<=20)/\(0<=c.most/\c.most<=100) /\
 Zp c.bn c.bd c.bb/\ZT c.wn c.wf c.wh
def WS(L:List awV)(b:Int):awV:=(L.find? fun x=>x.1 == b).getD aa1
abbrev WY(L:List awV)(b:Int):Int:=(WS L b).2.1
def abu(fs:List Fl)(b:Int):Nat:=fs.countP fun f=>f.be == b
def Zr(fs:List Fl)(b:Int):Bool:=fs.any fun f=>f.be == b
def ZM(G:Gt)(o:Ou):Gt:={G with out:=G.out++[o]}
def acm(G:Gt)(k c:Int):Gt:=ZM G ⟨k,0,0,0,0,c,0⟩
def abi(G:Gt)(k:Int)(f:Fl):Gt:=ZM G ⟨k,f.slot,f.gen,f.be,0,0,0⟩
def aeQ(G:Gt)(b r:Int):Gt:=ZM G ⟨9,0,0,b,r,0,0⟩
def aaF(fs:List Fl)(s:Int):Nat:=fs.findIdx fun f=>f.slot == s
def Yf(G:Gt)(b:Int):Gt :=
 if WY G.liv b=3/\Zr G.fls b=Nb then
  aeQ {G with liv:=(aau G.liv G.req b).1.1,req:=(aau G.liv G.req b).1.2} b (WS G.liv b).2.2.2.2.2
 else G
def abV(G:Gt)(l:awV):Int :=
 if(G.hea.getD l.1.toNat XM).out then 0 else aw1 l.2.2.1 (G.now-l.2.2.2.1) G.cfg.warm
def aab(G:Gt)(fs:List Fl):List (Int×Int×Int):=
 (G.liv.filter fun l=>l.2.1 == 2).map fun l=>(l.1,abV G l,(abu fs l.1:Int))
def ahS(G:Gt)(key:Int):List Int:=acy (WW G.wts) (abp key.toNat:Nat)
def XD(G:Gt)(key:Int)(fs:List Fl):Int×Int :=
 ab6 (ahS G key) (aab G fs) G.cfg.num G.cfg.den (fs.length:Int) G.cfg.tries
def abN(L:List awV):Nat:=L.countP fun l=>l.2.1 == 2
def abf(L:List awV)(H:List He):Nat:=L.countP fun l=>(l.2.1 == 2) && (H.getD l.1.toNat XM).out
def abS(G:Gt)(b:Int):Bool :=
 (acP (abf G.liv G.hea:Int) (abN G.liv:Int) G.cfg.most).1 && (WY G.liv b == 2)
def afO(x:List Bool×Bool×Int×Int):He:=⟨x.1,x.2.1,x.2.2.1,x.2.2.2⟩
def afT(G:Gt)(b:Int)(failed:Bool):He :=
 afO (Zt G.cfg.wn G.cfg.wf G.cfg.wh (G.hea.getD b.toNat XM).marks (G.hea.getD b.toNat XM).out (G.hea.getD b.toNat XM).till (G.hea.getD b.toNat XM).times failed G.now (abS G b)).1
def Yh(G:Gt)(b:Int)(failed:Bool):Gt:={G with hea:=G.hea.set b.toNat (afT G b failed)}
def aeG(G:Gt)(s:Int):Gt:={G with tms:=fun t=>G.tms t/\t.2≠s}
def Xs(G:Gt)(i:Nat):Fl:=G.fls.getD i ao0
def Y4(G:Gt)(i:Nat)(f:Fl):Gt:={G with fls:=G.fls.set i f}
def YW(G:Gt)(i:Nat)(ticks:Int):Gt :=
 {G with fls:=G.fls.set i {Xs G i with due:=G.now+ticks},tms:=fun t=>(G.tms t/\t.2≠(Xs G i).slot)\/t=(G.now+ticks,(Xs G i).slot)}
def Yl(fs:List Fl)(s g:Int):List Fl:=fs.filter fun f=>!((f.slot == s) && (f.gen == g))
def Yg(G:Gt)(f:Fl)(kind why:Int):Gt :=
 Yf (ZM {G with tab:=(ZQ G.tab f.slot f.gen).1,fls:=Yl G.fls f.slot f.gen,tms:=fun t=>G.tms t/\t.2≠f.slot} ⟨kind,f.slot,f.gen,f.be,0,0,why⟩) f.be
def ZL(G:Gt)(i:Nat)(b:Int):Gt :=
 let f:=Xs G i
 let G1:=Y4 {G with tab:=(Y0 G.tab f.slot f.gen b).1} i {f with be:=b,ret:=f.ret+1}
 let G2:=YW G1 i G.cfg.conn
 Yf (abi G2 5 (Xs G2 i)) f.be
def YP(G:Gt)(i:Nat)(why:Int):Gt :=
 let f:=Xs G i
 let G1:=Yh G f.be Nw
 let s:=Zh G.cfg.bn G.cfg.bd G.cfg.bb G.tok
 if f.ret=G.cfg.ret\/s.2≠0 then Yg G1 f 6 why
 else
  let c:=XD G1 f.key (Yl G.fls f.slot f.gen)
  if c.2≠0 then Yg G1 f 6 4
  else ZL {G1 with tok:=s.1} i c.1
def abh(G:Gt)(i:Nat):Gt :=
 let f:=Xs G i
 let G1:=YW (Y4 (Yh G f.be Nb) i {f with srv:=Nw}) i G.cfg.idle
 abi G1 4 (Xs G1 i)
def aaZ(G:Gt)(i:Nat):Gt :=
 let G1:=if(Xs G i).srv then YW G i G.cfg.idle else G
 abi G1 3 (Xs G1 i)
def Y1(t:awY):Bool:=!t.2.1 && (t.1 != 1048576)
def Y3(fs:List Fl)(s:Int):Nat:=fs.findIdx fun f=>Nn (s<f.slot)
def abv(G:Gt)(key b:Int):Gt :=
 let o:=Y8 G.tab key b
 {G with tab:=o.1,fls:=Xi G.fls ⟨o.2.1.1,o.2.1.2,key,b,Nb,0,0⟩ (Y3 G.fls o.2.1.1)}
def aaI(G:Gt)(key:Int):Gt :=
 if G.tab.any Y1=Nb then acm G 2 9
 else
  let c:=XD G key G.fls
  if c.2≠0 then acm G 2 11
  else
   let i:=Y3 G.fls (Y8 G.tab key c.1).2.1.1
   let G2:=YW (abv G key c.1) i G.cfg.conn
   abi {G2 with tok:=(aa9 G.cfg.bn G.cfg.bd G.cfg.bb G.tok).1} 1 (Xs G2 i)
def aaq(G:Gt)(e:Ev):Gt :=
 let c:=(Yj G.tab e.slot e.gen).2
 if c≠0 then acm G 10 c
 else
  let i:=aaF G.fls e.slot
  if e.kind=3 then Yg G (Xs G i) 7 0
  else if e.kind=2 then aaZ G i
  else if(Xs G i).srv then acm G 10 7
  else if e.good then abh G i
  else YP G i 3
def YV(G:Gt)(kind:Int)(e:Ev):ae1:=ZU G.liv G.req (e.req,kind,e.be,e.wt,0) G.now G.cfg.drain
def Yv(G:Gt)(kind:Int)(e:Ev):Gt :=
 ZM {G with liv:=(YV G kind e).1.1,req:=(YV G kind e).1.2} ⟨8,0,0,0,e.req,(YV G kind e).2.1,0⟩
def acC(G:Gt)(kind:Int)(e:Ev):Bool:=(YV G kind e).2.2.1 && ((YV G kind e).2.1 == 0)
def abg(G:Gt)(e:Ev):Gt :=
 if acC G 2 e=Nb then Yv G 2 e
 else if WY G.liv e.be=1 then aeQ (Yv G 2 e) e.be e.req
 else Yf {Yv G 2 e with wts:=G.wts.set e.be.toNat 0} e.be
def YX(G:Gt)(b:Int):Gt:={G with hea:=G.hea.set b.toNat XM,wts:=G.wts.set b.toNat (WS G.liv b).2.2.1}
def YH(G:Gt):Gt :=
 (abn G.liv G.req G.now).2.1.foldl YX {G with liv:=(abn G.liv G.req G.now).1.1,req:=(abn G.liv G.req G.now).1.2}
def abO(G:Gt)(h:He):He:=afO (Ze G.cfg.wn G.cfg.wf G.cfg.wh h.marks h.out h.till h.times G.now).1
def aaC(G:Gt):Gt:={G with hea:=G.hea.map (abO G)}
def X5(G:Gt)(s:Int):Gt :=
 let i:=aaF G.fls s
 if(Xs G i).srv then Yg G (Xs G i) 6 1 else YP G i 5
def aaD(fs:List Fl)(n:Int):List Int:=(fs.filter fun f=>f.due == n).map (·.slot)
def Zs(G:Gt):Gt:=(aaD G.fls (G.wnow+1)).foldl X5 {G with wnow:=G.wnow+1,tms:=fun t=>G.tms t/\t.1≠G.wnow+1}
def Ye(G:Gt)(h:Tm):Gt:=Yg G (Xs G (aaF G.fls h.1)) 6 2
def Zd(G:Gt)(l:awV):Gt :=
 if l.2.1≠3\/G.now<l.2.2.2.2.1 then G else(YL l.1 G.tab).foldl Ye G
def acG(G:Gt):Gt:=G.liv.foldl Zd G
def abj(G:Gt):Gt:=acG (Zs (aaC (YH {G with now:=G.now+1})))
def Xb(G:Gt)(e:Ev):Gt :=
 if e.kind=1 then aaI G e.key
 else if e.kind=5 then Yv G 1 e
 else if e.kind=6 then abg G e
 else if e.kind=7 then abj G
 else aaq G e
abbrev aeE:=Int×Int×Int×Int
def Xx:Int->List awY->List aeE
 |_,[]=>[]
 |n,t::l=>if t.2.1=Nw then(n,t.1,t.2.2.1,t.2.2.2)::Xx (n+1) l else Xx (n+1) l
abbrev Fl.F8(f:Fl):aeE:=(f.slot,f.gen,f.key,f.be)
theorem aeM:∀ {n:Int} {l:List awY} {s:aeE},s∈Xx n l↔∃(i:Nat) (h:i<l.length),s.1=n+i/\l[i].2.1=Nw/\s.2=(l[i].1,l[i].2.2.1,l[i].2.2.2)
 |n,[],s=>by simp[Xx]
 |n,t::l,s=>by
  have a:=@aeM (n+1) l s;have b:(∃(i:Nat) (h:i<(t::l).length),s.1=n+i/\(t::l)[i].2.1=Nw/\s.2=((t::l)[i].1,(t::l)[i].2.2.1,(t::l)[i].2.2.2))↔(s.1=n/\t.2.1=Nw/\s.2=(t.1,t.2.2.1,t.2.2.2))\/s∈Xx (n+1) l:=by
   rw[a];constructor
   ·rintro⟨i,hi,h1,h2,h3⟩
    cases i with
    |zero=>exact Nt ⟨by simpa using h1,h2,h3⟩
    |succ i=>exact NF ⟨i,by simpa using hi,by rw[h1];push_cast;omega,h2,h3⟩
   ·rintro(⟨h1,h2,h3⟩|⟨i,hi,h1,h2,h3⟩)
    ·exact⟨0,by simp,by simpa using h1,h2,h3⟩
    ·exact⟨i+1,by simpa using hi,by rw[h1];push_cast;omega,h2,h3⟩
  rw[b,show Xx n (t::l)=if t.2.1=Nw then(n,t.1,t.2.2.1,t.2.2.2)::Xx (n+1) l else Xx (n+1) l from rfl]
  split
  case isTrue h =>
   rw[OO];constructor
   ·rintro(rfl|h1)
    ·exact Nt ⟨rfl,h,rfl⟩
    ·exact NF h1
   ·rintro(⟨h1,_,h3⟩|h1)
    ·exact Nt (Q8 h1 h3)
    ·exact NF h1
  case isFalse h =>
   constructor
   ·exact NF
   ·rintro(⟨_,h2,_⟩|h1)
    ·exact absurd h2 h
    ·exact h1
theorem afZ{l:List awY}{s:aeE}(h:s∈Xx n l):n<=s.1:=by
 obtain⟨i,_,a,_⟩:=aeM.1 h;omega
theorem ahH:∀ {n:Int} {l:List awY},(Xx n l).Pairwise (fun a b=>a.1<b.1)
 |n,[]=>by simp[Xx]
 |n,t::l=>by
  unfold Xx
  split
  case isTrue h=>exact List.pairwise_cons.2 ⟨fun s hs=>by have:=afZ hs;show n<s.1;omega,ahH⟩
  case isFalse h=>exact ahH
theorem ak8:∀ {n:Int} {l:List awY},(Xx n l).length<=l.length
 |n,[]=>by simp[Xx]
 |n,t::l=>by
  have:=@ak8 (n+1) l;unfold Xx
  split <;> simp <;> omega
theorem ak6{x:awY}(hx:x.2.1=Nb):∀ {n:Int} {l:List awY} {k:Nat},k<l.length->Xx n (l.set k x)=(Xx n l).filter (fun s=>s.1 != n+k)
 |n,t::l,0,_=>by
  have a:(Xx (n+1) l).filter (fun s=>s.1 != n)=Xx (n+1) l:=List.filter_eq_self.2 fun s hs=>by have:=afZ hs;simp;omega
  simp only[ML,Xx,hx]
  by_cases h:t.2.1=Nw
  ·simp[h,a]
  ·simp[h,a]
 |n,t::l,k+1,hk=>by
  have b:=@ak6 x hx (n+1) l k (by simpa using hk);have e:∀s:aeE,(s.1 != n+((k+1:Nat):Int))=(s.1 != n+1+(k:Int)):=fun s=>by rw[show n+((k+1:Nat):Int)=n+1+(k:Int)by push_cast;omega]
  simp only[MM,Xx,b,e]
  by_cases h:t.2.1=Nw
  ·have:(n != n+1+(k:Int))=true:=by simp;omega
   simp[h,this]
  ·simp[h]
theorem ak9{x:awY}(hx:x.2.1=Nw):∀ {n:Int} {l:List awY} {k:Nat} (hk:k<l.length),l[k].2.1=Nw->Xx n (l.set k x)=(Xx n l).map (fun s=>if s.1=n+k then(n+k,x.1,x.2.2.1,x.2.2.2)else s)
 |n,t::l,0,_,hu=>by
  have b:(Xx (n+1) l).map (fun s=>if s.1=n then(n,x.1,x.2.2.1,x.2.2.2)else s)=Xx (n+1) l:=by
   conv=>rhs;rw[<-List.map_id (Xx (n+1) l)]
   exact PU fun s hs=>by have:=afZ hs;rw[Nf (by omega)];rfl
  simp only[MS]at hu;simp only[ML,Xx,hx,hu,if_true,OA,Int.natCast_zero,Int.add_zero,b]
 |n,t::l,k+1,hk,hu=>by
  have a:=@ak9 x hx (n+1) l k (by simpa using hk) (by simpa using hu);simp only[MM,Xx,a];rw[show n+((k+1:Nat):Int)=n+1+(k:Int)by push_cast;omega]
  by_cases h:t.2.1=Nw
  ·rw[Nh h,Nh h,OA,Nf (by show ¬n=n+1+(k:Int);omega)]
  ·rw[Nf h,Nf h]
theorem apA(a x:α)(l:List α)(i:Nat):Xi (a::l) x (i+1)=a::Xi l x i:=by simp[Xi]
theorem apC(x:α)(l:List α):Xi l x 0=x::l:=by simp[Xi]
theorem ala{x:awY}(hx:x.2.1=Nw):∀ {n:Int} {l:List awY} {k:Nat} (hk:k<l.length),l[k].2.1=Nb->Xx n (l.set k x)=Xi (Xx n l) (n+k,x.1,x.2.2.1,x.2.2.2) ((Xx n l).findIdx fun s=>Nn (n+k<s.1))
 |n,t::l,0,_,hu=>by
  simp only[MS]at hu;have b:(Xx (n+1) l).findIdx (fun s=>Nn (n<s.1))=0:=by
   cases hs:Xx (n+1) l with
   |nil=>rfl
   |cons s r =>
    have:=afZ (s:=s) (by rw[hs];simp);simp[Tc,show n<s.1 by omega]
  simp only[ML,Xx,hx,hu,if_true,Int.natCast_zero,Int.add_zero,Bool.false_eq_true,if_false,b,apC]
 |n,t::l,k+1,hk,hu=>by
  have a:=@ala x hx (n+1) l k (by simpa using hk) (by simpa using hu);simp only[MM,Xx,a];rw[show n+((k+1:Nat):Int)=n+1+(k:Int)by push_cast;omega]
  by_cases h:t.2.1=Nw
  ·rw[Nh h,Nh h]
   have:Nn (n+1+(k:Int)<n)=false:=by simp;omega
   rw[Tc];simp only[this,cond_false];rw[apA]
  ·rw[Nf h,Nf h]
structure Bs(G:Gt):Prop where
 cfg:adg G.cfg
 now:0<=G.now/\G.now<=1099511626776
 tab:Z6 G.tab
 tabLen:(G.tab.length:Int)=G.cfg.flows
 book:Ym G.liv G.req
 tok:0<=G.tok/\G.tok<=G.cfg.bb*G.cfg.bd
 hel:G.hea.length=12
 hea:∀h∈G.hea,ZO G.cfg.wn h.marks.length h.out h.till h.times
 seats:G.fls.map Fl.F8=Xx 0 G.tab
 rets:∀f∈G.fls,0<=f.ret/\f.ret<=G.cfg.ret
 since:∀l∈G.liv,l.2.2.2.1<=G.now
 wts:XI G.wts
 wnow:0<=G.wnow/\G.wnow<=G.now
 tms:∀t,G.tms t↔∃f∈G.fls,t=(f.due,f.slot)/\G.wnow<f.due
section
variable {G:Gt}
theorem Bs.Ge(h:Bs G):G.fls.Pairwise (fun a b=>a.slot<b.slot):=by
 have c:(G.fls.map Fl.F8).Pairwise (fun a b=>a.1<b.1):=by rw[h.seats];exact ahH
 exact(List.pairwise_map (f:=Fl.F8) (R:=fun a b=>a.1<b.1)).1 c
theorem Bs.slot(h:Bs G)(hf:f∈G.fls):∃(k:Nat) (hk:k<G.tab.length),f.slot=k/\G.tab[k]=(f.gen,Nw,f.key,f.be):=by
 have e:f.F8∈Xx 0 G.tab:=by rw[<-h.seats];exact Ri hf
 obtain⟨i,g,c,b,a⟩:=aeM.1 e;refine⟨i,g,by rw[show f.slot=(0:Int)+i from c];omega,?_⟩;generalize G.tab[i]=t at b a;obtain⟨m,j,o,p⟩:=t;simp only[Q7]at b a⊢;exact⟨a.1.symm,b,a.2.1.symm,a.2.2.symm⟩
theorem Bs.F9(h:Bs G)(hf:f∈G.fls):(0<=f.slot/\f.slot<40)/\(0<=f.gen/\f.gen<=1048575)/\(0<=f.key/\f.key<=4294967295)/\(0<=f.be/\f.be<12):=by
 obtain⟨k,c,e,b⟩:=h.slot hf;have a:=h.tab.2 _ (Nk c);have g:=h.tab.1.2;rw[b]at a;unfold Yt at a;rw[Nh rfl]at a;exact⟨by omega,a.1,a.2.1,a.2.2⟩
theorem Bs.IV(h:Bs G)(hf:f∈G.fls):Yj G.tab f.slot f.gen=((f.gen,Nw,f.key,f.be),0):=by
 obtain⟨k,c,a,b⟩:=h.slot hf;rw[a,ai8 h.tab c rfl,b,Nh ⟨rfl,rfl⟩]
theorem Bs.Hj(h:Bs G)(hf:f∈G.fls):ZQ G.tab f.slot f.gen=(G.tab.set f.slot.toNat (f.gen+1,Nb,0,0),0):=by
 unfold ZQ;rw[h.IV hf,Nh rfl]
theorem Bs.Ho(h:Bs G)(hf:f∈G.fls){b:Int}(hb:0<=b/\b<12):Y0 G.tab f.slot f.gen b=(G.tab.set f.slot.toNat (f.gen,Nw,f.key,b),0):=by
 unfold Y0;rw[h.IV hf,Nh rfl,Nh hb]
theorem Bs.Ic(h:Bs G){k:Fl}(hf:f∈G.fls)(hk:k∈G.fls)(e:f.slot=k.slot):f=k:=by
 obtain⟨i,b,rfl⟩:=NV hf;obtain⟨j,g,rfl⟩:=NV hk;have c:=List.pairwise_iff_getElem.1 h.Ge;rcases Nat.lt_trichotomy i j with a|rfl|a
 ·have:=c i j b g a;omega
 ·rfl
 ·have:=c j i g b a;omega
theorem Bs.GL(h:Bs G)(hf:f∈G.fls):Yl G.fls f.slot f.gen=G.fls.filter fun x=>x.slot != f.slot:=by
 unfold Yl;refine List.filter_congr fun x hx=>?_
 by_cases e:x.slot=f.slot
 ·rw[h.Ic hx hf e]
  simp
 ·have b:(x.slot == f.slot)=false:=by simpa using e
  have a:(x.slot != f.slot)=true:=by simpa using e
  rw[b,a];rfl
theorem Bs.Ie(h:Bs G)(hi:i<G.fls.length):aaF G.fls G.fls[i].slot=i:=by
 unfold aaF;refine abZ hi (fun t ht=>?_) (by simp);obtain⟨j,b,rfl⟩:=NV ht;have a:j<i:=by simp at b;omega
 have:=List.pairwise_iff_getElem.1 h.Ge j i (by omega) hi a;simp only[List.getElem_take];simp;omega
theorem Bs.GG(h:Bs G)(hf:f∈G.fls):∃hi:aaF G.fls f.slot<G.fls.length,G.fls[aaF G.fls f.slot]=f:=by
 obtain⟨i,hi,rfl⟩:=NV hf;have e:=h.Ie hi;exact⟨by rw[e];exact hi,by simp only[e]⟩
theorem XA(hi:i<G.fls.length):Xs G i=G.fls[i]:=by simp[Xs,hi]
theorem Bs.Jv(h:Bs G){s g:Int}(hg:(Yj G.tab s g).2=0):∃f∈G.fls,f.slot=s/\f.gen=g:=by
 obtain⟨x,m⟩:∃x,x=(Yj G.tab s g).1:=⟨_,rfl⟩;obtain⟨_,k,rfl,p,a,c,j⟩:=ai7 (x:=x) (Q8 m.symm hg);have b:((k:Int),x.1,x.2.2.1,x.2.2.2)∈Xx 0 G.tab:=aeM.2 ⟨k,p,by simp,by rw[<-a];exact c,by rw[<-a]⟩;rw[<-h.seats]at b;obtain⟨f,o,e⟩:=List.mem_map.1 b;simp only[Fl.F8,Q7]at e;exact⟨f,o,e.1,by rw[e.2.1,j]⟩
theorem Bs.Gb(h:Bs G):G.fls.length<=40:=by
 have a:=congrArg List.length h.seats;rw[N0]at a;have:=@ak8 0 G.tab;have:=h.tab.1.2;omega
theorem Bs.Gd(h:Bs G)(hfree:G.tab.any Y1=Nw){key b:Int}(hk:0<=key/\key<=4294967295)(hb:0<=b/\b<12) :
  ∃(k:Nat) (hlt:k<G.tab.length),Y8 G.tab key b=(G.tab.set k (G.tab[k].1,Nw,key,b),((k:Int),G.tab[k].1),0)/\G.tab[k].2.1=Nb/\(0<=G.tab[k].1/\G.tab[k].1<=1048575)/\∀j (hj:j<k),Y1 (G.tab[j]'(by omega))=false:=by
 have g:∀t∈G.tab,aaU t=Y1 t:=fun t e=>auU (h.tab.2 t e)
 cases hf:Yz aaU G.tab with
 |none =>
  obtain⟨t,e,c⟩:=List.any_eq_true.1 hfree;rw[<-g t e]at c;have a:=ai3.2 ⟨t,e,c⟩;rw[hf]at a;exact absurd a (by decide)
 |some k =>
  obtain⟨hlt,c,p⟩:=ai0 hf;rw[g _ (Nk hlt)]at c;have o:G.tab[k].2.1=Nb/\G.tab[k].1≠1048576:=by simpa [Y1]using c
  have m:=h.tab.2 _ (Nk hlt);unfold Yt at m;rw[Nf (by rw[o.1];simp)]at m;refine⟨k,hlt,?_,o.1,by omega,fun j hj=>?_⟩
  ·unfold Y8
   rw[Nf (fun a=>a h.tab),Nf (fun a=>a ⟨hk,hb⟩),hf];simp[hlt]
  ·rw[<-g _ (Nk _)]
   refine p _ (List.mem_iff_getElem.2 ⟨j,by simp;omega,by simp⟩)
end
abbrev Zq(L:List awV):Prop:=L.Pairwise (fun a b=>a.1<b.1)
theorem ahv{b:Int}(h:∀x∈L,x.1≠b):WS L b=aa1:=by
 unfold WS;rw[List.find?_eq_none.2 (fun x hx=>by simpa using h x hx)];rfl
theorem abd:∀ {L:List awV} (_:Zq L) {x:awV} (_:x∈L),WS L x.1=x
 |y::L,hr,x,a=>by
  obtain⟨c,e⟩:=List.pairwise_cons.1 hr;unfold WS;rcases List.mem_cons.1 a with rfl|a
  ·simp
  ·have b:(y.1 == x.1)=false:=by have:=c x a;simp;omega
   rw[Pr (by simpa using b)];exact abd e a
theorem aeK(L:List awV)(b:Int):(WS L b∈L/\(WS L b).1=b)\/((∀x∈L,x.1≠b)/\WS L b=aa1):=by
 unfold WS;cases h:L.find? (fun x=>x.1 == b)with
 |none=>exact NF ⟨fun x hx=>by have:=List.find?_eq_none.1 h x hx;simpa using this,rfl⟩
 |some x=>exact Nt ⟨List.mem_of_find?_eq_some h,by simpa using List.find?_some h⟩
theorem adl{b:Int}(h:WY L b≠0):WS L b∈L/\(WS L b).1=b:=by
 rcases aeK L b with a|⟨_,a⟩
 ·exact a
 ·exact absurd (by rw[show WY L b=(WS L b).2.1 from rfl,a]) h
def Yq(L:List awV)(b:Int)(y:awV->awV):List awV:=L.map fun x=>if x.1=b then y x else x
theorem ahI(hr:Zq L)(hi:i<L.length){b:Int}(hb:L[i].1=b)(y:awV->awV):L.set i (y L[i])=Yq L b y:=by
 apply PX
 ·simp[Yq]
 ·intro k j o
  simp only[Yq,QZ,Pc];have g:k<L.length:=by simpa using j
  by_cases e:i=k
  ·subst e
   rw[Nh rfl,Nh hb]
  ·rw[Nf e,Nf]
   intro m;have c:=List.pairwise_iff_getElem.1 hr;rcases QM e with a|a
   ·have:=c i k hi g a;omega
   ·have:=c k i g hi a;omega
theorem ap3(hr:Zq L)(b:Int){y:awV->awV}(hy:∀x,(y x).1=x.1):Zq (Yq L b y):=by
 unfold Yq;refine List.pairwise_map.2 (hr.imp fun {a c} h=>?_);have e:∀x:awV,(if x.1=b then y x else x).1=x.1:=fun x=>by split;exact hy x;rfl
 rw[e,e];exact h
theorem akG(hr:Zq L){x:awV}(hx:x∈L){y:awV->awV}(hy:∀x,(y x).1=x.1):WS (Yq L x.1 y) x.1=y x:=by
 have a:y x∈Yq L x.1 y:=List.mem_map.2 ⟨x,hx,by rw[Nh rfl]⟩;have b:=abd (ap3 hr x.1 hy) a;rwa[hy]at b
theorem ahu:∀(L:List awV) {b c:Int} (_:c≠b) {y:awV->awV} (_:∀x,(y x).1=x.1),WS (Yq L b y) c=WS L c
 | [],b,c,_,y,_=>rfl
 |x::L,b,c,hne,y,hy=>by
  have a:=ahu L hne hy;unfold WS Yq at a⊢;rw[OA]
  by_cases e:x.1=b
  ·rw[Nh e,Pr (by rw[hy,e];simpa using Pi hne),Pr (by rw[e];simpa using Pi hne)]
   exact a
  ·rw[Nf e]
   by_cases e2:x.1=c
   ·rw[Ql (by simpa using e2),Ql (by simpa using e2)]
   ·rw[Pr (by simpa using e2),Pr (by simpa using e2)]
    exact a
theorem afV(hr:Zq L){x:awV}(hx:x∈L):Ys L x.1=Nw/\∃hp:Xk L x.1<L.length,L[Xk L x.1]=x:=by
 obtain⟨i,a,rfl⟩:=NV hx;obtain⟨c,b⟩:=aic hr a;exact⟨c,by rw[b];exact a,by simp only[b]⟩
theorem akj(x:awV):(ZF x).1=x.1:=rfl
theorem ako(hb:Ym L R){b:Int}(h3:WY L b=3):aau L R b=((Yq L b ZF,R),0)/\Ym (Yq L b ZF) R:=by
 obtain⟨j,a⟩:=adl (L:=L) (b:=b) (by rw[h3];decide);have o:Zq L:=hb.1.2.2;obtain⟨m,c,q⟩:=afV o j;rw[a]at m c;have g:L[Xk L b]=WS L b:=by simp only[a]at q;exact q
 have s:L.set (Xk L b) (ZF L[Xk L b])=Yq L b ZF:=ahI o c (by rw[g,a]) ZF;have e:aau L R b=((Yq L b ZF,R),0):=by
  unfold aau;rw[Nh hb,MR c,OV,Nh ⟨m,by rw[g];exact h3⟩,s]
 obtain⟨u,p,_,r⟩:=arV hb j a h3;rw[e]at p;cases p;exact⟨e,r⟩
theorem aku(x:awV)(u id:Int):(aag x u id).1=x.1:=rfl
theorem aqo(hr:Zq L){b:Int}(h:WY L b=1\/WY L b=2)(id u:Int):ZH L b id u=(Yq L b (fun x=>aag x u id),0):=by
 obtain⟨m,e⟩:=adl (L:=L) (b:=b) (by omega);obtain⟨j,c,g⟩:=afV hr m;rw[e]at j c;have a:L[Xk L b]=WS L b:=by simp only[e]at g;exact g
 unfold ZH;rw[Nh j,MR c,OV,a,Nf (by show ¬WY L b=4;omega),Nf (by show ¬WY L b=3;omega),<-ahI hr c (by rw[a,e]) (fun x=>aag x u id),a]
theorem aqp(hr:Zq L){b:Int}(h:¬(WY L b=1\/WY L b=2))(hok:∀x∈L,Y7 x)(id u:Int):ZH L b id u=(L,if WY L b=3 then 12 else 8):=by
 rcases aeK L b with⟨g,c⟩|⟨p,c⟩
 ·obtain⟨e,j,m⟩:=afV hr g
  rw[c]at e j;have o:L[Xk L b]=WS L b:=by simp only[c]at m;exact m
  have q:=(hok _ g).2;unfold ZH;rw[Nh e,MR j,OV,o];have a:WY L b=3\/WY L b=4:=by
   have:WY L b=(WS L b).2.1:=rfl;omega
  rcases a with a|a
  ·rw[Nf (by show ¬WY L b=4;omega),Nh a,Nh a]
  ·rw[Nh a,Nf (by omega)]
 ·have e:Ys L b=false:=by
   cases hh:Ys L b
   ·rfl
   ·exact absurd (aib hh) (p _ (Nk _))
  unfold ZH;rw[Nf (by rw[e];simp),Nf (by rw[show WY L b=(WS L b).2.1 from rfl,c];decide)]
section
variable {G:Gt}
theorem Bs.Jh(h:Bs G)(o:List Ou):Bs {G with out:=o}:=⟨h.cfg,h.now,h.tab,h.tabLen,h.book,h.tok,h.hel,h.hea,h.seats,h.rets,h.since,h.wts,h.wnow,h.tms⟩
theorem Bs.GT(h:Bs G)(o:Ou):Bs (ZM G o):=h.Jh _
theorem Bs.IR(h:Bs G)(hb:Ym L R)(hs:∀l∈L,l.2.2.2.1<=G.now):Bs {G with liv:=L,req:=R}:=⟨h.cfg,h.now,h.tab,h.tabLen,hb,h.tok,h.hel,h.hea,h.seats,h.rets,hs,h.wts,h.wnow,h.tms⟩
theorem Bs.Hp(h:Bs G)(hn:0<=n/\n<=G.cfg.bb*G.cfg.bd):Bs {G with tok:=n}:=⟨h.cfg,h.now,h.tab,h.tabLen,h.book,hn,h.hel,h.hea,h.seats,h.rets,h.since,h.wts,h.wnow,h.tms⟩
theorem Bs.Ij(h:Bs G){H:List He}(hl:H.length=12)(hh:∀x∈H,ZO G.cfg.wn x.marks.length x.out x.till x.times):Bs {G with hea:=H}:=⟨h.cfg,h.now,h.tab,h.tabLen,h.book,h.tok,hl,hh,h.seats,h.rets,h.since,h.wts,h.wnow,h.tms⟩
theorem Bs.Jg(h:Bs G){a:List Int}(ha:XI a):Bs {G with wts:=a}:=⟨h.cfg,h.now,h.tab,h.tabLen,h.book,h.tok,h.hel,h.hea,h.seats,h.rets,h.since,ha,h.wnow,h.tms⟩
theorem akL{b:Int}{y:awV->awV}(h:l∈Yq L b y):∃x∈L,l=x\/l=y x:=by
 obtain⟨x,a,rfl⟩:=List.mem_map.1 h;refine⟨x,a,?_⟩
 split
 ·exact NF rfl
 ·exact Nt rfl
theorem ahh(h:Bs G)(b:Int):Yf G b=if WY G.liv b=3/\Zr G.fls b=Nb then aeQ {G with liv:=Yq G.liv b ZF} b (WS G.liv b).2.2.2.2.2 else G:=by
 unfold Yf
 split
 case isTrue hc =>
  rw[(ako h.book hc.1).1]
 case isFalse hc=>rfl
theorem Bs.Ii(h:Bs G)(b:Int):Bs (Yf G b):=by
 rw[ahh h]
 split
 case isTrue hc =>
  refine Bs.GT (Bs.IR (R:=G.req) h (ako h.book hc.1).2 fun l hl=>?_) _;obtain⟨x,a,rfl|rfl⟩:=akL hl
  ·exact h.since _ a
  ·exact h.since x a
 case isFalse hc=>exact h
theorem Bs.IE(h:Bs G){b:Int}(hb:0<=b/\b<12):ZO G.cfg.wn (G.hea.getD b.toNat XM).marks.length (G.hea.getD b.toNat XM).out (G.hea.getD b.toNat XM).till (G.hea.getD b.toNat XM).times:=by
 have a:b.toNat<G.hea.length:=by rw[h.hel];omega
 have e:G.hea.getD b.toNat XM=G.hea[b.toNat]:=by simp[a]
 rw[e];exact h.hea _ (Nk a)
theorem akx(hd:1<=d):1<=aaL d t/\aaL d t<=500:=by
 unfold aaL;have a:(1:Int)<=2 ^ t.toNat:=by
  have:=Nat.one_le_two_pow (n:=t.toNat)
  exact_mod_cast this
 have b:1<=d*2 ^ t.toNat:=by
  have:=Px hd a (by omega) (by omega);omega
 omega
theorem ap9{f:Int}{l:List Bool}{o:Bool}{u:Int}{x:Bool}{now:Int}{may:Bool}(hw:ZT n f d)(hnow:0<=now/\now<=1099511627776)(hh:ZO n l.length o u t):
  (Zt n f d l o u t x now may).2.2=0/\ZO n (Zt n f d l o u t x now may).1.1.length (Zt n f d l o u t x now may).1.2.1 (Zt n f d l o u t x now may).1.2.2.1 (Zt n f d l o u t x now may).1.2.2.2:=by
 have a:YR n f d l.length o u t now=0:=by unfold YR;rw[Nh hw,Nh hnow,Nh hh]
 have j:=alJ (l:=l) x hh.1 hw.1.1;obtain⟨m,c,e,b⟩:=hh;have g:=akx (d:=d) (t:=t) hw.2.2.1;unfold Zt;rw[Nh a]
 split
 ·refine⟨rfl,by simp;omega,?_,?_,Nt rfl⟩
  ·show 0<=min (t+1) 10/\min (t+1) 10<=10
   omega
  ·show 0<=now+aaL d t/\now+aaL d t<=1099511628276
   omega
 ·exact⟨rfl,by show((Zj n l x).length:Int)<=n;omega,c,e,b⟩
theorem aoo{f:Int}{l:List Bool}{o:Bool}{u:Int}{now:Int}(hw:ZT n f d)(hnow:0<=now/\now<=1099511627776)(hh:ZO n l.length o u t):
  Ze n f d l o u t now=if o=Nw/\u<=now then((l,Nb,0,t),Nw,0)else((l,o,u,t),Nb,0):=by
 have a:YR n f d l.length o u t now=0:=by unfold YR;rw[Nh hw,Nh hnow,Nh hh]
 unfold Ze;rw[Nh a]
theorem aac{α:Type}{l:List α}{x y:α}(h:y∈l.set i x):y=x\/y∈l:=by
 rcases OB h with h|h
 ·exact NF h
 ·exact Nt h
theorem Bs.GN(h:Bs G):0<=G.now/\G.now<=1099511627776:=by have:=h.now;omega
theorem Bs.Gx(h:Bs G):ZT G.cfg.wn G.cfg.wf G.cfg.wh:=h.cfg.2.2.2.2.2.2.2.2.2.2.2
theorem Bs.GM(h:Bs G):Zp G.cfg.bn G.cfg.bd G.cfg.bb:=h.cfg.2.2.2.2.2.2.2.2.2.2.1
theorem Bs.GA(h:Bs G){b:Int}(hb:0<=b/\b<12)(x:Bool):Bs (Yh G b x):=by
 refine h.Ij (by rw[NA];exact h.hel) fun y a=>?_
 rcases aac a with rfl|a
 ·exact(ap9 h.Gx h.GN (h.IE hb)).2
 ·exact h.hea y a
theorem ahw{α β:Type}(f:α->β){l:List α}(hi:i<l.length){y:α}(hy:f y=f l[i]):(l.set i y).map f=l.map f:=by
 rw[List.map_set,hy];apply PX
 ·simp
 ·intro k a b
  simp only[Pc,QZ]
  split
  ·rename_i e;subst e;rfl
  ·rfl
theorem abe{l:List Fl}(hr:l.Pairwise (fun a b=>a.slot<b.slot))(hi:i<l.length)(hy:y.slot=l[i].slot):f∈l.set i y↔f=y\/(f∈l/\f.slot≠y.slot):=by
 have m:=List.pairwise_iff_getElem.1 hr;constructor
 ·intro h
  obtain⟨k,j,rfl⟩:=NV h;rw[Pc];have c:k<l.length:=by simpa using j
  split
  ·exact Nt rfl
  ·rename_i e
   refine NF ⟨Nk c,?_⟩;rw[hy];rcases QM e with g|g
   ·have:=m i k hi c g;omega
   ·have:=m k i c hi g;omega
 ·rintro(rfl|⟨h1,h2⟩)
  ·exact List.mem_iff_getElem.2 ⟨i,by simpa using hi,by simp⟩
  ·obtain⟨k,j,rfl⟩:=NV h1
   refine List.mem_iff_getElem.2 ⟨k,by simpa using j,?_⟩;rw[Pc,Nf];intro e;subst e;exact h2 hy.symm
theorem Bs.Hd(h:Bs G)(hi:i<G.fls.length)(hs:f.F8=G.fls[i].F8)(hd:f.due=G.fls[i].due)(hr:0<=f.ret/\f.ret<=G.cfg.ret):Bs (Y4 G i f):=by
 have b:f.slot=G.fls[i].slot:=congrArg Prod.fst hs;refine⟨h.cfg,h.now,h.tab,h.tabLen,h.book,h.tok,h.hel,h.hea,?_,fun x a=>?_,h.since,h.wts,h.wnow,fun t=>?_⟩
 ·show(G.fls.set i f).map Fl.F8=_
  rw[ahw Fl.F8 hi hs];exact h.seats
 ·rcases aac a with rfl|a
  ·exact hr
  ·exact h.rets x a
 ·show G.tms t↔∃x∈G.fls.set i f,_
  rw[h.tms t];constructor
  ·rintro⟨x,a,e1,e2⟩
   by_cases e:x.slot=f.slot
   ·have c:=h.Ic a (Nk hi) (e.trans b)
    subst c;exact⟨f,(abe h.Ge hi b).2 (Nt rfl),by rw[e1,hd,b],by rw[hd];exact e2⟩
   ·exact⟨x,(abe h.Ge hi b).2 (NF ⟨a,e⟩),e1,e2⟩
  ·rintro⟨x,a,e1,e2⟩
   rcases(abe h.Ge hi b).1 a with rfl|⟨a,_⟩
   ·exact⟨_,Nk hi,by rw[e1,hd,b],by rw[<-hd];exact e2⟩
   ·exact⟨x,a,e1,e2⟩
theorem Bs.It(h:Bs G)(hi:i<G.fls.length)(hn:1<=n/\n<=500):Bs (YW G i n):=by
 have c:=h.wnow;have b:({Xs G i with due:=G.now+n}:Fl).slot=G.fls[i].slot:=by rw[XA hi]
 refine⟨h.cfg,h.now,h.tab,h.tabLen,h.book,h.tok,h.hel,h.hea,?_,fun x a=>?_,h.since,h.wts,h.wnow,fun t=>?_⟩
 ·show(G.fls.set i _).map Fl.F8=_
  rw[ahw Fl.F8 hi (by rw[XA hi])];exact h.seats
 ·rcases aac a with rfl|a
  ·rw[XA hi]
   exact h.rets G.fls[i] (Nk hi)
  ·exact h.rets x a
 ·show((G.tms t/\t.2≠(Xs G i).slot)\/t=(G.now+n,(Xs G i).slot))↔∃x∈G.fls.set i {Xs G i with due:=G.now+n},_
  rw[h.tms t];constructor
  ·rintro(⟨⟨x,a,e1,e2⟩,e3⟩|e)
   ·exact⟨x,(abe h.Ge hi b).2 (NF ⟨a,fun e=>e3 (by rw[e1];exact e)⟩),e1,e2⟩
   ·exact⟨_,(abe h.Ge hi b).2 (Nt rfl),e,by show G.wnow<G.now+n;omega⟩
  ·rintro⟨x,a,e1,e2⟩
   rcases(abe h.Ge hi b).1 a with rfl|⟨a,hne⟩
   ·exact NF e1
   ·exact Nt ⟨⟨x,a,e1,e2⟩,by rw[e1];exact hne⟩
theorem Bs.Iw(h:Bs G)(hf:f∈G.fls):Bs {G with tab:=(ZQ G.tab f.slot f.gen).1,fls:=Yl G.fls f.slot f.gen,tms:=fun t=>G.tms t/\t.2≠f.slot}:=by
 obtain⟨k,g,e,m⟩:=h.slot hf;have o:=(h.F9 hf).2.1;have j:=h.F9 hf;refine⟨h.cfg,h.now,?_,?_,h.book,h.tok,h.hel,h.hea,?_,fun x a=>?_,h.since,h.wts,h.wnow,fun t=>?_⟩
 ·show Z6 (ZQ G.tab f.slot f.gen).1
  rw[h.Hj hf];refine aja h.tab ?_;unfold Yt;rw[Nf (by simp)];exact⟨by show 0<=f.gen+1/\f.gen+1<=1048576;omega,rfl,rfl⟩
 ·show((ZQ G.tab f.slot f.gen).1.length:Int)=_
  rw[h.Hj hf,NA];exact h.tabLen
 ·show(Yl G.fls f.slot f.gen).map Fl.F8=Xx 0 (ZQ G.tab f.slot f.gen).1
  rw[h.Hj hf,h.GL hf];show _=Xx 0 (G.tab.set f.slot.toNat (f.gen+1,Nb,0,0));rw[e,NR,ak6 rfl g,<-h.seats,List.filter_map]
  congr 1
  refine List.filter_congr fun x _=>?_
  simp[Fl.F8]
 ·have c:x∈Yl G.fls f.slot f.gen:=a
  rw[h.GL hf]at c;exact h.rets x (List.mem_filter.1 c).1
 ·show(G.tms t/\t.2≠f.slot)↔∃x∈Yl G.fls f.slot f.gen,_
  rw[h.GL hf,h.tms t];constructor
  ·rintro⟨⟨x,a,e3,e4⟩,b⟩
   refine⟨x,List.mem_filter.2 ⟨a,?_⟩,e3,e4⟩;rw[e3]at b
   simpa using b
  ·rintro⟨x,a,e3,e4⟩
   obtain⟨a,b⟩:=List.mem_filter.1 a;refine⟨⟨x,a,e3,e4⟩,?_⟩;rw[e3]
   simpa using b
theorem Bs.Hc(h:Bs G)(hf:f∈G.fls)(kind why:Int):Bs (Yg G f kind why):=((h.Iw hf).GT _).Ii _
theorem Bs.Ig(h:Bs G)(hi:i<G.fls.length){b:Int}(hb:0<=b/\b<12)(hr:G.fls[i].ret+1<=G.cfg.ret):
  Bs (Y4 {G with tab:=(Y0 G.tab G.fls[i].slot G.fls[i].gen b).1} i {G.fls[i]with be:=b,ret:=G.fls[i].ret+1}):=by
 have c:=Nk hi;obtain⟨f,m⟩:∃f,f=G.fls[i]:=⟨_,rfl⟩;rw[<-m]at hr c⊢;obtain⟨k,w,p,u⟩:=h.slot c;have q:=h.F9 c;have o:({f with be:=b,ret:=f.ret+1}:Fl).slot=G.fls[i].slot:=by rw[<-m]
 refine⟨h.cfg,h.now,?_,?_,h.book,h.tok,h.hel,h.hea,?_,fun x a=>?_,h.since,h.wts,h.wnow,fun t=>?_⟩
 ·show Z6 (Y0 G.tab f.slot f.gen b).1
  rw[h.Ho c hb];refine aja h.tab ?_;unfold Yt;rw[Nh rfl];exact⟨q.2.1,q.2.2.1,hb⟩
 ·show((Y0 G.tab f.slot f.gen b).1.length:Int)=_
  rw[h.Ho c hb,NA];exact h.tabLen
 ·show(G.fls.set i {f with be:=b,ret:=f.ret+1}).map Fl.F8=Xx 0 (Y0 G.tab f.slot f.gen b).1
  rw[h.Ho c hb];show _=Xx 0 (G.tab.set f.slot.toNat (f.gen,Nw,f.key,b));rw[p,NR,ak9 rfl w (by rw[u]),<-h.seats,List.map_map];apply PX
  ·simp
  ·intro j A z
   simp only[QZ,Pc,Function.comp_apply];have v:j<G.fls.length:=by simpa using z
   by_cases e:i=j
   ·subst e
    rw[Nh rfl,<-m,Nh (by show f.slot=0+(k:Int);omega)];simp[Fl.F8,p]
   ·rw[Nf e,Nf]
    show ¬G.fls[j].slot=0+(k:Int);intro g;have:=h.Ie hi;have r:=h.Ie v;rw[g,Int.zero_add,<-p,m,this]at r;exact e r
 ·rcases aac a with rfl|a
  ·have:=h.rets f c
   exact⟨by show 0<=f.ret+1;omega,hr⟩
  ·exact h.rets x a
 ·show G.tms t↔∃x∈G.fls.set i {f with be:=b,ret:=f.ret+1},_
  rw[h.tms t];constructor
  ·rintro⟨x,a,g,e4⟩
   by_cases e:x.slot=f.slot
   ·have s:=h.Ic a c e
    subst s;exact⟨_,(abe h.Ge hi o).2 (Nt rfl),g,e4⟩
   ·exact⟨x,(abe h.Ge hi o).2 (NF ⟨a,e⟩),g,e4⟩
  ·rintro⟨x,a,g,e4⟩
   rcases(abe h.Ge hi o).1 a with rfl|⟨a,_⟩
   ·exact⟨f,c,g,e4⟩
   ·exact⟨x,a,g,e4⟩
end
section
variable {G:Gt}
theorem akT{W:awV->Int}{F:awV->Int}:∀ {L:List awV} {n:Int},Zq L->(∀l∈L,n<=l.1/\l.1<=11/\(0<=W l/\W l<=8)/\0<=F l/\F l<=40)->adC n (L.map fun l=>(l.1,W l,F l))
 | [],n,_,_=>rfl
 |x::L,n,hr,h=>by
  obtain⟨e,g⟩:=List.pairwise_cons.1 hr;obtain⟨b,p,c,o,a⟩:=h x (by simp);rw[OA];refine amu.2 ⟨⟨b,by show x.1<12;omega,c,o,a⟩,akT g fun l hl=>?_⟩;obtain⟨_,m,j⟩:=h l (NB _ hl);exact⟨by show x.1+1<=l.1;have:=e l hl;omega,m,j⟩
theorem aj7(fs:List Fl)(b:Int):abu fs b<=fs.length:=List.countP_le_length
theorem aq9{wg gone warm:Int}(h:1<=wg/\wg<=8)(hg:0<=gone)(hw:0<=warm):1<=aw1 wg gone warm/\aw1 wg gone warm<=wg:=by
 unfold aw1
 split
 ·omega
 ·rename_i hlt
  have a:wg*gone / warm<=wg:=by
   refine Int.ediv_le_of_le_mul (by omega) ?_;exact Int.mul_le_mul_of_nonneg_left (by omega) (by omega)
  omega
theorem Bs.lf(h:Bs G)(hl:l∈G.liv):Y7 l:=h.book.1.2.1 l hl
theorem Bs.Jp(h:Bs G)(hl:l∈G.liv):0<=abV G l/\abV G l<=l.2.2.1/\l.2.2.1<=8:=by
 have b:=(h.lf hl).1;have e:=h.since l hl;have a:0<=G.cfg.warm:=h.cfg.2.2.2.2.1.1;have c:=aq9 (wg:=l.2.2.1) (gone:=G.now-l.2.2.2.1) (warm:=G.cfg.warm) b.2.1 (by omega) a;unfold abV
 split <;> omega
theorem Bs.Jt(h:Bs G)(hfs:fs.length<=40):acv (aab G fs):=by
 refine⟨?_,?_⟩
 ·have a:=h.book.1.1
  have c:=O1 (fun l:awV=>l.2.1 == 2) G.liv;simp only[aab,N0];omega
 ·refine akT (h.book.1.2.2.filter _) fun l hl=>?_
  have b:=(List.mem_filter.1 hl).1;have a:=(h.lf b).1;have c:=h.Jp b;have e:=aj7 fs l.1;exact⟨a.1.1,a.1.2,⟨c.1,by omega⟩,by omega,by omega⟩
theorem Bs.Jm(h:Bs G){n:Nat}(hn:n<=40):ab3 G.cfg.num G.cfg.den n:=⟨⟨h.cfg.2.1.1,h.cfg.2.1.2,h.cfg.2.2.1⟩,by omega,by omega⟩
theorem aoz{l:List Ld}{a b c:Int}(hok:acv l){ws:List Int}{t:Nat}(h:acw l (aax a b c l) ws t=MI i):i<l.length:=by
 unfold acw at h;cases h1:Zm l (aax a b c l) ws t with
 |some j =>
  rw[h1]at h;cases h;exact(agp h1).1
 |none =>
  rw[h1]at h;exact(asN (ws:=ws) (t:=t) h (amw hok)).1
theorem Bs.Ib(h:Bs G){key:Int}(hfs:fs.length<=40)(hc:(XD G key fs).2=0):WY G.liv (XD G key fs).1=2/\0<=(XD G key fs).1/\(XD G key fs).1<12:=by
 unfold XD at hc⊢;generalize ahS G key=ws at hc⊢;have b:=h.Jt hfs;unfold ab6 at hc⊢;rw[Nh (afa.2 b),Nh (h.Jm hfs)]at hc⊢
 split at hc
 case isFalse=>simp at hc
 case isTrue h1 =>
  rw[Nh h1]
  split at hc
  case isFalse=>simp at hc
  case isTrue h2 =>
   rw[Nh h2];cases hch:acw (aab G fs) (aax G.cfg.num G.cfg.den (fs.length:Int) (aab G fs)) ws G.cfg.tries.toNat with
   |none=>rw[hch]at hc;simp[abF]at hc
   |some i =>
    have c:=aoz b hch;have j:(aab G fs)[i]∈aab G fs:=Nk c;have e:(abF (aab G fs) (MI i)).1=(aab G fs)[i].1:=by simp[abF,c]
    rw[e];obtain⟨l,a,g⟩:=List.mem_map.1 j;obtain⟨a,o⟩:=List.mem_filter.1 a;rw[<-g];have m:=(h.lf a).1.1;refine⟨?_,m.1,by show l.1<12;omega⟩;show(WS G.liv l.1).2.1=2;rw[abd h.book.1.2.2 a]
    simpa using o
theorem ahT(fs:List Fl)(s g:Int):(Yl fs s g).length<=fs.length:=O1 _ _
theorem ahK{b x:Int}(hb:Zp n d b)(hx:0<=x/\x<=b*d)(h:(Zh n d b x).2=0):Zh n d b x=(x-d,0)/\d<=x:=by
 have a:YN n d b x=0:=ajO.2 ⟨hb,hx⟩;unfold Zh at h⊢;rw[Nh a]at h⊢
 split at h
 ·simp at h
 ·rename_i h1
  exact⟨Nf h1,by omega⟩
theorem ahf{b x:Int}(hb:Zp n d b)(hx:0<=x/\x<=b*d):aa9 n d b x=(min (x+n) (b*d),0):=by
 have a:YN n d b x=0:=ajO.2 ⟨hb,hx⟩;unfold aa9;rw[Nh a]
theorem Bs.conn(h:Bs G):1<=G.cfg.conn/\G.cfg.conn<=500:=h.cfg.2.2.2.2.2.2.2.1
theorem Bs.idle(h:Bs G):1<=G.cfg.idle/\G.cfg.idle<=500:=h.cfg.2.2.2.2.2.2.1
theorem Bs.drain(h:Bs G):1<=G.cfg.drain/\G.cfg.drain<=500:=h.cfg.2.2.2.2.2.1
theorem Bs.I1(h:Bs G)(hi:i<G.fls.length){b:Int}(hb:0<=b/\b<12)(hr:G.fls[i].ret+1<=G.cfg.ret):Bs (ZL G i b):=by
 have a:=h.Ig hi hb hr;unfold ZL;simp only[XA hi];refine Bs.Ii (Bs.GT (Bs.It a ?_ h.conn) _) _;show i<(G.fls.set i _).length;rw[NA];exact hi
theorem Bs.I8(h:Bs G)(hi:i<G.fls.length)(why:Int):Bs (YP G i why):=by
 have b:=Nk hi;have m:=(h.F9 b).2.2.2;have a:=h.GA m Nw;have u:=h.rets _ b;unfold YP;simp only[XA hi]
 split
 ·exact a.Hc b _ _
 ·rename_i hn
  have o:(Zh G.cfg.bn G.cfg.bd G.cfg.bb G.tok).2=0:=by
   by_cases e:(Zh G.cfg.bn G.cfg.bd G.cfg.bb G.tok).2=0
   ·exact e
   ·exact absurd (NF e) hn
  have p:¬G.fls[i].ret=G.cfg.ret:=fun e=>hn (Nt e)
  obtain⟨j,s⟩:=ahK h.GM h.tok o
  split
  ·exact a.Hc b _ _
  ·rename_i c
   have c:(XD (Yh G G.fls[i].be Nw) G.fls[i].key (Yl G.fls G.fls[i].slot G.fls[i].gen)).2=0:=by
    by_cases e:(XD (Yh G G.fls[i].be Nw) G.fls[i].key (Yl G.fls G.fls[i].slot G.fls[i].gen)).2=0
    ·exact e
    ·exact absurd e c
   have g:=a.Ib (Nm (ahT _ _ _) h.Gb) c;have r:=h.GM.2.1;have q:=h.tok;refine Bs.I1 (Bs.Hp a ?_) hi g.2 (by show G.fls[i].ret+1<=G.cfg.ret;omega);rw[j];show 0<=G.tok-G.cfg.bd/\G.tok-G.cfg.bd<=G.cfg.bb*G.cfg.bd;omega
theorem ad4(fs:List Fl)(s:Int):Y3 fs s<=fs.length:=List.findIdx_le_length
theorem ad1(l:List α)(x:α)(hi:i<=l.length):(Xi l x i).length=l.length+1:=by
 simp only[Xi,Ns,Ox,NH,NJ];omega
theorem apB{β:Type}(f:α->β)(l:List α)(x:α)(i:Nat):(Xi l x i).map f=Xi (l.map f) (f x) i:=by
 simp[Xi,List.map_take,List.map_drop]
theorem abT{α:Type}{l:List α}{x y:α}:y∈Xi l x i↔y=x\/y∈l:=by
 unfold Xi;constructor
 ·intro h
  rcases List.mem_append.1 h with h|h
  ·exact NF (List.mem_of_mem_take h)
  ·rcases List.mem_cons.1 h with h|h
   ·exact Nt h
   ·exact NF (List.mem_of_mem_drop h)
 ·rintro(rfl|h)
  ·simp
  ·rw[<-Oo i l]at h
   rcases List.mem_append.1 h with h|h
   ·exact List.mem_append_left _ h
   ·exact Qq _ (NB _ h)
theorem akA(l:List α)(x:α)(hi:i<=l.length):(Xi l x i)[i]'(by rw[ad1 l x hi];omega)=x:=by
 unfold Xi;rw[List.getElem_append_right (by simp;omega)];simp[P1 hi]
theorem Bs.Jn(h:Bs G)(hfree:G.tab.any Y1=Nw){key b:Int}(hk:0<=key/\key<=4294967295)(hb:0<=b/\b<12):Bs (abv G key b):=by
 obtain⟨k,g,e,m,j,_⟩:=h.Gd hfree hk hb;have c:0<=G.cfg.ret:=h.cfg.2.2.2.2.2.2.2.2.1.1;have o:=h.wnow;unfold abv;rw[e];refine⟨h.cfg,h.now,?_,?_,h.book,h.tok,h.hel,h.hea,?_,fun x a=>?_,h.since,h.wts,h.wnow,fun t=>?_⟩
 ·refine aja h.tab ?_
  unfold Yt;rw[Nh rfl];exact⟨j,hk,hb⟩
 ·show((G.tab.set k _).length:Int)=_
  rw[NA];exact h.tabLen
 ·show(Xi G.fls _ (Y3 G.fls (k:Int))).map Fl.F8=Xx 0 (G.tab.set k (G.tab[k].1,Nw,key,b))
  rw[apB,ala rfl g m,<-h.seats]
  congr 1
  ·simp[Fl.F8]
  ·unfold Y3
   rw[List.findIdx_map]
   congr 1
   funext f
   simp[Fl.F8]
 ·rcases abT.1 a with rfl|a
  ·exact⟨Qh _,c⟩
  ·exact h.rets x a
 ·show G.tms t↔∃f∈Xi G.fls _ _,_
  rw[h.tms t];constructor
  ·rintro⟨x,a,e1,e2⟩
   exact⟨x,abT.2 (NF a),e1,e2⟩
  ·rintro⟨x,a,e1,e2⟩
   rcases abT.1 a with rfl|a
   ·exact absurd e2 (by show ¬G.wnow<0;omega)
   ·exact⟨x,a,e1,e2⟩
theorem Bs.Mp(h:Bs G){key:Int}(hk:0<=key/\key<=4294967295):Bs (aaI G key):=by
 unfold aaI
 split
 ·exact h.GT _
 ·rename_i a
  have a:G.tab.any Y1=true:=by cases e:G.tab.any Y1;exact absurd e a;rfl
  simp only[]
  split
  ·exact h.GT _
  ·rename_i b
   have b:(XD G key G.fls).2=0:=by
    by_cases e:(XD G key G.fls).2=0
    ·exact e
    ·exact absurd e b
   have g:=h.Ib h.Gb b;have m:=h.Jn a hk g.2;have j:=h.tok;have c:=h.GM;refine Bs.GT (Bs.Hp (Bs.It m ?_ h.conn) ?_) _
   ·show Y3 G.fls _<(Xi G.fls _ (Y3 G.fls _)).length
    rw[ad1 _ _ (ad4 _ _)];have:=ad4 G.fls (Y8 G.tab key (XD G key G.fls).1).2.1.1;omega
   ·rw[ahf c j]
    show 0<=min (G.tok+G.cfg.bn) (G.cfg.bb*G.cfg.bd)/\min (G.tok+G.cfg.bn) (G.cfg.bb*G.cfg.bd)<=G.cfg.bb*G.cfg.bd;have:=c.1;omega
end
section
variable {G:Gt}
theorem aj0(hb:Ym L R){r:aw0}{now drain:Int}(ha:acT r now drain):
  (ZV R r.1<R.length/\ZU L R r now drain=((L,R),(R[ZV R r.1]?.getD (0,0,0,0,0)).2.2.2.2,Nb,0)) \/
  ((∀q∈R,q.1≠r.1)/\R.length=100/\ZU L R r now drain=((L,R),9,Nb,0)) \/
  ((∀q∈R,q.1≠r.1)/\R.length<100/\ZU L R r now drain=((Zl L R r (now+drain)).1,(Zl L R r (now+drain)).2,Nw,0)):=by
 by_cases h1:ZV R r.1<R.length
 ·exact Nt ⟨h1,arR hb ha h1⟩
 ·have a:=asn h1
  by_cases h2:R.length=100
  ·exact NF (Nt ⟨a,h2,arP hb h2 ha a⟩)
  ·have b:=hb.2.1
   exact NF (NF ⟨a,by omega,arQ hb (by omega) ha a⟩)
theorem aom(hb:Ym L R){r:aw0}{now drain:Int}(ha:acT r now drain)(hs:∀l∈L,l.2.2.2.1<=now):
  (ZU L R r now drain).2.2.2=0/\Ym (ZU L R r now drain).1.1 (ZU L R r now drain).1.2/\∀l∈(ZU L R r now drain).1.1,l.2.2.2.1<=now:=by
 rcases aj0 hb ha with⟨_,e⟩|⟨_,_,e⟩|⟨g,b,e⟩
 ·rw[e];exact⟨rfl,hb,hs⟩
 ·rw[e];exact⟨rfl,hb,hs⟩
 ·rw[e]
  have m:=ha.2.1;have o:=ha.2.2;obtain⟨c,_,_,a⟩:=asB hb b ha.1 g (u:=now+drain) (by omega);refine⟨rfl,c,fun l hl=>?_⟩;rcases a l hl with h|⟨_,rfl⟩|⟨y,j,rfl⟩
  ·exact hs l h
  ·show(0:Int)<=now
   omega
  ·exact hs y j
theorem Bs.Jd(h:Bs G){e:Ev}(he:0<=e.req/\e.req<=1048576){kind:Int}(hk:kind=1\/kind=2):acT (e.req,kind,e.be,e.wt,0) G.now G.cfg.drain:=by
 have a:=h.now;have b:=h.drain;exact⟨⟨he,hk⟩,by omega,by omega⟩
theorem Bs.Mc(h:Bs G){e:Ev}(he:0<=e.req/\e.req<=1048576){kind:Int}(hk:kind=1\/kind=2):Bs (Yv G kind e):=by
 obtain⟨_,a,b⟩:=aom h.book (h.Jd he hk) h.since;exact Bs.GT (Bs.IR h a b) _
theorem Bs.Iv(h:Bs G){b:Int}(hs:WY G.liv b≠0):(0<=b/\b<12)/\1<=(WS G.liv b).2.2.1/\(WS G.liv b).2.2.1<=8:=by
 obtain⟨c,e⟩:=adl hs;have a:=(h.lf c).1;have g:=a.1;rw[e]at g;exact⟨by omega,a.2.1⟩
theorem apa(hn:1<=n):ZO n XM.marks.length XM.out XM.till XM.times:=⟨by show((0:Nat):Int)<=n;omega,⟨by decide,by decide⟩,⟨by decide,by decide⟩,NF rfl⟩
theorem Bs.I4(h:Bs G){b:Int}(hs:WY G.liv b≠0):Bs (YX G b):=by
 have c:=h.Iv hs;refine Bs.Jg (Bs.Ij (H:=G.hea.set b.toNat XM) h (by rw[NA];exact h.hel) fun x a=>?_) (h.wts.F4 b.toNat (WS G.liv b).2.2.1 (by omega) (by omega));rcases aac a with rfl|a
 ·exact apa h.Gx.1.1
 ·exact h.hea x a
theorem alm(l:List Int):∀(G:Gt),Bs G->(∀b∈l,WY G.liv b≠0)->Bs (l.foldl YX G):=by
 induction l with
 |nil=>exact fun G h _=>h
 |cons b l ih=>exact fun G h hs=>ih _ (h.I4 (hs b (by simp))) fun c hc=>hs c (NB _ hc)
theorem alo(n:Int)(x:awV):(XH n x).1=x.1:=by unfold XH;split <;> rfl
theorem aht(f:awV->awV)(hf:∀x,(f x).1=x.1):∀(L:List awV) (b:Int),WS (L.map f) b=if ∃x∈L,x.1=b then f (WS L b)else aa1
 | [],b=>by rw[Nf (by simp)];rfl
 |x::L,b=>by
  have j:=aht f hf L b
  by_cases e:x.1=b
  ·have g:WS ((x::L).map f) b=f x:=by unfold WS;rw[OA,Ql (by rw[hf];simpa using e)];rfl
   have c:WS (x::L) b=x:=by unfold WS;rw[Ql (by simpa using e)];rfl
   rw[g,c,Nh ⟨x,by simp,e⟩]
  ·have g:WS ((x::L).map f) b=WS (L.map f) b:=by unfold WS;rw[OA,Pr (by rw[hf];simpa using e)]
   have c:WS (x::L) b=WS L b:=by unfold WS;rw[Pr (by simpa using e)]
   have m:(∃y∈x::L,y.1=b)↔∃y∈L,y.1=b:=⟨fun⟨y,a,hb⟩=>by
    rcases List.mem_cons.1 a with rfl|a
    ·exact absurd hb e
    ·exact⟨y,a,hb⟩,fun⟨y,a,hb⟩=>⟨y,NB _ a,hb⟩⟩
   rw[g,c,j];simp only[m]
theorem af3(h:Bs G):YH G=(XW G.liv).foldl YX {G with liv:=G.liv.map (XH G.now)}:=by
 unfold YH;rw[amf h.book h.GN]
theorem ad2{b:Int}:b∈XW L↔∃x∈L,x.2.1=1/\x.1=b:=by
 unfold XW;constructor
 ·intro h
  obtain⟨x,a,rfl⟩:=List.mem_map.1 h;obtain⟨a,c⟩:=List.mem_filter.1 a;exact⟨x,a,by simpa using c,rfl⟩
 ·rintro⟨x,a,c,rfl⟩
  exact Ri (List.mem_filter.2 ⟨a,by simpa using c⟩)
theorem Bs.IP(h:Bs G):Bs {G with liv:=G.liv.map (XH G.now)}:=by
 refine Bs.IR (R:=G.req) h (asG h.book h.GN) fun l hl=>?_
 obtain⟨x,a,rfl⟩:=List.mem_map.1 hl;unfold XH
 split
 ·exact Qh _
 ·exact h.since x a
theorem alr(h:Bs G){b:Int}(hb:b∈XW G.liv):WY (G.liv.map (XH G.now)) b=2:=by
 obtain⟨x,a,c,rfl⟩:=ad2.1 hb;show(WS (G.liv.map (XH G.now)) x.1).2.1=2;rw[aht _ (alo _),Nh ⟨x,a,rfl⟩,abd h.book.1.2.2 a];unfold XH;rw[Nh c]
theorem Bs.Jf(h:Bs G):Bs (YH G):=by
 rw[af3 h];refine alm _ _ h.IP fun b hb=>?_
 show WY (G.liv.map (XH G.now)) b≠0;rw[alr h hb]
 decide
theorem aj1(h:Bs G){x:He}(hx:x∈G.hea):abO G x=if x.out=Nw/\x.till<=G.now then⟨x.marks,Nb,0,x.times⟩else x:=by
 unfold abO;rw[aoo h.Gx h.GN (h.hea x hx)]
 split <;> rfl
theorem Bs.I2(h:Bs G):Bs (aaC G):=by
 refine h.Ij (by rw[N0];exact h.hel) fun y hy=>?_
 obtain⟨x,b,rfl⟩:=List.mem_map.1 hy;have a:=h.hea x b;rw[aj1 h b]
 split
 ·exact⟨a.1,a.2.1,⟨Qh 0,by show(0:Int)<=1099511628276;omega⟩,NF rfl⟩
 ·exact a
def adi(G G':Gt)(s:Int):Prop:=∀f:Fl,f.slot≠s->(f∈G'.fls↔f∈G.fls)
theorem afJ(b:Int):(Yf G b).fls=G.fls:=by
 unfold Yf
 split <;> rfl
theorem ad3(h:Bs G)(hf:f∈G.fls)(kind why:Int):adi G (Yg G f kind why) f.slot:=by
 intro x a;unfold Yg;rw[afJ];show x∈Yl G.fls f.slot f.gen↔_;rw[h.GL hf,List.mem_filter];exact⟨fun h=>h.1,fun h=>⟨h,by simpa using a⟩⟩
theorem aqc(h:Bs G)(hi:i<G.fls.length)(hy:y.slot=G.fls[i].slot){x:Fl}(hx:x.slot≠G.fls[i].slot):x∈G.fls.set i y↔x∈G.fls:=by
 rw[abe h.Ge hi hy];constructor
 ·rintro(rfl|h)
  ·exact absurd hy hx
  ·exact h.1
 ·exact fun h=>NF ⟨h,by rw[hy];exact hx⟩
theorem akZ(hi:i<G.fls.length)(b:Int):(ZL G i b).fls=G.fls.set i {G.fls[i]with be:=b,ret:=G.fls[i].ret+1,due:=G.now+G.cfg.conn}:=by
 unfold ZL;simp only[XA hi,afJ];show(G.fls.set i _).set i _=_;rw[List.set_set]
 congr 1
 have e:Xs (Y4 {G with tab:=(Y0 G.tab G.fls[i].slot G.fls[i].gen b).1} i {G.fls[i]with be:=b,ret:=G.fls[i].ret+1}) i={G.fls[i]with be:=b,ret:=G.fls[i].ret+1}:=by
  simp[Xs,Y4,hi]
 rw[e];rfl
theorem akU(h:Bs G)(hi:i<G.fls.length)(why:Int):adi G (YP G i why) G.fls[i].slot:=by
 have a:=Nk hi;have e:=(h.F9 a).2.2.2;have c:=h.GA e Nw;intro x b;unfold YP;simp only[XA hi]
 split
 ·exact ad3 c a _ _ x b
 ·split
  ·exact ad3 c a _ _ x b
  ·rw[akZ (G:={Yh G G.fls[i].be Nw with tok:=_}) hi]
   refine aqc h hi ?_ b;rfl
theorem Bs.Jy(h:Bs G)(hf:f∈G.fls):Bs (X5 G f.slot)/\adi G (X5 G f.slot) f.slot:=by
 obtain⟨a,e⟩:=h.GG hf;unfold X5;simp only[]
 split
 ·rw[XA a,e]
  exact⟨h.Hc hf _ _,ad3 h hf _ _⟩
 ·refine⟨h.I8 a _,?_⟩
  have:=akU h a 5;rw[e]at this;exact this
theorem Bs.IF(h:Bs G)(n:Int):(aaD G.fls n).Nodup/\∀s∈aaD G.fls n,∃f∈G.fls,f.slot=s/\f.due=n:=by
 refine⟨?_,fun s hs=>?_⟩
 ·unfold aaD
  refine List.pairwise_map.2 ((h.Ge.filter _).imp fun {a b} hab=>?_);show a.slot≠b.slot;omega
 ·obtain⟨f,c,rfl⟩:=List.mem_map.1 hs
  obtain⟨c,e⟩:=List.mem_filter.1 c;exact⟨f,c,rfl,by simpa using e⟩
theorem Bs.IN(h:Bs G)(hw:G.wnow+1<=G.now):Bs {G with wnow:=G.wnow+1,tms:=fun t=>G.tms t/\t.1≠G.wnow+1}:=by
 have b:=h.wnow;refine⟨h.cfg,h.now,h.tab,h.tabLen,h.book,h.tok,h.hel,h.hea,h.seats,h.rets,h.since,h.wts,⟨by show 0<=G.wnow+1;omega,hw⟩,fun t=>?_⟩;show(G.tms t/\t.1≠G.wnow+1)↔∃f∈G.fls,t=(f.due,f.slot)/\G.wnow+1<f.due;rw[h.tms t];constructor
 ·rintro⟨⟨f,hf,e1,e2⟩,a⟩
  rw[e1]at a;have a:f.due≠G.wnow+1:=a;exact⟨f,hf,e1,by omega⟩
 ·rintro⟨f,hf,e1,e2⟩
  refine⟨⟨f,hf,e1,by omega⟩,?_⟩;rw[e1];show f.due≠G.wnow+1;omega
theorem Bs.IW(h:Bs G)(b:Int):(YL b G.tab).Pairwise (fun a b=>a.1<b.1)/\∀t∈YL b G.tab,∃f∈G.fls,f.slot=t.1/\f.gen=t.2/\f.be=b:=by
 refine⟨?_,fun t ht=>?_⟩
 ·unfold YL YM
  refine List.pairwise_map.2 (List.Pairwise.imp (fun {a c} hac=>?_) ((List.pairwise_lt_range).filter _));show(a:Int)<(c:Int);omega
 ·unfold YL YM at ht
  obtain⟨i,q,rfl⟩:=List.mem_map.1 ht;obtain⟨p,j⟩:=List.mem_filter.1 q;have m:i<G.tab.length:=by simpa using p
  have e:G.tab.getD i (0,Nb,0,0)=G.tab[i]:=by simp[m]
  rw[e]at j;simp only[aa6,Po,beq_iff_eq]at j;have o:((i:Int),G.tab[i].1,G.tab[i].2.2.1,G.tab[i].2.2.2)∈Xx 0 G.tab:=aeM.2 ⟨i,m,by simp,j.1,rfl⟩;rw[<-h.seats]at o;obtain⟨f,r,g⟩:=List.mem_map.1 o;simp only[Fl.F8,Q7]at g;exact⟨f,r,g.1,by rw[g.2.1];simp[afn,m],by rw[g.2.2.2];exact j.2⟩
theorem Bs.next(h:Bs G)(hn:G.now+1<=1099511626776):Bs {G with now:=G.now+1}:=by
 have b:=h.now;have a:=h.wnow;exact⟨h.cfg,⟨by show 0<=G.now+1;omega,hn⟩,h.tab,h.tabLen,h.book,h.tok,h.hel,h.hea,h.seats,h.rets,fun l hl=>by have:=h.since l hl;show l.2.2.2.1<=G.now+1;omega,h.wts,⟨a.1,by show G.wnow<=G.now+1;omega⟩,h.tms⟩
theorem ahR(l:List Int):∀G:Gt,(l.foldl YX G).wnow=G.wnow/\(l.foldl YX G).now=G.now/\(l.foldl YX G).fls=G.fls/\(l.foldl YX G).liv=G.liv/\(l.foldl YX G).tab=G.tab/\(l.foldl YX G).out=G.out/\(l.foldl YX G).cfg=G.cfg/\(l.foldl YX G).tok=G.tok/\(l.foldl YX G).req=G.req/\(l.foldl YX G).tms=G.tms:=by
 induction l with
 |nil=>exact fun G=>⟨rfl,rfl,rfl,rfl,rfl,rfl,rfl,rfl,rfl,rfl⟩
 |cons b l ih=>exact fun G=>ih (YX G b)
end
structure Im(G:Gt):Prop where
 bs:Bs G
 be:∀f∈G.fls,WY G.liv f.be=2\/WY G.liv f.be=3
 ring:∀b:Nat,b<12->G.wts.getD b 0=if WY G.liv b=2 then(WS G.liv b).2.2.1 else 0
 drn:∀l∈G.liv,l.2.1=3->Zr G.fls l.1=Nw
 hi:∀f∈G.fls,f.due<=G.now+500
structure Wm(G:Gt):Prop where
 im:Im G
 wnow:G.wnow=G.now
 due:∀f∈G.fls,G.now<f.due
 till:∀l∈G.liv,l.2.1=3->G.now<l.2.2.2.2.1
 out:∀h∈G.hea,h.out=Nw->G.now<h.till
section
variable {G:Gt}
theorem acF{b:Int}:Zr fs b=Nw↔∃f∈fs,f.be=b:=by
 unfold Zr;rw[List.any_eq_true];simp
theorem aoy{b:Int}(h:Zr fs b=Nb):∀f∈fs,f.be≠b:=by
 intro f a e;have:Zr fs b=true:=acF.2 ⟨f,a,e⟩;rw[h]at this;cases this
theorem Im.GT(h:Im G)(o:Ou):Im (ZM G o):=⟨h.bs.GT o,h.be,h.ring,h.drn,h.hi⟩
structure Ya(G:Gt)(b:Int):Prop where
 bs:Bs G
 be:∀f∈G.fls,WY G.liv f.be=2\/WY G.liv f.be=3
 ring:∀b:Nat,b<12->G.wts.getD b 0=if WY G.liv b=2 then(WS G.liv b).2.2.1 else 0
 drn:∀l∈G.liv,l.2.1=3->l.1≠b->Zr G.fls l.1=Nw
 hi:∀f∈G.fls,f.due<=G.now+500
theorem Bs.Gv(h:Bs G):Zq G.liv:=h.book.1.2.2
theorem aqP(hr:Zq G.liv){b:Int}(h3:WY G.liv b=3)(c:Int):WS (Yq G.liv b ZF) c=if c=b then ZF (WS G.liv b)else WS G.liv c:=by
 obtain⟨a,e⟩:=adl (L:=G.liv) (b:=b) (by rw[h3];decide)
 split
 ·rename_i hc
  subst hc;have:=akG hr a akj;rw[e]at this;exact this
 ·rename_i hc
  exact ahu _ hc akj
theorem Ya.Ii{b:Int}(h:Ya G b):Im (Yf G b):=by
 have g:=h.bs.Ii b;rw[ahh h.bs]at g⊢
 split
 case isTrue hc =>
  rw[Nh hc]at g;have a:=aqP (G:=G) h.bs.Gv hc.1;have j:∀c,WY (Yq G.liv b ZF) c=if c=b then 4 else WY G.liv c:=fun c=>by
   show(WS (Yq G.liv b ZF) c).2.1=_;rw[a]
   split <;> rfl
  refine⟨g,fun f hf=>?_,fun c hcl=>?_,fun l hl h3=>?_,h.hi⟩
  ·show WY (Yq G.liv b ZF) f.be=2\/WY (Yq G.liv b ZF) f.be=3
   rw[j,Nf (aoy hc.2 f hf)];exact h.be f hf
  ·show G.wts.getD c 0=if WY (Yq G.liv b ZF) c=2 then(WS (Yq G.liv b ZF) c).2.2.1 else 0
   rw[h.ring c hcl,j,a]
   by_cases e:(c:Int)=b
   ·rw[Nh e,Nf (show ¬WY G.liv (c:Int)=2 by rw[e,hc.1];decide),Nf (by decide)]
   ·rw[Nf e,Nf e]
  ·obtain⟨x,m,e⟩:=List.mem_map.1 hl
   by_cases hb:x.1=b
   ·rw[Nh hb]at e
    rw[<-e]at h3;exact absurd h3 (show ¬(4:Int)=3 by decide)
   ·rw[Nf hb]at e
    subst e;exact h.drn x m h3 hb
 case isFalse hc =>
  refine⟨h.bs,h.be,h.ring,fun l hl h3=>?_,h.hi⟩
  by_cases e:l.1=b
  ·subst e
   have a:WY G.liv l.1=3:=by show(WS G.liv l.1).2.1=3;rw[abd h.bs.Gv hl];exact h3
   cases hb:Zr G.fls l.1
   ·exact absurd ⟨a,hb⟩ hc
   ·rfl
  ·exact h.drn l hl h3 e
theorem Im.Iw(h:Im G)(hf:f∈G.fls):Ya {G with tab:=(ZQ G.tab f.slot f.gen).1,fls:=Yl G.fls f.slot f.gen,tms:=fun t=>G.tms t/\t.2≠f.slot} f.be:=by
 have b:=h.bs.GL hf;refine⟨h.bs.Iw hf,fun x a=>?_,h.ring,fun l hl h3 hne=>?_,fun x a=>?_⟩
 ·have a:x∈Yl G.fls f.slot f.gen:=a
  rw[b]at a;exact h.be x (List.mem_filter.1 a).1
 ·show Zr (Yl G.fls f.slot f.gen) l.1=Nw
  rw[b];obtain⟨x,a,e⟩:=acF.1 (h.drn l hl h3);refine acF.2 ⟨x,List.mem_filter.2 ⟨a,?_⟩,e⟩;have:x.slot≠f.slot:=fun e2=>hne (by rw[<-e,h.bs.Ic a hf e2])
  simpa using this
 ·have a:x∈Yl G.fls f.slot f.gen:=a
  rw[b]at a;exact h.hi x (List.mem_filter.1 a).1
theorem Ya.GT{b:Int}(h:Ya G b)(o:Ou):Ya (ZM G o) b:=⟨h.bs.GT o,h.be,h.ring,h.drn,h.hi⟩
theorem Im.Hc(h:Im G)(hf:f∈G.fls)(kind why:Int):Im (Yg G f kind why):=((h.Iw hf).GT _).Ii
theorem Im.GA(h:Im G){b:Int}(hb:0<=b/\b<12)(x:Bool):Im (Yh G b x):=⟨h.bs.GA hb x,h.be,h.ring,h.drn,h.hi⟩
theorem Im.Hp(h:Im G)(hn:0<=n/\n<=G.cfg.bb*G.cfg.bd):Im {G with tok:=n}:=⟨h.bs.Hp hn,h.be,h.ring,h.drn,h.hi⟩
theorem aj5(hi:i<fs.length)(hy:y.be=fs[i].be)(b:Int):Zr (fs.set i y) b=Zr fs b:=by
 have c:(fs.set i y).map Fl.be=fs.map Fl.be:=ahw Fl.be hi hy;have a:∀l:List Fl,Zr l b=(l.map Fl.be).any (· == b):=fun l=>by simp[Zr,List.any_map,Function.comp_def]
 rw[a,a,c]
theorem Im.Mi(h:Im G)(hi:i<G.fls.length)(hy:y.be=G.fls[i].be)(hd:y.due<=G.now+500){T:Tm->Prop}(hb:Bs {G with fls:=G.fls.set i y,tms:=T}):Im {G with fls:=G.fls.set i y,tms:=T}:=by
 refine⟨hb,fun x a=>?_,h.ring,fun l hl h3=>?_,fun x a=>?_⟩
 ·rcases aac a with rfl|a
  ·rw[hy];exact h.be _ (Nk hi)
  ·exact h.be x a
 ·show Zr (G.fls.set i y) l.1=Nw
  rw[aj5 hi hy];exact h.drn l hl h3
 ·rcases aac a with rfl|a
  ·exact hd
  ·exact h.hi x a
theorem Im.It(h:Im G)(hi:i<G.fls.length)(hn:1<=n/\n<=500):Im (YW G i n):=
 h.Mi hi (by rw[XA hi]) (by show G.now+n<=G.now+500;omega) (h.bs.It hi hn)
theorem Im.Hd(h:Im G)(hi:i<G.fls.length)(hs:f.F8=G.fls[i].F8)(hd:f.due=G.fls[i].due)(hr:0<=f.ret/\f.ret<=G.cfg.ret):Im (Y4 G i f):=
 h.Mi (T:=G.tms) hi (congrArg (fun s=>s.2.2.2) hs) (by rw[hd];exact h.hi _ (Nk hi)) (h.bs.Hd hi hs hd hr)
theorem Im.Ig(h:Im G)(hi:i<G.fls.length){b:Int}(hb:0<=b/\b<12)(h2:WY G.liv b=2)(hr:G.fls[i].ret+1<=G.cfg.ret):
  Ya (Y4 {G with tab:=(Y0 G.tab G.fls[i].slot G.fls[i].gen b).1} i {G.fls[i]with be:=b,ret:=G.fls[i].ret+1}) G.fls[i].be:=by
 have c:({G.fls[i]with be:=b,ret:=G.fls[i].ret+1}:Fl).slot=G.fls[i].slot:=rfl;refine⟨h.bs.Ig hi hb hr,fun x a=>?_,h.ring,fun l hl h3 hne=>?_,fun x a=>?_⟩
 ·rcases aac a with rfl|a
  ·exact Nt h2
  ·exact h.be x a
 ·obtain⟨x,a,e⟩:=acF.1 (h.drn l hl h3)
  refine acF.2 ⟨x,(abe h.bs.Ge hi c).2 (NF ⟨a,fun e2=>hne ?_⟩),e⟩;rw[<-e,h.bs.Ic a (Nk hi) e2]
 ·rcases aac a with rfl|a
  ·exact h.hi G.fls[i] (Nk hi)
  ·exact h.hi x a
theorem Ya.It{b:Int}(h:Ya G b)(hi:i<G.fls.length)(hn:1<=n/\n<=500):Ya (YW G i n) b:=by
 refine⟨h.bs.It hi hn,fun x a=>?_,h.ring,fun l hl h3 hne=>?_,fun x a=>?_⟩
 ·rcases aac a with rfl|a
  ·rw[XA hi];exact h.be G.fls[i] (Nk hi)
  ·exact h.be x a
 ·show Zr (G.fls.set i _) l.1=Nw
  rw[aj5 hi (by rw[XA hi])];exact h.drn l hl h3 hne
 ·rcases aac a with rfl|a
  ·show G.now+n<=G.now+500;omega
  ·exact h.hi x a
theorem Im.I1(h:Im G)(hi:i<G.fls.length){b:Int}(hb:0<=b/\b<12)(h2:WY G.liv b=2)(hr:G.fls[i].ret+1<=G.cfg.ret):Im (ZL G i b):=by
 have a:=h.Ig hi hb h2 hr;unfold ZL;simp only[XA hi];refine Ya.Ii (Ya.GT (Ya.It a ?_ h.bs.conn) _);show i<(G.fls.set i _).length;rw[NA];exact hi
theorem aeI(h:Bs G)(hi:i<G.fls.length)(why:Int):
  (∃y,YP G i why=Yg (Yh G G.fls[i].be Nw) G.fls[i] 6 y/\(y=why\/y=4)) \/
  (∃c,YP G i why=ZL {Yh G G.fls[i].be Nw with tok:=G.tok-G.cfg.bd} i c/\G.cfg.bd<=G.tok/\G.fls[i].ret+1<=G.cfg.ret/\WY G.liv c=2/\(0<=c/\c<12)/\XD (Yh G G.fls[i].be Nw) G.fls[i].key (Yl G.fls G.fls[i].slot G.fls[i].gen)=(c,0)):=by
 have g:=Nk hi;have p:=(h.F9 g).2.2.2;have o:=h.GA p Nw;have s:=h.rets _ g;unfold YP;simp only[XA hi]
 split
 ·exact Nt ⟨why,rfl,Nt rfl⟩
 ·rename_i hn
  have q:(Zh G.cfg.bn G.cfg.bd G.cfg.bb G.tok).2=0:=by
   by_cases e:(Zh G.cfg.bn G.cfg.bd G.cfg.bb G.tok).2=0
   ·exact e
   ·exact absurd (NF e) hn
  have r:¬G.fls[i].ret=G.cfg.ret:=fun e=>hn (Nt e)
  obtain⟨m,j⟩:=ahK h.GM h.tok q
  split
  ·exact Nt ⟨4,rfl,NF rfl⟩
  ·rename_i a
   have a:(XD (Yh G G.fls[i].be Nw) G.fls[i].key (Yl G.fls G.fls[i].slot G.fls[i].gen)).2=0:=by
    by_cases e:(XD (Yh G G.fls[i].be Nw) G.fls[i].key (Yl G.fls G.fls[i].slot G.fls[i].gen)).2=0
    ·exact e
    ·exact absurd e a
   have b:=o.Ib (Nm (ahT _ _ _) h.Gb) a;refine NF ⟨_,?_,j,by omega,b.1,b.2,Q8 rfl a⟩;rw[m]
theorem ahO(h:Bs G)(hd:G.cfg.bd<=G.tok):0<=G.tok-G.cfg.bd/\G.tok-G.cfg.bd<=G.cfg.bb*G.cfg.bd:=by
 have:=h.tok;have:=h.GM.2.1;omega
theorem Im.I8(h:Im G)(hi:i<G.fls.length)(why:Int):Im (YP G i why):=by
 have a:=Nk hi;have b:=(h.bs.F9 a).2.2.2;rcases aeI h.bs hi why with⟨y,e,_⟩|⟨c,e,g,o,p,j,_⟩
 ·rw[e]
  exact(h.GA b Nw).Hc a _ _
 ·rw[e]
  have m:=ahO h.bs g;exact Im.I1 (Im.Hp (n:=G.tok-G.cfg.bd) (h.GA b Nw) m) hi j p o
theorem Im.Mr(h:Im G)(hi:i<G.fls.length):Im (aaZ G i):=by
 unfold aaZ;refine Im.GT ?_ _
 split
 ·exact h.It hi h.bs.idle
 ·exact h
theorem Im.Mu(h:Im G)(hi:i<G.fls.length):Im (abh G i):=by
 have a:=Nk hi;have b:=(h.bs.F9 a).2.2.2;unfold abh;simp only[XA hi];refine Im.GT (Im.It (Im.Hd (h.GA b Nb) (i:=i) hi (f:={G.fls[i]with srv:=Nw}) rfl rfl (h.bs.rets G.fls[i] a)) ?_ h.bs.idle) _;show i<(G.fls.set i _).length;rw[NA];exact hi
theorem afU(h:Bs G){key:Int}(hk:0<=key/\key<=4294967295) :
  (aaI G key=acm G 2 9/\G.tab.any Y1=Nb)\/(aaI G key=acm G 2 11/\G.tab.any Y1=Nw/\(XD G key G.fls).2≠0) \/
  (∃(k:Nat) (hlt:k<G.tab.length),XD G key G.fls=((XD G key G.fls).1,0)/\WY G.liv (XD G key G.fls).1=2/\(0<=(XD G key G.fls).1/\(XD G key G.fls).1<12)/\G.tab.any Y1=Nw /\
   G.tab[k].2.1=Nb/\(0<=G.tab[k].1/\G.tab[k].1<=1048575)/\(∀j (hj:j<k),Y1 (G.tab[j]'(by omega))=Nb) /\
   aaI G key=ZM {G with tab:=G.tab.set k (G.tab[k].1,Nw,key,(XD G key G.fls).1),fls:=Xi G.fls ⟨k,G.tab[k].1,key,(XD G key G.fls).1,Nb,0,G.now+G.cfg.conn⟩ (Y3 G.fls k),tms:=fun t=>(G.tms t/\t.2≠(k:Int))\/t=(G.now+G.cfg.conn,(k:Int)),tok:=min (G.tok+G.cfg.bn) (G.cfg.bb*G.cfg.bd)} ⟨1,k,G.tab[k].1,(XD G key G.fls).1,0,0,0⟩):=by
 unfold aaI
 split
 ·rename_i a
  exact Nt ⟨rfl,a⟩
 ·rename_i a
  have a:G.tab.any Y1=true:=by cases e:G.tab.any Y1;exact absurd e a;rfl
  simp only[]
  split
  ·rename_i b
   exact NF (Nt ⟨rfl,a,b⟩)
  ·rename_i b
   have b:(XD G key G.fls).2=0:=by
    by_cases e:(XD G key G.fls).2=0
    ·exact e
    ·exact absurd e b
   have g:=h.Ib h.Gb b;obtain⟨k,hlt,e,u,s,hj⟩:=h.Gd a hk g.2;refine NF (NF ⟨k,hlt,Q8 rfl b,g.1,g.2,a,u,s,hj,?_⟩);have c:=ad4 G.fls (k:Int);have o:=ad1 G.fls (⟨(k:Int),G.tab[k].1,key,(XD G key G.fls).1,Nb,0,0⟩:Fl) c;have q:Xs (abv G key (XD G key G.fls).1) (Y3 G.fls (k:Int))=⟨k,G.tab[k].1,key,(XD G key G.fls).1,Nb,0,0⟩:=by
    unfold abv;rw[e];rw[XA (by show Y3 G.fls (k:Int)<(Xi G.fls _ _).length;rw[o];omega)];exact akA _ _ c
   have m:(Xi G.fls (⟨k,G.tab[k].1,key,(XD G key G.fls).1,Nb,0,0⟩:Fl) (Y3 G.fls (k:Int))).set (Y3 G.fls (k:Int)) ⟨k,G.tab[k].1,key,(XD G key G.fls).1,Nb,0,G.now+G.cfg.conn⟩=Xi G.fls ⟨k,G.tab[k].1,key,(XD G key G.fls).1,Nb,0,G.now+G.cfg.conn⟩ (Y3 G.fls (k:Int)):=by
    unfold Xi;rw[Pw _ _ (by simp;omega)];simp[P1 c]
   rw[ahf h.GM h.tok,e];simp only[];have r:YW (abv G key (XD G key G.fls).1) (Y3 G.fls (k:Int)) G.cfg.conn={G with tab:=G.tab.set k (G.tab[k].1,Nw,key,(XD G key G.fls).1),fls:=Xi G.fls ⟨k,G.tab[k].1,key,(XD G key G.fls).1,Nb,0,G.now+G.cfg.conn⟩ (Y3 G.fls k),tms:=fun t=>(G.tms t/\t.2≠(k:Int))\/t=(G.now+G.cfg.conn,(k:Int))}:=by
    unfold YW;rw[q];unfold abv;rw[e];simp only[];rw[m]
   rw[r];unfold abi;have p:Xs {G with tab:=G.tab.set k (G.tab[k].1,Nw,key,(XD G key G.fls).1),fls:=Xi G.fls ⟨k,G.tab[k].1,key,(XD G key G.fls).1,Nb,0,G.now+G.cfg.conn⟩ (Y3 G.fls k),tms:=fun t=>(G.tms t/\t.2≠(k:Int))\/t=(G.now+G.cfg.conn,(k:Int))} (Y3 G.fls (k:Int))=⟨k,G.tab[k].1,key,(XD G key G.fls).1,Nb,0,G.now+G.cfg.conn⟩:=by
    rw[XA (by show Y3 G.fls (k:Int)<(Xi G.fls _ _).length;rw[ad1 _ _ c];omega)];exact akA _ _ c
   rw[p]
theorem Im.Mp(h:Im G){key:Int}(hk:0<=key/\key<=4294967295):Im (aaI G key):=by
 have b:=h.bs.Mp hk;have g:=h.bs.conn;rcases afU h.bs hk with⟨e,_⟩|⟨e,_⟩|⟨k,j,_,c,_,_,_,_,_,e⟩
 ·rw[e];exact h.GT _
 ·rw[e];exact h.GT _
 ·rw[e]at b⊢
  refine⟨b,fun x a=>?_,h.ring,fun l hl h3=>?_,fun x a=>?_⟩
  ·rcases abT.1 a with rfl|a
   ·exact Nt c
   ·exact h.be x a
  ·obtain⟨x,a,e⟩:=acF.1 (h.drn l hl h3)
   exact acF.2 ⟨x,abT.2 (NF a),e⟩
  ·rcases abT.1 a with rfl|a
   ·show G.now+G.cfg.conn<=G.now+500;omega
   ·exact h.hi x a
end
section
variable {G:Gt}
theorem akF{L':List awV}(hr:Zq L)(hr':Zq L')(h:∀x:awV,x.1≠n->(x∈L'↔x∈L)){c:Int}(hc:c≠n):WS L' c=WS L c:=by
 rcases aeK L c with⟨a,e⟩|⟨g,e⟩
 ·have b:WS L c∈L':=(h _ (by rw[e];exact hc)).2 a
  have:=abd hr' b;rwa[e]at this
 ·rw[e]
  refine ahv fun x hx e2=>?_
  exact g x ((h x (by rw[e2];exact hc)).1 hx) e2
theorem akD(hb:ZD L){m:Int}(hn:0<=n/\n<=11)(hm:1<=m/\m<=8):
  ((WY L n=0\/WY L n=4)/\(Zu L n m).2=0/\(∀c,WS (Zu L n m).1 c=if c=n then(n,1,m,0,0,0)else WS L c)/\∀x∈(Zu L n m).1,x∈L\/x=(n,1,m,0,0,0)) \/
  (¬(WY L n=0\/WY L n=4)/\Zu L n m=(L,7)):=by
 have a:=alW hb n m;have q:Zq L:=hb.2;unfold Zu at a⊢;rw[Nf (by omega)]at a⊢;rcases aeK L n with⟨r,j⟩|⟨z,j⟩
 ·obtain⟨o,p,v⟩:=afV q r
  rw[j]at o p;have u:L[Xk L n]=WS L n:=by simp only[j]at v;exact v
  rw[Nh o,MR p,OV,u]at a⊢;have s:WY L n=(WS L n).2.1:=rfl;have C:WY L n≠0:=by
   have:=(hb.1 _ r).2;omega
  by_cases h4:(WS L n).2.1=4
  ·rw[Nh h4]at a⊢
   have w:L.set (Xk L n) ((n,1,m,0,0,0):awV)=Yq L n (fun _=>(n,1,m,0,0,0)):=by
    have:=ahI q p (b:=n) (by rw[u,j]) (fun _=>((n,1,m,0,0,0):awV));exact this
   have g:Zq (L.set (Xk L n) ((n,1,m,0,0,0):awV)):=a.2;refine Nt ⟨NF h4,rfl,fun c=>?_,fun x hx=>?_⟩
   ·show WS (L.set (Xk L n) (n,1,m,0,0,0)) c=_
    split
    ·rename_i hc
     subst hc;have B:((c,1,m,0,0,0):awV)∈L.set (Xk L c) (c,1,m,0,0,0):=List.mem_iff_getElem.2 ⟨Xk L c,by simpa using p,by simp⟩;exact abd g B
    ·rename_i hc
     refine akF q g (n:=n) (fun x hx=>?_) hc;rw[w];constructor
     ·intro h
      obtain⟨y,A,e⟩:=List.mem_map.1 h
      split at e
      ·exact absurd (by rw[<-e]) hx
      ·rw[<-e];exact A
     ·intro h
      exact List.mem_map.2 ⟨x,h,by rw[Nf hx]⟩
   ·rcases aac hx with h|h
    ·exact NF h
    ·exact Nt h
  ·rw[Nf h4]
   exact NF ⟨fun h=>by rcases h with h|h <;> omega,rfl⟩
 ·have o:Ys L n=false:=by
   cases hh:Ys L n
   ·rfl
   ·exact absurd (aib hh) (z _ (Nk _))
  rw[Nf (by rw[o];simp)]at a⊢;have g:Zq (Xi L ((n,1,m,0,0,0):awV) (Xk L n)):=a.2;have s:WY L n=0:=by show(WS L n).2.1=0;rw[j]
  refine Nt ⟨Nt s,rfl,fun c=>?_,fun x hx=>?_⟩
  ·show WS (Xi L (n,1,m,0,0,0) (Xk L n)) c=_
   split
   ·rename_i hc
    subst hc;exact abd g (x:=(c,1,m,0,0,0)) (abT.2 (Nt rfl))
   ·rename_i hc
    refine akF q g (n:=n) (fun x hx=>?_) hc;rw[abT];exact⟨fun h=>h.resolve_left fun e=>hx (by rw[e]),NF⟩
  ·exact(abT.1 hx).symm
theorem ag7(h:Bs G){e:Ev}(he:0<=e.req/\e.req<=1048576){kind:Int}(hk:kind=1\/kind=2) :
  ((YV G kind e).2.2.1=Nb/\(YV G kind e).1=(G.liv,G.req)) \/
  ((YV G kind e).2.2.1=Nw/\kind=1/\(YV G kind e).1.1=(Zu G.liv e.be e.wt).1/\(YV G kind e).2.1=(Zu G.liv e.be e.wt).2) \/
  ((YV G kind e).2.2.1=Nw/\kind=2/\(YV G kind e).1.1=(ZH G.liv e.be e.req (G.now+G.cfg.drain)).1/\(YV G kind e).2.1=(ZH G.liv e.be e.req (G.now+G.cfg.drain)).2):=by
 unfold YV;rcases aj0 h.book (h.Jd (e:=e) he hk)with⟨_,q⟩|⟨_,_,q⟩|⟨_,_,q⟩
 ·rw[q];exact Nt ⟨rfl,rfl⟩
 ·rw[q];exact Nt ⟨rfl,rfl⟩
 ·rw[q]
  rcases hk with rfl|rfl
  ·exact NF (Nt ⟨rfl,rfl,by unfold Zl;rw[Nh rfl],by unfold Zl;rw[Nh rfl]⟩)
  ·exact NF (NF ⟨rfl,rfl,by unfold Zl;rw[Nf (show ¬(2:Int)=1 by decide)],by unfold Zl;rw[Nf (show ¬(2:Int)=1 by decide)]⟩)
theorem Im.liv(h:Im G)(hb:Bs {G with liv:=L,req:=R})(hc:∀c,c≠n->WS L c=WS G.liv c)(h0:WY G.liv n≠2/\WY G.liv n≠3)(h1:WY L n≠2/\WY L n≠3):Im {G with liv:=L,req:=R}:=by
 refine⟨hb,fun f hf=>?_,fun c hcl=>?_,fun l j h3=>?_,h.hi⟩
 ·have o:=h.be f hf
  show(WS L f.be).2.1=2\/(WS L f.be).2.1=3;rw[hc f.be (fun e=>by rw[e]at o;omega)];exact o
 ·show G.wts.getD c 0=if(WS L c).2.1=2 then(WS L c).2.2.1 else 0
  rw[h.ring c hcl]
  by_cases e:(c:Int)=n
  ·rw[Nf (by rw[e];exact h0.1),Nf (by rw[e];exact h1.1)]
  ·rw[hc c e]
 ·have j:l∈L:=j
  have a:=abd hb.Gv j;have a:WS L l.1=l:=a;have p:l.1≠n:=fun e=>h1.2 (by show(WS L n).2.1=3;rw[<-e,a];exact h3)
  have g:=hc l.1 p;rw[a]at g;have q:WY G.liv l.1=3:=by show(WS G.liv l.1).2.1=3;rw[<-g];exact h3
  obtain⟨m,_⟩:=adl (L:=G.liv) (b:=l.1) (by rw[q];decide);rw[<-g]at m;exact h.drn l m h3
theorem Im.Mh(h:Im G)(hb:Bs {G with req:=R}):Im {G with req:=R}:=⟨hb,h.be,h.ring,h.drn,h.hi⟩
structure XZ(e:Ev):Prop where
 kind:1<=e.kind/\e.kind<=7
 key:0<=e.key/\e.key<=4294967295
 req:0<=e.req/\e.req<=1048576
 be:0<=e.be/\e.be<=11
 wt:e.kind=5->1<=e.wt/\e.wt<=8
theorem Im.Ms(h:Im G){e:Ev}(he:XZ e)(h5:e.kind=5):Im (Yv G 1 e):=by
 have a:=h.bs.Mc he.req (Nt rfl:(1:Int)=1\/(1:Int)=2);refine Im.GT ?_ _;have a:Bs {G with liv:=(YV G 1 e).1.1,req:=(YV G 1 e).1.2}:=a.Jh G.out;rcases ag7 h.bs he.req (Nt rfl:(1:Int)=1\/(1:Int)=2)with⟨_,q⟩|⟨_,_,q,_⟩|⟨_,k,_⟩
 ·rw[q]
  exact h
 ·rw[q]at a⊢
  rcases akD h.bs.book.1.2 he.be (he.wt h5)with⟨b,_,h1,_⟩|⟨_,e1⟩
  ·refine h.liv (n:=e.be) a (fun c hc=>by rw[h1,Nf hc]) (by rcases b with b|b <;> rw[b] <;> decide) ?_
   have:WY (Zu G.liv e.be e.wt).1 e.be=1:=by show(WS (Zu G.liv e.be e.wt).1 e.be).2.1=1;rw[h1,Nh rfl]
   rw[this]
   decide
  ·rw[e1]at a⊢
   exact h.Mh a
 ·exact absurd k (by decide)
theorem ahC(h:Bs G){e:Ev}(he:0<=e.req/\e.req<=1048576) :
  (acC G 2 e=Nb/\(YV G 2 e).1.1=G.liv) \/
  (acC G 2 e=Nw/\(YV G 2 e).2.2.1=Nw/\(YV G 2 e).2.1=0/\(WY G.liv e.be=1\/WY G.liv e.be=2)/\(YV G 2 e).1.1=Yq G.liv e.be (fun x=>aag x (G.now+G.cfg.drain) e.req)):=by
 unfold acC;rcases ag7 h he (NF rfl:(2:Int)=1\/(2:Int)=2)with⟨h1,q⟩|⟨_,k,_⟩|⟨h1,_,q,a⟩
 ·rw[h1,q]
  exact Nt ⟨rfl,rfl⟩
 ·exact absurd k (by decide)
 ·rw[h1,q,a]
  by_cases hs:WY G.liv e.be=1\/WY G.liv e.be=2
  ·rw[aqo h.Gv hs]
   exact NF ⟨rfl,rfl,rfl,hs,rfl⟩
  ·rw[aqp h.Gv hs h.book.1.2.1]
   refine Nt ⟨?_,rfl⟩
   by_cases h3:WY G.liv e.be=3
   ·rw[Nh h3];rfl
   ·rw[Nf h3];rfl
theorem Im.Mt(h:Im G){e:Ev}(he:XZ e):Im (abg G e):=by
 have j:=h.bs.Mc he.req (NF rfl:(2:Int)=1\/(2:Int)=2);have j:Bs {G with liv:=(YV G 2 e).1.1,req:=(YV G 2 e).1.2}:=j.Jh G.out;unfold abg;rcases ahC h.bs he.req with⟨s,q⟩|⟨s,_,_,D,q⟩
 ·rw[Nh s]
  refine Im.GT ?_ _;rw[q]at j⊢;exact h.Mh j
 ·rw[Nf (by rw[s];decide)]
  rw[q]at j;obtain⟨A,B⟩:=adl (L:=G.liv) (b:=e.be) (by omega);have v:WS (Yq G.liv e.be (fun x=>aag x (G.now+G.cfg.drain) e.req)) e.be=aag (WS G.liv e.be) (G.now+G.cfg.drain) e.req:=by
   have:=akG h.bs.Gv A (y:=fun x=>aag x (G.now+G.cfg.drain) e.req) (fun x=>aku x _ _);rw[B]at this;exact this
  have o:∀c,c≠e.be->WS (Yq G.liv e.be (fun x=>aag x (G.now+G.cfg.drain) e.req)) c=WS G.liv c:=fun c hc=>ahu _ hc (fun x=>aku x _ _)
  have r:WY (Yq G.liv e.be (fun x=>aag x (G.now+G.cfg.drain) e.req)) e.be=if WY G.liv e.be=2 then 3 else 4:=by
   show(WS _ e.be).2.1=_;rw[v];rfl
  by_cases m:WY G.liv e.be=1
  ·rw[Nh m]
   refine Im.GT (Im.GT ?_ _) _;rw[q];refine h.liv (n:=e.be) j o (by rw[m];decide) ?_;rw[r,Nf (by rw[m];decide)]
   decide
  ·rw[Nf m]
   have m:WY G.liv e.be=2:=by omega
   rw[Nh m]at r;refine Ya.Ii ?_;have z:Bs {Yv G 2 e with wts:=G.wts.set e.be.toNat 0}:=Bs.Jg (h.bs.Mc he.req (NF rfl)) (h.bs.wts.F4 _ 0 (by omega) (by omega));have u:(Yv G 2 e).liv=Yq G.liv e.be (fun x=>aag x (G.now+G.cfg.drain) e.req):=q;refine⟨z,fun f hf=>?_,fun c hcl=>?_,fun l p h3 hne=>?_,h.hi⟩
   ·show WY (Yv G 2 e).liv f.be=2\/WY (Yv G 2 e).liv f.be=3
    rw[u]
    by_cases a:f.be=e.be
    ·rw[a,r];exact NF rfl
    ·show(WS _ f.be).2.1=2\/(WS _ f.be).2.1=3
     rw[o _ a];exact h.be f hf
   ·show(G.wts.set e.be.toNat 0).getD c 0=if WY (Yv G 2 e).liv c=2 then(WS (Yv G 2 e).liv c).2.2.1 else 0
    rw[u];have w:=h.bs.wts.len
    by_cases a:(c:Int)=e.be
    ·rw[Nf (by rw[a,r];decide)]
     have g:e.be.toNat=c:=by omega
     rw[g];simp[w,hcl]
    ·rw[show WY (Yq G.liv e.be (fun x=>aag x (G.now+G.cfg.drain) e.req)) (c:Int)=WY G.liv c by show(WS _ (c:Int)).2.1=_;rw[o _ a],o _ a,<-h.ring c hcl]
     have g:e.be.toNat≠c:=by have:=he.be;omega
     simp[N3 g]
   ·have p:l∈(Yv G 2 e).liv:=p
    rw[u]at p;obtain⟨x,C,a⟩:=List.mem_map.1 p
    by_cases g:x.1=e.be
    ·rw[Nh g]at a
     exact absurd (by rw[<-a];exact g) hne
    ·rw[Nf g]at a
     subst a;exact h.drn x C h3
theorem aln(l:List Int):∀(G:Gt),G.wts.length=12->(∀b∈l,0<=b/\b<12)->l.Nodup->∀c:Nat,c<12->(l.foldl YX G).wts.getD c 0=if(c:Int)∈l then(WS G.liv c).2.2.1 else G.wts.getD c 0:=by
 induction l with
 |nil=>intro G _ _ _ c _;simp
 |cons b l ih =>
  intro G m j q c g;obtain⟨p,o⟩:=List.nodup_cons.1 q;have r:=j b (by simp);rw[O4,ih (YX G b) (by show(G.wts.set _ _).length=12;rw[NA];exact m) (fun x hx=>j x (NB _ hx)) o c g];show(if(c:Int)∈l then(WS G.liv c).2.2.1 else(G.wts.set b.toNat (WS G.liv b).2.2.1).getD c 0)=_
  by_cases e:(c:Int)=b
  ·have a:b.toNat=c:=by omega
   rw[Nf (by rw[e];exact p),Nh (by rw[e];simp),a,<-e];simp[m,g]
  ·have a:b.toNat≠c:=by omega
   by_cases hm:(c:Int)∈l
   ·rw[Nh hm,Nh (NB _ hm)]
   ·rw[Nf hm,Nf (by simp[e,hm])]
    simp[N3 a]
theorem alq(hr:Zq L):(XW L).Nodup:=by
 unfold XW;refine List.pairwise_map.2 ((hr.filter _).imp fun {a b} h=>?_);show a.1≠b.1;omega
theorem alf(hb:Bs G)(c:Int):WS (G.liv.map (XH G.now)) c=XH G.now (WS G.liv c):=by
 rw[aht _ (alo _)];rcases aeK G.liv c with⟨a,e⟩|⟨b,e⟩
 ·rw[Nh ⟨_,a,e⟩]
 ·rw[Nf (fun⟨x,hx,h⟩=>b x hx h),e]
  rfl
theorem Im.Jf(h:Im G):Im (YH G):=by
 have q:=h.bs.Jf;rw[af3 h.bs]at q⊢;obtain⟨_,u,o,p,_⟩:=ahR (XW G.liv) {G with liv:=G.liv.map (XH G.now)};refine⟨q,fun f hf=>?_,fun c hcl=>?_,fun l hl g=>?_,fun f hf=>?_⟩
 ·rw[o]at hf
  rw[p];show(WS (G.liv.map (XH G.now)) f.be).2.1=2\/(WS (G.liv.map (XH G.now)) f.be).2.1=3;have a:=h.be f hf;rw[alf h.bs];unfold XH;rw[Nf (by show ¬WY G.liv f.be=1;omega)];exact a
 ·rw[aln _ {G with liv:=G.liv.map (XH G.now)} h.bs.wts.len (fun b hb'=>?_) (alq h.bs.Gv) c hcl,p]
  ·show(if(c:Int)∈XW G.liv then(WS (G.liv.map (XH G.now)) c).2.2.1 else G.wts.getD c 0)=if(WS (G.liv.map (XH G.now)) c).2.1=2 then(WS (G.liv.map (XH G.now)) c).2.2.1 else 0
   rw[alf h.bs]
   by_cases hm:(c:Int)∈XW G.liv
   ·obtain⟨x,j,a,e⟩:=ad2.1 hm
    have s:WS G.liv c=x:=by rw[<-e];exact abd h.bs.Gv j
    have m:(XH G.now (WS G.liv c)).2.1=2:=by unfold XH;rw[s,Nh a]
    rw[Nh hm,Nh m]
   ·have r:¬(WS G.liv c).2.1=1:=fun a=>by
     obtain⟨v,g⟩:=adl (L:=G.liv) (b:=(c:Int)) (by show(WS G.liv c).2.1≠0;omega);exact hm (ad2.2 ⟨_,v,a,g⟩)
    have m:XH G.now (WS G.liv c)=WS G.liv c:=by unfold XH;rw[Nf r]
    rw[Nf hm,m,h.ring c hcl]
  ·obtain⟨x,j,_,rfl⟩:=ad2.1 hb'
   have:=(h.bs.lf j).1.1;omega
 ·rw[p]at hl
  rw[o];obtain⟨x,j,rfl⟩:=List.mem_map.1 hl;unfold XH at g⊢
  split at g
  ·exact absurd g (show ¬(2:Int)=3 by decide)
  ·rename_i a
   rw[Nf a];exact h.drn x j g
 ·rw[o]at hf
  rw[u];exact h.hi f hf
theorem Im.I2(h:Im G):Im (aaC G):=⟨h.bs.I2,h.be,h.ring,h.drn,h.hi⟩
theorem aop(h:Bs G):∀x∈(aaC G).hea,x.out=Nw->(aaC G).now<x.till:=by
 intro y c a;obtain⟨x,b,rfl⟩:=List.mem_map.1 c;rw[aj1 h b]at a⊢
 split at a
 ·exact absurd a (show ¬Nb=Nw by decide)
 ·rename_i hn
  rw[Nf hn];show G.now<x.till
  by_cases hlt:G.now<x.till
  ·exact hlt
  ·exact absurd ⟨a,by omega⟩ hn
theorem Im.next(h:Im G)(hn:G.now+1<=1099511626776):Im {G with now:=G.now+1}:=⟨h.bs.next hn,h.be,h.ring,h.drn,fun f hf=>by have:=h.hi f hf;show f.due<=G.now+1+500;omega⟩
theorem Im.IN(h:Im G)(hw:G.wnow+1<=G.now):Im {G with wnow:=G.wnow+1,tms:=fun t=>G.tms t/\t.1≠G.wnow+1}:=⟨h.bs.IN hw,h.be,h.ring,h.drn,h.hi⟩
end
section
variable {G:Gt}
def adh(L L':List awV):Prop:=∀l∈L',l.2.1=3->l∈L
theorem adh.Gy(L:List awV):adh L L:=fun _ h _=>h
theorem adh.F0{A B C:List awV}(h:adh A B)(k:adh B C):adh A C:=fun l hl h3=>h l (k l hl h3) h3
theorem akk(h:Bs G)(b:Int):adh G.liv (Yf G b).liv:=by
 rw[ahh h]
 split
 case isTrue hc =>
  intro l c a;obtain⟨x,g,e⟩:=List.mem_map.1 c
  by_cases hb:x.1=b
  ·rw[Nh hb]at e
   rw[<-e]at a;exact absurd a (show ¬(4:Int)=3 by decide)
  ·rw[Nf hb]at e
   rw[<-e];exact g
 case isFalse hc=>exact adh.Gy _
structure Xc(G G':Gt):Prop where
 now:G'.now=G.now
 wnow:G'.wnow=G.wnow
 cfg:G'.cfg=G.cfg
 ends:adh G.liv G'.liv
 out:(∀h∈G.hea,h.out=Nw->G.now<h.till)->∀h∈G'.hea,h.out=Nw->G.now<h.till
theorem Xc.Gy(G:Gt):Xc G G:=⟨rfl,rfl,rfl,adh.Gy _,fun h=>h⟩
theorem Xc.F0{A B C:Gt}(h:Xc A B)(k:Xc B C):Xc A C :=
 ⟨k.now.trans h.now,k.wnow.trans h.wnow,k.cfg.trans h.cfg,h.ends.F0 k.ends,fun ho=>by have:=k.out;rw[h.now]at this;exact this (h.out ho)⟩
theorem ahi(b:Int):(Yf G b).now=G.now/\(Yf G b).wnow=G.wnow/\(Yf G b).cfg=G.cfg/\(Yf G b).hea=G.hea/\(Yf G b).fls=G.fls/\(Yf G b).tab=G.tab/\(Yf G b).tok=G.tok/\(Yf G b).wts=G.wts/\(Yf G b).tms=G.tms:=by
 unfold Yf
 split <;> exact⟨rfl,rfl,rfl,rfl,rfl,rfl,rfl,rfl,rfl⟩
theorem Xc.Ii(h:Bs G)(b:Int):Xc G (Yf G b):=by
 obtain⟨e,c,g,a,_⟩:=ahi (G:=G) b;exact⟨e,c,g,akk h b,fun ho=>by rw[a];exact ho⟩
theorem Xc.Hc(h:Bs G)(hf:f∈G.fls)(kind why:Int):Xc G (Yg G f kind why):=by
 have a:=Xc.Ii ((h.Iw hf).GT ⟨kind,f.slot,f.gen,f.be,0,0,why⟩) f.be;exact⟨a.now,a.wnow,a.cfg,a.ends,a.out⟩
theorem Xc.GA(h:Bs G){b:Int}(hb:0<=b/\b<12)(x:Bool):Xc G (Yh G b x):=by
 refine⟨rfl,rfl,rfl,adh.Gy _,fun ho y a hy2=>?_⟩;rcases aac a with rfl|a
 ·have c:b.toNat<G.hea.length:=by rw[h.hel];omega
  have e:G.hea.getD b.toNat XM=G.hea[b.toNat]:=by simp[c]
  have g:=h.IE hb;have m:=akx (d:=G.cfg.wh) (t:=(G.hea.getD b.toNat XM).times) h.Gx.2.2.1;have j:YR G.cfg.wn G.cfg.wf G.cfg.wh (G.hea.getD b.toNat XM).marks.length (G.hea.getD b.toNat XM).out (G.hea.getD b.toNat XM).till (G.hea.getD b.toNat XM).times G.now=0:=by unfold YR;rw[Nh h.Gx,Nh h.GN,Nh g]
  unfold afT Zt at hy2⊢;rw[Nh j]at hy2⊢
  split at hy2
  ·rename_i hc
   rw[Nh hc];show G.now<G.now+aaL G.cfg.wh (G.hea.getD b.toNat XM).times;omega
  ·rename_i hc
   rw[Nf hc];show G.now<(G.hea.getD b.toNat XM).till;rw[e]at hy2⊢;exact ho _ (Nk c) hy2
 ·exact ho y a hy2
theorem Xc.I1(h:Bs G)(hi:i<G.fls.length){b:Int}(hb:0<=b/\b<12)(hr:G.fls[i].ret+1<=G.cfg.ret):Xc G (ZL G i b):=by
 have c:=h.Ig hi hb hr;unfold ZL;simp only[XA hi];have e:=Bs.It c (i:=i) (by show i<(G.fls.set i _).length;rw[NA];exact hi) h.conn;have a:=Xc.Ii (Bs.GT e ⟨5,(Xs (YW (Y4 {G with tab:=(Y0 G.tab G.fls[i].slot G.fls[i].gen b).1} i {G.fls[i]with be:=b,ret:=G.fls[i].ret+1}) i G.cfg.conn) i).slot,(Xs (YW (Y4 {G with tab:=(Y0 G.tab G.fls[i].slot G.fls[i].gen b).1} i {G.fls[i]with be:=b,ret:=G.fls[i].ret+1}) i G.cfg.conn) i).gen,(Xs (YW (Y4 {G with tab:=(Y0 G.tab G.fls[i].slot G.fls[i].gen b).1} i {G.fls[i]with be:=b,ret:=G.fls[i].ret+1}) i G.cfg.conn) i).be,0,0,0⟩) G.fls[i].be;exact⟨a.now,a.wnow,a.cfg,a.ends,a.out⟩
theorem Xc.I8(h:Bs G)(hi:i<G.fls.length)(why:Int):Xc G (YP G i why):=by
 have j:=Nk hi;have g:=(h.F9 j).2.2.2;have a:=Xc.GA h g Nw;rcases aeI h hi why with⟨y,e,_⟩|⟨c,e,m,q,r,o,_⟩
 ·rw[e]
  exact a.F0 (Xc.Hc (h.GA g Nw) j _ _)
 ·rw[e]
  have p:=ahO h m;have b:=Xc.I1 (Bs.Hp (n:=G.tok-G.cfg.bd) (h.GA g Nw) p) hi o q;exact⟨b.now.trans a.now,b.wnow.trans a.wnow,b.cfg.trans a.cfg,a.ends.F0 b.ends,fun ho=>b.out (a.out ho)⟩
theorem akm(h:Bs G)(hi:i<G.fls.length)(why:Int):∀x∈(YP G i why).fls,x.slot=G.fls[i].slot->x.due=G.now+G.cfg.conn:=by
 have b:=Nk hi;have j:=(h.F9 b).2.2.2;intro x a e;rcases aeI h hi why with⟨y,q,_⟩|⟨c,q,_⟩
 ·rw[q]at a
  unfold Yg at a;rw[afJ]at a;have a:x∈Yl G.fls G.fls[i].slot G.fls[i].gen:=a;rw[h.GL b]at a;have:=(List.mem_filter.1 a).2;rw[e]at this;simp at this
 ·rw[q,akZ (G:={Yh G G.fls[i].be Nw with tok:=_}) hi]at a
  have a:x∈G.fls.set i {G.fls[i]with be:=c,ret:=G.fls[i].ret+1,due:=G.now+G.cfg.conn}:=a;have g:({G.fls[i]with be:=c,ret:=G.fls[i].ret+1,due:=G.now+G.cfg.conn}:Fl).slot=G.fls[i].slot:=rfl;rcases(abe h.Ge hi g).1 a with rfl|⟨_,hne⟩
  ·rfl
  ·exact absurd e hne
theorem afL(h:Bs G)(hf:f∈G.fls)(kind why:Int):∀x∈(Yg G f kind why).fls,x∈G.fls/\x.slot≠f.slot:=by
 intro x a;unfold Yg at a;rw[afJ]at a;have a:x∈Yl G.fls f.slot f.gen:=a;rw[h.GL hf]at a;obtain⟨b,c⟩:=List.mem_filter.1 a;exact⟨b,by simpa using c⟩
theorem ahy(h:Im G)(hf:f∈G.fls):Im (X5 G f.slot)/\Xc G (X5 G f.slot)/\adi G (X5 G f.slot) f.slot/\∀x∈(X5 G f.slot).fls,x.slot=f.slot->x.due=G.now+G.cfg.conn:=by
 obtain⟨a,e⟩:=h.bs.GG hf;refine⟨?_,?_,(h.bs.Jy hf).2,?_⟩
 ·unfold X5
  simp only[]
  split
  ·rw[XA a,e];exact h.Hc hf _ _
  ·exact h.I8 a _
 ·unfold X5
  simp only[]
  split
  ·rw[XA a,e];exact Xc.Hc h.bs hf _ _
  ·exact Xc.I8 h.bs a _
 ·unfold X5
  simp only[]
  split
  ·rw[XA a,e]
   intro x b c;exact absurd c (afL h.bs hf _ _ x b).2
  ·have:=akm h.bs a 5
   rw[e]at this;exact this
theorem akQ:∀(l:List Int) (G:Gt),Im G->l.Nodup->(∀s∈l,∃f∈G.fls,f.slot=s)->(∀f∈G.fls,G.now<f.due\/f.slot∈l) ->
  Im (l.foldl X5 G)/\Xc G (l.foldl X5 G)/\∀f∈(l.foldl X5 G).fls,G.now<f.due
 | [],G,h,_,_,hd=>⟨h,Xc.Gy G,fun f b=>(hd f b).resolve_right (by simp)⟩
 |s::l,G,h,hn,hs,hd=>by
  obtain⟨f,b,rfl⟩:=hs s (by simp);obtain⟨q,g,j,m⟩:=ahy h b;obtain⟨r,p⟩:=List.nodup_cons.1 hn;have z:=h.bs.conn;obtain⟨v,o,u⟩:=akQ l _ q p (fun c hc=>by
   obtain⟨k,w,rfl⟩:=hs c (NB _ hc);exact⟨k,(j k fun e=>r (by rw[<-e];exact hc)).2 w,rfl⟩) (fun x hx=>by
   rw[g.now]
   by_cases e:x.slot=f.slot
   ·have:=m x hx e
    exact Nt (by omega)
   ·rcases hd x ((j x e).1 hx)with h5|h5
    ·exact Nt h5
    ·rcases List.mem_cons.1 h5 with a|a
     ·exact absurd a e
     ·exact NF a)
  refine⟨v,g.F0 o,fun x hx=>?_⟩;have:=u x hx;rw[g.now]at this;exact this
theorem akK(hf:f∈fs)(h:f.due=n):f.slot∈aaD fs n:=Ri (List.mem_filter.2 ⟨hf,by simpa using h⟩)
theorem Im.Je(h:Im G)(hw:G.wnow+1=G.now)(hd:∀f∈G.fls,G.wnow<f.due) :
  Im (Zs G)/\(Zs G).now=G.now/\(Zs G).wnow=G.now/\(Zs G).cfg=G.cfg/\adh G.liv (Zs G).liv/\((∀h∈G.hea,h.out=Nw->G.now<h.till)->∀h∈(Zs G).hea,h.out=Nw->G.now<h.till)/\∀f∈(Zs G).fls,G.now<f.due:=by
 obtain⟨c,m⟩:=h.bs.IF (G.wnow+1);obtain⟨j,a,g⟩:=akQ (aaD G.fls (G.wnow+1)) _ (h.IN (by omega)) c (fun s hs=>by
  obtain⟨f,b,e,_⟩:=m s hs;exact⟨f,b,e⟩) (fun f b=>by
   have:=hd f b
   by_cases e:f.due=G.wnow+1
   ·exact NF (akK b e)
   ·exact Nt (by show G.now<f.due;omega))
 exact⟨j,a.now,a.wnow.trans hw,a.cfg,a.ends,a.out,g⟩
structure YU(G G':Gt):Prop where
 step:Xc G G'
 fls:∀f∈G'.fls,f∈G.fls
theorem YU.F0{A B C:Gt}(h:YU A B)(k:YU B C):YU A C:=⟨h.step.F0 k.step,fun f hf=>h.fls f (k.fls f hf)⟩
theorem aka:∀(l:List Tm) (G:Gt),Im G->l.Pairwise (fun a b=>a.1<b.1)->(∀t∈l,∃f∈G.fls,f.slot=t.1) ->
  Im (l.foldl Ye G)/\YU G (l.foldl Ye G)/\∀f∈(l.foldl Ye G).fls,∀t∈l,f.slot≠t.1
 | [],G,h,_,_=>⟨h,⟨Xc.Gy G,fun _ h=>h⟩,fun _ _ t ht=>by cases ht⟩
 |t::l,G,h,hn,hs=>by
  obtain⟨f,g,e⟩:=hs t (by simp);obtain⟨A,s⟩:=h.bs.GG g;have m:Ye G t=Yg G f 6 2:=by unfold Ye;rw[<-e,XA A,s]
  have u:Im (Ye G t):=by rw[m];exact h.Hc g _ _
  have D:YU G (Ye G t):=by rw[m];exact⟨Xc.Hc h.bs g _ _,fun x hx=>(afL h.bs g _ _ x hx).1⟩
  have w:adi G (Ye G t) t.1:=by rw[m,<-e];exact ad3 h.bs g _ _
  have p:∀x∈(Ye G t).fls,x.slot≠t.1:=by rw[m,<-e];exact fun x hx=>(afL h.bs g _ _ x hx).2
  obtain⟨z,r⟩:=List.pairwise_cons.1 hn;obtain⟨v,o,B⟩:=aka l _ u r fun c j=>by
   obtain⟨k,C,q⟩:=hs c (NB _ j);refine⟨k,(w k fun e3=>?_).2 C,q⟩;have:=z c j;omega
  refine⟨v,D.F0 o,fun x hx c j=>?_⟩;rcases List.mem_cons.1 j with rfl|j
  ·exact p x (o.fls x hx)
  ·exact B x hx c j
theorem Bs.Jj(h:Bs G)(hf:f∈G.fls):(f.slot,f.gen)∈YL f.be G.tab:=by
 obtain⟨k,a,c,b⟩:=h.slot hf;unfold YL YM;refine List.mem_map.2 ⟨k,List.mem_filter.2 ⟨by simpa using a,?_⟩,?_⟩
 ·simp[aa6,a,b]
 ·simp[afn,a,b,c]
theorem ahd(h:Im G)(l:awV):Im (Zd G l)/\YU G (Zd G l)/\(l.2.1=3->l.2.2.2.2.1<=G.now->∀f∈(Zd G l).fls,f.be≠l.1):=by
 unfold Zd
 split
 ·rename_i a
  refine⟨h,⟨Xc.Gy G,fun _ h=>h⟩,fun h3 hu=>?_⟩;rcases a with a|a
  ·exact absurd h3 a
  ·omega
 ·obtain⟨g,o⟩:=h.bs.IW l.1
  obtain⟨m,c,j⟩:=aka (YL l.1 G.tab) G h g fun t ht=>by
   obtain⟨f,b,e,_⟩:=o t ht;exact⟨f,b,e⟩
  refine⟨m,c,fun _ _ f b e=>?_⟩;have:=h.bs.Jj (c.fls f b);rw[e]at this;exact j f b _ this rfl
theorem akd:∀(L:List awV) (G:Gt),Im G->Im (L.foldl Zd G)/\YU G (L.foldl Zd G)/\∀l∈L,l.2.1=3->l.2.2.2.2.1<=G.now->∀f∈(L.foldl Zd G).fls,f.be≠l.1
 | [],G,h=>⟨h,⟨Xc.Gy G,fun _ h=>h⟩,fun _ hl=>by cases hl⟩
 |l::L,G,h=>by
  obtain⟨j,g,o⟩:=ahd h l;obtain⟨p,e,m⟩:=akd L _ j;refine⟨p,g.F0 e,fun x c=>?_⟩;rcases List.mem_cons.1 c with rfl|c
  ·exact fun a b f hf=>o a b f (e.fls f hf)
  ·intro a b
   exact m x c a (by rw[g.step.now];exact b)
theorem Im.Mq(h:Im G):Im (acG G)/\YU G (acG G)/\∀l∈(acG G).liv,l.2.1=3->G.now<l.2.2.2.2.1:=by
 obtain⟨b,a,j⟩:=akd G.liv G h;refine⟨b,a,fun l hl h3=>?_⟩
 by_cases hlt:G.now<l.2.2.2.2.1
 ·exact hlt
 ·have c:=a.step.ends l hl h3
  obtain⟨f,g,e⟩:=acF.1 (b.drn l hl h3);exact absurd e (j l c h3 (by omega) f g)
theorem aeS(h:Bs G):(YH G).now=G.now/\(YH G).wnow=G.wnow/\(YH G).fls=G.fls/\(YH G).cfg=G.cfg/\(YH G).out=G.out/\(YH G).tab=G.tab/\(YH G).tok=G.tok/\(YH G).liv=G.liv.map (XH G.now):=by
 rw[af3 h];obtain⟨g,c,a,m,e,b,o,j,_⟩:=ahR (XW G.liv) {G with liv:=G.liv.map (XH G.now)};exact⟨c,g,a,o,b,e,j,m⟩
theorem Wm.I6(h:Wm G)(hn:G.now+1<=1099511626776):Wm (abj G)/\(abj G).now=G.now+1/\(abj G).cfg=G.cfg:=by
 have m:=h.im.next hn;obtain⟨D,B,v,w,_⟩:=aeS m.bs;have q:=m.Jf;have A:=q.I2;have a:(aaC (YH {G with now:=G.now+1})).now=G.now+1:=D;have g:(aaC (YH {G with now:=G.now+1})).wnow=G.now:=B.trans h.wnow;obtain⟨z,r,s,u,E,o,C⟩:=A.Je (by rw[g,a]) (fun f b=>by
  have b:f∈(YH {G with now:=G.now+1}).fls:=b;rw[v]at b;rw[g];exact h.due f b)
 obtain⟨c1,c2,c3⟩:=z.Mq;have e:(Zs (aaC (YH {G with now:=G.now+1}))).now=G.now+1:=r.trans a;have c:(abj G).now=G.now+1:=c2.step.now.trans e;refine⟨⟨c1,?_,fun f b=>?_,fun l hl h4=>?_,fun x hx ho=>?_⟩,c,c2.step.cfg.trans (u.trans w)⟩
 ·rw[c]
  exact c2.step.wnow.trans (s.trans a)
 ·rw[c]
  have:=C f (c2.fls f b);rw[a]at this;exact this
 ·rw[c]
  have:=c3 l hl h4;rw[e]at this;exact this
 ·rw[c]
  have p:=c2.step.out;rw[e]at p;rw[a]at o;have j:=aop (G:=YH {G with now:=G.now+1}) q.bs;rw[a]at j;exact p (o j) x hx ho
end
section
variable {G:Gt}
theorem Wm.of(h:Wm G){G':Gt}(im:Im G')(st:Xc G G')(hd:∀f∈G'.fls,G.now<f.due):Wm G' :=
 ⟨im,by rw[st.wnow,st.now];exact h.wnow,by rw[st.now];exact hd,fun l hl h3=>by rw[st.now];exact h.till l (st.ends l hl h3) h3,by rw[st.now];exact st.out h.out⟩
theorem Wm.Jh(h:Wm G)(o:List Ou):Wm {G with out:=o}:=⟨⟨h.im.bs.Jh o,h.im.be,h.im.ring,h.im.drn,h.im.hi⟩,h.wnow,h.due,h.till,h.out⟩
theorem Wm.GT(h:Wm G)(o:Ou):Wm (ZM G o):=h.Jh _
theorem Wm.Hc(h:Wm G)(hf:f∈G.fls)(kind why:Int):Wm (Yg G f kind why):=
 h.of (h.im.Hc hf _ _) (Xc.Hc h.im.bs hf _ _) fun x hx=>h.due x (afL h.im.bs hf _ _ x hx).1
theorem Wm.I8(h:Wm G)(hi:i<G.fls.length)(why:Int):Wm (YP G i why):=by
 refine h.of (h.im.I8 hi _) (Xc.I8 h.im.bs hi _) fun x hx=>?_
 by_cases e:x.slot=G.fls[i].slot
 ·have a:=akm h.im.bs hi why x hx e
  have b:=h.im.bs.conn;omega
 ·exact h.due x ((akU h.im.bs hi why x e).1 hx)
theorem Wm.Mr(h:Wm G)(hi:i<G.fls.length):Wm (aaZ G i):=by
 have b:=h.im.Mr hi;have c:=h.im.bs.idle;unfold aaZ at b⊢
 split at b
 ·rename_i hs
  rw[Nh hs];refine h.of b ⟨rfl,rfl,rfl,adh.Gy _,fun ho=>ho⟩ fun x a=>?_
  rcases aac a with rfl|a
  ·show G.now<G.now+G.cfg.idle;omega
  ·exact h.due x a
 ·rename_i hs
  rw[Nf hs];exact h.GT _
theorem Wm.Mu(h:Wm G)(hi:i<G.fls.length):Wm (abh G i):=by
 have b:=h.im.Mu hi;have j:=h.im.bs.idle;have c:=Nk hi;have g:=(h.im.bs.F9 c).2.2.2;have e:=Xc.GA h.im.bs g Nb;unfold abh at b⊢;simp only[XA hi]at b⊢;refine h.of b ⟨rfl,rfl,rfl,adh.Gy _,e.out⟩ fun x a=>?_
 have a:x∈(G.fls.set i _).set i _:=a;rcases aac a with rfl|a
 ·show G.now<G.now+G.cfg.idle;omega
 ·rcases aac a with rfl|a
  ·exact h.due G.fls[i] c
  ·exact h.due x a
theorem Wm.Mz(h:Wm G)(e:Ev):Wm (aaq G e):=by
 unfold aaq;simp only[]
 split
 ·exact h.GT _
 ·rename_i b
  have b:(Yj G.tab e.slot e.gen).2=0:=by
   by_cases e':(Yj G.tab e.slot e.gen).2=0
   ·exact e'
   ·exact absurd e' b
  obtain⟨f,c,j,m⟩:=h.im.bs.Jv b;rw[<-j];obtain⟨a,g⟩:=h.im.bs.GG c
  split
  ·rw[XA a,g]
   exact h.Hc c _ _
  ·split
   ·exact h.Mr a
   ·split
    ·exact h.GT _
    ·split
     ·exact h.Mu a
     ·exact h.I8 a _
theorem Wm.Mp(h:Wm G){key:Int}(hk:0<=key/\key<=4294967295):Wm (aaI G key):=by
 have b:=h.im.Mp hk;have c:=h.im.bs.conn;rcases afU h.im.bs hk with⟨e,_⟩|⟨e,_⟩|⟨k,g,_,_,_,_,_,_,_,e⟩
 ·rw[e];exact h.GT _
 ·rw[e];exact h.GT _
 ·rw[e]at b⊢
  refine h.of b ⟨rfl,rfl,rfl,adh.Gy _,fun ho=>ho⟩ fun x a=>?_
  rcases abT.1 a with rfl|a
  ·show G.now<G.now+G.cfg.conn;omega
  ·exact h.due x a
theorem Wm.Ms(h:Wm G){e:Ev}(he:XZ e)(h5:e.kind=5):Wm (Yv G 1 e):=by
 refine h.of (h.im.Ms he h5) ⟨rfl,rfl,rfl,fun l a h3=>?_,fun ho=>ho⟩ h.due;have a:l∈(YV G 1 e).1.1:=a;rcases ag7 h.im.bs he.req (Nt rfl:(1:Int)=1\/(1:Int)=2)with⟨_,q⟩|⟨_,_,q,_⟩|⟨_,k,_⟩
 ·rw[q]at a;exact a
 ·rw[q]at a
  rcases akD h.im.bs.book.1.2 he.be (he.wt h5)with⟨_,_,_,b⟩|⟨_,e1⟩
  ·rcases b l a with b|rfl
   ·exact b
   ·exact absurd h3 (show ¬(1:Int)=3 by decide)
  ·rw[e1]at a;exact a
 ·exact absurd k (by decide)
theorem Wm.Mt(h:Wm G){e:Ev}(he:XZ e):Wm (abg G e):=by
 have z:=h.im.bs.drain;have a:=h.im.Mt he;have o:=h.im.bs.Mc he.req (NF rfl:(2:Int)=1\/(2:Int)=2);have r:Bs {Yv G 2 e with wts:=G.wts.set e.be.toNat 0}:=Bs.Jg o (h.im.bs.wts.F4 _ 0 (by omega) (by omega));have m:∀l∈(Yv G 2 e).liv,l.2.1=3->G.now<l.2.2.2.2.1:=by
  intro l b c;have b:l∈(YV G 2 e).1.1:=b;rcases ahC h.im.bs he.req with⟨_,q⟩|⟨_,_,_,B,q⟩
  ·rw[q]at b;exact h.till l b c
  ·rw[q]at b
   obtain⟨x,g,s⟩:=akL b;rcases s with rfl|rfl
   ·exact h.till _ g c
   ·show G.now<G.now+G.cfg.drain
    omega
 unfold abg at a⊢
 split
 ·rename_i hy
  rw[Nh hy]at a;exact⟨a,h.wnow,h.due,m,h.out⟩
 ·rename_i hy
  rw[Nf hy]at a
  split
  ·rename_i h2
   rw[Nh h2]at a;exact⟨a,h.wnow,h.due,m,h.out⟩
  ·rename_i h2
   rw[Nf h2]at a;obtain⟨j,w,A,v,u,_⟩:=ahi (G:={Yv G 2 e with wts:=G.wts.set e.be.toNat 0}) e.be;have p:=akk r e.be;refine⟨a,by rw[j,w];exact h.wnow,fun f hf=>?_,fun l b c=>?_,fun x g ho=>?_⟩
   ·rw[j];rw[u]at hf;exact h.due f hf
   ·rw[j];exact m l (p l b c) c
   ·rw[j];rw[v]at g;exact h.out x g ho
theorem Wm.Mm(h:Wm G){e:Ev}(he:XZ e)(hn:e.kind=7->G.now+1<=1099511626776):Wm (Xb G e):=by
 unfold Xb
 split
 ·exact h.Mp he.key
 ·split
  ·rename_i h5
   exact h.Ms he h5
  ·split
   ·exact h.Mt he
   ·split
    ·rename_i h7
     exact(h.I6 (hn h7)).1
    ·exact h.Mz e
end
section
variable {G:Gt}
theorem aki(b:Int):(Yf G b).out.length<=G.out.length+1:=by
 unfold Yf
 split
 ·show(G.out++[_]).length<=_;simp
 ·omega
theorem afK(f:Fl)(kind why:Int):(Yg G f kind why).out.length<=G.out.length+2:=by
 unfold Yg;refine Nm (aki _) ?_;show(G.out++[_]).length+1<=_;simp
theorem aqr(i:Nat)(b:Int):(ZL G i b).out.length<=G.out.length+2:=by
 unfold ZL;refine Nm (aki _) ?_;show(G.out++[_]).length+1<=_;simp
theorem aoZ(i:Nat)(why:Int):(YP G i why).out.length<=G.out.length+2:=by
 unfold YP;simp only[]
 split
 ·exact afK (G:=Yh G _ Nw) _ _ _
 ·split
  ·exact afK (G:=Yh G _ Nw) _ _ _
  ·exact aqr (G:={Yh G _ Nw with tok:=_}) _ _
theorem akP(s:Int):(X5 G s).out.length<=G.out.length+2:=by
 unfold X5;simp only[]
 split
 ·exact afK _ _ _
 ·exact aoZ _ _
theorem aj9(t:Tm):(Ye G t).out.length<=G.out.length+2:=afK _ _ _
theorem akS:∀(l:List Int) (G:Gt) (k:Nat),Im G->l.Nodup->(∀s∈l,∃f∈G.fls,f.slot=s)->k<=l.length ->
  Im ((l.take k).foldl X5 G)/\Xc G ((l.take k).foldl X5 G)/\(∀s∈l.drop k,∃f∈((l.take k).foldl X5 G).fls,f.slot=s)/\((l.take k).foldl X5 G).out.length<=G.out.length+2*k
 |l,G,0,h,_,hs,_=>⟨h,Xc.Gy G,hs,MV _⟩
 | [],G,k+1,_,_,_,hk=>by simp at hk
 |s::l,G,k+1,h,hn,hs,hk=>by
  obtain⟨f,q,rfl⟩:=hs s (by simp);obtain⟨m,u,o,_⟩:=ahy h q;obtain⟨c,b⟩:=List.nodup_cons.1 hn;obtain⟨r,g,p,v⟩:=akS l (X5 G f.slot) k m b (fun s hs'=>by
   obtain⟨x,j,e⟩:=hs s (NB _ hs');have a:x.slot≠f.slot:=fun e2=>c (by rw[<-e2,e];exact hs')
   exact⟨x,(o x a).2 j,e⟩) (by simpa using hk)
  have w:=akP (G:=G) f.slot;rw[PT,O4,List.drop_succ_cons];exact⟨r,u.F0 g,p,by omega⟩
theorem ake:∀(l:List Tm) (G:Gt) (k:Nat),Im G->l.Pairwise (fun a b=>a.1<b.1)->(∀t∈l,∃f∈G.fls,f.slot=t.1)->k<=l.length ->
  Im ((l.take k).foldl Ye G)/\Xc G ((l.take k).foldl Ye G)/\(∀t∈l.drop k,∃f∈((l.take k).foldl Ye G).fls,f.slot=t.1)/\((l.take k).foldl Ye G).out.length<=G.out.length+2*k
 |l,G,0,h,_,hs,_=>⟨h,Xc.Gy G,hs,MV _⟩
 | [],G,k+1,_,_,_,hk=>by simp at hk
 |t::l,G,k+1,h,hn,hs,hk=>by
  obtain⟨f,c,e⟩:=hs t (by simp);obtain⟨A,q⟩:=h.bs.GG c;have g:Ye G t=Yg G f 6 2:=by
   unfold Ye;rw[<-e,XA A,q]
  have u:Im (Ye G t):=by rw[g];exact h.Hc c _ _
  have C:Xc G (Ye G t):=by rw[g];exact Xc.Hc h.bs c _ _
  have z:adi G (Ye G t) f.slot:=by rw[g];exact ad3 h.bs c _ _
  obtain⟨p,o⟩:=List.pairwise_cons.1 hn;obtain⟨v,r,B,D⟩:=ake l (Ye G t) k u o (fun s hs'=>by
   obtain⟨x,w,j⟩:=hs s (NB _ hs');have m:x.slot≠f.slot:=fun e4=>by have:=p s hs';rw[<-e,<-j,e4]at this;omega
   exact⟨x,(z x m).2 w,j⟩) (by simpa using hk)
  have E:=aj9 (G:=G) t;rw[PT,O4,List.drop_succ_cons];exact⟨v,C.F0 r,B,by omega⟩
theorem ak1:∀ {l m:List Int},l.Pairwise (·<·)->m.Pairwise (·<·)->(∀x,x∈l↔x∈m)->l=m
 | [],[],_,_,_=>rfl
 | [],b::m,_,_,h=>absurd ((h b).2 (NM ..)) (by simp)
 |a::l,[],_,_,h=>absurd ((h a).1 (NM ..)) (by simp)
 |a::l,b::m,h1,h2,h=>by
  obtain⟨g,p⟩:=List.pairwise_cons.1 h1;obtain⟨j,o⟩:=List.pairwise_cons.1 h2;have e:a=b:=by
   rcases List.mem_cons.1 ((h a).1 (NM ..))with e|e
   ·exact e
   ·rcases List.mem_cons.1 ((h b).2 (NM ..))with e2|e2
    ·exact e2.symm
    ·have:=g b e2;have:=j a e;omega
  subst e;rw[ak1 p o fun x=>?_];constructor
  ·intro c
   rcases List.mem_cons.1 ((h x).1 (NB _ c))with e|e
   ·have:=g x c;omega
   ·exact e
  ·intro c
   rcases List.mem_cons.1 ((h x).2 (NB _ c))with e|e
   ·have:=j x c;omega
   ·exact e
theorem apL(h:Bs G){ls ms:List (List Tm)}{L:List Tm}(ht:∀t,t∈ls.flatten↔G.tms t)(hL:Z8 G.wnow ls ms L):L.map (·.2)=aaD G.fls (G.wnow+1):=by
 refine ak1 ?_ ?_ fun x=>?_
 ·refine List.pairwise_map.2 (hL.ord.imp_of_mem fun {a b} ha hb hc=>?_)
  have q:=((hL.off a).1 ha).2;have o:=((hL.off b).1 hb).2;unfold Xe at hc;rw[q,o,Nf (by omega),Nf (by omega)]at hc
  split at hc
  ·assumption
  ·split at hc <;> omega
 ·unfold aaD
  exact List.pairwise_map.2 (h.Ge.filter _)
 ·constructor
  ·intro j
   obtain⟨t,p,rfl⟩:=List.mem_map.1 j;obtain⟨r,m⟩:=(hL.off t).1 p;obtain⟨f,c,e,_⟩:=(h.tms t).1 ((ht t).1 r);rw[e]at m⊢;exact akK c m
  ·intro j
   obtain⟨f,c,rfl⟩:=List.mem_map.1 j;obtain⟨c,g⟩:=List.mem_filter.1 c;have g:f.due=G.wnow+1:=by simpa using g
   refine List.mem_map.2 ⟨(f.due,f.slot),(hL.off _).2 ⟨(ht _).2 ((h.tms _).2 ⟨f,c,rfl,by omega⟩),g⟩,rfl⟩
theorem apM{ls ms:List (List Tm)}{L:List Tm}(ht:∀t,t∈ls.flatten↔G.tms t)(hL:Z8 G.wnow ls ms L)(t:Tm):t∈ms.flatten↔G.tms t/\t.1≠G.wnow+1:=(hL.left t).trans (and_congr (ht t) Iff.rfl)
end
end Go.Proofs.YtgnclkcdnbfeeaaGreatDoor.Q
