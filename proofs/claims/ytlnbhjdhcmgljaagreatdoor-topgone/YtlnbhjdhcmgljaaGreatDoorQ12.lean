/-
  Contracts of the layers and of core, part 12. Conditions: as each theorem says.
-/
import Derived.Test.YtlnbhjdhcmgljaaGreatDoorQ1
import Derived.Test.YtlnbhjdhcmgljaaGreatDoorQ2
import Derived.Test.YtlnbhjdhcmgljaaGreatDoorQ4
import Derived.Test.YtlnbhjdhcmgljaaGreatDoorQ5
import Derived.Test.YtlnbhjdhcmgljaaGreatDoorQ6
import Derived.Test.YtlnbhjdhcmgljaaGreatDoorQ7
import Derived.Test.YtlnbhjdhcmgljaaGreatDoorQ8
import Derived.Test.YtlnbhjdhcmgljaaGreatDoorQ9
import Derived.Test.YtlnbhjdhcmgljaaGreatDoorQ10
open Bool renaming and_eq_true->Po,false->Nb,true->Nw
open Decidable renaming decide->Nn
open Int renaming le_refl->Qh,mul_le_mul->Px,toNat_natCast->NR
open List renaming ext_getElem->PX,find?_cons_of_neg->Pr,find?_cons_of_pos->Ql,findIdx_cons->Tc,foldl_cons->O4,getElem?_eq_getElem->MR,getElem?_set_ne->N3,getElem_cons_zero->MS,getElem_map->QZ,getElem_mem->Nk,getElem_of_mem->NV,getElem_set->Pc,length_append->Ns,length_cons->Ox,length_drop->NJ,length_filter_le->O1,length_map->N0,length_set->NA,length_take->NH,map_congr_left->PU,map_cons->OA,mem_append_right->Qq,mem_cons->OO,mem_cons_of_mem->NB,mem_cons_self->NM,mem_map_of_mem->Ri,mem_or_eq_of_mem_set->OB,set_append_right->Pw,set_cons_succ->MM,set_cons_zero->ML,take_append_drop->Oo,take_succ_cons->PT
open Nat renaming le_refl->MV,le_trans->Nm,lt_or_gt_of_ne->QM,min_eq_left->P1
open Ne renaming symm->Pi
open Option renaming getD_some->OV,some->MI
open Or renaming inl->Nt,inr->NF
open Prod renaming ext->Q8
open Prod.mk renaming injEq->Q7
namespace Go.Proofs.YtlnbhjdhcmgljaaGreatDoor.Q
set_option linter.unusedVariables false
set_option linter.unusedSimpArgs false
set_option maxHeartbeats 16000000
set_option maxRecDepth 100000
open Go.RowKit
attribute [local go_sem ↓] Go.wp_at_zero Go.wp_at_succ
variable {d n t:Int}{i:Nat}{α:Type}
abbrev FV:=Lf
variable {l:FV}{L:List FV}
abbrev FY:=Rq
variable {R:List FY}
abbrev FX:=Sl
structure Fl where
 slot:Int
 gen:Int
 key:Int
 be:Int
 srv:Bool
 ret:Int
 due:Int
 deriving DecidableEq
variable {f y:Fl}{fs:List Fl}
structure Ou where
 kind:Int
 slot:Int
 gen:Int
 be:Int
 req:Int
 code:Int
 why:Int
 deriving DecidableEq
structure He where
 marks:List Bool
 out:Bool
 till:Int
 times:Int
 deriving DecidableEq
structure Gt where
 cfg:Cf
 now:Int
 tab:List FX
 fls:List Fl
 liv:List FV
 req:List FY
 wts:List Int
 hea:List He
 tok:Int
 wnow:Int
 tms:Tm->Prop
 out:List Ou
abbrev bm:He:=⟨[],Nb,0,0⟩
abbrev Ct:Fl:=⟨0,0,0,0,Nb,0,0⟩
abbrev fE:FV:=(0,0,0,0,0,0)
abbrev nv(c:Cf):Prop :=
 (1<=c.flows/\c.flows<=40)/\(1<=c.den/\c.den<=c.num)/\c.num<=20/\(0<=c.tries/\c.tries<=12)/\(0<=c.warm/\c.warm<=500) /\
 (1<=c.drain/\c.drain<=500)/\(1<=c.idle/\c.idle<=500)/\(1<=c.conn/\c.conn<=500)/\(0<=c.ret/\c.ret<=20)/\(0<=c.most/\c.most<=100) /\
 dq c.bn c.bd c.bb/\dR c.wn c.wf c.wh
def aq(L:List FV)(b:Int):FV:=(L.find? fun x=>x.1 == b).getD fE
abbrev aA(L:List FV)(b:Int):Int:=(aq L b).2.1
def fX(fs:List Fl)(b:Int):Nat:=fs.countP fun f=>f.be == b
def du(fs:List Fl)(b:Int):Bool:=fs.any fun f=>f.be == b
def ge(G:Gt)(o:Ou):Gt:={G with out:=G.out++[o]}
def kY(G:Gt)(k c:Int):Gt:=ge G ⟨k,0,0,0,0,c,0⟩
def iA(G:Gt)(k:Int)(f:Fl):Gt:=ge G ⟨k,f.slot,f.gen,f.be,0,0,0⟩
def lk(G:Gt)(b r:Int):Gt:=ge G ⟨9,0,0,b,r,0,0⟩
def fL(fs:List Fl)(s:Int):Nat:=fs.findIdx fun f=>f.slot == s
def cj(G:Gt)(b:Int):Gt :=
 if aA G.liv b=3/\du G.fls b=Nb then
  lk {G with liv:=(eL G.liv G.req b).1.1,req:=(eL G.liv G.req b).1.2} b (aq G.liv b).2.2.2.2.2
 else G
def gL(G:Gt)(l:FV):Int :=
 if(G.hea.getD l.1.toNat bm).out then 0 else FZ l.2.2.1 (G.now-l.2.2.2.1) G.cfg.warm
def ej(G:Gt)(fs:List Fl):List (Int×Int×Int):=
 (G.liv.filter fun l=>l.2.1 == 2).map fun l=>(l.1,gL G l,(fX fs l.1:Int))
def pR(G:Gt)(key:Int):List Int:=ie (ao G.wts) (fH key.toNat:Nat)
def dL(G:Gt)(key:Int)(fs:List Fl):Int×Int :=
 gY (pR G key) (ej G fs) G.cfg.num G.cfg.den (fs.length:Int) G.cfg.tries
def gv(L:List FV):Nat:=L.countP fun l=>l.2.1 == 2
def fN(L:List FV)(H:List He):Nat:=L.countP fun l=>(l.2.1 == 2) && (H.getD l.1.toNat bm).out
def gy(G:Gt)(b:Int):Bool :=
 (iU (fN G.liv G.hea:Int) (gv G.liv:Int) G.cfg.most).1 && (aA G.liv b == 2)
def mv(x:List Bool×Bool×Int×Int):He:=⟨x.1,x.2.1,x.2.2.1,x.2.2.2⟩
def mr(G:Gt)(b:Int)(failed:Bool):He :=
 mv (di G.cfg.wn G.cfg.wf G.cfg.wh (G.hea.getD b.toNat bm).marks (G.hea.getD b.toNat bm).out (G.hea.getD b.toNat bm).till (G.hea.getD b.toNat bm).times failed G.now (gy G b)).1
def dg(G:Gt)(b:Int)(failed:Bool):Gt:={G with hea:=G.hea.set b.toNat (mr G b failed)}
def kU(G:Gt)(s:Int):Gt:={G with tms:=fun t=>G.tms t/\t.2≠s}
def aQ(G:Gt)(i:Nat):Fl:=G.fls.getD i Ct
def eT(G:Gt)(i:Nat)(f:Fl):Gt:={G with fls:=G.fls.set i f}
def dU(G:Gt)(i:Nat)(ticks:Int):Gt :=
 {G with fls:=G.fls.set i {aQ G i with due:=G.now+ticks},tms:=fun t=>(G.tms t/\t.2≠(aQ G i).slot)\/t=(G.now+ticks,(aQ G i).slot)}
def bO(fs:List Fl)(s g:Int):List Fl:=fs.filter fun f=>!((f.slot == s) && (f.gen == g))
def dn(G:Gt)(f:Fl)(kind why:Int):Gt :=
 cj (ge {G with tab:=(ed G.tab f.slot f.gen).1,fls:=bO G.fls f.slot f.gen,tms:=fun t=>G.tms t/\t.2≠f.slot} ⟨kind,f.slot,f.gen,f.be,0,0,why⟩) f.be
def eQ(G:Gt)(i:Nat)(b:Int):Gt :=
 let f:=aQ G i
 let G1:=eT {G with tab:=(db G.tab f.slot f.gen b).1} i {f with be:=b,ret:=f.ret+1}
 let G2:=dU G1 i G.cfg.conn
 cj (iA G2 5 (aQ G2 i)) f.be
def dP(G:Gt)(i:Nat)(why:Int):Gt :=
 let f:=aQ G i
 let G1:=dg G f.be Nw
 let s:=dp G.cfg.bn G.cfg.bd G.cfg.bb G.tok
 if f.ret=G.cfg.ret\/s.2≠0 then dn G1 f 6 why
 else
  let c:=dL G1 f.key (bO G.fls f.slot f.gen)
  if c.2≠0 then dn G1 f 6 4
  else eQ {G1 with tok:=s.1} i c.1
def mX(G:Gt)(i:Nat):Gt :=
 let f:=aQ G i
 let G1:=dU (eT (dg G f.be Nb) i {f with srv:=Nw}) i G.cfg.idle
 iA G1 4 (aQ G1 i)
def mV(G:Gt)(i:Nat):Gt :=
 let G1:=if(aQ G i).srv then dU G i G.cfg.idle else G
 iA G1 3 (aQ G1 i)
def eu(t:FX):Bool:=!t.2.1 && (t.1 != 1048576)
def f9(fs:List Fl)(s:Int):Nat:=fs.findIdx fun f=>Nn (s<f.slot)
def jD(G:Gt)(key b:Int):Gt :=
 let o:=cZ G.tab key b
 {G with tab:=o.1,fls:=aT G.fls ⟨o.2.1.1,o.2.1.2,key,b,Nb,0,0⟩ (f9 G.fls o.2.1.1)}
def mA(G:Gt)(key:Int):Gt :=
 if G.tab.any eu=Nb then kY G 2 9
 else
  let c:=dL G key G.fls
  if c.2≠0 then kY G 2 11
  else
   let i:=f9 G.fls (cZ G.tab key c.1).2.1.1
   let G2:=dU (jD G key c.1) i G.cfg.conn
   iA {G2 with tok:=(fI G.cfg.bn G.cfg.bd G.cfg.bb G.tok).1} 1 (aQ G2 i)
def mW(G:Gt)(e:Ev):Gt :=
 let c:=(cC G.tab e.slot e.gen).2
 if c≠0 then kY G 10 c
 else
  let i:=fL G.fls e.slot
  if e.kind=3 then dn G (aQ G i) 7 0
  else if e.kind=2 then mV G i
  else if(aQ G i).srv then kY G 10 7
  else if e.good then mX G i
  else dP G i 3
def dJ(G:Gt)(kind:Int)(e:Ev):lz:=ff G.liv G.req (e.req,kind,e.be,e.wt,0) G.now G.cfg.drain
def fO(G:Gt)(kind:Int)(e:Ev):Gt :=
 ge {G with liv:=(dJ G kind e).1.1,req:=(dJ G kind e).1.2} ⟨8,0,0,0,e.req,(dJ G kind e).2.1,0⟩
def ja(G:Gt)(kind:Int)(e:Ev):Bool:=(dJ G kind e).2.2.1 && ((dJ G kind e).2.1 == 0)
def nC(G:Gt)(e:Ev):Gt :=
 if ja G 2 e=Nb then fO G 2 e
 else if aA G.liv e.be=1 then lk (fO G 2 e) e.be e.req
 else cj {fO G 2 e with wts:=G.wts.set e.be.toNat 0} e.be
def cV(G:Gt)(b:Int):Gt:={G with hea:=G.hea.set b.toNat bm,wts:=G.wts.set b.toNat (aq G.liv b).2.2.1}
def eE(G:Gt):Gt :=
 (gB G.liv G.req G.now).2.1.foldl cV {G with liv:=(gB G.liv G.req G.now).1.1,req:=(gB G.liv G.req G.now).1.2}
def gK(G:Gt)(h:He):He:=mv (da G.cfg.wn G.cfg.wf G.cfg.wh h.marks h.out h.till h.times G.now).1
def lU(G:Gt):Gt:={G with hea:=G.hea.map (gK G)}
def bE(G:Gt)(s:Int):Gt :=
 let i:=fL G.fls s
 if(aQ G i).srv then dn G (aQ G i) 6 1 else dP G i 5
def fK(fs:List Fl)(n:Int):List Int:=(fs.filter fun f=>f.due == n).map (·.slot)
def fk(G:Gt):Gt:=(fK G.fls (G.wnow+1)).foldl bE {G with wnow:=G.wnow+1,tms:=fun t=>G.tms t/\t.1≠G.wnow+1}
def bM(G:Gt)(h:Tm):Gt:=dn G (aQ G (fL G.fls h.1)) 6 2
def dV(G:Gt)(l:FV):Gt :=
 if l.2.1≠3\/G.now<l.2.2.2.2.1 then G else(cz l.1 G.tab).foldl bM G
def qU(G:Gt):Gt:=G.liv.foldl dV G
def mK(G:Gt):Gt:=qU (fk (lU (eE {G with now:=G.now+1})))
def iG(G:Gt)(e:Ev):Gt :=
 if e.kind=1 then mA G e.key
 else if e.kind=5 then fO G 1 e
 else if e.kind=6 then nC G e
 else if e.kind=7 then mK G
 else mW G e
abbrev lL:=Int×Int×Int×Int
def aP:Int->List FX->List lL
 |_,[]=>[]
 |n,t::l=>if t.2.1=Nw then(n,t.1,t.2.2.1,t.2.2.2)::aP (n+1) l else aP (n+1) l
abbrev Fl.F8(f:Fl):lL:=(f.slot,f.gen,f.key,f.be)
theorem lO:∀ {n:Int} {l:List FX} {s:lL},s∈aP n l↔∃(i:Nat) (h:i<l.length),s.1=n+i/\l[i].2.1=Nw/\s.2=(l[i].1,l[i].2.2.1,l[i].2.2.2)
 |n,[],s=>by simp[aP]
 |n,t::l,s=>by
  have ih:=@lO (n+1) l s;have hc:(∃(i:Nat) (h:i<(t::l).length),s.1=n+i/\(t::l)[i].2.1=Nw/\s.2=((t::l)[i].1,(t::l)[i].2.2.1,(t::l)[i].2.2.2))↔(s.1=n/\t.2.1=Nw/\s.2=(t.1,t.2.2.1,t.2.2.2))\/s∈aP (n+1) l:=by
   rw[ih];constructor
   ·rintro⟨i,hi,h1,h2,h3⟩
    cases i with
    |zero=>exact Nt ⟨by simpa using h1,h2,h3⟩
    |succ i=>exact NF ⟨i,by simpa using hi,by rw[h1];push_cast;omega,h2,h3⟩
   ·rintro(⟨h1,h2,h3⟩|⟨i,hi,h1,h2,h3⟩)
    ·exact⟨0,by simp,by simpa using h1,h2,h3⟩
    ·exact⟨i+1,by simpa using hi,by rw[h1];push_cast;omega,h2,h3⟩
  rw[hc,show aP n (t::l)=if t.2.1=Nw then(n,t.1,t.2.2.1,t.2.2.2)::aP (n+1) l else aP (n+1) l from rfl]
  split
  case isTrue h =>
   rw[OO];constructor
   ·rintro(rfl|h1)
    ·exact Nt ⟨rfl,h,rfl⟩
    ·exact NF h1
   ·rintro(⟨h1,_,h3⟩|h1)
    ·exact Nt (Q8 h1 h3)
    ·exact NF h1
  case isFalse h =>
   constructor
   ·exact NF
   ·rintro(⟨_,h2,_⟩|h1)
    ·exact absurd h2 h
    ·exact h1
theorem nt{l:List FX}{s:lL}(h:s∈aP n l):n<=s.1:=by
 obtain⟨i,_,h1,_⟩:=lO.1 h;omega
theorem oe:∀ {n:Int} {l:List FX},(aP n l).Pairwise (fun a b=>a.1<b.1)
 |n,[]=>by simp[aP]
 |n,t::l=>by
  unfold aP
  split
  case isTrue h=>exact List.pairwise_cons.2 ⟨fun s hs=>by have:=nt hs;show n<s.1;omega,oe⟩
  case isFalse h=>exact oe
theorem tf:∀ {n:Int} {l:List FX},(aP n l).length<=l.length
 |n,[]=>by simp[aP]
 |n,t::l=>by
  have:=@tf (n+1) l;unfold aP
  split <;> simp <;> omega
theorem uX{x:FX}(hx:x.2.1=Nb):∀ {n:Int} {l:List FX} {k:Nat},k<l.length->aP n (l.set k x)=(aP n l).filter (fun s=>s.1 != n+k)
 |n,t::l,0,_=>by
  have h1:(aP (n+1) l).filter (fun s=>s.1 != n)=aP (n+1) l:=List.filter_eq_self.2 fun s hs=>by have:=nt hs;simp;omega
  simp only[ML,aP,hx]
  by_cases h:t.2.1=Nw
  ·simp[h,h1]
  ·simp[h,h1]
 |n,t::l,k+1,hk=>by
  have ih:=@uX x hx (n+1) l k (by simpa using hk);have e:∀s:lL,(s.1 != n+((k+1:Nat):Int))=(s.1 != n+1+(k:Int)):=fun s=>by rw[show n+((k+1:Nat):Int)=n+1+(k:Int)by push_cast;omega]
  simp only[MM,aP,ih,e]
  by_cases h:t.2.1=Nw
  ·have:(n != n+1+(k:Int))=true:=by simp;omega
   simp[h,this]
  ·simp[h]
theorem sc{x:FX}(hx:x.2.1=Nw):∀ {n:Int} {l:List FX} {k:Nat} (hk:k<l.length),l[k].2.1=Nw->aP n (l.set k x)=(aP n l).map (fun s=>if s.1=n+k then(n+k,x.1,x.2.2.1,x.2.2.2)else s)
 |n,t::l,0,_,hu=>by
  have h1:(aP (n+1) l).map (fun s=>if s.1=n then(n,x.1,x.2.2.1,x.2.2.2)else s)=aP (n+1) l:=by
   conv=>rhs;rw[<-List.map_id (aP (n+1) l)]
   exact PU fun s hs=>by have:=nt hs;rw[Nf (by omega)];rfl
  simp only[MS]at hu;simp only[ML,aP,hx,hu,if_true,OA,Int.natCast_zero,Int.add_zero,h1]
 |n,t::l,k+1,hk,hu=>by
  have ih:=@sc x hx (n+1) l k (by simpa using hk) (by simpa using hu);simp only[MM,aP,ih];rw[show n+((k+1:Nat):Int)=n+1+(k:Int)by push_cast;omega]
  by_cases h:t.2.1=Nw
  ·rw[Nh h,Nh h,OA,Nf (by show ¬n=n+1+(k:Int);omega)]
  ·rw[Nf h,Nf h]
theorem Fh(a x:α)(l:List α)(i:Nat):aT (a::l) x (i+1)=a::aT l x i:=by simp[aT]
theorem Bg(x:α)(l:List α):aT l x 0=x::l:=by simp[aT]
theorem rP{x:FX}(hx:x.2.1=Nw):∀ {n:Int} {l:List FX} {k:Nat} (hk:k<l.length),l[k].2.1=Nb->aP n (l.set k x)=aT (aP n l) (n+k,x.1,x.2.2.1,x.2.2.2) ((aP n l).findIdx fun s=>Nn (n+k<s.1))
 |n,t::l,0,_,hu=>by
  simp only[MS]at hu;have h0:(aP (n+1) l).findIdx (fun s=>Nn (n<s.1))=0:=by
   cases hs:aP (n+1) l with
   |nil=>rfl
   |cons s r =>
    have:=nt (s:=s) (by rw[hs];simp);simp[Tc,show n<s.1 by omega]
  simp only[ML,aP,hx,hu,if_true,Int.natCast_zero,Int.add_zero,Bool.false_eq_true,if_false,h0,Bg]
 |n,t::l,k+1,hk,hu=>by
  have ih:=@rP x hx (n+1) l k (by simpa using hk) (by simpa using hu);simp only[MM,aP,ih];rw[show n+((k+1:Nat):Int)=n+1+(k:Int)by push_cast;omega]
  by_cases h:t.2.1=Nw
  ·rw[Nh h,Nh h]
   have:Nn (n+1+(k:Int)<n)=false:=by simp;omega
   rw[Tc];simp only[this,cond_false];rw[Fh]
  ·rw[Nf h,Nf h]
structure Bs(G:Gt):Prop where
 cfg:nv G.cfg
 now:0<=G.now/\G.now<=1099511626776
 tab:ea G.tab
 tabLen:(G.tab.length:Int)=G.cfg.flows
 book:bX G.liv G.req
 tok:0<=G.tok/\G.tok<=G.cfg.bb*G.cfg.bd
 hel:G.hea.length=12
 hea:∀h∈G.hea,dI G.cfg.wn h.marks.length h.out h.till h.times
 seats:G.fls.map Fl.F8=aP 0 G.tab
 rets:∀f∈G.fls,0<=f.ret/\f.ret<=G.cfg.ret
 since:∀l∈G.liv,l.2.2.2.1<=G.now
 wts:aZ G.wts
 wnow:0<=G.wnow/\G.wnow<=G.now
 tms:∀t,G.tms t↔∃f∈G.fls,t=(f.due,f.slot)/\G.wnow<f.due
section
variable {G:Gt}
theorem Bs.Ge(h:Bs G):G.fls.Pairwise (fun a b=>a.slot<b.slot):=by
 have h1:(G.fls.map Fl.F8).Pairwise (fun a b=>a.1<b.1):=by rw[h.seats];exact oe
 exact(List.pairwise_map (f:=Fl.F8) (R:=fun a b=>a.1<b.1)).1 h1
theorem Bs.slot(h:Bs G)(hf:f∈G.fls):∃(k:Nat) (hk:k<G.tab.length),f.slot=k/\G.tab[k]=(f.gen,Nw,f.key,f.be):=by
 have h1:f.F8∈aP 0 G.tab:=by rw[<-h.seats];exact Ri hf
 obtain⟨i,hi,e1,e2,e3⟩:=lO.1 h1;refine⟨i,hi,by rw[show f.slot=(0:Int)+i from e1];omega,?_⟩;generalize G.tab[i]=t at e2 e3;obtain⟨t1,t2,t3,t4⟩:=t;simp only[Q7]at e2 e3⊢;exact⟨e3.1.symm,e2,e3.2.1.symm,e3.2.2.symm⟩
theorem Bs.F9(h:Bs G)(hf:f∈G.fls):(0<=f.slot/\f.slot<40)/\(0<=f.gen/\f.gen<=1048575)/\(0<=f.key/\f.key<=4294967295)/\(0<=f.be/\f.be<12):=by
 obtain⟨k,hk,e1,e2⟩:=h.slot hf;have h1:=h.tab.2 _ (Nk hk);have h2:=h.tab.1.2;rw[e2]at h1;unfold bN at h1;rw[Nh rfl]at h1;exact⟨by omega,h1.1,h1.2.1,h1.2.2⟩
theorem Bs.IV(h:Bs G)(hf:f∈G.fls):cC G.tab f.slot f.gen=((f.gen,Nw,f.key,f.be),0):=by
 obtain⟨k,hk,e1,e2⟩:=h.slot hf;rw[e1,o9 h.tab hk rfl,e2,Nh ⟨rfl,rfl⟩]
theorem Bs.Hj(h:Bs G)(hf:f∈G.fls):ed G.tab f.slot f.gen=(G.tab.set f.slot.toNat (f.gen+1,Nb,0,0),0):=by
 unfold ed;rw[h.IV hf,Nh rfl]
theorem Bs.Ho(h:Bs G)(hf:f∈G.fls){b:Int}(hb:0<=b/\b<12):db G.tab f.slot f.gen b=(G.tab.set f.slot.toNat (f.gen,Nw,f.key,b),0):=by
 unfold db;rw[h.IV hf,Nh rfl,Nh hb]
theorem Bs.Ic(h:Bs G){k:Fl}(hf:f∈G.fls)(hk:k∈G.fls)(e:f.slot=k.slot):f=k:=by
 obtain⟨i,hi,rfl⟩:=NV hf;obtain⟨j,hj,rfl⟩:=NV hk;have hr:=List.pairwise_iff_getElem.1 h.Ge;rcases Nat.lt_trichotomy i j with hlt|rfl|hlt
 ·have:=hr i j hi hj hlt;omega
 ·rfl
 ·have:=hr j i hj hi hlt;omega
theorem Bs.GL(h:Bs G)(hf:f∈G.fls):bO G.fls f.slot f.gen=G.fls.filter fun x=>x.slot != f.slot:=by
 unfold bO;refine List.filter_congr fun x hx=>?_
 by_cases e:x.slot=f.slot
 ·rw[h.Ic hx hf e]
  simp
 ·have e1:(x.slot == f.slot)=false:=by simpa using e
  have e2:(x.slot != f.slot)=true:=by simpa using e
  rw[e1,e2];rfl
theorem Bs.Ie(h:Bs G)(hi:i<G.fls.length):fL G.fls G.fls[i].slot=i:=by
 unfold fL;refine gJ hi (fun t ht=>?_) (by simp);obtain⟨j,hj,rfl⟩:=NV ht;have hj2:j<i:=by simp at hj;omega
 have:=List.pairwise_iff_getElem.1 h.Ge j i (by omega) hi hj2;simp only[List.getElem_take];simp;omega
theorem Bs.GG(h:Bs G)(hf:f∈G.fls):∃hi:fL G.fls f.slot<G.fls.length,G.fls[fL G.fls f.slot]=f:=by
 obtain⟨i,hi,rfl⟩:=NV hf;have e:=h.Ie hi;exact⟨by rw[e];exact hi,by simp only[e]⟩
theorem bJ(hi:i<G.fls.length):aQ G i=G.fls[i]:=by simp[aQ,hi]
theorem Bs.Jv(h:Bs G){s g:Int}(hg:(cC G.tab s g).2=0):∃f∈G.fls,f.slot=s/\f.gen=g:=by
 obtain⟨x,hx⟩:∃x,x=(cC G.tab s g).1:=⟨_,rfl⟩;obtain⟨_,k,rfl,hk,e1,e2,e3⟩:=qz (x:=x) (Q8 hx.symm hg);have h1:((k:Int),x.1,x.2.2.1,x.2.2.2)∈aP 0 G.tab:=lO.2 ⟨k,hk,by simp,by rw[<-e1];exact e2,by rw[<-e1]⟩;rw[<-h.seats]at h1;obtain⟨f,hf,e⟩:=List.mem_map.1 h1;simp only[Fl.F8,Q7]at e;exact⟨f,hf,e.1,by rw[e.2.1,e3]⟩
theorem Bs.Gb(h:Bs G):G.fls.length<=40:=by
 have h1:=congrArg List.length h.seats;rw[N0]at h1;have:=@tf 0 G.tab;have:=h.tab.1.2;omega
theorem Bs.Gd(h:Bs G)(hfree:G.tab.any eu=Nw){key b:Int}(hk:0<=key/\key<=4294967295)(hb:0<=b/\b<12) :
  ∃(k:Nat) (hlt:k<G.tab.length),cZ G.tab key b=(G.tab.set k (G.tab[k].1,Nw,key,b),((k:Int),G.tab[k].1),0)/\G.tab[k].2.1=Nb/\(0<=G.tab[k].1/\G.tab[k].1<=1048575)/\∀j (hj:j<k),eu (G.tab[j]'(by omega))=false:=by
 have hq:∀t∈G.tab,eY t=eu t:=fun t ht=>BL (h.tab.2 t ht)
 cases hf:bR eY G.tab with
 |none =>
  obtain⟨t,ht,h1⟩:=List.any_eq_true.1 hfree;rw[<-hq t ht]at h1;have hn:=qq.2 ⟨t,ht,h1⟩;rw[hf]at hn;exact absurd hn (by decide)
 |some k =>
  obtain⟨hlt,h1,h2⟩:=rg hf;rw[hq _ (Nk hlt)]at h1;have h3:G.tab[k].2.1=Nb/\G.tab[k].1≠1048576:=by simpa [eu]using h1
  have h4:=h.tab.2 _ (Nk hlt);unfold bN at h4;rw[Nf (by rw[h3.1];simp)]at h4;refine⟨k,hlt,?_,h3.1,by omega,fun j hj=>?_⟩
  ·unfold cZ
   rw[Nf (fun hn=>hn h.tab),Nf (fun hn=>hn ⟨hk,hb⟩),hf];simp[hlt]
  ·rw[<-hq _ (Nk _)]
   refine h2 _ (List.mem_iff_getElem.2 ⟨j,by simp;omega,by simp⟩)
end
abbrev eo(L:List FV):Prop:=L.Pairwise (fun a b=>a.1<b.1)
theorem tP{b:Int}(h:∀x∈L,x.1≠b):aq L b=fE:=by
 unfold aq;rw[List.find?_eq_none.2 (fun x hx=>by simpa using h x hx)];rfl
theorem iZ:∀ {L:List FV} (_:eo L) {x:FV} (_:x∈L),aq L x.1=x
 |y::L,hr,x,hx=>by
  obtain⟨h1,h2⟩:=List.pairwise_cons.1 hr;unfold aq;rcases List.mem_cons.1 hx with rfl|hx
  ·simp
  ·have hne:(y.1 == x.1)=false:=by have:=h1 x hx;simp;omega
   rw[Pr (by simpa using hne)];exact iZ h2 hx
theorem qM(L:List FV)(b:Int):(aq L b∈L/\(aq L b).1=b)\/((∀x∈L,x.1≠b)/\aq L b=fE):=by
 unfold aq;cases h:L.find? (fun x=>x.1 == b)with
 |none=>exact NF ⟨fun x hx=>by have:=List.find?_eq_none.1 h x hx;simpa using this,rfl⟩
 |some x=>exact Nt ⟨List.mem_of_find?_eq_some h,by simpa using List.find?_some h⟩
theorem kQ{b:Int}(h:aA L b≠0):aq L b∈L/\(aq L b).1=b:=by
 rcases qM L b with h1|⟨_,h1⟩
 ·exact h1
 ·exact absurd (by rw[show aA L b=(aq L b).2.1 from rfl,h1]) h
def cU(L:List FV)(b:Int)(y:FV->FV):List FV:=L.map fun x=>if x.1=b then y x else x
theorem sP(hr:eo L)(hi:i<L.length){b:Int}(hb:L[i].1=b)(y:FV->FV):L.set i (y L[i])=cU L b y:=by
 apply PX
 ·simp[cU]
 ·intro k h1 h2
  simp only[cU,QZ,Pc];have hk:k<L.length:=by simpa using h1
  by_cases e:i=k
  ·subst e
   rw[Nh rfl,Nh hb]
  ·rw[Nf e,Nf]
   intro hk1;have hp:=List.pairwise_iff_getElem.1 hr;rcases QM e with hlt|hlt
   ·have:=hp i k hi hk hlt;omega
   ·have:=hp k i hk hi hlt;omega
theorem Dz(hr:eo L)(b:Int){y:FV->FV}(hy:∀x,(y x).1=x.1):eo (cU L b y):=by
 unfold cU;refine List.pairwise_map.2 (hr.imp fun {a c} h=>?_);have h1:∀x:FV,(if x.1=b then y x else x).1=x.1:=fun x=>by split;exact hy x;rfl
 rw[h1,h1];exact h
theorem zL(hr:eo L){x:FV}(hx:x∈L){y:FV->FV}(hy:∀x,(y x).1=x.1):aq (cU L x.1 y) x.1=y x:=by
 have h1:y x∈cU L x.1 y:=List.mem_map.2 ⟨x,hx,by rw[Nh rfl]⟩;have h2:=iZ (Dz hr x.1 hy) h1;rwa[hy]at h2
theorem vq:∀(L:List FV) {b c:Int} (_:c≠b) {y:FV->FV} (_:∀x,(y x).1=x.1),aq (cU L b y) c=aq L c
 | [],b,c,_,y,_=>rfl
 |x::L,b,c,hne,y,hy=>by
  have ih:=vq L hne hy;unfold aq cU at ih⊢;rw[OA]
  by_cases e:x.1=b
  ·rw[Nh e,Pr (by rw[hy,e];simpa using Pi hne),Pr (by rw[e];simpa using Pi hne)]
   exact ih
  ·rw[Nf e]
   by_cases e2:x.1=c
   ·rw[Ql (by simpa using e2),Ql (by simpa using e2)]
   ·rw[Pr (by simpa using e2),Pr (by simpa using e2)]
    exact ih
theorem oB(hr:eo L){x:FV}(hx:x∈L):cK L x.1=Nw/\∃hp:aU L x.1<L.length,L[aU L x.1]=x:=by
 obtain⟨i,hi,rfl⟩:=NV hx;obtain⟨h1,h2⟩:=vn hr hi;exact⟨h1,by rw[h2];exact hi,by simp only[h2]⟩
theorem tZ(x:FV):(dC x).1=x.1:=rfl
theorem vD(hb:bX L R){b:Int}(h3:aA L b=3):eL L R b=((cU L b dC,R),0)/\bX (cU L b dC) R:=by
 obtain⟨hm,e1⟩:=kQ (L:=L) (b:=b) (by rw[h3];decide);have hr:eo L:=hb.1.2.2;obtain⟨h1,hp,h2⟩:=oB hr hm;rw[e1]at h1 hp;have h2':L[aU L b]=aq L b:=by simp only[e1]at h2;exact h2
 have hs:L.set (aU L b) (dC L[aU L b])=cU L b dC:=sP hr hp (by rw[h2',e1]) dC;have e:eL L R b=((cU L b dC,R),0):=by
  unfold eL;rw[Nh hb,MR hp,OV,Nh ⟨h1,by rw[h2'];exact h3⟩,hs]
 obtain⟨L',f1,_,f2⟩:=Bn hb hm e1 h3;rw[e]at f1;cases f1;exact⟨e,f2⟩
theorem Kv(x:FV)(u id:Int):(mH x u id).1=x.1:=rfl
theorem Au(hr:eo L){b:Int}(h:aA L b=1\/aA L b=2)(id u:Int):ec L b id u=(cU L b (fun x=>mH x u id),0):=by
 obtain⟨hm,e1⟩:=kQ (L:=L) (b:=b) (by omega);obtain⟨h1,hp,h2⟩:=oB hr hm;rw[e1]at h1 hp;have h2':L[aU L b]=aq L b:=by simp only[e1]at h2;exact h2
 unfold ec;rw[Nh h1,MR hp,OV,h2',Nf (by show ¬aA L b=4;omega),Nf (by show ¬aA L b=3;omega),<-sP hr hp (by rw[h2',e1]) (fun x=>mH x u id),h2']
theorem DK(hr:eo L){b:Int}(h:¬(aA L b=1\/aA L b=2))(hok:∀x∈L,dx x)(id u:Int):ec L b id u=(L,if aA L b=3 then 12 else 8):=by
 rcases qM L b with⟨hm,e1⟩|⟨hn,e1⟩
 ·obtain⟨h1,hp,h2⟩:=oB hr hm
  rw[e1]at h1 hp;have h2':L[aU L b]=aq L b:=by simp only[e1]at h2;exact h2
  have h5:=(hok _ hm).2;unfold ec;rw[Nh h1,MR hp,OV,h2'];have h6:aA L b=3\/aA L b=4:=by
   have:aA L b=(aq L b).2.1:=rfl;omega
  rcases h6 with h6|h6
  ·rw[Nf (by show ¬aA L b=4;omega),Nh h6,Nh h6]
  ·rw[Nh h6,Nf (by omega)]
 ·have h1:cK L b=false:=by
   cases hh:cK L b
   ·rfl
   ·exact absurd (EK hh) (hn _ (Nk _))
  unfold ec;rw[Nf (by rw[h1];simp),Nf (by rw[show aA L b=(aq L b).2.1 from rfl,e1];decide)]
section
variable {G:Gt}
theorem Bs.Jh(h:Bs G)(o:List Ou):Bs {G with out:=o}:=⟨h.cfg,h.now,h.tab,h.tabLen,h.book,h.tok,h.hel,h.hea,h.seats,h.rets,h.since,h.wts,h.wnow,h.tms⟩
theorem Bs.GT(h:Bs G)(o:Ou):Bs (ge G o):=h.Jh _
theorem Bs.IR(h:Bs G)(hb:bX L R)(hs:∀l∈L,l.2.2.2.1<=G.now):Bs {G with liv:=L,req:=R}:=⟨h.cfg,h.now,h.tab,h.tabLen,hb,h.tok,h.hel,h.hea,h.seats,h.rets,hs,h.wts,h.wnow,h.tms⟩
theorem Bs.Hp(h:Bs G)(hn:0<=n/\n<=G.cfg.bb*G.cfg.bd):Bs {G with tok:=n}:=⟨h.cfg,h.now,h.tab,h.tabLen,h.book,hn,h.hel,h.hea,h.seats,h.rets,h.since,h.wts,h.wnow,h.tms⟩
theorem Bs.Ij(h:Bs G){H:List He}(hl:H.length=12)(hh:∀x∈H,dI G.cfg.wn x.marks.length x.out x.till x.times):Bs {G with hea:=H}:=⟨h.cfg,h.now,h.tab,h.tabLen,h.book,h.tok,hl,hh,h.seats,h.rets,h.since,h.wts,h.wnow,h.tms⟩
theorem Bs.Jg(h:Bs G){a:List Int}(ha:aZ a):Bs {G with wts:=a}:=⟨h.cfg,h.now,h.tab,h.tabLen,h.book,h.tok,h.hel,h.hea,h.seats,h.rets,h.since,ha,h.wnow,h.tms⟩
theorem EG{b:Int}{y:FV->FV}(h:l∈cU L b y):∃x∈L,l=x\/l=y x:=by
 obtain⟨x,hx,rfl⟩:=List.mem_map.1 h;refine⟨x,hx,?_⟩
 split
 ·exact NF rfl
 ·exact Nt rfl
theorem nS(h:Bs G)(b:Int):cj G b=if aA G.liv b=3/\du G.fls b=Nb then lk {G with liv:=cU G.liv b dC} b (aq G.liv b).2.2.2.2.2 else G:=by
 unfold cj
 split
 case isTrue hc =>
  rw[(vD h.book hc.1).1]
 case isFalse hc=>rfl
theorem Bs.Ii(h:Bs G)(b:Int):Bs (cj G b):=by
 rw[nS h]
 split
 case isTrue hc =>
  refine Bs.GT (Bs.IR (R:=G.req) h (vD h.book hc.1).2 fun l hl=>?_) _;obtain⟨x,hx,rfl|rfl⟩:=EG hl
  ·exact h.since _ hx
  ·exact h.since x hx
 case isFalse hc=>exact h
theorem Bs.IE(h:Bs G){b:Int}(hb:0<=b/\b<12):dI G.cfg.wn (G.hea.getD b.toNat bm).marks.length (G.hea.getD b.toNat bm).out (G.hea.getD b.toNat bm).till (G.hea.getD b.toNat bm).times:=by
 have hlt:b.toNat<G.hea.length:=by rw[h.hel];omega
 have e:G.hea.getD b.toNat bm=G.hea[b.toNat]:=by simp[hlt]
 rw[e];exact h.hea _ (Nk hlt)
theorem tC(hd:1<=d):1<=fd d t/\fd d t<=500:=by
 unfold fd;have h1:(1:Int)<=2 ^ t.toNat:=by
  have:=Nat.one_le_two_pow (n:=t.toNat)
  exact_mod_cast this
 have h2:1<=d*2 ^ t.toNat:=by
  have:=Px hd h1 (by omega) (by omega);omega
 omega
theorem yZ{f:Int}{l:List Bool}{o:Bool}{u:Int}{x:Bool}{now:Int}{may:Bool}(hw:dR n f d)(hnow:0<=now/\now<=1099511627776)(hh:dI n l.length o u t):
  (di n f d l o u t x now may).2.2=0/\dI n (di n f d l o u t x now may).1.1.length (di n f d l o u t x now may).1.2.1 (di n f d l o u t x now may).1.2.2.1 (di n f d l o u t x now may).1.2.2.2:=by
 have ha:cD n f d l.length o u t now=0:=by unfold cD;rw[Nh hw,Nh hnow,Nh hh]
 have hl:=uq (l:=l) x hh.1 hw.1.1;obtain⟨h1,h2,h3,h4⟩:=hh;have hd:=tC (d:=d) (t:=t) hw.2.2.1;unfold di;rw[Nh ha]
 split
 ·refine⟨rfl,by simp;omega,?_,?_,Nt rfl⟩
  ·show 0<=min (t+1) 10/\min (t+1) 10<=10
   omega
  ·show 0<=now+fd d t/\now+fd d t<=1099511628276
   omega
 ·exact⟨rfl,by show((dd n l x).length:Int)<=n;omega,h2,h3,h4⟩
theorem Aw{f:Int}{l:List Bool}{o:Bool}{u:Int}{now:Int}(hw:dR n f d)(hnow:0<=now/\now<=1099511627776)(hh:dI n l.length o u t):
  da n f d l o u t now=if o=Nw/\u<=now then((l,Nb,0,t),Nw,0)else((l,o,u,t),Nb,0):=by
 have ha:cD n f d l.length o u t now=0:=by unfold cD;rw[Nh hw,Nh hnow,Nh hh]
 unfold da;rw[Nh ha]
theorem iC{α:Type}{l:List α}{x y:α}(h:y∈l.set i x):y=x\/y∈l:=by
 rcases OB h with h|h
 ·exact NF h
 ·exact Nt h
theorem Bs.GN(h:Bs G):0<=G.now/\G.now<=1099511627776:=by have:=h.now;omega
theorem Bs.Gx(h:Bs G):dR G.cfg.wn G.cfg.wf G.cfg.wh:=h.cfg.2.2.2.2.2.2.2.2.2.2.2
theorem Bs.GM(h:Bs G):dq G.cfg.bn G.cfg.bd G.cfg.bb:=h.cfg.2.2.2.2.2.2.2.2.2.2.1
theorem Bs.GA(h:Bs G){b:Int}(hb:0<=b/\b<12)(x:Bool):Bs (dg G b x):=by
 refine h.Ij (by rw[NA];exact h.hel) fun y hy=>?_
 rcases iC hy with rfl|hy
 ·exact(yZ h.Gx h.GN (h.IE hb)).2
 ·exact h.hea y hy
theorem tJ{α β:Type}(f:α->β){l:List α}(hi:i<l.length){y:α}(hy:f y=f l[i]):(l.set i y).map f=l.map f:=by
 rw[List.map_set,hy];apply PX
 ·simp
 ·intro k h1 h2
  simp only[Pc,QZ]
  split
  ·rename_i e;subst e;rfl
  ·rfl
theorem io{l:List Fl}(hr:l.Pairwise (fun a b=>a.slot<b.slot))(hi:i<l.length)(hy:y.slot=l[i].slot):f∈l.set i y↔f=y\/(f∈l/\f.slot≠y.slot):=by
 have hp:=List.pairwise_iff_getElem.1 hr;constructor
 ·intro h
  obtain⟨k,hk,rfl⟩:=NV h;rw[Pc];have hk':k<l.length:=by simpa using hk
  split
  ·exact Nt rfl
  ·rename_i e
   refine NF ⟨Nk hk',?_⟩;rw[hy];rcases QM e with hlt|hlt
   ·have:=hp i k hi hk' hlt;omega
   ·have:=hp k i hk' hi hlt;omega
 ·rintro(rfl|⟨h1,h2⟩)
  ·exact List.mem_iff_getElem.2 ⟨i,by simpa using hi,by simp⟩
  ·obtain⟨k,hk,rfl⟩:=NV h1
   refine List.mem_iff_getElem.2 ⟨k,by simpa using hk,?_⟩;rw[Pc,Nf];intro e;subst e;exact h2 hy.symm
theorem Bs.Hd(h:Bs G)(hi:i<G.fls.length)(hs:f.F8=G.fls[i].F8)(hd:f.due=G.fls[i].due)(hr:0<=f.ret/\f.ret<=G.cfg.ret):Bs (eT G i f):=by
 have hsl:f.slot=G.fls[i].slot:=congrArg Prod.fst hs;refine⟨h.cfg,h.now,h.tab,h.tabLen,h.book,h.tok,h.hel,h.hea,?_,fun x hx=>?_,h.since,h.wts,h.wnow,fun t=>?_⟩
 ·show(G.fls.set i f).map Fl.F8=_
  rw[tJ Fl.F8 hi hs];exact h.seats
 ·rcases iC hx with rfl|hx
  ·exact hr
  ·exact h.rets x hx
 ·show G.tms t↔∃x∈G.fls.set i f,_
  rw[h.tms t];constructor
  ·rintro⟨x,hx,e1,e2⟩
   by_cases e:x.slot=f.slot
   ·have hxi:=h.Ic hx (Nk hi) (e.trans hsl)
    subst hxi;exact⟨f,(io h.Ge hi hsl).2 (Nt rfl),by rw[e1,hd,hsl],by rw[hd];exact e2⟩
   ·exact⟨x,(io h.Ge hi hsl).2 (NF ⟨hx,e⟩),e1,e2⟩
  ·rintro⟨x,hx,e1,e2⟩
   rcases(io h.Ge hi hsl).1 hx with rfl|⟨hx,_⟩
   ·exact⟨_,Nk hi,by rw[e1,hd,hsl],by rw[<-hd];exact e2⟩
   ·exact⟨x,hx,e1,e2⟩
theorem Bs.It(h:Bs G)(hi:i<G.fls.length)(hn:1<=n/\n<=500):Bs (dU G i n):=by
 have hw:=h.wnow;have hsl:({aQ G i with due:=G.now+n}:Fl).slot=G.fls[i].slot:=by rw[bJ hi]
 refine⟨h.cfg,h.now,h.tab,h.tabLen,h.book,h.tok,h.hel,h.hea,?_,fun x hx=>?_,h.since,h.wts,h.wnow,fun t=>?_⟩
 ·show(G.fls.set i _).map Fl.F8=_
  rw[tJ Fl.F8 hi (by rw[bJ hi])];exact h.seats
 ·rcases iC hx with rfl|hx
  ·rw[bJ hi]
   exact h.rets G.fls[i] (Nk hi)
  ·exact h.rets x hx
 ·show((G.tms t/\t.2≠(aQ G i).slot)\/t=(G.now+n,(aQ G i).slot))↔∃x∈G.fls.set i {aQ G i with due:=G.now+n},_
  rw[h.tms t];constructor
  ·rintro(⟨⟨x,hx,e1,e2⟩,e3⟩|e)
   ·exact⟨x,(io h.Ge hi hsl).2 (NF ⟨hx,fun e=>e3 (by rw[e1];exact e)⟩),e1,e2⟩
   ·exact⟨_,(io h.Ge hi hsl).2 (Nt rfl),e,by show G.wnow<G.now+n;omega⟩
  ·rintro⟨x,hx,e1,e2⟩
   rcases(io h.Ge hi hsl).1 hx with rfl|⟨hx,hne⟩
   ·exact NF e1
   ·exact Nt ⟨⟨x,hx,e1,e2⟩,by rw[e1];exact hne⟩
theorem Bs.Iw(h:Bs G)(hf:f∈G.fls):Bs {G with tab:=(ed G.tab f.slot f.gen).1,fls:=bO G.fls f.slot f.gen,tms:=fun t=>G.tms t/\t.2≠f.slot}:=by
 obtain⟨k,hk,e1,e2⟩:=h.slot hf;have hb:=(h.F9 hf).2.1;have hgen:=h.F9 hf;refine⟨h.cfg,h.now,?_,?_,h.book,h.tok,h.hel,h.hea,?_,fun x hx=>?_,h.since,h.wts,h.wnow,fun t=>?_⟩
 ·show ea (ed G.tab f.slot f.gen).1
  rw[h.Hj hf];refine nU h.tab ?_;unfold bN;rw[Nf (by simp)];exact⟨by show 0<=f.gen+1/\f.gen+1<=1048576;omega,rfl,rfl⟩
 ·show((ed G.tab f.slot f.gen).1.length:Int)=_
  rw[h.Hj hf,NA];exact h.tabLen
 ·show(bO G.fls f.slot f.gen).map Fl.F8=aP 0 (ed G.tab f.slot f.gen).1
  rw[h.Hj hf,h.GL hf];show _=aP 0 (G.tab.set f.slot.toNat (f.gen+1,Nb,0,0));rw[e1,NR,uX rfl hk,<-h.seats,List.filter_map]
  congr 1
  refine List.filter_congr fun x _=>?_
  simp[Fl.F8]
 ·have hx':x∈bO G.fls f.slot f.gen:=hx
  rw[h.GL hf]at hx';exact h.rets x (List.mem_filter.1 hx').1
 ·show(G.tms t/\t.2≠f.slot)↔∃x∈bO G.fls f.slot f.gen,_
  rw[h.GL hf,h.tms t];constructor
  ·rintro⟨⟨x,hx,e3,e4⟩,e5⟩
   refine⟨x,List.mem_filter.2 ⟨hx,?_⟩,e3,e4⟩;rw[e3]at e5
   simpa using e5
  ·rintro⟨x,hx,e3,e4⟩
   obtain⟨hx,e5⟩:=List.mem_filter.1 hx;refine⟨⟨x,hx,e3,e4⟩,?_⟩;rw[e3]
   simpa using e5
theorem Bs.Hc(h:Bs G)(hf:f∈G.fls)(kind why:Int):Bs (dn G f kind why):=((h.Iw hf).GT _).Ii _
theorem Bs.Ig(h:Bs G)(hi:i<G.fls.length){b:Int}(hb:0<=b/\b<12)(hr:G.fls[i].ret+1<=G.cfg.ret):
  Bs (eT {G with tab:=(db G.tab G.fls[i].slot G.fls[i].gen b).1} i {G.fls[i]with be:=b,ret:=G.fls[i].ret+1}):=by
 have hf:=Nk hi;obtain⟨f,hfe⟩:∃f,f=G.fls[i]:=⟨_,rfl⟩;rw[<-hfe]at hr hf⊢;obtain⟨k,hk,e1,e2⟩:=h.slot hf;have hgen:=h.F9 hf;have hsl:({f with be:=b,ret:=f.ret+1}:Fl).slot=G.fls[i].slot:=by rw[<-hfe]
 refine⟨h.cfg,h.now,?_,?_,h.book,h.tok,h.hel,h.hea,?_,fun x hx=>?_,h.since,h.wts,h.wnow,fun t=>?_⟩
 ·show ea (db G.tab f.slot f.gen b).1
  rw[h.Ho hf hb];refine nU h.tab ?_;unfold bN;rw[Nh rfl];exact⟨hgen.2.1,hgen.2.2.1,hb⟩
 ·show((db G.tab f.slot f.gen b).1.length:Int)=_
  rw[h.Ho hf hb,NA];exact h.tabLen
 ·show(G.fls.set i {f with be:=b,ret:=f.ret+1}).map Fl.F8=aP 0 (db G.tab f.slot f.gen b).1
  rw[h.Ho hf hb];show _=aP 0 (G.tab.set f.slot.toNat (f.gen,Nw,f.key,b));rw[e1,NR,sc rfl hk (by rw[e2]),<-h.seats,List.map_map];apply PX
  ·simp
  ·intro j h1 h2
   simp only[QZ,Pc,Function.comp_apply];have hj:j<G.fls.length:=by simpa using h2
   by_cases e:i=j
   ·subst e
    rw[Nh rfl,<-hfe,Nh (by show f.slot=0+(k:Int);omega)];simp[Fl.F8,e1]
   ·rw[Nf e,Nf]
    show ¬G.fls[j].slot=0+(k:Int);intro e3;have:=h.Ie hi;have h4:=h.Ie hj;rw[e3,Int.zero_add,<-e1,hfe,this]at h4;exact e h4
 ·rcases iC hx with rfl|hx
  ·have:=h.rets f hf
   exact⟨by show 0<=f.ret+1;omega,hr⟩
  ·exact h.rets x hx
 ·show G.tms t↔∃x∈G.fls.set i {f with be:=b,ret:=f.ret+1},_
  rw[h.tms t];constructor
  ·rintro⟨x,hx,e3,e4⟩
   by_cases e:x.slot=f.slot
   ·have hxi:=h.Ic hx hf e
    subst hxi;exact⟨_,(io h.Ge hi hsl).2 (Nt rfl),e3,e4⟩
   ·exact⟨x,(io h.Ge hi hsl).2 (NF ⟨hx,e⟩),e3,e4⟩
  ·rintro⟨x,hx,e3,e4⟩
   rcases(io h.Ge hi hsl).1 hx with rfl|⟨hx,_⟩
   ·exact⟨f,hf,e3,e4⟩
   ·exact⟨x,hx,e3,e4⟩
end
section
variable {G:Gt}
theorem sl{W:FV->Int}{F:FV->Int}:∀ {L:List FV} {n:Int},eo L->(∀l∈L,n<=l.1/\l.1<=11/\(0<=W l/\W l<=8)/\0<=F l/\F l<=40)->jt n (L.map fun l=>(l.1,W l,F l))
 | [],n,_,_=>rfl
 |x::L,n,hr,h=>by
  obtain⟨h1,h2⟩:=List.pairwise_cons.1 hr;obtain⟨a1,a2,a3,a4,a5⟩:=h x (by simp);rw[OA];refine wb.2 ⟨⟨a1,by show x.1<12;omega,a3,a4,a5⟩,sl h2 fun l hl=>?_⟩;obtain⟨_,b2,b3⟩:=h l (NB _ hl);exact⟨by show x.1+1<=l.1;have:=h1 l hl;omega,b2,b3⟩
theorem wI(fs:List Fl)(b:Int):fX fs b<=fs.length:=List.countP_le_length
theorem A0{wg gone warm:Int}(h:1<=wg/\wg<=8)(hg:0<=gone)(hw:0<=warm):1<=FZ wg gone warm/\FZ wg gone warm<=wg:=by
 unfold FZ
 split
 ·omega
 ·rename_i hlt
  have h1:wg*gone / warm<=wg:=by
   refine Int.ediv_le_of_le_mul (by omega) ?_;exact Int.mul_le_mul_of_nonneg_left (by omega) (by omega)
  omega
theorem Bs.lf(h:Bs G)(hl:l∈G.liv):dx l:=h.book.1.2.1 l hl
theorem Bs.Jp(h:Bs G)(hl:l∈G.liv):0<=gL G l/\gL G l<=l.2.2.1/\l.2.2.1<=8:=by
 have h1:=(h.lf hl).1;have h2:=h.since l hl;have h3:0<=G.cfg.warm:=h.cfg.2.2.2.2.1.1;have h4:=A0 (wg:=l.2.2.1) (gone:=G.now-l.2.2.2.1) (warm:=G.cfg.warm) h1.2.1 (by omega) h3;unfold gL
 split <;> omega
theorem Bs.Jt(h:Bs G)(hfs:fs.length<=40):ir (ej G fs):=by
 refine⟨?_,?_⟩
 ·have h1:=h.book.1.1
  have h2:=O1 (fun l:FV=>l.2.1 == 2) G.liv;simp only[ej,N0];omega
 ·refine sl (h.book.1.2.2.filter _) fun l hl=>?_
  have hl':=(List.mem_filter.1 hl).1;have h1:=(h.lf hl').1;have h2:=h.Jp hl';have h3:=wI fs l.1;exact⟨h1.1.1,h1.1.2,⟨h2.1,by omega⟩,by omega,by omega⟩
theorem Bs.Jm(h:Bs G){n:Nat}(hn:n<=40):g8 G.cfg.num G.cfg.den n:=⟨⟨h.cfg.2.1.1,h.cfg.2.1.2,h.cfg.2.2.1⟩,by omega,by omega⟩
theorem Dl{l:List Ld}{a b c:Int}(hok:ir l){ws:List Int}{t:Nat}(h:iu l (eI a b c l) ws t=MI i):i<l.length:=by
 unfold iu at h;cases h1:df l (eI a b c l) ws t with
 |some j =>
  rw[h1]at h;cases h;exact(mo h1).1
 |none =>
  rw[h1]at h;exact(CU (ws:=ws) (t:=t) h (ru hok)).1
theorem Bs.Ib(h:Bs G){key:Int}(hfs:fs.length<=40)(hc:(dL G key fs).2=0):aA G.liv (dL G key fs).1=2/\0<=(dL G key fs).1/\(dL G key fs).1<12:=by
 unfold dL at hc⊢;generalize pR G key=ws at hc⊢;have hok:=h.Jt hfs;unfold gY at hc⊢;rw[Nh (lN.2 hok),Nh (h.Jm hfs)]at hc⊢
 split at hc
 case isFalse=>simp at hc
 case isTrue h1 =>
  rw[Nh h1]
  split at hc
  case isFalse=>simp at hc
  case isTrue h2 =>
   rw[Nh h2];cases hch:iu (ej G fs) (eI G.cfg.num G.cfg.den (fs.length:Int) (ej G fs)) ws G.cfg.tries.toNat with
   |none=>rw[hch]at hc;simp[gk]at hc
   |some i =>
    have hi:=Dl hok hch;have hm:(ej G fs)[i]∈ej G fs:=Nk hi;have e:(gk (ej G fs) (MI i)).1=(ej G fs)[i].1:=by simp[gk,hi]
    rw[e];obtain⟨l,hl,e2⟩:=List.mem_map.1 hm;obtain⟨hl,hs⟩:=List.mem_filter.1 hl;rw[<-e2];have h3:=(h.lf hl).1.1;refine⟨?_,h3.1,by show l.1<12;omega⟩;show(aq G.liv l.1).2.1=2;rw[iZ h.book.1.2.2 hl]
    simpa using hs
theorem nL(fs:List Fl)(s g:Int):(bO fs s g).length<=fs.length:=O1 _ _
theorem pW{b x:Int}(hb:dq n d b)(hx:0<=x/\x<=b*d)(h:(dp n d b x).2=0):dp n d b x=(x-d,0)/\d<=x:=by
 have h0:cJ n d b x=0:=vx.2 ⟨hb,hx⟩;unfold dp at h⊢;rw[Nh h0]at h⊢
 split at h
 ·simp at h
 ·rename_i h1
  exact⟨Nf h1,by omega⟩
theorem zF{b x:Int}(hb:dq n d b)(hx:0<=x/\x<=b*d):fI n d b x=(min (x+n) (b*d),0):=by
 have h0:cJ n d b x=0:=vx.2 ⟨hb,hx⟩;unfold fI;rw[Nh h0]
theorem Bs.conn(h:Bs G):1<=G.cfg.conn/\G.cfg.conn<=500:=h.cfg.2.2.2.2.2.2.2.1
theorem Bs.idle(h:Bs G):1<=G.cfg.idle/\G.cfg.idle<=500:=h.cfg.2.2.2.2.2.2.1
theorem Bs.drain(h:Bs G):1<=G.cfg.drain/\G.cfg.drain<=500:=h.cfg.2.2.2.2.2.1
theorem Bs.I1(h:Bs G)(hi:i<G.fls.length){b:Int}(hb:0<=b/\b<12)(hr:G.fls[i].ret+1<=G.cfg.ret):Bs (eQ G i b):=by
 have h1:=h.Ig hi hb hr;unfold eQ;simp only[bJ hi];refine Bs.Ii (Bs.GT (Bs.It h1 ?_ h.conn) _) _;show i<(G.fls.set i _).length;rw[NA];exact hi
theorem Bs.I8(h:Bs G)(hi:i<G.fls.length)(why:Int):Bs (dP G i why):=by
 have hf:=Nk hi;have hb:=(h.F9 hf).2.2.2;have h1:=h.GA hb Nw;have hr:=h.rets _ hf;unfold dP;simp only[bJ hi]
 split
 ·exact h1.Hc hf _ _
 ·rename_i hn
  have hs:(dp G.cfg.bn G.cfg.bd G.cfg.bb G.tok).2=0:=by
   by_cases e:(dp G.cfg.bn G.cfg.bd G.cfg.bb G.tok).2=0
   ·exact e
   ·exact absurd (NF e) hn
  have hne:¬G.fls[i].ret=G.cfg.ret:=fun e=>hn (Nt e)
  obtain⟨e1,e2⟩:=pW h.GM h.tok hs
  split
  ·exact h1.Hc hf _ _
  ·rename_i hc
   have hc:(dL (dg G G.fls[i].be Nw) G.fls[i].key (bO G.fls G.fls[i].slot G.fls[i].gen)).2=0:=by
    by_cases e:(dL (dg G G.fls[i].be Nw) G.fls[i].key (bO G.fls G.fls[i].slot G.fls[i].gen)).2=0
    ·exact e
    ·exact absurd e hc
   have hch:=h1.Ib (Nm (nL _ _ _) h.Gb) hc;have hd:=h.GM.2.1;have htk:=h.tok;refine Bs.I1 (Bs.Hp h1 ?_) hi hch.2 (by show G.fls[i].ret+1<=G.cfg.ret;omega);rw[e1];show 0<=G.tok-G.cfg.bd/\G.tok-G.cfg.bd<=G.cfg.bb*G.cfg.bd;omega
theorem nR(fs:List Fl)(s:Int):f9 fs s<=fs.length:=List.findIdx_le_length
theorem vo(l:List α)(x:α)(hi:i<=l.length):(aT l x i).length=l.length+1:=by
 simp only[aT,Ns,Ox,NH,NJ];omega
theorem zw{β:Type}(f:α->β)(l:List α)(x:α)(i:Nat):(aT l x i).map f=aT (l.map f) (f x) i:=by
 simp[aT,List.map_take,List.map_drop]
theorem rc{α:Type}{l:List α}{x y:α}:y∈aT l x i↔y=x\/y∈l:=by
 unfold aT;constructor
 ·intro h
  rcases List.mem_append.1 h with h|h
  ·exact NF (List.mem_of_mem_take h)
  ·rcases List.mem_cons.1 h with h|h
   ·exact Nt h
   ·exact NF (List.mem_of_mem_drop h)
 ·rintro(rfl|h)
  ·simp
  ·rw[<-Oo i l]at h
   rcases List.mem_append.1 h with h|h
   ·exact List.mem_append_left _ h
   ·exact Qq _ (NB _ h)
theorem Kx(l:List α)(x:α)(hi:i<=l.length):(aT l x i)[i]'(by rw[vo l x hi];omega)=x:=by
 unfold aT;rw[List.getElem_append_right (by simp;omega)];simp[P1 hi]
theorem Bs.Jn(h:Bs G)(hfree:G.tab.any eu=Nw){key b:Int}(hk:0<=key/\key<=4294967295)(hb:0<=b/\b<12):Bs (jD G key b):=by
 obtain⟨k,hlt,e,hu,hg,_⟩:=h.Gd hfree hk hb;have hret:0<=G.cfg.ret:=h.cfg.2.2.2.2.2.2.2.2.1.1;have hwn:=h.wnow;unfold jD;rw[e];refine⟨h.cfg,h.now,?_,?_,h.book,h.tok,h.hel,h.hea,?_,fun x hx=>?_,h.since,h.wts,h.wnow,fun t=>?_⟩
 ·refine nU h.tab ?_
  unfold bN;rw[Nh rfl];exact⟨hg,hk,hb⟩
 ·show((G.tab.set k _).length:Int)=_
  rw[NA];exact h.tabLen
 ·show(aT G.fls _ (f9 G.fls (k:Int))).map Fl.F8=aP 0 (G.tab.set k (G.tab[k].1,Nw,key,b))
  rw[zw,rP rfl hlt hu,<-h.seats]
  congr 1
  ·simp[Fl.F8]
  ·unfold f9
   rw[List.findIdx_map]
   congr 1
   funext f
   simp[Fl.F8]
 ·rcases rc.1 hx with rfl|hx
  ·exact⟨Qh _,hret⟩
  ·exact h.rets x hx
 ·show G.tms t↔∃f∈aT G.fls _ _,_
  rw[h.tms t];constructor
  ·rintro⟨x,hx,e1,e2⟩
   exact⟨x,rc.2 (NF hx),e1,e2⟩
  ·rintro⟨x,hx,e1,e2⟩
   rcases rc.1 hx with rfl|hx
   ·exact absurd e2 (by show ¬G.wnow<0;omega)
   ·exact⟨x,hx,e1,e2⟩
theorem Bs.Mp(h:Bs G){key:Int}(hk:0<=key/\key<=4294967295):Bs (mA G key):=by
 unfold mA
 split
 ·exact h.GT _
 ·rename_i hfree
  have hfree:G.tab.any eu=true:=by cases e:G.tab.any eu;exact absurd e hfree;rfl
  simp only[]
  split
  ·exact h.GT _
  ·rename_i hc
   have hc:(dL G key G.fls).2=0:=by
    by_cases e:(dL G key G.fls).2=0
    ·exact e
    ·exact absurd e hc
   have hch:=h.Ib h.Gb hc;have hp:=h.Jn hfree hk hch.2;have htk:=h.tok;have hbd:=h.GM;refine Bs.GT (Bs.Hp (Bs.It hp ?_ h.conn) ?_) _
   ·show f9 G.fls _<(aT G.fls _ (f9 G.fls _)).length
    rw[vo _ _ (nR _ _)];have:=nR G.fls (cZ G.tab key (dL G key G.fls).1).2.1.1;omega
   ·rw[zF hbd htk]
    show 0<=min (G.tok+G.cfg.bn) (G.cfg.bb*G.cfg.bd)/\min (G.tok+G.cfg.bn) (G.cfg.bb*G.cfg.bd)<=G.cfg.bb*G.cfg.bd;have:=hbd.1;omega
end
section
variable {G:Gt}
theorem AA(hb:bX L R){r:FY}{now drain:Int}(ha:jL r now drain):
  (dK R r.1<R.length/\ff L R r now drain=((L,R),(R[dK R r.1]?.getD (0,0,0,0,0)).2.2.2.2,Nb,0)) \/
  ((∀q∈R,q.1≠r.1)/\R.length=100/\ff L R r now drain=((L,R),9,Nb,0)) \/
  ((∀q∈R,q.1≠r.1)/\R.length<100/\ff L R r now drain=((eA L R r (now+drain)).1,(eA L R r (now+drain)).2,Nw,0)):=by
 by_cases h1:dK R r.1<R.length
 ·exact Nt ⟨h1,yJ hb ha h1⟩
 ·have hn:=wO h1
  by_cases h2:R.length=100
  ·exact NF (Nt ⟨hn,h2,Et hb h2 ha hn⟩)
  ·have h3:=hb.2.1
   exact NF (NF ⟨hn,by omega,xO hb (by omega) ha hn⟩)
theorem KY(hb:bX L R){r:FY}{now drain:Int}(ha:jL r now drain)(hs:∀l∈L,l.2.2.2.1<=now):
  (ff L R r now drain).2.2.2=0/\bX (ff L R r now drain).1.1 (ff L R r now drain).1.2/\∀l∈(ff L R r now drain).1.1,l.2.2.2.1<=now:=by
 rcases AA hb ha with⟨_,e⟩|⟨_,_,e⟩|⟨hn,hR,e⟩
 ·rw[e];exact⟨rfl,hb,hs⟩
 ·rw[e];exact⟨rfl,hb,hs⟩
 ·rw[e]
  have hnow:=ha.2.1;have hd:=ha.2.2;obtain⟨h1,_,_,h4⟩:=Lp hb hR ha.1 hn (u:=now+drain) (by omega);refine⟨rfl,h1,fun l hl=>?_⟩;rcases h4 l hl with h|⟨_,rfl⟩|⟨y,hy,rfl⟩
  ·exact hs l h
  ·show(0:Int)<=now
   omega
  ·exact hs y hy
theorem Bs.Jd(h:Bs G){e:Ev}(he:0<=e.req/\e.req<=1048576){kind:Int}(hk:kind=1\/kind=2):jL (e.req,kind,e.be,e.wt,0) G.now G.cfg.drain:=by
 have h1:=h.now;have h2:=h.drain;exact⟨⟨he,hk⟩,by omega,by omega⟩
theorem Bs.Mc(h:Bs G){e:Ev}(he:0<=e.req/\e.req<=1048576){kind:Int}(hk:kind=1\/kind=2):Bs (fO G kind e):=by
 obtain⟨_,h1,h2⟩:=KY h.book (h.Jd he hk) h.since;exact Bs.GT (Bs.IR h h1 h2) _
theorem Bs.Iv(h:Bs G){b:Int}(hs:aA G.liv b≠0):(0<=b/\b<12)/\1<=(aq G.liv b).2.2.1/\(aq G.liv b).2.2.1<=8:=by
 obtain⟨hm,e⟩:=kQ hs;have h1:=(h.lf hm).1;have h2:=h1.1;rw[e]at h2;exact⟨by omega,h1.2.1⟩
theorem CJ(hn:1<=n):dI n bm.marks.length bm.out bm.till bm.times:=⟨by show((0:Nat):Int)<=n;omega,⟨by decide,by decide⟩,⟨by decide,by decide⟩,NF rfl⟩
theorem Bs.I4(h:Bs G){b:Int}(hs:aA G.liv b≠0):Bs (cV G b):=by
 have hw:=h.Iv hs;refine Bs.Jg (Bs.Ij (H:=G.hea.set b.toNat bm) h (by rw[NA];exact h.hel) fun x hx=>?_) (h.wts.F4 b.toNat (aq G.liv b).2.2.1 (by omega) (by omega));rcases iC hx with rfl|hx
 ·exact CJ h.Gx.1.1
 ·exact h.hea x hx
theorem rq(l:List Int):∀(G:Gt),Bs G->(∀b∈l,aA G.liv b≠0)->Bs (l.foldl cV G):=by
 induction l with
 |nil=>exact fun G h _=>h
 |cons b l ih=>exact fun G h hs=>ih _ (h.I4 (hs b (by simp))) fun c hc=>hs c (NB _ hc)
theorem uM(n:Int)(x:FV):(aY n x).1=x.1:=by unfold aY;split <;> rfl
theorem qN(f:FV->FV)(hf:∀x,(f x).1=x.1):∀(L:List FV) (b:Int),aq (L.map f) b=if ∃x∈L,x.1=b then f (aq L b)else fE
 | [],b=>by rw[Nf (by simp)];rfl
 |x::L,b=>by
  have ih:=qN f hf L b
  by_cases e:x.1=b
  ·have h1:aq ((x::L).map f) b=f x:=by unfold aq;rw[OA,Ql (by rw[hf];simpa using e)];rfl
   have h2:aq (x::L) b=x:=by unfold aq;rw[Ql (by simpa using e)];rfl
   rw[h1,h2,Nh ⟨x,by simp,e⟩]
  ·have h1:aq ((x::L).map f) b=aq (L.map f) b:=by unfold aq;rw[OA,Pr (by rw[hf];simpa using e)]
   have h2:aq (x::L) b=aq L b:=by unfold aq;rw[Pr (by simpa using e)]
   have h3:(∃y∈x::L,y.1=b)↔∃y∈L,y.1=b:=⟨fun⟨y,hy,hb⟩=>by
    rcases List.mem_cons.1 hy with rfl|hy
    ·exact absurd hb e
    ·exact⟨y,hy,hb⟩,fun⟨y,hy,hb⟩=>⟨y,NB _ hy,hb⟩⟩
   rw[h1,h2,ih];simp only[h3]
theorem nf(h:Bs G):eE G=(bv G.liv).foldl cV {G with liv:=G.liv.map (aY G.now)}:=by
 unfold eE;rw[vk h.book h.GN]
theorem kc{b:Int}:b∈bv L↔∃x∈L,x.2.1=1/\x.1=b:=by
 unfold bv;constructor
 ·intro h
  obtain⟨x,hx,rfl⟩:=List.mem_map.1 h;obtain⟨hx,h1⟩:=List.mem_filter.1 hx;exact⟨x,hx,by simpa using h1,rfl⟩
 ·rintro⟨x,hx,h1,rfl⟩
  exact Ri (List.mem_filter.2 ⟨hx,by simpa using h1⟩)
theorem Bs.IP(h:Bs G):Bs {G with liv:=G.liv.map (aY G.now)}:=by
 refine Bs.IR (R:=G.req) h (Dw h.book h.GN) fun l hl=>?_
 obtain⟨x,hx,rfl⟩:=List.mem_map.1 hl;unfold aY
 split
 ·exact Qh _
 ·exact h.since x hx
theorem sd(h:Bs G){b:Int}(hb:b∈bv G.liv):aA (G.liv.map (aY G.now)) b=2:=by
 obtain⟨x,hx,h1,rfl⟩:=kc.1 hb;show(aq (G.liv.map (aY G.now)) x.1).2.1=2;rw[qN _ (uM _),Nh ⟨x,hx,rfl⟩,iZ h.book.1.2.2 hx];unfold aY;rw[Nh h1]
theorem Bs.Jf(h:Bs G):Bs (eE G):=by
 rw[nf h];refine rq _ _ h.IP fun b hb=>?_
 show aA (G.liv.map (aY G.now)) b≠0;rw[sd h hb]
 decide
theorem A2(h:Bs G){x:He}(hx:x∈G.hea):gK G x=if x.out=Nw/\x.till<=G.now then⟨x.marks,Nb,0,x.times⟩else x:=by
 unfold gK;rw[Aw h.Gx h.GN (h.hea x hx)]
 split <;> rfl
theorem Bs.I2(h:Bs G):Bs (lU G):=by
 refine h.Ij (by rw[N0];exact h.hel) fun y hy=>?_
 obtain⟨x,hx,rfl⟩:=List.mem_map.1 hy;have h1:=h.hea x hx;rw[A2 h hx]
 split
 ·exact⟨h1.1,h1.2.1,⟨Qh 0,by show(0:Int)<=1099511628276;omega⟩,NF rfl⟩
 ·exact h1
def kD(G G':Gt)(s:Int):Prop:=∀f:Fl,f.slot≠s->(f∈G'.fls↔f∈G.fls)
theorem mF(b:Int):(cj G b).fls=G.fls:=by
 unfold cj
 split <;> rfl
theorem lG(h:Bs G)(hf:f∈G.fls)(kind why:Int):kD G (dn G f kind why) f.slot:=by
 intro x hx;unfold dn;rw[mF];show x∈bO G.fls f.slot f.gen↔_;rw[h.GL hf,List.mem_filter];exact⟨fun h=>h.1,fun h=>⟨h,by simpa using hx⟩⟩
theorem Fu(h:Bs G)(hi:i<G.fls.length)(hy:y.slot=G.fls[i].slot){x:Fl}(hx:x.slot≠G.fls[i].slot):x∈G.fls.set i y↔x∈G.fls:=by
 rw[io h.Ge hi hy];constructor
 ·rintro(rfl|h)
  ·exact absurd hy hx
  ·exact h.1
 ·exact fun h=>NF ⟨h,by rw[hy];exact hx⟩
theorem rL(hi:i<G.fls.length)(b:Int):(eQ G i b).fls=G.fls.set i {G.fls[i]with be:=b,ret:=G.fls[i].ret+1,due:=G.now+G.cfg.conn}:=by
 unfold eQ;simp only[bJ hi,mF];show(G.fls.set i _).set i _=_;rw[List.set_set]
 congr 1
 have e:aQ (eT {G with tab:=(db G.tab G.fls[i].slot G.fls[i].gen b).1} i {G.fls[i]with be:=b,ret:=G.fls[i].ret+1}) i={G.fls[i]with be:=b,ret:=G.fls[i].ret+1}:=by
  simp[aQ,eT,hi]
 rw[e];rfl
theorem Fr(h:Bs G)(hi:i<G.fls.length)(why:Int):kD G (dP G i why) G.fls[i].slot:=by
 have hf:=Nk hi;have hb:=(h.F9 hf).2.2.2;have h1:=h.GA hb Nw;intro x hx;unfold dP;simp only[bJ hi]
 split
 ·exact lG h1 hf _ _ x hx
 ·split
  ·exact lG h1 hf _ _ x hx
  ·rw[rL (G:={dg G G.fls[i].be Nw with tok:=_}) hi]
   refine Fu h hi ?_ hx;rfl
theorem Bs.Jy(h:Bs G)(hf:f∈G.fls):Bs (bE G f.slot)/\kD G (bE G f.slot) f.slot:=by
 obtain⟨hi,e⟩:=h.GG hf;unfold bE;simp only[]
 split
 ·rw[bJ hi,e]
  exact⟨h.Hc hf _ _,lG h hf _ _⟩
 ·refine⟨h.I8 hi _,?_⟩
  have:=Fr h hi 5;rw[e]at this;exact this
theorem Bs.IF(h:Bs G)(n:Int):(fK G.fls n).Nodup/\∀s∈fK G.fls n,∃f∈G.fls,f.slot=s/\f.due=n:=by
 refine⟨?_,fun s hs=>?_⟩
 ·unfold fK
  refine List.pairwise_map.2 ((h.Ge.filter _).imp fun {a b} hab=>?_);show a.slot≠b.slot;omega
 ·obtain⟨f,hf,rfl⟩:=List.mem_map.1 hs
  obtain⟨hf,e⟩:=List.mem_filter.1 hf;exact⟨f,hf,rfl,by simpa using e⟩
theorem Bs.IN(h:Bs G)(hw:G.wnow+1<=G.now):Bs {G with wnow:=G.wnow+1,tms:=fun t=>G.tms t/\t.1≠G.wnow+1}:=by
 have h1:=h.wnow;refine⟨h.cfg,h.now,h.tab,h.tabLen,h.book,h.tok,h.hel,h.hea,h.seats,h.rets,h.since,h.wts,⟨by show 0<=G.wnow+1;omega,hw⟩,fun t=>?_⟩;show(G.tms t/\t.1≠G.wnow+1)↔∃f∈G.fls,t=(f.due,f.slot)/\G.wnow+1<f.due;rw[h.tms t];constructor
 ·rintro⟨⟨f,hf,e1,e2⟩,e3⟩
  rw[e1]at e3;have e3:f.due≠G.wnow+1:=e3;exact⟨f,hf,e1,by omega⟩
 ·rintro⟨f,hf,e1,e2⟩
  refine⟨⟨f,hf,e1,by omega⟩,?_⟩;rw[e1];show f.due≠G.wnow+1;omega
theorem Bs.IW(h:Bs G)(b:Int):(cz b G.tab).Pairwise (fun a b=>a.1<b.1)/\∀t∈cz b G.tab,∃f∈G.fls,f.slot=t.1/\f.gen=t.2/\f.be=b:=by
 refine⟨?_,fun t ht=>?_⟩
 ·unfold cz cB
  refine List.pairwise_map.2 (List.Pairwise.imp (fun {a c} hac=>?_) ((List.pairwise_lt_range).filter _));show(a:Int)<(c:Int);omega
 ·unfold cz cB at ht
  obtain⟨i,hi,rfl⟩:=List.mem_map.1 ht;obtain⟨h1,h2⟩:=List.mem_filter.1 hi;have hlt:i<G.tab.length:=by simpa using h1
  have e:G.tab.getD i (0,Nb,0,0)=G.tab[i]:=by simp[hlt]
  rw[e]at h2;simp only[fx,Po,beq_iff_eq]at h2;have h3:((i:Int),G.tab[i].1,G.tab[i].2.2.1,G.tab[i].2.2.2)∈aP 0 G.tab:=lO.2 ⟨i,hlt,by simp,h2.1,rfl⟩;rw[<-h.seats]at h3;obtain⟨f,hf,e2⟩:=List.mem_map.1 h3;simp only[Fl.F8,Q7]at e2;exact⟨f,hf,e2.1,by rw[e2.2.1];simp[lm,hlt],by rw[e2.2.2.2];exact h2.2⟩
theorem Bs.next(h:Bs G)(hn:G.now+1<=1099511626776):Bs {G with now:=G.now+1}:=by
 have h1:=h.now;have h2:=h.wnow;exact⟨h.cfg,⟨by show 0<=G.now+1;omega,hn⟩,h.tab,h.tabLen,h.book,h.tok,h.hel,h.hea,h.seats,h.rets,fun l hl=>by have:=h.since l hl;show l.2.2.2.1<=G.now+1;omega,h.wts,⟨h2.1,by show G.wnow<=G.now+1;omega⟩,h.tms⟩
theorem qH(l:List Int):∀G:Gt,(l.foldl cV G).wnow=G.wnow/\(l.foldl cV G).now=G.now/\(l.foldl cV G).fls=G.fls/\(l.foldl cV G).liv=G.liv/\(l.foldl cV G).tab=G.tab/\(l.foldl cV G).out=G.out/\(l.foldl cV G).cfg=G.cfg/\(l.foldl cV G).tok=G.tok/\(l.foldl cV G).req=G.req/\(l.foldl cV G).tms=G.tms:=by
 induction l with
 |nil=>exact fun G=>⟨rfl,rfl,rfl,rfl,rfl,rfl,rfl,rfl,rfl,rfl⟩
 |cons b l ih=>exact fun G=>ih (cV G b)
end
structure Im(G:Gt):Prop where
 bs:Bs G
 be:∀f∈G.fls,aA G.liv f.be=2\/aA G.liv f.be=3
 ring:∀b:Nat,b<12->G.wts.getD b 0=if aA G.liv b=2 then(aq G.liv b).2.2.1 else 0
 drn:∀l∈G.liv,l.2.1=3->du G.fls l.1=Nw
 hi:∀f∈G.fls,f.due<=G.now+500
structure Wm(G:Gt):Prop where
 im:Im G
 wnow:G.wnow=G.now
 due:∀f∈G.fls,G.now<f.due
 till:∀l∈G.liv,l.2.1=3->G.now<l.2.2.2.2.1
 out:∀h∈G.hea,h.out=Nw->G.now<h.till
section
variable {G:Gt}
theorem lP{b:Int}:du fs b=Nw↔∃f∈fs,f.be=b:=by
 unfold du;rw[List.any_eq_true];simp
theorem BY{b:Int}(h:du fs b=Nb):∀f∈fs,f.be≠b:=by
 intro f hf e;have:du fs b=true:=lP.2 ⟨f,hf,e⟩;rw[h]at this;cases this
theorem Im.GT(h:Im G)(o:Ou):Im (ge G o):=⟨h.bs.GT o,h.be,h.ring,h.drn,h.hi⟩
structure bC(G:Gt)(b:Int):Prop where
 bs:Bs G
 be:∀f∈G.fls,aA G.liv f.be=2\/aA G.liv f.be=3
 ring:∀b:Nat,b<12->G.wts.getD b 0=if aA G.liv b=2 then(aq G.liv b).2.2.1 else 0
 drn:∀l∈G.liv,l.2.1=3->l.1≠b->du G.fls l.1=Nw
 hi:∀f∈G.fls,f.due<=G.now+500
theorem Bs.Gv(h:Bs G):eo G.liv:=h.book.1.2.2
theorem zZ(hr:eo G.liv){b:Int}(h3:aA G.liv b=3)(c:Int):aq (cU G.liv b dC) c=if c=b then dC (aq G.liv b)else aq G.liv c:=by
 obtain⟨hm,e⟩:=kQ (L:=G.liv) (b:=b) (by rw[h3];decide)
 split
 ·rename_i hc
  subst hc;have:=zL hr hm tZ;rw[e]at this;exact this
 ·rename_i hc
  exact vq _ hc tZ
theorem bC.Ii{b:Int}(h:bC G b):Im (cj G b):=by
 have hbs:=h.bs.Ii b;rw[nS h.bs]at hbs⊢
 split
 case isTrue hc =>
  rw[Nh hc]at hbs;have hst:=zZ (G:=G) h.bs.Gv hc.1;have hst2:∀c,aA (cU G.liv b dC) c=if c=b then 4 else aA G.liv c:=fun c=>by
   show(aq (cU G.liv b dC) c).2.1=_;rw[hst]
   split <;> rfl
  refine⟨hbs,fun f hf=>?_,fun c hcl=>?_,fun l hl h3=>?_,h.hi⟩
  ·show aA (cU G.liv b dC) f.be=2\/aA (cU G.liv b dC) f.be=3
   rw[hst2,Nf (BY hc.2 f hf)];exact h.be f hf
  ·show G.wts.getD c 0=if aA (cU G.liv b dC) c=2 then(aq (cU G.liv b dC) c).2.2.1 else 0
   rw[h.ring c hcl,hst2,hst]
   by_cases e:(c:Int)=b
   ·rw[Nh e,Nf (show ¬aA G.liv (c:Int)=2 by rw[e,hc.1];decide),Nf (by decide)]
   ·rw[Nf e,Nf e]
  ·obtain⟨x,hx,e⟩:=List.mem_map.1 hl
   by_cases hb:x.1=b
   ·rw[Nh hb]at e
    rw[<-e]at h3;exact absurd h3 (show ¬(4:Int)=3 by decide)
   ·rw[Nf hb]at e
    subst e;exact h.drn x hx h3 hb
 case isFalse hc =>
  refine⟨h.bs,h.be,h.ring,fun l hl h3=>?_,h.hi⟩
  by_cases e:l.1=b
  ·subst e
   have hst:aA G.liv l.1=3:=by show(aq G.liv l.1).2.1=3;rw[iZ h.bs.Gv hl];exact h3
   cases hb:du G.fls l.1
   ·exact absurd ⟨hst,hb⟩ hc
   ·rfl
  ·exact h.drn l hl h3 e
theorem Im.Iw(h:Im G)(hf:f∈G.fls):bC {G with tab:=(ed G.tab f.slot f.gen).1,fls:=bO G.fls f.slot f.gen,tms:=fun t=>G.tms t/\t.2≠f.slot} f.be:=by
 have hw:=h.bs.GL hf;refine⟨h.bs.Iw hf,fun x hx=>?_,h.ring,fun l hl h3 hne=>?_,fun x hx=>?_⟩
 ·have hx:x∈bO G.fls f.slot f.gen:=hx
  rw[hw]at hx;exact h.be x (List.mem_filter.1 hx).1
 ·show du (bO G.fls f.slot f.gen) l.1=Nw
  rw[hw];obtain⟨x,hx,e⟩:=lP.1 (h.drn l hl h3);refine lP.2 ⟨x,List.mem_filter.2 ⟨hx,?_⟩,e⟩;have:x.slot≠f.slot:=fun e2=>hne (by rw[<-e,h.bs.Ic hx hf e2])
  simpa using this
 ·have hx:x∈bO G.fls f.slot f.gen:=hx
  rw[hw]at hx;exact h.hi x (List.mem_filter.1 hx).1
theorem bC.GT{b:Int}(h:bC G b)(o:Ou):bC (ge G o) b:=⟨h.bs.GT o,h.be,h.ring,h.drn,h.hi⟩
theorem Im.Hc(h:Im G)(hf:f∈G.fls)(kind why:Int):Im (dn G f kind why):=((h.Iw hf).GT _).Ii
theorem Im.GA(h:Im G){b:Int}(hb:0<=b/\b<12)(x:Bool):Im (dg G b x):=⟨h.bs.GA hb x,h.be,h.ring,h.drn,h.hi⟩
theorem Im.Hp(h:Im G)(hn:0<=n/\n<=G.cfg.bb*G.cfg.bd):Im {G with tok:=n}:=⟨h.bs.Hp hn,h.be,h.ring,h.drn,h.hi⟩
theorem CC(hi:i<fs.length)(hy:y.be=fs[i].be)(b:Int):du (fs.set i y) b=du fs b:=by
 have h1:(fs.set i y).map Fl.be=fs.map Fl.be:=tJ Fl.be hi hy;have h2:∀l:List Fl,du l b=(l.map Fl.be).any (· == b):=fun l=>by simp[du,List.any_map,Function.comp_def]
 rw[h2,h2,h1]
theorem Im.Mi(h:Im G)(hi:i<G.fls.length)(hy:y.be=G.fls[i].be)(hd:y.due<=G.now+500){T:Tm->Prop}(hb:Bs {G with fls:=G.fls.set i y,tms:=T}):Im {G with fls:=G.fls.set i y,tms:=T}:=by
 refine⟨hb,fun x hx=>?_,h.ring,fun l hl h3=>?_,fun x hx=>?_⟩
 ·rcases iC hx with rfl|hx
  ·rw[hy];exact h.be _ (Nk hi)
  ·exact h.be x hx
 ·show du (G.fls.set i y) l.1=Nw
  rw[CC hi hy];exact h.drn l hl h3
 ·rcases iC hx with rfl|hx
  ·exact hd
  ·exact h.hi x hx
theorem Im.It(h:Im G)(hi:i<G.fls.length)(hn:1<=n/\n<=500):Im (dU G i n):=
 h.Mi hi (by rw[bJ hi]) (by show G.now+n<=G.now+500;omega) (h.bs.It hi hn)
theorem Im.Hd(h:Im G)(hi:i<G.fls.length)(hs:f.F8=G.fls[i].F8)(hd:f.due=G.fls[i].due)(hr:0<=f.ret/\f.ret<=G.cfg.ret):Im (eT G i f):=
 h.Mi (T:=G.tms) hi (congrArg (fun s=>s.2.2.2) hs) (by rw[hd];exact h.hi _ (Nk hi)) (h.bs.Hd hi hs hd hr)
theorem Im.Ig(h:Im G)(hi:i<G.fls.length){b:Int}(hb:0<=b/\b<12)(h2:aA G.liv b=2)(hr:G.fls[i].ret+1<=G.cfg.ret):
  bC (eT {G with tab:=(db G.tab G.fls[i].slot G.fls[i].gen b).1} i {G.fls[i]with be:=b,ret:=G.fls[i].ret+1}) G.fls[i].be:=by
 have hsl:({G.fls[i]with be:=b,ret:=G.fls[i].ret+1}:Fl).slot=G.fls[i].slot:=rfl;refine⟨h.bs.Ig hi hb hr,fun x hx=>?_,h.ring,fun l hl h3 hne=>?_,fun x hx=>?_⟩
 ·rcases iC hx with rfl|hx
  ·exact Nt h2
  ·exact h.be x hx
 ·obtain⟨x,hx,e⟩:=lP.1 (h.drn l hl h3)
  refine lP.2 ⟨x,(io h.bs.Ge hi hsl).2 (NF ⟨hx,fun e2=>hne ?_⟩),e⟩;rw[<-e,h.bs.Ic hx (Nk hi) e2]
 ·rcases iC hx with rfl|hx
  ·exact h.hi G.fls[i] (Nk hi)
  ·exact h.hi x hx
theorem bC.It{b:Int}(h:bC G b)(hi:i<G.fls.length)(hn:1<=n/\n<=500):bC (dU G i n) b:=by
 refine⟨h.bs.It hi hn,fun x hx=>?_,h.ring,fun l hl h3 hne=>?_,fun x hx=>?_⟩
 ·rcases iC hx with rfl|hx
  ·rw[bJ hi];exact h.be G.fls[i] (Nk hi)
  ·exact h.be x hx
 ·show du (G.fls.set i _) l.1=Nw
  rw[CC hi (by rw[bJ hi])];exact h.drn l hl h3 hne
 ·rcases iC hx with rfl|hx
  ·show G.now+n<=G.now+500;omega
  ·exact h.hi x hx
theorem Im.I1(h:Im G)(hi:i<G.fls.length){b:Int}(hb:0<=b/\b<12)(h2:aA G.liv b=2)(hr:G.fls[i].ret+1<=G.cfg.ret):Im (eQ G i b):=by
 have h1:=h.Ig hi hb h2 hr;unfold eQ;simp only[bJ hi];refine bC.Ii (bC.GT (bC.It h1 ?_ h.bs.conn) _);show i<(G.fls.set i _).length;rw[NA];exact hi
theorem pI(h:Bs G)(hi:i<G.fls.length)(why:Int):
  (∃y,dP G i why=dn (dg G G.fls[i].be Nw) G.fls[i] 6 y/\(y=why\/y=4)) \/
  (∃c,dP G i why=eQ {dg G G.fls[i].be Nw with tok:=G.tok-G.cfg.bd} i c/\G.cfg.bd<=G.tok/\G.fls[i].ret+1<=G.cfg.ret/\aA G.liv c=2/\(0<=c/\c<12)/\dL (dg G G.fls[i].be Nw) G.fls[i].key (bO G.fls G.fls[i].slot G.fls[i].gen)=(c,0)):=by
 have hf:=Nk hi;have hb:=(h.F9 hf).2.2.2;have h1:=h.GA hb Nw;have hr:=h.rets _ hf;unfold dP;simp only[bJ hi]
 split
 ·exact Nt ⟨why,rfl,Nt rfl⟩
 ·rename_i hn
  have hs:(dp G.cfg.bn G.cfg.bd G.cfg.bb G.tok).2=0:=by
   by_cases e:(dp G.cfg.bn G.cfg.bd G.cfg.bb G.tok).2=0
   ·exact e
   ·exact absurd (NF e) hn
  have hne:¬G.fls[i].ret=G.cfg.ret:=fun e=>hn (Nt e)
  obtain⟨e1,e2⟩:=pW h.GM h.tok hs
  split
  ·exact Nt ⟨4,rfl,NF rfl⟩
  ·rename_i hc
   have hc:(dL (dg G G.fls[i].be Nw) G.fls[i].key (bO G.fls G.fls[i].slot G.fls[i].gen)).2=0:=by
    by_cases e:(dL (dg G G.fls[i].be Nw) G.fls[i].key (bO G.fls G.fls[i].slot G.fls[i].gen)).2=0
    ·exact e
    ·exact absurd e hc
   have hch:=h1.Ib (Nm (nL _ _ _) h.Gb) hc;refine NF ⟨_,?_,e2,by omega,hch.1,hch.2,Q8 rfl hc⟩;rw[e1]
theorem qB(h:Bs G)(hd:G.cfg.bd<=G.tok):0<=G.tok-G.cfg.bd/\G.tok-G.cfg.bd<=G.cfg.bb*G.cfg.bd:=by
 have:=h.tok;have:=h.GM.2.1;omega
theorem Im.I8(h:Im G)(hi:i<G.fls.length)(why:Int):Im (dP G i why):=by
 have hf:=Nk hi;have hb:=(h.bs.F9 hf).2.2.2;rcases pI h.bs hi why with⟨y,e,_⟩|⟨c,e,hd,hr,h2,hc,_⟩
 ·rw[e]
  exact(h.GA hb Nw).Hc hf _ _
 ·rw[e]
  have ht:=qB h.bs hd;exact Im.I1 (Im.Hp (n:=G.tok-G.cfg.bd) (h.GA hb Nw) ht) hi hc h2 hr
theorem Im.Mr(h:Im G)(hi:i<G.fls.length):Im (mV G i):=by
 unfold mV;refine Im.GT ?_ _
 split
 ·exact h.It hi h.bs.idle
 ·exact h
theorem Im.Mu(h:Im G)(hi:i<G.fls.length):Im (mX G i):=by
 have hf:=Nk hi;have hb:=(h.bs.F9 hf).2.2.2;unfold mX;simp only[bJ hi];refine Im.GT (Im.It (Im.Hd (h.GA hb Nb) (i:=i) hi (f:={G.fls[i]with srv:=Nw}) rfl rfl (h.bs.rets G.fls[i] hf)) ?_ h.bs.idle) _;show i<(G.fls.set i _).length;rw[NA];exact hi
theorem J7(h:Bs G){key:Int}(hk:0<=key/\key<=4294967295) :
  (mA G key=kY G 2 9/\G.tab.any eu=Nb)\/(mA G key=kY G 2 11/\G.tab.any eu=Nw/\(dL G key G.fls).2≠0) \/
  (∃(k:Nat) (hlt:k<G.tab.length),dL G key G.fls=((dL G key G.fls).1,0)/\aA G.liv (dL G key G.fls).1=2/\(0<=(dL G key G.fls).1/\(dL G key G.fls).1<12)/\G.tab.any eu=Nw /\
   G.tab[k].2.1=Nb/\(0<=G.tab[k].1/\G.tab[k].1<=1048575)/\(∀j (hj:j<k),eu (G.tab[j]'(by omega))=Nb) /\
   mA G key=ge {G with tab:=G.tab.set k (G.tab[k].1,Nw,key,(dL G key G.fls).1),fls:=aT G.fls ⟨k,G.tab[k].1,key,(dL G key G.fls).1,Nb,0,G.now+G.cfg.conn⟩ (f9 G.fls k),tms:=fun t=>(G.tms t/\t.2≠(k:Int))\/t=(G.now+G.cfg.conn,(k:Int)),tok:=min (G.tok+G.cfg.bn) (G.cfg.bb*G.cfg.bd)} ⟨1,k,G.tab[k].1,(dL G key G.fls).1,0,0,0⟩):=by
 unfold mA
 split
 ·rename_i hfree
  exact Nt ⟨rfl,hfree⟩
 ·rename_i hfree
  have hfree:G.tab.any eu=true:=by cases e:G.tab.any eu;exact absurd e hfree;rfl
  simp only[]
  split
  ·rename_i hc
   exact NF (Nt ⟨rfl,hfree,hc⟩)
  ·rename_i hc
   have hc:(dL G key G.fls).2=0:=by
    by_cases e:(dL G key G.fls).2=0
    ·exact e
    ·exact absurd e hc
   have hch:=h.Ib h.Gb hc;obtain⟨k,hlt,e,hu,hg,hj⟩:=h.Gd hfree hk hch.2;refine NF (NF ⟨k,hlt,Q8 rfl hc,hch.1,hch.2,hfree,hu,hg,hj,?_⟩);have hle:=nR G.fls (k:Int);have hlen:=vo G.fls (⟨(k:Int),G.tab[k].1,key,(dL G key G.fls).1,Nb,0,0⟩:Fl) hle;have hfl:aQ (jD G key (dL G key G.fls).1) (f9 G.fls (k:Int))=⟨k,G.tab[k].1,key,(dL G key G.fls).1,Nb,0,0⟩:=by
    unfold jD;rw[e];rw[bJ (by show f9 G.fls (k:Int)<(aT G.fls _ _).length;rw[hlen];omega)];exact Kx _ _ hle
   have hset:(aT G.fls (⟨k,G.tab[k].1,key,(dL G key G.fls).1,Nb,0,0⟩:Fl) (f9 G.fls (k:Int))).set (f9 G.fls (k:Int)) ⟨k,G.tab[k].1,key,(dL G key G.fls).1,Nb,0,G.now+G.cfg.conn⟩=aT G.fls ⟨k,G.tab[k].1,key,(dL G key G.fls).1,Nb,0,G.now+G.cfg.conn⟩ (f9 G.fls (k:Int)):=by
    unfold aT;rw[Pw _ _ (by simp;omega)];simp[P1 hle]
   rw[zF h.GM h.tok,e];simp only[];have hw:dU (jD G key (dL G key G.fls).1) (f9 G.fls (k:Int)) G.cfg.conn={G with tab:=G.tab.set k (G.tab[k].1,Nw,key,(dL G key G.fls).1),fls:=aT G.fls ⟨k,G.tab[k].1,key,(dL G key G.fls).1,Nb,0,G.now+G.cfg.conn⟩ (f9 G.fls k),tms:=fun t=>(G.tms t/\t.2≠(k:Int))\/t=(G.now+G.cfg.conn,(k:Int))}:=by
    unfold dU;rw[hfl];unfold jD;rw[e];simp only[];rw[hset]
   rw[hw];unfold iA;have hfl2:aQ {G with tab:=G.tab.set k (G.tab[k].1,Nw,key,(dL G key G.fls).1),fls:=aT G.fls ⟨k,G.tab[k].1,key,(dL G key G.fls).1,Nb,0,G.now+G.cfg.conn⟩ (f9 G.fls k),tms:=fun t=>(G.tms t/\t.2≠(k:Int))\/t=(G.now+G.cfg.conn,(k:Int))} (f9 G.fls (k:Int))=⟨k,G.tab[k].1,key,(dL G key G.fls).1,Nb,0,G.now+G.cfg.conn⟩:=by
    rw[bJ (by show f9 G.fls (k:Int)<(aT G.fls _ _).length;rw[vo _ _ hle];omega)];exact Kx _ _ hle
   rw[hfl2]
theorem Im.Mp(h:Im G){key:Int}(hk:0<=key/\key<=4294967295):Im (mA G key):=by
 have hbs:=h.bs.Mp hk;have hcn:=h.bs.conn;rcases J7 h.bs hk with⟨e,_⟩|⟨e,_⟩|⟨k,hlt,_,h2,_,_,_,_,_,e⟩
 ·rw[e];exact h.GT _
 ·rw[e];exact h.GT _
 ·rw[e]at hbs⊢
  refine⟨hbs,fun x hx=>?_,h.ring,fun l hl h3=>?_,fun x hx=>?_⟩
  ·rcases rc.1 hx with rfl|hx
   ·exact Nt h2
   ·exact h.be x hx
  ·obtain⟨x,hx,e⟩:=lP.1 (h.drn l hl h3)
   exact lP.2 ⟨x,rc.2 (NF hx),e⟩
  ·rcases rc.1 hx with rfl|hx
   ·show G.now+G.cfg.conn<=G.now+500;omega
   ·exact h.hi x hx
end
section
variable {G:Gt}
theorem Kz{L':List FV}(hr:eo L)(hr':eo L')(h:∀x:FV,x.1≠n->(x∈L'↔x∈L)){c:Int}(hc:c≠n):aq L' c=aq L c:=by
 rcases qM L c with⟨hm,e⟩|⟨hn,e⟩
 ·have h1:aq L c∈L':=(h _ (by rw[e];exact hc)).2 hm
  have:=iZ hr' h1;rwa[e]at this
 ·rw[e]
  refine tP fun x hx e2=>?_
  exact hn x ((h x (by rw[e2];exact hc)).1 hx) e2
theorem Ky(hb:fy L){m:Int}(hn:0<=n/\n<=11)(hm:1<=m/\m<=8):
  ((aA L n=0\/aA L n=4)/\(gE L n m).2=0/\(∀c,aq (gE L n m).1 c=if c=n then(n,1,m,0,0,0)else aq L c)/\∀x∈(gE L n m).1,x∈L\/x=(n,1,m,0,0,0)) \/
  (¬(aA L n=0\/aA L n=4)/\gE L n m=(L,7)):=by
 have hok:=KH hb n m;have hr:eo L:=hb.2;unfold gE at hok⊢;rw[Nf (by omega)]at hok⊢;rcases qM L n with⟨hmem,e1⟩|⟨hno,e1⟩
 ·obtain⟨h1,hp,h2⟩:=oB hr hmem
  rw[e1]at h1 hp;have h2':L[aU L n]=aq L n:=by simp only[e1]at h2;exact h2
  rw[Nh h1,MR hp,OV,h2']at hok⊢;have hst:aA L n=(aq L n).2.1:=rfl;have hne:aA L n≠0:=by
   have:=(hb.1 _ hmem).2;omega
  by_cases h4:(aq L n).2.1=4
  ·rw[Nh h4]at hok⊢
   have hset:L.set (aU L n) ((n,1,m,0,0,0):FV)=cU L n (fun _=>(n,1,m,0,0,0)):=by
    have:=sP hr hp (b:=n) (by rw[h2',e1]) (fun _=>((n,1,m,0,0,0):FV));exact this
   have hr':eo (L.set (aU L n) ((n,1,m,0,0,0):FV)):=hok.2;refine Nt ⟨NF h4,rfl,fun c=>?_,fun x hx=>?_⟩
   ·show aq (L.set (aU L n) (n,1,m,0,0,0)) c=_
    split
    ·rename_i hc
     subst hc;have h3:((c,1,m,0,0,0):FV)∈L.set (aU L c) (c,1,m,0,0,0):=List.mem_iff_getElem.2 ⟨aU L c,by simpa using hp,by simp⟩;exact iZ hr' h3
    ·rename_i hc
     refine Kz hr hr' (n:=n) (fun x hx=>?_) hc;rw[hset];constructor
     ·intro h
      obtain⟨y,hy,e⟩:=List.mem_map.1 h
      split at e
      ·exact absurd (by rw[<-e]) hx
      ·rw[<-e];exact hy
     ·intro h
      exact List.mem_map.2 ⟨x,h,by rw[Nf hx]⟩
   ·rcases iC hx with h|h
    ·exact NF h
    ·exact Nt h
  ·rw[Nf h4]
   exact NF ⟨fun h=>by rcases h with h|h <;> omega,rfl⟩
 ·have h1:cK L n=false:=by
   cases hh:cK L n
   ·rfl
   ·exact absurd (EK hh) (hno _ (Nk _))
  rw[Nf (by rw[h1];simp)]at hok⊢;have hr':eo (aT L ((n,1,m,0,0,0):FV) (aU L n)):=hok.2;have hst:aA L n=0:=by show(aq L n).2.1=0;rw[e1]
  refine Nt ⟨Nt hst,rfl,fun c=>?_,fun x hx=>?_⟩
  ·show aq (aT L (n,1,m,0,0,0) (aU L n)) c=_
   split
   ·rename_i hc
    subst hc;exact iZ hr' (x:=(c,1,m,0,0,0)) (rc.2 (Nt rfl))
   ·rename_i hc
    refine Kz hr hr' (n:=n) (fun x hx=>?_) hc;rw[rc];exact⟨fun h=>h.resolve_left fun e=>hx (by rw[e]),NF⟩
  ·exact(rc.1 hx).symm
theorem Cr(h:Bs G){e:Ev}(he:0<=e.req/\e.req<=1048576){kind:Int}(hk:kind=1\/kind=2) :
  ((dJ G kind e).2.2.1=Nb/\(dJ G kind e).1=(G.liv,G.req)) \/
  ((dJ G kind e).2.2.1=Nw/\kind=1/\(dJ G kind e).1.1=(gE G.liv e.be e.wt).1/\(dJ G kind e).2.1=(gE G.liv e.be e.wt).2) \/
  ((dJ G kind e).2.2.1=Nw/\kind=2/\(dJ G kind e).1.1=(ec G.liv e.be e.req (G.now+G.cfg.drain)).1/\(dJ G kind e).2.1=(ec G.liv e.be e.req (G.now+G.cfg.drain)).2):=by
 unfold dJ;rcases AA h.book (h.Jd (e:=e) he hk)with⟨_,q⟩|⟨_,_,q⟩|⟨_,_,q⟩
 ·rw[q];exact Nt ⟨rfl,rfl⟩
 ·rw[q];exact Nt ⟨rfl,rfl⟩
 ·rw[q]
  rcases hk with rfl|rfl
  ·exact NF (Nt ⟨rfl,rfl,by unfold eA;rw[Nh rfl],by unfold eA;rw[Nh rfl]⟩)
  ·exact NF (NF ⟨rfl,rfl,by unfold eA;rw[Nf (show ¬(2:Int)=1 by decide)],by unfold eA;rw[Nf (show ¬(2:Int)=1 by decide)]⟩)
theorem Im.liv(h:Im G)(hb:Bs {G with liv:=L,req:=R})(hc:∀c,c≠n->aq L c=aq G.liv c)(h0:aA G.liv n≠2/\aA G.liv n≠3)(h1:aA L n≠2/\aA L n≠3):Im {G with liv:=L,req:=R}:=by
 refine⟨hb,fun f hf=>?_,fun c hcl=>?_,fun l hl h3=>?_,h.hi⟩
 ·have h2:=h.be f hf
  show(aq L f.be).2.1=2\/(aq L f.be).2.1=3;rw[hc f.be (fun e=>by rw[e]at h2;omega)];exact h2
 ·show G.wts.getD c 0=if(aq L c).2.1=2 then(aq L c).2.2.1 else 0
  rw[h.ring c hcl]
  by_cases e:(c:Int)=n
  ·rw[Nf (by rw[e];exact h0.1),Nf (by rw[e];exact h1.1)]
  ·rw[hc c e]
 ·have hl:l∈L:=hl
  have hll:=iZ hb.Gv hl;have hll:aq L l.1=l:=hll;have hne:l.1≠n:=fun e=>h1.2 (by show(aq L n).2.1=3;rw[<-e,hll];exact h3)
  have h4:=hc l.1 hne;rw[hll]at h4;have h5:aA G.liv l.1=3:=by show(aq G.liv l.1).2.1=3;rw[<-h4];exact h3
  obtain⟨hm,_⟩:=kQ (L:=G.liv) (b:=l.1) (by rw[h5];decide);rw[<-h4]at hm;exact h.drn l hm h3
theorem Im.Mh(h:Im G)(hb:Bs {G with req:=R}):Im {G with req:=R}:=⟨hb,h.be,h.ring,h.drn,h.hi⟩
structure fB(e:Ev):Prop where
 kind:1<=e.kind/\e.kind<=7
 key:0<=e.key/\e.key<=4294967295
 req:0<=e.req/\e.req<=1048576
 be:0<=e.be/\e.be<=11
 wt:e.kind=5->1<=e.wt/\e.wt<=8
theorem Im.Ms(h:Im G){e:Ev}(he:fB e)(h5:e.kind=5):Im (fO G 1 e):=by
 have hb:=h.bs.Mc he.req (Nt rfl:(1:Int)=1\/(1:Int)=2);refine Im.GT ?_ _;have hb:Bs {G with liv:=(dJ G 1 e).1.1,req:=(dJ G 1 e).1.2}:=hb.Jh G.out;rcases Cr h.bs he.req (Nt rfl:(1:Int)=1\/(1:Int)=2)with⟨_,q⟩|⟨_,_,q,_⟩|⟨_,k,_⟩
 ·rw[q]
  exact h
 ·rw[q]at hb⊢
  rcases Ky h.bs.book.1.2 he.be (he.wt h5)with⟨h0,_,h1,_⟩|⟨_,e1⟩
  ·refine h.liv (n:=e.be) hb (fun c hc=>by rw[h1,Nf hc]) (by rcases h0 with h0|h0 <;> rw[h0] <;> decide) ?_
   have:aA (gE G.liv e.be e.wt).1 e.be=1:=by show(aq (gE G.liv e.be e.wt).1 e.be).2.1=1;rw[h1,Nh rfl]
   rw[this]
   decide
  ·rw[e1]at hb⊢
   exact h.Mh hb
 ·exact absurd k (by decide)
theorem Fq(h:Bs G){e:Ev}(he:0<=e.req/\e.req<=1048576) :
  (ja G 2 e=Nb/\(dJ G 2 e).1.1=G.liv) \/
  (ja G 2 e=Nw/\(dJ G 2 e).2.2.1=Nw/\(dJ G 2 e).2.1=0/\(aA G.liv e.be=1\/aA G.liv e.be=2)/\(dJ G 2 e).1.1=cU G.liv e.be (fun x=>mH x (G.now+G.cfg.drain) e.req)):=by
 unfold ja;rcases Cr h he (NF rfl:(2:Int)=1\/(2:Int)=2)with⟨h1,q⟩|⟨_,k,_⟩|⟨h1,_,q,a⟩
 ·rw[h1,q]
  exact Nt ⟨rfl,rfl⟩
 ·exact absurd k (by decide)
 ·rw[h1,q,a]
  by_cases hs:aA G.liv e.be=1\/aA G.liv e.be=2
  ·rw[Au h.Gv hs]
   exact NF ⟨rfl,rfl,rfl,hs,rfl⟩
  ·rw[DK h.Gv hs h.book.1.2.1]
   refine Nt ⟨?_,rfl⟩
   by_cases h3:aA G.liv e.be=3
   ·rw[Nh h3];rfl
   ·rw[Nf h3];rfl
theorem Im.Mt(h:Im G){e:Ev}(he:fB e):Im (nC G e):=by
 have hb:=h.bs.Mc he.req (NF rfl:(2:Int)=1\/(2:Int)=2);have hb:Bs {G with liv:=(dJ G 2 e).1.1,req:=(dJ G 2 e).1.2}:=hb.Jh G.out;unfold nC;rcases Fq h.bs he.req with⟨h1,q⟩|⟨h1,_,_,hs,q⟩
 ·rw[Nh h1]
  refine Im.GT ?_ _;rw[q]at hb⊢;exact h.Mh hb
 ·rw[Nf (by rw[h1];decide)]
  rw[q]at hb;obtain⟨hm,e1⟩:=kQ (L:=G.liv) (b:=e.be) (by omega);have hself:aq (cU G.liv e.be (fun x=>mH x (G.now+G.cfg.drain) e.req)) e.be=mH (aq G.liv e.be) (G.now+G.cfg.drain) e.req:=by
   have:=zL h.bs.Gv hm (y:=fun x=>mH x (G.now+G.cfg.drain) e.req) (fun x=>Kv x _ _);rw[e1]at this;exact this
  have hoth:∀c,c≠e.be->aq (cU G.liv e.be (fun x=>mH x (G.now+G.cfg.drain) e.req)) c=aq G.liv c:=fun c hc=>vq _ hc (fun x=>Kv x _ _)
  have hst:aA (cU G.liv e.be (fun x=>mH x (G.now+G.cfg.drain) e.req)) e.be=if aA G.liv e.be=2 then 3 else 4:=by
   show(aq _ e.be).2.1=_;rw[hself];rfl
  by_cases h2:aA G.liv e.be=1
  ·rw[Nh h2]
   refine Im.GT (Im.GT ?_ _) _;rw[q];refine h.liv (n:=e.be) hb hoth (by rw[h2];decide) ?_;rw[hst,Nf (by rw[h2];decide)]
   decide
  ·rw[Nf h2]
   have h2:aA G.liv e.be=2:=by omega
   rw[Nh h2]at hst;refine bC.Ii ?_;have hb2:Bs {fO G 2 e with wts:=G.wts.set e.be.toNat 0}:=Bs.Jg (h.bs.Mc he.req (NF rfl)) (h.bs.wts.F4 _ 0 (by omega) (by omega));have hl:(fO G 2 e).liv=cU G.liv e.be (fun x=>mH x (G.now+G.cfg.drain) e.req):=q;refine⟨hb2,fun f hf=>?_,fun c hcl=>?_,fun l hll h3 hne=>?_,h.hi⟩
   ·show aA (fO G 2 e).liv f.be=2\/aA (fO G 2 e).liv f.be=3
    rw[hl]
    by_cases e2:f.be=e.be
    ·rw[e2,hst];exact NF rfl
    ·show(aq _ f.be).2.1=2\/(aq _ f.be).2.1=3
     rw[hoth _ e2];exact h.be f hf
   ·show(G.wts.set e.be.toNat 0).getD c 0=if aA (fO G 2 e).liv c=2 then(aq (fO G 2 e).liv c).2.2.1 else 0
    rw[hl];have hlen:=h.bs.wts.len
    by_cases e2:(c:Int)=e.be
    ·rw[Nf (by rw[e2,hst];decide)]
     have e3:e.be.toNat=c:=by omega
     rw[e3];simp[hlen,hcl]
    ·rw[show aA (cU G.liv e.be (fun x=>mH x (G.now+G.cfg.drain) e.req)) (c:Int)=aA G.liv c by show(aq _ (c:Int)).2.1=_;rw[hoth _ e2],hoth _ e2,<-h.ring c hcl]
     have e3:e.be.toNat≠c:=by have:=he.be;omega
     simp[N3 e3]
   ·have hll:l∈(fO G 2 e).liv:=hll
    rw[hl]at hll;obtain⟨x,hx,e2⟩:=List.mem_map.1 hll
    by_cases e3:x.1=e.be
    ·rw[Nh e3]at e2
     exact absurd (by rw[<-e2];exact e3) hne
    ·rw[Nf e3]at e2
     subst e2;exact h.drn x hx h3
theorem wu(l:List Int):∀(G:Gt),G.wts.length=12->(∀b∈l,0<=b/\b<12)->l.Nodup->∀c:Nat,c<12->(l.foldl cV G).wts.getD c 0=if(c:Int)∈l then(aq G.liv c).2.2.1 else G.wts.getD c 0:=by
 induction l with
 |nil=>intro G _ _ _ c _;simp
 |cons b l ih =>
  intro G hl hb hn c hc;obtain⟨n1,n2⟩:=List.nodup_cons.1 hn;have hb0:=hb b (by simp);rw[O4,ih (cV G b) (by show(G.wts.set _ _).length=12;rw[NA];exact hl) (fun x hx=>hb x (NB _ hx)) n2 c hc];show(if(c:Int)∈l then(aq G.liv c).2.2.1 else(G.wts.set b.toNat (aq G.liv b).2.2.1).getD c 0)=_
  by_cases e:(c:Int)=b
  ·have e3:b.toNat=c:=by omega
   rw[Nf (by rw[e];exact n1),Nh (by rw[e];simp),e3,<-e];simp[hl,hc]
  ·have e3:b.toNat≠c:=by omega
   by_cases hm:(c:Int)∈l
   ·rw[Nh hm,Nh (NB _ hm)]
   ·rw[Nf hm,Nf (by simp[e,hm])]
    simp[N3 e3]
theorem wF(hr:eo L):(bv L).Nodup:=by
 unfold bv;refine List.pairwise_map.2 ((hr.filter _).imp fun {a b} h=>?_);show a.1≠b.1;omega
theorem vr(hb:Bs G)(c:Int):aq (G.liv.map (aY G.now)) c=aY G.now (aq G.liv c):=by
 rw[qN _ (uM _)];rcases qM G.liv c with⟨hm,e⟩|⟨hn,e⟩
 ·rw[Nh ⟨_,hm,e⟩]
 ·rw[Nf (fun⟨x,hx,h⟩=>hn x hx h),e]
  rfl
theorem Im.Jf(h:Im G):Im (eE G):=by
 have hb:=h.bs.Jf;rw[nf h.bs]at hb⊢;obtain⟨_,s2,s3,s4,_⟩:=qH (bv G.liv) {G with liv:=G.liv.map (aY G.now)};refine⟨hb,fun f hf=>?_,fun c hcl=>?_,fun l hl h3=>?_,fun f hf=>?_⟩
 ·rw[s3]at hf
  rw[s4];show(aq (G.liv.map (aY G.now)) f.be).2.1=2\/(aq (G.liv.map (aY G.now)) f.be).2.1=3;have h1:=h.be f hf;rw[vr h.bs];unfold aY;rw[Nf (by show ¬aA G.liv f.be=1;omega)];exact h1
 ·rw[wu _ {G with liv:=G.liv.map (aY G.now)} h.bs.wts.len (fun b hb'=>?_) (wF h.bs.Gv) c hcl,s4]
  ·show(if(c:Int)∈bv G.liv then(aq (G.liv.map (aY G.now)) c).2.2.1 else G.wts.getD c 0)=if(aq (G.liv.map (aY G.now)) c).2.1=2 then(aq (G.liv.map (aY G.now)) c).2.2.1 else 0
   rw[vr h.bs]
   by_cases hm:(c:Int)∈bv G.liv
   ·obtain⟨x,hx,h1,e⟩:=kc.1 hm
    have hx1:aq G.liv c=x:=by rw[<-e];exact iZ h.bs.Gv hx
    have hwk:(aY G.now (aq G.liv c)).2.1=2:=by unfold aY;rw[hx1,Nh h1]
    rw[Nh hm,Nh hwk]
   ·have hne:¬(aq G.liv c).2.1=1:=fun h1=>by
     obtain⟨h2,h3⟩:=kQ (L:=G.liv) (b:=(c:Int)) (by show(aq G.liv c).2.1≠0;omega);exact hm (kc.2 ⟨_,h2,h1,h3⟩)
    have hwk:aY G.now (aq G.liv c)=aq G.liv c:=by unfold aY;rw[Nf hne]
    rw[Nf hm,hwk,h.ring c hcl]
  ·obtain⟨x,hx,_,rfl⟩:=kc.1 hb'
   have:=(h.bs.lf hx).1.1;omega
 ·rw[s4]at hl
  rw[s3];obtain⟨x,hx,rfl⟩:=List.mem_map.1 hl;unfold aY at h3⊢
  split at h3
  ·exact absurd h3 (show ¬(2:Int)=3 by decide)
  ·rename_i h1
   rw[Nf h1];exact h.drn x hx h3
 ·rw[s3]at hf
  rw[s2];exact h.hi f hf
theorem Im.I2(h:Im G):Im (lU G):=⟨h.bs.I2,h.be,h.ring,h.drn,h.hi⟩
theorem KZ(h:Bs G):∀x∈(lU G).hea,x.out=Nw->(lU G).now<x.till:=by
 intro y hy ho;obtain⟨x,hx,rfl⟩:=List.mem_map.1 hy;rw[A2 h hx]at ho⊢
 split at ho
 ·exact absurd ho (show ¬Nb=Nw by decide)
 ·rename_i hn
  rw[Nf hn];show G.now<x.till
  by_cases hlt:G.now<x.till
  ·exact hlt
  ·exact absurd ⟨ho,by omega⟩ hn
theorem Im.next(h:Im G)(hn:G.now+1<=1099511626776):Im {G with now:=G.now+1}:=⟨h.bs.next hn,h.be,h.ring,h.drn,fun f hf=>by have:=h.hi f hf;show f.due<=G.now+1+500;omega⟩
theorem Im.IN(h:Im G)(hw:G.wnow+1<=G.now):Im {G with wnow:=G.wnow+1,tms:=fun t=>G.tms t/\t.1≠G.wnow+1}:=⟨h.bs.IN hw,h.be,h.ring,h.drn,h.hi⟩
end
section
variable {G:Gt}
def jQ(L L':List FV):Prop:=∀l∈L',l.2.1=3->l∈L
theorem jQ.Gy(L:List FV):jQ L L:=fun _ h _=>h
theorem jQ.F0{A B C:List FV}(h:jQ A B)(k:jQ B C):jQ A C:=fun l hl h3=>h l (k l hl h3) h3
theorem wT(h:Bs G)(b:Int):jQ G.liv (cj G b).liv:=by
 rw[nS h]
 split
 case isTrue hc =>
  intro l hl h3;obtain⟨x,hx,e⟩:=List.mem_map.1 hl
  by_cases hb:x.1=b
  ·rw[Nh hb]at e
   rw[<-e]at h3;exact absurd h3 (show ¬(4:Int)=3 by decide)
  ·rw[Nf hb]at e
   rw[<-e];exact hx
 case isFalse hc=>exact jQ.Gy _
structure aB(G G':Gt):Prop where
 now:G'.now=G.now
 wnow:G'.wnow=G.wnow
 cfg:G'.cfg=G.cfg
 ends:jQ G.liv G'.liv
 out:(∀h∈G.hea,h.out=Nw->G.now<h.till)->∀h∈G'.hea,h.out=Nw->G.now<h.till
theorem aB.Gy(G:Gt):aB G G:=⟨rfl,rfl,rfl,jQ.Gy _,fun h=>h⟩
theorem aB.F0{A B C:Gt}(h:aB A B)(k:aB B C):aB A C :=
 ⟨k.now.trans h.now,k.wnow.trans h.wnow,k.cfg.trans h.cfg,h.ends.F0 k.ends,fun ho=>by have:=k.out;rw[h.now]at this;exact this (h.out ho)⟩
theorem ET(b:Int):(cj G b).now=G.now/\(cj G b).wnow=G.wnow/\(cj G b).cfg=G.cfg/\(cj G b).hea=G.hea/\(cj G b).fls=G.fls/\(cj G b).tab=G.tab/\(cj G b).tok=G.tok/\(cj G b).wts=G.wts/\(cj G b).tms=G.tms:=by
 unfold cj
 split <;> exact⟨rfl,rfl,rfl,rfl,rfl,rfl,rfl,rfl,rfl⟩
theorem aB.Ii(h:Bs G)(b:Int):aB G (cj G b):=by
 obtain⟨h1,h2,h3,h4,_⟩:=ET (G:=G) b;exact⟨h1,h2,h3,wT h b,fun ho=>by rw[h4];exact ho⟩
theorem aB.Hc(h:Bs G)(hf:f∈G.fls)(kind why:Int):aB G (dn G f kind why):=by
 have h1:=aB.Ii ((h.Iw hf).GT ⟨kind,f.slot,f.gen,f.be,0,0,why⟩) f.be;exact⟨h1.now,h1.wnow,h1.cfg,h1.ends,h1.out⟩
theorem aB.GA(h:Bs G){b:Int}(hb:0<=b/\b<12)(x:Bool):aB G (dg G b x):=by
 refine⟨rfl,rfl,rfl,jQ.Gy _,fun ho y hy hy2=>?_⟩;rcases iC hy with rfl|hy
 ·have hlt:b.toNat<G.hea.length:=by rw[h.hel];omega
  have e:G.hea.getD b.toNat bm=G.hea[b.toNat]:=by simp[hlt]
  have h1:=h.IE hb;have hd:=tC (d:=G.cfg.wh) (t:=(G.hea.getD b.toNat bm).times) h.Gx.2.2.1;have ha:cD G.cfg.wn G.cfg.wf G.cfg.wh (G.hea.getD b.toNat bm).marks.length (G.hea.getD b.toNat bm).out (G.hea.getD b.toNat bm).till (G.hea.getD b.toNat bm).times G.now=0:=by unfold cD;rw[Nh h.Gx,Nh h.GN,Nh h1]
  unfold mr di at hy2⊢;rw[Nh ha]at hy2⊢
  split at hy2
  ·rename_i hc
   rw[Nh hc];show G.now<G.now+fd G.cfg.wh (G.hea.getD b.toNat bm).times;omega
  ·rename_i hc
   rw[Nf hc];show G.now<(G.hea.getD b.toNat bm).till;rw[e]at hy2⊢;exact ho _ (Nk hlt) hy2
 ·exact ho y hy hy2
theorem aB.I1(h:Bs G)(hi:i<G.fls.length){b:Int}(hb:0<=b/\b<12)(hr:G.fls[i].ret+1<=G.cfg.ret):aB G (eQ G i b):=by
 have h1:=h.Ig hi hb hr;unfold eQ;simp only[bJ hi];have h2:=Bs.It h1 (i:=i) (by show i<(G.fls.set i _).length;rw[NA];exact hi) h.conn;have h3:=aB.Ii (Bs.GT h2 ⟨5,(aQ (dU (eT {G with tab:=(db G.tab G.fls[i].slot G.fls[i].gen b).1} i {G.fls[i]with be:=b,ret:=G.fls[i].ret+1}) i G.cfg.conn) i).slot,(aQ (dU (eT {G with tab:=(db G.tab G.fls[i].slot G.fls[i].gen b).1} i {G.fls[i]with be:=b,ret:=G.fls[i].ret+1}) i G.cfg.conn) i).gen,(aQ (dU (eT {G with tab:=(db G.tab G.fls[i].slot G.fls[i].gen b).1} i {G.fls[i]with be:=b,ret:=G.fls[i].ret+1}) i G.cfg.conn) i).be,0,0,0⟩) G.fls[i].be;exact⟨h3.now,h3.wnow,h3.cfg,h3.ends,h3.out⟩
theorem aB.I8(h:Bs G)(hi:i<G.fls.length)(why:Int):aB G (dP G i why):=by
 have hf:=Nk hi;have hb:=(h.F9 hf).2.2.2;have h1:=aB.GA h hb Nw;rcases pI h hi why with⟨y,e,_⟩|⟨c,e,hd,hr,h2,hc,_⟩
 ·rw[e]
  exact h1.F0 (aB.Hc (h.GA hb Nw) hf _ _)
 ·rw[e]
  have ht:=qB h hd;have h3:=aB.I1 (Bs.Hp (n:=G.tok-G.cfg.bd) (h.GA hb Nw) ht) hi hc hr;exact⟨h3.now.trans h1.now,h3.wnow.trans h1.wnow,h3.cfg.trans h1.cfg,h1.ends.F0 h3.ends,fun ho=>h3.out (h1.out ho)⟩
theorem C3(h:Bs G)(hi:i<G.fls.length)(why:Int):∀x∈(dP G i why).fls,x.slot=G.fls[i].slot->x.due=G.now+G.cfg.conn:=by
 have hf:=Nk hi;have hb:=(h.F9 hf).2.2.2;intro x hx e;rcases pI h hi why with⟨y,q,_⟩|⟨c,q,_⟩
 ·rw[q]at hx
  unfold dn at hx;rw[mF]at hx;have hx:x∈bO G.fls G.fls[i].slot G.fls[i].gen:=hx;rw[h.GL hf]at hx;have:=(List.mem_filter.1 hx).2;rw[e]at this;simp at this
 ·rw[q,rL (G:={dg G G.fls[i].be Nw with tok:=_}) hi]at hx
  have hx:x∈G.fls.set i {G.fls[i]with be:=c,ret:=G.fls[i].ret+1,due:=G.now+G.cfg.conn}:=hx;have hy:({G.fls[i]with be:=c,ret:=G.fls[i].ret+1,due:=G.now+G.cfg.conn}:Fl).slot=G.fls[i].slot:=rfl;rcases(io h.Ge hi hy).1 hx with rfl|⟨_,hne⟩
  ·rfl
  ·exact absurd e hne
theorem pP(h:Bs G)(hf:f∈G.fls)(kind why:Int):∀x∈(dn G f kind why).fls,x∈G.fls/\x.slot≠f.slot:=by
 intro x hx;unfold dn at hx;rw[mF]at hx;have hx:x∈bO G.fls f.slot f.gen:=hx;rw[h.GL hf]at hx;obtain⟨h1,h2⟩:=List.mem_filter.1 hx;exact⟨h1,by simpa using h2⟩
theorem tS(h:Im G)(hf:f∈G.fls):Im (bE G f.slot)/\aB G (bE G f.slot)/\kD G (bE G f.slot) f.slot/\∀x∈(bE G f.slot).fls,x.slot=f.slot->x.due=G.now+G.cfg.conn:=by
 obtain⟨hi,e⟩:=h.bs.GG hf;refine⟨?_,?_,(h.bs.Jy hf).2,?_⟩
 ·unfold bE
  simp only[]
  split
  ·rw[bJ hi,e];exact h.Hc hf _ _
  ·exact h.I8 hi _
 ·unfold bE
  simp only[]
  split
  ·rw[bJ hi,e];exact aB.Hc h.bs hf _ _
  ·exact aB.I8 h.bs hi _
 ·unfold bE
  simp only[]
  split
  ·rw[bJ hi,e]
   intro x hx hs;exact absurd hs (pP h.bs hf _ _ x hx).2
  ·have:=C3 h.bs hi 5
   rw[e]at this;exact this
theorem uW:∀(l:List Int) (G:Gt),Im G->l.Nodup->(∀s∈l,∃f∈G.fls,f.slot=s)->(∀f∈G.fls,G.now<f.due\/f.slot∈l) ->
  Im (l.foldl bE G)/\aB G (l.foldl bE G)/\∀f∈(l.foldl bE G).fls,G.now<f.due
 | [],G,h,_,_,hd=>⟨h,aB.Gy G,fun f hf=>(hd f hf).resolve_right (by simp)⟩
 |s::l,G,h,hn,hs,hd=>by
  obtain⟨f,hf,rfl⟩:=hs s (by simp);obtain⟨h1,h2,h3,h4⟩:=tS h hf;obtain⟨n1,n2⟩:=List.nodup_cons.1 hn;have hcn:=h.bs.conn;obtain⟨r1,r2,r3⟩:=uW l _ h1 n2 (fun c hc=>by
   obtain⟨k,hk,rfl⟩:=hs c (NB _ hc);exact⟨k,(h3 k fun e=>n1 (by rw[<-e];exact hc)).2 hk,rfl⟩) (fun x hx=>by
   rw[h2.now]
   by_cases e:x.slot=f.slot
   ·have:=h4 x hx e
    exact Nt (by omega)
   ·rcases hd x ((h3 x e).1 hx)with h5|h5
    ·exact Nt h5
    ·rcases List.mem_cons.1 h5 with h6|h6
     ·exact absurd h6 e
     ·exact NF h6)
  refine⟨r1,h2.F0 r2,fun x hx=>?_⟩;have:=r3 x hx;rw[h2.now]at this;exact this
theorem tH(hf:f∈fs)(h:f.due=n):f.slot∈fK fs n:=Ri (List.mem_filter.2 ⟨hf,by simpa using h⟩)
theorem Im.Je(h:Im G)(hw:G.wnow+1=G.now)(hd:∀f∈G.fls,G.wnow<f.due) :
  Im (fk G)/\(fk G).now=G.now/\(fk G).wnow=G.now/\(fk G).cfg=G.cfg/\jQ G.liv (fk G).liv/\((∀h∈G.hea,h.out=Nw->G.now<h.till)->∀h∈(fk G).hea,h.out=Nw->G.now<h.till)/\∀f∈(fk G).fls,G.now<f.due:=by
 obtain⟨h1,h2⟩:=h.bs.IF (G.wnow+1);obtain⟨r1,r2,r3⟩:=uW (fK G.fls (G.wnow+1)) _ (h.IN (by omega)) h1 (fun s hs=>by
  obtain⟨f,hf,e,_⟩:=h2 s hs;exact⟨f,hf,e⟩) (fun f hf=>by
   have:=hd f hf
   by_cases e:f.due=G.wnow+1
   ·exact NF (tH hf e)
   ·exact Nt (by show G.now<f.due;omega))
 exact⟨r1,r2.now,r2.wnow.trans hw,r2.cfg,r2.ends,r2.out,r3⟩
structure eF(G G':Gt):Prop where
 step:aB G G'
 fls:∀f∈G'.fls,f∈G.fls
theorem eF.F0{A B C:Gt}(h:eF A B)(k:eF B C):eF A C:=⟨h.step.F0 k.step,fun f hf=>h.fls f (k.fls f hf)⟩
theorem uy:∀(l:List Tm) (G:Gt),Im G->l.Pairwise (fun a b=>a.1<b.1)->(∀t∈l,∃f∈G.fls,f.slot=t.1) ->
  Im (l.foldl bM G)/\eF G (l.foldl bM G)/\∀f∈(l.foldl bM G).fls,∀t∈l,f.slot≠t.1
 | [],G,h,_,_=>⟨h,⟨aB.Gy G,fun _ h=>h⟩,fun _ _ t ht=>by cases ht⟩
 |t::l,G,h,hn,hs=>by
  obtain⟨f,hf,e⟩:=hs t (by simp);obtain⟨hi,e1⟩:=h.bs.GG hf;have hq:bM G t=dn G f 6 2:=by unfold bM;rw[<-e,bJ hi,e1]
  have h1:Im (bM G t):=by rw[hq];exact h.Hc hf _ _
  have h2:eF G (bM G t):=by rw[hq];exact⟨aB.Hc h.bs hf _ _,fun x hx=>(pP h.bs hf _ _ x hx).1⟩
  have h3:kD G (bM G t) t.1:=by rw[hq,<-e];exact lG h.bs hf _ _
  have h4:∀x∈(bM G t).fls,x.slot≠t.1:=by rw[hq,<-e];exact fun x hx=>(pP h.bs hf _ _ x hx).2
  obtain⟨n1,n2⟩:=List.pairwise_cons.1 hn;obtain⟨r1,r2,r3⟩:=uy l _ h1 n2 fun c hc=>by
   obtain⟨k,hk,e2⟩:=hs c (NB _ hc);refine⟨k,(h3 k fun e3=>?_).2 hk,e2⟩;have:=n1 c hc;omega
  refine⟨r1,h2.F0 r2,fun x hx c hc=>?_⟩;rcases List.mem_cons.1 hc with rfl|hc
  ·exact h4 x (r2.fls x hx)
  ·exact r3 x hx c hc
theorem Bs.Jj(h:Bs G)(hf:f∈G.fls):(f.slot,f.gen)∈cz f.be G.tab:=by
 obtain⟨k,hk,e1,e2⟩:=h.slot hf;unfold cz cB;refine List.mem_map.2 ⟨k,List.mem_filter.2 ⟨by simpa using hk,?_⟩,?_⟩
 ·simp[fx,hk,e2]
 ·simp[lm,hk,e2,e1]
theorem yv(h:Im G)(l:FV):Im (dV G l)/\eF G (dV G l)/\(l.2.1=3->l.2.2.2.2.1<=G.now->∀f∈(dV G l).fls,f.be≠l.1):=by
 unfold dV
 split
 ·rename_i hc
  refine⟨h,⟨aB.Gy G,fun _ h=>h⟩,fun h3 hu=>?_⟩;rcases hc with hc|hc
  ·exact absurd h3 hc
  ·omega
 ·obtain⟨h1,h2⟩:=h.bs.IW l.1
  obtain⟨r1,r2,r3⟩:=uy (cz l.1 G.tab) G h h1 fun t ht=>by
   obtain⟨f,hf,e,_⟩:=h2 t ht;exact⟨f,hf,e⟩
  refine⟨r1,r2,fun _ _ f hf e=>?_⟩;have:=h.bs.Jj (r2.fls f hf);rw[e]at this;exact r3 f hf _ this rfl
theorem Kr:∀(L:List FV) (G:Gt),Im G->Im (L.foldl dV G)/\eF G (L.foldl dV G)/\∀l∈L,l.2.1=3->l.2.2.2.2.1<=G.now->∀f∈(L.foldl dV G).fls,f.be≠l.1
 | [],G,h=>⟨h,⟨aB.Gy G,fun _ h=>h⟩,fun _ hl=>by cases hl⟩
 |l::L,G,h=>by
  obtain⟨h1,h2,h3⟩:=yv h l;obtain⟨r1,r2,r3⟩:=Kr L _ h1;refine⟨r1,h2.F0 r2,fun x hx=>?_⟩;rcases List.mem_cons.1 hx with rfl|hx
  ·exact fun h4 h5 f hf=>h3 h4 h5 f (r2.fls f hf)
  ·intro h4 h5
   exact r3 x hx h4 (by rw[h2.step.now];exact h5)
theorem Im.Mq(h:Im G):Im (qU G)/\eF G (qU G)/\∀l∈(qU G).liv,l.2.1=3->G.now<l.2.2.2.2.1:=by
 obtain⟨r1,r2,r3⟩:=Kr G.liv G h;refine⟨r1,r2,fun l hl h3=>?_⟩
 by_cases hlt:G.now<l.2.2.2.2.1
 ·exact hlt
 ·have hm:=r2.step.ends l hl h3
  obtain⟨f,hf,e⟩:=lP.1 (r1.drn l hl h3);exact absurd e (r3 l hm h3 (by omega) f hf)
theorem yj(h:Bs G):(eE G).now=G.now/\(eE G).wnow=G.wnow/\(eE G).fls=G.fls/\(eE G).cfg=G.cfg/\(eE G).out=G.out/\(eE G).tab=G.tab/\(eE G).tok=G.tok/\(eE G).liv=G.liv.map (aY G.now):=by
 rw[nf h];obtain⟨s1,s2,s3,s4,s5,s6,s7,s8,_⟩:=qH (bv G.liv) {G with liv:=G.liv.map (aY G.now)};exact⟨s2,s1,s3,s7,s6,s5,s8,s4⟩
theorem Wm.I6(h:Wm G)(hn:G.now+1<=1099511626776):Wm (mK G)/\(mK G).now=G.now+1/\(mK G).cfg=G.cfg:=by
 have h1:=h.im.next hn;obtain⟨s1,s2,s3,s4,_⟩:=yj h1.bs;have h2:=h1.Jf;have h3:=h2.I2;have hnow:(lU (eE {G with now:=G.now+1})).now=G.now+1:=s1;have hwn:(lU (eE {G with now:=G.now+1})).wnow=G.now:=s2.trans h.wnow;obtain⟨g1,g2,g3,g4,g5,g6,g7⟩:=h3.Je (by rw[hwn,hnow]) (fun f hf=>by
  have hf:f∈(eE {G with now:=G.now+1}).fls:=hf;rw[s3]at hf;rw[hwn];exact h.due f hf)
 obtain⟨c1,c2,c3⟩:=g1.Mq;have hN:(fk (lU (eE {G with now:=G.now+1}))).now=G.now+1:=g2.trans hnow;have hT:(mK G).now=G.now+1:=c2.step.now.trans hN;refine⟨⟨c1,?_,fun f hf=>?_,fun l hl h4=>?_,fun x hx ho=>?_⟩,hT,c2.step.cfg.trans (g4.trans s4)⟩
 ·rw[hT]
  exact c2.step.wnow.trans (g3.trans hnow)
 ·rw[hT]
  have:=g7 f (c2.fls f hf);rw[hnow]at this;exact this
 ·rw[hT]
  have:=c3 l hl h4;rw[hN]at this;exact this
 ·rw[hT]
  have k1:=c2.step.out;rw[hN]at k1;rw[hnow]at g6;have k2:=KZ (G:=eE {G with now:=G.now+1}) h2.bs;rw[hnow]at k2;exact k1 (g6 k2) x hx ho
end
section
variable {G:Gt}
theorem Wm.of(h:Wm G){G':Gt}(im:Im G')(st:aB G G')(hd:∀f∈G'.fls,G.now<f.due):Wm G' :=
 ⟨im,by rw[st.wnow,st.now];exact h.wnow,by rw[st.now];exact hd,fun l hl h3=>by rw[st.now];exact h.till l (st.ends l hl h3) h3,by rw[st.now];exact st.out h.out⟩
theorem Wm.Jh(h:Wm G)(o:List Ou):Wm {G with out:=o}:=⟨⟨h.im.bs.Jh o,h.im.be,h.im.ring,h.im.drn,h.im.hi⟩,h.wnow,h.due,h.till,h.out⟩
theorem Wm.GT(h:Wm G)(o:Ou):Wm (ge G o):=h.Jh _
theorem Wm.Hc(h:Wm G)(hf:f∈G.fls)(kind why:Int):Wm (dn G f kind why):=
 h.of (h.im.Hc hf _ _) (aB.Hc h.im.bs hf _ _) fun x hx=>h.due x (pP h.im.bs hf _ _ x hx).1
theorem Wm.I8(h:Wm G)(hi:i<G.fls.length)(why:Int):Wm (dP G i why):=by
 refine h.of (h.im.I8 hi _) (aB.I8 h.im.bs hi _) fun x hx=>?_
 by_cases e:x.slot=G.fls[i].slot
 ·have h1:=C3 h.im.bs hi why x hx e
  have h2:=h.im.bs.conn;omega
 ·exact h.due x ((Fr h.im.bs hi why x e).1 hx)
theorem Wm.Mr(h:Wm G)(hi:i<G.fls.length):Wm (mV G i):=by
 have h1:=h.im.Mr hi;have hid:=h.im.bs.idle;unfold mV at h1⊢
 split at h1
 ·rename_i hs
  rw[Nh hs];refine h.of h1 ⟨rfl,rfl,rfl,jQ.Gy _,fun ho=>ho⟩ fun x hx=>?_
  rcases iC hx with rfl|hx
  ·show G.now<G.now+G.cfg.idle;omega
  ·exact h.due x hx
 ·rename_i hs
  rw[Nf hs];exact h.GT _
theorem Wm.Mu(h:Wm G)(hi:i<G.fls.length):Wm (mX G i):=by
 have h1:=h.im.Mu hi;have hid:=h.im.bs.idle;have hf:=Nk hi;have hb:=(h.im.bs.F9 hf).2.2.2;have hst:=aB.GA h.im.bs hb Nb;unfold mX at h1⊢;simp only[bJ hi]at h1⊢;refine h.of h1 ⟨rfl,rfl,rfl,jQ.Gy _,hst.out⟩ fun x hx=>?_
 have hx:x∈(G.fls.set i _).set i _:=hx;rcases iC hx with rfl|hx
 ·show G.now<G.now+G.cfg.idle;omega
 ·rcases iC hx with rfl|hx
  ·exact h.due G.fls[i] hf
  ·exact h.due x hx
theorem Wm.Mz(h:Wm G)(e:Ev):Wm (mW G e):=by
 unfold mW;simp only[]
 split
 ·exact h.GT _
 ·rename_i hc
  have hc:(cC G.tab e.slot e.gen).2=0:=by
   by_cases e':(cC G.tab e.slot e.gen).2=0
   ·exact e'
   ·exact absurd e' hc
  obtain⟨f,hf,e1,e2⟩:=h.im.bs.Jv hc;rw[<-e1];obtain⟨hi,e3⟩:=h.im.bs.GG hf
  split
  ·rw[bJ hi,e3]
   exact h.Hc hf _ _
  ·split
   ·exact h.Mr hi
   ·split
    ·exact h.GT _
    ·split
     ·exact h.Mu hi
     ·exact h.I8 hi _
theorem Wm.Mp(h:Wm G){key:Int}(hk:0<=key/\key<=4294967295):Wm (mA G key):=by
 have h1:=h.im.Mp hk;have hcn:=h.im.bs.conn;rcases J7 h.im.bs hk with⟨e,_⟩|⟨e,_⟩|⟨k,hlt,_,_,_,_,_,_,_,e⟩
 ·rw[e];exact h.GT _
 ·rw[e];exact h.GT _
 ·rw[e]at h1⊢
  refine h.of h1 ⟨rfl,rfl,rfl,jQ.Gy _,fun ho=>ho⟩ fun x hx=>?_
  rcases rc.1 hx with rfl|hx
  ·show G.now<G.now+G.cfg.conn;omega
  ·exact h.due x hx
theorem Wm.Ms(h:Wm G){e:Ev}(he:fB e)(h5:e.kind=5):Wm (fO G 1 e):=by
 refine h.of (h.im.Ms he h5) ⟨rfl,rfl,rfl,fun l hl h3=>?_,fun ho=>ho⟩ h.due;have hl:l∈(dJ G 1 e).1.1:=hl;rcases Cr h.im.bs he.req (Nt rfl:(1:Int)=1\/(1:Int)=2)with⟨_,q⟩|⟨_,_,q,_⟩|⟨_,k,_⟩
 ·rw[q]at hl;exact hl
 ·rw[q]at hl
  rcases Ky h.im.bs.book.1.2 he.be (he.wt h5)with⟨_,_,_,h1⟩|⟨_,e1⟩
  ·rcases h1 l hl with h1|rfl
   ·exact h1
   ·exact absurd h3 (show ¬(1:Int)=3 by decide)
  ·rw[e1]at hl;exact hl
 ·exact absurd k (by decide)
theorem Wm.Mt(h:Wm G){e:Ev}(he:fB e):Wm (nC G e):=by
 have hdr:=h.im.bs.drain;have h1:=h.im.Mt he;have hbA:=h.im.bs.Mc he.req (NF rfl:(2:Int)=1\/(2:Int)=2);have hbW:Bs {fO G 2 e with wts:=G.wts.set e.be.toNat 0}:=Bs.Jg hbA (h.im.bs.wts.F4 _ 0 (by omega) (by omega));have key:∀l∈(fO G 2 e).liv,l.2.1=3->G.now<l.2.2.2.2.1:=by
  intro l hl h3;have hl:l∈(dJ G 2 e).1.1:=hl;rcases Fq h.im.bs he.req with⟨_,q⟩|⟨_,_,_,hs,q⟩
  ·rw[q]at hl;exact h.till l hl h3
  ·rw[q]at hl
   obtain⟨x,hx,e2⟩:=EG hl;rcases e2 with rfl|rfl
   ·exact h.till _ hx h3
   ·show G.now<G.now+G.cfg.drain
    omega
 unfold nC at h1⊢
 split
 ·rename_i hy
  rw[Nh hy]at h1;exact⟨h1,h.wnow,h.due,key,h.out⟩
 ·rename_i hy
  rw[Nf hy]at h1
  split
  ·rename_i h2
   rw[Nh h2]at h1;exact⟨h1,h.wnow,h.due,key,h.out⟩
  ·rename_i h2
   rw[Nf h2]at h1;obtain⟨s1,s2,s3,s4,s5,_⟩:=ET (G:={fO G 2 e with wts:=G.wts.set e.be.toNat 0}) e.be;have hen:=wT hbW e.be;refine⟨h1,by rw[s1,s2];exact h.wnow,fun f hf=>?_,fun l hl h3=>?_,fun x hx ho=>?_⟩
   ·rw[s1];rw[s5]at hf;exact h.due f hf
   ·rw[s1];exact key l (hen l hl h3) h3
   ·rw[s1];rw[s4]at hx;exact h.out x hx ho
theorem Wm.Mm(h:Wm G){e:Ev}(he:fB e)(hn:e.kind=7->G.now+1<=1099511626776):Wm (iG G e):=by
 unfold iG
 split
 ·exact h.Mp he.key
 ·split
  ·rename_i h5
   exact h.Ms he h5
  ·split
   ·exact h.Mt he
   ·split
    ·rename_i h7
     exact(h.I6 (hn h7)).1
    ·exact h.Mz e
end
section
variable {G:Gt}
theorem tm(b:Int):(cj G b).out.length<=G.out.length+1:=by
 unfold cj
 split
 ·show(G.out++[_]).length<=_;simp
 ·omega
theorem lX(f:Fl)(kind why:Int):(dn G f kind why).out.length<=G.out.length+2:=by
 unfold dn;refine Nm (tm _) ?_;show(G.out++[_]).length+1<=_;simp
theorem Eo(i:Nat)(b:Int):(eQ G i b).out.length<=G.out.length+2:=by
 unfold eQ;refine Nm (tm _) ?_;show(G.out++[_]).length+1<=_;simp
theorem wS(i:Nat)(why:Int):(dP G i why).out.length<=G.out.length+2:=by
 unfold dP;simp only[]
 split
 ·exact lX (G:=dg G _ Nw) _ _ _
 ·split
  ·exact lX (G:=dg G _ Nw) _ _ _
  ·exact Eo (G:={dg G _ Nw with tok:=_}) _ _
theorem ux(s:Int):(bE G s).out.length<=G.out.length+2:=by
 unfold bE;simp only[]
 split
 ·exact lX _ _ _
 ·exact wS _ _
theorem un(t:Tm):(bM G t).out.length<=G.out.length+2:=lX _ _ _
theorem wA:∀(l:List Int) (G:Gt) (k:Nat),Im G->l.Nodup->(∀s∈l,∃f∈G.fls,f.slot=s)->k<=l.length ->
  Im ((l.take k).foldl bE G)/\aB G ((l.take k).foldl bE G)/\(∀s∈l.drop k,∃f∈((l.take k).foldl bE G).fls,f.slot=s)/\((l.take k).foldl bE G).out.length<=G.out.length+2*k
 |l,G,0,h,_,hs,_=>⟨h,aB.Gy G,hs,MV _⟩
 | [],G,k+1,_,_,_,hk=>by simp at hk
 |s::l,G,k+1,h,hn,hs,hk=>by
  obtain⟨f,hf,rfl⟩:=hs s (by simp);obtain⟨h1,h2,h3,_⟩:=tS h hf;obtain⟨hn1,hn2⟩:=List.nodup_cons.1 hn;obtain⟨r1,r2,r3,r4⟩:=wA l (bE G f.slot) k h1 hn2 (fun s hs'=>by
   obtain⟨x,hx,e⟩:=hs s (NB _ hs');have hne:x.slot≠f.slot:=fun e2=>hn1 (by rw[<-e2,e];exact hs')
   exact⟨x,(h3 x hne).2 hx,e⟩) (by simpa using hk)
  have ho:=ux (G:=G) f.slot;rw[PT,O4,List.drop_succ_cons];exact⟨r1,h2.F0 r2,r3,by omega⟩
theorem sK:∀(l:List Tm) (G:Gt) (k:Nat),Im G->l.Pairwise (fun a b=>a.1<b.1)->(∀t∈l,∃f∈G.fls,f.slot=t.1)->k<=l.length ->
  Im ((l.take k).foldl bM G)/\aB G ((l.take k).foldl bM G)/\(∀t∈l.drop k,∃f∈((l.take k).foldl bM G).fls,f.slot=t.1)/\((l.take k).foldl bM G).out.length<=G.out.length+2*k
 |l,G,0,h,_,hs,_=>⟨h,aB.Gy G,hs,MV _⟩
 | [],G,k+1,_,_,_,hk=>by simp at hk
 |t::l,G,k+1,h,hn,hs,hk=>by
  obtain⟨f,hf,e⟩:=hs t (by simp);obtain⟨hi,e2⟩:=h.bs.GG hf;have hc:bM G t=dn G f 6 2:=by
   unfold bM;rw[<-e,bJ hi,e2]
  have h1:Im (bM G t):=by rw[hc];exact h.Hc hf _ _
  have h2:aB G (bM G t):=by rw[hc];exact aB.Hc h.bs hf _ _
  have h3:kD G (bM G t) f.slot:=by rw[hc];exact lG h.bs hf _ _
  obtain⟨hn1,hn2⟩:=List.pairwise_cons.1 hn;obtain⟨r1,r2,r3,r4⟩:=sK l (bM G t) k h1 hn2 (fun s hs'=>by
   obtain⟨x,hx,e3⟩:=hs s (NB _ hs');have hne:x.slot≠f.slot:=fun e4=>by have:=hn1 s hs';rw[<-e,<-e3,e4]at this;omega
   exact⟨x,(h3 x hne).2 hx,e3⟩) (by simpa using hk)
  have ho:=un (G:=G) t;rw[PT,O4,List.drop_succ_cons];exact⟨r1,h2.F0 r2,r3,by omega⟩
theorem tt:∀ {l m:List Int},l.Pairwise (·<·)->m.Pairwise (·<·)->(∀x,x∈l↔x∈m)->l=m
 | [],[],_,_,_=>rfl
 | [],b::m,_,_,h=>absurd ((h b).2 (NM ..)) (by simp)
 |a::l,[],_,_,h=>absurd ((h a).1 (NM ..)) (by simp)
 |a::l,b::m,h1,h2,h=>by
  obtain⟨p1,q1⟩:=List.pairwise_cons.1 h1;obtain⟨p2,q2⟩:=List.pairwise_cons.1 h2;have e:a=b:=by
   rcases List.mem_cons.1 ((h a).1 (NM ..))with e|e
   ·exact e
   ·rcases List.mem_cons.1 ((h b).2 (NM ..))with e2|e2
    ·exact e2.symm
    ·have:=p1 b e2;have:=p2 a e;omega
  subst e;rw[tt q1 q2 fun x=>?_];constructor
  ·intro hx
   rcases List.mem_cons.1 ((h x).1 (NB _ hx))with e|e
   ·have:=p1 x hx;omega
   ·exact e
  ·intro hx
   rcases List.mem_cons.1 ((h x).2 (NB _ hx))with e|e
   ·have:=p2 x hx;omega
   ·exact e
theorem y9(h:Bs G){ls ms:List (List Tm)}{L:List Tm}(ht:∀t,t∈ls.flatten↔G.tms t)(hL:dX G.wnow ls ms L):L.map (·.2)=fK G.fls (G.wnow+1):=by
 refine tt ?_ ?_ fun x=>?_
 ·refine List.pairwise_map.2 (hL.ord.imp_of_mem fun {a b} ha hb hc=>?_)
  have e1:=((hL.off a).1 ha).2;have e2:=((hL.off b).1 hb).2;unfold ax at hc;rw[e1,e2,Nf (by omega),Nf (by omega)]at hc
  split at hc
  ·assumption
  ·split at hc <;> omega
 ·unfold fK
  exact List.pairwise_map.2 (h.Ge.filter _)
 ·constructor
  ·intro hx
   obtain⟨t,hm,rfl⟩:=List.mem_map.1 hx;obtain⟨h1,h2⟩:=(hL.off t).1 hm;obtain⟨f,hf,e,_⟩:=(h.tms t).1 ((ht t).1 h1);rw[e]at h2⊢;exact tH hf h2
  ·intro hx
   obtain⟨f,hf,rfl⟩:=List.mem_map.1 hx;obtain⟨hf,hd⟩:=List.mem_filter.1 hf;have hd:f.due=G.wnow+1:=by simpa using hd
   refine List.mem_map.2 ⟨(f.due,f.slot),(hL.off _).2 ⟨(ht _).2 ((h.tms _).2 ⟨f,hf,rfl,by omega⟩),hd⟩,rfl⟩
theorem Fe{ls ms:List (List Tm)}{L:List Tm}(ht:∀t,t∈ls.flatten↔G.tms t)(hL:dX G.wnow ls ms L)(t:Tm):t∈ms.flatten↔G.tms t/\t.1≠G.wnow+1:=(hL.left t).trans (and_congr (ht t) Iff.rfl)
end
end Go.Proofs.YtlnbhjdhcmgljaaGreatDoor.Q
