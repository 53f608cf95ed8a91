/-
  CoreIdle: what its walk leans on besides the contracts of core. Conditions: as each theorem says.
-/
import Derived.Deep.Fields
import Derived.LaidMore
import Derived.Stop.Joined
import Derived.Test.YtalhkllgnlejbaaGreatDoorQ18
namespace Go.Proofs.YtalhkllgnlejbaaGreatDoor.Q
set_option linter.unusedVariables false
set_option linter.unusedSimpArgs false
set_option maxHeartbeats 16000000
set_option maxRecDepth 100000
open Go.RowKit
attribute [local go_sem ↓] Go.wp_at_zero Go.wp_at_succ
variable {G:Gt}
section
variable {G:Gt}
theorem JD(h:Bs G):∀x∈(lU G).hea,x.out=true->(lU G).now<x.till:=by
 intro y hy ho;obtain⟨x,hx,rfl⟩:=List.mem_map.1 hy;rw[A2 h hx]at ho⊢
 split at ho
 ·exact absurd ho (show ¬false=true by decide)
 ·rename_i hn
  rw[if_neg hn];show G.now<x.till
  by_cases hlt:G.now<x.till
  ·exact hlt
  ·exact absurd ⟨ho,by omega⟩ hn
end
section
variable {G:Gt}
theorem JH:∀(L:List FV) (G:Gt),Im G->Im (L.foldl dV G)/\eF G (L.foldl dV G)/\∀l∈L,l.2.1=3->l.2.2.2.2.1<=G.now->∀f∈(L.foldl dV G).fls,f.be≠l.1
 | [],G,h=>⟨h,⟨aB.Gy G,fun _ h=>h⟩,fun _ hl=>by cases hl⟩
 |l::L,G,h=>by
  obtain⟨h1,h2,h3⟩:=yv h l;obtain⟨r1,r2,r3⟩:=JH L _ h1;refine⟨r1,h2.F0 r2,fun x hx=>?_⟩;rcases List.mem_cons.1 hx with rfl|hx
  ·exact fun h4 h5 f hf=>h3 h4 h5 f (r2.fls f hf)
  ·intro h4 h5
   exact r3 x hx h4 (by rw[h2.step.now];exact h5)
theorem Im.Kc(h:Im G):Im (qU G)/\eF G (qU G)/\∀l∈(qU G).liv,l.2.1=3->G.now<l.2.2.2.2.1:=by
 obtain⟨r1,r2,r3⟩:=JH G.liv G h;refine⟨r1,r2,fun l hl h3=>?_⟩
 by_cases hlt:G.now<l.2.2.2.2.1
 ·exact hlt
 ·have hm:=r2.step.ends l hl h3
  obtain⟨f,hf,e⟩:=lP.1 (r1.drn l hl h3);exact absurd e (r3 l hm h3 (by omega) f hf)
theorem Wm.I6(h:Wm G)(hn:G.now+1<=1099511626776):Wm (mK G)/\(mK G).now=G.now+1/\(mK G).cfg=G.cfg:=by
 have h1:=h.im.next hn;obtain⟨s1,s2,s3,s4,_⟩:=yj h1.bs;have h2:=h1.Jf;have h3:=h2.I2;have hnow:(lU (eE {G with now:=G.now+1})).now=G.now+1:=s1;have hwn:(lU (eE {G with now:=G.now+1})).wnow=G.now:=s2.trans h.wnow;obtain⟨g1,g2,g3,g4,g5,g6,g7⟩:=h3.Je (by rw[hwn,hnow]) (fun f hf=>by
  have hf:f∈(eE {G with now:=G.now+1}).fls:=hf;rw[s3]at hf;rw[hwn];exact h.due f hf)
 obtain⟨c1,c2,c3⟩:=g1.Kc;have hN:(fk (lU (eE {G with now:=G.now+1}))).now=G.now+1:=g2.trans hnow;have hT:(mK G).now=G.now+1:=c2.step.now.trans hN;refine⟨⟨c1,?_,fun f hf=>?_,fun l hl h4=>?_,fun x hx ho=>?_⟩,hT,c2.step.cfg.trans (g4.trans s4)⟩
 ·rw[hT]
  exact c2.step.wnow.trans (g3.trans hnow)
 ·rw[hT]
  have:=g7 f (c2.fls f hf);rw[hnow]at this;exact this
 ·rw[hT]
  have:=c3 l hl h4;rw[hN]at this;exact this
 ·rw[hT]
  have k1:=c2.step.out;rw[hN]at k1;rw[hnow]at g6;have k2:=JD (G:=eE {G with now:=G.now+1}) h2.bs;rw[hnow]at k2;exact k1 (g6 k2) x hx ho
end
section
variable {base:Nat}{w0 w w':World}{g:Nat}{V:Vs}{U:Us}{G:Gt}
theorem ia.Gy(B:Nat)(w:World):ia B w w:=⟨Nat.le_refl _,fun _ _ _=>rfl⟩
end
theorem J0{W a:World}(h:Below W.drew.heap.size W.drew a):Below W.heap.size W a:=⟨h.os,h.tape,h.output,h.size,h.block⟩
theorem J1{w:World}{g:Nat}{cs:List Value}{T:TypeId}(h:w.heap[g]?=some (.cells cs.toArray T (0,0))):w.rangeAt g 0 cs:=fun j v hv=>by
 rw[Nat.zero_add,cell_of_row w g j _ T (0,0) h]
 simpa using hv
theorem JX:∀(n:Int) (k:Nat),aP n (List.replicate k ((0,false,0,0):FX))=[]
 |_,0=>rfl
 |n,k+1=>by
  rw[List.replicate_succ];show(if false=true then _ else _)=_;rw[if_neg (by decide)];exact JX (n+1) k
theorem JL{c:Cf}(hc:nv c):Wm (qt c):=by
 have hb:=hc.2.2.2.2.2.2.2.2.2.2.1;have hw:=hc.2.2.2.2.2.2.2.2.2.2.2;have hmul:0<=c.bb*c.bd:=Int.mul_nonneg (by omega) (by omega);have hlen:(List.replicate c.flows.toNat ((0,false,0,0):FX)).length=c.flows.toNat:=List.length_replicate;refine⟨⟨⟨hc,⟨by show(0:Int)<=0;omega,by show(0:Int)<=1099511626776;omega⟩,⟨?_,fun t ht=>?_⟩,?_,⟨⟨by simp[qt],fun x hx=>absurd hx (by simp[qt]),by simp[qt]⟩,by simp[qt],fun x hx=>absurd hx (by simp[qt]),by simp[qt]⟩,⟨hmul,Int.le_refl _⟩,List.length_replicate,fun h hh=>?_,?_,fun f hf=>absurd hf (by simp[qt]),fun l hl=>absurd hl (by simp[qt]),tu,⟨Int.le_refl _,Int.le_refl _⟩,fun t=>⟨fun h=>absurd h (by simp[qt]),fun⟨f,hf,_⟩=>absurd hf (by simp[qt])⟩⟩,fun f hf=>absurd hf (by simp[qt]),fun b hb=>?_,fun l hl=>absurd hl (by simp[qt]),fun f hf=>absurd hf (by simp[qt])⟩,rfl,fun f hf=>absurd hf (by simp[qt]),fun l hl=>absurd hl (by simp[qt]),fun h hh ho=>?_⟩
 ·show _<=_/\_<=_
  simp only[qt,hlen];omega
 ·have ht:t=(0,false,0,0):=List.eq_of_mem_replicate ht
  subst ht
  decide
 ·show((List.replicate c.flows.toNat ((0,false,0,0):FX)).length:Int)=c.flows
  rw[hlen];omega
 ·have hh:h=bm:=List.eq_of_mem_replicate hh
  subst hh;exact⟨by show((0:Nat):Int)<=c.wn;omega,by decide,by decide,.inr rfl⟩
 ·show([]:List Fl).map Fl.F8=aP 0 (List.replicate c.flows.toNat ((0,false,0,0):FX))
  rw[JX];rfl
 ·show(List.replicate 12 (0:Int)).getD b 0=if aA [] (b:Int)=2 then _ else 0
  rw[if_neg (show ¬aA [] (b:Int)=2 from by show ¬(0:Int)=2;decide),List.getD_eq_getElem?_getD,List.getElem?_replicate]
  split <;> rfl
 ·have hh:h=bm:=List.eq_of_mem_replicate hh
  subst hh;cases ho
def JM(c:Cf)(n:Int):Gt:={qt c with now:=n,wnow:=n}
def JK:Ev:=⟨7,0,0,0,false,0,0,0⟩
def JJ(k:Int):Ev:=⟨1,k,0,0,false,0,0,0⟩
theorem JQ(c:Cf):JM c 0=qt c:=rfl
theorem JZ(n:Int):(gB [] [] n).1=([],[])/\(gB [] [] n).2.1=[]:=by
 unfold gB
 split
 ·split <;> exact⟨rfl,rfl⟩
 ·exact⟨rfl,rfl⟩
theorem JC(G:Gt):gK G bm=bm:=by
 unfold gK da
 split
 ·rw[if_neg (fun h=>absurd h.1 (by decide))]
  rfl
 ·rfl
theorem JO(c:Cf)(n:Int):iG (JM c n) JK=JM c (n+1):=by
 show mK (JM c n)=_;have h1:eE {JM c n with now:=n+1}={JM c n with now:=n+1}:=by
  unfold eE;show List.foldl cV {JM c n with now:=n+1,liv:=(gB [] [] (n+1)).1.1,req:=(gB [] [] (n+1)).1.2} (gB [] [] (n+1)).2.1=_;rw[(JZ (n+1)).2,(JZ (n+1)).1];rfl
 have h2:lU {JM c n with now:=n+1}={JM c n with now:=n+1}:=by
  unfold lU;have:(JM c n).hea.map (gK {JM c n with now:=n+1})=(JM c n).hea:=by
   show(List.replicate 12 bm).map _=List.replicate 12 bm;rw[List.map_replicate,JC]
  show Gt.mk _ _ _ _ _ _ _ ((JM c n).hea.map (gK {JM c n with now:=n+1})) _ _ _ _=_;rw[this]
 unfold mK;show qU (fk (lU (eE {JM c n with now:=n+1})))=_;rw[h1,h2];show({JM c (n+1)with tms:=fun t=>False/\t.1≠n+1}:Gt)=JM c (n+1);have:(fun t:Tm=>False/\t.1≠n+1)=fun _=>False:=by
  funext t
  exact propext ⟨fun h=>h.1,fun h=>h.elim⟩
 rw[this];rfl
theorem JN{c:Cf}(hc:nv c)(n k:Int):iG (JM c n) (JJ k)=kY (JM c n) 2 11:=by
 have hf:=hc.1;have hd:=hc.2.1;have hnum:=hc.2.2.1;have htr:=hc.2.2.2.1;show mA (JM c n) k=_;unfold mA;have h1:¬(JM c n).tab.any eu=false:=by
  show ¬(List.replicate c.flows.toNat ((0,false,0,0):FX)).any eu=false;obtain⟨m,hm⟩:∃m,c.flows.toNat=m+1:=⟨c.flows.toNat-1,by omega⟩;rw[hm,List.replicate_succ,List.any_cons];intro h;rw[show eu ((0,false,0,0):FX)=true from rfl,Bool.true_or]at h;cases h
 have hw:pR (JM c n) k=[]:=by
  show ie (ao (List.replicate 12 0)) _=[];rw[sN];rfl
 have h2:dL (JM c n) k (JM c n).fls=(0,11):=by
  unfold dL;rw[hw];show gY [] [] c.num c.den ((0:Nat):Int) c.tries=(0,11);unfold gY;rw[if_pos (by rfl),if_pos ⟨⟨hd.1,hd.2,hnum⟩,by omega,by omega⟩,if_pos ⟨htr.1,htr.2,by simp⟩];rfl
 rw[if_neg h1];show(if(dL (JM c n) k (JM c n).fls).2≠0 then _ else _)=_;rw[h2,if_pos (by decide)]
theorem JP{c:Cf}(hc:nv c)(n:Nat)(hn:(n:Int)<=1000000):Wm (JM c n):=by
 induction n with
 |zero =>
  rw[show((0:Nat):Int)=0 from rfl,JQ];exact JL hc
 |succ n ih =>
  have ih:=ih (by omega);have h:=ih.I6 (show(n:Int)+1<=1099511626776 by omega);have e:mK (JM c n)=JM c ((n:Int)+1):=JO c n;rw[e]at h;rw[show((n+1:Nat):Int)=(n:Int)+1 by omega];exact h.1
theorem JF(f:Nat->Int)(hf:∀i,i<16->(Lit.int .i64 (f i)).wf=true):∃c:Cf,nv c/\∀w,Calls Tryz.prog 22 #[BD (f 0) (f 1) (f 2) (f 3) (f 4) (f 5) (f 6) (f 7) (f 8) (f 9) (f 10) (f 11) (f 12) (f 13) (f 14) (f 15)] w fun r w'=>r=.returned (sE c)/\Below w.heap.size w w':=by
 obtain⟨c,hc,h⟩:=FS (f 0) (f 1) (f 2) (f 3) (f 4) (f 5) (f 6) (f 7) (f 8) (f 9) (f 10) (f 11) (f 12) (f 13) (f 14) (f 15) (hf 0 (by omega)) (hf 1 (by omega)) (hf 2 (by omega)) (hf 3 (by omega)) (hf 4 (by omega)) (hf 5 (by omega)) (hf 6 (by omega)) (hf 7 (by omega)) (hf 8 (by omega)) (hf 9 (by omega)) (hf 10 (by omega)) (hf 11 (by omega)) (hf 12 (by omega)) (hf 13 (by omega)) (hf 14 (by omega)) (hf 15 (by omega));exact⟨⟨c.flows,c.num,c.den,c.tries,c.warm,c.drain,c.idle,c.conn,c.ret,c.most,c.bn,c.bd,c.bb,c.wn,c.wf,c.wh⟩,hc.ok,h⟩
def JB(w:World)(M:List Value)(G:Gt):Prop:=∃U,M=(ef U G).toList/\aF w U G
theorem JB.len{w:World}{M:List Value}(h:JB w M G):M.length=26:=by
 obtain⟨U,rfl,_⟩:=h;rfl
theorem JB.Jo{w:World}{M:List Value}(h:JB w M G):M.toArray.all (·.oneCell')=true:=by
 obtain⟨U,rfl,_⟩:=h;exact rS U G
theorem JB.now{w:World}{M:List Value}(h:JB w M G):M[16]?=some (.int .i64 G.now):=by
 obtain⟨U,rfl,_⟩:=h;rfl
theorem JB.fls{w:World}{M:List Value}(h:JB w M G):∃p c,M[18]?=some (.slice p G.fls.length c):=by
 obtain⟨U,rfl,_⟩:=h;exact⟨_,_,rfl⟩
section
variable {c:Cf}
theorem JE(hc:nv c)(w:World):Calls Tryz.prog 21 #[sE c] w fun r w'=>∃M:List Value,r=.returned (.tuple #[.agg M.toArray,.int .i64 0])/\(∀W,ia w.heap.size w' W->JB W M (qt c))/\Below w.heap.size w w':=by
 refine(FT c hc w).mono ?_;rintro r w' ⟨U,rfl,h,hb⟩;exact⟨(ef U (qt c)).toList,rfl,fun W hW=>⟨U,rfl,h W hW⟩,hb⟩
theorem JI{w:World}{M:List Value}(h:JB w M G)(hwm:Wm G)(hblk:aK w)(hout:G.out=[])(e:Ev)(hf:gq e=0)(hn:e.kind=7->G.now+1<=1099511626776):
  Calls Tryz.prog 24 #[.agg M.toArray,kI e] w fun r w'=>∃(M':List Value) (po:Option Addr) (co:Nat),r=.returned (.tuple #[.agg M'.toArray,.slice po (iG G e).out.length co,.int .i64 0])/\(∀W,ia w.heap.size w' W->JB W M' (iG G e)/\bj gT W (.slice po (iG G e).out.length co) (iG G e).out)/\Below w.heap.size w w':=by
 obtain⟨U,rfl,hU⟩:=h;refine(FU hU hwm hblk hout e hf hn).mono ?_;rintro r w' ⟨U',po,co,rfl,hA,hb⟩;exact⟨(ef U' (iG G e)).toList,po,co,rfl,fun W hW=>⟨⟨U',rfl,(hA W hW).1⟩,(hA W hW).2⟩,hb⟩
theorem JY(hc:nv c){w:World}{M:List Value}{n:Nat}(h:JB w M (JM c n))(hblk:aK w)(hn:n<=1000) :
  Calls Tryz.prog 24 #[.agg M.toArray,kI JK] w fun r w'=>∃(M':List Value) (po:Option Addr) (co:Nat),r=.returned (.tuple #[.agg M'.toArray,.slice po 0 co,.int .i64 0])/\(∀W,ia w.heap.size w' W->JB W M' (JM c ((n+1:Nat):Int)))/\Below w.heap.size w w':=by
 refine(JI h (JP hc n (by omega)) hblk rfl JK (by decide) (fun _=>by show(n:Int)+1<=_;omega)).mono ?_;rintro r w' ⟨M',po,co,rfl,hA,hb⟩;rw[JO]at hA⊢;exact⟨M',po,co,rfl,fun W hW=>(hA W hW).1,hb⟩
abbrev JV:Ou:=⟨2,0,0,0,0,11,0⟩
theorem JU(hc:nv c){w:World}{M:List Value}{n k:Nat}(h:JB w M (JM c n))(hblk:aK w)(hn:n<=1000)(hk:k<4294967296) :
  Calls Tryz.prog 24 #[.agg M.toArray,kI (JJ k)] w fun r w'=>∃(M':List Value) (po:Option Addr) (co:Nat) (p:Option Addr) (q:Nat),r=.returned (.tuple #[.agg M'.toArray,.slice po 1 co,.int .i64 0])/\M'.length=26/\M'.toArray.all (·.oneCell')=true/\M'[16]?=some (.int .i64 (n:Int))/\M'[18]?=some (.slice p 0 q)/\(∀W,ia w.heap.size w' W->bj gT W (.slice po 1 co) [JV])/\Below w.heap.size w w':=by
 have hf:gq (JJ k)=0:=by
  show(if([⟨1,0,4294967295⟩]:List ay).all (JJ k).GZ then(if(JJ k).GE [⟨1,0,4294967295⟩]then(0:Int)else 3)else 2)=0;rw[if_pos,if_pos]
  ·rfl
  ·show((decide ((0:Int)<=k/\(k:Int)<=4294967295)) && true)=true
   rw[Bool.and_true,decide_eq_true_iff];omega
 refine(JI h (JP hc n (by omega)) hblk rfl (JJ k) hf (fun h=>absurd h (by show ¬(1:Int)=7;decide))).mono ?_;rintro r w' ⟨M',po,co,rfl,hA,hb⟩;rw[JN hc]at hA⊢;obtain⟨h1,h2⟩:=hA w' (ia.Gy _ _);obtain⟨p,q,h3⟩:=h1.fls;exact⟨M',po,co,p,q,rfl,h1.len,h1.Jo,h1.now,h3,fun W hW=>(hA W hW).2,hb⟩
end
theorem JR:(Tryz.prog.info? 24).map (·.size)=some 16:=by kernel_rfl
theorem JW{w:World}{g:Nat}{cs:List Value}{T:TypeId}(h:w.heap[g]?=some (.cells cs.toArray T (0,0))):w.rangeAt g 0 cs:=J1 h
structure Jz(w W:World)(g:Nat)(M:List Value)(c:Cf)(n:Nat):Prop where
 box:W.heap[g]?=some (.cells M.toArray 49 (0,0))
 lie:JB W M (JM c n)
 old:w.heap.size<=g
 below:Below w.heap.size w W
 blk:aK W
theorem Jz.on{w W Y:World}{g:Nat}{M:List Value}{c:Cf}{n:Nat}(h:Jz w W g M c n)(hb:Below W.heap.size W Y):Jz w Y g M c n:=by
 obtain⟨U,e,hU⟩:=h.lie;exact⟨af h.box hb,⟨U,e,hU.below hb⟩,h.old,h.below.trans (hb.mono h.below.size),h.blk.below hb⟩
theorem JT{B g:Nat}{w5 Y:World}{M:List Value}(h:ia B w5 Y)(hg:g<B\/w5.heap.size<=g):ia B w5 (Y.setCells g 0 M):=
 ⟨by rw[nj];exact h.1,fun b q1 q2=>(World.heap_setCells_other Y g 0 M (Nat.lt_of_lt_of_le q2 h.1) (by omega)).trans (h.2 b q1 q2)⟩
structure JA(W Y:World)(g:Nat)(M:List Value)(n:Nat)(po:Option Addr)(co:Nat):Prop where
 box:Y.heap[g]?=some (.cells M.toArray 49 (0,0))
 now:M[16]?=some (.int .i64 (n:Int))
 fls:∃p q,M[18]?=some (.slice p 0 q)
 out:bj gT Y (.slice po 1 co) [JV]
 below:Below W.heap.size W Y
theorem JG(f:Nat->Int)(hf:∀i,i<16->(Lit.int .i64 (f i)).wf=true)(t k:Int)(ht:(Lit.int .i64 t).wf=true)(hk:(Lit.int .i64 k).wf=true)(w:World)(hblk:aK w) :
  Calls Tryz.prog 3 #[BD (f 0) (f 1) (f 2) (f 3) (f 4) (f 5) (f 6) (f 7) (f 8) (f 9) (f 10) (f 11) (f 12) (f 13) (f 14) (f 15),.int .i64 t,.int .i64 k] w fun r w'=>r=.returned (.bool true)/\Below w.heap.size w w':=by
 obtain⟨c,hc,hcon⟩:=JF f hf;obtain⟨n,hn,hpn⟩:=eW t 60 ht (by omega) (by omega);obtain⟨q,hq,hpq⟩:=eW k 4294967296 hk (by omega) (by omega);obtain⟨L,hL⟩:∃L:List Value,L=[.int .i64 (f 0),.int .i64 (f 1),.int .i64 (f 2),.int .i64 (f 3),.int .i64 (f 4),.int .i64 (f 5),.int .i64 (f 6),.int .i64 (f 7),.int .i64 (f 8),.int .i64 (f 9),.int .i64 (f 10),.int .i64 (f 11),.int .i64 (f 12),.int .i64 (f 13),.int .i64 (f 14),.int .i64 (f 15)]:=⟨_,rfl⟩;have hLl:L.length=16:=by rw[hL];rfl
 obtain⟨K,hK⟩:∃K:List Value,K=[.int .i64 c.flows,.int .i64 c.num,.int .i64 c.den,.int .i64 c.tries,.int .i64 c.warm,.int .i64 c.drain,.int .i64 c.idle,.int .i64 c.conn,.int .i64 c.ret,.int .i64 c.most,.int .i64 c.bn,.int .i64 c.bd,.int .i64 c.bb,.int .i64 c.wn,.int .i64 c.wf,.int .i64 c.wh]:=⟨_,rfl⟩;have HC:Hid (∀W:World,Calls Tryz.prog 22 #[.agg L.toArray] W fun r w'=>r=.returned (.agg K.toArray)/\Below W.heap.size W w'):=fun W=>by rw[hL,hK];exact hcon W
 have HB:Hid (∀W:World,Calls Tryz.prog 21 #[.agg K.toArray] W _):=fun W=>by rw[hK];exact JE hc W
 have HN:Hid (∀W,Calls Tryz.prog 23 #[.int .i64 t,.int .i64 60] W fun r w'=>r=.returned (.int .i64 (n:Int))/\w'=W):=hpn;have HQ:Hid (∀W,Calls Tryz.prog 23 #[.int .i64 k,.int .i64 4294967296] W fun r w'=>r=.returned (.int .i64 (q:Int))/\w'=W):=hpq;show Calls Tryz.prog 3 #[.agg (List.toArray [.int .i64 (f 0),.int .i64 (f 1),.int .i64 (f 2),.int .i64 (f 3),.int .i64 (f 4),.int .i64 (f 5),.int .i64 (f 6),.int .i64 (f 7),.int .i64 (f 8),.int .i64 (f 9),.int .i64 (f 10),.int .i64 (f 11),.int .i64 (f 12),.int .i64 (f 13),.int .i64 (f 14),.int .i64 (f 15)]),.int .i64 t,.int .i64 k] w _;rw[<-hL];have HI:Hid (_/\_/\_/\_):=⟨hLl,hc,hq,hblk.lt⟩;obtain⟨Z,hZ⟩:∃Z:List Value,Z=wz:=⟨_,rfl⟩;have HZ:Hid _:=hZ;obtain⟨W0,hW0⟩:∃W0,W0=w.alloc (.cells L.toArray 24):=⟨_,rfl⟩;have hb0:Below w.heap.size w W0:=by rw[hW0];exact ai w
 have H0:Hid (_/\_):=⟨hb0,hblk.below hb0⟩;clear hL hLl hcon hc hf hb0 hK hpn hpq hq hblk hZ ht hk;go_enter Tryz.func3,Tryz.ntmps3
 go_wp2_with ((with_reducible refine wpList_load_mid rfl 24 (.tmp 3) rfl w.heap.size 0 ?gx L _ ?gc Tryz.underlying24 ?gd ?gi ?_);(case gx=>rfl);(case gc=>exact JW (heap_alloc_new _ _));(case gd=>rfl);(case gi=>rw[HI.out.1];exact JR))
 rw[<-hW0];clear hW0;refine(HC.out _).mono ?_;rintro r w1 ⟨rfl,hb1⟩
 go_wp2_with fail
 refine(HB.out _).mono ?_;rintro r w2 ⟨M,rfl,hM,hb2⟩;have hb12:=(H0.out.1.trans (hb1.mono H0.out.1.size)).trans (hb2.mono (Nat.le_trans H0.out.1.size hb1.size));obtain⟨W2,hW2⟩:∃W2,W2=(w2.alloc (.cells Z.toArray 49)).setCells w2.heap.size 0 M:=⟨_,rfl⟩;have hZ2:(w2.alloc (.cells Z.toArray 49)).heap[w2.heap.size]?=some (.cells Z.toArray 49 (0,0)):=heap_alloc_new _ _;have hMl:=(hM w2 (ia.Gy _ _)).len;have hMo:=(hM w2 (ia.Gy _ _)).Jo;have hbW2:Below w2.heap.size w2 W2:=by rw[hW2];exact tW (ai w2) (Nat.le_refl _) _ _ (by simp)
 have hbb:=hb12.trans (hbW2.mono hb12.size);have hK2:ia w1.heap.size w2 W2:=⟨hbW2.size,fun b _ h=>hbW2.block b h⟩;have H2:Hid (Jz w W2 w2.heap.size M c 0):=⟨by rw[hW2];exact uQ hZ2 (by rw[hMl,HZ.out];rfl),hM W2 hK2,hb12.size,hbb,(H0.out.2.below (hb1.trans (hb2.mono hb1.size))).below hbW2⟩;have hth:(w2.alloc (.cells Z.toArray 49)).there w2.heap.size 0 M.toArray.size:=by
  have:=sF hZ2;have hsz:M.toArray.size=26:=(show M.toArray.size=M.length from List.size_toArray).trans hMl;rw[hsz];rw[show Z.length=26 by rw[HZ.out];rfl]at this;exact this
 have HS:Hid (_/\_/\_/\_):=⟨hth,hMl,hMo,hW2⟩;clear hb1 hb2 hb12 hW2 hZ2 hMl hMo hbW2 hbb hK2 hM hth H0
 go_wp2_with ((with_reducible refine wpList_store_mid rfl 49 (.tmp 7) (.tmp 21) rfl w2.heap.size 0 M.toArray ?sx ?sy ?st ?si ?s1 ?_);(case sx=>rfl);(case sy=>rfl);(case st=>first|exact HS.out.1|(have h:=HS.out.1;rw[HZ.out]at h;exact h));(case si=>rw[List.size_toArray,HS.out.2.1];exact iN);(case s1=>exact HS.out.2.2.1);rw[List.toList_toArray])
 have hW:(w2.alloc (.cells wz.toArray 49)).setCells w2.heap.size 0 M=W2:=by
  have h:=HS.out.2.2.2;rw[HZ.out]at h;exact h.symm
 refine Calls.mono (w:=(w2.alloc (.cells wz.toArray 49)).setCells w2.heap.size 0 M) (by rw[hW];exact HN.out W2) ?_;rintro r w3 ⟨rfl,rfl⟩;clear hW HS HN HB HC
 go_wp2_with fail
 go_loopw [10] (fun i wr=>∃(j:Nat) (M':List Value),i=.int .i64 (j:Int)/\j<=n/\Hid (Jz w wr w2.heap.size M' c j)) (fun i _=>n-(intOf i).toNat)
 case atStart=>exact⟨0,M,rfl,Nat.zero_le _,H2⟩
 case round =>
  obtain⟨j,M',rfl,hj,HI2⟩:=hrel;obtain⟨W,hW⟩:∃W,W=wr:=⟨_,rfl⟩;subst hW
  by_cases hlt:j<n
  ·have hjI:(j:Int)<(n:Int):=by omega
   have HT:Hid _:=JY HI.out.2.1 HI2.out.lie HI2.out.blk (by omega)
   go_wp2_with ((with_reducible refine wpList_load_mid rfl 49 (.tmp 7) rfl w2.heap.size 0 ?gx M' _ ?gc Tryz.underlying49 ?gd ?gi ?_);(case gx=>rfl);(case gc=>exact JW HI2.out.box);(case gd=>rfl);(case gi=>rw[HI2.out.lie.len];exact iN))
   refine Calls.mono HT.out ?_;rintro r w4 ⟨M4,po,co,rfl,hA,hb4⟩;have hZ4:(w4.alloc (.cells Z.toArray 49)).heap[w4.heap.size]?=some (.cells Z.toArray 49 (0,0)):=heap_alloc_new _ _;have hl4:=(hA w4 (ia.Gy _ _)).len;have ho4:=(hA w4 (ia.Gy _ _)).Jo;have hs4:M4.toArray.size=26:=(show M4.toArray.size=M4.length from List.size_toArray).trans hl4;have hsz:Z.length=26:=by rw[HZ.out];rfl
   obtain⟨W4,hW4⟩:∃W4,W4=(w4.alloc (.cells Z.toArray 49)).setCells w4.heap.size 0 M4:=⟨_,rfl⟩;have hbW4:Below w4.heap.size w4 W4:=by rw[hW4];exact tW (ai w4) (Nat.le_refl _) _ _ (by simp)
   have hG4:W4.heap[w4.heap.size]?=some (.cells M4.toArray 49 (0,0)):=by rw[hW4];exact uQ hZ4 (by rw[hl4,hsz])
   have hbb:=hb4.trans (hbW4.mono hb4.size);have hG7:W4.heap[w2.heap.size]?=some (.cells M'.toArray 49 (0,0)):=af HI2.out.box hbb;obtain⟨W5,hW5⟩:∃W5,W5=W4.setCells w2.heap.size 0 M4:=⟨_,rfl⟩;have h2W:w2.heap.size<W.heap.size:=(Array.getElem?_eq_some_iff.1 HI2.out.box).1;have hbW:Below w.heap.size w W4:=HI2.out.below.trans (hbb.mono HI2.out.below.size);have hW5s:W5.heap.size=W4.heap.size:=by rw[hW5];simp
   have hoth:∀b,b<W4.heap.size->b≠w2.heap.size->W5.heap[b]?=W4.heap[b]?:=fun b hl hb=>by rw[hW5];exact World.heap_setCells_other W4 _ _ _ hl hb
   have HN5:Hid (Jz w W5 w2.heap.size M4 c (j+1)):=by
    refine⟨by rw[hW5];exact uQ hG7 (by rw[HI2.out.lie.len,hl4]),hA W5 ⟨by rw[hW5s];exact hbW4.size,fun b h1 h2=>?_⟩,HI2.out.old,?_,?_⟩
    ·rw[hoth b (Nat.lt_of_lt_of_le h2 hbW4.size) (by omega)]
     exact hbW4.block b h2
    ·rw[hW5]
     exact tW hbW HI2.out.old _ _ hbW.size
    ·exact(HI2.out.blk.below hbb).Gf (hoth 0 (HI2.out.blk.below hbb).lt (by have:=HI2.out.old;have:=HI.out.2.2.2;omega))
   have hth4:(w4.alloc (.cells Z.toArray 49)).there w4.heap.size 0 M4.toArray.size:=by
    have:=sF hZ4;rw[hs4,<-hsz];exact this
   have hth7:W4.there w2.heap.size 0 M4.toArray.size:=by
    have:=sF hG7;rw[hs4,<-HI2.out.lie.len];exact this
   have HS4:Hid (_/\_/\_/\_/\_/\_/\_):=⟨hth4,hl4,ho4,hW4,hth7,hG4,hW5⟩;clear hA hb4 hZ4 hl4 ho4 hs4 hsz hW4 hbW4 hG4 hbb hG7 hW5 h2W hbW hW5s hoth hth4 hth7 HT
   go_wp2_with (first|((with_reducible refine wpList_store_mid rfl 49 (.tmp 11) (.tmp 36) rfl w4.heap.size 0 M4.toArray ?sx ?sy ?st ?si ?s1 ?_);(case sx=>rfl);(case sy=>rfl);(case st=>(have h:=HS4.out.1;rw[HZ.out]at h;exact h));(case si=>rw[List.size_toArray,HS4.out.2.1];exact iN);(case s1=>exact HS4.out.2.2.1);rw[List.toList_toArray,show(w4.alloc (.cells wz.toArray 49)).setCells w4.heap.size 0 M4=W4 from(by have h:=HS4.out.2.2.2.1;rw[HZ.out]at h;exact h.symm)])|((with_reducible refine wpList_load_mid rfl 49 (.tmp 11) rfl w4.heap.size 0 ?gx M4 _ ?gc Tryz.underlying49 ?gd ?gi ?_);(case gx=>rfl);(case gc=>exact JW HS4.out.2.2.2.2.2.1);(case gd=>rfl);(case gi=>rw[HS4.out.2.1];exact iN))|((with_reducible refine wpList_store_mid rfl 49 (.tmp 7) (.tmp 46) rfl w2.heap.size 0 M4.toArray ?sx ?sy ?st ?si ?s1 ?_);(case sx=>rfl);(case sy=>rfl);(case st=>exact HS4.out.2.2.2.2.1);(case si=>rw[List.size_toArray,HS4.out.2.1];exact iN);(case s1=>exact HS4.out.2.2.1);rw[List.toList_toArray,<-HS4.out.2.2.2.2.2.2]))
   go_roundw
   case rel=>exact⟨j+1,M4,by go_num,hlt,HN5⟩
   case measure=>simp[intOf];omega
  ·obtain rfl:j=n:=by omega
   have hjI:¬(j:Int)<(j:Int):=by omega
   go_wp2_with fail
   apply gU
   ·intro KEY
    obtain⟨W3,hW3⟩:∃W3,W3=W.drew:=⟨_,rfl⟩;have hI3:Jz w W3 w2.heap.size M' c j:=by rw[hW3];exact HI2.out.on (Below.refl _ _).drew
    have hB3:Below W.heap.size W W3:=by rw[hW3];exact(Below.refl _ _).drew
    have HB3:Hid _:=hB3;obtain⟨S,hS,hSo,hS3⟩:∃S:World->Prop,(∀X,S X->Jz w X w2.heap.size M' c j)/\(∀X,Jz w X w2.heap.size M' c j->S X)/\S W.drew:=⟨fun X=>Jz w X w2.heap.size M' c j,fun _ h=>h,fun _ h=>h,by rw[<-hW3];exact hI3⟩;have HSS:Hid (_/\_):=⟨hS,hSo⟩;have HM:Hid _:=hI3.lie.len;clear hS hSo hI3 hB3;refine wp_region_held_drew (S:=S) (by kernel_rfl) hS3 (fun hHeld=>?_);refine wpAnyH_take (i:=0) (oi:=_) (v:=.agg M'.toArray) rfl (by kernel_rfl) (by kernel_rfl) (by kernel_rfl) (fun _ _ _ h=>h) (yieldsIf_load_mid (by rfl) 49 (.tmp 7) rfl w2.heap.size 0 rfl M' _ (fun _ h=>JW (HSS.out.1 _ h).box) Tryz.underlying49 rfl (by rw[HM.out];exact iN)) hHeld ?_;simp only[Act.put,List.getElem_toArray,List.getElem_cons_succ,List.getElem_cons_zero,List.setIfInBounds_toArray,List.set_cons_zero,List.set_cons_succ];refine wpAnyH_take (i:=1) (oi:=_) (v:=.int .i64 k) rfl (by kernel_rfl) (by kernel_rfl) (by kernel_rfl) (fun _ _ _ h=>h) (Or.inl ⟨by rfl,fun X hSw=>by go_simp⟩) hHeld ?_;simp only[Act.put,List.getElem_toArray,List.getElem_cons_succ,List.getElem_cons_zero,List.setIfInBounds_toArray,List.set_cons_zero,List.set_cons_succ];refine wpAnyH_ready (rs:=[2,9]) (by kernel_rfl) (by simp) ?_;refine AllReadyH.cons (o:=_) rfl (fun K hK=>?_) (AllReadyH.cons (o:=_) rfl (fun K hK=>?_) AllReadyH.nil)
    ·go_simp
     refine(HQ.out _).mono ?_;rintro r u ⟨rfl,hu⟩;subst hu
     go_wp2_with fail
     refine hK.out _ _ hHeld (fun hHeld=>?_);clear hK K
     try simp only[Act.put,List.getElem_toArray,List.getElem_cons_succ,List.getElem_cons_zero,List.setIfInBounds_toArray,List.set_cons_zero,List.set_cons_succ]
     refine wpAnyH_take (i:=3) (oi:=_) (v:=kI (JJ q)) rfl (by kernel_rfl) (by kernel_rfl) (by kernel_rfl) (fun _ _ _ h=>h) (Or.inl ⟨by rfl,fun X hSw=>by go_simp;exact⟨rfl,rfl,rfl,rfl,rfl,rfl,rfl,rfl⟩⟩) hHeld ?_;simp only[Act.put,List.getElem_toArray,List.getElem_cons_succ,List.getElem_cons_zero,List.setIfInBounds_toArray,List.set_cons_zero,List.set_cons_succ];refine wpAnyH_ready (rs:=[4,9]) (by kernel_rfl) (by simp) ?_;refine AllReadyH.cons (o:=_) rfl (fun K hK=>?_) (AllReadyH.cons (o:=_) rfl (fun K hK=>?_) AllReadyH.nil)
     ·go_simp
      refine Calls.mono (JU HI.out.2.1 (HSS.out.1 _ hHeld).lie (HSS.out.1 _ hHeld).blk (by omega) HI.out.2.2.1) ?_;rintro r w5 ⟨M5,po,co,p5,q5,rfl,l5,o5,n5,f5,hA5,hb5⟩;have HE5:Hid (_/\_/\_/\_/\_/\_):=⟨l5,o5,n5,(⟨p5,q5,f5⟩:∃(p:Option Addr) (q:Nat),M5[18]?=some (.slice p 0 q)),hA5,hb5⟩;have hS5:S w5:=HSS.out.2 _ ((HSS.out.1 _ hHeld).on hb5);clear l5 o5 n5 f5 hA5 hb5
      go_wp2_with fail
      refine hK.out _ _ hS5 (fun hHeld5=>?_);clear hK K hS5
      try simp only[Act.put,List.getElem_toArray,List.getElem_cons_succ,List.getElem_cons_zero,List.setIfInBounds_toArray,List.set_cons_zero,List.set_cons_succ]
      refine wpAnyH_take (i:=5) (oi:=_) (v:=.tuple #[.agg M5.toArray,.slice po 1 co,.int .i64 0]) rfl (by kernel_rfl) (by kernel_rfl) (by kernel_rfl) (fun _ _ _ h=>h) (Or.inl ⟨by rfl,fun X hSw=>by go_simp⟩) hHeld5 ?_;simp only[Act.put,List.getElem_toArray,List.getElem_cons_succ,List.getElem_cons_zero,List.setIfInBounds_toArray,List.set_cons_zero,List.set_cons_succ];refine wpAnyH_take (i:=6) (oi:=_) (v:=.agg M5.toArray) rfl (by kernel_rfl) (by kernel_rfl) (by kernel_rfl) (fun _ _ _ h=>h) (Or.inl ⟨by rfl,fun X hSw=>by go_simp⟩) hHeld5 ?_;simp only[Act.put,List.getElem_toArray,List.getElem_cons_succ,List.getElem_cons_zero,List.setIfInBounds_toArray,List.set_cons_zero,List.set_cons_succ];refine wpAnyH_take (i:=7) (oi:=_) (v:=.slice po 1 co) rfl (by kernel_rfl) (by kernel_rfl) (by kernel_rfl) (fun _ _ _ h=>h) (Or.inl ⟨by rfl,fun X hSw=>by go_simp⟩) hHeld5 ?_;simp only[Act.put,List.getElem_toArray,List.getElem_cons_succ,List.getElem_cons_zero,List.setIfInBounds_toArray,List.set_cons_zero,List.set_cons_succ];refine wpAnyH_take (i:=8) (oi:=_) (v:=.int .i64 0) rfl (by kernel_rfl) (by kernel_rfl) (by kernel_rfl) (fun _ _ _ h=>h) (Or.inl ⟨by rfl,fun X hSw=>by go_simp⟩) hHeld5 ?_;simp only[Act.put,List.getElem_toArray,List.getElem_cons_succ,List.getElem_cons_zero,List.setIfInBounds_toArray,List.set_cons_zero,List.set_cons_succ];refine wpAnyH_ready (rs:=[9]) (by kernel_rfl) (by simp) ?_;refine AllReadyH.cons (o:=_) rfl (fun K hK=>?_) AllReadyH.nil;go_simp;obtain⟨Y,hY⟩:∃Y,Y=w5.alloc (.cells wz.toArray 49):=⟨_,rfl⟩;obtain⟨g,hg⟩:∃g,g=w5.heap.size:=⟨_,rfl⟩;have hY5:Below w5.heap.size w5 Y:=by rw[hY];exact ai w5
      have hYZ:Y.heap[g]?=some (.cells wz.toArray 49 (0,0)):=by rw[hY,hg];exact heap_alloc_new _ _
      have hb5:Below W.heap.size W w5:=J0 HE5.out.2.2.2.2.2;have hYb:Below W.heap.size W Y:=hb5.trans (hY5.mono hb5.size);have hgW:W.heap.size<=g:=by rw[hg];exact hb5.size
      have hSY:S Y:=HSS.out.2 _ (HI2.out.on hYb);have hk5:ia W.drew.heap.size w5 Y:=⟨hY5.size,fun b _ h=>hY5.block b h⟩;have hge:w5.heap.size<=g:=by rw[hg];exact Nat.le_refl _
      rw[<-hY,<-hg];clear hY hg hY5 hb5;refine hK.out _ _ hSY (fun hHeldY=>?_);clear hK K hSY
      try simp only[Act.put,List.getElem_toArray,List.getElem_cons_succ,List.getElem_cons_zero,List.setIfInBounds_toArray,List.set_cons_zero,List.set_cons_succ]
      have l5:=HE5.out.1;have hsz:M5.toArray.size=26:=(show M5.toArray.size=M5.length from List.size_toArray).trans l5;have hth:(Y).there g 0 M5.toArray.size:=by rw[hsz];exact sF hYZ
      obtain⟨u6,hu6⟩:∃u6,u6=(Y).setCells g 0 M5:=⟨_,rfl⟩;have hR6:u6.heap[g]?=some (.cells M5.toArray 49 (0,0)):=by rw[hu6];exact uQ hYZ (by rw[l5];rfl)
      have hb6:Below W.heap.size W u6:=by rw[hu6];exact tW hYb hgW _ _ hYb.size
      have hS6:S u6:=HSS.out.2 _ (HI2.out.on hb6);have hO6:bj gT u6 (.slice po 1 co) [JV]:=HE5.out.2.2.2.2.1 u6 (by rw[hu6];exact JT hk5 (.inr hge));have HE:Hid (JA W u6 g M5 j po co):=⟨hR6,HE5.out.2.2.1,HE5.out.2.2.2.1,hO6,hb6⟩;clear hR6 hb6 hO6 hYb hYZ hgW;refine wpAnyH_ready (rs:=[10]) (by kernel_rfl) (by simp) ?_;refine ve (i:=10) (o:=_) (by rfl) (by rfl) 49 (.tmp 14) (.tmp 53) (by rfl) g 0 M5.toArray (by rfl) (by rfl) hth (by rw[hsz];exact iN) HE5.out.2.1 (by rw[List.toList_toArray,<-hu6];exact hS6) ?_;rw[List.toList_toArray,<-hu6]
      try simp only[Act.put,List.getElem_toArray,List.getElem_cons_succ,List.getElem_cons_zero,List.setIfInBounds_toArray,List.set_cons_zero,List.set_cons_succ]
      refine wpAnyH_ready (rs:=[11]) (by kernel_rfl) (by simp) ?_;refine mE (i:=11) (o:=_) (by rfl) (by rfl) (.tmp 54) (by rfl) (.slice po 1 co) (by rfl) hS6 ?_
      try simp only[Act.put,List.getElem_toArray,List.getElem_cons_succ,List.getElem_cons_zero,List.setIfInBounds_toArray,List.set_cons_zero,List.set_cons_succ]
      refine wpAnyH_ready (rs:=[12]) (by kernel_rfl) (by simp) ?_;refine mE (i:=12) (o:=_) (by rfl) (by rfl) (.tmp 55) (by rfl) (.int .i64 0) (by rfl) hS6 ?_
      try simp only[Act.put,List.getElem_toArray,List.getElem_cons_succ,List.getElem_cons_zero,List.setIfInBounds_toArray,List.set_cons_zero,List.set_cons_succ]
      refine wpAnyH_done (by kernel_rfl) ?_ _;clear hth hsz l5 HE5 hS6 hu6;clear hHeld5 hHeldY hk5 hge;revert HE;revert u6;revert co;revert po;revert M5;revert g;exact KEY.out
     ·go_simp
      obtain⟨X1,hX1⟩:∃X1,X1=(W.alloc (.cells wz.toArray 49)).drew:=⟨_,rfl⟩;have hXb:Below W.heap.size W X1:=by rw[hX1];exact(ai W).drew
      have hXZ:X1.heap[W.heap.size]?=some (.cells wz.toArray 49 (0,0)):=by rw[hX1];exact heap_alloc_new _ _
      have hSX:S X1:=HSS.out.2 _ (HI2.out.on hXb);obtain⟨g,hg⟩:∃g,g=W.heap.size:=⟨_,rfl⟩;have HX:Hid (_/\_/\_):=⟨hXb,hXZ,hg⟩;clear hXb hXZ;rw[<-hX1,<-hg];clear hX1 hg;refine hK.out _ _ hSX (fun hHeld=>?_);clear hK K hSX
      try simp only[Act.put,List.getElem_toArray,List.getElem_cons_succ,List.getElem_cons_zero,List.setIfInBounds_toArray,List.set_cons_zero,List.set_cons_succ]
      refine wpAnyH_ready (rs:=[4]) (by kernel_rfl) (by simp) ?_;refine AllReadyH.cons (o:=_) rfl (fun K hK=>?_) AllReadyH.nil;go_simp;refine Calls.mono (JU HI.out.2.1 (HSS.out.1 _ hHeld).lie (HSS.out.1 _ hHeld).blk (by omega) HI.out.2.2.1) ?_;rintro r w5 ⟨M5,po,co,p5,q5,rfl,l5,o5,n5,f5,hA5,hb5⟩;have HE5:Hid (_/\_/\_/\_/\_/\_):=⟨l5,o5,n5,(⟨p5,q5,f5⟩:∃(p:Option Addr) (q:Nat),M5[18]?=some (.slice p 0 q)),hA5,hb5⟩;have hS5:S w5:=HSS.out.2 _ ((HSS.out.1 _ hHeld).on hb5);clear l5 o5 n5 f5 hA5 hb5
      go_wp2_with fail
      refine hK.out _ _ hS5 (fun hHeld5=>?_);clear hK K hS5
      try simp only[Act.put,List.getElem_toArray,List.getElem_cons_succ,List.getElem_cons_zero,List.setIfInBounds_toArray,List.set_cons_zero,List.set_cons_succ]
      refine wpAnyH_take (i:=5) (oi:=_) (v:=.tuple #[.agg M5.toArray,.slice po 1 co,.int .i64 0]) rfl (by kernel_rfl) (by kernel_rfl) (by kernel_rfl) (fun _ _ _ h=>h) (Or.inl ⟨by rfl,fun X hSw=>by go_simp⟩) hHeld5 ?_;simp only[Act.put,List.getElem_toArray,List.getElem_cons_succ,List.getElem_cons_zero,List.setIfInBounds_toArray,List.set_cons_zero,List.set_cons_succ];refine wpAnyH_take (i:=6) (oi:=_) (v:=.agg M5.toArray) rfl (by kernel_rfl) (by kernel_rfl) (by kernel_rfl) (fun _ _ _ h=>h) (Or.inl ⟨by rfl,fun X hSw=>by go_simp⟩) hHeld5 ?_;simp only[Act.put,List.getElem_toArray,List.getElem_cons_succ,List.getElem_cons_zero,List.setIfInBounds_toArray,List.set_cons_zero,List.set_cons_succ];refine wpAnyH_take (i:=7) (oi:=_) (v:=.slice po 1 co) rfl (by kernel_rfl) (by kernel_rfl) (by kernel_rfl) (fun _ _ _ h=>h) (Or.inl ⟨by rfl,fun X hSw=>by go_simp⟩) hHeld5 ?_;simp only[Act.put,List.getElem_toArray,List.getElem_cons_succ,List.getElem_cons_zero,List.setIfInBounds_toArray,List.set_cons_zero,List.set_cons_succ];refine wpAnyH_take (i:=8) (oi:=_) (v:=.int .i64 0) rfl (by kernel_rfl) (by kernel_rfl) (by kernel_rfl) (fun _ _ _ h=>h) (Or.inl ⟨by rfl,fun X hSw=>by go_simp⟩) hHeld5 ?_;simp only[Act.put,List.getElem_toArray,List.getElem_cons_succ,List.getElem_cons_zero,List.setIfInBounds_toArray,List.set_cons_zero,List.set_cons_succ];have hYZ:w5.heap[g]?=some (.cells wz.toArray 49 (0,0)):=by rw[HX.out.2.2];exact af HX.out.2.1 HE5.out.2.2.2.2.2
      have hYb:Below W.heap.size W w5:=HX.out.1.trans (HE5.out.2.2.2.2.2.mono HX.out.1.size);have hgW:W.heap.size<=g:=by rw[HX.out.2.2];exact Nat.le_refl _
      have hgX:g<X1.heap.size:=by rw[HX.out.2.2];exact(Array.getElem?_eq_some_iff.1 HX.out.2.1).1
      have l5:=HE5.out.1;have hsz:M5.toArray.size=26:=(show M5.toArray.size=M5.length from List.size_toArray).trans l5;have hth:(w5).there g 0 M5.toArray.size:=by rw[hsz];exact sF hYZ
      obtain⟨u6,hu6⟩:∃u6,u6=(w5).setCells g 0 M5:=⟨_,rfl⟩;have hR6:u6.heap[g]?=some (.cells M5.toArray 49 (0,0)):=by rw[hu6];exact uQ hYZ (by rw[l5];rfl)
      have hb6:Below W.heap.size W u6:=by rw[hu6];exact tW hYb hgW _ _ hYb.size
      have hS6:S u6:=HSS.out.2 _ (HI2.out.on hb6);have hO6:bj gT u6 (.slice po 1 co) [JV]:=HE5.out.2.2.2.2.1 u6 (by rw[hu6];exact JT (ia.Gy _ _) (.inl hgX));have HE:Hid (JA W u6 g M5 j po co):=⟨hR6,HE5.out.2.2.1,HE5.out.2.2.2.1,hO6,hb6⟩;clear hR6 hb6 hO6 hYb hYZ hgW;refine wpAnyH_ready (rs:=[10]) (by kernel_rfl) (by simp) ?_;refine ve (i:=10) (o:=_) (by rfl) (by rfl) 49 (.tmp 14) (.tmp 53) (by rfl) g 0 M5.toArray (by rfl) (by rfl) hth (by rw[hsz];exact iN) HE5.out.2.1 (by rw[List.toList_toArray,<-hu6];exact hS6) ?_;rw[List.toList_toArray,<-hu6]
      try simp only[Act.put,List.getElem_toArray,List.getElem_cons_succ,List.getElem_cons_zero,List.setIfInBounds_toArray,List.set_cons_zero,List.set_cons_succ]
      refine wpAnyH_ready (rs:=[11]) (by kernel_rfl) (by simp) ?_;refine mE (i:=11) (o:=_) (by rfl) (by rfl) (.tmp 54) (by rfl) (.slice po 1 co) (by rfl) hS6 ?_
      try simp only[Act.put,List.getElem_toArray,List.getElem_cons_succ,List.getElem_cons_zero,List.setIfInBounds_toArray,List.set_cons_zero,List.set_cons_succ]
      refine wpAnyH_ready (rs:=[12]) (by kernel_rfl) (by simp) ?_;refine mE (i:=12) (o:=_) (by rfl) (by rfl) (.tmp 55) (by rfl) (.int .i64 0) (by rfl) hS6 ?_
      try simp only[Act.put,List.getElem_toArray,List.getElem_cons_succ,List.getElem_cons_zero,List.setIfInBounds_toArray,List.set_cons_zero,List.set_cons_succ]
      refine wpAnyH_done (by kernel_rfl) ?_ _;clear hth hsz l5 HE5 hS6 hu6;clear hHeld5 hgX HX;revert HE;revert u6;revert co;revert po;revert M5;revert g;exact KEY.out
    ·go_simp
     obtain⟨X1,hX1⟩:∃X1,X1=(W.alloc (.cells wz.toArray 49)).drew:=⟨_,rfl⟩;have hXb:Below W.heap.size W X1:=by rw[hX1];exact(ai W).drew
     have hXZ:X1.heap[W.heap.size]?=some (.cells wz.toArray 49 (0,0)):=by rw[hX1];exact heap_alloc_new _ _
     have hSX:S X1:=HSS.out.2 _ (HI2.out.on hXb);obtain⟨g,hg⟩:∃g,g=W.heap.size:=⟨_,rfl⟩;have HX:Hid (_/\_/\_):=⟨hXb,hXZ,hg⟩;clear hXb hXZ;rw[<-hX1,<-hg];clear hX1 hg;refine hK.out _ _ hSX (fun hHeld=>?_);clear hK K hSX
     try simp only[Act.put,List.getElem_toArray,List.getElem_cons_succ,List.getElem_cons_zero,List.setIfInBounds_toArray,List.set_cons_zero,List.set_cons_succ]
     refine wpAnyH_ready (rs:=[2]) (by kernel_rfl) (by simp) ?_;refine AllReadyH.cons (o:=_) rfl (fun K hK=>?_) AllReadyH.nil;go_simp;refine(HQ.out _).mono ?_;rintro r u ⟨rfl,hu⟩;subst hu
     go_wp2_with fail
     refine hK.out _ _ hHeld (fun hHeld=>?_);clear hK K
     try simp only[Act.put,List.getElem_toArray,List.getElem_cons_succ,List.getElem_cons_zero,List.setIfInBounds_toArray,List.set_cons_zero,List.set_cons_succ]
     refine wpAnyH_take (i:=3) (oi:=_) (v:=kI (JJ q)) rfl (by kernel_rfl) (by kernel_rfl) (by kernel_rfl) (fun _ _ _ h=>h) (Or.inl ⟨by rfl,fun X hSw=>by go_simp;exact⟨rfl,rfl,rfl,rfl,rfl,rfl,rfl,rfl⟩⟩) hHeld ?_;simp only[Act.put,List.getElem_toArray,List.getElem_cons_succ,List.getElem_cons_zero,List.setIfInBounds_toArray,List.set_cons_zero,List.set_cons_succ];refine wpAnyH_ready (rs:=[4]) (by kernel_rfl) (by simp) ?_;refine AllReadyH.cons (o:=_) rfl (fun K hK=>?_) AllReadyH.nil;go_simp;refine Calls.mono (JU HI.out.2.1 (HSS.out.1 _ hHeld).lie (HSS.out.1 _ hHeld).blk (by omega) HI.out.2.2.1) ?_;rintro r w5 ⟨M5,po,co,p5,q5,rfl,l5,o5,n5,f5,hA5,hb5⟩;have HE5:Hid (_/\_/\_/\_/\_/\_):=⟨l5,o5,n5,(⟨p5,q5,f5⟩:∃(p:Option Addr) (q:Nat),M5[18]?=some (.slice p 0 q)),hA5,hb5⟩;have hS5:S w5:=HSS.out.2 _ ((HSS.out.1 _ hHeld).on hb5);clear l5 o5 n5 f5 hA5 hb5
     go_wp2_with fail
     refine hK.out _ _ hS5 (fun hHeld5=>?_);clear hK K hS5
     try simp only[Act.put,List.getElem_toArray,List.getElem_cons_succ,List.getElem_cons_zero,List.setIfInBounds_toArray,List.set_cons_zero,List.set_cons_succ]
     refine wpAnyH_take (i:=5) (oi:=_) (v:=.tuple #[.agg M5.toArray,.slice po 1 co,.int .i64 0]) rfl (by kernel_rfl) (by kernel_rfl) (by kernel_rfl) (fun _ _ _ h=>h) (Or.inl ⟨by rfl,fun X hSw=>by go_simp⟩) hHeld5 ?_;simp only[Act.put,List.getElem_toArray,List.getElem_cons_succ,List.getElem_cons_zero,List.setIfInBounds_toArray,List.set_cons_zero,List.set_cons_succ];refine wpAnyH_take (i:=6) (oi:=_) (v:=.agg M5.toArray) rfl (by kernel_rfl) (by kernel_rfl) (by kernel_rfl) (fun _ _ _ h=>h) (Or.inl ⟨by rfl,fun X hSw=>by go_simp⟩) hHeld5 ?_;simp only[Act.put,List.getElem_toArray,List.getElem_cons_succ,List.getElem_cons_zero,List.setIfInBounds_toArray,List.set_cons_zero,List.set_cons_succ];refine wpAnyH_take (i:=7) (oi:=_) (v:=.slice po 1 co) rfl (by kernel_rfl) (by kernel_rfl) (by kernel_rfl) (fun _ _ _ h=>h) (Or.inl ⟨by rfl,fun X hSw=>by go_simp⟩) hHeld5 ?_;simp only[Act.put,List.getElem_toArray,List.getElem_cons_succ,List.getElem_cons_zero,List.setIfInBounds_toArray,List.set_cons_zero,List.set_cons_succ];refine wpAnyH_take (i:=8) (oi:=_) (v:=.int .i64 0) rfl (by kernel_rfl) (by kernel_rfl) (by kernel_rfl) (fun _ _ _ h=>h) (Or.inl ⟨by rfl,fun X hSw=>by go_simp⟩) hHeld5 ?_;simp only[Act.put,List.getElem_toArray,List.getElem_cons_succ,List.getElem_cons_zero,List.setIfInBounds_toArray,List.set_cons_zero,List.set_cons_succ];have hYZ:w5.heap[g]?=some (.cells wz.toArray 49 (0,0)):=by rw[HX.out.2.2];exact af HX.out.2.1 HE5.out.2.2.2.2.2
     have hYb:Below W.heap.size W w5:=HX.out.1.trans (HE5.out.2.2.2.2.2.mono HX.out.1.size);have hgW:W.heap.size<=g:=by rw[HX.out.2.2];exact Nat.le_refl _
     have hgX:g<u.heap.size:=by rw[HX.out.2.2];exact(Array.getElem?_eq_some_iff.1 HX.out.2.1).1
     have l5:=HE5.out.1;have hsz:M5.toArray.size=26:=(show M5.toArray.size=M5.length from List.size_toArray).trans l5;have hth:(w5).there g 0 M5.toArray.size:=by rw[hsz];exact sF hYZ
     obtain⟨u6,hu6⟩:∃u6,u6=(w5).setCells g 0 M5:=⟨_,rfl⟩;have hR6:u6.heap[g]?=some (.cells M5.toArray 49 (0,0)):=by rw[hu6];exact uQ hYZ (by rw[l5];rfl)
     have hb6:Below W.heap.size W u6:=by rw[hu6];exact tW hYb hgW _ _ hYb.size
     have hS6:S u6:=HSS.out.2 _ (HI2.out.on hb6);have hO6:bj gT u6 (.slice po 1 co) [JV]:=HE5.out.2.2.2.2.1 u6 (by rw[hu6];exact JT (ia.Gy _ _) (.inl hgX));have HE:Hid (JA W u6 g M5 j po co):=⟨hR6,HE5.out.2.2.1,HE5.out.2.2.2.1,hO6,hb6⟩;clear hR6 hb6 hO6 hYb hYZ hgW;refine wpAnyH_ready (rs:=[10]) (by kernel_rfl) (by simp) ?_;refine ve (i:=10) (o:=_) (by rfl) (by rfl) 49 (.tmp 14) (.tmp 53) (by rfl) g 0 M5.toArray (by rfl) (by rfl) hth (by rw[hsz];exact iN) HE5.out.2.1 (by rw[List.toList_toArray,<-hu6];exact hS6) ?_;rw[List.toList_toArray,<-hu6]
     try simp only[Act.put,List.getElem_toArray,List.getElem_cons_succ,List.getElem_cons_zero,List.setIfInBounds_toArray,List.set_cons_zero,List.set_cons_succ]
     refine wpAnyH_ready (rs:=[11]) (by kernel_rfl) (by simp) ?_;refine mE (i:=11) (o:=_) (by rfl) (by rfl) (.tmp 54) (by rfl) (.slice po 1 co) (by rfl) hS6 ?_
     try simp only[Act.put,List.getElem_toArray,List.getElem_cons_succ,List.getElem_cons_zero,List.setIfInBounds_toArray,List.set_cons_zero,List.set_cons_succ]
     refine wpAnyH_ready (rs:=[12]) (by kernel_rfl) (by simp) ?_;refine mE (i:=12) (o:=_) (by rfl) (by rfl) (.tmp 55) (by rfl) (.int .i64 0) (by rfl) hS6 ?_
     try simp only[Act.put,List.getElem_toArray,List.getElem_cons_succ,List.getElem_cons_zero,List.setIfInBounds_toArray,List.set_cons_zero,List.set_cons_succ]
     refine wpAnyH_done (by kernel_rfl) ?_ _;clear hth hsz l5 HE5 hS6 hu6;clear hHeld5 hgX HX;revert HE;revert u6;revert co;revert po;revert M5;revert g;exact KEY.out
   intro g M5 po co Y HE;obtain⟨p5,q5,f5⟩:=HE.out.fls;have hI:=HI2.out.on HE.out.below;have e16:Y.cell? ⟨g,16,none⟩=some (.int .i64 (j:Int)):=by rw[cell_of_row Y g 16 _ _ (0,0) HE.out.box,List.getElem?_toArray];exact HE.out.now
   have e18:Y.cell? ⟨g,18,none⟩=some (.slice p5 0 q5):=by rw[cell_of_row Y g 18 _ _ (0,0) HE.out.box,List.getElem?_toArray];exact f5
   have e7:Y.cell? ⟨w2.heap.size,16,none⟩=some (.int .i64 (j:Int)):=by rw[cell_of_row Y w2.heap.size 16 _ _ (0,0) hI.box,List.getElem?_toArray];exact hI.lie.now
   have gl:g<Y.heap.size:=(Array.getElem?_eq_some_iff.1 HE.out.box).1;have g7:w2.heap.size<Y.heap.size:=(Array.getElem?_eq_some_iff.1 hI.box).1;obtain⟨a,cap,hv,hc1,hm1,⟨h0,_⟩|⟨b1,o1,ha,hb1,hcell⟩⟩:=HE.out.out
   ·cases h0
   ·subst ha
    obtain⟨rfl,rfl⟩:po=some ⟨b1,o1,none⟩/\cap=co:=by injection hv with h1 h2 h3;exact⟨h1,h3.symm⟩
    have d0:Y.cell? ⟨b1,o1,none⟩=some (.int .i64 2):=hcell 0 (by decide);have d1:Y.cell? ⟨b1,o1+1,none⟩=some (.int .i64 0):=hcell 1 (by decide);have d2:Y.cell? ⟨b1,o1+2,none⟩=some (.int .i64 0):=hcell 2 (by decide);have d3:Y.cell? ⟨b1,o1+3,none⟩=some (.int .i64 0):=hcell 3 (by decide);have d4:Y.cell? ⟨b1,o1+4,none⟩=some (.int .i64 0):=hcell 4 (by decide);have d5:Y.cell? ⟨b1,o1+5,none⟩=some (.int .i64 11):=hcell 5 (by decide);have d6:Y.cell? ⟨b1,o1+6,none⟩=some (.int .i64 0):=hcell 6 (by decide);have HF:Hid _:=hI.below;clear hI hcell f5 hv hm1;go_wp2;go_ret;exact⟨rfl,HF.out⟩
section
open Go.ChangeShapes Go.WideShapes Go.ChangeAt Go.Deep
def J6(P:Program):Nat->TypeId->Bool
 |0,_=>false
 |d+1,t=>match P.underlying t with
  |some (.int .i64)=>P.cellsOf t == 1
  |some (.struct fs)=>(List.range (P.cellsOf t)).all fun i=>(List.range fs.size).any fun j=>match fs[j]? with
   |some f=>decide (f.offset<=i) && decide (i<f.offset+P.cellsOf f.type) && J6 P d f.type
   |none=>false
  |some (.array n e)=>J6 P d e && decide (0<P.cellsOf e) && decide (P.cellsOf t=n*P.cellsOf e)
  |_=>false
section
variable {H:Type}{enc:TypeId×Value->H}{P:Program}{w:World}{base:Nat}{spare:Nat->Bool}{held:Bool}
theorem J7:∀(d:Nat) {t:TypeId} {fuel:Nat} {cs:List Value} {x:DataW H×List MemPlace},J6 P d t=true->DataW.trod enc P w base spare held fuel t cs=some x->∀i,i<P.cellsOf t->∃n:Int,cs[i]?=some (.int .i64 n)/\(Lit.int .i64 n).wf=true
 |0,_,_,_,_,hf,_,_,_=>by simp[J6]at hf
 |d+1,t,fuel,cs,x,hf,h,i,hi=>by
  unfold J6 at hf
  split at hf
  ·rename_i hu
   obtain⟨n,rfl,_,hw⟩:=DataW.trod_int hu h;have:P.cellsOf t=1:=by simpa using hf
   obtain rfl:i=0:=by omega
   exact⟨n,rfl,hw⟩
  ·rename_i fs hu
   obtain⟨xs,k,_,_,_,hl,hx⟩:=DataW.trod_struct hu h;have h1:=List.all_eq_true.1 hf i (List.mem_range.2 hi);obtain⟨j,hj,h2⟩:=List.any_eq_true.1 h1;have hj':=List.mem_range.1 hj;rw[Array.getElem?_eq_getElem hj']at h2;simp only[Bool.and_eq_true,decide_eq_true_eq]at h2;obtain⟨⟨h3,h4⟩,h5⟩:=h2;have h6:=hx j fs[j] (Array.getElem?_eq_getElem hj');rw[List.getElem?_eq_getElem (by rw[hl];exact hj')]at h6;obtain⟨n,h7,h8⟩:=J7 d h5 h6 (i-fs[j].offset) (by omega);refine⟨n,?_,h8⟩;rw[List.getElem?_take_of_lt (by omega),List.getElem?_drop]at h7;rwa[show fs[j].offset+(i-fs[j].offset)=i by omega]at h7
  ·rename_i n e hu
   simp only[Bool.and_eq_true,decide_eq_true_eq]at hf;obtain⟨⟨hf,hpos⟩,hct⟩:=hf;obtain⟨xs,k,_,_,hlen,hl,hx⟩:=DataW.trod_array hu h;have hdiv:i / P.cellsOf e<n:=Nat.div_lt_of_lt_mul (by rw[Nat.mul_comm,<-hct];exact hi);have hmod:=Nat.mod_lt i hpos;have h6:=hx (i / P.cellsOf e) hdiv;rw[List.getElem?_eq_getElem (by rw[hl];exact hdiv)]at h6;obtain⟨m,h7,h8⟩:=J7 d hf h6 (i % P.cellsOf e) hmod;refine⟨m,?_,h8⟩;rw[List.getElem?_take_of_lt hmod,List.getElem?_drop]at h7;rwa[show i / P.cellsOf e*P.cellsOf e+i % P.cellsOf e=i by rw[Nat.mul_comm];exact Nat.div_add_mod i _]at h7
  ·cases hf
theorem J2{cs:Array Value}(h:cs.size=16)(f:Nat->Int)(hf:∀i,i<16->cs.toList[i]?=some (.int .i64 (f i))):cs=#[.int .i64 (f 0),.int .i64 (f 1),.int .i64 (f 2),.int .i64 (f 3),.int .i64 (f 4),.int .i64 (f 5),.int .i64 (f 6),.int .i64 (f 7),.int .i64 (f 8),.int .i64 (f 9),.int .i64 (f 10),.int .i64 (f 11),.int .i64 (f 12),.int .i64 (f 13),.int .i64 (f 14),.int .i64 (f 15)]:=by
 apply Array.toList_inj.1;apply List.ext_getElem?;intro i
 by_cases hi:i<16
 ·rw[hf i hi]
  have:i=0\/i=1\/i=2\/i=3\/i=4\/i=5\/i=6\/i=7\/i=8\/i=9\/i=10\/i=11\/i=12\/i=13\/i=14\/i=15:=by omega
  rcases this with rfl|rfl|rfl|rfl|rfl|rfl|rfl|rfl|rfl|rfl|rfl|rfl|rfl|rfl|rfl|rfl <;> rfl
 ·rw[List.getElem?_eq_none (by simp[h];omega),List.getElem?_eq_none (by simp;omega)]
theorem Ka{r:Reach}{b0:Nat}{t:TypeId}{fs:Array Field}{v:Value}{d:DataW H}{p:List MemPlace}(hs:P.underlying t=some (.struct fs))(hc:P.cellsOf t=16)(hfl:J6 P 3 t=true)
  (hv:Value.okWide P w r b0 t v) (h:DataW.Trod enc P w base spare held t v d p):∃f:Nat->Int,v=BD (f 0) (f 1) (f 2) (f 3) (f 4) (f 5) (f 6) (f 7) (f 8) (f 9) (f 10) (f 11) (f 12) (f 13) (f 14) (f 15)/\∀i,i<16->(Lit.int .i64 (f i)).wf=true:=by
 obtain⟨cs,rfl,hsz⟩:=okWide_struct hs hv;obtain⟨fuel,hf⟩:=h;have h1:=J7 3 hfl hf;rw[hc]at h1 hsz;obtain⟨f,hff⟩:=choose_lt h1;refine⟨f,?_,fun i hi=>(hff i hi).2⟩;rw[J2 hsz f (fun i hi=>(hff i hi).1)]
end
theorem J8:Tryz.prog.globalNamed "usher/wheel.blocks"=some 0:=by kernel_rfl
theorem Kb:(Tryz.prog.globals[0]?).map (·.type)=some 22:=by kernel_rfl
abbrev J9:List (String×DataW Unit):=[("usher/wheel.blocks",Rows.laid_usher_wheel_blocks)]
theorem J5(os:Os)(args:Array Value):laidMetH Tryz.prog J9 ((World.doorLaid Tryz.prog 400 os).forCall (fun _ _=>0) ⟨#[],args,[]⟩).memory :=
 laidMetH_of_parts3 (fuel:=8) (laidMet_of_run' 8 (by kernel_rfl) (by kernel_rfl)) (by kernel_rfl) (by kernel_rfl)
theorem J3{W:World}(h:laidMetH Tryz.prog J9 W):aK W:=by
 rw[MakeChecks.laidMetH_plain _ _ _ (by kernel_rfl)]at h;obtain⟨ps,⟨g1,t1,cs1,f1,p1,q1,hg1,ht1,hv1,hd1,_,_⟩,_,_⟩:=h;obtain rfl:=Option.some.inj (J8.symm.trans hg1);obtain rfl:=Option.some.inj (Kb.symm.trans ht1);obtain⟨xs,m1,rfl,hx1,hlen,hn3,hel⟩:=DataW.trod_array Tryz.underlying22 hd1;have c3:Tryz.prog.cellsOf 3=1:=by kernel_rfl
 have h0:=hel 0 (by decide);have h1:=hel 1 (by decide);have h2:=hel 2 (by decide);have hvc:=fun i=>World.var?_cell hg1 hv1 i
 simp only[Rows.laid_usher_wheel_blocks,Prod.mk.injEq,DataW.agg.injEq]at hx1
 match xs,hn3,hx1,h0,h1,h2 with
 | [x0,x1,x2],_,hx1,h0,h1,h2 =>
  simp only[List.map_cons,List.map_nil,List.cons.injEq]at hx1;obtain⟨k0,e0,y0,_⟩:=DataW.trod_int Tryz.underlying3 (show DataW.trod _ Tryz.prog W 0 _ false m1 3 _=some x0 from h0);obtain⟨k1,e1,y1,_⟩:=DataW.trod_int Tryz.underlying3 (show DataW.trod _ Tryz.prog W 0 _ false m1 3 _=some x1 from h1);obtain⟨k2,e2,y2,_⟩:=DataW.trod_int Tryz.underlying3 (show DataW.trod _ Tryz.prog W 0 _ false m1 3 _=some x2 from h2);have hk0:k0=8:=by rw[y0]at hx1;simpa using hx1.1.1.symm
  have hk1:k1=64:=by rw[y1]at hx1;simpa using hx1.1.2.1.symm
  have hk2:k2=512:=by rw[y2]at hx1;simpa using hx1.1.2.2.1.symm
  subst hk0 hk1 hk2;obtain⟨l1⟩:=cs1;rw[c3]at e0 e1 e2;have v0:=hvc 0;have v1:=hvc 1;have v2:=hvc 2
  match l1,e0,e1,e2 with
  | [a,b,c],e0,e1,e2 =>
   simp at e0 e1 e2 v0 v1 v2;subst e0 e1 e2;exact⟨v0,v1,v2⟩
  | [],e0,e1,e2=>simp at e0
  | [a],e0,e1,e2=>simp at e1
  | [a,b],e0,e1,e2=>simp at e2
  |a::b::c::d::l,e0,e1,e2 =>
   simp at e0 e1 e2 v0 v1 v2;subst e0 e1 e2;exact⟨v0,v1,v2⟩
end
theorem J4(f:Nat->Int)(hf:∀i,i<16->(Lit.int .i64 (f i)).wf=true)(t:Int)(ht:(Lit.int .i64 t).wf=true)(k:Int)(hk:(Lit.int .i64 k).wf=true){w:World}(hB:aK w) :
  Calls Tryz.prog 3 #[BD (f 0) (f 1) (f 2) (f 3) (f 4) (f 5) (f 6) (f 7) (f 8) (f 9) (f 10) (f 11) (f 12) (f 13) (f 14) (f 15),.int .i64 t,.int .i64 k] w fun r w'=>r=.returned (.bool true)/\Below w.heap.size w w' :=
 JG f hf t k ht hk w hB
end Go.Proofs.YtalhkllgnlejbaaGreatDoor.Q
