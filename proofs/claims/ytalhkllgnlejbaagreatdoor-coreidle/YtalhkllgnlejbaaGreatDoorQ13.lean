/-
  Contracts of the layers and of core, part 13. Conditions: as each theorem says.
-/
import Derived.Test.YtalhkllgnlejbaaGreatDoorQ3
import Derived.Test.YtalhkllgnlejbaaGreatDoorQ12
namespace Go.Proofs.YtalhkllgnlejbaaGreatDoor.Q
set_option linter.unusedVariables false
set_option linter.unusedSimpArgs false
set_option maxHeartbeats 16000000
set_option maxRecDepth 100000
open Go.RowKit
attribute [local go_sem ↓] Go.wp_at_zero Go.wp_at_succ
variable {f:Fl}{n s:Int}{L:List FV}{junk l:List Fl}{xs:List Value}{b c cap j k:Nat}{S:Nat->Prop}{p:Option Addr}{T:Tm->Prop}{W:World}{P:World->Prop}
abbrev ap(f:Fl):List Value:=[.int .i64 f.slot,.int .i64 f.gen,.int .i64 f.key,.int .i64 f.be,.bool f.srv,.int .i64 f.ret,.int .i64 f.due]
abbrev gT(o:Ou):List Value:=[.int .i64 o.kind,.int .i64 o.slot,.int .i64 o.gen,.int .i64 o.be,.int .i64 o.req,.int .i64 o.code,.int .i64 o.why]
abbrev Mk:=Option Addr×Nat
abbrev fD(x:Mk×He):List Value:=[.slice x.1.1 x.2.marks.length x.1.2,.bool x.2.out,.int .i64 x.2.till,.int .i64 x.2.times]
theorem ba(x:Fl):(ap x).length=7:=rfl
theorem Bq(x:Ou):(gT x).length=7:=rfl
theorem ii(x:Mk×He):(fD x).length=4:=rfl
theorem jh(x:Fl):∀u∈ap x,u.oneCell'=true:=by
 intro u hu;simp only[List.mem_cons,List.not_mem_nil,or_false]at hu;rcases hu with rfl|rfl|rfl|rfl|rfl|rfl|rfl <;> rfl
theorem Bd(x:Ou):∀u∈gT x,u.oneCell'=true:=by
 intro u hu;simp only[List.mem_cons,List.not_mem_nil,or_false]at hu;rcases hu with rfl|rfl|rfl|rfl|rfl|rfl|rfl <;> rfl
theorem yd(x:Mk×He):∀u∈fD x,u.oneCell'=true:=by
 intro u hu;simp only[List.mem_cons,List.not_mem_nil,or_false]at hu;rcases hu with rfl|rfl|rfl|rfl <;> rfl
structure Vs where
 bh:Nat
 ch:Nat
 pt:Option Addr
 ct:Nat
 pf:Option Addr
 cf:Nat
 pl:Option Addr
 cl:Nat
 pr:Option Addr
 cr:Nat
 ps:Option Addr
 cs:Nat
 pw:Option Addr
 cw:Nat
 po:Option Addr
 co:Nat
 ms:List Mk
def Vs.own(V:Vs)(g b:Nat):Prop:=b=g\/b=V.bh\/V.pf.map (·.block)=some b\/V.po.map (·.block)=some b
def Vs.off(V:Vs)(base g b:Nat):Prop:=V.own g b\/b<base
def cX(S:Nat->Prop)(w:World)(P:World->Prop):Prop :=
 ∀w',w.heap.size<=w'.heap.size->(∀b,b<w.heap.size->¬S b->w'.heap[b]?=w.heap[b]?)->P w'
theorem cX.now{w:World}(h:cX S w P):P w:=h w (Nat.le_refl _) fun _ _ _=>rfl
theorem cX.step{S':Nat->Prop}{w w':World}(h:cX S w P)(hs:w.heap.size<=w'.heap.size)(hb:∀b,b<w.heap.size->¬S b->w'.heap[b]?=w.heap[b]?)(hS:∀b,b<w.heap.size->S' b->S b):cX S' w' P :=
 fun w'' h1 h2=>h w'' (Nat.le_trans hs h1) fun b hlt hn=>(h2 b (Nat.lt_of_lt_of_le hlt hs) fun h=>hn (hS b hlt h)).trans (hb b hlt hn)
theorem cX.below{w w':World}(h:cX S w P)(hb:Below w.heap.size w w'):cX S w' P:=h.step hb.size (fun b hlt _=>hb.block b hlt) fun _ _ h=>h
theorem fU{w:World}{n:Nat}(h:aR w (.slice p k c) n xs)(hS:∀b,p.map (·.block)=some b->¬S b):cX S w fun W=>aR W (.slice p k c) n xs:=by
 intro w' hs hb;obtain⟨a,cap,he,hc,hm,h1|⟨b,off,h1,h2,h3⟩⟩:=h
 ·exact⟨a,cap,he,hc,hm,.inl h1⟩
 ·refine⟨a,cap,he,hc,hm,.inr ⟨b,off,h1,Nat.lt_of_lt_of_le h2 hs,fun i hi=>?_⟩⟩
  rw[<-h3 i hi];cases he;subst h1;have:=hb b h2 (hS b rfl);simp only[World.cell?,this]
abbrev qO(V:Vs)(G:Gt):Array Value:=#[.int .i64 G.cfg.flows,.int .i64 G.cfg.num,.int .i64 G.cfg.den,.int .i64 G.cfg.tries,.int .i64 G.cfg.warm,.int .i64 G.cfg.drain,.int .i64 G.cfg.idle,.int .i64 G.cfg.conn,.int .i64 G.cfg.ret,.int .i64 G.cfg.most,.int .i64 G.cfg.bn,.int .i64 G.cfg.bd,.int .i64 G.cfg.bb,.int .i64 G.cfg.wn,.int .i64 G.cfg.wf,.int .i64 G.cfg.wh,.int .i64 G.now,.slice V.pt G.tab.length V.ct,.slice V.pf G.fls.length V.cf,.slice V.pl G.liv.length V.cl,.slice V.pr G.req.length V.cr,.slice V.ps (ao G.wts).length V.cs,.slice (some ⟨V.bh,0,none⟩) 12 V.ch,.int .i64 G.tok,.int .i64 G.wnow,.slice V.pw 25 V.cw,.slice V.po G.out.length V.co]
structure aa(base:Nat)(w:World)(g:Nat)(V:Vs)(G:Gt):Prop where
 tab:cX (V.off base g) w fun W=>bS W (.slice V.pt G.tab.length V.ct) G.tab
 book:cX (V.off base g) w fun W=>fb W (.slice V.pl G.liv.length V.cl) (.slice V.pr G.req.length V.cr) G.liv G.req
 ring:cX (V.off base g) w fun W=>aO W (.slice V.ps (ao G.wts).length V.cs) (ao G.wts)
 whl:∃ls,cQ G.wnow ls/\(∀t,t∈ls.flatten↔G.tms t)/\cX (V.off base g) w fun W=>dh W (.slice V.pw 25 V.cw) ls
 fls:w.ownsRow base 87 7 (.slice V.pf G.fls.length V.cf) G.fls.length (rv ap G.fls)
 hea:w.ownsRow base 79 4 (.slice (some ⟨V.bh,0,none⟩) 12 V.ch) 12 (rv fD (V.ms.zip G.hea))
 msl:V.ms.length=12
 hel:G.hea.length=12
 marks:∀(i:Nat) (m:Mk) (h:He),V.ms[i]?=some m->G.hea[i]?=some h->cX (V.off base g) w fun W=>bK W (.slice m.1 h.marks.length m.2) h.marks
 out:w.ownsRow base 61 7 (.slice V.po G.out.length V.co) G.out.length (rv gT G.out)
 low:base<=g
 lt:g<w.heap.size
 hg:V.bh≠g
 fg:V.pf.map (·.block)≠some g
 fh:V.pf.map (·.block)≠some V.bh
 og:V.po.map (·.block)≠some g
 oh:V.po.map (·.block)≠some V.bh
 fo:∀b,V.pf.map (·.block)=some b->V.po.map (·.block)≠some b
 blk:aK w
 pos:0<base
structure ab(base:Nat)(w:World)(g:Nat)(V:Vs)(G:Gt):Prop where
 box:w.heap[g]?=some (.cells (qO V G) 109 (0,0))
 rest:aa base w g V G
section
variable {base:Nat}{w w':World}{g:Nat}{V:Vs}{G:Gt}
theorem cS(p:Option Addr)(n c:Nat):(Value.slice p n c).ownBlock=p.map (·.block):=by cases p <;> rfl
theorem ab.c0(h:ab base w g V G):w.cell? ⟨g,0,none⟩=some (.int .i64 G.cfg.flows):=by rw[cell_of_row w g 0 _ _ (0,0) h.box];rfl
theorem ab.c1(h:ab base w g V G):w.cell? ⟨g,1,none⟩=some (.int .i64 G.cfg.num):=by rw[cell_of_row w g 1 _ _ (0,0) h.box];rfl
theorem ab.c2(h:ab base w g V G):w.cell? ⟨g,2,none⟩=some (.int .i64 G.cfg.den):=by rw[cell_of_row w g 2 _ _ (0,0) h.box];rfl
theorem ab.c3(h:ab base w g V G):w.cell? ⟨g,3,none⟩=some (.int .i64 G.cfg.tries):=by rw[cell_of_row w g 3 _ _ (0,0) h.box];rfl
theorem ab.c4(h:ab base w g V G):w.cell? ⟨g,4,none⟩=some (.int .i64 G.cfg.warm):=by rw[cell_of_row w g 4 _ _ (0,0) h.box];rfl
theorem ab.c5(h:ab base w g V G):w.cell? ⟨g,5,none⟩=some (.int .i64 G.cfg.drain):=by rw[cell_of_row w g 5 _ _ (0,0) h.box];rfl
theorem ab.c6(h:ab base w g V G):w.cell? ⟨g,6,none⟩=some (.int .i64 G.cfg.idle):=by rw[cell_of_row w g 6 _ _ (0,0) h.box];rfl
theorem ab.c7(h:ab base w g V G):w.cell? ⟨g,7,none⟩=some (.int .i64 G.cfg.conn):=by rw[cell_of_row w g 7 _ _ (0,0) h.box];rfl
theorem ab.c8(h:ab base w g V G):w.cell? ⟨g,8,none⟩=some (.int .i64 G.cfg.ret):=by rw[cell_of_row w g 8 _ _ (0,0) h.box];rfl
theorem ab.c9(h:ab base w g V G):w.cell? ⟨g,9,none⟩=some (.int .i64 G.cfg.most):=by rw[cell_of_row w g 9 _ _ (0,0) h.box];rfl
theorem ab.Hf(h:ab base w g V G):w.cell? ⟨g,10,none⟩=some (.int .i64 G.cfg.bn):=by rw[cell_of_row w g 10 _ _ (0,0) h.box];rfl
theorem ab.Hn(h:ab base w g V G):w.cell? ⟨g,11,none⟩=some (.int .i64 G.cfg.bd):=by rw[cell_of_row w g 11 _ _ (0,0) h.box];rfl
theorem ab.Hg(h:ab base w g V G):w.cell? ⟨g,12,none⟩=some (.int .i64 G.cfg.bb):=by rw[cell_of_row w g 12 _ _ (0,0) h.box];rfl
theorem ab.GS(h:ab base w g V G):w.cell? ⟨g,13,none⟩=some (.int .i64 G.cfg.wn):=by rw[cell_of_row w g 13 _ _ (0,0) h.box];rfl
theorem ab.GU(h:ab base w g V G):w.cell? ⟨g,14,none⟩=some (.int .i64 G.cfg.wf):=by rw[cell_of_row w g 14 _ _ (0,0) h.box];rfl
theorem ab.GO(h:ab base w g V G):w.cell? ⟨g,15,none⟩=some (.int .i64 G.cfg.wh):=by rw[cell_of_row w g 15 _ _ (0,0) h.box];rfl
theorem ab.Gm(h:ab base w g V G):w.cell? ⟨g,16,none⟩=some (.int .i64 G.now):=by rw[cell_of_row w g 16 _ _ (0,0) h.box];rfl
theorem ab.Gs(h:ab base w g V G):w.cell? ⟨g,17,none⟩=some (.slice V.pt G.tab.length V.ct):=by rw[cell_of_row w g 17 _ _ (0,0) h.box];rfl
theorem ab.Gr(h:ab base w g V G):w.cell? ⟨g,18,none⟩=some (.slice V.pf G.fls.length V.cf):=by rw[cell_of_row w g 18 _ _ (0,0) h.box];rfl
theorem ab.Gn(h:ab base w g V G):w.cell? ⟨g,19,none⟩=some (.slice V.pl G.liv.length V.cl):=by rw[cell_of_row w g 19 _ _ (0,0) h.box];rfl
theorem ab.GD(h:ab base w g V G):w.cell? ⟨g,20,none⟩=some (.slice V.pr G.req.length V.cr):=by rw[cell_of_row w g 20 _ _ (0,0) h.box];rfl
theorem ab.GX(h:ab base w g V G):w.cell? ⟨g,21,none⟩=some (.slice V.ps (ao G.wts).length V.cs):=by rw[cell_of_row w g 21 _ _ (0,0) h.box];rfl
theorem ab.GI(h:ab base w g V G):w.cell? ⟨g,22,none⟩=some (.slice (some ⟨V.bh,0,none⟩) 12 V.ch):=by rw[cell_of_row w g 22 _ _ (0,0) h.box];rfl
theorem ab.Id(h:ab base w g V G):w.cell? ⟨g,23,none⟩=some (.int .i64 G.tok):=by rw[cell_of_row w g 23 _ _ (0,0) h.box];rfl
theorem ab.GJ(h:ab base w g V G):w.cell? ⟨g,24,none⟩=some (.int .i64 G.wnow):=by rw[cell_of_row w g 24 _ _ (0,0) h.box];rfl
theorem ab.GH(h:ab base w g V G):w.cell? ⟨g,25,none⟩=some (.slice V.pw 25 V.cw):=by rw[cell_of_row w g 25 _ _ (0,0) h.box];rfl
theorem ab.Ip(h:ab base w g V G):w.cell? ⟨g,26,none⟩=some (.slice V.po G.out.length V.co):=by rw[cell_of_row w g 26 _ _ (0,0) h.box];rfl
theorem ab.fz(h:ab base w g V G)(k:Nat):w.frozen? ⟨g,k,none⟩=false:=by simp[World.frozen?,h.box]
theorem ab.lt(h:ab base w g V G):g<w.heap.size:=h.rest.lt
theorem aa.step(h:aa base w g V G)(hs:w.heap.size<=w'.heap.size)(hb:∀b,b<w.heap.size->b≠g->w'.heap[b]?=w.heap[b]?):aa base w' g V G:=by
 have hA:∀ {P:World->Prop},cX (V.off base g) w P->cX (V.off base g) w' P:=fun hP=>hP.step hs (fun b hlt hn=>hb b hlt fun e=>hn (.inl (.inl e))) fun _ _ h=>h
 have hO:∀ {e:TypeId} {k:Nat} {p:Option Addr} {n c:Nat} {xs:List Value},w.ownsRow base e k (.slice p n c) n xs->p.map (·.block)≠some g->w'.ownsRow base e k (.slice p n c) n xs:=fun ho hne =>
  aw ho fun b hb'=>hb b (ho.lt b hb').2 fun e=>hne (by rw[<-cS _ _ _,hb',e])
 obtain⟨ls,h1,h2,h3⟩:=h.whl;exact⟨hA h.tab,hA h.book,hA h.ring,⟨ls,h1,h2,hA h3⟩,hO h.fls h.fg,hO h.hea (fun e=>h.hg (Option.some.inj e)),h.msl,h.hel,fun i m x e1 e2=>hA (h.marks i m x e1 e2),hO h.out h.og,h.low,Nat.lt_of_lt_of_le h.lt hs,h.hg,h.fg,h.fh,h.og,h.oh,h.fo,
  h.blk.Gf (hb 0 (Nat.lt_of_le_of_lt (Nat.zero_le _) h.lt) (by have:=h.low;have:=h.pos;omega)),h.pos⟩
theorem aa.below(h:aa base w g V G)(hb:Below w.heap.size w w'):aa base w' g V G:=h.step hb.size fun b hlt _=>hb.block b hlt
theorem ab.below(h:ab base w g V G)(hb:Below w.heap.size w w'):ab base w' g V G:=⟨af h.box hb,h.rest.below hb⟩
theorem ab.GW(h:ab base w g V G)(o:Obj):ab base (w.alloc o) g V G:=h.below ((Below.refl _ _).alloc (Nat.le_refl _) o)
theorem aa.F4(h:aa base w g V G)(k:Nat)(v:Value):aa base (w.setCell ⟨g,k,none⟩ v) g V G :=
 h.step (by simp) fun b _ hne=>Below.heap_setCell _ _ _ _ hne
end
section
variable {base:Nat}{w w':World}{g:Nat}{V:Vs}{G:Gt}
theorem aa.Ha(h:aa base w g V G)(hb:V.own g b):base<=b/\b<w.heap.size:=by
 rcases hb with rfl|rfl|e|e
 ·exact⟨h.low,h.lt⟩
 ·exact h.hea.lt _ rfl
 ·exact h.fls.lt b (by rw[cS];exact e)
 ·exact h.out.lt b (by rw[cS];exact e)
theorem aa.new(h:aa base w g V G)(hb:w.heap.size<=b):¬V.own g b:=fun e=>by have:=(h.Ha e).2;omega
theorem aa.GF(h:aa base w g V G)(hb:w.heap.size<=b):¬V.off base g b:=fun e=>e.elim (h.new hb) fun e=>by have:=h.low;have:=h.lt;omega
theorem aa.Jq(h:aa base w g V G)(hb:Below w.heap.size w w'){m:List FX}(ho:w'.ownsRow w.heap.size 83 4 (.slice p m.length c) m.length (aW m)):
  aa base w' g {V with pt:=p,ct:=c} {G with tab:=m}:=by
 have hr:=h.below hb;exact⟨fU (bP ho) (fun b e=>h.GF (ho.lt b (by rw[cS];exact e)).1),hr.book,hr.ring,hr.whl,hr.fls,hr.hea,hr.msl,hr.hel,hr.marks,hr.out,hr.low,hr.lt,hr.hg,hr.fg,hr.fh,hr.og,hr.oh,hr.fo,hr.blk,hr.pos⟩
theorem aa.IR(h:aa base w g V G)(hb:Below w.heap.size w w'){q:Option Addr}{R:List FY}(ho:bT w.heap.size w' (.slice p L.length c) (.slice q R.length k) L R):
  aa base w' g {V with pl:=p,cl:=c,pr:=q,cr:=k} {G with liv:=L,req:=R}:=by
 have hr:=h.below hb;exact⟨hr.tab,fun W h1 h2=>⟨fU ho.1.1 (fun b e=>h.GF (ho.2.1 b (by rw[cS];exact e))) W h1 h2,fU ho.1.2 (fun b e=>h.GF (ho.2.2 b (by rw[cS];exact e))) W h1 h2⟩,hr.ring,hr.whl,hr.fls,hr.hea,hr.msl,hr.hel,hr.marks,hr.out,hr.low,hr.lt,hr.hg,hr.fg,hr.fh,hr.og,hr.oh,hr.fo,hr.blk,hr.pos⟩
theorem aa.Js(h:aa base w g V G)(hb:Below w.heap.size w w'){a:List Int}(ho:w'.ownsRow w.heap.size 147 2 (.slice p (ao a).length c) (ao a).length (ag (ao a))):
  aa base w' g {V with ps:=p,cs:=c} {G with wts:=a}:=by
 have hr:=h.below hb;exact⟨hr.tab,hr.book,fU (bP ho) (fun b e=>h.GF (ho.lt b (by rw[cS];exact e)).1),hr.whl,hr.fls,hr.hea,hr.msl,hr.hel,hr.marks,hr.out,hr.low,hr.lt,hr.hg,hr.fg,hr.fh,hr.og,hr.oh,hr.fo,hr.blk,hr.pos⟩
theorem aa.I7(h:aa base w g V G)(hb:Below w.heap.size w w'){ls:List (List Tm)}(ho:jI w' w.heap.size p c ls)(hm:cQ n ls)(ht:∀t,t∈ls.flatten↔T t):
  aa base w' g {V with pw:=p,cw:=c} {G with wnow:=n,tms:=T}:=by
 have hr:=h.below hb;refine⟨hr.tab,hr.book,hr.ring,⟨ls,hm,ht,fun W h1 h2=>?_⟩,hr.fls,hr.hea,hr.msl,hr.hel,hr.marks,hr.out,hr.low,hr.lt,hr.hg,hr.fg,hr.fh,hr.og,hr.oh,hr.fo,hr.blk,hr.pos⟩;obtain⟨vs,ho⟩:=ho;have k:=ho.Gf (w':=W) fun b h3 h4=>h2 b h4 (h.GF h3)
 exact⟨vs,bP k.row,k.each.1,fun i h1 h2=>bP (k.each.2 i h1 h2)⟩
theorem aa.IB(h:aa base w g V G)(hs:w.heap.size<=w'.heap.size)(hb:∀b,b<w.heap.size->V.pf.map (·.block)≠some b->w'.heap[b]?=w.heap[b]?){m:List Fl}
  (ho:w'.ownsRow base 87 7 (.slice p m.length c) m.length (rv ap m)) (hp:∀b,p.map (·.block)=some b->V.pf.map (·.block)=some b\/w.heap.size<=b) :
  aa base w' g {V with pf:=p,cf:=c} {G with fls:=m}:=by
 have hA:∀ {P:World->Prop},cX (V.off base g) w P->cX (Vs.off {V with pf:=p,cf:=c} base g) w' P:=fun hP=>hP.step hs (fun b hlt hn=>hb b hlt fun e=>hn (.inl (.inr (.inr (.inl e))))) fun b hlt hS=>by
  rcases hS with(e|e|e|e)|e
  ·exact .inl (.inl e)
  ·exact .inl (.inr (.inl e))
  ·rcases hp b e with e|e
   ·exact .inl (.inr (.inr (.inl e)))
   ·omega
  ·exact .inl (.inr (.inr (.inr e)))
  ·exact .inr e
 have hne:∀b,V.own g b->V.pf.map (·.block)≠some b->p.map (·.block)≠some b:=fun b hb1 hb2 e=>by
  rcases hp b e with e|e
  ·exact hb2 e
  ·exact h.new e hb1
 obtain⟨ls,h1,h2,h3⟩:=h.whl;refine⟨hA h.tab,hA h.book,hA h.ring,⟨ls,h1,h2,hA h3⟩,ho,aw h.hea fun b e=>hb b (h.hea.lt b e).2 fun e2=>h.fh (by rw[e2,<-e];rfl),h.msl,h.hel,fun i m x e1 e2=>hA (h.marks i m x e1 e2),
  aw h.out fun b e=>hb b (h.out.lt b e).2 fun e2=>h.fo b e2 (by rw[<-e,cS]),h.low,Nat.lt_of_lt_of_le h.lt hs,h.hg,hne g (.inl rfl) h.fg,hne _ (.inr (.inl rfl)) h.fh,h.og,h.oh,fun b e1 e2=>?_,
  h.blk.Gf (hb 0 (Nat.lt_of_le_of_lt (Nat.zero_le _) h.lt) fun e=>by have:=(h.Ha (.inr (.inr (.inl e)))).1;have:=h.pos;omega),h.pos⟩
 exact hne b (.inr (.inr (.inr e2))) (fun e=>h.fo b e e2) e1
theorem aa.Jh(h:aa base w g V G)(hs:w.heap.size<=w'.heap.size)(hb:∀b,b<w.heap.size->V.po.map (·.block)≠some b->w'.heap[b]?=w.heap[b]?){m:List Ou}
  (ho:w'.ownsRow base 61 7 (.slice p m.length c) m.length (rv gT m)) (hp:∀b,p.map (·.block)=some b->V.po.map (·.block)=some b\/w.heap.size<=b) :
  aa base w' g {V with po:=p,co:=c} {G with out:=m}:=by
 have hA:∀ {P:World->Prop},cX (V.off base g) w P->cX (Vs.off {V with po:=p,co:=c} base g) w' P:=fun hP=>hP.step hs (fun b hlt hn=>hb b hlt fun e=>hn (.inl (.inr (.inr (.inr e))))) fun b hlt hS=>by
  rcases hS with(e|e|e|e)|e
  ·exact .inl (.inl e)
  ·exact .inl (.inr (.inl e))
  ·exact .inl (.inr (.inr (.inl e)))
  ·rcases hp b e with e|e
   ·exact .inl (.inr (.inr (.inr e)))
   ·omega
  ·exact .inr e
 have hne:∀b,V.own g b->V.po.map (·.block)≠some b->p.map (·.block)≠some b:=fun b hb1 hb2 e=>by
  rcases hp b e with e|e
  ·exact hb2 e
  ·exact h.new e hb1
 obtain⟨ls,h1,h2,h3⟩:=h.whl;refine⟨hA h.tab,hA h.book,hA h.ring,⟨ls,h1,h2,hA h3⟩,aw h.fls fun b e=>hb b (h.fls.lt b e).2 fun e2=>h.fo b (by rw[<-e,cS]) e2,aw h.hea fun b e=>hb b (h.hea.lt b e).2 fun e2=>h.oh (by rw[e2,<-e];rfl),h.msl,h.hel,fun i m x e1 e2=>hA (h.marks i m x e1 e2),
  ho,h.low,Nat.lt_of_lt_of_le h.lt hs,h.hg,h.fg,h.fh,hne g (.inl rfl) h.og,hne _ (.inr (.inl rfl)) h.oh,fun b e1=>hne b (.inr (.inr (.inl e1))) (h.fo b e1),
  h.blk.Gf (hb 0 (Nat.lt_of_le_of_lt (Nat.zero_le _) h.lt) fun e=>by have:=(h.Ha (.inr (.inr (.inr e)))).1;have:=h.pos;omega),h.pos⟩
theorem aa.Hd(h:aa base w g V G){bf:Nat}(hp:V.pf=some ⟨bf,0,none⟩){i:Nat}(hi:i<G.fls.length)(hj:j<7)(v:Value)(y:Fl)(hy:ap y=(ap G.fls[i]).set j v):
  aa base (w.setCell ⟨bf,i*7+j,none⟩ v) g V {G with fls:=G.fls.set i y}:=by
 have ho:=h.fls;rw[hp]at ho;have h1:=jN ba ho hi hj v y hy;rw[<-hp]at h1;have h2:=aa.IB (p:=V.pf) (c:=V.cf) (m:=G.fls.set i y) h (w':=w.setCell ⟨bf,i*7+j,none⟩ v) (by simp) (fun b _ hne=>Below.heap_setCell _ _ _ _ (fun e=>hne (by rw[hp,e];rfl))) (by rw[List.length_set];exact h1) fun b e=>.inl e
 exact h2
theorem uB(h:aa base w g V G){i:Nat}(hi:i<12):∃m x,V.ms[i]?=some m/\G.hea[i]?=some x/\(V.ms.zip G.hea)[i]?=some (m,x)/\G.hea.getD i bm=x:=by
 have h1:i<V.ms.length:=by rw[h.msl];exact hi
 have h2:i<G.hea.length:=by rw[h.hel];exact hi
 refine⟨V.ms[i],G.hea[i],List.getElem?_eq_getElem h1,List.getElem?_eq_getElem h2,?_,by simp[h2]⟩;rw[List.getElem?_eq_getElem (by simp;omega)];simp
theorem aa.Ir(h:aa base w g V G){i:Nat}(hi:i<12){x:He}(hm:cX (V.off base g) w fun W=>bK W (.slice p x.marks.length c) x.marks):
  aa base ((((w.setCell ⟨V.bh,i*4,none⟩ (.slice p x.marks.length c)).setCell ⟨V.bh,i*4+1,none⟩ (.bool x.out)).setCell ⟨V.bh,i*4+2,none⟩ (.int .i64 x.till)).setCell ⟨V.bh,i*4+3,none⟩ (.int .i64 x.times)) g {V with ms:=V.ms.set i (p,c)} {G with hea:=G.hea.set i x}:=by
 obtain⟨m0,x0,e1,e2,e3,e4⟩:=uB h hi;obtain⟨hz,e3'⟩:=List.getElem?_eq_some_iff.1 e3;have o1:=jN ii h.hea hz (j:=0) (by omega) (.slice p x.marks.length c) ((p,c),{x0 with marks:=x.marks}) (by rw[e3'];rfl);have o2:=jN ii o1 (i:=i) (by simpa using hz) (j:=1) (by omega) (.bool x.out) ((p,c),{x0 with marks:=x.marks,out:=x.out}) (by rw[List.getElem_set_self];rfl);have o3:=jN ii o2 (i:=i) (by simpa using hz) (j:=2) (by omega) (.int .i64 x.till) ((p,c),{x0 with marks:=x.marks,out:=x.out,till:=x.till}) (by rw[List.getElem_set_self];rfl);have o4:=jN ii o3 (i:=i) (by simpa using hz) (j:=3) (by omega) (.int .i64 x.times) ((p,c),x) (by rw[List.getElem_set_self];rfl);simp only[List.set_set,Nat.add_zero]at o4;have hzip:(V.ms.zip G.hea).set i ((p,c),x)=(V.ms.set i (p,c)).zip (G.hea.set i x):=by
  apply List.ext_getElem
  ·simp
  ·intro k h1 h2
   simp only[List.getElem_set,List.getElem_zip]
   split <;> rfl
 rw[hzip]at o4;have hbk:∀b,b<w.heap.size->b≠V.bh->((((w.setCell ⟨V.bh,i*4,none⟩ (.slice p x.marks.length c)).setCell ⟨V.bh,i*4+1,none⟩ (.bool x.out)).setCell ⟨V.bh,i*4+2,none⟩ (.int .i64 x.till)).setCell ⟨V.bh,i*4+3,none⟩ (.int .i64 x.times)).heap[b]?=w.heap[b]?:=fun b _ hne=>by
  rw[Below.heap_setCell _ _ _ _ hne,Below.heap_setCell _ _ _ _ hne,Below.heap_setCell _ _ _ _ hne,Below.heap_setCell _ _ _ _ hne]
 have hs:w.heap.size<=((((w.setCell ⟨V.bh,i*4,none⟩ (.slice p x.marks.length c)).setCell ⟨V.bh,i*4+1,none⟩ (.bool x.out)).setCell ⟨V.bh,i*4+2,none⟩ (.int .i64 x.till)).setCell ⟨V.bh,i*4+3,none⟩ (.int .i64 x.times)).heap.size:=by simp
 generalize ((((w.setCell ⟨V.bh,i*4,none⟩ (.slice p x.marks.length c)).setCell ⟨V.bh,i*4+1,none⟩ (.bool x.out)).setCell ⟨V.bh,i*4+2,none⟩ (.int .i64 x.till)).setCell ⟨V.bh,i*4+3,none⟩ (.int .i64 x.times))=w' at o4 hbk hs⊢;have hA:∀ {P:World->Prop},cX (V.off base g) w P->cX (V.off base g) w' P:=fun hP=>hP.step hs (fun b hlt hn=>hbk b hlt fun e=>hn (.inl (.inr (.inl e)))) fun _ _ h=>h
 obtain⟨ls,h1,h2,h3⟩:=h.whl;refine⟨hA h.tab,hA h.book,hA h.ring,⟨ls,h1,h2,hA h3⟩,aw h.fls fun b e=>hbk b (h.fls.lt b e).2 fun e2=>h.fh (by rw[<-e2,<-e,cS]),o4,by rw[List.length_set];exact h.msl,by rw[List.length_set];exact h.hel,fun k m y f1 f2=>?_,
  aw h.out fun b e=>hbk b (h.out.lt b e).2 fun e2=>h.oh (by rw[<-e2,<-e,cS]),h.low,Nat.lt_of_lt_of_le h.lt hs,h.hg,h.fg,h.fh,h.og,h.oh,h.fo,
  h.blk.Gf (hbk 0 (Nat.lt_of_le_of_lt (Nat.zero_le _) h.lt) fun e=>by have:=(h.Ha (.inr (.inl rfl))).1;have:=h.pos;omega),h.pos⟩
 by_cases hk:k=i
 ·subst hk
  rw[List.getElem?_set_self (by rw[h.msl];exact hi)]at f1;rw[List.getElem?_set_self (by rw[h.hel];exact hi)]at f2;cases f1;cases f2;exact hA hm
 ·rw[List.getElem?_set_ne (Ne.symm hk)]at f1 f2
  exact hA (h.marks k m y f1 f2)
theorem cP{cs cs':Array Value}{T:TypeId}(h:w.heap[g]?=some (.cells cs T (0,0))){v:Value}(he:cs.setIfInBounds k v=cs'):(w.setCell ⟨g,k,none⟩ v).heap[g]?=some (.cells cs' T (0,0)):=by
 rw[<-he];exact heap_setCell_same w g k cs T v h
theorem ab.Ja(h:ab base w g V G)(n:Int):ab base (w.setCell ⟨g,16,none⟩ (.int .i64 n)) g V {G with now:=n}:=
 ⟨cP h.box rfl,let r:=h.rest.F4 16 (.int .i64 n);⟨r.tab,r.book,r.ring,r.whl,r.fls,r.hea,r.msl,r.hel,r.marks,r.out,r.low,r.lt,r.hg,r.fg,r.fh,r.og,r.oh,r.fo,r.blk,r.pos⟩⟩
theorem ab.IC(h:ab base w g V G)(n:Int):ab base (w.setCell ⟨g,23,none⟩ (.int .i64 n)) g V {G with tok:=n}:=
 ⟨cP h.box rfl,let r:=h.rest.F4 23 (.int .i64 n);⟨r.tab,r.book,r.ring,r.whl,r.fls,r.hea,r.msl,r.hel,r.marks,r.out,r.low,r.lt,r.hg,r.fg,r.fh,r.og,r.oh,r.fo,r.blk,r.pos⟩⟩
theorem ab.Ix(h:ab base w g V G)(hb:Below w.heap.size w w'){m:List FX}(ho:w'.ownsRow w.heap.size 83 4 (.slice p m.length c) m.length (aW m)):
  ab base (w'.setCell ⟨g,17,none⟩ (.slice p m.length c)) g {V with pt:=p,ct:=c} {G with tab:=m}:=
 ⟨cP (af h.box hb) rfl,(h.rest.Jq hb ho).F4 _ _⟩
theorem ab.Iq(h:ab base w g V G)(hb:Below w.heap.size w w'){q:Option Addr}{R:List FY}(ho:bT w.heap.size w' (.slice p L.length c) (.slice q R.length k) L R):
  ab base ((w'.setCell ⟨g,19,none⟩ (.slice p L.length c)).setCell ⟨g,20,none⟩ (.slice q R.length k)) g {V with pl:=p,cl:=c,pr:=q,cr:=k} {G with liv:=L,req:=R}:=
 ⟨cP (cP (af h.box hb) rfl) rfl,((h.rest.IR hb ho).F4 _ _).F4 _ _⟩
theorem ab.IJ(h:ab base w g V G)(hb:Below w.heap.size w w'){a:List Int}(ho:w'.ownsRow w.heap.size 147 2 (.slice p (ao a).length c) (ao a).length (ag (ao a))):
  ab base (w'.setCell ⟨g,21,none⟩ (.slice p (ao a).length c)) g {V with ps:=p,cs:=c} {G with wts:=a}:=
 ⟨cP (af h.box hb) rfl,(h.rest.Js hb ho).F4 _ _⟩
theorem ab.Ih(h:ab base w g V G)(hb:Below w.heap.size w w'){ls:List (List Tm)}(ho:jI w' w.heap.size p c ls)(hm:cQ n ls)(ht:∀t,t∈ls.flatten↔T t):
  ab base ((w'.setCell ⟨g,24,none⟩ (.int .i64 n)).setCell ⟨g,25,none⟩ (.slice p 25 c)) g {V with pw:=p,cw:=c} {G with wnow:=n,tms:=T}:=
 ⟨cP (cP (af h.box hb) rfl) rfl,((h.rest.I7 hb ho hm ht).F4 _ _).F4 _ _⟩
theorem ab.IU(h:ab base w g V G)(hs:w.heap.size<=w'.heap.size)(hb:∀b,b<w.heap.size->V.pf.map (·.block)≠some b->w'.heap[b]?=w.heap[b]?){m:List Fl}
  (ho:w'.ownsRow base 87 7 (.slice p m.length c) m.length (rv ap m)) (hp:∀b,p.map (·.block)=some b->V.pf.map (·.block)=some b\/w.heap.size<=b) :
  ab base (w'.setCell ⟨g,18,none⟩ (.slice p m.length c)) g {V with pf:=p,cf:=c} {G with fls:=m}:=
 ⟨cP ((hb g h.lt h.rest.fg).trans h.box) rfl,(h.rest.IB hs hb ho hp).F4 _ _⟩
theorem ab.Jw(h:ab base w g V G)(hs:w.heap.size<=w'.heap.size)(hb:∀b,b<w.heap.size->V.po.map (·.block)≠some b->w'.heap[b]?=w.heap[b]?){m:List Ou}
  (ho:w'.ownsRow base 61 7 (.slice p m.length c) m.length (rv gT m)) (hp:∀b,p.map (·.block)=some b->V.po.map (·.block)=some b\/w.heap.size<=b) :
  ab base (w'.setCell ⟨g,26,none⟩ (.slice p m.length c)) g {V with po:=p,co:=c} {G with out:=m}:=
 ⟨cP ((hb g h.lt h.rest.og).trans h.box) rfl,(h.rest.Jh hs hb ho hp).F4 _ _⟩
theorem ab.Hd(h:ab base w g V G){bf:Nat}(hp:V.pf=some ⟨bf,0,none⟩){i:Nat}(hi:i<G.fls.length)(hj:j<7)(v:Value)(y:Fl)(hy:ap y=(ap G.fls[i]).set j v):
  ab base (w.setCell ⟨bf,i*7+j,none⟩ v) g V {G with fls:=G.fls.set i y}:=by
 refine⟨?_,h.rest.Hd hp hi hj v y hy⟩;rw[Below.heap_setCell _ _ _ _ (fun e=>h.rest.fg (by rw[hp];exact congrArg some e.symm)),h.box];simp only[qO,List.length_set]
theorem ab.Ir(h:ab base w g V G){i:Nat}(hi:i<12){x:He}(hm:cX (V.off base g) w fun W=>bK W (.slice p x.marks.length c) x.marks):
  ab base ((((w.setCell ⟨V.bh,i*4,none⟩ (.slice p x.marks.length c)).setCell ⟨V.bh,i*4+1,none⟩ (.bool x.out)).setCell ⟨V.bh,i*4+2,none⟩ (.int .i64 x.till)).setCell ⟨V.bh,i*4+3,none⟩ (.int .i64 x.times)) g {V with ms:=V.ms.set i (p,c)} {G with hea:=G.hea.set i x}:=by
 refine⟨?_,h.rest.Ir hi hm⟩;have hne:g≠V.bh:=fun e=>h.rest.hg e.symm
 rw[Below.heap_setCell _ _ _ _ hne,Below.heap_setCell _ _ _ _ hne,Below.heap_setCell _ _ _ _ hne,Below.heap_setCell _ _ _ _ hne];exact h.box
end
abbrev dM(f:Fl):Value:=.agg #[.int .i64 f.slot,.int .i64 f.gen,.int .i64 f.key,.int .i64 f.be,.bool f.srv,.int .i64 f.ret,.int .i64 f.due]
abbrev dS(w:World)(v:Value)(l:List Fl):Prop:=bj ap w v l
theorem dS.F6{w:World}{v:Value}(h:dS w v l):
  ∃a cap,v=.slice a l.length cap/\l.length<=cap/\cap<=maxLen/\∀i (hi:i<l.length),∃b off,a=some ⟨b,off,none⟩/\b<w.heap.size/\w.cell? ⟨b,off+i*7,none⟩=some (.int .i64 l[i].slot)/\w.cell? ⟨b,off+i*7+1,none⟩=some (.int .i64 l[i].gen)/\w.cell? ⟨b,off+i*7+2,none⟩=some (.int .i64 l[i].key)/\w.cell? ⟨b,off+i*7+3,none⟩=some (.int .i64 l[i].be)/\w.cell? ⟨b,off+i*7+4,none⟩=some (.bool l[i].srv)/\w.cell? ⟨b,off+i*7+5,none⟩=some (.int .i64 l[i].ret)/\w.cell? ⟨b,off+i*7+6,none⟩=some (.int .i64 l[i].due):=by
 obtain⟨a,cap,h1,h2,h3,h4⟩:=bj.F6 ba h;refine⟨a,cap,h1,h2,h3,fun i hi=>?_⟩;obtain⟨b,off,e1,e2,e3⟩:=h4 i hi;exact⟨b,off,e1,e2,(e3 0 (by omega)).trans rfl,(e3 1 (by omega)).trans rfl,(e3 2 (by omega)).trans rfl,(e3 3 (by omega)).trans rfl,(e3 4 (by omega)).trans rfl,(e3 5 (by omega)).trans rfl,(e3 6 (by omega)).trans rfl⟩
theorem om{α:Type}{p:α->Bool}{l:List α}:decide (0<=bz (l.findIdx p) l.length)=l.any p:=by
 unfold bz
 by_cases h:l.findIdx p<l.length
 ·rw[if_pos h]
  have:l.any p=true:=List.any_eq_true.2 ⟨l[l.findIdx p],List.getElem_mem h,List.findIdx_getElem (w:=h)⟩;rw[this];simp
 ·rw[if_neg h]
  have:l.any p=false:=by
   rw[List.any_eq_false];intro x hx hp;exact h (List.findIdx_lt_length_of_exists ⟨x,hx,hp⟩)
  rw[this];rfl
theorem Dj(f:Fl)(n:Int)(g:Nat)(w:World)(hc:w.cell? ⟨g,0,none⟩=some (.int .i64 n)) :
  Calls Tryz.prog 138 #[dM f,.pointer (some ⟨g,0,none⟩)] w fun r w'=>r=.returned (.bool (f.slot == n))/\Below w.heap.size w w':=by
 have hlt:g<w.heap.size:=World.block_lt_of_cell? w ⟨g,0,none⟩ hc;go_enter Tryz.func138,Tryz.ntmps138;go_wp2;go_ret;exact⟨rfl,ai w⟩
theorem Cs(v:Value)(l:List Fl)(n:Int)(g:Nat)(w:World)(hv:dS w v l)(hc:w.cell? ⟨g,0,none⟩=some (.int .i64 n)) :
  Calls Tryz.prog 132 #[v,.func (.func 138) #[] #[.pointer (some ⟨g,0,none⟩)]] w fun r w'=>r=.returned (.int .i64 (bz (l.findIdx (fun f=>f.slot == n)) l.length))/\Below w.heap.size w w':=by
 obtain⟨q,hq0⟩:∃q:Fl->Bool,q=(fun f=>f.slot == n):=⟨_,rfl⟩;obtain⟨a,ca,rfl,hca,hma,pa⟩:=dS.F6 hv;unfold maxLen at hma;have hglt:=World.block_lt_of_cell? w ⟨g,0,none⟩ hc;have HQ:Hid (∀(x:Fl) (W:World),Below w.heap.size w W->Calls Tryz.prog 138 #[dM x,.pointer (some ⟨g,0,none⟩)] W fun r w'=>r=.returned (.bool (q x))/\Below W.heap.size W w'):=by
  rw[hq0];exact fun x W hb=>Dj x n g W ((hb.cell (p:=⟨g,0,none⟩) hglt).trans hc)
 rw[<-hq0];obtain⟨ans,hans⟩:∃ans,ans=bz (l.findIdx q) l.length:=⟨_,rfl⟩;rw[<-hans];have H:Hid _:=hans;clear hv hans hq0 hc;go_enter Tryz.func132,Tryz.ntmps132;go_wp2
 go_loopw [8] (fun i wr=>∃k:Nat,i=.int .i64 k/\k<=l.length/\(∀t∈l.take k,q t=false)/\Below w.heap.size w wr) (fun i _=>l.length-(intOf i).toNat)
 case atStart=>exact⟨0,rfl,Nat.zero_le _,by simp,Below.refl _ _⟩
 case round =>
  obtain⟨k,rfl,hk,hall,hbr⟩:=hrel
  by_cases hlt:k<l.length
  ·obtain⟨b1,o1,rfl,hb1,c1,c2,c3,c4,c5,c6,c7⟩:=pa k hlt
   have e1:=(hbr.cell (p:=⟨b1,o1+k*7,none⟩) hb1).trans c1;have e2:=(hbr.cell (p:=⟨b1,o1+k*7+1,none⟩) hb1).trans c2;have e3:=(hbr.cell (p:=⟨b1,o1+k*7+2,none⟩) hb1).trans c3;have e4:=(hbr.cell (p:=⟨b1,o1+k*7+3,none⟩) hb1).trans c4;have e5:=(hbr.cell (p:=⟨b1,o1+k*7+4,none⟩) hb1).trans c5;have e6:=(hbr.cell (p:=⟨b1,o1+k*7+5,none⟩) hb1).trans c6;have e7:=(hbr.cell (p:=⟨b1,o1+k*7+6,none⟩) hb1).trans c7;have HA:Hid (_/\_):=⟨hall,hbr⟩;have hkI:(k:Int)<(l.length:Int):=by omega
   have htk:l.take (k+1)=l.take k++[l[k]]:=List.take_succ_eq_append_getElem hlt;have hfs:q l[k]=true->l.findIdx q=k:=fun h=>gJ hlt hall h
   have hxk:∃x,x=l[k]:=⟨_,rfl⟩;obtain⟨x,hxk⟩:=hxk;rw[<-hxk]at e1 e2 e3 e4 e5 e6 e7 htk hfs;have HX:Hid (_/\_):=⟨htk,hfs⟩;clear hall hbr c1 c2 c3 c4 c5 c6 c7 hb1 pa htk hfs hxk;cases hd:q x
   ·go_wp2_with fail
    refine(HQ.out x _ HA.out.2).mono ?_;rw[hd];rintro r w2 ⟨rfl,hb2⟩;have H2:Hid _:=hb2;clear hb2;go_wp2
    go_roundw
    case rel =>
     refine⟨k+1,by simp,hlt,fun t ht=>?_,HA.out.2.trans (H2.out.mono HA.out.2.size)⟩;rw[HX.out.1]at ht;rcases List.mem_append.1 ht with ht|ht
     ·exact HA.out.1 t ht
     ·simp at ht
      rw[ht];exact hd
    case measure=>simp[intOf];omega
   ·go_wp2_with fail
    refine(HQ.out x _ HA.out.2).mono ?_;rw[hd];rintro r w2 ⟨rfl,hb2⟩;have HE:Hid (ans=(k:Int)):=by show ans=_;rw[H.out,HX.out.2 hd];exact if_pos hlt
    have H2:Hid _:=hb2;clear hb2;go_wp2;go_ret;exact⟨by rw[HE.out];rfl,HA.out.2.trans (H2.out.mono HA.out.2.size)⟩
  ·have HE:Hid (ans = -1):=by
    show ans=_;rw[H.out,ib fun t ht=>hall t (by rw[List.take_of_length_le (by omega)];exact ht)];exact if_neg (Nat.lt_irrefl _)
   have HB:Hid _:=hbr;clear hall hbr pa;go_wp2;go_ret;exact⟨by rw[HE.out];rfl,HB.out⟩
theorem Cy(f:Fl)(n:Int)(g:Nat)(w:World)(hc:w.cell? ⟨g,0,none⟩=some (.int .i64 n)) :
  Calls Tryz.prog 133 #[dM f,.pointer (some ⟨g,0,none⟩)] w fun r w'=>r=.returned (.bool (decide (n<f.slot)))/\Below w.heap.size w w':=by
 have hlt:g<w.heap.size:=World.block_lt_of_cell? w ⟨g,0,none⟩ hc;go_enter Tryz.func133,Tryz.ntmps133;go_wp2;go_ret;exact⟨rfl,ai w⟩
theorem zE(v:Value)(l:List Fl)(n:Int)(g:Nat)(w:World)(hv:dS w v l)(hc:w.cell? ⟨g,0,none⟩=some (.int .i64 n)) :
  Calls Tryz.prog 132 #[v,.func (.func 133) #[] #[.pointer (some ⟨g,0,none⟩)]] w fun r w'=>r=.returned (.int .i64 (bz (l.findIdx (fun f=>decide (n<f.slot))) l.length))/\Below w.heap.size w w':=by
 obtain⟨q,hq0⟩:∃q:Fl->Bool,q=(fun f=>decide (n<f.slot)):=⟨_,rfl⟩;obtain⟨a,ca,rfl,hca,hma,pa⟩:=dS.F6 hv;unfold maxLen at hma;have hglt:=World.block_lt_of_cell? w ⟨g,0,none⟩ hc;have HQ:Hid (∀(x:Fl) (W:World),Below w.heap.size w W->Calls Tryz.prog 133 #[dM x,.pointer (some ⟨g,0,none⟩)] W fun r w'=>r=.returned (.bool (q x))/\Below W.heap.size W w'):=by
  rw[hq0];exact fun x W hb=>Cy x n g W ((hb.cell (p:=⟨g,0,none⟩) hglt).trans hc)
 rw[<-hq0];obtain⟨ans,hans⟩:∃ans,ans=bz (l.findIdx q) l.length:=⟨_,rfl⟩;rw[<-hans];have H:Hid _:=hans;clear hv hans hq0 hc;go_enter Tryz.func132,Tryz.ntmps132;go_wp2
 go_loopw [8] (fun i wr=>∃k:Nat,i=.int .i64 k/\k<=l.length/\(∀t∈l.take k,q t=false)/\Below w.heap.size w wr) (fun i _=>l.length-(intOf i).toNat)
 case atStart=>exact⟨0,rfl,Nat.zero_le _,by simp,Below.refl _ _⟩
 case round =>
  obtain⟨k,rfl,hk,hall,hbr⟩:=hrel
  by_cases hlt:k<l.length
  ·obtain⟨b1,o1,rfl,hb1,c1,c2,c3,c4,c5,c6,c7⟩:=pa k hlt
   have e1:=(hbr.cell (p:=⟨b1,o1+k*7,none⟩) hb1).trans c1;have e2:=(hbr.cell (p:=⟨b1,o1+k*7+1,none⟩) hb1).trans c2;have e3:=(hbr.cell (p:=⟨b1,o1+k*7+2,none⟩) hb1).trans c3;have e4:=(hbr.cell (p:=⟨b1,o1+k*7+3,none⟩) hb1).trans c4;have e5:=(hbr.cell (p:=⟨b1,o1+k*7+4,none⟩) hb1).trans c5;have e6:=(hbr.cell (p:=⟨b1,o1+k*7+5,none⟩) hb1).trans c6;have e7:=(hbr.cell (p:=⟨b1,o1+k*7+6,none⟩) hb1).trans c7;have HA:Hid (_/\_):=⟨hall,hbr⟩;have hkI:(k:Int)<(l.length:Int):=by omega
   have htk:l.take (k+1)=l.take k++[l[k]]:=List.take_succ_eq_append_getElem hlt;have hfs:q l[k]=true->l.findIdx q=k:=fun h=>gJ hlt hall h
   have hxk:∃x,x=l[k]:=⟨_,rfl⟩;obtain⟨x,hxk⟩:=hxk;rw[<-hxk]at e1 e2 e3 e4 e5 e6 e7 htk hfs;have HX:Hid (_/\_):=⟨htk,hfs⟩;clear hall hbr c1 c2 c3 c4 c5 c6 c7 hb1 pa htk hfs hxk;cases hd:q x
   ·go_wp2_with fail
    refine(HQ.out x _ HA.out.2).mono ?_;rw[hd];rintro r w2 ⟨rfl,hb2⟩;have H2:Hid _:=hb2;clear hb2;go_wp2
    go_roundw
    case rel =>
     refine⟨k+1,by simp,hlt,fun t ht=>?_,HA.out.2.trans (H2.out.mono HA.out.2.size)⟩;rw[HX.out.1]at ht;rcases List.mem_append.1 ht with ht|ht
     ·exact HA.out.1 t ht
     ·simp at ht
      rw[ht];exact hd
    case measure=>simp[intOf];omega
   ·go_wp2_with fail
    refine(HQ.out x _ HA.out.2).mono ?_;rw[hd];rintro r w2 ⟨rfl,hb2⟩;have HE:Hid (ans=(k:Int)):=by show ans=_;rw[H.out,HX.out.2 hd];exact if_pos hlt
    have H2:Hid _:=hb2;clear hb2;go_wp2;go_ret;exact⟨by rw[HE.out];rfl,HA.out.2.trans (H2.out.mono HA.out.2.size)⟩
  ·have HE:Hid (ans = -1):=by
    show ans=_;rw[H.out,ib fun t ht=>hall t (by rw[List.take_of_length_le (by omega)];exact ht)];exact if_neg (Nat.lt_irrefl _)
   have HB:Hid _:=hbr;clear hall hbr pa;go_wp2;go_ret;exact⟨by rw[HE.out];rfl,HB.out⟩
theorem Ch(f:Fl)(n:Int)(g:Nat)(w:World)(hc:w.cell? ⟨g,0,none⟩=some (.int .i64 n)) :
  Calls Tryz.prog 162 #[dM f,.pointer (some ⟨g,0,none⟩)] w fun r w'=>r=.returned (.bool (f.be == n))/\Below w.heap.size w w':=by
 have hlt:g<w.heap.size:=World.block_lt_of_cell? w ⟨g,0,none⟩ hc;go_enter Tryz.func162,Tryz.ntmps162;go_wp2;go_ret;exact⟨rfl,ai w⟩
theorem xw(v:Value)(l:List Fl)(n:Int)(g:Nat)(w:World)(hv:dS w v l)(hc:w.cell? ⟨g,0,none⟩=some (.int .i64 n)) :
  Calls Tryz.prog 132 #[v,.func (.func 162) #[] #[.pointer (some ⟨g,0,none⟩)]] w fun r w'=>r=.returned (.int .i64 (bz (l.findIdx (fun f=>f.be == n)) l.length))/\Below w.heap.size w w':=by
 obtain⟨q,hq0⟩:∃q:Fl->Bool,q=(fun f=>f.be == n):=⟨_,rfl⟩;obtain⟨a,ca,rfl,hca,hma,pa⟩:=dS.F6 hv;unfold maxLen at hma;have hglt:=World.block_lt_of_cell? w ⟨g,0,none⟩ hc;have HQ:Hid (∀(x:Fl) (W:World),Below w.heap.size w W->Calls Tryz.prog 162 #[dM x,.pointer (some ⟨g,0,none⟩)] W fun r w'=>r=.returned (.bool (q x))/\Below W.heap.size W w'):=by
  rw[hq0];exact fun x W hb=>Ch x n g W ((hb.cell (p:=⟨g,0,none⟩) hglt).trans hc)
 rw[<-hq0];obtain⟨ans,hans⟩:∃ans,ans=bz (l.findIdx q) l.length:=⟨_,rfl⟩;rw[<-hans];have H:Hid _:=hans;clear hv hans hq0 hc;go_enter Tryz.func132,Tryz.ntmps132;go_wp2
 go_loopw [8] (fun i wr=>∃k:Nat,i=.int .i64 k/\k<=l.length/\(∀t∈l.take k,q t=false)/\Below w.heap.size w wr) (fun i _=>l.length-(intOf i).toNat)
 case atStart=>exact⟨0,rfl,Nat.zero_le _,by simp,Below.refl _ _⟩
 case round =>
  obtain⟨k,rfl,hk,hall,hbr⟩:=hrel
  by_cases hlt:k<l.length
  ·obtain⟨b1,o1,rfl,hb1,c1,c2,c3,c4,c5,c6,c7⟩:=pa k hlt
   have e1:=(hbr.cell (p:=⟨b1,o1+k*7,none⟩) hb1).trans c1;have e2:=(hbr.cell (p:=⟨b1,o1+k*7+1,none⟩) hb1).trans c2;have e3:=(hbr.cell (p:=⟨b1,o1+k*7+2,none⟩) hb1).trans c3;have e4:=(hbr.cell (p:=⟨b1,o1+k*7+3,none⟩) hb1).trans c4;have e5:=(hbr.cell (p:=⟨b1,o1+k*7+4,none⟩) hb1).trans c5;have e6:=(hbr.cell (p:=⟨b1,o1+k*7+5,none⟩) hb1).trans c6;have e7:=(hbr.cell (p:=⟨b1,o1+k*7+6,none⟩) hb1).trans c7;have HA:Hid (_/\_):=⟨hall,hbr⟩;have hkI:(k:Int)<(l.length:Int):=by omega
   have htk:l.take (k+1)=l.take k++[l[k]]:=List.take_succ_eq_append_getElem hlt;have hfs:q l[k]=true->l.findIdx q=k:=fun h=>gJ hlt hall h
   have hxk:∃x,x=l[k]:=⟨_,rfl⟩;obtain⟨x,hxk⟩:=hxk;rw[<-hxk]at e1 e2 e3 e4 e5 e6 e7 htk hfs;have HX:Hid (_/\_):=⟨htk,hfs⟩;clear hall hbr c1 c2 c3 c4 c5 c6 c7 hb1 pa htk hfs hxk;cases hd:q x
   ·go_wp2_with fail
    refine(HQ.out x _ HA.out.2).mono ?_;rw[hd];rintro r w2 ⟨rfl,hb2⟩;have H2:Hid _:=hb2;clear hb2;go_wp2
    go_roundw
    case rel =>
     refine⟨k+1,by simp,hlt,fun t ht=>?_,HA.out.2.trans (H2.out.mono HA.out.2.size)⟩;rw[HX.out.1]at ht;rcases List.mem_append.1 ht with ht|ht
     ·exact HA.out.1 t ht
     ·simp at ht
      rw[ht];exact hd
    case measure=>simp[intOf];omega
   ·go_wp2_with fail
    refine(HQ.out x _ HA.out.2).mono ?_;rw[hd];rintro r w2 ⟨rfl,hb2⟩;have HE:Hid (ans=(k:Int)):=by show ans=_;rw[H.out,HX.out.2 hd];exact if_pos hlt
    have H2:Hid _:=hb2;clear hb2;go_wp2;go_ret;exact⟨by rw[HE.out];rfl,HA.out.2.trans (H2.out.mono HA.out.2.size)⟩
  ·have HE:Hid (ans = -1):=by
    show ans=_;rw[H.out,ib fun t ht=>hall t (by rw[List.take_of_length_le (by omega)];exact ht)];exact if_neg (Nat.lt_irrefl _)
   have HB:Hid _:=hbr;clear hall hbr pa;go_wp2;go_ret;exact⟨by rw[HE.out];rfl,HB.out⟩
theorem sk(v:Value)(l:List Fl)(n:Int)(g:Nat)(w:World)(hv:dS w v l)(hc:w.cell? ⟨g,0,none⟩=some (.int .i64 n)) :
  Calls Tryz.prog 127 #[v,.func (.func 162) #[] #[.pointer (some ⟨g,0,none⟩)]] w fun r w'=>r=.returned (.bool (l.any (fun f=>f.be == n)))/\Below w.heap.size w w':=by
 rw[<-om];have HV:Hid _:=xw v l n g w hv hc;obtain⟨ix,hix⟩:∃ix,ix=bz (l.findIdx (fun f=>f.be == n)) l.length:=⟨_,rfl⟩;rw[<-hix]at HV⊢;clear hix hv;go_enter Tryz.func127,Tryz.ntmps127
 go_wp2_with fail
 refine Calls.mono HV.out ?_;rintro r w1 ⟨rfl,hb⟩;have HB:Hid _:=hb;clear hb;go_wp2;go_ret;exact⟨rfl,HB.out⟩
theorem yH(x1 x2 x3 x4 x5 x6:Int)(n:Int)(g:Nat)(w:World)(hc:w.cell? ⟨g,0,none⟩=some (.int .i64 n)) :
  Calls Tryz.prog 150 #[dB x1 x2 x3 x4 x5 x6,.pointer (some ⟨g,0,none⟩)] w fun r w'=>r=.returned (.bool (x1 == n))/\Below w.heap.size w w':=by
 have hlt:g<w.heap.size:=World.block_lt_of_cell? w ⟨g,0,none⟩ hc;go_enter Tryz.func150,Tryz.ntmps150;go_wp2;go_ret;exact⟨rfl,ai w⟩
theorem uj(v:Value)(l:List FV)(n:Int)(g:Nat)(w:World)(hv:jH w v l)(hc:w.cell? ⟨g,0,none⟩=some (.int .i64 n)) :
  Calls Tryz.prog 149 #[v,.func (.func 150) #[] #[.pointer (some ⟨g,0,none⟩)]] w fun r w'=>r=.returned (.int .i64 (bz (l.findIdx (fun x=>x.1 == n)) l.length))/\Below w.heap.size w w':=by
 obtain⟨q,hq0⟩:∃q:FV->Bool,q=(fun x=>x.1 == n):=⟨_,rfl⟩;obtain⟨a,ca,rfl,hca,hma,pa⟩:=jH.F6 hv;unfold maxLen at hma;have hglt:=World.block_lt_of_cell? w ⟨g,0,none⟩ hc;have HQ:Hid (∀(x1 x2 x3 x4 x5 x6:Int) (W:World),Below w.heap.size w W->Calls Tryz.prog 150 #[dB x1 x2 x3 x4 x5 x6,.pointer (some ⟨g,0,none⟩)] W fun r w'=>r=.returned (.bool (q (x1,x2,x3,x4,x5,x6)))/\Below W.heap.size W w'):=by
  rw[hq0];exact fun x1 x2 x3 x4 x5 x6 W hb=>yH x1 x2 x3 x4 x5 x6 n g W ((hb.cell (p:=⟨g,0,none⟩) hglt).trans hc)
 rw[<-hq0];obtain⟨ans,hans⟩:∃ans,ans=bz (l.findIdx q) l.length:=⟨_,rfl⟩;rw[<-hans];have H:Hid _:=hans;clear hv hans hq0 hc;go_enter Tryz.func149,Tryz.ntmps149;go_wp2
 go_loopw [8] (fun i wr=>∃k:Nat,i=.int .i64 k/\k<=l.length/\(∀t∈l.take k,q t=false)/\Below w.heap.size w wr) (fun i _=>l.length-(intOf i).toNat)
 case atStart=>exact⟨0,rfl,Nat.zero_le _,by simp,Below.refl _ _⟩
 case round =>
  obtain⟨k,rfl,hk,hall,hbr⟩:=hrel
  by_cases hlt:k<l.length
  ·obtain⟨b1,o1,rfl,hb1,c1,c2,c3,c4,c5,c6⟩:=pa k hlt
   have e1:=(hbr.cell (p:=⟨b1,o1+k*6,none⟩) hb1).trans c1;have e2:=(hbr.cell (p:=⟨b1,o1+k*6+1,none⟩) hb1).trans c2;have e3:=(hbr.cell (p:=⟨b1,o1+k*6+2,none⟩) hb1).trans c3;have e4:=(hbr.cell (p:=⟨b1,o1+k*6+3,none⟩) hb1).trans c4;have e5:=(hbr.cell (p:=⟨b1,o1+k*6+4,none⟩) hb1).trans c5;have e6:=(hbr.cell (p:=⟨b1,o1+k*6+5,none⟩) hb1).trans c6;have HA:Hid (_/\_):=⟨hall,hbr⟩;have hkI:(k:Int)<(l.length:Int):=by omega
   have htk:l.take (k+1)=l.take k++[l[k]]:=List.take_succ_eq_append_getElem hlt;have hfs:q l[k]=true->l.findIdx q=k:=fun h=>gJ hlt hall h
   have hxk:∃x,x=l[k]:=⟨_,rfl⟩;obtain⟨⟨x1,x2,x3,x4,x5,x6⟩,hxk⟩:=hxk;rw[<-hxk]at e1 e2 e3 e4 e5 e6 htk hfs;have HX:Hid (_/\_):=⟨htk,hfs⟩;clear hall hbr c1 c2 c3 c4 c5 c6 hb1 pa htk hfs hxk;cases hd:q (x1,x2,x3,x4,x5,x6)
   ·go_wp2_with fail
    refine(HQ.out x1 x2 x3 x4 x5 x6 _ HA.out.2).mono ?_;rw[hd];rintro r w2 ⟨rfl,hb2⟩;have H2:Hid _:=hb2;clear hb2;go_wp2
    go_roundw
    case rel =>
     refine⟨k+1,by simp,hlt,fun t ht=>?_,HA.out.2.trans (H2.out.mono HA.out.2.size)⟩;rw[HX.out.1]at ht;rcases List.mem_append.1 ht with ht|ht
     ·exact HA.out.1 t ht
     ·simp at ht
      rw[ht];exact hd
    case measure=>simp[intOf];omega
   ·go_wp2_with fail
    refine(HQ.out x1 x2 x3 x4 x5 x6 _ HA.out.2).mono ?_;rw[hd];rintro r w2 ⟨rfl,hb2⟩;have HE:Hid (ans=(k:Int)):=by show ans=_;rw[H.out,HX.out.2 hd];exact if_pos hlt
    have H2:Hid _:=hb2;clear hb2;go_wp2;go_ret;exact⟨by rw[HE.out];rfl,HA.out.2.trans (H2.out.mono HA.out.2.size)⟩
  ·have HE:Hid (ans = -1):=by
    show ans=_;rw[H.out,ib fun t ht=>hall t (by rw[List.take_of_length_le (by omega)];exact ht)];exact if_neg (Nat.lt_irrefl _)
   have HB:Hid _:=hbr;clear hall hbr pa;go_wp2;go_ret;exact⟨by rw[HE.out];rfl,HB.out⟩
theorem Dt(x1:Int)(x2:Bool)(x3 x4:Int)(w:World) :
  Calls Tryz.prog 89 #[.agg #[.int .i64 x1,.bool x2,.int .i64 x3,.int .i64 x4]] w fun r w'=>r=.returned (.bool (eu (x1,x2,x3,x4)))/\Below w.heap.size w w':=by
 cases x2
 ·go_enter Tryz.func89,Tryz.ntmps89
  go_wp2;go_ret;exact⟨rfl,ai w⟩
 ·go_enter Tryz.func89,Tryz.ntmps89
  go_wp2;go_ret;exact⟨rfl,ai w⟩
theorem AE(v:Value)(l:List FX)(w:World)(hv:bS w v l) :
  Calls Tryz.prog 111 #[v,.func (.func 89) #[] #[]] w fun r w'=>r=.returned (.int .i64 (bz (l.findIdx (eu)) l.length))/\Below w.heap.size w w':=by
 obtain⟨q,hq0⟩:∃q:FX->Bool,q=(eu):=⟨_,rfl⟩;obtain⟨a,ca,rfl,hca,hma,pa⟩:=bS.F6 hv;unfold maxLen at hma;have HQ:Hid (∀(x1:Int) (x2:Bool) (x3 x4:Int) (W:World),Below w.heap.size w W->Calls Tryz.prog 89 #[.agg #[.int .i64 x1,.bool x2,.int .i64 x3,.int .i64 x4]] W fun r w'=>r=.returned (.bool (q (x1,x2,x3,x4)))/\Below W.heap.size W w'):=by
  rw[hq0];exact fun x1 x2 x3 x4 W hb=>Dt x1 x2 x3 x4 W
 rw[<-hq0];obtain⟨ans,hans⟩:∃ans,ans=bz (l.findIdx q) l.length:=⟨_,rfl⟩;rw[<-hans];have H:Hid _:=hans;clear hv hans hq0;go_enter Tryz.func111,Tryz.ntmps111;go_wp2
 go_loopw [8] (fun i wr=>∃k:Nat,i=.int .i64 k/\k<=l.length/\(∀t∈l.take k,q t=false)/\Below w.heap.size w wr) (fun i _=>l.length-(intOf i).toNat)
 case atStart=>exact⟨0,rfl,Nat.zero_le _,by simp,Below.refl _ _⟩
 case round =>
  obtain⟨k,rfl,hk,hall,hbr⟩:=hrel
  by_cases hlt:k<l.length
  ·obtain⟨b1,o1,rfl,hb1,c1,c2,c3,c4⟩:=pa k hlt
   have e1:=(hbr.cell (p:=⟨b1,o1+k*4,none⟩) hb1).trans c1;have e2:=(hbr.cell (p:=⟨b1,o1+k*4+1,none⟩) hb1).trans c2;have e3:=(hbr.cell (p:=⟨b1,o1+k*4+2,none⟩) hb1).trans c3;have e4:=(hbr.cell (p:=⟨b1,o1+k*4+3,none⟩) hb1).trans c4;have HA:Hid (_/\_):=⟨hall,hbr⟩;have hkI:(k:Int)<(l.length:Int):=by omega
   have htk:l.take (k+1)=l.take k++[l[k]]:=List.take_succ_eq_append_getElem hlt;have hfs:q l[k]=true->l.findIdx q=k:=fun h=>gJ hlt hall h
   have hxk:∃x,x=l[k]:=⟨_,rfl⟩;obtain⟨⟨x1,x2,x3,x4⟩,hxk⟩:=hxk;rw[<-hxk]at e1 e2 e3 e4 htk hfs;have HX:Hid (_/\_):=⟨htk,hfs⟩;clear hall hbr c1 c2 c3 c4 hb1 pa htk hfs hxk;cases hd:q (x1,x2,x3,x4)
   ·go_wp2_with fail
    refine(HQ.out x1 x2 x3 x4 _ HA.out.2).mono ?_;rw[hd];rintro r w2 ⟨rfl,hb2⟩;have H2:Hid _:=hb2;clear hb2;go_wp2
    go_roundw
    case rel =>
     refine⟨k+1,by simp,hlt,fun t ht=>?_,HA.out.2.trans (H2.out.mono HA.out.2.size)⟩;rw[HX.out.1]at ht;rcases List.mem_append.1 ht with ht|ht
     ·exact HA.out.1 t ht
     ·simp at ht
      rw[ht];exact hd
    case measure=>simp[intOf];omega
   ·go_wp2_with fail
    refine(HQ.out x1 x2 x3 x4 _ HA.out.2).mono ?_;rw[hd];rintro r w2 ⟨rfl,hb2⟩;have HE:Hid (ans=(k:Int)):=by show ans=_;rw[H.out,HX.out.2 hd];exact if_pos hlt
    have H2:Hid _:=hb2;clear hb2;go_wp2;go_ret;exact⟨by rw[HE.out];rfl,HA.out.2.trans (H2.out.mono HA.out.2.size)⟩
  ·have HE:Hid (ans = -1):=by
    show ans=_;rw[H.out,ib fun t ht=>hall t (by rw[List.take_of_length_le (by omega)];exact ht)];exact if_neg (Nat.lt_irrefl _)
   have HB:Hid _:=hbr;clear hall hbr pa;go_wp2;go_ret;exact⟨by rw[HE.out];rfl,HB.out⟩
theorem yE(v:Value)(l:List FX)(w:World)(hv:bS w v l) :
  Calls Tryz.prog 64 #[v,.func (.func 89) #[] #[]] w fun r w'=>r=.returned (.bool (l.any (eu)))/\Below w.heap.size w w':=by
 rw[<-om];have HV:Hid _:=AE v l w hv;obtain⟨ix,hix⟩:∃ix,ix=bz (l.findIdx (eu)) l.length:=⟨_,rfl⟩;rw[<-hix]at HV⊢;clear hix hv;go_enter Tryz.func64,Tryz.ntmps64
 go_wp2_with fail
 refine Calls.mono HV.out ?_;rintro r w1 ⟨rfl,hb⟩;have HB:Hid _:=hb;clear hb;go_wp2;go_ret;exact⟨rfl,HB.out⟩
abbrev AC(o:Ou):Value:=.agg #[.int .i64 o.kind,.int .i64 o.slot,.int .i64 o.gen,.int .i64 o.be,.int .i64 o.req,.int .i64 o.code,.int .i64 o.why]
abbrev n9(o:Ou):Obj:=.cells #[.int .i64 o.kind,.int .i64 o.slot,.int .i64 o.gen,.int .i64 o.be,.int .i64 o.req,.int .i64 o.code,.int .i64 o.why] 61
abbrev gP(g:Nat):Value:=.pointer (some ⟨g,0,none⟩)
theorem C7:(Tryz.prog.info? 61).map (fun i=>(i.zero,i.size,i.bytes))=some (some (.agg #[.int .i64 0,.int .i64 0,.int .i64 0,.int .i64 0,.int .i64 0,.int .i64 0,.int .i64 0]),7,56):=by kernel_rfl
theorem ab.GY{base:Nat}{w:World}{g:Nat}{V:Vs}{G:Gt}(h:ab base w g V G):ab base w.drew g V G:=⟨h.box,h.rest.step (Nat.le_refl _) fun _ _ _=>rfl⟩
theorem ab.base{base:Nat}{w:World}{g:Nat}{V:Vs}{G:Gt}(h:ab base w g V G):base<=w.heap.size:=Nat.le_of_lt (Nat.lt_of_le_of_lt h.rest.low h.rest.lt)
structure am(V V':Vs)(g:Nat)(w w':World):Prop where
 os:w'.os=w.os
 tape:w'.tape=w.tape
 output:w'.output=w.output
 size:w.heap.size<=w'.heap.size
 block:∀b,b<w.heap.size->¬V.own g b->w'.heap[b]?=w.heap[b]?
 ext:∀b,V'.own g b->V.own g b\/w.heap.size<=b
section
variable {base:Nat}{V V1 V2:Vs}{g:Nat}{w w1 w2:World}{G:Gt}
theorem am.Gy(V:Vs)(g:Nat)(w:World):am V V g w w:=⟨rfl,rfl,rfl,Nat.le_refl _,fun _ _ _=>rfl,fun _ h=>.inl h⟩
theorem am.F5(h:Below w.heap.size w w1):am V V g w w1:=⟨h.os,h.tape,h.output,h.size,fun b hb _=>h.block b hb,fun _ h=>.inl h⟩
theorem am.F0(h:am V V1 g w w1)(k:am V1 V2 g w1 w2):am V V2 g w w2 :=
 ⟨k.os.trans h.os,k.tape.trans h.tape,k.output.trans h.output,Nat.le_trans h.size k.size,fun b hb hn=>(k.block b (Nat.lt_of_lt_of_le hb h.size) fun e=>by
   rcases h.ext b e with e|e
   ·exact hn e
   ·omega).trans (h.block b hb hn),fun b e=>by
  rcases k.ext b e with e|e
  ·exact h.ext b e
  ·have:=h.size;exact .inr (by omega)⟩
theorem am.below(h:am V V1 g w w1)(hb:Below w1.heap.size w1 w2):am V V1 g w w2:=h.F0 (am.F5 hb)
theorem am.F4(h:am V V1 g w w1)(k:Nat)(v:Value):am V V1 g w (w1.setCell ⟨g,k,none⟩ v):=
 ⟨h.os,h.tape,h.output,by simpa using h.size,fun b hb hn=>(Below.heap_setCell w1 ⟨g,k,none⟩ v b fun e=>hn (.inl e)).trans (h.block b hb hn),h.ext⟩
theorem am.Gp(h:am V V1 g w w1)(e:∀b,V2.own g b->V1.own g b):am V V2 g w w1:=⟨h.os,h.tape,h.output,h.size,h.block,fun b hb=>h.ext b (e b hb)⟩
theorem am.IT(h:am V V1 g w w1)(hG:ab base w g V G):Below base w w1 :=
 ⟨h.os,h.tape,h.output,h.size,fun b hb=>h.block b (Nat.lt_of_lt_of_le hb hG.base) fun e=>by have:=(hG.rest.Ha e).1;omega⟩
theorem am.Gf(h:am V V1 g w w1){o:Obj}(hb:w.heap[b]?=some o)(hn:¬V.own g b):w1.heap[b]?=some o:=(h.block b (Array.getElem?_eq_some_iff.1 hb).1 hn).trans hb
theorem am.Ik(h:am V V1 g w w1)(hb:b<w.heap.size)(hn:¬V.own g b):¬V1.own g b:=fun e=>by
 rcases h.ext b e with e|e
 ·exact hn e
 ·omega
end
def ew(base:Nat)(w:World)(g:Nat)(V:Vs)(G':Gt)(r:Ending)(w':World):Prop :=
 r=.returned (.tuple #[])/\∃V',ab base w' g V' G'/\(V'.pf=V.pf/\V'.cf=V.cf/\V'.bh=V.bh)/\am V V' g w w'
def eK(base:Nat)(w:World)(g:Nat)(V:Vs)(G':Gt)(r:Ending)(w':World):Prop :=
 r=.returned (.tuple #[])/\∃V',ab base w' g V' G'/\V'.bh=V.bh/\am V V' g w w'
theorem Fy{base:Nat}{g:Nat}{V:Vs}{G:Gt}(h:ab base W g V G)(hl:G.out.length<=1000000)(o:Ou):
  ∃q c' w5,(Builtin.append_ #[55,55] 55 #[.slice V.po G.out.length V.co,.slice (some ⟨W.heap.size,0,none⟩) 1 1]).run Tryz.prog ((W.alloc (n9 o)).drew)=.ok (.slice (some ⟨q,0,none⟩) (G.out.length+1) c') w5 /\
   (w5.cell? ⟨g,26,none⟩=some (.slice V.po G.out.length V.co)/\w5.frozen? ⟨g,26,none⟩=false) /\
   ab base (w5.setCell ⟨g,26,none⟩ (.slice (some ⟨q,0,none⟩) (G.out.length+1) c')) g {V with po:=some ⟨q,0,none⟩,co:=c'} (ge G o) /\
   am V {V with po:=some ⟨q,0,none⟩,co:=c'} g W (w5.setCell ⟨g,26,none⟩ (.slice (some ⟨q,0,none⟩) (G.out.length+1) c')):=by
 have hr0:=h.rest;obtain⟨q,c',w5,hr,ho,hg,hlies⟩:=rN Bq Bd (by decide) Tryz.underlying55 C7 rfl (w:=W.drew) (base:=base) h.GY.rest.out h.base 55 o #[.int .i64 o.kind,.int .i64 o.slot,.int .i64 o.gen,.int .i64 o.be,.int .i64 o.req,.int .i64 o.code,.int .i64 o.why] rfl (by omega) (by unfold maxLen;omega);have hgb:∀b,b<W.heap.size->V.po.map (·.block)≠some b->w5.heap[b]?=W.heap[b]?:=fun b hb hne=>hg.block b hb (fun e=>hne (by rw[e,cS]))
 have hT5:=(hgb g h.lt hr0.og).trans h.box;have hp:∀b,(some (⟨q,0,none⟩:Addr)).map (·.block)=some b->V.po.map (·.block)=some b\/W.heap.size<=b:=fun b e=>by
  cases e;rcases hlies with e|e
  ·exact .inl (by rw[<-cS _ G.out.length V.co];exact e)
  ·exact .inr (Nat.le_of_lt e)
 have hlen:(G.out++[o]).length=G.out.length+1:=by simp
 have hG:=h.Jw (w':=w5) (p:=some ⟨q,0,none⟩) (c:=c') (m:=G.out++[o]) hg.size hgb (by rw[hlen];exact ho) hp;rw[hlen]at hG;refine⟨q,c',w5,hr,⟨by rw[cell_of_row w5 g 26 _ _ (0,0) hT5];rfl,by simp[World.frozen?,hT5]⟩,hG,?_⟩;have hx:am V {V with po:=some ⟨q,0,none⟩,co:=c'} g W w5:=by
  refine⟨hg.os,hg.tape,hg.output,hg.size,fun b hb hn=>hgb b hb fun e=>hn (.inr (.inr (.inr e))),fun b e=>?_⟩;rcases e with e|e|e|e
  ·exact .inl (.inl e)
  ·exact .inl (.inr (.inl e))
  ·exact .inl (.inr (.inr (.inl e)))
  ·exact(hp b e).imp (fun e=>.inr (.inr (.inr e))) id
 exact hx.F4 26 _
theorem ld{base:Nat}{w:World}{g:Nat}{V:Vs}{G:Gt}(h:ab base w g V G)(hl:G.out.length<=1000000)(o:Ou) :
  Calls Tryz.prog 102 #[gP g,AC o] w (ew base w g V (ge G o)):=by
 obtain⟨W,hW⟩:∃W,W=w.alloc (n9 o):=⟨_,rfl⟩;have hB:Below w.heap.size w W:=by rw[hW];exact ai w
 have hR:W.heap[w.heap.size]?=some (n9 o):=by rw[hW];exact heap_alloc_new _ _
 have hG:=h.below hB;have hglt:=h.lt;have hne:g≠w.heap.size:=by omega
 have a0:W.cell? ⟨w.heap.size,0,none⟩=some (.int .i64 o.kind):=by rw[cell_of_row W _ 0 _ _ (0,0) hR];rfl
 have a1:W.cell? ⟨w.heap.size,1,none⟩=some (.int .i64 o.slot):=by rw[cell_of_row W _ 1 _ _ (0,0) hR];rfl
 have a2:W.cell? ⟨w.heap.size,2,none⟩=some (.int .i64 o.gen):=by rw[cell_of_row W _ 2 _ _ (0,0) hR];rfl
 have a3:W.cell? ⟨w.heap.size,3,none⟩=some (.int .i64 o.be):=by rw[cell_of_row W _ 3 _ _ (0,0) hR];rfl
 have a4:W.cell? ⟨w.heap.size,4,none⟩=some (.int .i64 o.req):=by rw[cell_of_row W _ 4 _ _ (0,0) hR];rfl
 have a5:W.cell? ⟨w.heap.size,5,none⟩=some (.int .i64 o.code):=by rw[cell_of_row W _ 5 _ _ (0,0) hR];rfl
 have a6:W.cell? ⟨w.heap.size,6,none⟩=some (.int .i64 o.why):=by rw[cell_of_row W _ 6 _ _ (0,0) hR];rfl
 have c26:=hG.Ip;have hgl:=hG.lt;obtain⟨q,c',w5,hr,⟨hc5,hf5⟩,hG5,hb5⟩:=Fy hG hl o;have HR:Hid (_/\_/\_):=⟨hr,hG5,(am.F5 hB).F0 hb5⟩;clear hr hG5 hb5 hG h hB hR;go_enter Tryz.func102,Tryz.ntmps102;go_wp2;rw[<-hW];clear hW
 go_region_law (first|(refine mM (by rfl) _ _ 55 (by rfl) _ _ _ _ (by rfl) (by rfl) HR.out.1 ?_))
 all_goals
  go_wp2
  go_end0
  exact⟨rfl,_,HR.out.2.1,⟨rfl,rfl,rfl⟩,HR.out.2.2⟩
theorem mh{base:Nat}{w:World}{g:Nat}{V:Vs}{G:Gt}(h:ab base w g V G)(hl:G.out.length<=1000000)(k c:Int) :
  Calls Tryz.prog 90 #[gP g,.int .i64 k,.int .i64 c] w (ew base w g V (kY G k c)):=by
 have H:Hid _:=ld h hl ⟨k,0,0,0,0,c,0⟩;clear h hl;go_enter Tryz.func90,Tryz.ntmps90
 go_wp2_with fail
 refine Calls.mono H.out ?_;rintro r w1 ⟨rfl,V',h1⟩;have HV:Hid _:=h1;clear h1;go_wp2
 go_end0
 exact⟨rfl,V',HV.out⟩
theorem ue{base:Nat}{w:World}{g:Nat}{V:Vs}{G:Gt}(h:ab base w g V G)(hl:G.out.length<=1000000)(b q:Int) :
  Calls Tryz.prog 104 #[gP g,.int .i64 b,.int .i64 q] w (ew base w g V (lk G b q)):=by
 have H:Hid _:=ld h hl ⟨9,0,0,b,q,0,0⟩;clear h hl;go_enter Tryz.func104,Tryz.ntmps104
 go_wp2_with fail
 refine Calls.mono H.out ?_;rintro r w1 ⟨rfl,V',h1⟩;have HV:Hid _:=h1;clear h1;go_wp2
 go_end0
 exact⟨rfl,V',HV.out⟩
theorem kV{base:Nat}{w:World}{g:Nat}{V:Vs}{G:Gt}(h:ab base w g V G)(hl:G.out.length<=1000000)(k:Int)(f:Fl) :
  Calls Tryz.prog 95 #[gP g,.int .i64 k,dM f] w (ew base w g V (iA G k f)):=by
 obtain⟨W,hW⟩:∃W,W=w.alloc (.cells #[.int .i64 f.slot,.int .i64 f.gen,.int .i64 f.key,.int .i64 f.be,.bool f.srv,.int .i64 f.ret,.int .i64 f.due] 87):=⟨_,rfl⟩;have hB:Below w.heap.size w W:=by rw[hW];exact ai w
 have H:Hid (_/\_):=⟨ld (h.below hB) hl ⟨k,f.slot,f.gen,f.be,0,0,0⟩,am.F5 (V:=V) (g:=g) hB⟩;clear h hl hB;go_enter Tryz.func95,Tryz.ntmps95
 go_wp2_with fail
 rw[<-hW];refine Calls.mono H.out.1 ?_;rintro r w1 ⟨rfl,V',h1⟩;have HV:Hid _:=h1;clear h1;go_wp2
 go_end0
 exact⟨rfl,V',HV.out.1,HV.out.2.1,H.out.2.F0 HV.out.2.2⟩
section
variable {base:Nat}{w:World}{g:Nat}{V:Vs}{G:Gt}
theorem ab.GK(h:ab base w g V G):dS w (.slice V.pf G.fls.length V.cf) G.fls:=gZ h.rest.fls
theorem ab.bf(h:ab base w g V G)(h0:0<G.fls.length):∃bf,V.pf=some ⟨bf,0,none⟩/\base<=bf/\bf<w.heap.size:=by
 obtain⟨g',c',he,h1,h2⟩:=h.rest.fls.form h0;have he:Value.slice V.pf G.fls.length V.cf=.slice (some ⟨g',0,none⟩) G.fls.length c':=he;injection he with e1 _ _;exact⟨g',e1,h.rest.fls.lt g' (by rw[cS,e1];rfl)⟩
theorem ab.Gl(h:ab base w g V G){bf:Nat}(hp:V.pf=some ⟨bf,0,none⟩){i:Nat}(hi:i<G.fls.length) :
  w.cell? ⟨bf,i*7,none⟩=some (.int .i64 G.fls[i].slot)/\w.cell? ⟨bf,i*7+1,none⟩=some (.int .i64 G.fls[i].gen)/\w.cell? ⟨bf,i*7+2,none⟩=some (.int .i64 G.fls[i].key)/\w.cell? ⟨bf,i*7+3,none⟩=some (.int .i64 G.fls[i].be)/\w.cell? ⟨bf,i*7+4,none⟩=some (.bool G.fls[i].srv)/\w.cell? ⟨bf,i*7+5,none⟩=some (.int .i64 G.fls[i].ret)/\w.cell? ⟨bf,i*7+6,none⟩=some (.int .i64 G.fls[i].due):=by
 have ho:=h.rest.fls;rw[hp]at ho;exact⟨(gC ba ho rfl hi (j:=0) (by omega)).trans rfl,(gC ba ho rfl hi (j:=1) (by omega)).trans rfl,(gC ba ho rfl hi (j:=2) (by omega)).trans rfl,(gC ba ho rfl hi (j:=3) (by omega)).trans rfl,(gC ba ho rfl hi (j:=4) (by omega)).trans rfl,(gC ba ho rfl hi (j:=5) (by omega)).trans rfl,(gC ba ho rfl hi (j:=6) (by omega)).trans rfl⟩
theorem ab.Hv(h:ab base w g V G){bf:Nat}(hp:V.pf=some ⟨bf,0,none⟩)(j:Nat):w.frozen? ⟨bf,j,none⟩=false:=by
 have ho:=h.rest.fls;rw[hp]at ho;exact ho.frozenAt j
abbrev fP(bf i:Nat):Value:=.pointer (some ⟨bf,i*7,none⟩)
theorem ab.Jk(h:ab base w g V G):G.fls.length<=V.cf/\V.cf<=9223372036854775807:=by
 obtain⟨a,cap,he,h1,h2,_⟩:=h.GK.F6;injection he with e1 e2 e3;unfold maxLen at h2;omega
theorem nN(h:ab base w g V G){i:Nat}(hi:i<G.fls.length)(hs:fL G.fls s=i){bf:Nat}(hp:V.pf=some ⟨bf,0,none⟩)(hl:G.fls.length<=40):
  Calls Tryz.prog 96 #[gP g,.int .i64 s] w fun r w'=>r=.returned (fP bf i)/\Below w.heap.size w w':=by
 obtain⟨W,hW⟩:∃W,W=w.alloc (.cells #[.int .i64 s] 3):=⟨_,rfl⟩;have hB:Below w.heap.size w W:=by rw[hW];exact ai w
 have hG:=h.below hB;have hc:W.cell? ⟨w.heap.size,0,none⟩=some (.int .i64 s):=by rw[hW];exact aM (heap_alloc_new _ _)
 have hix:bz (G.fls.findIdx (fun f=>f.slot == s)) G.fls.length=(i:Int):=by
  have:G.fls.findIdx (fun f=>f.slot == s)=i:=hs;rw[this];exact if_pos hi
 have HI:Hid _:=Cs (.slice V.pf G.fls.length V.cf) G.fls s w.heap.size W hG.GK hc;rw[hix]at HI;have c18:=h.Gr;have hgl:=h.lt;rw[hp]at c18 HI;have H:Hid (_/\_):=⟨hB,hG⟩;have hiI:(i:Int)<(G.fls.length:Int):=by omega
 have hcap:=h.Jk;clear hG h hs hix hc hB;go_enter Tryz.func96,Tryz.ntmps96
 go_wp2_with fail
 rw[<-hW];refine Calls.mono HI.out ?_;rintro r w1 ⟨rfl,hb1⟩;have d18:=(H.out.2.below hb1).Gr;rw[hp]at d18;have HB:Hid _:=H.out.1.trans (hb1.mono H.out.1.size);clear hb1 c18;go_wp2;go_ret;exact⟨by simp,HB.out⟩
theorem wJ(h:ab base w g V G)(b:Int) :
  Calls Tryz.prog 120 #[gP g,.int .i64 b] w fun r w'=>r=.returned (.bool (du G.fls b))/\Below w.heap.size w w':=by
 obtain⟨W,hW⟩:∃W,W=w.alloc (.cells #[.int .i64 b] 3):=⟨_,rfl⟩;have hB:Below w.heap.size w W:=by rw[hW];exact ai w
 have hG:=h.below hB;have hc:W.cell? ⟨w.heap.size,0,none⟩=some (.int .i64 b):=by rw[hW];exact aM (heap_alloc_new _ _)
 have HI:Hid _:=sk (.slice V.pf G.fls.length V.cf) G.fls b w.heap.size W hG.GK hc;have c18:=h.Gr;have hgl:=h.lt;have H:Hid _:=hB;clear hG h hc hB;go_enter Tryz.func120,Tryz.ntmps120
 go_wp2_with fail
 rw[<-hW];refine Calls.mono HI.out ?_;rintro r w1 ⟨rfl,hb1⟩;have HB:Hid _:=H.out.trans (hb1.mono H.out.size);clear hb1;go_wp2;go_ret;exact⟨rfl,HB.out⟩
theorem my{w:World}{g:Nat}{a b c d e f a' b' c' d' e' f':Value}{T:TypeId}(h:w.heap[g]?=some (.cells #[a,b,c,d,e,f] T (0,0))):((((((w.setCell ⟨g,0,none⟩ a').setCell ⟨g,1,none⟩ b').setCell ⟨g,2,none⟩ c').setCell ⟨g,3,none⟩ d').setCell ⟨g,4,none⟩ e').setCell ⟨g,5,none⟩ f').heap[g]?=some (.cells #[a',b',c',d',e',f'] T (0,0)):=
 cP (cP (cP (cP (cP (cP h rfl) rfl) rfl) rfl) rfl) rfl
theorem l6{w:World}{B h:Nat}{a b c d e f:Value}(H:Below B w W)(hh:B<=h):Below B w ((((((W.setCell ⟨h,0,none⟩ a).setCell ⟨h,1,none⟩ b).setCell ⟨h,2,none⟩ c).setCell ⟨h,3,none⟩ d).setCell ⟨h,4,none⟩ e).setCell ⟨h,5,none⟩ f):=
 (((((H.setCell hh _).setCell hh _).setCell hh _).setCell hh _).setCell hh _).setCell hh _
abbrev gu(x:FV):Value:=.agg #[.int .i64 x.1,.int .i64 x.2.1,.int .i64 x.2.2.1,.int .i64 x.2.2.2.1,.int .i64 x.2.2.2.2.1,.int .i64 x.2.2.2.2.2]
abbrev cE(x:FV):Obj:=.cells #[.int .i64 x.1,.int .i64 x.2.1,.int .i64 x.2.2.1,.int .i64 x.2.2.2.1,.int .i64 x.2.2.2.2.1,.int .i64 x.2.2.2.2.2] 89
theorem l7{q:Nat}{x:FV}(h:W.heap[q]?=some (cE x)):(loadVar 89 ⟨q,0,none⟩).run Tryz.prog W=.ok (gu x) W :=
 aI (cs:=[.int .i64 x.1,.int .i64 x.2.1,.int .i64 x.2.2.1,.int .i64 x.2.2.2.1,.int .i64 x.2.2.2.2.1,.int .i64 x.2.2.2.2.2]) h Tryz.underlying89 rfl (by kernel_rfl)
theorem nz{b:Int}:aq L b=L.getD (L.findIdx fun x=>x.1 == b) fE:=by
 unfold aq;rw[List.find?_eq_getElem?_findIdx];simp
theorem m6(h:ab base w g V G)(b:Int) :
  Calls Tryz.prog 103 #[gP g,.int .i64 b] w fun r w'=>r=.returned (gu (aq G.liv b))/\Below w.heap.size w w':=by
 obtain⟨W,hW⟩:∃W,W=(w.alloc (.cells #[.int .i64 b] 3)).alloc (cE fE):=⟨_,rfl⟩;have hx:=iF w (.cells #[.int .i64 b] 3) (cE fE);rw[<-hW]at hx;obtain⟨hR0,hR1,hB,hsz⟩:=hx;have hG:=h.below hB;have hc:W.cell? ⟨w.heap.size,0,none⟩=some (.int .i64 b):=aM hR0;have HI:Hid _:=uj (.slice V.pl G.liv.length V.cl) G.liv b w.heap.size W hG.rest.book.now.1 hc;have c19:=h.Gn;have hgl:=h.lt;have H:Hid (_/\_/\_):=⟨hB,hG,hR1⟩;clear h hc hB hG hR0 hR1
 by_cases hi:G.liv.findIdx (fun x=>x.1 == b)<G.liv.length
 ·obtain⟨i,hie⟩:∃i,i=G.liv.findIdx (fun x=>x.1 == b):=⟨_,rfl⟩
  have hix:bz (G.liv.findIdx (fun x=>x.1 == b)) G.liv.length=(i:Int):=by rw[<-hie];exact if_pos (by rw[hie];exact hi)
  rw[hix]at HI;rw[<-hie]at hi;obtain⟨x,hxe⟩:∃x,x=aq G.liv b:=⟨_,rfl⟩;have hxi:x=G.liv[i]:=by rw[hxe,nz,<-hie];simp[hi]
  have hiI:(i:Int)<(G.liv.length:Int):=by omega
  rw[<-hxe];have HX:Hid (_/\_):=⟨hxi,hie⟩;clear hix hie hxe hxi;go_enter Tryz.func103,Tryz.ntmps103
  go_wp2_with fail
  rw[<-hW];refine Calls.mono HI.out ?_;rintro r w1 ⟨rfl,hb1⟩;have hG1:=H.out.2.1.below hb1;have d19:=hG1.Gn;have hR2:=af H.out.2.2 hb1;obtain⟨a,cap,he,hcap,hmax,pa⟩:=jH.F6 hG1.rest.book.now.1;injection he with e1 e2 e3;unfold maxLen at hmax;rw[e3]at d19;obtain⟨b1,o1,hpa,hb2,z1,z2,z3,z4,z5,z6⟩:=pa i hi;rw[e1,hpa]at d19;rw[<-HX.out.1]at z1 z2 z3 z4 z5 z6;have hlt1:w.heap.size+1<w1.heap.size:=(Array.getElem?_eq_some_iff.1 hR2).1;have f0:w1.frozen? ⟨w.heap.size+1,0,none⟩=false:=by simp[World.frozen?,hR2]
  have f1:w1.frozen? ⟨w.heap.size+1,1,none⟩=false:=by simp[World.frozen?,hR2]
  have f2:w1.frozen? ⟨w.heap.size+1,2,none⟩=false:=by simp[World.frozen?,hR2]
  have f3:w1.frozen? ⟨w.heap.size+1,3,none⟩=false:=by simp[World.frozen?,hR2]
  have f4:w1.frozen? ⟨w.heap.size+1,4,none⟩=false:=by simp[World.frozen?,hR2]
  have f5:w1.frozen? ⟨w.heap.size+1,5,none⟩=false:=by simp[World.frozen?,hR2]
  have k0:w1.cell? ⟨w.heap.size+1,0,none⟩=some (.int .i64 0):=by rw[cell_of_row w1 _ 0 _ _ (0,0) hR2];rfl
  have k1:w1.cell? ⟨w.heap.size+1,1,none⟩=some (.int .i64 0):=by rw[cell_of_row w1 _ 1 _ _ (0,0) hR2];rfl
  have k2:w1.cell? ⟨w.heap.size+1,2,none⟩=some (.int .i64 0):=by rw[cell_of_row w1 _ 2 _ _ (0,0) hR2];rfl
  have k3:w1.cell? ⟨w.heap.size+1,3,none⟩=some (.int .i64 0):=by rw[cell_of_row w1 _ 3 _ _ (0,0) hR2];rfl
  have k4:w1.cell? ⟨w.heap.size+1,4,none⟩=some (.int .i64 0):=by rw[cell_of_row w1 _ 4 _ _ (0,0) hR2];rfl
  have k5:w1.cell? ⟨w.heap.size+1,5,none⟩=some (.int .i64 0):=by rw[cell_of_row w1 _ 5 _ _ (0,0) hR2];rfl
  have HB:Hid (_/\_):=⟨my (a':=.int .i64 x.1) (b':=.int .i64 x.2.1) (c':=.int .i64 x.2.2.1) (d':=.int .i64 x.2.2.2.1) (e':=.int .i64 x.2.2.2.2.1) (f':=.int .i64 x.2.2.2.2.2) hR2,l6 (a:=.int .i64 x.1) (b:=.int .i64 x.2.1) (c:=.int .i64 x.2.2.1) (d:=.int .i64 x.2.2.2.1) (e:=.int .i64 x.2.2.2.2.1) (f:=.int .i64 x.2.2.2.2.2) (H.out.1.trans (hb1.mono H.out.1.size)) (Nat.le_succ _)⟩;clear hb1 c19 hG1 hR2 pa e1 hpa e3;go_wp2;exact bodyPost_ret (ey Tryz.results103 rfl (l7 HB.out.1)) rfl ⟨rfl,HB.out.2⟩
 ·have hix:bz (G.liv.findIdx (fun x=>x.1 == b)) G.liv.length = -1:=if_neg hi
  rw[hix]at HI;have hxe:aq G.liv b=fE:=by rw[nz];simp[hi]
  rw[hxe];clear hix hxe;go_enter Tryz.func103,Tryz.ntmps103
  go_wp2_with fail
  rw[<-hW];refine Calls.mono HI.out ?_;rintro r w1 ⟨rfl,hb1⟩;have hR2:=af H.out.2.2 hb1;have hlt1:w.heap.size+1<w1.heap.size:=(Array.getElem?_eq_some_iff.1 hR2).1;have f0:w1.frozen? ⟨w.heap.size+1,0,none⟩=false:=by simp[World.frozen?,hR2]
  have f1:w1.frozen? ⟨w.heap.size+1,1,none⟩=false:=by simp[World.frozen?,hR2]
  have f2:w1.frozen? ⟨w.heap.size+1,2,none⟩=false:=by simp[World.frozen?,hR2]
  have f3:w1.frozen? ⟨w.heap.size+1,3,none⟩=false:=by simp[World.frozen?,hR2]
  have f4:w1.frozen? ⟨w.heap.size+1,4,none⟩=false:=by simp[World.frozen?,hR2]
  have f5:w1.frozen? ⟨w.heap.size+1,5,none⟩=false:=by simp[World.frozen?,hR2]
  have k0:w1.cell? ⟨w.heap.size+1,0,none⟩=some (.int .i64 0):=by rw[cell_of_row w1 _ 0 _ _ (0,0) hR2];rfl
  have k1:w1.cell? ⟨w.heap.size+1,1,none⟩=some (.int .i64 0):=by rw[cell_of_row w1 _ 1 _ _ (0,0) hR2];rfl
  have k2:w1.cell? ⟨w.heap.size+1,2,none⟩=some (.int .i64 0):=by rw[cell_of_row w1 _ 2 _ _ (0,0) hR2];rfl
  have k3:w1.cell? ⟨w.heap.size+1,3,none⟩=some (.int .i64 0):=by rw[cell_of_row w1 _ 3 _ _ (0,0) hR2];rfl
  have k4:w1.cell? ⟨w.heap.size+1,4,none⟩=some (.int .i64 0):=by rw[cell_of_row w1 _ 4 _ _ (0,0) hR2];rfl
  have k5:w1.cell? ⟨w.heap.size+1,5,none⟩=some (.int .i64 0):=by rw[cell_of_row w1 _ 5 _ _ (0,0) hR2];rfl
  have HB:Hid (_/\_):=⟨my (a':=.int .i64 0) (b':=.int .i64 0) (c':=.int .i64 0) (d':=.int .i64 0) (e':=.int .i64 0) (f':=.int .i64 0) hR2,l6 (a:=.int .i64 0) (b:=.int .i64 0) (c:=.int .i64 0) (d:=.int .i64 0) (e:=.int .i64 0) (f:=.int .i64 0) (H.out.1.trans (hb1.mono H.out.1.size)) (Nat.le_succ _)⟩;clear hb1 c19 hR2;go_wp2;exact bodyPost_ret (ey Tryz.results103 rfl (l7 (x:=fE) HB.out.1)) rfl ⟨rfl,HB.out.2⟩
end
section
variable {base:Nat}{w:World}{g:Nat}{V:Vs}{G:Gt}
theorem oM{w':World}(h:ab base w' g V G)(hb:am V V g w w'):ew base w g V G (.returned (.tuple #[])) w':=⟨rfl,V,h,⟨rfl,rfl,rfl⟩,hb⟩
theorem re(h:ab base w g V G)(hl:G.out.length<=1000000)(b:Int) :
  Calls Tryz.prog 106 #[gP g,.int .i64 b] w (ew base w g V (cj G b)):=by
 obtain⟨⟨x1,x2,x3,x4,x5,x6⟩,hx⟩:∃x,x=aq G.liv b:=⟨_,rfl⟩;have HL:Hid _:=m6 h b;rw[<-hx]at HL;have hgl:=h.lt;have hout:cj G b=if x2=3/\du G.fls b=false then lk {G with liv:=(eL G.liv G.req b).1.1,req:=(eL G.liv G.req b).1.2} b x6 else G:=by unfold cj aA;rw[<-hx]
 obtain⟨O,hO⟩:∃O,O=cj G b:=⟨_,rfl⟩;rw[<-hO];rw[<-hO]at hout;have H:Hid (_/\_):=⟨h,hl⟩;clear h hx hO hl
 by_cases h3:x2=3
 ·subst h3
  cases hbz:du G.fls b
  ·rw[if_pos ⟨rfl,hbz⟩]at hout
   have HO:Hid _:=hout;clear hout;go_enter Tryz.func106,Tryz.ntmps106
   go_wp2_with fail
   refine Calls.mono HL.out ?_;rintro r w1 ⟨rfl,hb1⟩;have hG1:=H.out.1.below hb1;have hG2:=hG1.GW (cE (x1,3,x3,x4,x5,x6));have HB:=wJ hG2 b;rw[hbz]at HB;have HS:Hid _:=hb1.size;have H1:Hid (_/\_/\_):=⟨HB,hG2,(am.F5 (V:=V) (g:=g) hb1).below (ai w1 (o:=cE (x1,3,x3,x4,x5,x6)))⟩;clear hb1 hG1 hG2 HB
   go_wp2_with fail
   refine Calls.mono H1.out.1 ?_;rintro r w2 ⟨rfl,hb2⟩;have hG3:=H1.out.2.1.below hb2;have hl1:w1.heap.size<w2.heap.size:=by have:=hb2.size;simp at this;omega
   have k5:w2.cell? ⟨w1.heap.size,5,none⟩=some (.int .i64 x6):=by
    rw[cell_of_row w2 _ 5 _ _ (0,0) (af (heap_alloc_new w1 (cE (x1,3,x3,x4,x5,x6))) hb2)];rfl
   have c19:=hG3.Gn;have c20:=hG3.GD;have hgl2:=hG3.lt;have HF:=BK (.slice V.pl G.liv.length V.cl) (.slice V.pr G.req.length V.cr) G.liv G.req b w2 hG3.rest.book.now;have H2:Hid (_/\_/\_):=⟨HF,hG3,H1.out.2.2.below hb2⟩;clear hb2 hG3 HF
   go_wp2_with fail
   refine Calls.mono H2.out.1 ?_;rintro r w3 ⟨p,c,q,m,rfl,hbk,hb3⟩;have hG4:=H2.out.2.1.Iq hb3 hbk;have e19:=(H2.out.2.1.below hb3).Gn;have e20:=(H2.out.2.1.below hb3).GD;have f19:=(H2.out.2.1.below hb3).fz 19;have f20:=(H2.out.2.1.below hb3).fz 20;have hgl3:=(H2.out.2.1.below hb3).lt;have kk:=(hb3.cell (p:=⟨w1.heap.size,5,none⟩) hl1).trans k5;have hne:¬w1.heap.size=g:=fun e=>by have:=H.out.1.lt;have:=HS.out;omega
   have hne2:¬g=w1.heap.size:=fun e=>hne e.symm
   obtain⟨w4,hw4⟩:∃w4,w4=(w3.setCell ⟨g,19,none⟩ (.slice p (eL G.liv G.req b).1.1.length c)).setCell ⟨g,20,none⟩ (.slice q (eL G.liv G.req b).1.2.length m):=⟨_,rfl⟩;rw[<-hw4]at hG4;have kk4:w4.cell? ⟨w1.heap.size,5,none⟩=some (.int .i64 x6):=by
    rw[hw4];exact(World.cell?_of_block (Below.heap_setCell _ _ _ _ hne)).trans ((World.cell?_of_block (Below.heap_setCell _ _ _ _ hne)).trans kk)
   have hb4:am V {V with pl:=p,cl:=c,pr:=q,cr:=m} g w w4:=by
    rw[hw4];exact(((H2.out.2.2.below hb3).F4 19 _).F4 20 _).Gp fun _ h=>h
   have H3:Hid (_/\_):=⟨ue hG4 H.out.2 b x6,hb4⟩;clear hG4 hb4 hbk hb3 k5 c19 c20
   go_wp2_with fail
   rw[<-hw4]
   go_wp2_with fail
   refine Calls.mono H3.out.1 ?_;rintro r w5 ⟨rfl,V',h5,h6,h7⟩;have H4:Hid (_/\_/\_):=⟨h5,h6,h7⟩;clear h5 h6 h7;go_wp2
   go_end0
   rw[HO.out];exact⟨rfl,V',H4.out.1,H4.out.2.1,H3.out.2.F0 H4.out.2.2⟩
  ·rw[if_neg (fun hc=>by rw[hbz]at hc;cases hc.2)]at hout
   subst hout;go_enter Tryz.func106,Tryz.ntmps106
   go_wp2_with fail
   refine Calls.mono HL.out ?_;rintro r w1 ⟨rfl,hb1⟩;have hG1:=H.out.1.below hb1;have hG2:=hG1.GW (cE (x1,3,x3,x4,x5,x6));have HB:=wJ hG2 b;rw[hbz]at HB;have H1:Hid (_/\_/\_):=⟨HB,hG2,(am.F5 (V:=V) (g:=g) hb1).below (ai w1 (o:=cE (x1,3,x3,x4,x5,x6)))⟩;clear hb1 hG1 hG2 HB
   go_wp2_with fail
   refine Calls.mono H1.out.1 ?_;rintro r w2 ⟨rfl,hb2⟩;have H2:Hid (_/\_):=⟨H1.out.2.1.below hb2,H1.out.2.2.below hb2⟩;clear hb2;go_wp2
   go_end0
   exact oM H2.out.1 H2.out.2
 ·rw[if_neg (fun hc=>h3 hc.1)]at hout
  subst hout;have hne:(x2 != 3)=true:=by simpa using h3
  go_enter Tryz.func106,Tryz.ntmps106
  go_wp2_with fail
  refine Calls.mono HL.out ?_;rintro r w1 ⟨rfl,hb1⟩;have hG1:=H.out.1.below hb1;have H1:Hid (_/\_):=⟨hG1.GW (cE (x1,x2,x3,x4,x5,x6)),(am.F5 (V:=V) (g:=g) hb1).below (ai w1 (o:=cE (x1,x2,x3,x4,x5,x6)))⟩;clear hb1 hG1;go_wp2
  go_end0
  exact oM H1.out.1 H1.out.2
end
section
variable {base:Nat}{w:World}{g:Nat}{V:Vs}{G:Gt}
theorem ab.Jr(h:ab base w g V G)(hT:∀t,G.tms t↔T t):ab base w g V {G with tms:=T}:=by
 obtain⟨ls,h1,h2,h3⟩:=h.rest.whl;have r:=h.rest;exact⟨h.box,r.tab,r.book,r.ring,⟨ls,h1,fun t=>(h2 t).trans (hT t),h3⟩,r.fls,r.hea,r.msl,r.hel,r.marks,r.out,r.low,r.lt,r.hg,r.fg,r.fh,r.og,r.oh,r.fo,r.blk,r.pos⟩
theorem zN(h:0<=n/\n<=1000000):(Lit.int .i64 n).wf=true:=kM (by omega) (by omega)
theorem np(h:Below base w W)(hg:base<=g)(a b:Nat)(x y:Value):Below base w ((W.setCell ⟨g,a,none⟩ x).setCell ⟨g,b,none⟩ y):=(h.setCell (p:=⟨g,a,none⟩) hg x).setCell (p:=⟨g,b,none⟩) hg y
abbrev nh(n:Int)(v:Value):Obj:=.cells #[.int .i64 n,v] 47
theorem vP(h:ab base w g V G)(hs:0<=s/\s<40):
  Calls Tryz.prog 135 #[gP g,.int .i64 s] w (ew base w g V (kU G s)):=by
 obtain⟨ls,hm,ht,hA⟩:=h.rest.whl;have c24:=h.GJ;have c25:=h.GH;have hgl:=h.lt;have HC:Hid _:=E5 (.slice V.pw 25 V.cw) G.wnow s ls w h.rest.blk hA.now hm (zN (by omega));have H:Hid (_/\_/\_):=⟨h,hm,ht⟩;clear h hm ht hA hs;go_enter Tryz.func135,Tryz.ntmps135
 go_wp2_with fail
 refine Calls.mono HC.out ?_;rintro r w1 ⟨hb1,⟨hno,rfl⟩|⟨hyes,p,c,ms,rfl,hown,hgone⟩⟩
 ·have hG1:=H.out.1.below hb1
  have H1:Hid (_/\_):=⟨(hG1.GW (nh 0 (.slice none 0 0))).Jr (T:=fun t=>G.tms t/\t.2≠s) (fun t=>⟨fun h=>⟨h,hno t ((H.out.2.2 t).2 h)⟩,fun h=>h.1⟩),(am.F5 (V:=V) (g:=g) hb1).below (ai w1 (o:=nh 0 (.slice none 0 0)))⟩;clear hb1 hG1 hno;go_wp2
  go_end0
  exact oM H1.out.1 H1.out.2
 ·have hG1:=H.out.1.below hb1
  have hG2:=(H.out.1.Ih (T:=fun t=>G.tms t/\t.2≠s) hb1 hown hgone.may (fun t=>(hgone.mem t).trans (and_congr (H.out.2.2 t) Iff.rfl))).GW (nh G.wnow (.slice p 25 c));have hb2:am V {V with pw:=p,cw:=c} g w ((w1.setCell ⟨g,24,none⟩ (.int .i64 G.wnow)).setCell ⟨g,25,none⟩ (.slice p 25 c)):=(((am.F5 (V:=V) (g:=g) hb1).F4 24 _).F4 25 _).Gp fun _ h=>h
  have e24:=hG1.GJ;have e25:=hG1.GH;have f24:=hG1.fz 24;have f25:=hG1.fz 25;have hgl1:=hG1.lt;have hne:¬w1.heap.size=g:=fun e=>by omega
  have hne2:¬g=w1.heap.size:=fun e=>by omega
  have H1:Hid (_/\_):=⟨hG2,hb2.below (ai _ (o:=nh G.wnow (.slice p 25 c)))⟩;clear hb1 hG1 hb2 hG2 hown hgone hyes;go_wp2
  go_end0
  exact⟨rfl,_,H1.out.1,⟨rfl,rfl,rfl⟩,H1.out.2⟩
theorem D6{i:Nat}(hi:i<G.fls.length)(n:Int):dU G i n={G with fls:=G.fls.set i {G.fls[i]with due:=G.now+n},tms:=fun t=>(G.tms t/\t.2≠G.fls[i].slot)\/t=(G.now+n,G.fls[i].slot)}:=by
 unfold dU;rw[bJ hi]
theorem mT(h:ab base w g V G){i:Nat}(hi:i<G.fls.length){bf:Nat}(hp:V.pf=some ⟨bf,0,none⟩)(hn:1<=n/\n<=500)(hs:0<=G.fls[i].slot/\G.fls[i].slot<40)(hw:G.wnow=G.now)(hnow:0<=G.now/\G.now<=1099511626776):
  Calls Tryz.prog 93 #[gP g,fP bf i,.int .i64 n] w (ew base w g V (dU G i n)):=by
 rw[D6 hi];obtain⟨s,hse⟩:∃s,s=G.fls[i].slot:=⟨_,rfl⟩;obtain⟨q1,q2,q3,q4,q5,q6,q7⟩:=h.Gl hp hi;have c16:=h.Gm;have hgl:=h.lt;have fz:=h.Hv hp (i*7+6);have hbl:bf<w.heap.size:=World.block_lt_of_cell? w ⟨bf,i*7,none⟩ q1;have hne:¬bf=g:=fun e=>h.rest.fg (by rw[hp,e];rfl)
 have hne2:¬g=bf:=fun e=>hne e.symm
 obtain⟨d,hd⟩:∃d,d=G.now+n:=⟨_,rfl⟩;have hwr:IntKind.i64.wrap (G.now+n)=d:=by rw[hd,IntKind.wrap_i64];omega
 obtain⟨y,hy⟩:∃y:Fl,y={G.fls[i]with due:=d}:=⟨_,rfl⟩;have hG1:=h.Hd hp hi (j:=6) (by omega) (.int .i64 d) y (by rw[hy];rfl);obtain⟨w1,hw1⟩:∃w1,w1=w.setCell ⟨bf,i*7+6,none⟩ (.int .i64 d):=⟨_,rfl⟩;rw[<-hw1]at hG1;have hbw1:am V V g w w1:=by
  rw[hw1];exact⟨rfl,rfl,rfl,by simp,fun b _ hn=>Below.heap_setCell w ⟨bf,i*7+6,none⟩ _ b fun e=>hn (.inr (.inr (.inl (by rw[hp,e];rfl)))),fun _ h=>.inl h⟩
 rw[<-hse]at q1 hs⊢;have hi1:i<(G.fls.set i y).length:=by rw[List.length_set];exact hi
 have hys:(G.fls.set i y)[i]=y:=by simp
 have hq1:=hG1.Gl hp (i:=i) hi1;simp only[hys]at hq1;obtain⟨u1,r2,r3,r4,r5,r6,r7⟩:=hq1;have hy1:y.slot=s:=by rw[hy,hse]
 have hy2:y.due=d:=by rw[hy]
 have r1:w1.cell? ⟨bf,i*7,none⟩=some (.int .i64 s):=by rw[<-hy1];exact u1
 have HD:Hid _:=vP hG1 hs;have H:Hid (_/\_/\_/\_/\_/\_/\_):=⟨hbw1,hy1,hy2,hd,hp,hs,hi⟩;have HW:Hid (_/\_/\_/\_):=⟨hw,hnow,hn,hy⟩;clear u1 h hG1 hbw1 hy1 hy2 hp hse hd hs r2 r3 r4 r5 r6 r7 hw hnow hn hy hi1 hys;go_enter Tryz.func93,Tryz.ntmps93
 go_wp2_with fail
 rw[<-hw1];clear hw1 q1 q2 q3 q4 q5 q6 q7 c16 fz hwr
 go_wp2_with fail
 refine Calls.mono HD.out ?_;rintro r w2 ⟨rfl,V',hG2,hV,hb2⟩;obtain⟨ls,hm,ht,hA⟩:=hG2.rest.whl;have hp2:V'.pf=some ⟨bf,0,none⟩:=hV.1.trans H.out.2.2.2.2.1;have hi2:i<(kU {G with fls:=G.fls.set i y} s).fls.length:=by show i<(G.fls.set i y).length;rw[List.length_set];exact H.out.2.2.2.2.2.2
 have hq2:=hG2.Gl hp2 (i:=i) hi2;have hys2:(kU {G with fls:=G.fls.set i y} s).fls[i]'hi2=y:=List.getElem_set_self (h:=by rw[List.length_set];exact H.out.2.2.2.2.2.2);simp only[hys2]at hq2;obtain⟨u1,t2,t3,t4,t5,t6,u7⟩:=hq2;have t1:w2.cell? ⟨bf,i*7,none⟩=some (.int .i64 s):=by rw[<-H.out.2.1];exact u1
 have t7:w2.cell? ⟨bf,i*7+6,none⟩=some (.int .i64 d):=by rw[<-H.out.2.2.1];exact u7
 have e24:w2.cell? ⟨g,24,none⟩=some (.int .i64 G.wnow):=hG2.GJ;have e25:=hG2.GH;have hgl2:=hG2.lt;have hbl2:bf<w2.heap.size:=World.block_lt_of_cell? w2 ⟨bf,i*7,none⟩ t1;have hx:=HW.out;have hs:=H.out.2.2.2.2.2.1;have hd:=H.out.2.2.2.1;have hfit:cW G.wnow (d,s)=true:=(jk _ _).2 ⟨by show G.wnow<d;omega,by show d<=G.wnow+500;omega,by show d<=1099511627776;omega,hs.1,by show s<=199;omega⟩;have hnone:∀t∈ls.flatten,t.2≠s:=fun t hmem=>((ht t).1 hmem).2
 have HA:Hid (∀W,Below w2.heap.size w2 W->Calls Tryz.prog 136 #[.agg #[.int .i64 G.wnow,.slice V'.pw 25 V'.cw],.int .i64 s,.int .i64 d] W fun r w'=>∃p c,r=.returned (.tuple #[.agg #[.int .i64 G.wnow,.slice p 25 c],.int .i64 0])/\w'.cell? ⟨g,24,none⟩=some (.int .i64 G.wnow)/\w'.cell? ⟨g,25,none⟩=some (.slice V'.pw 25 V'.cw)/\w'.frozen? ⟨g,24,none⟩=false/\w'.frozen? ⟨g,25,none⟩=false/\g<w'.heap.size /\
   Hid (ab base ((w'.setCell ⟨g,24,none⟩ (.int .i64 G.wnow)).setCell ⟨g,25,none⟩ (.slice p 25 c)) g {V' with pw:=p,cw:=c} {G with fls:=G.fls.set i y,tms:=fun t=>(G.tms t/\t.2≠s)\/t=(d,s)}/\am V' {V' with pw:=p,cw:=c} g w2 ((w'.setCell ⟨g,24,none⟩ (.int .i64 G.wnow)).setCell ⟨g,25,none⟩ (.slice p 25 c)))):=by
  refine fun W hW=>(DU (.slice V'.pw 25 V'.cw) G.wnow s d ls W (hG2.rest.blk.below hW) (hA.now.below hW) hm hfit hnone).mono ?_
  rintro r w' ⟨p,c,rfl,hown,hmay,hb⟩;have hb':Below w2.heap.size w2 w':=hW.trans (hb.mono hW.size);have hG3:=hG2.below hb';have hG4:=hG2.Ih (T:=fun t=>(G.tms t/\t.2≠s)\/t=(d,s)) hb' (hown.GV hW.size) hmay (fun t=>(zt (now:=G.wnow) hm.2 (d,s) t).trans ((or_congr Iff.rfl (ht t)).trans or_comm));exact⟨p,c,rfl,hG3.GJ,hG3.GH,hG3.fz 24,hG3.fz 25,hG3.lt,hG4,(((am.F5 (V:=V') (g:=g) hb').F4 24 _).F4 25 _).Gp fun _ h=>h⟩
 have H2:Hid (_/\_):=⟨hV,hb2⟩;clear u1 u7 hG2 hA hm ht hfit hnone hx hs hd hb2 hV t2 t3 t4 t5 t6 hp2 hys2 hi2 r1 hgl hbl HD
 go_wp2_with fail
 go_region_with (first|(go_at_call 136;refine(HA.out _ (by first|exact(Below.refl _ _).drew|exact Below.refl _ _)).mono ?_;rintro r w3 ⟨p,c,rfl,g24,g25,f24,f25,hgl3,hG3⟩))
 all_goals
  go_wp2
  go_end0
  have hy:=HW.out.2.2.2;have hd:=H.out.2.2.2.1;subst hy hd;exact⟨rfl,{V' with pw:=p,cw:=c},hG3.out.1,H2.out.1,H.out.1.F0 (H2.out.2.F0 hG3.out.2)⟩
end
theorem kt:(Tryz.prog.info? 87).map (fun i=>(i.zero,i.size,i.bytes))=some (some (.agg #[.int .i64 0,.int .i64 0,.int .i64 0,.int .i64 0,.bool false,.int .i64 0,.int .i64 0]),7,56):=by kernel_rfl
theorem CA(q:Addr)(c:Nat)(l:List Fl)(w:World)(hv:dS w (.slice (some q) l.length c) l)(h0:0<l.length)(hl:l.length<=1000) :
  Calls Tryz.prog 78 #[.slice (some q) l.length c] w fun r w'=>∃g c',r=.returned (.slice (some ⟨g,0,none⟩) l.length c')/\w'.ownsRow w.heap.size 87 7 (.slice (some ⟨g,0,none⟩) l.length c') l.length (rv ap l)/\Below w.heap.size w w':=by
 have hnil:∀W,(binOp .eql 34 (.slice (some q) l.length c) (.slice none 0 0)).run Tryz.prog W=.ok (.bool false) W:=fun W=>by kernel_rfl
 have hown:(w.alloc (.cells #[] 87)).ownsRow w.heap.size 87 7 (.slice (some ⟨w.heap.size,0,none⟩) 0 0) 0 (rv ap []):=
  ⟨rfl,.inr ⟨w.heap.size,0,#[],rfl,Nat.le_refl _,heap_alloc_new _ _,Nat.le_refl _,Nat.zero_le _,rfl,rfl⟩⟩
 have hrun:∃g c' w4,(Builtin.append_ #[34,34] 34 #[.slice (some ⟨w.heap.size,0,none⟩) 0 0,.slice (some q) l.length c]).run Tryz.prog (w.alloc (.cells #[] 87))=.ok (.slice (some ⟨g,0,none⟩) l.length c') w4/\w4.ownsRow w.heap.size 87 7 (.slice (some ⟨g,0,none⟩) l.length c') l.length (rv ap l)/\Below w.heap.size w w4:=by
  obtain⟨g,c',w4,hr,ho,hg,_⟩:=pL ba jh (by decide) Tryz.underlying34 kt rfl hown (by simp) 34 _ l (bj.below hv (ai w)) (by omega) (by omega) (by unfold maxLen;omega);rw[Nat.zero_add]at hr ho;rw[List.nil_append]at ho;exact⟨_,_,_,hr,ho,(ai w).trans (kN hg (by simp) (fun g e=>by cases e;exact Nat.le_refl _))⟩
 obtain⟨g,c',w4,hr,ho,hb4⟩:=hrun;have HQ:Hid (_/\_/\_):=⟨hr,hb4,ho⟩;clear hr hb4 ho hv hown;go_enter Tryz.func78,Tryz.ntmps78
 go_wp2_with (at_builtin;(with_reducible refine d7 rfl _ _ 34 rfl (.slice (some ⟨w.heap.size,0,none⟩) 0 0) (.slice (some q) l.length c) (.slice (some ⟨g,0,none⟩) l.length c') w4 ?hs ?hx ?hr ?_);(case hs=>rfl);(case hx=>rfl);(case hr=>exact HQ.out.1))
 go_wp2;go_ret;exact⟨_,_,rfl,HQ.out.2.2,HQ.out.2.1⟩
def cN(s n:Int)(f:Fl):Bool:=(f.slot == s) && (f.gen == n)
theorem pJ(f:Fl)(s n:Int)(g:Nat)(w:World)(hc:w.cell? ⟨g,0,none⟩=some (.int .i64 s))(hd:w.cell? ⟨g,1,none⟩=some (.int .i64 n)) :
  Calls Tryz.prog 186 #[dM f,.pointer (some ⟨g,0,none⟩)] w fun r w'=>r=.returned (.bool (cN s n f))/\w'=w.alloc (.cells #[.int .i64 f.slot,.int .i64 f.gen,.int .i64 f.key,.int .i64 f.be,.bool f.srv,.int .i64 f.ret,.int .i64 f.due] 87):=by
 have hlt:g<w.heap.size:=World.block_lt_of_cell? w ⟨g,0,none⟩ hc
 by_cases e:f.slot=s/\f.gen=n
 ·obtain⟨rfl,rfl⟩:=e
  go_enter Tryz.func186,Tryz.ntmps186;go_wp2;go_ret;exact⟨by simp[cN],rfl⟩
 ·have hi:cN s n f=false:=by
   cases h:cN s n f
   ·rfl
   ·exact absurd (by simpa [cN]using h) e
  rw[hi]
  by_cases e1:f.slot=s
  ·subst e1
   have he:(f.gen == n)=false:=by rw[beq_eq_false_iff_ne];exact fun h=>e ⟨rfl,h⟩
   have he2:¬f.gen=n:=fun h=>e ⟨rfl,h⟩
   clear e hi;go_enter Tryz.func186,Tryz.ntmps186;go_wp2;go_ret;exact⟨rfl,rfl⟩
  ·have he:(f.slot == s)=false:=by rw[beq_eq_false_iff_ne];exact e1
   clear e hi;go_enter Tryz.func186,Tryz.ntmps186;go_wp2;go_ret;exact⟨rfl,rfl⟩
theorem FJ(v:Value)(l:List Fl)(s n:Int)(g:Nat)(w:World)(hv:dS w v l)(hc:w.cell? ⟨g,0,none⟩=some (.int .i64 s))(hd:w.cell? ⟨g,1,none⟩=some (.int .i64 n)) :
  Calls Tryz.prog 132 #[v,.func (.func 186) #[] #[.pointer (some ⟨g,0,none⟩)]] w fun r w'=>r=.returned (.int .i64 (bz (l.findIdx (cN s n)) l.length))/\Below w.heap.size w w':=by
 obtain⟨q,hq0⟩:∃q:Fl->Bool,q=(cN s n):=⟨_,rfl⟩;obtain⟨a,ca,rfl,hca,hma,pa⟩:=dS.F6 hv;unfold maxLen at hma;have hglt:=World.block_lt_of_cell? w ⟨g,0,none⟩ hc;have HQ:Hid (∀(x:Fl) (W:World),Below w.heap.size w W->Calls Tryz.prog 186 #[dM x,.pointer (some ⟨g,0,none⟩)] W fun r w'=>r=.returned (.bool (q x))/\Below W.heap.size W w'):=by
  rw[hq0];exact fun x W hb=>(fun H=>H.mono fun r w' h=>⟨h.1,by rw[h.2];exact ai W⟩) (pJ x s n g W ((hb.cell (p:=⟨g,0,none⟩) hglt).trans hc) ((hb.cell (p:=⟨g,1,none⟩) hglt).trans hd))
 rw[<-hq0];obtain⟨ans,hans⟩:∃ans,ans=bz (l.findIdx q) l.length:=⟨_,rfl⟩;rw[<-hans];have H:Hid _:=hans;clear hv hans hq0 hc hd;go_enter Tryz.func132,Tryz.ntmps132;go_wp2
 go_loopw [8] (fun i wr=>∃k:Nat,i=.int .i64 k/\k<=l.length/\(∀t∈l.take k,q t=false)/\Below w.heap.size w wr) (fun i _=>l.length-(intOf i).toNat)
 case atStart=>exact⟨0,rfl,Nat.zero_le _,by simp,Below.refl _ _⟩
 case round =>
  obtain⟨k,rfl,hk,hall,hbr⟩:=hrel
  by_cases hlt:k<l.length
  ·obtain⟨b1,o1,rfl,hb1,c1,c2,c3,c4,c5,c6,c7⟩:=pa k hlt
   have e1:=(hbr.cell (p:=⟨b1,o1+k*7,none⟩) hb1).trans c1;have e2:=(hbr.cell (p:=⟨b1,o1+k*7+1,none⟩) hb1).trans c2;have e3:=(hbr.cell (p:=⟨b1,o1+k*7+2,none⟩) hb1).trans c3;have e4:=(hbr.cell (p:=⟨b1,o1+k*7+3,none⟩) hb1).trans c4;have e5:=(hbr.cell (p:=⟨b1,o1+k*7+4,none⟩) hb1).trans c5;have e6:=(hbr.cell (p:=⟨b1,o1+k*7+5,none⟩) hb1).trans c6;have e7:=(hbr.cell (p:=⟨b1,o1+k*7+6,none⟩) hb1).trans c7;have HA:Hid (_/\_):=⟨hall,hbr⟩;have hkI:(k:Int)<(l.length:Int):=by omega
   have htk:l.take (k+1)=l.take k++[l[k]]:=List.take_succ_eq_append_getElem hlt;have hfs:q l[k]=true->l.findIdx q=k:=fun h=>gJ hlt hall h
   have hxk:∃x,x=l[k]:=⟨_,rfl⟩;obtain⟨x,hxk⟩:=hxk;rw[<-hxk]at e1 e2 e3 e4 e5 e6 e7 htk hfs;have HX:Hid (_/\_):=⟨htk,hfs⟩;clear hall hbr c1 c2 c3 c4 c5 c6 c7 hb1 pa htk hfs hxk;cases hd:q x
   ·go_wp2_with fail
    refine(HQ.out x _ HA.out.2).mono ?_;rw[hd];rintro r w2 ⟨rfl,hb2⟩;have H2:Hid _:=hb2;clear hb2;go_wp2
    go_roundw
    case rel =>
     refine⟨k+1,by simp,hlt,fun t ht=>?_,HA.out.2.trans (H2.out.mono HA.out.2.size)⟩;rw[HX.out.1]at ht;rcases List.mem_append.1 ht with ht|ht
     ·exact HA.out.1 t ht
     ·simp at ht
      rw[ht];exact hd
    case measure=>simp[intOf];omega
   ·go_wp2_with fail
    refine(HQ.out x _ HA.out.2).mono ?_;rw[hd];rintro r w2 ⟨rfl,hb2⟩;have HE:Hid (ans=(k:Int)):=by show ans=_;rw[H.out,HX.out.2 hd];exact if_pos hlt
    have H2:Hid _:=hb2;clear hb2;go_wp2;go_ret;exact⟨by rw[HE.out];rfl,HA.out.2.trans (H2.out.mono HA.out.2.size)⟩
  ·have HE:Hid (ans = -1):=by
    show ans=_;rw[H.out,ib fun t ht=>hall t (by rw[List.take_of_length_le (by omega)];exact ht)];exact if_neg (Nat.lt_irrefl _)
   have HB:Hid _:=hbr;clear hall hbr pa;go_wp2;go_ret;exact⟨by rw[HE.out];rfl,HB.out⟩
def FW(l:List Fl)(s n:Int):List Fl:=l.filter fun f=>!cN s n f
theorem vL(l:List Fl)(t:Fl)(s n:Int):FW (l++[t]) s n=FW l s n++if cN s n t=true then []else [t]:=by
 unfold FW;rw[List.filter_append]
 by_cases h:cN s n t=true <;> simp[h]
theorem Ak(h:∀t∈l,cN s n t=false):FW l s n=l:=List.filter_eq_self.2 fun t ht=>by rw[h t ht];rfl
theorem xh{w:World}{base g n size i:Nat}{e:TypeId}(h:w.ownsRow base e size (.slice (some ⟨g,0,none⟩) n cap) n xs)(hi:i<=n):w.ownsRow base e size (.slice (some ⟨g,0,none⟩) i cap) i (xs.take (i*size)):=l8 h hi
theorem EJ{base g n size:Nat}{e:TypeId}(vs:List Value)(o:Nat)(w:World)(h:w.ownsRow base e size (.slice (some ⟨g,0,none⟩) n cap) n xs)(ho:n*size<=o):(w.setCells g o vs).ownsRow base e size (.slice (some ⟨g,0,none⟩) n cap) n xs/\w.grownBy (w.setCells g o vs) (some g):=kj vs o w h ho
theorem CI{P:Program}(w:World)(t e ty:TypeId)(zs:Array Value)(k:Nat)(hk:zs.size=k)(hk0:0<k)(h1:∀j,j<k->(zs[j]!).oneCell'=true)(ht:P.underlying t=some (.slice e))(hv:∀w,(zeroValue e).run P w=.ok (.agg zs) w)(g o n c:Nat)(hn:0<n)
  (hc:∀j,j<n*k->(w.cell? ⟨g,o+j,none⟩).isSome=true) (hf:∀j,j<n*k->w.frozen? ⟨g,o+j,none⟩=false) :
  ∃vs,(Builtin.clear_ #[t] ty #[.slice (some ⟨g,o,none⟩) n c]).run P w=.ok (.tuple #[]) (w.setCells g o vs):=by
 have hl:(Builtin.zeroCells zs n).toList.length=n*k:=by rw[Array.length_toList,size_zeroCells,hk]
 have hone:∀v∈(Builtin.zeroCells zs n).toList,v.oneCell'=true:=by
  intro v hv;simp only[Builtin.zeroCells,Array.toList_map,List.mem_map]at hv;obtain⟨i,_,rfl⟩:=hv;exact h1 (i % zs.size) (by rw[hk];exact Nat.mod_lt _ hk0)
 have hst:=run_storeCells_cells (P:=P) g o (Builtin.zeroCells zs n).toList 0 w (by rw[hl];simpa using hc) (by rw[hl];simpa using hf) hone;simp only[Nat.add_zero]at hst;refine⟨(Builtin.zeroCells zs n).toList,?_⟩;obtain⟨m,rfl⟩:∃m,n=m+1:=⟨n-1,by omega⟩;simp[Builtin.clear_,run_underlying ht,hv,Value.cells,hst]
theorem ES(W:World):(zeroValue 87).run Tryz.prog W=.ok (.agg #[.int .i64 0,.int .i64 0,.int .i64 0,.int .i64 0,.bool false,.int .i64 0,.int .i64 0]) W:=by kernel_rfl
theorem qF(h:j<l.length):l.drop j=l[j]::l.drop (j+1):=(List.getElem_cons_drop h).symm
def aH(l:List Fl)(s n:Int)(junk:List Fl)(j:Nat):List Fl:=FW (l.take j) s n++junk++l.drop j
theorem CK(hj:j<l.length)(hl:(FW (l.take j) s n).length+junk.length=j):(aH l s n junk j)[j]?=some l[j]:=by
 unfold aH;rw[List.getElem?_append_right (by rw[List.length_append];omega),List.length_append,hl,Nat.sub_self,qF hj];rfl
theorem FR(hj:j<=l.length)(hl:(FW (l.take j) s n).length+junk.length=j):(aH l s n junk j).length=l.length:=by
 unfold aH;rw[List.length_append,List.length_append,List.length_drop];omega
theorem wy(hj:j<l.length)(e:cN s n l[j]=true):aH l s n (junk++[l[j]]) (j+1)=aH l s n junk j/\FW (l.take (j+1)) s n=FW (l.take j) s n:=by
 have h1:FW (l.take (j+1)) s n=FW (l.take j) s n:=by rw[List.take_succ_eq_append_getElem hj,vL,if_pos e,List.append_nil]
 refine⟨?_,h1⟩;unfold aH;rw[h1,qF hj];simp
theorem E4{x:Fl}(hj:j<l.length)(e:¬cN s n l[j]=true):aH l s n (junk++[l[j]]) (j+1)=(aH l s n (x::junk) j).set (FW (l.take j) s n).length l[j]/\FW (l.take (j+1)) s n=FW (l.take j) s n++[l[j]]:=by
 have h1:FW (l.take (j+1)) s n=FW (l.take j) s n++[l[j]]:=by rw[List.take_succ_eq_append_getElem hj,vL,if_neg e]
 refine⟨?_,h1⟩;unfold aH;rw[h1,qF hj];simp
theorem B2{w:World}{base g n:Nat}(h:w.ownsRow base 87 7 (.slice (some ⟨g,0,none⟩) n cap) n (rv ap l)){i:Nat}(hi:i<l.length)(y:Fl):
  (((((((w.setCell ⟨g,i*7,none⟩ (.int .i64 y.slot)).setCell ⟨g,i*7+1,none⟩ (.int .i64 y.gen)).setCell ⟨g,i*7+2,none⟩ (.int .i64 y.key)).setCell ⟨g,i*7+3,none⟩ (.int .i64 y.be)).setCell ⟨g,i*7+4,none⟩ (.bool y.srv)).setCell ⟨g,i*7+5,none⟩ (.int .i64 y.ret)).setCell ⟨g,i*7+6,none⟩ (.int .i64 y.due)).ownsRow base 87 7 (.slice (some ⟨g,0,none⟩) n cap) n (rv ap (l.set i y))/\w.grownBy (((((((w.setCell ⟨g,i*7,none⟩ (.int .i64 y.slot)).setCell ⟨g,i*7+1,none⟩ (.int .i64 y.gen)).setCell ⟨g,i*7+2,none⟩ (.int .i64 y.key)).setCell ⟨g,i*7+3,none⟩ (.int .i64 y.be)).setCell ⟨g,i*7+4,none⟩ (.bool y.srv)).setCell ⟨g,i*7+5,none⟩ (.int .i64 y.ret)).setCell ⟨g,i*7+6,none⟩ (.int .i64 y.due)) (some g):=by
 have s0:=h.stored (i*7) (.int .i64 y.slot);have s1:=s0.1.stored (i*7+1) (.int .i64 y.gen);have s2:=s1.1.stored (i*7+2) (.int .i64 y.key);have s3:=s2.1.stored (i*7+3) (.int .i64 y.be);have s4:=s3.1.stored (i*7+4) (.bool y.srv);have s5:=s4.1.stored (i*7+5) (.int .i64 y.ret);have s6:=s5.1.stored (i*7+6) (.int .i64 y.due);have e0:=iy ba l i 0 (.int .i64 y.slot) ({l[i]with slot:=y.slot}:Fl) hi (by omega) rfl;have e1:=iy ba (l.set i ({l[i]with slot:=y.slot}:Fl)) i 1 (.int .i64 y.gen) ({l[i]with slot:=y.slot,gen:=y.gen}:Fl) (by simpa using hi) (by omega) (by rw[List.getElem_set_self];rfl);have e2:=iy ba (l.set i ({l[i]with slot:=y.slot,gen:=y.gen}:Fl)) i 2 (.int .i64 y.key) ({l[i]with slot:=y.slot,gen:=y.gen,key:=y.key}:Fl) (by simpa using hi) (by omega) (by rw[List.getElem_set_self];rfl);have e3:=iy ba (l.set i ({l[i]with slot:=y.slot,gen:=y.gen,key:=y.key}:Fl)) i 3 (.int .i64 y.be) ({l[i]with slot:=y.slot,gen:=y.gen,key:=y.key,be:=y.be}:Fl) (by simpa using hi) (by omega) (by rw[List.getElem_set_self];rfl);have e4:=iy ba (l.set i ({l[i]with slot:=y.slot,gen:=y.gen,key:=y.key,be:=y.be}:Fl)) i 4 (.bool y.srv) ({l[i]with slot:=y.slot,gen:=y.gen,key:=y.key,be:=y.be,srv:=y.srv}:Fl) (by simpa using hi) (by omega) (by rw[List.getElem_set_self];rfl);have e5:=iy ba (l.set i ({l[i]with slot:=y.slot,gen:=y.gen,key:=y.key,be:=y.be,srv:=y.srv}:Fl)) i 5 (.int .i64 y.ret) ({l[i]with slot:=y.slot,gen:=y.gen,key:=y.key,be:=y.be,srv:=y.srv,ret:=y.ret}:Fl) (by simpa using hi) (by omega) (by rw[List.getElem_set_self];rfl);have e6:=iy ba (l.set i ({l[i]with slot:=y.slot,gen:=y.gen,key:=y.key,be:=y.be,srv:=y.srv,ret:=y.ret}:Fl)) i 6 (.int .i64 y.due) ({l[i]with slot:=y.slot,gen:=y.gen,key:=y.key,be:=y.be,srv:=y.srv,ret:=y.ret,due:=y.due}:Fl) (by simpa using hi) (by omega) (by rw[List.getElem_set_self];rfl);simp only[List.set_set,Nat.add_zero]at e0 e1 e2 e3 e4 e5 e6;rw[e0]at s0 s1 s2 s3 s4 s5 s6;rw[e1]at s1 s2 s3 s4 s5 s6;rw[e2]at s2 s3 s4 s5 s6;rw[e3]at s3 s4 s5 s6;rw[e4]at s4 s5 s6;rw[e5]at s5 s6;rw[e6]at s6;exact⟨s6.1,(((((s0.2.trans s1.2).trans s2.2).trans s3.2).trans s4.2).trans s5.2).trans s6.2⟩
theorem yW(base g c:Nat)(l:List Fl)(s n:Int)(gid:Nat)(w:World)(hown:w.ownsRow base 87 7 (.slice (some ⟨g,0,none⟩) l.length c) l.length (rv ap l))(h:w.cell? ⟨gid,0,none⟩=some (.int .i64 s))(hd:w.cell? ⟨gid,1,none⟩=some (.int .i64 n))(hne:gid≠g)(hex:∃t∈l,cN s n t=true) :
  Calls Tryz.prog 185 #[.slice (some ⟨g,0,none⟩) l.length c,.func (.func 186) #[] #[.pointer (some ⟨gid,0,none⟩)]] w fun r w'=>r=.returned (.slice (some ⟨g,0,none⟩) (FW l s n).length c)/\w'.ownsRow base 87 7 (.slice (some ⟨g,0,none⟩) (FW l s n).length c) (FW l s n).length (rv ap (FW l s n))/\w.grownBy w' (some g):=by
 have hidx:=FJ _ l s n gid w (gZ hown) h hd;have hglt:=World.block_lt_of_cell? w ⟨gid,0,none⟩ h;obtain⟨k,hke⟩:∃k,k=l.findIdx (cN s n):=⟨_,rfl⟩;have hk:k<l.length:=by rw[hke];obtain⟨t,ht,e⟩:=hex;exact List.findIdx_lt_length_of_exists ⟨t,ht,e⟩
 have hkid:cN s n l[k]=true:=by subst hke;exact List.findIdx_getElem (w:=hk)
 have hbef:∀t∈l.take k,cN s n t=false:=by
  intro t ht;obtain⟨j,hj,rfl⟩:=List.getElem_of_mem ht;have hj2:j<k:=by simp at hj;omega
  rw[List.getElem_take];have:=List.not_of_lt_findIdx (p:=cN s n) (xs:=l) (i:=j) (by rw[<-hke];exact hj2)
  simpa using this
 have hix:bz (l.findIdx (cN s n)) l.length=(k:Int):=by rw[<-hke];exact if_pos hk
 rw[hix]at hidx;have hcap:l.length<=c/\c<=maxLen:=by
  obtain⟨_,c',he,hc,hm,_⟩:=gZ hown;cases he;exact⟨hc,hm⟩
 obtain⟨hc1,hc2⟩:=hcap;unfold maxLen at hc2;have hkp:FW (l.take k) s n=l.take k:=Ak hbef;have hms:=wy (junk:=[]) hk hkid;have H0:Hid (_/\_/\_/\_):=⟨hidx,hown,h,hd⟩;have H1:Hid (_/\_/\_):=⟨hkp,hms.1,hms.2⟩;have hkm:((k:Int) == -1)=false:=by
  rw[beq_eq_false_iff_ne];omega
 clear hidx hown h hd hex hke hix hkp hms hkid hbef;go_enter Tryz.func185,Tryz.ntmps185
 go_wp2_with fail
 refine Calls.mono H0.out.1 ?_;rintro r w1 ⟨rfl,hb1⟩;have HB:Hid _:=hb1;clear hb1;go_wp2
 go_loopw [5,6] (fun s5 s6 wr=>∃(j:Nat) (junk:List Fl),s5=.int .i64 ((FW (l.take j) s n).length:Nat)/\s6=.int .i64 j/\j<=l.length/\(FW (l.take j) s n).length+junk.length=j/\junk≠[]/\wr.ownsRow base 87 7 (.slice (some ⟨g,0,none⟩) l.length c) l.length (rv ap (aH l s n junk j))/\w.grownBy wr (some g)) (fun _ s6 _=>l.length-(intOf s6).toNat)
 case atStart =>
  obtain⟨hkp,hm1,hm2⟩:=H1.out;have e0:aH l s n [l[k]] (k+1)=l:=by
   have:aH l s n ([]++[l[k]]) (k+1)=aH l s n [] k:=hm1;rw[List.nil_append]at this;rw[this];unfold aH;rw[hkp,List.append_nil,List.take_append_drop]
  have e1:(FW (l.take (k+1)) s n).length=k:=by rw[hm2,hkp,List.length_take];omega
  refine⟨k+1,[l[k]],by rw[e1],by simp,hk,by rw[e1];rfl,by simp,?_,⟨HB.out.os,HB.out.tape,HB.out.output,HB.out.size,fun k hk _=>HB.out.block k hk⟩⟩;rw[e0];exact cq H0.out.2.1 HB.out
 case round =>
  obtain⟨j,junk,rfl,rfl,hj,hjl,hjn,hrow,hgr⟩:=hrel;have hml:=FR hj hjl;have hc3:wr.cell? ⟨gid,0,none⟩=some (.int .i64 s):=hgr.cell H0.out.2.2.1 (by simpa using hne);have hd3:wr.cell? ⟨gid,1,none⟩=some (.int .i64 n):=hgr.cell H0.out.2.2.2 (by simpa using hne);obtain⟨x,junk',rfl⟩:∃x junk',junk=x::junk':=by
   cases junk with
   |nil=>exact absurd rfl hjn
   |cons x r=>exact⟨x,r,rfl⟩
  rw[List.length_cons]at hjl;have hglt2:gid<wr.heap.size:=Nat.lt_of_lt_of_le hglt hgr.size;have hrl:=(hrow.lt g rfl).2;generalize hi:(FW (l.take j) s n).length=i at *
  by_cases hlt:j<l.length
  ·have hat:=CK (s:=s) (n:=n) (junk:=x::junk') hlt (by rw[hi,List.length_cons];omega)
   obtain⟨hj',hat'⟩:=List.getElem?_eq_some_iff.1 hat
   have hi':i<(aH l s n (x::junk') j).length:=by omega
   have f0:=(hrow.cellAt (j*7) (by omega)).trans ((dF ba (aH l s n (x::junk') j) j 0 hj' (by omega)).trans (show(ap ((aH l s n (x::junk') j)[j]'hj'))[0]?=some (.int .i64 l[j].slot)by rw[hat'];rfl));have f1:=(hrow.cellAt (j*7+1) (by omega)).trans ((dF ba (aH l s n (x::junk') j) j 1 hj' (by omega)).trans (show(ap ((aH l s n (x::junk') j)[j]'hj'))[1]?=some (.int .i64 l[j].gen)by rw[hat'];rfl));have f2:=(hrow.cellAt (j*7+2) (by omega)).trans ((dF ba (aH l s n (x::junk') j) j 2 hj' (by omega)).trans (show(ap ((aH l s n (x::junk') j)[j]'hj'))[2]?=some (.int .i64 l[j].key)by rw[hat'];rfl));have f3:=(hrow.cellAt (j*7+3) (by omega)).trans ((dF ba (aH l s n (x::junk') j) j 3 hj' (by omega)).trans (show(ap ((aH l s n (x::junk') j)[j]'hj'))[3]?=some (.int .i64 l[j].be)by rw[hat'];rfl));have f4:=(hrow.cellAt (j*7+4) (by omega)).trans ((dF ba (aH l s n (x::junk') j) j 4 hj' (by omega)).trans (show(ap ((aH l s n (x::junk') j)[j]'hj'))[4]?=some (.bool l[j].srv)by rw[hat'];rfl));have f5:=(hrow.cellAt (j*7+5) (by omega)).trans ((dF ba (aH l s n (x::junk') j) j 5 hj' (by omega)).trans (show(ap ((aH l s n (x::junk') j)[j]'hj'))[5]?=some (.int .i64 l[j].ret)by rw[hat'];rfl));have f6:=(hrow.cellAt (j*7+6) (by omega)).trans ((dF ba (aH l s n (x::junk') j) j 6 hj' (by omega)).trans (show(ap ((aH l s n (x::junk') j)[j]'hj'))[6]?=some (.int .i64 l[j].due)by rw[hat'];rfl));have g0:=(hrow.cellAt (i*7) (by omega)).trans ((dF ba (aH l s n (x::junk') j) i 0 hi' (by omega)).trans (show(ap ((aH l s n (x::junk') j)[i]'hi'))[0]?=some (.int .i64 ((aH l s n (x::junk') j)[i]'hi').slot)from rfl));have z0:=hrow.frozenAt (i*7);have g1:=(hrow.cellAt (i*7+1) (by omega)).trans ((dF ba (aH l s n (x::junk') j) i 1 hi' (by omega)).trans (show(ap ((aH l s n (x::junk') j)[i]'hi'))[1]?=some (.int .i64 ((aH l s n (x::junk') j)[i]'hi').gen)from rfl));have z1:=hrow.frozenAt (i*7+1);have g2:=(hrow.cellAt (i*7+2) (by omega)).trans ((dF ba (aH l s n (x::junk') j) i 2 hi' (by omega)).trans (show(ap ((aH l s n (x::junk') j)[i]'hi'))[2]?=some (.int .i64 ((aH l s n (x::junk') j)[i]'hi').key)from rfl));have z2:=hrow.frozenAt (i*7+2);have g3:=(hrow.cellAt (i*7+3) (by omega)).trans ((dF ba (aH l s n (x::junk') j) i 3 hi' (by omega)).trans (show(ap ((aH l s n (x::junk') j)[i]'hi'))[3]?=some (.int .i64 ((aH l s n (x::junk') j)[i]'hi').be)from rfl));have z3:=hrow.frozenAt (i*7+3);have g4:=(hrow.cellAt (i*7+4) (by omega)).trans ((dF ba (aH l s n (x::junk') j) i 4 hi' (by omega)).trans (show(ap ((aH l s n (x::junk') j)[i]'hi'))[4]?=some (.bool ((aH l s n (x::junk') j)[i]'hi').srv)from rfl));have z4:=hrow.frozenAt (i*7+4);have g5:=(hrow.cellAt (i*7+5) (by omega)).trans ((dF ba (aH l s n (x::junk') j) i 5 hi' (by omega)).trans (show(ap ((aH l s n (x::junk') j)[i]'hi'))[5]?=some (.int .i64 ((aH l s n (x::junk') j)[i]'hi').ret)from rfl));have z5:=hrow.frozenAt (i*7+5);have g6:=(hrow.cellAt (i*7+6) (by omega)).trans ((dF ba (aH l s n (x::junk') j) i 6 hi' (by omega)).trans (show(ap ((aH l s n (x::junk') j)[i]'hi'))[6]?=some (.int .i64 ((aH l s n (x::junk') j)[i]'hi').due)from rfl));have z6:=hrow.frozenAt (i*7+6);obtain⟨y,hy⟩:∃y,y=l[j]:=⟨_,rfl⟩;rw[<-hy]at f0 f1 f2 f3 f4 f5 f6;generalize ((aH l s n (x::junk') j)[i]'hi')=od at g0 g1 g2 g3 g4 g5 g6;have hst:=B2 hrow hi' y;have HR:Hid (_/\_/\_/\_/\_):=⟨hst,hrow,hgr,hy,hi⟩;have hjI:(j:Int)<(l.length:Int):=by omega
   have hiI:(i:Int)<(l.length:Int):=by omega
   have hilj:i<j:=by omega
   have hil:i<l.length:=by omega
   have hlo:wr.heap.size≠gid:=by omega
   have HCC:Hid (_/\_):=⟨(World.cell?_of_block (a:=⟨gid,0,none⟩) (Below.heap_alloc wr (.cells #[.int .i64 y.slot,.int .i64 y.gen,.int .i64 y.key,.int .i64 y.be,.bool y.srv,.int .i64 y.ret,.int .i64 y.due] 87) gid hglt2)).trans hc3,(World.cell?_of_block (a:=⟨gid,1,none⟩) (Below.heap_alloc wr (.cells #[.int .i64 y.slot,.int .i64 y.gen,.int .i64 y.key,.int .i64 y.be,.bool y.srv,.int .i64 y.ret,.int .i64 y.due] 87) gid hglt2)).trans hd3⟩;clear hrow hgr hc3 hd3 hat hat' hy hj' hi' hi hjn hst hml;cases hd:cN s n y
   ·go_wp2_with fail
    refine(pJ y s n gid _ HCC.out.1 HCC.out.2).mono ?_;rw[hd];rintro r w2 ⟨rfl,rfl⟩;go_wp2
    go_roundw
    case rel =>
     obtain⟨hst,hrow,hgr,hlj,hi⟩:=HR.out;have hne2:¬cN s n l[j]=true:=by rw[<-hlj,hd];decide
     obtain⟨m1,m2⟩:=E4 (x:=x) (junk:=junk') hlt hne2;rw[hi,<-hlj]at m1;refine⟨j+1,junk'++[l[j]],by rw[m2,List.length_append,hi];simp,by simp,hlt,by rw[m2,List.length_append,hi];simp;omega,by simp,?_,?_⟩
     ·rw[<-hlj,m1];exact(hst.1.alloc _).alloc _
     ·exact((hgr.trans hst.2).trans (World.grownBy_alloc _ _ _)).trans (World.grownBy_alloc _ _ _)
    case measure=>simp[intOf];omega
   ·go_wp2_with fail
    refine(pJ y s n gid _ HCC.out.1 HCC.out.2).mono ?_;rw[hd];rintro r w2 ⟨rfl,rfl⟩;go_wp2
    go_roundw
    case rel =>
     obtain⟨hst,hrow,hgr,hlj,hi⟩:=HR.out;have he2:cN s n l[j]=true:=by rw[<-hlj];exact hd
     obtain⟨m1,m2⟩:=wy (junk:=x::junk') hlt he2;refine⟨j+1,x::junk'++[l[j]],by rw[m2,hi],by simp,hlt,by rw[m2,hi];simp;omega,by simp,?_,?_⟩
     ·rw[m1];exact(hrow.alloc _).alloc _
     ·exact(hgr.trans (World.grownBy_alloc _ _ _)).trans (World.grownBy_alloc _ _ _)
    case measure=>simp[intOf];omega
  ·obtain rfl:j=l.length:=by omega
   have hii:i<l.length:=by omega
   obtain⟨vs,hcl⟩:=CI (P:=Tryz.prog) wr 34 87 0 #[.int .i64 0,.int .i64 0,.int .i64 0,.int .i64 0,.bool false,.int .i64 0,.int .i64 0] 7 rfl (by decide) (by decide) Tryz.underlying34 ES g (i*7) (l.length-i) (c-i) (by omega) (fun t ht=>by
    have h1:=hrow.cellAt (i*7+t) (by omega);rw[h1,List.getElem?_eq_getElem (by rw[gS ba,hml];omega)];rfl) (fun t _=>hrow.frozenAt _)
   have hcut:=EJ vs (i*7) wr (xh hrow (i:=i) (by omega)) (Nat.le_refl _);have e1:(rv ap (aH l s n (x::junk') l.length)).take (i*7)=rv ap (FW l s n):=by
    have e2:FW (l.take l.length) s n=FW l s n:=by rw[List.take_length]
    rw[e2]at hi;rw[oF ba];unfold aH;rw[e2,List.append_assoc,List.take_append_of_le_length (by omega),<-hi,List.take_length]
   rw[e1]at hcut;have hik:(FW l s n).length=i:=by rw[<-hi,List.take_length]
   have HR:Hid (_/\_/\_):=⟨hcut,hgr,hik⟩;have hiI:(i:Int)<(l.length:Int):=by omega
   have hiI2:(i:Int)<=(c:Int):=by omega
   have hcne:c≠i:=by omega
   clear hcut hgr hrow hi e1 hik hc3 hd3;go_wp2;go_ret;obtain⟨r1,r2,r3⟩:=HR.out;rw[r3];exact⟨rfl,r1.1,r2.trans r1.2⟩
section
variable {base:Nat}{w:World}{g:Nat}{V:Vs}{G:Gt}
theorem vW(h:ab base w g V G)(hf:f∈G.fls)(hl:G.fls.length<=40):
  Calls Tryz.prog 140 #[gP g,.agg #[.int .i64 f.slot,.int .i64 f.gen]] w fun r w'=>∃q c,r=.returned (.slice (some ⟨q,0,none⟩) (bO G.fls f.slot f.gen).length c)/\w'.ownsRow w.heap.size 87 7 (.slice (some ⟨q,0,none⟩) (bO G.fls f.slot f.gen).length c) (bO G.fls f.slot f.gen).length (rv ap (bO G.fls f.slot f.gen))/\Below w.heap.size w w':=by
 have h0:0<G.fls.length:=List.length_pos_of_mem hf;obtain⟨bf,hp,_,hbl⟩:=h.bf h0;obtain⟨W,hW⟩:∃W,W=w.alloc (.cells #[.int .i64 f.slot,.int .i64 f.gen] 81):=⟨_,rfl⟩;have hB:Below w.heap.size w W:=by rw[hW];exact ai w
 have hR:W.heap[w.heap.size]?=some (.cells #[.int .i64 f.slot,.int .i64 f.gen] 81 (0,0)):=by rw[hW];exact heap_alloc_new _ _
 have hWs:W.heap.size=w.heap.size+1:=by rw[hW];simp
 have hG:=h.below hB;have hfa:=hG.GK;have c18:=h.Gr;rw[hp]at hfa c18;have hgl:=h.lt;have HC:Hid _:=CA ⟨bf,0,none⟩ V.cf G.fls W hfa h0 (by omega);have hex:∃t∈G.fls,cN f.slot f.gen t=true:=⟨f,hf,by simp[cN]⟩;have H:Hid (_/\_/\_/\_):=⟨hB,hR,hex,hWs⟩;clear h hG hfa hf hB hR hex hWs;go_enter Tryz.func140,Tryz.ntmps140
 go_wp2_with fail
 rw[<-hW];refine Calls.mono HC.out ?_;rintro r w1 ⟨q,c,rfl,ho,hb1⟩;have hR1:=af H.out.2.1 hb1;obtain⟨d0,d1,_,_,dlt⟩:=au hR1;have hqb:=(ho.lt q rfl).1;have hws:=H.out.2.2.2;have hwl:=H.out.1;have HD:Hid (_/\_/\_):=⟨yW W.heap.size q c G.fls f.slot f.gen w.heap.size w1 ho d0 d1 (by omega) H.out.2.2.1,hwl.trans (hb1.mono hwl.size),(by omega:w.heap.size<=q)⟩;clear ho hb1 hR1 d0 d1 dlt hqb hws hwl
 go_wp2_with fail
 refine Calls.mono HD.out.1 ?_;rintro r w2 ⟨rfl,ho2,hg2⟩;have H2:Hid (_/\_):=⟨ho2.mono (by rw[H.out.2.2.2];exact Nat.le_succ _),HD.out.2.1.grown hg2 HD.out.2.1.size (fun k hk=>by rw[<-Option.some.inj hk];exact HD.out.2.2)⟩;clear ho2 hg2;go_wp2;go_ret;exact⟨q,c,rfl,H2.out.1,H2.out.2⟩
end
section
variable {base:Nat}{w:World}{g:Nat}{V:Vs}{G:Gt}
abbrev n8(f:Fl):Obj:=.cells #[.int .i64 f.slot,.int .i64 f.gen,.int .i64 f.key,.int .i64 f.be,.bool f.srv,.int .i64 f.ret,.int .i64 f.due] 87
theorem kg{q:Nat}(h:W.heap[q]?=some (n8 f)):W.cell? ⟨q,0,none⟩=some (.int .i64 f.slot)/\W.cell? ⟨q,1,none⟩=some (.int .i64 f.gen)/\W.cell? ⟨q,2,none⟩=some (.int .i64 f.key)/\W.cell? ⟨q,3,none⟩=some (.int .i64 f.be)/\W.cell? ⟨q,4,none⟩=some (.bool f.srv)/\W.cell? ⟨q,5,none⟩=some (.int .i64 f.ret)/\W.cell? ⟨q,6,none⟩=some (.int .i64 f.due)/\q<W.heap.size :=
 ⟨by rw[cell_of_row W _ 0 _ _ (0,0) h];rfl,by rw[cell_of_row W _ 1 _ _ (0,0) h];rfl,by rw[cell_of_row W _ 2 _ _ (0,0) h];rfl,by rw[cell_of_row W _ 3 _ _ (0,0) h];rfl,by rw[cell_of_row W _ 4 _ _ (0,0) h];rfl,by rw[cell_of_row W _ 5 _ _ (0,0) h];rfl,by rw[cell_of_row W _ 6 _ _ (0,0) h];rfl,(Array.getElem?_eq_some_iff.1 h).1⟩
theorem kz(h:ab base w g V G)(hbs:Bs G)(hf:f∈G.fls)(hl:G.out.length<=900000)(kind why:Int):
  Calls Tryz.prog 97 #[gP g,dM f,.int .i64 kind,.int .i64 why] w (eK base w g V (dn G f kind why)):=by
 have hbd:=(hbs.F9 hf).1;have hfl:=hbs.Gb;obtain⟨m,hm⟩:∃m,m=(ed G.tab f.slot f.gen).1:=⟨_,rfl⟩;have hme:(ed G.tab f.slot f.gen).2=0:=by rw[hbs.Hj hf]
 obtain⟨W,hW⟩:∃W,W=w.alloc (n8 f):=⟨_,rfl⟩;have hB:Below w.heap.size w W:=by rw[hW];exact ai w
 have hR:W.heap[w.heap.size]?=some (n8 f):=by rw[hW];exact heap_alloc_new _ _
 have hG:=h.below hB;have hno:¬V.own g w.heap.size:=h.rest.new (Nat.le_refl _);have hwl:w.heap.size<W.heap.size:=(Array.getElem?_eq_some_iff.1 hR).1;have hgl:=h.lt;have hne:¬g=w.heap.size:=by omega
 have hne2:¬w.heap.size=g:=by omega
 obtain⟨x0,x1,x2,x3,x4,x5,x6,_⟩:=kg hR;have c17:=hG.Gs;have hgW:=hG.lt;have HD:Hid (∀W',Below W.heap.size W W'->Calls Tryz.prog 139 #[.agg #[.slice V.pt G.tab.length V.ct],.agg #[.int .i64 f.slot,.int .i64 f.gen]] W' fun r w'=>∃p c,r=.returned (.tuple #[.agg #[.slice p m.length c],.int .i64 0])/\w'.cell? ⟨g,17,none⟩=some (.slice V.pt G.tab.length V.ct)/\w'.frozen? ⟨g,17,none⟩=false/\g<w'.heap.size/\(w'.cell? ⟨w.heap.size,0,none⟩=some (.int .i64 f.slot)/\w'.cell? ⟨w.heap.size,1,none⟩=some (.int .i64 f.gen)) /\
   Hid (ab base (w'.setCell ⟨g,17,none⟩ (.slice p m.length c)) g {V with pt:=p,ct:=c} {G with tab:=m}/\am V {V with pt:=p,ct:=c} g W (w'.setCell ⟨g,17,none⟩ (.slice p m.length c)))):=by
  refine fun W' hW'=>(Ck (.slice V.pt G.tab.length V.ct) G.tab f.slot f.gen W' (hG.rest.tab.now.below hW')).mono ?_
  rw[<-hm,hme];rintro r w' ⟨p,c,rfl,ho,hb⟩;have hb':Below W.heap.size W w':=hW'.trans (hb.mono hW'.size);have hG3:=hG.below hb';have hx:=kg (af hR hb');exact⟨p,c,rfl,hG3.Gs,hG3.fz 17,hG3.lt,⟨hx.1,hx.2.1⟩,hG.Ix hb' (ho.mono hW'.size),((am.F5 (V:=V) (g:=g) hb').F4 17 _).Gp fun _ h=>h⟩
 have H:Hid (_/\_/\_/\_/\_/\_/\_):=⟨h,hB,hR,hno,hf,hm,hl⟩;have HX:Hid (_/\_):=⟨hbd,hfl⟩;clear h hbs hf hbd hfl hl hm hme hB hR hG hno x2 x3 x4 x5 x6;go_enter Tryz.func97,Tryz.ntmps97
 go_wp2_with fail
 rw[<-hW];clear hW
 go_region_with (first|(go_at_call 139;refine(HD.out _ (by first|exact(Below.refl _ _).drew|exact Below.refl _ _)).mono ?_;rintro r w3 ⟨p,c,rfl,g17,f17,hgl3,⟨y0,y1⟩,hG3⟩))
 all_goals
  obtain⟨w4,hw4⟩:∃w4,w4=w3.setCell ⟨g,17,none⟩ (.slice p m.length c):=⟨_,rfl⟩;have hG4:=hG3.out.1;have hF4:=hG3.out.2;rw[<-hw4]at hG4 hF4;have hR4:=hF4.Gf H.out.2.2.1 H.out.2.2.2.1;have hn4:¬Vs.own {V with pt:=p,ct:=c} g w.heap.size:=H.out.2.2.2.1;have HWo:=vW hG4 (f:=f) H.out.2.2.2.2.1 HX.out.2;obtain⟨z0,z1,z2,z3,_,_,_,zlt⟩:=kg hR4;have H4:Hid (_/\_/\_/\_/\_):=⟨HWo,hG4,(am.F5 (V:=V) (g:=g) H.out.2.1).F0 hF4,hR4,hn4⟩;clear hG3 hG4 hF4 hR4 HWo g17 f17 hgl3 y0 y1 x0 x1 c17 hgW hwl hn4;rw[<-hw4];clear hw4
  go_wp2_with fail
  refine Calls.mono H4.out.1 ?_;rintro r w5 ⟨q,c5,rfl,ho5,hb5⟩;have hG5:=H4.out.2.1.below hb5;have e18:=hG5.Gr;have f18:=hG5.fz 18;have hgl5:=hG5.lt;obtain⟨w6,hw6⟩:∃w6,w6=w5.setCell ⟨g,18,none⟩ (.slice (some ⟨q,0,none⟩) (bO G.fls f.slot f.gen).length c5):=⟨_,rfl⟩;have hq5:=(ho5.lt q rfl).1;have hG6:=H4.out.2.1.IU (p:=some ⟨q,0,none⟩) (c:=c5) (m:=bO G.fls f.slot f.gen) hb5.size (fun b hb _=>hb5.block b hb) (ho5.mono H4.out.2.1.base) (fun b e=>by cases e;exact .inr hq5);rw[<-hw6]at hG6;have hF6:am {V with pt:=p,ct:=c} {V with pt:=p,ct:=c,pf:=some ⟨q,0,none⟩,cf:=c5} g w4 w6:=by
   rw[hw6];have hx:am {V with pt:=p,ct:=c} {V with pt:=p,ct:=c,pf:=some ⟨q,0,none⟩,cf:=c5} g w4 w5:=by
    refine⟨hb5.os,hb5.tape,hb5.output,hb5.size,fun b hb _=>hb5.block b hb,fun b e=>?_⟩;rcases e with e|e|e|e
    ·exact .inl (.inl e)
    ·exact .inl (.inr (.inl e))
    ·cases e;exact .inr hq5
    ·exact .inl (.inr (.inr (.inr e)))
   exact hx.F4 18 _
  have hR6:=hF6.Gf H4.out.2.2.2.1 H4.out.2.2.2.2;have hn6:=hF6.Ik (Array.getElem?_eq_some_iff.1 H4.out.2.2.2.1).1 H4.out.2.2.2.2;obtain⟨v0,v1,v2,v3,_,_,_,vlt⟩:=kg (af H4.out.2.2.2.1 hb5);have H6:Hid (_/\_/\_/\_/\_):=⟨vP hG6 HX.out.1,H4.out.2.2.1.F0 hF6,hR6,hn6,hG6⟩;clear hG6 hF6 hR6 hn6 ho5 hb5 hG5 z0 z1 z2 z3 zlt hq5
  go_wp2_with fail
  rw[<-hw6];clear hw6 e18 f18 hgl5;refine Calls.mono H6.out.1 ?_;rintro r w7 ⟨rfl,V7,hG7,hV7,hF7⟩;have B7:Hid (V7.bh=V.bh):=hV7.2.2;clear hV7;have hR7:=hF7.Gf H6.out.2.2.1 H6.out.2.2.2.1;have hn7:=hF7.Ik (Array.getElem?_eq_some_iff.1 H6.out.2.2.1).1 H6.out.2.2.2.1;obtain⟨k0,k1,k2,k3,_,_,_,klt⟩:=kg hR7;have hl7:(kU {G with tab:=m,fls:=bO G.fls f.slot f.gen} f.slot).out.length<=1000000:=by show G.out.length<=1000000;have:=H.out.2.2.2.2.2.2;omega
  have H7:Hid (_/\_/\_/\_/\_):=⟨ld hG7 hl7 ⟨kind,f.slot,f.gen,f.be,0,0,why⟩,H6.out.2.1.F0 hF7,hR7,hn7,hG7⟩;clear hG7 hF7 hR7 hn7 v0 v1 v2 v3 vlt hl7
  go_wp2_with fail
  refine Calls.mono H7.out.1 ?_;rintro r w8 ⟨rfl,V8,hG8,hV8,hF8⟩;have B8:Hid (V8.bh=V.bh):=hV8.2.2.trans B7.out;clear hV8;have hR8:=hF8.Gf H7.out.2.2.1 H7.out.2.2.2.1;obtain⟨j0,j1,j2,j3,_,_,_,jlt⟩:=kg hR8;have hl8:(ge (kU {G with tab:=m,fls:=bO G.fls f.slot f.gen} f.slot) ⟨kind,f.slot,f.gen,f.be,0,0,why⟩).out.length<=1000000:=by show(G.out++[_]).length<=1000000;have:=H.out.2.2.2.2.2.2;simp;omega
  have H8:Hid (_/\_):=⟨re hG8 hl8 f.be,H7.out.2.1.F0 hF8⟩;clear hG8 hF8 hR8 k0 k1 k2 k3 klt hl8
  go_wp2_with fail
  refine Calls.mono H8.out.1 ?_;rintro r w9 ⟨rfl,V9,hG9,hV9,hF9⟩;have H9:Hid (_/\_/\_):=⟨hG9,H8.out.2.F0 hF9,hV9.2.2.trans B8.out⟩;clear hG9 hF9 hV9;go_wp2
  go_end0
  have hm:=H.out.2.2.2.2.2.1;subst hm;exact⟨rfl,V9,H9.out.1,H9.out.2.2,H9.out.2.1⟩
end
end Go.Proofs.YtalhkllgnlejbaaGreatDoor.Q
