/-
  Contracts of the layers and of core, part 13. Conditions: as each theorem says.
-/
import Derived.Test.YtgnclkcdnbfeeaaGreatDoorQ3
import Derived.Test.YtgnclkcdnbfeeaaGreatDoorQ12
open Array renaming length_toList->Om
open Bool renaming false->Nb,true->Nw
open Decidable renaming decide->Nn
open Go renaming Addr->Oc,Calls->Ni,Program->O8,TypeId->NU,Value->M7,World->MO,bodyPost_ret->Np,cell_of_row->MW,heap_alloc_new->M1,heap_setCell_same->NI,maxLen->NE
open Go.Builtin renaming append_->N2,clear_->Rs,zeroCells->N5
open Go.Calls renaming mono->Nd
open Go.Ending renaming returned->MN
open Go.Fn renaming func->PD
open Go.IntKind renaming i64->ME,wrap_i64->Ow
open Go.Lit renaming int->N6
open Go.Obj renaming cells->MP
open Go.Proofs.Tryz renaming func110->ayW,func123->Uo,func124->VV,func130->ayz,func132->Rp,func141->ayQ,func142->ayP,func155->ayv,func181->azS,func85->Wd,func96->UY,func99->azW,ntmps110->ayL,ntmps123->Uc,ntmps124->VL,ntmps130->ayt,ntmps132->Q6,ntmps141->ayG,ntmps142->ayF,ntmps155->ayr,ntmps181->azG,ntmps85->VU,ntmps96->UV,ntmps99->azR,prog->MK,results96->azi,underlying40->U3
open Go.RowKit renaming Below->MQ,Hid->M6
open Go.RowKit.Below renaming heap_alloc->Ov,heap_setCell->MU,refl->MY
open Go.Value renaming agg->Ny,bool->M3,func->PB,int->MF,pointer->Na,slice->MG,tuple->Nv
open Go.World renaming block_lt_of_cell?->MX,cell?->Nl,cell?_of_block->NG,frozen?->Ng,grownBy_alloc->OL
open List renaming append_assoc->OC,append_nil->OG,ext_getElem->PX,filter_append->OY,getElem?_append_right->Tw,getElem?_eq_getElem->MR,getElem?_set_ne->N3,getElem?_set_self->N7,getElem_cons_drop->Pp,getElem_mem->Nk,getElem_of_mem->NV,getElem_set->Pc,getElem_set_self->NW,getElem_zip->Qf,length_append->Ns,length_cons->Ox,length_drop->NJ,length_pos_of_mem->Qj,length_set->NA,length_take->NH,mem_cons->OO,nil_append->Oz,not_mem_nil->OD,take_append_drop->Oo,take_append_of_le_length->ZqA,take_length->NT,take_of_length_le->N1,take_succ_eq_append_getElem->M9
open Nat renaming add_zero->Oe,le_of_lt->PJ,le_refl->MV,le_succ->Ps,le_trans->Nm,lt_irrefl->PC,lt_of_le_of_lt->Pb,lt_of_lt_of_le->M8,zero_add->Oa,zero_le->Nx
open Ne renaming symm->Pi
open Option renaming none->MH,some->MI
open Option.some renaming inj->NC
open Or renaming inl->Nt,inr->NF
namespace Go.Proofs.YtgnclkcdnbfeeaaGreatDoor.Q
set_option linter.unusedVariables false
set_option linter.unusedSimpArgs false
set_option maxHeartbeats 16000000
set_option maxRecDepth 100000
open Go.RowKit
attribute [local go_sem ↓] Go.wp_at_zero Go.wp_at_succ
variable {f:Fl}{n s:Int}{junk l:List Fl}{xs:List M7}{L:List awV}{W:MO}{P:MO->Prop}{b c cap j k:Nat}{S:Nat->Prop}{p:Option Oc}{T:Tm->Prop}
abbrev WX(f:Fl):List Value:=[MF ME f.slot,MF ME f.gen,MF ME f.key,MF ME f.be,M3 f.srv,MF ME f.ret,MF ME f.due]
abbrev Z1(o:Ou):List Value:=[MF ME o.kind,MF ME o.slot,MF ME o.gen,MF ME o.be,MF ME o.req,MF ME o.code,MF ME o.why]
abbrev Mk:=Option Oc×Nat
abbrev aa0(x:Mk×He):List Value:=[MG x.1.1 x.2.marks.length x.1.2,M3 x.2.out,MF ME x.2.till,MF ME x.2.times]
theorem XL(x:Fl):(WX x).length=7:=rfl
theorem akV(x:Ou):(Z1 x).length=7:=rfl
theorem aci(x:Mk×He):(aa0 x).length=4:=rfl
theorem acI(x:Fl):∀u∈WX x,u.oneCell'=true:=by
 intro u a;simp only[OO,OD,or_false]at a;rcases a with rfl|rfl|rfl|rfl|rfl|rfl|rfl <;> rfl
theorem aqd(x:Ou):∀u∈Z1 x,u.oneCell'=true:=by
 intro u a;simp only[OO,OD,or_false]at a;rcases a with rfl|rfl|rfl|rfl|rfl|rfl|rfl <;> rfl
theorem apb(x:Mk×He):∀u∈aa0 x,u.oneCell'=true:=by
 intro u a;simp only[OO,OD,or_false]at a;rcases a with rfl|rfl|rfl|rfl <;> rfl
structure Vs where
 bh:Nat
 ch:Nat
 pt:Option Oc
 ct:Nat
 pf:Option Oc
 cf:Nat
 pl:Option Oc
 cl:Nat
 pr:Option Oc
 cr:Nat
 ps:Option Oc
 cs:Nat
 pw:Option Oc
 cw:Nat
 po:Option Oc
 co:Nat
 ms:List Mk
def Vs.own(V:Vs)(g b:Nat):Prop:=b=g\/b=V.bh\/V.pf.map (·.block)=MI b\/V.po.map (·.block)=MI b
def Vs.off(V:Vs)(base g b:Nat):Prop:=V.own g b\/b<base
def XG(S:Nat->Prop)(w:MO)(P:MO->Prop):Prop :=
 ∀w',w.heap.size<=w'.heap.size->(∀b,b<w.heap.size->¬S b->w'.heap[b]?=w.heap[b]?)->P w'
theorem XG.now{w:MO}(h:XG S w P):P w:=h w (MV _) fun _ _ _=>rfl
theorem XG.step{S':Nat->Prop}{w w':MO}(h:XG S w P)(hs:w.heap.size<=w'.heap.size)(hb:∀b,b<w.heap.size->¬S b->w'.heap[b]?=w.heap[b]?)(hS:∀b,b<w.heap.size->S' b->S b):XG S' w' P :=
 fun w'' h1 h2=>h w'' (Nm hs h1) fun b hlt hn=>(h2 b (M8 hlt hs) fun h=>hn (hS b hlt h)).trans (hb b hlt hn)
theorem XG.below{w w':MO}(h:XG S w P)(hb:MQ w.heap.size w w'):XG S w' P:=h.step hb.size (fun b hlt _=>hb.block b hlt) fun _ _ h=>h
theorem abt{w:MO}{n:Nat}(h:XB w (MG p k c) n xs)(hS:∀b,p.map (·.block)=MI b->¬S b):XG S w fun W=>XB W (MG p k c) n xs:=by
 intro w' u t;obtain⟨a,cap,e,o,m,d|⟨b,off,d,q,r⟩⟩:=h
 ·exact⟨a,cap,e,o,m,Nt d⟩
 ·refine⟨a,cap,e,o,m,NF ⟨b,off,d,M8 q u,fun i hi=>?_⟩⟩
  rw[<-r i hi];cases e;subst d;have:=t b q (hS b rfl);simp only[Nl,this]
abbrev ahn(V:Vs)(G:Gt):Array Value:=#[MF ME G.cfg.flows,MF ME G.cfg.num,MF ME G.cfg.den,MF ME G.cfg.tries,MF ME G.cfg.warm,MF ME G.cfg.drain,MF ME G.cfg.idle,MF ME G.cfg.conn,MF ME G.cfg.ret,MF ME G.cfg.most,MF ME G.cfg.bn,MF ME G.cfg.bd,MF ME G.cfg.bb,MF ME G.cfg.wn,MF ME G.cfg.wf,MF ME G.cfg.wh,MF ME G.now,MG V.pt G.tab.length V.ct,MG V.pf G.fls.length V.cf,MG V.pl G.liv.length V.cl,MG V.pr G.req.length V.cr,MG V.ps (WW G.wts).length V.cs,MG (MI ⟨V.bh,0,MH⟩) 12 V.ch,MF ME G.tok,MF ME G.wnow,MG V.pw 25 V.cw,MG V.po G.out.length V.co]
structure hI(base:Nat)(w:MO)(g:Nat)(V:Vs)(G:Gt):Prop where
 tab:XG (V.off base g) w fun W=>Yy W (MG V.pt G.tab.length V.ct) G.tab
 book:XG (V.off base g) w fun W=>aaM W (MG V.pl G.liv.length V.cl) (MG V.pr G.req.length V.cr) G.liv G.req
 ring:XG (V.off base g) w fun W=>Xz W (MG V.ps (WW G.wts).length V.cs) (WW G.wts)
 whl:∃ls,Y9 G.wnow ls/\(∀t,t∈ls.flatten↔G.tms t)/\XG (V.off base g) w fun W=>Zo W (MG V.pw 25 V.cw) ls
 fls:w.ownsRow base 72 7 (MG V.pf G.fls.length V.cf) G.fls.length (rv WX G.fls)
 hea:w.ownsRow base 195 4 (MG (MI ⟨V.bh,0,MH⟩) 12 V.ch) 12 (rv aa0 (V.ms.zip G.hea))
 msl:V.ms.length=12
 hel:G.hea.length=12
 marks:∀(i:Nat) (m:Mk) (h:He),V.ms[i]?=MI m->G.hea[i]?=MI h->XG (V.off base g) w fun W=>Yo W (MG m.1 h.marks.length m.2) h.marks
 out:w.ownsRow base 83 7 (MG V.po G.out.length V.co) G.out.length (rv Z1 G.out)
 low:base<=g
 lt:g<w.heap.size
 hg:V.bh≠g
 fg:V.pf.map (·.block)≠MI g
 fh:V.pf.map (·.block)≠MI V.bh
 og:V.po.map (·.block)≠MI g
 oh:V.po.map (·.block)≠MI V.bh
 fo:∀b,V.pf.map (·.block)=MI b->V.po.map (·.block)≠MI b
 blk:Xo w
 pos:1<base
structure OR(base:Nat)(w:MO)(g:Nat)(V:Vs)(G:Gt):Prop where
 box:w.heap[g]?=MI (MP (ahn V G) 147 (0,0))
 rest:hI base w g V G
section
variable {base:Nat}{w w':MO}{g:Nat}{V:Vs}{G:Gt}
theorem XV(p:Option Oc)(n c:Nat):(MG p n c).ownBlock=p.map (·.block):=by cases p <;> rfl
theorem OR.c0(h:OR base w g V G):w.cell? ⟨g,0,MH⟩=MI (MF ME G.cfg.flows):=by rw[MW w g 0 _ _ (0,0) h.box];rfl
theorem OR.c1(h:OR base w g V G):w.cell? ⟨g,1,MH⟩=MI (MF ME G.cfg.num):=by rw[MW w g 1 _ _ (0,0) h.box];rfl
theorem OR.c2(h:OR base w g V G):w.cell? ⟨g,2,MH⟩=MI (MF ME G.cfg.den):=by rw[MW w g 2 _ _ (0,0) h.box];rfl
theorem OR.c3(h:OR base w g V G):w.cell? ⟨g,3,MH⟩=MI (MF ME G.cfg.tries):=by rw[MW w g 3 _ _ (0,0) h.box];rfl
theorem OR.c4(h:OR base w g V G):w.cell? ⟨g,4,MH⟩=MI (MF ME G.cfg.warm):=by rw[MW w g 4 _ _ (0,0) h.box];rfl
theorem OR.c5(h:OR base w g V G):w.cell? ⟨g,5,MH⟩=MI (MF ME G.cfg.drain):=by rw[MW w g 5 _ _ (0,0) h.box];rfl
theorem OR.c6(h:OR base w g V G):w.cell? ⟨g,6,MH⟩=MI (MF ME G.cfg.idle):=by rw[MW w g 6 _ _ (0,0) h.box];rfl
theorem OR.c7(h:OR base w g V G):w.cell? ⟨g,7,MH⟩=MI (MF ME G.cfg.conn):=by rw[MW w g 7 _ _ (0,0) h.box];rfl
theorem OR.c8(h:OR base w g V G):w.cell? ⟨g,8,MH⟩=MI (MF ME G.cfg.ret):=by rw[MW w g 8 _ _ (0,0) h.box];rfl
theorem OR.c9(h:OR base w g V G):w.cell? ⟨g,9,MH⟩=MI (MF ME G.cfg.most):=by rw[MW w g 9 _ _ (0,0) h.box];rfl
theorem OR.Hf(h:OR base w g V G):w.cell? ⟨g,10,MH⟩=MI (MF ME G.cfg.bn):=by rw[MW w g 10 _ _ (0,0) h.box];rfl
theorem OR.Hn(h:OR base w g V G):w.cell? ⟨g,11,MH⟩=MI (MF ME G.cfg.bd):=by rw[MW w g 11 _ _ (0,0) h.box];rfl
theorem OR.Hg(h:OR base w g V G):w.cell? ⟨g,12,MH⟩=MI (MF ME G.cfg.bb):=by rw[MW w g 12 _ _ (0,0) h.box];rfl
theorem OR.GS(h:OR base w g V G):w.cell? ⟨g,13,MH⟩=MI (MF ME G.cfg.wn):=by rw[MW w g 13 _ _ (0,0) h.box];rfl
theorem OR.GU(h:OR base w g V G):w.cell? ⟨g,14,MH⟩=MI (MF ME G.cfg.wf):=by rw[MW w g 14 _ _ (0,0) h.box];rfl
theorem OR.GO(h:OR base w g V G):w.cell? ⟨g,15,MH⟩=MI (MF ME G.cfg.wh):=by rw[MW w g 15 _ _ (0,0) h.box];rfl
theorem OR.Gm(h:OR base w g V G):w.cell? ⟨g,16,MH⟩=MI (MF ME G.now):=by rw[MW w g 16 _ _ (0,0) h.box];rfl
theorem OR.Gs(h:OR base w g V G):w.cell? ⟨g,17,MH⟩=MI (MG V.pt G.tab.length V.ct):=by rw[MW w g 17 _ _ (0,0) h.box];rfl
theorem OR.Gr(h:OR base w g V G):w.cell? ⟨g,18,MH⟩=MI (MG V.pf G.fls.length V.cf):=by rw[MW w g 18 _ _ (0,0) h.box];rfl
theorem OR.Gn(h:OR base w g V G):w.cell? ⟨g,19,MH⟩=MI (MG V.pl G.liv.length V.cl):=by rw[MW w g 19 _ _ (0,0) h.box];rfl
theorem OR.GD(h:OR base w g V G):w.cell? ⟨g,20,MH⟩=MI (MG V.pr G.req.length V.cr):=by rw[MW w g 20 _ _ (0,0) h.box];rfl
theorem OR.GX(h:OR base w g V G):w.cell? ⟨g,21,MH⟩=MI (MG V.ps (WW G.wts).length V.cs):=by rw[MW w g 21 _ _ (0,0) h.box];rfl
theorem OR.GI(h:OR base w g V G):w.cell? ⟨g,22,MH⟩=MI (MG (MI ⟨V.bh,0,MH⟩) 12 V.ch):=by rw[MW w g 22 _ _ (0,0) h.box];rfl
theorem OR.Id(h:OR base w g V G):w.cell? ⟨g,23,MH⟩=MI (MF ME G.tok):=by rw[MW w g 23 _ _ (0,0) h.box];rfl
theorem OR.GJ(h:OR base w g V G):w.cell? ⟨g,24,MH⟩=MI (MF ME G.wnow):=by rw[MW w g 24 _ _ (0,0) h.box];rfl
theorem OR.GH(h:OR base w g V G):w.cell? ⟨g,25,MH⟩=MI (MG V.pw 25 V.cw):=by rw[MW w g 25 _ _ (0,0) h.box];rfl
theorem OR.Ip(h:OR base w g V G):w.cell? ⟨g,26,MH⟩=MI (MG V.po G.out.length V.co):=by rw[MW w g 26 _ _ (0,0) h.box];rfl
theorem OR.fz(h:OR base w g V G)(k:Nat):w.frozen? ⟨g,k,MH⟩=false:=by simp[Ng,h.box]
theorem OR.lt(h:OR base w g V G):g<w.heap.size:=h.rest.lt
theorem hI.step(h:hI base w g V G)(hs:w.heap.size<=w'.heap.size)(hb:∀b,b<w.heap.size->b≠g->w'.heap[b]?=w.heap[b]?):hI base w' g V G:=by
 have a:∀ {P:MO->Prop},XG (V.off base g) w P->XG (V.off base g) w' P:=fun hP=>hP.step hs (fun b hlt hn=>hb b hlt fun e=>hn (Nt (Nt e))) fun _ _ h=>h
 have d:∀ {e:NU} {k:Nat} {p:Option Oc} {n c:Nat} {xs:List M7},w.ownsRow base e k (MG p n c) n xs->p.map (·.block)≠MI g->w'.ownsRow base e k (MG p n c) n xs:=fun ho hne =>
  W8 ho fun b hb'=>hb b (ho.lt b hb').2 fun e=>hne (by rw[<-XV _ _ _,hb',e])
 obtain⟨q,r,o,t⟩:=h.whl;exact⟨a h.tab,a h.book,a h.ring,⟨q,r,o,a t⟩,d h.fls h.fg,d h.hea (fun e=>h.hg (NC e)),h.msl,h.hel,fun i m x e1 e2=>a (h.marks i m x e1 e2),d h.out h.og,h.low,M8 h.lt hs,h.hg,h.fg,h.fh,h.og,h.oh,h.fo,
  h.blk.Gf (hb 1 (by have:=h.low;have:=h.pos;have:=h.lt;omega) (by have:=h.low;have:=h.pos;omega)),h.pos⟩
theorem hI.below(h:hI base w g V G)(hb:MQ w.heap.size w w'):hI base w' g V G:=h.step hb.size fun b hlt _=>hb.block b hlt
theorem OR.below(h:OR base w g V G)(hb:MQ w.heap.size w w'):OR base w' g V G:=⟨WO h.box hb,h.rest.below hb⟩
theorem OR.GW(h:OR base w g V G)(o:Obj):OR base (w.alloc o) g V G:=h.below ((MY _ _).alloc (MV _) o)
theorem hI.F4(h:hI base w g V G)(k:Nat)(v:M7):hI base (w.setCell ⟨g,k,MH⟩ v) g V G :=
 h.step (by simp) fun b _ hne=>MU _ _ _ _ hne
end
section
variable {base:Nat}{w w':MO}{g:Nat}{V:Vs}{G:Gt}
theorem hI.Ha(h:hI base w g V G)(hb:V.own g b):base<=b/\b<w.heap.size:=by
 rcases hb with rfl|rfl|e|e
 ·exact⟨h.low,h.lt⟩
 ·exact h.hea.lt _ rfl
 ·exact h.fls.lt b (by rw[XV];exact e)
 ·exact h.out.lt b (by rw[XV];exact e)
theorem hI.new(h:hI base w g V G)(hb:w.heap.size<=b):¬V.own g b:=fun e=>by have:=(h.Ha e).2;omega
theorem hI.GF(h:hI base w g V G)(hb:w.heap.size<=b):¬V.off base g b:=fun e=>e.elim (h.new hb) fun e=>by have:=h.low;have:=h.lt;omega
theorem hI.Jq(h:hI base w g V G)(hb:MQ w.heap.size w w'){m:List awY}(ho:w'.ownsRow w.heap.size 182 4 (MG p m.length c) m.length (XF m)):
  hI base w' g {V with pt:=p,ct:=c} {G with tab:=m}:=by
 have a:=h.below hb;exact⟨abt (Yr ho) (fun b e=>h.GF (ho.lt b (by rw[XV];exact e)).1),a.book,a.ring,a.whl,a.fls,a.hea,a.msl,a.hel,a.marks,a.out,a.low,a.lt,a.hg,a.fg,a.fh,a.og,a.oh,a.fo,a.blk,a.pos⟩
theorem hI.IR(h:hI base w g V G)(hb:MQ w.heap.size w w'){q:Option Oc}{R:List aw0}(ho:Yw w.heap.size w' (MG p L.length c) (MG q R.length k) L R):
  hI base w' g {V with pl:=p,cl:=c,pr:=q,cr:=k} {G with liv:=L,req:=R}:=by
 have a:=h.below hb;exact⟨a.tab,fun W h1 h2=>⟨abt ho.1.1 (fun b e=>h.GF (ho.2.1 b (by rw[XV];exact e))) W h1 h2,abt ho.1.2 (fun b e=>h.GF (ho.2.2 b (by rw[XV];exact e))) W h1 h2⟩,a.ring,a.whl,a.fls,a.hea,a.msl,a.hel,a.marks,a.out,a.low,a.lt,a.hg,a.fg,a.fh,a.og,a.oh,a.fo,a.blk,a.pos⟩
theorem hI.Js(h:hI base w g V G)(hb:MQ w.heap.size w w'){a:List Int}(ho:w'.ownsRow w.heap.size 192 2 (MG p (WW a).length c) (WW a).length (WP (WW a))):
  hI base w' g {V with ps:=p,cs:=c} {G with wts:=a}:=by
 have d:=h.below hb;exact⟨d.tab,d.book,abt (Yr ho) (fun b e=>h.GF (ho.lt b (by rw[XV];exact e)).1),d.whl,d.fls,d.hea,d.msl,d.hel,d.marks,d.out,d.low,d.lt,d.hg,d.fg,d.fh,d.og,d.oh,d.fo,d.blk,d.pos⟩
theorem hI.I7(h:hI base w g V G)(hb:MQ w.heap.size w w'){ls:List (List Tm)}(ho:adP w' w.heap.size p c ls)(hm:Y9 n ls)(ht:∀t,t∈ls.flatten↔T t):
  hI base w' g {V with pw:=p,cw:=c} {G with wnow:=n,tms:=T}:=by
 have a:=h.below hb;refine⟨a.tab,a.book,a.ring,⟨ls,hm,ht,fun W h1 h2=>?_⟩,a.fls,a.hea,a.msl,a.hel,a.marks,a.out,a.low,a.lt,a.hg,a.fg,a.fh,a.og,a.oh,a.fo,a.blk,a.pos⟩;obtain⟨d,ho⟩:=ho;have k:=ho.Gf (w':=W) fun b h3 h4=>h2 b h4 (h.GF h3)
 exact⟨d,Yr k.row,k.each.1,fun i h1 h2=>Yr (k.each.2 i h1 h2)⟩
theorem hI.IB(h:hI base w g V G)(hs:w.heap.size<=w'.heap.size)(hb:∀b,b<w.heap.size->V.pf.map (·.block)≠MI b->w'.heap[b]?=w.heap[b]?){m:List Fl}
  (ho:w'.ownsRow base 72 7 (MG p m.length c) m.length (rv WX m)) (hp:∀b,p.map (·.block)=MI b->V.pf.map (·.block)=MI b\/w.heap.size<=b) :
  hI base w' g {V with pf:=p,cf:=c} {G with fls:=m}:=by
 have a:∀ {P:MO->Prop},XG (V.off base g) w P->XG (Vs.off {V with pf:=p,cf:=c} base g) w' P:=fun hP=>hP.step hs (fun b hlt hn=>hb b hlt fun e=>hn (Nt (NF (NF (Nt e))))) fun b hlt hS=>by
  rcases hS with(e|e|e|e)|e
  ·exact Nt (Nt e)
  ·exact Nt (NF (Nt e))
  ·rcases hp b e with e|e
   ·exact Nt (NF (NF (Nt e)))
   ·omega
  ·exact Nt (NF (NF (NF e)))
  ·exact NF e
 have d:∀b,V.own g b->V.pf.map (·.block)≠MI b->p.map (·.block)≠MI b:=fun b hb1 hb2 e=>by
  rcases hp b e with e|e
  ·exact hb2 e
  ·exact h.new e hb1
 obtain⟨q,r,o,t⟩:=h.whl;refine⟨a h.tab,a h.book,a h.ring,⟨q,r,o,a t⟩,ho,W8 h.hea fun b e=>hb b (h.hea.lt b e).2 fun e2=>h.fh (by rw[e2,<-e];rfl),h.msl,h.hel,fun i m x e1 e2=>a (h.marks i m x e1 e2),
  W8 h.out fun b e=>hb b (h.out.lt b e).2 fun e2=>h.fo b e2 (by rw[<-e,XV]),h.low,M8 h.lt hs,h.hg,d g (Nt rfl) h.fg,d _ (NF (Nt rfl)) h.fh,h.og,h.oh,fun b e1 e2=>?_,
  h.blk.Gf (hb 1 (by have:=h.low;have:=h.pos;have:=h.lt;omega) fun e=>by have:=(h.Ha (NF (NF (Nt e)))).1;have:=h.pos;omega),h.pos⟩
 exact d b (NF (NF (NF e2))) (fun e=>h.fo b e e2) e1
theorem hI.Jh(h:hI base w g V G)(hs:w.heap.size<=w'.heap.size)(hb:∀b,b<w.heap.size->V.po.map (·.block)≠MI b->w'.heap[b]?=w.heap[b]?){m:List Ou}
  (ho:w'.ownsRow base 83 7 (MG p m.length c) m.length (rv Z1 m)) (hp:∀b,p.map (·.block)=MI b->V.po.map (·.block)=MI b\/w.heap.size<=b) :
  hI base w' g {V with po:=p,co:=c} {G with out:=m}:=by
 have a:∀ {P:MO->Prop},XG (V.off base g) w P->XG (Vs.off {V with po:=p,co:=c} base g) w' P:=fun hP=>hP.step hs (fun b hlt hn=>hb b hlt fun e=>hn (Nt (NF (NF (NF e))))) fun b hlt hS=>by
  rcases hS with(e|e|e|e)|e
  ·exact Nt (Nt e)
  ·exact Nt (NF (Nt e))
  ·exact Nt (NF (NF (Nt e)))
  ·rcases hp b e with e|e
   ·exact Nt (NF (NF (NF e)))
   ·omega
  ·exact NF e
 have d:∀b,V.own g b->V.po.map (·.block)≠MI b->p.map (·.block)≠MI b:=fun b hb1 hb2 e=>by
  rcases hp b e with e|e
  ·exact hb2 e
  ·exact h.new e hb1
 obtain⟨q,r,o,t⟩:=h.whl;refine⟨a h.tab,a h.book,a h.ring,⟨q,r,o,a t⟩,W8 h.fls fun b e=>hb b (h.fls.lt b e).2 fun e2=>h.fo b (by rw[<-e,XV]) e2,W8 h.hea fun b e=>hb b (h.hea.lt b e).2 fun e2=>h.oh (by rw[e2,<-e];rfl),h.msl,h.hel,fun i m x e1 e2=>a (h.marks i m x e1 e2),
  ho,h.low,M8 h.lt hs,h.hg,h.fg,h.fh,d g (Nt rfl) h.og,d _ (NF (Nt rfl)) h.oh,fun b e1=>d b (NF (NF (Nt e1))) (h.fo b e1),
  h.blk.Gf (hb 1 (by have:=h.low;have:=h.pos;have:=h.lt;omega) fun e=>by have:=(h.Ha (NF (NF (NF e)))).1;have:=h.pos;omega),h.pos⟩
theorem hI.Hd(h:hI base w g V G){bf:Nat}(hp:V.pf=MI ⟨bf,0,MH⟩){i:Nat}(hi:i<G.fls.length)(hj:j<7)(v:M7)(y:Fl)(hy:WX y=(WX G.fls[i]).set j v):
  hI base (w.setCell ⟨bf,i*7+j,MH⟩ v) g V {G with fls:=G.fls.set i y}:=by
 have d:=h.fls;rw[hp]at d;have a:=adn XL d hi hj v y hy;rw[<-hp]at a;have o:=hI.IB (p:=V.pf) (c:=V.cf) (m:=G.fls.set i y) h (w':=w.setCell ⟨bf,i*7+j,MH⟩ v) (by simp) (fun b _ hne=>MU _ _ _ _ (fun e=>hne (by rw[hp,e];rfl))) (by rw[NA];exact a) fun b e=>Nt e
 exact o
theorem akN(h:hI base w g V G){i:Nat}(hi:i<12):∃m x,V.ms[i]?=MI m/\G.hea[i]?=MI x/\(V.ms.zip G.hea)[i]?=MI (m,x)/\G.hea.getD i XM=x:=by
 have d:i<V.ms.length:=by rw[h.msl];exact hi
 have a:i<G.hea.length:=by rw[h.hel];exact hi
 refine⟨V.ms[i],G.hea[i],MR d,MR a,?_,by simp[a]⟩;rw[MR (by simp;omega)];simp
theorem hI.Ir(h:hI base w g V G){i:Nat}(hi:i<12){x:He}(hm:XG (V.off base g) w fun W=>Yo W (MG p x.marks.length c) x.marks):
  hI base ((((w.setCell ⟨V.bh,i*4,MH⟩ (MG p x.marks.length c)).setCell ⟨V.bh,i*4+1,MH⟩ (M3 x.out)).setCell ⟨V.bh,i*4+2,MH⟩ (MF ME x.till)).setCell ⟨V.bh,i*4+3,MH⟩ (MF ME x.times)) g {V with ms:=V.ms.set i (p,c)} {G with hea:=G.hea.set i x}:=by
 obtain⟨K,t,J,o,C,M⟩:=akN h hi;obtain⟨q,B⟩:=List.getElem?_eq_some_iff.1 C;have I:=adn aci h.hea q (j:=0) (by omega) (MG p x.marks.length c) ((p,c),{t with marks:=x.marks}) (by rw[B];rfl);have D:=adn aci I (i:=i) (by simpa using q) (j:=1) (by omega) (M3 x.out) ((p,c),{t with marks:=x.marks,out:=x.out}) (by rw[NW];rfl);have E:=adn aci D (i:=i) (by simpa using q) (j:=2) (by omega) (MF ME x.till) ((p,c),{t with marks:=x.marks,out:=x.out,till:=x.till}) (by rw[NW];rfl);have r:=adn aci E (i:=i) (by simpa using q) (j:=3) (by omega) (MF ME x.times) ((p,c),x) (by rw[NW];rfl);simp only[List.set_set,Oe]at r;have A:(V.ms.zip G.hea).set i ((p,c),x)=(V.ms.set i (p,c)).zip (G.hea.set i x):=by
  apply PX
  ·simp
  ·intro k v z
   simp only[Pc,Qf]
   split <;> rfl
 rw[A]at r;have d:∀b,b<w.heap.size->b≠V.bh->((((w.setCell ⟨V.bh,i*4,MH⟩ (MG p x.marks.length c)).setCell ⟨V.bh,i*4+1,MH⟩ (M3 x.out)).setCell ⟨V.bh,i*4+2,MH⟩ (MF ME x.till)).setCell ⟨V.bh,i*4+3,MH⟩ (MF ME x.times)).heap[b]?=w.heap[b]?:=fun b _ hne=>by
  rw[MU _ _ _ _ hne,MU _ _ _ _ hne,MU _ _ _ _ hne,MU _ _ _ _ hne]
 have u:w.heap.size<=((((w.setCell ⟨V.bh,i*4,MH⟩ (MG p x.marks.length c)).setCell ⟨V.bh,i*4+1,MH⟩ (M3 x.out)).setCell ⟨V.bh,i*4+2,MH⟩ (MF ME x.till)).setCell ⟨V.bh,i*4+3,MH⟩ (MF ME x.times)).heap.size:=by simp
 generalize ((((w.setCell ⟨V.bh,i*4,MH⟩ (MG p x.marks.length c)).setCell ⟨V.bh,i*4+1,MH⟩ (M3 x.out)).setCell ⟨V.bh,i*4+2,MH⟩ (MF ME x.till)).setCell ⟨V.bh,i*4+3,MH⟩ (MF ME x.times))=w' at r d u⊢;have a:∀ {P:MO->Prop},XG (V.off base g) w P->XG (V.off base g) w' P:=fun hP=>hP.step u (fun b hlt hn=>d b hlt fun e=>hn (Nt (NF (Nt e)))) fun _ _ h=>h
 obtain⟨H,v,z,F⟩:=h.whl;refine⟨a h.tab,a h.book,a h.ring,⟨H,v,z,a F⟩,W8 h.fls fun b e=>d b (h.fls.lt b e).2 fun o=>h.fh (by rw[<-o,<-e,XV]),r,by rw[NA];exact h.msl,by rw[NA];exact h.hel,fun k m y f1 f2=>?_,
  W8 h.out fun b e=>d b (h.out.lt b e).2 fun o=>h.oh (by rw[<-o,<-e,XV]),h.low,M8 h.lt u,h.hg,h.fg,h.fh,h.og,h.oh,h.fo,
  h.blk.Gf (d 1 (by have:=h.low;have:=h.pos;have:=h.lt;omega) fun e=>by have:=(h.Ha (NF (Nt rfl))).1;have:=h.pos;omega),h.pos⟩
 by_cases hk:k=i
 ·subst hk
  rw[N7 (by rw[h.msl];exact hi)]at f1;rw[N7 (by rw[h.hel];exact hi)]at f2;cases f1;cases f2;exact a hm
 ·rw[N3 (Pi hk)]at f1 f2
  exact a (h.marks k m y f1 f2)
theorem YO{cs cs':Array M7}{T:NU}(h:w.heap[g]?=MI (MP cs T (0,0))){v:M7}(he:cs.setIfInBounds k v=cs'):(w.setCell ⟨g,k,MH⟩ v).heap[g]?=MI (MP cs' T (0,0)):=by
 rw[<-he];exact NI w g k cs T v h
theorem OR.Ja(h:OR base w g V G)(n:Int):OR base (w.setCell ⟨g,16,MH⟩ (MF ME n)) g V {G with now:=n}:=
 ⟨YO h.box rfl,let r:=h.rest.F4 16 (MF ME n);⟨r.tab,r.book,r.ring,r.whl,r.fls,r.hea,r.msl,r.hel,r.marks,r.out,r.low,r.lt,r.hg,r.fg,r.fh,r.og,r.oh,r.fo,r.blk,r.pos⟩⟩
theorem OR.IC(h:OR base w g V G)(n:Int):OR base (w.setCell ⟨g,23,MH⟩ (MF ME n)) g V {G with tok:=n}:=
 ⟨YO h.box rfl,let r:=h.rest.F4 23 (MF ME n);⟨r.tab,r.book,r.ring,r.whl,r.fls,r.hea,r.msl,r.hel,r.marks,r.out,r.low,r.lt,r.hg,r.fg,r.fh,r.og,r.oh,r.fo,r.blk,r.pos⟩⟩
theorem OR.Ix(h:OR base w g V G)(hb:MQ w.heap.size w w'){m:List awY}(ho:w'.ownsRow w.heap.size 182 4 (MG p m.length c) m.length (XF m)):
  OR base (w'.setCell ⟨g,17,MH⟩ (MG p m.length c)) g {V with pt:=p,ct:=c} {G with tab:=m}:=
 ⟨YO (WO h.box hb) rfl,(h.rest.Jq hb ho).F4 _ _⟩
theorem OR.Iq(h:OR base w g V G)(hb:MQ w.heap.size w w'){q:Option Oc}{R:List aw0}(ho:Yw w.heap.size w' (MG p L.length c) (MG q R.length k) L R):
  OR base ((w'.setCell ⟨g,19,MH⟩ (MG p L.length c)).setCell ⟨g,20,MH⟩ (MG q R.length k)) g {V with pl:=p,cl:=c,pr:=q,cr:=k} {G with liv:=L,req:=R}:=
 ⟨YO (YO (WO h.box hb) rfl) rfl,((h.rest.IR hb ho).F4 _ _).F4 _ _⟩
theorem OR.IJ(h:OR base w g V G)(hb:MQ w.heap.size w w'){a:List Int}(ho:w'.ownsRow w.heap.size 192 2 (MG p (WW a).length c) (WW a).length (WP (WW a))):
  OR base (w'.setCell ⟨g,21,MH⟩ (MG p (WW a).length c)) g {V with ps:=p,cs:=c} {G with wts:=a}:=
 ⟨YO (WO h.box hb) rfl,(h.rest.Js hb ho).F4 _ _⟩
theorem OR.Ih(h:OR base w g V G)(hb:MQ w.heap.size w w'){ls:List (List Tm)}(ho:adP w' w.heap.size p c ls)(hm:Y9 n ls)(ht:∀t,t∈ls.flatten↔T t):
  OR base ((w'.setCell ⟨g,24,MH⟩ (MF ME n)).setCell ⟨g,25,MH⟩ (MG p 25 c)) g {V with pw:=p,cw:=c} {G with wnow:=n,tms:=T}:=
 ⟨YO (YO (WO h.box hb) rfl) rfl,((h.rest.I7 hb ho hm ht).F4 _ _).F4 _ _⟩
theorem OR.IU(h:OR base w g V G)(hs:w.heap.size<=w'.heap.size)(hb:∀b,b<w.heap.size->V.pf.map (·.block)≠MI b->w'.heap[b]?=w.heap[b]?){m:List Fl}
  (ho:w'.ownsRow base 72 7 (MG p m.length c) m.length (rv WX m)) (hp:∀b,p.map (·.block)=MI b->V.pf.map (·.block)=MI b\/w.heap.size<=b) :
  OR base (w'.setCell ⟨g,18,MH⟩ (MG p m.length c)) g {V with pf:=p,cf:=c} {G with fls:=m}:=
 ⟨YO ((hb g h.lt h.rest.fg).trans h.box) rfl,(h.rest.IB hs hb ho hp).F4 _ _⟩
theorem OR.Jw(h:OR base w g V G)(hs:w.heap.size<=w'.heap.size)(hb:∀b,b<w.heap.size->V.po.map (·.block)≠MI b->w'.heap[b]?=w.heap[b]?){m:List Ou}
  (ho:w'.ownsRow base 83 7 (MG p m.length c) m.length (rv Z1 m)) (hp:∀b,p.map (·.block)=MI b->V.po.map (·.block)=MI b\/w.heap.size<=b) :
  OR base (w'.setCell ⟨g,26,MH⟩ (MG p m.length c)) g {V with po:=p,co:=c} {G with out:=m}:=
 ⟨YO ((hb g h.lt h.rest.og).trans h.box) rfl,(h.rest.Jh hs hb ho hp).F4 _ _⟩
theorem OR.Hd(h:OR base w g V G){bf:Nat}(hp:V.pf=MI ⟨bf,0,MH⟩){i:Nat}(hi:i<G.fls.length)(hj:j<7)(v:M7)(y:Fl)(hy:WX y=(WX G.fls[i]).set j v):
  OR base (w.setCell ⟨bf,i*7+j,MH⟩ v) g V {G with fls:=G.fls.set i y}:=by
 refine⟨?_,h.rest.Hd hp hi hj v y hy⟩;rw[MU _ _ _ _ (fun e=>h.rest.fg (by rw[hp];exact congrArg MI e.symm)),h.box];simp only[ahn,NA]
theorem OR.Ir(h:OR base w g V G){i:Nat}(hi:i<12){x:He}(hm:XG (V.off base g) w fun W=>Yo W (MG p x.marks.length c) x.marks):
  OR base ((((w.setCell ⟨V.bh,i*4,MH⟩ (MG p x.marks.length c)).setCell ⟨V.bh,i*4+1,MH⟩ (M3 x.out)).setCell ⟨V.bh,i*4+2,MH⟩ (MF ME x.till)).setCell ⟨V.bh,i*4+3,MH⟩ (MF ME x.times)) g {V with ms:=V.ms.set i (p,c)} {G with hea:=G.hea.set i x}:=by
 refine⟨?_,h.rest.Ir hi hm⟩;have a:g≠V.bh:=fun e=>h.rest.hg e.symm
 rw[MU _ _ _ _ a,MU _ _ _ _ a,MU _ _ _ _ a,MU _ _ _ _ a];exact h.box
end
abbrev ZS(f:Fl):Value:=Ny #[MF ME f.slot,MF ME f.gen,MF ME f.key,MF ME f.be,M3 f.srv,MF ME f.ret,MF ME f.due]
abbrev ZR(w:MO)(v:M7)(l:List Fl):Prop:=Xw WX w v l
theorem ZR.F6{w:MO}{v:M7}(h:ZR w v l):
  ∃a cap,v=MG a l.length cap/\l.length<=cap/\cap<=NE/\∀i (hi:i<l.length),∃b off,a=MI ⟨b,off,MH⟩/\b<w.heap.size/\w.cell? ⟨b,off+i*7,MH⟩=MI (MF ME l[i].slot)/\w.cell? ⟨b,off+i*7+1,MH⟩=MI (MF ME l[i].gen)/\w.cell? ⟨b,off+i*7+2,MH⟩=MI (MF ME l[i].key)/\w.cell? ⟨b,off+i*7+3,MH⟩=MI (MF ME l[i].be)/\w.cell? ⟨b,off+i*7+4,MH⟩=MI (M3 l[i].srv)/\w.cell? ⟨b,off+i*7+5,MH⟩=MI (MF ME l[i].ret)/\w.cell? ⟨b,off+i*7+6,MH⟩=MI (MF ME l[i].due):=by
 obtain⟨a,cap,q,t,r,e⟩:=Xw.F6 XL h;refine⟨a,cap,q,t,r,fun i hi=>?_⟩;obtain⟨b,off,o,m,d⟩:=e i hi;exact⟨b,off,o,m,(d 0 (by omega)).trans rfl,(d 1 (by omega)).trans rfl,(d 2 (by omega)).trans rfl,(d 3 (by omega)).trans rfl,(d 4 (by omega)).trans rfl,(d 5 (by omega)).trans rfl,(d 6 (by omega)).trans rfl⟩
theorem ahq{α:Type}{p:α->Bool}{l:List α}:Nn (0<=X6 (l.findIdx p) l.length)=l.any p:=by
 unfold X6
 by_cases h:l.findIdx p<l.length
 ·rw[Nh h]
  have:l.any p=true:=List.any_eq_true.2 ⟨l[l.findIdx p],Nk h,List.findIdx_getElem (w:=h)⟩;rw[this];simp
 ·rw[Nf h]
  have:l.any p=false:=by
   rw[List.any_eq_false];intro x a d;exact h (List.findIdx_lt_length_of_exists ⟨x,a,d⟩)
  rw[this];rfl
theorem aoB(f:Fl)(n:Int)(g:Nat)(w:MO)(hc:w.cell? ⟨g,0,MH⟩=MI (MF ME n)) :
  Ni MK 130 #[ZS f,Na (MI ⟨g,0,MH⟩)] w fun r w'=>r=MN (M3 (f.slot == n))/\MQ w.heap.size w w':=by
 have a:g<w.heap.size:=MX w ⟨g,0,MH⟩ hc;go_enter ayz,ayt;go_wp2;go_ret;exact⟨rfl,WQ w⟩
theorem apl(v:M7)(l:List Fl)(n:Int)(g:Nat)(w:MO)(hv:ZR w v l)(hc:w.cell? ⟨g,0,MH⟩=MI (MF ME n)) :
  Ni MK 123 #[v,PB (PD 130) #[] #[Na (MI ⟨g,0,MH⟩)]] w fun r w'=>r=MN (MF ME (X6 (l.findIdx (fun f=>f.slot == n)) l.length))/\MQ w.heap.size w w':=by
 obtain⟨q,E⟩:∃q:Fl->Bool,q=(fun f=>f.slot == n):=⟨_,rfl⟩;obtain⟨a,ca,rfl,a8,R,K⟩:=ZR.F6 hv;unfold NE at R;have Q:=MX w ⟨g,0,MH⟩ hc;have O:M6 (∀(x:Fl) (W:MO),MQ w.heap.size w W->Ni MK 130 #[ZS x,Na (MI ⟨g,0,MH⟩)] W fun r w'=>r=MN (M3 (q x))/\MQ W.heap.size W w'):=by
  rw[E];exact fun x W hb=>aoB x n g W ((hb.cell (p:=⟨g,0,MH⟩) Q).trans hc)
 rw[<-E];obtain⟨z,D⟩:∃z,z=X6 (l.findIdx q) l.length:=⟨_,rfl⟩;rw[<-D];have H:M6 _:=D;clear hv D E hc;go_enter Uo,Uc;go_wp2
 go_loopw [8] (fun i wr=>∃k:Nat,i=MF ME k/\k<=l.length/\(∀t∈l.take k,q t=Nb)/\MQ w.heap.size w wr) (fun i _=>l.length-(intOf i).toNat)
 case atStart=>exact⟨0,rfl,Nx _,by simp,MY _ _⟩
 case round =>
  obtain⟨k,rfl,hk,A,d⟩:=hrel
  by_cases hlt:k<l.length
  ·obtain⟨o,u,rfl,m,c1,c2,c3,c4,c5,c6,c7⟩:=K k hlt
   have Z:=(d.cell (p:=⟨o,u+k*7,MH⟩) m).trans c1;have U:=(d.cell (p:=⟨o,u+k*7+1,MH⟩) m).trans c2;have Y:=(d.cell (p:=⟨o,u+k*7+2,MH⟩) m).trans c3;have e4:=(d.cell (p:=⟨o,u+k*7+3,MH⟩) m).trans c4;have e5:=(d.cell (p:=⟨o,u+k*7+4,MH⟩) m).trans c5;have e6:=(d.cell (p:=⟨o,u+k*7+5,MH⟩) m).trans c6;have e7:=(d.cell (p:=⟨o,u+k*7+6,MH⟩) m).trans c7;have y:M6 (_/\_):=⟨A,d⟩;have a7:(k:Int)<(l.length:Int):=by omega
   have F:l.take (k+1)=l.take k++[l[k]]:=M9 hlt;have I:q l[k]=Nw->l.findIdx q=k:=fun h=>abZ hlt A h
   have C:∃x,x=l[k]:=⟨_,rfl⟩;obtain⟨x,C⟩:=C;rw[<-C]at Z U Y e4 e5 e6 e7 F I;have N:M6 (_/\_):=⟨F,I⟩;clear A d c1 c2 c3 c4 c5 c6 c7 m K F I C;cases hd:q x
   ·go_wp2_with fail
    refine(O.out x _ y.out.2).mono ?_;rw[hd];rintro r w2 ⟨rfl,B⟩;have J:M6 _:=B;clear B;go_wp2
    go_roundw
    case rel =>
     refine⟨k+1,by simp,hlt,fun t e=>?_,y.out.2.trans (J.out.mono y.out.2.size)⟩;rw[N.out.1]at e;rcases List.mem_append.1 e with e|e
     ·exact y.out.1 t e
     ·simp at e
      rw[e];exact hd
    case measure=>simp[intOf];omega
   ·go_wp2_with fail
    refine(O.out x _ y.out.2).mono ?_;rw[hd];rintro r w2 ⟨rfl,B⟩;have M:M6 (z=(k:Int)):=by show z=_;rw[H.out,N.out.2 hd];exact Nh hlt
    have J:M6 _:=B;clear B;go_wp2;go_ret;exact⟨by rw[M.out];rfl,y.out.2.trans (J.out.mono y.out.2.size)⟩
  ·have M:M6 (z = -1):=by
    show z=_;rw[H.out,acp fun t e=>A t (by rw[N1 (by omega)];exact e)];exact Nf (PC _)
   have HB:M6 _:=d;clear A d K;go_wp2;go_ret;exact⟨by rw[M.out];rfl,HB.out⟩
theorem aoF(f:Fl)(n:Int)(g:Nat)(w:MO)(hc:w.cell? ⟨g,0,MH⟩=MI (MF ME n)) :
  Ni MK 124 #[ZS f,Na (MI ⟨g,0,MH⟩)] w fun r w'=>r=MN (M3 (Nn (n<f.slot)))/\MQ w.heap.size w w':=by
 have a:g<w.heap.size:=MX w ⟨g,0,MH⟩ hc;go_enter VV,VL;go_wp2;go_ret;exact⟨rfl,WQ w⟩
theorem apo(v:M7)(l:List Fl)(n:Int)(g:Nat)(w:MO)(hv:ZR w v l)(hc:w.cell? ⟨g,0,MH⟩=MI (MF ME n)) :
  Ni MK 123 #[v,PB (PD 124) #[] #[Na (MI ⟨g,0,MH⟩)]] w fun r w'=>r=MN (MF ME (X6 (l.findIdx (fun f=>Nn (n<f.slot))) l.length))/\MQ w.heap.size w w':=by
 obtain⟨q,E⟩:∃q:Fl->Bool,q=(fun f=>Nn (n<f.slot)):=⟨_,rfl⟩;obtain⟨a,ca,rfl,a8,R,K⟩:=ZR.F6 hv;unfold NE at R;have Q:=MX w ⟨g,0,MH⟩ hc;have O:M6 (∀(x:Fl) (W:MO),MQ w.heap.size w W->Ni MK 124 #[ZS x,Na (MI ⟨g,0,MH⟩)] W fun r w'=>r=MN (M3 (q x))/\MQ W.heap.size W w'):=by
  rw[E];exact fun x W hb=>aoF x n g W ((hb.cell (p:=⟨g,0,MH⟩) Q).trans hc)
 rw[<-E];obtain⟨z,D⟩:∃z,z=X6 (l.findIdx q) l.length:=⟨_,rfl⟩;rw[<-D];have H:M6 _:=D;clear hv D E hc;go_enter Uo,Uc;go_wp2
 go_loopw [8] (fun i wr=>∃k:Nat,i=MF ME k/\k<=l.length/\(∀t∈l.take k,q t=Nb)/\MQ w.heap.size w wr) (fun i _=>l.length-(intOf i).toNat)
 case atStart=>exact⟨0,rfl,Nx _,by simp,MY _ _⟩
 case round =>
  obtain⟨k,rfl,hk,A,d⟩:=hrel
  by_cases hlt:k<l.length
  ·obtain⟨o,u,rfl,m,c1,c2,c3,c4,c5,c6,c7⟩:=K k hlt
   have Z:=(d.cell (p:=⟨o,u+k*7,MH⟩) m).trans c1;have U:=(d.cell (p:=⟨o,u+k*7+1,MH⟩) m).trans c2;have Y:=(d.cell (p:=⟨o,u+k*7+2,MH⟩) m).trans c3;have e4:=(d.cell (p:=⟨o,u+k*7+3,MH⟩) m).trans c4;have e5:=(d.cell (p:=⟨o,u+k*7+4,MH⟩) m).trans c5;have e6:=(d.cell (p:=⟨o,u+k*7+5,MH⟩) m).trans c6;have e7:=(d.cell (p:=⟨o,u+k*7+6,MH⟩) m).trans c7;have y:M6 (_/\_):=⟨A,d⟩;have a7:(k:Int)<(l.length:Int):=by omega
   have F:l.take (k+1)=l.take k++[l[k]]:=M9 hlt;have I:q l[k]=Nw->l.findIdx q=k:=fun h=>abZ hlt A h
   have C:∃x,x=l[k]:=⟨_,rfl⟩;obtain⟨x,C⟩:=C;rw[<-C]at Z U Y e4 e5 e6 e7 F I;have N:M6 (_/\_):=⟨F,I⟩;clear A d c1 c2 c3 c4 c5 c6 c7 m K F I C;cases hd:q x
   ·go_wp2_with fail
    refine(O.out x _ y.out.2).mono ?_;rw[hd];rintro r w2 ⟨rfl,B⟩;have J:M6 _:=B;clear B;go_wp2
    go_roundw
    case rel =>
     refine⟨k+1,by simp,hlt,fun t e=>?_,y.out.2.trans (J.out.mono y.out.2.size)⟩;rw[N.out.1]at e;rcases List.mem_append.1 e with e|e
     ·exact y.out.1 t e
     ·simp at e
      rw[e];exact hd
    case measure=>simp[intOf];omega
   ·go_wp2_with fail
    refine(O.out x _ y.out.2).mono ?_;rw[hd];rintro r w2 ⟨rfl,B⟩;have M:M6 (z=(k:Int)):=by show z=_;rw[H.out,N.out.2 hd];exact Nh hlt
    have J:M6 _:=B;clear B;go_wp2;go_ret;exact⟨by rw[M.out];rfl,y.out.2.trans (J.out.mono y.out.2.size)⟩
  ·have M:M6 (z = -1):=by
    show z=_;rw[H.out,acp fun t e=>A t (by rw[N1 (by omega)];exact e)];exact Nf (PC _)
   have HB:M6 _:=d;clear A d K;go_wp2;go_ret;exact⟨by rw[M.out];rfl,HB.out⟩
theorem aoA(f:Fl)(n:Int)(g:Nat)(w:MO)(hc:w.cell? ⟨g,0,MH⟩=MI (MF ME n)) :
  Ni MK 155 #[ZS f,Na (MI ⟨g,0,MH⟩)] w fun r w'=>r=MN (M3 (f.be == n))/\MQ w.heap.size w w':=by
 have a:g<w.heap.size:=MX w ⟨g,0,MH⟩ hc;go_enter ayv,ayr;go_wp2;go_ret;exact⟨rfl,WQ w⟩
theorem apk(v:M7)(l:List Fl)(n:Int)(g:Nat)(w:MO)(hv:ZR w v l)(hc:w.cell? ⟨g,0,MH⟩=MI (MF ME n)) :
  Ni MK 123 #[v,PB (PD 155) #[] #[Na (MI ⟨g,0,MH⟩)]] w fun r w'=>r=MN (MF ME (X6 (l.findIdx (fun f=>f.be == n)) l.length))/\MQ w.heap.size w w':=by
 obtain⟨q,E⟩:∃q:Fl->Bool,q=(fun f=>f.be == n):=⟨_,rfl⟩;obtain⟨a,ca,rfl,a8,R,K⟩:=ZR.F6 hv;unfold NE at R;have Q:=MX w ⟨g,0,MH⟩ hc;have O:M6 (∀(x:Fl) (W:MO),MQ w.heap.size w W->Ni MK 155 #[ZS x,Na (MI ⟨g,0,MH⟩)] W fun r w'=>r=MN (M3 (q x))/\MQ W.heap.size W w'):=by
  rw[E];exact fun x W hb=>aoA x n g W ((hb.cell (p:=⟨g,0,MH⟩) Q).trans hc)
 rw[<-E];obtain⟨z,D⟩:∃z,z=X6 (l.findIdx q) l.length:=⟨_,rfl⟩;rw[<-D];have H:M6 _:=D;clear hv D E hc;go_enter Uo,Uc;go_wp2
 go_loopw [8] (fun i wr=>∃k:Nat,i=MF ME k/\k<=l.length/\(∀t∈l.take k,q t=Nb)/\MQ w.heap.size w wr) (fun i _=>l.length-(intOf i).toNat)
 case atStart=>exact⟨0,rfl,Nx _,by simp,MY _ _⟩
 case round =>
  obtain⟨k,rfl,hk,A,d⟩:=hrel
  by_cases hlt:k<l.length
  ·obtain⟨o,u,rfl,m,c1,c2,c3,c4,c5,c6,c7⟩:=K k hlt
   have Z:=(d.cell (p:=⟨o,u+k*7,MH⟩) m).trans c1;have U:=(d.cell (p:=⟨o,u+k*7+1,MH⟩) m).trans c2;have Y:=(d.cell (p:=⟨o,u+k*7+2,MH⟩) m).trans c3;have e4:=(d.cell (p:=⟨o,u+k*7+3,MH⟩) m).trans c4;have e5:=(d.cell (p:=⟨o,u+k*7+4,MH⟩) m).trans c5;have e6:=(d.cell (p:=⟨o,u+k*7+5,MH⟩) m).trans c6;have e7:=(d.cell (p:=⟨o,u+k*7+6,MH⟩) m).trans c7;have y:M6 (_/\_):=⟨A,d⟩;have a7:(k:Int)<(l.length:Int):=by omega
   have F:l.take (k+1)=l.take k++[l[k]]:=M9 hlt;have I:q l[k]=Nw->l.findIdx q=k:=fun h=>abZ hlt A h
   have C:∃x,x=l[k]:=⟨_,rfl⟩;obtain⟨x,C⟩:=C;rw[<-C]at Z U Y e4 e5 e6 e7 F I;have N:M6 (_/\_):=⟨F,I⟩;clear A d c1 c2 c3 c4 c5 c6 c7 m K F I C;cases hd:q x
   ·go_wp2_with fail
    refine(O.out x _ y.out.2).mono ?_;rw[hd];rintro r w2 ⟨rfl,B⟩;have J:M6 _:=B;clear B;go_wp2
    go_roundw
    case rel =>
     refine⟨k+1,by simp,hlt,fun t e=>?_,y.out.2.trans (J.out.mono y.out.2.size)⟩;rw[N.out.1]at e;rcases List.mem_append.1 e with e|e
     ·exact y.out.1 t e
     ·simp at e
      rw[e];exact hd
    case measure=>simp[intOf];omega
   ·go_wp2_with fail
    refine(O.out x _ y.out.2).mono ?_;rw[hd];rintro r w2 ⟨rfl,B⟩;have M:M6 (z=(k:Int)):=by show z=_;rw[H.out,N.out.2 hd];exact Nh hlt
    have J:M6 _:=B;clear B;go_wp2;go_ret;exact⟨by rw[M.out];rfl,y.out.2.trans (J.out.mono y.out.2.size)⟩
  ·have M:M6 (z = -1):=by
    show z=_;rw[H.out,acp fun t e=>A t (by rw[N1 (by omega)];exact e)];exact Nf (PC _)
   have HB:M6 _:=d;clear A d K;go_wp2;go_ret;exact⟨by rw[M.out];rfl,HB.out⟩
theorem aj8(v:M7)(l:List Fl)(n:Int)(g:Nat)(w:MO)(hv:ZR w v l)(hc:w.cell? ⟨g,0,MH⟩=MI (MF ME n)) :
  Ni MK 117 #[v,PB (PD 155) #[] #[Na (MI ⟨g,0,MH⟩)]] w fun r w'=>r=MN (M3 (l.any (fun f=>f.be == n)))/\MQ w.heap.size w w':=by
 rw[<-ahq];have i:M6 _:=apk v l n g w hv hc;obtain⟨e,a⟩:∃e,e=X6 (l.findIdx (fun f=>f.be == n)) l.length:=⟨_,rfl⟩;rw[<-a]at i⊢;clear a hv;go_enter Tryz.func117,Tryz.ntmps117
 go_wp2_with fail
 refine Nd i.out ?_;rintro r w1 ⟨rfl,d⟩;have m:M6 _:=d;clear d;go_wp2;go_ret;exact⟨rfl,m.out⟩
theorem aoE(x1 x2 x3 x4 x5 x6:Int)(n:Int)(g:Nat)(w:MO)(hc:w.cell? ⟨g,0,MH⟩=MI (MF ME n)) :
  Ni MK 142 #[ZG x1 x2 x3 x4 x5 x6,Na (MI ⟨g,0,MH⟩)] w fun r w'=>r=MN (M3 (x1 == n))/\MQ w.heap.size w w':=by
 have a:g<w.heap.size:=MX w ⟨g,0,MH⟩ hc;go_enter ayP,ayF;go_wp2;go_ret;exact⟨rfl,WQ w⟩
theorem akz(v:M7)(l:List awV)(n:Int)(g:Nat)(w:MO)(hv:adt w v l)(hc:w.cell? ⟨g,0,MH⟩=MI (MF ME n)) :
  Ni MK 141 #[v,PB (PD 142) #[] #[Na (MI ⟨g,0,MH⟩)]] w fun r w'=>r=MN (MF ME (X6 (l.findIdx (fun x=>x.1 == n)) l.length))/\MQ w.heap.size w w':=by
 obtain⟨q,N⟩:∃q:awV->Bool,q=(fun x=>x.1 == n):=⟨_,rfl⟩;obtain⟨a,ca,rfl,b0,a8,U⟩:=adt.F6 hv;unfold NE at a8;have a7:=MX w ⟨g,0,MH⟩ hc;have HQ:M6 (∀(u m y A o z:Int) (W:MO),MQ w.heap.size w W->Ni MK 142 #[ZG u m y A o z,Na (MI ⟨g,0,MH⟩)] W fun r w'=>r=MN (M3 (q (u,m,y,A,o,z)))/\MQ W.heap.size W w'):=by
  rw[N];exact fun u m y A o z W hb=>aoE u m y A o z n g W ((hb.cell (p:=⟨g,0,MH⟩) a7).trans hc)
 rw[<-N];obtain⟨D,M⟩:∃D,D=X6 (l.findIdx q) l.length:=⟨_,rfl⟩;rw[<-M];have H:M6 _:=M;clear hv M N hc;go_enter ayQ,ayG;go_wp2
 go_loopw [8] (fun i wr=>∃k:Nat,i=MF ME k/\k<=l.length/\(∀t∈l.take k,q t=Nb)/\MQ w.heap.size w wr) (fun i _=>l.length-(intOf i).toNat)
 case atStart=>exact⟨0,rfl,Nx _,by simp,MY _ _⟩
 case round =>
  obtain⟨k,rfl,hk,I,d⟩:=hrel
  by_cases hlt:k<l.length
  ·obtain⟨E,F,rfl,B,c1,c2,c3,c4,c5,c6⟩:=U k hlt
   have e1:=(d.cell (p:=⟨E,F+k*6,MH⟩) B).trans c1;have e2:=(d.cell (p:=⟨E,F+k*6+1,MH⟩) B).trans c2;have e3:=(d.cell (p:=⟨E,F+k*6+2,MH⟩) B).trans c3;have e4:=(d.cell (p:=⟨E,F+k*6+3,MH⟩) B).trans c4;have e5:=(d.cell (p:=⟨E,F+k*6+4,MH⟩) B).trans c5;have e6:=(d.cell (p:=⟨E,F+k*6+5,MH⟩) B).trans c6;have C:M6 (_/\_):=⟨I,d⟩;have a9:(k:Int)<(l.length:Int):=by omega
   have O:l.take (k+1)=l.take k++[l[k]]:=M9 hlt;have Q:q l[k]=Nw->l.findIdx q=k:=fun h=>abZ hlt I h
   have K:∃x,x=l[k]:=⟨_,rfl⟩;obtain⟨⟨u,m,y,A,o,z⟩,K⟩:=K;rw[<-K]at e1 e2 e3 e4 e5 e6 O Q;have Z:M6 (_/\_):=⟨O,Q⟩;clear I d c1 c2 c3 c4 c5 c6 B U O Q K;cases hd:q (u,m,y,A,o,z)
   ·go_wp2_with fail
    refine(HQ.out u m y A o z _ C.out.2).mono ?_;rw[hd];rintro r w2 ⟨rfl,J⟩;have R:M6 _:=J;clear J;go_wp2
    go_roundw
    case rel =>
     refine⟨k+1,by simp,hlt,fun t e=>?_,C.out.2.trans (R.out.mono C.out.2.size)⟩;rw[Z.out.1]at e;rcases List.mem_append.1 e with e|e
     ·exact C.out.1 t e
     ·simp at e
      rw[e];exact hd
    case measure=>simp[intOf];omega
   ·go_wp2_with fail
    refine(HQ.out u m y A o z _ C.out.2).mono ?_;rw[hd];rintro r w2 ⟨rfl,J⟩;have Y:M6 (D=(k:Int)):=by show D=_;rw[H.out,Z.out.2 hd];exact Nh hlt
    have R:M6 _:=J;clear J;go_wp2;go_ret;exact⟨by rw[Y.out];rfl,C.out.2.trans (R.out.mono C.out.2.size)⟩
  ·have Y:M6 (D = -1):=by
    show D=_;rw[H.out,acp fun t e=>I t (by rw[N1 (by omega)];exact e)];exact Nf (PC _)
   have HB:M6 _:=d;clear I d U;go_wp2;go_ret;exact⟨by rw[Y.out];rfl,HB.out⟩
theorem aoC(x1:Int)(x2:Bool)(x3 x4:Int)(w:MO) :
  Ni MK 81 #[Ny #[MF ME x1,M3 x2,MF ME x3,MF ME x4]] w fun r w'=>r=MN (M3 (Y1 (x1,x2,x3,x4)))/\MQ w.heap.size w w':=by
 cases x2
 ·go_enter Tryz.func81,Tryz.ntmps81
  go_wp2;go_ret;exact⟨rfl,WQ w⟩
 ·go_enter Tryz.func81,Tryz.ntmps81
  go_wp2;go_ret;exact⟨rfl,WQ w⟩
theorem apm(v:M7)(l:List awY)(w:MO)(hv:Yy w v l) :
  Ni MK 118 #[v,PB (PD 81) #[] #[]] w fun r w'=>r=MN (MF ME (X6 (l.findIdx (Y1)) l.length))/\MQ w.heap.size w w':=by
 obtain⟨q,K⟩:∃q:awY->Bool,q=(Y1):=⟨_,rfl⟩;obtain⟨a,ca,rfl,a8,Z,Q⟩:=Yy.F6 hv;unfold NE at Z;have Y:M6 (∀(o:Int) (m:Bool) (u y:Int) (W:MO),MQ w.heap.size w W->Ni MK 81 #[Ny #[MF ME o,M3 m,MF ME u,MF ME y]] W fun r w'=>r=MN (M3 (q (o,m,u,y)))/\MQ W.heap.size W w'):=by
  rw[K];exact fun o m u y W hb=>aoC o m u y W
 rw[<-K];obtain⟨A,J⟩:∃A,A=X6 (l.findIdx q) l.length:=⟨_,rfl⟩;rw[<-J];have H:M6 _:=J;clear hv J K;go_enter Tryz.func118,Tryz.ntmps118;go_wp2
 go_loopw [8] (fun i wr=>∃k:Nat,i=MF ME k/\k<=l.length/\(∀t∈l.take k,q t=Nb)/\MQ w.heap.size w wr) (fun i _=>l.length-(intOf i).toNat)
 case atStart=>exact⟨0,rfl,Nx _,by simp,MY _ _⟩
 case round =>
  obtain⟨k,rfl,hk,B,e⟩:=hrel
  by_cases hlt:k<l.length
  ·obtain⟨F,I,rfl,C,c1,c2,c3,c4⟩:=Q k hlt
   have e1:=(e.cell (p:=⟨F,I+k*4,MH⟩) C).trans c1;have e2:=(e.cell (p:=⟨F,I+k*4+1,MH⟩) C).trans c2;have e3:=(e.cell (p:=⟨F,I+k*4+2,MH⟩) C).trans c3;have e4:=(e.cell (p:=⟨F,I+k*4+3,MH⟩) C).trans c4;have z:M6 (_/\_):=⟨B,e⟩;have a7:(k:Int)<(l.length:Int):=by omega
   have M:l.take (k+1)=l.take k++[l[k]]:=M9 hlt;have N:q l[k]=Nw->l.findIdx q=k:=fun h=>abZ hlt B h
   have E:∃x,x=l[k]:=⟨_,rfl⟩;obtain⟨⟨o,m,u,y⟩,E⟩:=E;rw[<-E]at e1 e2 e3 e4 M N;have U:M6 (_/\_):=⟨M,N⟩;clear B e c1 c2 c3 c4 C Q M N E;cases hd:q (o,m,u,y)
   ·go_wp2_with fail
    refine(Y.out o m u y _ z.out.2).mono ?_;rw[hd];rintro r w2 ⟨rfl,D⟩;have O:M6 _:=D;clear D;go_wp2
    go_roundw
    case rel =>
     refine⟨k+1,by simp,hlt,fun t d=>?_,z.out.2.trans (O.out.mono z.out.2.size)⟩;rw[U.out.1]at d;rcases List.mem_append.1 d with d|d
     ·exact z.out.1 t d
     ·simp at d
      rw[d];exact hd
    case measure=>simp[intOf];omega
   ·go_wp2_with fail
    refine(Y.out o m u y _ z.out.2).mono ?_;rw[hd];rintro r w2 ⟨rfl,D⟩;have R:M6 (A=(k:Int)):=by show A=_;rw[H.out,U.out.2 hd];exact Nh hlt
    have O:M6 _:=D;clear D;go_wp2;go_ret;exact⟨by rw[R.out];rfl,z.out.2.trans (O.out.mono z.out.2.size)⟩
  ·have R:M6 (A = -1):=by
    show A=_;rw[H.out,acp fun t d=>B t (by rw[N1 (by omega)];exact d)];exact Nf (PC _)
   have HB:M6 _:=e;clear B e Q;go_wp2;go_ret;exact⟨by rw[R.out];rfl,HB.out⟩
theorem aoR(v:M7)(l:List awY)(w:MO)(hv:Yy w v l) :
  Ni MK 80 #[v,PB (PD 81) #[] #[]] w fun r w'=>r=MN (M3 (l.any (Y1)))/\MQ w.heap.size w w':=by
 rw[<-ahq];have i:M6 _:=apm v l w hv;obtain⟨e,a⟩:∃e,e=X6 (l.findIdx (Y1)) l.length:=⟨_,rfl⟩;rw[<-a]at i⊢;clear a hv;go_enter Tryz.func80,Tryz.ntmps80
 go_wp2_with fail
 refine Nd i.out ?_;rintro r w1 ⟨rfl,d⟩;have m:M6 _:=d;clear d;go_wp2;go_ret;exact⟨rfl,m.out⟩
abbrev aqe(o:Ou):Value:=Ny #[MF ME o.kind,MF ME o.slot,MF ME o.gen,MF ME o.be,MF ME o.req,MF ME o.code,MF ME o.why]
abbrev ahA(o:Ou):Obj:=MP #[MF ME o.kind,MF ME o.slot,MF ME o.gen,MF ME o.be,MF ME o.req,MF ME o.code,MF ME o.why] 83
abbrev gP(g:Nat):Value:=Na (MI ⟨g,0,MH⟩)
theorem apw:(Tryz.prog.info? 83).map (fun i=>(i.zero,i.size,i.bytes))=MI (MI (Ny #[MF ME 0,MF ME 0,MF ME 0,MF ME 0,MF ME 0,MF ME 0,MF ME 0]),7,56):=by kernel_rfl
theorem OR.GY{base:Nat}{w:MO}{g:Nat}{V:Vs}{G:Gt}(h:OR base w g V G):OR base w.drew g V G:=⟨h.box,h.rest.step (MV _) fun _ _ _=>rfl⟩
theorem OR.base{base:Nat}{w:MO}{g:Nat}{V:Vs}{G:Gt}(h:OR base w g V G):base<=w.heap.size:=PJ (Pb h.rest.low h.rest.lt)
structure WV(V V':Vs)(g:Nat)(w w':MO):Prop where
 os:w'.os=w.os
 tape:w'.tape=w.tape
 output:w'.output=w.output
 size:w.heap.size<=w'.heap.size
 block:∀b,b<w.heap.size->¬V.own g b->w'.heap[b]?=w.heap[b]?
 ext:∀b,V'.own g b->V.own g b\/w.heap.size<=b
section
variable {base:Nat}{V V1 V2:Vs}{g:Nat}{w w1 w2:MO}{G:Gt}
theorem WV.Gy(V:Vs)(g:Nat)(w:MO):WV V V g w w:=⟨rfl,rfl,rfl,MV _,fun _ _ _=>rfl,fun _ h=>Nt h⟩
theorem WV.F5(h:MQ w.heap.size w w1):WV V V g w w1:=⟨h.os,h.tape,h.output,h.size,fun b hb _=>h.block b hb,fun _ h=>Nt h⟩
theorem WV.F0(h:WV V V1 g w w1)(k:WV V1 V2 g w1 w2):WV V V2 g w w2 :=
 ⟨k.os.trans h.os,k.tape.trans h.tape,k.output.trans h.output,Nm h.size k.size,fun b hb hn=>(k.block b (M8 hb h.size) fun e=>by
   rcases h.ext b e with e|e
   ·exact hn e
   ·omega).trans (h.block b hb hn),fun b e=>by
  rcases k.ext b e with e|e
  ·exact h.ext b e
  ·have:=h.size;exact NF (by omega)⟩
theorem WV.below(h:WV V V1 g w w1)(hb:MQ w1.heap.size w1 w2):WV V V1 g w w2:=h.F0 (WV.F5 hb)
theorem WV.F4(h:WV V V1 g w w1)(k:Nat)(v:M7):WV V V1 g w (w1.setCell ⟨g,k,MH⟩ v):=
 ⟨h.os,h.tape,h.output,by simpa using h.size,fun b hb hn=>(MU w1 ⟨g,k,MH⟩ v b fun e=>hn (Nt e)).trans (h.block b hb hn),h.ext⟩
theorem WV.Gp(h:WV V V1 g w w1)(e:∀b,V2.own g b->V1.own g b):WV V V2 g w w1:=⟨h.os,h.tape,h.output,h.size,h.block,fun b hb=>h.ext b (e b hb)⟩
theorem WV.IT(h:WV V V1 g w w1)(hG:OR base w g V G):MQ base w w1 :=
 ⟨h.os,h.tape,h.output,h.size,fun b hb=>h.block b (M8 hb hG.base) fun e=>by have:=(hG.rest.Ha e).1;omega⟩
theorem WV.Gf(h:WV V V1 g w w1){o:Obj}(hb:w.heap[b]?=MI o)(hn:¬V.own g b):w1.heap[b]?=MI o:=(h.block b (Array.getElem?_eq_some_iff.1 hb).1 hn).trans hb
theorem WV.Ik(h:WV V V1 g w w1)(hb:b<w.heap.size)(hn:¬V.own g b):¬V1.own g b:=fun e=>by
 rcases h.ext b e with e|e
 ·exact hn e
 ·omega
end
def aaa(base:Nat)(w:MO)(g:Nat)(V:Vs)(G':Gt)(r:Ending)(w':MO):Prop :=
 r=MN (Nv #[])/\∃V',OR base w' g V' G'/\(V'.pf=V.pf/\V'.cf=V.cf/\V'.bh=V.bh)/\WV V V' g w w'
def aam(base:Nat)(w:MO)(g:Nat)(V:Vs)(G':Gt)(r:Ending)(w':MO):Prop :=
 r=MN (Nv #[])/\∃V',OR base w' g V' G'/\V'.bh=V.bh/\WV V V' g w w'
theorem aqU{base:Nat}{g:Nat}{V:Vs}{G:Gt}(h:OR base W g V G)(hl:G.out.length<=1000000)(o:Ou):
  ∃q c' w5,(N2 #[61,61] 61 #[MG V.po G.out.length V.co,MG (MI ⟨W.heap.size,0,MH⟩) 1 1]).run MK ((W.alloc (ahA o)).drew)=.ok (MG (MI ⟨q,0,MH⟩) (G.out.length+1) c') w5 /\
   (w5.cell? ⟨g,26,MH⟩=MI (MG V.po G.out.length V.co)/\w5.frozen? ⟨g,26,MH⟩=Nb) /\
   OR base (w5.setCell ⟨g,26,MH⟩ (MG (MI ⟨q,0,MH⟩) (G.out.length+1) c')) g {V with po:=MI ⟨q,0,MH⟩,co:=c'} (ZM G o) /\
   WV V {V with po:=MI ⟨q,0,MH⟩,co:=c'} g W (w5.setCell ⟨g,26,MH⟩ (MG (MI ⟨q,0,MH⟩) (G.out.length+1) c')):=by
 have x:=h.rest;obtain⟨q,c',w5,A,z,a,v⟩:=afC akV aqd (by decide) Tryz.underlying61 apw rfl (w:=W.drew) (base:=base) h.GY.rest.out h.base 61 o #[MF ME o.kind,MF ME o.slot,MF ME o.gen,MF ME o.be,MF ME o.req,MF ME o.code,MF ME o.why] rfl (by omega) (by unfold NE;omega);have d:∀b,b<W.heap.size->V.po.map (·.block)≠MI b->w5.heap[b]?=W.heap[b]?:=fun b hb hne=>a.block b hb (fun e=>hne (by rw[e,XV]))
 have r:=(d g h.lt x.og).trans h.box;have t:∀b,(MI (⟨q,0,MH⟩:Oc)).map (·.block)=MI b->V.po.map (·.block)=MI b\/W.heap.size<=b:=fun b e=>by
  cases e;rcases v with e|e
  ·exact Nt (by rw[<-XV _ G.out.length V.co];exact e)
  ·exact NF (PJ e)
 have i:(G.out++[o]).length=G.out.length+1:=by simp
 have u:=h.Jw (w':=w5) (p:=MI ⟨q,0,MH⟩) (c:=c') (m:=G.out++[o]) a.size d (by rw[i];exact z) t;rw[i]at u;refine⟨q,c',w5,A,⟨by rw[MW w5 g 26 _ _ (0,0) r];rfl,by simp[Ng,r]⟩,u,?_⟩;have y:WV V {V with po:=MI ⟨q,0,MH⟩,co:=c'} g W w5:=by
  refine⟨a.os,a.tape,a.output,a.size,fun b hb hn=>d b hb fun e=>hn (NF (NF (NF e))),fun b e=>?_⟩;rcases e with e|e|e|e
  ·exact Nt (Nt e)
  ·exact Nt (NF (Nt e))
  ·exact Nt (NF (NF (Nt e)))
  ·exact(t b e).imp (fun e=>NF (NF (NF e))) id
 exact y.F4 26 _
theorem aeR{base:Nat}{w:MO}{g:Nat}{V:Vs}{G:Gt}(h:OR base w g V G)(hl:G.out.length<=1000000)(o:Ou) :
  Ni MK 95 #[gP g,aqe o] w (aaa base w g V (ZM G o)):=by
 obtain⟨W,d⟩:∃W,W=w.alloc (ahA o):=⟨_,rfl⟩;have m:MQ w.heap.size w W:=by rw[d];exact WQ w
 have a:W.heap[w.heap.size]?=MI (ahA o):=by rw[d];exact M1 _ _
 have e:=h.below m;have v:=h.lt;have y:g≠w.heap.size:=by omega
 have I:W.cell? ⟨w.heap.size,0,MH⟩=MI (MF ME o.kind):=by rw[MW W _ 0 _ _ (0,0) a];rfl
 have H:W.cell? ⟨w.heap.size,1,MH⟩=MI (MF ME o.slot):=by rw[MW W _ 1 _ _ (0,0) a];rfl
 have M:W.cell? ⟨w.heap.size,2,MH⟩=MI (MF ME o.gen):=by rw[MW W _ 2 _ _ (0,0) a];rfl
 have J:W.cell? ⟨w.heap.size,3,MH⟩=MI (MF ME o.be):=by rw[MW W _ 3 _ _ (0,0) a];rfl
 have K:W.cell? ⟨w.heap.size,4,MH⟩=MI (MF ME o.req):=by rw[MW W _ 4 _ _ (0,0) a];rfl
 have C:W.cell? ⟨w.heap.size,5,MH⟩=MI (MF ME o.code):=by rw[MW W _ 5 _ _ (0,0) a];rfl
 have E:W.cell? ⟨w.heap.size,6,MH⟩=MI (MF ME o.why):=by rw[MW W _ 6 _ _ (0,0) a];rfl
 have x:=e.Ip;have B:=e.lt;obtain⟨q,F,D,u,⟨A,z⟩,t,r⟩:=aqU e hl o;have i:M6 (_/\_/\_):=⟨u,t,(WV.F5 m).F0 r⟩;clear u t r e h m a;go_enter Tryz.func95,Tryz.ntmps95;go_wp2;rw[<-d];clear d
 go_region_law (first|(refine aec (by rfl) _ _ 61 (by rfl) _ _ _ _ (by rfl) (by rfl) i.out.1 ?_))
 all_goals
  go_wp2
  go_end0
  exact⟨rfl,_,i.out.2.1,⟨rfl,rfl,rfl⟩,i.out.2.2⟩
theorem af1{base:Nat}{w:MO}{g:Nat}{V:Vs}{G:Gt}(h:OR base w g V G)(hl:G.out.length<=1000000)(k c:Int) :
  Ni MK 82 #[gP g,MF ME k,MF ME c] w (aaa base w g V (acm G k c)):=by
 have H:M6 _:=aeR h hl ⟨k,0,0,0,0,c,0⟩;clear h hl;go_enter Tryz.func82,Tryz.ntmps82
 go_wp2_with fail
 refine Nd H.out ?_;rintro r w1 ⟨rfl,d,a⟩;have e:M6 _:=a;clear a;go_wp2
 go_end0
 exact⟨rfl,d,e.out⟩
theorem alj{base:Nat}{w:MO}{g:Nat}{V:Vs}{G:Gt}(h:OR base w g V G)(hl:G.out.length<=1000000)(b q:Int) :
  Ni MK 97 #[gP g,MF ME b,MF ME q] w (aaa base w g V (aeQ G b q)):=by
 have H:M6 _:=aeR h hl ⟨9,0,0,b,q,0,0⟩;clear h hl;go_enter Tryz.func97,Tryz.ntmps97
 go_wp2_with fail
 refine Nd H.out ?_;rintro r w1 ⟨rfl,d,a⟩;have e:M6 _:=a;clear a;go_wp2
 go_end0
 exact⟨rfl,d,e.out⟩
theorem aeP{base:Nat}{w:MO}{g:Nat}{V:Vs}{G:Gt}(h:OR base w g V G)(hl:G.out.length<=1000000)(k:Int)(f:Fl) :
  Ni MK 87 #[gP g,MF ME k,ZS f] w (aaa base w g V (abi G k f)):=by
 obtain⟨W,e⟩:∃W,W=w.alloc (MP #[MF ME f.slot,MF ME f.gen,MF ME f.key,MF ME f.be,M3 f.srv,MF ME f.ret,MF ME f.due] 72):=⟨_,rfl⟩;have a:MQ w.heap.size w W:=by rw[e];exact WQ w
 have H:M6 (_/\_):=⟨aeR (h.below a) hl ⟨k,f.slot,f.gen,f.be,0,0,0⟩,WV.F5 (V:=V) (g:=g) a⟩;clear h hl a;go_enter Tryz.func87,Tryz.ntmps87
 go_wp2_with fail
 rw[<-e];refine Nd H.out.1 ?_;rintro r w1 ⟨rfl,m,i⟩;have d:M6 _:=i;clear i;go_wp2
 go_end0
 exact⟨rfl,m,d.out.1,d.out.2.1,H.out.2.F0 d.out.2.2⟩
section
variable {base:Nat}{w:MO}{g:Nat}{V:Vs}{G:Gt}
theorem OR.GK(h:OR base w g V G):ZR w (MG V.pf G.fls.length V.cf) G.fls:=abw h.rest.fls
theorem OR.bf(h:OR base w g V G)(h0:0<G.fls.length):∃bf,V.pf=MI ⟨bf,0,MH⟩/\base<=bf/\bf<w.heap.size:=by
 obtain⟨d,e,a,i,m⟩:=h.rest.fls.form h0;have a:MG V.pf G.fls.length V.cf=MG (MI ⟨d,0,MH⟩) G.fls.length e:=a;injection a with e1 _ _;exact⟨d,e1,h.rest.fls.lt d (by rw[XV,e1];rfl)⟩
theorem OR.Gl(h:OR base w g V G){bf:Nat}(hp:V.pf=MI ⟨bf,0,MH⟩){i:Nat}(hi:i<G.fls.length) :
  w.cell? ⟨bf,i*7,MH⟩=MI (MF ME G.fls[i].slot)/\w.cell? ⟨bf,i*7+1,MH⟩=MI (MF ME G.fls[i].gen)/\w.cell? ⟨bf,i*7+2,MH⟩=MI (MF ME G.fls[i].key)/\w.cell? ⟨bf,i*7+3,MH⟩=MI (MF ME G.fls[i].be)/\w.cell? ⟨bf,i*7+4,MH⟩=MI (M3 G.fls[i].srv)/\w.cell? ⟨bf,i*7+5,MH⟩=MI (MF ME G.fls[i].ret)/\w.cell? ⟨bf,i*7+6,MH⟩=MI (MF ME G.fls[i].due):=by
 have a:=h.rest.fls;rw[hp]at a;exact⟨(abU XL a rfl hi (j:=0) (by omega)).trans rfl,(abU XL a rfl hi (j:=1) (by omega)).trans rfl,(abU XL a rfl hi (j:=2) (by omega)).trans rfl,(abU XL a rfl hi (j:=3) (by omega)).trans rfl,(abU XL a rfl hi (j:=4) (by omega)).trans rfl,(abU XL a rfl hi (j:=5) (by omega)).trans rfl,(abU XL a rfl hi (j:=6) (by omega)).trans rfl⟩
theorem OR.Hv(h:OR base w g V G){bf:Nat}(hp:V.pf=MI ⟨bf,0,MH⟩)(j:Nat):w.frozen? ⟨bf,j,MH⟩=false:=by
 have a:=h.rest.fls;rw[hp]at a;exact a.frozenAt j
abbrev fP(bf i:Nat):Value:=Na (MI ⟨bf,i*7,MH⟩)
theorem OR.Jk(h:OR base w g V G):G.fls.length<=V.cf/\V.cf<=9223372036854775807:=by
 obtain⟨a,cap,d,i,e,_⟩:=h.GK.F6;injection d with e1 e2 e3;unfold NE at e;omega
theorem ahm(h:OR base w g V G){i:Nat}(hi:i<G.fls.length)(hs:aaF G.fls s=i){bf:Nat}(hp:V.pf=MI ⟨bf,0,MH⟩)(hl:G.fls.length<=40):
  Ni MK 89 #[gP g,MF ME s] w fun r w'=>r=MN (fP bf i)/\MQ w.heap.size w w':=by
 obtain⟨W,d⟩:∃W,W=w.alloc (MP #[MF ME s] 3):=⟨_,rfl⟩;have e:MQ w.heap.size w W:=by rw[d];exact WQ w
 have o:=h.below e;have u:W.cell? ⟨w.heap.size,0,MH⟩=MI (MF ME s):=by rw[d];exact Xu (M1 _ _)
 have q:X6 (G.fls.findIdx (fun f=>f.slot == s)) G.fls.length=(i:Int):=by
  have:G.fls.findIdx (fun f=>f.slot == s)=i:=hs;rw[this];exact Nh hi
 have m:M6 _:=apl (MG V.pf G.fls.length V.cf) G.fls s w.heap.size W o.GK u;rw[q]at m;have t:=h.Gr;have A:=h.lt;rw[hp]at t m;have H:M6 (_/\_):=⟨e,o⟩;have z:(i:Int)<(G.fls.length:Int):=by omega
 have y:=h.Jk;clear o h hs q u e;go_enter Tryz.func89,Tryz.ntmps89
 go_wp2_with fail
 rw[<-d];refine Nd m.out ?_;rintro r w1 ⟨rfl,a⟩;have v:=(H.out.2.below a).Gr;rw[hp]at v;have x:M6 _:=H.out.1.trans (a.mono H.out.1.size);clear a t;go_wp2;go_ret;exact⟨by simp,x.out⟩
theorem akC(h:OR base w g V G)(b:Int) :
  Ni MK 110 #[gP g,MF ME b] w fun r w'=>r=MN (M3 (Zr G.fls b))/\MQ w.heap.size w w':=by
 obtain⟨W,a⟩:∃W,W=w.alloc (MP #[MF ME b] 3):=⟨_,rfl⟩;have d:MQ w.heap.size w W:=by rw[a];exact WQ w
 have m:=h.below d;have i:W.cell? ⟨w.heap.size,0,MH⟩=MI (MF ME b):=by rw[a];exact Xu (M1 _ _)
 have q:M6 _:=aj8 (MG V.pf G.fls.length V.cf) G.fls b w.heap.size W m.GK i;have t:=h.Gr;have u:=h.lt;have H:M6 _:=d;clear m h i d;go_enter ayW,ayL
 go_wp2_with fail
 rw[<-a];refine Nd q.out ?_;rintro r w1 ⟨rfl,e⟩;have o:M6 _:=H.out.trans (e.mono H.out.size);clear e;go_wp2;go_ret;exact⟨rfl,o.out⟩
theorem af0{w:MO}{g:Nat}{a b c d e f a' b' c' d' e' f':M7}{T:NU}(h:w.heap[g]?=MI (MP #[a,b,c,d,e,f] T (0,0))):((((((w.setCell ⟨g,0,MH⟩ a').setCell ⟨g,1,MH⟩ b').setCell ⟨g,2,MH⟩ c').setCell ⟨g,3,MH⟩ d').setCell ⟨g,4,MH⟩ e').setCell ⟨g,5,MH⟩ f').heap[g]?=MI (MP #[a',b',c',d',e',f'] T (0,0)):=
 YO (YO (YO (YO (YO (YO h rfl) rfl) rfl) rfl) rfl) rfl
theorem afE{w:MO}{B h:Nat}{a b c d e f:M7}(H:MQ B w W)(hh:B<=h):MQ B w ((((((W.setCell ⟨h,0,MH⟩ a).setCell ⟨h,1,MH⟩ b).setCell ⟨h,2,MH⟩ c).setCell ⟨h,3,MH⟩ d).setCell ⟨h,4,MH⟩ e).setCell ⟨h,5,MH⟩ f):=
 (((((H.setCell hh _).setCell hh _).setCell hh _).setCell hh _).setCell hh _).setCell hh _
abbrev abR(x:awV):Value:=Ny #[MF ME x.1,MF ME x.2.1,MF ME x.2.2.1,MF ME x.2.2.2.1,MF ME x.2.2.2.2.1,MF ME x.2.2.2.2.2]
abbrev YQ(x:awV):Obj:=MP #[MF ME x.1,MF ME x.2.1,MF ME x.2.2.1,MF ME x.2.2.2.1,MF ME x.2.2.2.2.1,MF ME x.2.2.2.2.2] 186
theorem afS{q:Nat}{x:awV}(h:W.heap[q]?=MI (YQ x)):(loadVar 186 ⟨q,0,MH⟩).run MK W=.ok (abR x) W :=
 Xp (cs:=[MF ME x.1,MF ME x.2.1,MF ME x.2.2.1,MF ME x.2.2.2.1,MF ME x.2.2.2.2.1,MF ME x.2.2.2.2.2]) h Tryz.underlying186 rfl (by kernel_rfl)
theorem afQ{b:Int}:WS L b=L.getD (L.findIdx fun x=>x.1 == b) aa1:=by
 unfold WS;rw[List.find?_eq_getElem?_findIdx];simp
theorem afR(h:OR base w g V G)(b:Int) :
  Ni MK 96 #[gP g,MF ME b] w fun r w'=>r=MN (abR (WS G.liv b))/\MQ w.heap.size w w':=by
 obtain⟨W,B⟩:∃W,W=(w.alloc (MP #[MF ME b] 3)).alloc (YQ aa1):=⟨_,rfl⟩;have N:=acu w (MP #[MF ME b] 3) (YQ aa1);rw[<-B]at N;obtain⟨D,I,A,b0⟩:=N;have C:=h.below A;have O:W.cell? ⟨w.heap.size,0,MH⟩=MI (MF ME b):=Xu D;have y:M6 _:=akz (MG V.pl G.liv.length V.cl) G.liv b w.heap.size W C.rest.book.now.1 O;have E:=h.Gn;have b2:=h.lt;have H:M6 (_/\_/\_):=⟨A,C,I⟩;clear h O A C D I
 by_cases hi:G.liv.findIdx (fun x=>x.1 == b)<G.liv.length
 ·obtain⟨i,q⟩:∃i,i=G.liv.findIdx (fun x=>x.1 == b):=⟨_,rfl⟩
  have u:X6 (G.liv.findIdx (fun x=>x.1 == b)) G.liv.length=(i:Int):=by rw[<-q];exact Nh (by rw[q];exact hi)
  rw[u]at y;rw[<-q]at hi;obtain⟨x,t⟩:∃x,x=WS G.liv b:=⟨_,rfl⟩;have K:x=G.liv[i]:=by rw[t,afQ,<-q];simp[hi]
  have a8:(i:Int)<(G.liv.length:Int):=by omega
  rw[<-t];have U:M6 (_/\_):=⟨K,q⟩;clear u q t K;go_enter UY,UV
  go_wp2_with fail
  rw[<-B];refine Nd y.out ?_;rintro r w1 ⟨rfl,o⟩;have z:=H.out.2.1.below o;have F:=z.Gn;have m:=WO H.out.2.2 o;obtain⟨a,cap,he,a7,R,M⟩:=adt.F6 z.rest.book.now.1;injection he with e1 e2 e3;unfold NE at R;rw[e3]at F;obtain⟨b1,o1,J,a9,Y,z2,z3,z4,z5,z6⟩:=M i hi;rw[e1,J]at F;rw[<-U.out.1]at Y z2 z3 z4 z5 z6;have Q:w.heap.size+1<w1.heap.size:=(Array.getElem?_eq_some_iff.1 m).1;have f0:w1.frozen? ⟨w.heap.size+1,0,MH⟩=false:=by simp[Ng,m]
  have f1:w1.frozen? ⟨w.heap.size+1,1,MH⟩=false:=by simp[Ng,m]
  have f2:w1.frozen? ⟨w.heap.size+1,2,MH⟩=false:=by simp[Ng,m]
  have f3:w1.frozen? ⟨w.heap.size+1,3,MH⟩=false:=by simp[Ng,m]
  have f4:w1.frozen? ⟨w.heap.size+1,4,MH⟩=false:=by simp[Ng,m]
  have f5:w1.frozen? ⟨w.heap.size+1,5,MH⟩=false:=by simp[Ng,m]
  have Z:w1.cell? ⟨w.heap.size+1,0,MH⟩=MI (MF ME 0):=by rw[MW w1 _ 0 _ _ (0,0) m];rfl
  have k1:w1.cell? ⟨w.heap.size+1,1,MH⟩=MI (MF ME 0):=by rw[MW w1 _ 1 _ _ (0,0) m];rfl
  have k2:w1.cell? ⟨w.heap.size+1,2,MH⟩=MI (MF ME 0):=by rw[MW w1 _ 2 _ _ (0,0) m];rfl
  have k3:w1.cell? ⟨w.heap.size+1,3,MH⟩=MI (MF ME 0):=by rw[MW w1 _ 3 _ _ (0,0) m];rfl
  have k4:w1.cell? ⟨w.heap.size+1,4,MH⟩=MI (MF ME 0):=by rw[MW w1 _ 4 _ _ (0,0) m];rfl
  have k5:w1.cell? ⟨w.heap.size+1,5,MH⟩=MI (MF ME 0):=by rw[MW w1 _ 5 _ _ (0,0) m];rfl
  have v:M6 (_/\_):=⟨af0 (a':=MF ME x.1) (b':=MF ME x.2.1) (c':=MF ME x.2.2.1) (d':=MF ME x.2.2.2.1) (e':=MF ME x.2.2.2.2.1) (f':=MF ME x.2.2.2.2.2) m,afE (a:=MF ME x.1) (b:=MF ME x.2.1) (c:=MF ME x.2.2.1) (d:=MF ME x.2.2.2.1) (e:=MF ME x.2.2.2.2.1) (f:=MF ME x.2.2.2.2.2) (H.out.1.trans (o.mono H.out.1.size)) (Ps _)⟩;clear o E z m M e1 J e3;go_wp2;exact Np (Z2 azi rfl (afS v.out.1)) rfl ⟨rfl,v.out.2⟩
 ·have u:X6 (G.liv.findIdx (fun x=>x.1 == b)) G.liv.length = -1:=Nf hi
  rw[u]at y;have t:WS G.liv b=aa1:=by rw[afQ];simp[hi]
  rw[t];clear u t;go_enter UY,UV
  go_wp2_with fail
  rw[<-B];refine Nd y.out ?_;rintro r w1 ⟨rfl,o⟩;have m:=WO H.out.2.2 o;have Q:w.heap.size+1<w1.heap.size:=(Array.getElem?_eq_some_iff.1 m).1;have f0:w1.frozen? ⟨w.heap.size+1,0,MH⟩=false:=by simp[Ng,m]
  have f1:w1.frozen? ⟨w.heap.size+1,1,MH⟩=false:=by simp[Ng,m]
  have f2:w1.frozen? ⟨w.heap.size+1,2,MH⟩=false:=by simp[Ng,m]
  have f3:w1.frozen? ⟨w.heap.size+1,3,MH⟩=false:=by simp[Ng,m]
  have f4:w1.frozen? ⟨w.heap.size+1,4,MH⟩=false:=by simp[Ng,m]
  have f5:w1.frozen? ⟨w.heap.size+1,5,MH⟩=false:=by simp[Ng,m]
  have Z:w1.cell? ⟨w.heap.size+1,0,MH⟩=MI (MF ME 0):=by rw[MW w1 _ 0 _ _ (0,0) m];rfl
  have k1:w1.cell? ⟨w.heap.size+1,1,MH⟩=MI (MF ME 0):=by rw[MW w1 _ 1 _ _ (0,0) m];rfl
  have k2:w1.cell? ⟨w.heap.size+1,2,MH⟩=MI (MF ME 0):=by rw[MW w1 _ 2 _ _ (0,0) m];rfl
  have k3:w1.cell? ⟨w.heap.size+1,3,MH⟩=MI (MF ME 0):=by rw[MW w1 _ 3 _ _ (0,0) m];rfl
  have k4:w1.cell? ⟨w.heap.size+1,4,MH⟩=MI (MF ME 0):=by rw[MW w1 _ 4 _ _ (0,0) m];rfl
  have k5:w1.cell? ⟨w.heap.size+1,5,MH⟩=MI (MF ME 0):=by rw[MW w1 _ 5 _ _ (0,0) m];rfl
  have v:M6 (_/\_):=⟨af0 (a':=MF ME 0) (b':=MF ME 0) (c':=MF ME 0) (d':=MF ME 0) (e':=MF ME 0) (f':=MF ME 0) m,afE (a:=MF ME 0) (b:=MF ME 0) (c:=MF ME 0) (d:=MF ME 0) (e:=MF ME 0) (f:=MF ME 0) (H.out.1.trans (o.mono H.out.1.size)) (Ps _)⟩;clear o E m;go_wp2;exact Np (Z2 azi rfl (afS (x:=aa1) v.out.1)) rfl ⟨rfl,v.out.2⟩
end
section
variable {base:Nat}{w:MO}{g:Nat}{V:Vs}{G:Gt}
theorem ahp{w':MO}(h:OR base w' g V G)(hb:WV V V g w w'):aaa base w g V G (MN (Nv #[])) w':=⟨rfl,V,h,⟨rfl,rfl,rfl⟩,hb⟩
theorem ahg(h:OR base w g V G)(hl:G.out.length<=1000000)(b:Int) :
  Ni MK 99 #[gP g,MF ME b] w (aaa base w g V (Yf G b)):=by
 obtain⟨⟨C,J,D,E,B,i⟩,Z⟩:∃x,x=WS G.liv b:=⟨_,rfl⟩;have Q:M6 _:=afR h b;rw[<-Z]at Q;have d3:=h.lt;have y:Yf G b=if J=3/\Zr G.fls b=Nb then aeQ {G with liv:=(aau G.liv G.req b).1.1,req:=(aau G.liv G.req b).1.2} b i else G:=by unfold Yf WY;rw[<-Z]
 obtain⟨O,Y⟩:∃O,O=Yf G b:=⟨_,rfl⟩;rw[<-Y];rw[<-Y]at y;have H:M6 (_/\_):=⟨h,hl⟩;clear h Z Y hl
 by_cases h3:J=3
 ·subst h3
  cases hbz:Zr G.fls b
  ·rw[Nh ⟨rfl,hbz⟩]at y
   have HO:M6 _:=y;clear y;go_enter azW,azR
   go_wp2_with fail
   refine Nd Q.out ?_;rintro r w1 ⟨rfl,a⟩;have z:=H.out.1.below a;have A:=z.GW (YQ (C,3,D,E,B,i));have F:=akC A b;rw[hbz]at F;have HS:M6 _:=a.size;have t:M6 (_/\_/\_):=⟨F,A,(WV.F5 (V:=V) (g:=g) a).below (WQ w1 (o:=YQ (C,3,D,E,B,i)))⟩;clear a z A F
   go_wp2_with fail
   refine Nd t.out.1 ?_;rintro r w2 ⟨rfl,u⟩;have I:=t.out.2.1.below u;have b2:w1.heap.size<w2.heap.size:=by have:=u.size;simp at this;omega
   have k5:w2.cell? ⟨w1.heap.size,5,MH⟩=MI (MF ME i):=by
    rw[MW w2 _ 5 _ _ (0,0) (WO (M1 w1 (YQ (C,3,D,E,B,i))) u)];rfl
   have a9:=I.Gn;have b0:=I.GD;have b5:=I.lt;have HF:=arW (MG V.pl G.liv.length V.cl) (MG V.pr G.req.length V.cr) G.liv G.req b w2 I.rest.book.now;have d:M6 (_/\_/\_):=⟨HF,I,t.out.2.2.below u⟩;clear u I HF
   go_wp2_with fail
   refine Nd d.out.1 ?_;rintro r w3 ⟨p,c,q,m,rfl,a8,v⟩;have R:=d.out.2.1.Iq v a8;have b8:=(d.out.2.1.below v).Gn;have b9:=(d.out.2.1.below v).GD;have b6:=(d.out.2.1.below v).fz 19;have b7:=(d.out.2.1.below v).fz 20;have b4:=(d.out.2.1.below v).lt;have kk:=(v.cell (p:=⟨w1.heap.size,5,MH⟩) b2).trans k5;have M:¬w1.heap.size=g:=fun e=>by have:=H.out.1.lt;have:=HS.out;omega
   have b3:¬g=w1.heap.size:=fun e=>M e.symm
   obtain⟨N,K⟩:∃N,N=(w3.setCell ⟨g,19,MH⟩ (MG p (aau G.liv G.req b).1.1.length c)).setCell ⟨g,20,MH⟩ (MG q (aau G.liv G.req b).1.2.length m):=⟨_,rfl⟩;rw[<-K]at R;have d2:N.cell? ⟨w1.heap.size,5,MH⟩=MI (MF ME i):=by
    rw[K];exact(NG (MU _ _ _ _ M)).trans ((NG (MU _ _ _ _ M)).trans kk)
   have a7:WV V {V with pl:=p,cl:=c,pr:=q,cr:=m} g w N:=by
    rw[K];exact(((d.out.2.2.below v).F4 19 _).F4 20 _).Gp fun _ h=>h
   have H3:M6 (_/\_):=⟨alj R H.out.2 b i,a7⟩;clear R a7 a8 v k5 a9 b0
   go_wp2_with fail
   rw[<-K]
   go_wp2_with fail
   refine Nd H3.out.1 ?_;rintro r w5 ⟨rfl,V',h5,h6,h7⟩;have U:M6 (_/\_/\_):=⟨h5,h6,h7⟩;clear h5 h6 h7;go_wp2
   go_end0
   rw[HO.out];exact⟨rfl,V',U.out.1,U.out.2.1,H3.out.2.F0 U.out.2.2⟩
  ·rw[Nf (fun hc=>by rw[hbz]at hc;cases hc.2)]at y
   subst y;go_enter azW,azR
   go_wp2_with fail
   refine Nd Q.out ?_;rintro r w1 ⟨rfl,a⟩;have z:=H.out.1.below a;have A:=z.GW (YQ (C,3,D,E,B,i));have F:=akC A b;rw[hbz]at F;have t:M6 (_/\_/\_):=⟨F,A,(WV.F5 (V:=V) (g:=g) a).below (WQ w1 (o:=YQ (C,3,D,E,B,i)))⟩;clear a z A F
   go_wp2_with fail
   refine Nd t.out.1 ?_;rintro r w2 ⟨rfl,u⟩;have d:M6 (_/\_):=⟨t.out.2.1.below u,t.out.2.2.below u⟩;clear u;go_wp2
   go_end0
   exact ahp d.out.1 d.out.2
 ·rw[Nf (fun hc=>h3 hc.1)]at y
  subst y;have M:(J != 3)=true:=by simpa using h3
  go_enter azW,azR
  go_wp2_with fail
  refine Nd Q.out ?_;rintro r w1 ⟨rfl,a⟩;have z:=H.out.1.below a;have t:M6 (_/\_):=⟨z.GW (YQ (C,J,D,E,B,i)),(WV.F5 (V:=V) (g:=g) a).below (WQ w1 (o:=YQ (C,J,D,E,B,i)))⟩;clear a z;go_wp2
  go_end0
  exact ahp t.out.1 t.out.2
end
section
variable {base:Nat}{w:MO}{g:Nat}{V:Vs}{G:Gt}
theorem OR.Jr(h:OR base w g V G)(hT:∀t,G.tms t↔T t):OR base w g V {G with tms:=T}:=by
 obtain⟨e,a,d,i⟩:=h.rest.whl;have r:=h.rest;exact⟨h.box,r.tab,r.book,r.ring,⟨e,a,fun t=>(d t).trans (hT t),i⟩,r.fls,r.hea,r.msl,r.hel,r.marks,r.out,r.low,r.lt,r.hg,r.fg,r.fh,r.og,r.oh,r.fo,r.blk,r.pos⟩
theorem aq5(h:0<=n/\n<=1000000):(N6 ME n).wf=true:=aez (by omega) (by omega)
theorem afD(h:MQ base w W)(hg:base<=g)(a b:Nat)(x y:M7):MQ base w ((W.setCell ⟨g,a,MH⟩ x).setCell ⟨g,b,MH⟩ y):=(h.setCell (p:=⟨g,a,MH⟩) hg x).setCell (p:=⟨g,b,MH⟩) hg y
abbrev af4(n:Int)(v:M7):Obj:=MP #[MF ME n,v] 53
theorem akg(h:OR base w g V G)(hs:0<=s/\s<40):
  Ni MK 126 #[gP g,MF ME s] w (aaa base w g V (aeG G s)):=by
 obtain⟨D,q,A,z⟩:=h.rest.whl;have Q:=h.GJ;have N:=h.GH;have R:=h.lt;have C:M6 _:=avJ (MG V.pw 25 V.cw) G.wnow s D w h.rest.blk z.now q (aq5 (by omega));have H:M6 (_/\_/\_):=⟨h,q,A⟩;clear h q A z hs;go_enter Tryz.func126,Tryz.ntmps126
 go_wp2_with fail
 refine Nd C.out ?_;rintro r w1 ⟨d,⟨y,rfl⟩|⟨B,p,c,U,rfl,u,m⟩⟩
 ·have a:=H.out.1.below d
  have i:M6 (_/\_):=⟨(a.GW (af4 0 (MG MH 0 0))).Jr (T:=fun t=>G.tms t/\t.2≠s) (fun t=>⟨fun h=>⟨h,y t ((H.out.2.2 t).2 h)⟩,fun h=>h.1⟩),(WV.F5 (V:=V) (g:=g) d).below (WQ w1 (o:=af4 0 (MG MH 0 0)))⟩;clear d a y;go_wp2
  go_end0
  exact ahp i.out.1 i.out.2
 ·have a:=H.out.1.below d
  have x:=(H.out.1.Ih (T:=fun t=>G.tms t/\t.2≠s) d u m.may (fun t=>(m.mem t).trans (and_congr (H.out.2.2 t) Iff.rfl))).GW (af4 G.wnow (MG p 25 c));have v:WV V {V with pw:=p,cw:=c} g w ((w1.setCell ⟨g,24,MH⟩ (MF ME G.wnow)).setCell ⟨g,25,MH⟩ (MG p 25 c)):=(((WV.F5 (V:=V) (g:=g) d).F4 24 _).F4 25 _).Gp fun _ h=>h
  have J:=a.GJ;have I:=a.GH;have M:=a.fz 24;have O:=a.fz 25;have E:=a.lt;have K:¬w1.heap.size=g:=fun e=>by omega
  have F:¬g=w1.heap.size:=fun e=>by omega
  have i:M6 (_/\_):=⟨x,v.below (WQ _ (o:=af4 G.wnow (MG p 25 c)))⟩;clear d a v x u m B;go_wp2
  go_end0
  exact⟨rfl,_,i.out.1,⟨rfl,rfl,rfl⟩,i.out.2⟩
theorem aqY{i:Nat}(hi:i<G.fls.length)(n:Int):YW G i n={G with fls:=G.fls.set i {G.fls[i]with due:=G.now+n},tms:=fun t=>(G.tms t/\t.2≠G.fls[i].slot)\/t=(G.now+n,G.fls[i].slot)}:=by
 unfold YW;rw[XA hi]
theorem af2(h:OR base w g V G){i:Nat}(hi:i<G.fls.length){bf:Nat}(hp:V.pf=MI ⟨bf,0,MH⟩)(hn:1<=n/\n<=500)(hs:0<=G.fls[i].slot/\G.fls[i].slot<40)(hw:G.wnow=G.now)(hnow:0<=G.now/\G.now<=1099511626776):
  Ni MK 85 #[gP g,fP bf i,MF ME n] w (aaa base w g V (YW G i n)):=by
 rw[aqY hi];obtain⟨s,B⟩:∃s,s=G.fls[i].slot:=⟨_,rfl⟩;obtain⟨F,q2,q3,q4,q5,q6,q7⟩:=h.Gl hp hi;have b6:=h.Gm;have b7:=h.lt;have fz:=h.Hv hp (i*7+6);have b3:bf<w.heap.size:=MX w ⟨bf,i*7,MH⟩ F;have b4:¬bf=g:=fun e=>h.rest.fg (by rw[hp,e];rfl)
 have b8:¬g=bf:=fun e=>b4 e.symm
 obtain⟨d,q⟩:∃d,d=G.now+n:=⟨_,rfl⟩;have b2:IntKind.i64.wrap (G.now+n)=d:=by rw[q,Ow];omega
 obtain⟨y,u⟩:∃y:Fl,y={G.fls[i]with due:=d}:=⟨_,rfl⟩;have x:=h.Hd hp hi (j:=6) (by omega) (MF ME d) y (by rw[u];rfl);obtain⟨w1,z⟩:∃w1,w1=w.setCell ⟨bf,i*7+6,MH⟩ (MF ME d):=⟨_,rfl⟩;rw[<-z]at x;have O:WV V V g w w1:=by
  rw[z];exact⟨rfl,rfl,rfl,by simp,fun b _ hn=>MU w ⟨bf,i*7+6,MH⟩ _ b fun e=>hn (NF (NF (Nt (by rw[hp,e];rfl)))),fun _ h=>Nt h⟩
 rw[<-B]at F hs⊢;have Q:i<(G.fls.set i y).length:=by rw[NA];exact hi
 have a8:(G.fls.set i y)[i]=y:=by simp
 have Z:=x.Gl hp (i:=i) Q;simp only[a8]at Z;obtain⟨v,r2,r3,r4,r5,r6,r7⟩:=Z;have A:y.slot=s:=by rw[u,B]
 have Y:y.due=d:=by rw[u]
 have r1:w1.cell? ⟨bf,i*7,MH⟩=MI (MF ME s):=by rw[<-A];exact v
 have HD:M6 _:=akg x hs;have H:M6 (_/\_/\_/\_/\_/\_/\_):=⟨O,A,Y,q,hp,hs,hi⟩;have HW:M6 (_/\_/\_/\_):=⟨hw,hnow,hn,u⟩;clear v h x O A Y hp B q hs r2 r3 r4 r5 r6 r7 hw hnow hn u Q a8;go_enter Wd,VU
 go_wp2_with fail
 rw[<-z];clear z F q2 q3 q4 q5 q6 q7 b6 fz b2
 go_wp2_with fail
 refine Nd HD.out ?_;rintro r w2 ⟨rfl,a,m,E,a7⟩;obtain⟨ls,I,J,hA⟩:=m.rest.whl;have U:a.pf=MI ⟨bf,0,MH⟩:=E.1.trans H.out.2.2.2.2.1;have D:i<(aeG {G with fls:=G.fls.set i y} s).fls.length:=by show i<(G.fls.set i y).length;rw[NA];exact H.out.2.2.2.2.2.2
 have R:=m.Gl U (i:=i) D;have N:(aeG {G with fls:=G.fls.set i y} s).fls[i]'D=y:=NW (h:=by rw[NA];exact H.out.2.2.2.2.2.2);simp only[N]at R;obtain⟨v,t2,t3,t4,t5,t6,u7⟩:=R;have t1:w2.cell? ⟨bf,i*7,MH⟩=MI (MF ME s):=by rw[<-H.out.2.1];exact v
 have t7:w2.cell? ⟨bf,i*7+6,MH⟩=MI (MF ME d):=by rw[<-H.out.2.2.1];exact u7
 have d7:w2.cell? ⟨g,24,MH⟩=MI (MF ME G.wnow):=m.GJ;have d4:=m.GH;have d3:=m.lt;have b9:bf<w2.heap.size:=MX w2 ⟨bf,i*7,MH⟩ t1;have hx:=HW.out;have hs:=H.out.2.2.2.2.2.1;have q:=H.out.2.2.2.1;have M:Zg G.wnow (d,s)=true:=(ada _ _).2 ⟨by show G.wnow<d;omega,by show d<=G.wnow+500;omega,by show d<=1099511627776;omega,hs.1,by show s<=199;omega⟩;have K:∀t∈ls.flatten,t.2≠s:=fun t hmem=>((J t).1 hmem).2
 have HA:M6 (∀W,MQ w2.heap.size w2 W->Ni MK 127 #[Ny #[MF ME G.wnow,MG a.pw 25 a.cw],MF ME s,MF ME d] W fun r w'=>∃p c,r=MN (Nv #[Ny #[MF ME G.wnow,MG p 25 c],MF ME 0])/\w'.cell? ⟨g,24,MH⟩=MI (MF ME G.wnow)/\w'.cell? ⟨g,25,MH⟩=MI (MG a.pw 25 a.cw)/\w'.frozen? ⟨g,24,MH⟩=Nb/\w'.frozen? ⟨g,25,MH⟩=Nb/\g<w'.heap.size /\
   M6 (OR base ((w'.setCell ⟨g,24,MH⟩ (MF ME G.wnow)).setCell ⟨g,25,MH⟩ (MG p 25 c)) g {a with pw:=p,cw:=c} {G with fls:=G.fls.set i y,tms:=fun t=>(G.tms t/\t.2≠s)\/t=(d,s)}/\WV a {a with pw:=p,cw:=c} g w2 ((w'.setCell ⟨g,24,MH⟩ (MF ME G.wnow)).setCell ⟨g,25,MH⟩ (MG p 25 c)))):=by
  refine fun W hW=>(avD (MG a.pw 25 a.cw) G.wnow s d ls W (m.rest.blk.below hW) (hA.now.below hW) I M K).mono ?_
  rintro r w' ⟨p,c,rfl,a9,b0,hb⟩;have C:MQ w2.heap.size w2 w':=hW.trans (hb.mono hW.size);have o:=m.below C;have b5:=m.Ih (T:=fun t=>(G.tms t/\t.2≠s)\/t=(d,s)) C (a9.GV hW.size) b0 (fun t=>(av6 (now:=G.wnow) I.2 (d,s) t).trans ((or_congr Iff.rfl (J t)).trans or_comm));exact⟨p,c,rfl,o.GJ,o.GH,o.fz 24,o.fz 25,o.lt,b5,(((WV.F5 (V:=a) (g:=g) C).F4 24 _).F4 25 _).Gp fun _ h=>h⟩
 have H2:M6 (_/\_):=⟨E,a7⟩;clear v u7 m hA I J M K hx hs q a7 E t2 t3 t4 t5 t6 U N D r1 b7 b3 HD
 go_wp2_with fail
 go_region_with (first|(go_at_call 127;refine(HA.out _ (by first|exact(MY _ _).drew|exact Below.refl _ _)).mono ?_;rintro r w3 ⟨p,c,rfl,d9,d6,d8,d5,d2,o⟩))
 all_goals
  go_wp2
  go_end0
  have u:=HW.out.2.2.2;have q:=H.out.2.2.2.1;subst u q;exact⟨rfl,{a with pw:=p,cw:=c},o.out.1,H2.out.1,H.out.1.F0 (H2.out.2.F0 o.out.2)⟩
end
theorem ad0:(Tryz.prog.info? 72).map (fun i=>(i.zero,i.size,i.bytes))=MI (MI (Ny #[MF ME 0,MF ME 0,MF ME 0,MF ME 0,M3 Nb,MF ME 0,MF ME 0]),7,56):=by kernel_rfl
theorem aoI(q:Oc)(c:Nat)(l:List Fl)(w:MO)(hv:ZR w (MG (MI q) l.length c) l)(h0:0<l.length)(hl:l.length<=1000) :
  Ni MK 72 #[MG (MI q) l.length c] w fun r w'=>∃g c',r=MN (MG (MI ⟨g,0,MH⟩) l.length c')/\w'.ownsRow w.heap.size 72 7 (MG (MI ⟨g,0,MH⟩) l.length c') l.length (rv WX l)/\MQ w.heap.size w w':=by
 have v:∀W,(binOp .eql 40 (MG (MI q) l.length c) (MG MH 0 0)).run MK W=.ok (M3 Nb) W:=fun W=>by kernel_rfl
 have m:(w.alloc (MP #[] 72)).ownsRow w.heap.size 72 7 (MG (MI ⟨w.heap.size,0,MH⟩) 0 0) 0 (rv WX []):=
  ⟨rfl,NF ⟨w.heap.size,0,#[],rfl,MV _,M1 _ _,MV _,Nx _,rfl,rfl⟩⟩
 have t:∃g c' d,(N2 #[40,40] 40 #[MG (MI ⟨w.heap.size,0,MH⟩) 0 0,MG (MI q) l.length c]).run MK (w.alloc (MP #[] 72))=.ok (MG (MI ⟨g,0,MH⟩) l.length c') d/\d.ownsRow w.heap.size 72 7 (MG (MI ⟨g,0,MH⟩) l.length c') l.length (rv WX l)/\MQ w.heap.size w d:=by
  obtain⟨g,c',d,hr,a,u,_⟩:=ag6 XL acI (by decide) U3 ad0 rfl m (by simp) 40 _ l (Xw.below hv (WQ w)) (by omega) (by omega) (by unfold NE;omega);rw[Oa]at hr a;rw[Oz]at a;exact⟨_,_,_,hr,a,(WQ w).trans (ae4 u (by simp) (fun g e=>by cases e;exact MV _))⟩
 obtain⟨g,c',d,hr,a,o⟩:=t;have i:M6 (_/\_/\_):=⟨hr,o,a⟩;clear hr o a hv m;go_enter Tryz.func72,Tryz.ntmps72
 go_wp2_with (at_builtin;(with_reducible refine Z4 rfl _ _ 40 rfl (MG (MI ⟨w.heap.size,0,MH⟩) 0 0) (MG (MI q) l.length c) (MG (MI ⟨g,0,MH⟩) l.length c') d ?hs ?hx ?hr ?_);(case hs=>rfl);(case hx=>rfl);(case hr=>exact i.out.1))
 go_wp2;go_ret;exact⟨_,_,rfl,i.out.2.2,i.out.2.1⟩
def Y2(s n:Int)(f:Fl):Bool:=(f.slot == s) && (f.gen == n)
theorem ahc(f:Fl)(s n:Int)(g:Nat)(w:MO)(hc:w.cell? ⟨g,0,MH⟩=MI (MF ME s))(hd:w.cell? ⟨g,1,MH⟩=MI (MF ME n)) :
  Ni MK 181 #[ZS f,Na (MI ⟨g,0,MH⟩)] w fun r w'=>r=MN (M3 (Y2 s n f))/\w'=w.alloc (MP #[MF ME f.slot,MF ME f.gen,MF ME f.key,MF ME f.be,M3 f.srv,MF ME f.ret,MF ME f.due] 72):=by
 have m:g<w.heap.size:=MX w ⟨g,0,MH⟩ hc
 by_cases e:f.slot=s/\f.gen=n
 ·obtain⟨rfl,rfl⟩:=e
  go_enter azS,azG;go_wp2;go_ret;exact⟨by simp[Y2],rfl⟩
 ·have a:Y2 s n f=false:=by
   cases h:Y2 s n f
   ·rfl
   ·exact absurd (by simpa [Y2]using h) e
  rw[a]
  by_cases e1:f.slot=s
  ·subst e1
   have d:(f.gen == n)=false:=by rw[Oh];exact fun h=>e ⟨rfl,h⟩
   have i:¬f.gen=n:=fun h=>e ⟨rfl,h⟩
   clear e a;go_enter azS,azG;go_wp2;go_ret;exact⟨rfl,rfl⟩
  ·have d:(f.slot == s)=false:=by rw[Oh];exact e1
   clear e a;go_enter azS,azG;go_wp2;go_ret;exact⟨rfl,rfl⟩
theorem apr(v:M7)(l:List Fl)(s n:Int)(g:Nat)(w:MO)(hv:ZR w v l)(hc:w.cell? ⟨g,0,MH⟩=MI (MF ME s))(hd:w.cell? ⟨g,1,MH⟩=MI (MF ME n)) :
  Ni MK 123 #[v,PB (PD 181) #[] #[Na (MI ⟨g,0,MH⟩)]] w fun r w'=>r=MN (MF ME (X6 (l.findIdx (Y2 s n)) l.length))/\MQ w.heap.size w w':=by
 obtain⟨q,E⟩:∃q:Fl->Bool,q=(Y2 s n):=⟨_,rfl⟩;obtain⟨a,ca,rfl,a8,R,K⟩:=ZR.F6 hv;unfold NE at R;have N:=MX w ⟨g,0,MH⟩ hc;have Q:M6 (∀(x:Fl) (W:MO),MQ w.heap.size w W->Ni MK 181 #[ZS x,Na (MI ⟨g,0,MH⟩)] W fun r w'=>r=MN (M3 (q x))/\MQ W.heap.size W w'):=by
  rw[E];exact fun x W hb=>(fun H=>H.mono fun r w' h=>⟨h.1,by rw[h.2];exact WQ W⟩) (ahc x s n g W ((hb.cell (p:=⟨g,0,MH⟩) N).trans hc) ((hb.cell (p:=⟨g,1,MH⟩) N).trans hd))
 rw[<-E];obtain⟨z,D⟩:∃z,z=X6 (l.findIdx q) l.length:=⟨_,rfl⟩;rw[<-D];have H:M6 _:=D;clear hv D E hc hd;go_enter Uo,Uc;go_wp2
 go_loopw [8] (fun i wr=>∃k:Nat,i=MF ME k/\k<=l.length/\(∀t∈l.take k,q t=Nb)/\MQ w.heap.size w wr) (fun i _=>l.length-(intOf i).toNat)
 case atStart=>exact⟨0,rfl,Nx _,by simp,MY _ _⟩
 case round =>
  obtain⟨k,rfl,hk,A,d⟩:=hrel
  by_cases hlt:k<l.length
  ·obtain⟨o,u,rfl,m,c1,c2,c3,c4,c5,c6,c7⟩:=K k hlt
   have Z:=(d.cell (p:=⟨o,u+k*7,MH⟩) m).trans c1;have U:=(d.cell (p:=⟨o,u+k*7+1,MH⟩) m).trans c2;have Y:=(d.cell (p:=⟨o,u+k*7+2,MH⟩) m).trans c3;have e4:=(d.cell (p:=⟨o,u+k*7+3,MH⟩) m).trans c4;have e5:=(d.cell (p:=⟨o,u+k*7+4,MH⟩) m).trans c5;have e6:=(d.cell (p:=⟨o,u+k*7+5,MH⟩) m).trans c6;have e7:=(d.cell (p:=⟨o,u+k*7+6,MH⟩) m).trans c7;have y:M6 (_/\_):=⟨A,d⟩;have a7:(k:Int)<(l.length:Int):=by omega
   have F:l.take (k+1)=l.take k++[l[k]]:=M9 hlt;have I:q l[k]=Nw->l.findIdx q=k:=fun h=>abZ hlt A h
   have C:∃x,x=l[k]:=⟨_,rfl⟩;obtain⟨x,C⟩:=C;rw[<-C]at Z U Y e4 e5 e6 e7 F I;have O:M6 (_/\_):=⟨F,I⟩;clear A d c1 c2 c3 c4 c5 c6 c7 m K F I C;cases hd:q x
   ·go_wp2_with fail
    refine(Q.out x _ y.out.2).mono ?_;rw[hd];rintro r w2 ⟨rfl,B⟩;have J:M6 _:=B;clear B;go_wp2
    go_roundw
    case rel =>
     refine⟨k+1,by simp,hlt,fun t e=>?_,y.out.2.trans (J.out.mono y.out.2.size)⟩;rw[O.out.1]at e;rcases List.mem_append.1 e with e|e
     ·exact y.out.1 t e
     ·simp at e
      rw[e];exact hd
    case measure=>simp[intOf];omega
   ·go_wp2_with fail
    refine(Q.out x _ y.out.2).mono ?_;rw[hd];rintro r w2 ⟨rfl,B⟩;have M:M6 (z=(k:Int)):=by show z=_;rw[H.out,O.out.2 hd];exact Nh hlt
    have J:M6 _:=B;clear B;go_wp2;go_ret;exact⟨by rw[M.out];rfl,y.out.2.trans (J.out.mono y.out.2.size)⟩
  ·have M:M6 (z = -1):=by
    show z=_;rw[H.out,acp fun t e=>A t (by rw[N1 (by omega)];exact e)];exact Nf (PC _)
   have HB:M6 _:=d;clear A d K;go_wp2;go_ret;exact⟨by rw[M.out];rfl,HB.out⟩
def awZ(l:List Fl)(s n:Int):List Fl:=l.filter fun f=>!Y2 s n f
theorem akE(l:List Fl)(t:Fl)(s n:Int):awZ (l++[t]) s n=awZ l s n++if Y2 s n t=Nw then []else [t]:=by
 unfold awZ;rw[OY]
 by_cases h:Y2 s n t=Nw <;> simp[h]
theorem apJ(h:∀t∈l,Y2 s n t=Nb):awZ l s n=l:=List.filter_eq_self.2 fun t ht=>by rw[h t ht];rfl
theorem aqi{w:MO}{base g n size i:Nat}{e:NU}(h:w.ownsRow base e size (MG (MI ⟨g,0,MH⟩) n cap) n xs)(hi:i<=n):w.ownsRow base e size (MG (MI ⟨g,0,MH⟩) i cap) i (xs.take (i*size)):=agE h hi
theorem aqj{base g n size:Nat}{e:NU}(vs:List M7)(o:Nat)(w:MO)(h:w.ownsRow base e size (MG (MI ⟨g,0,MH⟩) n cap) n xs)(ho:n*size<=o):(w.setCells g o vs).ownsRow base e size (MG (MI ⟨g,0,MH⟩) n cap) n xs/\w.grownBy (w.setCells g o vs) (MI g):=aeh vs o w h ho
theorem aqu{P:O8}(w:MO)(t e ty:NU)(zs:Array M7)(k:Nat)(hk:zs.size=k)(hk0:0<k)(h1:∀j,j<k->(zs[j]!).oneCell'=Nw)(ht:P.underlying t=MI (.slice e))(hv:∀w,(zeroValue e).run P w=.ok (Ny zs) w)(g o n c:Nat)(hn:0<n)
  (hc:∀j,j<n*k->(w.cell? ⟨g,o+j,MH⟩).isSome=Nw) (hf:∀j,j<n*k->w.frozen? ⟨g,o+j,MH⟩=Nb) :
  ∃vs,(Rs #[t] ty #[MG (MI ⟨g,o,MH⟩) n c]).run P w=.ok (Nv #[]) (w.setCells g o vs):=by
 have d:(N5 zs n).toList.length=n*k:=by rw[Om,size_zeroCells,hk]
 have q:∀v∈(N5 zs n).toList,v.oneCell'=true:=by
  intro v hv;simp only[N5,Array.toList_map,List.mem_map]at hv;obtain⟨i,_,rfl⟩:=hv;exact h1 (i % zs.size) (by rw[hk];exact Nat.mod_lt _ hk0)
 have a:=run_storeCells_cells (P:=P) g o (N5 zs n).toList 0 w (by rw[d];simpa using hc) (by rw[d];simpa using hf) q;simp only[Oe]at a;refine⟨(N5 zs n).toList,?_⟩;obtain⟨m,rfl⟩:∃m,n=m+1:=⟨n-1,by omega⟩;simp[Rs,run_underlying ht,hv,Value.cells,a]
theorem ara(W:MO):(zeroValue 72).run MK W=.ok (Ny #[MF ME 0,MF ME 0,MF ME 0,MF ME 0,M3 Nb,MF ME 0,MF ME 0]) W:=by kernel_rfl
theorem ahe(h:j<l.length):l.drop j=l[j]::l.drop (j+1):=(Pp h).symm
def Xr(l:List Fl)(s n:Int)(junk:List Fl)(j:Nat):List Fl:=awZ (l.take j) s n++junk++l.drop j
theorem ap6(hj:j<l.length)(hl:(awZ (l.take j) s n).length+junk.length=j):(Xr l s n junk j)[j]?=MI l[j]:=by
 unfold Xr;rw[Tw (by rw[Ns];omega),Ns,hl,Nat.sub_self,ahe hj];rfl
theorem ap7(hj:j<=l.length)(hl:(awZ (l.take j) s n).length+junk.length=j):(Xr l s n junk j).length=l.length:=by
 unfold Xr;rw[Ns,Ns,NJ];omega
theorem akM(hj:j<l.length)(e:Y2 s n l[j]=Nw):Xr l s n (junk++[l[j]]) (j+1)=Xr l s n junk j/\awZ (l.take (j+1)) s n=awZ (l.take j) s n:=by
 have a:awZ (l.take (j+1)) s n=awZ (l.take j) s n:=by rw[M9 hj,akE,Nh e,OG]
 refine⟨?_,a⟩;unfold Xr;rw[a,ahe hj];simp
theorem ap8{x:Fl}(hj:j<l.length)(e:¬Y2 s n l[j]=Nw):Xr l s n (junk++[l[j]]) (j+1)=(Xr l s n (x::junk) j).set (awZ (l.take j) s n).length l[j]/\awZ (l.take (j+1)) s n=awZ (l.take j) s n++[l[j]]:=by
 have a:awZ (l.take (j+1)) s n=awZ (l.take j) s n++[l[j]]:=by rw[M9 hj,akE,Nf e]
 refine⟨?_,a⟩;unfold Xr;rw[a,ahe hj];simp
theorem aqv{w:MO}{base g n:Nat}(h:w.ownsRow base 72 7 (MG (MI ⟨g,0,MH⟩) n cap) n (rv WX l)){i:Nat}(hi:i<l.length)(y:Fl):
  (((((((w.setCell ⟨g,i*7,MH⟩ (MF ME y.slot)).setCell ⟨g,i*7+1,MH⟩ (MF ME y.gen)).setCell ⟨g,i*7+2,MH⟩ (MF ME y.key)).setCell ⟨g,i*7+3,MH⟩ (MF ME y.be)).setCell ⟨g,i*7+4,MH⟩ (M3 y.srv)).setCell ⟨g,i*7+5,MH⟩ (MF ME y.ret)).setCell ⟨g,i*7+6,MH⟩ (MF ME y.due)).ownsRow base 72 7 (MG (MI ⟨g,0,MH⟩) n cap) n (rv WX (l.set i y))/\w.grownBy (((((((w.setCell ⟨g,i*7,MH⟩ (MF ME y.slot)).setCell ⟨g,i*7+1,MH⟩ (MF ME y.gen)).setCell ⟨g,i*7+2,MH⟩ (MF ME y.key)).setCell ⟨g,i*7+3,MH⟩ (MF ME y.be)).setCell ⟨g,i*7+4,MH⟩ (M3 y.srv)).setCell ⟨g,i*7+5,MH⟩ (MF ME y.ret)).setCell ⟨g,i*7+6,MH⟩ (MF ME y.due)) (MI g):=by
 have r:=h.stored (i*7) (MF ME y.slot);have q:=r.1.stored (i*7+1) (MF ME y.gen);have o:=q.1.stored (i*7+2) (MF ME y.key);have m:=o.1.stored (i*7+3) (MF ME y.be);have e:=m.1.stored (i*7+4) (M3 y.srv);have d:=e.1.stored (i*7+5) (MF ME y.ret);have a:=d.1.stored (i*7+6) (MF ME y.due);have B:=ack XL l i 0 (MF ME y.slot) ({l[i]with slot:=y.slot}:Fl) hi (by omega) rfl;have x:=ack XL (l.set i ({l[i]with slot:=y.slot}:Fl)) i 1 (MF ME y.gen) ({l[i]with slot:=y.slot,gen:=y.gen}:Fl) (by simpa using hi) (by omega) (by rw[NW];rfl);have t:=ack XL (l.set i ({l[i]with slot:=y.slot,gen:=y.gen}:Fl)) i 2 (MF ME y.key) ({l[i]with slot:=y.slot,gen:=y.gen,key:=y.key}:Fl) (by simpa using hi) (by omega) (by rw[NW];rfl);have v:=ack XL (l.set i ({l[i]with slot:=y.slot,gen:=y.gen,key:=y.key}:Fl)) i 3 (MF ME y.be) ({l[i]with slot:=y.slot,gen:=y.gen,key:=y.key,be:=y.be}:Fl) (by simpa using hi) (by omega) (by rw[NW];rfl);have u:=ack XL (l.set i ({l[i]with slot:=y.slot,gen:=y.gen,key:=y.key,be:=y.be}:Fl)) i 4 (M3 y.srv) ({l[i]with slot:=y.slot,gen:=y.gen,key:=y.key,be:=y.be,srv:=y.srv}:Fl) (by simpa using hi) (by omega) (by rw[NW];rfl);have A:=ack XL (l.set i ({l[i]with slot:=y.slot,gen:=y.gen,key:=y.key,be:=y.be,srv:=y.srv}:Fl)) i 5 (MF ME y.ret) ({l[i]with slot:=y.slot,gen:=y.gen,key:=y.key,be:=y.be,srv:=y.srv,ret:=y.ret}:Fl) (by simpa using hi) (by omega) (by rw[NW];rfl);have z:=ack XL (l.set i ({l[i]with slot:=y.slot,gen:=y.gen,key:=y.key,be:=y.be,srv:=y.srv,ret:=y.ret}:Fl)) i 6 (MF ME y.due) ({l[i]with slot:=y.slot,gen:=y.gen,key:=y.key,be:=y.be,srv:=y.srv,ret:=y.ret,due:=y.due}:Fl) (by simpa using hi) (by omega) (by rw[NW];rfl);simp only[List.set_set,Oe]at B x t v u A z;rw[B]at r q o m e d a;rw[x]at q o m e d a;rw[t]at o m e d a;rw[v]at m e d a;rw[u]at e d a;rw[A]at d a;rw[z]at a;exact⟨a.1,(((((r.2.trans q.2).trans o.2).trans m.2).trans e.2).trans d.2).trans a.2⟩
theorem aoX(base g c:Nat)(l:List Fl)(s n:Int)(gid:Nat)(w:MO)(hown:w.ownsRow base 72 7 (MG (MI ⟨g,0,MH⟩) l.length c) l.length (rv WX l))(h:w.cell? ⟨gid,0,MH⟩=MI (MF ME s))(hd:w.cell? ⟨gid,1,MH⟩=MI (MF ME n))(hne:gid≠g)(hex:∃t∈l,Y2 s n t=Nw) :
  Ni MK 180 #[MG (MI ⟨g,0,MH⟩) l.length c,PB (PD 181) #[] #[Na (MI ⟨gid,0,MH⟩)]] w fun r w'=>r=MN (MG (MI ⟨g,0,MH⟩) (awZ l s n).length c)/\w'.ownsRow base 72 7 (MG (MI ⟨g,0,MH⟩) (awZ l s n).length c) (awZ l s n).length (rv WX (awZ l s n))/\w.grownBy w' (MI g):=by
 have R:=apr _ l s n gid w (abw hown) h hd;have d2:=MX w ⟨gid,0,MH⟩ h;obtain⟨k,D⟩:∃k,k=l.findIdx (Y2 s n):=⟨_,rfl⟩;have B:k<l.length:=by rw[D];obtain⟨t,O,e⟩:=hex;exact List.findIdx_lt_length_of_exists ⟨t,O,e⟩
 have a8:Y2 s n l[k]=true:=by subst D;exact List.findIdx_getElem (w:=B)
 have a9:∀t∈l.take k,Y2 s n t=false:=by
  intro t O;obtain⟨j,hj,rfl⟩:=NV O;have d3:j<k:=by simp at hj;omega
  rw[List.getElem_take];have:=List.not_of_lt_findIdx (p:=Y2 s n) (xs:=l) (i:=j) (by rw[<-D];exact d3)
  simpa using this
 have b7:X6 (l.findIdx (Y2 s n)) l.length=(k:Int):=by rw[<-D];exact Nh B
 rw[b7]at R;have b9:l.length<=c/\c<=maxLen:=by
  obtain⟨_,c',he,hc,hm,_⟩:=abw hown;cases he;exact⟨hc,hm⟩
 obtain⟨g7,d4⟩:=b9;unfold NE at d4;have F:awZ (l.take k) s n=l.take k:=apJ a9;have Z:=akM (junk:=[]) B a8;have M:M6 (_/\_/\_/\_):=⟨R,hown,h,hd⟩;have H1:M6 (_/\_/\_):=⟨F,Z.1,Z.2⟩;have g8:((k:Int) == -1)=false:=by
  rw[Oh];omega
 clear R hown h hd hex D b7 F Z a8 a9;go_enter Tryz.func180,Tryz.ntmps180
 go_wp2_with fail
 refine Nd M.out.1 ?_;rintro r w1 ⟨rfl,b2⟩;have C:M6 _:=b2;clear b2;go_wp2
 go_loopw [5,6] (fun s5 s6 wr=>∃(j:Nat) (junk:List Fl),s5=MF ME ((awZ (l.take j) s n).length:Nat)/\s6=MF ME j/\j<=l.length/\(awZ (l.take j) s n).length+junk.length=j/\junk≠[]/\wr.ownsRow base 72 7 (MG (MI ⟨g,0,MH⟩) l.length c) l.length (rv WX (Xr l s n junk j))/\w.grownBy wr (MI g)) (fun _ s6 _=>l.length-(intOf s6).toNat)
 case atStart =>
  obtain⟨F,d5,d6⟩:=H1.out;have e0:Xr l s n [l[k]] (k+1)=l:=by
   have:Xr l s n ([]++[l[k]]) (k+1)=Xr l s n [] k:=d5;rw[Oz]at this;rw[this];unfold Xr;rw[F,OG,Oo]
  have I:(awZ (l.take (k+1)) s n).length=k:=by rw[d6,F,NH];omega
  refine⟨k+1,[l[k]],by rw[I],by simp,B,by rw[I];rfl,by simp,?_,⟨C.out.os,C.out.tape,C.out.output,C.out.size,fun k B _=>C.out.block k B⟩⟩;rw[e0];exact YI M.out.2.1 C.out
 case round =>
  obtain⟨j,junk,rfl,rfl,hj,b3,b5,m,v⟩:=hrel;have b4:=ap7 hj b3;have Y:wr.cell? ⟨gid,0,MH⟩=MI (MF ME s):=v.cell M.out.2.2.1 (by simpa using hne);have U:wr.cell? ⟨gid,1,MH⟩=MI (MF ME n):=v.cell M.out.2.2.2 (by simpa using hne);obtain⟨x,d,rfl⟩:∃x d,junk=x::d:=by
   cases junk with
   |nil=>exact absurd rfl b5
   |cons x r=>exact⟨x,r,rfl⟩
  rw[Ox]at b3;have a7:gid<wr.heap.size:=M8 d2 v.size;have g9:=(m.lt g rfl).2;generalize u:(awZ (l.take j) s n).length=i at *
  by_cases hlt:j<l.length
  ·have b0:=ap6 (s:=s) (n:=n) (junk:=x::d) hlt (by rw[u,Ox];omega)
   obtain⟨q,z⟩:=List.getElem?_eq_some_iff.1 b0
   have o:i<(Xr l s n (x::d) j).length:=by omega
   have f0:=(m.cellAt (j*7) (by omega)).trans ((ZA XL (Xr l s n (x::d) j) j 0 q (by omega)).trans (show(WX ((Xr l s n (x::d) j)[j]'q))[0]?=MI (MF ME l[j].slot)by rw[z];rfl));have f1:=(m.cellAt (j*7+1) (by omega)).trans ((ZA XL (Xr l s n (x::d) j) j 1 q (by omega)).trans (show(WX ((Xr l s n (x::d) j)[j]'q))[1]?=MI (MF ME l[j].gen)by rw[z];rfl));have f2:=(m.cellAt (j*7+2) (by omega)).trans ((ZA XL (Xr l s n (x::d) j) j 2 q (by omega)).trans (show(WX ((Xr l s n (x::d) j)[j]'q))[2]?=MI (MF ME l[j].key)by rw[z];rfl));have f3:=(m.cellAt (j*7+3) (by omega)).trans ((ZA XL (Xr l s n (x::d) j) j 3 q (by omega)).trans (show(WX ((Xr l s n (x::d) j)[j]'q))[3]?=MI (MF ME l[j].be)by rw[z];rfl));have f4:=(m.cellAt (j*7+4) (by omega)).trans ((ZA XL (Xr l s n (x::d) j) j 4 q (by omega)).trans (show(WX ((Xr l s n (x::d) j)[j]'q))[4]?=MI (M3 l[j].srv)by rw[z];rfl));have f5:=(m.cellAt (j*7+5) (by omega)).trans ((ZA XL (Xr l s n (x::d) j) j 5 q (by omega)).trans (show(WX ((Xr l s n (x::d) j)[j]'q))[5]?=MI (MF ME l[j].ret)by rw[z];rfl));have f6:=(m.cellAt (j*7+6) (by omega)).trans ((ZA XL (Xr l s n (x::d) j) j 6 q (by omega)).trans (show(WX ((Xr l s n (x::d) j)[j]'q))[6]?=MI (MF ME l[j].due)by rw[z];rfl));have g0:=(m.cellAt (i*7) (by omega)).trans ((ZA XL (Xr l s n (x::d) j) i 0 o (by omega)).trans (show(WX ((Xr l s n (x::d) j)[i]'o))[0]?=MI (MF ME ((Xr l s n (x::d) j)[i]'o).slot)from rfl));have z0:=m.frozenAt (i*7);have g1:=(m.cellAt (i*7+1) (by omega)).trans ((ZA XL (Xr l s n (x::d) j) i 1 o (by omega)).trans (show(WX ((Xr l s n (x::d) j)[i]'o))[1]?=MI (MF ME ((Xr l s n (x::d) j)[i]'o).gen)from rfl));have z1:=m.frozenAt (i*7+1);have g2:=(m.cellAt (i*7+2) (by omega)).trans ((ZA XL (Xr l s n (x::d) j) i 2 o (by omega)).trans (show(WX ((Xr l s n (x::d) j)[i]'o))[2]?=MI (MF ME ((Xr l s n (x::d) j)[i]'o).key)from rfl));have z2:=m.frozenAt (i*7+2);have g3:=(m.cellAt (i*7+3) (by omega)).trans ((ZA XL (Xr l s n (x::d) j) i 3 o (by omega)).trans (show(WX ((Xr l s n (x::d) j)[i]'o))[3]?=MI (MF ME ((Xr l s n (x::d) j)[i]'o).be)from rfl));have z3:=m.frozenAt (i*7+3);have g4:=(m.cellAt (i*7+4) (by omega)).trans ((ZA XL (Xr l s n (x::d) j) i 4 o (by omega)).trans (show(WX ((Xr l s n (x::d) j)[i]'o))[4]?=MI (M3 ((Xr l s n (x::d) j)[i]'o).srv)from rfl));have z4:=m.frozenAt (i*7+4);have g5:=(m.cellAt (i*7+5) (by omega)).trans ((ZA XL (Xr l s n (x::d) j) i 5 o (by omega)).trans (show(WX ((Xr l s n (x::d) j)[i]'o))[5]?=MI (MF ME ((Xr l s n (x::d) j)[i]'o).ret)from rfl));have z5:=m.frozenAt (i*7+5);have g6:=(m.cellAt (i*7+6) (by omega)).trans ((ZA XL (Xr l s n (x::d) j) i 6 o (by omega)).trans (show(WX ((Xr l s n (x::d) j)[i]'o))[6]?=MI (MF ME ((Xr l s n (x::d) j)[i]'o).due)from rfl));have z6:=m.frozenAt (i*7+6);obtain⟨y,hy⟩:∃y,y=l[j]:=⟨_,rfl⟩;rw[<-hy]at f0 f1 f2 f3 f4 f5 f6;generalize ((Xr l s n (x::d) j)[i]'o)=od at g0 g1 g2 g3 g4 g5 g6;have A:=aqv m o y;have N:M6 (_/\_/\_/\_/\_):=⟨A,m,v,hy,u⟩;have f9:(j:Int)<(l.length:Int):=by omega
   have d7:(i:Int)<(l.length:Int):=by omega
   have e8:i<j:=by omega
   have f8:i<l.length:=by omega
   have h8:wr.heap.size≠gid:=by omega
   have J:M6 (_/\_):=⟨(NG (a:=⟨gid,0,MH⟩) (Ov wr (MP #[MF ME y.slot,MF ME y.gen,MF ME y.key,MF ME y.be,M3 y.srv,MF ME y.ret,MF ME y.due] 72) gid a7)).trans Y,(NG (a:=⟨gid,1,MH⟩) (Ov wr (MP #[MF ME y.slot,MF ME y.gen,MF ME y.key,MF ME y.be,M3 y.srv,MF ME y.ret,MF ME y.due] 72) gid a7)).trans U⟩;clear m v Y U b0 z hy q o u b5 A b4;cases hd:Y2 s n y
   ·go_wp2_with fail
    refine(ahc y s n gid _ J.out.1 J.out.2).mono ?_;rw[hd];rintro r w2 ⟨rfl,rfl⟩;go_wp2
    go_roundw
    case rel =>
     obtain⟨A,m,v,E,u⟩:=N.out;have b8:¬Y2 s n l[j]=true:=by rw[<-E,hd];decide
     obtain⟨K,H⟩:=ap8 (x:=x) (junk:=d) hlt b8;rw[u,<-E]at K;refine⟨j+1,d++[l[j]],by rw[H,Ns,u];simp,by simp,hlt,by rw[H,Ns,u];simp;omega,by simp,?_,?_⟩
     ·rw[<-E,K];exact(A.1.alloc _).alloc _
     ·exact((v.trans A.2).trans (OL _ _ _)).trans (OL _ _ _)
    case measure=>simp[intOf];omega
   ·go_wp2_with fail
    refine(ahc y s n gid _ J.out.1 J.out.2).mono ?_;rw[hd];rintro r w2 ⟨rfl,rfl⟩;go_wp2
    go_roundw
    case rel =>
     obtain⟨A,m,v,E,u⟩:=N.out;have d8:Y2 s n l[j]=true:=by rw[<-E];exact hd
     obtain⟨K,H⟩:=akM (junk:=x::d) hlt d8;refine⟨j+1,x::d++[l[j]],by rw[H,u],by simp,hlt,by rw[H,u];simp;omega,by simp,?_,?_⟩
     ·rw[K];exact(m.alloc _).alloc _
     ·exact(v.trans (OL _ _ _)).trans (OL _ _ _)
    case measure=>simp[intOf];omega
  ·obtain rfl:j=l.length:=by omega
   have h9:i<l.length:=by omega
   obtain⟨vs,f7⟩:=aqu (P:=MK) wr 40 72 0 #[MF ME 0,MF ME 0,MF ME 0,MF ME 0,M3 Nb,MF ME 0,MF ME 0] 7 rfl (by decide) (by decide) U3 ara g (i*7) (l.length-i) (c-i) (by omega) (fun t O=>by
    have h1:=m.cellAt (i*7+t) (by omega);rw[h1,MR (by rw[abx XL,b4];omega)];rfl) (fun t _=>m.frozenAt _)
   have Q:=aqj vs (i*7) wr (aqi m (i:=i) (by omega)) (MV _);have I:(rv WX (Xr l s n (x::d) l.length)).take (i*7)=rv WX (awZ l s n):=by
    have e2:awZ (l.take l.length) s n=awZ l s n:=by rw[NT]
    rw[e2]at u;rw[ahF XL];unfold Xr;rw[e2,OC,ZqA (by omega),<-u,NT]
   rw[I]at Q;have b6:(awZ l s n).length=i:=by rw[<-u,NT]
   have N:M6 (_/\_/\_):=⟨Q,v,b6⟩;have d7:(i:Int)<(l.length:Int):=by omega
   have e9:(i:Int)<=(c:Int):=by omega
   have d9:c≠i:=by omega
   clear Q v m u I b6 Y U;go_wp2;go_ret;obtain⟨r1,r2,r3⟩:=N.out;rw[r3];exact⟨rfl,r1.1,r2.trans r1.2⟩
section
variable {base:Nat}{w:MO}{g:Nat}{V:Vs}{G:Gt}
theorem alp(h:OR base w g V G)(hf:f∈G.fls)(hl:G.fls.length<=40):
  Ni MK 132 #[gP g,Ny #[MF ME f.slot,MF ME f.gen]] w fun r w'=>∃q c,r=MN (MG (MI ⟨q,0,MH⟩) (Yl G.fls f.slot f.gen).length c)/\w'.ownsRow w.heap.size 72 7 (MG (MI ⟨q,0,MH⟩) (Yl G.fls f.slot f.gen).length c) (Yl G.fls f.slot f.gen).length (rv WX (Yl G.fls f.slot f.gen))/\MQ w.heap.size w w':=by
 have C:0<G.fls.length:=Qj hf;obtain⟨bf,Q,_,R⟩:=h.bf C;obtain⟨W,d⟩:∃W,W=w.alloc (MP #[MF ME f.slot,MF ME f.gen] 70):=⟨_,rfl⟩;have u:MQ w.heap.size w W:=by rw[d];exact WQ w
 have B:W.heap[w.heap.size]?=MI (MP #[MF ME f.slot,MF ME f.gen] 70 (0,0)):=by rw[d];exact M1 _ _
 have z:W.heap.size=w.heap.size+1:=by rw[d];simp
 have I:=h.below u;have m:=I.GK;have J:=h.Gr;rw[Q]at m J;have U:=h.lt;have O:M6 _:=aoI ⟨bf,0,MH⟩ V.cf G.fls W m C (by omega);have A:∃t∈G.fls,Y2 f.slot f.gen t=true:=⟨f,hf,by simp[Y2]⟩;have H:M6 (_/\_/\_/\_):=⟨u,B,A,z⟩;clear h I m hf u B A z;go_enter Rp,Q6
 go_wp2_with fail
 rw[<-d];refine Nd O.out ?_;rintro r w1 ⟨q,c,rfl,o,e⟩;have x:=WO H.out.2.1 e;obtain⟨F,E,_,_,K⟩:=Xa x;have M:=(o.lt q rfl).1;have N:=H.out.2.2.2;have i:=H.out.1;have a:M6 (_/\_/\_):=⟨aoX W.heap.size q c G.fls f.slot f.gen w.heap.size w1 o F E (by omega) H.out.2.2.1,i.trans (e.mono i.size),(by omega:w.heap.size<=q)⟩;clear o e x F E K M N i
 go_wp2_with fail
 refine Nd a.out.1 ?_;rintro r w2 ⟨rfl,y,v⟩;have D:M6 (_/\_):=⟨y.mono (by rw[H.out.2.2.2];exact Ps _),a.out.2.1.grown v a.out.2.1.size (fun k hk=>by rw[<-NC hk];exact a.out.2.2)⟩;clear y v;go_wp2;go_ret;exact⟨q,c,rfl,D.out.1,D.out.2⟩
end
section
variable {base:Nat}{w:MO}{g:Nat}{V:Vs}{G:Gt}
abbrev ahk(f:Fl):Obj:=MP #[MF ME f.slot,MF ME f.gen,MF ME f.key,MF ME f.be,M3 f.srv,MF ME f.ret,MF ME f.due] 72
theorem adZ{q:Nat}(h:W.heap[q]?=MI (ahk f)):W.cell? ⟨q,0,MH⟩=MI (MF ME f.slot)/\W.cell? ⟨q,1,MH⟩=MI (MF ME f.gen)/\W.cell? ⟨q,2,MH⟩=MI (MF ME f.key)/\W.cell? ⟨q,3,MH⟩=MI (MF ME f.be)/\W.cell? ⟨q,4,MH⟩=MI (M3 f.srv)/\W.cell? ⟨q,5,MH⟩=MI (MF ME f.ret)/\W.cell? ⟨q,6,MH⟩=MI (MF ME f.due)/\q<W.heap.size :=
 ⟨by rw[MW W _ 0 _ _ (0,0) h];rfl,by rw[MW W _ 1 _ _ (0,0) h];rfl,by rw[MW W _ 2 _ _ (0,0) h];rfl,by rw[MW W _ 3 _ _ (0,0) h];rfl,by rw[MW W _ 4 _ _ (0,0) h];rfl,by rw[MW W _ 5 _ _ (0,0) h];rfl,by rw[MW W _ 6 _ _ (0,0) h];rfl,(Array.getElem?_eq_some_iff.1 h).1⟩
theorem adY(h:OR base w g V G)(hbs:Bs G)(hf:f∈G.fls)(hl:G.out.length<=900000)(kind why:Int):
  Ni MK 90 #[gP g,ZS f,MF ME kind,MF ME why] w (aam base w g V (Yg G f kind why)):=by
 have d5:=(hbs.F9 hf).1;have a9:=hbs.Gb;obtain⟨m,x⟩:∃m,m=(ZQ G.tab f.slot f.gen).1:=⟨_,rfl⟩;have b4:(ZQ G.tab f.slot f.gen).2=0:=by rw[hbs.Hj hf]
 obtain⟨W,K⟩:∃W,W=w.alloc (ahk f):=⟨_,rfl⟩;have hB:MQ w.heap.size w W:=by rw[K];exact WQ w
 have v:W.heap[w.heap.size]?=MI (ahk f):=by rw[K];exact M1 _ _
 have o:=h.below hB;have d6:¬V.own g w.heap.size:=h.rest.new (MV _);have g9:w.heap.size<W.heap.size:=(Array.getElem?_eq_some_iff.1 v).1;have i3:=h.lt;have i1:¬g=w.heap.size:=by omega
 have i0:¬w.heap.size=g:=by omega
 obtain⟨x0,x1,x2,x3,x4,x5,x6,_⟩:=adZ v;have g7:=o.Gs;have f7:=o.lt;have HD:M6 (∀W',MQ W.heap.size W W'->Ni MK 131 #[Ny #[MG V.pt G.tab.length V.ct],Ny #[MF ME f.slot,MF ME f.gen]] W' fun r w'=>∃p c,r=MN (Nv #[Ny #[MG p m.length c],MF ME 0])/\w'.cell? ⟨g,17,MH⟩=MI (MG V.pt G.tab.length V.ct)/\w'.frozen? ⟨g,17,MH⟩=Nb/\g<w'.heap.size/\(w'.cell? ⟨w.heap.size,0,MH⟩=MI (MF ME f.slot)/\w'.cell? ⟨w.heap.size,1,MH⟩=MI (MF ME f.gen)) /\
   M6 (OR base (w'.setCell ⟨g,17,MH⟩ (MG p m.length c)) g {V with pt:=p,ct:=c} {G with tab:=m}/\WV V {V with pt:=p,ct:=c} g W (w'.setCell ⟨g,17,MH⟩ (MG p m.length c)))):=by
  refine fun W' hW'=>(auD (MG V.pt G.tab.length V.ct) G.tab f.slot f.gen W' (o.rest.tab.now.below hW')).mono ?_
  rw[<-x,b4];rintro r w' ⟨p,c,rfl,ho,u⟩;have E:MQ W.heap.size W w':=hW'.trans (u.mono hW'.size);have i:=o.below E;have M:=adZ (WO v E);exact⟨p,c,rfl,i.Gs,i.fz 17,i.lt,⟨M.1,M.2.1⟩,o.Ix E (ho.mono hW'.size),((WV.F5 (V:=V) (g:=g) E).F4 17 _).Gp fun _ h=>h⟩
 have H:M6 (_/\_/\_/\_/\_/\_/\_):=⟨h,hB,v,d6,hf,x,hl⟩;have HX:M6 (_/\_):=⟨d5,a9⟩;clear h hbs hf d5 a9 hl x b4 hB v o d6 x2 x3 x4 x5 x6;go_enter Tryz.func90,Tryz.ntmps90
 go_wp2_with fail
 rw[<-K];clear K
 go_region_with (first|(go_at_call 131;refine(HD.out _ (by first|exact(MY _ _).drew|exact Below.refl _ _)).mono ?_;rintro r w3 ⟨p,c,rfl,f9,h9,d9,⟨y0,y1⟩,i⟩))
 all_goals
  obtain⟨I,Z⟩:∃I,I=w3.setCell ⟨g,17,MH⟩ (MG p m.length c):=⟨_,rfl⟩;have C:=i.out.1;have z:=i.out.2;rw[<-Z]at C z;have Q:=z.Gf H.out.2.2.1 H.out.2.2.2.1;have d2:¬Vs.own {V with pt:=p,ct:=c} g w.heap.size:=H.out.2.2.2.1;have b5:=alp C (f:=f) H.out.2.2.2.2.1 HX.out.2;obtain⟨z0,z1,z2,z3,_,_,_,g8⟩:=adZ Q;have d:M6 (_/\_/\_/\_/\_):=⟨b5,C,(WV.F5 (V:=V) (g:=g) H.out.2.1).F0 z,Q,d2⟩;clear i C z Q b5 f9 h9 d9 y0 y1 x0 x1 g7 f7 g9 d2;rw[<-Z];clear Z
  go_wp2_with fail
  refine Nd d.out.1 ?_;rintro r w5 ⟨q,c5,rfl,U,a⟩;have A:=d.out.2.1.below a;have e9:=A.Gr;have h8:=A.fz 18;have d8:=A.lt;obtain⟨w6,y⟩:∃w6,w6=w5.setCell ⟨g,18,MH⟩ (MG (MI ⟨q,0,MH⟩) (Yl G.fls f.slot f.gen).length c5):=⟨_,rfl⟩;have R:=(U.lt q rfl).1;have B:=d.out.2.1.IU (p:=MI ⟨q,0,MH⟩) (c:=c5) (m:=Yl G.fls f.slot f.gen) a.size (fun b u _=>a.block b u) (U.mono d.out.2.1.base) (fun b e=>by cases e;exact NF R);rw[<-y]at B;have F:WV {V with pt:=p,ct:=c} {V with pt:=p,ct:=c,pf:=MI ⟨q,0,MH⟩,cf:=c5} g I w6:=by
   rw[y];have M:WV {V with pt:=p,ct:=c} {V with pt:=p,ct:=c,pf:=MI ⟨q,0,MH⟩,cf:=c5} g I w5:=by
    refine⟨a.os,a.tape,a.output,a.size,fun b u _=>a.block b u,fun b e=>?_⟩;rcases e with e|e|e|e
    ·exact Nt (Nt e)
    ·exact Nt (NF (Nt e))
    ·cases e;exact NF R
    ·exact Nt (NF (NF (NF e)))
   exact M.F4 18 _
  have d4:=F.Gf d.out.2.2.2.1 d.out.2.2.2.2;have a7:=F.Ik (Array.getElem?_eq_some_iff.1 d.out.2.2.2.1).1 d.out.2.2.2.2;obtain⟨v0,v1,v2,v3,_,_,_,f8⟩:=adZ (WO d.out.2.2.2.1 a);have t:M6 (_/\_/\_/\_/\_):=⟨akg B HX.out.1,d.out.2.2.1.F0 F,d4,a7,B⟩;clear B F d4 a7 U a A z0 z1 z2 z3 g8 R
  go_wp2_with fail
  rw[<-y];clear y e9 h8 d8;refine Nd t.out.1 ?_;rintro r w7 ⟨rfl,V7,O,b8,D⟩;have B7:M6 (V7.bh=V.bh):=b8.2.2;clear b8;have N:=D.Gf t.out.2.2.1 t.out.2.2.2.1;have b2:=D.Ik (Array.getElem?_eq_some_iff.1 t.out.2.2.1).1 t.out.2.2.2.1;obtain⟨k0,k1,k2,k3,_,_,_,e8⟩:=adZ N;have b9:(aeG {G with tab:=m,fls:=Yl G.fls f.slot f.gen} f.slot).out.length<=1000000:=by show G.out.length<=1000000;have:=H.out.2.2.2.2.2.2;omega
  have J:M6 (_/\_/\_/\_/\_):=⟨aeR O b9 ⟨kind,f.slot,f.gen,f.be,0,0,why⟩,t.out.2.1.F0 D,N,b2,O⟩;clear O D N b2 v0 v1 v2 v3 f8 b9
  go_wp2_with fail
  refine Nd J.out.1 ?_;rintro r w8 ⟨rfl,V8,b0,b7,Y⟩;have B8:M6 (V8.bh=V.bh):=b7.2.2.trans B7.out;clear b7;have d7:=Y.Gf J.out.2.2.1 J.out.2.2.2.1;obtain⟨j0,j1,j2,j3,_,_,_,i2⟩:=adZ d7;have a8:(ZM (aeG {G with tab:=m,fls:=Yl G.fls f.slot f.gen} f.slot) ⟨kind,f.slot,f.gen,f.be,0,0,why⟩).out.length<=1000000:=by show(G.out++[_]).length<=1000000;have:=H.out.2.2.2.2.2.2;simp;omega
  have H8:M6 (_/\_):=⟨ahg b0 a8 f.be,J.out.2.1.F0 Y⟩;clear b0 Y d7 k0 k1 k2 k3 e8 a8
  go_wp2_with fail
  refine Nd H8.out.1 ?_;rintro r w9 ⟨rfl,V9,b6,d3,b3⟩;have H9:M6 (_/\_/\_):=⟨b6,H8.out.2.F0 b3,d3.2.2.trans B8.out⟩;clear b6 b3 d3;go_wp2
  go_end0
  have x:=H.out.2.2.2.2.2.1;subst x;exact⟨rfl,V9,H9.out.1,H9.out.2.2,H9.out.2.1⟩
end
end Go.Proofs.YtgnclkcdnbfeeaaGreatDoor.Q
