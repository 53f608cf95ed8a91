/-
  Contracts of the layers and of core, part 13. Conditions: as each theorem says.
-/
import Derived.Test.YtlnbhjdhcmgljaaGreatDoorQ3
import Derived.Test.YtlnbhjdhcmgljaaGreatDoorQ12
open Array renaming length_toList->Om
open Bool renaming false->Nb,true->Nw
open Decidable renaming decide->Nn
open Go renaming Addr->Oc,Calls->Ni,Program->O8,TypeId->NU,Value->M7,World->MO,bodyPost_ret->Np,cell_of_row->MW,heap_alloc_new->M1,heap_setCell_same->NI,maxLen->NE
open Go.Builtin renaming append_->N2,clear_->Rs,zeroCells->N5
open Go.Calls renaming mono->Nd
open Go.Ending renaming returned->MN
open Go.Fn renaming func->PD
open Go.IntKind renaming i64->ME,wrap_i64->Ow
open Go.Lit renaming int->N6
open Go.Obj renaming cells->MP
open Go.Proofs.Tryz renaming func113->SR,func123->Uo,func124->VV,func127->Ug,func149->Ue,func156->SN,func160->VD,func161->UT,func163->S2,func169->UM,func179->UW,func213->WC,ntmps113->Sv,ntmps123->Uc,ntmps124->VL,ntmps127->T6,ntmps149->T4,ntmps156->Ss,ntmps160->Vv,ntmps161->UG,ntmps163->SB,ntmps169->UA,ntmps179->UI,ntmps213->Wn,prog->MK,results124->VA,underlying39->Qu
open Go.RowKit renaming Below->MQ,Hid->M6
open Go.RowKit.Below renaming heap_alloc->Ov,heap_setCell->MU,refl->MY
open Go.Value renaming agg->Ny,bool->M3,func->PB,int->MF,pointer->Na,slice->MG,tuple->Nv
open Go.World renaming block_lt_of_cell?->MX,cell?->Nl,cell?_of_block->NG,frozen?->Ng,grownBy_alloc->OL
open List renaming append_assoc->OC,append_nil->OG,ext_getElem->PX,filter_append->OY,getElem?_append_right->Tw,getElem?_eq_getElem->MR,getElem?_set_ne->N3,getElem?_set_self->N7,getElem_cons_drop->Pp,getElem_mem->Nk,getElem_of_mem->NV,getElem_set->Pc,getElem_set_self->NW,getElem_zip->Qf,length_append->Ns,length_cons->Ox,length_drop->NJ,length_pos_of_mem->Qj,length_set->NA,length_take->NH,mem_cons->OO,nil_append->Oz,not_mem_nil->OD,take_append_drop->Oo,take_append_of_le_length->ZqA,take_length->NT,take_of_length_le->N1,take_succ_eq_append_getElem->M9
open Nat renaming add_zero->Oe,le_of_lt->PJ,le_refl->MV,le_succ->Ps,le_trans->Nm,lt_irrefl->PC,lt_of_le_of_lt->Pb,lt_of_lt_of_le->M8,zero_add->Oa,zero_le->Nx
open Ne renaming symm->Pi
open Option renaming none->MH,some->MI
open Option.some renaming inj->NC
open Or renaming inl->Nt,inr->NF
namespace Go.Proofs.YtlnbhjdhcmgljaaGreatDoor.Q
set_option linter.unusedVariables false
set_option linter.unusedSimpArgs false
set_option maxHeartbeats 16000000
set_option maxRecDepth 100000
open Go.RowKit
attribute [local go_sem ↓] Go.wp_at_zero Go.wp_at_succ
variable {f:Fl}{n s:Int}{L:List FV}{junk l:List Fl}{xs:List M7}{W:MO}{P:MO->Prop}{b c cap j k:Nat}{S:Nat->Prop}{p:Option Oc}{T:Tm->Prop}
abbrev ap(f:Fl):List Value:=[MF ME f.slot,MF ME f.gen,MF ME f.key,MF ME f.be,M3 f.srv,MF ME f.ret,MF ME f.due]
abbrev gT(o:Ou):List Value:=[MF ME o.kind,MF ME o.slot,MF ME o.gen,MF ME o.be,MF ME o.req,MF ME o.code,MF ME o.why]
abbrev Mk:=Option Oc×Nat
abbrev fD(x:Mk×He):List Value:=[MG x.1.1 x.2.marks.length x.1.2,M3 x.2.out,MF ME x.2.till,MF ME x.2.times]
theorem ba(x:Fl):(ap x).length=7:=rfl
theorem Bq(x:Ou):(gT x).length=7:=rfl
theorem ii(x:Mk×He):(fD x).length=4:=rfl
theorem jh(x:Fl):∀u∈ap x,u.oneCell'=true:=by
 intro u hu;simp only[OO,OD,or_false]at hu;rcases hu with rfl|rfl|rfl|rfl|rfl|rfl|rfl <;> rfl
theorem Bd(x:Ou):∀u∈gT x,u.oneCell'=true:=by
 intro u hu;simp only[OO,OD,or_false]at hu;rcases hu with rfl|rfl|rfl|rfl|rfl|rfl|rfl <;> rfl
theorem yd(x:Mk×He):∀u∈fD x,u.oneCell'=true:=by
 intro u hu;simp only[OO,OD,or_false]at hu;rcases hu with rfl|rfl|rfl|rfl <;> rfl
structure Vs where
 bh:Nat
 ch:Nat
 pt:Option Oc
 ct:Nat
 pf:Option Oc
 cf:Nat
 pl:Option Oc
 cl:Nat
 pr:Option Oc
 cr:Nat
 ps:Option Oc
 cs:Nat
 pw:Option Oc
 cw:Nat
 po:Option Oc
 co:Nat
 ms:List Mk
def Vs.own(V:Vs)(g b:Nat):Prop:=b=g\/b=V.bh\/V.pf.map (·.block)=MI b\/V.po.map (·.block)=MI b
def Vs.off(V:Vs)(base g b:Nat):Prop:=V.own g b\/b<base
def cX(S:Nat->Prop)(w:MO)(P:MO->Prop):Prop :=
 ∀w',w.heap.size<=w'.heap.size->(∀b,b<w.heap.size->¬S b->w'.heap[b]?=w.heap[b]?)->P w'
theorem cX.now{w:MO}(h:cX S w P):P w:=h w (MV _) fun _ _ _=>rfl
theorem cX.step{S':Nat->Prop}{w w':MO}(h:cX S w P)(hs:w.heap.size<=w'.heap.size)(hb:∀b,b<w.heap.size->¬S b->w'.heap[b]?=w.heap[b]?)(hS:∀b,b<w.heap.size->S' b->S b):cX S' w' P :=
 fun w'' h1 h2=>h w'' (Nm hs h1) fun b hlt hn=>(h2 b (M8 hlt hs) fun h=>hn (hS b hlt h)).trans (hb b hlt hn)
theorem cX.below{w w':MO}(h:cX S w P)(hb:MQ w.heap.size w w'):cX S w' P:=h.step hb.size (fun b hlt _=>hb.block b hlt) fun _ _ h=>h
theorem fU{w:MO}{n:Nat}(h:aR w (MG p k c) n xs)(hS:∀b,p.map (·.block)=MI b->¬S b):cX S w fun W=>aR W (MG p k c) n xs:=by
 intro w' hs hb;obtain⟨a,cap,he,hc,hm,h1|⟨b,off,h1,h2,h3⟩⟩:=h
 ·exact⟨a,cap,he,hc,hm,Nt h1⟩
 ·refine⟨a,cap,he,hc,hm,NF ⟨b,off,h1,M8 h2 hs,fun i hi=>?_⟩⟩
  rw[<-h3 i hi];cases he;subst h1;have:=hb b h2 (hS b rfl);simp only[Nl,this]
abbrev qO(V:Vs)(G:Gt):Array Value:=#[MF ME G.cfg.flows,MF ME G.cfg.num,MF ME G.cfg.den,MF ME G.cfg.tries,MF ME G.cfg.warm,MF ME G.cfg.drain,MF ME G.cfg.idle,MF ME G.cfg.conn,MF ME G.cfg.ret,MF ME G.cfg.most,MF ME G.cfg.bn,MF ME G.cfg.bd,MF ME G.cfg.bb,MF ME G.cfg.wn,MF ME G.cfg.wf,MF ME G.cfg.wh,MF ME G.now,MG V.pt G.tab.length V.ct,MG V.pf G.fls.length V.cf,MG V.pl G.liv.length V.cl,MG V.pr G.req.length V.cr,MG V.ps (ao G.wts).length V.cs,MG (MI ⟨V.bh,0,MH⟩) 12 V.ch,MF ME G.tok,MF ME G.wnow,MG V.pw 25 V.cw,MG V.po G.out.length V.co]
structure aa(base:Nat)(w:MO)(g:Nat)(V:Vs)(G:Gt):Prop where
 tab:cX (V.off base g) w fun W=>bS W (MG V.pt G.tab.length V.ct) G.tab
 book:cX (V.off base g) w fun W=>fb W (MG V.pl G.liv.length V.cl) (MG V.pr G.req.length V.cr) G.liv G.req
 ring:cX (V.off base g) w fun W=>aO W (MG V.ps (ao G.wts).length V.cs) (ao G.wts)
 whl:∃ls,cQ G.wnow ls/\(∀t,t∈ls.flatten↔G.tms t)/\cX (V.off base g) w fun W=>dh W (MG V.pw 25 V.cw) ls
 fls:w.ownsRow base 99 7 (MG V.pf G.fls.length V.cf) G.fls.length (rv ap G.fls)
 hea:w.ownsRow base 94 4 (MG (MI ⟨V.bh,0,MH⟩) 12 V.ch) 12 (rv fD (V.ms.zip G.hea))
 msl:V.ms.length=12
 hel:G.hea.length=12
 marks:∀(i:Nat) (m:Mk) (h:He),V.ms[i]?=MI m->G.hea[i]?=MI h->cX (V.off base g) w fun W=>bK W (MG m.1 h.marks.length m.2) h.marks
 out:w.ownsRow base 65 7 (MG V.po G.out.length V.co) G.out.length (rv gT G.out)
 low:base<=g
 lt:g<w.heap.size
 hg:V.bh≠g
 fg:V.pf.map (·.block)≠MI g
 fh:V.pf.map (·.block)≠MI V.bh
 og:V.po.map (·.block)≠MI g
 oh:V.po.map (·.block)≠MI V.bh
 fo:∀b,V.pf.map (·.block)=MI b->V.po.map (·.block)≠MI b
 blk:aK w
 pos:0<base
structure ab(base:Nat)(w:MO)(g:Nat)(V:Vs)(G:Gt):Prop where
 box:w.heap[g]?=MI (MP (qO V G) 145 (0,0))
 rest:aa base w g V G
section
variable {base:Nat}{w w':MO}{g:Nat}{V:Vs}{G:Gt}
theorem cS(p:Option Oc)(n c:Nat):(MG p n c).ownBlock=p.map (·.block):=by cases p <;> rfl
theorem ab.c0(h:ab base w g V G):w.cell? ⟨g,0,MH⟩=MI (MF ME G.cfg.flows):=by rw[MW w g 0 _ _ (0,0) h.box];rfl
theorem ab.c1(h:ab base w g V G):w.cell? ⟨g,1,MH⟩=MI (MF ME G.cfg.num):=by rw[MW w g 1 _ _ (0,0) h.box];rfl
theorem ab.c2(h:ab base w g V G):w.cell? ⟨g,2,MH⟩=MI (MF ME G.cfg.den):=by rw[MW w g 2 _ _ (0,0) h.box];rfl
theorem ab.c3(h:ab base w g V G):w.cell? ⟨g,3,MH⟩=MI (MF ME G.cfg.tries):=by rw[MW w g 3 _ _ (0,0) h.box];rfl
theorem ab.c4(h:ab base w g V G):w.cell? ⟨g,4,MH⟩=MI (MF ME G.cfg.warm):=by rw[MW w g 4 _ _ (0,0) h.box];rfl
theorem ab.c5(h:ab base w g V G):w.cell? ⟨g,5,MH⟩=MI (MF ME G.cfg.drain):=by rw[MW w g 5 _ _ (0,0) h.box];rfl
theorem ab.c6(h:ab base w g V G):w.cell? ⟨g,6,MH⟩=MI (MF ME G.cfg.idle):=by rw[MW w g 6 _ _ (0,0) h.box];rfl
theorem ab.c7(h:ab base w g V G):w.cell? ⟨g,7,MH⟩=MI (MF ME G.cfg.conn):=by rw[MW w g 7 _ _ (0,0) h.box];rfl
theorem ab.c8(h:ab base w g V G):w.cell? ⟨g,8,MH⟩=MI (MF ME G.cfg.ret):=by rw[MW w g 8 _ _ (0,0) h.box];rfl
theorem ab.c9(h:ab base w g V G):w.cell? ⟨g,9,MH⟩=MI (MF ME G.cfg.most):=by rw[MW w g 9 _ _ (0,0) h.box];rfl
theorem ab.Hf(h:ab base w g V G):w.cell? ⟨g,10,MH⟩=MI (MF ME G.cfg.bn):=by rw[MW w g 10 _ _ (0,0) h.box];rfl
theorem ab.Hn(h:ab base w g V G):w.cell? ⟨g,11,MH⟩=MI (MF ME G.cfg.bd):=by rw[MW w g 11 _ _ (0,0) h.box];rfl
theorem ab.Hg(h:ab base w g V G):w.cell? ⟨g,12,MH⟩=MI (MF ME G.cfg.bb):=by rw[MW w g 12 _ _ (0,0) h.box];rfl
theorem ab.GS(h:ab base w g V G):w.cell? ⟨g,13,MH⟩=MI (MF ME G.cfg.wn):=by rw[MW w g 13 _ _ (0,0) h.box];rfl
theorem ab.GU(h:ab base w g V G):w.cell? ⟨g,14,MH⟩=MI (MF ME G.cfg.wf):=by rw[MW w g 14 _ _ (0,0) h.box];rfl
theorem ab.GO(h:ab base w g V G):w.cell? ⟨g,15,MH⟩=MI (MF ME G.cfg.wh):=by rw[MW w g 15 _ _ (0,0) h.box];rfl
theorem ab.Gm(h:ab base w g V G):w.cell? ⟨g,16,MH⟩=MI (MF ME G.now):=by rw[MW w g 16 _ _ (0,0) h.box];rfl
theorem ab.Gs(h:ab base w g V G):w.cell? ⟨g,17,MH⟩=MI (MG V.pt G.tab.length V.ct):=by rw[MW w g 17 _ _ (0,0) h.box];rfl
theorem ab.Gr(h:ab base w g V G):w.cell? ⟨g,18,MH⟩=MI (MG V.pf G.fls.length V.cf):=by rw[MW w g 18 _ _ (0,0) h.box];rfl
theorem ab.Gn(h:ab base w g V G):w.cell? ⟨g,19,MH⟩=MI (MG V.pl G.liv.length V.cl):=by rw[MW w g 19 _ _ (0,0) h.box];rfl
theorem ab.GD(h:ab base w g V G):w.cell? ⟨g,20,MH⟩=MI (MG V.pr G.req.length V.cr):=by rw[MW w g 20 _ _ (0,0) h.box];rfl
theorem ab.GX(h:ab base w g V G):w.cell? ⟨g,21,MH⟩=MI (MG V.ps (ao G.wts).length V.cs):=by rw[MW w g 21 _ _ (0,0) h.box];rfl
theorem ab.GI(h:ab base w g V G):w.cell? ⟨g,22,MH⟩=MI (MG (MI ⟨V.bh,0,MH⟩) 12 V.ch):=by rw[MW w g 22 _ _ (0,0) h.box];rfl
theorem ab.Id(h:ab base w g V G):w.cell? ⟨g,23,MH⟩=MI (MF ME G.tok):=by rw[MW w g 23 _ _ (0,0) h.box];rfl
theorem ab.GJ(h:ab base w g V G):w.cell? ⟨g,24,MH⟩=MI (MF ME G.wnow):=by rw[MW w g 24 _ _ (0,0) h.box];rfl
theorem ab.GH(h:ab base w g V G):w.cell? ⟨g,25,MH⟩=MI (MG V.pw 25 V.cw):=by rw[MW w g 25 _ _ (0,0) h.box];rfl
theorem ab.Ip(h:ab base w g V G):w.cell? ⟨g,26,MH⟩=MI (MG V.po G.out.length V.co):=by rw[MW w g 26 _ _ (0,0) h.box];rfl
theorem ab.fz(h:ab base w g V G)(k:Nat):w.frozen? ⟨g,k,MH⟩=false:=by simp[Ng,h.box]
theorem ab.lt(h:ab base w g V G):g<w.heap.size:=h.rest.lt
theorem aa.step(h:aa base w g V G)(hs:w.heap.size<=w'.heap.size)(hb:∀b,b<w.heap.size->b≠g->w'.heap[b]?=w.heap[b]?):aa base w' g V G:=by
 have hA:∀ {P:MO->Prop},cX (V.off base g) w P->cX (V.off base g) w' P:=fun hP=>hP.step hs (fun b hlt hn=>hb b hlt fun e=>hn (Nt (Nt e))) fun _ _ h=>h
 have hO:∀ {e:NU} {k:Nat} {p:Option Oc} {n c:Nat} {xs:List M7},w.ownsRow base e k (MG p n c) n xs->p.map (·.block)≠MI g->w'.ownsRow base e k (MG p n c) n xs:=fun ho hne =>
  aw ho fun b hb'=>hb b (ho.lt b hb').2 fun e=>hne (by rw[<-cS _ _ _,hb',e])
 obtain⟨ls,h1,h2,h3⟩:=h.whl;exact⟨hA h.tab,hA h.book,hA h.ring,⟨ls,h1,h2,hA h3⟩,hO h.fls h.fg,hO h.hea (fun e=>h.hg (NC e)),h.msl,h.hel,fun i m x e1 e2=>hA (h.marks i m x e1 e2),hO h.out h.og,h.low,M8 h.lt hs,h.hg,h.fg,h.fh,h.og,h.oh,h.fo,
  h.blk.Gf (hb 0 (Pb (Nx _) h.lt) (by have:=h.low;have:=h.pos;omega)),h.pos⟩
theorem aa.below(h:aa base w g V G)(hb:MQ w.heap.size w w'):aa base w' g V G:=h.step hb.size fun b hlt _=>hb.block b hlt
theorem ab.below(h:ab base w g V G)(hb:MQ w.heap.size w w'):ab base w' g V G:=⟨af h.box hb,h.rest.below hb⟩
theorem ab.GW(h:ab base w g V G)(o:Obj):ab base (w.alloc o) g V G:=h.below ((MY _ _).alloc (MV _) o)
theorem aa.F4(h:aa base w g V G)(k:Nat)(v:M7):aa base (w.setCell ⟨g,k,MH⟩ v) g V G :=
 h.step (by simp) fun b _ hne=>MU _ _ _ _ hne
end
section
variable {base:Nat}{w w':MO}{g:Nat}{V:Vs}{G:Gt}
theorem aa.Ha(h:aa base w g V G)(hb:V.own g b):base<=b/\b<w.heap.size:=by
 rcases hb with rfl|rfl|e|e
 ·exact⟨h.low,h.lt⟩
 ·exact h.hea.lt _ rfl
 ·exact h.fls.lt b (by rw[cS];exact e)
 ·exact h.out.lt b (by rw[cS];exact e)
theorem aa.new(h:aa base w g V G)(hb:w.heap.size<=b):¬V.own g b:=fun e=>by have:=(h.Ha e).2;omega
theorem aa.GF(h:aa base w g V G)(hb:w.heap.size<=b):¬V.off base g b:=fun e=>e.elim (h.new hb) fun e=>by have:=h.low;have:=h.lt;omega
theorem aa.Jq(h:aa base w g V G)(hb:MQ w.heap.size w w'){m:List FX}(ho:w'.ownsRow w.heap.size 174 4 (MG p m.length c) m.length (aW m)):
  aa base w' g {V with pt:=p,ct:=c} {G with tab:=m}:=by
 have hr:=h.below hb;exact⟨fU (bP ho) (fun b e=>h.GF (ho.lt b (by rw[cS];exact e)).1),hr.book,hr.ring,hr.whl,hr.fls,hr.hea,hr.msl,hr.hel,hr.marks,hr.out,hr.low,hr.lt,hr.hg,hr.fg,hr.fh,hr.og,hr.oh,hr.fo,hr.blk,hr.pos⟩
theorem aa.IR(h:aa base w g V G)(hb:MQ w.heap.size w w'){q:Option Oc}{R:List FY}(ho:bT w.heap.size w' (MG p L.length c) (MG q R.length k) L R):
  aa base w' g {V with pl:=p,cl:=c,pr:=q,cr:=k} {G with liv:=L,req:=R}:=by
 have hr:=h.below hb;exact⟨hr.tab,fun W h1 h2=>⟨fU ho.1.1 (fun b e=>h.GF (ho.2.1 b (by rw[cS];exact e))) W h1 h2,fU ho.1.2 (fun b e=>h.GF (ho.2.2 b (by rw[cS];exact e))) W h1 h2⟩,hr.ring,hr.whl,hr.fls,hr.hea,hr.msl,hr.hel,hr.marks,hr.out,hr.low,hr.lt,hr.hg,hr.fg,hr.fh,hr.og,hr.oh,hr.fo,hr.blk,hr.pos⟩
theorem aa.Js(h:aa base w g V G)(hb:MQ w.heap.size w w'){a:List Int}(ho:w'.ownsRow w.heap.size 109 2 (MG p (ao a).length c) (ao a).length (ag (ao a))):
  aa base w' g {V with ps:=p,cs:=c} {G with wts:=a}:=by
 have hr:=h.below hb;exact⟨hr.tab,hr.book,fU (bP ho) (fun b e=>h.GF (ho.lt b (by rw[cS];exact e)).1),hr.whl,hr.fls,hr.hea,hr.msl,hr.hel,hr.marks,hr.out,hr.low,hr.lt,hr.hg,hr.fg,hr.fh,hr.og,hr.oh,hr.fo,hr.blk,hr.pos⟩
theorem aa.I7(h:aa base w g V G)(hb:MQ w.heap.size w w'){ls:List (List Tm)}(ho:jI w' w.heap.size p c ls)(hm:cQ n ls)(ht:∀t,t∈ls.flatten↔T t):
  aa base w' g {V with pw:=p,cw:=c} {G with wnow:=n,tms:=T}:=by
 have hr:=h.below hb;refine⟨hr.tab,hr.book,hr.ring,⟨ls,hm,ht,fun W h1 h2=>?_⟩,hr.fls,hr.hea,hr.msl,hr.hel,hr.marks,hr.out,hr.low,hr.lt,hr.hg,hr.fg,hr.fh,hr.og,hr.oh,hr.fo,hr.blk,hr.pos⟩;obtain⟨vs,ho⟩:=ho;have k:=ho.Gf (w':=W) fun b h3 h4=>h2 b h4 (h.GF h3)
 exact⟨vs,bP k.row,k.each.1,fun i h1 h2=>bP (k.each.2 i h1 h2)⟩
theorem aa.IB(h:aa base w g V G)(hs:w.heap.size<=w'.heap.size)(hb:∀b,b<w.heap.size->V.pf.map (·.block)≠MI b->w'.heap[b]?=w.heap[b]?){m:List Fl}
  (ho:w'.ownsRow base 99 7 (MG p m.length c) m.length (rv ap m)) (hp:∀b,p.map (·.block)=MI b->V.pf.map (·.block)=MI b\/w.heap.size<=b) :
  aa base w' g {V with pf:=p,cf:=c} {G with fls:=m}:=by
 have hA:∀ {P:MO->Prop},cX (V.off base g) w P->cX (Vs.off {V with pf:=p,cf:=c} base g) w' P:=fun hP=>hP.step hs (fun b hlt hn=>hb b hlt fun e=>hn (Nt (NF (NF (Nt e))))) fun b hlt hS=>by
  rcases hS with(e|e|e|e)|e
  ·exact Nt (Nt e)
  ·exact Nt (NF (Nt e))
  ·rcases hp b e with e|e
   ·exact Nt (NF (NF (Nt e)))
   ·omega
  ·exact Nt (NF (NF (NF e)))
  ·exact NF e
 have hne:∀b,V.own g b->V.pf.map (·.block)≠MI b->p.map (·.block)≠MI b:=fun b hb1 hb2 e=>by
  rcases hp b e with e|e
  ·exact hb2 e
  ·exact h.new e hb1
 obtain⟨ls,h1,h2,h3⟩:=h.whl;refine⟨hA h.tab,hA h.book,hA h.ring,⟨ls,h1,h2,hA h3⟩,ho,aw h.hea fun b e=>hb b (h.hea.lt b e).2 fun e2=>h.fh (by rw[e2,<-e];rfl),h.msl,h.hel,fun i m x e1 e2=>hA (h.marks i m x e1 e2),
  aw h.out fun b e=>hb b (h.out.lt b e).2 fun e2=>h.fo b e2 (by rw[<-e,cS]),h.low,M8 h.lt hs,h.hg,hne g (Nt rfl) h.fg,hne _ (NF (Nt rfl)) h.fh,h.og,h.oh,fun b e1 e2=>?_,
  h.blk.Gf (hb 0 (Pb (Nx _) h.lt) fun e=>by have:=(h.Ha (NF (NF (Nt e)))).1;have:=h.pos;omega),h.pos⟩
 exact hne b (NF (NF (NF e2))) (fun e=>h.fo b e e2) e1
theorem aa.Jh(h:aa base w g V G)(hs:w.heap.size<=w'.heap.size)(hb:∀b,b<w.heap.size->V.po.map (·.block)≠MI b->w'.heap[b]?=w.heap[b]?){m:List Ou}
  (ho:w'.ownsRow base 65 7 (MG p m.length c) m.length (rv gT m)) (hp:∀b,p.map (·.block)=MI b->V.po.map (·.block)=MI b\/w.heap.size<=b) :
  aa base w' g {V with po:=p,co:=c} {G with out:=m}:=by
 have hA:∀ {P:MO->Prop},cX (V.off base g) w P->cX (Vs.off {V with po:=p,co:=c} base g) w' P:=fun hP=>hP.step hs (fun b hlt hn=>hb b hlt fun e=>hn (Nt (NF (NF (NF e))))) fun b hlt hS=>by
  rcases hS with(e|e|e|e)|e
  ·exact Nt (Nt e)
  ·exact Nt (NF (Nt e))
  ·exact Nt (NF (NF (Nt e)))
  ·rcases hp b e with e|e
   ·exact Nt (NF (NF (NF e)))
   ·omega
  ·exact NF e
 have hne:∀b,V.own g b->V.po.map (·.block)≠MI b->p.map (·.block)≠MI b:=fun b hb1 hb2 e=>by
  rcases hp b e with e|e
  ·exact hb2 e
  ·exact h.new e hb1
 obtain⟨ls,h1,h2,h3⟩:=h.whl;refine⟨hA h.tab,hA h.book,hA h.ring,⟨ls,h1,h2,hA h3⟩,aw h.fls fun b e=>hb b (h.fls.lt b e).2 fun e2=>h.fo b (by rw[<-e,cS]) e2,aw h.hea fun b e=>hb b (h.hea.lt b e).2 fun e2=>h.oh (by rw[e2,<-e];rfl),h.msl,h.hel,fun i m x e1 e2=>hA (h.marks i m x e1 e2),
  ho,h.low,M8 h.lt hs,h.hg,h.fg,h.fh,hne g (Nt rfl) h.og,hne _ (NF (Nt rfl)) h.oh,fun b e1=>hne b (NF (NF (Nt e1))) (h.fo b e1),
  h.blk.Gf (hb 0 (Pb (Nx _) h.lt) fun e=>by have:=(h.Ha (NF (NF (NF e)))).1;have:=h.pos;omega),h.pos⟩
theorem aa.Hd(h:aa base w g V G){bf:Nat}(hp:V.pf=MI ⟨bf,0,MH⟩){i:Nat}(hi:i<G.fls.length)(hj:j<7)(v:M7)(y:Fl)(hy:ap y=(ap G.fls[i]).set j v):
  aa base (w.setCell ⟨bf,i*7+j,MH⟩ v) g V {G with fls:=G.fls.set i y}:=by
 have ho:=h.fls;rw[hp]at ho;have h1:=jN ba ho hi hj v y hy;rw[<-hp]at h1;have h2:=aa.IB (p:=V.pf) (c:=V.cf) (m:=G.fls.set i y) h (w':=w.setCell ⟨bf,i*7+j,MH⟩ v) (by simp) (fun b _ hne=>MU _ _ _ _ (fun e=>hne (by rw[hp,e];rfl))) (by rw[NA];exact h1) fun b e=>Nt e
 exact h2
theorem uB(h:aa base w g V G){i:Nat}(hi:i<12):∃m x,V.ms[i]?=MI m/\G.hea[i]?=MI x/\(V.ms.zip G.hea)[i]?=MI (m,x)/\G.hea.getD i bm=x:=by
 have h1:i<V.ms.length:=by rw[h.msl];exact hi
 have h2:i<G.hea.length:=by rw[h.hel];exact hi
 refine⟨V.ms[i],G.hea[i],MR h1,MR h2,?_,by simp[h2]⟩;rw[MR (by simp;omega)];simp
theorem aa.Ir(h:aa base w g V G){i:Nat}(hi:i<12){x:He}(hm:cX (V.off base g) w fun W=>bK W (MG p x.marks.length c) x.marks):
  aa base ((((w.setCell ⟨V.bh,i*4,MH⟩ (MG p x.marks.length c)).setCell ⟨V.bh,i*4+1,MH⟩ (M3 x.out)).setCell ⟨V.bh,i*4+2,MH⟩ (MF ME x.till)).setCell ⟨V.bh,i*4+3,MH⟩ (MF ME x.times)) g {V with ms:=V.ms.set i (p,c)} {G with hea:=G.hea.set i x}:=by
 obtain⟨m0,x0,e1,e2,e3,e4⟩:=uB h hi;obtain⟨hz,e3'⟩:=List.getElem?_eq_some_iff.1 e3;have o1:=jN ii h.hea hz (j:=0) (by omega) (MG p x.marks.length c) ((p,c),{x0 with marks:=x.marks}) (by rw[e3'];rfl);have o2:=jN ii o1 (i:=i) (by simpa using hz) (j:=1) (by omega) (M3 x.out) ((p,c),{x0 with marks:=x.marks,out:=x.out}) (by rw[NW];rfl);have o3:=jN ii o2 (i:=i) (by simpa using hz) (j:=2) (by omega) (MF ME x.till) ((p,c),{x0 with marks:=x.marks,out:=x.out,till:=x.till}) (by rw[NW];rfl);have o4:=jN ii o3 (i:=i) (by simpa using hz) (j:=3) (by omega) (MF ME x.times) ((p,c),x) (by rw[NW];rfl);simp only[List.set_set,Oe]at o4;have hzip:(V.ms.zip G.hea).set i ((p,c),x)=(V.ms.set i (p,c)).zip (G.hea.set i x):=by
  apply PX
  ·simp
  ·intro k h1 h2
   simp only[Pc,Qf]
   split <;> rfl
 rw[hzip]at o4;have hbk:∀b,b<w.heap.size->b≠V.bh->((((w.setCell ⟨V.bh,i*4,MH⟩ (MG p x.marks.length c)).setCell ⟨V.bh,i*4+1,MH⟩ (M3 x.out)).setCell ⟨V.bh,i*4+2,MH⟩ (MF ME x.till)).setCell ⟨V.bh,i*4+3,MH⟩ (MF ME x.times)).heap[b]?=w.heap[b]?:=fun b _ hne=>by
  rw[MU _ _ _ _ hne,MU _ _ _ _ hne,MU _ _ _ _ hne,MU _ _ _ _ hne]
 have hs:w.heap.size<=((((w.setCell ⟨V.bh,i*4,MH⟩ (MG p x.marks.length c)).setCell ⟨V.bh,i*4+1,MH⟩ (M3 x.out)).setCell ⟨V.bh,i*4+2,MH⟩ (MF ME x.till)).setCell ⟨V.bh,i*4+3,MH⟩ (MF ME x.times)).heap.size:=by simp
 generalize ((((w.setCell ⟨V.bh,i*4,MH⟩ (MG p x.marks.length c)).setCell ⟨V.bh,i*4+1,MH⟩ (M3 x.out)).setCell ⟨V.bh,i*4+2,MH⟩ (MF ME x.till)).setCell ⟨V.bh,i*4+3,MH⟩ (MF ME x.times))=w' at o4 hbk hs⊢;have hA:∀ {P:MO->Prop},cX (V.off base g) w P->cX (V.off base g) w' P:=fun hP=>hP.step hs (fun b hlt hn=>hbk b hlt fun e=>hn (Nt (NF (Nt e)))) fun _ _ h=>h
 obtain⟨ls,h1,h2,h3⟩:=h.whl;refine⟨hA h.tab,hA h.book,hA h.ring,⟨ls,h1,h2,hA h3⟩,aw h.fls fun b e=>hbk b (h.fls.lt b e).2 fun e2=>h.fh (by rw[<-e2,<-e,cS]),o4,by rw[NA];exact h.msl,by rw[NA];exact h.hel,fun k m y f1 f2=>?_,
  aw h.out fun b e=>hbk b (h.out.lt b e).2 fun e2=>h.oh (by rw[<-e2,<-e,cS]),h.low,M8 h.lt hs,h.hg,h.fg,h.fh,h.og,h.oh,h.fo,
  h.blk.Gf (hbk 0 (Pb (Nx _) h.lt) fun e=>by have:=(h.Ha (NF (Nt rfl))).1;have:=h.pos;omega),h.pos⟩
 by_cases hk:k=i
 ·subst hk
  rw[N7 (by rw[h.msl];exact hi)]at f1;rw[N7 (by rw[h.hel];exact hi)]at f2;cases f1;cases f2;exact hA hm
 ·rw[N3 (Pi hk)]at f1 f2
  exact hA (h.marks k m y f1 f2)
theorem cP{cs cs':Array M7}{T:NU}(h:w.heap[g]?=MI (MP cs T (0,0))){v:M7}(he:cs.setIfInBounds k v=cs'):(w.setCell ⟨g,k,MH⟩ v).heap[g]?=MI (MP cs' T (0,0)):=by
 rw[<-he];exact NI w g k cs T v h
theorem ab.Ja(h:ab base w g V G)(n:Int):ab base (w.setCell ⟨g,16,MH⟩ (MF ME n)) g V {G with now:=n}:=
 ⟨cP h.box rfl,let r:=h.rest.F4 16 (MF ME n);⟨r.tab,r.book,r.ring,r.whl,r.fls,r.hea,r.msl,r.hel,r.marks,r.out,r.low,r.lt,r.hg,r.fg,r.fh,r.og,r.oh,r.fo,r.blk,r.pos⟩⟩
theorem ab.IC(h:ab base w g V G)(n:Int):ab base (w.setCell ⟨g,23,MH⟩ (MF ME n)) g V {G with tok:=n}:=
 ⟨cP h.box rfl,let r:=h.rest.F4 23 (MF ME n);⟨r.tab,r.book,r.ring,r.whl,r.fls,r.hea,r.msl,r.hel,r.marks,r.out,r.low,r.lt,r.hg,r.fg,r.fh,r.og,r.oh,r.fo,r.blk,r.pos⟩⟩
theorem ab.Ix(h:ab base w g V G)(hb:MQ w.heap.size w w'){m:List FX}(ho:w'.ownsRow w.heap.size 174 4 (MG p m.length c) m.length (aW m)):
  ab base (w'.setCell ⟨g,17,MH⟩ (MG p m.length c)) g {V with pt:=p,ct:=c} {G with tab:=m}:=
 ⟨cP (af h.box hb) rfl,(h.rest.Jq hb ho).F4 _ _⟩
theorem ab.Iq(h:ab base w g V G)(hb:MQ w.heap.size w w'){q:Option Oc}{R:List FY}(ho:bT w.heap.size w' (MG p L.length c) (MG q R.length k) L R):
  ab base ((w'.setCell ⟨g,19,MH⟩ (MG p L.length c)).setCell ⟨g,20,MH⟩ (MG q R.length k)) g {V with pl:=p,cl:=c,pr:=q,cr:=k} {G with liv:=L,req:=R}:=
 ⟨cP (cP (af h.box hb) rfl) rfl,((h.rest.IR hb ho).F4 _ _).F4 _ _⟩
theorem ab.IJ(h:ab base w g V G)(hb:MQ w.heap.size w w'){a:List Int}(ho:w'.ownsRow w.heap.size 109 2 (MG p (ao a).length c) (ao a).length (ag (ao a))):
  ab base (w'.setCell ⟨g,21,MH⟩ (MG p (ao a).length c)) g {V with ps:=p,cs:=c} {G with wts:=a}:=
 ⟨cP (af h.box hb) rfl,(h.rest.Js hb ho).F4 _ _⟩
theorem ab.Ih(h:ab base w g V G)(hb:MQ w.heap.size w w'){ls:List (List Tm)}(ho:jI w' w.heap.size p c ls)(hm:cQ n ls)(ht:∀t,t∈ls.flatten↔T t):
  ab base ((w'.setCell ⟨g,24,MH⟩ (MF ME n)).setCell ⟨g,25,MH⟩ (MG p 25 c)) g {V with pw:=p,cw:=c} {G with wnow:=n,tms:=T}:=
 ⟨cP (cP (af h.box hb) rfl) rfl,((h.rest.I7 hb ho hm ht).F4 _ _).F4 _ _⟩
theorem ab.IU(h:ab base w g V G)(hs:w.heap.size<=w'.heap.size)(hb:∀b,b<w.heap.size->V.pf.map (·.block)≠MI b->w'.heap[b]?=w.heap[b]?){m:List Fl}
  (ho:w'.ownsRow base 99 7 (MG p m.length c) m.length (rv ap m)) (hp:∀b,p.map (·.block)=MI b->V.pf.map (·.block)=MI b\/w.heap.size<=b) :
  ab base (w'.setCell ⟨g,18,MH⟩ (MG p m.length c)) g {V with pf:=p,cf:=c} {G with fls:=m}:=
 ⟨cP ((hb g h.lt h.rest.fg).trans h.box) rfl,(h.rest.IB hs hb ho hp).F4 _ _⟩
theorem ab.Jw(h:ab base w g V G)(hs:w.heap.size<=w'.heap.size)(hb:∀b,b<w.heap.size->V.po.map (·.block)≠MI b->w'.heap[b]?=w.heap[b]?){m:List Ou}
  (ho:w'.ownsRow base 65 7 (MG p m.length c) m.length (rv gT m)) (hp:∀b,p.map (·.block)=MI b->V.po.map (·.block)=MI b\/w.heap.size<=b) :
  ab base (w'.setCell ⟨g,26,MH⟩ (MG p m.length c)) g {V with po:=p,co:=c} {G with out:=m}:=
 ⟨cP ((hb g h.lt h.rest.og).trans h.box) rfl,(h.rest.Jh hs hb ho hp).F4 _ _⟩
theorem ab.Hd(h:ab base w g V G){bf:Nat}(hp:V.pf=MI ⟨bf,0,MH⟩){i:Nat}(hi:i<G.fls.length)(hj:j<7)(v:M7)(y:Fl)(hy:ap y=(ap G.fls[i]).set j v):
  ab base (w.setCell ⟨bf,i*7+j,MH⟩ v) g V {G with fls:=G.fls.set i y}:=by
 refine⟨?_,h.rest.Hd hp hi hj v y hy⟩;rw[MU _ _ _ _ (fun e=>h.rest.fg (by rw[hp];exact congrArg MI e.symm)),h.box];simp only[qO,NA]
theorem ab.Ir(h:ab base w g V G){i:Nat}(hi:i<12){x:He}(hm:cX (V.off base g) w fun W=>bK W (MG p x.marks.length c) x.marks):
  ab base ((((w.setCell ⟨V.bh,i*4,MH⟩ (MG p x.marks.length c)).setCell ⟨V.bh,i*4+1,MH⟩ (M3 x.out)).setCell ⟨V.bh,i*4+2,MH⟩ (MF ME x.till)).setCell ⟨V.bh,i*4+3,MH⟩ (MF ME x.times)) g {V with ms:=V.ms.set i (p,c)} {G with hea:=G.hea.set i x}:=by
 refine⟨?_,h.rest.Ir hi hm⟩;have hne:g≠V.bh:=fun e=>h.rest.hg e.symm
 rw[MU _ _ _ _ hne,MU _ _ _ _ hne,MU _ _ _ _ hne,MU _ _ _ _ hne];exact h.box
end
abbrev dM(f:Fl):Value:=Ny #[MF ME f.slot,MF ME f.gen,MF ME f.key,MF ME f.be,M3 f.srv,MF ME f.ret,MF ME f.due]
abbrev dS(w:MO)(v:M7)(l:List Fl):Prop:=bj ap w v l
theorem dS.F6{w:MO}{v:M7}(h:dS w v l):
  ∃a cap,v=MG a l.length cap/\l.length<=cap/\cap<=NE/\∀i (hi:i<l.length),∃b off,a=MI ⟨b,off,MH⟩/\b<w.heap.size/\w.cell? ⟨b,off+i*7,MH⟩=MI (MF ME l[i].slot)/\w.cell? ⟨b,off+i*7+1,MH⟩=MI (MF ME l[i].gen)/\w.cell? ⟨b,off+i*7+2,MH⟩=MI (MF ME l[i].key)/\w.cell? ⟨b,off+i*7+3,MH⟩=MI (MF ME l[i].be)/\w.cell? ⟨b,off+i*7+4,MH⟩=MI (M3 l[i].srv)/\w.cell? ⟨b,off+i*7+5,MH⟩=MI (MF ME l[i].ret)/\w.cell? ⟨b,off+i*7+6,MH⟩=MI (MF ME l[i].due):=by
 obtain⟨a,cap,h1,h2,h3,h4⟩:=bj.F6 ba h;refine⟨a,cap,h1,h2,h3,fun i hi=>?_⟩;obtain⟨b,off,e1,e2,e3⟩:=h4 i hi;exact⟨b,off,e1,e2,(e3 0 (by omega)).trans rfl,(e3 1 (by omega)).trans rfl,(e3 2 (by omega)).trans rfl,(e3 3 (by omega)).trans rfl,(e3 4 (by omega)).trans rfl,(e3 5 (by omega)).trans rfl,(e3 6 (by omega)).trans rfl⟩
theorem om{α:Type}{p:α->Bool}{l:List α}:Nn (0<=bz (l.findIdx p) l.length)=l.any p:=by
 unfold bz
 by_cases h:l.findIdx p<l.length
 ·rw[Nh h]
  have:l.any p=true:=List.any_eq_true.2 ⟨l[l.findIdx p],Nk h,List.findIdx_getElem (w:=h)⟩;rw[this];simp
 ·rw[Nf h]
  have:l.any p=false:=by
   rw[List.any_eq_false];intro x hx hp;exact h (List.findIdx_lt_length_of_exists ⟨x,hx,hp⟩)
  rw[this];rfl
theorem Dj(f:Fl)(n:Int)(g:Nat)(w:MO)(hc:w.cell? ⟨g,0,MH⟩=MI (MF ME n)) :
  Ni MK 167 #[dM f,Na (MI ⟨g,0,MH⟩)] w fun r w'=>r=MN (M3 (f.slot == n))/\MQ w.heap.size w w':=by
 have hlt:g<w.heap.size:=MX w ⟨g,0,MH⟩ hc;go_enter Tryz.func167,Tryz.ntmps167;go_wp2;go_ret;exact⟨rfl,ai w⟩
theorem Cs(v:M7)(l:List Fl)(n:Int)(g:Nat)(w:MO)(hv:dS w v l)(hc:w.cell? ⟨g,0,MH⟩=MI (MF ME n)) :
  Ni MK 160 #[v,PB (PD 167) #[] #[Na (MI ⟨g,0,MH⟩)]] w fun r w'=>r=MN (MF ME (bz (l.findIdx (fun f=>f.slot == n)) l.length))/\MQ w.heap.size w w':=by
 obtain⟨q,hq0⟩:∃q:Fl->Bool,q=(fun f=>f.slot == n):=⟨_,rfl⟩;obtain⟨a,ca,rfl,hca,hma,pa⟩:=dS.F6 hv;unfold NE at hma;have hglt:=MX w ⟨g,0,MH⟩ hc;have HQ:M6 (∀(x:Fl) (W:MO),MQ w.heap.size w W->Ni MK 167 #[dM x,Na (MI ⟨g,0,MH⟩)] W fun r w'=>r=MN (M3 (q x))/\MQ W.heap.size W w'):=by
  rw[hq0];exact fun x W hb=>Dj x n g W ((hb.cell (p:=⟨g,0,MH⟩) hglt).trans hc)
 rw[<-hq0];obtain⟨ans,hans⟩:∃ans,ans=bz (l.findIdx q) l.length:=⟨_,rfl⟩;rw[<-hans];have H:M6 _:=hans;clear hv hans hq0 hc;go_enter VD,Vv;go_wp2
 go_loopw [8] (fun i wr=>∃k:Nat,i=MF ME k/\k<=l.length/\(∀t∈l.take k,q t=Nb)/\MQ w.heap.size w wr) (fun i _=>l.length-(intOf i).toNat)
 case atStart=>exact⟨0,rfl,Nx _,by simp,MY _ _⟩
 case round =>
  obtain⟨k,rfl,hk,hall,hbr⟩:=hrel
  by_cases hlt:k<l.length
  ·obtain⟨b1,o1,rfl,hb1,c1,c2,c3,c4,c5,c6,c7⟩:=pa k hlt
   have e1:=(hbr.cell (p:=⟨b1,o1+k*7,MH⟩) hb1).trans c1;have e2:=(hbr.cell (p:=⟨b1,o1+k*7+1,MH⟩) hb1).trans c2;have e3:=(hbr.cell (p:=⟨b1,o1+k*7+2,MH⟩) hb1).trans c3;have e4:=(hbr.cell (p:=⟨b1,o1+k*7+3,MH⟩) hb1).trans c4;have e5:=(hbr.cell (p:=⟨b1,o1+k*7+4,MH⟩) hb1).trans c5;have e6:=(hbr.cell (p:=⟨b1,o1+k*7+5,MH⟩) hb1).trans c6;have e7:=(hbr.cell (p:=⟨b1,o1+k*7+6,MH⟩) hb1).trans c7;have HA:M6 (_/\_):=⟨hall,hbr⟩;have hkI:(k:Int)<(l.length:Int):=by omega
   have htk:l.take (k+1)=l.take k++[l[k]]:=M9 hlt;have hfs:q l[k]=Nw->l.findIdx q=k:=fun h=>gJ hlt hall h
   have hxk:∃x,x=l[k]:=⟨_,rfl⟩;obtain⟨x,hxk⟩:=hxk;rw[<-hxk]at e1 e2 e3 e4 e5 e6 e7 htk hfs;have HX:M6 (_/\_):=⟨htk,hfs⟩;clear hall hbr c1 c2 c3 c4 c5 c6 c7 hb1 pa htk hfs hxk;cases hd:q x
   ·go_wp2_with fail
    refine(HQ.out x _ HA.out.2).mono ?_;rw[hd];rintro r w2 ⟨rfl,hb2⟩;have H2:M6 _:=hb2;clear hb2;go_wp2
    go_roundw
    case rel =>
     refine⟨k+1,by simp,hlt,fun t ht=>?_,HA.out.2.trans (H2.out.mono HA.out.2.size)⟩;rw[HX.out.1]at ht;rcases List.mem_append.1 ht with ht|ht
     ·exact HA.out.1 t ht
     ·simp at ht
      rw[ht];exact hd
    case measure=>simp[intOf];omega
   ·go_wp2_with fail
    refine(HQ.out x _ HA.out.2).mono ?_;rw[hd];rintro r w2 ⟨rfl,hb2⟩;have HE:M6 (ans=(k:Int)):=by show ans=_;rw[H.out,HX.out.2 hd];exact Nh hlt
    have H2:M6 _:=hb2;clear hb2;go_wp2;go_ret;exact⟨by rw[HE.out];rfl,HA.out.2.trans (H2.out.mono HA.out.2.size)⟩
  ·have HE:M6 (ans = -1):=by
    show ans=_;rw[H.out,ib fun t ht=>hall t (by rw[N1 (by omega)];exact ht)];exact Nf (PC _)
   have HB:M6 _:=hbr;clear hall hbr pa;go_wp2;go_ret;exact⟨by rw[HE.out];rfl,HB.out⟩
theorem Cy(f:Fl)(n:Int)(g:Nat)(w:MO)(hc:w.cell? ⟨g,0,MH⟩=MI (MF ME n)) :
  Ni MK 161 #[dM f,Na (MI ⟨g,0,MH⟩)] w fun r w'=>r=MN (M3 (Nn (n<f.slot)))/\MQ w.heap.size w w':=by
 have hlt:g<w.heap.size:=MX w ⟨g,0,MH⟩ hc;go_enter UT,UG;go_wp2;go_ret;exact⟨rfl,ai w⟩
theorem zE(v:M7)(l:List Fl)(n:Int)(g:Nat)(w:MO)(hv:dS w v l)(hc:w.cell? ⟨g,0,MH⟩=MI (MF ME n)) :
  Ni MK 160 #[v,PB (PD 161) #[] #[Na (MI ⟨g,0,MH⟩)]] w fun r w'=>r=MN (MF ME (bz (l.findIdx (fun f=>Nn (n<f.slot))) l.length))/\MQ w.heap.size w w':=by
 obtain⟨q,hq0⟩:∃q:Fl->Bool,q=(fun f=>Nn (n<f.slot)):=⟨_,rfl⟩;obtain⟨a,ca,rfl,hca,hma,pa⟩:=dS.F6 hv;unfold NE at hma;have hglt:=MX w ⟨g,0,MH⟩ hc;have HQ:M6 (∀(x:Fl) (W:MO),MQ w.heap.size w W->Ni MK 161 #[dM x,Na (MI ⟨g,0,MH⟩)] W fun r w'=>r=MN (M3 (q x))/\MQ W.heap.size W w'):=by
  rw[hq0];exact fun x W hb=>Cy x n g W ((hb.cell (p:=⟨g,0,MH⟩) hglt).trans hc)
 rw[<-hq0];obtain⟨ans,hans⟩:∃ans,ans=bz (l.findIdx q) l.length:=⟨_,rfl⟩;rw[<-hans];have H:M6 _:=hans;clear hv hans hq0 hc;go_enter VD,Vv;go_wp2
 go_loopw [8] (fun i wr=>∃k:Nat,i=MF ME k/\k<=l.length/\(∀t∈l.take k,q t=Nb)/\MQ w.heap.size w wr) (fun i _=>l.length-(intOf i).toNat)
 case atStart=>exact⟨0,rfl,Nx _,by simp,MY _ _⟩
 case round =>
  obtain⟨k,rfl,hk,hall,hbr⟩:=hrel
  by_cases hlt:k<l.length
  ·obtain⟨b1,o1,rfl,hb1,c1,c2,c3,c4,c5,c6,c7⟩:=pa k hlt
   have e1:=(hbr.cell (p:=⟨b1,o1+k*7,MH⟩) hb1).trans c1;have e2:=(hbr.cell (p:=⟨b1,o1+k*7+1,MH⟩) hb1).trans c2;have e3:=(hbr.cell (p:=⟨b1,o1+k*7+2,MH⟩) hb1).trans c3;have e4:=(hbr.cell (p:=⟨b1,o1+k*7+3,MH⟩) hb1).trans c4;have e5:=(hbr.cell (p:=⟨b1,o1+k*7+4,MH⟩) hb1).trans c5;have e6:=(hbr.cell (p:=⟨b1,o1+k*7+5,MH⟩) hb1).trans c6;have e7:=(hbr.cell (p:=⟨b1,o1+k*7+6,MH⟩) hb1).trans c7;have HA:M6 (_/\_):=⟨hall,hbr⟩;have hkI:(k:Int)<(l.length:Int):=by omega
   have htk:l.take (k+1)=l.take k++[l[k]]:=M9 hlt;have hfs:q l[k]=Nw->l.findIdx q=k:=fun h=>gJ hlt hall h
   have hxk:∃x,x=l[k]:=⟨_,rfl⟩;obtain⟨x,hxk⟩:=hxk;rw[<-hxk]at e1 e2 e3 e4 e5 e6 e7 htk hfs;have HX:M6 (_/\_):=⟨htk,hfs⟩;clear hall hbr c1 c2 c3 c4 c5 c6 c7 hb1 pa htk hfs hxk;cases hd:q x
   ·go_wp2_with fail
    refine(HQ.out x _ HA.out.2).mono ?_;rw[hd];rintro r w2 ⟨rfl,hb2⟩;have H2:M6 _:=hb2;clear hb2;go_wp2
    go_roundw
    case rel =>
     refine⟨k+1,by simp,hlt,fun t ht=>?_,HA.out.2.trans (H2.out.mono HA.out.2.size)⟩;rw[HX.out.1]at ht;rcases List.mem_append.1 ht with ht|ht
     ·exact HA.out.1 t ht
     ·simp at ht
      rw[ht];exact hd
    case measure=>simp[intOf];omega
   ·go_wp2_with fail
    refine(HQ.out x _ HA.out.2).mono ?_;rw[hd];rintro r w2 ⟨rfl,hb2⟩;have HE:M6 (ans=(k:Int)):=by show ans=_;rw[H.out,HX.out.2 hd];exact Nh hlt
    have H2:M6 _:=hb2;clear hb2;go_wp2;go_ret;exact⟨by rw[HE.out];rfl,HA.out.2.trans (H2.out.mono HA.out.2.size)⟩
  ·have HE:M6 (ans = -1):=by
    show ans=_;rw[H.out,ib fun t ht=>hall t (by rw[N1 (by omega)];exact ht)];exact Nf (PC _)
   have HB:M6 _:=hbr;clear hall hbr pa;go_wp2;go_ret;exact⟨by rw[HE.out];rfl,HB.out⟩
theorem Ch(f:Fl)(n:Int)(g:Nat)(w:MO)(hc:w.cell? ⟨g,0,MH⟩=MI (MF ME n)) :
  Ni MK 195 #[dM f,Na (MI ⟨g,0,MH⟩)] w fun r w'=>r=MN (M3 (f.be == n))/\MQ w.heap.size w w':=by
 have hlt:g<w.heap.size:=MX w ⟨g,0,MH⟩ hc;go_enter Tryz.func195,Tryz.ntmps195;go_wp2;go_ret;exact⟨rfl,ai w⟩
theorem xw(v:M7)(l:List Fl)(n:Int)(g:Nat)(w:MO)(hv:dS w v l)(hc:w.cell? ⟨g,0,MH⟩=MI (MF ME n)) :
  Ni MK 160 #[v,PB (PD 195) #[] #[Na (MI ⟨g,0,MH⟩)]] w fun r w'=>r=MN (MF ME (bz (l.findIdx (fun f=>f.be == n)) l.length))/\MQ w.heap.size w w':=by
 obtain⟨q,hq0⟩:∃q:Fl->Bool,q=(fun f=>f.be == n):=⟨_,rfl⟩;obtain⟨a,ca,rfl,hca,hma,pa⟩:=dS.F6 hv;unfold NE at hma;have hglt:=MX w ⟨g,0,MH⟩ hc;have HQ:M6 (∀(x:Fl) (W:MO),MQ w.heap.size w W->Ni MK 195 #[dM x,Na (MI ⟨g,0,MH⟩)] W fun r w'=>r=MN (M3 (q x))/\MQ W.heap.size W w'):=by
  rw[hq0];exact fun x W hb=>Ch x n g W ((hb.cell (p:=⟨g,0,MH⟩) hglt).trans hc)
 rw[<-hq0];obtain⟨ans,hans⟩:∃ans,ans=bz (l.findIdx q) l.length:=⟨_,rfl⟩;rw[<-hans];have H:M6 _:=hans;clear hv hans hq0 hc;go_enter VD,Vv;go_wp2
 go_loopw [8] (fun i wr=>∃k:Nat,i=MF ME k/\k<=l.length/\(∀t∈l.take k,q t=Nb)/\MQ w.heap.size w wr) (fun i _=>l.length-(intOf i).toNat)
 case atStart=>exact⟨0,rfl,Nx _,by simp,MY _ _⟩
 case round =>
  obtain⟨k,rfl,hk,hall,hbr⟩:=hrel
  by_cases hlt:k<l.length
  ·obtain⟨b1,o1,rfl,hb1,c1,c2,c3,c4,c5,c6,c7⟩:=pa k hlt
   have e1:=(hbr.cell (p:=⟨b1,o1+k*7,MH⟩) hb1).trans c1;have e2:=(hbr.cell (p:=⟨b1,o1+k*7+1,MH⟩) hb1).trans c2;have e3:=(hbr.cell (p:=⟨b1,o1+k*7+2,MH⟩) hb1).trans c3;have e4:=(hbr.cell (p:=⟨b1,o1+k*7+3,MH⟩) hb1).trans c4;have e5:=(hbr.cell (p:=⟨b1,o1+k*7+4,MH⟩) hb1).trans c5;have e6:=(hbr.cell (p:=⟨b1,o1+k*7+5,MH⟩) hb1).trans c6;have e7:=(hbr.cell (p:=⟨b1,o1+k*7+6,MH⟩) hb1).trans c7;have HA:M6 (_/\_):=⟨hall,hbr⟩;have hkI:(k:Int)<(l.length:Int):=by omega
   have htk:l.take (k+1)=l.take k++[l[k]]:=M9 hlt;have hfs:q l[k]=Nw->l.findIdx q=k:=fun h=>gJ hlt hall h
   have hxk:∃x,x=l[k]:=⟨_,rfl⟩;obtain⟨x,hxk⟩:=hxk;rw[<-hxk]at e1 e2 e3 e4 e5 e6 e7 htk hfs;have HX:M6 (_/\_):=⟨htk,hfs⟩;clear hall hbr c1 c2 c3 c4 c5 c6 c7 hb1 pa htk hfs hxk;cases hd:q x
   ·go_wp2_with fail
    refine(HQ.out x _ HA.out.2).mono ?_;rw[hd];rintro r w2 ⟨rfl,hb2⟩;have H2:M6 _:=hb2;clear hb2;go_wp2
    go_roundw
    case rel =>
     refine⟨k+1,by simp,hlt,fun t ht=>?_,HA.out.2.trans (H2.out.mono HA.out.2.size)⟩;rw[HX.out.1]at ht;rcases List.mem_append.1 ht with ht|ht
     ·exact HA.out.1 t ht
     ·simp at ht
      rw[ht];exact hd
    case measure=>simp[intOf];omega
   ·go_wp2_with fail
    refine(HQ.out x _ HA.out.2).mono ?_;rw[hd];rintro r w2 ⟨rfl,hb2⟩;have HE:M6 (ans=(k:Int)):=by show ans=_;rw[H.out,HX.out.2 hd];exact Nh hlt
    have H2:M6 _:=hb2;clear hb2;go_wp2;go_ret;exact⟨by rw[HE.out];rfl,HA.out.2.trans (H2.out.mono HA.out.2.size)⟩
  ·have HE:M6 (ans = -1):=by
    show ans=_;rw[H.out,ib fun t ht=>hall t (by rw[N1 (by omega)];exact ht)];exact Nf (PC _)
   have HB:M6 _:=hbr;clear hall hbr pa;go_wp2;go_ret;exact⟨by rw[HE.out];rfl,HB.out⟩
theorem sk(v:M7)(l:List Fl)(n:Int)(g:Nat)(w:MO)(hv:dS w v l)(hc:w.cell? ⟨g,0,MH⟩=MI (MF ME n)) :
  Ni MK 156 #[v,PB (PD 195) #[] #[Na (MI ⟨g,0,MH⟩)]] w fun r w'=>r=MN (M3 (l.any (fun f=>f.be == n)))/\MQ w.heap.size w w':=by
 rw[<-om];have HV:M6 _:=xw v l n g w hv hc;obtain⟨ix,hix⟩:∃ix,ix=bz (l.findIdx (fun f=>f.be == n)) l.length:=⟨_,rfl⟩;rw[<-hix]at HV⊢;clear hix hv;go_enter SN,Ss
 go_wp2_with fail
 refine Nd HV.out ?_;rintro r w1 ⟨rfl,hb⟩;have HB:M6 _:=hb;clear hb;go_wp2;go_ret;exact⟨rfl,HB.out⟩
theorem yH(x1 x2 x3 x4 x5 x6:Int)(n:Int)(g:Nat)(w:MO)(hc:w.cell? ⟨g,0,MH⟩=MI (MF ME n)) :
  Ni MK 179 #[dB x1 x2 x3 x4 x5 x6,Na (MI ⟨g,0,MH⟩)] w fun r w'=>r=MN (M3 (x1 == n))/\MQ w.heap.size w w':=by
 have hlt:g<w.heap.size:=MX w ⟨g,0,MH⟩ hc;go_enter UW,UI;go_wp2;go_ret;exact⟨rfl,ai w⟩
theorem uj(v:M7)(l:List FV)(n:Int)(g:Nat)(w:MO)(hv:jH w v l)(hc:w.cell? ⟨g,0,MH⟩=MI (MF ME n)) :
  Ni MK 178 #[v,PB (PD 179) #[] #[Na (MI ⟨g,0,MH⟩)]] w fun r w'=>r=MN (MF ME (bz (l.findIdx (fun x=>x.1 == n)) l.length))/\MQ w.heap.size w w':=by
 obtain⟨q,hq0⟩:∃q:FV->Bool,q=(fun x=>x.1 == n):=⟨_,rfl⟩;obtain⟨a,ca,rfl,hca,hma,pa⟩:=jH.F6 hv;unfold NE at hma;have hglt:=MX w ⟨g,0,MH⟩ hc;have HQ:M6 (∀(x1 x2 x3 x4 x5 x6:Int) (W:MO),MQ w.heap.size w W->Ni MK 179 #[dB x1 x2 x3 x4 x5 x6,Na (MI ⟨g,0,MH⟩)] W fun r w'=>r=MN (M3 (q (x1,x2,x3,x4,x5,x6)))/\MQ W.heap.size W w'):=by
  rw[hq0];exact fun x1 x2 x3 x4 x5 x6 W hb=>yH x1 x2 x3 x4 x5 x6 n g W ((hb.cell (p:=⟨g,0,MH⟩) hglt).trans hc)
 rw[<-hq0];obtain⟨ans,hans⟩:∃ans,ans=bz (l.findIdx q) l.length:=⟨_,rfl⟩;rw[<-hans];have H:M6 _:=hans;clear hv hans hq0 hc;go_enter Tryz.func178,Tryz.ntmps178;go_wp2
 go_loopw [8] (fun i wr=>∃k:Nat,i=MF ME k/\k<=l.length/\(∀t∈l.take k,q t=Nb)/\MQ w.heap.size w wr) (fun i _=>l.length-(intOf i).toNat)
 case atStart=>exact⟨0,rfl,Nx _,by simp,MY _ _⟩
 case round =>
  obtain⟨k,rfl,hk,hall,hbr⟩:=hrel
  by_cases hlt:k<l.length
  ·obtain⟨b1,o1,rfl,hb1,c1,c2,c3,c4,c5,c6⟩:=pa k hlt
   have e1:=(hbr.cell (p:=⟨b1,o1+k*6,MH⟩) hb1).trans c1;have e2:=(hbr.cell (p:=⟨b1,o1+k*6+1,MH⟩) hb1).trans c2;have e3:=(hbr.cell (p:=⟨b1,o1+k*6+2,MH⟩) hb1).trans c3;have e4:=(hbr.cell (p:=⟨b1,o1+k*6+3,MH⟩) hb1).trans c4;have e5:=(hbr.cell (p:=⟨b1,o1+k*6+4,MH⟩) hb1).trans c5;have e6:=(hbr.cell (p:=⟨b1,o1+k*6+5,MH⟩) hb1).trans c6;have HA:M6 (_/\_):=⟨hall,hbr⟩;have hkI:(k:Int)<(l.length:Int):=by omega
   have htk:l.take (k+1)=l.take k++[l[k]]:=M9 hlt;have hfs:q l[k]=Nw->l.findIdx q=k:=fun h=>gJ hlt hall h
   have hxk:∃x,x=l[k]:=⟨_,rfl⟩;obtain⟨⟨x1,x2,x3,x4,x5,x6⟩,hxk⟩:=hxk;rw[<-hxk]at e1 e2 e3 e4 e5 e6 htk hfs;have HX:M6 (_/\_):=⟨htk,hfs⟩;clear hall hbr c1 c2 c3 c4 c5 c6 hb1 pa htk hfs hxk;cases hd:q (x1,x2,x3,x4,x5,x6)
   ·go_wp2_with fail
    refine(HQ.out x1 x2 x3 x4 x5 x6 _ HA.out.2).mono ?_;rw[hd];rintro r w2 ⟨rfl,hb2⟩;have H2:M6 _:=hb2;clear hb2;go_wp2
    go_roundw
    case rel =>
     refine⟨k+1,by simp,hlt,fun t ht=>?_,HA.out.2.trans (H2.out.mono HA.out.2.size)⟩;rw[HX.out.1]at ht;rcases List.mem_append.1 ht with ht|ht
     ·exact HA.out.1 t ht
     ·simp at ht
      rw[ht];exact hd
    case measure=>simp[intOf];omega
   ·go_wp2_with fail
    refine(HQ.out x1 x2 x3 x4 x5 x6 _ HA.out.2).mono ?_;rw[hd];rintro r w2 ⟨rfl,hb2⟩;have HE:M6 (ans=(k:Int)):=by show ans=_;rw[H.out,HX.out.2 hd];exact Nh hlt
    have H2:M6 _:=hb2;clear hb2;go_wp2;go_ret;exact⟨by rw[HE.out];rfl,HA.out.2.trans (H2.out.mono HA.out.2.size)⟩
  ·have HE:M6 (ans = -1):=by
    show ans=_;rw[H.out,ib fun t ht=>hall t (by rw[N1 (by omega)];exact ht)];exact Nf (PC _)
   have HB:M6 _:=hbr;clear hall hbr pa;go_wp2;go_ret;exact⟨by rw[HE.out];rfl,HB.out⟩
theorem Dt(x1:Int)(x2:Bool)(x3 x4:Int)(w:MO) :
  Ni MK 109 #[Ny #[MF ME x1,M3 x2,MF ME x3,MF ME x4]] w fun r w'=>r=MN (M3 (eu (x1,x2,x3,x4)))/\MQ w.heap.size w w':=by
 cases x2
 ·go_enter Tryz.func109,Tryz.ntmps109
  go_wp2;go_ret;exact⟨rfl,ai w⟩
 ·go_enter Tryz.func109,Tryz.ntmps109
  go_wp2;go_ret;exact⟨rfl,ai w⟩
theorem AE(v:M7)(l:List FX)(w:MO)(hv:bS w v l) :
  Ni MK 157 #[v,PB (PD 109) #[] #[]] w fun r w'=>r=MN (MF ME (bz (l.findIdx (eu)) l.length))/\MQ w.heap.size w w':=by
 obtain⟨q,hq0⟩:∃q:FX->Bool,q=(eu):=⟨_,rfl⟩;obtain⟨a,ca,rfl,hca,hma,pa⟩:=bS.F6 hv;unfold NE at hma;have HQ:M6 (∀(x1:Int) (x2:Bool) (x3 x4:Int) (W:MO),MQ w.heap.size w W->Ni MK 109 #[Ny #[MF ME x1,M3 x2,MF ME x3,MF ME x4]] W fun r w'=>r=MN (M3 (q (x1,x2,x3,x4)))/\MQ W.heap.size W w'):=by
  rw[hq0];exact fun x1 x2 x3 x4 W hb=>Dt x1 x2 x3 x4 W
 rw[<-hq0];obtain⟨ans,hans⟩:∃ans,ans=bz (l.findIdx q) l.length:=⟨_,rfl⟩;rw[<-hans];have H:M6 _:=hans;clear hv hans hq0;go_enter Tryz.func157,Tryz.ntmps157;go_wp2
 go_loopw [8] (fun i wr=>∃k:Nat,i=MF ME k/\k<=l.length/\(∀t∈l.take k,q t=Nb)/\MQ w.heap.size w wr) (fun i _=>l.length-(intOf i).toNat)
 case atStart=>exact⟨0,rfl,Nx _,by simp,MY _ _⟩
 case round =>
  obtain⟨k,rfl,hk,hall,hbr⟩:=hrel
  by_cases hlt:k<l.length
  ·obtain⟨b1,o1,rfl,hb1,c1,c2,c3,c4⟩:=pa k hlt
   have e1:=(hbr.cell (p:=⟨b1,o1+k*4,MH⟩) hb1).trans c1;have e2:=(hbr.cell (p:=⟨b1,o1+k*4+1,MH⟩) hb1).trans c2;have e3:=(hbr.cell (p:=⟨b1,o1+k*4+2,MH⟩) hb1).trans c3;have e4:=(hbr.cell (p:=⟨b1,o1+k*4+3,MH⟩) hb1).trans c4;have HA:M6 (_/\_):=⟨hall,hbr⟩;have hkI:(k:Int)<(l.length:Int):=by omega
   have htk:l.take (k+1)=l.take k++[l[k]]:=M9 hlt;have hfs:q l[k]=Nw->l.findIdx q=k:=fun h=>gJ hlt hall h
   have hxk:∃x,x=l[k]:=⟨_,rfl⟩;obtain⟨⟨x1,x2,x3,x4⟩,hxk⟩:=hxk;rw[<-hxk]at e1 e2 e3 e4 htk hfs;have HX:M6 (_/\_):=⟨htk,hfs⟩;clear hall hbr c1 c2 c3 c4 hb1 pa htk hfs hxk;cases hd:q (x1,x2,x3,x4)
   ·go_wp2_with fail
    refine(HQ.out x1 x2 x3 x4 _ HA.out.2).mono ?_;rw[hd];rintro r w2 ⟨rfl,hb2⟩;have H2:M6 _:=hb2;clear hb2;go_wp2
    go_roundw
    case rel =>
     refine⟨k+1,by simp,hlt,fun t ht=>?_,HA.out.2.trans (H2.out.mono HA.out.2.size)⟩;rw[HX.out.1]at ht;rcases List.mem_append.1 ht with ht|ht
     ·exact HA.out.1 t ht
     ·simp at ht
      rw[ht];exact hd
    case measure=>simp[intOf];omega
   ·go_wp2_with fail
    refine(HQ.out x1 x2 x3 x4 _ HA.out.2).mono ?_;rw[hd];rintro r w2 ⟨rfl,hb2⟩;have HE:M6 (ans=(k:Int)):=by show ans=_;rw[H.out,HX.out.2 hd];exact Nh hlt
    have H2:M6 _:=hb2;clear hb2;go_wp2;go_ret;exact⟨by rw[HE.out];rfl,HA.out.2.trans (H2.out.mono HA.out.2.size)⟩
  ·have HE:M6 (ans = -1):=by
    show ans=_;rw[H.out,ib fun t ht=>hall t (by rw[N1 (by omega)];exact ht)];exact Nf (PC _)
   have HB:M6 _:=hbr;clear hall hbr pa;go_wp2;go_ret;exact⟨by rw[HE.out];rfl,HB.out⟩
theorem yE(v:M7)(l:List FX)(w:MO)(hv:bS w v l) :
  Ni MK 108 #[v,PB (PD 109) #[] #[]] w fun r w'=>r=MN (M3 (l.any (eu)))/\MQ w.heap.size w w':=by
 rw[<-om];have HV:M6 _:=AE v l w hv;obtain⟨ix,hix⟩:∃ix,ix=bz (l.findIdx (eu)) l.length:=⟨_,rfl⟩;rw[<-hix]at HV⊢;clear hix hv;go_enter Tryz.func108,Tryz.ntmps108
 go_wp2_with fail
 refine Nd HV.out ?_;rintro r w1 ⟨rfl,hb⟩;have HB:M6 _:=hb;clear hb;go_wp2;go_ret;exact⟨rfl,HB.out⟩
abbrev AC(o:Ou):Value:=Ny #[MF ME o.kind,MF ME o.slot,MF ME o.gen,MF ME o.be,MF ME o.req,MF ME o.code,MF ME o.why]
abbrev n9(o:Ou):Obj:=MP #[MF ME o.kind,MF ME o.slot,MF ME o.gen,MF ME o.be,MF ME o.req,MF ME o.code,MF ME o.why] 65
abbrev gP(g:Nat):Value:=Na (MI ⟨g,0,MH⟩)
theorem C7:(Tryz.prog.info? 65).map (fun i=>(i.zero,i.size,i.bytes))=MI (MI (Ny #[MF ME 0,MF ME 0,MF ME 0,MF ME 0,MF ME 0,MF ME 0,MF ME 0]),7,56):=by kernel_rfl
theorem ab.GY{base:Nat}{w:MO}{g:Nat}{V:Vs}{G:Gt}(h:ab base w g V G):ab base w.drew g V G:=⟨h.box,h.rest.step (MV _) fun _ _ _=>rfl⟩
theorem ab.base{base:Nat}{w:MO}{g:Nat}{V:Vs}{G:Gt}(h:ab base w g V G):base<=w.heap.size:=PJ (Pb h.rest.low h.rest.lt)
structure am(V V':Vs)(g:Nat)(w w':MO):Prop where
 os:w'.os=w.os
 tape:w'.tape=w.tape
 output:w'.output=w.output
 size:w.heap.size<=w'.heap.size
 block:∀b,b<w.heap.size->¬V.own g b->w'.heap[b]?=w.heap[b]?
 ext:∀b,V'.own g b->V.own g b\/w.heap.size<=b
section
variable {base:Nat}{V V1 V2:Vs}{g:Nat}{w w1 w2:MO}{G:Gt}
theorem am.Gy(V:Vs)(g:Nat)(w:MO):am V V g w w:=⟨rfl,rfl,rfl,MV _,fun _ _ _=>rfl,fun _ h=>Nt h⟩
theorem am.F5(h:MQ w.heap.size w w1):am V V g w w1:=⟨h.os,h.tape,h.output,h.size,fun b hb _=>h.block b hb,fun _ h=>Nt h⟩
theorem am.F0(h:am V V1 g w w1)(k:am V1 V2 g w1 w2):am V V2 g w w2 :=
 ⟨k.os.trans h.os,k.tape.trans h.tape,k.output.trans h.output,Nm h.size k.size,fun b hb hn=>(k.block b (M8 hb h.size) fun e=>by
   rcases h.ext b e with e|e
   ·exact hn e
   ·omega).trans (h.block b hb hn),fun b e=>by
  rcases k.ext b e with e|e
  ·exact h.ext b e
  ·have:=h.size;exact NF (by omega)⟩
theorem am.below(h:am V V1 g w w1)(hb:MQ w1.heap.size w1 w2):am V V1 g w w2:=h.F0 (am.F5 hb)
theorem am.F4(h:am V V1 g w w1)(k:Nat)(v:M7):am V V1 g w (w1.setCell ⟨g,k,MH⟩ v):=
 ⟨h.os,h.tape,h.output,by simpa using h.size,fun b hb hn=>(MU w1 ⟨g,k,MH⟩ v b fun e=>hn (Nt e)).trans (h.block b hb hn),h.ext⟩
theorem am.Gp(h:am V V1 g w w1)(e:∀b,V2.own g b->V1.own g b):am V V2 g w w1:=⟨h.os,h.tape,h.output,h.size,h.block,fun b hb=>h.ext b (e b hb)⟩
theorem am.IT(h:am V V1 g w w1)(hG:ab base w g V G):MQ base w w1 :=
 ⟨h.os,h.tape,h.output,h.size,fun b hb=>h.block b (M8 hb hG.base) fun e=>by have:=(hG.rest.Ha e).1;omega⟩
theorem am.Gf(h:am V V1 g w w1){o:Obj}(hb:w.heap[b]?=MI o)(hn:¬V.own g b):w1.heap[b]?=MI o:=(h.block b (Array.getElem?_eq_some_iff.1 hb).1 hn).trans hb
theorem am.Ik(h:am V V1 g w w1)(hb:b<w.heap.size)(hn:¬V.own g b):¬V1.own g b:=fun e=>by
 rcases h.ext b e with e|e
 ·exact hn e
 ·omega
end
def ew(base:Nat)(w:MO)(g:Nat)(V:Vs)(G':Gt)(r:Ending)(w':MO):Prop :=
 r=MN (Nv #[])/\∃V',ab base w' g V' G'/\(V'.pf=V.pf/\V'.cf=V.cf/\V'.bh=V.bh)/\am V V' g w w'
def eK(base:Nat)(w:MO)(g:Nat)(V:Vs)(G':Gt)(r:Ending)(w':MO):Prop :=
 r=MN (Nv #[])/\∃V',ab base w' g V' G'/\V'.bh=V.bh/\am V V' g w w'
theorem Fy{base:Nat}{g:Nat}{V:Vs}{G:Gt}(h:ab base W g V G)(hl:G.out.length<=1000000)(o:Ou):
  ∃q c' w5,(N2 #[60,60] 60 #[MG V.po G.out.length V.co,MG (MI ⟨W.heap.size,0,MH⟩) 1 1]).run MK ((W.alloc (n9 o)).drew)=.ok (MG (MI ⟨q,0,MH⟩) (G.out.length+1) c') w5 /\
   (w5.cell? ⟨g,26,MH⟩=MI (MG V.po G.out.length V.co)/\w5.frozen? ⟨g,26,MH⟩=Nb) /\
   ab base (w5.setCell ⟨g,26,MH⟩ (MG (MI ⟨q,0,MH⟩) (G.out.length+1) c')) g {V with po:=MI ⟨q,0,MH⟩,co:=c'} (ge G o) /\
   am V {V with po:=MI ⟨q,0,MH⟩,co:=c'} g W (w5.setCell ⟨g,26,MH⟩ (MG (MI ⟨q,0,MH⟩) (G.out.length+1) c')):=by
 have hr0:=h.rest;obtain⟨q,c',w5,hr,ho,hg,hlies⟩:=rN Bq Bd (by decide) Tryz.underlying60 C7 rfl (w:=W.drew) (base:=base) h.GY.rest.out h.base 60 o #[MF ME o.kind,MF ME o.slot,MF ME o.gen,MF ME o.be,MF ME o.req,MF ME o.code,MF ME o.why] rfl (by omega) (by unfold NE;omega);have hgb:∀b,b<W.heap.size->V.po.map (·.block)≠MI b->w5.heap[b]?=W.heap[b]?:=fun b hb hne=>hg.block b hb (fun e=>hne (by rw[e,cS]))
 have hT5:=(hgb g h.lt hr0.og).trans h.box;have hp:∀b,(MI (⟨q,0,MH⟩:Oc)).map (·.block)=MI b->V.po.map (·.block)=MI b\/W.heap.size<=b:=fun b e=>by
  cases e;rcases hlies with e|e
  ·exact Nt (by rw[<-cS _ G.out.length V.co];exact e)
  ·exact NF (PJ e)
 have hlen:(G.out++[o]).length=G.out.length+1:=by simp
 have hG:=h.Jw (w':=w5) (p:=MI ⟨q,0,MH⟩) (c:=c') (m:=G.out++[o]) hg.size hgb (by rw[hlen];exact ho) hp;rw[hlen]at hG;refine⟨q,c',w5,hr,⟨by rw[MW w5 g 26 _ _ (0,0) hT5];rfl,by simp[Ng,hT5]⟩,hG,?_⟩;have hx:am V {V with po:=MI ⟨q,0,MH⟩,co:=c'} g W w5:=by
  refine⟨hg.os,hg.tape,hg.output,hg.size,fun b hb hn=>hgb b hb fun e=>hn (NF (NF (NF e))),fun b e=>?_⟩;rcases e with e|e|e|e
  ·exact Nt (Nt e)
  ·exact Nt (NF (Nt e))
  ·exact Nt (NF (NF (Nt e)))
  ·exact(hp b e).imp (fun e=>NF (NF (NF e))) id
 exact hx.F4 26 _
theorem ld{base:Nat}{w:MO}{g:Nat}{V:Vs}{G:Gt}(h:ab base w g V G)(hl:G.out.length<=1000000)(o:Ou) :
  Ni MK 123 #[gP g,AC o] w (ew base w g V (ge G o)):=by
 obtain⟨W,hW⟩:∃W,W=w.alloc (n9 o):=⟨_,rfl⟩;have hB:MQ w.heap.size w W:=by rw[hW];exact ai w
 have hR:W.heap[w.heap.size]?=MI (n9 o):=by rw[hW];exact M1 _ _
 have hG:=h.below hB;have hglt:=h.lt;have hne:g≠w.heap.size:=by omega
 have a0:W.cell? ⟨w.heap.size,0,MH⟩=MI (MF ME o.kind):=by rw[MW W _ 0 _ _ (0,0) hR];rfl
 have a1:W.cell? ⟨w.heap.size,1,MH⟩=MI (MF ME o.slot):=by rw[MW W _ 1 _ _ (0,0) hR];rfl
 have a2:W.cell? ⟨w.heap.size,2,MH⟩=MI (MF ME o.gen):=by rw[MW W _ 2 _ _ (0,0) hR];rfl
 have a3:W.cell? ⟨w.heap.size,3,MH⟩=MI (MF ME o.be):=by rw[MW W _ 3 _ _ (0,0) hR];rfl
 have a4:W.cell? ⟨w.heap.size,4,MH⟩=MI (MF ME o.req):=by rw[MW W _ 4 _ _ (0,0) hR];rfl
 have a5:W.cell? ⟨w.heap.size,5,MH⟩=MI (MF ME o.code):=by rw[MW W _ 5 _ _ (0,0) hR];rfl
 have a6:W.cell? ⟨w.heap.size,6,MH⟩=MI (MF ME o.why):=by rw[MW W _ 6 _ _ (0,0) hR];rfl
 have c26:=hG.Ip;have hgl:=hG.lt;obtain⟨q,c',w5,hr,⟨hc5,hf5⟩,hG5,hb5⟩:=Fy hG hl o;have HR:M6 (_/\_/\_):=⟨hr,hG5,(am.F5 hB).F0 hb5⟩;clear hr hG5 hb5 hG h hB hR;go_enter Uo,Uc;go_wp2;rw[<-hW];clear hW
 go_region_law (first|(refine mM (by rfl) _ _ 60 (by rfl) _ _ _ _ (by rfl) (by rfl) HR.out.1 ?_))
 all_goals
  go_wp2
  go_end0
  exact⟨rfl,_,HR.out.2.1,⟨rfl,rfl,rfl⟩,HR.out.2.2⟩
theorem mh{base:Nat}{w:MO}{g:Nat}{V:Vs}{G:Gt}(h:ab base w g V G)(hl:G.out.length<=1000000)(k c:Int) :
  Ni MK 110 #[gP g,MF ME k,MF ME c] w (ew base w g V (kY G k c)):=by
 have H:M6 _:=ld h hl ⟨k,0,0,0,0,c,0⟩;clear h hl;go_enter Tryz.func110,Tryz.ntmps110
 go_wp2_with fail
 refine Nd H.out ?_;rintro r w1 ⟨rfl,V',h1⟩;have HV:M6 _:=h1;clear h1;go_wp2
 go_end0
 exact⟨rfl,V',HV.out⟩
theorem ue{base:Nat}{w:MO}{g:Nat}{V:Vs}{G:Gt}(h:ab base w g V G)(hl:G.out.length<=1000000)(b q:Int) :
  Ni MK 125 #[gP g,MF ME b,MF ME q] w (ew base w g V (lk G b q)):=by
 have H:M6 _:=ld h hl ⟨9,0,0,b,q,0,0⟩;clear h hl;go_enter Tryz.func125,Tryz.ntmps125
 go_wp2_with fail
 refine Nd H.out ?_;rintro r w1 ⟨rfl,V',h1⟩;have HV:M6 _:=h1;clear h1;go_wp2
 go_end0
 exact⟨rfl,V',HV.out⟩
theorem kV{base:Nat}{w:MO}{g:Nat}{V:Vs}{G:Gt}(h:ab base w g V G)(hl:G.out.length<=1000000)(k:Int)(f:Fl) :
  Ni MK 115 #[gP g,MF ME k,dM f] w (ew base w g V (iA G k f)):=by
 obtain⟨W,hW⟩:∃W,W=w.alloc (MP #[MF ME f.slot,MF ME f.gen,MF ME f.key,MF ME f.be,M3 f.srv,MF ME f.ret,MF ME f.due] 99):=⟨_,rfl⟩;have hB:MQ w.heap.size w W:=by rw[hW];exact ai w
 have H:M6 (_/\_):=⟨ld (h.below hB) hl ⟨k,f.slot,f.gen,f.be,0,0,0⟩,am.F5 (V:=V) (g:=g) hB⟩;clear h hl hB;go_enter Tryz.func115,Tryz.ntmps115
 go_wp2_with fail
 rw[<-hW];refine Nd H.out.1 ?_;rintro r w1 ⟨rfl,V',h1⟩;have HV:M6 _:=h1;clear h1;go_wp2
 go_end0
 exact⟨rfl,V',HV.out.1,HV.out.2.1,H.out.2.F0 HV.out.2.2⟩
section
variable {base:Nat}{w:MO}{g:Nat}{V:Vs}{G:Gt}
theorem ab.GK(h:ab base w g V G):dS w (MG V.pf G.fls.length V.cf) G.fls:=gZ h.rest.fls
theorem ab.bf(h:ab base w g V G)(h0:0<G.fls.length):∃bf,V.pf=MI ⟨bf,0,MH⟩/\base<=bf/\bf<w.heap.size:=by
 obtain⟨g',c',he,h1,h2⟩:=h.rest.fls.form h0;have he:MG V.pf G.fls.length V.cf=MG (MI ⟨g',0,MH⟩) G.fls.length c':=he;injection he with e1 _ _;exact⟨g',e1,h.rest.fls.lt g' (by rw[cS,e1];rfl)⟩
theorem ab.Gl(h:ab base w g V G){bf:Nat}(hp:V.pf=MI ⟨bf,0,MH⟩){i:Nat}(hi:i<G.fls.length) :
  w.cell? ⟨bf,i*7,MH⟩=MI (MF ME G.fls[i].slot)/\w.cell? ⟨bf,i*7+1,MH⟩=MI (MF ME G.fls[i].gen)/\w.cell? ⟨bf,i*7+2,MH⟩=MI (MF ME G.fls[i].key)/\w.cell? ⟨bf,i*7+3,MH⟩=MI (MF ME G.fls[i].be)/\w.cell? ⟨bf,i*7+4,MH⟩=MI (M3 G.fls[i].srv)/\w.cell? ⟨bf,i*7+5,MH⟩=MI (MF ME G.fls[i].ret)/\w.cell? ⟨bf,i*7+6,MH⟩=MI (MF ME G.fls[i].due):=by
 have ho:=h.rest.fls;rw[hp]at ho;exact⟨(gC ba ho rfl hi (j:=0) (by omega)).trans rfl,(gC ba ho rfl hi (j:=1) (by omega)).trans rfl,(gC ba ho rfl hi (j:=2) (by omega)).trans rfl,(gC ba ho rfl hi (j:=3) (by omega)).trans rfl,(gC ba ho rfl hi (j:=4) (by omega)).trans rfl,(gC ba ho rfl hi (j:=5) (by omega)).trans rfl,(gC ba ho rfl hi (j:=6) (by omega)).trans rfl⟩
theorem ab.Hv(h:ab base w g V G){bf:Nat}(hp:V.pf=MI ⟨bf,0,MH⟩)(j:Nat):w.frozen? ⟨bf,j,MH⟩=false:=by
 have ho:=h.rest.fls;rw[hp]at ho;exact ho.frozenAt j
abbrev fP(bf i:Nat):Value:=Na (MI ⟨bf,i*7,MH⟩)
theorem ab.Jk(h:ab base w g V G):G.fls.length<=V.cf/\V.cf<=9223372036854775807:=by
 obtain⟨a,cap,he,h1,h2,_⟩:=h.GK.F6;injection he with e1 e2 e3;unfold NE at h2;omega
theorem nN(h:ab base w g V G){i:Nat}(hi:i<G.fls.length)(hs:fL G.fls s=i){bf:Nat}(hp:V.pf=MI ⟨bf,0,MH⟩)(hl:G.fls.length<=40):
  Ni MK 117 #[gP g,MF ME s] w fun r w'=>r=MN (fP bf i)/\MQ w.heap.size w w':=by
 obtain⟨W,hW⟩:∃W,W=w.alloc (MP #[MF ME s] 3):=⟨_,rfl⟩;have hB:MQ w.heap.size w W:=by rw[hW];exact ai w
 have hG:=h.below hB;have hc:W.cell? ⟨w.heap.size,0,MH⟩=MI (MF ME s):=by rw[hW];exact aM (M1 _ _)
 have hix:bz (G.fls.findIdx (fun f=>f.slot == s)) G.fls.length=(i:Int):=by
  have:G.fls.findIdx (fun f=>f.slot == s)=i:=hs;rw[this];exact Nh hi
 have HI:M6 _:=Cs (MG V.pf G.fls.length V.cf) G.fls s w.heap.size W hG.GK hc;rw[hix]at HI;have c18:=h.Gr;have hgl:=h.lt;rw[hp]at c18 HI;have H:M6 (_/\_):=⟨hB,hG⟩;have hiI:(i:Int)<(G.fls.length:Int):=by omega
 have hcap:=h.Jk;clear hG h hs hix hc hB;go_enter Tryz.func117,Tryz.ntmps117
 go_wp2_with fail
 rw[<-hW];refine Nd HI.out ?_;rintro r w1 ⟨rfl,hb1⟩;have d18:=(H.out.2.below hb1).Gr;rw[hp]at d18;have HB:M6 _:=H.out.1.trans (hb1.mono H.out.1.size);clear hb1 c18;go_wp2;go_ret;exact⟨by simp,HB.out⟩
theorem wJ(h:ab base w g V G)(b:Int) :
  Ni MK 149 #[gP g,MF ME b] w fun r w'=>r=MN (M3 (du G.fls b))/\MQ w.heap.size w w':=by
 obtain⟨W,hW⟩:∃W,W=w.alloc (MP #[MF ME b] 3):=⟨_,rfl⟩;have hB:MQ w.heap.size w W:=by rw[hW];exact ai w
 have hG:=h.below hB;have hc:W.cell? ⟨w.heap.size,0,MH⟩=MI (MF ME b):=by rw[hW];exact aM (M1 _ _)
 have HI:M6 _:=sk (MG V.pf G.fls.length V.cf) G.fls b w.heap.size W hG.GK hc;have c18:=h.Gr;have hgl:=h.lt;have H:M6 _:=hB;clear hG h hc hB;go_enter Ue,T4
 go_wp2_with fail
 rw[<-hW];refine Nd HI.out ?_;rintro r w1 ⟨rfl,hb1⟩;have HB:M6 _:=H.out.trans (hb1.mono H.out.size);clear hb1;go_wp2;go_ret;exact⟨rfl,HB.out⟩
theorem my{w:MO}{g:Nat}{a b c d e f a' b' c' d' e' f':M7}{T:NU}(h:w.heap[g]?=MI (MP #[a,b,c,d,e,f] T (0,0))):((((((w.setCell ⟨g,0,MH⟩ a').setCell ⟨g,1,MH⟩ b').setCell ⟨g,2,MH⟩ c').setCell ⟨g,3,MH⟩ d').setCell ⟨g,4,MH⟩ e').setCell ⟨g,5,MH⟩ f').heap[g]?=MI (MP #[a',b',c',d',e',f'] T (0,0)):=
 cP (cP (cP (cP (cP (cP h rfl) rfl) rfl) rfl) rfl) rfl
theorem l6{w:MO}{B h:Nat}{a b c d e f:M7}(H:MQ B w W)(hh:B<=h):MQ B w ((((((W.setCell ⟨h,0,MH⟩ a).setCell ⟨h,1,MH⟩ b).setCell ⟨h,2,MH⟩ c).setCell ⟨h,3,MH⟩ d).setCell ⟨h,4,MH⟩ e).setCell ⟨h,5,MH⟩ f):=
 (((((H.setCell hh _).setCell hh _).setCell hh _).setCell hh _).setCell hh _).setCell hh _
abbrev gu(x:FV):Value:=Ny #[MF ME x.1,MF ME x.2.1,MF ME x.2.2.1,MF ME x.2.2.2.1,MF ME x.2.2.2.2.1,MF ME x.2.2.2.2.2]
abbrev cE(x:FV):Obj:=MP #[MF ME x.1,MF ME x.2.1,MF ME x.2.2.1,MF ME x.2.2.2.1,MF ME x.2.2.2.2.1,MF ME x.2.2.2.2.2] 91
theorem l7{q:Nat}{x:FV}(h:W.heap[q]?=MI (cE x)):(loadVar 91 ⟨q,0,MH⟩).run MK W=.ok (gu x) W :=
 aI (cs:=[MF ME x.1,MF ME x.2.1,MF ME x.2.2.1,MF ME x.2.2.2.1,MF ME x.2.2.2.2.1,MF ME x.2.2.2.2.2]) h Tryz.underlying91 rfl (by kernel_rfl)
theorem nz{b:Int}:aq L b=L.getD (L.findIdx fun x=>x.1 == b) fE:=by
 unfold aq;rw[List.find?_eq_getElem?_findIdx];simp
theorem m6(h:ab base w g V G)(b:Int) :
  Ni MK 124 #[gP g,MF ME b] w fun r w'=>r=MN (gu (aq G.liv b))/\MQ w.heap.size w w':=by
 obtain⟨W,hW⟩:∃W,W=(w.alloc (MP #[MF ME b] 3)).alloc (cE fE):=⟨_,rfl⟩;have hx:=iF w (MP #[MF ME b] 3) (cE fE);rw[<-hW]at hx;obtain⟨hR0,hR1,hB,hsz⟩:=hx;have hG:=h.below hB;have hc:W.cell? ⟨w.heap.size,0,MH⟩=MI (MF ME b):=aM hR0;have HI:M6 _:=uj (MG V.pl G.liv.length V.cl) G.liv b w.heap.size W hG.rest.book.now.1 hc;have c19:=h.Gn;have hgl:=h.lt;have H:M6 (_/\_/\_):=⟨hB,hG,hR1⟩;clear h hc hB hG hR0 hR1
 by_cases hi:G.liv.findIdx (fun x=>x.1 == b)<G.liv.length
 ·obtain⟨i,hie⟩:∃i,i=G.liv.findIdx (fun x=>x.1 == b):=⟨_,rfl⟩
  have hix:bz (G.liv.findIdx (fun x=>x.1 == b)) G.liv.length=(i:Int):=by rw[<-hie];exact Nh (by rw[hie];exact hi)
  rw[hix]at HI;rw[<-hie]at hi;obtain⟨x,hxe⟩:∃x,x=aq G.liv b:=⟨_,rfl⟩;have hxi:x=G.liv[i]:=by rw[hxe,nz,<-hie];simp[hi]
  have hiI:(i:Int)<(G.liv.length:Int):=by omega
  rw[<-hxe];have HX:M6 (_/\_):=⟨hxi,hie⟩;clear hix hie hxe hxi;go_enter VV,VL
  go_wp2_with fail
  rw[<-hW];refine Nd HI.out ?_;rintro r w1 ⟨rfl,hb1⟩;have hG1:=H.out.2.1.below hb1;have d19:=hG1.Gn;have hR2:=af H.out.2.2 hb1;obtain⟨a,cap,he,hcap,hmax,pa⟩:=jH.F6 hG1.rest.book.now.1;injection he with e1 e2 e3;unfold NE at hmax;rw[e3]at d19;obtain⟨b1,o1,hpa,hb2,z1,z2,z3,z4,z5,z6⟩:=pa i hi;rw[e1,hpa]at d19;rw[<-HX.out.1]at z1 z2 z3 z4 z5 z6;have hlt1:w.heap.size+1<w1.heap.size:=(Array.getElem?_eq_some_iff.1 hR2).1;have f0:w1.frozen? ⟨w.heap.size+1,0,MH⟩=false:=by simp[Ng,hR2]
  have f1:w1.frozen? ⟨w.heap.size+1,1,MH⟩=false:=by simp[Ng,hR2]
  have f2:w1.frozen? ⟨w.heap.size+1,2,MH⟩=false:=by simp[Ng,hR2]
  have f3:w1.frozen? ⟨w.heap.size+1,3,MH⟩=false:=by simp[Ng,hR2]
  have f4:w1.frozen? ⟨w.heap.size+1,4,MH⟩=false:=by simp[Ng,hR2]
  have f5:w1.frozen? ⟨w.heap.size+1,5,MH⟩=false:=by simp[Ng,hR2]
  have k0:w1.cell? ⟨w.heap.size+1,0,MH⟩=MI (MF ME 0):=by rw[MW w1 _ 0 _ _ (0,0) hR2];rfl
  have k1:w1.cell? ⟨w.heap.size+1,1,MH⟩=MI (MF ME 0):=by rw[MW w1 _ 1 _ _ (0,0) hR2];rfl
  have k2:w1.cell? ⟨w.heap.size+1,2,MH⟩=MI (MF ME 0):=by rw[MW w1 _ 2 _ _ (0,0) hR2];rfl
  have k3:w1.cell? ⟨w.heap.size+1,3,MH⟩=MI (MF ME 0):=by rw[MW w1 _ 3 _ _ (0,0) hR2];rfl
  have k4:w1.cell? ⟨w.heap.size+1,4,MH⟩=MI (MF ME 0):=by rw[MW w1 _ 4 _ _ (0,0) hR2];rfl
  have k5:w1.cell? ⟨w.heap.size+1,5,MH⟩=MI (MF ME 0):=by rw[MW w1 _ 5 _ _ (0,0) hR2];rfl
  have HB:M6 (_/\_):=⟨my (a':=MF ME x.1) (b':=MF ME x.2.1) (c':=MF ME x.2.2.1) (d':=MF ME x.2.2.2.1) (e':=MF ME x.2.2.2.2.1) (f':=MF ME x.2.2.2.2.2) hR2,l6 (a:=MF ME x.1) (b:=MF ME x.2.1) (c:=MF ME x.2.2.1) (d:=MF ME x.2.2.2.1) (e:=MF ME x.2.2.2.2.1) (f:=MF ME x.2.2.2.2.2) (H.out.1.trans (hb1.mono H.out.1.size)) (Ps _)⟩;clear hb1 c19 hG1 hR2 pa e1 hpa e3;go_wp2;exact Np (ey VA rfl (l7 HB.out.1)) rfl ⟨rfl,HB.out.2⟩
 ·have hix:bz (G.liv.findIdx (fun x=>x.1 == b)) G.liv.length = -1:=Nf hi
  rw[hix]at HI;have hxe:aq G.liv b=fE:=by rw[nz];simp[hi]
  rw[hxe];clear hix hxe;go_enter VV,VL
  go_wp2_with fail
  rw[<-hW];refine Nd HI.out ?_;rintro r w1 ⟨rfl,hb1⟩;have hR2:=af H.out.2.2 hb1;have hlt1:w.heap.size+1<w1.heap.size:=(Array.getElem?_eq_some_iff.1 hR2).1;have f0:w1.frozen? ⟨w.heap.size+1,0,MH⟩=false:=by simp[Ng,hR2]
  have f1:w1.frozen? ⟨w.heap.size+1,1,MH⟩=false:=by simp[Ng,hR2]
  have f2:w1.frozen? ⟨w.heap.size+1,2,MH⟩=false:=by simp[Ng,hR2]
  have f3:w1.frozen? ⟨w.heap.size+1,3,MH⟩=false:=by simp[Ng,hR2]
  have f4:w1.frozen? ⟨w.heap.size+1,4,MH⟩=false:=by simp[Ng,hR2]
  have f5:w1.frozen? ⟨w.heap.size+1,5,MH⟩=false:=by simp[Ng,hR2]
  have k0:w1.cell? ⟨w.heap.size+1,0,MH⟩=MI (MF ME 0):=by rw[MW w1 _ 0 _ _ (0,0) hR2];rfl
  have k1:w1.cell? ⟨w.heap.size+1,1,MH⟩=MI (MF ME 0):=by rw[MW w1 _ 1 _ _ (0,0) hR2];rfl
  have k2:w1.cell? ⟨w.heap.size+1,2,MH⟩=MI (MF ME 0):=by rw[MW w1 _ 2 _ _ (0,0) hR2];rfl
  have k3:w1.cell? ⟨w.heap.size+1,3,MH⟩=MI (MF ME 0):=by rw[MW w1 _ 3 _ _ (0,0) hR2];rfl
  have k4:w1.cell? ⟨w.heap.size+1,4,MH⟩=MI (MF ME 0):=by rw[MW w1 _ 4 _ _ (0,0) hR2];rfl
  have k5:w1.cell? ⟨w.heap.size+1,5,MH⟩=MI (MF ME 0):=by rw[MW w1 _ 5 _ _ (0,0) hR2];rfl
  have HB:M6 (_/\_):=⟨my (a':=MF ME 0) (b':=MF ME 0) (c':=MF ME 0) (d':=MF ME 0) (e':=MF ME 0) (f':=MF ME 0) hR2,l6 (a:=MF ME 0) (b:=MF ME 0) (c:=MF ME 0) (d:=MF ME 0) (e:=MF ME 0) (f:=MF ME 0) (H.out.1.trans (hb1.mono H.out.1.size)) (Ps _)⟩;clear hb1 c19 hR2;go_wp2;exact Np (ey VA rfl (l7 (x:=fE) HB.out.1)) rfl ⟨rfl,HB.out.2⟩
end
section
variable {base:Nat}{w:MO}{g:Nat}{V:Vs}{G:Gt}
theorem oM{w':MO}(h:ab base w' g V G)(hb:am V V g w w'):ew base w g V G (MN (Nv #[])) w':=⟨rfl,V,h,⟨rfl,rfl,rfl⟩,hb⟩
theorem re(h:ab base w g V G)(hl:G.out.length<=1000000)(b:Int) :
  Ni MK 127 #[gP g,MF ME b] w (ew base w g V (cj G b)):=by
 obtain⟨⟨x1,x2,x3,x4,x5,x6⟩,hx⟩:∃x,x=aq G.liv b:=⟨_,rfl⟩;have HL:M6 _:=m6 h b;rw[<-hx]at HL;have hgl:=h.lt;have hout:cj G b=if x2=3/\du G.fls b=Nb then lk {G with liv:=(eL G.liv G.req b).1.1,req:=(eL G.liv G.req b).1.2} b x6 else G:=by unfold cj aA;rw[<-hx]
 obtain⟨O,hO⟩:∃O,O=cj G b:=⟨_,rfl⟩;rw[<-hO];rw[<-hO]at hout;have H:M6 (_/\_):=⟨h,hl⟩;clear h hx hO hl
 by_cases h3:x2=3
 ·subst h3
  cases hbz:du G.fls b
  ·rw[Nh ⟨rfl,hbz⟩]at hout
   have HO:M6 _:=hout;clear hout;go_enter Ug,T6
   go_wp2_with fail
   refine Nd HL.out ?_;rintro r w1 ⟨rfl,hb1⟩;have hG1:=H.out.1.below hb1;have hG2:=hG1.GW (cE (x1,3,x3,x4,x5,x6));have HB:=wJ hG2 b;rw[hbz]at HB;have HS:M6 _:=hb1.size;have H1:M6 (_/\_/\_):=⟨HB,hG2,(am.F5 (V:=V) (g:=g) hb1).below (ai w1 (o:=cE (x1,3,x3,x4,x5,x6)))⟩;clear hb1 hG1 hG2 HB
   go_wp2_with fail
   refine Nd H1.out.1 ?_;rintro r w2 ⟨rfl,hb2⟩;have hG3:=H1.out.2.1.below hb2;have hl1:w1.heap.size<w2.heap.size:=by have:=hb2.size;simp at this;omega
   have k5:w2.cell? ⟨w1.heap.size,5,MH⟩=MI (MF ME x6):=by
    rw[MW w2 _ 5 _ _ (0,0) (af (M1 w1 (cE (x1,3,x3,x4,x5,x6))) hb2)];rfl
   have c19:=hG3.Gn;have c20:=hG3.GD;have hgl2:=hG3.lt;have HF:=BK (MG V.pl G.liv.length V.cl) (MG V.pr G.req.length V.cr) G.liv G.req b w2 hG3.rest.book.now;have H2:M6 (_/\_/\_):=⟨HF,hG3,H1.out.2.2.below hb2⟩;clear hb2 hG3 HF
   go_wp2_with fail
   refine Nd H2.out.1 ?_;rintro r w3 ⟨p,c,q,m,rfl,hbk,hb3⟩;have hG4:=H2.out.2.1.Iq hb3 hbk;have e19:=(H2.out.2.1.below hb3).Gn;have e20:=(H2.out.2.1.below hb3).GD;have f19:=(H2.out.2.1.below hb3).fz 19;have f20:=(H2.out.2.1.below hb3).fz 20;have hgl3:=(H2.out.2.1.below hb3).lt;have kk:=(hb3.cell (p:=⟨w1.heap.size,5,MH⟩) hl1).trans k5;have hne:¬w1.heap.size=g:=fun e=>by have:=H.out.1.lt;have:=HS.out;omega
   have hne2:¬g=w1.heap.size:=fun e=>hne e.symm
   obtain⟨w4,hw4⟩:∃w4,w4=(w3.setCell ⟨g,19,MH⟩ (MG p (eL G.liv G.req b).1.1.length c)).setCell ⟨g,20,MH⟩ (MG q (eL G.liv G.req b).1.2.length m):=⟨_,rfl⟩;rw[<-hw4]at hG4;have kk4:w4.cell? ⟨w1.heap.size,5,MH⟩=MI (MF ME x6):=by
    rw[hw4];exact(NG (MU _ _ _ _ hne)).trans ((NG (MU _ _ _ _ hne)).trans kk)
   have hb4:am V {V with pl:=p,cl:=c,pr:=q,cr:=m} g w w4:=by
    rw[hw4];exact(((H2.out.2.2.below hb3).F4 19 _).F4 20 _).Gp fun _ h=>h
   have H3:M6 (_/\_):=⟨ue hG4 H.out.2 b x6,hb4⟩;clear hG4 hb4 hbk hb3 k5 c19 c20
   go_wp2_with fail
   rw[<-hw4]
   go_wp2_with fail
   refine Nd H3.out.1 ?_;rintro r w5 ⟨rfl,V',h5,h6,h7⟩;have H4:M6 (_/\_/\_):=⟨h5,h6,h7⟩;clear h5 h6 h7;go_wp2
   go_end0
   rw[HO.out];exact⟨rfl,V',H4.out.1,H4.out.2.1,H3.out.2.F0 H4.out.2.2⟩
  ·rw[Nf (fun hc=>by rw[hbz]at hc;cases hc.2)]at hout
   subst hout;go_enter Ug,T6
   go_wp2_with fail
   refine Nd HL.out ?_;rintro r w1 ⟨rfl,hb1⟩;have hG1:=H.out.1.below hb1;have hG2:=hG1.GW (cE (x1,3,x3,x4,x5,x6));have HB:=wJ hG2 b;rw[hbz]at HB;have H1:M6 (_/\_/\_):=⟨HB,hG2,(am.F5 (V:=V) (g:=g) hb1).below (ai w1 (o:=cE (x1,3,x3,x4,x5,x6)))⟩;clear hb1 hG1 hG2 HB
   go_wp2_with fail
   refine Nd H1.out.1 ?_;rintro r w2 ⟨rfl,hb2⟩;have H2:M6 (_/\_):=⟨H1.out.2.1.below hb2,H1.out.2.2.below hb2⟩;clear hb2;go_wp2
   go_end0
   exact oM H2.out.1 H2.out.2
 ·rw[Nf (fun hc=>h3 hc.1)]at hout
  subst hout;have hne:(x2 != 3)=true:=by simpa using h3
  go_enter Ug,T6
  go_wp2_with fail
  refine Nd HL.out ?_;rintro r w1 ⟨rfl,hb1⟩;have hG1:=H.out.1.below hb1;have H1:M6 (_/\_):=⟨hG1.GW (cE (x1,x2,x3,x4,x5,x6)),(am.F5 (V:=V) (g:=g) hb1).below (ai w1 (o:=cE (x1,x2,x3,x4,x5,x6)))⟩;clear hb1 hG1;go_wp2
  go_end0
  exact oM H1.out.1 H1.out.2
end
section
variable {base:Nat}{w:MO}{g:Nat}{V:Vs}{G:Gt}
theorem ab.Jr(h:ab base w g V G)(hT:∀t,G.tms t↔T t):ab base w g V {G with tms:=T}:=by
 obtain⟨ls,h1,h2,h3⟩:=h.rest.whl;have r:=h.rest;exact⟨h.box,r.tab,r.book,r.ring,⟨ls,h1,fun t=>(h2 t).trans (hT t),h3⟩,r.fls,r.hea,r.msl,r.hel,r.marks,r.out,r.low,r.lt,r.hg,r.fg,r.fh,r.og,r.oh,r.fo,r.blk,r.pos⟩
theorem zN(h:0<=n/\n<=1000000):(N6 ME n).wf=true:=kM (by omega) (by omega)
theorem np(h:MQ base w W)(hg:base<=g)(a b:Nat)(x y:M7):MQ base w ((W.setCell ⟨g,a,MH⟩ x).setCell ⟨g,b,MH⟩ y):=(h.setCell (p:=⟨g,a,MH⟩) hg x).setCell (p:=⟨g,b,MH⟩) hg y
abbrev nh(n:Int)(v:M7):Obj:=MP #[MF ME n,v] 52
theorem vP(h:ab base w g V G)(hs:0<=s/\s<40):
  Ni MK 163 #[gP g,MF ME s] w (ew base w g V (kU G s)):=by
 obtain⟨ls,hm,ht,hA⟩:=h.rest.whl;have c24:=h.GJ;have c25:=h.GH;have hgl:=h.lt;have HC:M6 _:=E5 (MG V.pw 25 V.cw) G.wnow s ls w h.rest.blk hA.now hm (zN (by omega));have H:M6 (_/\_/\_):=⟨h,hm,ht⟩;clear h hm ht hA hs;go_enter S2,SB
 go_wp2_with fail
 refine Nd HC.out ?_;rintro r w1 ⟨hb1,⟨hno,rfl⟩|⟨hyes,p,c,ms,rfl,hown,hgone⟩⟩
 ·have hG1:=H.out.1.below hb1
  have H1:M6 (_/\_):=⟨(hG1.GW (nh 0 (MG MH 0 0))).Jr (T:=fun t=>G.tms t/\t.2≠s) (fun t=>⟨fun h=>⟨h,hno t ((H.out.2.2 t).2 h)⟩,fun h=>h.1⟩),(am.F5 (V:=V) (g:=g) hb1).below (ai w1 (o:=nh 0 (MG MH 0 0)))⟩;clear hb1 hG1 hno;go_wp2
  go_end0
  exact oM H1.out.1 H1.out.2
 ·have hG1:=H.out.1.below hb1
  have hG2:=(H.out.1.Ih (T:=fun t=>G.tms t/\t.2≠s) hb1 hown hgone.may (fun t=>(hgone.mem t).trans (and_congr (H.out.2.2 t) Iff.rfl))).GW (nh G.wnow (MG p 25 c));have hb2:am V {V with pw:=p,cw:=c} g w ((w1.setCell ⟨g,24,MH⟩ (MF ME G.wnow)).setCell ⟨g,25,MH⟩ (MG p 25 c)):=(((am.F5 (V:=V) (g:=g) hb1).F4 24 _).F4 25 _).Gp fun _ h=>h
  have e24:=hG1.GJ;have e25:=hG1.GH;have f24:=hG1.fz 24;have f25:=hG1.fz 25;have hgl1:=hG1.lt;have hne:¬w1.heap.size=g:=fun e=>by omega
  have hne2:¬g=w1.heap.size:=fun e=>by omega
  have H1:M6 (_/\_):=⟨hG2,hb2.below (ai _ (o:=nh G.wnow (MG p 25 c)))⟩;clear hb1 hG1 hb2 hG2 hown hgone hyes;go_wp2
  go_end0
  exact⟨rfl,_,H1.out.1,⟨rfl,rfl,rfl⟩,H1.out.2⟩
theorem D6{i:Nat}(hi:i<G.fls.length)(n:Int):dU G i n={G with fls:=G.fls.set i {G.fls[i]with due:=G.now+n},tms:=fun t=>(G.tms t/\t.2≠G.fls[i].slot)\/t=(G.now+n,G.fls[i].slot)}:=by
 unfold dU;rw[bJ hi]
theorem mT(h:ab base w g V G){i:Nat}(hi:i<G.fls.length){bf:Nat}(hp:V.pf=MI ⟨bf,0,MH⟩)(hn:1<=n/\n<=500)(hs:0<=G.fls[i].slot/\G.fls[i].slot<40)(hw:G.wnow=G.now)(hnow:0<=G.now/\G.now<=1099511626776):
  Ni MK 113 #[gP g,fP bf i,MF ME n] w (ew base w g V (dU G i n)):=by
 rw[D6 hi];obtain⟨s,hse⟩:∃s,s=G.fls[i].slot:=⟨_,rfl⟩;obtain⟨q1,q2,q3,q4,q5,q6,q7⟩:=h.Gl hp hi;have c16:=h.Gm;have hgl:=h.lt;have fz:=h.Hv hp (i*7+6);have hbl:bf<w.heap.size:=MX w ⟨bf,i*7,MH⟩ q1;have hne:¬bf=g:=fun e=>h.rest.fg (by rw[hp,e];rfl)
 have hne2:¬g=bf:=fun e=>hne e.symm
 obtain⟨d,hd⟩:∃d,d=G.now+n:=⟨_,rfl⟩;have hwr:IntKind.i64.wrap (G.now+n)=d:=by rw[hd,Ow];omega
 obtain⟨y,hy⟩:∃y:Fl,y={G.fls[i]with due:=d}:=⟨_,rfl⟩;have hG1:=h.Hd hp hi (j:=6) (by omega) (MF ME d) y (by rw[hy];rfl);obtain⟨w1,hw1⟩:∃w1,w1=w.setCell ⟨bf,i*7+6,MH⟩ (MF ME d):=⟨_,rfl⟩;rw[<-hw1]at hG1;have hbw1:am V V g w w1:=by
  rw[hw1];exact⟨rfl,rfl,rfl,by simp,fun b _ hn=>MU w ⟨bf,i*7+6,MH⟩ _ b fun e=>hn (NF (NF (Nt (by rw[hp,e];rfl)))),fun _ h=>Nt h⟩
 rw[<-hse]at q1 hs⊢;have hi1:i<(G.fls.set i y).length:=by rw[NA];exact hi
 have hys:(G.fls.set i y)[i]=y:=by simp
 have hq1:=hG1.Gl hp (i:=i) hi1;simp only[hys]at hq1;obtain⟨u1,r2,r3,r4,r5,r6,r7⟩:=hq1;have hy1:y.slot=s:=by rw[hy,hse]
 have hy2:y.due=d:=by rw[hy]
 have r1:w1.cell? ⟨bf,i*7,MH⟩=MI (MF ME s):=by rw[<-hy1];exact u1
 have HD:M6 _:=vP hG1 hs;have H:M6 (_/\_/\_/\_/\_/\_/\_):=⟨hbw1,hy1,hy2,hd,hp,hs,hi⟩;have HW:M6 (_/\_/\_/\_):=⟨hw,hnow,hn,hy⟩;clear u1 h hG1 hbw1 hy1 hy2 hp hse hd hs r2 r3 r4 r5 r6 r7 hw hnow hn hy hi1 hys;go_enter SR,Sv
 go_wp2_with fail
 rw[<-hw1];clear hw1 q1 q2 q3 q4 q5 q6 q7 c16 fz hwr
 go_wp2_with fail
 refine Nd HD.out ?_;rintro r w2 ⟨rfl,V',hG2,hV,hb2⟩;obtain⟨ls,hm,ht,hA⟩:=hG2.rest.whl;have hp2:V'.pf=MI ⟨bf,0,MH⟩:=hV.1.trans H.out.2.2.2.2.1;have hi2:i<(kU {G with fls:=G.fls.set i y} s).fls.length:=by show i<(G.fls.set i y).length;rw[NA];exact H.out.2.2.2.2.2.2
 have hq2:=hG2.Gl hp2 (i:=i) hi2;have hys2:(kU {G with fls:=G.fls.set i y} s).fls[i]'hi2=y:=NW (h:=by rw[NA];exact H.out.2.2.2.2.2.2);simp only[hys2]at hq2;obtain⟨u1,t2,t3,t4,t5,t6,u7⟩:=hq2;have t1:w2.cell? ⟨bf,i*7,MH⟩=MI (MF ME s):=by rw[<-H.out.2.1];exact u1
 have t7:w2.cell? ⟨bf,i*7+6,MH⟩=MI (MF ME d):=by rw[<-H.out.2.2.1];exact u7
 have e24:w2.cell? ⟨g,24,MH⟩=MI (MF ME G.wnow):=hG2.GJ;have e25:=hG2.GH;have hgl2:=hG2.lt;have hbl2:bf<w2.heap.size:=MX w2 ⟨bf,i*7,MH⟩ t1;have hx:=HW.out;have hs:=H.out.2.2.2.2.2.1;have hd:=H.out.2.2.2.1;have hfit:cW G.wnow (d,s)=true:=(jk _ _).2 ⟨by show G.wnow<d;omega,by show d<=G.wnow+500;omega,by show d<=1099511627776;omega,hs.1,by show s<=199;omega⟩;have hnone:∀t∈ls.flatten,t.2≠s:=fun t hmem=>((ht t).1 hmem).2
 have HA:M6 (∀W,MQ w2.heap.size w2 W->Ni MK 164 #[Ny #[MF ME G.wnow,MG V'.pw 25 V'.cw],MF ME s,MF ME d] W fun r w'=>∃p c,r=MN (Nv #[Ny #[MF ME G.wnow,MG p 25 c],MF ME 0])/\w'.cell? ⟨g,24,MH⟩=MI (MF ME G.wnow)/\w'.cell? ⟨g,25,MH⟩=MI (MG V'.pw 25 V'.cw)/\w'.frozen? ⟨g,24,MH⟩=Nb/\w'.frozen? ⟨g,25,MH⟩=Nb/\g<w'.heap.size /\
   M6 (ab base ((w'.setCell ⟨g,24,MH⟩ (MF ME G.wnow)).setCell ⟨g,25,MH⟩ (MG p 25 c)) g {V' with pw:=p,cw:=c} {G with fls:=G.fls.set i y,tms:=fun t=>(G.tms t/\t.2≠s)\/t=(d,s)}/\am V' {V' with pw:=p,cw:=c} g w2 ((w'.setCell ⟨g,24,MH⟩ (MF ME G.wnow)).setCell ⟨g,25,MH⟩ (MG p 25 c)))):=by
  refine fun W hW=>(DU (MG V'.pw 25 V'.cw) G.wnow s d ls W (hG2.rest.blk.below hW) (hA.now.below hW) hm hfit hnone).mono ?_
  rintro r w' ⟨p,c,rfl,hown,hmay,hb⟩;have hb':MQ w2.heap.size w2 w':=hW.trans (hb.mono hW.size);have hG3:=hG2.below hb';have hG4:=hG2.Ih (T:=fun t=>(G.tms t/\t.2≠s)\/t=(d,s)) hb' (hown.GV hW.size) hmay (fun t=>(zt (now:=G.wnow) hm.2 (d,s) t).trans ((or_congr Iff.rfl (ht t)).trans or_comm));exact⟨p,c,rfl,hG3.GJ,hG3.GH,hG3.fz 24,hG3.fz 25,hG3.lt,hG4,(((am.F5 (V:=V') (g:=g) hb').F4 24 _).F4 25 _).Gp fun _ h=>h⟩
 have H2:M6 (_/\_):=⟨hV,hb2⟩;clear u1 u7 hG2 hA hm ht hfit hnone hx hs hd hb2 hV t2 t3 t4 t5 t6 hp2 hys2 hi2 r1 hgl hbl HD
 go_wp2_with fail
 go_region_with (first|(go_at_call 164;refine(HA.out _ (by first|exact(MY _ _).drew|exact Below.refl _ _)).mono ?_;rintro r w3 ⟨p,c,rfl,g24,g25,f24,f25,hgl3,hG3⟩))
 all_goals
  go_wp2
  go_end0
  have hy:=HW.out.2.2.2;have hd:=H.out.2.2.2.1;subst hy hd;exact⟨rfl,{V' with pw:=p,cw:=c},hG3.out.1,H2.out.1,H.out.1.F0 (H2.out.2.F0 hG3.out.2)⟩
end
theorem kt:(Tryz.prog.info? 99).map (fun i=>(i.zero,i.size,i.bytes))=MI (MI (Ny #[MF ME 0,MF ME 0,MF ME 0,MF ME 0,M3 Nb,MF ME 0,MF ME 0]),7,56):=by kernel_rfl
theorem CA(q:Oc)(c:Nat)(l:List Fl)(w:MO)(hv:dS w (MG (MI q) l.length c) l)(h0:0<l.length)(hl:l.length<=1000) :
  Ni MK 97 #[MG (MI q) l.length c] w fun r w'=>∃g c',r=MN (MG (MI ⟨g,0,MH⟩) l.length c')/\w'.ownsRow w.heap.size 99 7 (MG (MI ⟨g,0,MH⟩) l.length c') l.length (rv ap l)/\MQ w.heap.size w w':=by
 have hnil:∀W,(binOp .eql 39 (MG (MI q) l.length c) (MG MH 0 0)).run MK W=.ok (M3 Nb) W:=fun W=>by kernel_rfl
 have hown:(w.alloc (MP #[] 99)).ownsRow w.heap.size 99 7 (MG (MI ⟨w.heap.size,0,MH⟩) 0 0) 0 (rv ap []):=
  ⟨rfl,NF ⟨w.heap.size,0,#[],rfl,MV _,M1 _ _,MV _,Nx _,rfl,rfl⟩⟩
 have hrun:∃g c' w4,(N2 #[39,39] 39 #[MG (MI ⟨w.heap.size,0,MH⟩) 0 0,MG (MI q) l.length c]).run MK (w.alloc (MP #[] 99))=.ok (MG (MI ⟨g,0,MH⟩) l.length c') w4/\w4.ownsRow w.heap.size 99 7 (MG (MI ⟨g,0,MH⟩) l.length c') l.length (rv ap l)/\MQ w.heap.size w w4:=by
  obtain⟨g,c',w4,hr,ho,hg,_⟩:=pL ba jh (by decide) Qu kt rfl hown (by simp) 39 _ l (bj.below hv (ai w)) (by omega) (by omega) (by unfold NE;omega);rw[Oa]at hr ho;rw[Oz]at ho;exact⟨_,_,_,hr,ho,(ai w).trans (kN hg (by simp) (fun g e=>by cases e;exact MV _))⟩
 obtain⟨g,c',w4,hr,ho,hb4⟩:=hrun;have HQ:M6 (_/\_/\_):=⟨hr,hb4,ho⟩;clear hr hb4 ho hv hown;go_enter Tryz.func97,Tryz.ntmps97
 go_wp2_with (at_builtin;(with_reducible refine d7 rfl _ _ 39 rfl (MG (MI ⟨w.heap.size,0,MH⟩) 0 0) (MG (MI q) l.length c) (MG (MI ⟨g,0,MH⟩) l.length c') w4 ?hs ?hx ?hr ?_);(case hs=>rfl);(case hx=>rfl);(case hr=>exact HQ.out.1))
 go_wp2;go_ret;exact⟨_,_,rfl,HQ.out.2.2,HQ.out.2.1⟩
def cN(s n:Int)(f:Fl):Bool:=(f.slot == s) && (f.gen == n)
theorem pJ(f:Fl)(s n:Int)(g:Nat)(w:MO)(hc:w.cell? ⟨g,0,MH⟩=MI (MF ME s))(hd:w.cell? ⟨g,1,MH⟩=MI (MF ME n)) :
  Ni MK 213 #[dM f,Na (MI ⟨g,0,MH⟩)] w fun r w'=>r=MN (M3 (cN s n f))/\w'=w.alloc (MP #[MF ME f.slot,MF ME f.gen,MF ME f.key,MF ME f.be,M3 f.srv,MF ME f.ret,MF ME f.due] 99):=by
 have hlt:g<w.heap.size:=MX w ⟨g,0,MH⟩ hc
 by_cases e:f.slot=s/\f.gen=n
 ·obtain⟨rfl,rfl⟩:=e
  go_enter WC,Wn;go_wp2;go_ret;exact⟨by simp[cN],rfl⟩
 ·have hi:cN s n f=false:=by
   cases h:cN s n f
   ·rfl
   ·exact absurd (by simpa [cN]using h) e
  rw[hi]
  by_cases e1:f.slot=s
  ·subst e1
   have he:(f.gen == n)=false:=by rw[Oh];exact fun h=>e ⟨rfl,h⟩
   have he2:¬f.gen=n:=fun h=>e ⟨rfl,h⟩
   clear e hi;go_enter WC,Wn;go_wp2;go_ret;exact⟨rfl,rfl⟩
  ·have he:(f.slot == s)=false:=by rw[Oh];exact e1
   clear e hi;go_enter WC,Wn;go_wp2;go_ret;exact⟨rfl,rfl⟩
theorem FJ(v:M7)(l:List Fl)(s n:Int)(g:Nat)(w:MO)(hv:dS w v l)(hc:w.cell? ⟨g,0,MH⟩=MI (MF ME s))(hd:w.cell? ⟨g,1,MH⟩=MI (MF ME n)) :
  Ni MK 160 #[v,PB (PD 213) #[] #[Na (MI ⟨g,0,MH⟩)]] w fun r w'=>r=MN (MF ME (bz (l.findIdx (cN s n)) l.length))/\MQ w.heap.size w w':=by
 obtain⟨q,hq0⟩:∃q:Fl->Bool,q=(cN s n):=⟨_,rfl⟩;obtain⟨a,ca,rfl,hca,hma,pa⟩:=dS.F6 hv;unfold NE at hma;have hglt:=MX w ⟨g,0,MH⟩ hc;have HQ:M6 (∀(x:Fl) (W:MO),MQ w.heap.size w W->Ni MK 213 #[dM x,Na (MI ⟨g,0,MH⟩)] W fun r w'=>r=MN (M3 (q x))/\MQ W.heap.size W w'):=by
  rw[hq0];exact fun x W hb=>(fun H=>H.mono fun r w' h=>⟨h.1,by rw[h.2];exact ai W⟩) (pJ x s n g W ((hb.cell (p:=⟨g,0,MH⟩) hglt).trans hc) ((hb.cell (p:=⟨g,1,MH⟩) hglt).trans hd))
 rw[<-hq0];obtain⟨ans,hans⟩:∃ans,ans=bz (l.findIdx q) l.length:=⟨_,rfl⟩;rw[<-hans];have H:M6 _:=hans;clear hv hans hq0 hc hd;go_enter VD,Vv;go_wp2
 go_loopw [8] (fun i wr=>∃k:Nat,i=MF ME k/\k<=l.length/\(∀t∈l.take k,q t=Nb)/\MQ w.heap.size w wr) (fun i _=>l.length-(intOf i).toNat)
 case atStart=>exact⟨0,rfl,Nx _,by simp,MY _ _⟩
 case round =>
  obtain⟨k,rfl,hk,hall,hbr⟩:=hrel
  by_cases hlt:k<l.length
  ·obtain⟨b1,o1,rfl,hb1,c1,c2,c3,c4,c5,c6,c7⟩:=pa k hlt
   have e1:=(hbr.cell (p:=⟨b1,o1+k*7,MH⟩) hb1).trans c1;have e2:=(hbr.cell (p:=⟨b1,o1+k*7+1,MH⟩) hb1).trans c2;have e3:=(hbr.cell (p:=⟨b1,o1+k*7+2,MH⟩) hb1).trans c3;have e4:=(hbr.cell (p:=⟨b1,o1+k*7+3,MH⟩) hb1).trans c4;have e5:=(hbr.cell (p:=⟨b1,o1+k*7+4,MH⟩) hb1).trans c5;have e6:=(hbr.cell (p:=⟨b1,o1+k*7+5,MH⟩) hb1).trans c6;have e7:=(hbr.cell (p:=⟨b1,o1+k*7+6,MH⟩) hb1).trans c7;have HA:M6 (_/\_):=⟨hall,hbr⟩;have hkI:(k:Int)<(l.length:Int):=by omega
   have htk:l.take (k+1)=l.take k++[l[k]]:=M9 hlt;have hfs:q l[k]=Nw->l.findIdx q=k:=fun h=>gJ hlt hall h
   have hxk:∃x,x=l[k]:=⟨_,rfl⟩;obtain⟨x,hxk⟩:=hxk;rw[<-hxk]at e1 e2 e3 e4 e5 e6 e7 htk hfs;have HX:M6 (_/\_):=⟨htk,hfs⟩;clear hall hbr c1 c2 c3 c4 c5 c6 c7 hb1 pa htk hfs hxk;cases hd:q x
   ·go_wp2_with fail
    refine(HQ.out x _ HA.out.2).mono ?_;rw[hd];rintro r w2 ⟨rfl,hb2⟩;have H2:M6 _:=hb2;clear hb2;go_wp2
    go_roundw
    case rel =>
     refine⟨k+1,by simp,hlt,fun t ht=>?_,HA.out.2.trans (H2.out.mono HA.out.2.size)⟩;rw[HX.out.1]at ht;rcases List.mem_append.1 ht with ht|ht
     ·exact HA.out.1 t ht
     ·simp at ht
      rw[ht];exact hd
    case measure=>simp[intOf];omega
   ·go_wp2_with fail
    refine(HQ.out x _ HA.out.2).mono ?_;rw[hd];rintro r w2 ⟨rfl,hb2⟩;have HE:M6 (ans=(k:Int)):=by show ans=_;rw[H.out,HX.out.2 hd];exact Nh hlt
    have H2:M6 _:=hb2;clear hb2;go_wp2;go_ret;exact⟨by rw[HE.out];rfl,HA.out.2.trans (H2.out.mono HA.out.2.size)⟩
  ·have HE:M6 (ans = -1):=by
    show ans=_;rw[H.out,ib fun t ht=>hall t (by rw[N1 (by omega)];exact ht)];exact Nf (PC _)
   have HB:M6 _:=hbr;clear hall hbr pa;go_wp2;go_ret;exact⟨by rw[HE.out];rfl,HB.out⟩
def FW(l:List Fl)(s n:Int):List Fl:=l.filter fun f=>!cN s n f
theorem vL(l:List Fl)(t:Fl)(s n:Int):FW (l++[t]) s n=FW l s n++if cN s n t=Nw then []else [t]:=by
 unfold FW;rw[OY]
 by_cases h:cN s n t=Nw <;> simp[h]
theorem Ak(h:∀t∈l,cN s n t=Nb):FW l s n=l:=List.filter_eq_self.2 fun t ht=>by rw[h t ht];rfl
theorem xh{w:MO}{base g n size i:Nat}{e:NU}(h:w.ownsRow base e size (MG (MI ⟨g,0,MH⟩) n cap) n xs)(hi:i<=n):w.ownsRow base e size (MG (MI ⟨g,0,MH⟩) i cap) i (xs.take (i*size)):=l8 h hi
theorem EJ{base g n size:Nat}{e:NU}(vs:List M7)(o:Nat)(w:MO)(h:w.ownsRow base e size (MG (MI ⟨g,0,MH⟩) n cap) n xs)(ho:n*size<=o):(w.setCells g o vs).ownsRow base e size (MG (MI ⟨g,0,MH⟩) n cap) n xs/\w.grownBy (w.setCells g o vs) (MI g):=kj vs o w h ho
theorem CI{P:O8}(w:MO)(t e ty:NU)(zs:Array M7)(k:Nat)(hk:zs.size=k)(hk0:0<k)(h1:∀j,j<k->(zs[j]!).oneCell'=Nw)(ht:P.underlying t=MI (.slice e))(hv:∀w,(zeroValue e).run P w=.ok (Ny zs) w)(g o n c:Nat)(hn:0<n)
  (hc:∀j,j<n*k->(w.cell? ⟨g,o+j,MH⟩).isSome=Nw) (hf:∀j,j<n*k->w.frozen? ⟨g,o+j,MH⟩=Nb) :
  ∃vs,(Rs #[t] ty #[MG (MI ⟨g,o,MH⟩) n c]).run P w=.ok (Nv #[]) (w.setCells g o vs):=by
 have hl:(N5 zs n).toList.length=n*k:=by rw[Om,size_zeroCells,hk]
 have hone:∀v∈(N5 zs n).toList,v.oneCell'=true:=by
  intro v hv;simp only[N5,Array.toList_map,List.mem_map]at hv;obtain⟨i,_,rfl⟩:=hv;exact h1 (i % zs.size) (by rw[hk];exact Nat.mod_lt _ hk0)
 have hst:=run_storeCells_cells (P:=P) g o (N5 zs n).toList 0 w (by rw[hl];simpa using hc) (by rw[hl];simpa using hf) hone;simp only[Oe]at hst;refine⟨(N5 zs n).toList,?_⟩;obtain⟨m,rfl⟩:∃m,n=m+1:=⟨n-1,by omega⟩;simp[Rs,run_underlying ht,hv,Value.cells,hst]
theorem ES(W:MO):(zeroValue 99).run MK W=.ok (Ny #[MF ME 0,MF ME 0,MF ME 0,MF ME 0,M3 Nb,MF ME 0,MF ME 0]) W:=by kernel_rfl
theorem qF(h:j<l.length):l.drop j=l[j]::l.drop (j+1):=(Pp h).symm
def aH(l:List Fl)(s n:Int)(junk:List Fl)(j:Nat):List Fl:=FW (l.take j) s n++junk++l.drop j
theorem CK(hj:j<l.length)(hl:(FW (l.take j) s n).length+junk.length=j):(aH l s n junk j)[j]?=MI l[j]:=by
 unfold aH;rw[Tw (by rw[Ns];omega),Ns,hl,Nat.sub_self,qF hj];rfl
theorem FR(hj:j<=l.length)(hl:(FW (l.take j) s n).length+junk.length=j):(aH l s n junk j).length=l.length:=by
 unfold aH;rw[Ns,Ns,NJ];omega
theorem wy(hj:j<l.length)(e:cN s n l[j]=Nw):aH l s n (junk++[l[j]]) (j+1)=aH l s n junk j/\FW (l.take (j+1)) s n=FW (l.take j) s n:=by
 have h1:FW (l.take (j+1)) s n=FW (l.take j) s n:=by rw[M9 hj,vL,Nh e,OG]
 refine⟨?_,h1⟩;unfold aH;rw[h1,qF hj];simp
theorem E4{x:Fl}(hj:j<l.length)(e:¬cN s n l[j]=Nw):aH l s n (junk++[l[j]]) (j+1)=(aH l s n (x::junk) j).set (FW (l.take j) s n).length l[j]/\FW (l.take (j+1)) s n=FW (l.take j) s n++[l[j]]:=by
 have h1:FW (l.take (j+1)) s n=FW (l.take j) s n++[l[j]]:=by rw[M9 hj,vL,Nf e]
 refine⟨?_,h1⟩;unfold aH;rw[h1,qF hj];simp
theorem B2{w:MO}{base g n:Nat}(h:w.ownsRow base 99 7 (MG (MI ⟨g,0,MH⟩) n cap) n (rv ap l)){i:Nat}(hi:i<l.length)(y:Fl):
  (((((((w.setCell ⟨g,i*7,MH⟩ (MF ME y.slot)).setCell ⟨g,i*7+1,MH⟩ (MF ME y.gen)).setCell ⟨g,i*7+2,MH⟩ (MF ME y.key)).setCell ⟨g,i*7+3,MH⟩ (MF ME y.be)).setCell ⟨g,i*7+4,MH⟩ (M3 y.srv)).setCell ⟨g,i*7+5,MH⟩ (MF ME y.ret)).setCell ⟨g,i*7+6,MH⟩ (MF ME y.due)).ownsRow base 99 7 (MG (MI ⟨g,0,MH⟩) n cap) n (rv ap (l.set i y))/\w.grownBy (((((((w.setCell ⟨g,i*7,MH⟩ (MF ME y.slot)).setCell ⟨g,i*7+1,MH⟩ (MF ME y.gen)).setCell ⟨g,i*7+2,MH⟩ (MF ME y.key)).setCell ⟨g,i*7+3,MH⟩ (MF ME y.be)).setCell ⟨g,i*7+4,MH⟩ (M3 y.srv)).setCell ⟨g,i*7+5,MH⟩ (MF ME y.ret)).setCell ⟨g,i*7+6,MH⟩ (MF ME y.due)) (MI g):=by
 have s0:=h.stored (i*7) (MF ME y.slot);have s1:=s0.1.stored (i*7+1) (MF ME y.gen);have s2:=s1.1.stored (i*7+2) (MF ME y.key);have s3:=s2.1.stored (i*7+3) (MF ME y.be);have s4:=s3.1.stored (i*7+4) (M3 y.srv);have s5:=s4.1.stored (i*7+5) (MF ME y.ret);have s6:=s5.1.stored (i*7+6) (MF ME y.due);have e0:=iy ba l i 0 (MF ME y.slot) ({l[i]with slot:=y.slot}:Fl) hi (by omega) rfl;have e1:=iy ba (l.set i ({l[i]with slot:=y.slot}:Fl)) i 1 (MF ME y.gen) ({l[i]with slot:=y.slot,gen:=y.gen}:Fl) (by simpa using hi) (by omega) (by rw[NW];rfl);have e2:=iy ba (l.set i ({l[i]with slot:=y.slot,gen:=y.gen}:Fl)) i 2 (MF ME y.key) ({l[i]with slot:=y.slot,gen:=y.gen,key:=y.key}:Fl) (by simpa using hi) (by omega) (by rw[NW];rfl);have e3:=iy ba (l.set i ({l[i]with slot:=y.slot,gen:=y.gen,key:=y.key}:Fl)) i 3 (MF ME y.be) ({l[i]with slot:=y.slot,gen:=y.gen,key:=y.key,be:=y.be}:Fl) (by simpa using hi) (by omega) (by rw[NW];rfl);have e4:=iy ba (l.set i ({l[i]with slot:=y.slot,gen:=y.gen,key:=y.key,be:=y.be}:Fl)) i 4 (M3 y.srv) ({l[i]with slot:=y.slot,gen:=y.gen,key:=y.key,be:=y.be,srv:=y.srv}:Fl) (by simpa using hi) (by omega) (by rw[NW];rfl);have e5:=iy ba (l.set i ({l[i]with slot:=y.slot,gen:=y.gen,key:=y.key,be:=y.be,srv:=y.srv}:Fl)) i 5 (MF ME y.ret) ({l[i]with slot:=y.slot,gen:=y.gen,key:=y.key,be:=y.be,srv:=y.srv,ret:=y.ret}:Fl) (by simpa using hi) (by omega) (by rw[NW];rfl);have e6:=iy ba (l.set i ({l[i]with slot:=y.slot,gen:=y.gen,key:=y.key,be:=y.be,srv:=y.srv,ret:=y.ret}:Fl)) i 6 (MF ME y.due) ({l[i]with slot:=y.slot,gen:=y.gen,key:=y.key,be:=y.be,srv:=y.srv,ret:=y.ret,due:=y.due}:Fl) (by simpa using hi) (by omega) (by rw[NW];rfl);simp only[List.set_set,Oe]at e0 e1 e2 e3 e4 e5 e6;rw[e0]at s0 s1 s2 s3 s4 s5 s6;rw[e1]at s1 s2 s3 s4 s5 s6;rw[e2]at s2 s3 s4 s5 s6;rw[e3]at s3 s4 s5 s6;rw[e4]at s4 s5 s6;rw[e5]at s5 s6;rw[e6]at s6;exact⟨s6.1,(((((s0.2.trans s1.2).trans s2.2).trans s3.2).trans s4.2).trans s5.2).trans s6.2⟩
theorem yW(base g c:Nat)(l:List Fl)(s n:Int)(gid:Nat)(w:MO)(hown:w.ownsRow base 99 7 (MG (MI ⟨g,0,MH⟩) l.length c) l.length (rv ap l))(h:w.cell? ⟨gid,0,MH⟩=MI (MF ME s))(hd:w.cell? ⟨gid,1,MH⟩=MI (MF ME n))(hne:gid≠g)(hex:∃t∈l,cN s n t=Nw) :
  Ni MK 212 #[MG (MI ⟨g,0,MH⟩) l.length c,PB (PD 213) #[] #[Na (MI ⟨gid,0,MH⟩)]] w fun r w'=>r=MN (MG (MI ⟨g,0,MH⟩) (FW l s n).length c)/\w'.ownsRow base 99 7 (MG (MI ⟨g,0,MH⟩) (FW l s n).length c) (FW l s n).length (rv ap (FW l s n))/\w.grownBy w' (MI g):=by
 have hidx:=FJ _ l s n gid w (gZ hown) h hd;have hglt:=MX w ⟨gid,0,MH⟩ h;obtain⟨k,hke⟩:∃k,k=l.findIdx (cN s n):=⟨_,rfl⟩;have hk:k<l.length:=by rw[hke];obtain⟨t,ht,e⟩:=hex;exact List.findIdx_lt_length_of_exists ⟨t,ht,e⟩
 have hkid:cN s n l[k]=true:=by subst hke;exact List.findIdx_getElem (w:=hk)
 have hbef:∀t∈l.take k,cN s n t=false:=by
  intro t ht;obtain⟨j,hj,rfl⟩:=NV ht;have hj2:j<k:=by simp at hj;omega
  rw[List.getElem_take];have:=List.not_of_lt_findIdx (p:=cN s n) (xs:=l) (i:=j) (by rw[<-hke];exact hj2)
  simpa using this
 have hix:bz (l.findIdx (cN s n)) l.length=(k:Int):=by rw[<-hke];exact Nh hk
 rw[hix]at hidx;have hcap:l.length<=c/\c<=maxLen:=by
  obtain⟨_,c',he,hc,hm,_⟩:=gZ hown;cases he;exact⟨hc,hm⟩
 obtain⟨hc1,hc2⟩:=hcap;unfold NE at hc2;have hkp:FW (l.take k) s n=l.take k:=Ak hbef;have hms:=wy (junk:=[]) hk hkid;have H0:M6 (_/\_/\_/\_):=⟨hidx,hown,h,hd⟩;have H1:M6 (_/\_/\_):=⟨hkp,hms.1,hms.2⟩;have hkm:((k:Int) == -1)=false:=by
  rw[Oh];omega
 clear hidx hown h hd hex hke hix hkp hms hkid hbef;go_enter Tryz.func212,Tryz.ntmps212
 go_wp2_with fail
 refine Nd H0.out.1 ?_;rintro r w1 ⟨rfl,hb1⟩;have HB:M6 _:=hb1;clear hb1;go_wp2
 go_loopw [5,6] (fun s5 s6 wr=>∃(j:Nat) (junk:List Fl),s5=MF ME ((FW (l.take j) s n).length:Nat)/\s6=MF ME j/\j<=l.length/\(FW (l.take j) s n).length+junk.length=j/\junk≠[]/\wr.ownsRow base 99 7 (MG (MI ⟨g,0,MH⟩) l.length c) l.length (rv ap (aH l s n junk j))/\w.grownBy wr (MI g)) (fun _ s6 _=>l.length-(intOf s6).toNat)
 case atStart =>
  obtain⟨hkp,hm1,hm2⟩:=H1.out;have e0:aH l s n [l[k]] (k+1)=l:=by
   have:aH l s n ([]++[l[k]]) (k+1)=aH l s n [] k:=hm1;rw[Oz]at this;rw[this];unfold aH;rw[hkp,OG,Oo]
  have e1:(FW (l.take (k+1)) s n).length=k:=by rw[hm2,hkp,NH];omega
  refine⟨k+1,[l[k]],by rw[e1],by simp,hk,by rw[e1];rfl,by simp,?_,⟨HB.out.os,HB.out.tape,HB.out.output,HB.out.size,fun k hk _=>HB.out.block k hk⟩⟩;rw[e0];exact cq H0.out.2.1 HB.out
 case round =>
  obtain⟨j,junk,rfl,rfl,hj,hjl,hjn,hrow,hgr⟩:=hrel;have hml:=FR hj hjl;have hc3:wr.cell? ⟨gid,0,MH⟩=MI (MF ME s):=hgr.cell H0.out.2.2.1 (by simpa using hne);have hd3:wr.cell? ⟨gid,1,MH⟩=MI (MF ME n):=hgr.cell H0.out.2.2.2 (by simpa using hne);obtain⟨x,junk',rfl⟩:∃x junk',junk=x::junk':=by
   cases junk with
   |nil=>exact absurd rfl hjn
   |cons x r=>exact⟨x,r,rfl⟩
  rw[Ox]at hjl;have hglt2:gid<wr.heap.size:=M8 hglt hgr.size;have hrl:=(hrow.lt g rfl).2;generalize hi:(FW (l.take j) s n).length=i at *
  by_cases hlt:j<l.length
  ·have hat:=CK (s:=s) (n:=n) (junk:=x::junk') hlt (by rw[hi,Ox];omega)
   obtain⟨hj',hat'⟩:=List.getElem?_eq_some_iff.1 hat
   have hi':i<(aH l s n (x::junk') j).length:=by omega
   have f0:=(hrow.cellAt (j*7) (by omega)).trans ((dF ba (aH l s n (x::junk') j) j 0 hj' (by omega)).trans (show(ap ((aH l s n (x::junk') j)[j]'hj'))[0]?=MI (MF ME l[j].slot)by rw[hat'];rfl));have f1:=(hrow.cellAt (j*7+1) (by omega)).trans ((dF ba (aH l s n (x::junk') j) j 1 hj' (by omega)).trans (show(ap ((aH l s n (x::junk') j)[j]'hj'))[1]?=MI (MF ME l[j].gen)by rw[hat'];rfl));have f2:=(hrow.cellAt (j*7+2) (by omega)).trans ((dF ba (aH l s n (x::junk') j) j 2 hj' (by omega)).trans (show(ap ((aH l s n (x::junk') j)[j]'hj'))[2]?=MI (MF ME l[j].key)by rw[hat'];rfl));have f3:=(hrow.cellAt (j*7+3) (by omega)).trans ((dF ba (aH l s n (x::junk') j) j 3 hj' (by omega)).trans (show(ap ((aH l s n (x::junk') j)[j]'hj'))[3]?=MI (MF ME l[j].be)by rw[hat'];rfl));have f4:=(hrow.cellAt (j*7+4) (by omega)).trans ((dF ba (aH l s n (x::junk') j) j 4 hj' (by omega)).trans (show(ap ((aH l s n (x::junk') j)[j]'hj'))[4]?=MI (M3 l[j].srv)by rw[hat'];rfl));have f5:=(hrow.cellAt (j*7+5) (by omega)).trans ((dF ba (aH l s n (x::junk') j) j 5 hj' (by omega)).trans (show(ap ((aH l s n (x::junk') j)[j]'hj'))[5]?=MI (MF ME l[j].ret)by rw[hat'];rfl));have f6:=(hrow.cellAt (j*7+6) (by omega)).trans ((dF ba (aH l s n (x::junk') j) j 6 hj' (by omega)).trans (show(ap ((aH l s n (x::junk') j)[j]'hj'))[6]?=MI (MF ME l[j].due)by rw[hat'];rfl));have g0:=(hrow.cellAt (i*7) (by omega)).trans ((dF ba (aH l s n (x::junk') j) i 0 hi' (by omega)).trans (show(ap ((aH l s n (x::junk') j)[i]'hi'))[0]?=MI (MF ME ((aH l s n (x::junk') j)[i]'hi').slot)from rfl));have z0:=hrow.frozenAt (i*7);have g1:=(hrow.cellAt (i*7+1) (by omega)).trans ((dF ba (aH l s n (x::junk') j) i 1 hi' (by omega)).trans (show(ap ((aH l s n (x::junk') j)[i]'hi'))[1]?=MI (MF ME ((aH l s n (x::junk') j)[i]'hi').gen)from rfl));have z1:=hrow.frozenAt (i*7+1);have g2:=(hrow.cellAt (i*7+2) (by omega)).trans ((dF ba (aH l s n (x::junk') j) i 2 hi' (by omega)).trans (show(ap ((aH l s n (x::junk') j)[i]'hi'))[2]?=MI (MF ME ((aH l s n (x::junk') j)[i]'hi').key)from rfl));have z2:=hrow.frozenAt (i*7+2);have g3:=(hrow.cellAt (i*7+3) (by omega)).trans ((dF ba (aH l s n (x::junk') j) i 3 hi' (by omega)).trans (show(ap ((aH l s n (x::junk') j)[i]'hi'))[3]?=MI (MF ME ((aH l s n (x::junk') j)[i]'hi').be)from rfl));have z3:=hrow.frozenAt (i*7+3);have g4:=(hrow.cellAt (i*7+4) (by omega)).trans ((dF ba (aH l s n (x::junk') j) i 4 hi' (by omega)).trans (show(ap ((aH l s n (x::junk') j)[i]'hi'))[4]?=MI (M3 ((aH l s n (x::junk') j)[i]'hi').srv)from rfl));have z4:=hrow.frozenAt (i*7+4);have g5:=(hrow.cellAt (i*7+5) (by omega)).trans ((dF ba (aH l s n (x::junk') j) i 5 hi' (by omega)).trans (show(ap ((aH l s n (x::junk') j)[i]'hi'))[5]?=MI (MF ME ((aH l s n (x::junk') j)[i]'hi').ret)from rfl));have z5:=hrow.frozenAt (i*7+5);have g6:=(hrow.cellAt (i*7+6) (by omega)).trans ((dF ba (aH l s n (x::junk') j) i 6 hi' (by omega)).trans (show(ap ((aH l s n (x::junk') j)[i]'hi'))[6]?=MI (MF ME ((aH l s n (x::junk') j)[i]'hi').due)from rfl));have z6:=hrow.frozenAt (i*7+6);obtain⟨y,hy⟩:∃y,y=l[j]:=⟨_,rfl⟩;rw[<-hy]at f0 f1 f2 f3 f4 f5 f6;generalize ((aH l s n (x::junk') j)[i]'hi')=od at g0 g1 g2 g3 g4 g5 g6;have hst:=B2 hrow hi' y;have HR:M6 (_/\_/\_/\_/\_):=⟨hst,hrow,hgr,hy,hi⟩;have hjI:(j:Int)<(l.length:Int):=by omega
   have hiI:(i:Int)<(l.length:Int):=by omega
   have hilj:i<j:=by omega
   have hil:i<l.length:=by omega
   have hlo:wr.heap.size≠gid:=by omega
   have HCC:M6 (_/\_):=⟨(NG (a:=⟨gid,0,MH⟩) (Ov wr (MP #[MF ME y.slot,MF ME y.gen,MF ME y.key,MF ME y.be,M3 y.srv,MF ME y.ret,MF ME y.due] 99) gid hglt2)).trans hc3,(NG (a:=⟨gid,1,MH⟩) (Ov wr (MP #[MF ME y.slot,MF ME y.gen,MF ME y.key,MF ME y.be,M3 y.srv,MF ME y.ret,MF ME y.due] 99) gid hglt2)).trans hd3⟩;clear hrow hgr hc3 hd3 hat hat' hy hj' hi' hi hjn hst hml;cases hd:cN s n y
   ·go_wp2_with fail
    refine(pJ y s n gid _ HCC.out.1 HCC.out.2).mono ?_;rw[hd];rintro r w2 ⟨rfl,rfl⟩;go_wp2
    go_roundw
    case rel =>
     obtain⟨hst,hrow,hgr,hlj,hi⟩:=HR.out;have hne2:¬cN s n l[j]=true:=by rw[<-hlj,hd];decide
     obtain⟨m1,m2⟩:=E4 (x:=x) (junk:=junk') hlt hne2;rw[hi,<-hlj]at m1;refine⟨j+1,junk'++[l[j]],by rw[m2,Ns,hi];simp,by simp,hlt,by rw[m2,Ns,hi];simp;omega,by simp,?_,?_⟩
     ·rw[<-hlj,m1];exact(hst.1.alloc _).alloc _
     ·exact((hgr.trans hst.2).trans (OL _ _ _)).trans (OL _ _ _)
    case measure=>simp[intOf];omega
   ·go_wp2_with fail
    refine(pJ y s n gid _ HCC.out.1 HCC.out.2).mono ?_;rw[hd];rintro r w2 ⟨rfl,rfl⟩;go_wp2
    go_roundw
    case rel =>
     obtain⟨hst,hrow,hgr,hlj,hi⟩:=HR.out;have he2:cN s n l[j]=true:=by rw[<-hlj];exact hd
     obtain⟨m1,m2⟩:=wy (junk:=x::junk') hlt he2;refine⟨j+1,x::junk'++[l[j]],by rw[m2,hi],by simp,hlt,by rw[m2,hi];simp;omega,by simp,?_,?_⟩
     ·rw[m1];exact(hrow.alloc _).alloc _
     ·exact(hgr.trans (OL _ _ _)).trans (OL _ _ _)
    case measure=>simp[intOf];omega
  ·obtain rfl:j=l.length:=by omega
   have hii:i<l.length:=by omega
   obtain⟨vs,hcl⟩:=CI (P:=MK) wr 39 99 0 #[MF ME 0,MF ME 0,MF ME 0,MF ME 0,M3 Nb,MF ME 0,MF ME 0] 7 rfl (by decide) (by decide) Qu ES g (i*7) (l.length-i) (c-i) (by omega) (fun t ht=>by
    have h1:=hrow.cellAt (i*7+t) (by omega);rw[h1,MR (by rw[gS ba,hml];omega)];rfl) (fun t _=>hrow.frozenAt _)
   have hcut:=EJ vs (i*7) wr (xh hrow (i:=i) (by omega)) (MV _);have e1:(rv ap (aH l s n (x::junk') l.length)).take (i*7)=rv ap (FW l s n):=by
    have e2:FW (l.take l.length) s n=FW l s n:=by rw[NT]
    rw[e2]at hi;rw[oF ba];unfold aH;rw[e2,OC,ZqA (by omega),<-hi,NT]
   rw[e1]at hcut;have hik:(FW l s n).length=i:=by rw[<-hi,NT]
   have HR:M6 (_/\_/\_):=⟨hcut,hgr,hik⟩;have hiI:(i:Int)<(l.length:Int):=by omega
   have hiI2:(i:Int)<=(c:Int):=by omega
   have hcne:c≠i:=by omega
   clear hcut hgr hrow hi e1 hik hc3 hd3;go_wp2;go_ret;obtain⟨r1,r2,r3⟩:=HR.out;rw[r3];exact⟨rfl,r1.1,r2.trans r1.2⟩
section
variable {base:Nat}{w:MO}{g:Nat}{V:Vs}{G:Gt}
theorem vW(h:ab base w g V G)(hf:f∈G.fls)(hl:G.fls.length<=40):
  Ni MK 169 #[gP g,Ny #[MF ME f.slot,MF ME f.gen]] w fun r w'=>∃q c,r=MN (MG (MI ⟨q,0,MH⟩) (bO G.fls f.slot f.gen).length c)/\w'.ownsRow w.heap.size 99 7 (MG (MI ⟨q,0,MH⟩) (bO G.fls f.slot f.gen).length c) (bO G.fls f.slot f.gen).length (rv ap (bO G.fls f.slot f.gen))/\MQ w.heap.size w w':=by
 have h0:0<G.fls.length:=Qj hf;obtain⟨bf,hp,_,hbl⟩:=h.bf h0;obtain⟨W,hW⟩:∃W,W=w.alloc (MP #[MF ME f.slot,MF ME f.gen] 97):=⟨_,rfl⟩;have hB:MQ w.heap.size w W:=by rw[hW];exact ai w
 have hR:W.heap[w.heap.size]?=MI (MP #[MF ME f.slot,MF ME f.gen] 97 (0,0)):=by rw[hW];exact M1 _ _
 have hWs:W.heap.size=w.heap.size+1:=by rw[hW];simp
 have hG:=h.below hB;have hfa:=hG.GK;have c18:=h.Gr;rw[hp]at hfa c18;have hgl:=h.lt;have HC:M6 _:=CA ⟨bf,0,MH⟩ V.cf G.fls W hfa h0 (by omega);have hex:∃t∈G.fls,cN f.slot f.gen t=true:=⟨f,hf,by simp[cN]⟩;have H:M6 (_/\_/\_/\_):=⟨hB,hR,hex,hWs⟩;clear h hG hfa hf hB hR hex hWs;go_enter UM,UA
 go_wp2_with fail
 rw[<-hW];refine Nd HC.out ?_;rintro r w1 ⟨q,c,rfl,ho,hb1⟩;have hR1:=af H.out.2.1 hb1;obtain⟨d0,d1,_,_,dlt⟩:=au hR1;have hqb:=(ho.lt q rfl).1;have hws:=H.out.2.2.2;have hwl:=H.out.1;have HD:M6 (_/\_/\_):=⟨yW W.heap.size q c G.fls f.slot f.gen w.heap.size w1 ho d0 d1 (by omega) H.out.2.2.1,hwl.trans (hb1.mono hwl.size),(by omega:w.heap.size<=q)⟩;clear ho hb1 hR1 d0 d1 dlt hqb hws hwl
 go_wp2_with fail
 refine Nd HD.out.1 ?_;rintro r w2 ⟨rfl,ho2,hg2⟩;have H2:M6 (_/\_):=⟨ho2.mono (by rw[H.out.2.2.2];exact Ps _),HD.out.2.1.grown hg2 HD.out.2.1.size (fun k hk=>by rw[<-NC hk];exact HD.out.2.2)⟩;clear ho2 hg2;go_wp2;go_ret;exact⟨q,c,rfl,H2.out.1,H2.out.2⟩
end
section
variable {base:Nat}{w:MO}{g:Nat}{V:Vs}{G:Gt}
abbrev n8(f:Fl):Obj:=MP #[MF ME f.slot,MF ME f.gen,MF ME f.key,MF ME f.be,M3 f.srv,MF ME f.ret,MF ME f.due] 99
theorem kg{q:Nat}(h:W.heap[q]?=MI (n8 f)):W.cell? ⟨q,0,MH⟩=MI (MF ME f.slot)/\W.cell? ⟨q,1,MH⟩=MI (MF ME f.gen)/\W.cell? ⟨q,2,MH⟩=MI (MF ME f.key)/\W.cell? ⟨q,3,MH⟩=MI (MF ME f.be)/\W.cell? ⟨q,4,MH⟩=MI (M3 f.srv)/\W.cell? ⟨q,5,MH⟩=MI (MF ME f.ret)/\W.cell? ⟨q,6,MH⟩=MI (MF ME f.due)/\q<W.heap.size :=
 ⟨by rw[MW W _ 0 _ _ (0,0) h];rfl,by rw[MW W _ 1 _ _ (0,0) h];rfl,by rw[MW W _ 2 _ _ (0,0) h];rfl,by rw[MW W _ 3 _ _ (0,0) h];rfl,by rw[MW W _ 4 _ _ (0,0) h];rfl,by rw[MW W _ 5 _ _ (0,0) h];rfl,by rw[MW W _ 6 _ _ (0,0) h];rfl,(Array.getElem?_eq_some_iff.1 h).1⟩
theorem kz(h:ab base w g V G)(hbs:Bs G)(hf:f∈G.fls)(hl:G.out.length<=900000)(kind why:Int):
  Ni MK 118 #[gP g,dM f,MF ME kind,MF ME why] w (eK base w g V (dn G f kind why)):=by
 have hbd:=(hbs.F9 hf).1;have hfl:=hbs.Gb;obtain⟨m,hm⟩:∃m,m=(ed G.tab f.slot f.gen).1:=⟨_,rfl⟩;have hme:(ed G.tab f.slot f.gen).2=0:=by rw[hbs.Hj hf]
 obtain⟨W,hW⟩:∃W,W=w.alloc (n8 f):=⟨_,rfl⟩;have hB:MQ w.heap.size w W:=by rw[hW];exact ai w
 have hR:W.heap[w.heap.size]?=MI (n8 f):=by rw[hW];exact M1 _ _
 have hG:=h.below hB;have hno:¬V.own g w.heap.size:=h.rest.new (MV _);have hwl:w.heap.size<W.heap.size:=(Array.getElem?_eq_some_iff.1 hR).1;have hgl:=h.lt;have hne:¬g=w.heap.size:=by omega
 have hne2:¬w.heap.size=g:=by omega
 obtain⟨x0,x1,x2,x3,x4,x5,x6,_⟩:=kg hR;have c17:=hG.Gs;have hgW:=hG.lt;have HD:M6 (∀W',MQ W.heap.size W W'->Ni MK 168 #[Ny #[MG V.pt G.tab.length V.ct],Ny #[MF ME f.slot,MF ME f.gen]] W' fun r w'=>∃p c,r=MN (Nv #[Ny #[MG p m.length c],MF ME 0])/\w'.cell? ⟨g,17,MH⟩=MI (MG V.pt G.tab.length V.ct)/\w'.frozen? ⟨g,17,MH⟩=Nb/\g<w'.heap.size/\(w'.cell? ⟨w.heap.size,0,MH⟩=MI (MF ME f.slot)/\w'.cell? ⟨w.heap.size,1,MH⟩=MI (MF ME f.gen)) /\
   M6 (ab base (w'.setCell ⟨g,17,MH⟩ (MG p m.length c)) g {V with pt:=p,ct:=c} {G with tab:=m}/\am V {V with pt:=p,ct:=c} g W (w'.setCell ⟨g,17,MH⟩ (MG p m.length c)))):=by
  refine fun W' hW'=>(Ck (MG V.pt G.tab.length V.ct) G.tab f.slot f.gen W' (hG.rest.tab.now.below hW')).mono ?_
  rw[<-hm,hme];rintro r w' ⟨p,c,rfl,ho,hb⟩;have hb':MQ W.heap.size W w':=hW'.trans (hb.mono hW'.size);have hG3:=hG.below hb';have hx:=kg (af hR hb');exact⟨p,c,rfl,hG3.Gs,hG3.fz 17,hG3.lt,⟨hx.1,hx.2.1⟩,hG.Ix hb' (ho.mono hW'.size),((am.F5 (V:=V) (g:=g) hb').F4 17 _).Gp fun _ h=>h⟩
 have H:M6 (_/\_/\_/\_/\_/\_/\_):=⟨h,hB,hR,hno,hf,hm,hl⟩;have HX:M6 (_/\_):=⟨hbd,hfl⟩;clear h hbs hf hbd hfl hl hm hme hB hR hG hno x2 x3 x4 x5 x6;go_enter Tryz.func118,Tryz.ntmps118
 go_wp2_with fail
 rw[<-hW];clear hW
 go_region_with (first|(go_at_call 168;refine(HD.out _ (by first|exact(MY _ _).drew|exact Below.refl _ _)).mono ?_;rintro r w3 ⟨p,c,rfl,g17,f17,hgl3,⟨y0,y1⟩,hG3⟩))
 all_goals
  obtain⟨w4,hw4⟩:∃w4,w4=w3.setCell ⟨g,17,MH⟩ (MG p m.length c):=⟨_,rfl⟩;have hG4:=hG3.out.1;have hF4:=hG3.out.2;rw[<-hw4]at hG4 hF4;have hR4:=hF4.Gf H.out.2.2.1 H.out.2.2.2.1;have hn4:¬Vs.own {V with pt:=p,ct:=c} g w.heap.size:=H.out.2.2.2.1;have HWo:=vW hG4 (f:=f) H.out.2.2.2.2.1 HX.out.2;obtain⟨z0,z1,z2,z3,_,_,_,zlt⟩:=kg hR4;have H4:M6 (_/\_/\_/\_/\_):=⟨HWo,hG4,(am.F5 (V:=V) (g:=g) H.out.2.1).F0 hF4,hR4,hn4⟩;clear hG3 hG4 hF4 hR4 HWo g17 f17 hgl3 y0 y1 x0 x1 c17 hgW hwl hn4;rw[<-hw4];clear hw4
  go_wp2_with fail
  refine Nd H4.out.1 ?_;rintro r w5 ⟨q,c5,rfl,ho5,hb5⟩;have hG5:=H4.out.2.1.below hb5;have e18:=hG5.Gr;have f18:=hG5.fz 18;have hgl5:=hG5.lt;obtain⟨w6,hw6⟩:∃w6,w6=w5.setCell ⟨g,18,MH⟩ (MG (MI ⟨q,0,MH⟩) (bO G.fls f.slot f.gen).length c5):=⟨_,rfl⟩;have hq5:=(ho5.lt q rfl).1;have hG6:=H4.out.2.1.IU (p:=MI ⟨q,0,MH⟩) (c:=c5) (m:=bO G.fls f.slot f.gen) hb5.size (fun b hb _=>hb5.block b hb) (ho5.mono H4.out.2.1.base) (fun b e=>by cases e;exact NF hq5);rw[<-hw6]at hG6;have hF6:am {V with pt:=p,ct:=c} {V with pt:=p,ct:=c,pf:=MI ⟨q,0,MH⟩,cf:=c5} g w4 w6:=by
   rw[hw6];have hx:am {V with pt:=p,ct:=c} {V with pt:=p,ct:=c,pf:=MI ⟨q,0,MH⟩,cf:=c5} g w4 w5:=by
    refine⟨hb5.os,hb5.tape,hb5.output,hb5.size,fun b hb _=>hb5.block b hb,fun b e=>?_⟩;rcases e with e|e|e|e
    ·exact Nt (Nt e)
    ·exact Nt (NF (Nt e))
    ·cases e;exact NF hq5
    ·exact Nt (NF (NF (NF e)))
   exact hx.F4 18 _
  have hR6:=hF6.Gf H4.out.2.2.2.1 H4.out.2.2.2.2;have hn6:=hF6.Ik (Array.getElem?_eq_some_iff.1 H4.out.2.2.2.1).1 H4.out.2.2.2.2;obtain⟨v0,v1,v2,v3,_,_,_,vlt⟩:=kg (af H4.out.2.2.2.1 hb5);have H6:M6 (_/\_/\_/\_/\_):=⟨vP hG6 HX.out.1,H4.out.2.2.1.F0 hF6,hR6,hn6,hG6⟩;clear hG6 hF6 hR6 hn6 ho5 hb5 hG5 z0 z1 z2 z3 zlt hq5
  go_wp2_with fail
  rw[<-hw6];clear hw6 e18 f18 hgl5;refine Nd H6.out.1 ?_;rintro r w7 ⟨rfl,V7,hG7,hV7,hF7⟩;have B7:M6 (V7.bh=V.bh):=hV7.2.2;clear hV7;have hR7:=hF7.Gf H6.out.2.2.1 H6.out.2.2.2.1;have hn7:=hF7.Ik (Array.getElem?_eq_some_iff.1 H6.out.2.2.1).1 H6.out.2.2.2.1;obtain⟨k0,k1,k2,k3,_,_,_,klt⟩:=kg hR7;have hl7:(kU {G with tab:=m,fls:=bO G.fls f.slot f.gen} f.slot).out.length<=1000000:=by show G.out.length<=1000000;have:=H.out.2.2.2.2.2.2;omega
  have H7:M6 (_/\_/\_/\_/\_):=⟨ld hG7 hl7 ⟨kind,f.slot,f.gen,f.be,0,0,why⟩,H6.out.2.1.F0 hF7,hR7,hn7,hG7⟩;clear hG7 hF7 hR7 hn7 v0 v1 v2 v3 vlt hl7
  go_wp2_with fail
  refine Nd H7.out.1 ?_;rintro r w8 ⟨rfl,V8,hG8,hV8,hF8⟩;have B8:M6 (V8.bh=V.bh):=hV8.2.2.trans B7.out;clear hV8;have hR8:=hF8.Gf H7.out.2.2.1 H7.out.2.2.2.1;obtain⟨j0,j1,j2,j3,_,_,_,jlt⟩:=kg hR8;have hl8:(ge (kU {G with tab:=m,fls:=bO G.fls f.slot f.gen} f.slot) ⟨kind,f.slot,f.gen,f.be,0,0,why⟩).out.length<=1000000:=by show(G.out++[_]).length<=1000000;have:=H.out.2.2.2.2.2.2;simp;omega
  have H8:M6 (_/\_):=⟨re hG8 hl8 f.be,H7.out.2.1.F0 hF8⟩;clear hG8 hF8 hR8 k0 k1 k2 k3 klt hl8
  go_wp2_with fail
  refine Nd H8.out.1 ?_;rintro r w9 ⟨rfl,V9,hG9,hV9,hF9⟩;have H9:M6 (_/\_/\_):=⟨hG9,H8.out.2.F0 hF9,hV9.2.2.trans B8.out⟩;clear hG9 hF9 hV9;go_wp2
  go_end0
  have hm:=H.out.2.2.2.2.2.1;subst hm;exact⟨rfl,V9,H9.out.1,H9.out.2.2,H9.out.2.1⟩
end
end Go.Proofs.YtlnbhjdhcmgljaaGreatDoor.Q
