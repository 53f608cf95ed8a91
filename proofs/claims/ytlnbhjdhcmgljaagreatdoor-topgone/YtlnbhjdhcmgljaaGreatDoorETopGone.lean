/-
  TopGone: its walk. Conditions: as each theorem says.
-/
import Derived.Test.YtlnbhjdhcmgljaaGreatDoorQ20
open Bool renaming false->Nb,true->Nw
open Go renaming Addr->Oc,Calls->Ni,World->MO,cell_of_row->MW,heap_alloc_new->M1,wpList_load_mid->O3
open Go.Ending renaming returned->MN
open Go.IntKind renaming i64->ME,wrap_i64->Ow
open Go.Obj renaming cells->MP
open Go.Operand renaming tmp->O6
open Go.RowKit renaming Below->MQ,Hid->M6
open Go.RowKit.Below renaming refl->MY
open Go.Value renaming agg->Ny,bool->M3,int->MF,slice->MG
open List renaming append_assoc->OC,append_nil->OG,filter_append->OY,findIdx_getElem->XT,flatten_append->PV,getElem?_eq_getElem->MR,getElem_mem->Nk,length_append->Ns,length_map->N0,map_append->OI,map_cons->OA,mem_append_left->XY,mem_cons_of_mem->NB,mem_cons_self->NM,pairwise_map->XU,perm_middle->QC,range->Pm,take_append_drop->Oo,take_length->NT,take_of_length_le->N1,take_succ_eq_append_getElem->M9
open List.Pairwise renaming filter->XX,imp->X5
open List.Perm renaming append_left->XV,of_eq->XZ,refl->XW
open Nat renaming le_refl->MV,le_trans->Nm,lt_of_lt_of_le->M8,zero_le->Nx
open Option renaming none->MH,some->MI
open Or renaming inl->Nt,inr->NF
namespace Go.Proofs.YtlnbhjdhcmgljaaGreatDoor.Q
set_option linter.unusedVariables false
set_option linter.unusedSimpArgs false
set_option maxHeartbeats 16000000
set_option maxRecDepth 100000
open Go.RowKit
attribute [local go_sem ↓] Go.wp_at_zero Go.wp_at_succ
variable {c:Cf}{e:Ev}{G X:Gt}{L:List FV}{l:List Ou}{w:MO}{g i:Nat}{V:Pv}{P:Py}{s:Sp}
theorem Xl{b:Int}(h:∀x∈L,x.1≠b)(y:FV->FV):cU L b y=L:=by
 unfold cU
 conv=>rhs;rw[<-List.map_id L]
 exact List.map_congr_left fun x hx=>by rw[Nf (h x hx)];rfl
theorem Xm{α:Type}(k:α->Int):∀l m:List α,l.Pairwise (fun a b=>k a<k b)->m.Pairwise (fun a b=>k a<k b)->(∀x,x∈l↔x∈m)->l=m
 | [],[],_,_,_=>rfl
 | [],y::m,_,_,h=>by have:=(h y).2 (NM ..);cases this
 |x::l,[],_,_,h=>by have:=(h x).1 (NM ..);cases this
 |x::l,y::m,hl,hm,h=>by
  obtain⟨l1,l2⟩:=List.pairwise_cons.1 hl;obtain⟨m1,m2⟩:=List.pairwise_cons.1 hm;have e:x=y:=by
   rcases List.mem_cons.1 ((h x).1 (NM ..))with e|e
   ·exact e
   ·rcases List.mem_cons.1 ((h y).2 (NM ..))with e2|e2
    ·exact e2.symm
    ·have:=m1 x e;have:=l1 y e2;omega
  subst e;rw[Xm k l m l2 m2 fun z=>⟨fun hz=>?_,fun hz=>?_⟩]
  ·rcases List.mem_cons.1 ((h z).1 (NB _ hz))with e|e
   ·subst e;have:=l1 _ hz;omega
   ·exact e
  ·rcases List.mem_cons.1 ((h z).2 (NB _ hz))with e|e
   ·subst e;have:=m1 _ hz;omega
   ·exact e
section
variable {G:Gt}{c:Cf}
theorem W8(hb:bX G.liv G.req)(b:Int):(cj G b).req=G.req:=by
 unfold cj
 split
 ·rename_i h
  show(eL G.liv G.req b).1.2=G.req;rw[(vD hb h.1).1]
 ·rfl
theorem Xr(hm:Wm G)(he:fB e)(h7:e.kind=7->G.now+1<=1099511626776)(h5:e.kind≠5)(h6:e.kind≠6):(iG G e).req=G.req:=by
 have hb:=hm.im.bs;have hend:∀(X:Gt) (f:Fl) (k y:Int),Bs X->f∈X.fls->(dn X f k y).req=X.req:=fun X f k y hX hf=>W8 (G:=ge {X with tab:=(ed X.tab f.slot f.gen).1,fls:=bO X.fls f.slot f.gen,tms:=fun t=>X.tms t/\t.2≠f.slot} ⟨k,f.slot,f.gen,f.be,0,0,y⟩) hX.book _
 have hfail:∀(X:Gt) (i:Nat) (y:Int),Bs X->i<X.fls.length->(dP X i y).req=X.req:=fun X i y hX hi=>by
  have b4:=(hX.F9 (Nk hi)).2.2.2;rcases pI hX hi y with⟨z,q,hz⟩|⟨b,q,hd,hr,h2,hc,_⟩
  ·rw[q];exact hend (dg X X.fls[i].be Nw) _ _ _ (hX.GA b4 Nw) (Nk hi)
  ·obtain⟨T,e⟩:=KA (G:={dg X X.fls[i].be Nw with tok:=X.tok-X.cfg.bd}) hi b
   rw[q,e];exact W8 (G:=ge {dg X X.fls[i].be Nw with tok:=X.tok-X.cfg.bd,tab:=(db X.tab X.fls[i].slot X.fls[i].gen b).1,fls:=X.fls.set i {X.fls[i]with be:=b,ret:=X.fls[i].ret+1,due:=X.now+X.cfg.conn},tms:=T} ⟨5,X.fls[i].slot,X.fls[i].gen,b,0,0,0⟩) hX.book _
 unfold iG
 split
 ·rcases J7 hb he.key with⟨q,_⟩|⟨q,_⟩|⟨k,hlt,_,_,hc,_,_,hg,_,q⟩ <;> (rw[q];rfl)
 ·split
  ·rename_i k7
   refine KG (R:=fun X=>X.req=G.req) hm (h7 k7) ?_ (fun X f y hX hf hy hR=>(hend X f 6 y hX.bs hf).trans hR) (fun X i hX hi hv hR=>(hfail X i 5 hX.bs hi).trans hR);show(eE {G with now:=G.now+1}).req=G.req;rw[nf (hb.next (h7 k7))];exact(qH _ _).2.2.2.2.2.2.2.2.1
  ·rcases Kt hb e with⟨hc,q⟩|⟨i,hi,_,_,_,⟨_,q⟩|⟨_,q⟩|⟨_,_,⟨_,q⟩|⟨_,_,q⟩|⟨hv,_,q⟩⟩⟩
   ·rw[q];rfl
   ·rw[q];exact hend G _ _ _ hb (Nk hi)
   ·obtain⟨T,e1⟩:=Ku hi
    rw[q,e1];rfl
   ·rw[q];rfl
   ·obtain⟨T,e1⟩:=KC hi
    rw[q,e1];rfl
   ·rw[q];exact hfail G i 3 hb hi
theorem Xn(hm:Wm G)(ho:G.out=[])(he:fB e)(hk:e.kind=5\/e.kind=6):
  (∃q∈G.req,q.1=e.req/\(iG G e).req=G.req/\(iG G e).out=[⟨8,0,0,0,e.req,q.2.2.2.2,0⟩]) \/
  (G.req.length=100/\(∀q∈G.req,q.1≠e.req)/\(iG G e).req=G.req/\(iG G e).out=[⟨8,0,0,0,e.req,9,0⟩]) \/
  ((∀q∈G.req,q.1≠e.req)/\∃(q:FY) (l:List Ou),q.1=e.req/\(iG G e).req=G.req++[q]/\(iG G e).out=⟨8,0,0,0,e.req,q.2.2.2.2,0⟩::l /\
   ((e.kind=5/\q.2.2.2.2=(gE G.liv e.be e.wt).2/\(iG G e).liv=(gE G.liv e.be e.wt).1) \/
     (e.kind=6/\q.2.2.2.2=(ec G.liv e.be e.req (G.now+G.cfg.drain)).2/\(q.2.2.2.2≠0->(iG G e).liv=G.liv)))):=by
 have hb:=hm.im.bs;have hd:∀X b,∃l,(cj X b).out=X.out++l:=fun X b=>by
  unfold cj
  split
  ·exact⟨_,rfl⟩
  ·exact⟨[],by simp⟩
 rcases hk with hk|hk
 ·have e1:iG G e=fO G 1 e:=by unfold iG;rw[Nf (by omega),Nh hk]
  have e2:(fO G 1 e).out=[⟨8,0,0,0,e.req,(dJ G 1 e).2.1,0⟩]:=by show G.out++[_]=_;rw[ho];rfl
  have e3:(fO G 1 e).req=(dJ G 1 e).1.2:=rfl;rw[e1,e2,e3];have e4:(fO G 1 e).liv=(dJ G 1 e).1.1:=rfl;rw[e4];unfold dJ;rcases AA hb.book (hb.Jd (e:=e) he.req (Nt rfl:(1:Int)=1\/(1:Int)=2))with⟨hlt,q⟩|⟨h1,h2,q⟩|⟨h1,h2,q⟩
  ·refine Nt ⟨_,Nk hlt,?_,by rw[q],by rw[q,MR hlt];rfl⟩
   exact eq_of_beq (XT (w:=hlt))
  ·exact NF (Nt ⟨h2,h1,by rw[q],by rw[q]⟩)
  ·refine NF (NF ⟨h1,(e.req,1,e.be,e.wt,(gE G.liv e.be e.wt).2),[],rfl,?_,?_,Nt ⟨hk,rfl,?_⟩⟩)
   ·rw[q];unfold eA;rw[Nh rfl]
   ·rw[q];unfold eA;rw[Nh rfl]
   ·rw[q];unfold eA;rw[Nh rfl]
 ·have e1:iG G e=nC G e:=by unfold iG;rw[Nf (by omega),Nf (by omega),Nh hk]
  have e2:(fO G 2 e).out=[⟨8,0,0,0,e.req,(dJ G 2 e).2.1,0⟩]:=by show G.out++[_]=_;rw[ho];rfl
  have hcs:=AA hb.book (hb.Jd (e:=e) he.req (NF rfl:(2:Int)=1\/(2:Int)=2));have hno:(dJ G 2 e).2.2.1=Nb->iG G e=fO G 2 e:=fun h=>by
   rw[e1];unfold nC ja;rw[h,Nh (by simp)]
  rcases hcs with⟨hlt,q⟩|⟨h1,h2,q⟩|⟨h1,h2,q⟩
  ·have hq:dJ G 2 e=_:=q
   refine Nt ⟨_,Nk hlt,?_,by rw[hno (by rw[hq]),show(fO G 2 e).req=(dJ G 2 e).1.2 from rfl,hq],by rw[hno (by rw[hq]),e2,hq,MR hlt];rfl⟩;exact eq_of_beq (XT (w:=hlt))
  ·have hq:dJ G 2 e=_:=q
   exact NF (Nt ⟨h2,h1,by rw[hno (by rw[hq]),show(fO G 2 e).req=(dJ G 2 e).1.2 from rfl,hq],by rw[hno (by rw[hq]),e2,hq]⟩)
  ·have hq:dJ G 2 e=_:=q
   have hq1:(dJ G 2 e).1.2=G.req++[(e.req,2,e.be,0,(ec G.liv e.be e.req (G.now+G.cfg.drain)).2)]:=by rw[hq];unfold eA;rw[Nf (show ¬(2:Int)=1 by decide)]
   have hq2:(dJ G 2 e).2.1=(ec G.liv e.be e.req (G.now+G.cfg.drain)).2:=by rw[hq];unfold eA;rw[Nf (show ¬(2:Int)=1 by decide)]
   have hbk:=(KY hb.book (hb.Jd (e:=e) he.req (NF rfl:(2:Int)=1\/(2:Int)=2)) hb.since).2.1;have hR:(iG G e).req=(dJ G 2 e).1.2:=by
    rw[e1];unfold nC
    split
    ·rfl
    ·split
     ·rfl
     ·exact W8 (G:={fO G 2 e with wts:=G.wts.set e.be.toNat 0}) hbk _
   have hO:∃l,(iG G e).out=⟨8,0,0,0,e.req,(dJ G 2 e).2.1,0⟩::l:=by
    rw[e1];unfold nC
    split
    ·exact⟨[],e2⟩
    ·split
     ·exact⟨[⟨9,0,0,e.be,e.req,0,0⟩],by show(fO G 2 e).out++[_]=_;rw[e2];rfl⟩
     ·obtain⟨l,h3⟩:=hd {fO G 2 e with wts:=G.wts.set e.be.toNat 0} e.be
      exact⟨l,by rw[h3];show(fO G 2 e).out++_=_;rw[e2];rfl⟩
   obtain⟨l,hO⟩:=hO;rw[hq2]at hO;refine NF (NF ⟨h1,_,l,rfl,hR.trans hq1,hO,NF ⟨hk,rfl,fun hne=>?_⟩⟩);have hne:(ec G.liv e.be e.req (G.now+G.cfg.drain)).2≠0:=hne;have hy:ja G 2 e=false:=by
    unfold ja;rw[hq2];simp[hne]
   rw[e1];unfold nC;rw[Nh hy];rcases Fq hb he.req with⟨_,h3⟩|⟨h3,_⟩
   ·exact h3
   ·rw[hy]at h3;cases h3
end
section
variable {A:Gt}{c:Cf}{P:Py}
abbrev WM(e:Ev):Prop:=e.kind=5\/e.kind=6
end
def Xa(l:List Ou):List Int:=(l.filter fun o=>o.kind == 9).map fun o=>o.req
def WO(L:List FV):List Int:=(L.filter fun l=>l.2.1 == 3).map fun l=>l.2.2.2.2.2
theorem Xb(l m:List Ou):Xa (l++m)=Xa l++Xa m:=by simp[Xa]
theorem Xc{o:Ou}(h:o.kind≠9):Xa [o]=[]:=by simp[Xa,h]
theorem WP(l m:List FV):WO (l++m)=WO l++WO m:=by simp[WO]
theorem WQ(x:FV)(l:List FV):WO (x::l)=(if x.2.1=3 then [x.2.2.2.2.2]else [])++WO l:=by
 by_cases h:x.2.1=3 <;> simp[WO,h]
theorem Xk(hr:eo L){b:Int}(h:aA L b≠0):∃l m,L=l++aq L b::m/\∀y,cU L b y=l++y (aq L b)::m:=by
 obtain⟨hm,e⟩:=kQ h;obtain⟨x,hx⟩:∃x,x=aq L b:=⟨_,rfl⟩;rw[<-hx]at hm e⊢;clear hx h;obtain⟨l,m,rfl⟩:=List.append_of_mem hm;obtain⟨_,h2,h3⟩:=List.pairwise_append.1 hr;obtain⟨h4,_⟩:=List.pairwise_cons.1 h2;refine⟨l,m,rfl,fun y=>?_⟩;have e1:cU l b y=l:=Xl (fun z hz=>by have:=h3 z hz x (NM ..);omega) y;have e2:cU m b y=m:=Xl (fun z hz=>by have:=h4 z hz;omega) y;unfold cU at e1 e2⊢;rw[OI,OA,e1,e2,Nh e]
theorem WR(hr:eo L){b:Int}(h3:aA L b=3):((aq L b).2.2.2.2.2::WO (cU L b dC)).Perm (WO L):=by
 obtain⟨l,m,e1,e2⟩:=Xk hr (b:=b) (by omega);obtain⟨x,hx⟩:∃x,x=aq L b:=⟨_,rfl⟩;have h3:(aq L b).2.1=3:=h3;rw[e2];rw[<-hx]at e1 h3⊢;rw[e1,WP,WP,WQ,WQ,Nf (show ¬(dC x).2.1=3 from(show ¬(4:Int)=3 by decide)),Nh h3];exact List.perm_middle.symm
theorem WS(hr:eo L){b:Int}(h2:aA L b=2)(u r:Int):(WO (cU L b fun x=>mH x u r)).Perm (r::WO L):=by
 obtain⟨l,m,e1,e2⟩:=Xk hr (b:=b) (by omega);obtain⟨x,hx⟩:∃x,x=aq L b:=⟨_,rfl⟩;have h2:(aq L b).2.1=2:=h2;rw[e2];rw[<-hx]at e1 h2⊢;have h3:(mH x u r).2.1=3:=by unfold mH;rw[Nh h2]
 rw[e1,WP,WP,WQ,WQ,Nh h3,Nf (by omega)];exact QC
theorem WU(hr:eo L){b:Int}(h1:aA L b=1)(u r:Int):WO (cU L b fun x=>mH x u r)=WO L:=by
 obtain⟨l,m,e1,e2⟩:=Xk hr (b:=b) (by omega);obtain⟨x,hx⟩:∃x,x=aq L b:=⟨_,rfl⟩;have h1:(aq L b).2.1=1:=h1;rw[e2];rw[<-hx]at e1 h1⊢;have h3:(mH x u r).2.1=4:=by unfold mH;rw[Nf (by omega)]
 rw[e1,WP,WP,WQ,WQ,Nf (by omega),Nf (by omega)]
theorem WV:∀(L:List FV) (p:Nat) (v:FV),(L[p]?.getD (0,0,0,0,0,0)).2.1≠3->v.2.1≠3->WO (L.set p v)=WO L
 | [],_,_,_,_=>rfl
 |x::L,0,v,h1,h2=>by
  have h1:x.2.1≠3:=h1;rw[List.set_cons_zero,WQ,WQ,Nf h1,Nf h2]
 |x::L,p+1,v,h1,h2=>by
  rw[List.set_cons_succ,WQ,WQ,WV L p v (by simpa using h1) h2]
theorem WT(L:List FV)(n m:Int):WO (gE L n m).1=WO L:=by
 unfold gE
 split
 ·rfl
 ·split
  ·split
   ·rename_i h4
    exact WV _ _ _ (by rw[h4];decide) (show ¬(1:Int)=3 by decide)
   ·rfl
  ·show WO (aT L _ _)=WO L
   unfold aT;rw[WP,WQ,Nf (show ¬(1:Int)=3 by decide),List.nil_append,<-WP,Oo]
theorem WW(n:Int):∀L:List FV,WO (L.map (aY n))=WO L
 | []=>rfl
 |x::L=>by
  rw[OA,WQ,WQ,WW n L]
  congr 1
  unfold aY
  by_cases h:x.2.1=1
  ·rw[Nh h,Nf (show ¬(2:Int)=3 by decide),Nf (by omega)]
  ·rw[Nf h]
section
variable {G:Gt}{c:Cf}
def Xf(X:Gt):List Int:=Xa X.out++WO X.liv
theorem Xg(hb:bX X.liv X.req)(d:Int):(Xf (cj X d)).Perm (Xf X):=by
 unfold cj
 split
 ·rename_i hc
  rw[(vD hb hc.1).1];show(Xa (X.out++[_])++WO (cU X.liv d dC)).Perm (Xa X.out++WO X.liv);rw[Xb,OC];exact XV _ (WR hb.1.2.2 hc.1)
 ·exact XW _
theorem Xj(X:Gt){o:Ou}(h:o.kind≠9):Xf (ge X o)=Xf X:=by
 show Xa (X.out++[o])++WO X.liv=_;rw[Xb,Xc h,OG];rfl
theorem Xh(hb:Bs X)(f:Fl){k:Int}(hk:k≠9)(y:Int):(Xf (dn X f k y)).Perm (Xf X):=by
 unfold dn;refine(Xg ?_ _).trans ?_
 ·exact hb.book
 ·rw[Xj _ hk];exact XW _
theorem Xi(hb:Bs X)(hi:i<X.fls.length)(y:Int):(Xf (dP X i y)).Perm (Xf X):=by
 have b4:=(hb.F9 (Nk hi)).2.2.2;rcases pI hb hi y with⟨z,q,hz⟩|⟨b,q,hd,hr,h2,hc,_⟩
 ·rw[q];exact Xh (X:=dg X X.fls[i].be Nw) (hb.GA b4 Nw) _ (by decide) _
 ·obtain⟨T,e⟩:=KA (G:={dg X X.fls[i].be Nw with tok:=X.tok-X.cfg.bd}) hi b
  rw[q,e];refine(Xg ?_ _).trans ?_
  ·exact hb.book
  ·rw[Xj _ (show(5:Int)≠9 by decide)];exact XW _
def Xd(G:Gt)(e:Ev):Prop:=e.kind=6/\(∃o l,(iG G e).out=o::l/\o.code=0)/\G.req.length<(iG G e).req.length
theorem Xo(hm:Wm G)(ho:G.out=[])(he:fB e)(h7:e.kind=7->G.now+1<=1099511626776):
  (¬Xd G e/\(Xf (iG G e)).Perm (Xf G))\/(Xd G e/\(∀q∈G.req,q.1≠e.req)/\(∃q∈(iG G e).req,q.1=e.req)/\(Xf (iG G e)).Perm (e.req::Xf G)):=by
 have hb:=hm.im.bs
 by_cases k6:e.kind=6
 ·have e1:iG G e=nC G e:=by unfold iG;rw[Nf (by omega),Nf (by omega),Nh k6]
  have hta:=Xn hm ho he (NF k6);have hra:=Fq hb he.req;rcases hra with⟨hy,q⟩|⟨hy,hnew,hz,hst,q⟩
  ·have e2:iG G e=fO G 2 e:=by rw[e1];unfold nC;rw[Nh hy]
   refine Nt ⟨fun hg=>?_,?_⟩
   ·obtain⟨_,⟨o,l,h1,h2⟩,h3⟩:=hg
    rcases hta with⟨_,_,_,h4,_⟩|⟨_,_,h4,_⟩|⟨h4,x,l2,_,h5,h6,⟨h8,_⟩|⟨_,h8,h9⟩⟩
    ·rw[h4]at h3;omega
    ·rw[h4]at h3;omega
    ·omega
    ·rw[h6]at h1
     have h10:x.2.2.2.2=0:=by rw[<-h2,<-(List.cons.inj h1).1]
     rcases Cr hb he.req (NF rfl:(2:Int)=1\/(2:Int)=2)with⟨_,a⟩|⟨_,a,_⟩|⟨a,_,_,a2⟩
     ·have h11:(iG G e).req=G.req:=by rw[e2];show(dJ G 2 e).1.2=G.req;rw[a]
      rw[h11]at h3;omega
     ·exact absurd a (by decide)
     ·unfold ja at hy
      rw[a,a2,<-h8,h10]at hy;exact absurd hy (by decide)
   ·rw[e2]
    show(Xf (ge {G with liv:=(dJ G 2 e).1.1,req:=(dJ G 2 e).1.2} ⟨8,0,0,0,e.req,(dJ G 2 e).2.1,0⟩)).Perm (Xf G);rw[Xj _ (show(8:Int)≠9 by decide)];show(Xa G.out++WO (dJ G 2 e).1.1).Perm _;rw[q];exact XW _
  ·have hcs:(∀x∈G.req,x.1≠e.req)/\∃(x:FY) (l:List Ou),x.1=e.req/\(iG G e).req=G.req++[x]/\(iG G e).out=⟨8,0,0,0,e.req,x.2.2.2.2,0⟩::l/\x.2.2.2.2=0:=by
    rcases Cr hb he.req (NF rfl:(2:Int)=1\/(2:Int)=2)with⟨a,_⟩|⟨_,a,_⟩|⟨_,_,_,a2⟩
    ·rw[a]at hnew;cases hnew
    ·exact absurd a (by decide)
    ·have hR:(iG G e).req=(dJ G 2 e).1.2:=by
      have hbk:=(KY hb.book (hb.Jd (e:=e) he.req (NF rfl:(2:Int)=1\/(2:Int)=2)) hb.since).2.1;rw[e1];unfold nC
      split
      ·rfl
      ·split
       ·rfl
       ·exact W8 (G:={fO G 2 e with wts:=G.wts.set e.be.toNat 0}) hbk _
     have hlen:(dJ G 2 e).1.2.length=G.req.length+1:=by
      have hcs:=AA hb.book (hb.Jd (e:=e) he.req (NF rfl:(2:Int)=1\/(2:Int)=2));rcases hcs with⟨_,h⟩|⟨_,_,h⟩|⟨_,_,h⟩
      ·have h:dJ G 2 e=_:=h
       rw[h]at hnew;cases hnew
      ·have h:dJ G 2 e=_:=h
       rw[h]at hnew;cases hnew
      ·have h:dJ G 2 e=_:=h
       rw[h];unfold eA;rw[Nf (show ¬(2:Int)=1 by decide)];simp
     rcases hta with⟨_,_,_,h4,_⟩|⟨_,_,h4,_⟩|⟨h4,x,l2,h10,h5,h6,⟨h8,_⟩|⟨_,h8,h9⟩⟩
     ·rw[hR]at h4;rw[h4]at hlen;omega
     ·rw[hR]at h4;rw[h4]at hlen;omega
     ·omega
     ·exact⟨h4,x,l2,h10,h5,h6,by rw[h8,<-a2,hz]⟩
   obtain⟨hno,x,l,x1,x2,x3,x4⟩:=hcs;refine NF ⟨⟨k6,⟨_,l,x3,x4⟩,by rw[x2];simp⟩,hno,⟨x,by rw[x2];simp,x1⟩,?_⟩;rw[e1];unfold nC;rw[Nf (by rw[hy];decide)];have hi:Xf (fO G 2 e)=Xa G.out++WO (cU G.liv e.be fun x=>mH x (G.now+G.cfg.drain) e.req):=by
    show Xf (ge {G with liv:=(dJ G 2 e).1.1,req:=(dJ G 2 e).1.2} ⟨8,0,0,0,e.req,(dJ G 2 e).2.1,0⟩)=_;rw[Xj _ (show(8:Int)≠9 by decide),<-q];rfl
   split
   ·rename_i h1
    show(Xa ((fO G 2 e).out++[_])++WO (fO G 2 e).liv).Perm _;rw[Xb,OC];have h2:Xa (fO G 2 e).out=Xa G.out:=by
     show Xa (G.out++[_])=_;rw[Xb,Xc (show(8:Int)≠9 by decide),OG]
    have h3:WO (fO G 2 e).liv=WO G.liv:=by
     show WO (dJ G 2 e).1.1=_;rw[q];exact WU hb.Gv h1 _ _
    rw[h2,h3];exact QC
   ·rename_i h1
    have hbk:bX (fO G 2 e).liv (fO G 2 e).req:=(hb.Mc he.req (NF rfl:(2:Int)=1\/(2:Int)=2)).book;refine(Xg (X:={fO G 2 e with wts:=G.wts.set e.be.toNat 0}) hbk e.be).trans ?_;show(Xf (fO G 2 e)).Perm _;rw[hi];refine(XV _ (WS hb.Gv (by omega) _ _)).trans ?_;exact QC
 ·refine Nt ⟨fun hg=>k6 hg.1,?_⟩
  unfold iG
  split
  ·rcases J7 hb he.key with⟨q,_⟩|⟨q,_⟩|⟨k,hlt,_,_,hc,_,_,hg,_,q⟩ <;> rw[q]
   ·exact XZ (Xj _ (show(2:Int)≠9 by decide))
   ·exact XZ (Xj _ (show(2:Int)≠9 by decide))
   ·exact XZ (Xj _ (show(1:Int)≠9 by decide))
  ·split
   ·refine XZ ?_
    show Xf (ge {G with liv:=(dJ G 1 e).1.1,req:=(dJ G 1 e).1.2} ⟨8,0,0,0,e.req,(dJ G 1 e).2.1,0⟩)=Xf G;rw[Xj _ (show(8:Int)≠9 by decide)];show Xa G.out++WO (dJ G 1 e).1.1=_;rcases Cr hb he.req (Nt rfl:(1:Int)=1\/(1:Int)=2)with⟨_,q⟩|⟨_,_,q,_⟩|⟨_,k,_⟩
    ·rw[q];rfl
    ·rw[q,WT];rfl
    ·exact absurd k (by decide)
   ·split
    ·rename_i k7
     refine KG (R:=fun X=>(Xf X).Perm (Xf G)) hm (h7 k7) ?_ (fun X f y hX hf hy hR=>(Xh hX.bs f (by decide) y).trans hR) (fun X i hX hi hv hR=>(Xi hX.bs hi 5).trans hR);obtain⟨_,_,_,_,s5,_,_,s8⟩:=yj (hb.next (h7 k7));refine XZ ?_;show Xa (eE {G with now:=G.now+1}).out++WO (eE {G with now:=G.now+1}).liv=_;rw[s5,s8];show Xa G.out++WO (G.liv.map (aY (G.now+1)))=_;rw[WW];rfl
    ·rcases Kt hb e with⟨hc,q⟩|⟨i,hi,_,_,_,⟨_,q⟩|⟨_,q⟩|⟨_,_,⟨_,q⟩|⟨_,_,q⟩|⟨hv,_,q⟩⟩⟩
     ·rw[q];exact XZ (Xj _ (show(10:Int)≠9 by decide))
     ·rw[q];exact Xh hb _ (by decide) _
     ·obtain⟨T,e1⟩:=Ku hi
      rw[q,e1];exact XZ (Xj _ (show(3:Int)≠9 by decide))
     ·rw[q];exact XZ (Xj _ (show(10:Int)≠9 by decide))
     ·obtain⟨T,e1⟩:=KC hi
      rw[q,e1];exact XZ (Xj _ (show(4:Int)≠9 by decide))
     ·rw[q];exact Xi hb hi 3
end
section
variable {A:Gt}{c:Cf}{P:Py}
def Sp.XR(s:Sp):Bool:=s.ev.kind == 6 && ((s.out.head?.map fun o=>o.code == 0).getD Nb) && Decidable.decide (s.bef.req.length<s.aft.req.length)
def Xe(l:List Sp):List Int:=(l.filter Sp.XR).map fun s=>s.ev.req
theorem Xq(hm:Wm G)(ho:G.out=[])(he:fB e)(h7:e.kind=7->G.now+1<=1099511626776):∃l,(iG G e).req=G.req++l:=by
 by_cases hk:WM e
 ·rcases Xn hm ho he hk with⟨q,_,_,e1,_⟩|⟨_,_,e1,_⟩|⟨_,q,l,_,e1,_⟩
  ·exact⟨[],by rw[e1];simp⟩
  ·exact⟨[],by rw[e1];simp⟩
  ·exact⟨[q],e1⟩
 ·exact⟨[],by rw[Xr hm he h7 (fun h=>hk (Nt h)) (fun h=>hk (NF h))];simp⟩
theorem Rn.gone(h:Rn A c P)(h0:A.liv=[]):(Xa (P.steps.map fun s=>s.out).flatten++WO P.last.liv).Perm (Xe P.steps)/\(Xe P.steps).Nodup:=by
 have key:=h.Mw (J:=fun P=>((Xa (P.steps.map fun s=>s.out).flatten++WO P.last.liv).Perm (Xe P.steps))/\(Xe P.steps).Nodup/\∀r∈Xe P.steps,∃q∈P.last.req,q.1=r)
  ⟨by show(Xa []++WO A.liv).Perm [];rw[h0];exact XW _,List.nodup_nil,(fun r hr=>by cases hr)⟩ fun Q e hQ he hlt hJ=>?_
 ·exact⟨key.1,key.2.1⟩
 obtain⟨j1,j2,j3⟩:=hJ;have hm:=hQ.runs.wm;have hn:=hQ.runs.now;have hE:=D5 he;have h7:e.kind=7->Q.last.now+1<=1099511626776:=fun _=>by omega
 obtain⟨z,hz⟩:∃z:Sp,z=⟨e,Q.last,(iG Q.last e).Ma,(iG Q.last e).out⟩:=⟨_,rfl⟩;have hst:(Q.step e).steps=Q.steps++[z]:=by rw[hz];rfl
 have hla:(Q.step e).last.liv=(iG Q.last e).liv:=rfl;have hre:(Q.step e).last.req=(iG Q.last e).req:=rfl;have hgr:Xe (Q.step e).steps=Xe Q.steps++if z.XR then [e.req]else []:=by
  rw[hst];unfold Xe;rw[OY,OI]
  congr 1
  by_cases hg:z.XR
  ·rw[Nh hg,List.filter_cons_of_pos hg];simp[hz]
  ·rw[Nf hg,List.filter_cons_of_neg hg];rfl
 have hgo:Xa ((Q.step e).steps.map fun s=>s.out).flatten=Xa (Q.steps.map fun s=>s.out).flatten++Xa (iG Q.last e).out:=by
  rw[hst,OI,PV,Xb]
  congr 1
  simp[hz]
 have hgi:z.XR=Nw↔Xd Q.last e:=by
  unfold Sp.XR Xd;rw[hz];show(((e.kind == 6) && (((iG Q.last e).out.head?.map fun o=>o.code == 0).getD Nb)) && Decidable.decide (Q.last.req.length<(iG Q.last e).req.length))=Nw↔_;cases hO:(iG Q.last e).out with
  |nil=>simp
  |cons o l=>simp[and_assoc]
 have hid:Xf Q.last=WO Q.last.liv:=by unfold Xf;rw[hQ.runs.out];rfl
 obtain⟨l0,hp⟩:=Xq hm hQ.runs.out hE h7;rw[hgr,hgo,hla,hre,OC];rcases Xo hm hQ.runs.out hE h7 with⟨g1,g2⟩|⟨g1,g2,g3,g4⟩
 ·rw[Nf (fun h=>g1 (hgi.1 h)),OG]
  rw[hid]at g2;refine⟨(XV _ g2).trans j1,j2,fun r hr=>?_⟩;obtain⟨q,hq,e1⟩:=j3 r hr;exact⟨q,by rw[hp];exact XY _ hq,e1⟩
 ·rw[Nh (hgi.2 g1)]
  rw[hid]at g4;refine⟨?_,?_,fun r hr=>?_⟩
  ·refine(XV _ g4).trans (List.perm_middle.trans ?_)
   exact((List.Perm.cons _ j1).trans (List.perm_append_singleton _ _).symm)
  ·refine List.nodup_append.2 ⟨j2,by simp,fun a ha b hb=>?_⟩
   rw[List.mem_singleton]at hb;obtain⟨q,hq,e1⟩:=j3 a ha;rw[hb,<-e1];exact g2 q hq
  ·rcases List.mem_append.1 hr with hr|hr
   ·obtain⟨q,hq,e1⟩:=j3 r hr
    exact⟨q,by rw[hp];exact XY _ hq,e1⟩
   ·rw[List.mem_singleton.1 hr]
    exact g3
def WX(L:List FV)(n:Nat):Nat:=(Pm n).countP fun b:Nat=>aA L (b:Int) == 3
theorem WZ(L:List FV)(n:Nat):WX L (n+1)=WX L n+if aA L (n:Int)=3 then 1 else 0:=by
 unfold WX;rw[List.range_succ,List.countP_append]
 congr 1
 by_cases h:aA L (n:Int)=3 <;> simp[h]
theorem WY(h:Bs G):WX G.liv 12=(WO G.liv).length:=by
 have e:((Pm 12).filter fun b:Nat=>aA G.liv (b:Int) == 3).map (fun b:Nat=>(b:Int))=(G.liv.filter fun l=>l.2.1 == 3).map fun l=>l.1:=by
  refine Xm (fun x=>x) _ _ ?_ ?_ fun x=>?_
  ·rw[XU]
   refine XX _ ?_;exact X5 (fun {a b} hab=>by show(a:Int)<(b:Int);omega) List.pairwise_lt_range
  ·rw[XU]
   exact XX _ h.Gv
  ·rw[List.mem_map,List.mem_map]
   constructor
   ·rintro⟨b,hb,rfl⟩
    obtain⟨_,hb2⟩:=List.mem_filter.1 hb;have h2:aA G.liv (b:Int)=3:=by simpa using hb2
    obtain⟨hm,hl1⟩:=kQ (L:=G.liv) (b:=(b:Int)) (by omega);exact⟨aq G.liv (b:Int),List.mem_filter.2 ⟨hm,by simpa using h2⟩,hl1⟩
   ·rintro⟨l,hl,rfl⟩
    obtain⟨hm,hl2⟩:=List.mem_filter.1 hl;have hl2:l.2.1=3:=by simpa using hl2
    have hr:=(h.lf hm).1.1;obtain⟨b,hb⟩:=Int.eq_ofNat_of_zero_le hr.1;have he:=iZ h.Gv hm;have h2:aA G.liv (b:Int)=3:=by rw[<-hb];show(aq G.liv l.1).2.1=3;rw[he];exact hl2
    exact⟨b,List.mem_filter.2 ⟨List.mem_range.2 (by omega),by simpa using h2⟩,hb.symm⟩
 have:=congrArg List.length e;rw[N0,N0]at this;unfold WX WO;rw[List.countP_eq_length_filter,this,N0]
end
section
variable {G:Gt}
theorem WN(h:Im G):(qU G).out.length<=G.out.length+960:=by
 have h1:=(rm G.liv G G.liv.length h (MV _)).2.2;rw[NT]at h1;have h2:G.liv.length<=12:=h.bs.book.1.1;show(G.liv.foldl dV G).out.length<=_;omega
theorem Xs(h:Wm G)(hn:G.now+1<=1099511626776):(mK G).out.length<=G.out.length+1040:=by
 have h1:=h.im.next hn;obtain⟨s1,s2,s3,s4,s5,_⟩:=yj h1.bs;have h2:=h1.Jf;have h3:=h2.I2;have hnow:(lU (eE {G with now:=G.now+1})).now=G.now+1:=s1;have hwn:(lU (eE {G with now:=G.now+1})).wnow=G.now:=s2.trans h.wnow;obtain⟨g1,_⟩:=h3.Je (by rw[hwn,hnow]) (fun f hf=>by
  have hf:f∈(eE {G with now:=G.now+1}).fls:=hf;rw[s3]at hf;rw[hwn];exact h.due f hf)
 have e1:=WN g1;have e2:=zc h3.bs;have e3:(lU (eE {G with now:=G.now+1})).out.length=G.out.length:=congrArg List.length s5;show(qU _).out.length<=_;omega
theorem Xp(hm:Wm G)(e:Ev)(h7:e.kind=7->G.now+1<=1099511626776):(iG G e).out.length<=G.out.length+1040:=by
 unfold iG
 split
 ·unfold mA
  split
  ·simp[kY,ge]
  ·simp only[]
   split
   ·simp[kY,ge]
   ·simp[jD,iA,ge,dU]
 ·split
  ·simp[fO,ge]
  ·split
   ·unfold nC
    split
    ·simp[fO,ge]
    ·split
     ·simp[lk,fO,ge]
     ·refine Nm (tm _) ?_
      simp[fO,ge]
   ·split
    ·rename_i h
     exact Xs hm (h7 h)
    ·unfold mW
     simp only[]
     split
     ·simp[kY,ge]
     ·split
      ·exact Nm (lX _ _ _) (by omega)
      ·split
       ·unfold mV
        simp only[]
        split <;> simp[iA,ge,dU,eT]
       ·split
        ·simp[kY,ge]
        ·split
         ·simp[mX,iA,ge,dU,eT,dg]
         ·exact Nm (wS _ _) (by omega)
theorem JM.XS(h:JM c s):s.out.length<=1040:=by
 rw[h.out];have:=Xp h.wm s.ev h.late;rw[h.out0]at this
 simpa using this
end
abbrev XM:List Value:=[MF ME 0,MF ME 0,MF ME 0,MF ME 0,M3 Nb,MF ME 0,MF ME 0,MF ME 0,MF ME 0,MF ME 0,MF ME 0,MF ME 0,MF ME 0,MF ME 0,MF ME 0,MF ME 0,MF ME 0,MF ME 0,MF ME 0,MF ME 0,MF ME 0,MF ME 0,MF ME 0,MF ME 0,MF ME 0,MG MH 0 0,MG MH 0 0,MG MH 0 0,MG MH 0 0,MG MH 0 0,MG MH 0 0,MF ME 0,MF ME 0,MG MH 0 0,MF ME 0,MF ME 0,MF ME 0,MF ME 0,MF ME 0,MF ME 0,MF ME 0,MF ME 0,MF ME 0,MF ME 0,MF ME 0,MF ME 0,MF ME 0,MF ME 0,MF ME 0,MF ME 0,MF ME 0,MG MH 0 0,MG MH 0 0,MG MH 0 0,MG MH 0 0,MG MH 0 0,MG MH 0 0,MF ME 0,MF ME 0,MG MH 0 0,MG MH 0 0]
theorem XC:(Tryz.prog.info? 62).map (·.size)=MI 61:=by kernel_rfl
theorem Jz.Gm{base:Nat}(h:Jz base w g V c P):w.cell? ⟨g,16,MH⟩=MI (MG V.ps P.steps.length V.cs):=by
 rw[MW w g 16 _ _ (0,0) h.box,h.steps];rfl
structure Xt(W:MO)(ps:Option Oc)(k:Nat)(q:Sq)(b o:Nat):Prop where
 at_:ps=MI ⟨b,o,MH⟩
 cells:W.rangeAt b (o+k*61) (JU q)
 rd:Kh W q
theorem JD.step{W:MO}(h:JD w W g V c P){k:Nat}(hk:k<P.steps.length):∃q b o,Xt W V.ps k q b o/\P.steps[k]?=MI q.s/\JM c q.s:=by
 have hl:=h.pat.steps;have hkq:k<V.qs.length:=by omega
 have hrv:bj JU W (MG V.ps V.qs.length V.cs) V.qs:=gZ h.pat.rows;obtain⟨a,cap,hv,_,_,hp⟩:=bj.F6 LV hrv;injection hv with q1 _ _;obtain⟨b,o,ha,hb,hc⟩:=hp k hkq;have e:P.steps[k]?=MI V.qs[k].s:=by rw[<-h.pat.eqs,List.getElem?_map,MR hkq];rfl
 refine⟨V.qs[k],b,o,⟨q1.trans ha,fun j v hv=>?_,(h.pat.all _ (Nk hkq)).now⟩,e,h.rn.runs.chain _ (List.mem_of_getElem? e)⟩;have hj:j<61:=(List.getElem?_eq_some_iff.1 hv).1;rw[hc j hj];exact hv
structure Xu(W:MO)(b:Nat)(q:Sq):Prop where
 box:W.heap[b]?=MI (MP (JU q).toArray 62 (0,0))
 rd:Kh W q
theorem Kh.below{W Y:MO}{q:Sq}(h:Kh W q)(hb:MQ W.heap.size W Y):Kh Y q:=⟨h.1.below hb,h.2.1.below hb,h.2.2.below hb⟩
theorem XL(q:Sq):(JU q).toArray.all (·.oneCell')=true:=by
 apply all_oneCell_toArray;exact LU q
theorem Xt.box{W:MO}{ps:Option Oc}{k:Nat}{q:Sq}{b o:Nat}(h:Xt W ps k q b o):∃Y,Y=(W.alloc (MP XM.toArray 62)).setCells W.heap.size 0 (JU q)/\Xu Y W.heap.size q/\MQ W.heap.size W Y/\(W.alloc (MP XM.toArray 62)).there W.heap.size 0 (JU q).toArray.size:=by
 have hZ:(W.alloc (MP XM.toArray 62)).heap[W.heap.size]?=MI (MP XM.toArray 62 (0,0)):=M1 _ _;have hB:MQ W.heap.size W ((W.alloc (MP XM.toArray 62)).setCells W.heap.size 0 (JU q)):=tW (ai W) (MV _) _ _ (by simp);exact⟨_,rfl,⟨KM hZ rfl,h.rd.below hB⟩,hB,(show(W.alloc (MP XM.toArray 62)).there W.heap.size 0 (JU q).toArray.size from sF (old:=XM) hZ)⟩
theorem Xu.F7{W:MO}{b:Nat}{q:Sq}(h:Xu W b q)(j:Nat):W.cell? ⟨b,j,MH⟩=(JU q)[j]?:=by
 rw[MW W b j _ _ (0,0) h.box];simp
theorem XK(f:Nat->Int)(hf:∀i,i<16->(Lit.int ME (f i)).wf=Nw)(ds:List Dd)(hds:∀d∈ds,Kg d){pd:Option Oc}{cd:Nat}(hrow:bj Ka w (MG pd ds.length cd) ds)(hblk:aK w)(most:Nat)(hm:most<=100):
  ∃L:List Value,L.length=16/\BD (f 0) (f 1) (f 2) (f 3) (f 4) (f 5) (f 6) (f 7) (f 8) (f 9) (f 10) (f 11) (f 12) (f 13) (f 14) (f 15)=Ny L.toArray/\∀W,MQ w.heap.size w W->Ni Tryz.prog 10 #[Ny L.toArray,MG pd ds.length cd,MF ME (most:Int)] W (Lq f most W):=
 ⟨[MF ME (f 0),MF ME (f 1),MF ME (f 2),MF ME (f 3),MF ME (f 4),MF ME (f 5),MF ME (f 6),MF ME (f 7),MF ME (f 8),MF ME (f 9),MF ME (f 10),MF ME (f 11),MF ME (f 12),MF ME (f 13),MF ME (f 14),MF ME (f 15)],rfl,rfl,fun W hB=>L6 f hf ds hds W (hrow.below hB) (hblk.below hB) most hm⟩
theorem XD{W:MO}{p:Option Oc}{c:Nat}{L:List Ou}(h:bj gT W (MG p L.length c) L)(hi:i<L.length):
  ∃b o,p=MI ⟨b,o,MH⟩/\W.cell? ⟨b,o+i*7,MH⟩=MI (MF ME L[i].kind)/\W.cell? ⟨b,o+i*7+1,MH⟩=MI (MF ME L[i].slot)/\W.cell? ⟨b,o+i*7+2,MH⟩=MI (MF ME L[i].gen)/\W.cell? ⟨b,o+i*7+3,MH⟩=MI (MF ME L[i].be)/\W.cell? ⟨b,o+i*7+4,MH⟩=MI (MF ME L[i].req)/\W.cell? ⟨b,o+i*7+5,MH⟩=MI (MF ME L[i].code)/\W.cell? ⟨b,o+i*7+6,MH⟩=MI (MF ME L[i].why):=by
 obtain⟨a,cap,hv,_,_,hp⟩:=bj.F6 Bq h;injection hv with q1 _ _;obtain⟨b,o,ha,_,hc⟩:=hp i hi;exact⟨b,o,q1.trans ha,hc 0 (by omega),hc 1 (by omega),hc 2 (by omega),hc 3 (by omega),hc 4 (by omega),hc 5 (by omega),hc 6 (by omega)⟩
theorem XE{W:MO}{p:Option Oc}{c:Nat}{L:List Ou}{x:Ou}(h:bj gT W (MG p L.length c) L)(e:L=x::l):
  ∃b o,p=MI ⟨b,o,MH⟩/\W.cell? ⟨b,o,MH⟩=MI (MF ME x.kind)/\W.cell? ⟨b,o+1,MH⟩=MI (MF ME x.slot)/\W.cell? ⟨b,o+2,MH⟩=MI (MF ME x.gen)/\W.cell? ⟨b,o+3,MH⟩=MI (MF ME x.be)/\W.cell? ⟨b,o+4,MH⟩=MI (MF ME x.req)/\W.cell? ⟨b,o+5,MH⟩=MI (MF ME x.code)/\W.cell? ⟨b,o+6,MH⟩=MI (MF ME x.why):=by
 subst e;obtain⟨b,o,h1,h2⟩:=XD h (i:=0) (Nat.succ_pos _);simp only[Nat.zero_mul,Nat.add_zero,List.getElem_cons_zero]at h2;exact⟨b,o,h1,h2⟩
theorem XN{b:Int}{k:Nat}(hk:k<L.length)(h:∀t∈L.take k,t.1≠b)(e:L[k].1=b):aA L b=L[k].2.1:=by
 unfold aA aq;have:L.find? (fun x=>x.1 == b)=MI L[k]:=by
  rw[List.find?_eq_some_iff_getElem];refine⟨by simpa using e,k,hk,rfl,fun j hj=>?_⟩;have:=h L[j] (List.mem_iff_getElem.2 ⟨j,by simp;omega,by simp⟩)
  simpa using this
 rw[this];rfl
theorem XO{b:Int}(h:∀t∈L,t.1≠b):aA L b=0:=by
 show(aq L b).2.1=0;rw[tP h]
theorem XP{W:MO}{M:List Value}{U:Us}(hM:M=(ef U G).toList)(h:aF W U G)(b:Int):Ni Tryz.prog 16 #[Ny M.toArray,MF ME b] W fun r w'=>r=MN (MF ME (aA G.liv b))/\MQ W.heap.size W w':=by
 obtain⟨Y,hY⟩:∃Y,Y=W.alloc (MP M.toArray 54):=⟨_,rfl⟩;have hYb:MQ W.heap.size W Y:=by rw[hY];exact ai W
 have hYx:Y.heap[W.heap.size]?=MI (MP M.toArray 54 (0,0)):=by rw[hY];exact M1 _ _
 have c19:Y.cell? ⟨W.heap.size,19,MH⟩=MI (MG U.pl G.liv.length U.cl):=by rw[MW Y _ 19 _ _ (0,0) hYx,hM];rfl
 obtain⟨a,cap,hv,hca,hmx,hp⟩:=jH.F6 (h.book.1.below hYb);injection hv with q1 q2 q3;obtain⟨m,hm⟩:∃m,m=G.liv.length:=⟨_,rfl⟩;rw[<-hm]at c19;have hmb:m<=9223372036854775807:=by rw[hm];unfold maxLen at hmx;omega
 obtain⟨s,hs⟩:∃s,s=aA G.liv b:=⟨_,rfl⟩;rw[<-hs];have HP:M6 (_/\_/\_/\_/\_):=⟨hp,q1,hm,hYb,hs⟩;clear hYx hp q1 q2 q3 hm hmx hca h hM hYb hs;go_enter Tryz.func16,Tryz.ntmps16;go_wp2;rw[<-hY];clear hY
 go_loopw [5] (fun i wr=>∃k:Nat,i=MF ME (k:Int)/\k<=m/\M6 (∀t∈G.liv.take k,t.1≠b)/\wr=Y) (fun i _=>m-(intOf i).toNat)
 case atStart=>exact⟨0,rfl,Nx _,(fun t ht=>absurd ht (by simp)),rfl⟩
 case round =>
  obtain⟨k,rfl,hk,HA,rfl⟩:=hrel
  by_cases hlt:k<m
  ·have hkI:(k:Int)<(m:Int):=by omega
   have hkl:k<G.liv.length:=by rw[<-HP.out.2.2.1];exact hlt
   obtain⟨bo,oo,ha,hb,hc⟩:=HP.out.1 k hkl;have e0:wr.cell? ⟨bo,oo+k*6,MH⟩=MI (MF ME G.liv[k].1):=hc.1;have e1:wr.cell? ⟨bo,oo+k*6+1,MH⟩=MI (MF ME G.liv[k].2.1):=hc.2.1;have htk:G.liv.take (k+1)=G.liv.take k++[G.liv[k]]:=M9 hkl;have hfd:=fun e=>XN hkl HA.out e
   obtain⟨x,hx⟩:∃x,x=G.liv[k]:=⟨_,rfl⟩;rw[<-hx]at e0 e1 htk hfd;rw[HP.out.2.1,ha]at c19;have HX:M6 (_/\_):=⟨htk,hfd⟩;clear hc hb ha hkl hx htk hfd
   by_cases hq:x.1=b
   ·have hq':(x.1 == b)=true:=by simp[hq]
    have HE:M6 (s=x.2.1):=HP.out.2.2.2.2.trans (HX.out.2 hq);clear hq;go_wp2;go_ret;exact⟨by rw[HE.out];rfl,HP.out.2.2.2.1⟩
   ·have hq':(x.1 == b)=false:=by simp[hq]
    go_wp2
    go_roundw
    case rel =>
     refine⟨k+1,by simp,hlt,?_,trivial⟩;intro t ht;rw[HX.out.1]at ht;rcases List.mem_append.1 ht with ht|ht
     ·exact HA.out t ht
     ·rw[List.mem_singleton.1 ht];exact hq
    case measure=>simp[intOf];omega
  ·obtain rfl:k=m:=by omega
   have hkI:¬(k:Int)<(k:Int):=by omega
   have HE:M6 (s=0):=HP.out.2.2.2.2.trans (XO fun t ht=>HA.out t (by rw[HP.out.2.2.1,NT];exact ht));go_wp2;go_ret;exact⟨by rw[HE.out];rfl,HP.out.2.2.2.1⟩
def XG(P:Py):List Ou:=(P.steps.map (·.out)).flatten
def XH(P:Py)(k:Nat):List Ou:=((P.steps.take k).map (·.out)).flatten
theorem XJ{k:Nat}(h:P.steps[k]?=MI s):XH P (k+1)=XH P k++s.out:=by
 obtain⟨hk,e⟩:=List.getElem?_eq_some_iff.1 h;unfold XH;rw[M9 hk,OI,PV,e];simp
theorem XI{c:Cf}{P:Py}(h:∀s∈P.steps,JM c s):∀k:Nat,(XH P k).length<=1040*k
 |0=>Nx _
 |k+1=>by
  have h1:=XI h k
  by_cases hk:k<P.steps.length
  ·rw[XJ (MR hk),Ns]
   have h2:=(h _ (Nk hk)).XS;omega
  ·have:XH P (k+1)=XH P k:=by unfold XH;rw[N1 (by omega),N1 (by omega)]
   rw[this];omega
theorem XF{W:MO}(h:JD w W g V c P)(hl:P.steps.length<=1000):
  Ni Tryz.prog 21 #[gP g] W fun r w'=>∃p q,r=MN (MG p (XG P).length q)/\bj gT w' (MG p (XG P).length q) (XG P)/\MQ W.heap.size W w':=by
 obtain⟨n,hn⟩:∃n,n=P.steps.length:=⟨_,rfl⟩;have HS:M6 (_/\_/\_):=⟨h,hn,(show n<=1000 by omega)⟩;have hnb:n<=9223372036854775807:=by omega
 clear h hl hn;go_enter Tryz.func21,Tryz.ntmps21;go_wp2
 go_loopw [3,4] (fun s i wr=>∃(k q:Nat) (p:Option Oc) (cc:Nat),s=MG p q cc/\i=MF ME (k:Int)/\k<=n/\M6 (q=(XH P k).length/\wr.ownsRow W.heap.size 65 7 (MG p q cc) q (rv gT (XH P k))/\MQ W.heap.size W wr)) (fun _ i _=>n-(intOf i).toNat)
 case atStart=>exact⟨0,0,MH,0,rfl,rfl,Nx _,rfl,⟨rfl,Nt ⟨rfl,rfl⟩⟩,MY _ _⟩
 case round =>
  obtain⟨k,q,p,cc,rfl,rfl,hk,HJ⟩:=hrel;have hSr:=HS.out.1.on HJ.out.2.2;have c16:wr.cell? ⟨g,16,MH⟩=MI (MG V.ps n V.cs):=by rw[HS.out.2.1];exact hSr.pat.Gm
  have hgl:=hSr.pat.lt
  by_cases hlt:k<n
  ·have hkI:(k:Int)<(n:Int):=by omega
   obtain⟨x,b,o,hx,hst,hok⟩:=hSr.step (k:=k) (by rw[<-HS.out.2.1];exact hlt);have e60:wr.cell? ⟨b,o+k*61+60,MH⟩=MI (MG x.po x.s.out.length x.co):=hx.cells 60 _ rfl;have hbl:b<wr.heap.size:=World.block_lt_of_cell? wr ⟨b,_,MH⟩ e60;have hfl:(XH P (k+1)).length=q+x.s.out.length:=by rw[XJ hst,Ns,<-HJ.out.1]
   have hle:=XI HS.out.1.rn.runs.chain (k+1);rw[hfl]at hle;have hk9:k+1<=1000:=by have:=HS.out.2.2;omega
   obtain⟨p',c',w5,hr5,ho5,hb5⟩:=sW Bq Bd (by decide) Tryz.underlying60 C7 rfl HJ.out.2.1 HJ.out.2.2.size 60 _ x.s.out hx.rd.2.2 (by omega) (by unfold maxLen;omega);rw[<-XJ hst]at ho5;obtain⟨nk,hnk⟩:∃nk,nk=x.s.out.length:=⟨_,rfl⟩;rw[<-hnk]at hr5 ho5 hfl e60;rw[hx.at_]at c16;have HQ:M6 (_/\_/\_/\_):=⟨hr5,ho5,HJ.out.2.2.trans hb5,hfl⟩;clear hfl hnk hr5 ho5 hb5 hx hst hok hSr hle
   go_wp2_with (at_builtin;(with_reducible refine d7 rfl _ _ 60 rfl (MG p q cc) (MG x.po nk x.co) (MG p' (q+nk) c') w5 ?hs ?hx ?hr ?_);(case hs=>rfl);(case hx=>rfl);(case hr=>exact HQ.out.1))
   go_wp2
   go_roundw
   case rel=>exact⟨k+1,q+nk,p',c',rfl,by simp,hlt,HQ.out.2.2.2.symm,HQ.out.2.1,HQ.out.2.2.1⟩
   case measure=>simp[intOf];omega
  ·obtain rfl:k=n:=by omega
   have hkI:¬(k:Int)<(k:Int):=by omega
   have hq:=HJ.out.1;have ho:=HJ.out.2.1;have he:XH P k=XG P:=by unfold XH XG;rw[HS.out.2.1,NT]
   rw[he]at hq ho;have hrv:=gZ (c:=gT) (l:=XG P) (k:=7) (v:=MG p q cc) (w:=wr) (base:=W.heap.size) (e:=65) (by rw[<-hq];exact ho);have HE:M6 (_/\_):=⟨hrv,hq⟩;clear hq ho he hrv hSr;go_wp2;go_ret;exact⟨p,cc,by rw[<-HE.out.2];rfl,by rw[<-HE.out.2];exact HE.out.1,HJ.out.2.2⟩
def Xz(P:Py)(k:Nat):Nat:=(Xe (P.steps.take k)).length
theorem XA{k:Nat}(h:P.steps[k]?=MI s):Xz P (k+1)=Xz P k+if s.XR then 1 else 0:=by
 obtain⟨hk,e⟩:=List.getElem?_eq_some_iff.1 h;unfold Xz Xe;rw[M9 hk,OY,OI,Ns,e]
 congr 1
 by_cases hg:s.XR <;> simp[hg]
def Xw(l:List Ou)(k:Nat):Nat:=(Xa (l.take k)).length
theorem Xx{k:Nat}(hk:k<l.length):Xw l (k+1)=Xw l k+if l[k].kind=9 then 1 else 0:=by
 unfold Xw Xa;rw[M9 hk,OY,OI,Ns]
 congr 1
 by_cases hg:l[k].kind=9 <;> simp[hg]
theorem Xv(h:(Xa l).Nodup){j:Nat}(hj:j<l.length)(hij:i<j)(h1:l[i].kind=9)(h2:l[j].kind=9):l[i].req≠l[j].req:=by
 have e:l=l.take j++l.drop j:=(Oo j l).symm;rw[e,Xb]at h;refine(List.nodup_append.1 h).2.2 _ ?_ _ ?_
 ·refine List.mem_map.2 ⟨l[i],List.mem_filter.2 ⟨?_,by simpa using h1⟩,rfl⟩
  exact List.mem_take_iff_getElem.2 ⟨i,by omega,rfl⟩
 ·refine List.mem_map.2 ⟨l[j],List.mem_filter.2 ⟨?_,by simpa using h2⟩,rfl⟩
  exact List.mem_drop_iff_getElem.2 ⟨0,by omega,by simp⟩
theorem XB(s:Sp):((s.ev.kind == 6)=Nb/\s.XR=Nb)\/((s.ev.kind == 6)=Nw/\s.out=[]/\s.XR=Nb)\/∃x l,s.out=x::l/\(s.ev.kind == 6)=Nw/\(((x.code == 0)=Nb/\s.XR=Nb)\/((x.code == 0)=Nw/\¬s.bef.req.length<s.aft.req.length/\s.XR=Nb)\/((x.code == 0)=Nw/\s.bef.req.length<s.aft.req.length/\s.XR=Nw)):=by
 unfold Sp.XR;cases hk:(s.ev.kind == 6)
 ·exact Nt ⟨rfl,rfl⟩
 ·cases ho:s.out with
  |nil=>exact NF (Nt ⟨rfl,rfl,rfl⟩)
  |cons x l =>
   refine NF (NF ⟨x,l,rfl,rfl,?_⟩);cases hc:(x.code == 0)
   ·exact Nt ⟨rfl,by simp[hc]⟩
   ·by_cases hl:s.bef.req.length<s.aft.req.length
    ·exact NF (NF ⟨rfl,hl,by simp[hc,hl]⟩)
    ·exact NF (Nt ⟨rfl,hl,by simp[hc,hl]⟩)
theorem Xy{A:Gt}(h:Rn A c P)(h0:A.liv=[]):(Xa (XG P)).Nodup/\Xz P P.steps.length=Xw (XG P) (XG P).length+WX P.last.liv 12:=by
 obtain⟨h1,h2⟩:=h.gone h0;refine⟨(List.nodup_append.1 (h1.nodup_iff.2 h2)).1,?_⟩;unfold Xz Xw;rw[NT,NT,WY h.runs.wm.im.bs,<-h1.length_eq,Ns];rfl
theorem XQ(f:Nat->Int)(hf:∀i,i<16->(Lit.int ME (f i)).wf=Nw)(ds:List Dd)(hds:∀d∈ds,Kg d){pd:Option Oc}{cd:Nat}(hrow:bj Ka w (MG pd ds.length cd) ds)(hB:aK w):
  Ni Tryz.prog 7 #[BD (f 0) (f 1) (f 2) (f 3) (f 4) (f 5) (f 6) (f 7) (f 8) (f 9) (f 10) (f 11) (f 12) (f 13) (f 14) (f 15),MG pd ds.length cd] w fun r w'=>r=MN (M3 Nw)/\MQ w.heap.size w w':=by
 obtain⟨L,hL,eL,hpl⟩:=XK f hf ds hds hrow hB 60 (by omega);rw[eL];obtain⟨W0,hW0⟩:∃W0,W0=w.alloc (MP L.toArray 24):=⟨_,rfl⟩;have hb0:MQ w.heap.size w W0:=by rw[hW0];exact ai w
 have HI:M6 (_/\_/\_):=⟨hL,hb0,hpl W0 hb0⟩;obtain⟨nd,hnd⟩:∃nd,nd=ds.length:=⟨_,rfl⟩;rw[<-hnd]at HI⊢;clear hL eL hpl hb0 hf hds hrow hB hnd;go_enter Tryz.func7,Tryz.ntmps7
 go_wp2_with ((with_reducible refine O3 rfl 24 (O6 2) rfl w.heap.size 0 ?gx L _ ?gc Tryz.underlying24 ?gd ?gi ?_);(case gx=>rfl);(case gc=>exact J8 (M1 _ _));(case gd=>rfl);(case gi=>rw[HI.out.1];exact K0))
 rw[<-hW0];clear hW0;refine Calls.mono HI.out.2.2 ?_;rintro r w1 ⟨g,V,c,P,rfl,hS,hcx,hn4,hnm,hk3⟩;obtain⟨n,hn⟩:∃n,n=P.steps.length:=⟨_,rfl⟩;have HS:M6 (_/\_/\_/\_/\_):=⟨hS,hcx,hn,(show n<=60+4 by omega),hk3⟩;have hB1:=HI.out.2.1.trans (hS.bel.mono HI.out.2.1.size);have HB:M6 _:=hB1;clear hS hcx hn4 hnm hk3 hn HI hB1;have HO:M6 _:=XF HS.out.1 (by rw[<-HS.out.2.2.1];have:=HS.out.2.2.2.1;omega);obtain⟨m,hm⟩:∃m,m=(XG P).length:=⟨_,rfl⟩;rw[<-hm]at HO;have hsum:=Xy HS.out.1.rn rfl;rw[<-hm,<-HS.out.2.2.1]at hsum;have HM:M6 (m=(XG P).length/\_/\_):=⟨hm,hsum⟩;have hm1:m<=66560:=by
  have h1:=XI HS.out.1.rn.runs.chain P.steps.length;have h2:XH P P.steps.length=XG P:=by unfold XH XG;rw[NT]
  rw[h2,<-hm,<-HS.out.2.2.1]at h1;have:=HS.out.2.2.2.1;omega
 clear hm hsum
 go_wp2_with fail
 refine Calls.mono HO.out ?_;rintro r w2 ⟨p2,q2,rfl,hr2,hb2⟩;have hS2:=HS.out.1.on hb2;have HS2:M6 _:=hS2;have HR:M6 (_/\_):=⟨hr2,HB.out.trans (hb2.mono HB.out.size)⟩;clear hr2 hb2 HO hS2
 go_wp2_with fail
 go_loopw [8,9,10] (fun gr i _ wr=>∃k a:Nat,gr=MF ME (a:Int)/\i=MF ME (k:Int)/\k<=n/\a<=k/\M6 (a=Xz P k)/\M6 (MQ w2.heap.size w2 wr)) (fun _ i _ _=>n-(intOf i).toNat)
 case atStart=>exact⟨0,0,rfl,rfl,Nx _,Nx _,rfl,MY _ _⟩
 case round =>
  obtain⟨k,a,rfl,rfl,hk,hak,HA,HW⟩:=hrel;have hSr:=HS2.out.on HW.out;have c16:wr.cell? ⟨g,16,MH⟩=MI (MG V.ps n V.cs):=by rw[HS.out.2.2.1];exact hSr.pat.Gm
  have hgl:=hSr.pat.lt
  by_cases hlt:k<n
  ·have hkI:(k:Int)<(n:Int):=by omega
   have hnb:n<=9223372036854775807:=by have:=HS.out.2.2.2.1;omega
   obtain⟨q,b,o,hq,hst,hok⟩:=hSr.step (k:=k) (by rw[<-HS.out.2.2.1];exact hlt);obtain⟨Y,hY,hSB,hYb,hth⟩:=hq.box;obtain⟨R,hR⟩:∃R,R=JU q:=⟨_,rfl⟩;have hat:=hq.at_;have y0:Y.cell? ⟨wr.heap.size,0,MH⟩=MI (MF ME q.s.ev.kind):=(hSB.F7 0).trans rfl;have y28:Y.cell? ⟨wr.heap.size,28,MH⟩=MI (MG q.u.pr q.s.bef.req.length q.u.cr):=(hSB.F7 28).trans rfl;have y54:Y.cell? ⟨wr.heap.size,54,MH⟩=MI (MG q.v.pr q.s.aft.req.length q.v.cr):=(hSB.F7 54).trans rfl;have y60:Y.cell? ⟨wr.heap.size,60,MH⟩=MI (MG q.po q.s.out.length q.co):=(hSB.F7 60).trans rfl;have hcs:=hq.cells;rw[<-hR]at hY hth hcs;have HQ:M6 (_/\_/\_/\_/\_/\_):=⟨hcs,hth,hY,hR,HW.out.trans (hYb.mono HW.out.size),(show R.length=61 by rw[hR];rfl)⟩;have HT:M6 (_/\_/\_/\_):=⟨hst,hok,hSB,hYb⟩;clear hq hst hok hY hSB hYb hth hR hcs;rw[hat]at c16;clear hat
   have hYl:wr.heap.size<Y.heap.size:=(Array.getElem?_eq_some_iff.1 HT.out.2.2.1.box).1;have HK:M6 _:=XA HT.out.1;obtain⟨e,he⟩:∃e,e=q.s.ev.kind:=⟨_,rfl⟩;obtain⟨bl,hbl⟩:∃e,e=q.s.bef.req.length:=⟨_,rfl⟩;obtain⟨al,hal⟩:∃e,e=q.s.aft.req.length:=⟨_,rfl⟩;have hcs:=XB q.s;have hrd:=HT.out.2.2.1.rd.2.2;rw[<-he]at hcs y0;rw[<-hbl]at hcs y28;rw[<-hal]at hcs y54;clear hSr he hbl hal;rcases hcs with⟨h6,hg⟩|⟨h6,ho,hg⟩|⟨x,l,ho,h6,⟨hc,hg⟩|⟨hc,hl,hg⟩|⟨hc,hl,hg⟩⟩
   case' inr.inl =>
    rw[ho]at y60;have hn0:¬(0:Int)<(([]:List Ou).length:Int):=by simp
    have hn3:¬(0:Int)<((0:Nat):Int):=by simp
   case' inr.inr.inr.inr=>have hl2:(bl:Int)<(al:Int):=by omega
   case' inr.inr.inr.inl=>have hl2:¬(bl:Int)<(al:Int):=by omega
   all_goals
    try
     obtain⟨bo,oo,hpo,u0,_,_,_,_,u5,_⟩:=XE hrd (show q.s.out=x::l from ho);have hbo:bo<Y.heap.size:=World.block_lt_of_cell? Y ⟨bo,oo,MH⟩ u0;obtain⟨nl,hnl⟩:∃nl,nl=q.s.out.length:=⟨_,rfl⟩;have hn1:(0:Int)<(nl:Int):=by rw[hnl,ho];simp <;> omega
     rw[hpo,<-hnl]at y60;clear hpo hnl u0
    rw[hg]at HK
    try clear ho
    clear hrd hg
    go_wp2_with (first|((with_reducible refine O3 rfl 62 (O6 38) rfl b (o+k*61) ?gx R _ ?gc Tryz.underlying62 ?gd ?gi ?_);(case gx=>rfl);(case gc=>exact HQ.out.1);(case gd=>rfl);(case gi=>rw[HQ.out.2.2.2.2.2];exact XC))|((with_reducible refine wpList_store_mid rfl 62 (O6 10) (O6 39) rfl wr.heap.size 0 R.toArray ?sx ?sy ?st ?si ?s1 ?_);(case sx=>rfl);(case sy=>rfl);(case st=>exact HQ.out.2.1);(case si=>rw[List.size_toArray,HQ.out.2.2.2.2.2];exact XC);(case s1=>rw[HQ.out.2.2.2.1];exact XL q);rw[List.toList_toArray,<-HQ.out.2.2.1]))
    go_roundw
    case rel=>first
     |exact⟨k+1,a,rfl,by simp,hlt,by omega,(HA.out.trans HK.out.symm:a=Xz P (k+1)),HQ.out.2.2.2.2.1⟩
     |exact⟨k+1,a+1,by simp,by simp,hlt,by omega,(by have h1:=HK.out;have h2:=HA.out;rw[Nh rfl]at h1;exact(by omega:a+1=Xz P (k+1))),HQ.out.2.2.2.2.1⟩
    case measure=>simp[intOf];omega
  ·obtain rfl:k=n:=by omega
   have hkI:¬(k:Int)<(k:Int):=by omega
   have hn64:k<=64:=HS.out.2.2.2.1;clear hSr;go_wp2;clear c16 hgl
   go_loopw [11,12,13] (fun gn i _ wr=>∃k2 d:Nat,gn=MF ME (d:Int)/\i=MF ME (k2:Int)/\k2<=m/\d<=k2/\M6 (d=Xw (XG P) k2)/\M6 (MQ w2.heap.size w2 wr)) (fun _ i _ _=>m-(intOf i).toNat)
   case atStart=>exact⟨0,0,rfl,rfl,Nx _,Nx _,rfl,HW⟩
   case round =>
    obtain⟨k2,d,rfl,rfl,hk2,hdk,HE,HX⟩:=hrel
    by_cases hlt2:k2<m
    ·have hkI2:(k2:Int)<(m:Int):=by omega
     obtain⟨ap,cap,hv,_,_,hp⟩:=bj.F6 Bq (by have h:=HR.out.1;rw[HM.out.1]at h;exact h);injection hv with q1 _ _;obtain⟨bo,oo,ha,hbo,_⟩:=hp k2 (by rw[<-HM.out.1];exact hlt2);have hp2:∀i (hi:i<(XG P).length),∀j,j<7->w2.cell? ⟨bo,oo+i*7+j,MH⟩=(gT (XG P)[i])[j]?:=fun i hi=>by
      obtain⟨b',o',ha',_,h⟩:=hp i hi;rw[ha]at ha';cases ha';exact h
     have ha2:=q1.trans ha;have HP:M6 (_/\_):=⟨hbo,hp2⟩;have HK:M6 _:=Xx (l:=XG P) (k:=k2) (by rw[<-HM.out.1];exact hlt2);have hbw:bo<wr.heap.size:=M8 hbo HX.out.size;clear hp hp2 hbo q1 ha;subst ha2;have hix:k2<(XG P).length:=by rw[<-HM.out.1];omega
     have hcwx:=fun t (ht:t<7)=>(HX.out.cell (p:=⟨bo,oo+k2*7+t,MH⟩) HP.out.1).trans (HP.out.2 k2 hix t ht)
     obtain⟨x,hx⟩:∃x,x=(XG P)[k2]'hix:=⟨_,rfl⟩;rw[<-hx]at hcwx;have x0:wr.cell? ⟨bo,oo+k2*7,MH⟩=MI (MF ME x.kind):=hcwx 0 (by omega);have x4:wr.cell? ⟨bo,oo+k2*7+4,MH⟩=MI (MF ME x.req):=hcwx 4 (by omega);clear hcwx;rw[<-hx]at HK;have HXX:M6 _:=hx;clear hx
     by_cases h9:x.kind=9
     rotate_left
     ·have h9':(x.kind != 9)=true:=by simp[h9]
      rw[Nf h9]at HK;go_wp2
      go_roundw
      case rel=>exact⟨k2+1,d,rfl,by simp,hlt2,by omega,(HE.out.trans HK.out.symm:d=Xw (XG P) (k2+1)),HX⟩
      case measure=>simp[intOf];omega
     ·have h9':(x.kind != 9)=false:=by simp[h9]
      rw[Nh h9]at HK;have H9:M6 (x.kind=9):=h9;clear h9;go_wp2;clear x0 x4 hbw h9'
      go_loopw [13] (fun i wr=>∃j:Nat,i=MF ME (j:Int)/\j<=k2/\M6 (MQ w2.heap.size w2 wr)) (fun i _=>k2-(intOf i).toNat)
      case atStart=>exact⟨0,rfl,Nx _,HX⟩
      case round =>
       obtain⟨j,rfl,hj,HZ⟩:=hrel
       by_cases hlj:j<k2
       ·have hjI:(j:Int)<(k2:Int):=by omega
        have hjm:(j:Int)<(m:Int):=by omega
        have hbw:bo<wr.heap.size:=M8 HP.out.1 HZ.out.size;have hiy:j<(XG P).length:=by rw[<-HM.out.1];omega
        have hcwy:=fun t (ht:t<7)=>(HZ.out.cell (p:=⟨bo,oo+j*7+t,MH⟩) HP.out.1).trans (HP.out.2 j hiy t ht)
        obtain⟨y,hy⟩:∃x,x=(XG P)[j]'hiy:=⟨_,rfl⟩;rw[<-hy]at hcwy;have y0:wr.cell? ⟨bo,oo+j*7,MH⟩=MI (MF ME y.kind):=hcwy 0 (by omega);have y4:wr.cell? ⟨bo,oo+j*7+4,MH⟩=MI (MF ME y.req):=hcwy 4 (by omega);clear hcwy;have hiz:k2<(XG P).length:=by rw[<-HM.out.1];omega
        have hcwz:=fun t (ht:t<7)=>(HZ.out.cell (p:=⟨bo,oo+k2*7+t,MH⟩) HP.out.1).trans (HP.out.2 k2 hiz t ht)
        obtain⟨z,hz⟩:∃x,x=(XG P)[k2]'hiz:=⟨_,rfl⟩;rw[<-hz]at hcwz;have z0:wr.cell? ⟨bo,oo+k2*7,MH⟩=MI (MF ME z.kind):=hcwz 0 (by omega);have z4:wr.cell? ⟨bo,oo+k2*7+4,MH⟩=MI (MF ME z.req):=hcwz 4 (by omega);clear hcwz;obtain rfl:z=x:=hz.trans HXX.out.symm;have hcs:(y.kind == 9)=Nb\/((y.kind == 9)=Nw/\(y.req == z.req)=Nb):=by
         by_cases h:y.kind=9
         ·refine NF ⟨by simp[h],?_⟩
          have hne:=Xv HM.out.2.1 (i:=j) (j:=k2) (by rw[<-HM.out.1];exact hlt2) hlj (by rw[<-hy];exact h) (by rw[<-hz];exact H9.out);rw[<-hy,<-hz]at hne
          simpa using hne
         ·exact Nt (by simpa using h)
        clear hy hz;rcases hcs with h|⟨h,h'⟩
        all_goals
         go_wp2;refine wp_region_quiet_lit (by kernel_rfl) (by kernel_rfl) ?_
         repeat (first|go_big_quiet_skip|quiet_step (fail))
         refine wpQuiet_nil ?_;intro _ hw';obtain⟨nq,hw''⟩:=hw';subst hw'';go_wp2
         go_roundw
         case rel=>exact⟨j+1,by simp,hlj,HZ.out.trans ((B3 (MY _ _) nq).mono HZ.out.size)⟩
         case measure=>simp[intOf];omega
       ·obtain rfl:j=k2:=by omega
        have hjI:¬(j:Int)<(j:Int):=by omega
        go_wp2
        go_roundw
        case rel=>exact⟨_,_,_,⟨j+1,d+1,rfl,rfl,hlt2,by omega,(by have h1:=HK.out;have h2:=HE.out;exact(by omega:d+1=Xw (XG P) (j+1)))⟩,rfl,by simp,by simp⟩
        case measure=>simp[intOf];omega
    ·obtain rfl:k2=m:=by omega
     have hkI2:¬(k2:Int)<(k2:Int):=by omega
     go_wp2
     go_loopw [14,15] (fun dr i wr=>∃v f4:Nat,dr=MF ME (f4:Int)/\i=MF ME (v:Int)/\v<=12/\f4<=v/\M6 (f4=WX P.last.liv v)/\M6 (MQ w2.heap.size w2 wr)) (fun _ i _=>12-(intOf i).toNat)
     case atStart=>exact⟨0,0,rfl,rfl,Nx _,Nx _,rfl,HX⟩
     case round =>
      obtain⟨v,f4,rfl,rfl,hv,hfv,HF,HY⟩:=hrel
      by_cases hlv:v<12
      ·have hvI:(v:Int)<12:=by omega
       have hSr:=HS2.out.on HY.out;have hgl:=hSr.pat.lt;obtain⟨M,hM⟩:∃M,M=(ef V.u P.last).toList:=⟨_,rfl⟩;have hR:=hSr.pat.Mo;rw[<-hM]at hR;have HG:M6 (_/\(Tryz.prog.info? 54).map (·.size)=MI M.length/\_):=⟨hR,(by rw[hM];exact iN),XP hM hSr.pat.last.now (v:Int)⟩;have HK:M6 _:=WZ P.last.liv v;obtain⟨st,hst⟩:∃st,st=aA P.last.liv (v:Int):=⟨_,rfl⟩;rw[<-hst]at HG HK;clear hSr hR hM hst
       go_wp2_with ((with_reducible refine O3 rfl 54 (O6 117) rfl g 17 ?gx M _ ?gc Tryz.underlying54 ?gd ?gi ?_);(case gx=>rfl);(case gc=>exact HG.out.1);(case gd=>rfl);(case gi=>exact HG.out.2.1))
       refine Calls.mono HG.out.2.2 ?_;rintro r w5 ⟨rfl,hb5⟩;have HU:M6 _:=HY.out.trans (hb5.mono HY.out.size);clear hb5
       by_cases h3:st=3
       ·have h3':(st == 3)=true:=by simp[h3]
        rw[Nh h3]at HK;clear h3;go_wp2
        go_roundw
        case rel=>exact⟨v+1,f4+1,by simp,by simp,hlv,by omega,(by have h1:=HK.out;have h2:=HF.out;exact(by omega:f4+1=WX P.last.liv (v+1))),HU⟩
        case measure=>simp[intOf];omega
       ·have h3':(st == 3)=false:=by simp[h3]
        rw[Nf h3]at HK;clear h3;go_wp2
        go_roundw
        case rel=>exact⟨v+1,f4,rfl,by simp,hlv,by omega,(HF.out.trans HK.out.symm:f4=WX P.last.liv (v+1)),HU⟩
        case measure=>simp[intOf];omega
      ·obtain rfl:v=12:=by omega
       have hq:((a:Int) == (d:Int)+(f4:Int))=true:=by
        have h1:=HM.out.2.2;have h2:=HA.out;have h3:=HE.out;have h4:=HF.out;have:a=d+f4:=by omega
        simp;omega
       have hvI:¬(((12:Nat):Int))<12:=by omega
       have hwr:IntKind.i64.wrap ((d:Int)+(f4:Int))=(d:Int)+(f4:Int):=by rw[Ow];omega
       go_wp2;go_ret;exact⟨rfl,HR.out.2.trans (HY.out.mono HR.out.2.size)⟩
end Go.Proofs.YtlnbhjdhcmgljaaGreatDoor.Q
