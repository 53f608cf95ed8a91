/-
  TopDrain: its walk. Conditions: as each theorem says.
-/
import Derived.Test.YtmpokpecfclapaaGreatDoorQ20
open Bool renaming false->Nb,true->Nw
open Decidable renaming decide->Nn
open Go renaming Addr->Oc,Calls->Ni,Value->M7,World->MO,cell_of_row->MW,heap_alloc_new->M1
open Go.Calls renaming mono->Nd
open Go.Ending renaming returned->MN
open Go.IntKind renaming i64->ME,wrap_i64->Ow
open Go.Proofs.Tryz renaming func231->R2,prog->MK
open Go.RowKit renaming Below->MQ,Hid->M6
open Go.Value renaming agg->Ny,bool->M3,int->MF,slice->MG
open Go.World renaming block_lt_of_cell?->MX
open List renaming append_assoc->OC,append_nil->OG,countP_append->Qi,countP_cons->az9,countP_cons_of_neg->aAb,drop_append_of_le_length->az7,findIdx_getElem->az5,flatten_append->PV,getElem?_append_left->OJ,getElem?_append_right->Tw,getElem?_eq_getElem->MR,getElem?_set_ne->N3,getElem_mem->Nk,length_take->NH,map_append->OI,map_cons->OA,mem_append_left->az6,mem_append_right->Qq,mem_of_getElem?->Nu,mem_singleton->PY,nil_append->Oz,perm_middle->QC,set_cons_succ->MM,set_cons_zero->ML,take_append_drop->Oo,take_append_of_le_length->ZqA,take_length->NT,take_succ_eq_append_getElem->M9
open List.Perm renaming append_left->az8,of_eq->aAc,refl->aAa
open Nat renaming add_zero->Oe,le_refl->MV,le_trans->Nm,min_eq_left->P1,zero_le->Nx
open Option renaming none->MH,some->MI
open Or renaming inl->Nt,inr->NF
namespace Go.Proofs.YtmpokpecfclapaaGreatDoor.Q
set_option linter.unusedVariables false
set_option linter.unusedSimpArgs false
set_option maxHeartbeats 16000000
set_option maxRecDepth 100000
open Go.RowKit
attribute [local go_sem ↓] Go.wp_at_zero Go.wp_at_succ
variable {e:Ev}{X:Gt}{L:List awV}{Y w:MO}{g i n:Nat}{V:Pv}{s:Sp}
theorem azx{b:Int}(h:∀x∈L,x.1≠b)(y:awV->awV):Yq L b y=L:=by
 unfold Yq
 conv=>rhs;rw[<-List.map_id L]
 exact List.map_congr_left fun x hx=>by rw[Nf (h x hx)];rfl
section
variable {A:Gt}{c:Cf}{P:Py}
theorem aaB.next(h:aaB c s):Wm s.aft:=by rw[h.aft];exact(h.wm.Mm (aeH h.ev) h.late).Ma
end
section
variable {G:Gt}{c:Cf}
theorem azg(hb:Ym X.liv X.req)(d b:Int):WS (Yf X d).liv b=WS X.liv b\/(b=d/\WY X.liv b=3/\WY (Yf X d).liv b=4):=by
 unfold Yf
 split
 ·rename_i hc
  show WS (aau X.liv X.req d).1.1 b=WS X.liv b\/(b=d/\WY X.liv b=3/\(WS (aau X.liv X.req d).1.1 b).2.1=4);rw[(ako hb hc.1).1];show WS (Yq X.liv d ZF) b=WS X.liv b\/(b=d/\WY X.liv b=3/\(WS (Yq X.liv d ZF) b).2.1=4);rw[aqP hb.1.2.2 hc.1]
  by_cases e:b=d
  ·subst e
   rw[Nh rfl];exact NF ⟨rfl,hc.1,rfl⟩
  ·rw[Nf e];exact Nt rfl
 ·exact Nt rfl
end
section
variable {G:Gt}{c:Cf}
theorem azh(hb:Ym G.liv G.req)(b:Int):(Yf G b).req=G.req:=by
 unfold Yf
 split
 ·rename_i h
  show(aau G.liv G.req b).1.2=G.req;rw[(ako hb h.1).1]
 ·rfl
theorem azG(hm:Wm G)(he:XZ e)(h7:e.kind=7->G.now+1<=1099511626776)(h5:e.kind≠5)(h6:e.kind≠6):(Xb G e).req=G.req:=by
 have d:=hm.im.bs;have j:∀(X:Gt) (f:Fl) (k y:Int),Bs X->f∈X.fls->(Yg X f k y).req=X.req:=fun X f k y hX hf=>azh (G:=ZM {X with tab:=(ZQ X.tab f.slot f.gen).1,fls:=Yl X.fls f.slot f.gen,tms:=fun t=>X.tms t/\t.2≠f.slot} ⟨k,f.slot,f.gen,f.be,0,0,y⟩) hX.book _
 have m:∀(X:Gt) (i:Nat) (y:Int),Bs X->i<X.fls.length->(YP X i y).req=X.req:=fun X i y hX a=>by
  have p:=(hX.F9 (Nk a)).2.2.2;rcases aeI hX a y with⟨z,q,C⟩|⟨b,q,F,D,E,o,_⟩
  ·rw[q];exact j (Yh X X.fls[i].be Nw) _ _ _ (hX.GA p Nw) (Nk a)
  ·obtain⟨T,e⟩:=ak0 (G:={Yh X X.fls[i].be Nw with tok:=X.tok-X.cfg.bd}) a b
   rw[q,e];exact azh (G:=ZM {Yh X X.fls[i].be Nw with tok:=X.tok-X.cfg.bd,tab:=(Y0 X.tab X.fls[i].slot X.fls[i].gen b).1,fls:=X.fls.set i {X.fls[i]with be:=b,ret:=X.fls[i].ret+1,due:=X.now+X.cfg.conn},tms:=T} ⟨5,X.fls[i].slot,X.fls[i].gen,b,0,0,0⟩) hX.book _
 unfold Xb
 split
 ·rcases afU d he.key with⟨q,_⟩|⟨q,_⟩|⟨k,x,_,_,o,_,_,B,_,q⟩ <;> (rw[q];rfl)
 ·split
  ·rename_i k7
   refine alk (R:=fun X=>X.req=G.req) hm (h7 k7) ?_ (fun X f y hX hf hy hR=>(j X f 6 y hX.bs hf).trans hR) (fun X i hX a v hR=>(m X i 5 hX.bs a).trans hR);show(YH {G with now:=G.now+1}).req=G.req;rw[af3 (d.next (h7 k7))];exact(ahR _ _).2.2.2.2.2.2.2.2.1
  ·rcases akr d e with⟨o,q⟩|⟨i,a,_,_,_,⟨_,q⟩|⟨_,q⟩|⟨_,_,⟨_,q⟩|⟨_,_,q⟩|⟨v,_,q⟩⟩⟩
   ·rw[q];rfl
   ·rw[q];exact j G _ _ _ d (Nk a)
   ·obtain⟨T,l⟩:=aks a
    rw[q,l];rfl
   ·rw[q];rfl
   ·obtain⟨T,l⟩:=alb a
    rw[q,l];rfl
   ·rw[q];exact m G i 3 d a
theorem azA(hm:Wm G)(ho:G.out=[])(he:XZ e)(hk:e.kind=5\/e.kind=6):
  (∃q∈G.req,q.1=e.req/\(Xb G e).req=G.req/\(Xb G e).out=[⟨8,0,0,0,e.req,q.2.2.2.2,0⟩]) \/
  (G.req.length=100/\(∀q∈G.req,q.1≠e.req)/\(Xb G e).req=G.req/\(Xb G e).out=[⟨8,0,0,0,e.req,9,0⟩]) \/
  ((∀q∈G.req,q.1≠e.req)/\∃(q:aw0) (l:List Ou),q.1=e.req/\(Xb G e).req=G.req++[q]/\(Xb G e).out=⟨8,0,0,0,e.req,q.2.2.2.2,0⟩::l /\
   ((e.kind=5/\q.2.2.2.2=(Zu G.liv e.be e.wt).2/\(Xb G e).liv=(Zu G.liv e.be e.wt).1) \/
     (e.kind=6/\q.2.2.2.2=(ZH G.liv e.be e.req (G.now+G.cfg.drain)).2/\(q.2.2.2.2≠0->(Xb G e).liv=G.liv)))):=by
 have d:=hm.im.bs;have J:∀X b,∃l,(Yf X b).out=X.out++l:=fun X b=>by
  unfold Yf
  split
  ·exact⟨_,rfl⟩
  ·exact⟨[],by simp⟩
 rcases hk with hk|hk
 ·have p:Xb G e=Yv G 1 e:=by unfold Xb;rw[Nf (by omega),Nh hk]
  have k:(Yv G 1 e).out=[⟨8,0,0,0,e.req,(YV G 1 e).2.1,0⟩]:=by show G.out++[_]=_;rw[ho];rfl
  have I:(Yv G 1 e).req=(YV G 1 e).1.2:=rfl;rw[p,k,I];have F:(Yv G 1 e).liv=(YV G 1 e).1.1:=rfl;rw[F];unfold YV;rcases aj0 d.book (d.Jd (e:=e) he.req (Nt rfl:(1:Int)=1\/(1:Int)=2))with⟨j,q⟩|⟨m,t,q⟩|⟨m,t,q⟩
  ·refine Nt ⟨_,Nk j,?_,by rw[q],by rw[q,MR j];rfl⟩
   exact eq_of_beq (az5 (w:=j))
  ·exact NF (Nt ⟨t,m,by rw[q],by rw[q]⟩)
  ·refine NF (NF ⟨m,(e.req,1,e.be,e.wt,(Zu G.liv e.be e.wt).2),[],rfl,?_,?_,Nt ⟨hk,rfl,?_⟩⟩)
   ·rw[q];unfold Zl;rw[Nh rfl]
   ·rw[q];unfold Zl;rw[Nh rfl]
   ·rw[q];unfold Zl;rw[Nh rfl]
 ·have p:Xb G e=abg G e:=by unfold Xb;rw[Nf (by omega),Nf (by omega),Nh hk]
  have k:(Yv G 2 e).out=[⟨8,0,0,0,e.req,(YV G 2 e).2.1,0⟩]:=by show G.out++[_]=_;rw[ho];rfl
  have D:=aj0 d.book (d.Jd (e:=e) he.req (NF rfl:(2:Int)=1\/(2:Int)=2));have v:(YV G 2 e).2.2.1=Nb->Xb G e=Yv G 2 e:=fun h=>by
   rw[p];unfold abg acC;rw[h,Nh (by simp)]
  rcases D with⟨j,q⟩|⟨m,t,q⟩|⟨m,t,q⟩
  ·have a:YV G 2 e=_:=q
   refine Nt ⟨_,Nk j,?_,by rw[v (by rw[a]),show(Yv G 2 e).req=(YV G 2 e).1.2 from rfl,a],by rw[v (by rw[a]),k,a,MR j];rfl⟩;exact eq_of_beq (az5 (w:=j))
  ·have a:YV G 2 e=_:=q
   exact NF (Nt ⟨t,m,by rw[v (by rw[a]),show(Yv G 2 e).req=(YV G 2 e).1.2 from rfl,a],by rw[v (by rw[a]),k,a]⟩)
  ·have a:YV G 2 e=_:=q
   have C:(YV G 2 e).1.2=G.req++[(e.req,2,e.be,0,(ZH G.liv e.be e.req (G.now+G.cfg.drain)).2)]:=by rw[a];unfold Zl;rw[Nf (show ¬(2:Int)=1 by decide)]
   have z:(YV G 2 e).2.1=(ZH G.liv e.be e.req (G.now+G.cfg.drain)).2:=by rw[a];unfold Zl;rw[Nf (show ¬(2:Int)=1 by decide)]
   have E:=(aom d.book (d.Jd (e:=e) he.req (NF rfl:(2:Int)=1\/(2:Int)=2)) d.since).2.1;have H:(Xb G e).req=(YV G 2 e).1.2:=by
    rw[p];unfold abg
    split
    ·rfl
    ·split
     ·rfl
     ·exact azh (G:={Yv G 2 e with wts:=G.wts.set e.be.toNat 0}) E _
   have x:∃l,(Xb G e).out=⟨8,0,0,0,e.req,(YV G 2 e).2.1,0⟩::l:=by
    rw[p];unfold abg
    split
    ·exact⟨[],k⟩
    ·split
     ·exact⟨[⟨9,0,0,e.be,e.req,0,0⟩],by show(Yv G 2 e).out++[_]=_;rw[k];rfl⟩
     ·obtain⟨l,o⟩:=J {Yv G 2 e with wts:=G.wts.set e.be.toNat 0} e.be
      exact⟨l,by rw[o];show(Yv G 2 e).out++_=_;rw[k];rfl⟩
   obtain⟨l,x⟩:=x;rw[z]at x;refine NF (NF ⟨m,_,l,rfl,H.trans C,x,NF ⟨hk,rfl,fun y=>?_⟩⟩);have y:(ZH G.liv e.be e.req (G.now+G.cfg.drain)).2≠0:=y;have B:acC G 2 e=false:=by
    unfold acC;rw[z];simp[y]
   rw[p];unfold abg;rw[Nh B];rcases ahC d he.req with⟨_,o⟩|⟨o,_⟩
   ·exact o
   ·rw[B]at o;cases o
end
section
variable {A:Gt}{c:Cf}{P:Py}
abbrev ay3(e:Ev):Prop:=e.kind=5\/e.kind=6
end
def azj(l:List Ou):List Int:=(l.filter fun o=>o.kind == 9).map fun o=>o.req
def ay7(L:List awV):List Int:=(L.filter fun l=>l.2.1 == 3).map fun l=>l.2.2.2.2.2
theorem azk(l m:List Ou):azj (l++m)=azj l++azj m:=by simp[azj]
theorem azl{o:Ou}(h:o.kind≠9):azj [o]=[]:=by simp[azj,h]
theorem ay8(l m:List awV):ay7 (l++m)=ay7 l++ay7 m:=by simp[ay7]
theorem ay9(x:awV)(l:List awV):ay7 (x::l)=(if x.2.1=3 then [x.2.2.2.2.2]else [])++ay7 l:=by
 by_cases h:x.2.1=3 <;> simp[ay7,h]
theorem azw(hr:Zq L){b:Int}(h:WY L b≠0):∃l m,L=l++WS L b::m/\∀y,Yq L b y=l++y (WS L b)::m:=by
 obtain⟨j,e⟩:=adl h;obtain⟨x,k⟩:∃x,x=WS L b:=⟨_,rfl⟩;rw[<-k]at j e⊢;clear k h;obtain⟨l,m,rfl⟩:=List.append_of_mem j;obtain⟨_,o,p⟩:=List.pairwise_append.1 hr;obtain⟨q,_⟩:=List.pairwise_cons.1 o;refine⟨l,m,rfl,fun y=>?_⟩;have d:Yq l b y=l:=azx (fun z hz=>by have:=p z hz x (List.mem_cons_self ..);omega) y;have a:Yq m b y=m:=azx (fun z hz=>by have:=q z hz;omega) y;unfold Yq at d a⊢;rw[OI,OA,d,a,Nh e]
theorem aza(hr:Zq L){b:Int}(h3:WY L b=3):((WS L b).2.2.2.2.2::ay7 (Yq L b ZF)).Perm (ay7 L):=by
 obtain⟨l,m,a,d⟩:=azw hr (b:=b) (by omega);obtain⟨x,j⟩:∃x,x=WS L b:=⟨_,rfl⟩;have h3:(WS L b).2.1=3:=h3;rw[d];rw[<-j]at a h3⊢;rw[a,ay8,ay8,ay9,ay9,Nf (show ¬(ZF x).2.1=3 from(show ¬(4:Int)=3 by decide)),Nh h3];exact List.perm_middle.symm
theorem azb(hr:Zq L){b:Int}(h2:WY L b=2)(u r:Int):(ay7 (Yq L b fun x=>aag x u r)).Perm (r::ay7 L):=by
 obtain⟨l,m,a,j⟩:=azw hr (b:=b) (by omega);obtain⟨x,k⟩:∃x,x=WS L b:=⟨_,rfl⟩;have h2:(WS L b).2.1=2:=h2;rw[j];rw[<-k]at a h2⊢;have d:(aag x u r).2.1=3:=by unfold aag;rw[Nh h2]
 rw[a,ay8,ay8,ay9,ay9,Nh d,Nf (by omega)];exact QC
theorem azd(hr:Zq L){b:Int}(h1:WY L b=1)(u r:Int):ay7 (Yq L b fun x=>aag x u r)=ay7 L:=by
 obtain⟨l,m,a,d⟩:=azw hr (b:=b) (by omega);obtain⟨x,j⟩:∃x,x=WS L b:=⟨_,rfl⟩;have h1:(WS L b).2.1=1:=h1;rw[d];rw[<-j]at a h1⊢;have k:(aag x u r).2.1=4:=by unfold aag;rw[Nf (by omega)]
 rw[a,ay8,ay8,ay9,ay9,Nf (by omega),Nf (by omega)]
theorem aze:∀(L:List awV) (p:Nat) (v:awV),(L[p]?.getD (0,0,0,0,0,0)).2.1≠3->v.2.1≠3->ay7 (L.set p v)=ay7 L
 | [],_,_,_,_=>rfl
 |x::L,0,v,a,h2=>by
  have a:x.2.1≠3:=a;rw[ML,ay9,ay9,Nf a,Nf h2]
 |x::L,p+1,v,a,h2=>by
  rw[MM,ay9,ay9,aze L p v (by simpa using a) h2]
theorem azc(L:List awV)(n m:Int):ay7 (Zu L n m).1=ay7 L:=by
 unfold Zu
 split
 ·rfl
 ·split
  ·split
   ·rename_i h4
    exact aze _ _ _ (by rw[h4];decide) (show ¬(1:Int)=3 by decide)
   ·rfl
  ·show ay7 (Xi L _ _)=ay7 L
   unfold Xi;rw[ay8,ay9,Nf (show ¬(1:Int)=3 by decide),Oz,<-ay8,Oo]
theorem azf(n:Int):∀L:List awV,ay7 (L.map (XH n))=ay7 L
 | []=>rfl
 |x::L=>by
  rw[OA,ay9,ay9,azf n L]
  congr 1
  unfold XH
  by_cases h:x.2.1=1
  ·rw[Nh h,Nf (show ¬(2:Int)=3 by decide),Nf (by omega)]
  ·rw[Nf h]
section
variable {G:Gt}{c:Cf}
def azr(X:Gt):List Int:=azj X.out++ay7 X.liv
theorem azs(hb:Ym X.liv X.req)(d:Int):(azr (Yf X d)).Perm (azr X):=by
 unfold Yf
 split
 ·rename_i hc
  rw[(ako hb hc.1).1];show(azj (X.out++[_])++ay7 (Yq X.liv d ZF)).Perm (azj X.out++ay7 X.liv);rw[azk,OC];exact az8 _ (aza hb.1.2.2 hc.1)
 ·exact aAa _
theorem azv(X:Gt){o:Ou}(h:o.kind≠9):azr (ZM X o)=azr X:=by
 show azj (X.out++[o])++ay7 X.liv=_;rw[azk,azl h,OG];rfl
theorem azt(hb:Bs X)(f:Fl){k:Int}(hk:k≠9)(y:Int):(azr (Yg X f k y)).Perm (azr X):=by
 unfold Yg;refine(azs ?_ _).trans ?_
 ·exact hb.book
 ·rw[azv _ hk];exact aAa _
theorem azu(hb:Bs X)(hi:i<X.fls.length)(y:Int):(azr (YP X i y)).Perm (azr X):=by
 have a:=(hb.F9 (Nk hi)).2.2.2;rcases aeI hb hi y with⟨z,q,l⟩|⟨b,q,m,j,k,d,_⟩
 ·rw[q];exact azt (X:=Yh X X.fls[i].be Nw) (hb.GA a Nw) _ (by decide) _
 ·obtain⟨T,e⟩:=ak0 (G:={Yh X X.fls[i].be Nw with tok:=X.tok-X.cfg.bd}) hi b
  rw[q,e];refine(azs ?_ _).trans ?_
  ·exact hb.book
  ·rw[azv _ (show(5:Int)≠9 by decide)];exact aAa _
def azo(G:Gt)(e:Ev):Prop:=e.kind=6/\(∃o l,(Xb G e).out=o::l/\o.code=0)/\G.req.length<(Xb G e).req.length
theorem azC(hm:Wm G)(ho:G.out=[])(he:XZ e)(h7:e.kind=7->G.now+1<=1099511626776):
  (¬azo G e/\(azr (Xb G e)).Perm (azr G))\/(azo G e/\(∀q∈G.req,q.1≠e.req)/\(∃q∈(Xb G e).req,q.1=e.req)/\(azr (Xb G e)).Perm (e.req::azr G)):=by
 have d:=hm.im.bs
 by_cases k6:e.kind=6
 ·have p:Xb G e=abg G e:=by unfold Xb;rw[Nf (by omega),Nf (by omega),Nh k6]
  have N:=azA hm ho he (NF k6);have a0:=ahC d he.req;rcases a0 with⟨m,q⟩|⟨m,v,hz,a5,q⟩
  ·have O:Xb G e=Yv G 2 e:=by rw[p];unfold abg;rw[Nh m]
   refine Nt ⟨fun E=>?_,?_⟩
   ·obtain⟨_,⟨o,l,D,K⟩,B⟩:=E
    rcases N with⟨_,_,_,j,_⟩|⟨_,_,j,_⟩|⟨j,x,U,_,Z,J,⟨C,_⟩|⟨_,C,h9⟩⟩
    ·rw[j]at B;omega
    ·rw[j]at B;omega
    ·omega
    ·rw[J]at D
     have F:x.2.2.2.2=0:=by rw[<-K,<-(List.cons.inj D).1]
     rcases ag7 d he.req (NF rfl:(2:Int)=1\/(2:Int)=2)with⟨_,a⟩|⟨_,a,_⟩|⟨a,_,_,a2⟩
     ·have a3:(Xb G e).req=G.req:=by rw[O];show(YV G 2 e).1.2=G.req;rw[a]
      rw[a3]at B;omega
     ·exact absurd a (by decide)
     ·unfold acC at m
      rw[a,a2,<-C,F]at m;exact absurd m (by decide)
   ·rw[O]
    show(azr (ZM {G with liv:=(YV G 2 e).1.1,req:=(YV G 2 e).1.2} ⟨8,0,0,0,e.req,(YV G 2 e).2.1,0⟩)).Perm (azr G);rw[azv _ (show(8:Int)≠9 by decide)];show(azj G.out++ay7 (YV G 2 e).1.1).Perm _;rw[q];exact aAa _
  ·have H:(∀x∈G.req,x.1≠e.req)/\∃(x:aw0) (l:List Ou),x.1=e.req/\(Xb G e).req=G.req++[x]/\(Xb G e).out=⟨8,0,0,0,e.req,x.2.2.2.2,0⟩::l/\x.2.2.2.2=0:=by
    rcases ag7 d he.req (NF rfl:(2:Int)=1\/(2:Int)=2)with⟨a,_⟩|⟨_,a,_⟩|⟨_,_,_,a2⟩
    ·rw[a]at v;cases v
    ·exact absurd a (by decide)
    ·have z:(Xb G e).req=(YV G 2 e).1.2:=by
      have I:=(aom d.book (d.Jd (e:=e) he.req (NF rfl:(2:Int)=1\/(2:Int)=2)) d.since).2.1;rw[p];unfold abg
      split
      ·rfl
      ·split
       ·rfl
       ·exact azh (G:={Yv G 2 e with wts:=G.wts.set e.be.toNat 0}) I _
     have M:(YV G 2 e).1.2.length=G.req.length+1:=by
      have H:=aj0 d.book (d.Jd (e:=e) he.req (NF rfl:(2:Int)=1\/(2:Int)=2));rcases H with⟨_,h⟩|⟨_,_,h⟩|⟨_,_,h⟩
      ·have h:YV G 2 e=_:=h
       rw[h]at v;cases v
      ·have h:YV G 2 e=_:=h
       rw[h]at v;cases v
      ·have h:YV G 2 e=_:=h
       rw[h];unfold Zl;rw[Nf (show ¬(2:Int)=1 by decide)];simp
     rcases N with⟨_,_,_,j,_⟩|⟨_,_,j,_⟩|⟨j,x,U,F,Z,J,⟨C,_⟩|⟨_,C,h9⟩⟩
     ·rw[z]at j;rw[j]at M;omega
     ·rw[z]at j;rw[j]at M;omega
     ·omega
     ·exact⟨j,x,U,F,Z,J,by rw[C,<-a2,hz]⟩
   obtain⟨a1,x,l,x1,S,x3,x4⟩:=H;refine NF ⟨⟨k6,⟨_,l,x3,x4⟩,by rw[S];simp⟩,a1,⟨x,by rw[S];simp,x1⟩,?_⟩;rw[p];unfold abg;rw[Nf (by rw[m];decide)];have t:azr (Yv G 2 e)=azj G.out++ay7 (Yq G.liv e.be fun x=>aag x (G.now+G.cfg.drain) e.req):=by
    show azr (ZM {G with liv:=(YV G 2 e).1.1,req:=(YV G 2 e).1.2} ⟨8,0,0,0,e.req,(YV G 2 e).2.1,0⟩)=_;rw[azv _ (show(8:Int)≠9 by decide),<-q];rfl
   split
   ·rename_i D
    show(azj ((Yv G 2 e).out++[_])++ay7 (Yv G 2 e).liv).Perm _;rw[azk,OC];have K:azj (Yv G 2 e).out=azj G.out:=by
     show azj (G.out++[_])=_;rw[azk,azl (show(8:Int)≠9 by decide),OG]
    have B:ay7 (Yv G 2 e).liv=ay7 G.liv:=by
     show ay7 (YV G 2 e).1.1=_;rw[q];exact azd d.Gv D _ _
    rw[K,B];exact QC
   ·rename_i D
    have I:Ym (Yv G 2 e).liv (Yv G 2 e).req:=(d.Mc he.req (NF rfl:(2:Int)=1\/(2:Int)=2)).book;refine(azs (X:={Yv G 2 e with wts:=G.wts.set e.be.toNat 0}) I e.be).trans ?_;show(azr (Yv G 2 e)).Perm _;rw[t];refine(az8 _ (azb d.Gv (by omega) _ _)).trans ?_;exact QC
 ·refine Nt ⟨fun E=>k6 E.1,?_⟩
  unfold Xb
  split
  ·rcases afU d he.key with⟨q,_⟩|⟨q,_⟩|⟨k,a4,_,_,hc,_,_,E,_,q⟩ <;> rw[q]
   ·exact aAc (azv _ (show(2:Int)≠9 by decide))
   ·exact aAc (azv _ (show(2:Int)≠9 by decide))
   ·exact aAc (azv _ (show(1:Int)≠9 by decide))
  ·split
   ·refine aAc ?_
    show azr (ZM {G with liv:=(YV G 1 e).1.1,req:=(YV G 1 e).1.2} ⟨8,0,0,0,e.req,(YV G 1 e).2.1,0⟩)=azr G;rw[azv _ (show(8:Int)≠9 by decide)];show azj G.out++ay7 (YV G 1 e).1.1=_;rcases ag7 d he.req (Nt rfl:(1:Int)=1\/(1:Int)=2)with⟨_,q⟩|⟨_,_,q,_⟩|⟨_,k,_⟩
    ·rw[q];rfl
    ·rw[q,azc];rfl
    ·exact absurd k (by decide)
   ·split
    ·rename_i k7
     refine alk (R:=fun X=>(azr X).Perm (azr G)) hm (h7 k7) ?_ (fun X f y hX hf m z=>(azt hX.bs f (by decide) y).trans z) (fun X i hX t hv z=>(azu hX.bs t 5).trans z);obtain⟨_,_,_,_,s5,_,_,s8⟩:=aeS (d.next (h7 k7));refine aAc ?_;show azj (YH {G with now:=G.now+1}).out++ay7 (YH {G with now:=G.now+1}).liv=_;rw[s5,s8];show azj G.out++ay7 (G.liv.map (XH (G.now+1)))=_;rw[azf];rfl
    ·rcases akr d e with⟨hc,q⟩|⟨i,t,_,_,_,⟨_,q⟩|⟨_,q⟩|⟨_,_,⟨_,q⟩|⟨_,_,q⟩|⟨hv,_,q⟩⟩⟩
     ·rw[q];exact aAc (azv _ (show(10:Int)≠9 by decide))
     ·rw[q];exact azt d _ (by decide) _
     ·obtain⟨T,p⟩:=aks t
      rw[q,p];exact aAc (azv _ (show(3:Int)≠9 by decide))
     ·rw[q];exact aAc (azv _ (show(10:Int)≠9 by decide))
     ·obtain⟨T,p⟩:=alb t
      rw[q,p];exact aAc (azv _ (show(4:Int)≠9 by decide))
     ·rw[q];exact azu d t 3
end
section
variable {A:Gt}{c:Cf}{P:Py}
def Sp.az0(s:Sp):Bool:=s.ev.kind == 6 && ((s.out.head?.map fun o=>o.code == 0).getD Nb) && Nn (s.bef.req.length<s.aft.req.length)
def azp(l:List Sp):List Int:=(l.filter Sp.az0).map fun s=>s.ev.req
theorem azF{G:Gt}(hm:Wm G)(ho:G.out=[])(he:XZ e)(h7:e.kind=7->G.now+1<=1099511626776):∃l,(Xb G e).req=G.req++l:=by
 by_cases hk:ay3 e
 ·rcases azA hm ho he hk with⟨q,_,_,a,_⟩|⟨_,_,a,_⟩|⟨_,q,l,_,a,_⟩
  ·exact⟨[],by rw[a];simp⟩
  ·exact⟨[],by rw[a];simp⟩
  ·exact⟨[q],a⟩
 ·exact⟨[],by rw[azG hm he h7 (fun h=>hk (Nt h)) (fun h=>hk (NF h))];simp⟩
theorem Rn.gone(h:Rn A c P)(h0:A.liv=[]):(azj (P.steps.map fun s=>s.out).flatten++ay7 P.last.liv).Perm (azp P.steps)/\(azp P.steps).Nodup:=by
 have B:=h.Mw (J:=fun P=>((azj (P.steps.map fun s=>s.out).flatten++ay7 P.last.liv).Perm (azp P.steps))/\(azp P.steps).Nodup/\∀r∈azp P.steps,∃q∈P.last.req,q.1=r)
  ⟨by show(azj []++ay7 A.liv).Perm [];rw[h0];exact aAa _,List.nodup_nil,(fun r d=>by cases d)⟩ fun Q e hQ he hlt hJ=>?_
 ·exact⟨B.1,B.2.1⟩
 obtain⟨I,F,t⟩:=hJ;have H:=hQ.runs.wm;have U:=hQ.runs.now;have E:=aeH he;have K:e.kind=7->Q.last.now+1<=1099511626776:=fun _=>by omega
 obtain⟨z,m⟩:∃z:Sp,z=⟨e,Q.last,(Xb Q.last e).Ma,(Xb Q.last e).out⟩:=⟨_,rfl⟩;have y:(Q.step e).steps=Q.steps++[z]:=by rw[m];rfl
 have N:(Q.step e).last.liv=(Xb Q.last e).liv:=rfl;have R:(Q.step e).last.req=(Xb Q.last e).req:=rfl;have O:azp (Q.step e).steps=azp Q.steps++if z.az0 then [e.req]else []:=by
  rw[y];unfold azp;rw[List.filter_append,OI]
  congr 1
  by_cases hg:z.az0
  ·rw[Nh hg,List.filter_cons_of_pos hg];simp[m]
  ·rw[Nf hg,List.filter_cons_of_neg hg];rfl
 have S:azj ((Q.step e).steps.map fun s=>s.out).flatten=azj (Q.steps.map fun s=>s.out).flatten++azj (Xb Q.last e).out:=by
  rw[y,OI,PV,azk]
  congr 1
  simp[m]
 have x:z.az0=Nw↔azo Q.last e:=by
  unfold Sp.az0 azo;rw[m];show(((e.kind == 6) && (((Xb Q.last e).out.head?.map fun o=>o.code == 0).getD Nb)) && Nn (Q.last.req.length<(Xb Q.last e).req.length))=Nw↔_;cases hO:(Xb Q.last e).out with
  |nil=>simp
  |cons o l=>simp[and_assoc]
 have C:azr Q.last=ay7 Q.last.liv:=by unfold azr;rw[hQ.runs.out];rfl
 obtain⟨l0,M⟩:=azF H hQ.runs.out E K;rw[O,S,N,R,OC];rcases azC H hQ.runs.out E K with⟨v,p⟩|⟨v,p,T,D⟩
 ·rw[Nf (fun h=>v (x.1 h)),OG]
  rw[C]at p;refine⟨(az8 _ p).trans I,F,fun r d=>?_⟩;obtain⟨q,j,k⟩:=t r d;exact⟨q,by rw[M];exact az6 _ j,k⟩
 ·rw[Nh (x.2 v)]
  rw[C]at D;refine⟨?_,?_,fun r d=>?_⟩
  ·refine(az8 _ D).trans (List.perm_middle.trans ?_)
   exact((List.Perm.cons _ I).trans (List.perm_append_singleton _ _).symm)
  ·refine List.nodup_append.2 ⟨F,by simp,fun a ha b hb=>?_⟩
   rw[PY]at hb;obtain⟨q,j,k⟩:=t a ha;rw[hb,<-k];exact p q j
  ·rcases List.mem_append.1 d with d|d
   ·obtain⟨q,j,k⟩:=t r d
    exact⟨q,by rw[M];exact az6 _ j,k⟩
   ·rw[List.mem_singleton.1 d]
    exact T
end
section
variable {G:Gt}{c:Cf}
theorem ay5{b:Int}:∀(l:List Fl) (i:Nat) (y:Fl),y.be≠b->abu (l.set i y) b<=abu l b
 | [],_,_,_=>MV _
 |x::l,0,y,h=>by
  unfold abu;rw[ML,aAb (by simpa using h),az9];omega
 |x::l,i+1,y,h=>by
  have:=ay5 l i y h;unfold abu at this⊢;rw[MM,az9,az9];omega
theorem ay4{fs:List Fl}(hi:i<fs.length){y:Fl}{b:Int}(hy:y.be=fs[i].be):abu (fs.set i y) b<=abu fs b:=by
 have e:(fs.set i y).map (·.be)=fs.map (·.be):=ahw (·.be) hi hy;have:∀l:List Fl,abu l b=(l.map (·.be)).countP (· == b):=fun l=>by unfold abu;rw[List.countP_map];rfl
 rw[this,this,e];exact MV _
def Ls(b:Int)(n:Nat)(X:Gt):Prop:=(WY X.liv b=3\/WY X.liv b=4)/\abu X.fls b<=n
theorem Ls.drain{b:Int}(h:Ls b n X)(hb:Ym X.liv X.req)(d:Int):Ls b n (Yf X d):=by
 refine⟨?_,by rw[afJ];exact h.2⟩;rcases azg hb d b with e|⟨_,_,e⟩
 ·rw[show WY (Yf X d).liv b=(WS (Yf X d).liv b).2.1 from rfl,e];exact h.1
 ·exact NF e
theorem Ls.ends{b:Int}(h:Ls b n X)(hb:Bs X)(f:Fl)(k y:Int):Ls b n (Yg X f k y):=by
 unfold Yg;refine Ls.drain ⟨?_,?_⟩ ?_ _
 ·exact h.1
 ·exact Nm (List.Sublist.countP_le List.filter_sublist) h.2
 ·exact hb.book
theorem Ls.Mg{b:Int}(h:Ls b n X)(hb:Bs X)(hi:i<X.fls.length)(y:Int):Ls b n (YP X i y):=by
 have a:=(hb.F9 (Nk hi)).2.2.2;rcases aeI hb hi y with⟨z,q,m⟩|⟨d,q,o,l,j,k,_⟩
 ·rw[q];exact Ls.ends (X:=Yh X X.fls[i].be Nw) h (hb.GA a Nw) _ _ _
 ·obtain⟨T,e⟩:=ak0 (G:={Yh X X.fls[i].be Nw with tok:=X.tok-X.cfg.bd}) hi d
  rw[q,e];refine Ls.drain ⟨?_,?_⟩ ?_ _
  ·exact h.1
  ·refine Nm (ay5 _ _ _ ?_) h.2
   show d≠b;intro e;rw[e]at j;have:=h.1;omega
  ·exact hb.book
theorem azE(hm:Wm G)(he:XZ e)(h7:e.kind=7->G.now+1<=1099511626776){b:Int}(h3:WY G.liv b=3):abu (Xb G e).fls b<=abu G.fls b:=by
 have d:=hm.im.bs;have l:Ls b (abu G.fls b) G:=⟨Nt h3,MV _⟩;unfold Xb
 split
 ·rcases afU d he.key with⟨q,_⟩|⟨q,_⟩|⟨k,x,_,m,p,_,_,z,_,q⟩
  ·rw[q];exact MV _
  ·rw[q];exact MV _
  ·rw[q]
   show abu (Xi G.fls _ _) b<=_;unfold abu Xi;rw[Qi,aAb,<-Qi,Oo]
   ·exact MV _
   ·intro h
    have h:(XD G e.key G.fls).1=b:=by simpa using h
    rw[h,h3]at m;cases m
 ·split
  ·exact MV _
  ·split
   ·unfold abg
    split
    ·exact MV _
    ·split
     ·exact MV _
     ·rw[afJ];exact MV _
   ·split
    ·rename_i k7
     refine(alk (R:=Ls b (abu G.fls b)) hm (h7 k7) ?_ (fun X f y hX hf hy hR=>hR.ends hX.bs _ _ _) (fun X i hX a _ hR=>hR.Mg hX.bs a _)).2;obtain⟨_,_,t,_,_,_,_,o⟩:=aeS (d.next (h7 k7));have v:WS (G.liv.map (XH (G.now+1))) b=XH (G.now+1) (WS G.liv b):=alf (d.next (h7 k7)) b;refine⟨Nt ?_,?_⟩
     ·show(WS (YH {G with now:=G.now+1}).liv b).2.1=3
      rw[o];show(WS (G.liv.map (XH (G.now+1))) b).2.1=3;rw[v];have h3:(WS G.liv b).2.1=3:=h3;unfold XH;rw[Nf (by omega)];exact h3
     ·show abu (YH {G with now:=G.now+1}).fls b<=_
      rw[t];exact MV _
    ·rcases akr d e with⟨p,q⟩|⟨i,a,_,_,_,⟨_,q⟩|⟨_,q⟩|⟨_,_,⟨_,q⟩|⟨_,_,q⟩|⟨B,_,q⟩⟩⟩
     ·rw[q];exact MV _
     ·rw[q];exact(l.ends d _ _ _).2
     ·obtain⟨T,j⟩:=aks a
      rw[q,j];exact ay4 a (by split <;> rfl)
     ·rw[q];exact MV _
     ·obtain⟨T,j⟩:=alb a
      rw[q,j];exact ay4 a rfl
     ·rw[q];exact(l.Mg d a _).2
theorem aaB.az1(h:aaB c s){b:Int}:(WY s.bef.liv b=3->abu s.aft.fls b<=abu s.bef.fls b)/\(WY s.aft.liv b=3->abu s.aft.fls b≠0)/\(WY s.aft.liv b=4\/WY s.aft.liv b=0->abu s.aft.fls b=0):=by
 have d:=h.next.im;refine⟨fun h3=>by rw[h.aft];exact azE h.wm (aeH h.ev) h.late h3,fun h3=>?_,fun h4=>?_⟩
 ·obtain⟨k,j⟩:=adl (L:=s.aft.liv) (b:=b) (by rw[h3];decide)
  have:=d.drn _ k h3;rw[j]at this;obtain⟨f,a,e⟩:=acF.1 this;unfold abu;exact Nat.ne_of_gt (List.countP_pos_iff.2 ⟨f,a,by simpa using e⟩)
 ·unfold abu
  refine List.countP_eq_zero.2 fun f a e=>?_
  have e:f.be=b:=by simpa using e
  have:=d.be f a;rw[e]at this;omega
end
def ay0(r b u:Int)(L:List awV):Prop:=∀l∈L,l.2.1=3->l.2.2.2.2.2=r->l.1=b/\l.2.2.2.2.1=u
def ay2(r b u:Int)(X:Gt):Prop:=ay0 r b u X.liv/\∀o∈X.out,o.kind=9->(o.req=r->o.be=b)/\WY X.liv o.be=4
section
variable {r b u:Int}{G X:Gt}
theorem ay2.drain(h:ay2 r b u X)(hb:Ym X.liv X.req)(d:Int):ay2 r b u (Yf X d):=by
 unfold Yf
 split
 ·rename_i hc
  have k:Zq X.liv:=hb.1.2.2;rw[(ako hb hc.1).1];obtain⟨j,m⟩:=adl (L:=X.liv) (b:=d) (by rw[hc.1];decide);have a:∀c,WY (Yq X.liv d ZF) c=if c=d then 4 else WY X.liv c:=fun c=>by
   show(WS (Yq X.liv d ZF) c).2.1=_;rw[aqP (G:=X) k hc.1]
   split <;> rfl
  refine⟨fun l hl h3 hq=>?_,fun o ho hk=>?_⟩
  ·obtain⟨x,p,e|e⟩:=akL hl
   ·subst e;exact h.1 l p h3 hq
   ·subst e;exact absurd h3 (show ¬(4:Int)=3 by decide)
  ·show _/\WY (Yq X.liv d ZF) o.be=4
   rw[a];rcases List.mem_append.1 (show o∈X.out++[_]from ho)with ho|ho
   ·have:=h.2 o ho hk
    refine⟨this.1,?_⟩
    split
    ·rfl
    ·exact this.2
   ·rw[PY]at ho
    subst ho;exact⟨fun e=>by rw[<-(h.1 _ j hc.1 e).1];exact m.symm,Nh rfl⟩
 ·exact h
theorem ay2.GT(h:ay2 r b u X){o:Ou}(ho:o.kind≠9):ay2 r b u (ZM X o):=⟨h.1,fun x hx hk=>by
 rcases List.mem_append.1 (show x∈X.out++[o]from hx)with hx|hx
 ·exact h.2 x hx hk
 ·rw[List.mem_singleton.1 hx]at hk;exact absurd hk ho⟩
theorem ay2.ends(h:ay2 r b u X)(hb:Bs X)(f:Fl){k:Int}(hk:k≠9)(y:Int):ay2 r b u (Yg X f k y):=by
 unfold Yg;refine ay2.drain ?_ ?_ _
 ·exact ay2.GT (X:={X with tab:=(ZQ X.tab f.slot f.gen).1,fls:=Yl X.fls f.slot f.gen,tms:=fun t=>X.tms t/\t.2≠f.slot}) h hk
 ·exact hb.book
theorem ay2.Mg(h:ay2 r b u X)(hb:Bs X)(hi:i<X.fls.length)(y:Int):ay2 r b u (YP X i y):=by
 have a:=(hb.F9 (Nk hi)).2.2.2;rcases aeI hb hi y with⟨z,q,m⟩|⟨d,q,o,k,l,j,_⟩
 ·rw[q];exact ay2.ends (X:=Yh X X.fls[i].be Nw) h (hb.GA a Nw) _ (by decide) _
 ·obtain⟨T,e⟩:=ak0 (G:={Yh X X.fls[i].be Nw with tok:=X.tok-X.cfg.bd}) hi d
  rw[q,e];refine ay2.drain ?_ ?_ _
  ·exact ay2.GT (X:={X with hea:=(Yh X X.fls[i].be Nw).hea,tok:=X.tok-X.cfg.bd,tab:=_,fls:=_,tms:=T}) h (show(5:Int)≠9 by decide)
  ·exact hb.book
theorem azB(hm:Wm G)(ho:G.out=[])(he:XZ e)(h7:e.kind=7->G.now+1<=1099511626776)(hD:ay0 r b u G.liv)(hE:e.kind=6->e.req=r->e.be=b/\G.now+G.cfg.drain=u):ay2 r b u (Xb G e):=by
 have j:=hm.im.bs;have m:ay2 r b u G:=⟨hD,fun o h=>by rw[ho]at h;cases h⟩;have D:∀k,ay0 r b u (YV G k e).1.1->ay2 r b u (Yv G k e):=fun k hL=>⟨hL,fun o h hk=>by
  have h:o∈G.out++[_]:=h;rw[ho,Oz,PY]at h;rw[h]at hk;exact absurd hk (show ¬(8:Int)=9 by decide)⟩
 unfold Xb
 split
 ·rcases afU j he.key with⟨q,_⟩|⟨q,_⟩|⟨k,Z,_,_,N,_,_,hg,_,q⟩ <;> rw[q]
  ·exact m.GT (show(2:Int)≠9 by decide)
  ·exact m.GT (show(2:Int)≠9 by decide)
  ·exact ay2.GT (X:={G with tab:=_,fls:=_,tms:=_,tok:=_}) m (show(1:Int)≠9 by decide)
 ·split
  ·refine D 1 ?_
   rcases ag7 j he.req (Nt rfl:(1:Int)=1\/(1:Int)=2)with⟨_,q⟩|⟨_,_,q,_⟩|⟨_,k,_⟩
   ·rw[q];exact hD
   ·rw[q]
    intro l a p t;have H:l∈G.liv\/l.2.1=1:=by
     unfold Zu at a
     split at a
     ·exact Nt a
     ·split at a
      ·split at a
       ·rcases aac a with rfl|a
        ·exact NF rfl
        ·exact Nt a
       ·exact Nt a
      ·rcases abT.1 a with rfl|a
       ·exact NF rfl
       ·exact Nt a
    rcases H with h|h
    ·exact hD l h p t
    ·omega
   ·exact absurd k (by decide)
  ·split
   ·rename_i k6
    have I:=ahC j he.req;unfold abg;rcases I with⟨C,q⟩|⟨C,_,hz,a0,q⟩
    ·rw[Nh C]
     exact D 2 (by rw[q];exact hD)
    ·rw[Nf (by rw[C];decide)]
     have K:∀l∈(Yv G 2 e).liv,(l∈G.liv/\l.1≠e.be)\/∃x∈G.liv,x.1=e.be/\l=aag x (G.now+G.cfg.drain) e.req:=fun l a=>by
      have a:l∈(YV G 2 e).1.1:=a;rw[q]at a;obtain⟨x,z,d⟩:=List.mem_map.1 a
      by_cases j:x.1=e.be
      ·rw[Nh j]at d;exact NF ⟨x,z,j,d.symm⟩
      ·rw[Nf j]at d;subst d;exact Nt ⟨z,j⟩
     have E:ay2 r b u (Yv G 2 e):=D 2 (fun l a p t=>by
      rcases K l a with⟨h,_⟩|⟨x,z,d,M⟩
      ·exact hD l h p t
      ·subst M
       have:=hE k6 t;exact⟨d.trans this.1,this.2⟩)
     split
     ·rename_i v
      refine⟨E.1,fun o h hk=>?_⟩;rcases List.mem_append.1 (show o∈(Yv G 2 e).out++[_]from h)with h|h
      ·exact E.2 o h hk
      ·rw[PY]at h
       subst h;refine⟨fun h=>(hE k6 h).1,?_⟩;obtain⟨J,d⟩:=adl (L:=G.liv) (b:=e.be) (by rw[v];decide);have F:=akG j.Gv J (y:=fun x=>aag x (G.now+G.cfg.drain) e.req) (fun x=>rfl);rw[d,<-q]at F;show(WS (YV G 2 e).1.1 e.be).2.1=4;rw[F];have v:(WS G.liv e.be).2.1=1:=v;show(if(WS G.liv e.be).2.1=2 then(3:Int)else 4)=4;rw[Nf (by omega)]
     ·exact ay2.drain (X:={Yv G 2 e with wts:=G.wts.set e.be.toNat 0}) E (j.Mc he.req (NF rfl:(2:Int)=1\/(2:Int)=2)).book e.be
   ·split
    ·rename_i k7
     refine alk (R:=ay2 r b u) hm (h7 k7) ?_ (fun X f y hX hf C hR=>hR.ends hX.bs f (by decide) y) (fun X i hX B O hR=>hR.Mg hX.bs B 5);obtain⟨_,_,_,_,U,_,_,S⟩:=aeS (j.next (h7 k7));refine⟨fun l a p t=>?_,fun o h=>?_⟩
     ·have a:l∈(YH {G with now:=G.now+1}).liv:=a
      rw[S]at a;obtain⟨x,z,d⟩:=List.mem_map.1 a;unfold XH at d
      by_cases v:x.2.1=1
      ·rw[Nh v]at d
       rw[<-d]at p;exact absurd p (show ¬(2:Int)=3 by decide)
      ·rw[Nf v]at d
       subst d;exact hD x z p t
     ·have h:o∈(YH {G with now:=G.now+1}).out:=h
      rw[U]at h;have h:o∈G.out:=h;rw[ho]at h;cases h
    ·rcases akr j e with⟨N,q⟩|⟨i,B,_,_,_,⟨_,q⟩|⟨_,q⟩|⟨_,_,⟨_,q⟩|⟨_,_,q⟩|⟨O,_,q⟩⟩⟩
     ·rw[q];exact m.GT (show(10:Int)≠9 by decide)
     ·rw[q];exact m.ends j _ (by decide) _
     ·obtain⟨T,d⟩:=aks B
      rw[q,d];exact ay2.GT (X:={G with fls:=_,tms:=T}) m (show(3:Int)≠9 by decide)
     ·rw[q];exact m.GT (show(10:Int)≠9 by decide)
     ·obtain⟨T,d⟩:=alb B
      rw[q,d];exact ay2.GT (X:={Yh G G.fls[i].be Nb with fls:=_,tms:=T}) m (show(4:Int)≠9 by decide)
     ·rw[q];exact m.Mg j B 3
end
section
variable {A:Gt}{c:Cf}{P Q:Py}{b:Int}
theorem Rn.reqs(h:Rn A c P)(h0:A.req=[]){n:Int}(hq:∀s∈P.steps,s.ev.req<n):∀q∈P.last.req,q.1<n:=by
 refine h.Mw (J:=fun P=>(∀s∈P.steps,s.ev.req<n)->∀q∈P.last.req,q.1<n) (fun _ q hq=>by rw[h0]at hq;cases hq) (fun Q e hQ he hl hJ m=>?_) hq;have m:∀s∈Q.steps++[(⟨e,Q.last,(Xb Q.last e).Ma,(Xb Q.last e).out⟩:Sp)],s.ev.req<n:=m;have j:=hJ fun s h=>m s (az6 _ h)
 have p:e.req<n:=m _ (Qq _ (List.mem_singleton.2 rfl));have t:=hQ.runs.now;show ∀q∈(Xb Q.last e).req,q.1<n
 by_cases hk:e.kind=5\/e.kind=6
 ·rcases azA hQ.runs.wm hQ.runs.out (aeH he) hk with⟨_,_,_,a,_⟩|⟨_,_,a,_⟩|⟨_,q,l,o,a,_⟩
  ·rw[a];exact j
  ·rw[a];exact j
  ·rw[a]
   intro x d;rcases List.mem_append.1 d with d|d
   ·exact j x d
   ·rw[List.mem_singleton.1 d,o];exact p
 ·rw[azG hQ.runs.wm (aeH he) (fun _=>by omega) (fun k=>hk (Nt k)) (fun k=>hk (NF k))]
  exact j
abbrev azy(b:Int):Ev:=⟨6,0,0,0,Nb,2000,b,0⟩
theorem azq{l:List Sp}{r:Int}:r∈azp l↔∃s∈l,s.az0=Nw/\s.ev.req=r:=by
 unfold azp;rw[List.mem_map];exact⟨fun⟨s,hs,e⟩=>⟨s,(List.mem_filter.1 hs).1,(List.mem_filter.1 hs).2,e⟩,fun⟨s,hs,hg,e⟩=>⟨s,List.mem_filter.2 ⟨hs,hg⟩,e⟩⟩
def azY(l:List Ou):Nat:=l.countP fun o=>o.kind == 9 && o.req == 2000
theorem azn(l:List Ou):azY l=(azj l).count 2000:=by
 induction l with
 |nil=>rfl
 |cons o l ih =>
  unfold azY azj at ih⊢;rw[az9,ih]
  by_cases h:o.kind=9
  ·rw[List.filter_cons_of_pos (by simpa using h),OA,List.count_cons]
   simp[h]
  ·rw[List.filter_cons_of_neg (by simpa using h)]
   simp[h]
theorem azm(l m:List Ou):azY (l++m)=azY l+azY m:=by unfold azY;exact Qi
structure ay1(A:Gt)(c:Cf)(P:Py)(b:Int)(Q:Py):Prop where
 rn:Rn A c Q
 pre:Q.steps.take P.steps.length=P.steps
 ret:Q.steps[P.steps.length]?=MI ⟨azy b,P.last,(Xb P.last (azy b)).Ma,(Xb P.last (azy b)).out⟩
 small:∀i s,Q.steps[i]?=MI s->i≠P.steps.length->s.ev.req<2000
 by_:ay0 2000 b (P.last.now+c.drain) Q.last.liv
 told:∀s∈Q.steps.drop P.steps.length,∀o∈s.out,o.kind=9->o.req=2000->o.be=b/\abu s.aft.fls b=0
theorem azi(h:Rn A c Q)(hl:Q.steps.length<1000000)(he:Yk e=0){u:Int}(hD:ay0 2000 b u Q.last.liv)(hE:e.kind=6->e.req=2000->e.be=b/\Q.last.now+c.drain=u):
  ay0 2000 b u (Q.step e).last.liv/\∀o∈(Xb Q.last e).out,o.kind=9->o.req=2000->o.be=b/\abu (Xb Q.last e).Ma.fls b=0:=by
 have m:=h.runs.now;have d:=azB (r:=2000) (b:=b) (u:=u) h.runs.wm h.runs.out (aeH he) (fun _=>by omega) hD (fun k6 hr=>by rw[h.runs.cfg];exact hE k6 hr);have l:=h.runs.step he (by omega);have j:=l.chain ⟨e,Q.last,(Xb Q.last e).Ma,(Xb Q.last e).out⟩ (Qq _ (List.mem_singleton.2 rfl));refine⟨d.1,fun o ho hk hr=>?_⟩;obtain⟨a,k⟩:=d.2 o ho hk;refine⟨a hr,(j.az1 (b:=b)).2.2 (Nt ?_)⟩;rw[<-a hr];exact k
theorem ay1.Ml(h:Rn A c P)(h0:A.liv=[])(hl:P.steps.length<=1000)(hq:∀s∈P.steps,s.ev.req<2000)(hb:0<=b/\b<5)(hf:Yk (azy b)=0):ay1 A c P b (P.step (azy b)):=by
 have o:(2000:Int)∉ ay7 P.last.liv:=fun hm=>by
  have p:=(h.gone h0).1.mem_iff (a:=(2000:Int));obtain⟨s,d,_,e⟩:=azq.1 (p.1 (Qq _ hm));have:=hq s d;omega
 have k:=azi h (by omega) hf (b:=b) (u:=P.last.now+c.drain) (fun l hl m hr=>absurd (List.mem_map.2 ⟨l,List.mem_filter.2 ⟨hl,by simpa using m⟩,hr⟩) o) (fun _ _=>⟨rfl,rfl⟩);have j:(P.step (azy b)).steps=P.steps++[⟨azy b,P.last,(Xb P.last (azy b)).Ma,(Xb P.last (azy b)).out⟩]:=rfl;refine⟨h.step hf (by omega),by rw[j,ZqA (MV _),NT],by rw[j,Tw (MV _),Nat.sub_self];rfl,fun i s d hi=>?_,k.1,fun s d=>?_⟩
 ·rw[j]at d
  have m:i<P.steps.length+1:=by have:=(List.getElem?_eq_some_iff.1 d).1;simpa using this
  rw[OJ (by omega)]at d;exact hq s (Nu d)
 ·rw[j,az7 (MV _),List.drop_length,Oz,PY]at d
  subst d;exact k.2
theorem ay1.step(h:ay1 A c P b Q)(hl:Q.steps.length<=1000)(he:Yk e=0)(hr:e.req<2000):ay1 A c P b (Q.step e):=by
 have k:P.steps.length<Q.steps.length:=(List.getElem?_eq_some_iff.1 h.ret).1;have j:=azi h.rn (by omega) he h.by_ (fun _ h=>by omega);have d:(Q.step e).steps=Q.steps++[⟨e,Q.last,(Xb Q.last e).Ma,(Xb Q.last e).out⟩]:=rfl;refine⟨h.rn.step he (by omega),by rw[d,ZqA (by omega)];exact h.pre,by rw[d,OJ k];exact h.ret,fun i s a hi=>?_,j.1,fun s a=>?_⟩
 ·rw[d]at a
  by_cases h3:i<Q.steps.length
  ·rw[OJ h3]at a
   exact h.small i s a hi
  ·rw[Tw (by omega)]at a
   rw[List.mem_singleton.1 (Nu a)];exact hr
 ·rw[d,az7 (by omega)]at a
  rcases List.mem_append.1 a with a|a
  ·exact h.told s a
  ·rw[List.mem_singleton.1 a];exact j.2
theorem azz(h:Rn A c P)(h0:A.req=[])(hq:∀s∈P.steps,s.ev.req<2000)(hf:Yk (azy b)=0) :
  ∃(k:Int) (l:List Ou),(Xb P.last (azy b)).out=⟨8,0,0,0,2000,k,0⟩::l/\(k=0↔(⟨azy b,P.last,(Xb P.last (azy b)).Ma,(Xb P.last (azy b)).out⟩:Sp).az0=Nw):=by
 have a:∀(k:Int) (l:List Ou),(Xb P.last (azy b)).out=⟨8,0,0,0,2000,k,0⟩::l->(P.last.req.length<(Xb P.last (azy b)).req.length\/k≠0)->(k=0↔(⟨azy b,P.last,(Xb P.last (azy b)).Ma,(Xb P.last (azy b)).out⟩:Sp).az0=Nw):=fun k l e hk=>by
  unfold Sp.az0;rw[e];show k=0↔(Nw && (k == 0) && Nn (P.last.req.length<(Xb P.last (azy b)).req.length))=Nw;rw[Bool.true_and,Bool.and_eq_true,beq_iff_eq,decide_eq_true_iff];exact⟨fun e=>⟨e,hk.resolve_right fun h=>h e⟩,fun e=>e.1⟩
 rcases azA h.runs.wm h.runs.out (aeH hf) (NF rfl:(6:Int)=5\/(6:Int)=6)with⟨q,h1,d,_⟩|⟨_,_,_,e⟩|⟨_,q,l,_,e1,e,_⟩
 ·have d:q.1=2000:=d
  have:=h.reqs h0 hq q h1;omega
 ·exact⟨9,[],e,a 9 [] e (NF (by decide))⟩
 ·exact⟨_,l,e,a _ l e (Nt (by rw[e1];simp))⟩
theorem ay1.Jb(h:ay1 A c P b Q)(hP:Rn A c P)(h0:A.liv=[])(hq:∀s∈P.steps,s.ev.req<2000)(hn:P.last.now+c.drain<=Q.last.now) :
  azY ((Q.steps.drop P.steps.length).map fun s=>s.out).flatten=if(⟨azy b,P.last,(Xb P.last (azy b)).Ma,(Xb P.last (azy b)).out⟩:Sp).az0=Nw then 1 else 0:=by
 obtain⟨q,t⟩:=h.rn.gone h0;obtain⟨d,_⟩:=hP.gone h0;have p:(2000:Int)∉ ay7 Q.last.liv:=fun a=>by
  obtain⟨l,k,e⟩:=List.mem_map.1 a;obtain⟨k,d⟩:=List.mem_filter.1 k;have d:l.2.1=3:=by simpa using d
  have:=h.by_ l k d e;have:=h.rn.runs.wm.till l k d;omega
 have v:azY (P.steps.map fun s=>s.out).flatten=0:=by
  rw[azn];refine List.count_eq_zero.2 fun a=>?_
  obtain⟨s,j,_,e⟩:=azq.1 (d.mem_iff.1 (az6 _ a));have:=hq s j;omega
 have j:azY (Q.steps.map fun s=>s.out).flatten=azY ((Q.steps.drop P.steps.length).map fun s=>s.out).flatten:=by
  have e:Q.steps=P.steps++Q.steps.drop P.steps.length:=by
   have:=(Oo P.steps.length Q.steps).symm;rw[h.pre]at this;exact this
  rw[e,OI,PV,azm,v,<-e];omega
 rw[<-j,azn];have m:=q.count_eq (2000:Int);rw[List.count_append,List.count_eq_zero.2 p,Oe]at m;rw[m,t.count];have a:(2000:Int)∈azp Q.steps↔(⟨azy b,P.last,(Xb P.last (azy b)).Ma,(Xb P.last (azy b)).out⟩:Sp).az0=true:=by
  rw[azq];refine⟨fun⟨s,j,hg,e⟩=>?_,fun hg=>⟨_,Nu h.ret,hg,rfl⟩⟩;obtain⟨i,o,rfl⟩:=List.getElem_of_mem j
  by_cases e1:i=P.steps.length
  ·subst e1
   have:=h.ret;rw[MR o]at this;rw[Option.some.inj this]at hg;exact hg
  ·have:=h.small i _ (MR o) e1
   omega
 by_cases hg:(⟨azy b,P.last,(Xb P.last (azy b)).Ma,(Xb P.last (azy b)).out⟩:Sp).az0=Nw
 ·rw[Nh hg,Nh (a.2 hg)]
 ·rw[Nf hg,Nf (fun e=>hg (a.1 e))]
end
section
variable {G:Gt}
theorem ay6(h:Im G):(acG G).out.length<=G.out.length+960:=by
 have a:=(akI G.liv G G.liv.length h (MV _)).2.2;rw[NT]at a;have d:G.liv.length<=12:=h.bs.book.1.1;show(G.liv.foldl Zd G).out.length<=_;omega
theorem azH(h:Wm G)(hn:G.now+1<=1099511626776):(abj G).out.length<=G.out.length+1040:=by
 have j:=h.im.next hn;obtain⟨m,t,v,B,q,_⟩:=aeS j.bs;have o:=j.Jf;have k:=o.I2;have l:(aaC (YH {G with now:=G.now+1})).now=G.now+1:=m;have d:(aaC (YH {G with now:=G.now+1})).wnow=G.now:=t.trans h.wnow;obtain⟨p,_⟩:=k.Je (by rw[d,l]) (fun f a=>by
  have a:f∈(YH {G with now:=G.now+1}).fls:=a;rw[v]at a;rw[d];exact h.due f a)
 have y:=ay6 p;have x:=ao7 k.bs;have z:(aaC (YH {G with now:=G.now+1})).out.length=G.out.length:=congrArg List.length q;show(acG _).out.length<=_;omega
theorem azD(hm:Wm G)(e:Ev)(h7:e.kind=7->G.now+1<=1099511626776):(Xb G e).out.length<=G.out.length+1040:=by
 unfold Xb
 split
 ·unfold aaI
  split
  ·simp[acm,ZM]
  ·simp only[]
   split
   ·simp[acm,ZM]
   ·simp[abv,abi,ZM,YW]
 ·split
  ·simp[Yv,ZM]
  ·split
   ·unfold abg
    split
    ·simp[Yv,ZM]
    ·split
     ·simp[aeQ,Yv,ZM]
     ·refine Nm (aki _) ?_
      simp[Yv,ZM]
   ·split
    ·rename_i h
     exact azH hm (h7 h)
    ·unfold aaq
     simp only[]
     split
     ·simp[acm,ZM]
     ·split
      ·exact Nm (afK _ _ _) (by omega)
      ·split
       ·unfold aaZ
        simp only[]
        split <;> simp[abi,ZM,YW,Y4]
       ·split
        ·simp[acm,ZM]
        ·split
         ·simp[abh,abi,ZM,YW,Y4,Yh]
         ·exact Nm (aoZ _ _) (by omega)
theorem aaB.az2{c:Cf}(h:aaB c s):s.out.length<=1040:=by
 rw[h.out];have:=azD h.wm s.ev h.late;rw[h.out0]at this
 simpa using this
end
theorem WU.Gm{base:Nat}{c:Cf}{P:Py}(h:WU base w g V c P):w.cell? ⟨g,16,MH⟩=MI (MG V.ps P.steps.length V.cs):=by
 rw[MW w g 16 _ _ (0,0) h.box,h.steps];rfl
structure azI(W:MO)(ps:Option Oc)(k:Nat)(q:Sq)(b o:Nat):Prop where
 at_:ps=MI ⟨b,o,MH⟩
 cells:W.rangeAt b (o+k*61) (abK q)
 rd:aje W q
theorem XQ.step{W:MO}{c:Cf}{P:Py}(h:XQ w W g V c P){k:Nat}(hk:k<P.steps.length):∃q b o,azI W V.ps k q b o/\P.steps[k]?=MI q.s/\aaB c q.s:=by
 have B:=h.pat.steps;have l:k<V.qs.length:=by omega
 have m:Xw abK W (MG V.ps V.qs.length V.cs) V.qs:=abw h.pat.rows;obtain⟨a,z,d,_,_,p⟩:=Xw.F6 avt m;injection d with q1 _ _;obtain⟨b,o,y,C,x⟩:=p k l;have e:P.steps[k]?=MI V.qs[k].s:=by rw[<-h.pat.eqs,List.getElem?_map,MR l];rfl
 refine⟨V.qs[k],b,o,⟨q1.trans y,fun j v d=>?_,(h.pat.all _ (Nk l)).now⟩,e,h.rn.runs.chain _ (Nu e)⟩;have t:j<61:=(List.getElem?_eq_some_iff.1 d).1;rw[x j t];exact d
theorem aje.below{W:MO}{q:Sq}(h:aje W q)(hb:MQ W.heap.size W Y):aje Y q:=⟨h.1.below hb,h.2.1.below hb,h.2.2.below hb⟩
theorem azT(f:Nat->Int)(hf:∀i,i<16->(Lit.int ME (f i)).wf=Nw)(ds:List Dd)(hds:∀d∈ds,ajd d){pd:Option Oc}{cd:Nat}(hrow:Xw agP w (MG pd ds.length cd) ds)(hblk:Xo w)(most:Nat)(hm:most<=100):
  ∃L:List M7,L.length=16/\agc (f 0) (f 1) (f 2) (f 3) (f 4) (f 5) (f 6) (f 7) (f 8) (f 9) (f 10) (f 11) (f 12) (f 13) (f 14) (f 15)=Ny L.toArray/\∀W,MQ w.heap.size w W->Ni MK 13 #[Ny L.toArray,MG pd ds.length cd,MF ME (most:Int)] W (au0 f most W):=
 ⟨[MF ME (f 0),MF ME (f 1),MF ME (f 2),MF ME (f 3),MF ME (f 4),MF ME (f 5),MF ME (f 6),MF ME (f 7),MF ME (f 8),MF ME (f 9),MF ME (f 10),MF ME (f 11),MF ME (f 12),MF ME (f 13),MF ME (f 14),MF ME (f 15)],rfl,rfl,fun W hB=>awU f hf ds hds W (hrow.below hB) (hblk.below hB) most hm⟩
theorem azI.az4{W:MO}{ps:Option Oc}{k:Nat}{q:Sq}{b o:Nat}(h:azI W ps k q b o):W.rangeAt b (o+k*61+34) (XR q.v q.s.aft).toList:=fun j v hv=>by
 have d:j<26:=(List.getElem?_eq_some_iff.1 hv).1;have e:(abK q)[34+j]?=MI v:=by
  have a:abK q=(aaV q.s.ev++(XR q.u q.s.bef).toList)++((XR q.v q.s.aft).toList++[MG q.po q.s.out.length q.co]):=by unfold abK;rw[OC]
  rw[a,Tw (show 34<=34+j by omega),show 34+j-(aaV q.s.ev++(XR q.u q.s.bef).toList).length=j from Nat.add_sub_cancel_left 34 j,OJ (show j<26 from d)];exact hv
 have:=h.cells (34+j) v e;rwa[show o+k*61+(34+j)=o+k*61+34+j by omega]at this
theorem WU.az3{base:Nat}{c:Cf}{P:Py}(h:WU base w g V c P)(j:Nat):w.cell? ⟨g,j,MH⟩=(adM V c P)[j]?:=by
 rw[MW w g j _ _ (0,0) h.box];simp
theorem azR{W:MO}{p:Option Oc}{c:Nat}{L:List Ou}(h:Xw Z1 W (MG p L.length c) L)(hi:i<L.length):
  ∃b o,p=MI ⟨b,o,MH⟩/\W.cell? ⟨b,o+i*7,MH⟩=MI (MF ME L[i].kind)/\W.cell? ⟨b,o+i*7+1,MH⟩=MI (MF ME L[i].slot)/\W.cell? ⟨b,o+i*7+2,MH⟩=MI (MF ME L[i].gen)/\W.cell? ⟨b,o+i*7+3,MH⟩=MI (MF ME L[i].be)/\W.cell? ⟨b,o+i*7+4,MH⟩=MI (MF ME L[i].req)/\W.cell? ⟨b,o+i*7+5,MH⟩=MI (MF ME L[i].code)/\W.cell? ⟨b,o+i*7+6,MH⟩=MI (MF ME L[i].why):=by
 obtain⟨a,m,j,_,_,k⟩:=Xw.F6 akV h;injection j with q1 _ _;obtain⟨b,o,l,_,d⟩:=k i hi;exact⟨b,o,q1.trans l,d 0 (by omega),d 1 (by omega),d 2 (by omega),d 3 (by omega),d 4 (by omega),d 5 (by omega),d 6 (by omega)⟩
theorem azS{W:MO}{p:Option Oc}{c:Nat}{L l:List Ou}{x:Ou}(h:Xw Z1 W (MG p L.length c) L)(e:L=x::l) :
  ∃b o,p=MI ⟨b,o,MH⟩/\W.cell? ⟨b,o,MH⟩=MI (MF ME x.kind)/\W.cell? ⟨b,o+1,MH⟩=MI (MF ME x.slot)/\W.cell? ⟨b,o+2,MH⟩=MI (MF ME x.gen)/\W.cell? ⟨b,o+3,MH⟩=MI (MF ME x.be)/\W.cell? ⟨b,o+4,MH⟩=MI (MF ME x.req)/\W.cell? ⟨b,o+5,MH⟩=MI (MF ME x.code)/\W.cell? ⟨b,o+6,MH⟩=MI (MF ME x.why):=by
 subst e;obtain⟨b,o,d,a⟩:=azR h (i:=0) (Nat.succ_pos _);simp only[Nat.zero_mul,Oe,List.getElem_cons_zero]at a;exact⟨b,o,d,a⟩
theorem azJ{l:List Fl}{k:Nat}(hk:k<l.length)(b:Int):abu (l.take (k+1)) b=abu (l.take k) b+if l[k].be=b then 1 else 0:=by
 unfold abu;rw[M9 hk,Qi,az9,List.countP_nil];simp
theorem azK{W:MO}{M:List M7}{U:Us}{G:Gt}(hM:M=(XR U G).toList)(h:Xd W U G)(HL40:G.fls.length<=40)(b:Int):Ni MK 17 #[Ny M.toArray,MF ME b] W fun r w'=>r=MN (MF ME ((abu G.fls b:Nat):Int))/\MQ W.heap.size W w':=by
 obtain⟨Y,o⟩:∃Y,Y=W.alloc (Obj.cells M.toArray 58):=⟨_,rfl⟩;have t:MQ W.heap.size W Y:=by rw[o];exact WQ W
 have v:Y.heap[W.heap.size]?=MI (Obj.cells M.toArray 58 (0,0)):=by rw[o];exact M1 _ _
 have y:Y.cell? ⟨W.heap.size,18,MH⟩=MI (MG U.pf G.fls.length U.cf):=by rw[MW Y _ 18 _ _ (0,0) v,hM];rfl
 obtain⟨a,T,O,J,H,E⟩:=Xw.F6 XL (Xw.below h.fls t);injection O with q1 q2 q3;obtain⟨m,p⟩:∃m,m=G.fls.length:=⟨_,rfl⟩;rw[<-p]at y;have Z:m<=9223372036854775806:=by rw[p];have:=HL40;omega
 have d:M6 (_/\_/\_/\_):=⟨E,q1,p,t⟩;clear v E q1 q2 q3 p H J h hM t HL40;go_enter Tryz.func17,Tryz.ntmps17;go_wp2;rw[<-o];clear o
 go_loopw [5,6] (fun c i wr=>∃k n:Nat,c=MF ME (n:Int)/\i=MF ME (k:Int)/\k<=m/\n<=k/\M6 (abu (G.fls.take k) b=n)/\wr=Y) (fun _ i _=>m-(intOf i).toNat)
 case atStart=>exact⟨0,0,rfl,rfl,Nx _,Nx _,rfl,rfl⟩
 case round =>
  obtain⟨k,n,rfl,rfl,hk,a0,B,rfl⟩:=hrel
  by_cases hlt:k<m
  ·have K:(k:Int)<(m:Int):=by omega
   have q:k<G.fls.length:=by rw[<-d.out.2.2.1];exact hlt
   obtain⟨N,oo,C,R,z⟩:=d.out.1 k q;have S:wr.cell? ⟨N,oo+k*7+3,MH⟩=MI (MF ME G.fls[k].be):=z 3 (by omega);have l:=azJ q b;obtain⟨x,D⟩:∃x,x=G.fls[k].be:=⟨_,rfl⟩;rw[<-D]at S l;rw[d.out.2.1,C]at y;rw[B.out]at l;have F:M6 _:=l;clear z R C q D l
   by_cases hq:x=b
   ·have I:(x == b)=true:=by simp[hq]
    have j:M6 (abu (G.fls.take (k+1)) b=n+1):=F.out.trans (by rw[Nh hq]);clear hq;go_wp2
    go_roundw
    case rel=>exact⟨k+1,n+1,by simp,by simp,hlt,by omega,j,trivial⟩
    case measure=>simp[intOf];omega
   ·have I:(x == b)=false:=by simp[hq]
    have j:M6 (abu (G.fls.take (k+1)) b=n):=F.out.trans (by rw[Nf hq];rfl);clear hq;go_wp2
    go_roundw
    case rel=>exact⟨k+1,n,rfl,by simp,hlt,by omega,j,trivial⟩
    case measure=>simp[intOf];omega
  ·obtain rfl:k=m:=by omega
   have K:¬(k:Int)<(k:Int):=by omega
   have j:M6 (abu G.fls b=n):=by have:=B.out;rw[d.out.2.2.1,NT]at this;exact this
   go_wp2;go_ret;exact⟨by rw[j.out];rfl,d.out.2.2.2⟩
theorem azX{P:Program}{ops:Array Oper}{rest:List Oper}{op:Oper}{a:Act}{Q:Exit->Act->MO->Prop}(hw:Region.wanted op (yielded ops a.tmps)=Nw)(ty:TypeId)(x:Operand)(ho:op.op=.load ty x)
  (b o:Nat) (hx:a.eval x=Value.pointer (MI ⟨b,o,MH⟩)) (cs:List M7) (d:TypeDesc) (hc:w.rangeAt b o cs) (hu:P.underlying ty=MI d) (hd:d.isRow=Nw) (hi:(P.info? ty).map (·.size)=MI cs.length)
  (h:wpList P ops Q rest (a.put op.dst (Ny cs.toArray)) w):wpList P ops Q (op::rest) a w :=
 wpList_step fun _ hK=>by
  rw[Nh hw];exact wp_load_mid ty x ho b o hx cs d hc hu hd hi (hK _ _ h)
def azZ(Q:Py)(n i:Nat):Nat:=azY (((Q.steps.take i).drop n).map fun s=>s.out).flatten
abbrev azV:Ev:=⟨7,0,0,0,Nb,0,0,0⟩
theorem azN(Q:Py)(n:Nat):azZ Q n n=0:=by
 unfold azZ;rw[List.drop_eq_nil_of_le (by rw[NH];exact Nat.min_le_left _ _)];rfl
theorem azM{Q:Py}(h:Q.steps[i]?=MI s)(hn:n<=i):azZ Q n (i+1)=azZ Q n i+azY s.out:=by
 obtain⟨a,e⟩:=List.getElem?_eq_some_iff.1 h;unfold azZ;rw[M9 a,az7 (by rw[NH];omega),OI,PV,azm,e];simp
theorem azL(Q:Py)(n:Nat):azZ Q n Q.steps.length=azY ((Q.steps.drop n).map fun s=>s.out).flatten:=by
 unfold azZ;rw[NT]
theorem azO{l:List Ou}{k:Nat}(hk:k<l.length):azY (l.take (k+1))=azY (l.take k)+if l[k].kind=9/\l[k].req=2000 then 1 else 0:=by
 rw[M9 hk,azm]
 congr 1
 by_cases h:l[k].kind=9 <;> by_cases h2:l[k].req=2000 <;> simp[azY,h,h2]
def azP(w:MO)(g:Nat):Int:=match w.cell? ⟨g,33,MH⟩with
 |some v=>intOf v
 |none=>0
theorem azQ{n:Int}(h:w.cell? ⟨g,33,MH⟩=MI (MF ME n)):azP w g=n:=by unfold azP;rw[h];rfl
theorem azU{W:MO}{b o:Nat}{M:List M7}(h:W.rangeAt b o M)(hb:MQ W.heap.size W Y):Y.rangeAt b o M:=fun j v hv=>by
 have a:=h j v hv;exact(hb.cell (MX W ⟨b,_,MH⟩ a)).trans a
theorem azI.on{W:MO}{ps:Option Oc}{k:Nat}{q:Sq}{b o:Nat}(h:azI W ps k q b o)(hb:MQ W.heap.size W Y):azI Y ps k q b o :=
 ⟨h.at_,fun j v hv=>by
  have a:=h.cells j v hv;exact(hb.cell (MX W ⟨b,_,MH⟩ a)).trans a,h.rd.below hb⟩
theorem azW(f:Nat->Int)(hf:∀i,i<16->(Lit.int ME (f i)).wf=Nw)(ds:List Dd)(hds:∀d∈ds,ajd d)(b0:Int)(wb:(Lit.int ME b0).wf=Nw)(ms:List Dd)(hms:∀d∈ms,ajd d){pm:Option Oc}{cm:Nat}{pd:Option Oc}{cd:Nat}(hrow:Xw agP w (MG pd ds.length cd) ds)(hB:Xo w)(hrow2:Xw agP w (MG pm ms.length cm) ms):
  Ni MK 3 #[agc (f 0) (f 1) (f 2) (f 3) (f 4) (f 5) (f 6) (f 7) (f 8) (f 9) (f 10) (f 11) (f 12) (f 13) (f 14) (f 15),MG pd ds.length cd,MF ME b0,MG pm ms.length cm] w fun r w'=>r=MN (M3 Nw)/\MQ w.heap.size w w':=by
 obtain⟨L,hL,eL,l1⟩:=azT f hf ds hds hrow hB 50 (by omega);rw[eL];obtain⟨W0,i1⟩:∃W0,W0=w.alloc (Obj.cells L.toArray 24):=⟨_,rfl⟩;have c4:MQ w.heap.size w W0:=by rw[i1];exact WQ w
 have HI:M6 (_/\_/\_):=⟨hL,c4,l1 W0 c4⟩;obtain⟨nd,j8⟩:∃nd,nd=ds.length:=⟨_,rfl⟩;rw[<-j8]at HI⊢;obtain⟨kb,p7,k9⟩:=acd b0 (adr wb) 5 5 (by decide);obtain⟨lm,g7⟩:∃m,m=ms.length:=⟨_,rfl⟩;rw[<-g7]at hrow2⊢;have a0:M6 (_/\_/\_/\_):=⟨hms,hrow2,g7,c4⟩;have n7:M6 _:=k9;clear hms hrow2 g7 k9 wb;clear hL eL l1 c4 hf hds hrow hB j8;go_enter Tryz.func3,Tryz.ntmps3
 go_wp2_with ((with_reducible refine wpList_load_mid rfl 24 (Operand.tmp 4) rfl w.heap.size 0 ?gx L _ ?gc Tryz.underlying24 ?gd ?gi ?_);(case gx=>rfl);(case gc=>exact afW (M1 _ _));(case gd=>rfl);(case gi=>rw[HI.out.1];exact apz))
 rw[<-i1];clear i1;refine Nd HI.out.2.2 ?_;rintro r w1 ⟨g,V,c,P,rfl,hS,l3,o8,o6,k4⟩;obtain⟨n,hn⟩:∃n,n=P.steps.length:=⟨_,rfl⟩;have y:M6 (_/\_/\_/\_/\_):=⟨hS,l3,hn,(show n<=50+4 by omega),k4⟩;have m1:=HI.out.2.1.trans (hS.bel.mono HI.out.2.1.size);have HB:M6 _:=m1;have l6:M6 _:=HI.out.2.1;clear hS l3 o8 o6 k4 hn HI m1;have c8:Yk (azy (kb:Int))=0:=ava (r:=2000) (b:=(kb:Int)) ⟨by decide,by decide⟩ ⟨by omega,by omega⟩;have T:M6 _:=y.out.1.Mf (by rw[<-y.out.2.2.1];have:=y.out.2.2.2.1;omega) (azy (kb:Int)) c8;have g5:M6 _:=ay1.Ml y.out.1.rn rfl (by rw[<-y.out.2.2.1];have:=y.out.2.2.2.1;omega) y.out.2.2.2.2.2 (b:=(kb:Int)) ⟨by omega,by omega⟩ c8;have HF:M6 _:=c8;clear c8
 go_wp2_with fail
 refine Nd (n7.out _) ?_;rintro r w2 ⟨rfl,rfl⟩
 go_wp2_with fail
 refine Nd T.out ?_;rintro r F ⟨rfl,V5,h5⟩;have H5:M6 _:=h5;clear h5 T;obtain⟨n1,b8⟩:∃m,m=n+1:=⟨_,rfl⟩;have b5:(P.step (azy (kb:Int))).steps.length=n1:=by rw[ajm,<-y.out.2.2.1,b8]
 have p4:IntKind.i64.wrap ((n1:Int)-1)=(n:Int):=by rw[Ow];have:=y.out.2.2.2.1;omega
 have p5:(n:Int)<(n1:Int):=by omega
 have o9:n<=54:=y.out.2.2.2.1;obtain⟨q,b,o,H,a4,_⟩:=H5.out.step (k:=n) (by rw[b5,b8];omega);have d6:=g5.out.ret;rw[<-y.out.2.2.1,a4]at d6;have m5:=Option.some.inj d6;obtain⟨kk,l0,ho,g6⟩:=azz y.out.1.rn rfl y.out.2.2.2.2.2 HF.out;have e7:q.s.out=⟨8,0,0,0,2000,kk,0⟩::l0:=by rw[m5];exact ho
 obtain⟨D,oo,m3,u0,u1,u2,u3,u4,u5,u6⟩:=azS H.rd.2.2 e7;simp only[]at u0 u1 u2 u3 u4 u5 u6;have a5:F.cell? ⟨b,o+n*61+60,MH⟩=MI (MG q.po q.s.out.length q.co):=H.cells 60 _ rfl;obtain⟨nl,i5⟩:∃m,m=q.s.out.length:=⟨_,rfl⟩;have m6:(0:Int)<(nl:Int):=by rw[i5,e7];simp <;> omega
 rw[<-i5,m3]at a5;have a6:=H5.out.pat.lt;have c0:b<F.heap.size:=MX F ⟨b,_,MH⟩ a5;have m7:D<F.heap.size:=MX F ⟨D,oo,MH⟩ u0;have b3:F.cell? ⟨g,16,MH⟩=MI (MG (MI ⟨b,o,MH⟩) n1 V5.cs):=by rw[<-H.at_,<-b5];exact H5.out.pat.Gm
 have b2:F.cell? ⟨g,33,MH⟩=MI (MF ME P.last.now):=by
  refine(H5.out.pat.az3 33).trans ?_;show MI (MF ME (Xb P.last (azy (kb:Int))).now)=_;rw[(alh _ _).2,Nf (show ¬(6:Int)=7 by decide)]
 have c5:F.cell? ⟨g,5,MH⟩=MI (MF ME c.drain):=(H5.out.pat.az3 5).trans rfl;obtain⟨U,hU⟩:∃u,u=P.last.now+c.drain:=⟨_,rfl⟩;have l4:=y.out.1.rn.runs.now;have m8:=y.out.1.rn.runs.wm.im.bs.now;have o2:1<=c.drain/\c.drain<=5:=⟨y.out.2.1.ok.2.2.2.2.2.1.1,y.out.2.1.drain⟩;have q4:IntKind.i64.wrap (P.last.now+c.drain)=U:=by rw[Ow];rw[<-y.out.2.2.1]at l4;omega
 obtain⟨gb,b6⟩:∃x,x=(kk == 0):=⟨_,rfl⟩;obtain⟨P1,e9⟩:∃x,x=P.step (azy (kb:Int)):=⟨_,rfl⟩;have e6:=H5.out;have i2:=g5.out;rw[<-e9]at b5 e6 i2;have i8:P1.last.now=P.last.now:=by
  rw[e9];show(Xb P.last (azy (kb:Int))).now=_;rw[(alh _ _).2,Nf (show ¬(6:Int)=7 by decide)]
 have H1:M6 (_/\_/\_/\_):=⟨e6,i2,b5,i8⟩;rw[<-beq_iff_eq (a:=kk) (b:=(0:Int)),<-b6]at g6;have m0:M6 _:=g6;have Z:M6 (_/\_/\_/\_):=⟨hU,b8,o2,l4⟩;clear e6 i2 b5 i8 e9 g6 hU b8 H a4 d6 m5 ho e7 m3 i5 m8 H5 g5;have a7:(kk=0/\gb=Nw)\/((kk == 0)=Nb/\gb=Nb):=by
  by_cases h:kk=0
  ·exact Nt ⟨h,by rw[b6,h];rfl⟩
  ·have h':(kk == 0)=false:=by simpa using h
   exact NF ⟨h',by rw[b6,h']⟩
 clear b6
 go_upto_region 7 with fail
 go_cut [13]from 43 to 66 (fun s wx=>s=M3 gb/\F=wx)
 case first =>
  rcases a7 with⟨rfl,rfl⟩|⟨h,rfl⟩
  all_goals
   go_wp2_with fail
   go_meet
   exact⟨rfl,rfl⟩
 obtain⟨rfl,rfl⟩:=hcut;clear a7 u0 u1 u2 u3 u4 u5 u6 a5 c0 m7 b3 m6
 go_wp2_with fail
 refine wp_region_quiet_lit (by kernel_rfl) (by kernel_rfl) ?_
 repeat (first|go_big_quiet_skip|quiet_step (fail))
 refine wpQuiet_nil ?_;intro _ n6;obtain⟨nq,m9⟩:=n6;subst m9;have i4:MQ F.heap.size F (F.drewN nq):=amB (RowKit.Below.refl _ _) nq;obtain⟨W6,k8⟩:∃W,W=F.drewN nq:=⟨_,rfl⟩;rw[<-k8]at i4⊢;have H6:M6 (XQ W0 W6 g V5 c P1):=H1.out.1.on i4;clear i4 k8 b2 c5 a6
 go_wp2_with fail
 go_loopw [10,15] (fun k i wr=>∃(j:Nat) (V:Pv) (Q:Py),k=M3 Nw/\i=MF ME (j:Int)/\j<=lm/\j<=20/\M6 (XQ W0 wr g V c Q/\ay1 (Yb c) c P (kb:Int) Q/\Q.steps.length=n1+j/\P.last.now<=Q.last.now)) (fun _ i _=>lm-(intOf i).toNat)
 case atStart=>exact⟨0,_,_,rfl,rfl,Nx _,Nx _,H6.out,H1.out.2.1,H1.out.2.2.1,by rw[H1.out.2.2.2];exact Int.le_refl _⟩
 case round =>
  obtain⟨j,Tryz.results164,Q,rfl,rfl,hj,p1,I⟩:=hrel;have p0:lm<=9223372036854775807:=by
   obtain⟨_,k5,_,q0,o3,_⟩:=Xw.F6 anr a0.out.2.1;rw[a0.out.2.2.1];unfold maxLen at o3;omega
  have O:Q.steps.length<=1000:=by rw[I.out.2.2.1,Z.out.2.1];omega
  by_cases hlt:j<lm/\j<20
  ·have i3:(j:Int)<(lm:Int):=by omega
   ·have j7:(j:Int)<20:=by omega
    have i7:j<ms.length:=by rw[<-a0.out.2.2.1];exact hlt.1
    obtain⟨am,k5,hv,i0,f8,hp⟩:=Xw.F6 anr (a0.out.2.1.below (a0.out.2.2.2.trans (I.out.1.bel.mono a0.out.2.2.2.size)));injection hv with ha hn2 hcap;obtain⟨D,oo,l5,c0,a8⟩:=hp j i7;rw[<-ha]at l5;have d0:wr.cell? ⟨D,oo+j*4,MH⟩=MI (MF ME ms[j].k):=a8 0 (by omega);have d1:wr.cell? ⟨D,oo+j*4+1,MH⟩=MI (MF ME ms[j].a):=a8 1 (by omega);have d2:wr.cell? ⟨D,oo+j*4+2,MH⟩=MI (MF ME ms[j].b):=a8 2 (by omega);have d3:wr.cell? ⟨D,oo+j*4+3,MH⟩=MI (MF ME ms[j].c):=a8 3 (by omega);have f9:=a0.out.1 _ (Nk i7);obtain⟨x,hx⟩:∃x,x=ms[j]:=⟨_,rfl⟩;rw[<-hx]at d0 d1 d2 d3 f9;have HE:M6 _:=I.out.1.MD O x f9;have HL:M6 _:=O;clear ha hn2 hcap a8 hp hx f9 i7 O c0 i0 f8;subst l5
    go_wp2_with fail
    refine Nd HE.out ?_;rintro r w6 ⟨e,he,rfl,h6⟩;have T:M6 _:=h6.Mf HL.out e he.1;have c7:M6 _:=I.out.2.1.step HL.out he.1 he.2;have a3:M6 (P.last.now<=(Q.step e).last.now):=by
     have z:(Q.step e).last.now=if e.kind=7 then Q.last.now+1 else Q.last.now:=(alh Q.last e).2
     have N:=I.out.2.2.2;rw[M6,z]
     split <;> omega
    clear h6 he HE d0 d1 d2 d3
    go_wp2_with fail
    refine Nd T.out ?_;rintro r w7 ⟨rfl,V7,h7⟩;have H7:M6 _:=h7;clear h7 T
    go_wp2_with fail
    go_roundw
    case rel=>exact⟨j+1,V7,_,rfl,by simp,by omega,by omega,H7.out,c7.out,by rw[ajm,I.out.2.2.1];omega,a3.out⟩
    case measure=>simp[intOf];omega
  ·have n0:(¬(j:Int)<(lm:Int))\/((j:Int)<(lm:Int)/\¬(j:Int)<20):=by omega
   clear O hlt;rcases n0 with i3|⟨i3,j7⟩
   all_goals
    go_wp2_with fail
    clear i3
    try clear j7
    go_loopw [10] (fun k wr=>∃(t:Nat) (V:Pv) (Q:Py),k=M3 Nw/\M6 (XQ W0 wr g V c Q/\ay1 (Yb c) c P (kb:Int) Q/\Q.steps.length=n1+j+t/\P.last.now+t<=Q.last.now/\t<=5)) (fun _ wr=>(U-azP wr g).toNat)
    case atStart=>exact⟨0,_,_,rfl,I.out.1,I.out.2.1,I.out.2.2.1,by have:=I.out.2.2.2;omega,by omega⟩
    case round =>
     obtain⟨t,V8,R,rfl,B⟩:=hrel;have b2:wr.cell? ⟨g,33,MH⟩=MI (MF ME R.last.now):=(B.out.1.pat.az3 33).trans rfl;have a6:=B.out.1.pat.lt;have j9:=B.out.1.rn.runs.now;have k2:=B.out.1.rn.runs.wm.im.bs.now;obtain⟨nw,b1⟩:∃x,x=R.last.now:=⟨_,rfl⟩;rw[<-b1]at b2 j9 k2;have a3:M6 _:=b1;have HC:M6 _:=azQ b2
     by_cases hlt:nw<U
     ·have i6:t<5:=by
       have z:=B.out.2.2.2.1;have N:=Z.out.1;have h3:=Z.out.2.2.1;rw[<-a3.out]at z;omega
      have O:R.steps.length<=1000:=by rw[B.out.2.2.1,Z.out.2.1];omega
      have T:M6 _:=B.out.1.Mf O azV anv;have c7:M6 _:=B.out.2.1.step O (e:=azV) anv (by decide);have HT:M6 ((R.step azV).last.now=nw+1):=by rw[b1];exact(aqW R.last).2
      clear b1 O
      go_wp2_with fail
      refine Nd T.out ?_;rintro r w7 ⟨rfl,V7,h7⟩;have c2:=h7;have c9:=ajm R azV;obtain⟨R2,l7⟩:∃x,x=R.step azV:=⟨_,rfl⟩;have d7:=c7.out;have g8:=HT.out;rw[<-l7]at c2 c9 d7 g8;have k1:w7.cell? ⟨g,33,MH⟩=MI (MF ME R2.last.now):=(c2.pat.az3 33).trans rfl;have n4:M6 _:=azQ k1;have H7:M6 (_/\_/\_/\_):=⟨c2,d7,c9,g8⟩;clear h7 c2 c9 d7 g8 l7 k1 T c7 HT
      go_wp2_with fail
      go_roundw
      case rel=>exact⟨t+1,V7,R2,rfl,H7.out.1,H7.out.2.1,by rw[H7.out.2.2.1,B.out.2.2.1];omega,by rw[H7.out.2.2.2];have:=B.out.2.2.2.1;rw[<-a3.out]at this;omega,by omega⟩
      case measure =>
       show(U-azP w7 g).toNat<(U-azP wr g).toNat
       rw[n4.out,HC.out,H7.out.2.2.2];omega
     ·have d8:=B.out.2.1.Jb y.out.1.rn rfl y.out.2.2.2.2.2 (by rw[<-Z.out.1,<-a3.out];omega)
      rw[<-y.out.2.2.1]at d8;obtain⟨N3,c6⟩:∃m,m=R.steps.length:=⟨_,rfl⟩;have d9:=azL R n;rw[d8,<-c6]at d9;have d4:N3<=90/\n1<=N3:=by have z:=B.out.2.2.1;have N:=B.out.2.2.2.2;have h3:=Z.out.2.1;rw[c6];omega
      have HT:M6 (_/\_/\_):=⟨d9,c6,d4.2⟩;have p3:=d4.1;have o1:n<=N3:=by have:=Z.out.2.1;omega
      clear d8 d9 c6 d4 b1 j9 k2 HC a3
      go_wp2_with fail
      clear b2 a6 hlt;obtain⟨S,l9⟩:∃W,W=wr:=⟨_,rfl⟩;rw[<-l9]at B⊢;clear l9
      go_loopw [16,17,18,19] (fun gn i _ _ wr=>∃(C a:Nat),gn=MF ME (a:Int)/\i=MF ME (C:Int)/\n<=C/\C<=N3/\a<=1040*C/\M6 (a=azZ R n C)/\M6 (MQ S.heap.size S wr)) (fun _ i _ _ _=>N3-(intOf i).toNat)
      case atStart=>exact⟨n,0,rfl,rfl,MV _,o1,Nx _,(azN R n).symm,RowKit.Below.refl _ _⟩
      case round =>
       obtain⟨C,a,rfl,rfl,n2,p9,o7,HA,HW⟩:=hrel;have a1:=B.out.1.on HW.out;have a6:=a1.pat.lt;have b3:wr.cell? ⟨g,16,MH⟩=MI (MG V8.ps N3 V8.cs):=by rw[HT.out.2.1];exact a1.pat.Gm
       clear a1
       by_cases hli:C<N3
       ·have o4:(C:Int)<(N3:Int):=by omega
        obtain⟨q,b,o,H,a4,g0⟩:=B.out.1.step (k:=C) (by rw[<-HT.out.2.1];exact hli);obtain⟨no,a9⟩:∃m,m=q.s.out.length:=⟨_,rfl⟩;have j4:no<=1040:=by rw[a9];exact g0.az2
        obtain⟨M,hM⟩:∃M,M=(XR q.v q.s.aft).toList:=⟨_,rfl⟩;have e5:=H.az4;rw[<-hM]at e5;have j6:(Tryz.prog.info? 58).map (·.size)=MI M.length:=by rw[hM];exact Z0
        have j0:∀W,MQ S.heap.size S W->Ni MK 17 #[Ny M.toArray,MF ME (kb:Int)] W fun r w'=>r=MN (MF ME ((abu q.s.aft.fls (kb:Int):Nat):Int))/\MQ W.heap.size W w':=fun W hb=>azK hM (H.rd.2.1.below hb) g0.next.im.bs.Gb _
        have i6:∀x∈q.s.out,x.kind=9->x.req=2000->x.be=(kb:Int)/\abu q.s.aft.fls (kb:Int)=0:=B.out.2.1.told q.s (by
         rw[<-y.out.2.2.1];obtain⟨q5,e⟩:=List.getElem?_eq_some_iff.1 a4;rw[<-e];exact List.mem_drop_iff_getElem.2 ⟨C-n,by omega,by congr 1;omega⟩)
        obtain⟨ap,k5,hv,i0,f8,hp⟩:=Xw.F6 akV H.rd.2.2;injection hv with q1 q2 q3;have m2:=H.at_;have J:M6 (_/\_/\_/\_/\_/\_/\_):=⟨a9,H,e5,j6,j0,i6,hp⟩;have m4:azZ R n (C+1)=a+azY q.s.out:=by rw[HA.out];exact azM a4 n2
        have n5:M6 _:=m4;rw[m2]at b3;rw[a9]at j4;rw[<-a9]at j4;have n8:M6 _:=q1;clear a9 H e5 j6 j0 i6 hp q1 q2 q3 i0 f8 m4 a4 g0 hM
        go_wp2_with fail
        clear b3 a6
        go_loopw [16,18,19] (fun gn k _ wr=>∃(l E:Nat),gn=MF ME (E:Int)/\k=MF ME (l:Int)/\l<=no/\E<=1040*C+l/\M6 (E=a+azY (q.s.out.take l))/\M6 (MQ S.heap.size S wr)) (fun _ k _ _=>no-(intOf k).toNat)
        case atStart=>exact⟨0,a,rfl,rfl,Nx _,o7,rfl,HW.out⟩
        case round =>
         obtain⟨l,E,rfl,rfl,p8,p2,b7,HX⟩:=hrel;have a1:=B.out.1.on HX.out;have a6:=a1.pat.lt;have b3:wr.cell? ⟨g,16,MH⟩=MI (MG (MI ⟨b,o,MH⟩) N3 V8.cs):=by rw[HT.out.2.1,<-m2];exact a1.pat.Gm
         have a5:wr.cell? ⟨b,o+C*61+60,MH⟩=MI (MG q.po no q.co):=by rw[J.out.1];exact(J.out.2.1.on HX.out).cells 60 _ rfl
         have c0:b<wr.heap.size:=MX wr ⟨b,_,MH⟩ a5;clear a1
         by_cases hlk:l<no
         ·have n3:(l:Int)<(no:Int):=by omega
          have c1:l<q.s.out.length:=by rw[<-J.out.1];exact hlk
          obtain⟨D,oo,k3,d5,k0⟩:=J.out.2.2.2.2.2.2 l c1;rw[n8.out.trans k3]at a5;have K:=fun t (ht:t<7)=>(HX.out.cell (p:=⟨D,oo+l*7+t,MH⟩) d5).trans (k0 t ht)
          have p6:D<wr.heap.size:=Nat.lt_of_lt_of_le d5 HX.out.size;have b9:=J.out.2.2.2.2.2.1 _ (Nk c1);have c3:=azO c1;obtain⟨x,hx⟩:∃x,x=q.s.out[l]:=⟨_,rfl⟩;rw[<-hx]at K b9 c3;obtain⟨kd,sl,gn,be,rq,cd,wy⟩:=x;have f0:wr.cell? ⟨D,oo+l*7,MH⟩=MI (MF ME kd):=K 0 (by omega);have f1:wr.cell? ⟨D,oo+l*7+1,MH⟩=MI (MF ME sl):=K 1 (by omega);have f2:wr.cell? ⟨D,oo+l*7+2,MH⟩=MI (MF ME gn):=K 2 (by omega);have f3:wr.cell? ⟨D,oo+l*7+3,MH⟩=MI (MF ME be):=K 3 (by omega);have f4:wr.cell? ⟨D,oo+l*7+4,MH⟩=MI (MF ME rq):=K 4 (by omega);have f5:wr.cell? ⟨D,oo+l*7+5,MH⟩=MI (MF ME cd):=K 5 (by omega);have f6:wr.cell? ⟨D,oo+l*7+6,MH⟩=MI (MF ME wy):=K 6 (by omega);simp only[]at b9 c3;have g9:M6 (azY (q.s.out.take (l+1))=azY (q.s.out.take l)+if kd=9/\rq=2000 then 1 else 0):=c3;have HN:M6 (∀W,MQ wr.heap.size wr W->MQ S.heap.size S W):=fun W hb=>HX.out.trans (hb.mono HX.out.size)
          clear K k0 hx c1 k3 d5 c3;have a7:(kd == 9)=Nb\/((kd == 9)=Nw/\(rq == 2000)=Nb)\/(kd=9/\rq=2000/\be=(kb:Int)/\abu q.s.aft.fls (kb:Int)=0):=by
           by_cases z:kd=9
           ·by_cases N:rq=2000
            ·exact NF (NF ⟨z,N,b9 z N⟩)
            ·exact NF (Nt ⟨by simp[z],by simpa using N⟩)
           ·exact Nt (by simpa using z)
          clear b9;rcases a7 with z|⟨z,N⟩|⟨rfl,rfl,rfl,j5⟩
          ·have f7:M6 (¬(kd=9/\rq=2000)):=fun h=>by rw[h.1]at z;cases z
           go_wp2
           go_roundw
           case rel=>exact⟨l+1,E,rfl,by simp,hlk,by omega,(by have h3:=g9.out;rw[Nf f7.out]at h3;have h4:=b7.out;exact(by omega:E=a+azY (q.s.out.take (l+1)))),HN.out _ (WQ wr)⟩
           case measure=>simp[intOf];omega
          ·have f7:M6 (¬(kd=9/\rq=2000)):=fun h=>by rw[h.2]at N;cases N
           go_wp2
           go_roundw
           case rel=>exact⟨l+1,E,rfl,by simp,hlk,by omega,(by have h3:=g9.out;rw[Nf f7.out]at h3;have h4:=b7.out;exact(by omega:E=a+azY (q.s.out.take (l+1)))),HN.out _ (WQ wr)⟩
           case measure=>simp[intOf];omega
          ·have n9:M6 _:=j5
           clear j5;have q6:IntKind.i64.wrap ((E:Int)+1)=((E+1:Nat):Int):=by rw[Ow];omega
           go_wp2_with ((with_reducible refine azX ?gw 58 (Operand.tmp 167) rfl b (o+C*61+34) ?gx M _ ?gc Tryz.underlying58 ?gd ?gi ?_);(case gw=>rfl);(case gx=>rfl);(case gc=>exact azU J.out.2.2.1 (HN.out _ (WQ wr)));(case gd=>rfl);(case gi=>exact J.out.2.2.2.1))
           refine Nd (J.out.2.2.2.2.1 _ (HN.out _ (WQ wr))) ?_;rintro r w8 ⟨rfl,l8⟩;rw[n9.out];have o5:M6 _:=HN.out _ ((WQ wr).trans (l8.mono (WQ wr).size));clear l8;go_wp2
           go_roundw
           case rel=>exact⟨l+1,E+1,rfl,by simp,hlk,by omega,(by have h3:=g9.out;rw[Nh (by simp)]at h3;have h4:=b7.out;exact(by omega:E+1=a+azY (q.s.out.take (l+1)))),o5.out⟩
           case measure=>simp[intOf];omega
         ·obtain rfl:l=no:=by omega
          have n3:¬(l:Int)<(l:Int):=by omega
          have i9:E=azZ R n (C+1):=by have z:=b7.out;rw[J.out.1,NT]at z;rw[n5.out];exact z
          have o0:M6 _:=i9;clear i9;go_wp2
          go_roundw
          case rel=>exact⟨C+1,E,rfl,by simp,by omega,hli,by omega,o0.out,HX.out⟩
          case measure=>simp[intOf];omega
       ·obtain rfl:C=N3:=by omega
        have o4:¬(C:Int)<(C:Int):=by omega
        have a7:(gb=Nw/\a=1)\/(gb=Nb/\a=0):=by
         have z:=HA.out;rw[HT.out.1]at z;cases hg:gb
         ·rw[Nf (fun h=>by have:=m0.out.2 h;rw[hg]at this;cases this)]at z
          exact NF ⟨rfl,z⟩
         ·rw[Nh (m0.out.1 hg)]at z
          exact Nt ⟨rfl,z⟩
        have HE:M6 _:=B.out.1.bel.trans (HW.out.mono B.out.1.bel.size);rcases a7 with⟨rfl,rfl⟩|⟨rfl,rfl⟩
        all_goals
         go_wp2;go_ret;exact⟨rfl,l6.out.trans (HE.out.mono l6.out.size)⟩
end Go.Proofs.YtmpokpecfclapaaGreatDoor.Q
