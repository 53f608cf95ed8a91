/-
  Contracts of the layers and of core, part 18. Conditions: as each theorem says.
-/
import Derived.Test.YtgnclkcdnbfeeaaGreatDoorQ11
import Derived.Test.YtgnclkcdnbfeeaaGreatDoorQ17
open Bool renaming false->Nb,true->Nw
open Go renaming Calls->Ni,TypeId->NU,Value->M7,World->MO
open Go.Ending renaming returned->MN
open Go.IntKind renaming i64->ME
open Go.Obj renaming cells->MP
open Go.Proofs.Tryz renaming prog->MK
open Go.RowKit renaming Below->MQ
open Go.Value renaming int->MF,slice->MG,tuple->Nv
open Int renaming le_refl->Qh,toNat_natCast->NR
open List renaming eq_of_mem_replicate->Pd,foldl_append->Pu,foldl_cons->O4,getD_eq_getElem?_getD->NK,getElem?_eq_getElem->MR,getElem?_replicate->Pj,getElem_mem->Nk,length_append->Ns,length_cons->Ox,length_replicate->Qr,length_singleton->OU,mem_cons_of_mem->NB,mem_cons_self->NM,mem_of_getElem?->Nu,mem_singleton->PY,nil_append->Oz,not_mem_nil->OD,replicate->Nj
open Nat renaming le_refl->MV,zero_le->Nx
open Option renaming getD_some->OV,none->MH,some->MI
open Or renaming inl->Nt,inr->NF
namespace Go.Proofs.YtgnclkcdnbfeeaaGreatDoor.Q
set_option linter.unusedVariables false
set_option linter.unusedSimpArgs false
set_option maxHeartbeats 16000000
set_option maxRecDepth 100000
open Go.RowKit
attribute [local go_sem ↓] Go.wp_at_zero Go.wp_at_succ
variable {e:Ev}{f:Fl}{X:Gt}{y:Int}{i:Nat}
def Yb(c:Cf):Gt:=⟨c,0,Nj c.flows.toNat (0,Nb,0,0),[],[],[],Nj 12 0,Nj 12 XM,c.bb*c.bd,0,fun _=>False,[]⟩
theorem ak7:∀(n:Int) (k:Nat),Xx n (Nj k ((0,Nb,0,0):awY))=[]
 |_,0=>rfl
 |n,k+1=>by
  rw[List.replicate_succ];show(if Nb=Nw then _ else _)=_;rw[Nf (by decide)];exact ak7 (n+1) k
theorem ale:WW (Nj 12 0)=[]:=by
 have h:=agK aiW;cases hs:WW (Nj 12 0)with
 |nil=>rfl
 |cons t l =>
  exfalso;have d:=aiQ (afi aiW) t (by rw[hs];exact NM);have a:=agx (Nj 12 0) t.2.toNat (by omega);rw[hs]at a;have b:wt (Nj 12 0) t.2.toNat=0:=by
   unfold wt;rw[NK,Pj]
   split <;> rfl
  rw[b]at a;unfold XX at a;rw[List.countP_cons_of_pos (by rw[decide_eq_true_iff];omega)]at a;omega
theorem aoq:Y9 0 aaW:=by
 refine⟨⟨by omega,by omega⟩,⟨by simp[aaW],fun i l hl t ht=>?_,fun l hl=>?_,by simp[aaW]⟩⟩
 ·have:l=[]:=Pd (Nu hl)
  subst this;cases ht
 ·have:l=[]:=Pd hl
  subst this;exact List.Pairwise.nil
theorem akw{c:Cf}(hc:adg c):Wm (Yb c):=by
 have m:=hc.2.2.2.2.2.2.2.2.2.2.1;have n:=hc.2.2.2.2.2.2.2.2.2.2.2;have j:0<=c.bb*c.bd:=Int.mul_nonneg (by omega) (by omega);have g:(Nj c.flows.toNat ((0,Nb,0,0):awY)).length=c.flows.toNat:=Qr;refine⟨⟨⟨hc,⟨by show(0:Int)<=0;omega,by show(0:Int)<=1099511626776;omega⟩,⟨?_,fun t d=>?_⟩,?_,⟨⟨by simp[Yb],fun x hx=>absurd hx (by simp[Yb]),by simp[Yb]⟩,by simp[Yb],fun x hx=>absurd hx (by simp[Yb]),by simp[Yb]⟩,⟨j,Qh _⟩,Qr,fun h a=>?_,?_,fun f hf=>absurd hf (by simp[Yb]),fun l hl=>absurd hl (by simp[Yb]),aiW,⟨Qh _,Qh _⟩,fun t=>⟨fun h=>absurd h (by simp[Yb]),fun⟨f,hf,_⟩=>absurd hf (by simp[Yb])⟩⟩,fun f hf=>absurd hf (by simp[Yb]),fun b m=>?_,fun l hl=>absurd hl (by simp[Yb]),fun f hf=>absurd hf (by simp[Yb])⟩,rfl,fun f hf=>absurd hf (by simp[Yb]),fun l hl=>absurd hl (by simp[Yb]),fun h a ho=>?_⟩
 ·show _<=_/\_<=_
  simp only[Yb,g];omega
 ·have d:t=(0,Nb,0,0):=Pd d
  subst d
  decide
 ·show((Nj c.flows.toNat ((0,Nb,0,0):awY)).length:Int)=c.flows
  rw[g];omega
 ·have a:h=XM:=Pd a
  subst a;exact⟨by show((0:Nat):Int)<=c.wn;omega,by decide,by decide,NF rfl⟩
 ·show([]:List Fl).map Fl.F8=Xx 0 (Nj c.flows.toNat ((0,Nb,0,0):awY))
  rw[ak7];rfl
 ·show(Nj 12 (0:Int)).getD b 0=if WY [] (b:Int)=2 then _ else 0
  rw[Nf (show ¬WY [] (b:Int)=2 from by show ¬(0:Int)=2;decide),NK,Pj]
  split <;> rfl
 ·have a:h=XM:=Pd a
  subst a;cases ho
theorem apg:rv aeW (Nj 12 ())=rv aa0 ((Nj 12 ((MH,0):Mk)).zip (Nj 12 XM)):=rfl
theorem aor(c:Cf)(hc:adg c)(w:MO) :
  Ni MK 14 #[ag9 c] w fun r w'=>∃U,r=MN (Nv #[acN U (Yb c),MF ME 0])/\(∀W,aba w.heap.size w' W->Xd W U (Yb c))/\MQ w.heap.size w w':=by
 have b:acO ⟨c.flows,c.num,c.den,c.tries,c.warm,c.drain,c.idle,c.conn,c.ret,c.most,c.bn,c.bd,c.bb,c.wn,c.wf,c.wh⟩:=hc;refine(arg ⟨c.flows,c.num,c.den,c.tries,c.warm,c.drain,c.idle,c.conn,c.ret,c.most,c.bn,c.bd,c.bb,c.wn,c.wf,c.wh⟩ w b).mono ?_;intro r w' a;unfold af5 at a;rw[Nh b]at a;obtain⟨K,I,H,rfl,g,C⟩:=a;obtain⟨n,p,o⟩:=g w' ⟨MV _,fun _ _ _=>rfl⟩;obtain⟨E,u,rfl,_⟩:=n.F6;obtain⟨l,j,rfl,_,_⟩:=Xw.Ga p;obtain⟨L,⟨v,F,rfl,_,_,_⟩,_⟩:=o;have d:(WW (Yb c).wts).length=0:=by show(WW (Nj 12 0)).length=0;rw[ale];rfl
 refine⟨⟨l,j,E,u,MH,0,MH,0,MH,0,MH,0,v,F,Nj 12 (MH,0)⟩,?_,fun W hW=>?_,C⟩
 ·simp only[acN,XR,d]
  rfl
 ·obtain⟨q,s,z⟩:=g W hW
  refine⟨q,ak3 W,⟨Z3 W,Z3 W⟩,?_,⟨aaW,aoq,fun t=>⟨fun h=>?_,fun h=>h.elim⟩,z⟩,?_,Qr,Qr,fun i m x e1 e2=>?_⟩
  ·rw[d]
   show XB W (MG MH 0 0) (WW (Nj 12 0)).length (WP (WW (Nj 12 0)));rw[ale];exact Z3 W
  ·simp[aaW]at h
  ·show XB W (MG l 12 j) ((Nj 12 ((MH,0):Mk)).zip (Nj 12 XM)).length (rv aa0 ((Nj 12 ((MH,0):Mk)).zip (Nj 12 XM)))
   rw[<-apg];exact s
  ·have D:m=(MH,0):=Pd (Nu e1)
   have B:x=XM:=Pd (Nu e2);subst D;subst B;exact ah2 W
abbrev Ey(f:Fl)(y:Int):Prop:=(y=1/\f.srv=Nw)\/y=2
section
variable {R:Gt->Prop}
theorem ahx(h1:∀X f y,Im X->f∈X.fls->Ey f y->R X->R (Yg X f 6 y))(h2:∀X (i:Nat) (_:Im X) (hi:i<X.fls.length),X.fls[i].srv=Nb->R X->R (YP X i 5)) :
  ∀(l:List Int) (G:Gt),Im G->l.Nodup->(∀s∈l,∃f∈G.fls,f.slot=s)->R G->R (l.foldl X5 G)
 | [],G,_,_,_,hR=>hR
 |s::l,G,h,hn,hs,hR=>by
  obtain⟨f,a,rfl⟩:=hs s (by simp);obtain⟨b,n,g,_⟩:=ahy h a;obtain⟨j,d⟩:=List.nodup_cons.1 hn;refine ahx h1 h2 l _ b d (fun c hc=>?_) ?_
  ·obtain⟨k,m,rfl⟩:=hs c (NB _ hc)
   exact⟨k,(g k fun e=>j (by rw[<-e];exact hc)).2 m,rfl⟩
  ·obtain⟨hi,e⟩:=h.bs.GG a
   unfold X5;simp only[]
   split
   ·rename_i hv
    rw[XA hi,e]at hv⊢;exact h1 _ _ _ h a (Nt ⟨rfl,hv⟩) hR
   ·rename_i hv
    rw[XA hi]at hv;exact h2 _ _ h hi (by simpa using hv) hR
theorem akf(h1:∀X f y,Im X->f∈X.fls->Ey f y->R X->R (Yg X f 6 y)) :
  ∀(l:List Tm) (G:Gt),Im G->l.Pairwise (fun a b=>a.1<b.1)->(∀t∈l,∃f∈G.fls,f.slot=t.1)->R G->R (l.foldl Ye G)
 | [],G,_,_,_,hR=>hR
 |t::l,G,h,hn,hs,hR=>by
  obtain⟨f,d,e⟩:=hs t (by simp);obtain⟨q,n⟩:=h.bs.GG d;have g:Ye G t=Yg G f 6 2:=by unfold Ye;rw[<-e,XA q,n]
  have o:adi G (Ye G t) t.1:=by rw[g,<-e];exact ad3 h.bs d _ _
  obtain⟨p,m⟩:=List.pairwise_cons.1 hn;refine akf h1 l _ (by rw[g];exact h.Hc d _ _) m (fun c hc=>?_) (by rw[g];exact h1 _ _ _ h d (NF rfl) hR);obtain⟨k,r,j⟩:=hs c (NB _ hc);refine⟨k,(o k fun e3=>?_).2 r,j⟩;have:=p c hc;omega
theorem akb(h1:∀X f y,Im X->f∈X.fls->Ey f y->R X->R (Yg X f 6 y)):∀(L:List awV) (G:Gt),Im G->R G->R (L.foldl Zd G)
 | [],G,_,hR=>hR
 |l::L,G,h,hR=>by
  refine akb h1 L _ (ahd h l).1 ?_;unfold Zd
  split
  ·exact hR
  ·obtain⟨b,d⟩:=h.bs.IW l.1
   refine akf h1 _ G h b (fun t ht=>?_) hR;obtain⟨f,a,e,_⟩:=d t ht;exact⟨f,a,e⟩
variable {G:Gt}
def ZC(G:Gt):Gt:=aaC (YH {G with now:=G.now+1})
def adV(G:Gt):Gt:={ZC G with wnow:=(ZC G).wnow+1,tms:=fun t=>(ZC G).tms t/\t.1≠(ZC G).wnow+1}
theorem Wm.My(h:Wm G)(hn:G.now+1<=1099511626776):Im (adV G)/\(∀s∈aaD (ZC G).fls ((ZC G).wnow+1),∃f∈(ZC G).fls,f.slot=s)/\(aaD (ZC G).fls ((ZC G).wnow+1)).Nodup/\(ZC G).now=G.now+1/\(ZC G).wnow=G.now/\(ZC G).fls=G.fls:=by
 have d:=h.im.next hn;obtain⟨o,m,l,q,_⟩:=aeS d.bs;have g:=d.Jf.I2;have a:(ZC G).now=G.now+1:=o;have b:(ZC G).wnow=G.now:=m.trans h.wnow;obtain⟨j,p⟩:=Bs.IF (G:=ZC G) g.bs ((ZC G).wnow+1);refine⟨Im.IN (G:=ZC G) g (by rw[b,a];exact Qh _),fun s hs=>?_,j,a,b,l⟩;obtain⟨f,n,e,_⟩:=p s hs;exact⟨f,n,e⟩
theorem alk(h:Wm G)(hn:G.now+1<=1099511626776)(h0:R (adV G))(h1:∀X f y,Im X->f∈X.fls->Ey f y->R X->R (Yg X f 6 y))(h2:∀X (i:Nat) (_:Im X) (hi:i<X.fls.length),X.fls[i].srv=Nb->R X->R (YP X i 5)):R (abj G):=by
 obtain⟨a,d,b,_,_,_⟩:=h.My hn;have g:R (Zs (ZC G)):=ahx h1 h2 _ (adV G) a b d h0;have hi:Im (Zs (ZC G)):=by
  have:(fun X=>Im X) (Zs (ZC G)):=ahx (R:=fun X=>Im X) (fun X f y hX hf _ _=>hX.Hc hf 6 y) (fun X i hX hi _ _=>hX.I8 hi 5) _ (adV G) a b d a;exact this
 exact akb h1 _ _ hi g
end
section
variable {G:Gt}
theorem ahQ(hi:i<G.fls.length)(n:Int):∃T,YW G i n={G with fls:=G.fls.set i {G.fls[i]with due:=G.now+n},tms:=T}/\Xs (YW G i n) i={G.fls[i]with due:=G.now+n}:=by
 have e:YW G i n={G with fls:=G.fls.set i {G.fls[i]with due:=G.now+n},tms:=(YW G i n).tms}:=by
  unfold YW;rw[XA hi]
 refine⟨_,e,?_⟩;rw[e,XA (by simpa using hi)];simp
theorem ak0(hi:i<G.fls.length)(b:Int):∃T,ZL G i b=Yf (ZM {G with tab:=(Y0 G.tab G.fls[i].slot G.fls[i].gen b).1,fls:=G.fls.set i {G.fls[i]with be:=b,ret:=G.fls[i].ret+1,due:=G.now+G.cfg.conn},tms:=T} ⟨5,G.fls[i].slot,G.fls[i].gen,b,0,0,0⟩) G.fls[i].be:=by
 obtain⟨d,a⟩:∃d,d=Y4 {G with tab:=(Y0 G.tab G.fls[i].slot G.fls[i].gen b).1} i {G.fls[i]with be:=b,ret:=G.fls[i].ret+1}:=⟨_,rfl⟩;have l:i<d.fls.length:=by rw[a];simpa [Y4]using hi
 have g:d.fls[i]={G.fls[i]with be:=b,ret:=G.fls[i].ret+1}:=by simp[a,Y4]
 obtain⟨T,m,j⟩:=ahQ l G.cfg.conn;refine⟨T,?_⟩;unfold ZL;simp only[XA hi];rw[<-a,j,g,m,g];unfold abi;simp only[a,Y4,List.set_set]
theorem alb(hi:i<G.fls.length):∃T,abh G i=ZM {Yh G G.fls[i].be Nb with fls:=G.fls.set i {G.fls[i]with srv:=Nw,due:=G.now+G.cfg.idle},tms:=T} ⟨4,G.fls[i].slot,G.fls[i].gen,G.fls[i].be,0,0,0⟩:=by
 obtain⟨b,a⟩:∃b,b=Y4 (Yh G G.fls[i].be Nb) i {G.fls[i]with srv:=Nw}:=⟨_,rfl⟩;have j:i<b.fls.length:=by rw[a];simpa [Y4,Yh]using hi
 have d:b.fls[i]={G.fls[i]with srv:=Nw}:=by simp[a,Y4,Yh]
 obtain⟨T,l,g⟩:=ahQ j G.cfg.idle;refine⟨T,?_⟩;unfold abh;simp only[XA hi];rw[<-a,g,d,l,d];unfold abi;simp only[a,Y4,Yh,List.set_set]
theorem aks(hi:i<G.fls.length):∃T,aaZ G i=ZM {G with fls:=G.fls.set i (if G.fls[i].srv then {G.fls[i]with due:=G.now+G.cfg.idle}else G.fls[i]),tms:=T} ⟨3,G.fls[i].slot,G.fls[i].gen,G.fls[i].be,0,0,0⟩:=by
 unfold aaZ;simp only[XA hi]
 split
 ·obtain⟨T,b,a⟩:=ahQ hi G.cfg.idle
  refine⟨T,?_⟩;rw[a,b];rfl
 ·refine⟨G.tms,?_⟩
  rw[List.set_getElem_self,XA hi];rfl
theorem akr(h:Bs G)(e:Ev):((Yj G.tab e.slot e.gen).2≠0/\aaq G e=acm G 10 (Yj G.tab e.slot e.gen).2) \/
  (∃(i:Nat) (hi:i<G.fls.length),(Yj G.tab e.slot e.gen).2=0/\G.fls[i].slot=e.slot/\G.fls[i].gen=e.gen /\
   ((e.kind=3/\aaq G e=Yg G G.fls[i] 7 0)\/(e.kind=2/\aaq G e=aaZ G i) \/
    (e.kind≠3/\e.kind≠2/\((G.fls[i].srv=Nw/\aaq G e=acm G 10 7)\/(G.fls[i].srv=Nb/\e.good=Nw/\aaq G e=abh G i)\/(G.fls[i].srv=Nb/\e.good=Nb/\aaq G e=YP G i 3))))):=by
 unfold aaq;simp only[]
 by_cases hc:(Yj G.tab e.slot e.gen).2=0
 ·rw[Nf (fun h=>h hc)]
  obtain⟨f,g,b,d⟩:=h.Jv hc;obtain⟨hi,a⟩:=h.GG g;rw[b]at hi;have a:G.fls[aaF G.fls e.slot]=f:=by simp only[b]at a;exact a
  refine NF ⟨_,hi,hc,by rw[a,b],by rw[a,d],?_⟩;rw[XA hi]
  by_cases k3:e.kind=3
  ·rw[Nh k3];exact Nt ⟨k3,rfl⟩
  ·rw[Nf k3]
   by_cases k2:e.kind=2
   ·rw[Nh k2];exact NF (Nt ⟨k2,rfl⟩)
   ·rw[Nf k2]
    refine NF (NF ⟨k3,k2,?_⟩);cases hs:G.fls[aaF G.fls e.slot].srv
    ·cases hg:e.good
     ·exact NF (NF ⟨rfl,rfl,by simp⟩)
     ·exact NF (Nt ⟨rfl,rfl,by simp⟩)
    ·exact Nt ⟨rfl,by simp⟩
 ·rw[Nh hc]
  exact Nt ⟨hc,rfl⟩
end
structure Zc(k:Int)(Q:Ou->Prop):Prop where
 gone:∀b r,Q ⟨9,0,0,b,r,0,0⟩
 flow:∀x s g b y:Int,(3<=x/\x<=7)->(0<=s/\s<40)->(0<=g/\g<=1048575)->(0<=b/\b<12)->(x=6↔y≠0)->Q ⟨x,s,g,b,0,0,y⟩
 acc:k=1->∀s g b:Int,(0<=s/\s<40)->(0<=g/\g<=1048575)->(0<=b/\b<12)->Q ⟨1,s,g,b,0,0,0⟩
 no:k=1->∀c,c≠0->Q ⟨2,0,0,0,0,c,0⟩
 bad:k≠1->∀c,c≠0->Q ⟨10,0,0,0,0,c,0⟩
 rep:k≠1->∀r c,Q ⟨8,0,0,0,r,c,0⟩
def abb(Q:Ou->Prop)(G:Gt):Prop:=∀o∈G.out,Q o
section
variable {G:Gt}{Q:Ou->Prop}{k:Int}
theorem abb.GT(h:abb Q G){o:Ou}(ho:Q o):abb Q (ZM G o):=fun x a=>by
 rcases List.mem_append.1 a with a|a
 ·exact h x a
 ·rw[List.mem_singleton.1 a];exact ho
theorem abb.drain(h:abb Q G)(hs:Zc k Q)(b:Int):abb Q (Yf G b):=by
 unfold Yf
 split
 ·exact abb.GT (G:={G with liv:=_,req:=_}) h (hs.gone _ _)
 ·exact h
theorem Zc.Me(hs:Zc k Q)(hb:Bs G)(hf:f∈G.fls){x:Int}(hk:3<=x/\x<=7)(hy:x=6↔y≠0):Q ⟨x,f.slot,f.gen,f.be,0,0,y⟩:=by
 obtain⟨b,a,_,d⟩:=hb.F9 hf;exact hs.flow _ _ _ _ _ hk b a d hy
theorem abb.ends(h:abb Q G)(hs:Zc k Q)(hb:Bs G)(hf:f∈G.fls){x:Int}(hk:x=6/\y≠0\/x=7/\y=0):abb Q (Yg G f x y):=by
 unfold Yg;exact abb.drain (abb.GT (G:={G with tab:=(ZQ G.tab f.slot f.gen).1,fls:=Yl G.fls f.slot f.gen,tms:=fun t=>G.tms t/\t.2≠f.slot}) h (hs.Me hb hf (by omega) (by omega))) hs _
theorem abb.Mg(h:abb Q G)(hs:Zc k Q)(hb:Bs G)(hl:i<G.fls.length)(hy:y≠0):abb Q (YP G i y):=by
 have a:=Nk hl;obtain⟨g,b,_,l⟩:=hb.F9 a;rcases aeI hb hl y with⟨z,q,d⟩|⟨c,q,m,n,o,j,_⟩
 ·rw[q]
  exact abb.ends (G:=Yh G G.fls[i].be Nw) h hs (hb.GA l Nw) a (Nt ⟨rfl,by rcases d with rfl|rfl;exact hy;decide⟩)
 ·obtain⟨T,e⟩:=ak0 (G:={Yh G G.fls[i].be Nw with tok:=G.tok-G.cfg.bd}) hl c
  rw[q,e];refine abb.drain (abb.GT ?_ (hs.flow 5 _ _ _ 0 (by decide) g b j (by decide))) hs _;exact h
theorem alg(hm:Wm G)(he:XZ e)(h7:e.kind=7->G.now+1<=1099511626776)(hs:Zc e.kind Q)(h:abb Q G):abb Q (Xb G e):=by
 have b:=hm.im.bs;unfold Xb
 split
 ·rename_i k1
  rcases afU b he.key with⟨q,_⟩|⟨q,_⟩|⟨k,p,_,_,d,_,_,m,_,q⟩
  ·rw[q];exact h.GT (hs.no k1 _ (by decide))
  ·rw[q];exact h.GT (hs.no k1 _ (by decide))
  ·rw[q]
   refine abb.GT h (hs.acc k1 _ _ _ ⟨by omega,?_⟩ m d);have:=b.tab.1.2;omega
 ·rename_i k1
  split
  ·exact h.GT (hs.rep k1 _ _)
  ·split
   ·have j:abb Q (Yv G 2 e):=h.GT (hs.rep k1 _ _)
    unfold abg
    split
    ·exact j
    ·split
     ·exact j.GT (hs.gone _ _)
     ·exact abb.drain (G:={Yv G 2 e with wts:=G.wts.set e.be.toNat 0}) j hs _
   ·split
    ·rename_i k7
     refine alk (R:=abb Q) hm (h7 k7) ?_ (fun X f y hX hf hy hR=>hR.ends hs hX.bs hf (Nt ⟨rfl,by omega⟩)) (fun X i hX a _ hR=>hR.Mg hs hX.bs a (by decide));have n:(adV G).out=G.out:=(aeS (b.next (h7 k7))).2.2.2.2.1;intro o l;rw[n]at l;exact h o l
    ·rcases akr b e with⟨d,q⟩|⟨i,a,_,_,_,⟨_,q⟩|⟨_,q⟩|⟨_,_,⟨_,q⟩|⟨_,_,q⟩|⟨_,_,q⟩⟩⟩
     ·rw[q];exact h.GT (hs.bad k1 _ d)
     ·rw[q];exact h.ends hs b (Nk a) (NF ⟨rfl,rfl⟩)
     ·obtain⟨T,g⟩:=aks a
      rw[q,g];exact abb.GT h (hs.Me b (Nk a) (by decide) (by decide))
     ·rw[q];exact h.GT (hs.bad k1 _ (by decide))
     ·obtain⟨T,g⟩:=alb a
      rw[q,g];exact abb.GT h (hs.Me b (Nk a) (by decide) (by decide))
     ·rw[q];exact h.Mg hs b a (by decide)
end
structure Rn(A:Gt)(c:Cf)(P:Py):Prop where
 runs:XU c P
 zero:XU c ⟨[],A,[]⟩
 built:∃es:List Ev,P=es.foldl Py.step ⟨[],A,[]⟩/\(∀e∈es,Yk e=0)/\es.length<=1000000
section
variable {A:Gt}{c:Cf}{P:Py}
theorem aqQ(es:List Ev):∀P:Py,(es.foldl Py.step P).steps.length=P.steps.length+es.length:=by
 induction es with
 |nil=>intro P;rfl
 |cons e es ih=>intro P;rw[O4,ih];simp[Py.step];omega
theorem Rn.Ml(h:XU c ⟨[],A,[]⟩):Rn A c ⟨[],A,[]⟩:=⟨h,h,[],rfl,(fun _ h=>absurd h OD),Nx _⟩
theorem Rn.step(h:Rn A c P)(he:Yk e=0)(hl:P.steps.length<1000000):Rn A c (P.step e):=by
 obtain⟨b,q,g,_⟩:=h.built;have d:=aqQ b ⟨[],A,[]⟩;rw[<-q]at d;have d:P.steps.length=0+b.length:=d;refine⟨h.runs.step he (by omega),h.zero,b++[e],by rw[Pu,<-q];rfl,fun x a=>?_,by simp;omega⟩;rcases List.mem_append.1 a with a|a
 ·exact g x a
 ·rw[List.mem_singleton.1 a];exact he
theorem Rn.Mw{J:Py->Prop}(h:Rn A c P)(h0:J ⟨[],A,[]⟩)(hs:∀Q e,Rn A c Q->Yk e=0->Q.steps.length<1000000->J Q->J (Q.step e)):J P:=by
 obtain⟨a,q,n,j⟩:=h.built;have m:∀a:List Ev,(∀e∈a,Yk e=0)->∀Q,Rn A c Q->Q.steps.length+a.length<=1000000->J Q->J (a.foldl Py.step Q):=by
  intro a
  induction a with
  |nil=>exact fun _ Q _ _ b=>b
  |cons e a ih =>
   intro d Q g j b;rw[Ox]at j;have l:=d e (by simp);refine ih (fun x hx=>d x (NB _ hx)) _ (g.step l (by omega)) ?_ (hs Q e g l (by omega) b);show(Q.steps++[_]).length+a.length<=1000000;simp;omega
 rw[q];exact m a n _ (Rn.Ml h.zero) (by show 0+a.length<=1000000;omega) h0
theorem aaB.Jl{s:Sp}(h:aaB c s){Q:Ou->Prop}(hs:Zc s.ev.kind Q):∀o∈s.out,Q o:=by
 rw[h.out];exact alg h.wm (aeH h.ev) h.late hs fun o ho=>by rw[h.out0]at ho;cases ho
theorem XU.Mx(h:XU c P):∀x∈P.giv,(0<=x.1/\x.1<40)/\(0<=x.2/\x.2<=1048575):=by
 intro x a;rw[h.giv]at a;obtain⟨l,t,a⟩:=List.mem_flatten.1 a;obtain⟨s,p,rfl⟩:=List.mem_map.1 t;unfold Zi at a;obtain⟨o,j,rfl⟩:=List.mem_map.1 a;obtain⟨j,m⟩:=List.mem_filter.1 j;have m:o.kind=1:=by simpa using m
 refine(h.chain s p).Jl (Q:=fun o=>o.kind=1->(0<=o.slot/\o.slot<40)/\(0<=o.gen/\o.gen<=1048575)) ⟨?_,?_,?_,?_,?_,?_⟩ o j m
 ·intro b r h;exact absurd h (by simp)
 ·intro x s g b y a d n q u _;exact⟨d,n⟩
 ·intro _ s g b d n q _;exact⟨d,n⟩
 ·intro _ c _ h;exact absurd h (by simp)
 ·intro _ c _ h;exact absurd h (by simp)
 ·intro _ r c h;exact absurd h (by simp)
end
abbrev aby:awY:=(0,Nb,0,0)
def aad(t:awY):Int:=t.1+if t.2.1=Nw then 1 else 0
def Fx(G G':Gt):Prop:=∀k:Nat,aad (G'.tab.getD k aby)=aad (G.tab.getD k aby)
section
variable {G:Gt}
theorem ahB{T:List awY}{k:Nat}(hk:k<T.length)(x:awY)(j:Nat):aad ((T.set k x).getD j aby)=if j=k then aad x else aad (T.getD j aby):=by
 simp only[NK,List.getElem?_set]
 by_cases e:k=j
 ·subst e;simp[hk]
 ·rw[Nf e,Nf (fun h=>e h.symm)]
theorem Fx.drain(h:Fx G X)(b:Int):Fx G (Yf X b):=fun k=>by rw[(ahi b).2.2.2.2.2.1];exact h k
theorem Fx.ends(h:Fx G X)(hb:Bs X)(hf:f∈X.fls)(k y:Int):Fx G (Yg X f k y):=by
 unfold Yg;refine Fx.drain (fun j=>?_) _;obtain⟨i,a,d,b⟩:=hb.slot hf;show aad ((ZQ X.tab f.slot f.gen).1.getD j aby)=_;rw[hb.Hj hf,d,NR,ahB a]
 split
 ·rename_i e
  subst e;rw[<-h,NK,MR a,OV,b];unfold aad;simp
 ·exact h j
theorem Fx.Mg(h:Fx G X)(hb:Bs X)(hi:i<X.fls.length)(y:Int):Fx G (YP X i y):=by
 have a:=Nk hi;obtain⟨_,_,_,m⟩:=hb.F9 a;rcases aeI hb hi y with⟨z,q,p⟩|⟨c,q,n,o,r,g,_⟩
 ·rw[q]
  exact Fx.ends (X:=Yh X X.fls[i].be Nw) h (hb.GA m Nw) a _ _
 ·obtain⟨T,e⟩:=ak0 (G:={Yh X X.fls[i].be Nw with tok:=X.tok-X.cfg.bd}) hi c
  rw[q,e];refine Fx.drain (fun j=>?_) _;obtain⟨k,b,l,d⟩:=hb.slot a;show aad ((Y0 X.tab X.fls[i].slot X.fls[i].gen c).1.getD j aby)=_;rw[hb.Ho a g,l,NR,ahB b]
  split
  ·rename_i e
   subst e;rw[<-h,NK,MR b,OV,d];unfold aad;simp
  ·exact h j
theorem aqS(hm:Wm G)(he:XZ e)(h7:e.kind=7->G.now+1<=1099511626776)(h1:e.kind≠1):Fx G (Xb G e):=by
 have d:=hm.im.bs;have a:Fx G G:=fun _=>rfl
 unfold Xb;rw[Nf h1]
 split
 ·exact a
 ·split
  ·unfold abg
   split
   ·exact a
   ·split
    ·exact a
    ·exact Fx.drain (X:={Yv G 2 e with wts:=G.wts.set e.be.toNat 0}) a _
  ·split
   ·rename_i k7
    refine alk (R:=Fx G) hm (h7 k7) ?_ (fun X f y hX hf hy hR=>hR.ends hX.bs hf _ _) (fun X i hX b _ hR=>hR.Mg hX.bs b _);have j:(adV G).tab=G.tab:=(aeS (d.next (h7 k7))).2.2.2.2.2.1;intro k;rw[j]
   ·rcases akr d e with⟨l,q⟩|⟨i,b,_,_,_,⟨_,q⟩|⟨_,q⟩|⟨_,_,⟨_,q⟩|⟨_,_,q⟩|⟨_,_,q⟩⟩⟩
    ·rw[q];exact a
    ·rw[q];exact a.ends d (Nk b) _ _
    ·obtain⟨T,g⟩:=aks b
     rw[q,g];exact a
    ·rw[q];exact a
    ·obtain⟨T,g⟩:=alb b
     rw[q,g];exact a
    ·rw[q];exact a.Mg d b _
theorem aqT(hm:Wm G)(ho:G.out=[])(he:XZ e)(h7:e.kind=7->G.now+1<=1099511626776):
  (Fx G (Xb G e)/\∀o∈(Xb G e).out,o.kind≠1) \/
  (∃k:Nat,e.kind=1/\k<G.tab.length/\(Xb G e).out=[⟨1,k,aad (G.tab.getD k aby),(XD G e.key G.fls).1,0,0,0⟩]/\∀j:Nat,aad ((Xb G e).tab.getD j aby)=aad (G.tab.getD j aby)+if j=k then 1 else 0):=by
 have m:=hm.im.bs
 by_cases h1:e.kind=1
 ·unfold Xb
  rw[Nh h1];rcases afU m he.key with⟨q,_⟩|⟨q,_⟩|⟨k,a,_,_,n,_,l,p,_,q⟩
  ·rw[q]
   refine Nt ⟨fun _=>rfl,fun o h=>?_⟩;have h:o∈G.out++[(⟨2,0,0,0,0,9,0⟩:Ou)]:=h;rw[ho,Oz,PY]at h;rw[h];decide
  ·rw[q]
   refine Nt ⟨fun _=>rfl,fun o h=>?_⟩;have h:o∈G.out++[(⟨2,0,0,0,0,11,0⟩:Ou)]:=h;rw[ho,Oz,PY]at h;rw[h];decide
  ·rw[q]
   have d:aad (G.tab.getD k aby)=G.tab[k].1:=by
    rw[NK,MR a,OV];unfold aad;rw[l];simp
   refine NF ⟨k,h1,a,?_,fun j=>?_⟩
   ·show G.out++[_]=_
    rw[ho,d];rfl
   ·show aad ((G.tab.set k _).getD j aby)=_
    rw[ahB a]
    split
    ·rename_i e2
     rw[e2,d];unfold aad;simp
    ·omega
 ·refine Nt ⟨aqS hm he h7 h1,?_⟩
  refine alg hm he h7 (Q:=fun o=>o.kind≠1) ⟨fun _ _=>by simp,fun x s g b y hx _ _ _ _=>?_,fun h=>absurd h h1,fun h=>absurd h h1,fun _ _ _=>by simp,fun _ _ _=>by simp⟩ fun o h=>by rw[ho]at h;cases h
  show x≠1;omega
end
theorem Rn.Mj{A:Gt}{c:Cf}{P:Py}(h:Rn A c P):P.giv.length<=P.steps.length:=by
 refine h.Mw (J:=fun P=>P.giv.length<=P.steps.length) (MV _) fun Q e hQ he hl hJ=>?_
 show(Q.giv++Zi (Xb Q.last e).out).length<=(Q.steps++[_]).length;have a:=hQ.runs.now;have:(Zi (Xb Q.last e).out).length<=1:=by
  rcases aqT hQ.runs.wm hQ.runs.out (aeH he) (fun _=>by omega)with⟨_,hk⟩|⟨k,_,_,ho,_⟩
  ·unfold Zi
   rw[List.filter_eq_nil_iff.2 (fun o ho=>by simpa using hk o ho)];exact Nx _
  ·rw[ho]
   exact MV _
 rw[Ns,Ns,OU];omega
theorem Rn.Mv{A:Gt}{c:Cf}{P:Py}(h:Rn A c P)(hl:P.steps.length<=1000)(he:Yk e=0):P.giv.length+(Zi (Xb P.last e).out).length<=100000:=by
 have:=(h.step he (by omega)).Mj;have b:(P.step e).giv.length=P.giv.length+(Zi (Xb P.last e).out).length:=by show(P.giv++Zi (Xb P.last e).out).length=_;rw[Ns]
 have a:(P.step e).steps.length=P.steps.length+1:=by show(P.steps++[_]).length=_;rw[Ns,OU]
 omega
theorem apz:(Tryz.prog.info? 24).map (·.size)=MI 16:=by kernel_rfl
theorem afW{w:MO}{g:Nat}{cs:List M7}{T:NU}(h:w.heap[g]?=MI (MP cs.toArray T (0,0))):w.rangeAt g 0 cs:=agb h
end Go.Proofs.YtgnclkcdnbfeeaaGreatDoor.Q
