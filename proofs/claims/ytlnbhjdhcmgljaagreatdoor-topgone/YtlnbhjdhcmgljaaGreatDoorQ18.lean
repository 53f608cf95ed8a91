/-
  Contracts of the layers and of core, part 18. Conditions: as each theorem says.
-/
import Derived.Test.YtlnbhjdhcmgljaaGreatDoorQ11
import Derived.Test.YtlnbhjdhcmgljaaGreatDoorQ17
open Bool renaming false->Nb,true->Nw
open Go renaming Calls->Ni,TypeId->NU,Value->M7,World->MO
open Go.Ending renaming returned->MN
open Go.IntKind renaming i64->ME
open Go.Obj renaming cells->MP
open Go.Proofs.Tryz renaming prog->MK
open Go.RowKit renaming Below->MQ
open Go.Value renaming int->MF,slice->MG,tuple->Nv
open Int renaming le_refl->Qh,toNat_natCast->NR
open List renaming eq_of_mem_replicate->Pd,foldl_append->Pu,foldl_cons->O4,getD_eq_getElem?_getD->NK,getElem?_eq_getElem->MR,getElem?_replicate->Pj,getElem_mem->Nk,length_append->Ns,length_cons->Ox,length_replicate->Qr,length_singleton->OU,mem_cons_of_mem->NB,mem_cons_self->NM,mem_of_getElem?->Nu,mem_singleton->PY,nil_append->Oz,not_mem_nil->OD,replicate->Nj
open Nat renaming le_refl->MV,zero_le->Nx
open Option renaming getD_some->OV,none->MH,some->MI
open Or renaming inl->Nt,inr->NF
namespace Go.Proofs.YtlnbhjdhcmgljaaGreatDoor.Q
set_option linter.unusedVariables false
set_option linter.unusedSimpArgs false
set_option maxHeartbeats 16000000
set_option maxRecDepth 100000
open Go.RowKit
attribute [local go_sem ↓] Go.wp_at_zero Go.wp_at_succ
variable {e:Ev}{f:Fl}{X:Gt}{y:Int}{i:Nat}
def qt(c:Cf):Gt:=⟨c,0,Nj c.flows.toNat (0,Nb,0,0),[],[],[],Nj 12 0,Nj 12 bm,c.bb*c.bd,0,fun _=>False,[]⟩
theorem KB:∀(n:Int) (k:Nat),aP n (Nj k ((0,Nb,0,0):FX))=[]
 |_,0=>rfl
 |n,k+1=>by
  rw[List.replicate_succ];show(if Nb=Nw then _ else _)=_;rw[Nf (by decide)];exact KB (n+1) k
theorem sN:ao (Nj 12 0)=[]:=by
 have h:=l0 tu;cases hs:ao (Nj 12 0)with
 |nil=>rfl
 |cons t l =>
  exfalso;have hin:=qy (li tu) t (by rw[hs];exact NM);have hc:=nb (Nj 12 0) t.2.toNat (by omega);rw[hs]at hc;have h0:wt (Nj 12 0) t.2.toNat=0:=by
   unfold wt;rw[NK,Pj]
   split <;> rfl
  rw[h0]at hc;unfold bt at hc;rw[List.countP_cons_of_pos (by rw[decide_eq_true_iff];omega)]at hc;omega
theorem za:cQ 0 fp:=by
 refine⟨⟨by omega,by omega⟩,⟨by simp[fp],fun i l hl t ht=>?_,fun l hl=>?_,by simp[fp]⟩⟩
 ·have:l=[]:=Pd (Nu hl)
  subst this;cases ht
 ·have:l=[]:=Pd hl
  subst this;exact List.Pairwise.nil
theorem Kw{c:Cf}(hc:nv c):Wm (qt c):=by
 have hb:=hc.2.2.2.2.2.2.2.2.2.2.1;have hw:=hc.2.2.2.2.2.2.2.2.2.2.2;have hmul:0<=c.bb*c.bd:=Int.mul_nonneg (by omega) (by omega);have hlen:(Nj c.flows.toNat ((0,Nb,0,0):FX)).length=c.flows.toNat:=Qr;refine⟨⟨⟨hc,⟨by show(0:Int)<=0;omega,by show(0:Int)<=1099511626776;omega⟩,⟨?_,fun t ht=>?_⟩,?_,⟨⟨by simp[qt],fun x hx=>absurd hx (by simp[qt]),by simp[qt]⟩,by simp[qt],fun x hx=>absurd hx (by simp[qt]),by simp[qt]⟩,⟨hmul,Qh _⟩,Qr,fun h hh=>?_,?_,fun f hf=>absurd hf (by simp[qt]),fun l hl=>absurd hl (by simp[qt]),tu,⟨Qh _,Qh _⟩,fun t=>⟨fun h=>absurd h (by simp[qt]),fun⟨f,hf,_⟩=>absurd hf (by simp[qt])⟩⟩,fun f hf=>absurd hf (by simp[qt]),fun b hb=>?_,fun l hl=>absurd hl (by simp[qt]),fun f hf=>absurd hf (by simp[qt])⟩,rfl,fun f hf=>absurd hf (by simp[qt]),fun l hl=>absurd hl (by simp[qt]),fun h hh ho=>?_⟩
 ·show _<=_/\_<=_
  simp only[qt,hlen];omega
 ·have ht:t=(0,Nb,0,0):=Pd ht
  subst ht
  decide
 ·show((Nj c.flows.toNat ((0,Nb,0,0):FX)).length:Int)=c.flows
  rw[hlen];omega
 ·have hh:h=bm:=Pd hh
  subst hh;exact⟨by show((0:Nat):Int)<=c.wn;omega,by decide,by decide,NF rfl⟩
 ·show([]:List Fl).map Fl.F8=aP 0 (Nj c.flows.toNat ((0,Nb,0,0):FX))
  rw[KB];rfl
 ·show(Nj 12 (0:Int)).getD b 0=if aA [] (b:Int)=2 then _ else 0
  rw[Nf (show ¬aA [] (b:Int)=2 from by show ¬(0:Int)=2;decide),NK,Pj]
  split <;> rfl
 ·have hh:h=bm:=Pd hh
  subst hh;cases ho
theorem xv:rv lw (Nj 12 ())=rv fD ((Nj 12 ((MH,0):Mk)).zip (Nj 12 bm)):=rfl
theorem FT(c:Cf)(hc:nv c)(w:MO) :
  Ni MK 23 #[sE c] w fun r w'=>∃U,r=MN (Nv #[lH U (qt c),MF ME 0])/\(∀W,ia w.heap.size w' W->aF W U (qt c))/\MQ w.heap.size w w':=by
 have hc':i6 ⟨c.flows,c.num,c.den,c.tries,c.warm,c.drain,c.idle,c.conn,c.ret,c.most,c.bn,c.bd,c.bb,c.wn,c.wf,c.wh⟩:=hc;refine(zp ⟨c.flows,c.num,c.den,c.tries,c.warm,c.drain,c.idle,c.conn,c.ret,c.most,c.bn,c.bd,c.bb,c.wn,c.wf,c.wh⟩ w hc').mono ?_;intro r w' hr;unfold mZ at hr;rw[Nh hc']at hr;obtain⟨vt,vh,vw,rfl,hA,hb⟩:=hr;obtain⟨hA1,hA2,hA3⟩:=hA w' ⟨MV _,fun _ _ _=>rfl⟩;obtain⟨pt,ct,rfl,_⟩:=hA1.F6;obtain⟨ph,ch,rfl,_,_⟩:=bj.Ga hA2;obtain⟨vs,⟨pw,cw,rfl,_,_,_⟩,_⟩:=hA3;have hsp:(ao (qt c).wts).length=0:=by show(ao (Nj 12 0)).length=0;rw[sN];rfl
 refine⟨⟨ph,ch,pt,ct,MH,0,MH,0,MH,0,MH,0,pw,cw,Nj 12 (MH,0)⟩,?_,fun W hW=>?_,hb⟩
 ·simp only[lH,ef,hsp]
  rfl
 ·obtain⟨h1,h2,h3⟩:=hA W hW
  refine⟨h1,B1 W,⟨dZ W,dZ W⟩,?_,⟨fp,za,fun t=>⟨fun h=>?_,fun h=>h.elim⟩,h3⟩,?_,Qr,Qr,fun i m x e1 e2=>?_⟩
  ·rw[hsp]
   show aR W (MG MH 0 0) (ao (Nj 12 0)).length (ag (ao (Nj 12 0)));rw[sN];exact dZ W
  ·simp[fp]at h
  ·show aR W (MG ph 12 ch) ((Nj 12 ((MH,0):Mk)).zip (Nj 12 bm)).length (rv fD ((Nj 12 ((MH,0):Mk)).zip (Nj 12 bm)))
   rw[<-xv];exact h2
  ·have q1:m=(MH,0):=Pd (Nu e1)
   have q2:x=bm:=Pd (Nu e2);subst q1;subst q2;exact pC W
abbrev Ey(f:Fl)(y:Int):Prop:=(y=1/\f.srv=Nw)\/y=2
section
variable {R:Gt->Prop}
theorem Kc(h1:∀X f y,Im X->f∈X.fls->Ey f y->R X->R (dn X f 6 y))(h2:∀X (i:Nat) (_:Im X) (hi:i<X.fls.length),X.fls[i].srv=Nb->R X->R (dP X i 5)) :
  ∀(l:List Int) (G:Gt),Im G->l.Nodup->(∀s∈l,∃f∈G.fls,f.slot=s)->R G->R (l.foldl bE G)
 | [],G,_,_,_,hR=>hR
 |s::l,G,h,hn,hs,hR=>by
  obtain⟨f,hf,rfl⟩:=hs s (by simp);obtain⟨a1,a2,a3,_⟩:=tS h hf;obtain⟨n1,n2⟩:=List.nodup_cons.1 hn;refine Kc h1 h2 l _ a1 n2 (fun c hc=>?_) ?_
  ·obtain⟨k,hk,rfl⟩:=hs c (NB _ hc)
   exact⟨k,(a3 k fun e=>n1 (by rw[<-e];exact hc)).2 hk,rfl⟩
  ·obtain⟨hi,e⟩:=h.bs.GG hf
   unfold bE;simp only[]
   split
   ·rename_i hv
    rw[bJ hi,e]at hv⊢;exact h1 _ _ _ h hf (Nt ⟨rfl,hv⟩) hR
   ·rename_i hv
    rw[bJ hi]at hv;exact h2 _ _ h hi (by simpa using hv) hR
theorem Ks(h1:∀X f y,Im X->f∈X.fls->Ey f y->R X->R (dn X f 6 y)) :
  ∀(l:List Tm) (G:Gt),Im G->l.Pairwise (fun a b=>a.1<b.1)->(∀t∈l,∃f∈G.fls,f.slot=t.1)->R G->R (l.foldl bM G)
 | [],G,_,_,_,hR=>hR
 |t::l,G,h,hn,hs,hR=>by
  obtain⟨f,hf,e⟩:=hs t (by simp);obtain⟨hi,e1⟩:=h.bs.GG hf;have hq:bM G t=dn G f 6 2:=by unfold bM;rw[<-e,bJ hi,e1]
  have h3:kD G (bM G t) t.1:=by rw[hq,<-e];exact lG h.bs hf _ _
  obtain⟨n1,n2⟩:=List.pairwise_cons.1 hn;refine Ks h1 l _ (by rw[hq];exact h.Hc hf _ _) n2 (fun c hc=>?_) (by rw[hq];exact h1 _ _ _ h hf (NF rfl) hR);obtain⟨k,hk,e2⟩:=hs c (NB _ hc);refine⟨k,(h3 k fun e3=>?_).2 hk,e2⟩;have:=n1 c hc;omega
theorem Kq(h1:∀X f y,Im X->f∈X.fls->Ey f y->R X->R (dn X f 6 y)):∀(L:List FV) (G:Gt),Im G->R G->R (L.foldl dV G)
 | [],G,_,hR=>hR
 |l::L,G,h,hR=>by
  refine Kq h1 L _ (yv h l).1 ?_;unfold dV
  split
  ·exact hR
  ·obtain⟨a1,a2⟩:=h.bs.IW l.1
   refine Ks h1 _ G h a1 (fun t ht=>?_) hR;obtain⟨f,hf,e,_⟩:=a2 t ht;exact⟨f,hf,e⟩
variable {G:Gt}
def JI(G:Gt):Gt:=lU (eE {G with now:=G.now+1})
def J1(G:Gt):Gt:={JI G with wnow:=(JI G).wnow+1,tms:=fun t=>(JI G).tms t/\t.1≠(JI G).wnow+1}
theorem Wm.My(h:Wm G)(hn:G.now+1<=1099511626776):Im (J1 G)/\(∀s∈fK (JI G).fls ((JI G).wnow+1),∃f∈(JI G).fls,f.slot=s)/\(fK (JI G).fls ((JI G).wnow+1)).Nodup/\(JI G).now=G.now+1/\(JI G).wnow=G.now/\(JI G).fls=G.fls:=by
 have h1:=h.im.next hn;obtain⟨s1,s2,s3,s4,_⟩:=yj h1.bs;have h3:=h1.Jf.I2;have hnow:(JI G).now=G.now+1:=s1;have hwn:(JI G).wnow=G.now:=s2.trans h.wnow;obtain⟨a1,a2⟩:=Bs.IF (G:=JI G) h3.bs ((JI G).wnow+1);refine⟨Im.IN (G:=JI G) h3 (by rw[hwn,hnow];exact Qh _),fun s hs=>?_,a1,hnow,hwn,s3⟩;obtain⟨f,hf,e,_⟩:=a2 s hs;exact⟨f,hf,e⟩
theorem KG(h:Wm G)(hn:G.now+1<=1099511626776)(h0:R (J1 G))(h1:∀X f y,Im X->f∈X.fls->Ey f y->R X->R (dn X f 6 y))(h2:∀X (i:Nat) (_:Im X) (hi:i<X.fls.length),X.fls[i].srv=Nb->R X->R (dP X i 5)):R (mK G):=by
 obtain⟨a1,a2,a3,_,_,_⟩:=h.My hn;have hg:R (fk (JI G)):=Kc h1 h2 _ (J1 G) a1 a3 a2 h0;have hi:Im (fk (JI G)):=by
  have:(fun X=>Im X) (fk (JI G)):=Kc (R:=fun X=>Im X) (fun X f y hX hf _ _=>hX.Hc hf 6 y) (fun X i hX hi _ _=>hX.I8 hi 5) _ (J1 G) a1 a3 a2 a1;exact this
 exact Kq h1 _ _ hi hg
end
section
variable {G:Gt}
theorem Kf(hi:i<G.fls.length)(n:Int):∃T,dU G i n={G with fls:=G.fls.set i {G.fls[i]with due:=G.now+n},tms:=T}/\aQ (dU G i n) i={G.fls[i]with due:=G.now+n}:=by
 have e:dU G i n={G with fls:=G.fls.set i {G.fls[i]with due:=G.now+n},tms:=(dU G i n).tms}:=by
  unfold dU;rw[bJ hi]
 refine⟨_,e,?_⟩;rw[e,bJ (by simpa using hi)];simp
theorem KA(hi:i<G.fls.length)(b:Int):∃T,eQ G i b=cj (ge {G with tab:=(db G.tab G.fls[i].slot G.fls[i].gen b).1,fls:=G.fls.set i {G.fls[i]with be:=b,ret:=G.fls[i].ret+1,due:=G.now+G.cfg.conn},tms:=T} ⟨5,G.fls[i].slot,G.fls[i].gen,b,0,0,0⟩) G.fls[i].be:=by
 obtain⟨G1,hG1⟩:∃G1,G1=eT {G with tab:=(db G.tab G.fls[i].slot G.fls[i].gen b).1} i {G.fls[i]with be:=b,ret:=G.fls[i].ret+1}:=⟨_,rfl⟩;have hl:i<G1.fls.length:=by rw[hG1];simpa [eT]using hi
 have he:G1.fls[i]={G.fls[i]with be:=b,ret:=G.fls[i].ret+1}:=by simp[hG1,eT]
 obtain⟨T,e1,e2⟩:=Kf hl G.cfg.conn;refine⟨T,?_⟩;unfold eQ;simp only[bJ hi];rw[<-hG1,e2,he,e1,he];unfold iA;simp only[hG1,eT,List.set_set]
theorem KC(hi:i<G.fls.length):∃T,mX G i=ge {dg G G.fls[i].be Nb with fls:=G.fls.set i {G.fls[i]with srv:=Nw,due:=G.now+G.cfg.idle},tms:=T} ⟨4,G.fls[i].slot,G.fls[i].gen,G.fls[i].be,0,0,0⟩:=by
 obtain⟨G1,hG1⟩:∃G1,G1=eT (dg G G.fls[i].be Nb) i {G.fls[i]with srv:=Nw}:=⟨_,rfl⟩;have hl:i<G1.fls.length:=by rw[hG1];simpa [eT,dg]using hi
 have he:G1.fls[i]={G.fls[i]with srv:=Nw}:=by simp[hG1,eT,dg]
 obtain⟨T,e1,e2⟩:=Kf hl G.cfg.idle;refine⟨T,?_⟩;unfold mX;simp only[bJ hi];rw[<-hG1,e2,he,e1,he];unfold iA;simp only[hG1,eT,dg,List.set_set]
theorem Ku(hi:i<G.fls.length):∃T,mV G i=ge {G with fls:=G.fls.set i (if G.fls[i].srv then {G.fls[i]with due:=G.now+G.cfg.idle}else G.fls[i]),tms:=T} ⟨3,G.fls[i].slot,G.fls[i].gen,G.fls[i].be,0,0,0⟩:=by
 unfold mV;simp only[bJ hi]
 split
 ·obtain⟨T,e1,e2⟩:=Kf hi G.cfg.idle
  refine⟨T,?_⟩;rw[e2,e1];rfl
 ·refine⟨G.tms,?_⟩
  rw[List.set_getElem_self,bJ hi];rfl
theorem Kt(h:Bs G)(e:Ev):((cC G.tab e.slot e.gen).2≠0/\mW G e=kY G 10 (cC G.tab e.slot e.gen).2) \/
  (∃(i:Nat) (hi:i<G.fls.length),(cC G.tab e.slot e.gen).2=0/\G.fls[i].slot=e.slot/\G.fls[i].gen=e.gen /\
   ((e.kind=3/\mW G e=dn G G.fls[i] 7 0)\/(e.kind=2/\mW G e=mV G i) \/
    (e.kind≠3/\e.kind≠2/\((G.fls[i].srv=Nw/\mW G e=kY G 10 7)\/(G.fls[i].srv=Nb/\e.good=Nw/\mW G e=mX G i)\/(G.fls[i].srv=Nb/\e.good=Nb/\mW G e=dP G i 3))))):=by
 unfold mW;simp only[]
 by_cases hc:(cC G.tab e.slot e.gen).2=0
 ·rw[Nf (fun h=>h hc)]
  obtain⟨f,hf,e1,e2⟩:=h.Jv hc;obtain⟨hi,e3⟩:=h.GG hf;rw[e1]at hi;have e3:G.fls[fL G.fls e.slot]=f:=by simp only[e1]at e3;exact e3
  refine NF ⟨_,hi,hc,by rw[e3,e1],by rw[e3,e2],?_⟩;rw[bJ hi]
  by_cases k3:e.kind=3
  ·rw[Nh k3];exact Nt ⟨k3,rfl⟩
  ·rw[Nf k3]
   by_cases k2:e.kind=2
   ·rw[Nh k2];exact NF (Nt ⟨k2,rfl⟩)
   ·rw[Nf k2]
    refine NF (NF ⟨k3,k2,?_⟩);cases hs:G.fls[fL G.fls e.slot].srv
    ·cases hg:e.good
     ·exact NF (NF ⟨rfl,rfl,by simp⟩)
     ·exact NF (Nt ⟨rfl,rfl,by simp⟩)
    ·exact Nt ⟨rfl,by simp⟩
 ·rw[Nh hc]
  exact Nt ⟨hc,rfl⟩
end
structure JG(k:Int)(Q:Ou->Prop):Prop where
 gone:∀b r,Q ⟨9,0,0,b,r,0,0⟩
 flow:∀x s g b y:Int,(3<=x/\x<=7)->(0<=s/\s<40)->(0<=g/\g<=1048575)->(0<=b/\b<12)->(x=6↔y≠0)->Q ⟨x,s,g,b,0,0,y⟩
 acc:k=1->∀s g b:Int,(0<=s/\s<40)->(0<=g/\g<=1048575)->(0<=b/\b<12)->Q ⟨1,s,g,b,0,0,0⟩
 no:k=1->∀c,c≠0->Q ⟨2,0,0,0,0,c,0⟩
 bad:k≠1->∀c,c≠0->Q ⟨10,0,0,0,0,c,0⟩
 rep:k≠1->∀r c,Q ⟨8,0,0,0,r,c,0⟩
def JO(Q:Ou->Prop)(G:Gt):Prop:=∀o∈G.out,Q o
section
variable {G:Gt}{Q:Ou->Prop}{k:Int}
theorem JO.GT(h:JO Q G){o:Ou}(ho:Q o):JO Q (ge G o):=fun x hx=>by
 rcases List.mem_append.1 hx with hx|hx
 ·exact h x hx
 ·rw[List.mem_singleton.1 hx];exact ho
theorem JO.drain(h:JO Q G)(hs:JG k Q)(b:Int):JO Q (cj G b):=by
 unfold cj
 split
 ·exact JO.GT (G:={G with liv:=_,req:=_}) h (hs.gone _ _)
 ·exact h
theorem JG.Me(hs:JG k Q)(hb:Bs G)(hf:f∈G.fls){x:Int}(hk:3<=x/\x<=7)(hy:x=6↔y≠0):Q ⟨x,f.slot,f.gen,f.be,0,0,y⟩:=by
 obtain⟨b1,b2,_,b4⟩:=hb.F9 hf;exact hs.flow _ _ _ _ _ hk b1 b2 b4 hy
theorem JO.ends(h:JO Q G)(hs:JG k Q)(hb:Bs G)(hf:f∈G.fls){x:Int}(hk:x=6/\y≠0\/x=7/\y=0):JO Q (dn G f x y):=by
 unfold dn;exact JO.drain (JO.GT (G:={G with tab:=(ed G.tab f.slot f.gen).1,fls:=bO G.fls f.slot f.gen,tms:=fun t=>G.tms t/\t.2≠f.slot}) h (hs.Me hb hf (by omega) (by omega))) hs _
theorem JO.Mg(h:JO Q G)(hs:JG k Q)(hb:Bs G)(hl:i<G.fls.length)(hy:y≠0):JO Q (dP G i y):=by
 have hf:=Nk hl;obtain⟨b1,b2,_,b4⟩:=hb.F9 hf;rcases pI hb hl y with⟨z,q,hz⟩|⟨c,q,hd,hr,h2,hc,_⟩
 ·rw[q]
  exact JO.ends (G:=dg G G.fls[i].be Nw) h hs (hb.GA b4 Nw) hf (Nt ⟨rfl,by rcases hz with rfl|rfl;exact hy;decide⟩)
 ·obtain⟨T,e⟩:=KA (G:={dg G G.fls[i].be Nw with tok:=G.tok-G.cfg.bd}) hl c
  rw[q,e];refine JO.drain (JO.GT ?_ (hs.flow 5 _ _ _ 0 (by decide) b1 b2 hc (by decide))) hs _;exact h
theorem KE(hm:Wm G)(he:fB e)(h7:e.kind=7->G.now+1<=1099511626776)(hs:JG e.kind Q)(h:JO Q G):JO Q (iG G e):=by
 have hb:=hm.im.bs;unfold iG
 split
 ·rename_i k1
  rcases J7 hb he.key with⟨q,_⟩|⟨q,_⟩|⟨k,hlt,_,_,hc,_,_,hg,_,q⟩
  ·rw[q];exact h.GT (hs.no k1 _ (by decide))
  ·rw[q];exact h.GT (hs.no k1 _ (by decide))
  ·rw[q]
   refine JO.GT h (hs.acc k1 _ _ _ ⟨by omega,?_⟩ hg hc);have:=hb.tab.1.2;omega
 ·rename_i k1
  split
  ·exact h.GT (hs.rep k1 _ _)
  ·split
   ·have ha:JO Q (fO G 2 e):=h.GT (hs.rep k1 _ _)
    unfold nC
    split
    ·exact ha
    ·split
     ·exact ha.GT (hs.gone _ _)
     ·exact JO.drain (G:={fO G 2 e with wts:=G.wts.set e.be.toNat 0}) ha hs _
   ·split
    ·rename_i k7
     refine KG (R:=JO Q) hm (h7 k7) ?_ (fun X f y hX hf hy hR=>hR.ends hs hX.bs hf (Nt ⟨rfl,by omega⟩)) (fun X i hX hi _ hR=>hR.Mg hs hX.bs hi (by decide));have e6:(J1 G).out=G.out:=(yj (hb.next (h7 k7))).2.2.2.2.1;intro o ho;rw[e6]at ho;exact h o ho
    ·rcases Kt hb e with⟨hc,q⟩|⟨i,hi,_,_,_,⟨_,q⟩|⟨_,q⟩|⟨_,_,⟨_,q⟩|⟨_,_,q⟩|⟨_,_,q⟩⟩⟩
     ·rw[q];exact h.GT (hs.bad k1 _ hc)
     ·rw[q];exact h.ends hs hb (Nk hi) (NF ⟨rfl,rfl⟩)
     ·obtain⟨T,e1⟩:=Ku hi
      rw[q,e1];exact JO.GT h (hs.Me hb (Nk hi) (by decide) (by decide))
     ·rw[q];exact h.GT (hs.bad k1 _ (by decide))
     ·obtain⟨T,e1⟩:=KC hi
      rw[q,e1];exact JO.GT h (hs.Me hb (Nk hi) (by decide) (by decide))
     ·rw[q];exact h.Mg hs hb hi (by decide)
end
structure Rn(A:Gt)(c:Cf)(P:Py):Prop where
 runs:JE c P
 zero:JE c ⟨[],A,[]⟩
 built:∃es:List Ev,P=es.foldl Py.step ⟨[],A,[]⟩/\(∀e∈es,gq e=0)/\es.length<=1000000
section
variable {A:Gt}{c:Cf}{P:Py}
theorem La(es:List Ev):∀P:Py,(es.foldl Py.step P).steps.length=P.steps.length+es.length:=by
 induction es with
 |nil=>intro P;rfl
 |cons e es ih=>intro P;rw[O4,ih];simp[Py.step];omega
theorem Rn.Ml(h:JE c ⟨[],A,[]⟩):Rn A c ⟨[],A,[]⟩:=⟨h,h,[],rfl,(fun _ h=>absurd h OD),Nx _⟩
theorem Rn.step(h:Rn A c P)(he:gq e=0)(hl:P.steps.length<1000000):Rn A c (P.step e):=by
 obtain⟨es,q,h1,_⟩:=h.built;have hn:=La es ⟨[],A,[]⟩;rw[<-q]at hn;have hn:P.steps.length=0+es.length:=hn;refine⟨h.runs.step he (by omega),h.zero,es++[e],by rw[Pu,<-q];rfl,fun x hx=>?_,by simp;omega⟩;rcases List.mem_append.1 hx with hx|hx
 ·exact h1 x hx
 ·rw[List.mem_singleton.1 hx];exact he
theorem Rn.Mw{J:Py->Prop}(h:Rn A c P)(h0:J ⟨[],A,[]⟩)(hs:∀Q e,Rn A c Q->gq e=0->Q.steps.length<1000000->J Q->J (Q.step e)):J P:=by
 obtain⟨es,q,h1,hl⟩:=h.built;have key:∀es:List Ev,(∀e∈es,gq e=0)->∀Q,Rn A c Q->Q.steps.length+es.length<=1000000->J Q->J (es.foldl Py.step Q):=by
  intro es
  induction es with
  |nil=>exact fun _ Q _ _ hJ=>hJ
  |cons e es ih =>
   intro he Q hQ hl hJ;rw[Ox]at hl;have h2:=he e (by simp);refine ih (fun x hx=>he x (NB _ hx)) _ (hQ.step h2 (by omega)) ?_ (hs Q e hQ h2 (by omega) hJ);show(Q.steps++[_]).length+es.length<=1000000;simp;omega
 rw[q];exact key es h1 _ (Rn.Ml h.zero) (by show 0+es.length<=1000000;omega) h0
theorem JM.Jl{s:Sp}(h:JM c s){Q:Ou->Prop}(hs:JG s.ev.kind Q):∀o∈s.out,Q o:=by
 rw[h.out];exact KE h.wm (D5 h.ev) h.late hs fun o ho=>by rw[h.out0]at ho;cases ho
theorem JE.Mx(h:JE c P):∀x∈P.giv,(0<=x.1/\x.1<40)/\(0<=x.2/\x.2<=1048575):=by
 intro x hx;rw[h.giv]at hx;obtain⟨l,hl,hx⟩:=List.mem_flatten.1 hx;obtain⟨s,hs,rfl⟩:=List.mem_map.1 hl;unfold JH at hx;obtain⟨o,ho,rfl⟩:=List.mem_map.1 hx;obtain⟨ho,hk⟩:=List.mem_filter.1 ho;have hk:o.kind=1:=by simpa using hk
 refine(h.chain s hs).Jl (Q:=fun o=>o.kind=1->(0<=o.slot/\o.slot<40)/\(0<=o.gen/\o.gen<=1048575)) ⟨?_,?_,?_,?_,?_,?_⟩ o ho hk
 ·intro b r h;exact absurd h (by simp)
 ·intro x s g b y hx h1 h2 h3 hy _;exact⟨h1,h2⟩
 ·intro _ s g b h1 h2 h3 _;exact⟨h1,h2⟩
 ·intro _ c _ h;exact absurd h (by simp)
 ·intro _ c _ h;exact absurd h (by simp)
 ·intro _ r c h;exact absurd h (by simp)
end
abbrev JT:FX:=(0,Nb,0,0)
def JK(t:FX):Int:=t.1+if t.2.1=Nw then 1 else 0
def Fx(G G':Gt):Prop:=∀k:Nat,JK (G'.tab.getD k JT)=JK (G.tab.getD k JT)
section
variable {G:Gt}
theorem Kd{T:List FX}{k:Nat}(hk:k<T.length)(x:FX)(j:Nat):JK ((T.set k x).getD j JT)=if j=k then JK x else JK (T.getD j JT):=by
 simp only[NK,List.getElem?_set]
 by_cases e:k=j
 ·subst e;simp[hk]
 ·rw[Nf e,Nf (fun h=>e h.symm)]
theorem Fx.drain(h:Fx G X)(b:Int):Fx G (cj X b):=fun k=>by rw[(ET b).2.2.2.2.2.1];exact h k
theorem Fx.ends(h:Fx G X)(hb:Bs X)(hf:f∈X.fls)(k y:Int):Fx G (dn X f k y):=by
 unfold dn;refine Fx.drain (fun j=>?_) _;obtain⟨i,hi,e1,e2⟩:=hb.slot hf;show JK ((ed X.tab f.slot f.gen).1.getD j JT)=_;rw[hb.Hj hf,e1,NR,Kd hi]
 split
 ·rename_i e
  subst e;rw[<-h,NK,MR hi,OV,e2];unfold JK;simp
 ·exact h j
theorem Fx.Mg(h:Fx G X)(hb:Bs X)(hi:i<X.fls.length)(y:Int):Fx G (dP X i y):=by
 have hf:=Nk hi;obtain⟨_,_,_,b4⟩:=hb.F9 hf;rcases pI hb hi y with⟨z,q,hz⟩|⟨c,q,hd,hr,h2,hc,_⟩
 ·rw[q]
  exact Fx.ends (X:=dg X X.fls[i].be Nw) h (hb.GA b4 Nw) hf _ _
 ·obtain⟨T,e⟩:=KA (G:={dg X X.fls[i].be Nw with tok:=X.tok-X.cfg.bd}) hi c
  rw[q,e];refine Fx.drain (fun j=>?_) _;obtain⟨k,hk,e1,e2⟩:=hb.slot hf;show JK ((db X.tab X.fls[i].slot X.fls[i].gen c).1.getD j JT)=_;rw[hb.Ho hf hc,e1,NR,Kd hk]
  split
  ·rename_i e
   subst e;rw[<-h,NK,MR hk,OV,e2];unfold JK;simp
  ·exact h j
theorem Lb(hm:Wm G)(he:fB e)(h7:e.kind=7->G.now+1<=1099511626776)(h1:e.kind≠1):Fx G (iG G e):=by
 have hb:=hm.im.bs;have h0:Fx G G:=fun _=>rfl
 unfold iG;rw[Nf h1]
 split
 ·exact h0
 ·split
  ·unfold nC
   split
   ·exact h0
   ·split
    ·exact h0
    ·exact Fx.drain (X:={fO G 2 e with wts:=G.wts.set e.be.toNat 0}) h0 _
  ·split
   ·rename_i k7
    refine KG (R:=Fx G) hm (h7 k7) ?_ (fun X f y hX hf hy hR=>hR.ends hX.bs hf _ _) (fun X i hX hi _ hR=>hR.Mg hX.bs hi _);have e6:(J1 G).tab=G.tab:=(yj (hb.next (h7 k7))).2.2.2.2.2.1;intro k;rw[e6]
   ·rcases Kt hb e with⟨hc,q⟩|⟨i,hi,_,_,_,⟨_,q⟩|⟨_,q⟩|⟨_,_,⟨_,q⟩|⟨_,_,q⟩|⟨_,_,q⟩⟩⟩
    ·rw[q];exact h0
    ·rw[q];exact h0.ends hb (Nk hi) _ _
    ·obtain⟨T,e1⟩:=Ku hi
     rw[q,e1];exact h0
    ·rw[q];exact h0
    ·obtain⟨T,e1⟩:=KC hi
     rw[q,e1];exact h0
    ·rw[q];exact h0.Mg hb hi _
theorem Lc(hm:Wm G)(ho:G.out=[])(he:fB e)(h7:e.kind=7->G.now+1<=1099511626776):
  (Fx G (iG G e)/\∀o∈(iG G e).out,o.kind≠1) \/
  (∃k:Nat,e.kind=1/\k<G.tab.length/\(iG G e).out=[⟨1,k,JK (G.tab.getD k JT),(dL G e.key G.fls).1,0,0,0⟩]/\∀j:Nat,JK ((iG G e).tab.getD j JT)=JK (G.tab.getD j JT)+if j=k then 1 else 0):=by
 have hb:=hm.im.bs
 by_cases h1:e.kind=1
 ·unfold iG
  rw[Nh h1];rcases J7 hb he.key with⟨q,_⟩|⟨q,_⟩|⟨k,hlt,_,_,hc,_,hu,hg,_,q⟩
  ·rw[q]
   refine Nt ⟨fun _=>rfl,fun o h=>?_⟩;have h:o∈G.out++[(⟨2,0,0,0,0,9,0⟩:Ou)]:=h;rw[ho,Oz,PY]at h;rw[h];decide
  ·rw[q]
   refine Nt ⟨fun _=>rfl,fun o h=>?_⟩;have h:o∈G.out++[(⟨2,0,0,0,0,11,0⟩:Ou)]:=h;rw[ho,Oz,PY]at h;rw[h];decide
  ·rw[q]
   have e0:JK (G.tab.getD k JT)=G.tab[k].1:=by
    rw[NK,MR hlt,OV];unfold JK;rw[hu];simp
   refine NF ⟨k,h1,hlt,?_,fun j=>?_⟩
   ·show G.out++[_]=_
    rw[ho,e0];rfl
   ·show JK ((G.tab.set k _).getD j JT)=_
    rw[Kd hlt]
    split
    ·rename_i e2
     rw[e2,e0];unfold JK;simp
    ·omega
 ·refine Nt ⟨Lb hm he h7 h1,?_⟩
  refine KE hm he h7 (Q:=fun o=>o.kind≠1) ⟨fun _ _=>by simp,fun x s g b y hx _ _ _ _=>?_,fun h=>absurd h h1,fun h=>absurd h h1,fun _ _ _=>by simp,fun _ _ _=>by simp⟩ fun o h=>by rw[ho]at h;cases h
  show x≠1;omega
end
theorem Rn.Mj{A:Gt}{c:Cf}{P:Py}(h:Rn A c P):P.giv.length<=P.steps.length:=by
 refine h.Mw (J:=fun P=>P.giv.length<=P.steps.length) (MV _) fun Q e hQ he hl hJ=>?_
 show(Q.giv++JH (iG Q.last e).out).length<=(Q.steps++[_]).length;have hn:=hQ.runs.now;have:(JH (iG Q.last e).out).length<=1:=by
  rcases Lc hQ.runs.wm hQ.runs.out (D5 he) (fun _=>by omega)with⟨_,hk⟩|⟨k,_,_,ho,_⟩
  ·unfold JH
   rw[List.filter_eq_nil_iff.2 (fun o ho=>by simpa using hk o ho)];exact Nx _
  ·rw[ho]
   exact MV _
 rw[Ns,Ns,OU];omega
theorem Rn.Mv{A:Gt}{c:Cf}{P:Py}(h:Rn A c P)(hl:P.steps.length<=1000)(he:gq e=0):P.giv.length+(JH (iG P.last e).out).length<=100000:=by
 have:=(h.step he (by omega)).Mj;have e1:(P.step e).giv.length=P.giv.length+(JH (iG P.last e).out).length:=by show(P.giv++JH (iG P.last e).out).length=_;rw[Ns]
 have e2:(P.step e).steps.length=P.steps.length+1:=by show(P.steps++[_]).length=_;rw[Ns,OU]
 omega
theorem K0:(Tryz.prog.info? 24).map (·.size)=MI 16:=by kernel_rfl
theorem J8{w:MO}{g:Nat}{cs:List M7}{T:NU}(h:w.heap[g]?=MI (MP cs.toArray T (0,0))):w.rangeAt g 0 cs:=J9 h
end Go.Proofs.YtlnbhjdhcmgljaaGreatDoor.Q
