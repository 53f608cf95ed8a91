/-
  TopIdle: its walk. Conditions: as each theorem says.
-/
import Derived.Test.YtmpokpecfclapaaGreatDoorQ20
open Bool renaming false->Nb,false_ne_true->PE,or_eq_false_iff->az8,true->Nw
open Decidable renaming decide->Nn
open Go renaming Calls->Ni,Value->M7,World->MO,all_oneCell_toArray->OE,bodyPost_ret->Np,cell_of_row->MW,heap_alloc_new->M1,maxLen->NE,wpList_load_mid->O3,wpList_store_mid->OW
open Go.Calls renaming mono->Nd
open Go.Ending renaming returned->MN
open Go.IntKind renaming i64->ME,wrap_i64->Ow
open Go.Obj renaming cells->MP
open Go.Operand renaming tmp->O6
open Go.Proofs.Tryz renaming func28->WF,func42->aAb,ntmps28->Ww,ntmps42->az9,prog->MK,underlying86->aAa
open Go.RowKit renaming Below->MQ,Hid->M6
open Go.Value renaming agg->Ny,bool->M3,func->PB,int->MF,slice->MG,tuple->Nv
open Int renaming eq_ofNat_of_zero_le->NL,le_refl->Qh,mul_le_mul->Px
open List renaming ext_getElem->PX,getElem?_append_left->OJ,getElem?_eq_getElem->MR,getElem_mem->Nk,getElem_set->Pc,length_append->Ns,length_set->NA,length_take->NH,mem_cons_self->NM,mem_of_getElem?->Nu,replicate->Nj,take_length->NT,take_of_length_le->N1,take_succ_eq_append_getElem->M9
open Nat renaming le_refl->MV,le_trans->Nm,zero_le->Nx
open Option renaming none->MH,some->MI
open Or renaming inl->Nt,inr->NF
namespace Go.Proofs.YtmpokpecfclapaaGreatDoor.Q
set_option linter.unusedVariables false
set_option linter.unusedSimpArgs false
set_option maxHeartbeats 16000000
set_option maxRecDepth 100000
open Go.RowKit
attribute [local go_sem ↓] Go.wp_at_zero Go.wp_at_succ
variable {c:Cf}{l:List Ou}{w:MO}{base g i:Nat}{V:Pv}{P:Py}
section
variable {A:Gt}{c:Cf}{P:Py}
theorem Rn.azX(h:Rn A c P):(∀s,P.steps[0]?=MI s->s.bef=A)/\(P.steps=[]->P.last=A):=by
 refine h.Mw (J:=fun P=>(∀s,P.steps[0]?=MI s->s.bef=A)/\(P.steps=[]->P.last=A)) ⟨(fun s a=>absurd a (by simp)),fun _=>rfl⟩ fun Q e hQ he hl hJ=>?_
 refine⟨fun s a=>?_,fun b=>?_⟩
 ·have a:(Q.steps++[(⟨e,Q.last,(Xb Q.last e).Ma,(Xb Q.last e).out⟩:Sp)])[0]?=MI s:=a
  by_cases h0:Q.steps=[]
  ·rw[h0]at a
   cases a;exact hJ.2 h0
  ·rw[OJ (List.length_pos_iff.2 h0)]at a
   exact hJ.1 s a
 ·have b:Q.steps++[(⟨e,Q.last,(Xb Q.last e).Ma,(Xb Q.last e).out⟩:Sp)]=[]:=b
  simp at b
theorem Rn.azZ{J:Nat->Gt->Prop}(h:Rn A c P)(h0:J 0 A)(hs:∀n s,aaB c s->J n s.bef->J (n+1) s.aft) :
  (∀i s,P.steps[i]?=MI s->J i s.bef/\J (i+1) s.aft)/\J P.steps.length P.last:=by
 have b:∀i s,P.steps[i]?=MI s->J i s.bef:=by
  intro i
  induction i with
  |zero=>intro s q;rw[h.azX.1 s q];exact h0
  |succ i ih =>
   intro s q;have e:=(List.getElem?_eq_some_iff.1 q).1;have d:P.steps[i]?=MI P.steps[i]:=MR (by omega);rw[h.runs.next i _ s d q];exact hs i _ (h.runs.chain _ (Nk _)) (ih _ d)
 have a:∀i s,P.steps[i]?=MI s->J i s.bef/\J (i+1) s.aft:=fun i s q=>⟨b i s q,hs i s (h.runs.chain s (Nu q)) (b i s q)⟩
 refine⟨a,?_⟩
 by_cases hn:P.steps=[]
 ·rw[h.azX.2 hn,hn];exact h0
 ·have j:=List.length_pos_iff.2 hn
  have q:P.steps[P.steps.length-1]?=MI P.steps[P.steps.length-1]:=MR (by omega);rw[h.runs.tail _ q];have:=(a _ _ q).2;rwa[show P.steps.length-1+1=P.steps.length by omega]at this
end
structure ay1(X Y:Gt):Prop where
 fls:Y.fls=X.fls
 tab:Y.tab=X.tab
 tok:Y.tok=X.tok
 cfg:Y.cfg=X.cfg
 out:Y.out=X.out
structure Mv(X Y:Gt)(F:List Fl)(T:List awY)(k:Int)(o:Ou):Prop where
 fls:Y.fls=F
 tab:Y.tab=T
 tok:Y.tok=k
 cfg:Y.cfg=X.cfg
 out:Y.out=X.out++[o]
abbrev ay2(f:Fl)(k y:Int):Prop:=(k=7/\y=0)\/(k=6/\((y=1/\f.srv=Nw)\/y=2\/(f.srv=Nb/\(y=3\/y=4\/y=5))))
structure azW(op:Prop)(R:Gt->Prop):Prop where
 same:∀X Y,ay1 X Y->R X->R Y
 no:∀X Y o,(o.kind=2\/o.kind=8\/o.kind=9\/o.kind=10)->o.why=0->Mv X Y X.fls X.tab X.tok o->R X->R Y
 ends:∀X Y f k y,Bs X->f∈X.fls->ay2 f k y->Mv X Y (X.fls.filter fun x=>x.slot != f.slot) (X.tab.set f.slot.toNat (f.gen+1,Nb,0,0)) X.tok ⟨k,f.slot,f.gen,f.be,0,0,y⟩->R X->R Y
 again:∀X Y i (hi:i<X.fls.length) b d,Bs X->X.fls[i].srv=Nb->X.fls[i].ret+1<=X.cfg.ret->X.cfg.bd<=X.tok->(0<=b/\b<12)->Mv X Y (X.fls.set i {X.fls[i]with be:=b,ret:=X.fls[i].ret+1,due:=d}) (X.tab.set X.fls[i].slot.toNat (X.fls[i].gen,Nw,X.fls[i].key,b)) (X.tok-X.cfg.bd) ⟨5,X.fls[i].slot,X.fls[i].gen,b,0,0,0⟩->R X->R Y
 serves:∀X Y i (hi:i<X.fls.length) d,Bs X->X.fls[i].srv=Nb->Mv X Y (X.fls.set i {X.fls[i]with srv:=Nw,due:=d}) X.tab X.tok ⟨4,X.fls[i].slot,X.fls[i].gen,X.fls[i].be,0,0,0⟩->R X->R Y
 forw:∀X Y i (hi:i<X.fls.length) d,Bs X->Mv X Y (X.fls.set i {X.fls[i]with due:=d}) X.tab X.tok ⟨3,X.fls[i].slot,X.fls[i].gen,X.fls[i].be,0,0,0⟩->R X->R Y
 opens:op->∀X Y (k:Nat) (hk:k<X.tab.length) key b d,Bs X->X.tab[k].2.1=Nb->(0<=X.tab[k].1/\X.tab[k].1<=1048575)->(0<=b/\b<12)->Mv X Y (Xi X.fls ⟨k,X.tab[k].1,key,b,Nb,0,d⟩ (Y3 X.fls k)) (X.tab.set k (X.tab[k].1,Nw,key,b)) (min (X.tok+X.cfg.bn) (X.cfg.bb*X.cfg.bd)) ⟨1,k,X.tab[k].1,b,0,0,0⟩->R X->R Y
section
variable {op:Prop}{R:Gt->Prop}{G:Gt}
theorem azW.drain(h:azW op R){X:Gt}(hR:R X)(b:Int):R (Yf X b):=by
 unfold Yf
 split
 ·exact h.no X _ _ (NF (NF (Nt rfl))) rfl ⟨rfl,rfl,rfl,rfl,rfl⟩ hR
 ·exact hR
theorem azW.Hc(h:azW op R){X:Gt}(hb:Bs X){f:Fl}(hf:f∈X.fls){k y:Int}(hy:ay2 f k y)(hR:R X):R (Yg X f k y):=by
 unfold Yg;refine h.drain ?_ _;exact h.ends X _ f k y hb hf hy ⟨hb.GL hf,congrArg Prod.fst (hb.Hj hf),rfl,rfl,rfl⟩ hR
theorem azW.I8(h:azW op R){X:Gt}(hb:Bs X)(hi:i<X.fls.length)(hs:X.fls[i].srv=Nb){y:Int}(hy:y=3\/y=5)(hR:R X):R (YP X i y):=by
 have a:=Nk hi;have k:=(hb.F9 a).2.2.2;rcases aeI hb hi y with⟨z,q,m⟩|⟨c,q,j,d,n,b,_⟩
 ·rw[q]
  refine azW.Hc h (X:=Yh X X.fls[i].be Nw) (hb.GA k Nw) a (NF ⟨rfl,NF (NF ⟨hs,by omega⟩)⟩) ?_;exact h.same X _ ⟨rfl,rfl,rfl,rfl,rfl⟩ hR
 ·obtain⟨T,e⟩:=ak0 (G:={Yh X X.fls[i].be Nw with tok:=X.tok-X.cfg.bd}) hi c
  rw[q,e];refine h.drain ?_ _;exact h.again X _ i hi c _ hb hs d j b ⟨rfl,congrArg Prod.fst (hb.Ho a b),rfl,rfl,rfl⟩ hR
theorem azW.Mm(h:azW op R)(hm:Wm G){e:Ev}(he:XZ e)(h7:e.kind=7->G.now+1<=1099511626776)(h1:e.kind=1->op)(hR:R G):R (Xb G e):=by
 have a:=hm.im.bs;have m:∀k,R (Yv G k e):=fun k=>h.no G _ _ (NF (Nt rfl)) rfl ⟨rfl,rfl,rfl,rfl,rfl⟩ hR
 unfold Xb
 split
 ·rename_i k1
  rcases afU a he.key with⟨q,_⟩|⟨q,_⟩|⟨k,p,_,_,o,_,u,B,_,q⟩ <;> rw[q]
  ·exact h.no G _ _ (Nt rfl) rfl ⟨rfl,rfl,rfl,rfl,rfl⟩ hR
  ·exact h.no G _ _ (Nt rfl) rfl ⟨rfl,rfl,rfl,rfl,rfl⟩ hR
  ·exact h.opens (h1 k1) G _ k p _ _ _ a u B o ⟨rfl,rfl,rfl,rfl,rfl⟩ hR
 ·split
  ·exact m 1
  ·split
   ·unfold abg
    split
    ·exact m 2
    ·split
     ·exact h.no (Yv G 2 e) _ _ (NF (NF (Nt rfl))) rfl ⟨rfl,rfl,rfl,rfl,rfl⟩ (m 2)
     ·exact h.drain (X:={Yv G 2 e with wts:=G.wts.set e.be.toNat 0}) (h.same (Yv G 2 e) _ ⟨rfl,rfl,rfl,rfl,rfl⟩ (m 2)) _
   ·split
    ·rename_i k7
     refine alk (R:=R) hm (h7 k7) ?_ (fun X f y hX hf j hR=>h.Hc hX.bs hf (NF ⟨rfl,by rcases j with j|j;exact Nt j;exact NF (Nt j)⟩) hR) (fun X i hX b d hR=>h.I8 hX.bs b d (NF rfl) hR);obtain⟨_,_,r,v,t,z,x,_⟩:=aeS (a.next (h7 k7));exact h.same G _ ⟨r,z,x,v,t⟩ hR
    ·rcases akr a e with⟨o,q⟩|⟨i,b,_,_,_,⟨_,q⟩|⟨_,q⟩|⟨_,_,⟨_,q⟩|⟨d,_,q⟩|⟨d,_,q⟩⟩⟩
     ·rw[q];exact h.no G _ _ (NF (NF (NF rfl))) rfl ⟨rfl,rfl,rfl,rfl,rfl⟩ hR
     ·rw[q];exact h.Hc a (Nk b) (Nt ⟨rfl,rfl⟩) hR
     ·obtain⟨T,n⟩:=aks b
      rw[q,n];refine h.forw G _ i b (if G.fls[i].srv then G.now+G.cfg.idle else G.fls[i].due) a ⟨?_,rfl,rfl,rfl,rfl⟩ hR;show G.fls.set i _=G.fls.set i _
      congr 1
      split <;> rfl
     ·rw[q];exact h.no G _ _ (NF (NF (NF rfl))) rfl ⟨rfl,rfl,rfl,rfl,rfl⟩ hR
     ·obtain⟨T,n⟩:=alb b
      rw[q,n];exact h.serves G _ i b _ a d ⟨rfl,rfl,rfl,rfl,rfl⟩ hR
     ·rw[q];exact h.I8 a b d (Nt rfl) hR
theorem Mv.pre{X Y:Gt}{F:List Fl}{T:List awY}{k:Int}{o:Ou}(h:Mv X Y F T k o)(L:List Ou):Mv {X with out:=L++X.out} {Y with out:=L++Y.out} F T k o :=
 ⟨h.fls,h.tab,h.tok,h.cfg,by show L++Y.out=L++X.out++[o];rw[h.out,List.append_assoc]⟩
theorem azW.pre(h:azW op R)(L:List Ou):azW op fun X=>R {X with out:=L++X.out}where
 same:=fun X Y hs hR=>h.same {X with out:=L++X.out} _ ⟨hs.fls,hs.tab,hs.tok,hs.cfg,by show L++Y.out=L++X.out;rw[hs.out]⟩ hR
 no:=fun X Y o ho hy hs hR=>h.no {X with out:=L++X.out} _ o ho hy (hs.pre L) hR
 ends:=fun X Y f k y hb hf hy hs hR=>h.ends {X with out:=L++X.out} _ f k y (hb.Jh _) hf hy (hs.pre L) hR
 again:=fun X Y i hi b d hb h1 h2 h3 h4 hs hR=>h.again {X with out:=L++X.out} _ i hi b d (hb.Jh _) h1 h2 h3 h4 (hs.pre L) hR
 serves:=fun X Y i hi d hb h1 hs hR=>h.serves {X with out:=L++X.out} _ i hi d (hb.Jh _) h1 (hs.pre L) hR
 forw:=fun X Y i hi d hb hs hR=>h.forw {X with out:=L++X.out} _ i hi d (hb.Jh _) (hs.pre L) hR
 opens:=fun ho X Y k hk key b d hb h1 h2 h3 hs hR=>h.opens ho {X with out:=L++X.out} _ k hk key b d (hb.Jh _) h1 h2 h3 (hs.pre L) hR
theorem Rn.flows{A:Gt}(h:Rn A c P)(hF:azW True R)(h0:R A)(hA:A.out=[]):R {P.last with out:=(P.steps.map (·.out)).flatten}:=by
 refine h.Mw (J:=fun P=>R {P.last with out:=(P.steps.map (·.out)).flatten}) ?_ fun Q e hQ he hl hJ=>?_
 ·exact hF.same A _ ⟨rfl,rfl,rfl,rfl,hA.symm⟩ h0
 ·have b:=hQ.runs.now
  have a:=(hF.pre ((Q.steps.map (·.out)).flatten)).Mm (G:=Q.last) hQ.runs.wm (aeH he) (fun _=>by omega) (fun _=>trivial) (by rw[hQ.runs.out,List.append_nil];exact hJ);refine hF.same {Xb Q.last e with out:=(Q.steps.map (·.out)).flatten++(Xb Q.last e).out} _ ⟨rfl,rfl,rfl,rfl,?_⟩ a;show((Q.steps++[(⟨e,Q.last,(Xb Q.last e).Ma,(Xb Q.last e).out⟩:Sp)]).map fun s=>s.out).flatten=(Q.steps.map fun s=>s.out).flatten++(Xb Q.last e).out;simp
end
def ay5(o:Ou):Bool:=Nn (o.kind<1) || decide (10<o.kind) || decide (o.why<0) || decide (5<o.why)
def ay3(l:List Ou):Bool:=l.any ay5
theorem ay6{o:Ou}(h:ay5 o=Nb):(1<=o.kind/\o.kind<=10)/\0<=o.why/\o.why<=5:=by
 unfold ay5 at h;simp only[az8,decide_eq_false_iff_not]at h;omega
theorem ay4(h:ay3 l=Nb){o:Ou}(ho:o∈l):ay5 o=false:=by
 have:=List.any_eq_false.1 h o ho
 simpa using this
def azc(o:Ou)(j:Nat):Bool:=if j<11 then o.kind == (j:Int)else o.kind == 6 && o.why == ((j-11:Nat):Int)
def ay7(l:List Ou)(j:Nat):Nat:=l.countP fun o=>azc o j
def azd(l:List Ou):List Int:=(List.range 17).map fun j=>(ay7 l j:Int)
theorem azf(l:List Ou):(azd l).length=17:=by simp[azd]
theorem azg:azd []=Nj 17 0:=by simp[azd,ay7];rfl
theorem ay8(l:List Ou)(j:Nat):ay7 l j<=l.length:=List.countP_le_length
theorem aze(l:List Ou)(j:Nat)(hj:j<17):(azd l)[j]'(by rw[azf];exact hj)=(ay7 l j:Int):=by simp[azd]
theorem ay9(l:List Ou)(o:Ou)(j:Nat):ay7 (l++[o]) j=ay7 l j+(if azc o j then 1 else 0):=by
 simp[ay7,List.countP_append,List.countP_cons]
theorem azh(l:List Ou)(o:Ou)(k:Nat)(hk:o.kind=(k:Int))(h11:k<11)(h6:¬o.kind=6):azd (l++[o])=(azd l).set k ((ay7 l k:Int)+1):=by
 apply PX
 ·simp[azf]
 ·intro j a b
  rw[azf]at a;rw[aze _ _ a,Pc,ay9]
  by_cases e:k=j
  ·subst e
   simp[azc,h11,hk]
  ·rw[Nf e,aze _ _ a]
   have:azc o j=false:=by
    unfold azc
    split
    ·rw[hk]
     simp;omega
    ·simp[h6]
   simp[this]
theorem azi(l:List Ou)(o:Ou)(y:Nat)(hk:o.kind=6)(hy:o.why=(y:Int))(h6:y<6):azd (l++[o])=((azd l).set 6 ((ay7 l 6:Int)+1)).set (11+y) ((ay7 l (11+y):Int)+1):=by
 apply PX
 ·simp[azf]
 ·intro j a b
  rw[azf]at a;rw[aze _ _ a,Pc,Pc,ay9]
  by_cases e:11+y=j
  ·subst e
   simp[azc,hk,hy]
  ·rw[Nf e]
   by_cases e6:6=j
   ·subst e6
    simp[azc,hk]
   ·rw[Nf e6,aze _ _ a]
    have:azc o j=false:=by
     unfold azc
     split
     ·rw[hk]
      simp;omega
     ·rw[hk,hy]
      simp;omega
    simp[this]
def azo(l:List Ou):List Int×Int:=if ay3 l then(Nj 17 0,5)else(azd l,0)
theorem azp(l:List Ou):(azo l).1.length=17:=by
 unfold azo
 split
 ·simp
 ·exact azf l
def azl(l:List Ou):Int:=(ay7 l 1:Int)-(ay7 l 6:Int)-(ay7 l 7:Int)
def azn(l:List Ou):Int×Int:=if ay3 l then(0,5)else if azl l<0 then(0,6)else(azl l,0)
section
variable {X:Gt}
theorem azk(h:Bs X){f:Fl}(hf:f∈X.fls):(X.fls.filter fun x=>x.slot != f.slot).length+1=X.fls.length:=by
 have a:=h.Ge;obtain⟨l,m,e⟩:=List.append_of_mem hf;rw[e]at a⊢;obtain⟨_,b,j⟩:=List.pairwise_append.1 a;obtain⟨d,_⟩:=List.pairwise_cons.1 b;rw[List.filter_append,List.filter_cons_of_neg (by simp),List.filter_eq_self.2 (fun x hx=>?_),List.filter_eq_self.2 (fun x hx=>?_)]
 ·simp;omega
 ·have:=d x hx;simp;omega
 ·have:=j x hx f (NM ..);simp;omega
theorem azm(l:List Ou)(o:Ou):azl (l++[o])=azl l+(if o.kind=1 then 1 else 0)-(if o.kind=6\/o.kind=7 then 1 else 0):=by
 unfold azl;rw[ay9,ay9,ay9];have b:azc o 1=Nn (o.kind=1):=by unfold azc;rw[Nh (by decide)];rfl
 have a:azc o 6=Nn (o.kind=6):=by unfold azc;rw[Nh (by decide)];rfl
 have d:azc o 7=Nn (o.kind=7):=by unfold azc;rw[Nh (by decide)];rfl
 rw[b,a,d]
 by_cases h1:o.kind=1
 ·simp[h1];omega
 ·by_cases h6:o.kind=6
  ·simp[h6];omega
  ·by_cases h7:o.kind=7
   ·simp[h7];omega
   ·simp[h1,h6,h7]
theorem azb:azW True fun X=>ay3 X.out=false:=by
 have a:∀(X Y:Gt) (o:Ou),ay3 X.out=Nb->ay5 o=Nb->Y.out=X.out++[o]->ay3 Y.out=false:=fun X Y o h1 h2 h3=>by
  unfold ay3 at h1⊢;rw[h3,List.any_append,h1];simp[h2]
 refine⟨fun X Y hs hR=>by rw[hs.out];exact hR,fun X Y o ho hy hs hR=>a X Y _ hR ?_ hs.out,fun X Y f k y hb hf hy hs hR=>a X Y _ hR ?_ hs.out,fun X Y i hi b d hb h1 h2 h3 h4 hs hR=>a X Y _ hR rfl hs.out,fun X Y i hi d hb h1 hs hR=>a X Y _ hR rfl hs.out,fun X Y i hi d hb hs hR=>a X Y _ hR rfl hs.out,fun _ X Y k hk ky b d hb h1 h2 h3 hs hR=>a X Y _ hR rfl hs.out⟩
 ·unfold ay5
  simp only[az8,decide_eq_false_iff_not];omega
 ·unfold ay5
  simp only[az8,decide_eq_false_iff_not];omega
theorem azj(n:Int):azW True fun X=>(X.fls.length:Int)=n+azl X.out:=by
 refine⟨fun X Y hs hR=>by rw[hs.out,hs.fls];exact hR,fun X Y o ho hy hs hR=>?_,fun X Y f k y hb hf hy hs hR=>?_,fun X Y i hi b d hb h1 h2 h3 h4 hs hR=>?_,fun X Y i hi d hb h1 hs hR=>?_,fun X Y i hi d hb hs hR=>?_,fun _ X Y k hk ky b d hb h1 h2 h3 hs hR=>?_⟩ <;> rw[hs.out,hs.fls,azm]
 ·rw[Nf (by omega),Nf (by omega)];omega
 ·have:=azk hb hf
  show _=n+(azl X.out+(if k=1 then 1 else 0)-if k=6\/k=7 then 1 else 0);rw[Nf (by omega),Nh (by omega)];omega
 ·rw[NA];simpa using hR
 ·rw[NA];simpa using hR
 ·rw[NA];simpa using hR
 ·show _=n+(azl X.out+1-0)
  have:(Xi X.fls (⟨k,X.tab[k].1,ky,b,Nb,0,d⟩:Fl) (Y3 X.fls k)).length=X.fls.length+1:=ad1 _ _ (ad4 _ _);rw[this];omega
end
section
variable {A:Gt}{c:Cf}{P:Py}{s:Sp}
theorem Rn.good(h:Rn A c P)(hA:A.out=[]):ay3 (P.steps.map (·.out)).flatten=false:=h.flows azb (by rw[hA];rfl) hA
theorem Rn.az0(h:Rn A c P)(hA:A.out=[])(hf:A.fls=[]):azl (P.steps.map (·.out)).flatten=P.last.fls.length:=by
 have:=h.flows (azj 0) (by rw[hA,hf];rfl) hA;have e:(P.last.fls.length:Int)=0+azl (P.steps.map (·.out)).flatten:=this;omega
end
def azV(G:Gt):Prop:=∀f∈G.fls,f.due<=G.now+if f.srv then G.cfg.idle else G.cfg.conn
section
variable {G:Gt}{c:Cf}
theorem azV.drain(h:azV G)(b:Int):azV (Yf G b):=by
 obtain⟨e,_,d,_,j,_⟩:=ahi (G:=G) b;intro f a;rw[j]at a;rw[e,d];exact h f a
theorem azV.ends(h:azV G)(f:Fl)(k y:Int):azV (Yg G f k y):=by
 unfold Yg;refine azV.drain (fun x hx=>?_) _;exact h x (List.mem_filter.1 (show x∈Yl G.fls f.slot f.gen from hx)).1
theorem azV.F4(h:azV G){x:Fl}{T:Tm->Prop}(hx:x.due<=G.now+if x.srv then G.cfg.idle else G.cfg.conn):azV {G with fls:=G.fls.set i x,tms:=T}:=fun f hf=>by
 rcases aac (show f∈G.fls.set i x from hf)with rfl|hf
 ·exact hx
 ·exact h f hf
theorem azV.Mg(h:azV G)(hb:Bs G)(hi:i<G.fls.length)(hv:G.fls[i].srv=Nb)(y:Int):azV (YP G i y):=by
 rcases aeI hb hi y with⟨z,q,d⟩|⟨b,q,k,a,j,m,_⟩
 ·rw[q];exact azV.ends (G:=Yh G G.fls[i].be Nw) h _ _ _
 ·obtain⟨T,e⟩:=ak0 (G:={Yh G G.fls[i].be Nw with tok:=G.tok-G.cfg.bd}) hi b
  rw[q,e];refine azV.drain (fun f hf=>?_) _;rcases aac (show f∈G.fls.set i {G.fls[i]with be:=b,ret:=G.fls[i].ret+1,due:=G.now+G.cfg.conn}from hf)with rfl|hf
  ·show G.now+G.cfg.conn<=G.now+if G.fls[i].srv then G.cfg.idle else G.cfg.conn
   rw[hv];exact Qh _
  ·exact h f hf
theorem azs(hm:Wm G){e:Ev}(he:XZ e)(h7:e.kind=7->G.now+1<=1099511626776)(h:azV G):azV (Xb G e):=by
 have m:=hm.im.bs;unfold Xb
 split
 ·rcases afU m he.key with⟨q,_⟩|⟨q,_⟩|⟨k,r,_,_,o,_,_,t,_,q⟩
  ·rw[q];exact h
  ·rw[q];exact h
  ·rw[q]
   intro f a;rcases abT.1 (show f∈Xi G.fls _ _ from a)with rfl|a
   ·exact Qh _
   ·exact h f a
 ·split
  ·exact h
  ·split
   ·unfold abg
    split
    ·exact h
    ·split
     ·exact h
     ·exact azV.drain (G:={Yv G 2 e with wts:=G.wts.set e.be.toNat 0}) h _
   ·split
    ·rename_i k7
     refine alk (R:=azV) hm (h7 k7) ?_ (fun X f y hX a hy hR=>hR.ends _ _ _) (fun X i hX d b hR=>hR.Mg hX.bs d b _);obtain⟨j,_,p,n,_⟩:=aeS (m.next (h7 k7));intro f a;have a:f∈(YH {G with now:=G.now+1}).fls:=a;rw[p]at a;show f.due<=(YH {G with now:=G.now+1}).now+if f.srv then(YH {G with now:=G.now+1}).cfg.idle else(YH {G with now:=G.now+1}).cfg.conn
     rw[j,n];have:=h f a;show f.due<=G.now+1+if f.srv then G.cfg.idle else G.cfg.conn
     omega
    ·rcases akr m e with⟨o,q⟩|⟨i,d,_,_,_,⟨_,q⟩|⟨_,q⟩|⟨_,_,⟨_,q⟩|⟨_,_,q⟩|⟨b,_,q⟩⟩⟩
     ·rw[q];exact h
     ·rw[q];exact h.ends _ _ _
     ·obtain⟨T,j⟩:=aks d
      rw[q,j];refine azV.F4 (T:=T) h ?_;have:=h _ (Nk d);cases b:G.fls[i].srv
      ·rw[b]at this;simpa [b]using this
      ·simp[b]
     ·rw[q];exact h
     ·obtain⟨T,j⟩:=alb d
      rw[q,j];exact azV.F4 (T:=T) (G:=Yh G G.fls[i].be Nb) h (Qh _)
     ·rw[q];exact h.Mg m d b _
end
def azq(c:Cf)(n:Int)(f:Fl):Int:=f.due-n+if f.srv then 0 else(c.ret-f.ret)*c.conn
def ay0(c:Cf)(m:Int)(G:Gt):Prop:=∀f∈G.fls,azq c G.now f<=m
section
variable {G:Gt}{c:Cf}
theorem azv(hm:Wm G)(hc:G.cfg=c)(hn:G.now+1<=1099511626776){m:Int}(h:ay0 c m G):ay0 c (m-1) (abj G):=by
 have a:=hm.im.bs.cfg;rw[hc]at a;have C:1<=c.conn:=a.2.2.2.2.2.2.2.1.1;have o:(abj G).now=G.now+1/\(abj G).cfg=c/\∀f∈(abj G).fls,G.now+1<=f.due/\azq c (G.now+1) f<=m-1:=by
  refine alk (R:=fun X=>X.now=G.now+1/\X.cfg=c/\∀f∈X.fls,G.now+1<=f.due/\azq c (G.now+1) f<=m-1) hm hn ?_ (fun X f y hX d _ hR=>?_) (fun X i hX hi hv hR=>?_)
  ·obtain⟨u,_,r,v,_⟩:=aeS (hm.im.bs.next hn)
   refine⟨u,v.trans hc,fun f d=>?_⟩;have d:f∈(YH {G with now:=G.now+1}).fls:=d;rw[r]at d;have t:=hm.due f d;have p:=h f d;unfold azq at p⊢;exact⟨by omega,by omega⟩
  ·have j:=aeN X f 6 y
   exact⟨j.2.trans hR.1,j.1.trans hR.2.1,fun k a=>hR.2.2 k (afL hX.bs d 6 y k a).1⟩
  ·have j:=ald X i 5
   refine⟨j.2.trans hR.1,j.1.trans hR.2.1,fun k a=>?_⟩;have B:=(hX.bs.F9 (Nk hi)).2.2.2;rcases aeI hX.bs hi 5 with⟨z,q,_⟩|⟨b,q,F,E,p,D,_⟩
   ·rw[q]at a
    exact hR.2.2 k (afL (hX.bs.GA B Nw) (Nk hi) 6 z k a).1
   ·obtain⟨T,e⟩:=ak0 (G:={Yh X X.fls[i].be Nw with tok:=X.tok-X.cfg.bd}) hi b
    rw[q,e,afJ]at a;rcases aac (show k∈X.fls.set i {X.fls[i]with be:=b,ret:=X.fls[i].ret+1,due:=X.now+X.cfg.conn}from a)with rfl|a
    ·obtain⟨t,n⟩:=hR.2.2 _ (Nk hi)
     unfold azq at n⊢;rw[hv]at n;show G.now+1<=X.now+X.cfg.conn/\X.now+X.cfg.conn-(G.now+1)+(if X.fls[i].srv=Nw then 0 else(c.ret-(X.fls[i].ret+1))*c.conn)<=m-1;rw[hv,Nf PE,hR.1,hR.2.1];rw[Nf PE]at n;have x:(c.ret-(X.fls[i].ret+1))*c.conn=(c.ret-X.fls[i].ret)*c.conn-c.conn:=by
      rw[<-Int.sub_sub,Int.sub_mul,Int.one_mul]
     rw[x];omega
    ·exact hR.2.2 k a
 intro f d;rw[o.1];exact(o.2.2 f d).2
theorem azr(hm:Wm G)(hc:G.cfg=c)(h:ay0 c 0 G):G.fls=[]:=by
 cases e:G.fls with
 |nil=>rfl
 |cons f l =>
  have a:f∈G.fls:=by rw[e];exact NM ..
  have d:=h f a;have m:=hm.due f a;have j:=hm.im.bs.rets f a;have b:=hm.im.bs.cfg;rw[hc]at j b;have k:1<=c.conn:=b.2.2.2.2.2.2.2.1.1;unfold azq at d
  split at d
  ·omega
  ·have:0<=(c.ret-f.ret)*c.conn:=Int.mul_nonneg (by omega) (by omega)
   omega
variable {A:Gt}{P:Py}
theorem Rn.az2(h:Rn A c P)(hA:A.fls=[]):ay0 c (c.idle+(c.ret+1)*c.conn) P.last:=by
 have k:=(h.azZ (J:=fun _ G=>azV G) (fun f a=>by rw[hA]at a;cases a) fun n s hs hJ=>by rw[hs.aft];exact azs hs.wm (aeH hs.ev) hs.late hJ).2;have e:=h.runs.wm;have b:=e.im.bs.cfg;rw[h.runs.cfg]at b;have p:1<=c.conn:=b.2.2.2.2.2.2.2.1.1;have o:1<=c.idle:=b.2.2.2.2.2.2.1.1;have j:0<=c.ret:=b.2.2.2.2.2.2.2.2.1.1;intro f a;have d:=k f a;have m:=e.im.bs.rets f a;rw[h.runs.cfg]at d m;unfold azq;rw[Int.add_mul,Int.one_mul];have r:0<=c.ret*c.conn:=Int.mul_nonneg j (by omega)
 split
 ·rename_i hv
  rw[hv,Nh rfl]at d;omega
 ·rename_i hv
  rw[Nf hv]at d;have q:(c.ret-f.ret)*c.conn<=c.ret*c.conn:=Int.mul_le_mul_of_nonneg_right (by omega) (by omega);omega
end
section
variable {G:Gt}
theorem aza(h:Im G):(acG G).out.length<=G.out.length+960:=by
 have a:=(akI G.liv G G.liv.length h (MV _)).2.2;rw[NT]at a;have b:G.liv.length<=12:=h.bs.book.1.1;show(G.liv.foldl Zd G).out.length<=_;omega
theorem azu(h:Wm G)(hn:G.now+1<=1099511626776):(abj G).out.length<=G.out.length+1040:=by
 have d:=h.im.next hn;obtain⟨m,n,k,r,p,_⟩:=aeS d.bs;have o:=d.Jf;have e:=o.I2;have j:(aaC (YH {G with now:=G.now+1})).now=G.now+1:=m;have b:(aaC (YH {G with now:=G.now+1})).wnow=G.now:=n.trans h.wnow;obtain⟨q,_⟩:=e.Je (by rw[b,j]) (fun f a=>by
  have a:f∈(YH {G with now:=G.now+1}).fls:=a;rw[k]at a;rw[b];exact h.due f a)
 have v:=aza q;have t:=ao7 e.bs;have u:(aaC (YH {G with now:=G.now+1})).out.length=G.out.length:=congrArg List.length p;show(acG _).out.length<=_;omega
theorem azt(hm:Wm G)(e:Ev)(h7:e.kind=7->G.now+1<=1099511626776):(Xb G e).out.length<=G.out.length+1040:=by
 unfold Xb
 split
 ·unfold aaI
  split
  ·simp[acm,ZM]
  ·simp only[]
   split
   ·simp[acm,ZM]
   ·simp[abv,abi,ZM,YW]
 ·split
  ·simp[Yv,ZM]
  ·split
   ·unfold abg
    split
    ·simp[Yv,ZM]
    ·split
     ·simp[aeQ,Yv,ZM]
     ·refine Nm (aki _) ?_
      simp[Yv,ZM]
   ·split
    ·rename_i h
     exact azu hm (h7 h)
    ·unfold aaq
     simp only[]
     split
     ·simp[acm,ZM]
     ·split
      ·exact Nm (afK _ _ _) (by omega)
      ·split
       ·unfold aaZ
        simp only[]
        split <;> simp[abi,ZM,YW,Y4]
       ·split
        ·simp[acm,ZM]
        ·split
         ·simp[abh,abi,ZM,YW,Y4,Yh]
         ·exact Nm (aoZ _ _) (by omega)
theorem aaB.az3{s:Sp}(h:aaB c s):s.out.length<=1040:=by
 rw[h.out];have:=azt h.wm s.ev h.late;rw[h.out0]at this
 simpa using this
end
theorem WU.Gm(h:WU base w g V c P):w.cell? ⟨g,16,MH⟩=MI (MG V.ps P.steps.length V.cs):=by
 rw[MW w g 16 _ _ (0,0) h.box,h.steps];rfl
structure azy(W:MO)(ps:Option Addr)(k:Nat)(q:Sq)(b o:Nat):Prop where
 at_:ps=MI ⟨b,o,MH⟩
 cells:W.rangeAt b (o+k*61) (abK q)
 rd:aje W q
theorem XQ.step{W:MO}(h:XQ w W g V c P){k:Nat}(hk:k<P.steps.length):∃q b o,azy W V.ps k q b o/\P.steps[k]?=MI q.s/\aaB c q.s:=by
 have z:=h.pat.steps;have m:k<V.qs.length:=by omega
 have n:Xw abK W (MG V.ps V.qs.length V.cs) V.qs:=abw h.pat.rows;obtain⟨a,x,d,_,_,t⟩:=Xw.F6 avt n;injection d with q1 _ _;obtain⟨b,o,u,y,r⟩:=t k m;have e:P.steps[k]?=MI V.qs[k].s:=by rw[<-h.pat.eqs,List.getElem?_map,MR m];rfl
 refine⟨V.qs[k],b,o,⟨q1.trans u,fun j v d=>?_,(h.pat.all _ (Nk m)).now⟩,e,h.rn.runs.chain _ (Nu e)⟩;have p:j<61:=(List.getElem?_eq_some_iff.1 d).1;rw[r j p];exact d
theorem azQ(f:Nat->Int)(hf:∀i,i<16->(Lit.int ME (f i)).wf=Nw)(ds:List Dd)(hds:∀d∈ds,ajd d){pd:Option Addr}{cd:Nat}(hrow:Xw agP w (MG pd ds.length cd) ds)(hblk:Xo w)(most:Nat)(hm:most<=100):
  ∃L:List M7,L.length=16/\agc (f 0) (f 1) (f 2) (f 3) (f 4) (f 5) (f 6) (f 7) (f 8) (f 9) (f 10) (f 11) (f 12) (f 13) (f 14) (f 15)=Ny L.toArray/\∀W,MQ w.heap.size w W->Ni MK 13 #[Ny L.toArray,MG pd ds.length cd,MF ME (most:Int)] W (au0 f most W):=
 ⟨[MF ME (f 0),MF ME (f 1),MF ME (f 2),MF ME (f 3),MF ME (f 4),MF ME (f 5),MF ME (f 6),MF ME (f 7),MF ME (f 8),MF ME (f 9),MF ME (f 10),MF ME (f 11),MF ME (f 12),MF ME (f 13),MF ME (f 14),MF ME (f 15)],rfl,rfl,fun W hB=>awU f hf ds hds W (hrow.below hB) (hblk.below hB) most hm⟩
theorem WU.az6(h:WU base w g V c P)(j:Nat):w.cell? ⟨g,j,MH⟩=(adM V c P)[j]?:=by
 rw[MW w g j _ _ (0,0) h.box];simp
def azw(V:Pv)(g B:Nat)(W:MO)(o:Obj):Prop:=¬V.own g B/\W.heap[B]?=MI o
theorem azw.step{V':Pv}{B:Nat}{W W':MO}{o:Obj}(h:azw V g B W o)(hf:XK V V' g W W'):azw V' g B W' o:=by
 have a:B<W.heap.size:=(Array.getElem?_eq_some_iff.1 h.2).1;refine⟨fun e=>?_,(hf.block B a h.1).trans h.2⟩;rcases hf.ext B e with e|e
 ·exact h.1 e
 ·omega
theorem azw.az4{W Y:MO}(h:XQ w W g V c P){o:Obj}(hb:Y.heap[W.heap.size]?=MI o):azw V g W.heap.size Y o :=
 ⟨fun e=>by have:=(h.pat.Mb e).2;omega,hb⟩
theorem XQ.az7{W:MO}(h:XQ w W g V c P)(hl:P.steps.length<=1000)(e:Ev)(he:Yk e=0):
  Ni MK 15 #[gP g,acH e] W fun r w'=>r=MN (M3 Nw)/\∃V',XQ w w' g V' c (P.step e)/\XK V V' g W w':=by
 refine(au6 h.pat h.rn.runs hl h.blk h.bel.size e he (h.rn.Mv hl he)).mono ?_;rintro r w' ⟨rfl,V',d,b⟩;have a:=b.IT h.pat h.bel.size;exact⟨rfl,V',⟨d,h.rn.step he (by omega),h.bel.trans a,h.blk.Gf (a.block 0 h.pos),h.pos⟩,b⟩
theorem WU.az5(h:WU base w g V c P):w.rangeAt g 0 (ac8 c):=fun j v hv=>by
 have a:j<16:=(List.getElem?_eq_some_iff.1 hv).1;rw[Nat.zero_add,h.az6 j];exact(OJ a).trans hv
theorem azA(W:MO)(c:Cf):∃(K:List M7) (Y:MO),K=ac8 c/\K.length=16/\Y=(W.alloc (MP kz.toArray 38)).setCells W.heap.size 0 K/\Y.heap[W.heap.size]?=MI (MP K.toArray 38 (0,0))/\MQ W.heap.size W Y/\(W.alloc (MP kz.toArray 38)).there W.heap.size 0 K.toArray.size/\K.toArray.all (·.oneCell')=true:=by
 have a:(W.alloc (MP kz.toArray 38)).heap[W.heap.size]?=MI (MP kz.toArray 38 (0,0)):=M1 _ _;exact⟨_,_,rfl,rfl,rfl,anq a rfl,adp (WQ W) (MV _) _ _ (by simp),(show(W.alloc (MP kz.toArray 38)).there W.heap.size 0 (ac8 c).toArray.size from afH (old:=kz) a),avk c⟩
def azM(P:Py):List Ou:=(P.steps.map (·.out)).flatten
def azN(P:Py)(k:Nat):List Ou:=((P.steps.take k).map (·.out)).flatten
theorem azP{k:Nat}{s:Sp}(h:P.steps[k]?=MI s):azN P (k+1)=azN P k++s.out:=by
 obtain⟨a,e⟩:=List.getElem?_eq_some_iff.1 h;unfold azN;rw[M9 a,List.map_append,List.flatten_append,e];simp
theorem azO{c:Cf}{P:Py}(h:∀s∈P.steps,aaB c s):∀k:Nat,(azN P k).length<=1040*k
 |0=>Nx _
 |k+1=>by
  have a:=azO h k
  by_cases hk:k<P.steps.length
  ·rw[azP (MR hk),Ns]
   have b:=(h _ (Nk hk)).az3;omega
  ·have:azN P (k+1)=azN P k:=by unfold azN;rw[N1 (by omega),N1 (by omega)]
   rw[this];omega
theorem azL{W:MO}(h:XQ w W g V c P)(hl:P.steps.length<=1000):
  Ni MK 18 #[gP g] W fun r w'=>∃p q,r=MN (MG p (azM P).length q)/\Xw Z1 w' (MG p (azM P).length q) (azM P)/\MQ W.heap.size W w':=by
 obtain⟨n,Q⟩:∃n,n=P.steps.length:=⟨_,rfl⟩;have d:M6 (_/\_/\_):=⟨h,Q,(show n<=1000 by omega)⟩;have a0:n<=9223372036854775807:=by omega
 clear h hl Q;go_enter Tryz.func18,Tryz.ntmps18;go_wp2
 go_loopw [3,4] (fun s i wr=>∃(k q:Nat) (p:Option Addr) (j:Nat),s=MG p q j/\i=MF ME (k:Int)/\k<=n/\M6 (q=(azN P k).length/\wr.ownsRow W.heap.size 67 7 (MG p q j) q (rv Z1 (azN P k))/\MQ W.heap.size W wr)) (fun _ i _=>n-(intOf i).toNat)
 case atStart=>exact⟨0,0,MH,0,rfl,rfl,Nx _,rfl,⟨rfl,Nt ⟨rfl,rfl⟩⟩,RowKit.Below.refl _ _⟩
 case round =>
  obtain⟨k,q,p,j,rfl,rfl,hk,a⟩:=hrel;have m:=d.out.1.on a.out.2.2;have Y:wr.cell? ⟨g,16,MH⟩=MI (MG V.ps n V.cs):=by rw[d.out.2.1];exact m.pat.Gm
  have a2:=m.pat.lt
  by_cases hlt:k<n
  ·have T:(k:Int)<(n:Int):=by omega
   obtain⟨x,b,o,hx,D,U⟩:=m.step (k:=k) (by rw[<-d.out.2.1];exact hlt);have L:wr.cell? ⟨b,o+k*61+60,MH⟩=MI (MG x.po x.s.out.length x.co):=hx.cells 60 _ rfl;have a3:b<wr.heap.size:=World.block_lt_of_cell? wr ⟨b,_,MH⟩ L;have y:(azN P (k+1)).length=q+x.s.out.length:=by rw[azP D,Ns,<-a.out.1]
   have M:=azO d.out.1.rn.runs.chain (k+1);rw[y]at M;have a4:k+1<=1000:=by have:=d.out.2.2;omega
   obtain⟨N,S,Z,C,u,I⟩:=ajY akV aqd (by decide) Tryz.underlying62 apw rfl a.out.2.1 a.out.2.2.size 62 _ x.s.out hx.rd.2.2 (by omega) (by unfold NE;omega);rw[<-azP D]at u;obtain⟨t,H⟩:∃t,t=x.s.out.length:=⟨_,rfl⟩;rw[<-H]at C u y L;rw[hx.at_]at Y;have z:M6 (_/\_/\_/\_):=⟨C,u,a.out.2.2.trans I,y⟩;clear y H C u I hx D U m M
   go_wp2_with (at_builtin;(with_reducible refine Z4 rfl _ _ 62 rfl (MG p q j) (MG x.po t x.co) (MG N (q+t) S) Z ?hs ?hx ?hr ?_);(case hs=>rfl);(case hx=>rfl);(case hr=>exact z.out.1))
   go_wp2
   go_roundw
   case rel=>exact⟨k+1,q+t,N,S,rfl,by simp,hlt,z.out.2.2.2.symm,z.out.2.1,z.out.2.2.1⟩
   case measure=>simp[intOf];omega
  ·obtain rfl:k=n:=by omega
   have T:¬(k:Int)<(k:Int):=by omega
   have B:=a.out.1;have E:=a.out.2.1;have O:azN P k=azM P:=by unfold azN azM;rw[d.out.2.1,NT]
   rw[O]at B E;have K:=abw (c:=Z1) (l:=azM P) (k:=7) (v:=MG p q j) (w:=wr) (base:=W.heap.size) (e:=67) (by rw[<-B];exact E);have F:M6 (_/\_):=⟨K,B⟩;clear B E O K m;go_wp2;go_ret;exact⟨p,j,by rw[<-F.out.2];rfl,by rw[<-F.out.2];exact F.out.1,a.out.2.2⟩
abbrev azK(o:Ou):Value:=Ny #[MF ME o.kind,MF ME o.slot,MF ME o.gen,MF ME o.be,MF ME o.req,MF ME o.code,MF ME o.why]
abbrev azx(w:MO)(v:M7)(l:List Ou):Prop:=Xw Z1 w v l
theorem azx.F6{v:M7}(h:azx w v l):
  ∃a cap,v=MG a l.length cap/\l.length<=cap/\cap<=NE/\∀i (hi:i<l.length),∃b off,a=MI ⟨b,off,MH⟩/\b<w.heap.size/\w.cell? ⟨b,off+i*7,MH⟩=MI (MF ME l[i].kind)/\w.cell? ⟨b,off+i*7+1,MH⟩=MI (MF ME l[i].slot)/\w.cell? ⟨b,off+i*7+2,MH⟩=MI (MF ME l[i].gen)/\w.cell? ⟨b,off+i*7+3,MH⟩=MI (MF ME l[i].be)/\w.cell? ⟨b,off+i*7+4,MH⟩=MI (MF ME l[i].req)/\w.cell? ⟨b,off+i*7+5,MH⟩=MI (MF ME l[i].code)/\w.cell? ⟨b,off+i*7+6,MH⟩=MI (MF ME l[i].why):=by
 obtain⟨a,cap,k,e,o,j⟩:=Xw.F6 akV h;refine⟨a,cap,k,e,o,fun i hi=>?_⟩;obtain⟨b,off,n,m,d⟩:=j i hi;exact⟨b,off,n,m,(d 0 (by omega)).trans rfl,(d 1 (by omega)).trans rfl,(d 2 (by omega)).trans rfl,(d 3 (by omega)).trans rfl,(d 4 (by omega)).trans rfl,(d 5 (by omega)).trans rfl,(d 6 (by omega)).trans rfl⟩
theorem azR{α:Type}{l:List α}{k:Nat}(h:k<l.length){x:α}(hx:x=l[k]):l.take (k+1)=l.take k++[x]:=by
 rw[M9 h,hx]
theorem azC(f:Ou)(w:MO) :
  Ni MK 42 #[azK f] w fun r w'=>r=MN (M3 (ay5 f))/\MQ w.heap.size w w':=by
 have a:ay5 f=(Nn (f.kind<1) || decide (10<f.kind) || decide (f.why<0) || decide (5<f.why)):=rfl;rw[a];clear a;cases t0:Nn (f.kind<1)
 ·cases t1:Nn (10<f.kind)
  ·cases t2:Nn (f.why<0)
   ·cases t3:Nn (5<f.why)
    ·go_enter aAb,az9
     go_wp2;go_ret;exact⟨by rfl,WQ w⟩
    ·go_enter aAb,az9
     go_wp2;go_ret;exact⟨by rfl,WQ w⟩
   ·go_enter aAb,az9
    go_wp2;go_ret;exact⟨by rfl,WQ w⟩
  ·go_enter aAb,az9
   go_wp2;go_ret;exact⟨by rfl,WQ w⟩
 ·go_enter aAb,az9
  go_wp2;go_ret;exact⟨by rfl,WQ w⟩
theorem azE(v:M7)(l:List Ou)(w:MO)(hv:azx w v l) :
  Ni MK 62 #[v,PB (Fn.func 42) #[] #[]] w fun r w'=>r=MN (MF ME (X6 (l.findIdx (ay5)) l.length))/\MQ w.heap.size w w':=by
 obtain⟨q,D⟩:∃q:Ou->Bool,q=(ay5):=⟨_,rfl⟩;obtain⟨a,ca,rfl,a2,N,F⟩:=azx.F6 hv;unfold NE at N;have M:M6 (∀(x:Ou) (W:MO),MQ w.heap.size w W->Ni MK 42 #[azK x] W fun r w'=>r=MN (M3 (q x))/\MQ W.heap.size W w'):=by
  rw[D];exact fun x W hb=>azC x W
 rw[<-D];obtain⟨o,B⟩:∃o,o=X6 (l.findIdx q) l.length:=⟨_,rfl⟩;rw[<-B];have H:M6 _:=B;clear hv B D;go_enter Tryz.func62,Tryz.ntmps62;go_wp2
 go_loopw [8] (fun i wr=>∃k:Nat,i=MF ME k/\k<=l.length/\(∀t∈l.take k,q t=Nb)/\MQ w.heap.size w wr) (fun i _=>l.length-(intOf i).toNat)
 case atStart=>exact⟨0,rfl,Nx _,by simp,RowKit.Below.refl _ _⟩
 case round =>
  obtain⟨k,rfl,hk,u,b⟩:=hrel
  by_cases hlt:k<l.length
  ·obtain⟨m,j,rfl,e,c1,c2,c3,c4,c5,c6,c7⟩:=F k hlt
   have e1:=(b.cell (p:=⟨m,j+k*7,MH⟩) e).trans c1;have Y:=(b.cell (p:=⟨m,j+k*7+1,MH⟩) e).trans c2;have Z:=(b.cell (p:=⟨m,j+k*7+2,MH⟩) e).trans c3;have Q:=(b.cell (p:=⟨m,j+k*7+3,MH⟩) e).trans c4;have S:=(b.cell (p:=⟨m,j+k*7+4,MH⟩) e).trans c5;have T:=(b.cell (p:=⟨m,j+k*7+5,MH⟩) e).trans c6;have O:=(b.cell (p:=⟨m,j+k*7+6,MH⟩) e).trans c7;have n:M6 (_/\_):=⟨u,b⟩;have a0:(k:Int)<(l.length:Int):=by omega
   have C:l.take (k+1)=l.take k++[l[k]]:=M9 hlt;have E:q l[k]=Nw->l.findIdx q=k:=fun h=>abZ hlt u h
   have z:∃x,x=l[k]:=⟨_,rfl⟩;obtain⟨x,z⟩:=z;rw[<-z]at e1 Y Z Q S T O C E;have L:M6 (_/\_):=⟨C,E⟩;clear u b c1 c2 c3 c4 c5 c6 c7 e F C E z;cases hd:q x
   ·go_wp2_with fail
    refine(M.out x _ n.out.2).mono ?_;rw[hd];rintro r U ⟨rfl,y⟩;have I:M6 _:=y;clear y;go_wp2
    go_roundw
    case rel =>
     refine⟨k+1,by simp,hlt,fun t d=>?_,n.out.2.trans (I.out.mono n.out.2.size)⟩;rw[L.out.1]at d;rcases List.mem_append.1 d with d|d
     ·exact n.out.1 t d
     ·simp at d
      rw[d];exact hd
    case measure=>simp[intOf];omega
   ·go_wp2_with fail
    refine(M.out x _ n.out.2).mono ?_;rw[hd];rintro r U ⟨rfl,y⟩;have K:M6 (o=(k:Int)):=by show o=_;rw[H.out,L.out.2 hd];exact Nh hlt
    have I:M6 _:=y;clear y;go_wp2;go_ret;exact⟨by rw[K.out];rfl,n.out.2.trans (I.out.mono n.out.2.size)⟩
  ·have K:M6 (o = -1):=by
    show o=_;rw[H.out,acp fun t d=>u t (by rw[N1 (by omega)];exact d)];exact Nf (Nat.lt_irrefl _)
   have HB:M6 _:=b;clear u b F;go_wp2;go_ret;exact⟨by rw[K.out];rfl,HB.out⟩
theorem azD(v:M7)(l:List Ou)(w:MO)(hv:azx w v l) :
  Ni MK 43 #[v,PB (Fn.func 42) #[] #[]] w fun r w'=>r=MN (M3 (l.any (ay5)))/\MQ w.heap.size w w':=by
 rw[<-ahq];have e:M6 _:=azE v l w hv;obtain⟨b,a⟩:∃b,b=X6 (l.findIdx (ay5)) l.length:=⟨_,rfl⟩;rw[<-a]at e⊢;clear a hv;go_enter Tryz.func43,Tryz.ntmps43
 go_wp2_with fail
 refine Nd e.out ?_;rintro r k ⟨rfl,d⟩;have j:M6 _:=d;clear d;go_wp2;go_ret;exact⟨rfl,j.out⟩
theorem azB(v:M7)(l:List Ou)(w:MO)(hv:azx w v l) :
  Ni MK 28 #[v] w fun r w'=>r=MN (MF ME (if ay3 l then 5 else 0))/\MQ w.heap.size w w':=by
 have b:M6 _:=azD v l w hv;have e:l.any ay5=ay3 l:=rfl;rw[e]at b;clear e hv;cases h:ay3 l
 ·rw[h]at b
  go_enter WF,Ww
  go_wp2_with fail
  refine Nd b.out ?_;rintro r j ⟨rfl,a⟩;have d:M6 _:=a;clear a;go_wp2;go_ret;exact⟨rfl,d.out⟩
 ·rw[h]at b
  go_enter WF,Ww
  go_wp2_with fail
  refine Nd b.out ?_;rintro r j ⟨rfl,a⟩;have d:M6 _:=a;clear a;go_wp2;go_ret;exact⟨rfl,d.out⟩
theorem azU:(#[MF ME 0,MF ME 0,MF ME 0,MF ME 0,MF ME 0,MF ME 0,MF ME 0,MF ME 0,MF ME 0,MF ME 0,MF ME 0,MF ME 0,MF ME 0,MF ME 0,MF ME 0,MF ME 0,MF ME 0]:Array M7)=(WR (Nj 17 0)).toArray:=rfl
theorem azF:(Tryz.prog.info? 86).map (·.size)=MI 17:=by kernel_rfl
theorem azJ(v:M7)(l:List Ou)(w:MO)(hv:azx w v l) :
  Ni MK 21 #[v] w fun r w'=>r=MN (Nv #[Ny (WR (azo l).1).toArray,MF ME (azo l).2])/\MQ w.heap.size w w':=by
 obtain⟨p,c,rfl,hc,hm,pv⟩:=azx.F6 hv;unfold NE at hm;obtain⟨W0,U⟩:∃W0,W0=w.alloc (MP (WR (Nj 17 0)).toArray 86):=⟨_,rfl⟩;have b8:MQ w.heap.size w W0:=by rw[U];exact WQ w
 have b5:Xj 86 17 W0 w.heap.size (Nj 17 0):=by rw[U];exact⟨M1 _ _,by simp⟩
 have D:M6 (_/\_/\_/\_/\_):=⟨hv,pv,b8,b5,U⟩;clear hv pv b8 b5 U;have I:=OE (ac1 (Nj 17 0));have HO:M6 _:=I;clear I;go_enter Tryz.func21,Tryz.ntmps21
 go_wp2_with fail
 rw[azU,<-D.out.2.2.2.2];refine(azB _ l _ (D.out.1.below D.out.2.2.1)).mono ?_;rintro r e ⟨rfl,Z⟩;have o:=D.out.2.2.2.1.below Z;have O:=D.out.2.2.1.trans (Z.mono D.out.2.2.1.size);cases hbad:ay3 l
 ·rw[Nf PE]
  have K:azo l=(azd l,0):=by unfold azo;rw[hbad];rfl
  have F:M6 (_/\_/\_/\_):=⟨o,O,hbad,K⟩;have d8:=o.lt;clear o O Z hbad K;go_wp2;rw[azU];obtain⟨W2,Y⟩:∃W2,W2=e.alloc (MP (WR (Nj 17 0)).toArray 86):=⟨_,rfl⟩;rw[<-Y];have b9:MQ e.heap.size e W2:=by rw[Y];exact WQ e
  have b2:Xj 86 17 W2 e.heap.size (azd (l.take 0)):=by rw[Y,List.take_zero,azg];exact⟨M1 _ _,by simp⟩
  have H2:M6 (_/\_):=⟨b9,b2⟩;clear b9 b2 Y
  go_loopw [16] (fun i wr=>∃k:Nat,i=MF ME k/\k<=l.length/\MQ e.heap.size e wr/\Xj 86 17 wr e.heap.size (azd (l.take k))) (fun i _=>l.length-(intOf i).toNat)
  case atStart=>exact⟨0,rfl,Nx _,H2.out.1,H2.out.2⟩
  case round =>
   obtain⟨k,rfl,hk,C,m⟩:=hrel
   by_cases hlt:k<l.length
   ·obtain⟨E,off,rfl,q,c1,c2,c3,c4,c5,c6,c7⟩:=D.out.2.1 k hlt
    have u:=F.out.2.1.trans (C.mono F.out.2.1.size);have e1:=(u.cell (p:=⟨E,off+k*7,MH⟩) q).trans c1;have e2:=(u.cell (p:=⟨E,off+k*7+1,MH⟩) q).trans c2;have e3:=(u.cell (p:=⟨E,off+k*7+2,MH⟩) q).trans c3;have e4:=(u.cell (p:=⟨E,off+k*7+3,MH⟩) q).trans c4;have e5:=(u.cell (p:=⟨E,off+k*7+4,MH⟩) q).trans c5;have e6:=(u.cell (p:=⟨E,off+k*7+5,MH⟩) q).trans c6;have e7:=(u.cell (p:=⟨E,off+k*7+6,MH⟩) q).trans c7;have T:=ay6 (ay4 F.out.2.2.1 (Nk hlt));obtain⟨⟨kd,sl,gn,be,rq,cd,wy⟩,hx⟩:∃x,x=l[k]:=⟨_,rfl⟩;have S:=azR hlt hx;rw[<-hx]at e1 e2 e3 e4 e5 e6 e7 T
    dsimp only at e1 e2 e3 e4 e5 e6 e7 T
    obtain⟨n,rfl⟩:=NL (a:=kd) (by omega);obtain⟨y,rfl⟩:=NL (a:=wy) (by omega);have c0:n<11:=by omega
    have d6:(n:Int)<11:=by omega
    have d0:y<6:=by omega
    have e8:(y:Int)<6:=by omega
    have d1:(k:Int)<(l.length:Int):=by omega
    have d7:=m.lt;have d9:¬e.heap.size=wr.heap.size:=by omega
    have d4:¬wr.heap.size=e.heap.size:=by omega
    by_cases h6:n=6
    ·subst h6
     have M:=m.F7 6 (by rw[azf];omega);rw[aze _ 6 (by omega)]at M;have c9:=m.Gu 6;have a8:=m.F7 (11+y) (by rw[azf];omega);rw[aze _ (11+y) (by omega)]at a8;have d5:=m.Gu (11+y);have a0:ay7 (l.take k) 6<=k:=Nm (ay8 _ _) (by rw[NH];omega);have c8:ay7 (l.take k) (11+y)<=k:=Nm (ay8 _ _) (by rw[NH];omega);have d:=azi (l.take k) ⟨((6:Nat):Int),sl,gn,be,rq,cd,(y:Int)⟩ y rfl rfl d0;rw[<-S]at d;obtain⟨Q,L⟩:∃Q,Q=ay7 (l.take k) 6:=⟨_,rfl⟩;obtain⟨n2,b3⟩:∃n2,n2=ay7 (l.take k) (11+y):=⟨_,rfl⟩;rw[<-L]at M a0 d;rw[<-b3]at a8 c8 d;have d2:¬11+y=6:=by omega
     have d3:¬6=11+y:=by omega
     have z:M6 (_/\_/\_):=⟨C,m,d⟩;clear C m d L b3 S hx u c1 c2 c3 c4 c5 c6 c7 q T;go_wp2
     go_roundw
     case rel =>
      refine⟨k+1,by simp,hlt,?_,?_⟩
      ·exact((z.out.1.setCell (p:=⟨e.heap.size,6,MH⟩) (MV _) _).setCell (p:=⟨e.heap.size,11+y,MH⟩) (MV _) _).alloc (by simp;exact z.out.1.size) _
      ·rw[z.out.2.2]
       exact((z.out.2.1.F4 6 _).F4 (11+y) _).below (WQ _)
     case measure=>simp[intOf];omega
    ·have M:=m.F7 n (by rw[azf];omega)
     rw[aze _ n (by omega)]at M;have c9:=m.Gu n;have a0:ay7 (l.take k) n<=k:=Nm (ay8 _ _) (by rw[NH];omega);have d:=azh (l.take k) ⟨(n:Int),sl,gn,be,rq,cd,(y:Int)⟩ n rfl c0 (by show ¬(n:Int)=6;omega);rw[<-S]at d;obtain⟨Q,L⟩:∃Q,Q=ay7 (l.take k) n:=⟨_,rfl⟩;rw[<-L]at M a0 d;have e0:¬(n:Int)=6:=by omega
     have z:M6 (_/\_/\_):=⟨C,m,d⟩;clear C m d L S hx u c1 c2 c3 c4 c5 c6 c7 q T;go_wp2
     go_roundw
     case rel =>
      refine⟨k+1,by simp,hlt,?_,?_⟩
      ·exact(z.out.1.setCell (p:=⟨e.heap.size,n,MH⟩) (MV _) _).alloc (by simp;exact z.out.1.size) _
      ·rw[z.out.2.2]
       exact(z.out.2.1.F4 n _).below (WQ _)
     case measure=>simp[intOf];omega
   ·obtain rfl:k=l.length:=by omega
    rw[NT]at m;have o:=F.out.1.below C;obtain⟨B,t⟩:∃B,B=wr.setCells w.heap.size 0 (WR (azd l)):=⟨_,rfl⟩;have d:=(o.Hq (P:=MK) (b:=azd l) (azf l) azF).2;rw[<-t]at d;have a3:MQ w.heap.size w wr:=F.out.2.1.trans (C.mono F.out.2.1.size);have N:MQ w.heap.size w B:=by rw[t];exact adp a3 (MV _) 0 _ a3.size
    have a9:(Tryz.prog.info? 86).map (·.size)=MI (WR (azd l)).length:=by rw[azF,Zv,azf]
    have a4:wr.there w.heap.size 0 (WR (azd l)).toArray.size:=by simp[Zv,azf];exact o.GB
    have I:=OE (ac1 (azd l));have j:M6 (_/\_/\_/\_/\_/\_/\_):=⟨m.Gq,a9,a4,I,t,d,N⟩;clear m o d N a9 a4 I t C a3;obtain⟨H,a2⟩:∃H,H=WR (azd l):=⟨_,rfl⟩;rw[<-a2]at j;have HC:M6 _:=a2;clear a2
    go_wp2_with (first|((with_reducible refine O3 rfl 86 (O6 5) rfl e.heap.size 0 ?hx H _ ?hc aAa ?hd ?hi ?_);(case hx=>rfl);(case hc=>exact j.out.1);(case hd=>rfl);(case hi=>exact j.out.2.1))|((with_reducible refine OW rfl 86 (O6 2) (O6 40) rfl w.heap.size 0 H.toArray ?hx ?hy ?ht ?hi ?h1 ?_);(case hx=>rfl);(case hy=>rfl);(case ht=>exact j.out.2.2.1);(case hi=>rw[j.out.2.1];simp);(case h1=>exact j.out.2.2.2.1);rw[show H.toArray.toList=H from rfl,<-j.out.2.2.2.2.1]))
    rw[F.out.2.2.2];refine Np (v:=Nv #[Ny (WR (azd l)).toArray,MF ME 0]) (XT Tryz.results21 rfl rfl (j.out.2.2.2.2.2.1.Io aAa rfl azF)) rfl ⟨rfl,j.out.2.2.2.2.2.2⟩
 ·rw[Nh rfl]
  have K:azo l=(Nj 17 0,5):=by unfold azo;rw[hbad];rfl
  obtain⟨B,t⟩:∃B,B=e.setCells w.heap.size 0 (Array.toList (#[MF ME 0,MF ME 0,MF ME 0,MF ME 0,MF ME 0,MF ME 0,MF ME 0,MF ME 0,MF ME 0,MF ME 0,MF ME 0,MF ME 0,MF ME 0,MF ME 0,MF ME 0,MF ME 0,MF ME 0]:Array M7)):=⟨_,rfl⟩;have d:=(o.Hq (P:=MK) (b:=Nj 17 0) (by simp) azF).2;have a5:Xj 86 17 B w.heap.size (Nj 17 0):=by rw[t];exact d
  have N:MQ w.heap.size w B:=by rw[t];exact adp O (MV _) _ _ O.size
  have j:M6 (_/\_/\_/\_/\_):=⟨o.GB,N,a5,t,K⟩;clear o O Z hbad K d a5 N t
  go_wp2_with ((with_reducible refine OW rfl 86 (O6 2) (O6 12) rfl w.heap.size 0 #[MF ME 0,MF ME 0,MF ME 0,MF ME 0,MF ME 0,MF ME 0,MF ME 0,MF ME 0,MF ME 0,MF ME 0,MF ME 0,MF ME 0,MF ME 0,MF ME 0,MF ME 0,MF ME 0,MF ME 0] ?hx ?hy ?ht ?hi ?h1 ?_);(case hx=>rfl);(case hy=>rfl);(case ht=>exact j.out.1);(case hi=>exact azF);(case h1=>exact HO.out);rw[<-j.out.2.2.2.1])
  rw[j.out.2.2.2.2];refine Np (v:=Nv #[Ny (WR (Nj 17 0)).toArray,MF ME 5]) (XT Tryz.results21 rfl rfl (j.out.2.2.1.Io aAa rfl azF)) rfl ⟨rfl,j.out.2.1⟩
theorem azz(h:l.length<=9223372036854775807):-9223372036854775808<=azl l/\azl l<=9223372036854775807/\ay7 l 6+ay7 l 7<=l.length:=by
 have a:ay7 l 6+ay7 l 7<=l.length:=by
  unfold ay7;clear h
  induction l with
  |nil=>simp
  |cons o l ih =>
   simp only[List.countP_cons,List.length_cons];have:(if azc o 6=Nw then 1 else 0)+(if azc o 7=Nw then 1 else 0)<=1:=by
    unfold azc
    by_cases h6:o.kind=6
    ·simp[h6]
    ·simp[h6];split <;> omega
   omega
 have b:=ay8 l 1;unfold azl;omega
theorem azG(v:M7)(l:List Ou)(w:MO)(hv:azx w v l) :
  Ni MK 22 #[v] w fun r w'=>r=MN (Nv #[MF ME (azn l).1,MF ME (azn l).2])/\MQ w.heap.size w w':=by
 obtain⟨p,c,rfl,hc,hm⟩:=Xw.Ga hv;unfold NE at hm;have u:=azz (l:=l) (by omega);have g1:=ay8 l 1;have g6:=ay8 l 6;have g7:=ay8 l 7;have L:=azJ _ l w hv;clear hv;obtain⟨j,z⟩:∃j,j=(azo l).1:=⟨_,rfl⟩;obtain⟨C,H⟩:∃C,C=(azo l).2:=⟨_,rfl⟩;rw[<-z,<-H]at L;have N:j.length=17:=by rw[z];exact azp l
 have Y:M6 _:=L;clear L;have e:M6 (_/\_/\_/\_):=⟨N,z,H,u⟩;clear N z H u;obtain⟨LV,E⟩:∃LV,LV=azn l:=⟨_,rfl⟩;rw[<-E];have M:M6 _:=E;clear E;go_enter Tryz.func22,Tryz.ntmps22
 go_wp2_with fail
 refine Nd Y.out ?_;rintro r m ⟨rfl,D⟩;obtain⟨n,B⟩:∃n,n=m.alloc (MP (WR (Nj 17 0)).toArray 86):=⟨_,rfl⟩;have F:Xj 86 17 n m.heap.size (Nj 17 0):=by rw[B];exact⟨M1 _ _,by simp⟩
 obtain⟨K,x⟩:∃K,K=n.setCells m.heap.size 0 (WR j):=⟨_,rfl⟩;have t:=(F.Hq (P:=MK) (b:=j) e.out.1 azF).2;rw[<-x]at t;have I:MQ w.heap.size w n:=by rw[B];exact D.alloc D.size _
 have T:MQ w.heap.size w K:=by rw[x];exact adp I D.size _ _ I.size
 have Q:n.there m.heap.size 0 (WR j).toArray.size:=by simp[Zv,e.out.1];exact F.GB
 have S:(Tryz.prog.info? 86).map (·.size)=MI (WR j).toArray.size:=by rw[azF];simp[Zv,e.out.1]
 have O:=OE (ac1 j);have h1:=t.F7 1 (by rw[e.out.1];omega);have Z:=t.F7 6 (by rw[e.out.1];omega);have U:=t.F7 7 (by rw[e.out.1];omega);have a:M6 (_/\_/\_/\_/\_/\_):=⟨Q,S,O,B,x,T⟩;obtain⟨d,y⟩:∃d,d=WR j:=⟨_,rfl⟩;rw[<-y]at a;rw[<-y];have HC:M6 _:=y;clear y Q S O B x I T t F D;have a0:(C=5/\ay3 l=Nw)\/(C=0/\ay3 l=Nb/\j=azd l):=by
  rw[e.out.2.2.1,e.out.2.1];unfold azo;cases ay3 l
  ·right;exact⟨rfl,rfl,rfl⟩
  ·left;exact⟨rfl,rfl⟩
 rcases a0 with⟨rfl,q⟩|⟨rfl,q,a2⟩
 ·have o:azn l=(0,5):=by unfold azn;rw[q];rfl
  have k:M6 (LV=(0,5)):=M.out.trans o;clear o q h1 Z U
  go_wp2_with ((with_reducible refine OW rfl 86 (O6 4) (O6 10) rfl m.heap.size 0 d.toArray ?hx ?hy ?ht ?hi ?h1 ?_);(case hx=>rfl);(case hy=>rfl);(case ht=>rw[azU,<-a.out.2.2.2.1];exact a.out.1);(case hi=>exact a.out.2.1);(case h1=>exact a.out.2.2.1);rw[azU,<-a.out.2.2.2.1,show d.toArray.toList=d from rfl,<-a.out.2.2.2.2.1])
  go_ret2
  exact⟨by rw[k.out];try rfl,a.out.2.2.2.2.2⟩
 ·have o:azn l=if azl l<0 then(0,6)else(azl l,0):=by unfold azn;rw[q];rfl
  have k:M6 _:=M.out.trans o;clear M;subst a2;rw[aze l 1 (by omega)]at h1;rw[aze l 6 (by omega)]at Z;rw[aze l 7 (by omega)]at U;have u:=e.out.2.2.2;unfold azl at u k;clear o q Y;generalize ay7 l 1=a1 at *;generalize ay7 l 6=a6 at *;generalize ay7 l 7=a7 at *;have b1:a1<=9223372036854775807:=by omega
  have b6:a6<=9223372036854775807:=by omega
  have b7:a7<=9223372036854775807:=by omega
  have a3:a6+a7<=9223372036854775807:=by omega
  clear g1 g6 g7 u e
  by_cases hneg:(a1:Int)-a6-a7<0
  ·rw[Nh hneg]at k
   go_wp2_with ((with_reducible refine OW rfl 86 (O6 4) (O6 10) rfl m.heap.size 0 d.toArray ?hx ?hy ?ht ?hi ?h1 ?_);(case hx=>rfl);(case hy=>rfl);(case ht=>rw[azU,<-a.out.2.2.2.1];exact a.out.1);(case hi=>exact a.out.2.1);(case h1=>exact a.out.2.2.1);rw[azU,<-a.out.2.2.2.1,show d.toArray.toList=d from rfl,<-a.out.2.2.2.2.1])
   go_ret2
   exact⟨by rw[k.out];try rfl,a.out.2.2.2.2.2⟩
  ·rw[Nf hneg]at k
   go_wp2_with ((with_reducible refine OW rfl 86 (O6 4) (O6 10) rfl m.heap.size 0 d.toArray ?hx ?hy ?ht ?hi ?h1 ?_);(case hx=>rfl);(case hy=>rfl);(case ht=>rw[azU,<-a.out.2.2.2.1];exact a.out.1);(case hi=>exact a.out.2.1);(case h1=>exact a.out.2.2.1);rw[azU,<-a.out.2.2.2.1,show d.toArray.toList=d from rfl,<-a.out.2.2.2.2.1])
   go_ret2
   exact⟨by rw[k.out];try rfl,a.out.2.2.2.2.2⟩
theorem azH(v:M7)(l:List Ou)(w:MO)(hv:azx w v l)(hg:ay3 l=Nb)(h0:0<=azl l) :
  Ni MK 22 #[v] w fun r w'=>r=MN (Nv #[MF ME (azl l),MF ME 0])/\MQ w.heap.size w w':=by
 have h:=azG v l w hv;have e:azn l=(azl l,0):=by unfold azn;rw[hg,Nf PE,Nf (by omega)]
 rw[e]at h;exact h
theorem azI{a b:Int}(ha:0<=a/\a<=1000000)(hb:0<=b/\b<=1000000):0<=a*b/\a*b<=1000000*1000000:=⟨Int.mul_nonneg ha.1 hb.1,Px ha.2 hb.2 hb.1 (by omega)⟩
theorem azT{a b:Int}(ha:0<=a/\a<=1000000)(hb:0<=b/\b<=1000000):IntKind.i64.wrap (a*b)=a*b:=by
 have:=azI ha hb;rw[Ow];omega
theorem azS(f:Nat->Int)(hf:∀i,i<16->(Lit.int ME (f i)).wf=Nw)(ds:List Dd)(hds:∀d∈ds,ajd d){pd:Option Addr}{cd:Nat}(hrow:Xw agP w (MG pd ds.length cd) ds)(hB:Xo w):
  Ni MK 8 #[agc (f 0) (f 1) (f 2) (f 3) (f 4) (f 5) (f 6) (f 7) (f 8) (f 9) (f 10) (f 11) (f 12) (f 13) (f 14) (f 15),MG pd ds.length cd] w fun r w'=>r=MN (M3 Nw)/\MQ w.heap.size w w':=by
 obtain⟨L,hL,eL,b9⟩:=azQ f hf ds hds hrow hB 60 (by omega);rw[eL];obtain⟨B,S⟩:∃B,B=w.alloc (MP L.toArray 24):=⟨_,rfl⟩;have T:MQ w.heap.size w B:=by rw[S];exact WQ w
 have q:M6 (_/\_/\_):=⟨hL,T,b9 B T⟩;obtain⟨nd,a9⟩:∃nd,nd=ds.length:=⟨_,rfl⟩;rw[<-a9]at q⊢;clear hL eL b9 T hf hds hrow hB a9;go_enter Tryz.func8,Tryz.ntmps8
 go_wp2_with ((with_reducible refine O3 rfl 24 (O6 2) rfl w.heap.size 0 ?gx L _ ?gc Tryz.underlying24 ?gd ?gi ?_);(case gx=>rfl);(case gc=>exact afW (M1 _ _));(case gd=>rfl);(case gi=>rw[q.out.1];exact apz))
 rw[<-S];clear S;refine Nd q.out.2.2 ?_;rintro r w1 ⟨g,V,c,P,rfl,hS,j,d2,d1,a5⟩;obtain⟨n,D⟩:∃n,n=P.steps.length:=⟨_,rfl⟩;have o:M6 (_/\_/\_/\_/\_):=⟨hS,j,D,(show n<=60+4 by omega),a5⟩;have c0:=q.out.2.1.trans (hS.bel.mono q.out.2.1.size);have HB:M6 _:=c0;have d0:M6 _:=q.out.2.1;clear hS j d2 d1 a5 D q c0;obtain⟨K,W1,eK,lK,b5,p,c9,b8,a0⟩:=azA w1 c;have Y:=o.out.1.pat.az5;have a3:=o.out.1.pat.lt;rw[<-eK]at Y;have y:M6 (_/\_/\_/\_/\_):=⟨Y,lK,b8,a0,b5⟩;have HX:M6 (_/\_/\_):=⟨p,c9,eK⟩;clear eK lK b5 p c9 b8 a0 Y
 go_wp2_with (first|((with_reducible refine O3 rfl 38 (O6 19) rfl g 0 ?gx K _ ?gc Tryz.underlying38 ?gd ?gi ?_);(case gx=>rfl);(case gc=>exact y.out.1);(case gd=>rfl);(case gi=>rw[y.out.2.1];exact ajj))|((with_reducible refine OW rfl 38 (O6 7) (O6 20) rfl w1.heap.size 0 K.toArray ?sx ?sy ?st ?si ?s1 ?_);(case sx=>rfl);(case sy=>rfl);(case st=>exact y.out.2.2.1);(case si=>rw[List.size_toArray,y.out.2.1];exact ajj);(case s1=>exact y.out.2.2.2.1);rw[List.toList_toArray,<-y.out.2.2.2.2]))
 obtain⟨v,b2⟩:∃v,v=w1.heap.size:=⟨_,rfl⟩;have Z:=azw.az4 o.out.1 HX.out.1;have j:=o.out.2.1;have a4:=j.ok;obtain⟨x,H⟩:∃x,x=(c.ret+1)*c.conn:=⟨_,rfl⟩;have d7:0<=x/\x<=16:=by
  rw[H];exact⟨Int.mul_nonneg (by omega) (by omega),Int.le_trans (Px (c:=4) (d:=4) (by have:=j.ret;omega) j.conn (by omega) (by omega)) (by decide)⟩
 have hm:=(azT (a:=c.ret+1) (b:=c.conn) (by have:=j.ret;omega) (by have:=j.conn;omega)).trans H.symm;have d4:IntKind.i64.wrap (c.ret+1)=c.ret+1:=by have:=j.ret;rw[Ow];omega
 have d6:1<=c.idle/\c.idle<=6:=⟨a4.2.2.2.2.2.2.1.1,j.idle⟩;have M:=o.out.1.rn.az2 rfl;rw[<-H]at M;rw[<-b2]at Z⊢;have HH:M6 (_/\_):=⟨Z,M⟩;clear Z M j a4 H a3 b2
 go_loopw [6,8] (fun k i wr=>∃(t:Nat) (V:Pv) (Q:Py),k=M3 Nw/\i=MF ME (t:Int)/\(t:Int)<=c.idle+x/\M6 (XQ B wr g V c Q/\Q.steps.length=n+t/\ay0 c (c.idle+x-t) Q.last/\azw V g v wr (MP K.toArray 38 (0,0)))) (fun _ i _=>30-(intOf i).toNat)
 case atStart=>exact⟨0,V,P,rfl,rfl,by omega,o.out.1.on HX.out.2.1,by rw[o.out.2.2.1];rfl,by have:=HH.out.2;simpa using this,HH.out.1⟩
 case round =>
  obtain⟨t,F,Q,rfl,rfl,ht,e⟩:=hrel;have p:=e.out.2.2.2.2;have d3:v<wr.heap.size:=(Array.getElem?_eq_some_iff.1 p).1;rw[HX.out.2.2]at p;have u6:wr.cell? ⟨v,6,MH⟩=MI (MF ME c.idle):=by simp[World.cell?,p]
  have u7:wr.cell? ⟨v,7,MH⟩=MI (MF ME c.conn):=by simp[World.cell?,p]
  have u8:wr.cell? ⟨v,8,MH⟩=MI (MF ME c.ret):=by simp[World.cell?,p]
  have d5:IntKind.i64.wrap (c.idle+x)=c.idle+x:=by rw[Ow];omega
  clear p
  by_cases hlt:(t:Int)<c.idle+x
  ·have HD:M6 _:=e.out.1.az7 (by rw[e.out.2.1];have:=o.out.2.2.2.1;omega) ⟨7,0,0,0,Nb,0,0,0⟩ anv
   go_wp2_with fail
   refine Nd HD.out ?_;rintro r w5 ⟨rfl,V5,h5,b3⟩;have HN:M6 _:=h5;have HF:M6 _:=b3;clear h5 b3 HD
   go_wp2_with fail
   go_roundw
   case rel =>
    refine⟨t+1,V5,_,rfl,by simp,by omega,HN.out,by rw[ajm,e.out.2.1];omega,?_,e.out.2.2.2.step HF.out⟩;have D:=e.out.1.rn.runs.now;have:=azv e.out.1.rn.runs.wm e.out.1.rn.runs.cfg (by rw[e.out.2.1]at D;have:=o.out.2.2.2.1;omega) e.out.2.2.1;rw[show c.idle+x-((t+1:Nat):Int)=c.idle+x-t-1 by omega];exact this
   case measure=>simp[intOf];omega
  ·have he:c.idle+x-(t:Int)=0:=by omega
   have N:=e.out.2.2.1;rw[he]at N;have U:=azr e.out.1.rn.runs.wm e.out.1.rn.runs.cfg N;have z:=e.out.1.rn.az0 rfl rfl;rw[U]at z;have z:azl (azM Q)=0:=z;have E:M6 (_/\_/\_):=⟨U,z,e.out.1.rn.good rfl⟩;have HO:M6 _:=azL e.out.1 (by rw[e.out.2.1];have:=o.out.2.2.2.1;omega);clear N U z
   go_wp2_with fail
   refine Nd HO.out ?_;rintro r w2 ⟨p2,q2,rfl,a2,c8⟩;obtain⟨m,I⟩:∃m,m=(azM Q).length:=⟨_,rfl⟩;have O:=azH _ (azM Q) w2 a2 E.out.2.2 (by rw[E.out.2.1];exact Qh _);rw[E.out.2.1,<-I]at O;rw[<-I];have HL:M6 _:=O;have HR:M6 _:=c8;clear a2 c8 O HO I
   go_wp2_with fail
   refine Nd HL.out ?_;rintro r w3 ⟨rfl,a8⟩;have C:=e.out.1.on (HR.out.trans (a8.mono HR.out.size));have d8:w3.cell? ⟨g,35,MH⟩=MI (MG F.u.pf 0 F.u.cf):=(C.pat.az6 35).trans (by show MI (MG F.u.pf Q.last.fls.length F.u.cf)=_;rw[E.out.1];rfl);have a3:=C.pat.lt;have HE:M6 _:=C.bel;clear C a8 HL;go_wp2;go_ret;exact⟨rfl,d0.out.trans (HE.out.mono d0.out.size)⟩
end Go.Proofs.YtmpokpecfclapaaGreatDoor.Q
