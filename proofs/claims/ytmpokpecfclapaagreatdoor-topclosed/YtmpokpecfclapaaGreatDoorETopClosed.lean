/-
  TopClosed: its walk. Conditions: as each theorem says.
-/
import Derived.Test.YtmpokpecfclapaaGreatDoorQ20
open Bool renaming false->Nb,false_ne_true->PE,or_eq_false_iff->azZ,true->Nw
open Decidable renaming decide->Nn
open Go renaming Calls->Ni,Value->M7,World->MO,all_oneCell_toArray->OE,bodyPost_ret->Np,cell_of_row->MW,heap_alloc_new->M1,maxLen->NE,wpList_load_mid->O3,wpList_store_mid->OW
open Go.Calls renaming mono->Nd
open Go.Ending renaming returned->MN
open Go.IntKind renaming i64->ME
open Go.Obj renaming cells->MP
open Go.Operand renaming tmp->O6
open Go.Proofs.Tryz renaming func28->WF,func42->az2,ntmps28->Ww,ntmps42->az0,prog->MK,underlying86->az1
open Go.RowKit renaming Below->MQ,Hid->M6
open Go.RowKit.Below renaming refl->MY
open Go.Value renaming agg->Ny,bool->M3,func->PB,int->MF,slice->MG,tuple->Nv
open List renaming ext_getElem->PX,filter_append->OY,flatten_cons->QS,getElem?_eq_getElem->MR,getElem_mem->Nk,getElem_set->Pc,length_append->Ns,length_set->NA,length_take->NH,map_append->OI,map_cons->OA,mem_cons_self->NM,replicate->Nj,take_length->NT,take_of_length_le->N1,take_succ_eq_append_getElem->M9
open Nat renaming le_refl->MV,le_trans->Nm,zero_le->Nx
open Option renaming none->MH,some->MI
open Or renaming inl->Nt,inr->NF
namespace Go.Proofs.YtmpokpecfclapaaGreatDoor.Q
set_option linter.unusedVariables false
set_option linter.unusedSimpArgs false
set_option maxHeartbeats 16000000
set_option maxRecDepth 100000
open Go.RowKit
attribute [local go_sem ↓] Go.wp_at_zero Go.wp_at_succ
variable {c:Cf}{l:List Ou}{w:MO}{g i:Nat}{V:Pv}{P:Py}
structure ay1(X Y:Gt):Prop where
 fls:Y.fls=X.fls
 tab:Y.tab=X.tab
 tok:Y.tok=X.tok
 cfg:Y.cfg=X.cfg
 out:Y.out=X.out
structure Mv(X Y:Gt)(F:List Fl)(T:List awY)(k:Int)(o:Ou):Prop where
 fls:Y.fls=F
 tab:Y.tab=T
 tok:Y.tok=k
 cfg:Y.cfg=X.cfg
 out:Y.out=X.out++[o]
abbrev ay2(f:Fl)(k y:Int):Prop:=(k=7/\y=0)\/(k=6/\((y=1/\f.srv=Nw)\/y=2\/(f.srv=Nb/\(y=3\/y=4\/y=5))))
structure azU(op:Prop)(R:Gt->Prop):Prop where
 same:∀X Y,ay1 X Y->R X->R Y
 no:∀X Y o,(o.kind=2\/o.kind=8\/o.kind=9\/o.kind=10)->o.why=0->Mv X Y X.fls X.tab X.tok o->R X->R Y
 ends:∀X Y f k y,Bs X->f∈X.fls->ay2 f k y->Mv X Y (X.fls.filter fun x=>x.slot != f.slot) (X.tab.set f.slot.toNat (f.gen+1,Nb,0,0)) X.tok ⟨k,f.slot,f.gen,f.be,0,0,y⟩->R X->R Y
 again:∀X Y i (hi:i<X.fls.length) b d,Bs X->X.fls[i].srv=Nb->X.fls[i].ret+1<=X.cfg.ret->X.cfg.bd<=X.tok->(0<=b/\b<12)->Mv X Y (X.fls.set i {X.fls[i]with be:=b,ret:=X.fls[i].ret+1,due:=d}) (X.tab.set X.fls[i].slot.toNat (X.fls[i].gen,Nw,X.fls[i].key,b)) (X.tok-X.cfg.bd) ⟨5,X.fls[i].slot,X.fls[i].gen,b,0,0,0⟩->R X->R Y
 serves:∀X Y i (hi:i<X.fls.length) d,Bs X->X.fls[i].srv=Nb->Mv X Y (X.fls.set i {X.fls[i]with srv:=Nw,due:=d}) X.tab X.tok ⟨4,X.fls[i].slot,X.fls[i].gen,X.fls[i].be,0,0,0⟩->R X->R Y
 forw:∀X Y i (hi:i<X.fls.length) d,Bs X->Mv X Y (X.fls.set i {X.fls[i]with due:=d}) X.tab X.tok ⟨3,X.fls[i].slot,X.fls[i].gen,X.fls[i].be,0,0,0⟩->R X->R Y
 opens:op->∀X Y (k:Nat) (hk:k<X.tab.length) key b d,Bs X->X.tab[k].2.1=Nb->(0<=X.tab[k].1/\X.tab[k].1<=1048575)->(0<=b/\b<12)->Mv X Y (Xi X.fls ⟨k,X.tab[k].1,key,b,Nb,0,d⟩ (Y3 X.fls k)) (X.tab.set k (X.tab[k].1,Nw,key,b)) (min (X.tok+X.cfg.bn) (X.cfg.bb*X.cfg.bd)) ⟨1,k,X.tab[k].1,b,0,0,0⟩->R X->R Y
section
variable {op:Prop}{R:Gt->Prop}{G:Gt}
theorem azU.drain(h:azU op R){X:Gt}(hR:R X)(b:Int):R (Yf X b):=by
 unfold Yf
 split
 ·exact h.no X _ _ (NF (NF (Nt rfl))) rfl ⟨rfl,rfl,rfl,rfl,rfl⟩ hR
 ·exact hR
theorem azU.Hc(h:azU op R){X:Gt}(hb:Bs X){f:Fl}(hf:f∈X.fls){k y:Int}(hy:ay2 f k y)(hR:R X):R (Yg X f k y):=by
 unfold Yg;refine h.drain ?_ _;exact h.ends X _ f k y hb hf hy ⟨hb.GL hf,congrArg Prod.fst (hb.Hj hf),rfl,rfl,rfl⟩ hR
theorem azU.I8(h:azU op R){X:Gt}(hb:Bs X)(hi:i<X.fls.length)(hs:X.fls[i].srv=Nb){y:Int}(hy:y=3\/y=5)(hR:R X):R (YP X i y):=by
 have a:=Nk hi;have k:=(hb.F9 a).2.2.2;rcases aeI hb hi y with⟨z,q,n⟩|⟨c,q,j,d,m,b,_⟩
 ·rw[q]
  refine azU.Hc h (X:=Yh X X.fls[i].be Nw) (hb.GA k Nw) a (NF ⟨rfl,NF (NF ⟨hs,by omega⟩)⟩) ?_;exact h.same X _ ⟨rfl,rfl,rfl,rfl,rfl⟩ hR
 ·obtain⟨T,e⟩:=ak0 (G:={Yh X X.fls[i].be Nw with tok:=X.tok-X.cfg.bd}) hi c
  rw[q,e];refine h.drain ?_ _;exact h.again X _ i hi c _ hb hs d j b ⟨rfl,congrArg Prod.fst (hb.Ho a b),rfl,rfl,rfl⟩ hR
theorem azU.Mm(h:azU op R)(hm:Wm G){e:Ev}(he:XZ e)(h7:e.kind=7->G.now+1<=1099511626776)(h1:e.kind=1->op)(hR:R G):R (Xb G e):=by
 have b:=hm.im.bs;have m:∀k,R (Yv G k e):=fun k=>h.no G _ _ (NF (Nt rfl)) rfl ⟨rfl,rfl,rfl,rfl,rfl⟩ hR
 unfold Xb
 split
 ·rename_i k1
  rcases afU b he.key with⟨q,_⟩|⟨q,_⟩|⟨k,p,_,_,o,_,z,u,_,q⟩ <;> rw[q]
  ·exact h.no G _ _ (Nt rfl) rfl ⟨rfl,rfl,rfl,rfl,rfl⟩ hR
  ·exact h.no G _ _ (Nt rfl) rfl ⟨rfl,rfl,rfl,rfl,rfl⟩ hR
  ·exact h.opens (h1 k1) G _ k p _ _ _ b z u o ⟨rfl,rfl,rfl,rfl,rfl⟩ hR
 ·split
  ·exact m 1
  ·split
   ·unfold abg
    split
    ·exact m 2
    ·split
     ·exact h.no (Yv G 2 e) _ _ (NF (NF (Nt rfl))) rfl ⟨rfl,rfl,rfl,rfl,rfl⟩ (m 2)
     ·exact h.drain (X:={Yv G 2 e with wts:=G.wts.set e.be.toNat 0}) (h.same (Yv G 2 e) _ ⟨rfl,rfl,rfl,rfl,rfl⟩ (m 2)) _
   ·split
    ·rename_i k7
     refine alk (R:=R) hm (h7 k7) ?_ (fun X f y hX hf d hR=>h.Hc hX.bs hf (NF ⟨rfl,by rcases d with d|d;exact Nt d;exact NF (Nt d)⟩) hR) (fun X i hX a j hR=>h.I8 hX.bs a j (NF rfl) hR);obtain⟨_,_,v,B,x,r,t,_⟩:=aeS (b.next (h7 k7));exact h.same G _ ⟨v,r,t,B,x⟩ hR
    ·rcases akr b e with⟨o,q⟩|⟨i,a,_,_,_,⟨_,q⟩|⟨_,q⟩|⟨_,_,⟨_,q⟩|⟨j,_,q⟩|⟨j,_,q⟩⟩⟩
     ·rw[q];exact h.no G _ _ (NF (NF (NF rfl))) rfl ⟨rfl,rfl,rfl,rfl,rfl⟩ hR
     ·rw[q];exact h.Hc b (Nk a) (Nt ⟨rfl,rfl⟩) hR
     ·obtain⟨T,n⟩:=aks a
      rw[q,n];refine h.forw G _ i a (if G.fls[i].srv then G.now+G.cfg.idle else G.fls[i].due) b ⟨?_,rfl,rfl,rfl,rfl⟩ hR;show G.fls.set i _=G.fls.set i _
      congr 1
      split <;> rfl
     ·rw[q];exact h.no G _ _ (NF (NF (NF rfl))) rfl ⟨rfl,rfl,rfl,rfl,rfl⟩ hR
     ·obtain⟨T,n⟩:=alb a
      rw[q,n];exact h.serves G _ i a _ b j ⟨rfl,rfl,rfl,rfl,rfl⟩ hR
     ·rw[q];exact h.I8 b a j (Nt rfl) hR
theorem Mv.pre{X Y:Gt}{F:List Fl}{T:List awY}{k:Int}{o:Ou}(h:Mv X Y F T k o)(L:List Ou):Mv {X with out:=L++X.out} {Y with out:=L++Y.out} F T k o :=
 ⟨h.fls,h.tab,h.tok,h.cfg,by show L++Y.out=L++X.out++[o];rw[h.out,List.append_assoc]⟩
theorem azU.pre(h:azU op R)(L:List Ou):azU op fun X=>R {X with out:=L++X.out}where
 same:=fun X Y hs hR=>h.same {X with out:=L++X.out} _ ⟨hs.fls,hs.tab,hs.tok,hs.cfg,by show L++Y.out=L++X.out;rw[hs.out]⟩ hR
 no:=fun X Y o ho hy hs hR=>h.no {X with out:=L++X.out} _ o ho hy (hs.pre L) hR
 ends:=fun X Y f k y hb hf hy hs hR=>h.ends {X with out:=L++X.out} _ f k y (hb.Jh _) hf hy (hs.pre L) hR
 again:=fun X Y i hi b d hb h1 h2 h3 h4 hs hR=>h.again {X with out:=L++X.out} _ i hi b d (hb.Jh _) h1 h2 h3 h4 (hs.pre L) hR
 serves:=fun X Y i hi d hb h1 hs hR=>h.serves {X with out:=L++X.out} _ i hi d (hb.Jh _) h1 (hs.pre L) hR
 forw:=fun X Y i hi d hb hs hR=>h.forw {X with out:=L++X.out} _ i hi d (hb.Jh _) (hs.pre L) hR
 opens:=fun ho X Y k hk key b d hb h1 h2 h3 hs hR=>h.opens ho {X with out:=L++X.out} _ k hk key b d (hb.Jh _) h1 h2 h3 (hs.pre L) hR
theorem Rn.flows{A:Gt}(h:Rn A c P)(hF:azU True R)(h0:R A)(hA:A.out=[]):R {P.last with out:=(P.steps.map (·.out)).flatten}:=by
 refine h.Mw (J:=fun P=>R {P.last with out:=(P.steps.map (·.out)).flatten}) ?_ fun Q e hQ he hl hJ=>?_
 ·exact hF.same A _ ⟨rfl,rfl,rfl,rfl,hA.symm⟩ h0
 ·have b:=hQ.runs.now
  have a:=(hF.pre ((Q.steps.map (·.out)).flatten)).Mm (G:=Q.last) hQ.runs.wm (aeH he) (fun _=>by omega) (fun _=>trivial) (by rw[hQ.runs.out,List.append_nil];exact hJ);refine hF.same {Xb Q.last e with out:=(Q.steps.map (·.out)).flatten++(Xb Q.last e).out} _ ⟨rfl,rfl,rfl,rfl,?_⟩ a;show((Q.steps++[(⟨e,Q.last,(Xb Q.last e).Ma,(Xb Q.last e).out⟩:Sp)]).map fun s=>s.out).flatten=(Q.steps.map fun s=>s.out).flatten++(Xb Q.last e).out;simp
end
def ay5(o:Ou):Bool:=Nn (o.kind<1) || decide (10<o.kind) || decide (o.why<0) || decide (5<o.why)
def ay3(l:List Ou):Bool:=l.any ay5
theorem ay6{o:Ou}(h:ay5 o=Nb):(1<=o.kind/\o.kind<=10)/\0<=o.why/\o.why<=5:=by
 unfold ay5 at h;simp only[azZ,decide_eq_false_iff_not]at h;omega
theorem ay4(h:ay3 l=Nb){o:Ou}(ho:o∈l):ay5 o=false:=by
 have:=List.any_eq_false.1 h o ho
 simpa using this
def aze(o:Ou)(j:Nat):Bool:=if j<11 then o.kind == (j:Int)else o.kind == 6 && o.why == ((j-11:Nat):Int)
def ay8(l:List Ou)(j:Nat):Nat:=l.countP fun o=>aze o j
def azf(l:List Ou):List Int:=(List.range 17).map fun j=>(ay8 l j:Int)
theorem azh(l:List Ou):(azf l).length=17:=by simp[azf]
theorem azi:azf []=Nj 17 0:=by simp[azf,ay8];rfl
theorem ay9(l:List Ou)(j:Nat):ay8 l j<=l.length:=List.countP_le_length
theorem azg(l:List Ou)(j:Nat)(hj:j<17):(azf l)[j]'(by rw[azh];exact hj)=(ay8 l j:Int):=by simp[azf]
theorem aza(l:List Ou)(o:Ou)(j:Nat):ay8 (l++[o]) j=ay8 l j+(if aze o j then 1 else 0):=by
 simp[ay8,List.countP_append,List.countP_cons]
theorem azj(l:List Ou)(o:Ou)(k:Nat)(hk:o.kind=(k:Int))(h11:k<11)(h6:¬o.kind=6):azf (l++[o])=(azf l).set k ((ay8 l k:Int)+1):=by
 apply PX
 ·simp[azh]
 ·intro j a b
  rw[azh]at a;rw[azg _ _ a,Pc,aza]
  by_cases e:k=j
  ·subst e
   simp[aze,h11,hk]
  ·rw[Nf e,azg _ _ a]
   have:aze o j=false:=by
    unfold aze
    split
    ·rw[hk]
     simp;omega
    ·simp[h6]
   simp[this]
theorem azk(l:List Ou)(o:Ou)(y:Nat)(hk:o.kind=6)(hy:o.why=(y:Int))(h6:y<6):azf (l++[o])=((azf l).set 6 ((ay8 l 6:Int)+1)).set (11+y) ((ay8 l (11+y):Int)+1):=by
 apply PX
 ·simp[azh]
 ·intro j a b
  rw[azh]at a;rw[azg _ _ a,Pc,Pc,aza]
  by_cases e:11+y=j
  ·subst e
   simp[aze,hk,hy]
  ·rw[Nf e]
   by_cases e6:6=j
   ·subst e6
    simp[aze,hk]
   ·rw[Nf e6,azg _ _ a]
    have:aze o j=false:=by
     unfold aze
     split
     ·rw[hk]
      simp;omega
     ·rw[hk,hy]
      simp;omega
    simp[this]
def azr(l:List Ou):List Int×Int:=if ay3 l then(Nj 17 0,5)else(azf l,0)
theorem azs(l:List Ou):(azr l).1.length=17:=by
 unfold azr
 split
 ·simp
 ·exact azh l
def azn(l:List Ou):Int:=(ay8 l 1:Int)-(ay8 l 6:Int)-(ay8 l 7:Int)
def azp(l:List Ou):Int×Int:=if ay3 l then(0,5)else if azn l<0 then(0,6)else(azn l,0)
section
variable {X:Gt}
theorem azm(h:Bs X){f:Fl}(hf:f∈X.fls):(X.fls.filter fun x=>x.slot != f.slot).length+1=X.fls.length:=by
 have a:=h.Ge;obtain⟨l,m,e⟩:=List.append_of_mem hf;rw[e]at a⊢;obtain⟨_,b,j⟩:=List.pairwise_append.1 a;obtain⟨d,_⟩:=List.pairwise_cons.1 b;rw[OY,List.filter_cons_of_neg (by simp),List.filter_eq_self.2 (fun x hx=>?_),List.filter_eq_self.2 (fun x hx=>?_)]
 ·simp;omega
 ·have:=d x hx;simp;omega
 ·have:=j x hx f (NM ..);simp;omega
theorem azo(l:List Ou)(o:Ou):azn (l++[o])=azn l+(if o.kind=1 then 1 else 0)-(if o.kind=6\/o.kind=7 then 1 else 0):=by
 unfold azn;rw[aza,aza,aza];have d:aze o 1=Nn (o.kind=1):=by unfold aze;rw[Nh (by decide)];rfl
 have a:aze o 6=Nn (o.kind=6):=by unfold aze;rw[Nh (by decide)];rfl
 have b:aze o 7=Nn (o.kind=7):=by unfold aze;rw[Nh (by decide)];rfl
 rw[d,a,b]
 by_cases h1:o.kind=1
 ·simp[h1];omega
 ·by_cases h6:o.kind=6
  ·simp[h6];omega
  ·by_cases h7:o.kind=7
   ·simp[h7];omega
   ·simp[h1,h6,h7]
theorem azd:azU True fun X=>ay3 X.out=false:=by
 have a:∀(X Y:Gt) (o:Ou),ay3 X.out=Nb->ay5 o=Nb->Y.out=X.out++[o]->ay3 Y.out=false:=fun X Y o h1 h2 h3=>by
  unfold ay3 at h1⊢;rw[h3,List.any_append,h1];simp[h2]
 refine⟨fun X Y hs hR=>by rw[hs.out];exact hR,fun X Y o ho hy hs hR=>a X Y _ hR ?_ hs.out,fun X Y f k y hb hf hy hs hR=>a X Y _ hR ?_ hs.out,fun X Y i hi b d hb h1 h2 h3 h4 hs hR=>a X Y _ hR rfl hs.out,fun X Y i hi d hb h1 hs hR=>a X Y _ hR rfl hs.out,fun X Y i hi d hb hs hR=>a X Y _ hR rfl hs.out,fun _ X Y k hk ky b d hb h1 h2 h3 hs hR=>a X Y _ hR rfl hs.out⟩
 ·unfold ay5
  simp only[azZ,decide_eq_false_iff_not];omega
 ·unfold ay5
  simp only[azZ,decide_eq_false_iff_not];omega
theorem azl(n:Int):azU True fun X=>(X.fls.length:Int)=n+azn X.out:=by
 refine⟨fun X Y hs hR=>by rw[hs.out,hs.fls];exact hR,fun X Y o ho hy hs hR=>?_,fun X Y f k y hb hf hy hs hR=>?_,fun X Y i hi b d hb h1 h2 h3 h4 hs hR=>?_,fun X Y i hi d hb h1 hs hR=>?_,fun X Y i hi d hb hs hR=>?_,fun _ X Y k hk ky b d hb h1 h2 h3 hs hR=>?_⟩ <;> rw[hs.out,hs.fls,azo]
 ·rw[Nf (by omega),Nf (by omega)];omega
 ·have:=azm hb hf
  show _=n+(azn X.out+(if k=1 then 1 else 0)-if k=6\/k=7 then 1 else 0);rw[Nf (by omega),Nh (by omega)];omega
 ·rw[NA];simpa using hR
 ·rw[NA];simpa using hR
 ·rw[NA];simpa using hR
 ·show _=n+(azn X.out+1-0)
  have:(Xi X.fls (⟨k,X.tab[k].1,ky,b,Nb,0,d⟩:Fl) (Y3 X.fls k)).length=X.fls.length+1:=ad1 _ _ (ad4 _ _);rw[this];omega
end
section
variable {A:Gt}{c:Cf}{P:Py}{s:Sp}
theorem Rn.good(h:Rn A c P)(hA:A.out=[]):ay3 (P.steps.map (·.out)).flatten=false:=h.flows azd (by rw[hA];rfl) hA
theorem Rn.azW(h:Rn A c P)(hA:A.out=[])(hf:A.fls=[]):azn (P.steps.map (·.out)).flatten=P.last.fls.length:=by
 have:=h.flows (azl 0) (by rw[hA,hf];rfl) hA;have e:(P.last.fls.length:Int)=0+azn (P.steps.map (·.out)).flatten:=this;omega
end
section
variable {G:Gt}{c:Cf}
variable {A:Gt}{P:Py}
theorem azq(hm:Wm G)(hf:G.fls=[])(b:Int):WY G.liv b≠3:=fun h3=>by
 obtain⟨a,d⟩:=adl (L:=G.liv) (b:=b) (by rw[h3];decide);have:=hm.im.drn _ a h3;rw[hf]at this;cases this
theorem azc:azU True fun X=>∀f∈X.fls,(f.slot,f.gen)∈Zi X.out:=by
 have e:∀(X Y:Gt) (o:Ou),(∀f∈X.fls,(f.slot,f.gen)∈Zi X.out)->Y.out=X.out++[o]->(∀f∈Y.fls,(∃k∈X.fls,f.slot=k.slot/\f.gen=k.gen)\/(o.kind=1/\o.slot=f.slot/\o.gen=f.gen))->∀f∈Y.fls,(f.slot,f.gen)∈Zi Y.out:=fun X Y o h1 h2 h3 f a=>by
  rw[h2];unfold Zi at h1⊢;rw[OY,OI,List.mem_append];rcases h3 f a with⟨k,p,n,m⟩|⟨q,n,m⟩
  ·rw[n,m];exact Nt (h1 k p)
  ·exact NF (List.mem_map.2 ⟨o,List.mem_filter.2 ⟨List.mem_singleton.2 rfl,by simpa using q⟩,by rw[n,m]⟩)
 have j:∀(X:Gt) (i:Nat) (hi:i<X.fls.length) (y:Fl),∀f∈X.fls.set i y,y.slot=X.fls[i].slot->y.gen=X.fls[i].gen->∃k∈X.fls,f.slot=k.slot/\f.gen=k.gen:=fun X i hi y f a h1 h2=>by
  rcases aac a with rfl|a
  ·exact⟨_,Nk hi,h1,h2⟩
  ·exact⟨f,a,rfl,rfl⟩
 refine⟨fun X Y hs hR=>by rw[hs.out,hs.fls];exact hR,fun X Y o ho hy hs hR=>e X Y _ hR hs.out fun f a=>Nt ⟨f,by rw[<-hs.fls];exact a,rfl,rfl⟩,fun X Y f k y hb a hy hs hR=>e X Y _ hR hs.out fun f a=>Nt ⟨f,by rw[hs.fls]at a;exact(List.mem_filter.1 a).1,rfl,rfl⟩,fun X Y i hi b d hb h1 h2 h3 h4 hs hR=>e X Y _ hR hs.out fun f a=>Nt (by rw[hs.fls]at a;exact j X i hi _ f a rfl rfl),fun X Y i hi d hb h1 hs hR=>e X Y _ hR hs.out fun f a=>Nt (by rw[hs.fls]at a;exact j X i hi _ f a rfl rfl),fun X Y i hi d hb hs hR=>e X Y _ hR hs.out fun f a=>Nt (by rw[hs.fls]at a;exact j X i hi _ f a rfl rfl),fun _ X Y k p ky b d hb h1 h2 h3 hs hR=>e X Y _ hR hs.out fun f a=>?_⟩;rw[hs.fls]at a;rcases abT.1 a with rfl|a
 ·exact NF ⟨rfl,rfl,rfl⟩
 ·exact Nt ⟨f,a,rfl,rfl⟩
theorem Rn.azV(h:Rn A c P)(hA:A.out=[])(hf:A.fls=[]):∀f∈P.last.fls,(f.slot,f.gen)∈P.giv:=by
 have d:=h.flows azc (fun f a=>by rw[hf]at a;cases a) hA;intro f a;have b:=d f a;rw[h.runs.giv];have e:∀l:List Sp,(l.map fun s=>Zi s.out).flatten=Zi (l.map (·.out)).flatten:=fun l=>by
  induction l with
  |nil=>rfl
  |cons s l ih =>
   rw[OA,OA,QS,QS,ih];unfold Zi;rw[OY,OI]
 rw[e];exact b
abbrev ay7(s g:Int):Ev:=⟨3,0,s,g,Nb,0,0,0⟩
theorem azt(hm:Wm G)(s g:Int):∀f∈(Xb G (ay7 s g)).fls,f∈G.fls/\¬(f.slot=s/\f.gen=g):=by
 have b:=hm.im.bs;have e:Xb G (ay7 s g)=aaq G (ay7 s g):=rfl;rw[e];intro f a;rcases akr b (ay7 s g)with⟨hc,q⟩|⟨i,hi,_,e1,e2,⟨_,q⟩|⟨h,_⟩|⟨h,_⟩⟩
 ·rw[q]at a
  have a:f∈G.fls:=a;refine⟨a,fun h=>hc ?_⟩;show(Yj G.tab s g).2=0;rw[<-h.1,<-h.2,b.IV a]
 ·rw[q]at a
  obtain⟨j,d⟩:=afL b (Nk hi) 7 0 f a;exact⟨j,fun h=>d (h.1.trans e1.symm)⟩
 ·exact absurd h (show ¬(3:Int)=2 by decide)
 ·exact absurd rfl h
def ay0(P:Py)(i:Nat):Prop:=∀f∈P.last.fls,(f.slot,f.gen)∈P.giv.drop i
theorem ay0.step(h:Rn A c P)(hi:i<P.giv.length)(hC:ay0 P i)(hl:P.steps.length<1000000):
  ay0 (P.step (ay7 P.giv[i].1 P.giv[i].2)) (i+1)/\(P.step (ay7 P.giv[i].1 P.giv[i].2)).giv=P.giv:=by
 have p:=h.runs.now;have n:=h.runs.Mx _ (Nk hi);have m:XZ (ay7 P.giv[i].1 P.giv[i].2):=aeH (by
  simp[Yk,Zz,Ev.GZ,Ev.num,Ev.GE,Ev.Gc,Ev.Gd,Ev.Hi];omega)
 have e:(P.step (ay7 P.giv[i].1 P.giv[i].2)).giv=P.giv:=by
  show P.giv++Zi (Xb P.last _).out=P.giv;rcases aqT h.runs.wm h.runs.out m (fun k=>absurd k (show ¬(3:Int)=7 by decide))with⟨_,k⟩|⟨_,k,_⟩
  ·unfold Zi
   rw[List.filter_eq_nil_iff.2 (fun o ho=>by simpa using k o ho)];simp
  ·exact absurd k (show ¬(3:Int)=1 by decide)
 refine⟨fun f hf=>?_,e⟩;rw[e];obtain⟨j,d⟩:=azt h.runs.wm _ _ f (show f∈(Xb P.last _).fls from hf);have b:=hC f j;rw[List.drop_eq_getElem_cons hi]at b;rcases List.mem_cons.1 b with a|a
 ·exact absurd ⟨congrArg Prod.fst a,congrArg Prod.snd a⟩ d
 ·exact a
theorem ay0.Jl(h:ay0 P i)(hi:P.giv.length<=i):P.last.fls=[]:=by
 cases e:P.last.fls with
 |nil=>rfl
 |cons f l =>
  have:=h f (by rw[e];exact NM ..);rw[List.drop_eq_nil_of_le hi]at this;cases this
end
section
variable {G:Gt}
theorem azb(h:Im G):(acG G).out.length<=G.out.length+960:=by
 have a:=(akI G.liv G G.liv.length h (MV _)).2.2;rw[NT]at a;have b:G.liv.length<=12:=h.bs.book.1.1;show(G.liv.foldl Zd G).out.length<=_;omega
theorem azv(h:Wm G)(hn:G.now+1<=1099511626776):(abj G).out.length<=G.out.length+1040:=by
 have e:=h.im.next hn;obtain⟨n,m,q,v,p,_⟩:=aeS e.bs;have k:=e.Jf;have d:=k.I2;have j:(aaC (YH {G with now:=G.now+1})).now=G.now+1:=n;have b:(aaC (YH {G with now:=G.now+1})).wnow=G.now:=m.trans h.wnow;obtain⟨o,_⟩:=d.Je (by rw[b,j]) (fun f a=>by
  have a:f∈(YH {G with now:=G.now+1}).fls:=a;rw[q]at a;rw[b];exact h.due f a)
 have t:=azb o;have r:=ao7 d.bs;have u:(aaC (YH {G with now:=G.now+1})).out.length=G.out.length:=congrArg List.length p;show(acG _).out.length<=_;omega
theorem azu(hm:Wm G)(e:Ev)(h7:e.kind=7->G.now+1<=1099511626776):(Xb G e).out.length<=G.out.length+1040:=by
 unfold Xb
 split
 ·unfold aaI
  split
  ·simp[acm,ZM]
  ·simp only[]
   split
   ·simp[acm,ZM]
   ·simp[abv,abi,ZM,YW]
 ·split
  ·simp[Yv,ZM]
  ·split
   ·unfold abg
    split
    ·simp[Yv,ZM]
    ·split
     ·simp[aeQ,Yv,ZM]
     ·refine Nm (aki _) ?_
      simp[Yv,ZM]
   ·split
    ·rename_i h
     exact azv hm (h7 h)
    ·unfold aaq
     simp only[]
     split
     ·simp[acm,ZM]
     ·split
      ·exact Nm (afK _ _ _) (by omega)
      ·split
       ·unfold aaZ
        simp only[]
        split <;> simp[abi,ZM,YW,Y4]
       ·split
        ·simp[acm,ZM]
        ·split
         ·simp[abh,abi,ZM,YW,Y4,Yh]
         ·exact Nm (aoZ _ _) (by omega)
theorem aaB.azX{s:Sp}(h:aaB c s):s.out.length<=1040:=by
 rw[h.out];have:=azu h.wm s.ev h.late;rw[h.out0]at this
 simpa using this
end
theorem WU.Gm{base:Nat}(h:WU base w g V c P):w.cell? ⟨g,16,MH⟩=MI (MG V.ps P.steps.length V.cs):=by
 rw[MW w g 16 _ _ (0,0) h.box,h.steps];rfl
structure azx(W:MO)(ps:Option Addr)(k:Nat)(q:Sq)(b o:Nat):Prop where
 at_:ps=MI ⟨b,o,MH⟩
 cells:W.rangeAt b (o+k*61) (abK q)
 rd:aje W q
theorem XQ.step{W:MO}(h:XQ w W g V c P){k:Nat}(hk:k<P.steps.length):∃q b o,azx W V.ps k q b o/\P.steps[k]?=MI q.s/\aaB c q.s:=by
 have y:=h.pat.steps;have m:k<V.qs.length:=by omega
 have n:Xw abK W (MG V.ps V.qs.length V.cs) V.qs:=abw h.pat.rows;obtain⟨a,x,d,_,_,r⟩:=Xw.F6 avt n;injection d with q1 _ _;obtain⟨b,o,u,z,p⟩:=r k m;have e:P.steps[k]?=MI V.qs[k].s:=by rw[<-h.pat.eqs,List.getElem?_map,MR m];rfl
 refine⟨V.qs[k],b,o,⟨q1.trans u,fun j v d=>?_,(h.pat.all _ (Nk m)).now⟩,e,h.rn.runs.chain _ (List.mem_of_getElem? e)⟩;have t:j<61:=(List.getElem?_eq_some_iff.1 d).1;rw[p j t];exact d
theorem azN(f:Nat->Int)(hf:∀i,i<16->(Lit.int ME (f i)).wf=Nw)(ds:List Dd)(hds:∀d∈ds,ajd d){pd:Option Addr}{cd:Nat}(hrow:Xw agP w (MG pd ds.length cd) ds)(hblk:Xo w)(most:Nat)(hm:most<=100):
  ∃L:List M7,L.length=16/\agc (f 0) (f 1) (f 2) (f 3) (f 4) (f 5) (f 6) (f 7) (f 8) (f 9) (f 10) (f 11) (f 12) (f 13) (f 14) (f 15)=Ny L.toArray/\∀W,MQ w.heap.size w W->Ni MK 13 #[Ny L.toArray,MG pd ds.length cd,MF ME (most:Int)] W (au0 f most W):=
 ⟨[MF ME (f 0),MF ME (f 1),MF ME (f 2),MF ME (f 3),MF ME (f 4),MF ME (f 5),MF ME (f 6),MF ME (f 7),MF ME (f 8),MF ME (f 9),MF ME (f 10),MF ME (f 11),MF ME (f 12),MF ME (f 13),MF ME (f 14),MF ME (f 15)],rfl,rfl,fun W hB=>awU f hf ds hds W (hrow.below hB) (hblk.below hB) most hm⟩
theorem WU.azY{base:Nat}(h:WU base w g V c P)(j:Nat):w.cell? ⟨g,j,MH⟩=(adM V c P)[j]?:=by
 rw[MW w g j _ _ (0,0) h.box];simp
theorem azO{L:List awV}{b:Int}{k:Nat}(hk:k<L.length)(h:∀t∈L.take k,t.1≠b)(e:L[k].1=b):WY L b=L[k].2.1:=by
 unfold WY WS;have:L.find? (fun x=>x.1 == b)=MI L[k]:=by
  rw[List.find?_eq_some_iff_getElem];refine⟨by simpa using e,k,hk,rfl,fun j hj=>?_⟩;have:=h L[j] (List.mem_iff_getElem.2 ⟨j,by simp;omega,by simp⟩)
  simpa using this
 rw[this];rfl
theorem azP{L:List awV}{b:Int}(h:∀t∈L,t.1≠b):WY L b=0:=by
 show(WS L b).2.1=0;rw[ahv h]
theorem azQ{W:MO}{M:List M7}{U:Us}{G:Gt}(hM:M=(XR U G).toList)(h:Xd W U G)(b:Int):Ni MK 23 #[Ny M.toArray,MF ME b] W fun r w'=>r=MN (MF ME (WY G.liv b))/\MQ W.heap.size W w':=by
 obtain⟨Y,p⟩:∃Y,Y=W.alloc (MP M.toArray 58):=⟨_,rfl⟩;have u:MQ W.heap.size W Y:=by rw[p];exact WQ W
 have E:Y.heap[W.heap.size]?=MI (MP M.toArray 58 (0,0)):=by rw[p];exact M1 _ _
 have F:Y.cell? ⟨W.heap.size,19,MH⟩=MI (MG U.pl G.liv.length U.cl):=by rw[MW Y _ 19 _ _ (0,0) E,hM];rfl
 obtain⟨a,a0,S,O,D,J⟩:=adt.F6 (h.book.1.below u);injection S with q1 q2 q3;obtain⟨m,o⟩:∃m,m=G.liv.length:=⟨_,rfl⟩;rw[<-o]at F;have a2:m<=9223372036854775807:=by rw[o];unfold NE at D;omega
 obtain⟨s,C⟩:∃s,s=WY G.liv b:=⟨_,rfl⟩;rw[<-C];have j:M6 (_/\_/\_/\_/\_):=⟨J,q1,o,u,C⟩;clear E J q1 q2 q3 o D O h hM u C;go_enter Tryz.func23,Tryz.ntmps23;go_wp2;rw[<-p];clear p
 go_loopw [5] (fun i wr=>∃k:Nat,i=MF ME (k:Int)/\k<=m/\M6 (∀t∈G.liv.take k,t.1≠b)/\wr=Y) (fun i _=>m-(intOf i).toNat)
 case atStart=>exact⟨0,rfl,Nx _,(fun t d=>absurd d (by simp)),rfl⟩
 case round =>
  obtain⟨k,rfl,hk,y,rfl⟩:=hrel
  by_cases hlt:k<m
  ·have Q:(k:Int)<(m:Int):=by omega
   have n:k<G.liv.length:=by rw[<-j.out.2.2.1];exact hlt
   obtain⟨K,oo,I,hb,B⟩:=j.out.1 k n;have Z:wr.cell? ⟨K,oo+k*6,MH⟩=MI (MF ME G.liv[k].1):=B.1;have T:wr.cell? ⟨K,oo+k*6+1,MH⟩=MI (MF ME G.liv[k].2.1):=B.2.1;have q:G.liv.take (k+1)=G.liv.take k++[G.liv[k]]:=M9 n;have v:=fun e=>azO n y.out e
   obtain⟨x,H⟩:∃x,x=G.liv[k]:=⟨_,rfl⟩;rw[<-H]at Z T q v;rw[j.out.2.1,I]at F;have L:M6 (_/\_):=⟨q,v⟩;clear B hb I n H q v
   by_cases hq:x.1=b
   ·have N:(x.1 == b)=true:=by simp[hq]
    have z:M6 (s=x.2.1):=j.out.2.2.2.2.trans (L.out.2 hq);clear hq;go_wp2;go_ret;exact⟨by rw[z.out];rfl,j.out.2.2.2.1⟩
   ·have N:(x.1 == b)=false:=by simp[hq]
    go_wp2
    go_roundw
    case rel =>
     refine⟨k+1,by simp,hlt,?_,trivial⟩;intro t d;rw[L.out.1]at d;rcases List.mem_append.1 d with d|d
     ·exact y.out t d
     ·rw[List.mem_singleton.1 d];exact hq
    case measure=>simp[intOf];omega
  ·obtain rfl:k=m:=by omega
   have Q:¬(k:Int)<(k:Int):=by omega
   have z:M6 (s=0):=j.out.2.2.2.2.trans (azP fun t d=>y.out t (by rw[j.out.2.2.1,NT];exact d));go_wp2;go_ret;exact⟨by rw[z.out];rfl,j.out.2.2.2.1⟩
def azJ(P:Py):List Ou:=(P.steps.map (·.out)).flatten
def azK(P:Py)(k:Nat):List Ou:=((P.steps.take k).map (·.out)).flatten
theorem azM{k:Nat}{s:Sp}(h:P.steps[k]?=MI s):azK P (k+1)=azK P k++s.out:=by
 obtain⟨a,e⟩:=List.getElem?_eq_some_iff.1 h;unfold azK;rw[M9 a,OI,List.flatten_append,e];simp
theorem azL{c:Cf}{P:Py}(h:∀s∈P.steps,aaB c s):∀k:Nat,(azK P k).length<=1040*k
 |0=>Nx _
 |k+1=>by
  have a:=azL h k
  by_cases hk:k<P.steps.length
  ·rw[azM (MR hk),Ns]
   have b:=(h _ (Nk hk)).azX;omega
  ·have:azK P (k+1)=azK P k:=by unfold azK;rw[N1 (by omega),N1 (by omega)]
   rw[this];omega
theorem azI{W:MO}(h:XQ w W g V c P)(hl:P.steps.length<=1000):
  Ni MK 18 #[gP g] W fun r w'=>∃p q,r=MN (MG p (azJ P).length q)/\Xw Z1 w' (MG p (azJ P).length q) (azJ P)/\MQ W.heap.size W w':=by
 obtain⟨n,N⟩:∃n,n=P.steps.length:=⟨_,rfl⟩;have d:M6 (_/\_/\_):=⟨h,N,(show n<=1000 by omega)⟩;have a3:n<=9223372036854775807:=by omega
 clear h hl N;go_enter Tryz.func18,Tryz.ntmps18;go_wp2
 go_loopw [3,4] (fun s i wr=>∃(k q:Nat) (p:Option Addr) (j:Nat),s=MG p q j/\i=MF ME (k:Int)/\k<=n/\M6 (q=(azK P k).length/\wr.ownsRow W.heap.size 67 7 (MG p q j) q (rv Z1 (azK P k))/\MQ W.heap.size W wr)) (fun _ i _=>n-(intOf i).toNat)
 case atStart=>exact⟨0,0,MH,0,rfl,rfl,Nx _,rfl,⟨rfl,Nt ⟨rfl,rfl⟩⟩,MY _ _⟩
 case round =>
  obtain⟨k,q,p,j,rfl,rfl,hk,a⟩:=hrel;have m:=d.out.1.on a.out.2.2;have S:wr.cell? ⟨g,16,MH⟩=MI (MG V.ps n V.cs):=by rw[d.out.2.1];exact m.pat.Gm
  have a0:=m.pat.lt
  by_cases hlt:k<n
  ·have U:(k:Int)<(n:Int):=by omega
   obtain⟨x,b,o,hx,C,T⟩:=m.step (k:=k) (by rw[<-d.out.2.1];exact hlt);have H:wr.cell? ⟨b,o+k*61+60,MH⟩=MI (MG x.po x.s.out.length x.co):=hx.cells 60 _ rfl;have Z:b<wr.heap.size:=World.block_lt_of_cell? wr ⟨b,_,MH⟩ H;have y:(azK P (k+1)).length=q+x.s.out.length:=by rw[azM C,Ns,<-a.out.1]
   have I:=azL d.out.1.rn.runs.chain (k+1);rw[y]at I;have a2:k+1<=1000:=by have:=d.out.2.2;omega
   obtain⟨Q,M,Y,D,u,L⟩:=ajY akV aqd (by decide) Tryz.underlying62 apw rfl a.out.2.1 a.out.2.2.size 62 _ x.s.out hx.rd.2.2 (by omega) (by unfold NE;omega);rw[<-azM C]at u;obtain⟨t,J⟩:∃t,t=x.s.out.length:=⟨_,rfl⟩;rw[<-J]at D u y H;rw[hx.at_]at S;have B:M6 (_/\_/\_/\_):=⟨D,u,a.out.2.2.trans L,y⟩;clear y J D u L hx C T m I
   go_wp2_with (at_builtin;(with_reducible refine Z4 rfl _ _ 62 rfl (MG p q j) (MG x.po t x.co) (MG Q (q+t) M) Y ?hs ?hx ?hr ?_);(case hs=>rfl);(case hx=>rfl);(case hr=>exact B.out.1))
   go_wp2
   go_roundw
   case rel=>exact⟨k+1,q+t,Q,M,rfl,by simp,hlt,B.out.2.2.2.symm,B.out.2.1,B.out.2.2.1⟩
   case measure=>simp[intOf];omega
  ·obtain rfl:k=n:=by omega
   have U:¬(k:Int)<(k:Int):=by omega
   have z:=a.out.1;have F:=a.out.2.1;have O:azK P k=azJ P:=by unfold azK azJ;rw[d.out.2.1,NT]
   rw[O]at z F;have K:=abw (c:=Z1) (l:=azJ P) (k:=7) (v:=MG p q j) (w:=wr) (base:=W.heap.size) (e:=67) (by rw[<-z];exact F);have E:M6 (_/\_):=⟨K,z⟩;clear z F O K m;go_wp2;go_ret;exact⟨p,j,by rw[<-E.out.2];rfl,by rw[<-E.out.2];exact E.out.1,a.out.2.2⟩
abbrev azH(o:Ou):Value:=Ny #[MF ME o.kind,MF ME o.slot,MF ME o.gen,MF ME o.be,MF ME o.req,MF ME o.code,MF ME o.why]
abbrev azw(w:MO)(v:M7)(l:List Ou):Prop:=Xw Z1 w v l
theorem azw.F6{v:M7}(h:azw w v l):
  ∃a cap,v=MG a l.length cap/\l.length<=cap/\cap<=NE/\∀i (hi:i<l.length),∃b off,a=MI ⟨b,off,MH⟩/\b<w.heap.size/\w.cell? ⟨b,off+i*7,MH⟩=MI (MF ME l[i].kind)/\w.cell? ⟨b,off+i*7+1,MH⟩=MI (MF ME l[i].slot)/\w.cell? ⟨b,off+i*7+2,MH⟩=MI (MF ME l[i].gen)/\w.cell? ⟨b,off+i*7+3,MH⟩=MI (MF ME l[i].be)/\w.cell? ⟨b,off+i*7+4,MH⟩=MI (MF ME l[i].req)/\w.cell? ⟨b,off+i*7+5,MH⟩=MI (MF ME l[i].code)/\w.cell? ⟨b,off+i*7+6,MH⟩=MI (MF ME l[i].why):=by
 obtain⟨a,cap,o,e,n,m⟩:=Xw.F6 akV h;refine⟨a,cap,o,e,n,fun i hi=>?_⟩;obtain⟨b,off,k,j,d⟩:=m i hi;exact⟨b,off,k,j,(d 0 (by omega)).trans rfl,(d 1 (by omega)).trans rfl,(d 2 (by omega)).trans rfl,(d 3 (by omega)).trans rfl,(d 4 (by omega)).trans rfl,(d 5 (by omega)).trans rfl,(d 6 (by omega)).trans rfl⟩
theorem azR{α:Type}{l:List α}{k:Nat}(h:k<l.length){x:α}(hx:x=l[k]):l.take (k+1)=l.take k++[x]:=by
 rw[M9 h,hx]
theorem azA(f:Ou)(w:MO) :
  Ni MK 42 #[azH f] w fun r w'=>r=MN (M3 (ay5 f))/\MQ w.heap.size w w':=by
 have a:ay5 f=(Nn (f.kind<1) || decide (10<f.kind) || decide (f.why<0) || decide (5<f.why)):=rfl;rw[a];clear a;cases t0:Nn (f.kind<1)
 ·cases t1:Nn (10<f.kind)
  ·cases t2:Nn (f.why<0)
   ·cases t3:Nn (5<f.why)
    ·go_enter az2,az0
     go_wp2;go_ret;exact⟨by rfl,WQ w⟩
    ·go_enter az2,az0
     go_wp2;go_ret;exact⟨by rfl,WQ w⟩
   ·go_enter az2,az0
    go_wp2;go_ret;exact⟨by rfl,WQ w⟩
  ·go_enter az2,az0
   go_wp2;go_ret;exact⟨by rfl,WQ w⟩
 ·go_enter az2,az0
  go_wp2;go_ret;exact⟨by rfl,WQ w⟩
theorem azC(v:M7)(l:List Ou)(w:MO)(hv:azw w v l) :
  Ni MK 62 #[v,PB (Fn.func 42) #[] #[]] w fun r w'=>r=MN (MF ME (X6 (l.findIdx (ay5)) l.length))/\MQ w.heap.size w w':=by
 obtain⟨q,D⟩:∃q:Ou->Bool,q=(ay5):=⟨_,rfl⟩;obtain⟨a,ca,rfl,a0,M,J⟩:=azw.F6 hv;unfold NE at M;have K:M6 (∀(x:Ou) (W:MO),MQ w.heap.size w W->Ni MK 42 #[azH x] W fun r w'=>r=MN (M3 (q x))/\MQ W.heap.size W w'):=by
  rw[D];exact fun x W hb=>azA x W
 rw[<-D];obtain⟨o,B⟩:∃o,o=X6 (l.findIdx q) l.length:=⟨_,rfl⟩;rw[<-B];have H:M6 _:=B;clear hv B D;go_enter Tryz.func62,Tryz.ntmps62;go_wp2
 go_loopw [8] (fun i wr=>∃k:Nat,i=MF ME k/\k<=l.length/\(∀t∈l.take k,q t=Nb)/\MQ w.heap.size w wr) (fun i _=>l.length-(intOf i).toNat)
 case atStart=>exact⟨0,rfl,Nx _,by simp,MY _ _⟩
 case round =>
  obtain⟨k,rfl,hk,u,b⟩:=hrel
  by_cases hlt:k<l.length
  ·obtain⟨j,n,rfl,e,c1,c2,c3,c4,c5,c6,c7⟩:=J k hlt
   have O:=(b.cell (p:=⟨j,n+k*7,MH⟩) e).trans c1;have N:=(b.cell (p:=⟨j,n+k*7+1,MH⟩) e).trans c2;have T:=(b.cell (p:=⟨j,n+k*7+2,MH⟩) e).trans c3;have Y:=(b.cell (p:=⟨j,n+k*7+3,MH⟩) e).trans c4;have Q:=(b.cell (p:=⟨j,n+k*7+4,MH⟩) e).trans c5;have Z:=(b.cell (p:=⟨j,n+k*7+5,MH⟩) e).trans c6;have S:=(b.cell (p:=⟨j,n+k*7+6,MH⟩) e).trans c7;have m:M6 (_/\_):=⟨u,b⟩;have a2:(k:Int)<(l.length:Int):=by omega
   have C:l.take (k+1)=l.take k++[l[k]]:=M9 hlt;have E:q l[k]=Nw->l.findIdx q=k:=fun h=>abZ hlt u h
   have z:∃x,x=l[k]:=⟨_,rfl⟩;obtain⟨x,z⟩:=z;rw[<-z]at O N T Y Q Z S C E;have L:M6 (_/\_):=⟨C,E⟩;clear u b c1 c2 c3 c4 c5 c6 c7 e J C E z;cases hd:q x
   ·go_wp2_with fail
    refine(K.out x _ m.out.2).mono ?_;rw[hd];rintro r w2 ⟨rfl,y⟩;have I:M6 _:=y;clear y;go_wp2
    go_roundw
    case rel =>
     refine⟨k+1,by simp,hlt,fun t d=>?_,m.out.2.trans (I.out.mono m.out.2.size)⟩;rw[L.out.1]at d;rcases List.mem_append.1 d with d|d
     ·exact m.out.1 t d
     ·simp at d
      rw[d];exact hd
    case measure=>simp[intOf];omega
   ·go_wp2_with fail
    refine(K.out x _ m.out.2).mono ?_;rw[hd];rintro r w2 ⟨rfl,y⟩;have F:M6 (o=(k:Int)):=by show o=_;rw[H.out,L.out.2 hd];exact Nh hlt
    have I:M6 _:=y;clear y;go_wp2;go_ret;exact⟨by rw[F.out];rfl,m.out.2.trans (I.out.mono m.out.2.size)⟩
  ·have F:M6 (o = -1):=by
    show o=_;rw[H.out,acp fun t d=>u t (by rw[N1 (by omega)];exact d)];exact Nf (Nat.lt_irrefl _)
   have U:M6 _:=b;clear u b J;go_wp2;go_ret;exact⟨by rw[F.out];rfl,U.out⟩
theorem azB(v:M7)(l:List Ou)(w:MO)(hv:azw w v l) :
  Ni MK 43 #[v,PB (Fn.func 42) #[] #[]] w fun r w'=>r=MN (M3 (l.any (ay5)))/\MQ w.heap.size w w':=by
 rw[<-ahq];have b:M6 _:=azC v l w hv;obtain⟨d,a⟩:∃d,d=X6 (l.findIdx (ay5)) l.length:=⟨_,rfl⟩;rw[<-a]at b⊢;clear a hv;go_enter Tryz.func43,Tryz.ntmps43
 go_wp2_with fail
 refine Nd b.out ?_;rintro r k ⟨rfl,e⟩;have j:M6 _:=e;clear e;go_wp2;go_ret;exact⟨rfl,j.out⟩
theorem azz(v:M7)(l:List Ou)(w:MO)(hv:azw w v l) :
  Ni MK 28 #[v] w fun r w'=>r=MN (MF ME (if ay3 l then 5 else 0))/\MQ w.heap.size w w':=by
 have a:M6 _:=azB v l w hv;have e:l.any ay5=ay3 l:=rfl;rw[e]at a;clear e hv;cases h:ay3 l
 ·rw[h]at a
  go_enter WF,Ww
  go_wp2_with fail
  refine Nd a.out ?_;rintro r j ⟨rfl,b⟩;have d:M6 _:=b;clear b;go_wp2;go_ret;exact⟨rfl,d.out⟩
 ·rw[h]at a
  go_enter WF,Ww
  go_wp2_with fail
  refine Nd a.out ?_;rintro r j ⟨rfl,b⟩;have d:M6 _:=b;clear b;go_wp2;go_ret;exact⟨rfl,d.out⟩
theorem azT:(#[MF ME 0,MF ME 0,MF ME 0,MF ME 0,MF ME 0,MF ME 0,MF ME 0,MF ME 0,MF ME 0,MF ME 0,MF ME 0,MF ME 0,MF ME 0,MF ME 0,MF ME 0,MF ME 0,MF ME 0]:Array M7)=(WR (Nj 17 0)).toArray:=rfl
theorem azD:(Tryz.prog.info? 86).map (·.size)=MI 17:=by kernel_rfl
theorem azG(v:M7)(l:List Ou)(w:MO)(hv:azw w v l) :
  Ni MK 21 #[v] w fun r w'=>r=MN (Nv #[Ny (WR (azr l).1).toArray,MF ME (azr l).2])/\MQ w.heap.size w w':=by
 obtain⟨p,c,rfl,hc,hm,pv⟩:=azw.F6 hv;unfold NE at hm;obtain⟨W0,T⟩:∃W0,W0=w.alloc (MP (WR (Nj 17 0)).toArray 86):=⟨_,rfl⟩;have b5:MQ w.heap.size w W0:=by rw[T];exact WQ w
 have b2:Xj 86 17 W0 w.heap.size (Nj 17 0):=by rw[T];exact⟨M1 _ _,by simp⟩
 have E:M6 (_/\_/\_/\_/\_):=⟨hv,pv,b5,b2,T⟩;clear hv pv b5 b2 T;have J:=OE (ac1 (Nj 17 0));have HO:M6 _:=J;clear J;go_enter Tryz.func21,Tryz.ntmps21
 go_wp2_with fail
 rw[azT,<-E.out.2.2.2.2];refine(azz _ l _ (E.out.1.below E.out.2.2.1)).mono ?_;rintro r j ⟨rfl,S⟩;have o:=E.out.2.2.2.1.below S;have K:=E.out.2.2.1.trans (S.mono E.out.2.2.1.size);cases hbad:ay3 l
 ·rw[Nf PE]
  have I:azr l=(azf l,0):=by unfold azr;rw[hbad];rfl
  have D:M6 (_/\_/\_/\_):=⟨o,K,hbad,I⟩;have d6:=o.lt;clear o K S hbad I;go_wp2;rw[azT];obtain⟨Z,Y⟩:∃Z,Z=j.alloc (MP (WR (Nj 17 0)).toArray 86):=⟨_,rfl⟩;rw[<-Y];have b3:MQ j.heap.size j Z:=by rw[Y];exact WQ j
  have b9:Xj 86 17 Z j.heap.size (azf (l.take 0)):=by rw[Y,List.take_zero,azi];exact⟨M1 _ _,by simp⟩
  have H2:M6 (_/\_):=⟨b3,b9⟩;clear b3 b9 Y
  go_loopw [16] (fun i wr=>∃k:Nat,i=MF ME k/\k<=l.length/\MQ j.heap.size j wr/\Xj 86 17 wr j.heap.size (azf (l.take k))) (fun i _=>l.length-(intOf i).toNat)
  case atStart=>exact⟨0,rfl,Nx _,H2.out.1,H2.out.2⟩
  case round =>
   obtain⟨k,rfl,hk,B,n⟩:=hrel
   by_cases hlt:k<l.length
   ·obtain⟨F,off,rfl,q,c1,c2,c3,c4,c5,c6,c7⟩:=E.out.2.1 k hlt
    have t:=D.out.2.1.trans (B.mono D.out.2.1.size);have e1:=(t.cell (p:=⟨F,off+k*7,MH⟩) q).trans c1;have e2:=(t.cell (p:=⟨F,off+k*7+1,MH⟩) q).trans c2;have e3:=(t.cell (p:=⟨F,off+k*7+2,MH⟩) q).trans c3;have e4:=(t.cell (p:=⟨F,off+k*7+3,MH⟩) q).trans c4;have e5:=(t.cell (p:=⟨F,off+k*7+4,MH⟩) q).trans c5;have e6:=(t.cell (p:=⟨F,off+k*7+5,MH⟩) q).trans c6;have e7:=(t.cell (p:=⟨F,off+k*7+6,MH⟩) q).trans c7;have U:=ay6 (ay4 D.out.2.2.1 (Nk hlt));obtain⟨⟨kd,sl,gn,be,rq,cd,wy⟩,hx⟩:∃x,x=l[k]:=⟨_,rfl⟩;have Q:=azR hlt hx;rw[<-hx]at e1 e2 e3 e4 e5 e6 e7 U
    dsimp only at e1 e2 e3 e4 e5 e6 e7 U
    obtain⟨m,rfl⟩:=Int.eq_ofNat_of_zero_le (a:=kd) (by omega);obtain⟨y,rfl⟩:=Int.eq_ofNat_of_zero_le (a:=wy) (by omega);have c0:m<11:=by omega
    have e9:(m:Int)<11:=by omega
    have c9:y<6:=by omega
    have e8:(y:Int)<6:=by omega
    have d3:(k:Int)<(l.length:Int):=by omega
    have d9:=n.lt;have d8:¬j.heap.size=wr.heap.size:=by omega
    have d4:¬wr.heap.size=j.heap.size:=by omega
    by_cases h6:m=6
    ·subst h6
     have N:=n.F7 6 (by rw[azh];omega);rw[azg _ 6 (by omega)]at N;have d0:=n.Gu 6;have a9:=n.F7 (11+y) (by rw[azh];omega);rw[azg _ (11+y) (by omega)]at a9;have d1:=n.Gu (11+y);have a3:ay8 (l.take k) 6<=k:=Nm (ay9 _ _) (by rw[NH];omega);have c8:ay8 (l.take k) (11+y)<=k:=Nm (ay9 _ _) (by rw[NH];omega);have d:=azk (l.take k) ⟨((6:Nat):Int),sl,gn,be,rq,cd,(y:Int)⟩ y rfl rfl c9;rw[<-Q]at d;obtain⟨O,M⟩:∃O,O=ay8 (l.take k) 6:=⟨_,rfl⟩;obtain⟨n2,b8⟩:∃n2,n2=ay8 (l.take k) (11+y):=⟨_,rfl⟩;rw[<-M]at N a3 d;rw[<-b8]at a9 c8 d;have d5:¬11+y=6:=by omega
     have d2:¬6=11+y:=by omega
     have z:M6 (_/\_/\_):=⟨B,n,d⟩;clear B n d M b8 Q hx t c1 c2 c3 c4 c5 c6 c7 q U;go_wp2
     go_roundw
     case rel =>
      refine⟨k+1,by simp,hlt,?_,?_⟩
      ·exact((z.out.1.setCell (p:=⟨j.heap.size,6,MH⟩) (MV _) _).setCell (p:=⟨j.heap.size,11+y,MH⟩) (MV _) _).alloc (by simp;exact z.out.1.size) _
      ·rw[z.out.2.2]
       exact((z.out.2.1.F4 6 _).F4 (11+y) _).below (WQ _)
     case measure=>simp[intOf];omega
    ·have N:=n.F7 m (by rw[azh];omega)
     rw[azg _ m (by omega)]at N;have d0:=n.Gu m;have a3:ay8 (l.take k) m<=k:=Nm (ay9 _ _) (by rw[NH];omega);have d:=azj (l.take k) ⟨(m:Int),sl,gn,be,rq,cd,(y:Int)⟩ m rfl c0 (by show ¬(m:Int)=6;omega);rw[<-Q]at d;obtain⟨O,M⟩:∃O,O=ay8 (l.take k) m:=⟨_,rfl⟩;rw[<-M]at N a3 d;have d7:¬(m:Int)=6:=by omega
     have z:M6 (_/\_/\_):=⟨B,n,d⟩;clear B n d M Q hx t c1 c2 c3 c4 c5 c6 c7 q U;go_wp2
     go_roundw
     case rel =>
      refine⟨k+1,by simp,hlt,?_,?_⟩
      ·exact(z.out.1.setCell (p:=⟨j.heap.size,m,MH⟩) (MV _) _).alloc (by simp;exact z.out.1.size) _
      ·rw[z.out.2.2]
       exact(z.out.2.1.F4 m _).below (WQ _)
     case measure=>simp[intOf];omega
   ·obtain rfl:k=l.length:=by omega
    rw[NT]at n;have o:=D.out.1.below B;obtain⟨C,u⟩:∃C,C=wr.setCells w.heap.size 0 (WR (azf l)):=⟨_,rfl⟩;have d:=(o.Hq (P:=MK) (b:=azf l) (azh l) azD).2;rw[<-u]at d;have a2:MQ w.heap.size w wr:=D.out.2.1.trans (B.mono D.out.2.1.size);have L:MQ w.heap.size w C:=by rw[u];exact adp a2 (MV _) 0 _ a2.size
    have a4:(Tryz.prog.info? 86).map (·.size)=MI (WR (azf l)).length:=by rw[azD,Zv,azh]
    have a5:wr.there w.heap.size 0 (WR (azf l)).toArray.size:=by simp[Zv,azh];exact o.GB
    have J:=OE (ac1 (azf l));have e:M6 (_/\_/\_/\_/\_/\_/\_):=⟨n.Gq,a4,a5,J,u,d,L⟩;clear n o d L a4 a5 J u B a2;obtain⟨H,a0⟩:∃H,H=WR (azf l):=⟨_,rfl⟩;rw[<-a0]at e;have HC:M6 _:=a0;clear a0
    go_wp2_with (first|((with_reducible refine O3 rfl 86 (O6 5) rfl j.heap.size 0 ?hx H _ ?hc az1 ?hd ?hi ?_);(case hx=>rfl);(case hc=>exact e.out.1);(case hd=>rfl);(case hi=>exact e.out.2.1))|((with_reducible refine OW rfl 86 (O6 2) (O6 40) rfl w.heap.size 0 H.toArray ?hx ?hy ?ht ?hi ?h1 ?_);(case hx=>rfl);(case hy=>rfl);(case ht=>exact e.out.2.2.1);(case hi=>rw[e.out.2.1];simp);(case h1=>exact e.out.2.2.2.1);rw[show H.toArray.toList=H from rfl,<-e.out.2.2.2.2.1]))
    rw[D.out.2.2.2];refine Np (v:=Nv #[Ny (WR (azf l)).toArray,MF ME 0]) (XT Tryz.results21 rfl rfl (e.out.2.2.2.2.2.1.Io az1 rfl azD)) rfl ⟨rfl,e.out.2.2.2.2.2.2⟩
 ·rw[Nh rfl]
  have I:azr l=(Nj 17 0,5):=by unfold azr;rw[hbad];rfl
  obtain⟨C,u⟩:∃C,C=j.setCells w.heap.size 0 (Array.toList (#[MF ME 0,MF ME 0,MF ME 0,MF ME 0,MF ME 0,MF ME 0,MF ME 0,MF ME 0,MF ME 0,MF ME 0,MF ME 0,MF ME 0,MF ME 0,MF ME 0,MF ME 0,MF ME 0,MF ME 0]:Array M7)):=⟨_,rfl⟩;have d:=(o.Hq (P:=MK) (b:=Nj 17 0) (by simp) azD).2;have a8:Xj 86 17 C w.heap.size (Nj 17 0):=by rw[u];exact d
  have L:MQ w.heap.size w C:=by rw[u];exact adp K (MV _) _ _ K.size
  have e:M6 (_/\_/\_/\_/\_):=⟨o.GB,L,a8,u,I⟩;clear o K S hbad I d a8 L u
  go_wp2_with ((with_reducible refine OW rfl 86 (O6 2) (O6 12) rfl w.heap.size 0 #[MF ME 0,MF ME 0,MF ME 0,MF ME 0,MF ME 0,MF ME 0,MF ME 0,MF ME 0,MF ME 0,MF ME 0,MF ME 0,MF ME 0,MF ME 0,MF ME 0,MF ME 0,MF ME 0,MF ME 0] ?hx ?hy ?ht ?hi ?h1 ?_);(case hx=>rfl);(case hy=>rfl);(case ht=>exact e.out.1);(case hi=>exact azD);(case h1=>exact HO.out);rw[<-e.out.2.2.2.1])
  rw[e.out.2.2.2.2];refine Np (v:=Nv #[Ny (WR (Nj 17 0)).toArray,MF ME 5]) (XT Tryz.results21 rfl rfl (e.out.2.2.1.Io az1 rfl azD)) rfl ⟨rfl,e.out.2.1⟩
theorem azy(h:l.length<=9223372036854775807):-9223372036854775808<=azn l/\azn l<=9223372036854775807/\ay8 l 6+ay8 l 7<=l.length:=by
 have a:ay8 l 6+ay8 l 7<=l.length:=by
  unfold ay8;clear h
  induction l with
  |nil=>simp
  |cons o l ih =>
   simp only[List.countP_cons,List.length_cons];have:(if aze o 6=Nw then 1 else 0)+(if aze o 7=Nw then 1 else 0)<=1:=by
    unfold aze
    by_cases h6:o.kind=6
    ·simp[h6]
    ·simp[h6];split <;> omega
   omega
 have b:=ay9 l 1;unfold azn;omega
theorem azE(v:M7)(l:List Ou)(w:MO)(hv:azw w v l) :
  Ni MK 22 #[v] w fun r w'=>r=MN (Nv #[MF ME (azp l).1,MF ME (azp l).2])/\MQ w.heap.size w w':=by
 obtain⟨p,c,rfl,hc,hm⟩:=Xw.Ga hv;unfold NE at hm;have u:=azy (l:=l) (by omega);have g1:=ay9 l 1;have g6:=ay9 l 6;have g7:=ay9 l 7;have J:=azG _ l w hv;clear hv;obtain⟨e,x⟩:∃e,e=(azr l).1:=⟨_,rfl⟩;obtain⟨C,E⟩:∃C,C=(azr l).2:=⟨_,rfl⟩;rw[<-x,<-E]at J;have O:e.length=17:=by rw[x];exact azs l
 have T:M6 _:=J;clear J;have j:M6 (_/\_/\_/\_):=⟨O,x,E,u⟩;clear O x E u;obtain⟨LV,H⟩:∃LV,LV=azp l:=⟨_,rfl⟩;rw[<-H];have L:M6 _:=H;clear H;go_enter Tryz.func22,Tryz.ntmps22
 go_wp2_with fail
 refine Nd T.out ?_;rintro r m ⟨rfl,D⟩;obtain⟨n,z⟩:∃n,n=m.alloc (MP (WR (Nj 17 0)).toArray 86):=⟨_,rfl⟩;have I:Xj 86 17 n m.heap.size (Nj 17 0):=by rw[z];exact⟨M1 _ _,by simp⟩
 obtain⟨K,B⟩:∃K,K=n.setCells m.heap.size 0 (WR e):=⟨_,rfl⟩;have t:=(I.Hq (P:=MK) (b:=e) j.out.1 azD).2;rw[<-B]at t;have F:MQ w.heap.size w n:=by rw[z];exact D.alloc D.size _
 have S:MQ w.heap.size w K:=by rw[B];exact adp F D.size _ _ F.size
 have N:n.there m.heap.size 0 (WR e).toArray.size:=by simp[Zv,j.out.1];exact I.GB
 have M:(Tryz.prog.info? 86).map (·.size)=MI (WR e).toArray.size:=by rw[azD];simp[Zv,j.out.1]
 have Q:=OE (ac1 e);have h1:=t.F7 1 (by rw[j.out.1];omega);have Y:=t.F7 6 (by rw[j.out.1];omega);have U:=t.F7 7 (by rw[j.out.1];omega);have a:M6 (_/\_/\_/\_/\_/\_):=⟨N,M,Q,z,B,S⟩;obtain⟨d,y⟩:∃d,d=WR e:=⟨_,rfl⟩;rw[<-y]at a;rw[<-y];have HC:M6 _:=y;clear y N M Q z B F S t I D;have Z:(C=5/\ay3 l=Nw)\/(C=0/\ay3 l=Nb/\e=azf l):=by
  rw[j.out.2.2.1,j.out.2.1];unfold azr;cases ay3 l
  ·right;exact⟨rfl,rfl,rfl⟩
  ·left;exact⟨rfl,rfl⟩
 rcases Z with⟨rfl,q⟩|⟨rfl,q,a0⟩
 ·have o:azp l=(0,5):=by unfold azp;rw[q];rfl
  have k:M6 (LV=(0,5)):=L.out.trans o;clear o q h1 Y U
  go_wp2_with ((with_reducible refine OW rfl 86 (O6 4) (O6 10) rfl m.heap.size 0 d.toArray ?hx ?hy ?ht ?hi ?h1 ?_);(case hx=>rfl);(case hy=>rfl);(case ht=>rw[azT,<-a.out.2.2.2.1];exact a.out.1);(case hi=>exact a.out.2.1);(case h1=>exact a.out.2.2.1);rw[azT,<-a.out.2.2.2.1,show d.toArray.toList=d from rfl,<-a.out.2.2.2.2.1])
  go_ret2
  exact⟨by rw[k.out];try rfl,a.out.2.2.2.2.2⟩
 ·have o:azp l=if azn l<0 then(0,6)else(azn l,0):=by unfold azp;rw[q];rfl
  have k:M6 _:=L.out.trans o;clear L;subst a0;rw[azg l 1 (by omega)]at h1;rw[azg l 6 (by omega)]at Y;rw[azg l 7 (by omega)]at U;have u:=j.out.2.2.2;unfold azn at u k;clear o q T;generalize ay8 l 1=a1 at *;generalize ay8 l 6=a6 at *;generalize ay8 l 7=a7 at *;have b1:a1<=9223372036854775807:=by omega
  have b6:a6<=9223372036854775807:=by omega
  have b7:a7<=9223372036854775807:=by omega
  have a2:a6+a7<=9223372036854775807:=by omega
  clear g1 g6 g7 u j
  by_cases hneg:(a1:Int)-a6-a7<0
  ·rw[Nh hneg]at k
   go_wp2_with ((with_reducible refine OW rfl 86 (O6 4) (O6 10) rfl m.heap.size 0 d.toArray ?hx ?hy ?ht ?hi ?h1 ?_);(case hx=>rfl);(case hy=>rfl);(case ht=>rw[azT,<-a.out.2.2.2.1];exact a.out.1);(case hi=>exact a.out.2.1);(case h1=>exact a.out.2.2.1);rw[azT,<-a.out.2.2.2.1,show d.toArray.toList=d from rfl,<-a.out.2.2.2.2.1])
   go_ret2
   exact⟨by rw[k.out];try rfl,a.out.2.2.2.2.2⟩
  ·rw[Nf hneg]at k
   go_wp2_with ((with_reducible refine OW rfl 86 (O6 4) (O6 10) rfl m.heap.size 0 d.toArray ?hx ?hy ?ht ?hi ?h1 ?_);(case hx=>rfl);(case hy=>rfl);(case ht=>rw[azT,<-a.out.2.2.2.1];exact a.out.1);(case hi=>exact a.out.2.1);(case h1=>exact a.out.2.2.1);rw[azT,<-a.out.2.2.2.1,show d.toArray.toList=d from rfl,<-a.out.2.2.2.2.1])
   go_ret2
   exact⟨by rw[k.out];try rfl,a.out.2.2.2.2.2⟩
theorem azF(v:M7)(l:List Ou)(w:MO)(hv:azw w v l)(hg:ay3 l=Nb)(h0:0<=azn l) :
  Ni MK 22 #[v] w fun r w'=>r=MN (Nv #[MF ME (azn l),MF ME 0])/\MQ w.heap.size w w':=by
 have h:=azE v l w hv;have e:azp l=(azn l,0):=by unfold azp;rw[hg,Nf PE,Nf (by omega)]
 rw[e]at h;exact h
theorem azS(f:Nat->Int)(hf:∀i,i<16->(Lit.int ME (f i)).wf=Nw)(ds:List Dd)(hds:∀d∈ds,ajd d){pd:Option Addr}{cd:Nat}(hrow:Xw agP w (MG pd ds.length cd) ds)(hB:Xo w):
  Ni MK 11 #[agc (f 0) (f 1) (f 2) (f 3) (f 4) (f 5) (f 6) (f 7) (f 8) (f 9) (f 10) (f 11) (f 12) (f 13) (f 14) (f 15),MG pd ds.length cd] w fun r w'=>r=MN (M3 Nw)/\MQ w.heap.size w w':=by
 obtain⟨L,hL,eL,a0⟩:=azN f hf ds hds hrow hB 60 (by omega);rw[eL];obtain⟨p,N⟩:∃p,p=w.alloc (MP L.toArray 24):=⟨_,rfl⟩;have O:MQ w.heap.size w p:=by rw[N];exact WQ w
 have o:M6 (_/\_/\_):=⟨hL,O,a0 p O⟩;obtain⟨nd,a9⟩:∃nd,nd=ds.length:=⟨_,rfl⟩;rw[<-a9]at o⊢;clear hL eL a0 O hf hds hrow hB a9;go_enter Tryz.func11,Tryz.ntmps11
 go_wp2_with ((with_reducible refine O3 rfl 24 (O6 2) rfl w.heap.size 0 ?gx L _ ?gc Tryz.underlying24 ?gd ?gi ?_);(case gx=>rfl);(case gc=>exact afW (M1 _ _));(case gd=>rfl);(case gi=>rw[o.out.1];exact apz))
 rw[<-N];clear N;refine Nd o.out.2.2 ?_;rintro r w1 ⟨g,V,c,P,rfl,U,d1,d9,d6,b9⟩;obtain⟨n,hn⟩:∃n,n=P.steps.length:=⟨_,rfl⟩;have b:M6 (_/\_/\_/\_/\_):=⟨U,d1,hn,(show n<=60+4 by omega),b9⟩;have b5:=o.out.2.1.trans (U.bel.mono o.out.2.1.size);have HB:M6 _:=b5;have c9:M6 _:=o.out.2.1;clear U d1 d9 d6 b9 hn o b5;have d2:M6 (ay0 P 0):=fun f hf=>b.out.1.rn.azV rfl rfl f hf
 obtain⟨ng,K⟩:∃m,m=P.giv.length:=⟨_,rfl⟩;have f0:ng<=64:=by have:=b.out.1.rn.Mj;rw[K];have:=b.out.2.2.2.1;have:=b.out.2.2.1;omega
 have e8:M6 _:=K;clear K
 go_wp2_with fail
 go_loopw [6,7] (fun k i wr=>∃(t:Nat) (V:Pv) (Q:Py),k=M3 Nw/\i=MF ME (t:Int)/\t<=ng/\M6 (XQ p wr g V c Q/\Q.steps.length=n+t/\ay0 Q t/\Q.giv.length=ng)) (fun _ i _=>ng-(intOf i).toNat)
 case atStart=>exact⟨0,V,P,rfl,rfl,Nx _,b.out.1,by rw[b.out.2.2.1];rfl,d2.out,e8.out.symm⟩
 case round =>
  obtain⟨t,e,Q,rfl,rfl,ht,a⟩:=hrel;have b8:=a.out.1.pat.lt;have a8:wr.cell? ⟨g,43,MH⟩=MI (MG e.pg ng e.cg):=by rw[<-a.out.2.2.2];exact a.out.1.pat.Mn
  by_cases hlt:t<ng
  ·have d4:(t:Int)<(ng:Int):=by omega
   have z:t<Q.giv.length:=by rw[a.out.2.2.2];exact hlt
   obtain⟨ap,f3,hv,d7,d3,hp⟩:=Xw.F6 anw (abw a.out.1.pat.giv:Xw afq wr (MG e.pg Q.giv.length e.cg) Q.giv);injection hv with q1 q2 q3;obtain⟨bo,oo,ha,d8,Z⟩:=hp t z;have e0:wr.cell? ⟨bo,oo+t*2,MH⟩=MI (MF ME Q.giv[t].1):=Z 0 (by omega);have e1:wr.cell? ⟨bo,oo+t*2+1,MH⟩=MI (MF ME Q.giv[t].2):=Z 1 (by omega);rw[q1,ha]at a8;have F:=a.out.1.rn.runs.Mx _ (Nk z);have B:=ay0.step a.out.1.rn z a.out.2.2.1 (by rw[a.out.2.1];have:=b.out.2.2.2.1;omega);have E:∀W,MQ wr.heap.size wr W->Ni MK 15 #[gP g,acH ⟨3,0,Q.giv[t].1,Q.giv[t].2,Nb,0,0,0⟩] W fun r w'=>r=MN (M3 Nw)/\∃V',XQ p w' g V' c (Q.step ⟨3,0,Q.giv[t].1,Q.giv[t].2,Nb,0,0,0⟩):=fun W hb=>(a.out.1.on hb).Mf (by rw[a.out.2.1];have:=b.out.2.2.2.1;omega) _ (ajh (Nt ⟨NF rfl,rfl⟩) F.1 F.2)
   obtain⟨sx,c0⟩:∃x,x=Q.giv[t].1:=⟨_,rfl⟩;obtain⟨gx,a2⟩:∃x,x=Q.giv[t].2:=⟨_,rfl⟩;rw[<-c0]at e0 E B;rw[<-a2]at e1 E B;have HD:M6 _:=E;have HL:M6 _:=B;clear E B F c0 a2 Z hp q1 q2 q3 d7 d3 ha z d8
   go_wp2_with fail
   go_region_with (first|(go_at_call 15;refine(HD.out _ (by first|exact(MY _ _).drew|exact Below.refl _ _)).mono ?_;rintro r w5 ⟨rfl,V5,h5⟩))
   all_goals
    have H5:M6 _:=h5;clear h5
    go_wp2_with fail
    go_roundw
    case rel=>exact⟨t+1,V5,_,rfl,by simp,hlt,H5.out,by rw[ajm,a.out.2.1];omega,HL.out.1,by rw[HL.out.2];exact a.out.2.2.2⟩
    case measure=>simp[intOf];omega
  ·obtain rfl:t=ng:=by omega
   have d4:¬(t:Int)<(t:Int):=by omega
   have I:=a.out.2.2.1.Jl (by rw[a.out.2.2.2];exact MV _);have y:=a.out.1.rn.azW rfl rfl;rw[I]at y;have y:azn (azJ Q)=0:=y;have q:M6 (_/\_/\_):=⟨I,y,a.out.1.rn.good rfl⟩;have HO:M6 _:=azI a.out.1 (by rw[a.out.2.1];have:=b.out.2.2.2.1;omega);clear I y
   go_wp2_with fail
   refine Nd HO.out ?_;rintro r w2 ⟨p2,q2,rfl,d0,a4⟩;obtain⟨m,H⟩:∃m,m=(azJ Q).length:=⟨_,rfl⟩;have J:=azF _ (azJ Q) w2 d0 q.out.2.2 (by rw[q.out.2.1];exact Int.le_refl _);rw[q.out.2.1,<-H]at J;rw[<-H];have b3:M6 _:=J;have HR:M6 _:=a4;clear d0 a4 J HO H a8 b8
   go_wp2_with fail
   refine Nd b3.out ?_;rintro r w3 ⟨rfl,c8⟩;have a3:=a.out.1.on (HR.out.trans (c8.mono HR.out.size));have d5:M6 _:=a3;clear a3 c8 b3
   go_wp2_with fail
   go_loopw [10] (fun i wr=>∃v:Nat,i=MF ME (v:Int)/\v<=12/\M6 (MQ w3.heap.size w3 wr)) (fun i _=>12-(intOf i).toNat)
   case atStart=>exact⟨0,rfl,Nx _,MY _ _⟩
   case round =>
    obtain⟨v,rfl,hv,S⟩:=hrel;have j:=d5.out.on S.out;have b8:=j.pat.lt
    by_cases hlv:v<12
    ·have e9:(v:Int)<12:=by omega
     obtain⟨M,D⟩:∃M,M=(XR e.u Q.last).toList:=⟨_,rfl⟩;have T:=j.pat.Mo;rw[<-D]at T;have C:M6 (_/\(Tryz.prog.info? 58).map (·.size)=MI M.length/\_):=⟨T,(by rw[D];exact Z0),azQ D j.pat.last.now (v:Int)⟩;have h3:=azq a.out.1.rn.runs.wm q.out.1 (v:Int);obtain⟨Y,a5⟩:∃Y,Y=WY Q.last.liv (v:Int):=⟨_,rfl⟩;rw[<-a5]at C h3;have f1:(Y == 3)=false:=by simpa using h3
     clear j T D a5 h3
     go_wp2_with ((with_reducible refine O3 rfl 58 (O6 60) rfl g 17 ?gx M _ ?gc Tryz.underlying58 ?gd ?gi ?_);(case gx=>rfl);(case gc=>exact C.out.1);(case gd=>rfl);(case gi=>exact C.out.2.1))
     refine Nd C.out.2.2 ?_;rintro r w5 ⟨rfl,b2⟩;have HU:M6 _:=S.out.trans (b2.mono S.out.size);clear b2;go_wp2
     go_roundw
     case rel=>exact⟨v+1,by simp,hlv,HU.out⟩
     case measure=>simp[intOf];omega
    ·obtain rfl:v=12:=by omega
     have e9:¬(((12:Nat):Int))<12:=by omega
     have f2:wr.cell? ⟨g,35,MH⟩=MI (MG e.u.pf 0 e.u.cf):=(j.pat.azY 35).trans (by show MI (MG e.u.pf Q.last.fls.length e.u.cf)=_;rw[q.out.1];rfl);have HE:M6 _:=j.bel;clear j;go_wp2;go_ret;exact⟨rfl,c9.out.trans (HE.out.mono c9.out.size)⟩
end Go.Proofs.YtmpokpecfclapaaGreatDoor.Q
