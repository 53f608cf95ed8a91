/-
  TopRetries: its walk. Conditions: as each theorem says.
-/
import Derived.Test.YtmpokpecfclapaaGreatDoorQ20
open Bool renaming false->Nb,or_eq_false_iff->azW,true->Nw
open Decidable renaming decide->Nn
open Go renaming Calls->Ni,Value->M7,World->MO,all_oneCell_toArray->OE,bodyPost_ret->Np,cell_of_row->MW,heap_alloc_new->M1,maxLen->NE,wpList_load_mid->O3,wpList_store_mid->OW
open Go.Calls renaming mono->Nd
open Go.Ending renaming returned->MN
open Go.IntKind renaming i64->ME,wrap_i64->Ow
open Go.Obj renaming cells->MP
open Go.Operand renaming tmp->O6
open Go.Proofs.Tryz renaming func28->WF,func42->azZ,ntmps28->Ww,ntmps42->azX,prog->MK,underlying86->azY
open Go.RowKit renaming Below->MQ,Hid->M6
open Go.Value renaming agg->Ny,bool->M3,func->PB,int->MF,slice->MG,tuple->Nv
open List renaming countP_append->Qi,ext_getElem->PX,findIdx_getElem->azV,flatten_append->PV,getElem?_eq_getElem->MR,getElem_mem->Nk,getElem_set->Pc,length_append->Ns,length_take->NH,map_append->OI,mem_of_getElem?->Nu,replicate->Nj,take_length->NT,take_of_length_le->N1,take_succ_eq_append_getElem->M9
open Nat renaming le_refl->MV,le_trans->Nm,zero_le->Nx
open Option renaming none->MH,some->MI
open Or renaming inl->Nt,inr->NF
namespace Go.Proofs.YtmpokpecfclapaaGreatDoor.Q
set_option linter.unusedVariables false
set_option linter.unusedSimpArgs false
set_option maxHeartbeats 16000000
set_option maxRecDepth 100000
open Go.RowKit
attribute [local go_sem ↓] Go.wp_at_zero Go.wp_at_succ
variable {c:Cf}{w:MO}{g:Nat}{V:Pv}{P:Py}{s:Sp}
structure ay0(X Y:Gt):Prop where
 fls:Y.fls=X.fls
 tab:Y.tab=X.tab
 tok:Y.tok=X.tok
 cfg:Y.cfg=X.cfg
 out:Y.out=X.out
structure Mv(X Y:Gt)(F:List Fl)(T:List awY)(k:Int)(o:Ou):Prop where
 fls:Y.fls=F
 tab:Y.tab=T
 tok:Y.tok=k
 cfg:Y.cfg=X.cfg
 out:Y.out=X.out++[o]
abbrev ay1(f:Fl)(k y:Int):Prop:=(k=7/\y=0)\/(k=6/\((y=1/\f.srv=Nw)\/y=2\/(f.srv=Nb/\(y=3\/y=4\/y=5))))
structure azQ(op:Prop)(R:Gt->Prop):Prop where
 same:∀X Y,ay0 X Y->R X->R Y
 no:∀X Y o,(o.kind=2\/o.kind=8\/o.kind=9\/o.kind=10)->o.why=0->Mv X Y X.fls X.tab X.tok o->R X->R Y
 ends:∀X Y f k y,Bs X->f∈X.fls->ay1 f k y->Mv X Y (X.fls.filter fun x=>x.slot != f.slot) (X.tab.set f.slot.toNat (f.gen+1,Nb,0,0)) X.tok ⟨k,f.slot,f.gen,f.be,0,0,y⟩->R X->R Y
 again:∀X Y i (hi:i<X.fls.length) b d,Bs X->X.fls[i].srv=Nb->X.fls[i].ret+1<=X.cfg.ret->X.cfg.bd<=X.tok->(0<=b/\b<12)->Mv X Y (X.fls.set i {X.fls[i]with be:=b,ret:=X.fls[i].ret+1,due:=d}) (X.tab.set X.fls[i].slot.toNat (X.fls[i].gen,Nw,X.fls[i].key,b)) (X.tok-X.cfg.bd) ⟨5,X.fls[i].slot,X.fls[i].gen,b,0,0,0⟩->R X->R Y
 serves:∀X Y i (hi:i<X.fls.length) d,Bs X->X.fls[i].srv=Nb->Mv X Y (X.fls.set i {X.fls[i]with srv:=Nw,due:=d}) X.tab X.tok ⟨4,X.fls[i].slot,X.fls[i].gen,X.fls[i].be,0,0,0⟩->R X->R Y
 forw:∀X Y i (hi:i<X.fls.length) d,Bs X->Mv X Y (X.fls.set i {X.fls[i]with due:=d}) X.tab X.tok ⟨3,X.fls[i].slot,X.fls[i].gen,X.fls[i].be,0,0,0⟩->R X->R Y
 opens:op->∀X Y (k:Nat) (hk:k<X.tab.length) key b d,Bs X->X.tab[k].2.1=Nb->(0<=X.tab[k].1/\X.tab[k].1<=1048575)->(0<=b/\b<12)->Mv X Y (Xi X.fls ⟨k,X.tab[k].1,key,b,Nb,0,d⟩ (Y3 X.fls k)) (X.tab.set k (X.tab[k].1,Nw,key,b)) (min (X.tok+X.cfg.bn) (X.cfg.bb*X.cfg.bd)) ⟨1,k,X.tab[k].1,b,0,0,0⟩->R X->R Y
section
variable {op:Prop}{R:Gt->Prop}{G:Gt}
theorem azQ.drain(h:azQ op R){X:Gt}(hR:R X)(b:Int):R (Yf X b):=by
 unfold Yf
 split
 ·exact h.no X _ _ (NF (NF (Nt rfl))) rfl ⟨rfl,rfl,rfl,rfl,rfl⟩ hR
 ·exact hR
theorem azQ.Hc(h:azQ op R){X:Gt}(hb:Bs X){f:Fl}(hf:f∈X.fls){k y:Int}(hy:ay1 f k y)(hR:R X):R (Yg X f k y):=by
 unfold Yg;refine h.drain ?_ _;exact h.ends X _ f k y hb hf hy ⟨hb.GL hf,congrArg Prod.fst (hb.Hj hf),rfl,rfl,rfl⟩ hR
theorem azQ.I8(h:azQ op R){X:Gt}(hb:Bs X){i:Nat}(hi:i<X.fls.length)(hs:X.fls[i].srv=Nb){y:Int}(hy:y=3\/y=5)(hR:R X):R (YP X i y):=by
 have a:=Nk hi;have d:=(hb.F9 a).2.2.2;rcases aeI hb hi y with⟨z,q,m⟩|⟨c,q,j,l,n,b,_⟩
 ·rw[q]
  refine azQ.Hc h (X:=Yh X X.fls[i].be Nw) (hb.GA d Nw) a (NF ⟨rfl,NF (NF ⟨hs,by omega⟩)⟩) ?_;exact h.same X _ ⟨rfl,rfl,rfl,rfl,rfl⟩ hR
 ·obtain⟨T,e⟩:=ak0 (G:={Yh X X.fls[i].be Nw with tok:=X.tok-X.cfg.bd}) hi c
  rw[q,e];refine h.drain ?_ _;exact h.again X _ i hi c _ hb hs l j b ⟨rfl,congrArg Prod.fst (hb.Ho a b),rfl,rfl,rfl⟩ hR
theorem azQ.Mm(h:azQ op R)(hm:Wm G){e:Ev}(he:XZ e)(h7:e.kind=7->G.now+1<=1099511626776)(h1:e.kind=1->op)(hR:R G):R (Xb G e):=by
 have b:=hm.im.bs;have l:∀k,R (Yv G k e):=fun k=>h.no G _ _ (NF (Nt rfl)) rfl ⟨rfl,rfl,rfl,rfl,rfl⟩ hR
 unfold Xb
 split
 ·rename_i k1
  rcases afU b he.key with⟨q,_⟩|⟨q,_⟩|⟨k,o,_,_,n,_,u,v,_,q⟩ <;> rw[q]
  ·exact h.no G _ _ (Nt rfl) rfl ⟨rfl,rfl,rfl,rfl,rfl⟩ hR
  ·exact h.no G _ _ (Nt rfl) rfl ⟨rfl,rfl,rfl,rfl,rfl⟩ hR
  ·exact h.opens (h1 k1) G _ k o _ _ _ b u v n ⟨rfl,rfl,rfl,rfl,rfl⟩ hR
 ·split
  ·exact l 1
  ·split
   ·unfold abg
    split
    ·exact l 2
    ·split
     ·exact h.no (Yv G 2 e) _ _ (NF (NF (Nt rfl))) rfl ⟨rfl,rfl,rfl,rfl,rfl⟩ (l 2)
     ·exact h.drain (X:={Yv G 2 e with wts:=G.wts.set e.be.toNat 0}) (h.same (Yv G 2 e) _ ⟨rfl,rfl,rfl,rfl,rfl⟩ (l 2)) _
   ·split
    ·rename_i k7
     refine alk (R:=R) hm (h7 k7) ?_ (fun X f y hX hf j hR=>h.Hc hX.bs hf (NF ⟨rfl,by rcases j with j|j;exact Nt j;exact NF (Nt j)⟩) hR) (fun X i hX a d hR=>h.I8 hX.bs a d (NF rfl) hR);obtain⟨_,_,B,p,r,z,x,_⟩:=aeS (b.next (h7 k7));exact h.same G _ ⟨B,z,x,p,r⟩ hR
    ·rcases akr b e with⟨n,q⟩|⟨i,a,_,_,_,⟨_,q⟩|⟨_,q⟩|⟨_,_,⟨_,q⟩|⟨d,_,q⟩|⟨d,_,q⟩⟩⟩
     ·rw[q];exact h.no G _ _ (NF (NF (NF rfl))) rfl ⟨rfl,rfl,rfl,rfl,rfl⟩ hR
     ·rw[q];exact h.Hc b (Nk a) (Nt ⟨rfl,rfl⟩) hR
     ·obtain⟨T,m⟩:=aks a
      rw[q,m];refine h.forw G _ i a (if G.fls[i].srv then G.now+G.cfg.idle else G.fls[i].due) b ⟨?_,rfl,rfl,rfl,rfl⟩ hR;show G.fls.set i _=G.fls.set i _
      congr 1
      split <;> rfl
     ·rw[q];exact h.no G _ _ (NF (NF (NF rfl))) rfl ⟨rfl,rfl,rfl,rfl,rfl⟩ hR
     ·obtain⟨T,m⟩:=alb a
      rw[q,m];exact h.serves G _ i a _ b d ⟨rfl,rfl,rfl,rfl,rfl⟩ hR
     ·rw[q];exact h.I8 b a d (Nt rfl) hR
theorem Mv.pre{X Y:Gt}{F:List Fl}{T:List awY}{k:Int}{o:Ou}(h:Mv X Y F T k o)(L:List Ou):Mv {X with out:=L++X.out} {Y with out:=L++Y.out} F T k o :=
 ⟨h.fls,h.tab,h.tok,h.cfg,by show L++Y.out=L++X.out++[o];rw[h.out,List.append_assoc]⟩
theorem azQ.pre(h:azQ op R)(L:List Ou):azQ op fun X=>R {X with out:=L++X.out}where
 same:=fun X Y hs hR=>h.same {X with out:=L++X.out} _ ⟨hs.fls,hs.tab,hs.tok,hs.cfg,by show L++Y.out=L++X.out;rw[hs.out]⟩ hR
 no:=fun X Y o ho hy hs hR=>h.no {X with out:=L++X.out} _ o ho hy (hs.pre L) hR
 ends:=fun X Y f k y hb hf hy hs hR=>h.ends {X with out:=L++X.out} _ f k y (hb.Jh _) hf hy (hs.pre L) hR
 again:=fun X Y i hi b d hb h1 h2 h3 h4 hs hR=>h.again {X with out:=L++X.out} _ i hi b d (hb.Jh _) h1 h2 h3 h4 (hs.pre L) hR
 serves:=fun X Y i hi d hb h1 hs hR=>h.serves {X with out:=L++X.out} _ i hi d (hb.Jh _) h1 (hs.pre L) hR
 forw:=fun X Y i hi d hb hs hR=>h.forw {X with out:=L++X.out} _ i hi d (hb.Jh _) (hs.pre L) hR
 opens:=fun ho X Y k hk key b d hb h1 h2 h3 hs hR=>h.opens ho {X with out:=L++X.out} _ k hk key b d (hb.Jh _) h1 h2 h3 (hs.pre L) hR
theorem Rn.flows{A:Gt}(h:Rn A c P)(hF:azQ True R)(h0:R A)(hA:A.out=[]):R {P.last with out:=(P.steps.map (·.out)).flatten}:=by
 refine h.Mw (J:=fun P=>R {P.last with out:=(P.steps.map (·.out)).flatten}) ?_ fun Q e hQ he hl hJ=>?_
 ·exact hF.same A _ ⟨rfl,rfl,rfl,rfl,hA.symm⟩ h0
 ·have b:=hQ.runs.now
  have a:=(hF.pre ((Q.steps.map (·.out)).flatten)).Mm (G:=Q.last) hQ.runs.wm (aeH he) (fun _=>by omega) (fun _=>trivial) (by rw[hQ.runs.out,List.append_nil];exact hJ);refine hF.same {Xb Q.last e with out:=(Q.steps.map (·.out)).flatten++(Xb Q.last e).out} _ ⟨rfl,rfl,rfl,rfl,?_⟩ a;show((Q.steps++[(⟨e,Q.last,(Xb Q.last e).Ma,(Xb Q.last e).out⟩:Sp)]).map fun s=>s.out).flatten=(Q.steps.map fun s=>s.out).flatten++(Xb Q.last e).out;simp
end
def ay4(o:Ou):Bool:=Nn (o.kind<1) || decide (10<o.kind) || decide (o.why<0) || decide (5<o.why)
def ay2(l:List Ou):Bool:=l.any ay4
theorem ay5{o:Ou}(h:ay4 o=Nb):(1<=o.kind/\o.kind<=10)/\0<=o.why/\o.why<=5:=by
 unfold ay4 at h;simp only[azW,decide_eq_false_iff_not]at h;omega
theorem ay3{l:List Ou}(h:ay2 l=Nb){o:Ou}(ho:o∈l):ay4 o=false:=by
 have:=List.any_eq_false.1 h o ho
 simpa using this
def azd(o:Ou)(j:Nat):Bool:=if j<11 then o.kind == (j:Int)else o.kind == 6 && o.why == ((j-11:Nat):Int)
def ay6(l:List Ou)(j:Nat):Nat:=l.countP fun o=>azd o j
def aze(l:List Ou):List Int:=(List.range 17).map fun j=>(ay6 l j:Int)
theorem azg(l:List Ou):(aze l).length=17:=by simp[aze]
theorem azh:aze []=Nj 17 0:=by simp[aze,ay6];rfl
theorem ay7(l:List Ou)(j:Nat):ay6 l j<=l.length:=List.countP_le_length
theorem azf(l:List Ou)(j:Nat)(hj:j<17):(aze l)[j]'(by rw[azg];exact hj)=(ay6 l j:Int):=by simp[aze]
theorem ay8(l:List Ou)(o:Ou)(j:Nat):ay6 (l++[o]) j=ay6 l j+(if azd o j then 1 else 0):=by
 simp[ay6,Qi,List.countP_cons]
theorem azi(l:List Ou)(o:Ou)(k:Nat)(hk:o.kind=(k:Int))(h11:k<11)(h6:¬o.kind=6):aze (l++[o])=(aze l).set k ((ay6 l k:Int)+1):=by
 apply PX
 ·simp[azg]
 ·intro j a b
  rw[azg]at a;rw[azf _ _ a,Pc,ay8]
  by_cases e:k=j
  ·subst e
   simp[azd,h11,hk]
  ·rw[Nf e,azf _ _ a]
   have:azd o j=false:=by
    unfold azd
    split
    ·rw[hk]
     simp;omega
    ·simp[h6]
   simp[this]
theorem azj(l:List Ou)(o:Ou)(y:Nat)(hk:o.kind=6)(hy:o.why=(y:Int))(h6:y<6):aze (l++[o])=((aze l).set 6 ((ay6 l 6:Int)+1)).set (11+y) ((ay6 l (11+y):Int)+1):=by
 apply PX
 ·simp[azg]
 ·intro j a b
  rw[azg]at a;rw[azf _ _ a,Pc,Pc,ay8]
  by_cases e:11+y=j
  ·subst e
   simp[azd,hk,hy]
  ·rw[Nf e]
   by_cases e6:6=j
   ·subst e6
    simp[azd,hk]
   ·rw[Nf e6,azf _ _ a]
    have:azd o j=false:=by
     unfold azd
     split
     ·rw[hk]
      simp;omega
     ·rw[hk,hy]
      simp;omega
    simp[this]
def azk(l:List Ou):List Int×Int:=if ay2 l then(Nj 17 0,5)else(aze l,0)
section
variable {X:Gt}
theorem ay9(l:List Ou)(o:Ou)(j:Nat)(hj:j<11):ay6 (l++[o]) j=ay6 l j+if o.kind=(j:Int)then 1 else 0:=by
 rw[ay8];have a:azd o j=Nn (o.kind=(j:Int)):=by unfold azd;rw[Nh hj];rfl
 rw[a]
 by_cases h:o.kind=(j:Int) <;> simp[h]
theorem azc:azQ True fun X=>ay2 X.out=false:=by
 have a:∀(X Y:Gt) (o:Ou),ay2 X.out=Nb->ay4 o=Nb->Y.out=X.out++[o]->ay2 Y.out=false:=fun X Y o h1 h2 h3=>by
  unfold ay2 at h1⊢;rw[h3,List.any_append,h1];simp[h2]
 refine⟨fun X Y hs hR=>by rw[hs.out];exact hR,fun X Y o ho hy hs hR=>a X Y _ hR ?_ hs.out,fun X Y f k y hb hf hy hs hR=>a X Y _ hR ?_ hs.out,fun X Y i hi b d hb h1 h2 h3 h4 hs hR=>a X Y _ hR rfl hs.out,fun X Y i hi d hb h1 hs hR=>a X Y _ hR rfl hs.out,fun X Y i hi d hb hs hR=>a X Y _ hR rfl hs.out,fun _ X Y k hk ky b d hb h1 h2 h3 hs hR=>a X Y _ hR rfl hs.out⟩
 ·unfold ay4
  simp only[azW,decide_eq_false_iff_not];omega
 ·unfold ay4
  simp only[azW,decide_eq_false_iff_not];omega
theorem azl(c:Cf):azQ True fun X=>X.cfg=c/\(ay6 X.out 5:Int)*c.bd+X.tok<=c.bb*c.bd+(ay6 X.out 1:Int)*c.bn:=by
 have a:∀(X Y:Gt) (o:Ou) (F:List Fl) (T:List awY) (t:Int),(X.cfg=c/\(ay6 X.out 5:Int)*c.bd+X.tok<=c.bb*c.bd+(ay6 X.out 1:Int)*c.bn)->Mv X Y F T t o->t<=X.tok+(if o.kind=1 then c.bn else 0)-(if o.kind=5 then c.bd else 0)->(Y.cfg=c/\(ay6 Y.out 5:Int)*c.bd+Y.tok<=c.bb*c.bd+(ay6 Y.out 1:Int)*c.bn):=fun X Y o F T t hR hs ht=>by
  rw[hs.cfg,hs.out,hs.tok,ay9 _ _ 5 (by decide),ay9 _ _ 1 (by decide)];refine⟨hR.1,?_⟩;have e:=hR.2;show((ay6 X.out 5+if o.kind=5 then 1 else 0:Nat):Int)*c.bd+t<=c.bb*c.bd+((ay6 X.out 1+if o.kind=1 then 1 else 0:Nat):Int)*c.bn;rw[Int.natCast_add,Int.natCast_add,Int.add_mul,Int.add_mul];have j:((if o.kind=5 then 1 else 0:Nat):Int)*c.bd=if o.kind=5 then c.bd else 0:=by split <;> simp
  have l:((if o.kind=1 then 1 else 0:Nat):Int)*c.bn=if o.kind=1 then c.bn else 0:=by split <;> simp
  rw[j,l];omega
 refine⟨fun X Y hs hR=>by rw[hs.out,hs.tok,hs.cfg];exact hR,fun X Y o ho hy hs hR=>a X Y o _ _ _ hR hs (by rw[Nf (by omega),Nf (by omega)];omega),fun X Y f k y hb hf hy hs hR=>a X Y _ _ _ _ hR hs (by show _<=_+(if k=1 then _ else _)-(if k=5 then _ else _);rw[Nf (by omega),Nf (by omega)];omega),fun X Y i hi b d hb h1 e h3 h4 hs hR=>a X Y _ _ _ _ hR hs (by show _<=X.tok+0-c.bd;rw[hR.1];omega),fun X Y i hi d hb h1 hs hR=>a X Y _ _ _ _ hR hs (by show _<=X.tok+0-0;omega),fun X Y i hi d hb hs hR=>a X Y _ _ _ _ hR hs (by show _<=X.tok+0-0;omega),fun _ X Y k hk ky b d hb h1 e h3 hs hR=>a X Y _ _ _ _ hR hs (by show _<=X.tok+c.bn-0;rw[hR.1];omega)⟩
end
section
variable {A:Gt}{c:Cf}{P:Py}{s:Sp}
theorem Rn.good(h:Rn A c P)(hA:A.out=[]):ay2 (P.steps.map (·.out)).flatten=false:=h.flows azc (by rw[hA];rfl) hA
theorem Rn.azS(h:Rn A c P)(hA:A.out=[])(hc:A.cfg=c)(ht:A.tok=c.bb*c.bd):(ay6 (P.steps.map (·.out)).flatten 5:Int)*c.bd<=c.bb*c.bd+(ay6 (P.steps.map (·.out)).flatten 1:Int)*c.bn:=by
 have:=h.flows (azl c) ⟨hc,by rw[hA,ht];show((0:Nat):Int)*_+_<=_+((0:Nat):Int)*_;simp⟩ hA;have e:(ay6 (P.steps.map (·.out)).flatten 5:Int)*c.bd+P.last.tok<=c.bb*c.bd+(ay6 (P.steps.map (·.out)).flatten 1:Int)*c.bn:=this.2;have:=h.runs.wm.im.bs.tok;omega
end
section
variable {G:Gt}{c:Cf}
theorem azb(hb:Ym G.liv G.req)(b:Int):(Yf G b).req=G.req:=by
 unfold Yf
 split
 ·rename_i h
  show(aau G.liv G.req b).1.2=G.req;rw[(ako hb h.1).1]
 ·rfl
theorem azm(hm:Wm G)(ho:G.out=[]){e:Ev}(he:XZ e)(hk:e.kind=5\/e.kind=6) :
  (∃q∈G.req,q.1=e.req/\(Xb G e).req=G.req/\(Xb G e).out=[⟨8,0,0,0,e.req,q.2.2.2.2,0⟩]) \/
  (G.req.length=100/\(∀q∈G.req,q.1≠e.req)/\(Xb G e).req=G.req/\(Xb G e).out=[⟨8,0,0,0,e.req,9,0⟩]) \/
  ((∀q∈G.req,q.1≠e.req)/\∃(q:aw0) (l:List Ou),q.1=e.req/\(Xb G e).req=G.req++[q]/\(Xb G e).out=⟨8,0,0,0,e.req,q.2.2.2.2,0⟩::l /\
   ((e.kind=5/\q.2.2.2.2=(Zu G.liv e.be e.wt).2/\(Xb G e).liv=(Zu G.liv e.be e.wt).1) \/
     (e.kind=6/\q.2.2.2.2=(ZH G.liv e.be e.req (G.now+G.cfg.drain)).2/\(q.2.2.2.2≠0->(Xb G e).liv=G.liv)))):=by
 have d:=hm.im.bs;have D:∀X b,∃l,(Yf X b).out=X.out++l:=fun X b=>by
  unfold Yf
  split
  ·exact⟨_,rfl⟩
  ·exact⟨[],by simp⟩
 rcases hk with hk|hk
 ·have n:Xb G e=Yv G 1 e:=by unfold Xb;rw[Nf (by omega),Nh hk]
  have m:(Yv G 1 e).out=[⟨8,0,0,0,e.req,(YV G 1 e).2.1,0⟩]:=by show G.out++[_]=_;rw[ho];rfl
  have E:(Yv G 1 e).req=(YV G 1 e).1.2:=rfl;rw[n,m,E];have F:(Yv G 1 e).liv=(YV G 1 e).1.1:=rfl;rw[F];unfold YV;rcases aj0 d.book (d.Jd (e:=e) he.req (Nt rfl:(1:Int)=1\/(1:Int)=2))with⟨i,q⟩|⟨j,p,q⟩|⟨j,p,q⟩
  ·refine Nt ⟨_,Nk i,?_,by rw[q],by rw[q,MR i];rfl⟩
   exact eq_of_beq (azV (w:=i))
  ·exact NF (Nt ⟨p,j,by rw[q],by rw[q]⟩)
  ·refine NF (NF ⟨j,(e.req,1,e.be,e.wt,(Zu G.liv e.be e.wt).2),[],rfl,?_,?_,Nt ⟨hk,rfl,?_⟩⟩)
   ·rw[q];unfold Zl;rw[Nh rfl]
   ·rw[q];unfold Zl;rw[Nh rfl]
   ·rw[q];unfold Zl;rw[Nh rfl]
 ·have n:Xb G e=abg G e:=by unfold Xb;rw[Nf (by omega),Nf (by omega),Nh hk]
  have m:(Yv G 2 e).out=[⟨8,0,0,0,e.req,(YV G 2 e).2.1,0⟩]:=by show G.out++[_]=_;rw[ho];rfl
  have z:=aj0 d.book (d.Jd (e:=e) he.req (NF rfl:(2:Int)=1\/(2:Int)=2));have r:(YV G 2 e).2.2.1=Nb->Xb G e=Yv G 2 e:=fun h=>by
   rw[n];unfold abg acC;rw[h,Nh (by simp)]
  rcases z with⟨i,q⟩|⟨j,p,q⟩|⟨j,p,q⟩
  ·have a:YV G 2 e=_:=q
   refine Nt ⟨_,Nk i,?_,by rw[r (by rw[a]),show(Yv G 2 e).req=(YV G 2 e).1.2 from rfl,a],by rw[r (by rw[a]),m,a,MR i];rfl⟩;exact eq_of_beq (azV (w:=i))
  ·have a:YV G 2 e=_:=q
   exact NF (Nt ⟨p,j,by rw[r (by rw[a]),show(Yv G 2 e).req=(YV G 2 e).1.2 from rfl,a],by rw[r (by rw[a]),m,a]⟩)
  ·have a:YV G 2 e=_:=q
   have B:(YV G 2 e).1.2=G.req++[(e.req,2,e.be,0,(ZH G.liv e.be e.req (G.now+G.cfg.drain)).2)]:=by rw[a];unfold Zl;rw[Nf (show ¬(2:Int)=1 by decide)]
   have x:(YV G 2 e).2.1=(ZH G.liv e.be e.req (G.now+G.cfg.drain)).2:=by rw[a];unfold Zl;rw[Nf (show ¬(2:Int)=1 by decide)]
   have C:=(aom d.book (d.Jd (e:=e) he.req (NF rfl:(2:Int)=1\/(2:Int)=2)) d.since).2.1;have H:(Xb G e).req=(YV G 2 e).1.2:=by
    rw[n];unfold abg
    split
    ·rfl
    ·split
     ·rfl
     ·exact azb (G:={Yv G 2 e with wts:=G.wts.set e.be.toNat 0}) C _
   have u:∃l,(Xb G e).out=⟨8,0,0,0,e.req,(YV G 2 e).2.1,0⟩::l:=by
    rw[n];unfold abg
    split
    ·exact⟨[],m⟩
    ·split
     ·exact⟨[⟨9,0,0,e.be,e.req,0,0⟩],by show(Yv G 2 e).out++[_]=_;rw[m];rfl⟩
     ·obtain⟨l,o⟩:=D {Yv G 2 e with wts:=G.wts.set e.be.toNat 0} e.be
      exact⟨l,by rw[o];show(Yv G 2 e).out++_=_;rw[m];rfl⟩
   obtain⟨l,u⟩:=u;rw[x]at u;refine NF (NF ⟨j,_,l,rfl,H.trans B,u,NF ⟨hk,rfl,fun v=>?_⟩⟩);have v:(ZH G.liv e.be e.req (G.now+G.cfg.drain)).2≠0:=v;have y:acC G 2 e=false:=by
    unfold acC;rw[x];simp[v]
   rw[n];unfold abg;rw[Nh y];rcases ahC d he.req with⟨_,o⟩|⟨o,_⟩
   ·exact o
   ·rw[y]at o;cases o
end
section
variable {G:Gt}
theorem aza(h:Im G):(acG G).out.length<=G.out.length+960:=by
 have a:=(akI G.liv G G.liv.length h (MV _)).2.2;rw[NT]at a;have b:G.liv.length<=12:=h.bs.book.1.1;show(G.liv.foldl Zd G).out.length<=_;omega
theorem azo(h:Wm G)(hn:G.now+1<=1099511626776):(abj G).out.length<=G.out.length+1040:=by
 have e:=h.im.next hn;obtain⟨p,o,l,u,m,_⟩:=aeS e.bs;have n:=e.Jf;have d:=n.I2;have i:(aaC (YH {G with now:=G.now+1})).now=G.now+1:=p;have b:(aaC (YH {G with now:=G.now+1})).wnow=G.now:=o.trans h.wnow;obtain⟨j,_⟩:=d.Je (by rw[b,i]) (fun f a=>by
  have a:f∈(YH {G with now:=G.now+1}).fls:=a;rw[l]at a;rw[b];exact h.due f a)
 have q:=aza j;have r:=ao7 d.bs;have v:(aaC (YH {G with now:=G.now+1})).out.length=G.out.length:=congrArg List.length m;show(acG _).out.length<=_;omega
theorem azn(hm:Wm G)(e:Ev)(h7:e.kind=7->G.now+1<=1099511626776):(Xb G e).out.length<=G.out.length+1040:=by
 unfold Xb
 split
 ·unfold aaI
  split
  ·simp[acm,ZM]
  ·simp only[]
   split
   ·simp[acm,ZM]
   ·simp[abv,abi,ZM,YW]
 ·split
  ·simp[Yv,ZM]
  ·split
   ·unfold abg
    split
    ·simp[Yv,ZM]
    ·split
     ·simp[aeQ,Yv,ZM]
     ·refine Nm (aki _) ?_
      simp[Yv,ZM]
   ·split
    ·rename_i h
     exact azo hm (h7 h)
    ·unfold aaq
     simp only[]
     split
     ·simp[acm,ZM]
     ·split
      ·exact Nm (afK _ _ _) (by omega)
      ·split
       ·unfold aaZ
        simp only[]
        split <;> simp[abi,ZM,YW,Y4]
       ·split
        ·simp[acm,ZM]
        ·split
         ·simp[abh,abi,ZM,YW,Y4,Yh]
         ·exact Nm (aoZ _ _) (by omega)
theorem aaB.azT(h:aaB c s):s.out.length<=1040:=by
 rw[h.out];have:=azn h.wm s.ev h.late;rw[h.out0]at this
 simpa using this
end
theorem WU.Gm{base:Nat}(h:WU base w g V c P):w.cell? ⟨g,16,MH⟩=MI (MG V.ps P.steps.length V.cs):=by
 rw[MW w g 16 _ _ (0,0) h.box,h.steps];rfl
structure azr(W:MO)(ps:Option Addr)(k:Nat)(q:Sq)(b o:Nat):Prop where
 at_:ps=MI ⟨b,o,MH⟩
 cells:W.rangeAt b (o+k*61) (abK q)
 rd:aje W q
theorem XQ.step{W:MO}(h:XQ w W g V c P){k:Nat}(hk:k<P.steps.length):∃q b o,azr W V.ps k q b o/\P.steps[k]?=MI q.s/\aaB c q.s:=by
 have y:=h.pat.steps;have i:k<V.qs.length:=by omega
 have l:Xw abK W (MG V.ps V.qs.length V.cs) V.qs:=abw h.pat.rows;obtain⟨a,u,d,_,_,n⟩:=Xw.F6 avt l;injection d with q1 _ _;obtain⟨b,o,p,x,m⟩:=n k i;have e:P.steps[k]?=MI V.qs[k].s:=by rw[<-h.pat.eqs,List.getElem?_map,MR i];rfl
 refine⟨V.qs[k],b,o,⟨q1.trans p,fun j v d=>?_,(h.pat.all _ (Nk i)).now⟩,e,h.rn.runs.chain _ (Nu e)⟩;have r:j<61:=(List.getElem?_eq_some_iff.1 d).1;rw[m j r];exact d
theorem azK(f:Nat->Int)(hf:∀i,i<16->(Lit.int ME (f i)).wf=Nw)(ds:List Dd)(hds:∀d∈ds,ajd d){pd:Option Addr}{cd:Nat}(hrow:Xw agP w (MG pd ds.length cd) ds)(hblk:Xo w)(most:Nat)(hm:most<=100):
  ∃L:List M7,L.length=16/\agc (f 0) (f 1) (f 2) (f 3) (f 4) (f 5) (f 6) (f 7) (f 8) (f 9) (f 10) (f 11) (f 12) (f 13) (f 14) (f 15)=Ny L.toArray/\∀W,MQ w.heap.size w W->Ni MK 13 #[Ny L.toArray,MG pd ds.length cd,MF ME (most:Int)] W (au0 f most W):=
 ⟨[MF ME (f 0),MF ME (f 1),MF ME (f 2),MF ME (f 3),MF ME (f 4),MF ME (f 5),MF ME (f 6),MF ME (f 7),MF ME (f 8),MF ME (f 9),MF ME (f 10),MF ME (f 11),MF ME (f 12),MF ME (f 13),MF ME (f 14),MF ME (f 15)],rfl,rfl,fun W hB=>awU f hf ds hds W (hrow.below hB) (hblk.below hB) most hm⟩
theorem WU.azU{base:Nat}(h:WU base w g V c P)(j:Nat):w.cell? ⟨g,j,MH⟩=(adM V c P)[j]?:=by
 rw[MW w g j _ _ (0,0) h.box];simp
def azG(P:Py):List Ou:=(P.steps.map (·.out)).flatten
def azH(P:Py)(k:Nat):List Ou:=((P.steps.take k).map (·.out)).flatten
theorem azJ{k:Nat}(h:P.steps[k]?=MI s):azH P (k+1)=azH P k++s.out:=by
 obtain⟨a,e⟩:=List.getElem?_eq_some_iff.1 h;unfold azH;rw[M9 a,OI,PV,e];simp
theorem azI{c:Cf}{P:Py}(h:∀s∈P.steps,aaB c s):∀k:Nat,(azH P k).length<=1040*k
 |0=>Nx _
 |k+1=>by
  have b:=azI h k
  by_cases hk:k<P.steps.length
  ·rw[azJ (MR hk),Ns]
   have a:=(h _ (Nk hk)).azT;omega
  ·have:azH P (k+1)=azH P k:=by unfold azH;rw[N1 (by omega),N1 (by omega)]
   rw[this];omega
theorem azF{W:MO}(h:XQ w W g V c P)(hl:P.steps.length<=1000):
  Ni MK 18 #[gP g] W fun r w'=>∃p q,r=MN (MG p (azG P).length q)/\Xw Z1 w' (MG p (azG P).length q) (azG P)/\MQ W.heap.size W w':=by
 obtain⟨n,Q⟩:∃n,n=P.steps.length:=⟨_,rfl⟩;have d:M6 (_/\_/\_):=⟨h,Q,(show n<=1000 by omega)⟩;have a2:n<=9223372036854775807:=by omega
 clear h hl Q;go_enter Tryz.func18,Tryz.ntmps18;go_wp2
 go_loopw [3,4] (fun s i wr=>∃(k q:Nat) (p:Option Addr) (j:Nat),s=MG p q j/\i=MF ME (k:Int)/\k<=n/\M6 (q=(azH P k).length/\wr.ownsRow W.heap.size 67 7 (MG p q j) q (rv Z1 (azH P k))/\MQ W.heap.size W wr)) (fun _ i _=>n-(intOf i).toNat)
 case atStart=>exact⟨0,0,MH,0,rfl,rfl,Nx _,rfl,⟨rfl,Nt ⟨rfl,rfl⟩⟩,RowKit.Below.refl _ _⟩
 case round =>
  obtain⟨k,q,p,j,rfl,rfl,hk,a⟩:=hrel;have m:=d.out.1.on a.out.2.2;have Y:wr.cell? ⟨g,16,MH⟩=MI (MG V.ps n V.cs):=by rw[d.out.2.1];exact m.pat.Gm
  have a0:=m.pat.lt
  by_cases hlt:k<n
  ·have U:(k:Int)<(n:Int):=by omega
   obtain⟨x,b,o,hx,E,T⟩:=m.step (k:=k) (by rw[<-d.out.2.1];exact hlt);have J:wr.cell? ⟨b,o+k*61+60,MH⟩=MI (MG x.po x.s.out.length x.co):=hx.cells 60 _ rfl;have a3:b<wr.heap.size:=World.block_lt_of_cell? wr ⟨b,_,MH⟩ J;have y:(azH P (k+1)).length=q+x.s.out.length:=by rw[azJ E,Ns,<-a.out.1]
   have L:=azI d.out.1.rn.runs.chain (k+1);rw[y]at L;have a1:k+1<=1000:=by have:=d.out.2.2;omega
   obtain⟨N,O,Z,D,z,I⟩:=ajY akV aqd (by decide) Tryz.underlying62 apw rfl a.out.2.1 a.out.2.2.size 62 _ x.s.out hx.rd.2.2 (by omega) (by unfold NE;omega);rw[<-azJ E]at z;obtain⟨u,K⟩:∃u,u=x.s.out.length:=⟨_,rfl⟩;rw[<-K]at D z y J;rw[hx.at_]at Y;have B:M6 (_/\_/\_/\_):=⟨D,z,a.out.2.2.trans I,y⟩;clear y K D z I hx E T m L
   go_wp2_with (at_builtin;(with_reducible refine Z4 rfl _ _ 62 rfl (MG p q j) (MG x.po u x.co) (MG N (q+u) O) Z ?hs ?hx ?hr ?_);(case hs=>rfl);(case hx=>rfl);(case hr=>exact B.out.1))
   go_wp2
   go_roundw
   case rel=>exact⟨k+1,q+u,N,O,rfl,by simp,hlt,B.out.2.2.2.symm,B.out.2.1,B.out.2.2.1⟩
   case measure=>simp[intOf];omega
  ·obtain rfl:k=n:=by omega
   have U:¬(k:Int)<(k:Int):=by omega
   have C:=a.out.1;have F:=a.out.2.1;have S:azH P k=azG P:=by unfold azH azG;rw[d.out.2.1,NT]
   rw[S]at C F;have M:=abw (c:=Z1) (l:=azG P) (k:=7) (v:=MG p q j) (w:=wr) (base:=W.heap.size) (e:=67) (by rw[<-C];exact F);have H:M6 (_/\_):=⟨M,C⟩;clear C F S M m;go_wp2;go_ret;exact⟨p,j,by rw[<-H.out.2];rfl,by rw[<-H.out.2];exact H.out.1,a.out.2.2⟩
abbrev azE(o:Ou):Value:=Ny #[MF ME o.kind,MF ME o.slot,MF ME o.gen,MF ME o.be,MF ME o.req,MF ME o.code,MF ME o.why]
abbrev azq(w:MO)(v:M7)(l:List Ou):Prop:=Xw Z1 w v l
theorem azq.F6{v:M7}{l:List Ou}(h:azq w v l):
  ∃a cap,v=MG a l.length cap/\l.length<=cap/\cap<=NE/\∀i (hi:i<l.length),∃b off,a=MI ⟨b,off,MH⟩/\b<w.heap.size/\w.cell? ⟨b,off+i*7,MH⟩=MI (MF ME l[i].kind)/\w.cell? ⟨b,off+i*7+1,MH⟩=MI (MF ME l[i].slot)/\w.cell? ⟨b,off+i*7+2,MH⟩=MI (MF ME l[i].gen)/\w.cell? ⟨b,off+i*7+3,MH⟩=MI (MF ME l[i].be)/\w.cell? ⟨b,off+i*7+4,MH⟩=MI (MF ME l[i].req)/\w.cell? ⟨b,off+i*7+5,MH⟩=MI (MF ME l[i].code)/\w.cell? ⟨b,off+i*7+6,MH⟩=MI (MF ME l[i].why):=by
 obtain⟨a,cap,o,p,n,m⟩:=Xw.F6 akV h;refine⟨a,cap,o,p,n,fun i hi=>?_⟩;obtain⟨b,off,e,j,d⟩:=m i hi;exact⟨b,off,e,j,(d 0 (by omega)).trans rfl,(d 1 (by omega)).trans rfl,(d 2 (by omega)).trans rfl,(d 3 (by omega)).trans rfl,(d 4 (by omega)).trans rfl,(d 5 (by omega)).trans rfl,(d 6 (by omega)).trans rfl⟩
theorem azM{α:Type}{l:List α}{k:Nat}(h:k<l.length){x:α}(hx:x=l[k]):l.take (k+1)=l.take k++[x]:=by
 rw[M9 h,hx]
theorem azt(f:Ou)(w:MO) :
  Ni MK 42 #[azE f] w fun r w'=>r=MN (M3 (ay4 f))/\MQ w.heap.size w w':=by
 have a:ay4 f=(Nn (f.kind<1) || decide (10<f.kind) || decide (f.why<0) || decide (5<f.why)):=rfl;rw[a];clear a;cases t0:Nn (f.kind<1)
 ·cases t1:Nn (10<f.kind)
  ·cases t2:Nn (f.why<0)
   ·cases t3:Nn (5<f.why)
    ·go_enter azZ,azX
     go_wp2;go_ret;exact⟨by rfl,WQ w⟩
    ·go_enter azZ,azX
     go_wp2;go_ret;exact⟨by rfl,WQ w⟩
   ·go_enter azZ,azX
    go_wp2;go_ret;exact⟨by rfl,WQ w⟩
  ·go_enter azZ,azX
   go_wp2;go_ret;exact⟨by rfl,WQ w⟩
 ·go_enter azZ,azX
  go_wp2;go_ret;exact⟨by rfl,WQ w⟩
theorem azw(v:M7)(l:List Ou)(w:MO)(hv:azq w v l) :
  Ni MK 62 #[v,PB (Fn.func 42) #[] #[]] w fun r w'=>r=MN (MF ME (X6 (l.findIdx (ay4)) l.length))/\MQ w.heap.size w w':=by
 obtain⟨q,D⟩:∃q:Ou->Bool,q=(ay4):=⟨_,rfl⟩;obtain⟨a,ca,rfl,a0,M,J⟩:=azq.F6 hv;unfold NE at M;have K:M6 (∀(x:Ou) (W:MO),MQ w.heap.size w W->Ni MK 42 #[azE x] W fun r w'=>r=MN (M3 (q x))/\MQ W.heap.size W w'):=by
  rw[D];exact fun x W hb=>azt x W
 rw[<-D];obtain⟨o,B⟩:∃o,o=X6 (l.findIdx q) l.length:=⟨_,rfl⟩;rw[<-B];have H:M6 _:=B;clear hv B D;go_enter Tryz.func62,Tryz.ntmps62;go_wp2
 go_loopw [8] (fun i wr=>∃k:Nat,i=MF ME k/\k<=l.length/\(∀t∈l.take k,q t=Nb)/\MQ w.heap.size w wr) (fun i _=>l.length-(intOf i).toNat)
 case atStart=>exact⟨0,rfl,Nx _,by simp,RowKit.Below.refl _ _⟩
 case round =>
  obtain⟨k,rfl,hk,u,b⟩:=hrel
  by_cases hlt:k<l.length
  ·obtain⟨j,m,rfl,e,c1,c2,c3,c4,c5,c6,c7⟩:=J k hlt
   have T:=(b.cell (p:=⟨j,m+k*7,MH⟩) e).trans c1;have Q:=(b.cell (p:=⟨j,m+k*7+1,MH⟩) e).trans c2;have O:=(b.cell (p:=⟨j,m+k*7+2,MH⟩) e).trans c3;have Z:=(b.cell (p:=⟨j,m+k*7+3,MH⟩) e).trans c4;have U:=(b.cell (p:=⟨j,m+k*7+4,MH⟩) e).trans c5;have N:=(b.cell (p:=⟨j,m+k*7+5,MH⟩) e).trans c6;have Y:=(b.cell (p:=⟨j,m+k*7+6,MH⟩) e).trans c7;have n:M6 (_/\_):=⟨u,b⟩;have a1:(k:Int)<(l.length:Int):=by omega
   have C:l.take (k+1)=l.take k++[l[k]]:=M9 hlt;have E:q l[k]=Nw->l.findIdx q=k:=fun h=>abZ hlt u h
   have z:∃x,x=l[k]:=⟨_,rfl⟩;obtain⟨x,z⟩:=z;rw[<-z]at T Q O Z U N Y C E;have L:M6 (_/\_):=⟨C,E⟩;clear u b c1 c2 c3 c4 c5 c6 c7 e J C E z;cases hd:q x
   ·go_wp2_with fail
    refine(K.out x _ n.out.2).mono ?_;rw[hd];rintro r S ⟨rfl,y⟩;have F:M6 _:=y;clear y;go_wp2
    go_roundw
    case rel =>
     refine⟨k+1,by simp,hlt,fun t d=>?_,n.out.2.trans (F.out.mono n.out.2.size)⟩;rw[L.out.1]at d;rcases List.mem_append.1 d with d|d
     ·exact n.out.1 t d
     ·simp at d
      rw[d];exact hd
    case measure=>simp[intOf];omega
   ·go_wp2_with fail
    refine(K.out x _ n.out.2).mono ?_;rw[hd];rintro r S ⟨rfl,y⟩;have I:M6 (o=(k:Int)):=by show o=_;rw[H.out,L.out.2 hd];exact Nh hlt
    have F:M6 _:=y;clear y;go_wp2;go_ret;exact⟨by rw[I.out];rfl,n.out.2.trans (F.out.mono n.out.2.size)⟩
  ·have I:M6 (o = -1):=by
    show o=_;rw[H.out,acp fun t d=>u t (by rw[N1 (by omega)];exact d)];exact Nf (Nat.lt_irrefl _)
   have HB:M6 _:=b;clear u b J;go_wp2;go_ret;exact⟨by rw[I.out];rfl,HB.out⟩
theorem azv(v:M7)(l:List Ou)(w:MO)(hv:azq w v l) :
  Ni MK 43 #[v,PB (Fn.func 42) #[] #[]] w fun r w'=>r=MN (M3 (l.any (ay4)))/\MQ w.heap.size w w':=by
 rw[<-ahq];have d:M6 _:=azw v l w hv;obtain⟨e,a⟩:∃e,e=X6 (l.findIdx (ay4)) l.length:=⟨_,rfl⟩;rw[<-a]at d⊢;clear a hv;go_enter Tryz.func43,Tryz.ntmps43
 go_wp2_with fail
 refine Nd d.out ?_;rintro r j ⟨rfl,b⟩;have i:M6 _:=b;clear b;go_wp2;go_ret;exact⟨rfl,i.out⟩
theorem azs(v:M7)(l:List Ou)(w:MO)(hv:azq w v l) :
  Ni MK 28 #[v] w fun r w'=>r=MN (MF ME (if ay2 l then 5 else 0))/\MQ w.heap.size w w':=by
 have b:M6 _:=azv v l w hv;have e:l.any ay4=ay2 l:=rfl;rw[e]at b;clear e hv;cases h:ay2 l
 ·rw[h]at b
  go_enter WF,Ww
  go_wp2_with fail
  refine Nd b.out ?_;rintro r i ⟨rfl,a⟩;have d:M6 _:=a;clear a;go_wp2;go_ret;exact⟨rfl,d.out⟩
 ·rw[h]at b
  go_enter WF,Ww
  go_wp2_with fail
  refine Nd b.out ?_;rintro r i ⟨rfl,a⟩;have d:M6 _:=a;clear a;go_wp2;go_ret;exact⟨rfl,d.out⟩
theorem azP:(#[MF ME 0,MF ME 0,MF ME 0,MF ME 0,MF ME 0,MF ME 0,MF ME 0,MF ME 0,MF ME 0,MF ME 0,MF ME 0,MF ME 0,MF ME 0,MF ME 0,MF ME 0,MF ME 0,MF ME 0]:Array M7)=(WR (Nj 17 0)).toArray:=rfl
theorem azx:(Tryz.prog.info? 86).map (·.size)=MI 17:=by kernel_rfl
theorem azC(v:M7)(l:List Ou)(w:MO)(hv:azq w v l) :
  Ni MK 21 #[v] w fun r w'=>r=MN (Nv #[Ny (WR (azk l).1).toArray,MF ME (azk l).2])/\MQ w.heap.size w w':=by
 obtain⟨p,c,rfl,hc,hm,pv⟩:=azq.F6 hv;unfold NE at hm;obtain⟨W0,S⟩:∃W0,W0=w.alloc (MP (WR (Nj 17 0)).toArray 86):=⟨_,rfl⟩;have a7:MQ w.heap.size w W0:=by rw[S];exact WQ w
 have a8:Xj 86 17 W0 w.heap.size (Nj 17 0):=by rw[S];exact⟨M1 _ _,by simp⟩
 have E:M6 (_/\_/\_/\_/\_):=⟨hv,pv,a7,a8,S⟩;clear hv pv a7 a8 S;have K:=OE (ac1 (Nj 17 0));have HO:M6 _:=K;clear K;go_enter Tryz.func21,Tryz.ntmps21
 go_wp2_with fail
 rw[azP,<-E.out.2.2.2.2];refine(azs _ l _ (E.out.1.below E.out.2.2.1)).mono ?_;rintro r j ⟨rfl,Z⟩;have o:=E.out.2.2.2.1.below Z;have N:=E.out.2.2.1.trans (Z.mono E.out.2.2.1.size);cases hbad:ay2 l
 ·rw[Nf Bool.false_ne_true]
  have J:azk l=(aze l,0):=by unfold azk;rw[hbad];rfl
  have H:M6 (_/\_/\_/\_):=⟨o,N,hbad,J⟩;have d4:=o.lt;clear o N Z hbad J;go_wp2;rw[azP];obtain⟨W2,T⟩:∃W2,W2=j.alloc (MP (WR (Nj 17 0)).toArray 86):=⟨_,rfl⟩;rw[<-T];have a9:MQ j.heap.size j W2:=by rw[T];exact WQ j
  have b6:Xj 86 17 W2 j.heap.size (aze (l.take 0)):=by rw[T,List.take_zero,azh];exact⟨M1 _ _,by simp⟩
  have H2:M6 (_/\_):=⟨a9,b6⟩;clear a9 b6 T
  go_loopw [16] (fun i wr=>∃k:Nat,i=MF ME k/\k<=l.length/\MQ j.heap.size j wr/\Xj 86 17 wr j.heap.size (aze (l.take k))) (fun i _=>l.length-(intOf i).toNat)
  case atStart=>exact⟨0,rfl,Nx _,H2.out.1,H2.out.2⟩
  case round =>
   obtain⟨k,rfl,hk,C,m⟩:=hrel
   by_cases hlt:k<l.length
   ·obtain⟨F,off,rfl,q,c1,c2,c3,c4,c5,c6,c7⟩:=E.out.2.1 k hlt
    have u:=H.out.2.1.trans (C.mono H.out.2.1.size);have e1:=(u.cell (p:=⟨F,off+k*7,MH⟩) q).trans c1;have e2:=(u.cell (p:=⟨F,off+k*7+1,MH⟩) q).trans c2;have e3:=(u.cell (p:=⟨F,off+k*7+2,MH⟩) q).trans c3;have e4:=(u.cell (p:=⟨F,off+k*7+3,MH⟩) q).trans c4;have e5:=(u.cell (p:=⟨F,off+k*7+4,MH⟩) q).trans c5;have e6:=(u.cell (p:=⟨F,off+k*7+5,MH⟩) q).trans c6;have e7:=(u.cell (p:=⟨F,off+k*7+6,MH⟩) q).trans c7;have U:=ay5 (ay3 H.out.2.2.1 (Nk hlt));obtain⟨⟨kd,sl,gn,be,rq,cd,wy⟩,hx⟩:∃x,x=l[k]:=⟨_,rfl⟩;have Y:=azM hlt hx;rw[<-hx]at e1 e2 e3 e4 e5 e6 e7 U
    dsimp only at e1 e2 e3 e4 e5 e6 e7 U
    obtain⟨n,rfl⟩:=Int.eq_ofNat_of_zero_le (a:=kd) (by omega);obtain⟨y,rfl⟩:=Int.eq_ofNat_of_zero_le (a:=wy) (by omega);have b7:n<11:=by omega
    have d7:(n:Int)<11:=by omega
    have c0:y<6:=by omega
    have d3:(y:Int)<6:=by omega
    have d0:(k:Int)<(l.length:Int):=by omega
    have d5:=m.lt;have d6:¬j.heap.size=wr.heap.size:=by omega
    have c8:¬wr.heap.size=j.heap.size:=by omega
    by_cases h6:n=6
    ·subst h6
     have M:=m.F7 6 (by rw[azg];omega);rw[azf _ 6 (by omega)]at M;have b9:=m.Gu 6;have a6:=m.F7 (11+y) (by rw[azg];omega);rw[azf _ (11+y) (by omega)]at a6;have d2:=m.Gu (11+y);have a2:ay6 (l.take k) 6<=k:=Nm (ay7 _ _) (by rw[NH];omega);have b8:ay6 (l.take k) (11+y)<=k:=Nm (ay7 _ _) (by rw[NH];omega);have d:=azj (l.take k) ⟨((6:Nat):Int),sl,gn,be,rq,cd,(y:Int)⟩ y rfl rfl c0;rw[<-Y]at d;obtain⟨Q,L⟩:∃Q,Q=ay6 (l.take k) 6:=⟨_,rfl⟩;obtain⟨n2,b5⟩:∃n2,n2=ay6 (l.take k) (11+y):=⟨_,rfl⟩;rw[<-L]at M a2 d;rw[<-b5]at a6 b8 d;have c9:¬11+y=6:=by omega
     have d1:¬6=11+y:=by omega
     have B:M6 (_/\_/\_):=⟨C,m,d⟩;clear C m d L b5 Y hx u c1 c2 c3 c4 c5 c6 c7 q U;go_wp2
     go_roundw
     case rel =>
      refine⟨k+1,by simp,hlt,?_,?_⟩
      ·exact((B.out.1.setCell (p:=⟨j.heap.size,6,MH⟩) (MV _) _).setCell (p:=⟨j.heap.size,11+y,MH⟩) (MV _) _).alloc (by simp;exact B.out.1.size) _
      ·rw[B.out.2.2]
       exact((B.out.2.1.F4 6 _).F4 (11+y) _).below (WQ _)
     case measure=>simp[intOf];omega
    ·have M:=m.F7 n (by rw[azg];omega)
     rw[azf _ n (by omega)]at M;have b9:=m.Gu n;have a2:ay6 (l.take k) n<=k:=Nm (ay7 _ _) (by rw[NH];omega);have d:=azi (l.take k) ⟨(n:Int),sl,gn,be,rq,cd,(y:Int)⟩ n rfl b7 (by show ¬(n:Int)=6;omega);rw[<-Y]at d;obtain⟨Q,L⟩:∃Q,Q=ay6 (l.take k) n:=⟨_,rfl⟩;rw[<-L]at M a2 d;have d8:¬(n:Int)=6:=by omega
     have B:M6 (_/\_/\_):=⟨C,m,d⟩;clear C m d L Y hx u c1 c2 c3 c4 c5 c6 c7 q U;go_wp2
     go_roundw
     case rel =>
      refine⟨k+1,by simp,hlt,?_,?_⟩
      ·exact(B.out.1.setCell (p:=⟨j.heap.size,n,MH⟩) (MV _) _).alloc (by simp;exact B.out.1.size) _
      ·rw[B.out.2.2]
       exact(B.out.2.1.F4 n _).below (WQ _)
     case measure=>simp[intOf];omega
   ·obtain rfl:k=l.length:=by omega
    rw[NT]at m;have o:=H.out.1.below C;obtain⟨D,z⟩:∃D,D=wr.setCells w.heap.size 0 (WR (aze l)):=⟨_,rfl⟩;have d:=(o.Hq (P:=MK) (b:=aze l) (azg l) azx).2;rw[<-z]at d;have a0:MQ w.heap.size w wr:=H.out.2.1.trans (C.mono H.out.2.1.size);have O:MQ w.heap.size w D:=by rw[z];exact adp a0 (MV _) 0 _ a0.size
    have a5:(Tryz.prog.info? 86).map (·.size)=MI (WR (aze l)).length:=by rw[azx,Zv,azg]
    have a4:wr.there w.heap.size 0 (WR (aze l)).toArray.size:=by simp[Zv,azg];exact o.GB
    have K:=OE (ac1 (aze l));have e:M6 (_/\_/\_/\_/\_/\_/\_):=⟨m.Gq,a5,a4,K,z,d,O⟩;clear m o d O a5 a4 K z C a0;obtain⟨I,a1⟩:∃I,I=WR (aze l):=⟨_,rfl⟩;rw[<-a1]at e;have HC:M6 _:=a1;clear a1
    go_wp2_with (first|((with_reducible refine O3 rfl 86 (O6 5) rfl j.heap.size 0 ?hx I _ ?hc azY ?hd ?hi ?_);(case hx=>rfl);(case hc=>exact e.out.1);(case hd=>rfl);(case hi=>exact e.out.2.1))|((with_reducible refine OW rfl 86 (O6 2) (O6 40) rfl w.heap.size 0 I.toArray ?hx ?hy ?ht ?hi ?h1 ?_);(case hx=>rfl);(case hy=>rfl);(case ht=>exact e.out.2.2.1);(case hi=>rw[e.out.2.1];simp);(case h1=>exact e.out.2.2.2.1);rw[show I.toArray.toList=I from rfl,<-e.out.2.2.2.2.1]))
    rw[H.out.2.2.2];refine Np (v:=Nv #[Ny (WR (aze l)).toArray,MF ME 0]) (XT Tryz.results21 rfl rfl (e.out.2.2.2.2.2.1.Io azY rfl azx)) rfl ⟨rfl,e.out.2.2.2.2.2.2⟩
 ·rw[Nh rfl]
  have J:azk l=(Nj 17 0,5):=by unfold azk;rw[hbad];rfl
  obtain⟨D,z⟩:∃D,D=j.setCells w.heap.size 0 (Array.toList (#[MF ME 0,MF ME 0,MF ME 0,MF ME 0,MF ME 0,MF ME 0,MF ME 0,MF ME 0,MF ME 0,MF ME 0,MF ME 0,MF ME 0,MF ME 0,MF ME 0,MF ME 0,MF ME 0,MF ME 0]:Array M7)):=⟨_,rfl⟩;have d:=(o.Hq (P:=MK) (b:=Nj 17 0) (by simp) azx).2;have a3:Xj 86 17 D w.heap.size (Nj 17 0):=by rw[z];exact d
  have O:MQ w.heap.size w D:=by rw[z];exact adp N (MV _) _ _ N.size
  have e:M6 (_/\_/\_/\_/\_):=⟨o.GB,O,a3,z,J⟩;clear o N Z hbad J d a3 O z
  go_wp2_with ((with_reducible refine OW rfl 86 (O6 2) (O6 12) rfl w.heap.size 0 #[MF ME 0,MF ME 0,MF ME 0,MF ME 0,MF ME 0,MF ME 0,MF ME 0,MF ME 0,MF ME 0,MF ME 0,MF ME 0,MF ME 0,MF ME 0,MF ME 0,MF ME 0,MF ME 0,MF ME 0] ?hx ?hy ?ht ?hi ?h1 ?_);(case hx=>rfl);(case hy=>rfl);(case ht=>exact e.out.1);(case hi=>exact azx);(case h1=>exact HO.out);rw[<-e.out.2.2.2.1])
  rw[e.out.2.2.2.2];refine Np (v:=Nv #[Ny (WR (Nj 17 0)).toArray,MF ME 5]) (XT Tryz.results21 rfl rfl (e.out.2.2.1.Io azY rfl azx)) rfl ⟨rfl,e.out.2.1⟩
abbrev azR:List Value:=[MF ME 0,MF ME 0,MF ME 0,MF ME 0,MF ME 0,MF ME 0,MF ME 0,MF ME 0,MF ME 0,MF ME 0,MF ME 0,MF ME 0,MF ME 0,MF ME 0,MF ME 0,MF ME 0,MF ME 0]
structure azp(W:MO)(l:List Ou)(cs:List M7)(Y:MO):Prop where
 is:WR (aze l)=cs
 at_:Y=(W.alloc (MP azR.toArray 86)).setCells W.heap.size 0 cs
 there:(W.alloc (MP azR.toArray 86)).there W.heap.size 0 cs.toArray.size
 len:cs.length=17
 one:cs.toArray.all (·.oneCell')=Nw
 bel:MQ W.heap.size W Y
 cell:∀j,j<17->Y.cell? ⟨W.heap.size,j,MH⟩=MI (MF ME (ay6 l j:Int))
 lt:W.heap.size<Y.heap.size
theorem azA(W:MO)(l:List Ou):∃(cs:List M7) (Y:MO),azp W l cs Y:=by
 have a:(WR (aze l)).length=17:=by rw[Zv,azg]
 have d:(W.alloc (MP azR.toArray 86)).heap[W.heap.size]?=MI (MP azR.toArray 86 (0,0)):=M1 _ _;have b:((W.alloc (MP azR.toArray 86)).setCells W.heap.size 0 (WR (aze l))).heap[W.heap.size]?=MI (MP (WR (aze l)).toArray 86 (0,0)):=anq d (by rw[a];rfl);refine⟨_,_,rfl,rfl,by rw[show(WR (aze l)).toArray.size=17 from List.size_toArray.trans a];exact afH (old:=azR) d,a,OE (ac1 _),adp (WQ W) (MV _) 0 _ (by simp),fun j hj=>?_,(Array.getElem?_eq_some_iff.1 b).1⟩;rw[MW _ _ j _ _ (0,0) b];have e:=azf l j hj;simp[WR,azg,hj,e]
theorem azy:(Tryz.prog.info? 86).map (·.size)=MI 17:=by kernel_rfl
theorem azD(v:M7)(l:List Ou)(w:MO)(hv:azq w v l)(hg:ay2 l=Nb) :
  Ni MK 21 #[v] w fun r w'=>r=MN (Nv #[Ny (WR (aze l)).toArray,MF ME 0])/\MQ w.heap.size w w':=by
 have h:=azC v l w hv;have e:azk l=(aze l,0):=by unfold azk;rw[hg];rfl
 rw[e]at h;exact h
theorem azB{a b:Int}(ha:0<=a/\a<=1000000)(hb:0<=b/\b<=1000000):0<=a*b/\a*b<=1000000*1000000:=⟨Int.mul_nonneg ha.1 hb.1,Int.mul_le_mul ha.2 hb.2 hb.1 (by omega)⟩
theorem azO{a b:Int}(ha:0<=a/\a<=1000000)(hb:0<=b/\b<=1000000):IntKind.i64.wrap (a*b)=a*b:=by
 have:=azB ha hb;rw[Ow];omega
theorem azu(l m:List Ou)(j:Nat):ay6 (l++m) j=ay6 l j+ay6 m j:=Qi
theorem azz(h:aaB c s)(h5:s.ev.kind=5):1<=ay6 s.out 8:=by
 have a:∀(r k:Int) (l:List Ou),s.out=⟨8,0,0,0,r,k,0⟩::l->1<=ay6 s.out 8:=fun r k l e=>by
  rw[e];unfold ay6;rw[List.countP_cons_of_pos rfl];omega
 have b:=h.out;rcases azm h.wm h.out0 (aeH h.ev) (Nt h5)with⟨q,_,_,_,e⟩|⟨_,_,_,e⟩|⟨_,q,l,_,_,e,_⟩
 ·exact a _ _ _ (b.trans e)
 ·exact a _ _ _ (b.trans e)
 ·exact a _ _ _ (b.trans e)
theorem azL(h:∀s∈P.steps,aaB c s)(h3:∀i,i<3->∃s,P.steps[i]?=MI s/\s.ev.kind=5):3<=ay6 (azG P) 8:=by
 have a:∀k,k<=3->k<=ay6 (azH P k) 8:=by
  intro k
  induction k with
  |zero=>intro _;exact Nx _
  |succ k ih =>
   intro a;obtain⟨s,b,d⟩:=h3 k (by omega);rw[azJ b,azu];have:=azz (h s (Nu b)) d;have:=ih (by omega);omega
 have j:=a 3 (MV _);have e:azG P=azH P 3++((P.steps.drop 3).map (·.out)).flatten:=by
  unfold azG azH;rw[<-PV,<-OI,List.take_append_drop]
 rw[e,azu];omega
theorem azN(f:Nat->Int)(hf:∀i,i<16->(Lit.int ME (f i)).wf=Nw)(ds:List Dd)(hds:∀d∈ds,ajd d){pd:Option Addr}{cd:Nat}(hrow:Xw agP w (MG pd ds.length cd) ds)(hB:Xo w):
  Ni MK 6 #[agc (f 0) (f 1) (f 2) (f 3) (f 4) (f 5) (f 6) (f 7) (f 8) (f 9) (f 10) (f 11) (f 12) (f 13) (f 14) (f 15),MG pd ds.length cd] w fun r w'=>r=MN (M3 Nw)/\MQ w.heap.size w w':=by
 obtain⟨L,hL,eL,Z⟩:=azK f hf ds hds hrow hB 80 (by omega);rw[eL];obtain⟨v,z⟩:∃v,v=w.alloc (MP L.toArray 24):=⟨_,rfl⟩;have y:MQ w.heap.size w v:=by rw[z];exact WQ w
 have l:M6 (_/\_/\_):=⟨hL,y,Z v y⟩;obtain⟨nd,M⟩:∃nd,nd=ds.length:=⟨_,rfl⟩;rw[<-M]at l⊢;clear hL eL Z y hf hds hrow hB M;go_enter Tryz.func6,Tryz.ntmps6
 go_wp2_with ((with_reducible refine O3 rfl 24 (O6 2) rfl w.heap.size 0 ?gx L _ ?gc Tryz.underlying24 ?gd ?gi ?_);(case gx=>rfl);(case gc=>exact afW (M1 _ _));(case gd=>rfl);(case gi=>rw[l.out.1];exact apz))
 rw[<-z];clear z;refine Nd l.out.2.2 ?_;rintro r w1 ⟨g,V,c,P,rfl,H,N,a0,a3,Q⟩;obtain⟨n,hn⟩:∃n,n=P.steps.length:=⟨_,rfl⟩;have e:M6 (_/\_/\_/\_/\_):=⟨H,N,hn,(show n<=80+4 by omega),Q⟩;have S:=l.out.2.1.trans (H.bel.mono l.out.2.1.size);have HB:M6 _:=S;clear H N a0 a3 Q hn l S;have HO:M6 _:=azF e.out.1 (by rw[<-e.out.2.2.1];have:=e.out.2.2.2.1;omega)
 go_wp2_with fail
 refine Nd HO.out ?_;rintro r w2 ⟨p2,q2,rfl,U,E⟩;obtain⟨m,J⟩:∃m,m=(azG P).length:=⟨_,rfl⟩;have O:=e.out.1.on E;have a2:M6 _:=O;have I:M6 (_/\_):=⟨U,HB.out.trans (E.mono HB.out.size)⟩;have HM:M6 _:=J;rw[<-J];clear U E HO O J;have K:(ay6 (azG P) 5:Int)*c.bd<=c.bb*c.bd+(ay6 (azG P) 1:Int)*c.bn:=e.out.1.rn.azS rfl rfl rfl;have p:M6 (_/\_/\_/\_/\_):=⟨e.out.1.rn.good rfl,K,azL e.out.1.rn.runs.chain e.out.2.2.2.2.1,e.out.2.1.ok,(by
  have h1:=azI e.out.1.rn.runs.chain P.steps.length;have h2:azH P P.steps.length=azG P:=by unfold azH azG;rw[NT]
  rw[h2,<-e.out.2.2.1]at h1;have:=e.out.2.2.2.1;omega:(azG P).length<=100000)⟩
 clear K;have a1:M6 _:=azD _ (azG P) w2 I.out.1 p.out.1
 go_wp2_with fail
 rw[HM.out];refine Nd a1.out ?_;rintro r w3 ⟨rfl,q⟩;obtain⟨cs,Y,j⟩:=azA w3 (azG P);rw[j.is];have u:=a2.out.on (q.trans (j.bel.mono q.size));have k1:=j.cell 1 (by omega);have k5:=j.cell 5 (by omega);have k8:=j.cell 8 (by omega);have a9:=j.lt;have a8:Y.cell? ⟨g,10,MH⟩=MI (MF ME c.bn):=u.pat.azU 10;have b6:Y.cell? ⟨g,11,MH⟩=MI (MF ME c.bd):=u.pat.azU 11;have b8:Y.cell? ⟨g,12,MH⟩=MI (MF ME c.bb):=u.pat.azU 12;have a7:=u.pat.lt;have a5:=ay7 (azG P) 1;have a4:=ay7 (azG P) 5;have D:=p.out.2.1;have b5:=p.out.2.2.1;have b7:=p.out.2.2.2.2;have a6:=p.out.2.2.2.1.2.2.2.2.2.2.2.2.2.2.1;have o:M6 _:=j;have T:M6 _:=I.out.2.trans (q.mono I.out.2.size);clear j q;generalize ay6 (azG P) 1=n1 at *;generalize ay6 (azG P) 5=n5 at *;generalize ay6 (azG P) 8=n8 at *;have b1:=azB (a:=(n5:Int)) (b:=c.bd) (by omega) (by omega);have b2:=azB (a:=c.bb) (b:=c.bd) (by omega) (by omega);have b3:=azB (a:=(n1:Int)) (b:=c.bn) (by omega) (by omega);have m1:=azO (a:=(n5:Int)) (b:=c.bd) (by omega) (by omega);have m2:=azO (a:=c.bb) (b:=c.bd) (by omega) (by omega);have m3:=azO (a:=(n1:Int)) (b:=c.bn) (by omega) (by omega);obtain⟨x1,F⟩:∃x,x=(n5:Int)*c.bd:=⟨_,rfl⟩;obtain⟨x2,C⟩:∃x,x=c.bb*c.bd:=⟨_,rfl⟩;obtain⟨x3,B⟩:∃x,x=(n1:Int)*c.bn:=⟨_,rfl⟩;replace m1:=m1.trans F.symm;replace m2:=m2.trans C.symm;replace m3:=m3.trans B.symm;rw[<-F]at b1 D;rw[<-C]at b2 D;rw[<-B]at b3 D;clear F C B;have m4:IntKind.i64.wrap (x2+x3)=x2+x3:=by rw[Ow];omega
 have h3:(3:Int)<=(n8:Int):=by omega
 go_wp2_with ((with_reducible refine OW rfl 86 (O6 7) (O6 20) rfl w3.heap.size 0 cs.toArray ?sx ?sy ?st ?si ?s1 ?_);(case sx=>rfl);(case sy=>rfl);(case st=>exact o.out.there);(case si=>rw[List.size_toArray,o.out.len];exact azy);(case s1=>exact o.out.one);rw[List.toList_toArray,<-o.out.at_])
 go_ret;exact⟨rfl,T.out.trans ((o.out.bel.trans ((WQ _).mono o.out.bel.size)).mono T.out.size)⟩
end Go.Proofs.YtmpokpecfclapaaGreatDoor.Q
