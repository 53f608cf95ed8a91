/-
  TopOutputs: its walk. Conditions: as each theorem says.
-/
import Derived.Test.YtmpokpecfclapaaGreatDoorQ20
open Bool renaming false->Nb,or_eq_false_iff->azO,true->Nw
open Decidable renaming decide->Nn
open Go renaming Calls->Ni,Value->M7,World->MO,all_oneCell_toArray->OE,bodyPost_ret->Np,cell_of_row->MW,heap_alloc_new->M1,maxLen->NE,wpList_load_mid->O3,wpList_store_mid->OW
open Go.Calls renaming mono->Nd
open Go.Ending renaming returned->MN
open Go.IntKind renaming i64->ME
open Go.Obj renaming cells->MP
open Go.Operand renaming tmp->O6
open Go.Proofs.Tryz renaming func28->WF,func42->azR,ntmps28->Ww,ntmps42->azP,prog->MK,underlying86->azQ
open Go.RowKit renaming Below->MQ,Hid->M6
open Go.Value renaming agg->Ny,bool->M3,func->PB,int->MF,slice->MG,tuple->Nv
open List renaming ext_getElem->PX,getElem_mem->Nk,getElem_set->Pc,length_set->NA,length_take->NH,replicate->Nj,size_toArray->OQ,take_length->NT,take_succ_eq_append_getElem->M9,toList_toArray->NS
open Nat renaming le_refl->MV,le_trans->Nm,zero_le->Nx
open Option renaming none->MH,some->MI
open Or renaming inl->Nt,inr->NF
namespace Go.Proofs.YtmpokpecfclapaaGreatDoor.Q
set_option linter.unusedVariables false
set_option linter.unusedSimpArgs false
set_option maxHeartbeats 16000000
set_option maxRecDepth 100000
open Go.RowKit
attribute [local go_sem ↓] Go.wp_at_zero Go.wp_at_succ
variable {c:Cf}{w:MO}
structure ay0(X Y:Gt):Prop where
 fls:Y.fls=X.fls
 tab:Y.tab=X.tab
 tok:Y.tok=X.tok
 cfg:Y.cfg=X.cfg
 out:Y.out=X.out
structure Mv(X Y:Gt)(F:List Fl)(T:List awY)(k:Int)(o:Ou):Prop where
 fls:Y.fls=F
 tab:Y.tab=T
 tok:Y.tok=k
 cfg:Y.cfg=X.cfg
 out:Y.out=X.out++[o]
abbrev ay1(f:Fl)(k y:Int):Prop:=(k=7/\y=0)\/(k=6/\((y=1/\f.srv=Nw)\/y=2\/(f.srv=Nb/\(y=3\/y=4\/y=5))))
structure azK(op:Prop)(R:Gt->Prop):Prop where
 same:∀X Y,ay0 X Y->R X->R Y
 no:∀X Y o,(o.kind=2\/o.kind=8\/o.kind=9\/o.kind=10)->o.why=0->Mv X Y X.fls X.tab X.tok o->R X->R Y
 ends:∀X Y f k y,Bs X->f∈X.fls->ay1 f k y->Mv X Y (X.fls.filter fun x=>x.slot != f.slot) (X.tab.set f.slot.toNat (f.gen+1,Nb,0,0)) X.tok ⟨k,f.slot,f.gen,f.be,0,0,y⟩->R X->R Y
 again:∀X Y i (hi:i<X.fls.length) b d,Bs X->X.fls[i].srv=Nb->X.fls[i].ret+1<=X.cfg.ret->X.cfg.bd<=X.tok->(0<=b/\b<12)->Mv X Y (X.fls.set i {X.fls[i]with be:=b,ret:=X.fls[i].ret+1,due:=d}) (X.tab.set X.fls[i].slot.toNat (X.fls[i].gen,Nw,X.fls[i].key,b)) (X.tok-X.cfg.bd) ⟨5,X.fls[i].slot,X.fls[i].gen,b,0,0,0⟩->R X->R Y
 serves:∀X Y i (hi:i<X.fls.length) d,Bs X->X.fls[i].srv=Nb->Mv X Y (X.fls.set i {X.fls[i]with srv:=Nw,due:=d}) X.tab X.tok ⟨4,X.fls[i].slot,X.fls[i].gen,X.fls[i].be,0,0,0⟩->R X->R Y
 forw:∀X Y i (hi:i<X.fls.length) d,Bs X->Mv X Y (X.fls.set i {X.fls[i]with due:=d}) X.tab X.tok ⟨3,X.fls[i].slot,X.fls[i].gen,X.fls[i].be,0,0,0⟩->R X->R Y
 opens:op->∀X Y (k:Nat) (hk:k<X.tab.length) key b d,Bs X->X.tab[k].2.1=Nb->(0<=X.tab[k].1/\X.tab[k].1<=1048575)->(0<=b/\b<12)->Mv X Y (Xi X.fls ⟨k,X.tab[k].1,key,b,Nb,0,d⟩ (Y3 X.fls k)) (X.tab.set k (X.tab[k].1,Nw,key,b)) (min (X.tok+X.cfg.bn) (X.cfg.bb*X.cfg.bd)) ⟨1,k,X.tab[k].1,b,0,0,0⟩->R X->R Y
section
variable {op:Prop}{R:Gt->Prop}{G:Gt}
theorem azK.drain(h:azK op R){X:Gt}(hR:R X)(b:Int):R (Yf X b):=by
 unfold Yf
 split
 ·exact h.no X _ _ (NF (NF (Nt rfl))) rfl ⟨rfl,rfl,rfl,rfl,rfl⟩ hR
 ·exact hR
theorem azK.Hc(h:azK op R){X:Gt}(hb:Bs X){f:Fl}(hf:f∈X.fls){k y:Int}(hy:ay1 f k y)(hR:R X):R (Yg X f k y):=by
 unfold Yg;refine h.drain ?_ _;exact h.ends X _ f k y hb hf hy ⟨hb.GL hf,congrArg Prod.fst (hb.Hj hf),rfl,rfl,rfl⟩ hR
theorem azK.I8(h:azK op R){X:Gt}(hb:Bs X){i:Nat}(hi:i<X.fls.length)(hs:X.fls[i].srv=Nb){y:Int}(hy:y=3\/y=5)(hR:R X):R (YP X i y):=by
 have a:=Nk hi;have j:=(hb.F9 a).2.2.2;rcases aeI hb hi y with⟨z,q,l⟩|⟨c,q,g,d,k,b,_⟩
 ·rw[q]
  refine azK.Hc h (X:=Yh X X.fls[i].be Nw) (hb.GA j Nw) a (NF ⟨rfl,NF (NF ⟨hs,by omega⟩)⟩) ?_;exact h.same X _ ⟨rfl,rfl,rfl,rfl,rfl⟩ hR
 ·obtain⟨T,e⟩:=ak0 (G:={Yh X X.fls[i].be Nw with tok:=X.tok-X.cfg.bd}) hi c
  rw[q,e];refine h.drain ?_ _;exact h.again X _ i hi c _ hb hs d g b ⟨rfl,congrArg Prod.fst (hb.Ho a b),rfl,rfl,rfl⟩ hR
theorem azK.Mm(h:azK op R)(hm:Wm G){e:Ev}(he:XZ e)(h7:e.kind=7->G.now+1<=1099511626776)(h1:e.kind=1->op)(hR:R G):R (Xb G e):=by
 have b:=hm.im.bs;have j:∀k,R (Yv G k e):=fun k=>h.no G _ _ (NF (Nt rfl)) rfl ⟨rfl,rfl,rfl,rfl,rfl⟩ hR
 unfold Xb
 split
 ·rename_i k1
  rcases afU b he.key with⟨q,_⟩|⟨q,_⟩|⟨k,n,_,_,m,_,v,u,_,q⟩ <;> rw[q]
  ·exact h.no G _ _ (Nt rfl) rfl ⟨rfl,rfl,rfl,rfl,rfl⟩ hR
  ·exact h.no G _ _ (Nt rfl) rfl ⟨rfl,rfl,rfl,rfl,rfl⟩ hR
  ·exact h.opens (h1 k1) G _ k n _ _ _ b v u m ⟨rfl,rfl,rfl,rfl,rfl⟩ hR
 ·split
  ·exact j 1
  ·split
   ·unfold abg
    split
    ·exact j 2
    ·split
     ·exact h.no (Yv G 2 e) _ _ (NF (NF (Nt rfl))) rfl ⟨rfl,rfl,rfl,rfl,rfl⟩ (j 2)
     ·exact h.drain (X:={Yv G 2 e with wts:=G.wts.set e.be.toNat 0}) (h.same (Yv G 2 e) _ ⟨rfl,rfl,rfl,rfl,rfl⟩ (j 2)) _
   ·split
    ·rename_i k7
     refine alk (R:=R) hm (h7 k7) ?_ (fun X f y hX hf d hR=>h.Hc hX.bs hf (NF ⟨rfl,by rcases d with d|d;exact Nt d;exact NF (Nt d)⟩) hR) (fun X i hX a g hR=>h.I8 hX.bs a g (NF rfl) hR);obtain⟨_,_,x,r,o,t,p,_⟩:=aeS (b.next (h7 k7));exact h.same G _ ⟨x,t,p,r,o⟩ hR
    ·rcases akr b e with⟨m,q⟩|⟨i,a,_,_,_,⟨_,q⟩|⟨_,q⟩|⟨_,_,⟨_,q⟩|⟨g,_,q⟩|⟨g,_,q⟩⟩⟩
     ·rw[q];exact h.no G _ _ (NF (NF (NF rfl))) rfl ⟨rfl,rfl,rfl,rfl,rfl⟩ hR
     ·rw[q];exact h.Hc b (Nk a) (Nt ⟨rfl,rfl⟩) hR
     ·obtain⟨T,l⟩:=aks a
      rw[q,l];refine h.forw G _ i a (if G.fls[i].srv then G.now+G.cfg.idle else G.fls[i].due) b ⟨?_,rfl,rfl,rfl,rfl⟩ hR;show G.fls.set i _=G.fls.set i _
      congr 1
      split <;> rfl
     ·rw[q];exact h.no G _ _ (NF (NF (NF rfl))) rfl ⟨rfl,rfl,rfl,rfl,rfl⟩ hR
     ·obtain⟨T,l⟩:=alb a
      rw[q,l];exact h.serves G _ i a _ b g ⟨rfl,rfl,rfl,rfl,rfl⟩ hR
     ·rw[q];exact h.I8 b a g (Nt rfl) hR
theorem aaB.flows{s:Sp}(h:aaB c s)(hF:azK op R)(h1:s.ev.kind=1->op)(h0:R s.bef):R {s.aft with out:=s.out}:=by
 have a:=hF.Mm h.wm (aeH h.ev) h.late h1 h0;refine hF.same (Xb s.bef s.ev) _ ⟨?_,?_,?_,?_,?_⟩ a
 ·show s.aft.fls=_;rw[h.aft];rfl
 ·show s.aft.tab=_;rw[h.aft];rfl
 ·show s.aft.tok=_;rw[h.aft];rfl
 ·show s.aft.cfg=_;rw[h.aft];rfl
 ·exact h.out
end
def ay4(o:Ou):Bool:=Nn (o.kind<1) || decide (10<o.kind) || decide (o.why<0) || decide (5<o.why)
def ay2(l:List Ou):Bool:=l.any ay4
theorem ay5{o:Ou}(h:ay4 o=Nb):(1<=o.kind/\o.kind<=10)/\0<=o.why/\o.why<=5:=by
 unfold ay4 at h;simp only[azO,decide_eq_false_iff_not]at h;omega
theorem ay3{l:List Ou}(h:ay2 l=Nb){o:Ou}(ho:o∈l):ay4 o=false:=by
 have:=List.any_eq_false.1 h o ho
 simpa using this
def azb(o:Ou)(j:Nat):Bool:=if j<11 then o.kind == (j:Int)else o.kind == 6 && o.why == ((j-11:Nat):Int)
def ay6(l:List Ou)(j:Nat):Nat:=l.countP fun o=>azb o j
def azc(l:List Ou):List Int:=(List.range 17).map fun j=>(ay6 l j:Int)
theorem aze(l:List Ou):(azc l).length=17:=by simp[azc]
theorem azf:azc []=Nj 17 0:=by simp[azc,ay6];rfl
theorem ay7(l:List Ou)(j:Nat):ay6 l j<=l.length:=List.countP_le_length
theorem azd(l:List Ou)(j:Nat)(hj:j<17):(azc l)[j]'(by rw[aze];exact hj)=(ay6 l j:Int):=by simp[azc]
theorem ay8(l:List Ou)(o:Ou)(j:Nat):ay6 (l++[o]) j=ay6 l j+(if azb o j then 1 else 0):=by
 simp[ay6,List.countP_append,List.countP_cons]
theorem azg(l:List Ou)(o:Ou)(k:Nat)(hk:o.kind=(k:Int))(h11:k<11)(h6:¬o.kind=6):azc (l++[o])=(azc l).set k ((ay6 l k:Int)+1):=by
 apply PX
 ·simp[aze]
 ·intro j a b
  rw[aze]at a;rw[azd _ _ a,Pc,ay8]
  by_cases e:k=j
  ·subst e
   simp[azb,h11,hk]
  ·rw[Nf e,azd _ _ a]
   have:azb o j=false:=by
    unfold azb
    split
    ·rw[hk]
     simp;omega
    ·simp[h6]
   simp[this]
theorem azh(l:List Ou)(o:Ou)(y:Nat)(hk:o.kind=6)(hy:o.why=(y:Int))(h6:y<6):azc (l++[o])=((azc l).set 6 ((ay6 l 6:Int)+1)).set (11+y) ((ay6 l (11+y):Int)+1):=by
 apply PX
 ·simp[aze]
 ·intro j a b
  rw[aze]at a;rw[azd _ _ a,Pc,Pc,ay8]
  by_cases e:11+y=j
  ·subst e
   simp[azb,hk,hy]
  ·rw[Nf e]
   by_cases e6:6=j
   ·subst e6
    simp[azb,hk]
   ·rw[Nf e6,azd _ _ a]
    have:azb o j=false:=by
     unfold azb
     split
     ·rw[hk]
      simp;omega
     ·rw[hk,hy]
      simp;omega
    simp[this]
def azm(l:List Ou):List Int×Int:=if ay2 l then(Nj 17 0,5)else(azc l,0)
def azk(l:List Ou):Int:=(ay6 l 1:Int)-(ay6 l 6:Int)-(ay6 l 7:Int)
section
variable {X:Gt}
theorem azj(h:Bs X){f:Fl}(hf:f∈X.fls):(X.fls.filter fun x=>x.slot != f.slot).length+1=X.fls.length:=by
 have a:=h.Ge;obtain⟨l,m,e⟩:=List.append_of_mem hf;rw[e]at a⊢;obtain⟨_,g,b⟩:=List.pairwise_append.1 a;obtain⟨d,_⟩:=List.pairwise_cons.1 g;rw[List.filter_append,List.filter_cons_of_neg (by simp),List.filter_eq_self.2 (fun x hx=>?_),List.filter_eq_self.2 (fun x hx=>?_)]
 ·simp;omega
 ·have:=d x hx;simp;omega
 ·have:=b x hx f (List.mem_cons_self ..);simp;omega
theorem azl(l:List Ou)(o:Ou):azk (l++[o])=azk l+(if o.kind=1 then 1 else 0)-(if o.kind=6\/o.kind=7 then 1 else 0):=by
 unfold azk;rw[ay8,ay8,ay8];have d:azb o 1=Nn (o.kind=1):=by unfold azb;rw[Nh (by decide)];rfl
 have a:azb o 6=Nn (o.kind=6):=by unfold azb;rw[Nh (by decide)];rfl
 have b:azb o 7=Nn (o.kind=7):=by unfold azb;rw[Nh (by decide)];rfl
 rw[d,a,b]
 by_cases h1:o.kind=1
 ·simp[h1];omega
 ·by_cases h6:o.kind=6
  ·simp[h6];omega
  ·by_cases h7:o.kind=7
   ·simp[h7];omega
   ·simp[h1,h6,h7]
theorem aza:azK True fun X=>ay2 X.out=false:=by
 have a:∀(X Y:Gt) (o:Ou),ay2 X.out=Nb->ay4 o=Nb->Y.out=X.out++[o]->ay2 Y.out=false:=fun X Y o h1 h2 h3=>by
  unfold ay2 at h1⊢;rw[h3,List.any_append,h1];simp[h2]
 refine⟨fun X Y hs hR=>by rw[hs.out];exact hR,fun X Y o ho hy hs hR=>a X Y _ hR ?_ hs.out,fun X Y f k y hb hf hy hs hR=>a X Y _ hR ?_ hs.out,fun X Y i hi b d hb h1 h2 h3 h4 hs hR=>a X Y _ hR rfl hs.out,fun X Y i hi d hb h1 hs hR=>a X Y _ hR rfl hs.out,fun X Y i hi d hb hs hR=>a X Y _ hR rfl hs.out,fun _ X Y k hk ky b d hb h1 h2 h3 hs hR=>a X Y _ hR rfl hs.out⟩
 ·unfold ay4
  simp only[azO,decide_eq_false_iff_not];omega
 ·unfold ay4
  simp only[azO,decide_eq_false_iff_not];omega
theorem azi(n:Int):azK True fun X=>(X.fls.length:Int)=n+azk X.out:=by
 refine⟨fun X Y hs hR=>by rw[hs.out,hs.fls];exact hR,fun X Y o ho hy hs hR=>?_,fun X Y f k y hb hf hy hs hR=>?_,fun X Y i hi b d hb h1 h2 h3 h4 hs hR=>?_,fun X Y i hi d hb h1 hs hR=>?_,fun X Y i hi d hb hs hR=>?_,fun _ X Y k hk ky b d hb h1 h2 h3 hs hR=>?_⟩ <;> rw[hs.out,hs.fls,azl]
 ·rw[Nf (by omega),Nf (by omega)];omega
 ·have:=azj hb hf
  show _=n+(azk X.out+(if k=1 then 1 else 0)-if k=6\/k=7 then 1 else 0);rw[Nf (by omega),Nh (by omega)];omega
 ·rw[NA];simpa using hR
 ·rw[NA];simpa using hR
 ·rw[NA];simpa using hR
 ·show _=n+(azk X.out+1-0)
  have:(Xi X.fls (⟨k,X.tab[k].1,ky,b,Nb,0,d⟩:Fl) (Y3 X.fls k)).length=X.fls.length+1:=ad1 _ _ (ad4 _ _);rw[this];omega
end
section
variable {A:Gt}{c:Cf}{P:Py}{s:Sp}
theorem aaB.good(h:aaB c s):ay2 s.out=false:=h.flows aza (fun _=>trivial) (by rw[h.out0];rfl)
theorem aaB.azM(h:aaB c s):(s.aft.fls.length:Int)=s.bef.fls.length+(ay6 s.out 1:Int)-(ay6 s.out 6:Int)-(ay6 s.out 7:Int):=by
 have:=h.flows (azi s.bef.fls.length) (fun _=>trivial) (by rw[h.out0];show _=_+(0:Int);omega);have e:(s.aft.fls.length:Int)=s.bef.fls.length+azk s.out:=this;unfold azk at e;omega
end
section
variable {G:Gt}
theorem ay9(h:Im G):(acG G).out.length<=G.out.length+960:=by
 have a:=(akI G.liv G G.liv.length h (MV _)).2.2;rw[NT]at a;have b:G.liv.length<=12:=h.bs.book.1.1;show(G.liv.foldl Zd G).out.length<=_;omega
theorem azo(h:Wm G)(hn:G.now+1<=1099511626776):(abj G).out.length<=G.out.length+1040:=by
 have d:=h.im.next hn;obtain⟨i,j,n,o,l,_⟩:=aeS d.bs;have m:=d.Jf;have e:=m.I2;have g:(aaC (YH {G with now:=G.now+1})).now=G.now+1:=i;have b:(aaC (YH {G with now:=G.now+1})).wnow=G.now:=j.trans h.wnow;obtain⟨k,_⟩:=e.Je (by rw[b,g]) (fun f a=>by
  have a:f∈(YH {G with now:=G.now+1}).fls:=a;rw[n]at a;rw[b];exact h.due f a)
 have r:=ay9 k;have q:=ao7 e.bs;have p:(aaC (YH {G with now:=G.now+1})).out.length=G.out.length:=congrArg List.length l;show(acG _).out.length<=_;omega
theorem azn(hm:Wm G)(e:Ev)(h7:e.kind=7->G.now+1<=1099511626776):(Xb G e).out.length<=G.out.length+1040:=by
 unfold Xb
 split
 ·unfold aaI
  split
  ·simp[acm,ZM]
  ·simp only[]
   split
   ·simp[acm,ZM]
   ·simp[abv,abi,ZM,YW]
 ·split
  ·simp[Yv,ZM]
  ·split
   ·unfold abg
    split
    ·simp[Yv,ZM]
    ·split
     ·simp[aeQ,Yv,ZM]
     ·refine Nm (aki _) ?_
      simp[Yv,ZM]
   ·split
    ·rename_i h
     exact azo hm (h7 h)
    ·unfold aaq
     simp only[]
     split
     ·simp[acm,ZM]
     ·split
      ·exact Nm (afK _ _ _) (by omega)
      ·split
       ·unfold aaZ
        simp only[]
        split <;> simp[abi,ZM,YW,Y4]
       ·split
        ·simp[acm,ZM]
        ·split
         ·simp[abh,abi,ZM,YW,Y4,Yh]
         ·exact Nm (aoZ _ _) (by omega)
theorem aaB.azN{s:Sp}(h:aaB c s):s.out.length<=1040:=by
 rw[h.out];have:=azn h.wm s.ev h.late;rw[h.out0]at this
 simpa using this
end
abbrev azG:List Value:=[MF ME 0,MF ME 0,MF ME 0,MF ME 0,M3 Nb,MF ME 0,MF ME 0,MF ME 0,MF ME 0,MF ME 0,MF ME 0,MF ME 0,MF ME 0,MF ME 0,MF ME 0,MF ME 0,MF ME 0,MF ME 0,MF ME 0,MF ME 0,MF ME 0,MF ME 0,MF ME 0,MF ME 0,MF ME 0,MG MH 0 0,MG MH 0 0,MG MH 0 0,MG MH 0 0,MG MH 0 0,MG MH 0 0,MF ME 0,MF ME 0,MG MH 0 0,MF ME 0,MF ME 0,MF ME 0,MF ME 0,MF ME 0,MF ME 0,MF ME 0,MF ME 0,MF ME 0,MF ME 0,MF ME 0,MF ME 0,MF ME 0,MF ME 0,MF ME 0,MF ME 0,MF ME 0,MG MH 0 0,MG MH 0 0,MG MH 0 0,MG MH 0 0,MG MH 0 0,MG MH 0 0,MF ME 0,MF ME 0,MG MH 0 0,MG MH 0 0]
theorem azz:(Tryz.prog.info? 64).map (·.size)=MI 61:=by kernel_rfl
theorem WU.Gm{base:Nat}{g:Nat}{V:Pv}{P:Py}(h:WU base w g V c P):w.cell? ⟨g,16,MH⟩=MI (MG V.ps P.steps.length V.cs):=by
 rw[MW w g 16 _ _ (0,0) h.box,h.steps];rfl
structure azr(W:MO)(ps:Option Addr)(k:Nat)(q:Sq)(b o:Nat):Prop where
 at_:ps=MI ⟨b,o,MH⟩
 cells:W.rangeAt b (o+k*61) (abK q)
 rd:aje W q
theorem XQ.step{W:MO}{g:Nat}{V:Pv}{P:Py}(h:XQ w W g V c P){k:Nat}(hk:k<P.steps.length):∃q b o,azr W V.ps k q b o/\P.steps[k]?=MI q.s/\aaB c q.s:=by
 have u:=h.pat.steps;have i:k<V.qs.length:=by omega
 have l:Xw abK W (MG V.ps V.qs.length V.cs) V.qs:=abw h.pat.rows;obtain⟨a,t,d,_,_,r⟩:=Xw.F6 avt l;injection d with q1 _ _;obtain⟨b,o,p,x,n⟩:=r k i;have e:P.steps[k]?=MI V.qs[k].s:=by rw[<-h.pat.eqs,List.getElem?_map,List.getElem?_eq_getElem i];rfl
 refine⟨V.qs[k],b,o,⟨q1.trans p,fun j v d=>?_,(h.pat.all _ (Nk i)).now⟩,e,h.rn.runs.chain _ (List.mem_of_getElem? e)⟩;have m:j<61:=(List.getElem?_eq_some_iff.1 d).1;rw[n j m];exact d
structure azs(W:MO)(b:Nat)(q:Sq):Prop where
 box:W.heap[b]?=MI (MP (abK q).toArray 64 (0,0))
 rd:aje W q
theorem aje.below{W Y:MO}{q:Sq}(h:aje W q)(hb:MQ W.heap.size W Y):aje Y q:=⟨h.1.below hb,h.2.1.below hb,h.2.2.below hb⟩
theorem azs.on{W Y:MO}{b:Nat}{q:Sq}(h:azs W b q)(hb:MQ W.heap.size W Y):azs Y b q:=⟨WO h.box hb,h.rd.below hb⟩
theorem azF(q:Sq):(abK q).toArray.all (·.oneCell')=true:=by
 apply OE;exact avs q
theorem azr.box{W:MO}{ps:Option Addr}{k:Nat}{q:Sq}{b o:Nat}(h:azr W ps k q b o):∃Y,Y=(W.alloc (MP azG.toArray 64)).setCells W.heap.size 0 (abK q)/\azs Y W.heap.size q/\MQ W.heap.size W Y/\(W.alloc (MP azG.toArray 64)).there W.heap.size 0 (abK q).toArray.size:=by
 have d:(W.alloc (MP azG.toArray 64)).heap[W.heap.size]?=MI (MP azG.toArray 64 (0,0)):=M1 _ _;have a:MQ W.heap.size W ((W.alloc (MP azG.toArray 64)).setCells W.heap.size 0 (abK q)):=adp (WQ W) (MV _) _ _ (by simp);exact⟨_,rfl,⟨anq d rfl,h.rd.below a⟩,a,(show(W.alloc (MP azG.toArray 64)).there W.heap.size 0 (abK q).toArray.size from afH (old:=azG) d)⟩
theorem azs.F7{W:MO}{b:Nat}{q:Sq}(h:azs W b q)(j:Nat):W.cell? ⟨b,j,MH⟩=(abK q)[j]?:=by
 rw[MW W b j _ _ (0,0) h.box];simp
theorem azE(f:Nat->Int)(hf:∀i,i<16->(Lit.int ME (f i)).wf=Nw)(ds:List Dd)(hds:∀d∈ds,ajd d){pd:Option Addr}{cd:Nat}(hrow:Xw agP w (MG pd ds.length cd) ds)(hblk:Xo w)(most:Nat)(hm:most<=100):
  ∃L:List M7,L.length=16/\agc (f 0) (f 1) (f 2) (f 3) (f 4) (f 5) (f 6) (f 7) (f 8) (f 9) (f 10) (f 11) (f 12) (f 13) (f 14) (f 15)=Ny L.toArray/\∀W,MQ w.heap.size w W->Ni MK 13 #[Ny L.toArray,MG pd ds.length cd,MF ME (most:Int)] W (au0 f most W):=
 ⟨[MF ME (f 0),MF ME (f 1),MF ME (f 2),MF ME (f 3),MF ME (f 4),MF ME (f 5),MF ME (f 6),MF ME (f 7),MF ME (f 8),MF ME (f 9),MF ME (f 10),MF ME (f 11),MF ME (f 12),MF ME (f 13),MF ME (f 14),MF ME (f 15)],rfl,rfl,fun W hB=>awU f hf ds hds W (hrow.below hB) (hblk.below hB) most hm⟩
abbrev azD(o:Ou):Value:=Ny #[MF ME o.kind,MF ME o.slot,MF ME o.gen,MF ME o.be,MF ME o.req,MF ME o.code,MF ME o.why]
abbrev azq(w:MO)(v:M7)(l:List Ou):Prop:=Xw Z1 w v l
theorem azq.F6{v:M7}{l:List Ou}(h:azq w v l):
  ∃a cap,v=MG a l.length cap/\l.length<=cap/\cap<=NE/\∀i (hi:i<l.length),∃b off,a=MI ⟨b,off,MH⟩/\b<w.heap.size/\w.cell? ⟨b,off+i*7,MH⟩=MI (MF ME l[i].kind)/\w.cell? ⟨b,off+i*7+1,MH⟩=MI (MF ME l[i].slot)/\w.cell? ⟨b,off+i*7+2,MH⟩=MI (MF ME l[i].gen)/\w.cell? ⟨b,off+i*7+3,MH⟩=MI (MF ME l[i].be)/\w.cell? ⟨b,off+i*7+4,MH⟩=MI (MF ME l[i].req)/\w.cell? ⟨b,off+i*7+5,MH⟩=MI (MF ME l[i].code)/\w.cell? ⟨b,off+i*7+6,MH⟩=MI (MF ME l[i].why):=by
 obtain⟨a,cap,e,n,j,m⟩:=Xw.F6 akV h;refine⟨a,cap,e,n,j,fun i hi=>?_⟩;obtain⟨b,off,g,k,d⟩:=m i hi;exact⟨b,off,g,k,(d 0 (by omega)).trans rfl,(d 1 (by omega)).trans rfl,(d 2 (by omega)).trans rfl,(d 3 (by omega)).trans rfl,(d 4 (by omega)).trans rfl,(d 5 (by omega)).trans rfl,(d 6 (by omega)).trans rfl⟩
theorem azH{α:Type}{l:List α}{k:Nat}(h:k<l.length){x:α}(hx:x=l[k]):l.take (k+1)=l.take k++[x]:=by
 rw[M9 h,hx]
theorem azu(f:Ou)(w:MO) :
  Ni MK 42 #[azD f] w fun r w'=>r=MN (M3 (ay4 f))/\MQ w.heap.size w w':=by
 have a:ay4 f=(Nn (f.kind<1) || decide (10<f.kind) || decide (f.why<0) || decide (5<f.why)):=rfl;rw[a];clear a;cases t0:Nn (f.kind<1)
 ·cases t1:Nn (10<f.kind)
  ·cases t2:Nn (f.why<0)
   ·cases t3:Nn (5<f.why)
    ·go_enter azR,azP
     go_wp2;go_ret;exact⟨by rfl,WQ w⟩
    ·go_enter azR,azP
     go_wp2;go_ret;exact⟨by rfl,WQ w⟩
   ·go_enter azR,azP
    go_wp2;go_ret;exact⟨by rfl,WQ w⟩
  ·go_enter azR,azP
   go_wp2;go_ret;exact⟨by rfl,WQ w⟩
 ·go_enter azR,azP
  go_wp2;go_ret;exact⟨by rfl,WQ w⟩
theorem azw(v:M7)(l:List Ou)(w:MO)(hv:azq w v l) :
  Ni MK 62 #[v,PB (Fn.func 42) #[] #[]] w fun r w'=>r=MN (MF ME (X6 (l.findIdx (ay4)) l.length))/\MQ w.heap.size w w':=by
 obtain⟨q,B⟩:∃q:Ou->Bool,q=(ay4):=⟨_,rfl⟩;obtain⟨a,ca,rfl,a0,L,F⟩:=azq.F6 hv;unfold NE at L;have J:M6 (∀(x:Ou) (W:MO),MQ w.heap.size w W->Ni MK 42 #[azD x] W fun r w'=>r=MN (M3 (q x))/\MQ W.heap.size W w'):=by
  rw[B];exact fun x W hb=>azu x W
 rw[<-B];obtain⟨n,z⟩:∃n,n=X6 (l.findIdx q) l.length:=⟨_,rfl⟩;rw[<-z];have H:M6 _:=z;clear hv z B;go_enter Tryz.func62,Tryz.ntmps62;go_wp2
 go_loopw [8] (fun i wr=>∃k:Nat,i=MF ME k/\k<=l.length/\(∀t∈l.take k,q t=Nb)/\MQ w.heap.size w wr) (fun i _=>l.length-(intOf i).toNat)
 case atStart=>exact⟨0,rfl,Nx _,by simp,RowKit.Below.refl _ _⟩
 case round =>
  obtain⟨k,rfl,hk,o,b⟩:=hrel
  by_cases hlt:k<l.length
  ·obtain⟨g,j,rfl,e,c1,c2,c3,c4,c5,c6,c7⟩:=F k hlt
   have T:=(b.cell (p:=⟨g,j+k*7,MH⟩) e).trans c1;have Y:=(b.cell (p:=⟨g,j+k*7+1,MH⟩) e).trans c2;have M:=(b.cell (p:=⟨g,j+k*7+2,MH⟩) e).trans c3;have V:=(b.cell (p:=⟨g,j+k*7+3,MH⟩) e).trans c4;have O:=(b.cell (p:=⟨g,j+k*7+4,MH⟩) e).trans c5;have Q:=(b.cell (p:=⟨g,j+k*7+5,MH⟩) e).trans c6;have S:=(b.cell (p:=⟨g,j+k*7+6,MH⟩) e).trans c7;have m:M6 (_/\_):=⟨o,b⟩;have Z:(k:Int)<(l.length:Int):=by omega
   have D:l.take (k+1)=l.take k++[l[k]]:=M9 hlt;have C:q l[k]=Nw->l.findIdx q=k:=fun h=>abZ hlt o h
   have y:∃x,x=l[k]:=⟨_,rfl⟩;obtain⟨x,y⟩:=y;rw[<-y]at T Y M V O Q S D C;have K:M6 (_/\_):=⟨D,C⟩;clear o b c1 c2 c3 c4 c5 c6 c7 e F D C y;cases hd:q x
   ·go_wp2_with fail
    refine(J.out x _ m.out.2).mono ?_;rw[hd];rintro r N ⟨rfl,u⟩;have I:M6 _:=u;clear u;go_wp2
    go_roundw
    case rel =>
     refine⟨k+1,by simp,hlt,fun t d=>?_,m.out.2.trans (I.out.mono m.out.2.size)⟩;rw[K.out.1]at d;rcases List.mem_append.1 d with d|d
     ·exact m.out.1 t d
     ·simp at d
      rw[d];exact hd
    case measure=>simp[intOf];omega
   ·go_wp2_with fail
    refine(J.out x _ m.out.2).mono ?_;rw[hd];rintro r N ⟨rfl,u⟩;have E:M6 (n=(k:Int)):=by show n=_;rw[H.out,K.out.2 hd];exact Nh hlt
    have I:M6 _:=u;clear u;go_wp2;go_ret;exact⟨by rw[E.out];rfl,m.out.2.trans (I.out.mono m.out.2.size)⟩
  ·have E:M6 (n = -1):=by
    show n=_;rw[H.out,acp fun t d=>o t (by rw[List.take_of_length_le (by omega)];exact d)];exact Nf (Nat.lt_irrefl _)
   have U:M6 _:=b;clear o b F;go_wp2;go_ret;exact⟨by rw[E.out];rfl,U.out⟩
theorem azv(v:M7)(l:List Ou)(w:MO)(hv:azq w v l) :
  Ni MK 43 #[v,PB (Fn.func 42) #[] #[]] w fun r w'=>r=MN (M3 (l.any (ay4)))/\MQ w.heap.size w w':=by
 rw[<-ahq];have b:M6 _:=azw v l w hv;obtain⟨e,a⟩:∃e,e=X6 (l.findIdx (ay4)) l.length:=⟨_,rfl⟩;rw[<-a]at b⊢;clear a hv;go_enter Tryz.func43,Tryz.ntmps43
 go_wp2_with fail
 refine Nd b.out ?_;rintro r i ⟨rfl,d⟩;have g:M6 _:=d;clear d;go_wp2;go_ret;exact⟨rfl,g.out⟩
theorem azt(v:M7)(l:List Ou)(w:MO)(hv:azq w v l) :
  Ni MK 28 #[v] w fun r w'=>r=MN (MF ME (if ay2 l then 5 else 0))/\MQ w.heap.size w w':=by
 have a:M6 _:=azv v l w hv;have e:l.any ay4=ay2 l:=rfl;rw[e]at a;clear e hv;cases h:ay2 l
 ·rw[h]at a
  go_enter WF,Ww
  go_wp2_with fail
  refine Nd a.out ?_;rintro r g ⟨rfl,b⟩;have d:M6 _:=b;clear b;go_wp2;go_ret;exact⟨rfl,d.out⟩
 ·rw[h]at a
  go_enter WF,Ww
  go_wp2_with fail
  refine Nd a.out ?_;rintro r g ⟨rfl,b⟩;have d:M6 _:=b;clear b;go_wp2;go_ret;exact⟨rfl,d.out⟩
theorem azJ:(#[MF ME 0,MF ME 0,MF ME 0,MF ME 0,MF ME 0,MF ME 0,MF ME 0,MF ME 0,MF ME 0,MF ME 0,MF ME 0,MF ME 0,MF ME 0,MF ME 0,MF ME 0,MF ME 0,MF ME 0]:Array M7)=(WR (Nj 17 0)).toArray:=rfl
theorem azx:(Tryz.prog.info? 86).map (·.size)=MI 17:=by kernel_rfl
theorem azB(v:M7)(l:List Ou)(w:MO)(hv:azq w v l) :
  Ni MK 21 #[v] w fun r w'=>r=MN (Nv #[Ny (WR (azm l).1).toArray,MF ME (azm l).2])/\MQ w.heap.size w w':=by
 obtain⟨p,c,rfl,hc,hm,pv⟩:=azq.F6 hv;unfold NE at hm;obtain⟨Y,Q⟩:∃Y,Y=w.alloc (MP (WR (Nj 17 0)).toArray 86):=⟨_,rfl⟩;have a8:MQ w.heap.size w Y:=by rw[Q];exact WQ w
 have a9:Xj 86 17 Y w.heap.size (Nj 17 0):=by rw[Q];exact⟨M1 _ _,by simp⟩
 have D:M6 (_/\_/\_/\_/\_):=⟨hv,pv,a8,a9,Q⟩;clear hv pv a8 a9 Q;have H:=OE (ac1 (Nj 17 0));have HO:M6 _:=H;clear H;go_enter Tryz.func21,Tryz.ntmps21
 go_wp2_with fail
 rw[azJ,<-D.out.2.2.2.2];refine(azt _ l _ (D.out.1.below D.out.2.2.1)).mono ?_;rintro r g ⟨rfl,S⟩;have n:=D.out.2.2.2.1.below S;have J:=D.out.2.2.1.trans (S.mono D.out.2.2.1.size);cases hbad:ay2 l
 ·rw[Nf Bool.false_ne_true]
  have I:azm l=(azc l,0):=by unfold azm;rw[hbad];rfl
  have E:M6 (_/\_/\_/\_):=⟨n,J,hbad,I⟩;have d4:=n.lt;clear n J S hbad I;go_wp2;rw[azJ];obtain⟨V,O⟩:∃V,V=g.alloc (MP (WR (Nj 17 0)).toArray 86):=⟨_,rfl⟩;rw[<-O];have b2:MQ g.heap.size g V:=by rw[O];exact WQ g
  have a7:Xj 86 17 V g.heap.size (azc (l.take 0)):=by rw[O,List.take_zero,azf];exact⟨M1 _ _,by simp⟩
  have H2:M6 (_/\_):=⟨b2,a7⟩;clear b2 a7 O
  go_loopw [16] (fun i wr=>∃k:Nat,i=MF ME k/\k<=l.length/\MQ g.heap.size g wr/\Xj 86 17 wr g.heap.size (azc (l.take k))) (fun i _=>l.length-(intOf i).toNat)
  case atStart=>exact⟨0,rfl,Nx _,H2.out.1,H2.out.2⟩
  case round =>
   obtain⟨k,rfl,hk,B,j⟩:=hrel
   by_cases hlt:k<l.length
   ·obtain⟨C,off,rfl,o,c1,c2,c3,c4,c5,c6,c7⟩:=D.out.2.1 k hlt
    have q:=E.out.2.1.trans (B.mono E.out.2.1.size);have e1:=(q.cell (p:=⟨C,off+k*7,MH⟩) o).trans c1;have e2:=(q.cell (p:=⟨C,off+k*7+1,MH⟩) o).trans c2;have e3:=(q.cell (p:=⟨C,off+k*7+2,MH⟩) o).trans c3;have e4:=(q.cell (p:=⟨C,off+k*7+3,MH⟩) o).trans c4;have e5:=(q.cell (p:=⟨C,off+k*7+4,MH⟩) o).trans c5;have e6:=(q.cell (p:=⟨C,off+k*7+5,MH⟩) o).trans c6;have e7:=(q.cell (p:=⟨C,off+k*7+6,MH⟩) o).trans c7;have T:=ay5 (ay3 E.out.2.2.1 (Nk hlt));obtain⟨⟨kd,sl,gn,be,rq,cd,wy⟩,hx⟩:∃x,x=l[k]:=⟨_,rfl⟩;have U:=azH hlt hx;rw[<-hx]at e1 e2 e3 e4 e5 e6 e7 T
    dsimp only at e1 e2 e3 e4 e5 e6 e7 T
    obtain⟨m,rfl⟩:=Int.eq_ofNat_of_zero_le (a:=kd) (by omega);obtain⟨y,rfl⟩:=Int.eq_ofNat_of_zero_le (a:=wy) (by omega);have b3:m<11:=by omega
    have d0:(m:Int)<11:=by omega
    have b7:y<6:=by omega
    have d5:(y:Int)<6:=by omega
    have c8:(k:Int)<(l.length:Int):=by omega
    have d1:=j.lt;have d3:¬g.heap.size=wr.heap.size:=by omega
    have c9:¬wr.heap.size=g.heap.size:=by omega
    by_cases h6:m=6
    ·subst h6
     have K:=j.F7 6 (by rw[aze];omega);rw[azd _ 6 (by omega)]at K;have b6:=j.Gu 6;have a4:=j.F7 (11+y) (by rw[aze];omega);rw[azd _ (11+y) (by omega)]at a4;have b9:=j.Gu (11+y);have a0:ay6 (l.take k) 6<=k:=Nm (ay7 _ _) (by rw[NH];omega);have b5:ay6 (l.take k) (11+y)<=k:=Nm (ay7 _ _) (by rw[NH];omega);have d:=azh (l.take k) ⟨((6:Nat):Int),sl,gn,be,rq,cd,(y:Int)⟩ y rfl rfl b7;rw[<-U]at d;obtain⟨N,L⟩:∃N,N=ay6 (l.take k) 6:=⟨_,rfl⟩;obtain⟨n2,a6⟩:∃n2,n2=ay6 (l.take k) (11+y):=⟨_,rfl⟩;rw[<-L]at K a0 d;rw[<-a6]at a4 b5 d;have c0:¬11+y=6:=by omega
     have b8:¬6=11+y:=by omega
     have u:M6 (_/\_/\_):=⟨B,j,d⟩;clear B j d L a6 U hx q c1 c2 c3 c4 c5 c6 c7 o T;go_wp2
     go_roundw
     case rel =>
      refine⟨k+1,by simp,hlt,?_,?_⟩
      ·exact((u.out.1.setCell (p:=⟨g.heap.size,6,MH⟩) (MV _) _).setCell (p:=⟨g.heap.size,11+y,MH⟩) (MV _) _).alloc (by simp;exact u.out.1.size) _
      ·rw[u.out.2.2]
       exact((u.out.2.1.F4 6 _).F4 (11+y) _).below (WQ _)
     case measure=>simp[intOf];omega
    ·have K:=j.F7 m (by rw[aze];omega)
     rw[azd _ m (by omega)]at K;have b6:=j.Gu m;have a0:ay6 (l.take k) m<=k:=Nm (ay7 _ _) (by rw[NH];omega);have d:=azg (l.take k) ⟨(m:Int),sl,gn,be,rq,cd,(y:Int)⟩ m rfl b3 (by show ¬(m:Int)=6;omega);rw[<-U]at d;obtain⟨N,L⟩:∃N,N=ay6 (l.take k) m:=⟨_,rfl⟩;rw[<-L]at K a0 d;have d2:¬(m:Int)=6:=by omega
     have u:M6 (_/\_/\_):=⟨B,j,d⟩;clear B j d L U hx q c1 c2 c3 c4 c5 c6 c7 o T;go_wp2
     go_roundw
     case rel =>
      refine⟨k+1,by simp,hlt,?_,?_⟩
      ·exact(u.out.1.setCell (p:=⟨g.heap.size,m,MH⟩) (MV _) _).alloc (by simp;exact u.out.1.size) _
      ·rw[u.out.2.2]
       exact(u.out.2.1.F4 m _).below (WQ _)
     case measure=>simp[intOf];omega
   ·obtain rfl:k=l.length:=by omega
    rw[NT]at j;have n:=E.out.1.below B;obtain⟨z,t⟩:∃z,z=wr.setCells w.heap.size 0 (WR (azc l)):=⟨_,rfl⟩;have d:=(n.Hq (P:=MK) (b:=azc l) (aze l) azx).2;rw[<-t]at d;have a1:MQ w.heap.size w wr:=E.out.2.1.trans (B.mono E.out.2.1.size);have M:MQ w.heap.size w z:=by rw[t];exact adp a1 (MV _) 0 _ a1.size
    have a3:(Tryz.prog.info? 86).map (·.size)=MI (WR (azc l)).length:=by rw[azx,Zv,aze]
    have a5:wr.there w.heap.size 0 (WR (azc l)).toArray.size:=by simp[Zv,aze];exact n.GB
    have H:=OE (ac1 (azc l));have e:M6 (_/\_/\_/\_/\_/\_/\_):=⟨j.Gq,a3,a5,H,t,d,M⟩;clear j n d M a3 a5 H t B a1;obtain⟨F,Z⟩:∃F,F=WR (azc l):=⟨_,rfl⟩;rw[<-Z]at e;have HC:M6 _:=Z;clear Z
    go_wp2_with (first|((with_reducible refine O3 rfl 86 (O6 5) rfl g.heap.size 0 ?hx F _ ?hc azQ ?hd ?hi ?_);(case hx=>rfl);(case hc=>exact e.out.1);(case hd=>rfl);(case hi=>exact e.out.2.1))|((with_reducible refine OW rfl 86 (O6 2) (O6 40) rfl w.heap.size 0 F.toArray ?hx ?hy ?ht ?hi ?h1 ?_);(case hx=>rfl);(case hy=>rfl);(case ht=>exact e.out.2.2.1);(case hi=>rw[e.out.2.1];simp);(case h1=>exact e.out.2.2.2.1);rw[show F.toArray.toList=F from rfl,<-e.out.2.2.2.2.1]))
    rw[E.out.2.2.2];refine Np (v:=Nv #[Ny (WR (azc l)).toArray,MF ME 0]) (XT Tryz.results21 rfl rfl (e.out.2.2.2.2.2.1.Io azQ rfl azx)) rfl ⟨rfl,e.out.2.2.2.2.2.2⟩
 ·rw[Nh rfl]
  have I:azm l=(Nj 17 0,5):=by unfold azm;rw[hbad];rfl
  obtain⟨z,t⟩:∃z,z=g.setCells w.heap.size 0 (Array.toList (#[MF ME 0,MF ME 0,MF ME 0,MF ME 0,MF ME 0,MF ME 0,MF ME 0,MF ME 0,MF ME 0,MF ME 0,MF ME 0,MF ME 0,MF ME 0,MF ME 0,MF ME 0,MF ME 0,MF ME 0]:Array M7)):=⟨_,rfl⟩;have d:=(n.Hq (P:=MK) (b:=Nj 17 0) (by simp) azx).2;have a2:Xj 86 17 z w.heap.size (Nj 17 0):=by rw[t];exact d
  have M:MQ w.heap.size w z:=by rw[t];exact adp J (MV _) _ _ J.size
  have e:M6 (_/\_/\_/\_/\_):=⟨n.GB,M,a2,t,I⟩;clear n J S hbad I d a2 M t
  go_wp2_with ((with_reducible refine OW rfl 86 (O6 2) (O6 12) rfl w.heap.size 0 #[MF ME 0,MF ME 0,MF ME 0,MF ME 0,MF ME 0,MF ME 0,MF ME 0,MF ME 0,MF ME 0,MF ME 0,MF ME 0,MF ME 0,MF ME 0,MF ME 0,MF ME 0,MF ME 0,MF ME 0] ?hx ?hy ?ht ?hi ?h1 ?_);(case hx=>rfl);(case hy=>rfl);(case ht=>exact e.out.1);(case hi=>exact azx);(case h1=>exact HO.out);rw[<-e.out.2.2.2.1])
  rw[e.out.2.2.2.2];refine Np (v:=Nv #[Ny (WR (Nj 17 0)).toArray,MF ME 5]) (XT Tryz.results21 rfl rfl (e.out.2.2.1.Io azQ rfl azx)) rfl ⟨rfl,e.out.2.1⟩
abbrev azL:List Value:=[MF ME 0,MF ME 0,MF ME 0,MF ME 0,MF ME 0,MF ME 0,MF ME 0,MF ME 0,MF ME 0,MF ME 0,MF ME 0,MF ME 0,MF ME 0,MF ME 0,MF ME 0,MF ME 0,MF ME 0]
structure azp(W:MO)(l:List Ou)(cs:List M7)(Y:MO):Prop where
 is:WR (azc l)=cs
 at_:Y=(W.alloc (MP azL.toArray 86)).setCells W.heap.size 0 cs
 there:(W.alloc (MP azL.toArray 86)).there W.heap.size 0 cs.toArray.size
 len:cs.length=17
 one:cs.toArray.all (·.oneCell')=Nw
 bel:MQ W.heap.size W Y
 cell:∀j,j<17->Y.cell? ⟨W.heap.size,j,MH⟩=MI (MF ME (ay6 l j:Int))
 lt:W.heap.size<Y.heap.size
theorem azA(W:MO)(l:List Ou):∃(cs:List M7) (Y:MO),azp W l cs Y:=by
 have a:(WR (azc l)).length=17:=by rw[Zv,aze]
 have d:(W.alloc (MP azL.toArray 86)).heap[W.heap.size]?=MI (MP azL.toArray 86 (0,0)):=M1 _ _;have b:((W.alloc (MP azL.toArray 86)).setCells W.heap.size 0 (WR (azc l))).heap[W.heap.size]?=MI (MP (WR (azc l)).toArray 86 (0,0)):=anq d (by rw[a];rfl);refine⟨_,_,rfl,rfl,by rw[show(WR (azc l)).toArray.size=17 from List.size_toArray.trans a];exact afH (old:=azL) d,a,OE (ac1 _),adp (WQ W) (MV _) 0 _ (by simp),fun j hj=>?_,(Array.getElem?_eq_some_iff.1 b).1⟩;rw[MW _ _ j _ _ (0,0) b];have e:=azd l j hj;simp[WR,aze,hj,e]
theorem azy:(Tryz.prog.info? 86).map (·.size)=MI 17:=by kernel_rfl
theorem azC(v:M7)(l:List Ou)(w:MO)(hv:azq w v l)(hg:ay2 l=Nb) :
  Ni MK 21 #[v] w fun r w'=>r=MN (Nv #[Ny (WR (azc l)).toArray,MF ME 0])/\MQ w.heap.size w w':=by
 have h:=azB v l w hv;have e:azm l=(azc l,0):=by unfold azm;rw[hg];rfl
 rw[e]at h;exact h
theorem azI(f:Nat->Int)(hf:∀i,i<16->(Lit.int ME (f i)).wf=Nw)(ds:List Dd)(hds:∀d∈ds,ajd d){pd:Option Addr}{cd:Nat}(hrow:Xw agP w (MG pd ds.length cd) ds)(hB:Xo w):
  Ni MK 5 #[agc (f 0) (f 1) (f 2) (f 3) (f 4) (f 5) (f 6) (f 7) (f 8) (f 9) (f 10) (f 11) (f 12) (f 13) (f 14) (f 15),MG pd ds.length cd] w fun r w'=>r=MN (M3 Nw)/\MQ w.heap.size w w':=by
 obtain⟨L,hL,eL,a7⟩:=azE f hf ds hds hrow hB 60 (by omega);rw[eL];obtain⟨B,I⟩:∃B,B=w.alloc (MP L.toArray 24):=⟨_,rfl⟩;have N:MQ w.heap.size w B:=by rw[I];exact WQ w
 have p:M6 (_/\_/\_):=⟨hL,N,a7 B N⟩;obtain⟨nd,a8⟩:∃nd,nd=ds.length:=⟨_,rfl⟩;rw[<-a8]at p⊢;clear hL eL a7 N hf hds hrow hB a8;go_enter Tryz.func5,Tryz.ntmps5
 go_wp2_with ((with_reducible refine O3 rfl 24 (O6 2) rfl w.heap.size 0 ?gx L _ ?gc Tryz.underlying24 ?gd ?gi ?_);(case gx=>rfl);(case gc=>exact afW (M1 _ _));(case gd=>rfl);(case gi=>rw[p.out.1];exact apz))
 rw[<-I];clear I;refine Nd p.out.2.2 ?_;rintro r w1 ⟨g,V,c,P,rfl,hS,a4,b5,b2,a2⟩;obtain⟨n,hn⟩:∃n,n=P.steps.length:=⟨_,rfl⟩;have E:M6 (_/\_/\_/\_/\_):=⟨hS,a4,hn,(show n<=60+4 by omega),a2⟩;have a6:=p.out.2.1.trans (hS.bel.mono p.out.2.1.size);have HB:M6 _:=a6;clear hS a4 b5 b2 a2 hn p a6
 go_wp2_with fail
 go_loopw [7,8,9,10] (fun i _ _ _ wr=>∃k:Nat,i=MF ME (k:Int)/\k<=n/\M6 (MQ w1.heap.size w1 wr)) (fun i _ _ _ _=>n-(intOf i).toNat)
 case atStart=>exact⟨0,rfl,Nx _,RowKit.Below.refl _ _⟩
 case round =>
  obtain⟨k,rfl,hk,z⟩:=hrel;have y:=E.out.1.on z.out;have b6:wr.cell? ⟨g,16,MH⟩=MI (MG V.ps n V.cs):=by rw[E.out.2.2.1];exact y.pat.Gm
  have c9:=y.pat.lt
  by_cases hlt:k<n
  ·have a9:(k:Int)<(n:Int):=by omega
   have c8:n<=9223372036854775807:=by have:=E.out.2.2.2.1;omega
   obtain⟨q,b,o,F,a0,a3⟩:=y.step (k:=k) (by rw[<-E.out.2.2.1];exact hlt);obtain⟨Y,U,O,J,T⟩:=F.box;obtain⟨R,C⟩:∃R,R=abK q:=⟨_,rfl⟩;have a5:=F.at_;have b9:Y.cell? ⟨wr.heap.size,60,MH⟩=MI (MG q.po q.s.out.length q.co):=(O.F7 60).trans rfl;have M:=F.cells;rw[<-C]at U T M;have e:M6 (_/\_/\_/\_/\_/\_):=⟨M,T,U,C,z.out.trans (J.mono z.out.size),(show R.length=61 by rw[C];rfl)⟩;have j:M6 (_/\_/\_/\_):=⟨a0,a3,O,J⟩;clear F a0 a3 U O J T C M;rw[a5]at b6;clear a5
   have b3:M6 _:=azC _ q.s.out Y j.out.2.2.1.rd.2.2 j.out.2.1.good;clear y
   go_wp2_with (first|((with_reducible refine O3 rfl 64 (O6 31) rfl b (o+k*61) ?gx R _ ?gc Tryz.underlying64 ?gd ?gi ?_);(case gx=>rfl);(case gc=>exact e.out.1);(case gd=>rfl);(case gi=>rw[e.out.2.2.2.2.2];exact azz))|((with_reducible refine OW rfl 64 (O6 8) (O6 32) rfl wr.heap.size 0 R.toArray ?sx ?sy ?st ?si ?s1 ?_);(case sx=>rfl);(case sy=>rfl);(case st=>exact e.out.2.1);(case si=>rw[OQ,e.out.2.2.2.2.2];exact azz);(case s1=>rw[e.out.2.2.2.1];exact azF q);rw[NS,<-e.out.2.2.1]))
   refine Nd b3.out ?_;rintro r w3 ⟨rfl,x⟩;obtain⟨cs,Z,a⟩:=azA w3 (q.s.out);rw[a.is];obtain⟨l,a1⟩:∃l,l=wr.heap.size:=⟨_,rfl⟩;have t:=(j.out.2.2.1.on x).on a.bel;have H:=j.out.2.2.1.on x;rw[<-a1]at t H⊢;have l8:l<Z.heap.size:=(Array.getElem?_eq_some_iff.1 t.box).1;have l3:l<w3.heap.size:=(Array.getElem?_eq_some_iff.1 H.box).1;have b8:=a.lt;clear H a1;have k1:=a.cell 1 (by omega);have k6:=a.cell 6 (by omega);have k7:=a.cell 7 (by omega);obtain⟨m1,K⟩:∃m,m=q.s.bef.fls.length:=⟨_,rfl⟩;obtain⟨m2,Q⟩:∃m,m=q.s.aft.fls.length:=⟨_,rfl⟩;have d2:Z.cell? ⟨l,26,MH⟩=MI (MG q.u.pf m1 q.u.cf):=by rw[K];exact(t.F7 26).trans rfl
   have d1:Z.cell? ⟨l,52,MH⟩=MI (MG q.v.pf m2 q.v.cf):=by rw[Q];exact(t.F7 52).trans rfl
   have S:=j.out.2.1.azM;have b7:=j.out.2.1.wm.im.bs.Gb;have p1:=ay7 q.s.out 1;have p6:=ay7 q.s.out 6;have p7:=ay7 q.s.out 7;have c0:=j.out.2.1.azN;rw[<-K]at S b7;rw[<-Q]at S;generalize ay6 q.s.out 1=n1 at *;generalize ay6 q.s.out 6=n6 at *;generalize ay6 q.s.out 7=n7 at *;have d0:((m2:Int) != (m1:Int)+n1-n6-n7)=false:=by rw[S];simp
   have D:M6 _:=a;have HE:M6 _:=e.out.2.2.2.2.1.trans ((x.trans (a.bel.mono x.size)).mono e.out.2.2.2.2.1.size);clear a x t K Q
   go_wp2_with ((with_reducible refine OW rfl 86 (O6 9) (O6 37) rfl w3.heap.size 0 cs.toArray ?sx ?sy ?st ?si ?s1 ?_);(case sx=>rfl);(case sy=>rfl);(case st=>exact D.out.there);(case si=>rw[OQ,D.out.len];exact azy);(case s1=>exact D.out.one);rw[NS,<-D.out.at_])
   go_roundw
   case rel=>exact⟨k+1,by simp,hlt,HE.out⟩
   case measure=>simp[intOf];omega
  ·obtain rfl:k=n:=by omega
   have a9:¬(k:Int)<(k:Int):=by omega
   go_wp2;go_ret;exact⟨rfl,HB.out.trans (z.out.mono HB.out.size)⟩
end Go.Proofs.YtmpokpecfclapaaGreatDoor.Q
