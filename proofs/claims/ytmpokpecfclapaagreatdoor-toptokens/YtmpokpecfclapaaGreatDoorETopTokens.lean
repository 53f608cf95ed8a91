/-
  TopTokens: its walk. Conditions: as each theorem says.
-/
import Derived.Test.YtmpokpecfclapaaGreatDoorQ20
open Bool renaming false->Nb,or_eq_false_iff->azP,true->Nw
open Decidable renaming decide->Nn
open Go renaming Calls->Ni,Value->M7,World->MO,all_oneCell_toArray->OE,bodyPost_ret->Np,cell_of_row->MW,heap_alloc_new->M1,maxLen->NE,wpList_load_mid->O3,wpList_store_mid->OW
open Go.Calls renaming mono->Nd
open Go.Ending renaming returned->MN
open Go.IntKind renaming i64->ME,wrap_i64->Ow
open Go.Obj renaming cells->MP
open Go.Operand renaming tmp->O6
open Go.Proofs.Tryz renaming func28->WF,func42->azS,ntmps28->Ww,ntmps42->azQ,prog->MK,underlying86->azR
open Go.RowKit renaming Below->MQ,Hid->M6
open Go.Value renaming agg->Ny,bool->M3,func->PB,int->MF,slice->MG,tuple->Nv
open List renaming ext_getElem->PX,getElem_mem->Nk,getElem_set->Pc,length_take->NH,replicate->Nj,size_toArray->OQ,take_length->NT,take_succ_eq_append_getElem->M9,toList_toArray->NS
open Nat renaming le_refl->MV,le_trans->Nm,zero_le->Nx
open Option renaming none->MH,some->MI
open Or renaming inl->Nt,inr->NF
namespace Go.Proofs.YtmpokpecfclapaaGreatDoor.Q
set_option linter.unusedVariables false
set_option linter.unusedSimpArgs false
set_option maxHeartbeats 16000000
set_option maxRecDepth 100000
open Go.RowKit
attribute [local go_sem ↓] Go.wp_at_zero Go.wp_at_succ
variable {c:Cf}{w:MO}{g:Nat}{V:Pv}{P:Py}{s:Sp}
section
variable {A:Gt}{c:Cf}{P:Py}
theorem aaB.next(h:aaB c s):Wm s.aft:=by rw[h.aft];exact(h.wm.Mm (aeH h.ev) h.late).Ma
end
structure ay0(X Y:Gt):Prop where
 fls:Y.fls=X.fls
 tab:Y.tab=X.tab
 tok:Y.tok=X.tok
 cfg:Y.cfg=X.cfg
 out:Y.out=X.out
structure Mv(X Y:Gt)(F:List Fl)(T:List awY)(k:Int)(o:Ou):Prop where
 fls:Y.fls=F
 tab:Y.tab=T
 tok:Y.tok=k
 cfg:Y.cfg=X.cfg
 out:Y.out=X.out++[o]
abbrev ay1(f:Fl)(k y:Int):Prop:=(k=7/\y=0)\/(k=6/\((y=1/\f.srv=Nw)\/y=2\/(f.srv=Nb/\(y=3\/y=4\/y=5))))
structure azK(op:Prop)(R:Gt->Prop):Prop where
 same:∀X Y,ay0 X Y->R X->R Y
 no:∀X Y o,(o.kind=2\/o.kind=8\/o.kind=9\/o.kind=10)->o.why=0->Mv X Y X.fls X.tab X.tok o->R X->R Y
 ends:∀X Y f k y,Bs X->f∈X.fls->ay1 f k y->Mv X Y (X.fls.filter fun x=>x.slot != f.slot) (X.tab.set f.slot.toNat (f.gen+1,Nb,0,0)) X.tok ⟨k,f.slot,f.gen,f.be,0,0,y⟩->R X->R Y
 again:∀X Y i (hi:i<X.fls.length) b d,Bs X->X.fls[i].srv=Nb->X.fls[i].ret+1<=X.cfg.ret->X.cfg.bd<=X.tok->(0<=b/\b<12)->Mv X Y (X.fls.set i {X.fls[i]with be:=b,ret:=X.fls[i].ret+1,due:=d}) (X.tab.set X.fls[i].slot.toNat (X.fls[i].gen,Nw,X.fls[i].key,b)) (X.tok-X.cfg.bd) ⟨5,X.fls[i].slot,X.fls[i].gen,b,0,0,0⟩->R X->R Y
 serves:∀X Y i (hi:i<X.fls.length) d,Bs X->X.fls[i].srv=Nb->Mv X Y (X.fls.set i {X.fls[i]with srv:=Nw,due:=d}) X.tab X.tok ⟨4,X.fls[i].slot,X.fls[i].gen,X.fls[i].be,0,0,0⟩->R X->R Y
 forw:∀X Y i (hi:i<X.fls.length) d,Bs X->Mv X Y (X.fls.set i {X.fls[i]with due:=d}) X.tab X.tok ⟨3,X.fls[i].slot,X.fls[i].gen,X.fls[i].be,0,0,0⟩->R X->R Y
 opens:op->∀X Y (k:Nat) (hk:k<X.tab.length) key b d,Bs X->X.tab[k].2.1=Nb->(0<=X.tab[k].1/\X.tab[k].1<=1048575)->(0<=b/\b<12)->Mv X Y (Xi X.fls ⟨k,X.tab[k].1,key,b,Nb,0,d⟩ (Y3 X.fls k)) (X.tab.set k (X.tab[k].1,Nw,key,b)) (min (X.tok+X.cfg.bn) (X.cfg.bb*X.cfg.bd)) ⟨1,k,X.tab[k].1,b,0,0,0⟩->R X->R Y
section
variable {op:Prop}{R:Gt->Prop}{G:Gt}
theorem azK.drain(h:azK op R){X:Gt}(hR:R X)(b:Int):R (Yf X b):=by
 unfold Yf
 split
 ·exact h.no X _ _ (NF (NF (Nt rfl))) rfl ⟨rfl,rfl,rfl,rfl,rfl⟩ hR
 ·exact hR
theorem azK.Hc(h:azK op R){X:Gt}(hb:Bs X){f:Fl}(hf:f∈X.fls){k y:Int}(hy:ay1 f k y)(hR:R X):R (Yg X f k y):=by
 unfold Yg;refine h.drain ?_ _;exact h.ends X _ f k y hb hf hy ⟨hb.GL hf,congrArg Prod.fst (hb.Hj hf),rfl,rfl,rfl⟩ hR
theorem azK.I8(h:azK op R){X:Gt}(hb:Bs X){i:Nat}(hi:i<X.fls.length)(hs:X.fls[i].srv=Nb){y:Int}(hy:y=3\/y=5)(hR:R X):R (YP X i y):=by
 have a:=Nk hi;have k:=(hb.F9 a).2.2.2;rcases aeI hb hi y with⟨z,q,l⟩|⟨c,q,d,j,m,b,_⟩
 ·rw[q]
  refine azK.Hc h (X:=Yh X X.fls[i].be Nw) (hb.GA k Nw) a (NF ⟨rfl,NF (NF ⟨hs,by omega⟩)⟩) ?_;exact h.same X _ ⟨rfl,rfl,rfl,rfl,rfl⟩ hR
 ·obtain⟨T,e⟩:=ak0 (G:={Yh X X.fls[i].be Nw with tok:=X.tok-X.cfg.bd}) hi c
  rw[q,e];refine h.drain ?_ _;exact h.again X _ i hi c _ hb hs j d b ⟨rfl,congrArg Prod.fst (hb.Ho a b),rfl,rfl,rfl⟩ hR
theorem azK.Mm(h:azK op R)(hm:Wm G){e:Ev}(he:XZ e)(h7:e.kind=7->G.now+1<=1099511626776)(h1:e.kind=1->op)(hR:R G):R (Xb G e):=by
 have b:=hm.im.bs;have l:∀k,R (Yv G k e):=fun k=>h.no G _ _ (NF (Nt rfl)) rfl ⟨rfl,rfl,rfl,rfl,rfl⟩ hR
 unfold Xb
 split
 ·rename_i k1
  rcases afU b he.key with⟨q,_⟩|⟨q,_⟩|⟨k,o,_,_,n,_,t,u,_,q⟩ <;> rw[q]
  ·exact h.no G _ _ (Nt rfl) rfl ⟨rfl,rfl,rfl,rfl,rfl⟩ hR
  ·exact h.no G _ _ (Nt rfl) rfl ⟨rfl,rfl,rfl,rfl,rfl⟩ hR
  ·exact h.opens (h1 k1) G _ k o _ _ _ b t u n ⟨rfl,rfl,rfl,rfl,rfl⟩ hR
 ·split
  ·exact l 1
  ·split
   ·unfold abg
    split
    ·exact l 2
    ·split
     ·exact h.no (Yv G 2 e) _ _ (NF (NF (Nt rfl))) rfl ⟨rfl,rfl,rfl,rfl,rfl⟩ (l 2)
     ·exact h.drain (X:={Yv G 2 e with wts:=G.wts.set e.be.toNat 0}) (h.same (Yv G 2 e) _ ⟨rfl,rfl,rfl,rfl,rfl⟩ (l 2)) _
   ·split
    ·rename_i k7
     refine alk (R:=R) hm (h7 k7) ?_ (fun X f y hX hf j hR=>h.Hc hX.bs hf (NF ⟨rfl,by rcases j with j|j;exact Nt j;exact NF (Nt j)⟩) hR) (fun X i hX a d hR=>h.I8 hX.bs a d (NF rfl) hR);obtain⟨_,_,B,x,r,p,z,_⟩:=aeS (b.next (h7 k7));exact h.same G _ ⟨B,p,z,x,r⟩ hR
    ·rcases akr b e with⟨n,q⟩|⟨i,a,_,_,_,⟨_,q⟩|⟨_,q⟩|⟨_,_,⟨_,q⟩|⟨d,_,q⟩|⟨d,_,q⟩⟩⟩
     ·rw[q];exact h.no G _ _ (NF (NF (NF rfl))) rfl ⟨rfl,rfl,rfl,rfl,rfl⟩ hR
     ·rw[q];exact h.Hc b (Nk a) (Nt ⟨rfl,rfl⟩) hR
     ·obtain⟨T,m⟩:=aks a
      rw[q,m];refine h.forw G _ i a (if G.fls[i].srv then G.now+G.cfg.idle else G.fls[i].due) b ⟨?_,rfl,rfl,rfl,rfl⟩ hR;show G.fls.set i _=G.fls.set i _
      congr 1
      split <;> rfl
     ·rw[q];exact h.no G _ _ (NF (NF (NF rfl))) rfl ⟨rfl,rfl,rfl,rfl,rfl⟩ hR
     ·obtain⟨T,m⟩:=alb a
      rw[q,m];exact h.serves G _ i a _ b d ⟨rfl,rfl,rfl,rfl,rfl⟩ hR
     ·rw[q];exact h.I8 b a d (Nt rfl) hR
theorem aaB.flows(h:aaB c s)(hF:azK op R)(h1:s.ev.kind=1->op)(h0:R s.bef):R {s.aft with out:=s.out}:=by
 have a:=hF.Mm h.wm (aeH h.ev) h.late h1 h0;refine hF.same (Xb s.bef s.ev) _ ⟨?_,?_,?_,?_,?_⟩ a
 ·show s.aft.fls=_;rw[h.aft];rfl
 ·show s.aft.tab=_;rw[h.aft];rfl
 ·show s.aft.tok=_;rw[h.aft];rfl
 ·show s.aft.cfg=_;rw[h.aft];rfl
 ·exact h.out
end
def ay4(o:Ou):Bool:=Nn (o.kind<1) || decide (10<o.kind) || decide (o.why<0) || decide (5<o.why)
def ay2(l:List Ou):Bool:=l.any ay4
theorem ay5{o:Ou}(h:ay4 o=Nb):(1<=o.kind/\o.kind<=10)/\0<=o.why/\o.why<=5:=by
 unfold ay4 at h;simp only[azP,decide_eq_false_iff_not]at h;omega
theorem ay3{l:List Ou}(h:ay2 l=Nb){o:Ou}(ho:o∈l):ay4 o=false:=by
 have:=List.any_eq_false.1 h o ho
 simpa using this
def azc(o:Ou)(j:Nat):Bool:=if j<11 then o.kind == (j:Int)else o.kind == 6 && o.why == ((j-11:Nat):Int)
def ay6(l:List Ou)(j:Nat):Nat:=l.countP fun o=>azc o j
def azd(l:List Ou):List Int:=(List.range 17).map fun j=>(ay6 l j:Int)
theorem azf(l:List Ou):(azd l).length=17:=by simp[azd]
theorem azg:azd []=Nj 17 0:=by simp[azd,ay6];rfl
theorem ay7(l:List Ou)(j:Nat):ay6 l j<=l.length:=List.countP_le_length
theorem aze(l:List Ou)(j:Nat)(hj:j<17):(azd l)[j]'(by rw[azf];exact hj)=(ay6 l j:Int):=by simp[azd]
theorem ay8(l:List Ou)(o:Ou)(j:Nat):ay6 (l++[o]) j=ay6 l j+(if azc o j then 1 else 0):=by
 simp[ay6,List.countP_append,List.countP_cons]
theorem azh(l:List Ou)(o:Ou)(k:Nat)(hk:o.kind=(k:Int))(h11:k<11)(h6:¬o.kind=6):azd (l++[o])=(azd l).set k ((ay6 l k:Int)+1):=by
 apply PX
 ·simp[azf]
 ·intro j a b
  rw[azf]at a;rw[aze _ _ a,Pc,ay8]
  by_cases e:k=j
  ·subst e
   simp[azc,h11,hk]
  ·rw[Nf e,aze _ _ a]
   have:azc o j=false:=by
    unfold azc
    split
    ·rw[hk]
     simp;omega
    ·simp[h6]
   simp[this]
theorem azi(l:List Ou)(o:Ou)(y:Nat)(hk:o.kind=6)(hy:o.why=(y:Int))(h6:y<6):azd (l++[o])=((azd l).set 6 ((ay6 l 6:Int)+1)).set (11+y) ((ay6 l (11+y):Int)+1):=by
 apply PX
 ·simp[azf]
 ·intro j a b
  rw[azf]at a;rw[aze _ _ a,Pc,Pc,ay8]
  by_cases e:11+y=j
  ·subst e
   simp[azc,hk,hy]
  ·rw[Nf e]
   by_cases e6:6=j
   ·subst e6
    simp[azc,hk]
   ·rw[Nf e6,aze _ _ a]
    have:azc o j=false:=by
     unfold azc
     split
     ·rw[hk]
      simp;omega
     ·rw[hk,hy]
      simp;omega
    simp[this]
def azj(l:List Ou):List Int×Int:=if ay2 l then(Nj 17 0,5)else(azd l,0)
section
variable {X:Gt}
theorem ay9(l:List Ou)(o:Ou)(j:Nat)(hj:j<11):ay6 (l++[o]) j=ay6 l j+if o.kind=(j:Int)then 1 else 0:=by
 rw[ay8];have a:azc o j=Nn (o.kind=(j:Int)):=by unfold azc;rw[Nh hj];rfl
 rw[a]
 by_cases h:o.kind=(j:Int) <;> simp[h]
theorem azb:azK True fun X=>ay2 X.out=false:=by
 have a:∀(X Y:Gt) (o:Ou),ay2 X.out=Nb->ay4 o=Nb->Y.out=X.out++[o]->ay2 Y.out=false:=fun X Y o h1 h2 h3=>by
  unfold ay2 at h1⊢;rw[h3,List.any_append,h1];simp[h2]
 refine⟨fun X Y hs hR=>by rw[hs.out];exact hR,fun X Y o ho hy hs hR=>a X Y _ hR ?_ hs.out,fun X Y f k y hb hf hy hs hR=>a X Y _ hR ?_ hs.out,fun X Y i hi b d hb h1 h2 h3 h4 hs hR=>a X Y _ hR rfl hs.out,fun X Y i hi d hb h1 hs hR=>a X Y _ hR rfl hs.out,fun X Y i hi d hb hs hR=>a X Y _ hR rfl hs.out,fun _ X Y k hk ky b d hb h1 h2 h3 hs hR=>a X Y _ hR rfl hs.out⟩
 ·unfold ay4
  simp only[azP,decide_eq_false_iff_not];omega
 ·unfold ay4
  simp only[azP,decide_eq_false_iff_not];omega
theorem azm(c:Cf)(t:Int):azK False fun X=>X.cfg=c/\X.tok+(ay6 X.out 5:Int)*c.bd=t/\ay6 X.out 1=0:=by
 have a:∀(X Y:Gt) (o:Ou) (F:List Fl) (T:List awY) (v:Int),(X.cfg=c/\X.tok+(ay6 X.out 5:Int)*c.bd=t/\ay6 X.out 1=0)->Mv X Y F T v o->o.kind≠1->v=X.tok-(if o.kind=5 then c.bd else 0)->(Y.cfg=c/\Y.tok+(ay6 Y.out 5:Int)*c.bd=t/\ay6 Y.out 1=0):=fun X Y o F T v hR hs h1 hv=>by
  rw[hs.cfg,hs.out,hs.tok,ay9 _ _ 5 (by decide),ay9 _ _ 1 (by decide),hv];refine⟨hR.1,?_,?_⟩
  ·show _+((ay6 X.out 5+if o.kind=5 then 1 else 0:Nat):Int)*c.bd=t
   have e:=hR.2.1;rw[Int.natCast_add,Int.add_mul];have j:((if o.kind=5 then 1 else 0:Nat):Int)*c.bd=if o.kind=5 then c.bd else 0:=by split <;> simp
   rw[j];omega
  ·show ay6 X.out 1+(if o.kind=1 then 1 else 0)=0
   rw[Nf h1,hR.2.2]
 refine⟨fun X Y hs hR=>by rw[hs.out,hs.tok,hs.cfg];exact hR,fun X Y o ho hy hs hR=>a X Y o _ _ _ hR hs (by omega) (by rw[Nf (by omega)];omega),fun X Y f k y hb hf hy hs hR=>a X Y _ _ _ _ hR hs (show k≠1 by omega) (by show _=_-(if k=5 then _ else _);rw[Nf (by omega)];omega),fun X Y i hi b d hb h1 e h3 h4 hs hR=>a X Y _ _ _ _ hR hs (show(5:Int)≠1 by decide) (by show _=X.tok-c.bd;rw[hR.1]),fun X Y i hi d hb h1 hs hR=>a X Y _ _ _ _ hR hs (show(4:Int)≠1 by decide) (by show _=X.tok-0;omega),fun X Y i hi d hb hs hR=>a X Y _ _ _ _ hR hs (show(3:Int)≠1 by decide) (by show _=X.tok-0;omega),fun h=>h.elim⟩
end
section
variable {A:Gt}{c:Cf}{P:Py}{s:Sp}
theorem aaB.good(h:aaB c s):ay2 s.out=false:=h.flows azb (fun _=>trivial) (by rw[h.out0];rfl)
theorem aaB.azN(h:aaB c s):s.aft.tok=(if 0<ay6 s.out 1 then min (s.bef.tok+c.bn) (c.bb*c.bd)else s.bef.tok)-(ay6 s.out 5:Int)*c.bd:=by
 by_cases h1:s.ev.kind=1
 ·have e:Xb s.bef s.ev=aaI s.bef s.ev.key:=by unfold Xb;rw[Nh h1]
  have b:s.aft.tok=(Xb s.bef s.ev).tok:=by rw[h.aft];rfl
  have a:=h.out;rw[e]at b a;rcases afU h.wm.im.bs (aeH h.ev).key with⟨q,_⟩|⟨q,_⟩|⟨k,j,_,_,l,_,m,n,_,q⟩ <;> rw[q]at b a
  ·have a:s.out=s.bef.out++[_]:=a
   rw[h.out0]at a;rw[b,a];show s.bef.tok=s.bef.tok-((0:Nat):Int)*c.bd;simp
  ·have a:s.out=s.bef.out++[_]:=a
   rw[h.out0]at a;rw[b,a];show s.bef.tok=s.bef.tok-((0:Nat):Int)*c.bd;simp
  ·have a:s.out=s.bef.out++[_]:=a
   rw[h.out0]at a;rw[b,a];show min (s.bef.tok+s.bef.cfg.bn) (s.bef.cfg.bb*s.bef.cfg.bd)=min (s.bef.tok+c.bn) (c.bb*c.bd)-((0:Nat):Int)*c.bd;rw[h.cfg];simp
 ·have:=h.flows (azm c s.bef.tok) (fun e=>h1 e) (by rw[h.out0];exact⟨h.cfg,by show _+((0:Nat):Int)*_=_;simp,rfl⟩)
  obtain⟨_,i,d⟩:=this;have i:s.aft.tok+(ay6 s.out 5:Int)*c.bd=s.bef.tok:=i;have d:ay6 s.out 1=0:=d;rw[d,Nf (by decide)];omega
end
section
variable {G:Gt}
theorem aza(h:Im G):(acG G).out.length<=G.out.length+960:=by
 have a:=(akI G.liv G G.liv.length h (MV _)).2.2;rw[NT]at a;have b:G.liv.length<=12:=h.bs.book.1.1;show(G.liv.foldl Zd G).out.length<=_;omega
theorem azl(h:Wm G)(hn:G.now+1<=1099511626776):(abj G).out.length<=G.out.length+1040:=by
 have d:=h.im.next hn;obtain⟨o,n,m,t,l,_⟩:=aeS d.bs;have k:=d.Jf;have e:=k.I2;have i:(aaC (YH {G with now:=G.now+1})).now=G.now+1:=o;have b:(aaC (YH {G with now:=G.now+1})).wnow=G.now:=n.trans h.wnow;obtain⟨j,_⟩:=e.Je (by rw[b,i]) (fun f a=>by
  have a:f∈(YH {G with now:=G.now+1}).fls:=a;rw[m]at a;rw[b];exact h.due f a)
 have q:=aza j;have p:=ao7 e.bs;have r:(aaC (YH {G with now:=G.now+1})).out.length=G.out.length:=congrArg List.length l;show(acG _).out.length<=_;omega
theorem azk(hm:Wm G)(e:Ev)(h7:e.kind=7->G.now+1<=1099511626776):(Xb G e).out.length<=G.out.length+1040:=by
 unfold Xb
 split
 ·unfold aaI
  split
  ·simp[acm,ZM]
  ·simp only[]
   split
   ·simp[acm,ZM]
   ·simp[abv,abi,ZM,YW]
 ·split
  ·simp[Yv,ZM]
  ·split
   ·unfold abg
    split
    ·simp[Yv,ZM]
    ·split
     ·simp[aeQ,Yv,ZM]
     ·refine Nm (aki _) ?_
      simp[Yv,ZM]
   ·split
    ·rename_i h
     exact azl hm (h7 h)
    ·unfold aaq
     simp only[]
     split
     ·simp[acm,ZM]
     ·split
      ·exact Nm (afK _ _ _) (by omega)
      ·split
       ·unfold aaZ
        simp only[]
        split <;> simp[abi,ZM,YW,Y4]
       ·split
        ·simp[acm,ZM]
        ·split
         ·simp[abh,abi,ZM,YW,Y4,Yh]
         ·exact Nm (aoZ _ _) (by omega)
theorem aaB.azM(h:aaB c s):s.out.length<=1040:=by
 rw[h.out];have:=azk h.wm s.ev h.late;rw[h.out0]at this
 simpa using this
end
abbrev azF:List Value:=[MF ME 0,MF ME 0,MF ME 0,MF ME 0,M3 Nb,MF ME 0,MF ME 0,MF ME 0,MF ME 0,MF ME 0,MF ME 0,MF ME 0,MF ME 0,MF ME 0,MF ME 0,MF ME 0,MF ME 0,MF ME 0,MF ME 0,MF ME 0,MF ME 0,MF ME 0,MF ME 0,MF ME 0,MF ME 0,MG MH 0 0,MG MH 0 0,MG MH 0 0,MG MH 0 0,MG MH 0 0,MG MH 0 0,MF ME 0,MF ME 0,MG MH 0 0,MF ME 0,MF ME 0,MF ME 0,MF ME 0,MF ME 0,MF ME 0,MF ME 0,MF ME 0,MF ME 0,MF ME 0,MF ME 0,MF ME 0,MF ME 0,MF ME 0,MF ME 0,MF ME 0,MF ME 0,MG MH 0 0,MG MH 0 0,MG MH 0 0,MG MH 0 0,MG MH 0 0,MG MH 0 0,MF ME 0,MF ME 0,MG MH 0 0,MG MH 0 0]
theorem azx:(Tryz.prog.info? 64).map (·.size)=MI 61:=by kernel_rfl
theorem WU.Gm{base:Nat}(h:WU base w g V c P):w.cell? ⟨g,16,MH⟩=MI (MG V.ps P.steps.length V.cs):=by
 rw[MW w g 16 _ _ (0,0) h.box,h.steps];rfl
structure azp(W:MO)(ps:Option Addr)(k:Nat)(q:Sq)(b o:Nat):Prop where
 at_:ps=MI ⟨b,o,MH⟩
 cells:W.rangeAt b (o+k*61) (abK q)
 rd:aje W q
theorem XQ.step{W:MO}(h:XQ w W g V c P){k:Nat}(hk:k<P.steps.length):∃q b o,azp W V.ps k q b o/\P.steps[k]?=MI q.s/\aaB c q.s:=by
 have x:=h.pat.steps;have i:k<V.qs.length:=by omega
 have l:Xw abK W (MG V.ps V.qs.length V.cs) V.qs:=abw h.pat.rows;obtain⟨a,t,d,_,_,n⟩:=Xw.F6 avt l;injection d with q1 _ _;obtain⟨b,o,p,u,m⟩:=n k i;have e:P.steps[k]?=MI V.qs[k].s:=by rw[<-h.pat.eqs,List.getElem?_map,List.getElem?_eq_getElem i];rfl
 refine⟨V.qs[k],b,o,⟨q1.trans p,fun j v d=>?_,(h.pat.all _ (Nk i)).now⟩,e,h.rn.runs.chain _ (List.mem_of_getElem? e)⟩;have r:j<61:=(List.getElem?_eq_some_iff.1 d).1;rw[m j r];exact d
structure azq(W:MO)(b:Nat)(q:Sq):Prop where
 box:W.heap[b]?=MI (MP (abK q).toArray 64 (0,0))
 rd:aje W q
theorem aje.below{W Y:MO}{q:Sq}(h:aje W q)(hb:MQ W.heap.size W Y):aje Y q:=⟨h.1.below hb,h.2.1.below hb,h.2.2.below hb⟩
theorem azq.on{W Y:MO}{b:Nat}{q:Sq}(h:azq W b q)(hb:MQ W.heap.size W Y):azq Y b q:=⟨WO h.box hb,h.rd.below hb⟩
theorem azE(q:Sq):(abK q).toArray.all (·.oneCell')=true:=by
 apply OE;exact avs q
theorem azp.box{W:MO}{ps:Option Addr}{k:Nat}{q:Sq}{b o:Nat}(h:azp W ps k q b o):∃Y,Y=(W.alloc (MP azF.toArray 64)).setCells W.heap.size 0 (abK q)/\azq Y W.heap.size q/\MQ W.heap.size W Y/\(W.alloc (MP azF.toArray 64)).there W.heap.size 0 (abK q).toArray.size:=by
 have d:(W.alloc (MP azF.toArray 64)).heap[W.heap.size]?=MI (MP azF.toArray 64 (0,0)):=M1 _ _;have a:MQ W.heap.size W ((W.alloc (MP azF.toArray 64)).setCells W.heap.size 0 (abK q)):=adp (WQ W) (MV _) _ _ (by simp);exact⟨_,rfl,⟨anq d rfl,h.rd.below a⟩,a,(show(W.alloc (MP azF.toArray 64)).there W.heap.size 0 (abK q).toArray.size from afH (old:=azF) d)⟩
theorem azq.F7{W:MO}{b:Nat}{q:Sq}(h:azq W b q)(j:Nat):W.cell? ⟨b,j,MH⟩=(abK q)[j]?:=by
 rw[MW W b j _ _ (0,0) h.box];simp
theorem azD(f:Nat->Int)(hf:∀i,i<16->(Lit.int ME (f i)).wf=Nw)(ds:List Dd)(hds:∀d∈ds,ajd d){pd:Option Addr}{cd:Nat}(hrow:Xw agP w (MG pd ds.length cd) ds)(hblk:Xo w)(most:Nat)(hm:most<=100):
  ∃L:List M7,L.length=16/\agc (f 0) (f 1) (f 2) (f 3) (f 4) (f 5) (f 6) (f 7) (f 8) (f 9) (f 10) (f 11) (f 12) (f 13) (f 14) (f 15)=Ny L.toArray/\∀W,MQ w.heap.size w W->Ni MK 13 #[Ny L.toArray,MG pd ds.length cd,MF ME (most:Int)] W (au0 f most W):=
 ⟨[MF ME (f 0),MF ME (f 1),MF ME (f 2),MF ME (f 3),MF ME (f 4),MF ME (f 5),MF ME (f 6),MF ME (f 7),MF ME (f 8),MF ME (f 9),MF ME (f 10),MF ME (f 11),MF ME (f 12),MF ME (f 13),MF ME (f 14),MF ME (f 15)],rfl,rfl,fun W hB=>awU f hf ds hds W (hrow.below hB) (hblk.below hB) most hm⟩
theorem WU.azO{base:Nat}(h:WU base w g V c P)(j:Nat):w.cell? ⟨g,j,MH⟩=(adM V c P)[j]?:=by
 rw[MW w g j _ _ (0,0) h.box];simp
abbrev azC(o:Ou):Value:=Ny #[MF ME o.kind,MF ME o.slot,MF ME o.gen,MF ME o.be,MF ME o.req,MF ME o.code,MF ME o.why]
abbrev azo(w:MO)(v:M7)(l:List Ou):Prop:=Xw Z1 w v l
theorem azo.F6{v:M7}{l:List Ou}(h:azo w v l):
  ∃a cap,v=MG a l.length cap/\l.length<=cap/\cap<=NE/\∀i (hi:i<l.length),∃b off,a=MI ⟨b,off,MH⟩/\b<w.heap.size/\w.cell? ⟨b,off+i*7,MH⟩=MI (MF ME l[i].kind)/\w.cell? ⟨b,off+i*7+1,MH⟩=MI (MF ME l[i].slot)/\w.cell? ⟨b,off+i*7+2,MH⟩=MI (MF ME l[i].gen)/\w.cell? ⟨b,off+i*7+3,MH⟩=MI (MF ME l[i].be)/\w.cell? ⟨b,off+i*7+4,MH⟩=MI (MF ME l[i].req)/\w.cell? ⟨b,off+i*7+5,MH⟩=MI (MF ME l[i].code)/\w.cell? ⟨b,off+i*7+6,MH⟩=MI (MF ME l[i].why):=by
 obtain⟨a,cap,k,e,o,j⟩:=Xw.F6 akV h;refine⟨a,cap,k,e,o,fun i hi=>?_⟩;obtain⟨b,off,m,n,d⟩:=j i hi;exact⟨b,off,m,n,(d 0 (by omega)).trans rfl,(d 1 (by omega)).trans rfl,(d 2 (by omega)).trans rfl,(d 3 (by omega)).trans rfl,(d 4 (by omega)).trans rfl,(d 5 (by omega)).trans rfl,(d 6 (by omega)).trans rfl⟩
theorem azG{α:Type}{l:List α}{k:Nat}(h:k<l.length){x:α}(hx:x=l[k]):l.take (k+1)=l.take k++[x]:=by
 rw[M9 h,hx]
theorem azs(f:Ou)(w:MO) :
  Ni MK 42 #[azC f] w fun r w'=>r=MN (M3 (ay4 f))/\MQ w.heap.size w w':=by
 have a:ay4 f=(Nn (f.kind<1) || decide (10<f.kind) || decide (f.why<0) || decide (5<f.why)):=rfl;rw[a];clear a;cases t0:Nn (f.kind<1)
 ·cases t1:Nn (10<f.kind)
  ·cases t2:Nn (f.why<0)
   ·cases t3:Nn (5<f.why)
    ·go_enter azS,azQ
     go_wp2;go_ret;exact⟨by rfl,WQ w⟩
    ·go_enter azS,azQ
     go_wp2;go_ret;exact⟨by rfl,WQ w⟩
   ·go_enter azS,azQ
    go_wp2;go_ret;exact⟨by rfl,WQ w⟩
  ·go_enter azS,azQ
   go_wp2;go_ret;exact⟨by rfl,WQ w⟩
 ·go_enter azS,azQ
  go_wp2;go_ret;exact⟨by rfl,WQ w⟩
theorem azu(v:M7)(l:List Ou)(w:MO)(hv:azo w v l) :
  Ni MK 62 #[v,PB (Fn.func 42) #[] #[]] w fun r w'=>r=MN (MF ME (X6 (l.findIdx (ay4)) l.length))/\MQ w.heap.size w w':=by
 obtain⟨q,E⟩:∃q:Ou->Bool,q=(ay4):=⟨_,rfl⟩;obtain⟨a,ca,rfl,a1,M,I⟩:=azo.F6 hv;unfold NE at M;have L:M6 (∀(x:Ou) (W:MO),MQ w.heap.size w W->Ni MK 42 #[azC x] W fun r w'=>r=MN (M3 (q x))/\MQ W.heap.size W w'):=by
  rw[E];exact fun x W hb=>azs x W
 rw[<-E];obtain⟨o,B⟩:∃o,o=X6 (l.findIdx q) l.length:=⟨_,rfl⟩;rw[<-B];have H:M6 _:=B;clear hv B E;go_enter Tryz.func62,Tryz.ntmps62;go_wp2
 go_loopw [8] (fun i wr=>∃k:Nat,i=MF ME k/\k<=l.length/\(∀t∈l.take k,q t=Nb)/\MQ w.heap.size w wr) (fun i _=>l.length-(intOf i).toNat)
 case atStart=>exact⟨0,rfl,Nx _,by simp,RowKit.Below.refl _ _⟩
 case round =>
  obtain⟨k,rfl,hk,u,b⟩:=hrel
  by_cases hlt:k<l.length
  ·obtain⟨m,n,rfl,e,c1,c2,c3,c4,c5,c6,c7⟩:=I k hlt
   have U:=(b.cell (p:=⟨m,n+k*7,MH⟩) e).trans c1;have e2:=(b.cell (p:=⟨m,n+k*7+1,MH⟩) e).trans c2;have Y:=(b.cell (p:=⟨m,n+k*7+2,MH⟩) e).trans c3;have N:=(b.cell (p:=⟨m,n+k*7+3,MH⟩) e).trans c4;have S:=(b.cell (p:=⟨m,n+k*7+4,MH⟩) e).trans c5;have Q:=(b.cell (p:=⟨m,n+k*7+5,MH⟩) e).trans c6;have O:=(b.cell (p:=⟨m,n+k*7+6,MH⟩) e).trans c7;have j:M6 (_/\_):=⟨u,b⟩;have a0:(k:Int)<(l.length:Int):=by omega
   have C:l.take (k+1)=l.take k++[l[k]]:=M9 hlt;have D:q l[k]=Nw->l.findIdx q=k:=fun h=>abZ hlt u h
   have z:∃x,x=l[k]:=⟨_,rfl⟩;obtain⟨x,z⟩:=z;rw[<-z]at U e2 Y N S Q O C D;have K:M6 (_/\_):=⟨C,D⟩;clear u b c1 c2 c3 c4 c5 c6 c7 e I C D z;cases hd:q x
   ·go_wp2_with fail
    refine(L.out x _ j.out.2).mono ?_;rw[hd];rintro r Z ⟨rfl,y⟩;have F:M6 _:=y;clear y;go_wp2
    go_roundw
    case rel =>
     refine⟨k+1,by simp,hlt,fun t d=>?_,j.out.2.trans (F.out.mono j.out.2.size)⟩;rw[K.out.1]at d;rcases List.mem_append.1 d with d|d
     ·exact j.out.1 t d
     ·simp at d
      rw[d];exact hd
    case measure=>simp[intOf];omega
   ·go_wp2_with fail
    refine(L.out x _ j.out.2).mono ?_;rw[hd];rintro r Z ⟨rfl,y⟩;have J:M6 (o=(k:Int)):=by show o=_;rw[H.out,K.out.2 hd];exact Nh hlt
    have F:M6 _:=y;clear y;go_wp2;go_ret;exact⟨by rw[J.out];rfl,j.out.2.trans (F.out.mono j.out.2.size)⟩
  ·have J:M6 (o = -1):=by
    show o=_;rw[H.out,acp fun t d=>u t (by rw[List.take_of_length_le (by omega)];exact d)];exact Nf (Nat.lt_irrefl _)
   have T:M6 _:=b;clear u b I;go_wp2;go_ret;exact⟨by rw[J.out];rfl,T.out⟩
theorem azt(v:M7)(l:List Ou)(w:MO)(hv:azo w v l) :
  Ni MK 43 #[v,PB (Fn.func 42) #[] #[]] w fun r w'=>r=MN (M3 (l.any (ay4)))/\MQ w.heap.size w w':=by
 rw[<-ahq];have b:M6 _:=azu v l w hv;obtain⟨e,a⟩:∃e,e=X6 (l.findIdx (ay4)) l.length:=⟨_,rfl⟩;rw[<-a]at b⊢;clear a hv;go_enter Tryz.func43,Tryz.ntmps43
 go_wp2_with fail
 refine Nd b.out ?_;rintro r j ⟨rfl,d⟩;have i:M6 _:=d;clear d;go_wp2;go_ret;exact⟨rfl,i.out⟩
theorem azr(v:M7)(l:List Ou)(w:MO)(hv:azo w v l) :
  Ni MK 28 #[v] w fun r w'=>r=MN (MF ME (if ay2 l then 5 else 0))/\MQ w.heap.size w w':=by
 have a:M6 _:=azt v l w hv;have e:l.any ay4=ay2 l:=rfl;rw[e]at a;clear e hv;cases h:ay2 l
 ·rw[h]at a
  go_enter WF,Ww
  go_wp2_with fail
  refine Nd a.out ?_;rintro r i ⟨rfl,b⟩;have d:M6 _:=b;clear b;go_wp2;go_ret;exact⟨rfl,d.out⟩
 ·rw[h]at a
  go_enter WF,Ww
  go_wp2_with fail
  refine Nd a.out ?_;rintro r i ⟨rfl,b⟩;have d:M6 _:=b;clear b;go_wp2;go_ret;exact⟨rfl,d.out⟩
theorem azJ:(#[MF ME 0,MF ME 0,MF ME 0,MF ME 0,MF ME 0,MF ME 0,MF ME 0,MF ME 0,MF ME 0,MF ME 0,MF ME 0,MF ME 0,MF ME 0,MF ME 0,MF ME 0,MF ME 0,MF ME 0]:Array M7)=(WR (Nj 17 0)).toArray:=rfl
theorem azv:(Tryz.prog.info? 86).map (·.size)=MI 17:=by kernel_rfl
theorem azA(v:M7)(l:List Ou)(w:MO)(hv:azo w v l) :
  Ni MK 21 #[v] w fun r w'=>r=MN (Nv #[Ny (WR (azj l).1).toArray,MF ME (azj l).2])/\MQ w.heap.size w w':=by
 obtain⟨p,c,rfl,hc,hm,pv⟩:=azo.F6 hv;unfold NE at hm;obtain⟨Z,Y⟩:∃Z,Z=w.alloc (MP (WR (Nj 17 0)).toArray 86):=⟨_,rfl⟩;have a8:MQ w.heap.size w Z:=by rw[Y];exact WQ w
 have b6:Xj 86 17 Z w.heap.size (Nj 17 0):=by rw[Y];exact⟨M1 _ _,by simp⟩
 have D:M6 (_/\_/\_/\_/\_):=⟨hv,pv,a8,b6,Y⟩;clear hv pv a8 b6 Y;have J:=OE (ac1 (Nj 17 0));have HO:M6 _:=J;clear J;go_enter Tryz.func21,Tryz.ntmps21
 go_wp2_with fail
 rw[azJ,<-D.out.2.2.2.2];refine(azr _ l _ (D.out.1.below D.out.2.2.1)).mono ?_;rintro r e ⟨rfl,S⟩;have o:=D.out.2.2.2.1.below S;have L:=D.out.2.2.1.trans (S.mono D.out.2.2.1.size);cases hbad:ay2 l
 ·rw[Nf Bool.false_ne_true]
  have I:azj l=(azd l,0):=by unfold azj;rw[hbad];rfl
  have F:M6 (_/\_/\_/\_):=⟨o,L,hbad,I⟩;have d6:=o.lt;clear o L S hbad I;go_wp2;rw[azJ];obtain⟨W2,T⟩:∃W2,W2=e.alloc (MP (WR (Nj 17 0)).toArray 86):=⟨_,rfl⟩;rw[<-T];have a7:MQ e.heap.size e W2:=by rw[T];exact WQ e
  have b3:Xj 86 17 W2 e.heap.size (azd (l.take 0)):=by rw[T,List.take_zero,azg];exact⟨M1 _ _,by simp⟩
  have H2:M6 (_/\_):=⟨a7,b3⟩;clear a7 b3 T
  go_loopw [16] (fun i wr=>∃k:Nat,i=MF ME k/\k<=l.length/\MQ e.heap.size e wr/\Xj 86 17 wr e.heap.size (azd (l.take k))) (fun i _=>l.length-(intOf i).toNat)
  case atStart=>exact⟨0,rfl,Nx _,H2.out.1,H2.out.2⟩
  case round =>
   obtain⟨k,rfl,hk,B,m⟩:=hrel
   by_cases hlt:k<l.length
   ·obtain⟨E,off,rfl,q,c1,c2,c3,c4,c5,c6,c7⟩:=D.out.2.1 k hlt
    have t:=F.out.2.1.trans (B.mono F.out.2.1.size);have e1:=(t.cell (p:=⟨E,off+k*7,MH⟩) q).trans c1;have e2:=(t.cell (p:=⟨E,off+k*7+1,MH⟩) q).trans c2;have e3:=(t.cell (p:=⟨E,off+k*7+2,MH⟩) q).trans c3;have e4:=(t.cell (p:=⟨E,off+k*7+3,MH⟩) q).trans c4;have e5:=(t.cell (p:=⟨E,off+k*7+4,MH⟩) q).trans c5;have e6:=(t.cell (p:=⟨E,off+k*7+5,MH⟩) q).trans c6;have e7:=(t.cell (p:=⟨E,off+k*7+6,MH⟩) q).trans c7;have U:=ay5 (ay3 F.out.2.2.1 (Nk hlt));obtain⟨⟨kd,sl,gn,be,rq,cd,wy⟩,hx⟩:∃x,x=l[k]:=⟨_,rfl⟩;have Q:=azG hlt hx;rw[<-hx]at e1 e2 e3 e4 e5 e6 e7 U
    dsimp only at e1 e2 e3 e4 e5 e6 e7 U
    obtain⟨n,rfl⟩:=Int.eq_ofNat_of_zero_le (a:=kd) (by omega);obtain⟨y,rfl⟩:=Int.eq_ofNat_of_zero_le (a:=wy) (by omega);have b8:n<11:=by omega
    have d7:(n:Int)<11:=by omega
    have c0:y<6:=by omega
    have d4:(y:Int)<6:=by omega
    have d0:(k:Int)<(l.length:Int):=by omega
    have d3:=m.lt;have d5:¬e.heap.size=wr.heap.size:=by omega
    have d1:¬wr.heap.size=e.heap.size:=by omega
    by_cases h6:n=6
    ·subst h6
     have N:=m.F7 6 (by rw[azf];omega);rw[aze _ 6 (by omega)]at N;have b9:=m.Gu 6;have a5:=m.F7 (11+y) (by rw[azf];omega);rw[aze _ (11+y) (by omega)]at a5;have c9:=m.Gu (11+y);have a2:ay6 (l.take k) 6<=k:=Nm (ay7 _ _) (by rw[NH];omega);have b7:ay6 (l.take k) (11+y)<=k:=Nm (ay7 _ _) (by rw[NH];omega);have d:=azi (l.take k) ⟨((6:Nat):Int),sl,gn,be,rq,cd,(y:Int)⟩ y rfl rfl c0;rw[<-Q]at d;obtain⟨O,M⟩:∃O,O=ay6 (l.take k) 6:=⟨_,rfl⟩;obtain⟨n2,a9⟩:∃n2,n2=ay6 (l.take k) (11+y):=⟨_,rfl⟩;rw[<-M]at N a2 d;rw[<-a9]at a5 b7 d;have c8:¬11+y=6:=by omega
     have d2:¬6=11+y:=by omega
     have z:M6 (_/\_/\_):=⟨B,m,d⟩;clear B m d M a9 Q hx t c1 c2 c3 c4 c5 c6 c7 q U;go_wp2
     go_roundw
     case rel =>
      refine⟨k+1,by simp,hlt,?_,?_⟩
      ·exact((z.out.1.setCell (p:=⟨e.heap.size,6,MH⟩) (MV _) _).setCell (p:=⟨e.heap.size,11+y,MH⟩) (MV _) _).alloc (by simp;exact z.out.1.size) _
      ·rw[z.out.2.2]
       exact((z.out.2.1.F4 6 _).F4 (11+y) _).below (WQ _)
     case measure=>simp[intOf];omega
    ·have N:=m.F7 n (by rw[azf];omega)
     rw[aze _ n (by omega)]at N;have b9:=m.Gu n;have a2:ay6 (l.take k) n<=k:=Nm (ay7 _ _) (by rw[NH];omega);have d:=azh (l.take k) ⟨(n:Int),sl,gn,be,rq,cd,(y:Int)⟩ n rfl b8 (by show ¬(n:Int)=6;omega);rw[<-Q]at d;obtain⟨O,M⟩:∃O,O=ay6 (l.take k) n:=⟨_,rfl⟩;rw[<-M]at N a2 d;have d8:¬(n:Int)=6:=by omega
     have z:M6 (_/\_/\_):=⟨B,m,d⟩;clear B m d M Q hx t c1 c2 c3 c4 c5 c6 c7 q U;go_wp2
     go_roundw
     case rel =>
      refine⟨k+1,by simp,hlt,?_,?_⟩
      ·exact(z.out.1.setCell (p:=⟨e.heap.size,n,MH⟩) (MV _) _).alloc (by simp;exact z.out.1.size) _
      ·rw[z.out.2.2]
       exact(z.out.2.1.F4 n _).below (WQ _)
     case measure=>simp[intOf];omega
   ·obtain rfl:k=l.length:=by omega
    rw[NT]at m;have o:=F.out.1.below B;obtain⟨C,u⟩:∃C,C=wr.setCells w.heap.size 0 (WR (azd l)):=⟨_,rfl⟩;have d:=(o.Hq (P:=MK) (b:=azd l) (azf l) azv).2;rw[<-u]at d;have a0:MQ w.heap.size w wr:=F.out.2.1.trans (B.mono F.out.2.1.size);have K:MQ w.heap.size w C:=by rw[u];exact adp a0 (MV _) 0 _ a0.size
    have a6:(Tryz.prog.info? 86).map (·.size)=MI (WR (azd l)).length:=by rw[azv,Zv,azf]
    have a4:wr.there w.heap.size 0 (WR (azd l)).toArray.size:=by simp[Zv,azf];exact o.GB
    have J:=OE (ac1 (azd l));have j:M6 (_/\_/\_/\_/\_/\_/\_):=⟨m.Gq,a6,a4,J,u,d,K⟩;clear m o d K a6 a4 J u B a0;obtain⟨H,a1⟩:∃H,H=WR (azd l):=⟨_,rfl⟩;rw[<-a1]at j;have HC:M6 _:=a1;clear a1
    go_wp2_with (first|((with_reducible refine O3 rfl 86 (O6 5) rfl e.heap.size 0 ?hx H _ ?hc azR ?hd ?hi ?_);(case hx=>rfl);(case hc=>exact j.out.1);(case hd=>rfl);(case hi=>exact j.out.2.1))|((with_reducible refine OW rfl 86 (O6 2) (O6 40) rfl w.heap.size 0 H.toArray ?hx ?hy ?ht ?hi ?h1 ?_);(case hx=>rfl);(case hy=>rfl);(case ht=>exact j.out.2.2.1);(case hi=>rw[j.out.2.1];simp);(case h1=>exact j.out.2.2.2.1);rw[show H.toArray.toList=H from rfl,<-j.out.2.2.2.2.1]))
    rw[F.out.2.2.2];refine Np (v:=Nv #[Ny (WR (azd l)).toArray,MF ME 0]) (XT Tryz.results21 rfl rfl (j.out.2.2.2.2.2.1.Io azR rfl azv)) rfl ⟨rfl,j.out.2.2.2.2.2.2⟩
 ·rw[Nh rfl]
  have I:azj l=(Nj 17 0,5):=by unfold azj;rw[hbad];rfl
  obtain⟨C,u⟩:∃C,C=e.setCells w.heap.size 0 (Array.toList (#[MF ME 0,MF ME 0,MF ME 0,MF ME 0,MF ME 0,MF ME 0,MF ME 0,MF ME 0,MF ME 0,MF ME 0,MF ME 0,MF ME 0,MF ME 0,MF ME 0,MF ME 0,MF ME 0,MF ME 0]:Array M7)):=⟨_,rfl⟩;have d:=(o.Hq (P:=MK) (b:=Nj 17 0) (by simp) azv).2;have a3:Xj 86 17 C w.heap.size (Nj 17 0):=by rw[u];exact d
  have K:MQ w.heap.size w C:=by rw[u];exact adp L (MV _) _ _ L.size
  have j:M6 (_/\_/\_/\_/\_):=⟨o.GB,K,a3,u,I⟩;clear o L S hbad I d a3 K u
  go_wp2_with ((with_reducible refine OW rfl 86 (O6 2) (O6 12) rfl w.heap.size 0 #[MF ME 0,MF ME 0,MF ME 0,MF ME 0,MF ME 0,MF ME 0,MF ME 0,MF ME 0,MF ME 0,MF ME 0,MF ME 0,MF ME 0,MF ME 0,MF ME 0,MF ME 0,MF ME 0,MF ME 0] ?hx ?hy ?ht ?hi ?h1 ?_);(case hx=>rfl);(case hy=>rfl);(case ht=>exact j.out.1);(case hi=>exact azv);(case h1=>exact HO.out);rw[<-j.out.2.2.2.1])
  rw[j.out.2.2.2.2];refine Np (v:=Nv #[Ny (WR (Nj 17 0)).toArray,MF ME 5]) (XT Tryz.results21 rfl rfl (j.out.2.2.1.Io azR rfl azv)) rfl ⟨rfl,j.out.2.1⟩
abbrev azL:List Value:=[MF ME 0,MF ME 0,MF ME 0,MF ME 0,MF ME 0,MF ME 0,MF ME 0,MF ME 0,MF ME 0,MF ME 0,MF ME 0,MF ME 0,MF ME 0,MF ME 0,MF ME 0,MF ME 0,MF ME 0]
structure azn(W:MO)(l:List Ou)(cs:List M7)(Y:MO):Prop where
 is:WR (azd l)=cs
 at_:Y=(W.alloc (MP azL.toArray 86)).setCells W.heap.size 0 cs
 there:(W.alloc (MP azL.toArray 86)).there W.heap.size 0 cs.toArray.size
 len:cs.length=17
 one:cs.toArray.all (·.oneCell')=Nw
 bel:MQ W.heap.size W Y
 cell:∀j,j<17->Y.cell? ⟨W.heap.size,j,MH⟩=MI (MF ME (ay6 l j:Int))
 lt:W.heap.size<Y.heap.size
theorem azy(W:MO)(l:List Ou):∃(cs:List M7) (Y:MO),azn W l cs Y:=by
 have a:(WR (azd l)).length=17:=by rw[Zv,azf]
 have d:(W.alloc (MP azL.toArray 86)).heap[W.heap.size]?=MI (MP azL.toArray 86 (0,0)):=M1 _ _;have b:((W.alloc (MP azL.toArray 86)).setCells W.heap.size 0 (WR (azd l))).heap[W.heap.size]?=MI (MP (WR (azd l)).toArray 86 (0,0)):=anq d (by rw[a];rfl);refine⟨_,_,rfl,rfl,by rw[show(WR (azd l)).toArray.size=17 from List.size_toArray.trans a];exact afH (old:=azL) d,a,OE (ac1 _),adp (WQ W) (MV _) 0 _ (by simp),fun j hj=>?_,(Array.getElem?_eq_some_iff.1 b).1⟩;rw[MW _ _ j _ _ (0,0) b];have e:=aze l j hj;simp[WR,azf,hj,e]
theorem azw:(Tryz.prog.info? 86).map (·.size)=MI 17:=by kernel_rfl
theorem azB(v:M7)(l:List Ou)(w:MO)(hv:azo w v l)(hg:ay2 l=Nb) :
  Ni MK 21 #[v] w fun r w'=>r=MN (Nv #[Ny (WR (azd l)).toArray,MF ME 0])/\MQ w.heap.size w w':=by
 have h:=azA v l w hv;have e:azj l=(azd l,0):=by unfold azj;rw[hg];rfl
 rw[e]at h;exact h
theorem azz{a b:Int}(ha:0<=a/\a<=1000000)(hb:0<=b/\b<=1000000):0<=a*b/\a*b<=1000000*1000000:=⟨Int.mul_nonneg ha.1 hb.1,Int.mul_le_mul ha.2 hb.2 hb.1 (by omega)⟩
theorem azI{a b:Int}(ha:0<=a/\a<=1000000)(hb:0<=b/\b<=1000000):IntKind.i64.wrap (a*b)=a*b:=by
 have:=azz ha hb;rw[Ow];omega
theorem azH(f:Nat->Int)(hf:∀i,i<16->(Lit.int ME (f i)).wf=Nw)(ds:List Dd)(hds:∀d∈ds,ajd d){pd:Option Addr}{cd:Nat}(hrow:Xw agP w (MG pd ds.length cd) ds)(hB:Xo w):
  Ni MK 12 #[agc (f 0) (f 1) (f 2) (f 3) (f 4) (f 5) (f 6) (f 7) (f 8) (f 9) (f 10) (f 11) (f 12) (f 13) (f 14) (f 15),MG pd ds.length cd] w fun r w'=>r=MN (M3 Nw)/\MQ w.heap.size w w':=by
 obtain⟨L,hL,eL,d2⟩:=azD f hf ds hds hrow hB 60 (by omega);rw[eL];obtain⟨S,a9⟩:∃S,S=w.alloc (MP L.toArray 24):=⟨_,rfl⟩;have a2:MQ w.heap.size w S:=by rw[a9];exact WQ w
 have D:M6 (_/\_/\_):=⟨hL,a2,d2 S a2⟩;obtain⟨nd,c0⟩:∃nd,nd=ds.length:=⟨_,rfl⟩;rw[<-c0]at D⊢;clear hL eL d2 a2 hf hds hrow hB c0;go_enter Tryz.func12,Tryz.ntmps12
 go_wp2_with ((with_reducible refine O3 rfl 24 (O6 2) rfl w.heap.size 0 ?gx L _ ?gc Tryz.underlying24 ?gd ?gi ?_);(case gx=>rfl);(case gc=>exact afW (M1 _ _));(case gd=>rfl);(case gi=>rw[D.out.1];exact apz))
 rw[<-a9];clear a9;refine Nd D.out.2.2 ?_;rintro r j ⟨g,V,c,P,rfl,hS,d0,f4,d8,d7⟩;obtain⟨n,hn⟩:∃n,n=P.steps.length:=⟨_,rfl⟩;have l:M6 (_/\_/\_/\_/\_):=⟨hS,d0,hn,(show n<=60+4 by omega),d7⟩;have d4:=D.out.2.1.trans (hS.bel.mono D.out.2.1.size);have HB:M6 _:=d4;clear hS d0 f4 d8 d7 hn D d4;have f0:j.cell? ⟨g,10,MH⟩=MI (MF ME c.bn):=l.out.1.pat.azO 10;have f5:j.cell? ⟨g,11,MH⟩=MI (MF ME c.bd):=l.out.1.pat.azO 11;have d9:j.cell? ⟨g,12,MH⟩=MI (MF ME c.bb):=l.out.1.pat.azO 12;have c9:=l.out.1.pat.lt
 go_wp2_with fail
 obtain⟨u,M⟩:∃u,u=j.alloc (MP #[MF ME c.bn,MF ME c.bd,MF ME c.bb] 34):=⟨_,rfl⟩;obtain⟨y,a8⟩:∃y,y=j.heap.size:=⟨_,rfl⟩;rw[<-M,<-a8];have b9:u.heap[y]?=MI (MP #[MF ME c.bn,MF ME c.bd,MF ME c.bb] 34 (0,0)):=by rw[M,a8];exact M1 _ _
 have d1:MQ j.heap.size j u:=by rw[M];exact WQ j
 have a0:M6 (_/\_):=⟨b9,d1⟩;clear b9 d1 M a8 f0 f5 d9 c9
 go_loopw [8,9,10,11,12] (fun i _ _ _ _ wr=>∃k:Nat,i=MF ME (k:Int)/\k<=n/\M6 (MQ u.heap.size u wr)) (fun i _ _ _ _ _=>n-(intOf i).toNat)
 case atStart=>exact⟨0,rfl,Nx _,RowKit.Below.refl _ _⟩
 case round =>
  obtain⟨k,rfl,hk,a4⟩:=hrel;have N:M6 (MQ j.heap.size j wr):=a0.out.2.trans (a4.out.mono a0.out.2.size);have K:=l.out.1.on N.out;have e0:wr.cell? ⟨g,16,MH⟩=MI (MG V.ps n V.cs):=by rw[l.out.2.2.1];exact K.pat.Gm
  have c9:=K.pat.lt
  by_cases hlt:k<n
  ·have f3:(k:Int)<(n:Int):=by omega
   have g5:n<=9223372036854775807:=by have:=l.out.2.2.2.1;omega
   obtain⟨q,b,o,O,d3,d5⟩:=K.step (k:=k) (by rw[<-l.out.2.2.1];exact hlt);obtain⟨Y,hY,a6,b7,a7⟩:=O.box;obtain⟨R,T⟩:∃R,R=abK q:=⟨_,rfl⟩;have c8:=O.at_;have g0:Y.cell? ⟨wr.heap.size,60,MH⟩=MI (MG q.po q.s.out.length q.co):=(a6.F7 60).trans rfl;have a3:=O.cells;rw[<-T]at hY a7 a3;have E:M6 (_/\_/\_/\_/\_/\_):=⟨a3,a7,hY,T,N.out.trans (b7.mono N.out.size),(show R.length=61 by rw[T];rfl)⟩;have e:M6 (_/\_/\_/\_):=⟨d3,d5,a6,b7⟩;clear O d3 d5 hY a6 b7 a7 T a3;rw[c8]at e0;clear c8
   have e8:M6 _:=azB _ q.s.out Y e.out.2.2.1.rd.2.2 e.out.2.1.good;clear K
   go_wp2_with (first|((with_reducible refine O3 rfl 64 (O6 38) rfl b (o+k*61) ?gx R _ ?gc Tryz.underlying64 ?gd ?gi ?_);(case gx=>rfl);(case gc=>exact E.out.1);(case gd=>rfl);(case gi=>rw[E.out.2.2.2.2.2];exact azx))|((with_reducible refine OW rfl 64 (O6 9) (O6 39) rfl wr.heap.size 0 R.toArray ?sx ?sy ?st ?si ?s1 ?_);(case sx=>rfl);(case sy=>rfl);(case st=>exact E.out.2.1);(case si=>rw[OQ,E.out.2.2.2.2.2];exact azx);(case s1=>rw[E.out.2.2.2.1];exact azE q);rw[NS,<-E.out.2.2.1]))
   refine Nd e8.out ?_;rintro r Q ⟨rfl,H⟩;obtain⟨cs,Z,t⟩:=azy Q (q.s.out);rw[t.is];obtain⟨C,d6⟩:∃C,C=wr.heap.size:=⟨_,rfl⟩;have F:=(e.out.2.2.1.on H).on t.bel;have a5:=e.out.2.2.1.on H;rw[<-d6]at F a5⊢;have l8:C<Z.heap.size:=(Array.getElem?_eq_some_iff.1 F.box).1;have l3:C<Q.heap.size:=(Array.getElem?_eq_some_iff.1 a5.box).1;have f6:=t.lt;clear a5 d6;have k1:=t.cell 1 (by omega);have k5:=t.cell 5 (by omega);have b6:MQ u.heap.size u Z:=a4.out.trans (((e.out.2.2.2.trans (H.mono e.out.2.2.2.size)).trans (t.bel.mono (Nm e.out.2.2.2.size H.size))).mono a4.out.size);have I:=WO a0.out.1 b6;have u0:Z.cell? ⟨y,0,MH⟩=MI (MF ME c.bn):=by simp[World.cell?,I]
   have u1:Z.cell? ⟨y,1,MH⟩=MI (MF ME c.bd):=by simp[World.cell?,I]
   have u2:Z.cell? ⟨y,2,MH⟩=MI (MF ME c.bb):=by simp[World.cell?,I]
   have ul:y<Z.heap.size:=(Array.getElem?_eq_some_iff.1 I).1;obtain⟨J,U⟩:∃m,m=q.s.bef.tok:=⟨_,rfl⟩;obtain⟨B,b3⟩:∃m,m=q.s.aft.tok:=⟨_,rfl⟩;have f9:Z.cell? ⟨C,31,MH⟩=MI (MF ME J):=by rw[U];exact(F.F7 31).trans rfl
   have f7:Z.cell? ⟨C,57,MH⟩=MI (MF ME B):=by rw[b3];exact(F.F7 57).trans rfl
   have z:=e.out.2.1.azN;have p1:=ay7 q.s.out 1;have p5:=ay7 q.s.out 5;have f2:=e.out.2.1.azM;have g3:=l.out.2.1.ok.2.2.2.2.2.2.2.2.2.2.1;have g1:=e.out.2.1.wm.im.bs.tok;have g2:=e.out.2.1.next.im.bs.tok;rw[e.out.2.1.cfg]at g1;rw[<-U]at z g1;rw[<-b3]at z g2;generalize ay6 q.s.out 1=n1 at *;generalize ay6 q.s.out 5=n5 at *;have b2:=azz (a:=c.bb) (b:=c.bd) (by omega) (by omega);have b5:=azz (a:=(n5:Int)) (b:=c.bd) (by omega) (by omega);have m2:=azI (a:=c.bb) (b:=c.bd) (by omega) (by omega);have m5:=azI (a:=(n5:Int)) (b:=c.bd) (by omega) (by omega);obtain⟨x2,a1⟩:∃x,x=c.bb*c.bd:=⟨_,rfl⟩;obtain⟨x5,b8⟩:∃x,x=(n5:Int)*c.bd:=⟨_,rfl⟩;replace m2:=m2.trans a1.symm;replace m5:=m5.trans b8.symm;rw[<-a1]at b2 z g1;rw[<-b8]at b5 z;have h0:¬B<0:=by omega
   have f8:(B != B)=false:=by simp
   have p:M6 _:=t;have HE:M6 _:=b6;clear t H F U b3 b6 I g2 p1 p5 f2 a1 b8
   by_cases hn1:0<n1
   ·rw[Nh hn1]at z
    have g4:IntKind.i64.wrap (J+c.bn)=J+c.bn:=by rw[Ow];omega
    have e9:IntKind.i64.wrap (min (J+c.bn) x2-x5)=B:=by rw[Ow];omega
    have f1:(0:Int)<(n1:Int):=by omega
    go_wp2_with ((with_reducible refine OW rfl 86 (O6 10) (O6 44) rfl Q.heap.size 0 cs.toArray ?sx ?sy ?st ?si ?s1 ?_);(case sx=>rfl);(case sy=>rfl);(case st=>exact p.out.there);(case si=>rw[OQ,p.out.len];exact azw);(case s1=>exact p.out.one);rw[NS,<-p.out.at_])
    go_roundw
    case rel=>exact⟨k+1,by simp,hlt,HE.out⟩
    case measure=>simp[intOf];omega
   ·rw[Nf hn1]at z
    have e9:IntKind.i64.wrap (J-x5)=B:=by rw[Ow];omega
    have f1:¬(0:Int)<(n1:Int):=by omega
    go_wp2_with ((with_reducible refine OW rfl 86 (O6 10) (O6 44) rfl Q.heap.size 0 cs.toArray ?sx ?sy ?st ?si ?s1 ?_);(case sx=>rfl);(case sy=>rfl);(case st=>exact p.out.there);(case si=>rw[OQ,p.out.len];exact azw);(case s1=>exact p.out.one);rw[NS,<-p.out.at_])
    go_roundw
    case rel=>exact⟨k+1,by simp,hlt,HE.out⟩
    case measure=>simp[intOf];omega
  ·obtain rfl:k=n:=by omega
   have f3:¬(k:Int)<(k:Int):=by omega
   go_wp2;go_ret;exact⟨rfl,HB.out.trans (N.out.mono HB.out.size)⟩
end Go.Proofs.YtmpokpecfclapaaGreatDoor.Q
