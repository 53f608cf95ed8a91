/-
  TopEach: its walk. Conditions: as each theorem says.
-/
import Derived.Test.YtmpokpecfclapaaGreatDoorQ20
open Bool renaming false->Nb,false_ne_true->PE,or_eq_false_iff->aAs,true->Nw
open Decidable renaming decide->Nn
open Go renaming Addr->Oc,Calls->Ni,Value->M7,World->MO,all_oneCell_toArray->OE,bodyPost_ret->Np,cell_grown->Ob,cell_of_row->MW,heap_alloc_new->M1,maxLen->NE,wpList_load_mid->O3,wpList_store_mid->OW,wpQuiet_nil->Oy,wp_region_quiet_grown->NQ
open Go.Calls renaming grown_of->NZ,mono->Nd
open Go.Ending renaming returned->MN
open Go.IntKind renaming i64->ME
open Go.Obj renaming cells->MP
open Go.Operand renaming tmp->O6
open Go.Proofs.Tryz renaming func28->WF,func42->aAv,ntmps156->Ss,ntmps28->Ww,ntmps42->aAt,prog->MK,underlying86->aAu
open Go.RowKit renaming Below->MQ,Hid->M6
open Go.RowKit.Below renaming refl->MY
open Go.Sort renaming alloc_eq_grow->PQ,grow->Oj
open Go.Value renaming agg->Ny,bool->M3,func->PB,int->MF,slice->MG,tuple->Nv
open Go.World renaming cell?->Nl
open Int renaming eq_ofNat_of_zero_le->NL,toNat_natCast->NR
open List renaming append_nil->OG,ext_getElem->PX,filter_append->OY,getD_eq_getElem?_getD->NK,getElem?_eq_getElem->MR,getElem_mem->Nk,getElem_set->Pc,length_append->Ns,length_take->NH,replicate->Nj,take_length->NT,take_of_length_le->N1,take_succ_eq_append_getElem->M9
open Nat renaming le_refl->MV,le_trans->Nm,zero_le->Nx
open Option renaming getD_some->OV,none->MH,some->MI
open Or renaming inl->Nt,inr->NF
namespace Go.Proofs.YtmpokpecfclapaaGreatDoor.Q
set_option linter.unusedVariables false
set_option linter.unusedSimpArgs false
set_option maxHeartbeats 16000000
set_option maxRecDepth 100000
open Go.RowKit
attribute [local go_sem ↓] Go.wp_at_zero Go.wp_at_succ
variable {c:Cf}{m s:Int}{w:MO}{g:Nat}{V:Pv}{P:Py}
structure ay0(X Y:Gt):Prop where
 fls:Y.fls=X.fls
 tab:Y.tab=X.tab
 tok:Y.tok=X.tok
 cfg:Y.cfg=X.cfg
 out:Y.out=X.out
structure Mv(X Y:Gt)(F:List Fl)(T:List awY)(k:Int)(o:Ou):Prop where
 fls:Y.fls=F
 tab:Y.tab=T
 tok:Y.tok=k
 cfg:Y.cfg=X.cfg
 out:Y.out=X.out++[o]
abbrev ay3(f:Fl)(k y:Int):Prop:=(k=7/\y=0)\/(k=6/\((y=1/\f.srv=Nw)\/y=2\/(f.srv=Nb/\(y=3\/y=4\/y=5))))
structure aAm(op:Prop)(R:Gt->Prop):Prop where
 same:∀X Y,ay0 X Y->R X->R Y
 no:∀X Y o,(o.kind=2\/o.kind=8\/o.kind=9\/o.kind=10)->o.why=0->Mv X Y X.fls X.tab X.tok o->R X->R Y
 ends:∀X Y f k y,Bs X->f∈X.fls->ay3 f k y->Mv X Y (X.fls.filter fun x=>x.slot != f.slot) (X.tab.set f.slot.toNat (f.gen+1,Nb,0,0)) X.tok ⟨k,f.slot,f.gen,f.be,0,0,y⟩->R X->R Y
 again:∀X Y i (hi:i<X.fls.length) b d,Bs X->X.fls[i].srv=Nb->X.fls[i].ret+1<=X.cfg.ret->X.cfg.bd<=X.tok->(0<=b/\b<12)->Mv X Y (X.fls.set i {X.fls[i]with be:=b,ret:=X.fls[i].ret+1,due:=d}) (X.tab.set X.fls[i].slot.toNat (X.fls[i].gen,Nw,X.fls[i].key,b)) (X.tok-X.cfg.bd) ⟨5,X.fls[i].slot,X.fls[i].gen,b,0,0,0⟩->R X->R Y
 serves:∀X Y i (hi:i<X.fls.length) d,Bs X->X.fls[i].srv=Nb->Mv X Y (X.fls.set i {X.fls[i]with srv:=Nw,due:=d}) X.tab X.tok ⟨4,X.fls[i].slot,X.fls[i].gen,X.fls[i].be,0,0,0⟩->R X->R Y
 forw:∀X Y i (hi:i<X.fls.length) d,Bs X->Mv X Y (X.fls.set i {X.fls[i]with due:=d}) X.tab X.tok ⟨3,X.fls[i].slot,X.fls[i].gen,X.fls[i].be,0,0,0⟩->R X->R Y
 opens:op->∀X Y (k:Nat) (hk:k<X.tab.length) key b d,Bs X->X.tab[k].2.1=Nb->(0<=X.tab[k].1/\X.tab[k].1<=1048575)->(0<=b/\b<12)->Mv X Y (Xi X.fls ⟨k,X.tab[k].1,key,b,Nb,0,d⟩ (Y3 X.fls k)) (X.tab.set k (X.tab[k].1,Nw,key,b)) (min (X.tok+X.cfg.bn) (X.cfg.bb*X.cfg.bd)) ⟨1,k,X.tab[k].1,b,0,0,0⟩->R X->R Y
section
variable {op:Prop}{R:Gt->Prop}{G:Gt}
theorem aAm.drain(h:aAm op R){X:Gt}(hR:R X)(b:Int):R (Yf X b):=by
 unfold Yf
 split
 ·exact h.no X _ _ (NF (NF (Nt rfl))) rfl ⟨rfl,rfl,rfl,rfl,rfl⟩ hR
 ·exact hR
theorem aAm.Hc(h:aAm op R){X:Gt}(hb:Bs X){f:Fl}(hf:f∈X.fls){k y:Int}(hy:ay3 f k y)(hR:R X):R (Yg X f k y):=by
 unfold Yg;refine h.drain ?_ _;exact h.ends X _ f k y hb hf hy ⟨hb.GL hf,congrArg Prod.fst (hb.Hj hf),rfl,rfl,rfl⟩ hR
theorem aAm.I8(h:aAm op R){X:Gt}(hb:Bs X){i:Nat}(hi:i<X.fls.length)(hs:X.fls[i].srv=Nb){y:Int}(hy:y=3\/y=5)(hR:R X):R (YP X i y):=by
 have a:=Nk hi;have d:=(hb.F9 a).2.2.2;rcases aeI hb hi y with⟨z,q,l⟩|⟨c,q,k,j,n,b,_⟩
 ·rw[q]
  refine aAm.Hc h (X:=Yh X X.fls[i].be Nw) (hb.GA d Nw) a (NF ⟨rfl,NF (NF ⟨hs,by omega⟩)⟩) ?_;exact h.same X _ ⟨rfl,rfl,rfl,rfl,rfl⟩ hR
 ·obtain⟨T,e⟩:=ak0 (G:={Yh X X.fls[i].be Nw with tok:=X.tok-X.cfg.bd}) hi c
  rw[q,e];refine h.drain ?_ _;exact h.again X _ i hi c _ hb hs j k b ⟨rfl,congrArg Prod.fst (hb.Ho a b),rfl,rfl,rfl⟩ hR
theorem aAm.Mm(h:aAm op R)(hm:Wm G){e:Ev}(he:XZ e)(h7:e.kind=7->G.now+1<=1099511626776)(h1:e.kind=1->op)(hR:R G):R (Xb G e):=by
 have a:=hm.im.bs;have l:∀k,R (Yv G k e):=fun k=>h.no G _ _ (NF (Nt rfl)) rfl ⟨rfl,rfl,rfl,rfl,rfl⟩ hR
 unfold Xb
 split
 ·rename_i k1
  rcases afU a he.key with⟨q,_⟩|⟨q,_⟩|⟨k,r,_,_,p,_,u,B,_,q⟩ <;> rw[q]
  ·exact h.no G _ _ (Nt rfl) rfl ⟨rfl,rfl,rfl,rfl,rfl⟩ hR
  ·exact h.no G _ _ (Nt rfl) rfl ⟨rfl,rfl,rfl,rfl,rfl⟩ hR
  ·exact h.opens (h1 k1) G _ k r _ _ _ a u B p ⟨rfl,rfl,rfl,rfl,rfl⟩ hR
 ·split
  ·exact l 1
  ·split
   ·unfold abg
    split
    ·exact l 2
    ·split
     ·exact h.no (Yv G 2 e) _ _ (NF (NF (Nt rfl))) rfl ⟨rfl,rfl,rfl,rfl,rfl⟩ (l 2)
     ·exact h.drain (X:={Yv G 2 e with wts:=G.wts.set e.be.toNat 0}) (h.same (Yv G 2 e) _ ⟨rfl,rfl,rfl,rfl,rfl⟩ (l 2)) _
   ·split
    ·rename_i k7
     refine alk (R:=R) hm (h7 k7) ?_ (fun X f y hX hf j hR=>h.Hc hX.bs hf (NF ⟨rfl,by rcases j with j|j;exact Nt j;exact NF (Nt j)⟩) hR) (fun X i hX b d hR=>h.I8 hX.bs b d (NF rfl) hR);obtain⟨_,_,C,z,D,t,v,_⟩:=aeS (a.next (h7 k7));exact h.same G _ ⟨C,t,v,z,D⟩ hR
    ·rcases akr a e with⟨p,q⟩|⟨i,b,_,_,_,⟨_,q⟩|⟨_,q⟩|⟨_,_,⟨_,q⟩|⟨d,_,q⟩|⟨d,_,q⟩⟩⟩
     ·rw[q];exact h.no G _ _ (NF (NF (NF rfl))) rfl ⟨rfl,rfl,rfl,rfl,rfl⟩ hR
     ·rw[q];exact h.Hc a (Nk b) (Nt ⟨rfl,rfl⟩) hR
     ·obtain⟨T,n⟩:=aks b
      rw[q,n];refine h.forw G _ i b (if G.fls[i].srv then G.now+G.cfg.idle else G.fls[i].due) a ⟨?_,rfl,rfl,rfl,rfl⟩ hR;show G.fls.set i _=G.fls.set i _
      congr 1
      split <;> rfl
     ·rw[q];exact h.no G _ _ (NF (NF (NF rfl))) rfl ⟨rfl,rfl,rfl,rfl,rfl⟩ hR
     ·obtain⟨T,n⟩:=alb b
      rw[q,n];exact h.serves G _ i b _ a d ⟨rfl,rfl,rfl,rfl,rfl⟩ hR
     ·rw[q];exact h.I8 a b d (Nt rfl) hR
theorem Mv.pre{X Y:Gt}{F:List Fl}{T:List awY}{k:Int}{o:Ou}(h:Mv X Y F T k o)(L:List Ou):Mv {X with out:=L++X.out} {Y with out:=L++Y.out} F T k o :=
 ⟨h.fls,h.tab,h.tok,h.cfg,by show L++Y.out=L++X.out++[o];rw[h.out,List.append_assoc]⟩
theorem aAm.pre(h:aAm op R)(L:List Ou):aAm op fun X=>R {X with out:=L++X.out}where
 same:=fun X Y hs hR=>h.same {X with out:=L++X.out} _ ⟨hs.fls,hs.tab,hs.tok,hs.cfg,by show L++Y.out=L++X.out;rw[hs.out]⟩ hR
 no:=fun X Y o ho hy hs hR=>h.no {X with out:=L++X.out} _ o ho hy (hs.pre L) hR
 ends:=fun X Y f k y hb hf hy hs hR=>h.ends {X with out:=L++X.out} _ f k y (hb.Jh _) hf hy (hs.pre L) hR
 again:=fun X Y i hi b d hb h1 h2 h3 h4 hs hR=>h.again {X with out:=L++X.out} _ i hi b d (hb.Jh _) h1 h2 h3 h4 (hs.pre L) hR
 serves:=fun X Y i hi d hb h1 hs hR=>h.serves {X with out:=L++X.out} _ i hi d (hb.Jh _) h1 (hs.pre L) hR
 forw:=fun X Y i hi d hb hs hR=>h.forw {X with out:=L++X.out} _ i hi d (hb.Jh _) (hs.pre L) hR
 opens:=fun ho X Y k hk key b d hb h1 h2 h3 hs hR=>h.opens ho {X with out:=L++X.out} _ k hk key b d (hb.Jh _) h1 h2 h3 (hs.pre L) hR
theorem Rn.flows{A:Gt}(h:Rn A c P)(hF:aAm True R)(h0:R A)(hA:A.out=[]):R {P.last with out:=(P.steps.map (·.out)).flatten}:=by
 refine h.Mw (J:=fun P=>R {P.last with out:=(P.steps.map (·.out)).flatten}) ?_ fun Q e hQ he hl hJ=>?_
 ·exact hF.same A _ ⟨rfl,rfl,rfl,rfl,hA.symm⟩ h0
 ·have b:=hQ.runs.now
  have a:=(hF.pre ((Q.steps.map (·.out)).flatten)).Mm (G:=Q.last) hQ.runs.wm (aeH he) (fun _=>by omega) (fun _=>trivial) (by rw[hQ.runs.out,OG];exact hJ);refine hF.same {Xb Q.last e with out:=(Q.steps.map (·.out)).flatten++(Xb Q.last e).out} _ ⟨rfl,rfl,rfl,rfl,?_⟩ a;show((Q.steps++[(⟨e,Q.last,(Xb Q.last e).Ma,(Xb Q.last e).out⟩:Sp)]).map fun s=>s.out).flatten=(Q.steps.map fun s=>s.out).flatten++(Xb Q.last e).out;simp
end
def ay6(o:Ou):Bool:=Nn (o.kind<1) || decide (10<o.kind) || decide (o.why<0) || decide (5<o.why)
def ay4(l:List Ou):Bool:=l.any ay6
theorem ay7{o:Ou}(h:ay6 o=Nb):(1<=o.kind/\o.kind<=10)/\0<=o.why/\o.why<=5:=by
 unfold ay6 at h;simp only[aAs,decide_eq_false_iff_not]at h;omega
theorem ay5{l:List Ou}(h:ay4 l=Nb){o:Ou}(ho:o∈l):ay6 o=false:=by
 have:=List.any_eq_false.1 h o ho
 simpa using this
def aze(o:Ou)(j:Nat):Bool:=if j<11 then o.kind == (j:Int)else o.kind == 6 && o.why == ((j-11:Nat):Int)
def ay8(l:List Ou)(j:Nat):Nat:=l.countP fun o=>aze o j
def azf(l:List Ou):List Int:=(List.range 17).map fun j=>(ay8 l j:Int)
theorem azh(l:List Ou):(azf l).length=17:=by simp[azf]
theorem azi:azf []=Nj 17 0:=by simp[azf,ay8];rfl
theorem ay9(l:List Ou)(j:Nat):ay8 l j<=l.length:=List.countP_le_length
theorem azg(l:List Ou)(j:Nat)(hj:j<17):(azf l)[j]'(by rw[azh];exact hj)=(ay8 l j:Int):=by simp[azf]
theorem aza(l:List Ou)(o:Ou)(j:Nat):ay8 (l++[o]) j=ay8 l j+(if aze o j then 1 else 0):=by
 simp[ay8,List.countP_append,List.countP_cons]
theorem azj(l:List Ou)(o:Ou)(k:Nat)(hk:o.kind=(k:Int))(h11:k<11)(h6:¬o.kind=6):azf (l++[o])=(azf l).set k ((ay8 l k:Int)+1):=by
 apply PX
 ·simp[azh]
 ·intro j a b
  rw[azh]at a;rw[azg _ _ a,Pc,aza]
  by_cases e:k=j
  ·subst e
   simp[aze,h11,hk]
  ·rw[Nf e,azg _ _ a]
   have:aze o j=false:=by
    unfold aze
    split
    ·rw[hk]
     simp;omega
    ·simp[h6]
   simp[this]
theorem azk(l:List Ou)(o:Ou)(y:Nat)(hk:o.kind=6)(hy:o.why=(y:Int))(h6:y<6):azf (l++[o])=((azf l).set 6 ((ay8 l 6:Int)+1)).set (11+y) ((ay8 l (11+y):Int)+1):=by
 apply PX
 ·simp[azh]
 ·intro j a b
  rw[azh]at a;rw[azg _ _ a,Pc,Pc,aza]
  by_cases e:11+y=j
  ·subst e
   simp[aze,hk,hy]
  ·rw[Nf e]
   by_cases e6:6=j
   ·subst e6
    simp[aze,hk]
   ·rw[Nf e6,azg _ _ a]
    have:aze o j=false:=by
     unfold aze
     split
     ·rw[hk]
      simp;omega
     ·rw[hk,hy]
      simp;omega
    simp[this]
def azq(l:List Ou):List Int×Int:=if ay4 l then(Nj 17 0,5)else(azf l,0)
def azp(o:Ou):Bool:=Nn (o.kind=1) || (Nn (3<=o.kind) && Nn (o.kind<=7))
def azm(s g:Int)(o:Ou):Bool:=azp o && (Nn (o.slot=s) && Nn (o.gen=g))
def azy(l:List Ou)(s g:Int):List Ou:=l.filter (azm s g)
def azC(l:List Ou)(s g:Int):List Ou×Int:=if ay4 l then([],5)else(azy l s g,0)
theorem azB{l:List Ou}{g:Int}{k:Nat}{x:Ou}(h:l.take (k+1)=l.take k++[x]):azy (l.take (k+1)) s g=azy (l.take k) s g++(if azm s g x then [x]else []):=by
 rw[h];simp only[azy,OY,List.filter_cons,List.filter_nil]
theorem azA(l:List Ou)(s g:Int):(azy l s g).length<=l.length:=List.length_filter_le _ _
section
variable {X:Gt}
theorem azb(l:List Ou)(o:Ou)(j:Nat)(hj:j<11):ay8 (l++[o]) j=ay8 l j+if o.kind=(j:Int)then 1 else 0:=by
 rw[aza];have a:aze o j=Nn (o.kind=(j:Int)):=by unfold aze;rw[Nh hj];rfl
 rw[a]
 by_cases h:o.kind=(j:Int) <;> simp[h]
theorem azd:aAm True fun X=>ay4 X.out=false:=by
 have a:∀(X Y:Gt) (o:Ou),ay4 X.out=Nb->ay6 o=Nb->Y.out=X.out++[o]->ay4 Y.out=false:=fun X Y o h1 h2 h3=>by
  unfold ay4 at h1⊢;rw[h3,List.any_append,h1];simp[h2]
 refine⟨fun X Y hs hR=>by rw[hs.out];exact hR,fun X Y o ho hy hs hR=>a X Y _ hR ?_ hs.out,fun X Y f k y hb hf hy hs hR=>a X Y _ hR ?_ hs.out,fun X Y i hi b d hb h1 h2 h3 h4 hs hR=>a X Y _ hR rfl hs.out,fun X Y i hi d hb h1 hs hR=>a X Y _ hR rfl hs.out,fun X Y i hi d hb hs hR=>a X Y _ hR rfl hs.out,fun _ X Y k hk ky b d hb h1 h2 h3 hs hR=>a X Y _ hR rfl hs.out⟩
 ·unfold ay6
  simp only[aAs,decide_eq_false_iff_not];omega
 ·unfold ay6
  simp only[aAs,decide_eq_false_iff_not];omega
end
section
variable {A:Gt}{c:Cf}{P:Py}{s:Sp}
theorem Rn.good(h:Rn A c P)(hA:A.out=[]):ay4 (P.steps.map (·.out)).flatten=false:=h.flows azd (by rw[hA];rfl) hA
end
section
variable {G:Gt}
theorem azc(h:Im G):(acG G).out.length<=G.out.length+960:=by
 have a:=(akI G.liv G G.liv.length h (MV _)).2.2;rw[NT]at a;have b:G.liv.length<=12:=h.bs.book.1.1;show(G.liv.foldl Zd G).out.length<=_;omega
theorem azE(h:Wm G)(hn:G.now+1<=1099511626776):(abj G).out.length<=G.out.length+1040:=by
 have d:=h.im.next hn;obtain⟨p,j,l,t,q,_⟩:=aeS d.bs;have n:=d.Jf;have e:=n.I2;have i:(aaC (YH {G with now:=G.now+1})).now=G.now+1:=p;have b:(aaC (YH {G with now:=G.now+1})).wnow=G.now:=j.trans h.wnow;obtain⟨k,_⟩:=e.Je (by rw[b,i]) (fun f a=>by
  have a:f∈(YH {G with now:=G.now+1}).fls:=a;rw[l]at a;rw[b];exact h.due f a)
 have r:=azc k;have v:=ao7 e.bs;have u:(aaC (YH {G with now:=G.now+1})).out.length=G.out.length:=congrArg List.length q;show(acG _).out.length<=_;omega
theorem azD(hm:Wm G)(e:Ev)(h7:e.kind=7->G.now+1<=1099511626776):(Xb G e).out.length<=G.out.length+1040:=by
 unfold Xb
 split
 ·unfold aaI
  split
  ·simp[acm,ZM]
  ·simp only[]
   split
   ·simp[acm,ZM]
   ·simp[abv,abi,ZM,YW]
 ·split
  ·simp[Yv,ZM]
  ·split
   ·unfold abg
    split
    ·simp[Yv,ZM]
    ·split
     ·simp[aeQ,Yv,ZM]
     ·refine Nm (aki _) ?_
      simp[Yv,ZM]
   ·split
    ·rename_i h
     exact azE hm (h7 h)
    ·unfold aaq
     simp only[]
     split
     ·simp[acm,ZM]
     ·split
      ·exact Nm (afK _ _ _) (by omega)
      ·split
       ·unfold aaZ
        simp only[]
        split <;> simp[abi,ZM,YW,Y4]
       ·split
        ·simp[acm,ZM]
        ·split
         ·simp[abh,abi,ZM,YW,Y4,Yh]
         ·exact Nm (aoZ _ _) (by omega)
theorem aaB.aAq{s:Sp}(h:aaB c s):s.out.length<=1040:=by
 rw[h.out];have:=azD h.wm s.ev h.late;rw[h.out0]at this
 simpa using this
end
structure Ss where
 ph:Nat
 be:Int
 srv:Bool
 ret:Int
variable {x:Ss}
abbrev azv:Ss:=⟨0,-1,Nb,0⟩
def aAn(m:Int)(x:Ss)(o:Ou):Option Ss :=
 if o.kind=1/\x.ph=0/\0<=o.be then MI ⟨1,o.be,Nb,0⟩
 else if o.kind=3/\x.ph=1/\o.be=x.be then MI x
 else if o.kind=4/\x.ph=1/\o.be=x.be/\x.srv=Nb then MI ⟨1,x.be,Nw,x.ret⟩
 else if o.kind=5/\x.ph=1/\0<=o.be/\x.srv=Nb/\x.ret+1<=m then MI ⟨1,o.be,Nb,x.ret+1⟩
 else if o.kind=6/\x.ph=1/\o.be=x.be/\(o.why=1->x.srv=Nw)/\(x.srv=Nw->o.why=1\/o.why=2)then MI ⟨2,x.be,x.srv,x.ret⟩
 else if o.kind=7/\x.ph=1/\o.be=x.be then MI ⟨2,x.be,x.srv,x.ret⟩
 else MH
def azr(m:Int)(l:List Ou):Option Ss:=l.foldl (fun x o=>x.bind fun x=>aAn m x o) (MI azv)
theorem azu(m:Int)(l:List Ou)(o:Ou):azr m (l++[o])=(azr m l).bind fun x=>aAn m x o:=by
 unfold azr;rw[List.foldl_append];rfl
theorem azl{l:List Ou}(h:l≠[]):∃l' o,l=l'++[o]:=⟨l.dropLast,l.getLast h,(List.dropLast_concat_getLast h).symm⟩
section
variable {m:Int}{x:Ss}{o:Ou}
theorem azF(h:o.kind=1)(h1:x.ph=0)(h2:0<=o.be):aAn m x o=MI ⟨1,o.be,Nb,0⟩:=by simp[aAn,h,h1,h2]
theorem azG(h:o.kind=3)(h1:x.ph=1)(h2:o.be=x.be):aAn m x o=MI x:=by simp[aAn,h,h1,h2]
theorem azH(h:o.kind=4)(h1:x.ph=1)(h2:o.be=x.be)(h3:x.srv=Nb):aAn m x o=MI ⟨1,x.be,Nw,x.ret⟩:=by simp[aAn,h,h1,h2,h3]
theorem azI(h:o.kind=5)(h1:x.ph=1)(h2:0<=o.be)(h3:x.srv=Nb)(h4:x.ret+1<=m):aAn m x o=MI ⟨1,o.be,Nb,x.ret+1⟩:=by simp[aAn,h,h1,h2,h3,h4]
theorem azJ(h:o.kind=6)(h1:x.ph=1)(h2:o.be=x.be)(h3:o.why=1->x.srv=Nw)(h4:x.srv=Nw->o.why=1\/o.why=2):aAn m x o=MI ⟨2,x.be,x.srv,x.ret⟩:=by
 unfold aAn;rw[Nf (by omega),Nf (by omega),Nf (by omega),Nf (by omega),Nh ⟨h,h1,h2,h3,h4⟩]
theorem azK(h:o.kind=7)(h1:x.ph=1)(h2:o.be=x.be):aAn m x o=MI ⟨2,x.be,x.srv,x.ret⟩:=by simp[aAn,h,h1,h2]
end
theorem azL{y:Ss}{o:Ou}(h:aAn m x o=MI y):(o.kind=1/\x.ph=0/\0<=o.be/\y=⟨1,o.be,Nb,0⟩) \/
  (o.kind=3/\x.ph=1/\o.be=x.be/\y=x)\/(o.kind=4/\x.ph=1/\o.be=x.be/\x.srv=Nb/\y=⟨1,x.be,Nw,x.ret⟩) \/
  (o.kind=5/\x.ph=1/\0<=o.be/\x.srv=Nb/\x.ret+1<=m/\y=⟨1,o.be,Nb,x.ret+1⟩) \/
  (o.kind=6/\x.ph=1/\o.be=x.be/\(o.why=1->x.srv=Nw)/\(x.srv=Nw->o.why=1\/o.why=2)/\y=⟨2,x.be,x.srv,x.ret⟩) \/
  (o.kind=7/\x.ph=1/\o.be=x.be/\y=⟨2,x.be,x.srv,x.ret⟩):=by
 unfold aAn at h
 split at h
 ·rename_i q;cases h;exact Nt ⟨q.1,q.2.1,q.2.2,rfl⟩
 ·split at h
  ·rename_i q;cases h;exact NF (Nt ⟨q.1,q.2.1,q.2.2,rfl⟩)
  ·split at h
   ·rename_i q;cases h;exact NF (NF (Nt ⟨q.1,q.2.1,q.2.2.1,q.2.2.2,rfl⟩))
   ·split at h
    ·rename_i q;cases h;exact NF (NF (NF (Nt ⟨q.1,q.2.1,q.2.2.1,q.2.2.2.1,q.2.2.2.2,rfl⟩)))
    ·split at h
     ·rename_i q;cases h;exact NF (NF (NF (NF (Nt ⟨q.1,q.2.1,q.2.2.1,q.2.2.2.1,q.2.2.2.2,rfl⟩))))
     ·split at h
      ·rename_i q;cases h;exact NF (NF (NF (NF (NF ⟨q.1,q.2.1,q.2.2,rfl⟩))))
      ·cases h
def ay1(X:Gt)(s g:Int)(x:Ss):Prop :=
 (∃f∈X.fls,f.slot=s/\f.gen=g/\x=⟨1,f.be,f.srv,f.ret⟩) \/
 ((∀f∈X.fls,f.slot=s->f.gen≠g)/\((x=azv/\aad (X.tab.getD s.toNat aby)<=g)\/x.ph=2/\g<aad (X.tab.getD s.toNat aby)))
def ay2(m s g:Int)(X:Gt):Prop:=X.cfg.ret=m/\∃x,azr m (azy X.out s g)=MI x/\ay1 X s g x
theorem azz(l:List Ou)(o:Ou)(s g:Int):azy (l++[o]) s g=azy l s g++if azm s g o then [o]else []:=by
 simp only[azy,OY,List.filter_cons,List.filter_nil]
theorem azn{g:Int}{o:Ou}(hk:o.kind=1\/(3<=o.kind/\o.kind<=7)):azm s g o=Nw↔o.slot=s/\o.gen=g:=by
 have:azp o=true:=by unfold azp;simp;omega
 unfold azm;rw[this];simp
section
variable {m s g:Int}{X Y:Gt}
theorem ay2.Hk(hR:ay2 m s g X){o:Ou}(hcfg:Y.cfg=X.cfg)(ho:Y.out=X.out++[o])(hm:azm s g o=Nb)(h:∀x,ay1 X s g x->ay1 Y s g x):ay2 m s g Y:=by
 obtain⟨a,x,b,d⟩:=hR;refine⟨by rw[hcfg];exact a,x,?_,h x d⟩;rw[ho,azz,hm,Nf PE,OG];exact b
theorem ay2.own(hR:ay2 m s g X){o:Ou}(hcfg:Y.cfg=X.cfg)(ho:Y.out=X.out++[o])(hm:azm s g o=Nw)(h:∀x,ay1 X s g x->∃y,aAn m x o=MI y/\ay1 Y s g y):ay2 m s g Y:=by
 obtain⟨a,x,d,b⟩:=hR;obtain⟨y,i,e⟩:=h x b;refine⟨by rw[hcfg];exact a,y,?_,e⟩;rw[ho,azz,hm,Nh rfl,azu,d];exact i
theorem ay1.at_(hb:Bs X){f:Fl}(hf:f∈X.fls)(h:ay1 X f.slot f.gen x):x=⟨1,f.be,f.srv,f.ret⟩:=by
 rcases h with⟨k,b,a,_,e⟩|⟨h,_⟩
 ·rw[hb.Ic b hf a]at e;exact e
 ·exact absurd rfl (h f hf rfl)
theorem azo{g:Int}{o:Ou}(h:¬(o.slot=s/\o.gen=g)):azm s g o=false:=by
 unfold azm
 by_cases h1:o.slot=s
 ·have:¬o.gen=g:=fun e=>h ⟨h1,e⟩
  simp[this]
 ·simp[h1]
theorem azw(hb:Bs X){i:Nat}(hi:i<X.fls.length){y:Fl}(hs:y.slot=X.fls[i].slot)(hg:y.gen=X.fls[i].gen)(hf:Y.fls=X.fls.set i y)(hp:aad (Y.tab.getD s.toNat aby)=aad (X.tab.getD s.toNat aby)) :
  (¬(X.fls[i].slot=s/\X.fls[i].gen=g)->∀x,ay1 X s g x->ay1 Y s g x)/\((X.fls[i].slot=s/\X.fls[i].gen=g)->ay1 Y s g ⟨1,y.be,y.srv,y.ret⟩):=by
 have d:∀f,f∈Y.fls↔f=y\/(f∈X.fls/\f.slot≠y.slot):=fun f=>by rw[hf];exact abe hb.Ge hi hs
 refine⟨fun hn x h=>?_,fun h=>Nt ⟨y,(d y).2 (Nt rfl),hs.trans h.1,hg.trans h.2,rfl⟩⟩;rcases h with⟨f,hf,a,b,e⟩|⟨h,j⟩
 ·refine Nt ⟨f,(d f).2 (NF ⟨hf,fun e3=>hn ?_⟩),a,b,e⟩
  have:=hb.Ic hf (Nk hi) (e3.trans hs);rw[<-this];exact⟨a,b⟩
 ·refine NF ⟨fun f hf a b=>?_,by rw[hp];exact j⟩
  rcases(d f).1 hf with rfl|⟨hf,_⟩
  ·exact hn ⟨hs.symm.trans a,hg.symm.trans b⟩
  ·exact h f hf a b
theorem azx(m s g:Int)(hs:0<=s):aAm True (ay2 m s g):=by
 refine⟨fun X Y h hR=>?_,fun X Y o ho B h hR=>?_,fun X Y f k y hb a B h hR=>?_,fun X Y i hi b d hb h1 h2 h3 h4 h hR=>?_,fun X Y i hi d hb h1 h hR=>?_,fun X Y i hi d hb h hR=>?_,fun _ X Y k hk ky b d hb h1 h2 h3 h hR=>?_⟩
 ·unfold ay2 ay1 at hR⊢
  rw[h.out,h.cfg,h.fls,h.tab];exact hR
 ·refine hR.Hk h.cfg h.out ?_ fun x hx=>?_
  ·have:azp o=false:=by unfold azp;simp;omega
   unfold azm;rw[this];rfl
  ·unfold ay1 at hx⊢
   rw[h.fls,h.tab];exact hx
 ·obtain⟨j,v,C,t⟩:=hb.slot a
  have r:∀z,z∈Y.fls↔z∈X.fls/\z.slot≠f.slot:=fun z=>by rw[h.fls,List.mem_filter];simp
  have H:aad (Y.tab.getD s.toNat aby)=if s.toNat=j then f.gen+1 else aad (X.tab.getD s.toNat aby):=by
   rw[h.tab,C,NR,ahB v,show aad (f.gen+1,Nb,0,0)=f.gen+1 by unfold aad;simp]
  have I:aad (X.tab.getD j aby)=f.gen+1:=by
   rw[NK,MR v,OV,t];rfl
  have E:aad (Y.tab.getD s.toNat aby)=aad (X.tab.getD s.toNat aby):=by
   rw[H]
   split
   ·rename_i e;rw[e,I]
   ·rfl
  by_cases hh:f.slot=s/\f.gen=g
  ·obtain⟨rfl,rfl⟩:=hh
   refine hR.own h.cfg h.out ((azn (by show k=1\/(3<=k/\k<=7);omega)).2 ⟨rfl,rfl⟩) fun x hx=>?_
   rw[hx.at_ hb a];refine⟨⟨2,f.be,f.srv,f.ret⟩,?_,NF ⟨fun z n e3=>absurd e3 ((r z).1 n).2,NF ⟨rfl,?_⟩⟩⟩
   ·rcases B with⟨rfl,rfl⟩|⟨rfl,B⟩
    ·exact azK rfl rfl rfl
    ·refine azJ rfl rfl rfl (fun e=>?_) fun e=>?_
     ·have e:y=1:=e
      rcases B with⟨_,q⟩|q|⟨_,q⟩
      ·exact q
      ·omega
      ·omega
     ·have e:f.srv=true:=e
      rcases B with⟨q,_⟩|q|⟨q,_⟩
      ·exact Nt q
      ·exact NF q
      ·rw[q]at e;cases e
   ·rw[E,C,NR,I];omega
  ·refine hR.Hk h.cfg h.out (azo hh) fun x hx=>?_
   rcases hx with⟨z,n,D,l,e⟩|⟨q,l⟩
   ·refine Nt ⟨z,(r z).2 ⟨n,fun e3=>hh ?_⟩,D,l,e⟩
    have:=hb.Ic n a e3;rw[<-this];exact⟨D,l⟩
   ·exact NF ⟨fun z n=>q z ((r z).1 n).1,by rw[E];exact l⟩
 ·have a:=Nk hi
  obtain⟨j,v,C,t⟩:=hb.slot a;have E:aad (Y.tab.getD s.toNat aby)=aad (X.tab.getD s.toNat aby):=by
   rw[h.tab,C,NR,ahB v]
   split
   ·rename_i e
    rw[e,NK,MR v,OV,t];rfl
   ·rfl
  have p:=azw (s:=s) (g:=g) hb hi (y:={X.fls[i]with be:=b,ret:=X.fls[i].ret+1,due:=d}) rfl rfl h.fls E
  by_cases hh:X.fls[i].slot=s/\X.fls[i].gen=g
  ·refine hR.own h.cfg h.out ((azn (NF (by show(3:Int)<=5/\(5:Int)<=7;decide))).2 hh) fun x hx=>⟨_,?_,p.2 hh⟩
   rw[<-hh.1,<-hh.2]at hx;rw[hx.at_ hb a];refine(azI rfl rfl h4.1 h1 (by rw[<-hR.1];exact h2)).trans ?_;show _=MI (⟨1,b,X.fls[i].srv,X.fls[i].ret+1⟩:Ss);rw[h1]
  ·exact hR.Hk h.cfg h.out (azo hh) (p.1 hh)
 ·have a:=Nk hi
  have p:=azw (Y:=Y) (s:=s) (g:=g) hb hi (y:={X.fls[i]with srv:=Nw,due:=d}) rfl rfl h.fls (by rw[h.tab])
  by_cases hh:X.fls[i].slot=s/\X.fls[i].gen=g
  ·refine hR.own h.cfg h.out ((azn (NF (by show(3:Int)<=4/\(4:Int)<=7;decide))).2 hh) fun x hx=>⟨_,?_,p.2 hh⟩
   rw[<-hh.1,<-hh.2]at hx;rw[hx.at_ hb a];exact azH rfl rfl rfl h1
  ·exact hR.Hk h.cfg h.out (azo hh) (p.1 hh)
 ·have a:=Nk hi
  have p:=azw (Y:=Y) (s:=s) (g:=g) hb hi (y:={X.fls[i]with due:=d}) rfl rfl h.fls (by rw[h.tab])
  by_cases hh:X.fls[i].slot=s/\X.fls[i].gen=g
  ·refine hR.own h.cfg h.out ((azn (NF (by show(3:Int)<=3/\(3:Int)<=7;decide))).2 hh) fun x hx=>⟨_,?_,p.2 hh⟩
   rw[<-hh.1,<-hh.2]at hx;rw[hx.at_ hb a];exact azG rfl rfl rfl
  ·exact hR.Hk h.cfg h.out (azo hh) (p.1 hh)
 ·have r:∀z,z∈Y.fls↔z=⟨k,X.tab[k].1,ky,b,Nb,0,d⟩\/z∈X.fls:=fun z=>by rw[h.fls];exact abT
  have J:aad (X.tab.getD k aby)=X.tab[k].1:=by
   rw[NK,MR hk,OV];unfold aad;rw[h1];simp
  have H:aad (Y.tab.getD s.toNat aby)=if s.toNat=k then X.tab[k].1+1 else aad (X.tab.getD s.toNat aby):=by
   rw[h.tab,ahB hk];rfl
  by_cases hh:(k:Int)=s/\X.tab[k].1=g
  ·obtain⟨rfl,rfl⟩:=hh
   refine hR.own h.cfg h.out ((azn (Nt rfl)).2 ⟨rfl,rfl⟩) fun x hx=>?_
   have K:x=azv:=by
    rcases hx with⟨f,a,D,_,_⟩|⟨_,⟨q,_⟩|⟨_,q⟩⟩
    ·obtain⟨j,v,C,t⟩:=hb.slot a
     have:j=k:=by omega
     subst this;rw[t]at h1;cases h1
    ·exact q
    ·rw[NR,J]at q;omega
   rw[K];refine⟨⟨1,b,Nb,0⟩,?_,Nt ⟨_,(r _).2 (Nt rfl),rfl,rfl,rfl⟩⟩;exact azF rfl rfl h3.1
  ·refine hR.Hk h.cfg h.out (azo hh) fun x hx=>?_
   rcases hx with⟨f,a,D,l,e⟩|⟨q,l⟩
   ·exact Nt ⟨f,(r f).2 (NF a),D,l,e⟩
   ·refine NF ⟨fun z n u F=>?_,?_⟩
    ·rcases(r z).1 n with rfl|n
     ·exact hh ⟨u,F⟩
     ·exact q z n u F
    ·rw[H]
     split
     ·rename_i e
      rw[e,J]at l;rcases l with⟨u,F⟩|⟨u,F⟩
      ·refine Nt ⟨u,?_⟩
       have:X.tab[k].1≠g:=fun t=>hh ⟨by omega,t⟩
       omega
      ·exact NF ⟨u,by omega⟩
     ·exact l
end
section
variable {A:Gt}{c:Cf}{P:Py}
theorem azM{y:Ss}{o:Ou}(h:aAn m x o=MI y):y.ph≠0:=by
 rcases azL h with⟨_,_,_,e⟩|⟨_,a,_,e⟩|⟨_,_,_,_,e⟩|⟨_,_,_,_,_,e⟩|⟨_,_,_,_,_,e⟩|⟨_,_,_,e⟩ <;> rw[e] <;> simp[*]
theorem azt{l:List Ou}(h:azr m l=MI x)(hl:l≠[]):x.ph≠0:=by
 obtain⟨a,o,rfl⟩:∃a o,l=a++[o]:=azl hl;rw[azu]at h;obtain⟨y,_,h⟩:=Option.bind_eq_some_iff.1 h;exact azM h
theorem Rn.aAp(h:Rn A c P)(hA:A.out=[])(hc:A.cfg.ret=c.ret)(hf:A.fls=[])(ht:∀k:Nat,aad (A.tab.getD k aby)=0){x:Int×Int}(hx:x∈P.giv) :
  ∃y,azr c.ret (azy (P.steps.map (·.out)).flatten x.1 x.2)=MI y/\y.ph≠0/\azy (P.steps.map (·.out)).flatten x.1 x.2≠[]/\(y.ph=2↔(Yj P.last.tab x.1 x.2).2≠0):=by
 have t:=h.runs.Mx x hx;have:=h.flows (azx c.ret x.1 x.2 t.1.1) ⟨hc,azv,by rw[hA];rfl,NF ⟨fun f b=>(by rw[hf]at b;cases b),Nt ⟨rfl,by rw[ht];exact t.2.1⟩⟩⟩ hA;obtain⟨_,y,u,z⟩:=this;have r:azy (P.steps.map (·.out)).flatten x.1 x.2≠[]:=by
  rw[h.runs.giv]at hx;obtain⟨l,B,hx⟩:=List.mem_flatten.1 hx;obtain⟨s,C,rfl⟩:=List.mem_map.1 B;unfold Zi at hx;obtain⟨o,p,rfl⟩:=List.mem_map.1 hx;obtain⟨p,d⟩:=List.mem_filter.1 p;have d:o.kind=1:=by simpa using d
  refine List.ne_nil_of_mem (a:=o) (List.mem_filter.2 ⟨List.mem_flatten.2 ⟨_,List.mem_map.2 ⟨s,C,rfl⟩,p⟩,(azn (Nt d)).2 ⟨rfl,rfl⟩⟩)
 have n:=azt u r;refine⟨y,u,n,r,?_⟩;have v:=h.runs.wm.im.bs;rcases z with⟨f,b,i,j,e⟩|⟨q,⟨e,_⟩|⟨e,_⟩⟩
 ·have b:f∈P.last.fls:=b
  rw[e,<-i,<-j,v.IV b];simp
 ·rw[e]at n;exact absurd rfl n
 ·refine⟨fun _ hg0=>?_,fun _=>e⟩
  obtain⟨f,hf,i,j⟩:=v.Jv hg0;exact q f hf i j
theorem azs(h0:0<=m):∀(n:Nat) (l:List Ou),l.length=n->∀x,azr m l=MI x->(x.ph≠0->ay8 l 1=1)/\(ay8 l 5:Int)=x.ret/\(ay8 l 4<=1/\(x.srv=Nb->ay8 l 4=0))/\x.ret<=m:=by
 intro n
 induction n with
 |zero =>
  intro l b x h;obtain rfl:=List.length_eq_zero_iff.1 b;cases h;exact⟨fun h=>absurd rfl h,rfl,⟨Nx _,fun _=>rfl⟩,h0⟩
 |succ n ih =>
  intro l t x q;obtain⟨d,o,rfl⟩:∃d o,l=d++[o]:=azl (by intro h;rw[h]at t;cases t);rw[Ns,List.length_singleton]at t;rw[azu]at q;obtain⟨y,u,q⟩:=Option.bind_eq_some_iff.1 q;obtain⟨j,i5,⟨p,i⟩,ir⟩:=ih d (by omega) y u;rw[azb _ _ 1 (by decide),azb _ _ 5 (by decide),azb _ _ 4 (by decide)];rcases azL q with⟨k,b,r,e⟩|⟨k,b,_,e⟩|⟨k,b,_,r,e⟩|⟨k,b,_,r,v,e⟩|⟨k,b,_,_,_,e⟩|⟨k,b,_,e⟩ <;> subst e <;> rw[k]
  ·have:d=[]:=by
    cases d with
    |nil=>rfl
    |cons a d=>exact absurd b (azt u (List.cons_ne_nil _ _))
   subst this;exact⟨fun _=>rfl,rfl,⟨Nx _,fun _=>rfl⟩,h0⟩
  ·exact⟨j,i5,⟨p,i⟩,ir⟩
  ·have:=i r
   exact⟨fun _=>j (by omega),i5,⟨by show ay8 d 4+1<=1;omega,fun h=>by cases h⟩,ir⟩
  ·exact⟨fun _=>j (by omega),by show((ay8 d 5+1:Nat):Int)=y.ret+1;omega,⟨p,fun _=>i r⟩,v⟩
  ·exact⟨fun _=>j (by omega),i5,⟨p,i⟩,ir⟩
  ·exact⟨fun _=>j (by omega),i5,⟨p,i⟩,ir⟩
end
theorem WU.Gm{base:Nat}(h:WU base w g V c P):w.cell? ⟨g,16,MH⟩=MI (MG V.ps P.steps.length V.cs):=by
 rw[MW w g 16 _ _ (0,0) h.box,h.steps];rfl
structure azP(W:MO)(ps:Option Oc)(k:Nat)(q:Sq)(b o:Nat):Prop where
 at_:ps=MI ⟨b,o,MH⟩
 cells:W.rangeAt b (o+k*61) (abK q)
 rd:aje W q
theorem XQ.step{W:MO}(h:XQ w W g V c P){k:Nat}(hk:k<P.steps.length):∃q b o,azP W V.ps k q b o/\P.steps[k]?=MI q.s/\aaB c q.s:=by
 have z:=h.pat.steps;have i:k<V.qs.length:=by omega
 have l:Xw abK W (MG V.ps V.qs.length V.cs) V.qs:=abw h.pat.rows;obtain⟨a,u,d,_,_,p⟩:=Xw.F6 avt l;injection d with q1 _ _;obtain⟨b,o,n,y,r⟩:=p k i;have e:P.steps[k]?=MI V.qs[k].s:=by rw[<-h.pat.eqs,List.getElem?_map,MR i];rfl
 refine⟨V.qs[k],b,o,⟨q1.trans n,fun j v d=>?_,(h.pat.all _ (Nk i)).now⟩,e,h.rn.runs.chain _ (List.mem_of_getElem? e)⟩;have t:j<61:=(List.getElem?_eq_some_iff.1 d).1;rw[r j t];exact d
theorem aAd(f:Nat->Int)(hf:∀i,i<16->(Lit.int ME (f i)).wf=Nw)(ds:List Dd)(hds:∀d∈ds,ajd d){pd:Option Oc}{cd:Nat}(hrow:Xw agP w (MG pd ds.length cd) ds)(hblk:Xo w)(most:Nat)(hm:most<=100):
  ∃L:List M7,L.length=16/\agc (f 0) (f 1) (f 2) (f 3) (f 4) (f 5) (f 6) (f 7) (f 8) (f 9) (f 10) (f 11) (f 12) (f 13) (f 14) (f 15)=Ny L.toArray/\∀W,MQ w.heap.size w W->Ni MK 13 #[Ny L.toArray,MG pd ds.length cd,MF ME (most:Int)] W (au0 f most W):=
 ⟨[MF ME (f 0),MF ME (f 1),MF ME (f 2),MF ME (f 3),MF ME (f 4),MF ME (f 5),MF ME (f 6),MF ME (f 7),MF ME (f 8),MF ME (f 9),MF ME (f 10),MF ME (f 11),MF ME (f 12),MF ME (f 13),MF ME (f 14),MF ME (f 15)],rfl,rfl,fun W hB=>awU f hf ds hds W (hrow.below hB) (hblk.below hB) most hm⟩
theorem WU.aAr{base:Nat}(h:WU base w g V c P)(j:Nat):w.cell? ⟨g,j,MH⟩=(adM V c P)[j]?:=by
 rw[MW w g j _ _ (0,0) h.box];simp
def az9(P:Py):List Ou:=(P.steps.map (·.out)).flatten
def aAa(P:Py)(k:Nat):List Ou:=((P.steps.take k).map (·.out)).flatten
theorem aAc{k:Nat}{s:Sp}(h:P.steps[k]?=MI s):aAa P (k+1)=aAa P k++s.out:=by
 obtain⟨a,e⟩:=List.getElem?_eq_some_iff.1 h;unfold aAa;rw[M9 a,List.map_append,List.flatten_append,e];simp
theorem aAb{c:Cf}{P:Py}(h:∀s∈P.steps,aaB c s):∀k:Nat,(aAa P k).length<=1040*k
 |0=>Nx _
 |k+1=>by
  have a:=aAb h k
  by_cases hk:k<P.steps.length
  ·rw[aAc (MR hk),Ns]
   have b:=(h _ (Nk hk)).aAq;omega
  ·have:aAa P (k+1)=aAa P k:=by unfold aAa;rw[N1 (by omega),N1 (by omega)]
   rw[this];omega
theorem az8{W:MO}(h:XQ w W g V c P)(hl:P.steps.length<=1000):
  Ni MK 18 #[gP g] W fun r w'=>∃p q,r=MN (MG p (az9 P).length q)/\Xw Z1 w' (MG p (az9 P).length q) (az9 P)/\MQ W.heap.size W w':=by
 obtain⟨n,S⟩:∃n,n=P.steps.length:=⟨_,rfl⟩;have j:M6 (_/\_/\_):=⟨h,S,(show n<=1000 by omega)⟩;have a2:n<=9223372036854775807:=by omega
 clear h hl S;go_enter Tryz.func18,Tryz.ntmps18;go_wp2
 go_loopw [3,4] (fun s i wr=>∃(k q:Nat) (p:Option Oc) (d:Nat),s=MG p q d/\i=MF ME (k:Int)/\k<=n/\M6 (q=(aAa P k).length/\wr.ownsRow W.heap.size 67 7 (MG p q d) q (rv Z1 (aAa P k))/\MQ W.heap.size W wr)) (fun _ i _=>n-(intOf i).toNat)
 case atStart=>exact⟨0,0,MH,0,rfl,rfl,Nx _,rfl,⟨rfl,Nt ⟨rfl,rfl⟩⟩,MY _ _⟩
 case round =>
  obtain⟨k,q,p,d,rfl,rfl,hk,a⟩:=hrel;have t:=j.out.1.on a.out.2.2;have Z:wr.cell? ⟨g,16,MH⟩=MI (MG V.ps n V.cs):=by rw[j.out.2.1];exact t.pat.Gm
  have a3:=t.pat.lt
  by_cases hlt:k<n
  ·have U:(k:Int)<(n:Int):=by omega
   obtain⟨x,b,o,hx,E,T⟩:=t.step (k:=k) (by rw[<-j.out.2.1];exact hlt);have K:wr.cell? ⟨b,o+k*61+60,MH⟩=MI (MG x.po x.s.out.length x.co):=hx.cells 60 _ rfl;have a1:b<wr.heap.size:=World.block_lt_of_cell? wr ⟨b,_,MH⟩ K;have y:(aAa P (k+1)).length=q+x.s.out.length:=by rw[aAc E,Ns,<-a.out.1]
   have L:=aAb j.out.1.rn.runs.chain (k+1);rw[y]at L;have a0:k+1<=1000:=by have:=j.out.2.2;omega
   obtain⟨O,N,w5,D,z,J⟩:=ajY akV aqd (by decide) Tryz.underlying62 apw rfl a.out.2.1 a.out.2.2.size 62 _ x.s.out hx.rd.2.2 (by omega) (by unfold NE;omega);rw[<-aAc E]at z;obtain⟨u,M⟩:∃u,u=x.s.out.length:=⟨_,rfl⟩;rw[<-M]at D z y K;rw[hx.at_]at Z;have C:M6 (_/\_/\_/\_):=⟨D,z,a.out.2.2.trans J,y⟩;clear y M D z J hx E T t L
   go_wp2_with (at_builtin;(with_reducible refine Z4 rfl _ _ 62 rfl (MG p q d) (MG x.po u x.co) (MG O (q+u) N) w5 ?hs ?hx ?hr ?_);(case hs=>rfl);(case hx=>rfl);(case hr=>exact C.out.1))
   go_wp2
   go_roundw
   case rel=>exact⟨k+1,q+u,O,N,rfl,by simp,hlt,C.out.2.2.2.symm,C.out.2.1,C.out.2.2.1⟩
   case measure=>simp[intOf];omega
  ·obtain rfl:k=n:=by omega
   have U:¬(k:Int)<(k:Int):=by omega
   have B:=a.out.1;have F:=a.out.2.1;have Q:aAa P k=az9 P:=by unfold aAa az9;rw[j.out.2.1,NT]
   rw[Q]at B F;have I:=abw (c:=Z1) (l:=az9 P) (k:=7) (v:=MG p q d) (w:=wr) (base:=W.heap.size) (e:=67) (by rw[<-B];exact F);have H:M6 (_/\_):=⟨I,B⟩;clear B F Q I t;go_wp2;go_ret;exact⟨p,d,by rw[<-H.out.2];rfl,by rw[<-H.out.2];exact H.out.1,a.out.2.2⟩
abbrev az4(o:Ou):Value:=Ny #[MF ME o.kind,MF ME o.slot,MF ME o.gen,MF ME o.be,MF ME o.req,MF ME o.code,MF ME o.why]
abbrev azO(w:MO)(v:M7)(l:List Ou):Prop:=Xw Z1 w v l
theorem azO.F6{v:M7}{l:List Ou}(h:azO w v l):
  ∃a cap,v=MG a l.length cap/\l.length<=cap/\cap<=NE/\∀i (hi:i<l.length),∃b off,a=MI ⟨b,off,MH⟩/\b<w.heap.size/\w.cell? ⟨b,off+i*7,MH⟩=MI (MF ME l[i].kind)/\w.cell? ⟨b,off+i*7+1,MH⟩=MI (MF ME l[i].slot)/\w.cell? ⟨b,off+i*7+2,MH⟩=MI (MF ME l[i].gen)/\w.cell? ⟨b,off+i*7+3,MH⟩=MI (MF ME l[i].be)/\w.cell? ⟨b,off+i*7+4,MH⟩=MI (MF ME l[i].req)/\w.cell? ⟨b,off+i*7+5,MH⟩=MI (MF ME l[i].code)/\w.cell? ⟨b,off+i*7+6,MH⟩=MI (MF ME l[i].why):=by
 obtain⟨a,cap,e,n,j,p⟩:=Xw.F6 akV h;refine⟨a,cap,e,n,j,fun i hi=>?_⟩;obtain⟨b,off,k,q,d⟩:=p i hi;exact⟨b,off,k,q,(d 0 (by omega)).trans rfl,(d 1 (by omega)).trans rfl,(d 2 (by omega)).trans rfl,(d 3 (by omega)).trans rfl,(d 4 (by omega)).trans rfl,(d 5 (by omega)).trans rfl,(d 6 (by omega)).trans rfl⟩
theorem aAi{α:Type}{l:List α}{k:Nat}(h:k<l.length){x:α}(hx:x=l[k]):l.take (k+1)=l.take k++[x]:=by
 rw[M9 h,hx]
theorem azS(f:Ou)(w:MO) :
  Ni MK 42 #[az4 f] w fun r w'=>r=MN (M3 (ay6 f))/\MQ w.heap.size w w':=by
 have a:ay6 f=(Nn (f.kind<1) || decide (10<f.kind) || decide (f.why<0) || decide (5<f.why)):=rfl;rw[a];clear a;cases t0:Nn (f.kind<1)
 ·cases t1:Nn (10<f.kind)
  ·cases t2:Nn (f.why<0)
   ·cases t3:Nn (5<f.why)
    ·go_enter aAv,aAt
     go_wp2;go_ret;exact⟨by rfl,WQ w⟩
    ·go_enter aAv,aAt
     go_wp2;go_ret;exact⟨by rfl,WQ w⟩
   ·go_enter aAv,aAt
    go_wp2;go_ret;exact⟨by rfl,WQ w⟩
  ·go_enter aAv,aAt
   go_wp2;go_ret;exact⟨by rfl,WQ w⟩
 ·go_enter aAv,aAt
  go_wp2;go_ret;exact⟨by rfl,WQ w⟩
theorem azX(v:M7)(l:List Ou)(w:MO)(hv:azO w v l) :
  Ni MK 62 #[v,PB (Fn.func 42) #[] #[]] w fun r w'=>r=MN (MF ME (X6 (l.findIdx (ay6)) l.length))/\MQ w.heap.size w w':=by
 obtain⟨q,E⟩:∃q:Ou->Bool,q=(ay6):=⟨_,rfl⟩;obtain⟨a,ca,rfl,a0,O,J⟩:=azO.F6 hv;unfold NE at O;have N:M6 (∀(x:Ou) (W:MO),MQ w.heap.size w W->Ni MK 42 #[az4 x] W fun r w'=>r=MN (M3 (q x))/\MQ W.heap.size W w'):=by
  rw[E];exact fun x W hb=>azS x W
 rw[<-E];obtain⟨y,D⟩:∃y,y=X6 (l.findIdx q) l.length:=⟨_,rfl⟩;rw[<-D];have H:M6 _:=D;clear hv D E;go_enter Tryz.func62,Tryz.ntmps62;go_wp2
 go_loopw [8] (fun i wr=>∃k:Nat,i=MF ME k/\k<=l.length/\(∀t∈l.take k,q t=Nb)/\MQ w.heap.size w wr) (fun i _=>l.length-(intOf i).toNat)
 case atStart=>exact⟨0,rfl,Nx _,by simp,MY _ _⟩
 case round =>
  obtain⟨k,rfl,hk,z,b⟩:=hrel
  by_cases hlt:k<l.length
  ·obtain⟨n,u,rfl,e,c1,c2,c3,c4,c5,c6,c7⟩:=J k hlt
   have e1:=(b.cell (p:=⟨n,u+k*7,MH⟩) e).trans c1;have e2:=(b.cell (p:=⟨n,u+k*7+1,MH⟩) e).trans c2;have e3:=(b.cell (p:=⟨n,u+k*7+2,MH⟩) e).trans c3;have T:=(b.cell (p:=⟨n,u+k*7+3,MH⟩) e).trans c4;have U:=(b.cell (p:=⟨n,u+k*7+4,MH⟩) e).trans c5;have Q:=(b.cell (p:=⟨n,u+k*7+5,MH⟩) e).trans c6;have e7:=(b.cell (p:=⟨n,u+k*7+6,MH⟩) e).trans c7;have j:M6 (_/\_):=⟨z,b⟩;have a1:(k:Int)<(l.length:Int):=by omega
   have I:l.take (k+1)=l.take k++[l[k]]:=M9 hlt;have F:q l[k]=Nw->l.findIdx q=k:=fun h=>abZ hlt z h
   have C:∃x,x=l[k]:=⟨_,rfl⟩;obtain⟨x,C⟩:=C;rw[<-C]at e1 e2 e3 T U Q e7 I F;have M:M6 (_/\_):=⟨I,F⟩;clear z b c1 c2 c3 c4 c5 c6 c7 e J I F C;cases hd:q x
   ·go_wp2_with fail
    refine(N.out x _ j.out.2).mono ?_;rw[hd];rintro r Z ⟨rfl,B⟩;have K:M6 _:=B;clear B;go_wp2
    go_roundw
    case rel =>
     refine⟨k+1,by simp,hlt,fun t d=>?_,j.out.2.trans (K.out.mono j.out.2.size)⟩;rw[M.out.1]at d;rcases List.mem_append.1 d with d|d
     ·exact j.out.1 t d
     ·simp at d
      rw[d];exact hd
    case measure=>simp[intOf];omega
   ·go_wp2_with fail
    refine(N.out x _ j.out.2).mono ?_;rw[hd];rintro r Z ⟨rfl,B⟩;have L:M6 (y=(k:Int)):=by show y=_;rw[H.out,M.out.2 hd];exact Nh hlt
    have K:M6 _:=B;clear B;go_wp2;go_ret;exact⟨by rw[L.out];rfl,j.out.2.trans (K.out.mono j.out.2.size)⟩
  ·have L:M6 (y = -1):=by
    show y=_;rw[H.out,acp fun t d=>z t (by rw[N1 (by omega)];exact d)];exact Nf (Nat.lt_irrefl _)
   have S:M6 _:=b;clear z b J;go_wp2;go_ret;exact⟨by rw[L.out];rfl,S.out⟩
theorem azT(v:M7)(l:List Ou)(w:MO)(hv:azO w v l) :
  Ni MK 43 #[v,PB (Fn.func 42) #[] #[]] w fun r w'=>r=MN (M3 (l.any (ay6)))/\MQ w.heap.size w w':=by
 rw[<-ahq];have d:M6 _:=azX v l w hv;obtain⟨e,a⟩:∃e,e=X6 (l.findIdx (ay6)) l.length:=⟨_,rfl⟩;rw[<-a]at d⊢;clear a hv;go_enter Tryz.func43,Tryz.ntmps43
 go_wp2_with fail
 refine Nd d.out ?_;rintro r j ⟨rfl,b⟩;have i:M6 _:=b;clear b;go_wp2;go_ret;exact⟨rfl,i.out⟩
theorem azR(v:M7)(l:List Ou)(w:MO)(hv:azO w v l) :
  Ni MK 28 #[v] w fun r w'=>r=MN (MF ME (if ay4 l then 5 else 0))/\MQ w.heap.size w w':=by
 have b:M6 _:=azT v l w hv;have e:l.any ay6=ay4 l:=rfl;rw[e]at b;clear e hv;cases h:ay4 l
 ·rw[h]at b
  go_enter WF,Ww
  go_wp2_with fail
  refine Nd b.out ?_;rintro r i ⟨rfl,a⟩;have d:M6 _:=a;clear a;go_wp2;go_ret;exact⟨rfl,d.out⟩
 ·rw[h]at b
  go_enter WF,Ww
  go_wp2_with fail
  refine Nd b.out ?_;rintro r i ⟨rfl,a⟩;have d:M6 _:=a;clear a;go_wp2;go_ret;exact⟨rfl,d.out⟩
theorem aAl:(#[MF ME 0,MF ME 0,MF ME 0,MF ME 0,MF ME 0,MF ME 0,MF ME 0,MF ME 0,MF ME 0,MF ME 0,MF ME 0,MF ME 0,MF ME 0,MF ME 0,MF ME 0,MF ME 0,MF ME 0]:Array M7)=(WR (Nj 17 0)).toArray:=rfl
theorem azY:(Tryz.prog.info? 86).map (·.size)=MI 17:=by kernel_rfl
theorem az2(v:M7)(l:List Ou)(w:MO)(hv:azO w v l) :
  Ni MK 21 #[v] w fun r w'=>r=MN (Nv #[Ny (WR (azq l).1).toArray,MF ME (azq l).2])/\MQ w.heap.size w w':=by
 obtain⟨p,c,rfl,hc,hm,pv⟩:=azO.F6 hv;unfold NE at hm;obtain⟨W0,a0⟩:∃W0,W0=w.alloc (MP (WR (Nj 17 0)).toArray 86):=⟨_,rfl⟩;have b2:MQ w.heap.size w W0:=by rw[a0];exact WQ w
 have b3:Xj 86 17 W0 w.heap.size (Nj 17 0):=by rw[a0];exact⟨M1 _ _,by simp⟩
 have I:M6 (_/\_/\_/\_/\_):=⟨hv,pv,b2,b3,a0⟩;clear hv pv b2 b3 a0;have L:=OE (ac1 (Nj 17 0));have HO:M6 _:=L;clear L;go_enter Tryz.func21,Tryz.ntmps21
 go_wp2_with fail
 rw[aAl,<-I.out.2.2.2.2];refine(azR _ l _ (I.out.1.below I.out.2.2.1)).mono ?_;rintro r e ⟨rfl,U⟩;have t:=I.out.2.2.2.1.below U;have O:=I.out.2.2.1.trans (U.mono I.out.2.2.1.size);cases hbad:ay4 l
 ·rw[Nf PE]
  have K:azq l=(azf l,0):=by unfold azq;rw[hbad];rfl
  have F:M6 (_/\_/\_/\_):=⟨t,O,hbad,K⟩;have e8:=t.lt;clear t O U hbad K;go_wp2;rw[aAl];obtain⟨W2,a1⟩:∃W2,W2=e.alloc (MP (WR (Nj 17 0)).toArray 86):=⟨_,rfl⟩;rw[<-a1];have b5:MQ e.heap.size e W2:=by rw[a1];exact WQ e
  have a9:Xj 86 17 W2 e.heap.size (azf (l.take 0)):=by rw[a1,List.take_zero,azi];exact⟨M1 _ _,by simp⟩
  have H2:M6 (_/\_):=⟨b5,a9⟩;clear b5 a9 a1
  go_loopw [16] (fun i wr=>∃k:Nat,i=MF ME k/\k<=l.length/\MQ e.heap.size e wr/\Xj 86 17 wr e.heap.size (azf (l.take k))) (fun i _=>l.length-(intOf i).toNat)
  case atStart=>exact⟨0,rfl,Nx _,H2.out.1,H2.out.2⟩
  case round =>
   obtain⟨k,rfl,hk,D,n⟩:=hrel
   by_cases hlt:k<l.length
   ·obtain⟨H,off,rfl,u,c1,c2,c3,c4,c5,c6,c7⟩:=I.out.2.1 k hlt
    have z:=F.out.2.1.trans (D.mono F.out.2.1.size);have e1:=(z.cell (p:=⟨H,off+k*7,MH⟩) u).trans c1;have e2:=(z.cell (p:=⟨H,off+k*7+1,MH⟩) u).trans c2;have e3:=(z.cell (p:=⟨H,off+k*7+2,MH⟩) u).trans c3;have e4:=(z.cell (p:=⟨H,off+k*7+3,MH⟩) u).trans c4;have e5:=(z.cell (p:=⟨H,off+k*7+4,MH⟩) u).trans c5;have e6:=(z.cell (p:=⟨H,off+k*7+5,MH⟩) u).trans c6;have e7:=(z.cell (p:=⟨H,off+k*7+6,MH⟩) u).trans c7;have Z:=ay7 (ay5 F.out.2.2.1 (Nk hlt));obtain⟨⟨kd,sl,gn,be,rq,cd,wy⟩,hx⟩:∃x,x=l[k]:=⟨_,rfl⟩;have T:=aAi hlt hx;rw[<-hx]at e1 e2 e3 e4 e5 e6 e7 Z
    dsimp only at e1 e2 e3 e4 e5 e6 e7 Z
    obtain⟨q,rfl⟩:=NL (a:=kd) (by omega);obtain⟨y,rfl⟩:=NL (a:=wy) (by omega);have b7:q<11:=by omega
    have d7:(q:Int)<11:=by omega
    have c0:y<6:=by omega
    have d8:(y:Int)<6:=by omega
    have c9:(k:Int)<(l.length:Int):=by omega
    have d9:=n.lt;have e9:¬e.heap.size=wr.heap.size:=by omega
    have d2:¬wr.heap.size=e.heap.size:=by omega
    by_cases h6:q=6
    ·subst h6
     have Q:=n.F7 6 (by rw[azh];omega);rw[azg _ 6 (by omega)]at Q;have b9:=n.Gu 6;have a8:=n.F7 (11+y) (by rw[azh];omega);rw[azg _ (11+y) (by omega)]at a8;have d3:=n.Gu (11+y);have a2:ay8 (l.take k) 6<=k:=Nm (ay9 _ _) (by rw[NH];omega);have b8:ay8 (l.take k) (11+y)<=k:=Nm (ay9 _ _) (by rw[NH];omega);have d:=azk (l.take k) ⟨((6:Nat):Int),sl,gn,be,rq,cd,(y:Int)⟩ y rfl rfl c0;rw[<-T]at d;obtain⟨S,N⟩:∃S,S=ay8 (l.take k) 6:=⟨_,rfl⟩;obtain⟨n2,b6⟩:∃n2,n2=ay8 (l.take k) (11+y):=⟨_,rfl⟩;rw[<-N]at Q a2 d;rw[<-b6]at a8 b8 d;have d0:¬11+y=6:=by omega
     have d1:¬6=11+y:=by omega
     have C:M6 (_/\_/\_):=⟨D,n,d⟩;clear D n d N b6 T hx z c1 c2 c3 c4 c5 c6 c7 u Z;go_wp2
     go_roundw
     case rel =>
      refine⟨k+1,by simp,hlt,?_,?_⟩
      ·exact((C.out.1.setCell (p:=⟨e.heap.size,6,MH⟩) (MV _) _).setCell (p:=⟨e.heap.size,11+y,MH⟩) (MV _) _).alloc (by simp;exact C.out.1.size) _
      ·rw[C.out.2.2]
       exact((C.out.2.1.F4 6 _).F4 (11+y) _).below (WQ _)
     case measure=>simp[intOf];omega
    ·have Q:=n.F7 q (by rw[azh];omega)
     rw[azg _ q (by omega)]at Q;have b9:=n.Gu q;have a2:ay8 (l.take k) q<=k:=Nm (ay9 _ _) (by rw[NH];omega);have d:=azj (l.take k) ⟨(q:Int),sl,gn,be,rq,cd,(y:Int)⟩ q rfl b7 (by show ¬(q:Int)=6;omega);rw[<-T]at d;obtain⟨S,N⟩:∃S,S=ay8 (l.take k) q:=⟨_,rfl⟩;rw[<-N]at Q a2 d;have d6:¬(q:Int)=6:=by omega
     have C:M6 (_/\_/\_):=⟨D,n,d⟩;clear D n d N T hx z c1 c2 c3 c4 c5 c6 c7 u Z;go_wp2
     go_roundw
     case rel =>
      refine⟨k+1,by simp,hlt,?_,?_⟩
      ·exact(C.out.1.setCell (p:=⟨e.heap.size,q,MH⟩) (MV _) _).alloc (by simp;exact C.out.1.size) _
      ·rw[C.out.2.2]
       exact(C.out.2.1.F4 q _).below (WQ _)
     case measure=>simp[intOf];omega
   ·obtain rfl:k=l.length:=by omega
    rw[NT]at n;have t:=F.out.1.below D;obtain⟨E,B⟩:∃E,E=wr.setCells w.heap.size 0 (WR (azf l)):=⟨_,rfl⟩;have d:=(t.Hq (P:=MK) (b:=azf l) (azh l) azY).2;rw[<-B]at d;have a3:MQ w.heap.size w wr:=F.out.2.1.trans (D.mono F.out.2.1.size);have M:MQ w.heap.size w E:=by rw[B];exact adp a3 (MV _) 0 _ a3.size
    have a6:(Tryz.prog.info? 86).map (·.size)=MI (WR (azf l)).length:=by rw[azY,Zv,azh]
    have a5:wr.there w.heap.size 0 (WR (azf l)).toArray.size:=by simp[Zv,azh];exact t.GB
    have L:=OE (ac1 (azf l));have j:M6 (_/\_/\_/\_/\_/\_/\_):=⟨n.Gq,a6,a5,L,B,d,M⟩;clear n t d M a6 a5 L B D a3;obtain⟨J,a4⟩:∃J,J=WR (azf l):=⟨_,rfl⟩;rw[<-a4]at j;have HC:M6 _:=a4;clear a4
    go_wp2_with (first|((with_reducible refine O3 rfl 86 (O6 5) rfl e.heap.size 0 ?hx J _ ?hc aAu ?hd ?hi ?_);(case hx=>rfl);(case hc=>exact j.out.1);(case hd=>rfl);(case hi=>exact j.out.2.1))|((with_reducible refine OW rfl 86 (O6 2) (O6 40) rfl w.heap.size 0 J.toArray ?hx ?hy ?ht ?hi ?h1 ?_);(case hx=>rfl);(case hy=>rfl);(case ht=>exact j.out.2.2.1);(case hi=>rw[j.out.2.1];simp);(case h1=>exact j.out.2.2.2.1);rw[show J.toArray.toList=J from rfl,<-j.out.2.2.2.2.1]))
    rw[F.out.2.2.2];refine Np (v:=Nv #[Ny (WR (azf l)).toArray,MF ME 0]) (XT Tryz.results21 rfl rfl (j.out.2.2.2.2.2.1.Io aAu rfl azY)) rfl ⟨rfl,j.out.2.2.2.2.2.2⟩
 ·rw[Nh rfl]
  have K:azq l=(Nj 17 0,5):=by unfold azq;rw[hbad];rfl
  obtain⟨E,B⟩:∃E,E=e.setCells w.heap.size 0 (Array.toList (#[MF ME 0,MF ME 0,MF ME 0,MF ME 0,MF ME 0,MF ME 0,MF ME 0,MF ME 0,MF ME 0,MF ME 0,MF ME 0,MF ME 0,MF ME 0,MF ME 0,MF ME 0,MF ME 0,MF ME 0]:Array M7)):=⟨_,rfl⟩;have d:=(t.Hq (P:=MK) (b:=Nj 17 0) (by simp) azY).2;have a7:Xj 86 17 E w.heap.size (Nj 17 0):=by rw[B];exact d
  have M:MQ w.heap.size w E:=by rw[B];exact adp O (MV _) _ _ O.size
  have j:M6 (_/\_/\_/\_/\_):=⟨t.GB,M,a7,B,K⟩;clear t O U hbad K d a7 M B
  go_wp2_with ((with_reducible refine OW rfl 86 (O6 2) (O6 12) rfl w.heap.size 0 #[MF ME 0,MF ME 0,MF ME 0,MF ME 0,MF ME 0,MF ME 0,MF ME 0,MF ME 0,MF ME 0,MF ME 0,MF ME 0,MF ME 0,MF ME 0,MF ME 0,MF ME 0,MF ME 0,MF ME 0] ?hx ?hy ?ht ?hi ?h1 ?_);(case hx=>rfl);(case hy=>rfl);(case ht=>exact j.out.1);(case hi=>exact azY);(case h1=>exact HO.out);rw[<-j.out.2.2.2.1])
  rw[j.out.2.2.2.2];refine Np (v:=Nv #[Ny (WR (Nj 17 0)).toArray,MF ME 5]) (XT Tryz.results21 rfl rfl (j.out.2.2.1.Io aAu rfl azY)) rfl ⟨rfl,j.out.2.1⟩
abbrev aAo:List Value:=[MF ME 0,MF ME 0,MF ME 0,MF ME 0,MF ME 0,MF ME 0,MF ME 0,MF ME 0,MF ME 0,MF ME 0,MF ME 0,MF ME 0,MF ME 0,MF ME 0,MF ME 0,MF ME 0,MF ME 0]
structure azN(W:MO)(l:List Ou)(cs:List M7)(Y:MO):Prop where
 is:WR (azf l)=cs
 at_:Y=(W.alloc (MP aAo.toArray 86)).setCells W.heap.size 0 cs
 there:(W.alloc (MP aAo.toArray 86)).there W.heap.size 0 cs.toArray.size
 len:cs.length=17
 one:cs.toArray.all (·.oneCell')=Nw
 bel:MQ W.heap.size W Y
 cell:∀j,j<17->Y.cell? ⟨W.heap.size,j,MH⟩=MI (MF ME (ay8 l j:Int))
 lt:W.heap.size<Y.heap.size
theorem az1(W:MO)(l:List Ou):∃(cs:List M7) (Y:MO),azN W l cs Y:=by
 have a:(WR (azf l)).length=17:=by rw[Zv,azh]
 have d:(W.alloc (MP aAo.toArray 86)).heap[W.heap.size]?=MI (MP aAo.toArray 86 (0,0)):=M1 _ _;have b:((W.alloc (MP aAo.toArray 86)).setCells W.heap.size 0 (WR (azf l))).heap[W.heap.size]?=MI (MP (WR (azf l)).toArray 86 (0,0)):=anq d (by rw[a];rfl);refine⟨_,_,rfl,rfl,by rw[show(WR (azf l)).toArray.size=17 from List.size_toArray.trans a];exact afH (old:=aAo) d,a,OE (ac1 _),adp (WQ W) (MV _) 0 _ (by simp),fun j hj=>?_,(Array.getElem?_eq_some_iff.1 b).1⟩;rw[MW _ _ j _ _ (0,0) b];have e:=azg l j hj;simp[WR,azh,hj,e]
theorem azZ:(Tryz.prog.info? 86).map (·.size)=MI 17:=by kernel_rfl
theorem az3(v:M7)(l:List Ou)(w:MO)(hv:azO w v l)(hg:ay4 l=Nb) :
  Ni MK 21 #[v] w fun r w'=>r=MN (Nv #[Ny (WR (azf l)).toArray,MF ME 0])/\MQ w.heap.size w w':=by
 have h:=az2 v l w hv;have e:azq l=(azf l,0):=by unfold azq;rw[hg];rfl
 rw[e]at h;exact h
section
open Go.Sort (grow grow_empty grow_grow alloc_eq_grow cell?_grow heap_grow_old)
abbrev az5(o:Ou):Obj:=MP #[MF ME o.kind,MF ME o.slot,MF ME o.gen,MF ME o.be,MF ME o.req,MF ME o.code,MF ME o.why] 67
theorem az6{o:Ou}(h:w.heap[g]?=MI (az5 o)):w.cell? ⟨g,0,MH⟩=MI (MF ME o.kind)/\w.cell? ⟨g,1,MH⟩=MI (MF ME o.slot)/\w.cell? ⟨g,2,MH⟩=MI (MF ME o.gen)/\w.cell? ⟨g,3,MH⟩=MI (MF ME o.be)/\w.cell? ⟨g,4,MH⟩=MI (MF ME o.req)/\w.cell? ⟨g,5,MH⟩=MI (MF ME o.code)/\w.cell? ⟨g,6,MH⟩=MI (MF ME o.why)/\g<w.heap.size :=
 ⟨by simp[Nl,h],by simp[Nl,h],by simp[Nl,h],by simp[Nl,h],by simp[Nl,h],by simp[Nl,h],by simp[Nl,h],(Array.getElem?_eq_some_iff.1 h).1⟩
theorem az7{o:Ou}(h:w.heap[g]?=MI (az5 o)):(∀n os,(Oj (w.drewN n) os).cell? ⟨g,0,MH⟩=MI (MF ME o.kind))/\(∀n os,(Oj (w.drewN n) os).cell? ⟨g,1,MH⟩=MI (MF ME o.slot))/\(∀n os,(Oj (w.drewN n) os).cell? ⟨g,2,MH⟩=MI (MF ME o.gen))/\(∀n os,(Oj (w.drewN n) os).cell? ⟨g,3,MH⟩=MI (MF ME o.be))/\(∀n os,(Oj (w.drewN n) os).cell? ⟨g,4,MH⟩=MI (MF ME o.req))/\(∀n os,(Oj (w.drewN n) os).cell? ⟨g,5,MH⟩=MI (MF ME o.code))/\(∀n os,(Oj (w.drewN n) os).cell? ⟨g,6,MH⟩=MI (MF ME o.why)):=
 have q:=az6 h
 ⟨Ob (a:=⟨g,0,MH⟩) q.2.2.2.2.2.2.2 q.1,Ob (a:=⟨g,1,MH⟩) q.2.2.2.2.2.2.2 q.2.1,Ob (a:=⟨g,2,MH⟩) q.2.2.2.2.2.2.2 q.2.2.1,Ob (a:=⟨g,3,MH⟩) q.2.2.2.2.2.2.2 q.2.2.2.1,Ob (a:=⟨g,4,MH⟩) q.2.2.2.2.2.2.2 q.2.2.2.2.1,Ob (a:=⟨g,5,MH⟩) q.2.2.2.2.2.2.2 q.2.2.2.2.2.1,Ob (a:=⟨g,6,MH⟩) q.2.2.2.2.2.2.2 q.2.2.2.2.2.2.1⟩
theorem aAk{a b:M7}{T:TypeId}(h:w.heap[g]?=MI (MP #[a,b] T (0,0))):(∀n os,(Oj (w.drewN n) os).cell? ⟨g,0,MH⟩=MI a)/\(∀n os,(Oj (w.drewN n) os).cell? ⟨g,1,MH⟩=MI b):=
 have q:=Xa h
 ⟨Ob (a:=⟨g,0,MH⟩) q.2.2.2.2 q.1,Ob (a:=⟨g,1,MH⟩) q.2.2.2.2 q.2.1⟩
theorem az0(o:Ou)(w:MO) :
  Ni MK 29 #[az4 o] w fun r w'=>r=MN (M3 (azp o))/\∃q os,w'=Oj (w.drewN q) os:=by
 obtain⟨kd,sl,d,b,rq,cd,wy⟩:=o;have a:azp ⟨kd,sl,d,b,rq,cd,wy⟩=(Nn (kd=1) || (Nn (3<=kd) && Nn (kd<=7))):=rfl;have i:(kd=1\/kd=3\/kd=4\/kd=5\/kd=6\/kd=7)\/(¬kd=1/\¬kd=3/\¬kd=4/\¬kd=5/\¬kd=6/\¬kd=7):=by omega
 rcases i with h|⟨k,n,t,l,j,p⟩
 ·have e:azp ⟨kd,sl,d,b,rq,cd,wy⟩=true:=by rw[a];simp;omega
  rw[e];clear e a;rcases h with rfl|rfl|rfl|rfl|rfl|rfl
  all_goals
   go_enter Tryz.func29,Tryz.ntmps29;go_wp2;go_ret;exact⟨rfl,0,#[_],PQ _ _⟩
 ·have e:azp ⟨kd,sl,d,b,rq,cd,wy⟩=false:=by rw[a];simp;omega
  rw[e];clear e a;go_enter Tryz.func29,Tryz.ntmps29;go_wp2;go_ret;exact⟨rfl,0,#[_],PQ _ _⟩
theorem azW(o:Ou)(w:MO) :
  Ni MK 30 #[az4 o] w fun r w'=>r=MN (Ny #[MF ME o.slot,MF ME o.gen])/\∃q os,w'=Oj (w.drewN q) os:=by
 go_enter Tryz.func30,Tryz.ntmps30;go_wp2;refine Np (v:=Ny #[MF ME o.slot,MF ME o.gen]) (Z2 Tryz.results30 rfl (Xp (cs:=[MF ME o.slot,MF ME o.gen]) (Yu _ _ _) Tryz.underlying75 rfl (by kernel_rfl))) rfl ⟨rfl,0,#[az5 o,MP #[MF ME o.slot,MF ME o.gen] 75],?_⟩;rw[PQ,PQ,grow_grow];rfl
def azQ(O:List Ou×Int)(w:MO)(r:Ending)(w':MO):Prop:=∃p c,r=MN (Nv #[MG p O.1.length c,MF ME O.2])/\azO w' (MG p O.1.length c) O.1/\MQ w.heap.size w w'
theorem aAg(v:M7)(l:List Ou)(s g:Int)(w:MO)(hv:azO w v l)(hl:l.length*56<=140737488355328) :
  Ni MK 19 #[v,Ny #[MF ME s,MF ME g]] w (azQ (azC l s g) w):=by
 obtain⟨p,c,rfl,hc,hm,pv⟩:=azO.F6 hv;unfold NE at hm;obtain⟨W0,a4⟩:∃W0,W0=w.alloc (MP #[MF ME s,MF ME g] 75):=⟨_,rfl⟩;have b3:MQ w.heap.size w W0:=by rw[a4];exact WQ w
 have b7:W0.heap[w.heap.size]?=MI (MP #[MF ME s,MF ME g] 75 (0,0)):=by rw[a4];exact M1 _ _
 have K:M6 (_/\_/\_/\_/\_/\_):=⟨hv,pv,b3,b7,a4,hl⟩;clear hv pv b3 b7 a4 hl;go_enter Tryz.func19,Tryz.ntmps19
 go_wp2_with fail
 rw[<-K.out.2.2.2.2.1];refine(azR _ l _ (K.out.1.below K.out.2.2.1)).mono ?_;rintro r w1 ⟨rfl,H⟩;have a3:=K.out.2.2.1.trans (H.mono K.out.2.2.1.size);have a6:=WO K.out.2.2.2.1 H;cases hbad:ay4 l
 ·rw[Nf PE]
  have a0:azC l s g=(azy l s g,0):=by unfold azC;rw[hbad];rfl
  have D:M6 (_/\_/\_):=⟨a6,a3,a0⟩;clear a6 a3 H hbad a0;go_wp2
  go_loopw [7,17] (fun o i wr=>∃(k n C:Nat) (J:Option Oc),i=MF ME k/\o=MG J n C/\k<=l.length/\M6 (n=(azy (l.take k) s g).length)/\MQ w1.heap.size w1 wr/\wr.ownsRow w1.heap.size 67 7 (MG J n C) n (rv Z1 (azy (l.take k) s g))) (fun _ i _=>l.length-(intOf i).toNat)
  case atStart=>exact⟨0,0,0,MH,rfl,rfl,Nx _,rfl,MY _ _,World.ownsRow_nil _ _ _ _⟩
  case round =>
   obtain⟨k,n,C,J,rfl,rfl,hk,hn,Q,ho⟩:=hrel
   by_cases hlt:k<l.length
   ·obtain⟨N,off,rfl,E,c1,c2,c3,c4,c5,c6,c7⟩:=K.out.2.1 k hlt
    have I:=D.out.2.1.trans (Q.mono D.out.2.1.size);have e1:=(I.cell (p:=⟨N,off+k*7,MH⟩) E).trans c1;have U:=(I.cell (p:=⟨N,off+k*7+1,MH⟩) E).trans c2;have T:=(I.cell (p:=⟨N,off+k*7+2,MH⟩) E).trans c3;have e4:=(I.cell (p:=⟨N,off+k*7+3,MH⟩) E).trans c4;have e5:=(I.cell (p:=⟨N,off+k*7+4,MH⟩) E).trans c5;have O:=(I.cell (p:=⟨N,off+k*7+5,MH⟩) E).trans c6;have Z:=(I.cell (p:=⟨N,off+k*7+6,MH⟩) E).trans c7;obtain⟨⟨kd,sl,t,u,rq,cd,wy⟩,hx⟩:∃x,x=l[k]:=⟨_,rfl⟩;have a9:=azB (s:=s) (g:=g) (aAi hlt hx);rw[<-hx]at e1 U T e4 e5 O Z
    dsimp only at e1 U T e4 e5 O Z
    have c9:(k:Int)<(l.length:Int):=by omega
    obtain⟨d,a2⟩:∃d,d=wr.alloc (az5 ⟨kd,sl,t,u,rq,cd,wy⟩):=⟨_,rfl⟩;have a8:MQ wr.heap.size wr d:=by rw[a2];exact WQ wr
    have hX:d.heap[wr.heap.size]?=MI (az5 ⟨kd,sl,t,u,rq,cd,wy⟩):=by rw[a2];exact M1 _ _
    have H:=Q.trans (a8.mono Q.size);have b5:=WO D.out.1 H;obtain⟨q0,q1⟩:=aAk b5;obtain⟨k0,k1,k2,k3,k4,k5,k6⟩:=az7 hX;have HI:M6 (∀n os,Ni MK 29 #[az4 ⟨kd,sl,t,u,rq,cd,wy⟩] (Oj (d.drewN n) os) fun r w'=>r=MN (M3 (azp ⟨kd,sl,t,u,rq,cd,wy⟩))/\∃q os',w'=Oj ((Oj (d.drewN n) os).drewN q) os'):=fun n os=>az0 ⟨kd,sl,t,u,rq,cd,wy⟩ _
    have HH:M6 (∀n os,Ni MK 30 #[az4 ⟨kd,sl,t,u,rq,cd,wy⟩] (Oj (d.drewN n) os) fun r w'=>r=MN (Ny #[MF ME sl,MF ME t])/\∃q os',w'=Oj ((Oj (d.drewN n) os).drewN q) os'):=fun n os=>azW ⟨kd,sl,t,u,rq,cd,wy⟩ _
    have b9:n+1<=l.length:=by
     rw[hn.out];have:=azA (l.take k) s g;rw[NH]at this;omega
    have a:M6 (_/\_/\_/\_/\_/\_/\_):=⟨H,YI ho a8,a9,hX,a2,b9,hn.out⟩;clear Q ho a9 hX a2 b9 hn a8 H I c1 c2 c3 c4 c5 c6 c7 E hx b5;cases hf:azp ⟨kd,sl,t,u,rq,cd,wy⟩
    ·have F:azm s g ⟨kd,sl,t,u,rq,cd,wy⟩=false:=by unfold azm;rw[hf];rfl
     rw[hf]at HI;have S:M6 _:=F;clear F hf
     go_wp2_with fail
     rw[<-a.out.2.2.2.2.1];refine NQ XY (by kernel_rfl) ?_
     repeat (first|go_big_quiet_skip|quiet_step (first|(go_at_call 29;exact NZ (HI.out _ _))|(go_at_call 30;exact Calls.grown_of (HH.out _ _))))
     refine Oy ?_;intro _ M;obtain⟨⟨B,z⟩,L⟩:=M;subst L;have b:=ae3 d B z;have y:M6 (_/\_):=⟨a.out.1.trans (b.mono a.out.1.size),YI a.out.2.1 b⟩;clear b;generalize Oj (d.drewN B) z=w3 at y⊢;clear k0 k1 k2 k3 k4 k5 k6 q0 q1 e1 U T e4 e5 O Z;go_wp2
     go_roundw
     case rel =>
      have hs:=a.out.2.2.1;rw[S.out,Nf PE,OG]at hs;exact⟨k+1,n,C,J,by simp,rfl,hlt,by show n=_;rw[hs];exact a.out.2.2.2.2.2.2,y.out.1,by rw[hs];exact y.out.2⟩
     case measure=>simp[intOf];omega
    ·rw[hf]at HI
     by_cases hm2:sl=s/\t=g
     ·obtain⟨hs,hg⟩:=hm2
      have F:azm s g ⟨kd,sl,t,u,rq,cd,wy⟩=true:=by unfold azm;rw[hf];simp[hs,hg]
      have S:M6 _:=F;clear F hf;subst hs hg
      go_wp2_with fail
      rw[<-a.out.2.2.2.2.1];refine NQ XY (by kernel_rfl) ?_
      repeat (first|go_big_quiet_skip|quiet_step (first|(go_at_call 29;exact NZ (HI.out _ _))|(go_at_call 30;exact NZ (HH.out _ _))))
      refine Oy ?_;intro _ M;obtain⟨⟨B,z⟩,L⟩:=M;subst L;have b:=ae3 d B z;have a7:=WO a.out.2.2.2.1 b;have a1:=a.out.1.trans (b.mono a.out.1.size);have a5:=YI a.out.2.1 b;generalize Oj (d.drewN B) z=w3 at a7 a1 a5⊢;clear k0 k1 k2 k3 k4 k5 k6 q0 q1 e1 U T e4 e5 O Z b;obtain⟨k0,k1,k2,k3,k4,k5,k6,d0⟩:=az6 a7;obtain⟨g2,c2,w4,hr,b6,b2,c0⟩:=afC akV aqd (by decide) Tryz.underlying62 apw rfl a5 a1.size 62 (⟨kd,sl,t,u,rq,cd,wy⟩:Ou) #[MF ME kd,MF ME sl,MF ME t,MF ME u,MF ME rq,MF ME cd,MF ME wy] rfl (by have:=K.out.2.2.2.2.2;have:=a.out.2.2.2.2.2.1;omega) (by have:=a.out.2.2.2.2.2.1;unfold NE;omega);have b8:MQ w1.heap.size w1 w4:=a1.grown b2 a1.size (fun j hj=>(a5.lt j hj).1);have H4:M6 (_/\_/\_):=⟨hr,b6,b8⟩;clear hr b6 b8 b2 c0 a1 a5 a7
      go_wp2_with (at_builtin;(with_reducible refine Z4 rfl _ _ 62 rfl (MG J n C) (MG (MI ⟨w3.heap.size,0,MH⟩) 1 1) (MG (MI ⟨g2,0,MH⟩) (n+1) c2) w4 ?hs ?hx ?hr ?_);(case hs=>rfl);(case hx=>rfl);(case hr=>exact H4.out.1))
      go_roundw
      case rel =>
       have hs:=a.out.2.2.1;rw[S.out,Nh rfl]at hs;exact⟨k+1,n+1,c2,MI ⟨g2,0,MH⟩,by simp,rfl,hlt,by show n+1=_;rw[hs,a.out.2.2.2.2.2.2];simp,H4.out.2.2,by rw[hs];exact H4.out.2.1⟩
      case measure=>simp[intOf];omega
     ·have F:azm s g ⟨kd,sl,t,u,rq,cd,wy⟩=false:=by unfold azm;rw[hf];simp;omega
      have S:M6 _:=F;clear F hf
      by_cases hs:sl=s
      ·have hg:¬t=g:=fun e=>hm2 ⟨hs,e⟩
       clear hm2;subst hs
       go_wp2_with fail
       rw[<-a.out.2.2.2.2.1];refine NQ XY (by kernel_rfl) ?_
       repeat (first|go_big_quiet_skip|quiet_step (first|(go_at_call 29;exact NZ (HI.out _ _))|(go_at_call 30;exact NZ (HH.out _ _))))
       refine Oy ?_;intro _ M;obtain⟨⟨B,z⟩,L⟩:=M;subst L;have b:=ae3 d B z;have y:M6 (_/\_):=⟨a.out.1.trans (b.mono a.out.1.size),YI a.out.2.1 b⟩;clear b;generalize Oj (d.drewN B) z=w3 at y⊢;clear k0 k1 k2 k3 k4 k5 k6 q0 q1 e1 U T e4 e5 O Z;go_wp2
       go_roundw
       case rel =>
        have hs:=a.out.2.2.1;rw[S.out,Nf PE,OG]at hs;exact⟨k+1,n,C,J,by simp,rfl,hlt,by show n=_;rw[hs];exact a.out.2.2.2.2.2.2,y.out.1,by rw[hs];exact y.out.2⟩
       case measure=>simp[intOf];omega
      ·clear hm2
       go_wp2_with fail
       rw[<-a.out.2.2.2.2.1];refine NQ XY (by kernel_rfl) ?_
       repeat (first|go_big_quiet_skip|quiet_step (first|(go_at_call 29;exact NZ (HI.out _ _))|(go_at_call 30;exact NZ (HH.out _ _))))
       refine Oy ?_;intro _ M;obtain⟨⟨B,z⟩,L⟩:=M;subst L;have b:=ae3 d B z;have y:M6 (_/\_):=⟨a.out.1.trans (b.mono a.out.1.size),YI a.out.2.1 b⟩;clear b;generalize Oj (d.drewN B) z=w3 at y⊢;clear k0 k1 k2 k3 k4 k5 k6 q0 q1 e1 U T e4 e5 O Z;go_wp2
       go_roundw
       case rel =>
        have hs:=a.out.2.2.1;rw[S.out,Nf PE,OG]at hs;exact⟨k+1,n,C,J,by simp,rfl,hlt,by show n=_;rw[hs];exact a.out.2.2.2.2.2.2,y.out.1,by rw[hs];exact y.out.2⟩
       case measure=>simp[intOf];omega
   ·obtain rfl:k=l.length:=by omega
    rw[NT]at ho hn;have H2:M6 (_/\_/\_):=⟨ho,Q,hn.out⟩;clear ho Q hn;go_wp2
    go_ret2
    rw[D.out.2.2];refine⟨J,C,?_,?_,D.out.2.1.trans (H2.out.2.1.mono D.out.2.1.size)⟩
    ·show _=MN (Nv #[MG _ (azy l s g).length C,MF ME 0])
     rw[<-H2.out.2.2];rfl
    ·show XB _ (MG _ (azy l s g).length C) (azy l s g).length _
     rw[<-H2.out.2.2];exact Yr H2.out.1
 ·rw[Nh rfl]
  have a0:azC l s g=([],5):=by unfold azC;rw[hbad];rfl
  have D:M6 (_/\_):=⟨a3,a0⟩;clear a6 a3 H hbad a0;go_wp2
  go_ret2
  rw[D.out.2];exact⟨MH,0,rfl,ak3 _,D.out.1⟩
theorem aAf{l:List Ou}{g:Int}(h:ay4 l=Nb):azC l s g=(azy l s g,0):=by unfold azC;rw[h];rfl
theorem aAh{l:List Ou}{g:Int}(h:ay4 l=Nb):ay4 (azy l s g)=false:=by
 unfold ay4 azy at *;rw[List.any_eq_false]at h⊢;exact fun x hx=>h x (List.mem_filter.1 hx).1
end
theorem azV(c:Cf)(k:Nat):aad ((Yb c).tab.getD k aby)=0:=by
 show aad ((Nj c.flows.toNat (0,Nb,0,0)).getD k aby)=0;rw[NK,List.getElem?_replicate]
 split <;> rfl
theorem aAe(h:Rn (Yb c) c P){x:Int×Int}(hx:x∈P.giv):∃y,azr c.ret (azy (az9 P) x.1 x.2)=MI y/\y.ph≠0/\azy (az9 P) x.1 x.2≠[]/\(y.ph=2↔(Yj P.last.tab x.1 x.2).2≠0):=
 h.aAp rfl rfl rfl (azV c) hx
theorem azU(h:Rn (Yb c) c P)(hr:0<=c.ret){x:Int×Int}(hx:x∈P.giv):
  ay4 (azy (az9 P) x.1 x.2)=Nb/\ay8 (azy (az9 P) x.1 x.2) 1=1/\(ay8 (azy (az9 P) x.1 x.2) 5:Int)<=c.ret/\ay8 (azy (az9 P) x.1 x.2) 4<=1:=by
 obtain⟨y,a,d,_,_⟩:=aAe h hx;obtain⟨e,i,⟨b,_⟩,kr⟩:=azs hr _ _ rfl y a;exact⟨aAh (h.good rfl),e d,by omega,b⟩
theorem aAj(f:Nat->Int)(hf:∀i,i<16->(Lit.int ME (f i)).wf=Nw)(ds:List Dd)(hds:∀d∈ds,ajd d){pd:Option Oc}{cd:Nat}(hrow:Xw agP w (MG pd ds.length cd) ds)(hB:Xo w):
  Ni MK 7 #[agc (f 0) (f 1) (f 2) (f 3) (f 4) (f 5) (f 6) (f 7) (f 8) (f 9) (f 10) (f 11) (f 12) (f 13) (f 14) (f 15),MG pd ds.length cd] w fun r w'=>r=MN (M3 Nw)/\MQ w.heap.size w w':=by
 obtain⟨L,hL,eL,a4⟩:=aAd f hf ds hds hrow hB 60 (by omega);rw[eL];obtain⟨q,M⟩:∃q,q=w.alloc (MP L.toArray 24):=⟨_,rfl⟩;have H:MQ w.heap.size w q:=by rw[M];exact WQ w
 have l:M6 (_/\_/\_):=⟨hL,H,a4 q H⟩;obtain⟨nd,b3⟩:∃nd,nd=ds.length:=⟨_,rfl⟩;rw[<-b3]at l⊢;clear hL eL a4 H hf hds hrow hB b3;go_enter Tryz.func7,Tryz.ntmps7
 go_wp2_with ((with_reducible refine O3 rfl 24 (O6 2) rfl w.heap.size 0 ?gx L _ ?gc Tryz.underlying24 ?gd ?gi ?_);(case gx=>rfl);(case gc=>exact afW (M1 _ _));(case gd=>rfl);(case gi=>rw[l.out.1];exact apz))
 rw[<-M];clear M;refine Nd l.out.2.2 ?_;rintro r w1 ⟨g,V,c,P,rfl,T,a5,b8,b9,a6⟩;obtain⟨n,hn⟩:∃n,n=P.steps.length:=⟨_,rfl⟩;have a:M6 (_/\_/\_/\_/\_):=⟨T,a5,hn,(show n<=60+4 by omega),a6⟩;have a0:=l.out.2.1.trans (T.bel.mono l.out.2.1.size);have HB:M6 _:=a0;clear T a5 b8 b9 a6 hn l a0;have HO:M6 _:=az8 a.out.1 (by rw[<-a.out.2.2.1];have:=a.out.2.2.2.1;omega)
 go_wp2_with fail
 refine Nd HO.out ?_;rintro r t ⟨p2,q2,rfl,a8,J⟩;obtain⟨m,v⟩:∃m,m=(az9 P).length:=⟨_,rfl⟩;have a3:=a.out.1.on J;have B:M6 _:=a3;have HR:M6 (_/\_):=⟨a8,HB.out.trans (J.mono HB.out.size)⟩;have a7:m<=66560:=by
  have h1:=aAb a.out.1.rn.runs.chain P.steps.length;have h2:aAa P P.steps.length=az9 P:=by unfold aAa az9;rw[NT]
  rw[h2,<-v,<-a.out.2.2.1]at h1;have:=a.out.2.2.2.1;omega
 have HM:M6 (m=(az9 P).length/\(az9 P).length<=66560):=⟨v,by rw[<-v];exact a7⟩;have HG:M6 (ay4 (az9 P)=Nb):=a.out.1.rn.good rfl;obtain⟨ng,b2⟩:∃m,m=P.giv.length:=⟨_,rfl⟩;have d3:ng<=64:=by have:=a.out.1.rn.Mj;have:=a.out.2.2.1;have:=a.out.2.2.2.1;omega
 have S:M6 _:=b2;clear a8 J HO a3 v b2 a7
 go_wp2_with fail
 go_loopw [8,9,10,11,12] (fun i _ _ _ _ wr=>∃k:Nat,i=MF ME (k:Int)/\k<=ng/\M6 (MQ t.heap.size t wr)) (fun i _ _ _ _ _=>ng-(intOf i).toNat)
 case atStart=>exact⟨0,rfl,Nx _,MY _ _⟩
 case round =>
  obtain⟨k,rfl,hk,j⟩:=hrel
  by_cases hlt:k<ng
  ·have b7:(k:Int)<(ng:Int):=by omega
   have b:=B.out.on j.out;have d0:=b.pat.lt;have K:k<P.giv.length:=by rw[<-S.out];exact hlt
   obtain⟨ap,d6,hv,c0,c9,hp⟩:=Xw.F6 anw (abw b.pat.giv:Xw afq wr (MG V.pg P.giv.length V.cg) P.giv);injection hv with q1 q2 q3;obtain⟨bo,oo,ha,d7,U⟩:=hp k K;have e0:wr.cell? ⟨bo,oo+k*2,MH⟩=MI (MF ME P.giv[k].1):=U 0 (by omega);have e1:wr.cell? ⟨bo,oo+k*2+1,MH⟩=MI (MF ME P.giv[k].2):=U 1 (by omega);have N:wr.cell? ⟨g,43,MH⟩=MI (MG V.pg ng V.cg):=by rw[S.out];exact b.pat.Mn
   rw[q1,ha]at N;have z:P.giv[k]∈P.giv:=Nk K;obtain⟨x,hx⟩:∃x,x=P.giv[k]:=⟨_,rfl⟩;rw[<-hx]at e0 e1 z;have HX:M6 _:=z;have a2:M6 _:=aAg _ (az9 P) x.1 x.2 wr (HR.out.1.below j.out) (by have:=HM.out.2;omega);rw[aAf HG.out]at a2;clear b U hp q1 q2 q3 c0 c9 ha K hx z
   go_wp2_with fail
   refine Nd a2.out ?_;rintro r w3 ⟨p3,q3,rfl,p,a1⟩;have u:=azU a.out.1.rn a.out.2.1.ok.2.2.2.2.2.2.2.2.1.1 HX.out;obtain⟨st,F⟩:∃s,s=azy (az9 P) x.1 x.2:=⟨_,rfl⟩;simp only[]at p;rw[<-F]at u p;have Q:=az3 _ st w3 p u.1;obtain⟨ls,E⟩:∃n,n=st.length:=⟨_,rfl⟩;simp only[];rw[<-F,<-E];rw[<-E]at Q;have HL:M6 _:=Q;have D:M6 _:=u;have a9:M6 _:=a1;clear p a1 u Q F E e0 e1 N
   go_wp2_with fail
   refine Nd HL.out ?_;rintro r w4 ⟨rfl,O⟩;obtain⟨cs,Z,e⟩:=az1 w4 st;rw[e.is];have k1:=e.cell 1 (by omega);have k4:=e.cell 4 (by omega);have k5:=e.cell 5 (by omega);have d1:=e.lt;have C:MQ t.heap.size t Z:=j.out.trans ((a9.out.trans ((O.trans (e.bel.mono O.size)).mono a9.out.size)).mono j.out.size);have I:=B.out.on C;have d2:=I.pat.lt;have c8:Z.cell? ⟨g,8,MH⟩=MI (MF ME c.ret):=I.pat.aAr 8;rw[D.out.2.1]at k1;have d5:Nn (c.ret<(ay8 st 5:Int))=false:=by have:=D.out.2.2.1;simp;omega
   have d4:Nn (1<(ay8 st 4:Int))=false:=by have:=D.out.2.2.2;simp;omega
   generalize ay8 st 5=n5 at *;generalize ay8 st 4=n4 at *;have y:M6 _:=e;have HE:M6 _:=C;clear e O I C
   go_wp2_with ((with_reducible refine OW rfl 86 (O6 11) (O6 45) rfl w4.heap.size 0 cs.toArray ?sx ?sy ?st ?si ?s1 ?_);(case sx=>rfl);(case sy=>rfl);(case st=>exact y.out.there);(case si=>rw[List.size_toArray,y.out.len];exact azZ);(case s1=>exact y.out.one);rw[List.toList_toArray,<-y.out.at_])
   refine wp_region_quiet_lit (by kernel_rfl) (by kernel_rfl) ?_
   repeat (first|go_big_quiet_skip|quiet_step (fail))
   refine Oy ?_;intro _ b6;obtain⟨nq,b5⟩:=b6;subst b5;go_wp2
   go_roundw
   case rel=>exact⟨k+1,by simp,hlt,HE.out.trans ((amB (MY _ _) nq).mono HE.out.size)⟩
   case measure=>simp[intOf];omega
  ·obtain rfl:k=ng:=by omega
   have b:=B.out.on j.out;have d0:=b.pat.lt;have N:wr.cell? ⟨g,43,MH⟩=MI (MG V.pg k V.cg):=by rw[S.out];exact b.pat.Mn
   have b7:¬(k:Int)<(k:Int):=by omega
   clear b;go_wp2;go_ret;exact⟨rfl,HR.out.2.trans (j.out.mono HR.out.2.size)⟩
end Go.Proofs.YtmpokpecfclapaaGreatDoor.Q
