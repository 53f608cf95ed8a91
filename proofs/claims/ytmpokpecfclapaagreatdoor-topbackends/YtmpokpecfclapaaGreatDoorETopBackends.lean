/-
  TopBackends: its walk. Conditions: as each theorem says.
-/
import Derived.Test.YtmpokpecfclapaaGreatDoorQ20
open Bool renaming false->Nb,false_ne_true->PE,or_eq_false_iff->azO,true->Nw
open Decidable renaming decide->Nn
open Go renaming Addr->Oc,Calls->Ni,Value->M7,World->MO,cell_grown->Ob,heap_alloc_new->M1,maxLen->NE,wpQuiet_nil->Oy,wp_region_quiet_grown->NQ
open Go.Calls renaming grown_of->NZ,mono->Nd
open Go.Ending renaming returned->MN
open Go.IntKind renaming i64->ME
open Go.Obj renaming cells->MP
open Go.Proofs.Tryz renaming func28->WF,func42->azN,ntmps156->Ss,ntmps28->Ww,ntmps42->azM,prog->MK
open Go.RowKit renaming Below->MQ,Hid->M6
open Go.RowKit.Below renaming refl->MY
open Go.Sort renaming alloc_eq_grow->PQ,grow->Oj
open Go.Value renaming agg->Ny,bool->M3,func->PB,int->MF,slice->MG,tuple->Nv
open Go.World renaming cell?->Nl
open List renaming append_nil->OG,getElem?_eq_getElem->MR,getElem_mem->Nk,length_append->Ns,take_append_of_le_length->ZqA,take_length->NT,take_of_length_le->N1,take_succ_eq_append_getElem->M9
open Nat renaming le_refl->MV,le_trans->Nm,zero_le->Nx
open Option renaming none->MH,some->MI
open Or renaming inl->Nt,inr->NF
namespace Go.Proofs.YtmpokpecfclapaaGreatDoor.Q
set_option linter.unusedVariables false
set_option linter.unusedSimpArgs false
set_option maxHeartbeats 16000000
set_option maxRecDepth 100000
open Go.RowKit
attribute [local go_sem ↓] Go.wp_at_zero Go.wp_at_succ
variable {c:Cf}{m:Int}{l:List Ou}{w:MO}{g:Nat}{V:Pv}{P:Py}
structure ay0(X Y:Gt):Prop where
 fls:Y.fls=X.fls
 tab:Y.tab=X.tab
 tok:Y.tok=X.tok
 cfg:Y.cfg=X.cfg
 out:Y.out=X.out
structure Mv(X Y:Gt)(F:List Fl)(T:List awY)(k:Int)(o:Ou):Prop where
 fls:Y.fls=F
 tab:Y.tab=T
 tok:Y.tok=k
 cfg:Y.cfg=X.cfg
 out:Y.out=X.out++[o]
abbrev ay1(f:Fl)(k y:Int):Prop:=(k=7/\y=0)\/(k=6/\((y=1/\f.srv=Nw)\/y=2\/(f.srv=Nb/\(y=3\/y=4\/y=5))))
structure azJ(op:Prop)(R:Gt->Prop):Prop where
 same:∀X Y,ay0 X Y->R X->R Y
 no:∀X Y o,(o.kind=2\/o.kind=8\/o.kind=9\/o.kind=10)->o.why=0->Mv X Y X.fls X.tab X.tok o->R X->R Y
 ends:∀X Y f k y,Bs X->f∈X.fls->ay1 f k y->Mv X Y (X.fls.filter fun x=>x.slot != f.slot) (X.tab.set f.slot.toNat (f.gen+1,Nb,0,0)) X.tok ⟨k,f.slot,f.gen,f.be,0,0,y⟩->R X->R Y
 again:∀X Y i (hi:i<X.fls.length) b d,Bs X->X.fls[i].srv=Nb->X.fls[i].ret+1<=X.cfg.ret->X.cfg.bd<=X.tok->(0<=b/\b<12)->Mv X Y (X.fls.set i {X.fls[i]with be:=b,ret:=X.fls[i].ret+1,due:=d}) (X.tab.set X.fls[i].slot.toNat (X.fls[i].gen,Nw,X.fls[i].key,b)) (X.tok-X.cfg.bd) ⟨5,X.fls[i].slot,X.fls[i].gen,b,0,0,0⟩->R X->R Y
 serves:∀X Y i (hi:i<X.fls.length) d,Bs X->X.fls[i].srv=Nb->Mv X Y (X.fls.set i {X.fls[i]with srv:=Nw,due:=d}) X.tab X.tok ⟨4,X.fls[i].slot,X.fls[i].gen,X.fls[i].be,0,0,0⟩->R X->R Y
 forw:∀X Y i (hi:i<X.fls.length) d,Bs X->Mv X Y (X.fls.set i {X.fls[i]with due:=d}) X.tab X.tok ⟨3,X.fls[i].slot,X.fls[i].gen,X.fls[i].be,0,0,0⟩->R X->R Y
 opens:op->∀X Y (k:Nat) (hk:k<X.tab.length) key b d,Bs X->X.tab[k].2.1=Nb->(0<=X.tab[k].1/\X.tab[k].1<=1048575)->(0<=b/\b<12)->Mv X Y (Xi X.fls ⟨k,X.tab[k].1,key,b,Nb,0,d⟩ (Y3 X.fls k)) (X.tab.set k (X.tab[k].1,Nw,key,b)) (min (X.tok+X.cfg.bn) (X.cfg.bb*X.cfg.bd)) ⟨1,k,X.tab[k].1,b,0,0,0⟩->R X->R Y
section
variable {op:Prop}{R:Gt->Prop}{G:Gt}
theorem azJ.drain(h:azJ op R){X:Gt}(hR:R X)(b:Int):R (Yf X b):=by
 unfold Yf
 split
 ·exact h.no X _ _ (NF (NF (Nt rfl))) rfl ⟨rfl,rfl,rfl,rfl,rfl⟩ hR
 ·exact hR
theorem azJ.Hc(h:azJ op R){X:Gt}(hb:Bs X){f:Fl}(hf:f∈X.fls){k y:Int}(hy:ay1 f k y)(hR:R X):R (Yg X f k y):=by
 unfold Yg;refine h.drain ?_ _;exact h.ends X _ f k y hb hf hy ⟨hb.GL hf,congrArg Prod.fst (hb.Hj hf),rfl,rfl,rfl⟩ hR
theorem azJ.I8(h:azJ op R){X:Gt}(hb:Bs X){i:Nat}(hi:i<X.fls.length)(hs:X.fls[i].srv=Nb){y:Int}(hy:y=3\/y=5)(hR:R X):R (YP X i y):=by
 have a:=Nk hi;have j:=(hb.F9 a).2.2.2;rcases aeI hb hi y with⟨z,q,o⟩|⟨c,q,k,d,n,b,_⟩
 ·rw[q]
  refine azJ.Hc h (X:=Yh X X.fls[i].be Nw) (hb.GA j Nw) a (NF ⟨rfl,NF (NF ⟨hs,by omega⟩)⟩) ?_;exact h.same X _ ⟨rfl,rfl,rfl,rfl,rfl⟩ hR
 ·obtain⟨T,e⟩:=ak0 (G:={Yh X X.fls[i].be Nw with tok:=X.tok-X.cfg.bd}) hi c
  rw[q,e];refine h.drain ?_ _;exact h.again X _ i hi c _ hb hs d k b ⟨rfl,congrArg Prod.fst (hb.Ho a b),rfl,rfl,rfl⟩ hR
theorem azJ.Mm(h:azJ op R)(hm:Wm G){e:Ev}(he:XZ e)(h7:e.kind=7->G.now+1<=1099511626776)(h1:e.kind=1->op)(hR:R G):R (Xb G e):=by
 have b:=hm.im.bs;have n:∀k,R (Yv G k e):=fun k=>h.no G _ _ (NF (Nt rfl)) rfl ⟨rfl,rfl,rfl,rfl,rfl⟩ hR
 unfold Xb
 split
 ·rename_i k1
  rcases afU b he.key with⟨q,_⟩|⟨q,_⟩|⟨k,r,_,_,p,_,C,u,_,q⟩ <;> rw[q]
  ·exact h.no G _ _ (Nt rfl) rfl ⟨rfl,rfl,rfl,rfl,rfl⟩ hR
  ·exact h.no G _ _ (Nt rfl) rfl ⟨rfl,rfl,rfl,rfl,rfl⟩ hR
  ·exact h.opens (h1 k1) G _ k r _ _ _ b C u p ⟨rfl,rfl,rfl,rfl,rfl⟩ hR
 ·split
  ·exact n 1
  ·split
   ·unfold abg
    split
    ·exact n 2
    ·split
     ·exact h.no (Yv G 2 e) _ _ (NF (NF (Nt rfl))) rfl ⟨rfl,rfl,rfl,rfl,rfl⟩ (n 2)
     ·exact h.drain (X:={Yv G 2 e with wts:=G.wts.set e.be.toNat 0}) (h.same (Yv G 2 e) _ ⟨rfl,rfl,rfl,rfl,rfl⟩ (n 2)) _
   ·split
    ·rename_i k7
     refine alk (R:=R) hm (h7 k7) ?_ (fun X f y hX hf d hR=>h.Hc hX.bs hf (NF ⟨rfl,by rcases d with d|d;exact Nt d;exact NF (Nt d)⟩) hR) (fun X i hX a j hR=>h.I8 hX.bs a j (NF rfl) hR);obtain⟨_,_,t,v,x,B,z,_⟩:=aeS (b.next (h7 k7));exact h.same G _ ⟨t,B,z,v,x⟩ hR
    ·rcases akr b e with⟨p,q⟩|⟨i,a,_,_,_,⟨_,q⟩|⟨_,q⟩|⟨_,_,⟨_,q⟩|⟨j,_,q⟩|⟨j,_,q⟩⟩⟩
     ·rw[q];exact h.no G _ _ (NF (NF (NF rfl))) rfl ⟨rfl,rfl,rfl,rfl,rfl⟩ hR
     ·rw[q];exact h.Hc b (Nk a) (Nt ⟨rfl,rfl⟩) hR
     ·obtain⟨T,o⟩:=aks a
      rw[q,o];refine h.forw G _ i a (if G.fls[i].srv then G.now+G.cfg.idle else G.fls[i].due) b ⟨?_,rfl,rfl,rfl,rfl⟩ hR;show G.fls.set i _=G.fls.set i _
      congr 1
      split <;> rfl
     ·rw[q];exact h.no G _ _ (NF (NF (NF rfl))) rfl ⟨rfl,rfl,rfl,rfl,rfl⟩ hR
     ·obtain⟨T,o⟩:=alb a
      rw[q,o];exact h.serves G _ i a _ b j ⟨rfl,rfl,rfl,rfl,rfl⟩ hR
     ·rw[q];exact h.I8 b a j (Nt rfl) hR
theorem Mv.pre{X Y:Gt}{F:List Fl}{T:List awY}{k:Int}{o:Ou}(h:Mv X Y F T k o)(L:List Ou):Mv {X with out:=L++X.out} {Y with out:=L++Y.out} F T k o :=
 ⟨h.fls,h.tab,h.tok,h.cfg,by show L++Y.out=L++X.out++[o];rw[h.out,List.append_assoc]⟩
theorem azJ.pre(h:azJ op R)(L:List Ou):azJ op fun X=>R {X with out:=L++X.out}where
 same:=fun X Y hs hR=>h.same {X with out:=L++X.out} _ ⟨hs.fls,hs.tab,hs.tok,hs.cfg,by show L++Y.out=L++X.out;rw[hs.out]⟩ hR
 no:=fun X Y o ho hy hs hR=>h.no {X with out:=L++X.out} _ o ho hy (hs.pre L) hR
 ends:=fun X Y f k y hb hf hy hs hR=>h.ends {X with out:=L++X.out} _ f k y (hb.Jh _) hf hy (hs.pre L) hR
 again:=fun X Y i hi b d hb h1 h2 h3 h4 hs hR=>h.again {X with out:=L++X.out} _ i hi b d (hb.Jh _) h1 h2 h3 h4 (hs.pre L) hR
 serves:=fun X Y i hi d hb h1 hs hR=>h.serves {X with out:=L++X.out} _ i hi d (hb.Jh _) h1 (hs.pre L) hR
 forw:=fun X Y i hi d hb hs hR=>h.forw {X with out:=L++X.out} _ i hi d (hb.Jh _) (hs.pre L) hR
 opens:=fun ho X Y k hk key b d hb h1 h2 h3 hs hR=>h.opens ho {X with out:=L++X.out} _ k hk key b d (hb.Jh _) h1 h2 h3 (hs.pre L) hR
theorem Rn.flows{A:Gt}(h:Rn A c P)(hF:azJ True R)(h0:R A)(hA:A.out=[]):R {P.last with out:=(P.steps.map (·.out)).flatten}:=by
 refine h.Mw (J:=fun P=>R {P.last with out:=(P.steps.map (·.out)).flatten}) ?_ fun Q e hQ he hl hJ=>?_
 ·exact hF.same A _ ⟨rfl,rfl,rfl,rfl,hA.symm⟩ h0
 ·have b:=hQ.runs.now
  have a:=(hF.pre ((Q.steps.map (·.out)).flatten)).Mm (G:=Q.last) hQ.runs.wm (aeH he) (fun _=>by omega) (fun _=>trivial) (by rw[hQ.runs.out,OG];exact hJ);refine hF.same {Xb Q.last e with out:=(Q.steps.map (·.out)).flatten++(Xb Q.last e).out} _ ⟨rfl,rfl,rfl,rfl,?_⟩ a;show((Q.steps++[(⟨e,Q.last,(Xb Q.last e).Ma,(Xb Q.last e).out⟩:Sp)]).map fun s=>s.out).flatten=(Q.steps.map fun s=>s.out).flatten++(Xb Q.last e).out;simp
end
def ay3(o:Ou):Bool:=Nn (o.kind<1) || decide (10<o.kind) || decide (o.why<0) || decide (5<o.why)
def ay2(l:List Ou):Bool:=l.any ay3
def ay8(o:Ou):Bool:=Nn (o.kind=1) || (Nn (3<=o.kind) && Nn (o.kind<=7))
def ay7(s g:Int)(o:Ou):Bool:=ay8 o && (Nn (o.slot=s) && Nn (o.gen=g))
def azd(l:List Ou)(s g:Int):List Ou:=l.filter (ay7 s g)
def azg(l:List Ou)(s g:Int):List Ou×Int:=if ay2 l then([],5)else(azd l s g,0)
theorem azf{s g:Int}{k:Nat}{x:Ou}(h:l.take (k+1)=l.take k++[x]):azd (l.take (k+1)) s g=azd (l.take k) s g++(if ay7 s g x then [x]else []):=by
 rw[h];simp only[azd,List.filter_append,List.filter_cons,List.filter_nil]
theorem aze(l:List Ou)(s g:Int):(azd l s g).length<=l.length:=List.length_filter_le _ _
section
variable {X:Gt}
theorem ay5:azJ True fun X=>ay2 X.out=false:=by
 have a:∀(X Y:Gt) (o:Ou),ay2 X.out=Nb->ay3 o=Nb->Y.out=X.out++[o]->ay2 Y.out=false:=fun X Y o h1 h2 h3=>by
  unfold ay2 at h1⊢;rw[h3,List.any_append,h1];simp[h2]
 refine⟨fun X Y hs hR=>by rw[hs.out];exact hR,fun X Y o ho hy hs hR=>a X Y _ hR ?_ hs.out,fun X Y f k y hb hf hy hs hR=>a X Y _ hR ?_ hs.out,fun X Y i hi b d hb h1 h2 h3 h4 hs hR=>a X Y _ hR rfl hs.out,fun X Y i hi d hb h1 hs hR=>a X Y _ hR rfl hs.out,fun X Y i hi d hb hs hR=>a X Y _ hR rfl hs.out,fun _ X Y k hk ky b d hb h1 h2 h3 hs hR=>a X Y _ hR rfl hs.out⟩
 ·unfold ay3
  simp only[azO,decide_eq_false_iff_not];omega
 ·unfold ay3
  simp only[azO,decide_eq_false_iff_not];omega
end
section
variable {A:Gt}{c:Cf}{P:Py}{s:Sp}
theorem Rn.good(h:Rn A c P)(hA:A.out=[]):ay2 (P.steps.map (·.out)).flatten=false:=h.flows ay5 (by rw[hA];rfl) hA
end
section
variable {G:Gt}
theorem ay4(h:Im G):(acG G).out.length<=G.out.length+960:=by
 have a:=(akI G.liv G G.liv.length h (MV _)).2.2;rw[NT]at a;have b:G.liv.length<=12:=h.bs.book.1.1;show(G.liv.foldl Zd G).out.length<=_;omega
theorem azi(h:Wm G)(hn:G.now+1<=1099511626776):(abj G).out.length<=G.out.length+1040:=by
 have e:=h.im.next hn;obtain⟨n,o,q,v,p,_⟩:=aeS e.bs;have k:=e.Jf;have d:=k.I2;have i:(aaC (YH {G with now:=G.now+1})).now=G.now+1:=n;have b:(aaC (YH {G with now:=G.now+1})).wnow=G.now:=o.trans h.wnow;obtain⟨j,_⟩:=d.Je (by rw[b,i]) (fun f a=>by
  have a:f∈(YH {G with now:=G.now+1}).fls:=a;rw[q]at a;rw[b];exact h.due f a)
 have u:=ay4 j;have r:=ao7 d.bs;have t:(aaC (YH {G with now:=G.now+1})).out.length=G.out.length:=congrArg List.length p;show(acG _).out.length<=_;omega
theorem azh(hm:Wm G)(e:Ev)(h7:e.kind=7->G.now+1<=1099511626776):(Xb G e).out.length<=G.out.length+1040:=by
 unfold Xb
 split
 ·unfold aaI
  split
  ·simp[acm,ZM]
  ·simp only[]
   split
   ·simp[acm,ZM]
   ·simp[abv,abi,ZM,YW]
 ·split
  ·simp[Yv,ZM]
  ·split
   ·unfold abg
    split
    ·simp[Yv,ZM]
    ·split
     ·simp[aeQ,Yv,ZM]
     ·refine Nm (aki _) ?_
      simp[Yv,ZM]
   ·split
    ·rename_i h
     exact azi hm (h7 h)
    ·unfold aaq
     simp only[]
     split
     ·simp[acm,ZM]
     ·split
      ·exact Nm (afK _ _ _) (by omega)
      ·split
       ·unfold aaZ
        simp only[]
        split <;> simp[abi,ZM,YW,Y4]
       ·split
        ·simp[acm,ZM]
        ·split
         ·simp[abh,abi,ZM,YW,Y4,Yh]
         ·exact Nm (aoZ _ _) (by omega)
theorem aaB.azL{s:Sp}(h:aaB c s):s.out.length<=1040:=by
 rw[h.out];have:=azh h.wm s.ev h.late;rw[h.out0]at this
 simpa using this
end
structure Ss where
 ph:Nat
 be:Int
 srv:Bool
 ret:Int
abbrev azc:Ss:=⟨0,-1,Nb,0⟩
def azK(m:Int)(x:Ss)(o:Ou):Option Ss :=
 if o.kind=1/\x.ph=0/\0<=o.be then MI ⟨1,o.be,Nb,0⟩
 else if o.kind=3/\x.ph=1/\o.be=x.be then MI x
 else if o.kind=4/\x.ph=1/\o.be=x.be/\x.srv=Nb then MI ⟨1,x.be,Nw,x.ret⟩
 else if o.kind=5/\x.ph=1/\0<=o.be/\x.srv=Nb/\x.ret+1<=m then MI ⟨1,o.be,Nb,x.ret+1⟩
 else if o.kind=6/\x.ph=1/\o.be=x.be/\(o.why=1->x.srv=Nw)/\(x.srv=Nw->o.why=1\/o.why=2)then MI ⟨2,x.be,x.srv,x.ret⟩
 else if o.kind=7/\x.ph=1/\o.be=x.be then MI ⟨2,x.be,x.srv,x.ret⟩
 else MH
def ay9(m:Int)(l:List Ou):Option Ss:=l.foldl (fun x o=>x.bind fun x=>azK m x o) (MI azc)
theorem aza(m:Int)(l:List Ou)(o:Ou):ay9 m (l++[o])=(ay9 m l).bind fun x=>azK m x o:=by
 unfold ay9;rw[List.foldl_append];rfl
theorem ay6(h:l≠[]):∃l' o,l=l'++[o]:=⟨l.dropLast,l.getLast h,(List.dropLast_concat_getLast h).symm⟩
theorem azb:∀(l:List Ou) (x:Ss),ay9 m l=MI x->∀k,k<l.length->∃y z,ay9 m (l.take k)=MI y/\ay9 m (l.take (k+1))=MI z/\∃hk:k<l.length,azK m y l[k]=MI z:=by
 intro l;have p:∀(n:Nat) (l:List Ou),l.length=n->∀x,ay9 m l=MI x->∀k,k<l.length->∃y z,ay9 m (l.take k)=MI y/\ay9 m (l.take (k+1))=MI z/\∃hk:k<l.length,azK m y l[k]=MI z:=by
  intro n
  induction n with
  |zero=>intro l u x _ k hk;omega
  |succ n ih =>
   intro l j x e k hk;obtain⟨d,o,rfl⟩:∃d o,l=d++[o]:=ay6 (by intro h;rw[h]at j;cases j);rw[Ns,List.length_singleton]at j hk;rw[aza]at e;obtain⟨y,i,e⟩:=Option.bind_eq_some_iff.1 e
   by_cases hlt:k<d.length
   ·obtain⟨a,b,t,q,_,r⟩:=ih d (by omega) y i k hlt
    refine⟨a,b,?_,?_,by simp;omega,?_⟩
    ·rw[ZqA (by omega)];exact t
    ·rw[ZqA (by omega)];exact q
    ·rw[List.getElem_append_left hlt];exact r
   ·obtain rfl:k=d.length:=by omega
    refine⟨y,x,?_,?_,by simp,?_⟩
    ·rw[ZqA (MV _),NT];exact i
    ·rw[N1 (by simp),aza,i];exact e
    ·simpa using e
 exact p _ l rfl
theorem azj{x y:Ss}{o:Ou}(h:azK m x o=MI y):(o.kind=1/\x.ph=0/\0<=o.be/\y=⟨1,o.be,Nb,0⟩) \/
  (o.kind=3/\x.ph=1/\o.be=x.be/\y=x)\/(o.kind=4/\x.ph=1/\o.be=x.be/\x.srv=Nb/\y=⟨1,x.be,Nw,x.ret⟩) \/
  (o.kind=5/\x.ph=1/\0<=o.be/\x.srv=Nb/\x.ret+1<=m/\y=⟨1,o.be,Nb,x.ret+1⟩) \/
  (o.kind=6/\x.ph=1/\o.be=x.be/\(o.why=1->x.srv=Nw)/\(x.srv=Nw->o.why=1\/o.why=2)/\y=⟨2,x.be,x.srv,x.ret⟩) \/
  (o.kind=7/\x.ph=1/\o.be=x.be/\y=⟨2,x.be,x.srv,x.ret⟩):=by
 unfold azK at h
 split at h
 ·rename_i q;cases h;exact Nt ⟨q.1,q.2.1,q.2.2,rfl⟩
 ·split at h
  ·rename_i q;cases h;exact NF (Nt ⟨q.1,q.2.1,q.2.2,rfl⟩)
  ·split at h
   ·rename_i q;cases h;exact NF (NF (Nt ⟨q.1,q.2.1,q.2.2.1,q.2.2.2,rfl⟩))
   ·split at h
    ·rename_i q;cases h;exact NF (NF (NF (Nt ⟨q.1,q.2.1,q.2.2.1,q.2.2.2.1,q.2.2.2.2,rfl⟩)))
    ·split at h
     ·rename_i q;cases h;exact NF (NF (NF (NF (Nt ⟨q.1,q.2.1,q.2.2.1,q.2.2.2.1,q.2.2.2.2,rfl⟩))))
     ·split at h
      ·rename_i q;cases h;exact NF (NF (NF (NF (NF ⟨q.1,q.2.1,q.2.2,rfl⟩))))
      ·cases h
theorem WU.Gm{base:Nat}(h:WU base w g V c P):w.cell? ⟨g,16,MH⟩=MI (MG V.ps P.steps.length V.cs):=by
 rw[cell_of_row w g 16 _ _ (0,0) h.box,h.steps];rfl
structure azl(W:MO)(ps:Option Oc)(k:Nat)(q:Sq)(b o:Nat):Prop where
 at_:ps=MI ⟨b,o,MH⟩
 cells:W.rangeAt b (o+k*61) (abK q)
 rd:aje W q
theorem XQ.step{W:MO}(h:XQ w W g V c P){k:Nat}(hk:k<P.steps.length):∃q b o,azl W V.ps k q b o/\P.steps[k]?=MI q.s/\aaB c q.s:=by
 have z:=h.pat.steps;have i:k<V.qs.length:=by omega
 have n:Xw abK W (MG V.ps V.qs.length V.cs) V.qs:=abw h.pat.rows;obtain⟨a,x,d,_,_,u⟩:=Xw.F6 avt n;injection d with q1 _ _;obtain⟨b,o,t,y,p⟩:=u k i;have e:P.steps[k]?=MI V.qs[k].s:=by rw[<-h.pat.eqs,List.getElem?_map,MR i];rfl
 refine⟨V.qs[k],b,o,⟨q1.trans t,fun j v d=>?_,(h.pat.all _ (Nk i)).now⟩,e,h.rn.runs.chain _ (List.mem_of_getElem? e)⟩;have r:j<61:=(List.getElem?_eq_some_iff.1 d).1;rw[p j r];exact d
theorem azC(f:Nat->Int)(hf:∀i,i<16->(Lit.int ME (f i)).wf=Nw)(ds:List Dd)(hds:∀d∈ds,ajd d){pd:Option Oc}{cd:Nat}(hrow:Xw agP w (MG pd ds.length cd) ds)(hblk:Xo w)(most:Nat)(hm:most<=100):
  ∃L:List M7,L.length=16/\agc (f 0) (f 1) (f 2) (f 3) (f 4) (f 5) (f 6) (f 7) (f 8) (f 9) (f 10) (f 11) (f 12) (f 13) (f 14) (f 15)=Ny L.toArray/\∀W,MQ w.heap.size w W->Ni MK 13 #[Ny L.toArray,MG pd ds.length cd,MF ME (most:Int)] W (au0 f most W):=
 ⟨[MF ME (f 0),MF ME (f 1),MF ME (f 2),MF ME (f 3),MF ME (f 4),MF ME (f 5),MF ME (f 6),MF ME (f 7),MF ME (f 8),MF ME (f 9),MF ME (f 10),MF ME (f 11),MF ME (f 12),MF ME (f 13),MF ME (f 14),MF ME (f 15)],rfl,rfl,fun W hB=>awU f hf ds hds W (hrow.below hB) (hblk.below hB) most hm⟩
def azy(P:Py):List Ou:=(P.steps.map (·.out)).flatten
def azz(P:Py)(k:Nat):List Ou:=((P.steps.take k).map (·.out)).flatten
theorem azB{k:Nat}{s:Sp}(h:P.steps[k]?=MI s):azz P (k+1)=azz P k++s.out:=by
 obtain⟨a,e⟩:=List.getElem?_eq_some_iff.1 h;unfold azz;rw[M9 a,List.map_append,List.flatten_append,e];simp
theorem azA{c:Cf}{P:Py}(h:∀s∈P.steps,aaB c s):∀k:Nat,(azz P k).length<=1040*k
 |0=>Nx _
 |k+1=>by
  have a:=azA h k
  by_cases hk:k<P.steps.length
  ·rw[azB (MR hk),Ns]
   have b:=(h _ (Nk hk)).azL;omega
  ·have:azz P (k+1)=azz P k:=by unfold azz;rw[N1 (by omega),N1 (by omega)]
   rw[this];omega
theorem azx{W:MO}(h:XQ w W g V c P)(hl:P.steps.length<=1000):
  Ni MK 18 #[gP g] W fun r w'=>∃p q,r=MN (MG p (azy P).length q)/\Xw Z1 w' (MG p (azy P).length q) (azy P)/\MQ W.heap.size W w':=by
 obtain⟨n,N⟩:∃n,n=P.steps.length:=⟨_,rfl⟩;have j:M6 (_/\_/\_):=⟨h,N,(show n<=1000 by omega)⟩;have a4:n<=9223372036854775807:=by omega
 clear h hl N;go_enter Tryz.func18,Tryz.ntmps18;go_wp2
 go_loopw [3,4] (fun s i wr=>∃(k q:Nat) (p:Option Oc) (d:Nat),s=MG p q d/\i=MF ME (k:Int)/\k<=n/\M6 (q=(azz P k).length/\wr.ownsRow W.heap.size 67 7 (MG p q d) q (rv Z1 (azz P k))/\MQ W.heap.size W wr)) (fun _ i _=>n-(intOf i).toNat)
 case atStart=>exact⟨0,0,MH,0,rfl,rfl,Nx _,rfl,⟨rfl,Nt ⟨rfl,rfl⟩⟩,MY _ _⟩
 case round =>
  obtain⟨k,q,p,d,rfl,rfl,hk,a⟩:=hrel;have t:=j.out.1.on a.out.2.2;have Y:wr.cell? ⟨g,16,MH⟩=MI (MG V.ps n V.cs):=by rw[j.out.2.1];exact t.pat.Gm
  have a2:=t.pat.lt
  by_cases hlt:k<n
  ·have U:(k:Int)<(n:Int):=by omega
   obtain⟨x,b,o,hx,E,T⟩:=t.step (k:=k) (by rw[<-j.out.2.1];exact hlt);have K:wr.cell? ⟨b,o+k*61+60,MH⟩=MI (MG x.po x.s.out.length x.co):=hx.cells 60 _ rfl;have a0:b<wr.heap.size:=World.block_lt_of_cell? wr ⟨b,_,MH⟩ K;have y:(azz P (k+1)).length=q+x.s.out.length:=by rw[azB E,Ns,<-a.out.1]
   have J:=azA j.out.1.rn.runs.chain (k+1);rw[y]at J;have a1:k+1<=1000:=by have:=j.out.2.2;omega
   obtain⟨Q,O,Z,D,z,L⟩:=ajY akV aqd (by decide) Tryz.underlying62 apw rfl a.out.2.1 a.out.2.2.size 62 _ x.s.out hx.rd.2.2 (by omega) (by unfold NE;omega);rw[<-azB E]at z;obtain⟨u,I⟩:∃u,u=x.s.out.length:=⟨_,rfl⟩;rw[<-I]at D z y K;rw[hx.at_]at Y;have B:M6 (_/\_/\_/\_):=⟨D,z,a.out.2.2.trans L,y⟩;clear y I D z L hx E T t J
   go_wp2_with (at_builtin;(with_reducible refine Z4 rfl _ _ 62 rfl (MG p q d) (MG x.po u x.co) (MG Q (q+u) O) Z ?hs ?hx ?hr ?_);(case hs=>rfl);(case hx=>rfl);(case hr=>exact B.out.1))
   go_wp2
   go_roundw
   case rel=>exact⟨k+1,q+u,Q,O,rfl,by simp,hlt,B.out.2.2.2.symm,B.out.2.1,B.out.2.2.1⟩
   case measure=>simp[intOf];omega
  ·obtain rfl:k=n:=by omega
   have U:¬(k:Int)<(k:Int):=by omega
   have C:=a.out.1;have F:=a.out.2.1;have S:azz P k=azy P:=by unfold azz azy;rw[j.out.2.1,NT]
   rw[S]at C F;have M:=abw (c:=Z1) (l:=azy P) (k:=7) (v:=MG p q d) (w:=wr) (base:=W.heap.size) (e:=67) (by rw[<-C];exact F);have H:M6 (_/\_):=⟨M,C⟩;clear C F S M t;go_wp2;go_ret;exact⟨p,d,by rw[<-H.out.2];rfl,by rw[<-H.out.2];exact H.out.1,a.out.2.2⟩
abbrev azt(o:Ou):Value:=Ny #[MF ME o.kind,MF ME o.slot,MF ME o.gen,MF ME o.be,MF ME o.req,MF ME o.code,MF ME o.why]
abbrev azk(w:MO)(v:M7)(l:List Ou):Prop:=Xw Z1 w v l
theorem azk.F6{v:M7}(h:azk w v l):
  ∃a cap,v=MG a l.length cap/\l.length<=cap/\cap<=NE/\∀i (hi:i<l.length),∃b off,a=MI ⟨b,off,MH⟩/\b<w.heap.size/\w.cell? ⟨b,off+i*7,MH⟩=MI (MF ME l[i].kind)/\w.cell? ⟨b,off+i*7+1,MH⟩=MI (MF ME l[i].slot)/\w.cell? ⟨b,off+i*7+2,MH⟩=MI (MF ME l[i].gen)/\w.cell? ⟨b,off+i*7+3,MH⟩=MI (MF ME l[i].be)/\w.cell? ⟨b,off+i*7+4,MH⟩=MI (MF ME l[i].req)/\w.cell? ⟨b,off+i*7+5,MH⟩=MI (MF ME l[i].code)/\w.cell? ⟨b,off+i*7+6,MH⟩=MI (MF ME l[i].why):=by
 obtain⟨a,cap,n,j,k,o⟩:=Xw.F6 akV h;refine⟨a,cap,n,j,k,fun i hi=>?_⟩;obtain⟨b,off,p,e,d⟩:=o i hi;exact⟨b,off,p,e,(d 0 (by omega)).trans rfl,(d 1 (by omega)).trans rfl,(d 2 (by omega)).trans rfl,(d 3 (by omega)).trans rfl,(d 4 (by omega)).trans rfl,(d 5 (by omega)).trans rfl,(d 6 (by omega)).trans rfl⟩
theorem azF{α:Type}{l:List α}{k:Nat}(h:k<l.length){x:α}(hx:x=l[k]):l.take (k+1)=l.take k++[x]:=by
 rw[M9 h,hx]
theorem azo(f:Ou)(w:MO) :
  Ni MK 42 #[azt f] w fun r w'=>r=MN (M3 (ay3 f))/\MQ w.heap.size w w':=by
 have a:ay3 f=(Nn (f.kind<1) || decide (10<f.kind) || decide (f.why<0) || decide (5<f.why)):=rfl;rw[a];clear a;cases t0:Nn (f.kind<1)
 ·cases t1:Nn (10<f.kind)
  ·cases t2:Nn (f.why<0)
   ·cases t3:Nn (5<f.why)
    ·go_enter azN,azM
     go_wp2;go_ret;exact⟨by rfl,WQ w⟩
    ·go_enter azN,azM
     go_wp2;go_ret;exact⟨by rfl,WQ w⟩
   ·go_enter azN,azM
    go_wp2;go_ret;exact⟨by rfl,WQ w⟩
  ·go_enter azN,azM
   go_wp2;go_ret;exact⟨by rfl,WQ w⟩
 ·go_enter azN,azM
  go_wp2;go_ret;exact⟨by rfl,WQ w⟩
theorem azr(v:M7)(l:List Ou)(w:MO)(hv:azk w v l) :
  Ni MK 62 #[v,PB (Fn.func 42) #[] #[]] w fun r w'=>r=MN (MF ME (X6 (l.findIdx (ay3)) l.length))/\MQ w.heap.size w w':=by
 obtain⟨q,D⟩:∃q:Ou->Bool,q=(ay3):=⟨_,rfl⟩;obtain⟨a,ca,rfl,a0,N,I⟩:=azk.F6 hv;unfold NE at N;have L:M6 (∀(x:Ou) (W:MO),MQ w.heap.size w W->Ni MK 42 #[azt x] W fun r w'=>r=MN (M3 (q x))/\MQ W.heap.size W w'):=by
  rw[D];exact fun x W hb=>azo x W
 rw[<-D];obtain⟨u,C⟩:∃u,u=X6 (l.findIdx q) l.length:=⟨_,rfl⟩;rw[<-C];have H:M6 _:=C;clear hv C D;go_enter Tryz.func62,Tryz.ntmps62;go_wp2
 go_loopw [8] (fun i wr=>∃k:Nat,i=MF ME k/\k<=l.length/\(∀t∈l.take k,q t=Nb)/\MQ w.heap.size w wr) (fun i _=>l.length-(intOf i).toNat)
 case atStart=>exact⟨0,rfl,Nx _,by simp,MY _ _⟩
 case round =>
  obtain⟨k,rfl,hk,y,b⟩:=hrel
  by_cases hlt:k<l.length
  ·obtain⟨n,j,rfl,e,c1,c2,c3,c4,c5,c6,c7⟩:=I k hlt
   have T:=(b.cell (p:=⟨n,j+k*7,MH⟩) e).trans c1;have Y:=(b.cell (p:=⟨n,j+k*7+1,MH⟩) e).trans c2;have Z:=(b.cell (p:=⟨n,j+k*7+2,MH⟩) e).trans c3;have e4:=(b.cell (p:=⟨n,j+k*7+3,MH⟩) e).trans c4;have U:=(b.cell (p:=⟨n,j+k*7+4,MH⟩) e).trans c5;have O:=(b.cell (p:=⟨n,j+k*7+5,MH⟩) e).trans c6;have e7:=(b.cell (p:=⟨n,j+k*7+6,MH⟩) e).trans c7;have o:M6 (_/\_):=⟨y,b⟩;have a1:(k:Int)<(l.length:Int):=by omega
   have E:l.take (k+1)=l.take k++[l[k]]:=M9 hlt;have F:q l[k]=Nw->l.findIdx q=k:=fun h=>abZ hlt y h
   have B:∃x,x=l[k]:=⟨_,rfl⟩;obtain⟨x,B⟩:=B;rw[<-B]at T Y Z e4 U O e7 E F;have M:M6 (_/\_):=⟨E,F⟩;clear y b c1 c2 c3 c4 c5 c6 c7 e I E F B;cases hd:q x
   ·go_wp2_with fail
    refine(L.out x _ o.out.2).mono ?_;rw[hd];rintro r Q ⟨rfl,z⟩;have J:M6 _:=z;clear z;go_wp2
    go_roundw
    case rel =>
     refine⟨k+1,by simp,hlt,fun t d=>?_,o.out.2.trans (J.out.mono o.out.2.size)⟩;rw[M.out.1]at d;rcases List.mem_append.1 d with d|d
     ·exact o.out.1 t d
     ·simp at d
      rw[d];exact hd
    case measure=>simp[intOf];omega
   ·go_wp2_with fail
    refine(L.out x _ o.out.2).mono ?_;rw[hd];rintro r Q ⟨rfl,z⟩;have K:M6 (u=(k:Int)):=by show u=_;rw[H.out,M.out.2 hd];exact Nh hlt
    have J:M6 _:=z;clear z;go_wp2;go_ret;exact⟨by rw[K.out];rfl,o.out.2.trans (J.out.mono o.out.2.size)⟩
  ·have K:M6 (u = -1):=by
    show u=_;rw[H.out,acp fun t d=>y t (by rw[N1 (by omega)];exact d)];exact Nf (Nat.lt_irrefl _)
   have S:M6 _:=b;clear y b I;go_wp2;go_ret;exact⟨by rw[K.out];rfl,S.out⟩
theorem azp(v:M7)(l:List Ou)(w:MO)(hv:azk w v l) :
  Ni MK 43 #[v,PB (Fn.func 42) #[] #[]] w fun r w'=>r=MN (M3 (l.any (ay3)))/\MQ w.heap.size w w':=by
 rw[<-ahq];have d:M6 _:=azr v l w hv;obtain⟨e,a⟩:∃e,e=X6 (l.findIdx (ay3)) l.length:=⟨_,rfl⟩;rw[<-a]at d⊢;clear a hv;go_enter Tryz.func43,Tryz.ntmps43
 go_wp2_with fail
 refine Nd d.out ?_;rintro r j ⟨rfl,b⟩;have i:M6 _:=b;clear b;go_wp2;go_ret;exact⟨rfl,i.out⟩
theorem azn(v:M7)(l:List Ou)(w:MO)(hv:azk w v l) :
  Ni MK 28 #[v] w fun r w'=>r=MN (MF ME (if ay2 l then 5 else 0))/\MQ w.heap.size w w':=by
 have b:M6 _:=azp v l w hv;have e:l.any ay3=ay2 l:=rfl;rw[e]at b;clear e hv;cases h:ay2 l
 ·rw[h]at b
  go_enter WF,Ww
  go_wp2_with fail
  refine Nd b.out ?_;rintro r i ⟨rfl,a⟩;have d:M6 _:=a;clear a;go_wp2;go_ret;exact⟨rfl,d.out⟩
 ·rw[h]at b
  go_enter WF,Ww
  go_wp2_with fail
  refine Nd b.out ?_;rintro r i ⟨rfl,a⟩;have d:M6 _:=a;clear a;go_wp2;go_ret;exact⟨rfl,d.out⟩
section
open Go.Sort (grow grow_empty grow_grow alloc_eq_grow cell?_grow heap_grow_old)
abbrev azu(o:Ou):Obj:=MP #[MF ME o.kind,MF ME o.slot,MF ME o.gen,MF ME o.be,MF ME o.req,MF ME o.code,MF ME o.why] 67
theorem azv{o:Ou}(h:w.heap[g]?=MI (azu o)):w.cell? ⟨g,0,MH⟩=MI (MF ME o.kind)/\w.cell? ⟨g,1,MH⟩=MI (MF ME o.slot)/\w.cell? ⟨g,2,MH⟩=MI (MF ME o.gen)/\w.cell? ⟨g,3,MH⟩=MI (MF ME o.be)/\w.cell? ⟨g,4,MH⟩=MI (MF ME o.req)/\w.cell? ⟨g,5,MH⟩=MI (MF ME o.code)/\w.cell? ⟨g,6,MH⟩=MI (MF ME o.why)/\g<w.heap.size :=
 ⟨by simp[Nl,h],by simp[Nl,h],by simp[Nl,h],by simp[Nl,h],by simp[Nl,h],by simp[Nl,h],by simp[Nl,h],(Array.getElem?_eq_some_iff.1 h).1⟩
theorem azw{o:Ou}(h:w.heap[g]?=MI (azu o)):(∀n os,(Oj (w.drewN n) os).cell? ⟨g,0,MH⟩=MI (MF ME o.kind))/\(∀n os,(Oj (w.drewN n) os).cell? ⟨g,1,MH⟩=MI (MF ME o.slot))/\(∀n os,(Oj (w.drewN n) os).cell? ⟨g,2,MH⟩=MI (MF ME o.gen))/\(∀n os,(Oj (w.drewN n) os).cell? ⟨g,3,MH⟩=MI (MF ME o.be))/\(∀n os,(Oj (w.drewN n) os).cell? ⟨g,4,MH⟩=MI (MF ME o.req))/\(∀n os,(Oj (w.drewN n) os).cell? ⟨g,5,MH⟩=MI (MF ME o.code))/\(∀n os,(Oj (w.drewN n) os).cell? ⟨g,6,MH⟩=MI (MF ME o.why)):=
 have q:=azv h
 ⟨Ob (a:=⟨g,0,MH⟩) q.2.2.2.2.2.2.2 q.1,Ob (a:=⟨g,1,MH⟩) q.2.2.2.2.2.2.2 q.2.1,Ob (a:=⟨g,2,MH⟩) q.2.2.2.2.2.2.2 q.2.2.1,Ob (a:=⟨g,3,MH⟩) q.2.2.2.2.2.2.2 q.2.2.2.1,Ob (a:=⟨g,4,MH⟩) q.2.2.2.2.2.2.2 q.2.2.2.2.1,Ob (a:=⟨g,5,MH⟩) q.2.2.2.2.2.2.2 q.2.2.2.2.2.1,Ob (a:=⟨g,6,MH⟩) q.2.2.2.2.2.2.2 q.2.2.2.2.2.2.1⟩
theorem azI{a b:M7}{T:TypeId}(h:w.heap[g]?=MI (MP #[a,b] T (0,0))):(∀n os,(Oj (w.drewN n) os).cell? ⟨g,0,MH⟩=MI a)/\(∀n os,(Oj (w.drewN n) os).cell? ⟨g,1,MH⟩=MI b):=
 have q:=Xa h
 ⟨Ob (a:=⟨g,0,MH⟩) q.2.2.2.2 q.1,Ob (a:=⟨g,1,MH⟩) q.2.2.2.2 q.2.1⟩
theorem azs(o:Ou)(w:MO) :
  Ni MK 29 #[azt o] w fun r w'=>r=MN (M3 (ay8 o))/\∃q os,w'=Oj (w.drewN q) os:=by
 obtain⟨kd,sl,b,d,rq,cd,wy⟩:=o;have a:ay8 ⟨kd,sl,b,d,rq,cd,wy⟩=(Nn (kd=1) || (Nn (3<=kd) && Nn (kd<=7))):=rfl;have i:(kd=1\/kd=3\/kd=4\/kd=5\/kd=6\/kd=7)\/(¬kd=1/\¬kd=3/\¬kd=4/\¬kd=5/\¬kd=6/\¬kd=7):=by omega
 rcases i with h|⟨k,j,p,n,t,u⟩
 ·have e:ay8 ⟨kd,sl,b,d,rq,cd,wy⟩=true:=by rw[a];simp;omega
  rw[e];clear e a;rcases h with rfl|rfl|rfl|rfl|rfl|rfl
  all_goals
   go_enter Tryz.func29,Tryz.ntmps29;go_wp2;go_ret;exact⟨rfl,0,#[_],PQ _ _⟩
 ·have e:ay8 ⟨kd,sl,b,d,rq,cd,wy⟩=false:=by rw[a];simp;omega
  rw[e];clear e a;go_enter Tryz.func29,Tryz.ntmps29;go_wp2;go_ret;exact⟨rfl,0,#[_],PQ _ _⟩
theorem azq(o:Ou)(w:MO) :
  Ni MK 30 #[azt o] w fun r w'=>r=MN (Ny #[MF ME o.slot,MF ME o.gen])/\∃q os,w'=Oj (w.drewN q) os:=by
 go_enter Tryz.func30,Tryz.ntmps30;go_wp2;refine bodyPost_ret (v:=Ny #[MF ME o.slot,MF ME o.gen]) (Z2 Tryz.results30 rfl (Xp (cs:=[MF ME o.slot,MF ME o.gen]) (Yu _ _ _) Tryz.underlying75 rfl (by kernel_rfl))) rfl ⟨rfl,0,#[azu o,MP #[MF ME o.slot,MF ME o.gen] 75],?_⟩;rw[PQ,PQ,grow_grow];rfl
def azm(O:List Ou×Int)(w:MO)(r:Ending)(w':MO):Prop:=∃p c,r=MN (Nv #[MG p O.1.length c,MF ME O.2])/\azk w' (MG p O.1.length c) O.1/\MQ w.heap.size w w'
theorem azE(v:M7)(l:List Ou)(s g:Int)(w:MO)(hv:azk w v l)(hl:l.length*56<=140737488355328) :
  Ni MK 19 #[v,Ny #[MF ME s,MF ME g]] w (azm (azg l s g) w):=by
 obtain⟨p,c,rfl,hc,hm,pv⟩:=azk.F6 hv;unfold NE at hm;obtain⟨W0,a6⟩:∃W0,W0=w.alloc (MP #[MF ME s,MF ME g] 75):=⟨_,rfl⟩;have b6:MQ w.heap.size w W0:=by rw[a6];exact WQ w
 have b5:W0.heap[w.heap.size]?=MI (MP #[MF ME s,MF ME g] 75 (0,0)):=by rw[a6];exact M1 _ _
 have J:M6 (_/\_/\_/\_/\_/\_):=⟨hv,pv,b6,b5,a6,hl⟩;clear hv pv b6 b5 a6 hl;go_enter Tryz.func19,Tryz.ntmps19
 go_wp2_with fail
 rw[<-J.out.2.2.2.2.1];refine(azn _ l _ (J.out.1.below J.out.2.2.1)).mono ?_;rintro r w1 ⟨rfl,F⟩;have a4:=J.out.2.2.1.trans (F.mono J.out.2.2.1.size);have a7:=WO J.out.2.2.2.1 F;cases hbad:ay2 l
 ·rw[Nf PE]
  have a0:azg l s g=(azd l s g,0):=by unfold azg;rw[hbad];rfl
  have D:M6 (_/\_/\_):=⟨a7,a4,a0⟩;clear a7 a4 F hbad a0;go_wp2
  go_loopw [7,17] (fun o i wr=>∃(k n C:Nat) (K:Option Oc),i=MF ME k/\o=MG K n C/\k<=l.length/\M6 (n=(azd (l.take k) s g).length)/\MQ w1.heap.size w1 wr/\wr.ownsRow w1.heap.size 67 7 (MG K n C) n (rv Z1 (azd (l.take k) s g))) (fun _ i _=>l.length-(intOf i).toNat)
  case atStart=>exact⟨0,0,0,MH,rfl,rfl,Nx _,rfl,MY _ _,World.ownsRow_nil _ _ _ _⟩
  case round =>
   obtain⟨k,n,C,K,rfl,rfl,hk,Q,hb,ho⟩:=hrel
   by_cases hlt:k<l.length
   ·obtain⟨N,off,rfl,E,c1,c2,c3,c4,c5,c6,c7⟩:=J.out.2.1 k hlt
    have H:=D.out.2.1.trans (hb.mono D.out.2.1.size);have O:=(H.cell (p:=⟨N,off+k*7,MH⟩) E).trans c1;have T:=(H.cell (p:=⟨N,off+k*7+1,MH⟩) E).trans c2;have U:=(H.cell (p:=⟨N,off+k*7+2,MH⟩) E).trans c3;have Y:=(H.cell (p:=⟨N,off+k*7+3,MH⟩) E).trans c4;have S:=(H.cell (p:=⟨N,off+k*7+4,MH⟩) E).trans c5;have e6:=(H.cell (p:=⟨N,off+k*7+5,MH⟩) E).trans c6;have e7:=(H.cell (p:=⟨N,off+k*7+6,MH⟩) E).trans c7;obtain⟨⟨kd,sl,t,u,rq,cd,wy⟩,hx⟩:∃x,x=l[k]:=⟨_,rfl⟩;have c8:=azf (s:=s) (g:=g) (azF hlt hx);rw[<-hx]at O T U Y S e6 e7
    dsimp only at O T U Y S e6 e7
    have d0:(k:Int)<(l.length:Int):=by omega
    obtain⟨d,a2⟩:∃d,d=wr.alloc (azu ⟨kd,sl,t,u,rq,cd,wy⟩):=⟨_,rfl⟩;have a8:MQ wr.heap.size wr d:=by rw[a2];exact WQ wr
    have hX:d.heap[wr.heap.size]?=MI (azu ⟨kd,sl,t,u,rq,cd,wy⟩):=by rw[a2];exact M1 _ _
    have F:=hb.trans (a8.mono hb.size);have b7:=WO D.out.1 F;obtain⟨q0,q1⟩:=azI b7;obtain⟨k0,k1,k2,k3,k4,k5,k6⟩:=azw hX;have Z:M6 (∀n os,Ni MK 29 #[azt ⟨kd,sl,t,u,rq,cd,wy⟩] (Oj (d.drewN n) os) fun r w'=>r=MN (M3 (ay8 ⟨kd,sl,t,u,rq,cd,wy⟩))/\∃q os',w'=Oj ((Oj (d.drewN n) os).drewN q) os'):=fun n os=>azs ⟨kd,sl,t,u,rq,cd,wy⟩ _
    have HH:M6 (∀n os,Ni MK 30 #[azt ⟨kd,sl,t,u,rq,cd,wy⟩] (Oj (d.drewN n) os) fun r w'=>r=MN (Ny #[MF ME sl,MF ME t])/\∃q os',w'=Oj ((Oj (d.drewN n) os).drewN q) os'):=fun n os=>azq ⟨kd,sl,t,u,rq,cd,wy⟩ _
    have b8:n+1<=l.length:=by
     rw[Q.out];have:=aze (l.take k) s g;rw[List.length_take]at this;omega
    have a:M6 (_/\_/\_/\_/\_/\_/\_):=⟨F,YI ho a8,c8,hX,a2,b8,Q.out⟩;clear hb ho c8 hX a2 b8 Q a8 F H c1 c2 c3 c4 c5 c6 c7 E hx b7;cases hf:ay8 ⟨kd,sl,t,u,rq,cd,wy⟩
    ·have I:ay7 s g ⟨kd,sl,t,u,rq,cd,wy⟩=false:=by unfold ay7;rw[hf];rfl
     rw[hf]at Z;have HM:M6 _:=I;clear I hf
     go_wp2_with fail
     rw[<-a.out.2.2.2.2.1];refine NQ XY (by kernel_rfl) ?_
     repeat (first|go_big_quiet_skip|quiet_step (first|(go_at_call 29;exact NZ (Z.out _ _))|(go_at_call 30;exact Calls.grown_of (HH.out _ _))))
     refine Oy ?_;intro _ M;obtain⟨⟨B,z⟩,L⟩:=M;subst L;have b:=ae3 d B z;have y:M6 (_/\_):=⟨a.out.1.trans (b.mono a.out.1.size),YI a.out.2.1 b⟩;clear b;generalize Oj (d.drewN B) z=w3 at y⊢;clear k0 k1 k2 k3 k4 k5 k6 q0 q1 O T U Y S e6 e7;go_wp2
     go_roundw
     case rel =>
      have hs:=a.out.2.2.1;rw[HM.out,Nf PE,OG]at hs;exact⟨k+1,n,C,K,by simp,rfl,hlt,by show n=_;rw[hs];exact a.out.2.2.2.2.2.2,y.out.1,by rw[hs];exact y.out.2⟩
     case measure=>simp[intOf];omega
    ·rw[hf]at Z
     by_cases hm2:sl=s/\t=g
     ·obtain⟨hs,hg⟩:=hm2
      have I:ay7 s g ⟨kd,sl,t,u,rq,cd,wy⟩=true:=by unfold ay7;rw[hf];simp[hs,hg]
      have HM:M6 _:=I;clear I hf;subst hs hg
      go_wp2_with fail
      rw[<-a.out.2.2.2.2.1];refine NQ XY (by kernel_rfl) ?_
      repeat (first|go_big_quiet_skip|quiet_step (first|(go_at_call 29;exact NZ (Z.out _ _))|(go_at_call 30;exact NZ (HH.out _ _))))
      refine Oy ?_;intro _ M;obtain⟨⟨B,z⟩,L⟩:=M;subst L;have b:=ae3 d B z;have a9:=WO a.out.2.2.2.1 b;have a1:=a.out.1.trans (b.mono a.out.1.size);have a5:=YI a.out.2.1 b;generalize Oj (d.drewN B) z=w3 at a9 a1 a5⊢;clear k0 k1 k2 k3 k4 k5 k6 q0 q1 O T U Y S e6 e7 b;obtain⟨k0,k1,k2,k3,k4,k5,k6,d1⟩:=azv a9;obtain⟨g2,c2,w4,hr,c0,b9,c9⟩:=afC akV aqd (by decide) Tryz.underlying62 apw rfl a5 a1.size 62 (⟨kd,sl,t,u,rq,cd,wy⟩:Ou) #[MF ME kd,MF ME sl,MF ME t,MF ME u,MF ME rq,MF ME cd,MF ME wy] rfl (by have:=J.out.2.2.2.2.2;have:=a.out.2.2.2.2.2.1;omega) (by have:=a.out.2.2.2.2.2.1;unfold NE;omega);have b2:MQ w1.heap.size w1 w4:=a1.grown b9 a1.size (fun j hj=>(a5.lt j hj).1);have H4:M6 (_/\_/\_):=⟨hr,c0,b2⟩;clear hr c0 b2 b9 c9 a1 a5 a9
      go_wp2_with (at_builtin;(with_reducible refine Z4 rfl _ _ 62 rfl (MG K n C) (MG (MI ⟨w3.heap.size,0,MH⟩) 1 1) (MG (MI ⟨g2,0,MH⟩) (n+1) c2) w4 ?hs ?hx ?hr ?_);(case hs=>rfl);(case hx=>rfl);(case hr=>exact H4.out.1))
      go_roundw
      case rel =>
       have hs:=a.out.2.2.1;rw[HM.out,Nh rfl]at hs;exact⟨k+1,n+1,c2,MI ⟨g2,0,MH⟩,by simp,rfl,hlt,by show n+1=_;rw[hs,a.out.2.2.2.2.2.2];simp,H4.out.2.2,by rw[hs];exact H4.out.2.1⟩
      case measure=>simp[intOf];omega
     ·have I:ay7 s g ⟨kd,sl,t,u,rq,cd,wy⟩=false:=by unfold ay7;rw[hf];simp;omega
      have HM:M6 _:=I;clear I hf
      by_cases hs:sl=s
      ·have hg:¬t=g:=fun e=>hm2 ⟨hs,e⟩
       clear hm2;subst hs
       go_wp2_with fail
       rw[<-a.out.2.2.2.2.1];refine NQ XY (by kernel_rfl) ?_
       repeat (first|go_big_quiet_skip|quiet_step (first|(go_at_call 29;exact NZ (Z.out _ _))|(go_at_call 30;exact NZ (HH.out _ _))))
       refine Oy ?_;intro _ M;obtain⟨⟨B,z⟩,L⟩:=M;subst L;have b:=ae3 d B z;have y:M6 (_/\_):=⟨a.out.1.trans (b.mono a.out.1.size),YI a.out.2.1 b⟩;clear b;generalize Oj (d.drewN B) z=w3 at y⊢;clear k0 k1 k2 k3 k4 k5 k6 q0 q1 O T U Y S e6 e7;go_wp2
       go_roundw
       case rel =>
        have hs:=a.out.2.2.1;rw[HM.out,Nf PE,OG]at hs;exact⟨k+1,n,C,K,by simp,rfl,hlt,by show n=_;rw[hs];exact a.out.2.2.2.2.2.2,y.out.1,by rw[hs];exact y.out.2⟩
       case measure=>simp[intOf];omega
      ·clear hm2
       go_wp2_with fail
       rw[<-a.out.2.2.2.2.1];refine NQ XY (by kernel_rfl) ?_
       repeat (first|go_big_quiet_skip|quiet_step (first|(go_at_call 29;exact NZ (Z.out _ _))|(go_at_call 30;exact NZ (HH.out _ _))))
       refine Oy ?_;intro _ M;obtain⟨⟨B,z⟩,L⟩:=M;subst L;have b:=ae3 d B z;have y:M6 (_/\_):=⟨a.out.1.trans (b.mono a.out.1.size),YI a.out.2.1 b⟩;clear b;generalize Oj (d.drewN B) z=w3 at y⊢;clear k0 k1 k2 k3 k4 k5 k6 q0 q1 O T U Y S e6 e7;go_wp2
       go_roundw
       case rel =>
        have hs:=a.out.2.2.1;rw[HM.out,Nf PE,OG]at hs;exact⟨k+1,n,C,K,by simp,rfl,hlt,by show n=_;rw[hs];exact a.out.2.2.2.2.2.2,y.out.1,by rw[hs];exact y.out.2⟩
       case measure=>simp[intOf];omega
   ·obtain rfl:k=l.length:=by omega
    rw[NT]at ho Q;have H2:M6 (_/\_/\_):=⟨ho,hb,Q.out⟩;clear ho hb Q;go_wp2
    go_ret2
    rw[D.out.2.2];refine⟨K,C,?_,?_,D.out.2.1.trans (H2.out.2.1.mono D.out.2.1.size)⟩
    ·show _=MN (Nv #[MG _ (azd l s g).length C,MF ME 0])
     rw[<-H2.out.2.2];rfl
    ·show XB _ (MG _ (azd l s g).length C) (azd l s g).length _
     rw[<-H2.out.2.2];exact Yr H2.out.1
 ·rw[Nh rfl]
  have a0:azg l s g=([],5):=by unfold azg;rw[hbad];rfl
  have D:M6 (_/\_):=⟨a4,a0⟩;clear a7 a4 F hbad a0;go_wp2
  go_ret2
  rw[D.out.2];exact⟨MH,0,rfl,ak3 _,D.out.1⟩
theorem azD{s g:Int}(h:ay2 l=Nb):azg l s g=(azd l s g,0):=by unfold azg;rw[h];rfl
end
theorem azH{y z:Ss}{o:Ou}(h:azK m y o=MI z):o.be=z.be/\(y.ph≠0->0<=y.be->0<=z.be)/\(y.ph=0->0<=z.be)/\((o.kind=1\/o.kind=5)\/(o.kind≠1/\o.kind≠5/\y.be=z.be)):=by
 rcases azj h with⟨k,d,b,e⟩|⟨k,d,a,e⟩|⟨k,d,a,b,e⟩|⟨k,d,a,b,i,e⟩|⟨k,d,a,b,i,e⟩|⟨k,d,a,e⟩ <;> subst e <;> rw[k]
 ·exact⟨rfl,fun _ _=>b,fun _=>b,Nt (Nt rfl)⟩
 ·exact⟨a,fun _ h=>h,fun h=>by omega,NF ⟨by decide,by decide,rfl⟩⟩
 ·exact⟨a,fun _ h=>h,fun h=>by omega,NF ⟨by decide,by decide,rfl⟩⟩
 ·exact⟨rfl,fun _ _=>a,fun _=>a,Nt (NF rfl)⟩
 ·exact⟨a,fun _ h=>h,fun h=>by omega,NF ⟨by decide,by decide,rfl⟩⟩
 ·exact⟨a,fun _ h=>h,fun h=>by omega,NF ⟨by decide,by decide,rfl⟩⟩
theorem azG(f:Nat->Int)(hf:∀i,i<16->(Lit.int ME (f i)).wf=Nw)(ds:List Dd)(hds:∀d∈ds,ajd d){pd:Option Oc}{cd:Nat}(hrow:Xw agP w (MG pd ds.length cd) ds)(hB:Xo w):
  Ni MK 10 #[agc (f 0) (f 1) (f 2) (f 3) (f 4) (f 5) (f 6) (f 7) (f 8) (f 9) (f 10) (f 11) (f 12) (f 13) (f 14) (f 15),MG pd ds.length cd] w fun r w'=>r=MN (M3 Nw)/\MQ w.heap.size w w':=by
 obtain⟨L,hL,eL,c8⟩:=azC f hf ds hds hrow hB 60 (by omega);rw[eL];obtain⟨I,a5⟩:∃I,I=w.alloc (MP L.toArray 24):=⟨_,rfl⟩;have a2:MQ w.heap.size w I:=by rw[a5];exact WQ w
 have t:M6 (_/\_/\_):=⟨hL,a2,c8 I a2⟩;obtain⟨nd,d7⟩:∃nd,nd=ds.length:=⟨_,rfl⟩;rw[<-d7]at t⊢;clear hL eL c8 a2 hf hds hrow hB d7;go_enter Tryz.func10,Tryz.ntmps10
 go_wp2_with ((with_reducible refine wpList_load_mid rfl 24 (Operand.tmp 2) rfl w.heap.size 0 ?gx L _ ?gc Tryz.underlying24 ?gd ?gi ?_);(case gx=>rfl);(case gc=>exact afW (M1 _ _));(case gd=>rfl);(case gi=>rw[t.out.1];exact apz))
 rw[<-a5];clear a5;refine Nd t.out.2.2 ?_;rintro r w1 ⟨g,V,c,P,rfl,hS,d3,e9,f1,d4⟩;obtain⟨n,hn⟩:∃n,n=P.steps.length:=⟨_,rfl⟩;have a:M6 (_/\_/\_/\_/\_):=⟨hS,d3,hn,(show n<=60+4 by omega),d4⟩;have d5:=t.out.2.1.trans (hS.bel.mono t.out.2.1.size);have HB:M6 _:=d5;clear hS d3 e9 f1 d4 hn t d5;have HO:M6 _:=azx a.out.1 (by rw[<-a.out.2.2.1];have:=a.out.2.2.2.1;omega)
 go_wp2_with fail
 refine Nd HO.out ?_;rintro r w2 ⟨p2,q2,rfl,b7,a4⟩;obtain⟨m,F⟩:∃m,m=(azy P).length:=⟨_,rfl⟩;have d6:=a.out.1.on a4;have a9:M6 _:=d6;have HR:M6 (_/\_):=⟨b7,HB.out.trans (a4.mono HB.out.size)⟩;have a8:m<=66560:=by
  have J:=azA a.out.1.rn.runs.chain P.steps.length;have h2:azz P P.steps.length=azy P:=by unfold azz azy;rw[NT]
  rw[h2,<-F,<-a.out.2.2.1]at J;have:=a.out.2.2.2.1;omega
 have HM:M6 (m=(azy P).length/\(azy P).length<=66560):=⟨F,by rw[<-F];exact a8⟩;have HG:M6 (ay2 (azy P)=Nb):=a.out.1.rn.good rfl;obtain⟨ng,d0⟩:∃m,m=P.giv.length:=⟨_,rfl⟩;have g6:ng<=64:=by have:=a.out.1.rn.Mj;have:=a.out.2.2.1;have:=a.out.2.2.2.1;omega
 have HN:M6 _:=d0;clear b7 a4 HO d6 F d0 a8
 go_wp2_with fail
 go_loopw [8,9,10,11,12] (fun i _ _ _ _ wr=>∃k:Nat,i=MF ME (k:Int)/\k<=ng/\M6 (MQ w2.heap.size w2 wr)) (fun i _ _ _ _ _=>ng-(intOf i).toNat)
 case atStart=>exact⟨0,rfl,Nx _,MY _ _⟩
 case round =>
  obtain⟨k,rfl,hk,u⟩:=hrel
  by_cases hlt:k<ng
  ·have f0:(k:Int)<(ng:Int):=by omega
   have e:=a9.out.on u.out;have d8:=e.pat.lt;have U:k<P.giv.length:=by rw[<-HN.out];exact hlt
   obtain⟨ap,h8,hv,f3,f4,hp⟩:=Xw.F6 anw (abw e.pat.giv:Xw afq wr (MG V.pg P.giv.length V.cg) P.giv);injection hv with q1 q2 q3;obtain⟨bo,oo,ha,g4,hc⟩:=hp k U;have H:wr.cell? ⟨bo,oo+k*2,MH⟩=MI (MF ME P.giv[k].1):=hc 0 (by omega);have e1:wr.cell? ⟨bo,oo+k*2+1,MH⟩=MI (MF ME P.giv[k].2):=hc 1 (by omega);have a0:wr.cell? ⟨g,43,MH⟩=MI (MG V.pg ng V.cg):=by rw[HN.out];exact e.pat.Mn
   rw[q1,ha]at a0;have O:P.giv[k]∈P.giv:=Nk U;obtain⟨x,hx⟩:∃x,x=P.giv[k]:=⟨_,rfl⟩;rw[<-hx]at H e1 O;have HX:M6 _:=O;have b8:M6 _:=azE _ (azy P) x.1 x.2 wr (HR.out.1.below u.out) (by have:=HM.out.2;omega);rw[azD HG.out]at b8;clear e hc hp q1 q2 q3 f3 f4 ha U hx O
   go_wp2_with fail
   refine Nd b8.out ?_;rintro r w3 ⟨p3,q3,rfl,B,a7⟩;obtain⟨yf,Q,d1,a1,b5⟩:=a.out.1.rn.told HX.out;obtain⟨o,E⟩:∃s,s=azd (azy P) x.1 x.2:=⟨_,rfl⟩;simp only[]at B;rw[<-E]at Q a1 B;obtain⟨q,v⟩:∃n,n=o.length:=⟨_,rfl⟩;have f9:0<q:=by rw[v];exact List.length_pos_iff.2 a1
   have f8:q<=66560:=by rw[v,E];exact Nm (aze _ _ _) HM.out.2
   have g3:((q:Int) == 0)=false:=by simp;omega
   simp only[];rw[<-E,<-v];obtain⟨a3,g0,f6,d9,f2,b6⟩:=Xw.F6 akV B;injection f6 with q13 q14 q15;have b:M6 (_/\_/\_/\_/\_/\_/\_):=⟨v,b6,q13,Q,a7,d1,b5⟩;clear B E v d9 f2 b6 q13 q14 q15 a1 Q a7 d1 b5 H e1 a0 d8
   go_wp2_with fail
   go_loopw [11,12] (fun s i wr=>∃(j:Nat) (sv:Int),s=MF ME sv/\i=MF ME (j:Int)/\j<=q/\M6 (∀y,ay9 c.ret (o.take j)=MI y->sv=y.be/\(y.ph≠0->0<=y.be))/\M6 (MQ w3.heap.size w3 wr)) (fun _ i _=>q-(intOf i).toNat)
   case atStart=>exact⟨0,-1,rfl,rfl,Nx _,(fun y N=>by cases N;exact⟨rfl,fun h=>absurd rfl h⟩),MY _ _⟩
   case round =>
    obtain⟨j,sv,rfl,rfl,hj,HV,K⟩:=hrel
    by_cases hltj:j<q
    ·have e8:(j:Int)<(q:Int):=by omega
     have Y:j<o.length:=by rw[<-b.out.1];exact hltj
     obtain⟨M,o3,d2,S,b9⟩:=b.out.2.1 j Y;have f5:=b.out.2.2.1.trans d2;subst f5;have Z:=fun i (hi:i<7)=>(K.out.cell (p:=⟨M,o3+j*7+i,MH⟩) S).trans (b9 i hi)
     have g5:M<wr.heap.size:=Nat.lt_of_lt_of_le S K.out.size;obtain⟨y,z,N,hz,_,a6⟩:=azb o yf b.out.2.2.2.1 j Y;obtain⟨b2,c9⟩:=HV.out y N;obtain⟨t1,t2,t3,D⟩:=azH a6;have T:0<=z.be:=by
      by_cases h:y.ph=0
      ·exact t3 h
      ·exact t2 h (c9 h)
     have H:wr.cell? ⟨M,o3+j*7,MH⟩=MI (MF ME o[j].kind):=Z 0 (by omega);have e3:wr.cell? ⟨M,o3+j*7+3,MH⟩=MI (MF ME o[j].be):=Z 3 (by omega);rw[<-b2]at D;obtain⟨kd,c0⟩:∃k,k=o[j].kind:=⟨_,rfl⟩;obtain⟨zb,C⟩:∃k,k=z.be:=⟨_,rfl⟩;rw[t1]at e3;rw[<-c0]at D H;rw[<-C]at D e3 T;have f7:M6 (∀y,ay9 c.ret (o.take (j+1))=MI y->zb=y.be/\(y.ph≠0->0<=y.be)):=fun y' h=>by rw[hz]at h;cases h;exact⟨C,fun _=>by rw[<-C];exact T⟩
     clear Z b9 Y d2 S b2 c9 a6 N hz c0 C t1 t2 t3 T;rcases D.symm with⟨J,h5,rfl⟩|rfl|rfl
     case' inl =>
      have g9:(kd == 1)=false:=by simpa using J
      have g7:(kd == 5)=false:=by simpa using h5
      clear J h5
     all_goals
      go_wp2
      go_roundw
      case rel=>exact⟨j+1,_,rfl,by simp,hltj,f7.out,K.out⟩
      case measure=>simp[intOf];omega
    ·obtain rfl:j=q:=by omega
     have e8:¬(j:Int)<(j:Int):=by omega
     have g8:¬sv<0:=by have:=HV.out yf (by rw[b.out.1,NT];exact b.out.2.2.2.1);have h2:=this.2 b.out.2.2.2.2.2.1;omega
     have HE:M6 _:=u.out.trans ((b.out.2.2.2.2.1.trans (K.out.mono b.out.2.2.2.2.1.size)).mono u.out.size);go_wp2
     go_roundw
     case rel=>exact⟨k+1,by simp,hlt,HE.out⟩
     case measure=>simp[intOf];omega
  ·obtain rfl:k=ng:=by omega
   have e:=a9.out.on u.out;have d8:=e.pat.lt;have a0:wr.cell? ⟨g,43,MH⟩=MI (MG V.pg k V.cg):=by rw[HN.out];exact e.pat.Mn
   have f0:¬(k:Int)<(k:Int):=by omega
   clear e;go_wp2;go_ret;exact⟨rfl,HR.out.2.trans (u.out.mono HR.out.2.size)⟩
end Go.Proofs.YtmpokpecfclapaaGreatDoor.Q
