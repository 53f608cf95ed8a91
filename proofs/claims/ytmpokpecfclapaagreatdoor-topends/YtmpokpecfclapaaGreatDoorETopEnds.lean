/-
  TopEnds: its walk. Conditions: as each theorem says.
-/
import Derived.Test.YtmpokpecfclapaaGreatDoorQ20
open Bool renaming false->Nb,false_ne_true->PE,or_eq_false_iff->az9,true->Nw
open Decidable renaming decide->Nn
open Go renaming Addr->Oc,Calls->Ni,Value->M7,World->MO,cell_grown->Ob,cell_of_row->MW,heap_alloc_new->M1,maxLen->NE,wpQuiet_nil->Oy,wp_region_quiet_grown->NQ
open Go.Calls renaming grown_of->NZ,mono->Nd
open Go.Ending renaming returned->MN
open Go.IntKind renaming i64->ME
open Go.Obj renaming cells->MP
open Go.Proofs.Tryz renaming func28->WF,func42->az8,ntmps156->Ss,ntmps28->Ww,ntmps42->az7,prog->MK
open Go.RowKit renaming Below->MQ,Hid->M6
open Go.RowKit.Below renaming refl->MY
open Go.Sort renaming alloc_eq_grow->PQ,grow->Oj
open Go.Value renaming agg->Ny,bool->M3,func->PB,int->MF,slice->MG,tuple->Nv
open Go.World renaming block_lt_of_cell?->MX,cell?->Nl
open Int renaming toNat_natCast->NR
open List renaming append_nil->OG,filter_append->OY,getD_eq_getElem?_getD->NK,getElem?_eq_getElem->MR,getElem_mem->Nk,length_append->Ns,take_append_of_le_length->ZqA,take_length->NT,take_of_length_le->N1,take_succ_eq_append_getElem->M9
open Nat renaming le_refl->MV,le_trans->Nm,zero_le->Nx
open Option renaming getD_some->OV,none->MH,some->MI
open Or renaming inl->Nt,inr->NF
namespace Go.Proofs.YtmpokpecfclapaaGreatDoor.Q
set_option linter.unusedVariables false
set_option linter.unusedSimpArgs false
set_option maxHeartbeats 16000000
set_option maxRecDepth 100000
open Go.RowKit
attribute [local go_sem ↓] Go.wp_at_zero Go.wp_at_succ
variable {c:Cf}{m s:Int}{l:List Ou}{w:MO}{g:Nat}{V:Pv}{P:Py}
structure ay0(X Y:Gt):Prop where
 fls:Y.fls=X.fls
 tab:Y.tab=X.tab
 tok:Y.tok=X.tok
 cfg:Y.cfg=X.cfg
 out:Y.out=X.out
structure Mv(X Y:Gt)(F:List Fl)(T:List awY)(k:Int)(o:Ou):Prop where
 fls:Y.fls=F
 tab:Y.tab=T
 tok:Y.tok=k
 cfg:Y.cfg=X.cfg
 out:Y.out=X.out++[o]
abbrev ay3(f:Fl)(k y:Int):Prop:=(k=7/\y=0)\/(k=6/\((y=1/\f.srv=Nw)\/y=2\/(f.srv=Nb/\(y=3\/y=4\/y=5))))
structure az2(op:Prop)(R:Gt->Prop):Prop where
 same:∀X Y,ay0 X Y->R X->R Y
 no:∀X Y o,(o.kind=2\/o.kind=8\/o.kind=9\/o.kind=10)->o.why=0->Mv X Y X.fls X.tab X.tok o->R X->R Y
 ends:∀X Y f k y,Bs X->f∈X.fls->ay3 f k y->Mv X Y (X.fls.filter fun x=>x.slot != f.slot) (X.tab.set f.slot.toNat (f.gen+1,Nb,0,0)) X.tok ⟨k,f.slot,f.gen,f.be,0,0,y⟩->R X->R Y
 again:∀X Y i (hi:i<X.fls.length) b d,Bs X->X.fls[i].srv=Nb->X.fls[i].ret+1<=X.cfg.ret->X.cfg.bd<=X.tok->(0<=b/\b<12)->Mv X Y (X.fls.set i {X.fls[i]with be:=b,ret:=X.fls[i].ret+1,due:=d}) (X.tab.set X.fls[i].slot.toNat (X.fls[i].gen,Nw,X.fls[i].key,b)) (X.tok-X.cfg.bd) ⟨5,X.fls[i].slot,X.fls[i].gen,b,0,0,0⟩->R X->R Y
 serves:∀X Y i (hi:i<X.fls.length) d,Bs X->X.fls[i].srv=Nb->Mv X Y (X.fls.set i {X.fls[i]with srv:=Nw,due:=d}) X.tab X.tok ⟨4,X.fls[i].slot,X.fls[i].gen,X.fls[i].be,0,0,0⟩->R X->R Y
 forw:∀X Y i (hi:i<X.fls.length) d,Bs X->Mv X Y (X.fls.set i {X.fls[i]with due:=d}) X.tab X.tok ⟨3,X.fls[i].slot,X.fls[i].gen,X.fls[i].be,0,0,0⟩->R X->R Y
 opens:op->∀X Y (k:Nat) (hk:k<X.tab.length) key b d,Bs X->X.tab[k].2.1=Nb->(0<=X.tab[k].1/\X.tab[k].1<=1048575)->(0<=b/\b<12)->Mv X Y (Xi X.fls ⟨k,X.tab[k].1,key,b,Nb,0,d⟩ (Y3 X.fls k)) (X.tab.set k (X.tab[k].1,Nw,key,b)) (min (X.tok+X.cfg.bn) (X.cfg.bb*X.cfg.bd)) ⟨1,k,X.tab[k].1,b,0,0,0⟩->R X->R Y
section
variable {op:Prop}{R:Gt->Prop}{G:Gt}
theorem az2.drain(h:az2 op R){X:Gt}(hR:R X)(b:Int):R (Yf X b):=by
 unfold Yf
 split
 ·exact h.no X _ _ (NF (NF (Nt rfl))) rfl ⟨rfl,rfl,rfl,rfl,rfl⟩ hR
 ·exact hR
theorem az2.Hc(h:az2 op R){X:Gt}(hb:Bs X){f:Fl}(hf:f∈X.fls){k y:Int}(hy:ay3 f k y)(hR:R X):R (Yg X f k y):=by
 unfold Yg;refine h.drain ?_ _;exact h.ends X _ f k y hb hf hy ⟨hb.GL hf,congrArg Prod.fst (hb.Hj hf),rfl,rfl,rfl⟩ hR
theorem az2.I8(h:az2 op R){X:Gt}(hb:Bs X){i:Nat}(hi:i<X.fls.length)(hs:X.fls[i].srv=Nb){y:Int}(hy:y=3\/y=5)(hR:R X):R (YP X i y):=by
 have a:=Nk hi;have j:=(hb.F9 a).2.2.2;rcases aeI hb hi y with⟨z,q,p⟩|⟨c,q,k,d,n,b,_⟩
 ·rw[q]
  refine az2.Hc h (X:=Yh X X.fls[i].be Nw) (hb.GA j Nw) a (NF ⟨rfl,NF (NF ⟨hs,by omega⟩)⟩) ?_;exact h.same X _ ⟨rfl,rfl,rfl,rfl,rfl⟩ hR
 ·obtain⟨T,e⟩:=ak0 (G:={Yh X X.fls[i].be Nw with tok:=X.tok-X.cfg.bd}) hi c
  rw[q,e];refine h.drain ?_ _;exact h.again X _ i hi c _ hb hs d k b ⟨rfl,congrArg Prod.fst (hb.Ho a b),rfl,rfl,rfl⟩ hR
theorem az2.Mm(h:az2 op R)(hm:Wm G){e:Ev}(he:XZ e)(h7:e.kind=7->G.now+1<=1099511626776)(h1:e.kind=1->op)(hR:R G):R (Xb G e):=by
 have a:=hm.im.bs;have n:∀k,R (Yv G k e):=fun k=>h.no G _ _ (NF (Nt rfl)) rfl ⟨rfl,rfl,rfl,rfl,rfl⟩ hR
 unfold Xb
 split
 ·rename_i k1
  rcases afU a he.key with⟨q,_⟩|⟨q,_⟩|⟨k,t,_,_,r,_,z,v,_,q⟩ <;> rw[q]
  ·exact h.no G _ _ (Nt rfl) rfl ⟨rfl,rfl,rfl,rfl,rfl⟩ hR
  ·exact h.no G _ _ (Nt rfl) rfl ⟨rfl,rfl,rfl,rfl,rfl⟩ hR
  ·exact h.opens (h1 k1) G _ k t _ _ _ a z v r ⟨rfl,rfl,rfl,rfl,rfl⟩ hR
 ·split
  ·exact n 1
  ·split
   ·unfold abg
    split
    ·exact n 2
    ·split
     ·exact h.no (Yv G 2 e) _ _ (NF (NF (Nt rfl))) rfl ⟨rfl,rfl,rfl,rfl,rfl⟩ (n 2)
     ·exact h.drain (X:={Yv G 2 e with wts:=G.wts.set e.be.toNat 0}) (h.same (Yv G 2 e) _ ⟨rfl,rfl,rfl,rfl,rfl⟩ (n 2)) _
   ·split
    ·rename_i k7
     refine alk (R:=R) hm (h7 k7) ?_ (fun X f y hX hf d hR=>h.Hc hX.bs hf (NF ⟨rfl,by rcases d with d|d;exact Nt d;exact NF (Nt d)⟩) hR) (fun X i hX b j hR=>h.I8 hX.bs b j (NF rfl) hR);obtain⟨_,_,D,B,C,u,E,_⟩:=aeS (a.next (h7 k7));exact h.same G _ ⟨D,u,E,B,C⟩ hR
    ·rcases akr a e with⟨r,q⟩|⟨i,b,_,_,_,⟨_,q⟩|⟨_,q⟩|⟨_,_,⟨_,q⟩|⟨j,_,q⟩|⟨j,_,q⟩⟩⟩
     ·rw[q];exact h.no G _ _ (NF (NF (NF rfl))) rfl ⟨rfl,rfl,rfl,rfl,rfl⟩ hR
     ·rw[q];exact h.Hc a (Nk b) (Nt ⟨rfl,rfl⟩) hR
     ·obtain⟨T,p⟩:=aks b
      rw[q,p];refine h.forw G _ i b (if G.fls[i].srv then G.now+G.cfg.idle else G.fls[i].due) a ⟨?_,rfl,rfl,rfl,rfl⟩ hR;show G.fls.set i _=G.fls.set i _
      congr 1
      split <;> rfl
     ·rw[q];exact h.no G _ _ (NF (NF (NF rfl))) rfl ⟨rfl,rfl,rfl,rfl,rfl⟩ hR
     ·obtain⟨T,p⟩:=alb b
      rw[q,p];exact h.serves G _ i b _ a j ⟨rfl,rfl,rfl,rfl,rfl⟩ hR
     ·rw[q];exact h.I8 a b j (Nt rfl) hR
theorem Mv.pre{X Y:Gt}{F:List Fl}{T:List awY}{k:Int}{o:Ou}(h:Mv X Y F T k o)(L:List Ou):Mv {X with out:=L++X.out} {Y with out:=L++Y.out} F T k o :=
 ⟨h.fls,h.tab,h.tok,h.cfg,by show L++Y.out=L++X.out++[o];rw[h.out,List.append_assoc]⟩
theorem az2.pre(h:az2 op R)(L:List Ou):az2 op fun X=>R {X with out:=L++X.out}where
 same:=fun X Y hs hR=>h.same {X with out:=L++X.out} _ ⟨hs.fls,hs.tab,hs.tok,hs.cfg,by show L++Y.out=L++X.out;rw[hs.out]⟩ hR
 no:=fun X Y o ho hy hs hR=>h.no {X with out:=L++X.out} _ o ho hy (hs.pre L) hR
 ends:=fun X Y f k y hb hf hy hs hR=>h.ends {X with out:=L++X.out} _ f k y (hb.Jh _) hf hy (hs.pre L) hR
 again:=fun X Y i hi b d hb h1 h2 h3 h4 hs hR=>h.again {X with out:=L++X.out} _ i hi b d (hb.Jh _) h1 h2 h3 h4 (hs.pre L) hR
 serves:=fun X Y i hi d hb h1 hs hR=>h.serves {X with out:=L++X.out} _ i hi d (hb.Jh _) h1 (hs.pre L) hR
 forw:=fun X Y i hi d hb hs hR=>h.forw {X with out:=L++X.out} _ i hi d (hb.Jh _) (hs.pre L) hR
 opens:=fun ho X Y k hk key b d hb h1 h2 h3 hs hR=>h.opens ho {X with out:=L++X.out} _ k hk key b d (hb.Jh _) h1 h2 h3 (hs.pre L) hR
theorem Rn.flows{A:Gt}(h:Rn A c P)(hF:az2 True R)(h0:R A)(hA:A.out=[]):R {P.last with out:=(P.steps.map (·.out)).flatten}:=by
 refine h.Mw (J:=fun P=>R {P.last with out:=(P.steps.map (·.out)).flatten}) ?_ fun Q e hQ he hl hJ=>?_
 ·exact hF.same A _ ⟨rfl,rfl,rfl,rfl,hA.symm⟩ h0
 ·have b:=hQ.runs.now
  have a:=(hF.pre ((Q.steps.map (·.out)).flatten)).Mm (G:=Q.last) hQ.runs.wm (aeH he) (fun _=>by omega) (fun _=>trivial) (by rw[hQ.runs.out,OG];exact hJ);refine hF.same {Xb Q.last e with out:=(Q.steps.map (·.out)).flatten++(Xb Q.last e).out} _ ⟨rfl,rfl,rfl,rfl,?_⟩ a;show((Q.steps++[(⟨e,Q.last,(Xb Q.last e).Ma,(Xb Q.last e).out⟩:Sp)]).map fun s=>s.out).flatten=(Q.steps.map fun s=>s.out).flatten++(Xb Q.last e).out;simp
end
def ay5(o:Ou):Bool:=Nn (o.kind<1) || decide (10<o.kind) || decide (o.why<0) || decide (5<o.why)
def ay4(l:List Ou):Bool:=l.any ay5
def azc(o:Ou):Bool:=Nn (o.kind=1) || (Nn (3<=o.kind) && Nn (o.kind<=7))
def ay9(s g:Int)(o:Ou):Bool:=azc o && (Nn (o.slot=s) && Nn (o.gen=g))
def azk(l:List Ou)(s g:Int):List Ou:=l.filter (ay9 s g)
def azo(l:List Ou)(s g:Int):List Ou×Int:=if ay4 l then([],5)else(azk l s g,0)
theorem azn{g:Int}{k:Nat}{x:Ou}(h:l.take (k+1)=l.take k++[x]):azk (l.take (k+1)) s g=azk (l.take k) s g++(if ay9 s g x then [x]else []):=by
 rw[h];simp only[azk,OY,List.filter_cons,List.filter_nil]
theorem azm(l:List Ou)(s g:Int):(azk l s g).length<=l.length:=List.length_filter_le _ _
section
variable {X:Gt}
theorem ay7:az2 True fun X=>ay4 X.out=false:=by
 have a:∀(X Y:Gt) (o:Ou),ay4 X.out=Nb->ay5 o=Nb->Y.out=X.out++[o]->ay4 Y.out=false:=fun X Y o h1 h2 h3=>by
  unfold ay4 at h1⊢;rw[h3,List.any_append,h1];simp[h2]
 refine⟨fun X Y hs hR=>by rw[hs.out];exact hR,fun X Y o ho hy hs hR=>a X Y _ hR ?_ hs.out,fun X Y f k y hb hf hy hs hR=>a X Y _ hR ?_ hs.out,fun X Y i hi b d hb h1 h2 h3 h4 hs hR=>a X Y _ hR rfl hs.out,fun X Y i hi d hb h1 hs hR=>a X Y _ hR rfl hs.out,fun X Y i hi d hb hs hR=>a X Y _ hR rfl hs.out,fun _ X Y k hk ky b d hb h1 h2 h3 hs hR=>a X Y _ hR rfl hs.out⟩
 ·unfold ay5
  simp only[az9,decide_eq_false_iff_not];omega
 ·unfold ay5
  simp only[az9,decide_eq_false_iff_not];omega
end
section
variable {A:Gt}{c:Cf}{P:Py}{s:Sp}
theorem Rn.good(h:Rn A c P)(hA:A.out=[]):ay4 (P.steps.map (·.out)).flatten=false:=h.flows ay7 (by rw[hA];rfl) hA
end
section
variable {G:Gt}
theorem ay6(h:Im G):(acG G).out.length<=G.out.length+960:=by
 have a:=(akI G.liv G G.liv.length h (MV _)).2.2;rw[NT]at a;have b:G.liv.length<=12:=h.bs.book.1.1;show(G.liv.foldl Zd G).out.length<=_;omega
theorem azq(h:Wm G)(hn:G.now+1<=1099511626776):(abj G).out.length<=G.out.length+1040:=by
 have e:=h.im.next hn;obtain⟨p,j,q,z,k,_⟩:=aeS e.bs;have n:=e.Jf;have d:=n.I2;have i:(aaC (YH {G with now:=G.now+1})).now=G.now+1:=p;have b:(aaC (YH {G with now:=G.now+1})).wnow=G.now:=j.trans h.wnow;obtain⟨r,_⟩:=d.Je (by rw[b,i]) (fun f a=>by
  have a:f∈(YH {G with now:=G.now+1}).fls:=a;rw[q]at a;rw[b];exact h.due f a)
 have t:=ay6 r;have u:=ao7 d.bs;have v:(aaC (YH {G with now:=G.now+1})).out.length=G.out.length:=congrArg List.length k;show(acG _).out.length<=_;omega
theorem azp(hm:Wm G)(e:Ev)(h7:e.kind=7->G.now+1<=1099511626776):(Xb G e).out.length<=G.out.length+1040:=by
 unfold Xb
 split
 ·unfold aaI
  split
  ·simp[acm,ZM]
  ·simp only[]
   split
   ·simp[acm,ZM]
   ·simp[abv,abi,ZM,YW]
 ·split
  ·simp[Yv,ZM]
  ·split
   ·unfold abg
    split
    ·simp[Yv,ZM]
    ·split
     ·simp[aeQ,Yv,ZM]
     ·refine Nm (aki _) ?_
      simp[Yv,ZM]
   ·split
    ·rename_i h
     exact azq hm (h7 h)
    ·unfold aaq
     simp only[]
     split
     ·simp[acm,ZM]
     ·split
      ·exact Nm (afK _ _ _) (by omega)
      ·split
       ·unfold aaZ
        simp only[]
        split <;> simp[abi,ZM,YW,Y4]
       ·split
        ·simp[acm,ZM]
        ·split
         ·simp[abh,abi,ZM,YW,Y4,Yh]
         ·exact Nm (aoZ _ _) (by omega)
theorem aaB.az5{s:Sp}(h:aaB c s):s.out.length<=1040:=by
 rw[h.out];have:=azp h.wm s.ev h.late;rw[h.out0]at this
 simpa using this
end
structure Ss where
 ph:Nat
 be:Int
 srv:Bool
 ret:Int
variable {x y:Ss}
abbrev azh:Ss:=⟨0,-1,Nb,0⟩
def az3(m:Int)(x:Ss)(o:Ou):Option Ss :=
 if o.kind=1/\x.ph=0/\0<=o.be then MI ⟨1,o.be,Nb,0⟩
 else if o.kind=3/\x.ph=1/\o.be=x.be then MI x
 else if o.kind=4/\x.ph=1/\o.be=x.be/\x.srv=Nb then MI ⟨1,x.be,Nw,x.ret⟩
 else if o.kind=5/\x.ph=1/\0<=o.be/\x.srv=Nb/\x.ret+1<=m then MI ⟨1,o.be,Nb,x.ret+1⟩
 else if o.kind=6/\x.ph=1/\o.be=x.be/\(o.why=1->x.srv=Nw)/\(x.srv=Nw->o.why=1\/o.why=2)then MI ⟨2,x.be,x.srv,x.ret⟩
 else if o.kind=7/\x.ph=1/\o.be=x.be then MI ⟨2,x.be,x.srv,x.ret⟩
 else MH
def azd(m:Int)(l:List Ou):Option Ss:=l.foldl (fun x o=>x.bind fun x=>az3 m x o) (MI azh)
theorem azf(m:Int)(l:List Ou)(o:Ou):azd m (l++[o])=(azd m l).bind fun x=>az3 m x o:=by
 unfold azd;rw[List.foldl_append];rfl
theorem ay8(h:l≠[]):∃l' o,l=l'++[o]:=⟨l.dropLast,l.getLast h,(List.dropLast_concat_getLast h).symm⟩
theorem azg:∀(l:List Ou) (x:Ss),azd m l=MI x->∀k,k<l.length->∃y z,azd m (l.take k)=MI y/\azd m (l.take (k+1))=MI z/\∃hk:k<l.length,az3 m y l[k]=MI z:=by
 intro l;have p:∀(n:Nat) (l:List Ou),l.length=n->∀x,azd m l=MI x->∀k,k<l.length->∃y z,azd m (l.take k)=MI y/\azd m (l.take (k+1))=MI z/\∃hk:k<l.length,az3 m y l[k]=MI z:=by
  intro n
  induction n with
  |zero=>intro l u x _ k hk;omega
  |succ n ih =>
   intro l j x e k hk;obtain⟨d,o,rfl⟩:∃d o,l=d++[o]:=ay8 (by intro h;rw[h]at j;cases j);rw[Ns,List.length_singleton]at j hk;rw[azf]at e;obtain⟨y,i,e⟩:=Option.bind_eq_some_iff.1 e
   by_cases hlt:k<d.length
   ·obtain⟨a,b,t,q,_,r⟩:=ih d (by omega) y i k hlt
    refine⟨a,b,?_,?_,by simp;omega,?_⟩
    ·rw[ZqA (by omega)];exact t
    ·rw[ZqA (by omega)];exact q
    ·rw[List.getElem_append_left hlt];exact r
   ·obtain rfl:k=d.length:=by omega
    refine⟨y,x,?_,?_,by simp,?_⟩
    ·rw[ZqA (MV _),NT];exact i
    ·rw[N1 (by simp),azf,i];exact e
    ·simpa using e
 exact p _ l rfl
section
variable {m:Int}{x:Ss}{o:Ou}
theorem azr(h:o.kind=1)(h1:x.ph=0)(h2:0<=o.be):az3 m x o=MI ⟨1,o.be,Nb,0⟩:=by simp[az3,h,h1,h2]
theorem azs(h:o.kind=3)(h1:x.ph=1)(h2:o.be=x.be):az3 m x o=MI x:=by simp[az3,h,h1,h2]
theorem azt(h:o.kind=4)(h1:x.ph=1)(h2:o.be=x.be)(h3:x.srv=Nb):az3 m x o=MI ⟨1,x.be,Nw,x.ret⟩:=by simp[az3,h,h1,h2,h3]
theorem azu(h:o.kind=5)(h1:x.ph=1)(h2:0<=o.be)(h3:x.srv=Nb)(h4:x.ret+1<=m):az3 m x o=MI ⟨1,o.be,Nb,x.ret+1⟩:=by simp[az3,h,h1,h2,h3,h4]
theorem azv(h:o.kind=6)(h1:x.ph=1)(h2:o.be=x.be)(h3:o.why=1->x.srv=Nw)(h4:x.srv=Nw->o.why=1\/o.why=2):az3 m x o=MI ⟨2,x.be,x.srv,x.ret⟩:=by
 unfold az3;rw[Nf (by omega),Nf (by omega),Nf (by omega),Nf (by omega),Nh ⟨h,h1,h2,h3,h4⟩]
theorem azw(h:o.kind=7)(h1:x.ph=1)(h2:o.be=x.be):az3 m x o=MI ⟨2,x.be,x.srv,x.ret⟩:=by simp[az3,h,h1,h2]
end
theorem azx{o:Ou}(h:az3 m x o=MI y):(o.kind=1/\x.ph=0/\0<=o.be/\y=⟨1,o.be,Nb,0⟩) \/
  (o.kind=3/\x.ph=1/\o.be=x.be/\y=x)\/(o.kind=4/\x.ph=1/\o.be=x.be/\x.srv=Nb/\y=⟨1,x.be,Nw,x.ret⟩) \/
  (o.kind=5/\x.ph=1/\0<=o.be/\x.srv=Nb/\x.ret+1<=m/\y=⟨1,o.be,Nb,x.ret+1⟩) \/
  (o.kind=6/\x.ph=1/\o.be=x.be/\(o.why=1->x.srv=Nw)/\(x.srv=Nw->o.why=1\/o.why=2)/\y=⟨2,x.be,x.srv,x.ret⟩) \/
  (o.kind=7/\x.ph=1/\o.be=x.be/\y=⟨2,x.be,x.srv,x.ret⟩):=by
 unfold az3 at h
 split at h
 ·rename_i q;cases h;exact Nt ⟨q.1,q.2.1,q.2.2,rfl⟩
 ·split at h
  ·rename_i q;cases h;exact NF (Nt ⟨q.1,q.2.1,q.2.2,rfl⟩)
  ·split at h
   ·rename_i q;cases h;exact NF (NF (Nt ⟨q.1,q.2.1,q.2.2.1,q.2.2.2,rfl⟩))
   ·split at h
    ·rename_i q;cases h;exact NF (NF (NF (Nt ⟨q.1,q.2.1,q.2.2.1,q.2.2.2.1,q.2.2.2.2,rfl⟩)))
    ·split at h
     ·rename_i q;cases h;exact NF (NF (NF (NF (Nt ⟨q.1,q.2.1,q.2.2.1,q.2.2.2.1,q.2.2.2.2,rfl⟩))))
     ·split at h
      ·rename_i q;cases h;exact NF (NF (NF (NF (NF ⟨q.1,q.2.1,q.2.2,rfl⟩))))
      ·cases h
def ay1(X:Gt)(s g:Int)(x:Ss):Prop :=
 (∃f∈X.fls,f.slot=s/\f.gen=g/\x=⟨1,f.be,f.srv,f.ret⟩) \/
 ((∀f∈X.fls,f.slot=s->f.gen≠g)/\((x=azh/\aad (X.tab.getD s.toNat aby)<=g)\/x.ph=2/\g<aad (X.tab.getD s.toNat aby)))
def ay2(m s g:Int)(X:Gt):Prop:=X.cfg.ret=m/\∃x,azd m (azk X.out s g)=MI x/\ay1 X s g x
theorem azl(l:List Ou)(o:Ou)(s g:Int):azk (l++[o]) s g=azk l s g++if ay9 s g o then [o]else []:=by
 simp only[azk,OY,List.filter_cons,List.filter_nil]
theorem aza{g:Int}{o:Ou}(hk:o.kind=1\/(3<=o.kind/\o.kind<=7)):ay9 s g o=Nw↔o.slot=s/\o.gen=g:=by
 have:azc o=true:=by unfold azc;simp;omega
 unfold ay9;rw[this];simp
section
variable {m s g:Int}{X Y:Gt}
theorem ay2.Hk(hR:ay2 m s g X){o:Ou}(hcfg:Y.cfg=X.cfg)(ho:Y.out=X.out++[o])(hm:ay9 s g o=Nb)(h:∀x,ay1 X s g x->ay1 Y s g x):ay2 m s g Y:=by
 obtain⟨b,x,d,a⟩:=hR;refine⟨by rw[hcfg];exact b,x,?_,h x a⟩;rw[ho,azl,hm,Nf PE,OG];exact d
theorem ay2.own(hR:ay2 m s g X){o:Ou}(hcfg:Y.cfg=X.cfg)(ho:Y.out=X.out++[o])(hm:ay9 s g o=Nw)(h:∀x,ay1 X s g x->∃y,az3 m x o=MI y/\ay1 Y s g y):ay2 m s g Y:=by
 obtain⟨a,x,b,i⟩:=hR;obtain⟨y,e,d⟩:=h x i;refine⟨by rw[hcfg];exact a,y,?_,d⟩;rw[ho,azl,hm,Nh rfl,azf,b];exact e
theorem ay1.at_(hb:Bs X){f:Fl}(hf:f∈X.fls)(h:ay1 X f.slot f.gen x):x=⟨1,f.be,f.srv,f.ret⟩:=by
 rcases h with⟨k,a,b,_,e⟩|⟨h,_⟩
 ·rw[hb.Ic a hf b]at e;exact e
 ·exact absurd rfl (h f hf rfl)
theorem azb{g:Int}{o:Ou}(h:¬(o.slot=s/\o.gen=g)):ay9 s g o=false:=by
 unfold ay9
 by_cases h1:o.slot=s
 ·have:¬o.gen=g:=fun e=>h ⟨h1,e⟩
  simp[this]
 ·simp[h1]
theorem azi(hb:Bs X){i:Nat}(hi:i<X.fls.length){y:Fl}(hs:y.slot=X.fls[i].slot)(hg:y.gen=X.fls[i].gen)(hf:Y.fls=X.fls.set i y)(hp:aad (Y.tab.getD s.toNat aby)=aad (X.tab.getD s.toNat aby)) :
  (¬(X.fls[i].slot=s/\X.fls[i].gen=g)->∀x,ay1 X s g x->ay1 Y s g x)/\((X.fls[i].slot=s/\X.fls[i].gen=g)->ay1 Y s g ⟨1,y.be,y.srv,y.ret⟩):=by
 have d:∀f,f∈Y.fls↔f=y\/(f∈X.fls/\f.slot≠y.slot):=fun f=>by rw[hf];exact abe hb.Ge hi hs
 refine⟨fun hn x h=>?_,fun h=>Nt ⟨y,(d y).2 (Nt rfl),hs.trans h.1,hg.trans h.2,rfl⟩⟩;rcases h with⟨f,hf,a,b,e⟩|⟨h,j⟩
 ·refine Nt ⟨f,(d f).2 (NF ⟨hf,fun e3=>hn ?_⟩),a,b,e⟩
  have:=hb.Ic hf (Nk hi) (e3.trans hs);rw[<-this];exact⟨a,b⟩
 ·refine NF ⟨fun f hf a b=>?_,by rw[hp];exact j⟩
  rcases(d f).1 hf with rfl|⟨hf,_⟩
  ·exact hn ⟨hs.symm.trans a,hg.symm.trans b⟩
  ·exact h f hf a b
theorem azj(m s g:Int)(hs:0<=s):az2 True (ay2 m s g):=by
 refine⟨fun X Y h hR=>?_,fun X Y o ho C h hR=>?_,fun X Y f k y hb a C h hR=>?_,fun X Y i hi b d hb h1 h2 h3 h4 h hR=>?_,fun X Y i hi d hb h1 h hR=>?_,fun X Y i hi d hb h hR=>?_,fun _ X Y k hk ky b d hb h1 h2 h3 h hR=>?_⟩
 ·unfold ay2 ay1 at hR⊢
  rw[h.out,h.cfg,h.fls,h.tab];exact hR
 ·refine hR.Hk h.cfg h.out ?_ fun x hx=>?_
  ·have:azc o=false:=by unfold azc;simp;omega
   unfold ay9;rw[this];rfl
  ·unfold ay1 at hx⊢
   rw[h.fls,h.tab];exact hx
 ·obtain⟨j,B,D,u⟩:=hb.slot a
  have t:∀z,z∈Y.fls↔z∈X.fls/\z.slot≠f.slot:=fun z=>by rw[h.fls,List.mem_filter];simp
  have I:aad (Y.tab.getD s.toNat aby)=if s.toNat=j then f.gen+1 else aad (X.tab.getD s.toNat aby):=by
   rw[h.tab,D,NR,ahB B,show aad (f.gen+1,Nb,0,0)=f.gen+1 by unfold aad;simp]
  have J:aad (X.tab.getD j aby)=f.gen+1:=by
   rw[NK,MR B,OV,u];rfl
  have F:aad (Y.tab.getD s.toNat aby)=aad (X.tab.getD s.toNat aby):=by
   rw[I]
   split
   ·rename_i e;rw[e,J]
   ·rfl
  by_cases hh:f.slot=s/\f.gen=g
  ·obtain⟨rfl,rfl⟩:=hh
   refine hR.own h.cfg h.out ((aza (by show k=1\/(3<=k/\k<=7);omega)).2 ⟨rfl,rfl⟩) fun x hx=>?_
   rw[hx.at_ hb a];refine⟨⟨2,f.be,f.srv,f.ret⟩,?_,NF ⟨fun z p e3=>absurd e3 ((t z).1 p).2,NF ⟨rfl,?_⟩⟩⟩
   ·rcases C with⟨rfl,rfl⟩|⟨rfl,C⟩
    ·exact azw rfl rfl rfl
    ·refine azv rfl rfl rfl (fun e=>?_) fun e=>?_
     ·have e:y=1:=e
      rcases C with⟨_,q⟩|q|⟨_,q⟩
      ·exact q
      ·omega
      ·omega
     ·have e:f.srv=true:=e
      rcases C with⟨q,_⟩|q|⟨q,_⟩
      ·exact Nt q
      ·exact NF q
      ·rw[q]at e;cases e
   ·rw[F,D,NR,J];omega
  ·refine hR.Hk h.cfg h.out (azb hh) fun x hx=>?_
   rcases hx with⟨z,p,E,n,e⟩|⟨q,n⟩
   ·refine Nt ⟨z,(t z).2 ⟨p,fun e3=>hh ?_⟩,E,n,e⟩
    have:=hb.Ic p a e3;rw[<-this];exact⟨E,n⟩
   ·exact NF ⟨fun z p=>q z ((t z).1 p).1,by rw[F];exact n⟩
 ·have a:=Nk hi
  obtain⟨j,B,D,u⟩:=hb.slot a;have F:aad (Y.tab.getD s.toNat aby)=aad (X.tab.getD s.toNat aby):=by
   rw[h.tab,D,NR,ahB B]
   split
   ·rename_i e
    rw[e,NK,MR B,OV,u];rfl
   ·rfl
  have r:=azi (s:=s) (g:=g) hb hi (y:={X.fls[i]with be:=b,ret:=X.fls[i].ret+1,due:=d}) rfl rfl h.fls F
  by_cases hh:X.fls[i].slot=s/\X.fls[i].gen=g
  ·refine hR.own h.cfg h.out ((aza (NF (by show(3:Int)<=5/\(5:Int)<=7;decide))).2 hh) fun x hx=>⟨_,?_,r.2 hh⟩
   rw[<-hh.1,<-hh.2]at hx;rw[hx.at_ hb a];refine(azu rfl rfl h4.1 h1 (by rw[<-hR.1];exact h2)).trans ?_;show _=MI (⟨1,b,X.fls[i].srv,X.fls[i].ret+1⟩:Ss);rw[h1]
  ·exact hR.Hk h.cfg h.out (azb hh) (r.1 hh)
 ·have a:=Nk hi
  have r:=azi (Y:=Y) (s:=s) (g:=g) hb hi (y:={X.fls[i]with srv:=Nw,due:=d}) rfl rfl h.fls (by rw[h.tab])
  by_cases hh:X.fls[i].slot=s/\X.fls[i].gen=g
  ·refine hR.own h.cfg h.out ((aza (NF (by show(3:Int)<=4/\(4:Int)<=7;decide))).2 hh) fun x hx=>⟨_,?_,r.2 hh⟩
   rw[<-hh.1,<-hh.2]at hx;rw[hx.at_ hb a];exact azt rfl rfl rfl h1
  ·exact hR.Hk h.cfg h.out (azb hh) (r.1 hh)
 ·have a:=Nk hi
  have r:=azi (Y:=Y) (s:=s) (g:=g) hb hi (y:={X.fls[i]with due:=d}) rfl rfl h.fls (by rw[h.tab])
  by_cases hh:X.fls[i].slot=s/\X.fls[i].gen=g
  ·refine hR.own h.cfg h.out ((aza (NF (by show(3:Int)<=3/\(3:Int)<=7;decide))).2 hh) fun x hx=>⟨_,?_,r.2 hh⟩
   rw[<-hh.1,<-hh.2]at hx;rw[hx.at_ hb a];exact azs rfl rfl rfl
  ·exact hR.Hk h.cfg h.out (azb hh) (r.1 hh)
 ·have t:∀z,z∈Y.fls↔z=⟨k,X.tab[k].1,ky,b,Nb,0,d⟩\/z∈X.fls:=fun z=>by rw[h.fls];exact abT
  have K:aad (X.tab.getD k aby)=X.tab[k].1:=by
   rw[NK,MR hk,OV];unfold aad;rw[h1];simp
  have I:aad (Y.tab.getD s.toNat aby)=if s.toNat=k then X.tab[k].1+1 else aad (X.tab.getD s.toNat aby):=by
   rw[h.tab,ahB hk];rfl
  by_cases hh:(k:Int)=s/\X.tab[k].1=g
  ·obtain⟨rfl,rfl⟩:=hh
   refine hR.own h.cfg h.out ((aza (Nt rfl)).2 ⟨rfl,rfl⟩) fun x hx=>?_
   have L:x=azh:=by
    rcases hx with⟨f,a,E,_,_⟩|⟨_,⟨q,_⟩|⟨_,q⟩⟩
    ·obtain⟨j,B,D,u⟩:=hb.slot a
     have:j=k:=by omega
     subst this;rw[u]at h1;cases h1
    ·exact q
    ·rw[NR,K]at q;omega
   rw[L];refine⟨⟨1,b,Nb,0⟩,?_,Nt ⟨_,(t _).2 (Nt rfl),rfl,rfl,rfl⟩⟩;exact azr rfl rfl h3.1
  ·refine hR.Hk h.cfg h.out (azb hh) fun x hx=>?_
   rcases hx with⟨f,a,E,n,e⟩|⟨q,n⟩
   ·exact Nt ⟨f,(t f).2 (NF a),E,n,e⟩
   ·refine NF ⟨fun z p v H=>?_,?_⟩
    ·rcases(t z).1 p with rfl|p
     ·exact hh ⟨v,H⟩
     ·exact q z p v H
    ·rw[I]
     split
     ·rename_i e
      rw[e,K]at n;rcases n with⟨v,H⟩|⟨v,H⟩
      ·refine Nt ⟨v,?_⟩
       have:X.tab[k].1≠g:=fun u=>hh ⟨by omega,u⟩
       omega
      ·exact NF ⟨v,by omega⟩
     ·exact n
end
section
variable {A:Gt}{c:Cf}{P:Py}
theorem azy{o:Ou}(h:az3 m x o=MI y):y.ph≠0:=by
 rcases azx h with⟨_,_,_,e⟩|⟨_,a,_,e⟩|⟨_,_,_,_,e⟩|⟨_,_,_,_,_,e⟩|⟨_,_,_,_,_,e⟩|⟨_,_,_,e⟩ <;> rw[e] <;> simp[*]
theorem aze(h:azd m l=MI x)(hl:l≠[]):x.ph≠0:=by
 obtain⟨a,o,rfl⟩:∃a o,l=a++[o]:=ay8 hl;rw[azf]at h;obtain⟨y,_,h⟩:=Option.bind_eq_some_iff.1 h;exact azy h
theorem Rn.az4(h:Rn A c P)(hA:A.out=[])(hc:A.cfg.ret=c.ret)(hf:A.fls=[])(ht:∀k:Nat,aad (A.tab.getD k aby)=0){x:Int×Int}(hx:x∈P.giv) :
  ∃y,azd c.ret (azk (P.steps.map (·.out)).flatten x.1 x.2)=MI y/\y.ph≠0/\azk (P.steps.map (·.out)).flatten x.1 x.2≠[]/\(y.ph=2↔(Yj P.last.tab x.1 x.2).2≠0):=by
 have u:=h.runs.Mx x hx;have:=h.flows (azj c.ret x.1 x.2 u.1.1) ⟨hc,azh,by rw[hA];rfl,NF ⟨fun f b=>(by rw[hf]at b;cases b),Nt ⟨rfl,by rw[ht];exact u.2.1⟩⟩⟩ hA;obtain⟨_,y,v,z⟩:=this;have r:azk (P.steps.map (·.out)).flatten x.1 x.2≠[]:=by
  rw[h.runs.giv]at hx;obtain⟨l,B,hx⟩:=List.mem_flatten.1 hx;obtain⟨s,C,rfl⟩:=List.mem_map.1 B;unfold Zi at hx;obtain⟨o,d,rfl⟩:=List.mem_map.1 hx;obtain⟨d,n⟩:=List.mem_filter.1 d;have n:o.kind=1:=by simpa using n
  refine List.ne_nil_of_mem (a:=o) (List.mem_filter.2 ⟨List.mem_flatten.2 ⟨_,List.mem_map.2 ⟨s,C,rfl⟩,d⟩,(aza (Nt n)).2 ⟨rfl,rfl⟩⟩)
 have p:=aze v r;refine⟨y,v,p,r,?_⟩;have t:=h.runs.wm.im.bs;rcases z with⟨f,b,j,i,e⟩|⟨q,⟨e,_⟩|⟨e,_⟩⟩
 ·have b:f∈P.last.fls:=b
  rw[e,<-j,<-i,t.IV b];simp
 ·rw[e]at p;exact absurd rfl p
 ·refine⟨fun _ hg0=>?_,fun _=>e⟩
  obtain⟨f,hf,j,i⟩:=t.Jv hg0;exact q f hf j i
end
theorem WU.Gm{base:Nat}(h:WU base w g V c P):w.cell? ⟨g,16,MH⟩=MI (MG V.ps P.steps.length V.cs):=by
 rw[MW w g 16 _ _ (0,0) h.box,h.steps];rfl
structure azA(W:MO)(ps:Option Oc)(k:Nat)(q:Sq)(b o:Nat):Prop where
 at_:ps=MI ⟨b,o,MH⟩
 cells:W.rangeAt b (o+k*61) (abK q)
 rd:aje W q
theorem XQ.step{W:MO}(h:XQ w W g V c P){k:Nat}(hk:k<P.steps.length):∃q b o,azA W V.ps k q b o/\P.steps[k]?=MI q.s/\aaB c q.s:=by
 have B:=h.pat.steps;have i:k<V.qs.length:=by omega
 have n:Xw abK W (MG V.ps V.qs.length V.cs) V.qs:=abw h.pat.rows;obtain⟨a,z,d,_,_,p⟩:=Xw.F6 avt n;injection d with q1 _ _;obtain⟨b,o,r,C,t⟩:=p k i;have e:P.steps[k]?=MI V.qs[k].s:=by rw[<-h.pat.eqs,List.getElem?_map,MR i];rfl
 refine⟨V.qs[k],b,o,⟨q1.trans r,fun j v d=>?_,(h.pat.all _ (Nk i)).now⟩,e,h.rn.runs.chain _ (List.mem_of_getElem? e)⟩;have u:j<61:=(List.getElem?_eq_some_iff.1 d).1;rw[t j u];exact d
theorem azT(f:Nat->Int)(hf:∀i,i<16->(Lit.int ME (f i)).wf=Nw)(ds:List Dd)(hds:∀d∈ds,ajd d){pd:Option Oc}{cd:Nat}(hrow:Xw agP w (MG pd ds.length cd) ds)(hblk:Xo w)(most:Nat)(hm:most<=100):
  ∃L:List M7,L.length=16/\agc (f 0) (f 1) (f 2) (f 3) (f 4) (f 5) (f 6) (f 7) (f 8) (f 9) (f 10) (f 11) (f 12) (f 13) (f 14) (f 15)=Ny L.toArray/\∀W,MQ w.heap.size w W->Ni MK 13 #[Ny L.toArray,MG pd ds.length cd,MF ME (most:Int)] W (au0 f most W):=
 ⟨[MF ME (f 0),MF ME (f 1),MF ME (f 2),MF ME (f 3),MF ME (f 4),MF ME (f 5),MF ME (f 6),MF ME (f 7),MF ME (f 8),MF ME (f 9),MF ME (f 10),MF ME (f 11),MF ME (f 12),MF ME (f 13),MF ME (f 14),MF ME (f 15)],rfl,rfl,fun W hB=>awU f hf ds hds W (hrow.below hB) (hblk.below hB) most hm⟩
theorem WU.az6{base:Nat}(h:WU base w g V c P)(j:Nat):w.cell? ⟨g,j,MH⟩=(adM V c P)[j]?:=by
 rw[MW w g j _ _ (0,0) h.box];simp
def azP(P:Py):List Ou:=(P.steps.map (·.out)).flatten
def azQ(P:Py)(k:Nat):List Ou:=((P.steps.take k).map (·.out)).flatten
theorem azS{k:Nat}{s:Sp}(h:P.steps[k]?=MI s):azQ P (k+1)=azQ P k++s.out:=by
 obtain⟨a,e⟩:=List.getElem?_eq_some_iff.1 h;unfold azQ;rw[M9 a,List.map_append,List.flatten_append,e];simp
theorem azR{c:Cf}{P:Py}(h:∀s∈P.steps,aaB c s):∀k:Nat,(azQ P k).length<=1040*k
 |0=>Nx _
 |k+1=>by
  have a:=azR h k
  by_cases hk:k<P.steps.length
  ·rw[azS (MR hk),Ns]
   have b:=(h _ (Nk hk)).az5;omega
  ·have:azQ P (k+1)=azQ P k:=by unfold azQ;rw[N1 (by omega),N1 (by omega)]
   rw[this];omega
theorem azO{W:MO}(h:XQ w W g V c P)(hl:P.steps.length<=1000):
  Ni MK 18 #[gP g] W fun r w'=>∃p q,r=MN (MG p (azP P).length q)/\Xw Z1 w' (MG p (azP P).length q) (azP P)/\MQ W.heap.size W w':=by
 obtain⟨n,T⟩:∃n,n=P.steps.length:=⟨_,rfl⟩;have d:M6 (_/\_/\_):=⟨h,T,(show n<=1000 by omega)⟩;have a5:n<=9223372036854775807:=by omega
 clear h hl T;go_enter Tryz.func18,Tryz.ntmps18;go_wp2
 go_loopw [3,4] (fun s i wr=>∃(k q:Nat) (p:Option Oc) (j:Nat),s=MG p q j/\i=MF ME (k:Int)/\k<=n/\M6 (q=(azQ P k).length/\wr.ownsRow W.heap.size 67 7 (MG p q j) q (rv Z1 (azQ P k))/\MQ W.heap.size W wr)) (fun _ i _=>n-(intOf i).toNat)
 case atStart=>exact⟨0,0,MH,0,rfl,rfl,Nx _,rfl,⟨rfl,Nt ⟨rfl,rfl⟩⟩,MY _ _⟩
 case round =>
  obtain⟨k,q,p,j,rfl,rfl,hk,a⟩:=hrel;have t:=d.out.1.on a.out.2.2;have U:wr.cell? ⟨g,16,MH⟩=MI (MG V.ps n V.cs):=by rw[d.out.2.1];exact t.pat.Gm
  have a2:=t.pat.lt
  by_cases hlt:k<n
  ·have a0:(k:Int)<(n:Int):=by omega
   obtain⟨x,b,o,hx,E,Z⟩:=t.step (k:=k) (by rw[<-d.out.2.1];exact hlt);have M:wr.cell? ⟨b,o+k*61+60,MH⟩=MI (MG x.po x.s.out.length x.co):=hx.cells 60 _ rfl;have a4:b<wr.heap.size:=MX wr ⟨b,_,MH⟩ M;have B:(azQ P (k+1)).length=q+x.s.out.length:=by rw[azS E,Ns,<-a.out.1]
   have L:=azR d.out.1.rn.runs.chain (k+1);rw[B]at L;have a1:k+1<=1000:=by have:=d.out.2.2;omega
   obtain⟨S,O,w5,F,z,K⟩:=ajY akV aqd (by decide) Tryz.underlying62 apw rfl a.out.2.1 a.out.2.2.size 62 _ x.s.out hx.rd.2.2 (by omega) (by unfold NE;omega);rw[<-azS E]at z;obtain⟨u,N⟩:∃u,u=x.s.out.length:=⟨_,rfl⟩;rw[<-N]at F z B M;rw[hx.at_]at U;have C:M6 (_/\_/\_/\_):=⟨F,z,a.out.2.2.trans K,B⟩;clear B N F z K hx E Z t L
   go_wp2_with (at_builtin;(with_reducible refine Z4 rfl _ _ 62 rfl (MG p q j) (MG x.po u x.co) (MG S (q+u) O) w5 ?hs ?hx ?hr ?_);(case hs=>rfl);(case hx=>rfl);(case hr=>exact C.out.1))
   go_wp2
   go_roundw
   case rel=>exact⟨k+1,q+u,S,O,rfl,by simp,hlt,C.out.2.2.2.symm,C.out.2.1,C.out.2.2.1⟩
   case measure=>simp[intOf];omega
  ·obtain rfl:k=n:=by omega
   have a0:¬(k:Int)<(k:Int):=by omega
   have D:=a.out.1;have I:=a.out.2.1;have Q:azQ P k=azP P:=by unfold azQ azP;rw[d.out.2.1,NT]
   rw[Q]at D I;have J:=abw (c:=Z1) (l:=azP P) (k:=7) (v:=MG p q j) (w:=wr) (base:=W.heap.size) (e:=67) (by rw[<-D];exact I);have H:M6 (_/\_):=⟨J,D⟩;clear D I Q J t;go_wp2;go_ret;exact⟨p,j,by rw[<-H.out.2];rfl,by rw[<-H.out.2];exact H.out.1,a.out.2.2⟩
abbrev azK(o:Ou):Value:=Ny #[MF ME o.kind,MF ME o.slot,MF ME o.gen,MF ME o.be,MF ME o.req,MF ME o.code,MF ME o.why]
abbrev azz(w:MO)(v:M7)(l:List Ou):Prop:=Xw Z1 w v l
theorem azz.F6{v:M7}(h:azz w v l):
  ∃a cap,v=MG a l.length cap/\l.length<=cap/\cap<=NE/\∀i (hi:i<l.length),∃b off,a=MI ⟨b,off,MH⟩/\b<w.heap.size/\w.cell? ⟨b,off+i*7,MH⟩=MI (MF ME l[i].kind)/\w.cell? ⟨b,off+i*7+1,MH⟩=MI (MF ME l[i].slot)/\w.cell? ⟨b,off+i*7+2,MH⟩=MI (MF ME l[i].gen)/\w.cell? ⟨b,off+i*7+3,MH⟩=MI (MF ME l[i].be)/\w.cell? ⟨b,off+i*7+4,MH⟩=MI (MF ME l[i].req)/\w.cell? ⟨b,off+i*7+5,MH⟩=MI (MF ME l[i].code)/\w.cell? ⟨b,off+i*7+6,MH⟩=MI (MF ME l[i].why):=by
 obtain⟨a,cap,q,e,p,k⟩:=Xw.F6 akV h;refine⟨a,cap,q,e,p,fun i hi=>?_⟩;obtain⟨b,off,j,n,d⟩:=k i hi;exact⟨b,off,j,n,(d 0 (by omega)).trans rfl,(d 1 (by omega)).trans rfl,(d 2 (by omega)).trans rfl,(d 3 (by omega)).trans rfl,(d 4 (by omega)).trans rfl,(d 5 (by omega)).trans rfl,(d 6 (by omega)).trans rfl⟩
theorem azX{α:Type}{l:List α}{k:Nat}(h:k<l.length){x:α}(hx:x=l[k]):l.take (k+1)=l.take k++[x]:=by
 rw[M9 h,hx]
theorem azD(f:Ou)(w:MO) :
  Ni MK 42 #[azK f] w fun r w'=>r=MN (M3 (ay5 f))/\MQ w.heap.size w w':=by
 have a:ay5 f=(Nn (f.kind<1) || decide (10<f.kind) || decide (f.why<0) || decide (5<f.why)):=rfl;rw[a];clear a;cases t0:Nn (f.kind<1)
 ·cases t1:Nn (10<f.kind)
  ·cases t2:Nn (f.why<0)
   ·cases t3:Nn (5<f.why)
    ·go_enter az8,az7
     go_wp2;go_ret;exact⟨by rfl,WQ w⟩
    ·go_enter az8,az7
     go_wp2;go_ret;exact⟨by rfl,WQ w⟩
   ·go_enter az8,az7
    go_wp2;go_ret;exact⟨by rfl,WQ w⟩
  ·go_enter az8,az7
   go_wp2;go_ret;exact⟨by rfl,WQ w⟩
 ·go_enter az8,az7
  go_wp2;go_ret;exact⟨by rfl,WQ w⟩
theorem azI(v:M7)(l:List Ou)(w:MO)(hv:azz w v l) :
  Ni MK 62 #[v,PB (Fn.func 42) #[] #[]] w fun r w'=>r=MN (MF ME (X6 (l.findIdx (ay5)) l.length))/\MQ w.heap.size w w':=by
 obtain⟨q,F⟩:∃q:Ou->Bool,q=(ay5):=⟨_,rfl⟩;obtain⟨a,ca,rfl,a0,Q,M⟩:=azz.F6 hv;unfold NE at Q;have N:M6 (∀(x:Ou) (W:MO),MQ w.heap.size w W->Ni MK 42 #[azK x] W fun r w'=>r=MN (M3 (q x))/\MQ W.heap.size W w'):=by
  rw[F];exact fun x W hb=>azD x W
 rw[<-F];obtain⟨z,E⟩:∃z,z=X6 (l.findIdx q) l.length:=⟨_,rfl⟩;rw[<-E];have H:M6 _:=E;clear hv E F;go_enter Tryz.func62,Tryz.ntmps62;go_wp2
 go_loopw [8] (fun i wr=>∃k:Nat,i=MF ME k/\k<=l.length/\(∀t∈l.take k,q t=Nb)/\MQ w.heap.size w wr) (fun i _=>l.length-(intOf i).toNat)
 case atStart=>exact⟨0,rfl,Nx _,by simp,MY _ _⟩
 case round =>
  obtain⟨k,rfl,hk,B,b⟩:=hrel
  by_cases hlt:k<l.length
  ·obtain⟨j,u,rfl,e,c1,c2,c3,c4,c5,c6,c7⟩:=M k hlt
   have e1:=(b.cell (p:=⟨j,u+k*7,MH⟩) e).trans c1;have S:=(b.cell (p:=⟨j,u+k*7+1,MH⟩) e).trans c2;have e3:=(b.cell (p:=⟨j,u+k*7+2,MH⟩) e).trans c3;have e4:=(b.cell (p:=⟨j,u+k*7+3,MH⟩) e).trans c4;have T:=(b.cell (p:=⟨j,u+k*7+4,MH⟩) e).trans c5;have e6:=(b.cell (p:=⟨j,u+k*7+5,MH⟩) e).trans c6;have e7:=(b.cell (p:=⟨j,u+k*7+6,MH⟩) e).trans c7;have n:M6 (_/\_):=⟨B,b⟩;have a1:(k:Int)<(l.length:Int):=by omega
   have I:l.take (k+1)=l.take k++[l[k]]:=M9 hlt;have J:q l[k]=Nw->l.findIdx q=k:=fun h=>abZ hlt B h
   have D:∃x,x=l[k]:=⟨_,rfl⟩;obtain⟨x,D⟩:=D;rw[<-D]at e1 S e3 e4 T e6 e7 I J;have O:M6 (_/\_):=⟨I,J⟩;clear B b c1 c2 c3 c4 c5 c6 c7 e M I J D;cases hd:q x
   ·go_wp2_with fail
    refine(N.out x _ n.out.2).mono ?_;rw[hd];rintro r U ⟨rfl,C⟩;have K:M6 _:=C;clear C;go_wp2
    go_roundw
    case rel =>
     refine⟨k+1,by simp,hlt,fun t d=>?_,n.out.2.trans (K.out.mono n.out.2.size)⟩;rw[O.out.1]at d;rcases List.mem_append.1 d with d|d
     ·exact n.out.1 t d
     ·simp at d
      rw[d];exact hd
    case measure=>simp[intOf];omega
   ·go_wp2_with fail
    refine(N.out x _ n.out.2).mono ?_;rw[hd];rintro r U ⟨rfl,C⟩;have L:M6 (z=(k:Int)):=by show z=_;rw[H.out,O.out.2 hd];exact Nh hlt
    have K:M6 _:=C;clear C;go_wp2;go_ret;exact⟨by rw[L.out];rfl,n.out.2.trans (K.out.mono n.out.2.size)⟩
  ·have L:M6 (z = -1):=by
    show z=_;rw[H.out,acp fun t d=>B t (by rw[N1 (by omega)];exact d)];exact Nf (Nat.lt_irrefl _)
   have Z:M6 _:=b;clear B b M;go_wp2;go_ret;exact⟨by rw[L.out];rfl,Z.out⟩
theorem azE(v:M7)(l:List Ou)(w:MO)(hv:azz w v l) :
  Ni MK 43 #[v,PB (Fn.func 42) #[] #[]] w fun r w'=>r=MN (M3 (l.any (ay5)))/\MQ w.heap.size w w':=by
 rw[<-ahq];have b:M6 _:=azI v l w hv;obtain⟨e,a⟩:∃e,e=X6 (l.findIdx (ay5)) l.length:=⟨_,rfl⟩;rw[<-a]at b⊢;clear a hv;go_enter Tryz.func43,Tryz.ntmps43
 go_wp2_with fail
 refine Nd b.out ?_;rintro r j ⟨rfl,d⟩;have i:M6 _:=d;clear d;go_wp2;go_ret;exact⟨rfl,i.out⟩
theorem azC(v:M7)(l:List Ou)(w:MO)(hv:azz w v l) :
  Ni MK 28 #[v] w fun r w'=>r=MN (MF ME (if ay4 l then 5 else 0))/\MQ w.heap.size w w':=by
 have a:M6 _:=azE v l w hv;have e:l.any ay5=ay4 l:=rfl;rw[e]at a;clear e hv;cases h:ay4 l
 ·rw[h]at a
  go_enter WF,Ww
  go_wp2_with fail
  refine Nd a.out ?_;rintro r i ⟨rfl,b⟩;have d:M6 _:=b;clear b;go_wp2;go_ret;exact⟨rfl,d.out⟩
 ·rw[h]at a
  go_enter WF,Ww
  go_wp2_with fail
  refine Nd a.out ?_;rintro r i ⟨rfl,b⟩;have d:M6 _:=b;clear b;go_wp2;go_ret;exact⟨rfl,d.out⟩
section
open Go.Sort (grow grow_empty grow_grow alloc_eq_grow cell?_grow heap_grow_old)
abbrev azL(o:Ou):Obj:=MP #[MF ME o.kind,MF ME o.slot,MF ME o.gen,MF ME o.be,MF ME o.req,MF ME o.code,MF ME o.why] 67
theorem azM{o:Ou}(h:w.heap[g]?=MI (azL o)):w.cell? ⟨g,0,MH⟩=MI (MF ME o.kind)/\w.cell? ⟨g,1,MH⟩=MI (MF ME o.slot)/\w.cell? ⟨g,2,MH⟩=MI (MF ME o.gen)/\w.cell? ⟨g,3,MH⟩=MI (MF ME o.be)/\w.cell? ⟨g,4,MH⟩=MI (MF ME o.req)/\w.cell? ⟨g,5,MH⟩=MI (MF ME o.code)/\w.cell? ⟨g,6,MH⟩=MI (MF ME o.why)/\g<w.heap.size :=
 ⟨by simp[Nl,h],by simp[Nl,h],by simp[Nl,h],by simp[Nl,h],by simp[Nl,h],by simp[Nl,h],by simp[Nl,h],(Array.getElem?_eq_some_iff.1 h).1⟩
theorem azN{o:Ou}(h:w.heap[g]?=MI (azL o)):(∀n os,(Oj (w.drewN n) os).cell? ⟨g,0,MH⟩=MI (MF ME o.kind))/\(∀n os,(Oj (w.drewN n) os).cell? ⟨g,1,MH⟩=MI (MF ME o.slot))/\(∀n os,(Oj (w.drewN n) os).cell? ⟨g,2,MH⟩=MI (MF ME o.gen))/\(∀n os,(Oj (w.drewN n) os).cell? ⟨g,3,MH⟩=MI (MF ME o.be))/\(∀n os,(Oj (w.drewN n) os).cell? ⟨g,4,MH⟩=MI (MF ME o.req))/\(∀n os,(Oj (w.drewN n) os).cell? ⟨g,5,MH⟩=MI (MF ME o.code))/\(∀n os,(Oj (w.drewN n) os).cell? ⟨g,6,MH⟩=MI (MF ME o.why)):=
 have q:=azM h
 ⟨Ob (a:=⟨g,0,MH⟩) q.2.2.2.2.2.2.2 q.1,Ob (a:=⟨g,1,MH⟩) q.2.2.2.2.2.2.2 q.2.1,Ob (a:=⟨g,2,MH⟩) q.2.2.2.2.2.2.2 q.2.2.1,Ob (a:=⟨g,3,MH⟩) q.2.2.2.2.2.2.2 q.2.2.2.1,Ob (a:=⟨g,4,MH⟩) q.2.2.2.2.2.2.2 q.2.2.2.2.1,Ob (a:=⟨g,5,MH⟩) q.2.2.2.2.2.2.2 q.2.2.2.2.2.1,Ob (a:=⟨g,6,MH⟩) q.2.2.2.2.2.2.2 q.2.2.2.2.2.2.1⟩
theorem az1{a b:M7}{T:TypeId}(h:w.heap[g]?=MI (MP #[a,b] T (0,0))):(∀n os,(Oj (w.drewN n) os).cell? ⟨g,0,MH⟩=MI a)/\(∀n os,(Oj (w.drewN n) os).cell? ⟨g,1,MH⟩=MI b):=
 have q:=Xa h
 ⟨Ob (a:=⟨g,0,MH⟩) q.2.2.2.2 q.1,Ob (a:=⟨g,1,MH⟩) q.2.2.2.2 q.2.1⟩
theorem azJ(o:Ou)(w:MO) :
  Ni MK 29 #[azK o] w fun r w'=>r=MN (M3 (azc o))/\∃q os,w'=Oj (w.drewN q) os:=by
 obtain⟨kd,sl,b,d,rq,cd,wy⟩:=o;have a:azc ⟨kd,sl,b,d,rq,cd,wy⟩=(Nn (kd=1) || (Nn (3<=kd) && Nn (kd<=7))):=rfl;have i:(kd=1\/kd=3\/kd=4\/kd=5\/kd=6\/kd=7)\/(¬kd=1/\¬kd=3/\¬kd=4/\¬kd=5/\¬kd=6/\¬kd=7):=by omega
 rcases i with h|⟨u,t,p,n,k,j⟩
 ·have e:azc ⟨kd,sl,b,d,rq,cd,wy⟩=true:=by rw[a];simp;omega
  rw[e];clear e a;rcases h with rfl|rfl|rfl|rfl|rfl|rfl
  all_goals
   go_enter Tryz.func29,Tryz.ntmps29;go_wp2;go_ret;exact⟨rfl,0,#[_],PQ _ _⟩
 ·have e:azc ⟨kd,sl,b,d,rq,cd,wy⟩=false:=by rw[a];simp;omega
  rw[e];clear e a;go_enter Tryz.func29,Tryz.ntmps29;go_wp2;go_ret;exact⟨rfl,0,#[_],PQ _ _⟩
theorem azH(o:Ou)(w:MO) :
  Ni MK 30 #[azK o] w fun r w'=>r=MN (Ny #[MF ME o.slot,MF ME o.gen])/\∃q os,w'=Oj (w.drewN q) os:=by
 go_enter Tryz.func30,Tryz.ntmps30;go_wp2;refine bodyPost_ret (v:=Ny #[MF ME o.slot,MF ME o.gen]) (Z2 Tryz.results30 rfl (Xp (cs:=[MF ME o.slot,MF ME o.gen]) (Yu _ _ _) Tryz.underlying75 rfl (by kernel_rfl))) rfl ⟨rfl,0,#[azL o,MP #[MF ME o.slot,MF ME o.gen] 75],?_⟩;rw[PQ,PQ,grow_grow];rfl
def azB(O:List Ou×Int)(w:MO)(r:Ending)(w':MO):Prop:=∃p c,r=MN (Nv #[MG p O.1.length c,MF ME O.2])/\azz w' (MG p O.1.length c) O.1/\MQ w.heap.size w w'
theorem azW(v:M7)(l:List Ou)(s g:Int)(w:MO)(hv:azz w v l)(hl:l.length*56<=140737488355328) :
  Ni MK 19 #[v,Ny #[MF ME s,MF ME g]] w (azB (azo l s g) w):=by
 obtain⟨p,c,rfl,hc,hm,pv⟩:=azz.F6 hv;unfold NE at hm;obtain⟨W0,a6⟩:∃W0,W0=w.alloc (MP #[MF ME s,MF ME g] 75):=⟨_,rfl⟩;have b2:MQ w.heap.size w W0:=by rw[a6];exact WQ w
 have c8:W0.heap[w.heap.size]?=MI (MP #[MF ME s,MF ME g] 75 (0,0)):=by rw[a6];exact M1 _ _
 have K:M6 (_/\_/\_/\_/\_/\_):=⟨hv,pv,b2,c8,a6,hl⟩;clear hv pv b2 c8 a6 hl;go_enter Tryz.func19,Tryz.ntmps19
 go_wp2_with fail
 rw[<-K.out.2.2.2.2.1];refine(azC _ l _ (K.out.1.below K.out.2.2.1)).mono ?_;rintro r w1 ⟨rfl,H⟩;have a5:=K.out.2.2.1.trans (H.mono K.out.2.2.1.size);have a8:=WO K.out.2.2.2.1 H;cases hbad:ay4 l
 ·rw[Nf PE]
  have a0:azo l s g=(azk l s g,0):=by unfold azo;rw[hbad];rfl
  have E:M6 (_/\_/\_):=⟨a8,a5,a0⟩;clear a8 a5 H hbad a0;go_wp2
  go_loopw [7,17] (fun o i wr=>∃(k n D:Nat) (L:Option Oc),i=MF ME k/\o=MG L n D/\k<=l.length/\M6 (n=(azk (l.take k) s g).length)/\MQ w1.heap.size w1 wr/\wr.ownsRow w1.heap.size 67 7 (MG L n D) n (rv Z1 (azk (l.take k) s g))) (fun _ i _=>l.length-(intOf i).toNat)
  case atStart=>exact⟨0,0,0,MH,rfl,rfl,Nx _,rfl,MY _ _,World.ownsRow_nil _ _ _ _⟩
  case round =>
   obtain⟨k,n,D,L,rfl,rfl,hk,hn,hb,ho⟩:=hrel
   by_cases hlt:k<l.length
   ·obtain⟨O,off,rfl,F,c1,c2,c3,c4,c5,c6,c7⟩:=K.out.2.1 k hlt
    have I:=E.out.2.1.trans (hb.mono E.out.2.1.size);have e1:=(I.cell (p:=⟨O,off+k*7,MH⟩) F).trans c1;have U:=(I.cell (p:=⟨O,off+k*7+1,MH⟩) F).trans c2;have e3:=(I.cell (p:=⟨O,off+k*7+2,MH⟩) F).trans c3;have S:=(I.cell (p:=⟨O,off+k*7+3,MH⟩) F).trans c4;have Z:=(I.cell (p:=⟨O,off+k*7+4,MH⟩) F).trans c5;have e6:=(I.cell (p:=⟨O,off+k*7+5,MH⟩) F).trans c6;have e7:=(I.cell (p:=⟨O,off+k*7+6,MH⟩) F).trans c7;obtain⟨⟨kd,sl,t,u,rq,cd,wy⟩,hx⟩:∃x,x=l[k]:=⟨_,rfl⟩;have b6:=azn (s:=s) (g:=g) (azX hlt hx);rw[<-hx]at e1 U e3 S Z e6 e7
    dsimp only at e1 U e3 S Z e6 e7
    have d0:(k:Int)<(l.length:Int):=by omega
    obtain⟨d,a2⟩:∃d,d=wr.alloc (azL ⟨kd,sl,t,u,rq,cd,wy⟩):=⟨_,rfl⟩;have a9:MQ wr.heap.size wr d:=by rw[a2];exact WQ wr
    have hX:d.heap[wr.heap.size]?=MI (azL ⟨kd,sl,t,u,rq,cd,wy⟩):=by rw[a2];exact M1 _ _
    have H:=hb.trans (a9.mono hb.size);have b8:=WO E.out.1 H;obtain⟨q0,q1⟩:=az1 b8;obtain⟨k0,k1,k2,k3,k4,k5,k6⟩:=azN hX;have T:M6 (∀n os,Ni MK 29 #[azK ⟨kd,sl,t,u,rq,cd,wy⟩] (Oj (d.drewN n) os) fun r w'=>r=MN (M3 (azc ⟨kd,sl,t,u,rq,cd,wy⟩))/\∃q os',w'=Oj ((Oj (d.drewN n) os).drewN q) os'):=fun n os=>azJ ⟨kd,sl,t,u,rq,cd,wy⟩ _
    have HH:M6 (∀n os,Ni MK 30 #[azK ⟨kd,sl,t,u,rq,cd,wy⟩] (Oj (d.drewN n) os) fun r w'=>r=MN (Ny #[MF ME sl,MF ME t])/\∃q os',w'=Oj ((Oj (d.drewN n) os).drewN q) os'):=fun n os=>azH ⟨kd,sl,t,u,rq,cd,wy⟩ _
    have c0:n+1<=l.length:=by
     rw[hn.out];have:=azm (l.take k) s g;rw[List.length_take]at this;omega
    have a:M6 (_/\_/\_/\_/\_/\_/\_):=⟨H,YI ho a9,b6,hX,a2,c0,hn.out⟩;clear hb ho b6 hX a2 c0 hn a9 H I c1 c2 c3 c4 c5 c6 c7 F hx b8;cases hf:azc ⟨kd,sl,t,u,rq,cd,wy⟩
    ·have J:ay9 s g ⟨kd,sl,t,u,rq,cd,wy⟩=false:=by unfold ay9;rw[hf];rfl
     rw[hf]at T;have Q:M6 _:=J;clear J hf
     go_wp2_with fail
     rw[<-a.out.2.2.2.2.1];refine NQ XY (by kernel_rfl) ?_
     repeat (first|go_big_quiet_skip|quiet_step (first|(go_at_call 29;exact NZ (T.out _ _))|(go_at_call 30;exact Calls.grown_of (HH.out _ _))))
     refine Oy ?_;intro _ N;obtain⟨⟨C,B⟩,M⟩:=N;subst M;have b:=ae3 d C B;have z:M6 (_/\_):=⟨a.out.1.trans (b.mono a.out.1.size),YI a.out.2.1 b⟩;clear b;generalize Oj (d.drewN C) B=w3 at z⊢;clear k0 k1 k2 k3 k4 k5 k6 q0 q1 e1 U e3 S Z e6 e7;go_wp2
     go_roundw
     case rel =>
      have hs:=a.out.2.2.1;rw[Q.out,Nf PE,OG]at hs;exact⟨k+1,n,D,L,by simp,rfl,hlt,by show n=_;rw[hs];exact a.out.2.2.2.2.2.2,z.out.1,by rw[hs];exact z.out.2⟩
     case measure=>simp[intOf];omega
    ·rw[hf]at T
     by_cases hm2:sl=s/\t=g
     ·obtain⟨hs,hg⟩:=hm2
      have J:ay9 s g ⟨kd,sl,t,u,rq,cd,wy⟩=true:=by unfold ay9;rw[hf];simp[hs,hg]
      have Q:M6 _:=J;clear J hf;subst hs hg
      go_wp2_with fail
      rw[<-a.out.2.2.2.2.1];refine NQ XY (by kernel_rfl) ?_
      repeat (first|go_big_quiet_skip|quiet_step (first|(go_at_call 29;exact NZ (T.out _ _))|(go_at_call 30;exact NZ (HH.out _ _))))
      refine Oy ?_;intro _ N;obtain⟨⟨C,B⟩,M⟩:=N;subst M;have b:=ae3 d C B;have a7:=WO a.out.2.2.2.1 b;have a1:=a.out.1.trans (b.mono a.out.1.size);have a4:=YI a.out.2.1 b;generalize Oj (d.drewN C) B=w3 at a7 a1 a4⊢;clear k0 k1 k2 k3 k4 k5 k6 q0 q1 e1 U e3 S Z e6 e7 b;obtain⟨k0,k1,k2,k3,k4,k5,k6,d1⟩:=azM a7;obtain⟨g2,c2,w4,hr,b5,b9,c9⟩:=afC akV aqd (by decide) Tryz.underlying62 apw rfl a4 a1.size 62 (⟨kd,sl,t,u,rq,cd,wy⟩:Ou) #[MF ME kd,MF ME sl,MF ME t,MF ME u,MF ME rq,MF ME cd,MF ME wy] rfl (by have:=K.out.2.2.2.2.2;have:=a.out.2.2.2.2.2.1;omega) (by have:=a.out.2.2.2.2.2.1;unfold NE;omega);have b7:MQ w1.heap.size w1 w4:=a1.grown b9 a1.size (fun j hj=>(a4.lt j hj).1);have H4:M6 (_/\_/\_):=⟨hr,b5,b7⟩;clear hr b5 b7 b9 c9 a1 a4 a7
      go_wp2_with (at_builtin;(with_reducible refine Z4 rfl _ _ 62 rfl (MG L n D) (MG (MI ⟨w3.heap.size,0,MH⟩) 1 1) (MG (MI ⟨g2,0,MH⟩) (n+1) c2) w4 ?hs ?hx ?hr ?_);(case hs=>rfl);(case hx=>rfl);(case hr=>exact H4.out.1))
      go_roundw
      case rel =>
       have hs:=a.out.2.2.1;rw[Q.out,Nh rfl]at hs;exact⟨k+1,n+1,c2,MI ⟨g2,0,MH⟩,by simp,rfl,hlt,by show n+1=_;rw[hs,a.out.2.2.2.2.2.2];simp,H4.out.2.2,by rw[hs];exact H4.out.2.1⟩
      case measure=>simp[intOf];omega
     ·have J:ay9 s g ⟨kd,sl,t,u,rq,cd,wy⟩=false:=by unfold ay9;rw[hf];simp;omega
      have Q:M6 _:=J;clear J hf
      by_cases hs:sl=s
      ·have hg:¬t=g:=fun e=>hm2 ⟨hs,e⟩
       clear hm2;subst hs
       go_wp2_with fail
       rw[<-a.out.2.2.2.2.1];refine NQ XY (by kernel_rfl) ?_
       repeat (first|go_big_quiet_skip|quiet_step (first|(go_at_call 29;exact NZ (T.out _ _))|(go_at_call 30;exact NZ (HH.out _ _))))
       refine Oy ?_;intro _ N;obtain⟨⟨C,B⟩,M⟩:=N;subst M;have b:=ae3 d C B;have z:M6 (_/\_):=⟨a.out.1.trans (b.mono a.out.1.size),YI a.out.2.1 b⟩;clear b;generalize Oj (d.drewN C) B=w3 at z⊢;clear k0 k1 k2 k3 k4 k5 k6 q0 q1 e1 U e3 S Z e6 e7;go_wp2
       go_roundw
       case rel =>
        have hs:=a.out.2.2.1;rw[Q.out,Nf PE,OG]at hs;exact⟨k+1,n,D,L,by simp,rfl,hlt,by show n=_;rw[hs];exact a.out.2.2.2.2.2.2,z.out.1,by rw[hs];exact z.out.2⟩
       case measure=>simp[intOf];omega
      ·clear hm2
       go_wp2_with fail
       rw[<-a.out.2.2.2.2.1];refine NQ XY (by kernel_rfl) ?_
       repeat (first|go_big_quiet_skip|quiet_step (first|(go_at_call 29;exact NZ (T.out _ _))|(go_at_call 30;exact NZ (HH.out _ _))))
       refine Oy ?_;intro _ N;obtain⟨⟨C,B⟩,M⟩:=N;subst M;have b:=ae3 d C B;have z:M6 (_/\_):=⟨a.out.1.trans (b.mono a.out.1.size),YI a.out.2.1 b⟩;clear b;generalize Oj (d.drewN C) B=w3 at z⊢;clear k0 k1 k2 k3 k4 k5 k6 q0 q1 e1 U e3 S Z e6 e7;go_wp2
       go_roundw
       case rel =>
        have hs:=a.out.2.2.1;rw[Q.out,Nf PE,OG]at hs;exact⟨k+1,n,D,L,by simp,rfl,hlt,by show n=_;rw[hs];exact a.out.2.2.2.2.2.2,z.out.1,by rw[hs];exact z.out.2⟩
       case measure=>simp[intOf];omega
   ·obtain rfl:k=l.length:=by omega
    rw[NT]at ho hn;have H2:M6 (_/\_/\_):=⟨ho,hb,hn.out⟩;clear ho hb hn;go_wp2
    go_ret2
    rw[E.out.2.2];refine⟨L,D,?_,?_,E.out.2.1.trans (H2.out.2.1.mono E.out.2.1.size)⟩
    ·show _=MN (Nv #[MG _ (azk l s g).length D,MF ME 0])
     rw[<-H2.out.2.2];rfl
    ·show XB _ (MG _ (azk l s g).length D) (azk l s g).length _
     rw[<-H2.out.2.2];exact Yr H2.out.1
 ·rw[Nh rfl]
  have a0:azo l s g=([],5):=by unfold azo;rw[hbad];rfl
  have E:M6 (_/\_):=⟨a5,a0⟩;clear a8 a5 H hbad a0;go_wp2
  go_ret2
  rw[E.out.2];exact⟨MH,0,rfl,ak3 _,E.out.1⟩
theorem azV{g:Int}(h:ay4 l=Nb):azo l s g=(azk l s g,0):=by unfold azo;rw[h];rfl
end
theorem azG(c:Cf)(k:Nat):aad ((Yb c).tab.getD k aby)=0:=by
 show aad ((List.replicate c.flows.toNat (0,Nb,0,0)).getD k aby)=0;rw[NK,List.getElem?_replicate]
 split <;> rfl
theorem azU(h:Rn (Yb c) c P){x:Int×Int}(hx:x∈P.giv):∃y,azd c.ret (azk (azP P) x.1 x.2)=MI y/\y.ph≠0/\azk (azP P) x.1 x.2≠[]/\(y.ph=2↔(Yj P.last.tab x.1 x.2).2≠0):=
 h.az4 rfl rfl rfl (azG c) hx
theorem azZ{z:Ss}{o:Ou}(h:az3 m y o=MI z)(h0:y.ph≠0):y.ph=1/\((z.ph=1/\(o.kind=3\/o.kind=4\/o.kind=5))\/(z.ph=2/\(o.kind=6\/o.kind=7))):=by
 rcases azx h with⟨k,a,d,e⟩|⟨k,a,b,e⟩|⟨k,a,b,d,e⟩|⟨k,a,b,d,i,e⟩|⟨k,a,b,d,i,e⟩|⟨k,a,b,e⟩ <;> subst e <;> rw[k]
 ·exact absurd a h0
 all_goals simp[a]
theorem az0{z:Ss}{o:Ou}(h:az3 m azh o=MI z):o.kind=1:=by
 rcases azx h with⟨k,_⟩|⟨_,a,_⟩|⟨_,a,_⟩|⟨_,a,_⟩|⟨_,a,_⟩|⟨_,a,_⟩
 ·exact k
 all_goals cases a
theorem azF{W:MO}{v:M7}{T:List awY}{g t1 t3 t4 c:Int}{t2:Bool}(hT:∀X,MQ W.heap.size W X->Yy X v T)(htc:(((t1,t2,t3,t4),c):awY×Int)=Yj T s g):
  (∀X,MQ W.heap.size W X->X.heap[W.heap.size]?=MI (alc (0,Nb,0,0))->Ni MK 20 #[Ny #[v],Ny #[MF ME s,MF ME g]] X fun r w'=>r=MN (Nv #[Ny #[MF ME t1,M3 t2,MF ME t3,MF ME t4],MF ME c])/\ajX w' W.heap.size /\
   ∃bx u3,bx=W.heap.size/\u3=((((w'.setCell ⟨W.heap.size,0,MH⟩ (MF ME t1)).setCell ⟨W.heap.size,1,MH⟩ (M3 t2)).setCell ⟨W.heap.size,2,MH⟩ (MF ME t3)).setCell ⟨W.heap.size,3,MH⟩ (MF ME t4))/\M6 (MQ W.heap.size W u3)) /\
  (∀X,MQ W.heap.size W X->Ni MK 20 #[Ny #[v],Ny #[MF ME s,MF ME g]] X fun r w'=>r=MN (Nv #[Ny #[MF ME t1,M3 t2,MF ME t3,MF ME t4],MF ME c]) /\
   ∃bx u3,bx=w'.heap.size/\u3=w'.alloc (MP #[MF ME t1,M3 t2,MF ME t3,MF ME t4] 79)/\M6 (MQ W.heap.size W u3)):=by
 have e:∀X,MQ W.heap.size W X->Ni MK 20 #[Ny #[v],Ny #[MF ME s,MF ME g]] X fun r w'=>r=MN (Nv #[Ny #[MF ME t1,M3 t2,MF ME t3,MF ME t4],MF ME c])/\MQ X.heap.size X w':=by
  intro X a;refine(ai5 _ T s g X (hT X a)).mono ?_;rw[<-htc];exact fun r w' h=>h
 constructor
 ·intro X a i
  refine(e X a).mono ?_;rintro r w' ⟨rfl,d⟩;have b:=a.trans (d.mono a.size);exact⟨rfl,aqD (WO i d),_,_,rfl,rfl,aqC b (MV _) (t1,t2,t3,t4)⟩
 ·intro X a
  refine(e X a).mono ?_;rintro r w' ⟨rfl,d⟩;have b:=a.trans (d.mono a.size);exact⟨rfl,_,_,rfl,rfl,b.trans ((WQ w' (o:=MP #[MF ME t1,M3 t2,MF ME t3,MF ME t4] 79)).mono b.size)⟩
theorem azY(f:Nat->Int)(hf:∀i,i<16->(Lit.int ME (f i)).wf=Nw)(ds:List Dd)(hds:∀d∈ds,ajd d){pd:Option Oc}{cd:Nat}(hrow:Xw agP w (MG pd ds.length cd) ds)(hB:Xo w):
  Ni MK 4 #[agc (f 0) (f 1) (f 2) (f 3) (f 4) (f 5) (f 6) (f 7) (f 8) (f 9) (f 10) (f 11) (f 12) (f 13) (f 14) (f 15),MG pd ds.length cd] w fun r w'=>r=MN (M3 Nw)/\MQ w.heap.size w w':=by
 obtain⟨L,hL,eL,d3⟩:=azT f hf ds hds hrow hB 60 (by omega);rw[eL];obtain⟨W0,b9⟩:∃W0,W0=w.alloc (MP L.toArray 24):=⟨_,rfl⟩;have c0:MQ w.heap.size w W0:=by rw[b9];exact WQ w
 have Q:M6 (_/\_/\_):=⟨hL,c0,d3 W0 c0⟩;obtain⟨nd,f9⟩:∃nd,nd=ds.length:=⟨_,rfl⟩;rw[<-f9]at Q⊢;clear hL eL d3 c0 hf hds hrow hB f9;go_enter Tryz.func4,Tryz.ntmps4
 go_wp2_with ((with_reducible refine wpList_load_mid rfl 24 (Operand.tmp 2) rfl w.heap.size 0 ?gx L _ ?gc Tryz.underlying24 ?gd ?gi ?_);(case gx=>rfl);(case gc=>exact afW (M1 _ _));(case gd=>rfl);(case gi=>rw[Q.out.1];exact apz))
 rw[<-b9];clear b9;refine Nd Q.out.2.2 ?_;rintro r w1 ⟨g,V,c,P,rfl,hS,d8,i8,g6,U⟩;obtain⟨n,hn⟩:∃n,n=P.steps.length:=⟨_,rfl⟩;have t:M6 (_/\_/\_/\_/\_):=⟨hS,d8,hn,(show n<=60+4 by omega),U⟩;have f2:=Q.out.2.1.trans (hS.bel.mono Q.out.2.1.size);have HB:M6 _:=f2;clear hS d8 i8 g6 U hn Q f2;have HO:M6 _:=azO t.out.1 (by rw[<-t.out.2.2.1];have:=t.out.2.2.2.1;omega)
 go_wp2_with fail
 refine Nd HO.out ?_;rintro r w2 ⟨p2,q2,rfl,d5,d1⟩;obtain⟨m,hm⟩:∃m,m=(azP P).length:=⟨_,rfl⟩;have e9:=t.out.1.on d1;have b5:M6 _:=e9;have HR:M6 (_/\_):=⟨d5,HB.out.trans (d1.mono HB.out.size)⟩;have f4:m<=66560:=by
  have J:=azR t.out.1.rn.runs.chain P.steps.length;have h2:azQ P P.steps.length=azP P:=by unfold azQ azP;rw[NT]
  rw[h2,<-hm,<-t.out.2.2.1]at J;have:=t.out.2.2.2.1;omega
 have HM:M6 (m=(azP P).length/\(azP P).length<=66560):=⟨hm,by rw[<-hm];exact f4⟩;have HG:M6 (ay4 (azP P)=Nb):=t.out.1.rn.good rfl;obtain⟨ng,f0⟩:∃m,m=P.giv.length:=⟨_,rfl⟩;have j6:ng<=64:=by have:=t.out.1.rn.Mj;have:=t.out.2.2.1;have:=t.out.2.2.2.1;omega
 have HN:M6 _:=f0;clear d5 d1 HO e9 hm f0 f4
 go_wp2_with fail
 go_loopw [8,9,10,11,12,13,14,15] (fun i _ _ _ _ _ _ _ wr=>∃k:Nat,i=MF ME (k:Int)/\k<=ng/\M6 (MQ w2.heap.size w2 wr)) (fun i _ _ _ _ _ _ _ _=>ng-(intOf i).toNat)
 case atStart=>exact⟨0,rfl,Nx _,MY _ _⟩
 case round =>
  obtain⟨k,rfl,hk,I⟩:=hrel
  by_cases hlt:k<ng
  ·have i2:(k:Int)<(ng:Int):=by omega
   have b:=b5.out.on I.out;have a7:=b.pat.lt;have c9:k<P.giv.length:=by rw[<-HN.out];exact hlt
   obtain⟨ap,j9,hv,i0,g7,hp⟩:=Xw.F6 anw (abw b.pat.giv:Xw afq wr (MG V.pg P.giv.length V.cg) P.giv);injection hv with q1 q2 q3;obtain⟨bo,oo,ha,j7,hc⟩:=hp k c9;have e0:wr.cell? ⟨bo,oo+k*2,MH⟩=MI (MF ME P.giv[k].1):=hc 0 (by omega);have e1:wr.cell? ⟨bo,oo+k*2+1,MH⟩=MI (MF ME P.giv[k].2):=hc 1 (by omega);have d0:wr.cell? ⟨g,43,MH⟩=MI (MG V.pg ng V.cg):=by rw[HN.out];exact b.pat.Mn
   rw[q1,ha]at d0;have b2:P.giv[k]∈P.giv:=Nk c9;obtain⟨x,hx⟩:∃x,x=P.giv[k]:=⟨_,rfl⟩;rw[<-hx]at e0 e1 b2;have HX:M6 _:=b2;have f1:M6 _:=azW _ (azP P) x.1 x.2 (wr.alloc (MP #[MF ME x.1,MF ME x.2] 75)) (HR.out.1.below (I.out.trans ((WQ wr).mono I.out.size))) (by have:=HM.out.2;omega);rw[azV HG.out]at f1;clear b hc hp q1 q2 q3 i0 g7 ha c9 hx b2
   go_wp2_with fail
   refine Nd f1.out ?_;rintro r S ⟨p3,q3,rfl,a4,f8⟩;obtain⟨yf,a9,d6,c8,H⟩:=azU t.out.1.rn HX.out;obtain⟨q,a6⟩:∃s,s=azk (azP P) x.1 x.2:=⟨_,rfl⟩;simp only[]at a4;rw[<-a6]at a9 c8 a4;obtain⟨F,Z⟩:∃n,n=q.length:=⟨_,rfl⟩;have a8:0<F:=by rw[Z];exact List.length_pos_iff.2 c8
   have j4:F<=66560:=by rw[Z,a6];exact Nm (azm _ _ _) HM.out.2
   have j3:((F:Int) == 0)=false:=by simp;omega
   simp only[];rw[<-a6,<-Z];obtain⟨a3,j5,i4,j1,i6,K⟩:=Xw.F6 akV a4;injection i4 with q13 q14 q15;have a:M6 (_/\_/\_/\_/\_/\_/\_):=⟨Z,K,q13,a9,f8,d6,H⟩;clear a4 a6 Z j1 i6 K q13 q14 q15 c8 a9 f8 d6 H e0 e1 d0 a7;have D:=WO (M1 wr (MP #[MF ME x.1,MF ME x.2] 75)) a.out.2.2.2.2.1;obtain⟨B9,g0⟩:∃B9,B9=wr.heap.size:=⟨_,rfl⟩;rw[<-g0]at D⊢;have i9:M6 _:=D;have a1:M6 (MQ w2.heap.size w2 S):=I.out.trans (((WQ wr).trans (a.out.2.2.2.2.1.mono (WQ wr).size)).mono I.out.size);have g3:∃B C,p3=MI ⟨B,C,MH⟩/\S.cell? ⟨B,C,MH⟩=MI (MF ME 1):=by
    have E:0<q.length:=by rw[<-a.out.1];exact a8
    obtain⟨B,C,a2,a0,a5⟩:=a.out.2.1 0 E;obtain⟨y,z,N,hz,_,M⟩:=azg q yf a.out.2.2.2.1 0 E;cases N;refine⟨B,C,a.out.2.2.1.trans a2,?_⟩;have:=a5 0 (by omega);rw[Nat.zero_mul,Nat.add_zero]at this;rw[this];show MI (MF ME q[0].kind)=_;rw[az0 M]
   obtain⟨B,C,K,U⟩:=g3;have g5:B<S.heap.size:=MX S ⟨B,C,MH⟩ U;have i1:M6 _:=K;rw[K];clear D g0 K
   go_wp2_with fail
   rw[<-i1.out];clear U g5
   go_loopw [12,13] (fun s i wr=>∃(j:Nat) (sv:Bool),s=M3 sv/\i=MF ME (j:Int)/\j<=F/\M6 (∀y,azd c.ret (q.take j)=MI y->sv=Nn (y.ph=2)/\y.ph≠0)/\M6 (MQ S.heap.size S wr)) (fun _ i _=>F-(intOf i).toNat)
   case atStart =>
    refine⟨1,Nb,rfl,rfl,a8,fun y N=>?_,MY _ _⟩;have E:0<q.length:=by rw[<-a.out.1];exact a8
    obtain⟨y0,z0,h9,g9,_,M⟩:=azg q yf a.out.2.2.2.1 0 E;cases h9;have d9:azd c.ret (q.take 1)=MI z0:=g9;rw[N]at d9;cases d9;rcases azx M with⟨_,_,_,e⟩|⟨_,J,_⟩|⟨_,J,_⟩|⟨_,J,_⟩|⟨_,J,_⟩|⟨_,J,_⟩
    ·rw[e];exact⟨rfl,show(1:Nat)≠0 by decide⟩
    all_goals cases J
   case round =>
    obtain⟨j,sv,rfl,rfl,hj,HV,O⟩:=hrel
    by_cases hltj:j<F
    ·have i3:(j:Int)<(F:Int):=by omega
     have E:j<q.length:=by rw[<-a.out.1];exact hltj
     obtain⟨B,C,a2,a0,a5⟩:=a.out.2.1 j E;have g8:=a.out.2.2.1.trans a2;subst g8;have f6:=fun i (hi:i<7)=>(O.out.cell (p:=⟨B,C+j*7+i,MH⟩) a0).trans (a5 i hi)
     have j8:B<wr.heap.size:=Nat.lt_of_lt_of_le a0 O.out.size;obtain⟨y,z,N,hz,_,M⟩:=azg q yf a.out.2.2.2.1 j E;obtain⟨d4,f3⟩:=HV.out y N;obtain⟨t1,T⟩:=azZ M f3;have j2:sv=false:=by rw[d4,t1];rfl
     have e0:wr.cell? ⟨B,C+j*7,MH⟩=MI (MF ME q[j].kind):=f6 0 (by omega);obtain⟨kd,d7⟩:∃k,k=q[j].kind:=⟨_,rfl⟩;obtain⟨zp,b7⟩:∃k,k=z.ph:=⟨_,rfl⟩;rw[<-d7]at T e0;rw[<-b7]at T;have h8:M6 (zp≠0->∀y,azd c.ret (q.take (j+1))=MI y->Nn (zp=2)=Nn (y.ph=2)/\y.ph≠0):=fun h0 y' h=>by rw[hz]at h;cases h;rw[b7]at h0⊢;exact⟨rfl,h0⟩
     subst j2;clear f6 a5 E a2 a0 d4 f3 M N hz d7 b7 t1;rcases T with⟨rfl,rfl|rfl|rfl⟩|⟨rfl,rfl|rfl⟩
     all_goals
      go_wp2
      go_roundw
      case rel=>exact⟨j+1,_,rfl,by simp,hltj,h8.out (by decide),O.out⟩
      case measure=>simp[intOf];omega
    ·obtain rfl:j=F:=by omega
     have i3:¬(j:Int)<(j:Int):=by omega
     have f5:=(HV.out yf (by rw[a.out.1,NT];exact a.out.2.2.2.1)).1;have H:=a.out.2.2.2.2.2.2;obtain⟨⟨⟨t1,t2,t3,t4⟩,cg⟩,d2⟩:∃o,o=Yj P.last.tab x.1 x.2:=⟨_,rfl⟩;have b:=b5.out.on (a1.out.trans (O.out.mono a1.out.size));have f7:M6 _:=azF (W:=wr) (v:=MG V.u.pt P.last.tab.length V.u.ct) (fun X hX=>(b.pat.last.now.below hX).tab) d2;have e8:cg=(Yj P.last.tab x.1 x.2).2:=by rw[<-d2]
     have i5:wr.cell? ⟨g,34,MH⟩=MI (MG V.u.pt P.last.tab.length V.u.ct):=(b.pat.az6 34).trans rfl;have a7:=b.pat.lt;rw[<-e8]at H;have D:=WO i9.out O.out;have u0:wr.cell? ⟨B9,0,MH⟩=MI (MF ME x.1):=by simp[Nl,D]
     have u1:wr.cell? ⟨B9,1,MH⟩=MI (MF ME x.2):=by simp[Nl,D]
     have ul:B9<wr.heap.size:=(Array.getElem?_eq_some_iff.1 D).1;have T:(sv=Nw/\(cg != 0)=Nw)\/(sv=Nb/\cg=0):=by
      rw[f5]
      by_cases h:yf.ph=2
      ·exact Nt ⟨by simp[h],by simpa using H.1 h⟩
      ·refine NF ⟨by simp[h],?_⟩
       by_cases e:cg=0
       ·exact e
       ·exact absurd (H.2 e) h
     have HE:M6 _:=a1.out.trans (O.out.mono a1.out.size);clear b f5 H e8 d2 D
     go_wp2_with fail
     apply adX
     ·intro j0
      go_region_with (first|(go_at_call 20;refine(f7.out.1 _ (by first|exact(WQ _).drew|exact WQ _) (by first|exact M1 _ _|(show(World.alloc _ _).heap[_]?=_;exact heap_alloc_new _ _))).mono ?_;rintro r w5 ⟨rfl,⟨s0,s1,s2,s3,z0,z1,z2,z3,g4⟩,bx,u3,b6,b8,hQ⟩)|(go_at_call 20;refine(f7.out.2 _ (by first|exact(MY _ _).drew|exact Below.refl _ _)).mono ?_;rintro r w5 ⟨rfl,bx,u3,b6,b8,hQ⟩))
      all_goals
       rw[<-b8]
       try rw[<-b6]
       clear b8 b6
       try clear s0 s1 s2 s3 z0 z1 z2 z3 g4
       revert bx u3;exact j0.out
     intro bx u3 hQ;have i7:M6 _:=HE.out.trans (hQ.out.mono HE.out.size);clear hQ u0 u1 ul i5 a7;rcases T with⟨rfl,hc⟩|⟨rfl,rfl⟩
     all_goals
      go_wp2
      go_roundw
      case rel=>exact⟨k+1,by simp,hlt,i7.out⟩
      case measure=>simp[intOf];omega
  ·obtain rfl:k=ng:=by omega
   have b:=b5.out.on I.out;have a7:=b.pat.lt;have d0:wr.cell? ⟨g,43,MH⟩=MI (MG V.pg k V.cg):=by rw[HN.out];exact b.pat.Mn
   have i2:¬(k:Int)<(k:Int):=by omega
   clear b;go_wp2;go_ret;exact⟨rfl,HR.out.2.trans (I.out.mono HR.out.2.size)⟩
end Go.Proofs.YtmpokpecfclapaaGreatDoor.Q
