/-
  Contracts of the layers and of core, part 18. Conditions: as each theorem says.
-/
import Derived.Test.YtalhkllgnlejbaaGreatDoorQ11
import Derived.Test.YtalhkllgnlejbaaGreatDoorQ17
namespace Go.Proofs.YtalhkllgnlejbaaGreatDoor.Q
set_option linter.unusedVariables false
set_option linter.unusedSimpArgs false
set_option maxHeartbeats 16000000
set_option maxRecDepth 100000
open Go.RowKit
attribute [local go_sem ↓] Go.wp_at_zero Go.wp_at_succ
def qt(c:Cf):Gt:=⟨c,0,List.replicate c.flows.toNat (0,false,0,0),[],[],[],List.replicate 12 0,List.replicate 12 bm,c.bb*c.bd,0,fun _=>False,[]⟩
theorem sN:ao (List.replicate 12 0)=[]:=by
 have h:=l0 tu;cases hs:ao (List.replicate 12 0)with
 |nil=>rfl
 |cons t l =>
  exfalso;have hin:=qy (li tu) t (by rw[hs];exact List.mem_cons_self);have hc:=nb (List.replicate 12 0) t.2.toNat (by omega);rw[hs]at hc;have h0:wt (List.replicate 12 0) t.2.toNat=0:=by
   unfold wt;rw[List.getD_eq_getElem?_getD,List.getElem?_replicate]
   split <;> rfl
  rw[h0]at hc;unfold bt at hc;rw[List.countP_cons_of_pos (by rw[decide_eq_true_iff];omega)]at hc;omega
theorem za:cQ 0 fp:=by
 refine⟨⟨by omega,by omega⟩,⟨by simp[fp],fun i l hl t ht=>?_,fun l hl=>?_,by simp[fp]⟩⟩
 ·have:l=[]:=List.eq_of_mem_replicate (List.mem_of_getElem? hl)
  subst this;cases ht
 ·have:l=[]:=List.eq_of_mem_replicate hl
  subst this;exact List.Pairwise.nil
theorem xv:rv lw (List.replicate 12 ())=rv fD ((List.replicate 12 ((none,0):Mk)).zip (List.replicate 12 bm)):=rfl
theorem FT(c:Cf)(hc:nv c)(w:World) :
  Calls Tryz.prog 21 #[sE c] w fun r w'=>∃U,r=.returned (.tuple #[lH U (qt c),.int .i64 0])/\(∀W,ia w.heap.size w' W->aF W U (qt c))/\Below w.heap.size w w':=by
 have hc':i6 ⟨c.flows,c.num,c.den,c.tries,c.warm,c.drain,c.idle,c.conn,c.ret,c.most,c.bn,c.bd,c.bb,c.wn,c.wf,c.wh⟩:=hc;refine(zp ⟨c.flows,c.num,c.den,c.tries,c.warm,c.drain,c.idle,c.conn,c.ret,c.most,c.bn,c.bd,c.bb,c.wn,c.wf,c.wh⟩ w hc').mono ?_;intro r w' hr;unfold mZ at hr;rw[if_pos hc']at hr;obtain⟨vt,vh,vw,rfl,hA,hb⟩:=hr;obtain⟨hA1,hA2,hA3⟩:=hA w' ⟨Nat.le_refl _,fun _ _ _=>rfl⟩;obtain⟨pt,ct,rfl,_⟩:=hA1.F6;obtain⟨ph,ch,rfl,_,_⟩:=bj.Ga hA2;obtain⟨vs,⟨pw,cw,rfl,_,_,_⟩,_⟩:=hA3;have hsp:(ao (qt c).wts).length=0:=by show(ao (List.replicate 12 0)).length=0;rw[sN];rfl
 refine⟨⟨ph,ch,pt,ct,none,0,none,0,none,0,none,0,pw,cw,List.replicate 12 (none,0)⟩,?_,fun W hW=>?_,hb⟩
 ·simp only[lH,ef,hsp]
  rfl
 ·obtain⟨h1,h2,h3⟩:=hA W hW
  refine⟨h1,B1 W,⟨dZ W,dZ W⟩,?_,⟨fp,za,fun t=>⟨fun h=>?_,fun h=>h.elim⟩,h3⟩,?_,List.length_replicate,List.length_replicate,fun i m x e1 e2=>?_⟩
  ·rw[hsp]
   show aR W (.slice none 0 0) (ao (List.replicate 12 0)).length (ag (ao (List.replicate 12 0)));rw[sN];exact dZ W
  ·simp[fp]at h
  ·show aR W (.slice ph 12 ch) ((List.replicate 12 ((none,0):Mk)).zip (List.replicate 12 bm)).length (rv fD ((List.replicate 12 ((none,0):Mk)).zip (List.replicate 12 bm)))
   rw[<-xv];exact h2
  ·have q1:m=(none,0):=List.eq_of_mem_replicate (List.mem_of_getElem? e1)
   have q2:x=bm:=List.eq_of_mem_replicate (List.mem_of_getElem? e2);subst q1;subst q2;exact pC W
end Go.Proofs.YtalhkllgnlejbaaGreatDoor.Q
