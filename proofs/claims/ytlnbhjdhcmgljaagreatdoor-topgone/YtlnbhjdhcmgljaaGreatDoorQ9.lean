/-
  Contracts of the layers and of core, part 9. Conditions: as each theorem says.
-/
import Derived.Deep.Onto
import Derived.BigQuiet
import Derived.Test.YtlnbhjdhcmgljaaGreatDoorQ0
open Decidable renaming decide->Nn
open Go renaming Calls->Ni,World->MO
open Go.Ending renaming returned->MN
open Go.IntKind renaming i64->ME
open Go.Proofs.Tryz renaming func46->VF,ntmps46->VC,prog->MK
open Go.RowKit renaming Hid->M6
open Go.Value renaming bool->M3,int->MF,tuple->Nv
open Int renaming mul_le_mul->Px
namespace Go.Proofs.YtlnbhjdhcmgljaaGreatDoor.Q
set_option linter.unusedVariables false
set_option linter.unusedSimpArgs false
set_option maxHeartbeats 16000000
set_option maxRecDepth 100000
open Go.RowKit
attribute [local go_sem ↓] Go.wp_at_zero Go.wp_at_succ
abbrev ny(since warm:Int):Prop:=0<=since/\since<=1099511627776/\0<=warm/\warm<=500
theorem rr(a b:Int)(w:MO):Ni MK 46 #[MF ME a,MF ME b] w fun r w'=>r=MN (M3 (Nn (ny a b)))/\w'=w:=by
 obtain⟨ans,hans⟩:∃ans,ans=Nn (ny a b):=⟨_,rfl⟩;rw[<-hans];have H:M6 _:=hans;clear hans;have no:∀ {p:Prop},¬p->(ny a b->p)->ans=false:=fun hp h=>by rw[H.out];exact M0 fun g=>hp (h g)
 cases h1:Nn (0<=a)
 ·have e:=no (Nc h1) (fun g=>g.1)
  have E:M6 _:=e;clear no H e;go_enter VF,VC;go_wp2;go_ret;exact⟨by rw[E.out];rfl,rfl⟩
 cases h2:Nn (a<=1099511627776)
 ·have e:=no (Nc h2) (fun g=>g.2.1)
  have E:M6 _:=e;clear no H e;go_enter VF,VC;go_wp2;go_ret;exact⟨by rw[E.out];rfl,rfl⟩
 cases h3:Nn (0<=b)
 ·have e:=no (Nc h3) (fun g=>g.2.2.1)
  have E:M6 _:=e;clear no H e;go_enter VF,VC;go_wp2;go_ret;exact⟨by rw[E.out];rfl,rfl⟩
 cases h4:Nn (b<=500)
 ·have e:=no (Nc h4) (fun g=>g.2.2.2)
  have E:M6 _:=e;clear no H e;go_enter VF,VC;go_wp2;go_ret;exact⟨by rw[E.out];rfl,rfl⟩
 have e:ans=true:=by rw[H.out];exact Nq ⟨M2 h1,M2 h2,M2 h3,M2 h4⟩
 have E:M6 _:=e;clear no H e;go_enter VF,VC;go_wp2;go_ret;exact⟨by rw[E.out];rfl,rfl⟩
def FZ(wg gone warm:Int):Int:=if warm<=gone then wg else max 1 (wg*gone / warm)
theorem EX{a b c:Int}(h:a=b):MN (Nv #[MF ME a,MF ME c])=MN (Nv #[MF ME b,MF ME c]):=by rw[h]
theorem zg(wg a n b:Int)(w:MO)(h1:1<=wg)(h2:wg<=8)(h:ny a b)(h3:a<=n)(h4:n<=1099511627776):Ni MK 26 #[MF ME wg,MF ME a,MF ME n,MF ME b] w fun r w'=>r=MN (Nv #[MF ME (FZ wg (n-a) b),MF ME 0])/\w'=w:=by
 have hG:M6 _:=Nq h;obtain⟨g1,g2,g3,g4⟩:=h
 by_cases hb:b<=n-a
 ·have hw0:FZ wg (n-a) b=wg:=by unfold FZ;rw[Nh hb]
  have hw:M6 _:=hw0;clear hw0;go_enter Tryz.func26,Tryz.ntmps26
  go_wp2_with fail
  refine(rr _ _ _).mono ?_;rintro e w' ⟨rfl,rfl⟩;rw[hG.out];go_wp2
  go_ret2
  exact⟨by rw[hw.out];rfl,rfl⟩
 ·obtain⟨g,hg⟩:∃g,g=n-a:=⟨_,rfl⟩
  have hgp:0<=g:=by omega
  have hm:0<=wg*g:=Int.mul_nonneg (by omega) hgp;have hm2:wg*g<=8*500:=Px h2 (by omega) hgp (by omega);have hw0:FZ wg g b=max 1 (wg*g / b):=by unfold FZ;rw[Nf (by omega)]
  have hw:M6 _:=hw0;clear hw0;have hnb:n-a<b:=by omega
  have hb0:0<b:=by omega
  have hsub:n-a=g:=hg.symm;clear hb hg;go_enter Tryz.func26,Tryz.ntmps26
  go_wp2_with fail
  refine(rr _ _ _).mono ?_;rintro e w' ⟨rfl,rfl⟩;rw[hG.out]
  go_wp2_with fail
  all_goals
   go_ret2
   refine⟨EX ?_,rfl⟩;rw[hw.out];omega
end Go.Proofs.YtlnbhjdhcmgljaaGreatDoor.Q
