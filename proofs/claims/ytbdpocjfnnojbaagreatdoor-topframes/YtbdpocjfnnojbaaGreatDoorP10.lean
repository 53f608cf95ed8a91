/-
  Contracts of the layers and of core, part 10. Conditions: as each theorem says.
-/
import Derived.Deep.Onto
import Derived.BigQuiet
import Derived.Test.YtbdpocjfnnojbaaGreatDoorP0
open Decidable renaming decide->Nn
open Go renaming Calls->Ni,World->MO
open Go.Ending renaming returned->MN
open Go.IntKind renaming i64->ME
open Go.Proofs.Tryz renaming func297->aAn,ntmps297->aAh,prog->MK
open Go.RowKit renaming Hid->M6
open Go.Value renaming bool->M3,int->MF,tuple->Nv
namespace Go.Proofs.YtbdpocjfnnojbaaGreatDoor.Q
set_option linter.unusedVariables false
set_option linter.unusedSimpArgs false
set_option maxHeartbeats 16000000
set_option maxRecDepth 100000
open Go.RowKit
attribute [local go_sem ↓] Go.wp_at_zero Go.wp_at_succ
abbrev agM(since warm:Int):Prop:=0<=since/\since<=1099511627776/\0<=warm/\warm<=500
theorem anh(a b:Int)(w:MO):Ni MK 297 #[yB a,yB b] w fun r w'=>r=MN (M3 (Nn (agM a b)))/\w'=w:=by
 obtain⟨ans,d⟩:=yE (Nn (agM a b));rw[<-d];have H:M6 _:=d;clear d;have c:∀ {p:Prop},¬p->(agM a b->p)->ans=false:=fun hp h=>by rw[H.out];exact M0 fun g=>hp (h g)
 cases h1:Nn (0<=a)
 ·have e:=c (Nc h1) (fun g=>g.1)
  have E:M6 _:=e;clear c H e;go_enter aAn,aAh;go_wp2;go_ret;exact⟨by rw[E.out];rfl,rfl⟩
 cases h2:Nn (a<=1099511627776)
 ·have e:=c (Nc h2) (fun g=>g.2.1)
  have E:M6 _:=e;clear c H e;go_enter aAn,aAh;go_wp2;go_ret;exact⟨by rw[E.out];rfl,rfl⟩
 cases h3:Nn (0<=b)
 ·have e:=c (Nc h3) (fun g=>g.2.2.1)
  have E:M6 _:=e;clear c H e;go_enter aAn,aAh;go_wp2;go_ret;exact⟨by rw[E.out];rfl,rfl⟩
 cases h4:Nn (b<=500)
 ·have e:=c (Nc h4) (fun g=>g.2.2.2)
  have E:M6 _:=e;clear c H e;go_enter aAn,aAh;go_wp2;go_ret;exact⟨by rw[E.out];rfl,rfl⟩
 have e:ans=true:=by rw[H.out];exact Nq ⟨M2 h1,M2 h2,M2 h3,M2 h4⟩
 have E:M6 _:=e;clear c H e;go_enter aAn,aAh;go_wp2;go_ret;exact⟨by rw[E.out];rfl,rfl⟩
def aw1(wg gone warm:Int):Int:=if warm<=gone then wg else max 1 (wg*gone / warm)
theorem aut{a b c:Int}(h:a=b):MN (Nv #[yB a,yB c])=MN (Nv #[yB b,yB c]):=by rw[h]
theorem auu(wg a n b:Int)(w:MO)(h1:1<=wg)(h2:wg<=8)(h:agM a b)(h3:a<=n)(h4:n<=1099511627776):Ni MK 274 #[yB wg,yB a,yB n,yB b] w fun r w'=>r=MN (Nv #[yB (aw1 wg (n-a) b),yB 0])/\w'=w:=by
 have j:M6 _:=Nq h;obtain⟨t,u,v,q⟩:=h
 by_cases hb:b<=n-a
 ·have c:aw1 wg (n-a) b=wg:=by unfold aw1;rw[Nh hb]
  have d:M6 _:=c;clear c;go_enter Tryz.func274,Tryz.ntmps274
  go_wp2_with fail
  refine(anh _ _ _).mono ?_;rintro e w' ⟨rfl,rfl⟩;rw[j.out];go_wp2
  go_ret2
  exact⟨by rw[d.out];rfl,rfl⟩
 ·obtain⟨g,i⟩:=yE (n-a)
  have f:0<=g:=by omega
  have s:0<=wg*g:=Int.mul_nonneg (by omega) f;have o:wg*g<=8*500:=Px h2 (by omega) f (by omega);have c:aw1 wg g b=max 1 (wg*g / b):=by unfold aw1;rw[Nf (by omega)]
  have d:M6 _:=c;clear c;have m:n-a<b:=by omega
  have l:0<b:=by omega
  have k:n-a=g:=i.symm;clear hb i;go_enter Tryz.func274,Tryz.ntmps274
  go_wp2_with fail
  refine(anh _ _ _).mono ?_;rintro e w' ⟨rfl,rfl⟩;rw[j.out]
  go_wp2_with fail
  all_goals
   go_ret2
   refine⟨aut ?_,rfl⟩;rw[d.out];omega
end Go.Proofs.YtbdpocjfnnojbaaGreatDoor.Q
