/-
  Contracts of the layers and of core, part 9. Conditions: as each theorem says.
-/
import Derived.Test.YtalhkllgnlejbaaGreatDoorRows
import Derived.Handy
import Derived.Deep.RegionHeld3
import Derived.Deep.DrawnRows
import Derived.Deep.AppendLies
import Derived.Deep.Onto
import Derived.BigQuiet
namespace Go.Proofs.YtalhkllgnlejbaaGreatDoor.Q
set_option linter.unusedVariables false
set_option linter.unusedSimpArgs false
set_option maxHeartbeats 16000000
set_option maxRecDepth 100000
open Go.RowKit
attribute [local go_sem ↓] Go.wp_at_zero Go.wp_at_succ
abbrev ny(since warm:Int):Prop:=0<=since/\since<=1099511627776/\0<=warm/\warm<=500
theorem rr(a b:Int)(w:World):Calls Tryz.prog 66 #[.int .i64 a,.int .i64 b] w fun r w'=>r=.returned (.bool (decide (ny a b)))/\w'=w:=by
 obtain⟨ans,hans⟩:∃ans,ans=decide (ny a b):=⟨_,rfl⟩;rw[<-hans];have H:Hid _:=hans;clear hans;have no:∀ {p:Prop},¬p->(ny a b->p)->ans=false:=fun hp h=>by rw[H.out];exact decide_eq_false fun g=>hp (h g)
 cases h1:decide (0<=a)
 ·have e:=no (of_decide_eq_false h1) (fun g=>g.1)
  have E:Hid _:=e;clear no H e;go_enter Tryz.func66,Tryz.ntmps66;go_wp2;go_ret;exact⟨by rw[E.out];rfl,rfl⟩
 cases h2:decide (a<=1099511627776)
 ·have e:=no (of_decide_eq_false h2) (fun g=>g.2.1)
  have E:Hid _:=e;clear no H e;go_enter Tryz.func66,Tryz.ntmps66;go_wp2;go_ret;exact⟨by rw[E.out];rfl,rfl⟩
 cases h3:decide (0<=b)
 ·have e:=no (of_decide_eq_false h3) (fun g=>g.2.2.1)
  have E:Hid _:=e;clear no H e;go_enter Tryz.func66,Tryz.ntmps66;go_wp2;go_ret;exact⟨by rw[E.out];rfl,rfl⟩
 cases h4:decide (b<=500)
 ·have e:=no (of_decide_eq_false h4) (fun g=>g.2.2.2)
  have E:Hid _:=e;clear no H e;go_enter Tryz.func66,Tryz.ntmps66;go_wp2;go_ret;exact⟨by rw[E.out];rfl,rfl⟩
 have e:ans=true:=by rw[H.out];exact decide_eq_true ⟨of_decide_eq_true h1,of_decide_eq_true h2,of_decide_eq_true h3,of_decide_eq_true h4⟩
 have E:Hid _:=e;clear no H e;go_enter Tryz.func66,Tryz.ntmps66;go_wp2;go_ret;exact⟨by rw[E.out];rfl,rfl⟩
def FZ(wg gone warm:Int):Int:=if warm<=gone then wg else max 1 (wg*gone / warm)
theorem EX{a b c:Int}(h:a=b):Ending.returned (.tuple #[.int .i64 a,.int .i64 c])=.returned (.tuple #[.int .i64 b,.int .i64 c]):=by rw[h]
theorem zg(wg a n b:Int)(w:World)(h1:1<=wg)(h2:wg<=8)(h:ny a b)(h3:a<=n)(h4:n<=1099511627776):Calls Tryz.prog 46 #[.int .i64 wg,.int .i64 a,.int .i64 n,.int .i64 b] w fun r w'=>r=.returned (.tuple #[.int .i64 (FZ wg (n-a) b),.int .i64 0])/\w'=w:=by
 have hG:Hid _:=decide_eq_true h;obtain⟨g1,g2,g3,g4⟩:=h
 by_cases hb:b<=n-a
 ·have hw0:FZ wg (n-a) b=wg:=by unfold FZ;rw[if_pos hb]
  have hw:Hid _:=hw0;clear hw0;go_enter Tryz.func46,Tryz.ntmps46
  go_wp2_with fail
  refine(rr _ _ _).mono ?_;rintro e w' ⟨rfl,rfl⟩;rw[hG.out];go_wp2
  go_ret2
  exact⟨by rw[hw.out];rfl,rfl⟩
 ·obtain⟨g,hg⟩:∃g,g=n-a:=⟨_,rfl⟩
  have hgp:0<=g:=by omega
  have hm:0<=wg*g:=Int.mul_nonneg (by omega) hgp;have hm2:wg*g<=8*500:=Int.mul_le_mul h2 (by omega) hgp (by omega);have hw0:FZ wg g b=max 1 (wg*g / b):=by unfold FZ;rw[if_neg (by omega)]
  have hw:Hid _:=hw0;clear hw0;have hnb:n-a<b:=by omega
  have hb0:0<b:=by omega
  have hsub:n-a=g:=hg.symm;clear hb hg;go_enter Tryz.func46,Tryz.ntmps46
  go_wp2_with fail
  refine(rr _ _ _).mono ?_;rintro e w' ⟨rfl,rfl⟩;rw[hG.out]
  go_wp2_with fail
  all_goals
   go_ret2
   refine⟨EX ?_,rfl⟩;rw[hw.out];omega
end Go.Proofs.YtalhkllgnlejbaaGreatDoor.Q
