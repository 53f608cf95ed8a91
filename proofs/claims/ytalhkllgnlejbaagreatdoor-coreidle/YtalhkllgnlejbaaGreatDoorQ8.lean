/-
  Contracts of the layers and of core, part 8. Conditions: as each theorem says.
-/
import Derived.Deep.Upon
import Derived.BigQuiet
import Derived.Lib.AppendZerosOnto
import Derived.Shelf.SlSortCmp.QuietGrown
import Derived.Deep.CutRange
import Derived.Test.YtalhkllgnlejbaaGreatDoorQ0
namespace Go.Proofs.YtalhkllgnlejbaaGreatDoor.Q
set_option linter.unusedVariables false
set_option linter.unusedSimpArgs false
set_option maxHeartbeats 16000000
set_option maxRecDepth 100000
open Go.RowKit
attribute [local go_sem ↓] Go.wp_at_zero Go.wp_at_succ
variable {o:Bool}{d f n t u:Int}{l:List Bool}{xs:List Value}{base g k:Nat}{T:TypeId}{a b c v:Value}{W w w':World}
def bF(l:List Bool):List Value:=l.map fun x=>.bool x
theorem mt(l:List Bool):(bF l).length=l.length:=by simp[bF]
theorem wW(l:List Bool)(i:Nat)(h:i<l.length):(bF l)[i]?=some (.bool l[i]):=by simp[bF,h]
def bK(w:World)(v:Value)(l:List Bool):Prop:=aR w v l.length (bF l)
theorem bK.below(h:bK w v l)(hb:Below w.heap.size w w'):bK w' v l:=aR.below h hb
theorem bK.F6(h:bK w v l):
  ∃a cap,v=.slice a l.length cap/\l.length<=cap/\cap<=maxLen/\∀i (hi:i<l.length),∃b off,a=some ⟨b,off,none⟩/\b<w.heap.size/\w.cell? ⟨b,off+i,none⟩=some (.bool l[i]):=by
 obtain⟨a,cap,hv,hc,hm,h1|⟨b,off,h1,h2,h3⟩⟩:=h
 ·exact⟨a,cap,hv,hc,hm,fun i hi=>absurd hi (by omega)⟩
 ·exact⟨a,cap,hv,hc,hm,fun i hi=>⟨b,off,h1,h2,by rw[h3 i (by rw[mt];omega)];exact wW l i hi⟩⟩
theorem zX(a b:List Bool):bF (a++b)=bF a++bF b:=by simp[bF]
theorem xm(l:List Bool):∀u∈bF l,u.oneCell'=true:=by
 intro u hu;obtain⟨x,_,rfl⟩:=List.mem_map.1 hu;rfl
theorem tG:(Tryz.prog.info? 4).map (fun i=>(i.zero,i.size,i.bytes))=some (some (.bool false),1,1):=by kernel_rfl
theorem iW(h:w.ownsRow base 4 1 v l.length (bF l)):bK w v l:=bP h
theorem pC(w:World):bK w (.slice none 0 0) []:=dZ w
theorem bK.Ga(h:bK w v l):∃p c,v=.slice p l.length c:=by
 obtain⟨p,c,rfl,_⟩:=h;exact⟨p,c,rfl⟩
abbrev dR(n f d:Int):Prop:=(1<=n/\n<=16)/\(1<=f/\f<=n)/\(1<=d/\d<=500)
def fW(n f d:Int):Int:=if dR n f d then 0 else 2
abbrev dI(n:Int)(k:Nat)(o:Bool)(u t:Int):Prop:=(k:Int)<=n/\(0<=t/\t<=10)/\(0<=u/\u<=1099511628276)/\(o=true\/u=0)
def cD(n f d:Int)(k:Nat)(o:Bool)(u t now:Int):Int :=
 if dR n f d then(if 0<=now/\now<=1099511627776 then(if dI n k o u t then 0 else 6)else 2)else 2
theorem Ef(h:dR n f d):fW n f d=0:=if_pos h
theorem zG(h:¬dR n f d):fW n f d=2:=if_neg h
theorem uY(n f d:Int)(k:Nat)(o:Bool)(u t now:Int):(cD n f d k o u t now=2/\(¬dR n f d\/¬(0<=now/\now<=1099511627776)))\/(cD n f d k o u t now=6/\dR n f d/\(0<=now/\now<=1099511627776)/\¬dI n k o u t)\/(cD n f d k o u t now=0/\dR n f d/\(0<=now/\now<=1099511627776)/\dI n k o u t):=by
 unfold cD
 by_cases h:dR n f d
 ·rw[if_pos h]
  by_cases h2:0<=now/\now<=1099511627776
  ·rw[if_pos h2]
   by_cases h3:dI n k o u t
   ·rw[if_pos h3];exact .inr (.inr ⟨rfl,h,h2,h3⟩)
   ·rw[if_neg h3];exact .inr (.inl ⟨rfl,h,h2,h3⟩)
  ·rw[if_neg h2];exact .inl ⟨rfl,.inr h2⟩
 ·rw[if_neg h];exact .inl ⟨rfl,.inl h⟩
abbrev cO(v:Value)(o:Bool)(u t:Int):Value:=.agg #[v,.bool o,.int .i64 u,.int .i64 t]
theorem cd(n lo hi:Int)(w:World):Calls Tryz.prog 114 #[.int .i64 n,.int .i64 lo,.int .i64 hi] w fun r w'=>r=.returned (.bool (decide (lo<=n/\n<=hi)))/\w'=w:=by
 obtain⟨ans,hans⟩:∃ans,ans=decide (lo<=n/\n<=hi):=⟨_,rfl⟩;rw[<-hans];have H:Hid _:=hans;clear hans;cases h1:decide (lo<=n)
 ·go_enter Tryz.func114,Tryz.ntmps114
  go_wp2;go_ret;exact⟨by rw[H.out,decide_eq_false (fun h=>of_decide_eq_false h1 h.1)];rfl,rfl⟩
 ·cases h2:decide (n<=hi)
  ·go_enter Tryz.func114,Tryz.ntmps114
   go_wp2;go_ret;exact⟨by rw[H.out,decide_eq_false (fun h=>of_decide_eq_false h2 h.2)];rfl,rfl⟩
  ·go_enter Tryz.func114,Tryz.ntmps114
   go_wp2;go_ret;exact⟨by rw[H.out,decide_eq_true ⟨of_decide_eq_true h1,of_decide_eq_true h2⟩];rfl,rfl⟩
theorem oW(n f d:Int)(w:World):Calls Tryz.prog 69 #[iR n f d] w fun r w'=>r=.returned (.int .i64 (fW n f d))/\Below w.heap.size w w':=by
 obtain⟨W0,hW0⟩:∃W0,W0=w.alloc (.cells #[.int .i64 n,.int .i64 f,.int .i64 d] 28):=⟨_,rfl⟩;have hB0:W0.heap[w.heap.size]?=some (.cells #[.int .i64 n,.int .i64 f,.int .i64 d] 28 (0,0)):=by rw[hW0];exact heap_alloc_new _ _
 have hb0:Below w.heap.size w W0:=by rw[hW0];exact ai _
 obtain⟨c0,c1,c2,_⟩:=lK hB0;have H:Hid (_/\_):=⟨hW0,hb0⟩;clear hW0 hb0 hB0;cases h1:decide (1<=n/\n<=16)
 ·have E:Hid (fW n f d=2):=if_neg fun h=>of_decide_eq_false h1 h.1
  go_enter Tryz.func69,Tryz.ntmps69
  go_wp2_with fail
  rw[<-H.out.1];refine(cd _ _ _ _).mono ?_;rintro e w' ⟨rfl,rfl⟩;rw[h1];go_wp2;go_ret;exact⟨by rw[E.out];rfl,H.out.2⟩
 cases h2:decide (1<=f/\f<=n)
 ·have E:Hid (fW n f d=2):=if_neg fun h=>of_decide_eq_false h2 h.2.1
  go_enter Tryz.func69,Tryz.ntmps69
  go_wp2_with fail
  rw[<-H.out.1];refine(cd _ _ _ _).mono ?_;rintro e w' ⟨rfl,rfl⟩;rw[h1]
  go_wp2_with fail
  refine(cd _ _ _ _).mono ?_;rintro e w' ⟨rfl,rfl⟩;rw[h2];go_wp2;go_ret;exact⟨by rw[E.out];rfl,H.out.2⟩
 cases h3:decide (1<=d/\d<=500)
 ·have E:Hid (fW n f d=2):=if_neg fun h=>of_decide_eq_false h3 h.2.2
  go_enter Tryz.func69,Tryz.ntmps69
  go_wp2_with fail
  rw[<-H.out.1];refine(cd _ _ _ _).mono ?_;rintro e w' ⟨rfl,rfl⟩;rw[h1]
  go_wp2_with fail
  refine(cd _ _ _ _).mono ?_;rintro e w' ⟨rfl,rfl⟩;rw[h2]
  go_wp2_with fail
  refine(cd _ _ _ _).mono ?_;rintro e w' ⟨rfl,rfl⟩;rw[h3];go_wp2;go_ret;exact⟨by rw[E.out];rfl,H.out.2⟩
 ·have E:Hid (fW n f d=0):=if_pos ⟨of_decide_eq_true h1,of_decide_eq_true h2,of_decide_eq_true h3⟩
  go_enter Tryz.func69,Tryz.ntmps69
  go_wp2_with fail
  rw[<-H.out.1];refine(cd _ _ _ _).mono ?_;rintro e w' ⟨rfl,rfl⟩;rw[h1]
  go_wp2_with fail
  refine(cd _ _ _ _).mono ?_;rintro e w' ⟨rfl,rfl⟩;rw[h2]
  go_wp2_with fail
  refine(cd _ _ _ _).mono ?_;rintro e w' ⟨rfl,rfl⟩;rw[h3];go_wp2;go_ret;exact⟨by rw[E.out];rfl,H.out.2⟩
theorem rC{d:Value}(h:w.heap[g]?=some (.cells #[a,b,c,d] T (0,0))):w.cell? ⟨g,0,none⟩=some a/\w.cell? ⟨g,1,none⟩=some b/\w.cell? ⟨g,2,none⟩=some c/\w.cell? ⟨g,3,none⟩=some d/\g<w.heap.size :=
 ⟨by simp[World.cell?,h],by simp[World.cell?,h],by simp[World.cell?,h],by simp[World.cell?,h],(Array.getElem?_eq_some_iff.1 h).1⟩
theorem ry{d:Value}(h:w.heap[g]?=some (.cells #[a,b,c,d] T (0,0))):w.frozen? ⟨g,0,none⟩=false/\w.frozen? ⟨g,1,none⟩=false/\w.frozen? ⟨g,2,none⟩=false/\w.frozen? ⟨g,3,none⟩=false :=
 ⟨by simp[World.frozen?,h],by simp[World.frozen?,h],by simp[World.frozen?,h],by simp[World.frozen?,h]⟩
def Hx(w W:World)(n f d:Int)(v:Value)(o:Bool)(u t:Int):Prop :=
 W.heap[w.heap.size]?=some (.cells #[.int .i64 n,.int .i64 f,.int .i64 d] 28 (0,0))/\W.heap[w.heap.size+1]?=some (.cells #[v,.bool o,.int .i64 u,.int .i64 t] 79 (0,0))/\Below w.heap.size w W
theorem qv(w:World)(n f d:Int)(v:Value)(o:Bool)(u t:Int):Hx w ((w.alloc (.cells #[.int .i64 n,.int .i64 f,.int .i64 d] 28)).alloc (.cells #[v,.bool o,.int .i64 u,.int .i64 t] 79)) n f d v o u t :=
 ⟨aN _ _ (heap_alloc_new _ _),bV _ _ _,((Below.refl _ _).alloc (Nat.le_refl _) _).alloc (by simp) _⟩
theorem Hx.below{W':World}(h:Hx w W n f d v o u t)(hb:Below W.heap.size W W'):Hx w W' n f d v o u t :=
 ⟨af h.1 hb,af h.2.1 hb,h.2.2.trans (hb.mono h.2.2.size)⟩
theorem Hx.Gg(h:Hx w W n f d v o u t):W.cell? ⟨w.heap.size,0,none⟩=some (.int .i64 n)/\W.cell? ⟨w.heap.size,1,none⟩=some (.int .i64 f)/\W.cell? ⟨w.heap.size,2,none⟩=some (.int .i64 d)/\W.cell? ⟨w.heap.size+1,0,none⟩=some v/\W.cell? ⟨w.heap.size+1,1,none⟩=some (.bool o)/\W.cell? ⟨w.heap.size+1,2,none⟩=some (.int .i64 u)/\W.cell? ⟨w.heap.size+1,3,none⟩=some (.int .i64 t):=by
 obtain⟨c0,c1,c2,_⟩:=lK h.1;obtain⟨c3,c4,c5,c6,_⟩:=rC h.2.1;exact⟨c0,c1,c2,c3,c4,c5,c6⟩
theorem vX(n f d:Int)(p:Option Addr)(k c:Nat)(o:Bool)(u t:Int)(w:World)(hn:n<=16):Calls Tryz.prog 205 #[iR n f d,cO (.slice p k c) o u t] w fun r w'=>r=.returned (.bool (decide (dI n k o u t)))/\Below w.heap.size w w':=by
 obtain⟨W0,hW0⟩:∃W0,W0=(w.alloc (.cells #[.int .i64 n,.int .i64 f,.int .i64 d] 28)).alloc (.cells #[.slice p k c,.bool o,.int .i64 u,.int .i64 t] 79):=⟨_,rfl⟩;have hX0:Hx w W0 n f d (.slice p k c) o u t:=by rw[hW0];exact qv _ _ _ _ _ _ _ _
 obtain⟨c0,c1,c2,c3,c4,c5,c6⟩:=hX0.Gg;have H:Hid (_/\Below w.heap.size w W0):=⟨hW0,hX0.2.2⟩;clear hW0 hX0;cases h1:decide ((k:Int)<=n)
 ·have E:Hid (decide (dI n k o u t)=false):=decide_eq_false fun h=>of_decide_eq_false h1 h.1
  go_enter Tryz.func205,Tryz.ntmps205
  go_wp2_with fail
  rw[<-H.out.1];go_wp2;go_ret;exact⟨by rw[E.out];rfl,H.out.2⟩
 cases h2:decide (0<=t/\t<=10)
 ·have E:Hid (decide (dI n k o u t)=false):=decide_eq_false fun h=>of_decide_eq_false h2 h.2.1
  go_enter Tryz.func205,Tryz.ntmps205
  go_wp2_with fail
  rw[<-H.out.1];refine(cd _ _ _ _).mono ?_;rintro e w' ⟨rfl,rfl⟩;rw[h2];go_wp2;go_ret;exact⟨by rw[E.out];rfl,H.out.2⟩
 cases h3:decide (0<=u/\u<=1099511628276)
 ·have E:Hid (decide (dI n k o u t)=false):=decide_eq_false fun h=>of_decide_eq_false h3 h.2.2.1
  go_enter Tryz.func205,Tryz.ntmps205
  go_wp2_with fail
  rw[<-H.out.1];refine(cd _ _ _ _).mono ?_;rintro e w' ⟨rfl,rfl⟩;rw[h2]
  go_wp2_with fail
  refine(cd _ _ _ _).mono ?_;rintro e w' ⟨rfl,rfl⟩;rw[h3];go_wp2;go_ret;exact⟨by rw[E.out];rfl,H.out.2⟩
 cases o
 ·have E:Hid (decide (dI n k false u t)=(u == 0)):=Bool.eq_iff_iff.2 ⟨fun h=>by simpa using(of_decide_eq_true h).2.2.2.resolve_left (by decide),fun h=>decide_eq_true ⟨of_decide_eq_true h1,of_decide_eq_true h2,of_decide_eq_true h3,.inr (by simpa using h)⟩⟩
  go_enter Tryz.func205,Tryz.ntmps205
  go_wp2_with fail
  rw[<-H.out.1];refine(cd _ _ _ _).mono ?_;rintro e w' ⟨rfl,rfl⟩;rw[h2]
  go_wp2_with fail
  refine(cd _ _ _ _).mono ?_;rintro e w' ⟨rfl,rfl⟩;rw[h3];go_wp2;go_ret;exact⟨by rw[E.out];rfl,H.out.2⟩
 ·have E:Hid (decide (dI n k true u t)=true):=decide_eq_true ⟨of_decide_eq_true h1,of_decide_eq_true h2,of_decide_eq_true h3,.inl rfl⟩
  go_enter Tryz.func205,Tryz.ntmps205
  go_wp2_with fail
  rw[<-H.out.1];refine(cd _ _ _ _).mono ?_;rintro e w' ⟨rfl,rfl⟩;rw[h2]
  go_wp2_with fail
  refine(cd _ _ _ _).mono ?_;rintro e w' ⟨rfl,rfl⟩;rw[h3];go_wp2;go_ret;exact⟨by rw[E.out];rfl,H.out.2⟩
theorem vF(n f d:Int)(p:Option Addr)(k c:Nat)(o:Bool)(u t now:Int)(w:World):Calls Tryz.prog 160 #[iR n f d,cO (.slice p k c) o u t,.int .i64 now] w fun r w'=>r=.returned (.int .i64 (cD n f d k o u t now))/\Below w.heap.size w w':=by
 obtain⟨W0,hW0⟩:∃W0,W0=(w.alloc (.cells #[.int .i64 n,.int .i64 f,.int .i64 d] 28)).alloc (.cells #[.slice p k c,.bool o,.int .i64 u,.int .i64 t] 79):=⟨_,rfl⟩;have hX0:Hx w W0 n f d (.slice p k c) o u t:=by rw[hW0];exact qv _ _ _ _ _ _ _ _
 obtain⟨c0,c1,c2,c3,c4,c5,c6⟩:=hX0.Gg;have H:Hid (_/\Hx _ _ _ _ _ _ _ _ _):=⟨hW0,hX0⟩;clear hW0 hX0;go_enter Tryz.func160,Tryz.ntmps160
 go_wp2_with fail
 rw[<-H.out.1];refine(oW n f d _).mono ?_;rintro r w1 ⟨rfl,hb1⟩;have hX1:=H.out.2.below hb1;clear c0 c1 c2 c3 c4 c5 c6 hb1 H;obtain⟨c0,c1,c2,c3,c4,c5,c6⟩:=hX1.Gg;have HX:Hid (Hx _ _ _ _ _ _ _ _ _):=hX1;clear hX1
 by_cases hok:dR n f d
 ·rw[Ef hok]
  have hn:=hok.1.2;cases h2:decide (0<=now/\now<=1099511627776)
  ·have E:Hid (cD n f d k o u t now=2):=(by unfold cD;rw[if_pos hok,if_neg (of_decide_eq_false h2)]:cD n f d k o u t now=2)
   clear hok
   go_wp2_with fail
   refine(cd _ _ _ _).mono ?_;rintro e w' ⟨rfl,rfl⟩;rw[h2];go_wp2;go_ret;exact⟨by rw[E.out];rfl,HX.out.2.2⟩
  cases h3:decide (dI n k o u t)
  ·have E:Hid (cD n f d k o u t now=6):=(by unfold cD;rw[if_pos hok,if_pos (of_decide_eq_true h2),if_neg (of_decide_eq_false h3)]:cD n f d k o u t now=6)
   have H3:Hid _:=h3;clear hok h3
   go_wp2_with fail
   refine(cd _ _ _ _).mono ?_;rintro e w' ⟨rfl,rfl⟩;rw[h2]
   go_wp2_with fail
   refine(vX n f d p k c o u t _ hn).mono ?_;rintro r w2 ⟨rfl,hb2⟩;rw[H3.out];have HB:Hid _:=HX.out.2.2.trans (hb2.mono HX.out.2.2.size);clear hb2 c0 c1 c2 c3 c4 c5 c6;go_wp2;go_ret;exact⟨by rw[E.out];rfl,HB.out⟩
  ·have E:Hid (cD n f d k o u t now=0):=(by unfold cD;rw[if_pos hok,if_pos (of_decide_eq_true h2),if_pos (of_decide_eq_true h3)]:cD n f d k o u t now=0)
   have H3:Hid _:=h3;clear hok h3
   go_wp2_with fail
   refine(cd _ _ _ _).mono ?_;rintro e w' ⟨rfl,rfl⟩;rw[h2]
   go_wp2_with fail
   refine(vX n f d p k c o u t _ hn).mono ?_;rintro r w2 ⟨rfl,hb2⟩;rw[H3.out];have HB:Hid _:=HX.out.2.2.trans (hb2.mono HX.out.2.2.size);clear hb2 c0 c1 c2 c3 c4 c5 c6;go_wp2;go_ret;exact⟨by rw[E.out];rfl,HB.out⟩
 ·rw[zG hok]
  have E:Hid (cD n f d k o u t now=2):=if_neg hok;clear hok;go_wp2;go_ret;exact⟨by rw[E.out];rfl,HX.out.2.2⟩
theorem pQ{p:Option Addr}{c:Nat}{m:List Bool}(ho:w.ownsRow base 4 1 (.slice p k c) k (bF m))(hb:base<=w.heap.size)(hk:k<=1000)(ty:TypeId)(u:Value)(hu:bK w u l)(hl:l.length<=1000):
  ∃p' c' w',(Builtin.append_ #[77,77] ty #[.slice p k c,u]).run Tryz.prog w=.ok (.slice p' (k+l.length) c') w' /\
   w'.ownsRow base 4 1 (.slice p' (k+l.length) c') (k+l.length) (bF (m++l))/\Below base w w':=by
 obtain⟨i0,hi,hz0,hz1,hz2⟩:=info_parts tG;obtain⟨a,cap,rfl,hc,hm,h⟩:=hu
 by_cases h0:l.length=0
 ·obtain rfl:l=[]:=List.length_eq_zero_iff.1 h0
  rw[List.append_nil];have hkc:k<=c/\c<=maxLen:=by
   rcases ho.2 with⟨he,h2⟩|⟨g,cap,cur,he,_,_,h5,h6,_⟩
   ·cases he;exact⟨Nat.le_refl _,by unfold maxLen;omega⟩
   ·cases he;exact⟨h5,h6⟩
  exact⟨p,c,w,kR w _ ty _ i0 Tryz.underlying77 hi p k c hkc.1 hkc.2 a cap,ho,Below.refl _ _⟩
 ·rcases h with⟨h,_⟩|⟨b,off,rfl,hb2,hcell⟩
  ·exact absurd h h0
  ·obtain⟨v',w',hr,ho',hg,_⟩:=run_append_own (P:=Tryz.prog) w base 77 ty 4 i0 _ 1 1 Tryz.underlying77 hi hz0 hz1 hz2 rfl (by decide) (.slice p k c) k (bF m) ho ⟨b,off,none⟩ l.length cap (bF l) (by rw[mt];omega) (fun j x hx=>by
    have hj:=(List.getElem?_eq_some_iff.1 hx).1;rw[eJ,hcell j hj,hx]) (xm l) (by unfold maxLen;omega) (by omega) hb
   rw[<-zX]at ho';obtain⟨p',c',rfl⟩:=cR ho';exact⟨p',c',w',hr,ho',(Below.refl _ _).grown hg hb (fun j e=>(ho.lt j e).1)⟩
theorem sv(v:Value)(l:List Bool)(w:World)(hv:bK w v l)(hl:l.length<=1000) :
  Calls Tryz.prog 83 #[v] w fun r w'=>∃p c,r=.returned (.slice p l.length c)/\w'.ownsRow w.heap.size 4 1 (.slice p l.length c) l.length (bF l)/\Below w.heap.size w w':=by
 obtain⟨p,c,rfl⟩:=hv.Ga;cases p with
 |none =>
  obtain rfl:l=[]:=by
   obtain⟨a,cap,he,_,_,h|⟨b,off,rfl,_⟩⟩:=hv
   ·exact List.length_eq_zero_iff.1 h.1
   ·cases he
  clear hv;have hnil:∀W,(binOp .eql 77 (.slice none 0 c) (.slice none 0 0)).run Tryz.prog W=.ok (.bool true) W:=fun W=>by kernel_rfl
  go_enter Tryz.func83,Tryz.ntmps83;go_wp2;go_ret;exact⟨none,0,rfl,World.ownsRow_nil _ _ _ _,Below.refl _ _⟩
 |some q =>
  have hnil:∀W,(binOp .eql 77 (.slice (some q) l.length c) (.slice none 0 0)).run Tryz.prog W=.ok (.bool false) W:=fun W=>by kernel_rfl
  have hown:(w.alloc (.cells #[] 4)).ownsRow w.heap.size 4 1 (.slice (some ⟨w.heap.size,0,none⟩) 0 0) 0 (bF []):=
   ⟨rfl,.inr ⟨w.heap.size,0,#[],rfl,Nat.le_refl _,heap_alloc_new _ _,Nat.le_refl _,Nat.zero_le _,rfl,rfl⟩⟩
  obtain⟨p',c',w4,hr,ho,hb4⟩:=pQ hown (by simp) (by omega) 77 _ (hv.below (ai w)) hl;rw[Nat.zero_add,List.nil_append]at ho;rw[Nat.zero_add]at hr;have HQ:Hid (_/\_/\_):=⟨hr,(ai w).trans hb4,ho⟩;clear hr hb4 ho hv hown;go_enter Tryz.func83,Tryz.ntmps83
  go_wp2_with (at_builtin;(with_reducible refine d7 rfl _ _ 77 rfl (.slice (some ⟨w.heap.size,0,none⟩) 0 0) (.slice (some q) l.length c) (.slice p' l.length c') w4 ?hs ?hx ?hr ?_);(case hs=>rfl);(case hx=>rfl);(case hr=>exact HQ.out.1))
  go_wp2;go_ret;exact⟨_,_,rfl,HQ.out.2.2,HQ.out.2.1⟩
theorem wU(n:Nat)(w:World)(h0:0<n)(hn:n<=1000) :
  Calls Tryz.prog 259 #[.slice none 0 0,.int .i64 n] w fun r w'=>∃g c,r=.returned (.slice (some ⟨g,0,none⟩) 0 c)/\w'.ownsRow w.heap.size 4 1 (.slice (some ⟨g,0,none⟩) 0 c) 0 (bF [])/\Below w.heap.size w w':=by
 obtain⟨i0,hi,hz0,hz1,hz2⟩:=info_parts tG;have hrz:∀ty,(Builtin.append_ #[77,3] ty #[.slice none 0 0,.int .i64 n]).run Tryz.prog w=.ok (.slice (some ⟨w.heap.size,0,none⟩) n (grownCap w n 0 4)) (w.drew.alloc (.cells (([]:List Value).toArray++Builtin.zeroCells (Value.bool false).cells n++Builtin.zeroCells (Value.bool false).cells (grownCap w n 0 4-n)) 4)):=fun ty=>by
  have h:=Lib.run_append_grow_zeros (P:=Tryz.prog) w 77 3 ty 4 i0 (.bool false) .i64 .i64 Tryz.underlying77 Tryz.underlying3 hi hz0 none 0 0 [] (run_firstCells_none w.drew i0.size 0 0 0) n h0 (by omega) (by omega) (by omega) (by rw[hz2];omega) (growslice_fits (by omega) (by rw[hz2];omega))
  simpa using h
 have hG:=grownCap_ge w n 0 4;have hG2:=grownCap_le_maxLen w n 0 4 (by unfold maxLen;omega);obtain⟨G,hGe⟩:∃G,G=grownCap w n 0 4:=⟨_,rfl⟩;rw[<-hGe]at hrz hG hG2;obtain⟨cs,hcs⟩:∃cs,cs=([]:List Value).toArray++Builtin.zeroCells (Value.bool false).cells n++Builtin.zeroCells (Value.bool false).cells (G-n):=⟨_,rfl⟩;have hsz:cs.size=G*1:=by rw[hcs];simp[size_zeroCells,Value.cells];omega
 rw[<-hcs]at hrz;have hown:(w.drew.alloc (.cells cs 4)).ownsRow w.heap.size 4 1 (.slice (some ⟨w.heap.size,0,none⟩) 0 G) 0 (bF []):=
  ⟨rfl,.inr ⟨w.heap.size,G,cs,rfl,Nat.le_refl _,heap_alloc_new w.drew _,Nat.zero_le _,hG2,hsz,by simp[bF]⟩⟩
 have hbel:Below w.heap.size w (w.drew.alloc (.cells cs 4)):=((Below.refl _ _).drew).alloc (Nat.le_refl _) _;have HQ:Hid (_/\_):=⟨hown,hbel⟩;have h1:¬((n:Int)<0):=by omega
 have h2:(0:Int)<(n:Int):=by omega
 unfold maxLen at hG2;clear hown hbel hsz hcs hGe hi hz0 hz1 hz2;go_enter Tryz.func259,Tryz.ntmps259
 go_wp2_with (at_builtin;refine Lib.wpList_append_run _ rfl _ _ _ _ rfl _ _ rfl rfl _ _ (hrz _) ?_)
 all_goals (go_ret;exact⟨_,_,rfl,HQ.out.1,HQ.out.2⟩)
theorem Ey(p:Option Addr)(c:Nat)(l:List Bool)(x:Bool)(g g2:Nat)(w:World)(hv:bK w (.slice p l.length c) l)(hl:l.length<=16)
  (hg:w.heap[g]?=some (.cells #[.slice p l.length c,.slice (some ⟨g2,0,none⟩) 1 1] 77 (0,0))) (hx:bK w (.slice (some ⟨g2,0,none⟩) 1 1) [x]) :
  Calls Tryz.prog 251 #[.slice (some ⟨g,0,none⟩) 2 2] w fun r w'=>∃p' c',r=.returned (.slice p' (l.length+1) c')/\w'.ownsRow w.heap.size 4 1 (.slice p' (l.length+1) c') (l.length+1) (bF (l++[x]))/\Below w.heap.size w w':=by
 obtain⟨a,ca,he,hca,hcm,_⟩:=hv.F6;cases he;unfold maxLen at hcm;obtain⟨c0,c1,_⟩:=au hg;have HV:Hid (_/\_/\_):=⟨hv,hx,hg⟩;clear hv hx hg;obtain⟨k,hk⟩:∃k,k=l.length:=⟨_,rfl⟩;have HK:Hid _:=hk;rw[<-hk]at c0 hca hl⊢;clear hk;go_enter Tryz.func251,Tryz.ntmps251;go_wp2
 go_loopw [3,11] (fun s i wr=>w=wr/\((i=.int .i64 0/\s=.int .i64 0)\/(i=.int .i64 1/\s=.int .i64 k)\/(i=.int .i64 2/\s=.int .i64 ((k:Int)+1)))) (fun _ i _=>2-(intOf i).toNat)
 case atStart=>exact⟨rfl,.inl ⟨rfl,rfl⟩⟩
 case round =>
  obtain⟨rfl,⟨rfl,rfl⟩|⟨rfl,rfl⟩|⟨rfl,rfl⟩⟩:=hrel
  ·go_wp2
   go_roundw
   case rel=>exact⟨trivial,.inr (.inl ⟨rfl,rfl⟩)⟩
   case measure=>simp[intOf]
  ·go_wp2
   go_roundw
   case rel=>exact⟨trivial,.inr (.inr ⟨rfl,rfl⟩)⟩
   case measure=>simp[intOf]
  ·have hG:∀W:World,Calls Tryz.prog 259 #[.slice none 0 0,.int .i64 ((k:Int)+1)] W fun r w'=>∃g c,r=.returned (.slice (some ⟨g,0,none⟩) 0 c)/\w'.ownsRow W.heap.size 4 1 (.slice (some ⟨g,0,none⟩) 0 c) 0 (bF [])/\Below W.heap.size W w':=fun W=>by
    have:=wU (k+1) W (by omega) (by omega);rwa[Int.natCast_add]at this
   have HG:Hid _:=hG;clear hG
   go_wp2_with fail
   refine(HG.out _).mono ?_;rintro r w1 ⟨g',c',rfl,ho,hb1⟩;have HW:Hid (_/\_):=⟨ho,hb1⟩;clear ho hb1 c0 c1 HG;go_wp2
   go_loopw [6,27] (fun s i wr=>∃q d,Below w.heap.size w wr/\((i=.int .i64 0/\s=.slice q 0 d/\wr.ownsRow w.heap.size 4 1 (.slice q 0 d) 0 (bF []))\/(i=.int .i64 1/\s=.slice q k d/\wr.ownsRow w.heap.size 4 1 (.slice q k d) k (bF l))\/(i=.int .i64 2/\s=.slice q (k+1) d/\wr.ownsRow w.heap.size 4 1 (.slice q (k+1) d) (k+1) (bF (l++[x]))))) (fun _ i _=>2-(intOf i).toNat)
   case atStart=>exact⟨_,_,HW.out.2,.inl ⟨rfl,rfl,HW.out.1⟩⟩
   case round =>
    obtain⟨q,d,hb,⟨rfl,rfl,ho⟩|⟨rfl,rfl,ho⟩|⟨rfl,rfl,ho⟩⟩:=hrel
    ·have hg':=af HV.out.2.2 hb
     obtain⟨c0,c1,_⟩:=au hg';obtain⟨q',d',w5,hr,ho',hb'⟩:=pQ ho hb.size (by omega) 77 _ (HV.out.1.below hb) (by rw[<-HK.out];omega);rw[Nat.zero_add,List.nil_append,<-HK.out]at ho';rw[Nat.zero_add]at hr;rw[<-HK.out]at hr c0;have HQ:Hid (_/\_/\_):=⟨hr,ho',hb.trans hb'⟩;clear hr ho' hb' hb ho hg'
     go_wp2_with (at_builtin;(with_reducible refine d7 rfl _ _ 77 rfl (.slice q 0 d) (.slice p k c) (.slice q' k d') w5 ?hs ?hx ?hr ?_);(case hs=>rfl);(case hx=>rfl);(case hr=>exact HQ.out.1))
     go_wp2
     go_roundw
     case rel=>exact⟨_,_,HQ.out.2.2,.inr (.inl ⟨rfl,rfl,HQ.out.2.1⟩)⟩
     case measure=>simp[intOf]
    ·have hg':=af HV.out.2.2 hb
     obtain⟨c0,c1,_⟩:=au hg';obtain⟨q',d',w5,hr,ho',hb'⟩:=pQ ho hb.size (by omega) 77 _ (HV.out.2.1.below hb) (by simp);have HQ:Hid (_/\_/\_):=⟨hr,ho',hb.trans hb'⟩;clear hr ho' hb' hb ho hg'
     go_wp2_with (at_builtin;(with_reducible refine d7 rfl _ _ 77 rfl (.slice q k d) (.slice (some ⟨g2,0,none⟩) 1 1) (.slice q' (k+1) d') w5 ?hs ?hx ?hr ?_);(case hs=>rfl);(case hx=>rfl);(case hr=>exact HQ.out.1))
     go_wp2
     go_roundw
     case rel=>exact⟨_,_,HQ.out.2.2,.inr (.inr ⟨rfl,rfl,HQ.out.2.1⟩)⟩
     case measure=>simp[intOf]
    ·have HQ:Hid (_/\_):=⟨ho,hb⟩
     clear ho hb;go_wp2;go_ret;exact⟨_,_,rfl,HQ.out.1,HQ.out.2⟩
def dd(n:Int)(l:List Bool)(x:Bool):List Bool:=(if(l.length:Int)<n then l else l.drop 1)++[x]
theorem uq(x:Bool)(h:(l.length:Int)<=n)(h1:1<=n):((dd n l x).length:Int)=min ((l.length:Int)+1) n:=by
 unfold dd
 split
 ·simp;omega
 ·simp;omega
def eh(l:List Bool):Nat:=l.countP id
theorem sD(l:List Bool):eh l<=l.length:=List.countP_le_length
theorem Ar(l:List Bool)(x:Bool):eh (l++[x])=eh l+(if x then 1 else 0):=by
 unfold eh;rw[List.countP_append];cases x <;> simp
theorem Az(v:Value)(l:List Bool)(w:World)(hv:bK w v l) :
  Calls Tryz.prog 229 #[v] w fun r w'=>r=.returned (.int .i64 (eh l))/\w'=w:=by
 obtain⟨a,ca,rfl,hca,hma,pa⟩:=hv.F6;unfold maxLen at hma;clear hv;go_enter Tryz.func229,Tryz.ntmps229;go_wp2
 go_loopw [3,8] (fun s i wr=>∃(k:Nat),i=.int .i64 k/\s=.int .i64 (eh (l.take k))/\k<=l.length/\w=wr) (fun _ i _=>l.length-(intOf i).toNat)
 case atStart=>exact⟨0,rfl,by simp[eh],Nat.zero_le _,rfl⟩
 case round =>
  obtain⟨k,rfl,rfl,hk,rfl⟩:=hrel
  by_cases hlt:k<l.length
  ·obtain⟨b1,o1,rfl,hb1,c1⟩:=pa k hlt
   have hs:eh (l.take (k+1))=eh (l.take k)+(if l[k]then 1 else 0):=by rw[List.take_succ_eq_append_getElem hlt,Ar]
   have hm:eh (l.take k)<=k:=Nat.le_trans (sD _) (by rw[List.length_take];omega);obtain⟨s,hss⟩:∃s,s=eh (l.take k):=⟨_,rfl⟩;rw[<-hss]at hs hm⊢;have hkd:(k:Int)<(l.length:Int):=by omega
   cases hx:l[k]
   ·rw[hx]at c1 hs
    have H:Hid _:=hs;clear hs hss hx pa;go_wp2
    go_roundw
    case rel=>exact⟨k+1,by simp,by rw[H.out];simp,hlt,trivial⟩
    case measure=>simp[intOf];omega
   ·rw[hx]at c1 hs
    have H:Hid _:=hs;clear hs hss hx pa;go_wp2
    go_roundw
    case rel=>exact⟨k+1,by simp,by rw[H.out];simp,hlt,trivial⟩
    case measure=>simp[intOf];omega
  ·obtain rfl:k=l.length:=by omega
   clear pa;rw[List.take_length];go_wp2;go_ret;exact⟨rfl,rfl⟩
theorem bK.IH{a:Addr}{c:Nat}(h:bK w (.slice (some a) l.length c) l)(h0:0<l.length):∀p,(p=some a/\l.length=1\/p=some ⟨a.block,a.off+1,none⟩)->bK w (.slice p (l.drop 1).length (c-1)) (l.drop 1):=by
 obtain⟨a',cap,he,hc,hm,h1|⟨b,off,rfl,h2,h3⟩⟩:=h
 ·omega
 ·cases he
  rintro p (⟨rfl,hp⟩|rfl)
  ·refine⟨_,_,rfl,by rw[List.length_drop];omega,by omega,.inl ⟨by rw[List.length_drop];omega,?_⟩⟩
   have:(l.drop 1).length=0:=by rw[List.length_drop];omega
   rw[List.length_eq_zero_iff.1 this];rfl
  ·refine⟨_,_,rfl,by rw[List.length_drop];omega,by omega,.inr ⟨b,off+1,rfl,h2,fun i hi=>?_⟩⟩
   rw[mt,List.length_drop]at hi;have:=h3 (i+1) (by rw[mt];omega);rw[show off+1+i=off+(i+1)by omega,this];simp[bF]
theorem xH(w:World)(x:Bool):bK (w.alloc (.cells #[.bool x] 4)) (.slice (some ⟨w.heap.size,0,none⟩) 1 1) [x]:=
 ⟨_,_,rfl,Nat.le_refl _,by unfold maxLen;omega,.inr ⟨w.heap.size,0,rfl,by simp,fun i hi=>by
  have h:=iV w (bF [x]) 4;obtain rfl:i=0:=by simp[bF]at hi;exact hi
  have:=h 0 (.bool x) rfl;rw[fG]at this;exact this⟩⟩
theorem DS(n:Int)(v:Value)(l:List Bool)(x:Bool)(w:World)(hv:bK w v l)(hn:1<=n/\n<=16)(hl:(l.length:Int)<=n) :
  Calls Tryz.prog 228 #[.int .i64 n,v,.bool x] w fun r w'=>∃p c,r=.returned (.slice p (dd n l x).length c)/\w'.ownsRow w.heap.size 4 1 (.slice p (dd n l x).length c) (dd n l x).length (bF (dd n l x))/\Below w.heap.size w w':=by
 obtain⟨p,c,rfl,hc,hcm,_⟩:=hv.F6;unfold maxLen at hcm;have key:∀(q:Option Addr) (k d:Nat) (m:List Bool),m.length=k->m.length<=16->bK w (.slice q k d) m->Calls Tryz.prog 251 #[.slice (some ⟨w.heap.size+1,0,none⟩) 2 2] ((w.alloc (.cells #[.bool x] 4)).alloc (.cells #[.slice q k d,.slice (some ⟨w.heap.size,0,none⟩) 1 1] 77)) fun r w'=>∃p' c' k',r=.returned (.slice p' k' c')/\k'=(m++[x]).length/\w'.ownsRow w.heap.size 4 1 (.slice p' k' c') k' (bF (m++[x]))/\Below w.heap.size w w':=by
  rintro q k d m rfl hm hq;have h1:Below w.heap.size w (w.alloc (.cells #[.bool x] 4)):=ai w;have h2:Below (w.alloc (.cells #[.bool x] 4)).heap.size (w.alloc (.cells #[.bool x] 4)) ((w.alloc (.cells #[.bool x] 4)).alloc (.cells #[.slice q m.length d,.slice (some ⟨w.heap.size,0,none⟩) 1 1] 77)):=ai _;refine(Ey q d m x (w.heap.size+1) w.heap.size _ ((hq.below h1).below h2) hm (bV _ _ _) ((xH w x).below h2)).mono ?_;rintro r w' ⟨p',c',rfl,h3,h4⟩;refine⟨p',c',m.length+1,rfl,by rw[List.length_append];rfl,h3.mono (h1.trans (h2.mono h1.size)).size,?_⟩;exact(h1.trans (h2.mono h1.size)).trans (h4.mono (h1.trans (h2.mono h1.size)).size)
 by_cases hlt:(l.length:Int)<n
 ·have E:dd n l x=l++[x]:=by unfold dd;rw[if_pos hlt]
  rw[E];have hmax:¬((0:Int)<(l.length:Int)+1-n):=by omega
  have K:Hid _:=key p l.length c l rfl (by omega) hv;clear key E hv;go_enter Tryz.func228,Tryz.ntmps228
  go_wp2_with fail
  refine Calls.mono K.out ?_;rintro r w' ⟨p',c',k',rfl,h2,h3,h4⟩;have H:Hid (_/\_/\_):=⟨h2,h3,h4⟩;clear h2 h3 h4;go_wp2;go_ret;exact⟨p',c',by rw[<-H.out.1];rfl,by rw[<-H.out.1];exact H.out.2.1,H.out.2.2⟩
 ·have E:dd n l x=l.drop 1++[x]:=by unfold dd;rw[if_neg hlt]
  rw[E];obtain rfl:n=l.length:=by omega
  obtain⟨a,ca,he,_,_,h|⟨b,off,rfl,_⟩⟩:=id hv
  ·omega
  ·cases he
   by_cases hc1:c=1
   ·subst hc1
    have K:Hid _:=key (some ⟨b,off,none⟩) 0 0 (l.drop 1) (by simp;omega) (by simp;omega) (by have:=hv.IH (by omega) _ (.inl ⟨rfl,by omega⟩);rwa[List.length_drop,show l.length-1=0 by omega]at this);clear key E hv;go_enter Tryz.func228,Tryz.ntmps228
    go_wp2_with fail
    refine Calls.mono K.out ?_;rintro r w' ⟨p',c',k',rfl,h2,h3,h4⟩;have H:Hid (_/\_/\_):=⟨h2,h3,h4⟩;clear h2 h3 h4;go_wp2;go_ret;exact⟨p',c',by rw[<-H.out.1];rfl,by rw[<-H.out.1];exact H.out.2.1,H.out.2.2⟩
   ·have K:Hid _:=key (some ⟨b,off+1,none⟩) (l.length-1) (c-1) (l.drop 1) (by simp) (by simp;omega) (by have:=hv.IH (by omega) _ (.inr rfl);rwa[List.length_drop]at this)
    clear key E hv;go_enter Tryz.func228,Tryz.ntmps228
    go_wp2_with fail
    refine Calls.mono K.out ?_;rintro r w' ⟨p',c',k',rfl,h2,h3,h4⟩;have H:Hid (_/\_/\_):=⟨h2,h3,h4⟩;clear h2 h3 h4;go_wp2;go_ret;exact⟨p',c',by rw[<-H.out.1];rfl,by rw[<-H.out.1];exact H.out.2.1,H.out.2.2⟩
section
open Go.Sort (grow grow_empty grow_grow alloc_eq_grow cell?_grow heap_grow_old)
theorem iB(w:World)(q:Nat)(os:Array Obj):Below w.heap.size w (grow (w.drewN q) os):=
 ⟨rfl,rfl,rfl,by simp[grow,World.drewN],fun k hk=>heap_grow_old (w.drewN q) os hk⟩
def fd(d t:Int):Int:=min (d*2 ^ t.toNat) 500
theorem BA(n f d t now:Int)(w:World)(hd:1<=d/\d<=500)(ht:0<=t/\t<=10)(hnow:0<=now/\now<=1099511627776) :
  Calls Tryz.prog 230 #[iR n f d,.int .i64 t,.int .i64 now] w fun r w'=>r=.returned (cO (.slice none 0 0) true (now+fd d t) (min (t+1) 10))/\Below w.heap.size w w':=by
 obtain⟨k,rfl⟩:=Int.eq_ofNat_of_zero_le ht.1;obtain⟨now0,now1⟩:=hnow;have hk:k<=10:=by omega
 clear ht;have hp:(1:Int)<=2 ^ k/\(2:Int) ^ k<=1024:=by
  have h1:(1:Nat)<=2 ^ k:=Nat.one_le_two_pow;have h2:2 ^ k<=2 ^ 10:=Nat.pow_le_pow_right (by decide) hk;have h3:((2 ^ k:Nat):Int)=(2:Int) ^ k:=by simp
  omega
 obtain⟨m,hm⟩:∃m,m=d*2 ^ k:=⟨_,rfl⟩;have m0:1<=m:=by rw[hm];have:=Int.mul_le_mul hd.1 hp.1 (by omega) (by omega);omega
 have m1:m<=512000:=by rw[hm];have:=Int.mul_le_mul hd.2 hp.2 (by omega) (by omega);omega
 have hsh:wrap64 (d*2 ^ k)=m:=by rw[<-hm];unfold wrap64;omega
 have E:Hid (fd d (k:Int)=min m 500):=(by unfold fd;rw[Int.toNat_natCast,<-hm]:fd d (k:Int)=min m 500);clear hm hp hd;obtain⟨W0,hW0⟩:∃W0,W0=w.alloc (.cells #[.int .i64 n,.int .i64 f,.int .i64 d] 28):=⟨_,rfl⟩;have hb0:Below w.heap.size w W0:=by rw[hW0];exact ai _
 have hs0:W0.heap.size=w.heap.size+1:=by rw[hW0];simp
 have H:Hid (_/\_/\_):=⟨hW0,hb0,hs0⟩;have key:∀u t:Int,(((w.alloc (.cells #[.int .i64 n,.int .i64 f,.int .i64 d] 28)).alloc (.cells #[.slice none 0 0,.bool true,.int .i64 u,.int .i64 t] 79)).heap[w.heap.size+1]?=some (.cells [.slice none 0 0,.bool true,.int .i64 u,.int .i64 t].toArray 79 (0,0)))/\Below w.heap.size w ((w.alloc (.cells #[.int .i64 n,.int .i64 f,.int .i64 d] 28)).alloc (.cells #[.slice none 0 0,.bool true,.int .i64 u,.int .i64 t] 79)):=fun u t=>⟨bV _ _ _,((Below.refl _ _).alloc (Nat.le_refl _) _).alloc (by simp) _⟩
 have KK:Hid _:=key;clear key hW0 hb0 hs0
 by_cases h1:m<=500
 ·have E1:Hid (min m 500=m):=(by omega:min m 500=m)
  by_cases h2:(k:Int)+1<=10
  ·have E2:Hid (min ((k:Int)+1) 10=k+1):=(by omega:min ((k:Int)+1) 10=k+1)
   go_enter Tryz.func230,Tryz.ntmps230;go_wp2;exact bodyPost_ret (v:=cO (.slice none 0 0) true (now+m) (k+1)) (ey Tryz.results230 rfl (aI (P:=Tryz.prog) (cs:=[.slice none 0 0,.bool true,.int .i64 (now+m),.int .i64 (k+1)]) (KK.out _ _).1 Tryz.underlying79 rfl (by kernel_rfl))) rfl ⟨by rw[E.out,E1.out,E2.out],(KK.out _ _).2⟩
  ·have E2:Hid (min ((k:Int)+1) 10=10):=(by omega:min ((k:Int)+1) 10=10)
   go_enter Tryz.func230,Tryz.ntmps230;go_wp2
   all_goals exact bodyPost_ret (v:=cO (.slice none 0 0) true (now+m) 10) (ey Tryz.results230 rfl (aI (P:=Tryz.prog) (cs:=[.slice none 0 0,.bool true,.int .i64 (now+m),.int .i64 10]) (KK.out _ _).1 Tryz.underlying79 rfl (by kernel_rfl))) rfl ⟨by rw[E.out,E1.out,E2.out],(KK.out _ _).2⟩
 ·have E1:Hid (min m 500=500):=(by omega:min m 500=500)
  by_cases h2:(k:Int)+1<=10
  ·have E2:Hid (min ((k:Int)+1) 10=k+1):=(by omega:min ((k:Int)+1) 10=k+1)
   go_enter Tryz.func230,Tryz.ntmps230;go_wp2;exact bodyPost_ret (v:=cO (.slice none 0 0) true (now+500) (k+1)) (ey Tryz.results230 rfl (aI (P:=Tryz.prog) (cs:=[.slice none 0 0,.bool true,.int .i64 (now+500),.int .i64 (k+1)]) (KK.out _ _).1 Tryz.underlying79 rfl (by kernel_rfl))) rfl ⟨by rw[E.out,E1.out,E2.out],(KK.out _ _).2⟩
  ·have E2:Hid (min ((k:Int)+1) 10=10):=(by omega:min ((k:Int)+1) 10=10)
   go_enter Tryz.func230,Tryz.ntmps230;go_wp2;exact bodyPost_ret (v:=cO (.slice none 0 0) true (now+500) 10) (ey Tryz.results230 rfl (aI (P:=Tryz.prog) (cs:=[.slice none 0 0,.bool true,.int .i64 (now+500),.int .i64 10]) (KK.out _ _).1 Tryz.underlying79 rfl (by kernel_rfl))) rfl ⟨by rw[E.out,E1.out,E2.out],(KK.out _ _).2⟩
def Hy(w W:World)(n f d:Int)(v:Value)(o:Bool)(u t:Int)(v':Value)(o':Bool)(u' t':Int):Prop :=
 Hx w W n f d v o u t/\W.heap[w.heap.size+1+1]?=some (.cells #[v',.bool o',.int .i64 u',.int .i64 t'] 79 (0,0))
section
variable {w W:World}{n f d:Int}{v:Value}{o:Bool}{u t:Int}{v':Value}{o':Bool}{u' t':Int}
theorem sT(w:World)(n f d:Int)(v:Value)(o:Bool)(u t:Int)(v':Value)(o':Bool)(u' t':Int):Hy w (((w.alloc (.cells #[.int .i64 n,.int .i64 f,.int .i64 d] 28)).alloc (.cells #[v,.bool o,.int .i64 u,.int .i64 t] 79)).alloc (.cells #[v',.bool o',.int .i64 u',.int .i64 t'] 79)) n f d v o u t v' o' u' t' :=
 ⟨(qv w n f d v o u t).below (ai _),lC _ _ _ _⟩
theorem Hy.below{W':World}(h:Hy w W n f d v o u t v' o' u' t')(hb:Below W.heap.size W W'):Hy w W' n f d v o u t v' o' u' t' :=
 ⟨h.1.below hb,af h.2 hb⟩
theorem zK{d a' b' c' d':Value}(h:w.heap[g]?=some (.cells #[a,b,c,d] T (0,0))):((((w.setCell ⟨g,0,none⟩ a').setCell ⟨g,1,none⟩ b').setCell ⟨g,2,none⟩ c').setCell ⟨g,3,none⟩ d').heap[g]?=some (.cells #[a',b',c',d'] T (0,0)):=
 heap_setCell_same _ _ 3 _ _ d' (heap_setCell_same _ _ 2 _ _ c' (heap_setCell_same _ _ 1 _ _ b' (heap_setCell_same w g 0 _ _ a' h)))
abbrev nJ(W:World)(g:Nat)(a b c d:Value):World:=(((W.setCell ⟨g,0,none⟩ a).setCell ⟨g,1,none⟩ b).setCell ⟨g,2,none⟩ c).setCell ⟨g,3,none⟩ d
theorem ur{d:Value}(h:k≠g):(nJ W g a b c d).heap[k]?=W.heap[k]?:=by
 unfold nJ;rw[Below.heap_setCell _ _ _ _ h,Below.heap_setCell _ _ _ _ h,Below.heap_setCell _ _ _ _ h,Below.heap_setCell _ _ _ _ h]
theorem Hy.F4(h:Hy w W n f d v o u t v' o' u' t')(a:Value)(b:Bool)(c e:Int):Hy w (nJ W (w.heap.size+1+1) a (.bool b) (.int .i64 c) (.int .i64 e)) n f d v o u t a b c e :=
 ⟨⟨(ur (by omega)).trans h.1.1,(ur (by omega)).trans h.1.2.1,(((h.1.2.2.setCell (by simp;omega) _).setCell (by simp;omega) _).setCell (by simp;omega) _).setCell (by simp;omega) _⟩,zK h.2⟩
theorem Hy.Gi(h:Hy w W n f d v o u t v' o' u' t')(a:Value):Hy w (W.setCell ⟨w.heap.size+1,0,none⟩ a) n f d a o u t v' o' u' t' :=
 ⟨⟨(Below.heap_setCell _ _ _ _ (by simp)).trans h.1.1,heap_setCell_same W _ 0 _ _ a h.1.2.1,h.1.2.2.setCell (by simp) _⟩,(Below.heap_setCell _ _ _ _ (by simp)).trans h.2⟩
theorem Hy.res(h:Hy w W n f d v o u t v' o' u' t'){fn:Func}{i y z:Tmp}(hr:fn.results=#[.cell i 79,.tmp y,.tmp z]){tmps:Array Value}{e1 e2:Value}(hx:tmps.getD i undef=.pointer (some ⟨w.heap.size+1+1,0,none⟩))(hy:tmps.getD y undef=e1)(hz:tmps.getD z undef=e2) :
  (results fn tmps).run Tryz.prog W=.ok (.tuple #[cO v' o' u' t',e1,e2]) W :=
 kP hr hx hy hz (aI (P:=Tryz.prog) (cs:=[v',.bool o',.int .i64 u',.int .i64 t']) h.2 Tryz.underlying79 rfl (by kernel_rfl))
theorem Hy.bel(h:Hy w W n f d v o u t v' o' u' t'):Below w.heap.size w W:=h.1.2.2
theorem Hy.Gg(h:Hy w W n f d v o u t v' o' u' t'):W.cell? ⟨w.heap.size,0,none⟩=some (.int .i64 n)/\W.cell? ⟨w.heap.size,1,none⟩=some (.int .i64 f)/\W.cell? ⟨w.heap.size,2,none⟩=some (.int .i64 d)/\W.cell? ⟨w.heap.size+1,0,none⟩=some v/\W.cell? ⟨w.heap.size+1,1,none⟩=some (.bool o)/\W.cell? ⟨w.heap.size+1,2,none⟩=some (.int .i64 u)/\W.cell? ⟨w.heap.size+1,3,none⟩=some (.int .i64 t)/\W.frozen? ⟨w.heap.size+1,0,none⟩=false/\W.frozen? ⟨w.heap.size+1,1,none⟩=false/\W.frozen? ⟨w.heap.size+1,2,none⟩=false/\W.cell? ⟨w.heap.size+1+1,0,none⟩=some v'/\W.cell? ⟨w.heap.size+1+1,1,none⟩=some (.bool o')/\W.cell? ⟨w.heap.size+1+1,2,none⟩=some (.int .i64 u')/\W.cell? ⟨w.heap.size+1+1,3,none⟩=some (.int .i64 t')/\W.frozen? ⟨w.heap.size+1+1,0,none⟩=false/\W.frozen? ⟨w.heap.size+1+1,1,none⟩=false/\W.frozen? ⟨w.heap.size+1+1,2,none⟩=false/\W.frozen? ⟨w.heap.size+1+1,3,none⟩=false:=by
 obtain⟨c0,c1,c2,c3,c4,c5,c6⟩:=h.1.Gg;obtain⟨f0,f1,f2,f3⟩:=ry h.1.2.1;obtain⟨d0,d1,d2,d3,_⟩:=rC h.2;obtain⟨g0,g1,g2,g3⟩:=ry h.2;exact⟨c0,c1,c2,c3,c4,c5,c6,f0,f1,f2,d0,d1,d2,d3,g0,g1,g2,g3⟩
end
abbrev kW:=(List Bool×Bool×Int×Int)×Bool×Int
def di(n f d:Int)(l:List Bool)(o:Bool)(u t:Int)(x:Bool)(now:Int)(may:Bool):kW :=
 if cD n f d l.length o u t now=0 then
  (if o=false/\may=true/\f<=(eh (dd n l x):Int)then(([],true,now+fd d t,min (t+1) 10),true,0)else((dd n l x,o,u,t),false,0))
 else(([],false,0,0),false,cD n f d l.length o u t now)
def da(n f d:Int)(l:List Bool)(o:Bool)(u t:Int)(now:Int):kW :=
 if cD n f d l.length o u t now=0 then
  (if o=true/\u<=now then((l,false,0,t),true,0)else((l,o,u,t),false,0))
 else(([],false,0,0),false,cD n f d l.length o u t now)
def mL(w:World)(O:kW)(r:Ending)(w':World):Prop :=
 ∃p c,r=.returned (.tuple #[cO (.slice p O.1.1.length c) O.1.2.1 O.1.2.2.1 O.1.2.2.2,.bool O.2.1,.int .i64 O.2.2])/\bK w' (.slice p O.1.1.length c) O.1.1/\(∀b,Value.ownBlock (.slice p O.1.1.length c)=some b->w.heap.size<=b)/\Below w.heap.size w w'
theorem lc{b:Bool}{e:Int}{O:kW}(h:O=(([],o,u,t),b,e))(hb:Below w.heap.size w w'):mL w O (.returned (.tuple #[cO (.slice none 0 0) o u t,.bool b,.int .i64 e])) w':=by
 subst h;exact⟨none,0,rfl,pC _,(by intro b h;cases h),hb⟩
theorem ke{w2:World}{p:Option Addr}{c:Nat}{b:Bool}{e:Int}{O:kW}(h:O=((l,o,u,t),b,e))(hk:k=l.length)(hl:bK w' (.slice p k c) l)(hb:Below w.heap.size w w')(ho:w2.ownsRow base 4 1 (.slice p k c) k xs)(hbase:w.heap.size<=base):mL w O (.returned (.tuple #[cO (.slice p k c) o u t,.bool b,.int .i64 e])) w':=by
 subst h hk;exact⟨p,c,rfl,hl,fun b hb=>Nat.le_trans hbase (ho.lt b hb).1,hb⟩
theorem fM{e:TypeId}{n:Nat}(h:w.ownsRow base e k v n xs){a:Addr}{y:Value}(ha:a.block<base):(w.setCell a y).ownsRow base e k v n xs :=
 aw h fun g hg=>Below.heap_setCell _ _ _ _ (by have:=(h.lt g hg).1;omega)
theorem kf{e:TypeId}{n:Nat}(h:w.ownsRow base e k v n xs){y0 y1 y2 y3:Value}(ha:g<base):(nJ w g y0 y1 y2 y3).ownsRow base e k v n xs :=
 fM (fM (fM (fM h ha) ha) ha) ha
theorem CZ(n f d:Int)(v:Value)(l:List Bool)(o:Bool)(u t:Int)(x:Bool)(now:Int)(may:Bool)(w:World)(hv:bK w v l)(hl:l.length<=140737488355328) :
  Calls Tryz.prog 187 #[iR n f d,cO v o u t,.bool x,.int .i64 now,.bool may] w (mL w (di n f d l o u t x now may)):=by
 obtain⟨p,c,rfl⟩:=hv.Ga;obtain⟨W0,hW0⟩:∃W0,W0=((w.alloc (.cells #[.int .i64 n,.int .i64 f,.int .i64 d] 28)).alloc (.cells #[.slice p l.length c,.bool o,.int .i64 u,.int .i64 t] 79)).alloc (.cells #[.slice none 0 0,.bool false,.int .i64 0,.int .i64 0] 79):=⟨_,rfl⟩;have hX0:Hy w W0 n f d (.slice p l.length c) o u t (.slice none 0 0) false 0 0:=by rw[hW0];exact sT _ _ _ _ _ _ _ _ _ _ _ _
 obtain⟨c0,c1,c2,c3,c4,c5,c6,_⟩:=hX0.Gg;have H:Hid (_/\Hy _ _ _ _ _ _ _ _ _ _ _ _ _/\bK _ _ _):=⟨hW0,hX0,hv⟩;clear hW0 hX0 hv;go_enter Tryz.func187,Tryz.ntmps187
 go_wp2_with fail
 rw[<-H.out.1];refine(vF n f d p l.length c o u t now _).mono ?_;rintro r w1 ⟨rfl,hb1⟩;have HX:Hid (Hy _ _ _ _ _ _ _ _ _ _ _ _ _/\bK _ _ _):=⟨H.out.2.1.below hb1,H.out.2.2.below (H.out.2.1.bel.trans (hb1.mono H.out.2.1.bel.size))⟩;clear c0 c1 c2 c3 c4 c5 c6 hb1 H;obtain⟨c0,c1,c2,c3,c4,c5,c6,f0,f1,f2,d0,d1,d2,d3,g0,g1,g2,g3⟩:=HX.out.1.Gg;rcases uY n f d l.length o u t now with⟨hE,_⟩|⟨hE,_⟩|⟨hE,hok,hnow,hh⟩
 ·have E:Hid (di n f d l o u t x now may=(([],false,0,0),false,2)):=(by unfold di;rw[hE,if_neg (by decide)]:di n f d l o u t x now may=(([],false,0,0),false,2))
  rw[hE];clear hE;go_wp2;exact bodyPost_ret (v:=.tuple #[cO (.slice none 0 0) false 0 0,.bool false,.int .i64 2]) ((HX.out.1.F4 _ _ _ _).res Tryz.results187 rfl rfl rfl) rfl (lc E.out (HX.out.1.F4 _ _ _ _).bel)
 ·have E:Hid (di n f d l o u t x now may=(([],false,0,0),false,6)):=(by unfold di;rw[hE,if_neg (by decide)]:di n f d l o u t x now may=(([],false,0,0),false,6))
  rw[hE];clear hE;go_wp2;exact bodyPost_ret (v:=.tuple #[cO (.slice none 0 0) false 0 0,.bool false,.int .i64 6]) ((HX.out.1.F4 _ _ _ _).res Tryz.results187 rfl rfl rfl) rfl (lc E.out (HX.out.1.F4 _ _ _ _).bel)
 ·have E:Hid (di n f d l o u t x now may=if o=false/\may=true/\f<=(eh (dd n l x):Int)then(([],true,now+fd d t,min (t+1) 10),true,0)else((dd n l x,o,u,t),false,0)):=if_pos hE
  rw[hE];clear hE;have HL:Hid _:=DS n (.slice p l.length c) l x w1 HX.out.2 hok.1 hh.1
  go_wp2_with fail
  refine Calls.mono HL.out ?_;rintro r w2 ⟨p',c',rfl,ho,hb2⟩;obtain⟨k,hk⟩:∃k,k=(dd n l x).length:=⟨_,rfl⟩;rw[<-hk]at ho⊢;have HO:Hid (Hy _ _ _ _ _ _ _ _ _ _ _ _ _/\_/\_/\w.heap.size+1+1<w1.heap.size):=⟨HX.out.1.below hb2,ho,hk,(Array.getElem?_eq_some_iff.1 HX.out.1.2).1⟩;clear ho hb2 hk HX HL c0 c1 c2 c3 c4 c5 c6 f0 f1 f2 d0 d1 d2 d3 g0 g1 g2 g3;obtain⟨c0,c1,c2,c3,c4,c5,c6,f0,f1,f2,d0,d1,d2,d3,g0,g1,g2,g3⟩:=HO.out.1.Gg;have HF:Hid (∀(q:Nat) (os:Array Obj),Calls Tryz.prog 229 #[.slice p' k c'] (grow (w2.drewN q) os) fun r w'=>r=.returned (.int .i64 (eh (dd n l x)))/\∃q' os',w'=grow ((grow (w2.drewN q) os).drewN q') os'):=fun(q:Nat) (os:Array Obj)=>by
   refine(Az _ (dd n l x) _ ((iW (by rw[<-HO.out.2.2.1];exact HO.out.2.1)).below (iB _ _ _))).mono ?_;rintro r w' ⟨rfl,rfl⟩;exact⟨rfl,0,#[],(grow_empty _).symm⟩
  have hcnt:(eh (dd n l x):Int)<=16:=by
   have h1:=sD (dd n l x);have h2:=uq x hh.1 hok.1.1;omega
  have hf:f<=16:=by omega
  generalize eh (dd n l x)=m at *;have k1:∀n' os,(grow (w2.drewN n') os).cell? ⟨w.heap.size,1,none⟩=some (.int .i64 f):=cell_grown (World.block_lt_of_cell? _ _ c1) c1;have k4:∀n' os,(grow (w2.drewN n') os).cell? ⟨w.heap.size+1,1,none⟩=some (.bool o):=cell_grown (World.block_lt_of_cell? _ _ c4) c4;have stays:∀(W':World),Below w2.heap.size w2 W'->o=true\/may=false\/¬(f<=(m:Int))->di n f d l o u t x now may=((dd n l x,o,u,t),false,0):=fun _ _ h=>by
   rw[E.out,if_neg];rintro⟨h1,h2,h3⟩;rcases h with h|h|h
   ·rw[h1]at h;cases h
   ·rw[h2]at h;cases h
   ·exact h h3
  have ST:Hid _:=stays;clear stays;cases o
  case true =>
   have E2:=ST.out w2 (Below.refl _ _) (.inl rfl);have EE:Hid _:=E2;clear E2
   go_wp2_with fail
   refine wp_region_quiet_grown bB (by kernel_rfl) ?_
   repeat (first|go_big_quiet_skip|quiet_step (first|(go_at_call 229;exact Calls.grown_of (HF.out _ _))))
   refine wpQuiet_nil ?_;intro _ hw';obtain⟨⟨nq,osq⟩,hw''⟩:=hw';subst hw'';have HO2:Hid (Hy _ _ _ _ _ _ _ _ _ _ _ _ _/\_):=⟨HO.out.1.below (iB w2 nq osq),cq HO.out.2.1 (iB w2 nq osq)⟩;clear c0 c1 c2 c3 c4 c5 c6 f0 f1 f2 d0 d1 d2 d3 g0 g1 g2 g3 k1 k4;generalize grow (w2.drewN nq) osq=w3 at HO2⊢;obtain⟨c0,c1,c2,c3,c4,c5,c6,f0,f1,f2,d0,d1,d2,d3,g0,g1,g2,g3⟩:=HO2.out.1.Gg;go_wp2;exact bodyPost_ret (v:=.tuple #[cO (.slice p' k c') true u t,.bool false,.int .i64 0]) (((HO2.out.1.Gi _).F4 _ _ _ _).res Tryz.results187 rfl rfl rfl) rfl (ke EE.out HO.out.2.2.1 (iW (base:=w1.heap.size) (by rw[<-HO.out.2.2.1];exact kf (fM HO2.out.2 (by have:=HO.out.2.2.2;simp;omega)) HO.out.2.2.2)) ((HO2.out.1.Gi _).F4 _ _ _ _).bel HO.out.2.1 (by have:=HO.out.2.2.2;omega))
  case false =>
   cases may
   case false =>
    have E2:=ST.out w2 (Below.refl _ _) (.inr (.inl rfl));have EE:Hid _:=E2;clear E2
    go_wp2_with fail
    refine wp_region_quiet_grown bB (by kernel_rfl) ?_
    repeat (first|go_big_quiet_skip|quiet_step (first|(go_at_call 229;exact Calls.grown_of (HF.out _ _))))
    refine wpQuiet_nil ?_;intro _ hw';obtain⟨⟨nq,osq⟩,hw''⟩:=hw';subst hw'';have HO2:Hid (Hy _ _ _ _ _ _ _ _ _ _ _ _ _/\_):=⟨HO.out.1.below (iB w2 nq osq),cq HO.out.2.1 (iB w2 nq osq)⟩;clear c0 c1 c2 c3 c4 c5 c6 f0 f1 f2 d0 d1 d2 d3 g0 g1 g2 g3 k1 k4;generalize grow (w2.drewN nq) osq=w3 at HO2⊢;obtain⟨c0,c1,c2,c3,c4,c5,c6,f0,f1,f2,d0,d1,d2,d3,g0,g1,g2,g3⟩:=HO2.out.1.Gg;go_wp2;exact bodyPost_ret (v:=.tuple #[cO (.slice p' k c') false u t,.bool false,.int .i64 0]) (((HO2.out.1.Gi _).F4 _ _ _ _).res Tryz.results187 rfl rfl rfl) rfl (ke EE.out HO.out.2.2.1 (iW (base:=w1.heap.size) (by rw[<-HO.out.2.2.1];exact kf (fM HO2.out.2 (by have:=HO.out.2.2.2;simp;omega)) HO.out.2.2.2)) ((HO2.out.1.Gi _).F4 _ _ _ _).bel HO.out.2.1 (by have:=HO.out.2.2.2;omega))
   case true =>
    cases hm:decide (f<=(m:Int))
    case false =>
     have E2:=ST.out w2 (Below.refl _ _) (.inr (.inr (of_decide_eq_false hm)));have EE:Hid _:=E2;clear E2
     go_wp2_with fail
     refine wp_region_quiet_grown bB (by kernel_rfl) ?_
     repeat (first|go_big_quiet_skip|quiet_step (first|(go_at_call 229;exact Calls.grown_of (HF.out _ _))))
     refine wpQuiet_nil ?_;intro _ hw';obtain⟨⟨nq,osq⟩,hw''⟩:=hw';subst hw'';have HO2:Hid (Hy _ _ _ _ _ _ _ _ _ _ _ _ _/\_):=⟨HO.out.1.below (iB w2 nq osq),cq HO.out.2.1 (iB w2 nq osq)⟩;clear c0 c1 c2 c3 c4 c5 c6 f0 f1 f2 d0 d1 d2 d3 g0 g1 g2 g3 k1 k4;generalize grow (w2.drewN nq) osq=w3 at HO2⊢;obtain⟨c0,c1,c2,c3,c4,c5,c6,f0,f1,f2,d0,d1,d2,d3,g0,g1,g2,g3⟩:=HO2.out.1.Gg;go_wp2;exact bodyPost_ret (v:=.tuple #[cO (.slice p' k c') false u t,.bool false,.int .i64 0]) (((HO2.out.1.Gi _).F4 _ _ _ _).res Tryz.results187 rfl rfl rfl) rfl (ke EE.out HO.out.2.2.1 (iW (base:=w1.heap.size) (by rw[<-HO.out.2.2.1];exact kf (fM HO2.out.2 (by have:=HO.out.2.2.2;simp;omega)) HO.out.2.2.2)) ((HO2.out.1.Gi _).F4 _ _ _ _).bel HO.out.2.1 (by have:=HO.out.2.2.2;omega))
    case true =>
     have E2:di n f d l false u t x now true=(([],true,now+fd d t,min (t+1) 10),true,0):=by rw[E.out,if_pos ⟨rfl,rfl,of_decide_eq_true hm⟩]
     have EE:Hid _:=E2;have HT:Hid (∀W,_):=fun W=>BA n f d t now W hok.2.2 hh.2.1 hnow
     clear E2
     go_wp2_with fail
     refine wp_region_quiet_grown bB (by kernel_rfl) ?_
     repeat (first|go_big_quiet_skip|quiet_step (first|(go_at_call 229;exact Calls.grown_of (HF.out _ _))))
     refine wpQuiet_nil ?_;intro _ hw';obtain⟨⟨nq,osq⟩,hw''⟩:=hw';subst hw'';have HO2:Hid (Hy _ _ _ _ _ _ _ _ _ _ _ _ _/\_):=⟨HO.out.1.below (iB w2 nq osq),cq HO.out.2.1 (iB w2 nq osq)⟩;clear c0 c1 c2 c3 c4 c5 c6 f0 f1 f2 d0 d1 d2 d3 g0 g1 g2 g3 k1 k4;generalize grow (w2.drewN nq) osq=w3 at HO2⊢;obtain⟨c0,c1,c2,c3,c4,c5,c6,f0,f1,f2,d0,d1,d2,d3,g0,g1,g2,g3⟩:=HO2.out.1.Gg;clear HF hm hcnt hf hok hh hnow ST
     go_wp2_with fail
     refine(HT.out _).mono ?_;rintro r w4 ⟨rfl,hb4⟩;have HO3:Hid (Hy _ _ _ _ _ _ _ _ _ _ _ _ _):=HO2.out.1.below hb4;clear c0 c1 c2 c3 c4 c5 c6 f0 f1 f2 d0 d1 d2 d3 g0 g1 g2 g3 hb4;obtain⟨c0,c1,c2,c3,c4,c5,c6,f0,f1,f2,d0,d1,d2,d3,g0,g1,g2,g3⟩:=HO3.out.Gg;generalize now+fd d t=hu at *;generalize min (t+1) 10=ht at *;go_wp2;exact bodyPost_ret (v:=.tuple #[cO (.slice none 0 0) true hu ht,.bool true,.int .i64 0]) ((HO3.out.F4 _ _ _ _).res Tryz.results187 rfl rfl rfl) rfl (lc EE.out (HO3.out.F4 _ _ _ _).bel)
end
section
variable {w W:World}{n f d:Int}{v:Value}{o:Bool}{u t:Int}{v':Value}{o':Bool}{u' t':Int}
theorem Hy.IM(h:Hy w W n f d v o u t v' o' u' t')(b:Bool)(c:Int):Hy w ((W.setCell ⟨w.heap.size+1,1,none⟩ (.bool b)).setCell ⟨w.heap.size+1,2,none⟩ (.int .i64 c)) n f d v b c t v' o' u' t' :=
 ⟨⟨(Below.heap_setCell _ _ _ _ (by simp)).trans ((Below.heap_setCell _ _ _ _ (by simp)).trans h.1.1),heap_setCell_same _ _ 2 _ _ _ (heap_setCell_same W _ 1 _ _ _ h.1.2.1),(h.1.2.2.setCell (by simp) _).setCell (by simp) _⟩,(Below.heap_setCell _ _ _ _ (by simp)).trans ((Below.heap_setCell _ _ _ _ (by simp)).trans h.2)⟩
end
theorem uE(n f d:Int)(v:Value)(l:List Bool)(o:Bool)(u t:Int)(now:Int)(w:World)(hv:bK w v l) :
  Calls Tryz.prog 117 #[iR n f d,cO v o u t,.int .i64 now] w (mL w (da n f d l o u t now)):=by
 obtain⟨p,c,rfl⟩:=hv.Ga;obtain⟨W0,hW0⟩:∃W0,W0=((w.alloc (.cells #[.int .i64 n,.int .i64 f,.int .i64 d] 28)).alloc (.cells #[.slice p l.length c,.bool o,.int .i64 u,.int .i64 t] 79)).alloc (.cells #[.slice none 0 0,.bool false,.int .i64 0,.int .i64 0] 79):=⟨_,rfl⟩;have hX0:Hy w W0 n f d (.slice p l.length c) o u t (.slice none 0 0) false 0 0:=by rw[hW0];exact sT _ _ _ _ _ _ _ _ _ _ _ _
 obtain⟨c0,c1,c2,c3,c4,c5,c6,_⟩:=hX0.Gg;have H:Hid (_/\Hy _ _ _ _ _ _ _ _ _ _ _ _ _/\bK _ _ _):=⟨hW0,hX0,hv⟩;clear hW0 hX0 hv;go_enter Tryz.func117,Tryz.ntmps117
 go_wp2_with fail
 rw[<-H.out.1];refine(vF n f d p l.length c o u t now _).mono ?_;rintro r w1 ⟨rfl,hb1⟩;have HX:Hid (Hy _ _ _ _ _ _ _ _ _ _ _ _ _/\bK _ _ _):=⟨H.out.2.1.below hb1,H.out.2.2.below (H.out.2.1.bel.trans (hb1.mono H.out.2.1.bel.size))⟩;clear c0 c1 c2 c3 c4 c5 c6 hb1 H;obtain⟨c0,c1,c2,c3,c4,c5,c6,f0,f1,f2,d0,d1,d2,d3,g0,g1,g2,g3⟩:=HX.out.1.Gg;rcases uY n f d l.length o u t now with⟨hE,_⟩|⟨hE,_⟩|⟨hE,hok,hnow,hh⟩
 ·have E:Hid (da n f d l o u t now=(([],false,0,0),false,2)):=(by unfold da;rw[hE,if_neg (by decide)]:da n f d l o u t now=(([],false,0,0),false,2))
  rw[hE];clear hE;go_wp2;exact bodyPost_ret (v:=.tuple #[cO (.slice none 0 0) false 0 0,.bool false,.int .i64 2]) ((HX.out.1.F4 _ _ _ _).res Tryz.results117 rfl rfl rfl) rfl (lc E.out (HX.out.1.F4 _ _ _ _).bel)
 ·have E:Hid (da n f d l o u t now=(([],false,0,0),false,6)):=(by unfold da;rw[hE,if_neg (by decide)]:da n f d l o u t now=(([],false,0,0),false,6))
  rw[hE];clear hE;go_wp2;exact bodyPost_ret (v:=.tuple #[cO (.slice none 0 0) false 0 0,.bool false,.int .i64 6]) ((HX.out.1.F4 _ _ _ _).res Tryz.results117 rfl rfl rfl) rfl (lc E.out (HX.out.1.F4 _ _ _ _).bel)
 ·have E:Hid (da n f d l o u t now=if o=true/\u<=now then((l,false,0,t),true,0)else((l,o,u,t),false,0)):=if_pos hE
  rw[hE];clear hE;have HL:Hid _:=sv (.slice p l.length c) l w1 HX.out.2 (by have:=hh.1;omega)
  go_wp2_with fail
  refine Calls.mono HL.out ?_;rintro r w2 ⟨p',c',rfl,ho,hb2⟩;obtain⟨k,hk⟩:∃k,k=l.length:=⟨_,rfl⟩;have HO:Hid (Hy _ _ _ _ _ _ _ _ _ _ _ _ _/\_/\w.heap.size+1+1<w1.heap.size):=⟨HX.out.1.below hb2,ho,(Array.getElem?_eq_some_iff.1 HX.out.1.2).1⟩;clear ho hb2 hk HX HL c0 c1 c2 c3 c4 c5 c6 f0 f1 f2 d0 d1 d2 d3 g0 g1 g2 g3 hok;obtain⟨c0,c1,c2,c3,c4,c5,c6,f0,f1,f2,d0,d1,d2,d3,g0,g1,g2,g3⟩:=HO.out.1.Gg;cases o
  case false =>
   have EE:Hid (da n f d l false u t now=((l,false,u,t),false,0)):=(by rw[E.out,if_neg (fun h=>by cases h.1)]:da n f d l false u t now=((l,false,u,t),false,0));go_wp2;exact bodyPost_ret (v:=.tuple #[cO (.slice p' l.length c') false u t,.bool false,.int .i64 0]) (((HO.out.1.Gi _).F4 _ _ _ _).res Tryz.results117 rfl rfl rfl) rfl (ke EE.out rfl (iW (base:=w1.heap.size) (kf (fM HO.out.2.1 (by have:=HO.out.2.2;simp;omega)) HO.out.2.2)) ((HO.out.1.Gi _).F4 _ _ _ _).bel HO.out.2.1 (by have:=HO.out.2.2;omega))
  case true =>
   by_cases hu:now<u
   ·have EE:Hid (da n f d l true u t now=((l,true,u,t),false,0)):=(by rw[E.out,if_neg (fun h=>by omega)]:da n f d l true u t now=((l,true,u,t),false,0))
    go_wp2;exact bodyPost_ret (v:=.tuple #[cO (.slice p' l.length c') true u t,.bool false,.int .i64 0]) (((HO.out.1.Gi _).F4 _ _ _ _).res Tryz.results117 rfl rfl rfl) rfl (ke EE.out rfl (iW (base:=w1.heap.size) (kf (fM HO.out.2.1 (by have:=HO.out.2.2;simp;omega)) HO.out.2.2)) ((HO.out.1.Gi _).F4 _ _ _ _).bel HO.out.2.1 (by have:=HO.out.2.2;omega))
   ·have EE:Hid (da n f d l true u t now=((l,false,0,t),true,0)):=(by rw[E.out,if_pos ⟨rfl,by omega⟩]:da n f d l true u t now=((l,false,0,t),true,0))
    go_wp2;exact bodyPost_ret (v:=.tuple #[cO (.slice p' l.length c') false 0 t,.bool true,.int .i64 0]) ((((HO.out.1.Gi _).IM _ _).F4 _ _ _ _).res Tryz.results117 rfl rfl rfl) rfl (ke EE.out rfl (iW (base:=w1.heap.size) (kf (fM (fM (fM HO.out.2.1 (by have:=HO.out.2.2;simp;omega)) (by have:=HO.out.2.2;simp;omega)) (by have:=HO.out.2.2;simp;omega)) HO.out.2.2)) (((HO.out.1.Gi _).IM _ _).F4 _ _ _ _).bel HO.out.2.1 (by have:=HO.out.2.2;omega))
def iU(out act per:Int):Bool×Int :=
 if(0<=act/\act<=12)/\(0<=out/\out<=act)/\(0<=per/\per<=100)then(decide ((out+1)*100<=per*act),0)else(false,2)
theorem xe(out act per:Int)(w:World):Calls Tryz.prog 231 #[.int .i64 out,.int .i64 act,.int .i64 per] w fun r w'=>r=.returned (.tuple #[.bool (iU out act per).1,.int .i64 (iU out act per).2])/\w'=w:=by
 cases h1:decide (0<=act/\act<=12)
 ·have E:Hid (iU out act per=(false,2)):=if_neg fun h=>of_decide_eq_false h1 h.1
  go_enter Tryz.func231,Tryz.ntmps231
  go_wp2_with fail
  refine(cd _ _ _ _).mono ?_;rintro e w' ⟨rfl,rfl⟩;rw[h1];go_wp2
  go_ret2
  exact⟨by rw[E.out];rfl,rfl⟩
 cases h2:decide (0<=out/\out<=act)
 ·have E:Hid (iU out act per=(false,2)):=if_neg fun h=>of_decide_eq_false h2 h.2.1
  go_enter Tryz.func231,Tryz.ntmps231
  go_wp2_with fail
  refine(cd _ _ _ _).mono ?_;rintro e w' ⟨rfl,rfl⟩;rw[h1]
  go_wp2_with fail
  refine(cd _ _ _ _).mono ?_;rintro e w' ⟨rfl,rfl⟩;rw[h2];go_wp2
  go_ret2
  exact⟨by rw[E.out];rfl,rfl⟩
 cases h3:decide (0<=per/\per<=100)
 ·have E:Hid (iU out act per=(false,2)):=if_neg fun h=>of_decide_eq_false h3 h.2.2
  go_enter Tryz.func231,Tryz.ntmps231
  go_wp2_with fail
  refine(cd _ _ _ _).mono ?_;rintro e w' ⟨rfl,rfl⟩;rw[h1]
  go_wp2_with fail
  refine(cd _ _ _ _).mono ?_;rintro e w' ⟨rfl,rfl⟩;rw[h2]
  go_wp2_with fail
  refine(cd _ _ _ _).mono ?_;rintro e w' ⟨rfl,rfl⟩;rw[h3];go_wp2
  go_ret2
  exact⟨by rw[E.out];rfl,rfl⟩
 ·have E:Hid (iU out act per=(decide ((out+1)*100<=per*act),0)):=if_pos ⟨of_decide_eq_true h1,of_decide_eq_true h2,of_decide_eq_true h3⟩
  have b1:=of_decide_eq_true h1;have b2:=of_decide_eq_true h2;have b3:=of_decide_eq_true h3;have m0:0<=per*act:=Int.mul_nonneg b3.1 b1.1;have m1:per*act<=1200:=(Int.mul_le_mul b3.2 b1.2 b1.1 (by omega):per*act<=100*12);obtain⟨a0,a1⟩:=b1;obtain⟨o0,o1⟩:=b2;have o2:out<=12:=by omega
  clear b3;go_enter Tryz.func231,Tryz.ntmps231
  go_wp2_with fail
  refine(cd _ _ _ _).mono ?_;rintro e w' ⟨rfl,rfl⟩;rw[h1]
  go_wp2_with fail
  refine(cd _ _ _ _).mono ?_;rintro e w' ⟨rfl,rfl⟩;rw[h2]
  go_wp2_with fail
  refine(cd _ _ _ _).mono ?_;rintro e w' ⟨rfl,rfl⟩;rw[h3];go_wp2
  go_ret2
  exact⟨by rw[E.out];rfl,rfl⟩
theorem EC{now:Int}(hw:dR n f d)(hnow:0<=now/\now<=1099511627776)(hh:dI n l.length o u t)(h:o=false\/now<u):da n f d l o u t now=((l,o,u,t),false,0):=by
 unfold da cD;rw[if_pos hw,if_pos hnow,if_pos hh,if_pos rfl,if_neg];rintro⟨h1,h2⟩;rcases h with h|h
 ·rw[h1]at h;cases h
 ·omega
end Go.Proofs.YtalhkllgnlejbaaGreatDoor.Q
