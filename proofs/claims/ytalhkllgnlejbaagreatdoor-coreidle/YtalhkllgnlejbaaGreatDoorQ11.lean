/-
  Contracts of the layers and of core, part 11. Conditions: as each theorem says.
-/
import Derived.Test.YtalhkllgnlejbaaGreatDoorQ1
import Derived.Test.YtalhkllgnlejbaaGreatDoorQ4
import Derived.Test.YtalhkllgnlejbaaGreatDoorQ6
import Derived.Test.YtalhkllgnlejbaaGreatDoorQ8
namespace Go.Proofs.YtalhkllgnlejbaaGreatDoor.Q
set_option linter.unusedVariables false
set_option linter.unusedSimpArgs false
set_option maxHeartbeats 16000000
set_option maxRecDepth 100000
open Go.RowKit
attribute [local go_sem ↓] Go.wp_at_zero Go.wp_at_succ
variable {g:Nat}{T:TypeId}{w:World}
def eB(n:Int)(many:Nat):Nat:=(if n<0 then(-(n+1)).toNat else n.toNat) % many
theorem nP(n:Int)(many:Nat)(h:0<many):eB n many<many:=Nat.mod_lt _ h
theorem AI(n many:Int)(h:n<0)(h2:0<many):-(n+1).tmod many=((eB n many.toNat:Nat):Int):=by
 obtain⟨m,rfl⟩:=Int.eq_ofNat_of_zero_le (Int.le_of_lt h2);obtain⟨k,hk⟩:=Int.eq_ofNat_of_zero_le (a:=-(n+1)) (by omega);unfold eB;rw[if_pos h,<-Int.neg_tmod,hk,Int.toNat_natCast,Int.toNat_natCast,Int.natCast_emod];rfl
theorem DT(n many:Int)(h:0<=n)(h2:0<many):n % many=((eB n many.toNat:Nat):Int):=by
 obtain⟨m,rfl⟩:=Int.eq_ofNat_of_zero_le (Int.le_of_lt h2);obtain⟨k,rfl⟩:=Int.eq_ofNat_of_zero_le h;unfold eB;rw[if_neg (by omega),Int.toNat_natCast,Int.toNat_natCast,Int.natCast_emod]
theorem rp{k:IntKind}{a b:Int}(h:a=b):Ending.returned (.int k a)=.returned (.int k b):=by rw[h]
theorem pc(n many:Int)(w:World)(h0:-9223372036854775808<=n)(h1:n<=9223372036854775807)(h2:0<many)(h3:many<=9223372036854775807):Calls Tryz.prog 23 #[.int .i64 n,.int .i64 many] w fun e w'=>e=.returned (.int .i64 ((eB n many.toNat:Nat):Int))/\w'=w:=by
 by_cases h:n<0
 ·go_enter Tryz.func23,Tryz.ntmps23
  go_wp2;go_ret;exact⟨rp (AI n many h h2),rfl⟩
 ·have h':0<=n:=by omega
  clear h;go_enter Tryz.func23,Tryz.ntmps23;go_wp2;go_ret;exact⟨rp (DT n many h' h2),rfl⟩
theorem qI{x:Int}(h:(Lit.int .i64 x).wf=true):-9223372036854775808<=x/\x<=9223372036854775807:=by
 have e1:IntKind.i64.min = -9223372036854775808:=by decide
 have e2:IntKind.i64.max=9223372036854775807:=by decide
 simp only[Lit.wf,e1,e2,Bool.and_eq_true,decide_eq_true_eq]at h;exact h
theorem eW(n:Int)(many:Nat)(hw:(Lit.int .i64 n).wf=true)(h:0<many)(h2:many<=9000000000000):∃k:Nat,k<many/\∀W,Calls Tryz.prog 23 #[.int .i64 n,.int .i64 (many:Int)] W fun r w'=>r=.returned (.int .i64 (k:Int))/\w'=W:=by
 refine⟨eB n many,nP _ _ h,fun W=>?_⟩;have hb:=qI hw;have:=pc n many W hb.1 hb.2 (by omega) (by omega);rwa[Int.toNat_natCast]at this
abbrev i6(c:Cf):Prop :=
 (1<=c.flows/\c.flows<=40)/\(1<=c.den/\c.den<=c.num)/\c.num<=20/\(0<=c.tries/\c.tries<=12)/\(0<=c.warm/\c.warm<=500) /\
 (1<=c.drain/\c.drain<=500)/\(1<=c.idle/\c.idle<=500)/\(1<=c.conn/\c.conn<=500)/\(0<=c.ret/\c.ret<=20)/\(0<=c.most/\c.most<=100) /\
 dq c.bn c.bd c.bb/\dR c.wn c.wf c.wh
abbrev lA(c:Cf):Value:=.agg #[.int .i64 c.flows,.int .i64 c.num,.int .i64 c.den,.int .i64 c.tries,.int .i64 c.warm,.int .i64 c.drain,.int .i64 c.idle,.int .i64 c.conn,.int .i64 c.ret,.int .i64 c.most,.int .i64 c.bn,.int .i64 c.bd,.int .i64 c.bb,.int .i64 c.wn,.int .i64 c.wf,.int .i64 c.wh]
abbrev gM(c:Cf):Obj:=.cells #[.int .i64 c.flows,.int .i64 c.num,.int .i64 c.den,.int .i64 c.tries,.int .i64 c.warm,.int .i64 c.drain,.int .i64 c.idle,.int .i64 c.conn,.int .i64 c.ret,.int .i64 c.most,.int .i64 c.bn,.int .i64 c.bd,.int .i64 c.bb,.int .i64 c.wn,.int .i64 c.wf,.int .i64 c.wh] 30
theorem jm{c:Cf}(h:w.heap[g]?=some (gM c)):w.cell? ⟨g,0,none⟩=some (.int .i64 c.flows)/\w.cell? ⟨g,1,none⟩=some (.int .i64 c.num)/\w.cell? ⟨g,2,none⟩=some (.int .i64 c.den)/\w.cell? ⟨g,3,none⟩=some (.int .i64 c.tries)/\w.cell? ⟨g,4,none⟩=some (.int .i64 c.warm)/\w.cell? ⟨g,5,none⟩=some (.int .i64 c.drain)/\w.cell? ⟨g,6,none⟩=some (.int .i64 c.idle)/\w.cell? ⟨g,7,none⟩=some (.int .i64 c.conn)/\w.cell? ⟨g,8,none⟩=some (.int .i64 c.ret)/\w.cell? ⟨g,9,none⟩=some (.int .i64 c.most)/\w.cell? ⟨g,10,none⟩=some (.int .i64 c.bn)/\w.cell? ⟨g,11,none⟩=some (.int .i64 c.bd)/\w.cell? ⟨g,12,none⟩=some (.int .i64 c.bb)/\w.cell? ⟨g,13,none⟩=some (.int .i64 c.wn)/\w.cell? ⟨g,14,none⟩=some (.int .i64 c.wf)/\w.cell? ⟨g,15,none⟩=some (.int .i64 c.wh)/\g<w.heap.size :=
 ⟨by simp[World.cell?,h],by simp[World.cell?,h],by simp[World.cell?,h],by simp[World.cell?,h],by simp[World.cell?,h],by simp[World.cell?,h],by simp[World.cell?,h],by simp[World.cell?,h],by simp[World.cell?,h],by simp[World.cell?,h],by simp[World.cell?,h],by simp[World.cell?,h],by simp[World.cell?,h],by simp[World.cell?,h],by simp[World.cell?,h],by simp[World.cell?,h],(Array.getElem?_eq_some_iff.1 h).1⟩
theorem jP(n lo hi:Int)(w:World):Calls Tryz.prog 67 #[.int .i64 n,.int .i64 lo,.int .i64 hi] w fun r w'=>r=.returned (.bool (decide (lo<=n/\n<=hi)))/\w'=w:=by
 obtain⟨ans,hans⟩:∃ans,ans=decide (lo<=n/\n<=hi):=⟨_,rfl⟩;rw[<-hans];have H:Hid _:=hans;clear hans;cases h1:decide (lo<=n)
 ·go_enter Tryz.func67,Tryz.ntmps67
  go_wp2;go_ret;exact⟨by rw[H.out,decide_eq_false (fun h=>of_decide_eq_false h1 h.1)];rfl,rfl⟩
 ·cases h2:decide (n<=hi)
  ·go_enter Tryz.func67,Tryz.ntmps67
   go_wp2;go_ret;exact⟨by rw[H.out,decide_eq_false (fun h=>of_decide_eq_false h2 h.2)];rfl,rfl⟩
  ·go_enter Tryz.func67,Tryz.ntmps67
   go_wp2;go_ret;exact⟨by rw[H.out,decide_eq_true ⟨of_decide_eq_true h1,of_decide_eq_true h2⟩];rfl,rfl⟩
theorem oy(n:Int)(w:World):Calls Tryz.prog 68 #[.int .i64 n] w fun r w'=>r=.returned (.bool (decide (1<=n/\n<=500)))/\w'=w:=by
 have H:Hid _:=jP n 1 500 w;go_enter Tryz.func68,Tryz.ntmps68
 go_wp2_with fail
 refine Calls.mono H.out ?_;rintro r w1 ⟨rfl,rfl⟩;go_wp2;go_ret;exact⟨by show Ending.returned (.bool (decide (1<=n) && decide (n<=500)))=_;rw[Bool.decide_and],rfl⟩
theorem Cj(c:Cf)(w:World):Calls Tryz.prog 47 #[lA c] w fun r w'=>r=.returned (.bool (decide (i6 c)))/\Below w.heap.size w w':=by
 obtain⟨ans,hans⟩:∃ans,ans=decide (i6 c):=⟨_,rfl⟩;rw[<-hans];have H:Hid _:=hans;clear hans;obtain⟨W0,hW0⟩:∃W0,W0=w.alloc (gM c):=⟨_,rfl⟩;have hb0:Below w.heap.size w W0:=by rw[hW0];exact ai w
 have hR0:W0.heap[w.heap.size]?=some (gM c):=by rw[hW0];exact heap_alloc_new _ _
 obtain⟨k0,k1,k2,k3,k4,k5,k6,k7,k8,k9,k10,k11,k12,k13,k14,k15,klt⟩:=jm hR0;have HV:Hid (_/\_/\_):=⟨hb0,hR0,hW0⟩;clear hb0 hR0 hW0;go_enter Tryz.func47,Tryz.ntmps47
 go_wp2_with fail
 rw[<-HV.out.2.2];refine(jP c.flows 1 40 _).mono ?_;rintro r w1 ⟨rfl,rfl⟩
 by_cases t0:1<=c.flows/\c.flows<=40
 rotate_left
 ·rw[decide_eq_false t0]
  go_wp2;go_ret;exact⟨by rw[H.out,decide_eq_false (fun h=>t0 h.1)];rfl,HV.out.1⟩
 rw[decide_eq_true t0]
 go_wp2_with fail
 refine(jP c.den 1 c.num _).mono ?_;rintro r w1 ⟨rfl,rfl⟩
 by_cases t1:1<=c.den/\c.den<=c.num
 rotate_left
 ·rw[decide_eq_false t1]
  go_wp2;go_ret;exact⟨by rw[H.out,decide_eq_false (fun h=>t1 h.2.1)];rfl,HV.out.1⟩
 rw[decide_eq_true t1]
 by_cases t2:c.num<=20
 rotate_left
 ·have td2:decide (c.num<=20)=false:=decide_eq_false t2
  have HT:Hid (¬(c.num<=20)):=t2;go_wp2;go_ret;exact⟨by rw[H.out,decide_eq_false (fun h=>by have:=h.2.2.1;omega)];rfl,HV.out.1⟩
 have td2:decide (c.num<=20)=true:=decide_eq_true t2
 go_wp2_with fail
 refine(jP c.tries 0 12 _).mono ?_;rintro r w1 ⟨rfl,rfl⟩
 by_cases t3:0<=c.tries/\c.tries<=12
 rotate_left
 ·rw[decide_eq_false t3]
  go_wp2;go_ret;exact⟨by rw[H.out,decide_eq_false (fun h=>t3 h.2.2.2.1)];rfl,HV.out.1⟩
 rw[decide_eq_true t3]
 go_wp2_with fail
 refine(jP c.warm 0 500 _).mono ?_;rintro r w1 ⟨rfl,rfl⟩
 by_cases t4:0<=c.warm/\c.warm<=500
 rotate_left
 ·rw[decide_eq_false t4]
  go_wp2;go_ret;exact⟨by rw[H.out,decide_eq_false (fun h=>t4 h.2.2.2.2.1)];rfl,HV.out.1⟩
 rw[decide_eq_true t4]
 go_wp2_with fail
 refine(oy c.drain _).mono ?_;rintro r w1 ⟨rfl,rfl⟩
 by_cases t5:1<=c.drain/\c.drain<=500
 rotate_left
 ·rw[decide_eq_false t5]
  go_wp2;go_ret;exact⟨by rw[H.out,decide_eq_false (fun h=>t5 h.2.2.2.2.2.1)];rfl,HV.out.1⟩
 rw[decide_eq_true t5]
 go_wp2_with fail
 refine(oy c.idle _).mono ?_;rintro r w1 ⟨rfl,rfl⟩
 by_cases t6:1<=c.idle/\c.idle<=500
 rotate_left
 ·rw[decide_eq_false t6]
  go_wp2;go_ret;exact⟨by rw[H.out,decide_eq_false (fun h=>t6 h.2.2.2.2.2.2.1)];rfl,HV.out.1⟩
 rw[decide_eq_true t6]
 go_wp2_with fail
 refine(oy c.conn _).mono ?_;rintro r w1 ⟨rfl,rfl⟩
 by_cases t7:1<=c.conn/\c.conn<=500
 rotate_left
 ·rw[decide_eq_false t7]
  go_wp2;go_ret;exact⟨by rw[H.out,decide_eq_false (fun h=>t7 h.2.2.2.2.2.2.2.1)];rfl,HV.out.1⟩
 rw[decide_eq_true t7]
 go_wp2_with fail
 refine(jP c.ret 0 20 _).mono ?_;rintro r w1 ⟨rfl,rfl⟩
 by_cases t8:0<=c.ret/\c.ret<=20
 rotate_left
 ·rw[decide_eq_false t8]
  go_wp2;go_ret;exact⟨by rw[H.out,decide_eq_false (fun h=>t8 h.2.2.2.2.2.2.2.2.1)];rfl,HV.out.1⟩
 rw[decide_eq_true t8]
 go_wp2_with fail
 refine(jP c.most 0 100 _).mono ?_;rintro r w1 ⟨rfl,rfl⟩
 by_cases t9:0<=c.most/\c.most<=100
 rotate_left
 ·rw[decide_eq_false t9]
  go_wp2;go_ret;exact⟨by rw[H.out,decide_eq_false (fun h=>t9 h.2.2.2.2.2.2.2.2.2.1)];rfl,HV.out.1⟩
 rw[decide_eq_true t9]
 go_wp2_with fail
 refine(nr c.bn c.bd c.bb _).mono ?_;rintro r w2 ⟨rfl,hb2⟩;have hR2:=af HV.out.2.1 hb2;have HB2:Hid _:=HV.out.1.trans (hb2.mono HV.out.1.size);obtain⟨j0,j1,j2,j3,j4,j5,j6,j7,j8,j9,j10,j11,j12,j13,j14,j15,jlt⟩:=jm hR2;clear hb2 k0 k1 k2 k3 k4 k5 k6 k7 k8 k9 k10 k11 k12 k13 k14 k15 klt
 by_cases tb:dq c.bn c.bd c.bb
 rotate_left
 ·rw[show fF c.bn c.bd c.bb=2 from if_neg tb]
  clear hR2;go_wp2;go_ret;exact⟨by rw[H.out,decide_eq_false (fun h=>tb h.2.2.2.2.2.2.2.2.2.2.1)];rfl,HB2.out⟩
 rw[show fF c.bn c.bd c.bb=0 from if_pos tb];clear hR2
 go_wp2_with fail
 refine(oW c.wn c.wf c.wh _).mono ?_;rintro r w3 ⟨rfl,hb3⟩;have HB3:Hid _:=HB2.out.trans (hb3.mono HB2.out.size);clear hb3 j0 j1 j2 j3 j4 j5 j6 j7 j8 j9 j10 j11 j12 j13 j14 j15 jlt
 by_cases tw:dR c.wn c.wf c.wh
 rotate_left
 ·rw[show fW c.wn c.wf c.wh=2 from if_neg tw]
  go_wp2;go_ret;exact⟨by rw[H.out,decide_eq_false (fun h=>tw h.2.2.2.2.2.2.2.2.2.2.2)];rfl,HB3.out⟩
 rw[show fW c.wn c.wf c.wh=0 from if_pos tw];go_wp2;go_ret;exact⟨by rw[H.out,decide_eq_true ⟨t0,t1,t2,t3,t4,t5,t6,t7,t8,t9,tb,tw⟩];rfl,HB3.out⟩
def mY(c:Cf):Int:=if i6 c then 0 else 2
theorem DH(c:Cf)(w:World):Calls Tryz.prog 33 #[lA c] w fun r w'=>r=.returned (.int .i64 (mY c))/\Below w.heap.size w w':=by
 obtain⟨W0,hW0⟩:∃W0,W0=w.alloc (gM c):=⟨_,rfl⟩;have hb0:Below w.heap.size w W0:=by rw[hW0];exact ai w
 have hR0:W0.heap[w.heap.size]?=some (gM c):=by rw[hW0];exact heap_alloc_new _ _
 obtain⟨k0,k1,k2,k3,k4,k5,k6,k7,k8,k9,k10,k11,k12,k13,k14,k15,klt⟩:=jm hR0;have HV:Hid (_/\_/\_):=⟨hb0,hR0,hW0⟩;clear hb0 hR0 hW0;have HR:Hid _:=Cj c W0
 by_cases hok:i6 c
 ·rw[show mY c=0 from if_pos hok]
  rw[decide_eq_true hok]at HR;clear hok;go_enter Tryz.func33,Tryz.ntmps33
  go_wp2_with fail
  rw[<-HV.out.2.2];refine Calls.mono HR.out ?_;rintro r w1 ⟨rfl,hb1⟩;have H1:Hid _:=HV.out.1.trans (hb1.mono HV.out.1.size);clear hb1;go_wp2;go_ret;exact⟨rfl,H1.out⟩
 ·rw[show mY c=2 from if_neg hok]
  rw[decide_eq_false hok]at HR;clear hok;go_enter Tryz.func33,Tryz.ntmps33
  go_wp2_with fail
  rw[<-HV.out.2.2];refine Calls.mono HR.out ?_;rintro r w1 ⟨rfl,hb1⟩;have H1:Hid _:=HV.out.1.trans (hb1.mono HV.out.1.size);clear hb1;go_wp2;go_ret;exact⟨rfl,H1.out⟩
section
variable {α:Type}{c:α->List Value}{k:Nat}{w w':World}{v:Value}{l:List α}
theorem bj.Gf(h:bj c w v l)(hs:w.heap.size<=w'.heap.size)(hb:∀b,v.ownBlock=some b->w'.heap[b]?=w.heap[b]?):bj c w' v l:=by
 obtain⟨a,cap,rfl,hc,hm,h1|⟨b,off,rfl,h2,h3⟩⟩:=h
 ·exact⟨a,cap,rfl,hc,hm,.inl h1⟩
 ·refine⟨_,cap,rfl,hc,hm,.inr ⟨b,off,rfl,Nat.lt_of_lt_of_le h2 hs,fun i hi=>?_⟩⟩
  rw[<-h3 i hi];have:=hb b rfl;simp only[World.cell?,this]
variable {t e:TypeId}{z:Value}{bytes:Nat}
end
abbrev jY(c:Cf)(vt vh:Value)(tok:Int)(vw:Value):List Value:=[.int .i64 c.flows,.int .i64 c.num,.int .i64 c.den,.int .i64 c.tries,.int .i64 c.warm,.int .i64 c.drain,.int .i64 c.idle,.int .i64 c.conn,.int .i64 c.ret,.int .i64 c.most,.int .i64 c.bn,.int .i64 c.bd,.int .i64 c.bb,.int .i64 c.wn,.int .i64 c.wf,.int .i64 c.wh,.int .i64 0,vt,.slice none 0 0,.slice none 0 0,.slice none 0 0,.slice none 0 0,vh,.int .i64 tok,.int .i64 0,vw]
abbrev oI(c:Cf)(vt vh:Value)(tok:Int)(vw:Value):Value:=.agg #[.int .i64 c.flows,.int .i64 c.num,.int .i64 c.den,.int .i64 c.tries,.int .i64 c.warm,.int .i64 c.drain,.int .i64 c.idle,.int .i64 c.conn,.int .i64 c.ret,.int .i64 c.most,.int .i64 c.bn,.int .i64 c.bd,.int .i64 c.bb,.int .i64 c.wn,.int .i64 c.wf,.int .i64 c.wh,.int .i64 0,vt,.slice none 0 0,.slice none 0 0,.slice none 0 0,.slice none 0 0,vh,.int .i64 tok,.int .i64 0,vw]
abbrev aL:Cf:=⟨0,0,0,0,0,0,0,0,0,0,0,0,0,0,0,0⟩
abbrev lw(_:Unit):List Value:=[.slice none 0 0,.bool false,.int .i64 0,.int .i64 0]
abbrev kS(w:World)(v:Value)(k:Nat):Prop:=bj lw w v (List.replicate k ())
theorem nm:(Tryz.prog.info? 49).map (·.size)=some 26:=by kernel_rfl
theorem Bh{base:Nat}{v:Value}{l:List Sl}(h:w.ownsRow base 83 4 v l.length (aW l)):bS w v l :=
 show aR w v l.length (aW l)from bP h
theorem yb{base:Nat}{v:Value}{vs:List Value}{ls:List (List Tm)}(h:ar w base v vs ls):dh w v ls :=
 ⟨vs,(show aR w v ls.length vs from bP h.row),h.each.GV fun u l hu=>(show aR w u l.length (ag l)from bP hu)⟩
def EO(w:World)(vt vh vw:Value)(l:List Sl)(k:Nat)(ls:List (List Tm)):Prop:=bS w vt l/\kS w vh k/\dh w vw ls
def mI(B:Nat)(w W:World):Prop:=w.heap.size<=W.heap.size/\∀b,B<=b->b<w.heap.size->W.heap[b]?=w.heap[b]?
def mZ(c:Cf)(w:World)(r:Ending)(w':World):Prop :=
 if i6 c then ∃vt vh vw,r=.returned (.tuple #[oI c vt vh (c.bb*c.bd) vw,.int .i64 0])/\(∀W,mI w.heap.size w' W->EO W vt vh vw (List.replicate c.flows.toNat (0,false,0,0)) 12 fp)/\Below w.heap.size w w'
 else r=.returned (.tuple #[oI aL (.slice none 0 0) (.slice none 0 0) 0 (.slice none 0 0),.int .i64 2])/\Below w.heap.size w w'
theorem tj(g:Nat):∀(vs:List Value) (o:Nat) (w:World),(w.setCells g o vs).tape=w.tape
 | [],_,_=>rfl
 |v::vs,o,w=>by rw[World.setCells,tj g vs];simp[World.setCell]
theorem pE(g:Nat):∀(vs:List Value) (o:Nat) (w:World),(w.setCells g o vs).heap.size=w.heap.size
 | [],_,_=>rfl
 |v::vs,o,w=>by rw[World.setCells,pE g vs];simp
theorem tW{B:Nat}{w0:World}(h:Below B w0 w)(hg:B<=g)(o:Nat)(vs:List Value)(hB:B<=w.heap.size):Below B w0 (w.setCells g o vs):=by
 refine h.trans ⟨World.os_setCells _ _ _ _,tj _ _ _ _,World.output_setCells _ _ _ _,by rw[pE];exact Nat.le_refl _,fun i hi=>World.heap_setCells_other w g o vs (by omega) (by omega)⟩
theorem vR{cs:List Value}(h:w.heap[g]?=some (.cells cs.toArray T (0,0))):w.there g 0 cs.length:=fun j hj=>by
 rw[Nat.zero_add,cell_of_row w g j _ T (0,0) h];exact⟨by simp[hj],by simp[World.frozen?,h]⟩
theorem vd{cs vs:List Value}(h:w.heap[g]?=some (.cells cs.toArray T (0,0)))(hl:cs.length=vs.length):(w.setCells g 0 vs).heap[g]?=some (.cells vs.toArray T (0,0)):=by
 have:=ks T g vs [] cs w hl (by simpa using h)
 simpa using this
abbrev pe:List Value:=jY aL (.slice none 0 0) (.slice none 0 0) 0 (.slice none 0 0)
theorem FI(c:Cf)(vt vh:Value)(tok:Int)(vw:Value)(h1:vt.oneCell'=true)(h2:vh.oneCell'=true)(h3:vw.oneCell'=true):(jY c vt vh tok vw).toArray.all (·.oneCell')=true:=by
 apply all_oneCell_toArray;intro v hv;simp only[jY,List.mem_cons,List.not_mem_nil,or_false]at hv;rcases hv with rfl|rfl|rfl|rfl|rfl|rfl|rfl|rfl|rfl|rfl|rfl|rfl|rfl|rfl|rfl|rfl|rfl|rfl|rfl|rfl|rfl|rfl|rfl|rfl|rfl|rfl <;> first|rfl|exact h1|exact h2|exact h3
theorem qL{c:Cf}{gc g2 gt gb gw:Nat}{vt vw:Value}{tok:Int}{ws:List Value}(hc:w.heap[gc]?=some (gM c))(h2:w.heap[g2]?=some (.cells ws.toArray 49 (0,0)))(hw:ws.length=26)(ht:w.heap[gt]?=some (.cells #[vt] 33 (0,0)))(hb:w.heap[gb]?=some (.cells #[.int .i64 tok] 44 (0,0)))(hww:w.heap[gw]?=some (.cells #[.int .i64 0,vw] 47 (0,0))):
  w.cell? ⟨gc,0,none⟩=some (.int .i64 c.flows)/\w.cell? ⟨gc,1,none⟩=some (.int .i64 c.num)/\w.cell? ⟨gc,2,none⟩=some (.int .i64 c.den)/\w.cell? ⟨gc,3,none⟩=some (.int .i64 c.tries)/\w.cell? ⟨gc,4,none⟩=some (.int .i64 c.warm)/\w.cell? ⟨gc,5,none⟩=some (.int .i64 c.drain)/\w.cell? ⟨gc,6,none⟩=some (.int .i64 c.idle)/\w.cell? ⟨gc,7,none⟩=some (.int .i64 c.conn)/\w.cell? ⟨gc,8,none⟩=some (.int .i64 c.ret)/\w.cell? ⟨gc,9,none⟩=some (.int .i64 c.most)/\w.cell? ⟨gc,10,none⟩=some (.int .i64 c.bn)/\w.cell? ⟨gc,11,none⟩=some (.int .i64 c.bd)/\w.cell? ⟨gc,12,none⟩=some (.int .i64 c.bb)/\w.cell? ⟨gc,13,none⟩=some (.int .i64 c.wn)/\w.cell? ⟨gc,14,none⟩=some (.int .i64 c.wf)/\w.cell? ⟨gc,15,none⟩=some (.int .i64 c.wh)/\w.cell? ⟨gt,0,none⟩=some vt/\w.cell? ⟨gb,0,none⟩=some (.int .i64 tok)/\w.cell? ⟨gw,0,none⟩=some (.int .i64 0)/\w.cell? ⟨gw,1,none⟩=some vw/\w.there g2 0 26 :=
 have q:=jm hc
 ⟨q.1,q.2.1,q.2.2.1,q.2.2.2.1,q.2.2.2.2.1,q.2.2.2.2.2.1,q.2.2.2.2.2.2.1,q.2.2.2.2.2.2.2.1,q.2.2.2.2.2.2.2.2.1,q.2.2.2.2.2.2.2.2.2.1,q.2.2.2.2.2.2.2.2.2.2.1,q.2.2.2.2.2.2.2.2.2.2.2.1,q.2.2.2.2.2.2.2.2.2.2.2.2.1,q.2.2.2.2.2.2.2.2.2.2.2.2.2.1,q.2.2.2.2.2.2.2.2.2.2.2.2.2.2.1,q.2.2.2.2.2.2.2.2.2.2.2.2.2.2.2.1,aM ht,aM hb,(au hww).1,(au hww).2.1,by have:=vR h2;rwa[hw]at this⟩
theorem AH:∀W,(Instr.makeSlice 42 (.int .i64 12) (.int .i64 12)).run Tryz.prog W=.ok (.slice (some ⟨W.heap.size,0,none⟩) 12 12) (W.alloc (.cells (rv lw (List.replicate 12 ())).toArray 79)):=fun W=>by kernel_rfl
theorem xU(W:World):kS (W.alloc (.cells (rv lw (List.replicate 12 ())).toArray 79)) (.slice (some ⟨W.heap.size,0,none⟩) 12 12) 12:=by
 refine⟨_,12,rfl,by simp,by unfold maxLen;omega,.inr ⟨W.heap.size,0,rfl,by simp,fun i hi=>?_⟩⟩;rw[Nat.zero_add,cell_of_row _ W.heap.size i _ _ (0,0) (heap_alloc_new W _)];simp
theorem zp(c:Cf)(w:World)(h:i6 c):Calls Tryz.prog 21 #[lA c] w (mZ c w):=by
 obtain⟨W0,hW0⟩:∃W0,W0=(w.alloc (gM c)).alloc (.cells pe.toArray 49):=⟨_,rfl⟩;have hb0:Below w.heap.size w W0:=by rw[hW0];exact(ai w).trans ((ai _).mono (by simp))
 have hR0:W0.heap[w.heap.size]?=some (gM c):=by rw[hW0];exact aN _ _ (heap_alloc_new _ _)
 have hR1:W0.heap[w.heap.size+1]?=some (.cells pe.toArray 49 (0,0)):=by rw[hW0];exact bV _ _ _
 obtain⟨k0,k1,k2,k3,k4,k5,k6,k7,k8,k9,k10,k11,k12,k13,k14,k15,klt⟩:=jm hR0;have HC:=DH c W0;rw[show mY c=0 from if_pos h]at HC;have HV:Hid (_/\_/\_/\_/\_):=⟨hb0,hR0,hR1,hW0,HC⟩;clear hb0 hR0 hR1 hW0 HC;have HN:Hid _:=h;clear h;obtain⟨z48,hz48⟩:∃z,z=(rv lw (List.replicate 12 ())).toArray:=⟨_,rfl⟩;have hmk:∀W,(Instr.makeSlice 42 (.int .i64 12) (.int .i64 12)).run Tryz.prog W=.ok (.slice (some ⟨W.heap.size,0,none⟩) 12 12) (W.alloc (.cells z48 79)):=by rw[hz48];exact AH
 have HZ:Hid (_/\_):=⟨hz48,hmk⟩;clear hz48 hmk;go_enter Tryz.func21,Tryz.ntmps21
 go_wp2_with fail
 rw[show(#[.int .i64 0,.int .i64 0,.int .i64 0,.int .i64 0,.int .i64 0,.int .i64 0,.int .i64 0,.int .i64 0,.int .i64 0,.int .i64 0,.int .i64 0,.int .i64 0,.int .i64 0,.int .i64 0,.int .i64 0,.int .i64 0,.int .i64 0,.slice none 0 0,.slice none 0 0,.slice none 0 0,.slice none 0 0,.slice none 0 0,.slice none 0 0,.int .i64 0,.int .i64 0,.slice none 0 0]:Array Value)=pe.toArray from rfl,<-HV.out.2.2.2.1];refine Calls.mono HV.out.2.2.2.2 ?_;rintro r w1 ⟨rfl,hb1⟩;have hC1:=af HV.out.2.1 hb1;have hX1:=af HV.out.2.2.1 hb1;have hB1:=HV.out.1.trans (hb1.mono HV.out.1.size);obtain⟨j0,j1,j2,j3,j4,j5,j6,j7,j8,j9,j10,j11,j12,j13,j14,j15,jlt⟩:=jm hC1;have H1:Hid (_/\_/\_):=⟨hC1,hX1,hB1⟩;clear hC1 hX1 hB1 hb1 k0 k1 k2 k3 k4 k5 k6 k7 k8 k9 k10 k11 k12 k13 k14 k15 klt
 go_wp2_with fail
 refine(yx c.flows _).mono ?_;rw[show jO c.flows=(List.replicate c.flows.toNat (0,false,0,0),0)from if_pos HN.out.1];rintro r w2 ⟨p2,c2,rfl,ho2,hb2⟩;obtain⟨l,hl⟩:∃l:List Sl,l=List.replicate c.flows.toNat (0,false,0,0):=⟨_,rfl⟩;simp only[<-hl]at ho2⊢;have HL:Hid _:=hl;clear hl j0 j1 j2 j3 j4 j5 j6 j7 j8 j9 j10 j11 j12 j13 j14 j15 jlt;obtain⟨W2,hW2⟩:∃W2,W2=w2.alloc (.cells #[.slice p2 l.length c2] 33):=⟨_,rfl⟩;have hbW2:Below w2.heap.size w2 W2:=by rw[hW2];exact ai w2
 have hb12:=hb2.trans (hbW2.mono hb2.size);have hT2:W2.heap[w2.heap.size]?=some (.cells #[.slice p2 l.length c2] 33 (0,0)):=by rw[hW2];exact heap_alloc_new _ _
 have hS2:=cq ho2 hbW2;obtain⟨j0,j1,j2,j3,j4,j5,j6,j7,j8,j9,j10,j11,j12,j13,j14,j15,jlt⟩:=jm (af H1.out.1 hb2);have H2:Hid (_/\_/\_/\_/\_/\_):=⟨af H1.out.1 hb12,af H1.out.2.1 hb12,H1.out.2.2.trans (hb12.mono H1.out.2.2.size),hT2,hS2,hW2⟩;have hsz2:Hid (w1.heap.size<=w2.heap.size):=hb2.size;clear hbW2 hb12 hT2 hS2 hW2 ho2 hb2
 go_wp2_with fail
 rw[<-H2.out.2.2.2.2.2];refine(DI c.bn c.bd c.bb _).mono ?_;rw[show kX c.bn c.bd c.bb=(c.bb*c.bd,0)from if_pos HN.out.2.2.2.2.2.2.2.2.2.2.1];rintro r w3 ⟨rfl,hb3⟩;clear j0 j1 j2 j3 j4 j5 j6 j7 j8 j9 j10 j11 j12 j13 j14 j15 jlt;obtain⟨tok,htok⟩:∃tok,tok=c.bb*c.bd:=⟨_,rfl⟩
 dsimp only
 rw[<-htok];have HK:Hid _:=htok;clear htok;obtain⟨W3,hW3⟩:∃W3,W3=w3.alloc (.cells #[.int .i64 tok] 44):=⟨_,rfl⟩;have hbW3:Below w3.heap.size w3 W3:=by rw[hW3];exact ai w3
 have hb23:=hb3.trans (hbW3.mono hb3.size);have hT3:W3.heap[w3.heap.size]?=some (.cells #[.int .i64 tok] 44 (0,0)):=by rw[hW3];exact heap_alloc_new _ _
 have H3:Hid (_/\_/\_/\_/\_/\_/\_):=⟨af H2.out.1 hb23,af H2.out.2.1 hb23,H2.out.2.2.1.trans (hb23.mono H2.out.2.2.1.size),af H2.out.2.2.2.1 hb23,cq H2.out.2.2.2.2.1 hb23,hT3,hW3⟩;have hszW:Hid (w3.heap.size<W3.heap.size):=(Array.getElem?_eq_some_iff.1 hT3).1;have hsz3:Hid (w2.heap.size+1<=w3.heap.size):=by have:=hb3.size;have:=(Array.getElem?_eq_some_iff.1 H2.out.2.2.2.1).1;show _<=_;omega
 clear hbW3 hb23 hT3 hW3 hb3
 go_wp2_with fail
 rw[<-H3.out.2.2.2.2.2.2];refine(AK 0 _ ⟨by omega,by omega⟩).mono ?_;rintro r w4 ⟨vw,vs,rfl,hO4,hb4⟩;obtain⟨pw,cw,hvw⟩:=cR hO4.row;obtain⟨nw,hnw⟩:∃nw,nw=fp.length:=⟨_,rfl⟩;rw[<-hnw]at hvw;subst hvw;clear hnw;have hv1:(Value.slice pw nw cw).oneCell'=true:=rfl;obtain⟨W5,hW5⟩:∃W5,W5=w4.alloc (.cells #[.int .i64 0,.slice pw nw cw] 47):=⟨_,rfl⟩;have hbW5:Below w4.heap.size w4 W5:=by rw[hW5];exact ai w4
 have hb45:=hb4.trans (hbW5.mono hb4.size);have hT5:W5.heap[w4.heap.size]?=some (.cells #[.int .i64 0,.slice pw nw cw] 47 (0,0)):=by rw[hW5];exact heap_alloc_new _ _
 have H5:Hid (_/\_/\_/\_/\_/\_/\_/\_/\_):=⟨af H3.out.1 hb45,af H3.out.2.1 hb45,H3.out.2.2.1.trans (hb45.mono H3.out.2.2.1.size),af H3.out.2.2.2.1 hb45,cq H3.out.2.2.2.2.1 hb45,af H3.out.2.2.2.2.2.1 hb45,hT5,hO4.below hbW5,hW5⟩;have hsz4:Hid (w3.heap.size+1<=w4.heap.size):=by have:=hb4.size;have:=(Array.getElem?_eq_some_iff.1 H3.out.2.2.2.2.2.1).1;show _<=_;omega
 clear hbW5 hb45 hT5 hW5 hb4 hO4;have hg1:w.heap.size+1<w1.heap.size:=(Array.getElem?_eq_some_iff.1 H1.out.2.1).1;obtain⟨W6,hW6⟩:∃W6,W6=(W5.alloc (.cells z48 79)).drew:=⟨_,rfl⟩;have hb56:Below W5.heap.size W5 W6:=by rw[hW6];exact(ai W5).trans ⟨rfl,rfl,rfl,Nat.le_refl _,fun _ _=>rfl⟩
 have hH6:kS W6 (.slice (some ⟨W5.heap.size,0,none⟩) 12 12) 12:=by rw[hW6,HZ.out.1];exact xU W5
 obtain⟨WL,hWL⟩:∃WL,WL=jY c (.slice p2 l.length c2) (.slice (some ⟨W5.heap.size,0,none⟩) 12 12) tok (.slice pw nw cw):=⟨_,rfl⟩;obtain⟨W7,hW7⟩:∃W7,W7=W6.setCells (w.heap.size+1) 0 WL:=⟨_,rfl⟩;have hoth:∀g,g≠w.heap.size+1->g<W6.heap.size->W7.heap[g]?=W6.heap[g]?:=fun g h1 h2=>by rw[hW7];exact World.heap_setCells_other W6 _ _ _ h2 h1
 have hC6:=af H5.out.1 hb56;have hX6:=af H5.out.2.1 hb56;have hT6:=af H5.out.2.2.2.1 hb56;have hK6:=af H5.out.2.2.2.2.2.1 hb56;have hV6:=af H5.out.2.2.2.2.2.2.1 hb56;have ne1:w2.heap.size≠w.heap.size+1:=by have:=H2.out.2.2.1.size;have:=hsz2.out;omega
 have ne2:w3.heap.size≠w.heap.size+1:=by have:=hsz2.out;have:=hsz3.out;omega
 have ne3:w4.heap.size≠w.heap.size+1:=by have:=hsz2.out;have:=hsz3.out;have:=hsz4.out;omega
 have hC7:=(hoth _ (by omega) (Array.getElem?_eq_some_iff.1 hC6).1).trans hC6;have hT7:=(hoth _ ne1 (Array.getElem?_eq_some_iff.1 hT6).1).trans hT6;have hK7:=(hoth _ ne2 (Array.getElem?_eq_some_iff.1 hK6).1).trans hK6;have hV7:=(hoth _ ne3 (Array.getElem?_eq_some_iff.1 hV6).1).trans hV6;have hst:W7.heap[w.heap.size+1]?=some (.cells WL.toArray 49 (0,0)):=by rw[hW7];exact vd (vs:=WL) hX6 (by rw[hWL];rfl)
 have hB6:=H5.out.2.2.1.trans (hb56.mono H5.out.2.2.1.size);have hB7:Below w.heap.size w W7:=by rw[hW7];exact tW hB6 (by omega) _ _ hB6.size
 have hs67:W6.heap.size<=W7.heap.size:=by rw[hW7,pE];exact Nat.le_refl _
 have hww1:w.heap.size<=w1.heap.size:=H1.out.2.2.size;have oT:=aw (cq H5.out.2.2.2.2.1 hb56) fun g hg=>hoth g (by have:=((cq H5.out.2.2.2.2.1 hb56).lt g hg).1;omega) ((cq H5.out.2.2.2.2.1 hb56).lt g hg).2
 have hTab:∀Y,mI w.heap.size W7 Y->bS Y (.slice p2 l.length c2) l:=fun Y hY=>Bh (aw oT fun g hg=>hY.2 g (by have:=(oT.lt g hg).1;omega) (oT.lt g hg).2)
 have oL:=(H5.out.2.2.2.2.2.2.2.1.below hb56).Gf fun g h1 h2=>hoth g (by have:=hsz2.out;have:=hsz3.out;have:=hszW.out;omega) h2
 have hLs:∀Y,mI w.heap.size W7 Y->dh Y (.slice pw nw cw) fp:=fun Y hY=>yb (oL.Gf fun g h1 h2=>hY.2 g (by have:=hsz2.out;have:=hsz3.out;have:=hszW.out;omega) h2)
 have hHs7:kS W7 (.slice (some ⟨W5.heap.size,0,none⟩) 12 12) 12:=bj.Gf hH6 hs67 fun b hb=>by
  have e:b=W5.heap.size:=by cases hb;rfl
  subst e;exact hoth _ (by have:=(Array.getElem?_eq_some_iff.1 H5.out.2.1).1;omega) (by have:=hb56.size;rw[hW6];simp)
 have hHs:∀Y,mI w.heap.size W7 Y->kS Y (.slice (some ⟨W5.heap.size,0,none⟩) 12 12) 12:=fun Y hY=>bj.Gf hHs7 hY.1 fun b hb=>by
  have e:b=W5.heap.size:=by cases hb;rfl
  subst e;exact hY.2 _ (by have:=(Array.getElem?_eq_some_iff.1 H5.out.2.1).1;omega) (Nat.lt_of_lt_of_le (by have:=hb56.size;rw[hW6];simp) hs67)
 have F1:=qL H5.out.1 H5.out.2.1 rfl H5.out.2.2.2.1 H5.out.2.2.2.2.2.1 H5.out.2.2.2.2.2.2.1;have F2:=qL hC6 hX6 rfl hT6 hK6 hV6;have F3:=qL hC7 hst (by rw[hWL];rfl) hT7 hK7 hV7;have hone:=FI c (.slice p2 l.length c2) (.slice (some ⟨W5.heap.size,0,none⟩) 12 12) tok (.slice pw nw cw) rfl rfl hv1;rw[hW7,hWL,hW6]at F3;rw[hW6]at F2;have G1:Hid _:=F1;have G2:Hid _:=F2;have G3:Hid _:=F3;have hth6:Hid ((W5.alloc (.cells z48 79)).drew.there (w.heap.size+1) 0 26):=F2.2.2.2.2.2.2.2.2.2.2.2.2.2.2.2.2.2.2.2.2;have hth5:Hid (W5.drew.there (w.heap.size+1) 0 26):=F1.2.2.2.2.2.2.2.2.2.2.2.2.2.2.2.2.2.2.2.2;have hsto:(Instr.storeAt 49 (.pointer (some ⟨w.heap.size+1,0,none⟩)) (.agg #[.int .i64 c.flows,.int .i64 c.num,.int .i64 c.den,.int .i64 c.tries,.int .i64 c.warm,.int .i64 c.drain,.int .i64 c.idle,.int .i64 c.conn,.int .i64 c.ret,.int .i64 c.most,.int .i64 c.bn,.int .i64 c.bd,.int .i64 c.bb,.int .i64 c.wn,.int .i64 c.wf,.int .i64 c.wh,.int .i64 0,.slice p2 l.length c2,.slice none 0 0,.slice none 0 0,.slice none 0 0,.slice none 0 0,.slice (some ⟨W5.heap.size,0,none⟩) 12 12,.int .i64 tok,.int .i64 0,.slice pw nw cw])).run Tryz.prog ((W5.alloc (.cells z48 79)).drew)=.ok () W7:=by
  have h1:=run_storeAt_mid (P:=Tryz.prog) ((W5.alloc (.cells z48 79)).drew) (w.heap.size+1) 0 49 #[.int .i64 c.flows,.int .i64 c.num,.int .i64 c.den,.int .i64 c.tries,.int .i64 c.warm,.int .i64 c.drain,.int .i64 c.idle,.int .i64 c.conn,.int .i64 c.ret,.int .i64 c.most,.int .i64 c.bn,.int .i64 c.bd,.int .i64 c.bb,.int .i64 c.wn,.int .i64 c.wf,.int .i64 c.wh,.int .i64 0,.slice p2 l.length c2,.slice none 0 0,.slice none 0 0,.slice none 0 0,.slice none 0 0,.slice (some ⟨W5.heap.size,0,none⟩) 12 12,.int .i64 tok,.int .i64 0,.slice pw nw cw] hth6.out nm hone;rw[hW7,hWL,hW6];exact h1
 have F3':W7.cell? ⟨w.heap.size,0,none⟩=some (.int .i64 c.flows)/\W7.cell? ⟨w.heap.size,1,none⟩=some (.int .i64 c.num)/\W7.cell? ⟨w.heap.size,2,none⟩=some (.int .i64 c.den)/\W7.cell? ⟨w.heap.size,3,none⟩=some (.int .i64 c.tries)/\W7.cell? ⟨w.heap.size,4,none⟩=some (.int .i64 c.warm)/\W7.cell? ⟨w.heap.size,5,none⟩=some (.int .i64 c.drain)/\W7.cell? ⟨w.heap.size,6,none⟩=some (.int .i64 c.idle)/\W7.cell? ⟨w.heap.size,7,none⟩=some (.int .i64 c.conn)/\W7.cell? ⟨w.heap.size,8,none⟩=some (.int .i64 c.ret)/\W7.cell? ⟨w.heap.size,9,none⟩=some (.int .i64 c.most)/\W7.cell? ⟨w.heap.size,10,none⟩=some (.int .i64 c.bn)/\W7.cell? ⟨w.heap.size,11,none⟩=some (.int .i64 c.bd)/\W7.cell? ⟨w.heap.size,12,none⟩=some (.int .i64 c.bb)/\W7.cell? ⟨w.heap.size,13,none⟩=some (.int .i64 c.wn)/\W7.cell? ⟨w.heap.size,14,none⟩=some (.int .i64 c.wf)/\W7.cell? ⟨w.heap.size,15,none⟩=some (.int .i64 c.wh)/\W7.cell? ⟨w2.heap.size,0,none⟩=some (.slice p2 l.length c2)/\W7.cell? ⟨w3.heap.size,0,none⟩=some (.int .i64 tok)/\W7.cell? ⟨w4.heap.size,0,none⟩=some (.int .i64 0)/\W7.cell? ⟨w4.heap.size,1,none⟩=some (.slice pw nw cw)/\W7.there (w.heap.size+1) 0 26:=by rw[hW7,hWL,hW6];exact F3
 have G4:Hid _:=F3';clear F3';have H9:Hid (_/\_/\_/\_/\_/\_/\_/\_/\_):=⟨hst,hB7,hTab,hLs,hHs,hone,hWL,hW7,hW6⟩;have hmk:=HZ.out.2;have hu27:=Tryz.underlying30;have hi27:(Tryz.prog.info? 30).map (·.size)=some 16:=by kernel_rfl
 have hi49:=nm;clear F1 F2 F3 hst hB7 hTab hLs hHs hHs7 oT oL hww1 hone hWL hW7 hW6 hoth hC6 hX6 hT6 hK6 hV6 hC7 hT7 hK7 hV7 hB6 hs67 hH6 hb56 ne1 ne2 ne3;go_wp2;rw[<-H5.out.2.2.2.2.2.2.2.2];refine wp_region_held_drew (S:=fun W=>W.cell? ⟨w.heap.size,0,none⟩=some (.int .i64 c.flows)/\W.cell? ⟨w.heap.size,1,none⟩=some (.int .i64 c.num)/\W.cell? ⟨w.heap.size,2,none⟩=some (.int .i64 c.den)/\W.cell? ⟨w.heap.size,3,none⟩=some (.int .i64 c.tries)/\W.cell? ⟨w.heap.size,4,none⟩=some (.int .i64 c.warm)/\W.cell? ⟨w.heap.size,5,none⟩=some (.int .i64 c.drain)/\W.cell? ⟨w.heap.size,6,none⟩=some (.int .i64 c.idle)/\W.cell? ⟨w.heap.size,7,none⟩=some (.int .i64 c.conn)/\W.cell? ⟨w.heap.size,8,none⟩=some (.int .i64 c.ret)/\W.cell? ⟨w.heap.size,9,none⟩=some (.int .i64 c.most)/\W.cell? ⟨w.heap.size,10,none⟩=some (.int .i64 c.bn)/\W.cell? ⟨w.heap.size,11,none⟩=some (.int .i64 c.bd)/\W.cell? ⟨w.heap.size,12,none⟩=some (.int .i64 c.bb)/\W.cell? ⟨w.heap.size,13,none⟩=some (.int .i64 c.wn)/\W.cell? ⟨w.heap.size,14,none⟩=some (.int .i64 c.wf)/\W.cell? ⟨w.heap.size,15,none⟩=some (.int .i64 c.wh)/\W.cell? ⟨w2.heap.size,0,none⟩=some (.slice p2 l.length c2)/\W.cell? ⟨w3.heap.size,0,none⟩=some (.int .i64 tok)/\W.cell? ⟨w4.heap.size,0,none⟩=some (.int .i64 0)/\W.cell? ⟨w4.heap.size,1,none⟩=some (.slice pw nw cw)/\W.there (w.heap.size+1) 0 26) (by kernel_rfl) G1.out (fun hHeld=>?_);refine wpAnyH_take (i:=0) (oi:=_) (v:=lA c) rfl (by kernel_rfl) (by kernel_rfl) (by kernel_rfl) (fun _ _ _ h=>h) (Or.inl ⟨by rfl,fun W hSw=>by obtain⟨s0,s1,s2,s3,s4,s5,s6,s7,s8,s9,s10,s11,s12,s13,s14,s15,s16,s17,s18,s19,s20⟩:=hSw;go_simp⟩) hHeld ?_;simp only[Act.put,List.setIfInBounds_toArray,List.set_cons_zero,List.set_cons_succ];refine wpAnyH_take (i:=1) (oi:=_) (v:=.agg #[.slice p2 l.length c2]) rfl (by kernel_rfl) (by kernel_rfl) (by kernel_rfl) (fun _ _ _ h=>h) (Or.inl ⟨by rfl,fun W hSw=>by obtain⟨s0,s1,s2,s3,s4,s5,s6,s7,s8,s9,s10,s11,s12,s13,s14,s15,s16,s17,s18,s19,s20⟩:=hSw;go_simp⟩) hHeld ?_;simp only[Act.put,List.setIfInBounds_toArray,List.set_cons_zero,List.set_cons_succ];refine wpAnyH_take (i:=3) (oi:=_) (v:=.agg #[.int .i64 tok]) rfl (by kernel_rfl) (by kernel_rfl) (by kernel_rfl) (fun _ _ _ h=>h) (Or.inl ⟨by rfl,fun W hSw=>by obtain⟨s0,s1,s2,s3,s4,s5,s6,s7,s8,s9,s10,s11,s12,s13,s14,s15,s16,s17,s18,s19,s20⟩:=hSw;go_simp⟩) hHeld ?_;simp only[Act.put,List.setIfInBounds_toArray,List.set_cons_zero,List.set_cons_succ];refine wpAnyH_take (i:=4) (oi:=_) (v:=.agg #[.int .i64 0,.slice pw nw cw]) rfl (by kernel_rfl) (by kernel_rfl) (by kernel_rfl) (fun _ _ _ h=>h) (Or.inl ⟨by rfl,fun W hSw=>by obtain⟨s0,s1,s2,s3,s4,s5,s6,s7,s8,s9,s10,s11,s12,s13,s14,s15,s16,s17,s18,s19,s20⟩:=hSw;go_simp⟩) hHeld ?_;simp only[Act.put,List.setIfInBounds_toArray,List.set_cons_zero,List.set_cons_succ];refine wpAnyH_ready (rs:=[2]) (by kernel_rfl) (by simp) ?_;refine AllReadyH.cons (o:=_) rfl (fun K hK=>?_) AllReadyH.nil;go_simp;refine hK.out _ _ G2.out (fun hHeld=>?_);clear hK K
 try simp only[Act.put,List.setIfInBounds_toArray,List.set_cons_zero,List.set_cons_succ]
 refine wpAnyH_ready (rs:=[5]) (by kernel_rfl) (by simp) ?_;refine AllReadyH.cons (o:=_) rfl (fun K hK=>?_) AllReadyH.nil;go_simp;refine hK.out _ _ G2.out (fun hHeld=>?_);clear hK K
 try simp only[Act.put,List.setIfInBounds_toArray,List.set_cons_zero,List.set_cons_succ]
 refine wpAnyH_ready (rs:=[6]) (by kernel_rfl) (by simp) ?_;refine AllReadyH.cons (o:=_) rfl (fun K hK=>?_) AllReadyH.nil;rw[if_pos (by rfl)];refine wp_store_mid _ _ _ rfl _ _ #[.int .i64 c.flows,.int .i64 c.num,.int .i64 c.den,.int .i64 c.tries,.int .i64 c.warm,.int .i64 c.drain,.int .i64 c.idle,.int .i64 c.conn,.int .i64 c.ret,.int .i64 c.most,.int .i64 c.bn,.int .i64 c.bd,.int .i64 c.bb,.int .i64 c.wn,.int .i64 c.wf,.int .i64 c.wh,.int .i64 0,.slice p2 l.length c2,.slice none 0 0,.slice none 0 0,.slice none 0 0,.slice none 0 0,.slice (some ⟨W5.heap.size,0,none⟩) 12 12,.int .i64 tok,.int .i64 0,.slice pw nw cw] rfl rfl hth6.out nm H9.out.2.2.2.2.2.1 ?_;rw[show Array.toList (#[.int .i64 c.flows,.int .i64 c.num,.int .i64 c.den,.int .i64 c.tries,.int .i64 c.warm,.int .i64 c.drain,.int .i64 c.idle,.int .i64 c.conn,.int .i64 c.ret,.int .i64 c.most,.int .i64 c.bn,.int .i64 c.bd,.int .i64 c.bb,.int .i64 c.wn,.int .i64 c.wf,.int .i64 c.wh,.int .i64 0,.slice p2 l.length c2,.slice none 0 0,.slice none 0 0,.slice none 0 0,.slice none 0 0,.slice (some ⟨W5.heap.size,0,none⟩) 12 12,.int .i64 tok,.int .i64 0,.slice pw nw cw]:Array Value)=jY c (.slice p2 l.length c2) (.slice (some ⟨W5.heap.size,0,none⟩) 12 12) tok (.slice pw nw cw)from rfl,<-H9.out.2.2.2.2.2.2.1,<-H9.out.2.2.2.2.2.2.2.2,<-H9.out.2.2.2.2.2.2.2.1];refine hK.out _ _ G4.out (fun hHeld=>?_);clear hK K
 try simp only[Act.put,List.setIfInBounds_toArray,List.set_cons_zero,List.set_cons_succ]
 refine wpAnyH_ready (rs:=[7]) (by kernel_rfl) (by simp) ?_;refine AllReadyH.cons (o:=_) rfl (fun K hK=>?_) AllReadyH.nil;go_simp;refine hK.out _ _ G4.out (fun hHeld=>?_);clear hK K
 try simp only[Act.put,List.setIfInBounds_toArray,List.set_cons_zero,List.set_cons_succ]
 refine wpAnyH_done (by kernel_rfl) ?_ _;go_wp2;refine bodyPost_ret (v:=.tuple #[oI c (.slice p2 l.length c2) (.slice (some ⟨W5.heap.size,0,none⟩) 12 12) tok (.slice pw nw cw),.int .i64 0]) (bp Tryz.results21 rfl rfl (aI (cs:=jY c (.slice p2 l.length c2) (.slice (some ⟨W5.heap.size,0,none⟩) 12 12) tok (.slice pw nw cw)) (by have:=H9.out.1;rw[H9.out.2.2.2.2.2.2.1]at this;exact this) Tryz.underlying49 rfl nm)) rfl ?_;show mZ c w _ _;unfold mZ;rw[if_pos HN.out];refine⟨_,_,_,by rw[<-HK.out],?_,H9.out.2.1⟩;rw[<-HL.out];exact fun Y hY=>⟨H9.out.2.2.1 Y hY,H9.out.2.2.2.2.1 Y hY,H9.out.2.2.2.1 Y hY⟩
abbrev Ci(n d b:Int):Value:=.agg #[.int .i64 n,.int .i64 d,.int .i64 b]
theorem vu{W:World}{a b c:Value}(h:W.heap[g]?=some (.cells #[a,b,c] T (0,0))):W.cell? ⟨g,0,none⟩=some a/\W.cell? ⟨g,1,none⟩=some b/\W.cell? ⟨g,2,none⟩=some c/\g<W.heap.size :=
 ⟨by simp[World.cell?,h],by simp[World.cell?,h],by simp[World.cell?,h],(Array.getElem?_eq_some_iff.1 h).1⟩
theorem uD{a b c a' b' c':Value}(h:w.heap[g]?=some (.cells #[a,b,c] T (0,0))):(((w.setCell ⟨g,0,none⟩ a').setCell ⟨g,1,none⟩ b').setCell ⟨g,2,none⟩ c').heap[g]?=some (.cells #[a',b',c'] T (0,0)):=by
 have h1:=heap_setCell_same w g 0 _ T a' h;have h2:=heap_setCell_same _ g 1 _ T b' h1;exact heap_setCell_same _ g 2 _ T c' h2
theorem Ca(x y z:Int)(hx:(Lit.int .i64 x).wf=true)(hy:(Lit.int .i64 y).wf=true)(hz:(Lit.int .i64 z).wf=true) :
  ∃n d b:Nat,(n<=20/\(1<=d/\d<=20)/\b<=20)/\∀w,Calls Tryz.prog 37 #[.int .i64 x,.int .i64 y,.int .i64 z] w fun r w'=>r=.returned (Ci n d b)/\Below w.heap.size w w':=by
 obtain⟨n,hn,p0⟩:=eW x 21 hx (by omega) (by omega);obtain⟨d,hd,p1⟩:=eW y 20 hy (by omega) (by omega);obtain⟨b,hb,p2⟩:=eW z 21 hz (by omega) (by omega);refine⟨n,1+d,b,⟨by omega,⟨by omega,by omega⟩,by omega⟩,fun w=>?_⟩;have P:Hid (_/\_/\_):=⟨p0,p1,p2⟩;clear p0 p1 p2 hx hy hz;obtain⟨W0,hW0⟩:∃W0,W0=w.alloc (.cells #[.int .i64 0,.int .i64 0,.int .i64 0] 26):=⟨_,rfl⟩;have hB0:W0.heap[w.heap.size]?=some (.cells #[.int .i64 0,.int .i64 0,.int .i64 0] 26 (0,0)):=by rw[hW0];exact heap_alloc_new _ _
 have hb0:Below w.heap.size w W0:=by rw[hW0];exact ai _
 obtain⟨c0,c1,c2,hlt⟩:=vu hB0;have s0:W0.frozen? ⟨w.heap.size,0,none⟩=false:=by simp[World.frozen?,hB0]
 have s1:W0.frozen? ⟨w.heap.size,1,none⟩=false:=by simp[World.frozen?,hB0]
 have s2:W0.frozen? ⟨w.heap.size,2,none⟩=false:=by simp[World.frozen?,hB0]
 have H:Hid (_/\_/\_):=⟨hW0,hB0,hb0⟩;clear hW0 hB0 hb0;go_enter Tryz.func37,Tryz.ntmps37
 go_wp2_with fail
 rw[<-H.out.1];refine(P.out.1 _).mono ?_;rintro e w' ⟨rfl,rfl⟩
 go_wp2_with fail
 refine(P.out.2.1 _).mono ?_;rintro e w' ⟨rfl,rfl⟩
 go_wp2_with fail
 refine(P.out.2.2 _).mono ?_;rintro e w' ⟨rfl,rfl⟩;go_wp2;exact bodyPost_ret (v:=.agg #[.int .i64 n,.int .i64 (1+d),.int .i64 b]) (ey Tryz.results37 rfl (aI (P:=Tryz.prog) (cs:=[.int .i64 n,.int .i64 (1+d),.int .i64 b]) (uD H.out.2.1) Tryz.underlying26 rfl (by kernel_rfl))) rfl ⟨by simp,((H.out.2.2.setCell (Nat.le_refl _) _).setCell (Nat.le_refl _) _).setCell (Nat.le_refl _) _⟩
theorem ED(x y z:Int)(hx:(Lit.int .i64 x).wf=true)(hy:(Lit.int .i64 y).wf=true)(hz:(Lit.int .i64 z).wf=true) :
  ∃n f d:Nat,(1<=n/\n<=16)/\(1<=f/\f<=n)/\(1<=d/\d<=500)/\n=1+eB x 16/\∀w,Calls Tryz.prog 38 #[.int .i64 x,.int .i64 y,.int .i64 z] w fun r w'=>r=.returned (iR n f d)/\Below w.heap.size w w':=by
 have p0:∀W,Calls Tryz.prog 23 #[.int .i64 x,.int .i64 16] W fun r w'=>r=.returned (.int .i64 (eB x 16:Nat))/\w'=W:=fun W=>by
  have hb:=qI hx;have:=pc x 16 W hb.1 hb.2 (by omega) (by omega);exact this
 have hn:=nP x 16 (by omega);generalize eB x 16=n at *;obtain⟨f,hf,p1⟩:=eW y (1+n) hy (by omega) (by omega);obtain⟨d,hd,p2⟩:=eW z 500 hz (by omega) (by omega);refine⟨1+n,1+f,1+d,⟨by omega,by omega⟩,⟨by omega,by omega⟩,⟨by omega,by omega⟩,rfl,fun w=>?_⟩;rw[Int.natCast_add]at p1;have P:Hid (_/\_/\_):=⟨p0,p1,p2⟩;clear p0 p1 p2 hx hy hz;obtain⟨W0,hW0⟩:∃W0,W0=w.alloc (.cells #[.int .i64 0,.int .i64 0,.int .i64 0] 28):=⟨_,rfl⟩;have hB0:W0.heap[w.heap.size]?=some (.cells #[.int .i64 0,.int .i64 0,.int .i64 0] 28 (0,0)):=by rw[hW0];exact heap_alloc_new _ _
 have hb0:Below w.heap.size w W0:=by rw[hW0];exact ai _
 obtain⟨c0,c1,c2,hlt⟩:=vu hB0;have s0:W0.frozen? ⟨w.heap.size,0,none⟩=false:=by simp[World.frozen?,hB0]
 have s1:W0.frozen? ⟨w.heap.size,1,none⟩=false:=by simp[World.frozen?,hB0]
 have s2:W0.frozen? ⟨w.heap.size,2,none⟩=false:=by simp[World.frozen?,hB0]
 have H:Hid (_/\_/\_):=⟨hW0,hB0,hb0⟩;clear hW0 hB0 hb0;go_enter Tryz.func38,Tryz.ntmps38
 go_wp2_with fail
 rw[<-H.out.1];refine(P.out.1 _).mono ?_;rintro e w' ⟨rfl,rfl⟩
 go_wp2_with fail
 refine(P.out.2.1 _).mono ?_;rintro e w' ⟨rfl,rfl⟩
 go_wp2_with fail
 refine(P.out.2.2 _).mono ?_;rintro e w' ⟨rfl,rfl⟩;go_wp2;exact bodyPost_ret (v:=.agg #[.int .i64 (1+n),.int .i64 (1+f),.int .i64 (1+d)]) (ey Tryz.results38 rfl (aI (P:=Tryz.prog) (cs:=[.int .i64 (1+n),.int .i64 (1+f),.int .i64 (1+d)]) (uD H.out.2.1) Tryz.underlying28 rfl (by kernel_rfl))) rfl ⟨by simp,((H.out.2.2.setCell (Nat.le_refl _) _).setCell (Nat.le_refl _) _).setCell (Nat.le_refl _) _⟩
abbrev BD(x0 x1 x2 x3 x4 x5 x6 x7 x8 x9 x10 x11 x12 x13 x14 x15:Int):Value:=.agg #[.int .i64 x0,.int .i64 x1,.int .i64 x2,.int .i64 x3,.int .i64 x4,.int .i64 x5,.int .i64 x6,.int .i64 x7,.int .i64 x8,.int .i64 x9,.int .i64 x10,.int .i64 x11,.int .i64 x12,.int .i64 x13,.int .i64 x14,.int .i64 x15]
abbrev qp(x0 x1 x2 x3 x4 x5 x6 x7 x8 x9 x10 x11 x12 x13 x14 x15:Int):Obj:=.cells #[.int .i64 x0,.int .i64 x1,.int .i64 x2,.int .i64 x3,.int .i64 x4,.int .i64 x5,.int .i64 x6,.int .i64 x7,.int .i64 x8,.int .i64 x9,.int .i64 x10,.int .i64 x11,.int .i64 x12,.int .i64 x13,.int .i64 x14,.int .i64 x15] 24
theorem nX{b:Nat}{x0 x1 x2 x3 x4 x5 x6 x7 x8 x9 x10 x11 x12 x13 x14 x15:Int}(h:w.heap[b]?=some (qp x0 x1 x2 x3 x4 x5 x6 x7 x8 x9 x10 x11 x12 x13 x14 x15)):w.cell? ⟨b,0,none⟩=some (.int .i64 x0)/\w.cell? ⟨b,1,none⟩=some (.int .i64 x1)/\w.cell? ⟨b,2,none⟩=some (.int .i64 x2)/\w.cell? ⟨b,3,none⟩=some (.int .i64 x3)/\w.cell? ⟨b,4,none⟩=some (.int .i64 x4)/\w.cell? ⟨b,5,none⟩=some (.int .i64 x5)/\w.cell? ⟨b,6,none⟩=some (.int .i64 x6)/\w.cell? ⟨b,7,none⟩=some (.int .i64 x7)/\w.cell? ⟨b,8,none⟩=some (.int .i64 x8)/\w.cell? ⟨b,9,none⟩=some (.int .i64 x9)/\w.cell? ⟨b,10,none⟩=some (.int .i64 x10)/\w.cell? ⟨b,11,none⟩=some (.int .i64 x11)/\w.cell? ⟨b,12,none⟩=some (.int .i64 x12)/\w.cell? ⟨b,13,none⟩=some (.int .i64 x13)/\w.cell? ⟨b,14,none⟩=some (.int .i64 x14)/\w.cell? ⟨b,15,none⟩=some (.int .i64 x15)/\b<w.heap.size :=
 ⟨by simp[World.cell?,h],by simp[World.cell?,h],by simp[World.cell?,h],by simp[World.cell?,h],by simp[World.cell?,h],by simp[World.cell?,h],by simp[World.cell?,h],by simp[World.cell?,h],by simp[World.cell?,h],by simp[World.cell?,h],by simp[World.cell?,h],by simp[World.cell?,h],by simp[World.cell?,h],by simp[World.cell?,h],by simp[World.cell?,h],by simp[World.cell?,h],(Array.getElem?_eq_some_iff.1 h).1⟩
theorem DL(x:Int):(Lit.int .i64 (x.tmod 20)).wf=true:=by
 by_cases h:x<0
 ·have e:x.tmod 20 = -((-x) % 20):=by
   rw[show x = -(-x)by omega,Int.neg_tmod,Int.tmod_eq_emod_of_nonneg (by omega)];simp
  rw[e];exact kM (by omega) (by omega)
 ·rw[Int.tmod_eq_emod_of_nonneg (by omega)]
  exact kM (by omega) (by omega)
theorem jn{n:Int}(h1:-1000000<=n)(h2:n<=1000000):IntKind.i64.wrap n=n:=by rw[IntKind.wrap_i64];omega
theorem BG(l:List Int):(l.map fun x=>Value.int .i64 x).toArray.all (·.oneCell')=true:=by
 apply all_oneCell_toArray;intro v hv;obtain⟨x,_,rfl⟩:=List.mem_map.1 hv;rfl
structure i9(x0 x1 x2 x3 x4 x5 x6 x7 x8 x9 x10 x11 x12 x13 x14 x15:Int)(c:Cf):Prop where
 ok:i6 c
 flows:c.flows<=8
 drain:c.drain<=5
 idle:c.idle<=6
 conn:c.conn<=4
 ret:c.ret<=3
 most:c.most=((eB x9 101:Nat):Int)
theorem FS(x0 x1 x2 x3 x4 x5 x6 x7 x8 x9 x10 x11 x12 x13 x14 x15:Int)(w0:(Lit.int .i64 x0).wf=true)(w1:(Lit.int .i64 x1).wf=true)(w2:(Lit.int .i64 x2).wf=true)(w3:(Lit.int .i64 x3).wf=true)(w4:(Lit.int .i64 x4).wf=true)(w5:(Lit.int .i64 x5).wf=true)(w6:(Lit.int .i64 x6).wf=true)(w7:(Lit.int .i64 x7).wf=true)(w8:(Lit.int .i64 x8).wf=true)(w9:(Lit.int .i64 x9).wf=true)(w10:(Lit.int .i64 x10).wf=true)(w11:(Lit.int .i64 x11).wf=true)(w12:(Lit.int .i64 x12).wf=true)(w13:(Lit.int .i64 x13).wf=true)(w14:(Lit.int .i64 x14).wf=true)(w15:(Lit.int .i64 x15).wf=true) :
  ∃c:Cf,i9 x0 x1 x2 x3 x4 x5 x6 x7 x8 x9 x10 x11 x12 x13 x14 x15 c/\∀w,Calls Tryz.prog 22 #[BD x0 x1 x2 x3 x4 x5 x6 x7 x8 x9 x10 x11 x12 x13 x14 x15] w fun r w'=>r=.returned (lA c)/\Below w.heap.size w w':=by
 obtain⟨k2,b2,p2⟩:=eW x2 20 w2 (by omega) (by omega);obtain⟨k0,b0,p0⟩:=eW x0 8 w0 (by omega) (by omega);obtain⟨k3,b3,p3⟩:=eW x3 4 w3 (by omega) (by omega);obtain⟨k4,b4,p4⟩:=eW x4 6 w4 (by omega) (by omega);obtain⟨k5,b5,p5⟩:=eW x5 5 w5 (by omega) (by omega);obtain⟨k6,b6,p6⟩:=eW x6 6 w6 (by omega) (by omega);obtain⟨k7,b7,p7⟩:=eW x7 4 w7 (by omega) (by omega);obtain⟨k8,b8,p8⟩:=eW x8 4 w8 (by omega) (by omega);obtain⟨k1,b1,p1⟩:=eW x1 (20-k2) w1 (by omega) (by omega);have hc1:(((20-k2:Nat)):Int)=20-(1+(k2:Int))+1:=by omega
 rw[hc1]at p1;have p9:∀W,Calls Tryz.prog 23 #[.int .i64 x9,.int .i64 101] W fun r w'=>r=.returned (.int .i64 ((eB x9 101:Nat):Int))/\w'=W:=fun W=>by
  have hb:=qI w9;exact pc x9 101 W hb.1 hb.2 (by omega) (by omega)
 have b9:=nP x9 101 (by omega);obtain⟨bn,bd,bb,hbud,pb⟩:=Ca x10 x11 x12 w10 w11 w12;obtain⟨wn,wf,wh,hw1,hw2,hw3,_,pw⟩:=ED x13 x14 (x15.tmod 20) w13 w14 (DL x15);refine⟨⟨1+k0,1+k2+k1,1+k2,k3,k4,1+k5,1+k6,1+k7,k8,(eB x9 101:Nat),bn,bd,bb,wn,wf,wh⟩,⟨⟨⟨by show(1:Int)<=1+k0;omega,by show(1:Int)+k0<=40;omega⟩,⟨by show(1:Int)<=1+k2;omega,by show(1:Int)+k2<=1+k2+k1;omega⟩,by show(1:Int)+k2+k1<=20;omega,⟨by show(0:Int)<=k3;omega,by show(k3:Int)<=12;omega⟩,⟨by show(0:Int)<=k4;omega,by show(k4:Int)<=500;omega⟩,⟨by show(1:Int)<=1+k5;omega,by show(1:Int)+k5<=500;omega⟩,⟨by show(1:Int)<=1+k6;omega,by show(1:Int)+k6<=500;omega⟩,⟨by show(1:Int)<=1+k7;omega,by show(1:Int)+k7<=500;omega⟩,⟨by show(0:Int)<=k8;omega,by show(k8:Int)<=20;omega⟩,⟨by show(0:Int)<=((eB x9 101:Nat):Int);omega,by show((eB x9 101:Nat):Int)<=100;omega⟩,?_,?_⟩,by show(1:Int)+k0<=8;omega,by show(1:Int)+k5<=5;omega,by show(1:Int)+k6<=6;omega,by show(1:Int)+k7<=4;omega,by show(k8:Int)<=3;omega,rfl⟩,fun w=>?_⟩
 ·show dq (bn:Int) (bd:Int) (bb:Int)
  exact⟨by omega,by omega,by omega⟩
 ·show dR (wn:Int) (wf:Int) (wh:Int)
  exact⟨by omega,by omega,by omega⟩
 obtain⟨m9,hm9⟩:∃m9,m9=eB x9 101:=⟨_,rfl⟩;rw[<-hm9]at p9 b9⊢;clear hm9 hc1 w0 w1 w2 w3 w4 w5 w6 w7 w8 w9 w10 w11 w12 w13 w14 w15;have e11:IntKind.i64.wrap (1+(k0:Int))=1+(k0:Int):=jn (by omega) (by omega);have e16:IntKind.i64.wrap (20-(1+(k2:Int)))=20-(1+(k2:Int)):=jn (by omega) (by omega);have e17:IntKind.i64.wrap (20-(1+(k2:Int))+1)=20-(1+(k2:Int))+1:=jn (by omega) (by omega);have e19:IntKind.i64.wrap (1+(k2:Int)+(k1:Int))=1+(k2:Int)+(k1:Int):=jn (by omega) (by omega);have e30:IntKind.i64.wrap (1+(k5:Int))=1+(k5:Int):=jn (by omega) (by omega);have e34:IntKind.i64.wrap (1+(k6:Int))=1+(k6:Int):=jn (by omega) (by omega);have e38:IntKind.i64.wrap (1+(k7:Int))=1+(k7:Int):=jn (by omega) (by omega);obtain⟨W0,hW0⟩:∃W0,W0=(w.alloc (qp x0 x1 x2 x3 x4 x5 x6 x7 x8 x9 x10 x11 x12 x13 x14 x15)).alloc (gM aL):=⟨_,rfl⟩;have hb0:Below w.heap.size w W0:=by rw[hW0];exact(ai w).trans ((ai _).mono (by simp))
 have hR0:W0.heap[w.heap.size]?=some (qp x0 x1 x2 x3 x4 x5 x6 x7 x8 x9 x10 x11 x12 x13 x14 x15):=by rw[hW0];exact aN _ _ (heap_alloc_new _ _)
 have hR1:W0.heap[w.heap.size+1]?=some (gM aL):=by rw[hW0];exact bV _ _ _
 obtain⟨b,hb⟩:∃b,b=w.heap.size:=⟨_,rfl⟩;obtain⟨g,hg⟩:∃g,g=w.heap.size+1:=⟨_,rfl⟩;rw[<-hb]at hR0;rw[<-hg]at hR1;obtain⟨a0,a1,a2,a3,a4,a5,a6,a7,a8,a9,a10,a11,a12,a13,a14,a15,alt⟩:=nX hR0;have HP:Hid (_/\_/\_/\_/\_/\_/\_/\_/\_/\_):=⟨p0,p1,p2,p3,p4,p5,p6,p7,p8,p9⟩;have hgw:w.heap.size<=g:=by omega
 have HV:Hid (_/\_/\_/\_/\_/\_/\_):=⟨hb0,hR0,hR1,hW0,hb,hg,hgw⟩;have HS:Hid (∀X,Below W0.heap.size W0 X->X.cell? ⟨b,0,none⟩=some (.int .i64 x0)/\X.cell? ⟨b,1,none⟩=some (.int .i64 x1)/\X.cell? ⟨b,2,none⟩=some (.int .i64 x2)/\X.cell? ⟨b,3,none⟩=some (.int .i64 x3)/\X.cell? ⟨b,4,none⟩=some (.int .i64 x4)/\X.cell? ⟨b,5,none⟩=some (.int .i64 x5)/\X.cell? ⟨b,6,none⟩=some (.int .i64 x6)/\X.cell? ⟨b,7,none⟩=some (.int .i64 x7)/\X.cell? ⟨b,8,none⟩=some (.int .i64 x8)/\X.cell? ⟨b,9,none⟩=some (.int .i64 x9)/\X.cell? ⟨b,10,none⟩=some (.int .i64 x10)/\X.cell? ⟨b,11,none⟩=some (.int .i64 x11)/\X.cell? ⟨b,12,none⟩=some (.int .i64 x12)/\X.cell? ⟨b,13,none⟩=some (.int .i64 x13)/\X.cell? ⟨b,14,none⟩=some (.int .i64 x14)/\X.cell? ⟨b,15,none⟩=some (.int .i64 x15)):=fun X hX=>by
  obtain⟨q0,q1,q2,q3,q4,q5,q6,q7,q8,q9,q10,q11,q12,q13,q14,q15,_⟩:=nX (af hR0 hX);exact⟨q0,q1,q2,q3,q4,q5,q6,q7,q8,q9,q10,q11,q12,q13,q14,q15⟩
 have HB:Hid _:=pb;have HW:Hid _:=pw;have hrem:∀X:World,(binOp .rem 3 (.int .i64 x15) (.int .i64 20)).run Tryz.prog X=.ok (.int .i64 (x15.tmod 20)) X:=fun X=>by go_simp
 clear p0 p1 p2 p3 p4 p5 p6 p7 p8 p9 hb0 hR0 hR1 hW0 pb pw hb hg hgw;go_enter Tryz.func22,Tryz.ntmps22
 go_wp2_with fail
 rw[show(#[.int .i64 0,.int .i64 0,.int .i64 0,.int .i64 0,.int .i64 0,.int .i64 0,.int .i64 0,.int .i64 0,.int .i64 0,.int .i64 0,.int .i64 0,.int .i64 0,.int .i64 0,.int .i64 0,.int .i64 0,.int .i64 0]:Array Value)=#[.int .i64 aL.flows,.int .i64 aL.num,.int .i64 aL.den,.int .i64 aL.tries,.int .i64 aL.warm,.int .i64 aL.drain,.int .i64 aL.idle,.int .i64 aL.conn,.int .i64 aL.ret,.int .i64 aL.most,.int .i64 aL.bn,.int .i64 aL.bd,.int .i64 aL.bb,.int .i64 aL.wn,.int .i64 aL.wf,.int .i64 aL.wh]from rfl,<-HV.out.2.2.2.1,<-HV.out.2.2.2.2.2.1,<-HV.out.2.2.2.2.1];refine(HP.out.2.2.1 _).mono ?_;rintro r v1 ⟨rfl,hv1⟩;subst hv1;go_wp2;have hb1:Below v1.heap.size v1 v1.drew:=(Below.refl _ _).drew;refine wp_region_held_drew (S:=fun W=>W.cell? ⟨b,0,none⟩=some (.int .i64 x0)/\W.cell? ⟨b,1,none⟩=some (.int .i64 x1)/\W.cell? ⟨b,2,none⟩=some (.int .i64 x2)/\W.cell? ⟨b,3,none⟩=some (.int .i64 x3)/\W.cell? ⟨b,4,none⟩=some (.int .i64 x4)/\W.cell? ⟨b,5,none⟩=some (.int .i64 x5)/\W.cell? ⟨b,6,none⟩=some (.int .i64 x6)/\W.cell? ⟨b,7,none⟩=some (.int .i64 x7)/\W.cell? ⟨b,8,none⟩=some (.int .i64 x8)/\W.cell? ⟨b,9,none⟩=some (.int .i64 x9)/\W.cell? ⟨b,10,none⟩=some (.int .i64 x10)/\W.cell? ⟨b,11,none⟩=some (.int .i64 x11)/\W.cell? ⟨b,12,none⟩=some (.int .i64 x12)/\W.cell? ⟨b,13,none⟩=some (.int .i64 x13)/\W.cell? ⟨b,14,none⟩=some (.int .i64 x14)/\W.cell? ⟨b,15,none⟩=some (.int .i64 x15)) (by kernel_rfl) (HS.out _ hb1) (fun hHeld=>?_);refine wpAnyH_take (i:=0) (oi:=_) (v:=.pointer (some ⟨b,0,none⟩)) rfl (by kernel_rfl) (by kernel_rfl) (by kernel_rfl) (fun _ _ _ h=>h) (Or.inl ⟨by rfl,fun X hSw=>by obtain⟨s0,s1,s2,s3,s4,s5,s6,s7,s8,s9,s10,s11,s12,s13,s14,s15⟩:=hSw;go_simp⟩) hHeld ?_;simp only[Act.put,List.setIfInBounds_toArray,List.set_cons_zero,List.set_cons_succ];refine wpAnyH_take (i:=1) (oi:=_) (v:=.int .i64 (x0)) rfl (by kernel_rfl) (by kernel_rfl) (by kernel_rfl) (fun _ _ _ h=>h) (Or.inl ⟨by rfl,fun X hSw=>by obtain⟨s0,s1,s2,s3,s4,s5,s6,s7,s8,s9,s10,s11,s12,s13,s14,s15⟩:=hSw;go_simp⟩) hHeld ?_;simp only[Act.put,List.setIfInBounds_toArray,List.set_cons_zero,List.set_cons_succ];refine wpAnyH_take (i:=4) (oi:=_) (v:=.int .i64 (1+(k2:Int))) rfl (by kernel_rfl) (by kernel_rfl) (by kernel_rfl) (fun _ _ _ h=>h) (Or.inl ⟨by rfl,fun X hSw=>by obtain⟨s0,s1,s2,s3,s4,s5,s6,s7,s8,s9,s10,s11,s12,s13,s14,s15⟩:=hSw;go_simp⟩) hHeld ?_;simp only[Act.put,List.setIfInBounds_toArray,List.set_cons_zero,List.set_cons_succ];refine wpAnyH_take (i:=5) (oi:=_) (v:=.pointer (some ⟨b,1,none⟩)) rfl (by kernel_rfl) (by kernel_rfl) (by kernel_rfl) (fun _ _ _ h=>h) (Or.inl ⟨by rfl,fun X hSw=>by obtain⟨s0,s1,s2,s3,s4,s5,s6,s7,s8,s9,s10,s11,s12,s13,s14,s15⟩:=hSw;go_simp⟩) hHeld ?_;simp only[Act.put,List.setIfInBounds_toArray,List.set_cons_zero,List.set_cons_succ];refine wpAnyH_take (i:=6) (oi:=_) (v:=.int .i64 (x1)) rfl (by kernel_rfl) (by kernel_rfl) (by kernel_rfl) (fun _ _ _ h=>h) (Or.inl ⟨by rfl,fun X hSw=>by obtain⟨s0,s1,s2,s3,s4,s5,s6,s7,s8,s9,s10,s11,s12,s13,s14,s15⟩:=hSw;go_simp⟩) hHeld ?_;simp only[Act.put,List.setIfInBounds_toArray,List.set_cons_zero,List.set_cons_succ];refine wpAnyH_take (i:=7) (oi:=_) (v:=.int .i64 (1+(k2:Int))) rfl (by kernel_rfl) (by kernel_rfl) (by kernel_rfl) (fun _ _ _ h=>h) (Or.inl ⟨by rfl,fun X hSw=>by obtain⟨s0,s1,s2,s3,s4,s5,s6,s7,s8,s9,s10,s11,s12,s13,s14,s15⟩:=hSw;go_simp⟩) hHeld ?_;simp only[Act.put,List.setIfInBounds_toArray,List.set_cons_zero,List.set_cons_succ];refine wpAnyH_take (i:=8) (oi:=_) (v:=.int .i64 (20-(1+(k2:Int)))) rfl (by kernel_rfl) (by kernel_rfl) (by kernel_rfl) (fun _ _ _ h=>h) (Or.inl ⟨by rfl,fun X hSw=>by obtain⟨s0,s1,s2,s3,s4,s5,s6,s7,s8,s9,s10,s11,s12,s13,s14,s15⟩:=hSw;go_simp⟩) hHeld ?_;simp only[Act.put,List.setIfInBounds_toArray,List.set_cons_zero,List.set_cons_succ];refine wpAnyH_take (i:=9) (oi:=_) (v:=.int .i64 (20-(1+(k2:Int))+1)) rfl (by kernel_rfl) (by kernel_rfl) (by kernel_rfl) (fun _ _ _ h=>h) (Or.inl ⟨by rfl,fun X hSw=>by obtain⟨s0,s1,s2,s3,s4,s5,s6,s7,s8,s9,s10,s11,s12,s13,s14,s15⟩:=hSw;go_simp⟩) hHeld ?_;simp only[Act.put,List.setIfInBounds_toArray,List.set_cons_zero,List.set_cons_succ];refine wpAnyH_take (i:=12) (oi:=_) (v:=.int .i64 (1+(k2:Int))) rfl (by kernel_rfl) (by kernel_rfl) (by kernel_rfl) (fun _ _ _ h=>h) (Or.inl ⟨by rfl,fun X hSw=>by obtain⟨s0,s1,s2,s3,s4,s5,s6,s7,s8,s9,s10,s11,s12,s13,s14,s15⟩:=hSw;go_simp⟩) hHeld ?_;simp only[Act.put,List.setIfInBounds_toArray,List.set_cons_zero,List.set_cons_succ];refine wpAnyH_take (i:=13) (oi:=_) (v:=.pointer (some ⟨b,3,none⟩)) rfl (by kernel_rfl) (by kernel_rfl) (by kernel_rfl) (fun _ _ _ h=>h) (Or.inl ⟨by rfl,fun X hSw=>by obtain⟨s0,s1,s2,s3,s4,s5,s6,s7,s8,s9,s10,s11,s12,s13,s14,s15⟩:=hSw;go_simp⟩) hHeld ?_;simp only[Act.put,List.setIfInBounds_toArray,List.set_cons_zero,List.set_cons_succ];refine wpAnyH_take (i:=14) (oi:=_) (v:=.int .i64 (x3)) rfl (by kernel_rfl) (by kernel_rfl) (by kernel_rfl) (fun _ _ _ h=>h) (Or.inl ⟨by rfl,fun X hSw=>by obtain⟨s0,s1,s2,s3,s4,s5,s6,s7,s8,s9,s10,s11,s12,s13,s14,s15⟩:=hSw;go_simp⟩) hHeld ?_;simp only[Act.put,List.setIfInBounds_toArray,List.set_cons_zero,List.set_cons_succ];refine wpAnyH_take (i:=16) (oi:=_) (v:=.pointer (some ⟨b,4,none⟩)) rfl (by kernel_rfl) (by kernel_rfl) (by kernel_rfl) (fun _ _ _ h=>h) (Or.inl ⟨by rfl,fun X hSw=>by obtain⟨s0,s1,s2,s3,s4,s5,s6,s7,s8,s9,s10,s11,s12,s13,s14,s15⟩:=hSw;go_simp⟩) hHeld ?_;simp only[Act.put,List.setIfInBounds_toArray,List.set_cons_zero,List.set_cons_succ];refine wpAnyH_take (i:=17) (oi:=_) (v:=.int .i64 (x4)) rfl (by kernel_rfl) (by kernel_rfl) (by kernel_rfl) (fun _ _ _ h=>h) (Or.inl ⟨by rfl,fun X hSw=>by obtain⟨s0,s1,s2,s3,s4,s5,s6,s7,s8,s9,s10,s11,s12,s13,s14,s15⟩:=hSw;go_simp⟩) hHeld ?_;simp only[Act.put,List.setIfInBounds_toArray,List.set_cons_zero,List.set_cons_succ];refine wpAnyH_take (i:=19) (oi:=_) (v:=.pointer (some ⟨b,5,none⟩)) rfl (by kernel_rfl) (by kernel_rfl) (by kernel_rfl) (fun _ _ _ h=>h) (Or.inl ⟨by rfl,fun X hSw=>by obtain⟨s0,s1,s2,s3,s4,s5,s6,s7,s8,s9,s10,s11,s12,s13,s14,s15⟩:=hSw;go_simp⟩) hHeld ?_;simp only[Act.put,List.setIfInBounds_toArray,List.set_cons_zero,List.set_cons_succ];refine wpAnyH_take (i:=20) (oi:=_) (v:=.int .i64 (x5)) rfl (by kernel_rfl) (by kernel_rfl) (by kernel_rfl) (fun _ _ _ h=>h) (Or.inl ⟨by rfl,fun X hSw=>by obtain⟨s0,s1,s2,s3,s4,s5,s6,s7,s8,s9,s10,s11,s12,s13,s14,s15⟩:=hSw;go_simp⟩) hHeld ?_;simp only[Act.put,List.setIfInBounds_toArray,List.set_cons_zero,List.set_cons_succ];refine wpAnyH_take (i:=23) (oi:=_) (v:=.pointer (some ⟨b,6,none⟩)) rfl (by kernel_rfl) (by kernel_rfl) (by kernel_rfl) (fun _ _ _ h=>h) (Or.inl ⟨by rfl,fun X hSw=>by obtain⟨s0,s1,s2,s3,s4,s5,s6,s7,s8,s9,s10,s11,s12,s13,s14,s15⟩:=hSw;go_simp⟩) hHeld ?_;simp only[Act.put,List.setIfInBounds_toArray,List.set_cons_zero,List.set_cons_succ];refine wpAnyH_take (i:=24) (oi:=_) (v:=.int .i64 (x6)) rfl (by kernel_rfl) (by kernel_rfl) (by kernel_rfl) (fun _ _ _ h=>h) (Or.inl ⟨by rfl,fun X hSw=>by obtain⟨s0,s1,s2,s3,s4,s5,s6,s7,s8,s9,s10,s11,s12,s13,s14,s15⟩:=hSw;go_simp⟩) hHeld ?_;simp only[Act.put,List.setIfInBounds_toArray,List.set_cons_zero,List.set_cons_succ];refine wpAnyH_take (i:=27) (oi:=_) (v:=.pointer (some ⟨b,7,none⟩)) rfl (by kernel_rfl) (by kernel_rfl) (by kernel_rfl) (fun _ _ _ h=>h) (Or.inl ⟨by rfl,fun X hSw=>by obtain⟨s0,s1,s2,s3,s4,s5,s6,s7,s8,s9,s10,s11,s12,s13,s14,s15⟩:=hSw;go_simp⟩) hHeld ?_;simp only[Act.put,List.setIfInBounds_toArray,List.set_cons_zero,List.set_cons_succ];refine wpAnyH_take (i:=28) (oi:=_) (v:=.int .i64 (x7)) rfl (by kernel_rfl) (by kernel_rfl) (by kernel_rfl) (fun _ _ _ h=>h) (Or.inl ⟨by rfl,fun X hSw=>by obtain⟨s0,s1,s2,s3,s4,s5,s6,s7,s8,s9,s10,s11,s12,s13,s14,s15⟩:=hSw;go_simp⟩) hHeld ?_;simp only[Act.put,List.setIfInBounds_toArray,List.set_cons_zero,List.set_cons_succ];refine wpAnyH_take (i:=31) (oi:=_) (v:=.pointer (some ⟨b,8,none⟩)) rfl (by kernel_rfl) (by kernel_rfl) (by kernel_rfl) (fun _ _ _ h=>h) (Or.inl ⟨by rfl,fun X hSw=>by obtain⟨s0,s1,s2,s3,s4,s5,s6,s7,s8,s9,s10,s11,s12,s13,s14,s15⟩:=hSw;go_simp⟩) hHeld ?_;simp only[Act.put,List.setIfInBounds_toArray,List.set_cons_zero,List.set_cons_succ];refine wpAnyH_take (i:=32) (oi:=_) (v:=.int .i64 (x8)) rfl (by kernel_rfl) (by kernel_rfl) (by kernel_rfl) (fun _ _ _ h=>h) (Or.inl ⟨by rfl,fun X hSw=>by obtain⟨s0,s1,s2,s3,s4,s5,s6,s7,s8,s9,s10,s11,s12,s13,s14,s15⟩:=hSw;go_simp⟩) hHeld ?_;simp only[Act.put,List.setIfInBounds_toArray,List.set_cons_zero,List.set_cons_succ];refine wpAnyH_take (i:=34) (oi:=_) (v:=.pointer (some ⟨b,9,none⟩)) rfl (by kernel_rfl) (by kernel_rfl) (by kernel_rfl) (fun _ _ _ h=>h) (Or.inl ⟨by rfl,fun X hSw=>by obtain⟨s0,s1,s2,s3,s4,s5,s6,s7,s8,s9,s10,s11,s12,s13,s14,s15⟩:=hSw;go_simp⟩) hHeld ?_;simp only[Act.put,List.setIfInBounds_toArray,List.set_cons_zero,List.set_cons_succ];refine wpAnyH_take (i:=35) (oi:=_) (v:=.int .i64 (x9)) rfl (by kernel_rfl) (by kernel_rfl) (by kernel_rfl) (fun _ _ _ h=>h) (Or.inl ⟨by rfl,fun X hSw=>by obtain⟨s0,s1,s2,s3,s4,s5,s6,s7,s8,s9,s10,s11,s12,s13,s14,s15⟩:=hSw;go_simp⟩) hHeld ?_;simp only[Act.put,List.setIfInBounds_toArray,List.set_cons_zero,List.set_cons_succ];refine wpAnyH_take (i:=37) (oi:=_) (v:=.pointer (some ⟨b,10,none⟩)) rfl (by kernel_rfl) (by kernel_rfl) (by kernel_rfl) (fun _ _ _ h=>h) (Or.inl ⟨by rfl,fun X hSw=>by obtain⟨s0,s1,s2,s3,s4,s5,s6,s7,s8,s9,s10,s11,s12,s13,s14,s15⟩:=hSw;go_simp⟩) hHeld ?_;simp only[Act.put,List.setIfInBounds_toArray,List.set_cons_zero,List.set_cons_succ];refine wpAnyH_take (i:=38) (oi:=_) (v:=.pointer (some ⟨b,10,none⟩)) rfl (by kernel_rfl) (by kernel_rfl) (by kernel_rfl) (fun _ _ _ h=>h) (Or.inl ⟨by rfl,fun X hSw=>by obtain⟨s0,s1,s2,s3,s4,s5,s6,s7,s8,s9,s10,s11,s12,s13,s14,s15⟩:=hSw;go_simp⟩) hHeld ?_;simp only[Act.put,List.setIfInBounds_toArray,List.set_cons_zero,List.set_cons_succ];refine wpAnyH_take (i:=39) (oi:=_) (v:=.int .i64 (x10)) rfl (by kernel_rfl) (by kernel_rfl) (by kernel_rfl) (fun _ _ _ h=>h) (Or.inl ⟨by rfl,fun X hSw=>by obtain⟨s0,s1,s2,s3,s4,s5,s6,s7,s8,s9,s10,s11,s12,s13,s14,s15⟩:=hSw;go_simp⟩) hHeld ?_;simp only[Act.put,List.setIfInBounds_toArray,List.set_cons_zero,List.set_cons_succ];refine wpAnyH_take (i:=40) (oi:=_) (v:=.pointer (some ⟨b,10,none⟩)) rfl (by kernel_rfl) (by kernel_rfl) (by kernel_rfl) (fun _ _ _ h=>h) (Or.inl ⟨by rfl,fun X hSw=>by obtain⟨s0,s1,s2,s3,s4,s5,s6,s7,s8,s9,s10,s11,s12,s13,s14,s15⟩:=hSw;go_simp⟩) hHeld ?_;simp only[Act.put,List.setIfInBounds_toArray,List.set_cons_zero,List.set_cons_succ];refine wpAnyH_take (i:=41) (oi:=_) (v:=.pointer (some ⟨b,11,none⟩)) rfl (by kernel_rfl) (by kernel_rfl) (by kernel_rfl) (fun _ _ _ h=>h) (Or.inl ⟨by rfl,fun X hSw=>by obtain⟨s0,s1,s2,s3,s4,s5,s6,s7,s8,s9,s10,s11,s12,s13,s14,s15⟩:=hSw;go_simp⟩) hHeld ?_;simp only[Act.put,List.setIfInBounds_toArray,List.set_cons_zero,List.set_cons_succ];refine wpAnyH_take (i:=42) (oi:=_) (v:=.int .i64 (x11)) rfl (by kernel_rfl) (by kernel_rfl) (by kernel_rfl) (fun _ _ _ h=>h) (Or.inl ⟨by rfl,fun X hSw=>by obtain⟨s0,s1,s2,s3,s4,s5,s6,s7,s8,s9,s10,s11,s12,s13,s14,s15⟩:=hSw;go_simp⟩) hHeld ?_;simp only[Act.put,List.setIfInBounds_toArray,List.set_cons_zero,List.set_cons_succ];refine wpAnyH_take (i:=43) (oi:=_) (v:=.pointer (some ⟨b,10,none⟩)) rfl (by kernel_rfl) (by kernel_rfl) (by kernel_rfl) (fun _ _ _ h=>h) (Or.inl ⟨by rfl,fun X hSw=>by obtain⟨s0,s1,s2,s3,s4,s5,s6,s7,s8,s9,s10,s11,s12,s13,s14,s15⟩:=hSw;go_simp⟩) hHeld ?_;simp only[Act.put,List.setIfInBounds_toArray,List.set_cons_zero,List.set_cons_succ];refine wpAnyH_take (i:=44) (oi:=_) (v:=.pointer (some ⟨b,12,none⟩)) rfl (by kernel_rfl) (by kernel_rfl) (by kernel_rfl) (fun _ _ _ h=>h) (Or.inl ⟨by rfl,fun X hSw=>by obtain⟨s0,s1,s2,s3,s4,s5,s6,s7,s8,s9,s10,s11,s12,s13,s14,s15⟩:=hSw;go_simp⟩) hHeld ?_;simp only[Act.put,List.setIfInBounds_toArray,List.set_cons_zero,List.set_cons_succ];refine wpAnyH_take (i:=45) (oi:=_) (v:=.int .i64 (x12)) rfl (by kernel_rfl) (by kernel_rfl) (by kernel_rfl) (fun _ _ _ h=>h) (Or.inl ⟨by rfl,fun X hSw=>by obtain⟨s0,s1,s2,s3,s4,s5,s6,s7,s8,s9,s10,s11,s12,s13,s14,s15⟩:=hSw;go_simp⟩) hHeld ?_;simp only[Act.put,List.setIfInBounds_toArray,List.set_cons_zero,List.set_cons_succ];refine wpAnyH_take (i:=47) (oi:=_) (v:=.pointer (some ⟨b,13,none⟩)) rfl (by kernel_rfl) (by kernel_rfl) (by kernel_rfl) (fun _ _ _ h=>h) (Or.inl ⟨by rfl,fun X hSw=>by obtain⟨s0,s1,s2,s3,s4,s5,s6,s7,s8,s9,s10,s11,s12,s13,s14,s15⟩:=hSw;go_simp⟩) hHeld ?_;simp only[Act.put,List.setIfInBounds_toArray,List.set_cons_zero,List.set_cons_succ];refine wpAnyH_take (i:=48) (oi:=_) (v:=.pointer (some ⟨b,13,none⟩)) rfl (by kernel_rfl) (by kernel_rfl) (by kernel_rfl) (fun _ _ _ h=>h) (Or.inl ⟨by rfl,fun X hSw=>by obtain⟨s0,s1,s2,s3,s4,s5,s6,s7,s8,s9,s10,s11,s12,s13,s14,s15⟩:=hSw;go_simp⟩) hHeld ?_;simp only[Act.put,List.setIfInBounds_toArray,List.set_cons_zero,List.set_cons_succ];refine wpAnyH_take (i:=49) (oi:=_) (v:=.int .i64 (x13)) rfl (by kernel_rfl) (by kernel_rfl) (by kernel_rfl) (fun _ _ _ h=>h) (Or.inl ⟨by rfl,fun X hSw=>by obtain⟨s0,s1,s2,s3,s4,s5,s6,s7,s8,s9,s10,s11,s12,s13,s14,s15⟩:=hSw;go_simp⟩) hHeld ?_;simp only[Act.put,List.setIfInBounds_toArray,List.set_cons_zero,List.set_cons_succ];refine wpAnyH_take (i:=50) (oi:=_) (v:=.pointer (some ⟨b,13,none⟩)) rfl (by kernel_rfl) (by kernel_rfl) (by kernel_rfl) (fun _ _ _ h=>h) (Or.inl ⟨by rfl,fun X hSw=>by obtain⟨s0,s1,s2,s3,s4,s5,s6,s7,s8,s9,s10,s11,s12,s13,s14,s15⟩:=hSw;go_simp⟩) hHeld ?_;simp only[Act.put,List.setIfInBounds_toArray,List.set_cons_zero,List.set_cons_succ];refine wpAnyH_take (i:=51) (oi:=_) (v:=.pointer (some ⟨b,14,none⟩)) rfl (by kernel_rfl) (by kernel_rfl) (by kernel_rfl) (fun _ _ _ h=>h) (Or.inl ⟨by rfl,fun X hSw=>by obtain⟨s0,s1,s2,s3,s4,s5,s6,s7,s8,s9,s10,s11,s12,s13,s14,s15⟩:=hSw;go_simp⟩) hHeld ?_;simp only[Act.put,List.setIfInBounds_toArray,List.set_cons_zero,List.set_cons_succ];refine wpAnyH_take (i:=52) (oi:=_) (v:=.int .i64 (x14)) rfl (by kernel_rfl) (by kernel_rfl) (by kernel_rfl) (fun _ _ _ h=>h) (Or.inl ⟨by rfl,fun X hSw=>by obtain⟨s0,s1,s2,s3,s4,s5,s6,s7,s8,s9,s10,s11,s12,s13,s14,s15⟩:=hSw;go_simp⟩) hHeld ?_;simp only[Act.put,List.setIfInBounds_toArray,List.set_cons_zero,List.set_cons_succ];refine wpAnyH_take (i:=53) (oi:=_) (v:=.pointer (some ⟨b,13,none⟩)) rfl (by kernel_rfl) (by kernel_rfl) (by kernel_rfl) (fun _ _ _ h=>h) (Or.inl ⟨by rfl,fun X hSw=>by obtain⟨s0,s1,s2,s3,s4,s5,s6,s7,s8,s9,s10,s11,s12,s13,s14,s15⟩:=hSw;go_simp⟩) hHeld ?_;simp only[Act.put,List.setIfInBounds_toArray,List.set_cons_zero,List.set_cons_succ];refine wpAnyH_take (i:=54) (oi:=_) (v:=.pointer (some ⟨b,15,none⟩)) rfl (by kernel_rfl) (by kernel_rfl) (by kernel_rfl) (fun _ _ _ h=>h) (Or.inl ⟨by rfl,fun X hSw=>by obtain⟨s0,s1,s2,s3,s4,s5,s6,s7,s8,s9,s10,s11,s12,s13,s14,s15⟩:=hSw;go_simp⟩) hHeld ?_;simp only[Act.put,List.setIfInBounds_toArray,List.set_cons_zero,List.set_cons_succ];refine wpAnyH_take (i:=55) (oi:=_) (v:=.int .i64 (x15)) rfl (by kernel_rfl) (by kernel_rfl) (by kernel_rfl) (fun _ _ _ h=>h) (Or.inl ⟨by rfl,fun X hSw=>by obtain⟨s0,s1,s2,s3,s4,s5,s6,s7,s8,s9,s10,s11,s12,s13,s14,s15⟩:=hSw;go_simp⟩) hHeld ?_;simp only[Act.put,List.setIfInBounds_toArray,List.set_cons_zero,List.set_cons_succ];refine wpAnyH_take (i:=56) (oi:=_) (v:=.int .i64 (x15.tmod 20)) rfl (by kernel_rfl) (by kernel_rfl) (by kernel_rfl) (fun _ _ _ h=>h) (Or.inl ⟨by rfl,fun X hSw=>by obtain⟨s0,s1,s2,s3,s4,s5,s6,s7,s8,s9,s10,s11,s12,s13,s14,s15⟩:=hSw;go_simp⟩) hHeld ?_;simp only[Act.put,List.setIfInBounds_toArray,List.set_cons_zero,List.set_cons_succ];refine wpAnyH_ready (rs:=[2]) (by kernel_rfl) (by simp) ?_;refine AllReadyH.cons (o:=_) rfl (fun K hK=>?_) AllReadyH.nil;go_simp;refine(HP.out.1 _).mono ?_;rintro r u ⟨rfl,hu⟩;subst hu
 go_wp2_with fail
 refine hK.out _ _ hHeld (fun hHeld=>?_);clear hK K
 try simp only[Act.put,List.setIfInBounds_toArray,List.set_cons_zero,List.set_cons_succ]
 refine wpAnyH_take (i:=3) (oi:=_) (v:=.int .i64 (1+(k0:Int))) rfl (by kernel_rfl) (by kernel_rfl) (by kernel_rfl) (fun _ _ _ h=>h) (Or.inl ⟨by rfl,fun X hSw=>by obtain⟨s0,s1,s2,s3,s4,s5,s6,s7,s8,s9,s10,s11,s12,s13,s14,s15⟩:=hSw;go_simp⟩) hHeld ?_;simp only[Act.put,List.setIfInBounds_toArray,List.set_cons_zero,List.set_cons_succ];refine wpAnyH_ready (rs:=[10]) (by kernel_rfl) (by simp) ?_;refine AllReadyH.cons (o:=_) rfl (fun K hK=>?_) AllReadyH.nil;go_simp;refine(HP.out.2.1 _).mono ?_;rintro r u ⟨rfl,hu⟩;subst hu
 go_wp2_with fail
 refine hK.out _ _ hHeld (fun hHeld=>?_);clear hK K
 try simp only[Act.put,List.setIfInBounds_toArray,List.set_cons_zero,List.set_cons_succ]
 refine wpAnyH_take (i:=11) (oi:=_) (v:=.int .i64 (1+(k2:Int)+(k1:Int))) rfl (by kernel_rfl) (by kernel_rfl) (by kernel_rfl) (fun _ _ _ h=>h) (Or.inl ⟨by rfl,fun X hSw=>by obtain⟨s0,s1,s2,s3,s4,s5,s6,s7,s8,s9,s10,s11,s12,s13,s14,s15⟩:=hSw;go_simp⟩) hHeld ?_;simp only[Act.put,List.setIfInBounds_toArray,List.set_cons_zero,List.set_cons_succ];refine wpAnyH_ready (rs:=[15]) (by kernel_rfl) (by simp) ?_;refine AllReadyH.cons (o:=_) rfl (fun K hK=>?_) AllReadyH.nil;go_simp;refine(HP.out.2.2.2.1 _).mono ?_;rintro r u ⟨rfl,hu⟩;subst hu
 go_wp2_with fail
 refine hK.out _ _ hHeld (fun hHeld=>?_);clear hK K
 try simp only[Act.put,List.setIfInBounds_toArray,List.set_cons_zero,List.set_cons_succ]
 refine wpAnyH_ready (rs:=[18]) (by kernel_rfl) (by simp) ?_;refine AllReadyH.cons (o:=_) rfl (fun K hK=>?_) AllReadyH.nil;go_simp;refine(HP.out.2.2.2.2.1 _).mono ?_;rintro r u ⟨rfl,hu⟩;subst hu
 go_wp2_with fail
 refine hK.out _ _ hHeld (fun hHeld=>?_);clear hK K
 try simp only[Act.put,List.setIfInBounds_toArray,List.set_cons_zero,List.set_cons_succ]
 refine wpAnyH_ready (rs:=[21]) (by kernel_rfl) (by simp) ?_;refine AllReadyH.cons (o:=_) rfl (fun K hK=>?_) AllReadyH.nil;go_simp;refine(HP.out.2.2.2.2.2.1 _).mono ?_;rintro r u ⟨rfl,hu⟩;subst hu
 go_wp2_with fail
 refine hK.out _ _ hHeld (fun hHeld=>?_);clear hK K
 try simp only[Act.put,List.setIfInBounds_toArray,List.set_cons_zero,List.set_cons_succ]
 refine wpAnyH_take (i:=22) (oi:=_) (v:=.int .i64 (1+(k5:Int))) rfl (by kernel_rfl) (by kernel_rfl) (by kernel_rfl) (fun _ _ _ h=>h) (Or.inl ⟨by rfl,fun X hSw=>by obtain⟨s0,s1,s2,s3,s4,s5,s6,s7,s8,s9,s10,s11,s12,s13,s14,s15⟩:=hSw;go_simp⟩) hHeld ?_;simp only[Act.put,List.setIfInBounds_toArray,List.set_cons_zero,List.set_cons_succ];refine wpAnyH_ready (rs:=[25]) (by kernel_rfl) (by simp) ?_;refine AllReadyH.cons (o:=_) rfl (fun K hK=>?_) AllReadyH.nil;go_simp;refine(HP.out.2.2.2.2.2.2.1 _).mono ?_;rintro r u ⟨rfl,hu⟩;subst hu
 go_wp2_with fail
 refine hK.out _ _ hHeld (fun hHeld=>?_);clear hK K
 try simp only[Act.put,List.setIfInBounds_toArray,List.set_cons_zero,List.set_cons_succ]
 refine wpAnyH_take (i:=26) (oi:=_) (v:=.int .i64 (1+(k6:Int))) rfl (by kernel_rfl) (by kernel_rfl) (by kernel_rfl) (fun _ _ _ h=>h) (Or.inl ⟨by rfl,fun X hSw=>by obtain⟨s0,s1,s2,s3,s4,s5,s6,s7,s8,s9,s10,s11,s12,s13,s14,s15⟩:=hSw;go_simp⟩) hHeld ?_;simp only[Act.put,List.setIfInBounds_toArray,List.set_cons_zero,List.set_cons_succ];refine wpAnyH_ready (rs:=[29]) (by kernel_rfl) (by simp) ?_;refine AllReadyH.cons (o:=_) rfl (fun K hK=>?_) AllReadyH.nil;go_simp;refine(HP.out.2.2.2.2.2.2.2.1 _).mono ?_;rintro r u ⟨rfl,hu⟩;subst hu
 go_wp2_with fail
 refine hK.out _ _ hHeld (fun hHeld=>?_);clear hK K
 try simp only[Act.put,List.setIfInBounds_toArray,List.set_cons_zero,List.set_cons_succ]
 refine wpAnyH_take (i:=30) (oi:=_) (v:=.int .i64 (1+(k7:Int))) rfl (by kernel_rfl) (by kernel_rfl) (by kernel_rfl) (fun _ _ _ h=>h) (Or.inl ⟨by rfl,fun X hSw=>by obtain⟨s0,s1,s2,s3,s4,s5,s6,s7,s8,s9,s10,s11,s12,s13,s14,s15⟩:=hSw;go_simp⟩) hHeld ?_;simp only[Act.put,List.setIfInBounds_toArray,List.set_cons_zero,List.set_cons_succ];refine wpAnyH_ready (rs:=[33]) (by kernel_rfl) (by simp) ?_;refine AllReadyH.cons (o:=_) rfl (fun K hK=>?_) AllReadyH.nil;go_simp;refine(HP.out.2.2.2.2.2.2.2.2.1 _).mono ?_;rintro r u ⟨rfl,hu⟩;subst hu
 go_wp2_with fail
 refine hK.out _ _ hHeld (fun hHeld=>?_);clear hK K
 try simp only[Act.put,List.setIfInBounds_toArray,List.set_cons_zero,List.set_cons_succ]
 refine wpAnyH_ready (rs:=[36]) (by kernel_rfl) (by simp) ?_;refine AllReadyH.cons (o:=_) rfl (fun K hK=>?_) AllReadyH.nil;go_simp;refine(HP.out.2.2.2.2.2.2.2.2.2 _).mono ?_;rintro r u ⟨rfl,hu⟩;subst hu
 go_wp2_with fail
 refine hK.out _ _ hHeld (fun hHeld=>?_);clear hK K
 try simp only[Act.put,List.setIfInBounds_toArray,List.set_cons_zero,List.set_cons_succ]
 refine wpAnyH_ready (rs:=[46]) (by kernel_rfl) (by simp) ?_;refine AllReadyH.cons (o:=_) rfl (fun K hK=>?_) AllReadyH.nil;go_simp;refine(HB.out _).mono ?_;rintro r u2 ⟨rfl,hu2⟩;have hb2:=hb1.trans (hu2.mono hb1.size);clear hu2
 go_wp2_with fail
 refine hK.out _ _ (HS.out _ hb2) (fun hHeld=>?_);clear hK K
 try simp only[Act.put,List.setIfInBounds_toArray,List.set_cons_zero,List.set_cons_succ]
 refine wpAnyH_ready (rs:=[57]) (by kernel_rfl) (by simp) ?_;refine AllReadyH.cons (o:=_) rfl (fun K hK=>?_) AllReadyH.nil;go_simp;refine(HW.out _).mono ?_;rintro r u3 ⟨rfl,hu3⟩;have hb3:=hb2.trans (hu3.mono hb2.size);clear hu3
 go_wp2_with fail
 refine hK.out _ _ (HS.out _ hb3) (fun hHeld=>?_);clear hK K
 try simp only[Act.put,List.setIfInBounds_toArray,List.set_cons_zero,List.set_cons_succ]
 refine wpAnyH_take (i:=58) (oi:=_) (v:=.agg #[.int .i64 (1+(k0:Int)),.int .i64 (1+(k2:Int)+(k1:Int)),.int .i64 (1+(k2:Int)),.int .i64 ((k3:Int)),.int .i64 ((k4:Int)),.int .i64 (1+(k5:Int)),.int .i64 (1+(k6:Int)),.int .i64 (1+(k7:Int)),.int .i64 ((k8:Int)),.int .i64 ((m9:Int)),.int .i64 ((bn:Int)),.int .i64 ((bd:Int)),.int .i64 ((bb:Int)),.int .i64 ((wn:Int)),.int .i64 ((wf:Int)),.int .i64 ((wh:Int))]) rfl (by kernel_rfl) (by kernel_rfl) (by kernel_rfl) (fun _ _ _ h=>h) (Or.inl ⟨by rfl,fun X hSw=>by obtain⟨s0,s1,s2,s3,s4,s5,s6,s7,s8,s9,s10,s11,s12,s13,s14,s15⟩:=hSw;go_simp⟩) hHeld ?_;simp only[Act.put,List.setIfInBounds_toArray,List.set_cons_zero,List.set_cons_succ];simp only[List.getElem_toArray,List.getElem_cons_succ,List.getElem_cons_zero,List.set_cons_zero,List.set_cons_succ];have hR1:=af HV.out.2.2.1 hb3;have hB7:=HV.out.1.trans (hb3.mono HV.out.1.size);have hth:=vR (cs:=[.int .i64 aL.flows,.int .i64 aL.num,.int .i64 aL.den,.int .i64 aL.tries,.int .i64 aL.warm,.int .i64 aL.drain,.int .i64 aL.idle,.int .i64 aL.conn,.int .i64 aL.ret,.int .i64 aL.most,.int .i64 aL.bn,.int .i64 aL.bd,.int .i64 aL.bb,.int .i64 aL.wn,.int .i64 aL.wf,.int .i64 aL.wh]) hR1;have hst:=vd (cs:=[.int .i64 aL.flows,.int .i64 aL.num,.int .i64 aL.den,.int .i64 aL.tries,.int .i64 aL.warm,.int .i64 aL.drain,.int .i64 aL.idle,.int .i64 aL.conn,.int .i64 aL.ret,.int .i64 aL.most,.int .i64 aL.bn,.int .i64 aL.bd,.int .i64 aL.bb,.int .i64 aL.wn,.int .i64 aL.wf,.int .i64 aL.wh]) (vs:=[.int .i64 (1+(k0:Int)),.int .i64 (1+(k2:Int)+(k1:Int)),.int .i64 (1+(k2:Int)),.int .i64 ((k3:Int)),.int .i64 ((k4:Int)),.int .i64 (1+(k5:Int)),.int .i64 (1+(k6:Int)),.int .i64 (1+(k7:Int)),.int .i64 ((k8:Int)),.int .i64 ((m9:Int)),.int .i64 ((bn:Int)),.int .i64 ((bd:Int)),.int .i64 ((bb:Int)),.int .i64 ((wn:Int)),.int .i64 ((wf:Int)),.int .i64 ((wh:Int))]) hR1 rfl;have hbl:=tW hB7 HV.out.2.2.2.2.2.2 0 [.int .i64 (1+(k0:Int)),.int .i64 (1+(k2:Int)+(k1:Int)),.int .i64 (1+(k2:Int)),.int .i64 ((k3:Int)),.int .i64 ((k4:Int)),.int .i64 (1+(k5:Int)),.int .i64 (1+(k6:Int)),.int .i64 (1+(k7:Int)),.int .i64 ((k8:Int)),.int .i64 ((m9:Int)),.int .i64 ((bn:Int)),.int .i64 ((bd:Int)),.int .i64 ((bb:Int)),.int .i64 ((wn:Int)),.int .i64 ((wf:Int)),.int .i64 ((wh:Int))] hB7.size;obtain⟨u9,hu9⟩:∃u9,u9=u3.setCells g 0 [.int .i64 (1+(k0:Int)),.int .i64 (1+(k2:Int)+(k1:Int)),.int .i64 (1+(k2:Int)),.int .i64 ((k3:Int)),.int .i64 ((k4:Int)),.int .i64 (1+(k5:Int)),.int .i64 (1+(k6:Int)),.int .i64 (1+(k7:Int)),.int .i64 ((k8:Int)),.int .i64 ((m9:Int)),.int .i64 ((bn:Int)),.int .i64 ((bd:Int)),.int .i64 ((bb:Int)),.int .i64 ((wn:Int)),.int .i64 ((wf:Int)),.int .i64 ((wh:Int))]:=⟨_,rfl⟩;rw[<-hu9]at hst hbl;have HZ:Hid (_/\_):=⟨hst,hbl⟩;clear hst hbl hR1 hB7;have hS9:u9.cell? ⟨b,0,none⟩=some (.int .i64 x0)/\u9.cell? ⟨b,1,none⟩=some (.int .i64 x1)/\u9.cell? ⟨b,2,none⟩=some (.int .i64 x2)/\u9.cell? ⟨b,3,none⟩=some (.int .i64 x3)/\u9.cell? ⟨b,4,none⟩=some (.int .i64 x4)/\u9.cell? ⟨b,5,none⟩=some (.int .i64 x5)/\u9.cell? ⟨b,6,none⟩=some (.int .i64 x6)/\u9.cell? ⟨b,7,none⟩=some (.int .i64 x7)/\u9.cell? ⟨b,8,none⟩=some (.int .i64 x8)/\u9.cell? ⟨b,9,none⟩=some (.int .i64 x9)/\u9.cell? ⟨b,10,none⟩=some (.int .i64 x10)/\u9.cell? ⟨b,11,none⟩=some (.int .i64 x11)/\u9.cell? ⟨b,12,none⟩=some (.int .i64 x12)/\u9.cell? ⟨b,13,none⟩=some (.int .i64 x13)/\u9.cell? ⟨b,14,none⟩=some (.int .i64 x14)/\u9.cell? ⟨b,15,none⟩=some (.int .i64 x15):=by
  rw[hu9];have hne:b≠g:=by rw[HV.out.2.2.2.2.1,HV.out.2.2.2.2.2.1];omega
  have hlt:b<u3.heap.size:=(nX (af HV.out.2.1 hb3)).2.2.2.2.2.2.2.2.2.2.2.2.2.2.2.2;have hk:∀k v,u3.cell? ⟨b,k,none⟩=some v->(u3.setCells g 0 [.int .i64 (1+(k0:Int)),.int .i64 (1+(k2:Int)+(k1:Int)),.int .i64 (1+(k2:Int)),.int .i64 ((k3:Int)),.int .i64 ((k4:Int)),.int .i64 (1+(k5:Int)),.int .i64 (1+(k6:Int)),.int .i64 (1+(k7:Int)),.int .i64 ((k8:Int)),.int .i64 ((m9:Int)),.int .i64 ((bn:Int)),.int .i64 ((bd:Int)),.int .i64 ((bb:Int)),.int .i64 ((wn:Int)),.int .i64 ((wf:Int)),.int .i64 ((wh:Int))]).cell? ⟨b,k,none⟩=some v:=fun k v h=>(World.cell?_of_block (World.heap_setCells_other _ _ _ _ hlt hne)).trans h
  obtain⟨s0,s1,s2,s3,s4,s5,s6,s7,s8,s9,s10,s11,s12,s13,s14,s15⟩:=hHeld;exact⟨hk _ _ s0,hk _ _ s1,hk _ _ s2,hk _ _ s3,hk _ _ s4,hk _ _ s5,hk _ _ s6,hk _ _ s7,hk _ _ s8,hk _ _ s9,hk _ _ s10,hk _ _ s11,hk _ _ s12,hk _ _ s13,hk _ _ s14,hk _ _ s15⟩
 refine wpAnyH_ready (rs:=[59]) (by kernel_rfl) (by simp) ?_;refine AllReadyH.cons (o:=_) rfl (fun K hK=>?_) AllReadyH.nil;rw[if_pos (by rfl)];refine wp_store_mid _ _ _ rfl _ _ #[.int .i64 (1+(k0:Int)),.int .i64 (1+(k2:Int)+(k1:Int)),.int .i64 (1+(k2:Int)),.int .i64 ((k3:Int)),.int .i64 ((k4:Int)),.int .i64 (1+(k5:Int)),.int .i64 (1+(k6:Int)),.int .i64 (1+(k7:Int)),.int .i64 ((k8:Int)),.int .i64 ((m9:Int)),.int .i64 ((bn:Int)),.int .i64 ((bd:Int)),.int .i64 ((bb:Int)),.int .i64 ((wn:Int)),.int .i64 ((wf:Int)),.int .i64 ((wh:Int))] rfl rfl hth (by kernel_rfl) (BG [1+(k0:Int),1+(k2:Int)+(k1:Int),1+(k2:Int),(k3:Int),(k4:Int),1+(k5:Int),1+(k6:Int),1+(k7:Int),(k8:Int),(m9:Int),(bn:Int),(bd:Int),(bb:Int),(wn:Int),(wf:Int),(wh:Int)]) ?_;rw[show Array.toList (#[.int .i64 (1+(k0:Int)),.int .i64 (1+(k2:Int)+(k1:Int)),.int .i64 (1+(k2:Int)),.int .i64 ((k3:Int)),.int .i64 ((k4:Int)),.int .i64 (1+(k5:Int)),.int .i64 (1+(k6:Int)),.int .i64 (1+(k7:Int)),.int .i64 ((k8:Int)),.int .i64 ((m9:Int)),.int .i64 ((bn:Int)),.int .i64 ((bd:Int)),.int .i64 ((bb:Int)),.int .i64 ((wn:Int)),.int .i64 ((wf:Int)),.int .i64 ((wh:Int))]:Array Value)=[.int .i64 (1+(k0:Int)),.int .i64 (1+(k2:Int)+(k1:Int)),.int .i64 (1+(k2:Int)),.int .i64 ((k3:Int)),.int .i64 ((k4:Int)),.int .i64 (1+(k5:Int)),.int .i64 (1+(k6:Int)),.int .i64 (1+(k7:Int)),.int .i64 ((k8:Int)),.int .i64 ((m9:Int)),.int .i64 ((bn:Int)),.int .i64 ((bd:Int)),.int .i64 ((bb:Int)),.int .i64 ((wn:Int)),.int .i64 ((wf:Int)),.int .i64 ((wh:Int))]from rfl,<-hu9];refine hK.out _ _ hS9 (fun hHeld=>?_);clear hK K hu9 hS9 hth
 try simp only[Act.put,List.setIfInBounds_toArray,List.set_cons_zero,List.set_cons_succ]
 refine wpAnyH_done (by kernel_rfl) ?_ _;go_wp2
 try simp only[Act.put,List.setIfInBounds_toArray,List.set_cons_zero,List.set_cons_succ]
 exact bodyPost_ret (v:=.agg #[.int .i64 (1+(k0:Int)),.int .i64 (1+(k2:Int)+(k1:Int)),.int .i64 (1+(k2:Int)),.int .i64 ((k3:Int)),.int .i64 ((k4:Int)),.int .i64 (1+(k5:Int)),.int .i64 (1+(k6:Int)),.int .i64 (1+(k7:Int)),.int .i64 ((k8:Int)),.int .i64 ((m9:Int)),.int .i64 ((bn:Int)),.int .i64 ((bd:Int)),.int .i64 ((bb:Int)),.int .i64 ((wn:Int)),.int .i64 ((wf:Int)),.int .i64 ((wh:Int))]) (ey Tryz.results22 rfl (aI (P:=Tryz.prog) (cs:=[.int .i64 (1+(k0:Int)),.int .i64 (1+(k2:Int)+(k1:Int)),.int .i64 (1+(k2:Int)),.int .i64 ((k3:Int)),.int .i64 ((k4:Int)),.int .i64 (1+(k5:Int)),.int .i64 (1+(k6:Int)),.int .i64 (1+(k7:Int)),.int .i64 ((k8:Int)),.int .i64 ((m9:Int)),.int .i64 ((bn:Int)),.int .i64 ((bd:Int)),.int .i64 ((bb:Int)),.int .i64 ((wn:Int)),.int .i64 ((wf:Int)),.int .i64 ((wh:Int))]) HZ.out.1 Tryz.underlying30 rfl (by kernel_rfl))) rfl ⟨rfl,HZ.out.2⟩
end Go.Proofs.YtalhkllgnlejbaaGreatDoor.Q
