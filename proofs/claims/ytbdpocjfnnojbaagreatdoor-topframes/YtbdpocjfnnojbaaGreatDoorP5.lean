/-
  Contracts of the layers and of core, part 5. Conditions: as each theorem says.
-/
import Derived.Test.YtbdpocjfnnojbaaGreatDoorP9
import Derived.Test.YtbdpocjfnnojbaaGreatDoorP3
import Derived.Test.YtbdpocjfnnojbaaGreatDoorP1
open Array renaming getElem?_eq_some_iff->ZAa,toList->RW
open Bool renaming false->Nb,true->Nw
open Decidable renaming decide->Nn
open Go renaming Addr->Oc,Calls->Ni,Program->O8,TypeId->NU,Value->M7,World->MO,maxLen->NE,undef->PL
open Go.Act renaming put->Nr
open Go.AllReadyH renaming cons->NP,nil->NX
open Go.Ending renaming returned->MN
open Go.IntKind renaming i64->ME
open Go.Lit renaming int->N6
open Go.Obj renaming cells->MP
open Go.Operand renaming tmp->O6
open Go.Proofs.Tryz renaming func28->WF,func50->Tl,func68->ayE,func69->Si,ntmps28->Ww,ntmps50->S1,ntmps68->ayx,ntmps69->R0,prog->MK,results27->Wb,underlying32->ayp,underlying34->O5,underlying36->RC,underlying56->azZ,underlying61->aAq
open Go.Region renaming wanted->Pz
open Go.RowKit renaming Below->MQ,Hid->M6
open Go.Value renaming agg->Ny,bool->M3,int->MF,pointer->Na,slice->MG,tuple->Nv
open Go.World renaming cell?->Nl,frozen?->Ng,heap_setCells_other->N8,setCell->Q4,setCells->Qd
open List renaming mem_map->ZAd,replicate->Nj
open Option renaming none->MH,some->MI
open Or renaming inl->Nt,inr->NF
namespace Go.Proofs.YtbdpocjfnnojbaaGreatDoor.Q
set_option linter.unusedVariables false
set_option linter.unusedSimpArgs false
set_option maxHeartbeats 16000000
set_option maxRecDepth 100000
open Go.RowKit
attribute [local go_sem ↓] Go.wp_at_zero Go.wp_at_succ
section
variable {cs:List M7}{w:MO}{T:NU}{g:Nat}
def ZN(n:Int)(many:Nat):Nat:=(if n<0 then(-(n+1)).toNat else n.toNat) % many
theorem af9(n:Int)(many:Nat)(h:0<many):ZN n many<many:=Nat.mod_lt _ h
theorem aro(n many:Int)(h:n<0)(h2:0<many):-(n+1).tmod many=((ZN n many.toNat:Nat):Int):=by
 obtain⟨m,rfl⟩:=NL (Int.le_of_lt h2);obtain⟨k,d⟩:=NL (a:=-(n+1)) (by omega);unfold ZN;rw[Nh h,<-Int.neg_tmod,d,NR,NR,QY];rfl
theorem arp(n many:Int)(h:0<=n)(h2:0<many):n % many=((ZN n many.toNat:Nat):Int):=by
 obtain⟨m,rfl⟩:=NL (Int.le_of_lt h2);obtain⟨k,rfl⟩:=NL h;unfold ZN;rw[Nf (by omega),NR,NR,QY]
theorem aly{k:IntKind}{a b:Int}(h:a=b):MN (MF k a)=MN (MF k b):=by rw[h]
theorem aga(n many:Int)(w:MO)(h0:-9223372036854775808<=n)(h1:n<=9223372036854775807)(h2:0<many)(h3:many<=9223372036854775807):Ni MK 26 #[yB n,yB many] w fun e w'=>e=MN (yB ((ZN n many.toNat:Nat):Int))/\w'=w:=by
 by_cases h:n<0
 ·go_enter Tryz.func26,Tryz.ntmps26
  go_wp2;go_ret;exact⟨aly (aro n many h h2),rfl⟩
 ·have a:0<=n:=by omega
  clear h;go_enter Tryz.func26,Tryz.ntmps26;go_wp2;go_ret;exact⟨aly (arp n many a h2),rfl⟩
theorem adr{x:Int}(h:(N6 ME x).wf=Nw):-9223372036854775808<=x/\x<=9223372036854775807:=by
 have d:IntKind.i64.min = -9223372036854775808:=by decide
 have a:IntKind.i64.max=9223372036854775807:=by decide
 simp only[Lit.wf,d,a,Po,decide_eq_true_eq]at h;exact h
theorem aaK(n:Int)(many:Nat)(hw:(N6 ME n).wf=Nw)(h:0<many)(h2:many<=9000000000000):∃k:Nat,k<many/\∀W,Ni MK 26 #[yB n,yB (many:Int)] W fun r w'=>r=MN (yB (k:Int))/\w'=W:=by
 refine⟨ZN n many,af9 _ _ h,fun W=>?_⟩;have a:=adr hw;have:=aga n many W a.1 a.2 (by omega) (by omega);rwa[NR]at this
abbrev acO(c:Cf):Prop :=
 (1<=c.flows/\c.flows<=40)/\(1<=c.den/\c.den<=c.num)/\c.num<=20/\(0<=c.tries/\c.tries<=12)/\(0<=c.warm/\c.warm<=500) /\
 (1<=c.drain/\c.drain<=500)/\(1<=c.idle/\c.idle<=500)/\(1<=c.conn/\c.conn<=500)/\(0<=c.ret/\c.ret<=20)/\(0<=c.most/\c.most<=100) /\
 Zp c.bn c.bd c.bb/\ZT c.wn c.wf c.wh
abbrev aeV(c:Cf):Value:=Ny #[yB c.flows,yB c.num,yB c.den,yB c.tries,yB c.warm,yB c.drain,yB c.idle,yB c.conn,yB c.ret,yB c.most,yB c.bn,yB c.bd,yB c.bb,yB c.wn,yB c.wf,yB c.wh]
abbrev abX(c:Cf):Obj:=MP #[yB c.flows,yB c.num,yB c.den,yB c.tries,yB c.warm,yB c.drain,yB c.idle,yB c.conn,yB c.ret,yB c.most,yB c.bn,yB c.bd,yB c.bb,yB c.wn,yB c.wf,yB c.wh] 36
theorem adq{c:Cf}(h:w.heap[g]?=MI (abX c)):w.cell? ⟨g,0,MH⟩=MI (yB c.flows)/\w.cell? ⟨g,1,MH⟩=MI (yB c.num)/\w.cell? ⟨g,2,MH⟩=MI (yB c.den)/\w.cell? ⟨g,3,MH⟩=MI (yB c.tries)/\w.cell? ⟨g,4,MH⟩=MI (yB c.warm)/\w.cell? ⟨g,5,MH⟩=MI (yB c.drain)/\w.cell? ⟨g,6,MH⟩=MI (yB c.idle)/\w.cell? ⟨g,7,MH⟩=MI (yB c.conn)/\w.cell? ⟨g,8,MH⟩=MI (yB c.ret)/\w.cell? ⟨g,9,MH⟩=MI (yB c.most)/\w.cell? ⟨g,10,MH⟩=MI (yB c.bn)/\w.cell? ⟨g,11,MH⟩=MI (yB c.bd)/\w.cell? ⟨g,12,MH⟩=MI (yB c.bb)/\w.cell? ⟨g,13,MH⟩=MI (yB c.wn)/\w.cell? ⟨g,14,MH⟩=MI (yB c.wf)/\w.cell? ⟨g,15,MH⟩=MI (yB c.wh)/\g<w.heap.size :=
 ⟨by simp[Nl,h],by simp[Nl,h],by simp[Nl,h],by simp[Nl,h],by simp[Nl,h],by simp[Nl,h],by simp[Nl,h],by simp[Nl,h],by simp[Nl,h],by simp[Nl,h],by simp[Nl,h],by simp[Nl,h],by simp[Nl,h],by simp[Nl,h],by simp[Nl,h],by simp[Nl,h],(ZAa.1 h).1⟩
theorem ads(n lo hi:Int)(w:MO):Ni MK 68 #[yB n,yB lo,yB hi] w fun r w'=>r=MN (M3 (Nn (lo<=n/\n<=hi)))/\w'=w:=by
 obtain⟨d,a⟩:=yE (Nn (lo<=n/\n<=hi));rw[<-a];have H:M6 _:=a;clear a;cases h1:Nn (lo<=n)
 ·go_enter ayE,ayx
  go_wp2;go_ret;exact⟨by rw[H.out,M0 (fun h=>Nc h1 h.1)];rfl,rfl⟩
 ·cases h2:Nn (n<=hi)
  ·go_enter ayE,ayx
   go_wp2;go_ret;exact⟨by rw[H.out,M0 (fun h=>Nc h2 h.2)];rfl,rfl⟩
  ·go_enter ayE,ayx
   go_wp2;go_ret;exact⟨by rw[H.out,Nq ⟨M2 h1,M2 h2⟩];rfl,rfl⟩
theorem ahV(n:Int)(w:MO):Ni MK 69 #[yB n] w fun r w'=>r=MN (M3 (Nn (1<=n/\n<=500)))/\w'=w:=by
 have H:M6 _:=ads n 1 500 w;go_enter Si,R0
 go_wp2_with fail
 refine Nd H.out ?_;rintro r a ⟨rfl,rfl⟩;go_wp2;go_ret;exact⟨by show MN (M3 (Nn (1<=n) && Nn (n<=500)))=_;rw[Bool.decide_and],rfl⟩
theorem arm(c:Cf)(w:MO):Ni MK 50 #[aeV c] w fun r w'=>r=MN (M3 (Nn (acO c)))/\yA w w':=by
 obtain⟨s,j⟩:=yE (Nn (acO c));rw[<-j];have H:M6 _:=j;clear j;obtain⟨i,f⟩:=yE (w.alloc (abX c));have q:yA w i:=by rw[f];exact WQ w
 have n:i.heap[w.heap.size]?=MI (abX c):=by rw[f];exact M1 _ _
 obtain⟨V,R,k2,k3,k4,k5,U,k7,k8,k9,L,E,C,F,D,B,A⟩:=adq n;have a:M6 (_/\_/\_):=⟨q,n,f⟩;clear q n f;go_enter Tl,S1
 go_wp2_with fail
 rw[<-a.out.2.2];refine(ads c.flows 1 40 _).mono ?_;rintro r d ⟨rfl,rfl⟩
 by_cases t0:1<=c.flows/\c.flows<=40
 rotate_left
 ·rw[M0 t0]
  go_wp2;go_ret;exact⟨by rw[H.out,M0 (fun h=>t0 h.1)];rfl,a.out.1⟩
 rw[Nq t0]
 go_wp2_with fail
 refine(ads c.den 1 c.num _).mono ?_;rintro r d ⟨rfl,rfl⟩
 by_cases t1:1<=c.den/\c.den<=c.num
 rotate_left
 ·rw[M0 t1]
  go_wp2;go_ret;exact⟨by rw[H.out,M0 (fun h=>t1 h.2.1)];rfl,a.out.1⟩
 rw[Nq t1]
 by_cases t2:c.num<=20
 rotate_left
 ·have M:Nn (c.num<=20)=false:=M0 t2
  have HT:M6 (¬(c.num<=20)):=t2;go_wp2;go_ret;exact⟨by rw[H.out,M0 (fun h=>by have:=h.2.2.1;omega)];rfl,a.out.1⟩
 have M:Nn (c.num<=20)=true:=Nq t2
 go_wp2_with fail
 refine(ads c.tries 0 12 _).mono ?_;rintro r d ⟨rfl,rfl⟩
 by_cases t3:0<=c.tries/\c.tries<=12
 rotate_left
 ·rw[M0 t3]
  go_wp2;go_ret;exact⟨by rw[H.out,M0 (fun h=>t3 h.2.2.2.1)];rfl,a.out.1⟩
 rw[Nq t3]
 go_wp2_with fail
 refine(ads c.warm 0 500 _).mono ?_;rintro r d ⟨rfl,rfl⟩
 by_cases t4:0<=c.warm/\c.warm<=500
 rotate_left
 ·rw[M0 t4]
  go_wp2;go_ret;exact⟨by rw[H.out,M0 (fun h=>t4 h.2.2.2.2.1)];rfl,a.out.1⟩
 rw[Nq t4]
 go_wp2_with fail
 refine(ahV c.drain _).mono ?_;rintro r d ⟨rfl,rfl⟩
 by_cases t5:1<=c.drain/\c.drain<=500
 rotate_left
 ·rw[M0 t5]
  go_wp2;go_ret;exact⟨by rw[H.out,M0 (fun h=>t5 h.2.2.2.2.2.1)];rfl,a.out.1⟩
 rw[Nq t5]
 go_wp2_with fail
 refine(ahV c.idle _).mono ?_;rintro r d ⟨rfl,rfl⟩
 by_cases t6:1<=c.idle/\c.idle<=500
 rotate_left
 ·rw[M0 t6]
  go_wp2;go_ret;exact⟨by rw[H.out,M0 (fun h=>t6 h.2.2.2.2.2.2.1)];rfl,a.out.1⟩
 rw[Nq t6]
 go_wp2_with fail
 refine(ahV c.conn _).mono ?_;rintro r d ⟨rfl,rfl⟩
 by_cases t7:1<=c.conn/\c.conn<=500
 rotate_left
 ·rw[M0 t7]
  go_wp2;go_ret;exact⟨by rw[H.out,M0 (fun h=>t7 h.2.2.2.2.2.2.2.1)];rfl,a.out.1⟩
 rw[Nq t7]
 go_wp2_with fail
 refine(ads c.ret 0 20 _).mono ?_;rintro r d ⟨rfl,rfl⟩
 by_cases t8:0<=c.ret/\c.ret<=20
 rotate_left
 ·rw[M0 t8]
  go_wp2;go_ret;exact⟨by rw[H.out,M0 (fun h=>t8 h.2.2.2.2.2.2.2.2.1)];rfl,a.out.1⟩
 rw[Nq t8]
 go_wp2_with fail
 refine(ads c.most 0 100 _).mono ?_;rintro r d ⟨rfl,rfl⟩
 by_cases t9:0<=c.most/\c.most<=100
 rotate_left
 ·rw[M0 t9]
  go_wp2;go_ret;exact⟨by rw[H.out,M0 (fun h=>t9 h.2.2.2.2.2.2.2.2.2.1)];rfl,a.out.1⟩
 rw[Nq t9]
 go_wp2_with fail
 refine(afz c.bn c.bd c.bb _).mono ?_;rintro r w2 ⟨rfl,m⟩;have p:=WO a.out.2.1 m;have o:M6 _:=a.out.1.trans (m.mono a.out.1.size);obtain⟨j0,Z,j2,Y,j4,P,j6,j7,j8,S,G,I,J,K,y,N,O⟩:=adq p;clear m V R k2 k3 k4 k5 U k7 k8 k9 L E C F D B A
 by_cases tb:Zp c.bn c.bd c.bb
 rotate_left
 ·rw[show aaY c.bn c.bd c.bb=2 from Nf tb]
  clear p;go_wp2;go_ret;exact⟨by rw[H.out,M0 (fun h=>tb h.2.2.2.2.2.2.2.2.2.2.1)];rfl,o.out⟩
 rw[show aaY c.bn c.bd c.bb=0 from Nh tb];clear p
 go_wp2_with fail
 refine(ah3 c.wn c.wf c.wh _).mono ?_;rintro r w3 ⟨rfl,x⟩;have u:M6 _:=o.out.trans (x.mono o.out.size);clear x j0 Z j2 Y j4 P j6 j7 j8 S G I J K y N O
 by_cases tw:ZT c.wn c.wf c.wh
 rotate_left
 ·rw[show abz c.wn c.wf c.wh=2 from Nf tw]
  go_wp2;go_ret;exact⟨by rw[H.out,M0 (fun h=>tw h.2.2.2.2.2.2.2.2.2.2.2)];rfl,u.out⟩
 rw[show abz c.wn c.wf c.wh=0 from Nh tw];go_wp2;go_ret;exact⟨by rw[H.out,Nq ⟨t0,t1,t2,t3,t4,t5,t6,t7,t8,t9,tb,tw⟩];rfl,u.out⟩
def af7(c:Cf):Int:=if acO c then 0 else 2
theorem arj(c:Cf)(w:MO):Ni MK 29 #[aeV c] w fun r w'=>r=MN (yB (af7 c))/\yA w w':=by
 obtain⟨f,i⟩:=yE (w.alloc (abX c));have o:yA w f:=by rw[i];exact WQ w
 have m:f.heap[w.heap.size]?=MI (abX c):=by rw[i];exact M1 _ _
 obtain⟨E,C,H,I,K,G,D,J,F,L,u,A,x,B,y,s,q⟩:=adq m;have a:M6 (_/\_/\_):=⟨o,m,i⟩;clear o m i;have j:M6 _:=arm c f
 by_cases hok:acO c
 ·rw[show af7 c=0 from Nh hok]
  rw[Nq hok]at j;clear hok;go_enter Tryz.func29,Tryz.ntmps29
  go_wp2_with fail
  rw[<-a.out.2.2];refine Nd j.out ?_;rintro r p ⟨rfl,d⟩;have n:M6 _:=a.out.1.trans (d.mono a.out.1.size);clear d;go_wp2;go_ret;exact⟨rfl,n.out⟩
 ·rw[show af7 c=2 from Nf hok]
  rw[M0 hok]at j;clear hok;go_enter Tryz.func29,Tryz.ntmps29
  go_wp2_with fail
  rw[<-a.out.2.2];refine Nd j.out ?_;rintro r p ⟨rfl,d⟩;have n:M6 _:=a.out.1.trans (d.mono a.out.1.size);clear d;go_wp2;go_ret;exact⟨rfl,n.out⟩
section
variable {α:Type}{c:α->List M7}{k:Nat}{w w':MO}{v:M7}{l:List α}
theorem Xw.Gf(h:Xw c w v l)(hs:w.heap.size<=w'.heap.size)(hb:∀b,v.ownBlock=MI b->w'.heap[b]?=w.heap[b]?):Xw c w' v l:=by
 obtain⟨a,d,rfl,j,f,n|⟨b,off,rfl,o,m⟩⟩:=h
 ·exact⟨a,d,rfl,j,f,Nt n⟩
 ·refine⟨_,d,rfl,j,f,NF ⟨b,off,rfl,M8 o hs,fun i hi=>?_⟩⟩
  rw[<-m i hi];have:=hb b rfl;simp only[Nl,this]
variable {t e:NU}{z:M7}{bytes:Nat}
end
abbrev ad6(c:Cf)(vt vh:M7)(tok:Int)(vw:M7):List Value:=[yB c.flows,yB c.num,yB c.den,yB c.tries,yB c.warm,yB c.drain,yB c.idle,yB c.conn,yB c.ret,yB c.most,yB c.bn,yB c.bd,yB c.bb,yB c.wn,yB c.wf,yB c.wh,yB 0,vt,MG MH 0 0,MG MH 0 0,MG MH 0 0,MG MH 0 0,vh,yB tok,yB 0,vw]
abbrev ahZ(c:Cf)(vt vh:M7)(tok:Int)(vw:M7):Value:=Ny #[yB c.flows,yB c.num,yB c.den,yB c.tries,yB c.warm,yB c.drain,yB c.idle,yB c.conn,yB c.ret,yB c.most,yB c.bn,yB c.bd,yB c.bb,yB c.wn,yB c.wf,yB c.wh,yB 0,vt,MG MH 0 0,MG MH 0 0,MG MH 0 0,MG MH 0 0,vh,yB tok,yB 0,vw]
abbrev Xv:Cf:=⟨0,0,0,0,0,0,0,0,0,0,0,0,0,0,0,0⟩
abbrev aeW(_:Unit):List Value:=[MG MH 0 0,M3 Nb,yB 0,yB 0]
abbrev aeT(w:MO)(v:M7)(k:Nat):Prop:=Xw aeW w v (Nj k ())
theorem af8:(MK.info? 56).map (·.size)=MI 26:=by kernel_rfl
theorem arq{base:Nat}{v:M7}{l:List Sl}(h:w.ownsRow base 208 4 v l.length (XF l)):Yy w v l :=
 show XB w v l.length (XF l)from Yr h
theorem arv{base:Nat}{v:M7}{vs:List M7}{ls:List (List Tm)}(h:WZ w base v vs ls):Zo w v ls :=
 ⟨vs,(show XB w v ls.length vs from Yr h.row),h.each.GV fun u l hu=>(show XB w u l.length (WP l)from Yr hu)⟩
def ard(w:MO)(vt vh vw:M7)(l:List Sl)(k:Nat)(ls:List (List Tm)):Prop:=Yy w vt l/\aeT w vh k/\Zo w vw ls
def af6(B:Nat)(w W:MO):Prop:=w.heap.size<=W.heap.size/\∀b,B<=b->b<w.heap.size->W.heap[b]?=w.heap[b]?
def af5(c:Cf)(w:MO)(r:Ending)(w':MO):Prop :=
 if acO c then ∃vt vh vw,r=MN (Nv #[ahZ c vt vh (c.bb*c.bd) vw,yB 0])/\(∀W,af6 w.heap.size w' W->ard W vt vh vw (Nj c.flows.toNat (0,Nb,0,0)) 12 aaW)/\yA w w'
 else r=MN (Nv #[ahZ Xv (MG MH 0 0) (MG MH 0 0) 0 (MG MH 0 0),yB 2])/\yA w w'
theorem alz(g:Nat):∀(vs:List M7) (o:Nat) (w:MO),(w.setCells g o vs).tape=w.tape
 | [],_,_=>rfl
 |v::vs,o,w=>by rw[Qd,alz g vs];simp[Q4]
theorem ahW(g:Nat):∀(vs:List M7) (o:Nat) (w:MO),(w.setCells g o vs).heap.size=w.heap.size
 | [],_,_=>rfl
 |v::vs,o,w=>by rw[Qd,ahW g vs];simp
theorem adp{B:Nat}{w0:MO}(h:MQ B w0 w)(hg:B<=g)(o:Nat)(vs:List M7)(hB:B<=w.heap.size):MQ B w0 (w.setCells g o vs):=by
 refine h.trans ⟨World.os_setCells _ _ _ _,alz _ _ _ _,World.output_setCells _ _ _ _,by rw[ahW];exact MV _,fun i hi=>N8 w g o vs (by omega) (by omega)⟩
theorem aeU(h:w.heap[g]?=MI (MP cs.toArray T (0,0))):w.there g 0 cs.length:=fun j hj=>by
 rw[Oa,MW w g j _ T (0,0) h];exact⟨by simp[hj],by simp[Ng,h]⟩
theorem alv{vs:List M7}(h:w.heap[g]?=MI (MP cs.toArray T (0,0)))(hl:cs.length=vs.length):(w.setCells g 0 vs).heap[g]?=MI (MP vs.toArray T (0,0)):=by
 have:=ac0 T g vs [] cs w hl (by simpa using h)
 simpa using this
abbrev ah0:List Value:=ad6 Xv (MG MH 0 0) (MG MH 0 0) 0 (MG MH 0 0)
theorem art(c:Cf)(vt vh:M7)(tok:Int)(vw:M7)(h1:vt.oneCell'=Nw)(h2:vh.oneCell'=Nw)(h3:vw.oneCell'=Nw):(ad6 c vt vh tok vw).toArray.all (·.oneCell')=true:=by
 apply OE;intro v a;simp only[ad6,OO,OD,or_false]at a;rcases a with rfl|rfl|rfl|rfl|rfl|rfl|rfl|rfl|rfl|rfl|rfl|rfl|rfl|rfl|rfl|rfl|rfl|rfl|rfl|rfl|rfl|rfl|rfl|rfl|rfl|rfl <;> first|rfl|exact h1|exact h2|exact h3
theorem agb(h:w.heap[g]?=MI (MP cs.toArray T (0,0))):w.rangeAt g 0 cs:=fun j v hv=>by
 rw[Oa,MW w g j _ T (0,0) h]
 simpa using hv
theorem ahU{c:Cf}{gc g2 gt gb gw:Nat}{vt vw:M7}{tok:Int}{ws:List M7}(hc:w.heap[gc]?=MI (abX c))(h2:w.heap[g2]?=MI (MP ws.toArray 56 (0,0)))(hw:ws.length=26)(ht:w.heap[gt]?=MI (MP #[vt] 40 (0,0)))(hb:w.heap[gb]?=MI (MP #[yB tok] 51 (0,0)))(hww:w.heap[gw]?=MI (MP #[yB 0,vw] 54 (0,0))):
  w.cell? ⟨gc,0,MH⟩=MI (yB c.flows)/\w.cell? ⟨gc,1,MH⟩=MI (yB c.num)/\w.cell? ⟨gc,2,MH⟩=MI (yB c.den)/\w.cell? ⟨gc,3,MH⟩=MI (yB c.tries)/\w.cell? ⟨gc,4,MH⟩=MI (yB c.warm)/\w.cell? ⟨gc,5,MH⟩=MI (yB c.drain)/\w.cell? ⟨gc,6,MH⟩=MI (yB c.idle)/\w.cell? ⟨gc,7,MH⟩=MI (yB c.conn)/\w.cell? ⟨gc,8,MH⟩=MI (yB c.ret)/\w.cell? ⟨gc,9,MH⟩=MI (yB c.most)/\w.cell? ⟨gc,10,MH⟩=MI (yB c.bn)/\w.cell? ⟨gc,11,MH⟩=MI (yB c.bd)/\w.cell? ⟨gc,12,MH⟩=MI (yB c.bb)/\w.cell? ⟨gc,13,MH⟩=MI (yB c.wn)/\w.cell? ⟨gc,14,MH⟩=MI (yB c.wf)/\w.cell? ⟨gc,15,MH⟩=MI (yB c.wh)/\w.cell? ⟨gt,0,MH⟩=MI vt/\w.cell? ⟨gb,0,MH⟩=MI (yB tok)/\w.cell? ⟨gw,0,MH⟩=MI (yB 0)/\w.cell? ⟨gw,1,MH⟩=MI vw/\w.there g2 0 26 :=
 have q:=adq hc
 ⟨q.1,q.2.1,q.2.2.1,q.2.2.2.1,q.2.2.2.2.1,q.2.2.2.2.2.1,q.2.2.2.2.2.2.1,q.2.2.2.2.2.2.2.1,q.2.2.2.2.2.2.2.2.1,q.2.2.2.2.2.2.2.2.2.1,q.2.2.2.2.2.2.2.2.2.2.1,q.2.2.2.2.2.2.2.2.2.2.2.1,q.2.2.2.2.2.2.2.2.2.2.2.2.1,q.2.2.2.2.2.2.2.2.2.2.2.2.2.1,q.2.2.2.2.2.2.2.2.2.2.2.2.2.2.1,q.2.2.2.2.2.2.2.2.2.2.2.2.2.2.2.1,Xu ht,Xu hb,(Xa hww).1,(Xa hww).2.1,by have:=aeU h2;rwa[hw]at this⟩
theorem arn:∀W,(Instr.makeSlice 49 (yB 12) (yB 12)).run MK W=.ok (MG (MI ⟨W.heap.size,0,MH⟩) 12 12) (W.alloc (MP (rv aeW (Nj 12 ())).toArray 224)):=fun W=>by kernel_rfl
theorem arl(W:MO):aeT (W.alloc (MP (rv aeW (Nj 12 ())).toArray 224)) (MG (MI ⟨W.heap.size,0,MH⟩) 12 12) 12:=by
 refine⟨_,12,rfl,by simp,by unfold NE;omega,NF ⟨W.heap.size,0,rfl,by simp,fun i hi=>?_⟩⟩;rw[Oa,MW _ W.heap.size i _ _ (0,0) (M1 W _)];simp
theorem arg(c:Cf)(w:MO)(h:acO c):Ni MK 12 #[aeV c] w (af5 c w):=by
 obtain⟨M,U⟩:=yE ((w.alloc (abX c)).alloc (MP ah0.toArray 56));have i7:yA w M:=by rw[U];exact(WQ w).trans ((WQ _).mono (by simp))
 have g3:M.heap[w.heap.size]?=MI (abX c):=by rw[U];exact Xy _ _ (M1 _ _)
 have l2:M.heap[w.heap.size+1]?=MI (MP ah0.toArray 56 (0,0)):=by rw[U];exact Yu _ _ _
 obtain⟨k0,k1,k2,k3,k4,k5,k6,k7,k8,k9,m6,n0,m3,m4,n1,m8,m7⟩:=adq g3;have HC:=arj c M;rw[show af7 c=0 from Nh h]at HC;have N:M6 (_/\_/\_/\_/\_):=⟨i7,g3,l2,U,HC⟩;clear i7 g3 l2 U HC;have HN:M6 _:=h;clear h;obtain⟨V,d8⟩:∃z,z=(rv aeW (Nj 12 ())).toArray:=⟨_,rfl⟩;have e3:∀W,(Instr.makeSlice 49 (yB 12) (yB 12)).run MK W=.ok (MG (MI ⟨W.heap.size,0,MH⟩) 12 12) (W.alloc (MP V 224)):=by rw[d8];exact arn
 have HZ:M6 (_/\_):=⟨d8,e3⟩;clear d8 e3;go_enter Tryz.func12,Tryz.ntmps12
 go_wp2_with fail
 rw[show(#[yB 0,yB 0,yB 0,yB 0,yB 0,yB 0,yB 0,yB 0,yB 0,yB 0,yB 0,yB 0,yB 0,yB 0,yB 0,yB 0,yB 0,MG MH 0 0,MG MH 0 0,MG MH 0 0,MG MH 0 0,MG MH 0 0,MG MH 0 0,yB 0,yB 0,MG MH 0 0]:Array M7)=ah0.toArray from rfl,<-N.out.2.2.2.1];refine Nd N.out.2.2.2.2 ?_;rintro r w1 ⟨rfl,c6⟩;have g0:=WO N.out.2.1 c6;have l0:=WO N.out.2.2.1 c6;have l6:=N.out.1.trans (c6.mono N.out.1.size);obtain⟨j0,j1,j2,j3,j4,j5,j6,j7,j8,j9,g5,f8,f9,e6,e9,e7,h4⟩:=adq g0;have J:M6 (_/\_/\_):=⟨g0,l0,l6⟩;clear g0 l0 l6 c6 k0 k1 k2 k3 k4 k5 k6 k7 k8 k9 m6 n0 m3 m4 n1 m8 m7
 go_wp2_with fail
 refine(auP c.flows _).mono ?_;rw[show adI c.flows=(Nj c.flows.toNat (0,Nb,0,0),0)from Nh HN.out.1];rintro r A ⟨q,c2,rfl,f2,R⟩;obtain⟨l,hl⟩:∃l:List Sl,l=Nj c.flows.toNat (0,Nb,0,0):=⟨_,rfl⟩;simp only[<-hl]at f2⊢;have HL:M6 _:=hl;clear hl j0 j1 j2 j3 j4 j5 j6 j7 j8 j9 g5 f8 f9 e6 e9 e7 h4;obtain⟨W2,c8⟩:=yE (A.alloc (MP #[MG q l.length c2] 40));have d9:yA A W2:=by rw[c8];exact WQ A
 have c4:=R.trans (d9.mono R.size);have l5:W2.heap[A.heap.size]?=MI (MP #[MG q l.length c2] 40 (0,0)):=by rw[c8];exact M1 _ _
 have l9:=YI f2 d9;obtain⟨j0,j1,j2,j3,j4,j5,j6,j7,j8,j9,g5,f8,f9,e6,e9,e7,h4⟩:=adq (WO J.out.1 R);have F:M6 (_/\_/\_/\_/\_/\_):=⟨WO J.out.1 c4,WO J.out.2.1 c4,J.out.2.2.trans (c4.mono J.out.2.2.size),l5,l9,c8⟩;have O:M6 (w1.heap.size<=A.heap.size):=R.size;clear d9 c4 l5 l9 c8 f2 R
 go_wp2_with fail
 rw[<-F.out.2.2.2.2.2];refine(aod c.bn c.bd c.bb _).mono ?_;rw[show aeB c.bn c.bd c.bb=(c.bb*c.bd,0)from Nh HN.out.2.2.2.2.2.2.2.2.2.2.1];rintro r x ⟨rfl,d2⟩;clear j0 j1 j2 j3 j4 j5 j6 j7 j8 j9 g5 f8 f9 e6 e9 e7 h4;obtain⟨m,d5⟩:=yE (c.bb*c.bd)
 dsimp only
 rw[<-d5];have HK:M6 _:=d5;clear d5;obtain⟨W3,c9⟩:=yE (x.alloc (MP #[yB m] 51));have h5:yA x W3:=by rw[c9];exact WQ x
 have L:=d2.trans (h5.mono d2.size);have f6:W3.heap[x.heap.size]?=MI (MP #[yB m] 51 (0,0)):=by rw[c9];exact M1 _ _
 have E:M6 (_/\_/\_/\_/\_/\_/\_):=⟨WO F.out.1 L,WO F.out.2.1 L,F.out.2.2.1.trans (L.mono F.out.2.2.1.size),WO F.out.2.2.2.1 L,YI F.out.2.2.2.2.1 L,f6,c9⟩;have h8:M6 (x.heap.size<W3.heap.size):=(ZAa.1 f6).1;have c3:M6 (A.heap.size+1<=x.heap.size):=by have:=d2.size;have:=(ZAa.1 F.out.2.2.2.1).1;show _<=_;omega
 clear h5 L f6 c9 d2
 go_wp2_with fail
 rw[<-E.out.2.2.2.2.2.2];refine(awa 0 _ ⟨by omega,by omega⟩).mono ?_;rintro r u ⟨vw,vs,rfl,f3,d4⟩;obtain⟨n,p,l1⟩:=Y6 f3.row;obtain⟨j,i4⟩:=yE aaW.length;rw[<-i4]at l1;subst l1;clear i4;have m5:(MG n j p).oneCell'=true:=rfl;obtain⟨d,d1⟩:=yE (u.alloc (MP #[yB 0,MG n j p] 54));have d6:yA u d:=by rw[d1];exact WQ u
 have H:=d4.trans (d6.mono d4.size);have m0:d.heap[u.heap.size]?=MI (MP #[yB 0,MG n j p] 54 (0,0)):=by rw[d1];exact M1 _ _
 have f:M6 (_/\_/\_/\_/\_/\_/\_/\_/\_):=⟨WO E.out.1 H,WO E.out.2.1 H,E.out.2.2.1.trans (H.mono E.out.2.2.1.size),WO E.out.2.2.2.1 H,YI E.out.2.2.2.2.1 H,WO E.out.2.2.2.2.2.1 H,m0,f3.below d6,d1⟩;have m1:M6 (x.heap.size+1<=u.heap.size):=by have:=d4.size;have:=(ZAa.1 E.out.2.2.2.2.2.1).1;show _<=_;omega
 clear d6 H m0 d1 d4 f3;have n7:w.heap.size+1<w1.heap.size:=(ZAa.1 J.out.2.1).1;obtain⟨D,y⟩:=yE ((d.alloc (MP V 224)).drew);have s:yA d D:=by rw[y];exact(WQ d).trans ⟨rfl,rfl,rfl,MV _,fun _ _=>rfl⟩
 have i9:aeT D (MG (MI ⟨d.heap.size,0,MH⟩) 12 12) 12:=by rw[y,HZ.out.1];exact arl d
 obtain⟨WL,I⟩:=yE (ad6 c (MG q l.length c2) (MG (MI ⟨d.heap.size,0,MH⟩) 12 12) m (MG n j p));obtain⟨a,C⟩:=yE (D.setCells (w.heap.size+1) 0 WL);have G:∀g,g≠w.heap.size+1->g<D.heap.size->a.heap[g]?=D.heap[g]?:=fun g Z h2=>by rw[C];exact N8 D _ _ _ h2 Z
 have d3:=WO f.out.1 s;have g8:=WO f.out.2.1 s;have d0:=WO f.out.2.2.2.1 s;have c7:=WO f.out.2.2.2.2.2.1 s;have c5:=WO f.out.2.2.2.2.2.2.1 s;have l8:A.heap.size≠w.heap.size+1:=by have:=F.out.2.2.1.size;have:=O.out;omega
 have i3:x.heap.size≠w.heap.size+1:=by have:=O.out;have:=c3.out;omega
 have i2:u.heap.size≠w.heap.size+1:=by have:=O.out;have:=c3.out;have:=m1.out;omega
 have l3:=(G _ (by omega) (ZAa.1 d3).1).trans d3;have i0:=(G _ l8 (ZAa.1 d0).1).trans d0;have i8:=(G _ i3 (ZAa.1 c7).1).trans c7;have i6:=(G _ i2 (ZAa.1 c5).1).trans c5;have f1:a.heap[w.heap.size+1]?=MI (MP WL.toArray 56 (0,0)):=by rw[C];exact alv (vs:=WL) g8 (by rw[I];rfl)
 have f5:=f.out.2.2.1.trans (s.mono f.out.2.2.1.size);have i5:yA w a:=by rw[C];exact adp f5 (by omega) _ _ f5.size
 have e0:D.heap.size<=a.heap.size:=by rw[C,ahW];exact MV _
 have m2:w.heap.size<=w1.heap.size:=J.out.2.2.size;have oT:=W8 (YI f.out.2.2.2.2.1 s) fun g hg=>G g (by have:=((YI f.out.2.2.2.2.1 s).lt g hg).1;omega) ((YI f.out.2.2.2.2.1 s).lt g hg).2
 have h9:∀Y,af6 w.heap.size a Y->Yy Y (MG q l.length c2) l:=fun Y hY=>arq (W8 oT fun g hg=>hY.2 g (by have:=(oT.lt g hg).1;omega) (oT.lt g hg).2)
 have oL:=(f.out.2.2.2.2.2.2.2.1.below s).Gf fun g Z h2=>G g (by have:=O.out;have:=c3.out;have:=h8.out;omega) h2
 have l7:∀Y,af6 w.heap.size a Y->Zo Y (MG n j p) aaW:=fun Y hY=>arv (oL.Gf fun g Z h2=>hY.2 g (by have:=O.out;have:=c3.out;have:=h8.out;omega) h2)
 have h6:aeT a (MG (MI ⟨d.heap.size,0,MH⟩) 12 12) 12:=Xw.Gf i9 e0 fun b hb=>by
  have e:b=d.heap.size:=by cases hb;rfl
  subst e;exact G _ (by have:=(ZAa.1 f.out.2.1).1;omega) (by have:=s.size;rw[y];simp)
 have i1:∀Y,af6 w.heap.size a Y->aeT Y (MG (MI ⟨d.heap.size,0,MH⟩) 12 12) 12:=fun Y hY=>Xw.Gf h6 hY.1 fun b hb=>by
  have e:b=d.heap.size:=by cases hb;rfl
  subst e;exact hY.2 _ (by have:=(ZAa.1 f.out.2.1).1;omega) (M8 (by have:=s.size;rw[y];simp) e0)
 have F1:=ahU f.out.1 f.out.2.1 rfl f.out.2.2.2.1 f.out.2.2.2.2.2.1 f.out.2.2.2.2.2.2.1;have F2:=ahU d3 g8 rfl d0 c7 c5;have F3:=ahU l3 f1 (by rw[I];rfl) i0 i8 i6;have d7:=art c (MG q l.length c2) (MG (MI ⟨d.heap.size,0,MH⟩) 12 12) m (MG n j p) rfl rfl m5;rw[C,I,y]at F3;rw[y]at F2;have G1:M6 _:=F1;have G2:M6 _:=F2;have G3:M6 _:=F3;have h7:M6 ((d.alloc (MP V 224)).drew.there (w.heap.size+1) 0 26):=F2.2.2.2.2.2.2.2.2.2.2.2.2.2.2.2.2.2.2.2.2;have n5:M6 (d.drew.there (w.heap.size+1) 0 26):=F1.2.2.2.2.2.2.2.2.2.2.2.2.2.2.2.2.2.2.2.2;have n6:(Instr.storeAt 56 (Na (MI ⟨w.heap.size+1,0,MH⟩)) (Ny #[yB c.flows,yB c.num,yB c.den,yB c.tries,yB c.warm,yB c.drain,yB c.idle,yB c.conn,yB c.ret,yB c.most,yB c.bn,yB c.bd,yB c.bb,yB c.wn,yB c.wf,yB c.wh,yB 0,MG q l.length c2,MG MH 0 0,MG MH 0 0,MG MH 0 0,MG MH 0 0,MG (MI ⟨d.heap.size,0,MH⟩) 12 12,yB m,yB 0,MG n j p])).run MK ((d.alloc (MP V 224)).drew)=.ok () a:=by
  have Z:=run_storeAt_mid (P:=MK) ((d.alloc (MP V 224)).drew) (w.heap.size+1) 0 56 #[yB c.flows,yB c.num,yB c.den,yB c.tries,yB c.warm,yB c.drain,yB c.idle,yB c.conn,yB c.ret,yB c.most,yB c.bn,yB c.bd,yB c.bb,yB c.wn,yB c.wf,yB c.wh,yB 0,MG q l.length c2,MG MH 0 0,MG MH 0 0,MG MH 0 0,MG MH 0 0,MG (MI ⟨d.heap.size,0,MH⟩) 12 12,yB m,yB 0,MG n j p] h7.out af8 d7;rw[C,I,y];exact Z
 have l4:a.cell? ⟨w.heap.size,0,MH⟩=MI (yB c.flows)/\a.cell? ⟨w.heap.size,1,MH⟩=MI (yB c.num)/\a.cell? ⟨w.heap.size,2,MH⟩=MI (yB c.den)/\a.cell? ⟨w.heap.size,3,MH⟩=MI (yB c.tries)/\a.cell? ⟨w.heap.size,4,MH⟩=MI (yB c.warm)/\a.cell? ⟨w.heap.size,5,MH⟩=MI (yB c.drain)/\a.cell? ⟨w.heap.size,6,MH⟩=MI (yB c.idle)/\a.cell? ⟨w.heap.size,7,MH⟩=MI (yB c.conn)/\a.cell? ⟨w.heap.size,8,MH⟩=MI (yB c.ret)/\a.cell? ⟨w.heap.size,9,MH⟩=MI (yB c.most)/\a.cell? ⟨w.heap.size,10,MH⟩=MI (yB c.bn)/\a.cell? ⟨w.heap.size,11,MH⟩=MI (yB c.bd)/\a.cell? ⟨w.heap.size,12,MH⟩=MI (yB c.bb)/\a.cell? ⟨w.heap.size,13,MH⟩=MI (yB c.wn)/\a.cell? ⟨w.heap.size,14,MH⟩=MI (yB c.wf)/\a.cell? ⟨w.heap.size,15,MH⟩=MI (yB c.wh)/\a.cell? ⟨A.heap.size,0,MH⟩=MI (MG q l.length c2)/\a.cell? ⟨x.heap.size,0,MH⟩=MI (yB m)/\a.cell? ⟨u.heap.size,0,MH⟩=MI (yB 0)/\a.cell? ⟨u.heap.size,1,MH⟩=MI (MG n j p)/\a.there (w.heap.size+1) 0 26:=by rw[C,I,y];exact F3
 have G4:M6 _:=l4;clear l4;have B:M6 (_/\_/\_/\_/\_/\_/\_/\_/\_):=⟨f1,i5,h9,l7,i1,d7,I,C,y⟩;have e3:=HZ.out.2;have n2:=RC;have n3:(MK.info? 36).map (·.size)=MI 16:=by kernel_rfl
 have n4:=af8;clear F1 F2 F3 f1 i5 h9 l7 i1 h6 oT oL m2 d7 I C y G d3 g8 d0 c7 c5 l3 i0 i8 i6 f5 e0 i9 s l8 i3 i2;go_wp2;rw[<-f.out.2.2.2.2.2.2.2.2];refine O2 (S:=fun W=>W.cell? ⟨w.heap.size,0,MH⟩=MI (yB c.flows)/\W.cell? ⟨w.heap.size,1,MH⟩=MI (yB c.num)/\W.cell? ⟨w.heap.size,2,MH⟩=MI (yB c.den)/\W.cell? ⟨w.heap.size,3,MH⟩=MI (yB c.tries)/\W.cell? ⟨w.heap.size,4,MH⟩=MI (yB c.warm)/\W.cell? ⟨w.heap.size,5,MH⟩=MI (yB c.drain)/\W.cell? ⟨w.heap.size,6,MH⟩=MI (yB c.idle)/\W.cell? ⟨w.heap.size,7,MH⟩=MI (yB c.conn)/\W.cell? ⟨w.heap.size,8,MH⟩=MI (yB c.ret)/\W.cell? ⟨w.heap.size,9,MH⟩=MI (yB c.most)/\W.cell? ⟨w.heap.size,10,MH⟩=MI (yB c.bn)/\W.cell? ⟨w.heap.size,11,MH⟩=MI (yB c.bd)/\W.cell? ⟨w.heap.size,12,MH⟩=MI (yB c.bb)/\W.cell? ⟨w.heap.size,13,MH⟩=MI (yB c.wn)/\W.cell? ⟨w.heap.size,14,MH⟩=MI (yB c.wf)/\W.cell? ⟨w.heap.size,15,MH⟩=MI (yB c.wh)/\W.cell? ⟨A.heap.size,0,MH⟩=MI (MG q l.length c2)/\W.cell? ⟨x.heap.size,0,MH⟩=MI (yB m)/\W.cell? ⟨u.heap.size,0,MH⟩=MI (yB 0)/\W.cell? ⟨u.heap.size,1,MH⟩=MI (MG n j p)/\W.there (w.heap.size+1) 0 26) (by kernel_rfl) G1.out (fun hHeld=>?_);refine ND (i:=0) (oi:=_) (v:=aeV c) rfl (by kernel_rfl) (by kernel_rfl) (by kernel_rfl) (fun _ _ _ h=>h) (Nt ⟨by rfl,fun W hSw=>by obtain⟨s0,s1,s2,s3,s4,s5,s6,s7,s8,s9,f4,e5,f0,e4,g9,g7,g4,g1,e8,f7,g6⟩:=hSw;go_simp⟩) hHeld ?_;simp only[Nr,MJ,ML,MM];refine ND (i:=1) (oi:=_) (v:=Ny #[MG q l.length c2]) rfl (by kernel_rfl) (by kernel_rfl) (by kernel_rfl) (fun _ _ _ h=>h) (Nt ⟨by rfl,fun W hSw=>by obtain⟨s0,s1,s2,s3,s4,s5,s6,s7,s8,s9,f4,e5,f0,e4,g9,g7,g4,g1,e8,f7,g6⟩:=hSw;go_simp⟩) hHeld ?_;simp only[Nr,MJ,ML,MM];refine ND (i:=3) (oi:=_) (v:=Ny #[yB m]) rfl (by kernel_rfl) (by kernel_rfl) (by kernel_rfl) (fun _ _ _ h=>h) (Nt ⟨by rfl,fun W hSw=>by obtain⟨s0,s1,s2,s3,s4,s5,s6,s7,s8,s9,f4,e5,f0,e4,g9,g7,g4,g1,e8,f7,g6⟩:=hSw;go_simp⟩) hHeld ?_;simp only[Nr,MJ,ML,MM];refine ND (i:=4) (oi:=_) (v:=Ny #[yB 0,MG n j p]) rfl (by kernel_rfl) (by kernel_rfl) (by kernel_rfl) (fun _ _ _ h=>h) (Nt ⟨by rfl,fun W hSw=>by obtain⟨s0,s1,s2,s3,s4,s5,s6,s7,s8,s9,f4,e5,f0,e4,g9,g7,g4,g1,e8,f7,g6⟩:=hSw;go_simp⟩) hHeld ?_;simp only[Nr,MJ,ML,MM];refine yQ 2 fun K hK=>?_;go_simp;refine hK.out _ _ G2.out (fun hHeld=>?_);clear hK K
 try simp only[Nr,MJ,ML,MM]
 refine yQ 5 fun K hK=>?_;go_simp;refine hK.out _ _ G2.out (fun hHeld=>?_);clear hK K
 try simp only[Nr,MJ,ML,MM]
 refine yQ 6 fun K hK=>?_;rw[Nh (by rfl)];refine wp_store_mid _ _ _ rfl _ _ #[yB c.flows,yB c.num,yB c.den,yB c.tries,yB c.warm,yB c.drain,yB c.idle,yB c.conn,yB c.ret,yB c.most,yB c.bn,yB c.bd,yB c.bb,yB c.wn,yB c.wf,yB c.wh,yB 0,MG q l.length c2,MG MH 0 0,MG MH 0 0,MG MH 0 0,MG MH 0 0,MG (MI ⟨d.heap.size,0,MH⟩) 12 12,yB m,yB 0,MG n j p] rfl rfl h7.out af8 B.out.2.2.2.2.2.1 ?_;rw[show RW (#[yB c.flows,yB c.num,yB c.den,yB c.tries,yB c.warm,yB c.drain,yB c.idle,yB c.conn,yB c.ret,yB c.most,yB c.bn,yB c.bd,yB c.bb,yB c.wn,yB c.wf,yB c.wh,yB 0,MG q l.length c2,MG MH 0 0,MG MH 0 0,MG MH 0 0,MG MH 0 0,MG (MI ⟨d.heap.size,0,MH⟩) 12 12,yB m,yB 0,MG n j p]:Array M7)=ad6 c (MG q l.length c2) (MG (MI ⟨d.heap.size,0,MH⟩) 12 12) m (MG n j p)from rfl,<-B.out.2.2.2.2.2.2.1,<-B.out.2.2.2.2.2.2.2.2,<-B.out.2.2.2.2.2.2.2.1];refine hK.out _ _ G4.out (fun hHeld=>?_);clear hK K
 try simp only[Nr,MJ,ML,MM]
 refine yQ 7 fun K hK=>?_;go_simp;refine hK.out _ _ G4.out (fun hHeld=>?_);clear hK K
 try simp only[Nr,MJ,ML,MM]
 refine PS (by kernel_rfl) ?_ _;go_wp2;refine Np (v:=Nv #[ahZ c (MG q l.length c2) (MG (MI ⟨d.heap.size,0,MH⟩) 12 12) m (MG n j p),yB 0]) (XT Tryz.results12 rfl rfl (Xp (cs:=ad6 c (MG q l.length c2) (MG (MI ⟨d.heap.size,0,MH⟩) 12 12) m (MG n j p)) (by have:=B.out.1;rw[B.out.2.2.2.2.2.2.1]at this;exact this) azZ rfl af8)) rfl ?_;show af5 c w _ _;unfold af5;rw[Nh HN.out];refine⟨_,_,_,by rw[<-HK.out],?_,B.out.2.1⟩;rw[<-HL.out];exact fun Y hY=>⟨B.out.2.2.1 Y hY,B.out.2.2.2.2.1 Y hY,B.out.2.2.2.1 Y hY⟩
abbrev arh(n d b:Int):Value:=Ny #[yB n,yB d,yB b]
theorem alx{W:MO}{a b c:M7}(h:W.heap[g]?=MI (MP #[a,b,c] T (0,0))):W.cell? ⟨g,0,MH⟩=MI a/\W.cell? ⟨g,1,MH⟩=MI b/\W.cell? ⟨g,2,MH⟩=MI c/\g<W.heap.size :=
 ⟨by simp[Nl,h],by simp[Nl,h],by simp[Nl,h],(ZAa.1 h).1⟩
theorem alw{a b c a' b' c':M7}(h:w.heap[g]?=MI (MP #[a,b,c] T (0,0))):(((w.setCell ⟨g,0,MH⟩ a').setCell ⟨g,1,MH⟩ b').setCell ⟨g,2,MH⟩ c').heap[g]?=MI (MP #[a',b',c'] T (0,0)):=by
 have d:=NI w g 0 _ T a' h;have f:=NI _ g 1 _ T b' d;exact NI _ g 2 _ T c' f
theorem ari(x y z:Int)(hx:(N6 ME x).wf=Nw)(hy:(N6 ME y).wf=Nw)(hz:(N6 ME z).wf=Nw) :
  ∃n d b:Nat,(n<=20/\(1<=d/\d<=20)/\b<=20)/\∀w,Ni MK 27 #[yB x,yB y,yB z] w fun r w'=>r=MN (arh n d b)/\yA w w':=by
 obtain⟨n,C,m⟩:=aaK x 21 hx (by omega) (by omega);obtain⟨d,D,o⟩:=aaK y 20 hy (by omega) (by omega);obtain⟨b,B,p⟩:=aaK z 21 hz (by omega) (by omega);refine⟨n,1+d,b,⟨by omega,⟨by omega,by omega⟩,by omega⟩,fun w=>?_⟩;have P:M6 (_/\_/\_):=⟨m,o,p⟩;clear m o p hx hy hz;obtain⟨a,i⟩:=yE (w.alloc (MP #[yB 0,yB 0,yB 0] 32));have f:a.heap[w.heap.size]?=MI (MP #[yB 0,yB 0,yB 0] 32 (0,0)):=by rw[i];exact M1 _ _
 have j:yA w a:=by rw[i];exact WQ _
 obtain⟨c0,c1,c2,q⟩:=alx f;have A:a.frozen? ⟨w.heap.size,0,MH⟩=false:=by simp[Ng,f]
 have u:a.frozen? ⟨w.heap.size,1,MH⟩=false:=by simp[Ng,f]
 have s:a.frozen? ⟨w.heap.size,2,MH⟩=false:=by simp[Ng,f]
 have H:M6 (_/\_/\_):=⟨i,f,j⟩;clear i f j;go_enter Tryz.func27,Tryz.ntmps27
 go_wp2_with fail
 rw[<-H.out.1];refine(P.out.1 _).mono ?_;rintro e w' ⟨rfl,rfl⟩
 go_wp2_with fail
 refine(P.out.2.1 _).mono ?_;rintro e w' ⟨rfl,rfl⟩
 go_wp2_with fail
 refine(P.out.2.2 _).mono ?_;rintro e w' ⟨rfl,rfl⟩;go_wp2;exact Np (v:=Ny #[yB n,yB (1+d),yB b]) (Z2 Wb rfl (Xp (P:=MK) (cs:=[yB n,yB (1+d),yB b]) (alw H.out.2.1) ayp rfl (by kernel_rfl))) rfl ⟨by simp,((H.out.2.2.setCell (MV _) _).setCell (MV _) _).setCell (MV _) _⟩
theorem ars(x y z:Int)(hx:(N6 ME x).wf=Nw)(hy:(N6 ME y).wf=Nw)(hz:(N6 ME z).wf=Nw) :
  ∃n f d:Nat,(1<=n/\n<=16)/\(1<=f/\f<=n)/\(1<=d/\d<=500)/\n=1+ZN x 16/\∀w,Ni MK 28 #[yB x,yB y,yB z] w fun r w'=>r=MN (acS n f d)/\yA w w':=by
 have p:∀W,Ni MK 26 #[yB x,yB 16] W fun r w'=>r=MN (yB (ZN x 16:Nat))/\w'=W:=fun W=>by
  have s:=adr hx;have:=aga x 16 W s.1 s.2 (by omega) (by omega);exact this
 have E:=af9 x 16 (by omega);generalize ZN x 16=n at *;obtain⟨f,B,m⟩:=aaK y (1+n) hy (by omega) (by omega);obtain⟨d,F,q⟩:=aaK z 500 hz (by omega) (by omega);refine⟨1+n,1+f,1+d,⟨by omega,by omega⟩,⟨by omega,by omega⟩,⟨by omega,by omega⟩,rfl,fun w=>?_⟩;rw[Int.natCast_add]at m;have P:M6 (_/\_/\_):=⟨p,m,q⟩;clear p m q hx hy hz;obtain⟨a,j⟩:=yE (w.alloc (MP #[yB 0,yB 0,yB 0] 34));have i:a.heap[w.heap.size]?=MI (MP #[yB 0,yB 0,yB 0] 34 (0,0)):=by rw[j];exact M1 _ _
 have o:yA w a:=by rw[j];exact WQ _
 obtain⟨c0,c1,c2,u⟩:=alx i;have D:a.frozen? ⟨w.heap.size,0,MH⟩=false:=by simp[Ng,i]
 have C:a.frozen? ⟨w.heap.size,1,MH⟩=false:=by simp[Ng,i]
 have A:a.frozen? ⟨w.heap.size,2,MH⟩=false:=by simp[Ng,i]
 have H:M6 (_/\_/\_):=⟨j,i,o⟩;clear j i o;go_enter WF,Ww
 go_wp2_with fail
 rw[<-H.out.1];refine(P.out.1 _).mono ?_;rintro e w' ⟨rfl,rfl⟩
 go_wp2_with fail
 refine(P.out.2.1 _).mono ?_;rintro e w' ⟨rfl,rfl⟩
 go_wp2_with fail
 refine(P.out.2.2 _).mono ?_;rintro e w' ⟨rfl,rfl⟩;go_wp2;exact Np (v:=Ny #[yB (1+n),yB (1+f),yB (1+d)]) (Z2 Tryz.results28 rfl (Xp (P:=MK) (cs:=[yB (1+n),yB (1+f),yB (1+d)]) (alw H.out.2.1) O5 rfl (by kernel_rfl))) rfl ⟨by simp,((H.out.2.2.setCell (MV _) _).setCell (MV _) _).setCell (MV _) _⟩
theorem arb(n many:Int)(w:MO)(h0:-9223372036854775808<=n)(h1:n<=9223372036854775807)(h2:0<many)(h3:many<=9223372036854775807):Ni MK 34 #[yB n,yB many] w fun e w'=>e=MN (yB ((ZN n many.toNat:Nat):Int))/\w'=w:=by
 have H:M6 _:=aga n many w h0 h1 h2 h3;go_enter Tryz.func34,Tryz.ntmps34
 go_wp2_with fail
 refine Nd H.out ?_;rintro r a ⟨rfl,rfl⟩;go_wp2;go_ret;exact⟨rfl,rfl⟩
abbrev agc(x0 x1 x2 x3 x4 x5 x6 x7 x8 x9 x10 x11 x12 x13 x14 x15:Int):Value:=Ny #[yB x0,yB x1,yB x2,yB x3,yB x4,yB x5,yB x6,yB x7,yB x8,yB x9,yB x10,yB x11,yB x12,yB x13,yB x14,yB x15]
abbrev ahX(x0 x1 x2 x3 x4 x5 x6 x7 x8 x9 x10 x11 x12 x13 x14 x15:Int):Obj:=MP #[yB x0,yB x1,yB x2,yB x3,yB x4,yB x5,yB x6,yB x7,yB x8,yB x9,yB x10,yB x11,yB x12,yB x13,yB x14,yB x15] 24
theorem ahY{b:Nat}{x0 x1 x2 x3 x4 x5 x6 x7 x8 x9 x10 x11 x12 x13 x14 x15:Int}(h:w.heap[b]?=MI (ahX x0 x1 x2 x3 x4 x5 x6 x7 x8 x9 x10 x11 x12 x13 x14 x15)):w.cell? ⟨b,0,MH⟩=MI (yB x0)/\w.cell? ⟨b,1,MH⟩=MI (yB x1)/\w.cell? ⟨b,2,MH⟩=MI (yB x2)/\w.cell? ⟨b,3,MH⟩=MI (yB x3)/\w.cell? ⟨b,4,MH⟩=MI (yB x4)/\w.cell? ⟨b,5,MH⟩=MI (yB x5)/\w.cell? ⟨b,6,MH⟩=MI (yB x6)/\w.cell? ⟨b,7,MH⟩=MI (yB x7)/\w.cell? ⟨b,8,MH⟩=MI (yB x8)/\w.cell? ⟨b,9,MH⟩=MI (yB x9)/\w.cell? ⟨b,10,MH⟩=MI (yB x10)/\w.cell? ⟨b,11,MH⟩=MI (yB x11)/\w.cell? ⟨b,12,MH⟩=MI (yB x12)/\w.cell? ⟨b,13,MH⟩=MI (yB x13)/\w.cell? ⟨b,14,MH⟩=MI (yB x14)/\w.cell? ⟨b,15,MH⟩=MI (yB x15)/\b<w.heap.size :=
 ⟨by simp[Nl,h],by simp[Nl,h],by simp[Nl,h],by simp[Nl,h],by simp[Nl,h],by simp[Nl,h],by simp[Nl,h],by simp[Nl,h],by simp[Nl,h],by simp[Nl,h],by simp[Nl,h],by simp[Nl,h],by simp[Nl,h],by simp[Nl,h],by simp[Nl,h],by simp[Nl,h],(ZAa.1 h).1⟩
theorem aru(x:Int):(N6 ME (x.tmod 20)).wf=true:=by
 by_cases h:x<0
 ·have e:x.tmod 20 = -((-x) % 20):=by
   rw[show x = -(-x)by omega,Int.neg_tmod,Oi (by omega)];simp
  rw[e];exact aez (by omega) (by omega)
 ·rw[Oi (by omega)]
  exact aez (by omega) (by omega)
theorem awX{P:O8}{md:Region.Mode}{ops:Array Oper}{Q:Exit->Act->MO->Prop}{S:MO->Prop}(i:Nat)(v:M7){oi:Oper}{fuel:Nat}{listed:Array Bool}{a:Act}(hS:S w)
  (h:wpAnyH P md ops Q S fuel (listed.setIfInBounds i Nw) (a.put oi.dst v) w) (hi:ops[i]?=MI oi:=by rfl) (hs:Region.noSelect ops=true:=by kernel_rfl) (hf:Region.free md ops listed i=true:=by kernel_rfl) (hr:(Region.ready md ops listed).contains i=true:=by kernel_rfl)
  (hQ:∀c a w,Q (.panic c) (a.put oi.dst v) w->Q (.panic c) a w:=by exact fun _ _ _ h=>h) (hy:YieldsIf P ops S oi v a:=by exact Or.inl ⟨by rfl,fun X hSw=>by obtain⟨s0,s1,s2,s3,s4,s5,s6,s7,s8,s9,s10,s11,s12,s13,s14,s15⟩:=hSw;go_simp⟩):wpAnyH P md ops Q S (fuel+1) listed a w :=
 ND hi hs hf hr hQ hy hS h
theorem abk{n:Int}(h1:-1000000<=n)(h2:n<=1000000):IntKind.i64.wrap n=n:=by rw[Ow];omega
theorem arf(l:List Int):(l.map fun x=>yB x).toArray.all (·.oneCell')=true:=by
 apply OE;intro v a;obtain⟨x,_,rfl⟩:=ZAd.1 a;rfl
structure aar(x0 x1 x2 x3 x4 x5 x6 x7 x8 x9 x10 x11 x12 x13 x14 x15:Int)(c:Cf):Prop where
 ok:acO c
 flows:c.flows<=8
 drain:c.drain<=5
 idle:c.idle<=6
 conn:c.conn<=4
 ret:c.ret<=3
 most:c.most=((ZN x9 101:Nat):Int)
theorem ark(x0 x1 x2 x3 x4 x5 x6 x7 x8 x9 x10 x11 x12 x13 x14 x15:Int)(w0:(N6 ME x0).wf=Nw)(w1:(N6 ME x1).wf=Nw)(w2:(N6 ME x2).wf=Nw)(w3:(N6 ME x3).wf=Nw)(w4:(N6 ME x4).wf=Nw)(w5:(N6 ME x5).wf=Nw)(w6:(N6 ME x6).wf=Nw)(w7:(N6 ME x7).wf=Nw)(w8:(N6 ME x8).wf=Nw)(w9:(N6 ME x9).wf=Nw)(w10:(N6 ME x10).wf=Nw)(w11:(N6 ME x11).wf=Nw)(w12:(N6 ME x12).wf=Nw)(w13:(N6 ME x13).wf=Nw)(w14:(N6 ME x14).wf=Nw)(w15:(N6 ME x15).wf=Nw) :
  ∃c:Cf,aar x0 x1 x2 x3 x4 x5 x6 x7 x8 x9 x10 x11 x12 x13 x14 x15 c/\∀w,Ni MK 11 #[agc x0 x1 x2 x3 x4 x5 x6 x7 x8 x9 x10 x11 x12 x13 x14 x15] w fun r w'=>r=MN (aeV c)/\yA w w':=by
 obtain⟨a,b2,p2⟩:=aaK x2 20 w2 (by omega) (by omega);obtain⟨f,b0,p0⟩:=aaK x0 8 w0 (by omega) (by omega);obtain⟨x,b3,p3⟩:=aaK x3 4 w3 (by omega) (by omega);obtain⟨y,b4,p4⟩:=aaK x4 6 w4 (by omega) (by omega);obtain⟨i,b5,p5⟩:=aaK x5 5 w5 (by omega) (by omega);obtain⟨d,b6,p6⟩:=aaK x6 6 w6 (by omega) (by omega);obtain⟨m,b7,p7⟩:=aaK x7 4 w7 (by omega) (by omega);obtain⟨s,b8,p8⟩:=aaK x8 4 w8 (by omega) (by omega);obtain⟨n,b1,p1⟩:=aaK x1 (20-a) w1 (by omega) (by omega);have d0:(((20-a:Nat)):Int)=20-(1+(a:Int))+1:=by omega
 rw[d0]at p1;have p9:∀W,Ni MK 26 #[yB x9,yB 101] W fun r w'=>r=MN (yB ((ZN x9 101:Nat):Int))/\w'=W:=fun W=>by
  have L:=adr w9;exact aga x9 101 W L.1 L.2 (by omega) (by omega)
 have b9:=af9 x9 101 (by omega);obtain⟨B,F,D,f1,pb⟩:=ari x10 x11 x12 w10 w11 w12;obtain⟨C,wf,A,g1,f9,f5,_,pw⟩:=ars x13 x14 (x15.tmod 20) w13 w14 (aru x15);refine⟨⟨1+f,1+a+n,1+a,x,y,1+i,1+d,1+m,s,(ZN x9 101:Nat),B,F,D,C,wf,A⟩,⟨⟨⟨by show(1:Int)<=1+f;omega,by show(1:Int)+f<=40;omega⟩,⟨by show(1:Int)<=1+a;omega,by show(1:Int)+a<=1+a+n;omega⟩,by show(1:Int)+a+n<=20;omega,⟨by show(0:Int)<=x;omega,by show(x:Int)<=12;omega⟩,⟨by show(0:Int)<=y;omega,by show(y:Int)<=500;omega⟩,⟨by show(1:Int)<=1+i;omega,by show(1:Int)+i<=500;omega⟩,⟨by show(1:Int)<=1+d;omega,by show(1:Int)+d<=500;omega⟩,⟨by show(1:Int)<=1+m;omega,by show(1:Int)+m<=500;omega⟩,⟨by show(0:Int)<=s;omega,by show(s:Int)<=20;omega⟩,⟨by show(0:Int)<=((ZN x9 101:Nat):Int);omega,by show((ZN x9 101:Nat):Int)<=100;omega⟩,?_,?_⟩,by show(1:Int)+f<=8;omega,by show(1:Int)+i<=5;omega,by show(1:Int)+d<=6;omega,by show(1:Int)+m<=4;omega,by show(s:Int)<=3;omega,rfl⟩,fun w=>?_⟩
 ·show Zp (B:Int) (F:Int) (D:Int)
  exact⟨by omega,by omega,by omega⟩
 ·show ZT (C:Int) (wf:Int) (A:Int)
  exact⟨by omega,by omega,by omega⟩
 obtain⟨E,d2⟩:=yE (ZN x9 101);rw[<-d2]at p9 b9⊢;clear d2 d0 w0 w1 w2 w3 w4 w5 w6 w7 w8 w9 w10 w11 w12 w13 w14 w15;have g9:IntKind.i64.wrap (1+(f:Int))=1+(f:Int):=abk (by omega) (by omega);have f7:IntKind.i64.wrap (20-(1+(a:Int)))=20-(1+(a:Int)):=abk (by omega) (by omega);have g4:IntKind.i64.wrap (20-(1+(a:Int))+1)=20-(1+(a:Int))+1:=abk (by omega) (by omega);have g8:IntKind.i64.wrap (1+(a:Int)+(n:Int))=1+(a:Int)+(n:Int):=abk (by omega) (by omega);have f3:IntKind.i64.wrap (1+(i:Int))=1+(i:Int):=abk (by omega) (by omega);have f6:IntKind.i64.wrap (1+(d:Int))=1+(d:Int):=abk (by omega) (by omega);have g7:IntKind.i64.wrap (1+(m:Int))=1+(m:Int):=abk (by omega) (by omega);obtain⟨J,N⟩:=yE ((w.alloc (ahX x0 x1 x2 x3 x4 x5 x6 x7 x8 x9 x10 x11 x12 x13 x14 x15)).alloc (abX Xv));have c8:yA w J:=by rw[N];exact(WQ w).trans ((WQ _).mono (by simp))
 have M:J.heap[w.heap.size]?=MI (ahX x0 x1 x2 x3 x4 x5 x6 x7 x8 x9 x10 x11 x12 x13 x14 x15):=by rw[N];exact Xy _ _ (M1 _ _)
 have I:J.heap[w.heap.size+1]?=MI (abX Xv):=by rw[N];exact Yu _ _ _
 obtain⟨b,L⟩:=yE w.heap.size;obtain⟨g,hg⟩:=yE (w.heap.size+1);rw[<-L]at M;rw[<-hg]at I;obtain⟨a0,a1,a2,a3,a4,a5,a6,a7,a8,a9,g0,f2,g6,g5,f4,g3,f8⟩:=ahY M;have G:M6 (_/\_/\_/\_/\_/\_/\_/\_/\_/\_):=⟨p0,p1,p2,p3,p4,p5,p6,p7,p8,p9⟩;have c5:w.heap.size<=g:=by omega
 have H:M6 (_/\_/\_/\_/\_/\_/\_):=⟨c8,M,I,N,L,hg,c5⟩;have HS:M6 (∀X,yA J X->X.cell? ⟨b,0,MH⟩=MI (yB x0)/\X.cell? ⟨b,1,MH⟩=MI (yB x1)/\X.cell? ⟨b,2,MH⟩=MI (yB x2)/\X.cell? ⟨b,3,MH⟩=MI (yB x3)/\X.cell? ⟨b,4,MH⟩=MI (yB x4)/\X.cell? ⟨b,5,MH⟩=MI (yB x5)/\X.cell? ⟨b,6,MH⟩=MI (yB x6)/\X.cell? ⟨b,7,MH⟩=MI (yB x7)/\X.cell? ⟨b,8,MH⟩=MI (yB x8)/\X.cell? ⟨b,9,MH⟩=MI (yB x9)/\X.cell? ⟨b,10,MH⟩=MI (yB x10)/\X.cell? ⟨b,11,MH⟩=MI (yB x11)/\X.cell? ⟨b,12,MH⟩=MI (yB x12)/\X.cell? ⟨b,13,MH⟩=MI (yB x13)/\X.cell? ⟨b,14,MH⟩=MI (yB x14)/\X.cell? ⟨b,15,MH⟩=MI (yB x15)):=fun X hX=>by
  obtain⟨q0,q1,q2,q3,q4,q5,q6,q7,q8,q9,e3,d6,e9,d5,d3,e8,_⟩:=ahY (WO M hX);exact⟨q0,q1,q2,q3,q4,q5,q6,q7,q8,q9,e3,d6,e9,d5,d3,e8⟩
 have HB:M6 _:=pb;have HW:M6 _:=pw;have f0:∀X:MO,(binOp .rem 3 (yB x15) (yB 20)).run MK X=.ok (yB (x15.tmod 20)) X:=fun X=>by go_simp
 clear p0 p1 p2 p3 p4 p5 p6 p7 p8 p9 c8 M I N pb pw L hg c5;go_enter Tryz.func11,Tryz.ntmps11
 go_wp2_with fail
 rw[show(#[yB 0,yB 0,yB 0,yB 0,yB 0,yB 0,yB 0,yB 0,yB 0,yB 0,yB 0,yB 0,yB 0,yB 0,yB 0,yB 0]:Array M7)=#[yB Xv.flows,yB Xv.num,yB Xv.den,yB Xv.tries,yB Xv.warm,yB Xv.drain,yB Xv.idle,yB Xv.conn,yB Xv.ret,yB Xv.most,yB Xv.bn,yB Xv.bd,yB Xv.bb,yB Xv.wn,yB Xv.wf,yB Xv.wh]from rfl,<-H.out.2.2.2.1,<-H.out.2.2.2.2.2.1,<-H.out.2.2.2.2.1];refine(G.out.2.2.1 _).mono ?_;rintro r v1 ⟨rfl,e6⟩;subst e6;go_wp2;have Y:yA v1 v1.drew:=(MY _ _).drew;refine O2 (S:=fun W=>W.cell? ⟨b,0,MH⟩=MI (yB x0)/\W.cell? ⟨b,1,MH⟩=MI (yB x1)/\W.cell? ⟨b,2,MH⟩=MI (yB x2)/\W.cell? ⟨b,3,MH⟩=MI (yB x3)/\W.cell? ⟨b,4,MH⟩=MI (yB x4)/\W.cell? ⟨b,5,MH⟩=MI (yB x5)/\W.cell? ⟨b,6,MH⟩=MI (yB x6)/\W.cell? ⟨b,7,MH⟩=MI (yB x7)/\W.cell? ⟨b,8,MH⟩=MI (yB x8)/\W.cell? ⟨b,9,MH⟩=MI (yB x9)/\W.cell? ⟨b,10,MH⟩=MI (yB x10)/\W.cell? ⟨b,11,MH⟩=MI (yB x11)/\W.cell? ⟨b,12,MH⟩=MI (yB x12)/\W.cell? ⟨b,13,MH⟩=MI (yB x13)/\W.cell? ⟨b,14,MH⟩=MI (yB x14)/\W.cell? ⟨b,15,MH⟩=MI (yB x15)) (by kernel_rfl) (HS.out _ Y) (fun hHeld=>?_);refine awX 0 (Na (MI ⟨b,0,MH⟩)) hHeld ?_;simp only[Nr,MJ,ML,MM];refine awX 1 (yB (x0)) hHeld ?_;simp only[Nr,MJ,ML,MM];refine awX 4 (yB (1+(a:Int))) hHeld ?_;simp only[Nr,MJ,ML,MM];refine awX 5 (Na (MI ⟨b,1,MH⟩)) hHeld ?_;simp only[Nr,MJ,ML,MM];refine awX 6 (yB (x1)) hHeld ?_;simp only[Nr,MJ,ML,MM];refine awX 7 (yB (1+(a:Int))) hHeld ?_;simp only[Nr,MJ,ML,MM];refine awX 8 (yB (20-(1+(a:Int)))) hHeld ?_;simp only[Nr,MJ,ML,MM];refine awX 9 (yB (20-(1+(a:Int))+1)) hHeld ?_;simp only[Nr,MJ,ML,MM];refine awX 12 (yB (1+(a:Int))) hHeld ?_;simp only[Nr,MJ,ML,MM];refine awX 13 (Na (MI ⟨b,3,MH⟩)) hHeld ?_;simp only[Nr,MJ,ML,MM];refine awX 14 (yB (x3)) hHeld ?_;simp only[Nr,MJ,ML,MM];refine awX 16 (Na (MI ⟨b,4,MH⟩)) hHeld ?_;simp only[Nr,MJ,ML,MM];refine awX 17 (yB (x4)) hHeld ?_;simp only[Nr,MJ,ML,MM];refine awX 19 (Na (MI ⟨b,5,MH⟩)) hHeld ?_;simp only[Nr,MJ,ML,MM];refine awX 20 (yB (x5)) hHeld ?_;simp only[Nr,MJ,ML,MM];refine awX 23 (Na (MI ⟨b,6,MH⟩)) hHeld ?_;simp only[Nr,MJ,ML,MM];refine awX 24 (yB (x6)) hHeld ?_;simp only[Nr,MJ,ML,MM];refine awX 27 (Na (MI ⟨b,7,MH⟩)) hHeld ?_;simp only[Nr,MJ,ML,MM];refine awX 28 (yB (x7)) hHeld ?_;simp only[Nr,MJ,ML,MM];refine awX 31 (Na (MI ⟨b,8,MH⟩)) hHeld ?_;simp only[Nr,MJ,ML,MM];refine awX 32 (yB (x8)) hHeld ?_;simp only[Nr,MJ,ML,MM];refine awX 34 (Na (MI ⟨b,9,MH⟩)) hHeld ?_;simp only[Nr,MJ,ML,MM];refine awX 35 (yB (x9)) hHeld ?_;simp only[Nr,MJ,ML,MM];refine awX 37 (Na (MI ⟨b,10,MH⟩)) hHeld ?_;simp only[Nr,MJ,ML,MM];refine awX 38 (Na (MI ⟨b,10,MH⟩)) hHeld ?_;simp only[Nr,MJ,ML,MM];refine awX 39 (yB (x10)) hHeld ?_;simp only[Nr,MJ,ML,MM];refine awX 40 (Na (MI ⟨b,10,MH⟩)) hHeld ?_;simp only[Nr,MJ,ML,MM];refine awX 41 (Na (MI ⟨b,11,MH⟩)) hHeld ?_;simp only[Nr,MJ,ML,MM];refine awX 42 (yB (x11)) hHeld ?_;simp only[Nr,MJ,ML,MM];refine awX 43 (Na (MI ⟨b,10,MH⟩)) hHeld ?_;simp only[Nr,MJ,ML,MM];refine awX 44 (Na (MI ⟨b,12,MH⟩)) hHeld ?_;simp only[Nr,MJ,ML,MM];refine awX 45 (yB (x12)) hHeld ?_;simp only[Nr,MJ,ML,MM];refine awX 47 (Na (MI ⟨b,13,MH⟩)) hHeld ?_;simp only[Nr,MJ,ML,MM];refine awX 48 (Na (MI ⟨b,13,MH⟩)) hHeld ?_;simp only[Nr,MJ,ML,MM];refine awX 49 (yB (x13)) hHeld ?_;simp only[Nr,MJ,ML,MM];refine awX 50 (Na (MI ⟨b,13,MH⟩)) hHeld ?_;simp only[Nr,MJ,ML,MM];refine awX 51 (Na (MI ⟨b,14,MH⟩)) hHeld ?_;simp only[Nr,MJ,ML,MM];refine awX 52 (yB (x14)) hHeld ?_;simp only[Nr,MJ,ML,MM];refine awX 53 (Na (MI ⟨b,13,MH⟩)) hHeld ?_;simp only[Nr,MJ,ML,MM];refine awX 54 (Na (MI ⟨b,15,MH⟩)) hHeld ?_;simp only[Nr,MJ,ML,MM];refine awX 55 (yB (x15)) hHeld ?_;simp only[Nr,MJ,ML,MM];refine awX 56 (yB (x15.tmod 20)) hHeld ?_;simp only[Nr,MJ,ML,MM];refine yQ 2 fun K hK=>?_;go_simp;refine(G.out.1 _).mono ?_;rintro r u ⟨rfl,p⟩;subst p
 go_wp2_with fail
 refine hK.out _ _ hHeld (fun hHeld=>?_);clear hK K
 try simp only[Nr,MJ,ML,MM]
 refine awX 3 (yB (1+(f:Int))) hHeld ?_;simp only[Nr,MJ,ML,MM];refine yQ 10 fun K hK=>?_;go_simp;refine(G.out.2.1 _).mono ?_;rintro r u ⟨rfl,p⟩;subst p
 go_wp2_with fail
 refine hK.out _ _ hHeld (fun hHeld=>?_);clear hK K
 try simp only[Nr,MJ,ML,MM]
 refine awX 11 (yB (1+(a:Int)+(n:Int))) hHeld ?_;simp only[Nr,MJ,ML,MM];refine yQ 15 fun K hK=>?_;go_simp;refine(G.out.2.2.2.1 _).mono ?_;rintro r u ⟨rfl,p⟩;subst p
 go_wp2_with fail
 refine hK.out _ _ hHeld (fun hHeld=>?_);clear hK K
 try simp only[Nr,MJ,ML,MM]
 refine yQ 18 fun K hK=>?_;go_simp;refine(G.out.2.2.2.2.1 _).mono ?_;rintro r u ⟨rfl,p⟩;subst p
 go_wp2_with fail
 refine hK.out _ _ hHeld (fun hHeld=>?_);clear hK K
 try simp only[Nr,MJ,ML,MM]
 refine yQ 21 fun K hK=>?_;go_simp;refine(G.out.2.2.2.2.2.1 _).mono ?_;rintro r u ⟨rfl,p⟩;subst p
 go_wp2_with fail
 refine hK.out _ _ hHeld (fun hHeld=>?_);clear hK K
 try simp only[Nr,MJ,ML,MM]
 refine awX 22 (yB (1+(i:Int))) hHeld ?_;simp only[Nr,MJ,ML,MM];refine yQ 25 fun K hK=>?_;go_simp;refine(G.out.2.2.2.2.2.2.1 _).mono ?_;rintro r u ⟨rfl,p⟩;subst p
 go_wp2_with fail
 refine hK.out _ _ hHeld (fun hHeld=>?_);clear hK K
 try simp only[Nr,MJ,ML,MM]
 refine awX 26 (yB (1+(d:Int))) hHeld ?_;simp only[Nr,MJ,ML,MM];refine yQ 29 fun K hK=>?_;go_simp;refine(G.out.2.2.2.2.2.2.2.1 _).mono ?_;rintro r u ⟨rfl,p⟩;subst p
 go_wp2_with fail
 refine hK.out _ _ hHeld (fun hHeld=>?_);clear hK K
 try simp only[Nr,MJ,ML,MM]
 refine awX 30 (yB (1+(m:Int))) hHeld ?_;simp only[Nr,MJ,ML,MM];refine yQ 33 fun K hK=>?_;go_simp;refine(G.out.2.2.2.2.2.2.2.2.1 _).mono ?_;rintro r u ⟨rfl,p⟩;subst p
 go_wp2_with fail
 refine hK.out _ _ hHeld (fun hHeld=>?_);clear hK K
 try simp only[Nr,MJ,ML,MM]
 refine yQ 36 fun K hK=>?_;go_simp;refine(G.out.2.2.2.2.2.2.2.2.2 _).mono ?_;rintro r u ⟨rfl,p⟩;subst p
 go_wp2_with fail
 refine hK.out _ _ hHeld (fun hHeld=>?_);clear hK K
 try simp only[Nr,MJ,ML,MM]
 refine yQ 46 fun K hK=>?_;go_simp;refine(HB.out _).mono ?_;rintro r u2 ⟨rfl,d1⟩;have V:=Y.trans (d1.mono Y.size);clear d1
 go_wp2_with fail
 refine hK.out _ _ (HS.out _ V) (fun hHeld=>?_);clear hK K
 try simp only[Nr,MJ,ML,MM]
 refine yQ 57 fun K hK=>?_;go_simp;refine(HW.out _).mono ?_;rintro r U ⟨rfl,c6⟩;have O:=V.trans (c6.mono V.size);clear c6
 go_wp2_with fail
 refine hK.out _ _ (HS.out _ O) (fun hHeld=>?_);clear hK K
 try simp only[Nr,MJ,ML,MM]
 refine awX 58 (Ny #[yB (1+(f:Int)),yB (1+(a:Int)+(n:Int)),yB (1+(a:Int)),yB ((x:Int)),yB ((y:Int)),yB (1+(i:Int)),yB (1+(d:Int)),yB (1+(m:Int)),yB ((s:Int)),yB ((E:Int)),yB ((B:Int)),yB ((F:Int)),yB ((D:Int)),yB ((C:Int)),yB ((wf:Int)),yB ((A:Int))]) hHeld ?_;simp only[Nr,MJ,ML,MM];simp only[MZ,MT,MS,ML,MM];have I:=WO H.out.2.2.1 O;have c3:=H.out.1.trans (O.mono H.out.1.size);have c9:=aeU (cs:=[yB Xv.flows,yB Xv.num,yB Xv.den,yB Xv.tries,yB Xv.warm,yB Xv.drain,yB Xv.idle,yB Xv.conn,yB Xv.ret,yB Xv.most,yB Xv.bn,yB Xv.bd,yB Xv.bb,yB Xv.wn,yB Xv.wf,yB Xv.wh]) I;have c4:=alv (cs:=[yB Xv.flows,yB Xv.num,yB Xv.den,yB Xv.tries,yB Xv.warm,yB Xv.drain,yB Xv.idle,yB Xv.conn,yB Xv.ret,yB Xv.most,yB Xv.bn,yB Xv.bd,yB Xv.bb,yB Xv.wn,yB Xv.wf,yB Xv.wh]) (vs:=[yB (1+(f:Int)),yB (1+(a:Int)+(n:Int)),yB (1+(a:Int)),yB ((x:Int)),yB ((y:Int)),yB (1+(i:Int)),yB (1+(d:Int)),yB (1+(m:Int)),yB ((s:Int)),yB ((E:Int)),yB ((B:Int)),yB ((F:Int)),yB ((D:Int)),yB ((C:Int)),yB ((wf:Int)),yB ((A:Int))]) I rfl;have Z:=adp c3 H.out.2.2.2.2.2.2 0 [yB (1+(f:Int)),yB (1+(a:Int)+(n:Int)),yB (1+(a:Int)),yB ((x:Int)),yB ((y:Int)),yB (1+(i:Int)),yB (1+(d:Int)),yB (1+(m:Int)),yB ((s:Int)),yB ((E:Int)),yB ((B:Int)),yB ((F:Int)),yB ((D:Int)),yB ((C:Int)),yB ((wf:Int)),yB ((A:Int))] c3.size;obtain⟨j,R⟩:=yE (U.setCells g 0 [yB (1+(f:Int)),yB (1+(a:Int)+(n:Int)),yB (1+(a:Int)),yB ((x:Int)),yB ((y:Int)),yB (1+(i:Int)),yB (1+(d:Int)),yB (1+(m:Int)),yB ((s:Int)),yB ((E:Int)),yB ((B:Int)),yB ((F:Int)),yB ((D:Int)),yB ((C:Int)),yB ((wf:Int)),yB ((A:Int))]);rw[<-R]at c4 Z;have HZ:M6 (_/\_):=⟨c4,Z⟩;clear c4 Z I c3;have c7:j.cell? ⟨b,0,MH⟩=MI (yB x0)/\j.cell? ⟨b,1,MH⟩=MI (yB x1)/\j.cell? ⟨b,2,MH⟩=MI (yB x2)/\j.cell? ⟨b,3,MH⟩=MI (yB x3)/\j.cell? ⟨b,4,MH⟩=MI (yB x4)/\j.cell? ⟨b,5,MH⟩=MI (yB x5)/\j.cell? ⟨b,6,MH⟩=MI (yB x6)/\j.cell? ⟨b,7,MH⟩=MI (yB x7)/\j.cell? ⟨b,8,MH⟩=MI (yB x8)/\j.cell? ⟨b,9,MH⟩=MI (yB x9)/\j.cell? ⟨b,10,MH⟩=MI (yB x10)/\j.cell? ⟨b,11,MH⟩=MI (yB x11)/\j.cell? ⟨b,12,MH⟩=MI (yB x12)/\j.cell? ⟨b,13,MH⟩=MI (yB x13)/\j.cell? ⟨b,14,MH⟩=MI (yB x14)/\j.cell? ⟨b,15,MH⟩=MI (yB x15):=by
  rw[R];have d9:b≠g:=by rw[H.out.2.2.2.2.1,H.out.2.2.2.2.2.1];omega
  have e0:b<U.heap.size:=(ahY (WO H.out.2.1 O)).2.2.2.2.2.2.2.2.2.2.2.2.2.2.2.2;have q:∀k v,U.cell? ⟨b,k,MH⟩=MI v->(U.setCells g 0 [yB (1+(f:Int)),yB (1+(a:Int)+(n:Int)),yB (1+(a:Int)),yB ((x:Int)),yB ((y:Int)),yB (1+(i:Int)),yB (1+(d:Int)),yB (1+(m:Int)),yB ((s:Int)),yB ((E:Int)),yB ((B:Int)),yB ((F:Int)),yB ((D:Int)),yB ((C:Int)),yB ((wf:Int)),yB ((A:Int))]).cell? ⟨b,k,MH⟩=MI v:=fun k v h=>(NG (N8 _ _ _ _ e0 d9)).trans h
  obtain⟨s0,s1,s2,s3,s4,s5,s6,s7,s8,s9,d4,d8,e4,d7,e7,e5⟩:=hHeld;exact⟨q _ _ s0,q _ _ s1,q _ _ s2,q _ _ s3,q _ _ s4,q _ _ s5,q _ _ s6,q _ _ s7,q _ _ s8,q _ _ s9,q _ _ d4,q _ _ d8,q _ _ e4,q _ _ d7,q _ _ e7,q _ _ e5⟩
 refine yQ 59 fun K hK=>?_;rw[Nh (by rfl)];refine wp_store_mid _ _ _ rfl _ _ #[yB (1+(f:Int)),yB (1+(a:Int)+(n:Int)),yB (1+(a:Int)),yB ((x:Int)),yB ((y:Int)),yB (1+(i:Int)),yB (1+(d:Int)),yB (1+(m:Int)),yB ((s:Int)),yB ((E:Int)),yB ((B:Int)),yB ((F:Int)),yB ((D:Int)),yB ((C:Int)),yB ((wf:Int)),yB ((A:Int))] rfl rfl c9 (by kernel_rfl) (arf [1+(f:Int),1+(a:Int)+(n:Int),1+(a:Int),(x:Int),(y:Int),1+(i:Int),1+(d:Int),1+(m:Int),(s:Int),(E:Int),(B:Int),(F:Int),(D:Int),(C:Int),(wf:Int),(A:Int)]) ?_;rw[show RW (#[yB (1+(f:Int)),yB (1+(a:Int)+(n:Int)),yB (1+(a:Int)),yB ((x:Int)),yB ((y:Int)),yB (1+(i:Int)),yB (1+(d:Int)),yB (1+(m:Int)),yB ((s:Int)),yB ((E:Int)),yB ((B:Int)),yB ((F:Int)),yB ((D:Int)),yB ((C:Int)),yB ((wf:Int)),yB ((A:Int))]:Array M7)=[yB (1+(f:Int)),yB (1+(a:Int)+(n:Int)),yB (1+(a:Int)),yB ((x:Int)),yB ((y:Int)),yB (1+(i:Int)),yB (1+(d:Int)),yB (1+(m:Int)),yB ((s:Int)),yB ((E:Int)),yB ((B:Int)),yB ((F:Int)),yB ((D:Int)),yB ((C:Int)),yB ((wf:Int)),yB ((A:Int))]from rfl,<-R];refine hK.out _ _ c7 (fun hHeld=>?_);clear hK K R c7 c9
 try simp only[Nr,MJ,ML,MM]
 refine PS (by kernel_rfl) ?_ _;go_wp2
 try simp only[Nr,MJ,ML,MM]
 exact Np (v:=Ny #[yB (1+(f:Int)),yB (1+(a:Int)+(n:Int)),yB (1+(a:Int)),yB ((x:Int)),yB ((y:Int)),yB (1+(i:Int)),yB (1+(d:Int)),yB (1+(m:Int)),yB ((s:Int)),yB ((E:Int)),yB ((B:Int)),yB ((F:Int)),yB ((D:Int)),yB ((C:Int)),yB ((wf:Int)),yB ((A:Int))]) (Z2 Tryz.results11 rfl (Xp (P:=MK) (cs:=[yB (1+(f:Int)),yB (1+(a:Int)+(n:Int)),yB (1+(a:Int)),yB ((x:Int)),yB ((y:Int)),yB (1+(i:Int)),yB (1+(d:Int)),yB (1+(m:Int)),yB ((s:Int)),yB ((E:Int)),yB ((B:Int)),yB ((F:Int)),yB ((D:Int)),yB ((C:Int)),yB ((wf:Int)),yB ((A:Int))]) HZ.out.1 RC rfl (by kernel_rfl))) rfl ⟨rfl,HZ.out.2⟩
end
section
variable {v:MO}
abbrev agQ(e:Ev):Value:=Ny #[yB e.kind,yB e.key,yB e.slot,yB e.gen,M3 e.good,yB e.req,yB e.be,yB e.wt]
theorem au9{k:Int}(h:0<=k/\k<100):Yk ⟨1,k,0,0,Nb,0,0,0⟩=0:=by
 simp[Yk,Zz,Ev.GZ,Ev.num,Ev.GE,Ev.Gc,Ev.Gd,Ev.Hi];omega
theorem ajh{k s g:Int}{x:Bool}(hk:(k=2\/k=3)/\x=Nb\/k=4)(h:0<=s/\s<40)(h2:0<=g/\g<=1048575):Yk ⟨k,0,s,g,x,0,0,0⟩=0:=by
 rcases hk with⟨rfl|rfl,rfl⟩|rfl
 all_goals (simp[Yk,Zz,Ev.GZ,Ev.num,Ev.GE,Ev.Gc,Ev.Gd,Ev.Hi];try (cases x <;> simp))
 all_goals omega
theorem anu{r b w:Int}(h:0<=r/\r<=2000)(h2:0<=b/\b<5)(h3:1<=w/\w<=8):Yk ⟨5,0,0,0,Nb,r,b,w⟩=0:=by
 simp[Yk,Zz,Ev.GZ,Ev.num,Ev.GE,Ev.Gc,Ev.Gd,Ev.Hi];omega
theorem ava{r b:Int}(h:0<=r/\r<=2000)(h2:0<=b/\b<5):Yk ⟨6,0,0,0,Nb,r,b,0⟩=0:=by
 simp[Yk,Zz,Ev.GZ,Ev.num,Ev.GE,Ev.Gc,Ev.Gd,Ev.Hi];omega
theorem anv:Yk ⟨7,0,0,0,Nb,0,0,0⟩=0:=by decide
theorem acd(n:Int)(h:-9223372036854775808<=n/\n<=9223372036854775807)(m:Nat)(i:Int)(hm:0<m/\m<=1000000/\i=m):∃k:Nat,k<m/\∀W,Ni MK 34 #[yB n,yB i] W fun r w'=>r=MN (yB (k:Int))/\w'=W:=by
 refine⟨ZN n m,af9 _ _ hm.1,fun W=>?_⟩;rw[hm.2.2];have:=arb n m W h.1 h.2 (by omega) (by omega);rwa[NR]at this
structure Xh(w u:MO)(D:Nat)(k a b c s n:Int):Prop where
 at_:D=w.heap.size
 bel:yA w u
 deed:u.heap[D]?=MI (MP #[yB k,yB a,yB b,yB c] 85 (0,0))
 ev:u.heap[D+1]?=MI (MP #[yB 0,yB 0,yB 0,yB 0,M3 Nb,yB 0,yB 0,yB 0] 61 (0,0))
 hd:u.heap[D+2]?=MI (MP #[yB s,yB n] 134 (0,0))
 ok:(0<=s/\s<40)/\0<=n/\n<=1048575
theorem Xh.Gg{w u:MO}{D:Nat}{k a b c s n:Int}(h:Xh w u D k a b c s n):u.cell? ⟨D,0,MH⟩=MI (yB k)/\u.cell? ⟨D,1,MH⟩=MI (yB a)/\u.cell? ⟨D,2,MH⟩=MI (yB b)/\u.cell? ⟨D,3,MH⟩=MI (yB c)/\u.cell? ⟨D+2,0,MH⟩=MI (yB s)/\u.cell? ⟨D+2,1,MH⟩=MI (yB n)/\D+2<u.heap.size :=
 ⟨by simp[Nl,h.deed],by simp[Nl,h.deed],by simp[Nl,h.deed],by simp[Nl,h.deed],by simp[Nl,h.hd],by simp[Nl,h.hd],(ZAa.1 h.hd).1⟩
theorem Xh.Md{w u:MO}{D:Nat}{k a b c s n:Int}(h:Xh w u D k a b c s n):(u.cell? ⟨D+1,0,MH⟩=MI (yB 0)/\u.cell? ⟨D+1,1,MH⟩=MI (yB 0)/\u.cell? ⟨D+1,2,MH⟩=MI (yB 0)/\u.cell? ⟨D+1,3,MH⟩=MI (yB 0)/\u.cell? ⟨D+1,4,MH⟩=MI (M3 Nb)/\u.cell? ⟨D+1,5,MH⟩=MI (yB 0)/\u.cell? ⟨D+1,6,MH⟩=MI (yB 0)/\u.cell? ⟨D+1,7,MH⟩=MI (yB 0))/\∀i,u.frozen? ⟨D+1,i,MH⟩=false :=
 ⟨⟨by simp[Nl,h.ev],by simp[Nl,h.ev],by simp[Nl,h.ev],by simp[Nl,h.ev],by simp[Nl,h.ev],by simp[Nl,h.ev],by simp[Nl,h.ev],by simp[Nl,h.ev]⟩,fun i=>by simp[Ng,h.ev]⟩
abbrev ZY(e:Ev):List Value:=[yB e.kind,yB e.key,yB e.slot,yB e.gen,M3 e.good,yB e.req,yB e.be,yB e.wt]
theorem ajg(e:Ev):(ZY e).toArray.all (·.oneCell')=true:=by
 apply OE;intro u a;simp only[OO,OD,or_false]at a;rcases a with rfl|rfl|rfl|rfl|rfl|rfl|rfl|rfl <;> rfl
abbrev ant:List Value:=[yB 0,yB 0,yB 0,yB 0,M3 Nb,yB 0,yB 0,yB 0]
theorem ajk:(MK.info? 61).map (·.size)=MI 8:=by kernel_rfl
theorem ajf{w:MO}{D:Nat}{k a b c s n:Int}(h:Xh w v D k a b c s n)(e:Ev):v.there (D+1) 0 (ZY e).toArray.size:=aeU (cs:=ant) h.ev
theorem ac9{w:MO}{D:Nat}{k a b c s n:Int}(h:Xh w v D k a b c s n)(e:Ev){B i:Nat}{x:M7}(hc:v.cell? ⟨B,i,MH⟩=MI x)(hne:B≠D+1):(v.setCells (D+1) 0 (ZY e)).cell? ⟨B,i,MH⟩=MI x :=
 (NG (N8 v (D+1) 0 _ (MX v ⟨B,i,MH⟩ hc) hne)).trans hc
theorem adL{w:MO}{D:Nat}{k a b c s n:Int}{tm:Array M7}(h:Xh w v D k a b c s n)(e:Ev)(hf:Yk e=0)(hr:e.req<2000)(h4:tm.getD 4 PL=Na (MI ⟨D+1,0,MH⟩)):
  bodyPost MK Tryz.f14 (fun r w'=>∃e,(Yk e=0/\e.req<2000)/\r=MN (agQ e)/\yA w w') Exit.ret {tmps:=tm,defers:=[]} (v.setCells (D+1) 0 (ZY e)):=by
 have d:(v.setCells (D+1) 0 (ZY e)).heap[D+1]?=MI (MP (ZY e).toArray 61 (0,0)):=ac0 61 (D+1) (ZY e) [] ant v rfl h.ev;have f:yA w (v.setCells (D+1) 0 (ZY e)):=adp h.bel (by have:=h.at_;omega) 0 _ h.bel.size;exact Np (v:=agQ e) (Z2 Tryz.results14 h4 (Xp (P:=MK) (cs:=ZY e) d aAq rfl (by kernel_rfl))) rfl ⟨e,⟨hf,hr⟩,rfl,f⟩
theorem Xh.GY{w:MO}{D:Nat}{k a b c s n:Int}(h:Xh w v D k a b c s n):Xh w v.drew D k a b c s n:=⟨h.at_,h.bel.drew,h.deed,h.ev,h.hd,h.ok⟩
theorem ajn{P:O8}{md:Region.Mode}{ops:Array Oper}{Q:Exit->Act->MO->Prop}{S:MO->Prop}{fuel:Nat}{listed:Array Bool}{a:Act}{w:MO}{i:Nat}{o:Oper}(ho:ops[i]?=MI o)(hg:o.guard=MH)(ty:NU)(x y:Operand)(hop:o.op=.store ty x y)
  (b off:Nat) (cells:Array M7) (hx:a.eval x=Na (MI ⟨b,off,MH⟩)) (hy:a.eval y=Ny cells) (ht:w.there b off cells.size) (hi:(P.info? ty).map (·.size)=MI cells.size) (h1:cells.all (·.oneCell')=Nw) (hS:S (w.setCells b off cells.toList))
  (h:wpAnyH P md ops Q S fuel (listed.setIfInBounds i Nw) (a.put o.dst PL) (w.setCells b off cells.toList)):AllReadyH P md ops Q S fuel listed a w [i]:=by
 refine NP ho (fun K hK=>?_) NX;rw[Nh (by unfold Pz;rw[hg])];exact wp_store_mid ty x y hop b off cells hx hy ht hi h1 (hK.out _ _ hS (fun _=>h))
theorem awW{P:O8}{md:Region.Mode}{ops:Array Oper}{Q:Exit->Act->MO->Prop}{S:MO->Prop}(i:Nat)(v:M7){oi:Oper}{fuel:Nat}{listed:Array Bool}{a:Act}{w:MO}(hS:S w)
  (h:wpAnyH P md ops Q S fuel (listed.setIfInBounds i Nw) (a.put oi.dst v) w) (hi:ops[i]?=MI oi:=by rfl) (hs:Region.noSelect ops=true:=by kernel_rfl) (hf:Region.free md ops listed i=true:=by kernel_rfl) (hr:(Region.ready md ops listed).contains i=true:=by kernel_rfl)
  (hQ:∀c a w,Q (.panic c) (a.put oi.dst v) w->Q (.panic c) a w:=by exact fun _ _ _ h=>h) (hy:YieldsIf P ops S oi v a:=by exact Or.inl ⟨by rfl,fun X hSw=>by go_simp⟩):wpAnyH P md ops Q S (fuel+1) listed a w :=
 ND hi hs hf hr hQ hy hS h
theorem au8{w:MO}{g:Nat}{pg:Option Oc}{cg:Nat}{l:List (Int×Int)}(c43:w.cell? ⟨g,43,MH⟩=MI (MG pg l.length cg))(hg:g<w.heap.size)(hl:l.length<=1000000)
  (hrow:∀i (hi:i<l.length),∃b o,pg=MI ⟨b,o,MH⟩/\b<w.heap.size/\w.cell? ⟨b,o+i*2,MH⟩=MI (yB l[i].1)/\w.cell? ⟨b,o+i*2+1,MH⟩=MI (yB l[i].2))
  (hok:∀x∈l,(0<=x.1/\x.1<40)/\0<=x.2/\x.2<=1048575) (k a b c:Int) (wk:-9223372036854775808<=k/\k<=9223372036854775807) (wa:-9223372036854775808<=a/\a<=9223372036854775807) (wb:-9223372036854775808<=b/\b<=9223372036854775807) (wc:-9223372036854775808<=c/\c<=9223372036854775807) :
  Ni MK 14 #[Na (MI ⟨g,0,MH⟩),Ny #[yB k,yB a,yB b,yB c]] w fun r w'=>∃e,(Yk e=0/\e.req<2000)/\r=MN (agQ e)/\yA w w':=by
 obtain⟨k1,b1,p1⟩:=acd a wa 8 8 (by decide);obtain⟨k2,b2,p2⟩:=acd b wb 3 3 (by decide);have HP:M6 (_/\_):=⟨p1,p2⟩;have HB:M6 (_/\_):=⟨b1,b2⟩;have Y:M6 (_/\_/\_/\_):=⟨hg,hl,hrow,hok⟩;have HC:M6 _:=c43;have R:M6 (_/\_/\_/\_):=⟨wk,wa,wb,wc⟩;clear c43 hg hl hrow hok wk wa wb wc p1 p2 b1 b2;obtain⟨W,hW⟩:=yE ((w.alloc (MP #[yB k,yB a,yB b,yB c] 85)).alloc (MP #[yB 0,yB 0,yB 0,yB 0,M3 Nb,yB 0,yB 0,yB 0] 61));go_enter Tryz.func14,Tryz.ntmps14
 go_wp2_with fail
 rw[<-hW];obtain⟨D,U⟩:=yE w.heap.size;rw[<-U];have c2:yA w W:=by rw[hW];exact((MY _ _).alloc (MV _) _).alloc (by simp) _
 have a9:W.heap.size=D+2:=by rw[hW,U];simp
 have a7:(w.alloc (MP #[yB k,yB a,yB b,yB c] 85)).heap.size=D+1:=by rw[U];simp
 have a1:W.heap[D]?=MI (MP #[yB k,yB a,yB b,yB c] 85 (0,0)):=by
  rw[hW,(WQ _).block D (by rw[a7];omega),U];exact M1 _ _
 have c4:W.heap[D+1]?=MI (MP #[yB 0,yB 0,yB 0,yB 0,M3 Nb,yB 0,yB 0,yB 0] 61 (0,0)):=by
  rw[hW,<-a7];exact M1 _ _
 have P:M6 (_/\_/\_/\_/\_):=⟨U,c2,a1,c4,a9⟩;have a3:D<W.heap.size:=by rw[a9];omega
 clear hW U c2 a7;have C:W.cell? ⟨D,1,MH⟩=MI (yB a):=by simp[Nl,a1]
 have B:W.cell? ⟨D,2,MH⟩=MI (yB b):=by simp[Nl,a1]
 have n1:=World.new_ne W ⟨D,1,MH⟩ C;have n2:=World.new_ne W ⟨D,2,MH⟩ B;clear a1 c4 a9;apply aan
 ·intro a5
  go_region_held3 (fun X=>X.cell? ⟨D,1,MH⟩=MI (yB a)/\X.cell? ⟨D,2,MH⟩=MI (yB b)) (first|exact⟨C,B⟩|go_keep) (first|(go_at_call 34;first|(refine(HP.out.1 _).mono ?_;rintro r w4 ⟨rfl,rfl⟩)|(refine(HP.out.2 _).mono ?_;rintro r w4 ⟨rfl,rfl⟩)))
  all_goals exact a5.out
 ·obtain⟨u,hu⟩:=yE ((W.alloc (MP #[yB (k1:Int),yB (k2:Int)] 134)).drew)
  have a2:yA W u:=by rw[hu];exact(WQ W).drew
  have hE:Xh w u D k a b c k1 k2:=by
   refine⟨P.out.1,P.out.2.1.trans (a2.mono P.out.2.1.size),(a2.block _ a3).trans P.out.2.2.1,(a2.block _ (by rw[P.out.2.2.2.2];omega)).trans P.out.2.2.2.1,?_,⟨by omega,by have:=HB.out.1;omega⟩,by omega,by have:=HB.out.2;omega⟩;rw[hu,<-P.out.2.2.2.2];exact M1 _ _
  have c3:W.heap.size=D+2:=P.out.2.2.2.2;rw[<-hu,c3];have q:M6 _:=hE;have c43:u.cell? ⟨g,43,MH⟩=MI (MG pg l.length cg):=(hE.bel.cell (p:=⟨g,43,MH⟩) Y.out.1).trans HC.out;have d3:u.cell? ⟨D,3,MH⟩=MI (yB c):=hE.Gg.2.2.2.1;obtain⟨k3,b3,p3⟩:=acd c R.out.2.2.2 9 9 (by decide);have N:M6 (_/\_):=⟨p3,b3⟩;have c8:g<u.heap.size:=M8 Y.out.1 hE.bel.size;clear hu a2 hE c3 C B n1 n2 a3 p3 b3;obtain⟨m,hm⟩:=yE l.length;rw[<-hm]at c43;have HM:M6 _:=hm;clear hm;have d5:=q.out.Gg;obtain⟨d0,C,B,_,Z,V,a3⟩:=d5;have z0:u.frozen? ⟨D+2,0,MH⟩=false:=by simp[Ng,q.out.hd]
  have z1:u.frozen? ⟨D+2,1,MH⟩=false:=by simp[Ng,q.out.hd]
  have a4:(0<m/\0<k3)\/(0<m/\¬0<k3)\/¬0<m:=by omega
  obtain⟨d,b4,p4⟩:=acd k R.out.1 20 20 (by decide);obtain⟨k6,b6,p6⟩:=acd a R.out.2.1 100 100 (by decide);obtain⟨k7,b7,p7⟩:=acd b R.out.2.2.1 2 2 (by decide);obtain⟨I,b8,p8⟩:=acd a R.out.2.1 30 30 (by decide);obtain⟨O,b9,p9⟩:=acd b R.out.2.2.1 5 5 (by decide);obtain⟨kc,bc,pc⟩:=acd c R.out.2.2.2 8 8 (by decide);have n:M6 (_/\_/\_/\_/\_/\_):=⟨p4,p6,p7,p8,p9,pc⟩;have J:M6 (_/\_/\_/\_/\_/\_):=⟨b4,b6,b7,b8,b9,bc⟩;clear p4 p6 p7 p8 p9 pc b4 b6 b7 b8 b9 bc;rcases a4 with a4|a4|a4
  case' inl =>
   have a6:(0:Int)<(m:Int):=by omega
   have c1:(0:Int)<(k3:Int):=by omega
   obtain⟨k5,b5,p5⟩:=acd a R.out.2.1 (min m 8) (min (m:Int) 8) (by omega);obtain⟨j,hj⟩:∃j:Nat,j=m-1-k5:=⟨_,rfl⟩;have c9:m<=1000000:=by rw[HM.out];exact Y.out.2.1
   have b0:j<l.length:=by rw[<-HM.out];omega
   have w1:IntKind.i64.wrap ((m:Int)-1)=(m:Int)-1:=abk (by omega) (by omega);have w2:IntKind.i64.wrap ((m:Int)-1-(k5:Int))=(j:Int):=by rw[abk (by omega) (by omega)];omega
   have d6:(j:Int)<(m:Int):=by omega
   have c7:(0:Int)<=(j:Int):=by omega
   obtain⟨M,oo,d4,a8,r1,r2⟩:=Y.out.2.2.1 j b0;have hok:=Y.out.2.2.2 _ (Nk b0);obtain⟨x,hx⟩:=yE (l[j]);rw[<-hx]at r1 r2 hok;have f1:u.cell? ⟨M,oo+j*2,MH⟩=MI (yB x.1):=(q.out.bel.cell (p:=⟨M,oo+j*2,MH⟩) a8).trans r1;have f2:u.cell? ⟨M,oo+j*2+1,MH⟩=MI (yB x.2):=(q.out.bel.cell (p:=⟨M,oo+j*2+1,MH⟩) a8).trans r2;have c6:min (m:Int) 8<=m:=by omega
   have H5:M6 (_/\_/\_):=⟨p5,b5,hok⟩;have q1:g≠D+2:=by have:=Y.out.1;have:=q.out.at_;omega
   have q2:M≠D+2:=by have:=q.out.at_;omega
   clear p5 hx hok r1 r2 b0 a8 hj c9;subst d4
   go_wp2_with (go_at_call 34;refine(N.out.1 _).mono ?_;rintro r w4 ⟨rfl,rfl⟩)
   apply aan
   focus
    intro a5
    go_region_held3 (fun X=>X.cell? ⟨g,43,MH⟩=MI (MG (MI ⟨M,oo,MH⟩) m cg)/\X.cell? ⟨D,1,MH⟩=MI (yB a)/\X.cell? ⟨M,oo+j*2,MH⟩=MI (yB x.1)/\X.cell? ⟨M,oo+j*2+1,MH⟩=MI (yB x.2)) (first|exact⟨c43,C,f1,f2⟩|(simp[*,World.cell?_setCell_far,Pi q1,Pi q2])) (first|(go_at_call 34;refine(H5.out.1 _).mono ?_;rintro r w4 ⟨rfl,rfl⟩))
    all_goals exact a5.out
   obtain⟨v,hv⟩:=yE (((w4.setCell ⟨D+2,0,MH⟩ (yB x.1)).setCell ⟨D+2,1,MH⟩ (yB x.2)).drew);have E:Xh w v D k a b c x.1 x.2:=by
    have c0:∀y,y≠D+2->v.heap[y]?=w4.heap[y]?:=fun y e=>by rw[hv];exact(MU _ _ _ _ (fun e2=>e e2)).trans (MU _ _ _ _ (fun e2=>e e2))
    refine⟨q.out.at_,?_,(c0 _ (by omega)).trans q.out.deed,(c0 _ (by omega)).trans q.out.ev,?_,H5.out.2.2⟩
    ·rw[hv]
     have c5:w.heap.size<=D+2:=by have:=q.out.at_;omega
     exact((q.out.bel.setCell (p:=⟨D+2,0,MH⟩) c5 _).setCell (p:=⟨D+2,1,MH⟩) c5 _).drew
    ·rw[hv]
     exact acb q.out.hd
   have HS:M6 _:=E;rw[<-hv];clear hv E q f1 f2 d0 C B d3 Z V z0 z1 c43 c6 d6 c7 w1 w2 q1 q2 c8 a3 a6 c1
  case' inr.inl =>
   have a6:(0:Int)<(m:Int):=by omega
   have c1:¬(0:Int)<(k3:Int):=by omega
   have HS:M6 _:=q.out;clear q d0 C B Z V z0 z1
  case' inr.inr =>
   have a6:¬(0:Int)<(m:Int):=by omega
   have HS:M6 _:=q.out;clear q d0 C B Z V z0 z1
  all_goals
   obtain⟨A,z,s⟩:∃A z,M6 (Xh w _ D k a b c A z):=⟨_,_,HS⟩;clear HS;obtain⟨d0,C,B,e3,Z,V,d7⟩:=s.out.Gg;rcases(by omega:d<6\/d=6\/d=7\/(8<=d/\d<12)\/(12<=d/\d<14)\/d=14\/15<=d)with h4|h4|h4|h4|h4|h4|h4
   ·have t0:(d:Int)<6:=by omega
    obtain⟨⟨x0,x1,x2,x3,x4,x5,x6,x7⟩,yf⟩:=s.out.Md;have y0:=yf 0;have y1:=yf 1;have y2:=yf 2;have y3:=yf 3;have y4:=yf 4;have y5:=yf 5;have y6:=yf 6;have y7:=yf 7;clear yf
    go_wp2_with (go_at_call 34;first|(refine(N.out.1 _).mono ?_;rintro r f ⟨rfl,rfl⟩)|(refine(n.out.1 _).mono ?_;rintro r f ⟨rfl,rfl⟩)|(refine(n.out.2.1 _).mono ?_;rintro r f ⟨rfl,rfl⟩))
    exact adL s.out ⟨1,k6,0,0,Nb,0,0,0⟩ (au9 ⟨by omega,by have:=J.out.2.1;omega⟩) (show(0:Int)<2000 by decide) rfl
   ·have t0:¬(d:Int)<6:=by omega
    have t1:((d:Int) == 6)=true:=by simp;omega
    obtain⟨⟨x0,x1,x2,x3,x4,x5,x6,x7⟩,yf⟩:=s.out.Md;have y0:=yf 0;have y1:=yf 1;have y2:=yf 2;have y3:=yf 3;have y4:=yf 4;have y5:=yf 5;have y6:=yf 6;have y7:=yf 7;clear yf
    go_wp2_with (go_at_call 34;first|(refine(N.out.1 _).mono ?_;rintro r f ⟨rfl,rfl⟩)|(refine(n.out.1 _).mono ?_;rintro r f ⟨rfl,rfl⟩)|(refine(n.out.2.1 _).mono ?_;rintro r f ⟨rfl,rfl⟩))
    exact adL s.out ⟨2,0,A,z,Nb,0,0,0⟩ (ajh (Nt ⟨Nt rfl,rfl⟩) s.out.ok.1 s.out.ok.2) (show(0:Int)<2000 by decide) rfl
   ·have t0:¬(d:Int)<6:=by omega
    have t1:((d:Int) == 6)=false:=by simp;omega
    have t2:((d:Int) == 7)=true:=by simp;omega
    obtain⟨⟨x0,x1,x2,x3,x4,x5,x6,x7⟩,yf⟩:=s.out.Md;have y0:=yf 0;have y1:=yf 1;have y2:=yf 2;have y3:=yf 3;have y4:=yf 4;have y5:=yf 5;have y6:=yf 6;have y7:=yf 7;clear yf
    go_wp2_with (go_at_call 34;first|(refine(N.out.1 _).mono ?_;rintro r f ⟨rfl,rfl⟩)|(refine(n.out.1 _).mono ?_;rintro r f ⟨rfl,rfl⟩)|(refine(n.out.2.1 _).mono ?_;rintro r f ⟨rfl,rfl⟩))
    exact adL s.out ⟨3,0,A,z,Nb,0,0,0⟩ (ajh (Nt ⟨NF rfl,rfl⟩) s.out.ok.1 s.out.ok.2) (show(0:Int)<2000 by decide) rfl
   ·have t0:¬(d:Int)<6:=by omega
    have t1:((d:Int) == 6)=false:=by simp;omega
    have t2:((d:Int) == 7)=false:=by simp;omega
    have t3:(d:Int)<12:=by omega
    go_wp2_with (go_at_call 34;first|(refine(N.out.1 _).mono ?_;rintro r f ⟨rfl,rfl⟩)|(refine(n.out.1 _).mono ?_;rintro r f ⟨rfl,rfl⟩)|(refine(n.out.2.1 _).mono ?_;rintro r f ⟨rfl,rfl⟩))
    obtain⟨S,E,L⟩:∃S:MO->Prop,(∀X,S X->X.cell? ⟨D,2,MH⟩=MI (yB b)/\X.cell? ⟨D+2,0,MH⟩=MI (yB A)/\X.cell? ⟨D+2,1,MH⟩=MI (yB z))/\∀X,X.cell? ⟨D,2,MH⟩=MI (yB b)/\X.cell? ⟨D+2,0,MH⟩=MI (yB A)/\X.cell? ⟨D+2,1,MH⟩=MI (yB z)->S X:=⟨fun X=>X.cell? ⟨D,2,MH⟩=MI (yB b)/\X.cell? ⟨D+2,0,MH⟩=MI (yB A)/\X.cell? ⟨D+2,1,MH⟩=MI (yB z),fun _ h=>h,fun _ h=>h⟩;have t:M6 (Xh w _ D k a b c A z):=s.out.GY;obtain⟨G,F⟩:=yE (f.drew.setCells (D+1) 0 (ZY ⟨4,0,A,z,((k7:Int) == 0),0,0,0⟩));have a0:S G:=by rw[F];exact L _ ⟨ac9 t.out _ B (by omega),ac9 t.out _ Z (by omega),ac9 t.out _ V (by omega)⟩
    have H:M6 _:=F;clear F;refine O2 (S:=S) (by kernel_rfl) (L _ ⟨B,Z,V⟩) (fun hHeld=>?_);refine awW 0 (Na (MI ⟨D+2,0,MH⟩)) hHeld ?_;simp only[yZ];refine awW 1 (yB A) hHeld ?_ (hy:=Nt ⟨by rfl,fun X hSw=>by have T:=E X hSw;go_simp⟩);simp only[yZ];refine awW 2 (Na (MI ⟨D+2,1,MH⟩)) hHeld ?_;simp only[yZ];refine awW 3 (yB z) hHeld ?_ (hy:=Nt ⟨by rfl,fun X hSw=>by have T:=E X hSw;go_simp⟩);simp only[yZ];refine awW 4 (Na (MI ⟨D,2,MH⟩)) hHeld ?_;simp only[yZ];refine awW 5 (yB b) hHeld ?_ (hy:=Nt ⟨by rfl,fun X hSw=>by have T:=E X hSw;go_simp⟩);simp only[yZ];refine yQ 6 fun K hK=>?_;go_simp;refine Nd (n.out.2.2.1 _) ?_;rintro r w6 ⟨rfl,rfl⟩
    go_wp2_with fail
    refine hK.out _ _ hHeld (fun hHeld=>?_);clear hK K
    try simp only[yZ]
    refine awW 7 (M3 ((k7:Int) == 0)) hHeld ?_;simp only[yZ];refine awW 8 (Ny (ZY ⟨4,0,A,z,((k7:Int) == 0),0,0,0⟩).toArray) hHeld ?_;simp only[yZ];refine yR [9] ?_;refine ajn (i:=9) (o:=_) (by rfl) (by rfl) 61 (O6 4) (O6 85) (by rfl) (D+1) 0 (ZY ⟨4,0,A,z,((k7:Int) == 0),0,0,0⟩).toArray (by rfl) (by rfl) (ajf t.out _) ajk (ajg _) (by rw[NS,<-H.out];exact a0) ?_;rw[NS,<-H.out]
    try simp only[yZ]
    refine PS (by kernel_rfl) ?_ _
    go_wp2_with fail
    rw[H.out];exact adL t.out ⟨4,0,A,z,((k7:Int) == 0),0,0,0⟩ (ajh (NF rfl) s.out.ok.1 s.out.ok.2) (show(0:Int)<2000 by decide) rfl
   ·have t0:¬(d:Int)<6:=by omega
    have t1:((d:Int) == 6)=false:=by simp;omega
    have t2:((d:Int) == 7)=false:=by simp;omega
    have t3:¬(d:Int)<12:=by omega
    have t4:(d:Int)<14:=by omega
    go_wp2_with (go_at_call 34;first|(refine(N.out.1 _).mono ?_;rintro r f ⟨rfl,rfl⟩)|(refine(n.out.1 _).mono ?_;rintro r f ⟨rfl,rfl⟩)|(refine(n.out.2.1 _).mono ?_;rintro r f ⟨rfl,rfl⟩))
    have d8:IntKind.i64.wrap (1+(kc:Int))=1+kc:=abk (by omega) (by have:=J.out.2.2.2.2.2;omega);obtain⟨S,E,L⟩:∃S:MO->Prop,(∀X,S X->X.cell? ⟨D,1,MH⟩=MI (yB a)/\X.cell? ⟨D,2,MH⟩=MI (yB b)/\X.cell? ⟨D,3,MH⟩=MI (yB c))/\∀X,X.cell? ⟨D,1,MH⟩=MI (yB a)/\X.cell? ⟨D,2,MH⟩=MI (yB b)/\X.cell? ⟨D,3,MH⟩=MI (yB c)->S X:=⟨fun X=>X.cell? ⟨D,1,MH⟩=MI (yB a)/\X.cell? ⟨D,2,MH⟩=MI (yB b)/\X.cell? ⟨D,3,MH⟩=MI (yB c),fun _ h=>h,fun _ h=>h⟩;have t:M6 (Xh w _ D k a b c A z):=s.out.GY;obtain⟨G,F⟩:=yE (f.drew.setCells (D+1) 0 (ZY ⟨5,0,0,0,Nb,I,O,1+kc⟩));have a0:S G:=by rw[F];exact L _ ⟨ac9 t.out _ C (by omega),ac9 t.out _ B (by omega),ac9 t.out _ e3 (by omega)⟩
    have H:M6 _:=F;clear F;refine O2 (S:=S) (by kernel_rfl) (L _ ⟨C,B,e3⟩) (fun hHeld=>?_);refine awW 0 (Na (MI ⟨D,1,MH⟩)) hHeld ?_;simp only[yZ];refine awW 1 (yB a) hHeld ?_ (hy:=Nt ⟨by rfl,fun X hSw=>by have T:=E X hSw;go_simp⟩);simp only[yZ];refine awW 3 (Na (MI ⟨D,2,MH⟩)) hHeld ?_;simp only[yZ];refine awW 4 (yB b) hHeld ?_ (hy:=Nt ⟨by rfl,fun X hSw=>by have T:=E X hSw;go_simp⟩);simp only[yZ];refine awW 6 (Na (MI ⟨D,3,MH⟩)) hHeld ?_;simp only[yZ];refine awW 7 (yB c) hHeld ?_ (hy:=Nt ⟨by rfl,fun X hSw=>by have T:=E X hSw;go_simp⟩);simp only[yZ];refine yQ 2 fun K hK=>?_;go_simp;refine Nd (n.out.2.2.2.1 _) ?_;rintro r w6 ⟨rfl,rfl⟩
    go_wp2_with fail
    refine hK.out _ _ hHeld (fun hHeld=>?_);clear hK K
    try simp only[yZ]
    refine yQ 5 fun K hK=>?_;go_simp;refine Nd (n.out.2.2.2.2.1 _) ?_;rintro r w6 ⟨rfl,rfl⟩
    go_wp2_with fail
    refine hK.out _ _ hHeld (fun hHeld=>?_);clear hK K
    try simp only[yZ]
    refine yQ 8 fun K hK=>?_;go_simp;refine Nd (n.out.2.2.2.2.2 _) ?_;rintro r w6 ⟨rfl,rfl⟩
    go_wp2_with fail
    refine hK.out _ _ hHeld (fun hHeld=>?_);clear hK K
    try simp only[yZ]
    refine awW 9 (yB (1+(kc:Int))) hHeld ?_;simp only[yZ];refine awW 10 (Ny (ZY ⟨5,0,0,0,Nb,I,O,1+kc⟩).toArray) hHeld ?_;simp only[yZ];refine yR [11] ?_;refine ajn (i:=11) (o:=_) (by rfl) (by rfl) 61 (O6 4) (O6 99) (by rfl) (D+1) 0 (ZY ⟨5,0,0,0,Nb,I,O,1+kc⟩).toArray (by rfl) (by rfl) (ajf t.out _) ajk (ajg _) (by rw[NS,<-H.out];exact a0) ?_;rw[NS,<-H.out]
    try simp only[yZ]
    refine PS (by kernel_rfl) ?_ _
    go_wp2_with fail
    rw[H.out];exact adL t.out ⟨5,0,0,0,Nb,I,O,1+kc⟩ (anu ⟨by omega,by have:=J.out.2.2.2.1;omega⟩ ⟨by omega,by have:=J.out.2.2.2.2.1;omega⟩ ⟨by omega,by have:=J.out.2.2.2.2.2;omega⟩) (show(I:Int)<2000 by have:=J.out.2.2.2.1;omega) rfl
   ·have t0:¬(d:Int)<6:=by omega
    have t1:((d:Int) == 6)=false:=by simp;omega
    have t2:((d:Int) == 7)=false:=by simp;omega
    have t3:¬(d:Int)<12:=by omega
    have t4:¬(d:Int)<14:=by omega
    have t5:((d:Int) == 14)=true:=by simp;omega
    go_wp2_with (go_at_call 34;first|(refine(N.out.1 _).mono ?_;rintro r f ⟨rfl,rfl⟩)|(refine(n.out.1 _).mono ?_;rintro r f ⟨rfl,rfl⟩)|(refine(n.out.2.1 _).mono ?_;rintro r f ⟨rfl,rfl⟩))
    obtain⟨S,E,L⟩:∃S:MO->Prop,(∀X,S X->X.cell? ⟨D,1,MH⟩=MI (yB a)/\X.cell? ⟨D,2,MH⟩=MI (yB b))/\∀X,X.cell? ⟨D,1,MH⟩=MI (yB a)/\X.cell? ⟨D,2,MH⟩=MI (yB b)->S X:=⟨fun X=>X.cell? ⟨D,1,MH⟩=MI (yB a)/\X.cell? ⟨D,2,MH⟩=MI (yB b),fun _ h=>h,fun _ h=>h⟩;have t:M6 (Xh w _ D k a b c A z):=s.out.GY;obtain⟨G,F⟩:=yE (f.drew.setCells (D+1) 0 (ZY ⟨6,0,0,0,Nb,I,O,0⟩));have a0:S G:=by rw[F];exact L _ ⟨ac9 t.out _ C (by omega),ac9 t.out _ B (by omega)⟩
    have H:M6 _:=F;clear F;refine O2 (S:=S) (by kernel_rfl) (L _ ⟨C,B⟩) (fun hHeld=>?_);refine awW 0 (Na (MI ⟨D,1,MH⟩)) hHeld ?_;simp only[yZ];refine awW 1 (yB a) hHeld ?_ (hy:=Nt ⟨by rfl,fun X hSw=>by have T:=E X hSw;go_simp⟩);simp only[yZ];refine awW 3 (Na (MI ⟨D,2,MH⟩)) hHeld ?_;simp only[yZ];refine awW 4 (yB b) hHeld ?_ (hy:=Nt ⟨by rfl,fun X hSw=>by have T:=E X hSw;go_simp⟩);simp only[yZ];refine yQ 2 fun K hK=>?_;go_simp;refine Nd (n.out.2.2.2.1 _) ?_;rintro r w6 ⟨rfl,rfl⟩
    go_wp2_with fail
    refine hK.out _ _ hHeld (fun hHeld=>?_);clear hK K
    try simp only[yZ]
    refine yQ 5 fun K hK=>?_;go_simp;refine Nd (n.out.2.2.2.2.1 _) ?_;rintro r w6 ⟨rfl,rfl⟩
    go_wp2_with fail
    refine hK.out _ _ hHeld (fun hHeld=>?_);clear hK K
    try simp only[yZ]
    refine awW 6 (Ny (ZY ⟨6,0,0,0,Nb,I,O,0⟩).toArray) hHeld ?_;simp only[yZ];refine yR [7] ?_;refine ajn (i:=7) (o:=_) (by rfl) (by rfl) 61 (O6 4) (O6 109) (by rfl) (D+1) 0 (ZY ⟨6,0,0,0,Nb,I,O,0⟩).toArray (by rfl) (by rfl) (ajf t.out _) ajk (ajg _) (by rw[NS,<-H.out];exact a0) ?_;rw[NS,<-H.out]
    try simp only[yZ]
    refine PS (by kernel_rfl) ?_ _
    go_wp2_with fail
    rw[H.out];exact adL t.out ⟨6,0,0,0,Nb,I,O,0⟩ (ava ⟨by omega,by have:=J.out.2.2.2.1;omega⟩ ⟨by omega,by have:=J.out.2.2.2.2.1;omega⟩) (show(I:Int)<2000 by have:=J.out.2.2.2.1;omega) rfl
   ·have t0:¬(d:Int)<6:=by omega
    have t1:((d:Int) == 6)=false:=by simp;omega
    have t2:((d:Int) == 7)=false:=by simp;omega
    have t3:¬(d:Int)<12:=by omega
    have t4:¬(d:Int)<14:=by omega
    have t5:((d:Int) == 14)=false:=by simp;omega
    obtain⟨⟨x0,x1,x2,x3,x4,x5,x6,x7⟩,yf⟩:=s.out.Md;have y0:=yf 0;have y1:=yf 1;have y2:=yf 2;have y3:=yf 3;have y4:=yf 4;have y5:=yf 5;have y6:=yf 6;have y7:=yf 7;clear yf
    go_wp2_with (go_at_call 34;first|(refine(N.out.1 _).mono ?_;rintro r f ⟨rfl,rfl⟩)|(refine(n.out.1 _).mono ?_;rintro r f ⟨rfl,rfl⟩)|(refine(n.out.2.1 _).mono ?_;rintro r f ⟨rfl,rfl⟩))
    exact adL s.out ⟨7,0,0,0,Nb,0,0,0⟩ anv (show(0:Int)<2000 by decide) rfl
end
end Go.Proofs.YtbdpocjfnnojbaaGreatDoor.Q
