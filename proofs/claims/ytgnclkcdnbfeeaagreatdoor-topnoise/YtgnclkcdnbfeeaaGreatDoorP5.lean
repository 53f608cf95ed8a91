/-
  Contracts of the layers and of core, part 5. Conditions: as each theorem says.
-/
import Derived.Test.YtgnclkcdnbfeeaaGreatDoorP9
import Derived.Test.YtgnclkcdnbfeeaaGreatDoorP3
import Derived.Test.YtgnclkcdnbfeeaaGreatDoorP1
open Array renaming getElem?_eq_some_iff->ZAa,toList->RW
open Bool renaming false->Nb,true->Nw
open Decidable renaming decide->Nn
open Go renaming Addr->Oc,Calls->Ni,Program->O8,TypeId->NU,Value->M7,World->MO,maxLen->NE,undef->PL
open Go.Act renaming put->Nr
open Go.AllReadyH renaming cons->NP,nil->NX
open Go.Ending renaming returned->MN
open Go.IntKind renaming i64->ME
open Go.Lit renaming int->N6
open Go.Obj renaming cells->MP
open Go.Operand renaming tmp->O6
open Go.Proofs.Tryz renaming func24->Wc,func50->Tl,ntmps24->VS,ntmps50->S1,prog->MK,underlying33->OP,underlying35->Ph,underlying55->Lv,underlying60->azj
open Go.Region renaming wanted->Pz
open Go.RowKit renaming Below->MQ,Hid->M6
open Go.Value renaming agg->Ny,bool->M3,int->MF,pointer->Na,slice->MG,tuple->Nv
open Go.World renaming cell?->Nl,frozen?->Ng,heap_setCells_other->N8,setCell->Q4,setCells->Qd
open List renaming mem_map->ZAd,replicate->Nj
open Option renaming none->MH,some->MI
open Or renaming inl->Nt,inr->NF
namespace Go.Proofs.YtgnclkcdnbfeeaaGreatDoor.Q
set_option linter.unusedVariables false
set_option linter.unusedSimpArgs false
set_option maxHeartbeats 16000000
set_option maxRecDepth 100000
open Go.RowKit
attribute [local go_sem ↓] Go.wp_at_zero Go.wp_at_succ
section
variable {cs:List M7}{w:MO}{T:NU}{g:Nat}
def ZN(n:Int)(many:Nat):Nat:=(if n<0 then(-(n+1)).toNat else n.toNat) % many
theorem af9(n:Int)(many:Nat)(h:0<many):ZN n many<many:=Nat.mod_lt _ h
theorem aro(n many:Int)(h:n<0)(h2:0<many):-(n+1).tmod many=((ZN n many.toNat:Nat):Int):=by
 obtain⟨m,rfl⟩:=NL (Int.le_of_lt h2);obtain⟨k,d⟩:=NL (a:=-(n+1)) (by omega);unfold ZN;rw[Nh h,<-Int.neg_tmod,d,NR,NR,QY];rfl
theorem arp(n many:Int)(h:0<=n)(h2:0<many):n % many=((ZN n many.toNat:Nat):Int):=by
 obtain⟨m,rfl⟩:=NL (Int.le_of_lt h2);obtain⟨k,rfl⟩:=NL h;unfold ZN;rw[Nf (by omega),NR,NR,QY]
theorem aly{k:IntKind}{a b:Int}(h:a=b):MN (MF k a)=MN (MF k b):=by rw[h]
theorem aga(n many:Int)(w:MO)(h0:-9223372036854775808<=n)(h1:n<=9223372036854775807)(h2:0<many)(h3:many<=9223372036854775807):Ni MK 24 #[MF ME n,MF ME many] w fun e w'=>e=MN (MF ME ((ZN n many.toNat:Nat):Int))/\w'=w:=by
 by_cases h:n<0
 ·go_enter Wc,VS
  go_wp2;go_ret;exact⟨aly (aro n many h h2),rfl⟩
 ·have a:0<=n:=by omega
  clear h;go_enter Wc,VS;go_wp2;go_ret;exact⟨aly (arp n many a h2),rfl⟩
theorem adr{x:Int}(h:(N6 ME x).wf=Nw):-9223372036854775808<=x/\x<=9223372036854775807:=by
 have d:IntKind.i64.min = -9223372036854775808:=by decide
 have a:IntKind.i64.max=9223372036854775807:=by decide
 simp only[Lit.wf,d,a,Po,decide_eq_true_eq]at h;exact h
theorem aaK(n:Int)(many:Nat)(hw:(N6 ME n).wf=Nw)(h:0<many)(h2:many<=9000000000000):∃k:Nat,k<many/\∀W,Ni MK 24 #[MF ME n,MF ME (many:Int)] W fun r w'=>r=MN (MF ME (k:Int))/\w'=W:=by
 refine⟨ZN n many,af9 _ _ h,fun W=>?_⟩;have a:=adr hw;have:=aga n many W a.1 a.2 (by omega) (by omega);rwa[NR]at this
abbrev acO(c:Cf):Prop :=
 (1<=c.flows/\c.flows<=40)/\(1<=c.den/\c.den<=c.num)/\c.num<=20/\(0<=c.tries/\c.tries<=12)/\(0<=c.warm/\c.warm<=500) /\
 (1<=c.drain/\c.drain<=500)/\(1<=c.idle/\c.idle<=500)/\(1<=c.conn/\c.conn<=500)/\(0<=c.ret/\c.ret<=20)/\(0<=c.most/\c.most<=100) /\
 Zp c.bn c.bd c.bb/\ZT c.wn c.wf c.wh
abbrev aeV(c:Cf):Value:=Ny #[MF ME c.flows,MF ME c.num,MF ME c.den,MF ME c.tries,MF ME c.warm,MF ME c.drain,MF ME c.idle,MF ME c.conn,MF ME c.ret,MF ME c.most,MF ME c.bn,MF ME c.bd,MF ME c.bb,MF ME c.wn,MF ME c.wf,MF ME c.wh]
abbrev abX(c:Cf):Obj:=MP #[MF ME c.flows,MF ME c.num,MF ME c.den,MF ME c.tries,MF ME c.warm,MF ME c.drain,MF ME c.idle,MF ME c.conn,MF ME c.ret,MF ME c.most,MF ME c.bn,MF ME c.bd,MF ME c.bb,MF ME c.wn,MF ME c.wf,MF ME c.wh] 35
theorem adq{c:Cf}(h:w.heap[g]?=MI (abX c)):w.cell? ⟨g,0,MH⟩=MI (MF ME c.flows)/\w.cell? ⟨g,1,MH⟩=MI (MF ME c.num)/\w.cell? ⟨g,2,MH⟩=MI (MF ME c.den)/\w.cell? ⟨g,3,MH⟩=MI (MF ME c.tries)/\w.cell? ⟨g,4,MH⟩=MI (MF ME c.warm)/\w.cell? ⟨g,5,MH⟩=MI (MF ME c.drain)/\w.cell? ⟨g,6,MH⟩=MI (MF ME c.idle)/\w.cell? ⟨g,7,MH⟩=MI (MF ME c.conn)/\w.cell? ⟨g,8,MH⟩=MI (MF ME c.ret)/\w.cell? ⟨g,9,MH⟩=MI (MF ME c.most)/\w.cell? ⟨g,10,MH⟩=MI (MF ME c.bn)/\w.cell? ⟨g,11,MH⟩=MI (MF ME c.bd)/\w.cell? ⟨g,12,MH⟩=MI (MF ME c.bb)/\w.cell? ⟨g,13,MH⟩=MI (MF ME c.wn)/\w.cell? ⟨g,14,MH⟩=MI (MF ME c.wf)/\w.cell? ⟨g,15,MH⟩=MI (MF ME c.wh)/\g<w.heap.size :=
 ⟨by simp[Nl,h],by simp[Nl,h],by simp[Nl,h],by simp[Nl,h],by simp[Nl,h],by simp[Nl,h],by simp[Nl,h],by simp[Nl,h],by simp[Nl,h],by simp[Nl,h],by simp[Nl,h],by simp[Nl,h],by simp[Nl,h],by simp[Nl,h],by simp[Nl,h],by simp[Nl,h],(ZAa.1 h).1⟩
theorem ads(n lo hi:Int)(w:MO):Ni MK 50 #[MF ME n,MF ME lo,MF ME hi] w fun r w'=>r=MN (M3 (Nn (lo<=n/\n<=hi)))/\w'=w:=by
 obtain⟨d,a⟩:∃d,d=Nn (lo<=n/\n<=hi):=⟨_,rfl⟩;rw[<-a];have H:M6 _:=a;clear a;cases h1:Nn (lo<=n)
 ·go_enter Tl,S1
  go_wp2;go_ret;exact⟨by rw[H.out,M0 (fun h=>Nc h1 h.1)];rfl,rfl⟩
 ·cases h2:Nn (n<=hi)
  ·go_enter Tl,S1
   go_wp2;go_ret;exact⟨by rw[H.out,M0 (fun h=>Nc h2 h.2)];rfl,rfl⟩
  ·go_enter Tl,S1
   go_wp2;go_ret;exact⟨by rw[H.out,Nq ⟨M2 h1,M2 h2⟩];rfl,rfl⟩
theorem ahV(n:Int)(w:MO):Ni MK 51 #[MF ME n] w fun r w'=>r=MN (M3 (Nn (1<=n/\n<=500)))/\w'=w:=by
 have H:M6 _:=ads n 1 500 w;go_enter Tryz.func51,Tryz.ntmps51
 go_wp2_with fail
 refine Nd H.out ?_;rintro r a ⟨rfl,rfl⟩;go_wp2;go_ret;exact⟨by show MN (M3 (Nn (1<=n) && Nn (n<=500)))=_;rw[Bool.decide_and],rfl⟩
theorem arm(c:Cf)(w:MO):Ni MK 39 #[aeV c] w fun r w'=>r=MN (M3 (Nn (acO c)))/\MQ w.heap.size w w':=by
 obtain⟨s,j⟩:∃s,s=Nn (acO c):=⟨_,rfl⟩;rw[<-j];have H:M6 _:=j;clear j;obtain⟨i,f⟩:∃i,i=w.alloc (abX c):=⟨_,rfl⟩;have u:MQ w.heap.size w i:=by rw[f];exact WQ w
 have n:i.heap[w.heap.size]?=MI (abX c):=by rw[f];exact M1 _ _
 obtain⟨R,k1,P,k3,Y,Z,k6,k7,k8,k9,J,C,G,L,O,B,y⟩:=adq n;have a:M6 (_/\_/\_):=⟨u,n,f⟩;clear u n f;go_enter Tryz.func39,Tryz.ntmps39
 go_wp2_with fail
 rw[<-a.out.2.2];refine(ads c.flows 1 40 _).mono ?_;rintro r d ⟨rfl,rfl⟩
 by_cases t0:1<=c.flows/\c.flows<=40
 rotate_left
 ·rw[M0 t0]
  go_wp2;go_ret;exact⟨by rw[H.out,M0 (fun h=>t0 h.1)];rfl,a.out.1⟩
 rw[Nq t0]
 go_wp2_with fail
 refine(ads c.den 1 c.num _).mono ?_;rintro r d ⟨rfl,rfl⟩
 by_cases t1:1<=c.den/\c.den<=c.num
 rotate_left
 ·rw[M0 t1]
  go_wp2;go_ret;exact⟨by rw[H.out,M0 (fun h=>t1 h.2.1)];rfl,a.out.1⟩
 rw[Nq t1]
 by_cases t2:c.num<=20
 rotate_left
 ·have D:Nn (c.num<=20)=false:=M0 t2
  have HT:M6 (¬(c.num<=20)):=t2;go_wp2;go_ret;exact⟨by rw[H.out,M0 (fun h=>by have:=h.2.2.1;omega)];rfl,a.out.1⟩
 have D:Nn (c.num<=20)=true:=Nq t2
 go_wp2_with fail
 refine(ads c.tries 0 12 _).mono ?_;rintro r d ⟨rfl,rfl⟩
 by_cases t3:0<=c.tries/\c.tries<=12
 rotate_left
 ·rw[M0 t3]
  go_wp2;go_ret;exact⟨by rw[H.out,M0 (fun h=>t3 h.2.2.2.1)];rfl,a.out.1⟩
 rw[Nq t3]
 go_wp2_with fail
 refine(ads c.warm 0 500 _).mono ?_;rintro r d ⟨rfl,rfl⟩
 by_cases t4:0<=c.warm/\c.warm<=500
 rotate_left
 ·rw[M0 t4]
  go_wp2;go_ret;exact⟨by rw[H.out,M0 (fun h=>t4 h.2.2.2.2.1)];rfl,a.out.1⟩
 rw[Nq t4]
 go_wp2_with fail
 refine(ahV c.drain _).mono ?_;rintro r d ⟨rfl,rfl⟩
 by_cases t5:1<=c.drain/\c.drain<=500
 rotate_left
 ·rw[M0 t5]
  go_wp2;go_ret;exact⟨by rw[H.out,M0 (fun h=>t5 h.2.2.2.2.2.1)];rfl,a.out.1⟩
 rw[Nq t5]
 go_wp2_with fail
 refine(ahV c.idle _).mono ?_;rintro r d ⟨rfl,rfl⟩
 by_cases t6:1<=c.idle/\c.idle<=500
 rotate_left
 ·rw[M0 t6]
  go_wp2;go_ret;exact⟨by rw[H.out,M0 (fun h=>t6 h.2.2.2.2.2.2.1)];rfl,a.out.1⟩
 rw[Nq t6]
 go_wp2_with fail
 refine(ahV c.conn _).mono ?_;rintro r d ⟨rfl,rfl⟩
 by_cases t7:1<=c.conn/\c.conn<=500
 rotate_left
 ·rw[M0 t7]
  go_wp2;go_ret;exact⟨by rw[H.out,M0 (fun h=>t7 h.2.2.2.2.2.2.2.1)];rfl,a.out.1⟩
 rw[Nq t7]
 go_wp2_with fail
 refine(ads c.ret 0 20 _).mono ?_;rintro r d ⟨rfl,rfl⟩
 by_cases t8:0<=c.ret/\c.ret<=20
 rotate_left
 ·rw[M0 t8]
  go_wp2;go_ret;exact⟨by rw[H.out,M0 (fun h=>t8 h.2.2.2.2.2.2.2.2.1)];rfl,a.out.1⟩
 rw[Nq t8]
 go_wp2_with fail
 refine(ads c.most 0 100 _).mono ?_;rintro r d ⟨rfl,rfl⟩
 by_cases t9:0<=c.most/\c.most<=100
 rotate_left
 ·rw[M0 t9]
  go_wp2;go_ret;exact⟨by rw[H.out,M0 (fun h=>t9 h.2.2.2.2.2.2.2.2.2.1)];rfl,a.out.1⟩
 rw[Nq t9]
 go_wp2_with fail
 refine(afz c.bn c.bd c.bb _).mono ?_;rintro r w2 ⟨rfl,o⟩;have p:=WO a.out.2.1 o;have m:M6 _:=a.out.1.trans (o.mono a.out.1.size);obtain⟨S,j1,j2,j3,U,j5,j6,j7,j8,V,A,E,N,M,I,F,K⟩:=adq p;clear o R k1 P k3 Y Z k6 k7 k8 k9 J C G L O B y
 by_cases tb:Zp c.bn c.bd c.bb
 rotate_left
 ·rw[show aaY c.bn c.bd c.bb=2 from Nf tb]
  clear p;go_wp2;go_ret;exact⟨by rw[H.out,M0 (fun h=>tb h.2.2.2.2.2.2.2.2.2.2.1)];rfl,m.out⟩
 rw[show aaY c.bn c.bd c.bb=0 from Nh tb];clear p
 go_wp2_with fail
 refine(ah3 c.wn c.wf c.wh _).mono ?_;rintro r w3 ⟨rfl,x⟩;have q:M6 _:=m.out.trans (x.mono m.out.size);clear x S j1 j2 j3 U j5 j6 j7 j8 V A E N M I F K
 by_cases tw:ZT c.wn c.wf c.wh
 rotate_left
 ·rw[show abz c.wn c.wf c.wh=2 from Nf tw]
  go_wp2;go_ret;exact⟨by rw[H.out,M0 (fun h=>tw h.2.2.2.2.2.2.2.2.2.2.2)];rfl,q.out⟩
 rw[show abz c.wn c.wf c.wh=0 from Nh tw];go_wp2;go_ret;exact⟨by rw[H.out,Nq ⟨t0,t1,t2,t3,t4,t5,t6,t7,t8,t9,tb,tw⟩];rfl,q.out⟩
def af7(c:Cf):Int:=if acO c then 0 else 2
theorem arj(c:Cf)(w:MO):Ni MK 27 #[aeV c] w fun r w'=>r=MN (MF ME (af7 c))/\MQ w.heap.size w w':=by
 obtain⟨f,i⟩:∃f,f=w.alloc (abX c):=⟨_,rfl⟩;have o:MQ w.heap.size w f:=by rw[i];exact WQ w
 have m:f.heap[w.heap.size]?=MI (abX c):=by rw[i];exact M1 _ _
 obtain⟨D,K,C,F,G,H,I,J,E,L,s,y,B,x,A,u,q⟩:=adq m;have a:M6 (_/\_/\_):=⟨o,m,i⟩;clear o m i;have j:M6 _:=arm c f
 by_cases hok:acO c
 ·rw[show af7 c=0 from Nh hok]
  rw[Nq hok]at j;clear hok;go_enter Tryz.func27,Tryz.ntmps27
  go_wp2_with fail
  rw[<-a.out.2.2];refine Nd j.out ?_;rintro r p ⟨rfl,d⟩;have n:M6 _:=a.out.1.trans (d.mono a.out.1.size);clear d;go_wp2;go_ret;exact⟨rfl,n.out⟩
 ·rw[show af7 c=2 from Nf hok]
  rw[M0 hok]at j;clear hok;go_enter Tryz.func27,Tryz.ntmps27
  go_wp2_with fail
  rw[<-a.out.2.2];refine Nd j.out ?_;rintro r p ⟨rfl,d⟩;have n:M6 _:=a.out.1.trans (d.mono a.out.1.size);clear d;go_wp2;go_ret;exact⟨rfl,n.out⟩
section
variable {α:Type}{c:α->List M7}{k:Nat}{w w':MO}{v:M7}{l:List α}
theorem Xw.Gf(h:Xw c w v l)(hs:w.heap.size<=w'.heap.size)(hb:∀b,v.ownBlock=MI b->w'.heap[b]?=w.heap[b]?):Xw c w' v l:=by
 obtain⟨a,d,rfl,j,f,m|⟨b,off,rfl,o,n⟩⟩:=h
 ·exact⟨a,d,rfl,j,f,Nt m⟩
 ·refine⟨_,d,rfl,j,f,NF ⟨b,off,rfl,M8 o hs,fun i hi=>?_⟩⟩
  rw[<-n i hi];have:=hb b rfl;simp only[Nl,this]
variable {t e:NU}{z:M7}{bytes:Nat}
end
abbrev ad6(c:Cf)(vt vh:M7)(tok:Int)(vw:M7):List Value:=[MF ME c.flows,MF ME c.num,MF ME c.den,MF ME c.tries,MF ME c.warm,MF ME c.drain,MF ME c.idle,MF ME c.conn,MF ME c.ret,MF ME c.most,MF ME c.bn,MF ME c.bd,MF ME c.bb,MF ME c.wn,MF ME c.wf,MF ME c.wh,MF ME 0,vt,MG MH 0 0,MG MH 0 0,MG MH 0 0,MG MH 0 0,vh,MF ME tok,MF ME 0,vw]
abbrev ahZ(c:Cf)(vt vh:M7)(tok:Int)(vw:M7):Value:=Ny #[MF ME c.flows,MF ME c.num,MF ME c.den,MF ME c.tries,MF ME c.warm,MF ME c.drain,MF ME c.idle,MF ME c.conn,MF ME c.ret,MF ME c.most,MF ME c.bn,MF ME c.bd,MF ME c.bb,MF ME c.wn,MF ME c.wf,MF ME c.wh,MF ME 0,vt,MG MH 0 0,MG MH 0 0,MG MH 0 0,MG MH 0 0,vh,MF ME tok,MF ME 0,vw]
abbrev Xv:Cf:=⟨0,0,0,0,0,0,0,0,0,0,0,0,0,0,0,0⟩
abbrev aeW(_:Unit):List Value:=[MG MH 0 0,M3 Nb,MF ME 0,MF ME 0]
abbrev aeT(w:MO)(v:M7)(k:Nat):Prop:=Xw aeW w v (Nj k ())
theorem af8:(MK.info? 55).map (·.size)=MI 26:=by kernel_rfl
theorem arq{base:Nat}{v:M7}{l:List Sl}(h:w.ownsRow base 182 4 v l.length (XF l)):Yy w v l :=
 show XB w v l.length (XF l)from Yr h
theorem arv{base:Nat}{v:M7}{vs:List M7}{ls:List (List Tm)}(h:WZ w base v vs ls):Zo w v ls :=
 ⟨vs,(show XB w v ls.length vs from Yr h.row),h.each.GV fun u l hu=>(show XB w u l.length (WP l)from Yr hu)⟩
def ard(w:MO)(vt vh vw:M7)(l:List Sl)(k:Nat)(ls:List (List Tm)):Prop:=Yy w vt l/\aeT w vh k/\Zo w vw ls
def af6(B:Nat)(w W:MO):Prop:=w.heap.size<=W.heap.size/\∀b,B<=b->b<w.heap.size->W.heap[b]?=w.heap[b]?
def af5(c:Cf)(w:MO)(r:Ending)(w':MO):Prop :=
 if acO c then ∃vt vh vw,r=MN (Nv #[ahZ c vt vh (c.bb*c.bd) vw,MF ME 0])/\(∀W,af6 w.heap.size w' W->ard W vt vh vw (Nj c.flows.toNat (0,Nb,0,0)) 12 aaW)/\MQ w.heap.size w w'
 else r=MN (Nv #[ahZ Xv (MG MH 0 0) (MG MH 0 0) 0 (MG MH 0 0),MF ME 2])/\MQ w.heap.size w w'
theorem alz(g:Nat):∀(vs:List M7) (o:Nat) (w:MO),(w.setCells g o vs).tape=w.tape
 | [],_,_=>rfl
 |v::vs,o,w=>by rw[Qd,alz g vs];simp[Q4]
theorem ahW(g:Nat):∀(vs:List M7) (o:Nat) (w:MO),(w.setCells g o vs).heap.size=w.heap.size
 | [],_,_=>rfl
 |v::vs,o,w=>by rw[Qd,ahW g vs];simp
theorem adp{B:Nat}{w0:MO}(h:MQ B w0 w)(hg:B<=g)(o:Nat)(vs:List M7)(hB:B<=w.heap.size):MQ B w0 (w.setCells g o vs):=by
 refine h.trans ⟨World.os_setCells _ _ _ _,alz _ _ _ _,World.output_setCells _ _ _ _,by rw[ahW];exact MV _,fun i hi=>N8 w g o vs (by omega) (by omega)⟩
theorem aeU(h:w.heap[g]?=MI (MP cs.toArray T (0,0))):w.there g 0 cs.length:=fun j hj=>by
 rw[Oa,MW w g j _ T (0,0) h];exact⟨by simp[hj],by simp[Ng,h]⟩
theorem alv{vs:List M7}(h:w.heap[g]?=MI (MP cs.toArray T (0,0)))(hl:cs.length=vs.length):(w.setCells g 0 vs).heap[g]?=MI (MP vs.toArray T (0,0)):=by
 have:=ac0 T g vs [] cs w hl (by simpa using h)
 simpa using this
abbrev ah0:List Value:=ad6 Xv (MG MH 0 0) (MG MH 0 0) 0 (MG MH 0 0)
theorem art(c:Cf)(vt vh:M7)(tok:Int)(vw:M7)(h1:vt.oneCell'=Nw)(h2:vh.oneCell'=Nw)(h3:vw.oneCell'=Nw):(ad6 c vt vh tok vw).toArray.all (·.oneCell')=true:=by
 apply OE;intro v a;simp only[ad6,OO,OD,or_false]at a;rcases a with rfl|rfl|rfl|rfl|rfl|rfl|rfl|rfl|rfl|rfl|rfl|rfl|rfl|rfl|rfl|rfl|rfl|rfl|rfl|rfl|rfl|rfl|rfl|rfl|rfl|rfl <;> first|rfl|exact h1|exact h2|exact h3
theorem agb(h:w.heap[g]?=MI (MP cs.toArray T (0,0))):w.rangeAt g 0 cs:=fun j v hv=>by
 rw[Oa,MW w g j _ T (0,0) h]
 simpa using hv
theorem ahU{c:Cf}{gc g2 gt gb gw:Nat}{vt vw:M7}{tok:Int}{ws:List M7}(hc:w.heap[gc]?=MI (abX c))(h2:w.heap[g2]?=MI (MP ws.toArray 55 (0,0)))(hw:ws.length=26)(ht:w.heap[gt]?=MI (MP #[vt] 39 (0,0)))(hb:w.heap[gb]?=MI (MP #[MF ME tok] 50 (0,0)))(hww:w.heap[gw]?=MI (MP #[MF ME 0,vw] 53 (0,0))):
  w.cell? ⟨gc,0,MH⟩=MI (MF ME c.flows)/\w.cell? ⟨gc,1,MH⟩=MI (MF ME c.num)/\w.cell? ⟨gc,2,MH⟩=MI (MF ME c.den)/\w.cell? ⟨gc,3,MH⟩=MI (MF ME c.tries)/\w.cell? ⟨gc,4,MH⟩=MI (MF ME c.warm)/\w.cell? ⟨gc,5,MH⟩=MI (MF ME c.drain)/\w.cell? ⟨gc,6,MH⟩=MI (MF ME c.idle)/\w.cell? ⟨gc,7,MH⟩=MI (MF ME c.conn)/\w.cell? ⟨gc,8,MH⟩=MI (MF ME c.ret)/\w.cell? ⟨gc,9,MH⟩=MI (MF ME c.most)/\w.cell? ⟨gc,10,MH⟩=MI (MF ME c.bn)/\w.cell? ⟨gc,11,MH⟩=MI (MF ME c.bd)/\w.cell? ⟨gc,12,MH⟩=MI (MF ME c.bb)/\w.cell? ⟨gc,13,MH⟩=MI (MF ME c.wn)/\w.cell? ⟨gc,14,MH⟩=MI (MF ME c.wf)/\w.cell? ⟨gc,15,MH⟩=MI (MF ME c.wh)/\w.cell? ⟨gt,0,MH⟩=MI vt/\w.cell? ⟨gb,0,MH⟩=MI (MF ME tok)/\w.cell? ⟨gw,0,MH⟩=MI (MF ME 0)/\w.cell? ⟨gw,1,MH⟩=MI vw/\w.there g2 0 26 :=
 have q:=adq hc
 ⟨q.1,q.2.1,q.2.2.1,q.2.2.2.1,q.2.2.2.2.1,q.2.2.2.2.2.1,q.2.2.2.2.2.2.1,q.2.2.2.2.2.2.2.1,q.2.2.2.2.2.2.2.2.1,q.2.2.2.2.2.2.2.2.2.1,q.2.2.2.2.2.2.2.2.2.2.1,q.2.2.2.2.2.2.2.2.2.2.2.1,q.2.2.2.2.2.2.2.2.2.2.2.2.1,q.2.2.2.2.2.2.2.2.2.2.2.2.2.1,q.2.2.2.2.2.2.2.2.2.2.2.2.2.2.1,q.2.2.2.2.2.2.2.2.2.2.2.2.2.2.2.1,Xu ht,Xu hb,(Xa hww).1,(Xa hww).2.1,by have:=aeU h2;rwa[hw]at this⟩
theorem arn:∀W,(Instr.makeSlice 48 (MF ME 12) (MF ME 12)).run MK W=.ok (MG (MI ⟨W.heap.size,0,MH⟩) 12 12) (W.alloc (MP (rv aeW (Nj 12 ())).toArray 195)):=fun W=>by kernel_rfl
theorem arl(W:MO):aeT (W.alloc (MP (rv aeW (Nj 12 ())).toArray 195)) (MG (MI ⟨W.heap.size,0,MH⟩) 12 12) 12:=by
 refine⟨_,12,rfl,by simp,by unfold NE;omega,NF ⟨W.heap.size,0,rfl,by simp,fun i hi=>?_⟩⟩;rw[Oa,MW _ W.heap.size i _ _ (0,0) (M1 W _)];simp
theorem arg(c:Cf)(w:MO)(h:acO c):Ni MK 14 #[aeV c] w (af5 c w):=by
 obtain⟨M,R⟩:∃M,M=(w.alloc (abX c)).alloc (MP ah0.toArray 55):=⟨_,rfl⟩;have l8:MQ w.heap.size w M:=by rw[R];exact(WQ w).trans ((WQ _).mono (by simp))
 have e3:M.heap[w.heap.size]?=MI (abX c):=by rw[R];exact Xy _ _ (M1 _ _)
 have i2:M.heap[w.heap.size+1]?=MI (MP ah0.toArray 55 (0,0)):=by rw[R];exact Yu _ _ _
 obtain⟨k0,k1,k2,k3,k4,k5,k6,k7,k8,k9,m6,n0,m3,m7,n1,m8,m5⟩:=adq e3;have HC:=arj c M;rw[show af7 c=0 from Nh h]at HC;have N:M6 (_/\_/\_/\_/\_):=⟨l8,e3,i2,R,HC⟩;clear l8 e3 i2 R HC;have HN:M6 _:=h;clear h;obtain⟨U,d8⟩:∃z,z=(rv aeW (Nj 12 ())).toArray:=⟨_,rfl⟩;have f5:∀W,(Instr.makeSlice 48 (MF ME 12) (MF ME 12)).run MK W=.ok (MG (MI ⟨W.heap.size,0,MH⟩) 12 12) (W.alloc (MP U 195)):=by rw[d8];exact arn
 have HZ:M6 (_/\_):=⟨d8,f5⟩;clear d8 f5;go_enter Tryz.func14,Tryz.ntmps14
 go_wp2_with fail
 rw[show(#[MF ME 0,MF ME 0,MF ME 0,MF ME 0,MF ME 0,MF ME 0,MF ME 0,MF ME 0,MF ME 0,MF ME 0,MF ME 0,MF ME 0,MF ME 0,MF ME 0,MF ME 0,MF ME 0,MF ME 0,MG MH 0 0,MG MH 0 0,MG MH 0 0,MG MH 0 0,MG MH 0 0,MG MH 0 0,MF ME 0,MF ME 0,MG MH 0 0]:Array M7)=ah0.toArray from rfl,<-N.out.2.2.2.1];refine Nd N.out.2.2.2.2 ?_;rintro r w1 ⟨rfl,d0⟩;have f3:=WO N.out.2.1 d0;have l2:=WO N.out.2.2.1 d0;have l4:=N.out.1.trans (d0.mono N.out.1.size);obtain⟨j0,j1,j2,j3,j4,j5,j6,j7,j8,j9,e9,f8,e8,e7,g3,f1,g7⟩:=adq f3;have J:M6 (_/\_/\_):=⟨f3,l2,l4⟩;clear f3 l2 l4 d0 k0 k1 k2 k3 k4 k5 k6 k7 k8 k9 m6 n0 m3 m7 n1 m8 m5
 go_wp2_with fail
 refine(auP c.flows _).mono ?_;rw[show adI c.flows=(Nj c.flows.toNat (0,Nb,0,0),0)from Nh HN.out.1];rintro r A ⟨q,c2,rfl,e6,V⟩;obtain⟨l,hl⟩:∃l:List Sl,l=Nj c.flows.toNat (0,Nb,0,0):=⟨_,rfl⟩;simp only[<-hl]at e6⊢;have HL:M6 _:=hl;clear hl j0 j1 j2 j3 j4 j5 j6 j7 j8 j9 e9 f8 e8 e7 g3 f1 g7;obtain⟨W2,c9⟩:∃W2,W2=A.alloc (MP #[MG q l.length c2] 39):=⟨_,rfl⟩;have d7:MQ A.heap.size A W2:=by rw[c9];exact WQ A
 have c3:=V.trans (d7.mono V.size);have l1:W2.heap[A.heap.size]?=MI (MP #[MG q l.length c2] 39 (0,0)):=by rw[c9];exact M1 _ _
 have l9:=YI e6 d7;obtain⟨j0,j1,j2,j3,j4,j5,j6,j7,j8,j9,e9,f8,e8,e7,g3,f1,g7⟩:=adq (WO J.out.1 V);have D:M6 (_/\_/\_/\_/\_/\_):=⟨WO J.out.1 c3,WO J.out.2.1 c3,J.out.2.2.trans (c3.mono J.out.2.2.size),l1,l9,c9⟩;have O:M6 (w1.heap.size<=A.heap.size):=V.size;clear d7 c3 l1 l9 c9 e6 V
 go_wp2_with fail
 rw[<-D.out.2.2.2.2.2];refine(aod c.bn c.bd c.bb _).mono ?_;rw[show aeB c.bn c.bd c.bb=(c.bb*c.bd,0)from Nh HN.out.2.2.2.2.2.2.2.2.2.2.1];rintro r x ⟨rfl,c8⟩;clear j0 j1 j2 j3 j4 j5 j6 j7 j8 j9 e9 f8 e8 e7 g3 f1 g7;obtain⟨m,d6⟩:∃m,m=c.bb*c.bd:=⟨_,rfl⟩
 dsimp only
 rw[<-d6];have HK:M6 _:=d6;clear d6;obtain⟨W3,d2⟩:∃W3,W3=x.alloc (MP #[MF ME m] 50):=⟨_,rfl⟩;have h5:MQ x.heap.size x W3:=by rw[d2];exact WQ x
 have L:=c8.trans (h5.mono c8.size);have g4:W3.heap[x.heap.size]?=MI (MP #[MF ME m] 50 (0,0)):=by rw[d2];exact M1 _ _
 have E:M6 (_/\_/\_/\_/\_/\_/\_):=⟨WO D.out.1 L,WO D.out.2.1 L,D.out.2.2.1.trans (L.mono D.out.2.2.1.size),WO D.out.2.2.2.1 L,YI D.out.2.2.2.2.1 L,g4,d2⟩;have h7:M6 (x.heap.size<W3.heap.size):=(ZAa.1 g4).1;have c4:M6 (A.heap.size+1<=x.heap.size):=by have:=c8.size;have:=(ZAa.1 D.out.2.2.2.1).1;show _<=_;omega
 clear h5 L g4 d2 c8
 go_wp2_with fail
 rw[<-E.out.2.2.2.2.2.2];refine(awa 0 _ ⟨by omega,by omega⟩).mono ?_;rintro r u ⟨vw,vs,rfl,g5,c5⟩;obtain⟨n,p,m0⟩:=Y6 g5.row;obtain⟨j,l5⟩:∃j,j=aaW.length:=⟨_,rfl⟩;rw[<-l5]at m0;subst m0;clear l5;have m4:(MG n j p).oneCell'=true:=rfl;obtain⟨d,d4⟩:∃d,d=u.alloc (MP #[MF ME 0,MG n j p] 53):=⟨_,rfl⟩;have d9:MQ u.heap.size u d:=by rw[d4];exact WQ u
 have H:=c5.trans (d9.mono c5.size);have i8:d.heap[u.heap.size]?=MI (MP #[MF ME 0,MG n j p] 53 (0,0)):=by rw[d4];exact M1 _ _
 have f:M6 (_/\_/\_/\_/\_/\_/\_/\_/\_):=⟨WO E.out.1 H,WO E.out.2.1 H,E.out.2.2.1.trans (H.mono E.out.2.2.1.size),WO E.out.2.2.2.1 H,YI E.out.2.2.2.2.1 H,WO E.out.2.2.2.2.2.1 H,i8,g5.below d9,d4⟩;have m2:M6 (x.heap.size+1<=u.heap.size):=by have:=c5.size;have:=(ZAa.1 E.out.2.2.2.2.2.1).1;show _<=_;omega
 clear d9 H i8 d4 c5 g5;have n7:w.heap.size+1<w1.heap.size:=(ZAa.1 J.out.2.1).1;obtain⟨F,y⟩:∃F,F=(d.alloc (MP U 195)).drew:=⟨_,rfl⟩;have s:MQ d.heap.size d F:=by rw[y];exact(WQ d).trans ⟨rfl,rfl,rfl,MV _,fun _ _=>rfl⟩
 have i7:aeT F (MG (MI ⟨d.heap.size,0,MH⟩) 12 12) 12:=by rw[y,HZ.out.1];exact arl d
 obtain⟨Z,I⟩:∃Z,Z=ad6 c (MG q l.length c2) (MG (MI ⟨d.heap.size,0,MH⟩) 12 12) m (MG n j p):=⟨_,rfl⟩;obtain⟨a,C⟩:∃a,a=F.setCells (w.heap.size+1) 0 Z:=⟨_,rfl⟩;have G:∀g,g≠w.heap.size+1->g<F.heap.size->a.heap[g]?=F.heap[g]?:=fun g h1 h2=>by rw[C];exact N8 F _ _ _ h2 h1
 have c7:=WO f.out.1 s;have g0:=WO f.out.2.1 s;have d1:=WO f.out.2.2.2.1 s;have d3:=WO f.out.2.2.2.2.2.1 s;have c6:=WO f.out.2.2.2.2.2.2.1 s;have i6:A.heap.size≠w.heap.size+1:=by have:=D.out.2.2.1.size;have:=O.out;omega
 have i4:x.heap.size≠w.heap.size+1:=by have:=O.out;have:=c4.out;omega
 have l0:u.heap.size≠w.heap.size+1:=by have:=O.out;have:=c4.out;have:=m2.out;omega
 have l7:=(G _ (by omega) (ZAa.1 c7).1).trans c7;have l3:=(G _ i6 (ZAa.1 d1).1).trans d1;have i5:=(G _ i4 (ZAa.1 d3).1).trans d3;have l6:=(G _ l0 (ZAa.1 c6).1).trans c6;have e5:a.heap[w.heap.size+1]?=MI (MP Z.toArray 55 (0,0)):=by rw[C];exact alv (vs:=Z) g0 (by rw[I];rfl)
 have f6:=f.out.2.2.1.trans (s.mono f.out.2.2.1.size);have i1:MQ w.heap.size w a:=by rw[C];exact adp f6 (by omega) _ _ f6.size
 have e0:F.heap.size<=a.heap.size:=by rw[C,ahW];exact MV _
 have m1:w.heap.size<=w1.heap.size:=J.out.2.2.size;have oT:=W8 (YI f.out.2.2.2.2.1 s) fun g hg=>G g (by have:=((YI f.out.2.2.2.2.1 s).lt g hg).1;omega) ((YI f.out.2.2.2.2.1 s).lt g hg).2
 have h6:∀Y,af6 w.heap.size a Y->Yy Y (MG q l.length c2) l:=fun Y hY=>arq (W8 oT fun g hg=>hY.2 g (by have:=(oT.lt g hg).1;omega) (oT.lt g hg).2)
 have oL:=(f.out.2.2.2.2.2.2.2.1.below s).Gf fun g h1 h2=>G g (by have:=O.out;have:=c4.out;have:=h7.out;omega) h2
 have i3:∀Y,af6 w.heap.size a Y->Zo Y (MG n j p) aaW:=fun Y hY=>arv (oL.Gf fun g h1 h2=>hY.2 g (by have:=O.out;have:=c4.out;have:=h7.out;omega) h2)
 have h9:aeT a (MG (MI ⟨d.heap.size,0,MH⟩) 12 12) 12:=Xw.Gf i7 e0 fun b hb=>by
  have e:b=d.heap.size:=by cases hb;rfl
  subst e;exact G _ (by have:=(ZAa.1 f.out.2.1).1;omega) (by have:=s.size;rw[y];simp)
 have i0:∀Y,af6 w.heap.size a Y->aeT Y (MG (MI ⟨d.heap.size,0,MH⟩) 12 12) 12:=fun Y hY=>Xw.Gf h9 hY.1 fun b hb=>by
  have e:b=d.heap.size:=by cases hb;rfl
  subst e;exact hY.2 _ (by have:=(ZAa.1 f.out.2.1).1;omega) (M8 (by have:=s.size;rw[y];simp) e0)
 have F1:=ahU f.out.1 f.out.2.1 rfl f.out.2.2.2.1 f.out.2.2.2.2.2.1 f.out.2.2.2.2.2.2.1;have F2:=ahU c7 g0 rfl d1 d3 c6;have F3:=ahU l7 e5 (by rw[I];rfl) l3 i5 l6;have d5:=art c (MG q l.length c2) (MG (MI ⟨d.heap.size,0,MH⟩) 12 12) m (MG n j p) rfl rfl m4;rw[C,I,y]at F3;rw[y]at F2;have G1:M6 _:=F1;have G2:M6 _:=F2;have G3:M6 _:=F3;have h8:M6 ((d.alloc (MP U 195)).drew.there (w.heap.size+1) 0 26):=F2.2.2.2.2.2.2.2.2.2.2.2.2.2.2.2.2.2.2.2.2;have n3:M6 (d.drew.there (w.heap.size+1) 0 26):=F1.2.2.2.2.2.2.2.2.2.2.2.2.2.2.2.2.2.2.2.2;have n6:(Instr.storeAt 55 (Na (MI ⟨w.heap.size+1,0,MH⟩)) (Ny #[MF ME c.flows,MF ME c.num,MF ME c.den,MF ME c.tries,MF ME c.warm,MF ME c.drain,MF ME c.idle,MF ME c.conn,MF ME c.ret,MF ME c.most,MF ME c.bn,MF ME c.bd,MF ME c.bb,MF ME c.wn,MF ME c.wf,MF ME c.wh,MF ME 0,MG q l.length c2,MG MH 0 0,MG MH 0 0,MG MH 0 0,MG MH 0 0,MG (MI ⟨d.heap.size,0,MH⟩) 12 12,MF ME m,MF ME 0,MG n j p])).run MK ((d.alloc (MP U 195)).drew)=.ok () a:=by
  have h1:=run_storeAt_mid (P:=MK) ((d.alloc (MP U 195)).drew) (w.heap.size+1) 0 55 #[MF ME c.flows,MF ME c.num,MF ME c.den,MF ME c.tries,MF ME c.warm,MF ME c.drain,MF ME c.idle,MF ME c.conn,MF ME c.ret,MF ME c.most,MF ME c.bn,MF ME c.bd,MF ME c.bb,MF ME c.wn,MF ME c.wf,MF ME c.wh,MF ME 0,MG q l.length c2,MG MH 0 0,MG MH 0 0,MG MH 0 0,MG MH 0 0,MG (MI ⟨d.heap.size,0,MH⟩) 12 12,MF ME m,MF ME 0,MG n j p] h8.out af8 d5;rw[C,I,y];exact h1
 have i9:a.cell? ⟨w.heap.size,0,MH⟩=MI (MF ME c.flows)/\a.cell? ⟨w.heap.size,1,MH⟩=MI (MF ME c.num)/\a.cell? ⟨w.heap.size,2,MH⟩=MI (MF ME c.den)/\a.cell? ⟨w.heap.size,3,MH⟩=MI (MF ME c.tries)/\a.cell? ⟨w.heap.size,4,MH⟩=MI (MF ME c.warm)/\a.cell? ⟨w.heap.size,5,MH⟩=MI (MF ME c.drain)/\a.cell? ⟨w.heap.size,6,MH⟩=MI (MF ME c.idle)/\a.cell? ⟨w.heap.size,7,MH⟩=MI (MF ME c.conn)/\a.cell? ⟨w.heap.size,8,MH⟩=MI (MF ME c.ret)/\a.cell? ⟨w.heap.size,9,MH⟩=MI (MF ME c.most)/\a.cell? ⟨w.heap.size,10,MH⟩=MI (MF ME c.bn)/\a.cell? ⟨w.heap.size,11,MH⟩=MI (MF ME c.bd)/\a.cell? ⟨w.heap.size,12,MH⟩=MI (MF ME c.bb)/\a.cell? ⟨w.heap.size,13,MH⟩=MI (MF ME c.wn)/\a.cell? ⟨w.heap.size,14,MH⟩=MI (MF ME c.wf)/\a.cell? ⟨w.heap.size,15,MH⟩=MI (MF ME c.wh)/\a.cell? ⟨A.heap.size,0,MH⟩=MI (MG q l.length c2)/\a.cell? ⟨x.heap.size,0,MH⟩=MI (MF ME m)/\a.cell? ⟨u.heap.size,0,MH⟩=MI (MF ME 0)/\a.cell? ⟨u.heap.size,1,MH⟩=MI (MG n j p)/\a.there (w.heap.size+1) 0 26:=by rw[C,I,y];exact F3
 have G4:M6 _:=i9;clear i9;have B:M6 (_/\_/\_/\_/\_/\_/\_/\_/\_):=⟨e5,i1,h6,i3,i0,d5,I,C,y⟩;have f5:=HZ.out.2;have n5:=Ph;have n2:(MK.info? 35).map (·.size)=MI 16:=by kernel_rfl
 have n4:=af8;clear F1 F2 F3 e5 i1 h6 i3 i0 h9 oT oL m1 d5 I C y G c7 g0 d1 d3 c6 l7 l3 i5 l6 f6 e0 i7 s i6 i4 l0;go_wp2;rw[<-f.out.2.2.2.2.2.2.2.2];refine O2 (S:=fun W=>W.cell? ⟨w.heap.size,0,MH⟩=MI (MF ME c.flows)/\W.cell? ⟨w.heap.size,1,MH⟩=MI (MF ME c.num)/\W.cell? ⟨w.heap.size,2,MH⟩=MI (MF ME c.den)/\W.cell? ⟨w.heap.size,3,MH⟩=MI (MF ME c.tries)/\W.cell? ⟨w.heap.size,4,MH⟩=MI (MF ME c.warm)/\W.cell? ⟨w.heap.size,5,MH⟩=MI (MF ME c.drain)/\W.cell? ⟨w.heap.size,6,MH⟩=MI (MF ME c.idle)/\W.cell? ⟨w.heap.size,7,MH⟩=MI (MF ME c.conn)/\W.cell? ⟨w.heap.size,8,MH⟩=MI (MF ME c.ret)/\W.cell? ⟨w.heap.size,9,MH⟩=MI (MF ME c.most)/\W.cell? ⟨w.heap.size,10,MH⟩=MI (MF ME c.bn)/\W.cell? ⟨w.heap.size,11,MH⟩=MI (MF ME c.bd)/\W.cell? ⟨w.heap.size,12,MH⟩=MI (MF ME c.bb)/\W.cell? ⟨w.heap.size,13,MH⟩=MI (MF ME c.wn)/\W.cell? ⟨w.heap.size,14,MH⟩=MI (MF ME c.wf)/\W.cell? ⟨w.heap.size,15,MH⟩=MI (MF ME c.wh)/\W.cell? ⟨A.heap.size,0,MH⟩=MI (MG q l.length c2)/\W.cell? ⟨x.heap.size,0,MH⟩=MI (MF ME m)/\W.cell? ⟨u.heap.size,0,MH⟩=MI (MF ME 0)/\W.cell? ⟨u.heap.size,1,MH⟩=MI (MG n j p)/\W.there (w.heap.size+1) 0 26) (by kernel_rfl) G1.out (fun hHeld=>?_);refine ND (i:=0) (oi:=_) (v:=aeV c) rfl (by kernel_rfl) (by kernel_rfl) (by kernel_rfl) (fun _ _ _ h=>h) (Nt ⟨by rfl,fun W hSw=>by obtain⟨s0,s1,s2,s3,s4,s5,s6,s7,s8,s9,g9,f9,f4,f0,e4,f7,h4,g6,f2,g8,g1⟩:=hSw;go_simp⟩) hHeld ?_;simp only[Nr,MJ,ML,MM];refine ND (i:=1) (oi:=_) (v:=Ny #[MG q l.length c2]) rfl (by kernel_rfl) (by kernel_rfl) (by kernel_rfl) (fun _ _ _ h=>h) (Nt ⟨by rfl,fun W hSw=>by obtain⟨s0,s1,s2,s3,s4,s5,s6,s7,s8,s9,g9,f9,f4,f0,e4,f7,h4,g6,f2,g8,g1⟩:=hSw;go_simp⟩) hHeld ?_;simp only[Nr,MJ,ML,MM];refine ND (i:=3) (oi:=_) (v:=Ny #[MF ME m]) rfl (by kernel_rfl) (by kernel_rfl) (by kernel_rfl) (fun _ _ _ h=>h) (Nt ⟨by rfl,fun W hSw=>by obtain⟨s0,s1,s2,s3,s4,s5,s6,s7,s8,s9,g9,f9,f4,f0,e4,f7,h4,g6,f2,g8,g1⟩:=hSw;go_simp⟩) hHeld ?_;simp only[Nr,MJ,ML,MM];refine ND (i:=4) (oi:=_) (v:=Ny #[MF ME 0,MG n j p]) rfl (by kernel_rfl) (by kernel_rfl) (by kernel_rfl) (fun _ _ _ h=>h) (Nt ⟨by rfl,fun W hSw=>by obtain⟨s0,s1,s2,s3,s4,s5,s6,s7,s8,s9,g9,f9,f4,f0,e4,f7,h4,g6,f2,g8,g1⟩:=hSw;go_simp⟩) hHeld ?_;simp only[Nr,MJ,ML,MM];refine NN (rs:=[2]) (by kernel_rfl) (by simp) ?_;refine NP (o:=_) rfl (fun K hK=>?_) NX;go_simp;refine hK.out _ _ G2.out (fun hHeld=>?_);clear hK K
 try simp only[Nr,MJ,ML,MM]
 refine NN (rs:=[5]) (by kernel_rfl) (by simp) ?_;refine NP (o:=_) rfl (fun K hK=>?_) NX;go_simp;refine hK.out _ _ G2.out (fun hHeld=>?_);clear hK K
 try simp only[Nr,MJ,ML,MM]
 refine NN (rs:=[6]) (by kernel_rfl) (by simp) ?_;refine NP (o:=_) rfl (fun K hK=>?_) NX;rw[Nh (by rfl)];refine wp_store_mid _ _ _ rfl _ _ #[MF ME c.flows,MF ME c.num,MF ME c.den,MF ME c.tries,MF ME c.warm,MF ME c.drain,MF ME c.idle,MF ME c.conn,MF ME c.ret,MF ME c.most,MF ME c.bn,MF ME c.bd,MF ME c.bb,MF ME c.wn,MF ME c.wf,MF ME c.wh,MF ME 0,MG q l.length c2,MG MH 0 0,MG MH 0 0,MG MH 0 0,MG MH 0 0,MG (MI ⟨d.heap.size,0,MH⟩) 12 12,MF ME m,MF ME 0,MG n j p] rfl rfl h8.out af8 B.out.2.2.2.2.2.1 ?_;rw[show RW (#[MF ME c.flows,MF ME c.num,MF ME c.den,MF ME c.tries,MF ME c.warm,MF ME c.drain,MF ME c.idle,MF ME c.conn,MF ME c.ret,MF ME c.most,MF ME c.bn,MF ME c.bd,MF ME c.bb,MF ME c.wn,MF ME c.wf,MF ME c.wh,MF ME 0,MG q l.length c2,MG MH 0 0,MG MH 0 0,MG MH 0 0,MG MH 0 0,MG (MI ⟨d.heap.size,0,MH⟩) 12 12,MF ME m,MF ME 0,MG n j p]:Array M7)=ad6 c (MG q l.length c2) (MG (MI ⟨d.heap.size,0,MH⟩) 12 12) m (MG n j p)from rfl,<-B.out.2.2.2.2.2.2.1,<-B.out.2.2.2.2.2.2.2.2,<-B.out.2.2.2.2.2.2.2.1];refine hK.out _ _ G4.out (fun hHeld=>?_);clear hK K
 try simp only[Nr,MJ,ML,MM]
 refine NN (rs:=[7]) (by kernel_rfl) (by simp) ?_;refine NP (o:=_) rfl (fun K hK=>?_) NX;go_simp;refine hK.out _ _ G4.out (fun hHeld=>?_);clear hK K
 try simp only[Nr,MJ,ML,MM]
 refine PS (by kernel_rfl) ?_ _;go_wp2;refine Np (v:=Nv #[ahZ c (MG q l.length c2) (MG (MI ⟨d.heap.size,0,MH⟩) 12 12) m (MG n j p),MF ME 0]) (XT Tryz.results14 rfl rfl (Xp (cs:=ad6 c (MG q l.length c2) (MG (MI ⟨d.heap.size,0,MH⟩) 12 12) m (MG n j p)) (by have:=B.out.1;rw[B.out.2.2.2.2.2.2.1]at this;exact this) Lv rfl af8)) rfl ?_;show af5 c w _ _;unfold af5;rw[Nh HN.out];refine⟨_,_,_,by rw[<-HK.out],?_,B.out.2.1⟩;rw[<-HL.out];exact fun Y hY=>⟨B.out.2.2.1 Y hY,B.out.2.2.2.2.1 Y hY,B.out.2.2.2.1 Y hY⟩
abbrev arh(n d b:Int):Value:=Ny #[MF ME n,MF ME d,MF ME b]
theorem alx{W:MO}{a b c:M7}(h:W.heap[g]?=MI (MP #[a,b,c] T (0,0))):W.cell? ⟨g,0,MH⟩=MI a/\W.cell? ⟨g,1,MH⟩=MI b/\W.cell? ⟨g,2,MH⟩=MI c/\g<W.heap.size :=
 ⟨by simp[Nl,h],by simp[Nl,h],by simp[Nl,h],(ZAa.1 h).1⟩
theorem alw{a b c a' b' c':M7}(h:w.heap[g]?=MI (MP #[a,b,c] T (0,0))):(((w.setCell ⟨g,0,MH⟩ a').setCell ⟨g,1,MH⟩ b').setCell ⟨g,2,MH⟩ c').heap[g]?=MI (MP #[a',b',c'] T (0,0)):=by
 have d:=NI w g 0 _ T a' h;have f:=NI _ g 1 _ T b' d;exact NI _ g 2 _ T c' f
theorem ari(x y z:Int)(hx:(N6 ME x).wf=Nw)(hy:(N6 ME y).wf=Nw)(hz:(N6 ME z).wf=Nw) :
  ∃n d b:Nat,(n<=20/\(1<=d/\d<=20)/\b<=20)/\∀w,Ni MK 25 #[MF ME x,MF ME y,MF ME z] w fun r w'=>r=MN (arh n d b)/\MQ w.heap.size w w':=by
 obtain⟨n,A,o⟩:=aaK x 21 hx (by omega) (by omega);obtain⟨d,s,p⟩:=aaK y 20 hy (by omega) (by omega);obtain⟨b,C,m⟩:=aaK z 21 hz (by omega) (by omega);refine⟨n,1+d,b,⟨by omega,⟨by omega,by omega⟩,by omega⟩,fun w=>?_⟩;have P:M6 (_/\_/\_):=⟨o,p,m⟩;clear o p m hx hy hz;obtain⟨a,i⟩:∃a,a=w.alloc (MP #[MF ME 0,MF ME 0,MF ME 0] 31):=⟨_,rfl⟩;have f:a.heap[w.heap.size]?=MI (MP #[MF ME 0,MF ME 0,MF ME 0] 31 (0,0)):=by rw[i];exact M1 _ _
 have j:MQ w.heap.size w a:=by rw[i];exact WQ _
 obtain⟨c0,c1,c2,q⟩:=alx f;have u:a.frozen? ⟨w.heap.size,0,MH⟩=false:=by simp[Ng,f]
 have D:a.frozen? ⟨w.heap.size,1,MH⟩=false:=by simp[Ng,f]
 have B:a.frozen? ⟨w.heap.size,2,MH⟩=false:=by simp[Ng,f]
 have H:M6 (_/\_/\_):=⟨i,f,j⟩;clear i f j;go_enter Tryz.func25,Tryz.ntmps25
 go_wp2_with fail
 rw[<-H.out.1];refine(P.out.1 _).mono ?_;rintro e w' ⟨rfl,rfl⟩
 go_wp2_with fail
 refine(P.out.2.1 _).mono ?_;rintro e w' ⟨rfl,rfl⟩
 go_wp2_with fail
 refine(P.out.2.2 _).mono ?_;rintro e w' ⟨rfl,rfl⟩;go_wp2;exact Np (v:=Ny #[MF ME n,MF ME (1+d),MF ME b]) (Z2 Tryz.results25 rfl (Xp (P:=MK) (cs:=[MF ME n,MF ME (1+d),MF ME b]) (alw H.out.2.1) Tryz.underlying31 rfl (by kernel_rfl))) rfl ⟨by simp,((H.out.2.2.setCell (MV _) _).setCell (MV _) _).setCell (MV _) _⟩
theorem ars(x y z:Int)(hx:(N6 ME x).wf=Nw)(hy:(N6 ME y).wf=Nw)(hz:(N6 ME z).wf=Nw) :
  ∃n f d:Nat,(1<=n/\n<=16)/\(1<=f/\f<=n)/\(1<=d/\d<=500)/\n=1+ZN x 16/\∀w,Ni MK 26 #[MF ME x,MF ME y,MF ME z] w fun r w'=>r=MN (acS n f d)/\MQ w.heap.size w w':=by
 have s:∀W,Ni MK 24 #[MF ME x,MF ME 16] W fun r w'=>r=MN (MF ME (ZN x 16:Nat))/\w'=W:=fun W=>by
  have q:=adr hx;have:=aga x 16 W q.1 q.2 (by omega) (by omega);exact this
 have D:=af9 x 16 (by omega);generalize ZN x 16=n at *;obtain⟨f,C,m⟩:=aaK y (1+n) hy (by omega) (by omega);obtain⟨d,A,p⟩:=aaK z 500 hz (by omega) (by omega);refine⟨1+n,1+f,1+d,⟨by omega,by omega⟩,⟨by omega,by omega⟩,⟨by omega,by omega⟩,rfl,fun w=>?_⟩;rw[Int.natCast_add]at m;have P:M6 (_/\_/\_):=⟨s,m,p⟩;clear s m p hx hy hz;obtain⟨a,j⟩:∃a,a=w.alloc (MP #[MF ME 0,MF ME 0,MF ME 0] 33):=⟨_,rfl⟩;have i:a.heap[w.heap.size]?=MI (MP #[MF ME 0,MF ME 0,MF ME 0] 33 (0,0)):=by rw[j];exact M1 _ _
 have o:MQ w.heap.size w a:=by rw[j];exact WQ _
 obtain⟨c0,c1,c2,u⟩:=alx i;have B:a.frozen? ⟨w.heap.size,0,MH⟩=false:=by simp[Ng,i]
 have F:a.frozen? ⟨w.heap.size,1,MH⟩=false:=by simp[Ng,i]
 have E:a.frozen? ⟨w.heap.size,2,MH⟩=false:=by simp[Ng,i]
 have H:M6 (_/\_/\_):=⟨j,i,o⟩;clear j i o;go_enter Tryz.func26,Tryz.ntmps26
 go_wp2_with fail
 rw[<-H.out.1];refine(P.out.1 _).mono ?_;rintro e w' ⟨rfl,rfl⟩
 go_wp2_with fail
 refine(P.out.2.1 _).mono ?_;rintro e w' ⟨rfl,rfl⟩
 go_wp2_with fail
 refine(P.out.2.2 _).mono ?_;rintro e w' ⟨rfl,rfl⟩;go_wp2;exact Np (v:=Ny #[MF ME (1+n),MF ME (1+f),MF ME (1+d)]) (Z2 Tryz.results26 rfl (Xp (P:=MK) (cs:=[MF ME (1+n),MF ME (1+f),MF ME (1+d)]) (alw H.out.2.1) OP rfl (by kernel_rfl))) rfl ⟨by simp,((H.out.2.2.setCell (MV _) _).setCell (MV _) _).setCell (MV _) _⟩
theorem arb(n many:Int)(w:MO)(h0:-9223372036854775808<=n)(h1:n<=9223372036854775807)(h2:0<many)(h3:many<=9223372036854775807):Ni MK 12 #[MF ME n,MF ME many] w fun e w'=>e=MN (MF ME ((ZN n many.toNat:Nat):Int))/\w'=w:=by
 have H:M6 _:=aga n many w h0 h1 h2 h3;go_enter Tryz.func12,Tryz.ntmps12
 go_wp2_with fail
 refine Nd H.out ?_;rintro r a ⟨rfl,rfl⟩;go_wp2;go_ret;exact⟨rfl,rfl⟩
abbrev agc(x0 x1 x2 x3 x4 x5 x6 x7 x8 x9 x10 x11 x12 x13 x14 x15:Int):Value:=Ny #[MF ME x0,MF ME x1,MF ME x2,MF ME x3,MF ME x4,MF ME x5,MF ME x6,MF ME x7,MF ME x8,MF ME x9,MF ME x10,MF ME x11,MF ME x12,MF ME x13,MF ME x14,MF ME x15]
abbrev ahX(x0 x1 x2 x3 x4 x5 x6 x7 x8 x9 x10 x11 x12 x13 x14 x15:Int):Obj:=MP #[MF ME x0,MF ME x1,MF ME x2,MF ME x3,MF ME x4,MF ME x5,MF ME x6,MF ME x7,MF ME x8,MF ME x9,MF ME x10,MF ME x11,MF ME x12,MF ME x13,MF ME x14,MF ME x15] 24
theorem ahY{b:Nat}{x0 x1 x2 x3 x4 x5 x6 x7 x8 x9 x10 x11 x12 x13 x14 x15:Int}(h:w.heap[b]?=MI (ahX x0 x1 x2 x3 x4 x5 x6 x7 x8 x9 x10 x11 x12 x13 x14 x15)):w.cell? ⟨b,0,MH⟩=MI (MF ME x0)/\w.cell? ⟨b,1,MH⟩=MI (MF ME x1)/\w.cell? ⟨b,2,MH⟩=MI (MF ME x2)/\w.cell? ⟨b,3,MH⟩=MI (MF ME x3)/\w.cell? ⟨b,4,MH⟩=MI (MF ME x4)/\w.cell? ⟨b,5,MH⟩=MI (MF ME x5)/\w.cell? ⟨b,6,MH⟩=MI (MF ME x6)/\w.cell? ⟨b,7,MH⟩=MI (MF ME x7)/\w.cell? ⟨b,8,MH⟩=MI (MF ME x8)/\w.cell? ⟨b,9,MH⟩=MI (MF ME x9)/\w.cell? ⟨b,10,MH⟩=MI (MF ME x10)/\w.cell? ⟨b,11,MH⟩=MI (MF ME x11)/\w.cell? ⟨b,12,MH⟩=MI (MF ME x12)/\w.cell? ⟨b,13,MH⟩=MI (MF ME x13)/\w.cell? ⟨b,14,MH⟩=MI (MF ME x14)/\w.cell? ⟨b,15,MH⟩=MI (MF ME x15)/\b<w.heap.size :=
 ⟨by simp[Nl,h],by simp[Nl,h],by simp[Nl,h],by simp[Nl,h],by simp[Nl,h],by simp[Nl,h],by simp[Nl,h],by simp[Nl,h],by simp[Nl,h],by simp[Nl,h],by simp[Nl,h],by simp[Nl,h],by simp[Nl,h],by simp[Nl,h],by simp[Nl,h],by simp[Nl,h],(ZAa.1 h).1⟩
theorem aru(x:Int):(N6 ME (x.tmod 20)).wf=true:=by
 by_cases h:x<0
 ·have e:x.tmod 20 = -((-x) % 20):=by
   rw[show x = -(-x)by omega,Int.neg_tmod,Oi (by omega)];simp
  rw[e];exact aez (by omega) (by omega)
 ·rw[Oi (by omega)]
  exact aez (by omega) (by omega)
theorem awX{P:O8}{md:Region.Mode}{ops:Array Oper}{Q:Exit->Act->MO->Prop}{S:MO->Prop}(i:Nat)(v:M7){oi:Oper}{fuel:Nat}{listed:Array Bool}{a:Act}(hS:S w)
  (h:wpAnyH P md ops Q S fuel (listed.setIfInBounds i Nw) (a.put oi.dst v) w) (hi:ops[i]?=MI oi:=by rfl) (hs:Region.noSelect ops=true:=by kernel_rfl) (hf:Region.free md ops listed i=true:=by kernel_rfl) (hr:(Region.ready md ops listed).contains i=true:=by kernel_rfl)
  (hQ:∀c a w,Q (.panic c) (a.put oi.dst v) w->Q (.panic c) a w:=by exact fun _ _ _ h=>h) (hy:YieldsIf P ops S oi v a:=by exact Or.inl ⟨by rfl,fun X hSw=>by obtain⟨s0,s1,s2,s3,s4,s5,s6,s7,s8,s9,s10,s11,s12,s13,s14,s15⟩:=hSw;go_simp⟩):wpAnyH P md ops Q S (fuel+1) listed a w :=
 ND hi hs hf hr hQ hy hS h
theorem abk{n:Int}(h1:-1000000<=n)(h2:n<=1000000):IntKind.i64.wrap n=n:=by rw[Ow];omega
theorem arf(l:List Int):(l.map fun x=>MF ME x).toArray.all (·.oneCell')=true:=by
 apply OE;intro v a;obtain⟨x,_,rfl⟩:=ZAd.1 a;rfl
structure aar(x0 x1 x2 x3 x4 x5 x6 x7 x8 x9 x10 x11 x12 x13 x14 x15:Int)(c:Cf):Prop where
 ok:acO c
 flows:c.flows<=8
 drain:c.drain<=5
 idle:c.idle<=6
 conn:c.conn<=4
 ret:c.ret<=3
 most:c.most=((ZN x9 101:Nat):Int)
theorem ark(x0 x1 x2 x3 x4 x5 x6 x7 x8 x9 x10 x11 x12 x13 x14 x15:Int)(w0:(N6 ME x0).wf=Nw)(w1:(N6 ME x1).wf=Nw)(w2:(N6 ME x2).wf=Nw)(w3:(N6 ME x3).wf=Nw)(w4:(N6 ME x4).wf=Nw)(w5:(N6 ME x5).wf=Nw)(w6:(N6 ME x6).wf=Nw)(w7:(N6 ME x7).wf=Nw)(w8:(N6 ME x8).wf=Nw)(w9:(N6 ME x9).wf=Nw)(w10:(N6 ME x10).wf=Nw)(w11:(N6 ME x11).wf=Nw)(w12:(N6 ME x12).wf=Nw)(w13:(N6 ME x13).wf=Nw)(w14:(N6 ME x14).wf=Nw)(w15:(N6 ME x15).wf=Nw) :
  ∃c:Cf,aar x0 x1 x2 x3 x4 x5 x6 x7 x8 x9 x10 x11 x12 x13 x14 x15 c/\∀w,Ni MK 13 #[agc x0 x1 x2 x3 x4 x5 x6 x7 x8 x9 x10 x11 x12 x13 x14 x15] w fun r w'=>r=MN (aeV c)/\MQ w.heap.size w w':=by
 obtain⟨a,b2,p2⟩:=aaK x2 20 w2 (by omega) (by omega);obtain⟨d,b0,p0⟩:=aaK x0 8 w0 (by omega) (by omega);obtain⟨y,b3,p3⟩:=aaK x3 4 w3 (by omega) (by omega);obtain⟨x,b4,p4⟩:=aaK x4 6 w4 (by omega) (by omega);obtain⟨j,b5,p5⟩:=aaK x5 5 w5 (by omega) (by omega);obtain⟨m,b6,p6⟩:=aaK x6 6 w6 (by omega) (by omega);obtain⟨i,b7,p7⟩:=aaK x7 4 w7 (by omega) (by omega);obtain⟨s,b8,p8⟩:=aaK x8 4 w8 (by omega) (by omega);obtain⟨p,b1,p1⟩:=aaK x1 (20-a) w1 (by omega) (by omega);have c9:(((20-a:Nat)):Int)=20-(1+(a:Int))+1:=by omega
 rw[c9]at p1;have p9:∀W,Ni MK 24 #[MF ME x9,MF ME 101] W fun r w'=>r=MN (MF ME ((ZN x9 101:Nat):Int))/\w'=W:=fun W=>by
  have L:=adr w9;exact aga x9 101 W L.1 L.2 (by omega) (by omega)
 have b9:=af9 x9 101 (by omega);obtain⟨D,C,E,f0,pb⟩:=ari x10 x11 x12 w10 w11 w12;obtain⟨F,wf,A,g5,f2,g9,_,pw⟩:=ars x13 x14 (x15.tmod 20) w13 w14 (aru x15);refine⟨⟨1+d,1+a+p,1+a,y,x,1+j,1+m,1+i,s,(ZN x9 101:Nat),D,C,E,F,wf,A⟩,⟨⟨⟨by show(1:Int)<=1+d;omega,by show(1:Int)+d<=40;omega⟩,⟨by show(1:Int)<=1+a;omega,by show(1:Int)+a<=1+a+p;omega⟩,by show(1:Int)+a+p<=20;omega,⟨by show(0:Int)<=y;omega,by show(y:Int)<=12;omega⟩,⟨by show(0:Int)<=x;omega,by show(x:Int)<=500;omega⟩,⟨by show(1:Int)<=1+j;omega,by show(1:Int)+j<=500;omega⟩,⟨by show(1:Int)<=1+m;omega,by show(1:Int)+m<=500;omega⟩,⟨by show(1:Int)<=1+i;omega,by show(1:Int)+i<=500;omega⟩,⟨by show(0:Int)<=s;omega,by show(s:Int)<=20;omega⟩,⟨by show(0:Int)<=((ZN x9 101:Nat):Int);omega,by show((ZN x9 101:Nat):Int)<=100;omega⟩,?_,?_⟩,by show(1:Int)+d<=8;omega,by show(1:Int)+j<=5;omega,by show(1:Int)+m<=6;omega,by show(1:Int)+i<=4;omega,by show(s:Int)<=3;omega,rfl⟩,fun w=>?_⟩
 ·show Zp (D:Int) (C:Int) (E:Int)
  exact⟨by omega,by omega,by omega⟩
 ·show ZT (F:Int) (wf:Int) (A:Int)
  exact⟨by omega,by omega,by omega⟩
 obtain⟨B,c6⟩:∃B,B=ZN x9 101:=⟨_,rfl⟩;rw[<-c6]at p9 b9⊢;clear c6 c9 w0 w1 w2 w3 w4 w5 w6 w7 w8 w9 w10 w11 w12 w13 w14 w15;have g0:IntKind.i64.wrap (1+(d:Int))=1+(d:Int):=abk (by omega) (by omega);have f3:IntKind.i64.wrap (20-(1+(a:Int)))=20-(1+(a:Int)):=abk (by omega) (by omega);have f8:IntKind.i64.wrap (20-(1+(a:Int))+1)=20-(1+(a:Int))+1:=abk (by omega) (by omega);have f5:IntKind.i64.wrap (1+(a:Int)+(p:Int))=1+(a:Int)+(p:Int):=abk (by omega) (by omega);have f6:IntKind.i64.wrap (1+(j:Int))=1+(j:Int):=abk (by omega) (by omega);have f9:IntKind.i64.wrap (1+(m:Int))=1+(m:Int):=abk (by omega) (by omega);have g6:IntKind.i64.wrap (1+(i:Int))=1+(i:Int):=abk (by omega) (by omega);obtain⟨J,N⟩:∃J,J=(w.alloc (ahX x0 x1 x2 x3 x4 x5 x6 x7 x8 x9 x10 x11 x12 x13 x14 x15)).alloc (abX Xv):=⟨_,rfl⟩;have d1:MQ w.heap.size w J:=by rw[N];exact(WQ w).trans ((WQ _).mono (by simp))
 have M:J.heap[w.heap.size]?=MI (ahX x0 x1 x2 x3 x4 x5 x6 x7 x8 x9 x10 x11 x12 x13 x14 x15):=by rw[N];exact Xy _ _ (M1 _ _)
 have I:J.heap[w.heap.size+1]?=MI (abX Xv):=by rw[N];exact Yu _ _ _
 obtain⟨b,L⟩:∃b,b=w.heap.size:=⟨_,rfl⟩;obtain⟨g,hg⟩:∃g,g=w.heap.size+1:=⟨_,rfl⟩;rw[<-L]at M;rw[<-hg]at I;obtain⟨a0,a1,a2,a3,a4,a5,a6,a7,a8,a9,g3,g7,g4,g1,f4,g8,f7⟩:=ahY M;have H:M6 (_/\_/\_/\_/\_/\_/\_/\_/\_/\_):=⟨p0,p1,p2,p3,p4,p5,p6,p7,p8,p9⟩;have c5:w.heap.size<=g:=by omega
 have G:M6 (_/\_/\_/\_/\_/\_/\_):=⟨d1,M,I,N,L,hg,c5⟩;have HS:M6 (∀X,MQ J.heap.size J X->X.cell? ⟨b,0,MH⟩=MI (MF ME x0)/\X.cell? ⟨b,1,MH⟩=MI (MF ME x1)/\X.cell? ⟨b,2,MH⟩=MI (MF ME x2)/\X.cell? ⟨b,3,MH⟩=MI (MF ME x3)/\X.cell? ⟨b,4,MH⟩=MI (MF ME x4)/\X.cell? ⟨b,5,MH⟩=MI (MF ME x5)/\X.cell? ⟨b,6,MH⟩=MI (MF ME x6)/\X.cell? ⟨b,7,MH⟩=MI (MF ME x7)/\X.cell? ⟨b,8,MH⟩=MI (MF ME x8)/\X.cell? ⟨b,9,MH⟩=MI (MF ME x9)/\X.cell? ⟨b,10,MH⟩=MI (MF ME x10)/\X.cell? ⟨b,11,MH⟩=MI (MF ME x11)/\X.cell? ⟨b,12,MH⟩=MI (MF ME x12)/\X.cell? ⟨b,13,MH⟩=MI (MF ME x13)/\X.cell? ⟨b,14,MH⟩=MI (MF ME x14)/\X.cell? ⟨b,15,MH⟩=MI (MF ME x15)):=fun X hX=>by
  obtain⟨q0,q1,q2,q3,q4,q5,q6,q7,q8,q9,e4,d8,d5,e9,e3,e5,_⟩:=ahY (WO M hX);exact⟨q0,q1,q2,q3,q4,q5,q6,q7,q8,q9,e4,d8,d5,e9,e3,e5⟩
 have HB:M6 _:=pb;have HW:M6 _:=pw;have f1:∀X:MO,(binOp .rem 3 (MF ME x15) (MF ME 20)).run MK X=.ok (MF ME (x15.tmod 20)) X:=fun X=>by go_simp
 clear p0 p1 p2 p3 p4 p5 p6 p7 p8 p9 d1 M I N pb pw L hg c5;go_enter Tryz.func13,Tryz.ntmps13
 go_wp2_with fail
 rw[show(#[MF ME 0,MF ME 0,MF ME 0,MF ME 0,MF ME 0,MF ME 0,MF ME 0,MF ME 0,MF ME 0,MF ME 0,MF ME 0,MF ME 0,MF ME 0,MF ME 0,MF ME 0,MF ME 0]:Array M7)=#[MF ME Xv.flows,MF ME Xv.num,MF ME Xv.den,MF ME Xv.tries,MF ME Xv.warm,MF ME Xv.drain,MF ME Xv.idle,MF ME Xv.conn,MF ME Xv.ret,MF ME Xv.most,MF ME Xv.bn,MF ME Xv.bd,MF ME Xv.bb,MF ME Xv.wn,MF ME Xv.wf,MF ME Xv.wh]from rfl,<-G.out.2.2.2.1,<-G.out.2.2.2.2.2.1,<-G.out.2.2.2.2.1];refine(H.out.2.2.1 _).mono ?_;rintro r v1 ⟨rfl,e7⟩;subst e7;go_wp2;have Z:MQ v1.heap.size v1 v1.drew:=(MY _ _).drew;refine O2 (S:=fun W=>W.cell? ⟨b,0,MH⟩=MI (MF ME x0)/\W.cell? ⟨b,1,MH⟩=MI (MF ME x1)/\W.cell? ⟨b,2,MH⟩=MI (MF ME x2)/\W.cell? ⟨b,3,MH⟩=MI (MF ME x3)/\W.cell? ⟨b,4,MH⟩=MI (MF ME x4)/\W.cell? ⟨b,5,MH⟩=MI (MF ME x5)/\W.cell? ⟨b,6,MH⟩=MI (MF ME x6)/\W.cell? ⟨b,7,MH⟩=MI (MF ME x7)/\W.cell? ⟨b,8,MH⟩=MI (MF ME x8)/\W.cell? ⟨b,9,MH⟩=MI (MF ME x9)/\W.cell? ⟨b,10,MH⟩=MI (MF ME x10)/\W.cell? ⟨b,11,MH⟩=MI (MF ME x11)/\W.cell? ⟨b,12,MH⟩=MI (MF ME x12)/\W.cell? ⟨b,13,MH⟩=MI (MF ME x13)/\W.cell? ⟨b,14,MH⟩=MI (MF ME x14)/\W.cell? ⟨b,15,MH⟩=MI (MF ME x15)) (by kernel_rfl) (HS.out _ Z) (fun hHeld=>?_);refine awX 0 (Na (MI ⟨b,0,MH⟩)) hHeld ?_;simp only[Nr,MJ,ML,MM];refine awX 1 (MF ME (x0)) hHeld ?_;simp only[Nr,MJ,ML,MM];refine awX 4 (MF ME (1+(a:Int))) hHeld ?_;simp only[Nr,MJ,ML,MM];refine awX 5 (Na (MI ⟨b,1,MH⟩)) hHeld ?_;simp only[Nr,MJ,ML,MM];refine awX 6 (MF ME (x1)) hHeld ?_;simp only[Nr,MJ,ML,MM];refine awX 7 (MF ME (1+(a:Int))) hHeld ?_;simp only[Nr,MJ,ML,MM];refine awX 8 (MF ME (20-(1+(a:Int)))) hHeld ?_;simp only[Nr,MJ,ML,MM];refine awX 9 (MF ME (20-(1+(a:Int))+1)) hHeld ?_;simp only[Nr,MJ,ML,MM];refine awX 12 (MF ME (1+(a:Int))) hHeld ?_;simp only[Nr,MJ,ML,MM];refine awX 13 (Na (MI ⟨b,3,MH⟩)) hHeld ?_;simp only[Nr,MJ,ML,MM];refine awX 14 (MF ME (x3)) hHeld ?_;simp only[Nr,MJ,ML,MM];refine awX 16 (Na (MI ⟨b,4,MH⟩)) hHeld ?_;simp only[Nr,MJ,ML,MM];refine awX 17 (MF ME (x4)) hHeld ?_;simp only[Nr,MJ,ML,MM];refine awX 19 (Na (MI ⟨b,5,MH⟩)) hHeld ?_;simp only[Nr,MJ,ML,MM];refine awX 20 (MF ME (x5)) hHeld ?_;simp only[Nr,MJ,ML,MM];refine awX 23 (Na (MI ⟨b,6,MH⟩)) hHeld ?_;simp only[Nr,MJ,ML,MM];refine awX 24 (MF ME (x6)) hHeld ?_;simp only[Nr,MJ,ML,MM];refine awX 27 (Na (MI ⟨b,7,MH⟩)) hHeld ?_;simp only[Nr,MJ,ML,MM];refine awX 28 (MF ME (x7)) hHeld ?_;simp only[Nr,MJ,ML,MM];refine awX 31 (Na (MI ⟨b,8,MH⟩)) hHeld ?_;simp only[Nr,MJ,ML,MM];refine awX 32 (MF ME (x8)) hHeld ?_;simp only[Nr,MJ,ML,MM];refine awX 34 (Na (MI ⟨b,9,MH⟩)) hHeld ?_;simp only[Nr,MJ,ML,MM];refine awX 35 (MF ME (x9)) hHeld ?_;simp only[Nr,MJ,ML,MM];refine awX 37 (Na (MI ⟨b,10,MH⟩)) hHeld ?_;simp only[Nr,MJ,ML,MM];refine awX 38 (Na (MI ⟨b,10,MH⟩)) hHeld ?_;simp only[Nr,MJ,ML,MM];refine awX 39 (MF ME (x10)) hHeld ?_;simp only[Nr,MJ,ML,MM];refine awX 40 (Na (MI ⟨b,10,MH⟩)) hHeld ?_;simp only[Nr,MJ,ML,MM];refine awX 41 (Na (MI ⟨b,11,MH⟩)) hHeld ?_;simp only[Nr,MJ,ML,MM];refine awX 42 (MF ME (x11)) hHeld ?_;simp only[Nr,MJ,ML,MM];refine awX 43 (Na (MI ⟨b,10,MH⟩)) hHeld ?_;simp only[Nr,MJ,ML,MM];refine awX 44 (Na (MI ⟨b,12,MH⟩)) hHeld ?_;simp only[Nr,MJ,ML,MM];refine awX 45 (MF ME (x12)) hHeld ?_;simp only[Nr,MJ,ML,MM];refine awX 47 (Na (MI ⟨b,13,MH⟩)) hHeld ?_;simp only[Nr,MJ,ML,MM];refine awX 48 (Na (MI ⟨b,13,MH⟩)) hHeld ?_;simp only[Nr,MJ,ML,MM];refine awX 49 (MF ME (x13)) hHeld ?_;simp only[Nr,MJ,ML,MM];refine awX 50 (Na (MI ⟨b,13,MH⟩)) hHeld ?_;simp only[Nr,MJ,ML,MM];refine awX 51 (Na (MI ⟨b,14,MH⟩)) hHeld ?_;simp only[Nr,MJ,ML,MM];refine awX 52 (MF ME (x14)) hHeld ?_;simp only[Nr,MJ,ML,MM];refine awX 53 (Na (MI ⟨b,13,MH⟩)) hHeld ?_;simp only[Nr,MJ,ML,MM];refine awX 54 (Na (MI ⟨b,15,MH⟩)) hHeld ?_;simp only[Nr,MJ,ML,MM];refine awX 55 (MF ME (x15)) hHeld ?_;simp only[Nr,MJ,ML,MM];refine awX 56 (MF ME (x15.tmod 20)) hHeld ?_;simp only[Nr,MJ,ML,MM];refine NN (rs:=[2]) (by kernel_rfl) (by simp) ?_;refine NP (o:=_) rfl (fun K hK=>?_) NX;go_simp;refine(H.out.1 _).mono ?_;rintro r u ⟨rfl,n⟩;subst n
 go_wp2_with fail
 refine hK.out _ _ hHeld (fun hHeld=>?_);clear hK K
 try simp only[Nr,MJ,ML,MM]
 refine awX 3 (MF ME (1+(d:Int))) hHeld ?_;simp only[Nr,MJ,ML,MM];refine NN (rs:=[10]) (by kernel_rfl) (by simp) ?_;refine NP (o:=_) rfl (fun K hK=>?_) NX;go_simp;refine(H.out.2.1 _).mono ?_;rintro r u ⟨rfl,n⟩;subst n
 go_wp2_with fail
 refine hK.out _ _ hHeld (fun hHeld=>?_);clear hK K
 try simp only[Nr,MJ,ML,MM]
 refine awX 11 (MF ME (1+(a:Int)+(p:Int))) hHeld ?_;simp only[Nr,MJ,ML,MM];refine NN (rs:=[15]) (by kernel_rfl) (by simp) ?_;refine NP (o:=_) rfl (fun K hK=>?_) NX;go_simp;refine(H.out.2.2.2.1 _).mono ?_;rintro r u ⟨rfl,n⟩;subst n
 go_wp2_with fail
 refine hK.out _ _ hHeld (fun hHeld=>?_);clear hK K
 try simp only[Nr,MJ,ML,MM]
 refine NN (rs:=[18]) (by kernel_rfl) (by simp) ?_;refine NP (o:=_) rfl (fun K hK=>?_) NX;go_simp;refine(H.out.2.2.2.2.1 _).mono ?_;rintro r u ⟨rfl,n⟩;subst n
 go_wp2_with fail
 refine hK.out _ _ hHeld (fun hHeld=>?_);clear hK K
 try simp only[Nr,MJ,ML,MM]
 refine NN (rs:=[21]) (by kernel_rfl) (by simp) ?_;refine NP (o:=_) rfl (fun K hK=>?_) NX;go_simp;refine(H.out.2.2.2.2.2.1 _).mono ?_;rintro r u ⟨rfl,n⟩;subst n
 go_wp2_with fail
 refine hK.out _ _ hHeld (fun hHeld=>?_);clear hK K
 try simp only[Nr,MJ,ML,MM]
 refine awX 22 (MF ME (1+(j:Int))) hHeld ?_;simp only[Nr,MJ,ML,MM];refine NN (rs:=[25]) (by kernel_rfl) (by simp) ?_;refine NP (o:=_) rfl (fun K hK=>?_) NX;go_simp;refine(H.out.2.2.2.2.2.2.1 _).mono ?_;rintro r u ⟨rfl,n⟩;subst n
 go_wp2_with fail
 refine hK.out _ _ hHeld (fun hHeld=>?_);clear hK K
 try simp only[Nr,MJ,ML,MM]
 refine awX 26 (MF ME (1+(m:Int))) hHeld ?_;simp only[Nr,MJ,ML,MM];refine NN (rs:=[29]) (by kernel_rfl) (by simp) ?_;refine NP (o:=_) rfl (fun K hK=>?_) NX;go_simp;refine(H.out.2.2.2.2.2.2.2.1 _).mono ?_;rintro r u ⟨rfl,n⟩;subst n
 go_wp2_with fail
 refine hK.out _ _ hHeld (fun hHeld=>?_);clear hK K
 try simp only[Nr,MJ,ML,MM]
 refine awX 30 (MF ME (1+(i:Int))) hHeld ?_;simp only[Nr,MJ,ML,MM];refine NN (rs:=[33]) (by kernel_rfl) (by simp) ?_;refine NP (o:=_) rfl (fun K hK=>?_) NX;go_simp;refine(H.out.2.2.2.2.2.2.2.2.1 _).mono ?_;rintro r u ⟨rfl,n⟩;subst n
 go_wp2_with fail
 refine hK.out _ _ hHeld (fun hHeld=>?_);clear hK K
 try simp only[Nr,MJ,ML,MM]
 refine NN (rs:=[36]) (by kernel_rfl) (by simp) ?_;refine NP (o:=_) rfl (fun K hK=>?_) NX;go_simp;refine(H.out.2.2.2.2.2.2.2.2.2 _).mono ?_;rintro r u ⟨rfl,n⟩;subst n
 go_wp2_with fail
 refine hK.out _ _ hHeld (fun hHeld=>?_);clear hK K
 try simp only[Nr,MJ,ML,MM]
 refine NN (rs:=[46]) (by kernel_rfl) (by simp) ?_;refine NP (o:=_) rfl (fun K hK=>?_) NX;go_simp;refine(HB.out _).mono ?_;rintro r u2 ⟨rfl,d2⟩;have c4:=Z.trans (d2.mono Z.size);clear d2
 go_wp2_with fail
 refine hK.out _ _ (HS.out _ c4) (fun hHeld=>?_);clear hK K
 try simp only[Nr,MJ,ML,MM]
 refine NN (rs:=[57]) (by kernel_rfl) (by simp) ?_;refine NP (o:=_) rfl (fun K hK=>?_) NX;go_simp;refine(HW.out _).mono ?_;rintro r U ⟨rfl,d0⟩;have R:=c4.trans (d0.mono c4.size);clear d0
 go_wp2_with fail
 refine hK.out _ _ (HS.out _ R) (fun hHeld=>?_);clear hK K
 try simp only[Nr,MJ,ML,MM]
 refine awX 58 (Ny #[MF ME (1+(d:Int)),MF ME (1+(a:Int)+(p:Int)),MF ME (1+(a:Int)),MF ME ((y:Int)),MF ME ((x:Int)),MF ME (1+(j:Int)),MF ME (1+(m:Int)),MF ME (1+(i:Int)),MF ME ((s:Int)),MF ME ((B:Int)),MF ME ((D:Int)),MF ME ((C:Int)),MF ME ((E:Int)),MF ME ((F:Int)),MF ME ((wf:Int)),MF ME ((A:Int))]) hHeld ?_;simp only[Nr,MJ,ML,MM];simp only[MZ,MT,MS,ML,MM];have I:=WO G.out.2.2.1 R;have V:=G.out.1.trans (R.mono G.out.1.size);have c8:=aeU (cs:=[MF ME Xv.flows,MF ME Xv.num,MF ME Xv.den,MF ME Xv.tries,MF ME Xv.warm,MF ME Xv.drain,MF ME Xv.idle,MF ME Xv.conn,MF ME Xv.ret,MF ME Xv.most,MF ME Xv.bn,MF ME Xv.bd,MF ME Xv.bb,MF ME Xv.wn,MF ME Xv.wf,MF ME Xv.wh]) I;have Y:=alv (cs:=[MF ME Xv.flows,MF ME Xv.num,MF ME Xv.den,MF ME Xv.tries,MF ME Xv.warm,MF ME Xv.drain,MF ME Xv.idle,MF ME Xv.conn,MF ME Xv.ret,MF ME Xv.most,MF ME Xv.bn,MF ME Xv.bd,MF ME Xv.bb,MF ME Xv.wn,MF ME Xv.wf,MF ME Xv.wh]) (vs:=[MF ME (1+(d:Int)),MF ME (1+(a:Int)+(p:Int)),MF ME (1+(a:Int)),MF ME ((y:Int)),MF ME ((x:Int)),MF ME (1+(j:Int)),MF ME (1+(m:Int)),MF ME (1+(i:Int)),MF ME ((s:Int)),MF ME ((B:Int)),MF ME ((D:Int)),MF ME ((C:Int)),MF ME ((E:Int)),MF ME ((F:Int)),MF ME ((wf:Int)),MF ME ((A:Int))]) I rfl;have c3:=adp V G.out.2.2.2.2.2.2 0 [MF ME (1+(d:Int)),MF ME (1+(a:Int)+(p:Int)),MF ME (1+(a:Int)),MF ME ((y:Int)),MF ME ((x:Int)),MF ME (1+(j:Int)),MF ME (1+(m:Int)),MF ME (1+(i:Int)),MF ME ((s:Int)),MF ME ((B:Int)),MF ME ((D:Int)),MF ME ((C:Int)),MF ME ((E:Int)),MF ME ((F:Int)),MF ME ((wf:Int)),MF ME ((A:Int))] V.size;obtain⟨f,O⟩:∃f,f=U.setCells g 0 [MF ME (1+(d:Int)),MF ME (1+(a:Int)+(p:Int)),MF ME (1+(a:Int)),MF ME ((y:Int)),MF ME ((x:Int)),MF ME (1+(j:Int)),MF ME (1+(m:Int)),MF ME (1+(i:Int)),MF ME ((s:Int)),MF ME ((B:Int)),MF ME ((D:Int)),MF ME ((C:Int)),MF ME ((E:Int)),MF ME ((F:Int)),MF ME ((wf:Int)),MF ME ((A:Int))]:=⟨_,rfl⟩;rw[<-O]at Y c3;have HZ:M6 (_/\_):=⟨Y,c3⟩;clear Y c3 I V;have c7:f.cell? ⟨b,0,MH⟩=MI (MF ME x0)/\f.cell? ⟨b,1,MH⟩=MI (MF ME x1)/\f.cell? ⟨b,2,MH⟩=MI (MF ME x2)/\f.cell? ⟨b,3,MH⟩=MI (MF ME x3)/\f.cell? ⟨b,4,MH⟩=MI (MF ME x4)/\f.cell? ⟨b,5,MH⟩=MI (MF ME x5)/\f.cell? ⟨b,6,MH⟩=MI (MF ME x6)/\f.cell? ⟨b,7,MH⟩=MI (MF ME x7)/\f.cell? ⟨b,8,MH⟩=MI (MF ME x8)/\f.cell? ⟨b,9,MH⟩=MI (MF ME x9)/\f.cell? ⟨b,10,MH⟩=MI (MF ME x10)/\f.cell? ⟨b,11,MH⟩=MI (MF ME x11)/\f.cell? ⟨b,12,MH⟩=MI (MF ME x12)/\f.cell? ⟨b,13,MH⟩=MI (MF ME x13)/\f.cell? ⟨b,14,MH⟩=MI (MF ME x14)/\f.cell? ⟨b,15,MH⟩=MI (MF ME x15):=by
  rw[O];have d7:b≠g:=by rw[G.out.2.2.2.2.1,G.out.2.2.2.2.2.1];omega
  have e0:b<U.heap.size:=(ahY (WO G.out.2.1 R)).2.2.2.2.2.2.2.2.2.2.2.2.2.2.2.2;have q:∀k v,U.cell? ⟨b,k,MH⟩=MI v->(U.setCells g 0 [MF ME (1+(d:Int)),MF ME (1+(a:Int)+(p:Int)),MF ME (1+(a:Int)),MF ME ((y:Int)),MF ME ((x:Int)),MF ME (1+(j:Int)),MF ME (1+(m:Int)),MF ME (1+(i:Int)),MF ME ((s:Int)),MF ME ((B:Int)),MF ME ((D:Int)),MF ME ((C:Int)),MF ME ((E:Int)),MF ME ((F:Int)),MF ME ((wf:Int)),MF ME ((A:Int))]).cell? ⟨b,k,MH⟩=MI v:=fun k v h=>(NG (N8 _ _ _ _ e0 d7)).trans h
  obtain⟨s0,s1,s2,s3,s4,s5,s6,s7,s8,s9,e6,d6,e8,d9,d3,d4⟩:=hHeld;exact⟨q _ _ s0,q _ _ s1,q _ _ s2,q _ _ s3,q _ _ s4,q _ _ s5,q _ _ s6,q _ _ s7,q _ _ s8,q _ _ s9,q _ _ e6,q _ _ d6,q _ _ e8,q _ _ d9,q _ _ d3,q _ _ d4⟩
 refine NN (rs:=[59]) (by kernel_rfl) (by simp) ?_;refine NP (o:=_) rfl (fun K hK=>?_) NX;rw[Nh (by rfl)];refine wp_store_mid _ _ _ rfl _ _ #[MF ME (1+(d:Int)),MF ME (1+(a:Int)+(p:Int)),MF ME (1+(a:Int)),MF ME ((y:Int)),MF ME ((x:Int)),MF ME (1+(j:Int)),MF ME (1+(m:Int)),MF ME (1+(i:Int)),MF ME ((s:Int)),MF ME ((B:Int)),MF ME ((D:Int)),MF ME ((C:Int)),MF ME ((E:Int)),MF ME ((F:Int)),MF ME ((wf:Int)),MF ME ((A:Int))] rfl rfl c8 (by kernel_rfl) (arf [1+(d:Int),1+(a:Int)+(p:Int),1+(a:Int),(y:Int),(x:Int),1+(j:Int),1+(m:Int),1+(i:Int),(s:Int),(B:Int),(D:Int),(C:Int),(E:Int),(F:Int),(wf:Int),(A:Int)]) ?_;rw[show RW (#[MF ME (1+(d:Int)),MF ME (1+(a:Int)+(p:Int)),MF ME (1+(a:Int)),MF ME ((y:Int)),MF ME ((x:Int)),MF ME (1+(j:Int)),MF ME (1+(m:Int)),MF ME (1+(i:Int)),MF ME ((s:Int)),MF ME ((B:Int)),MF ME ((D:Int)),MF ME ((C:Int)),MF ME ((E:Int)),MF ME ((F:Int)),MF ME ((wf:Int)),MF ME ((A:Int))]:Array M7)=[MF ME (1+(d:Int)),MF ME (1+(a:Int)+(p:Int)),MF ME (1+(a:Int)),MF ME ((y:Int)),MF ME ((x:Int)),MF ME (1+(j:Int)),MF ME (1+(m:Int)),MF ME (1+(i:Int)),MF ME ((s:Int)),MF ME ((B:Int)),MF ME ((D:Int)),MF ME ((C:Int)),MF ME ((E:Int)),MF ME ((F:Int)),MF ME ((wf:Int)),MF ME ((A:Int))]from rfl,<-O];refine hK.out _ _ c7 (fun hHeld=>?_);clear hK K O c7 c8
 try simp only[Nr,MJ,ML,MM]
 refine PS (by kernel_rfl) ?_ _;go_wp2
 try simp only[Nr,MJ,ML,MM]
 exact Np (v:=Ny #[MF ME (1+(d:Int)),MF ME (1+(a:Int)+(p:Int)),MF ME (1+(a:Int)),MF ME ((y:Int)),MF ME ((x:Int)),MF ME (1+(j:Int)),MF ME (1+(m:Int)),MF ME (1+(i:Int)),MF ME ((s:Int)),MF ME ((B:Int)),MF ME ((D:Int)),MF ME ((C:Int)),MF ME ((E:Int)),MF ME ((F:Int)),MF ME ((wf:Int)),MF ME ((A:Int))]) (Z2 Tryz.results13 rfl (Xp (P:=MK) (cs:=[MF ME (1+(d:Int)),MF ME (1+(a:Int)+(p:Int)),MF ME (1+(a:Int)),MF ME ((y:Int)),MF ME ((x:Int)),MF ME (1+(j:Int)),MF ME (1+(m:Int)),MF ME (1+(i:Int)),MF ME ((s:Int)),MF ME ((B:Int)),MF ME ((D:Int)),MF ME ((C:Int)),MF ME ((E:Int)),MF ME ((F:Int)),MF ME ((wf:Int)),MF ME ((A:Int))]) HZ.out.1 Ph rfl (by kernel_rfl))) rfl ⟨rfl,HZ.out.2⟩
end
section
variable {v:MO}
abbrev agQ(e:Ev):Value:=Ny #[MF ME e.kind,MF ME e.key,MF ME e.slot,MF ME e.gen,M3 e.good,MF ME e.req,MF ME e.be,MF ME e.wt]
theorem au9{k:Int}(h:0<=k/\k<100):Yk ⟨1,k,0,0,Nb,0,0,0⟩=0:=by
 simp[Yk,Zz,Ev.GZ,Ev.num,Ev.GE,Ev.Gc,Ev.Gd,Ev.Hi];omega
theorem ajh{k s g:Int}{x:Bool}(hk:(k=2\/k=3)/\x=Nb\/k=4)(h:0<=s/\s<40)(h2:0<=g/\g<=1048575):Yk ⟨k,0,s,g,x,0,0,0⟩=0:=by
 rcases hk with⟨rfl|rfl,rfl⟩|rfl
 all_goals (simp[Yk,Zz,Ev.GZ,Ev.num,Ev.GE,Ev.Gc,Ev.Gd,Ev.Hi];try (cases x <;> simp))
 all_goals omega
theorem anu{r b w:Int}(h:0<=r/\r<=2000)(h2:0<=b/\b<5)(h3:1<=w/\w<=8):Yk ⟨5,0,0,0,Nb,r,b,w⟩=0:=by
 simp[Yk,Zz,Ev.GZ,Ev.num,Ev.GE,Ev.Gc,Ev.Gd,Ev.Hi];omega
theorem ava{r b:Int}(h:0<=r/\r<=2000)(h2:0<=b/\b<5):Yk ⟨6,0,0,0,Nb,r,b,0⟩=0:=by
 simp[Yk,Zz,Ev.GZ,Ev.num,Ev.GE,Ev.Gc,Ev.Gd,Ev.Hi];omega
theorem anv:Yk ⟨7,0,0,0,Nb,0,0,0⟩=0:=by decide
theorem acd(n:Int)(h:-9223372036854775808<=n/\n<=9223372036854775807)(m:Nat)(i:Int)(hm:0<m/\m<=1000000/\i=m):∃k:Nat,k<m/\∀W,Ni MK 12 #[MF ME n,MF ME i] W fun r w'=>r=MN (MF ME (k:Int))/\w'=W:=by
 refine⟨ZN n m,af9 _ _ hm.1,fun W=>?_⟩;rw[hm.2.2];have:=arb n m W h.1 h.2 (by omega) (by omega);rwa[NR]at this
structure Xh(w u:MO)(D:Nat)(k a b c s n:Int):Prop where
 at_:D=w.heap.size
 bel:MQ w.heap.size w u
 deed:u.heap[D]?=MI (MP #[MF ME k,MF ME a,MF ME b,MF ME c] 93 (0,0))
 ev:u.heap[D+1]?=MI (MP #[MF ME 0,MF ME 0,MF ME 0,MF ME 0,M3 Nb,MF ME 0,MF ME 0,MF ME 0] 60 (0,0))
 hd:u.heap[D+2]?=MI (MP #[MF ME s,MF ME n] 70 (0,0))
 ok:(0<=s/\s<40)/\0<=n/\n<=1048575
theorem Xh.Gg{w u:MO}{D:Nat}{k a b c s n:Int}(h:Xh w u D k a b c s n):u.cell? ⟨D,0,MH⟩=MI (MF ME k)/\u.cell? ⟨D,1,MH⟩=MI (MF ME a)/\u.cell? ⟨D,2,MH⟩=MI (MF ME b)/\u.cell? ⟨D,3,MH⟩=MI (MF ME c)/\u.cell? ⟨D+2,0,MH⟩=MI (MF ME s)/\u.cell? ⟨D+2,1,MH⟩=MI (MF ME n)/\D+2<u.heap.size :=
 ⟨by simp[Nl,h.deed],by simp[Nl,h.deed],by simp[Nl,h.deed],by simp[Nl,h.deed],by simp[Nl,h.hd],by simp[Nl,h.hd],(ZAa.1 h.hd).1⟩
theorem Xh.Md{w u:MO}{D:Nat}{k a b c s n:Int}(h:Xh w u D k a b c s n):(u.cell? ⟨D+1,0,MH⟩=MI (MF ME 0)/\u.cell? ⟨D+1,1,MH⟩=MI (MF ME 0)/\u.cell? ⟨D+1,2,MH⟩=MI (MF ME 0)/\u.cell? ⟨D+1,3,MH⟩=MI (MF ME 0)/\u.cell? ⟨D+1,4,MH⟩=MI (M3 Nb)/\u.cell? ⟨D+1,5,MH⟩=MI (MF ME 0)/\u.cell? ⟨D+1,6,MH⟩=MI (MF ME 0)/\u.cell? ⟨D+1,7,MH⟩=MI (MF ME 0))/\∀i,u.frozen? ⟨D+1,i,MH⟩=false :=
 ⟨⟨by simp[Nl,h.ev],by simp[Nl,h.ev],by simp[Nl,h.ev],by simp[Nl,h.ev],by simp[Nl,h.ev],by simp[Nl,h.ev],by simp[Nl,h.ev],by simp[Nl,h.ev]⟩,fun i=>by simp[Ng,h.ev]⟩
abbrev ZY(e:Ev):List Value:=[MF ME e.kind,MF ME e.key,MF ME e.slot,MF ME e.gen,M3 e.good,MF ME e.req,MF ME e.be,MF ME e.wt]
theorem ajg(e:Ev):(ZY e).toArray.all (·.oneCell')=true:=by
 apply OE;intro u a;simp only[OO,OD,or_false]at a;rcases a with rfl|rfl|rfl|rfl|rfl|rfl|rfl|rfl <;> rfl
abbrev ant:List Value:=[MF ME 0,MF ME 0,MF ME 0,MF ME 0,M3 Nb,MF ME 0,MF ME 0,MF ME 0]
theorem ajk:(MK.info? 60).map (·.size)=MI 8:=by kernel_rfl
theorem ajf{w:MO}{D:Nat}{k a b c s n:Int}(h:Xh w v D k a b c s n)(e:Ev):v.there (D+1) 0 (ZY e).toArray.size:=aeU (cs:=ant) h.ev
theorem ac9{w:MO}{D:Nat}{k a b c s n:Int}(h:Xh w v D k a b c s n)(e:Ev){B i:Nat}{x:M7}(hc:v.cell? ⟨B,i,MH⟩=MI x)(hne:B≠D+1):(v.setCells (D+1) 0 (ZY e)).cell? ⟨B,i,MH⟩=MI x :=
 (NG (N8 v (D+1) 0 _ (MX v ⟨B,i,MH⟩ hc) hne)).trans hc
theorem adL{w:MO}{D:Nat}{k a b c s n:Int}{tm:Array M7}(h:Xh w v D k a b c s n)(e:Ev)(hf:Yk e=0)(hr:e.req<2000)(h4:tm.getD 4 PL=Na (MI ⟨D+1,0,MH⟩)):
  bodyPost MK Tryz.f16 (fun r w'=>∃e,(Yk e=0/\e.req<2000)/\r=MN (agQ e)/\MQ w.heap.size w w') Exit.ret {tmps:=tm,defers:=[]} (v.setCells (D+1) 0 (ZY e)):=by
 have f:(v.setCells (D+1) 0 (ZY e)).heap[D+1]?=MI (MP (ZY e).toArray 60 (0,0)):=ac0 60 (D+1) (ZY e) [] ant v rfl h.ev;have d:MQ w.heap.size w (v.setCells (D+1) 0 (ZY e)):=adp h.bel (by have:=h.at_;omega) 0 _ h.bel.size;exact Np (v:=agQ e) (Z2 Tryz.results16 h4 (Xp (P:=MK) (cs:=ZY e) f azj rfl (by kernel_rfl))) rfl ⟨e,⟨hf,hr⟩,rfl,d⟩
theorem Xh.GY{w:MO}{D:Nat}{k a b c s n:Int}(h:Xh w v D k a b c s n):Xh w v.drew D k a b c s n:=⟨h.at_,h.bel.drew,h.deed,h.ev,h.hd,h.ok⟩
theorem ajn{P:O8}{md:Region.Mode}{ops:Array Oper}{Q:Exit->Act->MO->Prop}{S:MO->Prop}{fuel:Nat}{listed:Array Bool}{a:Act}{w:MO}{i:Nat}{o:Oper}(ho:ops[i]?=MI o)(hg:o.guard=MH)(ty:NU)(x y:Operand)(hop:o.op=.store ty x y)
  (b off:Nat) (cells:Array M7) (hx:a.eval x=Na (MI ⟨b,off,MH⟩)) (hy:a.eval y=Ny cells) (ht:w.there b off cells.size) (hi:(P.info? ty).map (·.size)=MI cells.size) (h1:cells.all (·.oneCell')=Nw) (hS:S (w.setCells b off cells.toList))
  (h:wpAnyH P md ops Q S fuel (listed.setIfInBounds i Nw) (a.put o.dst PL) (w.setCells b off cells.toList)):AllReadyH P md ops Q S fuel listed a w [i]:=by
 refine NP ho (fun K hK=>?_) NX;rw[Nh (by unfold Pz;rw[hg])];exact wp_store_mid ty x y hop b off cells hx hy ht hi h1 (hK.out _ _ hS (fun _=>h))
theorem awW{P:O8}{md:Region.Mode}{ops:Array Oper}{Q:Exit->Act->MO->Prop}{S:MO->Prop}(i:Nat)(v:M7){oi:Oper}{fuel:Nat}{listed:Array Bool}{a:Act}{w:MO}(hS:S w)
  (h:wpAnyH P md ops Q S fuel (listed.setIfInBounds i Nw) (a.put oi.dst v) w) (hi:ops[i]?=MI oi:=by rfl) (hs:Region.noSelect ops=true:=by kernel_rfl) (hf:Region.free md ops listed i=true:=by kernel_rfl) (hr:(Region.ready md ops listed).contains i=true:=by kernel_rfl)
  (hQ:∀c a w,Q (.panic c) (a.put oi.dst v) w->Q (.panic c) a w:=by exact fun _ _ _ h=>h) (hy:YieldsIf P ops S oi v a:=by exact Or.inl ⟨by rfl,fun X hSw=>by go_simp⟩):wpAnyH P md ops Q S (fuel+1) listed a w :=
 ND hi hs hf hr hQ hy hS h
theorem au8{w:MO}{g:Nat}{pg:Option Oc}{cg:Nat}{l:List (Int×Int)}(c43:w.cell? ⟨g,43,MH⟩=MI (MG pg l.length cg))(hg:g<w.heap.size)(hl:l.length<=1000000)
  (hrow:∀i (hi:i<l.length),∃b o,pg=MI ⟨b,o,MH⟩/\b<w.heap.size/\w.cell? ⟨b,o+i*2,MH⟩=MI (MF ME l[i].1)/\w.cell? ⟨b,o+i*2+1,MH⟩=MI (MF ME l[i].2))
  (hok:∀x∈l,(0<=x.1/\x.1<40)/\0<=x.2/\x.2<=1048575) (k a b c:Int) (wk:-9223372036854775808<=k/\k<=9223372036854775807) (wa:-9223372036854775808<=a/\a<=9223372036854775807) (wb:-9223372036854775808<=b/\b<=9223372036854775807) (wc:-9223372036854775808<=c/\c<=9223372036854775807) :
  Ni MK 16 #[Na (MI ⟨g,0,MH⟩),Ny #[MF ME k,MF ME a,MF ME b,MF ME c]] w fun r w'=>∃e,(Yk e=0/\e.req<2000)/\r=MN (agQ e)/\MQ w.heap.size w w':=by
 obtain⟨k1,b1,p1⟩:=acd a wa 8 8 (by decide);obtain⟨k2,b2,p2⟩:=acd b wb 3 3 (by decide);have HP:M6 (_/\_):=⟨p1,p2⟩;have HB:M6 (_/\_):=⟨b1,b2⟩;have U:M6 (_/\_/\_/\_):=⟨hg,hl,hrow,hok⟩;have HC:M6 _:=c43;have N:M6 (_/\_/\_/\_):=⟨wk,wa,wb,wc⟩;clear c43 hg hl hrow hok wk wa wb wc p1 p2 b1 b2;obtain⟨W,V⟩:∃W,W=(w.alloc (MP #[MF ME k,MF ME a,MF ME b,MF ME c] 93)).alloc (MP #[MF ME 0,MF ME 0,MF ME 0,MF ME 0,M3 Nb,MF ME 0,MF ME 0,MF ME 0] 60):=⟨_,rfl⟩;go_enter Tryz.func16,Tryz.ntmps16
 go_wp2_with fail
 rw[<-V];obtain⟨D,Z⟩:∃D,D=w.heap.size:=⟨_,rfl⟩;rw[<-Z];have c5:MQ w.heap.size w W:=by rw[V];exact((MY _ _).alloc (MV _) _).alloc (by simp) _
 have a5:W.heap.size=D+2:=by rw[V,Z];simp
 have a7:(w.alloc (MP #[MF ME k,MF ME a,MF ME b,MF ME c] 93)).heap.size=D+1:=by rw[Z];simp
 have a4:W.heap[D]?=MI (MP #[MF ME k,MF ME a,MF ME b,MF ME c] 93 (0,0)):=by
  rw[V,(WQ _).block D (by rw[a7];omega),Z];exact M1 _ _
 have c4:W.heap[D+1]?=MI (MP #[MF ME 0,MF ME 0,MF ME 0,MF ME 0,M3 Nb,MF ME 0,MF ME 0,MF ME 0] 60 (0,0)):=by
  rw[V,<-a7];exact M1 _ _
 have O:M6 (_/\_/\_/\_/\_):=⟨Z,c5,a4,c4,a5⟩;have a1:D<W.heap.size:=by rw[a5];omega
 clear V Z c5 a7;have C:W.cell? ⟨D,1,MH⟩=MI (MF ME a):=by simp[Nl,a4]
 have B:W.cell? ⟨D,2,MH⟩=MI (MF ME b):=by simp[Nl,a4]
 have n1:=World.new_ne W ⟨D,1,MH⟩ C;have n2:=World.new_ne W ⟨D,2,MH⟩ B;clear a4 c4 a5;apply aan
 ·intro a8
  go_region_held3 (fun X=>X.cell? ⟨D,1,MH⟩=MI (MF ME a)/\X.cell? ⟨D,2,MH⟩=MI (MF ME b)) (first|exact⟨C,B⟩|go_keep) (first|(go_at_call 12;first|(refine(HP.out.1 _).mono ?_;rintro r w4 ⟨rfl,rfl⟩)|(refine(HP.out.2 _).mono ?_;rintro r w4 ⟨rfl,rfl⟩)))
  all_goals exact a8.out
 ·obtain⟨u,hu⟩:∃u,u=(W.alloc (MP #[MF ME (k1:Int),MF ME (k2:Int)] 70)).drew:=⟨_,rfl⟩
  have a2:MQ W.heap.size W u:=by rw[hu];exact(WQ W).drew
  have hE:Xh w u D k a b c k1 k2:=by
   refine⟨O.out.1,O.out.2.1.trans (a2.mono O.out.2.1.size),(a2.block _ a1).trans O.out.2.2.1,(a2.block _ (by rw[O.out.2.2.2.2];omega)).trans O.out.2.2.2.1,?_,⟨by omega,by have:=HB.out.1;omega⟩,by omega,by have:=HB.out.2;omega⟩;rw[hu,<-O.out.2.2.2.2];exact M1 _ _
  have c3:W.heap.size=D+2:=O.out.2.2.2.2;rw[<-hu,c3];have s:M6 _:=hE;have c43:u.cell? ⟨g,43,MH⟩=MI (MG pg l.length cg):=(hE.bel.cell (p:=⟨g,43,MH⟩) U.out.1).trans HC.out;have d3:u.cell? ⟨D,3,MH⟩=MI (MF ME c):=hE.Gg.2.2.2.1;obtain⟨k3,b3,p3⟩:=acd c N.out.2.2.2 9 9 (by decide);have M:M6 (_/\_):=⟨p3,b3⟩;have d4:g<u.heap.size:=M8 U.out.1 hE.bel.size;clear hu a2 hE c3 C B n1 n2 a1 p3 b3;obtain⟨m,hm⟩:∃m,m=l.length:=⟨_,rfl⟩;rw[<-hm]at c43;have HM:M6 _:=hm;clear hm;have d6:=s.out.Gg;obtain⟨d0,C,B,_,s0,s1,a1⟩:=d6;have z0:u.frozen? ⟨D+2,0,MH⟩=false:=by simp[Ng,s.out.hd]
  have z1:u.frozen? ⟨D+2,1,MH⟩=false:=by simp[Ng,s.out.hd]
  have a3:(0<m/\0<k3)\/(0<m/\¬0<k3)\/¬0<m:=by omega
  obtain⟨d,b4,p4⟩:=acd k N.out.1 20 20 (by decide);obtain⟨k6,b6,p6⟩:=acd a N.out.2.1 100 100 (by decide);obtain⟨k7,b7,p7⟩:=acd b N.out.2.2.1 2 2 (by decide);obtain⟨I,b8,p8⟩:=acd a N.out.2.1 30 30 (by decide);obtain⟨P,b9,p9⟩:=acd b N.out.2.2.1 5 5 (by decide);obtain⟨kc,bc,pc⟩:=acd c N.out.2.2.2 8 8 (by decide);have n:M6 (_/\_/\_/\_/\_/\_):=⟨p4,p6,p7,p8,p9,pc⟩;have J:M6 (_/\_/\_/\_/\_/\_):=⟨b4,b6,b7,b8,b9,bc⟩;clear p4 p6 p7 p8 p9 pc b4 b6 b7 b8 b9 bc;rcases a3 with a3|a3|a3
  case' inl =>
   have a6:(0:Int)<(m:Int):=by omega
   have c1:(0:Int)<(k3:Int):=by omega
   obtain⟨k5,b5,p5⟩:=acd a N.out.2.1 (min m 8) (min (m:Int) 8) (by omega);obtain⟨j,hj⟩:∃j:Nat,j=m-1-k5:=⟨_,rfl⟩;have c9:m<=1000000:=by rw[HM.out];exact U.out.2.1
   have b0:j<l.length:=by rw[<-HM.out];omega
   have w1:IntKind.i64.wrap ((m:Int)-1)=(m:Int)-1:=abk (by omega) (by omega);have w2:IntKind.i64.wrap ((m:Int)-1-(k5:Int))=(j:Int):=by rw[abk (by omega) (by omega)];omega
   have c8:(j:Int)<(m:Int):=by omega
   have d5:(0:Int)<=(j:Int):=by omega
   obtain⟨R,oo,c6,a9,r1,r2⟩:=U.out.2.2.1 j b0;have hok:=U.out.2.2.2 _ (Nk b0);obtain⟨x,hx⟩:∃x,x=l[j]:=⟨_,rfl⟩;rw[<-hx]at r1 r2 hok;have f1:u.cell? ⟨R,oo+j*2,MH⟩=MI (MF ME x.1):=(s.out.bel.cell (p:=⟨R,oo+j*2,MH⟩) a9).trans r1;have f2:u.cell? ⟨R,oo+j*2+1,MH⟩=MI (MF ME x.2):=(s.out.bel.cell (p:=⟨R,oo+j*2+1,MH⟩) a9).trans r2;have c7:min (m:Int) 8<=m:=by omega
   have H5:M6 (_/\_/\_):=⟨p5,b5,hok⟩;have q1:g≠D+2:=by have:=U.out.1;have:=s.out.at_;omega
   have q2:R≠D+2:=by have:=s.out.at_;omega
   clear p5 hx hok r1 r2 b0 a9 hj c9;subst c6
   go_wp2_with (go_at_call 12;refine(M.out.1 _).mono ?_;rintro r w4 ⟨rfl,rfl⟩)
   apply aan
   focus
    intro a8
    go_region_held3 (fun X=>X.cell? ⟨g,43,MH⟩=MI (MG (MI ⟨R,oo,MH⟩) m cg)/\X.cell? ⟨D,1,MH⟩=MI (MF ME a)/\X.cell? ⟨R,oo+j*2,MH⟩=MI (MF ME x.1)/\X.cell? ⟨R,oo+j*2+1,MH⟩=MI (MF ME x.2)) (first|exact⟨c43,C,f1,f2⟩|(simp[*,World.cell?_setCell_far,Pi q1,Pi q2])) (first|(go_at_call 12;refine(H5.out.1 _).mono ?_;rintro r w4 ⟨rfl,rfl⟩))
    all_goals exact a8.out
   obtain⟨v,hv⟩:∃v,v=((w4.setCell ⟨D+2,0,MH⟩ (MF ME x.1)).setCell ⟨D+2,1,MH⟩ (MF ME x.2)).drew:=⟨_,rfl⟩;have E:Xh w v D k a b c x.1 x.2:=by
    have c0:∀y,y≠D+2->v.heap[y]?=w4.heap[y]?:=fun y e=>by rw[hv];exact(MU _ _ _ _ (fun e2=>e e2)).trans (MU _ _ _ _ (fun e2=>e e2))
    refine⟨s.out.at_,?_,(c0 _ (by omega)).trans s.out.deed,(c0 _ (by omega)).trans s.out.ev,?_,H5.out.2.2⟩
    ·rw[hv]
     have c2:w.heap.size<=D+2:=by have:=s.out.at_;omega
     exact((s.out.bel.setCell (p:=⟨D+2,0,MH⟩) c2 _).setCell (p:=⟨D+2,1,MH⟩) c2 _).drew
    ·rw[hv]
     exact acb s.out.hd
   have HS:M6 _:=E;rw[<-hv];clear hv E s f1 f2 d0 C B d3 s0 s1 z0 z1 c43 c7 c8 d5 w1 w2 q1 q2 d4 a1 a6 c1
  case' inr.inl =>
   have a6:(0:Int)<(m:Int):=by omega
   have c1:¬(0:Int)<(k3:Int):=by omega
   have HS:M6 _:=s.out;clear s d0 C B s0 s1 z0 z1
  case' inr.inr =>
   have a6:¬(0:Int)<(m:Int):=by omega
   have HS:M6 _:=s.out;clear s d0 C B s0 s1 z0 z1
  all_goals
   obtain⟨A,z,q⟩:∃A z,M6 (Xh w _ D k a b c A z):=⟨_,_,HS⟩;clear HS;obtain⟨d0,C,B,e3,s0,s1,d8⟩:=q.out.Gg;rcases(by omega:d<6\/d=6\/d=7\/(8<=d/\d<12)\/(12<=d/\d<14)\/d=14\/15<=d)with h4|h4|h4|h4|h4|h4|h4
   ·have Y:(d:Int)<6:=by omega
    obtain⟨⟨x0,x1,x2,x3,x4,x5,x6,x7⟩,yf⟩:=q.out.Md;have y0:=yf 0;have y1:=yf 1;have y2:=yf 2;have y3:=yf 3;have y4:=yf 4;have y5:=yf 5;have y6:=yf 6;have y7:=yf 7;clear yf
    go_wp2_with (go_at_call 12;first|(refine(M.out.1 _).mono ?_;rintro r f ⟨rfl,rfl⟩)|(refine(n.out.1 _).mono ?_;rintro r f ⟨rfl,rfl⟩)|(refine(n.out.2.1 _).mono ?_;rintro r f ⟨rfl,rfl⟩))
    exact adL q.out ⟨1,k6,0,0,Nb,0,0,0⟩ (au9 ⟨by omega,by have:=J.out.2.1;omega⟩) (show(0:Int)<2000 by decide) rfl
   ·have Y:¬(d:Int)<6:=by omega
    have t1:((d:Int) == 6)=true:=by simp;omega
    obtain⟨⟨x0,x1,x2,x3,x4,x5,x6,x7⟩,yf⟩:=q.out.Md;have y0:=yf 0;have y1:=yf 1;have y2:=yf 2;have y3:=yf 3;have y4:=yf 4;have y5:=yf 5;have y6:=yf 6;have y7:=yf 7;clear yf
    go_wp2_with (go_at_call 12;first|(refine(M.out.1 _).mono ?_;rintro r f ⟨rfl,rfl⟩)|(refine(n.out.1 _).mono ?_;rintro r f ⟨rfl,rfl⟩)|(refine(n.out.2.1 _).mono ?_;rintro r f ⟨rfl,rfl⟩))
    exact adL q.out ⟨2,0,A,z,Nb,0,0,0⟩ (ajh (Nt ⟨Nt rfl,rfl⟩) q.out.ok.1 q.out.ok.2) (show(0:Int)<2000 by decide) rfl
   ·have Y:¬(d:Int)<6:=by omega
    have t1:((d:Int) == 6)=false:=by simp;omega
    have t2:((d:Int) == 7)=true:=by simp;omega
    obtain⟨⟨x0,x1,x2,x3,x4,x5,x6,x7⟩,yf⟩:=q.out.Md;have y0:=yf 0;have y1:=yf 1;have y2:=yf 2;have y3:=yf 3;have y4:=yf 4;have y5:=yf 5;have y6:=yf 6;have y7:=yf 7;clear yf
    go_wp2_with (go_at_call 12;first|(refine(M.out.1 _).mono ?_;rintro r f ⟨rfl,rfl⟩)|(refine(n.out.1 _).mono ?_;rintro r f ⟨rfl,rfl⟩)|(refine(n.out.2.1 _).mono ?_;rintro r f ⟨rfl,rfl⟩))
    exact adL q.out ⟨3,0,A,z,Nb,0,0,0⟩ (ajh (Nt ⟨NF rfl,rfl⟩) q.out.ok.1 q.out.ok.2) (show(0:Int)<2000 by decide) rfl
   ·have Y:¬(d:Int)<6:=by omega
    have t1:((d:Int) == 6)=false:=by simp;omega
    have t2:((d:Int) == 7)=false:=by simp;omega
    have t3:(d:Int)<12:=by omega
    go_wp2_with (go_at_call 12;first|(refine(M.out.1 _).mono ?_;rintro r f ⟨rfl,rfl⟩)|(refine(n.out.1 _).mono ?_;rintro r f ⟨rfl,rfl⟩)|(refine(n.out.2.1 _).mono ?_;rintro r f ⟨rfl,rfl⟩))
    obtain⟨S,E,L⟩:∃S:MO->Prop,(∀X,S X->X.cell? ⟨D,2,MH⟩=MI (MF ME b)/\X.cell? ⟨D+2,0,MH⟩=MI (MF ME A)/\X.cell? ⟨D+2,1,MH⟩=MI (MF ME z))/\∀X,X.cell? ⟨D,2,MH⟩=MI (MF ME b)/\X.cell? ⟨D+2,0,MH⟩=MI (MF ME A)/\X.cell? ⟨D+2,1,MH⟩=MI (MF ME z)->S X:=⟨fun X=>X.cell? ⟨D,2,MH⟩=MI (MF ME b)/\X.cell? ⟨D+2,0,MH⟩=MI (MF ME A)/\X.cell? ⟨D+2,1,MH⟩=MI (MF ME z),fun _ h=>h,fun _ h=>h⟩;have t:M6 (Xh w _ D k a b c A z):=q.out.GY;obtain⟨G,F⟩:∃G,G=f.drew.setCells (D+1) 0 (ZY ⟨4,0,A,z,((k7:Int) == 0),0,0,0⟩):=⟨_,rfl⟩;have a0:S G:=by rw[F];exact L _ ⟨ac9 t.out _ B (by omega),ac9 t.out _ s0 (by omega),ac9 t.out _ s1 (by omega)⟩
    have H:M6 _:=F;clear F;refine O2 (S:=S) (by kernel_rfl) (L _ ⟨B,s0,s1⟩) (fun hHeld=>?_);refine awW 0 (Na (MI ⟨D+2,0,MH⟩)) hHeld ?_;simp only[Nr,MZ,MT,MS,MJ,ML,MM];refine awW 1 (MF ME A) hHeld ?_ (hy:=Nt ⟨by rfl,fun X hSw=>by have T:=E X hSw;go_simp⟩);simp only[Nr,MZ,MT,MS,MJ,ML,MM];refine awW 2 (Na (MI ⟨D+2,1,MH⟩)) hHeld ?_;simp only[Nr,MZ,MT,MS,MJ,ML,MM];refine awW 3 (MF ME z) hHeld ?_ (hy:=Nt ⟨by rfl,fun X hSw=>by have T:=E X hSw;go_simp⟩);simp only[Nr,MZ,MT,MS,MJ,ML,MM];refine awW 4 (Na (MI ⟨D,2,MH⟩)) hHeld ?_;simp only[Nr,MZ,MT,MS,MJ,ML,MM];refine awW 5 (MF ME b) hHeld ?_ (hy:=Nt ⟨by rfl,fun X hSw=>by have T:=E X hSw;go_simp⟩);simp only[Nr,MZ,MT,MS,MJ,ML,MM];refine NN (rs:=[6]) (by kernel_rfl) (by simp) ?_;refine NP (o:=_) rfl (fun K hK=>?_) NX;go_simp;refine Nd (n.out.2.2.1 _) ?_;rintro r w6 ⟨rfl,rfl⟩
    go_wp2_with fail
    refine hK.out _ _ hHeld (fun hHeld=>?_);clear hK K
    try simp only[Nr,MZ,MT,MS,MJ,ML,MM]
    refine awW 7 (M3 ((k7:Int) == 0)) hHeld ?_;simp only[Nr,MZ,MT,MS,MJ,ML,MM];refine awW 8 (Ny (ZY ⟨4,0,A,z,((k7:Int) == 0),0,0,0⟩).toArray) hHeld ?_;simp only[Nr,MZ,MT,MS,MJ,ML,MM];refine NN (rs:=[9]) (by kernel_rfl) (by simp) ?_;refine ajn (i:=9) (o:=_) (by rfl) (by rfl) 60 (O6 4) (O6 85) (by rfl) (D+1) 0 (ZY ⟨4,0,A,z,((k7:Int) == 0),0,0,0⟩).toArray (by rfl) (by rfl) (ajf t.out _) ajk (ajg _) (by rw[NS,<-H.out];exact a0) ?_;rw[NS,<-H.out]
    try simp only[Nr,MZ,MT,MS,MJ,ML,MM]
    refine PS (by kernel_rfl) ?_ _
    go_wp2_with fail
    rw[H.out];exact adL t.out ⟨4,0,A,z,((k7:Int) == 0),0,0,0⟩ (ajh (NF rfl) q.out.ok.1 q.out.ok.2) (show(0:Int)<2000 by decide) rfl
   ·have Y:¬(d:Int)<6:=by omega
    have t1:((d:Int) == 6)=false:=by simp;omega
    have t2:((d:Int) == 7)=false:=by simp;omega
    have t3:¬(d:Int)<12:=by omega
    have t4:(d:Int)<14:=by omega
    go_wp2_with (go_at_call 12;first|(refine(M.out.1 _).mono ?_;rintro r f ⟨rfl,rfl⟩)|(refine(n.out.1 _).mono ?_;rintro r f ⟨rfl,rfl⟩)|(refine(n.out.2.1 _).mono ?_;rintro r f ⟨rfl,rfl⟩))
    have d7:IntKind.i64.wrap (1+(kc:Int))=1+kc:=abk (by omega) (by have:=J.out.2.2.2.2.2;omega);obtain⟨S,E,L⟩:∃S:MO->Prop,(∀X,S X->X.cell? ⟨D,1,MH⟩=MI (MF ME a)/\X.cell? ⟨D,2,MH⟩=MI (MF ME b)/\X.cell? ⟨D,3,MH⟩=MI (MF ME c))/\∀X,X.cell? ⟨D,1,MH⟩=MI (MF ME a)/\X.cell? ⟨D,2,MH⟩=MI (MF ME b)/\X.cell? ⟨D,3,MH⟩=MI (MF ME c)->S X:=⟨fun X=>X.cell? ⟨D,1,MH⟩=MI (MF ME a)/\X.cell? ⟨D,2,MH⟩=MI (MF ME b)/\X.cell? ⟨D,3,MH⟩=MI (MF ME c),fun _ h=>h,fun _ h=>h⟩;have t:M6 (Xh w _ D k a b c A z):=q.out.GY;obtain⟨G,F⟩:∃G,G=f.drew.setCells (D+1) 0 (ZY ⟨5,0,0,0,Nb,I,P,1+kc⟩):=⟨_,rfl⟩;have a0:S G:=by rw[F];exact L _ ⟨ac9 t.out _ C (by omega),ac9 t.out _ B (by omega),ac9 t.out _ e3 (by omega)⟩
    have H:M6 _:=F;clear F;refine O2 (S:=S) (by kernel_rfl) (L _ ⟨C,B,e3⟩) (fun hHeld=>?_);refine awW 0 (Na (MI ⟨D,1,MH⟩)) hHeld ?_;simp only[Nr,MZ,MT,MS,MJ,ML,MM];refine awW 1 (MF ME a) hHeld ?_ (hy:=Nt ⟨by rfl,fun X hSw=>by have T:=E X hSw;go_simp⟩);simp only[Nr,MZ,MT,MS,MJ,ML,MM];refine awW 3 (Na (MI ⟨D,2,MH⟩)) hHeld ?_;simp only[Nr,MZ,MT,MS,MJ,ML,MM];refine awW 4 (MF ME b) hHeld ?_ (hy:=Nt ⟨by rfl,fun X hSw=>by have T:=E X hSw;go_simp⟩);simp only[Nr,MZ,MT,MS,MJ,ML,MM];refine awW 6 (Na (MI ⟨D,3,MH⟩)) hHeld ?_;simp only[Nr,MZ,MT,MS,MJ,ML,MM];refine awW 7 (MF ME c) hHeld ?_ (hy:=Nt ⟨by rfl,fun X hSw=>by have T:=E X hSw;go_simp⟩);simp only[Nr,MZ,MT,MS,MJ,ML,MM];refine NN (rs:=[2]) (by kernel_rfl) (by simp) ?_;refine NP (o:=_) rfl (fun K hK=>?_) NX;go_simp;refine Nd (n.out.2.2.2.1 _) ?_;rintro r w6 ⟨rfl,rfl⟩
    go_wp2_with fail
    refine hK.out _ _ hHeld (fun hHeld=>?_);clear hK K
    try simp only[Nr,MZ,MT,MS,MJ,ML,MM]
    refine NN (rs:=[5]) (by kernel_rfl) (by simp) ?_;refine NP (o:=_) rfl (fun K hK=>?_) NX;go_simp;refine Nd (n.out.2.2.2.2.1 _) ?_;rintro r w6 ⟨rfl,rfl⟩
    go_wp2_with fail
    refine hK.out _ _ hHeld (fun hHeld=>?_);clear hK K
    try simp only[Nr,MZ,MT,MS,MJ,ML,MM]
    refine NN (rs:=[8]) (by kernel_rfl) (by simp) ?_;refine NP (o:=_) rfl (fun K hK=>?_) NX;go_simp;refine Nd (n.out.2.2.2.2.2 _) ?_;rintro r w6 ⟨rfl,rfl⟩
    go_wp2_with fail
    refine hK.out _ _ hHeld (fun hHeld=>?_);clear hK K
    try simp only[Nr,MZ,MT,MS,MJ,ML,MM]
    refine awW 9 (MF ME (1+(kc:Int))) hHeld ?_;simp only[Nr,MZ,MT,MS,MJ,ML,MM];refine awW 10 (Ny (ZY ⟨5,0,0,0,Nb,I,P,1+kc⟩).toArray) hHeld ?_;simp only[Nr,MZ,MT,MS,MJ,ML,MM];refine NN (rs:=[11]) (by kernel_rfl) (by simp) ?_;refine ajn (i:=11) (o:=_) (by rfl) (by rfl) 60 (O6 4) (O6 99) (by rfl) (D+1) 0 (ZY ⟨5,0,0,0,Nb,I,P,1+kc⟩).toArray (by rfl) (by rfl) (ajf t.out _) ajk (ajg _) (by rw[NS,<-H.out];exact a0) ?_;rw[NS,<-H.out]
    try simp only[Nr,MZ,MT,MS,MJ,ML,MM]
    refine PS (by kernel_rfl) ?_ _
    go_wp2_with fail
    rw[H.out];exact adL t.out ⟨5,0,0,0,Nb,I,P,1+kc⟩ (anu ⟨by omega,by have:=J.out.2.2.2.1;omega⟩ ⟨by omega,by have:=J.out.2.2.2.2.1;omega⟩ ⟨by omega,by have:=J.out.2.2.2.2.2;omega⟩) (show(I:Int)<2000 by have:=J.out.2.2.2.1;omega) rfl
   ·have Y:¬(d:Int)<6:=by omega
    have t1:((d:Int) == 6)=false:=by simp;omega
    have t2:((d:Int) == 7)=false:=by simp;omega
    have t3:¬(d:Int)<12:=by omega
    have t4:¬(d:Int)<14:=by omega
    have t5:((d:Int) == 14)=true:=by simp;omega
    go_wp2_with (go_at_call 12;first|(refine(M.out.1 _).mono ?_;rintro r f ⟨rfl,rfl⟩)|(refine(n.out.1 _).mono ?_;rintro r f ⟨rfl,rfl⟩)|(refine(n.out.2.1 _).mono ?_;rintro r f ⟨rfl,rfl⟩))
    obtain⟨S,E,L⟩:∃S:MO->Prop,(∀X,S X->X.cell? ⟨D,1,MH⟩=MI (MF ME a)/\X.cell? ⟨D,2,MH⟩=MI (MF ME b))/\∀X,X.cell? ⟨D,1,MH⟩=MI (MF ME a)/\X.cell? ⟨D,2,MH⟩=MI (MF ME b)->S X:=⟨fun X=>X.cell? ⟨D,1,MH⟩=MI (MF ME a)/\X.cell? ⟨D,2,MH⟩=MI (MF ME b),fun _ h=>h,fun _ h=>h⟩;have t:M6 (Xh w _ D k a b c A z):=q.out.GY;obtain⟨G,F⟩:∃G,G=f.drew.setCells (D+1) 0 (ZY ⟨6,0,0,0,Nb,I,P,0⟩):=⟨_,rfl⟩;have a0:S G:=by rw[F];exact L _ ⟨ac9 t.out _ C (by omega),ac9 t.out _ B (by omega)⟩
    have H:M6 _:=F;clear F;refine O2 (S:=S) (by kernel_rfl) (L _ ⟨C,B⟩) (fun hHeld=>?_);refine awW 0 (Na (MI ⟨D,1,MH⟩)) hHeld ?_;simp only[Nr,MZ,MT,MS,MJ,ML,MM];refine awW 1 (MF ME a) hHeld ?_ (hy:=Nt ⟨by rfl,fun X hSw=>by have T:=E X hSw;go_simp⟩);simp only[Nr,MZ,MT,MS,MJ,ML,MM];refine awW 3 (Na (MI ⟨D,2,MH⟩)) hHeld ?_;simp only[Nr,MZ,MT,MS,MJ,ML,MM];refine awW 4 (MF ME b) hHeld ?_ (hy:=Nt ⟨by rfl,fun X hSw=>by have T:=E X hSw;go_simp⟩);simp only[Nr,MZ,MT,MS,MJ,ML,MM];refine NN (rs:=[2]) (by kernel_rfl) (by simp) ?_;refine NP (o:=_) rfl (fun K hK=>?_) NX;go_simp;refine Nd (n.out.2.2.2.1 _) ?_;rintro r w6 ⟨rfl,rfl⟩
    go_wp2_with fail
    refine hK.out _ _ hHeld (fun hHeld=>?_);clear hK K
    try simp only[Nr,MZ,MT,MS,MJ,ML,MM]
    refine NN (rs:=[5]) (by kernel_rfl) (by simp) ?_;refine NP (o:=_) rfl (fun K hK=>?_) NX;go_simp;refine Nd (n.out.2.2.2.2.1 _) ?_;rintro r w6 ⟨rfl,rfl⟩
    go_wp2_with fail
    refine hK.out _ _ hHeld (fun hHeld=>?_);clear hK K
    try simp only[Nr,MZ,MT,MS,MJ,ML,MM]
    refine awW 6 (Ny (ZY ⟨6,0,0,0,Nb,I,P,0⟩).toArray) hHeld ?_;simp only[Nr,MZ,MT,MS,MJ,ML,MM];refine NN (rs:=[7]) (by kernel_rfl) (by simp) ?_;refine ajn (i:=7) (o:=_) (by rfl) (by rfl) 60 (O6 4) (O6 109) (by rfl) (D+1) 0 (ZY ⟨6,0,0,0,Nb,I,P,0⟩).toArray (by rfl) (by rfl) (ajf t.out _) ajk (ajg _) (by rw[NS,<-H.out];exact a0) ?_;rw[NS,<-H.out]
    try simp only[Nr,MZ,MT,MS,MJ,ML,MM]
    refine PS (by kernel_rfl) ?_ _
    go_wp2_with fail
    rw[H.out];exact adL t.out ⟨6,0,0,0,Nb,I,P,0⟩ (ava ⟨by omega,by have:=J.out.2.2.2.1;omega⟩ ⟨by omega,by have:=J.out.2.2.2.2.1;omega⟩) (show(I:Int)<2000 by have:=J.out.2.2.2.1;omega) rfl
   ·have Y:¬(d:Int)<6:=by omega
    have t1:((d:Int) == 6)=false:=by simp;omega
    have t2:((d:Int) == 7)=false:=by simp;omega
    have t3:¬(d:Int)<12:=by omega
    have t4:¬(d:Int)<14:=by omega
    have t5:((d:Int) == 14)=false:=by simp;omega
    obtain⟨⟨x0,x1,x2,x3,x4,x5,x6,x7⟩,yf⟩:=q.out.Md;have y0:=yf 0;have y1:=yf 1;have y2:=yf 2;have y3:=yf 3;have y4:=yf 4;have y5:=yf 5;have y6:=yf 6;have y7:=yf 7;clear yf
    go_wp2_with (go_at_call 12;first|(refine(M.out.1 _).mono ?_;rintro r f ⟨rfl,rfl⟩)|(refine(n.out.1 _).mono ?_;rintro r f ⟨rfl,rfl⟩)|(refine(n.out.2.1 _).mono ?_;rintro r f ⟨rfl,rfl⟩))
    exact adL q.out ⟨7,0,0,0,Nb,0,0,0⟩ anv (show(0:Int)<2000 by decide) rfl
end
end Go.Proofs.YtgnclkcdnbfeeaaGreatDoor.Q
