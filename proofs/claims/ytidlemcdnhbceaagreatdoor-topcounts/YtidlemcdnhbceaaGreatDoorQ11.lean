/-
  Contracts of the layers and of core, part 11. Conditions: as each theorem says.
-/
import Derived.Test.YtidlemcdnhbceaaGreatDoorQ1
import Derived.Test.YtidlemcdnhbceaaGreatDoorQ4
import Derived.Test.YtidlemcdnhbceaaGreatDoorQ6
import Derived.Test.YtidlemcdnhbceaaGreatDoorQ8
open Array renaming toList->RW
open Bool renaming and_eq_true->Po,false->Nb,true->Nw
open Decidable renaming decide->Nn
open Go renaming Calls->Ni,Program->O8,TypeId->NU,Value->M7,World->MO,all_oneCell_toArray->OE,bodyPost_ret->Np,cell_of_row->MW,heap_alloc_new->M1,heap_setCell_same->NI,maxLen->NE,wpAnyH_done->PS,wpAnyH_ready->NN,wpAnyH_take->ND,wp_region_held_drew->O2
open Go.Act renaming put->Nr
open Go.AllReadyH renaming cons->NP,nil->NX
open Go.Calls renaming mono->Nd
open Go.Ending renaming returned->MN
open Go.IntKind renaming i64->ME,wrap_i64->Ow
open Go.Lit renaming int->N6
open Go.Obj renaming cells->MP
open Go.Proofs.Tryz renaming func24->Wc,func38->Uu,func50->Tl,ntmps24->VS,ntmps38->Ud,ntmps50->S1,prog->MK,underlying38->UZ,underlying40->U3,underlying42->axO,underlying61->Lv
open Go.RowKit renaming Below->MQ,Hid->M6
open Go.RowKit.Below renaming refl->MY
open Go.Value renaming agg->Ny,bool->M3,int->MF,pointer->Na,slice->MG,tuple->Nv
open Go.World renaming cell?->Nl,cell?_of_block->NG,frozen?->Ng,heap_setCells_other->N8,setCell->Q4,setCells->Qd
open Int renaming eq_ofNat_of_zero_le->NL,natCast_emod->QY,tmod_eq_emod_of_nonneg->Oi,toNat_natCast->NR
open List renaming getElem_cons_succ->MT,getElem_cons_zero->MS,getElem_toArray->MZ,mem_cons->OO,not_mem_nil->OD,replicate->Nj,setIfInBounds_toArray->MJ,set_cons_succ->MM,set_cons_zero->ML
open Nat renaming le_refl->MV,lt_of_lt_of_le->M8,zero_add->Oa
open Option renaming none->MH,some->MI
open Or renaming inl->Nt,inr->NF
namespace Go.Proofs.YtidlemcdnhbceaaGreatDoor.Q
set_option linter.unusedVariables false
set_option linter.unusedSimpArgs false
set_option maxHeartbeats 16000000
set_option maxRecDepth 100000
open Go.RowKit
attribute [local go_sem ↓] Go.wp_at_zero Go.wp_at_succ
variable {cs:List M7}{w:MO}{T:NU}{g:Nat}
def ZN(n:Int)(many:Nat):Nat:=(if n<0 then(-(n+1)).toNat else n.toNat) % many
theorem af9(n:Int)(many:Nat)(h:0<many):ZN n many<many:=Nat.mod_lt _ h
theorem aro(n many:Int)(h:n<0)(h2:0<many):-(n+1).tmod many=((ZN n many.toNat:Nat):Int):=by
 obtain⟨m,rfl⟩:=NL (Int.le_of_lt h2);obtain⟨k,d⟩:=NL (a:=-(n+1)) (by omega);unfold ZN;rw[Nh h,<-Int.neg_tmod,d,NR,NR,QY];rfl
theorem arp(n many:Int)(h:0<=n)(h2:0<many):n % many=((ZN n many.toNat:Nat):Int):=by
 obtain⟨m,rfl⟩:=NL (Int.le_of_lt h2);obtain⟨k,rfl⟩:=NL h;unfold ZN;rw[Nf (by omega),NR,NR,QY]
theorem aly{k:IntKind}{a b:Int}(h:a=b):MN (MF k a)=MN (MF k b):=by rw[h]
theorem aga(n many:Int)(w:MO)(h0:-9223372036854775808<=n)(h1:n<=9223372036854775807)(h2:0<many)(h3:many<=9223372036854775807):Ni MK 21 #[MF ME n,MF ME many] w fun e w'=>e=MN (MF ME ((ZN n many.toNat:Nat):Int))/\w'=w:=by
 by_cases h:n<0
 ·go_enter Tryz.func21,Tryz.ntmps21
  go_wp2;go_ret;exact⟨aly (aro n many h h2),rfl⟩
 ·have a:0<=n:=by omega
  clear h;go_enter Tryz.func21,Tryz.ntmps21;go_wp2;go_ret;exact⟨aly (arp n many a h2),rfl⟩
theorem adr{x:Int}(h:(N6 ME x).wf=Nw):-9223372036854775808<=x/\x<=9223372036854775807:=by
 have a:IntKind.i64.min = -9223372036854775808:=by decide
 have d:IntKind.i64.max=9223372036854775807:=by decide
 simp only[Lit.wf,a,d,Po,decide_eq_true_eq]at h;exact h
theorem aaK(n:Int)(many:Nat)(hw:(N6 ME n).wf=Nw)(h:0<many)(h2:many<=9000000000000):∃k:Nat,k<many/\∀W,Ni MK 21 #[MF ME n,MF ME (many:Int)] W fun r w'=>r=MN (MF ME (k:Int))/\w'=W:=by
 refine⟨ZN n many,af9 _ _ h,fun W=>?_⟩;have a:=adr hw;have:=aga n many W a.1 a.2 (by omega) (by omega);rwa[NR]at this
abbrev acO(c:Cf):Prop :=
 (1<=c.flows/\c.flows<=40)/\(1<=c.den/\c.den<=c.num)/\c.num<=20/\(0<=c.tries/\c.tries<=12)/\(0<=c.warm/\c.warm<=500) /\
 (1<=c.drain/\c.drain<=500)/\(1<=c.idle/\c.idle<=500)/\(1<=c.conn/\c.conn<=500)/\(0<=c.ret/\c.ret<=20)/\(0<=c.most/\c.most<=100) /\
 Zp c.bn c.bd c.bb/\ZT c.wn c.wf c.wh
abbrev aeV(c:Cf):Value:=Ny #[MF ME c.flows,MF ME c.num,MF ME c.den,MF ME c.tries,MF ME c.warm,MF ME c.drain,MF ME c.idle,MF ME c.conn,MF ME c.ret,MF ME c.most,MF ME c.bn,MF ME c.bd,MF ME c.bb,MF ME c.wn,MF ME c.wf,MF ME c.wh]
abbrev abX(c:Cf):Obj:=MP #[MF ME c.flows,MF ME c.num,MF ME c.den,MF ME c.tries,MF ME c.warm,MF ME c.drain,MF ME c.idle,MF ME c.conn,MF ME c.ret,MF ME c.most,MF ME c.bn,MF ME c.bd,MF ME c.bb,MF ME c.wn,MF ME c.wf,MF ME c.wh] 42
theorem adq{c:Cf}(h:w.heap[g]?=MI (abX c)):w.cell? ⟨g,0,MH⟩=MI (MF ME c.flows)/\w.cell? ⟨g,1,MH⟩=MI (MF ME c.num)/\w.cell? ⟨g,2,MH⟩=MI (MF ME c.den)/\w.cell? ⟨g,3,MH⟩=MI (MF ME c.tries)/\w.cell? ⟨g,4,MH⟩=MI (MF ME c.warm)/\w.cell? ⟨g,5,MH⟩=MI (MF ME c.drain)/\w.cell? ⟨g,6,MH⟩=MI (MF ME c.idle)/\w.cell? ⟨g,7,MH⟩=MI (MF ME c.conn)/\w.cell? ⟨g,8,MH⟩=MI (MF ME c.ret)/\w.cell? ⟨g,9,MH⟩=MI (MF ME c.most)/\w.cell? ⟨g,10,MH⟩=MI (MF ME c.bn)/\w.cell? ⟨g,11,MH⟩=MI (MF ME c.bd)/\w.cell? ⟨g,12,MH⟩=MI (MF ME c.bb)/\w.cell? ⟨g,13,MH⟩=MI (MF ME c.wn)/\w.cell? ⟨g,14,MH⟩=MI (MF ME c.wf)/\w.cell? ⟨g,15,MH⟩=MI (MF ME c.wh)/\g<w.heap.size :=
 ⟨by simp[Nl,h],by simp[Nl,h],by simp[Nl,h],by simp[Nl,h],by simp[Nl,h],by simp[Nl,h],by simp[Nl,h],by simp[Nl,h],by simp[Nl,h],by simp[Nl,h],by simp[Nl,h],by simp[Nl,h],by simp[Nl,h],by simp[Nl,h],by simp[Nl,h],by simp[Nl,h],(Array.getElem?_eq_some_iff.1 h).1⟩
theorem ads(n lo hi:Int)(w:MO):Ni MK 50 #[MF ME n,MF ME lo,MF ME hi] w fun r w'=>r=MN (M3 (Nn (lo<=n/\n<=hi)))/\w'=w:=by
 obtain⟨d,a⟩:∃d,d=Nn (lo<=n/\n<=hi):=⟨_,rfl⟩;rw[<-a];have H:M6 _:=a;clear a;cases h1:Nn (lo<=n)
 ·go_enter Tl,S1
  go_wp2;go_ret;exact⟨by rw[H.out,M0 (fun h=>Nc h1 h.1)];rfl,rfl⟩
 ·cases h2:Nn (n<=hi)
  ·go_enter Tl,S1
   go_wp2;go_ret;exact⟨by rw[H.out,M0 (fun h=>Nc h2 h.2)];rfl,rfl⟩
  ·go_enter Tl,S1
   go_wp2;go_ret;exact⟨by rw[H.out,Nq ⟨M2 h1,M2 h2⟩];rfl,rfl⟩
theorem ahV(n:Int)(w:MO):Ni MK 51 #[MF ME n] w fun r w'=>r=MN (M3 (Nn (1<=n/\n<=500)))/\w'=w:=by
 have H:M6 _:=ads n 1 500 w;go_enter Tryz.func51,Tryz.ntmps51
 go_wp2_with fail
 refine Nd H.out ?_;rintro r a ⟨rfl,rfl⟩;go_wp2;go_ret;exact⟨by show MN (M3 (Nn (1<=n) && Nn (n<=500)))=_;rw[Bool.decide_and],rfl⟩
theorem arm(c:Cf)(w:MO):Ni MK 38 #[aeV c] w fun r w'=>r=MN (M3 (Nn (acO c)))/\MQ w.heap.size w w':=by
 obtain⟨x,j⟩:∃x,x=Nn (acO c):=⟨_,rfl⟩;rw[<-j];have H:M6 _:=j;clear j;obtain⟨i,f⟩:∃i,i=w.alloc (abX c):=⟨_,rfl⟩;have s:MQ w.heap.size w i:=by rw[f];exact WQ w
 have p:i.heap[w.heap.size]?=MI (abX c):=by rw[f];exact M1 _ _
 obtain⟨R,Y,k2,k3,k4,k5,k6,k7,P,k9,L,y,K,I,M,N,A⟩:=adq p;have a:M6 (_/\_/\_):=⟨s,p,f⟩;clear s p f;go_enter Uu,Ud
 go_wp2_with fail
 rw[<-a.out.2.2];refine(ads c.flows 1 40 _).mono ?_;rintro r d ⟨rfl,rfl⟩
 by_cases t0:1<=c.flows/\c.flows<=40
 rotate_left
 ·rw[M0 t0]
  go_wp2;go_ret;exact⟨by rw[H.out,M0 (fun h=>t0 h.1)];rfl,a.out.1⟩
 rw[Nq t0]
 go_wp2_with fail
 refine(ads c.den 1 c.num _).mono ?_;rintro r d ⟨rfl,rfl⟩
 by_cases t1:1<=c.den/\c.den<=c.num
 rotate_left
 ·rw[M0 t1]
  go_wp2;go_ret;exact⟨by rw[H.out,M0 (fun h=>t1 h.2.1)];rfl,a.out.1⟩
 rw[Nq t1]
 by_cases t2:c.num<=20
 rotate_left
 ·have E:Nn (c.num<=20)=false:=M0 t2
  have HT:M6 (¬(c.num<=20)):=t2;go_wp2;go_ret;exact⟨by rw[H.out,M0 (fun h=>by have:=h.2.2.1;omega)];rfl,a.out.1⟩
 have E:Nn (c.num<=20)=true:=Nq t2
 go_wp2_with fail
 refine(ads c.tries 0 12 _).mono ?_;rintro r d ⟨rfl,rfl⟩
 by_cases t3:0<=c.tries/\c.tries<=12
 rotate_left
 ·rw[M0 t3]
  go_wp2;go_ret;exact⟨by rw[H.out,M0 (fun h=>t3 h.2.2.2.1)];rfl,a.out.1⟩
 rw[Nq t3]
 go_wp2_with fail
 refine(ads c.warm 0 500 _).mono ?_;rintro r d ⟨rfl,rfl⟩
 by_cases t4:0<=c.warm/\c.warm<=500
 rotate_left
 ·rw[M0 t4]
  go_wp2;go_ret;exact⟨by rw[H.out,M0 (fun h=>t4 h.2.2.2.2.1)];rfl,a.out.1⟩
 rw[Nq t4]
 go_wp2_with fail
 refine(ahV c.drain _).mono ?_;rintro r d ⟨rfl,rfl⟩
 by_cases t5:1<=c.drain/\c.drain<=500
 rotate_left
 ·rw[M0 t5]
  go_wp2;go_ret;exact⟨by rw[H.out,M0 (fun h=>t5 h.2.2.2.2.2.1)];rfl,a.out.1⟩
 rw[Nq t5]
 go_wp2_with fail
 refine(ahV c.idle _).mono ?_;rintro r d ⟨rfl,rfl⟩
 by_cases t6:1<=c.idle/\c.idle<=500
 rotate_left
 ·rw[M0 t6]
  go_wp2;go_ret;exact⟨by rw[H.out,M0 (fun h=>t6 h.2.2.2.2.2.2.1)];rfl,a.out.1⟩
 rw[Nq t6]
 go_wp2_with fail
 refine(ahV c.conn _).mono ?_;rintro r d ⟨rfl,rfl⟩
 by_cases t7:1<=c.conn/\c.conn<=500
 rotate_left
 ·rw[M0 t7]
  go_wp2;go_ret;exact⟨by rw[H.out,M0 (fun h=>t7 h.2.2.2.2.2.2.2.1)];rfl,a.out.1⟩
 rw[Nq t7]
 go_wp2_with fail
 refine(ads c.ret 0 20 _).mono ?_;rintro r d ⟨rfl,rfl⟩
 by_cases t8:0<=c.ret/\c.ret<=20
 rotate_left
 ·rw[M0 t8]
  go_wp2;go_ret;exact⟨by rw[H.out,M0 (fun h=>t8 h.2.2.2.2.2.2.2.2.1)];rfl,a.out.1⟩
 rw[Nq t8]
 go_wp2_with fail
 refine(ads c.most 0 100 _).mono ?_;rintro r d ⟨rfl,rfl⟩
 by_cases t9:0<=c.most/\c.most<=100
 rotate_left
 ·rw[M0 t9]
  go_wp2;go_ret;exact⟨by rw[H.out,M0 (fun h=>t9 h.2.2.2.2.2.2.2.2.2.1)];rfl,a.out.1⟩
 rw[Nq t9]
 go_wp2_with fail
 refine(afz c.bn c.bd c.bb _).mono ?_;rintro r w2 ⟨rfl,m⟩;have n:=WO a.out.2.1 m;have o:M6 _:=a.out.1.trans (m.mono a.out.1.size);obtain⟨V,j1,j2,j3,j4,S,U,j7,j8,Z,F,J,B,O,G,D,C⟩:=adq n;clear m R Y k2 k3 k4 k5 k6 k7 P k9 L y K I M N A
 by_cases tb:Zp c.bn c.bd c.bb
 rotate_left
 ·rw[show aaY c.bn c.bd c.bb=2 from Nf tb]
  clear n;go_wp2;go_ret;exact⟨by rw[H.out,M0 (fun h=>tb h.2.2.2.2.2.2.2.2.2.2.1)];rfl,o.out⟩
 rw[show aaY c.bn c.bd c.bb=0 from Nh tb];clear n
 go_wp2_with fail
 refine(ah3 c.wn c.wf c.wh _).mono ?_;rintro r w3 ⟨rfl,q⟩;have u:M6 _:=o.out.trans (q.mono o.out.size);clear q V j1 j2 j3 j4 S U j7 j8 Z F J B O G D C
 by_cases tw:ZT c.wn c.wf c.wh
 rotate_left
 ·rw[show abz c.wn c.wf c.wh=2 from Nf tw]
  go_wp2;go_ret;exact⟨by rw[H.out,M0 (fun h=>tw h.2.2.2.2.2.2.2.2.2.2.2)];rfl,u.out⟩
 rw[show abz c.wn c.wf c.wh=0 from Nh tw];go_wp2;go_ret;exact⟨by rw[H.out,Nq ⟨t0,t1,t2,t3,t4,t5,t6,t7,t8,t9,tb,tw⟩];rfl,u.out⟩
def af7(c:Cf):Int:=if acO c then 0 else 2
theorem arj(c:Cf)(w:MO):Ni MK 24 #[aeV c] w fun r w'=>r=MN (MF ME (af7 c))/\MQ w.heap.size w w':=by
 obtain⟨f,i⟩:∃f,f=w.alloc (abX c):=⟨_,rfl⟩;have o:MQ w.heap.size w f:=by rw[i];exact WQ w
 have m:f.heap[w.heap.size]?=MI (abX c):=by rw[i];exact M1 _ _
 obtain⟨E,F,H,I,J,L,D,K,C,G,x,q,u,B,y,A,s⟩:=adq m;have a:M6 (_/\_/\_):=⟨o,m,i⟩;clear o m i;have j:M6 _:=arm c f
 by_cases hok:acO c
 ·rw[show af7 c=0 from Nh hok]
  rw[Nq hok]at j;clear hok;go_enter Wc,VS
  go_wp2_with fail
  rw[<-a.out.2.2];refine Nd j.out ?_;rintro r p ⟨rfl,d⟩;have n:M6 _:=a.out.1.trans (d.mono a.out.1.size);clear d;go_wp2;go_ret;exact⟨rfl,n.out⟩
 ·rw[show af7 c=2 from Nf hok]
  rw[M0 hok]at j;clear hok;go_enter Wc,VS
  go_wp2_with fail
  rw[<-a.out.2.2];refine Nd j.out ?_;rintro r p ⟨rfl,d⟩;have n:M6 _:=a.out.1.trans (d.mono a.out.1.size);clear d;go_wp2;go_ret;exact⟨rfl,n.out⟩
section
variable {α:Type}{c:α->List M7}{k:Nat}{w w':MO}{v:M7}{l:List α}
theorem Xw.Gf(h:Xw c w v l)(hs:w.heap.size<=w'.heap.size)(hb:∀b,v.ownBlock=MI b->w'.heap[b]?=w.heap[b]?):Xw c w' v l:=by
 obtain⟨a,d,rfl,j,f,o|⟨b,off,rfl,n,m⟩⟩:=h
 ·exact⟨a,d,rfl,j,f,Nt o⟩
 ·refine⟨_,d,rfl,j,f,NF ⟨b,off,rfl,M8 n hs,fun i hi=>?_⟩⟩
  rw[<-m i hi];have:=hb b rfl;simp only[Nl,this]
variable {t e:NU}{z:M7}{bytes:Nat}
end
abbrev ad6(c:Cf)(vt vh:M7)(tok:Int)(vw:M7):List Value:=[MF ME c.flows,MF ME c.num,MF ME c.den,MF ME c.tries,MF ME c.warm,MF ME c.drain,MF ME c.idle,MF ME c.conn,MF ME c.ret,MF ME c.most,MF ME c.bn,MF ME c.bd,MF ME c.bb,MF ME c.wn,MF ME c.wf,MF ME c.wh,MF ME 0,vt,MG MH 0 0,MG MH 0 0,MG MH 0 0,MG MH 0 0,vh,MF ME tok,MF ME 0,vw]
abbrev ahZ(c:Cf)(vt vh:M7)(tok:Int)(vw:M7):Value:=Ny #[MF ME c.flows,MF ME c.num,MF ME c.den,MF ME c.tries,MF ME c.warm,MF ME c.drain,MF ME c.idle,MF ME c.conn,MF ME c.ret,MF ME c.most,MF ME c.bn,MF ME c.bd,MF ME c.bb,MF ME c.wn,MF ME c.wf,MF ME c.wh,MF ME 0,vt,MG MH 0 0,MG MH 0 0,MG MH 0 0,MG MH 0 0,vh,MF ME tok,MF ME 0,vw]
abbrev Xv:Cf:=⟨0,0,0,0,0,0,0,0,0,0,0,0,0,0,0,0⟩
abbrev aeW(_:Unit):List Value:=[MG MH 0 0,M3 Nb,MF ME 0,MF ME 0]
abbrev aeT(w:MO)(v:M7)(k:Nat):Prop:=Xw aeW w v (Nj k ())
theorem af8:(Tryz.prog.info? 61).map (·.size)=MI 26:=by kernel_rfl
theorem arq{base:Nat}{v:M7}{l:List Sl}(h:w.ownsRow base 113 4 v l.length (XF l)):Yy w v l :=
 show XB w v l.length (XF l)from Yr h
theorem arv{base:Nat}{v:M7}{vs:List M7}{ls:List (List Tm)}(h:WZ w base v vs ls):Zo w v ls :=
 ⟨vs,(show XB w v ls.length vs from Yr h.row),h.each.GV fun u l hu=>(show XB w u l.length (WP l)from Yr hu)⟩
def ard(w:MO)(vt vh vw:M7)(l:List Sl)(k:Nat)(ls:List (List Tm)):Prop:=Yy w vt l/\aeT w vh k/\Zo w vw ls
def af6(B:Nat)(w W:MO):Prop:=w.heap.size<=W.heap.size/\∀b,B<=b->b<w.heap.size->W.heap[b]?=w.heap[b]?
def af5(c:Cf)(w:MO)(r:Ending)(w':MO):Prop :=
 if acO c then ∃vt vh vw,r=MN (Nv #[ahZ c vt vh (c.bb*c.bd) vw,MF ME 0])/\(∀W,af6 w.heap.size w' W->ard W vt vh vw (Nj c.flows.toNat (0,Nb,0,0)) 12 aaW)/\MQ w.heap.size w w'
 else r=MN (Nv #[ahZ Xv (MG MH 0 0) (MG MH 0 0) 0 (MG MH 0 0),MF ME 2])/\MQ w.heap.size w w'
theorem alz(g:Nat):∀(vs:List M7) (o:Nat) (w:MO),(w.setCells g o vs).tape=w.tape
 | [],_,_=>rfl
 |v::vs,o,w=>by rw[Qd,alz g vs];simp[Q4]
theorem ahW(g:Nat):∀(vs:List M7) (o:Nat) (w:MO),(w.setCells g o vs).heap.size=w.heap.size
 | [],_,_=>rfl
 |v::vs,o,w=>by rw[Qd,ahW g vs];simp
theorem adp{B:Nat}{w0:MO}(h:MQ B w0 w)(hg:B<=g)(o:Nat)(vs:List M7)(hB:B<=w.heap.size):MQ B w0 (w.setCells g o vs):=by
 refine h.trans ⟨World.os_setCells _ _ _ _,alz _ _ _ _,World.output_setCells _ _ _ _,by rw[ahW];exact MV _,fun i hi=>N8 w g o vs (by omega) (by omega)⟩
theorem aeU(h:w.heap[g]?=MI (MP cs.toArray T (0,0))):w.there g 0 cs.length:=fun j hj=>by
 rw[Oa,MW w g j _ T (0,0) h];exact⟨by simp[hj],by simp[Ng,h]⟩
theorem alv{vs:List M7}(h:w.heap[g]?=MI (MP cs.toArray T (0,0)))(hl:cs.length=vs.length):(w.setCells g 0 vs).heap[g]?=MI (MP vs.toArray T (0,0)):=by
 have:=ac0 T g vs [] cs w hl (by simpa using h)
 simpa using this
abbrev ah0:List Value:=ad6 Xv (MG MH 0 0) (MG MH 0 0) 0 (MG MH 0 0)
theorem art(c:Cf)(vt vh:M7)(tok:Int)(vw:M7)(h1:vt.oneCell'=Nw)(h2:vh.oneCell'=Nw)(h3:vw.oneCell'=Nw):(ad6 c vt vh tok vw).toArray.all (·.oneCell')=true:=by
 apply OE;intro v a;simp only[ad6,OO,OD,or_false]at a;rcases a with rfl|rfl|rfl|rfl|rfl|rfl|rfl|rfl|rfl|rfl|rfl|rfl|rfl|rfl|rfl|rfl|rfl|rfl|rfl|rfl|rfl|rfl|rfl|rfl|rfl|rfl <;> first|rfl|exact h1|exact h2|exact h3
theorem agb(h:w.heap[g]?=MI (MP cs.toArray T (0,0))):w.rangeAt g 0 cs:=fun j v hv=>by
 rw[Oa,MW w g j _ T (0,0) h]
 simpa using hv
theorem ahU{c:Cf}{gc g2 gt gb gw:Nat}{vt vw:M7}{tok:Int}{ws:List M7}(hc:w.heap[gc]?=MI (abX c))(h2:w.heap[g2]?=MI (MP ws.toArray 61 (0,0)))(hw:ws.length=26)(ht:w.heap[gt]?=MI (MP #[vt] 45 (0,0)))(hb:w.heap[gb]?=MI (MP #[MF ME tok] 56 (0,0)))(hww:w.heap[gw]?=MI (MP #[MF ME 0,vw] 59 (0,0))):
  w.cell? ⟨gc,0,MH⟩=MI (MF ME c.flows)/\w.cell? ⟨gc,1,MH⟩=MI (MF ME c.num)/\w.cell? ⟨gc,2,MH⟩=MI (MF ME c.den)/\w.cell? ⟨gc,3,MH⟩=MI (MF ME c.tries)/\w.cell? ⟨gc,4,MH⟩=MI (MF ME c.warm)/\w.cell? ⟨gc,5,MH⟩=MI (MF ME c.drain)/\w.cell? ⟨gc,6,MH⟩=MI (MF ME c.idle)/\w.cell? ⟨gc,7,MH⟩=MI (MF ME c.conn)/\w.cell? ⟨gc,8,MH⟩=MI (MF ME c.ret)/\w.cell? ⟨gc,9,MH⟩=MI (MF ME c.most)/\w.cell? ⟨gc,10,MH⟩=MI (MF ME c.bn)/\w.cell? ⟨gc,11,MH⟩=MI (MF ME c.bd)/\w.cell? ⟨gc,12,MH⟩=MI (MF ME c.bb)/\w.cell? ⟨gc,13,MH⟩=MI (MF ME c.wn)/\w.cell? ⟨gc,14,MH⟩=MI (MF ME c.wf)/\w.cell? ⟨gc,15,MH⟩=MI (MF ME c.wh)/\w.cell? ⟨gt,0,MH⟩=MI vt/\w.cell? ⟨gb,0,MH⟩=MI (MF ME tok)/\w.cell? ⟨gw,0,MH⟩=MI (MF ME 0)/\w.cell? ⟨gw,1,MH⟩=MI vw/\w.there g2 0 26 :=
 have q:=adq hc
 ⟨q.1,q.2.1,q.2.2.1,q.2.2.2.1,q.2.2.2.2.1,q.2.2.2.2.2.1,q.2.2.2.2.2.2.1,q.2.2.2.2.2.2.2.1,q.2.2.2.2.2.2.2.2.1,q.2.2.2.2.2.2.2.2.2.1,q.2.2.2.2.2.2.2.2.2.2.1,q.2.2.2.2.2.2.2.2.2.2.2.1,q.2.2.2.2.2.2.2.2.2.2.2.2.1,q.2.2.2.2.2.2.2.2.2.2.2.2.2.1,q.2.2.2.2.2.2.2.2.2.2.2.2.2.2.1,q.2.2.2.2.2.2.2.2.2.2.2.2.2.2.2.1,Xu ht,Xu hb,(Xa hww).1,(Xa hww).2.1,by have:=aeU h2;rwa[hw]at this⟩
theorem arn:∀W,(Instr.makeSlice 54 (MF ME 12) (MF ME 12)).run MK W=.ok (MG (MI ⟨W.heap.size,0,MH⟩) 12 12) (W.alloc (MP (rv aeW (Nj 12 ())).toArray 160)):=fun W=>by kernel_rfl
theorem arl(W:MO):aeT (W.alloc (MP (rv aeW (Nj 12 ())).toArray 160)) (MG (MI ⟨W.heap.size,0,MH⟩) 12 12) 12:=by
 refine⟨_,12,rfl,by simp,by unfold NE;omega,NF ⟨W.heap.size,0,rfl,by simp,fun i hi=>?_⟩⟩;rw[Oa,MW _ W.heap.size i _ _ (0,0) (M1 W _)];simp
theorem arg(c:Cf)(w:MO)(h:acO c):Ni MK 11 #[aeV c] w (af5 c w):=by
 obtain⟨M,R⟩:∃M,M=(w.alloc (abX c)).alloc (MP ah0.toArray 61):=⟨_,rfl⟩;have l3:MQ w.heap.size w M:=by rw[R];exact(WQ w).trans ((WQ _).mono (by simp))
 have g6:M.heap[w.heap.size]?=MI (abX c):=by rw[R];exact Xy _ _ (M1 _ _)
 have i3:M.heap[w.heap.size+1]?=MI (MP ah0.toArray 61 (0,0)):=by rw[R];exact Yu _ _ _
 obtain⟨k0,k1,k2,k3,k4,k5,k6,k7,k8,k9,m5,m3,m4,n0,m6,n1,m7⟩:=adq g6;have HC:=arj c M;rw[show af7 c=0 from Nh h]at HC;have N:M6 (_/\_/\_/\_/\_):=⟨l3,g6,i3,R,HC⟩;clear l3 g6 i3 R HC;have HN:M6 _:=h;clear h;obtain⟨V,d7⟩:∃z,z=(rv aeW (Nj 12 ())).toArray:=⟨_,rfl⟩;have f0:∀W,(Instr.makeSlice 54 (MF ME 12) (MF ME 12)).run MK W=.ok (MG (MI ⟨W.heap.size,0,MH⟩) 12 12) (W.alloc (MP V 160)):=by rw[d7];exact arn
 have HZ:M6 (_/\_):=⟨d7,f0⟩;clear d7 f0;go_enter Tryz.func11,Tryz.ntmps11
 go_wp2_with fail
 rw[show(#[MF ME 0,MF ME 0,MF ME 0,MF ME 0,MF ME 0,MF ME 0,MF ME 0,MF ME 0,MF ME 0,MF ME 0,MF ME 0,MF ME 0,MF ME 0,MF ME 0,MF ME 0,MF ME 0,MF ME 0,MG MH 0 0,MG MH 0 0,MG MH 0 0,MG MH 0 0,MG MH 0 0,MG MH 0 0,MF ME 0,MF ME 0,MG MH 0 0]:Array M7)=ah0.toArray from rfl,<-N.out.2.2.2.1];refine Nd N.out.2.2.2.2 ?_;rintro r w1 ⟨rfl,c9⟩;have g4:=WO N.out.2.1 c9;have i9:=WO N.out.2.2.1 c9;have i5:=N.out.1.trans (c9.mono N.out.1.size);obtain⟨j0,j1,j2,j3,j4,j5,j6,j7,j8,j9,f2,f3,e5,h4,e6,f1,g7⟩:=adq g4;have J:M6 (_/\_/\_):=⟨g4,i9,i5⟩;clear g4 i9 i5 c9 k0 k1 k2 k3 k4 k5 k6 k7 k8 k9 m5 m3 m4 n0 m6 n1 m7
 go_wp2_with fail
 refine(auP c.flows _).mono ?_;rw[show adI c.flows=(Nj c.flows.toNat (0,Nb,0,0),0)from Nh HN.out.1];rintro r A ⟨q,c2,rfl,e4,U⟩;obtain⟨l,hl⟩:∃l:List Sl,l=Nj c.flows.toNat (0,Nb,0,0):=⟨_,rfl⟩;simp only[<-hl]at e4⊢;have HL:M6 _:=hl;clear hl j0 j1 j2 j3 j4 j5 j6 j7 j8 j9 f2 f3 e5 h4 e6 f1 g7;obtain⟨W2,d4⟩:∃W2,W2=A.alloc (MP #[MG q l.length c2] 45):=⟨_,rfl⟩;have d5:MQ A.heap.size A W2:=by rw[d4];exact WQ A
 have c3:=U.trans (d5.mono U.size);have i2:W2.heap[A.heap.size]?=MI (MP #[MG q l.length c2] 45 (0,0)):=by rw[d4];exact M1 _ _
 have l4:=YI e4 d5;obtain⟨j0,j1,j2,j3,j4,j5,j6,j7,j8,j9,f2,f3,e5,h4,e6,f1,g7⟩:=adq (WO J.out.1 U);have D:M6 (_/\_/\_/\_/\_/\_):=⟨WO J.out.1 c3,WO J.out.2.1 c3,J.out.2.2.trans (c3.mono J.out.2.2.size),i2,l4,d4⟩;have O:M6 (w1.heap.size<=A.heap.size):=U.size;clear d5 c3 i2 l4 d4 e4 U
 go_wp2_with fail
 rw[<-D.out.2.2.2.2.2];refine(aod c.bn c.bd c.bb _).mono ?_;rw[show aeB c.bn c.bd c.bb=(c.bb*c.bd,0)from Nh HN.out.2.2.2.2.2.2.2.2.2.2.1];rintro r u ⟨rfl,d0⟩;clear j0 j1 j2 j3 j4 j5 j6 j7 j8 j9 f2 f3 e5 h4 e6 f1 g7;obtain⟨m,e0⟩:∃m,m=c.bb*c.bd:=⟨_,rfl⟩
 dsimp only
 rw[<-e0];have HK:M6 _:=e0;clear e0;obtain⟨Z,c8⟩:∃Z,Z=u.alloc (MP #[MF ME m] 56):=⟨_,rfl⟩;have h6:MQ u.heap.size u Z:=by rw[c8];exact WQ u
 have L:=d0.trans (h6.mono d0.size);have e3:Z.heap[u.heap.size]?=MI (MP #[MF ME m] 56 (0,0)):=by rw[c8];exact M1 _ _
 have E:M6 (_/\_/\_/\_/\_/\_/\_):=⟨WO D.out.1 L,WO D.out.2.1 L,D.out.2.2.1.trans (L.mono D.out.2.2.1.size),WO D.out.2.2.2.1 L,YI D.out.2.2.2.2.1 L,e3,c8⟩;have h9:M6 (u.heap.size<Z.heap.size):=(Array.getElem?_eq_some_iff.1 e3).1;have c4:M6 (A.heap.size+1<=u.heap.size):=by have:=d0.size;have:=(Array.getElem?_eq_some_iff.1 D.out.2.2.2.1).1;show _<=_;omega
 clear h6 L e3 c8 d0
 go_wp2_with fail
 rw[<-E.out.2.2.2.2.2.2];refine(awa 0 _ ⟨by omega,by omega⟩).mono ?_;rintro r x ⟨vw,vs,rfl,g1,c6⟩;obtain⟨p,n,i8⟩:=Y6 g1.row;obtain⟨j,l8⟩:∃j,j=aaW.length:=⟨_,rfl⟩;rw[<-l8]at i8;subst i8;clear l8;have m8:(MG p j n).oneCell'=true:=rfl;obtain⟨d,c7⟩:∃d,d=x.alloc (MP #[MF ME 0,MG p j n] 59):=⟨_,rfl⟩;have d9:MQ x.heap.size x d:=by rw[c7];exact WQ x
 have H:=c6.trans (d9.mono c6.size);have i7:d.heap[x.heap.size]?=MI (MP #[MF ME 0,MG p j n] 59 (0,0)):=by rw[c7];exact M1 _ _
 have f:M6 (_/\_/\_/\_/\_/\_/\_/\_/\_):=⟨WO E.out.1 H,WO E.out.2.1 H,E.out.2.2.1.trans (H.mono E.out.2.2.1.size),WO E.out.2.2.2.1 H,YI E.out.2.2.2.2.1 H,WO E.out.2.2.2.2.2.1 H,i7,g1.below d9,c7⟩;have m2:M6 (u.heap.size+1<=x.heap.size):=by have:=c6.size;have:=(Array.getElem?_eq_some_iff.1 E.out.2.2.2.2.2.1).1;show _<=_;omega
 clear d9 H i7 c7 c6 g1;have n7:w.heap.size+1<w1.heap.size:=(Array.getElem?_eq_some_iff.1 J.out.2.1).1;obtain⟨F,y⟩:∃F,F=(d.alloc (MP V 160)).drew:=⟨_,rfl⟩;have s:MQ d.heap.size d F:=by rw[y];exact(WQ d).trans ⟨rfl,rfl,rfl,MV _,fun _ _=>rfl⟩
 have l6:aeT F (MG (MI ⟨d.heap.size,0,MH⟩) 12 12) 12:=by rw[y,HZ.out.1];exact arl d
 obtain⟨WL,I⟩:∃WL,WL=ad6 c (MG q l.length c2) (MG (MI ⟨d.heap.size,0,MH⟩) 12 12) m (MG p j n):=⟨_,rfl⟩;obtain⟨a,C⟩:∃a,a=F.setCells (w.heap.size+1) 0 WL:=⟨_,rfl⟩;have G:∀g,g≠w.heap.size+1->g<F.heap.size->a.heap[g]?=F.heap[g]?:=fun g h1 h2=>by rw[C];exact N8 F _ _ _ h2 h1
 have d2:=WO f.out.1 s;have g0:=WO f.out.2.1 s;have d1:=WO f.out.2.2.2.1 s;have c5:=WO f.out.2.2.2.2.2.1 s;have d3:=WO f.out.2.2.2.2.2.2.1 s;have i6:A.heap.size≠w.heap.size+1:=by have:=D.out.2.2.1.size;have:=O.out;omega
 have i0:u.heap.size≠w.heap.size+1:=by have:=O.out;have:=c4.out;omega
 have l1:x.heap.size≠w.heap.size+1:=by have:=O.out;have:=c4.out;have:=m2.out;omega
 have i4:=(G _ (by omega) (Array.getElem?_eq_some_iff.1 d2).1).trans d2;have l5:=(G _ i6 (Array.getElem?_eq_some_iff.1 d1).1).trans d1;have l2:=(G _ i0 (Array.getElem?_eq_some_iff.1 c5).1).trans c5;have i1:=(G _ l1 (Array.getElem?_eq_some_iff.1 d3).1).trans d3;have g9:a.heap[w.heap.size+1]?=MI (MP WL.toArray 61 (0,0)):=by rw[C];exact alv (vs:=WL) g0 (by rw[I];rfl)
 have g8:=f.out.2.2.1.trans (s.mono f.out.2.2.1.size);have m0:MQ w.heap.size w a:=by rw[C];exact adp g8 (by omega) _ _ g8.size
 have d8:F.heap.size<=a.heap.size:=by rw[C,ahW];exact MV _
 have m1:w.heap.size<=w1.heap.size:=J.out.2.2.size;have oT:=W8 (YI f.out.2.2.2.2.1 s) fun g hg=>G g (by have:=((YI f.out.2.2.2.2.1 s).lt g hg).1;omega) ((YI f.out.2.2.2.2.1 s).lt g hg).2
 have h8:∀Y,af6 w.heap.size a Y->Yy Y (MG q l.length c2) l:=fun Y hY=>arq (W8 oT fun g hg=>hY.2 g (by have:=(oT.lt g hg).1;omega) (oT.lt g hg).2)
 have oL:=(f.out.2.2.2.2.2.2.2.1.below s).Gf fun g h1 h2=>G g (by have:=O.out;have:=c4.out;have:=h9.out;omega) h2
 have l0:∀Y,af6 w.heap.size a Y->Zo Y (MG p j n) aaW:=fun Y hY=>arv (oL.Gf fun g h1 h2=>hY.2 g (by have:=O.out;have:=c4.out;have:=h9.out;omega) h2)
 have h5:aeT a (MG (MI ⟨d.heap.size,0,MH⟩) 12 12) 12:=Xw.Gf l6 d8 fun b hb=>by
  have e:b=d.heap.size:=by cases hb;rfl
  subst e;exact G _ (by have:=(Array.getElem?_eq_some_iff.1 f.out.2.1).1;omega) (by have:=s.size;rw[y];simp)
 have l7:∀Y,af6 w.heap.size a Y->aeT Y (MG (MI ⟨d.heap.size,0,MH⟩) 12 12) 12:=fun Y hY=>Xw.Gf h5 hY.1 fun b hb=>by
  have e:b=d.heap.size:=by cases hb;rfl
  subst e;exact hY.2 _ (by have:=(Array.getElem?_eq_some_iff.1 f.out.2.1).1;omega) (M8 (by have:=s.size;rw[y];simp) d8)
 have F1:=ahU f.out.1 f.out.2.1 rfl f.out.2.2.2.1 f.out.2.2.2.2.2.1 f.out.2.2.2.2.2.2.1;have F2:=ahU d2 g0 rfl d1 c5 d3;have F3:=ahU i4 g9 (by rw[I];rfl) l5 l2 i1;have d6:=art c (MG q l.length c2) (MG (MI ⟨d.heap.size,0,MH⟩) 12 12) m (MG p j n) rfl rfl m8;rw[C,I,y]at F3;rw[y]at F2;have G1:M6 _:=F1;have G2:M6 _:=F2;have G3:M6 _:=F3;have h7:M6 ((d.alloc (MP V 160)).drew.there (w.heap.size+1) 0 26):=F2.2.2.2.2.2.2.2.2.2.2.2.2.2.2.2.2.2.2.2.2;have n4:M6 (d.drew.there (w.heap.size+1) 0 26):=F1.2.2.2.2.2.2.2.2.2.2.2.2.2.2.2.2.2.2.2.2;have n2:(Instr.storeAt 61 (Na (MI ⟨w.heap.size+1,0,MH⟩)) (Ny #[MF ME c.flows,MF ME c.num,MF ME c.den,MF ME c.tries,MF ME c.warm,MF ME c.drain,MF ME c.idle,MF ME c.conn,MF ME c.ret,MF ME c.most,MF ME c.bn,MF ME c.bd,MF ME c.bb,MF ME c.wn,MF ME c.wf,MF ME c.wh,MF ME 0,MG q l.length c2,MG MH 0 0,MG MH 0 0,MG MH 0 0,MG MH 0 0,MG (MI ⟨d.heap.size,0,MH⟩) 12 12,MF ME m,MF ME 0,MG p j n])).run MK ((d.alloc (MP V 160)).drew)=.ok () a:=by
  have h1:=run_storeAt_mid (P:=MK) ((d.alloc (MP V 160)).drew) (w.heap.size+1) 0 61 #[MF ME c.flows,MF ME c.num,MF ME c.den,MF ME c.tries,MF ME c.warm,MF ME c.drain,MF ME c.idle,MF ME c.conn,MF ME c.ret,MF ME c.most,MF ME c.bn,MF ME c.bd,MF ME c.bb,MF ME c.wn,MF ME c.wf,MF ME c.wh,MF ME 0,MG q l.length c2,MG MH 0 0,MG MH 0 0,MG MH 0 0,MG MH 0 0,MG (MI ⟨d.heap.size,0,MH⟩) 12 12,MF ME m,MF ME 0,MG p j n] h7.out af8 d6;rw[C,I,y];exact h1
 have l9:a.cell? ⟨w.heap.size,0,MH⟩=MI (MF ME c.flows)/\a.cell? ⟨w.heap.size,1,MH⟩=MI (MF ME c.num)/\a.cell? ⟨w.heap.size,2,MH⟩=MI (MF ME c.den)/\a.cell? ⟨w.heap.size,3,MH⟩=MI (MF ME c.tries)/\a.cell? ⟨w.heap.size,4,MH⟩=MI (MF ME c.warm)/\a.cell? ⟨w.heap.size,5,MH⟩=MI (MF ME c.drain)/\a.cell? ⟨w.heap.size,6,MH⟩=MI (MF ME c.idle)/\a.cell? ⟨w.heap.size,7,MH⟩=MI (MF ME c.conn)/\a.cell? ⟨w.heap.size,8,MH⟩=MI (MF ME c.ret)/\a.cell? ⟨w.heap.size,9,MH⟩=MI (MF ME c.most)/\a.cell? ⟨w.heap.size,10,MH⟩=MI (MF ME c.bn)/\a.cell? ⟨w.heap.size,11,MH⟩=MI (MF ME c.bd)/\a.cell? ⟨w.heap.size,12,MH⟩=MI (MF ME c.bb)/\a.cell? ⟨w.heap.size,13,MH⟩=MI (MF ME c.wn)/\a.cell? ⟨w.heap.size,14,MH⟩=MI (MF ME c.wf)/\a.cell? ⟨w.heap.size,15,MH⟩=MI (MF ME c.wh)/\a.cell? ⟨A.heap.size,0,MH⟩=MI (MG q l.length c2)/\a.cell? ⟨u.heap.size,0,MH⟩=MI (MF ME m)/\a.cell? ⟨x.heap.size,0,MH⟩=MI (MF ME 0)/\a.cell? ⟨x.heap.size,1,MH⟩=MI (MG p j n)/\a.there (w.heap.size+1) 0 26:=by rw[C,I,y];exact F3
 have G4:M6 _:=l9;clear l9;have B:M6 (_/\_/\_/\_/\_/\_/\_/\_/\_):=⟨g9,m0,h8,l0,l7,d6,I,C,y⟩;have f0:=HZ.out.2;have n5:=axO;have n3:(Tryz.prog.info? 42).map (·.size)=MI 16:=by kernel_rfl
 have n6:=af8;clear F1 F2 F3 g9 m0 h8 l0 l7 h5 oT oL m1 d6 I C y G d2 g0 d1 c5 d3 i4 l5 l2 i1 g8 d8 l6 s i6 i0 l1;go_wp2;rw[<-f.out.2.2.2.2.2.2.2.2];refine O2 (S:=fun W=>W.cell? ⟨w.heap.size,0,MH⟩=MI (MF ME c.flows)/\W.cell? ⟨w.heap.size,1,MH⟩=MI (MF ME c.num)/\W.cell? ⟨w.heap.size,2,MH⟩=MI (MF ME c.den)/\W.cell? ⟨w.heap.size,3,MH⟩=MI (MF ME c.tries)/\W.cell? ⟨w.heap.size,4,MH⟩=MI (MF ME c.warm)/\W.cell? ⟨w.heap.size,5,MH⟩=MI (MF ME c.drain)/\W.cell? ⟨w.heap.size,6,MH⟩=MI (MF ME c.idle)/\W.cell? ⟨w.heap.size,7,MH⟩=MI (MF ME c.conn)/\W.cell? ⟨w.heap.size,8,MH⟩=MI (MF ME c.ret)/\W.cell? ⟨w.heap.size,9,MH⟩=MI (MF ME c.most)/\W.cell? ⟨w.heap.size,10,MH⟩=MI (MF ME c.bn)/\W.cell? ⟨w.heap.size,11,MH⟩=MI (MF ME c.bd)/\W.cell? ⟨w.heap.size,12,MH⟩=MI (MF ME c.bb)/\W.cell? ⟨w.heap.size,13,MH⟩=MI (MF ME c.wn)/\W.cell? ⟨w.heap.size,14,MH⟩=MI (MF ME c.wf)/\W.cell? ⟨w.heap.size,15,MH⟩=MI (MF ME c.wh)/\W.cell? ⟨A.heap.size,0,MH⟩=MI (MG q l.length c2)/\W.cell? ⟨u.heap.size,0,MH⟩=MI (MF ME m)/\W.cell? ⟨x.heap.size,0,MH⟩=MI (MF ME 0)/\W.cell? ⟨x.heap.size,1,MH⟩=MI (MG p j n)/\W.there (w.heap.size+1) 0 26) (by kernel_rfl) G1.out (fun hHeld=>?_);refine ND (i:=0) (oi:=_) (v:=aeV c) rfl (by kernel_rfl) (by kernel_rfl) (by kernel_rfl) (fun _ _ _ h=>h) (Nt ⟨by rfl,fun W hSw=>by obtain⟨s0,s1,s2,s3,s4,s5,s6,s7,s8,s9,f8,g5,f7,g3,f6,e8,e9,e7,f9,f5,f4⟩:=hSw;go_simp⟩) hHeld ?_;simp only[Nr,MJ,ML,MM];refine ND (i:=1) (oi:=_) (v:=Ny #[MG q l.length c2]) rfl (by kernel_rfl) (by kernel_rfl) (by kernel_rfl) (fun _ _ _ h=>h) (Nt ⟨by rfl,fun W hSw=>by obtain⟨s0,s1,s2,s3,s4,s5,s6,s7,s8,s9,f8,g5,f7,g3,f6,e8,e9,e7,f9,f5,f4⟩:=hSw;go_simp⟩) hHeld ?_;simp only[Nr,MJ,ML,MM];refine ND (i:=3) (oi:=_) (v:=Ny #[MF ME m]) rfl (by kernel_rfl) (by kernel_rfl) (by kernel_rfl) (fun _ _ _ h=>h) (Nt ⟨by rfl,fun W hSw=>by obtain⟨s0,s1,s2,s3,s4,s5,s6,s7,s8,s9,f8,g5,f7,g3,f6,e8,e9,e7,f9,f5,f4⟩:=hSw;go_simp⟩) hHeld ?_;simp only[Nr,MJ,ML,MM];refine ND (i:=4) (oi:=_) (v:=Ny #[MF ME 0,MG p j n]) rfl (by kernel_rfl) (by kernel_rfl) (by kernel_rfl) (fun _ _ _ h=>h) (Nt ⟨by rfl,fun W hSw=>by obtain⟨s0,s1,s2,s3,s4,s5,s6,s7,s8,s9,f8,g5,f7,g3,f6,e8,e9,e7,f9,f5,f4⟩:=hSw;go_simp⟩) hHeld ?_;simp only[Nr,MJ,ML,MM];refine NN (rs:=[2]) (by kernel_rfl) (by simp) ?_;refine NP (o:=_) rfl (fun K hK=>?_) NX;go_simp;refine hK.out _ _ G2.out (fun hHeld=>?_);clear hK K
 try simp only[Nr,MJ,ML,MM]
 refine NN (rs:=[5]) (by kernel_rfl) (by simp) ?_;refine NP (o:=_) rfl (fun K hK=>?_) NX;go_simp;refine hK.out _ _ G2.out (fun hHeld=>?_);clear hK K
 try simp only[Nr,MJ,ML,MM]
 refine NN (rs:=[6]) (by kernel_rfl) (by simp) ?_;refine NP (o:=_) rfl (fun K hK=>?_) NX;rw[Nh (by rfl)];refine wp_store_mid _ _ _ rfl _ _ #[MF ME c.flows,MF ME c.num,MF ME c.den,MF ME c.tries,MF ME c.warm,MF ME c.drain,MF ME c.idle,MF ME c.conn,MF ME c.ret,MF ME c.most,MF ME c.bn,MF ME c.bd,MF ME c.bb,MF ME c.wn,MF ME c.wf,MF ME c.wh,MF ME 0,MG q l.length c2,MG MH 0 0,MG MH 0 0,MG MH 0 0,MG MH 0 0,MG (MI ⟨d.heap.size,0,MH⟩) 12 12,MF ME m,MF ME 0,MG p j n] rfl rfl h7.out af8 B.out.2.2.2.2.2.1 ?_;rw[show RW (#[MF ME c.flows,MF ME c.num,MF ME c.den,MF ME c.tries,MF ME c.warm,MF ME c.drain,MF ME c.idle,MF ME c.conn,MF ME c.ret,MF ME c.most,MF ME c.bn,MF ME c.bd,MF ME c.bb,MF ME c.wn,MF ME c.wf,MF ME c.wh,MF ME 0,MG q l.length c2,MG MH 0 0,MG MH 0 0,MG MH 0 0,MG MH 0 0,MG (MI ⟨d.heap.size,0,MH⟩) 12 12,MF ME m,MF ME 0,MG p j n]:Array M7)=ad6 c (MG q l.length c2) (MG (MI ⟨d.heap.size,0,MH⟩) 12 12) m (MG p j n)from rfl,<-B.out.2.2.2.2.2.2.1,<-B.out.2.2.2.2.2.2.2.2,<-B.out.2.2.2.2.2.2.2.1];refine hK.out _ _ G4.out (fun hHeld=>?_);clear hK K
 try simp only[Nr,MJ,ML,MM]
 refine NN (rs:=[7]) (by kernel_rfl) (by simp) ?_;refine NP (o:=_) rfl (fun K hK=>?_) NX;go_simp;refine hK.out _ _ G4.out (fun hHeld=>?_);clear hK K
 try simp only[Nr,MJ,ML,MM]
 refine PS (by kernel_rfl) ?_ _;go_wp2;refine Np (v:=Nv #[ahZ c (MG q l.length c2) (MG (MI ⟨d.heap.size,0,MH⟩) 12 12) m (MG p j n),MF ME 0]) (XT Tryz.results11 rfl rfl (Xp (cs:=ad6 c (MG q l.length c2) (MG (MI ⟨d.heap.size,0,MH⟩) 12 12) m (MG p j n)) (by have:=B.out.1;rw[B.out.2.2.2.2.2.2.1]at this;exact this) Lv rfl af8)) rfl ?_;show af5 c w _ _;unfold af5;rw[Nh HN.out];refine⟨_,_,_,by rw[<-HK.out],?_,B.out.2.1⟩;rw[<-HL.out];exact fun Y hY=>⟨B.out.2.2.1 Y hY,B.out.2.2.2.2.1 Y hY,B.out.2.2.2.1 Y hY⟩
abbrev arh(n d b:Int):Value:=Ny #[MF ME n,MF ME d,MF ME b]
theorem alx{W:MO}{a b c:M7}(h:W.heap[g]?=MI (MP #[a,b,c] T (0,0))):W.cell? ⟨g,0,MH⟩=MI a/\W.cell? ⟨g,1,MH⟩=MI b/\W.cell? ⟨g,2,MH⟩=MI c/\g<W.heap.size :=
 ⟨by simp[Nl,h],by simp[Nl,h],by simp[Nl,h],(Array.getElem?_eq_some_iff.1 h).1⟩
theorem alw{a b c a' b' c':M7}(h:w.heap[g]?=MI (MP #[a,b,c] T (0,0))):(((w.setCell ⟨g,0,MH⟩ a').setCell ⟨g,1,MH⟩ b').setCell ⟨g,2,MH⟩ c').heap[g]?=MI (MP #[a',b',c'] T (0,0)):=by
 have f:=NI w g 0 _ T a' h;have d:=NI _ g 1 _ T b' f;exact NI _ g 2 _ T c' d
theorem ari(x y z:Int)(hx:(N6 ME x).wf=Nw)(hy:(N6 ME y).wf=Nw)(hz:(N6 ME z).wf=Nw) :
  ∃n d b:Nat,(n<=20/\(1<=d/\d<=20)/\b<=20)/\∀w,Ni MK 22 #[MF ME x,MF ME y,MF ME z] w fun r w'=>r=MN (arh n d b)/\MQ w.heap.size w w':=by
 obtain⟨n,u,p⟩:=aaK x 21 hx (by omega) (by omega);obtain⟨d,s,m⟩:=aaK y 20 hy (by omega) (by omega);obtain⟨b,C,o⟩:=aaK z 21 hz (by omega) (by omega);refine⟨n,1+d,b,⟨by omega,⟨by omega,by omega⟩,by omega⟩,fun w=>?_⟩;have P:M6 (_/\_/\_):=⟨p,m,o⟩;clear p m o hx hy hz;obtain⟨a,i⟩:∃a,a=w.alloc (MP #[MF ME 0,MF ME 0,MF ME 0] 38):=⟨_,rfl⟩;have f:a.heap[w.heap.size]?=MI (MP #[MF ME 0,MF ME 0,MF ME 0] 38 (0,0)):=by rw[i];exact M1 _ _
 have j:MQ w.heap.size w a:=by rw[i];exact WQ _
 obtain⟨c0,c1,c2,q⟩:=alx f;have B:a.frozen? ⟨w.heap.size,0,MH⟩=false:=by simp[Ng,f]
 have A:a.frozen? ⟨w.heap.size,1,MH⟩=false:=by simp[Ng,f]
 have D:a.frozen? ⟨w.heap.size,2,MH⟩=false:=by simp[Ng,f]
 have H:M6 (_/\_/\_):=⟨i,f,j⟩;clear i f j;go_enter Tryz.func22,Tryz.ntmps22
 go_wp2_with fail
 rw[<-H.out.1];refine(P.out.1 _).mono ?_;rintro e w' ⟨rfl,rfl⟩
 go_wp2_with fail
 refine(P.out.2.1 _).mono ?_;rintro e w' ⟨rfl,rfl⟩
 go_wp2_with fail
 refine(P.out.2.2 _).mono ?_;rintro e w' ⟨rfl,rfl⟩;go_wp2;exact Np (v:=Ny #[MF ME n,MF ME (1+d),MF ME b]) (Z2 Tryz.results22 rfl (Xp (P:=MK) (cs:=[MF ME n,MF ME (1+d),MF ME b]) (alw H.out.2.1) UZ rfl (by kernel_rfl))) rfl ⟨by simp,((H.out.2.2.setCell (MV _) _).setCell (MV _) _).setCell (MV _) _⟩
theorem ars(x y z:Int)(hx:(N6 ME x).wf=Nw)(hy:(N6 ME y).wf=Nw)(hz:(N6 ME z).wf=Nw) :
  ∃n f d:Nat,(1<=n/\n<=16)/\(1<=f/\f<=n)/\(1<=d/\d<=500)/\n=1+ZN x 16/\∀w,Ni MK 23 #[MF ME x,MF ME y,MF ME z] w fun r w'=>r=MN (acS n f d)/\MQ w.heap.size w w':=by
 have q:∀W,Ni MK 21 #[MF ME x,MF ME 16] W fun r w'=>r=MN (MF ME (ZN x 16:Nat))/\w'=W:=fun W=>by
  have s:=adr hx;have:=aga x 16 W s.1 s.2 (by omega) (by omega);exact this
 have B:=af9 x 16 (by omega);generalize ZN x 16=n at *;obtain⟨f,E,m⟩:=aaK y (1+n) hy (by omega) (by omega);obtain⟨d,A,p⟩:=aaK z 500 hz (by omega) (by omega);refine⟨1+n,1+f,1+d,⟨by omega,by omega⟩,⟨by omega,by omega⟩,⟨by omega,by omega⟩,rfl,fun w=>?_⟩;rw[Int.natCast_add]at m;have P:M6 (_/\_/\_):=⟨q,m,p⟩;clear q m p hx hy hz;obtain⟨a,j⟩:∃a,a=w.alloc (MP #[MF ME 0,MF ME 0,MF ME 0] 40):=⟨_,rfl⟩;have i:a.heap[w.heap.size]?=MI (MP #[MF ME 0,MF ME 0,MF ME 0] 40 (0,0)):=by rw[j];exact M1 _ _
 have o:MQ w.heap.size w a:=by rw[j];exact WQ _
 obtain⟨c0,c1,c2,u⟩:=alx i;have D:a.frozen? ⟨w.heap.size,0,MH⟩=false:=by simp[Ng,i]
 have C:a.frozen? ⟨w.heap.size,1,MH⟩=false:=by simp[Ng,i]
 have F:a.frozen? ⟨w.heap.size,2,MH⟩=false:=by simp[Ng,i]
 have H:M6 (_/\_/\_):=⟨j,i,o⟩;clear j i o;go_enter Tryz.func23,Tryz.ntmps23
 go_wp2_with fail
 rw[<-H.out.1];refine(P.out.1 _).mono ?_;rintro e w' ⟨rfl,rfl⟩
 go_wp2_with fail
 refine(P.out.2.1 _).mono ?_;rintro e w' ⟨rfl,rfl⟩
 go_wp2_with fail
 refine(P.out.2.2 _).mono ?_;rintro e w' ⟨rfl,rfl⟩;go_wp2;exact Np (v:=Ny #[MF ME (1+n),MF ME (1+f),MF ME (1+d)]) (Z2 Tryz.results23 rfl (Xp (P:=MK) (cs:=[MF ME (1+n),MF ME (1+f),MF ME (1+d)]) (alw H.out.2.1) U3 rfl (by kernel_rfl))) rfl ⟨by simp,((H.out.2.2.setCell (MV _) _).setCell (MV _) _).setCell (MV _) _⟩
theorem arb(n many:Int)(w:MO)(h0:-9223372036854775808<=n)(h1:n<=9223372036854775807)(h2:0<many)(h3:many<=9223372036854775807):Ni MK 29 #[MF ME n,MF ME many] w fun e w'=>e=MN (MF ME ((ZN n many.toNat:Nat):Int))/\w'=w:=by
 have H:M6 _:=aga n many w h0 h1 h2 h3;go_enter Tryz.func29,Tryz.ntmps29
 go_wp2_with fail
 refine Nd H.out ?_;rintro r a ⟨rfl,rfl⟩;go_wp2;go_ret;exact⟨rfl,rfl⟩
abbrev agc(x0 x1 x2 x3 x4 x5 x6 x7 x8 x9 x10 x11 x12 x13 x14 x15:Int):Value:=Ny #[MF ME x0,MF ME x1,MF ME x2,MF ME x3,MF ME x4,MF ME x5,MF ME x6,MF ME x7,MF ME x8,MF ME x9,MF ME x10,MF ME x11,MF ME x12,MF ME x13,MF ME x14,MF ME x15]
abbrev ahX(x0 x1 x2 x3 x4 x5 x6 x7 x8 x9 x10 x11 x12 x13 x14 x15:Int):Obj:=MP #[MF ME x0,MF ME x1,MF ME x2,MF ME x3,MF ME x4,MF ME x5,MF ME x6,MF ME x7,MF ME x8,MF ME x9,MF ME x10,MF ME x11,MF ME x12,MF ME x13,MF ME x14,MF ME x15] 24
theorem ahY{b:Nat}{x0 x1 x2 x3 x4 x5 x6 x7 x8 x9 x10 x11 x12 x13 x14 x15:Int}(h:w.heap[b]?=MI (ahX x0 x1 x2 x3 x4 x5 x6 x7 x8 x9 x10 x11 x12 x13 x14 x15)):w.cell? ⟨b,0,MH⟩=MI (MF ME x0)/\w.cell? ⟨b,1,MH⟩=MI (MF ME x1)/\w.cell? ⟨b,2,MH⟩=MI (MF ME x2)/\w.cell? ⟨b,3,MH⟩=MI (MF ME x3)/\w.cell? ⟨b,4,MH⟩=MI (MF ME x4)/\w.cell? ⟨b,5,MH⟩=MI (MF ME x5)/\w.cell? ⟨b,6,MH⟩=MI (MF ME x6)/\w.cell? ⟨b,7,MH⟩=MI (MF ME x7)/\w.cell? ⟨b,8,MH⟩=MI (MF ME x8)/\w.cell? ⟨b,9,MH⟩=MI (MF ME x9)/\w.cell? ⟨b,10,MH⟩=MI (MF ME x10)/\w.cell? ⟨b,11,MH⟩=MI (MF ME x11)/\w.cell? ⟨b,12,MH⟩=MI (MF ME x12)/\w.cell? ⟨b,13,MH⟩=MI (MF ME x13)/\w.cell? ⟨b,14,MH⟩=MI (MF ME x14)/\w.cell? ⟨b,15,MH⟩=MI (MF ME x15)/\b<w.heap.size :=
 ⟨by simp[Nl,h],by simp[Nl,h],by simp[Nl,h],by simp[Nl,h],by simp[Nl,h],by simp[Nl,h],by simp[Nl,h],by simp[Nl,h],by simp[Nl,h],by simp[Nl,h],by simp[Nl,h],by simp[Nl,h],by simp[Nl,h],by simp[Nl,h],by simp[Nl,h],by simp[Nl,h],(Array.getElem?_eq_some_iff.1 h).1⟩
theorem aru(x:Int):(N6 ME (x.tmod 20)).wf=true:=by
 by_cases h:x<0
 ·have e:x.tmod 20 = -((-x) % 20):=by
   rw[show x = -(-x)by omega,Int.neg_tmod,Oi (by omega)];simp
  rw[e];exact aez (by omega) (by omega)
 ·rw[Oi (by omega)]
  exact aez (by omega) (by omega)
theorem awX{P:O8}{md:Region.Mode}{ops:Array Oper}{Q:Exit->Act->MO->Prop}{S:MO->Prop}(i:Nat)(v:M7){oi:Oper}{fuel:Nat}{listed:Array Bool}{a:Act}(hS:S w)
  (h:wpAnyH P md ops Q S fuel (listed.setIfInBounds i Nw) (a.put oi.dst v) w) (hi:ops[i]?=MI oi:=by rfl) (hs:Region.noSelect ops=true:=by kernel_rfl) (hf:Region.free md ops listed i=true:=by kernel_rfl) (hr:(Region.ready md ops listed).contains i=true:=by kernel_rfl)
  (hQ:∀c a w,Q (.panic c) (a.put oi.dst v) w->Q (.panic c) a w:=by exact fun _ _ _ h=>h) (hy:YieldsIf P ops S oi v a:=by exact Or.inl ⟨by rfl,fun X hSw=>by obtain⟨s0,s1,s2,s3,s4,s5,s6,s7,s8,s9,s10,s11,s12,s13,s14,s15⟩:=hSw;go_simp⟩):wpAnyH P md ops Q S (fuel+1) listed a w :=
 ND hi hs hf hr hQ hy hS h
theorem abk{n:Int}(h1:-1000000<=n)(h2:n<=1000000):IntKind.i64.wrap n=n:=by rw[Ow];omega
theorem arf(l:List Int):(l.map fun x=>MF ME x).toArray.all (·.oneCell')=true:=by
 apply OE;intro v a;obtain⟨x,_,rfl⟩:=List.mem_map.1 a;rfl
structure aar(x0 x1 x2 x3 x4 x5 x6 x7 x8 x9 x10 x11 x12 x13 x14 x15:Int)(c:Cf):Prop where
 ok:acO c
 flows:c.flows<=8
 drain:c.drain<=5
 idle:c.idle<=6
 conn:c.conn<=4
 ret:c.ret<=3
 most:c.most=((ZN x9 101:Nat):Int)
theorem ark(x0 x1 x2 x3 x4 x5 x6 x7 x8 x9 x10 x11 x12 x13 x14 x15:Int)(w0:(N6 ME x0).wf=Nw)(w1:(N6 ME x1).wf=Nw)(w2:(N6 ME x2).wf=Nw)(w3:(N6 ME x3).wf=Nw)(w4:(N6 ME x4).wf=Nw)(w5:(N6 ME x5).wf=Nw)(w6:(N6 ME x6).wf=Nw)(w7:(N6 ME x7).wf=Nw)(w8:(N6 ME x8).wf=Nw)(w9:(N6 ME x9).wf=Nw)(w10:(N6 ME x10).wf=Nw)(w11:(N6 ME x11).wf=Nw)(w12:(N6 ME x12).wf=Nw)(w13:(N6 ME x13).wf=Nw)(w14:(N6 ME x14).wf=Nw)(w15:(N6 ME x15).wf=Nw) :
  ∃c:Cf,aar x0 x1 x2 x3 x4 x5 x6 x7 x8 x9 x10 x11 x12 x13 x14 x15 c/\∀w,Ni MK 10 #[agc x0 x1 x2 x3 x4 x5 x6 x7 x8 x9 x10 x11 x12 x13 x14 x15] w fun r w'=>r=MN (aeV c)/\MQ w.heap.size w w':=by
 obtain⟨a,b2,p2⟩:=aaK x2 20 w2 (by omega) (by omega);obtain⟨i,b0,p0⟩:=aaK x0 8 w0 (by omega) (by omega);obtain⟨x,b3,p3⟩:=aaK x3 4 w3 (by omega) (by omega);obtain⟨y,b4,p4⟩:=aaK x4 6 w4 (by omega) (by omega);obtain⟨m,b5,p5⟩:=aaK x5 5 w5 (by omega) (by omega);obtain⟨f,b6,p6⟩:=aaK x6 6 w6 (by omega) (by omega);obtain⟨j,b7,p7⟩:=aaK x7 4 w7 (by omega) (by omega);obtain⟨s,b8,p8⟩:=aaK x8 4 w8 (by omega) (by omega);obtain⟨n,b1,p1⟩:=aaK x1 (20-a) w1 (by omega) (by omega);have d2:(((20-a:Nat)):Int)=20-(1+(a:Int))+1:=by omega
 rw[d2]at p1;have p9:∀W,Ni MK 21 #[MF ME x9,MF ME 101] W fun r w'=>r=MN (MF ME ((ZN x9 101:Nat):Int))/\w'=W:=fun W=>by
  have L:=adr w9;exact aga x9 101 W L.1 L.2 (by omega) (by omega)
 have b9:=af9 x9 101 (by omega);obtain⟨E,D,A,f0,pb⟩:=ari x10 x11 x12 w10 w11 w12;obtain⟨B,wf,F,f3,g3,f9,_,pw⟩:=ars x13 x14 (x15.tmod 20) w13 w14 (aru x15);refine⟨⟨1+i,1+a+n,1+a,x,y,1+m,1+f,1+j,s,(ZN x9 101:Nat),E,D,A,B,wf,F⟩,⟨⟨⟨by show(1:Int)<=1+i;omega,by show(1:Int)+i<=40;omega⟩,⟨by show(1:Int)<=1+a;omega,by show(1:Int)+a<=1+a+n;omega⟩,by show(1:Int)+a+n<=20;omega,⟨by show(0:Int)<=x;omega,by show(x:Int)<=12;omega⟩,⟨by show(0:Int)<=y;omega,by show(y:Int)<=500;omega⟩,⟨by show(1:Int)<=1+m;omega,by show(1:Int)+m<=500;omega⟩,⟨by show(1:Int)<=1+f;omega,by show(1:Int)+f<=500;omega⟩,⟨by show(1:Int)<=1+j;omega,by show(1:Int)+j<=500;omega⟩,⟨by show(0:Int)<=s;omega,by show(s:Int)<=20;omega⟩,⟨by show(0:Int)<=((ZN x9 101:Nat):Int);omega,by show((ZN x9 101:Nat):Int)<=100;omega⟩,?_,?_⟩,by show(1:Int)+i<=8;omega,by show(1:Int)+m<=5;omega,by show(1:Int)+f<=6;omega,by show(1:Int)+j<=4;omega,by show(s:Int)<=3;omega,rfl⟩,fun w=>?_⟩
 ·show Zp (E:Int) (D:Int) (A:Int)
  exact⟨by omega,by omega,by omega⟩
 ·show ZT (B:Int) (wf:Int) (F:Int)
  exact⟨by omega,by omega,by omega⟩
 obtain⟨C,c8⟩:∃C,C=ZN x9 101:=⟨_,rfl⟩;rw[<-c8]at p9 b9⊢;clear c8 d2 w0 w1 w2 w3 w4 w5 w6 w7 w8 w9 w10 w11 w12 w13 w14 w15;have g8:IntKind.i64.wrap (1+(i:Int))=1+(i:Int):=abk (by omega) (by omega);have f7:IntKind.i64.wrap (20-(1+(a:Int)))=20-(1+(a:Int)):=abk (by omega) (by omega);have f4:IntKind.i64.wrap (20-(1+(a:Int))+1)=20-(1+(a:Int))+1:=abk (by omega) (by omega);have f6:IntKind.i64.wrap (1+(a:Int)+(n:Int))=1+(a:Int)+(n:Int):=abk (by omega) (by omega);have g4:IntKind.i64.wrap (1+(m:Int))=1+(m:Int):=abk (by omega) (by omega);have g7:IntKind.i64.wrap (1+(f:Int))=1+(f:Int):=abk (by omega) (by omega);have f8:IntKind.i64.wrap (1+(j:Int))=1+(j:Int):=abk (by omega) (by omega);obtain⟨J,M⟩:∃J,J=(w.alloc (ahX x0 x1 x2 x3 x4 x5 x6 x7 x8 x9 x10 x11 x12 x13 x14 x15)).alloc (abX Xv):=⟨_,rfl⟩;have c7:MQ w.heap.size w J:=by rw[M];exact(WQ w).trans ((WQ _).mono (by simp))
 have N:J.heap[w.heap.size]?=MI (ahX x0 x1 x2 x3 x4 x5 x6 x7 x8 x9 x10 x11 x12 x13 x14 x15):=by rw[M];exact Xy _ _ (M1 _ _)
 have I:J.heap[w.heap.size+1]?=MI (abX Xv):=by rw[M];exact Yu _ _ _
 obtain⟨b,L⟩:∃b,b=w.heap.size:=⟨_,rfl⟩;obtain⟨g,hg⟩:∃g,g=w.heap.size+1:=⟨_,rfl⟩;rw[<-L]at N;rw[<-hg]at I;obtain⟨a0,a1,a2,a3,a4,a5,a6,a7,a8,a9,g6,g9,g5,f2,g0,g1,f5⟩:=ahY N;have G:M6 (_/\_/\_/\_/\_/\_/\_/\_/\_/\_):=⟨p0,p1,p2,p3,p4,p5,p6,p7,p8,p9⟩;have c5:w.heap.size<=g:=by omega
 have H:M6 (_/\_/\_/\_/\_/\_/\_):=⟨c7,N,I,M,L,hg,c5⟩;have HS:M6 (∀X,MQ J.heap.size J X->X.cell? ⟨b,0,MH⟩=MI (MF ME x0)/\X.cell? ⟨b,1,MH⟩=MI (MF ME x1)/\X.cell? ⟨b,2,MH⟩=MI (MF ME x2)/\X.cell? ⟨b,3,MH⟩=MI (MF ME x3)/\X.cell? ⟨b,4,MH⟩=MI (MF ME x4)/\X.cell? ⟨b,5,MH⟩=MI (MF ME x5)/\X.cell? ⟨b,6,MH⟩=MI (MF ME x6)/\X.cell? ⟨b,7,MH⟩=MI (MF ME x7)/\X.cell? ⟨b,8,MH⟩=MI (MF ME x8)/\X.cell? ⟨b,9,MH⟩=MI (MF ME x9)/\X.cell? ⟨b,10,MH⟩=MI (MF ME x10)/\X.cell? ⟨b,11,MH⟩=MI (MF ME x11)/\X.cell? ⟨b,12,MH⟩=MI (MF ME x12)/\X.cell? ⟨b,13,MH⟩=MI (MF ME x13)/\X.cell? ⟨b,14,MH⟩=MI (MF ME x14)/\X.cell? ⟨b,15,MH⟩=MI (MF ME x15)):=fun X hX=>by
  obtain⟨q0,q1,q2,q3,q4,q5,q6,q7,q8,q9,d6,e4,d4,d3,d5,e5,_⟩:=ahY (WO N hX);exact⟨q0,q1,q2,q3,q4,q5,q6,q7,q8,q9,d6,e4,d4,d3,d5,e5⟩
 have HB:M6 _:=pb;have HW:M6 _:=pw;have f1:∀X:MO,(binOp .rem 3 (MF ME x15) (MF ME 20)).run MK X=.ok (MF ME (x15.tmod 20)) X:=fun X=>by go_simp
 clear p0 p1 p2 p3 p4 p5 p6 p7 p8 p9 c7 N I M pb pw L hg c5;go_enter Tryz.func10,Tryz.ntmps10
 go_wp2_with fail
 rw[show(#[MF ME 0,MF ME 0,MF ME 0,MF ME 0,MF ME 0,MF ME 0,MF ME 0,MF ME 0,MF ME 0,MF ME 0,MF ME 0,MF ME 0,MF ME 0,MF ME 0,MF ME 0,MF ME 0]:Array M7)=#[MF ME Xv.flows,MF ME Xv.num,MF ME Xv.den,MF ME Xv.tries,MF ME Xv.warm,MF ME Xv.drain,MF ME Xv.idle,MF ME Xv.conn,MF ME Xv.ret,MF ME Xv.most,MF ME Xv.bn,MF ME Xv.bd,MF ME Xv.bb,MF ME Xv.wn,MF ME Xv.wf,MF ME Xv.wh]from rfl,<-H.out.2.2.2.1,<-H.out.2.2.2.2.2.1,<-H.out.2.2.2.2.1];refine(G.out.2.2.1 _).mono ?_;rintro r v1 ⟨rfl,d9⟩;subst d9;go_wp2;have c4:MQ v1.heap.size v1 v1.drew:=(MY _ _).drew;refine O2 (S:=fun W=>W.cell? ⟨b,0,MH⟩=MI (MF ME x0)/\W.cell? ⟨b,1,MH⟩=MI (MF ME x1)/\W.cell? ⟨b,2,MH⟩=MI (MF ME x2)/\W.cell? ⟨b,3,MH⟩=MI (MF ME x3)/\W.cell? ⟨b,4,MH⟩=MI (MF ME x4)/\W.cell? ⟨b,5,MH⟩=MI (MF ME x5)/\W.cell? ⟨b,6,MH⟩=MI (MF ME x6)/\W.cell? ⟨b,7,MH⟩=MI (MF ME x7)/\W.cell? ⟨b,8,MH⟩=MI (MF ME x8)/\W.cell? ⟨b,9,MH⟩=MI (MF ME x9)/\W.cell? ⟨b,10,MH⟩=MI (MF ME x10)/\W.cell? ⟨b,11,MH⟩=MI (MF ME x11)/\W.cell? ⟨b,12,MH⟩=MI (MF ME x12)/\W.cell? ⟨b,13,MH⟩=MI (MF ME x13)/\W.cell? ⟨b,14,MH⟩=MI (MF ME x14)/\W.cell? ⟨b,15,MH⟩=MI (MF ME x15)) (by kernel_rfl) (HS.out _ c4) (fun hHeld=>?_);refine awX 0 (Na (MI ⟨b,0,MH⟩)) hHeld ?_;simp only[Nr,MJ,ML,MM];refine awX 1 (MF ME (x0)) hHeld ?_;simp only[Nr,MJ,ML,MM];refine awX 4 (MF ME (1+(a:Int))) hHeld ?_;simp only[Nr,MJ,ML,MM];refine awX 5 (Na (MI ⟨b,1,MH⟩)) hHeld ?_;simp only[Nr,MJ,ML,MM];refine awX 6 (MF ME (x1)) hHeld ?_;simp only[Nr,MJ,ML,MM];refine awX 7 (MF ME (1+(a:Int))) hHeld ?_;simp only[Nr,MJ,ML,MM];refine awX 8 (MF ME (20-(1+(a:Int)))) hHeld ?_;simp only[Nr,MJ,ML,MM];refine awX 9 (MF ME (20-(1+(a:Int))+1)) hHeld ?_;simp only[Nr,MJ,ML,MM];refine awX 12 (MF ME (1+(a:Int))) hHeld ?_;simp only[Nr,MJ,ML,MM];refine awX 13 (Na (MI ⟨b,3,MH⟩)) hHeld ?_;simp only[Nr,MJ,ML,MM];refine awX 14 (MF ME (x3)) hHeld ?_;simp only[Nr,MJ,ML,MM];refine awX 16 (Na (MI ⟨b,4,MH⟩)) hHeld ?_;simp only[Nr,MJ,ML,MM];refine awX 17 (MF ME (x4)) hHeld ?_;simp only[Nr,MJ,ML,MM];refine awX 19 (Na (MI ⟨b,5,MH⟩)) hHeld ?_;simp only[Nr,MJ,ML,MM];refine awX 20 (MF ME (x5)) hHeld ?_;simp only[Nr,MJ,ML,MM];refine awX 23 (Na (MI ⟨b,6,MH⟩)) hHeld ?_;simp only[Nr,MJ,ML,MM];refine awX 24 (MF ME (x6)) hHeld ?_;simp only[Nr,MJ,ML,MM];refine awX 27 (Na (MI ⟨b,7,MH⟩)) hHeld ?_;simp only[Nr,MJ,ML,MM];refine awX 28 (MF ME (x7)) hHeld ?_;simp only[Nr,MJ,ML,MM];refine awX 31 (Na (MI ⟨b,8,MH⟩)) hHeld ?_;simp only[Nr,MJ,ML,MM];refine awX 32 (MF ME (x8)) hHeld ?_;simp only[Nr,MJ,ML,MM];refine awX 34 (Na (MI ⟨b,9,MH⟩)) hHeld ?_;simp only[Nr,MJ,ML,MM];refine awX 35 (MF ME (x9)) hHeld ?_;simp only[Nr,MJ,ML,MM];refine awX 37 (Na (MI ⟨b,10,MH⟩)) hHeld ?_;simp only[Nr,MJ,ML,MM];refine awX 38 (Na (MI ⟨b,10,MH⟩)) hHeld ?_;simp only[Nr,MJ,ML,MM];refine awX 39 (MF ME (x10)) hHeld ?_;simp only[Nr,MJ,ML,MM];refine awX 40 (Na (MI ⟨b,10,MH⟩)) hHeld ?_;simp only[Nr,MJ,ML,MM];refine awX 41 (Na (MI ⟨b,11,MH⟩)) hHeld ?_;simp only[Nr,MJ,ML,MM];refine awX 42 (MF ME (x11)) hHeld ?_;simp only[Nr,MJ,ML,MM];refine awX 43 (Na (MI ⟨b,10,MH⟩)) hHeld ?_;simp only[Nr,MJ,ML,MM];refine awX 44 (Na (MI ⟨b,12,MH⟩)) hHeld ?_;simp only[Nr,MJ,ML,MM];refine awX 45 (MF ME (x12)) hHeld ?_;simp only[Nr,MJ,ML,MM];refine awX 47 (Na (MI ⟨b,13,MH⟩)) hHeld ?_;simp only[Nr,MJ,ML,MM];refine awX 48 (Na (MI ⟨b,13,MH⟩)) hHeld ?_;simp only[Nr,MJ,ML,MM];refine awX 49 (MF ME (x13)) hHeld ?_;simp only[Nr,MJ,ML,MM];refine awX 50 (Na (MI ⟨b,13,MH⟩)) hHeld ?_;simp only[Nr,MJ,ML,MM];refine awX 51 (Na (MI ⟨b,14,MH⟩)) hHeld ?_;simp only[Nr,MJ,ML,MM];refine awX 52 (MF ME (x14)) hHeld ?_;simp only[Nr,MJ,ML,MM];refine awX 53 (Na (MI ⟨b,13,MH⟩)) hHeld ?_;simp only[Nr,MJ,ML,MM];refine awX 54 (Na (MI ⟨b,15,MH⟩)) hHeld ?_;simp only[Nr,MJ,ML,MM];refine awX 55 (MF ME (x15)) hHeld ?_;simp only[Nr,MJ,ML,MM];refine awX 56 (MF ME (x15.tmod 20)) hHeld ?_;simp only[Nr,MJ,ML,MM];refine NN (rs:=[2]) (by kernel_rfl) (by simp) ?_;refine NP (o:=_) rfl (fun K hK=>?_) NX;go_simp;refine(G.out.1 _).mono ?_;rintro r u ⟨rfl,p⟩;subst p
 go_wp2_with fail
 refine hK.out _ _ hHeld (fun hHeld=>?_);clear hK K
 try simp only[Nr,MJ,ML,MM]
 refine awX 3 (MF ME (1+(i:Int))) hHeld ?_;simp only[Nr,MJ,ML,MM];refine NN (rs:=[10]) (by kernel_rfl) (by simp) ?_;refine NP (o:=_) rfl (fun K hK=>?_) NX;go_simp;refine(G.out.2.1 _).mono ?_;rintro r u ⟨rfl,p⟩;subst p
 go_wp2_with fail
 refine hK.out _ _ hHeld (fun hHeld=>?_);clear hK K
 try simp only[Nr,MJ,ML,MM]
 refine awX 11 (MF ME (1+(a:Int)+(n:Int))) hHeld ?_;simp only[Nr,MJ,ML,MM];refine NN (rs:=[15]) (by kernel_rfl) (by simp) ?_;refine NP (o:=_) rfl (fun K hK=>?_) NX;go_simp;refine(G.out.2.2.2.1 _).mono ?_;rintro r u ⟨rfl,p⟩;subst p
 go_wp2_with fail
 refine hK.out _ _ hHeld (fun hHeld=>?_);clear hK K
 try simp only[Nr,MJ,ML,MM]
 refine NN (rs:=[18]) (by kernel_rfl) (by simp) ?_;refine NP (o:=_) rfl (fun K hK=>?_) NX;go_simp;refine(G.out.2.2.2.2.1 _).mono ?_;rintro r u ⟨rfl,p⟩;subst p
 go_wp2_with fail
 refine hK.out _ _ hHeld (fun hHeld=>?_);clear hK K
 try simp only[Nr,MJ,ML,MM]
 refine NN (rs:=[21]) (by kernel_rfl) (by simp) ?_;refine NP (o:=_) rfl (fun K hK=>?_) NX;go_simp;refine(G.out.2.2.2.2.2.1 _).mono ?_;rintro r u ⟨rfl,p⟩;subst p
 go_wp2_with fail
 refine hK.out _ _ hHeld (fun hHeld=>?_);clear hK K
 try simp only[Nr,MJ,ML,MM]
 refine awX 22 (MF ME (1+(m:Int))) hHeld ?_;simp only[Nr,MJ,ML,MM];refine NN (rs:=[25]) (by kernel_rfl) (by simp) ?_;refine NP (o:=_) rfl (fun K hK=>?_) NX;go_simp;refine(G.out.2.2.2.2.2.2.1 _).mono ?_;rintro r u ⟨rfl,p⟩;subst p
 go_wp2_with fail
 refine hK.out _ _ hHeld (fun hHeld=>?_);clear hK K
 try simp only[Nr,MJ,ML,MM]
 refine awX 26 (MF ME (1+(f:Int))) hHeld ?_;simp only[Nr,MJ,ML,MM];refine NN (rs:=[29]) (by kernel_rfl) (by simp) ?_;refine NP (o:=_) rfl (fun K hK=>?_) NX;go_simp;refine(G.out.2.2.2.2.2.2.2.1 _).mono ?_;rintro r u ⟨rfl,p⟩;subst p
 go_wp2_with fail
 refine hK.out _ _ hHeld (fun hHeld=>?_);clear hK K
 try simp only[Nr,MJ,ML,MM]
 refine awX 30 (MF ME (1+(j:Int))) hHeld ?_;simp only[Nr,MJ,ML,MM];refine NN (rs:=[33]) (by kernel_rfl) (by simp) ?_;refine NP (o:=_) rfl (fun K hK=>?_) NX;go_simp;refine(G.out.2.2.2.2.2.2.2.2.1 _).mono ?_;rintro r u ⟨rfl,p⟩;subst p
 go_wp2_with fail
 refine hK.out _ _ hHeld (fun hHeld=>?_);clear hK K
 try simp only[Nr,MJ,ML,MM]
 refine NN (rs:=[36]) (by kernel_rfl) (by simp) ?_;refine NP (o:=_) rfl (fun K hK=>?_) NX;go_simp;refine(G.out.2.2.2.2.2.2.2.2.2 _).mono ?_;rintro r u ⟨rfl,p⟩;subst p
 go_wp2_with fail
 refine hK.out _ _ hHeld (fun hHeld=>?_);clear hK K
 try simp only[Nr,MJ,ML,MM]
 refine NN (rs:=[46]) (by kernel_rfl) (by simp) ?_;refine NP (o:=_) rfl (fun K hK=>?_) NX;go_simp;refine(HB.out _).mono ?_;rintro r u2 ⟨rfl,c9⟩;have Y:=c4.trans (c9.mono c4.size);clear c9
 go_wp2_with fail
 refine hK.out _ _ (HS.out _ Y) (fun hHeld=>?_);clear hK K
 try simp only[Nr,MJ,ML,MM]
 refine NN (rs:=[57]) (by kernel_rfl) (by simp) ?_;refine NP (o:=_) rfl (fun K hK=>?_) NX;go_simp;refine(HW.out _).mono ?_;rintro r U ⟨rfl,d1⟩;have O:=Y.trans (d1.mono Y.size);clear d1
 go_wp2_with fail
 refine hK.out _ _ (HS.out _ O) (fun hHeld=>?_);clear hK K
 try simp only[Nr,MJ,ML,MM]
 refine awX 58 (Ny #[MF ME (1+(i:Int)),MF ME (1+(a:Int)+(n:Int)),MF ME (1+(a:Int)),MF ME ((x:Int)),MF ME ((y:Int)),MF ME (1+(m:Int)),MF ME (1+(f:Int)),MF ME (1+(j:Int)),MF ME ((s:Int)),MF ME ((C:Int)),MF ME ((E:Int)),MF ME ((D:Int)),MF ME ((A:Int)),MF ME ((B:Int)),MF ME ((wf:Int)),MF ME ((F:Int))]) hHeld ?_;simp only[Nr,MJ,ML,MM];simp only[MZ,MT,MS,ML,MM];have I:=WO H.out.2.2.1 O;have c3:=H.out.1.trans (O.mono H.out.1.size);have d0:=aeU (cs:=[MF ME Xv.flows,MF ME Xv.num,MF ME Xv.den,MF ME Xv.tries,MF ME Xv.warm,MF ME Xv.drain,MF ME Xv.idle,MF ME Xv.conn,MF ME Xv.ret,MF ME Xv.most,MF ME Xv.bn,MF ME Xv.bd,MF ME Xv.bb,MF ME Xv.wn,MF ME Xv.wf,MF ME Xv.wh]) I;have Z:=alv (cs:=[MF ME Xv.flows,MF ME Xv.num,MF ME Xv.den,MF ME Xv.tries,MF ME Xv.warm,MF ME Xv.drain,MF ME Xv.idle,MF ME Xv.conn,MF ME Xv.ret,MF ME Xv.most,MF ME Xv.bn,MF ME Xv.bd,MF ME Xv.bb,MF ME Xv.wn,MF ME Xv.wf,MF ME Xv.wh]) (vs:=[MF ME (1+(i:Int)),MF ME (1+(a:Int)+(n:Int)),MF ME (1+(a:Int)),MF ME ((x:Int)),MF ME ((y:Int)),MF ME (1+(m:Int)),MF ME (1+(f:Int)),MF ME (1+(j:Int)),MF ME ((s:Int)),MF ME ((C:Int)),MF ME ((E:Int)),MF ME ((D:Int)),MF ME ((A:Int)),MF ME ((B:Int)),MF ME ((wf:Int)),MF ME ((F:Int))]) I rfl;have V:=adp c3 H.out.2.2.2.2.2.2 0 [MF ME (1+(i:Int)),MF ME (1+(a:Int)+(n:Int)),MF ME (1+(a:Int)),MF ME ((x:Int)),MF ME ((y:Int)),MF ME (1+(m:Int)),MF ME (1+(f:Int)),MF ME (1+(j:Int)),MF ME ((s:Int)),MF ME ((C:Int)),MF ME ((E:Int)),MF ME ((D:Int)),MF ME ((A:Int)),MF ME ((B:Int)),MF ME ((wf:Int)),MF ME ((F:Int))] c3.size;obtain⟨d,R⟩:∃d,d=U.setCells g 0 [MF ME (1+(i:Int)),MF ME (1+(a:Int)+(n:Int)),MF ME (1+(a:Int)),MF ME ((x:Int)),MF ME ((y:Int)),MF ME (1+(m:Int)),MF ME (1+(f:Int)),MF ME (1+(j:Int)),MF ME ((s:Int)),MF ME ((C:Int)),MF ME ((E:Int)),MF ME ((D:Int)),MF ME ((A:Int)),MF ME ((B:Int)),MF ME ((wf:Int)),MF ME ((F:Int))]:=⟨_,rfl⟩;rw[<-R]at Z V;have HZ:M6 (_/\_):=⟨Z,V⟩;clear Z V I c3;have c6:d.cell? ⟨b,0,MH⟩=MI (MF ME x0)/\d.cell? ⟨b,1,MH⟩=MI (MF ME x1)/\d.cell? ⟨b,2,MH⟩=MI (MF ME x2)/\d.cell? ⟨b,3,MH⟩=MI (MF ME x3)/\d.cell? ⟨b,4,MH⟩=MI (MF ME x4)/\d.cell? ⟨b,5,MH⟩=MI (MF ME x5)/\d.cell? ⟨b,6,MH⟩=MI (MF ME x6)/\d.cell? ⟨b,7,MH⟩=MI (MF ME x7)/\d.cell? ⟨b,8,MH⟩=MI (MF ME x8)/\d.cell? ⟨b,9,MH⟩=MI (MF ME x9)/\d.cell? ⟨b,10,MH⟩=MI (MF ME x10)/\d.cell? ⟨b,11,MH⟩=MI (MF ME x11)/\d.cell? ⟨b,12,MH⟩=MI (MF ME x12)/\d.cell? ⟨b,13,MH⟩=MI (MF ME x13)/\d.cell? ⟨b,14,MH⟩=MI (MF ME x14)/\d.cell? ⟨b,15,MH⟩=MI (MF ME x15):=by
  rw[R];have e9:b≠g:=by rw[H.out.2.2.2.2.1,H.out.2.2.2.2.2.1];omega
  have e3:b<U.heap.size:=(ahY (WO H.out.2.1 O)).2.2.2.2.2.2.2.2.2.2.2.2.2.2.2.2;have q:∀k v,U.cell? ⟨b,k,MH⟩=MI v->(U.setCells g 0 [MF ME (1+(i:Int)),MF ME (1+(a:Int)+(n:Int)),MF ME (1+(a:Int)),MF ME ((x:Int)),MF ME ((y:Int)),MF ME (1+(m:Int)),MF ME (1+(f:Int)),MF ME (1+(j:Int)),MF ME ((s:Int)),MF ME ((C:Int)),MF ME ((E:Int)),MF ME ((D:Int)),MF ME ((A:Int)),MF ME ((B:Int)),MF ME ((wf:Int)),MF ME ((F:Int))]).cell? ⟨b,k,MH⟩=MI v:=fun k v h=>(NG (N8 _ _ _ _ e3 e9)).trans h
  obtain⟨s0,s1,s2,s3,s4,s5,s6,s7,s8,s9,e8,d8,e7,d7,e6,e0⟩:=hHeld;exact⟨q _ _ s0,q _ _ s1,q _ _ s2,q _ _ s3,q _ _ s4,q _ _ s5,q _ _ s6,q _ _ s7,q _ _ s8,q _ _ s9,q _ _ e8,q _ _ d8,q _ _ e7,q _ _ d7,q _ _ e6,q _ _ e0⟩
 refine NN (rs:=[59]) (by kernel_rfl) (by simp) ?_;refine NP (o:=_) rfl (fun K hK=>?_) NX;rw[Nh (by rfl)];refine wp_store_mid _ _ _ rfl _ _ #[MF ME (1+(i:Int)),MF ME (1+(a:Int)+(n:Int)),MF ME (1+(a:Int)),MF ME ((x:Int)),MF ME ((y:Int)),MF ME (1+(m:Int)),MF ME (1+(f:Int)),MF ME (1+(j:Int)),MF ME ((s:Int)),MF ME ((C:Int)),MF ME ((E:Int)),MF ME ((D:Int)),MF ME ((A:Int)),MF ME ((B:Int)),MF ME ((wf:Int)),MF ME ((F:Int))] rfl rfl d0 (by kernel_rfl) (arf [1+(i:Int),1+(a:Int)+(n:Int),1+(a:Int),(x:Int),(y:Int),1+(m:Int),1+(f:Int),1+(j:Int),(s:Int),(C:Int),(E:Int),(D:Int),(A:Int),(B:Int),(wf:Int),(F:Int)]) ?_;rw[show RW (#[MF ME (1+(i:Int)),MF ME (1+(a:Int)+(n:Int)),MF ME (1+(a:Int)),MF ME ((x:Int)),MF ME ((y:Int)),MF ME (1+(m:Int)),MF ME (1+(f:Int)),MF ME (1+(j:Int)),MF ME ((s:Int)),MF ME ((C:Int)),MF ME ((E:Int)),MF ME ((D:Int)),MF ME ((A:Int)),MF ME ((B:Int)),MF ME ((wf:Int)),MF ME ((F:Int))]:Array M7)=[MF ME (1+(i:Int)),MF ME (1+(a:Int)+(n:Int)),MF ME (1+(a:Int)),MF ME ((x:Int)),MF ME ((y:Int)),MF ME (1+(m:Int)),MF ME (1+(f:Int)),MF ME (1+(j:Int)),MF ME ((s:Int)),MF ME ((C:Int)),MF ME ((E:Int)),MF ME ((D:Int)),MF ME ((A:Int)),MF ME ((B:Int)),MF ME ((wf:Int)),MF ME ((F:Int))]from rfl,<-R];refine hK.out _ _ c6 (fun hHeld=>?_);clear hK K R c6 d0
 try simp only[Nr,MJ,ML,MM]
 refine PS (by kernel_rfl) ?_ _;go_wp2
 try simp only[Nr,MJ,ML,MM]
 exact Np (v:=Ny #[MF ME (1+(i:Int)),MF ME (1+(a:Int)+(n:Int)),MF ME (1+(a:Int)),MF ME ((x:Int)),MF ME ((y:Int)),MF ME (1+(m:Int)),MF ME (1+(f:Int)),MF ME (1+(j:Int)),MF ME ((s:Int)),MF ME ((C:Int)),MF ME ((E:Int)),MF ME ((D:Int)),MF ME ((A:Int)),MF ME ((B:Int)),MF ME ((wf:Int)),MF ME ((F:Int))]) (Z2 Tryz.results10 rfl (Xp (P:=MK) (cs:=[MF ME (1+(i:Int)),MF ME (1+(a:Int)+(n:Int)),MF ME (1+(a:Int)),MF ME ((x:Int)),MF ME ((y:Int)),MF ME (1+(m:Int)),MF ME (1+(f:Int)),MF ME (1+(j:Int)),MF ME ((s:Int)),MF ME ((C:Int)),MF ME ((E:Int)),MF ME ((D:Int)),MF ME ((A:Int)),MF ME ((B:Int)),MF ME ((wf:Int)),MF ME ((F:Int))]) HZ.out.1 axO rfl (by kernel_rfl))) rfl ⟨rfl,HZ.out.2⟩
end Go.Proofs.YtidlemcdnhbceaaGreatDoor.Q
