/-
  Contracts of the layers and of core, part 11. Conditions: as each theorem says.
-/
import Derived.Test.YtlnbhjdhcmgljaaGreatDoorQ1
import Derived.Test.YtlnbhjdhcmgljaaGreatDoorQ4
import Derived.Test.YtlnbhjdhcmgljaaGreatDoorQ6
import Derived.Test.YtlnbhjdhcmgljaaGreatDoorQ8
open Array renaming toList->RW
open Bool renaming and_eq_true->Po,false->Nb,true->Nw
open Decidable renaming decide->Nn
open Go renaming Calls->Ni,Program->O8,TypeId->NU,Value->M7,World->MO,all_oneCell_toArray->OE,bodyPost_ret->Np,cell_of_row->MW,heap_alloc_new->M1,heap_setCell_same->NI,maxLen->NE,wpAnyH_done->PS,wpAnyH_ready->NN,wpAnyH_take->ND,wp_region_held_drew->O2
open Go.Act renaming put->Nr
open Go.AllReadyH renaming cons->NP,nil->NX
open Go.Calls renaming mono->Nd
open Go.Ending renaming returned->MN
open Go.IntKind renaming i64->ME,wrap_i64->Ow
open Go.Lit renaming int->N6
open Go.Obj renaming cells->MP
open Go.Proofs.Tryz renaming func40->UX,func41->QN,func83->Vw,ntmps40->UP,ntmps41->QD,ntmps83->Vt,prog->MK,underlying30->QV,underlying34->O5,underlying54->U1
open Go.RowKit renaming Below->MQ,Hid->M6
open Go.RowKit.Below renaming refl->MY
open Go.Value renaming agg->Ny,bool->M3,int->MF,pointer->Na,slice->MG,tuple->Nv
open Go.World renaming cell?->Nl,cell?_of_block->NG,frozen?->Ng,heap_setCells_other->N8,setCell->Q4,setCells->Qd
open Int renaming eq_ofNat_of_zero_le->NL,natCast_emod->QY,tmod_eq_emod_of_nonneg->Oi,toNat_natCast->NR
open List renaming getElem_cons_succ->MT,getElem_cons_zero->MS,getElem_toArray->MZ,mem_cons->OO,not_mem_nil->OD,replicate->Nj,setIfInBounds_toArray->MJ,set_cons_succ->MM,set_cons_zero->ML
open Nat renaming le_refl->MV,lt_of_lt_of_le->M8,zero_add->Oa
open Option renaming none->MH,some->MI
open Or renaming inl->Nt,inr->NF
namespace Go.Proofs.YtlnbhjdhcmgljaaGreatDoor.Q
set_option linter.unusedVariables false
set_option linter.unusedSimpArgs false
set_option maxHeartbeats 16000000
set_option maxRecDepth 100000
open Go.RowKit
attribute [local go_sem ↓] Go.wp_at_zero Go.wp_at_succ
variable {cs:List M7}{w:MO}{T:NU}{g:Nat}
def eB(n:Int)(many:Nat):Nat:=(if n<0 then(-(n+1)).toNat else n.toNat) % many
theorem nP(n:Int)(many:Nat)(h:0<many):eB n many<many:=Nat.mod_lt _ h
theorem AI(n many:Int)(h:n<0)(h2:0<many):-(n+1).tmod many=((eB n many.toNat:Nat):Int):=by
 obtain⟨m,rfl⟩:=NL (Int.le_of_lt h2);obtain⟨k,hk⟩:=NL (a:=-(n+1)) (by omega);unfold eB;rw[Nh h,<-Int.neg_tmod,hk,NR,NR,QY];rfl
theorem DT(n many:Int)(h:0<=n)(h2:0<many):n % many=((eB n many.toNat:Nat):Int):=by
 obtain⟨m,rfl⟩:=NL (Int.le_of_lt h2);obtain⟨k,rfl⟩:=NL h;unfold eB;rw[Nf (by omega),NR,NR,QY]
theorem rp{k:IntKind}{a b:Int}(h:a=b):MN (MF k a)=MN (MF k b):=by rw[h]
theorem pc(n many:Int)(w:MO)(h0:-9223372036854775808<=n)(h1:n<=9223372036854775807)(h2:0<many)(h3:many<=9223372036854775807):Ni MK 37 #[MF ME n,MF ME many] w fun e w'=>e=MN (MF ME ((eB n many.toNat:Nat):Int))/\w'=w:=by
 by_cases h:n<0
 ·go_enter Tryz.func37,Tryz.ntmps37
  go_wp2;go_ret;exact⟨rp (AI n many h h2),rfl⟩
 ·have h':0<=n:=by omega
  clear h;go_enter Tryz.func37,Tryz.ntmps37;go_wp2;go_ret;exact⟨rp (DT n many h' h2),rfl⟩
theorem qI{x:Int}(h:(N6 ME x).wf=Nw):-9223372036854775808<=x/\x<=9223372036854775807:=by
 have e1:IntKind.i64.min = -9223372036854775808:=by decide
 have e2:IntKind.i64.max=9223372036854775807:=by decide
 simp only[Lit.wf,e1,e2,Po,decide_eq_true_eq]at h;exact h
theorem eW(n:Int)(many:Nat)(hw:(N6 ME n).wf=Nw)(h:0<many)(h2:many<=9000000000000):∃k:Nat,k<many/\∀W,Ni MK 37 #[MF ME n,MF ME (many:Int)] W fun r w'=>r=MN (MF ME (k:Int))/\w'=W:=by
 refine⟨eB n many,nP _ _ h,fun W=>?_⟩;have hb:=qI hw;have:=pc n many W hb.1 hb.2 (by omega) (by omega);rwa[NR]at this
abbrev i6(c:Cf):Prop :=
 (1<=c.flows/\c.flows<=40)/\(1<=c.den/\c.den<=c.num)/\c.num<=20/\(0<=c.tries/\c.tries<=12)/\(0<=c.warm/\c.warm<=500) /\
 (1<=c.drain/\c.drain<=500)/\(1<=c.idle/\c.idle<=500)/\(1<=c.conn/\c.conn<=500)/\(0<=c.ret/\c.ret<=20)/\(0<=c.most/\c.most<=100) /\
 dq c.bn c.bd c.bb/\dR c.wn c.wf c.wh
abbrev lA(c:Cf):Value:=Ny #[MF ME c.flows,MF ME c.num,MF ME c.den,MF ME c.tries,MF ME c.warm,MF ME c.drain,MF ME c.idle,MF ME c.conn,MF ME c.ret,MF ME c.most,MF ME c.bn,MF ME c.bd,MF ME c.bb,MF ME c.wn,MF ME c.wf,MF ME c.wh]
abbrev gM(c:Cf):Obj:=MP #[MF ME c.flows,MF ME c.num,MF ME c.den,MF ME c.tries,MF ME c.warm,MF ME c.drain,MF ME c.idle,MF ME c.conn,MF ME c.ret,MF ME c.most,MF ME c.bn,MF ME c.bd,MF ME c.bb,MF ME c.wn,MF ME c.wf,MF ME c.wh] 34
theorem jm{c:Cf}(h:w.heap[g]?=MI (gM c)):w.cell? ⟨g,0,MH⟩=MI (MF ME c.flows)/\w.cell? ⟨g,1,MH⟩=MI (MF ME c.num)/\w.cell? ⟨g,2,MH⟩=MI (MF ME c.den)/\w.cell? ⟨g,3,MH⟩=MI (MF ME c.tries)/\w.cell? ⟨g,4,MH⟩=MI (MF ME c.warm)/\w.cell? ⟨g,5,MH⟩=MI (MF ME c.drain)/\w.cell? ⟨g,6,MH⟩=MI (MF ME c.idle)/\w.cell? ⟨g,7,MH⟩=MI (MF ME c.conn)/\w.cell? ⟨g,8,MH⟩=MI (MF ME c.ret)/\w.cell? ⟨g,9,MH⟩=MI (MF ME c.most)/\w.cell? ⟨g,10,MH⟩=MI (MF ME c.bn)/\w.cell? ⟨g,11,MH⟩=MI (MF ME c.bd)/\w.cell? ⟨g,12,MH⟩=MI (MF ME c.bb)/\w.cell? ⟨g,13,MH⟩=MI (MF ME c.wn)/\w.cell? ⟨g,14,MH⟩=MI (MF ME c.wf)/\w.cell? ⟨g,15,MH⟩=MI (MF ME c.wh)/\g<w.heap.size :=
 ⟨by simp[Nl,h],by simp[Nl,h],by simp[Nl,h],by simp[Nl,h],by simp[Nl,h],by simp[Nl,h],by simp[Nl,h],by simp[Nl,h],by simp[Nl,h],by simp[Nl,h],by simp[Nl,h],by simp[Nl,h],by simp[Nl,h],by simp[Nl,h],by simp[Nl,h],by simp[Nl,h],(Array.getElem?_eq_some_iff.1 h).1⟩
theorem jP(n lo hi:Int)(w:MO):Ni MK 83 #[MF ME n,MF ME lo,MF ME hi] w fun r w'=>r=MN (M3 (Nn (lo<=n/\n<=hi)))/\w'=w:=by
 obtain⟨ans,hans⟩:∃ans,ans=Nn (lo<=n/\n<=hi):=⟨_,rfl⟩;rw[<-hans];have H:M6 _:=hans;clear hans;cases h1:Nn (lo<=n)
 ·go_enter Vw,Vt
  go_wp2;go_ret;exact⟨by rw[H.out,M0 (fun h=>Nc h1 h.1)];rfl,rfl⟩
 ·cases h2:Nn (n<=hi)
  ·go_enter Vw,Vt
   go_wp2;go_ret;exact⟨by rw[H.out,M0 (fun h=>Nc h2 h.2)];rfl,rfl⟩
  ·go_enter Vw,Vt
   go_wp2;go_ret;exact⟨by rw[H.out,Nq ⟨M2 h1,M2 h2⟩];rfl,rfl⟩
theorem oy(n:Int)(w:MO):Ni MK 84 #[MF ME n] w fun r w'=>r=MN (M3 (Nn (1<=n/\n<=500)))/\w'=w:=by
 have H:M6 _:=jP n 1 500 w;go_enter Tryz.func84,Tryz.ntmps84
 go_wp2_with fail
 refine Nd H.out ?_;rintro r w1 ⟨rfl,rfl⟩;go_wp2;go_ret;exact⟨by show MN (M3 (Nn (1<=n) && Nn (n<=500)))=_;rw[Bool.decide_and],rfl⟩
theorem Cj(c:Cf)(w:MO):Ni MK 63 #[lA c] w fun r w'=>r=MN (M3 (Nn (i6 c)))/\MQ w.heap.size w w':=by
 obtain⟨ans,hans⟩:∃ans,ans=Nn (i6 c):=⟨_,rfl⟩;rw[<-hans];have H:M6 _:=hans;clear hans;obtain⟨W0,hW0⟩:∃W0,W0=w.alloc (gM c):=⟨_,rfl⟩;have hb0:MQ w.heap.size w W0:=by rw[hW0];exact ai w
 have hR0:W0.heap[w.heap.size]?=MI (gM c):=by rw[hW0];exact M1 _ _
 obtain⟨k0,k1,k2,k3,k4,k5,k6,k7,k8,k9,k10,k11,k12,k13,k14,k15,klt⟩:=jm hR0;have HV:M6 (_/\_/\_):=⟨hb0,hR0,hW0⟩;clear hb0 hR0 hW0;go_enter Tryz.func63,Tryz.ntmps63
 go_wp2_with fail
 rw[<-HV.out.2.2];refine(jP c.flows 1 40 _).mono ?_;rintro r w1 ⟨rfl,rfl⟩
 by_cases t0:1<=c.flows/\c.flows<=40
 rotate_left
 ·rw[M0 t0]
  go_wp2;go_ret;exact⟨by rw[H.out,M0 (fun h=>t0 h.1)];rfl,HV.out.1⟩
 rw[Nq t0]
 go_wp2_with fail
 refine(jP c.den 1 c.num _).mono ?_;rintro r w1 ⟨rfl,rfl⟩
 by_cases t1:1<=c.den/\c.den<=c.num
 rotate_left
 ·rw[M0 t1]
  go_wp2;go_ret;exact⟨by rw[H.out,M0 (fun h=>t1 h.2.1)];rfl,HV.out.1⟩
 rw[Nq t1]
 by_cases t2:c.num<=20
 rotate_left
 ·have td2:Nn (c.num<=20)=false:=M0 t2
  have HT:M6 (¬(c.num<=20)):=t2;go_wp2;go_ret;exact⟨by rw[H.out,M0 (fun h=>by have:=h.2.2.1;omega)];rfl,HV.out.1⟩
 have td2:Nn (c.num<=20)=true:=Nq t2
 go_wp2_with fail
 refine(jP c.tries 0 12 _).mono ?_;rintro r w1 ⟨rfl,rfl⟩
 by_cases t3:0<=c.tries/\c.tries<=12
 rotate_left
 ·rw[M0 t3]
  go_wp2;go_ret;exact⟨by rw[H.out,M0 (fun h=>t3 h.2.2.2.1)];rfl,HV.out.1⟩
 rw[Nq t3]
 go_wp2_with fail
 refine(jP c.warm 0 500 _).mono ?_;rintro r w1 ⟨rfl,rfl⟩
 by_cases t4:0<=c.warm/\c.warm<=500
 rotate_left
 ·rw[M0 t4]
  go_wp2;go_ret;exact⟨by rw[H.out,M0 (fun h=>t4 h.2.2.2.2.1)];rfl,HV.out.1⟩
 rw[Nq t4]
 go_wp2_with fail
 refine(oy c.drain _).mono ?_;rintro r w1 ⟨rfl,rfl⟩
 by_cases t5:1<=c.drain/\c.drain<=500
 rotate_left
 ·rw[M0 t5]
  go_wp2;go_ret;exact⟨by rw[H.out,M0 (fun h=>t5 h.2.2.2.2.2.1)];rfl,HV.out.1⟩
 rw[Nq t5]
 go_wp2_with fail
 refine(oy c.idle _).mono ?_;rintro r w1 ⟨rfl,rfl⟩
 by_cases t6:1<=c.idle/\c.idle<=500
 rotate_left
 ·rw[M0 t6]
  go_wp2;go_ret;exact⟨by rw[H.out,M0 (fun h=>t6 h.2.2.2.2.2.2.1)];rfl,HV.out.1⟩
 rw[Nq t6]
 go_wp2_with fail
 refine(oy c.conn _).mono ?_;rintro r w1 ⟨rfl,rfl⟩
 by_cases t7:1<=c.conn/\c.conn<=500
 rotate_left
 ·rw[M0 t7]
  go_wp2;go_ret;exact⟨by rw[H.out,M0 (fun h=>t7 h.2.2.2.2.2.2.2.1)];rfl,HV.out.1⟩
 rw[Nq t7]
 go_wp2_with fail
 refine(jP c.ret 0 20 _).mono ?_;rintro r w1 ⟨rfl,rfl⟩
 by_cases t8:0<=c.ret/\c.ret<=20
 rotate_left
 ·rw[M0 t8]
  go_wp2;go_ret;exact⟨by rw[H.out,M0 (fun h=>t8 h.2.2.2.2.2.2.2.2.1)];rfl,HV.out.1⟩
 rw[Nq t8]
 go_wp2_with fail
 refine(jP c.most 0 100 _).mono ?_;rintro r w1 ⟨rfl,rfl⟩
 by_cases t9:0<=c.most/\c.most<=100
 rotate_left
 ·rw[M0 t9]
  go_wp2;go_ret;exact⟨by rw[H.out,M0 (fun h=>t9 h.2.2.2.2.2.2.2.2.2.1)];rfl,HV.out.1⟩
 rw[Nq t9]
 go_wp2_with fail
 refine(nr c.bn c.bd c.bb _).mono ?_;rintro r w2 ⟨rfl,hb2⟩;have hR2:=af HV.out.2.1 hb2;have HB2:M6 _:=HV.out.1.trans (hb2.mono HV.out.1.size);obtain⟨j0,j1,j2,j3,j4,j5,j6,j7,j8,j9,j10,j11,j12,j13,j14,j15,jlt⟩:=jm hR2;clear hb2 k0 k1 k2 k3 k4 k5 k6 k7 k8 k9 k10 k11 k12 k13 k14 k15 klt
 by_cases tb:dq c.bn c.bd c.bb
 rotate_left
 ·rw[show fF c.bn c.bd c.bb=2 from Nf tb]
  clear hR2;go_wp2;go_ret;exact⟨by rw[H.out,M0 (fun h=>tb h.2.2.2.2.2.2.2.2.2.2.1)];rfl,HB2.out⟩
 rw[show fF c.bn c.bd c.bb=0 from Nh tb];clear hR2
 go_wp2_with fail
 refine(oW c.wn c.wf c.wh _).mono ?_;rintro r w3 ⟨rfl,hb3⟩;have HB3:M6 _:=HB2.out.trans (hb3.mono HB2.out.size);clear hb3 j0 j1 j2 j3 j4 j5 j6 j7 j8 j9 j10 j11 j12 j13 j14 j15 jlt
 by_cases tw:dR c.wn c.wf c.wh
 rotate_left
 ·rw[show fW c.wn c.wf c.wh=2 from Nf tw]
  go_wp2;go_ret;exact⟨by rw[H.out,M0 (fun h=>tw h.2.2.2.2.2.2.2.2.2.2.2)];rfl,HB3.out⟩
 rw[show fW c.wn c.wf c.wh=0 from Nh tw];go_wp2;go_ret;exact⟨by rw[H.out,Nq ⟨t0,t1,t2,t3,t4,t5,t6,t7,t8,t9,tb,tw⟩];rfl,HB3.out⟩
def mY(c:Cf):Int:=if i6 c then 0 else 2
theorem DH(c:Cf)(w:MO):Ni MK 41 #[lA c] w fun r w'=>r=MN (MF ME (mY c))/\MQ w.heap.size w w':=by
 obtain⟨W0,hW0⟩:∃W0,W0=w.alloc (gM c):=⟨_,rfl⟩;have hb0:MQ w.heap.size w W0:=by rw[hW0];exact ai w
 have hR0:W0.heap[w.heap.size]?=MI (gM c):=by rw[hW0];exact M1 _ _
 obtain⟨k0,k1,k2,k3,k4,k5,k6,k7,k8,k9,k10,k11,k12,k13,k14,k15,klt⟩:=jm hR0;have HV:M6 (_/\_/\_):=⟨hb0,hR0,hW0⟩;clear hb0 hR0 hW0;have HR:M6 _:=Cj c W0
 by_cases hok:i6 c
 ·rw[show mY c=0 from Nh hok]
  rw[Nq hok]at HR;clear hok;go_enter QN,QD
  go_wp2_with fail
  rw[<-HV.out.2.2];refine Nd HR.out ?_;rintro r w1 ⟨rfl,hb1⟩;have H1:M6 _:=HV.out.1.trans (hb1.mono HV.out.1.size);clear hb1;go_wp2;go_ret;exact⟨rfl,H1.out⟩
 ·rw[show mY c=2 from Nf hok]
  rw[M0 hok]at HR;clear hok;go_enter QN,QD
  go_wp2_with fail
  rw[<-HV.out.2.2];refine Nd HR.out ?_;rintro r w1 ⟨rfl,hb1⟩;have H1:M6 _:=HV.out.1.trans (hb1.mono HV.out.1.size);clear hb1;go_wp2;go_ret;exact⟨rfl,H1.out⟩
section
variable {α:Type}{c:α->List M7}{k:Nat}{w w':MO}{v:M7}{l:List α}
theorem bj.Gf(h:bj c w v l)(hs:w.heap.size<=w'.heap.size)(hb:∀b,v.ownBlock=MI b->w'.heap[b]?=w.heap[b]?):bj c w' v l:=by
 obtain⟨a,cap,rfl,hc,hm,h1|⟨b,off,rfl,h2,h3⟩⟩:=h
 ·exact⟨a,cap,rfl,hc,hm,Nt h1⟩
 ·refine⟨_,cap,rfl,hc,hm,NF ⟨b,off,rfl,M8 h2 hs,fun i hi=>?_⟩⟩
  rw[<-h3 i hi];have:=hb b rfl;simp only[Nl,this]
variable {t e:NU}{z:M7}{bytes:Nat}
end
abbrev jY(c:Cf)(vt vh:M7)(tok:Int)(vw:M7):List Value:=[MF ME c.flows,MF ME c.num,MF ME c.den,MF ME c.tries,MF ME c.warm,MF ME c.drain,MF ME c.idle,MF ME c.conn,MF ME c.ret,MF ME c.most,MF ME c.bn,MF ME c.bd,MF ME c.bb,MF ME c.wn,MF ME c.wf,MF ME c.wh,MF ME 0,vt,MG MH 0 0,MG MH 0 0,MG MH 0 0,MG MH 0 0,vh,MF ME tok,MF ME 0,vw]
abbrev oI(c:Cf)(vt vh:M7)(tok:Int)(vw:M7):Value:=Ny #[MF ME c.flows,MF ME c.num,MF ME c.den,MF ME c.tries,MF ME c.warm,MF ME c.drain,MF ME c.idle,MF ME c.conn,MF ME c.ret,MF ME c.most,MF ME c.bn,MF ME c.bd,MF ME c.bb,MF ME c.wn,MF ME c.wf,MF ME c.wh,MF ME 0,vt,MG MH 0 0,MG MH 0 0,MG MH 0 0,MG MH 0 0,vh,MF ME tok,MF ME 0,vw]
abbrev aL:Cf:=⟨0,0,0,0,0,0,0,0,0,0,0,0,0,0,0,0⟩
abbrev lw(_:Unit):List Value:=[MG MH 0 0,M3 Nb,MF ME 0,MF ME 0]
abbrev kS(w:MO)(v:M7)(k:Nat):Prop:=bj lw w v (Nj k ())
theorem nm:(Tryz.prog.info? 54).map (·.size)=MI 26:=by kernel_rfl
theorem Bh{base:Nat}{v:M7}{l:List Sl}(h:w.ownsRow base 174 4 v l.length (aW l)):bS w v l :=
 show aR w v l.length (aW l)from bP h
theorem yb{base:Nat}{v:M7}{vs:List M7}{ls:List (List Tm)}(h:ar w base v vs ls):dh w v ls :=
 ⟨vs,(show aR w v ls.length vs from bP h.row),h.each.GV fun u l hu=>(show aR w u l.length (ag l)from bP hu)⟩
def EO(w:MO)(vt vh vw:M7)(l:List Sl)(k:Nat)(ls:List (List Tm)):Prop:=bS w vt l/\kS w vh k/\dh w vw ls
def mI(B:Nat)(w W:MO):Prop:=w.heap.size<=W.heap.size/\∀b,B<=b->b<w.heap.size->W.heap[b]?=w.heap[b]?
def mZ(c:Cf)(w:MO)(r:Ending)(w':MO):Prop :=
 if i6 c then ∃vt vh vw,r=MN (Nv #[oI c vt vh (c.bb*c.bd) vw,MF ME 0])/\(∀W,mI w.heap.size w' W->EO W vt vh vw (Nj c.flows.toNat (0,Nb,0,0)) 12 fp)/\MQ w.heap.size w w'
 else r=MN (Nv #[oI aL (MG MH 0 0) (MG MH 0 0) 0 (MG MH 0 0),MF ME 2])/\MQ w.heap.size w w'
theorem tj(g:Nat):∀(vs:List M7) (o:Nat) (w:MO),(w.setCells g o vs).tape=w.tape
 | [],_,_=>rfl
 |v::vs,o,w=>by rw[Qd,tj g vs];simp[Q4]
theorem pE(g:Nat):∀(vs:List M7) (o:Nat) (w:MO),(w.setCells g o vs).heap.size=w.heap.size
 | [],_,_=>rfl
 |v::vs,o,w=>by rw[Qd,pE g vs];simp
theorem tW{B:Nat}{w0:MO}(h:MQ B w0 w)(hg:B<=g)(o:Nat)(vs:List M7)(hB:B<=w.heap.size):MQ B w0 (w.setCells g o vs):=by
 refine h.trans ⟨World.os_setCells _ _ _ _,tj _ _ _ _,World.output_setCells _ _ _ _,by rw[pE];exact MV _,fun i hi=>N8 w g o vs (by omega) (by omega)⟩
theorem vR(h:w.heap[g]?=MI (MP cs.toArray T (0,0))):w.there g 0 cs.length:=fun j hj=>by
 rw[Oa,MW w g j _ T (0,0) h];exact⟨by simp[hj],by simp[Ng,h]⟩
theorem vd{vs:List M7}(h:w.heap[g]?=MI (MP cs.toArray T (0,0)))(hl:cs.length=vs.length):(w.setCells g 0 vs).heap[g]?=MI (MP vs.toArray T (0,0)):=by
 have:=ks T g vs [] cs w hl (by simpa using h)
 simpa using this
abbrev pe:List Value:=jY aL (MG MH 0 0) (MG MH 0 0) 0 (MG MH 0 0)
theorem FI(c:Cf)(vt vh:M7)(tok:Int)(vw:M7)(h1:vt.oneCell'=Nw)(h2:vh.oneCell'=Nw)(h3:vw.oneCell'=Nw):(jY c vt vh tok vw).toArray.all (·.oneCell')=true:=by
 apply OE;intro v hv;simp only[jY,OO,OD,or_false]at hv;rcases hv with rfl|rfl|rfl|rfl|rfl|rfl|rfl|rfl|rfl|rfl|rfl|rfl|rfl|rfl|rfl|rfl|rfl|rfl|rfl|rfl|rfl|rfl|rfl|rfl|rfl|rfl <;> first|rfl|exact h1|exact h2|exact h3
theorem J9(h:w.heap[g]?=MI (MP cs.toArray T (0,0))):w.rangeAt g 0 cs:=fun j v hv=>by
 rw[Oa,MW w g j _ T (0,0) h]
 simpa using hv
theorem qL{c:Cf}{gc g2 gt gb gw:Nat}{vt vw:M7}{tok:Int}{ws:List M7}(hc:w.heap[gc]?=MI (gM c))(h2:w.heap[g2]?=MI (MP ws.toArray 54 (0,0)))(hw:ws.length=26)(ht:w.heap[gt]?=MI (MP #[vt] 38 (0,0)))(hb:w.heap[gb]?=MI (MP #[MF ME tok] 49 (0,0)))(hww:w.heap[gw]?=MI (MP #[MF ME 0,vw] 52 (0,0))):
  w.cell? ⟨gc,0,MH⟩=MI (MF ME c.flows)/\w.cell? ⟨gc,1,MH⟩=MI (MF ME c.num)/\w.cell? ⟨gc,2,MH⟩=MI (MF ME c.den)/\w.cell? ⟨gc,3,MH⟩=MI (MF ME c.tries)/\w.cell? ⟨gc,4,MH⟩=MI (MF ME c.warm)/\w.cell? ⟨gc,5,MH⟩=MI (MF ME c.drain)/\w.cell? ⟨gc,6,MH⟩=MI (MF ME c.idle)/\w.cell? ⟨gc,7,MH⟩=MI (MF ME c.conn)/\w.cell? ⟨gc,8,MH⟩=MI (MF ME c.ret)/\w.cell? ⟨gc,9,MH⟩=MI (MF ME c.most)/\w.cell? ⟨gc,10,MH⟩=MI (MF ME c.bn)/\w.cell? ⟨gc,11,MH⟩=MI (MF ME c.bd)/\w.cell? ⟨gc,12,MH⟩=MI (MF ME c.bb)/\w.cell? ⟨gc,13,MH⟩=MI (MF ME c.wn)/\w.cell? ⟨gc,14,MH⟩=MI (MF ME c.wf)/\w.cell? ⟨gc,15,MH⟩=MI (MF ME c.wh)/\w.cell? ⟨gt,0,MH⟩=MI vt/\w.cell? ⟨gb,0,MH⟩=MI (MF ME tok)/\w.cell? ⟨gw,0,MH⟩=MI (MF ME 0)/\w.cell? ⟨gw,1,MH⟩=MI vw/\w.there g2 0 26 :=
 have q:=jm hc
 ⟨q.1,q.2.1,q.2.2.1,q.2.2.2.1,q.2.2.2.2.1,q.2.2.2.2.2.1,q.2.2.2.2.2.2.1,q.2.2.2.2.2.2.2.1,q.2.2.2.2.2.2.2.2.1,q.2.2.2.2.2.2.2.2.2.1,q.2.2.2.2.2.2.2.2.2.2.1,q.2.2.2.2.2.2.2.2.2.2.2.1,q.2.2.2.2.2.2.2.2.2.2.2.2.1,q.2.2.2.2.2.2.2.2.2.2.2.2.2.1,q.2.2.2.2.2.2.2.2.2.2.2.2.2.2.1,q.2.2.2.2.2.2.2.2.2.2.2.2.2.2.2.1,aM ht,aM hb,(au hww).1,(au hww).2.1,by have:=vR h2;rwa[hw]at this⟩
theorem AH:∀W,(Instr.makeSlice 47 (MF ME 12) (MF ME 12)).run MK W=.ok (MG (MI ⟨W.heap.size,0,MH⟩) 12 12) (W.alloc (MP (rv lw (Nj 12 ())).toArray 94)):=fun W=>by kernel_rfl
theorem xU(W:MO):kS (W.alloc (MP (rv lw (Nj 12 ())).toArray 94)) (MG (MI ⟨W.heap.size,0,MH⟩) 12 12) 12:=by
 refine⟨_,12,rfl,by simp,by unfold NE;omega,NF ⟨W.heap.size,0,rfl,by simp,fun i hi=>?_⟩⟩;rw[Oa,MW _ W.heap.size i _ _ (0,0) (M1 W _)];simp
theorem zp(c:Cf)(w:MO)(h:i6 c):Ni MK 23 #[lA c] w (mZ c w):=by
 obtain⟨W0,hW0⟩:∃W0,W0=(w.alloc (gM c)).alloc (MP pe.toArray 54):=⟨_,rfl⟩;have hb0:MQ w.heap.size w W0:=by rw[hW0];exact(ai w).trans ((ai _).mono (by simp))
 have hR0:W0.heap[w.heap.size]?=MI (gM c):=by rw[hW0];exact aN _ _ (M1 _ _)
 have hR1:W0.heap[w.heap.size+1]?=MI (MP pe.toArray 54 (0,0)):=by rw[hW0];exact bV _ _ _
 obtain⟨k0,k1,k2,k3,k4,k5,k6,k7,k8,k9,k10,k11,k12,k13,k14,k15,klt⟩:=jm hR0;have HC:=DH c W0;rw[show mY c=0 from Nh h]at HC;have HV:M6 (_/\_/\_/\_/\_):=⟨hb0,hR0,hR1,hW0,HC⟩;clear hb0 hR0 hR1 hW0 HC;have HN:M6 _:=h;clear h;obtain⟨z48,hz48⟩:∃z,z=(rv lw (Nj 12 ())).toArray:=⟨_,rfl⟩;have hmk:∀W,(Instr.makeSlice 47 (MF ME 12) (MF ME 12)).run MK W=.ok (MG (MI ⟨W.heap.size,0,MH⟩) 12 12) (W.alloc (MP z48 94)):=by rw[hz48];exact AH
 have HZ:M6 (_/\_):=⟨hz48,hmk⟩;clear hz48 hmk;go_enter Tryz.func23,Tryz.ntmps23
 go_wp2_with fail
 rw[show(#[MF ME 0,MF ME 0,MF ME 0,MF ME 0,MF ME 0,MF ME 0,MF ME 0,MF ME 0,MF ME 0,MF ME 0,MF ME 0,MF ME 0,MF ME 0,MF ME 0,MF ME 0,MF ME 0,MF ME 0,MG MH 0 0,MG MH 0 0,MG MH 0 0,MG MH 0 0,MG MH 0 0,MG MH 0 0,MF ME 0,MF ME 0,MG MH 0 0]:Array M7)=pe.toArray from rfl,<-HV.out.2.2.2.1];refine Nd HV.out.2.2.2.2 ?_;rintro r w1 ⟨rfl,hb1⟩;have hC1:=af HV.out.2.1 hb1;have hX1:=af HV.out.2.2.1 hb1;have hB1:=HV.out.1.trans (hb1.mono HV.out.1.size);obtain⟨j0,j1,j2,j3,j4,j5,j6,j7,j8,j9,j10,j11,j12,j13,j14,j15,jlt⟩:=jm hC1;have H1:M6 (_/\_/\_):=⟨hC1,hX1,hB1⟩;clear hC1 hX1 hB1 hb1 k0 k1 k2 k3 k4 k5 k6 k7 k8 k9 k10 k11 k12 k13 k14 k15 klt
 go_wp2_with fail
 refine(yx c.flows _).mono ?_;rw[show jO c.flows=(Nj c.flows.toNat (0,Nb,0,0),0)from Nh HN.out.1];rintro r w2 ⟨p2,c2,rfl,ho2,hb2⟩;obtain⟨l,hl⟩:∃l:List Sl,l=Nj c.flows.toNat (0,Nb,0,0):=⟨_,rfl⟩;simp only[<-hl]at ho2⊢;have HL:M6 _:=hl;clear hl j0 j1 j2 j3 j4 j5 j6 j7 j8 j9 j10 j11 j12 j13 j14 j15 jlt;obtain⟨W2,hW2⟩:∃W2,W2=w2.alloc (MP #[MG p2 l.length c2] 38):=⟨_,rfl⟩;have hbW2:MQ w2.heap.size w2 W2:=by rw[hW2];exact ai w2
 have hb12:=hb2.trans (hbW2.mono hb2.size);have hT2:W2.heap[w2.heap.size]?=MI (MP #[MG p2 l.length c2] 38 (0,0)):=by rw[hW2];exact M1 _ _
 have hS2:=cq ho2 hbW2;obtain⟨j0,j1,j2,j3,j4,j5,j6,j7,j8,j9,j10,j11,j12,j13,j14,j15,jlt⟩:=jm (af H1.out.1 hb2);have H2:M6 (_/\_/\_/\_/\_/\_):=⟨af H1.out.1 hb12,af H1.out.2.1 hb12,H1.out.2.2.trans (hb12.mono H1.out.2.2.size),hT2,hS2,hW2⟩;have hsz2:M6 (w1.heap.size<=w2.heap.size):=hb2.size;clear hbW2 hb12 hT2 hS2 hW2 ho2 hb2
 go_wp2_with fail
 rw[<-H2.out.2.2.2.2.2];refine(DI c.bn c.bd c.bb _).mono ?_;rw[show kX c.bn c.bd c.bb=(c.bb*c.bd,0)from Nh HN.out.2.2.2.2.2.2.2.2.2.2.1];rintro r w3 ⟨rfl,hb3⟩;clear j0 j1 j2 j3 j4 j5 j6 j7 j8 j9 j10 j11 j12 j13 j14 j15 jlt;obtain⟨tok,htok⟩:∃tok,tok=c.bb*c.bd:=⟨_,rfl⟩
 dsimp only
 rw[<-htok];have HK:M6 _:=htok;clear htok;obtain⟨W3,hW3⟩:∃W3,W3=w3.alloc (MP #[MF ME tok] 49):=⟨_,rfl⟩;have hbW3:MQ w3.heap.size w3 W3:=by rw[hW3];exact ai w3
 have hb23:=hb3.trans (hbW3.mono hb3.size);have hT3:W3.heap[w3.heap.size]?=MI (MP #[MF ME tok] 49 (0,0)):=by rw[hW3];exact M1 _ _
 have H3:M6 (_/\_/\_/\_/\_/\_/\_):=⟨af H2.out.1 hb23,af H2.out.2.1 hb23,H2.out.2.2.1.trans (hb23.mono H2.out.2.2.1.size),af H2.out.2.2.2.1 hb23,cq H2.out.2.2.2.2.1 hb23,hT3,hW3⟩;have hszW:M6 (w3.heap.size<W3.heap.size):=(Array.getElem?_eq_some_iff.1 hT3).1;have hsz3:M6 (w2.heap.size+1<=w3.heap.size):=by have:=hb3.size;have:=(Array.getElem?_eq_some_iff.1 H2.out.2.2.2.1).1;show _<=_;omega
 clear hbW3 hb23 hT3 hW3 hb3
 go_wp2_with fail
 rw[<-H3.out.2.2.2.2.2.2];refine(AK 0 _ ⟨by omega,by omega⟩).mono ?_;rintro r w4 ⟨vw,vs,rfl,hO4,hb4⟩;obtain⟨pw,cw,hvw⟩:=cR hO4.row;obtain⟨nw,hnw⟩:∃nw,nw=fp.length:=⟨_,rfl⟩;rw[<-hnw]at hvw;subst hvw;clear hnw;have hv1:(MG pw nw cw).oneCell'=true:=rfl;obtain⟨W5,hW5⟩:∃W5,W5=w4.alloc (MP #[MF ME 0,MG pw nw cw] 52):=⟨_,rfl⟩;have hbW5:MQ w4.heap.size w4 W5:=by rw[hW5];exact ai w4
 have hb45:=hb4.trans (hbW5.mono hb4.size);have hT5:W5.heap[w4.heap.size]?=MI (MP #[MF ME 0,MG pw nw cw] 52 (0,0)):=by rw[hW5];exact M1 _ _
 have H5:M6 (_/\_/\_/\_/\_/\_/\_/\_/\_):=⟨af H3.out.1 hb45,af H3.out.2.1 hb45,H3.out.2.2.1.trans (hb45.mono H3.out.2.2.1.size),af H3.out.2.2.2.1 hb45,cq H3.out.2.2.2.2.1 hb45,af H3.out.2.2.2.2.2.1 hb45,hT5,hO4.below hbW5,hW5⟩;have hsz4:M6 (w3.heap.size+1<=w4.heap.size):=by have:=hb4.size;have:=(Array.getElem?_eq_some_iff.1 H3.out.2.2.2.2.2.1).1;show _<=_;omega
 clear hbW5 hb45 hT5 hW5 hb4 hO4;have hg1:w.heap.size+1<w1.heap.size:=(Array.getElem?_eq_some_iff.1 H1.out.2.1).1;obtain⟨W6,hW6⟩:∃W6,W6=(W5.alloc (MP z48 94)).drew:=⟨_,rfl⟩;have hb56:MQ W5.heap.size W5 W6:=by rw[hW6];exact(ai W5).trans ⟨rfl,rfl,rfl,MV _,fun _ _=>rfl⟩
 have hH6:kS W6 (MG (MI ⟨W5.heap.size,0,MH⟩) 12 12) 12:=by rw[hW6,HZ.out.1];exact xU W5
 obtain⟨WL,hWL⟩:∃WL,WL=jY c (MG p2 l.length c2) (MG (MI ⟨W5.heap.size,0,MH⟩) 12 12) tok (MG pw nw cw):=⟨_,rfl⟩;obtain⟨W7,hW7⟩:∃W7,W7=W6.setCells (w.heap.size+1) 0 WL:=⟨_,rfl⟩;have hoth:∀g,g≠w.heap.size+1->g<W6.heap.size->W7.heap[g]?=W6.heap[g]?:=fun g h1 h2=>by rw[hW7];exact N8 W6 _ _ _ h2 h1
 have hC6:=af H5.out.1 hb56;have hX6:=af H5.out.2.1 hb56;have hT6:=af H5.out.2.2.2.1 hb56;have hK6:=af H5.out.2.2.2.2.2.1 hb56;have hV6:=af H5.out.2.2.2.2.2.2.1 hb56;have ne1:w2.heap.size≠w.heap.size+1:=by have:=H2.out.2.2.1.size;have:=hsz2.out;omega
 have ne2:w3.heap.size≠w.heap.size+1:=by have:=hsz2.out;have:=hsz3.out;omega
 have ne3:w4.heap.size≠w.heap.size+1:=by have:=hsz2.out;have:=hsz3.out;have:=hsz4.out;omega
 have hC7:=(hoth _ (by omega) (Array.getElem?_eq_some_iff.1 hC6).1).trans hC6;have hT7:=(hoth _ ne1 (Array.getElem?_eq_some_iff.1 hT6).1).trans hT6;have hK7:=(hoth _ ne2 (Array.getElem?_eq_some_iff.1 hK6).1).trans hK6;have hV7:=(hoth _ ne3 (Array.getElem?_eq_some_iff.1 hV6).1).trans hV6;have hst:W7.heap[w.heap.size+1]?=MI (MP WL.toArray 54 (0,0)):=by rw[hW7];exact vd (vs:=WL) hX6 (by rw[hWL];rfl)
 have hB6:=H5.out.2.2.1.trans (hb56.mono H5.out.2.2.1.size);have hB7:MQ w.heap.size w W7:=by rw[hW7];exact tW hB6 (by omega) _ _ hB6.size
 have hs67:W6.heap.size<=W7.heap.size:=by rw[hW7,pE];exact MV _
 have hww1:w.heap.size<=w1.heap.size:=H1.out.2.2.size;have oT:=aw (cq H5.out.2.2.2.2.1 hb56) fun g hg=>hoth g (by have:=((cq H5.out.2.2.2.2.1 hb56).lt g hg).1;omega) ((cq H5.out.2.2.2.2.1 hb56).lt g hg).2
 have hTab:∀Y,mI w.heap.size W7 Y->bS Y (MG p2 l.length c2) l:=fun Y hY=>Bh (aw oT fun g hg=>hY.2 g (by have:=(oT.lt g hg).1;omega) (oT.lt g hg).2)
 have oL:=(H5.out.2.2.2.2.2.2.2.1.below hb56).Gf fun g h1 h2=>hoth g (by have:=hsz2.out;have:=hsz3.out;have:=hszW.out;omega) h2
 have hLs:∀Y,mI w.heap.size W7 Y->dh Y (MG pw nw cw) fp:=fun Y hY=>yb (oL.Gf fun g h1 h2=>hY.2 g (by have:=hsz2.out;have:=hsz3.out;have:=hszW.out;omega) h2)
 have hHs7:kS W7 (MG (MI ⟨W5.heap.size,0,MH⟩) 12 12) 12:=bj.Gf hH6 hs67 fun b hb=>by
  have e:b=W5.heap.size:=by cases hb;rfl
  subst e;exact hoth _ (by have:=(Array.getElem?_eq_some_iff.1 H5.out.2.1).1;omega) (by have:=hb56.size;rw[hW6];simp)
 have hHs:∀Y,mI w.heap.size W7 Y->kS Y (MG (MI ⟨W5.heap.size,0,MH⟩) 12 12) 12:=fun Y hY=>bj.Gf hHs7 hY.1 fun b hb=>by
  have e:b=W5.heap.size:=by cases hb;rfl
  subst e;exact hY.2 _ (by have:=(Array.getElem?_eq_some_iff.1 H5.out.2.1).1;omega) (M8 (by have:=hb56.size;rw[hW6];simp) hs67)
 have F1:=qL H5.out.1 H5.out.2.1 rfl H5.out.2.2.2.1 H5.out.2.2.2.2.2.1 H5.out.2.2.2.2.2.2.1;have F2:=qL hC6 hX6 rfl hT6 hK6 hV6;have F3:=qL hC7 hst (by rw[hWL];rfl) hT7 hK7 hV7;have hone:=FI c (MG p2 l.length c2) (MG (MI ⟨W5.heap.size,0,MH⟩) 12 12) tok (MG pw nw cw) rfl rfl hv1;rw[hW7,hWL,hW6]at F3;rw[hW6]at F2;have G1:M6 _:=F1;have G2:M6 _:=F2;have G3:M6 _:=F3;have hth6:M6 ((W5.alloc (MP z48 94)).drew.there (w.heap.size+1) 0 26):=F2.2.2.2.2.2.2.2.2.2.2.2.2.2.2.2.2.2.2.2.2;have hth5:M6 (W5.drew.there (w.heap.size+1) 0 26):=F1.2.2.2.2.2.2.2.2.2.2.2.2.2.2.2.2.2.2.2.2;have hsto:(Instr.storeAt 54 (Na (MI ⟨w.heap.size+1,0,MH⟩)) (Ny #[MF ME c.flows,MF ME c.num,MF ME c.den,MF ME c.tries,MF ME c.warm,MF ME c.drain,MF ME c.idle,MF ME c.conn,MF ME c.ret,MF ME c.most,MF ME c.bn,MF ME c.bd,MF ME c.bb,MF ME c.wn,MF ME c.wf,MF ME c.wh,MF ME 0,MG p2 l.length c2,MG MH 0 0,MG MH 0 0,MG MH 0 0,MG MH 0 0,MG (MI ⟨W5.heap.size,0,MH⟩) 12 12,MF ME tok,MF ME 0,MG pw nw cw])).run MK ((W5.alloc (MP z48 94)).drew)=.ok () W7:=by
  have h1:=run_storeAt_mid (P:=MK) ((W5.alloc (MP z48 94)).drew) (w.heap.size+1) 0 54 #[MF ME c.flows,MF ME c.num,MF ME c.den,MF ME c.tries,MF ME c.warm,MF ME c.drain,MF ME c.idle,MF ME c.conn,MF ME c.ret,MF ME c.most,MF ME c.bn,MF ME c.bd,MF ME c.bb,MF ME c.wn,MF ME c.wf,MF ME c.wh,MF ME 0,MG p2 l.length c2,MG MH 0 0,MG MH 0 0,MG MH 0 0,MG MH 0 0,MG (MI ⟨W5.heap.size,0,MH⟩) 12 12,MF ME tok,MF ME 0,MG pw nw cw] hth6.out nm hone;rw[hW7,hWL,hW6];exact h1
 have F3':W7.cell? ⟨w.heap.size,0,MH⟩=MI (MF ME c.flows)/\W7.cell? ⟨w.heap.size,1,MH⟩=MI (MF ME c.num)/\W7.cell? ⟨w.heap.size,2,MH⟩=MI (MF ME c.den)/\W7.cell? ⟨w.heap.size,3,MH⟩=MI (MF ME c.tries)/\W7.cell? ⟨w.heap.size,4,MH⟩=MI (MF ME c.warm)/\W7.cell? ⟨w.heap.size,5,MH⟩=MI (MF ME c.drain)/\W7.cell? ⟨w.heap.size,6,MH⟩=MI (MF ME c.idle)/\W7.cell? ⟨w.heap.size,7,MH⟩=MI (MF ME c.conn)/\W7.cell? ⟨w.heap.size,8,MH⟩=MI (MF ME c.ret)/\W7.cell? ⟨w.heap.size,9,MH⟩=MI (MF ME c.most)/\W7.cell? ⟨w.heap.size,10,MH⟩=MI (MF ME c.bn)/\W7.cell? ⟨w.heap.size,11,MH⟩=MI (MF ME c.bd)/\W7.cell? ⟨w.heap.size,12,MH⟩=MI (MF ME c.bb)/\W7.cell? ⟨w.heap.size,13,MH⟩=MI (MF ME c.wn)/\W7.cell? ⟨w.heap.size,14,MH⟩=MI (MF ME c.wf)/\W7.cell? ⟨w.heap.size,15,MH⟩=MI (MF ME c.wh)/\W7.cell? ⟨w2.heap.size,0,MH⟩=MI (MG p2 l.length c2)/\W7.cell? ⟨w3.heap.size,0,MH⟩=MI (MF ME tok)/\W7.cell? ⟨w4.heap.size,0,MH⟩=MI (MF ME 0)/\W7.cell? ⟨w4.heap.size,1,MH⟩=MI (MG pw nw cw)/\W7.there (w.heap.size+1) 0 26:=by rw[hW7,hWL,hW6];exact F3
 have G4:M6 _:=F3';clear F3';have H9:M6 (_/\_/\_/\_/\_/\_/\_/\_/\_):=⟨hst,hB7,hTab,hLs,hHs,hone,hWL,hW7,hW6⟩;have hmk:=HZ.out.2;have hu27:=O5;have hi27:(Tryz.prog.info? 34).map (·.size)=MI 16:=by kernel_rfl
 have hi49:=nm;clear F1 F2 F3 hst hB7 hTab hLs hHs hHs7 oT oL hww1 hone hWL hW7 hW6 hoth hC6 hX6 hT6 hK6 hV6 hC7 hT7 hK7 hV7 hB6 hs67 hH6 hb56 ne1 ne2 ne3;go_wp2;rw[<-H5.out.2.2.2.2.2.2.2.2];refine O2 (S:=fun W=>W.cell? ⟨w.heap.size,0,MH⟩=MI (MF ME c.flows)/\W.cell? ⟨w.heap.size,1,MH⟩=MI (MF ME c.num)/\W.cell? ⟨w.heap.size,2,MH⟩=MI (MF ME c.den)/\W.cell? ⟨w.heap.size,3,MH⟩=MI (MF ME c.tries)/\W.cell? ⟨w.heap.size,4,MH⟩=MI (MF ME c.warm)/\W.cell? ⟨w.heap.size,5,MH⟩=MI (MF ME c.drain)/\W.cell? ⟨w.heap.size,6,MH⟩=MI (MF ME c.idle)/\W.cell? ⟨w.heap.size,7,MH⟩=MI (MF ME c.conn)/\W.cell? ⟨w.heap.size,8,MH⟩=MI (MF ME c.ret)/\W.cell? ⟨w.heap.size,9,MH⟩=MI (MF ME c.most)/\W.cell? ⟨w.heap.size,10,MH⟩=MI (MF ME c.bn)/\W.cell? ⟨w.heap.size,11,MH⟩=MI (MF ME c.bd)/\W.cell? ⟨w.heap.size,12,MH⟩=MI (MF ME c.bb)/\W.cell? ⟨w.heap.size,13,MH⟩=MI (MF ME c.wn)/\W.cell? ⟨w.heap.size,14,MH⟩=MI (MF ME c.wf)/\W.cell? ⟨w.heap.size,15,MH⟩=MI (MF ME c.wh)/\W.cell? ⟨w2.heap.size,0,MH⟩=MI (MG p2 l.length c2)/\W.cell? ⟨w3.heap.size,0,MH⟩=MI (MF ME tok)/\W.cell? ⟨w4.heap.size,0,MH⟩=MI (MF ME 0)/\W.cell? ⟨w4.heap.size,1,MH⟩=MI (MG pw nw cw)/\W.there (w.heap.size+1) 0 26) (by kernel_rfl) G1.out (fun hHeld=>?_);refine ND (i:=0) (oi:=_) (v:=lA c) rfl (by kernel_rfl) (by kernel_rfl) (by kernel_rfl) (fun _ _ _ h=>h) (Nt ⟨by rfl,fun W hSw=>by obtain⟨s0,s1,s2,s3,s4,s5,s6,s7,s8,s9,s10,s11,s12,s13,s14,s15,s16,s17,s18,s19,s20⟩:=hSw;go_simp⟩) hHeld ?_;simp only[Nr,MJ,ML,MM];refine ND (i:=1) (oi:=_) (v:=Ny #[MG p2 l.length c2]) rfl (by kernel_rfl) (by kernel_rfl) (by kernel_rfl) (fun _ _ _ h=>h) (Nt ⟨by rfl,fun W hSw=>by obtain⟨s0,s1,s2,s3,s4,s5,s6,s7,s8,s9,s10,s11,s12,s13,s14,s15,s16,s17,s18,s19,s20⟩:=hSw;go_simp⟩) hHeld ?_;simp only[Nr,MJ,ML,MM];refine ND (i:=3) (oi:=_) (v:=Ny #[MF ME tok]) rfl (by kernel_rfl) (by kernel_rfl) (by kernel_rfl) (fun _ _ _ h=>h) (Nt ⟨by rfl,fun W hSw=>by obtain⟨s0,s1,s2,s3,s4,s5,s6,s7,s8,s9,s10,s11,s12,s13,s14,s15,s16,s17,s18,s19,s20⟩:=hSw;go_simp⟩) hHeld ?_;simp only[Nr,MJ,ML,MM];refine ND (i:=4) (oi:=_) (v:=Ny #[MF ME 0,MG pw nw cw]) rfl (by kernel_rfl) (by kernel_rfl) (by kernel_rfl) (fun _ _ _ h=>h) (Nt ⟨by rfl,fun W hSw=>by obtain⟨s0,s1,s2,s3,s4,s5,s6,s7,s8,s9,s10,s11,s12,s13,s14,s15,s16,s17,s18,s19,s20⟩:=hSw;go_simp⟩) hHeld ?_;simp only[Nr,MJ,ML,MM];refine NN (rs:=[2]) (by kernel_rfl) (by simp) ?_;refine NP (o:=_) rfl (fun K hK=>?_) NX;go_simp;refine hK.out _ _ G2.out (fun hHeld=>?_);clear hK K
 try simp only[Nr,MJ,ML,MM]
 refine NN (rs:=[5]) (by kernel_rfl) (by simp) ?_;refine NP (o:=_) rfl (fun K hK=>?_) NX;go_simp;refine hK.out _ _ G2.out (fun hHeld=>?_);clear hK K
 try simp only[Nr,MJ,ML,MM]
 refine NN (rs:=[6]) (by kernel_rfl) (by simp) ?_;refine NP (o:=_) rfl (fun K hK=>?_) NX;rw[Nh (by rfl)];refine wp_store_mid _ _ _ rfl _ _ #[MF ME c.flows,MF ME c.num,MF ME c.den,MF ME c.tries,MF ME c.warm,MF ME c.drain,MF ME c.idle,MF ME c.conn,MF ME c.ret,MF ME c.most,MF ME c.bn,MF ME c.bd,MF ME c.bb,MF ME c.wn,MF ME c.wf,MF ME c.wh,MF ME 0,MG p2 l.length c2,MG MH 0 0,MG MH 0 0,MG MH 0 0,MG MH 0 0,MG (MI ⟨W5.heap.size,0,MH⟩) 12 12,MF ME tok,MF ME 0,MG pw nw cw] rfl rfl hth6.out nm H9.out.2.2.2.2.2.1 ?_;rw[show RW (#[MF ME c.flows,MF ME c.num,MF ME c.den,MF ME c.tries,MF ME c.warm,MF ME c.drain,MF ME c.idle,MF ME c.conn,MF ME c.ret,MF ME c.most,MF ME c.bn,MF ME c.bd,MF ME c.bb,MF ME c.wn,MF ME c.wf,MF ME c.wh,MF ME 0,MG p2 l.length c2,MG MH 0 0,MG MH 0 0,MG MH 0 0,MG MH 0 0,MG (MI ⟨W5.heap.size,0,MH⟩) 12 12,MF ME tok,MF ME 0,MG pw nw cw]:Array M7)=jY c (MG p2 l.length c2) (MG (MI ⟨W5.heap.size,0,MH⟩) 12 12) tok (MG pw nw cw)from rfl,<-H9.out.2.2.2.2.2.2.1,<-H9.out.2.2.2.2.2.2.2.2,<-H9.out.2.2.2.2.2.2.2.1];refine hK.out _ _ G4.out (fun hHeld=>?_);clear hK K
 try simp only[Nr,MJ,ML,MM]
 refine NN (rs:=[7]) (by kernel_rfl) (by simp) ?_;refine NP (o:=_) rfl (fun K hK=>?_) NX;go_simp;refine hK.out _ _ G4.out (fun hHeld=>?_);clear hK K
 try simp only[Nr,MJ,ML,MM]
 refine PS (by kernel_rfl) ?_ _;go_wp2;refine Np (v:=Nv #[oI c (MG p2 l.length c2) (MG (MI ⟨W5.heap.size,0,MH⟩) 12 12) tok (MG pw nw cw),MF ME 0]) (bp Tryz.results23 rfl rfl (aI (cs:=jY c (MG p2 l.length c2) (MG (MI ⟨W5.heap.size,0,MH⟩) 12 12) tok (MG pw nw cw)) (by have:=H9.out.1;rw[H9.out.2.2.2.2.2.2.1]at this;exact this) U1 rfl nm)) rfl ?_;show mZ c w _ _;unfold mZ;rw[Nh HN.out];refine⟨_,_,_,by rw[<-HK.out],?_,H9.out.2.1⟩;rw[<-HL.out];exact fun Y hY=>⟨H9.out.2.2.1 Y hY,H9.out.2.2.2.2.1 Y hY,H9.out.2.2.2.1 Y hY⟩
abbrev Ci(n d b:Int):Value:=Ny #[MF ME n,MF ME d,MF ME b]
theorem vu{W:MO}{a b c:M7}(h:W.heap[g]?=MI (MP #[a,b,c] T (0,0))):W.cell? ⟨g,0,MH⟩=MI a/\W.cell? ⟨g,1,MH⟩=MI b/\W.cell? ⟨g,2,MH⟩=MI c/\g<W.heap.size :=
 ⟨by simp[Nl,h],by simp[Nl,h],by simp[Nl,h],(Array.getElem?_eq_some_iff.1 h).1⟩
theorem uD{a b c a' b' c':M7}(h:w.heap[g]?=MI (MP #[a,b,c] T (0,0))):(((w.setCell ⟨g,0,MH⟩ a').setCell ⟨g,1,MH⟩ b').setCell ⟨g,2,MH⟩ c').heap[g]?=MI (MP #[a',b',c'] T (0,0)):=by
 have h1:=NI w g 0 _ T a' h;have h2:=NI _ g 1 _ T b' h1;exact NI _ g 2 _ T c' h2
theorem Ca(x y z:Int)(hx:(N6 ME x).wf=Nw)(hy:(N6 ME y).wf=Nw)(hz:(N6 ME z).wf=Nw) :
  ∃n d b:Nat,(n<=20/\(1<=d/\d<=20)/\b<=20)/\∀w,Ni MK 39 #[MF ME x,MF ME y,MF ME z] w fun r w'=>r=MN (Ci n d b)/\MQ w.heap.size w w':=by
 obtain⟨n,hn,p0⟩:=eW x 21 hx (by omega) (by omega);obtain⟨d,hd,p1⟩:=eW y 20 hy (by omega) (by omega);obtain⟨b,hb,p2⟩:=eW z 21 hz (by omega) (by omega);refine⟨n,1+d,b,⟨by omega,⟨by omega,by omega⟩,by omega⟩,fun w=>?_⟩;have P:M6 (_/\_/\_):=⟨p0,p1,p2⟩;clear p0 p1 p2 hx hy hz;obtain⟨W0,hW0⟩:∃W0,W0=w.alloc (MP #[MF ME 0,MF ME 0,MF ME 0] 30):=⟨_,rfl⟩;have hB0:W0.heap[w.heap.size]?=MI (MP #[MF ME 0,MF ME 0,MF ME 0] 30 (0,0)):=by rw[hW0];exact M1 _ _
 have hb0:MQ w.heap.size w W0:=by rw[hW0];exact ai _
 obtain⟨c0,c1,c2,hlt⟩:=vu hB0;have s0:W0.frozen? ⟨w.heap.size,0,MH⟩=false:=by simp[Ng,hB0]
 have s1:W0.frozen? ⟨w.heap.size,1,MH⟩=false:=by simp[Ng,hB0]
 have s2:W0.frozen? ⟨w.heap.size,2,MH⟩=false:=by simp[Ng,hB0]
 have H:M6 (_/\_/\_):=⟨hW0,hB0,hb0⟩;clear hW0 hB0 hb0;go_enter Tryz.func39,Tryz.ntmps39
 go_wp2_with fail
 rw[<-H.out.1];refine(P.out.1 _).mono ?_;rintro e w' ⟨rfl,rfl⟩
 go_wp2_with fail
 refine(P.out.2.1 _).mono ?_;rintro e w' ⟨rfl,rfl⟩
 go_wp2_with fail
 refine(P.out.2.2 _).mono ?_;rintro e w' ⟨rfl,rfl⟩;go_wp2;exact Np (v:=Ny #[MF ME n,MF ME (1+d),MF ME b]) (ey Tryz.results39 rfl (aI (P:=MK) (cs:=[MF ME n,MF ME (1+d),MF ME b]) (uD H.out.2.1) QV rfl (by kernel_rfl))) rfl ⟨by simp,((H.out.2.2.setCell (MV _) _).setCell (MV _) _).setCell (MV _) _⟩
theorem ED(x y z:Int)(hx:(N6 ME x).wf=Nw)(hy:(N6 ME y).wf=Nw)(hz:(N6 ME z).wf=Nw) :
  ∃n f d:Nat,(1<=n/\n<=16)/\(1<=f/\f<=n)/\(1<=d/\d<=500)/\n=1+eB x 16/\∀w,Ni MK 40 #[MF ME x,MF ME y,MF ME z] w fun r w'=>r=MN (iR n f d)/\MQ w.heap.size w w':=by
 have p0:∀W,Ni MK 37 #[MF ME x,MF ME 16] W fun r w'=>r=MN (MF ME (eB x 16:Nat))/\w'=W:=fun W=>by
  have hb:=qI hx;have:=pc x 16 W hb.1 hb.2 (by omega) (by omega);exact this
 have hn:=nP x 16 (by omega);generalize eB x 16=n at *;obtain⟨f,hf,p1⟩:=eW y (1+n) hy (by omega) (by omega);obtain⟨d,hd,p2⟩:=eW z 500 hz (by omega) (by omega);refine⟨1+n,1+f,1+d,⟨by omega,by omega⟩,⟨by omega,by omega⟩,⟨by omega,by omega⟩,rfl,fun w=>?_⟩;rw[Int.natCast_add]at p1;have P:M6 (_/\_/\_):=⟨p0,p1,p2⟩;clear p0 p1 p2 hx hy hz;obtain⟨W0,hW0⟩:∃W0,W0=w.alloc (MP #[MF ME 0,MF ME 0,MF ME 0] 32):=⟨_,rfl⟩;have hB0:W0.heap[w.heap.size]?=MI (MP #[MF ME 0,MF ME 0,MF ME 0] 32 (0,0)):=by rw[hW0];exact M1 _ _
 have hb0:MQ w.heap.size w W0:=by rw[hW0];exact ai _
 obtain⟨c0,c1,c2,hlt⟩:=vu hB0;have s0:W0.frozen? ⟨w.heap.size,0,MH⟩=false:=by simp[Ng,hB0]
 have s1:W0.frozen? ⟨w.heap.size,1,MH⟩=false:=by simp[Ng,hB0]
 have s2:W0.frozen? ⟨w.heap.size,2,MH⟩=false:=by simp[Ng,hB0]
 have H:M6 (_/\_/\_):=⟨hW0,hB0,hb0⟩;clear hW0 hB0 hb0;go_enter UX,UP
 go_wp2_with fail
 rw[<-H.out.1];refine(P.out.1 _).mono ?_;rintro e w' ⟨rfl,rfl⟩
 go_wp2_with fail
 refine(P.out.2.1 _).mono ?_;rintro e w' ⟨rfl,rfl⟩
 go_wp2_with fail
 refine(P.out.2.2 _).mono ?_;rintro e w' ⟨rfl,rfl⟩;go_wp2;exact Np (v:=Ny #[MF ME (1+n),MF ME (1+f),MF ME (1+d)]) (ey Tryz.results40 rfl (aI (P:=MK) (cs:=[MF ME (1+n),MF ME (1+f),MF ME (1+d)]) (uD H.out.2.1) Tryz.underlying32 rfl (by kernel_rfl))) rfl ⟨by simp,((H.out.2.2.setCell (MV _) _).setCell (MV _) _).setCell (MV _) _⟩
theorem Lg(n many:Int)(w:MO)(h0:-9223372036854775808<=n)(h1:n<=9223372036854775807)(h2:0<many)(h3:many<=9223372036854775807):Ni MK 18 #[MF ME n,MF ME many] w fun e w'=>e=MN (MF ME ((eB n many.toNat:Nat):Int))/\w'=w:=by
 have H:M6 _:=pc n many w h0 h1 h2 h3;go_enter Tryz.func18,Tryz.ntmps18
 go_wp2_with fail
 refine Nd H.out ?_;rintro r w1 ⟨rfl,rfl⟩;go_wp2;go_ret;exact⟨rfl,rfl⟩
abbrev BD(x0 x1 x2 x3 x4 x5 x6 x7 x8 x9 x10 x11 x12 x13 x14 x15:Int):Value:=Ny #[MF ME x0,MF ME x1,MF ME x2,MF ME x3,MF ME x4,MF ME x5,MF ME x6,MF ME x7,MF ME x8,MF ME x9,MF ME x10,MF ME x11,MF ME x12,MF ME x13,MF ME x14,MF ME x15]
abbrev qp(x0 x1 x2 x3 x4 x5 x6 x7 x8 x9 x10 x11 x12 x13 x14 x15:Int):Obj:=MP #[MF ME x0,MF ME x1,MF ME x2,MF ME x3,MF ME x4,MF ME x5,MF ME x6,MF ME x7,MF ME x8,MF ME x9,MF ME x10,MF ME x11,MF ME x12,MF ME x13,MF ME x14,MF ME x15] 24
theorem nX{b:Nat}{x0 x1 x2 x3 x4 x5 x6 x7 x8 x9 x10 x11 x12 x13 x14 x15:Int}(h:w.heap[b]?=MI (qp x0 x1 x2 x3 x4 x5 x6 x7 x8 x9 x10 x11 x12 x13 x14 x15)):w.cell? ⟨b,0,MH⟩=MI (MF ME x0)/\w.cell? ⟨b,1,MH⟩=MI (MF ME x1)/\w.cell? ⟨b,2,MH⟩=MI (MF ME x2)/\w.cell? ⟨b,3,MH⟩=MI (MF ME x3)/\w.cell? ⟨b,4,MH⟩=MI (MF ME x4)/\w.cell? ⟨b,5,MH⟩=MI (MF ME x5)/\w.cell? ⟨b,6,MH⟩=MI (MF ME x6)/\w.cell? ⟨b,7,MH⟩=MI (MF ME x7)/\w.cell? ⟨b,8,MH⟩=MI (MF ME x8)/\w.cell? ⟨b,9,MH⟩=MI (MF ME x9)/\w.cell? ⟨b,10,MH⟩=MI (MF ME x10)/\w.cell? ⟨b,11,MH⟩=MI (MF ME x11)/\w.cell? ⟨b,12,MH⟩=MI (MF ME x12)/\w.cell? ⟨b,13,MH⟩=MI (MF ME x13)/\w.cell? ⟨b,14,MH⟩=MI (MF ME x14)/\w.cell? ⟨b,15,MH⟩=MI (MF ME x15)/\b<w.heap.size :=
 ⟨by simp[Nl,h],by simp[Nl,h],by simp[Nl,h],by simp[Nl,h],by simp[Nl,h],by simp[Nl,h],by simp[Nl,h],by simp[Nl,h],by simp[Nl,h],by simp[Nl,h],by simp[Nl,h],by simp[Nl,h],by simp[Nl,h],by simp[Nl,h],by simp[Nl,h],by simp[Nl,h],(Array.getElem?_eq_some_iff.1 h).1⟩
theorem DL(x:Int):(N6 ME (x.tmod 20)).wf=true:=by
 by_cases h:x<0
 ·have e:x.tmod 20 = -((-x) % 20):=by
   rw[show x = -(-x)by omega,Int.neg_tmod,Oi (by omega)];simp
  rw[e];exact kM (by omega) (by omega)
 ·rw[Oi (by omega)]
  exact kM (by omega) (by omega)
theorem M4{P:O8}{md:Region.Mode}{ops:Array Oper}{Q:Exit->Act->MO->Prop}{S:MO->Prop}(i:Nat)(v:M7){oi:Oper}{fuel:Nat}{listed:Array Bool}{a:Act}(hS:S w)
  (h:wpAnyH P md ops Q S fuel (listed.setIfInBounds i Nw) (a.put oi.dst v) w) (hi:ops[i]?=MI oi:=by rfl) (hs:Region.noSelect ops=true:=by kernel_rfl) (hf:Region.free md ops listed i=true:=by kernel_rfl) (hr:(Region.ready md ops listed).contains i=true:=by kernel_rfl)
  (hQ:∀c a w,Q (.panic c) (a.put oi.dst v) w->Q (.panic c) a w:=by exact fun _ _ _ h=>h) (hy:YieldsIf P ops S oi v a:=by exact Or.inl ⟨by rfl,fun X hSw=>by obtain⟨s0,s1,s2,s3,s4,s5,s6,s7,s8,s9,s10,s11,s12,s13,s14,s15⟩:=hSw;go_simp⟩):wpAnyH P md ops Q S (fuel+1) listed a w :=
 ND hi hs hf hr hQ hy hS h
theorem jn{n:Int}(h1:-1000000<=n)(h2:n<=1000000):IntKind.i64.wrap n=n:=by rw[Ow];omega
theorem BG(l:List Int):(l.map fun x=>MF ME x).toArray.all (·.oneCell')=true:=by
 apply OE;intro v hv;obtain⟨x,_,rfl⟩:=List.mem_map.1 hv;rfl
structure i9(x0 x1 x2 x3 x4 x5 x6 x7 x8 x9 x10 x11 x12 x13 x14 x15:Int)(c:Cf):Prop where
 ok:i6 c
 flows:c.flows<=8
 drain:c.drain<=5
 idle:c.idle<=6
 conn:c.conn<=4
 ret:c.ret<=3
 most:c.most=((eB x9 101:Nat):Int)
theorem X9(x0 x1 x2 x3 x4 x5 x6 x7 x8 x9 x10 x11 x12 x13 x14 x15:Int)(w0:(N6 ME x0).wf=Nw)(w1:(N6 ME x1).wf=Nw)(w2:(N6 ME x2).wf=Nw)(w3:(N6 ME x3).wf=Nw)(w4:(N6 ME x4).wf=Nw)(w5:(N6 ME x5).wf=Nw)(w6:(N6 ME x6).wf=Nw)(w7:(N6 ME x7).wf=Nw)(w8:(N6 ME x8).wf=Nw)(w9:(N6 ME x9).wf=Nw)(w10:(N6 ME x10).wf=Nw)(w11:(N6 ME x11).wf=Nw)(w12:(N6 ME x12).wf=Nw)(w13:(N6 ME x13).wf=Nw)(w14:(N6 ME x14).wf=Nw)(w15:(N6 ME x15).wf=Nw) :
  ∃c:Cf,i9 x0 x1 x2 x3 x4 x5 x6 x7 x8 x9 x10 x11 x12 x13 x14 x15 c/\∀w,Ni MK 22 #[BD x0 x1 x2 x3 x4 x5 x6 x7 x8 x9 x10 x11 x12 x13 x14 x15] w fun r w'=>r=MN (lA c)/\MQ w.heap.size w w':=by
 obtain⟨k2,b2,p2⟩:=eW x2 20 w2 (by omega) (by omega);obtain⟨k0,b0,p0⟩:=eW x0 8 w0 (by omega) (by omega);obtain⟨k3,b3,p3⟩:=eW x3 4 w3 (by omega) (by omega);obtain⟨k4,b4,p4⟩:=eW x4 6 w4 (by omega) (by omega);obtain⟨k5,b5,p5⟩:=eW x5 5 w5 (by omega) (by omega);obtain⟨k6,b6,p6⟩:=eW x6 6 w6 (by omega) (by omega);obtain⟨k7,b7,p7⟩:=eW x7 4 w7 (by omega) (by omega);obtain⟨k8,b8,p8⟩:=eW x8 4 w8 (by omega) (by omega);obtain⟨k1,b1,p1⟩:=eW x1 (20-k2) w1 (by omega) (by omega);have hc1:(((20-k2:Nat)):Int)=20-(1+(k2:Int))+1:=by omega
 rw[hc1]at p1;have p9:∀W,Ni MK 37 #[MF ME x9,MF ME 101] W fun r w'=>r=MN (MF ME ((eB x9 101:Nat):Int))/\w'=W:=fun W=>by
  have hb:=qI w9;exact pc x9 101 W hb.1 hb.2 (by omega) (by omega)
 have b9:=nP x9 101 (by omega);obtain⟨bn,bd,bb,hbud,pb⟩:=Ca x10 x11 x12 w10 w11 w12;obtain⟨wn,wf,wh,hw1,hw2,hw3,_,pw⟩:=ED x13 x14 (x15.tmod 20) w13 w14 (DL x15);refine⟨⟨1+k0,1+k2+k1,1+k2,k3,k4,1+k5,1+k6,1+k7,k8,(eB x9 101:Nat),bn,bd,bb,wn,wf,wh⟩,⟨⟨⟨by show(1:Int)<=1+k0;omega,by show(1:Int)+k0<=40;omega⟩,⟨by show(1:Int)<=1+k2;omega,by show(1:Int)+k2<=1+k2+k1;omega⟩,by show(1:Int)+k2+k1<=20;omega,⟨by show(0:Int)<=k3;omega,by show(k3:Int)<=12;omega⟩,⟨by show(0:Int)<=k4;omega,by show(k4:Int)<=500;omega⟩,⟨by show(1:Int)<=1+k5;omega,by show(1:Int)+k5<=500;omega⟩,⟨by show(1:Int)<=1+k6;omega,by show(1:Int)+k6<=500;omega⟩,⟨by show(1:Int)<=1+k7;omega,by show(1:Int)+k7<=500;omega⟩,⟨by show(0:Int)<=k8;omega,by show(k8:Int)<=20;omega⟩,⟨by show(0:Int)<=((eB x9 101:Nat):Int);omega,by show((eB x9 101:Nat):Int)<=100;omega⟩,?_,?_⟩,by show(1:Int)+k0<=8;omega,by show(1:Int)+k5<=5;omega,by show(1:Int)+k6<=6;omega,by show(1:Int)+k7<=4;omega,by show(k8:Int)<=3;omega,rfl⟩,fun w=>?_⟩
 ·show dq (bn:Int) (bd:Int) (bb:Int)
  exact⟨by omega,by omega,by omega⟩
 ·show dR (wn:Int) (wf:Int) (wh:Int)
  exact⟨by omega,by omega,by omega⟩
 obtain⟨m9,hm9⟩:∃m9,m9=eB x9 101:=⟨_,rfl⟩;rw[<-hm9]at p9 b9⊢;clear hm9 hc1 w0 w1 w2 w3 w4 w5 w6 w7 w8 w9 w10 w11 w12 w13 w14 w15;have e11:IntKind.i64.wrap (1+(k0:Int))=1+(k0:Int):=jn (by omega) (by omega);have e16:IntKind.i64.wrap (20-(1+(k2:Int)))=20-(1+(k2:Int)):=jn (by omega) (by omega);have e17:IntKind.i64.wrap (20-(1+(k2:Int))+1)=20-(1+(k2:Int))+1:=jn (by omega) (by omega);have e19:IntKind.i64.wrap (1+(k2:Int)+(k1:Int))=1+(k2:Int)+(k1:Int):=jn (by omega) (by omega);have e30:IntKind.i64.wrap (1+(k5:Int))=1+(k5:Int):=jn (by omega) (by omega);have e34:IntKind.i64.wrap (1+(k6:Int))=1+(k6:Int):=jn (by omega) (by omega);have e38:IntKind.i64.wrap (1+(k7:Int))=1+(k7:Int):=jn (by omega) (by omega);obtain⟨W0,hW0⟩:∃W0,W0=(w.alloc (qp x0 x1 x2 x3 x4 x5 x6 x7 x8 x9 x10 x11 x12 x13 x14 x15)).alloc (gM aL):=⟨_,rfl⟩;have hb0:MQ w.heap.size w W0:=by rw[hW0];exact(ai w).trans ((ai _).mono (by simp))
 have hR0:W0.heap[w.heap.size]?=MI (qp x0 x1 x2 x3 x4 x5 x6 x7 x8 x9 x10 x11 x12 x13 x14 x15):=by rw[hW0];exact aN _ _ (M1 _ _)
 have hR1:W0.heap[w.heap.size+1]?=MI (gM aL):=by rw[hW0];exact bV _ _ _
 obtain⟨b,hb⟩:∃b,b=w.heap.size:=⟨_,rfl⟩;obtain⟨g,hg⟩:∃g,g=w.heap.size+1:=⟨_,rfl⟩;rw[<-hb]at hR0;rw[<-hg]at hR1;obtain⟨a0,a1,a2,a3,a4,a5,a6,a7,a8,a9,a10,a11,a12,a13,a14,a15,alt⟩:=nX hR0;have HP:M6 (_/\_/\_/\_/\_/\_/\_/\_/\_/\_):=⟨p0,p1,p2,p3,p4,p5,p6,p7,p8,p9⟩;have hgw:w.heap.size<=g:=by omega
 have HV:M6 (_/\_/\_/\_/\_/\_/\_):=⟨hb0,hR0,hR1,hW0,hb,hg,hgw⟩;have HS:M6 (∀X,MQ W0.heap.size W0 X->X.cell? ⟨b,0,MH⟩=MI (MF ME x0)/\X.cell? ⟨b,1,MH⟩=MI (MF ME x1)/\X.cell? ⟨b,2,MH⟩=MI (MF ME x2)/\X.cell? ⟨b,3,MH⟩=MI (MF ME x3)/\X.cell? ⟨b,4,MH⟩=MI (MF ME x4)/\X.cell? ⟨b,5,MH⟩=MI (MF ME x5)/\X.cell? ⟨b,6,MH⟩=MI (MF ME x6)/\X.cell? ⟨b,7,MH⟩=MI (MF ME x7)/\X.cell? ⟨b,8,MH⟩=MI (MF ME x8)/\X.cell? ⟨b,9,MH⟩=MI (MF ME x9)/\X.cell? ⟨b,10,MH⟩=MI (MF ME x10)/\X.cell? ⟨b,11,MH⟩=MI (MF ME x11)/\X.cell? ⟨b,12,MH⟩=MI (MF ME x12)/\X.cell? ⟨b,13,MH⟩=MI (MF ME x13)/\X.cell? ⟨b,14,MH⟩=MI (MF ME x14)/\X.cell? ⟨b,15,MH⟩=MI (MF ME x15)):=fun X hX=>by
  obtain⟨q0,q1,q2,q3,q4,q5,q6,q7,q8,q9,q10,q11,q12,q13,q14,q15,_⟩:=nX (af hR0 hX);exact⟨q0,q1,q2,q3,q4,q5,q6,q7,q8,q9,q10,q11,q12,q13,q14,q15⟩
 have HB:M6 _:=pb;have HW:M6 _:=pw;have hrem:∀X:MO,(binOp .rem 3 (MF ME x15) (MF ME 20)).run MK X=.ok (MF ME (x15.tmod 20)) X:=fun X=>by go_simp
 clear p0 p1 p2 p3 p4 p5 p6 p7 p8 p9 hb0 hR0 hR1 hW0 pb pw hb hg hgw;go_enter Tryz.func22,Tryz.ntmps22
 go_wp2_with fail
 rw[show(#[MF ME 0,MF ME 0,MF ME 0,MF ME 0,MF ME 0,MF ME 0,MF ME 0,MF ME 0,MF ME 0,MF ME 0,MF ME 0,MF ME 0,MF ME 0,MF ME 0,MF ME 0,MF ME 0]:Array M7)=#[MF ME aL.flows,MF ME aL.num,MF ME aL.den,MF ME aL.tries,MF ME aL.warm,MF ME aL.drain,MF ME aL.idle,MF ME aL.conn,MF ME aL.ret,MF ME aL.most,MF ME aL.bn,MF ME aL.bd,MF ME aL.bb,MF ME aL.wn,MF ME aL.wf,MF ME aL.wh]from rfl,<-HV.out.2.2.2.1,<-HV.out.2.2.2.2.2.1,<-HV.out.2.2.2.2.1];refine(HP.out.2.2.1 _).mono ?_;rintro r v1 ⟨rfl,hv1⟩;subst hv1;go_wp2;have hb1:MQ v1.heap.size v1 v1.drew:=(MY _ _).drew;refine O2 (S:=fun W=>W.cell? ⟨b,0,MH⟩=MI (MF ME x0)/\W.cell? ⟨b,1,MH⟩=MI (MF ME x1)/\W.cell? ⟨b,2,MH⟩=MI (MF ME x2)/\W.cell? ⟨b,3,MH⟩=MI (MF ME x3)/\W.cell? ⟨b,4,MH⟩=MI (MF ME x4)/\W.cell? ⟨b,5,MH⟩=MI (MF ME x5)/\W.cell? ⟨b,6,MH⟩=MI (MF ME x6)/\W.cell? ⟨b,7,MH⟩=MI (MF ME x7)/\W.cell? ⟨b,8,MH⟩=MI (MF ME x8)/\W.cell? ⟨b,9,MH⟩=MI (MF ME x9)/\W.cell? ⟨b,10,MH⟩=MI (MF ME x10)/\W.cell? ⟨b,11,MH⟩=MI (MF ME x11)/\W.cell? ⟨b,12,MH⟩=MI (MF ME x12)/\W.cell? ⟨b,13,MH⟩=MI (MF ME x13)/\W.cell? ⟨b,14,MH⟩=MI (MF ME x14)/\W.cell? ⟨b,15,MH⟩=MI (MF ME x15)) (by kernel_rfl) (HS.out _ hb1) (fun hHeld=>?_);refine M4 0 (Na (MI ⟨b,0,MH⟩)) hHeld ?_;simp only[Nr,MJ,ML,MM];refine M4 1 (MF ME (x0)) hHeld ?_;simp only[Nr,MJ,ML,MM];refine M4 4 (MF ME (1+(k2:Int))) hHeld ?_;simp only[Nr,MJ,ML,MM];refine M4 5 (Na (MI ⟨b,1,MH⟩)) hHeld ?_;simp only[Nr,MJ,ML,MM];refine M4 6 (MF ME (x1)) hHeld ?_;simp only[Nr,MJ,ML,MM];refine M4 7 (MF ME (1+(k2:Int))) hHeld ?_;simp only[Nr,MJ,ML,MM];refine M4 8 (MF ME (20-(1+(k2:Int)))) hHeld ?_;simp only[Nr,MJ,ML,MM];refine M4 9 (MF ME (20-(1+(k2:Int))+1)) hHeld ?_;simp only[Nr,MJ,ML,MM];refine M4 12 (MF ME (1+(k2:Int))) hHeld ?_;simp only[Nr,MJ,ML,MM];refine M4 13 (Na (MI ⟨b,3,MH⟩)) hHeld ?_;simp only[Nr,MJ,ML,MM];refine M4 14 (MF ME (x3)) hHeld ?_;simp only[Nr,MJ,ML,MM];refine M4 16 (Na (MI ⟨b,4,MH⟩)) hHeld ?_;simp only[Nr,MJ,ML,MM];refine M4 17 (MF ME (x4)) hHeld ?_;simp only[Nr,MJ,ML,MM];refine M4 19 (Na (MI ⟨b,5,MH⟩)) hHeld ?_;simp only[Nr,MJ,ML,MM];refine M4 20 (MF ME (x5)) hHeld ?_;simp only[Nr,MJ,ML,MM];refine M4 23 (Na (MI ⟨b,6,MH⟩)) hHeld ?_;simp only[Nr,MJ,ML,MM];refine M4 24 (MF ME (x6)) hHeld ?_;simp only[Nr,MJ,ML,MM];refine M4 27 (Na (MI ⟨b,7,MH⟩)) hHeld ?_;simp only[Nr,MJ,ML,MM];refine M4 28 (MF ME (x7)) hHeld ?_;simp only[Nr,MJ,ML,MM];refine M4 31 (Na (MI ⟨b,8,MH⟩)) hHeld ?_;simp only[Nr,MJ,ML,MM];refine M4 32 (MF ME (x8)) hHeld ?_;simp only[Nr,MJ,ML,MM];refine M4 34 (Na (MI ⟨b,9,MH⟩)) hHeld ?_;simp only[Nr,MJ,ML,MM];refine M4 35 (MF ME (x9)) hHeld ?_;simp only[Nr,MJ,ML,MM];refine M4 37 (Na (MI ⟨b,10,MH⟩)) hHeld ?_;simp only[Nr,MJ,ML,MM];refine M4 38 (Na (MI ⟨b,10,MH⟩)) hHeld ?_;simp only[Nr,MJ,ML,MM];refine M4 39 (MF ME (x10)) hHeld ?_;simp only[Nr,MJ,ML,MM];refine M4 40 (Na (MI ⟨b,10,MH⟩)) hHeld ?_;simp only[Nr,MJ,ML,MM];refine M4 41 (Na (MI ⟨b,11,MH⟩)) hHeld ?_;simp only[Nr,MJ,ML,MM];refine M4 42 (MF ME (x11)) hHeld ?_;simp only[Nr,MJ,ML,MM];refine M4 43 (Na (MI ⟨b,10,MH⟩)) hHeld ?_;simp only[Nr,MJ,ML,MM];refine M4 44 (Na (MI ⟨b,12,MH⟩)) hHeld ?_;simp only[Nr,MJ,ML,MM];refine M4 45 (MF ME (x12)) hHeld ?_;simp only[Nr,MJ,ML,MM];refine M4 47 (Na (MI ⟨b,13,MH⟩)) hHeld ?_;simp only[Nr,MJ,ML,MM];refine M4 48 (Na (MI ⟨b,13,MH⟩)) hHeld ?_;simp only[Nr,MJ,ML,MM];refine M4 49 (MF ME (x13)) hHeld ?_;simp only[Nr,MJ,ML,MM];refine M4 50 (Na (MI ⟨b,13,MH⟩)) hHeld ?_;simp only[Nr,MJ,ML,MM];refine M4 51 (Na (MI ⟨b,14,MH⟩)) hHeld ?_;simp only[Nr,MJ,ML,MM];refine M4 52 (MF ME (x14)) hHeld ?_;simp only[Nr,MJ,ML,MM];refine M4 53 (Na (MI ⟨b,13,MH⟩)) hHeld ?_;simp only[Nr,MJ,ML,MM];refine M4 54 (Na (MI ⟨b,15,MH⟩)) hHeld ?_;simp only[Nr,MJ,ML,MM];refine M4 55 (MF ME (x15)) hHeld ?_;simp only[Nr,MJ,ML,MM];refine M4 56 (MF ME (x15.tmod 20)) hHeld ?_;simp only[Nr,MJ,ML,MM];refine NN (rs:=[2]) (by kernel_rfl) (by simp) ?_;refine NP (o:=_) rfl (fun K hK=>?_) NX;go_simp;refine(HP.out.1 _).mono ?_;rintro r u ⟨rfl,hu⟩;subst hu
 go_wp2_with fail
 refine hK.out _ _ hHeld (fun hHeld=>?_);clear hK K
 try simp only[Nr,MJ,ML,MM]
 refine M4 3 (MF ME (1+(k0:Int))) hHeld ?_;simp only[Nr,MJ,ML,MM];refine NN (rs:=[10]) (by kernel_rfl) (by simp) ?_;refine NP (o:=_) rfl (fun K hK=>?_) NX;go_simp;refine(HP.out.2.1 _).mono ?_;rintro r u ⟨rfl,hu⟩;subst hu
 go_wp2_with fail
 refine hK.out _ _ hHeld (fun hHeld=>?_);clear hK K
 try simp only[Nr,MJ,ML,MM]
 refine M4 11 (MF ME (1+(k2:Int)+(k1:Int))) hHeld ?_;simp only[Nr,MJ,ML,MM];refine NN (rs:=[15]) (by kernel_rfl) (by simp) ?_;refine NP (o:=_) rfl (fun K hK=>?_) NX;go_simp;refine(HP.out.2.2.2.1 _).mono ?_;rintro r u ⟨rfl,hu⟩;subst hu
 go_wp2_with fail
 refine hK.out _ _ hHeld (fun hHeld=>?_);clear hK K
 try simp only[Nr,MJ,ML,MM]
 refine NN (rs:=[18]) (by kernel_rfl) (by simp) ?_;refine NP (o:=_) rfl (fun K hK=>?_) NX;go_simp;refine(HP.out.2.2.2.2.1 _).mono ?_;rintro r u ⟨rfl,hu⟩;subst hu
 go_wp2_with fail
 refine hK.out _ _ hHeld (fun hHeld=>?_);clear hK K
 try simp only[Nr,MJ,ML,MM]
 refine NN (rs:=[21]) (by kernel_rfl) (by simp) ?_;refine NP (o:=_) rfl (fun K hK=>?_) NX;go_simp;refine(HP.out.2.2.2.2.2.1 _).mono ?_;rintro r u ⟨rfl,hu⟩;subst hu
 go_wp2_with fail
 refine hK.out _ _ hHeld (fun hHeld=>?_);clear hK K
 try simp only[Nr,MJ,ML,MM]
 refine M4 22 (MF ME (1+(k5:Int))) hHeld ?_;simp only[Nr,MJ,ML,MM];refine NN (rs:=[25]) (by kernel_rfl) (by simp) ?_;refine NP (o:=_) rfl (fun K hK=>?_) NX;go_simp;refine(HP.out.2.2.2.2.2.2.1 _).mono ?_;rintro r u ⟨rfl,hu⟩;subst hu
 go_wp2_with fail
 refine hK.out _ _ hHeld (fun hHeld=>?_);clear hK K
 try simp only[Nr,MJ,ML,MM]
 refine M4 26 (MF ME (1+(k6:Int))) hHeld ?_;simp only[Nr,MJ,ML,MM];refine NN (rs:=[29]) (by kernel_rfl) (by simp) ?_;refine NP (o:=_) rfl (fun K hK=>?_) NX;go_simp;refine(HP.out.2.2.2.2.2.2.2.1 _).mono ?_;rintro r u ⟨rfl,hu⟩;subst hu
 go_wp2_with fail
 refine hK.out _ _ hHeld (fun hHeld=>?_);clear hK K
 try simp only[Nr,MJ,ML,MM]
 refine M4 30 (MF ME (1+(k7:Int))) hHeld ?_;simp only[Nr,MJ,ML,MM];refine NN (rs:=[33]) (by kernel_rfl) (by simp) ?_;refine NP (o:=_) rfl (fun K hK=>?_) NX;go_simp;refine(HP.out.2.2.2.2.2.2.2.2.1 _).mono ?_;rintro r u ⟨rfl,hu⟩;subst hu
 go_wp2_with fail
 refine hK.out _ _ hHeld (fun hHeld=>?_);clear hK K
 try simp only[Nr,MJ,ML,MM]
 refine NN (rs:=[36]) (by kernel_rfl) (by simp) ?_;refine NP (o:=_) rfl (fun K hK=>?_) NX;go_simp;refine(HP.out.2.2.2.2.2.2.2.2.2 _).mono ?_;rintro r u ⟨rfl,hu⟩;subst hu
 go_wp2_with fail
 refine hK.out _ _ hHeld (fun hHeld=>?_);clear hK K
 try simp only[Nr,MJ,ML,MM]
 refine NN (rs:=[46]) (by kernel_rfl) (by simp) ?_;refine NP (o:=_) rfl (fun K hK=>?_) NX;go_simp;refine(HB.out _).mono ?_;rintro r u2 ⟨rfl,hu2⟩;have hb2:=hb1.trans (hu2.mono hb1.size);clear hu2
 go_wp2_with fail
 refine hK.out _ _ (HS.out _ hb2) (fun hHeld=>?_);clear hK K
 try simp only[Nr,MJ,ML,MM]
 refine NN (rs:=[57]) (by kernel_rfl) (by simp) ?_;refine NP (o:=_) rfl (fun K hK=>?_) NX;go_simp;refine(HW.out _).mono ?_;rintro r u3 ⟨rfl,hu3⟩;have hb3:=hb2.trans (hu3.mono hb2.size);clear hu3
 go_wp2_with fail
 refine hK.out _ _ (HS.out _ hb3) (fun hHeld=>?_);clear hK K
 try simp only[Nr,MJ,ML,MM]
 refine M4 58 (Ny #[MF ME (1+(k0:Int)),MF ME (1+(k2:Int)+(k1:Int)),MF ME (1+(k2:Int)),MF ME ((k3:Int)),MF ME ((k4:Int)),MF ME (1+(k5:Int)),MF ME (1+(k6:Int)),MF ME (1+(k7:Int)),MF ME ((k8:Int)),MF ME ((m9:Int)),MF ME ((bn:Int)),MF ME ((bd:Int)),MF ME ((bb:Int)),MF ME ((wn:Int)),MF ME ((wf:Int)),MF ME ((wh:Int))]) hHeld ?_;simp only[Nr,MJ,ML,MM];simp only[MZ,MT,MS,ML,MM];have hR1:=af HV.out.2.2.1 hb3;have hB7:=HV.out.1.trans (hb3.mono HV.out.1.size);have hth:=vR (cs:=[MF ME aL.flows,MF ME aL.num,MF ME aL.den,MF ME aL.tries,MF ME aL.warm,MF ME aL.drain,MF ME aL.idle,MF ME aL.conn,MF ME aL.ret,MF ME aL.most,MF ME aL.bn,MF ME aL.bd,MF ME aL.bb,MF ME aL.wn,MF ME aL.wf,MF ME aL.wh]) hR1;have hst:=vd (cs:=[MF ME aL.flows,MF ME aL.num,MF ME aL.den,MF ME aL.tries,MF ME aL.warm,MF ME aL.drain,MF ME aL.idle,MF ME aL.conn,MF ME aL.ret,MF ME aL.most,MF ME aL.bn,MF ME aL.bd,MF ME aL.bb,MF ME aL.wn,MF ME aL.wf,MF ME aL.wh]) (vs:=[MF ME (1+(k0:Int)),MF ME (1+(k2:Int)+(k1:Int)),MF ME (1+(k2:Int)),MF ME ((k3:Int)),MF ME ((k4:Int)),MF ME (1+(k5:Int)),MF ME (1+(k6:Int)),MF ME (1+(k7:Int)),MF ME ((k8:Int)),MF ME ((m9:Int)),MF ME ((bn:Int)),MF ME ((bd:Int)),MF ME ((bb:Int)),MF ME ((wn:Int)),MF ME ((wf:Int)),MF ME ((wh:Int))]) hR1 rfl;have hbl:=tW hB7 HV.out.2.2.2.2.2.2 0 [MF ME (1+(k0:Int)),MF ME (1+(k2:Int)+(k1:Int)),MF ME (1+(k2:Int)),MF ME ((k3:Int)),MF ME ((k4:Int)),MF ME (1+(k5:Int)),MF ME (1+(k6:Int)),MF ME (1+(k7:Int)),MF ME ((k8:Int)),MF ME ((m9:Int)),MF ME ((bn:Int)),MF ME ((bd:Int)),MF ME ((bb:Int)),MF ME ((wn:Int)),MF ME ((wf:Int)),MF ME ((wh:Int))] hB7.size;obtain⟨u9,hu9⟩:∃u9,u9=u3.setCells g 0 [MF ME (1+(k0:Int)),MF ME (1+(k2:Int)+(k1:Int)),MF ME (1+(k2:Int)),MF ME ((k3:Int)),MF ME ((k4:Int)),MF ME (1+(k5:Int)),MF ME (1+(k6:Int)),MF ME (1+(k7:Int)),MF ME ((k8:Int)),MF ME ((m9:Int)),MF ME ((bn:Int)),MF ME ((bd:Int)),MF ME ((bb:Int)),MF ME ((wn:Int)),MF ME ((wf:Int)),MF ME ((wh:Int))]:=⟨_,rfl⟩;rw[<-hu9]at hst hbl;have HZ:M6 (_/\_):=⟨hst,hbl⟩;clear hst hbl hR1 hB7;have hS9:u9.cell? ⟨b,0,MH⟩=MI (MF ME x0)/\u9.cell? ⟨b,1,MH⟩=MI (MF ME x1)/\u9.cell? ⟨b,2,MH⟩=MI (MF ME x2)/\u9.cell? ⟨b,3,MH⟩=MI (MF ME x3)/\u9.cell? ⟨b,4,MH⟩=MI (MF ME x4)/\u9.cell? ⟨b,5,MH⟩=MI (MF ME x5)/\u9.cell? ⟨b,6,MH⟩=MI (MF ME x6)/\u9.cell? ⟨b,7,MH⟩=MI (MF ME x7)/\u9.cell? ⟨b,8,MH⟩=MI (MF ME x8)/\u9.cell? ⟨b,9,MH⟩=MI (MF ME x9)/\u9.cell? ⟨b,10,MH⟩=MI (MF ME x10)/\u9.cell? ⟨b,11,MH⟩=MI (MF ME x11)/\u9.cell? ⟨b,12,MH⟩=MI (MF ME x12)/\u9.cell? ⟨b,13,MH⟩=MI (MF ME x13)/\u9.cell? ⟨b,14,MH⟩=MI (MF ME x14)/\u9.cell? ⟨b,15,MH⟩=MI (MF ME x15):=by
  rw[hu9];have hne:b≠g:=by rw[HV.out.2.2.2.2.1,HV.out.2.2.2.2.2.1];omega
  have hlt:b<u3.heap.size:=(nX (af HV.out.2.1 hb3)).2.2.2.2.2.2.2.2.2.2.2.2.2.2.2.2;have hk:∀k v,u3.cell? ⟨b,k,MH⟩=MI v->(u3.setCells g 0 [MF ME (1+(k0:Int)),MF ME (1+(k2:Int)+(k1:Int)),MF ME (1+(k2:Int)),MF ME ((k3:Int)),MF ME ((k4:Int)),MF ME (1+(k5:Int)),MF ME (1+(k6:Int)),MF ME (1+(k7:Int)),MF ME ((k8:Int)),MF ME ((m9:Int)),MF ME ((bn:Int)),MF ME ((bd:Int)),MF ME ((bb:Int)),MF ME ((wn:Int)),MF ME ((wf:Int)),MF ME ((wh:Int))]).cell? ⟨b,k,MH⟩=MI v:=fun k v h=>(NG (N8 _ _ _ _ hlt hne)).trans h
  obtain⟨s0,s1,s2,s3,s4,s5,s6,s7,s8,s9,s10,s11,s12,s13,s14,s15⟩:=hHeld;exact⟨hk _ _ s0,hk _ _ s1,hk _ _ s2,hk _ _ s3,hk _ _ s4,hk _ _ s5,hk _ _ s6,hk _ _ s7,hk _ _ s8,hk _ _ s9,hk _ _ s10,hk _ _ s11,hk _ _ s12,hk _ _ s13,hk _ _ s14,hk _ _ s15⟩
 refine NN (rs:=[59]) (by kernel_rfl) (by simp) ?_;refine NP (o:=_) rfl (fun K hK=>?_) NX;rw[Nh (by rfl)];refine wp_store_mid _ _ _ rfl _ _ #[MF ME (1+(k0:Int)),MF ME (1+(k2:Int)+(k1:Int)),MF ME (1+(k2:Int)),MF ME ((k3:Int)),MF ME ((k4:Int)),MF ME (1+(k5:Int)),MF ME (1+(k6:Int)),MF ME (1+(k7:Int)),MF ME ((k8:Int)),MF ME ((m9:Int)),MF ME ((bn:Int)),MF ME ((bd:Int)),MF ME ((bb:Int)),MF ME ((wn:Int)),MF ME ((wf:Int)),MF ME ((wh:Int))] rfl rfl hth (by kernel_rfl) (BG [1+(k0:Int),1+(k2:Int)+(k1:Int),1+(k2:Int),(k3:Int),(k4:Int),1+(k5:Int),1+(k6:Int),1+(k7:Int),(k8:Int),(m9:Int),(bn:Int),(bd:Int),(bb:Int),(wn:Int),(wf:Int),(wh:Int)]) ?_;rw[show RW (#[MF ME (1+(k0:Int)),MF ME (1+(k2:Int)+(k1:Int)),MF ME (1+(k2:Int)),MF ME ((k3:Int)),MF ME ((k4:Int)),MF ME (1+(k5:Int)),MF ME (1+(k6:Int)),MF ME (1+(k7:Int)),MF ME ((k8:Int)),MF ME ((m9:Int)),MF ME ((bn:Int)),MF ME ((bd:Int)),MF ME ((bb:Int)),MF ME ((wn:Int)),MF ME ((wf:Int)),MF ME ((wh:Int))]:Array M7)=[MF ME (1+(k0:Int)),MF ME (1+(k2:Int)+(k1:Int)),MF ME (1+(k2:Int)),MF ME ((k3:Int)),MF ME ((k4:Int)),MF ME (1+(k5:Int)),MF ME (1+(k6:Int)),MF ME (1+(k7:Int)),MF ME ((k8:Int)),MF ME ((m9:Int)),MF ME ((bn:Int)),MF ME ((bd:Int)),MF ME ((bb:Int)),MF ME ((wn:Int)),MF ME ((wf:Int)),MF ME ((wh:Int))]from rfl,<-hu9];refine hK.out _ _ hS9 (fun hHeld=>?_);clear hK K hu9 hS9 hth
 try simp only[Nr,MJ,ML,MM]
 refine PS (by kernel_rfl) ?_ _;go_wp2
 try simp only[Nr,MJ,ML,MM]
 exact Np (v:=Ny #[MF ME (1+(k0:Int)),MF ME (1+(k2:Int)+(k1:Int)),MF ME (1+(k2:Int)),MF ME ((k3:Int)),MF ME ((k4:Int)),MF ME (1+(k5:Int)),MF ME (1+(k6:Int)),MF ME (1+(k7:Int)),MF ME ((k8:Int)),MF ME ((m9:Int)),MF ME ((bn:Int)),MF ME ((bd:Int)),MF ME ((bb:Int)),MF ME ((wn:Int)),MF ME ((wf:Int)),MF ME ((wh:Int))]) (ey Tryz.results22 rfl (aI (P:=MK) (cs:=[MF ME (1+(k0:Int)),MF ME (1+(k2:Int)+(k1:Int)),MF ME (1+(k2:Int)),MF ME ((k3:Int)),MF ME ((k4:Int)),MF ME (1+(k5:Int)),MF ME (1+(k6:Int)),MF ME (1+(k7:Int)),MF ME ((k8:Int)),MF ME ((m9:Int)),MF ME ((bn:Int)),MF ME ((bd:Int)),MF ME ((bb:Int)),MF ME ((wn:Int)),MF ME ((wf:Int)),MF ME ((wh:Int))]) HZ.out.1 O5 rfl (by kernel_rfl))) rfl ⟨rfl,HZ.out.2⟩
end Go.Proofs.YtlnbhjdhcmgljaaGreatDoor.Q
