/-
  Contracts of the layers and of core, part 4. Conditions: as each theorem says.
-/
import Derived.Deep.Upon
import Derived.BigQuiet
import Derived.Deep.CutRange
import Derived.Test.YtlnbhjdhcmgljaaGreatDoorQ0
open Array renaming getD_eq_getD_getElem?->Pg
open Bool renaming false->Nb,false_ne_true->PE,not_eq_true->Qc,true->Nw
open Classical renaming byContradiction->PM
open Decidable renaming decide->Nn
open Go renaming Addr->Oc,Calls->Ni,Program->O8,TypeId->NU,Value->M7,World->MO,bodyPost_ret->Np,heap_alloc_new->M1,heap_setCell_same->NI,info_parts->OF,maxLen->NE,results->Pf,undef->PL,wpList_append_lies->O9
open Go.Builtin renaming append_->N2
open Go.Ending renaming returned->MN
open Go.Fn renaming func->PD
open Go.IntKind renaming i64->ME
open Go.Obj renaming cells->MP
open Go.Proofs.Tryz renaming func144->Wu,func159->RT,func166->VQ,func168->SS,func185->TY,func192->Rj,func202->UQ,func203->Wv,func205->Rl,func250->TR,func96->UY,ntmps144->Wj,ntmps159->RJ,ntmps166->VI,ntmps168->Sw,ntmps185->TS,ntmps192->Q2,ntmps202->UD,ntmps203->Wk,ntmps205->Q5,ntmps250->TK,ntmps96->UV,prog->MK,results116->Ve,results159->Vn,results216->VY,underlying174->Vb,underlying36->RC,underlying38->UZ,underlying97->Vh
open Go.RowKit renaming Below->MQ,Hid->M6,intOf->On,ownsRow_setCell_below->QX
open Go.RowKit.Below renaming heap_setCell->MU,refl->MY
open Go.Sem renaming run_bind->Pn
open Go.Value renaming agg->Ny,bool->M3,func->PB,int->MF,pointer->Na,slice->MG,tuple->Nv
open Go.World renaming block_lt_of_cell?->MX,cell?->Nl,frozen?->Ng,ownsRow_nil->NY
open Int renaming eq_ofNat_of_zero_le->NL,toNat_natCast->NR
open List renaming append_nil->OG,ext_getElem?->Ot,filter_append->OY,getD_eq_getElem?_getD->NK,getElem?_eq_getElem->MR,getElem?_eq_none->Nz,getElem_mem->Nk,length_filter_le->O1,length_map->N0,map_append->OI,map_nil->P5,mem_cons->OO,mem_or_eq_of_mem_set->OB,nil_append->Oz,range->Pm,range_succ->ZqB,replicate->Nj,take_of_length_le->N1,take_succ_cons->PT,take_succ_eq_append_getElem->M9
open Nat renaming le_refl->MV,le_trans->Nm,lt_of_lt_of_le->M8,zero_add->Oa,zero_le->Nx
open Ne renaming symm->Pi
open Option renaming none->MH,some->MI
open Or renaming inl->Nt,inr->NF
namespace Go.Proofs.YtlnbhjdhcmgljaaGreatDoor.Q
set_option linter.unusedVariables false
set_option linter.unusedSimpArgs false
set_option maxHeartbeats 16000000
set_option maxRecDepth 100000
open Go.RowKit
attribute [local go_sem ↓] Go.wp_at_zero Go.wp_at_succ
variable {a b c d u v y:M7}{w w0:MO}{T:NU}{B H R base g k:Nat}
theorem AY:(Tryz.prog.info? 97).map (fun i=>(i.zero,i.size,i.bytes))=MI (MI (Ny #[MF ME 0,MF ME 0]),2,16):=by kernel_rfl
theorem tl{W w1:MO}(hb:MQ W.heap.size W w1):(∀b o,b<W.heap.size->w1.cell? ⟨b,o,MH⟩=W.cell? ⟨b,o,MH⟩)/\(∀b o,b<W.heap.size->w1.frozen? ⟨b,o,MH⟩=W.frozen? ⟨b,o,MH⟩):=
 ⟨fun b o h=>hb.cell (p:=⟨b,o,MH⟩) h,fun b o h=>hb.frozen (p:=⟨b,o,MH⟩) h⟩
theorem lq{fn:Func}{x y z:Tmp}{t u:NU}(h:fn.results=#[.cell x t,.cell y u,.tmp z]){tmps:Array M7}{P:O8}{p q:Oc}{v1 v2 v3:M7}(hx:tmps.getD x PL=Na (MI p))(hy:tmps.getD y PL=Na (MI q))(hz:tmps.getD z PL=v3)
  (h1:(loadVar t p).run P w=.ok v1 w) (h2:(loadVar u q).run P w=.ok v2 w):(Pf fn tmps).run P w=.ok (Nv #[v1,v2,v3]) w:=by
 have e1:∀a:Oc,(asAddr (Na (MI a))).run P w=.ok a w:=fun a=>rfl
 simp only[Pg]at hx hy hz;simp[Pf,h,hx,hy,hz,e1,h1,h2,Pn]
abbrev Sl:=Int×Bool×Int×Int
variable {l:List Sl}{x:Sl}
def aW:List Sl->List M7
 | []=>[]
 |t::l=>MF ME t.1::M3 t.2.1::MF ME t.2.2.1::MF ME t.2.2.2::aW l
theorem iP:∀l:List Sl,(aW l).length=l.length*4
 | []=>rfl
 |t::l=>by simp[aW,iP l];omega
theorem jv:∀(l:List Sl) (i:Nat) (h:i<l.length),(aW l)[i*4]?=MI (MF ME l[i].1)/\(aW l)[i*4+1]?=MI (M3 l[i].2.1)/\(aW l)[i*4+2]?=MI (MF ME l[i].2.2.1)/\(aW l)[i*4+3]?=MI (MF ME l[i].2.2.2)
 |t::l,0,_=>by simp[aW]
 |t::l,i+1,h=>by
  have h2:=jv l i (by simpa using h);rw[show(i+1)*4=i*4+1+1+1+1 by omega]
  simpa [aW]using h2
theorem tY:∀(l:List Sl) (j:Nat) (t:Sl),((((aW l).set (j*4) (MF ME t.1)).set (j*4+1) (M3 t.2.1)).set (j*4+2) (MF ME t.2.2.1)).set (j*4+3) (MF ME t.2.2.2)=aW (l.set j t)
 | [],j,t=>by simp[aW]
 |x::l,0,t=>by simp[aW]
 |x::l,j+1,t=>by
  have:=tY l j t;rw[show(j+1)*4=j*4+1+1+1+1 by omega];simp[aW,this]
theorem BV(l:List Sl):∀u∈aW l,u.oneCell'=true:=by
 induction l with
 |nil=>simp[aW]
 |cons t l ih =>
  simp only[aW,OO];rintro u (rfl|rfl|rfl|rfl|h)
  ·rfl
  ·rfl
  ·rfl
  ·rfl
  ·exact ih u h
def bS(w:MO)(v:M7)(l:List Sl):Prop:=aR w v l.length (aW l)
theorem bS.below{w':MO}(h:bS w v l)(hb:MQ w.heap.size w w'):bS w' v l:=aR.below h hb
theorem bS.F6(h:bS w v l):
  ∃a cap,v=MG a l.length cap/\l.length<=cap/\cap<=NE/\∀i (hi:i<l.length),∃b off,a=MI ⟨b,off,MH⟩/\b<w.heap.size/\w.cell? ⟨b,off+i*4,MH⟩=MI (MF ME l[i].1)/\w.cell? ⟨b,off+i*4+1,MH⟩=MI (M3 l[i].2.1)/\w.cell? ⟨b,off+i*4+2,MH⟩=MI (MF ME l[i].2.2.1)/\w.cell? ⟨b,off+i*4+3,MH⟩=MI (MF ME l[i].2.2.2):=by
 obtain⟨a,cap,hv,hc,hm,h1|⟨b,off,h1,h2,h3⟩⟩:=h
 ·exact⟨a,cap,hv,hc,hm,fun i hi=>absurd hi (by omega)⟩
 ·refine⟨a,cap,hv,hc,hm,fun i hi=>⟨b,off,h1,h2,?_,?_,?_,?_⟩⟩
  ·rw[h3 (i*4) (by rw[iP];omega)];exact(jv l i hi).1
  ·rw[Nat.add_assoc,h3 (i*4+1) (by rw[iP];omega)];exact(jv l i hi).2.1
  ·rw[Nat.add_assoc,h3 (i*4+2) (by rw[iP];omega)];exact(jv l i hi).2.2.1
  ·rw[Nat.add_assoc,h3 (i*4+3) (by rw[iP];omega)];exact(jv l i hi).2.2.2
theorem vE:(Tryz.prog.info? 174).map (fun i=>(i.zero,i.size,i.bytes))=MI (MI (Ny #[MF ME 0,M3 Nb,MF ME 0,MF ME 0]),4,32):=by kernel_rfl
abbrev dQ(t:Sl):Prop:=t.2.1=Nb/\t.2.2.1=0/\t.2.2.2=0
abbrev iK(n:Int):Prop:=0<=n/\n<=4294967295
abbrev gD(n:Int):Prop:=0<=n/\n<12
abbrev bN(t:Sl):Prop:=if t.2.1=Nw then(0<=t.1/\t.1<=1048575)/\iK t.2.2.1/\gD t.2.2.2 else(0<=t.1/\t.1<=1048576)/\t.2.2.1=0/\t.2.2.2=0
theorem DY(g:Int)(u:Bool)(k b:Int):(u=Nb/\k=0/\b=0)\/u=Nw\/(u=Nb/\(k == 0)=Nb)\/(u=Nb/\k=0/\(b == 0)=Nb):=by
 cases u
 ·by_cases h:k=0
  ·by_cases h2:b=0
   ·exact Nt ⟨rfl,h,h2⟩
   ·exact NF (NF (NF ⟨rfl,h,by simpa using h2⟩))
  ·exact NF (NF (Nt ⟨rfl,by simpa using h⟩))
 ·exact NF (Nt rfl)
theorem lI(g:Int)(u:Bool)(k b:Int)(w:MO) :
  Ni MK 166 #[Ny #[MF ME g,M3 u,MF ME k,MF ME b]] w fun r w'=>r=MN (M3 (Nn (dQ (g,u,k,b))))/\MQ w.heap.size w w':=by
 rcases DY g u k b with⟨rfl,rfl,rfl⟩|rfl|⟨rfl,h⟩|⟨rfl,rfl,h⟩
 ·have e:Nn (dQ (g,Nb,0,0))=true:=Nq ⟨rfl,rfl,rfl⟩
  rw[e];clear e;go_enter VQ,VI;go_wp2;go_ret;exact⟨rfl,bW w⟩
 ·have e:Nn (dQ (g,Nw,k,b))=false:=M0 fun h=>by cases h.1
  rw[e];clear e;go_enter VQ,VI;go_wp2;go_ret;exact⟨rfl,bW w⟩
 ·have e:Nn (dQ (g,Nb,k,b))=false:=M0 fun h2=>by have:=h2.2.1;simp at this;simp[this]at h
  rw[e];clear e;go_enter VQ,VI;go_wp2;go_ret;exact⟨rfl,bW w⟩
 ·have e:Nn (dQ (g,Nb,0,b))=false:=M0 fun h2=>by have:=h2.2.2;simp at this;simp[this]at h
  rw[e];clear e;go_enter VQ,VI;go_wp2;go_ret;exact⟨rfl,bW w⟩
theorem kr(n:Int)(w:MO):Ni MK 202 #[MF ME n] w fun r w'=>r=MN (M3 (Nn (iK n)))/\w'=w:=by
 obtain⟨ans,hans⟩:∃ans,ans=Nn (iK n):=⟨_,rfl⟩;rw[<-hans];have H:M6 _:=hans;clear hans;cases h1:Nn (0<=n)
 ·have E:M6 (ans=Nb):=by rw[H.out];exact M0 fun g=>Nc h1 g.1
  go_enter UQ,UD;go_wp2;go_ret;exact⟨by rw[E.out];rfl,rfl⟩
 cases h2:Nn (n<=4294967295)
 ·have E:M6 (ans=Nb):=by rw[H.out];exact M0 fun g=>Nc h2 g.2
  go_enter UQ,UD;go_wp2;go_ret;exact⟨by rw[E.out];rfl,rfl⟩
 ·have E:M6 (ans=Nw):=by rw[H.out];exact Nq ⟨M2 h1,M2 h2⟩
  go_enter UQ,UD;go_wp2;go_ret;exact⟨by rw[E.out];rfl,rfl⟩
theorem ka(n:Int)(w:MO):Ni MK 203 #[MF ME n] w fun r w'=>r=MN (M3 (Nn (gD n)))/\w'=w:=by
 obtain⟨ans,hans⟩:∃ans,ans=Nn (gD n):=⟨_,rfl⟩;rw[<-hans];have H:M6 _:=hans;clear hans;cases h1:Nn (0<=n)
 ·have E:M6 (ans=Nb):=by rw[H.out];exact M0 fun g=>Nc h1 g.1
  go_enter Wv,Wk;go_wp2;go_ret;exact⟨by rw[E.out];rfl,rfl⟩
 cases h2:Nn (n<12)
 ·have E:M6 (ans=Nb):=by rw[H.out];exact M0 fun g=>Nc h2 g.2
  go_enter Wv,Wk;go_wp2;go_ret;exact⟨by rw[E.out];rfl,rfl⟩
 ·have E:M6 (ans=Nw):=by rw[H.out];exact Nq ⟨M2 h1,M2 h2⟩
  go_enter Wv,Wk;go_wp2;go_ret;exact⟨by rw[E.out];rfl,rfl⟩
theorem Db(g:Int)(u:Bool)(k b:Int):let ans:=Nn (¬bN (g,u,k,b))
  (g<0/\ans=Nw)\/(0<=g/\1048576<g/\ans=Nw)\/(0<=g/\g<=1048576/\dQ (g,u,k,b)/\ans=Nb) \/
  (0<=g/\g<=1048576/\¬dQ (g,u,k,b)/\(u=Nb/\ans=Nw\/u=Nw/\((g == 1048576)=Nw/\ans=Nw\/(g == 1048576)=Nb/\(¬iK k/\ans=Nw\/iK k/\ans=Nn (¬gD b))))):=by
 intro ans
 by_cases h1:g<0
 ·refine Nt ⟨h1,Nq fun h=>?_⟩
  unfold bN at h
  split at h <;> simp at h <;> omega
 by_cases h2:1048576<g
 ·refine NF (Nt ⟨by omega,h2,Nq fun h=>?_⟩)
  unfold bN at h
  split at h <;> simp at h <;> omega
 by_cases h3:dQ (g,u,k,b)
 ·refine NF (NF (Nt ⟨by omega,by omega,h3,M0 fun h=>h ?_⟩))
  obtain⟨e1,e2,e3⟩:=h3;unfold bN;rw[e1,Nf (by simp)];exact⟨⟨by simp;omega,by simp;omega⟩,e2,e3⟩
 refine NF (NF (NF ⟨by omega,by omega,h3,?_⟩));cases u
 ·refine Nt ⟨rfl,Nq fun h=>h3 ?_⟩
  unfold bN at h;simp at h;exact⟨rfl,h.2⟩
 refine NF ⟨rfl,?_⟩
 by_cases h4:g=1048576
 ·refine Nt ⟨by simp[h4],Nq fun h=>?_⟩
  unfold bN at h;simp at h;omega
 refine NF ⟨by simpa using h4,?_⟩
 by_cases h5:iK k
 ·refine NF ⟨h5,?_⟩
  refine decide_eq_decide.2 ⟨fun h hb=>h ?_,fun h h'=>h ?_⟩
  ·unfold bN
   rw[Nh rfl];exact⟨⟨by simp;omega,by simp;omega⟩,h5,hb⟩
  ·unfold bN at h'
   rw[Nh rfl]at h';exact h'.2.2
 ·refine Nt ⟨h5,Nq fun h=>h5 ?_⟩
  unfold bN at h;rw[Nh rfl]at h;exact h.2.1
theorem EQ(g:Int)(u:Bool)(k b:Int)(w:MO) :
  Ni MK 192 #[Ny #[MF ME g,M3 u,MF ME k,MF ME b]] w fun r w'=>r=MN (M3 (Nn (¬bN (g,u,k,b))))/\MQ w.heap.size w w':=by
 have hc:=Db g u k b;revert hc;generalize Nn (¬bN (g,u,k,b))=ans;intro hc;rcases hc with⟨h1,rfl⟩|⟨h1,h2,rfl⟩|⟨h1,h2,h3,rfl⟩|⟨h1,h2,h3,hc⟩
 ·go_enter Rj,Q2
  go_wp2;go_ret;exact⟨rfl,bW w⟩
 ·go_enter Rj,Q2
  go_wp2;go_ret;exact⟨rfl,bW w⟩
 ·have HF:M6 _:=Nq h3
  clear h3;go_enter Rj,Q2
  go_wp2_with fail
  refine(lI g u k b _).mono ?_;rw[HF.out];rintro r w1 ⟨rfl,hb1⟩;have HB:M6 _:=(bW w).trans (hb1.mono (by simp));clear hb1;go_wp2;go_ret;exact⟨rfl,HB.out⟩
 ·have HF:M6 _:=M0 h3
  clear h3;obtain⟨W0,hW0⟩:∃W0,W0=w.alloc (MP #[MF ME g,M3 u,MF ME k,MF ME b] 174):=⟨_,rfl⟩;have hR:W0.heap[w.heap.size]?=MI (MP #[MF ME g,M3 u,MF ME k,MF ME b] 174 (0,0)):=by rw[hW0];exact M1 _ _
  have hB0:MQ w.heap.size w W0:=by rw[hW0];exact bW w
  go_enter Rj,Q2
  go_wp2_with fail
  rw[<-hW0];refine(lI g u k b _).mono ?_;rw[HF.out];rintro r w1 ⟨rfl,hb1⟩;have hR1:=af hR hb1;have HB:M6 _:=hB0.trans (hb1.mono hB0.size);have c0:w1.cell? ⟨w.heap.size,0,MH⟩=MI (MF ME g):=by simp[Nl,hR1]
  have c1:w1.cell? ⟨w.heap.size,1,MH⟩=MI (M3 u):=by simp[Nl,hR1]
  have c2:w1.cell? ⟨w.heap.size,2,MH⟩=MI (MF ME k):=by simp[Nl,hR1]
  have c3:w1.cell? ⟨w.heap.size,3,MH⟩=MI (MF ME b):=by simp[Nl,hR1]
  clear hb1 hR hR1 hB0 hW0;rcases hc with⟨rfl,rfl⟩|⟨rfl,⟨h4,rfl⟩|⟨h4,⟨h5,rfl⟩|⟨h5,hd⟩⟩⟩
  ·go_wp2
   go_ret;exact⟨rfl,HB.out⟩
  ·go_wp2
   go_ret;exact⟨rfl,HB.out⟩
  ·have HK:M6 _:=M0 h5
   clear h5
   go_wp2_with fail
   refine(kr _ _).mono ?_;rw[HK.out];rintro r w2 ⟨rfl,rfl⟩;go_wp2;go_ret;exact⟨rfl,HB.out⟩
  ·have HK:M6 _:=Nq h5
   have HD:M6 (ans = !(Nn (gD b))):=hd.trans decide_not;clear h5 hd
   go_wp2_with fail
   refine(kr _ _).mono ?_;rw[HK.out];rintro r w2 ⟨rfl,rfl⟩
   go_wp2_with fail
   refine(ka _ _).mono ?_;generalize Nn (gD b)=bb at *;rintro r w2 ⟨rfl,rfl⟩;go_wp2;go_ret;exact⟨by rw[HD.out];rfl,HB.out⟩
def bR(q:Sl->Bool):List Sl->Option Nat
 | []=>MH
 |t::l=>if q t then MI 0 else(bR q l).map (·+1)
theorem pj{q:Sl->Bool}:∀ {l:List Sl},(∀t∈l,q t=Nb)->bR q l=MH
 | [],_=>rfl
 |t::l,h=>by
  unfold bR;rw[h t (by simp),pj (l:=l) fun x hx=>h x (by simp[hx])];rfl
theorem oz{q:Sl->Bool}:∀ {l:List Sl} {k:Nat} (hk:k<l.length),(∀t∈l.take k,q t=Nb)->q l[k]=Nw->bR q l=MI k
 |t::l,0,_,_,h=>by
  unfold bR;rw[Nh (by simpa using h)]
 |t::l,k+1,hk,h1,h2=>by
  unfold bR;rw[Nf (by rw[h1 t (by simp)];simp),oz (l:=l) (k:=k) (by simpa using hk) (fun x hx=>h1 x (by simp[hx])) (by simpa using h2)];rfl
def mu(t:Sl):Bool:=Nn (¬bN t)
theorem xY(v:M7)(l:List Sl)(w:MO)(hv:bS w v l) :
  Ni MK 157 #[v,PB (PD 192) #[] #[]] w fun r w'=>r=MN (MF ME (bI (bR mu l)))/\MQ w.heap.size w w':=by
 obtain⟨q,hq0⟩:∃q,q=mu:=⟨_,rfl⟩;obtain⟨a,ca,rfl,hca,hma,pa⟩:=hv.F6;unfold NE at hma;have HQ:M6 (∀(g:Int) (u:Bool) (k b:Int) (W:MO),Ni MK 192 #[Ny #[MF ME g,M3 u,MF ME k,MF ME b]] W fun r w'=>r=MN (M3 (q (g,u,k,b)))/\MQ W.heap.size W w'):=by rw[hq0];exact fun g u k b W=>EQ g u k b W
 rw[<-hq0];obtain⟨ans,hans⟩:∃ans,ans=bI (bR q l):=⟨_,rfl⟩;rw[<-hans];have H:M6 _:=hans;clear hv hans hq0;go_enter Tryz.func157,Tryz.ntmps157;go_wp2
 go_loopw [8] (fun i wr=>∃k:Nat,i=MF ME k/\k<=l.length/\(∀t∈l.take k,q t=Nb)/\MQ w.heap.size w wr) (fun i _=>l.length-(On i).toNat)
 case atStart=>exact⟨0,rfl,Nx _,by simp,MY _ _⟩
 case round =>
  obtain⟨k,rfl,hk,hall,hbr⟩:=hrel
  by_cases hlt:k<l.length
  ·obtain⟨b1,o1,rfl,hb1,c1,c2,c3,c4⟩:=pa k hlt
   have e1:=(hbr.cell (p:=⟨b1,o1+k*4,MH⟩) hb1).trans c1;have e2:=(hbr.cell (p:=⟨b1,o1+k*4+1,MH⟩) hb1).trans c2;have e3:=(hbr.cell (p:=⟨b1,o1+k*4+2,MH⟩) hb1).trans c3;have e4:=(hbr.cell (p:=⟨b1,o1+k*4+3,MH⟩) hb1).trans c4;have HA:M6 (_/\_):=⟨hall,hbr⟩;have hkI:(k:Int)<(l.length:Int):=by omega
   have htk:l.take (k+1)=l.take k++[l[k]]:=M9 hlt;have hfs:q l[k]=Nw->bR q l=MI k:=fun h=>oz hlt hall h
   have hxk:∃x,x=l[k]:=⟨_,rfl⟩;obtain⟨⟨x1,x2,x3,x4⟩,hxk⟩:=hxk;rw[<-hxk]at e1 e2 e3 e4 htk hfs;have HX:M6 (_/\_):=⟨htk,hfs⟩;clear hall hbr c1 c2 c3 c4 hb1 pa htk hfs hxk;cases hd:q (x1,x2,x3,x4)
   ·go_wp2_with fail
    refine(HQ.out x1 x2 x3 x4 _).mono ?_;rw[hd];rintro r w2 ⟨rfl,hb2⟩;have H2:M6 _:=hb2;clear hb2;go_wp2
    go_roundw
    case rel =>
     refine⟨k+1,by simp,hlt,fun t ht=>?_,HA.out.2.trans (H2.out.mono HA.out.2.size)⟩;rw[HX.out.1]at ht;rcases List.mem_append.1 ht with ht|ht
     ·exact HA.out.1 t ht
     ·simp at ht
      rw[ht];exact hd
    case measure=>simp[On];omega
   ·go_wp2_with fail
    refine(HQ.out x1 x2 x3 x4 _).mono ?_;rw[hd];rintro r w2 ⟨rfl,hb2⟩;have HE:M6 (ans=(k:Int)):=by show ans=_;rw[H.out,HX.out.2 hd];rfl
    have H2:M6 _:=hb2;clear hb2;go_wp2;go_ret;exact⟨by rw[HE.out];rfl,HA.out.2.trans (H2.out.mono HA.out.2.size)⟩
  ·have HE:M6 (ans = -1):=by
    show ans=_;rw[H.out,pj fun t ht=>hall t (by rw[N1 (by omega)];exact ht)];rfl
   have HB:M6 _:=hbr;clear hall hbr pa;go_wp2;go_ret;exact⟨by rw[HE.out];rfl,HB.out⟩
def eY(t:Sl):Bool:=Nn (dQ t) && (t.1 != 1048576)
theorem Br(g:Int)(u:Bool)(k b:Int)(w:MO) :
  Ni MK 204 #[Ny #[MF ME g,M3 u,MF ME k,MF ME b]] w fun r w'=>r=MN (M3 (eY (g,u,k,b)))/\MQ w.heap.size w w':=by
 have ho:eY (g,u,k,b)=(Nn (dQ (g,u,k,b)) && (g != 1048576)):=rfl;obtain⟨ans,hans⟩:∃ans,ans=eY (g,u,k,b):=⟨_,rfl⟩;rw[<-hans];rw[<-hans]at ho;have H:M6 _:=ho;obtain⟨W0,hW0⟩:∃W0,W0=w.alloc (MP #[MF ME g,M3 u,MF ME k,MF ME b] 174):=⟨_,rfl⟩;have hR:W0.heap[w.heap.size]?=MI (MP #[MF ME g,M3 u,MF ME k,MF ME b] 174 (0,0)):=by rw[hW0];exact M1 _ _
 have hB0:MQ w.heap.size w W0:=by rw[hW0];exact bW w
 have H0:M6 (_/\_/\_):=⟨hW0,hR,hB0⟩;clear hans ho hW0 hR hB0;go_enter Tryz.func204,Tryz.ntmps204
 go_wp2_with fail
 rw[<-H0.out.1];refine(lI g u k b _).mono ?_;generalize Nn (dQ (g,u,k,b))=fr at *;rintro r w1 ⟨rfl,hb1⟩;have hR1:=af H0.out.2.1 hb1;have c0:w1.cell? ⟨w.heap.size,0,MH⟩=MI (MF ME g):=by simp[Nl,hR1]
 have HB:M6 _:=H0.out.2.2.trans (hb1.mono H0.out.2.2.size);clear hb1 hR1;cases fr
 ·go_wp2
  go_ret;exact⟨by rw[H.out];rfl,HB.out⟩
 ·go_wp2
  go_ret;exact⟨by rw[H.out];rfl,HB.out⟩
theorem tx(v:M7)(l:List Sl)(w:MO)(hv:bS w v l) :
  Ni MK 157 #[v,PB (PD 204) #[] #[]] w fun r w'=>r=MN (MF ME (bI (bR eY l)))/\MQ w.heap.size w w':=by
 obtain⟨q,hq0⟩:∃q,q=eY:=⟨_,rfl⟩;obtain⟨a,ca,rfl,hca,hma,pa⟩:=hv.F6;unfold NE at hma;have HQ:M6 (∀(g:Int) (u:Bool) (k b:Int) (W:MO),Ni MK 204 #[Ny #[MF ME g,M3 u,MF ME k,MF ME b]] W fun r w'=>r=MN (M3 (q (g,u,k,b)))/\MQ W.heap.size W w'):=by rw[hq0];exact fun g u k b W=>Br g u k b W
 rw[<-hq0];obtain⟨ans,hans⟩:∃ans,ans=bI (bR q l):=⟨_,rfl⟩;rw[<-hans];have H:M6 _:=hans;clear hv hans hq0;go_enter Tryz.func157,Tryz.ntmps157;go_wp2
 go_loopw [8] (fun i wr=>∃k:Nat,i=MF ME k/\k<=l.length/\(∀t∈l.take k,q t=Nb)/\MQ w.heap.size w wr) (fun i _=>l.length-(On i).toNat)
 case atStart=>exact⟨0,rfl,Nx _,by simp,MY _ _⟩
 case round =>
  obtain⟨k,rfl,hk,hall,hbr⟩:=hrel
  by_cases hlt:k<l.length
  ·obtain⟨b1,o1,rfl,hb1,c1,c2,c3,c4⟩:=pa k hlt
   have e1:=(hbr.cell (p:=⟨b1,o1+k*4,MH⟩) hb1).trans c1;have e2:=(hbr.cell (p:=⟨b1,o1+k*4+1,MH⟩) hb1).trans c2;have e3:=(hbr.cell (p:=⟨b1,o1+k*4+2,MH⟩) hb1).trans c3;have e4:=(hbr.cell (p:=⟨b1,o1+k*4+3,MH⟩) hb1).trans c4;have HA:M6 (_/\_):=⟨hall,hbr⟩;have hkI:(k:Int)<(l.length:Int):=by omega
   have htk:l.take (k+1)=l.take k++[l[k]]:=M9 hlt;have hfs:q l[k]=Nw->bR q l=MI k:=fun h=>oz hlt hall h
   have hxk:∃x,x=l[k]:=⟨_,rfl⟩;obtain⟨⟨x1,x2,x3,x4⟩,hxk⟩:=hxk;rw[<-hxk]at e1 e2 e3 e4 htk hfs;have HX:M6 (_/\_):=⟨htk,hfs⟩;clear hall hbr c1 c2 c3 c4 hb1 pa htk hfs hxk;cases hd:q (x1,x2,x3,x4)
   ·go_wp2_with fail
    refine(HQ.out x1 x2 x3 x4 _).mono ?_;rw[hd];rintro r w2 ⟨rfl,hb2⟩;have H2:M6 _:=hb2;clear hb2;go_wp2
    go_roundw
    case rel =>
     refine⟨k+1,by simp,hlt,fun t ht=>?_,HA.out.2.trans (H2.out.mono HA.out.2.size)⟩;rw[HX.out.1]at ht;rcases List.mem_append.1 ht with ht|ht
     ·exact HA.out.1 t ht
     ·simp at ht
      rw[ht];exact hd
    case measure=>simp[On];omega
   ·go_wp2_with fail
    refine(HQ.out x1 x2 x3 x4 _).mono ?_;rw[hd];rintro r w2 ⟨rfl,hb2⟩;have HE:M6 (ans=(k:Int)):=by show ans=_;rw[H.out,HX.out.2 hd];rfl
    have H2:M6 _:=hb2;clear hb2;go_wp2;go_ret;exact⟨by rw[HE.out];rfl,HA.out.2.trans (H2.out.mono HA.out.2.size)⟩
  ·have HE:M6 (ans = -1):=by
    show ans=_;rw[H.out,pj fun t ht=>hall t (by rw[N1 (by omega)];exact ht)];rfl
   have HB:M6 _:=hbr;clear hall hbr pa;go_wp2;go_ret;exact⟨by rw[HE.out];rfl,HB.out⟩
theorem qq{q:Sl->Bool}:∀ {l:List Sl},(0<=bI (bR q l))↔∃t∈l,q t=Nw
 | []=>by simp[bR,bI]
 |t::l=>by
  unfold bR;have ih:=qq (q:=q) (l:=l)
  by_cases h:q t=Nw
  ·rw[Nh h]
   exact⟨fun _=>⟨t,by simp,h⟩,fun _=>by show(0:Int)<=((0:Nat):Int);omega⟩
  ·rw[Nf h]
   constructor
   ·intro h1
    cases hf:bR q l with
    |none=>rw[hf]at h1;simp[bI]at h1
    |some k =>
     obtain⟨x,hx,hy⟩:=ih.1 (by rw[hf];show(0:Int)<=(k:Int);omega);exact⟨x,by simp[hx],hy⟩
   ·rintro⟨x,hx,hy⟩
    rcases List.mem_cons.1 hx with rfl|hx
    ·exact absurd hy h
    ·have:=ih.2 ⟨x,hx,hy⟩
     cases hf:bR q l with
     |none=>rw[hf]at this;simp[bI]at this
     |some k=>show(0:Int)<=((k+1:Nat):Int);omega
theorem ER(v:M7)(l:List Sl)(w:MO)(hv:bS w v l) :
  Ni MK 108 #[v,PB (PD 192) #[] #[]] w fun r w'=>r=MN (M3 (Nn (¬ ∀t∈l,bN t)))/\MQ w.heap.size w w':=by
 have HV:M6 _:=hv;have hd:Nn (¬ ∀t∈l,bN t)=Nn (0<=bI (bR mu l)):=by
  refine decide_eq_decide.2 ?_;rw[qq];constructor
  ·intro h
   refine PM fun hn=>h fun t ht=>PM fun ht2=>hn ⟨t,ht,Nq ht2⟩
  ·rintro⟨t,ht,h⟩ hall
   exact M2 h (hall t ht)
 rw[hd];obtain⟨ix,hix⟩:∃ix,ix=bI (bR mu l):=⟨_,rfl⟩;rw[<-hix];have HI:M6 _:=hix;clear hd hv hix;go_enter Tryz.func108,Tryz.ntmps108
 go_wp2_with fail
 refine(xY v l w HV.out).mono ?_;rw[<-HI.out];rintro r w1 ⟨rfl,hb⟩;have HB:M6 _:=hb;clear hb;go_wp2;go_ret;exact⟨rfl,HB.out⟩
abbrev ea(l:List Sl):Prop:=(1<=l.length/\l.length<=40)/\∀t∈l,bN t
theorem lZ(v:M7)(l:List Sl)(w:MO)(hv:bS w v l) :
  Ni MK 144 #[Ny #[v]] w fun r w'=>r=MN (MF ME (if ea l then 0 else 6))/\MQ w.heap.size w w':=by
 obtain⟨ans,hans⟩:∃ans:Int,ans=if ea l then 0 else 6:=⟨_,rfl⟩
 rw[<-hans];have H:M6 _:=hans;clear hans;obtain⟨p,c,rfl,hc,hm,_⟩:=hv.F6;unfold NE at hm;have HV:M6 _:=hv;clear hv;cases h1:Nn ((l.length:Int)<1)
 case true =>
  have E:M6 (ans=6):=by
   show ans=6;rw[H.out,Nf fun h=>by have:=h.1.1;have:=M2 h1;omega]
  go_enter Wu,Wj;go_wp2;go_ret;exact⟨by rw[E.out];rfl,bW w⟩
 cases h2:Nn (40<(l.length:Int))
 case true =>
  have E:M6 (ans=6):=by
   show ans=6;rw[H.out,Nf fun h=>by have:=h.1.2;have:=M2 h2;omega]
  go_enter Wu,Wj;go_wp2;go_ret;exact⟨by rw[E.out];rfl,bW w⟩
 obtain⟨bad,hbad⟩:∃bad,bad=Nn (¬ ∀t∈l,bN t):=⟨_,rfl⟩;have E:M6 (ans=if bad then 6 else 0):=by
  show ans=_;rw[H.out,hbad];have e1:=Nc h1;have e2:=Nc h2
  by_cases h:∀t∈l,bN t
  ·rw[Nh ⟨⟨by omega,by omega⟩,h⟩,M0 (by simpa using h)]
   rfl
  ·rw[Nf fun h'=>h h'.2,Nq h]
   rfl
 have HD:M6 _:=hbad;clear hbad H;go_enter Wu,Wj
 go_wp2_with fail
 refine(ER _ l _ (HV.out.below (bW w))).mono ?_;rw[<-HD.out];rintro r w1 ⟨rfl,hb⟩;have HB:M6 _:=(bW w).trans (hb.mono (by simp));clear hb HD;cases bad
 ·go_wp2
  go_ret;exact⟨by rw[E.out];rfl,HB.out⟩
 ·go_wp2
  go_ret;exact⟨by rw[E.out];rfl,HB.out⟩
def cC(l:List Sl)(s g:Int):Sl×Int :=
 if ¬ea l then((0,Nb,0,0),6)else if ¬(0<=s/\s<l.length)then((0,Nb,0,0),8)else
  let x:=l.getD s.toNat (0,Nb,0,0)
  if x.2.1=Nw/\x.1=g then(x,0)else((0,Nb,0,0),10)
theorem oc(h:bN x):¬dQ x↔x.2.1=true:=by
 unfold bN at h;unfold dQ
 by_cases hu:x.2.1=Nw
 ·simp[hu]
 ·rw[Nf hu]at h
  simp only[Qc]at hu;simp[hu,h.2.1,h.2.2]
def jB(x:Sl):Value:=Ny #[MF ME x.1,M3 x.2.1,MF ME x.2.2.1,MF ME x.2.2.2]
def wv(w:MO)(g:Nat)(a b c d:M7):Prop :=
 (w.cell? ⟨g,0,MH⟩=MI a/\w.cell? ⟨g,1,MH⟩=MI b/\w.cell? ⟨g,2,MH⟩=MI c/\w.cell? ⟨g,3,MH⟩=MI d)/\(w.frozen? ⟨g,0,MH⟩=Nb/\w.frozen? ⟨g,1,MH⟩=Nb/\w.frozen? ⟨g,2,MH⟩=Nb/\w.frozen? ⟨g,3,MH⟩=Nb)
theorem Di(h:w.heap[g]?=MI (MP #[a,b,c,d] T (0,0))):wv w g a b c d:=by
 unfold wv;simp[Nl,Ng,h]
theorem jX{a' b' c' d':M7}(h:w.heap[g]?=MI (MP #[a,b,c,d] T (0,0))):
  ((((w.setCell ⟨g,0,MH⟩ a').setCell ⟨g,1,MH⟩ b').setCell ⟨g,2,MH⟩ c').setCell ⟨g,3,MH⟩ d').heap[g]?=MI (MP #[a',b',c',d'] T (0,0)):=
 NI _ _ 3 _ _ d' (NI _ _ 2 _ _ c' (NI _ _ 1 _ _ b' (NI w g 0 _ _ a' h)))
theorem jU(h:MQ B w0 w)(hg:B<=g):MQ B w0 ((((w.setCell ⟨g,0,MH⟩ a).setCell ⟨g,1,MH⟩ b).setCell ⟨g,2,MH⟩ c).setCell ⟨g,3,MH⟩ d):=
 (((h.setCell hg _).setCell hg _).setCell hg _).setCell hg _
theorem pS{s g:Int}(hok:ea l)(h:s<0\/(l.length:Int)<=s):cC l s g=((0,Nb,0,0),8):=by
 unfold cC;rw[Nf (not_not_intro hok),Nh (by omega)]
theorem o9{g:Int}(hok:ea l)(hk:k<l.length)(hx:x=l[k]):cC l k g=if x.2.1=Nw/\x.1=g then(x,0)else((0,Nb,0,0),10):=by
 unfold cC;rw[Nf (not_not_intro hok),Nf (by omega)];have:l.getD (k:Int).toNat (0,Nb,0,0)=x:=by
  rw[NR,NK,MR hk,hx];rfl
 rw[this]
theorem qJ(v:M7)(l:List Sl)(s g:Int)(w:MO)(hv:bS w v l) :
  Ni MK 116 #[Ny #[v],Ny #[MF ME s,MF ME g]] w fun r w'=>r=MN (Nv #[jB (cC l s g).1,MF ME (cC l s g).2])/\MQ w.heap.size w w':=by
 obtain⟨p,c,rfl,hc,hm,pa⟩:=hv.F6;unfold NE at hm;obtain⟨W0,hW0⟩:∃W0,W0=((w.alloc (MP #[MG p l.length c] 38)).alloc (MP #[MF ME s,MF ME g] 97)).alloc (MP #[MF ME 0,M3 Nb,MF ME 0,MF ME 0] 174):=⟨_,rfl⟩;have hb0:MQ w.heap.size w W0:=by rw[hW0];exact(((MY _ _).alloc (MV _) _).alloc (by simp) _).alloc (by simp;omega) _
 have hT0:W0.heap[w.heap.size]?=MI (MP #[MG p l.length c] 38 (0,0)):=by rw[hW0];exact aN _ _ (aN _ _ (M1 _ _))
 have hH0:W0.heap[w.heap.size+1]?=MI (MP #[MF ME s,MF ME g] 97 (0,0)):=by rw[hW0];exact aN _ _ (bV _ _ _)
 have hS0:W0.heap[w.heap.size+1+1]?=MI (MP #[MF ME 0,M3 Nb,MF ME 0,MF ME 0] 174 (0,0)):=by rw[hW0];have:=M1 ((w.alloc (MP #[MG p l.length c] 38)).alloc (MP #[MF ME s,MF ME g] 97)) (MP #[MF ME 0,M3 Nb,MF ME 0,MF ME 0] 174);simpa using this
 have HV:M6 (_/\_/\_/\_/\_/\_):=⟨hv,hb0,hT0,hH0,hS0,hW0⟩;clear hv hb0 hT0 hH0 hS0 hW0;go_enter Tryz.func116,Tryz.ntmps116
 go_wp2_with fail
 rw[<-HV.out.2.2.2.2.2];refine(lZ _ l _ (HV.out.1.below HV.out.2.1)).mono ?_;rintro r w1 ⟨rfl,hb1⟩;have hS1:=af HV.out.2.2.2.2.1 hb1;have hT1:=af HV.out.2.2.1 hb1;have hH1:=af HV.out.2.2.2.1 hb1;have s0:w1.cell? ⟨w.heap.size+1+1,0,MH⟩=MI (MF ME 0):=by simp[Nl,hS1]
 have s1:w1.cell? ⟨w.heap.size+1+1,1,MH⟩=MI (M3 Nb):=by simp[Nl,hS1]
 have s2:w1.cell? ⟨w.heap.size+1+1,2,MH⟩=MI (MF ME 0):=by simp[Nl,hS1]
 have s3:w1.cell? ⟨w.heap.size+1+1,3,MH⟩=MI (MF ME 0):=by simp[Nl,hS1]
 have f0:w1.frozen? ⟨w.heap.size+1+1,0,MH⟩=false:=by simp[Ng,hS1]
 have f1:w1.frozen? ⟨w.heap.size+1+1,1,MH⟩=false:=by simp[Ng,hS1]
 have f2:w1.frozen? ⟨w.heap.size+1+1,2,MH⟩=false:=by simp[Ng,hS1]
 have f3:w1.frozen? ⟨w.heap.size+1+1,3,MH⟩=false:=by simp[Ng,hS1]
 have t0:=aM hT1;obtain⟨h0,h1,_⟩:=au hH1;have H1:M6 (_/\_/\_/\_):=⟨hb1,hS1,hT1,hH1⟩;clear hb1 hS1 hT1 hH1;have HB1:M6 _:=HV.out.2.1.trans (H1.out.1.mono HV.out.2.1.size)
 by_cases hok:ea l
 ·rw[Nh hok]
  by_cases hs0:s<0
  ·have HG:M6 _:=pS (g:=g) hok (Nt hs0)
   clear pa hok;go_wp2;exact Np (v:=Nv #[jB (0,Nb,0,0),MF ME 8]) (bp Ve rfl rfl (aI (P:=MK) (cs:=[MF ME 0,M3 Nb,MF ME 0,MF ME 0]) (jX H1.out.2.1) Vb rfl (by kernel_rfl))) rfl ⟨by rw[HG.out],jU HB1.out (by omega)⟩
  by_cases hs1:(l.length:Int)<=s
  ·have HG:M6 _:=pS (g:=g) hok (NF hs1)
   clear pa hok;go_wp2;exact Np (v:=Nv #[jB (0,Nb,0,0),MF ME 8]) (bp Ve rfl rfl (aI (P:=MK) (cs:=[MF ME 0,M3 Nb,MF ME 0,MF ME 0]) (jX H1.out.2.1) Vb rfl (by kernel_rfl))) rfl ⟨by rw[HG.out],jU HB1.out (by omega)⟩
  obtain⟨k,rfl⟩:=NL (a:=s) (by omega);have hk:k<l.length:=by omega
  have hkI:(k:Int)<(l.length:Int):=by omega
  obtain⟨b1,o1,rfl,hb1,c1,c2,c3,c4⟩:=pa k hk;have hbt:=HB1.out;have e1:=(hbt.cell (p:=⟨b1,o1+k*4,MH⟩) hb1).trans c1;have e2:=(hbt.cell (p:=⟨b1,o1+k*4+1,MH⟩) hb1).trans c2;have e3:=(hbt.cell (p:=⟨b1,o1+k*4+2,MH⟩) hb1).trans c3;have e4:=(hbt.cell (p:=⟨b1,o1+k*4+3,MH⟩) hb1).trans c4;obtain⟨⟨x1,x2,x3,x4⟩,hxk⟩:∃x,x=l[k]:=⟨_,rfl⟩;rw[<-hxk]at e1 e2 e3 e4;have hg:=o9 (g:=g) hok hk hxk;have hfr:=oc (hok.2 l[k] (Nk hk));rw[<-hxk]at hfr;have HG:M6 (_/\_):=⟨hg,hfr⟩;obtain⟨W2,hW2⟩:∃W2,W2=w1.alloc (MP #[MF ME x1,M3 x2,MF ME x3,MF ME x4] 174):=⟨_,rfl⟩;have hX2:W2.heap[w1.heap.size]?=MI (MP #[MF ME x1,M3 x2,MF ME x3,MF ME x4] 174 (0,0)):=by rw[hW2];exact M1 _ _
  have hb2:MQ w1.heap.size w1 W2:=by rw[hW2];exact bW w1
  have H2:M6 (_/\_/\_):=⟨hW2,hX2,hb2⟩;clear hg hfr hxk hok pa c1 c2 c3 c4 hb1 hs0 hs1 hbt hW2 hX2 hb2
  go_wp2_with fail
  rw[<-H2.out.1];refine(lI x1 x2 x3 x4 _).mono ?_;rintro r w3 ⟨rfl,hb3⟩;have hX3:=af H2.out.2.1 hb3;have hb23:=H2.out.2.2.trans (hb3.mono H2.out.2.2.size);have hS3:=af H1.out.2.1 hb23;have hH3:=af H1.out.2.2.2 hb23;have u0:w3.cell? ⟨w.heap.size+1+1,0,MH⟩=MI (MF ME 0):=by simp[Nl,hS3]
  have u1:w3.cell? ⟨w.heap.size+1+1,1,MH⟩=MI (M3 Nb):=by simp[Nl,hS3]
  have u2:w3.cell? ⟨w.heap.size+1+1,2,MH⟩=MI (MF ME 0):=by simp[Nl,hS3]
  have u3:w3.cell? ⟨w.heap.size+1+1,3,MH⟩=MI (MF ME 0):=by simp[Nl,hS3]
  have v0:w3.frozen? ⟨w.heap.size+1+1,0,MH⟩=false:=by simp[Ng,hS3]
  have v1:w3.frozen? ⟨w.heap.size+1+1,1,MH⟩=false:=by simp[Ng,hS3]
  have v2:w3.frozen? ⟨w.heap.size+1+1,2,MH⟩=false:=by simp[Ng,hS3]
  have v3:w3.frozen? ⟨w.heap.size+1+1,3,MH⟩=false:=by simp[Ng,hS3]
  have z0:w3.cell? ⟨w1.heap.size,0,MH⟩=MI (MF ME x1):=by simp[Nl,hX3]
  have z1:w3.cell? ⟨w1.heap.size,1,MH⟩=MI (M3 x2):=by simp[Nl,hX3]
  have z2:w3.cell? ⟨w1.heap.size,2,MH⟩=MI (MF ME x3):=by simp[Nl,hX3]
  have z3:w3.cell? ⟨w1.heap.size,3,MH⟩=MI (MF ME x4):=by simp[Nl,hX3]
  obtain⟨y0,y1,_⟩:=au hH3;have HB3:M6 _:=HB1.out.trans (hb23.mono HB1.out.size);have HS3:M6 _:=hS3;clear hX3 hb3 hb23 hS3 hH3 s0 s1 s2 s3 f0 f1 f2 f3 t0 h0 h1 e1 e2 e3 e4
  by_cases hfr:dQ (x1,x2,x3,x4)
  ·have hd:=Nq hfr
   have hg:cC l k g=((0,Nb,0,0),10):=by
    rw[HG.out.1,Nf fun h=>(HG.out.2.2 h.1) hfr]
   have HE:M6 _:=hg;rw[hd];clear hg hd hfr;go_wp2;exact Np (v:=Nv #[jB (0,Nb,0,0),MF ME 10]) (bp Ve rfl rfl (aI (P:=MK) (cs:=[MF ME 0,M3 Nb,MF ME 0,MF ME 0]) (jX HS3.out) Vb rfl (by kernel_rfl))) rfl ⟨by rw[HE.out],jU HB3.out (by omega)⟩
  ·have hd:=M0 hfr
   rw[hd];have hu:=HG.out.2.1 hfr;cases hgn:(x1 != g)
   ·have hg:cC l k g=((x1,x2,x3,x4),0):=by
     rw[HG.out.1,Nh ⟨hu,by simpa using hgn⟩]
    have HE:M6 _:=hg;clear hg hd hfr hu;go_wp2;exact Np (v:=Nv #[jB (x1,x2,x3,x4),MF ME 0]) (bp Ve rfl rfl (aI (P:=MK) (cs:=[MF ME x1,M3 x2,MF ME x3,MF ME x4]) (jX HS3.out) Vb rfl (by kernel_rfl))) rfl ⟨by rw[HE.out],jU HB3.out (by omega)⟩
   ·have hg:cC l k g=((0,Nb,0,0),10):=by
     rw[HG.out.1,Nf fun h=>by have:=h.2;simp at hgn;exact hgn this]
    have HE:M6 _:=hg;clear hg hd hfr hu;go_wp2;exact Np (v:=Nv #[jB (0,Nb,0,0),MF ME 10]) (bp Ve rfl rfl (aI (P:=MK) (cs:=[MF ME 0,M3 Nb,MF ME 0,MF ME 0]) (jX HS3.out) Vb rfl (by kernel_rfl))) rfl ⟨by rw[HE.out],jU HB3.out (by omega)⟩
 ·rw[Nf hok]
  have hg:cC l s g=((0,Nb,0,0),6):=by unfold cC;rw[Nh hok]
  have HG:M6 _:=hg;clear hg pa;go_wp2;exact Np (v:=Nv #[jB (0,Nb,0,0),MF ME 6]) (bp Ve rfl rfl (aI (P:=MK) (cs:=[MF ME 0,M3 Nb,MF ME 0,MF ME 0]) (jX H1.out.2.1) Vb rfl (by kernel_rfl))) rfl ⟨by rw[HG.out],jU HB1.out (by omega)⟩
theorem CT(v:M7)(l:List Sl)(w:MO)(hv:bS w v l)(h0:0<l.length)(hl:l.length<=1048576) :
  Ni MK 96 #[v] w fun r w'=>∃g c,r=MN (MG (MI ⟨g,0,MH⟩) l.length c)/\w'.ownsRow w.heap.size 174 4 (MG (MI ⟨g,0,MH⟩) l.length c) l.length (aW l)/\MQ w.heap.size w w':=by
 obtain⟨a,cap,rfl,hc,hm,h⟩:=hv;rcases h with⟨h,_⟩|⟨b,off,rfl,hb,hcell⟩
 ·omega
 ·obtain⟨i0,hi,hz0,hz1,hz2⟩:=OF vE
  have hnews:∀j u,(aW l)[j]?=MI u->(w.alloc (MP #[] 174)).cell? ((⟨b,off,MH⟩:Oc).add j)=MI u:=fun j u hu=>by
   have hj:=(List.getElem?_eq_some_iff.1 hu).1;rw[eJ,(bW w).cell (p:=⟨b,off+j,MH⟩) hb,hcell j hj,hu]
  have H0:M6 _:=hnews;have hnil:∀W,(binOp .eql 36 (MG (MI ⟨b,off,MH⟩) l.length cap) (MG MH 0 0)).run MK W=.ok (M3 Nb) W:=fun W=>by kernel_rfl
  clear hnews hcell;go_enter UY,UV
  go_wp2_with (first|(at_builtin;refine O9 _ rfl _ _ 36 rfl w.heap.size 174 i0 _ 4 32 RC hi hz0 hz1 hz2 rfl (by decide) (MG (MI ⟨w.heap.size,0,MH⟩) 0 0) 0 [] rfl (o7 (M1 _ _) (MV _)) ⟨b,off,MH⟩ l.length cap (aW l) rfl (iP l) H0.out (BV l) h0 (by unfold NE;omega) (by omega) (by simp) _ rfl ?_;intro g' c' w2 hown2 hg2 hlies hlt2))
  go_wp2;go_ret;refine⟨g',c',by simp,?_,?_⟩
  ·rw[Oa,Oz]at hown2
   exact hown2
  ·exact(bW w).grown hg2 (by simp) (fun j e=>by cases e;exact MV _)
theorem Dh{n cap:Nat}(h:w.ownsRow base 174 4 (MG (MI ⟨g,0,MH⟩) n cap) n (aW l))(i:Nat)(x:Sl):
  ((((w.setCell ⟨g,i*4,MH⟩ (MF ME x.1)).setCell ⟨g,i*4+1,MH⟩ (M3 x.2.1)).setCell ⟨g,i*4+2,MH⟩ (MF ME x.2.2.1)).setCell ⟨g,i*4+3,MH⟩ (MF ME x.2.2.2)).ownsRow base 174 4 (MG (MI ⟨g,0,MH⟩) n cap) n (aW (l.set i x)):=by
 have h1:=((((h.stored (i*4) (MF ME x.1)).1.stored (i*4+1) (M3 x.2.1)).1.stored (i*4+2) (MF ME x.2.2.1)).1.stored (i*4+3) (MF ME x.2.2.2)).1;rw[tY]at h1;exact h1
theorem xn{o:Nat}(h:MQ B w0 w)(hg:B<=g):MQ B w0 ((((w.setCell ⟨g,o,MH⟩ a).setCell ⟨g,o+1,MH⟩ b).setCell ⟨g,o+2,MH⟩ c).setCell ⟨g,o+3,MH⟩ d):=
 (((h.setCell hg _).setCell hg _).setCell hg _).setCell hg _
theorem A7{h o:Nat}{ob:Obj}(hh:w.heap[h]?=MI ob)(hne:h≠g):((((w.setCell ⟨g,o,MH⟩ a).setCell ⟨g,o+1,MH⟩ b).setCell ⟨g,o+2,MH⟩ c).setCell ⟨g,o+3,MH⟩ d).heap[h]?=MI ob:=by
 rw[MU _ _ _ _ (by simpa using hne),MU _ _ _ _ (by simpa using hne),MU _ _ _ _ (by simpa using hne),MU _ _ _ _ (by simpa using hne)];exact hh
theorem iL(h:w.heap[g]?=MI (MP #[u] T (0,0))):(w.setCell ⟨g,0,MH⟩ v).heap[g]?=MI (MP #[v] T (0,0)):=by
 have:=NI w g 0 _ _ v h
 simpa using this
theorem ri(v:M7)(l:List Sl)(i:Nat)(x1:Int)(x2:Bool)(x3 x4:Int)(w:MO)(hv:bS w v l)(hi:i<l.length)(hl:l.length<=40) :
  Ni MK 205 #[Ny #[v],MF ME i,Ny #[MF ME x1,M3 x2,MF ME x3,MF ME x4]] w fun r w'=>∃p c,r=MN (Ny #[MG p l.length c])/\w'.ownsRow w.heap.size 174 4 (MG p l.length c) l.length (aW (l.set i (x1,x2,x3,x4)))/\MQ w.heap.size w w':=by
 obtain⟨p,c,rfl,_⟩:=hv.F6;obtain⟨W0,hW0⟩:∃W0,W0=((w.alloc (MP #[MG p l.length c] 38)).alloc (MP #[MF ME x1,M3 x2,MF ME x3,MF ME x4] 174)).alloc (MP #[MG MH 0 0] 38):=⟨_,rfl⟩;have hb0:MQ w.heap.size w W0:=by rw[hW0];exact(((MY _ _).alloc (MV _) _).alloc (by simp) _).alloc (by simp;omega) _
 have hS0:W0.heap[w.heap.size+1]?=MI (MP #[MF ME x1,M3 x2,MF ME x3,MF ME x4] 174 (0,0)):=by rw[hW0];exact aN _ _ (bV _ _ _)
 have hR0:W0.heap[w.heap.size+1+1]?=MI (MP #[MG MH 0 0] 38 (0,0)):=by rw[hW0];have:=M1 ((w.alloc (MP #[MG p l.length c] 38)).alloc (MP #[MF ME x1,M3 x2,MF ME x3,MF ME x4] 174)) (MP #[MG MH 0 0] 38);simpa using this
 have hs0:W0.heap.size=w.heap.size+3:=by rw[hW0];simp
 have HV:M6 (_/\_/\_/\_/\_/\_):=⟨hv,hb0,hS0,hR0,hs0,hW0⟩;clear hv hb0 hS0 hR0 hs0 hW0;go_enter Rl,Q5
 go_wp2_with fail
 rw[<-HV.out.2.2.2.2.2];refine(CT _ l _ (HV.out.1.below HV.out.2.1) (by omega) (by omega)).mono ?_;rintro r w1 ⟨g,c1,rfl,ho,hb1⟩;have hS1:=af HV.out.2.2.1 hb1;have hR1:=af HV.out.2.2.2.1 hb1;obtain⟨⟨j0,j1,j2,j3⟩,_⟩:=Di hS1;have hcR:=aM hR1;have hfR:w1.frozen? ⟨w.heap.size+1+1,0,MH⟩=false:=by simp[Ng,hR1]
 have ht:=jv l i hi;have c0:=(ho.cellAt (i*4) (by omega)).trans ht.1;have c1':=(ho.cellAt (i*4+1) (by omega)).trans ht.2.1;have c2:=(ho.cellAt (i*4+2) (by omega)).trans ht.2.2.1;have c3:=(ho.cellAt (i*4+3) (by omega)).trans ht.2.2.2;have f0:=ho.frozenAt (i*4);have f1:=ho.frozenAt (i*4+1);have f2:=ho.frozenAt (i*4+2);have f3:=ho.frozenAt (i*4+3);generalize l[i].1=y1 at c0;generalize l[i].2.1=y2 at c1';generalize l[i].2.2.1=y3 at c2;generalize l[i].2.2.2=y4 at c3;have hiI:(i:Int)<(l.length:Int):=by omega
 have hgl:=(ho.lt g rfl).2;have hgb:=(ho.lt g rfl).1;rw[HV.out.2.2.2.2.1]at hgb;have hneg:¬(w.heap.size+1+1=g):=by omega
 have hneg2:¬(w.heap.size+1=g):=by omega
 have H1:M6 (_/\_/\_):=⟨ho,hb1,hR1⟩;clear ht hS1 hR1 ho hb1;go_wp2;obtain⟨ho,hb1,hR1⟩:=H1.out;have hR2:=A7 (o:=i*4) (a:=MF ME x1) (b:=M3 x2) (c:=MF ME x3) (d:=MF ME x4) hR1 hneg;have hR3:=iL (v:=MG (MI ⟨g,0,MH⟩) l.length c1) hR2;have ho2:=Dh ho i (x1,x2,x3,x4);have hb2:=HV.out.2.1.trans (hb1.mono HV.out.2.1.size);have hs0:=HV.out.2.2.2.2.1;refine Np (v:=Ny #[MG (MI ⟨g,0,MH⟩) l.length c1]) (ey Tryz.results205 rfl (aI (P:=MK) (cs:=[MG (MI ⟨g,0,MH⟩) l.length c1]) hR3 UZ rfl (by kernel_rfl))) rfl ⟨_,_,rfl,?_,?_⟩
 ·exact(aw ho2 (fun g' hg'=>MU _ _ _ _ (by have:=(ho2.lt g' hg').1;simp;omega))).mono (by omega)
 ·exact(xn hb2 (by omega)).setCell (by simp;omega) _
def oJ(m:List Sl)(e:Int)(w:MO)(r:Ending)(w':MO):Prop :=
 ∃p c,r=MN (Nv #[Ny #[MG p m.length c],MF ME e])/\w'.ownsRow w.heap.size 174 4 (MG p m.length c) m.length (aW m)/\MQ w.heap.size w w'
def ed(l:List Sl)(s g:Int):List Sl×Int :=
 if(cC l s g).2=0 then(l.set s.toNat ((cC l s g).1.1+1,Nb,0,0),0)else([],(cC l s g).2)
theorem qz{s g:Int}(h:cC l s g=(x,0)):ea l/\∃k:Nat,s=k/\∃hk:k<l.length,x=l[k]/\x.2.1=Nw/\x.1=g:=by
 by_cases hok:ea l
 ·refine⟨hok,?_⟩
  by_cases hs:0<=s/\s<l.length
  ·obtain⟨k,rfl⟩:=NL hs.1
   have hk:k<l.length:=by omega
   rw[o9 (x:=l[k]) hok hk rfl]at h
   split at h
   ·rename_i hh
    injection h with h1 h2;subst h1;exact⟨k,rfl,hk,rfl,hh.1,hh.2⟩
   ·injection h with h1 h2
    cases h2
  ·rw[pS hok (by omega)]at h
   injection h with h1 h2;cases h2
 ·unfold cC at h
  rw[Nh hok]at h;injection h with h1 h2;cases h2
theorem uC(h:bN x)(hu:x.2.1=Nw):0<=x.1/\x.1<=1048575:=by
 unfold bN at h;rw[Nh hu]at h;exact h.1
theorem Ck(v:M7)(l:List Sl)(s g:Int)(w:MO)(hv:bS w v l) :
  Ni MK 168 #[Ny #[v],Ny #[MF ME s,MF ME g]] w (oJ (ed l s g).1 (ed l s g).2 w):=by
 obtain⟨p,c,rfl,hc,hm,_⟩:=hv.F6;unfold NE at hm;obtain⟨W0,hW0⟩:∃W0,W0=((w.alloc (MP #[MG p l.length c] 38)).alloc (MP #[MF ME s,MF ME g] 97)).alloc (MP #[MG MH 0 0] 38):=⟨_,rfl⟩;have hb0:MQ w.heap.size w W0:=by rw[hW0];exact(((MY _ _).alloc (MV _) _).alloc (by simp) _).alloc (by simp;omega) _
 have hT0:W0.heap[w.heap.size]?=MI (MP #[MG p l.length c] 38 (0,0)):=by rw[hW0];exact aN _ _ (aN _ _ (M1 _ _))
 have hH0:W0.heap[w.heap.size+1]?=MI (MP #[MF ME s,MF ME g] 97 (0,0)):=by rw[hW0];exact aN _ _ (bV _ _ _)
 have hR0:W0.heap[w.heap.size+1+1]?=MI (MP #[MG MH 0 0] 38 (0,0)):=by rw[hW0];have:=M1 ((w.alloc (MP #[MG p l.length c] 38)).alloc (MP #[MF ME s,MF ME g] 97)) (MP #[MG MH 0 0] 38);simpa using this
 have hs0:W0.heap.size=w.heap.size+3:=by rw[hW0];simp
 have HV:M6 (_/\_/\_/\_/\_/\_/\_):=⟨hv,hb0,hT0,hH0,hR0,hs0,hW0⟩;clear hv hb0 hT0 hH0 hR0 hs0 hW0;obtain⟨⟨x1,x2,x3,x4⟩,e,hx⟩:∃x e,cC l s g=(x,e):=⟨_,_,rfl⟩;have hGt:M6 (∀W y,bS W y l->Ni MK 116 #[Ny #[y],Ny #[MF ME s,MF ME g]] W fun r w'=>r=MN (Nv #[Ny #[MF ME x1,M3 x2,MF ME x3,MF ME x4],MF ME e])/\MQ W.heap.size W w'):=fun W y hy=>by
  have:=qJ y l s g W hy;rw[hx]at this;exact this
 have hX:M6 _:=hx;clear hx;go_enter SS,Sw
 go_wp2_with fail
 rw[<-HV.out.2.2.2.2.2.2];refine(hGt.out _ _ (HV.out.1.below HV.out.2.1)).mono ?_;rintro r w1 ⟨rfl,hb1⟩;have hT1:=af HV.out.2.2.1 hb1;have hR1:=af HV.out.2.2.2.2.1 hb1;have t0:=aM hT1;have r0:=aM hR1;have rf:w1.frozen? ⟨w.heap.size+1+1,0,MH⟩=false:=by simp[Ng,hR1]
 obtain⟨h0,h1,_⟩:=au (af HV.out.2.2.2.1 hb1);have hb01:=HV.out.2.1.trans (hb1.mono HV.out.2.1.size);have hl1:w.heap.size+1+1<w1.heap.size:=by have:=hb1.size;have:=HV.out.2.2.2.2.2.1;omega
 have hl2:w.heap.size<w1.heap.size:=by omega
 have hl3:w.heap.size+1<w1.heap.size:=by omega
 have H1:M6 (_/\_/\_):=⟨hT1,hR1,hb01⟩;clear hT1 hR1 hb01 hb1;obtain⟨W2,hW2⟩:∃W2,W2=w1.alloc (MP #[MF ME x1,M3 x2,MF ME x3,MF ME x4] 174):=⟨_,rfl⟩;have hb2:MQ w1.heap.size w1 W2:=by rw[hW2];exact bW w1
 have hR2:=af H1.out.2.1 hb2;have hb02:=H1.out.2.2.trans (hb2.mono H1.out.2.2.size)
 by_cases he:e=0
 ·subst he
  obtain⟨hok,k,rfl,hk,hxk,hu,hg⟩:=qz hX.out;have hbd:=uC (hok.2 _ (Nk hk)) (by rw[<-hxk];exact hu);rw[<-hxk]at hbd;have hl40:=hok.1.2;have hout:ed l k g=(l.set k (x1+1,Nb,0,0),0):=by unfold ed;rw[hX.out];simp
  have hw1:(-9223372036854775808:Int)<=x1+1:=by have:=hbd.1;simp at this;omega
  have hw2:x1+1<=(9223372036854775807:Int):=by have:=hbd.2;simp at this;omega
  have HO:M6 (_/\_/\_/\_):=⟨hout,hW2,hR2,hb02⟩;have hWi:M6 (∀W y,bS W y l->Ni MK 205 #[Ny #[y],MF ME k,Ny #[MF ME (x1+1),M3 Nb,MF ME 0,MF ME 0]] W fun r w'=>∃p c,r=MN (Ny #[MG p l.length c])/\w'.ownsRow W.heap.size 174 4 (MG p l.length c) l.length (aW (l.set k (x1+1,Nb,0,0)))/\MQ W.heap.size W w'):=fun W y hy=>ri y l k (x1+1) Nb 0 0 W hy hk hl40
  have hb2s:=hb02.size;clear hok hxk hu hg hbd hout hW2 hR2 hb02
  go_wp2_with fail
  rw[<-HO.out.2.1];refine(hWi.out _ _ ((HV.out.1.below HO.out.2.2.2))).mono ?_;rintro r w3 ⟨q,d,rfl,ho3,hb3⟩;have hR3:=af HO.out.2.2.1 hb3;have r3:=aM hR3;have rf3:w3.frozen? ⟨w.heap.size+1+1,0,MH⟩=false:=by simp[Ng,hR3]
  have hb03:=HO.out.2.2.2.trans (hb3.mono HO.out.2.2.2.size);have ho3':(w3.setCell ⟨w.heap.size+1+1,0,MH⟩ (MG q l.length d)).ownsRow w.heap.size 174 4 (MG q l.length d) l.length (aW (l.set k (x1+1,Nb,0,0))):=
   (aw ho3 (fun g' hg'=>MU _ _ _ _ (by have:=(ho3.lt g' hg').1;have h2:=hb2.size;simp;omega))).mono (by omega)
  have H3:M6 (_/\_/\_):=⟨iL (v:=MG q l.length d) hR3,ho3',(show MQ w.heap.size w (w3.setCell ⟨w.heap.size+1+1,0,MH⟩ (MG q l.length d))from hb03.setCell (by simp;omega) _)⟩;clear hR3 ho3 ho3' hb3 hb03 t0 r0 rf h0 h1;go_wp2;refine Np (v:=Nv #[Ny #[MG q l.length d],MF ME 0]) (bp Tryz.results168 rfl rfl (aI (P:=MK) (cs:=[MG q l.length d]) H3.out.1 UZ rfl (by kernel_rfl))) rfl ?_;rw[HO.out.1];refine⟨q,d,?_,?_,H3.out.2.2⟩
  ·simp
  ·simpa using H3.out.2.1
 ·have hout:ed l s g=([],e):=by unfold ed;rw[hX.out];simp[he]
  have hne:(e != 0)=true:=by simpa using he
  have H3:M6 (_/\_/\_):=⟨aN _ (MP #[MF ME x1,M3 x2,MF ME x3,MF ME x4] 174) (iL (v:=MG MH 0 0) H1.out.2.1),(show MQ w.heap.size w ((w1.setCell ⟨w.heap.size+1+1,0,MH⟩ (MG MH 0 0)).alloc (MP #[MF ME x1,M3 x2,MF ME x3,MF ME x4] 174))from(H1.out.2.2.setCell (by simp;omega) _).alloc (by simp;omega) _),hout⟩;clear hR2 hb02 hb2 hout hW2 he;go_wp2;refine Np (v:=Nv #[Ny #[MG MH 0 0],MF ME e]) (bp Tryz.results168 rfl rfl (aI (P:=MK) (cs:=[MG MH 0 0]) H3.out.1 UZ rfl (by kernel_rfl))) rfl ?_;rw[H3.out.2.2];exact⟨MH,0,rfl,NY _ _ _ _,H3.out.2.1⟩
def db(l:List Sl)(s g bk:Int):List Sl×Int :=
 if(cC l s g).2=0 then(if gD bk then(l.set s.toNat ((cC l s g).1.1,Nw,(cC l s g).1.2.2.1,bk),0)else([],2))else([],(cC l s g).2)
theorem zj(v:M7)(l:List Sl)(s g bk:Int)(w:MO)(hv:bS w v l) :
  Ni MK 216 #[Ny #[v],Ny #[MF ME s,MF ME g],MF ME bk] w (oJ (db l s g bk).1 (db l s g bk).2 w):=by
 obtain⟨p,c,rfl,hc,hm,_⟩:=hv.F6;unfold NE at hm;obtain⟨W0,hW0⟩:∃W0,W0=((w.alloc (MP #[MG p l.length c] 38)).alloc (MP #[MF ME s,MF ME g] 97)).alloc (MP #[MG MH 0 0] 38):=⟨_,rfl⟩;have hb0:MQ w.heap.size w W0:=by rw[hW0];exact(((MY _ _).alloc (MV _) _).alloc (by simp) _).alloc (by simp;omega) _
 have hT0:W0.heap[w.heap.size]?=MI (MP #[MG p l.length c] 38 (0,0)):=by rw[hW0];exact aN _ _ (aN _ _ (M1 _ _))
 have hH0:W0.heap[w.heap.size+1]?=MI (MP #[MF ME s,MF ME g] 97 (0,0)):=by rw[hW0];exact aN _ _ (bV _ _ _)
 have hR0:W0.heap[w.heap.size+1+1]?=MI (MP #[MG MH 0 0] 38 (0,0)):=by rw[hW0];have:=M1 ((w.alloc (MP #[MG p l.length c] 38)).alloc (MP #[MF ME s,MF ME g] 97)) (MP #[MG MH 0 0] 38);simpa using this
 have hs0:W0.heap.size=w.heap.size+3:=by rw[hW0];simp
 have HV:M6 (_/\_/\_/\_/\_/\_/\_):=⟨hv,hb0,hT0,hH0,hR0,hs0,hW0⟩;clear hv hb0 hT0 hH0 hR0 hs0 hW0;obtain⟨⟨x1,x2,x3,x4⟩,e,hx⟩:∃x e,cC l s g=(x,e):=⟨_,_,rfl⟩;have hGt:M6 (∀W y,bS W y l->Ni MK 116 #[Ny #[y],Ny #[MF ME s,MF ME g]] W fun r w'=>r=MN (Nv #[Ny #[MF ME x1,M3 x2,MF ME x3,MF ME x4],MF ME e])/\MQ W.heap.size W w'):=fun W y hy=>by
  have:=qJ y l s g W hy;rw[hx]at this;exact this
 have hX:M6 _:=hx;clear hx;go_enter Tryz.func216,Tryz.ntmps216
 go_wp2_with fail
 rw[<-HV.out.2.2.2.2.2.2];refine(hGt.out _ _ (HV.out.1.below HV.out.2.1)).mono ?_;rintro r w1 ⟨rfl,hb1⟩;have hT1:=af HV.out.2.2.1 hb1;have hR1:=af HV.out.2.2.2.2.1 hb1;have t0:=aM hT1;have r0:=aM hR1;have rf:w1.frozen? ⟨w.heap.size+1+1,0,MH⟩=false:=by simp[Ng,hR1]
 obtain⟨h0,h1,_⟩:=au (af HV.out.2.2.2.1 hb1);have hb01:=HV.out.2.1.trans (hb1.mono HV.out.2.1.size);have hl1:w.heap.size+1+1<w1.heap.size:=by have:=hb1.size;have:=HV.out.2.2.2.2.2.1;omega
 have hl2:w.heap.size<w1.heap.size:=by omega
 have hl3:w.heap.size+1<w1.heap.size:=by omega
 have H1:M6 (_/\_/\_):=⟨hT1,hR1,hb01⟩;clear hT1 hR1 hb01 hb1;obtain⟨W2,hW2⟩:∃W2,W2=w1.alloc (MP #[MF ME x1,M3 x2,MF ME x3,MF ME x4] 174):=⟨_,rfl⟩;have hb2:MQ w1.heap.size w1 W2:=by rw[hW2];exact bW w1
 have hR2:=af H1.out.2.1 hb2;have hb02:=H1.out.2.2.trans (hb2.mono H1.out.2.2.size)
 by_cases he:e=0
 ·subst he
  obtain⟨hok,k,rfl,hk,hxk,hu,hg⟩:=qz hX.out;have hbd:=uC (hok.2 _ (Nk hk)) (by rw[<-hxk];exact hu);rw[<-hxk]at hbd;have hl40:=hok.1.2;have HO:M6 (_/\_/\_):=⟨hW2,hR2,hb02⟩;have hb2s:=hb02.size;have hx2:x2=true:=hu;subst hx2;clear hok hxk hu hg hbd hW2 hR2 hb02;cases hbk:Nn (gD bk)
  ·have hout:db l k g bk=([],2):=by
    unfold db;rw[hX.out,Nh rfl,Nf (id (Nc hbk))]
   have H3:M6 (_/\_/\_):=⟨aN _ (MP #[MF ME x1,M3 Nw,MF ME x3,MF ME x4] 174) (iL (v:=MG MH 0 0) H1.out.2.1),(show MQ w.heap.size w ((w1.setCell ⟨w.heap.size+1+1,0,MH⟩ (MG MH 0 0)).alloc (MP #[MF ME x1,M3 Nw,MF ME x3,MF ME x4] 174))from(H1.out.2.2.setCell (by simp;omega) _).alloc (by simp;omega) _),hout⟩;clear hout hb2
   go_wp2_with fail
   refine(ka _ _).mono ?_;rw[hbk];rintro r w4 ⟨rfl,rfl⟩;go_wp2;refine Np (v:=Nv #[Ny #[MG MH 0 0],MF ME 2]) (bp VY rfl rfl (aI (P:=MK) (cs:=[MG MH 0 0]) H3.out.1 UZ rfl (by kernel_rfl))) rfl ?_;rw[H3.out.2.2];exact⟨MH,0,rfl,NY _ _ _ _,H3.out.2.1⟩
  have hout:db l k g bk=(l.set k (x1,Nw,x3,bk),0):=by
   unfold db;rw[hX.out,Nh rfl,Nh (id (M2 hbk))];simp
  have hWi:M6 (∀W y,bS W y l->Ni MK 205 #[Ny #[y],MF ME k,Ny #[MF ME x1,M3 Nw,MF ME x3,MF ME bk]] W fun r w'=>∃p c,r=MN (Ny #[MG p l.length c])/\w'.ownsRow W.heap.size 174 4 (MG p l.length c) l.length (aW (l.set k (x1,Nw,x3,bk)))/\MQ W.heap.size W w'):=fun W y hy=>ri y l k x1 Nw x3 bk W hy hk hl40
  have HU:M6 _:=hout;clear hout;obtain⟨W4,hW4⟩:∃W4,W4=w1.alloc (MP #[MF ME x1,M3 Nw,MF ME x3,MF ME bk] 174):=⟨_,rfl⟩;have hb4:MQ w1.heap.size w1 W4:=by rw[hW4];exact bW w1
  have hR4:=af H1.out.2.1 hb4;have hb04:=H1.out.2.2.trans (hb4.mono H1.out.2.2.size);have H4:M6 (_/\_/\_):=⟨hW4,hR4,hb04⟩;have hb4s:=hb4.size;clear hW4 hR4 hb04 hb4 hb2 HO hb2s
  go_wp2_with fail
  refine(ka _ _).mono ?_;rw[hbk];rintro r w4 ⟨rfl,rfl⟩
  go_wp2_with fail
  rw[<-H4.out.1];refine(hWi.out _ _ ((HV.out.1.below H4.out.2.2))).mono ?_;rintro r w3 ⟨q,d,rfl,ho3,hb3⟩;have hR3:=af H4.out.2.1 hb3;have r3:=aM hR3;have rf3:w3.frozen? ⟨w.heap.size+1+1,0,MH⟩=false:=by simp[Ng,hR3]
  have hb03:=H4.out.2.2.trans (hb3.mono H4.out.2.2.size);have ho3':(w3.setCell ⟨w.heap.size+1+1,0,MH⟩ (MG q l.length d)).ownsRow w.heap.size 174 4 (MG q l.length d) l.length (aW (l.set k (x1,Nw,x3,bk))):=
   (aw ho3 (fun g' hg'=>MU _ _ _ _ (by have:=(ho3.lt g' hg').1;simp;omega))).mono (by omega)
  have H3:M6 (_/\_/\_):=⟨iL (v:=MG q l.length d) hR3,ho3',(show MQ w.heap.size w (w3.setCell ⟨w.heap.size+1+1,0,MH⟩ (MG q l.length d))from hb03.setCell (by simp;omega) _)⟩;clear hR3 ho3 ho3' hb3 hb03 t0 r0 rf h0 h1;go_wp2;refine Np (v:=Nv #[Ny #[MG q l.length d],MF ME 0]) (bp VY rfl rfl (aI (P:=MK) (cs:=[MG q l.length d]) H3.out.1 UZ rfl (by kernel_rfl))) rfl ?_;rw[HU.out];refine⟨q,d,?_,?_,H3.out.2.2⟩
  ·simp
  ·simpa using H3.out.2.1
 ·have hout:db l s g bk=([],e):=by unfold db;rw[hX.out,Nf he]
  have hne:(e != 0)=true:=by simpa using he
  have H3:M6 (_/\_/\_):=⟨aN _ (MP #[MF ME x1,M3 x2,MF ME x3,MF ME x4] 174) (iL (v:=MG MH 0 0) H1.out.2.1),(show MQ w.heap.size w ((w1.setCell ⟨w.heap.size+1+1,0,MH⟩ (MG MH 0 0)).alloc (MP #[MF ME x1,M3 x2,MF ME x3,MF ME x4] 174))from(H1.out.2.2.setCell (by simp;omega) _).alloc (by simp;omega) _),hout⟩;clear hR2 hb02 hb2 hout hW2 he;go_wp2;refine Np (v:=Nv #[Ny #[MG MH 0 0],MF ME e]) (bp VY rfl rfl (aI (P:=MK) (cs:=[MG MH 0 0]) H3.out.1 UZ rfl (by kernel_rfl))) rfl ?_;rw[H3.out.2.2];exact⟨MH,0,rfl,NY _ _ _ _,H3.out.2.1⟩
theorem xI(n:Nat):madeCells #[MF ME 0,M3 Nb,MF ME 0,MF ME 0] (n*4)=(aW (Nj n (0,Nb,0,0))).toArray:=by
 apply Array.ext';apply Ot;intro i;have hlen:(aW (Nj n ((0:Int),Nb,(0:Int),(0:Int)))).length=n*4:=by rw[iP];simp
 by_cases h:i<n*4
 ·have ht:=jv (Nj n ((0:Int),Nb,(0:Int),(0:Int))) (i / 4) (by simp;omega)
  simp only[List.getElem_replicate]at ht;have hL:(madeCells #[MF ME 0,M3 Nb,MF ME 0,MF ME 0] (n*4)).toList[i]?=MI ((#[MF ME 0,M3 Nb,MF ME 0,MF ME 0]:Array M7)[i % 4]!):=by
   unfold madeCells;simp[h]
  rw[hL];have hp:i % 4=0\/i % 4=1\/i % 4=2\/i % 4=3:=by omega
  rcases hp with hp|hp|hp|hp
  ·rw[hp]
   rw[show i / 4*4=i by omega]at ht;exact ht.1.symm
  ·rw[hp]
   rw[show i / 4*4+1=i by omega]at ht;exact ht.2.1.symm
  ·rw[hp]
   rw[show i / 4*4+2=i by omega]at ht;exact ht.2.2.1.symm
  ·rw[hp]
   rw[show i / 4*4+3=i by omega]at ht;exact ht.2.2.2.symm
 ·rw[Nz (by simp[size_madeCells];omega),Nz (by simp[hlen];omega)]
def jO(n:Int):List Sl×Int:=if 1<=n/\n<=40 then(Nj n.toNat (0,Nb,0,0),0)else([],2)
theorem FN(n:Nat)(hn:n<=40)(W:MO):(Instr.makeSlice 36 (MF ME (n:Int)) (MF ME (n:Int))).run MK W=.ok (MG (MI ⟨W.heap.size,0,MH⟩) n n) (W.alloc (MP (aW (Nj n (0,Nb,0,0))).toArray 174)):=by
 obtain⟨i1,hj,hy0,hy1,hy2⟩:=OF vE;have h:=run_makeSlice (P:=MK) W 36 174 i1 _ RC hj hy0 ME ME n n (by omega) (by omega) (by rw[hy1];omega) (by rw[hy2];omega) (by omega);rw[h,hy1,NR,<-xI];rfl
theorem yr(n:Nat)(hn:n<=40)(W:MO):(W.alloc (MP (aW (Nj n (0,Nb,0,0))).toArray 174)).ownsRow W.heap.size 174 4 (MG (MI ⟨W.heap.size,0,MH⟩) n n) n (aW (Nj n (0,Nb,0,0))):=by
 have hlen:(aW (Nj n ((0:Int),Nb,(0:Int),(0:Int)))).length=n*4:=by rw[iP];simp
 refine⟨hlen,NF ⟨W.heap.size,n,_,rfl,MV _,M1 W _,MV _,by unfold NE;omega,by simp[hlen],?_⟩⟩;simp;exact N1 (by omega)
theorem yx(n:Int)(w:MO):Ni MK 42 #[MF ME n] w (oJ (jO n).1 (jO n).2 w):=by
 have hB0:=M1 w (MP #[MG MH 0 0] 38)
 by_cases h:1<=n/\n<=40
 ·have hout:jO n=(Nj n.toNat (0,Nb,0,0),0):=by unfold jO;rw[Nh h]
  obtain⟨h1,h2⟩:=h;obtain⟨k,rfl⟩:=NL (a:=n) (by omega);rw[NR]at hout;have hr:=FN k (by omega) (w.alloc (MP #[MG MH 0 0] 38));have ho:=yr k (by omega) (w.alloc (MP #[MG MH 0 0] 38));have hs:(w.alloc (MP #[MG MH 0 0] 38)).heap.size=w.heap.size+1:=by simp
  rw[hs]at hr ho;obtain⟨Z,hZ⟩:∃Z,Z=(aW (Nj k ((0:Int),Nb,(0:Int),(0:Int)))).toArray:=⟨_,rfl⟩;rw[<-hZ]at hr ho;obtain⟨W1,hW1⟩:∃W1,W1=(w.alloc (MP #[MG MH 0 0] 38)).alloc (MP Z 174):=⟨_,rfl⟩;rw[<-hW1]at hr ho;have hR1:W1.heap[w.heap.size]?=MI (MP #[MG MH 0 0] 38 (0,0)):=by rw[hW1];exact aN _ _ hB0
  have hb1:MQ w.heap.size w W1:=by rw[hW1];exact((MY _ _).alloc (MV _) _).alloc (by simp) _
  have r1:=aM hR1;have rf:W1.frozen? ⟨w.heap.size,0,MH⟩=false:=by simp[Ng,hR1]
  have ho':(W1.setCell ⟨w.heap.size,0,MH⟩ (MG (MI ⟨w.heap.size+1,0,MH⟩) k k)).ownsRow w.heap.size 174 4 (MG (MI ⟨w.heap.size+1,0,MH⟩) k k) k (aW (Nj k (0,Nb,0,0))):=
   (aw ho (fun g hg=>MU _ _ _ _ (by have:=(ho.lt g hg).1;simp;omega))).mono (by omega)
  have HH:M6 (_/\_/\_/\_):=⟨iL (v:=MG (MI ⟨w.heap.size+1,0,MH⟩) k k) hR1,ho',(show MQ w.heap.size w (W1.setCell ⟨w.heap.size,0,MH⟩ (MG (MI ⟨w.heap.size+1,0,MH⟩) k k))from hb1.setCell (by simp) _),hout⟩;clear hR1 ho' hb1 hout ho hs hZ hW1 hB0;go_enter Tryz.func42,Tryz.ntmps42;go_wp2;refine Np (v:=Nv #[Ny #[MG (MI ⟨w.heap.size+1,0,MH⟩) k k],MF ME 0]) (bp Tryz.results42 rfl rfl (aI (P:=MK) (cs:=[MG (MI ⟨w.heap.size+1,0,MH⟩) k k]) HH.out.1 UZ rfl (by kernel_rfl))) rfl ?_;rw[HH.out.2.2.2];refine⟨MI ⟨w.heap.size+1,0,MH⟩,k,?_,?_,HH.out.2.2.1⟩
  ·simp
  ·simpa using HH.out.2.1
 ·have hout:jO n=([],2):=by unfold jO;rw[Nf h]
  have HH:M6 (_/\_):=⟨hout,hB0⟩;have hc:n<1\/(1<=n/\40<n):=by omega
  clear h hout hB0;rcases hc with hc|⟨hc,hd⟩
  all_goals
   go_enter Tryz.func42,Tryz.ntmps42;go_wp2;refine Np (v:=Nv #[Ny #[MG MH 0 0],MF ME 2]) (bp Tryz.results42 rfl rfl (aI (P:=MK) (cs:=[MG MH 0 0]) HH.out.2 UZ rfl (by kernel_rfl))) rfl ?_;rw[HH.out.1];exact⟨MH,0,rfl,NY _ _ _ _,bW w⟩
def cZ(l:List Sl)(key bk:Int):List Sl×Tm×Int :=
 if ¬ea l then([],(0,0),6)else if ¬(iK key/\gD bk)then([],(0,0),2)else
  match bR eY l with
  |none=>([],(0,0),9)
  |some k=>(l.set k ((l.getD k (0,Nb,0,0)).1,Nw,key,bk),((k:Int),(l.getD k (0,Nb,0,0)).1),0)
def vN(o:List Sl×Tm×Int)(w:MO)(r:Ending)(w':MO):Prop :=
 ∃p c,r=MN (Nv #[Ny #[MG p o.1.length c],Ny #[MF ME o.2.1.1,MF ME o.2.1.2],MF ME o.2.2])/\w'.ownsRow w.heap.size 174 4 (MG p o.1.length c) o.1.length (aW o.1)/\MQ w.heap.size w w'
theorem rg{q:Sl->Bool}:∀ {l:List Sl} {k:Nat},bR q l=MI k->∃h:k<l.length,q l[k]=Nw/\∀t∈l.take k,q t=Nb
 | [],k,h=>by simp[bR]at h
 |t::l,k,h=>by
  unfold bR at h
  by_cases hq:q t=Nw
  ·rw[Nh hq]at h
   injection h with h;subst h;exact⟨by simp,by simpa using hq,by simp⟩
  ·rw[Nf hq]at h
   cases hf:bR q l with
   |none=>rw[hf]at h;cases h
   |some j =>
    rw[hf]at h;injection h with h;subst h;obtain⟨h1,h2,h3⟩:=rg hf;refine⟨by simp;omega,by simpa using h2,fun x hx=>?_⟩;rw[PT]at hx;rcases List.mem_cons.1 hx with rfl|hx
    ·simpa using hq
    ·exact h3 x hx
theorem kT{x:M7}(hR:w.heap[R]?=MI (MP #[a] T (0,0)))(hne:R≠H):(((w.setCell ⟨R,0,MH⟩ u).setCell ⟨H,0,MH⟩ x).setCell ⟨H,1,MH⟩ y).heap[R]?=MI (MP #[u] T (0,0)):=by
 rw[MU _ _ _ _ (by simpa using hne),MU _ _ _ _ (by simpa using hne)];exact iL hR
theorem kZ{x:M7}{U:NU}(hH:w.heap[H]?=MI (MP #[b,c] U (0,0)))(hne:R≠H):(((w.setCell ⟨R,0,MH⟩ u).setCell ⟨H,0,MH⟩ x).setCell ⟨H,1,MH⟩ y).heap[H]?=MI (MP #[x,y] U (0,0)):=
 iw ((MU _ _ _ _ (by simpa using Pi hne)).trans hH)
theorem oR{x:M7}(h:MQ B w0 w)(hR:B<=R)(hH:B<=H):MQ B w0 (((w.setCell ⟨R,0,MH⟩ u).setCell ⟨H,0,MH⟩ x).setCell ⟨H,1,MH⟩ y):=
 ((h.setCell hR _).setCell hH _).setCell hH _
theorem E7{x:M7}{n:Nat}{xs:List M7}(h:w.ownsRow base 174 4 v n xs)(hR:R<base)(hH:H<base):(((w.setCell ⟨R,0,MH⟩ u).setCell ⟨H,0,MH⟩ x).setCell ⟨H,1,MH⟩ y).ownsRow base 174 4 v n xs :=
 QX (QX (QX h hR _) hH _) hH _
theorem BC(v:M7)(l:List Sl)(key bk:Int)(w:MO)(hv:bS w v l) :
  Ni MK 159 #[Ny #[v],MF ME key,MF ME bk] w (vN (cZ l key bk) w):=by
 obtain⟨p,c,rfl,hc,hm,pa⟩:=hv.F6;unfold NE at hm;obtain⟨W0,hW0⟩:∃W0,W0=((w.alloc (MP #[MG p l.length c] 38)).alloc (MP #[MG MH 0 0] 38)).alloc (MP #[MF ME 0,MF ME 0] 97):=⟨_,rfl⟩;have hb0:MQ w.heap.size w W0:=by rw[hW0];exact(((MY _ _).alloc (MV _) _).alloc (by simp) _).alloc (by simp;omega) _
 have hT0:W0.heap[w.heap.size]?=MI (MP #[MG p l.length c] 38 (0,0)):=by rw[hW0];exact aN _ _ (aN _ _ (M1 _ _))
 have hR0:W0.heap[w.heap.size+1]?=MI (MP #[MG MH 0 0] 38 (0,0)):=by rw[hW0];exact aN _ _ (bV _ _ _)
 have hH0:W0.heap[w.heap.size+1+1]?=MI (MP #[MF ME 0,MF ME 0] 97 (0,0)):=by rw[hW0];have:=M1 ((w.alloc (MP #[MG p l.length c] 38)).alloc (MP #[MG MH 0 0] 38)) (MP #[MF ME 0,MF ME 0] 97);simpa using this
 have hs0:W0.heap.size=w.heap.size+3:=by rw[hW0];simp
 have HV:M6 (_/\_/\_/\_/\_/\_/\_):=⟨hv,hb0,hT0,hR0,hH0,hs0,hW0⟩;clear hv hb0 hT0 hH0 hR0 hs0 hW0;go_enter RT,RJ
 go_wp2_with fail
 rw[<-HV.out.2.2.2.2.2.2];refine(lZ _ l _ (HV.out.1.below HV.out.2.1)).mono ?_;rintro r w1 ⟨rfl,hb1⟩;have hT1:=af HV.out.2.2.1 hb1;have hR1:=af HV.out.2.2.2.1 hb1;have hH1:=af HV.out.2.2.2.2.1 hb1;have t0:=aM hT1;have r0:=aM hR1;have rf:w1.frozen? ⟨w.heap.size+1,0,MH⟩=false:=by simp[Ng,hR1]
 obtain⟨h0,h1,hf0,hf1,_⟩:=au hH1;have hb01:=HV.out.2.1.trans (hb1.mono HV.out.2.1.size);have hl1:w.heap.size+1+1<w1.heap.size:=by have:=hb1.size;have:=HV.out.2.2.2.2.2.1;omega
 have hl2:w.heap.size<w1.heap.size:=by omega
 have hl3:w.heap.size+1<w1.heap.size:=by omega
 have hne:w.heap.size+1≠w.heap.size+1+1:=by omega
 have H1:M6 (_/\_/\_/\_):=⟨hT1,hR1,hH1,hb01⟩;have bad:∀e,cZ l key bk=([],(0,0),e)->vN (cZ l key bk) w (MN (Nv #[Ny #[MG MH 0 0],Ny #[MF ME 0,MF ME 0],MF ME e])) (((w1.setCell ⟨w.heap.size+1,0,MH⟩ (MG MH 0 0)).setCell ⟨w.heap.size+1+1,0,MH⟩ (MF ME 0)).setCell ⟨w.heap.size+1+1,1,MH⟩ (MF ME 0)):=fun e he=>by
  rw[he];exact⟨MH,0,rfl,NY _ _ _ _,oR hb01 (by omega) (by omega)⟩
 have HBad:M6 _:=bad;clear bad hT1 hR1 hH1 hb1 hb01
 by_cases hok:ea l
 ·rw[Nh hok]
  cases hkb:Nn (iK key)
  ·have hout:M6 (cZ l key bk=([],(0,0),2)):=by show cZ l key bk=_;unfold cZ;rw[Nf (not_not_intro hok),Nh fun h=>Nc hkb h.1]
   clear pa hok
   go_wp2_with fail
   refine(kr _ _).mono ?_;rw[hkb];rintro r w2 ⟨rfl,rfl⟩;go_wp2;exact Np (v:=Nv #[Ny #[MG MH 0 0],Ny #[MF ME 0,MF ME 0],MF ME 2]) (lq Vn rfl rfl rfl (aI (P:=MK) (cs:=[MG MH 0 0]) (kT H1.out.2.1 hne) UZ rfl (by kernel_rfl)) (aI (P:=MK) (cs:=[MF ME 0,MF ME 0]) (kZ H1.out.2.2.1 hne) Vh rfl (by kernel_rfl))) rfl (HBad.out _ hout.out)
  cases hbb:Nn (gD bk)
  ·have hout:M6 (cZ l key bk=([],(0,0),2)):=by show cZ l key bk=_;unfold cZ;rw[Nf (not_not_intro hok),Nh fun h=>Nc hbb h.2]
   clear pa hok
   go_wp2_with fail
   refine(kr _ _).mono ?_;rw[hkb];rintro r w2 ⟨rfl,rfl⟩
   go_wp2_with fail
   refine(ka _ _).mono ?_;rw[hbb];rintro r w2 ⟨rfl,rfl⟩;go_wp2;exact Np (v:=Nv #[Ny #[MG MH 0 0],Ny #[MF ME 0,MF ME 0],MF ME 2]) (lq Vn rfl rfl rfl (aI (P:=MK) (cs:=[MG MH 0 0]) (kT H1.out.2.1 hne) UZ rfl (by kernel_rfl)) (aI (P:=MK) (cs:=[MF ME 0,MF ME 0]) (kZ H1.out.2.2.1 hne) Vh rfl (by kernel_rfl))) rfl (HBad.out _ hout.out)
  have hl40:=hok.1.2;have hout0:cZ l key bk=match bR eY l with|none=>([],(0,0),9)|some k=>(l.set k ((l.getD k (0,Nb,0,0)).1,Nw,key,bk),((k:Int),(l.getD k (0,Nb,0,0)).1),0):=by
   unfold cZ;rw[Nf (not_not_intro hok),Nf (not_not_intro ⟨M2 hkb,M2 hbb⟩)]
  clear hok;cases hfd:bR eY l with
  |none =>
   rw[hfd]at hout0;have hout:M6 _:=hout0;have hix:bI (bR eY l) = -1:=by rw[hfd];rfl
   have HI:M6 _:=hix;clear hix hout0 pa hfd
   go_wp2_with fail
   refine(kr _ _).mono ?_;rw[hkb];rintro r w2 ⟨rfl,rfl⟩
   go_wp2_with fail
   refine(ka _ _).mono ?_;rw[hbb];rintro r w2 ⟨rfl,rfl⟩
   go_wp2_with fail
   refine(tx _ l _ (HV.out.1.below H1.out.2.2.2)).mono ?_;rw[HI.out];rintro r w3 ⟨rfl,hb3⟩;have hR3:=af H1.out.2.1 hb3;have hH3:=af H1.out.2.2.1 hb3;have s0:=aM hR3;have sf:w3.frozen? ⟨w.heap.size+1,0,MH⟩=false:=by simp[Ng,hR3]
   obtain⟨u0,u1,uf0,uf1,_⟩:=au hH3;have hb03:=H1.out.2.2.2.trans (hb3.mono H1.out.2.2.2.size);have H3:M6 (_/\_/\_):=⟨hR3,hH3,hb03⟩;clear hR3 hH3 hb03 hb3 t0 r0 rf h0 h1 hf0 hf1;go_wp2;refine Np (v:=Nv #[Ny #[MG MH 0 0],Ny #[MF ME 0,MF ME 0],MF ME 9]) (lq Vn rfl rfl rfl (aI (P:=MK) (cs:=[MG MH 0 0]) (kT H3.out.1 hne) UZ rfl (by kernel_rfl)) (aI (P:=MK) (cs:=[MF ME 0,MF ME 0]) (kZ H3.out.2.1 hne) Vh rfl (by kernel_rfl))) rfl ?_;rw[hout.out];exact⟨MH,0,rfl,NY _ _ _ _,oR H3.out.2.2 (by omega) (by omega)⟩
  |some k =>
   rw[hfd]at hout0;replace hout0:cZ l key bk=(l.set k ((l.getD k (0,Nb,0,0)).1,Nw,key,bk),((k:Int),(l.getD k (0,Nb,0,0)).1),0):=hout0;obtain⟨hk,hqk,_⟩:=rg hfd;have hgd:l.getD k (0,Nb,0,0)=l[k]:=by
    rw[NK,MR hk];rfl
   rw[hgd]at hout0;have hix:bI (bR eY l)=(k:Int):=by rw[hfd];rfl
   have HI:M6 _:=hix;obtain⟨b1,o1,rfl,hb1,c1,_,_,_⟩:=pa k hk;obtain⟨gn,hgn⟩:∃gn,gn=l[k].1:=⟨_,rfl⟩;rw[<-hgn]at c1 hout0;have hWi:M6 (∀W y,bS W y l->Ni MK 205 #[Ny #[y],MF ME k,Ny #[MF ME gn,M3 Nw,MF ME key,MF ME bk]] W fun r w'=>∃p c,r=MN (Ny #[MG p l.length c])/\w'.ownsRow W.heap.size 174 4 (MG p l.length c) l.length (aW (l.set k (gn,Nw,key,bk)))/\MQ W.heap.size W w'):=fun W y hy=>ri y l k gn Nw key bk W hy hk hl40
   have hout:M6 _:=hout0;have hkI:(k:Int)<(l.length:Int):=by omega
   clear hix hout0 pa hfd hgd hqk hgn
   go_wp2_with fail
   refine(kr _ _).mono ?_;rw[hkb];rintro r w2 ⟨rfl,rfl⟩
   go_wp2_with fail
   refine(ka _ _).mono ?_;rw[hbb];rintro r w2 ⟨rfl,rfl⟩
   go_wp2_with fail
   refine(tx _ l _ (HV.out.1.below H1.out.2.2.2)).mono ?_;rw[HI.out];rintro r w3 ⟨rfl,hb3⟩;have hT3:=af H1.out.1 hb3;have hR3:=af H1.out.2.1 hb3;have hH3:=af H1.out.2.2.1 hb3;have hb03:=H1.out.2.2.2.trans (hb3.mono H1.out.2.2.2.size);have e1:=(hb03.cell (p:=⟨b1,o1+k*4,MH⟩) hb1).trans c1;have s0:=aM hT3;obtain⟨W4,hW4⟩:∃W4,W4=w3.alloc (MP #[MF ME gn,M3 Nw,MF ME key,MF ME bk] 174):=⟨_,rfl⟩;have hx4:MQ w3.heap.size w3 W4:=by rw[hW4];exact bW w3
   have hR4:=af hR3 hx4;have hH4:=af hH3 hx4;have hb04:=hb03.trans (hx4.mono hb03.size);have m0:w.heap.size<w3.heap.size:=by have:=hb3.size;omega
   have H4:M6 (_/\_/\_/\_):=⟨hR4,hH4,hb04,hW4⟩;clear hT3 hR3 hH3 hb03 hb3 t0 r0 rf h0 h1 hf0 hf1 hx4 hR4 hH4 hb04 hW4 c1
   go_wp2_with fail
   rw[<-H4.out.2.2.2];refine(hWi.out _ _ (HV.out.1.below H4.out.2.2.1)).mono ?_;rintro r w5 ⟨q,d,rfl,ho5,hb5⟩;have hR5:=af H4.out.1 hb5;have hH5:=af H4.out.2.1 hb5;have u0:=aM hR5;have uf:w5.frozen? ⟨w.heap.size+1,0,MH⟩=false:=by simp[Ng,hR5]
   obtain⟨x0,x1,xf0,xf1,_⟩:=au hH5;have hlt4:=(Array.getElem?_eq_some_iff.1 H4.out.2.1).1;have H5:M6 (_/\_/\_/\_):=⟨hR5,hH5,E7 (R:=w.heap.size+1) (H:=w.heap.size+1+1) (u:=MG q l.length d) (x:=MF ME (k:Int)) (y:=MF ME gn) ho5 (by omega) (by omega),H4.out.2.2.1.trans (hb5.mono H4.out.2.2.1.size)⟩;have hlt5:=H4.out.2.2.1.size;clear hR5 hH5 ho5 hb5 e1 s0;go_wp2;refine Np (v:=Nv #[Ny #[MG q l.length d],Ny #[MF ME (k:Int),MF ME gn],MF ME 0]) (lq Vn rfl rfl rfl (aI (P:=MK) (cs:=[MG q l.length d]) (kT H5.out.1 hne) UZ rfl (by kernel_rfl)) (aI (P:=MK) (cs:=[MF ME (k:Int),MF ME gn]) (kZ H5.out.2.1 hne) Vh rfl (by kernel_rfl))) rfl ?_;rw[hout.out];refine⟨q,d,?_,?_,oR H5.out.2.2.2 (by omega) (by omega)⟩
   ·simp
   ·simpa using H5.out.2.2.1.mono hlt5
 ·rw[Nf hok]
  have hout:M6 (cZ l key bk=([],(0,0),6)):=by show cZ l key bk=_;unfold cZ;rw[Nh hok]
  clear pa;go_wp2;exact Np (v:=Nv #[Ny #[MG MH 0 0],Ny #[MF ME 0,MF ME 0],MF ME 6]) (lq Vn rfl rfl rfl (aI (P:=MK) (cs:=[MG MH 0 0]) (kT H1.out.2.1 hne) UZ rfl (by kernel_rfl)) (aI (P:=MK) (cs:=[MF ME 0,MF ME 0]) (kZ H1.out.2.2.1 hne) Vh rfl (by kernel_rfl))) rfl (HBad.out _ hout.out)
theorem BL(h:bN x):eY x=(!x.2.1 && (x.1 != 1048576)):=by
 unfold eY;have:=oc h
 by_cases hu:x.2.1=Nw
 ·rw[M0 (this.2 hu),hu]
  rfl
 ·rw[Nq (PM fun hn=>hu (this.1 hn))]
  simp only[Qc]at hu;rw[hu];rfl
def fx(bk:Int)(t:Sl):Bool:=t.2.1 && (t.2.2.2 == bk)
def lm(l:List Sl)(i:Nat):Tm:=((i:Int),(l.getD i (0,Nb,0,0)).1)
def cB(bk:Int)(l:List Sl)(k:Nat):List Tm:=((Pm k).filter fun i=>fx bk (l.getD i (0,Nb,0,0))).map (lm l)
def cz(bk:Int)(l:List Sl):List Tm:=cB bk l l.length
theorem wQ{bk:Int}(h:fx bk (l.getD k (0,Nb,0,0))=Nw):cB bk l (k+1)=cB bk l k++[lm l k]:=by
 unfold cB;rw[ZqB,OY,OI,List.filter_cons_of_pos (p:=fun i=>fx bk (l.getD i (0,Nb,0,0))) h,List.filter_nil];rfl
theorem A9{bk:Int}(h:fx bk (l.getD k (0,Nb,0,0))=Nb):cB bk l (k+1)=cB bk l k:=by
 unfold cB;rw[ZqB,OY,OI,List.filter_cons_of_neg (by rw[h];exact PE),List.filter_nil,P5,OG]
theorem Eg(bk:Int)(l:List Sl)(k:Nat):(cB bk l k).length<=k:=by
 unfold cB;rw[N0];exact Nm (O1 ..) (by simp)
theorem CS{p:Option Oc}{c:Nat}{m:List Tm}(ho:w.ownsRow base 97 2 (MG p k c) k (ag m))(hb:base<=w.heap.size)(hk:k<=1000)(ty:NU)(x1 x2:Int):
  ∃p' c' w',(N2 #[55,55] ty #[MG p k c,MG (MI ⟨w.heap.size,0,MH⟩) 1 1]).run MK (w.alloc (MP #[MF ME x1,MF ME x2] 97))=.ok (MG p' (k+1) c') w' /\
   w'.ownsRow base 97 2 (MG p' (k+1) c') (k+1) (ag (m++[(x1,x2)]))/\MQ base w w':=by
 obtain⟨i0,hi,hz0,hz1,hz2⟩:=OF AY;have hn:=iV w (ag [(x1,x2)]) 97;obtain⟨v',w',hr,ho',hg,_⟩:=run_append_own (P:=MK) (w.alloc (MP #[MF ME x1,MF ME x2] 97)) base 55 ty 97 i0 _ 2 16 Tryz.underlying55 hi hz0 hz1 hz2 rfl (by decide) (MG p k c) k (ag m) (ho.alloc _) ⟨w.heap.size,0,MH⟩ 1 1 (ag [(x1,x2)]) rfl hn (gg _) (by unfold NE;omega) (by omega) (by simp;omega);rw[<-fw]at ho';obtain⟨p',c',rfl⟩:=cR ho';refine⟨p',c',w',hr,ho',?_⟩;exact((MY _ _).alloc hb _).grown hg (by simp;omega) (fun j e=>(ho.lt j e).1)
theorem DG(g:Int)(u:Bool)(k b bk:Int)(gc:Nat)(w:MO)(hcap:w.cell? ⟨gc,0,MH⟩=MI (MF ME bk))(hok:bN (g,u,k,b)) :
  Ni MK 250 #[Ny #[MF ME g,M3 u,MF ME k,MF ME b],Na (MI ⟨gc,0,MH⟩)] w fun r w'=>r=MN (M3 (fx bk (g,u,k,b)))/\MQ w.heap.size w w':=by
 have ho:fx bk (g,u,k,b)=(!Nn (dQ (g,u,k,b)) && (b == bk)):=by
  unfold fx;have h:=oc hok;cases u
  ·have hf:dQ (g,Nb,k,b):=PM fun hn=>by have:=h.1 hn;cases this
   rw[Nq hf];rfl
  ·have hf:¬dQ (g,Nw,k,b):=h.2 rfl
   rw[M0 hf];rfl
 obtain⟨ans,hans⟩:∃ans,ans=fx bk (g,u,k,b):=⟨_,rfl⟩;rw[<-hans];rw[<-hans]at ho;have H:M6 _:=ho;have hgc:=MX w _ hcap;obtain⟨W0,hW0⟩:∃W0,W0=w.alloc (MP #[MF ME g,M3 u,MF ME k,MF ME b] 174):=⟨_,rfl⟩;have hR:W0.heap[w.heap.size]?=MI (MP #[MF ME g,M3 u,MF ME k,MF ME b] 174 (0,0)):=by rw[hW0];exact M1 _ _
 have hB0:MQ w.heap.size w W0:=by rw[hW0];exact bW w
 have hC0:=(hB0.cell (p:=⟨gc,0,MH⟩) hgc).trans hcap;have H0:M6 (_/\_/\_/\_):=⟨hW0,hR,hB0,hC0⟩;clear hans ho hW0 hR hB0 hok hC0;go_enter TR,TK
 go_wp2_with fail
 rw[<-H0.out.1];refine(lI g u k b _).mono ?_;generalize Nn (dQ (g,u,k,b))=fr at *;rintro r w1 ⟨rfl,hb1⟩;have hR1:=af H0.out.2.1 hb1;have c3:w1.cell? ⟨w.heap.size,3,MH⟩=MI (MF ME b):=by simp[Nl,hR1]
 have cc:=(hb1.cell (p:=⟨gc,0,MH⟩) (MX W0 _ H0.out.2.2.2)).trans H0.out.2.2.2;have HB:M6 _:=H0.out.2.2.1.trans (hb1.mono H0.out.2.2.1.size);clear hb1 hR1 hcap;cases fr
 ·go_wp2
  go_ret;exact⟨by rw[H.out];rfl,HB.out⟩
 ·go_wp2
  go_ret;exact⟨by rw[H.out];rfl,HB.out⟩
theorem A1(bk:Int)(w:MO):Ni MK 226 #[MF ME bk] w fun r w'=>r=MN (PB (PD 250) #[] #[Na (MI ⟨w.heap.size,0,MH⟩)])/\w'=w.alloc (MP #[MF ME bk] 3):=by
 go_enter Tryz.func226,Tryz.ntmps226;go_wp2;go_ret;exact⟨rfl,rfl⟩
theorem zi(v:M7)(l:List Sl)(bk:Int)(gc:Nat)(w:MO)(hv:bS w v l)(hok:∀t∈l,bN t)(hl:l.length<=40)(hcap:w.cell? ⟨gc,0,MH⟩=MI (MF ME bk)) :
  Ni MK 225 #[Ny #[v],PB (PD 250) #[] #[Na (MI ⟨gc,0,MH⟩)]] w fun r w'=>∃p c,r=MN (MG p (cz bk l).length c)/\w'.ownsRow w.heap.size 97 2 (MG p (cz bk l).length c) (cz bk l).length (ag (cz bk l))/\MQ w.heap.size w w':=by
 obtain⟨p,c,rfl,hc,hm,pa⟩:=hv.F6;unfold NE at hm;have hgc:=MX w _ hcap;have HV:M6 (_/\_/\_/\_):=⟨pa,hok,hcap,hgc⟩;clear hv pa hok hcap hgc;go_enter Tryz.func225,Tryz.ntmps225;go_wp2;obtain⟨W0,hW0⟩:∃W0,W0=w.alloc (MP #[MG p l.length c] 38):=⟨_,rfl⟩;have hb0:MQ w.heap.size w W0:=by rw[hW0];exact bW w
 rw[<-hW0];have HB0:M6 _:=hb0;clear hW0 hb0
 go_loopw [5,11] (fun o i wr=>∃(k:Nat) (p':Option Oc) (c':Nat),i=MF ME k/\o=MG p' (cB bk l k).length c'/\k<=l.length/\wr.ownsRow w.heap.size 97 2 (MG p' (cB bk l k).length c') (cB bk l k).length (ag (cB bk l k))/\MQ w.heap.size w wr) (fun _ i _=>l.length-(On i).toNat)
 case atStart=>exact⟨0,MH,0,rfl,rfl,Nx _,NY _ _ _ _,HB0.out⟩
 case round =>
  obtain⟨k,p',c',rfl,rfl,hk,ho,hb⟩:=hrel
  by_cases hlt:k<l.length
  ·obtain⟨b1,o1,rfl,hb1,c1,c2,c3,c4⟩:=HV.out.1 k hlt
   replace c1:=(hb.cell (p:=⟨b1,o1+k*4,MH⟩) hb1).trans c1;replace c2:=(hb.cell (p:=⟨b1,o1+k*4+1,MH⟩) hb1).trans c2;replace c3:=(hb.cell (p:=⟨b1,o1+k*4+2,MH⟩) hb1).trans c3;replace c4:=(hb.cell (p:=⟨b1,o1+k*4+3,MH⟩) hb1).trans c4;have hbl1:b1<wr.heap.size:=M8 hb1 hb.size;have hgd:l.getD k (0,Nb,0,0)=l[k]:=by simp[hlt]
   have hsk:=HV.out.2.1 l[k] (Nk hlt);obtain⟨⟨x1,x2,x3,x4⟩,hx⟩:∃x,x=l[k]:=⟨_,rfl⟩;rw[<-hx]at c1 c2 c3 c4 hsk hgd;have hyes:fx bk (x1,x2,x3,x4)=Nw->cB bk l (k+1)=cB bk l k++[((k:Int),x1)]:=fun h=>by
    rw[wQ (by rw[hgd];exact h)];unfold lm;rw[hgd]
   have hno:fx bk (x1,x2,x3,x4)=Nb->cB bk l (k+1)=cB bk l k:=fun h=>A9 (by rw[hgd];exact h)
   obtain⟨W1,hW1⟩:∃W1,W1=wr.alloc (MP #[MF ME x1,M3 x2,MF ME x3,MF ME x4] 174):=⟨_,rfl⟩;have hR1:W1.heap[wr.heap.size]?=MI (MP #[MF ME x1,M3 x2,MF ME x3,MF ME x4] 174 (0,0)):=by rw[hW1];exact M1 _ _
   have hb1':MQ w.heap.size w W1:=by rw[hW1];exact hb.alloc hb.size _
   have hcap1:=(hb1'.cell (p:=⟨gc,0,MH⟩) HV.out.2.2.2).trans HV.out.2.2.1;have ho1:W1.ownsRow w.heap.size 97 2 (MG p' (cB bk l k).length c') (cB bk l k).length (ag (cB bk l k)):=by rw[hW1];exact ho.alloc _
   have hlen:=Eg bk l k;have H:M6 (_/\_/\_/\_/\_/\_/\_/\_):=⟨hyes,hno,hW1,hR1,hb1',hcap1,ho1,hsk⟩;clear hyes hno hW1 hR1 hb1' hcap1 ho1 hsk ho hb hx hgd hb1;have hkI:(k:Int)<(l.length:Int):=by omega
   go_wp2_with fail
   rw[<-H.out.2.2.1];refine(DG x1 x2 x3 x4 bk gc _ H.out.2.2.2.2.2.1 H.out.2.2.2.2.2.2.2).mono ?_;rintro r w2 ⟨rfl,hb2⟩;have hR2:=af H.out.2.2.2.1 hb2;have d0:w2.cell? ⟨wr.heap.size,0,MH⟩=MI (MF ME x1):=by simp[Nl,hR2]
   have hw2:wr.heap.size<w2.heap.size:=(Array.getElem?_eq_some_iff.1 hR2).1;have ho2:=cq H.out.2.2.2.2.2.2.1 hb2;have hbw2:=H.out.2.2.2.2.1.trans (hb2.mono H.out.2.2.2.2.1.size);clear hb2 hR2 c1 c2 c3 c4;cases hmine:fx bk (x1,x2,x3,x4)
   ·have hno:=H.out.2.1 hmine
    have H2:M6 (_/\_/\_):=⟨ho2,hbw2,hno⟩;clear ho2 hbw2 hno;go_wp2
    go_roundw
    case rel=>exact⟨k+1,p',c',by simp,by rw[H2.out.2.2],hlt,by rw[H2.out.2.2];exact H2.out.1,H2.out.2.1⟩
    case measure=>simp[On];omega
   ·have hyes:=H.out.1 hmine
    have hyl:(cB bk l (k+1)).length=(cB bk l k).length+1:=by rw[hyes];simp
    obtain⟨q,d,w3,hr,z0,z1⟩:=CS ho2 hbw2.size (by omega) 55 (k:Int) x1;rw[<-hyes]at z0;obtain⟨n,hn⟩:∃n,n=(cB bk l k).length:=⟨_,rfl⟩;rw[<-hn]at hr z0 hyl⊢;have H2:M6 (_/\_/\_/\_):=⟨hr,z0,hbw2.trans z1,hyl⟩;clear hr z0 z1 hyl hyes ho2 hbw2 hn hlen
    go_wp2_with (at_builtin;(with_reducible refine d7 rfl _ _ 55 rfl (MG p' n c') (MG (MI ⟨w2.heap.size,0,MH⟩) 1 1) (MG q (n+1) d) w3 ?hs ?hx ?hr ?_);(case hs=>rfl);(case hx=>rfl);(case hr=>exact H2.out.1))
    go_roundw
    case rel=>exact⟨k+1,q,d,by simp,by rw[H2.out.2.2.2],hlt,by rw[H2.out.2.2.2];exact H2.out.2.1,H2.out.2.2.1⟩
    case measure=>simp[On];omega
  ·obtain rfl:k=l.length:=by omega
   have H2:M6 (_/\_):=⟨ho,hb⟩;clear ho hb;go_wp2;go_ret;exact⟨p',c',rfl,H2.out.1,H2.out.2⟩
def kh(l:List Sl)(bk:Int):List Tm×Int:=if ea l then(cz bk l,0)else([],6)
def xL(o:List Tm×Int)(w:MO)(r:Ending)(w':MO):Prop :=
 ∃p c,r=MN (Nv #[MG p o.1.length c,MF ME o.2])/\w'.ownsRow w.heap.size 97 2 (MG p o.1.length c) o.1.length (ag o.1)/\MQ w.heap.size w w'
theorem zQ(v:M7)(l:List Sl)(bk:Int)(w:MO)(hv:bS w v l) :
  Ni MK 185 #[Ny #[v],MF ME bk] w (xL (kh l bk) w):=by
 obtain⟨p,c,rfl,hc,hm,_⟩:=hv.F6;unfold NE at hm;obtain⟨W0,hW0⟩:∃W0,W0=w.alloc (MP #[MG p l.length c] 38):=⟨_,rfl⟩;have hb0:MQ w.heap.size w W0:=by rw[hW0];exact bW w
 have hT0:W0.heap[w.heap.size]?=MI (MP #[MG p l.length c] 38 (0,0)):=by rw[hW0];exact M1 _ _
 have HV:M6 (_/\_/\_/\_):=⟨hv,hb0,hT0,hW0⟩;clear hv hb0 hT0 hW0;go_enter TY,TS
 go_wp2_with fail
 rw[<-HV.out.2.2.2];refine(lZ _ l _ (HV.out.1.below HV.out.2.1)).mono ?_;rintro r w1 ⟨rfl,hb1⟩;have hT1:=af HV.out.2.2.1 hb1;have t0:=aM hT1;have hlt:w.heap.size<w1.heap.size:=(Array.getElem?_eq_some_iff.1 hT1).1;have hbw:=HV.out.2.1.trans (hb1.mono HV.out.2.1.size)
 by_cases hok:ea l
 ·have hout:kh l bk=(cz bk l,0):=by unfold kh;rw[Nh hok]
  rw[Nh hok];have HO:M6 _:=hout;have hU:∀W,MQ w1.heap.size w1 W->Ni MK 226 #[MF ME bk] W fun r w'=>∃gc,r=MN (PB (PD 250) #[] #[Na (MI ⟨gc,0,MH⟩)])/\M6 (w'.cell? ⟨gc,0,MH⟩=MI (MF ME bk)/\MQ w1.heap.size w1 w')/\w'.cell? ⟨w.heap.size,0,MH⟩=MI (MG p l.length c)/\(∀n,n<W.heap.size->n<w'.heap.size)/\(∀b o,b<W.heap.size->w'.cell? ⟨b,o,MH⟩=W.cell? ⟨b,o,MH⟩)/\(∀b o,b<W.heap.size->w'.frozen? ⟨b,o,MH⟩=W.frozen? ⟨b,o,MH⟩):=fun W hW=>by
   refine(A1 bk W).mono ?_;rintro r w' ⟨rfl,rfl⟩;have hb:MQ W.heap.size W (W.alloc (MP #[MF ME bk] 3)):=bW W;have hbb:=hW.trans (hb.mono hW.size);exact⟨_,rfl,⟨aM (M1 W _),hbb⟩,(hbb.cell (p:=⟨w.heap.size,0,MH⟩) hlt).trans t0,(fun n hn=>M8 hn hb.size),(tl hb).1,(tl hb).2⟩
  have hH:∀W wt gc,M6 (wt.cell? ⟨gc,0,MH⟩=MI (MF ME bk)/\MQ w1.heap.size w1 wt)->MQ wt.heap.size wt W->Ni MK 225 #[Ny #[MG p l.length c],PB (PD 250) #[] #[Na (MI ⟨gc,0,MH⟩)]] W fun r w'=>∃q d,r=MN (MG q (cz bk l).length d)/\M6 (w'.ownsRow w1.heap.size 97 2 (MG q (cz bk l).length d) (cz bk l).length (ag (cz bk l))/\MQ w1.heap.size w1 w'):=fun W wt gc hy hw=>by
   have hh:=hy.out.2.trans (hw.mono hy.out.2.size);refine(zi _ l bk gc W (((HV.out.1.below HV.out.2.1).below hb1).below hh) hok.2 hok.1.2 ((hw.cell (p:=⟨gc,0,MH⟩) (MX wt _ hy.out.1)).trans hy.out.1)).mono ?_;rintro r w' ⟨q,d,rfl,h1,h2⟩;exact⟨q,d,rfl,h1.mono hh.size,hh.trans (h2.mono hh.size)⟩
  have H1:M6 (_/\_/\_):=⟨hU,hH,hbw⟩;clear hU hH hbw hb1 hout hT1 hok;go_wp2
  go_cut [4,5]from 12 to 15 (fun s e wx=>∃q d,s=MG q (cz bk l).length d/\e=MF ME 0/\wx.ownsRow w1.heap.size 97 2 (MG q (cz bk l).length d) (cz bk l).length (ag (cz bk l))/\MQ w1.heap.size w1 wx)
  case first =>
   go_region_with (first|(go_at_call 226;refine(H1.out.1 _ ?hbW).mono ?_;(case hbW=>first|exact(MY _ _).drew|exact Below.refl _ _);rintro r w4 ⟨gc,rfl,hq4,k4,hz4,hc4,hf4⟩)|(go_at_call 225;refine(H1.out.2.1 _ w4 gc hq4 ?hbW).mono ?_;(case hbW=>exact MY _ _);rintro r w5 ⟨q,d,rfl,hq5⟩))
   all_goals
    go_wp2_with fail
    go_meet
    exact⟨q,d,rfl,rfl,hq5.out.1,hq5.out.2⟩
  case rest =>
  obtain⟨q,d,rfl,rfl,hown,hbx⟩:=hcut;have H2:M6 (_/\_):=⟨hown,hbx⟩;clear hown hbx;go_wp2
  go_ret2
  rw[HO.out];exact⟨q,d,rfl,H2.out.1.mono H1.out.2.2.size,H1.out.2.2.trans (H2.out.2.mono H1.out.2.2.size)⟩
 ·have hout:kh l bk=([],6):=by unfold kh;rw[Nf hok]
  rw[Nf hok];have HO:M6 _:=hout;have HB:M6 _:=hbw;clear hbw hb1 hT1 hout hok;go_wp2
  go_ret2
  rw[HO.out];exact⟨MH,0,rfl,NY _ _ _ _,HB.out⟩
theorem nU{T:List Sl}{s:Nat}(h:ea T)(hx:bN x):ea (T.set s x):=by
 refine⟨by simpa using h.1,fun t ht=>?_⟩;rcases OB ht with h1|h1
 ·exact h.2 t h1
 ·rw[h1];exact hx
end Go.Proofs.YtlnbhjdhcmgljaaGreatDoor.Q
