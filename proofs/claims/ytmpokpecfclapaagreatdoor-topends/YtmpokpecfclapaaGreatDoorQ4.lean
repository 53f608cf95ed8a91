/-
  Contracts of the layers and of core, part 4. Conditions: as each theorem says.
-/
import Derived.Deep.Upon
import Derived.BigQuiet
import Derived.Deep.CutRange
import Derived.Test.YtmpokpecfclapaaGreatDoorQ0
open Array renaming getD_eq_getD_getElem?->Pg
open Bool renaming false->Nb,false_ne_true->PE,not_eq_true->Qc,true->Nw
open Classical renaming byContradiction->PM
open Decidable renaming decide->Nn
open Go renaming Addr->Oc,Calls->Ni,Program->O8,TypeId->NU,Value->M7,World->MO,bodyPost_ret->Np,heap_alloc_new->M1,heap_setCell_same->NI,info_parts->OF,maxLen->NE,results->Pf,undef->PL,wpList_append_lies->O9
open Go.Builtin renaming append_->N2
open Go.Ending renaming returned->MN
open Go.Fn renaming func->PD
open Go.IntKind renaming i64->ME
open Go.Obj renaming cells->MP
open Go.Proofs.Tryz renaming func127->Ug,func135->UL,func154->UR,func174->Wr,func185->TY,func198->TZ,func31->WI,func32->ayD,func44->Tk,func45->Se,func64->Wa,func65->Sf,ntmps127->T6,ntmps135->Uz,ntmps154->UE,ntmps174->Wf,ntmps185->TS,ntmps198->TT,ntmps31->WA,ntmps32->ayw,ntmps44->SQ,ntmps45->RU,ntmps64->VN,ntmps65->RV,prog->MK,results127->ax5,results185->ayB,results20->ax2,underlying40->U3,underlying42->axO,underlying59->RH,underlying75->ax0,underlying79->Qw
open Go.RowKit renaming Below->MQ,Hid->M6,intOf->On,ownsRow_setCell_below->QX
open Go.RowKit.Below renaming heap_setCell->MU,refl->MY
open Go.Sem renaming run_bind->Pn
open Go.Value renaming agg->Ny,bool->M3,func->PB,int->MF,pointer->Na,slice->MG,tuple->Nv
open Go.World renaming block_lt_of_cell?->MX,cell?->Nl,frozen?->Ng,ownsRow_nil->NY
open Int renaming eq_ofNat_of_zero_le->NL,toNat_natCast->NR
open List renaming append_nil->OG,ext_getElem?->Ot,filter_append->OY,getD_eq_getElem?_getD->NK,getElem?_eq_getElem->MR,getElem?_eq_none->Nz,getElem_mem->Nk,length_filter_le->O1,length_map->N0,map_append->OI,map_nil->P5,mem_cons->OO,mem_or_eq_of_mem_set->OB,nil_append->Oz,range->Pm,range_succ->ZqB,replicate->Nj,take_of_length_le->N1,take_succ_cons->PT,take_succ_eq_append_getElem->M9
open Nat renaming le_refl->MV,le_trans->Nm,lt_of_lt_of_le->M8,zero_add->Oa,zero_le->Nx
open Ne renaming symm->Pi
open Option renaming none->MH,some->MI
open Or renaming inl->Nt,inr->NF
namespace Go.Proofs.YtmpokpecfclapaaGreatDoor.Q
set_option linter.unusedVariables false
set_option linter.unusedSimpArgs false
set_option maxHeartbeats 16000000
set_option maxRecDepth 100000
open Go.RowKit
attribute [local go_sem ↓] Go.wp_at_zero Go.wp_at_succ
variable {a b c d u v y:M7}{w w0:MO}{T:NU}{B H R base g k:Nat}
theorem auL:(Tryz.prog.info? 75).map (fun i=>(i.zero,i.size,i.bytes))=MI (MI (Ny #[MF ME 0,MF ME 0]),2,16):=by kernel_rfl
theorem ank{W w1:MO}(hb:MQ W.heap.size W w1):(∀b o,b<W.heap.size->w1.cell? ⟨b,o,MH⟩=W.cell? ⟨b,o,MH⟩)/\(∀b o,b<W.heap.size->w1.frozen? ⟨b,o,MH⟩=W.frozen? ⟨b,o,MH⟩):=
 ⟨fun b o h=>hb.cell (p:=⟨b,o,MH⟩) h,fun b o h=>hb.frozen (p:=⟨b,o,MH⟩) h⟩
theorem afp{fn:Func}{x y z:Tmp}{t u:NU}(h:fn.results=#[.cell x t,.cell y u,.tmp z]){tmps:Array M7}{P:O8}{p q:Oc}{v1 v2 v3:M7}(hx:tmps.getD x PL=Na (MI p))(hy:tmps.getD y PL=Na (MI q))(hz:tmps.getD z PL=v3)
  (h1:(loadVar t p).run P w=.ok v1 w) (h2:(loadVar u q).run P w=.ok v2 w):(Pf fn tmps).run P w=.ok (Nv #[v1,v2,v3]) w:=by
 have e:∀a:Oc,(asAddr (Na (MI a))).run P w=.ok a w:=fun a=>rfl
 simp only[Pg]at hx hy hz;simp[Pf,h,hx,hy,hz,e,h1,h2,Pn]
abbrev Sl:=Int×Bool×Int×Int
variable {l:List Sl}{x:Sl}
def XF:List Sl->List M7
 | []=>[]
 |t::l=>MF ME t.1::M3 t.2.1::MF ME t.2.2.1::MF ME t.2.2.2::XF l
theorem ac7:∀l:List Sl,(XF l).length=l.length*4
 | []=>rfl
 |t::l=>by simp[XF,ac7 l];omega
theorem adJ:∀(l:List Sl) (i:Nat) (h:i<l.length),(XF l)[i*4]?=MI (MF ME l[i].1)/\(XF l)[i*4+1]?=MI (M3 l[i].2.1)/\(XF l)[i*4+2]?=MI (MF ME l[i].2.2.1)/\(XF l)[i*4+3]?=MI (MF ME l[i].2.2.2)
 |t::l,0,_=>by simp[XF]
 |t::l,i+1,h=>by
  have e:=adJ l i (by simpa using h);rw[show(i+1)*4=i*4+1+1+1+1 by omega]
  simpa [XF]using e
theorem ann:∀(l:List Sl) (j:Nat) (t:Sl),((((XF l).set (j*4) (MF ME t.1)).set (j*4+1) (M3 t.2.1)).set (j*4+2) (MF ME t.2.2.1)).set (j*4+3) (MF ME t.2.2.2)=XF (l.set j t)
 | [],j,t=>by simp[XF]
 |x::l,0,t=>by simp[XF]
 |x::l,j+1,t=>by
  have:=ann l j t;rw[show(j+1)*4=j*4+1+1+1+1 by omega];simp[XF,this]
theorem auW(l:List Sl):∀u∈XF l,u.oneCell'=true:=by
 induction l with
 |nil=>simp[XF]
 |cons t l ih =>
  simp only[XF,OO];rintro u (rfl|rfl|rfl|rfl|h)
  ·rfl
  ·rfl
  ·rfl
  ·rfl
  ·exact ih u h
def Yy(w:MO)(v:M7)(l:List Sl):Prop:=XB w v l.length (XF l)
theorem Yy.below{w':MO}(h:Yy w v l)(hb:MQ w.heap.size w w'):Yy w' v l:=XB.below h hb
theorem Yy.F6(h:Yy w v l):
  ∃a cap,v=MG a l.length cap/\l.length<=cap/\cap<=NE/\∀i (hi:i<l.length),∃b off,a=MI ⟨b,off,MH⟩/\b<w.heap.size/\w.cell? ⟨b,off+i*4,MH⟩=MI (MF ME l[i].1)/\w.cell? ⟨b,off+i*4+1,MH⟩=MI (M3 l[i].2.1)/\w.cell? ⟨b,off+i*4+2,MH⟩=MI (MF ME l[i].2.2.1)/\w.cell? ⟨b,off+i*4+3,MH⟩=MI (MF ME l[i].2.2.2):=by
 obtain⟨a,cap,f,m,j,n|⟨b,off,n,o,e⟩⟩:=h
 ·exact⟨a,cap,f,m,j,fun i hi=>absurd hi (by omega)⟩
 ·refine⟨a,cap,f,m,j,fun i hi=>⟨b,off,n,o,?_,?_,?_,?_⟩⟩
  ·rw[e (i*4) (by rw[ac7];omega)];exact(adJ l i hi).1
  ·rw[Nat.add_assoc,e (i*4+1) (by rw[ac7];omega)];exact(adJ l i hi).2.1
  ·rw[Nat.add_assoc,e (i*4+2) (by rw[ac7];omega)];exact(adJ l i hi).2.2.1
  ·rw[Nat.add_assoc,e (i*4+3) (by rw[ac7];omega)];exact(adJ l i hi).2.2.2
theorem anm:(Tryz.prog.info? 79).map (fun i=>(i.zero,i.size,i.bytes))=MI (MI (Ny #[MF ME 0,M3 Nb,MF ME 0,MF ME 0]),4,32):=by kernel_rfl
abbrev ZX(t:Sl):Prop:=t.2.1=Nb/\t.2.2.1=0/\t.2.2.2=0
abbrev ac5(n:Int):Prop:=0<=n/\n<=4294967295
abbrev aca(n:Int):Prop:=0<=n/\n<12
abbrev Yt(t:Sl):Prop:=if t.2.1=Nw then(0<=t.1/\t.1<=1048575)/\ac5 t.2.2.1/\aca t.2.2.2 else(0<=t.1/\t.1<=1048576)/\t.2.2.1=0/\t.2.2.2=0
theorem auF(g:Int)(u:Bool)(k b:Int):(u=Nb/\k=0/\b=0)\/u=Nw\/(u=Nb/\(k == 0)=Nb)\/(u=Nb/\k=0/\(b == 0)=Nb):=by
 cases u
 ·by_cases h:k=0
  ·by_cases h2:b=0
   ·exact Nt ⟨rfl,h,h2⟩
   ·exact NF (NF (NF ⟨rfl,h,by simpa using h2⟩))
  ·exact NF (NF (Nt ⟨rfl,by simpa using h⟩))
 ·exact NF (Nt rfl)
theorem afo(g:Int)(u:Bool)(k b:Int)(w:MO) :
  Ni MK 32 #[Ny #[MF ME g,M3 u,MF ME k,MF ME b]] w fun r w'=>r=MN (M3 (Nn (ZX (g,u,k,b))))/\MQ w.heap.size w w':=by
 rcases auF g u k b with⟨rfl,rfl,rfl⟩|rfl|⟨rfl,h⟩|⟨rfl,rfl,h⟩
 ·have e:Nn (ZX (g,Nb,0,0))=true:=Nq ⟨rfl,rfl,rfl⟩
  rw[e];clear e;go_enter ayD,ayw;go_wp2;go_ret;exact⟨rfl,YF w⟩
 ·have e:Nn (ZX (g,Nw,k,b))=false:=M0 fun h=>by cases h.1
  rw[e];clear e;go_enter ayD,ayw;go_wp2;go_ret;exact⟨rfl,YF w⟩
 ·have e:Nn (ZX (g,Nb,k,b))=false:=M0 fun h2=>by have:=h2.2.1;simp at this;simp[this]at h
  rw[e];clear e;go_enter ayD,ayw;go_wp2;go_ret;exact⟨rfl,YF w⟩
 ·have e:Nn (ZX (g,Nb,0,b))=false:=M0 fun h2=>by have:=h2.2.2;simp at this;simp[this]at h
  rw[e];clear e;go_enter ayD,ayw;go_wp2;go_ret;exact⟨rfl,YF w⟩
theorem aen(n:Int)(w:MO):Ni MK 64 #[MF ME n] w fun r w'=>r=MN (M3 (Nn (ac5 n)))/\w'=w:=by
 obtain⟨e,f⟩:∃e,e=Nn (ac5 n):=⟨_,rfl⟩;rw[<-f];have H:M6 _:=f;clear f;cases h1:Nn (0<=n)
 ·have E:M6 (e=Nb):=by rw[H.out];exact M0 fun g=>Nc h1 g.1
  go_enter Wa,VN;go_wp2;go_ret;exact⟨by rw[E.out];rfl,rfl⟩
 cases h2:Nn (n<=4294967295)
 ·have E:M6 (e=Nb):=by rw[H.out];exact M0 fun g=>Nc h2 g.2
  go_enter Wa,VN;go_wp2;go_ret;exact⟨by rw[E.out];rfl,rfl⟩
 ·have E:M6 (e=Nw):=by rw[H.out];exact Nq ⟨M2 h1,M2 h2⟩
  go_enter Wa,VN;go_wp2;go_ret;exact⟨by rw[E.out];rfl,rfl⟩
theorem aem(n:Int)(w:MO):Ni MK 65 #[MF ME n] w fun r w'=>r=MN (M3 (Nn (aca n)))/\w'=w:=by
 obtain⟨e,f⟩:∃e,e=Nn (aca n):=⟨_,rfl⟩;rw[<-f];have H:M6 _:=f;clear f;cases h1:Nn (0<=n)
 ·have E:M6 (e=Nb):=by rw[H.out];exact M0 fun g=>Nc h1 g.1
  go_enter Sf,RV;go_wp2;go_ret;exact⟨by rw[E.out];rfl,rfl⟩
 cases h2:Nn (n<12)
 ·have E:M6 (e=Nb):=by rw[H.out];exact M0 fun g=>Nc h2 g.2
  go_enter Sf,RV;go_wp2;go_ret;exact⟨by rw[E.out];rfl,rfl⟩
 ·have E:M6 (e=Nw):=by rw[H.out];exact Nq ⟨M2 h1,M2 h2⟩
  go_enter Sf,RV;go_wp2;go_ret;exact⟨by rw[E.out];rfl,rfl⟩
theorem aux(g:Int)(u:Bool)(k b:Int):let ans:=Nn (¬Yt (g,u,k,b))
  (g<0/\ans=Nw)\/(0<=g/\1048576<g/\ans=Nw)\/(0<=g/\g<=1048576/\ZX (g,u,k,b)/\ans=Nb) \/
  (0<=g/\g<=1048576/\¬ZX (g,u,k,b)/\(u=Nb/\ans=Nw\/u=Nw/\((g == 1048576)=Nw/\ans=Nw\/(g == 1048576)=Nb/\(¬ac5 k/\ans=Nw\/ac5 k/\ans=Nn (¬aca b))))):=by
 intro ans
 by_cases h1:g<0
 ·refine Nt ⟨h1,Nq fun h=>?_⟩
  unfold Yt at h
  split at h <;> simp at h <;> omega
 by_cases h2:1048576<g
 ·refine NF (Nt ⟨by omega,h2,Nq fun h=>?_⟩)
  unfold Yt at h
  split at h <;> simp at h <;> omega
 by_cases h3:ZX (g,u,k,b)
 ·refine NF (NF (Nt ⟨by omega,by omega,h3,M0 fun h=>h ?_⟩))
  obtain⟨e,i,f⟩:=h3;unfold Yt;rw[e,Nf (by simp)];exact⟨⟨by simp;omega,by simp;omega⟩,i,f⟩
 refine NF (NF (NF ⟨by omega,by omega,h3,?_⟩));cases u
 ·refine Nt ⟨rfl,Nq fun h=>h3 ?_⟩
  unfold Yt at h;simp at h;exact⟨rfl,h.2⟩
 refine NF ⟨rfl,?_⟩
 by_cases h4:g=1048576
 ·refine Nt ⟨by simp[h4],Nq fun h=>?_⟩
  unfold Yt at h;simp at h;omega
 refine NF ⟨by simpa using h4,?_⟩
 by_cases h5:ac5 k
 ·refine NF ⟨h5,?_⟩
  refine decide_eq_decide.2 ⟨fun h hb=>h ?_,fun h h'=>h ?_⟩
  ·unfold Yt
   rw[Nh rfl];exact⟨⟨by simp;omega,by simp;omega⟩,h5,hb⟩
  ·unfold Yt at h'
   rw[Nh rfl]at h';exact h'.2.2
 ·refine Nt ⟨h5,Nq fun h=>h5 ?_⟩
  unfold Yt at h;rw[Nh rfl]at h;exact h.2.1
theorem auQ(g:Int)(u:Bool)(k b:Int)(w:MO) :
  Ni MK 45 #[Ny #[MF ME g,M3 u,MF ME k,MF ME b]] w fun r w'=>r=MN (M3 (Nn (¬Yt (g,u,k,b))))/\MQ w.heap.size w w':=by
 have m:=aux g u k b;revert m;generalize Nn (¬Yt (g,u,k,b))=ans;intro m;rcases m with⟨t,rfl⟩|⟨t,E,rfl⟩|⟨t,E,j,rfl⟩|⟨t,E,j,m⟩
 ·go_enter Se,RU
  go_wp2;go_ret;exact⟨rfl,YF w⟩
 ·go_enter Se,RU
  go_wp2;go_ret;exact⟨rfl,YF w⟩
 ·have s:M6 _:=Nq j
  clear j;go_enter Se,RU
  go_wp2_with fail
  refine(afo g u k b _).mono ?_;rw[s.out];rintro r n ⟨rfl,e⟩;have f:M6 _:=(YF w).trans (e.mono (by simp));clear e;go_wp2;go_ret;exact⟨rfl,f.out⟩
 ·have s:M6 _:=M0 j
  clear j;obtain⟨p,o⟩:∃p,p=w.alloc (MP #[MF ME g,M3 u,MF ME k,MF ME b] 79):=⟨_,rfl⟩;have A:p.heap[w.heap.size]?=MI (MP #[MF ME g,M3 u,MF ME k,MF ME b] 79 (0,0)):=by rw[o];exact M1 _ _
  have q:MQ w.heap.size w p:=by rw[o];exact YF w
  go_enter Se,RU
  go_wp2_with fail
  rw[<-o];refine(afo g u k b _).mono ?_;rw[s.out];rintro r n ⟨rfl,e⟩;have h:=WO A e;have f:M6 _:=q.trans (e.mono q.size);have I:n.cell? ⟨w.heap.size,0,MH⟩=MI (MF ME g):=by simp[Nl,h]
  have L:n.cell? ⟨w.heap.size,1,MH⟩=MI (M3 u):=by simp[Nl,h]
  have K:n.cell? ⟨w.heap.size,2,MH⟩=MI (MF ME k):=by simp[Nl,h]
  have J:n.cell? ⟨w.heap.size,3,MH⟩=MI (MF ME b):=by simp[Nl,h]
  clear e A h q o;rcases m with⟨rfl,rfl⟩|⟨rfl,⟨G,rfl⟩|⟨G,⟨i,rfl⟩|⟨i,C⟩⟩⟩
  ·go_wp2
   go_ret;exact⟨rfl,f.out⟩
  ·go_wp2
   go_ret;exact⟨rfl,f.out⟩
  ·have z:M6 _:=M0 i
   clear i
   go_wp2_with fail
   refine(aen _ _).mono ?_;rw[z.out];rintro r D ⟨rfl,rfl⟩;go_wp2;go_ret;exact⟨rfl,f.out⟩
  ·have z:M6 _:=Nq i
   have F:M6 (ans = !(Nn (aca b))):=C.trans decide_not;clear i C
   go_wp2_with fail
   refine(aen _ _).mono ?_;rw[z.out];rintro r D ⟨rfl,rfl⟩
   go_wp2_with fail
   refine(aem _ _).mono ?_;generalize Nn (aca b)=bb at *;rintro r D ⟨rfl,rfl⟩;go_wp2;go_ret;exact⟨by rw[F.out];rfl,f.out⟩
def Yz(q:Sl->Bool):List Sl->Option Nat
 | []=>MH
 |t::l=>if q t then MI 0 else(Yz q l).map (·+1)
theorem ai1{q:Sl->Bool}:∀ {l:List Sl},(∀t∈l,q t=Nb)->Yz q l=MH
 | [],_=>rfl
 |t::l,h=>by
  unfold Yz;rw[h t (by simp),ai1 (l:=l) fun x hx=>h x (by simp[hx])];rfl
theorem ai4{q:Sl->Bool}:∀ {l:List Sl} {k:Nat} (hk:k<l.length),(∀t∈l.take k,q t=Nb)->q l[k]=Nw->Yz q l=MI k
 |t::l,0,_,_,h=>by
  unfold Yz;rw[Nh (by simpa using h)]
 |t::l,k+1,hk,h1,h2=>by
  unfold Yz;rw[Nf (by rw[h1 t (by simp)];simp),ai4 (l:=l) (k:=k) (by simpa using hk) (fun x hx=>h1 x (by simp[hx])) (by simpa using h2)];rfl
def agN(t:Sl):Bool:=Nn (¬Yt t)
theorem auK(v:M7)(l:List Sl)(w:MO)(hv:Yy w v l) :
  Ni MK 63 #[v,PB (PD 45) #[] #[]] w fun r w'=>r=MN (MF ME (Yn (Yz agN l)))/\MQ w.heap.size w w':=by
 obtain⟨q,G⟩:∃q,q=agN:=⟨_,rfl⟩;obtain⟨a,ca,rfl,a0,Z,J⟩:=hv.F6;unfold NE at Z;have S:M6 (∀(g:Int) (u:Bool) (k b:Int) (W:MO),Ni MK 45 #[Ny #[MF ME g,M3 u,MF ME k,MF ME b]] W fun r w'=>r=MN (M3 (q (g,u,k,b)))/\MQ W.heap.size W w'):=by rw[G];exact fun g u k b W=>auQ g u k b W
 rw[<-G];obtain⟨j,D⟩:∃j,j=Yn (Yz q l):=⟨_,rfl⟩;rw[<-D];have H:M6 _:=D;clear hv D G;go_enter Tryz.func63,Tryz.ntmps63;go_wp2
 go_loopw [8] (fun i wr=>∃k:Nat,i=MF ME k/\k<=l.length/\(∀t∈l.take k,q t=Nb)/\MQ w.heap.size w wr) (fun i _=>l.length-(On i).toNat)
 case atStart=>exact⟨0,rfl,Nx _,by simp,MY _ _⟩
 case round =>
  obtain⟨k,rfl,hk,m,f⟩:=hrel
  by_cases hlt:k<l.length
  ·obtain⟨C,A,rfl,o,V,Q,U,Y⟩:=J k hlt
   have e1:=(f.cell (p:=⟨C,A+k*4,MH⟩) o).trans V;have e2:=(f.cell (p:=⟨C,A+k*4+1,MH⟩) o).trans Q;have e3:=(f.cell (p:=⟨C,A+k*4+2,MH⟩) o).trans U;have e4:=(f.cell (p:=⟨C,A+k*4+3,MH⟩) o).trans Y;have s:M6 (_/\_):=⟨m,f⟩;have a1:(k:Int)<(l.length:Int):=by omega
   have F:l.take (k+1)=l.take k++[l[k]]:=M9 hlt;have E:q l[k]=Nw->Yz q l=MI k:=fun h=>ai4 hlt m h
   have z:∃x,x=l[k]:=⟨_,rfl⟩;obtain⟨⟨M,O,N,K⟩,z⟩:=z;rw[<-z]at e1 e2 e3 e4 F E;have P:M6 (_/\_):=⟨F,E⟩;clear m f V Q U Y o J F E z;cases hd:q (M,O,N,K)
   ·go_wp2_with fail
    refine(S.out M O N K _).mono ?_;rw[hd];rintro r w2 ⟨rfl,n⟩;have I:M6 _:=n;clear n;go_wp2
    go_roundw
    case rel =>
     refine⟨k+1,by simp,hlt,fun t e=>?_,s.out.2.trans (I.out.mono s.out.2.size)⟩;rw[P.out.1]at e;rcases List.mem_append.1 e with e|e
     ·exact s.out.1 t e
     ·simp at e
      rw[e];exact hd
    case measure=>simp[On];omega
   ·go_wp2_with fail
    refine(S.out M O N K _).mono ?_;rw[hd];rintro r w2 ⟨rfl,n⟩;have L:M6 (j=(k:Int)):=by show j=_;rw[H.out,P.out.2 hd];rfl
    have I:M6 _:=n;clear n;go_wp2;go_ret;exact⟨by rw[L.out];rfl,s.out.2.trans (I.out.mono s.out.2.size)⟩
  ·have L:M6 (j = -1):=by
    show j=_;rw[H.out,ai1 fun t e=>m t (by rw[N1 (by omega)];exact e)];rfl
   have HB:M6 _:=f;clear m f J;go_wp2;go_ret;exact⟨by rw[L.out];rfl,HB.out⟩
def aaU(t:Sl):Bool:=Nn (ZX t) && (t.1 != 1048576)
theorem auT(g:Int)(u:Bool)(k b:Int)(w:MO) :
  Ni MK 173 #[Ny #[MF ME g,M3 u,MF ME k,MF ME b]] w fun r w'=>r=MN (M3 (aaU (g,u,k,b)))/\MQ w.heap.size w w':=by
 have m:aaU (g,u,k,b)=(Nn (ZX (g,u,k,b)) && (g != 1048576)):=rfl;obtain⟨o,i⟩:∃o,o=aaU (g,u,k,b):=⟨_,rfl⟩;rw[<-i];rw[<-i]at m;have H:M6 _:=m;obtain⟨f,e⟩:∃f,f=w.alloc (MP #[MF ME g,M3 u,MF ME k,MF ME b] 79):=⟨_,rfl⟩;have q:f.heap[w.heap.size]?=MI (MP #[MF ME g,M3 u,MF ME k,MF ME b] 79 (0,0)):=by rw[e];exact M1 _ _
 have n:MQ w.heap.size w f:=by rw[e];exact YF w
 have h:M6 (_/\_/\_):=⟨e,q,n⟩;clear i m e q n;go_enter Tryz.func173,Tryz.ntmps173
 go_wp2_with fail
 rw[<-h.out.1];refine(afo g u k b _).mono ?_;generalize Nn (ZX (g,u,k,b))=fr at *;rintro r t ⟨rfl,j⟩;have p:=WO h.out.2.1 j;have z:t.cell? ⟨w.heap.size,0,MH⟩=MI (MF ME g):=by simp[Nl,p]
 have s:M6 _:=h.out.2.2.trans (j.mono h.out.2.2.size);clear j p;cases fr
 ·go_wp2
  go_ret;exact⟨by rw[H.out];rfl,s.out⟩
 ·go_wp2
  go_ret;exact⟨by rw[H.out];rfl,s.out⟩
theorem anl(v:M7)(l:List Sl)(w:MO)(hv:Yy w v l) :
  Ni MK 63 #[v,PB (PD 173) #[] #[]] w fun r w'=>r=MN (MF ME (Yn (Yz aaU l)))/\MQ w.heap.size w w':=by
 obtain⟨q,G⟩:∃q,q=aaU:=⟨_,rfl⟩;obtain⟨a,ca,rfl,a0,Z,J⟩:=hv.F6;unfold NE at Z;have S:M6 (∀(g:Int) (u:Bool) (k b:Int) (W:MO),Ni MK 173 #[Ny #[MF ME g,M3 u,MF ME k,MF ME b]] W fun r w'=>r=MN (M3 (q (g,u,k,b)))/\MQ W.heap.size W w'):=by rw[G];exact fun g u k b W=>auT g u k b W
 rw[<-G];obtain⟨j,D⟩:∃j,j=Yn (Yz q l):=⟨_,rfl⟩;rw[<-D];have H:M6 _:=D;clear hv D G;go_enter Tryz.func63,Tryz.ntmps63;go_wp2
 go_loopw [8] (fun i wr=>∃k:Nat,i=MF ME k/\k<=l.length/\(∀t∈l.take k,q t=Nb)/\MQ w.heap.size w wr) (fun i _=>l.length-(On i).toNat)
 case atStart=>exact⟨0,rfl,Nx _,by simp,MY _ _⟩
 case round =>
  obtain⟨k,rfl,hk,m,f⟩:=hrel
  by_cases hlt:k<l.length
  ·obtain⟨C,A,rfl,o,V,Q,U,Y⟩:=J k hlt
   have e1:=(f.cell (p:=⟨C,A+k*4,MH⟩) o).trans V;have e2:=(f.cell (p:=⟨C,A+k*4+1,MH⟩) o).trans Q;have e3:=(f.cell (p:=⟨C,A+k*4+2,MH⟩) o).trans U;have e4:=(f.cell (p:=⟨C,A+k*4+3,MH⟩) o).trans Y;have s:M6 (_/\_):=⟨m,f⟩;have a1:(k:Int)<(l.length:Int):=by omega
   have F:l.take (k+1)=l.take k++[l[k]]:=M9 hlt;have E:q l[k]=Nw->Yz q l=MI k:=fun h=>ai4 hlt m h
   have z:∃x,x=l[k]:=⟨_,rfl⟩;obtain⟨⟨M,O,N,K⟩,z⟩:=z;rw[<-z]at e1 e2 e3 e4 F E;have P:M6 (_/\_):=⟨F,E⟩;clear m f V Q U Y o J F E z;cases hd:q (M,O,N,K)
   ·go_wp2_with fail
    refine(S.out M O N K _).mono ?_;rw[hd];rintro r w2 ⟨rfl,n⟩;have I:M6 _:=n;clear n;go_wp2
    go_roundw
    case rel =>
     refine⟨k+1,by simp,hlt,fun t e=>?_,s.out.2.trans (I.out.mono s.out.2.size)⟩;rw[P.out.1]at e;rcases List.mem_append.1 e with e|e
     ·exact s.out.1 t e
     ·simp at e
      rw[e];exact hd
    case measure=>simp[On];omega
   ·go_wp2_with fail
    refine(S.out M O N K _).mono ?_;rw[hd];rintro r w2 ⟨rfl,n⟩;have L:M6 (j=(k:Int)):=by show j=_;rw[H.out,P.out.2 hd];rfl
    have I:M6 _:=n;clear n;go_wp2;go_ret;exact⟨by rw[L.out];rfl,s.out.2.trans (I.out.mono s.out.2.size)⟩
  ·have L:M6 (j = -1):=by
    show j=_;rw[H.out,ai1 fun t e=>m t (by rw[N1 (by omega)];exact e)];rfl
   have HB:M6 _:=f;clear m f J;go_wp2;go_ret;exact⟨by rw[L.out];rfl,HB.out⟩
theorem ai3{q:Sl->Bool}:∀ {l:List Sl},(0<=Yn (Yz q l))↔∃t∈l,q t=Nw
 | []=>by simp[Yz,Yn]
 |t::l=>by
  unfold Yz;have i:=ai3 (q:=q) (l:=l)
  by_cases h:q t=Nw
  ·rw[Nh h]
   exact⟨fun _=>⟨t,by simp,h⟩,fun _=>by show(0:Int)<=((0:Nat):Int);omega⟩
  ·rw[Nf h]
   constructor
   ·intro j
    cases hf:Yz q l with
    |none=>rw[hf]at j;simp[Yn]at j
    |some k =>
     obtain⟨x,e,f⟩:=i.1 (by rw[hf];show(0:Int)<=(k:Int);omega);exact⟨x,by simp[e],f⟩
   ·rintro⟨x,e,f⟩
    rcases List.mem_cons.1 e with rfl|e
    ·exact absurd f h
    ·have:=i.2 ⟨x,e,f⟩
     cases hf:Yz q l with
     |none=>rw[hf]at this;simp[Yn]at this
     |some k=>show(0:Int)<=((k+1:Nat):Int);omega
theorem auC(v:M7)(l:List Sl)(w:MO)(hv:Yy w v l) :
  Ni MK 44 #[v,PB (PD 45) #[] #[]] w fun r w'=>r=MN (M3 (Nn (¬ ∀t∈l,Yt t)))/\MQ w.heap.size w w':=by
 have o:M6 _:=hv;have i:Nn (¬ ∀t∈l,Yt t)=Nn (0<=Yn (Yz agN l)):=by
  refine decide_eq_decide.2 ?_;rw[ai3];constructor
  ·intro h
   refine PM fun hn=>h fun t ht=>PM fun ht2=>hn ⟨t,ht,Nq ht2⟩
  ·rintro⟨t,ht,h⟩ hall
   exact M2 h (hall t ht)
 rw[i];obtain⟨j,e⟩:∃j,j=Yn (Yz agN l):=⟨_,rfl⟩;rw[<-e];have m:M6 _:=e;clear i hv e;go_enter Tk,SQ
 go_wp2_with fail
 refine(auK v l w o.out).mono ?_;rw[<-m.out];rintro r p ⟨rfl,f⟩;have n:M6 _:=f;clear f;go_wp2;go_ret;exact⟨rfl,n.out⟩
abbrev Z6(l:List Sl):Prop:=(1<=l.length/\l.length<=40)/\∀t∈l,Yt t
theorem agO(v:M7)(l:List Sl)(w:MO)(hv:Yy w v l) :
  Ni MK 31 #[Ny #[v]] w fun r w'=>r=MN (MF ME (if Z6 l then 0 else 6))/\MQ w.heap.size w w':=by
 obtain⟨e,j⟩:∃e:Int,e=if Z6 l then 0 else 6:=⟨_,rfl⟩
 rw[<-j];have H:M6 _:=j;clear j;obtain⟨p,c,rfl,A,s,_⟩:=hv.F6;unfold NE at s;have q:M6 _:=hv;clear hv;cases h1:Nn ((l.length:Int)<1)
 case true =>
  have E:M6 (e=6):=by
   show e=6;rw[H.out,Nf fun h=>by have:=h.1.1;have:=M2 h1;omega]
  go_enter WI,WA;go_wp2;go_ret;exact⟨by rw[E.out];rfl,YF w⟩
 cases h2:Nn (40<(l.length:Int))
 case true =>
  have E:M6 (e=6):=by
   show e=6;rw[H.out,Nf fun h=>by have:=h.1.2;have:=M2 h2;omega]
  go_enter WI,WA;go_wp2;go_ret;exact⟨by rw[E.out];rfl,YF w⟩
 obtain⟨f,i⟩:∃f,f=Nn (¬ ∀t∈l,Yt t):=⟨_,rfl⟩;have E:M6 (e=if f then 6 else 0):=by
  show e=_;rw[H.out,i];have z:=Nc h1;have C:=Nc h2
  by_cases h:∀t∈l,Yt t
  ·rw[Nh ⟨⟨by omega,by omega⟩,h⟩,M0 (by simpa using h)]
   rfl
  ·rw[Nf fun h'=>h h'.2,Nq h]
   rfl
 have o:M6 _:=i;clear i H;go_enter WI,WA
 go_wp2_with fail
 refine(auC _ l _ (q.out.below (YF w))).mono ?_;rw[<-o.out];rintro r D ⟨rfl,m⟩;have n:M6 _:=(YF w).trans (m.mono (by simp));clear m o;cases f
 ·go_wp2
  go_ret;exact⟨by rw[E.out];rfl,n.out⟩
 ·go_wp2
  go_ret;exact⟨by rw[E.out];rfl,n.out⟩
def Yj(l:List Sl)(s g:Int):Sl×Int :=
 if ¬Z6 l then((0,Nb,0,0),6)else if ¬(0<=s/\s<l.length)then((0,Nb,0,0),8)else
  let x:=l.getD s.toNat (0,Nb,0,0)
  if x.2.1=Nw/\x.1=g then(x,0)else((0,Nb,0,0),10)
theorem ajb(h:Yt x):¬ZX x↔x.2.1=true:=by
 unfold Yt at h;unfold ZX
 by_cases hu:x.2.1=Nw
 ·simp[hu]
 ·rw[Nf hu]at h
  simp only[Qc]at hu;simp[hu,h.2.1,h.2.2]
def adK(x:Sl):Value:=Ny #[MF ME x.1,M3 x.2.1,MF ME x.2.2.1,MF ME x.2.2.2]
def ani(w:MO)(g:Nat)(a b c d:M7):Prop :=
 (w.cell? ⟨g,0,MH⟩=MI a/\w.cell? ⟨g,1,MH⟩=MI b/\w.cell? ⟨g,2,MH⟩=MI c/\w.cell? ⟨g,3,MH⟩=MI d)/\(w.frozen? ⟨g,0,MH⟩=Nb/\w.frozen? ⟨g,1,MH⟩=Nb/\w.frozen? ⟨g,2,MH⟩=Nb/\w.frozen? ⟨g,3,MH⟩=Nb)
theorem auz(h:w.heap[g]?=MI (MP #[a,b,c,d] T (0,0))):ani w g a b c d:=by
 unfold ani;simp[Nl,Ng,h]
theorem ael{a' b' c' d':M7}(h:w.heap[g]?=MI (MP #[a,b,c,d] T (0,0))):
  ((((w.setCell ⟨g,0,MH⟩ a').setCell ⟨g,1,MH⟩ b').setCell ⟨g,2,MH⟩ c').setCell ⟨g,3,MH⟩ d').heap[g]?=MI (MP #[a',b',c',d'] T (0,0)):=
 NI _ _ 3 _ _ d' (NI _ _ 2 _ _ c' (NI _ _ 1 _ _ b' (NI w g 0 _ _ a' h)))
theorem aek(h:MQ B w0 w)(hg:B<=g):MQ B w0 ((((w.setCell ⟨g,0,MH⟩ a).setCell ⟨g,1,MH⟩ b).setCell ⟨g,2,MH⟩ c).setCell ⟨g,3,MH⟩ d):=
 (((h.setCell hg _).setCell hg _).setCell hg _).setCell hg _
theorem ai6{s g:Int}(hok:Z6 l)(h:s<0\/(l.length:Int)<=s):Yj l s g=((0,Nb,0,0),8):=by
 unfold Yj;rw[Nf (not_not_intro hok),Nh (by omega)]
theorem ai8{g:Int}(hok:Z6 l)(hk:k<l.length)(hx:x=l[k]):Yj l k g=if x.2.1=Nw/\x.1=g then(x,0)else((0,Nb,0,0),10):=by
 unfold Yj;rw[Nf (not_not_intro hok),Nf (by omega)];have:l.getD (k:Int).toNat (0,Nb,0,0)=x:=by
  rw[NR,NK,MR hk,hx];rfl
 rw[this]
theorem ai5(v:M7)(l:List Sl)(s g:Int)(w:MO)(hv:Yy w v l) :
  Ni MK 20 #[Ny #[v],Ny #[MF ME s,MF ME g]] w fun r w'=>r=MN (Nv #[adK (Yj l s g).1,MF ME (Yj l s g).2])/\MQ w.heap.size w w':=by
 obtain⟨p,c,rfl,hc,hm,M⟩:=hv.F6;unfold NE at hm;obtain⟨I,E⟩:∃I,I=((w.alloc (MP #[MG p l.length c] 42)).alloc (MP #[MF ME s,MF ME g] 75)).alloc (MP #[MF ME 0,M3 Nb,MF ME 0,MF ME 0] 79):=⟨_,rfl⟩;have b0:MQ w.heap.size w I:=by rw[E];exact(((MY _ _).alloc (MV _) _).alloc (by simp) _).alloc (by simp;omega) _
 have a5:I.heap[w.heap.size]?=MI (MP #[MG p l.length c] 42 (0,0)):=by rw[E];exact Xy _ _ (Xy _ _ (M1 _ _))
 have a9:I.heap[w.heap.size+1]?=MI (MP #[MF ME s,MF ME g] 75 (0,0)):=by rw[E];exact Xy _ _ (Yu _ _ _)
 have a8:I.heap[w.heap.size+1+1]?=MI (MP #[MF ME 0,M3 Nb,MF ME 0,MF ME 0] 79 (0,0)):=by rw[E];have:=M1 ((w.alloc (MP #[MG p l.length c] 42)).alloc (MP #[MF ME s,MF ME g] 75)) (MP #[MF ME 0,M3 Nb,MF ME 0,MF ME 0] 79);simpa using this
 have z:M6 (_/\_/\_/\_/\_/\_):=⟨hv,b0,a5,a9,a8,E⟩;clear hv b0 a5 a9 a8 E;go_enter Tryz.func20,Tryz.ntmps20
 go_wp2_with fail
 rw[<-z.out.2.2.2.2.2];refine(agO _ l _ (z.out.1.below z.out.2.1)).mono ?_;rintro r e ⟨rfl,j⟩;have o:=WO z.out.2.2.2.2.1 j;have a1:=WO z.out.2.2.1 j;have a4:=WO z.out.2.2.2.1 j;have s0:e.cell? ⟨w.heap.size+1+1,0,MH⟩=MI (MF ME 0):=by simp[Nl,o]
 have s1:e.cell? ⟨w.heap.size+1+1,1,MH⟩=MI (M3 Nb):=by simp[Nl,o]
 have s2:e.cell? ⟨w.heap.size+1+1,2,MH⟩=MI (MF ME 0):=by simp[Nl,o]
 have s3:e.cell? ⟨w.heap.size+1+1,3,MH⟩=MI (MF ME 0):=by simp[Nl,o]
 have f0:e.frozen? ⟨w.heap.size+1+1,0,MH⟩=false:=by simp[Ng,o]
 have f1:e.frozen? ⟨w.heap.size+1+1,1,MH⟩=false:=by simp[Ng,o]
 have f2:e.frozen? ⟨w.heap.size+1+1,2,MH⟩=false:=by simp[Ng,o]
 have f3:e.frozen? ⟨w.heap.size+1+1,3,MH⟩=false:=by simp[Ng,o]
 have t0:=Xu a1;obtain⟨h0,h1,_⟩:=Xa a4;have G:M6 (_/\_/\_/\_):=⟨j,o,a1,a4⟩;clear j o a1 a4;have F:M6 _:=z.out.2.1.trans (G.out.1.mono z.out.2.1.size)
 by_cases hok:Z6 l
 ·rw[Nh hok]
  by_cases hs0:s<0
  ·have n:M6 _:=ai6 (g:=g) hok (Nt hs0)
   clear M hok;go_wp2;exact Np (v:=Nv #[adK (0,Nb,0,0),MF ME 8]) (XT ax2 rfl rfl (Xp (P:=MK) (cs:=[MF ME 0,M3 Nb,MF ME 0,MF ME 0]) (ael G.out.2.1) Qw rfl (by kernel_rfl))) rfl ⟨by rw[n.out],aek F.out (by omega)⟩
  by_cases hs1:(l.length:Int)<=s
  ·have n:M6 _:=ai6 (g:=g) hok (NF hs1)
   clear M hok;go_wp2;exact Np (v:=Nv #[adK (0,Nb,0,0),MF ME 8]) (XT ax2 rfl rfl (Xp (P:=MK) (cs:=[MF ME 0,M3 Nb,MF ME 0,MF ME 0]) (ael G.out.2.1) Qw rfl (by kernel_rfl))) rfl ⟨by rw[n.out],aek F.out (by omega)⟩
  obtain⟨k,rfl⟩:=NL (a:=s) (by omega);have hk:k<l.length:=by omega
  have b3:(k:Int)<(l.length:Int):=by omega
  obtain⟨Z,Y,rfl,j,c1,c2,c3,c4⟩:=M k hk;have K:=F.out;have e1:=(K.cell (p:=⟨Z,Y+k*4,MH⟩) j).trans c1;have e2:=(K.cell (p:=⟨Z,Y+k*4+1,MH⟩) j).trans c2;have e3:=(K.cell (p:=⟨Z,Y+k*4+2,MH⟩) j).trans c3;have e4:=(K.cell (p:=⟨Z,Y+k*4+3,MH⟩) j).trans c4;obtain⟨⟨t,A,D,C⟩,S⟩:∃x,x=l[k]:=⟨_,rfl⟩;rw[<-S]at e1 e2 e3 e4;have f:=ai8 (g:=g) hok hk S;have m:=ajb (hok.2 l[k] (Nk hk));rw[<-S]at m;have n:M6 (_/\_):=⟨f,m⟩;obtain⟨V,Q⟩:∃V,V=e.alloc (MP #[MF ME t,M3 A,MF ME D,MF ME C] 79):=⟨_,rfl⟩;have a7:V.heap[e.heap.size]?=MI (MP #[MF ME t,M3 A,MF ME D,MF ME C] 79 (0,0)):=by rw[Q];exact M1 _ _
  have a6:MQ e.heap.size e V:=by rw[Q];exact YF e
  have U:M6 (_/\_/\_):=⟨Q,a7,a6⟩;clear f m S hok M c1 c2 c3 c4 j hs0 hs1 K Q a7 a6
  go_wp2_with fail
  rw[<-U.out.1];refine(afo t A D C _).mono ?_;rintro r i ⟨rfl,a2⟩;have L:=WO U.out.2.1 a2;have O:=U.out.2.2.trans (a2.mono U.out.2.2.size);have q:=WO G.out.2.1 O;have b2:=WO G.out.2.2.2 O;have u0:i.cell? ⟨w.heap.size+1+1,0,MH⟩=MI (MF ME 0):=by simp[Nl,q]
  have u1:i.cell? ⟨w.heap.size+1+1,1,MH⟩=MI (M3 Nb):=by simp[Nl,q]
  have u2:i.cell? ⟨w.heap.size+1+1,2,MH⟩=MI (MF ME 0):=by simp[Nl,q]
  have u3:i.cell? ⟨w.heap.size+1+1,3,MH⟩=MI (MF ME 0):=by simp[Nl,q]
  have v0:i.frozen? ⟨w.heap.size+1+1,0,MH⟩=false:=by simp[Ng,q]
  have v1:i.frozen? ⟨w.heap.size+1+1,1,MH⟩=false:=by simp[Ng,q]
  have v2:i.frozen? ⟨w.heap.size+1+1,2,MH⟩=false:=by simp[Ng,q]
  have v3:i.frozen? ⟨w.heap.size+1+1,3,MH⟩=false:=by simp[Ng,q]
  have z0:i.cell? ⟨e.heap.size,0,MH⟩=MI (MF ME t):=by simp[Nl,L]
  have z1:i.cell? ⟨e.heap.size,1,MH⟩=MI (M3 A):=by simp[Nl,L]
  have z2:i.cell? ⟨e.heap.size,2,MH⟩=MI (MF ME D):=by simp[Nl,L]
  have z3:i.cell? ⟨e.heap.size,3,MH⟩=MI (MF ME C):=by simp[Nl,L]
  obtain⟨y0,y1,_⟩:=Xa b2;have a3:M6 _:=F.out.trans (O.mono F.out.size);have a0:M6 _:=q;clear L a2 O q b2 s0 s1 s2 s3 f0 f1 f2 f3 t0 h0 h1 e1 e2 e3 e4
  by_cases m:ZX (t,A,D,C)
  ·have J:=Nq m
   have f:Yj l k g=((0,Nb,0,0),10):=by
    rw[n.out.1,Nf fun h=>(n.out.2.2 h.1) m]
   have N:M6 _:=f;rw[J];clear f J m;go_wp2;exact Np (v:=Nv #[adK (0,Nb,0,0),MF ME 10]) (XT ax2 rfl rfl (Xp (P:=MK) (cs:=[MF ME 0,M3 Nb,MF ME 0,MF ME 0]) (ael a0.out) Qw rfl (by kernel_rfl))) rfl ⟨by rw[N.out],aek a3.out (by omega)⟩
  ·have J:=M0 m
   rw[J];have hu:=n.out.2.1 m;cases hgn:(t != g)
   ·have f:Yj l k g=((t,A,D,C),0):=by
     rw[n.out.1,Nh ⟨hu,by simpa using hgn⟩]
    have N:M6 _:=f;clear f J m hu;go_wp2;exact Np (v:=Nv #[adK (t,A,D,C),MF ME 0]) (XT ax2 rfl rfl (Xp (P:=MK) (cs:=[MF ME t,M3 A,MF ME D,MF ME C]) (ael a0.out) Qw rfl (by kernel_rfl))) rfl ⟨by rw[N.out],aek a3.out (by omega)⟩
   ·have f:Yj l k g=((0,Nb,0,0),10):=by
     rw[n.out.1,Nf fun h=>by have:=h.2;simp at hgn;exact hgn this]
    have N:M6 _:=f;clear f J m hu;go_wp2;exact Np (v:=Nv #[adK (0,Nb,0,0),MF ME 10]) (XT ax2 rfl rfl (Xp (P:=MK) (cs:=[MF ME 0,M3 Nb,MF ME 0,MF ME 0]) (ael a0.out) Qw rfl (by kernel_rfl))) rfl ⟨by rw[N.out],aek a3.out (by omega)⟩
 ·rw[Nf hok]
  have f:Yj l s g=((0,Nb,0,0),6):=by unfold Yj;rw[Nh hok]
  have n:M6 _:=f;clear f M;go_wp2;exact Np (v:=Nv #[adK (0,Nb,0,0),MF ME 6]) (XT ax2 rfl rfl (Xp (P:=MK) (cs:=[MF ME 0,M3 Nb,MF ME 0,MF ME 0]) (ael G.out.2.1) Qw rfl (by kernel_rfl))) rfl ⟨by rw[n.out],aek F.out (by omega)⟩
theorem auB(v:M7)(l:List Sl)(w:MO)(hv:Yy w v l)(h0:0<l.length)(hl:l.length<=1048576) :
  Ni MK 76 #[v] w fun r w'=>∃g c,r=MN (MG (MI ⟨g,0,MH⟩) l.length c)/\w'.ownsRow w.heap.size 79 4 (MG (MI ⟨g,0,MH⟩) l.length c) l.length (XF l)/\MQ w.heap.size w w':=by
 obtain⟨a,o,rfl,M,N,h⟩:=hv;rcases h with⟨h,_⟩|⟨b,f,rfl,A,m⟩
 ·omega
 ·obtain⟨C,F,q,s,z⟩:=OF anm
  have n:∀j u,(XF l)[j]?=MI u->(w.alloc (MP #[] 79)).cell? ((⟨b,f,MH⟩:Oc).add j)=MI u:=fun j u hu=>by
   have D:=(List.getElem?_eq_some_iff.1 hu).1;rw[aas,(YF w).cell (p:=⟨b,f+j,MH⟩) A,m j D,hu]
  have E:M6 _:=n;have K:∀W,(binOp .eql 40 (MG (MI ⟨b,f,MH⟩) l.length o) (MG MH 0 0)).run MK W=.ok (M3 Nb) W:=fun W=>by kernel_rfl
  clear n m;go_enter Tryz.func76,Tryz.ntmps76
  go_wp2_with (first|(at_builtin;refine O9 _ rfl _ _ 40 rfl w.heap.size 79 C _ 4 32 U3 F q s z rfl (by decide) (MG (MI ⟨w.heap.size,0,MH⟩) 0 0) 0 [] rfl (ai9 (M1 _ _) (MV _)) ⟨b,f,MH⟩ l.length o (XF l) rfl (ac7 l) E.out (auW l) h0 (by unfold NE;omega) (by omega) (by simp) _ rfl ?_;intro I G O i t J L))
  go_wp2;go_ret;refine⟨I,G,by simp,?_,?_⟩
  ·rw[Oa,Oz]at i
   exact i
  ·exact(YF w).grown t (by simp) (fun j e=>by cases e;exact MV _)
theorem auX{n cap:Nat}(h:w.ownsRow base 79 4 (MG (MI ⟨g,0,MH⟩) n cap) n (XF l))(i:Nat)(x:Sl):
  ((((w.setCell ⟨g,i*4,MH⟩ (MF ME x.1)).setCell ⟨g,i*4+1,MH⟩ (M3 x.2.1)).setCell ⟨g,i*4+2,MH⟩ (MF ME x.2.2.1)).setCell ⟨g,i*4+3,MH⟩ (MF ME x.2.2.2)).ownsRow base 79 4 (MG (MI ⟨g,0,MH⟩) n cap) n (XF (l.set i x)):=by
 have e:=((((h.stored (i*4) (MF ME x.1)).1.stored (i*4+1) (M3 x.2.1)).1.stored (i*4+2) (MF ME x.2.2.1)).1.stored (i*4+3) (MF ME x.2.2.2)).1;rw[ann]at e;exact e
theorem auy{o:Nat}(h:MQ B w0 w)(hg:B<=g):MQ B w0 ((((w.setCell ⟨g,o,MH⟩ a).setCell ⟨g,o+1,MH⟩ b).setCell ⟨g,o+2,MH⟩ c).setCell ⟨g,o+3,MH⟩ d):=
 (((h.setCell hg _).setCell hg _).setCell hg _).setCell hg _
theorem auA{h o:Nat}{ob:Obj}(hh:w.heap[h]?=MI ob)(hne:h≠g):((((w.setCell ⟨g,o,MH⟩ a).setCell ⟨g,o+1,MH⟩ b).setCell ⟨g,o+2,MH⟩ c).setCell ⟨g,o+3,MH⟩ d).heap[h]?=MI ob:=by
 rw[MU _ _ _ _ (by simpa using hne),MU _ _ _ _ (by simpa using hne),MU _ _ _ _ (by simpa using hne),MU _ _ _ _ (by simpa using hne)];exact hh
theorem ac6(h:w.heap[g]?=MI (MP #[u] T (0,0))):(w.setCell ⟨g,0,MH⟩ v).heap[g]?=MI (MP #[v] T (0,0)):=by
 have:=NI w g 0 _ _ v h
 simpa using this
theorem ajc(v:M7)(l:List Sl)(i:Nat)(x1:Int)(x2:Bool)(x3 x4:Int)(w:MO)(hv:Yy w v l)(hi:i<l.length)(hl:l.length<=40) :
  Ni MK 174 #[Ny #[v],MF ME i,Ny #[MF ME x1,M3 x2,MF ME x3,MF ME x4]] w fun r w'=>∃p c,r=MN (Ny #[MG p l.length c])/\w'.ownsRow w.heap.size 79 4 (MG p l.length c) l.length (XF (l.set i (x1,x2,x3,x4)))/\MQ w.heap.size w w':=by
 obtain⟨p,c,rfl,_⟩:=hv.F6;obtain⟨n,h⟩:∃n,n=((w.alloc (MP #[MG p l.length c] 42)).alloc (MP #[MF ME x1,M3 x2,MF ME x3,MF ME x4] 79)).alloc (MP #[MG MH 0 0] 42):=⟨_,rfl⟩;have D:MQ w.heap.size w n:=by rw[h];exact(((MY _ _).alloc (MV _) _).alloc (by simp) _).alloc (by simp;omega) _
 have E:n.heap[w.heap.size+1]?=MI (MP #[MF ME x1,M3 x2,MF ME x3,MF ME x4] 79 (0,0)):=by rw[h];exact Xy _ _ (Yu _ _ _)
 have C:n.heap[w.heap.size+1+1]?=MI (MP #[MG MH 0 0] 42 (0,0)):=by rw[h];have:=M1 ((w.alloc (MP #[MG p l.length c] 42)).alloc (MP #[MF ME x1,M3 x2,MF ME x3,MF ME x4] 79)) (MP #[MG MH 0 0] 42);simpa using this
 have s:n.heap.size=w.heap.size+3:=by rw[h];simp
 have f:M6 (_/\_/\_/\_/\_/\_):=⟨hv,D,E,C,s,h⟩;clear hv D E C s h;go_enter Wr,Wf
 go_wp2_with fail
 rw[<-f.out.2.2.2.2.2];refine(auB _ l _ (f.out.1.below f.out.2.1) (by omega) (by omega)).mono ?_;rintro r O ⟨g,t,rfl,e,j⟩;have z:=WO f.out.2.2.1 j;have m:=WO f.out.2.2.2.1 j;obtain⟨⟨j0,j1,j2,j3⟩,_⟩:=auz z;have Y:=Xu m;have V:O.frozen? ⟨w.heap.size+1+1,0,MH⟩=false:=by simp[Ng,m]
 have q:=adJ l i hi;have Q:=(e.cellAt (i*4) (by omega)).trans q.1;have L:=(e.cellAt (i*4+1) (by omega)).trans q.2.1;have N:=(e.cellAt (i*4+2) (by omega)).trans q.2.2.1;have S:=(e.cellAt (i*4+3) (by omega)).trans q.2.2.2;have f0:=e.frozenAt (i*4);have f1:=e.frozenAt (i*4+1);have f2:=e.frozenAt (i*4+2);have f3:=e.frozenAt (i*4+3);generalize l[i].1=y1 at Q;generalize l[i].2.1=y2 at L;generalize l[i].2.2.1=y3 at N;generalize l[i].2.2.2=y4 at S;have Z:(i:Int)<(l.length:Int):=by omega
 have a0:=(e.lt g rfl).2;have J:=(e.lt g rfl).1;rw[f.out.2.2.2.2.1]at J;have F:¬(w.heap.size+1+1=g):=by omega
 have U:¬(w.heap.size+1=g):=by omega
 have M:M6 (_/\_/\_):=⟨e,j,m⟩;clear q z m e j;go_wp2;obtain⟨e,j,m⟩:=M.out;have K:=auA (o:=i*4) (a:=MF ME x1) (b:=M3 x2) (c:=MF ME x3) (d:=MF ME x4) m F;have I:=ac6 (v:=MG (MI ⟨g,0,MH⟩) l.length t) K;have A:=auX e i (x1,x2,x3,x4);have G:=f.out.2.1.trans (j.mono f.out.2.1.size);have s:=f.out.2.2.2.2.1;refine Np (v:=Ny #[MG (MI ⟨g,0,MH⟩) l.length t]) (Z2 Tryz.results174 rfl (Xp (P:=MK) (cs:=[MG (MI ⟨g,0,MH⟩) l.length t]) I axO rfl (by kernel_rfl))) rfl ⟨_,_,rfl,?_,?_⟩
 ·exact(W8 A (fun g' hg'=>MU _ _ _ _ (by have:=(A.lt g' hg').1;simp;omega))).mono (by omega)
 ·exact(auy G (by omega)).setCell (by simp;omega) _
def aiY(m:List Sl)(e:Int)(w:MO)(r:Ending)(w':MO):Prop :=
 ∃p c,r=MN (Nv #[Ny #[MG p m.length c],MF ME e])/\w'.ownsRow w.heap.size 79 4 (MG p m.length c) m.length (XF m)/\MQ w.heap.size w w'
def ZQ(l:List Sl)(s g:Int):List Sl×Int :=
 if(Yj l s g).2=0 then(l.set s.toNat ((Yj l s g).1.1+1,Nb,0,0),0)else([],(Yj l s g).2)
theorem ai7{s g:Int}(h:Yj l s g=(x,0)):Z6 l/\∃k:Nat,s=k/\∃hk:k<l.length,x=l[k]/\x.2.1=Nw/\x.1=g:=by
 by_cases hok:Z6 l
 ·refine⟨hok,?_⟩
  by_cases hs:0<=s/\s<l.length
  ·obtain⟨k,rfl⟩:=NL hs.1
   have hk:k<l.length:=by omega
   rw[ai8 (x:=l[k]) hok hk rfl]at h
   split at h
   ·rename_i hh
    injection h with h1 h2;subst h1;exact⟨k,rfl,hk,rfl,hh.1,hh.2⟩
   ·injection h with h1 h2
    cases h2
  ·rw[ai6 hok (by omega)]at h
   injection h with h1 h2;cases h2
 ·unfold Yj at h
  rw[Nh hok]at h;injection h with h1 h2;cases h2
theorem ano(h:Yt x)(hu:x.2.1=Nw):0<=x.1/\x.1<=1048575:=by
 unfold Yt at h;rw[Nh hu]at h;exact h.1
theorem auD(v:M7)(l:List Sl)(s g:Int)(w:MO)(hv:Yy w v l) :
  Ni MK 135 #[Ny #[v],Ny #[MF ME s,MF ME g]] w (aiY (ZQ l s g).1 (ZQ l s g).2 w):=by
 obtain⟨p,c,rfl,hc,hm,_⟩:=hv.F6;unfold NE at hm;obtain⟨m,j⟩:∃m,m=((w.alloc (MP #[MG p l.length c] 42)).alloc (MP #[MF ME s,MF ME g] 75)).alloc (MP #[MG MH 0 0] 42):=⟨_,rfl⟩;have a5:MQ w.heap.size w m:=by rw[j];exact(((MY _ _).alloc (MV _) _).alloc (by simp) _).alloc (by simp;omega) _
 have a3:m.heap[w.heap.size]?=MI (MP #[MG p l.length c] 42 (0,0)):=by rw[j];exact Xy _ _ (Xy _ _ (M1 _ _))
 have a6:m.heap[w.heap.size+1]?=MI (MP #[MF ME s,MF ME g] 75 (0,0)):=by rw[j];exact Xy _ _ (Yu _ _ _)
 have a4:m.heap[w.heap.size+1+1]?=MI (MP #[MG MH 0 0] 42 (0,0)):=by rw[j];have:=M1 ((w.alloc (MP #[MG p l.length c] 42)).alloc (MP #[MF ME s,MF ME g] 75)) (MP #[MG MH 0 0] 42);simpa using this
 have a7:m.heap.size=w.heap.size+3:=by rw[j];simp
 have h:M6 (_/\_/\_/\_/\_/\_/\_):=⟨hv,a5,a3,a6,a4,a7,j⟩;clear hv a5 a3 a6 a4 a7 j;obtain⟨⟨f,L,K,J⟩,e,Y⟩:∃x e,Yj l s g=(x,e):=⟨_,_,rfl⟩;have b0:M6 (∀W y,Yy W y l->Ni MK 20 #[Ny #[y],Ny #[MF ME s,MF ME g]] W fun r w'=>r=MN (Nv #[Ny #[MF ME f,M3 L,MF ME K,MF ME J],MF ME e])/\MQ W.heap.size W w'):=fun W y hy=>by
  have:=ai5 y l s g W hy;rw[Y]at this;exact this
 have V:M6 _:=Y;clear Y;go_enter UL,Uz
 go_wp2_with fail
 rw[<-h.out.2.2.2.2.2.2];refine(b0.out _ _ (h.out.1.below h.out.2.1)).mono ?_;rintro r i ⟨rfl,o⟩;have M:=WO h.out.2.2.1 o;have I:=WO h.out.2.2.2.2.1 o;have t0:=Xu M;have r0:=Xu I;have rf:i.frozen? ⟨w.heap.size+1+1,0,MH⟩=false:=by simp[Ng,I]
 obtain⟨h0,h1,_⟩:=Xa (WO h.out.2.2.2.1 o);have a2:=h.out.2.1.trans (o.mono h.out.2.1.size);have b7:w.heap.size+1+1<i.heap.size:=by have:=o.size;have:=h.out.2.2.2.2.2.1;omega
 have b3:w.heap.size<i.heap.size:=by omega
 have b6:w.heap.size+1<i.heap.size:=by omega
 have A:M6 (_/\_/\_):=⟨M,I,a2⟩;clear M I a2 o;obtain⟨W2,G⟩:∃W2,W2=i.alloc (MP #[MF ME f,M3 L,MF ME K,MF ME J] 79):=⟨_,rfl⟩;have D:MQ i.heap.size i W2:=by rw[G];exact YF i
 have O:=WO A.out.2.1 D;have C:=A.out.2.2.trans (D.mono A.out.2.2.size)
 by_cases he:e=0
 ·subst he
  obtain⟨U,k,rfl,hk,Q,hu,hg⟩:=ai7 V.out;have F:=ano (U.2 _ (Nk hk)) (by rw[<-Q];exact hu);rw[<-Q]at F;have a8:=U.1.2;have z:ZQ l k g=(l.set k (f+1,Nb,0,0),0):=by unfold ZQ;rw[V.out];simp
  have b5:(-9223372036854775808:Int)<=f+1:=by have:=F.1;simp at this;omega
  have b9:f+1<=(9223372036854775807:Int):=by have:=F.2;simp at this;omega
  have t:M6 (_/\_/\_/\_):=⟨z,G,O,C⟩;have a9:M6 (∀W y,Yy W y l->Ni MK 174 #[Ny #[y],MF ME k,Ny #[MF ME (f+1),M3 Nb,MF ME 0,MF ME 0]] W fun r w'=>∃p c,r=MN (Ny #[MG p l.length c])/\w'.ownsRow W.heap.size 79 4 (MG p l.length c) l.length (XF (l.set k (f+1,Nb,0,0)))/\MQ W.heap.size W w'):=fun W y hy=>ajc y l k (f+1) Nb 0 0 W hy hk a8
  have b2:=C.size;clear U Q hu hg F z G O C
  go_wp2_with fail
  rw[<-t.out.2.1];refine(a9.out _ _ ((h.out.1.below t.out.2.2.2))).mono ?_;rintro r Z ⟨q,d,rfl,S,N⟩;have E:=WO t.out.2.2.1 N;have r3:=Xu E;have b4:Z.frozen? ⟨w.heap.size+1+1,0,MH⟩=false:=by simp[Ng,E]
  have a0:=t.out.2.2.2.trans (N.mono t.out.2.2.2.size);have a1:(Z.setCell ⟨w.heap.size+1+1,0,MH⟩ (MG q l.length d)).ownsRow w.heap.size 79 4 (MG q l.length d) l.length (XF (l.set k (f+1,Nb,0,0))):=
   (W8 S (fun g' hg'=>MU _ _ _ _ (by have:=(S.lt g' hg').1;have h2:=D.size;simp;omega))).mono (by omega)
  have n:M6 (_/\_/\_):=⟨ac6 (v:=MG q l.length d) E,a1,(show MQ w.heap.size w (Z.setCell ⟨w.heap.size+1+1,0,MH⟩ (MG q l.length d))from a0.setCell (by simp;omega) _)⟩;clear E S a1 N a0 t0 r0 rf h0 h1;go_wp2;refine Np (v:=Nv #[Ny #[MG q l.length d],MF ME 0]) (XT Tryz.results135 rfl rfl (Xp (P:=MK) (cs:=[MG q l.length d]) n.out.1 axO rfl (by kernel_rfl))) rfl ?_;rw[t.out.1];refine⟨q,d,?_,?_,n.out.2.2⟩
  ·simp
  ·simpa using n.out.2.1
 ·have z:ZQ l s g=([],e):=by unfold ZQ;rw[V.out];simp[he]
  have b8:(e != 0)=true:=by simpa using he
  have n:M6 (_/\_/\_):=⟨Xy _ (MP #[MF ME f,M3 L,MF ME K,MF ME J] 79) (ac6 (v:=MG MH 0 0) A.out.2.1),(show MQ w.heap.size w ((i.setCell ⟨w.heap.size+1+1,0,MH⟩ (MG MH 0 0)).alloc (MP #[MF ME f,M3 L,MF ME K,MF ME J] 79))from(A.out.2.2.setCell (by simp;omega) _).alloc (by simp;omega) _),z⟩;clear O C D z G he;go_wp2;refine Np (v:=Nv #[Ny #[MG MH 0 0],MF ME e]) (XT Tryz.results135 rfl rfl (Xp (P:=MK) (cs:=[MG MH 0 0]) n.out.1 axO rfl (by kernel_rfl))) rfl ?_;rw[n.out.2.2];exact⟨MH,0,rfl,NY _ _ _ _,n.out.2.1⟩
def Y0(l:List Sl)(s g bk:Int):List Sl×Int :=
 if(Yj l s g).2=0 then(if aca bk then(l.set s.toNat ((Yj l s g).1.1,Nw,(Yj l s g).1.2.2.1,bk),0)else([],2))else([],(Yj l s g).2)
theorem auR(v:M7)(l:List Sl)(s g bk:Int)(w:MO)(hv:Yy w v l) :
  Ni MK 185 #[Ny #[v],Ny #[MF ME s,MF ME g],MF ME bk] w (aiY (Y0 l s g bk).1 (Y0 l s g bk).2 w):=by
 obtain⟨p,c,rfl,hc,hm,_⟩:=hv.F6;unfold NE at hm;obtain⟨z,t⟩:∃z,z=((w.alloc (MP #[MG p l.length c] 42)).alloc (MP #[MF ME s,MF ME g] 75)).alloc (MP #[MG MH 0 0] 42):=⟨_,rfl⟩;have a8:MQ w.heap.size w z:=by rw[t];exact(((MY _ _).alloc (MV _) _).alloc (by simp) _).alloc (by simp;omega) _
 have a4:z.heap[w.heap.size]?=MI (MP #[MG p l.length c] 42 (0,0)):=by rw[t];exact Xy _ _ (Xy _ _ (M1 _ _))
 have a7:z.heap[w.heap.size+1]?=MI (MP #[MF ME s,MF ME g] 75 (0,0)):=by rw[t];exact Xy _ _ (Yu _ _ _)
 have a5:z.heap[w.heap.size+1+1]?=MI (MP #[MG MH 0 0] 42 (0,0)):=by rw[t];have:=M1 ((w.alloc (MP #[MG p l.length c] 42)).alloc (MP #[MF ME s,MF ME g] 75)) (MP #[MG MH 0 0] 42);simpa using this
 have b0:z.heap.size=w.heap.size+3:=by rw[t];simp
 have n:M6 (_/\_/\_/\_/\_/\_/\_):=⟨hv,a8,a4,a7,a5,b0,t⟩;clear hv a8 a4 a7 a5 b0 t;obtain⟨⟨h,E,i,C⟩,e,hx⟩:∃x e,Yj l s g=(x,e):=⟨_,_,rfl⟩;have b4:M6 (∀W y,Yy W y l->Ni MK 20 #[Ny #[y],Ny #[MF ME s,MF ME g]] W fun r w'=>r=MN (Nv #[Ny #[MF ME h,M3 E,MF ME i,MF ME C],MF ME e])/\MQ W.heap.size W w'):=fun W y hy=>by
  have:=ai5 y l s g W hy;rw[hx]at this;exact this
 have M:M6 _:=hx;clear hx;go_enter TY,TS
 go_wp2_with fail
 rw[<-n.out.2.2.2.2.2.2];refine(b4.out _ _ (n.out.1.below n.out.2.1)).mono ?_;rintro r f ⟨rfl,A⟩;have V:=WO n.out.2.2.1 A;have L:=WO n.out.2.2.2.2.1 A;have t0:=Xu V;have r0:=Xu L;have rf:f.frozen? ⟨w.heap.size+1+1,0,MH⟩=false:=by simp[Ng,L]
 obtain⟨h0,h1,_⟩:=Xa (WO n.out.2.2.2.1 A);have a2:=n.out.2.1.trans (A.mono n.out.2.1.size);have b9:w.heap.size+1+1<f.heap.size:=by have:=A.size;have:=n.out.2.2.2.2.2.1;omega
 have b8:w.heap.size<f.heap.size:=by omega
 have c7:w.heap.size+1<f.heap.size:=by omega
 have m:M6 (_/\_/\_):=⟨V,L,a2⟩;clear V L a2 A;obtain⟨Z,J⟩:∃Z,Z=f.alloc (MP #[MF ME h,M3 E,MF ME i,MF ME C] 79):=⟨_,rfl⟩;have D:MQ f.heap.size f Z:=by rw[J];exact YF f
 have N:=WO m.out.2.1 D;have G:=m.out.2.2.trans (D.mono m.out.2.2.size)
 by_cases he:e=0
 ·subst he
  obtain⟨U,k,rfl,hk,Q,hu,hg⟩:=ai7 M.out;have a6:=ano (U.2 _ (Nk hk)) (by rw[<-Q];exact hu);rw[<-Q]at a6;have b3:=U.1.2;have HO:M6 (_/\_/\_):=⟨J,N,G⟩;have b2:=G.size;have b5:E=true:=hu;subst b5;clear U Q hu hg a6 J N G;cases hbk:Nn (aca bk)
  ·have o:Y0 l k g bk=([],2):=by
    unfold Y0;rw[M.out,Nh rfl,Nf (id (Nc hbk))]
   have j:M6 (_/\_/\_):=⟨Xy _ (MP #[MF ME h,M3 Nw,MF ME i,MF ME C] 79) (ac6 (v:=MG MH 0 0) m.out.2.1),(show MQ w.heap.size w ((f.setCell ⟨w.heap.size+1+1,0,MH⟩ (MG MH 0 0)).alloc (MP #[MF ME h,M3 Nw,MF ME i,MF ME C] 79))from(m.out.2.2.setCell (by simp;omega) _).alloc (by simp;omega) _),o⟩;clear o D
   go_wp2_with fail
   refine(aem _ _).mono ?_;rw[hbk];rintro r w4 ⟨rfl,rfl⟩;go_wp2;refine Np (v:=Nv #[Ny #[MG MH 0 0],MF ME 2]) (XT ayB rfl rfl (Xp (P:=MK) (cs:=[MG MH 0 0]) j.out.1 axO rfl (by kernel_rfl))) rfl ?_;rw[j.out.2.2];exact⟨MH,0,rfl,NY _ _ _ _,j.out.2.1⟩
  have o:Y0 l k g bk=(l.set k (h,Nw,i,bk),0):=by
   unfold Y0;rw[M.out,Nh rfl,Nh (id (M2 hbk))];simp
  have b6:M6 (∀W y,Yy W y l->Ni MK 174 #[Ny #[y],MF ME k,Ny #[MF ME h,M3 Nw,MF ME i,MF ME bk]] W fun r w'=>∃p c,r=MN (Ny #[MG p l.length c])/\w'.ownsRow W.heap.size 79 4 (MG p l.length c) l.length (XF (l.set k (h,Nw,i,bk)))/\MQ W.heap.size W w'):=fun W y hy=>ajc y l k h Nw i bk W hy hk b3
  have HU:M6 _:=o;clear o;obtain⟨W4,O⟩:∃W4,W4=f.alloc (MP #[MF ME h,M3 Nw,MF ME i,MF ME bk] 79):=⟨_,rfl⟩;have I:MQ f.heap.size f W4:=by rw[O];exact YF f
  have a9:=WO m.out.2.1 I;have a1:=m.out.2.2.trans (I.mono m.out.2.2.size);have F:M6 (_/\_/\_):=⟨O,a9,a1⟩;have b7:=I.size;clear O a9 a1 I D HO b2
  go_wp2_with fail
  refine(aem _ _).mono ?_;rw[hbk];rintro r w4 ⟨rfl,rfl⟩
  go_wp2_with fail
  rw[<-F.out.1];refine(b6.out _ _ ((n.out.1.below F.out.2.2))).mono ?_;rintro r w3 ⟨q,d,rfl,S,Y⟩;have K:=WO F.out.2.1 Y;have r3:=Xu K;have c6:w3.frozen? ⟨w.heap.size+1+1,0,MH⟩=false:=by simp[Ng,K]
  have a0:=F.out.2.2.trans (Y.mono F.out.2.2.size);have a3:(w3.setCell ⟨w.heap.size+1+1,0,MH⟩ (MG q l.length d)).ownsRow w.heap.size 79 4 (MG q l.length d) l.length (XF (l.set k (h,Nw,i,bk))):=
   (W8 S (fun g' hg'=>MU _ _ _ _ (by have:=(S.lt g' hg').1;simp;omega))).mono (by omega)
  have j:M6 (_/\_/\_):=⟨ac6 (v:=MG q l.length d) K,a3,(show MQ w.heap.size w (w3.setCell ⟨w.heap.size+1+1,0,MH⟩ (MG q l.length d))from a0.setCell (by simp;omega) _)⟩;clear K S a3 Y a0 t0 r0 rf h0 h1;go_wp2;refine Np (v:=Nv #[Ny #[MG q l.length d],MF ME 0]) (XT ayB rfl rfl (Xp (P:=MK) (cs:=[MG q l.length d]) j.out.1 axO rfl (by kernel_rfl))) rfl ?_;rw[HU.out];refine⟨q,d,?_,?_,j.out.2.2⟩
  ·simp
  ·simpa using j.out.2.1
 ·have o:Y0 l s g bk=([],e):=by unfold Y0;rw[M.out,Nf he]
  have c5:(e != 0)=true:=by simpa using he
  have j:M6 (_/\_/\_):=⟨Xy _ (MP #[MF ME h,M3 E,MF ME i,MF ME C] 79) (ac6 (v:=MG MH 0 0) m.out.2.1),(show MQ w.heap.size w ((f.setCell ⟨w.heap.size+1+1,0,MH⟩ (MG MH 0 0)).alloc (MP #[MF ME h,M3 E,MF ME i,MF ME C] 79))from(m.out.2.2.setCell (by simp;omega) _).alloc (by simp;omega) _),o⟩;clear N G D o J he;go_wp2;refine Np (v:=Nv #[Ny #[MG MH 0 0],MF ME e]) (XT ayB rfl rfl (Xp (P:=MK) (cs:=[MG MH 0 0]) j.out.1 axO rfl (by kernel_rfl))) rfl ?_;rw[j.out.2.2];exact⟨MH,0,rfl,NY _ _ _ _,j.out.2.1⟩
theorem auO(n:Nat):madeCells #[MF ME 0,M3 Nb,MF ME 0,MF ME 0] (n*4)=(XF (Nj n (0,Nb,0,0))).toArray:=by
 apply Array.ext';apply Ot;intro i;have j:(XF (Nj n ((0:Int),Nb,(0:Int),(0:Int)))).length=n*4:=by rw[ac7];simp
 by_cases h:i<n*4
 ·have f:=adJ (Nj n ((0:Int),Nb,(0:Int),(0:Int))) (i / 4) (by simp;omega)
  simp only[List.getElem_replicate]at f;have m:(madeCells #[MF ME 0,M3 Nb,MF ME 0,MF ME 0] (n*4)).toList[i]?=MI ((#[MF ME 0,M3 Nb,MF ME 0,MF ME 0]:Array M7)[i % 4]!):=by
   unfold madeCells;simp[h]
  rw[m];have e:i % 4=0\/i % 4=1\/i % 4=2\/i % 4=3:=by omega
  rcases e with e|e|e|e
  ·rw[e]
   rw[show i / 4*4=i by omega]at f;exact f.1.symm
  ·rw[e]
   rw[show i / 4*4+1=i by omega]at f;exact f.2.1.symm
  ·rw[e]
   rw[show i / 4*4+2=i by omega]at f;exact f.2.2.1.symm
  ·rw[e]
   rw[show i / 4*4+3=i by omega]at f;exact f.2.2.2.symm
 ·rw[Nz (by simp[size_madeCells];omega),Nz (by simp[j];omega)]
def adI(n:Int):List Sl×Int:=if 1<=n/\n<=40 then(Nj n.toNat (0,Nb,0,0),0)else([],2)
theorem auN(n:Nat)(hn:n<=40)(W:MO):(Instr.makeSlice 40 (MF ME (n:Int)) (MF ME (n:Int))).run MK W=.ok (MG (MI ⟨W.heap.size,0,MH⟩) n n) (W.alloc (MP (XF (Nj n (0,Nb,0,0))).toArray 79)):=by
 obtain⟨j,m,f,e,i⟩:=OF anm;have h:=run_makeSlice (P:=MK) W 40 79 j _ U3 m f ME ME n n (by omega) (by omega) (by rw[e];omega) (by rw[i];omega) (by omega);rw[h,e,NR,<-auO];rfl
theorem auM(n:Nat)(hn:n<=40)(W:MO):(W.alloc (MP (XF (Nj n (0,Nb,0,0))).toArray 79)).ownsRow W.heap.size 79 4 (MG (MI ⟨W.heap.size,0,MH⟩) n n) n (XF (Nj n (0,Nb,0,0))):=by
 have e:(XF (Nj n ((0:Int),Nb,(0:Int),(0:Int)))).length=n*4:=by rw[ac7];simp
 refine⟨e,NF ⟨W.heap.size,n,_,rfl,MV _,M1 W _,MV _,by unfold NE;omega,by simp[e],?_⟩⟩;simp;exact N1 (by omega)
theorem auP(n:Int)(w:MO):Ni MK 36 #[MF ME n] w (aiY (adI n).1 (adI n).2 w):=by
 have o:=M1 w (MP #[MG MH 0 0] 42)
 by_cases h:1<=n/\n<=40
 ·have i:adI n=(Nj n.toNat (0,Nb,0,0),0):=by unfold adI;rw[Nh h]
  obtain⟨D,G⟩:=h;obtain⟨k,rfl⟩:=NL (a:=n) (by omega);rw[NR]at i;have q:=auN k (by omega) (w.alloc (MP #[MG MH 0 0] 42));have j:=auM k (by omega) (w.alloc (MP #[MG MH 0 0] 42));have A:(w.alloc (MP #[MG MH 0 0] 42)).heap.size=w.heap.size+1:=by simp
  rw[A]at q j;obtain⟨Z,z⟩:∃Z,Z=(XF (Nj k ((0:Int),Nb,(0:Int),(0:Int)))).toArray:=⟨_,rfl⟩;rw[<-z]at q j;obtain⟨e,m⟩:∃e,e=(w.alloc (MP #[MG MH 0 0] 42)).alloc (MP Z 79):=⟨_,rfl⟩;rw[<-m]at q j;have p:e.heap[w.heap.size]?=MI (MP #[MG MH 0 0] 42 (0,0)):=by rw[m];exact Xy _ _ o
  have t:MQ w.heap.size w e:=by rw[m];exact((MY _ _).alloc (MV _) _).alloc (by simp) _
  have C:=Xu p;have F:e.frozen? ⟨w.heap.size,0,MH⟩=false:=by simp[Ng,p]
  have s:(e.setCell ⟨w.heap.size,0,MH⟩ (MG (MI ⟨w.heap.size+1,0,MH⟩) k k)).ownsRow w.heap.size 79 4 (MG (MI ⟨w.heap.size+1,0,MH⟩) k k) k (XF (Nj k (0,Nb,0,0))):=
   (W8 j (fun g hg=>MU _ _ _ _ (by have:=(j.lt g hg).1;simp;omega))).mono (by omega)
  have f:M6 (_/\_/\_/\_):=⟨ac6 (v:=MG (MI ⟨w.heap.size+1,0,MH⟩) k k) p,s,(show MQ w.heap.size w (e.setCell ⟨w.heap.size,0,MH⟩ (MG (MI ⟨w.heap.size+1,0,MH⟩) k k))from t.setCell (by simp) _),i⟩;clear p s t i j A z m o;go_enter Tryz.func36,Tryz.ntmps36;go_wp2;refine Np (v:=Nv #[Ny #[MG (MI ⟨w.heap.size+1,0,MH⟩) k k],MF ME 0]) (XT Tryz.results36 rfl rfl (Xp (P:=MK) (cs:=[MG (MI ⟨w.heap.size+1,0,MH⟩) k k]) f.out.1 axO rfl (by kernel_rfl))) rfl ?_;rw[f.out.2.2.2];refine⟨MI ⟨w.heap.size+1,0,MH⟩,k,?_,?_,f.out.2.2.1⟩
  ·simp
  ·simpa using f.out.2.1
 ·have i:adI n=([],2):=by unfold adI;rw[Nf h]
  have f:M6 (_/\_):=⟨i,o⟩;have r:n<1\/(1<=n/\40<n):=by omega
  clear h i o;rcases r with r|⟨r,E⟩
  all_goals
   go_enter Tryz.func36,Tryz.ntmps36;go_wp2;refine Np (v:=Nv #[Ny #[MG MH 0 0],MF ME 2]) (XT Tryz.results36 rfl rfl (Xp (P:=MK) (cs:=[MG MH 0 0]) f.out.2 axO rfl (by kernel_rfl))) rfl ?_;rw[f.out.1];exact⟨MH,0,rfl,NY _ _ _ _,YF w⟩
def Y8(l:List Sl)(key bk:Int):List Sl×Tm×Int :=
 if ¬Z6 l then([],(0,0),6)else if ¬(ac5 key/\aca bk)then([],(0,0),2)else
  match Yz aaU l with
  |none=>([],(0,0),9)
  |some k=>(l.set k ((l.getD k (0,Nb,0,0)).1,Nw,key,bk),((k:Int),(l.getD k (0,Nb,0,0)).1),0)
def anj(o:List Sl×Tm×Int)(w:MO)(r:Ending)(w':MO):Prop :=
 ∃p c,r=MN (Nv #[Ny #[MG p o.1.length c],Ny #[MF ME o.2.1.1,MF ME o.2.1.2],MF ME o.2.2])/\w'.ownsRow w.heap.size 79 4 (MG p o.1.length c) o.1.length (XF o.1)/\MQ w.heap.size w w'
theorem ai0{q:Sl->Bool}:∀ {l:List Sl} {k:Nat},Yz q l=MI k->∃h:k<l.length,q l[k]=Nw/\∀t∈l.take k,q t=Nb
 | [],k,h=>by simp[Yz]at h
 |t::l,k,h=>by
  unfold Yz at h
  by_cases hq:q t=Nw
  ·rw[Nh hq]at h
   injection h with h;subst h;exact⟨by simp,by simpa using hq,by simp⟩
  ·rw[Nf hq]at h
   cases hf:Yz q l with
   |none=>rw[hf]at h;cases h
   |some j =>
    rw[hf]at h;injection h with h;subst h;obtain⟨m,f,i⟩:=ai0 hf;refine⟨by simp;omega,by simpa using f,fun x e=>?_⟩;rw[PT]at e;rcases List.mem_cons.1 e with rfl|e
    ·simpa using hq
    ·exact i x e
theorem afm{x:M7}(hR:w.heap[R]?=MI (MP #[a] T (0,0)))(hne:R≠H):(((w.setCell ⟨R,0,MH⟩ u).setCell ⟨H,0,MH⟩ x).setCell ⟨H,1,MH⟩ y).heap[R]?=MI (MP #[u] T (0,0)):=by
 rw[MU _ _ _ _ (by simpa using hne),MU _ _ _ _ (by simpa using hne)];exact ac6 hR
theorem afl{x:M7}{U:NU}(hH:w.heap[H]?=MI (MP #[b,c] U (0,0)))(hne:R≠H):(((w.setCell ⟨R,0,MH⟩ u).setCell ⟨H,0,MH⟩ x).setCell ⟨H,1,MH⟩ y).heap[H]?=MI (MP #[x,y] U (0,0)):=
 acb ((MU _ _ _ _ (by simpa using Pi hne)).trans hH)
theorem aiZ{x:M7}(h:MQ B w0 w)(hR:B<=R)(hH:B<=H):MQ B w0 (((w.setCell ⟨R,0,MH⟩ u).setCell ⟨H,0,MH⟩ x).setCell ⟨H,1,MH⟩ y):=
 ((h.setCell hR _).setCell hH _).setCell hH _
theorem auE{x:M7}{n:Nat}{xs:List M7}(h:w.ownsRow base 79 4 v n xs)(hR:R<base)(hH:H<base):(((w.setCell ⟨R,0,MH⟩ u).setCell ⟨H,0,MH⟩ x).setCell ⟨H,1,MH⟩ y).ownsRow base 79 4 v n xs :=
 QX (QX (QX h hR _) hH _) hH _
theorem auV(v:M7)(l:List Sl)(key bk:Int)(w:MO)(hv:Yy w v l) :
  Ni MK 127 #[Ny #[v],MF ME key,MF ME bk] w (anj (Y8 l key bk) w):=by
 obtain⟨p,c,rfl,hc,hm,J⟩:=hv.F6;unfold NE at hm;obtain⟨E,C⟩:∃E,E=((w.alloc (MP #[MG p l.length c] 42)).alloc (MP #[MG MH 0 0] 42)).alloc (MP #[MF ME 0,MF ME 0] 75):=⟨_,rfl⟩;have b3:MQ w.heap.size w E:=by rw[C];exact(((MY _ _).alloc (MV _) _).alloc (by simp) _).alloc (by simp;omega) _
 have a4:E.heap[w.heap.size]?=MI (MP #[MG p l.length c] 42 (0,0)):=by rw[C];exact Xy _ _ (Xy _ _ (M1 _ _))
 have a6:E.heap[w.heap.size+1]?=MI (MP #[MG MH 0 0] 42 (0,0)):=by rw[C];exact Xy _ _ (Yu _ _ _)
 have a9:E.heap[w.heap.size+1+1]?=MI (MP #[MF ME 0,MF ME 0] 75 (0,0)):=by rw[C];have:=M1 ((w.alloc (MP #[MG p l.length c] 42)).alloc (MP #[MG MH 0 0] 42)) (MP #[MF ME 0,MF ME 0] 75);simpa using this
 have b7:E.heap.size=w.heap.size+3:=by rw[C];simp
 have i:M6 (_/\_/\_/\_/\_/\_/\_):=⟨hv,b3,a4,a6,a9,b7,C⟩;clear hv b3 a4 a9 a6 b7 C;go_enter Ug,T6
 go_wp2_with fail
 rw[<-i.out.2.2.2.2.2.2];refine(agO _ l _ (i.out.1.below i.out.2.1)).mono ?_;rintro r L ⟨rfl,t⟩;have a0:=WO i.out.2.2.1 t;have Q:=WO i.out.2.2.2.1 t;have a1:=WO i.out.2.2.2.2.1 t;have t0:=Xu a0;have r0:=Xu Q;have rf:L.frozen? ⟨w.heap.size+1,0,MH⟩=false:=by simp[Ng,Q]
 obtain⟨h0,h1,a5,b2,_⟩:=Xa a1;have V:=i.out.2.1.trans (t.mono i.out.2.1.size);have d1:w.heap.size+1+1<L.heap.size:=by have:=t.size;have:=i.out.2.2.2.2.2.1;omega
 have c8:w.heap.size<L.heap.size:=by omega
 have d5:w.heap.size+1<L.heap.size:=by omega
 have n:w.heap.size+1≠w.heap.size+1+1:=by omega
 have f:M6 (_/\_/\_/\_):=⟨a0,Q,a1,V⟩;have b0:∀e,Y8 l key bk=([],(0,0),e)->anj (Y8 l key bk) w (MN (Nv #[Ny #[MG MH 0 0],Ny #[MF ME 0,MF ME 0],MF ME e])) (((L.setCell ⟨w.heap.size+1,0,MH⟩ (MG MH 0 0)).setCell ⟨w.heap.size+1+1,0,MH⟩ (MF ME 0)).setCell ⟨w.heap.size+1+1,1,MH⟩ (MF ME 0)):=fun e he=>by
  rw[he];exact⟨MH,0,rfl,NY _ _ _ _,aiZ V (by omega) (by omega)⟩
 have U:M6 _:=b0;clear b0 a0 Q a1 t V
 by_cases hok:Z6 l
 ·rw[Nh hok]
  cases hkb:Nn (ac5 key)
  ·have o:M6 (Y8 l key bk=([],(0,0),2)):=by show Y8 l key bk=_;unfold Y8;rw[Nf (not_not_intro hok),Nh fun h=>Nc hkb h.1]
   clear J hok
   go_wp2_with fail
   refine(aen _ _).mono ?_;rw[hkb];rintro r I ⟨rfl,rfl⟩;go_wp2;exact Np (v:=Nv #[Ny #[MG MH 0 0],Ny #[MF ME 0,MF ME 0],MF ME 2]) (afp ax5 rfl rfl rfl (Xp (P:=MK) (cs:=[MG MH 0 0]) (afm f.out.2.1 n) axO rfl (by kernel_rfl)) (Xp (P:=MK) (cs:=[MF ME 0,MF ME 0]) (afl f.out.2.2.1 n) ax0 rfl (by kernel_rfl))) rfl (U.out _ o.out)
  cases hbb:Nn (aca bk)
  ·have o:M6 (Y8 l key bk=([],(0,0),2)):=by show Y8 l key bk=_;unfold Y8;rw[Nf (not_not_intro hok),Nh fun h=>Nc hbb h.2]
   clear J hok
   go_wp2_with fail
   refine(aen _ _).mono ?_;rw[hkb];rintro r I ⟨rfl,rfl⟩
   go_wp2_with fail
   refine(aem _ _).mono ?_;rw[hbb];rintro r I ⟨rfl,rfl⟩;go_wp2;exact Np (v:=Nv #[Ny #[MG MH 0 0],Ny #[MF ME 0,MF ME 0],MF ME 2]) (afp ax5 rfl rfl rfl (Xp (P:=MK) (cs:=[MG MH 0 0]) (afm f.out.2.1 n) axO rfl (by kernel_rfl)) (Xp (P:=MK) (cs:=[MF ME 0,MF ME 0]) (afl f.out.2.2.1 n) ax0 rfl (by kernel_rfl))) rfl (U.out _ o.out)
  have b8:=hok.1.2;have m:Y8 l key bk=match Yz aaU l with|none=>([],(0,0),9)|some k=>(l.set k ((l.getD k (0,Nb,0,0)).1,Nw,key,bk),((k:Int),(l.getD k (0,Nb,0,0)).1),0):=by
   unfold Y8;rw[Nf (not_not_intro hok),Nf (not_not_intro ⟨M2 hkb,M2 hbb⟩)]
  clear hok;cases hfd:Yz aaU l with
  |none =>
   rw[hfd]at m;have o:M6 _:=m;have K:Yn (Yz aaU l) = -1:=by rw[hfd];rfl
   have HI:M6 _:=K;clear K m J hfd
   go_wp2_with fail
   refine(aen _ _).mono ?_;rw[hkb];rintro r I ⟨rfl,rfl⟩
   go_wp2_with fail
   refine(aem _ _).mono ?_;rw[hbb];rintro r I ⟨rfl,rfl⟩
   go_wp2_with fail
   refine(anl _ l _ (i.out.1.below f.out.2.2.2)).mono ?_;rw[HI.out];rintro r F ⟨rfl,j⟩;have D:=WO f.out.2.1 j;have G:=WO f.out.2.2.1 j;have s0:=Xu D;have sf:F.frozen? ⟨w.heap.size+1,0,MH⟩=false:=by simp[Ng,D]
   obtain⟨u0,u1,c9,d3,_⟩:=Xa G;have A:=f.out.2.2.2.trans (j.mono f.out.2.2.2.size);have H3:M6 (_/\_/\_):=⟨D,G,A⟩;clear D G A j t0 r0 rf h0 h1 a5 b2;go_wp2;refine Np (v:=Nv #[Ny #[MG MH 0 0],Ny #[MF ME 0,MF ME 0],MF ME 9]) (afp ax5 rfl rfl rfl (Xp (P:=MK) (cs:=[MG MH 0 0]) (afm H3.out.1 n) axO rfl (by kernel_rfl)) (Xp (P:=MK) (cs:=[MF ME 0,MF ME 0]) (afl H3.out.2.1 n) ax0 rfl (by kernel_rfl))) rfl ?_;rw[o.out];exact⟨MH,0,rfl,NY _ _ _ _,aiZ H3.out.2.2 (by omega) (by omega)⟩
  |some k =>
   rw[hfd]at m;replace m:Y8 l key bk=(l.set k ((l.getD k (0,Nb,0,0)).1,Nw,key,bk),((k:Int),(l.getD k (0,Nb,0,0)).1),0):=m;obtain⟨hk,c5,_⟩:=ai0 hfd;have a7:l.getD k (0,Nb,0,0)=l[k]:=by
    rw[NK,MR hk];rfl
   rw[a7]at m;have K:Yn (Yz aaU l)=(k:Int):=by rw[hfd];rfl
   have HI:M6 _:=K;obtain⟨b1,o1,rfl,t,c1,_,_,_⟩:=J k hk;obtain⟨s,b4⟩:∃s,s=l[k].1:=⟨_,rfl⟩;rw[<-b4]at c1 m;have c6:M6 (∀W y,Yy W y l->Ni MK 174 #[Ny #[y],MF ME k,Ny #[MF ME s,M3 Nw,MF ME key,MF ME bk]] W fun r w'=>∃p c,r=MN (Ny #[MG p l.length c])/\w'.ownsRow W.heap.size 79 4 (MG p l.length c) l.length (XF (l.set k (s,Nw,key,bk)))/\MQ W.heap.size W w'):=fun W y hy=>ajc y l k s Nw key bk W hy hk b8
   have o:M6 _:=m;have d6:(k:Int)<(l.length:Int):=by omega
   clear K m J hfd a7 c5 b4
   go_wp2_with fail
   refine(aen _ _).mono ?_;rw[hkb];rintro r I ⟨rfl,rfl⟩
   go_wp2_with fail
   refine(aem _ _).mono ?_;rw[hbb];rintro r I ⟨rfl,rfl⟩
   go_wp2_with fail
   refine(anl _ l _ (i.out.1.below f.out.2.2.2)).mono ?_;rw[HI.out];rintro r F ⟨rfl,j⟩;have b5:=WO f.out.1 j;have D:=WO f.out.2.1 j;have G:=WO f.out.2.2.1 j;have A:=f.out.2.2.2.trans (j.mono f.out.2.2.2.size);have e1:=(A.cell (p:=⟨b1,o1+k*4,MH⟩) t).trans c1;have s0:=Xu b5;obtain⟨W4,Y⟩:∃W4,W4=F.alloc (MP #[MF ME s,M3 Nw,MF ME key,MF ME bk] 79):=⟨_,rfl⟩;have N:MQ F.heap.size F W4:=by rw[Y];exact YF F
   have b6:=WO D N;have a3:=WO G N;have a2:=A.trans (N.mono A.size);have m0:w.heap.size<F.heap.size:=by have:=j.size;omega
   have z:M6 (_/\_/\_/\_):=⟨b6,a3,a2,Y⟩;clear b5 D G A j t0 r0 rf h0 h1 a5 b2 N b6 a3 a2 Y c1
   go_wp2_with fail
   rw[<-z.out.2.2.2];refine(c6.out _ _ (i.out.1.below z.out.2.2.1)).mono ?_;rintro r w5 ⟨q,d,rfl,a8,O⟩;have M:=WO z.out.1 O;have Z:=WO z.out.2.1 O;have u0:=Xu M;have uf:w5.frozen? ⟨w.heap.size+1,0,MH⟩=false:=by simp[Ng,M]
   obtain⟨x0,x1,d4,d2,_⟩:=Xa Z;have c7:=(Array.getElem?_eq_some_iff.1 z.out.2.1).1;have S:M6 (_/\_/\_/\_):=⟨M,Z,auE (R:=w.heap.size+1) (H:=w.heap.size+1+1) (u:=MG q l.length d) (x:=MF ME (k:Int)) (y:=MF ME s) a8 (by omega) (by omega),z.out.2.2.1.trans (O.mono z.out.2.2.1.size)⟩;have b9:=z.out.2.2.1.size;clear M Z a8 O e1 s0;go_wp2;refine Np (v:=Nv #[Ny #[MG q l.length d],Ny #[MF ME (k:Int),MF ME s],MF ME 0]) (afp ax5 rfl rfl rfl (Xp (P:=MK) (cs:=[MG q l.length d]) (afm S.out.1 n) axO rfl (by kernel_rfl)) (Xp (P:=MK) (cs:=[MF ME (k:Int),MF ME s]) (afl S.out.2.1 n) ax0 rfl (by kernel_rfl))) rfl ?_;rw[o.out];refine⟨q,d,?_,?_,aiZ S.out.2.2.2 (by omega) (by omega)⟩
   ·simp
   ·simpa using S.out.2.2.1.mono b9
 ·rw[Nf hok]
  have o:M6 (Y8 l key bk=([],(0,0),6)):=by show Y8 l key bk=_;unfold Y8;rw[Nh hok]
  clear J;go_wp2;exact Np (v:=Nv #[Ny #[MG MH 0 0],Ny #[MF ME 0,MF ME 0],MF ME 6]) (afp ax5 rfl rfl rfl (Xp (P:=MK) (cs:=[MG MH 0 0]) (afm f.out.2.1 n) axO rfl (by kernel_rfl)) (Xp (P:=MK) (cs:=[MF ME 0,MF ME 0]) (afl f.out.2.2.1 n) ax0 rfl (by kernel_rfl))) rfl (U.out _ o.out)
theorem auU(h:Yt x):aaU x=(!x.2.1 && (x.1 != 1048576)):=by
 unfold aaU;have:=ajb h
 by_cases hu:x.2.1=Nw
 ·rw[M0 (this.2 hu),hu]
  rfl
 ·rw[Nq (PM fun hn=>hu (this.1 hn))]
  simp only[Qc]at hu;rw[hu];rfl
def aa6(bk:Int)(t:Sl):Bool:=t.2.1 && (t.2.2.2 == bk)
def afn(l:List Sl)(i:Nat):Tm:=((i:Int),(l.getD i (0,Nb,0,0)).1)
def YM(bk:Int)(l:List Sl)(k:Nat):List Tm:=((Pm k).filter fun i=>aa6 bk (l.getD i (0,Nb,0,0))).map (afn l)
def YL(bk:Int)(l:List Sl):List Tm:=YM bk l l.length
theorem auJ{bk:Int}(h:aa6 bk (l.getD k (0,Nb,0,0))=Nw):YM bk l (k+1)=YM bk l k++[afn l k]:=by
 unfold YM;rw[ZqB,OY,OI,List.filter_cons_of_pos (p:=fun i=>aa6 bk (l.getD i (0,Nb,0,0))) h,List.filter_nil];rfl
theorem auI{bk:Int}(h:aa6 bk (l.getD k (0,Nb,0,0))=Nb):YM bk l (k+1)=YM bk l k:=by
 unfold YM;rw[ZqB,OY,OI,List.filter_cons_of_neg (by rw[h];exact PE),List.filter_nil,P5,OG]
theorem auH(bk:Int)(l:List Sl)(k:Nat):(YM bk l k).length<=k:=by
 unfold YM;rw[N0];exact Nm (O1 ..) (by simp)
theorem auw{p:Option Oc}{c:Nat}{m:List Tm}(ho:w.ownsRow base 75 2 (MG p k c) k (WP m))(hb:base<=w.heap.size)(hk:k<=1000)(ty:NU)(x1 x2:Int):
  ∃p' c' w',(N2 #[59,59] ty #[MG p k c,MG (MI ⟨w.heap.size,0,MH⟩) 1 1]).run MK (w.alloc (MP #[MF ME x1,MF ME x2] 75))=.ok (MG p' (k+1) c') w' /\
   w'.ownsRow base 75 2 (MG p' (k+1) c') (k+1) (WP (m++[(x1,x2)]))/\MQ base w w':=by
 obtain⟨o,t,h,i,n⟩:=OF auL;have q:=acR w (WP [(x1,x2)]) 75;obtain⟨z,w',r,f,s,_⟩:=run_append_own (P:=MK) (w.alloc (MP #[MF ME x1,MF ME x2] 75)) base 59 ty 75 o _ 2 16 RH t h i n rfl (by decide) (MG p k c) k (WP m) (ho.alloc _) ⟨w.heap.size,0,MH⟩ 1 1 (WP [(x1,x2)]) rfl q (abJ _) (by unfold NE;omega) (by omega) (by simp;omega);rw[<-aa7]at f;obtain⟨p',c',rfl⟩:=Y6 f;refine⟨p',c',w',r,f,?_⟩;exact((MY _ _).alloc hb _).grown s (by simp;omega) (fun j e=>(ho.lt j e).1)
theorem auY(g:Int)(u:Bool)(k b bk:Int)(gc:Nat)(w:MO)(hcap:w.cell? ⟨gc,0,MH⟩=MI (MF ME bk))(hok:Yt (g,u,k,b)) :
  Ni MK 237 #[Ny #[MF ME g,M3 u,MF ME k,MF ME b],Na (MI ⟨gc,0,MH⟩)] w fun r w'=>r=MN (M3 (aa6 bk (g,u,k,b)))/\MQ w.heap.size w w':=by
 have o:aa6 bk (g,u,k,b)=(!Nn (ZX (g,u,k,b)) && (b == bk)):=by
  unfold aa6;have h:=ajb hok;cases u
  ·have q:ZX (g,Nb,k,b):=PM fun hn=>by have:=h.1 hn;cases this
   rw[Nq q];rfl
  ·have q:¬ZX (g,Nw,k,b):=h.2 rfl
   rw[M0 q];rfl
 obtain⟨s,m⟩:∃s,s=aa6 bk (g,u,k,b):=⟨_,rfl⟩;rw[<-m];rw[<-m]at o;have H:M6 _:=o;have D:=MX w _ hcap;obtain⟨f,i⟩:∃f,f=w.alloc (MP #[MF ME g,M3 u,MF ME k,MF ME b] 79):=⟨_,rfl⟩;have C:f.heap[w.heap.size]?=MI (MP #[MF ME g,M3 u,MF ME k,MF ME b] 79 (0,0)):=by rw[i];exact M1 _ _
 have n:MQ w.heap.size w f:=by rw[i];exact YF w
 have t:=(n.cell (p:=⟨gc,0,MH⟩) D).trans hcap;have e:M6 (_/\_/\_/\_):=⟨i,C,n,t⟩;clear m o i C n hok t;go_enter Tryz.func237,Tryz.ntmps237
 go_wp2_with fail
 rw[<-e.out.1];refine(afo g u k b _).mono ?_;generalize Nn (ZX (g,u,k,b))=fr at *;rintro r E ⟨rfl,j⟩;have z:=WO e.out.2.1 j;have G:E.cell? ⟨w.heap.size,3,MH⟩=MI (MF ME b):=by simp[Nl,z]
 have F:=(j.cell (p:=⟨gc,0,MH⟩) (MX f _ e.out.2.2.2)).trans e.out.2.2.2;have A:M6 _:=e.out.2.2.1.trans (j.mono e.out.2.2.1.size);clear j z hcap;cases fr
 ·go_wp2
  go_ret;exact⟨by rw[H.out];rfl,A.out⟩
 ·go_wp2
  go_ret;exact⟨by rw[H.out];rfl,A.out⟩
theorem auZ(bk:Int)(w:MO):Ni MK 198 #[MF ME bk] w fun r w'=>r=MN (PB (PD 237) #[] #[Na (MI ⟨w.heap.size,0,MH⟩)])/\w'=w.alloc (MP #[MF ME bk] 3):=by
 go_enter TZ,TT;go_wp2;go_ret;exact⟨rfl,rfl⟩
theorem auG(v:M7)(l:List Sl)(bk:Int)(gc:Nat)(w:MO)(hv:Yy w v l)(hok:∀t∈l,Yt t)(hl:l.length<=40)(hcap:w.cell? ⟨gc,0,MH⟩=MI (MF ME bk)) :
  Ni MK 197 #[Ny #[v],PB (PD 237) #[] #[Na (MI ⟨gc,0,MH⟩)]] w fun r w'=>∃p c,r=MN (MG p (YL bk l).length c)/\w'.ownsRow w.heap.size 75 2 (MG p (YL bk l).length c) (YL bk l).length (WP (YL bk l))/\MQ w.heap.size w w':=by
 obtain⟨p,c,rfl,hc,hm,pa⟩:=hv.F6;unfold NE at hm;have a8:=MX w _ hcap;have U:M6 (_/\_/\_/\_):=⟨pa,hok,hcap,a8⟩;clear hv pa hok hcap a8;go_enter Tryz.func197,Tryz.ntmps197;go_wp2;obtain⟨W0,a1⟩:∃W0,W0=w.alloc (MP #[MG p l.length c] 42):=⟨_,rfl⟩;have a7:MQ w.heap.size w W0:=by rw[a1];exact YF w
 rw[<-a1];have b2:M6 _:=a7;clear a1 a7
 go_loopw [5,11] (fun o i wr=>∃(k:Nat) (s:Option Oc) (m:Nat),i=MF ME k/\o=MG s (YM bk l k).length m/\k<=l.length/\wr.ownsRow w.heap.size 75 2 (MG s (YM bk l k).length m) (YM bk l k).length (WP (YM bk l k))/\MQ w.heap.size w wr) (fun _ i _=>l.length-(On i).toNat)
 case atStart=>exact⟨0,MH,0,rfl,rfl,Nx _,NY _ _ _ _,b2.out⟩
 case round =>
  obtain⟨k,s,m,rfl,rfl,hk,Z,f⟩:=hrel
  by_cases hlt:k<l.length
  ·obtain⟨K,O,rfl,A,V,P,S,Y⟩:=U.out.1 k hlt
   replace V:=(f.cell (p:=⟨K,O+k*4,MH⟩) A).trans V;replace P:=(f.cell (p:=⟨K,O+k*4+1,MH⟩) A).trans P;replace S:=(f.cell (p:=⟨K,O+k*4+2,MH⟩) A).trans S;replace Y:=(f.cell (p:=⟨K,O+k*4+3,MH⟩) A).trans Y;have b3:K<wr.heap.size:=M8 A f.size;have J:l.getD k (0,Nb,0,0)=l[k]:=by simp[hlt]
   have a4:=U.out.2.1 l[k] (Nk hlt);obtain⟨⟨j,E,D,C⟩,hx⟩:∃x,x=l[k]:=⟨_,rfl⟩;rw[<-hx]at V P S Y a4 J;have z:aa6 bk (j,E,D,C)=Nw->YM bk l (k+1)=YM bk l k++[((k:Int),j)]:=fun h=>by
    rw[auJ (by rw[J];exact h)];unfold afn;rw[J]
   have I:aa6 bk (j,E,D,C)=Nb->YM bk l (k+1)=YM bk l k:=fun h=>auI (by rw[J];exact h)
   obtain⟨L,G⟩:∃L,L=wr.alloc (MP #[MF ME j,M3 E,MF ME D,MF ME C] 79):=⟨_,rfl⟩;have a9:L.heap[wr.heap.size]?=MI (MP #[MF ME j,M3 E,MF ME D,MF ME C] 79 (0,0)):=by rw[G];exact M1 _ _
   have a0:MQ w.heap.size w L:=by rw[G];exact f.alloc f.size _
   have a5:=(a0.cell (p:=⟨gc,0,MH⟩) U.out.2.2.2).trans U.out.2.2.1;have a6:L.ownsRow w.heap.size 75 2 (MG s (YM bk l k).length m) (YM bk l k).length (WP (YM bk l k)):=by rw[G];exact Z.alloc _
   have b0:=auH bk l k;have H:M6 (_/\_/\_/\_/\_/\_/\_/\_):=⟨z,I,G,a9,a0,a5,a6,a4⟩;clear z I G a9 a0 a5 a6 a4 Z f hx J A;have b4:(k:Int)<(l.length:Int):=by omega
   go_wp2_with fail
   rw[<-H.out.2.2.1];refine(auY j E D C bk gc _ H.out.2.2.2.2.2.1 H.out.2.2.2.2.2.2.2).mono ?_;rintro r w2 ⟨rfl,N⟩;have a2:=WO H.out.2.2.2.1 N;have d0:w2.cell? ⟨wr.heap.size,0,MH⟩=MI (MF ME j):=by simp[Nl,a2]
   have b5:wr.heap.size<w2.heap.size:=(Array.getElem?_eq_some_iff.1 a2).1;have M:=YI H.out.2.2.2.2.2.2.1 N;have F:=H.out.2.2.2.2.1.trans (N.mono H.out.2.2.2.2.1.size);clear N a2 V P S Y;cases hmine:aa6 bk (j,E,D,C)
   ·have I:=H.out.2.1 hmine
    have e:M6 (_/\_/\_):=⟨M,F,I⟩;clear M F I;go_wp2
    go_roundw
    case rel=>exact⟨k+1,s,m,by simp,by rw[e.out.2.2],hlt,by rw[e.out.2.2];exact e.out.1,e.out.2.1⟩
    case measure=>simp[On];omega
   ·have z:=H.out.1 hmine
    have a3:(YM bk l (k+1)).length=(YM bk l k).length+1:=by rw[z];simp
    obtain⟨q,d,w3,hr,Q,z1⟩:=auw M F.size (by omega) 59 (k:Int) j;rw[<-z]at Q;obtain⟨n,hn⟩:∃n,n=(YM bk l k).length:=⟨_,rfl⟩;rw[<-hn]at hr Q a3⊢;have e:M6 (_/\_/\_/\_):=⟨hr,Q,F.trans z1,a3⟩;clear hr Q z1 a3 z M F hn b0
    go_wp2_with (at_builtin;(with_reducible refine Z4 rfl _ _ 59 rfl (MG s n m) (MG (MI ⟨w2.heap.size,0,MH⟩) 1 1) (MG q (n+1) d) w3 ?hs ?hx ?hr ?_);(case hs=>rfl);(case hx=>rfl);(case hr=>exact e.out.1))
    go_roundw
    case rel=>exact⟨k+1,q,d,by simp,by rw[e.out.2.2.2],hlt,by rw[e.out.2.2.2];exact e.out.2.1,e.out.2.2.1⟩
    case measure=>simp[On];omega
  ·obtain rfl:k=l.length:=by omega
   have e:M6 (_/\_):=⟨Z,f⟩;clear Z f;go_wp2;go_ret;exact⟨s,m,rfl,e.out.1,e.out.2⟩
def aeo(l:List Sl)(bk:Int):List Tm×Int:=if Z6 l then(YL bk l,0)else([],6)
def auv(o:List Tm×Int)(w:MO)(r:Ending)(w':MO):Prop :=
 ∃p c,r=MN (Nv #[MG p o.1.length c,MF ME o.2])/\w'.ownsRow w.heap.size 75 2 (MG p o.1.length c) o.1.length (WP o.1)/\MQ w.heap.size w w'
theorem auS(v:M7)(l:List Sl)(bk:Int)(w:MO)(hv:Yy w v l) :
  Ni MK 154 #[Ny #[v],MF ME bk] w (auv (aeo l bk) w):=by
 obtain⟨p,c,rfl,hc,Z,_⟩:=hv.F6;unfold NE at Z;obtain⟨F,A⟩:∃F,F=w.alloc (MP #[MG p l.length c] 42):=⟨_,rfl⟩;have O:MQ w.heap.size w F:=by rw[A];exact YF w
 have L:F.heap[w.heap.size]?=MI (MP #[MG p l.length c] 42 (0,0)):=by rw[A];exact M1 _ _
 have j:M6 (_/\_/\_/\_):=⟨hv,O,L,A⟩;clear hv O L A;go_enter UR,UE
 go_wp2_with fail
 rw[<-j.out.2.2.2];refine(agO _ l _ (j.out.1.below j.out.2.1)).mono ?_;rintro r f ⟨rfl,t⟩;have C:=WO j.out.2.2.1 t;have t0:=Xu C;have V:w.heap.size<f.heap.size:=(Array.getElem?_eq_some_iff.1 C).1;have D:=j.out.2.1.trans (t.mono j.out.2.1.size)
 by_cases hok:Z6 l
 ·have m:aeo l bk=(YL bk l,0):=by unfold aeo;rw[Nh hok]
  rw[Nh hok];have I:M6 _:=m;have Q:∀W,MQ f.heap.size f W->Ni MK 198 #[MF ME bk] W fun r h=>∃i,r=MN (PB (PD 237) #[] #[Na (MI ⟨i,0,MH⟩)])/\M6 (h.cell? ⟨i,0,MH⟩=MI (MF ME bk)/\MQ f.heap.size f h)/\h.cell? ⟨w.heap.size,0,MH⟩=MI (MG p l.length c)/\(∀n,n<W.heap.size->n<h.heap.size)/\(∀b o,b<W.heap.size->h.cell? ⟨b,o,MH⟩=W.cell? ⟨b,o,MH⟩)/\(∀b o,b<W.heap.size->h.frozen? ⟨b,o,MH⟩=W.frozen? ⟨b,o,MH⟩):=fun W hW=>by
   refine(auZ bk W).mono ?_;rintro r h ⟨rfl,rfl⟩;have E:MQ W.heap.size W (W.alloc (MP #[MF ME bk] 3)):=YF W;have N:=hW.trans (E.mono hW.size);exact⟨_,rfl,⟨Xu (M1 W _),N⟩,(N.cell (p:=⟨w.heap.size,0,MH⟩) V).trans t0,(fun n hn=>M8 hn E.size),(ank E).1,(ank E).2⟩
  have S:∀W wt i,M6 (wt.cell? ⟨i,0,MH⟩=MI (MF ME bk)/\MQ f.heap.size f wt)->MQ wt.heap.size wt W->Ni MK 197 #[Ny #[MG p l.length c],PB (PD 237) #[] #[Na (MI ⟨i,0,MH⟩)]] W fun r h=>∃q d,r=MN (MG q (YL bk l).length d)/\M6 (h.ownsRow f.heap.size 75 2 (MG q (YL bk l).length d) (YL bk l).length (WP (YL bk l))/\MQ f.heap.size f h):=fun W wt i hy hw=>by
   have G:=hy.out.2.trans (hw.mono hy.out.2.size);refine(auG _ l bk i W (((j.out.1.below j.out.2.1).below t).below G) hok.2 hok.1.2 ((hw.cell (p:=⟨i,0,MH⟩) (MX wt _ hy.out.1)).trans hy.out.1)).mono ?_;rintro r h ⟨q,d,rfl,Y,h2⟩;exact⟨q,d,rfl,Y.mono G.size,G.trans (h2.mono G.size)⟩
  have z:M6 (_/\_/\_):=⟨Q,S,D⟩;clear Q S D t m C hok;go_wp2
  go_cut [4,5]from 12 to 15 (fun s e wx=>∃q d,s=MG q (YL bk l).length d/\e=MF ME 0/\wx.ownsRow f.heap.size 75 2 (MG q (YL bk l).length d) (YL bk l).length (WP (YL bk l))/\MQ f.heap.size f wx)
  case first =>
   go_region_with (first|(go_at_call 198;refine(z.out.1 _ ?hbW).mono ?_;(case hbW=>first|exact(MY _ _).drew|exact Below.refl _ _);rintro r w4 ⟨i,rfl,U,k4,a2,a1,a0⟩)|(go_at_call 197;refine(z.out.2.1 _ w4 i U ?hbW).mono ?_;(case hbW=>exact MY _ _);rintro r w5 ⟨q,d,rfl,K⟩))
   all_goals
    go_wp2_with fail
    go_meet
    exact⟨q,d,rfl,rfl,K.out.1,K.out.2⟩
  case rest =>
  obtain⟨q,d,rfl,rfl,J,M⟩:=hcut;have P:M6 (_/\_):=⟨J,M⟩;clear J M;go_wp2
  go_ret2
  rw[I.out];exact⟨q,d,rfl,P.out.1.mono z.out.2.2.size,z.out.2.2.trans (P.out.2.mono z.out.2.2.size)⟩
 ·have m:aeo l bk=([],6):=by unfold aeo;rw[Nf hok]
  rw[Nf hok];have I:M6 _:=m;have HB:M6 _:=D;clear D t C m hok;go_wp2
  go_ret2
  rw[I.out];exact⟨MH,0,rfl,NY _ _ _ _,HB.out⟩
theorem aja{T:List Sl}{s:Nat}(h:Z6 T)(hx:Yt x):Z6 (T.set s x):=by
 refine⟨by simpa using h.1,fun t ht=>?_⟩;rcases OB ht with e|e
 ·exact h.2 t e
 ·rw[e];exact hx
end Go.Proofs.YtmpokpecfclapaaGreatDoor.Q
