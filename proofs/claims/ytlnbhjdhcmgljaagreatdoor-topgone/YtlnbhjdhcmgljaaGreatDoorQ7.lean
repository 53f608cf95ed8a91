/-
  Contracts of the layers and of core, part 7. Conditions: as each theorem says.
-/
import Derived.Deep.Upon
import Derived.BigQuiet
import Derived.Deep.CutRange
import Derived.Shelf.SlSortCmp.QuietGrown
import Derived.Test.YtlnbhjdhcmgljaaGreatDoorQ0
open Bool renaming and_eq_true->Po,false->Nb,false_ne_true->PE,true->Nw
open Decidable renaming decide->Nn
open Go renaming Calls->Ni,TypeId->NU,Value->M7,World->MO,cell_grown->Ob,cell_of_row->MW,heap_alloc_new->M1,info_parts->OF,maxLen->NE,wpQuiet_nil->Oy,wp_region_quiet_grown->NQ
open Go.Calls renaming grown_of->NZ
open Go.Ending renaming returned->MN
open Go.Exit renaming noGoto_ret->Sb
open Go.Fn renaming func->PD
open Go.IntKind renaming i64->ME
open Go.Obj renaming cells->MP
open Go.Proofs.Tryz renaming func24->Wc,func31->WI,func33->TQ,func45->Se,func55->Tp,func57->Uw,func58->Tq,ntmps24->VS,ntmps31->WA,ntmps33->TJ,ntmps45->RU,ntmps55->S8,ntmps57->Ul,ntmps58->Te,prog->MK
open Go.RowKit renaming Below->MQ,Hid->M6,intOf->On
open Go.RowKit.Below renaming refl->MY
open Go.Sort renaming alloc_eq_grow->PQ,grow->Oj
open Go.Value renaming agg->Ny,bool->M3,func->PB,int->MF,pointer->Na,slice->MG,tuple->Nv
open Go.World renaming block_lt_of_cell?->MX,cell?->Nl
open Int renaming eq_ofNat_of_zero_le->NL,le_refl->Qh,mul_le_mul->Px,mul_pos->Tn,mul_right_comm->Rx,toNat_natCast->NR
open List renaming append_assoc->OC,drop_eq_getElem_cons->OK,ext_getElem->PX,getElem?_eq_getElem->MR,getElem?_eq_none->Nz,getElem_mem->Nk,getElem_set->Pc,length_take->NH,mem_cons_of_mem->NB,mem_cons_self->NM,replicate->Nj,set_append_right->Pw,set_cons_zero->ML,take_length->NT,take_of_length_le->N1,take_succ_eq_append_getElem->M9
open Nat renaming le_refl->MV,lt_of_lt_of_le->M8,lt_or_ge->Oq,mul_one->P6,zero_add->Oa,zero_le->Nx
open Option renaming none->MH,some->MI
open Or renaming inl->Nt,inr->NF
namespace Go.Proofs.YtlnbhjdhcmgljaaGreatDoor.Q
set_option linter.unusedVariables false
set_option linter.unusedSimpArgs false
set_option maxHeartbeats 16000000
set_option maxRecDepth 100000
open Go.RowKit
attribute [local go_sem ↓] Go.wp_at_zero Go.wp_at_succ
variable {a b c:Int}{m ws:List Int}{l:List Ld}{v:M7}{w w':MO}{i k t:Nat}
abbrev g8(num den flows:Int):Prop:=(1<=den/\den<=num/\num<=20)/\0<=flows/\flows<=40
abbrev l9(num den flows wt total:Int):Prop:=g8 num den flows/\1<=wt/\wt<=total/\total<=96
theorem oV(n:Int)(w:MO):Ni MK 45 #[MF ME n] w fun r w'=>r=MN (M3 (Nn (0<=n/\n<=40)))/\w'=w:=by
 obtain⟨ans,hans⟩:∃ans,ans=Nn (0<=n/\n<=40):=⟨_,rfl⟩;rw[<-hans];have H:M6 _:=hans;clear hans;cases h1:Nn (0<=n)
 ·have E:M6 (ans=Nb):=by rw[H.out];exact M0 fun g=>Nc h1 g.1
  go_enter Se,RU;go_wp2;go_ret;exact⟨by rw[E.out];rfl,rfl⟩
 cases h2:Nn (n<=40)
 ·have E:M6 (ans=Nb):=by rw[H.out];exact M0 fun g=>Nc h2 g.2
  go_enter Se,RU;go_wp2;go_ret;exact⟨by rw[E.out];rfl,rfl⟩
 ·have E:M6 (ans=Nw):=by rw[H.out];exact Nq ⟨M2 h1,M2 h2⟩
  go_enter Se,RU;go_wp2;go_ret;exact⟨by rw[E.out];rfl,rfl⟩
theorem o8(a b c:Int)(w:MO):Ni MK 24 #[MF ME a,MF ME b,MF ME c] w fun r w'=>r=MN (M3 (Nn (g8 a b c)))/\w'=w:=by
 obtain⟨ans,hans⟩:∃ans,ans=Nn (g8 a b c):=⟨_,rfl⟩;rw[<-hans];have H:M6 _:=hans;clear hans;cases h1:Nn (1<=b)
 ·have E:M6 (ans=Nb):=by rw[H.out];exact M0 fun g=>Nc h1 g.1.1
  clear H;go_enter Wc,VS;go_wp2;go_ret;exact⟨by rw[E.out];rfl,rfl⟩
 cases h2:Nn (b<=a)
 ·have E:M6 (ans=Nb):=by rw[H.out];exact M0 fun g=>Nc h2 g.1.2.1
  clear H;go_enter Wc,VS;go_wp2;go_ret;exact⟨by rw[E.out];rfl,rfl⟩
 cases h3:Nn (a<=20)
 ·have E:M6 (ans=Nb):=by rw[H.out];exact M0 fun g=>Nc h3 g.1.2.2
  clear H;go_enter Wc,VS;go_wp2;go_ret;exact⟨by rw[E.out];rfl,rfl⟩
 have E:M6 (ans=Nn (0<=c/\c<=40)):=by
  rw[H.out];exact decide_eq_decide.2 ⟨fun g=>g.2,fun g=>⟨⟨M2 h1,M2 h2,M2 h3⟩,g⟩⟩
 clear H;go_enter Wc,VS
 go_wp2_with fail
 refine(oV _ _).mono ?_;rintro e w' ⟨rfl,rfl⟩;go_wp2;go_ret;exact⟨by rw[E.out,Bool.decide_and];rfl,rfl⟩
theorem Fj(a b:Int)(w:MO)(h1:0<=a)(h2:a<=1000000)(h3:1<=b)(h4:b<=1000000):Ni MK 25 #[MF ME a,MF ME b] w fun r w'=>r=MN (MF ME ((a+b-1) / b))/\w'=w:=by
 go_enter Tryz.func25,Tryz.ntmps25;go_wp2;go_ret;exact⟨rfl,rfl⟩
def ns(num den flows wt total:Int):Int:=(num*(flows+1)*wt+den*total-1) / (den*total)
theorem zn{d e:Int}(h:l9 a b c d e):(0<a*(c+1)/\a*(c+1)<=820)/\(0<a*(c+1)*d/\a*(c+1)*d<=78720)/\0<b*e/\b*e<=1920:=by
 obtain⟨⟨⟨h1,h2,h3⟩,h4,h5⟩,h6,h7,h8⟩:=h;have p1:0<a*(c+1):=Tn (by omega) (by omega);have p2:a*(c+1)<=20*41:=Px (by omega) (by omega) (by omega) (by omega);have p3:0<a*(c+1)*d:=Tn p1 (by omega);have p4:a*(c+1)*d<=820*96:=Px (by omega) (by omega) (by omega) (by omega);have p5:0<b*e:=Tn (by omega) (by omega);have p6:b*e<=20*96:=Px (by omega) (by omega) (by omega) (by omega);omega
theorem yw(a b c d e:Int)(w:MO)(h:l9 a b c d e):Ni MK 11 #[MF ME a,MF ME b,MF ME c,MF ME d,MF ME e] w fun r w'=>r=MN (Nv #[MF ME (ns a b c d e),MF ME 0])/\w'=w:=by
 obtain⟨⟨q1,q2⟩,⟨p1,p2⟩,p3,p4⟩:=zn h;have hG:M6 _:=Nq h.1;obtain⟨⟨⟨h1,h2,h3⟩,h4,h5⟩,h6,h7,h8⟩:=h;have e1:Nn (d<1)=false:=M0 (by omega);have e2:Nn (e<d)=false:=M0 (by omega);have e3:Nn (96<e)=false:=M0 (by omega);go_enter Tryz.func11,Tryz.ntmps11
 go_wp2_with fail
 refine(o8 _ _ _ _).mono ?_;rintro r w' ⟨rfl,rfl⟩;rw[hG.out]
 go_wp2_with fail
 refine(Fj _ _ _ (by omega) (by omega) (by omega) (by omega)).mono ?_;rintro r w' ⟨rfl,rfl⟩;go_wp2
 go_ret2
 exact⟨rfl,rfl⟩
def f8:List Ld->List M7
 | []=>[]
 |t::l=>MF ME t.1::MF ME t.2.1::MF ME t.2.2::f8 l
theorem mS:∀l:List Ld,(f8 l).length=l.length*3
 | []=>rfl
 |t::l=>by simp[f8,mS l];omega
theorem mw:∀(l:List Ld) (i:Nat) (h:i<l.length),(f8 l)[i*3]?=MI (MF ME l[i].1)/\(f8 l)[i*3+1]?=MI (MF ME l[i].2.1)/\(f8 l)[i*3+2]?=MI (MF ME l[i].2.2)
 |t::l,0,_=>by simp[f8]
 |t::l,i+1,h=>by
  have h2:=mw l i (by simpa using h);rw[show(i+1)*3=i*3+1+1+1 by omega]
  simpa [f8]using h2
def eZ(w:MO)(v:M7)(l:List Ld):Prop:=aR w v l.length (f8 l)
theorem eZ.below(h:eZ w v l)(hb:MQ w.heap.size w w'):eZ w' v l:=aR.below h hb
theorem eZ.F6(h:eZ w v l):
  ∃a cap,v=MG a l.length cap/\l.length<=cap/\cap<=NE/\∀i (hi:i<l.length),∃b off,a=MI ⟨b,off,MH⟩/\b<w.heap.size/\w.cell? ⟨b,off+i*3,MH⟩=MI (MF ME l[i].1)/\w.cell? ⟨b,off+i*3+1,MH⟩=MI (MF ME l[i].2.1)/\w.cell? ⟨b,off+i*3+2,MH⟩=MI (MF ME l[i].2.2):=by
 obtain⟨a,cap,hv,hc,hm,h1|⟨b,off,h1,h2,h3⟩⟩:=h
 ·exact⟨a,cap,hv,hc,hm,fun i hi=>absurd hi (by omega)⟩
 ·refine⟨a,cap,hv,hc,hm,fun i hi=>⟨b,off,h1,h2,?_,?_,?_⟩⟩
  ·rw[h3 (i*3) (by rw[mS];omega)];exact(mw l i hi).1
  ·rw[Nat.add_assoc,h3 (i*3+1) (by rw[mS];omega)];exact(mw l i hi).2.1
  ·rw[Nat.add_assoc,h3 (i*3+2) (by rw[mS];omega)];exact(mw l i hi).2.2
def fZ(w:MO)(v:M7)(a:List Int):Prop:=aR w v a.length (aj a)
theorem fZ.below{l:List Int}(h:fZ w v l)(hb:MQ w.heap.size w w'):fZ w' v l:=aR.below h hb
theorem rV(a:List Int)(i:Nat)(h:i<a.length):(aj a)[i]?=MI (MF ME a[i]):=by
 unfold aj;rw[List.getElem?_map,MR h];rfl
theorem fZ.F6{l:List Int}(h:fZ w v l):
  ∃a cap,v=MG a l.length cap/\l.length<=cap/\cap<=NE/\∀i (hi:i<l.length),∃b off,a=MI ⟨b,off,MH⟩/\b<w.heap.size/\w.cell? ⟨b,off+i,MH⟩=MI (MF ME l[i]):=by
 obtain⟨a,cap,hv,hc,hm,h1|⟨b,off,h1,h2,h3⟩⟩:=h
 ·exact⟨a,cap,hv,hc,hm,fun i hi=>absurd hi (by omega)⟩
 ·refine⟨a,cap,hv,hc,hm,fun i hi=>⟨b,off,h1,h2,?_⟩⟩
  rw[h3 i (by rw[dm];exact hi)];exact rV l i hi
theorem vO(w:MO):fZ w (MG MH 0 0) []:=dZ w
theorem aC.Jc{n:Nat}{g:Nat}{a:List Int}{T:NU}(h:aC T n w g a)(hn:n<=1000):fZ w (MG (MI ⟨g,0,MH⟩) n n) a:=by
 refine⟨_,n,by rw[h.2],by rw[h.2];exact MV _,by unfold NE;omega,NF ⟨g,0,rfl,h.lt,fun i hi=>?_⟩⟩;rw[Oa,rV a i (by rwa[dm]at hi)];exact h.F7 i (by rwa[dm]at hi)
abbrev gI(x:Ld):Prop:=(0<=x.2.1/\x.2.1<=8)/\0<=x.2.2/\x.2.2<=40
def dO:Int->List Ld->Bool
 |_,[]=>Nw
 |n,x::l=>Nn (n<=x.1/\x.1<12/\gI x) && dO (x.1+1) l
def jt(n:Int)(l:List Ld):Prop:=dO n l=Nw
theorem wb{n:Int}{x:Ld}:jt n (x::l)↔(n<=x.1/\x.1<12/\gI x)/\jt (x.1+1) l:=by
 unfold jt;rw[show dO n (x::l)=(Nn (n<=x.1/\x.1<12/\gI x) && dO (x.1+1) l)from rfl,Po,decide_eq_true_eq]
def ir(l:List Ld):Prop:=l.length<=12/\jt 0 l
def fR(l:List Ld):Bool:=Nn (l.length<=12) && dO 0 l
theorem lN:fR l=Nw↔ir l:=by
 unfold fR ir jt;rw[Po,decide_eq_true_eq]
theorem Al(h:¬ir l):fR l=false:=by
 cases hb:fR l
 ·rfl
 ·exact absurd (lN.1 hb) h
theorem kO{p:Prop} [Decidable p]{b:Bool}(h:¬p):(Nn p && b)=false:=by rw[M0 h];rfl
theorem vi{p:Prop} [Decidable p]{b:Bool}(h:p):(Nn p && b)=b:=by rw[Nq h];rfl
theorem ju:∀ {n:Int} {l:List Ld},jt n l->∀x∈l,gI x
 |_,[],_,x,hx=>by cases hx
 |_,y::l,h,x,hx=>by
  have h:=wb.1 h;rcases List.mem_cons.1 hx with rfl|hx
  ·exact h.1.2.2
  ·exact ju h.2 x hx
def cY(l:List Ld):Int:=(l.map (·.2.1)).sum
theorem Dk:cY []=0:=rfl
theorem wV(l:List Ld)(x:Ld):cY (l++[x])=cY l+x.2.1:=by simp[cY]
theorem nI:∀(l:List Ld),(∀x∈l,gI x)->0<=cY l/\cY l<=8*l.length
 | [],_=>by simp[cY]
 |x::l,h=>by
  have h1:=nI l fun y hy=>h y (NB _ hy)
  have h2:=(h x (NM ..)).1;simp[cY]at h1⊢;omega
theorem wo:∀(l:List Ld),(∀x∈l,gI x)->∀x∈l,x.2.1<=cY l
 | [],_,x,hx=>by cases hx
 |y::l,h,x,hx=>by
  have h0:=nI l fun y hy=>h y (NB _ hy)
  have h2:=(h y (NM ..)).1;have e:cY (y::l)=y.2.1+cY l:=by simp[cY]
  rw[e];rcases List.mem_cons.1 hx with rfl|hx
  ·omega
  ·have:=wo l (fun y hy=>h y (NB _ hy)) x hx
   omega
theorem gr(w:MO){o:Obj}:MQ w.heap.size w (w.alloc o):=(MY _ _).alloc (MV _) _
theorem qX(v:M7)(l:List Ld)(w:MO)(hv:eZ w v l) :
  Ni MK 55 #[v] w fun r w'=>r=MN (M3 (fR l))/\MQ w.heap.size w w':=by
 obtain⟨a,ca,rfl,hca,hma,pa⟩:=hv.F6;unfold NE at hma;clear hv
 by_cases hbig:12<l.length
 ·have E:M6 (fR l=Nb):=Al fun h=>by have:=h.1;omega
  have hbI:(12:Int)<(l.length:Int):=by omega
  clear pa;go_enter Tp,S8;go_wp2;go_ret;exact⟨by rw[E.out];rfl,MY _ _⟩
 ·have E:M6 (fR l=dO 0 l):=vi (by omega)
  rw[E.out];have hbI:¬((12:Int)<(l.length:Int)):=by omega
  go_enter Tp,S8;go_wp2
  go_loopw [3,11] (fun nx i wr=>∃(k:Nat) (n:Int),i=MF ME k/\nx=MF ME n/\k<=l.length/\(0<=n/\n<=12)/\dO 0 l=dO n (l.drop k)/\MQ w.heap.size w wr) (fun _ i _=>l.length-(On i).toNat)
  case atStart=>exact⟨0,0,rfl,rfl,Nx _,⟨by omega,by omega⟩,rfl,MY _ _⟩
  case round =>
   obtain⟨k,n,rfl,rfl,hk,hn,hall,hb⟩:=hrel
   by_cases hlt:k<l.length
   ·obtain⟨b1,o1,rfl,hb1,c1,c2,c3⟩:=pa k hlt
    replace c1:=(hb.cell (p:=⟨b1,o1+k*3,MH⟩) hb1).trans c1;replace c2:=(hb.cell (p:=⟨b1,o1+k*3+1,MH⟩) hb1).trans c2;replace c3:=(hb.cell (p:=⟨b1,o1+k*3+2,MH⟩) hb1).trans c3;rw[OK hlt]at hall;obtain⟨⟨x1,x2,x3⟩,hx⟩:∃x,x=l[k]:=⟨_,rfl⟩;rw[<-hx]at c1 c2 c3 hall;replace hall:dO 0 l=(Nn (n<=x1/\x1<12/\gI (x1,x2,x3)) && dO (x1+1) (l.drop (k+1))):=hall;have hbl1:b1<wr.heap.size:=M8 hb1 hb.size;have hbn:MQ w.heap.size w (wr.alloc (MP #[MF ME x1,MF ME x2,MF ME x3] 76)):=hb.alloc hb.size _;have H:M6 (_/\_):=⟨hall,hbn⟩;clear hall hb hbn hx pa hb1;have hkd:(k:Int)<(l.length:Int):=by omega
    cases h1:Nn (x1<n)
    case true =>
     have F:M6 (dO 0 l=Nb):=by rw[H.out.1];exact kO fun h=>by have:=M2 h1;omega
     go_wp2;go_ret;exact⟨by rw[F.out];rfl,H.out.2⟩
    cases h2:Nn (12<=x1)
    case true =>
     have F:M6 (dO 0 l=Nb):=by rw[H.out.1];exact kO fun h=>by have:=M2 h2;omega
     go_wp2;go_ret;exact⟨by rw[F.out];rfl,H.out.2⟩
    cases h3:Nn (x2<0)
    case true =>
     have F:M6 (dO 0 l=Nb):=by rw[H.out.1];exact kO fun h=>by have:=M2 h3;have:=h.2.2.1;simp at this;omega
     go_wp2;go_ret;exact⟨by rw[F.out];rfl,H.out.2⟩
    cases h4:Nn (8<x2)
    case true =>
     have F:M6 (dO 0 l=Nb):=by rw[H.out.1];exact kO fun h=>by have:=M2 h4;have:=h.2.2.1;simp at this;omega
     go_wp2;go_ret;exact⟨by rw[F.out];rfl,H.out.2⟩
    cases h5:Nn (0<=x3/\x3<=40)
    case false =>
     have F:M6 (dO 0 l=Nb):=by rw[H.out.1];exact kO fun h=>Nc h5 h.2.2.2
     go_wp2_with fail
     refine(oV _ _).mono ?_;rw[h5];rintro r w' ⟨rfl,rfl⟩;go_wp2;go_ret;exact⟨by rw[F.out];rfl,H.out.2⟩
    have F:M6 (0<=x1+1/\x1+1<=12/\dO 0 l=dO (x1+1) (l.drop (k+1))):=by
     have e1:=Nc h1;have e2:=Nc h2;have e3:=Nc h3;have e4:=Nc h4;refine⟨show 0<=x1+1 by omega,show x1+1<=12 by omega,?_⟩;rw[H.out.1];exact vi ⟨by omega,by omega,⟨by simp;omega,by simp;omega⟩,M2 h5⟩
    have hx1:-1000<=x1:=by have:=Nc h1;omega
    have hx2:x1<=1000:=by have:=Nc h2;omega
    go_wp2_with fail
    refine(oV _ _).mono ?_;rw[h5];rintro r w' ⟨rfl,rfl⟩;go_wp2
    go_roundw
    case rel=>exact⟨k+1,x1+1,by simp,rfl,hlt,⟨F.out.1,F.out.2.1⟩,F.out.2.2,H.out.2⟩
    case measure=>simp[On];omega
   ·obtain rfl:k=l.length:=by omega
    have F:M6 (dO 0 l=Nw):=by rw[hall,List.drop_length];rfl
    have HB:M6 _:=hb;clear pa hall hb;go_wp2;go_ret;exact⟨by rw[F.out];rfl,HB.out⟩
theorem FK(v:M7)(l:List Ld)(w:MO)(hv:eZ w v l)(hok:ir l) :
  Ni MK 56 #[v] w fun r w'=>r=MN (MF ME (cY l))/\MQ w.heap.size w w':=by
 obtain⟨a,ca,rfl,hca,hma,pa⟩:=hv.F6;unfold NE at hma;clear hv;have hl:=hok.1;have hall:=ju hok.2;go_enter Tryz.func56,Tryz.ntmps56;go_wp2
 go_loopw [3,8] (fun s i wr=>∃(k:Nat),i=MF ME k/\s=MF ME (cY (l.take k))/\k<=l.length/\MQ w.heap.size w wr) (fun _ i _=>l.length-(On i).toNat)
 case atStart=>exact⟨0,rfl,by simp[Dk],Nx _,MY _ _⟩
 case round =>
  obtain⟨k,rfl,rfl,hk,hb⟩:=hrel
  by_cases hlt:k<l.length
  ·obtain⟨b1,o1,rfl,hb1,c1,c2,c3⟩:=pa k hlt
   replace c1:=(hb.cell (p:=⟨b1,o1+k*3,MH⟩) hb1).trans c1;replace c2:=(hb.cell (p:=⟨b1,o1+k*3+1,MH⟩) hb1).trans c2;replace c3:=(hb.cell (p:=⟨b1,o1+k*3+2,MH⟩) hb1).trans c3;have hs:cY (l.take (k+1))=cY (l.take k)+l[k].2.1:=by rw[M9 hlt,wV]
   have hd:=hall l[k] (Nk hlt);obtain⟨t1,t2⟩:=nI (l.take k) fun x hx=>hall x (List.mem_of_mem_take hx)
   have t3:((l.take k).length:Int)<=12:=by rw[NH];omega
   obtain⟨⟨x1,x2,x3⟩,hx⟩:∃x,x=l[k]:=⟨_,rfl⟩;rw[<-hx]at c1 c2 c3 hs hd;have hd1:0<=x2:=hd.1.1;have hd2:x2<=8:=hd.1.2;replace hs:cY (l.take (k+1))=cY (l.take k)+x2:=hs;obtain⟨s,hss⟩:∃s,s=cY (l.take k):=⟨_,rfl⟩;rw[<-hss]at hs t1 t2⊢;have t4:s<=96:=by omega
   have hbl1:b1<wr.heap.size:=M8 hb1 hb.size;have hbn:MQ w.heap.size w (wr.alloc (MP #[MF ME x1,MF ME x2,MF ME x3] 76)):=hb.alloc hb.size _;have H:M6 (_/\_):=⟨hs,hbn⟩;clear hs hbn hss hb hx hd pa hb1 t2 t3;have hkd:(k:Int)<(l.length:Int):=by omega
   go_wp2
   go_roundw
   case rel=>exact⟨k+1,by simp,by rw[H.out.1],hlt,H.out.2⟩
   case measure=>simp[On];omega
  ·obtain rfl:k=l.length:=by omega
   have HB:M6 _:=hb;clear pa hb;rw[NT];go_wp2;go_ret;exact⟨rfl,HB.out⟩
def jp(a b c t:Int)(x:Ld):Int:=if x.2.1=0 then 0 else ns a b c x.2.1 t
def eI(a b c:Int)(l:List Ld):List Int:=l.map (jp a b c (cY l))
def fC(l:List Ld)(a b c:Int):Int×List Int:=if fR l then if g8 a b c then(0,eI a b c l)else(2,[])else(6,[])
def rW(o:Int×List Int)(w:MO)(r:Ending)(w':MO):Prop:=∃y,r=MN (Nv #[y,MF ME o.1])/\fZ w' y o.2/\MQ w.heap.size w w'
theorem yS(hok:ir l)(hf:g8 a b c){x:Ld}(hx:x∈l)(h0:x.2.1≠0):l9 a b c x.2.1 (cY l):=by
 have h1:=(ju hok.2 x hx).1;have h2:=wo l (ju hok.2) x hx;have h3:=nI l (ju hok.2);have h4:=hok.1;exact⟨hf,by omega,h2,by omega⟩
def dv(m:List Int)(k:Nat):List Int:=m.take k++Nj (m.length-k) 0
theorem vf(m:List Int)(k:Nat)(h:k<=m.length):(dv m k).length=m.length:=by
 simp[dv];omega
theorem vg(m:List Int)(k:Nat)(h:k<m.length):(dv m k)[k]'(by rw[vf m k (by omega)];exact h)=0:=by
 unfold dv;rw[List.getElem_append_right (by simp;omega)];simp
theorem sC(m:List Int)(k:Nat)(h:k<m.length):(dv m k).set k m[k]=dv m (k+1):=by
 unfold dv;rw[Pw _ _ (by simp;omega)];have e:k-(m.take k).length=0:=by simp;omega
 have e2:m.length-k=(m.length-(k+1))+1:=by omega
 rw[e,e2,List.replicate_succ,ML,M9 h,OC];rfl
theorem AG(m:List Int)(k:Nat)(h:k<m.length)(h0:m[k]=0):dv m k=dv m (k+1):=by
 rw[<-sC m k h,h0];have:=vg m k h;refine(PX (by simp) fun i h1 h2=>?_);rw[Pc]
 split
 ·subst_vars;exact this
 ·rfl
theorem yy{x:Int}(h:m[k]?=MI x):(dv m k).set k x=dv m (k+1):=by
 obtain⟨h1,rfl⟩:=List.getElem?_eq_some_iff.1 h;exact sC m k h1
theorem wP(h:m[k]?=MI 0):dv m k=dv m (k+1):=by
 obtain⟨h1,h2⟩:=List.getElem?_eq_some_iff.1 h;exact AG m k h1 h2
theorem CY(m:List Int):dv m m.length=m:=by simp[dv]
theorem Dy(m:List Int):dv m 0=Nj m.length 0:=by simp[dv]
theorem DF(n:Nat)(hn:n<=40)(W:MO):(Instr.makeSlice 71 (MF ME (n:Int)) (MF ME (n:Int))).run MK W=.ok (MG (MI ⟨W.heap.size,0,MH⟩) n n) (W.alloc (MP (aj (Nj n 0)).toArray 3)):=by
 obtain⟨i1,hj,hy0,hy1,hy2⟩:=OF jE;have h:=run_makeSlice (P:=MK) W 71 3 i1 _ Tryz.underlying71 hj hy0 ME ME n n (by omega) (by omega) (by rw[hy1];omega) (by rw[hy2];omega) (by omega);have e:madeCells (MF ME 0).cells (n*1)=(aj (Nj n 0)).toArray:=by
  rw[P6];apply Array.toList_inj.1;exact(toList_madeCells_one (MF ME 0) n).trans (by simp[aj])
 rw[h,hy1,NR,e]
theorem BF(v:M7)(l:List Ld)(a b c:Int)(w:MO)(hv:eZ w v l) :
  Ni MK 31 #[v,MF ME a,MF ME b,MF ME c] w (rW (fC l a b c) w):=by
 obtain⟨p,ca,rfl,hca,hma,_⟩:=hv.F6;have HV:M6 (_/\True):=⟨hv,trivial⟩;clear hv;unfold NE at hma;cases hok:fR l
 ·have hout:fC l a b c=(6,[]):=by unfold fC;rw[hok,Nf PE]
  rw[hout];clear hout;go_enter WI,WA
  go_wp2_with fail
  refine(qX _ l _ HV.out.1).mono ?_;rw[hok];rintro r w1 ⟨rfl,hb1⟩;have HB:M6 _:=hb1;clear hb1;go_wp2
  go_ret2
  exact⟨_,rfl,vO _,HB.out⟩
 cases hf:Nn (g8 a b c)
 ·have hout:fC l a b c=(2,[]):=by unfold fC;rw[Nh hok,Nf (Nc hf)]
  rw[hout];clear hout;go_enter WI,WA
  go_wp2_with fail
  refine(qX _ l _ HV.out.1).mono ?_;rw[hok];rintro r w1 ⟨rfl,hb1⟩;have HB:M6 _:=hb1;clear hb1
  go_wp2_with fail
  refine(o8 _ _ _ _).mono ?_;rw[hf];rintro r w2 ⟨rfl,rfl⟩;go_wp2
  go_ret2
  exact⟨_,rfl,vO _,HB.out⟩
 have hout:fC l a b c=(0,eI a b c l):=by unfold fC;rw[Nh hok,Nh (M2 hf)]
 rw[hout];have hl12:=(lN.1 hok).1;have HF:M6 (ir l/\g8 a b c):=⟨lN.1 hok,M2 hf⟩;have hmk:=DF l.length (by omega);obtain⟨Z,hZ⟩:∃Z,Z=(aj (Nj l.length 0)).toArray:=⟨_,rfl⟩;rw[<-hZ]at hmk;have HZ:M6 _:=hZ;clear hZ hout;go_enter WI,WA
 go_wp2_with fail
 refine(qX _ l _ HV.out.1).mono ?_;rw[hok];rintro r w1 ⟨rfl,hb1⟩;have HB:M6 _:=hb1;clear hb1
 go_wp2_with fail
 refine(o8 _ _ _ _).mono ?_;rw[hf];rintro r w2 ⟨rfl,rfl⟩;clear hok hf
 go_wp2_with fail
 refine(FK _ l _ (HV.out.1.below HB.out) HF.out.1).mono ?_;rintro r w2 ⟨rfl,hb2⟩;have HC:M6 _:=HB.out.trans (hb2.mono HB.out.size);clear hb2 HB;obtain⟨t,ht⟩:∃t,t=cY l:=⟨_,rfl⟩;rw[<-ht];obtain⟨m,hm⟩:∃m,m=eI a b c l:=⟨_,rfl⟩;have hml:m.length=l.length:=by rw[hm];simp[eI]
 have hmat:∀k (h:k<l.length),m[k]?=MI (jp a b c t l[k]):=fun k h=>by
  subst hm ht;simp[eI,h]
 have HM:M6 (_/\_/\_/\_):=⟨ht,hm,hml,hmat⟩;clear ht hm hml hmat
 go_wp2;obtain⟨W3,hW3⟩:∃W3,W3=w2.alloc (MP Z 3):=⟨_,rfl⟩;have hb3:MQ w2.heap.size w2 W3:=by rw[hW3];exact gr _
 have hA3:aC 3 l.length W3 w2.heap.size (dv m 0):=by rw[hW3,HZ.out,Dy,HM.out.2.2.1];exact⟨M1 _ _,by simp⟩
 rw[<-hW3];have HX:M6 (_/\_/\_):=⟨hA3,HC.out.trans (hb3.mono HC.out.size),HC.out.size⟩;clear hA3 hb3 hW3 hmk HC
 go_loopw [31] (fun i wr=>∃(k:Nat),i=MF ME k/\k<=l.length/\aC 3 l.length wr w2.heap.size (dv m k)/\MQ w.heap.size w wr) (fun i _=>l.length-(On i).toNat)
 case atStart=>exact⟨0,rfl,Nx _,HX.out.1,HX.out.2.1⟩
 case round =>
  obtain⟨k,rfl,hk,hA,hb⟩:=hrel
  by_cases hlt:k<l.length
  ·obtain⟨_,_,e0,_,_,pa⟩:=HV.out.1.F6
   obtain⟨b1,o1,rfl,hb1,c1,c2,c3⟩:=(by injection e0 with e0;subst e0;exact pa k hlt:∃b off,p=some ⟨b,off,none⟩/\b<w.heap.size/\w.cell? ⟨b,off+k*3,none⟩=some (.int .i64 l[k].1)/\w.cell? ⟨b,off+k*3+1,none⟩=some (.int .i64 l[k].2.1)/\w.cell? ⟨b,off+k*3+2,none⟩=some (.int .i64 l[k].2.2));clear pa e0;replace c1:=(hb.cell (p:=⟨b1,o1+k*3,MH⟩) hb1).trans c1;replace c2:=(hb.cell (p:=⟨b1,o1+k*3+1,MH⟩) hb1).trans c2;replace c3:=(hb.cell (p:=⟨b1,o1+k*3+2,MH⟩) hb1).trans c3;have hmk:m[k]?=MI (jp a b c t l[k]):=HM.out.2.2.2 k hlt;have hfit:l[k].2.1≠0->l9 a b c l[k].2.1 t:=fun h0=>by rw[HM.out.1];exact yS HF.out.1 HF.out.2 (Nk hlt) h0
   obtain⟨⟨x1,x2,x3⟩,hx⟩:∃x,x=l[k]:=⟨_,rfl⟩;rw[<-hx]at c1 c2 c3 hmk hfit;have hbl1:b1<wr.heap.size:=M8 hb1 hb.size;have hg:=hA.lt;have hcg:=hA.F7 k (by rw[vf m k (by rw[HM.out.2.2.1];omega),HM.out.2.2.1];exact hlt);rw[vg m k (by rw[HM.out.2.2.1];exact hlt)]at hcg;have hfg:=hA.Gu k;have hbn:MQ w.heap.size w (wr.alloc (MP #[MF ME x1,MF ME x2,MF ME x3] 76)):=hb.alloc hb.size _;have hAn:aC 3 l.length (wr.alloc (MP #[MF ME x1,MF ME x2,MF ME x3] 76)) w2.heap.size (dv m k):=hA.below (gr _);have hkd:(k:Int)<(l.length:Int):=by omega
   have H:M6 (_/\_/\_/\_/\_/\_):=⟨hAn,hbn,hmk,hfit,hA,hb⟩;clear hAn hbn hmk hx hA hb hb1 hfit;cases h0:(x2 == 0)
   ·have hx0:x2≠0:=by simpa using h0
    have hfit:=H.out.2.2.2.1 hx0;have G:M6 (m[k]?=MI (ns a b c x2 t)):=by
     rw[H.out.2.2.1];unfold jp;rw[Nf hx0];rfl
    clear hx0;have HFit:M6 (_/\True):=⟨hfit,trivial⟩;clear hfit
    go_wp2_with fail
    refine(yw _ _ _ _ _ _ HFit.out.1).mono ?_;rintro r w' ⟨rfl,rfl⟩;obtain⟨cv,hcv⟩:∃cv,cv=ns a b c x2 t:=⟨_,rfl⟩;rw[<-hcv];have HCV:M6 _:=hcv;clear hcv;go_wp2
    go_roundw
    case rel =>
     have h1:=H.out.2.2.2.2.1.F4 k cv;rw[yy (by rw[HCV.out];exact G.out)]at h1;have h2:MQ w.heap.size w (wr.setCell ⟨w2.heap.size,k,MH⟩ (MF ME cv)):=H.out.2.2.2.2.2.setCell (by exact HX.out.2.2) _;exact⟨k+1,by simp,hlt,h1.below (gr _),h2.alloc h2.size _⟩
    case measure=>simp[On];omega
   ·have hx0:x2=0:=by simpa using h0
    have G:M6 (m[k]?=MI 0):=by
     rw[H.out.2.2.1];unfold jp;rw[Nh hx0];rfl
    subst hx0;clear h0;go_wp2
    go_roundw
    case rel=>exact⟨k+1,by simp,hlt,by rw[<-wP G.out];exact H.out.1,H.out.2.1⟩
    case measure=>simp[On];omega
  ·obtain rfl:k=l.length:=by omega
   have H:M6 (_/\_):=⟨hA,hb⟩;clear hA hb;go_wp2
   go_ret2
   refine⟨_,rfl,?_,H.out.2⟩;have:=H.out.1.Jc (by omega);rw[<-HM.out.2.2.1,CY]at this;rw[<-HM.out.2.1];rw[HM.out.2.2.1]at this;exact this
abbrev dc:Ld:=(0,0,0)
def bU(q:Ld->Bool):List Ld->Option Nat
 | []=>MH
 |t::l=>if q t then MI 0 else(bU q l).map (·+1)
theorem qh{q:Ld->Bool}:∀ {l:List Ld},(∀t∈l,q t=Nb)->bU q l=MH
 | [],_=>rfl
 |t::l,h=>by
  unfold bU;rw[h t (by simp),qh (l:=l) fun x hx=>h x (by simp[hx])];rfl
theorem ow{q:Ld->Bool}:∀ {l:List Ld} {k:Nat} (hk:k<l.length),(∀t∈l.take k,q t=Nb)->q l[k]=Nw->bU q l=MI k
 |t::l,0,_,_,h=>by
  unfold bU;rw[Nh (by simpa using h)]
 |t::l,k+1,hk,h1,h2=>by
  unfold bU;rw[Nf (by rw[h1 t (by simp)];simp),ow (l:=l) (k:=k) (by simpa using hk) (fun x hx=>h1 x (by simp[hx])) (by simpa using h2)];rfl
theorem mR{q:Ld->Bool}:∀ {l:List Ld} {k:Nat},bU q l=MI k->∃hk:k<l.length,q l[k]=Nw
 | [],k,h=>by simp[bU]at h
 |t::l,k,h=>by
  unfold bU at h
  split at h
  case isTrue h1=>injection h with h;subst h;exact⟨by simp,h1⟩
  case isFalse h1 =>
   cases h2:bU q l with
   |none=>rw[h2]at h;cases h
   |some j =>
    rw[h2]at h;injection h with h;subst h;obtain⟨h3,h4⟩:=mR h2;exact⟨by simpa using h3,by simpa using h4⟩
theorem wi{q:Ld->Bool}:∀ {l:List Ld},bU q l=MH->∀t∈l,q t=Nb
 | [],_,t,ht=>by simp at ht
 |x::l,h,t,ht=>by
  unfold bU at h
  split at h
  case isTrue h1=>cases h
  case isFalse h1 =>
   cases h2:bU q l with
   |none =>
    rcases List.mem_cons.1 ht with rfl|ht
    ·simpa using h1
    ·exact wi h2 t ht
   |some j=>rw[h2]at h;cases h
def dj(x:Ld):Bool:=x.2.1 != 0
def fu(b:Int)(x:Ld):Bool:=(x.1 == b) && (x.2.1 != 0)
def cm(l:List Ld)(m:List Int)(i:Nat):Bool:=Nn ((l.getD i dc).2.2<m.getD i 0)
def df(l:List Ld)(m:List Int):List Int->Nat->Option Nat
 | [],_=>MH
 |b::ws,t=>match bU (fu b) l with
  |none=>df l m ws t
  |some i=>if t=0 then MH else if cm l m i then MI i else df l m ws (t-1)
theorem mo{l:List Ld}{m:List Int}:∀ {ws:List Int} {t:Nat} {i:Nat},df l m ws t=MI i->i<l.length/\cm l m i=Nw/\dj (l.getD i dc)=Nw
 | [],t,i,h=>by cases h
 |b::ws,t,i,h=>by
  unfold df at h;cases h1:bU (fu b) l with
  |none=>rw[h1]at h;exact mo h
  |some j =>
   rw[h1]at h;simp only at h
   split at h
   ·cases h
   ·split at h
    case isTrue h2 =>
     injection h with h;subst h;obtain⟨h3,h4⟩:=mR h1;refine⟨h3,h2,?_⟩;unfold fu at h4;rw[Po]at h4;unfold dj
     simpa [h3]using h4.2
    ·exact mo h
def ig(l:List Ld)(i j:Nat):Bool:=Nn ((l.getD i dc).2.2*(l.getD j dc).2.1<(l.getD j dc).2.2*(l.getD i dc).2.1)
def bL(l:List Ld)(m:List Int):Nat->Option Nat
 |0=>MH
 |k+1=>if cm l m k && (match bL l m k with|none=>Nw|some j=>ig l k j)then MI k else bL l m k
abbrev ku(l:List Ld)(m:List Int)(lo hi:Nat)(o:Option Nat):Prop:=match o with
 |none=>∀j,lo<=j->j<hi->cm l m j=Nb
 |some i=>(lo<=i/\i<hi/\cm l m i=Nw)/\∀j,lo<=j->j<hi->cm l m j=Nw ->
   (j<i->(l.getD i dc).2.2*(l.getD j dc).2.1<(l.getD j dc).2.2*(l.getD i dc).2.1)/\(i<=j->(l.getD i dc).2.2*(l.getD j dc).2.1<=(l.getD j dc).2.2*(l.getD i dc).2.1)
theorem BJ{a1 w1 a2 w2 a3 w3:Int}(p1:0<w1)(p2:0<w2)(p3:0<w3)(h1:a1*w2<a2*w1)(h2:a2*w3<=a3*w2):a1*w3<a3*w1:=by
 have e1:a1*w2*w3<a2*w1*w3:=Int.mul_lt_mul_of_pos_right h1 p3;have e2:a2*w3*w1<=a3*w2*w1:=Int.mul_le_mul_of_nonneg_right h2 (by omega);have e3:a2*w1*w3=a2*w3*w1:=Rx _ _ _;have e4:a1*w2*w3=a1*w3*w2:=Rx _ _ _;have e5:a3*w2*w1=a3*w1*w2:=Rx _ _ _;exact Int.lt_of_mul_lt_mul_right (a:=w2) (by omega) (by omega)
section
variable {l:List Ld}{m:List Int}
abbrev lT(l:List Ld)(m:List Int):Prop:=∀j,cm l m j=Nw->0<(l.getD j dc).2.1
theorem sX(hw:lT l m){o:Option Nat}(h:ku l m 0 k o)(h1:cm l m k=Nw)(h2:∀j,o=MI j->ig l k j=Nw):ku l m 0 (k+1) (MI k):=by
 refine⟨⟨Nx _,by omega,h1⟩,fun j _ hj hr=>⟨fun hlt=>?_,fun hge=>?_⟩⟩
 ·cases o with
  |none =>
   have:=h j (Nx _) hlt;rw[this]at hr;cases hr
  |some i =>
   have h3:=M2 (h2 i rfl);obtain⟨⟨_,hi,hri⟩,hb⟩:=h;have h4:=hb j (Nx _) hlt hr;refine BJ (hw k h1) (hw i hri) (hw j hr) h3 ?_;rcases Oq j i with hji|hji
   ·exact Int.le_of_lt (h4.1 hji)
   ·exact h4.2 hji
 ·obtain rfl:j=k:=by omega
  exact Qh _
theorem sw{o:Option Nat}(h:ku l m 0 k o)(h1:cm l m k=Nb\/∃j,o=MI j/\ig l k j=Nb):ku l m 0 (k+1) o:=by
 cases o with
 |none =>
  intro j _ hj;rcases Oq j k with hlt|hge
  ·exact h j (Nx _) hlt
  ·obtain rfl:j=k:=by omega
   rcases h1 with h1|⟨_,e,_⟩
   ·exact h1
   ·cases e
 |some i =>
  obtain⟨⟨_,hi,hri⟩,hb⟩:=h;refine⟨⟨Nx _,by omega,hri⟩,fun j _ hj hr=>?_⟩;rcases Oq j k with hlt|hge
  ·exact hb j (Nx _) hlt hr
  ·obtain rfl:j=k:=by omega
   refine⟨fun _=>by omega,fun _=>?_⟩;rcases h1 with h1|⟨q,e,h1⟩
   ·rw[h1]at hr;cases hr
   ·injection e with e
    subst e;have:=Nc h1;omega
theorem qc(hw:lT l m):∀k,ku l m 0 k (bL l m k)
 |0=>fun _ _ h=>by omega
 |k+1=>by
  have ih:=qc hw k;unfold bL;cases h1:cm l m k
  ·rw[Bool.false_and,Nf PE]
   exact sw ih (Nt h1)
  ·rw[Bool.true_and]
   cases h2:bL l m k with
   |none =>
    rw[h2]at ih;rw[Nh rfl];exact sX hw ih h1 (fun j e=>by cases e)
   |some i =>
    rw[h2]at ih;show ku l m 0 (k+1) (if ig l k i=Nw then MI k else MI i)
    by_cases h3:ig l k i=Nw
    ·rw[Nh h3]
     exact sX hw ih h1 (fun j e=>by injection e with e;subst e;exact h3)
    ·rw[Nf h3]
     exact sw ih (NF ⟨i,rfl,by simpa using h3⟩)
end
def iu(l:List Ld)(m:List Int)(ws:List Int)(t:Nat):Option Nat:=match df l m ws t with
 |some i=>MI i
 |none=>bL l m l.length
def gk(l:List Ld)(o:Option Nat):Int×Int:=match o with
 |some i=>((l.getD i dc).1,0)
 |none=>(0,9)
def gY(ws:List Int)(l:List Ld)(a b c t:Int):Int×Int :=
 if fR l then if g8 a b c then
  if 0<=t/\t<=12/\ws.length<=12 then
   if l.any dj then gk l (iu l (eI a b c l) ws t.toNat)else(0,11)
  else(0,2)
 else(0,2)else(0,6)
theorem zI(a b c:Int)(l:List Ld)(i:Nat):(eI a b c l).getD i 0=if h:i<l.length then jp a b c (cY l) l[i]else 0:=by
 unfold eI
 split
 case isTrue h=>simp[h]
 case isFalse h=>simp[Nz (Nat.le_of_not_lt h)]
theorem ru(hok:ir l):lT l (eI a b c l):=by
 intro j hj;have h1:=M2 hj;rw[zI]at h1
 split at h1
 case isTrue h =>
  have hd:=ju hok.2 l[j] (Nk h);have hg:l.getD j dc=l[j]:=by simp[h]
  rw[hg]at h1⊢;unfold jp at h1
  split at h1
  case isTrue h0=>have:=hd.2.1;omega
  case isFalse h0=>have:=hd.1.1;omega
 case isFalse h =>
  have hg:l.getD j dc=dc:=by simp[Nz (Nat.le_of_not_lt h)]
  rw[hg]at h1;simp[dc]at h1
theorem CU{ws:List Int}{t:Nat}(h:bL l m l.length=MI i)(hw:lT l m):i<l.length/\cm l m i=true:=by
 have:=qc hw l.length;rw[h]at this;exact⟨this.1.2.1,this.1.2.2⟩
theorem sU(x1 x2 x3:Int)(w:MO) :
  Ni MK 33 #[Ny #[MF ME x1,MF ME x2,MF ME x3]] w fun r w'=>r=MN (M3 (dj (x1,x2,x3)))/\MQ w.heap.size w w':=by
 have ho:dj (x1,x2,x3)=(x2 != 0):=rfl;obtain⟨ans,hans⟩:∃ans,ans=dj (x1,x2,x3):=⟨_,rfl⟩;rw[<-hans]at ho⊢;have H:M6 _:=ho;clear ho hans;go_enter TQ,TJ;go_wp2;go_ret;exact⟨by rw[H.out];rfl,gr w⟩
theorem Ec(x1 x2 x3 bk:Int)(g:Nat)(w:MO)(hc:w.cell? ⟨g,0,MH⟩=MI (MF ME bk)) :
  Ni MK 58 #[Ny #[MF ME x1,MF ME x2,MF ME x3],Na (MI ⟨g,0,MH⟩)] w fun r w'=>r=MN (M3 (fu bk (x1,x2,x3)))/\MQ w.heap.size w w':=by
 have hlt:g<w.heap.size:=MX w ⟨g,0,MH⟩ hc;have ho:fu bk (x1,x2,x3)=((x1 == bk) && dj (x1,x2,x3)):=rfl;obtain⟨ans,hans⟩:∃ans,ans=fu bk (x1,x2,x3):=⟨_,rfl⟩;rw[<-hans]at ho⊢;have H:M6 _:=ho;clear ho hans;cases h:(x1 == bk)
 ·have E:M6 (ans=Nb):=by rw[H.out,h];rfl
  clear H;go_enter Tq,Te;go_wp2;go_ret;exact⟨by rw[E.out];rfl,gr w⟩
 ·have E:M6 (ans=dj (x1,x2,x3)):=by rw[H.out,h];rfl
  obtain rfl:x1=bk:=by simpa using h
  clear H h;go_enter Tq,Te
  go_wp2_with fail
  refine(sU _ _ _ _).mono ?_;rw[<-E.out];rintro r w1 ⟨rfl,hb1⟩;have HB:M6 _:=(gr w).trans (hb1.mono (by simp));clear hb1;go_wp2;go_ret;exact⟨rfl,HB.out⟩
theorem Bt(v:M7)(l:List Ld)(w:MO)(hv:eZ w v l) :
  Ni MK 57 #[v,PB (PD 33) #[] #[]] w fun r w'=>r=MN (MF ME (bI (bU dj l)))/\MQ w.heap.size w w':=by
 obtain⟨q,hq0⟩:∃q,q=dj:=⟨_,rfl⟩;obtain⟨a,ca,rfl,hca,hma,pa⟩:=hv.F6;unfold NE at hma;have HQ:M6 (∀(x1 x2 x3:Int) (W:MO),Ni MK 33 #[Ny #[MF ME x1,MF ME x2,MF ME x3]] W fun r w'=>r=MN (M3 (q (x1,x2,x3)))/\MQ W.heap.size W w'):=by rw[hq0];exact fun x1 x2 x3 W=>sU x1 x2 x3 W
 rw[<-hq0];obtain⟨ans,hans⟩:∃ans,ans=bI (bU q l):=⟨_,rfl⟩;rw[<-hans];have H:M6 _:=hans;clear hv hans hq0;go_enter Uw,Ul;go_wp2
 go_loopw [8] (fun i wr=>∃k:Nat,i=MF ME k/\k<=l.length/\(∀t∈l.take k,q t=Nb)/\MQ w.heap.size w wr) (fun i _=>l.length-(On i).toNat)
 case atStart=>exact⟨0,rfl,Nx _,by simp,MY _ _⟩
 case round =>
  obtain⟨k,rfl,hk,hall,hbr⟩:=hrel
  by_cases hlt:k<l.length
  ·obtain⟨b1,o1,rfl,hb1,c1,c2,c3⟩:=pa k hlt
   have e1:=(hbr.cell (p:=⟨b1,o1+k*3,MH⟩) hb1).trans c1;have e2:=(hbr.cell (p:=⟨b1,o1+k*3+1,MH⟩) hb1).trans c2;have e3:=(hbr.cell (p:=⟨b1,o1+k*3+2,MH⟩) hb1).trans c3;have HA:M6 (_/\_):=⟨hall,hbr⟩;have hkI:(k:Int)<(l.length:Int):=by omega
   have htk:l.take (k+1)=l.take k++[l[k]]:=M9 hlt;have hfs:q l[k]=Nw->bU q l=MI k:=fun h=>ow hlt hall h
   have hxk:∃x,x=l[k]:=⟨_,rfl⟩;obtain⟨⟨x1,x2,x3⟩,hxk⟩:=hxk;rw[<-hxk]at e1 e2 e3 htk hfs;have HX:M6 (_/\_):=⟨htk,hfs⟩;clear hall hbr c1 c2 c3 hb1 pa htk hfs hxk;cases hd:q (x1,x2,x3)
   ·go_wp2_with fail
    refine(HQ.out x1 x2 x3 _).mono ?_;rw[hd];rintro r w2 ⟨rfl,hb2⟩;have H2:M6 _:=hb2;clear hb2;go_wp2
    go_roundw
    case rel =>
     refine⟨k+1,by simp,hlt,fun t ht=>?_,HA.out.2.trans (H2.out.mono HA.out.2.size)⟩;rw[HX.out.1]at ht;rcases List.mem_append.1 ht with ht|ht
     ·exact HA.out.1 t ht
     ·simp at ht
      rw[ht];exact hd
    case measure=>simp[On];omega
   ·go_wp2_with fail
    refine(HQ.out x1 x2 x3 _).mono ?_;rw[hd];rintro r w2 ⟨rfl,hb2⟩;have HE:M6 (ans=(k:Int)):=by show ans=_;rw[H.out,HX.out.2 hd];rfl
    have H2:M6 _:=hb2;clear hb2;go_wp2;go_ret;exact⟨by rw[HE.out];rfl,HA.out.2.trans (H2.out.mono HA.out.2.size)⟩
  ·have HE:M6 (ans = -1):=by
    show ans=_;rw[H.out,qh fun t ht=>hall t (by rw[N1 (by omega)];exact ht)];rfl
   have HB:M6 _:=hbr;clear hall hbr pa;go_wp2;go_ret;exact⟨by rw[HE.out];rfl,HB.out⟩
theorem zd(v:M7)(l:List Ld)(bk:Int)(g:Nat)(w:MO)(hv:eZ w v l)(hc:w.cell? ⟨g,0,MH⟩=MI (MF ME bk)) :
  Ni MK 57 #[v,PB (PD 58) #[] #[Na (MI ⟨g,0,MH⟩)]] w fun r w'=>r=MN (MF ME (bI (bU (fu bk) l)))/\MQ w.heap.size w w':=by
 obtain⟨q,hq0⟩:∃q,q=fu bk:=⟨_,rfl⟩;obtain⟨a,ca,rfl,hca,hma,pa⟩:=hv.F6;unfold NE at hma;have hglt:=MX w ⟨g,0,MH⟩ hc;have HQ:M6 (∀(x1 x2 x3:Int) (W:MO),MQ w.heap.size w W->Ni MK 58 #[Ny #[MF ME x1,MF ME x2,MF ME x3],Na (MI ⟨g,0,MH⟩)] W fun r w'=>r=MN (M3 (q (x1,x2,x3)))/\MQ W.heap.size W w'):=by
  rw[hq0];exact fun x1 x2 x3 W hb=>Ec x1 x2 x3 bk g W ((hb.cell (p:=⟨g,0,MH⟩) hglt).trans hc)
 rw[<-hq0];obtain⟨ans,hans⟩:∃ans,ans=bI (bU q l):=⟨_,rfl⟩;rw[<-hans];have H:M6 _:=hans;clear hv hans hq0 hc;go_enter Uw,Ul;go_wp2
 go_loopw [8] (fun i wr=>∃k:Nat,i=MF ME k/\k<=l.length/\(∀t∈l.take k,q t=Nb)/\MQ w.heap.size w wr) (fun i _=>l.length-(On i).toNat)
 case atStart=>exact⟨0,rfl,Nx _,by simp,MY _ _⟩
 case round =>
  obtain⟨k,rfl,hk,hall,hbr⟩:=hrel
  by_cases hlt:k<l.length
  ·obtain⟨b1,o1,rfl,hb1,c1,c2,c3⟩:=pa k hlt
   have e1:=(hbr.cell (p:=⟨b1,o1+k*3,MH⟩) hb1).trans c1;have e2:=(hbr.cell (p:=⟨b1,o1+k*3+1,MH⟩) hb1).trans c2;have e3:=(hbr.cell (p:=⟨b1,o1+k*3+2,MH⟩) hb1).trans c3;have HA:M6 (_/\_):=⟨hall,hbr⟩;have hkI:(k:Int)<(l.length:Int):=by omega
   have htk:l.take (k+1)=l.take k++[l[k]]:=M9 hlt;have hfs:q l[k]=Nw->bU q l=MI k:=fun h=>ow hlt hall h
   have hxk:∃x,x=l[k]:=⟨_,rfl⟩;obtain⟨⟨x1,x2,x3⟩,hxk⟩:=hxk;rw[<-hxk]at e1 e2 e3 htk hfs;have HX:M6 (_/\_):=⟨htk,hfs⟩;clear hall hbr c1 c2 c3 hb1 pa htk hfs hxk;cases hd:q (x1,x2,x3)
   ·go_wp2_with fail
    refine(HQ.out x1 x2 x3 _ HA.out.2).mono ?_;rw[hd];rintro r w2 ⟨rfl,hb2⟩;have H2:M6 _:=hb2;clear hb2;go_wp2
    go_roundw
    case rel =>
     refine⟨k+1,by simp,hlt,fun t ht=>?_,HA.out.2.trans (H2.out.mono HA.out.2.size)⟩;rw[HX.out.1]at ht;rcases List.mem_append.1 ht with ht|ht
     ·exact HA.out.1 t ht
     ·simp at ht
      rw[ht];exact hd
    case measure=>simp[On];omega
   ·go_wp2_with fail
    refine(HQ.out x1 x2 x3 _ HA.out.2).mono ?_;rw[hd];rintro r w2 ⟨rfl,hb2⟩;have HE:M6 (ans=(k:Int)):=by show ans=_;rw[H.out,HX.out.2 hd];rfl
    have H2:M6 _:=hb2;clear hb2;go_wp2;go_ret;exact⟨by rw[HE.out];rfl,HA.out.2.trans (H2.out.mono HA.out.2.size)⟩
  ·have HE:M6 (ans = -1):=by
    show ans=_;rw[H.out,qh fun t ht=>hall t (by rw[N1 (by omega)];exact ht)];rfl
   have HB:M6 _:=hbr;clear hall hbr pa;go_wp2;go_ret;exact⟨by rw[HE.out];rfl,HB.out⟩
theorem Eh:l.any dj=Nn (0<=bI (bU dj l)):=by
 cases h:bU dj l with
 |none =>
  rw[show l.any dj=Nb from List.any_eq_false.2 fun x hx=>by simp[wi h x hx]];rfl
 |some k =>
  obtain⟨h1,h2⟩:=mR h;rw[show l.any dj=Nw from List.any_eq_true.2 ⟨l[k],Nk h1,h2⟩];exact(Nq (show(0:Int)<=bI (MI k)from Int.natCast_nonneg k)).symm
theorem xr(v:M7)(l:List Ld)(w:MO)(hv:eZ w v l) :
  Ni MK 32 #[v,PB (PD 33) #[] #[]] w fun r w'=>r=MN (M3 (l.any dj))/\MQ w.heap.size w w':=by
 obtain⟨a,ca,rfl,_,_,_⟩:=hv.F6;have HV:M6 (_/\_):=⟨hv,Eh (l:=l)⟩;clear hv;obtain⟨ans,hans⟩:∃ans,ans=l.any dj:=⟨_,rfl⟩;rw[<-hans]at HV⊢;clear hans;go_enter Tryz.func32,Tryz.ntmps32
 go_wp2_with fail
 refine(Bt _ l _ HV.out.1).mono ?_;obtain⟨i,hi⟩:∃i,i=bI (bU dj l):=⟨_,rfl⟩;rw[<-hi]at HV⊢;clear hi;rintro r w1 ⟨rfl,hb1⟩;have HB:M6 _:=hb1;clear hb1;go_wp2;go_ret;exact⟨by rw[HV.out.2];rfl,HB.out⟩
def jT(w:MO)(gl gc:Nat)(v u:M7)(l:List Ld)(m:List Int):Prop :=
 w.cell? ⟨gl,0,MH⟩=MI v/\w.cell? ⟨gc,0,MH⟩=MI u/\eZ w v l/\fZ w u m
theorem jT.below{gl gc:Nat}{u:M7}(h:jT w gl gc v u l m)(hb:MQ w.heap.size w w'):jT w' gl gc v u l m :=
 ⟨(hb.cell (p:=⟨gl,0,MH⟩) (MX w ⟨gl,0,MH⟩ h.1)).trans h.1,(hb.cell (p:=⟨gc,0,MH⟩) (MX w ⟨gc,0,MH⟩ h.2.1)).trans h.2.1,h.2.2.1.below hb,h.2.2.2.below hb⟩
theorem uv(i:Nat)(gl gc:Nat)(v u:M7)(l:List Ld)(m:List Int)(w:MO)(he:jT w gl gc v u l m)(hml:m.length=l.length)(hi:i<l.length) :
  Ni MK 34 #[MF ME (i:Int),Na (MI ⟨gl,0,MH⟩),Na (MI ⟨gc,0,MH⟩)] w fun r w'=>r=MN (M3 (cm l m i))/\MQ w.heap.size w w':=by
 obtain⟨h1,h2,hv,hu⟩:=he;obtain⟨p,c,rfl,hc,hm,pa⟩:=hv.F6;obtain⟨p2,c2,rfl,hc2,hm2,pb⟩:=hu.F6;obtain⟨b1,o1,rfl,hb1,_,_,d3⟩:=pa i hi;obtain⟨b2,o2,rfl,hb2,d4⟩:=pb i (by omega);unfold NE at hm hm2;have e:cm l m i=Nn (l[i].2.2<m[i]'(by omega)):=by
  unfold cm;simp[hi,show i<m.length by omega]
 rw[e];generalize l[i].2.2=f at *;generalize (m[i]'(by omega))=cp at *;have hil:(i:Int)<(l.length:Int):=by omega
 have him:(i:Int)<(m.length:Int):=by omega
 clear e pa pb hv hu hb1 hb2 hml;go_enter Tryz.func34,Tryz.ntmps34;go_wp2
 go_region
 go_wp2;go_ret;exact⟨rfl,(MY _ _).drew⟩
theorem EB(hk:k<ws.length)(h:bU (fu ws[k]) l=MH):df l m (ws.drop k) t=df l m (ws.drop (k+1)) t:=by
 rw[OK hk,df,h]
theorem Ds(hk:k<ws.length)(h:bU (fu ws[k]) l=MI i):df l m (ws.drop k) 0=none:=by
 rw[OK hk,df,h];simp
theorem EN(hk:k<ws.length)(h:bU (fu ws[k]) l=MI i)(ht:t≠0)(hr:cm l m i=Nw):df l m (ws.drop k) t=MI i:=by
 rw[OK hk,df,h];simp[ht,hr]
theorem Cw(hk:k<ws.length)(h:bU (fu ws[k]) l=MI i)(hr:cm l m i=Nb):df l m (ws.drop k) (t+1)=df l m (ws.drop (k+1)) t:=by
 rw[OK hk,df,h];simp[hr]
theorem yt(y v u:M7)(ws:List Int)(l:List Ld)(m:List Int)(t gl gc:Nat)(w:MO)(hy:fZ w y ws)(he:jT w gl gc v u l m)(hml:m.length=l.length)(ht:t<=12) :
  Ni MK 35 #[y,v,MF ME (t:Int),PB (PD 34) #[] #[Na (MI ⟨gl,0,MH⟩),Na (MI ⟨gc,0,MH⟩)]] w fun r w'=>r=MN (MF ME (bI (df l m ws t)))/\MQ w.heap.size w w':=by
 obtain⟨py,cy,rfl,hcy,hmy,pa⟩:=hy.F6;obtain⟨pv,cv,rfl,_,_,_⟩:=he.2.2.1.F6;unfold NE at hmy;obtain⟨ans,hans⟩:∃ans,ans=df l m ws t:=⟨_,rfl⟩;rw[<-hans];have HE:M6 (_/\_/\_):=⟨he,hml,pa⟩;have HA:M6 _:=hans;clear he hml pa hy hans;go_enter Tryz.func35,Tryz.ntmps35;go_wp2
 go_step3
 go_wp2
 go_step3
 go_wp2
 go_loopw [2,9,15] (fun s f i wr=>∃(k n:Nat),i=MF ME k/\s=MF ME (n:Int)/\f=MF ME (-1)/\k<=ws.length/\n<=12/\ans=df l m (ws.drop k) n/\MQ w.heap.size w wr) (fun _ _ i _=>ws.length-(On i).toNat)
 case atStart=>exact⟨0,t,rfl,rfl,rfl,Nx _,ht,by rw[HA.out];rfl,MY _ _⟩
 case round =>
  obtain⟨k,n,rfl,rfl,rfl,hk,hn,hans,hb⟩:=hrel
  by_cases hlt:k<ws.length
  ·obtain⟨b1,o1,rfl,hb1,c1⟩:=HE.out.2.2 k hlt
   replace c1:=(hb.cell (p:=⟨b1,o1+k,MH⟩) hb1).trans c1;have hbl:b1<wr.heap.size:=M8 hb1 hb.size;have hkI:(k:Int)<(ws.length:Int):=by omega
   have hs1:=fun h=>EB (l:=l) (m:=m) (t:=n) hlt h
   have hs2:=fun i h=>Ds (l:=l) (m:=m) (i:=i) hlt h
   have hs3:=fun i h=>EN (l:=l) (m:=m) (t:=n) (i:=i) hlt h
   have hs4:=fun i j h=>Cw (l:=l) (m:=m) (t:=j) (i:=i) hlt h
   obtain⟨x,hx⟩:∃x,x=ws[k]:=⟨_,rfl⟩;rw[<-hx]at c1 hs1 hs2 hs3 hs4;obtain⟨W1,hW1⟩:∃W1,W1=wr.alloc (MP #[MF ME x] 3):=⟨_,rfl⟩;have hbW:MQ wr.heap.size wr W1:=by rw[hW1];exact gr _
   have hcW:W1.cell? ⟨wr.heap.size,0,MH⟩=MI (MF ME x):=by rw[hW1];exact(MW _ wr.heap.size 0 _ 3 (0,0) (M1 wr _)).trans rfl
   have hB1:=hb.trans (hbW.mono hb.size);have hE1:=HE.out.1.below hB1;have HW:M6 (_/\_/\_/\_):=⟨hW1,hcW,hB1,hE1⟩;have HS:M6 (_/\_/\_/\_/\_):=⟨hs1,hs2,hs3,hs4,hans⟩;clear hs1 hs2 hs3 hs4 hx hW1 hbW hcW hB1 hE1 hb hb1 hans
   go_wp2_with fail
   rw[<-HW.out.1];refine(zd _ l x wr.heap.size _ HW.out.2.2.2.2.2.1 HW.out.2.1).mono ?_;cases hf:bU (fu x) l with
   |none =>
    rintro r w2 ⟨rfl,hb2⟩;have HB:M6 (MQ w.heap.size w w2/\ans=df l m (ws.drop (k+1)) n):=⟨HW.out.2.2.1.trans (hb2.mono HW.out.2.2.1.size),by rw[HS.out.2.2.2.2];exact HS.out.1 hf⟩;clear hb2 hf;rw[show bI MH = -1 from rfl];go_wp2
    go_roundw
    case rel=>exact⟨k+1,n,by simp,rfl,rfl,hlt,hn,HB.out.2,HB.out.1⟩
    case measure=>simp[On];omega
   |some i =>
    rintro r w2 ⟨rfl,hb2⟩;have HB:M6 (MQ w.heap.size w w2):=HW.out.2.2.1.trans (hb2.mono HW.out.2.2.1.size);have hil:=(mR hf).1;have HF:M6 _:=hf;clear hb2 hf;rw[show bI (MI i)=(i:Int)from rfl];have hi0:¬((i:Int)<0):=by omega
    cases n with
    |zero =>
     have HG:M6 (ans=MH):=by rw[HS.out.2.2.2.2];exact HS.out.2.1 i HF.out
     go_wp2;rw[Sb];go_ret;exact⟨by rw[HG.out];rfl,HB.out⟩
    |succ n =>
     have hn0:(((n+1:Nat):Int) == 0)=false:=by rw[Oh];omega
     cases hr:cm l m i
     ·have HG:M6 (ans=df l m (ws.drop (k+1)) n):=by rw[HS.out.2.2.2.2];exact HS.out.2.2.2.1 i n HF.out hr
      go_wp2_with fail
      refine(uv i gl gc _ u l m _ (HE.out.1.below HB.out) HE.out.2.1 hil).mono ?_;rw[hr];rintro r w3 ⟨rfl,hb3⟩;have HC:M6 (MQ w.heap.size w w3):=HB.out.trans (hb3.mono HB.out.size);clear hb3;go_wp2
      go_roundw
      case rel=>exact⟨k+1,n,by simp,by simp,rfl,hlt,by omega,HG.out,HC.out⟩
      case measure=>simp[On];omega
     ·have HG:M6 (ans=MI i):=by rw[HS.out.2.2.2.2];exact HS.out.2.2.1 i HF.out (by omega) hr
      go_wp2_with fail
      refine(uv i gl gc _ u l m _ (HE.out.1.below HB.out) HE.out.2.1 hil).mono ?_;rw[hr];rintro r w3 ⟨rfl,hb3⟩;have HC:M6 (MQ w.heap.size w w3):=HB.out.trans (hb3.mono HB.out.size);clear hb3;go_wp2;rw[Sb];go_ret;exact⟨by rw[HG.out];rfl,HC.out⟩
  ·have HG:M6 (ans=MH):=by
    rw[hans,List.drop_of_length_le (by omega)];rfl
   have HB:M6 _:=hb;clear hans hb;go_wp2;rw[Sb];go_ret;exact⟨by rw[HG.out];rfl,HB.out⟩
section
open Go.Sort (grow grow_empty grow_grow alloc_eq_grow cell?_grow heap_grow_old)
theorem lQ(w:MO)(q:Nat)(os:Array Obj):MQ w.heap.size w (Oj (w.drewN q) os):=
 ⟨rfl,rfl,rfl,by simp[Oj,World.drewN],fun k hk=>heap_grow_old (w.drewN q) os hk⟩
theorem FD(x1 x2 x3 y1 y2 y3:Int)(w:MO)(hx:gI (x1,x2,x3))(hy:gI (y1,y2,y3)) :
  Ni MK 59 #[Ny #[MF ME x1,MF ME x2,MF ME x3],Ny #[MF ME y1,MF ME y2,MF ME y3]] w fun r w'=>r=MN (M3 (Nn (x3*y2<y3*x2)))/\∃q os,w'=Oj (w.drewN q) os:=by
 obtain⟨⟨a1,a2⟩,a3,a4⟩:=hx;obtain⟨⟨b1,b2⟩,b3,b4⟩:=hy;simp only at a1 a2 a3 a4 b1 b2 b3 b4;have m1:0<=x3*y2:=Int.mul_nonneg a3 b1;have m2:x3*y2<=40*8:=Px a4 b2 b1 (by omega);have m3:0<=y3*x2:=Int.mul_nonneg b3 a1;have m4:y3*x2<=40*8:=Px b4 a2 a1 (by omega);clear a1 a2 a3 a4 b1 b2 b3 b4;go_enter Tryz.func59,Tryz.ntmps59;go_wp2;go_ret;refine⟨rfl,0,#[MP #[MF ME x1,MF ME x2,MF ME x3] 76,MP #[MF ME y1,MF ME y2,MF ME y3] 76],?_⟩;rw[PQ,PQ,grow_grow];rfl
theorem zW(i:Nat)(gl gc:Nat)(v u:M7)(l:List Ld)(m:List Int)(w:MO)(he:jT w gl gc v u l m)(hml:m.length=l.length)(hi:i<l.length) :
  Ni MK 34 #[MF ME (i:Int),Na (MI ⟨gl,0,MH⟩),Na (MI ⟨gc,0,MH⟩)] w fun r w'=>r=MN (M3 (cm l m i))/\∃q os,w'=Oj (w.drewN q) os:=by
 obtain⟨h1,h2,hv,hu⟩:=he;obtain⟨p,c,rfl,hc,hm,pa⟩:=hv.F6;obtain⟨p2,c2,rfl,hc2,hm2,pb⟩:=hu.F6;obtain⟨b1,o1,rfl,hb1,_,_,d3⟩:=pa i hi;obtain⟨b2,o2,rfl,hb2,d4⟩:=pb i (by omega);unfold NE at hm hm2;have e:cm l m i=Nn (l[i].2.2<m[i]'(by omega)):=by
  unfold cm;simp[hi,show i<m.length by omega]
 rw[e];generalize l[i].2.2=f at *;generalize (m[i]'(by omega))=cp at *;have hil:(i:Int)<(l.length:Int):=by omega
 have him:(i:Int)<(m.length:Int):=by omega
 clear e pa pb hv hu hb1 hb2 hml;go_enter Tryz.func34,Tryz.ntmps34;go_wp2
 go_region
 go_wp2;go_ret;exact⟨rfl,1,#[],by rw[grow_empty];rfl⟩
theorem rQ(h:cm l m k=Nb):bL l m (k+1)=bL l m k:=by
 rw[bL,h];rfl
theorem wC(h:cm l m k=Nw)(h2:bL l m k=MH):bL l m (k+1)=MI k:=by
 rw[bL,h,h2];rfl
theorem wH{j:Nat}(h:cm l m k=Nw)(h2:bL l m k=MI j):bL l m (k+1)=if ig l k j then MI k else MI j:=by
 rw[bL,h,h2];rfl
theorem oP{l:List Ld}{m:List Int}:∀ {k j:Nat},bL l m k=MI j->j<k
 |0,j,h=>by cases h
 |k+1,j,h=>by
  cases hr:cm l m k
  ·rw[rQ hr]at h
   have:=oP h;omega
  ·cases ho:bL l m k with
   |none =>
    rw[wC hr ho]at h;injection h with h;omega
   |some i =>
    have hi:=oP ho;rw[wH hr ho]at h
    split at h <;> (injection h with h;omega)
theorem Ee(v u:M7)(l:List Ld)(m:List Int)(gl gc:Nat)(w:MO)(he:jT w gl gc v u l m)(hml:m.length=l.length)(hok:∀x∈l,gI x) :
  Ni MK 36 #[v,PB (PD 34) #[] #[Na (MI ⟨gl,0,MH⟩),Na (MI ⟨gc,0,MH⟩)]] w fun r w'=>r=MN (MF ME (bI (bL l m l.length)))/\MQ w.heap.size w w':=by
 have bB:=bB;obtain⟨pv,cv,rfl,hcv,hmv,pa⟩:=he.2.2.1.F6;unfold NE at hmv;obtain⟨ans,hans⟩:∃ans,ans=bL l m l.length:=⟨_,rfl⟩;rw[<-hans];have HE:M6 (_/\_/\_/\_):=⟨he,hml,pa,hok⟩;have HA:M6 _:=hans;clear he hml pa hok hans;go_enter Tryz.func36,Tryz.ntmps36;go_wp2
 go_loopw [5,10] (fun f i wr=>∃(k:Nat),i=MF ME k/\f=MF ME (bI (bL l m k))/\k<=l.length/\MQ w.heap.size w wr) (fun _ i _=>l.length-(On i).toNat)
 case atStart=>exact⟨0,rfl,rfl,Nx _,MY _ _⟩
 case round =>
  obtain⟨k,rfl,rfl,hk,hb⟩:=hrel
  by_cases hlt:k<l.length
  ·obtain⟨b1,o1,rfl,hb1,c1,c2,c3⟩:=HE.out.2.2.1 k hlt
   have hb1w:=hb1;replace c1:=(hb.cell (p:=⟨b1,o1+k*3,MH⟩) hb1).trans c1;replace c2:=(hb.cell (p:=⟨b1,o1+k*3+1,MH⟩) hb1).trans c2;replace c3:=(hb.cell (p:=⟨b1,o1+k*3+2,MH⟩) hb1).trans c3;have hbl:b1<wr.heap.size:=M8 hb1 hb.size;have hkI:(k:Int)<(l.length:Int):=by omega
   have hokk:=HE.out.2.2.2 l[k] (Nk hlt);have hgk:l.getD k dc=l[k]:=by simp[hlt]
   obtain⟨⟨x1,x2,x3⟩,hx⟩:∃x,x=l[k]:=⟨_,rfl⟩;rw[<-hx]at c1 c2 c3 hokk hgk;obtain⟨W1,hW1⟩:∃W1,W1=wr.alloc (MP #[MF ME x1,MF ME x2,MF ME x3] 76):=⟨_,rfl⟩;have hbW:MQ wr.heap.size wr W1:=by rw[hW1];exact gr _
   have hbox:W1.heap[wr.heap.size]?=MI (MP #[MF ME x1,MF ME x2,MF ME x3] 76 (0,0)):=by rw[hW1];exact M1 _ _
   have hB1:MQ w.heap.size w W1:=hb.trans (hbW.mono hb.size);have hlt1:wr.heap.size<W1.heap.size:=(Array.getElem?_eq_some_iff.1 hbox).1;have k1:∀n os,(Oj (W1.drewN n) os).cell? ⟨wr.heap.size,0,MH⟩=MI (MF ME x1):=Ob hlt1 (by simp[Nl,hbox]);have k2:∀n os,(Oj (W1.drewN n) os).cell? ⟨wr.heap.size,1,MH⟩=MI (MF ME x2):=Ob hlt1 (by simp[Nl,hbox]);have k3:∀n os,(Oj (W1.drewN n) os).cell? ⟨wr.heap.size,2,MH⟩=MI (MF ME x3):=Ob hlt1 (by simp[Nl,hbox]);have HW:M6 (_/\_/\_/\_):=⟨hW1,hB1,hokk,hgk⟩;have HR0:M6 (∀n os,Ni MK 34 #[MF ME (k:Int),Na (MI ⟨gl,0,MH⟩),Na (MI ⟨gc,0,MH⟩)] (Oj (W1.drewN n) os) fun r w'=>r=MN (M3 (cm l m k))/\∃q' os',w'=Oj ((Oj (W1.drewN n) os).drewN q') os'):=
    fun n os=>zW k gl gc _ u l m _ ((HE.out.1.below hB1).below (lQ W1 n os)) HE.out.2.1 hlt
   clear hx hW1 hbW hbox hB1 hokk hgk hb1;cases hr:cm l m k
   ·have HR:M6 _:=HR0.out
    rw[hr]at HR;have HN:M6 (bL l m (k+1)=bL l m k):=rQ hr;obtain⟨f,hf⟩:∃f,f=bI (bL l m k):=⟨_,rfl⟩;rw[<-hf];have HF:M6 _:=hf;clear hf HR0 k1 k2 k3
    go_wp2_with fail
    rw[<-HW.out.1];refine NQ bB (by kernel_rfl) ?_
    repeat (first|go_big_quiet_skip|quiet_step (first|(go_at_call 34;exact NZ (HR.out _ _))))
    refine Oy ?_;intro _ hw';obtain⟨⟨nq,osq⟩,hw''⟩:=hw';subst hw'';have HB:M6 (MQ w.heap.size w (Oj (W1.drewN nq) osq)):=HW.out.2.1.trans ((lQ W1 nq osq).mono HW.out.2.1.size);generalize Oj (W1.drewN nq) osq=w3 at HB⊢;go_wp2
    go_roundw
    case rel=>exact⟨k+1,by simp,by rw[HN.out,HF.out],hlt,HB.out⟩
    case measure=>simp[On];omega
   ·have HR:M6 _:=HR0.out
    rw[hr]at HR;cases ho:bL l m k with
    |none =>
     have HN:M6 (bL l m (k+1)=MI k):=wC hr ho;rw[show bI MH = -1 from rfl];clear HR0 k1 k2 k3 ho
     go_wp2_with fail
     rw[<-HW.out.1];refine NQ bB (by kernel_rfl) ?_
     repeat (first|go_big_quiet_skip|quiet_step (first|(go_at_call 34;exact NZ (HR.out _ _))))
     refine Oy ?_;intro _ hw';obtain⟨⟨nq,osq⟩,hw''⟩:=hw';subst hw'';have HB:M6 (MQ w.heap.size w (Oj (W1.drewN nq) osq)):=HW.out.2.1.trans ((lQ W1 nq osq).mono HW.out.2.1.size);generalize Oj (W1.drewN nq) osq=w3 at HB⊢;go_wp2
     go_roundw
     case rel=>exact⟨k+1,by simp,by rw[HN.out];rfl,hlt,HB.out⟩
     case measure=>simp[On];omega
    |some j =>
     have hjk:=oP ho;have hjl:j<l.length:=by omega
     have hN:=wH hr ho;have hgj:l.getD j dc=l[j]:=by simp[hjl]
     have hokj:=HE.out.2.2.2 l[j] (Nk hjl);obtain⟨b2,o2,e2,hb2,d1,d2,d3⟩:=HE.out.2.2.1 j hjl;injection e2 with e2;injection e2 with e2 e3;subst e2 e3;have hbl1:b1<W1.heap.size:=M8 hb2 HW.out.2.1.size;obtain⟨⟨y1,y2,y3⟩,hy⟩:∃y,y=l[j]:=⟨_,rfl⟩;rw[<-hy]at d1 d2 d3 hgj hokj;have j1:∀n os,(Oj (W1.drewN n) os).cell? ⟨b1,o1+j*3,MH⟩=MI (MF ME y1):=Ob hbl1 ((HW.out.2.1.cell (p:=⟨b1,o1+j*3,MH⟩) hb2).trans d1);have j2:∀n os,(Oj (W1.drewN n) os).cell? ⟨b1,o1+j*3+1,MH⟩=MI (MF ME y2):=Ob hbl1 ((HW.out.2.1.cell (p:=⟨b1,o1+j*3+1,MH⟩) hb2).trans d2);have j3:∀n os,(Oj (W1.drewN n) os).cell? ⟨b1,o1+j*3+2,MH⟩=MI (MF ME y3):=Ob hbl1 ((HW.out.2.1.cell (p:=⟨b1,o1+j*3+2,MH⟩) hb2).trans d3);have HL0:M6 (∀W,Ni MK 59 #[Ny #[MF ME x1,MF ME x2,MF ME x3],Ny #[MF ME y1,MF ME y2,MF ME y3]] W fun r w'=>r=MN (M3 (ig l k j))/\∃q os,w'=Oj (W.drewN q) os):=fun W=>by
      unfold ig;rw[HW.out.2.2.2,hgj];exact FD x1 x2 x3 y1 y2 y3 W HW.out.2.2.1 hokj
     have HN:M6 _:=hN;rw[show bI (MI j)=(j:Int)from rfl];have hj0:(0:Int)<=(j:Int):=by omega
     have hj1:(j:Int)<(l.length:Int):=by omega
     clear hgj hokj hy d1 d2 d3 hb2 hb1w hN ho HR0;cases hs:ig l k j
     ·rw[hs]at HN HL0
      have HN':M6 (bL l m (k+1)=MI j):=HN.out;clear HN
      go_wp2_with fail
      rw[<-HW.out.1];refine NQ bB (by kernel_rfl) ?_
      repeat (first|go_big_quiet_skip|quiet_step (first|(go_at_call 34;exact NZ (HR.out _ _))|(go_at_call 59;exact NZ (HL0.out _))))
      refine Oy ?_;intro _ hw';obtain⟨⟨nq,osq⟩,hw''⟩:=hw';subst hw'';have HB:M6 (MQ w.heap.size w (Oj (W1.drewN nq) osq)):=HW.out.2.1.trans ((lQ W1 nq osq).mono HW.out.2.1.size);generalize Oj (W1.drewN nq) osq=w3 at HB⊢;clear k1 k2 k3 j1 j2 j3;go_wp2
      go_roundw
      case rel=>exact⟨k+1,by simp,by rw[HN'.out];rfl,hlt,HB.out⟩
      case measure=>simp[On];omega
     ·rw[hs]at HN HL0
      have HN':M6 (bL l m (k+1)=MI k):=HN.out;clear HN
      go_wp2_with fail
      rw[<-HW.out.1];refine NQ bB (by kernel_rfl) ?_
      repeat (first|go_big_quiet_skip|quiet_step (first|(go_at_call 34;exact NZ (HR.out _ _))|(go_at_call 59;exact NZ (HL0.out _))))
      refine Oy ?_;intro _ hw';obtain⟨⟨nq,osq⟩,hw''⟩:=hw';subst hw'';have HB:M6 (MQ w.heap.size w (Oj (W1.drewN nq) osq)):=HW.out.2.1.trans ((lQ W1 nq osq).mono HW.out.2.1.size);generalize Oj (W1.drewN nq) osq=w3 at HB⊢;clear k1 k2 k3 j1 j2 j3;go_wp2
      go_roundw
      case rel=>exact⟨k+1,by simp,by rw[HN'.out];rfl,hlt,HB.out⟩
      case measure=>simp[On];omega
  ·obtain rfl:k=l.length:=by omega
   rw[<-HA.out];have HB:M6 _:=hb;clear hb;go_wp2;go_ret;exact⟨rfl,HB.out⟩
end
theorem rW.Ga{o:Int×List Int}{r:Ending}(h:rW o w r w'):∃p c,r=MN (Nv #[MG p o.2.length c,MF ME o.1])/\fZ w' (MG p o.2.length c) o.2/\MQ w.heap.size w w':=by
 obtain⟨y,rfl,hi,hb⟩:=h;obtain⟨p,c,rfl,_⟩:=hi.F6;exact⟨p,c,rfl,hi,hb⟩
theorem yi(hw:lT l m)(h:bL l m l.length=MI i):i<l.length/\cm l m i=true:=by
 have:=qc hw l.length;rw[h]at this;exact⟨this.1.2.1,this.1.2.2⟩
theorem EM(y v:M7)(ws:List Int)(l:List Ld)(a b c t:Int)(w:MO)(hy:fZ w y ws)(hv:eZ w v l) :
  Ni MK 17 #[y,v,MF ME a,MF ME b,MF ME c,MF ME t] w fun r w'=>r=MN (Nv #[MF ME (gY ws l a b c t).1,MF ME (gY ws l a b c t).2])/\MQ w.heap.size w w':=by
 obtain⟨py,cy,rfl,_,hmy,_⟩:=hy.F6;obtain⟨pv,cv,rfl,_,hmv,_⟩:=hv.F6;unfold NE at hmy hmv;obtain⟨e1,e2,hans⟩:∃e1 e2,gY ws l a b c t=(e1,e2):=⟨_,_,rfl⟩;rw[hans];obtain⟨W0,hW0⟩:∃W0,W0=w.alloc (MP #[MG pv l.length cv] 74):=⟨_,rfl⟩;have hb0:MQ w.heap.size w W0:=by rw[hW0];exact gr _
 have hc0:W0.cell? ⟨w.heap.size,0,MH⟩=MI (MG pv l.length cv):=by rw[hW0];exact(MW _ w.heap.size 0 _ 74 (0,0) (M1 w _)).trans rfl
 have hlt0:w.heap.size<W0.heap.size:=MX W0 _ hc0;have H0:M6 (_/\_/\_/\_/\_):=⟨hW0,hb0,hc0,hv.below hb0,hy.below hb0⟩;have HA:M6 (_/\True):=⟨hans,trivial⟩;clear hW0 hb0 hc0 hv hy hans;go_enter Tryz.func17,Tryz.ntmps17
 go_wp2_with fail
 rw[<-H0.out.1];refine(BF _ l a b c _ H0.out.2.2.2.1).mono ?_;rintro r w1 hr1;obtain⟨p1,c1,rfl,hi1,hb1⟩:=hr1.Ga;clear hr1;cases hok:fR l
 ·have ho:fC l a b c=(6,[]):=by unfold fC;rw[hok,Nf PE]
  have HE:M6 (e1=0/\e2=6):=by
   have h:=HA.out.1;unfold gY at h;rw[hok,Nf PE]at h;injection h with h1 h2;exact⟨h1.symm,h2.symm⟩
  rw[ho];have HB:M6 _:=H0.out.2.1.trans (hb1.mono H0.out.2.1.size);clear hi1 hb1 ho hok;go_wp2
  go_ret2
  exact⟨by rw[HE.out.1,HE.out.2];rfl,HB.out.alloc HB.out.size _⟩
 by_cases hf:g8 a b c
 case neg =>
  have ho:fC l a b c=(2,[]):=by unfold fC;rw[Nh hok,Nf hf]
  have HE:M6 (e1=0/\e2=2):=by
   have h:=HA.out.1;unfold gY at h;rw[Nh hok,Nf hf]at h;injection h with h1 h2;exact⟨h1.symm,h2.symm⟩
  rw[ho];have HB:M6 _:=H0.out.2.1.trans (hb1.mono H0.out.2.1.size);clear hi1 hb1 ho hok hf;go_wp2
  go_ret2
  exact⟨by rw[HE.out.1,HE.out.2];rfl,HB.out.alloc HB.out.size _⟩
 have ho:fC l a b c=(0,eI a b c l):=by unfold fC;rw[Nh hok,Nh hf]
 rw[ho]at hi1⊢;have hL:=lN.1 hok;have hrw:=ru (a:=a) (b:=b) (c:=c) hL;obtain⟨m,hm⟩:∃m,m=eI a b c l:=⟨_,rfl⟩;have hml:m.length=l.length:=by rw[hm];simp[eI]
 rw[<-hm]at hi1 hrw⊢;have hp:gY ws l a b c t=if 0<=t/\t<=12/\ws.length<=12 then if l.any dj then gk l (iu l m ws t.toNat)else(0,11)else(0,2):=by
  unfold gY;rw[Nh hok,Nh hf,<-hm]
 rw[HA.out.1]at hp;have hb2:=H0.out.2.1.trans (hb1.mono H0.out.2.1.size);have hc1:=(hb1.cell (p:=⟨w.heap.size,0,MH⟩) hlt0).trans H0.out.2.2.1;obtain⟨W2,hW2⟩:∃W2,W2=w1.alloc (MP #[MG p1 m.length c1] 71):=⟨_,rfl⟩;have hbW2:MQ w1.heap.size w1 W2:=by rw[hW2];exact gr _
 have hc2:W2.cell? ⟨w1.heap.size,0,MH⟩=MI (MG p1 m.length c1):=by rw[hW2];exact(MW _ w1.heap.size 0 _ 71 (0,0) (M1 w1 _)).trans rfl
 have hlt1:w.heap.size<w1.heap.size:=M8 hlt0 hb1.size;have hE2:jT W2 w.heap.size w1.heap.size (MG pv l.length cv) (MG p1 m.length c1) l m:=⟨(hbW2.cell (p:=⟨w.heap.size,0,MH⟩) hlt1).trans hc1,hc2,(H0.out.2.2.2.1.below hb1).below hbW2,hi1.below hbW2⟩;have hY2:=(H0.out.2.2.2.2.below hb1).below hbW2;have hB2:=hb2.trans (hbW2.mono hb2.size);have H2:M6 (_/\_/\_/\_/\_/\_/\_/\_):=⟨hW2,hE2,hY2,hB2,hml,hrw,hL,hp⟩;clear hW2 hE2 hY2 hB2 hc2 hbW2 hb2 hb1 hp hm hi1 hL ho hf hok HA hrw hml H0;rcases(by omega:t<0\/(0<=t/\12<t)\/(0<=t/\t<=12))with h1|⟨h1,h2⟩|⟨h1,h2⟩
 ·have HE:M6 (e1=0/\e2=2):=by
   have h:=H2.out.2.2.2.2.2.2.2;rw[Nf (by omega)]at h;injection h with h1 h2;exact⟨h1,h2⟩
  go_wp2;rw[<-H2.out.1]
  go_ret2
  exact⟨by rw[HE.out.1,HE.out.2];rfl,H2.out.2.2.2.1⟩
 ·have HE:M6 (e1=0/\e2=2):=by
   have h:=H2.out.2.2.2.2.2.2.2;rw[Nf (by omega)]at h;injection h with h1 h2;exact⟨h1,h2⟩
  go_wp2;rw[<-H2.out.1]
  go_ret2
  exact⟨by rw[HE.out.1,HE.out.2];rfl,H2.out.2.2.2.1⟩
 obtain⟨tn,rfl⟩:=NL h1;rcases Oq 12 ws.length with h3|h3
 ·have HE:M6 (e1=0/\e2=2):=by
   have h:=H2.out.2.2.2.2.2.2.2;rw[Nf (by omega)]at h;injection h with h1 h2;exact⟨h1,h2⟩
  have h3I:(12:Int)<(ws.length:Int):=by omega
  clear h3;go_wp2;rw[<-H2.out.1]
  go_ret2
  exact⟨by rw[HE.out.1,HE.out.2];rfl,H2.out.2.2.2.1⟩
 have h3I:Nn ((12:Int)<(ws.length:Int))=false:=M0 (by omega);have h2I:Nn ((12:Int)<(tn:Int))=false:=M0 (by omega);have h1I:Nn ((tn:Int)<0)=false:=M0 (by omega);have HP:M6 ((e1,e2)=if l.any dj then gk l (iu l m ws tn)else(0,11)):=by
  have h:=H2.out.2.2.2.2.2.2.2;rw[Nh ⟨h1,h2,h3⟩]at h;rw[NR]at h;exact h
 clear h3
 go_wp2_with fail
 rw[<-H2.out.1];refine(xr _ l _ H2.out.2.1.2.2.1).mono ?_;cases hany:l.any dj
 ·rintro r w3 ⟨rfl,hb3⟩
  have HE:M6 (e1=0/\e2=11):=by
   have h:=HP.out;rw[hany,Nf PE]at h;injection h with h1 h2;exact⟨h1,h2⟩
  have HB:M6 _:=H2.out.2.2.2.1.trans (hb3.mono H2.out.2.2.2.1.size);clear hb3 hany;go_wp2
  go_ret2
  exact⟨by rw[HE.out.1,HE.out.2];rfl,HB.out⟩
 rintro r w3 ⟨rfl,hb3⟩;have H3:M6 (_/\_/\_/\(e1,e2)=gk l (iu l m ws tn)):=⟨H2.out.2.1.below hb3,H2.out.2.2.1.below hb3,H2.out.2.2.2.1.trans (hb3.mono H2.out.2.2.2.1.size),by have h:=HP.out;rw[Nh hany]at h;exact h⟩;clear hb3 hany HP hc1;have hx1:=H3.out.1.1
 go_wp2_with fail
 refine(yt _ _ _ ws l m tn w.heap.size w1.heap.size _ H3.out.2.1 H3.out.1 H2.out.2.2.2.2.1 (by omega)).mono ?_;cases hal:df l m ws tn with
 |some i =>
  rintro r w4 ⟨rfl,hb4⟩;obtain⟨hi,_,_⟩:=mo hal;rw[show bI (MI i)=(i:Int)from rfl];have hx4:=(hb4.cell (p:=⟨w.heap.size,0,MH⟩) (MX w3 _ hx1)).trans hx1;have hv4:=H3.out.1.2.2.1.below hb4;obtain⟨_,_,q0,_,_,pa⟩:=hv4.F6;obtain⟨b1,o1,rfl,_,d1,_,_⟩:=(by injection q0 with q0;subst q0;exact pa i hi:∃b off,pv=some ⟨b,off,none⟩/\b<w4.heap.size/\w4.cell? ⟨b,off+i*3,none⟩=some (.int .i64 l[i].1)/\w4.cell? ⟨b,off+i*3+1,none⟩=some (.int .i64 l[i].2.1)/\w4.cell? ⟨b,off+i*3+2,none⟩=some (.int .i64 l[i].2.2));have HE:M6 (e1=l[i].1/\e2=0):=by
   have h:=H3.out.2.2.2;unfold iu at h;rw[hal]at h;simp only[gk]at h;injection h with h1 h2;exact⟨by rw[h1];simp[hi],h2⟩
  have HB:M6 (MQ w.heap.size w w4):=H3.out.2.2.1.trans (hb4.mono H3.out.2.2.1.size);have hiI:(i:Int)<(l.length:Int):=by omega
  have hi0:(0:Int)<=(i:Int):=by omega
  obtain⟨x,hx⟩:∃x,x=l[i].1:=⟨_,rfl⟩;rw[<-hx]at d1 HE;clear hb4 hx1 hv4 q0 pa hal hx;go_wp2
  go_ret2
  exact⟨by rw[HE.out.1,HE.out.2];rfl,HB.out⟩
 |none =>
  rintro r w4 ⟨rfl,hb4⟩;rw[show bI MH = -1 from rfl];have H4:M6 (_/\_/\(e1,e2)=gk l (bL l m l.length)):=⟨H3.out.1.below hb4,H3.out.2.2.1.trans (hb4.mono H3.out.2.2.1.size),by have h:=H3.out.2.2.2;unfold iu at h;rw[hal]at h;exact h⟩;clear hb4 hal hx1;have hx1:=H4.out.1.1
  go_wp2_with fail
  refine(Ee _ _ l m w.heap.size w1.heap.size _ H4.out.1 H2.out.2.2.2.2.1 (ju H2.out.2.2.2.2.2.2.1.2)).mono ?_;cases hle:bL l m l.length with
  |none =>
   rintro r w5 ⟨rfl,hb5⟩;rw[show bI MH = -1 from rfl];have HE:M6 (e1=0/\e2=9):=by
    have h:=H4.out.2.2;rw[hle]at h;simp only[gk]at h;injection h with h1 h2;exact⟨h1,h2⟩
   have HB:M6 (MQ w.heap.size w w5):=H4.out.2.1.trans (hb5.mono H4.out.2.1.size);clear hb5 hx1 hle;go_wp2
   go_ret2
   exact⟨by rw[HE.out.1,HE.out.2];rfl,HB.out⟩
  |some i =>
   rintro r w5 ⟨rfl,hb5⟩;obtain⟨hi,_⟩:=yi H2.out.2.2.2.2.2.1 hle;rw[show bI (MI i)=(i:Int)from rfl];have hx5:=(hb5.cell (p:=⟨w.heap.size,0,MH⟩) (MX w4 _ hx1)).trans hx1;have hv5:=H4.out.1.2.2.1.below hb5;obtain⟨_,_,q0,_,_,pa⟩:=hv5.F6;obtain⟨b1,o1,rfl,_,d1,_,_⟩:=(by injection q0 with q0;subst q0;exact pa i hi:∃b off,pv=some ⟨b,off,none⟩/\b<w5.heap.size/\w5.cell? ⟨b,off+i*3,none⟩=some (.int .i64 l[i].1)/\w5.cell? ⟨b,off+i*3+1,none⟩=some (.int .i64 l[i].2.1)/\w5.cell? ⟨b,off+i*3+2,none⟩=some (.int .i64 l[i].2.2));have HE:M6 (e1=l[i].1/\e2=0):=by
    have h:=H4.out.2.2;rw[hle]at h;simp only[gk]at h;injection h with h1 h2;exact⟨by rw[h1];simp[hi],h2⟩
   have HB:M6 (MQ w.heap.size w w5):=H4.out.2.1.trans (hb5.mono H4.out.2.1.size);have hiI:(i:Int)<(l.length:Int):=by omega
   have hi0:(0:Int)<=(i:Int):=by omega
   obtain⟨x,hx⟩:∃x,x=l[i].1:=⟨_,rfl⟩;rw[<-hx]at d1 HE;clear hb5 hx1 hv5 q0 pa hle hx;go_wp2
   go_ret2
   exact⟨by rw[HE.out.1,HE.out.2];rfl,HB.out⟩
end Go.Proofs.YtlnbhjdhcmgljaaGreatDoor.Q
