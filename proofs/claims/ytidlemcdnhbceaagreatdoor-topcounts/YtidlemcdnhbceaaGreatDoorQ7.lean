/-
  Contracts of the layers and of core, part 7. Conditions: as each theorem says.
-/
import Derived.Deep.Upon
import Derived.BigQuiet
import Derived.Deep.CutRange
import Derived.Shelf.SlSortCmp.QuietGrown
import Derived.Test.YtidlemcdnhbceaaGreatDoorQ0
open Bool renaming and_eq_true->Po,false->Nb,false_ne_true->PE,true->Nw
open Decidable renaming decide->Nn
open Go renaming Calls->Ni,TypeId->NU,Value->M7,World->MO,cell_grown->Ob,cell_of_row->MW,heap_alloc_new->M1,info_parts->OF,maxLen->NE,wpQuiet_nil->Oy,wp_region_quiet_grown->NQ
open Go.Calls renaming grown_of->NZ
open Go.Ending renaming returned->MN
open Go.Exit renaming noGoto_ret->Sb
open Go.Fn renaming func->PD
open Go.IntKind renaming i64->ME
open Go.Obj renaming cells->MP
open Go.Proofs.Tryz renaming func121->T0,func162->VW,func163->S2,func164->ayS,func166->VQ,func206->RY,func207->UO,func209->S0,func210->Uj,func233->azT,func234->TA,ntmps121->TU,ntmps162->VM,ntmps163->SB,ntmps164->ayI,ntmps166->VI,ntmps206->RL,ntmps207->UC,ntmps209->SA,ntmps210->T9,ntmps233->azL,ntmps234->Tz,prog->MK,underlying34->O5
open Go.RowKit renaming Below->MQ,Hid->M6,intOf->On
open Go.RowKit.Below renaming refl->MY
open Go.Sort renaming alloc_eq_grow->PQ,grow->Oj
open Go.Value renaming agg->Ny,bool->M3,func->PB,int->MF,pointer->Na,slice->MG,tuple->Nv
open Go.World renaming block_lt_of_cell?->MX,cell?->Nl
open Int renaming eq_ofNat_of_zero_le->NL,le_refl->Qh,mul_le_mul->Px,mul_pos->Tn,mul_right_comm->Rx,toNat_natCast->NR
open List renaming append_assoc->OC,drop_eq_getElem_cons->OK,ext_getElem->PX,getElem?_eq_getElem->MR,getElem?_eq_none->Nz,getElem_mem->Nk,getElem_set->Pc,length_take->NH,mem_cons_of_mem->NB,mem_cons_self->NM,replicate->Nj,set_append_right->Pw,set_cons_zero->ML,take_length->NT,take_of_length_le->N1,take_succ_eq_append_getElem->M9
open Nat renaming le_refl->MV,lt_of_lt_of_le->M8,lt_or_ge->Oq,mul_one->P6,zero_add->Oa,zero_le->Nx
open Option renaming none->MH,some->MI
open Or renaming inl->Nt,inr->NF
namespace Go.Proofs.YtidlemcdnhbceaaGreatDoor.Q
set_option linter.unusedVariables false
set_option linter.unusedSimpArgs false
set_option maxHeartbeats 16000000
set_option maxRecDepth 100000
open Go.RowKit
attribute [local go_sem ↓] Go.wp_at_zero Go.wp_at_succ
variable {a b c:Int}{m ws:List Int}{l:List Ld}{v:M7}{w w':MO}{i k t:Nat}
abbrev ab3(num den flows:Int):Prop:=(1<=den/\den<=num/\num<=20)/\0<=flows/\flows<=40
abbrev ago(num den flows wt total:Int):Prop:=ab3 num den flows/\1<=wt/\wt<=total/\total<=96
theorem aiv(n:Int)(w:MO):Ni MK 233 #[MF ME n] w fun r w'=>r=MN (M3 (Nn (0<=n/\n<=40)))/\w'=w:=by
 obtain⟨d,e⟩:∃d,d=Nn (0<=n/\n<=40):=⟨_,rfl⟩;rw[<-e];have H:M6 _:=e;clear e;cases h1:Nn (0<=n)
 ·have E:M6 (d=Nb):=by rw[H.out];exact M0 fun g=>Nc h1 g.1
  go_enter azT,azL;go_wp2;go_ret;exact⟨by rw[E.out];rfl,rfl⟩
 cases h2:Nn (n<=40)
 ·have E:M6 (d=Nb):=by rw[H.out];exact M0 fun g=>Nc h2 g.2
  go_enter azT,azL;go_wp2;go_ret;exact⟨by rw[E.out];rfl,rfl⟩
 ·have E:M6 (d=Nw):=by rw[H.out];exact Nq ⟨M2 h1,M2 h2⟩
  go_enter azT,azL;go_wp2;go_ret;exact⟨by rw[E.out];rfl,rfl⟩
theorem aiy(a b c:Int)(w:MO):Ni MK 207 #[MF ME a,MF ME b,MF ME c] w fun r w'=>r=MN (M3 (Nn (ab3 a b c)))/\w'=w:=by
 obtain⟨d,f⟩:∃d,d=Nn (ab3 a b c):=⟨_,rfl⟩;rw[<-f];have H:M6 _:=f;clear f;cases h1:Nn (1<=b)
 ·have E:M6 (d=Nb):=by rw[H.out];exact M0 fun g=>Nc h1 g.1.1
  clear H;go_enter UO,UC;go_wp2;go_ret;exact⟨by rw[E.out];rfl,rfl⟩
 cases h2:Nn (b<=a)
 ·have E:M6 (d=Nb):=by rw[H.out];exact M0 fun g=>Nc h2 g.1.2.1
  clear H;go_enter UO,UC;go_wp2;go_ret;exact⟨by rw[E.out];rfl,rfl⟩
 cases h3:Nn (a<=20)
 ·have E:M6 (d=Nb):=by rw[H.out];exact M0 fun g=>Nc h3 g.1.2.2
  clear H;go_enter UO,UC;go_wp2;go_ret;exact⟨by rw[E.out];rfl,rfl⟩
 have E:M6 (d=Nn (0<=c/\c<=40)):=by
  rw[H.out];exact decide_eq_decide.2 ⟨fun g=>g.2,fun g=>⟨⟨M2 h1,M2 h2,M2 h3⟩,g⟩⟩
 clear H;go_enter UO,UC
 go_wp2_with fail
 refine(aiv _ _).mono ?_;rintro e w' ⟨rfl,rfl⟩;go_wp2;go_ret;exact⟨by rw[E.out,Bool.decide_and];rfl,rfl⟩
theorem as2(a b:Int)(w:MO)(h1:0<=a)(h2:a<=1000000)(h3:1<=b)(h4:b<=1000000):Ni MK 234 #[MF ME a,MF ME b] w fun r w'=>r=MN (MF ME ((a+b-1) / b))/\w'=w:=by
 go_enter TA,Tz;go_wp2;go_ret;exact⟨rfl,rfl⟩
def agq(num den flows wt total:Int):Int:=(num*(flows+1)*wt+den*total-1) / (den*total)
theorem ate{d e:Int}(h:ago a b c d e):(0<a*(c+1)/\a*(c+1)<=820)/\(0<a*(c+1)*d/\a*(c+1)*d<=78720)/\0<b*e/\b*e<=1920:=by
 obtain⟨⟨⟨B,x,g⟩,y,z⟩,A,n,s⟩:=h;have f:0<a*(c+1):=Tn (by omega) (by omega);have o:a*(c+1)<=20*41:=Px (by omega) (by omega) (by omega) (by omega);have p:0<a*(c+1)*d:=Tn f (by omega);have u:a*(c+1)*d<=820*96:=Px (by omega) (by omega) (by omega) (by omega);have C:0<b*e:=Tn (by omega) (by omega);have r:b*e<=20*96:=Px (by omega) (by omega) (by omega) (by omega);omega
theorem asS(a b c d e:Int)(w:MO)(h:ago a b c d e):Ni MK 209 #[MF ME a,MF ME b,MF ME c,MF ME d,MF ME e] w fun r w'=>r=MN (Nv #[MF ME (agq a b c d e),MF ME 0])/\w'=w:=by
 obtain⟨⟨G,n⟩,⟨g,p⟩,s,y⟩:=ate h;have f:M6 _:=Nq h.1;obtain⟨⟨⟨H,z,o⟩,A,B⟩,D,u,x⟩:=h;have C:Nn (d<1)=false:=M0 (by omega);have F:Nn (e<d)=false:=M0 (by omega);have E:Nn (96<e)=false:=M0 (by omega);go_enter S0,SA
 go_wp2_with fail
 refine(aiy _ _ _ _).mono ?_;rintro r w' ⟨rfl,rfl⟩;rw[f.out]
 go_wp2_with fail
 refine(as2 _ _ _ (by omega) (by omega) (by omega) (by omega)).mono ?_;rintro r w' ⟨rfl,rfl⟩;go_wp2
 go_ret2
 exact⟨rfl,rfl⟩
def abG:List Ld->List M7
 | []=>[]
 |t::l=>MF ME t.1::MF ME t.2.1::MF ME t.2.2::abG l
theorem agt:∀l:List Ld,(abG l).length=l.length*3
 | []=>rfl
 |t::l=>by simp[abG,agt l];omega
theorem ags:∀(l:List Ld) (i:Nat) (h:i<l.length),(abG l)[i*3]?=MI (MF ME l[i].1)/\(abG l)[i*3+1]?=MI (MF ME l[i].2.1)/\(abG l)[i*3+2]?=MI (MF ME l[i].2.2)
 |t::l,0,_=>by simp[abG]
 |t::l,i+1,h=>by
  have d:=ags l i (by simpa using h);rw[show(i+1)*3=i*3+1+1+1 by omega]
  simpa [abG]using d
def aaR(w:MO)(v:M7)(l:List Ld):Prop:=XB w v l.length (abG l)
theorem aaR.below(h:aaR w v l)(hb:MQ w.heap.size w w'):aaR w' v l:=XB.below h hb
theorem aaR.F6(h:aaR w v l):
  ∃a cap,v=MG a l.length cap/\l.length<=cap/\cap<=NE/\∀i (hi:i<l.length),∃b off,a=MI ⟨b,off,MH⟩/\b<w.heap.size/\w.cell? ⟨b,off+i*3,MH⟩=MI (MF ME l[i].1)/\w.cell? ⟨b,off+i*3+1,MH⟩=MI (MF ME l[i].2.1)/\w.cell? ⟨b,off+i*3+2,MH⟩=MI (MF ME l[i].2.2):=by
 obtain⟨a,cap,g,f,e,n|⟨b,off,n,o,d⟩⟩:=h
 ·exact⟨a,cap,g,f,e,fun i hi=>absurd hi (by omega)⟩
 ·refine⟨a,cap,g,f,e,fun i hi=>⟨b,off,n,o,?_,?_,?_⟩⟩
  ·rw[d (i*3) (by rw[agt];omega)];exact(ags l i hi).1
  ·rw[Nat.add_assoc,d (i*3+1) (by rw[agt];omega)];exact(ags l i hi).2.1
  ·rw[Nat.add_assoc,d (i*3+2) (by rw[agt];omega)];exact(ags l i hi).2.2
def abE(w:MO)(v:M7)(a:List Int):Prop:=XB w v a.length (WR a)
theorem abE.below{l:List Int}(h:abE w v l)(hb:MQ w.heap.size w w'):abE w' v l:=XB.below h hb
theorem amp(a:List Int)(i:Nat)(h:i<a.length):(WR a)[i]?=MI (MF ME a[i]):=by
 unfold WR;rw[List.getElem?_map,MR h];rfl
theorem abE.F6{l:List Int}(h:abE w v l):
  ∃a cap,v=MG a l.length cap/\l.length<=cap/\cap<=NE/\∀i (hi:i<l.length),∃b off,a=MI ⟨b,off,MH⟩/\b<w.heap.size/\w.cell? ⟨b,off+i,MH⟩=MI (MF ME l[i]):=by
 obtain⟨a,cap,f,e,d,g|⟨b,off,g,o,n⟩⟩:=h
 ·exact⟨a,cap,f,e,d,fun i hi=>absurd hi (by omega)⟩
 ·refine⟨a,cap,f,e,d,fun i hi=>⟨b,off,g,o,?_⟩⟩
  rw[n i (by rw[Zv];exact hi)];exact amp l i hi
theorem amq(w:MO):abE w (MG MH 0 0) []:=Z3 w
theorem Xj.Jc{n:Nat}{g:Nat}{a:List Int}{T:NU}(h:Xj T n w g a)(hn:n<=1000):abE w (MG (MI ⟨g,0,MH⟩) n n) a:=by
 refine⟨_,n,by rw[h.2],by rw[h.2];exact MV _,by unfold NE;omega,NF ⟨g,0,rfl,h.lt,fun i hi=>?_⟩⟩;rw[Oa,amp a i (by rwa[Zv]at hi)];exact h.F7 i (by rwa[Zv]at hi)
abbrev ab4(x:Ld):Prop:=(0<=x.2.1/\x.2.1<=8)/\0<=x.2.2/\x.2.2<=40
def ZW:Int->List Ld->Bool
 |_,[]=>Nw
 |n,x::l=>Nn (n<=x.1/\x.1<12/\ab4 x) && ZW (x.1+1) l
def adC(n:Int)(l:List Ld):Prop:=ZW n l=Nw
theorem amu{n:Int}{x:Ld}:adC n (x::l)↔(n<=x.1/\x.1<12/\ab4 x)/\adC (x.1+1) l:=by
 unfold adC;rw[show ZW n (x::l)=(Nn (n<=x.1/\x.1<12/\ab4 x) && ZW (x.1+1) l)from rfl,Po,decide_eq_true_eq]
def acv(l:List Ld):Prop:=l.length<=12/\adC 0 l
def abH(l:List Ld):Bool:=Nn (l.length<=12) && ZW 0 l
theorem afa:abH l=Nw↔acv l:=by
 unfold abH acv adC;rw[Po,decide_eq_true_eq]
theorem ata(h:¬acv l):abH l=false:=by
 cases hb:abH l
 ·rfl
 ·exact absurd (afa.1 hb) h
theorem afb{p:Prop} [Decidable p]{b:Bool}(h:¬p):(Nn p && b)=false:=by rw[M0 h];rfl
theorem amv{p:Prop} [Decidable p]{b:Bool}(h:p):(Nn p && b)=b:=by rw[Nq h];rfl
theorem adD:∀ {n:Int} {l:List Ld},adC n l->∀x∈l,ab4 x
 |_,[],_,x,d=>by cases d
 |_,y::l,h,x,d=>by
  have h:=amu.1 h;rcases List.mem_cons.1 d with rfl|d
  ·exact h.1.2.2
  ·exact adD h.2 x d
def Zf(l:List Ld):Int:=(l.map (·.2.1)).sum
theorem atg:Zf []=0:=rfl
theorem ath(l:List Ld)(x:Ld):Zf (l++[x])=Zf l+x.2.1:=by simp[Zf]
theorem agu:∀(l:List Ld),(∀x∈l,ab4 x)->0<=Zf l/\Zf l<=8*l.length
 | [],_=>by simp[Zf]
 |x::l,h=>by
  have d:=agu l fun y hy=>h y (NB _ hy)
  have e:=(h x (NM ..)).1;simp[Zf]at d⊢;omega
theorem amz:∀(l:List Ld),(∀x∈l,ab4 x)->∀x∈l,x.2.1<=Zf l
 | [],_,x,d=>by cases d
 |y::l,h,x,d=>by
  have g:=agu l fun y hy=>h y (NB _ hy)
  have f:=(h y (NM ..)).1;have e:Zf (y::l)=y.2.1+Zf l:=by simp[Zf]
  rw[e];rcases List.mem_cons.1 d with rfl|d
  ·omega
  ·have:=amz l (fun y hy=>h y (NB _ hy)) x d
   omega
theorem ab5(w:MO){o:Obj}:MQ w.heap.size w (w.alloc o):=(MY _ _).alloc (MV _) _
theorem aix(v:M7)(l:List Ld)(w:MO)(hv:aaR w v l) :
  Ni MK 206 #[v] w fun r w'=>r=MN (M3 (abH l))/\MQ w.heap.size w w':=by
 obtain⟨a,R,rfl,M,C,s⟩:=hv.F6;unfold NE at C;clear hv
 by_cases hbig:12<l.length
 ·have E:M6 (abH l=Nb):=ata fun h=>by have:=h.1;omega
  have D:(12:Int)<(l.length:Int):=by omega
  clear s;go_enter RY,RL;go_wp2;go_ret;exact⟨by rw[E.out];rfl,MY _ _⟩
 ·have E:M6 (abH l=ZW 0 l):=amv (by omega)
  rw[E.out];have D:¬((12:Int)<(l.length:Int)):=by omega
  go_enter RY,RL;go_wp2
  go_loopw [3,11] (fun nx i wr=>∃(k:Nat) (n:Int),i=MF ME k/\nx=MF ME n/\k<=l.length/\(0<=n/\n<=12)/\ZW 0 l=ZW n (l.drop k)/\MQ w.heap.size w wr) (fun _ i _=>l.length-(On i).toNat)
  case atStart=>exact⟨0,0,rfl,rfl,Nx _,⟨by omega,by omega⟩,rfl,MY _ _⟩
  case round =>
   obtain⟨k,n,rfl,rfl,S,N,f,e⟩:=hrel
   by_cases hlt:k<l.length
   ·obtain⟨y,z,rfl,g,c1,c2,c3⟩:=s k hlt
    replace c1:=(e.cell (p:=⟨y,z+k*3,MH⟩) g).trans c1;replace c2:=(e.cell (p:=⟨y,z+k*3+1,MH⟩) g).trans c2;replace c3:=(e.cell (p:=⟨y,z+k*3+2,MH⟩) g).trans c3;rw[OK hlt]at f;obtain⟨⟨d,o,u⟩,B⟩:∃x,x=l[k]:=⟨_,rfl⟩;rw[<-B]at c1 c2 c3 f;replace f:ZW 0 l=(Nn (n<=d/\d<12/\ab4 (d,o,u)) && ZW (d+1) (l.drop (k+1))):=f;have I:y<wr.heap.size:=M8 g e.size;have A:MQ w.heap.size w (wr.alloc (MP #[MF ME d,MF ME o,MF ME u] 257)):=e.alloc e.size _;have H:M6 (_/\_):=⟨f,A⟩;clear f e A B s g;have L:(k:Int)<(l.length:Int):=by omega
    cases h1:Nn (d<n)
    case true =>
     have F:M6 (ZW 0 l=Nb):=by rw[H.out.1];exact afb fun h=>by have:=M2 h1;omega
     go_wp2;go_ret;exact⟨by rw[F.out];rfl,H.out.2⟩
    cases h2:Nn (12<=d)
    case true =>
     have F:M6 (ZW 0 l=Nb):=by rw[H.out.1];exact afb fun h=>by have:=M2 h2;omega
     go_wp2;go_ret;exact⟨by rw[F.out];rfl,H.out.2⟩
    cases h3:Nn (o<0)
    case true =>
     have F:M6 (ZW 0 l=Nb):=by rw[H.out.1];exact afb fun h=>by have:=M2 h3;have:=h.2.2.1;simp at this;omega
     go_wp2;go_ret;exact⟨by rw[F.out];rfl,H.out.2⟩
    cases h4:Nn (8<o)
    case true =>
     have F:M6 (ZW 0 l=Nb):=by rw[H.out.1];exact afb fun h=>by have:=M2 h4;have:=h.2.2.1;simp at this;omega
     go_wp2;go_ret;exact⟨by rw[F.out];rfl,H.out.2⟩
    cases h5:Nn (0<=u/\u<=40)
    case false =>
     have F:M6 (ZW 0 l=Nb):=by rw[H.out.1];exact afb fun h=>Nc h5 h.2.2.2
     go_wp2_with fail
     refine(aiv _ _).mono ?_;rw[h5];rintro r w' ⟨rfl,rfl⟩;go_wp2;go_ret;exact⟨by rw[F.out];rfl,H.out.2⟩
    have F:M6 (0<=d+1/\d+1<=12/\ZW 0 l=ZW (d+1) (l.drop (k+1))):=by
     have O:=Nc h1;have Q:=Nc h2;have P:=Nc h3;have T:=Nc h4;refine⟨show 0<=d+1 by omega,show d+1<=12 by omega,?_⟩;rw[H.out.1];exact amv ⟨by omega,by omega,⟨by simp;omega,by simp;omega⟩,M2 h5⟩
    have J:-1000<=d:=by have:=Nc h1;omega
    have K:d<=1000:=by have:=Nc h2;omega
    go_wp2_with fail
    refine(aiv _ _).mono ?_;rw[h5];rintro r w' ⟨rfl,rfl⟩;go_wp2
    go_roundw
    case rel=>exact⟨k+1,d+1,by simp,rfl,hlt,⟨F.out.1,F.out.2.1⟩,F.out.2.2,H.out.2⟩
    case measure=>simp[On];omega
   ·obtain rfl:k=l.length:=by omega
    have F:M6 (ZW 0 l=Nw):=by rw[f,List.drop_length];rfl
    have G:M6 _:=e;clear s f e;go_wp2;go_ret;exact⟨by rw[F.out];rfl,G.out⟩
theorem ati(v:M7)(l:List Ld)(w:MO)(hv:aaR w v l)(hok:acv l) :
  Ni MK 208 #[v] w fun r w'=>r=MN (MF ME (Zf l))/\MQ w.heap.size w w':=by
 obtain⟨a,Q,rfl,O,E,y⟩:=hv.F6;unfold NE at E;clear hv;have S:=hok.1;have A:=adD hok.2;go_enter Tryz.func208,Tryz.ntmps208;go_wp2
 go_loopw [3,8] (fun s i wr=>∃(k:Nat),i=MF ME k/\s=MF ME (Zf (l.take k))/\k<=l.length/\MQ w.heap.size w wr) (fun _ i _=>l.length-(On i).toNat)
 case atStart=>exact⟨0,rfl,by simp[atg],Nx _,MY _ _⟩
 case round =>
  obtain⟨k,rfl,rfl,R,d⟩:=hrel
  by_cases hlt:k<l.length
  ·obtain⟨o,z,rfl,f,c1,c2,c3⟩:=y k hlt
   replace c1:=(d.cell (p:=⟨o,z+k*3,MH⟩) f).trans c1;replace c2:=(d.cell (p:=⟨o,z+k*3+1,MH⟩) f).trans c2;replace c3:=(d.cell (p:=⟨o,z+k*3+2,MH⟩) f).trans c3;have e:Zf (l.take (k+1))=Zf (l.take k)+l[k].2.1:=by rw[M9 hlt,ath]
   have g:=A l[k] (Nk hlt);obtain⟨F,D⟩:=agu (l.take k) fun x u=>A x (List.mem_of_mem_take u)
   have G:((l.take k).length:Int)<=12:=by rw[NH];omega
   obtain⟨⟨J,n,I⟩,u⟩:∃x,x=l[k]:=⟨_,rfl⟩;rw[<-u]at c1 c2 c3 e g;have N:0<=n:=g.1.1;have P:n<=8:=g.1.2;replace e:Zf (l.take (k+1))=Zf (l.take k)+n:=e;obtain⟨s,C⟩:∃s,s=Zf (l.take k):=⟨_,rfl⟩;rw[<-C]at e F D⊢;have T:s<=96:=by omega
   have L:o<wr.heap.size:=M8 f d.size;have B:MQ w.heap.size w (wr.alloc (MP #[MF ME J,MF ME n,MF ME I] 257)):=d.alloc d.size _;have H:M6 (_/\_):=⟨e,B⟩;clear e B C d u g y f D G;have M:(k:Int)<(l.length:Int):=by omega
   go_wp2
   go_roundw
   case rel=>exact⟨k+1,by simp,by rw[H.out.1],hlt,H.out.2⟩
   case measure=>simp[On];omega
  ·obtain rfl:k=l.length:=by omega
   have K:M6 _:=d;clear y d;rw[NT];go_wp2;go_ret;exact⟨rfl,K.out⟩
def adA(a b c t:Int)(x:Ld):Int:=if x.2.1=0 then 0 else agq a b c x.2.1 t
def aax(a b c:Int)(l:List Ld):List Int:=l.map (adA a b c (Zf l))
def aa3(l:List Ld)(a b c:Int):Int×List Int:=if abH l then if ab3 a b c then(0,aax a b c l)else(2,[])else(6,[])
def ami(o:Int×List Int)(w:MO)(r:Ending)(w':MO):Prop:=∃y,r=MN (Nv #[y,MF ME o.1])/\abE w' y o.2/\MQ w.heap.size w w'
theorem as4(hok:acv l)(hf:ab3 a b c){x:Ld}(hx:x∈l)(h0:x.2.1≠0):ago a b c x.2.1 (Zf l):=by
 have f:=(adD hok.2 x hx).1;have d:=amz l (adD hok.2) x hx;have e:=agu l (adD hok.2);have g:=hok.1;exact⟨hf,by omega,d,by omega⟩
def ZI(m:List Int)(k:Nat):List Int:=m.take k++Nj (m.length-k) 0
theorem amm(m:List Int)(k:Nat)(h:k<=m.length):(ZI m k).length=m.length:=by
 simp[ZI];omega
theorem aml(m:List Int)(k:Nat)(h:k<m.length):(ZI m k)[k]'(by rw[amm m k (by omega)];exact h)=0:=by
 unfold ZI;rw[List.getElem_append_right (by simp;omega)];simp
theorem amn(m:List Int)(k:Nat)(h:k<m.length):(ZI m k).set k m[k]=ZI m (k+1):=by
 unfold ZI;rw[Pw _ _ (by simp;omega)];have e:k-(m.take k).length=0:=by simp;omega
 have d:m.length-k=(m.length-(k+1))+1:=by omega
 rw[e,d,List.replicate_succ,ML,M9 h,OC];rfl
theorem asX(m:List Int)(k:Nat)(h:k<m.length)(h0:m[k]=0):ZI m k=ZI m (k+1):=by
 rw[<-amn m k h,h0];have:=aml m k h;refine(PX (by simp) fun i h1 h2=>?_);rw[Pc]
 split
 ·subst_vars;exact this
 ·rfl
theorem asV{x:Int}(h:m[k]?=MI x):(ZI m k).set k x=ZI m (k+1):=by
 obtain⟨d,rfl⟩:=List.getElem?_eq_some_iff.1 h;exact amn m k d
theorem asW(h:m[k]?=MI 0):ZI m k=ZI m (k+1):=by
 obtain⟨e,d⟩:=List.getElem?_eq_some_iff.1 h;exact asX m k e d
theorem asT(m:List Int):ZI m m.length=m:=by simp[ZI]
theorem asU(m:List Int):ZI m 0=Nj m.length 0:=by simp[ZI]
theorem atb(n:Nat)(hn:n<=40)(W:MO):(Instr.makeSlice 34 (MF ME (n:Int)) (MF ME (n:Int))).run MK W=.ok (MG (MI ⟨W.heap.size,0,MH⟩) n n) (W.alloc (MP (WR (Nj n 0)).toArray 3)):=by
 obtain⟨o,p,f,d,g⟩:=OF adB;have h:=run_makeSlice (P:=MK) W 34 3 o _ O5 p f ME ME n n (by omega) (by omega) (by rw[d];omega) (by rw[g];omega) (by omega);have e:madeCells (MF ME 0).cells (n*1)=(WR (Nj n 0)).toArray:=by
  rw[P6];apply Array.toList_inj.1;exact(toList_madeCells_one (MF ME 0) n).trans (by simp[WR])
 rw[h,d,NR,e]
theorem asY(v:M7)(l:List Ld)(a b c:Int)(w:MO)(hv:aaR w v l) :
  Ni MK 162 #[v,MF ME a,MF ME b,MF ME c] w (ami (aa3 l a b c) w):=by
 obtain⟨p,ca,rfl,b7,a6,_⟩:=hv.F6;have B:M6 (_/\True):=⟨hv,trivial⟩;clear hv;unfold NE at a6;cases hok:abH l
 ·have n:aa3 l a b c=(6,[]):=by unfold aa3;rw[hok,Nf PE]
  rw[n];clear n;go_enter VW,VM
  go_wp2_with fail
  refine(aix _ l _ B.out.1).mono ?_;rw[hok];rintro r w1 ⟨rfl,d⟩;have o:M6 _:=d;clear d;go_wp2
  go_ret2
  exact⟨_,rfl,amq _,o.out⟩
 cases hf:Nn (ab3 a b c)
 ·have n:aa3 l a b c=(2,[]):=by unfold aa3;rw[Nh hok,Nf (Nc hf)]
  rw[n];clear n;go_enter VW,VM
  go_wp2_with fail
  refine(aix _ l _ B.out.1).mono ?_;rw[hok];rintro r w1 ⟨rfl,d⟩;have o:M6 _:=d;clear d
  go_wp2_with fail
  refine(aiy _ _ _ _).mono ?_;rw[hf];rintro r g ⟨rfl,rfl⟩;go_wp2
  go_ret2
  exact⟨_,rfl,amq _,o.out⟩
 have n:aa3 l a b c=(0,aax a b c l):=by unfold aa3;rw[Nh hok,Nh (M2 hf)]
 rw[n];have b0:=(afa.1 hok).1;have P:M6 (acv l/\ab3 a b c):=⟨afa.1 hok,M2 hf⟩;have z:=atb l.length (by omega);obtain⟨Z,Q⟩:∃Z,Z=(WR (Nj l.length 0)).toArray:=⟨_,rfl⟩;rw[<-Q]at z;have HZ:M6 _:=Q;clear Q n;go_enter VW,VM
 go_wp2_with fail
 refine(aix _ l _ B.out.1).mono ?_;rw[hok];rintro r w1 ⟨rfl,d⟩;have o:M6 _:=d;clear d
 go_wp2_with fail
 refine(aiy _ _ _ _).mono ?_;rw[hf];rintro r g ⟨rfl,rfl⟩;clear hok hf
 go_wp2_with fail
 refine(ati _ l _ (B.out.1.below o.out) P.out.1).mono ?_;rintro r g ⟨rfl,S⟩;have L:M6 _:=o.out.trans (S.mono o.out.size);clear S o;obtain⟨t,D⟩:∃t,t=Zf l:=⟨_,rfl⟩;rw[<-D];obtain⟨m,I⟩:∃m,m=aax a b c l:=⟨_,rfl⟩;have T:m.length=l.length:=by rw[I];simp[aax]
 have R:∀k (h:k<l.length),m[k]?=MI (adA a b c t l[k]):=fun k h=>by
  subst I D;simp[aax,h]
 have f:M6 (_/\_/\_/\_):=⟨D,I,T,R⟩;clear D I T R
 go_wp2;obtain⟨E,C⟩:∃E,E=g.alloc (MP Z 3):=⟨_,rfl⟩;have U:MQ g.heap.size g E:=by rw[C];exact ab5 _
 have a0:Xj 3 l.length E g.heap.size (ZI m 0):=by rw[C,HZ.out,asU,f.out.2.2.1];exact⟨M1 _ _,by simp⟩
 rw[<-C];have N:M6 (_/\_/\_):=⟨a0,L.out.trans (U.mono L.out.size),L.out.size⟩;clear a0 U C z L
 go_loopw [31] (fun i wr=>∃(k:Nat),i=MF ME k/\k<=l.length/\Xj 3 l.length wr g.heap.size (ZI m k)/\MQ w.heap.size w wr) (fun i _=>l.length-(On i).toNat)
 case atStart=>exact⟨0,rfl,Nx _,N.out.1,N.out.2.1⟩
 case round =>
  obtain⟨k,rfl,hk,s,e⟩:=hrel
  by_cases hlt:k<l.length
  ·obtain⟨_,_,K,_,_,pa⟩:=B.out.1.F6
   obtain⟨J,O,rfl,d,c1,c2,c3⟩:=(by injection K with K;subst K;exact pa k hlt:∃b off,p=some ⟨b,off,none⟩/\b<w.heap.size/\w.cell? ⟨b,off+k*3,none⟩=some (.int .i64 l[k].1)/\w.cell? ⟨b,off+k*3+1,none⟩=some (.int .i64 l[k].2.1)/\w.cell? ⟨b,off+k*3+2,none⟩=some (.int .i64 l[k].2.2));clear pa K;replace c1:=(e.cell (p:=⟨J,O+k*3,MH⟩) d).trans c1;replace c2:=(e.cell (p:=⟨J,O+k*3+1,MH⟩) d).trans c2;replace c3:=(e.cell (p:=⟨J,O+k*3+2,MH⟩) d).trans c3;have z:m[k]?=MI (adA a b c t l[k]):=f.out.2.2.2 k hlt;have y:l[k].2.1≠0->ago a b c l[k].2.1 t:=fun h0=>by rw[f.out.1];exact as4 P.out.1 P.out.2 (Nk hlt) h0
   obtain⟨⟨x1,u,x3⟩,hx⟩:∃x,x=l[k]:=⟨_,rfl⟩;rw[<-hx]at c1 c2 c3 z y;have a9:J<wr.heap.size:=M8 d e.size;have hg:=s.lt;have a8:=s.F7 k (by rw[amm m k (by rw[f.out.2.2.1];omega),f.out.2.2.1];exact hlt);rw[aml m k (by rw[f.out.2.2.1];exact hlt)]at a8;have b5:=s.Gu k;have V:MQ w.heap.size w (wr.alloc (MP #[MF ME x1,MF ME u,MF ME x3] 257)):=e.alloc e.size _;have Y:Xj 3 l.length (wr.alloc (MP #[MF ME x1,MF ME u,MF ME x3] 257)) g.heap.size (ZI m k):=s.below (ab5 _);have b6:(k:Int)<(l.length:Int):=by omega
   have H:M6 (_/\_/\_/\_/\_/\_):=⟨Y,V,z,y,s,e⟩;clear Y V z hx s e d y;cases h0:(u == 0)
   ·have A:u≠0:=by simpa using h0
    have y:=H.out.2.2.2.1 A;have G:M6 (m[k]?=MI (agq a b c u t)):=by
     rw[H.out.2.2.1];unfold adA;rw[Nf A];rfl
    clear A;have a5:M6 (_/\True):=⟨y,trivial⟩;clear y
    go_wp2_with fail
    refine(asS _ _ _ _ _ _ a5.out.1).mono ?_;rintro r w' ⟨rfl,rfl⟩;obtain⟨F,M⟩:∃F,F=agq a b c u t:=⟨_,rfl⟩;rw[<-M];have a7:M6 _:=M;clear M;go_wp2
    go_roundw
    case rel =>
     have h1:=H.out.2.2.2.2.1.F4 k F;rw[asV (by rw[a7.out];exact G.out)]at h1;have h2:MQ w.heap.size w (wr.setCell ⟨g.heap.size,k,MH⟩ (MF ME F)):=H.out.2.2.2.2.2.setCell (by exact N.out.2.2) _;exact⟨k+1,by simp,hlt,h1.below (ab5 _),h2.alloc h2.size _⟩
    case measure=>simp[On];omega
   ·have A:u=0:=by simpa using h0
    have G:M6 (m[k]?=MI 0):=by
     rw[H.out.2.2.1];unfold adA;rw[Nh A];rfl
    subst A;clear h0;go_wp2
    go_roundw
    case rel=>exact⟨k+1,by simp,hlt,by rw[<-asW G.out];exact H.out.1,H.out.2.1⟩
    case measure=>simp[On];omega
  ·obtain rfl:k=l.length:=by omega
   have H:M6 (_/\_):=⟨s,e⟩;clear s e;go_wp2
   go_ret2
   refine⟨_,rfl,?_,H.out.2⟩;have:=H.out.1.Jc (by omega);rw[<-f.out.2.2.1,asT]at this;rw[<-f.out.2.1];rw[f.out.2.2.1]at this;exact this
abbrev Zn:Ld:=(0,0,0)
def Yx(q:Ld->Bool):List Ld->Option Nat
 | []=>MH
 |t::l=>if q t then MI 0 else(Yx q l).map (·+1)
theorem ait{q:Ld->Bool}:∀ {l:List Ld},(∀t∈l,q t=Nb)->Yx q l=MH
 | [],_=>rfl
 |t::l,h=>by
  unfold Yx;rw[h t (by simp),ait (l:=l) fun x hx=>h x (by simp[hx])];rfl
theorem aiu{q:Ld->Bool}:∀ {l:List Ld} {k:Nat} (hk:k<l.length),(∀t∈l.take k,q t=Nb)->q l[k]=Nw->Yx q l=MI k
 |t::l,0,_,_,h=>by
  unfold Yx;rw[Nh (by simpa using h)]
 |t::l,k+1,hk,h1,h2=>by
  unfold Yx;rw[Nf (by rw[h1 t (by simp)];simp),aiu (l:=l) (k:=k) (by simpa using hk) (fun x hx=>h1 x (by simp[hx])) (by simpa using h2)];rfl
theorem agr{q:Ld->Bool}:∀ {l:List Ld} {k:Nat},Yx q l=MI k->∃hk:k<l.length,q l[k]=Nw
 | [],k,h=>by simp[Yx]at h
 |t::l,k,h=>by
  unfold Yx at h
  split at h
  case isTrue h1=>injection h with h;subst h;exact⟨by simp,h1⟩
  case isFalse h1 =>
   cases h2:Yx q l with
   |none=>rw[h2]at h;cases h
   |some j =>
    rw[h2]at h;injection h with h;subst h;obtain⟨d,e⟩:=agr h2;exact⟨by simpa using d,by simpa using e⟩
theorem amo{q:Ld->Bool}:∀ {l:List Ld},Yx q l=MH->∀t∈l,q t=Nb
 | [],_,t,d=>by simp at d
 |x::l,h,t,d=>by
  unfold Yx at h
  split at h
  case isTrue h1=>cases h
  case isFalse h1 =>
   cases h2:Yx q l with
   |none =>
    rcases List.mem_cons.1 d with rfl|d
    ·simpa using h1
    ·exact amo h2 t d
   |some j=>rw[h2]at h;cases h
def Zw(x:Ld):Bool:=x.2.1 != 0
def aa4(b:Int)(x:Ld):Bool:=(x.1 == b) && (x.2.1 != 0)
def YJ(l:List Ld)(m:List Int)(i:Nat):Bool:=Nn ((l.getD i Zn).2.2<m.getD i 0)
def Zm(l:List Ld)(m:List Int):List Int->Nat->Option Nat
 | [],_=>MH
 |b::ws,t=>match Yx (aa4 b) l with
  |none=>Zm l m ws t
  |some i=>if t=0 then MH else if YJ l m i then MI i else Zm l m ws (t-1)
theorem agp{l:List Ld}{m:List Int}:∀ {ws:List Int} {t:Nat} {i:Nat},Zm l m ws t=MI i->i<l.length/\YJ l m i=Nw/\Zw (l.getD i Zn)=Nw
 | [],t,i,h=>by cases h
 |b::ws,t,i,h=>by
  unfold Zm at h;cases h1:Yx (aa4 b) l with
  |none=>rw[h1]at h;exact agp h
  |some j =>
   rw[h1]at h;simp only at h
   split at h
   ·cases h
   ·split at h
    case isTrue h2 =>
     injection h with h;subst h;obtain⟨e,d⟩:=agr h1;refine⟨e,h2,?_⟩;unfold aa4 at d;rw[Po]at d;unfold Zw
     simpa [e]using d.2
    ·exact agp h
def acx(l:List Ld)(i j:Nat):Bool:=Nn ((l.getD i Zn).2.2*(l.getD j Zn).2.1<(l.getD j Zn).2.2*(l.getD i Zn).2.1)
def Yp(l:List Ld)(m:List Int):Nat->Option Nat
 |0=>MH
 |k+1=>if YJ l m k && (match Yp l m k with|none=>Nw|some j=>acx l k j)then MI k else Yp l m k
abbrev aed(l:List Ld)(m:List Int)(lo hi:Nat)(o:Option Nat):Prop:=match o with
 |none=>∀j,lo<=j->j<hi->YJ l m j=Nb
 |some i=>(lo<=i/\i<hi/\YJ l m i=Nw)/\∀j,lo<=j->j<hi->YJ l m j=Nw ->
   (j<i->(l.getD i Zn).2.2*(l.getD j Zn).2.1<(l.getD j Zn).2.2*(l.getD i Zn).2.1)/\(i<=j->(l.getD i Zn).2.2*(l.getD j Zn).2.1<=(l.getD j Zn).2.2*(l.getD i Zn).2.1)
theorem as1{a1 w1 a2 w2 a3 w3:Int}(p1:0<w1)(p2:0<w2)(p3:0<w3)(h1:a1*w2<a2*w1)(h2:a2*w3<=a3*w2):a1*w3<a3*w1:=by
 have f:a1*w2*w3<a2*w1*w3:=Int.mul_lt_mul_of_pos_right h1 p3;have e:a2*w3*w1<=a3*w2*w1:=Int.mul_le_mul_of_nonneg_right h2 (by omega);have g:a2*w1*w3=a2*w3*w1:=Rx _ _ _;have n:a1*w2*w3=a1*w3*w2:=Rx _ _ _;have d:a3*w2*w1=a3*w1*w2:=Rx _ _ _;exact Int.lt_of_mul_lt_mul_right (a:=w2) (by omega) (by omega)
section
variable {l:List Ld}{m:List Int}
abbrev ae8(l:List Ld)(m:List Int):Prop:=∀j,YJ l m j=Nw->0<(l.getD j Zn).2.1
theorem amk(hw:ae8 l m){o:Option Nat}(h:aed l m 0 k o)(h1:YJ l m k=Nw)(h2:∀j,o=MI j->acx l k j=Nw):aed l m 0 (k+1) (MI k):=by
 refine⟨⟨Nx _,by omega,h1⟩,fun j _ hj hr=>⟨fun hlt=>?_,fun hge=>?_⟩⟩
 ·cases o with
  |none =>
   have:=h j (Nx _) hlt;rw[this]at hr;cases hr
  |some i =>
   have g:=M2 (h2 i rfl);obtain⟨⟨_,p,f⟩,n⟩:=h;have e:=n j (Nx _) hlt hr;refine as1 (hw k h1) (hw i f) (hw j hr) g ?_;rcases Oq j i with d|d
   ·exact Int.le_of_lt (e.1 d)
   ·exact e.2 d
 ·obtain rfl:j=k:=by omega
  exact Qh _
theorem amj{o:Option Nat}(h:aed l m 0 k o)(h1:YJ l m k=Nb\/∃j,o=MI j/\acx l k j=Nb):aed l m 0 (k+1) o:=by
 cases o with
 |none =>
  intro j _ p;rcases Oq j k with d|f
  ·exact h j (Nx _) d
  ·obtain rfl:j=k:=by omega
   rcases h1 with h1|⟨_,e,_⟩
   ·exact h1
   ·cases e
 |some i =>
  obtain⟨⟨_,r,g⟩,n⟩:=h;refine⟨⟨Nx _,by omega,g⟩,fun j _ p hr=>?_⟩;rcases Oq j k with d|f
  ·exact n j (Nx _) d hr
  ·obtain rfl:j=k:=by omega
   refine⟨fun _=>by omega,fun _=>?_⟩;rcases h1 with h1|⟨q,e,h1⟩
   ·rw[h1]at hr;cases hr
   ·injection e with e
    subst e;have:=Nc h1;omega
theorem ais(hw:ae8 l m):∀k,aed l m 0 k (Yp l m k)
 |0=>fun _ _ h=>by omega
 |k+1=>by
  have d:=ais hw k;unfold Yp;cases h1:YJ l m k
  ·rw[Bool.false_and,Nf PE]
   exact amj d (Nt h1)
  ·rw[Bool.true_and]
   cases h2:Yp l m k with
   |none =>
    rw[h2]at d;rw[Nh rfl];exact amk hw d h1 (fun j e=>by cases e)
   |some i =>
    rw[h2]at d;show aed l m 0 (k+1) (if acx l k i=Nw then MI k else MI i)
    by_cases h3:acx l k i=Nw
    ·rw[Nh h3]
     exact amk hw d h1 (fun j e=>by injection e with e;subst e;exact h3)
    ·rw[Nf h3]
     exact amj d (NF ⟨i,rfl,by simpa using h3⟩)
end
def acw(l:List Ld)(m:List Int)(ws:List Int)(t:Nat):Option Nat:=match Zm l m ws t with
 |some i=>MI i
 |none=>Yp l m l.length
def abF(l:List Ld)(o:Option Nat):Int×Int:=match o with
 |some i=>((l.getD i Zn).1,0)
 |none=>(0,9)
def ab6(ws:List Int)(l:List Ld)(a b c t:Int):Int×Int :=
 if abH l then if ab3 a b c then
  if 0<=t/\t<=12/\ws.length<=12 then
   if l.any Zw then abF l (acw l (aax a b c l) ws t.toNat)else(0,11)
  else(0,2)
 else(0,2)else(0,6)
theorem asZ(a b c:Int)(l:List Ld)(i:Nat):(aax a b c l).getD i 0=if h:i<l.length then adA a b c (Zf l) l[i]else 0:=by
 unfold aax
 split
 case isTrue h=>simp[h]
 case isFalse h=>simp[Nz (Nat.le_of_not_lt h)]
theorem amw(hok:acv l):ae8 l (aax a b c l):=by
 intro j g;have d:=M2 g;rw[asZ]at d
 split at d
 case isTrue h =>
  have f:=adD hok.2 l[j] (Nk h);have e:l.getD j Zn=l[j]:=by simp[h]
  rw[e]at d⊢;unfold adA at d
  split at d
  case isTrue h0=>have:=f.2.1;omega
  case isFalse h0=>have:=f.1.1;omega
 case isFalse h =>
  have e:l.getD j Zn=Zn:=by simp[Nz (Nat.le_of_not_lt h)]
  rw[e]at d;simp[Zn]at d
theorem asN{ws:List Int}{t:Nat}(h:Yp l m l.length=MI i)(hw:ae8 l m):i<l.length/\YJ l m i=true:=by
 have:=ais hw l.length;rw[h]at this;exact⟨this.1.2.1,this.1.2.2⟩
theorem amy(x1 x2 x3:Int)(w:MO) :
  Ni MK 164 #[Ny #[MF ME x1,MF ME x2,MF ME x3]] w fun r w'=>r=MN (M3 (Zw (x1,x2,x3)))/\MQ w.heap.size w w':=by
 have d:Zw (x1,x2,x3)=(x2 != 0):=rfl;obtain⟨f,e⟩:∃f,f=Zw (x1,x2,x3):=⟨_,rfl⟩;rw[<-e]at d⊢;have H:M6 _:=d;clear d e;go_enter ayS,ayI;go_wp2;go_ret;exact⟨by rw[H.out];rfl,ab5 w⟩
theorem atc(x1 x2 x3 bk:Int)(g:Nat)(w:MO)(hc:w.cell? ⟨g,0,MH⟩=MI (MF ME bk)) :
  Ni MK 211 #[Ny #[MF ME x1,MF ME x2,MF ME x3],Na (MI ⟨g,0,MH⟩)] w fun r w'=>r=MN (M3 (aa4 bk (x1,x2,x3)))/\MQ w.heap.size w w':=by
 have p:g<w.heap.size:=MX w ⟨g,0,MH⟩ hc;have e:aa4 bk (x1,x2,x3)=((x1 == bk) && Zw (x1,x2,x3)):=rfl;obtain⟨d,f⟩:∃d,d=aa4 bk (x1,x2,x3):=⟨_,rfl⟩;rw[<-f]at e⊢;have H:M6 _:=e;clear e f;cases h:(x1 == bk)
 ·have E:M6 (d=Nb):=by rw[H.out,h];rfl
  clear H;go_enter Tryz.func211,Tryz.ntmps211;go_wp2;go_ret;exact⟨by rw[E.out];rfl,ab5 w⟩
 ·have E:M6 (d=Zw (x1,x2,x3)):=by rw[H.out,h];rfl
  obtain rfl:x1=bk:=by simpa using h
  clear H h;go_enter Tryz.func211,Tryz.ntmps211
  go_wp2_with fail
  refine(amy _ _ _ _).mono ?_;rw[<-E.out];rintro r s ⟨rfl,n⟩;have o:M6 _:=(ab5 w).trans (n.mono (by simp));clear n;go_wp2;go_ret;exact⟨rfl,o.out⟩
theorem as6(v:M7)(l:List Ld)(w:MO)(hv:aaR w v l) :
  Ni MK 210 #[v,PB (PD 164) #[] #[]] w fun r w'=>r=MN (MF ME (Yn (Yx Zw l)))/\MQ w.heap.size w w':=by
 obtain⟨q,C⟩:∃q,q=Zw:=⟨_,rfl⟩;obtain⟨a,V,rfl,T,N,G⟩:=hv.F6;unfold NE at N;have L:M6 (∀(f e g:Int) (W:MO),Ni MK 164 #[Ny #[MF ME f,MF ME e,MF ME g]] W fun r w'=>r=MN (M3 (q (f,e,g)))/\MQ W.heap.size W w'):=by rw[C];exact fun f e g W=>amy f e g W
 rw[<-C];obtain⟨o,B⟩:∃o,o=Yn (Yx q l):=⟨_,rfl⟩;rw[<-B];have H:M6 _:=B;clear hv B C;go_enter Uj,T9;go_wp2
 go_loopw [8] (fun i wr=>∃k:Nat,i=MF ME k/\k<=l.length/\(∀t∈l.take k,q t=Nb)/\MQ w.heap.size w wr) (fun i _=>l.length-(On i).toNat)
 case atStart=>exact⟨0,rfl,Nx _,by simp,MY _ _⟩
 case round =>
  obtain⟨k,rfl,Y,s,n⟩:=hrel
  by_cases hlt:k<l.length
  ·obtain⟨K,J,rfl,A,c1,c2,c3⟩:=G k hlt
   have O:=(n.cell (p:=⟨K,J+k*3,MH⟩) A).trans c1;have Q:=(n.cell (p:=⟨K,J+k*3+1,MH⟩) A).trans c2;have P:=(n.cell (p:=⟨K,J+k*3+2,MH⟩) A).trans c3;have y:M6 (_/\_):=⟨s,n⟩;have U:(k:Int)<(l.length:Int):=by omega
   have D:l.take (k+1)=l.take k++[l[k]]:=M9 hlt;have E:q l[k]=Nw->Yx q l=MI k:=fun h=>aiu hlt s h
   have z:∃x,x=l[k]:=⟨_,rfl⟩;obtain⟨⟨f,e,g⟩,z⟩:=z;rw[<-z]at O Q P D E;have M:M6 (_/\_):=⟨D,E⟩;clear s n c1 c2 c3 A G D E z;cases hd:q (f,e,g)
   ·go_wp2_with fail
    refine(L.out f e g _).mono ?_;rw[hd];rintro r S ⟨rfl,u⟩;have F:M6 _:=u;clear u;go_wp2
    go_roundw
    case rel =>
     refine⟨k+1,by simp,hlt,fun t d=>?_,y.out.2.trans (F.out.mono y.out.2.size)⟩;rw[M.out.1]at d;rcases List.mem_append.1 d with d|d
     ·exact y.out.1 t d
     ·simp at d
      rw[d];exact hd
    case measure=>simp[On];omega
   ·go_wp2_with fail
    refine(L.out f e g _).mono ?_;rw[hd];rintro r S ⟨rfl,u⟩;have I:M6 (o=(k:Int)):=by show o=_;rw[H.out,M.out.2 hd];rfl
    have F:M6 _:=u;clear u;go_wp2;go_ret;exact⟨by rw[I.out];rfl,y.out.2.trans (F.out.mono y.out.2.size)⟩
  ·have I:M6 (o = -1):=by
    show o=_;rw[H.out,ait fun t d=>s t (by rw[N1 (by omega)];exact d)];rfl
   have R:M6 _:=n;clear s n G;go_wp2;go_ret;exact⟨by rw[I.out];rfl,R.out⟩
theorem as5(v:M7)(l:List Ld)(bk:Int)(g:Nat)(w:MO)(hv:aaR w v l)(hc:w.cell? ⟨g,0,MH⟩=MI (MF ME bk)) :
  Ni MK 210 #[v,PB (PD 211) #[] #[Na (MI ⟨g,0,MH⟩)]] w fun r w'=>r=MN (MF ME (Yn (Yx (aa4 bk) l)))/\MQ w.heap.size w w':=by
 obtain⟨q,D⟩:∃q,q=aa4 bk:=⟨_,rfl⟩;obtain⟨a,Z,rfl,V,P,I⟩:=hv.F6;unfold NE at P;have O:=MX w ⟨g,0,MH⟩ hc;have M:M6 (∀(f e n:Int) (W:MO),MQ w.heap.size w W->Ni MK 211 #[Ny #[MF ME f,MF ME e,MF ME n],Na (MI ⟨g,0,MH⟩)] W fun r w'=>r=MN (M3 (q (f,e,n)))/\MQ W.heap.size W w'):=by
  rw[D];exact fun f e n W hb=>atc f e n bk g W ((hb.cell (p:=⟨g,0,MH⟩) O).trans hc)
 rw[<-D];obtain⟨u,C⟩:∃u,u=Yn (Yx q l):=⟨_,rfl⟩;rw[<-C];have H:M6 _:=C;clear hv C D hc;go_enter Uj,T9;go_wp2
 go_loopw [8] (fun i wr=>∃k:Nat,i=MF ME k/\k<=l.length/\(∀t∈l.take k,q t=Nb)/\MQ w.heap.size w wr) (fun i _=>l.length-(On i).toNat)
 case atStart=>exact⟨0,rfl,Nx _,by simp,MY _ _⟩
 case round =>
  obtain⟨k,rfl,hk,y,o⟩:=hrel
  by_cases hlt:k<l.length
  ·obtain⟨L,K,rfl,B,c1,c2,c3⟩:=I k hlt
   have Q:=(o.cell (p:=⟨L,K+k*3,MH⟩) B).trans c1;have S:=(o.cell (p:=⟨L,K+k*3+1,MH⟩) B).trans c2;have R:=(o.cell (p:=⟨L,K+k*3+2,MH⟩) B).trans c3;have s:M6 (_/\_):=⟨y,o⟩;have Y:(k:Int)<(l.length:Int):=by omega
   have E:l.take (k+1)=l.take k++[l[k]]:=M9 hlt;have F:q l[k]=Nw->Yx q l=MI k:=fun h=>aiu hlt y h
   have A:∃x,x=l[k]:=⟨_,rfl⟩;obtain⟨⟨f,e,n⟩,A⟩:=A;rw[<-A]at Q S R E F;have N:M6 (_/\_):=⟨E,F⟩;clear y o c1 c2 c3 B I E F A;cases hd:q (f,e,n)
   ·go_wp2_with fail
    refine(M.out f e n _ s.out.2).mono ?_;rw[hd];rintro r U ⟨rfl,z⟩;have G:M6 _:=z;clear z;go_wp2
    go_roundw
    case rel =>
     refine⟨k+1,by simp,hlt,fun t d=>?_,s.out.2.trans (G.out.mono s.out.2.size)⟩;rw[N.out.1]at d;rcases List.mem_append.1 d with d|d
     ·exact s.out.1 t d
     ·simp at d
      rw[d];exact hd
    case measure=>simp[On];omega
   ·go_wp2_with fail
    refine(M.out f e n _ s.out.2).mono ?_;rw[hd];rintro r U ⟨rfl,z⟩;have J:M6 (u=(k:Int)):=by show u=_;rw[H.out,N.out.2 hd];rfl
    have G:M6 _:=z;clear z;go_wp2;go_ret;exact⟨by rw[J.out];rfl,s.out.2.trans (G.out.mono s.out.2.size)⟩
  ·have J:M6 (u = -1):=by
    show u=_;rw[H.out,ait fun t d=>y t (by rw[N1 (by omega)];exact d)];rfl
   have T:M6 _:=o;clear y o I;go_wp2;go_ret;exact⟨by rw[J.out];rfl,T.out⟩
theorem as3:l.any Zw=Nn (0<=Yn (Yx Zw l)):=by
 cases h:Yx Zw l with
 |none =>
  rw[show l.any Zw=Nb from List.any_eq_false.2 fun x hx=>by simp[amo h x hx]];rfl
 |some k =>
  obtain⟨e,d⟩:=agr h;rw[show l.any Zw=Nw from List.any_eq_true.2 ⟨l[k],Nk e,d⟩];exact(Nq (show(0:Int)<=Yn (MI k)from Int.natCast_nonneg k)).symm
theorem as0(v:M7)(l:List Ld)(w:MO)(hv:aaR w v l) :
  Ni MK 163 #[v,PB (PD 164) #[] #[]] w fun r w'=>r=MN (M3 (l.any Zw))/\MQ w.heap.size w w':=by
 obtain⟨a,p,rfl,_,_,_⟩:=hv.F6;have d:M6 (_/\_):=⟨hv,as3 (l:=l)⟩;clear hv;obtain⟨f,e⟩:∃f,f=l.any Zw:=⟨_,rfl⟩;rw[<-e]at d⊢;clear e;go_enter S2,SB
 go_wp2_with fail
 refine(as6 _ l _ d.out.1).mono ?_;obtain⟨i,n⟩:∃i,i=Yn (Yx Zw l):=⟨_,rfl⟩;rw[<-n]at d⊢;clear n;rintro r s ⟨rfl,g⟩;have o:M6 _:=g;clear g;go_wp2;go_ret;exact⟨by rw[d.out.2];rfl,o.out⟩
def adz(w:MO)(gl gc:Nat)(v u:M7)(l:List Ld)(m:List Int):Prop :=
 w.cell? ⟨gl,0,MH⟩=MI v/\w.cell? ⟨gc,0,MH⟩=MI u/\aaR w v l/\abE w u m
theorem adz.below{gl gc:Nat}{u:M7}(h:adz w gl gc v u l m)(hb:MQ w.heap.size w w'):adz w' gl gc v u l m :=
 ⟨(hb.cell (p:=⟨gl,0,MH⟩) (MX w ⟨gl,0,MH⟩ h.1)).trans h.1,(hb.cell (p:=⟨gc,0,MH⟩) (MX w ⟨gc,0,MH⟩ h.2.1)).trans h.2.1,h.2.2.1.below hb,h.2.2.2.below hb⟩
theorem amx(i:Nat)(gl gc:Nat)(v u:M7)(l:List Ld)(m:List Int)(w:MO)(he:adz w gl gc v u l m)(hml:m.length=l.length)(hi:i<l.length) :
  Ni MK 165 #[MF ME (i:Int),Na (MI ⟨gl,0,MH⟩),Na (MI ⟨gc,0,MH⟩)] w fun r w'=>r=MN (M3 (YJ l m i))/\MQ w.heap.size w w':=by
 obtain⟨M,F,n,o⟩:=he;obtain⟨p,c,rfl,I,z,g⟩:=n.F6;obtain⟨D,c2,rfl,B,x,d⟩:=o.F6;obtain⟨J,H,rfl,y,_,_,E⟩:=g i hi;obtain⟨K,L,rfl,s,G⟩:=d i (by omega);unfold NE at z x;have e:YJ l m i=Nn (l[i].2.2<m[i]'(by omega)):=by
  unfold YJ;simp[hi,show i<m.length by omega]
 rw[e];generalize l[i].2.2=f at *;generalize (m[i]'(by omega))=cp at *;have C:(i:Int)<(l.length:Int):=by omega
 have A:(i:Int)<(m.length:Int):=by omega
 clear e g d n o y s hml;go_enter Tryz.func165,Tryz.ntmps165;go_wp2
 go_region
 go_wp2;go_ret;exact⟨rfl,(MY _ _).drew⟩
theorem asQ(hk:k<ws.length)(h:Yx (aa4 ws[k]) l=MH):Zm l m (ws.drop k) t=Zm l m (ws.drop (k+1)) t:=by
 rw[OK hk,Zm,h]
theorem asR(hk:k<ws.length)(h:Yx (aa4 ws[k]) l=MI i):Zm l m (ws.drop k) 0=none:=by
 rw[OK hk,Zm,h];simp
theorem asO(hk:k<ws.length)(h:Yx (aa4 ws[k]) l=MI i)(ht:t≠0)(hr:YJ l m i=Nw):Zm l m (ws.drop k) t=MI i:=by
 rw[OK hk,Zm,h];simp[ht,hr]
theorem asP(hk:k<ws.length)(h:Yx (aa4 ws[k]) l=MI i)(hr:YJ l m i=Nb):Zm l m (ws.drop k) (t+1)=Zm l m (ws.drop (k+1)) t:=by
 rw[OK hk,Zm,h];simp[hr]
theorem asM(y v u:M7)(ws:List Int)(l:List Ld)(m:List Int)(t gl gc:Nat)(w:MO)(hy:abE w y ws)(he:adz w gl gc v u l m)(hml:m.length=l.length)(ht:t<=12) :
  Ni MK 166 #[y,v,MF ME (t:Int),PB (PD 165) #[] #[Na (MI ⟨gl,0,MH⟩),Na (MI ⟨gc,0,MH⟩)]] w fun r w'=>r=MN (MF ME (Yn (Zm l m ws t)))/\MQ w.heap.size w w':=by
 obtain⟨py,cy,rfl,a8,a0,Y⟩:=hy.F6;obtain⟨pv,cv,rfl,_,_,_⟩:=he.2.2.1.F6;unfold NE at a0;obtain⟨g,e⟩:∃g,g=Zm l m ws t:=⟨_,rfl⟩;rw[<-e];have C:M6 (_/\_/\_):=⟨he,hml,Y⟩;have HA:M6 _:=e;clear he hml Y hy e;go_enter VQ,VI;go_wp2
 go_step3
 go_wp2
 go_step3
 go_wp2
 go_loopw [2,9,15] (fun s f i wr=>∃(k n:Nat),i=MF ME k/\s=MF ME (n:Int)/\f=MF ME (-1)/\k<=ws.length/\n<=12/\g=Zm l m (ws.drop k) n/\MQ w.heap.size w wr) (fun _ _ i _=>ws.length-(On i).toNat)
 case atStart=>exact⟨0,t,rfl,rfl,rfl,Nx _,ht,by rw[HA.out];rfl,MY _ _⟩
 case round =>
  obtain⟨k,n,rfl,rfl,rfl,hk,hn,e,A⟩:=hrel
  by_cases hlt:k<ws.length
  ·obtain⟨Z,o1,rfl,M,c1⟩:=C.out.2.2 k hlt
   replace c1:=(A.cell (p:=⟨Z,o1+k,MH⟩) M).trans c1;have a7:Z<wr.heap.size:=M8 M A.size;have a9:(k:Int)<(ws.length:Int):=by omega
   have L:=fun h=>asQ (l:=l) (m:=m) (t:=n) hlt h
   have K:=fun i h=>asR (l:=l) (m:=m) (i:=i) hlt h
   have H:=fun i h=>asO (l:=l) (m:=m) (t:=n) (i:=i) hlt h
   have I:=fun i j h=>asP (l:=l) (m:=m) (t:=j) (i:=i) hlt h
   obtain⟨x,V⟩:∃x,x=ws[k]:=⟨_,rfl⟩;rw[<-V]at c1 L K H I;obtain⟨G,F⟩:∃G,G=wr.alloc (MP #[MF ME x] 3):=⟨_,rfl⟩;have U:MQ wr.heap.size wr G:=by rw[F];exact ab5 _
   have T:G.cell? ⟨wr.heap.size,0,MH⟩=MI (MF ME x):=by rw[F];exact(MW _ wr.heap.size 0 _ 3 (0,0) (M1 wr _)).trans rfl
   have J:=A.trans (U.mono A.size);have R:=C.out.1.below J;have B:M6 (_/\_/\_/\_):=⟨F,T,J,R⟩;have o:M6 (_/\_/\_/\_/\_):=⟨L,K,H,I,e⟩;clear L K H I V F U T J R A M e
   go_wp2_with fail
   rw[<-B.out.1];refine(as5 _ l x wr.heap.size _ B.out.2.2.2.2.2.1 B.out.2.1).mono ?_;cases hf:Yx (aa4 x) l with
   |none =>
    rintro r O ⟨rfl,D⟩;have d:M6 (MQ w.heap.size w O/\g=Zm l m (ws.drop (k+1)) n):=⟨B.out.2.2.1.trans (D.mono B.out.2.2.1.size),by rw[o.out.2.2.2.2];exact o.out.1 hf⟩;clear D hf;rw[show Yn MH = -1 from rfl];go_wp2
    go_roundw
    case rel=>exact⟨k+1,n,by simp,rfl,rfl,hlt,hn,d.out.2,d.out.1⟩
    case measure=>simp[On];omega
   |some i =>
    rintro r O ⟨rfl,D⟩;have d:M6 (MQ w.heap.size w O):=B.out.2.2.1.trans (D.mono B.out.2.2.1.size);have S:=(agr hf).1;have Q:M6 _:=hf;clear D hf;rw[show Yn (MI i)=(i:Int)from rfl];have a5:¬((i:Int)<0):=by omega
    cases n with
    |zero =>
     have z:M6 (g=MH):=by rw[o.out.2.2.2.2];exact o.out.2.1 i Q.out
     go_wp2;rw[Sb];go_ret;exact⟨by rw[z.out];rfl,d.out⟩
    |succ n =>
     have a6:(((n+1:Nat):Int) == 0)=false:=by rw[Oh];omega
     cases hr:YJ l m i
     ·have z:M6 (g=Zm l m (ws.drop (k+1)) n):=by rw[o.out.2.2.2.2];exact o.out.2.2.2.1 i n Q.out hr
      go_wp2_with fail
      refine(amx i gl gc _ u l m _ (C.out.1.below d.out) C.out.2.1 S).mono ?_;rw[hr];rintro r N ⟨rfl,E⟩;have P:M6 (MQ w.heap.size w N):=d.out.trans (E.mono d.out.size);clear E;go_wp2
      go_roundw
      case rel=>exact⟨k+1,n,by simp,by simp,rfl,hlt,by omega,z.out,P.out⟩
      case measure=>simp[On];omega
     ·have z:M6 (g=MI i):=by rw[o.out.2.2.2.2];exact o.out.2.2.1 i Q.out (by omega) hr
      go_wp2_with fail
      refine(amx i gl gc _ u l m _ (C.out.1.below d.out) C.out.2.1 S).mono ?_;rw[hr];rintro r N ⟨rfl,E⟩;have P:M6 (MQ w.heap.size w N):=d.out.trans (E.mono d.out.size);clear E;go_wp2;rw[Sb];go_ret;exact⟨by rw[z.out];rfl,P.out⟩
  ·have z:M6 (g=MH):=by
    rw[e,List.drop_of_length_le (by omega)];rfl
   have d:M6 _:=A;clear e A;go_wp2;rw[Sb];go_ret;exact⟨by rw[z.out];rfl,d.out⟩
section
open Go.Sort (grow grow_empty grow_grow alloc_eq_grow cell?_grow heap_grow_old)
theorem ae9(w:MO)(q:Nat)(os:Array Obj):MQ w.heap.size w (Oj (w.drewN q) os):=
 ⟨rfl,rfl,rfl,by simp[Oj,World.drewN],fun k hk=>heap_grow_old (w.drewN q) os hk⟩
theorem as7(x1 x2 x3 y1 y2 y3:Int)(w:MO)(hx:ab4 (x1,x2,x3))(hy:ab4 (y1,y2,y3)) :
  Ni MK 212 #[Ny #[MF ME x1,MF ME x2,MF ME x3],Ny #[MF ME y1,MF ME y2,MF ME y3]] w fun r w'=>r=MN (M3 (Nn (x3*y2<y3*x2)))/\∃q os,w'=Oj (w.drewN q) os:=by
 obtain⟨⟨d,n⟩,g,p⟩:=hx;obtain⟨⟨e,s⟩,f,o⟩:=hy;simp only at d n g p e s f o;have y:0<=x3*y2:=Int.mul_nonneg g e;have u:x3*y2<=40*8:=Px p s e (by omega);have x:0<=y3*x2:=Int.mul_nonneg f d;have z:y3*x2<=40*8:=Px o n d (by omega);clear d n g p e s f o;go_enter Tryz.func212,Tryz.ntmps212;go_wp2;go_ret;refine⟨rfl,0,#[MP #[MF ME x1,MF ME x2,MF ME x3] 257,MP #[MF ME y1,MF ME y2,MF ME y3] 257],?_⟩;rw[PQ,PQ,grow_grow];rfl
theorem atf(i:Nat)(gl gc:Nat)(v u:M7)(l:List Ld)(m:List Int)(w:MO)(he:adz w gl gc v u l m)(hml:m.length=l.length)(hi:i<l.length) :
  Ni MK 165 #[MF ME (i:Int),Na (MI ⟨gl,0,MH⟩),Na (MI ⟨gc,0,MH⟩)] w fun r w'=>r=MN (M3 (YJ l m i))/\∃q os,w'=Oj (w.drewN q) os:=by
 obtain⟨M,F,n,o⟩:=he;obtain⟨p,c,rfl,I,z,g⟩:=n.F6;obtain⟨D,c2,rfl,B,x,d⟩:=o.F6;obtain⟨J,H,rfl,y,_,_,E⟩:=g i hi;obtain⟨K,L,rfl,s,G⟩:=d i (by omega);unfold NE at z x;have e:YJ l m i=Nn (l[i].2.2<m[i]'(by omega)):=by
  unfold YJ;simp[hi,show i<m.length by omega]
 rw[e];generalize l[i].2.2=f at *;generalize (m[i]'(by omega))=cp at *;have C:(i:Int)<(l.length:Int):=by omega
 have A:(i:Int)<(m.length:Int):=by omega
 clear e g d n o y s hml;go_enter Tryz.func165,Tryz.ntmps165;go_wp2
 go_region
 go_wp2;go_ret;exact⟨rfl,1,#[],by rw[grow_empty];rfl⟩
theorem amt(h:YJ l m k=Nb):Yp l m (k+1)=Yp l m k:=by
 rw[Yp,h];rfl
theorem amr(h:YJ l m k=Nw)(h2:Yp l m k=MH):Yp l m (k+1)=MI k:=by
 rw[Yp,h,h2];rfl
theorem ams{j:Nat}(h:YJ l m k=Nw)(h2:Yp l m k=MI j):Yp l m (k+1)=if acx l k j then MI k else MI j:=by
 rw[Yp,h,h2];rfl
theorem aiw{l:List Ld}{m:List Int}:∀ {k j:Nat},Yp l m k=MI j->j<k
 |0,j,h=>by cases h
 |k+1,j,h=>by
  cases hr:YJ l m k
  ·rw[amt hr]at h
   have:=aiw h;omega
  ·cases ho:Yp l m k with
   |none =>
    rw[amr hr ho]at h;injection h with h;omega
   |some i =>
    have d:=aiw ho;rw[ams hr ho]at h
    split at h <;> (injection h with h;omega)
theorem as8(v u:M7)(l:List Ld)(m:List Int)(gl gc:Nat)(w:MO)(he:adz w gl gc v u l m)(hml:m.length=l.length)(hok:∀x∈l,ab4 x) :
  Ni MK 167 #[v,PB (PD 165) #[] #[Na (MI ⟨gl,0,MH⟩),Na (MI ⟨gc,0,MH⟩)]] w fun r w'=>r=MN (MF ME (Yn (Yp l m l.length)))/\MQ w.heap.size w w':=by
 have XY:=XY;obtain⟨pv,cv,rfl,c0,b7,pa⟩:=he.2.2.1.F6;unfold NE at b7;obtain⟨b5,V⟩:∃b5,b5=Yp l m l.length:=⟨_,rfl⟩;rw[<-V];have H:M6 (_/\_/\_/\_):=⟨he,hml,pa,hok⟩;have HA:M6 _:=V;clear he hml pa hok V;go_enter Tryz.func167,Tryz.ntmps167;go_wp2
 go_loopw [5,10] (fun f i wr=>∃(k:Nat),i=MF ME k/\f=MF ME (Yn (Yp l m k))/\k<=l.length/\MQ w.heap.size w wr) (fun _ i _=>l.length-(On i).toNat)
 case atStart=>exact⟨0,rfl,rfl,Nx _,MY _ _⟩
 case round =>
  obtain⟨k,rfl,rfl,hk,C⟩:=hrel
  by_cases hlt:k<l.length
  ·obtain⟨z,B,rfl,G,c1,c2,c3⟩:=H.out.2.2.1 k hlt
   have b6:=G;replace c1:=(C.cell (p:=⟨z,B+k*3,MH⟩) G).trans c1;replace c2:=(C.cell (p:=⟨z,B+k*3+1,MH⟩) G).trans c2;replace c3:=(C.cell (p:=⟨z,B+k*3+2,MH⟩) G).trans c3;have c4:z<wr.heap.size:=M8 G C.size;have c5:(k:Int)<(l.length:Int):=by omega
   have Y:=H.out.2.2.2 l[k] (Nk hlt);have a7:l.getD k Zn=l[k]:=by simp[hlt]
   obtain⟨⟨O,N,M⟩,hx⟩:∃x,x=l[k]:=⟨_,rfl⟩;rw[<-hx]at c1 c2 c3 Y a7;obtain⟨d,P⟩:∃d,d=wr.alloc (MP #[MF ME O,MF ME N,MF ME M] 257):=⟨_,rfl⟩;have b0:MQ wr.heap.size wr d:=by rw[P];exact ab5 _
   have I:d.heap[wr.heap.size]?=MI (MP #[MF ME O,MF ME N,MF ME M] 257 (0,0)):=by rw[P];exact M1 _ _
   have a5:MQ w.heap.size w d:=C.trans (b0.mono C.size);have a0:wr.heap.size<d.heap.size:=(Array.getElem?_eq_some_iff.1 I).1;have R:∀n os,(Oj (d.drewN n) os).cell? ⟨wr.heap.size,0,MH⟩=MI (MF ME O):=Ob a0 (by simp[Nl,I]);have S:∀n os,(Oj (d.drewN n) os).cell? ⟨wr.heap.size,1,MH⟩=MI (MF ME N):=Ob a0 (by simp[Nl,I]);have T:∀n os,(Oj (d.drewN n) os).cell? ⟨wr.heap.size,2,MH⟩=MI (MF ME M):=Ob a0 (by simp[Nl,I]);have e:M6 (_/\_/\_/\_):=⟨P,a5,Y,a7⟩;have J:M6 (∀n os,Ni MK 165 #[MF ME (k:Int),Na (MI ⟨gl,0,MH⟩),Na (MI ⟨gc,0,MH⟩)] (Oj (d.drewN n) os) fun r w'=>r=MN (M3 (YJ l m k))/\∃q' os',w'=Oj ((Oj (d.drewN n) os).drewN q') os'):=
    fun n os=>atf k gl gc _ u l m _ ((H.out.1.below a5).below (ae9 d n os)) H.out.2.1 hlt
   clear hx P b0 I a5 Y a7 G;cases hr:YJ l m k
   ·have F:M6 _:=J.out
    rw[hr]at F;have A:M6 (Yp l m (k+1)=Yp l m k):=amt hr;obtain⟨f,hf⟩:∃f,f=Yn (Yp l m k):=⟨_,rfl⟩;rw[<-hf];have HF:M6 _:=hf;clear hf J R S T
    go_wp2_with fail
    rw[<-e.out.1];refine NQ XY (by kernel_rfl) ?_
    repeat (first|go_big_quiet_skip|quiet_step (first|(go_at_call 165;exact NZ (F.out _ _))))
    refine Oy ?_;intro _ E;obtain⟨⟨o,g⟩,D⟩:=E;subst D;have s:M6 (MQ w.heap.size w (Oj (d.drewN o) g)):=e.out.2.1.trans ((ae9 d o g).mono e.out.2.1.size);generalize Oj (d.drewN o) g=w3 at s⊢;go_wp2
    go_roundw
    case rel=>exact⟨k+1,by simp,by rw[A.out,HF.out],hlt,s.out⟩
    case measure=>simp[On];omega
   ·have F:M6 _:=J.out
    rw[hr]at F;cases ho:Yp l m k with
    |none =>
     have A:M6 (Yp l m (k+1)=MI k):=amr hr ho;rw[show Yn MH = -1 from rfl];clear J R S T ho
     go_wp2_with fail
     rw[<-e.out.1];refine NQ XY (by kernel_rfl) ?_
     repeat (first|go_big_quiet_skip|quiet_step (first|(go_at_call 165;exact NZ (F.out _ _))))
     refine Oy ?_;intro _ E;obtain⟨⟨o,g⟩,D⟩:=E;subst D;have s:M6 (MQ w.heap.size w (Oj (d.drewN o) g)):=e.out.2.1.trans ((ae9 d o g).mono e.out.2.1.size);generalize Oj (d.drewN o) g=w3 at s⊢;go_wp2
     go_roundw
     case rel=>exact⟨k+1,by simp,by rw[A.out];rfl,hlt,s.out⟩
     case measure=>simp[On];omega
    |some j =>
     have b8:=aiw ho;have a9:j<l.length:=by omega
     have hN:=ams hr ho;have a6:l.getD j Zn=l[j]:=by simp[a9]
     have Z:=H.out.2.2.2 l[j] (Nk a9);obtain⟨b2,o2,L,K,d1,d2,d3⟩:=H.out.2.2.1 j a9;injection L with L;injection L with L e3;subst L e3;have U:z<d.heap.size:=M8 K e.out.2.1.size;obtain⟨⟨y1,y2,y3⟩,hy⟩:∃y,y=l[j]:=⟨_,rfl⟩;rw[<-hy]at d1 d2 d3 a6 Z;have j1:∀n os,(Oj (d.drewN n) os).cell? ⟨z,B+j*3,MH⟩=MI (MF ME y1):=Ob U ((e.out.2.1.cell (p:=⟨z,B+j*3,MH⟩) K).trans d1);have j2:∀n os,(Oj (d.drewN n) os).cell? ⟨z,B+j*3+1,MH⟩=MI (MF ME y2):=Ob U ((e.out.2.1.cell (p:=⟨z,B+j*3+1,MH⟩) K).trans d2);have j3:∀n os,(Oj (d.drewN n) os).cell? ⟨z,B+j*3+2,MH⟩=MI (MF ME y3):=Ob U ((e.out.2.1.cell (p:=⟨z,B+j*3+2,MH⟩) K).trans d3);have Q:M6 (∀W,Ni MK 212 #[Ny #[MF ME O,MF ME N,MF ME M],Ny #[MF ME y1,MF ME y2,MF ME y3]] W fun r w'=>r=MN (M3 (acx l k j))/\∃q os,w'=Oj (W.drewN q) os):=fun W=>by
      unfold acx;rw[e.out.2.2.2,a6];exact as7 O N M y1 y2 y3 W e.out.2.2.1 Z
     have A:M6 _:=hN;rw[show Yn (MI j)=(j:Int)from rfl];have c6:(0:Int)<=(j:Int):=by omega
     have b9:(j:Int)<(l.length:Int):=by omega
     clear a6 Z hy d1 d2 d3 K b6 hN ho J;cases hs:acx l k j
     ·rw[hs]at A Q
      have a8:M6 (Yp l m (k+1)=MI j):=A.out;clear A
      go_wp2_with fail
      rw[<-e.out.1];refine NQ XY (by kernel_rfl) ?_
      repeat (first|go_big_quiet_skip|quiet_step (first|(go_at_call 165;exact NZ (F.out _ _))|(go_at_call 212;exact NZ (Q.out _))))
      refine Oy ?_;intro _ E;obtain⟨⟨o,g⟩,D⟩:=E;subst D;have s:M6 (MQ w.heap.size w (Oj (d.drewN o) g)):=e.out.2.1.trans ((ae9 d o g).mono e.out.2.1.size);generalize Oj (d.drewN o) g=w3 at s⊢;clear R S T j1 j2 j3;go_wp2
      go_roundw
      case rel=>exact⟨k+1,by simp,by rw[a8.out];rfl,hlt,s.out⟩
      case measure=>simp[On];omega
     ·rw[hs]at A Q
      have a8:M6 (Yp l m (k+1)=MI k):=A.out;clear A
      go_wp2_with fail
      rw[<-e.out.1];refine NQ XY (by kernel_rfl) ?_
      repeat (first|go_big_quiet_skip|quiet_step (first|(go_at_call 165;exact NZ (F.out _ _))|(go_at_call 212;exact NZ (Q.out _))))
      refine Oy ?_;intro _ E;obtain⟨⟨o,g⟩,D⟩:=E;subst D;have s:M6 (MQ w.heap.size w (Oj (d.drewN o) g)):=e.out.2.1.trans ((ae9 d o g).mono e.out.2.1.size);generalize Oj (d.drewN o) g=w3 at s⊢;clear R S T j1 j2 j3;go_wp2
      go_roundw
      case rel=>exact⟨k+1,by simp,by rw[a8.out];rfl,hlt,s.out⟩
      case measure=>simp[On];omega
  ·obtain rfl:k=l.length:=by omega
   rw[<-HA.out];have s:M6 _:=C;clear C;go_wp2;go_ret;exact⟨rfl,s.out⟩
end
theorem ami.Ga{o:Int×List Int}{r:Ending}(h:ami o w r w'):∃p c,r=MN (Nv #[MG p o.2.length c,MF ME o.1])/\abE w' (MG p o.2.length c) o.2/\MQ w.heap.size w w':=by
 obtain⟨y,rfl,d,e⟩:=h;obtain⟨p,c,rfl,_⟩:=d.F6;exact⟨p,c,rfl,d,e⟩
theorem as9(hw:ae8 l m)(h:Yp l m l.length=MI i):i<l.length/\YJ l m i=true:=by
 have:=ais hw l.length;rw[h]at this;exact⟨this.1.2.1,this.1.2.2⟩
theorem atd(y v:M7)(ws:List Int)(l:List Ld)(a b c t:Int)(w:MO)(hy:abE w y ws)(hv:aaR w v l) :
  Ni MK 121 #[y,v,MF ME a,MF ME b,MF ME c,MF ME t] w fun r w'=>r=MN (Nv #[MF ME (ab6 ws l a b c t).1,MF ME (ab6 ws l a b c t).2])/\MQ w.heap.size w w':=by
 obtain⟨py,cy,rfl,_,c8,_⟩:=hy.F6;obtain⟨P,cv,rfl,_,c9,_⟩:=hv.F6;unfold NE at c8 c9;obtain⟨g,f,a0⟩:∃g f,ab6 ws l a b c t=(g,f):=⟨_,_,rfl⟩;rw[a0];obtain⟨L,S⟩:∃L,L=w.alloc (MP #[MG P l.length cv] 205):=⟨_,rfl⟩;have T:MQ w.heap.size w L:=by rw[S];exact ab5 _
 have a6:L.cell? ⟨w.heap.size,0,MH⟩=MI (MG P l.length cv):=by rw[S];exact(MW _ w.heap.size 0 _ 205 (0,0) (M1 w _)).trans rfl
 have a8:w.heap.size<L.heap.size:=MX L _ a6;have o:M6 (_/\_/\_/\_/\_):=⟨S,T,a6,hv.below T,hy.below T⟩;have Z:M6 (_/\True):=⟨a0,trivial⟩;clear S T a6 hv hy a0;go_enter T0,TU
 go_wp2_with fail
 rw[<-o.out.1];refine(asY _ l a b c _ o.out.2.2.2.1).mono ?_;rintro r z b0;obtain⟨p1,c1,rfl,K,u⟩:=b0.Ga;clear b0;cases hok:abH l
 ·have E:aa3 l a b c=(6,[]):=by unfold aa3;rw[hok,Nf PE]
  have d:M6 (g=0/\f=6):=by
   have h:=Z.out.1;unfold ab6 at h;rw[hok,Nf PE]at h;injection h with h1 h2;exact⟨h1.symm,h2.symm⟩
  rw[E];have n:M6 _:=o.out.2.1.trans (u.mono o.out.2.1.size);clear K u E hok;go_wp2
  go_ret2
  exact⟨by rw[d.out.1,d.out.2];rfl,n.out.alloc n.out.size _⟩
 by_cases hf:ab3 a b c
 case neg =>
  have E:aa3 l a b c=(2,[]):=by unfold aa3;rw[Nh hok,Nf hf]
  have d:M6 (g=0/\f=2):=by
   have h:=Z.out.1;unfold ab6 at h;rw[Nh hok,Nf hf]at h;injection h with h1 h2;exact⟨h1.symm,h2.symm⟩
  rw[E];have n:M6 _:=o.out.2.1.trans (u.mono o.out.2.1.size);clear K u E hok hf;go_wp2
  go_ret2
  exact⟨by rw[d.out.1,d.out.2];rfl,n.out.alloc n.out.size _⟩
 have E:aa3 l a b c=(0,aax a b c l):=by unfold aa3;rw[Nh hok,Nh hf]
 rw[E]at K⊢;have hL:=afa.1 hok;have a5:=amw (a:=a) (b:=b) (c:=c) hL;obtain⟨m,V⟩:∃m,m=aax a b c l:=⟨_,rfl⟩;have b6:m.length=l.length:=by rw[V];simp[aax]
 rw[<-V]at K a5⊢;have hp:ab6 ws l a b c t=if 0<=t/\t<=12/\ws.length<=12 then if l.any Zw then abF l (acw l m ws t.toNat)else(0,11)else(0,2):=by
  unfold ab6;rw[Nh hok,Nh hf,<-V]
 rw[Z.out.1]at hp;have a7:=o.out.2.1.trans (u.mono o.out.2.1.size);have c0:=(u.cell (p:=⟨w.heap.size,0,MH⟩) a8).trans o.out.2.2.1;obtain⟨O,U⟩:∃O,O=z.alloc (MP #[MG p1 m.length c1] 34):=⟨_,rfl⟩;have J:MQ z.heap.size z O:=by rw[U];exact ab5 _
 have c4:O.cell? ⟨z.heap.size,0,MH⟩=MI (MG p1 m.length c1):=by rw[U];exact(MW _ z.heap.size 0 _ 34 (0,0) (M1 z _)).trans rfl
 have c5:w.heap.size<z.heap.size:=M8 a8 u.size;have a9:adz O w.heap.size z.heap.size (MG P l.length cv) (MG p1 m.length c1) l m:=⟨(J.cell (p:=⟨w.heap.size,0,MH⟩) c5).trans c0,c4,(o.out.2.2.2.1.below u).below J,K.below J⟩;have b8:=(o.out.2.2.2.2.below u).below J;have b7:=a7.trans (J.mono a7.size);have e:M6 (_/\_/\_/\_/\_/\_/\_/\_):=⟨U,a9,b8,b7,b6,a5,hL,hp⟩;clear U a9 b8 b7 c4 J a7 u hp V K hL E hf hok Z a5 b6 o;rcases(by omega:t<0\/(0<=t/\12<t)\/(0<=t/\t<=12))with h1|⟨h1,h2⟩|⟨h1,h2⟩
 ·have d:M6 (g=0/\f=2):=by
   have h:=e.out.2.2.2.2.2.2.2;rw[Nf (by omega)]at h;injection h with h1 h2;exact⟨h1,h2⟩
  go_wp2;rw[<-e.out.1]
  go_ret2
  exact⟨by rw[d.out.1,d.out.2];rfl,e.out.2.2.2.1⟩
 ·have d:M6 (g=0/\f=2):=by
   have h:=e.out.2.2.2.2.2.2.2;rw[Nf (by omega)]at h;injection h with h1 h2;exact⟨h1,h2⟩
  go_wp2;rw[<-e.out.1]
  go_ret2
  exact⟨by rw[d.out.1,d.out.2];rfl,e.out.2.2.2.1⟩
 obtain⟨M,rfl⟩:=NL h1;rcases Oq 12 ws.length with Y|Y
 ·have d:M6 (g=0/\f=2):=by
   have h:=e.out.2.2.2.2.2.2.2;rw[Nf (by omega)]at h;injection h with h1 h2;exact⟨h1,h2⟩
  have c6:(12:Int)<(ws.length:Int):=by omega
  clear Y;go_wp2;rw[<-e.out.1]
  go_ret2
  exact⟨by rw[d.out.1,d.out.2];rfl,e.out.2.2.2.1⟩
 have c6:Nn ((12:Int)<(ws.length:Int))=false:=M0 (by omega);have d6:Nn ((12:Int)<(M:Int))=false:=M0 (by omega);have d7:Nn ((M:Int)<0)=false:=M0 (by omega);have HP:M6 ((g,f)=if l.any Zw then abF l (acw l m ws M)else(0,11)):=by
  have h:=e.out.2.2.2.2.2.2.2;rw[Nh ⟨h1,h2,Y⟩]at h;rw[NR]at h;exact h
 clear Y
 go_wp2_with fail
 rw[<-e.out.1];refine(as0 _ l _ e.out.2.1.2.2.1).mono ?_;cases hany:l.any Zw
 ·rintro r w3 ⟨rfl,G⟩
  have d:M6 (g=0/\f=11):=by
   have h:=HP.out;rw[hany,Nf PE]at h;injection h with h1 h2;exact⟨h1,h2⟩
  have n:M6 _:=e.out.2.2.2.1.trans (G.mono e.out.2.2.2.1.size);clear G hany;go_wp2
  go_ret2
  exact⟨by rw[d.out.1,d.out.2];rfl,n.out⟩
 rintro r w3 ⟨rfl,G⟩;have s:M6 (_/\_/\_/\(g,f)=abF l (acw l m ws M)):=⟨e.out.2.1.below G,e.out.2.2.1.below G,e.out.2.2.2.1.trans (G.mono e.out.2.2.2.1.size),by have h:=HP.out;rw[Nh hany]at h;exact h⟩;clear G hany HP c0;have A:=s.out.1.1
 go_wp2_with fail
 refine(asM _ _ _ ws l m M w.heap.size z.heap.size _ s.out.2.1 s.out.1 e.out.2.2.2.2.1 (by omega)).mono ?_;cases hal:Zm l m ws M with
 |some i =>
  rintro r I ⟨rfl,D⟩;obtain⟨Q,_,_⟩:=agp hal;rw[show Yn (MI i)=(i:Int)from rfl];have d5:=(D.cell (p:=⟨w.heap.size,0,MH⟩) (MX w3 _ A)).trans A;have b9:=s.out.1.2.2.1.below D;obtain⟨_,_,C,_,_,R⟩:=b9.F6;obtain⟨b1,o1,rfl,_,d1,_,_⟩:=(by injection C with C;subst C;exact R i Q:∃b off,P=some ⟨b,off,none⟩/\b<I.heap.size/\I.cell? ⟨b,off+i*3,none⟩=some (.int .i64 l[i].1)/\I.cell? ⟨b,off+i*3+1,none⟩=some (.int .i64 l[i].2.1)/\I.cell? ⟨b,off+i*3+2,none⟩=some (.int .i64 l[i].2.2));have d:M6 (g=l[i].1/\f=0):=by
   have h:=s.out.2.2.2;unfold acw at h;rw[hal]at h;simp only[abF]at h;injection h with h1 h2;exact⟨by rw[h1];simp[Q],h2⟩
  have n:M6 (MQ w.heap.size w I):=s.out.2.2.1.trans (D.mono s.out.2.2.1.size);have d0:(i:Int)<(l.length:Int):=by omega
  have c7:(0:Int)<=(i:Int):=by omega
  obtain⟨x,N⟩:∃x,x=l[i].1:=⟨_,rfl⟩;rw[<-N]at d1 d;clear D A b9 C R hal N;go_wp2
  go_ret2
  exact⟨by rw[d.out.1,d.out.2];rfl,n.out⟩
 |none =>
  rintro r I ⟨rfl,D⟩;rw[show Yn MH = -1 from rfl];have B:M6 (_/\_/\(g,f)=abF l (Yp l m l.length)):=⟨s.out.1.below D,s.out.2.2.1.trans (D.mono s.out.2.2.1.size),by have h:=s.out.2.2.2;unfold acw at h;rw[hal]at h;exact h⟩;clear D hal A;have A:=B.out.1.1
  go_wp2_with fail
  refine(as8 _ _ l m w.heap.size z.heap.size _ B.out.1 e.out.2.2.2.2.1 (adD e.out.2.2.2.2.2.2.1.2)).mono ?_;cases hle:Yp l m l.length with
  |none =>
   rintro r H ⟨rfl,F⟩;rw[show Yn MH = -1 from rfl];have d:M6 (g=0/\f=9):=by
    have h:=B.out.2.2;rw[hle]at h;simp only[abF]at h;injection h with h1 h2;exact⟨h1,h2⟩
   have n:M6 (MQ w.heap.size w H):=B.out.2.1.trans (F.mono B.out.2.1.size);clear F A hle;go_wp2
   go_ret2
   exact⟨by rw[d.out.1,d.out.2];rfl,n.out⟩
  |some i =>
   rintro r H ⟨rfl,F⟩;obtain⟨Q,_⟩:=as9 e.out.2.2.2.2.2.1 hle;rw[show Yn (MI i)=(i:Int)from rfl];have d8:=(F.cell (p:=⟨w.heap.size,0,MH⟩) (MX I _ A)).trans A;have b5:=B.out.1.2.2.1.below F;obtain⟨_,_,C,_,_,R⟩:=b5.F6;obtain⟨b1,o1,rfl,_,d1,_,_⟩:=(by injection C with C;subst C;exact R i Q:∃b off,P=some ⟨b,off,none⟩/\b<H.heap.size/\H.cell? ⟨b,off+i*3,none⟩=some (.int .i64 l[i].1)/\H.cell? ⟨b,off+i*3+1,none⟩=some (.int .i64 l[i].2.1)/\H.cell? ⟨b,off+i*3+2,none⟩=some (.int .i64 l[i].2.2));have d:M6 (g=l[i].1/\f=0):=by
    have h:=B.out.2.2;rw[hle]at h;simp only[abF]at h;injection h with h1 h2;exact⟨by rw[h1];simp[Q],h2⟩
   have n:M6 (MQ w.heap.size w H):=B.out.2.1.trans (F.mono B.out.2.1.size);have d0:(i:Int)<(l.length:Int):=by omega
   have c7:(0:Int)<=(i:Int):=by omega
   obtain⟨x,N⟩:∃x,x=l[i].1:=⟨_,rfl⟩;rw[<-N]at d1 d;clear F A b5 C R hle N;go_wp2
   go_ret2
   exact⟨by rw[d.out.1,d.out.2];rfl,n.out⟩
end Go.Proofs.YtidlemcdnhbceaaGreatDoor.Q
