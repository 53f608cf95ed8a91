/-
  Contracts of the layers and of core, part 7. Conditions: as each theorem says.
-/
import Derived.Deep.Upon
import Derived.BigQuiet
import Derived.Deep.CutRange
import Derived.Shelf.SlSortCmp.QuietGrown
import Derived.Test.YtgnclkcdnbfeeaaGreatDoorQ0
open Bool renaming and_eq_true->Po,false->Nb,false_ne_true->PE,true->Nw
open Decidable renaming decide->Nn
open Go renaming Calls->Ni,TypeId->NU,Value->M7,World->MO,cell_grown->Ob,cell_of_row->MW,heap_alloc_new->M1,info_parts->OF,maxLen->NE,wpQuiet_nil->Oy,wp_region_quiet_grown->NQ
open Go.Calls renaming grown_of->NZ
open Go.Ending renaming returned->MN
open Go.Exit renaming noGoto_ret->Sb
open Go.Fn renaming func->PD
open Go.IntKind renaming i64->ME
open Go.Obj renaming cells->MP
open Go.Proofs.Tryz renaming func163->S2,func164->ayS,func166->VQ,func168->SS,func212->azr,func213->WC,func214->ZqC,func217->RZ,func239->azP,func240->VR,ntmps163->SB,ntmps164->ayI,ntmps166->VI,ntmps168->Sw,ntmps212->azm,ntmps213->Wn,ntmps214->Sz,ntmps217->RM,ntmps239->azF,ntmps240->VJ,prog->MK
open Go.RowKit renaming Below->MQ,Hid->M6,intOf->On
open Go.RowKit.Below renaming refl->MY
open Go.Sort renaming alloc_eq_grow->PQ,grow->Oj
open Go.Value renaming agg->Ny,bool->M3,func->PB,int->MF,pointer->Na,slice->MG,tuple->Nv
open Go.World renaming block_lt_of_cell?->MX,cell?->Nl
open Int renaming eq_ofNat_of_zero_le->NL,le_refl->Qh,mul_le_mul->Px,mul_pos->Tn,mul_right_comm->Rx,toNat_natCast->NR
open List renaming append_assoc->OC,drop_eq_getElem_cons->OK,ext_getElem->PX,getElem?_eq_getElem->MR,getElem?_eq_none->Nz,getElem_mem->Nk,getElem_set->Pc,length_take->NH,mem_cons_of_mem->NB,mem_cons_self->NM,replicate->Nj,set_append_right->Pw,set_cons_zero->ML,take_length->NT,take_of_length_le->N1,take_succ_eq_append_getElem->M9
open Nat renaming le_refl->MV,lt_of_lt_of_le->M8,lt_or_ge->Oq,mul_one->P6,zero_add->Oa,zero_le->Nx
open Option renaming none->MH,some->MI
open Or renaming inl->Nt,inr->NF
namespace Go.Proofs.YtgnclkcdnbfeeaaGreatDoor.Q
set_option linter.unusedVariables false
set_option linter.unusedSimpArgs false
set_option maxHeartbeats 16000000
set_option maxRecDepth 100000
open Go.RowKit
attribute [local go_sem ↓] Go.wp_at_zero Go.wp_at_succ
variable {a b c:Int}{m ws:List Int}{l:List Ld}{v:M7}{w w':MO}{i k t:Nat}
abbrev ab3(num den flows:Int):Prop:=(1<=den/\den<=num/\num<=20)/\0<=flows/\flows<=40
abbrev ago(num den flows wt total:Int):Prop:=ab3 num den flows/\1<=wt/\wt<=total/\total<=96
theorem aiv(n:Int)(w:MO):Ni MK 239 #[MF ME n] w fun r w'=>r=MN (M3 (Nn (0<=n/\n<=40)))/\w'=w:=by
 obtain⟨d,e⟩:∃d,d=Nn (0<=n/\n<=40):=⟨_,rfl⟩;rw[<-e];have H:M6 _:=e;clear e;cases h1:Nn (0<=n)
 ·have E:M6 (d=Nb):=by rw[H.out];exact M0 fun g=>Nc h1 g.1
  go_enter azP,azF;go_wp2;go_ret;exact⟨by rw[E.out];rfl,rfl⟩
 cases h2:Nn (n<=40)
 ·have E:M6 (d=Nb):=by rw[H.out];exact M0 fun g=>Nc h2 g.2
  go_enter azP,azF;go_wp2;go_ret;exact⟨by rw[E.out];rfl,rfl⟩
 ·have E:M6 (d=Nw):=by rw[H.out];exact Nq ⟨M2 h1,M2 h2⟩
  go_enter azP,azF;go_wp2;go_ret;exact⟨by rw[E.out];rfl,rfl⟩
theorem aiy(a b c:Int)(w:MO):Ni MK 212 #[MF ME a,MF ME b,MF ME c] w fun r w'=>r=MN (M3 (Nn (ab3 a b c)))/\w'=w:=by
 obtain⟨d,f⟩:∃d,d=Nn (ab3 a b c):=⟨_,rfl⟩;rw[<-f];have H:M6 _:=f;clear f;cases h1:Nn (1<=b)
 ·have E:M6 (d=Nb):=by rw[H.out];exact M0 fun g=>Nc h1 g.1.1
  clear H;go_enter azr,azm;go_wp2;go_ret;exact⟨by rw[E.out];rfl,rfl⟩
 cases h2:Nn (b<=a)
 ·have E:M6 (d=Nb):=by rw[H.out];exact M0 fun g=>Nc h2 g.1.2.1
  clear H;go_enter azr,azm;go_wp2;go_ret;exact⟨by rw[E.out];rfl,rfl⟩
 cases h3:Nn (a<=20)
 ·have E:M6 (d=Nb):=by rw[H.out];exact M0 fun g=>Nc h3 g.1.2.2
  clear H;go_enter azr,azm;go_wp2;go_ret;exact⟨by rw[E.out];rfl,rfl⟩
 have E:M6 (d=Nn (0<=c/\c<=40)):=by
  rw[H.out];exact decide_eq_decide.2 ⟨fun g=>g.2,fun g=>⟨⟨M2 h1,M2 h2,M2 h3⟩,g⟩⟩
 clear H;go_enter azr,azm
 go_wp2_with fail
 refine(aiv _ _).mono ?_;rintro e w' ⟨rfl,rfl⟩;go_wp2;go_ret;exact⟨by rw[E.out,Bool.decide_and];rfl,rfl⟩
theorem as2(a b:Int)(w:MO)(h1:0<=a)(h2:a<=1000000)(h3:1<=b)(h4:b<=1000000):Ni MK 240 #[MF ME a,MF ME b] w fun r w'=>r=MN (MF ME ((a+b-1) / b))/\w'=w:=by
 go_enter VR,VJ;go_wp2;go_ret;exact⟨rfl,rfl⟩
def agq(num den flows wt total:Int):Int:=(num*(flows+1)*wt+den*total-1) / (den*total)
theorem ate{d e:Int}(h:ago a b c d e):(0<a*(c+1)/\a*(c+1)<=820)/\(0<a*(c+1)*d/\a*(c+1)*d<=78720)/\0<b*e/\b*e<=1920:=by
 obtain⟨⟨⟨s,C,x⟩,g,p⟩,n,z,r⟩:=h;have f:0<a*(c+1):=Tn (by omega) (by omega);have B:a*(c+1)<=20*41:=Px (by omega) (by omega) (by omega) (by omega);have y:0<a*(c+1)*d:=Tn f (by omega);have o:a*(c+1)*d<=820*96:=Px (by omega) (by omega) (by omega) (by omega);have A:0<b*e:=Tn (by omega) (by omega);have u:b*e<=20*96:=Px (by omega) (by omega) (by omega) (by omega);omega
theorem asS(a b c d e:Int)(w:MO)(h:ago a b c d e):Ni MK 214 #[MF ME a,MF ME b,MF ME c,MF ME d,MF ME e] w fun r w'=>r=MN (Nv #[MF ME (agq a b c d e),MF ME 0])/\w'=w:=by
 obtain⟨⟨F,E⟩,⟨G,z⟩,y,B⟩:=ate h;have f:M6 _:=Nq h.1;obtain⟨⟨⟨u,H,D⟩,n,o⟩,A,x,C⟩:=h;have s:Nn (d<1)=false:=M0 (by omega);have g:Nn (e<d)=false:=M0 (by omega);have p:Nn (96<e)=false:=M0 (by omega);go_enter ZqC,Sz
 go_wp2_with fail
 refine(aiy _ _ _ _).mono ?_;rintro r w' ⟨rfl,rfl⟩;rw[f.out]
 go_wp2_with fail
 refine(as2 _ _ _ (by omega) (by omega) (by omega) (by omega)).mono ?_;rintro r w' ⟨rfl,rfl⟩;go_wp2
 go_ret2
 exact⟨rfl,rfl⟩
def abG:List Ld->List M7
 | []=>[]
 |t::l=>MF ME t.1::MF ME t.2.1::MF ME t.2.2::abG l
theorem agt:∀l:List Ld,(abG l).length=l.length*3
 | []=>rfl
 |t::l=>by simp[abG,agt l];omega
theorem ags:∀(l:List Ld) (i:Nat) (h:i<l.length),(abG l)[i*3]?=MI (MF ME l[i].1)/\(abG l)[i*3+1]?=MI (MF ME l[i].2.1)/\(abG l)[i*3+2]?=MI (MF ME l[i].2.2)
 |t::l,0,_=>by simp[abG]
 |t::l,i+1,h=>by
  have d:=ags l i (by simpa using h);rw[show(i+1)*3=i*3+1+1+1 by omega]
  simpa [abG]using d
def aaR(w:MO)(v:M7)(l:List Ld):Prop:=XB w v l.length (abG l)
theorem aaR.below(h:aaR w v l)(hb:MQ w.heap.size w w'):aaR w' v l:=XB.below h hb
theorem aaR.F6(h:aaR w v l):
  ∃a cap,v=MG a l.length cap/\l.length<=cap/\cap<=NE/\∀i (hi:i<l.length),∃b off,a=MI ⟨b,off,MH⟩/\b<w.heap.size/\w.cell? ⟨b,off+i*3,MH⟩=MI (MF ME l[i].1)/\w.cell? ⟨b,off+i*3+1,MH⟩=MI (MF ME l[i].2.1)/\w.cell? ⟨b,off+i*3+2,MH⟩=MI (MF ME l[i].2.2):=by
 obtain⟨a,cap,n,f,e,g|⟨b,off,g,o,d⟩⟩:=h
 ·exact⟨a,cap,n,f,e,fun i hi=>absurd hi (by omega)⟩
 ·refine⟨a,cap,n,f,e,fun i hi=>⟨b,off,g,o,?_,?_,?_⟩⟩
  ·rw[d (i*3) (by rw[agt];omega)];exact(ags l i hi).1
  ·rw[Nat.add_assoc,d (i*3+1) (by rw[agt];omega)];exact(ags l i hi).2.1
  ·rw[Nat.add_assoc,d (i*3+2) (by rw[agt];omega)];exact(ags l i hi).2.2
def abE(w:MO)(v:M7)(a:List Int):Prop:=XB w v a.length (WR a)
theorem abE.below{l:List Int}(h:abE w v l)(hb:MQ w.heap.size w w'):abE w' v l:=XB.below h hb
theorem amp(a:List Int)(i:Nat)(h:i<a.length):(WR a)[i]?=MI (MF ME a[i]):=by
 unfold WR;rw[List.getElem?_map,MR h];rfl
theorem abE.F6{l:List Int}(h:abE w v l):
  ∃a cap,v=MG a l.length cap/\l.length<=cap/\cap<=NE/\∀i (hi:i<l.length),∃b off,a=MI ⟨b,off,MH⟩/\b<w.heap.size/\w.cell? ⟨b,off+i,MH⟩=MI (MF ME l[i]):=by
 obtain⟨a,cap,g,e,d,f|⟨b,off,f,o,n⟩⟩:=h
 ·exact⟨a,cap,g,e,d,fun i hi=>absurd hi (by omega)⟩
 ·refine⟨a,cap,g,e,d,fun i hi=>⟨b,off,f,o,?_⟩⟩
  rw[n i (by rw[Zv];exact hi)];exact amp l i hi
theorem amq(w:MO):abE w (MG MH 0 0) []:=Z3 w
theorem Xj.Jc{n:Nat}{g:Nat}{a:List Int}{T:NU}(h:Xj T n w g a)(hn:n<=1000):abE w (MG (MI ⟨g,0,MH⟩) n n) a:=by
 refine⟨_,n,by rw[h.2],by rw[h.2];exact MV _,by unfold NE;omega,NF ⟨g,0,rfl,h.lt,fun i hi=>?_⟩⟩;rw[Oa,amp a i (by rwa[Zv]at hi)];exact h.F7 i (by rwa[Zv]at hi)
abbrev ab4(x:Ld):Prop:=(0<=x.2.1/\x.2.1<=8)/\0<=x.2.2/\x.2.2<=40
def ZW:Int->List Ld->Bool
 |_,[]=>Nw
 |n,x::l=>Nn (n<=x.1/\x.1<12/\ab4 x) && ZW (x.1+1) l
def adC(n:Int)(l:List Ld):Prop:=ZW n l=Nw
theorem amu{n:Int}{x:Ld}:adC n (x::l)↔(n<=x.1/\x.1<12/\ab4 x)/\adC (x.1+1) l:=by
 unfold adC;rw[show ZW n (x::l)=(Nn (n<=x.1/\x.1<12/\ab4 x) && ZW (x.1+1) l)from rfl,Po,decide_eq_true_eq]
def acv(l:List Ld):Prop:=l.length<=12/\adC 0 l
def abH(l:List Ld):Bool:=Nn (l.length<=12) && ZW 0 l
theorem afa:abH l=Nw↔acv l:=by
 unfold abH acv adC;rw[Po,decide_eq_true_eq]
theorem ata(h:¬acv l):abH l=false:=by
 cases hb:abH l
 ·rfl
 ·exact absurd (afa.1 hb) h
theorem afb{p:Prop} [Decidable p]{b:Bool}(h:¬p):(Nn p && b)=false:=by rw[M0 h];rfl
theorem amv{p:Prop} [Decidable p]{b:Bool}(h:p):(Nn p && b)=b:=by rw[Nq h];rfl
theorem adD:∀ {n:Int} {l:List Ld},adC n l->∀x∈l,ab4 x
 |_,[],_,x,d=>by cases d
 |_,y::l,h,x,d=>by
  have h:=amu.1 h;rcases List.mem_cons.1 d with rfl|d
  ·exact h.1.2.2
  ·exact adD h.2 x d
def Zf(l:List Ld):Int:=(l.map (·.2.1)).sum
theorem atg:Zf []=0:=rfl
theorem ath(l:List Ld)(x:Ld):Zf (l++[x])=Zf l+x.2.1:=by simp[Zf]
theorem agu:∀(l:List Ld),(∀x∈l,ab4 x)->0<=Zf l/\Zf l<=8*l.length
 | [],_=>by simp[Zf]
 |x::l,h=>by
  have d:=agu l fun y hy=>h y (NB _ hy)
  have e:=(h x (NM ..)).1;simp[Zf]at d⊢;omega
theorem amz:∀(l:List Ld),(∀x∈l,ab4 x)->∀x∈l,x.2.1<=Zf l
 | [],_,x,d=>by cases d
 |y::l,h,x,d=>by
  have f:=agu l fun y hy=>h y (NB _ hy)
  have g:=(h y (NM ..)).1;have e:Zf (y::l)=y.2.1+Zf l:=by simp[Zf]
  rw[e];rcases List.mem_cons.1 d with rfl|d
  ·omega
  ·have:=amz l (fun y hy=>h y (NB _ hy)) x d
   omega
theorem ab5(w:MO){o:Obj}:MQ w.heap.size w (w.alloc o):=(MY _ _).alloc (MV _) _
theorem aix(v:M7)(l:List Ld)(w:MO)(hv:aaR w v l) :
  Ni MK 211 #[v] w fun r w'=>r=MN (M3 (abH l))/\MQ w.heap.size w w':=by
 obtain⟨a,O,rfl,L,D,y⟩:=hv.F6;unfold NE at D;clear hv
 by_cases hbig:12<l.length
 ·have E:M6 (abH l=Nb):=ata fun h=>by have:=h.1;omega
  have C:(12:Int)<(l.length:Int):=by omega
  clear y;go_enter Tryz.func211,Tryz.ntmps211;go_wp2;go_ret;exact⟨by rw[E.out];rfl,MY _ _⟩
 ·have E:M6 (abH l=ZW 0 l):=amv (by omega)
  rw[E.out];have C:¬((12:Int)<(l.length:Int)):=by omega
  go_enter Tryz.func211,Tryz.ntmps211;go_wp2
  go_loopw [3,11] (fun nx i wr=>∃(k:Nat) (n:Int),i=MF ME k/\nx=MF ME n/\k<=l.length/\(0<=n/\n<=12)/\ZW 0 l=ZW n (l.drop k)/\MQ w.heap.size w wr) (fun _ i _=>l.length-(On i).toNat)
  case atStart=>exact⟨0,0,rfl,rfl,Nx _,⟨by omega,by omega⟩,rfl,MY _ _⟩
  case round =>
   obtain⟨k,n,rfl,rfl,S,R,f,e⟩:=hrel
   by_cases hlt:k<l.length
   ·obtain⟨s,z,rfl,g,c1,c2,c3⟩:=y k hlt
    replace c1:=(e.cell (p:=⟨s,z+k*3,MH⟩) g).trans c1;replace c2:=(e.cell (p:=⟨s,z+k*3+1,MH⟩) g).trans c2;replace c3:=(e.cell (p:=⟨s,z+k*3+2,MH⟩) g).trans c3;rw[OK hlt]at f;obtain⟨⟨d,o,u⟩,B⟩:∃x,x=l[k]:=⟨_,rfl⟩;rw[<-B]at c1 c2 c3 f;replace f:ZW 0 l=(Nn (n<=d/\d<12/\ab4 (d,o,u)) && ZW (d+1) (l.drop (k+1))):=f;have I:s<wr.heap.size:=M8 g e.size;have A:MQ w.heap.size w (wr.alloc (MP #[MF ME d,MF ME o,MF ME u] 298)):=e.alloc e.size _;have H:M6 (_/\_):=⟨f,A⟩;clear f e A B y g;have M:(k:Int)<(l.length:Int):=by omega
    cases h1:Nn (d<n)
    case true =>
     have F:M6 (ZW 0 l=Nb):=by rw[H.out.1];exact afb fun h=>by have:=M2 h1;omega
     go_wp2;go_ret;exact⟨by rw[F.out];rfl,H.out.2⟩
    cases h2:Nn (12<=d)
    case true =>
     have F:M6 (ZW 0 l=Nb):=by rw[H.out.1];exact afb fun h=>by have:=M2 h2;omega
     go_wp2;go_ret;exact⟨by rw[F.out];rfl,H.out.2⟩
    cases h3:Nn (o<0)
    case true =>
     have F:M6 (ZW 0 l=Nb):=by rw[H.out.1];exact afb fun h=>by have:=M2 h3;have:=h.2.2.1;simp at this;omega
     go_wp2;go_ret;exact⟨by rw[F.out];rfl,H.out.2⟩
    cases h4:Nn (8<o)
    case true =>
     have F:M6 (ZW 0 l=Nb):=by rw[H.out.1];exact afb fun h=>by have:=M2 h4;have:=h.2.2.1;simp at this;omega
     go_wp2;go_ret;exact⟨by rw[F.out];rfl,H.out.2⟩
    cases h5:Nn (0<=u/\u<=40)
    case false =>
     have F:M6 (ZW 0 l=Nb):=by rw[H.out.1];exact afb fun h=>Nc h5 h.2.2.2
     go_wp2_with fail
     refine(aiv _ _).mono ?_;rw[h5];rintro r w' ⟨rfl,rfl⟩;go_wp2;go_ret;exact⟨by rw[F.out];rfl,H.out.2⟩
    have F:M6 (0<=d+1/\d+1<=12/\ZW 0 l=ZW (d+1) (l.drop (k+1))):=by
     have Q:=Nc h1;have N:=Nc h2;have P:=Nc h3;have T:=Nc h4;refine⟨show 0<=d+1 by omega,show d+1<=12 by omega,?_⟩;rw[H.out.1];exact amv ⟨by omega,by omega,⟨by simp;omega,by simp;omega⟩,M2 h5⟩
    have J:-1000<=d:=by have:=Nc h1;omega
    have K:d<=1000:=by have:=Nc h2;omega
    go_wp2_with fail
    refine(aiv _ _).mono ?_;rw[h5];rintro r w' ⟨rfl,rfl⟩;go_wp2
    go_roundw
    case rel=>exact⟨k+1,d+1,by simp,rfl,hlt,⟨F.out.1,F.out.2.1⟩,F.out.2.2,H.out.2⟩
    case measure=>simp[On];omega
   ·obtain rfl:k=l.length:=by omega
    have F:M6 (ZW 0 l=Nw):=by rw[f,List.drop_length];rfl
    have G:M6 _:=e;clear y f e;go_wp2;go_ret;exact⟨by rw[F.out];rfl,G.out⟩
theorem ati(v:M7)(l:List Ld)(w:MO)(hv:aaR w v l)(hok:acv l) :
  Ni MK 213 #[v] w fun r w'=>r=MN (MF ME (Zf l))/\MQ w.heap.size w w':=by
 obtain⟨a,Q,rfl,M,E,z⟩:=hv.F6;unfold NE at E;clear hv;have R:=hok.1;have A:=adD hok.2;go_enter WC,Wn;go_wp2
 go_loopw [3,8] (fun s i wr=>∃(k:Nat),i=MF ME k/\s=MF ME (Zf (l.take k))/\k<=l.length/\MQ w.heap.size w wr) (fun _ i _=>l.length-(On i).toNat)
 case atStart=>exact⟨0,rfl,by simp[atg],Nx _,MY _ _⟩
 case round =>
  obtain⟨k,rfl,rfl,S,d⟩:=hrel
  by_cases hlt:k<l.length
  ·obtain⟨o,y,rfl,f,c1,c2,c3⟩:=z k hlt
   replace c1:=(d.cell (p:=⟨o,y+k*3,MH⟩) f).trans c1;replace c2:=(d.cell (p:=⟨o,y+k*3+1,MH⟩) f).trans c2;replace c3:=(d.cell (p:=⟨o,y+k*3+2,MH⟩) f).trans c3;have e:Zf (l.take (k+1))=Zf (l.take k)+l[k].2.1:=by rw[M9 hlt,ath]
   have g:=A l[k] (Nk hlt);obtain⟨K,D⟩:=agu (l.take k) fun x u=>A x (List.mem_of_mem_take u)
   have G:((l.take k).length:Int)<=12:=by rw[NH];omega
   obtain⟨⟨J,n,F⟩,u⟩:∃x,x=l[k]:=⟨_,rfl⟩;rw[<-u]at c1 c2 c3 e g;have P:0<=n:=g.1.1;have O:n<=8:=g.1.2;replace e:Zf (l.take (k+1))=Zf (l.take k)+n:=e;obtain⟨s,C⟩:∃s,s=Zf (l.take k):=⟨_,rfl⟩;rw[<-C]at e K D⊢;have T:s<=96:=by omega
   have L:o<wr.heap.size:=M8 f d.size;have B:MQ w.heap.size w (wr.alloc (MP #[MF ME J,MF ME n,MF ME F] 298)):=d.alloc d.size _;have H:M6 (_/\_):=⟨e,B⟩;clear e B C d u g z f D G;have N:(k:Int)<(l.length:Int):=by omega
   go_wp2
   go_roundw
   case rel=>exact⟨k+1,by simp,by rw[H.out.1],hlt,H.out.2⟩
   case measure=>simp[On];omega
  ·obtain rfl:k=l.length:=by omega
   have I:M6 _:=d;clear z d;rw[NT];go_wp2;go_ret;exact⟨rfl,I.out⟩
def adA(a b c t:Int)(x:Ld):Int:=if x.2.1=0 then 0 else agq a b c x.2.1 t
def aax(a b c:Int)(l:List Ld):List Int:=l.map (adA a b c (Zf l))
def aa3(l:List Ld)(a b c:Int):Int×List Int:=if abH l then if ab3 a b c then(0,aax a b c l)else(2,[])else(6,[])
def ami(o:Int×List Int)(w:MO)(r:Ending)(w':MO):Prop:=∃y,r=MN (Nv #[y,MF ME o.1])/\abE w' y o.2/\MQ w.heap.size w w'
theorem as4(hok:acv l)(hf:ab3 a b c){x:Ld}(hx:x∈l)(h0:x.2.1≠0):ago a b c x.2.1 (Zf l):=by
 have g:=(adD hok.2 x hx).1;have d:=amz l (adD hok.2) x hx;have f:=agu l (adD hok.2);have e:=hok.1;exact⟨hf,by omega,d,by omega⟩
def ZI(m:List Int)(k:Nat):List Int:=m.take k++Nj (m.length-k) 0
theorem amm(m:List Int)(k:Nat)(h:k<=m.length):(ZI m k).length=m.length:=by
 simp[ZI];omega
theorem aml(m:List Int)(k:Nat)(h:k<m.length):(ZI m k)[k]'(by rw[amm m k (by omega)];exact h)=0:=by
 unfold ZI;rw[List.getElem_append_right (by simp;omega)];simp
theorem amn(m:List Int)(k:Nat)(h:k<m.length):(ZI m k).set k m[k]=ZI m (k+1):=by
 unfold ZI;rw[Pw _ _ (by simp;omega)];have e:k-(m.take k).length=0:=by simp;omega
 have d:m.length-k=(m.length-(k+1))+1:=by omega
 rw[e,d,List.replicate_succ,ML,M9 h,OC];rfl
theorem asX(m:List Int)(k:Nat)(h:k<m.length)(h0:m[k]=0):ZI m k=ZI m (k+1):=by
 rw[<-amn m k h,h0];have:=aml m k h;refine(PX (by simp) fun i h1 h2=>?_);rw[Pc]
 split
 ·subst_vars;exact this
 ·rfl
theorem asV{x:Int}(h:m[k]?=MI x):(ZI m k).set k x=ZI m (k+1):=by
 obtain⟨d,rfl⟩:=List.getElem?_eq_some_iff.1 h;exact amn m k d
theorem asW(h:m[k]?=MI 0):ZI m k=ZI m (k+1):=by
 obtain⟨d,e⟩:=List.getElem?_eq_some_iff.1 h;exact asX m k d e
theorem asT(m:List Int):ZI m m.length=m:=by simp[ZI]
theorem asU(m:List Int):ZI m 0=Nj m.length 0:=by simp[ZI]
theorem atb(n:Nat)(hn:n<=40)(W:MO):(Instr.makeSlice 233 (MF ME (n:Int)) (MF ME (n:Int))).run MK W=.ok (MG (MI ⟨W.heap.size,0,MH⟩) n n) (W.alloc (MP (WR (Nj n 0)).toArray 3)):=by
 obtain⟨p,o,f,d,g⟩:=OF adB;have h:=run_makeSlice (P:=MK) W 233 3 p _ Tryz.underlying233 o f ME ME n n (by omega) (by omega) (by rw[d];omega) (by rw[g];omega) (by omega);have e:madeCells (MF ME 0).cells (n*1)=(WR (Nj n 0)).toArray:=by
  rw[P6];apply Array.toList_inj.1;exact(toList_madeCells_one (MF ME 0) n).trans (by simp[WR])
 rw[h,d,NR,e]
theorem asY(v:M7)(l:List Ld)(a b c:Int)(w:MO)(hv:aaR w v l) :
  Ni MK 163 #[v,MF ME a,MF ME b,MF ME c] w (ami (aa3 l a b c) w):=by
 obtain⟨p,ca,rfl,b5,a7,_⟩:=hv.F6;have B:M6 (_/\True):=⟨hv,trivial⟩;clear hv;unfold NE at a7;cases hok:abH l
 ·have n:aa3 l a b c=(6,[]):=by unfold aa3;rw[hok,Nf PE]
  rw[n];clear n;go_enter S2,SB
  go_wp2_with fail
  refine(aix _ l _ B.out.1).mono ?_;rw[hok];rintro r w1 ⟨rfl,d⟩;have s:M6 _:=d;clear d;go_wp2
  go_ret2
  exact⟨_,rfl,amq _,s.out⟩
 cases hf:Nn (ab3 a b c)
 ·have n:aa3 l a b c=(2,[]):=by unfold aa3;rw[Nh hok,Nf (Nc hf)]
  rw[n];clear n;go_enter S2,SB
  go_wp2_with fail
  refine(aix _ l _ B.out.1).mono ?_;rw[hok];rintro r w1 ⟨rfl,d⟩;have s:M6 _:=d;clear d
  go_wp2_with fail
  refine(aiy _ _ _ _).mono ?_;rw[hf];rintro r g ⟨rfl,rfl⟩;go_wp2
  go_ret2
  exact⟨_,rfl,amq _,s.out⟩
 have n:aa3 l a b c=(0,aax a b c l):=by unfold aa3;rw[Nh hok,Nh (M2 hf)]
 rw[n];have b0:=(afa.1 hok).1;have P:M6 (acv l/\ab3 a b c):=⟨afa.1 hok,M2 hf⟩;have z:=atb l.length (by omega);obtain⟨Z,O⟩:∃Z,Z=(WR (Nj l.length 0)).toArray:=⟨_,rfl⟩;rw[<-O]at z;have HZ:M6 _:=O;clear O n;go_enter S2,SB
 go_wp2_with fail
 refine(aix _ l _ B.out.1).mono ?_;rw[hok];rintro r w1 ⟨rfl,d⟩;have s:M6 _:=d;clear d
 go_wp2_with fail
 refine(aiy _ _ _ _).mono ?_;rw[hf];rintro r g ⟨rfl,rfl⟩;clear hok hf
 go_wp2_with fail
 refine(ati _ l _ (B.out.1.below s.out) P.out.1).mono ?_;rintro r g ⟨rfl,U⟩;have E:M6 _:=s.out.trans (U.mono s.out.size);clear U s;obtain⟨t,J⟩:∃t,t=Zf l:=⟨_,rfl⟩;rw[<-J];obtain⟨m,F⟩:∃m,m=aax a b c l:=⟨_,rfl⟩;have a0:m.length=l.length:=by rw[F];simp[aax]
 have R:∀k (h:k<l.length),m[k]?=MI (adA a b c t l[k]):=fun k h=>by
  subst F J;simp[aax,h]
 have f:M6 (_/\_/\_/\_):=⟨J,F,a0,R⟩;clear J F a0 R
 go_wp2;obtain⟨I,C⟩:∃I,I=g.alloc (MP Z 3):=⟨_,rfl⟩;have Y:MQ g.heap.size g I:=by rw[C];exact ab5 _
 have S:Xj 3 l.length I g.heap.size (ZI m 0):=by rw[C,HZ.out,asU,f.out.2.2.1];exact⟨M1 _ _,by simp⟩
 rw[<-C];have N:M6 (_/\_/\_):=⟨S,E.out.trans (Y.mono E.out.size),E.out.size⟩;clear S Y C z E
 go_loopw [31] (fun i wr=>∃(k:Nat),i=MF ME k/\k<=l.length/\Xj 3 l.length wr g.heap.size (ZI m k)/\MQ w.heap.size w wr) (fun i _=>l.length-(On i).toNat)
 case atStart=>exact⟨0,rfl,Nx _,N.out.1,N.out.2.1⟩
 case round =>
  obtain⟨k,rfl,hk,o,e⟩:=hrel
  by_cases hlt:k<l.length
  ·obtain⟨_,_,L,_,_,pa⟩:=B.out.1.F6
   obtain⟨D,Q,rfl,d,c1,c2,c3⟩:=(by injection L with L;subst L;exact pa k hlt:∃b off,p=some ⟨b,off,none⟩/\b<w.heap.size/\w.cell? ⟨b,off+k*3,none⟩=some (.int .i64 l[k].1)/\w.cell? ⟨b,off+k*3+1,none⟩=some (.int .i64 l[k].2.1)/\w.cell? ⟨b,off+k*3+2,none⟩=some (.int .i64 l[k].2.2));clear pa L;replace c1:=(e.cell (p:=⟨D,Q+k*3,MH⟩) d).trans c1;replace c2:=(e.cell (p:=⟨D,Q+k*3+1,MH⟩) d).trans c2;replace c3:=(e.cell (p:=⟨D,Q+k*3+2,MH⟩) d).trans c3;have z:m[k]?=MI (adA a b c t l[k]):=f.out.2.2.2 k hlt;have y:l[k].2.1≠0->ago a b c l[k].2.1 t:=fun h0=>by rw[f.out.1];exact as4 P.out.1 P.out.2 (Nk hlt) h0
   obtain⟨⟨x1,u,x3⟩,hx⟩:∃x,x=l[k]:=⟨_,rfl⟩;rw[<-hx]at c1 c2 c3 z y;have a9:D<wr.heap.size:=M8 d e.size;have hg:=o.lt;have a8:=o.F7 k (by rw[amm m k (by rw[f.out.2.2.1];omega),f.out.2.2.1];exact hlt);rw[aml m k (by rw[f.out.2.2.1];exact hlt)]at a8;have b6:=o.Gu k;have T:MQ w.heap.size w (wr.alloc (MP #[MF ME x1,MF ME u,MF ME x3] 298)):=e.alloc e.size _;have V:Xj 3 l.length (wr.alloc (MP #[MF ME x1,MF ME u,MF ME x3] 298)) g.heap.size (ZI m k):=o.below (ab5 _);have b7:(k:Int)<(l.length:Int):=by omega
   have H:M6 (_/\_/\_/\_/\_/\_):=⟨V,T,z,y,o,e⟩;clear V T z hx o e d y;cases h0:(u == 0)
   ·have A:u≠0:=by simpa using h0
    have y:=H.out.2.2.2.1 A;have G:M6 (m[k]?=MI (agq a b c u t)):=by
     rw[H.out.2.2.1];unfold adA;rw[Nf A];rfl
    clear A;have a5:M6 (_/\True):=⟨y,trivial⟩;clear y
    go_wp2_with fail
    refine(asS _ _ _ _ _ _ a5.out.1).mono ?_;rintro r w' ⟨rfl,rfl⟩;obtain⟨K,M⟩:∃K,K=agq a b c u t:=⟨_,rfl⟩;rw[<-M];have a6:M6 _:=M;clear M;go_wp2
    go_roundw
    case rel =>
     have h1:=H.out.2.2.2.2.1.F4 k K;rw[asV (by rw[a6.out];exact G.out)]at h1;have h2:MQ w.heap.size w (wr.setCell ⟨g.heap.size,k,MH⟩ (MF ME K)):=H.out.2.2.2.2.2.setCell (by exact N.out.2.2) _;exact⟨k+1,by simp,hlt,h1.below (ab5 _),h2.alloc h2.size _⟩
    case measure=>simp[On];omega
   ·have A:u=0:=by simpa using h0
    have G:M6 (m[k]?=MI 0):=by
     rw[H.out.2.2.1];unfold adA;rw[Nh A];rfl
    subst A;clear h0;go_wp2
    go_roundw
    case rel=>exact⟨k+1,by simp,hlt,by rw[<-asW G.out];exact H.out.1,H.out.2.1⟩
    case measure=>simp[On];omega
  ·obtain rfl:k=l.length:=by omega
   have H:M6 (_/\_):=⟨o,e⟩;clear o e;go_wp2
   go_ret2
   refine⟨_,rfl,?_,H.out.2⟩;have:=H.out.1.Jc (by omega);rw[<-f.out.2.2.1,asT]at this;rw[<-f.out.2.1];rw[f.out.2.2.1]at this;exact this
abbrev Zn:Ld:=(0,0,0)
def Yx(q:Ld->Bool):List Ld->Option Nat
 | []=>MH
 |t::l=>if q t then MI 0 else(Yx q l).map (·+1)
theorem ait{q:Ld->Bool}:∀ {l:List Ld},(∀t∈l,q t=Nb)->Yx q l=MH
 | [],_=>rfl
 |t::l,h=>by
  unfold Yx;rw[h t (by simp),ait (l:=l) fun x hx=>h x (by simp[hx])];rfl
theorem aiu{q:Ld->Bool}:∀ {l:List Ld} {k:Nat} (hk:k<l.length),(∀t∈l.take k,q t=Nb)->q l[k]=Nw->Yx q l=MI k
 |t::l,0,_,_,h=>by
  unfold Yx;rw[Nh (by simpa using h)]
 |t::l,k+1,hk,h1,h2=>by
  unfold Yx;rw[Nf (by rw[h1 t (by simp)];simp),aiu (l:=l) (k:=k) (by simpa using hk) (fun x hx=>h1 x (by simp[hx])) (by simpa using h2)];rfl
theorem agr{q:Ld->Bool}:∀ {l:List Ld} {k:Nat},Yx q l=MI k->∃hk:k<l.length,q l[k]=Nw
 | [],k,h=>by simp[Yx]at h
 |t::l,k,h=>by
  unfold Yx at h
  split at h
  case isTrue h1=>injection h with h;subst h;exact⟨by simp,h1⟩
  case isFalse h1 =>
   cases h2:Yx q l with
   |none=>rw[h2]at h;cases h
   |some j =>
    rw[h2]at h;injection h with h;subst h;obtain⟨e,d⟩:=agr h2;exact⟨by simpa using e,by simpa using d⟩
theorem amo{q:Ld->Bool}:∀ {l:List Ld},Yx q l=MH->∀t∈l,q t=Nb
 | [],_,t,d=>by simp at d
 |x::l,h,t,d=>by
  unfold Yx at h
  split at h
  case isTrue h1=>cases h
  case isFalse h1 =>
   cases h2:Yx q l with
   |none =>
    rcases List.mem_cons.1 d with rfl|d
    ·simpa using h1
    ·exact amo h2 t d
   |some j=>rw[h2]at h;cases h
def Zw(x:Ld):Bool:=x.2.1 != 0
def aa4(b:Int)(x:Ld):Bool:=(x.1 == b) && (x.2.1 != 0)
def YJ(l:List Ld)(m:List Int)(i:Nat):Bool:=Nn ((l.getD i Zn).2.2<m.getD i 0)
def Zm(l:List Ld)(m:List Int):List Int->Nat->Option Nat
 | [],_=>MH
 |b::ws,t=>match Yx (aa4 b) l with
  |none=>Zm l m ws t
  |some i=>if t=0 then MH else if YJ l m i then MI i else Zm l m ws (t-1)
theorem agp{l:List Ld}{m:List Int}:∀ {ws:List Int} {t:Nat} {i:Nat},Zm l m ws t=MI i->i<l.length/\YJ l m i=Nw/\Zw (l.getD i Zn)=Nw
 | [],t,i,h=>by cases h
 |b::ws,t,i,h=>by
  unfold Zm at h;cases h1:Yx (aa4 b) l with
  |none=>rw[h1]at h;exact agp h
  |some j =>
   rw[h1]at h;simp only at h
   split at h
   ·cases h
   ·split at h
    case isTrue h2 =>
     injection h with h;subst h;obtain⟨e,d⟩:=agr h1;refine⟨e,h2,?_⟩;unfold aa4 at d;rw[Po]at d;unfold Zw
     simpa [e]using d.2
    ·exact agp h
def acx(l:List Ld)(i j:Nat):Bool:=Nn ((l.getD i Zn).2.2*(l.getD j Zn).2.1<(l.getD j Zn).2.2*(l.getD i Zn).2.1)
def Yp(l:List Ld)(m:List Int):Nat->Option Nat
 |0=>MH
 |k+1=>if YJ l m k && (match Yp l m k with|none=>Nw|some j=>acx l k j)then MI k else Yp l m k
abbrev aed(l:List Ld)(m:List Int)(lo hi:Nat)(o:Option Nat):Prop:=match o with
 |none=>∀j,lo<=j->j<hi->YJ l m j=Nb
 |some i=>(lo<=i/\i<hi/\YJ l m i=Nw)/\∀j,lo<=j->j<hi->YJ l m j=Nw ->
   (j<i->(l.getD i Zn).2.2*(l.getD j Zn).2.1<(l.getD j Zn).2.2*(l.getD i Zn).2.1)/\(i<=j->(l.getD i Zn).2.2*(l.getD j Zn).2.1<=(l.getD j Zn).2.2*(l.getD i Zn).2.1)
theorem as1{a1 w1 a2 w2 a3 w3:Int}(p1:0<w1)(p2:0<w2)(p3:0<w3)(h1:a1*w2<a2*w1)(h2:a2*w3<=a3*w2):a1*w3<a3*w1:=by
 have f:a1*w2*w3<a2*w1*w3:=Int.mul_lt_mul_of_pos_right h1 p3;have d:a2*w3*w1<=a3*w2*w1:=Int.mul_le_mul_of_nonneg_right h2 (by omega);have e:a2*w1*w3=a2*w3*w1:=Rx _ _ _;have n:a1*w2*w3=a1*w3*w2:=Rx _ _ _;have g:a3*w2*w1=a3*w1*w2:=Rx _ _ _;exact Int.lt_of_mul_lt_mul_right (a:=w2) (by omega) (by omega)
section
variable {l:List Ld}{m:List Int}
abbrev ae8(l:List Ld)(m:List Int):Prop:=∀j,YJ l m j=Nw->0<(l.getD j Zn).2.1
theorem amk(hw:ae8 l m){o:Option Nat}(h:aed l m 0 k o)(h1:YJ l m k=Nw)(h2:∀j,o=MI j->acx l k j=Nw):aed l m 0 (k+1) (MI k):=by
 refine⟨⟨Nx _,by omega,h1⟩,fun j _ hj hr=>⟨fun hlt=>?_,fun hge=>?_⟩⟩
 ·cases o with
  |none =>
   have:=h j (Nx _) hlt;rw[this]at hr;cases hr
  |some i =>
   have n:=M2 (h2 i rfl);obtain⟨⟨_,p,f⟩,g⟩:=h;have e:=g j (Nx _) hlt hr;refine as1 (hw k h1) (hw i f) (hw j hr) n ?_;rcases Oq j i with d|d
   ·exact Int.le_of_lt (e.1 d)
   ·exact e.2 d
 ·obtain rfl:j=k:=by omega
  exact Qh _
theorem amj{o:Option Nat}(h:aed l m 0 k o)(h1:YJ l m k=Nb\/∃j,o=MI j/\acx l k j=Nb):aed l m 0 (k+1) o:=by
 cases o with
 |none =>
  intro j _ n;rcases Oq j k with d|f
  ·exact h j (Nx _) d
  ·obtain rfl:j=k:=by omega
   rcases h1 with h1|⟨_,e,_⟩
   ·exact h1
   ·cases e
 |some i =>
  obtain⟨⟨_,r,g⟩,p⟩:=h;refine⟨⟨Nx _,by omega,g⟩,fun j _ n hr=>?_⟩;rcases Oq j k with d|f
  ·exact p j (Nx _) d hr
  ·obtain rfl:j=k:=by omega
   refine⟨fun _=>by omega,fun _=>?_⟩;rcases h1 with h1|⟨q,e,h1⟩
   ·rw[h1]at hr;cases hr
   ·injection e with e
    subst e;have:=Nc h1;omega
theorem ais(hw:ae8 l m):∀k,aed l m 0 k (Yp l m k)
 |0=>fun _ _ h=>by omega
 |k+1=>by
  have d:=ais hw k;unfold Yp;cases h1:YJ l m k
  ·rw[Bool.false_and,Nf PE]
   exact amj d (Nt h1)
  ·rw[Bool.true_and]
   cases h2:Yp l m k with
   |none =>
    rw[h2]at d;rw[Nh rfl];exact amk hw d h1 (fun j e=>by cases e)
   |some i =>
    rw[h2]at d;show aed l m 0 (k+1) (if acx l k i=Nw then MI k else MI i)
    by_cases h3:acx l k i=Nw
    ·rw[Nh h3]
     exact amk hw d h1 (fun j e=>by injection e with e;subst e;exact h3)
    ·rw[Nf h3]
     exact amj d (NF ⟨i,rfl,by simpa using h3⟩)
end
def acw(l:List Ld)(m:List Int)(ws:List Int)(t:Nat):Option Nat:=match Zm l m ws t with
 |some i=>MI i
 |none=>Yp l m l.length
def abF(l:List Ld)(o:Option Nat):Int×Int:=match o with
 |some i=>((l.getD i Zn).1,0)
 |none=>(0,9)
def ab6(ws:List Int)(l:List Ld)(a b c t:Int):Int×Int :=
 if abH l then if ab3 a b c then
  if 0<=t/\t<=12/\ws.length<=12 then
   if l.any Zw then abF l (acw l (aax a b c l) ws t.toNat)else(0,11)
  else(0,2)
 else(0,2)else(0,6)
theorem asZ(a b c:Int)(l:List Ld)(i:Nat):(aax a b c l).getD i 0=if h:i<l.length then adA a b c (Zf l) l[i]else 0:=by
 unfold aax
 split
 case isTrue h=>simp[h]
 case isFalse h=>simp[Nz (Nat.le_of_not_lt h)]
theorem amw(hok:acv l):ae8 l (aax a b c l):=by
 intro j g;have d:=M2 g;rw[asZ]at d
 split at d
 case isTrue h =>
  have f:=adD hok.2 l[j] (Nk h);have e:l.getD j Zn=l[j]:=by simp[h]
  rw[e]at d⊢;unfold adA at d
  split at d
  case isTrue h0=>have:=f.2.1;omega
  case isFalse h0=>have:=f.1.1;omega
 case isFalse h =>
  have e:l.getD j Zn=Zn:=by simp[Nz (Nat.le_of_not_lt h)]
  rw[e]at d;simp[Zn]at d
theorem asN{ws:List Int}{t:Nat}(h:Yp l m l.length=MI i)(hw:ae8 l m):i<l.length/\YJ l m i=true:=by
 have:=ais hw l.length;rw[h]at this;exact⟨this.1.2.1,this.1.2.2⟩
theorem amy(x1 x2 x3:Int)(w:MO) :
  Ni MK 165 #[Ny #[MF ME x1,MF ME x2,MF ME x3]] w fun r w'=>r=MN (M3 (Zw (x1,x2,x3)))/\MQ w.heap.size w w':=by
 have d:Zw (x1,x2,x3)=(x2 != 0):=rfl;obtain⟨f,e⟩:∃f,f=Zw (x1,x2,x3):=⟨_,rfl⟩;rw[<-e]at d⊢;have H:M6 _:=d;clear d e;go_enter Tryz.func165,Tryz.ntmps165;go_wp2;go_ret;exact⟨by rw[H.out];rfl,ab5 w⟩
theorem atc(x1 x2 x3 bk:Int)(g:Nat)(w:MO)(hc:w.cell? ⟨g,0,MH⟩=MI (MF ME bk)) :
  Ni MK 216 #[Ny #[MF ME x1,MF ME x2,MF ME x3],Na (MI ⟨g,0,MH⟩)] w fun r w'=>r=MN (M3 (aa4 bk (x1,x2,x3)))/\MQ w.heap.size w w':=by
 have p:g<w.heap.size:=MX w ⟨g,0,MH⟩ hc;have e:aa4 bk (x1,x2,x3)=((x1 == bk) && Zw (x1,x2,x3)):=rfl;obtain⟨d,f⟩:∃d,d=aa4 bk (x1,x2,x3):=⟨_,rfl⟩;rw[<-f]at e⊢;have H:M6 _:=e;clear e f;cases h:(x1 == bk)
 ·have E:M6 (d=Nb):=by rw[H.out,h];rfl
  clear H;go_enter Tryz.func216,Tryz.ntmps216;go_wp2;go_ret;exact⟨by rw[E.out];rfl,ab5 w⟩
 ·have E:M6 (d=Zw (x1,x2,x3)):=by rw[H.out,h];rfl
  obtain rfl:x1=bk:=by simpa using h
  clear H h;go_enter Tryz.func216,Tryz.ntmps216
  go_wp2_with fail
  refine(amy _ _ _ _).mono ?_;rw[<-E.out];rintro r s ⟨rfl,n⟩;have o:M6 _:=(ab5 w).trans (n.mono (by simp));clear n;go_wp2;go_ret;exact⟨rfl,o.out⟩
theorem as6(v:M7)(l:List Ld)(w:MO)(hv:aaR w v l) :
  Ni MK 215 #[v,PB (PD 165) #[] #[]] w fun r w'=>r=MN (MF ME (Yn (Yx Zw l)))/\MQ w.heap.size w w':=by
 obtain⟨q,C⟩:∃q,q=Zw:=⟨_,rfl⟩;obtain⟨a,V,rfl,U,N,I⟩:=hv.F6;unfold NE at N;have M:M6 (∀(f e g:Int) (W:MO),Ni MK 165 #[Ny #[MF ME f,MF ME e,MF ME g]] W fun r w'=>r=MN (M3 (q (f,e,g)))/\MQ W.heap.size W w'):=by rw[C];exact fun f e g W=>amy f e g W
 rw[<-C];obtain⟨o,B⟩:∃o,o=Yn (Yx q l):=⟨_,rfl⟩;rw[<-B];have H:M6 _:=B;clear hv B C;go_enter Tryz.func215,Tryz.ntmps215;go_wp2
 go_loopw [8] (fun i wr=>∃k:Nat,i=MF ME k/\k<=l.length/\(∀t∈l.take k,q t=Nb)/\MQ w.heap.size w wr) (fun i _=>l.length-(On i).toNat)
 case atStart=>exact⟨0,rfl,Nx _,by simp,MY _ _⟩
 case round =>
  obtain⟨k,rfl,Y,s,n⟩:=hrel
  by_cases hlt:k<l.length
  ·obtain⟨F,K,rfl,z,c1,c2,c3⟩:=I k hlt
   have Q:=(n.cell (p:=⟨F,K+k*3,MH⟩) z).trans c1;have O:=(n.cell (p:=⟨F,K+k*3+1,MH⟩) z).trans c2;have P:=(n.cell (p:=⟨F,K+k*3+2,MH⟩) z).trans c3;have y:M6 (_/\_):=⟨s,n⟩;have T:(k:Int)<(l.length:Int):=by omega
   have D:l.take (k+1)=l.take k++[l[k]]:=M9 hlt;have E:q l[k]=Nw->Yx q l=MI k:=fun h=>aiu hlt s h
   have A:∃x,x=l[k]:=⟨_,rfl⟩;obtain⟨⟨f,e,g⟩,A⟩:=A;rw[<-A]at Q O P D E;have L:M6 (_/\_):=⟨D,E⟩;clear s n c1 c2 c3 z I D E A;cases hd:q (f,e,g)
   ·go_wp2_with fail
    refine(M.out f e g _).mono ?_;rw[hd];rintro r R ⟨rfl,u⟩;have G:M6 _:=u;clear u;go_wp2
    go_roundw
    case rel =>
     refine⟨k+1,by simp,hlt,fun t d=>?_,y.out.2.trans (G.out.mono y.out.2.size)⟩;rw[L.out.1]at d;rcases List.mem_append.1 d with d|d
     ·exact y.out.1 t d
     ·simp at d
      rw[d];exact hd
    case measure=>simp[On];omega
   ·go_wp2_with fail
    refine(M.out f e g _).mono ?_;rw[hd];rintro r R ⟨rfl,u⟩;have J:M6 (o=(k:Int)):=by show o=_;rw[H.out,L.out.2 hd];rfl
    have G:M6 _:=u;clear u;go_wp2;go_ret;exact⟨by rw[J.out];rfl,y.out.2.trans (G.out.mono y.out.2.size)⟩
  ·have J:M6 (o = -1):=by
    show o=_;rw[H.out,ait fun t d=>s t (by rw[N1 (by omega)];exact d)];rfl
   have S:M6 _:=n;clear s n I;go_wp2;go_ret;exact⟨by rw[J.out];rfl,S.out⟩
theorem as5(v:M7)(l:List Ld)(bk:Int)(g:Nat)(w:MO)(hv:aaR w v l)(hc:w.cell? ⟨g,0,MH⟩=MI (MF ME bk)) :
  Ni MK 215 #[v,PB (PD 216) #[] #[Na (MI ⟨g,0,MH⟩)]] w fun r w'=>r=MN (MF ME (Yn (Yx (aa4 bk) l)))/\MQ w.heap.size w w':=by
 obtain⟨q,D⟩:∃q,q=aa4 bk:=⟨_,rfl⟩;obtain⟨a,Z,rfl,Y,P,J⟩:=hv.F6;unfold NE at P;have O:=MX w ⟨g,0,MH⟩ hc;have N:M6 (∀(f e n:Int) (W:MO),MQ w.heap.size w W->Ni MK 216 #[Ny #[MF ME f,MF ME e,MF ME n],Na (MI ⟨g,0,MH⟩)] W fun r w'=>r=MN (M3 (q (f,e,n)))/\MQ W.heap.size W w'):=by
  rw[D];exact fun f e n W hb=>atc f e n bk g W ((hb.cell (p:=⟨g,0,MH⟩) O).trans hc)
 rw[<-D];obtain⟨u,C⟩:∃u,u=Yn (Yx q l):=⟨_,rfl⟩;rw[<-C];have H:M6 _:=C;clear hv C D hc;go_enter Tryz.func215,Tryz.ntmps215;go_wp2
 go_loopw [8] (fun i wr=>∃k:Nat,i=MF ME k/\k<=l.length/\(∀t∈l.take k,q t=Nb)/\MQ w.heap.size w wr) (fun i _=>l.length-(On i).toNat)
 case atStart=>exact⟨0,rfl,Nx _,by simp,MY _ _⟩
 case round =>
  obtain⟨k,rfl,hk,y,o⟩:=hrel
  by_cases hlt:k<l.length
  ·obtain⟨G,L,rfl,A,c1,c2,c3⟩:=J k hlt
   have S:=(o.cell (p:=⟨G,L+k*3,MH⟩) A).trans c1;have Q:=(o.cell (p:=⟨G,L+k*3+1,MH⟩) A).trans c2;have R:=(o.cell (p:=⟨G,L+k*3+2,MH⟩) A).trans c3;have s:M6 (_/\_):=⟨y,o⟩;have V:(k:Int)<(l.length:Int):=by omega
   have E:l.take (k+1)=l.take k++[l[k]]:=M9 hlt;have F:q l[k]=Nw->Yx q l=MI k:=fun h=>aiu hlt y h
   have B:∃x,x=l[k]:=⟨_,rfl⟩;obtain⟨⟨f,e,n⟩,B⟩:=B;rw[<-B]at S Q R E F;have M:M6 (_/\_):=⟨E,F⟩;clear y o c1 c2 c3 A J E F B;cases hd:q (f,e,n)
   ·go_wp2_with fail
    refine(N.out f e n _ s.out.2).mono ?_;rw[hd];rintro r T ⟨rfl,z⟩;have I:M6 _:=z;clear z;go_wp2
    go_roundw
    case rel =>
     refine⟨k+1,by simp,hlt,fun t d=>?_,s.out.2.trans (I.out.mono s.out.2.size)⟩;rw[M.out.1]at d;rcases List.mem_append.1 d with d|d
     ·exact s.out.1 t d
     ·simp at d
      rw[d];exact hd
    case measure=>simp[On];omega
   ·go_wp2_with fail
    refine(N.out f e n _ s.out.2).mono ?_;rw[hd];rintro r T ⟨rfl,z⟩;have K:M6 (u=(k:Int)):=by show u=_;rw[H.out,M.out.2 hd];rfl
    have I:M6 _:=z;clear z;go_wp2;go_ret;exact⟨by rw[K.out];rfl,s.out.2.trans (I.out.mono s.out.2.size)⟩
  ·have K:M6 (u = -1):=by
    show u=_;rw[H.out,ait fun t d=>y t (by rw[N1 (by omega)];exact d)];rfl
   have U:M6 _:=o;clear y o J;go_wp2;go_ret;exact⟨by rw[K.out];rfl,U.out⟩
theorem as3:l.any Zw=Nn (0<=Yn (Yx Zw l)):=by
 cases h:Yx Zw l with
 |none =>
  rw[show l.any Zw=Nb from List.any_eq_false.2 fun x hx=>by simp[amo h x hx]];rfl
 |some k =>
  obtain⟨d,e⟩:=agr h;rw[show l.any Zw=Nw from List.any_eq_true.2 ⟨l[k],Nk d,e⟩];exact(Nq (show(0:Int)<=Yn (MI k)from Int.natCast_nonneg k)).symm
theorem as0(v:M7)(l:List Ld)(w:MO)(hv:aaR w v l) :
  Ni MK 164 #[v,PB (PD 165) #[] #[]] w fun r w'=>r=MN (M3 (l.any Zw))/\MQ w.heap.size w w':=by
 obtain⟨a,s,rfl,_,_,_⟩:=hv.F6;have d:M6 (_/\_):=⟨hv,as3 (l:=l)⟩;clear hv;obtain⟨f,e⟩:∃f,f=l.any Zw:=⟨_,rfl⟩;rw[<-e]at d⊢;clear e;go_enter ayS,ayI
 go_wp2_with fail
 refine(as6 _ l _ d.out.1).mono ?_;obtain⟨i,n⟩:∃i,i=Yn (Yx Zw l):=⟨_,rfl⟩;rw[<-n]at d⊢;clear n;rintro r p ⟨rfl,g⟩;have o:M6 _:=g;clear g;go_wp2;go_ret;exact⟨by rw[d.out.2];rfl,o.out⟩
def adz(w:MO)(gl gc:Nat)(v u:M7)(l:List Ld)(m:List Int):Prop :=
 w.cell? ⟨gl,0,MH⟩=MI v/\w.cell? ⟨gc,0,MH⟩=MI u/\aaR w v l/\abE w u m
theorem adz.below{gl gc:Nat}{u:M7}(h:adz w gl gc v u l m)(hb:MQ w.heap.size w w'):adz w' gl gc v u l m :=
 ⟨(hb.cell (p:=⟨gl,0,MH⟩) (MX w ⟨gl,0,MH⟩ h.1)).trans h.1,(hb.cell (p:=⟨gc,0,MH⟩) (MX w ⟨gc,0,MH⟩ h.2.1)).trans h.2.1,h.2.2.1.below hb,h.2.2.2.below hb⟩
theorem amx(i:Nat)(gl gc:Nat)(v u:M7)(l:List Ld)(m:List Int)(w:MO)(he:adz w gl gc v u l m)(hml:m.length=l.length)(hi:i<l.length) :
  Ni MK 166 #[MF ME (i:Int),Na (MI ⟨gl,0,MH⟩),Na (MI ⟨gc,0,MH⟩)] w fun r w'=>r=MN (M3 (YJ l m i))/\MQ w.heap.size w w':=by
 obtain⟨F,M,o,n⟩:=he;obtain⟨p,c,rfl,J,z,g⟩:=o.F6;obtain⟨H,c2,rfl,A,x,d⟩:=n.F6;obtain⟨I,D,rfl,y,_,_,K⟩:=g i hi;obtain⟨G,E,rfl,s,L⟩:=d i (by omega);unfold NE at z x;have e:YJ l m i=Nn (l[i].2.2<m[i]'(by omega)):=by
  unfold YJ;simp[hi,show i<m.length by omega]
 rw[e];generalize l[i].2.2=f at *;generalize (m[i]'(by omega))=cp at *;have C:(i:Int)<(l.length:Int):=by omega
 have B:(i:Int)<(m.length:Int):=by omega
 clear e g d o n y s hml;go_enter VQ,VI;go_wp2
 go_region
 go_wp2;go_ret;exact⟨rfl,(MY _ _).drew⟩
theorem asQ(hk:k<ws.length)(h:Yx (aa4 ws[k]) l=MH):Zm l m (ws.drop k) t=Zm l m (ws.drop (k+1)) t:=by
 rw[OK hk,Zm,h]
theorem asR(hk:k<ws.length)(h:Yx (aa4 ws[k]) l=MI i):Zm l m (ws.drop k) 0=none:=by
 rw[OK hk,Zm,h];simp
theorem asO(hk:k<ws.length)(h:Yx (aa4 ws[k]) l=MI i)(ht:t≠0)(hr:YJ l m i=Nw):Zm l m (ws.drop k) t=MI i:=by
 rw[OK hk,Zm,h];simp[ht,hr]
theorem asP(hk:k<ws.length)(h:Yx (aa4 ws[k]) l=MI i)(hr:YJ l m i=Nb):Zm l m (ws.drop k) (t+1)=Zm l m (ws.drop (k+1)) t:=by
 rw[OK hk,Zm,h];simp[hr]
theorem asM(y v u:M7)(ws:List Int)(l:List Ld)(m:List Int)(t gl gc:Nat)(w:MO)(hy:abE w y ws)(he:adz w gl gc v u l m)(hml:m.length=l.length)(ht:t<=12) :
  Ni MK 167 #[y,v,MF ME (t:Int),PB (PD 166) #[] #[Na (MI ⟨gl,0,MH⟩),Na (MI ⟨gc,0,MH⟩)]] w fun r w'=>r=MN (MF ME (Yn (Zm l m ws t)))/\MQ w.heap.size w w':=by
 obtain⟨py,cy,rfl,a9,a0,Y⟩:=hy.F6;obtain⟨pv,cv,rfl,_,_,_⟩:=he.2.2.1.F6;unfold NE at a0;obtain⟨g,e⟩:∃g,g=Zm l m ws t:=⟨_,rfl⟩;rw[<-e];have C:M6 (_/\_/\_):=⟨he,hml,Y⟩;have HA:M6 _:=e;clear he hml Y hy e;go_enter Tryz.func167,Tryz.ntmps167;go_wp2
 go_step3
 go_wp2
 go_step3
 go_wp2
 go_loopw [2,9,15] (fun s f i wr=>∃(k n:Nat),i=MF ME k/\s=MF ME (n:Int)/\f=MF ME (-1)/\k<=ws.length/\n<=12/\g=Zm l m (ws.drop k) n/\MQ w.heap.size w wr) (fun _ _ i _=>ws.length-(On i).toNat)
 case atStart=>exact⟨0,t,rfl,rfl,rfl,Nx _,ht,by rw[HA.out];rfl,MY _ _⟩
 case round =>
  obtain⟨k,n,rfl,rfl,rfl,hk,hn,e,B⟩:=hrel
  by_cases hlt:k<ws.length
  ·obtain⟨V,o1,rfl,M,c1⟩:=C.out.2.2 k hlt
   replace c1:=(B.cell (p:=⟨V,o1+k,MH⟩) M).trans c1;have a8:V<wr.heap.size:=M8 M B.size;have a7:(k:Int)<(ws.length:Int):=by omega
   have J:=fun h=>asQ (l:=l) (m:=m) (t:=n) hlt h
   have K:=fun i h=>asR (l:=l) (m:=m) (i:=i) hlt h
   have I:=fun i h=>asO (l:=l) (m:=m) (t:=n) (i:=i) hlt h
   have L:=fun i j h=>asP (l:=l) (m:=m) (t:=j) (i:=i) hlt h
   obtain⟨x,Z⟩:∃x,x=ws[k]:=⟨_,rfl⟩;rw[<-Z]at c1 J K I L;obtain⟨G,F⟩:∃G,G=wr.alloc (MP #[MF ME x] 3):=⟨_,rfl⟩;have T:MQ wr.heap.size wr G:=by rw[F];exact ab5 _
   have R:G.cell? ⟨wr.heap.size,0,MH⟩=MI (MF ME x):=by rw[F];exact(MW _ wr.heap.size 0 _ 3 (0,0) (M1 wr _)).trans rfl
   have H:=B.trans (T.mono B.size);have U:=C.out.1.below H;have z:M6 (_/\_/\_/\_):=⟨F,R,H,U⟩;have o:M6 (_/\_/\_/\_/\_):=⟨J,K,I,L,e⟩;clear J K I L Z F T R H U B M e
   go_wp2_with fail
   rw[<-z.out.1];refine(as5 _ l x wr.heap.size _ z.out.2.2.2.2.2.1 z.out.2.1).mono ?_;cases hf:Yx (aa4 x) l with
   |none =>
    rintro r Q ⟨rfl,D⟩;have d:M6 (MQ w.heap.size w Q/\g=Zm l m (ws.drop (k+1)) n):=⟨z.out.2.2.1.trans (D.mono z.out.2.2.1.size),by rw[o.out.2.2.2.2];exact o.out.1 hf⟩;clear D hf;rw[show Yn MH = -1 from rfl];go_wp2
    go_roundw
    case rel=>exact⟨k+1,n,by simp,rfl,rfl,hlt,hn,d.out.2,d.out.1⟩
    case measure=>simp[On];omega
   |some i =>
    rintro r Q ⟨rfl,D⟩;have d:M6 (MQ w.heap.size w Q):=z.out.2.2.1.trans (D.mono z.out.2.2.1.size);have S:=(agr hf).1;have O:M6 _:=hf;clear D hf;rw[show Yn (MI i)=(i:Int)from rfl];have a5:¬((i:Int)<0):=by omega
    cases n with
    |zero =>
     have A:M6 (g=MH):=by rw[o.out.2.2.2.2];exact o.out.2.1 i O.out
     go_wp2;rw[Sb];go_ret;exact⟨by rw[A.out];rfl,d.out⟩
    |succ n =>
     have a6:(((n+1:Nat):Int) == 0)=false:=by rw[Oh];omega
     cases hr:YJ l m i
     ·have A:M6 (g=Zm l m (ws.drop (k+1)) n):=by rw[o.out.2.2.2.2];exact o.out.2.2.2.1 i n O.out hr
      go_wp2_with fail
      refine(amx i gl gc _ u l m _ (C.out.1.below d.out) C.out.2.1 S).mono ?_;rw[hr];rintro r N ⟨rfl,E⟩;have P:M6 (MQ w.heap.size w N):=d.out.trans (E.mono d.out.size);clear E;go_wp2
      go_roundw
      case rel=>exact⟨k+1,n,by simp,by simp,rfl,hlt,by omega,A.out,P.out⟩
      case measure=>simp[On];omega
     ·have A:M6 (g=MI i):=by rw[o.out.2.2.2.2];exact o.out.2.2.1 i O.out (by omega) hr
      go_wp2_with fail
      refine(amx i gl gc _ u l m _ (C.out.1.below d.out) C.out.2.1 S).mono ?_;rw[hr];rintro r N ⟨rfl,E⟩;have P:M6 (MQ w.heap.size w N):=d.out.trans (E.mono d.out.size);clear E;go_wp2;rw[Sb];go_ret;exact⟨by rw[A.out];rfl,P.out⟩
  ·have A:M6 (g=MH):=by
    rw[e,List.drop_of_length_le (by omega)];rfl
   have d:M6 _:=B;clear e B;go_wp2;rw[Sb];go_ret;exact⟨by rw[A.out];rfl,d.out⟩
section
open Go.Sort (grow grow_empty grow_grow alloc_eq_grow cell?_grow heap_grow_old)
theorem ae9(w:MO)(q:Nat)(os:Array Obj):MQ w.heap.size w (Oj (w.drewN q) os):=
 ⟨rfl,rfl,rfl,by simp[Oj,World.drewN],fun k hk=>heap_grow_old (w.drewN q) os hk⟩
theorem as7(x1 x2 x3 y1 y2 y3:Int)(w:MO)(hx:ab4 (x1,x2,x3))(hy:ab4 (y1,y2,y3)) :
  Ni MK 217 #[Ny #[MF ME x1,MF ME x2,MF ME x3],Ny #[MF ME y1,MF ME y2,MF ME y3]] w fun r w'=>r=MN (M3 (Nn (x3*y2<y3*x2)))/\∃q os,w'=Oj (w.drewN q) os:=by
 obtain⟨⟨d,s⟩,f,p⟩:=hx;obtain⟨⟨e,n⟩,g,o⟩:=hy;simp only at d s f p e n g o;have z:0<=x3*y2:=Int.mul_nonneg f e;have x:x3*y2<=40*8:=Px p n e (by omega);have y:0<=y3*x2:=Int.mul_nonneg g d;have u:y3*x2<=40*8:=Px o s d (by omega);clear d s f p e n g o;go_enter RZ,RM;go_wp2;go_ret;refine⟨rfl,0,#[MP #[MF ME x1,MF ME x2,MF ME x3] 298,MP #[MF ME y1,MF ME y2,MF ME y3] 298],?_⟩;rw[PQ,PQ,grow_grow];rfl
theorem atf(i:Nat)(gl gc:Nat)(v u:M7)(l:List Ld)(m:List Int)(w:MO)(he:adz w gl gc v u l m)(hml:m.length=l.length)(hi:i<l.length) :
  Ni MK 166 #[MF ME (i:Int),Na (MI ⟨gl,0,MH⟩),Na (MI ⟨gc,0,MH⟩)] w fun r w'=>r=MN (M3 (YJ l m i))/\∃q os,w'=Oj (w.drewN q) os:=by
 obtain⟨F,M,o,n⟩:=he;obtain⟨p,c,rfl,J,z,g⟩:=o.F6;obtain⟨H,c2,rfl,A,x,d⟩:=n.F6;obtain⟨I,D,rfl,y,_,_,K⟩:=g i hi;obtain⟨G,E,rfl,s,L⟩:=d i (by omega);unfold NE at z x;have e:YJ l m i=Nn (l[i].2.2<m[i]'(by omega)):=by
  unfold YJ;simp[hi,show i<m.length by omega]
 rw[e];generalize l[i].2.2=f at *;generalize (m[i]'(by omega))=cp at *;have C:(i:Int)<(l.length:Int):=by omega
 have B:(i:Int)<(m.length:Int):=by omega
 clear e g d o n y s hml;go_enter VQ,VI;go_wp2
 go_region
 go_wp2;go_ret;exact⟨rfl,1,#[],by rw[grow_empty];rfl⟩
theorem amt(h:YJ l m k=Nb):Yp l m (k+1)=Yp l m k:=by
 rw[Yp,h];rfl
theorem amr(h:YJ l m k=Nw)(h2:Yp l m k=MH):Yp l m (k+1)=MI k:=by
 rw[Yp,h,h2];rfl
theorem ams{j:Nat}(h:YJ l m k=Nw)(h2:Yp l m k=MI j):Yp l m (k+1)=if acx l k j then MI k else MI j:=by
 rw[Yp,h,h2];rfl
theorem aiw{l:List Ld}{m:List Int}:∀ {k j:Nat},Yp l m k=MI j->j<k
 |0,j,h=>by cases h
 |k+1,j,h=>by
  cases hr:YJ l m k
  ·rw[amt hr]at h
   have:=aiw h;omega
  ·cases ho:Yp l m k with
   |none =>
    rw[amr hr ho]at h;injection h with h;omega
   |some i =>
    have d:=aiw ho;rw[ams hr ho]at h
    split at h <;> (injection h with h;omega)
theorem as8(v u:M7)(l:List Ld)(m:List Int)(gl gc:Nat)(w:MO)(he:adz w gl gc v u l m)(hml:m.length=l.length)(hok:∀x∈l,ab4 x) :
  Ni MK 168 #[v,PB (PD 166) #[] #[Na (MI ⟨gl,0,MH⟩),Na (MI ⟨gc,0,MH⟩)]] w fun r w'=>r=MN (MF ME (Yn (Yp l m l.length)))/\MQ w.heap.size w w':=by
 have XY:=XY;obtain⟨pv,cv,rfl,b9,b7,pa⟩:=he.2.2.1.F6;unfold NE at b7;obtain⟨b5,Y⟩:∃b5,b5=Yp l m l.length:=⟨_,rfl⟩;rw[<-Y];have H:M6 (_/\_/\_/\_):=⟨he,hml,pa,hok⟩;have HA:M6 _:=Y;clear he hml pa hok Y;go_enter SS,Sw;go_wp2
 go_loopw [5,10] (fun f i wr=>∃(k:Nat),i=MF ME k/\f=MF ME (Yn (Yp l m k))/\k<=l.length/\MQ w.heap.size w wr) (fun _ i _=>l.length-(On i).toNat)
 case atStart=>exact⟨0,rfl,rfl,Nx _,MY _ _⟩
 case round =>
  obtain⟨k,rfl,rfl,hk,C⟩:=hrel
  by_cases hlt:k<l.length
  ·obtain⟨z,B,rfl,G,c1,c2,c3⟩:=H.out.2.2.1 k hlt
   have b6:=G;replace c1:=(C.cell (p:=⟨z,B+k*3,MH⟩) G).trans c1;replace c2:=(C.cell (p:=⟨z,B+k*3+1,MH⟩) G).trans c2;replace c3:=(C.cell (p:=⟨z,B+k*3+2,MH⟩) G).trans c3;have c4:z<wr.heap.size:=M8 G C.size;have c0:(k:Int)<(l.length:Int):=by omega
   have a0:=H.out.2.2.2 l[k] (Nk hlt);have a9:l.getD k Zn=l[k]:=by simp[hlt]
   obtain⟨⟨M,L,N⟩,hx⟩:∃x,x=l[k]:=⟨_,rfl⟩;rw[<-hx]at c1 c2 c3 a0 a9;obtain⟨d,Q⟩:∃d,d=wr.alloc (MP #[MF ME M,MF ME L,MF ME N] 298):=⟨_,rfl⟩;have b0:MQ wr.heap.size wr d:=by rw[Q];exact ab5 _
   have I:d.heap[wr.heap.size]?=MI (MP #[MF ME M,MF ME L,MF ME N] 298 (0,0)):=by rw[Q];exact M1 _ _
   have a8:MQ w.heap.size w d:=C.trans (b0.mono C.size);have V:wr.heap.size<d.heap.size:=(Array.getElem?_eq_some_iff.1 I).1;have T:∀n os,(Oj (d.drewN n) os).cell? ⟨wr.heap.size,0,MH⟩=MI (MF ME M):=Ob V (by simp[Nl,I]);have R:∀n os,(Oj (d.drewN n) os).cell? ⟨wr.heap.size,1,MH⟩=MI (MF ME L):=Ob V (by simp[Nl,I]);have S:∀n os,(Oj (d.drewN n) os).cell? ⟨wr.heap.size,2,MH⟩=MI (MF ME N):=Ob V (by simp[Nl,I]);have e:M6 (_/\_/\_/\_):=⟨Q,a8,a0,a9⟩;have J:M6 (∀n os,Ni MK 166 #[MF ME (k:Int),Na (MI ⟨gl,0,MH⟩),Na (MI ⟨gc,0,MH⟩)] (Oj (d.drewN n) os) fun r w'=>r=MN (M3 (YJ l m k))/\∃q' os',w'=Oj ((Oj (d.drewN n) os).drewN q') os'):=
    fun n os=>atf k gl gc _ u l m _ ((H.out.1.below a8).below (ae9 d n os)) H.out.2.1 hlt
   clear hx Q b0 I a8 a0 a9 G;cases hr:YJ l m k
   ·have F:M6 _:=J.out
    rw[hr]at F;have A:M6 (Yp l m (k+1)=Yp l m k):=amt hr;obtain⟨f,hf⟩:∃f,f=Yn (Yp l m k):=⟨_,rfl⟩;rw[<-hf];have HF:M6 _:=hf;clear hf J T R S
    go_wp2_with fail
    rw[<-e.out.1];refine NQ XY (by kernel_rfl) ?_
    repeat (first|go_big_quiet_skip|quiet_step (first|(go_at_call 166;exact NZ (F.out _ _))))
    refine Oy ?_;intro _ E;obtain⟨⟨o,g⟩,D⟩:=E;subst D;have s:M6 (MQ w.heap.size w (Oj (d.drewN o) g)):=e.out.2.1.trans ((ae9 d o g).mono e.out.2.1.size);generalize Oj (d.drewN o) g=w3 at s⊢;go_wp2
    go_roundw
    case rel=>exact⟨k+1,by simp,by rw[A.out,HF.out],hlt,s.out⟩
    case measure=>simp[On];omega
   ·have F:M6 _:=J.out
    rw[hr]at F;cases ho:Yp l m k with
    |none =>
     have A:M6 (Yp l m (k+1)=MI k):=amr hr ho;rw[show Yn MH = -1 from rfl];clear J T R S ho
     go_wp2_with fail
     rw[<-e.out.1];refine NQ XY (by kernel_rfl) ?_
     repeat (first|go_big_quiet_skip|quiet_step (first|(go_at_call 166;exact NZ (F.out _ _))))
     refine Oy ?_;intro _ E;obtain⟨⟨o,g⟩,D⟩:=E;subst D;have s:M6 (MQ w.heap.size w (Oj (d.drewN o) g)):=e.out.2.1.trans ((ae9 d o g).mono e.out.2.1.size);generalize Oj (d.drewN o) g=w3 at s⊢;go_wp2
     go_roundw
     case rel=>exact⟨k+1,by simp,by rw[A.out];rfl,hlt,s.out⟩
     case measure=>simp[On];omega
    |some j =>
     have b8:=aiw ho;have a7:j<l.length:=by omega
     have hN:=ams hr ho;have a6:l.getD j Zn=l[j]:=by simp[a7]
     have Z:=H.out.2.2.2 l[j] (Nk a7);obtain⟨b2,o2,O,K,d1,d2,d3⟩:=H.out.2.2.1 j a7;injection O with O;injection O with O e3;subst O e3;have U:z<d.heap.size:=M8 K e.out.2.1.size;obtain⟨⟨y1,y2,y3⟩,hy⟩:∃y,y=l[j]:=⟨_,rfl⟩;rw[<-hy]at d1 d2 d3 a6 Z;have j1:∀n os,(Oj (d.drewN n) os).cell? ⟨z,B+j*3,MH⟩=MI (MF ME y1):=Ob U ((e.out.2.1.cell (p:=⟨z,B+j*3,MH⟩) K).trans d1);have j2:∀n os,(Oj (d.drewN n) os).cell? ⟨z,B+j*3+1,MH⟩=MI (MF ME y2):=Ob U ((e.out.2.1.cell (p:=⟨z,B+j*3+1,MH⟩) K).trans d2);have j3:∀n os,(Oj (d.drewN n) os).cell? ⟨z,B+j*3+2,MH⟩=MI (MF ME y3):=Ob U ((e.out.2.1.cell (p:=⟨z,B+j*3+2,MH⟩) K).trans d3);have P:M6 (∀W,Ni MK 217 #[Ny #[MF ME M,MF ME L,MF ME N],Ny #[MF ME y1,MF ME y2,MF ME y3]] W fun r w'=>r=MN (M3 (acx l k j))/\∃q os,w'=Oj (W.drewN q) os):=fun W=>by
      unfold acx;rw[e.out.2.2.2,a6];exact as7 M L N y1 y2 y3 W e.out.2.2.1 Z
     have A:M6 _:=hN;rw[show Yn (MI j)=(j:Int)from rfl];have c6:(0:Int)<=(j:Int):=by omega
     have c5:(j:Int)<(l.length:Int):=by omega
     clear a6 Z hy d1 d2 d3 K b6 hN ho J;cases hs:acx l k j
     ·rw[hs]at A P
      have a5:M6 (Yp l m (k+1)=MI j):=A.out;clear A
      go_wp2_with fail
      rw[<-e.out.1];refine NQ XY (by kernel_rfl) ?_
      repeat (first|go_big_quiet_skip|quiet_step (first|(go_at_call 166;exact NZ (F.out _ _))|(go_at_call 217;exact NZ (P.out _))))
      refine Oy ?_;intro _ E;obtain⟨⟨o,g⟩,D⟩:=E;subst D;have s:M6 (MQ w.heap.size w (Oj (d.drewN o) g)):=e.out.2.1.trans ((ae9 d o g).mono e.out.2.1.size);generalize Oj (d.drewN o) g=w3 at s⊢;clear T R S j1 j2 j3;go_wp2
      go_roundw
      case rel=>exact⟨k+1,by simp,by rw[a5.out];rfl,hlt,s.out⟩
      case measure=>simp[On];omega
     ·rw[hs]at A P
      have a5:M6 (Yp l m (k+1)=MI k):=A.out;clear A
      go_wp2_with fail
      rw[<-e.out.1];refine NQ XY (by kernel_rfl) ?_
      repeat (first|go_big_quiet_skip|quiet_step (first|(go_at_call 166;exact NZ (F.out _ _))|(go_at_call 217;exact NZ (P.out _))))
      refine Oy ?_;intro _ E;obtain⟨⟨o,g⟩,D⟩:=E;subst D;have s:M6 (MQ w.heap.size w (Oj (d.drewN o) g)):=e.out.2.1.trans ((ae9 d o g).mono e.out.2.1.size);generalize Oj (d.drewN o) g=w3 at s⊢;clear T R S j1 j2 j3;go_wp2
      go_roundw
      case rel=>exact⟨k+1,by simp,by rw[a5.out];rfl,hlt,s.out⟩
      case measure=>simp[On];omega
  ·obtain rfl:k=l.length:=by omega
   rw[<-HA.out];have s:M6 _:=C;clear C;go_wp2;go_ret;exact⟨rfl,s.out⟩
end
theorem ami.Ga{o:Int×List Int}{r:Ending}(h:ami o w r w'):∃p c,r=MN (Nv #[MG p o.2.length c,MF ME o.1])/\abE w' (MG p o.2.length c) o.2/\MQ w.heap.size w w':=by
 obtain⟨y,rfl,d,e⟩:=h;obtain⟨p,c,rfl,_⟩:=d.F6;exact⟨p,c,rfl,d,e⟩
theorem as9(hw:ae8 l m)(h:Yp l m l.length=MI i):i<l.length/\YJ l m i=true:=by
 have:=ais hw l.length;rw[h]at this;exact⟨this.1.2.1,this.1.2.2⟩
theorem atd(y v:M7)(ws:List Int)(l:List Ld)(a b c t:Int)(w:MO)(hy:abE w y ws)(hv:aaR w v l) :
  Ni MK 120 #[y,v,MF ME a,MF ME b,MF ME c,MF ME t] w fun r w'=>r=MN (Nv #[MF ME (ab6 ws l a b c t).1,MF ME (ab6 ws l a b c t).2])/\MQ w.heap.size w w':=by
 obtain⟨py,cy,rfl,_,c7,_⟩:=hy.F6;obtain⟨P,cv,rfl,_,c9,_⟩:=hv.F6;unfold NE at c7 c9;obtain⟨g,f,a0⟩:∃g f,ab6 ws l a b c t=(g,f):=⟨_,_,rfl⟩;rw[a0];obtain⟨L,T⟩:∃L,L=w.alloc (MP #[MG P l.length cv] 246):=⟨_,rfl⟩;have U:MQ w.heap.size w L:=by rw[T];exact ab5 _
 have a5:L.cell? ⟨w.heap.size,0,MH⟩=MI (MG P l.length cv):=by rw[T];exact(MW _ w.heap.size 0 _ 246 (0,0) (M1 w _)).trans rfl
 have a8:w.heap.size<L.heap.size:=MX L _ a5;have o:M6 (_/\_/\_/\_/\_):=⟨T,U,a5,hv.below U,hy.below U⟩;have V:M6 (_/\True):=⟨a0,trivial⟩;clear T U a5 hv hy a0;go_enter Tryz.func120,Tryz.ntmps120
 go_wp2_with fail
 rw[<-o.out.1];refine(asY _ l a b c _ o.out.2.2.2.1).mono ?_;rintro r z b8;obtain⟨p1,c1,rfl,K,u⟩:=b8.Ga;clear b8;cases hok:abH l
 ·have E:aa3 l a b c=(6,[]):=by unfold aa3;rw[hok,Nf PE]
  have d:M6 (g=0/\f=6):=by
   have h:=V.out.1;unfold ab6 at h;rw[hok,Nf PE]at h;injection h with h1 h2;exact⟨h1.symm,h2.symm⟩
  rw[E];have n:M6 _:=o.out.2.1.trans (u.mono o.out.2.1.size);clear K u E hok;go_wp2
  go_ret2
  exact⟨by rw[d.out.1,d.out.2];rfl,n.out.alloc n.out.size _⟩
 by_cases hf:ab3 a b c
 case neg =>
  have E:aa3 l a b c=(2,[]):=by unfold aa3;rw[Nh hok,Nf hf]
  have d:M6 (g=0/\f=2):=by
   have h:=V.out.1;unfold ab6 at h;rw[Nh hok,Nf hf]at h;injection h with h1 h2;exact⟨h1.symm,h2.symm⟩
  rw[E];have n:M6 _:=o.out.2.1.trans (u.mono o.out.2.1.size);clear K u E hok hf;go_wp2
  go_ret2
  exact⟨by rw[d.out.1,d.out.2];rfl,n.out.alloc n.out.size _⟩
 have E:aa3 l a b c=(0,aax a b c l):=by unfold aa3;rw[Nh hok,Nh hf]
 rw[E]at K⊢;have hL:=afa.1 hok;have a7:=amw (a:=a) (b:=b) (c:=c) hL;obtain⟨m,Z⟩:∃m,m=aax a b c l:=⟨_,rfl⟩;have b5:m.length=l.length:=by rw[Z];simp[aax]
 rw[<-Z]at K a7⊢;have hp:ab6 ws l a b c t=if 0<=t/\t<=12/\ws.length<=12 then if l.any Zw then abF l (acw l m ws t.toNat)else(0,11)else(0,2):=by
  unfold ab6;rw[Nh hok,Nh hf,<-Z]
 rw[V.out.1]at hp;have a6:=o.out.2.1.trans (u.mono o.out.2.1.size);have b7:=(u.cell (p:=⟨w.heap.size,0,MH⟩) a8).trans o.out.2.2.1;obtain⟨Q,S⟩:∃Q,Q=z.alloc (MP #[MG p1 m.length c1] 233):=⟨_,rfl⟩;have J:MQ z.heap.size z Q:=by rw[S];exact ab5 _
 have b6:Q.cell? ⟨z.heap.size,0,MH⟩=MI (MG p1 m.length c1):=by rw[S];exact(MW _ z.heap.size 0 _ 233 (0,0) (M1 z _)).trans rfl
 have c5:w.heap.size<z.heap.size:=M8 a8 u.size;have b9:adz Q w.heap.size z.heap.size (MG P l.length cv) (MG p1 m.length c1) l m:=⟨(J.cell (p:=⟨w.heap.size,0,MH⟩) c5).trans b7,b6,(o.out.2.2.2.1.below u).below J,K.below J⟩;have c0:=(o.out.2.2.2.2.below u).below J;have a9:=a6.trans (J.mono a6.size);have e:M6 (_/\_/\_/\_/\_/\_/\_/\_):=⟨S,b9,c0,a9,b5,a7,hL,hp⟩;clear S b9 c0 a9 b6 J a6 u hp Z K hL E hf hok V a7 b5 o;rcases(by omega:t<0\/(0<=t/\12<t)\/(0<=t/\t<=12))with h1|⟨h1,h2⟩|⟨h1,h2⟩
 ·have d:M6 (g=0/\f=2):=by
   have h:=e.out.2.2.2.2.2.2.2;rw[Nf (by omega)]at h;injection h with h1 h2;exact⟨h1,h2⟩
  go_wp2;rw[<-e.out.1]
  go_ret2
  exact⟨by rw[d.out.1,d.out.2];rfl,e.out.2.2.2.1⟩
 ·have d:M6 (g=0/\f=2):=by
   have h:=e.out.2.2.2.2.2.2.2;rw[Nf (by omega)]at h;injection h with h1 h2;exact⟨h1,h2⟩
  go_wp2;rw[<-e.out.1]
  go_ret2
  exact⟨by rw[d.out.1,d.out.2];rfl,e.out.2.2.2.1⟩
 obtain⟨M,rfl⟩:=NL h1;rcases Oq 12 ws.length with Y|Y
 ·have d:M6 (g=0/\f=2):=by
   have h:=e.out.2.2.2.2.2.2.2;rw[Nf (by omega)]at h;injection h with h1 h2;exact⟨h1,h2⟩
  have c6:(12:Int)<(ws.length:Int):=by omega
  clear Y;go_wp2;rw[<-e.out.1]
  go_ret2
  exact⟨by rw[d.out.1,d.out.2];rfl,e.out.2.2.2.1⟩
 have c6:Nn ((12:Int)<(ws.length:Int))=false:=M0 (by omega);have d5:Nn ((12:Int)<(M:Int))=false:=M0 (by omega);have d8:Nn ((M:Int)<0)=false:=M0 (by omega);have HP:M6 ((g,f)=if l.any Zw then abF l (acw l m ws M)else(0,11)):=by
  have h:=e.out.2.2.2.2.2.2.2;rw[Nh ⟨h1,h2,Y⟩]at h;rw[NR]at h;exact h
 clear Y
 go_wp2_with fail
 rw[<-e.out.1];refine(as0 _ l _ e.out.2.1.2.2.1).mono ?_;cases hany:l.any Zw
 ·rintro r w3 ⟨rfl,G⟩
  have d:M6 (g=0/\f=11):=by
   have h:=HP.out;rw[hany,Nf PE]at h;injection h with h1 h2;exact⟨h1,h2⟩
  have n:M6 _:=e.out.2.2.2.1.trans (G.mono e.out.2.2.2.1.size);clear G hany;go_wp2
  go_ret2
  exact⟨by rw[d.out.1,d.out.2];rfl,n.out⟩
 rintro r w3 ⟨rfl,G⟩;have s:M6 (_/\_/\_/\(g,f)=abF l (acw l m ws M)):=⟨e.out.2.1.below G,e.out.2.2.1.below G,e.out.2.2.2.1.trans (G.mono e.out.2.2.2.1.size),by have h:=HP.out;rw[Nh hany]at h;exact h⟩;clear G hany HP b7;have A:=s.out.1.1
 go_wp2_with fail
 refine(asM _ _ _ ws l m M w.heap.size z.heap.size _ s.out.2.1 s.out.1 e.out.2.2.2.2.1 (by omega)).mono ?_;cases hal:Zm l m ws M with
 |some i =>
  rintro r H ⟨rfl,D⟩;obtain⟨N,_,_⟩:=agp hal;rw[show Yn (MI i)=(i:Int)from rfl];have d7:=(D.cell (p:=⟨w.heap.size,0,MH⟩) (MX w3 _ A)).trans A;have c4:=s.out.1.2.2.1.below D;obtain⟨_,_,B,_,_,O⟩:=c4.F6;obtain⟨b1,o1,rfl,_,d1,_,_⟩:=(by injection B with B;subst B;exact O i N:∃b off,P=some ⟨b,off,none⟩/\b<H.heap.size/\H.cell? ⟨b,off+i*3,none⟩=some (.int .i64 l[i].1)/\H.cell? ⟨b,off+i*3+1,none⟩=some (.int .i64 l[i].2.1)/\H.cell? ⟨b,off+i*3+2,none⟩=some (.int .i64 l[i].2.2));have d:M6 (g=l[i].1/\f=0):=by
   have h:=s.out.2.2.2;unfold acw at h;rw[hal]at h;simp only[abF]at h;injection h with h1 h2;exact⟨by rw[h1];simp[N],h2⟩
  have n:M6 (MQ w.heap.size w H):=s.out.2.2.1.trans (D.mono s.out.2.2.1.size);have d0:(i:Int)<(l.length:Int):=by omega
  have c8:(0:Int)<=(i:Int):=by omega
  obtain⟨x,R⟩:∃x,x=l[i].1:=⟨_,rfl⟩;rw[<-R]at d1 d;clear D A c4 B O hal R;go_wp2
  go_ret2
  exact⟨by rw[d.out.1,d.out.2];rfl,n.out⟩
 |none =>
  rintro r H ⟨rfl,D⟩;rw[show Yn MH = -1 from rfl];have C:M6 (_/\_/\(g,f)=abF l (Yp l m l.length)):=⟨s.out.1.below D,s.out.2.2.1.trans (D.mono s.out.2.2.1.size),by have h:=s.out.2.2.2;unfold acw at h;rw[hal]at h;exact h⟩;clear D hal A;have A:=C.out.1.1
  go_wp2_with fail
  refine(as8 _ _ l m w.heap.size z.heap.size _ C.out.1 e.out.2.2.2.2.1 (adD e.out.2.2.2.2.2.2.1.2)).mono ?_;cases hle:Yp l m l.length with
  |none =>
   rintro r I ⟨rfl,F⟩;rw[show Yn MH = -1 from rfl];have d:M6 (g=0/\f=9):=by
    have h:=C.out.2.2;rw[hle]at h;simp only[abF]at h;injection h with h1 h2;exact⟨h1,h2⟩
   have n:M6 (MQ w.heap.size w I):=C.out.2.1.trans (F.mono C.out.2.1.size);clear F A hle;go_wp2
   go_ret2
   exact⟨by rw[d.out.1,d.out.2];rfl,n.out⟩
  |some i =>
   rintro r I ⟨rfl,F⟩;obtain⟨N,_⟩:=as9 e.out.2.2.2.2.2.1 hle;rw[show Yn (MI i)=(i:Int)from rfl];have d6:=(F.cell (p:=⟨w.heap.size,0,MH⟩) (MX H _ A)).trans A;have b0:=C.out.1.2.2.1.below F;obtain⟨_,_,B,_,_,O⟩:=b0.F6;obtain⟨b1,o1,rfl,_,d1,_,_⟩:=(by injection B with B;subst B;exact O i N:∃b off,P=some ⟨b,off,none⟩/\b<I.heap.size/\I.cell? ⟨b,off+i*3,none⟩=some (.int .i64 l[i].1)/\I.cell? ⟨b,off+i*3+1,none⟩=some (.int .i64 l[i].2.1)/\I.cell? ⟨b,off+i*3+2,none⟩=some (.int .i64 l[i].2.2));have d:M6 (g=l[i].1/\f=0):=by
    have h:=C.out.2.2;rw[hle]at h;simp only[abF]at h;injection h with h1 h2;exact⟨by rw[h1];simp[N],h2⟩
   have n:M6 (MQ w.heap.size w I):=C.out.2.1.trans (F.mono C.out.2.1.size);have d0:(i:Int)<(l.length:Int):=by omega
   have c8:(0:Int)<=(i:Int):=by omega
   obtain⟨x,R⟩:∃x,x=l[i].1:=⟨_,rfl⟩;rw[<-R]at d1 d;clear F A b0 B O hle R;go_wp2
   go_ret2
   exact⟨by rw[d.out.1,d.out.2];rfl,n.out⟩
end Go.Proofs.YtgnclkcdnbfeeaaGreatDoor.Q
