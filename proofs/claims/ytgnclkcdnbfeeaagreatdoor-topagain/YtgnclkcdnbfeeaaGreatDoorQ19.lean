/-
  Contracts of the layers and of core, part 19. Conditions: as each theorem says.
-/
import Derived.Test.YtgnclkcdnbfeeaaGreatDoorQ2
import Derived.Test.YtgnclkcdnbfeeaaGreatDoorQ10
import Derived.Test.YtgnclkcdnbfeeaaGreatDoorQ11
open Bool renaming false->Nb,true->Nw
open Go renaming Addr->Oc,Calls->Ni,Program->O8,TypeId->NU,Value->M7,World->MO,all_oneCell_toArray->OE,bodyPost_ret->Np,heap_alloc_new->M1,undef->PL,wpAnyH_done->PS,wpAnyH_ready->NN,wpAnyH_take->ND,wp_region_held_drew->O2
open Go.Act renaming put->Nr
open Go.AllReadyH renaming cons->NP,nil->NX
open Go.Calls renaming mono->Nd
open Go.Ending renaming returned->MN
open Go.IntKind renaming i64->ME
open Go.Obj renaming cells->MP
open Go.Operand renaming tmp->O6
open Go.Proofs.Tryz renaming prog->MK,underlying60->azj
open Go.Region renaming wanted->Pz
open Go.RowKit renaming Below->MQ,Hid->M6
open Go.RowKit.Below renaming heap_setCell->MU,refl->MY
open Go.Value renaming agg->Ny,bool->M3,int->MF,pointer->Na,slice->MG
open Go.World renaming block_lt_of_cell?->MX,cell?->Nl,cell?_of_block->NG,frozen?->Ng,heap_setCells_other->N8
open Int renaming toNat_natCast->NR
open List renaming getElem_cons_succ->MT,getElem_cons_zero->MS,getElem_mem->Nk,getElem_toArray->MZ,mem_cons->OO,not_mem_nil->OD,setIfInBounds_toArray->MJ,set_cons_succ->MM,set_cons_zero->ML,toList_toArray->NS
open Nat renaming le_refl->MV,lt_of_lt_of_le->M8
open Ne renaming symm->Pi
open Option renaming none->MH,some->MI
open Or renaming inl->Nt,inr->NF
namespace Go.Proofs.YtgnclkcdnbfeeaaGreatDoor.Q
set_option linter.unusedVariables false
set_option linter.unusedSimpArgs false
set_option maxHeartbeats 16000000
set_option maxRecDepth 100000
open Go.RowKit
attribute [local go_sem ↓] Go.wp_at_zero Go.wp_at_succ
variable {v:MO}
abbrev agQ(e:Ev):Value:=Ny #[MF ME e.kind,MF ME e.key,MF ME e.slot,MF ME e.gen,M3 e.good,MF ME e.req,MF ME e.be,MF ME e.wt]
theorem au9{k:Int}(h:0<=k/\k<100):Yk ⟨1,k,0,0,Nb,0,0,0⟩=0:=by
 simp[Yk,Zz,Ev.GZ,Ev.num,Ev.GE,Ev.Gc,Ev.Gd,Ev.Hi];omega
theorem ajh{k s g:Int}{x:Bool}(hk:(k=2\/k=3)/\x=Nb\/k=4)(h:0<=s/\s<40)(h2:0<=g/\g<=1048575):Yk ⟨k,0,s,g,x,0,0,0⟩=0:=by
 rcases hk with⟨rfl|rfl,rfl⟩|rfl
 all_goals (simp[Yk,Zz,Ev.GZ,Ev.num,Ev.GE,Ev.Gc,Ev.Gd,Ev.Hi];try (cases x <;> simp))
 all_goals omega
theorem anu{r b w:Int}(h:0<=r/\r<=2000)(h2:0<=b/\b<5)(h3:1<=w/\w<=8):Yk ⟨5,0,0,0,Nb,r,b,w⟩=0:=by
 simp[Yk,Zz,Ev.GZ,Ev.num,Ev.GE,Ev.Gc,Ev.Gd,Ev.Hi];omega
theorem ava{r b:Int}(h:0<=r/\r<=2000)(h2:0<=b/\b<5):Yk ⟨6,0,0,0,Nb,r,b,0⟩=0:=by
 simp[Yk,Zz,Ev.GZ,Ev.num,Ev.GE,Ev.Gc,Ev.Gd,Ev.Hi];omega
theorem anv:Yk ⟨7,0,0,0,Nb,0,0,0⟩=0:=by decide
theorem acd(n:Int)(h:-9223372036854775808<=n/\n<=9223372036854775807)(m:Nat)(i:Int)(hm:0<m/\m<=1000000/\i=m):∃k:Nat,k<m/\∀W,Ni MK 12 #[MF ME n,MF ME i] W fun r w'=>r=MN (MF ME (k:Int))/\w'=W:=by
 refine⟨ZN n m,af9 _ _ hm.1,fun W=>?_⟩;rw[hm.2.2];have:=arb n m W h.1 h.2 (by omega) (by omega);rwa[NR]at this
structure Xh(w u:MO)(D:Nat)(k a b c s n:Int):Prop where
 at_:D=w.heap.size
 bel:MQ w.heap.size w u
 deed:u.heap[D]?=MI (MP #[MF ME k,MF ME a,MF ME b,MF ME c] 93 (0,0))
 ev:u.heap[D+1]?=MI (MP #[MF ME 0,MF ME 0,MF ME 0,MF ME 0,M3 Nb,MF ME 0,MF ME 0,MF ME 0] 60 (0,0))
 hd:u.heap[D+2]?=MI (MP #[MF ME s,MF ME n] 70 (0,0))
 ok:(0<=s/\s<40)/\0<=n/\n<=1048575
theorem Xh.Gg{w u:MO}{D:Nat}{k a b c s n:Int}(h:Xh w u D k a b c s n):u.cell? ⟨D,0,MH⟩=MI (MF ME k)/\u.cell? ⟨D,1,MH⟩=MI (MF ME a)/\u.cell? ⟨D,2,MH⟩=MI (MF ME b)/\u.cell? ⟨D,3,MH⟩=MI (MF ME c)/\u.cell? ⟨D+2,0,MH⟩=MI (MF ME s)/\u.cell? ⟨D+2,1,MH⟩=MI (MF ME n)/\D+2<u.heap.size :=
 ⟨by simp[Nl,h.deed],by simp[Nl,h.deed],by simp[Nl,h.deed],by simp[Nl,h.deed],by simp[Nl,h.hd],by simp[Nl,h.hd],(Array.getElem?_eq_some_iff.1 h.hd).1⟩
theorem Xh.Md{w u:MO}{D:Nat}{k a b c s n:Int}(h:Xh w u D k a b c s n):(u.cell? ⟨D+1,0,MH⟩=MI (MF ME 0)/\u.cell? ⟨D+1,1,MH⟩=MI (MF ME 0)/\u.cell? ⟨D+1,2,MH⟩=MI (MF ME 0)/\u.cell? ⟨D+1,3,MH⟩=MI (MF ME 0)/\u.cell? ⟨D+1,4,MH⟩=MI (M3 Nb)/\u.cell? ⟨D+1,5,MH⟩=MI (MF ME 0)/\u.cell? ⟨D+1,6,MH⟩=MI (MF ME 0)/\u.cell? ⟨D+1,7,MH⟩=MI (MF ME 0))/\∀i,u.frozen? ⟨D+1,i,MH⟩=false :=
 ⟨⟨by simp[Nl,h.ev],by simp[Nl,h.ev],by simp[Nl,h.ev],by simp[Nl,h.ev],by simp[Nl,h.ev],by simp[Nl,h.ev],by simp[Nl,h.ev],by simp[Nl,h.ev]⟩,fun i=>by simp[Ng,h.ev]⟩
abbrev ZY(e:Ev):List Value:=[MF ME e.kind,MF ME e.key,MF ME e.slot,MF ME e.gen,M3 e.good,MF ME e.req,MF ME e.be,MF ME e.wt]
theorem ajg(e:Ev):(ZY e).toArray.all (·.oneCell')=true:=by
 apply OE;intro u a;simp only[OO,OD,or_false]at a;rcases a with rfl|rfl|rfl|rfl|rfl|rfl|rfl|rfl <;> rfl
abbrev ant:List Value:=[MF ME 0,MF ME 0,MF ME 0,MF ME 0,M3 Nb,MF ME 0,MF ME 0,MF ME 0]
theorem ajk:(Tryz.prog.info? 60).map (·.size)=MI 8:=by kernel_rfl
theorem ajf{w:MO}{D:Nat}{k a b c s n:Int}(h:Xh w v D k a b c s n)(e:Ev):v.there (D+1) 0 (ZY e).toArray.size:=aeU (cs:=ant) h.ev
theorem ac9{w:MO}{D:Nat}{k a b c s n:Int}(h:Xh w v D k a b c s n)(e:Ev){B i:Nat}{x:M7}(hc:v.cell? ⟨B,i,MH⟩=MI x)(hne:B≠D+1):(v.setCells (D+1) 0 (ZY e)).cell? ⟨B,i,MH⟩=MI x :=
 (NG (N8 v (D+1) 0 _ (MX v ⟨B,i,MH⟩ hc) hne)).trans hc
theorem adL{w:MO}{D:Nat}{k a b c s n:Int}{tm:Array M7}(h:Xh w v D k a b c s n)(e:Ev)(hf:Yk e=0)(hr:e.req<2000)(h4:tm.getD 4 PL=Na (MI ⟨D+1,0,MH⟩)):
  bodyPost MK Tryz.f16 (fun r w'=>∃e,(Yk e=0/\e.req<2000)/\r=MN (agQ e)/\MQ w.heap.size w w') Exit.ret {tmps:=tm,defers:=[]} (v.setCells (D+1) 0 (ZY e)):=by
 have f:(v.setCells (D+1) 0 (ZY e)).heap[D+1]?=MI (MP (ZY e).toArray 60 (0,0)):=ac0 60 (D+1) (ZY e) [] ant v rfl h.ev;have d:MQ w.heap.size w (v.setCells (D+1) 0 (ZY e)):=adp h.bel (by have:=h.at_;omega) 0 _ h.bel.size;exact Np (v:=agQ e) (Z2 Tryz.results16 h4 (Xp (P:=MK) (cs:=ZY e) f azj rfl (by kernel_rfl))) rfl ⟨e,⟨hf,hr⟩,rfl,d⟩
theorem Xh.GY{w:MO}{D:Nat}{k a b c s n:Int}(h:Xh w v D k a b c s n):Xh w v.drew D k a b c s n:=⟨h.at_,h.bel.drew,h.deed,h.ev,h.hd,h.ok⟩
theorem ajn{P:O8}{md:Region.Mode}{ops:Array Oper}{Q:Exit->Act->MO->Prop}{S:MO->Prop}{fuel:Nat}{listed:Array Bool}{a:Act}{w:MO}{i:Nat}{o:Oper}(ho:ops[i]?=MI o)(hg:o.guard=MH)(ty:NU)(x y:Operand)(hop:o.op=.store ty x y)
  (b off:Nat) (cells:Array M7) (hx:a.eval x=Na (MI ⟨b,off,MH⟩)) (hy:a.eval y=Ny cells) (ht:w.there b off cells.size) (hi:(P.info? ty).map (·.size)=MI cells.size) (h1:cells.all (·.oneCell')=Nw) (hS:S (w.setCells b off cells.toList))
  (h:wpAnyH P md ops Q S fuel (listed.setIfInBounds i Nw) (a.put o.dst PL) (w.setCells b off cells.toList)):AllReadyH P md ops Q S fuel listed a w [i]:=by
 refine NP ho (fun K hK=>?_) NX;rw[Nh (by unfold Pz;rw[hg])];exact wp_store_mid ty x y hop b off cells hx hy ht hi h1 (hK.out _ _ hS (fun _=>h))
theorem awW{P:O8}{md:Region.Mode}{ops:Array Oper}{Q:Exit->Act->MO->Prop}{S:MO->Prop}(i:Nat)(v:M7){oi:Oper}{fuel:Nat}{listed:Array Bool}{a:Act}{w:MO}(hS:S w)
  (h:wpAnyH P md ops Q S fuel (listed.setIfInBounds i Nw) (a.put oi.dst v) w) (hi:ops[i]?=MI oi:=by rfl) (hs:Region.noSelect ops=true:=by kernel_rfl) (hf:Region.free md ops listed i=true:=by kernel_rfl) (hr:(Region.ready md ops listed).contains i=true:=by kernel_rfl)
  (hQ:∀c a w,Q (.panic c) (a.put oi.dst v) w->Q (.panic c) a w:=by exact fun _ _ _ h=>h) (hy:YieldsIf P ops S oi v a:=by exact Or.inl ⟨by rfl,fun X hSw=>by go_simp⟩):wpAnyH P md ops Q S (fuel+1) listed a w :=
 ND hi hs hf hr hQ hy hS h
theorem au8{w:MO}{g:Nat}{pg:Option Oc}{cg:Nat}{l:List (Int×Int)}(c43:w.cell? ⟨g,43,MH⟩=MI (MG pg l.length cg))(hg:g<w.heap.size)(hl:l.length<=1000000)
  (hrow:∀i (hi:i<l.length),∃b o,pg=MI ⟨b,o,MH⟩/\b<w.heap.size/\w.cell? ⟨b,o+i*2,MH⟩=MI (MF ME l[i].1)/\w.cell? ⟨b,o+i*2+1,MH⟩=MI (MF ME l[i].2))
  (hok:∀x∈l,(0<=x.1/\x.1<40)/\0<=x.2/\x.2<=1048575) (k a b c:Int) (wk:-9223372036854775808<=k/\k<=9223372036854775807) (wa:-9223372036854775808<=a/\a<=9223372036854775807) (wb:-9223372036854775808<=b/\b<=9223372036854775807) (wc:-9223372036854775808<=c/\c<=9223372036854775807) :
  Ni MK 16 #[Na (MI ⟨g,0,MH⟩),Ny #[MF ME k,MF ME a,MF ME b,MF ME c]] w fun r w'=>∃e,(Yk e=0/\e.req<2000)/\r=MN (agQ e)/\MQ w.heap.size w w':=by
 obtain⟨k1,b1,p1⟩:=acd a wa 8 8 (by decide);obtain⟨k2,b2,p2⟩:=acd b wb 3 3 (by decide);have HP:M6 (_/\_):=⟨p1,p2⟩;have HB:M6 (_/\_):=⟨b1,b2⟩;have U:M6 (_/\_/\_/\_):=⟨hg,hl,hrow,hok⟩;have HC:M6 _:=c43;have N:M6 (_/\_/\_/\_):=⟨wk,wa,wb,wc⟩;clear c43 hg hl hrow hok wk wa wb wc p1 p2 b1 b2;obtain⟨W,V⟩:∃W,W=(w.alloc (MP #[MF ME k,MF ME a,MF ME b,MF ME c] 93)).alloc (MP #[MF ME 0,MF ME 0,MF ME 0,MF ME 0,M3 Nb,MF ME 0,MF ME 0,MF ME 0] 60):=⟨_,rfl⟩;go_enter Tryz.func16,Tryz.ntmps16
 go_wp2_with fail
 rw[<-V];obtain⟨D,Z⟩:∃D,D=w.heap.size:=⟨_,rfl⟩;rw[<-Z];have c5:MQ w.heap.size w W:=by rw[V];exact((MY _ _).alloc (MV _) _).alloc (by simp) _
 have a5:W.heap.size=D+2:=by rw[V,Z];simp
 have a7:(w.alloc (MP #[MF ME k,MF ME a,MF ME b,MF ME c] 93)).heap.size=D+1:=by rw[Z];simp
 have a4:W.heap[D]?=MI (MP #[MF ME k,MF ME a,MF ME b,MF ME c] 93 (0,0)):=by
  rw[V,(WQ _).block D (by rw[a7];omega),Z];exact M1 _ _
 have c4:W.heap[D+1]?=MI (MP #[MF ME 0,MF ME 0,MF ME 0,MF ME 0,M3 Nb,MF ME 0,MF ME 0,MF ME 0] 60 (0,0)):=by
  rw[V,<-a7];exact M1 _ _
 have O:M6 (_/\_/\_/\_/\_):=⟨Z,c5,a4,c4,a5⟩;have a1:D<W.heap.size:=by rw[a5];omega
 clear V Z c5 a7;have C:W.cell? ⟨D,1,MH⟩=MI (MF ME a):=by simp[Nl,a4]
 have B:W.cell? ⟨D,2,MH⟩=MI (MF ME b):=by simp[Nl,a4]
 have n1:=World.new_ne W ⟨D,1,MH⟩ C;have n2:=World.new_ne W ⟨D,2,MH⟩ B;clear a4 c4 a5;apply aan
 ·intro a8
  go_region_held3 (fun X=>X.cell? ⟨D,1,MH⟩=MI (MF ME a)/\X.cell? ⟨D,2,MH⟩=MI (MF ME b)) (first|exact⟨C,B⟩|go_keep) (first|(go_at_call 12;first|(refine(HP.out.1 _).mono ?_;rintro r w4 ⟨rfl,rfl⟩)|(refine(HP.out.2 _).mono ?_;rintro r w4 ⟨rfl,rfl⟩)))
  all_goals exact a8.out
 ·obtain⟨u,hu⟩:∃u,u=(W.alloc (MP #[MF ME (k1:Int),MF ME (k2:Int)] 70)).drew:=⟨_,rfl⟩
  have a2:MQ W.heap.size W u:=by rw[hu];exact(WQ W).drew
  have hE:Xh w u D k a b c k1 k2:=by
   refine⟨O.out.1,O.out.2.1.trans (a2.mono O.out.2.1.size),(a2.block _ a1).trans O.out.2.2.1,(a2.block _ (by rw[O.out.2.2.2.2];omega)).trans O.out.2.2.2.1,?_,⟨by omega,by have:=HB.out.1;omega⟩,by omega,by have:=HB.out.2;omega⟩;rw[hu,<-O.out.2.2.2.2];exact M1 _ _
  have c3:W.heap.size=D+2:=O.out.2.2.2.2;rw[<-hu,c3];have s:M6 _:=hE;have c43:u.cell? ⟨g,43,MH⟩=MI (MG pg l.length cg):=(hE.bel.cell (p:=⟨g,43,MH⟩) U.out.1).trans HC.out;have d3:u.cell? ⟨D,3,MH⟩=MI (MF ME c):=hE.Gg.2.2.2.1;obtain⟨k3,b3,p3⟩:=acd c N.out.2.2.2 9 9 (by decide);have M:M6 (_/\_):=⟨p3,b3⟩;have d4:g<u.heap.size:=M8 U.out.1 hE.bel.size;clear hu a2 hE c3 C B n1 n2 a1 p3 b3;obtain⟨m,hm⟩:∃m,m=l.length:=⟨_,rfl⟩;rw[<-hm]at c43;have HM:M6 _:=hm;clear hm;have d6:=s.out.Gg;obtain⟨d0,C,B,_,s0,s1,a1⟩:=d6;have z0:u.frozen? ⟨D+2,0,MH⟩=false:=by simp[Ng,s.out.hd]
  have z1:u.frozen? ⟨D+2,1,MH⟩=false:=by simp[Ng,s.out.hd]
  have a3:(0<m/\0<k3)\/(0<m/\¬0<k3)\/¬0<m:=by omega
  obtain⟨d,b4,p4⟩:=acd k N.out.1 20 20 (by decide);obtain⟨k6,b6,p6⟩:=acd a N.out.2.1 100 100 (by decide);obtain⟨k7,b7,p7⟩:=acd b N.out.2.2.1 2 2 (by decide);obtain⟨I,b8,p8⟩:=acd a N.out.2.1 30 30 (by decide);obtain⟨P,b9,p9⟩:=acd b N.out.2.2.1 5 5 (by decide);obtain⟨kc,bc,pc⟩:=acd c N.out.2.2.2 8 8 (by decide);have n:M6 (_/\_/\_/\_/\_/\_):=⟨p4,p6,p7,p8,p9,pc⟩;have J:M6 (_/\_/\_/\_/\_/\_):=⟨b4,b6,b7,b8,b9,bc⟩;clear p4 p6 p7 p8 p9 pc b4 b6 b7 b8 b9 bc;rcases a3 with a3|a3|a3
  case' inl =>
   have a6:(0:Int)<(m:Int):=by omega
   have c1:(0:Int)<(k3:Int):=by omega
   obtain⟨k5,b5,p5⟩:=acd a N.out.2.1 (min m 8) (min (m:Int) 8) (by omega);obtain⟨j,hj⟩:∃j:Nat,j=m-1-k5:=⟨_,rfl⟩;have c9:m<=1000000:=by rw[HM.out];exact U.out.2.1
   have b0:j<l.length:=by rw[<-HM.out];omega
   have w1:IntKind.i64.wrap ((m:Int)-1)=(m:Int)-1:=abk (by omega) (by omega);have w2:IntKind.i64.wrap ((m:Int)-1-(k5:Int))=(j:Int):=by rw[abk (by omega) (by omega)];omega
   have c8:(j:Int)<(m:Int):=by omega
   have d5:(0:Int)<=(j:Int):=by omega
   obtain⟨R,oo,c6,a9,r1,r2⟩:=U.out.2.2.1 j b0;have hok:=U.out.2.2.2 _ (Nk b0);obtain⟨x,hx⟩:∃x,x=l[j]:=⟨_,rfl⟩;rw[<-hx]at r1 r2 hok;have f1:u.cell? ⟨R,oo+j*2,MH⟩=MI (MF ME x.1):=(s.out.bel.cell (p:=⟨R,oo+j*2,MH⟩) a9).trans r1;have f2:u.cell? ⟨R,oo+j*2+1,MH⟩=MI (MF ME x.2):=(s.out.bel.cell (p:=⟨R,oo+j*2+1,MH⟩) a9).trans r2;have c7:min (m:Int) 8<=m:=by omega
   have H5:M6 (_/\_/\_):=⟨p5,b5,hok⟩;have q1:g≠D+2:=by have:=U.out.1;have:=s.out.at_;omega
   have q2:R≠D+2:=by have:=s.out.at_;omega
   clear p5 hx hok r1 r2 b0 a9 hj c9;subst c6
   go_wp2_with (go_at_call 12;refine(M.out.1 _).mono ?_;rintro r w4 ⟨rfl,rfl⟩)
   apply aan
   focus
    intro a8
    go_region_held3 (fun X=>X.cell? ⟨g,43,MH⟩=MI (MG (MI ⟨R,oo,MH⟩) m cg)/\X.cell? ⟨D,1,MH⟩=MI (MF ME a)/\X.cell? ⟨R,oo+j*2,MH⟩=MI (MF ME x.1)/\X.cell? ⟨R,oo+j*2+1,MH⟩=MI (MF ME x.2)) (first|exact⟨c43,C,f1,f2⟩|(simp[*,World.cell?_setCell_far,Pi q1,Pi q2])) (first|(go_at_call 12;refine(H5.out.1 _).mono ?_;rintro r w4 ⟨rfl,rfl⟩))
    all_goals exact a8.out
   obtain⟨v,hv⟩:∃v,v=((w4.setCell ⟨D+2,0,MH⟩ (MF ME x.1)).setCell ⟨D+2,1,MH⟩ (MF ME x.2)).drew:=⟨_,rfl⟩;have E:Xh w v D k a b c x.1 x.2:=by
    have c0:∀y,y≠D+2->v.heap[y]?=w4.heap[y]?:=fun y e=>by rw[hv];exact(MU _ _ _ _ (fun e2=>e e2)).trans (MU _ _ _ _ (fun e2=>e e2))
    refine⟨s.out.at_,?_,(c0 _ (by omega)).trans s.out.deed,(c0 _ (by omega)).trans s.out.ev,?_,H5.out.2.2⟩
    ·rw[hv]
     have c2:w.heap.size<=D+2:=by have:=s.out.at_;omega
     exact((s.out.bel.setCell (p:=⟨D+2,0,MH⟩) c2 _).setCell (p:=⟨D+2,1,MH⟩) c2 _).drew
    ·rw[hv]
     exact acb s.out.hd
   have HS:M6 _:=E;rw[<-hv];clear hv E s f1 f2 d0 C B d3 s0 s1 z0 z1 c43 c7 c8 d5 w1 w2 q1 q2 d4 a1 a6 c1
  case' inr.inl =>
   have a6:(0:Int)<(m:Int):=by omega
   have c1:¬(0:Int)<(k3:Int):=by omega
   have HS:M6 _:=s.out;clear s d0 C B s0 s1 z0 z1
  case' inr.inr =>
   have a6:¬(0:Int)<(m:Int):=by omega
   have HS:M6 _:=s.out;clear s d0 C B s0 s1 z0 z1
  all_goals
   obtain⟨A,z,q⟩:∃A z,M6 (Xh w _ D k a b c A z):=⟨_,_,HS⟩;clear HS;obtain⟨d0,C,B,e3,s0,s1,d8⟩:=q.out.Gg;rcases(by omega:d<6\/d=6\/d=7\/(8<=d/\d<12)\/(12<=d/\d<14)\/d=14\/15<=d)with h4|h4|h4|h4|h4|h4|h4
   ·have Y:(d:Int)<6:=by omega
    obtain⟨⟨x0,x1,x2,x3,x4,x5,x6,x7⟩,yf⟩:=q.out.Md;have y0:=yf 0;have y1:=yf 1;have y2:=yf 2;have y3:=yf 3;have y4:=yf 4;have y5:=yf 5;have y6:=yf 6;have y7:=yf 7;clear yf
    go_wp2_with (go_at_call 12;first|(refine(M.out.1 _).mono ?_;rintro r f ⟨rfl,rfl⟩)|(refine(n.out.1 _).mono ?_;rintro r f ⟨rfl,rfl⟩)|(refine(n.out.2.1 _).mono ?_;rintro r f ⟨rfl,rfl⟩))
    exact adL q.out ⟨1,k6,0,0,Nb,0,0,0⟩ (au9 ⟨by omega,by have:=J.out.2.1;omega⟩) (show(0:Int)<2000 by decide) rfl
   ·have Y:¬(d:Int)<6:=by omega
    have t1:((d:Int) == 6)=true:=by simp;omega
    obtain⟨⟨x0,x1,x2,x3,x4,x5,x6,x7⟩,yf⟩:=q.out.Md;have y0:=yf 0;have y1:=yf 1;have y2:=yf 2;have y3:=yf 3;have y4:=yf 4;have y5:=yf 5;have y6:=yf 6;have y7:=yf 7;clear yf
    go_wp2_with (go_at_call 12;first|(refine(M.out.1 _).mono ?_;rintro r f ⟨rfl,rfl⟩)|(refine(n.out.1 _).mono ?_;rintro r f ⟨rfl,rfl⟩)|(refine(n.out.2.1 _).mono ?_;rintro r f ⟨rfl,rfl⟩))
    exact adL q.out ⟨2,0,A,z,Nb,0,0,0⟩ (ajh (Nt ⟨Nt rfl,rfl⟩) q.out.ok.1 q.out.ok.2) (show(0:Int)<2000 by decide) rfl
   ·have Y:¬(d:Int)<6:=by omega
    have t1:((d:Int) == 6)=false:=by simp;omega
    have t2:((d:Int) == 7)=true:=by simp;omega
    obtain⟨⟨x0,x1,x2,x3,x4,x5,x6,x7⟩,yf⟩:=q.out.Md;have y0:=yf 0;have y1:=yf 1;have y2:=yf 2;have y3:=yf 3;have y4:=yf 4;have y5:=yf 5;have y6:=yf 6;have y7:=yf 7;clear yf
    go_wp2_with (go_at_call 12;first|(refine(M.out.1 _).mono ?_;rintro r f ⟨rfl,rfl⟩)|(refine(n.out.1 _).mono ?_;rintro r f ⟨rfl,rfl⟩)|(refine(n.out.2.1 _).mono ?_;rintro r f ⟨rfl,rfl⟩))
    exact adL q.out ⟨3,0,A,z,Nb,0,0,0⟩ (ajh (Nt ⟨NF rfl,rfl⟩) q.out.ok.1 q.out.ok.2) (show(0:Int)<2000 by decide) rfl
   ·have Y:¬(d:Int)<6:=by omega
    have t1:((d:Int) == 6)=false:=by simp;omega
    have t2:((d:Int) == 7)=false:=by simp;omega
    have t3:(d:Int)<12:=by omega
    go_wp2_with (go_at_call 12;first|(refine(M.out.1 _).mono ?_;rintro r f ⟨rfl,rfl⟩)|(refine(n.out.1 _).mono ?_;rintro r f ⟨rfl,rfl⟩)|(refine(n.out.2.1 _).mono ?_;rintro r f ⟨rfl,rfl⟩))
    obtain⟨S,E,L⟩:∃S:MO->Prop,(∀X,S X->X.cell? ⟨D,2,MH⟩=MI (MF ME b)/\X.cell? ⟨D+2,0,MH⟩=MI (MF ME A)/\X.cell? ⟨D+2,1,MH⟩=MI (MF ME z))/\∀X,X.cell? ⟨D,2,MH⟩=MI (MF ME b)/\X.cell? ⟨D+2,0,MH⟩=MI (MF ME A)/\X.cell? ⟨D+2,1,MH⟩=MI (MF ME z)->S X:=⟨fun X=>X.cell? ⟨D,2,MH⟩=MI (MF ME b)/\X.cell? ⟨D+2,0,MH⟩=MI (MF ME A)/\X.cell? ⟨D+2,1,MH⟩=MI (MF ME z),fun _ h=>h,fun _ h=>h⟩;have t:M6 (Xh w _ D k a b c A z):=q.out.GY;obtain⟨G,F⟩:∃G,G=f.drew.setCells (D+1) 0 (ZY ⟨4,0,A,z,((k7:Int) == 0),0,0,0⟩):=⟨_,rfl⟩;have a0:S G:=by rw[F];exact L _ ⟨ac9 t.out _ B (by omega),ac9 t.out _ s0 (by omega),ac9 t.out _ s1 (by omega)⟩
    have H:M6 _:=F;clear F;refine O2 (S:=S) (by kernel_rfl) (L _ ⟨B,s0,s1⟩) (fun hHeld=>?_);refine awW 0 (Na (MI ⟨D+2,0,MH⟩)) hHeld ?_;simp only[Nr,MZ,MT,MS,MJ,ML,MM];refine awW 1 (MF ME A) hHeld ?_ (hy:=Nt ⟨by rfl,fun X hSw=>by have T:=E X hSw;go_simp⟩);simp only[Nr,MZ,MT,MS,MJ,ML,MM];refine awW 2 (Na (MI ⟨D+2,1,MH⟩)) hHeld ?_;simp only[Nr,MZ,MT,MS,MJ,ML,MM];refine awW 3 (MF ME z) hHeld ?_ (hy:=Nt ⟨by rfl,fun X hSw=>by have T:=E X hSw;go_simp⟩);simp only[Nr,MZ,MT,MS,MJ,ML,MM];refine awW 4 (Na (MI ⟨D,2,MH⟩)) hHeld ?_;simp only[Nr,MZ,MT,MS,MJ,ML,MM];refine awW 5 (MF ME b) hHeld ?_ (hy:=Nt ⟨by rfl,fun X hSw=>by have T:=E X hSw;go_simp⟩);simp only[Nr,MZ,MT,MS,MJ,ML,MM];refine NN (rs:=[6]) (by kernel_rfl) (by simp) ?_;refine NP (o:=_) rfl (fun K hK=>?_) NX;go_simp;refine Nd (n.out.2.2.1 _) ?_;rintro r w6 ⟨rfl,rfl⟩
    go_wp2_with fail
    refine hK.out _ _ hHeld (fun hHeld=>?_);clear hK K
    try simp only[Nr,MZ,MT,MS,MJ,ML,MM]
    refine awW 7 (M3 ((k7:Int) == 0)) hHeld ?_;simp only[Nr,MZ,MT,MS,MJ,ML,MM];refine awW 8 (Ny (ZY ⟨4,0,A,z,((k7:Int) == 0),0,0,0⟩).toArray) hHeld ?_;simp only[Nr,MZ,MT,MS,MJ,ML,MM];refine NN (rs:=[9]) (by kernel_rfl) (by simp) ?_;refine ajn (i:=9) (o:=_) (by rfl) (by rfl) 60 (O6 4) (O6 85) (by rfl) (D+1) 0 (ZY ⟨4,0,A,z,((k7:Int) == 0),0,0,0⟩).toArray (by rfl) (by rfl) (ajf t.out _) ajk (ajg _) (by rw[NS,<-H.out];exact a0) ?_;rw[NS,<-H.out]
    try simp only[Nr,MZ,MT,MS,MJ,ML,MM]
    refine PS (by kernel_rfl) ?_ _
    go_wp2_with fail
    rw[H.out];exact adL t.out ⟨4,0,A,z,((k7:Int) == 0),0,0,0⟩ (ajh (NF rfl) q.out.ok.1 q.out.ok.2) (show(0:Int)<2000 by decide) rfl
   ·have Y:¬(d:Int)<6:=by omega
    have t1:((d:Int) == 6)=false:=by simp;omega
    have t2:((d:Int) == 7)=false:=by simp;omega
    have t3:¬(d:Int)<12:=by omega
    have t4:(d:Int)<14:=by omega
    go_wp2_with (go_at_call 12;first|(refine(M.out.1 _).mono ?_;rintro r f ⟨rfl,rfl⟩)|(refine(n.out.1 _).mono ?_;rintro r f ⟨rfl,rfl⟩)|(refine(n.out.2.1 _).mono ?_;rintro r f ⟨rfl,rfl⟩))
    have d7:IntKind.i64.wrap (1+(kc:Int))=1+kc:=abk (by omega) (by have:=J.out.2.2.2.2.2;omega);obtain⟨S,E,L⟩:∃S:MO->Prop,(∀X,S X->X.cell? ⟨D,1,MH⟩=MI (MF ME a)/\X.cell? ⟨D,2,MH⟩=MI (MF ME b)/\X.cell? ⟨D,3,MH⟩=MI (MF ME c))/\∀X,X.cell? ⟨D,1,MH⟩=MI (MF ME a)/\X.cell? ⟨D,2,MH⟩=MI (MF ME b)/\X.cell? ⟨D,3,MH⟩=MI (MF ME c)->S X:=⟨fun X=>X.cell? ⟨D,1,MH⟩=MI (MF ME a)/\X.cell? ⟨D,2,MH⟩=MI (MF ME b)/\X.cell? ⟨D,3,MH⟩=MI (MF ME c),fun _ h=>h,fun _ h=>h⟩;have t:M6 (Xh w _ D k a b c A z):=q.out.GY;obtain⟨G,F⟩:∃G,G=f.drew.setCells (D+1) 0 (ZY ⟨5,0,0,0,Nb,I,P,1+kc⟩):=⟨_,rfl⟩;have a0:S G:=by rw[F];exact L _ ⟨ac9 t.out _ C (by omega),ac9 t.out _ B (by omega),ac9 t.out _ e3 (by omega)⟩
    have H:M6 _:=F;clear F;refine O2 (S:=S) (by kernel_rfl) (L _ ⟨C,B,e3⟩) (fun hHeld=>?_);refine awW 0 (Na (MI ⟨D,1,MH⟩)) hHeld ?_;simp only[Nr,MZ,MT,MS,MJ,ML,MM];refine awW 1 (MF ME a) hHeld ?_ (hy:=Nt ⟨by rfl,fun X hSw=>by have T:=E X hSw;go_simp⟩);simp only[Nr,MZ,MT,MS,MJ,ML,MM];refine awW 3 (Na (MI ⟨D,2,MH⟩)) hHeld ?_;simp only[Nr,MZ,MT,MS,MJ,ML,MM];refine awW 4 (MF ME b) hHeld ?_ (hy:=Nt ⟨by rfl,fun X hSw=>by have T:=E X hSw;go_simp⟩);simp only[Nr,MZ,MT,MS,MJ,ML,MM];refine awW 6 (Na (MI ⟨D,3,MH⟩)) hHeld ?_;simp only[Nr,MZ,MT,MS,MJ,ML,MM];refine awW 7 (MF ME c) hHeld ?_ (hy:=Nt ⟨by rfl,fun X hSw=>by have T:=E X hSw;go_simp⟩);simp only[Nr,MZ,MT,MS,MJ,ML,MM];refine NN (rs:=[2]) (by kernel_rfl) (by simp) ?_;refine NP (o:=_) rfl (fun K hK=>?_) NX;go_simp;refine Nd (n.out.2.2.2.1 _) ?_;rintro r w6 ⟨rfl,rfl⟩
    go_wp2_with fail
    refine hK.out _ _ hHeld (fun hHeld=>?_);clear hK K
    try simp only[Nr,MZ,MT,MS,MJ,ML,MM]
    refine NN (rs:=[5]) (by kernel_rfl) (by simp) ?_;refine NP (o:=_) rfl (fun K hK=>?_) NX;go_simp;refine Nd (n.out.2.2.2.2.1 _) ?_;rintro r w6 ⟨rfl,rfl⟩
    go_wp2_with fail
    refine hK.out _ _ hHeld (fun hHeld=>?_);clear hK K
    try simp only[Nr,MZ,MT,MS,MJ,ML,MM]
    refine NN (rs:=[8]) (by kernel_rfl) (by simp) ?_;refine NP (o:=_) rfl (fun K hK=>?_) NX;go_simp;refine Nd (n.out.2.2.2.2.2 _) ?_;rintro r w6 ⟨rfl,rfl⟩
    go_wp2_with fail
    refine hK.out _ _ hHeld (fun hHeld=>?_);clear hK K
    try simp only[Nr,MZ,MT,MS,MJ,ML,MM]
    refine awW 9 (MF ME (1+(kc:Int))) hHeld ?_;simp only[Nr,MZ,MT,MS,MJ,ML,MM];refine awW 10 (Ny (ZY ⟨5,0,0,0,Nb,I,P,1+kc⟩).toArray) hHeld ?_;simp only[Nr,MZ,MT,MS,MJ,ML,MM];refine NN (rs:=[11]) (by kernel_rfl) (by simp) ?_;refine ajn (i:=11) (o:=_) (by rfl) (by rfl) 60 (O6 4) (O6 99) (by rfl) (D+1) 0 (ZY ⟨5,0,0,0,Nb,I,P,1+kc⟩).toArray (by rfl) (by rfl) (ajf t.out _) ajk (ajg _) (by rw[NS,<-H.out];exact a0) ?_;rw[NS,<-H.out]
    try simp only[Nr,MZ,MT,MS,MJ,ML,MM]
    refine PS (by kernel_rfl) ?_ _
    go_wp2_with fail
    rw[H.out];exact adL t.out ⟨5,0,0,0,Nb,I,P,1+kc⟩ (anu ⟨by omega,by have:=J.out.2.2.2.1;omega⟩ ⟨by omega,by have:=J.out.2.2.2.2.1;omega⟩ ⟨by omega,by have:=J.out.2.2.2.2.2;omega⟩) (show(I:Int)<2000 by have:=J.out.2.2.2.1;omega) rfl
   ·have Y:¬(d:Int)<6:=by omega
    have t1:((d:Int) == 6)=false:=by simp;omega
    have t2:((d:Int) == 7)=false:=by simp;omega
    have t3:¬(d:Int)<12:=by omega
    have t4:¬(d:Int)<14:=by omega
    have t5:((d:Int) == 14)=true:=by simp;omega
    go_wp2_with (go_at_call 12;first|(refine(M.out.1 _).mono ?_;rintro r f ⟨rfl,rfl⟩)|(refine(n.out.1 _).mono ?_;rintro r f ⟨rfl,rfl⟩)|(refine(n.out.2.1 _).mono ?_;rintro r f ⟨rfl,rfl⟩))
    obtain⟨S,E,L⟩:∃S:MO->Prop,(∀X,S X->X.cell? ⟨D,1,MH⟩=MI (MF ME a)/\X.cell? ⟨D,2,MH⟩=MI (MF ME b))/\∀X,X.cell? ⟨D,1,MH⟩=MI (MF ME a)/\X.cell? ⟨D,2,MH⟩=MI (MF ME b)->S X:=⟨fun X=>X.cell? ⟨D,1,MH⟩=MI (MF ME a)/\X.cell? ⟨D,2,MH⟩=MI (MF ME b),fun _ h=>h,fun _ h=>h⟩;have t:M6 (Xh w _ D k a b c A z):=q.out.GY;obtain⟨G,F⟩:∃G,G=f.drew.setCells (D+1) 0 (ZY ⟨6,0,0,0,Nb,I,P,0⟩):=⟨_,rfl⟩;have a0:S G:=by rw[F];exact L _ ⟨ac9 t.out _ C (by omega),ac9 t.out _ B (by omega)⟩
    have H:M6 _:=F;clear F;refine O2 (S:=S) (by kernel_rfl) (L _ ⟨C,B⟩) (fun hHeld=>?_);refine awW 0 (Na (MI ⟨D,1,MH⟩)) hHeld ?_;simp only[Nr,MZ,MT,MS,MJ,ML,MM];refine awW 1 (MF ME a) hHeld ?_ (hy:=Nt ⟨by rfl,fun X hSw=>by have T:=E X hSw;go_simp⟩);simp only[Nr,MZ,MT,MS,MJ,ML,MM];refine awW 3 (Na (MI ⟨D,2,MH⟩)) hHeld ?_;simp only[Nr,MZ,MT,MS,MJ,ML,MM];refine awW 4 (MF ME b) hHeld ?_ (hy:=Nt ⟨by rfl,fun X hSw=>by have T:=E X hSw;go_simp⟩);simp only[Nr,MZ,MT,MS,MJ,ML,MM];refine NN (rs:=[2]) (by kernel_rfl) (by simp) ?_;refine NP (o:=_) rfl (fun K hK=>?_) NX;go_simp;refine Nd (n.out.2.2.2.1 _) ?_;rintro r w6 ⟨rfl,rfl⟩
    go_wp2_with fail
    refine hK.out _ _ hHeld (fun hHeld=>?_);clear hK K
    try simp only[Nr,MZ,MT,MS,MJ,ML,MM]
    refine NN (rs:=[5]) (by kernel_rfl) (by simp) ?_;refine NP (o:=_) rfl (fun K hK=>?_) NX;go_simp;refine Nd (n.out.2.2.2.2.1 _) ?_;rintro r w6 ⟨rfl,rfl⟩
    go_wp2_with fail
    refine hK.out _ _ hHeld (fun hHeld=>?_);clear hK K
    try simp only[Nr,MZ,MT,MS,MJ,ML,MM]
    refine awW 6 (Ny (ZY ⟨6,0,0,0,Nb,I,P,0⟩).toArray) hHeld ?_;simp only[Nr,MZ,MT,MS,MJ,ML,MM];refine NN (rs:=[7]) (by kernel_rfl) (by simp) ?_;refine ajn (i:=7) (o:=_) (by rfl) (by rfl) 60 (O6 4) (O6 109) (by rfl) (D+1) 0 (ZY ⟨6,0,0,0,Nb,I,P,0⟩).toArray (by rfl) (by rfl) (ajf t.out _) ajk (ajg _) (by rw[NS,<-H.out];exact a0) ?_;rw[NS,<-H.out]
    try simp only[Nr,MZ,MT,MS,MJ,ML,MM]
    refine PS (by kernel_rfl) ?_ _
    go_wp2_with fail
    rw[H.out];exact adL t.out ⟨6,0,0,0,Nb,I,P,0⟩ (ava ⟨by omega,by have:=J.out.2.2.2.1;omega⟩ ⟨by omega,by have:=J.out.2.2.2.2.1;omega⟩) (show(I:Int)<2000 by have:=J.out.2.2.2.1;omega) rfl
   ·have Y:¬(d:Int)<6:=by omega
    have t1:((d:Int) == 6)=false:=by simp;omega
    have t2:((d:Int) == 7)=false:=by simp;omega
    have t3:¬(d:Int)<12:=by omega
    have t4:¬(d:Int)<14:=by omega
    have t5:((d:Int) == 14)=false:=by simp;omega
    obtain⟨⟨x0,x1,x2,x3,x4,x5,x6,x7⟩,yf⟩:=q.out.Md;have y0:=yf 0;have y1:=yf 1;have y2:=yf 2;have y3:=yf 3;have y4:=yf 4;have y5:=yf 5;have y6:=yf 6;have y7:=yf 7;clear yf
    go_wp2_with (go_at_call 12;first|(refine(M.out.1 _).mono ?_;rintro r f ⟨rfl,rfl⟩)|(refine(n.out.1 _).mono ?_;rintro r f ⟨rfl,rfl⟩)|(refine(n.out.2.1 _).mono ?_;rintro r f ⟨rfl,rfl⟩))
    exact adL q.out ⟨7,0,0,0,Nb,0,0,0⟩ anv (show(0:Int)<2000 by decide) rfl
end Go.Proofs.YtgnclkcdnbfeeaaGreatDoor.Q
