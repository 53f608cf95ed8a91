/-
  Contracts of the layers and of core, part 19. Conditions: as each theorem says.
-/
import Derived.Test.YtlnbhjdhcmgljaaGreatDoorQ2
import Derived.Test.YtlnbhjdhcmgljaaGreatDoorQ10
import Derived.Test.YtlnbhjdhcmgljaaGreatDoorQ11
open Bool renaming false->Nb,true->Nw
open Go renaming Addr->Oc,Calls->Ni,Program->O8,TypeId->NU,Value->M7,World->MO,all_oneCell_toArray->OE,bodyPost_ret->Np,heap_alloc_new->M1,undef->PL,wpAnyH_done->PS,wpAnyH_ready->NN,wpAnyH_take->ND,wp_region_held_drew->O2
open Go.Act renaming put->Nr
open Go.AllReadyH renaming cons->NP,nil->NX
open Go.Calls renaming mono->Nd
open Go.Ending renaming returned->MN
open Go.IntKind renaming i64->ME
open Go.Obj renaming cells->MP
open Go.Operand renaming tmp->O6
open Go.Proofs.Tryz renaming prog->MK,underlying59->RH
open Go.Region renaming wanted->Pz
open Go.RowKit renaming Below->MQ,Hid->M6
open Go.RowKit.Below renaming heap_setCell->MU,refl->MY
open Go.Value renaming agg->Ny,bool->M3,int->MF,pointer->Na,slice->MG
open Go.World renaming block_lt_of_cell?->MX,cell?->Nl,cell?_of_block->NG,frozen?->Ng,heap_setCells_other->N8
open Int renaming toNat_natCast->NR
open List renaming getElem_cons_succ->MT,getElem_cons_zero->MS,getElem_mem->Nk,getElem_toArray->MZ,mem_cons->OO,not_mem_nil->OD,setIfInBounds_toArray->MJ,set_cons_succ->MM,set_cons_zero->ML,toList_toArray->NS
open Nat renaming le_refl->MV,lt_of_lt_of_le->M8
open Ne renaming symm->Pi
open Option renaming none->MH,some->MI
open Or renaming inl->Nt,inr->NF
namespace Go.Proofs.YtlnbhjdhcmgljaaGreatDoor.Q
set_option linter.unusedVariables false
set_option linter.unusedSimpArgs false
set_option maxHeartbeats 16000000
set_option maxRecDepth 100000
open Go.RowKit
attribute [local go_sem ↓] Go.wp_at_zero Go.wp_at_succ
variable {v:MO}
abbrev Kb(e:Ev):Value:=Ny #[MF ME e.kind,MF ME e.key,MF ME e.slot,MF ME e.gen,M3 e.good,MF ME e.req,MF ME e.be,MF ME e.wt]
theorem LB{k:Int}(h:0<=k/\k<100):gq ⟨1,k,0,0,Nb,0,0,0⟩=0:=by
 simp[gq,dY,Ev.GZ,Ev.num,Ev.GE,Ev.Gc,Ev.Gd,Ev.Hi];omega
theorem Kk{k s g:Int}{x:Bool}(hk:(k=2\/k=3)/\x=Nb\/k=4)(h:0<=s/\s<40)(h2:0<=g/\g<=1048575):gq ⟨k,0,s,g,x,0,0,0⟩=0:=by
 rcases hk with⟨rfl|rfl,rfl⟩|rfl
 all_goals (simp[gq,dY,Ev.GZ,Ev.num,Ev.GE,Ev.Gc,Ev.Gd,Ev.Hi];try (cases x <;> simp))
 all_goals omega
theorem KP{r b w:Int}(h:0<=r/\r<=2000)(h2:0<=b/\b<5)(h3:1<=w/\w<=8):gq ⟨5,0,0,0,Nb,r,b,w⟩=0:=by
 simp[gq,dY,Ev.GZ,Ev.num,Ev.GE,Ev.Gc,Ev.Gd,Ev.Hi];omega
theorem LC{r b:Int}(h:0<=r/\r<=2000)(h2:0<=b/\b<5):gq ⟨6,0,0,0,Nb,r,b,0⟩=0:=by
 simp[gq,dY,Ev.GZ,Ev.num,Ev.GE,Ev.Gc,Ev.Gd,Ev.Hi];omega
theorem KQ:gq ⟨7,0,0,0,Nb,0,0,0⟩=0:=by decide
theorem JV(n:Int)(h:-9223372036854775808<=n/\n<=9223372036854775807)(m:Nat)(i:Int)(hm:0<m/\m<=1000000/\i=m):∃k:Nat,k<m/\∀W,Ni MK 18 #[MF ME n,MF ME i] W fun r w'=>r=MN (MF ME (k:Int))/\w'=W:=by
 refine⟨eB n m,nP _ _ hm.1,fun W=>?_⟩;rw[hm.2.2];have:=Lg n m W h.1 h.2 (by omega) (by omega);rwa[NR]at this
structure JA(w u:MO)(D:Nat)(k a b c s n:Int):Prop where
 at_:D=w.heap.size
 bel:MQ w.heap.size w u
 deed:u.heap[D]?=MI (MP #[MF ME k,MF ME a,MF ME b,MF ME c] 82 (0,0))
 ev:u.heap[D+1]?=MI (MP #[MF ME 0,MF ME 0,MF ME 0,MF ME 0,M3 Nb,MF ME 0,MF ME 0,MF ME 0] 59 (0,0))
 hd:u.heap[D+2]?=MI (MP #[MF ME s,MF ME n] 97 (0,0))
 ok:(0<=s/\s<40)/\0<=n/\n<=1048575
theorem JA.Gg{w u:MO}{D:Nat}{k a b c s n:Int}(h:JA w u D k a b c s n):u.cell? ⟨D,0,MH⟩=MI (MF ME k)/\u.cell? ⟨D,1,MH⟩=MI (MF ME a)/\u.cell? ⟨D,2,MH⟩=MI (MF ME b)/\u.cell? ⟨D,3,MH⟩=MI (MF ME c)/\u.cell? ⟨D+2,0,MH⟩=MI (MF ME s)/\u.cell? ⟨D+2,1,MH⟩=MI (MF ME n)/\D+2<u.heap.size :=
 ⟨by simp[Nl,h.deed],by simp[Nl,h.deed],by simp[Nl,h.deed],by simp[Nl,h.deed],by simp[Nl,h.hd],by simp[Nl,h.hd],(Array.getElem?_eq_some_iff.1 h.hd).1⟩
theorem JA.Md{w u:MO}{D:Nat}{k a b c s n:Int}(h:JA w u D k a b c s n):(u.cell? ⟨D+1,0,MH⟩=MI (MF ME 0)/\u.cell? ⟨D+1,1,MH⟩=MI (MF ME 0)/\u.cell? ⟨D+1,2,MH⟩=MI (MF ME 0)/\u.cell? ⟨D+1,3,MH⟩=MI (MF ME 0)/\u.cell? ⟨D+1,4,MH⟩=MI (M3 Nb)/\u.cell? ⟨D+1,5,MH⟩=MI (MF ME 0)/\u.cell? ⟨D+1,6,MH⟩=MI (MF ME 0)/\u.cell? ⟨D+1,7,MH⟩=MI (MF ME 0))/\∀i,u.frozen? ⟨D+1,i,MH⟩=false :=
 ⟨⟨by simp[Nl,h.ev],by simp[Nl,h.ev],by simp[Nl,h.ev],by simp[Nl,h.ev],by simp[Nl,h.ev],by simp[Nl,h.ev],by simp[Nl,h.ev],by simp[Nl,h.ev]⟩,fun i=>by simp[Ng,h.ev]⟩
abbrev JJ(e:Ev):List Value:=[MF ME e.kind,MF ME e.key,MF ME e.slot,MF ME e.gen,M3 e.good,MF ME e.req,MF ME e.be,MF ME e.wt]
theorem Kj(e:Ev):(JJ e).toArray.all (·.oneCell')=true:=by
 apply OE;intro u hu;simp only[OO,OD,or_false]at hu;rcases hu with rfl|rfl|rfl|rfl|rfl|rfl|rfl|rfl <;> rfl
abbrev KO:List Value:=[MF ME 0,MF ME 0,MF ME 0,MF ME 0,M3 Nb,MF ME 0,MF ME 0,MF ME 0]
theorem Kn:(Tryz.prog.info? 59).map (·.size)=MI 8:=by kernel_rfl
theorem Ki{w:MO}{D:Nat}{k a b c s n:Int}(h:JA w v D k a b c s n)(e:Ev):v.there (D+1) 0 (JJ e).toArray.size:=vR (cs:=KO) h.ev
theorem JX{w:MO}{D:Nat}{k a b c s n:Int}(h:JA w v D k a b c s n)(e:Ev){B i:Nat}{x:M7}(hc:v.cell? ⟨B,i,MH⟩=MI x)(hne:B≠D+1):(v.setCells (D+1) 0 (JJ e)).cell? ⟨B,i,MH⟩=MI x :=
 (NG (N8 v (D+1) 0 _ (MX v ⟨B,i,MH⟩ hc) hne)).trans hc
theorem JY{w:MO}{D:Nat}{k a b c s n:Int}{tm:Array M7}(h:JA w v D k a b c s n)(e:Ev)(hf:gq e=0)(h4:tm.getD 4 PL=Na (MI ⟨D+1,0,MH⟩)):
  bodyPost MK Tryz.f20 (fun r w'=>∃e,gq e=0/\r=MN (Kb e)/\MQ w.heap.size w w') Exit.ret {tmps:=tm,defers:=[]} (v.setCells (D+1) 0 (JJ e)):=by
 have hb:(v.setCells (D+1) 0 (JJ e)).heap[D+1]?=MI (MP (JJ e).toArray 59 (0,0)):=ks 59 (D+1) (JJ e) [] KO v rfl h.ev;have hB:MQ w.heap.size w (v.setCells (D+1) 0 (JJ e)):=tW h.bel (by have:=h.at_;omega) 0 _ h.bel.size;exact Np (v:=Kb e) (ey Tryz.results20 h4 (aI (P:=MK) (cs:=JJ e) hb RH rfl (by kernel_rfl))) rfl ⟨e,hf,rfl,hB⟩
theorem JA.GY{w:MO}{D:Nat}{k a b c s n:Int}(h:JA w v D k a b c s n):JA w v.drew D k a b c s n:=⟨h.at_,h.bel.drew,h.deed,h.ev,h.hd,h.ok⟩
theorem Kp{P:O8}{md:Region.Mode}{ops:Array Oper}{Q:Exit->Act->MO->Prop}{S:MO->Prop}{fuel:Nat}{listed:Array Bool}{a:Act}{w:MO}{i:Nat}{o:Oper}(ho:ops[i]?=MI o)(hg:o.guard=MH)(ty:NU)(x y:Operand)(hop:o.op=.store ty x y)
  (b off:Nat) (cells:Array M7) (hx:a.eval x=Na (MI ⟨b,off,MH⟩)) (hy:a.eval y=Ny cells) (ht:w.there b off cells.size) (hi:(P.info? ty).map (·.size)=MI cells.size) (h1:cells.all (·.oneCell')=Nw) (hS:S (w.setCells b off cells.toList))
  (h:wpAnyH P md ops Q S fuel (listed.setIfInBounds i Nw) (a.put o.dst PL) (w.setCells b off cells.toList)):AllReadyH P md ops Q S fuel listed a w [i]:=by
 refine NP ho (fun K hK=>?_) NX;rw[Nh (by unfold Pz;rw[hg])];exact wp_store_mid ty x y hop b off cells hx hy ht hi h1 (hK.out _ _ hS (fun _=>h))
theorem o5{P:O8}{md:Region.Mode}{ops:Array Oper}{Q:Exit->Act->MO->Prop}{S:MO->Prop}(i:Nat)(v:M7){oi:Oper}{fuel:Nat}{listed:Array Bool}{a:Act}{w:MO}(hS:S w)
  (h:wpAnyH P md ops Q S fuel (listed.setIfInBounds i Nw) (a.put oi.dst v) w) (hi:ops[i]?=MI oi:=by rfl) (hs:Region.noSelect ops=true:=by kernel_rfl) (hf:Region.free md ops listed i=true:=by kernel_rfl) (hr:(Region.ready md ops listed).contains i=true:=by kernel_rfl)
  (hQ:∀c a w,Q (.panic c) (a.put oi.dst v) w->Q (.panic c) a w:=by exact fun _ _ _ h=>h) (hy:YieldsIf P ops S oi v a:=by exact Or.inl ⟨by rfl,fun X hSw=>by go_simp⟩):wpAnyH P md ops Q S (fuel+1) listed a w :=
 ND hi hs hf hr hQ hy hS h
theorem LA{w:MO}{g:Nat}{pg:Option Oc}{cg:Nat}{l:List (Int×Int)}(c43:w.cell? ⟨g,43,MH⟩=MI (MG pg l.length cg))(hg:g<w.heap.size)(hl:l.length<=1000000)
  (hrow:∀i (hi:i<l.length),∃b o,pg=MI ⟨b,o,MH⟩/\b<w.heap.size/\w.cell? ⟨b,o+i*2,MH⟩=MI (MF ME l[i].1)/\w.cell? ⟨b,o+i*2+1,MH⟩=MI (MF ME l[i].2))
  (hok:∀x∈l,(0<=x.1/\x.1<40)/\0<=x.2/\x.2<=1048575) (k a b c:Int) (wk:-9223372036854775808<=k/\k<=9223372036854775807) (wa:-9223372036854775808<=a/\a<=9223372036854775807) (wb:-9223372036854775808<=b/\b<=9223372036854775807) (wc:-9223372036854775808<=c/\c<=9223372036854775807) :
  Ni MK 20 #[Na (MI ⟨g,0,MH⟩),Ny #[MF ME k,MF ME a,MF ME b,MF ME c]] w fun r w'=>∃e,gq e=0/\r=MN (Kb e)/\MQ w.heap.size w w':=by
 obtain⟨k1,b1,p1⟩:=JV a wa 8 8 (by decide);obtain⟨k2,b2,p2⟩:=JV b wb 3 3 (by decide);have HP:M6 (_/\_):=⟨p1,p2⟩;have HB:M6 (_/\_):=⟨b1,b2⟩;have HI:M6 (_/\_/\_/\_):=⟨hg,hl,hrow,hok⟩;have HC:M6 _:=c43;have HW:M6 (_/\_/\_/\_):=⟨wk,wa,wb,wc⟩;clear c43 hg hl hrow hok wk wa wb wc p1 p2 b1 b2;obtain⟨W,hW⟩:∃W,W=(w.alloc (MP #[MF ME k,MF ME a,MF ME b,MF ME c] 82)).alloc (MP #[MF ME 0,MF ME 0,MF ME 0,MF ME 0,M3 Nb,MF ME 0,MF ME 0,MF ME 0] 59):=⟨_,rfl⟩;go_enter Tryz.func20,Tryz.ntmps20
 go_wp2_with fail
 rw[<-hW];obtain⟨D,hD⟩:∃D,D=w.heap.size:=⟨_,rfl⟩;rw[<-hD];have hb0:MQ w.heap.size w W:=by rw[hW];exact((MY _ _).alloc (MV _) _).alloc (by simp) _
 have hsz:W.heap.size=D+2:=by rw[hW,hD];simp
 have hz1:(w.alloc (MP #[MF ME k,MF ME a,MF ME b,MF ME c] 82)).heap.size=D+1:=by rw[hD];simp
 have hbd:W.heap[D]?=MI (MP #[MF ME k,MF ME a,MF ME b,MF ME c] 82 (0,0)):=by
  rw[hW,(ai _).block D (by rw[hz1];omega),hD];exact M1 _ _
 have hbe:W.heap[D+1]?=MI (MP #[MF ME 0,MF ME 0,MF ME 0,MF ME 0,M3 Nb,MF ME 0,MF ME 0,MF ME 0] 59 (0,0)):=by
  rw[hW,<-hz1];exact M1 _ _
 have HD:M6 (_/\_/\_/\_/\_):=⟨hD,hb0,hbd,hbe,hsz⟩;have hDl:D<W.heap.size:=by rw[hsz];omega
 clear hW hD hb0 hz1;have d1:W.cell? ⟨D,1,MH⟩=MI (MF ME a):=by simp[Nl,hbd]
 have d2:W.cell? ⟨D,2,MH⟩=MI (MF ME b):=by simp[Nl,hbd]
 have n1:=World.new_ne W ⟨D,1,MH⟩ d1;have n2:=World.new_ne W ⟨D,2,MH⟩ d2;clear hbd hbe hsz;apply gU
 ·intro KEY
  go_region_held3 (fun X=>X.cell? ⟨D,1,MH⟩=MI (MF ME a)/\X.cell? ⟨D,2,MH⟩=MI (MF ME b)) (first|exact⟨d1,d2⟩|go_keep) (first|(go_at_call 18;first|(refine(HP.out.1 _).mono ?_;rintro r w4 ⟨rfl,rfl⟩)|(refine(HP.out.2 _).mono ?_;rintro r w4 ⟨rfl,rfl⟩)))
  all_goals exact KEY.out
 ·obtain⟨u,hu⟩:∃u,u=(W.alloc (MP #[MF ME (k1:Int),MF ME (k2:Int)] 97)).drew:=⟨_,rfl⟩
  have hub:MQ W.heap.size W u:=by rw[hu];exact(ai W).drew
  have hE:JA w u D k a b c k1 k2:=by
   refine⟨HD.out.1,HD.out.2.1.trans (hub.mono HD.out.2.1.size),(hub.block _ hDl).trans HD.out.2.2.1,(hub.block _ (by rw[HD.out.2.2.2.2];omega)).trans HD.out.2.2.2.1,?_,⟨by omega,by have:=HB.out.1;omega⟩,by omega,by have:=HB.out.2;omega⟩;rw[hu,<-HD.out.2.2.2.2];exact M1 _ _
  have hWs:W.heap.size=D+2:=HD.out.2.2.2.2;rw[<-hu,hWs];have HE:M6 _:=hE;have c43:u.cell? ⟨g,43,MH⟩=MI (MG pg l.length cg):=(hE.bel.cell (p:=⟨g,43,MH⟩) HI.out.1).trans HC.out;have d3:u.cell? ⟨D,3,MH⟩=MI (MF ME c):=hE.Gg.2.2.2.1;obtain⟨k3,b3,p3⟩:=JV c HW.out.2.2.2 9 9 (by decide);have H3:M6 (_/\_):=⟨p3,b3⟩;have hgl:g<u.heap.size:=M8 HI.out.1 hE.bel.size;clear hu hub hE hWs d1 d2 n1 n2 hDl p3 b3;obtain⟨m,hm⟩:∃m,m=l.length:=⟨_,rfl⟩;rw[<-hm]at c43;have HM:M6 _:=hm;clear hm;have hcs:=HE.out.Gg;obtain⟨d0,d1,d2,_,s0,s1,hDl⟩:=hcs;have z0:u.frozen? ⟨D+2,0,MH⟩=false:=by simp[Ng,HE.out.hd]
  have z1:u.frozen? ⟨D+2,1,MH⟩=false:=by simp[Ng,HE.out.hd]
  have h03:(0<m/\0<k3)\/(0<m/\¬0<k3)\/¬0<m:=by omega
  obtain⟨k4,b4,p4⟩:=JV k HW.out.1 20 20 (by decide);obtain⟨k6,b6,p6⟩:=JV a HW.out.2.1 100 100 (by decide);obtain⟨k7,b7,p7⟩:=JV b HW.out.2.2.1 2 2 (by decide);obtain⟨k8,b8,p8⟩:=JV a HW.out.2.1 30 30 (by decide);obtain⟨k9,b9,p9⟩:=JV b HW.out.2.2.1 5 5 (by decide);obtain⟨kc,bc,pc⟩:=JV c HW.out.2.2.2 8 8 (by decide);have HQ:M6 (_/\_/\_/\_/\_/\_):=⟨p4,p6,p7,p8,p9,pc⟩;have HK:M6 (_/\_/\_/\_/\_/\_):=⟨b4,b6,b7,b8,b9,bc⟩;clear p4 p6 p7 p8 p9 pc b4 b6 b7 b8 b9 bc;rcases h03 with h03|h03|h03
  case' inl =>
   have h0I:(0:Int)<(m:Int):=by omega
   have h3I:(0:Int)<(k3:Int):=by omega
   obtain⟨k5,b5,p5⟩:=JV a HW.out.2.1 (min m 8) (min (m:Int) 8) (by omega);obtain⟨j,hj⟩:∃j:Nat,j=m-1-k5:=⟨_,rfl⟩;have hml:m<=1000000:=by rw[HM.out];exact HI.out.2.1
   have hi5:j<l.length:=by rw[<-HM.out];omega
   have w1:IntKind.i64.wrap ((m:Int)-1)=(m:Int)-1:=jn (by omega) (by omega);have w2:IntKind.i64.wrap ((m:Int)-1-(k5:Int))=(j:Int):=by rw[jn (by omega) (by omega)];omega
   have hj1:(j:Int)<(m:Int):=by omega
   have hj2:(0:Int)<=(j:Int):=by omega
   obtain⟨bo,oo,hpg,hbo,r1,r2⟩:=HI.out.2.2.1 j hi5;have hok:=HI.out.2.2.2 _ (Nk hi5);obtain⟨x,hx⟩:∃x,x=l[j]:=⟨_,rfl⟩;rw[<-hx]at r1 r2 hok;have f1:u.cell? ⟨bo,oo+j*2,MH⟩=MI (MF ME x.1):=(HE.out.bel.cell (p:=⟨bo,oo+j*2,MH⟩) hbo).trans r1;have f2:u.cell? ⟨bo,oo+j*2+1,MH⟩=MI (MF ME x.2):=(HE.out.bel.cell (p:=⟨bo,oo+j*2+1,MH⟩) hbo).trans r2;have hmm:min (m:Int) 8<=m:=by omega
   have H5:M6 (_/\_/\_):=⟨p5,b5,hok⟩;have q1:g≠D+2:=by have:=HI.out.1;have:=HE.out.at_;omega
   have q2:bo≠D+2:=by have:=HE.out.at_;omega
   clear p5 hx hok r1 r2 hi5 hbo hj hml;subst hpg
   go_wp2_with (go_at_call 18;refine(H3.out.1 _).mono ?_;rintro r w4 ⟨rfl,rfl⟩)
   apply gU
   focus
    intro KEY
    go_region_held3 (fun X=>X.cell? ⟨g,43,MH⟩=MI (MG (MI ⟨bo,oo,MH⟩) m cg)/\X.cell? ⟨D,1,MH⟩=MI (MF ME a)/\X.cell? ⟨bo,oo+j*2,MH⟩=MI (MF ME x.1)/\X.cell? ⟨bo,oo+j*2+1,MH⟩=MI (MF ME x.2)) (first|exact⟨c43,d1,f1,f2⟩|(simp[*,World.cell?_setCell_far,Pi q1,Pi q2])) (first|(go_at_call 18;refine(H5.out.1 _).mono ?_;rintro r w4 ⟨rfl,rfl⟩))
    all_goals exact KEY.out
   obtain⟨v,hv⟩:∃v,v=((w4.setCell ⟨D+2,0,MH⟩ (MF ME x.1)).setCell ⟨D+2,1,MH⟩ (MF ME x.2)).drew:=⟨_,rfl⟩;have hS:JA w v D k a b c x.1 x.2:=by
    have hoth:∀y,y≠D+2->v.heap[y]?=w4.heap[y]?:=fun y e=>by rw[hv];exact(MU _ _ _ _ (fun e2=>e e2)).trans (MU _ _ _ _ (fun e2=>e e2))
    refine⟨HE.out.at_,?_,(hoth _ (by omega)).trans HE.out.deed,(hoth _ (by omega)).trans HE.out.ev,?_,H5.out.2.2⟩
    ·rw[hv]
     have hD2:w.heap.size<=D+2:=by have:=HE.out.at_;omega
     exact((HE.out.bel.setCell (p:=⟨D+2,0,MH⟩) hD2 _).setCell (p:=⟨D+2,1,MH⟩) hD2 _).drew
    ·rw[hv]
     exact iw HE.out.hd
   have HS:M6 _:=hS;rw[<-hv];clear hv hS HE f1 f2 d0 d1 d2 d3 s0 s1 z0 z1 c43 hmm hj1 hj2 w1 w2 q1 q2 hgl hDl h0I h3I
  case' inr.inl =>
   have h0I:(0:Int)<(m:Int):=by omega
   have h3I:¬(0:Int)<(k3:Int):=by omega
   have HS:M6 _:=HE.out;clear HE d0 d1 d2 s0 s1 z0 z1
  case' inr.inr =>
   have h0I:¬(0:Int)<(m:Int):=by omega
   have HS:M6 _:=HE.out;clear HE d0 d1 d2 s0 s1 z0 z1
  all_goals
   obtain⟨sx,nx,HX⟩:∃sx nx,M6 (JA w _ D k a b c sx nx):=⟨_,_,HS⟩;clear HS;obtain⟨d0,d1,d2,e3,s0,s1,hDk⟩:=HX.out.Gg;rcases(by omega:k4<6\/k4=6\/k4=7\/(8<=k4/\k4<12)\/(12<=k4/\k4<14)\/k4=14\/15<=k4)with h4|h4|h4|h4|h4|h4|h4
   ·have t0:(k4:Int)<6:=by omega
    obtain⟨⟨x0,x1,x2,x3,x4,x5,x6,x7⟩,yf⟩:=HX.out.Md;have y0:=yf 0;have y1:=yf 1;have y2:=yf 2;have y3:=yf 3;have y4:=yf 4;have y5:=yf 5;have y6:=yf 6;have y7:=yf 7;clear yf
    go_wp2_with (go_at_call 18;first|(refine(H3.out.1 _).mono ?_;rintro r w5 ⟨rfl,rfl⟩)|(refine(HQ.out.1 _).mono ?_;rintro r w5 ⟨rfl,rfl⟩)|(refine(HQ.out.2.1 _).mono ?_;rintro r w5 ⟨rfl,rfl⟩))
    exact JY HX.out ⟨1,k6,0,0,Nb,0,0,0⟩ (LB ⟨by omega,by have:=HK.out.2.1;omega⟩) rfl
   ·have t0:¬(k4:Int)<6:=by omega
    have t1:((k4:Int) == 6)=true:=by simp;omega
    obtain⟨⟨x0,x1,x2,x3,x4,x5,x6,x7⟩,yf⟩:=HX.out.Md;have y0:=yf 0;have y1:=yf 1;have y2:=yf 2;have y3:=yf 3;have y4:=yf 4;have y5:=yf 5;have y6:=yf 6;have y7:=yf 7;clear yf
    go_wp2_with (go_at_call 18;first|(refine(H3.out.1 _).mono ?_;rintro r w5 ⟨rfl,rfl⟩)|(refine(HQ.out.1 _).mono ?_;rintro r w5 ⟨rfl,rfl⟩)|(refine(HQ.out.2.1 _).mono ?_;rintro r w5 ⟨rfl,rfl⟩))
    exact JY HX.out ⟨2,0,sx,nx,Nb,0,0,0⟩ (Kk (Nt ⟨Nt rfl,rfl⟩) HX.out.ok.1 HX.out.ok.2) rfl
   ·have t0:¬(k4:Int)<6:=by omega
    have t1:((k4:Int) == 6)=false:=by simp;omega
    have t2:((k4:Int) == 7)=true:=by simp;omega
    obtain⟨⟨x0,x1,x2,x3,x4,x5,x6,x7⟩,yf⟩:=HX.out.Md;have y0:=yf 0;have y1:=yf 1;have y2:=yf 2;have y3:=yf 3;have y4:=yf 4;have y5:=yf 5;have y6:=yf 6;have y7:=yf 7;clear yf
    go_wp2_with (go_at_call 18;first|(refine(H3.out.1 _).mono ?_;rintro r w5 ⟨rfl,rfl⟩)|(refine(HQ.out.1 _).mono ?_;rintro r w5 ⟨rfl,rfl⟩)|(refine(HQ.out.2.1 _).mono ?_;rintro r w5 ⟨rfl,rfl⟩))
    exact JY HX.out ⟨3,0,sx,nx,Nb,0,0,0⟩ (Kk (Nt ⟨NF rfl,rfl⟩) HX.out.ok.1 HX.out.ok.2) rfl
   ·have t0:¬(k4:Int)<6:=by omega
    have t1:((k4:Int) == 6)=false:=by simp;omega
    have t2:((k4:Int) == 7)=false:=by simp;omega
    have t3:(k4:Int)<12:=by omega
    go_wp2_with (go_at_call 18;first|(refine(H3.out.1 _).mono ?_;rintro r w5 ⟨rfl,rfl⟩)|(refine(HQ.out.1 _).mono ?_;rintro r w5 ⟨rfl,rfl⟩)|(refine(HQ.out.2.1 _).mono ?_;rintro r w5 ⟨rfl,rfl⟩))
    obtain⟨S,hS,hSo⟩:∃S:MO->Prop,(∀X,S X->X.cell? ⟨D,2,MH⟩=MI (MF ME b)/\X.cell? ⟨D+2,0,MH⟩=MI (MF ME sx)/\X.cell? ⟨D+2,1,MH⟩=MI (MF ME nx))/\∀X,X.cell? ⟨D,2,MH⟩=MI (MF ME b)/\X.cell? ⟨D+2,0,MH⟩=MI (MF ME sx)/\X.cell? ⟨D+2,1,MH⟩=MI (MF ME nx)->S X:=⟨fun X=>X.cell? ⟨D,2,MH⟩=MI (MF ME b)/\X.cell? ⟨D+2,0,MH⟩=MI (MF ME sx)/\X.cell? ⟨D+2,1,MH⟩=MI (MF ME nx),fun _ h=>h,fun _ h=>h⟩;have HY:M6 (JA w _ D k a b c sx nx):=HX.out.GY;obtain⟨u6,hu6⟩:∃u6,u6=w5.drew.setCells (D+1) 0 (JJ ⟨4,0,sx,nx,((k7:Int) == 0),0,0,0⟩):=⟨_,rfl⟩;have hS6:S u6:=by rw[hu6];exact hSo _ ⟨JX HY.out _ d2 (by omega),JX HY.out _ s0 (by omega),JX HY.out _ s1 (by omega)⟩
    have HU:M6 _:=hu6;clear hu6;refine O2 (S:=S) (by kernel_rfl) (hSo _ ⟨d2,s0,s1⟩) (fun hHeld=>?_);refine o5 0 (Na (MI ⟨D+2,0,MH⟩)) hHeld ?_;simp only[Nr,MZ,MT,MS,MJ,ML,MM];refine o5 1 (MF ME sx) hHeld ?_ (hy:=Nt ⟨by rfl,fun X hSw=>by have hSx:=hS X hSw;go_simp⟩);simp only[Nr,MZ,MT,MS,MJ,ML,MM];refine o5 2 (Na (MI ⟨D+2,1,MH⟩)) hHeld ?_;simp only[Nr,MZ,MT,MS,MJ,ML,MM];refine o5 3 (MF ME nx) hHeld ?_ (hy:=Nt ⟨by rfl,fun X hSw=>by have hSx:=hS X hSw;go_simp⟩);simp only[Nr,MZ,MT,MS,MJ,ML,MM];refine o5 4 (Na (MI ⟨D,2,MH⟩)) hHeld ?_;simp only[Nr,MZ,MT,MS,MJ,ML,MM];refine o5 5 (MF ME b) hHeld ?_ (hy:=Nt ⟨by rfl,fun X hSw=>by have hSx:=hS X hSw;go_simp⟩);simp only[Nr,MZ,MT,MS,MJ,ML,MM];refine NN (rs:=[6]) (by kernel_rfl) (by simp) ?_;refine NP (o:=_) rfl (fun K hK=>?_) NX;go_simp;refine Nd (HQ.out.2.2.1 _) ?_;rintro r w6 ⟨rfl,rfl⟩
    go_wp2_with fail
    refine hK.out _ _ hHeld (fun hHeld=>?_);clear hK K
    try simp only[Nr,MZ,MT,MS,MJ,ML,MM]
    refine o5 7 (M3 ((k7:Int) == 0)) hHeld ?_;simp only[Nr,MZ,MT,MS,MJ,ML,MM];refine o5 8 (Ny (JJ ⟨4,0,sx,nx,((k7:Int) == 0),0,0,0⟩).toArray) hHeld ?_;simp only[Nr,MZ,MT,MS,MJ,ML,MM];refine NN (rs:=[9]) (by kernel_rfl) (by simp) ?_;refine Kp (i:=9) (o:=_) (by rfl) (by rfl) 59 (O6 4) (O6 85) (by rfl) (D+1) 0 (JJ ⟨4,0,sx,nx,((k7:Int) == 0),0,0,0⟩).toArray (by rfl) (by rfl) (Ki HY.out _) Kn (Kj _) (by rw[NS,<-HU.out];exact hS6) ?_;rw[NS,<-HU.out]
    try simp only[Nr,MZ,MT,MS,MJ,ML,MM]
    refine PS (by kernel_rfl) ?_ _
    go_wp2_with fail
    rw[HU.out];exact JY HY.out ⟨4,0,sx,nx,((k7:Int) == 0),0,0,0⟩ (Kk (NF rfl) HX.out.ok.1 HX.out.ok.2) rfl
   ·have t0:¬(k4:Int)<6:=by omega
    have t1:((k4:Int) == 6)=false:=by simp;omega
    have t2:((k4:Int) == 7)=false:=by simp;omega
    have t3:¬(k4:Int)<12:=by omega
    have t4:(k4:Int)<14:=by omega
    go_wp2_with (go_at_call 18;first|(refine(H3.out.1 _).mono ?_;rintro r w5 ⟨rfl,rfl⟩)|(refine(HQ.out.1 _).mono ?_;rintro r w5 ⟨rfl,rfl⟩)|(refine(HQ.out.2.1 _).mono ?_;rintro r w5 ⟨rfl,rfl⟩))
    have hw8:IntKind.i64.wrap (1+(kc:Int))=1+kc:=jn (by omega) (by have:=HK.out.2.2.2.2.2;omega);obtain⟨S,hS,hSo⟩:∃S:MO->Prop,(∀X,S X->X.cell? ⟨D,1,MH⟩=MI (MF ME a)/\X.cell? ⟨D,2,MH⟩=MI (MF ME b)/\X.cell? ⟨D,3,MH⟩=MI (MF ME c))/\∀X,X.cell? ⟨D,1,MH⟩=MI (MF ME a)/\X.cell? ⟨D,2,MH⟩=MI (MF ME b)/\X.cell? ⟨D,3,MH⟩=MI (MF ME c)->S X:=⟨fun X=>X.cell? ⟨D,1,MH⟩=MI (MF ME a)/\X.cell? ⟨D,2,MH⟩=MI (MF ME b)/\X.cell? ⟨D,3,MH⟩=MI (MF ME c),fun _ h=>h,fun _ h=>h⟩;have HY:M6 (JA w _ D k a b c sx nx):=HX.out.GY;obtain⟨u6,hu6⟩:∃u6,u6=w5.drew.setCells (D+1) 0 (JJ ⟨5,0,0,0,Nb,k8,k9,1+kc⟩):=⟨_,rfl⟩;have hS6:S u6:=by rw[hu6];exact hSo _ ⟨JX HY.out _ d1 (by omega),JX HY.out _ d2 (by omega),JX HY.out _ e3 (by omega)⟩
    have HU:M6 _:=hu6;clear hu6;refine O2 (S:=S) (by kernel_rfl) (hSo _ ⟨d1,d2,e3⟩) (fun hHeld=>?_);refine o5 0 (Na (MI ⟨D,1,MH⟩)) hHeld ?_;simp only[Nr,MZ,MT,MS,MJ,ML,MM];refine o5 1 (MF ME a) hHeld ?_ (hy:=Nt ⟨by rfl,fun X hSw=>by have hSx:=hS X hSw;go_simp⟩);simp only[Nr,MZ,MT,MS,MJ,ML,MM];refine o5 3 (Na (MI ⟨D,2,MH⟩)) hHeld ?_;simp only[Nr,MZ,MT,MS,MJ,ML,MM];refine o5 4 (MF ME b) hHeld ?_ (hy:=Nt ⟨by rfl,fun X hSw=>by have hSx:=hS X hSw;go_simp⟩);simp only[Nr,MZ,MT,MS,MJ,ML,MM];refine o5 6 (Na (MI ⟨D,3,MH⟩)) hHeld ?_;simp only[Nr,MZ,MT,MS,MJ,ML,MM];refine o5 7 (MF ME c) hHeld ?_ (hy:=Nt ⟨by rfl,fun X hSw=>by have hSx:=hS X hSw;go_simp⟩);simp only[Nr,MZ,MT,MS,MJ,ML,MM];refine NN (rs:=[2]) (by kernel_rfl) (by simp) ?_;refine NP (o:=_) rfl (fun K hK=>?_) NX;go_simp;refine Nd (HQ.out.2.2.2.1 _) ?_;rintro r w6 ⟨rfl,rfl⟩
    go_wp2_with fail
    refine hK.out _ _ hHeld (fun hHeld=>?_);clear hK K
    try simp only[Nr,MZ,MT,MS,MJ,ML,MM]
    refine NN (rs:=[5]) (by kernel_rfl) (by simp) ?_;refine NP (o:=_) rfl (fun K hK=>?_) NX;go_simp;refine Nd (HQ.out.2.2.2.2.1 _) ?_;rintro r w6 ⟨rfl,rfl⟩
    go_wp2_with fail
    refine hK.out _ _ hHeld (fun hHeld=>?_);clear hK K
    try simp only[Nr,MZ,MT,MS,MJ,ML,MM]
    refine NN (rs:=[8]) (by kernel_rfl) (by simp) ?_;refine NP (o:=_) rfl (fun K hK=>?_) NX;go_simp;refine Nd (HQ.out.2.2.2.2.2 _) ?_;rintro r w6 ⟨rfl,rfl⟩
    go_wp2_with fail
    refine hK.out _ _ hHeld (fun hHeld=>?_);clear hK K
    try simp only[Nr,MZ,MT,MS,MJ,ML,MM]
    refine o5 9 (MF ME (1+(kc:Int))) hHeld ?_;simp only[Nr,MZ,MT,MS,MJ,ML,MM];refine o5 10 (Ny (JJ ⟨5,0,0,0,Nb,k8,k9,1+kc⟩).toArray) hHeld ?_;simp only[Nr,MZ,MT,MS,MJ,ML,MM];refine NN (rs:=[11]) (by kernel_rfl) (by simp) ?_;refine Kp (i:=11) (o:=_) (by rfl) (by rfl) 59 (O6 4) (O6 99) (by rfl) (D+1) 0 (JJ ⟨5,0,0,0,Nb,k8,k9,1+kc⟩).toArray (by rfl) (by rfl) (Ki HY.out _) Kn (Kj _) (by rw[NS,<-HU.out];exact hS6) ?_;rw[NS,<-HU.out]
    try simp only[Nr,MZ,MT,MS,MJ,ML,MM]
    refine PS (by kernel_rfl) ?_ _
    go_wp2_with fail
    rw[HU.out];exact JY HY.out ⟨5,0,0,0,Nb,k8,k9,1+kc⟩ (KP ⟨by omega,by have:=HK.out.2.2.2.1;omega⟩ ⟨by omega,by have:=HK.out.2.2.2.2.1;omega⟩ ⟨by omega,by have:=HK.out.2.2.2.2.2;omega⟩) rfl
   ·have t0:¬(k4:Int)<6:=by omega
    have t1:((k4:Int) == 6)=false:=by simp;omega
    have t2:((k4:Int) == 7)=false:=by simp;omega
    have t3:¬(k4:Int)<12:=by omega
    have t4:¬(k4:Int)<14:=by omega
    have t5:((k4:Int) == 14)=true:=by simp;omega
    go_wp2_with (go_at_call 18;first|(refine(H3.out.1 _).mono ?_;rintro r w5 ⟨rfl,rfl⟩)|(refine(HQ.out.1 _).mono ?_;rintro r w5 ⟨rfl,rfl⟩)|(refine(HQ.out.2.1 _).mono ?_;rintro r w5 ⟨rfl,rfl⟩))
    obtain⟨S,hS,hSo⟩:∃S:MO->Prop,(∀X,S X->X.cell? ⟨D,1,MH⟩=MI (MF ME a)/\X.cell? ⟨D,2,MH⟩=MI (MF ME b))/\∀X,X.cell? ⟨D,1,MH⟩=MI (MF ME a)/\X.cell? ⟨D,2,MH⟩=MI (MF ME b)->S X:=⟨fun X=>X.cell? ⟨D,1,MH⟩=MI (MF ME a)/\X.cell? ⟨D,2,MH⟩=MI (MF ME b),fun _ h=>h,fun _ h=>h⟩;have HY:M6 (JA w _ D k a b c sx nx):=HX.out.GY;obtain⟨u6,hu6⟩:∃u6,u6=w5.drew.setCells (D+1) 0 (JJ ⟨6,0,0,0,Nb,k8,k9,0⟩):=⟨_,rfl⟩;have hS6:S u6:=by rw[hu6];exact hSo _ ⟨JX HY.out _ d1 (by omega),JX HY.out _ d2 (by omega)⟩
    have HU:M6 _:=hu6;clear hu6;refine O2 (S:=S) (by kernel_rfl) (hSo _ ⟨d1,d2⟩) (fun hHeld=>?_);refine o5 0 (Na (MI ⟨D,1,MH⟩)) hHeld ?_;simp only[Nr,MZ,MT,MS,MJ,ML,MM];refine o5 1 (MF ME a) hHeld ?_ (hy:=Nt ⟨by rfl,fun X hSw=>by have hSx:=hS X hSw;go_simp⟩);simp only[Nr,MZ,MT,MS,MJ,ML,MM];refine o5 3 (Na (MI ⟨D,2,MH⟩)) hHeld ?_;simp only[Nr,MZ,MT,MS,MJ,ML,MM];refine o5 4 (MF ME b) hHeld ?_ (hy:=Nt ⟨by rfl,fun X hSw=>by have hSx:=hS X hSw;go_simp⟩);simp only[Nr,MZ,MT,MS,MJ,ML,MM];refine NN (rs:=[2]) (by kernel_rfl) (by simp) ?_;refine NP (o:=_) rfl (fun K hK=>?_) NX;go_simp;refine Nd (HQ.out.2.2.2.1 _) ?_;rintro r w6 ⟨rfl,rfl⟩
    go_wp2_with fail
    refine hK.out _ _ hHeld (fun hHeld=>?_);clear hK K
    try simp only[Nr,MZ,MT,MS,MJ,ML,MM]
    refine NN (rs:=[5]) (by kernel_rfl) (by simp) ?_;refine NP (o:=_) rfl (fun K hK=>?_) NX;go_simp;refine Nd (HQ.out.2.2.2.2.1 _) ?_;rintro r w6 ⟨rfl,rfl⟩
    go_wp2_with fail
    refine hK.out _ _ hHeld (fun hHeld=>?_);clear hK K
    try simp only[Nr,MZ,MT,MS,MJ,ML,MM]
    refine o5 6 (Ny (JJ ⟨6,0,0,0,Nb,k8,k9,0⟩).toArray) hHeld ?_;simp only[Nr,MZ,MT,MS,MJ,ML,MM];refine NN (rs:=[7]) (by kernel_rfl) (by simp) ?_;refine Kp (i:=7) (o:=_) (by rfl) (by rfl) 59 (O6 4) (O6 109) (by rfl) (D+1) 0 (JJ ⟨6,0,0,0,Nb,k8,k9,0⟩).toArray (by rfl) (by rfl) (Ki HY.out _) Kn (Kj _) (by rw[NS,<-HU.out];exact hS6) ?_;rw[NS,<-HU.out]
    try simp only[Nr,MZ,MT,MS,MJ,ML,MM]
    refine PS (by kernel_rfl) ?_ _
    go_wp2_with fail
    rw[HU.out];exact JY HY.out ⟨6,0,0,0,Nb,k8,k9,0⟩ (LC ⟨by omega,by have:=HK.out.2.2.2.1;omega⟩ ⟨by omega,by have:=HK.out.2.2.2.2.1;omega⟩) rfl
   ·have t0:¬(k4:Int)<6:=by omega
    have t1:((k4:Int) == 6)=false:=by simp;omega
    have t2:((k4:Int) == 7)=false:=by simp;omega
    have t3:¬(k4:Int)<12:=by omega
    have t4:¬(k4:Int)<14:=by omega
    have t5:((k4:Int) == 14)=false:=by simp;omega
    obtain⟨⟨x0,x1,x2,x3,x4,x5,x6,x7⟩,yf⟩:=HX.out.Md;have y0:=yf 0;have y1:=yf 1;have y2:=yf 2;have y3:=yf 3;have y4:=yf 4;have y5:=yf 5;have y6:=yf 6;have y7:=yf 7;clear yf
    go_wp2_with (go_at_call 18;first|(refine(H3.out.1 _).mono ?_;rintro r w5 ⟨rfl,rfl⟩)|(refine(HQ.out.1 _).mono ?_;rintro r w5 ⟨rfl,rfl⟩)|(refine(HQ.out.2.1 _).mono ?_;rintro r w5 ⟨rfl,rfl⟩))
    exact JY HX.out ⟨7,0,0,0,Nb,0,0,0⟩ KQ rfl
end Go.Proofs.YtlnbhjdhcmgljaaGreatDoor.Q
