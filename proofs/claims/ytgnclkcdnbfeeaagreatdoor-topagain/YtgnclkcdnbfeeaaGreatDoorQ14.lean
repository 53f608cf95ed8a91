/-
  Contracts of the layers and of core, part 14. Conditions: as each theorem says.
-/
import Derived.Test.YtgnclkcdnbfeeaaGreatDoorQ13
open Array renaming length_toList->Om
open Bool renaming false->Nb,true->Nw
open Decidable renaming decide->Nn
open Go renaming Addr->Oc,Calls->Ni,Value->M7,World->MO,cell_of_row->MW,heap_alloc_new->M1,info_parts->OF,maxLen->NE,wpList_append_lies->O9
open Go.Addr.mk renaming injEq->Q1
open Go.Builtin renaming append_->N2
open Go.Calls renaming mono->Nd,quiet_of->Qe
open Go.Ending renaming returned->MN
open Go.Extern.SlicesOverlaps renaming overlaps->P9
open Go.IntKind renaming i64->ME,wrap_i64->Ow
open Go.Obj renaming cells->MP
open Go.Proofs.Tryz renaming func121->T0,func125->azu,func135->UL,func169->UM,func174->Wr,func183->Ws,func56->azX,func83->Vw,func91->TP,ntmps121->TU,ntmps125->azo,ntmps135->Uz,ntmps169->UA,ntmps183->Wg,ntmps56->azT,ntmps83->Vt,ntmps91->TI,prog->MK,underlying3->Ol,underlying40->U3
open Go.RowKit renaming Below->MQ,Hid->M6
open Go.RowKit.Below renaming heap_setCell->MU,refl->MY
open Go.Value renaming agg->Ny,bool->M3,int->MF,slice->MG,tuple->Nv
open Go.Value.slice renaming injEq->N4
open Go.World renaming block_lt_of_cell?->MX,frozen?->Ng,frozen?_of_block->OM,ownsRow_nil->NY,shape?->QO
open Int renaming eq_ofNat_of_zero_le->NL,toNat_natCast->NR
open List renaming append_nil->OG,countP_append->Qi,drop_append->Qa,drop_eq_nil_of_le->PI,ext_getElem->PX,filter_append->OY,getElem?_drop->Pa,getElem_mem->Nk,getElem_set->Pc,getElem_set_self->NW,length_append->Ns,length_drop->NJ,length_filter_le->O1,length_map->N0,length_set->NA,length_take->NH,length_zip->Qn,map_append->OI,mem_cons->OO,mem_of_getElem?->Nu,not_mem_nil->OD,range->Pm,replicate->Nj,take_append_of_le_length->ZqA,take_left->Qb,take_length->NT,take_succ_eq_append_getElem->M9
open Nat renaming le_refl->MV,le_succ->Ps,le_trans->Nm,lt_of_lt_of_le->M8,lt_or_ge->Oq,min_def->PR,zero_le->Nx
open Option renaming none->MH,some->MI
open Option.some renaming injEq->Qs
open Or renaming inl->Nt,inr->NF
namespace Go.Proofs.YtgnclkcdnbfeeaaGreatDoor.Q
set_option linter.unusedVariables false
set_option linter.unusedSimpArgs false
set_option maxHeartbeats 16000000
set_option maxRecDepth 100000
open Go.RowKit
attribute [local go_sem ↓] Go.wp_at_zero Go.wp_at_succ
variable {b key:Int}{i k:Nat}
section
variable {base:Nat}{w:MO}{g:Nat}{V:Vs}{G:Gt}
theorem OR.G5(h:OR base w g V G)(hi:i<12):
  ∃m x,V.ms[i]?=MI m/\G.hea[i]?=MI x/\G.hea.getD i XM=x/\w.cell? ⟨V.bh,i*4,MH⟩=MI (MG m.1 x.marks.length m.2)/\w.cell? ⟨V.bh,i*4+1,MH⟩=MI (M3 x.out)/\w.cell? ⟨V.bh,i*4+2,MH⟩=MI (MF ME x.till)/\w.cell? ⟨V.bh,i*4+3,MH⟩=MI (MF ME x.times)/\(∀j,w.frozen? ⟨V.bh,j,MH⟩=Nb)/\V.bh<w.heap.size:=by
 obtain⟨m,x,f,d,e,o⟩:=akN h.rest hi;obtain⟨n,c⟩:=List.getElem?_eq_some_iff.1 e;have l:(12:Nat)=(V.ms.zip G.hea).length:=by rw[Qn,h.rest.msl,h.rest.hel];rfl
 have a:=fun j (hj:j<4)=>abU aci h.rest.hea l n hj
 simp only[c]at a;exact⟨m,x,f,d,o,(a 0 (by omega)).trans rfl,(a 1 (by omega)).trans rfl,(a 2 (by omega)).trans rfl,(a 3 (by omega)).trans rfl,fun j=>h.rest.hea.frozenAt j,(h.rest.hea.lt V.bh rfl).2⟩
theorem OR.G8(h:OR base w g V G):12<=V.ch/\V.ch<=9223372036854775807:=by
 rcases h.rest.hea.2 with⟨a,_⟩|⟨f,j,e,a,_,_,d,c,_⟩
 ·cases a
 ·cases a
  unfold NE at c;exact⟨d,c⟩
theorem aq4(h:OR base w g V G)(hbs:Bs G){l:awV}(hl:l∈G.liv) :
  Ni MK 169 #[gP g,abR l] w fun r w'=>r=MN (MF ME (abV G l))/\MQ w.heap.size w w':=by
 obtain⟨F,p,a,c,q,u⟩:=l;have T:=(hbs.lf hl).1;have B:=hbs.since _ hl;have L:=hbs.now;have n:=hbs.cfg.2.2.2.2.1;obtain⟨⟨f,o⟩,⟨C,y⟩,⟨z,A⟩,_⟩:=T;have f:0<=F:=f;have o:F<=11:=o;obtain⟨k,rfl⟩:=NL f;obtain⟨W,d⟩:∃W,W=w.alloc (YQ ((k:Int),p,a,c,q,u)):=⟨_,rfl⟩;have s:MQ w.heap.size w W:=by rw[d];exact WQ w
 have j:W.heap[w.heap.size]?=MI (YQ ((k:Int),p,a,c,q,u)):=by rw[d];exact M1 _ _
 have e:=h.below s;obtain⟨m,x,_,_,K,_,t,_,_,_,O⟩:=e.G5 (i:=k) (by omega);have S:W.cell? ⟨w.heap.size,0,MH⟩=MI (MF ME (k:Int)):=by rw[MW W _ 0 _ _ (0,0) j];rfl
 have J:W.cell? ⟨w.heap.size,2,MH⟩=MI (MF ME a):=by rw[MW W _ 2 _ _ (0,0) j];rfl
 have I:W.cell? ⟨w.heap.size,3,MH⟩=MI (MF ME c):=by rw[MW W _ 3 _ _ (0,0) j];rfl
 have N:=e.GI;have D:=e.Gm;have c4:=e.c4;have P:=e.lt;have U:=h.G8;have Y:(k:Int)<12:=by omega
 have a0:(0:Int)<=(k:Int):=by omega
 obtain⟨E,M⟩:∃E,E=G.now:=⟨_,rfl⟩;have v:abV G ((k:Int),p,a,c,q,u)=if x.out=Nw then 0 else aw1 a (G.now-c) G.cfg.warm:=by
  unfold abV;simp only[NR];rw[K]
 have Q:M6 (∀W':MO,Ni MK 218 #[MF ME a,MF ME c,MF ME G.now,MF ME G.cfg.warm] W' fun r w'=>r=MN (Nv #[MF ME (aw1 a (G.now-c) G.cfg.warm),MF ME 0])/\w'=W'):=fun W' =>
  auu a c G.now G.cfg.warm W' C y ⟨z,A,n.1,n.2⟩ B (by omega)
 have H:M6 (_/\_):=⟨s,v⟩;clear h hbs hl B L n f o C y z A s j e K v M;cases ho:x.out
 ·rw[H.out.2,ho,Nf (by decide)]
  rw[ho]at t;go_enter UM,UA
  go_wp2_with fail
  rw[<-d];clear d
  go_quiet (fail)
  have z2:(W.drewN nq).cell? ⟨w.heap.size,2,MH⟩=MI (MF ME a):=J;have z3:(W.drewN nq).cell? ⟨w.heap.size,3,MH⟩=MI (MF ME c):=I;have Z:(W.drewN nq).cell? ⟨g,16,MH⟩=MI (MF ME G.now):=D;have z4:(W.drewN nq).cell? ⟨g,4,MH⟩=MI (MF ME G.cfg.warm):=c4;have R:M6 _:=ZE H.out.1 nq;generalize W.drewN nq=W1 at *;clear S J I D c4 N t P O
  go_wp2_with fail
  go_quiet ((go_at_call 218;exact Qe ((Q.out _).mono fun r w' h=>⟨h.1,0,h.2⟩)))
  go_wp2;go_ret;exact⟨rfl,ZE R.out _⟩
 ·rw[H.out.2,ho,Nh rfl]
  rw[ho]at t;go_enter UM,UA
  go_wp2_with fail
  rw[<-d];clear d
  go_quiet (fail)
  go_wp2;go_ret;exact⟨rfl,ZE H.out.1 _⟩
end
section
variable {base:Nat}{w:MO}{g:Nat}{V:Vs}{G:Gt}
theorem aoj(L:List awV)(x:awV):abN (L++[x])=abN L+if x.2.1=2 then 1 else 0:=by
 unfold abN;rw[Qi]
 by_cases h:x.2.1=2 <;> simp[h]
theorem aqg(L:List awV)(x:awV)(H:List He):abf (L++[x]) H=abf L H+if x.2.1=2/\(H.getD x.1.toNat XM).out=Nw then 1 else 0:=by
 unfold abf;rw[Qi,List.countP_singleton];generalize H.getD x.1.toNat XM=y
 by_cases h:x.2.1=2
 ·cases h2:y.out <;> simp[h]
 ·have:(x.2.1 == 2)=false:=by rw[Oh];exact h
  simp[h,this]
theorem aoi(L:List awV):abN L<=L.length:=List.countP_le_length
theorem aqf(L:List awV)(H:List He):abf L H<=L.length:=List.countP_le_length
theorem ap5(h:OR base w g V G)(hbs:Bs G)(b:Int) :
  Ni MK 183 #[gP g,MF ME b] w fun r w'=>r=MN (M3 (abS G b))/\MQ w.heap.size w w':=by
 have b6:=hbs.book.1.1;have a8:=h.Gn;have f0:=h.lt;have e8:=h.G8;obtain⟨al,d4,b0,b7,a7,a4⟩:=adt.F6 h.rest.book.now.1;injection b0 with el1 _ el3;unfold NE at a7;rw[el1,el3]at a8;obtain⟨N,Z⟩:∃N,N=abS G b:=⟨_,rfl⟩;rw[<-Z];have H:M6 (_/\_/\_):=⟨h,hbs,a4⟩;have HN:M6 _:=Z;clear h hbs a4 el1 el3 Z;go_enter Ws,Wg;go_wp2
 go_loopw [5,6,18] (fun s5 s6 t wr=>∃k:Nat,s5=MF ME (abN (G.liv.take k):Nat)/\s6=MF ME (abf (G.liv.take k) G.hea:Nat)/\t=MF ME k/\k<=G.liv.length/\MQ w.heap.size w wr) (fun _ _ t _=>G.liv.length-(intOf t).toNat)
 case atStart=>exact⟨0,rfl,rfl,rfl,Nx _,MY _ _⟩
 case round =>
  obtain⟨k,rfl,rfl,rfl,hk,a⟩:=hrel
  by_cases hlt:k<G.liv.length
  ·obtain⟨s,v,a9,d,I,B,C,E,F,J⟩:=H.out.2.2 k hlt
   subst a9;have j:=(H.out.2.1.lf (Nk hlt)).1.1;have P:G.liv.take (k+1)=G.liv.take k++[G.liv[k]]:=M9 hlt;have f:=aoj (G.liv.take k) G.liv[k];have e:=aqg (G.liv.take k) G.liv[k] G.hea;rw[<-P]at f e;have a5:=aoi (G.liv.take k);have a6:=aqf (G.liv.take k) G.hea;rw[NH]at a5 a6;obtain⟨⟨x1,x2,S,T,U,Y⟩,M⟩:∃x,x=G.liv[k]:=⟨_,rfl⟩;rw[<-M]at I B C E F J j f e;have j:0<=x1/\x1<=11:=j;obtain⟨n,rfl⟩:=NL j.1;have b4:(n:Int)<12:=by omega
   have d2:(0:Int)<=(n:Int):=by omega
   obtain⟨D,L⟩:∃D,D=abN (G.liv.take k):=⟨_,rfl⟩;obtain⟨l,R⟩:∃l,l=abf (G.liv.take k) G.hea:=⟨_,rfl⟩;rw[<-L]at f a5⊢;rw[<-R]at e a6⊢;have b3:IntKind.i64.wrap ((D:Int)+1)=(D:Int)+1:=by rw[Ow];omega
   have b5:IntKind.i64.wrap ((l:Int)+1)=(l:Int)+1:=by rw[Ow];omega
   have e0:=(a.cell (p:=⟨s,v+k*6,MH⟩) d).trans I;have e1:=(a.cell (p:=⟨s,v+k*6+1,MH⟩) d).trans B;have e2:=(a.cell (p:=⟨s,v+k*6+2,MH⟩) d).trans C;have e3:=(a.cell (p:=⟨s,v+k*6+3,MH⟩) d).trans E;have e4:=(a.cell (p:=⟨s,v+k*6+4,MH⟩) d).trans F;have e5:=(a.cell (p:=⟨s,v+k*6+5,MH⟩) d).trans J;have d0:s<wr.heap.size:=M8 d a.size;have d3:(k:Int)<(G.liv.length:Int):=by omega
   by_cases h2:x2=2
   ·subst h2
    obtain⟨q,u⟩:∃q,q=wr.alloc (YQ ((n:Int),2,S,T,U,Y)):=⟨_,rfl⟩;have y:MQ wr.heap.size wr q:=by rw[u];exact WQ wr
    have Q:q.heap[wr.heap.size]?=MI (YQ ((n:Int),2,S,T,U,Y)):=by rw[u];exact M1 _ _
    have A:=(H.out.1.below a).below y;obtain⟨m,x,_,_,f4,_,q1,_,_,_,d7⟩:=A.G5 (i:=n) (by omega);have y0:q.cell? ⟨wr.heap.size,0,MH⟩=MI (MF ME (n:Int)):=by rw[MW q _ 0 _ _ (0,0) Q];rfl
    have e9:=A.GI;have b9:=A.lt;have d5:wr.heap.size<q.heap.size:=(Array.getElem?_eq_some_iff.1 Q).1;have a0:(G.hea.getD ((n:Int),(2:Int),S,T,U,Y).1.toNat XM).out=x.out:=by rw[<-f4];rfl
    rw[a0]at e;cases ho:x.out
    ·rw[ho]at q1
     have c:M6 (_/\_/\_):=⟨f,(by rw[e,ho,Nf (by simp)];rfl:abf (G.liv.take (k+1)) G.hea=l),a.trans (y.mono a.size)⟩;clear a y Q A f4 a0 f e P M I B C E F J j L R d
     go_wp2_with fail
     rw[<-u];clear u
     go_quiet (fail)
     go_wp2
     go_roundw
     case rel=>exact⟨k+1,by rw[c.out.1];rfl,by rw[c.out.2.1],by simp,hlt,ZE c.out.2.2 _⟩
     case measure=>simp[intOf];omega
    ·rw[ho]at q1
     have c:M6 (_/\_/\_):=⟨f,(by rw[e,ho,Nh ⟨rfl,rfl⟩]:abf (G.liv.take (k+1)) G.hea=l+1),a.trans (y.mono a.size)⟩;clear a y Q A f4 a0 f e P M I B C E F J j L R d
     go_wp2_with fail
     rw[<-u];clear u
     go_quiet (fail)
     go_wp2
     go_roundw
     case rel=>exact⟨k+1,by rw[c.out.1];rfl,by rw[c.out.2.1];rfl,by simp,hlt,ZE c.out.2.2 _⟩
     case measure=>simp[intOf];omega
   ·have d8:(x2 != 2)=true:=by simpa using h2
    have c:M6 (_/\_/\_):=⟨(by rw[f,Nf h2];rfl:abN (G.liv.take (k+1))=D),(by rw[e,Nf (fun h=>h2 h.1)];rfl:abf (G.liv.take (k+1)) G.hea=l),a.trans ((WQ wr (o:=YQ ((n:Int),x2,S,T,U,Y))).mono a.size)⟩;clear a f e P M I B C E F J j L R d;go_wp2
    go_roundw
    case rel=>exact⟨k+1,by rw[c.out.1],by rw[c.out.2.1],by simp,hlt,c.out.2.2⟩
    case measure=>simp[intOf];omega
  ·obtain rfl:k=G.liv.length:=by omega
   rw[NT];have b8:¬((G.liv.length:Int)<(G.liv.length:Int)):=by omega
   obtain⟨O,hO⟩:∃O,O=acP (abf G.liv G.hea:Int) (abN G.liv:Int) G.cfg.most:=⟨_,rfl⟩;have HA:M6 (∀X:MO,Ni MK 227 #[MF ME (abf G.liv G.hea:Int),MF ME (abN G.liv:Int),MF ME G.cfg.most] X fun r w'=>r=MN (Nv #[M3 O.1,MF ME O.2])/\w'=X):=by
    rw[hO];exact fun X=>arw _ _ _ X
   have K:=H.out.1.below a;have d9:=K.c9;have b2:=K.lt;obtain⟨x,hx⟩:∃x,x=WS G.liv b:=⟨_,rfl⟩;have z:M6 (_/\_):=⟨afR K b,a⟩;rw[<-hx]at z;have HE:M6 (N=(O.1 && (x.2.1 == 2))):=by show N=_;rw[HN.out];unfold abS;rw[<-hO,hx]
   clear K hO hx;have d1:∀X:MO,(Instr.field 186 (abR x) 1).run MK X=.ok (MF ME x.2.1) X:=fun X=>by kernel_rfl
   cases hO1:O.1
   ·go_wp2_with fail
    refine(HA.out _).mono ?_;rw[hO1];rintro r w3 ⟨rfl,rfl⟩;go_wp2;go_ret;exact⟨by rw[HE.out,hO1];rfl,z.out.2⟩
   ·go_wp2_with fail
    refine(HA.out _).mono ?_;rw[hO1];rintro r w3 ⟨rfl,rfl⟩
    go_wp2_with fail
    refine Nd z.out.1 ?_;rintro r w4 ⟨rfl,a3⟩;have HB:M6 _:=z.out.2.trans (a3.mono z.out.2.size);clear a3;go_wp2;go_ret;exact⟨by rw[HE.out,hO1];rfl,HB.out⟩
abbrev abQ(p:Option Oc)(c:Nat)(x:He):Value:=Ny #[MG p x.marks.length c,M3 x.out,MF ME x.till,MF ME x.times]
theorem OR.Hz(h:OR base w g V G){w':MO}(hb:MQ w.heap.size w w')(i:Nat)(a b c d:M7)(ms:List Mk) :
  WV V {V with ms:=ms} g w ((((w'.setCell ⟨V.bh,i*4,MH⟩ a).setCell ⟨V.bh,i*4+1,MH⟩ b).setCell ⟨V.bh,i*4+2,MH⟩ c).setCell ⟨V.bh,i*4+3,MH⟩ d):=by
 refine⟨hb.os,hb.tape,hb.output,by simpa using hb.size,fun k hk hn=>?_,fun _ h=>Nt h⟩;have f:k≠V.bh:=fun e=>hn (NF (Nt e))
 rw[MU _ _ _ _ f,MU _ _ _ _ f,MU _ _ _ _ f,MU _ _ _ _ f];exact hb.block k hk
theorem akO(h:OR base w g V G)(hbs:Bs G)(hb:0<=b/\b<12)(fl:Bool):
  Ni MK 133 #[gP g,MF ME b,M3 fl] w (aaa base w g V (Yh G b fl)):=by
 obtain⟨k,rfl⟩:=NL hb.1;have I:k<12:=by omega
 obtain⟨m,x,L,A,M,q0,q1,U,T,J,n⟩:=h.G5 I;have C:=h.rest.marks k m x L A;have E:=hbs.hea x (Nu A);have S:x.marks.length<=16:=by have:=E.1;have:=hbs.Gx.1.2;omega
 obtain⟨y,v⟩:∃y,y=afT G (k:Int) fl:=⟨_,rfl⟩;have u:y=afO (Zt G.cfg.wn G.cfg.wf G.cfg.wh x.marks x.out x.till x.times fl G.now (abS G k)).1:=by
  rw[v];unfold afT;rw[NR,M]
 have B:Yh G (k:Int) fl={G with hea:=G.hea.set k y}:=by unfold Yh;rw[NR,v]
 rw[B];have d0:=h.GI;have b5:=h.lt;have b8:=h.G8;have b4:¬g=V.bh:=fun e=>h.rest.hg e.symm
 have a0:¬V.bh=g:=h.rest.hg;have a6:(k:Int)<12:=by omega
 have b0:(0:Int)<=(k:Int):=by omega
 have a9:=h.GS;have b2:=h.GU;have a7:=h.GO;have b9:=h.Gm;have q:∀ {X:MO},OR base X g V G->X.cell? ⟨g,13,MH⟩=MI (MF ME G.cfg.wn)/\X.cell? ⟨g,14,MH⟩=MI (MF ME G.cfg.wf)/\X.cell? ⟨g,15,MH⟩=MI (MF ME G.cfg.wh)/\X.cell? ⟨g,16,MH⟩=MI (MF ME G.now):=fun {X} hX=>⟨hX.GS,hX.GU,hX.GO,hX.Gm⟩
 have s:∀ {X:MO},MQ w.heap.size w X->X.cell? ⟨V.bh,k*4,MH⟩=MI (MG m.1 x.marks.length m.2)/\X.cell? ⟨V.bh,k*4+1,MH⟩=MI (M3 x.out)/\X.cell? ⟨V.bh,k*4+2,MH⟩=MI (MF ME x.till)/\X.cell? ⟨V.bh,k*4+3,MH⟩=MI (MF ME x.times)/\(∀j,X.frozen? ⟨V.bh,j,MH⟩=Nb)/\V.bh<X.heap.size:=fun {X} hX =>
  ⟨(hX.cell n).trans q0,(hX.cell n).trans q1,(hX.cell n).trans U,(hX.cell n).trans T,fun j=>(OM (a:=⟨V.bh,j,MH⟩) (hX.block V.bh n)).trans (J j),M8 n hX.size⟩
 have HM:M6 (∀X,MQ w.heap.size w X->Ni MK 183 #[gP g,MF ME (k:Int)] X fun r d=>r=MN (M3 (abS G k))/\(d.cell? ⟨g,13,MH⟩=MI (MF ME G.cfg.wn)/\d.cell? ⟨g,14,MH⟩=MI (MF ME G.cfg.wf)/\d.cell? ⟨g,15,MH⟩=MI (MF ME G.cfg.wh)/\d.cell? ⟨g,16,MH⟩=MI (MF ME G.now))/\(d.cell? ⟨V.bh,k*4,MH⟩=MI (MG m.1 x.marks.length m.2)/\d.cell? ⟨V.bh,k*4+1,MH⟩=MI (M3 x.out)/\d.cell? ⟨V.bh,k*4+2,MH⟩=MI (MF ME x.till)/\d.cell? ⟨V.bh,k*4+3,MH⟩=MI (MF ME x.times))/\M6 (MQ w.heap.size w d)):=by
  refine fun X hX=>(ap5 (h.below hX) hbs (k:Int)).mono ?_
  rintro r d ⟨rfl,t⟩;have l:=hX.trans (t.mono hX.size);have f:=s l;exact⟨rfl,q (h.below l),⟨f.1,f.2.1,f.2.2.1,f.2.2.2.1⟩,l⟩
 have Y:M6 (∀X,MQ w.heap.size w X->Ni MK 182 #[Ny #[MF ME G.cfg.wn,MF ME G.cfg.wf,MF ME G.cfg.wh],abQ m.1 m.2 x,M3 fl,MF ME G.now,M3 (abS G k)] X fun r d=>∃p c H F,r=MN (Nv #[abQ p c y,M3 H,MF ME F])/\(d.cell? ⟨g,13,MH⟩=MI (MF ME G.cfg.wn)/\d.cell? ⟨g,14,MH⟩=MI (MF ME G.cfg.wf)/\d.cell? ⟨g,15,MH⟩=MI (MF ME G.cfg.wh)/\d.cell? ⟨g,16,MH⟩=MI (MF ME G.now)) /\
   (((((d.setCell ⟨V.bh,k*4,MH⟩ (MG p y.marks.length c)).setCell ⟨V.bh,k*4+1,MH⟩ (M3 y.out)).setCell ⟨V.bh,k*4+2,MH⟩ (MF ME y.till)).setCell ⟨V.bh,k*4+3,MH⟩ (MF ME y.times)).cell? ⟨g,13,MH⟩=MI (MF ME G.cfg.wn)/\((((d.setCell ⟨V.bh,k*4,MH⟩ (MG p y.marks.length c)).setCell ⟨V.bh,k*4+1,MH⟩ (M3 y.out)).setCell ⟨V.bh,k*4+2,MH⟩ (MF ME y.till)).setCell ⟨V.bh,k*4+3,MH⟩ (MF ME y.times)).cell? ⟨g,14,MH⟩=MI (MF ME G.cfg.wf)/\((((d.setCell ⟨V.bh,k*4,MH⟩ (MG p y.marks.length c)).setCell ⟨V.bh,k*4+1,MH⟩ (M3 y.out)).setCell ⟨V.bh,k*4+2,MH⟩ (MF ME y.till)).setCell ⟨V.bh,k*4+3,MH⟩ (MF ME y.times)).cell? ⟨g,15,MH⟩=MI (MF ME G.cfg.wh)/\((((d.setCell ⟨V.bh,k*4,MH⟩ (MG p y.marks.length c)).setCell ⟨V.bh,k*4+1,MH⟩ (M3 y.out)).setCell ⟨V.bh,k*4+2,MH⟩ (MF ME y.till)).setCell ⟨V.bh,k*4+3,MH⟩ (MF ME y.times)).cell? ⟨g,16,MH⟩=MI (MF ME G.now)) /\
   (d.cell? ⟨V.bh,k*4,MH⟩=MI (MG m.1 x.marks.length m.2)/\d.cell? ⟨V.bh,k*4+1,MH⟩=MI (M3 x.out)/\d.cell? ⟨V.bh,k*4+2,MH⟩=MI (MF ME x.till)/\d.cell? ⟨V.bh,k*4+3,MH⟩=MI (MF ME x.times)/\d.frozen? ⟨V.bh,k*4,MH⟩=Nb/\d.frozen? ⟨V.bh,k*4+1,MH⟩=Nb/\d.frozen? ⟨V.bh,k*4+2,MH⟩=Nb/\d.frozen? ⟨V.bh,k*4+3,MH⟩=Nb/\V.bh<d.heap.size) /\
   M6 (OR base ((((d.setCell ⟨V.bh,k*4,MH⟩ (MG p y.marks.length c)).setCell ⟨V.bh,k*4+1,MH⟩ (M3 y.out)).setCell ⟨V.bh,k*4+2,MH⟩ (MF ME y.till)).setCell ⟨V.bh,k*4+3,MH⟩ (MF ME y.times)) g {V with ms:=V.ms.set k (p,c)} {G with hea:=G.hea.set k y}/\WV V {V with ms:=V.ms.set k (p,c)} g w ((((d.setCell ⟨V.bh,k*4,MH⟩ (MG p y.marks.length c)).setCell ⟨V.bh,k*4+1,MH⟩ (M3 y.out)).setCell ⟨V.bh,k*4+2,MH⟩ (MF ME y.till)).setCell ⟨V.bh,k*4+3,MH⟩ (MF ME y.times)))):=by
  refine fun X hX=>(arI G.cfg.wn G.cfg.wf G.cfg.wh (MG m.1 x.marks.length m.2) x.marks x.out x.till x.times fl G.now (abS G k) X (C.below hX).now (by omega)).mono ?_
  rintro r d ⟨p,c,rfl,O,N,t⟩;have l:=hX.trans (t.mono hX.size);have f:=s l;have D:=h.below l;have R:XG (V.off base g) d fun Z=>Yo Z (MG p y.marks.length c) y.marks:=by
   rw[u];exact abt O (fun z e=>h.rest.GF (Nm hX.size (N z (by rw[XV];exact e))))
  have o:=D.Ir I R;refine⟨p,c,(Zt G.cfg.wn G.cfg.wf G.cfg.wh x.marks x.out x.till x.times fl G.now (abS G k)).2.1,(Zt G.cfg.wn G.cfg.wf G.cfg.wh x.marks x.out x.till x.times fl G.now (abS G k)).2.2,by rw[u];rfl,q D,⟨o.GS,o.GU,o.GO,o.Gm⟩,⟨f.1,f.2.1,f.2.2.1,f.2.2.2.1,f.2.2.2.2.1 _,f.2.2.2.2.1 _,f.2.2.2.2.1 _,f.2.2.2.2.1 _,f.2.2.2.2.2⟩,o,h.Hz l k _ _ _ _ _⟩
 have P:=q h;clear h hbs C E S v u B L A M q s J hb;go_enter Tryz.func133,Tryz.ntmps133
 go_wp2_with fail
 obtain⟨b6,a4,a5,d1⟩:=P
 go_region_with (first|(go_at_call 183;refine(HM.out _ (by first|exact(MY _ _).drew|exact Below.refl _ _)).mono ?_;rintro r w4 ⟨rfl,⟨a8,a3,d2,b7⟩,⟨t0,t1,t2,t3⟩,Q⟩)|(go_at_call 182;refine(Y.out _ Q.out).mono ?_;rintro r w5 ⟨p,c,H,F,rfl,_,_,⟨u0,u1,u2,u3,v0,v1,v2,v3,b3⟩,K⟩))
 all_goals
  go_wp2
  go_end0
  exact⟨rfl,_,K.out.1,⟨rfl,rfl,rfl⟩,K.out.2⟩
end
section
variable {base:Nat}{w:MO}{g:Nat}{V:Vs}{G:Gt}
abbrev adU(X:MO)(bf i:Nat)(f:Fl):Prop:=X.cell? ⟨bf,i*7,MH⟩=MI (MF ME f.slot)/\X.cell? ⟨bf,i*7+1,MH⟩=MI (MF ME f.gen)/\X.cell? ⟨bf,i*7+2,MH⟩=MI (MF ME f.key)/\X.cell? ⟨bf,i*7+3,MH⟩=MI (MF ME f.be)/\X.cell? ⟨bf,i*7+4,MH⟩=MI (M3 f.srv)/\X.cell? ⟨bf,i*7+5,MH⟩=MI (MF ME f.ret)/\X.cell? ⟨bf,i*7+6,MH⟩=MI (MF ME f.due)
theorem OR.Gw(h:OR base w g V G){bf:Nat}(hp:V.pf=MI ⟨bf,0,MH⟩)(hi:i<G.fls.length):adU w bf i (Xs G i):=by
 rw[XA hi];exact h.Gl hp hi
theorem akq{G1 G2:Gt}{y:Fl}(h:G2=Y4 G1 i y)(hi:i<G1.fls.length):∃hi2:i<G2.fls.length,G2.fls[i]=y:=by
 subst h;exact⟨by show i<(G1.fls.set i y).length;rw[NA];exact hi,NW (h:=by rw[NA];exact hi)⟩
theorem akp{G1 G:Gt}{f:Fl}(h:G1.fls=G.fls)(hi:i<G.fls.length)(hf:f=Xs G i):∃hi1:i<G1.fls.length,G1.fls[i]=f:=by
 have hi1:i<G1.fls.length:=by rw[h];exact hi
 refine⟨hi1,?_⟩;rw[<-XA hi1,hf];unfold Xs;rw[h]
theorem ahP(i:Nat)(n:Int):(YW G i n).fls.length=G.fls.length:=by
 show(G.fls.set i _).length=_;rw[NA]
theorem ao4(h:OR base w g V G)(hbs:Bs G)(hw:G.wnow=G.now)(hl:G.out.length<=900000)(hi:i<G.fls.length){bf:Nat}(hp:V.pf=MI ⟨bf,0,MH⟩):
  Ni MK 91 #[gP g,fP bf i] w (aam base w g V (aaZ G i)):=by
 obtain⟨O,a⟩:∃O,O=aaZ G i:=⟨_,rfl⟩;rw[<-a];unfold aaZ at a;obtain⟨f,o⟩:∃f,f=Xs G i:=⟨_,rfl⟩;have D:=h.Gw hp hi;rw[<-o]at a D;have q:0<=G.fls[i].slot/\G.fls[i].slot<40:=(hbs.F9 (Nk hi)).1;obtain⟨I,L,P,N,x,M,J⟩:=D;have Q:=h.lt;cases hsv:f.srv
 ·rw[hsv,Nf (by decide)]at a
  simp only[]at a;rw[<-o]at a;have H:M6 (_/\_):=⟨aeP h (by omega) 3 f,a⟩;rw[hsv]at x;clear h hbs a o hw hl q;go_enter TP,TI
  go_wp2_with fail
  have F:ZS f=Ny #[MF ME f.slot,MF ME f.gen,MF ME f.key,MF ME f.be,M3 Nb,MF ME f.ret,MF ME f.due]:=by rw[<-hsv]
  have C:=H.out.1;rw[F]at C;refine Nd C ?_;rintro r K ⟨rfl,y,e,j,l⟩;have d:M6 (_/\_/\_):=⟨e,j.2.2,l⟩;clear e j l;go_wp2
  go_end0
  rw[H.out.2];exact⟨rfl,y,d.out.1,d.out.2.1,d.out.2.2⟩
 ·rw[hsv,Nh rfl]at a
  simp only[]at a;have c6:=h.c6;rw[hsv]at x;obtain⟨m,c⟩:∃m,m=YW G i G.cfg.idle:=⟨_,rfl⟩;have u:=af2 h hi hp (n:=G.cfg.idle) hbs.idle q hw hbs.now;rw[<-c]at a u;have z:i<m.fls.length:=by rw[c,ahP];exact hi
  have A:m.out.length<=1000000:=by rw[c];show G.out.length<=1000000;omega
  have H:M6 (_/\_/\_/\_/\_):=⟨u,a,z,A,hp⟩;clear h hbs a o hw hl q u c z A hp hi;go_enter TP,TI
  go_wp2_with fail
  refine Nd H.out.1 ?_;rintro r U ⟨rfl,Y,c,t,B⟩;obtain⟨v,s⟩:∃v,v=Xs m i:=⟨_,rfl⟩;have E:=c.Gw (t.1.trans H.out.2.2.2.2) H.out.2.2.1;rw[<-s]at E;obtain⟨T,Z,R,x3,x4,S,x6⟩:=E;have p:M6 (_/\_/\_/\_):=⟨aeP c H.out.2.2.2.1 3 v,t.2.2,B,s⟩;clear c t B s I L P N x M J c6
  go_wp2_with fail
  refine Nd p.out.1 ?_;rintro r K ⟨rfl,y,e,j,l⟩;have d:M6 (_/\_/\_):=⟨e,j.2.2.trans p.out.2.1,p.out.2.2.1.F0 l⟩;clear e j l;go_wp2
  go_end0
  rw[H.out.2.1,<-p.out.2.2.2];exact⟨rfl,y,d.out.1,d.out.2.1,d.out.2.2⟩
theorem aqy(h:OR base w g V G)(hbs:Bs G)(hw:G.wnow=G.now)(hl:G.out.length<=900000)(hi:i<G.fls.length){bf:Nat}(hp:V.pf=MI ⟨bf,0,MH⟩):
  Ni MK 92 #[gP g,fP bf i] w (aam base w g V (abh G i)):=by
 obtain⟨O,o⟩:∃O,O=abh G i:=⟨_,rfl⟩;rw[<-o];unfold abh at o;simp only[]at o;obtain⟨f,F⟩:∃f,f=Xs G i:=⟨_,rfl⟩;have R:f∈G.fls:=by rw[F,XA hi];exact Nk hi
 have D:=hbs.F9 R;obtain⟨q0,q1,q2,q3,q4,q5,q6⟩:=h.Gw hp hi;rw[<-F]at o q0 q1 q2 q3 q4 q5 q6;have b9:=h.lt;obtain⟨m,a⟩:∃m,m=Yh G f.be false:=⟨_,rfl⟩;have Y:=akO h hbs D.2.2.2 Nb;have L:=hbs.GA D.2.2.2 Nb;rw[<-a]at o Y L;have a0:m.fls=G.fls/\m.cfg=G.cfg/\m.now=G.now/\m.wnow=G.wnow/\m.out=G.out:=by rw[a];exact⟨rfl,rfl,rfl,rfl,rfl⟩
 have H:M6 (_/\_/\_/\_/\_/\_/\_/\_):=⟨Y,o,L,a0,hp,hi,F,R⟩;have v:M6 (_/\_/\_/\_):=⟨hbs,hw,hl,D⟩;clear h hbs o F hw hl D Y a a0 L hp hi R;go_enter Tryz.func92,Tryz.ntmps92
 go_wp2_with fail
 refine Nd H.out.1 ?_;rintro r q ⟨rfl,I,a,M,b0⟩;have d:I.pf=MI ⟨bf,0,MH⟩:=M.1.trans H.out.2.2.2.2.1;obtain⟨C,N⟩:=akp H.out.2.2.2.1.1 H.out.2.2.2.2.2.1 H.out.2.2.2.2.2.2.1;obtain⟨y,J⟩:∃y:Fl,y={f with srv:=Nw}:=⟨_,rfl⟩;obtain⟨u0,u1,u2,u3,u4,u5,u6⟩:=a.Gl d C;rw[N]at u4;have b6:=a.Hv d (i*7+4);have S:=a.Hd d C (j:=4) (by omega) (M3 Nw) y (by rw[N,J];rfl);obtain⟨x,B⟩:∃x,x=q.setCell ⟨bf,i*7+4,MH⟩ (M3 Nw):=⟨_,rfl⟩;rw[<-B]at S;have a8:WV I I g q x:=by
  rw[B];exact⟨rfl,rfl,rfl,by simp,fun b _ hn=>MU q ⟨bf,i*7+4,MH⟩ _ b fun e=>hn (NF (NF (Nt (by rw[d,e];rfl)))),fun _ h=>Nt h⟩
 obtain⟨c,t⟩:∃c,c=Y4 m i y:=⟨_,rfl⟩;have A:OR base x g I c:=by rw[t];exact S
 obtain⟨T,a4⟩:=akq t C;have p:c.cfg=G.cfg/\c.now=G.now/\c.wnow=G.wnow/\c.out=G.out:=by rw[t];exact⟨H.out.2.2.2.1.2.1,H.out.2.2.2.1.2.2.1,H.out.2.2.2.1.2.2.2.1,H.out.2.2.2.1.2.2.2.2⟩
 have a5:0<=c.fls[i].slot/\c.fls[i].slot<40:=by rw[a4,J];exact v.out.2.2.2.1
 have e6:x.cell? ⟨g,6,MH⟩=MI (MF ME G.cfg.idle):=by rw[<-p.1];exact A.c6
 have b8:=A.lt;have HW:=af2 A T d (n:=G.cfg.idle) v.out.1.idle a5 (by rw[p.2.2.1,p.2.1];exact v.out.2.1) (by rw[p.2.1];exact v.out.1.now);have b4:=a.lt;have d6:q.cell? ⟨g,6,MH⟩=MI (MF ME G.cfg.idle):=by rw[<-H.out.2.2.2.1.2.1];exact a.c6
 have b3:bf<q.heap.size:=MX q ⟨bf,i*7,MH⟩ u0;have b5:¬bf=g:=fun e=>a.rest.fg (by rw[d,e];rfl)
 have b7:¬g=bf:=fun e=>b5 e.symm
 have l:M6 (_/\_/\_/\_/\_/\_/\_/\_):=⟨HW,b0.F0 a8,d,T,t,p,M.2.2,J⟩;clear a M b0 a8 S A C T d N J t a4 p a5 HW q0 q1 q2 q3 q4 q5 q6 u0 u1 u2 u3 u5 u6
 go_wp2_with fail
 rw[<-B];clear B u4 b6 d6 b3 b4;refine Nd l.out.1 ?_;rintro r w3 ⟨rfl,V3,E,Q,b2⟩;obtain⟨s,u⟩:∃s,s=YW c i G.cfg.idle:=⟨_,rfl⟩;rw[<-u]at E;have a3:i<s.fls.length:=by rw[u,ahP];exact l.out.2.2.2.1
 obtain⟨K,P⟩:∃K,K=Xs s i:=⟨_,rfl⟩;have hx:=E.Gw (Q.1.trans l.out.2.2.1) a3;rw[<-P]at hx;obtain⟨x0,x1,x2,x3,x4,x5,x6⟩:=hx;have a9:s.out.length<=1000000:=by rw[u];show c.out.length<=1000000;rw[l.out.2.2.2.2.2.1.2.2.2];have:=v.out.2.2.1;omega
 have z:M6 (_/\_/\_/\_/\_):=⟨aeP E a9 4 K,Q.2.2.trans l.out.2.2.2.2.2.2.1,l.out.2.1.F0 b2,P,u⟩;clear E Q b2 P u a9 a3 e6
 go_wp2_with fail
 refine Nd z.out.1 ?_;rintro r w7 ⟨rfl,V7,Z,a6,a7⟩;have U:M6 (_/\_/\_):=⟨Z,a6.2.2.trans z.out.2.1,z.out.2.2.1.F0 a7⟩;clear Z a6 a7;go_wp2
 go_end0
 have hz:O=abi s 4 K:=by rw[H.out.2.1,z.out.2.2.2.1,z.out.2.2.2.2,l.out.2.2.2.2.1,l.out.2.2.2.2.2.2.2]
 rw[hz];exact⟨rfl,V7,U.out.1,U.out.2.1,U.out.2.2⟩
end
section
variable {base:Nat}{w:MO}{g:Nat}{V:Vs}{G:Gt}
theorem akt{w1:MO}{bf:Nat}{v:M7}(hp:V.pf=MI ⟨bf,0,MH⟩)(h:w1=w.setCell ⟨bf,k,MH⟩ v):WV V V g w w1:=by
 subst h;exact⟨rfl,rfl,rfl,by simp,fun b _ hn=>MU w ⟨bf,k,MH⟩ _ b fun e=>hn (NF (NF (Nt (by rw[hp,e];rfl)))),fun _ h=>Nt h⟩
theorem OR.Ji(h:OR base w g V G){bf:Nat}(hp:V.pf=MI ⟨bf,0,MH⟩)(hi:i<G.fls.length){f:Fl}(hf:f=Xs G i)(b n:Int):
  OR base ((w.setCell ⟨bf,i*7+3,MH⟩ (MF ME b)).setCell ⟨bf,i*7+5,MH⟩ (MF ME n)) g V (Y4 G i {f with be:=b,ret:=n}) /\
  WV V V g w ((w.setCell ⟨bf,i*7+3,MH⟩ (MF ME b)).setCell ⟨bf,i*7+5,MH⟩ (MF ME n)):=by
 rw[XA hi]at hf;have e:=h.Hd hp hi (j:=3) (by omega) (MF ME b) {f with be:=b} (by rw[hf];rfl);have a:i<(G.fls.set i {f with be:=b}).length:=by rw[NA];exact hi
 have d:(G.fls.set i {f with be:=b})[i]={f with be:=b}:=NW (h:=a);have l:=e.Hd hp (i:=i) a (j:=5) (by omega) (MF ME n) {f with be:=b,ret:=n} (by show _=(WX ((G.fls.set i {f with be:=b})[i])).set 5 _;rw[d];rfl);have c:(G.fls.set i {f with be:=b}).set i {f with be:=b,ret:=n}=G.fls.set i {f with be:=b,ret:=n}:=List.set_set _;refine⟨?_,(akt hp rfl).F0 (akt hp rfl)⟩;unfold Y4;rw[<-c];exact l
theorem aqq(h:OR base w g V G)(hbs:Bs G)(hw:G.wnow=G.now)(hl:G.out.length<=900000)(hi:i<G.fls.length){bf:Nat}(hp:V.pf=MI ⟨bf,0,MH⟩)(hb:0<=b/\b<12)(hr:0<=(Xs G i).ret/\(Xs G i).ret+1<=20):
  Ni MK 135 #[gP g,fP bf i,MF ME b] w (aam base w g V (ZL G i b)):=by
 obtain⟨O,q⟩:∃O,O=ZL G i b:=⟨_,rfl⟩;rw[<-q];unfold ZL at q;simp only[]at q;obtain⟨f,F⟩:∃f,f=Xs G i:=⟨_,rfl⟩;have Q:f∈G.fls:=by rw[F,XA hi];exact Nk hi
 have b6:=hbs.F9 Q;obtain⟨T,q1,q2,q3,q4,q5,q6⟩:=h.Gw hp hi;rw[<-F]at q hr T q1 q2 q3 q4 q5 q6;have d7:=h.lt;have d1:bf<w.heap.size:=MX w ⟨bf,i*7,MH⟩ T;have d2:¬bf=g:=fun e=>h.rest.fg (by rw[hp,e];rfl)
 have d8:¬g=bf:=fun e=>d2 e.symm
 obtain⟨m,Y⟩:∃m,m=(Y0 G.tab f.slot f.gen b).1:=⟨_,rfl⟩;rw[<-Y]at q;have a6:(Y0 G.tab f.slot f.gen b).2=0:=by rw[hbs.Ho Q hb]
 have d4:=h.Gs;have HD:M6 (∀W',MQ w.heap.size w W'->Ni MK 184 #[Ny #[MG V.pt G.tab.length V.ct],Ny #[MF ME f.slot,MF ME f.gen],MF ME b] W' fun r s=>∃p c,r=MN (Nv #[Ny #[MG p m.length c],MF ME 0])/\s.cell? ⟨g,17,MH⟩=MI (MG V.pt G.tab.length V.ct)/\s.frozen? ⟨g,17,MH⟩=Nb/\g<s.heap.size /\
   M6 (OR base (s.setCell ⟨g,17,MH⟩ (MG p m.length c)) g {V with pt:=p,ct:=c} {G with tab:=m}/\WV V {V with pt:=p,ct:=c} g w (s.setCell ⟨g,17,MH⟩ (MG p m.length c)))):=by
  refine fun W' hW'=>(auR (MG V.pt G.tab.length V.ct) G.tab f.slot f.gen b W' (h.rest.tab.now.below hW')).mono ?_
  rw[<-Y,a6];rintro r s ⟨p,c,rfl,ho,hb⟩;have P:MQ w.heap.size w s:=hW'.trans (hb.mono hW'.size);have o:=h.below P;exact⟨p,c,rfl,o.Gs,o.fz 17,o.lt,h.Ix P (ho.mono hW'.size),((WV.F5 (V:=V) (g:=g) P).F4 17 _).Gp fun _ h=>h⟩
 have d0:IntKind.i64.wrap (f.ret+1)=f.ret+1:=by rw[Ow];omega
 have H:M6 (_/\_/\_/\_):=⟨q,hp,hi,F⟩;have A:M6 (_/\_/\_/\_):=⟨hbs,hw,hl,b6⟩;clear h hbs q F hw hl b6 hp hi Q Y a6 hr hb;go_enter UL,Uz
 go_wp2_with fail
 go_region_with (first|(go_at_call 184;refine(HD.out _ (by first|exact(MY _ _).drew|exact Below.refl _ _)).mono ?_;rintro r w3 ⟨p,c,rfl,d3,d5,b9,o⟩))
 all_goals
  obtain⟨t,N⟩:∃t,t=w3.setCell ⟨g,17,MH⟩ (MG p m.length c):=⟨_,rfl⟩;have d:=o.out.1;have J:=o.out.2;rw[<-N]at d J;rw[<-N];clear N o d3 d5 b9 d4 T q1 q2 q3 q4 q5 q6 d7 d1;have l:Vs.pf {V with pt:=p,ct:=c}=MI ⟨bf,0,MH⟩:=H.out.2.1;have C:i<({G with tab:=m}:Gt).fls.length:=H.out.2.2.1;obtain⟨x0,x1,x2,x3,x4,x5,x6⟩:=d.Gl l C;have a5:({G with tab:=m}:Gt).fls[i]=f:=by rw[H.out.2.2.2,XA H.out.2.2.1]
  rw[a5]at x3 x5;have z3:=d.Hv l (i*7+3);have z5:=d.Hv l (i*7+5);have b8:=d.lt;have e7:t.cell? ⟨g,7,MH⟩=MI (MF ME G.cfg.conn):=d.c7;have b7:bf<t.heap.size:=MX t ⟨bf,i*7,MH⟩ x0;obtain⟨K,R⟩:=d.Ji l C (f:=f) H.out.2.2.2 b (f.ret+1);obtain⟨w6,E⟩:∃w6,w6=(t.setCell ⟨bf,i*7+3,MH⟩ (MF ME b)).setCell ⟨bf,i*7+5,MH⟩ (MF ME (f.ret+1)):=⟨_,rfl⟩;obtain⟨a,y⟩:∃a,a=Y4 {G with tab:=m} i {f with be:=b,ret:=f.ret+1}:=⟨_,rfl⟩;obtain⟨I,a0⟩:=akq y C;have z:a.cfg=G.cfg/\a.now=G.now/\a.wnow=G.wnow/\a.out=G.out:=by rw[y];exact⟨rfl,rfl,rfl,rfl⟩
  rw[<-E,<-y]at K;rw[<-E]at R;have a8:0<=a.fls[i].slot/\a.fls[i].slot<40:=by rw[a0];exact A.out.2.2.2.1
  have HW:=af2 K I l (n:=G.cfg.conn) A.out.1.conn a8 (by rw[z.2.2.1,z.2.1];exact A.out.2.1) (by rw[z.2.1];exact A.out.1.now);have v:M6 (_/\_/\_/\_/\_/\_):=⟨HW,J.F0 R,l,I,y,z⟩;clear d J K R l C I a5 a0 y z a8 HW x0 x1 x2 x4 x6
  go_wp2_with fail
  rw[<-E];clear E x3 x5 z3 z5 b8 e7 b7 d0;refine Nd v.out.1 ?_;rintro r w7 ⟨rfl,V7,D,M,b3⟩;obtain⟨j,x⟩:∃j,j=YW a i G.cfg.conn:=⟨_,rfl⟩;rw[<-x]at D;have b5:i<j.fls.length:=by rw[x,ahP];exact v.out.2.2.2.1
  obtain⟨B,L⟩:∃B,B=Xs j i:=⟨_,rfl⟩;have hx:=D.Gw (M.1.trans v.out.2.2.1) b5;rw[<-L]at hx;obtain⟨y0,y1,y2,y3,y4,y5,y6⟩:=hx;have b2:j.out.length<=900000:=by rw[x];show a.out.length<=900000;rw[v.out.2.2.2.2.2.2.2.2];exact A.out.2.2.1
  have u:M6 (_/\_/\_/\_/\_/\_):=⟨aeP D (by omega) 5 B,M.2.2,v.out.2.1.F0 b3,L,x,b2⟩;clear D M b3 L x b2 b5
  go_wp2_with fail
  refine Nd u.out.1 ?_;rintro r w8 ⟨rfl,V8,a3,a9,b0⟩;have Z:(abi j 5 B).out.length<=1000000:=by show(j.out++[_]).length<=1000000;have:=u.out.2.2.2.2.2;simp;omega
  have S:M6 (_/\_/\_):=⟨ahg a3 Z f.be,a9.2.2.trans u.out.2.1,u.out.2.2.1.F0 b0⟩;clear a3 b0 a9 Z y0 y1 y2 y3 y4 y5 y6
  go_wp2_with fail
  refine Nd S.out.1 ?_;rintro r w9 ⟨rfl,V9,a7,b4,a4⟩;have U:M6 (_/\_/\_):=⟨a7,b4.2.2.trans S.out.2.1,S.out.2.2.F0 a4⟩;clear a7 b4 a4;go_wp2
  go_end0
  have hz:O=Yf (abi j 5 B) f.be:=by rw[H.out.1,u.out.2.2.2.1,u.out.2.2.2.2.1,v.out.2.2.2.2.1]
  rw[hz];exact⟨rfl,V9,U.out.1,U.out.2.1,U.out.2.2⟩
end
theorem aao(l:List Fl):(rv WX l).length=l.length*7:=abx XL l
theorem ahj(l:List Fl)(i:Nat):(rv WX l).take (i*7)=rv WX (l.take i):=ahF XL l i
theorem akn(l:List Fl)(i:Nat):(rv WX l).drop (i*7)=rv WX (l.drop i):=ak4 XL l i
theorem ahz(x:Fl):rv WX [x]=WX x:=by simp[rv]
theorem akB{α:Type}(l:List α)(x:α):Xi l x l.length=l++[x]:=by simp[Xi]
def afB(base:Nat)(v:M7)(l:List Fl)(t:Fl)(i:Nat)(w:MO)(r:Ending)(w':MO):Prop :=
 ∃g cap,r=MN (MG (MI ⟨g,0,MH⟩) (l.length+1) cap)/\w'.ownsRow base 72 7 (MG (MI ⟨g,0,MH⟩) (l.length+1) cap) (l.length+1) (rv WX (Xi l t i))/\w.grownBy w' v.ownBlock/\(v.ownBlock=MI g\/w.heap.size<=g)
theorem apE(base:Nat)(v:M7)(l:List Fl)(x:Fl)(cs:Array M7)(hxs:cs.toList=WX x)(k:Nat)(w:MO)(hown:w.ownsRow base 72 7 v l.length (rv WX l))(hbase:base<=w.heap.size)
  (hk:w.heap[k]?=MI (MP cs 72 (0,0))) (hlen:l.length<=1000) :
  Ni MK 125 #[v,MF ME l.length,MG (MI ⟨k,0,MH⟩) 1 1] w (afB base v l x l.length w):=by
 obtain⟨t,y,q,r,s⟩:=OF ad0;have e:∀j u,(rv WX [x])[j]?=MI u->w.cell? ((⟨k,0,MH⟩:Oc).add j)=MI u:=fun j u hu=>by
  have A:(⟨k,0,MH⟩:Oc).add j=⟨k,j,MH⟩:=by unfold Addr.add;split <;> simp_all
  rw[A,MW w k j _ _ (0,0) hk];rw[ahz,<-hxs]at hu;simpa using hu
 obtain⟨p,c,rfl⟩:=Y6 hown;have E:l.length<=c:=by
  rcases hown.2 with⟨h,_⟩|⟨g,a,C,h,_,_,z,_⟩
  ·simp only[N4]at h;omega
  ·simp only[N4]at h;omega
 have F:c<=9223372036854775807:=by
  rcases hown.2 with⟨h,_⟩|⟨g,a,C,h,_,_,_,z,_⟩
  ·simp only[N4]at h;omega
  ·simp only[N4]at h;unfold NE at z;omega
 by_cases hcl:c=l.length
 ·subst hcl
  have d:M6 (_/\_):=⟨hown,e⟩;clear hown e;go_enter azu,azo
  go_wp2_with (first|(at_builtin;refine O9 _ rfl _ _ 40 rfl base 72 t _ 7 56 U3 y q r s rfl (by decide) (MG p l.length l.length) _ _ rfl d.out.1 _ 1 1 (rv WX [x]) rfl rfl d.out.2 (adm acI _) (by decide) (by unfold NE;omega) (by omega) hbase _ rfl ?_;intro o a D f n m B))
  all_goals
   go_ret;exact⟨o,a,rfl,by rw[akB,acL];exact f,n,m.imp id (fun h=>by omega)⟩
 ·have d:M6 (_/\_):=⟨hown,e⟩
  clear hown e;go_enter azu,azo
  go_wp2_with (first|(at_builtin;refine O9 _ rfl _ _ 40 rfl base 72 t _ 7 56 U3 y q r s rfl (by decide) (MG p l.length c) _ _ rfl d.out.1 _ 1 1 (rv WX [x]) rfl rfl d.out.2 (adm acI _) (by decide) (by unfold NE;omega) (by omega) hbase _ rfl ?_;intro o a D f n m B))
  all_goals
   go_ret;exact⟨o,a,rfl,by rw[akB,acL];exact f,n,m.imp id (fun h=>by omega)⟩
theorem apF(base g c:Nat)(l:List Fl)(x:Fl)(cs:Array M7)(hxs:cs.toList=WX x)(i k:Nat)(w:MO)(hown:w.ownsRow base 72 7 (MG (MI ⟨g,0,MH⟩) l.length c) l.length (rv WX l))(hbase:base<=w.heap.size)(hi:i<l.length)(hroom:c<l.length+1)
  (hk:w.heap[k]?=MI (MP cs 72 (0,0))) (hlen:l.length<=1000) :
  Ni MK 125 #[MG (MI ⟨g,0,MH⟩) l.length c,MF ME i,MG (MI ⟨k,0,MH⟩) 1 1] w (afB base (MG (MI ⟨g,0,MH⟩) l.length c) l x i w):=by
 obtain⟨S,A,L,F,N⟩:=OF ad0;have K:c=l.length:=by
  rcases hown.2 with⟨h,_⟩|⟨g',e,a8,h,_,_,h2,_⟩
  ·cases h
  ·simp only[N4]at h;omega
 subst K;have D:(Tryz.prog.info? 72).map (·.size)=MI 7:=by rw[A];simp[F]
 have Z:=(hown.lt g rfl).2;have a4:k<w.heap.size:=(Array.getElem?_eq_some_iff.1 hk).1;obtain⟨e,t,T,o,q,C,I,d,a5⟩:=ag0 (P:=MK) w 40 3 40 72 S _ ME 7 56 U3 Ol A L F N rfl (by decide) base ⟨g,0,MH⟩ i l.length (l.length+1-i) (rv WX (l.take i)) (by rw[aao,NH];omega)
  (fun j u hu=>by
   rw[abl,hown.cellAt j (by have:=(List.getElem?_eq_some_iff.1 hu).1;rw[aao,NH]at this;omega)];rw[<-ahj]at hu;rw[List.getElem?_take]at hu
   split at hu
   ·exact hu
   ·cases hu) (by omega) (by omega) (by unfold NE;omega) (by omega) hbase
 have M:i+(l.length+1-i)=l.length+1:=by omega
 rw[M]at o q I;rw[show((l.length+1-i:Nat):Int)=(l.length:Int)+1-(i:Int)by omega]at o;obtain⟨H,J,E,f⟩:=aa8 (P:=MK) T 40 3 72 7 U3 D base w.heap.size (l.length+1) e _ q (i*7) (l.length+1-i) (e-i) ⟨k,0,MH⟩ 1 1 1 (rv WX [x]) (by simp only[PR];split <;> omega) rfl (by simp[rv];omega)
  (fun j u hu=>by
   rw[abl,(d.cell (a:=⟨k,j,MH⟩) (v:=u) (by rw[MW w k j _ _ (0,0) hk];rw[ahz,<-hxs]at hu;simpa using hu) (by simp))]) (adm acI _)
 obtain⟨Q,O,p,m⟩:=aa8 (P:=MK) H.drew 40 3 72 7 U3 D base w.heap.size (l.length+1) e _ E ((i+1)*7) (l.length-i) (e-(i+1)) ⟨g,i*7,MH⟩ (l.length-i) (l.length-i) (l.length-i) (rv WX (l.drop i)) (by simp only[PR];split <;> omega) (by rw[aao,NJ]) (by rw[aao,NJ];omega)
  (fun j u hu=>by
   rw[aas];have n:=(List.getElem?_eq_some_iff.1 hu).1;rw[aao,NJ]at n;have R:w.cell? ⟨g,i*7+j,MH⟩=MI u:=by
    rw[hown.cellAt _ (by omega),<-hu,<-akn,Pa]
   exact f.cell (a:=⟨g,i*7+j,MH⟩) (d.cell R (by simp)) (by simp;omega)) (adm acI _)
 have z:(rv WX (l.take i)++t).take (i*7)++rv WX [x]++(rv WX (l.take i)++t).drop (i*7+(rv WX [x]).length)=rv WX (l.take i++[x])++t.drop 7:=by
  have r:(rv WX (l.take i)).length=i*7:=by rw[aao,NH];omega
  rw[<-r,Qb,acL,Qa];simp[rv]
 have y:∀ys:List M7,((rv WX (l.take i++[x])++ys).take ((i+1)*7)++rv WX (l.drop i)++(rv WX (l.take i++[x])++ys).drop ((i+1)*7+(rv WX (l.drop i)).length))=rv WX (Xi l x i)++ys.drop ((l.length-i)*7):=fun ys=>by
  have r:(rv WX (l.take i++[x])).length=(i+1)*7:=by rw[aao];simp;omega
  rw[<-r,Qb,Qa,aao (l.drop i),NJ,Xi,acL,acL];simp[rv]
 rw[z,y]at p;rw[List.drop_drop,PI (by rw[C];omega),OG]at p;have B:w.grownBy Q (MG (MI ⟨g,0,MH⟩) l.length l.length).ownBlock :=
  ⟨m.os.trans (f.os.trans d.os),m.tape.trans (f.tape.trans d.tape),m.output.trans (f.output.trans d.output),Nm d.size (Nm f.size m.size),fun j n _=>by
   rw[m.block j (M8 n (Nm d.size f.size)) (by simp;omega)];show H.heap[j]?=_;rw[f.block j (M8 n d.size) (by simp;omega),d.block j n (by simp)]⟩
 have s:M6 (_/\_/\_/\_/\_):=⟨o,J,O,p,B⟩;have a7:(i:Int)<=(l.length:Int):=by omega
 have a6:(i:Int)<(l.length:Int)+1:=by omega
 have a0:¬e=i:=by omega
 have Y:¬e=i+1:=by omega
 have a3:¬l.length=i:=by omega
 have U:((i:Int) == (l.length:Int))=false:=by simp;omega
 clear o q E p d f m C hown hk z y B;go_enter azu,azo
 go_wp2_with (first|(at_builtin;refine Lib.wpList_append_run _ rfl _ _ _ _ rfl _ _ rfl rfl _ _ s.out.1 ?_))
 go_region
 go_wp2;go_ret;exact⟨w.heap.size,e,rfl,s.out.2.2.2.1,s.out.2.2.2.2,NF (MV _)⟩
theorem apG(base g c:Nat)(l:List Fl)(x:Fl)(cs:Array M7)(hxs:cs.toList=WX x)(i k:Nat)(w:MO)(hown:w.ownsRow base 72 7 (MG (MI ⟨g,0,MH⟩) l.length c) l.length (rv WX l))(hbase:base<=w.heap.size)(hi:i<l.length)(hroom:l.length+1<=c)(hkg:k≠g)
  (hk:w.heap[k]?=MI (MP cs 72 (0,0))) (hlen:l.length<=1000) :
  Ni MK 125 #[MG (MI ⟨g,0,MH⟩) l.length c,MF ME i,MG (MI ⟨k,0,MH⟩) 1 1] w (afB base (MG (MI ⟨g,0,MH⟩) l.length c) l x i w):=by
 obtain⟨i0,K,a8,L,b3⟩:=OF ad0;have B:(Tryz.prog.info? 72).map (·.size)=MI 7:=by rw[K];simp[L]
 obtain⟨d,r,C,q,z,I⟩:∃d:Array M7,w.heap[g]?=MI (MP d 72 (0,0))/\c<=NE/\d.size=c*7/\d.toList.take (l.length*7)=rv WX l/\base<=g:=by
  rcases hown.2 with⟨h,_⟩|⟨g',b4,d,h,hb,O,h2,Z,S,T⟩
  ·cases h
  ·simp only[N4,Qs,Q1,and_true,true_and]at h
   obtain⟨rfl,rfl⟩:=h;exact⟨d,O,Z,S,T,hb⟩
 have n:w.ownsRow base 72 7 (MG (MI ⟨g,0,MH⟩) (l.length+1) c) (l.length+1) (d.toList.take ((l.length+1)*7)):=
  ⟨by simp only[NH,Om,q];omega,NF ⟨g,c,d,rfl,I,r,hroom,C,q,rfl⟩⟩
 have F:d.toList.take ((l.length+1)*7)=rv WX l++(d.toList.drop (l.length*7)).take 7:=by
  rw[<-z,show(l.length+1)*7=l.length*7+7 by omega,List.take_add]
 rw[F]at n;have p:((d.toList.drop (l.length*7)).take 7).length=7:=by simp only[NH,NJ,Om,q];omega
 generalize (d.toList.drop (l.length*7)).take 7=sp at n p;have a4:=(hown.lt g rfl).2;obtain⟨Y,b2,y,f⟩:=aa8 (P:=MK) w.drew 40 3 72 7 U3 B base g (l.length+1) c _ n ((i+1)*7) (l.length-i) (c-(i+1)) ⟨g,i*7,MH⟩ (l.length+1-i) (c-i) (l.length-i) (rv WX (l.drop i)) (by simp only[PR];split <;> omega) (by rw[aao,NJ]) (by rw[aao,NJ];omega)
  (fun j u hu=>by
   rw[aas];have o:=(List.getElem?_eq_some_iff.1 hu).1;rw[aao,NJ]at o;have U:w.cell? ⟨g,i*7+j,MH⟩=MI u:=by
    rw[hown.cellAt _ (by omega),<-hu,<-akn,Pa]
   exact U) (adm acI _)
 obtain⟨Q,a7,s,m⟩:=aa8 (P:=MK) Y 40 3 72 7 U3 B base g (l.length+1) c _ y (i*7) (l.length+1-i) (c-i) ⟨k,0,MH⟩ 1 1 1 (rv WX [x]) (by simp only[PR];split <;> omega) rfl (by simp[rv];omega)
  (fun j u hu=>by
   rw[abl,(f.cell (a:=⟨k,j,MH⟩) (v:=u) (show w.cell? _=_ by rw[MW w k j _ _ (0,0) hk];rw[ahz,<-hxs]at hu;simpa using hu) (by simp;omega))]) (adm acI _)
 have t:∀xs:List M7,xs=(rv WX l++sp).take ((i+1)*7)++rv WX (l.drop i)++(rv WX l++sp).drop ((i+1)*7+(rv WX (l.drop i)).length)->xs.take (i*7)++rv WX [x]++xs.drop (i*7+(rv WX [x]).length)=rv WX (Xi l x i):=fun xs hxs=>by
  have N:(rv WX l++sp).drop ((i+1)*7+(rv WX (l.drop i)).length)=[]:=PI (by rw[Ns,aao,aao,NJ,p];omega);have M:(rv WX l++sp).take ((i+1)*7)=rv WX (l.take (i+1)):=by
   rw[ZqA (by rw[aao];omega),ahj]
  rw[N,M,OG]at hxs;have D:(rv WX (l.take (i+1))).length=(i+1)*7:=by rw[aao,NH];omega
  have e4:xs.take (i*7)=rv WX (l.take i):=by
   rw[hxs,ZqA (by rw[D];omega),ahj,List.take_take,show min i (i+1)=i by omega]
  have R:xs.drop (i*7+(rv WX [x]).length)=rv WX (l.drop i):=by
   rw[hxs,show i*7+(rv WX [x]).length=(rv WX (l.take (i+1))).length by rw[D];simp[rv];omega,List.drop_left]
  rw[e4,R,Xi,acL];simp[rv]
 rw[t _ rfl]at s;have A:w.grownBy Q (MG (MI ⟨g,0,MH⟩) l.length c).ownBlock :=
  ⟨m.os.trans f.os,m.tape.trans f.tape,m.output.trans f.output,Nm f.size m.size,fun j o hne=>by
   rw[m.block j (M8 o f.size) hne];exact f.block j o hne⟩
 have J:cs.size=7:=by rw[<-Om,hxs];rfl
 have H:∀lb cb,(callFunc 174 #[MG (MI ⟨k,0,MH⟩) 1 1,MG (MI ⟨g,(i+1)*7,MH⟩) lb cb]).run MK w=.ok (.value (M3 Nb)) w:=fun lb cb=>by
  rw[run_callFunc_extern Wr (by kernel_rfl) (by kernel_rfl) (by kernel_rfl) (e:=P9 #[40,40] #[4]) (by kernel_rfl),
   Lib.run_overlaps_apart w 40 4 72 U3 7 Tryz.sizeOf72 ⟨k,0,MH⟩ ⟨g,(i+1)*7,MH⟩ 1 1 lb cb hkg 72 72 7 d.size (by simp[QO,hk,J]) (by simp[QO,r]) (by omega) (by simp[Ng,hk]) (by simp[Ng,hk])]
  rfl
 have E:M6 (_/\_):=⟨s,A⟩;have b0:(i:Int)<=(l.length:Int):=by omega
 have a9:(i:Int)<=(l.length:Int)+1:=by omega
 have a5:¬c=i:=by omega
 have a3:¬c=i+1:=by omega
 have a0:((i:Int) == (l.length:Int))=false:=by simp;omega
 have a6:(l.length:Int)+1<=(c:Int):=by omega
 unfold NE at C;clear y s f m hown n hk t A r z F p;go_enter azu,azo
 go_wp2_with (simp only[H])
 go_region
 go_wp2;go_ret;exact⟨g,c,rfl,E.out.1,E.out.2,Nt rfl⟩
theorem apD(base:Nat)(v:M7)(l:List Fl)(x:Fl)(cs:Array M7)(hxs:cs.toList=WX x)(i k:Nat)(w:MO)(hown:w.ownsRow base 72 7 v l.length (rv WX l))(hbase:base<=w.heap.size)(hi:i<=l.length)(hkv:v.ownBlock≠MI k)
  (hk:w.heap[k]?=MI (MP cs 72 (0,0))) (hlen:l.length<=1000) :
  Ni MK 125 #[v,MF ME i,MG (MI ⟨k,0,MH⟩) 1 1] w (afB base v l x i w):=by
 rcases Oq i l.length with a|d
 ·obtain⟨g,c,rfl,_⟩:=hown.form (by omega)
  rcases Oq c (l.length+1)with h|h
  ·exact apF base g c l x cs hxs i k w hown hbase a h hk hlen
  ·exact apG base g c l x cs hxs i k w hown hbase a h (fun e=>hkv (by rw[e];rfl)) hk hlen
 ·obtain rfl:i=l.length:=by omega
  exact apE base v l x cs hxs k w hown hbase hk hlen
section
variable {base:Nat}{w:MO}{g:Nat}{V:Vs}{G:Gt}
def aoh(base:Nat)(w:MO)(g:Nat)(V:Vs)(G':Gt)(i:Nat)(r:Ending)(w':MO):Prop :=
 ∃V' bf,r=MN (fP bf i)/\OR base w' g V' G'/\V'.pf=MI ⟨bf,0,MH⟩/\V'.bh=V.bh/\WV V V' g w w'
theorem aql(h:OR base w g V G)(hbs:Bs G)(hfree:G.tab.any Y1=Nw)(hk:0<=key/\key<=4294967295)(hb:0<=b/\b<12):
  Ni MK 84 #[gP g,MF ME key,MF ME b] w (aoh base w g V (abv G key b) (Y3 G.fls (Y8 G.tab key b).2.1.1)):=by
 obtain⟨j,d4,t,e9,b8,d8⟩:=hbs.Gd hfree hk hb;have a0:=hbs.Gb;obtain⟨l,a5⟩:∃l,l=G.tab[j].1:=⟨_,rfl⟩;obtain⟨m,hm⟩:∃m,m=G.tab.set j (l,Nw,key,b):=⟨_,rfl⟩;rw[<-a5,<-hm]at t;obtain⟨x,Q⟩:∃x:Fl,x=⟨(j:Int),l,key,b,Nb,0,0⟩:=⟨_,rfl⟩;obtain⟨i,A⟩:∃i,i=Y3 G.fls (j:Int):=⟨_,rfl⟩;have n:i<=G.fls.length:=by rw[A];exact ad4 _ _
 have Y:abv G key b={G with tab:=m,fls:=Xi G.fls x i}:=by unfold abv;rw[t,Q,A]
 have a3:Y3 G.fls (Y8 G.tab key b).2.1.1=i:=by rw[t,A]
 rw[Y,a3];have S:=auV (MG V.pt G.tab.length V.ct) G.tab key b w h.rest.tab.now;rw[t]at S;have g4:=h.Gs;have h0:=h.lt;have H:M6 (_/\_/\_/\_/\_/\_):=⟨h,S,a0,Q,A,n⟩;clear h hbs S a0 Q n t Y hm a5 b8 hfree hk hb e9 d8 a3 A;clear d4;go_enter Tryz.func84,Tryz.ntmps84
 go_wp2_with fail
 refine Nd H.out.2.1 ?_;rintro r d ⟨p,c,rfl,B,E⟩;have u:=H.out.1.below E;have g6:=u.Gs;have g5:=u.Gr;have g7:=u.fz 17;have f6:=u.lt;have f5:¬g=d.heap.size:=by omega
 have f0:¬g=d.heap.size+1:=by omega
 have f8:¬d.heap.size=g:=by omega
 have g0:¬d.heap.size+1=g:=by omega
 have M:=H.out.1.Ix E B;have b3:WV V {V with pt:=p,ct:=c} g w (d.setCell ⟨g,17,MH⟩ (MG p m.length c)):=((WV.F5 (V:=V) (g:=g) E).F4 17 _).Gp fun _ h=>h
 obtain⟨W,O⟩:∃W,W=((d.setCell ⟨g,17,MH⟩ (MG p m.length c)).alloc (MP #[MG p m.length c] 39)).alloc (MP #[MF ME (j:Int),MF ME l] 70):=⟨_,rfl⟩;have a9:=acu (d.setCell ⟨g,17,MH⟩ (MG p m.length c)) (MP #[MG p m.length c] 39) (MP #[MF ME (j:Int),MF ME l] 70);rw[<-O]at a9;obtain⟨_,F,J,d5⟩:=a9;have b5:(d.setCell ⟨g,17,MH⟩ (MG p m.length c)).heap.size=d.heap.size:=by simp
 rw[b5]at F;have L:=M.below J;have b4:=b3.below J;obtain⟨R,y1,_,_,b0⟩:=Xa F;have HI:=apo (MG V.pf G.fls.length V.cf) G.fls (j:Int) (d.heap.size+1) W L.GK R;have b6:¬Vs.own {V with pt:=p,ct:=c} g (d.heap.size+1):=M.rest.new (by simp);have I:M6 (_/\_/\_/\_/\_):=⟨HI,L,b4,F,b6⟩;clear B E u M b3 F J d5 b5 L b4 HI R y1 b0 b6
 go_wp2_with fail
 rw[<-O];clear O;refine Nd I.out.1 ?_;rintro r N ⟨rfl,D⟩;have v:=I.out.2.1.below D;have a4:=I.out.2.2.1.below D;obtain⟨R,y1,_,_,b0⟩:=Xa (WO I.out.2.2.2.1 D);have g2:=v.Gr;have f9:=v.lt;have g3:=H.out.2.2.1;have n:=H.out.2.2.2.2.2;have U:M6 (∀X k,MQ N.heap.size N X->X.heap[k]?=MI (MP #[MF ME (j:Int),MF ME l,MF ME key,MF ME b,M3 Nb,MF ME 0,MF ME 0] 72 (0,0))->N.heap.size<=k->Ni MK 125 #[MG V.pf G.fls.length V.cf,MF ME (i:Int),MG (MI ⟨k,0,MH⟩) 1 1] X fun r w'=>∃q a,r=MN (MG (MI ⟨q,0,MH⟩) (G.fls.length+1) a)/\w'.cell? ⟨g,18,MH⟩=MI (MG V.pf G.fls.length V.cf)/\w'.frozen? ⟨g,18,MH⟩=Nb/\g<w'.heap.size/\a<=9223372036854775807/\G.fls.length+1<=a /\
   M6 (OR base (w'.setCell ⟨g,18,MH⟩ (MG (MI ⟨q,0,MH⟩) (G.fls.length+1) a)) g {V with pt:=p,ct:=c,pf:=MI ⟨q,0,MH⟩,cf:=a} {G with tab:=m,fls:=Xi G.fls x i}/\WV V {V with pt:=p,ct:=c,pf:=MI ⟨q,0,MH⟩,cf:=a} g w (w'.setCell ⟨g,18,MH⟩ (MG (MI ⟨q,0,MH⟩) (G.fls.length+1) a)))):=by
  intro X k hX hk g9;have o:=v.below hX;have d0:(MG V.pf G.fls.length V.cf).ownBlock≠MI k:=fun e=>by
   have:=(v.rest.fls.lt k e).2;omega
  refine(apD base (MG V.pf G.fls.length V.cf) G.fls x #[MF ME (j:Int),MF ME l,MF ME key,MF ME b,M3 Nb,MF ME 0,MF ME 0] (by rw[H.out.2.2.2.1]) i k X o.rest.fls o.base n d0 hk (by omega)).mono ?_;rintro r w' ⟨q,a,rfl,B,s,hq⟩;have K:∀z,z<X.heap.size->V.pf.map (·.block)≠MI z->w'.heap[z]?=X.heap[z]?:=fun z hz hn=>s.block z hz (fun e=>hn (by rw[e,XV]))
  have a8:=(K g o.lt o.rest.fg).trans o.box;have Z:(Xi G.fls x i).length=G.fls.length+1:=ad1 _ _ n;have a7:∀z,(MI (⟨q,0,MH⟩:Oc)).map (·.block)=MI z->V.pf.map (·.block)=MI z\/X.heap.size<=z:=fun z e=>by
   cases e;exact hq.imp (fun e=>by rw[<-XV V.pf G.fls.length V.cf];exact e) id
  have a6:=o.IU (w':=w') (p:=MI ⟨q,0,MH⟩) (c:=a) (m:=Xi G.fls x i) s.size K (by rw[Z];exact B) a7;rw[Z]at a6;have T:a<=9223372036854775807/\G.fls.length+1<=a:=by
   rcases B.2 with⟨P,_⟩|⟨g',c',g8,P,_,_,h1,h2,_⟩
   ·cases P
   ·cases P
    unfold NE at h2;exact⟨h2,h1⟩
  have e8:WV {V with pt:=p,ct:=c} {V with pt:=p,ct:=c,pf:=MI ⟨q,0,MH⟩,cf:=a} g X w':=by
   refine⟨s.os,s.tape,s.output,s.size,fun z hz hn=>K z hz fun e=>hn (NF (NF (Nt e))),fun z e=>?_⟩;rcases e with e|e|e|e
   ·exact Nt (Nt e)
   ·exact Nt (NF (Nt e))
   ·exact(a7 z e).imp (fun e=>NF (NF (Nt e))) id
   ·exact Nt (NF (NF (NF e)))
  refine⟨q,a,rfl,by rw[MW w' g 18 _ _ (0,0) a8];rfl,by simp[Ng,a8],M8 o.lt s.size,T.1,T.2,a6,?_⟩;exact((a4.below hX).F0 e8).F4 18 _
 have b2:G.fls.findIdx (fun f=>Nn ((j:Int)<f.slot))=i:=H.out.2.2.2.2.1.symm;rw[b2];have HZ:M6 _:=n;clear v a4 D b2 n
 by_cases hil:i<G.fls.length
 ·have y:X6 i G.fls.length=(i:Int):=Nh hil
  rw[y];have b9:(i:Int)<(G.fls.length:Int)+1:=by omega
  have g1:¬((i:Int)<0):=by omega
  clear y
  go_wp2_with fail
  go_region_with (first|(go_at_call 125;refine(U.out _ _ ?hb ?hk ?hn).mono ?_;(case hb=>first|exact((MY _ _).alloc (MV _) _).drew|exact((Below.refl _ _).drew).alloc (by simp) _);(case hk=>exact M1 _ _);(case hn=>exact MV _);rintro r w5 ⟨q,a,rfl,d7,d2,b7,d3,d1,C⟩))
  all_goals
   go_wp2;go_ret;exact⟨_,q,by simp,C.out.1,rfl,rfl,C.out.2⟩
 ·obtain rfl:i=G.fls.length:=by have:=HZ.out;omega
  have y:X6 G.fls.length G.fls.length = -1:=Nf hil;rw[y];have b9:(G.fls.length:Int)<(G.fls.length:Int)+1:=by omega
  clear y
  go_wp2_with fail
  go_region_with (first|(go_at_call 125;refine(U.out _ _ ?hb ?hk ?hn).mono ?_;(case hb=>first|exact((MY _ _).alloc (MV _) _).drew|exact((Below.refl _ _).drew).alloc (by simp) _);(case hk=>exact M1 _ _);(case hn=>exact MV _);rintro r w5 ⟨q,a,rfl,d7,d2,b7,d3,d1,C⟩))
  all_goals
   go_wp2;go_ret;exact⟨_,q,by simp,C.out.1,rfl,rfl,C.out.2⟩
end
abbrev adk(x:Ld):List Value:=[MF ME x.1,MF ME x.2.1,MF ME x.2.2]
theorem apO(x:Ld):(adk x).length=3:=rfl
theorem apN(x:Ld):∀u∈adk x,u.oneCell'=true:=by
 intro u a;simp only[OO,OD,or_false]at a;rcases a with rfl|rfl|rfl <;> rfl
theorem ak5:∀l:List Ld,rv adk l=abG l
 | []=>rfl
 |x::l=>by simp[rv,abG,ak5 l]
theorem apu:(Tryz.prog.info? 298).map (fun i=>(i.zero,i.size,i.bytes))=MI (MI (Ny #[MF ME 0,MF ME 0,MF ME 0]),3,24):=by kernel_rfl
def abc(fs:List Fl):List Int:=(Pm 12).map fun(b:Nat)=>((abu fs (b:Int):Nat):Int)
theorem aeF(fs:List Fl):(abc fs).length=12:=by simp[abc]
theorem afI(fs:List Fl){b:Nat}(hb:b<12):(abc fs)[b]'(by rw[aeF];exact hb)=((abu fs (b:Int):Nat):Int):=by simp[abc]
theorem aoP(fs:List Fl)(f:Fl){b:Nat}(hb:b<12)(he:f.be=(b:Int)):abc (fs++[f])=(abc fs).set b (((abu fs (b:Int):Nat):Int)+1):=by
 apply PX
 ·simp[aeF]
 ·intro k c d
  have a:k<12:=by simpa [aeF]using c
  rw[afI _ a,Pc];unfold abu;rw[Qi]
  by_cases e:b=k
  ·subst e
   rw[Nh rfl];simp[he]
  ·rw[Nf e,afI _ a]
   have:(f.be == (k:Int))=false:=by rw[he,Oh];omega
   simp[abu,this]
section
variable {base:Nat}{w:MO}{g:Nat}{V:Vs}{G:Gt}
def aaH(G:Gt)(fs:List Fl)(k:Nat):List Ld:=((G.liv.take k).filter fun l=>l.2.1 == 2).map fun l=>(l.1,abV G l,(abu fs l.1:Int))
theorem apX(fs:List Fl):aaH G fs G.liv.length=aab G fs:=by unfold aaH aab;rw[NT]
theorem ap0(fs:List Fl)(hk:k<G.liv.length)(h:G.liv[k].2.1=2):aaH G fs (k+1)=aaH G fs k++[(G.liv[k].1,abV G G.liv[k],(abu fs G.liv[k].1:Int))]:=by
 unfold aaH;rw[M9 hk,OY,OI];simp[h]
theorem apZ(fs:List Fl)(hk:k<G.liv.length)(h:¬G.liv[k].2.1=2):aaH G fs (k+1)=aaH G fs k:=by
 unfold aaH;rw[M9 hk,OY,OI];have:(G.liv[k].2.1 == 2)=false:=by rw[Oh];exact h
 simp[this]
theorem apY(fs:List Fl)(k:Nat):(aaH G fs k).length<=G.liv.length:=by
 unfold aaH;rw[N0];exact Nm (O1 _ _) (List.length_take_le' _ _)
theorem ap2{W:MO}{B:Nat}{p:Option Oc}{n c:Nat}{m:List Ld}(ho:W.ownsRow B 298 3 (MG p n c) n (rv adk m))(hB:B<=W.heap.size)(hn:n<=1000)(x:Ld) :
  ∃q c' w5,(N2 #[246,246] 246 #[MG p n c,MG (MI ⟨W.heap.size,0,MH⟩) 1 1]).run MK (W.alloc (MP #[MF ME x.1,MF ME x.2.1,MF ME x.2.2] 298))=.ok (MG (MI ⟨q,0,MH⟩) (n+1) c') w5 /\
   w5.ownsRow B 298 3 (MG (MI ⟨q,0,MH⟩) (n+1) c') (n+1) (rv adk (m++[x]))/\MQ B W w5/\∀b,b<W.heap.size->p.map (·.block)≠MI b->w5.heap[b]?=W.heap[b]?:=by
 obtain⟨q,c',w5,f,d,a,j⟩:=afC apO apN (by decide) Tryz.underlying246 apu rfl ho hB 246 x #[MF ME x.1,MF ME x.2.1,MF ME x.2.2] rfl (by omega) (by unfold NE;omega);exact⟨q,c',w5,f,d,(MY _ _).grown a hB (fun k hk=>(ho.lt k hk).1),fun b hb hne=>a.block b hb fun e=>hne (by rw[<-XV p n c,<-e])⟩
theorem ap1(h:OR base w g V G)(hbs:Bs G)(v:M7)(fs:List Fl)(hv:ZR w v fs)(hfs:∀f∈fs,0<=f.be/\f.be<12)(hl:fs.length<=40) :
  Ni MK 121 #[gP g,v] w fun r w'=>∃y,r=MN y/\aaR w' y (aab G fs)/\MQ w.heap.size w w':=by
 obtain⟨pa,ca,rfl,j5,i2,pf⟩:=hv.F6;unfold NE at i2;obtain⟨W,hW⟩:∃W,W=w.alloc (MP (WR (Nj 12 0)).toArray 232):=⟨_,rfl⟩;have hB:MQ w.heap.size w W:=by rw[hW];exact WQ w
 have j:Xj 232 12 W w.heap.size (abc []):=by
  have e:abc []=Nj 12 0:=by rfl
  rw[hW,e];exact Xj.new w 232 (Nj 12 0)
 have i8:=hbs.book.1.1;have H:M6 (_/\_/\_/\_/\_/\_):=⟨h,hbs,hfs,pf,hB,j⟩;have j7:=h.lt;clear h hbs hv hfs pf hB j;go_enter T0,TU;go_wp2;rw[show(w.alloc (MP #[MF ME 0,MF ME 0,MF ME 0,MF ME 0,MF ME 0,MF ME 0,MF ME 0,MF ME 0,MF ME 0,MF ME 0,MF ME 0,MF ME 0] 232))=W from hW.symm];clear hW
 go_loopw [13] (fun t wr=>∃k:Nat,t=MF ME k/\k<=fs.length/\Xj 232 12 wr w.heap.size (abc (fs.take k))/\MQ w.heap.size w wr/\w.heap.size<wr.heap.size) (fun t _=>fs.length-(intOf t).toNat)
 case atStart=>exact⟨0,rfl,Nx _,H.out.2.2.2.2.2,H.out.2.2.2.2.1,H.out.2.2.2.2.2.lt⟩
 case round =>
  obtain⟨k,rfl,hk,j,a,b6⟩:=hrel
  by_cases hlt:k<fs.length
  ·obtain⟨m,u,rfl,l,P,L,M,N,O,Q,z6⟩:=H.out.2.2.2.1 k hlt
   have b5:=H.out.2.2.1 _ (Nk hlt);have a5:fs.take (k+1)=fs.take k++[fs[k]]:=M9 hlt;obtain⟨f,d4⟩:∃f,f=fs[k]:=⟨_,rfl⟩;rw[<-d4]at P L M N O Q z6 b5 a5;obtain⟨b,a3⟩:=NL b5.1;have U:b<12:=by omega
   have f5:(b:Int)<12:=by omega
   have h0:(0:Int)<=(b:Int):=by omega
   have e0:=(a.cell (p:=⟨m,u+k*7,MH⟩) l).trans P;have e1:=(a.cell (p:=⟨m,u+k*7+1,MH⟩) l).trans L;have e2:=(a.cell (p:=⟨m,u+k*7+2,MH⟩) l).trans M;have e3:=(a.cell (p:=⟨m,u+k*7+3,MH⟩) l).trans N;have e4:=(a.cell (p:=⟨m,u+k*7+4,MH⟩) l).trans O;have e5:=(a.cell (p:=⟨m,u+k*7+5,MH⟩) l).trans Q;have e6:=(a.cell (p:=⟨m,u+k*7+6,MH⟩) l).trans z6;rw[a3]at e3;have a1:=j.F7 b (by rw[aeF];exact U);rw[afI _ U]at a1;have a2:=j.Gu b;obtain⟨d,F⟩:∃d:Int,d=((abu (fs.take k) (b:Int):Nat):Int):=⟨_,rfl⟩;rw[<-F]at a1;have j2:0<=d/\d<=40:=by have:=aj7 (fs.take k) (b:Int);rw[NH]at this;omega
   have j1:IntKind.i64.wrap (d+1)=d+1:=by rw[Ow];omega
   have e9:m<wr.heap.size:=M8 l a.size;have f6:(k:Int)<(fs.length:Int):=by omega
   have R:M6 (_/\_/\_/\_/\_/\_):=⟨j,a,b6,a5,a3,F⟩;clear j a a5 a3 F P L M N O Q z6 d4 b5 l;have i7:¬w.heap.size=wr.heap.size:=by omega
   have i4:¬wr.heap.size=w.heap.size:=by omega
   go_wp2
   go_roundw
   case rel =>
    obtain⟨j,a,b6,a5,a3,F⟩:=R.out;refine⟨k+1,by simp,hlt,?_,?_,?_⟩
    ·rw[a5,aoP _ _ U a3,<-F]
     first
     |exact(j.F4 b (d+1)).below (WQ _)
     |exact(j.below (WQ _)).set b (d+1)
    ·first
     |exact(a.setCell (p:=⟨w.heap.size,b,MH⟩) (MV _) _).alloc (by simp;omega) _
     |exact(a.alloc (by omega) _).setCell (p:=⟨w.heap.size,b,none⟩) (Nat.le_refl _) _
    ·simp;omega
   case measure=>simp[intOf];omega
  ·obtain rfl:k=fs.length:=by omega
   rw[NT]at j;have i5:¬((fs.length:Int)<(fs.length:Int)):=by omega
   have b4:=H.out.1.below a;have f0:=b4.Gn;have i6:=b4.lt;obtain⟨al,j3,g3,i9,e8,d3⟩:=adt.F6 H.out.1.rest.book.now.1;injection g3 with el1 _ el3;unfold NE at e8;rw[el1,el3]at f0;obtain⟨W1,h6⟩:∃W1,W1=wr:=⟨_,rfl⟩;subst h6;have HL:M6 (_/\_/\_/\_):=⟨j,a,b6,d3⟩;clear j a b4 hlt d3 el1 el3;go_wp2
   go_loopw [8,31] (fun s8 t wr=>∃(k:Nat) (p:Option Oc) (n c:Nat),s8=MG p n c/\t=MF ME k/\k<=G.liv.length/\n=(aaH G fs k).length/\wr.ownsRow (w.heap.size+1) 298 3 (MG p n c) n (rv adk (aaH G fs k))/\Xj 232 12 wr w.heap.size (abc fs)/\MQ w.heap.size w wr/\w.heap.size<wr.heap.size) (fun _ t _=>G.liv.length-(intOf t).toNat)
   case atStart=>exact⟨0,MH,0,0,rfl,rfl,Nx _,rfl,NY _ _ _ _,HL.out.1,HL.out.2.1,HL.out.2.2.1⟩
   case round =>
    obtain⟨k,p,n,c,rfl,rfl,hk,J,D,j,a,d0⟩:=hrel
    by_cases hlt:k<G.liv.length
    ·obtain⟨m,u,f8,l,P,L,M,N,O,Q⟩:=HL.out.2.2.2 k hlt
     subst f8;have a4:=Nk hlt;have Y:=(H.out.2.1.lf a4).1.1;have S:=ap0 (G:=G) fs hlt;have I:=apZ (G:=G) fs hlt;have d8:=apY (G:=G) fs k;obtain⟨⟨x1,x2,A,B,C,E⟩,b8⟩:∃x,x=G.liv[k]:=⟨_,rfl⟩;rw[<-b8]at P L M N O Q a4 Y S I;have Y:0<=x1/\x1<=11:=Y;obtain⟨b,rfl⟩:=NL Y.1;have U:b<12:=by omega
     have f5:(b:Int)<12:=by omega
     have h0:(0:Int)<=(b:Int):=by omega
     have e0:=(a.cell (p:=⟨m,u+k*6,MH⟩) l).trans P;have e1:=(a.cell (p:=⟨m,u+k*6+1,MH⟩) l).trans L;have e2:=(a.cell (p:=⟨m,u+k*6+2,MH⟩) l).trans M;have e3:=(a.cell (p:=⟨m,u+k*6+3,MH⟩) l).trans N;have e4:=(a.cell (p:=⟨m,u+k*6+4,MH⟩) l).trans O;have e5:=(a.cell (p:=⟨m,u+k*6+5,MH⟩) l).trans Q;have e9:m<wr.heap.size:=M8 l a.size;have f6:(k:Int)<(G.liv.length:Int):=by omega
     by_cases h2:x2=2
     ·subst h2
      have S:=S rfl;obtain⟨K,a9⟩:∃K,K=wr.alloc (YQ ((b:Int),2,A,B,C,E)):=⟨_,rfl⟩;have T:MQ wr.heap.size wr K:=by rw[a9];exact WQ wr
      have b2:K.heap[wr.heap.size]?=MI (YQ ((b:Int),2,A,B,C,E)):=by rw[a9];exact M1 _ _
      have b9:=j.below T;have d2:=YI D T;have d7:=(H.out.1.below a).below T;have a6:∀ {X:MO},X.heap[wr.heap.size]?=MI (YQ ((b:Int),2,A,B,C,E))->X.cell? ⟨wr.heap.size,0,MH⟩=MI (MF ME (b:Int))/\X.cell? ⟨wr.heap.size,1,MH⟩=MI (MF ME 2)/\X.cell? ⟨wr.heap.size,2,MH⟩=MI (MF ME A)/\X.cell? ⟨wr.heap.size,3,MH⟩=MI (MF ME B)/\X.cell? ⟨wr.heap.size,4,MH⟩=MI (MF ME C)/\X.cell? ⟨wr.heap.size,5,MH⟩=MI (MF ME E):=fun {X} hX =>
       ⟨by rw[MW X _ 0 _ _ (0,0) hX];rfl,by rw[MW X _ 1 _ _ (0,0) hX];rfl,by rw[MW X _ 2 _ _ (0,0) hX];rfl,by rw[MW X _ 3 _ _ (0,0) hX];rfl,by rw[MW X _ 4 _ _ (0,0) hX];rfl,by rw[MW X _ 5 _ _ (0,0) hX];rfl⟩
      obtain⟨d,F⟩:∃d:Int,d=((abu fs (b:Int):Nat):Int):=⟨_,rfl⟩;obtain⟨wt,b7⟩:∃wt,wt=abV G ((b:Int),2,A,B,C,E):=⟨_,rfl⟩;have a0:∀ {X:MO},Xj 232 12 X w.heap.size (abc fs)->X.cell? ⟨w.heap.size,b,MH⟩=MI (MF ME d):=fun {X} hX=>by
       have:=hX.F7 b (by rw[aeF];exact U);rw[afI _ U,<-F]at this;exact this
      have g5:M6 (∀X:MO,MQ K.heap.size K X->Ni MK 169 #[gP g,abR ((b:Int),2,A,B,C,E)] X fun r w'=>r=MN (MF ME wt)/\∃q c' s,
        (w'.cell? ⟨wr.heap.size,0,MH⟩=MI (MF ME (b:Int))/\w'.cell? ⟨wr.heap.size,1,MH⟩=MI (MF ME 2)/\w'.cell? ⟨wr.heap.size,2,MH⟩=MI (MF ME A)/\w'.cell? ⟨wr.heap.size,3,MH⟩=MI (MF ME B)/\w'.cell? ⟨wr.heap.size,4,MH⟩=MI (MF ME C)/\w'.cell? ⟨wr.heap.size,5,MH⟩=MI (MF ME E)/\w'.cell? ⟨w.heap.size,b,MH⟩=MI (MF ME d)) /\
        ((w'.alloc (MP #[MF ME (b:Int),MF ME wt,MF ME d] 298)).cell? ⟨wr.heap.size,0,MH⟩=MI (MF ME (b:Int))/\(w'.alloc (MP #[MF ME (b:Int),MF ME wt,MF ME d] 298)).cell? ⟨wr.heap.size,1,MH⟩=MI (MF ME 2)/\(w'.alloc (MP #[MF ME (b:Int),MF ME wt,MF ME d] 298)).cell? ⟨wr.heap.size,2,MH⟩=MI (MF ME A)/\(w'.alloc (MP #[MF ME (b:Int),MF ME wt,MF ME d] 298)).cell? ⟨wr.heap.size,3,MH⟩=MI (MF ME B)/\(w'.alloc (MP #[MF ME (b:Int),MF ME wt,MF ME d] 298)).cell? ⟨wr.heap.size,4,MH⟩=MI (MF ME C)/\(w'.alloc (MP #[MF ME (b:Int),MF ME wt,MF ME d] 298)).cell? ⟨wr.heap.size,5,MH⟩=MI (MF ME E)/\(w'.alloc (MP #[MF ME (b:Int),MF ME wt,MF ME d] 298)).cell? ⟨w.heap.size,b,MH⟩=MI (MF ME d)) /\
        (s.cell? ⟨wr.heap.size,0,MH⟩=MI (MF ME (b:Int))/\s.cell? ⟨wr.heap.size,1,MH⟩=MI (MF ME 2)/\s.cell? ⟨wr.heap.size,2,MH⟩=MI (MF ME A)/\s.cell? ⟨wr.heap.size,3,MH⟩=MI (MF ME B)/\s.cell? ⟨wr.heap.size,4,MH⟩=MI (MF ME C)/\s.cell? ⟨wr.heap.size,5,MH⟩=MI (MF ME E)/\s.cell? ⟨w.heap.size,b,MH⟩=MI (MF ME d)) /\
        M6 ((N2 #[246,246] 246 #[MG p n c,MG (MI ⟨w'.heap.size,0,MH⟩) 1 1]).run MK (w'.alloc (MP #[MF ME (b:Int),MF ME wt,MF ME d] 298))=.ok (MG (MI ⟨q,0,MH⟩) (n+1) c') s/\s.ownsRow (w.heap.size+1) 298 3 (MG (MI ⟨q,0,MH⟩) (n+1) c') (n+1) (rv adk (aaH G fs (k+1)))/\Xj 232 12 s w.heap.size (abc fs)/\MQ w.heap.size w s/\w.heap.size<s.heap.size)):=by
       refine fun X hX=>(aq4 (d7.below hX) H.out.2.1 a4).mono ?_
       rintro r w' ⟨rfl,g9⟩;have a7:MQ K.heap.size K w':=hX.trans (g9.mono hX.size);have b0:=b9.below a7;have h8:=YI d2 a7;have a8:=WO b2 a7;have g2:MQ w.heap.size w w':=(a.trans (T.mono a.size)).trans (a7.mono (Nm a.size T.size));obtain⟨q,c',s,hr,g1,g8,d5⟩:=ap2 h8 (Nm (by omega) (Nm T.size a7.size)) (by omega) ((b:Int),wt,d);have d1:∀z,p.map (·.block)=MI z->w.heap.size+1<=z/\z<wr.heap.size:=fun z e=>D.lt z (by rw[XV];exact e)
       have g0:wr.heap.size<w'.heap.size:=(Array.getElem?_eq_some_iff.1 a8).1;have g7:=(d5 wr.heap.size g0 (fun e=>by have:=(d1 _ e).2;omega)).trans a8;have b3:=b0.Gf (d5 w.heap.size b0.lt (fun e=>by have:=(d1 _ e).1;omega));have i1:=WO a8 (WQ w' (o:=MP #[MF ME (b:Int),MF ME wt,MF ME d] 298));have f9:=b0.below (WQ w' (o:=MP #[MF ME (b:Int),MF ME wt,MF ME d] 298));have Z:=a6 a8;have f2:=a6 i1;have f3:=a6 g7;refine⟨by rw[b7],q,c',s,⟨Z.1,Z.2.1,Z.2.2.1,Z.2.2.2.1,Z.2.2.2.2.1,Z.2.2.2.2.2,a0 b0⟩,⟨f2.1,f2.2.1,f2.2.2.1,f2.2.2.2.1,f2.2.2.2.2.1,f2.2.2.2.2.2,a0 f9⟩,⟨f3.1,f3.2.1,f3.2.2.1,f3.2.2.2.1,f3.2.2.2.2.1,f3.2.2.2.2.2,a0 b3⟩,hr,?_,b3,g2.trans (g8.mono (Ps _)),b3.lt⟩;rw[S,<-b7,<-F];exact g1
      obtain⟨y0,y1,y2,y3,y4,y5⟩:=a6 b2;have yc:=a0 b9;have j4:wr.heap.size<K.heap.size:=(Array.getElem?_eq_some_iff.1 b2).1;have i3:M6 (n+1=(aaH G fs (k+1)).length):=by show n+1=_;rw[S,Ns,<-J];rfl
      clear D j a S I b8 P L M N O Q a4 Y T b2 b9 d2 d7 a6 a0 F b7 J d8 l
      go_wp2_with fail
      rw[<-a9];clear a9
      go_region_held3 (fun X=>X.cell? ⟨wr.heap.size,0,MH⟩=MI (MF ME (b:Int))/\X.cell? ⟨wr.heap.size,1,MH⟩=MI (MF ME 2)/\X.cell? ⟨wr.heap.size,2,MH⟩=MI (MF ME A)/\X.cell? ⟨wr.heap.size,3,MH⟩=MI (MF ME B)/\X.cell? ⟨wr.heap.size,4,MH⟩=MI (MF ME C)/\X.cell? ⟨wr.heap.size,5,MH⟩=MI (MF ME E)/\X.cell? ⟨w.heap.size,b,MH⟩=MI (MF ME d)) (first|exact⟨y0,y1,y2,y3,y4,y5,yc⟩|exact g6|exact h7|exact g4) (first|(go_at_call 169;refine(g5.out _ (by first|exact(MY _ _).drew|exact Below.refl _ _)).mono ?_;rintro r w4 ⟨rfl,q,c',s,g6,h7,g4,hQ⟩)|(refine aec (by rfl) _ _ 246 (by rfl) _ _ _ _ (by rfl) (by rfl) hQ.out.1 ?_))
      all_goals
       go_wp2
       go_roundw
       case rel=>exact⟨k+1,MI ⟨q,0,MH⟩,n+1,c',rfl,by simp,hlt,i3.out,hQ.out.2.1,hQ.out.2.2.1,hQ.out.2.2.2.1,hQ.out.2.2.2.2⟩
       case measure=>simp[intOf];omega
     ·have I:=I h2
      have j6:(x2 == 2)=false:=by rw[Oh];exact h2
      have R:M6 (_/\_/\_/\_/\_/\_):=⟨D,j,a,d0,J,I⟩;clear D j a S I b8 P L M N O Q a4 Y J d8 l;go_wp2
      go_roundw
      case rel =>
       obtain⟨D,j,a,d0,J,I⟩:=R.out;refine⟨k+1,p,n,c,rfl,by simp,hlt,by rw[I];exact J,by rw[I];exact D.alloc _,j.below (WQ _),a.alloc (by omega) _,by simp;omega⟩
      case measure=>simp[intOf];omega
    ·obtain rfl:k=G.liv.length:=by omega
     have j0:¬((G.liv.length:Int)<(G.liv.length:Int)):=by omega
     rw[apX]at J D;have R:M6 (_/\_/\_):=⟨D,a,J⟩;clear D a J j;go_wp2;go_ret;refine⟨_,rfl,?_,R.out.2.1⟩;have h9:=Yr R.out.1;rw[ak5,R.out.2.2]at h9;rw[R.out.2.2];exact h9
end
section
variable {base:Nat}{w:MO}{g:Nat}{V:Vs}{G:Gt}
abbrev ag8(G:Gt):Obj:=MP #[MF ME G.cfg.flows,MF ME G.cfg.num,MF ME G.cfg.den,MF ME G.cfg.tries,MF ME G.cfg.warm,MF ME G.cfg.drain,MF ME G.cfg.idle,MF ME G.cfg.conn,MF ME G.cfg.ret,MF ME G.cfg.most,MF ME G.cfg.bn,MF ME G.cfg.bd,MF ME G.cfg.bb,MF ME G.cfg.wn,MF ME G.cfg.wf,MF ME G.cfg.wh] 35
theorem ahb(h:OR base w g V G)(hbs:Bs G)(hkey:0<=key/\key<=4294967295)(v:M7)(fs:List Fl)(hv:ZR w v fs)(hfs:∀f∈fs,0<=f.be/\f.be<12)(hl:fs.length<=40):
  Ni MK 83 #[gP g,MF ME key,v] w fun r w'=>r=MN (Nv #[MF ME (XD G key fs).1,M3 ((XD G key fs).2 == 0)])/\MQ w.heap.size w w':=by
 obtain⟨D,rfl⟩:=NL hkey.1;obtain⟨N,L,rfl,b0,a8,_⟩:=hv.F6;unfold NE at a8;obtain⟨j,A⟩:∃j,j=acy (WW G.wts) (abp D:Nat):=⟨_,rfl⟩;have C:=auo (MG V.ps (WW G.wts).length V.cs) G.wts D w hbs.wts h.rest.ring.now (by omega);rw[<-A]at C;have a5:=h.GX;have b2:=h.lt;obtain⟨O,E⟩:∃O,O=XD G (D:Int) fs:=⟨_,rfl⟩;have I:O=ab6 j (aab G fs) G.cfg.num G.cfg.den (fs.length:Int) G.cfg.tries:=by
  rw[E,A];unfold XD ahS;rw[NR]
 rw[<-E];have H:M6 (_/\_/\_/\_/\_/\_/\_):=⟨h,hbs,hv,hfs,hl,C,I⟩;clear h hbs hv hfs C E I A hkey;go_enter Vw,Vt
 go_wp2_with fail
 refine Nd H.out.2.2.2.2.2.1 ?_;rintro r e ⟨p,c,rfl,M,n⟩;have a:=H.out.1.below n;have c0:=a.c0;have c1:=a.c1;have c2:=a.c2;have c3:=a.c3;have c4:=a.c4;have c5:=a.c5;have c6:=a.c6;have c7:=a.c7;have c8:=a.c8;have c9:=a.c9;have a0:=a.Hf;have T:=a.Hn;have U:=a.Hg;have a4:=a.GS;have a6:=a.GU;have Z:=a.GO;have a9:=a.lt;obtain⟨W,u⟩:∃W,W=e.alloc (ag8 G):=⟨_,rfl⟩;have q:MQ e.heap.size e W:=by rw[u];exact WQ e
 have o:W.heap[e.heap.size]?=MI (ag8 G):=by rw[u];exact M1 _ _
 have K:=a.below q;have B:MQ w.heap.size w W:=n.trans (q.mono n.size);have F:ZR W (MG N fs.length L) fs:=Xw.below H.out.2.2.1 B;have J:abE W (MG p j.length c) j:=Yr (YI M q);have s:∀ {X:MO},X.heap[e.heap.size]?=MI (ag8 G)->X.cell? ⟨e.heap.size,1,MH⟩=MI (MF ME G.cfg.num)/\X.cell? ⟨e.heap.size,2,MH⟩=MI (MF ME G.cfg.den)/\X.cell? ⟨e.heap.size,3,MH⟩=MI (MF ME G.cfg.tries):=fun {X} hX =>
  ⟨by rw[MW X _ 1 _ _ (0,0) hX];rfl,by rw[MW X _ 2 _ _ (0,0) hX];rfl,by rw[MW X _ 3 _ _ (0,0) hX];rfl⟩
 have a3:M6 (∀X,MQ W.heap.size W X->Ni MK 121 #[gP g,MG N fs.length L] X fun r w'=>∃z m d,r=MN (MG z m d)/\(w'.cell? ⟨e.heap.size,1,MH⟩=MI (MF ME G.cfg.num)/\w'.cell? ⟨e.heap.size,2,MH⟩=MI (MF ME G.cfg.den)/\w'.cell? ⟨e.heap.size,3,MH⟩=MI (MF ME G.cfg.tries))/\M6 (aaR w' (MG z m d) (aab G fs)/\MQ W.heap.size W w')):=by
  refine fun X hX=>(ap1 (K.below hX) H.out.2.1 _ fs (Xw.below F hX) H.out.2.2.2.1 H.out.2.2.2.2.1).mono ?_
  rintro r w' ⟨y,rfl,t,x⟩;obtain⟨z,d,rfl,_⟩:=t.F6;have l:=hX.trans (x.mono hX.size);exact⟨z,_,d,rfl,s (WO o l),t,l⟩
 have HP:M6 (∀X z m d,MQ W.heap.size W X->aaR X (MG z m d) (aab G fs)->Ni MK 120 #[MG p j.length c,MG z m d,MF ME G.cfg.num,MF ME G.cfg.den,MF ME (fs.length:Int),MF ME G.cfg.tries] X fun r w'=>r=MN (Nv #[MF ME O.1,MF ME O.2])/\(w'.cell? ⟨e.heap.size,1,MH⟩=MI (MF ME G.cfg.num)/\w'.cell? ⟨e.heap.size,2,MH⟩=MI (MF ME G.cfg.den)/\w'.cell? ⟨e.heap.size,3,MH⟩=MI (MF ME G.cfg.tries))/\M6 (MQ W.heap.size W w')):=by
  refine fun X z m d hX t=>(atd (MG p j.length c) (MG z m d) j (aab G fs) G.cfg.num G.cfg.den (fs.length:Int) G.cfg.tries X (J.below hX) t).mono ?_
  rw[<-H.out.2.2.2.2.2.2];rintro r w' ⟨rfl,x⟩;have l:=hX.trans (x.mono hX.size);exact⟨rfl,s (WO o l),l⟩
 have R:=s o;have Q:M6 _:=B;clear a K n q o F J s B M
 go_wp2_with fail
 rw[<-u];clear u c0 c1 c2 c3 c4 c5 c6 c7 c8 c9 a0 T U a4 a6 Z a5
 go_region_held3 (fun X=>X.cell? ⟨e.heap.size,1,MH⟩=MI (MF ME G.cfg.num)/\X.cell? ⟨e.heap.size,2,MH⟩=MI (MF ME G.cfg.den)/\X.cell? ⟨e.heap.size,3,MH⟩=MI (MF ME G.cfg.tries)) (first|exact R|exact Y|exact a7) (first|(go_at_call 121;refine(a3.out _ (by first|exact(MY _ _).drew|exact Below.refl _ _)).mono ?_;rintro r w4 ⟨z,m,d,rfl,Y,P⟩)|(go_at_call 120;refine(HP.out _ z m d P.out.2 P.out.1).mono ?_;rintro r w5 ⟨rfl,a7,S⟩))
 all_goals
  go_wp2
  go_ret2
  exact⟨rfl,Q.out.trans (S.out.mono Q.out.size)⟩
end
section
variable {base:Nat}{w:MO}{g:Nat}{V:Vs}{G:Gt}
theorem ao8{w':MO}{r:Ending}{G':Gt}(h:aaa base w g V G' r w'):aam base w g V G' r w':=by
 obtain⟨e,a,d,f,c⟩:=h;exact⟨e,a,d,f.2.2,c⟩
theorem aqb(h:OR base w g V G)(hbs:Bs G)(hw:G.wnow=G.now)(hl:G.out.length<=900000)(hkey:0<=key/\key<=4294967295):
  Ni MK 56 #[gP g,MF ME key] w (aam base w g V (aaI G key)):=by
 have J:M6 _:=aoR (MG V.pt G.tab.length V.ct) G.tab w h.rest.tab.now;have d2:=h.Gs;have g5:=h.lt;have b9:∀f∈G.fls,0<=f.be/\f.be<12:=fun f hf=>(hbs.F9 hf).2.2.2
 have H:M6 (_/\_/\_/\_):=⟨h,hbs,hl,b9⟩;obtain⟨O,a⟩:∃O,O=aaI G key:=⟨_,rfl⟩;rw[<-a];have Z:=a;unfold aaI at a;clear h hbs hl b9;cases hfree:G.tab.any Y1
 ·rw[hfree,Nh rfl]at a
  rw[hfree]at J;have HO:M6 _:=a;clear a Z;go_enter azX,azT
  go_wp2_with fail
  refine Nd J.out ?_;rintro r w1 ⟨rfl,m⟩;have o:M6 (_/\_):=⟨af1 (H.out.1.below m) (by have:=H.out.2.2.1;omega) 2 9,WV.F5 (V:=V) (g:=g) m⟩;clear m
  go_wp2_with fail
  refine Nd o.out.1 ?_;rintro r w2 ⟨rfl,V2,u,I,F⟩;have p:M6 (_/\_/\_):=⟨u,I.2.2,o.out.2.F0 F⟩;clear u I F;go_wp2
  go_end0
  rw[HO.out];exact⟨rfl,V2,p.out.1,p.out.2.1,p.out.2.2⟩
 ·rw[hfree,Nf (by decide)]at a
  rw[hfree]at J;obtain⟨⟨K,Q⟩,q⟩:∃Q,Q=XD G key G.fls:=⟨_,rfl⟩
  by_cases hc0:Q=0
  ·subst hc0
   rw[<-q]at a;simp only[]at a;rw[Nf (by decide)]at a;have a4:=H.out.2.1.Ib (key:=key) H.out.2.1.Gb (by rw[<-q]);rw[<-q]at a4;have a9:0<=K/\K<12:=a4.2;obtain⟨d,B⟩:∃d,d=abv G key K:=⟨_,rfl⟩;obtain⟨i,P⟩:∃i,i=Y3 G.fls (Y8 G.tab key K).2.1.1:=⟨_,rfl⟩;rw[<-B,<-P]at a;have b4:Bs d:=by rw[B];exact H.out.2.1.Jn hfree hkey a9
   have b5:i<d.fls.length:=by
    rw[B,P];show Y3 G.fls _<(Xi G.fls _ (Y3 G.fls _)).length;rw[ad1 _ _ (ad4 _ _)];have:=ad4 G.fls (Y8 G.tab key K).2.1.1;omega
   have y:d.cfg=G.cfg/\d.now=G.now/\d.wnow=G.wnow/\d.tok=G.tok/\d.out=G.out:=by rw[B];exact⟨rfl,rfl,rfl,rfl,rfl⟩
   have c:M6 (_/\_/\_/\_/\_/\_/\_/\_):=⟨a,b4,b5,y,a9,B,P,hw⟩;have Y:M6 _:=q;clear a Z b4 y a9 B P a4 hw q b5;go_enter azX,azT
   go_wp2_with fail
   refine Nd J.out ?_;rintro r w1 ⟨rfl,m⟩;have l:=H.out.1.below m;have d4:=l.Gr;have b3:=l.lt;have z:=ahb l H.out.2.1 hkey _ G.fls l.GK H.out.2.2.2 H.out.2.1.Gb;rw[<-Y.out]at z;have o:M6 (_/\_/\_):=⟨z,l,WV.F5 (V:=V) (g:=g) m⟩;clear m l z d2
   go_wp2_with fail
   refine Nd o.out.1 ?_;rintro r w2 ⟨rfl,A⟩;have u:=o.out.2.1.below A;have T:=aql u H.out.2.1 hfree hkey c.out.2.2.2.2.1;rw[<-c.out.2.2.2.2.2.1,<-c.out.2.2.2.2.2.2.1]at T;have p:M6 (_/\_):=⟨T,o.out.2.2.below A⟩;clear A u T d4 b3
   go_wp2_with fail
   refine Nd p.out.1 ?_;rintro r w3 ⟨V3,bf,rfl,N,R,b0,e8⟩;have e7:w3.cell? ⟨g,7,MH⟩=MI (MF ME G.cfg.conn):=by rw[<-c.out.2.2.2.1.1];exact N.c7
   have f5:=N.lt;have d0:=H.out.2.1.now;have y:=c.out.2.2.2.1;have d3:=af2 N c.out.2.2.1 R (n:=G.cfg.conn) H.out.2.1.conn (c.out.2.1.F9 (Nk c.out.2.2.1)).1 (by rw[y.2.2.1,y.2.1];exact c.out.2.2.2.2.2.2.2) (by rw[y.2.1];exact d0);have v:M6 (_/\_/\_/\_):=⟨d3,p.out.2.F0 e8,R,b0⟩;clear N e8 R b0 d3 d0 y
   go_wp2_with fail
   refine Nd v.out.1 ?_;rintro r C ⟨rfl,V4,s,S,b8⟩;obtain⟨j,L⟩:∃j,j=YW d i G.cfg.conn:=⟨_,rfl⟩;rw[<-L]at s;have x:j.cfg=d.cfg/\j.tok=d.tok/\j.out=d.out/\j.fls.length=d.fls.length:=by rw[L];exact⟨rfl,rfl,rfl,by show(d.fls.set i _).length=_;rw[NA]⟩
   have a7:i<j.fls.length:=by rw[x.2.2.2];exact c.out.2.2.1
   have b6:V4.pf=MI ⟨bf,0,MH⟩:=S.1.trans v.out.2.2.1;obtain⟨f,a3⟩:∃f,f=j.fls[i]:=⟨_,rfl⟩;have fc:∀(X:MO) (V':Vs) (t:Int),OR base X g V' {j with tok:=t}->V'.pf=MI ⟨bf,0,MH⟩->X.cell? ⟨bf,i*7,MH⟩=MI (MF ME f.slot)/\X.cell? ⟨bf,i*7+1,MH⟩=MI (MF ME f.gen)/\X.cell? ⟨bf,i*7+2,MH⟩=MI (MF ME f.key)/\X.cell? ⟨bf,i*7+3,MH⟩=MI (MF ME f.be)/\X.cell? ⟨bf,i*7+4,MH⟩=MI (M3 f.srv)/\X.cell? ⟨bf,i*7+5,MH⟩=MI (MF ME f.ret)/\X.cell? ⟨bf,i*7+6,MH⟩=MI (MF ME f.due):=fun X V' t hX hp=>by
    rw[a3];exact hX.Gl hp a7
   have g0:C.cell? ⟨g,10,MH⟩=MI (MF ME G.cfg.bn):=by rw[<-c.out.2.2.2.1.1,<-x.1];exact s.Hf
   have g1:C.cell? ⟨g,11,MH⟩=MI (MF ME G.cfg.bd):=by rw[<-c.out.2.2.2.1.1,<-x.1];exact s.Hn
   have g3:C.cell? ⟨g,12,MH⟩=MI (MF ME G.cfg.bb):=by rw[<-c.out.2.2.2.1.1,<-x.1];exact s.Hg
   have d1:C.cell? ⟨g,23,MH⟩=MI (MF ME G.tok):=by rw[<-c.out.2.2.2.1.2.2.2.1,<-x.2.1];exact s.Id
   have f0:=s.lt;obtain⟨tk,a5⟩:∃tk,tk=(aa9 G.cfg.bn G.cfg.bd G.cfg.bb G.tok).1:=⟨_,rfl⟩;have b2:=v.out.2.1.F0 b8;have HE:M6 (∀X,MQ C.heap.size C X->Ni MK 86 #[Ny #[MF ME G.cfg.bn,MF ME G.cfg.bd,MF ME G.cfg.bb],Ny #[MF ME G.tok]] X fun r D=>∃e,r=MN (Nv #[Ny #[MF ME tk],MF ME e])/\D.cell? ⟨g,23,MH⟩=MI (MF ME G.tok)/\D.frozen? ⟨g,23,MH⟩=Nb/\g<D.heap.size/\M6 (OR base (D.setCell ⟨g,23,MH⟩ (MF ME tk)) g V4 {j with tok:=tk}/\WV V V4 g w (D.setCell ⟨g,23,MH⟩ (MF ME tk)))):=by
    refine fun X hX=>(ajR G.cfg.bn G.cfg.bd G.cfg.bb G.tok X).mono ?_
    rintro r D ⟨rfl,g4⟩;have a8:=hX.trans (g4.mono hX.size);have a0:=s.below a8;exact⟨_,by rw[a5],(a8.cell f0).trans d1,a0.fz 23,a0.lt,a0.IC tk,(b2.below a8).F4 23 _⟩
   have E:M6 (_/\_/\_/\_/\_/\_):=⟨fc,b6,S.2.2.trans v.out.2.2.2,x,L,a5⟩;have f8:M6 (f=Xs j i):=by show f=_;rw[XA a7,a3]
   clear s S b8 x L fc b6 b2 a5 a3 a7 e7 f5
   go_wp2_with fail
   go_region_with (first|(go_at_call 86;refine(HE.out _ (by first|exact(MY _ _).drew|exact Below.refl _ _)).mono ?_;rintro r w5 ⟨ee,rfl,f6,g2,e9,hQ⟩))
   all_goals
    obtain⟨w6,U⟩:∃w6,w6=w5.setCell ⟨g,23,MH⟩ (MF ME tk):=⟨_,rfl⟩;have M:=hQ.out.1;have a6:=hQ.out.2;rw[<-U]at M a6;obtain⟨x0,x1,x2,x3,x4,x5,x6⟩:=E.out.1 _ _ _ M E.out.2.1;have d8:({j with tok:=tk}:Gt).out.length<=1000000:=by show j.out.length<=1000000;rw[E.out.2.2.2.1.2.2.1,c.out.2.2.2.1.2.2.2.2];have:=H.out.2.2.1;omega
    have H6:M6 (_/\_):=⟨aeP M d8 1 f,a6⟩;clear hQ M a6 d8 f6 g2 e9 g0 g1 g3 d1;rw[<-U];clear U
    go_wp2_with fail
    refine Nd H6.out.1 ?_;rintro r w7 ⟨rfl,V7,b7,d5,d7⟩;have H7:M6 (_/\_/\_):=⟨b7,d5.2.2.trans E.out.2.2.1,H6.out.2.F0 d7⟩;clear b7 d5 d7;go_wp2
    go_end0
    have hz:O=abi {j with tok:=tk} 1 f:=by rw[c.out.1,f8.out,E.out.2.2.2.2.2,E.out.2.2.2.2.1]
    rw[hz];exact⟨rfl,V7,H7.out.1,H7.out.2.1,H7.out.2.2⟩
  ·rw[<-q]at a
   simp only[]at a;rw[Nh hc0]at a;have f9:(Q == 0)=false:=by rw[Oh];exact hc0
   have HO:M6 _:=a;have Y:M6 _:=q;clear a Z q;go_enter azX,azT
   go_wp2_with fail
   refine Nd J.out ?_;rintro r w1 ⟨rfl,m⟩;have l:=H.out.1.below m;have d4:=l.Gr;have b3:=l.lt;have z:=ahb l H.out.2.1 hkey _ G.fls l.GK H.out.2.2.2 H.out.2.1.Gb;rw[<-Y.out,f9]at z;have o:M6 (_/\_/\_):=⟨z,l,WV.F5 (V:=V) (g:=g) m⟩;clear m l z d2
   go_wp2_with fail
   refine Nd o.out.1 ?_;rintro r w2 ⟨rfl,A⟩;have p:M6 (_/\_):=⟨af1 (o.out.2.1.below A) (by have:=H.out.2.2.1;omega) 2 11,o.out.2.2.below A⟩;clear A
   go_wp2_with fail
   refine Nd p.out.1 ?_;rintro r w3 ⟨rfl,V2,u,I,F⟩;have v:M6 (_/\_/\_):=⟨u,I.2.2,p.out.2.F0 F⟩;clear u I F;go_wp2
   go_end0
   rw[HO.out];exact⟨rfl,V2,v.out.1,v.out.2.1,v.out.2.2⟩
end
end Go.Proofs.YtgnclkcdnbfeeaaGreatDoor.Q
