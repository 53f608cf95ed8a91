/-
  Contracts of the layers and of core, part 14. Conditions: as each theorem says.
-/
import Derived.Test.YtmpokpecfclapaaGreatDoorQ13
open Array renaming length_toList->Om
open Bool renaming false->Nb,true->Nw
open Decidable renaming decide->Nn
open Go renaming Addr->Oc,Calls->Ni,Value->M7,World->MO,cell_of_row->MW,heap_alloc_new->M1,info_parts->OF,maxLen->NE,wpList_append_lies->O9
open Go.Addr.mk renaming injEq->Q1
open Go.Builtin renaming append_->N2
open Go.Calls renaming mono->Nd,quiet_of->Qe
open Go.Ending renaming returned->MN
open Go.Extern.SlicesOverlaps renaming overlaps->P9
open Go.IntKind renaming i64->ME,wrap_i64->Ow
open Go.Obj renaming cells->MP
open Go.Proofs.Tryz renaming func130->ayz,func175->Wq,func57->Uw,func91->TP,ntmps130->ayt,ntmps57->Ul,ntmps91->TI,prog->MK,underlying3->Ol,underlying43->axS
open Go.RowKit renaming Below->MQ,Hid->M6
open Go.RowKit.Below renaming heap_setCell->MU,refl->MY
open Go.Value renaming agg->Ny,bool->M3,int->MF,slice->MG,tuple->Nv
open Go.Value.slice renaming injEq->N4
open Go.World renaming block_lt_of_cell?->MX,frozen?->Ng,frozen?_of_block->OM,ownsRow_nil->NY,shape?->QO
open Int renaming eq_ofNat_of_zero_le->NL,toNat_natCast->NR
open List renaming append_nil->OG,countP_append->Qi,drop_append->Qa,drop_eq_nil_of_le->PI,ext_getElem->PX,filter_append->OY,getElem?_drop->Pa,getElem_mem->Nk,getElem_set->Pc,getElem_set_self->NW,length_append->Ns,length_drop->NJ,length_filter_le->O1,length_map->N0,length_set->NA,length_take->NH,length_zip->Qn,map_append->OI,mem_cons->OO,mem_of_getElem?->Nu,not_mem_nil->OD,range->Pm,replicate->Nj,take_append_of_le_length->ZqA,take_left->Qb,take_length->NT,take_succ_eq_append_getElem->M9
open Nat renaming le_refl->MV,le_succ->Ps,le_trans->Nm,lt_of_lt_of_le->M8,lt_or_ge->Oq,min_def->PR,zero_le->Nx
open Option renaming none->MH,some->MI
open Option.some renaming injEq->Qs
open Or renaming inl->Nt,inr->NF
namespace Go.Proofs.YtmpokpecfclapaaGreatDoor.Q
set_option linter.unusedVariables false
set_option linter.unusedSimpArgs false
set_option maxHeartbeats 16000000
set_option maxRecDepth 100000
open Go.RowKit
attribute [local go_sem ↓] Go.wp_at_zero Go.wp_at_succ
variable {b key:Int}{i k:Nat}
section
variable {base:Nat}{w:MO}{g:Nat}{V:Vs}{G:Gt}
theorem OR.G5(h:OR base w g V G)(hi:i<12):
  ∃m x,V.ms[i]?=MI m/\G.hea[i]?=MI x/\G.hea.getD i XM=x/\w.cell? ⟨V.bh,i*4,MH⟩=MI (MG m.1 x.marks.length m.2)/\w.cell? ⟨V.bh,i*4+1,MH⟩=MI (M3 x.out)/\w.cell? ⟨V.bh,i*4+2,MH⟩=MI (MF ME x.till)/\w.cell? ⟨V.bh,i*4+3,MH⟩=MI (MF ME x.times)/\(∀j,w.frozen? ⟨V.bh,j,MH⟩=Nb)/\V.bh<w.heap.size:=by
 obtain⟨m,x,d,o,e,l⟩:=akN h.rest hi;obtain⟨n,c⟩:=List.getElem?_eq_some_iff.1 e;have f:(12:Nat)=(V.ms.zip G.hea).length:=by rw[Qn,h.rest.msl,h.rest.hel];rfl
 have a:=fun j (hj:j<4)=>abU aci h.rest.hea f n hj
 simp only[c]at a;exact⟨m,x,d,o,l,(a 0 (by omega)).trans rfl,(a 1 (by omega)).trans rfl,(a 2 (by omega)).trans rfl,(a 3 (by omega)).trans rfl,fun j=>h.rest.hea.frozenAt j,(h.rest.hea.lt V.bh rfl).2⟩
theorem OR.G8(h:OR base w g V G):12<=V.ch/\V.ch<=9223372036854775807:=by
 rcases h.rest.hea.2 with⟨a,_⟩|⟨f,j,e,a,_,_,d,c,_⟩
 ·cases a
 ·cases a
  unfold NE at c;exact⟨d,c⟩
theorem aq4(h:OR base w g V G)(hbs:Bs G){l:awV}(hl:l∈G.liv) :
  Ni MK 172 #[gP g,abR l] w fun r w'=>r=MN (MF ME (abV G l))/\MQ w.heap.size w w':=by
 obtain⟨K,q,a,c,s,t⟩:=l;have Q:=(hbs.lf hl).1;have z:=hbs.since _ hl;have L:=hbs.now;have o:=hbs.cfg.2.2.2.2.1;obtain⟨⟨f,n⟩,⟨A,C⟩,⟨y,D⟩,_⟩:=Q;have f:0<=K:=f;have n:K<=11:=n;obtain⟨k,rfl⟩:=NL f;obtain⟨W,e⟩:∃W,W=w.alloc (YQ ((k:Int),q,a,c,s,t)):=⟨_,rfl⟩;have p:MQ w.heap.size w W:=by rw[e];exact WQ w
 have j:W.heap[w.heap.size]?=MI (YQ ((k:Int),q,a,c,s,t)):=by rw[e];exact M1 _ _
 have d:=h.below p;obtain⟨m,x,_,_,E,_,u,_,_,_,P⟩:=d.G5 (i:=k) (by omega);have T:W.cell? ⟨w.heap.size,0,MH⟩=MI (MF ME (k:Int)):=by rw[MW W _ 0 _ _ (0,0) j];rfl
 have I:W.cell? ⟨w.heap.size,2,MH⟩=MI (MF ME a):=by rw[MW W _ 2 _ _ (0,0) j];rfl
 have F:W.cell? ⟨w.heap.size,3,MH⟩=MI (MF ME c):=by rw[MW W _ 3 _ _ (0,0) j];rfl
 have M:=d.GI;have B:=d.Gm;have c4:=d.c4;have O:=d.lt;have Z:=h.G8;have Y:(k:Int)<12:=by omega
 have U:(0:Int)<=(k:Int):=by omega
 obtain⟨J,N⟩:∃J,J=G.now:=⟨_,rfl⟩;have v:abV G ((k:Int),q,a,c,s,t)=if x.out=Nw then 0 else aw1 a (G.now-c) G.cfg.warm:=by
  unfold abV;simp only[NR];rw[E]
 have S:M6 (∀W':MO,Ni MK 219 #[MF ME a,MF ME c,MF ME G.now,MF ME G.cfg.warm] W' fun r w'=>r=MN (Nv #[MF ME (aw1 a (G.now-c) G.cfg.warm),MF ME 0])/\w'=W'):=fun W' =>
  auu a c G.now G.cfg.warm W' A C ⟨y,D,o.1,o.2⟩ z (by omega)
 have H:M6 (_/\_):=⟨p,v⟩;clear h hbs hl z L o f n A C y D p j d E v N;cases ho:x.out
 ·rw[H.out.2,ho,Nf (by decide)]
  rw[ho]at u;go_enter Tryz.func172,Tryz.ntmps172
  go_wp2_with fail
  rw[<-e];clear e
  go_quiet (fail)
  have z2:(W.drewN nq).cell? ⟨w.heap.size,2,MH⟩=MI (MF ME a):=I;have z3:(W.drewN nq).cell? ⟨w.heap.size,3,MH⟩=MI (MF ME c):=F;have a0:(W.drewN nq).cell? ⟨g,16,MH⟩=MI (MF ME G.now):=B;have z4:(W.drewN nq).cell? ⟨g,4,MH⟩=MI (MF ME G.cfg.warm):=c4;have R:M6 _:=ZE H.out.1 nq;generalize W.drewN nq=W1 at *;clear T I F B c4 M u O P
  go_wp2_with fail
  go_quiet ((go_at_call 219;exact Qe ((S.out _).mono fun r w' h=>⟨h.1,0,h.2⟩)))
  go_wp2;go_ret;exact⟨rfl,ZE R.out _⟩
 ·rw[H.out.2,ho,Nh rfl]
  rw[ho]at u;go_enter Tryz.func172,Tryz.ntmps172
  go_wp2_with fail
  rw[<-e];clear e
  go_quiet (fail)
  go_wp2;go_ret;exact⟨rfl,ZE H.out.1 _⟩
end
section
variable {base:Nat}{w:MO}{g:Nat}{V:Vs}{G:Gt}
theorem aoj(L:List awV)(x:awV):abN (L++[x])=abN L+if x.2.1=2 then 1 else 0:=by
 unfold abN;rw[Qi]
 by_cases h:x.2.1=2 <;> simp[h]
theorem aqg(L:List awV)(x:awV)(H:List He):abf (L++[x]) H=abf L H+if x.2.1=2/\(H.getD x.1.toNat XM).out=Nw then 1 else 0:=by
 unfold abf;rw[Qi,List.countP_singleton];generalize H.getD x.1.toNat XM=y
 by_cases h:x.2.1=2
 ·cases h2:y.out <;> simp[h]
 ·have:(x.2.1 == 2)=false:=by rw[Oh];exact h
  simp[h,this]
theorem aoi(L:List awV):abN L<=L.length:=List.countP_le_length
theorem aqf(L:List awV)(H:List He):abf L H<=L.length:=List.countP_le_length
theorem ap5(h:OR base w g V G)(hbs:Bs G)(b:Int) :
  Ni MK 184 #[gP g,MF ME b] w fun r w'=>r=MN (M3 (abS G b))/\MQ w.heap.size w w':=by
 have b5:=hbs.book.1.1;have b0:=h.Gn;have d8:=h.lt;have d7:=h.G8;obtain⟨al,d5,a8,b7,a7,a3⟩:=adt.F6 h.rest.book.now.1;injection a8 with el1 _ el3;unfold NE at a7;rw[el1,el3]at b0;obtain⟨K,Z⟩:∃K,K=abS G b:=⟨_,rfl⟩;rw[<-Z];have H:M6 (_/\_/\_):=⟨h,hbs,a3⟩;have HN:M6 _:=Z;clear h hbs a3 el1 el3 Z;go_enter Tryz.func184,Tryz.ntmps184;go_wp2
 go_loopw [5,6,18] (fun s5 s6 t wr=>∃k:Nat,s5=MF ME (abN (G.liv.take k):Nat)/\s6=MF ME (abf (G.liv.take k) G.hea:Nat)/\t=MF ME k/\k<=G.liv.length/\MQ w.heap.size w wr) (fun _ _ t _=>G.liv.length-(intOf t).toNat)
 case atStart=>exact⟨0,rfl,rfl,rfl,Nx _,MY _ _⟩
 case round =>
  obtain⟨k,rfl,rfl,rfl,hk,a⟩:=hrel
  by_cases hlt:k<G.liv.length
  ·obtain⟨l,v,a9,d,E,B,J,D,C,I⟩:=H.out.2.2 k hlt
   subst a9;have j:=(H.out.2.1.lf (Nk hlt)).1.1;have M:G.liv.take (k+1)=G.liv.take k++[G.liv[k]]:=M9 hlt;have f:=aoj (G.liv.take k) G.liv[k];have e:=aqg (G.liv.take k) G.liv[k] G.hea;rw[<-M]at f e;have a6:=aoi (G.liv.take k);have a4:=aqf (G.liv.take k) G.hea;rw[NH]at a6 a4;obtain⟨⟨x1,x2,S,U,Y,T⟩,P⟩:∃x,x=G.liv[k]:=⟨_,rfl⟩;rw[<-P]at E B J D C I j f e;have j:0<=x1/\x1<=11:=j;obtain⟨n,rfl⟩:=NL j.1;have b6:(n:Int)<12:=by omega
   have f0:(0:Int)<=(n:Int):=by omega
   obtain⟨F,L⟩:∃F,F=abN (G.liv.take k):=⟨_,rfl⟩;obtain⟨q,Q⟩:∃q,q=abf (G.liv.take k) G.hea:=⟨_,rfl⟩;rw[<-L]at f a6⊢;rw[<-Q]at e a4⊢;have b9:IntKind.i64.wrap ((F:Int)+1)=(F:Int)+1:=by rw[Ow];omega
   have b8:IntKind.i64.wrap ((q:Int)+1)=(q:Int)+1:=by rw[Ow];omega
   have e0:=(a.cell (p:=⟨l,v+k*6,MH⟩) d).trans E;have e1:=(a.cell (p:=⟨l,v+k*6+1,MH⟩) d).trans B;have e2:=(a.cell (p:=⟨l,v+k*6+2,MH⟩) d).trans J;have e3:=(a.cell (p:=⟨l,v+k*6+3,MH⟩) d).trans D;have e4:=(a.cell (p:=⟨l,v+k*6+4,MH⟩) d).trans C;have e5:=(a.cell (p:=⟨l,v+k*6+5,MH⟩) d).trans I;have b4:l<wr.heap.size:=M8 d a.size;have d1:(k:Int)<(G.liv.length:Int):=by omega
   by_cases h2:x2=2
   ·subst h2
    obtain⟨s,u⟩:∃s,s=wr.alloc (YQ ((n:Int),2,S,U,Y,T)):=⟨_,rfl⟩;have A:MQ wr.heap.size wr s:=by rw[u];exact WQ wr
    have N:s.heap[wr.heap.size]?=MI (YQ ((n:Int),2,S,U,Y,T)):=by rw[u];exact M1 _ _
    have y:=(H.out.1.below a).below A;obtain⟨m,x,_,_,f4,_,q1,_,_,_,d2⟩:=y.G5 (i:=n) (by omega);have y0:s.cell? ⟨wr.heap.size,0,MH⟩=MI (MF ME (n:Int)):=by rw[MW s _ 0 _ _ (0,0) N];rfl
    have e8:=y.GI;have b2:=y.lt;have d3:wr.heap.size<s.heap.size:=(Array.getElem?_eq_some_iff.1 N).1;have a0:(G.hea.getD ((n:Int),(2:Int),S,U,Y,T).1.toNat XM).out=x.out:=by rw[<-f4];rfl
    rw[a0]at e;cases ho:x.out
    ·rw[ho]at q1
     have c:M6 (_/\_/\_):=⟨f,(by rw[e,ho,Nf (by simp)];rfl:abf (G.liv.take (k+1)) G.hea=q),a.trans (A.mono a.size)⟩;clear a A N y f4 a0 f e M P E B J D C I j L Q d
     go_wp2_with fail
     rw[<-u];clear u
     go_quiet (fail)
     go_wp2
     go_roundw
     case rel=>exact⟨k+1,by rw[c.out.1];rfl,by rw[c.out.2.1],by simp,hlt,ZE c.out.2.2 _⟩
     case measure=>simp[intOf];omega
    ·rw[ho]at q1
     have c:M6 (_/\_/\_):=⟨f,(by rw[e,ho,Nh ⟨rfl,rfl⟩]:abf (G.liv.take (k+1)) G.hea=q+1),a.trans (A.mono a.size)⟩;clear a A N y f4 a0 f e M P E B J D C I j L Q d
     go_wp2_with fail
     rw[<-u];clear u
     go_quiet (fail)
     go_wp2
     go_roundw
     case rel=>exact⟨k+1,by rw[c.out.1];rfl,by rw[c.out.2.1];rfl,by simp,hlt,ZE c.out.2.2 _⟩
     case measure=>simp[intOf];omega
   ·have d4:(x2 != 2)=true:=by simpa using h2
    have c:M6 (_/\_/\_):=⟨(by rw[f,Nf h2];rfl:abN (G.liv.take (k+1))=F),(by rw[e,Nf (fun h=>h2 h.1)];rfl:abf (G.liv.take (k+1)) G.hea=q),a.trans ((WQ wr (o:=YQ ((n:Int),x2,S,U,Y,T))).mono a.size)⟩;clear a f e M P E B J D C I j L Q d;go_wp2
    go_roundw
    case rel=>exact⟨k+1,by rw[c.out.1],by rw[c.out.2.1],by simp,hlt,c.out.2.2⟩
    case measure=>simp[intOf];omega
  ·obtain rfl:k=G.liv.length:=by omega
   rw[NT];have d0:¬((G.liv.length:Int)<(G.liv.length:Int)):=by omega
   obtain⟨O,hO⟩:∃O,O=acP (abf G.liv G.hea:Int) (abN G.liv:Int) G.cfg.most:=⟨_,rfl⟩;have HA:M6 (∀X:MO,Ni MK 228 #[MF ME (abf G.liv G.hea:Int),MF ME (abN G.liv:Int),MF ME G.cfg.most] X fun r w'=>r=MN (Nv #[M3 O.1,MF ME O.2])/\w'=X):=by
    rw[hO];exact fun X=>arw _ _ _ X
   have R:=H.out.1.below a;have d9:=R.c9;have b3:=R.lt;obtain⟨x,hx⟩:∃x,x=WS G.liv b:=⟨_,rfl⟩;have z:M6 (_/\_):=⟨afR R b,a⟩;rw[<-hx]at z;have HE:M6 (K=(O.1 && (x.2.1 == 2))):=by show K=_;rw[HN.out];unfold abS;rw[<-hO,hx]
   clear R hO hx;have e9:∀X:MO,(Instr.field 104 (abR x) 1).run MK X=.ok (MF ME x.2.1) X:=fun X=>by kernel_rfl
   cases hO1:O.1
   ·go_wp2_with fail
    refine(HA.out _).mono ?_;rw[hO1];rintro r w3 ⟨rfl,rfl⟩;go_wp2;go_ret;exact⟨by rw[HE.out,hO1];rfl,z.out.2⟩
   ·go_wp2_with fail
    refine(HA.out _).mono ?_;rw[hO1];rintro r w3 ⟨rfl,rfl⟩
    go_wp2_with fail
    refine Nd z.out.1 ?_;rintro r w4 ⟨rfl,a5⟩;have HB:M6 _:=z.out.2.trans (a5.mono z.out.2.size);clear a5;go_wp2;go_ret;exact⟨by rw[HE.out,hO1];rfl,HB.out⟩
abbrev abQ(p:Option Oc)(c:Nat)(x:He):Value:=Ny #[MG p x.marks.length c,M3 x.out,MF ME x.till,MF ME x.times]
theorem OR.Hz(h:OR base w g V G){w':MO}(hb:MQ w.heap.size w w')(i:Nat)(a b c d:M7)(ms:List Mk) :
  WV V {V with ms:=ms} g w ((((w'.setCell ⟨V.bh,i*4,MH⟩ a).setCell ⟨V.bh,i*4+1,MH⟩ b).setCell ⟨V.bh,i*4+2,MH⟩ c).setCell ⟨V.bh,i*4+3,MH⟩ d):=by
 refine⟨hb.os,hb.tape,hb.output,by simpa using hb.size,fun k hk hn=>?_,fun _ h=>Nt h⟩;have f:k≠V.bh:=fun e=>hn (NF (Nt e))
 rw[MU _ _ _ _ f,MU _ _ _ _ f,MU _ _ _ _ f,MU _ _ _ _ f];exact hb.block k hk
theorem akO(h:OR base w g V G)(hbs:Bs G)(hb:0<=b/\b<12)(fl:Bool):
  Ni MK 137 #[gP g,MF ME b,M3 fl] w (aaa base w g V (Yh G b fl)):=by
 obtain⟨k,rfl⟩:=NL hb.1;have J:k<12:=by omega
 obtain⟨m,x,L,v,K,T,q1,Y,U,H,n⟩:=h.G5 J;have E:=h.rest.marks k m x L v;have C:=hbs.hea x (Nu v);have R:x.marks.length<=16:=by have:=C.1;have:=hbs.Gx.1.2;omega
 obtain⟨y,A⟩:∃y,y=afT G (k:Int) fl:=⟨_,rfl⟩;have u:y=afO (Zt G.cfg.wn G.cfg.wf G.cfg.wh x.marks x.out x.till x.times fl G.now (abS G k)).1:=by
  rw[A];unfold afT;rw[NR,K]
 have B:Yh G (k:Int) fl={G with hea:=G.hea.set k y}:=by unfold Yh;rw[NR,A]
 rw[B];have a6:=h.GI;have d1:=h.lt;have b9:=h.G8;have a8:¬g=V.bh:=fun e=>h.rest.hg e.symm
 have a0:¬V.bh=g:=h.rest.hg;have a9:(k:Int)<12:=by omega
 have b3:(0:Int)<=(k:Int):=by omega
 have a5:=h.GS;have d0:=h.GU;have b8:=h.GO;have b7:=h.Gm;have q:∀ {X:MO},OR base X g V G->X.cell? ⟨g,13,MH⟩=MI (MF ME G.cfg.wn)/\X.cell? ⟨g,14,MH⟩=MI (MF ME G.cfg.wf)/\X.cell? ⟨g,15,MH⟩=MI (MF ME G.cfg.wh)/\X.cell? ⟨g,16,MH⟩=MI (MF ME G.now):=fun {X} hX=>⟨hX.GS,hX.GU,hX.GO,hX.Gm⟩
 have t:∀ {X:MO},MQ w.heap.size w X->X.cell? ⟨V.bh,k*4,MH⟩=MI (MG m.1 x.marks.length m.2)/\X.cell? ⟨V.bh,k*4+1,MH⟩=MI (M3 x.out)/\X.cell? ⟨V.bh,k*4+2,MH⟩=MI (MF ME x.till)/\X.cell? ⟨V.bh,k*4+3,MH⟩=MI (MF ME x.times)/\(∀j,X.frozen? ⟨V.bh,j,MH⟩=Nb)/\V.bh<X.heap.size:=fun {X} hX =>
  ⟨(hX.cell n).trans T,(hX.cell n).trans q1,(hX.cell n).trans Y,(hX.cell n).trans U,fun j=>(OM (a:=⟨V.bh,j,MH⟩) (hX.block V.bh n)).trans (H j),M8 n hX.size⟩
 have HM:M6 (∀X,MQ w.heap.size w X->Ni MK 184 #[gP g,MF ME (k:Int)] X fun r d=>r=MN (M3 (abS G k))/\(d.cell? ⟨g,13,MH⟩=MI (MF ME G.cfg.wn)/\d.cell? ⟨g,14,MH⟩=MI (MF ME G.cfg.wf)/\d.cell? ⟨g,15,MH⟩=MI (MF ME G.cfg.wh)/\d.cell? ⟨g,16,MH⟩=MI (MF ME G.now))/\(d.cell? ⟨V.bh,k*4,MH⟩=MI (MG m.1 x.marks.length m.2)/\d.cell? ⟨V.bh,k*4+1,MH⟩=MI (M3 x.out)/\d.cell? ⟨V.bh,k*4+2,MH⟩=MI (MF ME x.till)/\d.cell? ⟨V.bh,k*4+3,MH⟩=MI (MF ME x.times))/\M6 (MQ w.heap.size w d)):=by
  refine fun X hX=>(ap5 (h.below hX) hbs (k:Int)).mono ?_
  rintro r d ⟨rfl,s⟩;have l:=hX.trans (s.mono hX.size);have f:=t l;exact⟨rfl,q (h.below l),⟨f.1,f.2.1,f.2.2.1,f.2.2.2.1⟩,l⟩
 have HN:M6 (∀X,MQ w.heap.size w X->Ni MK 183 #[Ny #[MF ME G.cfg.wn,MF ME G.cfg.wf,MF ME G.cfg.wh],abQ m.1 m.2 x,M3 fl,MF ME G.now,M3 (abS G k)] X fun r d=>∃p c M I,r=MN (Nv #[abQ p c y,M3 M,MF ME I])/\(d.cell? ⟨g,13,MH⟩=MI (MF ME G.cfg.wn)/\d.cell? ⟨g,14,MH⟩=MI (MF ME G.cfg.wf)/\d.cell? ⟨g,15,MH⟩=MI (MF ME G.cfg.wh)/\d.cell? ⟨g,16,MH⟩=MI (MF ME G.now)) /\
   (((((d.setCell ⟨V.bh,k*4,MH⟩ (MG p y.marks.length c)).setCell ⟨V.bh,k*4+1,MH⟩ (M3 y.out)).setCell ⟨V.bh,k*4+2,MH⟩ (MF ME y.till)).setCell ⟨V.bh,k*4+3,MH⟩ (MF ME y.times)).cell? ⟨g,13,MH⟩=MI (MF ME G.cfg.wn)/\((((d.setCell ⟨V.bh,k*4,MH⟩ (MG p y.marks.length c)).setCell ⟨V.bh,k*4+1,MH⟩ (M3 y.out)).setCell ⟨V.bh,k*4+2,MH⟩ (MF ME y.till)).setCell ⟨V.bh,k*4+3,MH⟩ (MF ME y.times)).cell? ⟨g,14,MH⟩=MI (MF ME G.cfg.wf)/\((((d.setCell ⟨V.bh,k*4,MH⟩ (MG p y.marks.length c)).setCell ⟨V.bh,k*4+1,MH⟩ (M3 y.out)).setCell ⟨V.bh,k*4+2,MH⟩ (MF ME y.till)).setCell ⟨V.bh,k*4+3,MH⟩ (MF ME y.times)).cell? ⟨g,15,MH⟩=MI (MF ME G.cfg.wh)/\((((d.setCell ⟨V.bh,k*4,MH⟩ (MG p y.marks.length c)).setCell ⟨V.bh,k*4+1,MH⟩ (M3 y.out)).setCell ⟨V.bh,k*4+2,MH⟩ (MF ME y.till)).setCell ⟨V.bh,k*4+3,MH⟩ (MF ME y.times)).cell? ⟨g,16,MH⟩=MI (MF ME G.now)) /\
   (d.cell? ⟨V.bh,k*4,MH⟩=MI (MG m.1 x.marks.length m.2)/\d.cell? ⟨V.bh,k*4+1,MH⟩=MI (M3 x.out)/\d.cell? ⟨V.bh,k*4+2,MH⟩=MI (MF ME x.till)/\d.cell? ⟨V.bh,k*4+3,MH⟩=MI (MF ME x.times)/\d.frozen? ⟨V.bh,k*4,MH⟩=Nb/\d.frozen? ⟨V.bh,k*4+1,MH⟩=Nb/\d.frozen? ⟨V.bh,k*4+2,MH⟩=Nb/\d.frozen? ⟨V.bh,k*4+3,MH⟩=Nb/\V.bh<d.heap.size) /\
   M6 (OR base ((((d.setCell ⟨V.bh,k*4,MH⟩ (MG p y.marks.length c)).setCell ⟨V.bh,k*4+1,MH⟩ (M3 y.out)).setCell ⟨V.bh,k*4+2,MH⟩ (MF ME y.till)).setCell ⟨V.bh,k*4+3,MH⟩ (MF ME y.times)) g {V with ms:=V.ms.set k (p,c)} {G with hea:=G.hea.set k y}/\WV V {V with ms:=V.ms.set k (p,c)} g w ((((d.setCell ⟨V.bh,k*4,MH⟩ (MG p y.marks.length c)).setCell ⟨V.bh,k*4+1,MH⟩ (M3 y.out)).setCell ⟨V.bh,k*4+2,MH⟩ (MF ME y.till)).setCell ⟨V.bh,k*4+3,MH⟩ (MF ME y.times)))):=by
  refine fun X hX=>(arI G.cfg.wn G.cfg.wf G.cfg.wh (MG m.1 x.marks.length m.2) x.marks x.out x.till x.times fl G.now (abS G k) X (E.below hX).now (by omega)).mono ?_
  rintro r d ⟨p,c,rfl,O,N,s⟩;have l:=hX.trans (s.mono hX.size);have f:=t l;have D:=h.below l;have Q:XG (V.off base g) d fun Z=>Yo Z (MG p y.marks.length c) y.marks:=by
   rw[u];exact abt O (fun z e=>h.rest.GF (Nm hX.size (N z (by rw[XV];exact e))))
  have o:=D.Ir J Q;refine⟨p,c,(Zt G.cfg.wn G.cfg.wf G.cfg.wh x.marks x.out x.till x.times fl G.now (abS G k)).2.1,(Zt G.cfg.wn G.cfg.wf G.cfg.wh x.marks x.out x.till x.times fl G.now (abS G k)).2.2,by rw[u];rfl,q D,⟨o.GS,o.GU,o.GO,o.Gm⟩,⟨f.1,f.2.1,f.2.2.1,f.2.2.2.1,f.2.2.2.2.1 _,f.2.2.2.2.1 _,f.2.2.2.2.1 _,f.2.2.2.2.1 _,f.2.2.2.2.2⟩,o,h.Hz l k _ _ _ _ _⟩
 have S:=q h;clear h hbs E C R A u B L v K q t H hb;go_enter Tryz.func137,Tryz.ntmps137
 go_wp2_with fail
 obtain⟨b4,a3,b0,a7⟩:=S
 go_region_with (first|(go_at_call 184;refine(HM.out _ (by first|exact(MY _ _).drew|exact Below.refl _ _)).mono ?_;rintro r w4 ⟨rfl,⟨d2,b6,b5,a4⟩,⟨t0,t1,t2,t3⟩,P⟩)|(go_at_call 183;refine(HN.out _ P.out).mono ?_;rintro r w5 ⟨p,c,M,I,rfl,_,_,⟨u0,u1,u2,u3,v0,v1,v2,v3,b2⟩,F⟩))
 all_goals
  go_wp2
  go_end0
  exact⟨rfl,_,F.out.1,⟨rfl,rfl,rfl⟩,F.out.2⟩
end
section
variable {base:Nat}{w:MO}{g:Nat}{V:Vs}{G:Gt}
abbrev adU(X:MO)(bf i:Nat)(f:Fl):Prop:=X.cell? ⟨bf,i*7,MH⟩=MI (MF ME f.slot)/\X.cell? ⟨bf,i*7+1,MH⟩=MI (MF ME f.gen)/\X.cell? ⟨bf,i*7+2,MH⟩=MI (MF ME f.key)/\X.cell? ⟨bf,i*7+3,MH⟩=MI (MF ME f.be)/\X.cell? ⟨bf,i*7+4,MH⟩=MI (M3 f.srv)/\X.cell? ⟨bf,i*7+5,MH⟩=MI (MF ME f.ret)/\X.cell? ⟨bf,i*7+6,MH⟩=MI (MF ME f.due)
theorem OR.Gw(h:OR base w g V G){bf:Nat}(hp:V.pf=MI ⟨bf,0,MH⟩)(hi:i<G.fls.length):adU w bf i (Xs G i):=by
 rw[XA hi];exact h.Gl hp hi
theorem akq{G1 G2:Gt}{y:Fl}(h:G2=Y4 G1 i y)(hi:i<G1.fls.length):∃hi2:i<G2.fls.length,G2.fls[i]=y:=by
 subst h;exact⟨by show i<(G1.fls.set i y).length;rw[NA];exact hi,NW (h:=by rw[NA];exact hi)⟩
theorem akp{G1 G:Gt}{f:Fl}(h:G1.fls=G.fls)(hi:i<G.fls.length)(hf:f=Xs G i):∃hi1:i<G1.fls.length,G1.fls[i]=f:=by
 have hi1:i<G1.fls.length:=by rw[h];exact hi
 refine⟨hi1,?_⟩;rw[<-XA hi1,hf];unfold Xs;rw[h]
theorem ahP(i:Nat)(n:Int):(YW G i n).fls.length=G.fls.length:=by
 show(G.fls.set i _).length=_;rw[NA]
theorem ao4(h:OR base w g V G)(hbs:Bs G)(hw:G.wnow=G.now)(hl:G.out.length<=900000)(hi:i<G.fls.length){bf:Nat}(hp:V.pf=MI ⟨bf,0,MH⟩):
  Ni MK 97 #[gP g,fP bf i] w (aam base w g V (aaZ G i)):=by
 obtain⟨O,a⟩:∃O,O=aaZ G i:=⟨_,rfl⟩;rw[<-a];unfold aaZ at a;obtain⟨f,p⟩:∃f,f=Xs G i:=⟨_,rfl⟩;have C:=h.Gw hp hi;rw[<-p]at a C;have q:0<=G.fls[i].slot/\G.fls[i].slot<40:=(hbs.F9 (Nk hi)).1;obtain⟨I,M,P,J,u,L,K⟩:=C;have Q:=h.lt;cases hsv:f.srv
 ·rw[hsv,Nf (by decide)]at a
  simp only[]at a;rw[<-p]at a;have H:M6 (_/\_):=⟨aeP h (by omega) 3 f,a⟩;rw[hsv]at u;clear h hbs a p hw hl q;go_enter Tryz.func97,Tryz.ntmps97
  go_wp2_with fail
  have F:ZS f=Ny #[MF ME f.slot,MF ME f.gen,MF ME f.key,MF ME f.be,M3 Nb,MF ME f.ret,MF ME f.due]:=by rw[<-hsv]
  have D:=H.out.1;rw[F]at D;refine Nd D ?_;rintro r N ⟨rfl,v,l,e,j⟩;have d:M6 (_/\_/\_):=⟨l,e.2.2,j⟩;clear l e j;go_wp2
  go_end0
  rw[H.out.2];exact⟨rfl,v,d.out.1,d.out.2.1,d.out.2.2⟩
 ·rw[hsv,Nh rfl]at a
  simp only[]at a;have c6:=h.c6;rw[hsv]at u;obtain⟨m,c⟩:∃m,m=YW G i G.cfg.idle:=⟨_,rfl⟩;have x:=af2 h hi hp (n:=G.cfg.idle) hbs.idle q hw hbs.now;rw[<-c]at a x;have z:i<m.fls.length:=by rw[c,ahP];exact hi
  have B:m.out.length<=1000000:=by rw[c];show G.out.length<=1000000;omega
  have H:M6 (_/\_/\_/\_/\_):=⟨x,a,z,B,hp⟩;clear h hbs a p hw hl q x c z B hp hi;go_enter Tryz.func97,Tryz.ntmps97
  go_wp2_with fail
  refine Nd H.out.1 ?_;rintro r R ⟨rfl,Y,c,t,A⟩;obtain⟨y,s⟩:∃y,y=Xs m i:=⟨_,rfl⟩;have E:=c.Gw (t.1.trans H.out.2.2.2.2) H.out.2.2.1;rw[<-s]at E;obtain⟨x0,x1,S,T,U,Z,x6⟩:=E;have o:M6 (_/\_/\_/\_):=⟨aeP c H.out.2.2.2.1 3 y,t.2.2,A,s⟩;clear c t A s I M P J u L K c6
  go_wp2_with fail
  refine Nd o.out.1 ?_;rintro r N ⟨rfl,v,l,e,j⟩;have d:M6 (_/\_/\_):=⟨l,e.2.2.trans o.out.2.1,o.out.2.2.1.F0 j⟩;clear l e j;go_wp2
  go_end0
  rw[H.out.2.1,<-o.out.2.2.2];exact⟨rfl,v,d.out.1,d.out.2.1,d.out.2.2⟩
theorem aqy(h:OR base w g V G)(hbs:Bs G)(hw:G.wnow=G.now)(hl:G.out.length<=900000)(hi:i<G.fls.length){bf:Nat}(hp:V.pf=MI ⟨bf,0,MH⟩):
  Ni MK 98 #[gP g,fP bf i] w (aam base w g V (abh G i)):=by
 obtain⟨O,o⟩:∃O,O=abh G i:=⟨_,rfl⟩;rw[<-o];unfold abh at o;simp only[]at o;obtain⟨f,J⟩:∃f,f=Xs G i:=⟨_,rfl⟩;have S:f∈G.fls:=by rw[J,XA hi];exact Nk hi
 have E:=hbs.F9 S;obtain⟨q0,q1,q2,q3,q4,q5,q6⟩:=h.Gw hp hi;rw[<-J]at o q0 q1 q2 q3 q4 q5 q6;have b9:=h.lt;obtain⟨l,a⟩:∃l,l=Yh G f.be false:=⟨_,rfl⟩;have Y:=akO h hbs E.2.2.2 Nb;have L:=hbs.GA E.2.2.2 Nb;rw[<-a]at o Y L;have a8:l.fls=G.fls/\l.cfg=G.cfg/\l.now=G.now/\l.wnow=G.wnow/\l.out=G.out:=by rw[a];exact⟨rfl,rfl,rfl,rfl,rfl⟩
 have H:M6 (_/\_/\_/\_/\_/\_/\_/\_):=⟨Y,o,L,a8,hp,hi,J,S⟩;have z:M6 (_/\_/\_/\_):=⟨hbs,hw,hl,E⟩;clear h hbs o J hw hl E Y a a8 L hp hi S;go_enter Tryz.func98,Tryz.ntmps98
 go_wp2_with fail
 refine Nd H.out.1 ?_;rintro r q ⟨rfl,F,a,Q,a9⟩;have d:F.pf=MI ⟨bf,0,MH⟩:=Q.1.trans H.out.2.2.2.2.1;obtain⟨B,T⟩:=akp H.out.2.2.2.1.1 H.out.2.2.2.2.2.1 H.out.2.2.2.2.2.2.1;obtain⟨y,I⟩:∃y:Fl,y={f with srv:=Nw}:=⟨_,rfl⟩;obtain⟨u0,u1,u2,u3,u4,u5,u6⟩:=a.Gl d B;rw[T]at u4;have b5:=a.Hv d (i*7+4);have M:=a.Hd d B (j:=4) (by omega) (M3 Nw) y (by rw[T,I];rfl);obtain⟨v,D⟩:∃v,v=q.setCell ⟨bf,i*7+4,MH⟩ (M3 Nw):=⟨_,rfl⟩;rw[<-D]at M;have a5:WV F F g q v:=by
  rw[D];exact⟨rfl,rfl,rfl,by simp,fun b _ hn=>MU q ⟨bf,i*7+4,MH⟩ _ b fun e=>hn (NF (NF (Nt (by rw[d,e];rfl)))),fun _ h=>Nt h⟩
 obtain⟨c,t⟩:∃c,c=Y4 l i y:=⟨_,rfl⟩;have A:OR base v g F c:=by rw[t];exact M
 obtain⟨R,b2⟩:=akq t B;have p:c.cfg=G.cfg/\c.now=G.now/\c.wnow=G.wnow/\c.out=G.out:=by rw[t];exact⟨H.out.2.2.2.1.2.1,H.out.2.2.2.1.2.2.1,H.out.2.2.2.1.2.2.2.1,H.out.2.2.2.1.2.2.2.2⟩
 have a3:0<=c.fls[i].slot/\c.fls[i].slot<40:=by rw[b2,I];exact z.out.2.2.2.1
 have e6:v.cell? ⟨g,6,MH⟩=MI (MF ME G.cfg.idle):=by rw[<-p.1];exact A.c6
 have b7:=A.lt;have HW:=af2 A R d (n:=G.cfg.idle) z.out.1.idle a3 (by rw[p.2.2.1,p.2.1];exact z.out.2.1) (by rw[p.2.1];exact z.out.1.now);have b3:=a.lt;have d6:q.cell? ⟨g,6,MH⟩=MI (MF ME G.cfg.idle):=by rw[<-H.out.2.2.2.1.2.1];exact a.c6
 have b4:bf<q.heap.size:=MX q ⟨bf,i*7,MH⟩ u0;have b6:¬bf=g:=fun e=>a.rest.fg (by rw[d,e];rfl)
 have b8:¬g=bf:=fun e=>b6 e.symm
 have m:M6 (_/\_/\_/\_/\_/\_/\_/\_):=⟨HW,a9.F0 a5,d,R,t,p,Q.2.2,I⟩;clear a Q a9 a5 M A B R d T I t b2 p a3 HW q0 q1 q2 q3 q4 q5 q6 u0 u1 u2 u3 u5 u6
 go_wp2_with fail
 rw[<-D];clear D u4 b5 d6 b4 b3;refine Nd m.out.1 ?_;rintro r w3 ⟨rfl,V3,C,P,a6⟩;obtain⟨s,u⟩:∃s,s=YW c i G.cfg.idle:=⟨_,rfl⟩;rw[<-u]at C;have a7:i<s.fls.length:=by rw[u,ahP];exact m.out.2.2.2.1
 obtain⟨K,N⟩:∃K,K=Xs s i:=⟨_,rfl⟩;have hx:=C.Gw (P.1.trans m.out.2.2.1) a7;rw[<-N]at hx;obtain⟨x0,x1,x2,x3,x4,x5,x6⟩:=hx;have a0:s.out.length<=1000000:=by rw[u];show c.out.length<=1000000;rw[m.out.2.2.2.2.2.1.2.2.2];have:=z.out.2.2.1;omega
 have x:M6 (_/\_/\_/\_/\_):=⟨aeP C a0 4 K,P.2.2.trans m.out.2.2.2.2.2.2.1,m.out.2.1.F0 a6,N,u⟩;clear C P a6 N u a0 a7 e6
 go_wp2_with fail
 refine Nd x.out.1 ?_;rintro r w7 ⟨rfl,V7,b0,Z,a4⟩;have U:M6 (_/\_/\_):=⟨b0,Z.2.2.trans x.out.2.1,x.out.2.2.1.F0 a4⟩;clear b0 Z a4;go_wp2
 go_end0
 have hz:O=abi s 4 K:=by rw[H.out.2.1,x.out.2.2.2.1,x.out.2.2.2.2,m.out.2.2.2.2.1,m.out.2.2.2.2.2.2.2]
 rw[hz];exact⟨rfl,V7,U.out.1,U.out.2.1,U.out.2.2⟩
end
section
variable {base:Nat}{w:MO}{g:Nat}{V:Vs}{G:Gt}
theorem akt{w1:MO}{bf:Nat}{v:M7}(hp:V.pf=MI ⟨bf,0,MH⟩)(h:w1=w.setCell ⟨bf,k,MH⟩ v):WV V V g w w1:=by
 subst h;exact⟨rfl,rfl,rfl,by simp,fun b _ hn=>MU w ⟨bf,k,MH⟩ _ b fun e=>hn (NF (NF (Nt (by rw[hp,e];rfl)))),fun _ h=>Nt h⟩
theorem OR.Ji(h:OR base w g V G){bf:Nat}(hp:V.pf=MI ⟨bf,0,MH⟩)(hi:i<G.fls.length){f:Fl}(hf:f=Xs G i)(b n:Int):
  OR base ((w.setCell ⟨bf,i*7+3,MH⟩ (MF ME b)).setCell ⟨bf,i*7+5,MH⟩ (MF ME n)) g V (Y4 G i {f with be:=b,ret:=n}) /\
  WV V V g w ((w.setCell ⟨bf,i*7+3,MH⟩ (MF ME b)).setCell ⟨bf,i*7+5,MH⟩ (MF ME n)):=by
 rw[XA hi]at hf;have c:=h.Hd hp hi (j:=3) (by omega) (MF ME b) {f with be:=b} (by rw[hf];rfl);have a:i<(G.fls.set i {f with be:=b}).length:=by rw[NA];exact hi
 have d:(G.fls.set i {f with be:=b})[i]={f with be:=b}:=NW (h:=a);have e:=c.Hd hp (i:=i) a (j:=5) (by omega) (MF ME n) {f with be:=b,ret:=n} (by show _=(WX ((G.fls.set i {f with be:=b})[i])).set 5 _;rw[d];rfl);have l:(G.fls.set i {f with be:=b}).set i {f with be:=b,ret:=n}=G.fls.set i {f with be:=b,ret:=n}:=List.set_set _;refine⟨?_,(akt hp rfl).F0 (akt hp rfl)⟩;unfold Y4;rw[<-l];exact e
theorem aqq(h:OR base w g V G)(hbs:Bs G)(hw:G.wnow=G.now)(hl:G.out.length<=900000)(hi:i<G.fls.length){bf:Nat}(hp:V.pf=MI ⟨bf,0,MH⟩)(hb:0<=b/\b<12)(hr:0<=(Xs G i).ret/\(Xs G i).ret+1<=20):
  Ni MK 139 #[gP g,fP bf i,MF ME b] w (aam base w g V (ZL G i b)):=by
 obtain⟨O,s⟩:∃O,O=ZL G i b:=⟨_,rfl⟩;rw[<-s];unfold ZL at s;simp only[]at s;obtain⟨f,F⟩:∃f,f=Xs G i:=⟨_,rfl⟩;have N:f∈G.fls:=by rw[F,XA hi];exact Nk hi
 have a9:=hbs.F9 N;obtain⟨S,q1,q2,q3,q4,q5,q6⟩:=h.Gw hp hi;rw[<-F]at s hr S q1 q2 q3 q4 q5 q6;have d5:=h.lt;have d1:bf<w.heap.size:=MX w ⟨bf,i*7,MH⟩ S;have d3:¬bf=g:=fun e=>h.rest.fg (by rw[hp,e];rfl)
 have d8:¬g=bf:=fun e=>d3 e.symm
 obtain⟨m,U⟩:∃m,m=(Y0 G.tab f.slot f.gen b).1:=⟨_,rfl⟩;rw[<-U]at s;have a6:(Y0 G.tab f.slot f.gen b).2=0:=by rw[hbs.Ho N hb]
 have d7:=h.Gs;have HD:M6 (∀W',MQ w.heap.size w W'->Ni MK 185 #[Ny #[MG V.pt G.tab.length V.ct],Ny #[MF ME f.slot,MF ME f.gen],MF ME b] W' fun r q=>∃p c,r=MN (Nv #[Ny #[MG p m.length c],MF ME 0])/\q.cell? ⟨g,17,MH⟩=MI (MG V.pt G.tab.length V.ct)/\q.frozen? ⟨g,17,MH⟩=Nb/\g<q.heap.size /\
   M6 (OR base (q.setCell ⟨g,17,MH⟩ (MG p m.length c)) g {V with pt:=p,ct:=c} {G with tab:=m}/\WV V {V with pt:=p,ct:=c} g w (q.setCell ⟨g,17,MH⟩ (MG p m.length c)))):=by
  refine fun W' hW'=>(auR (MG V.pt G.tab.length V.ct) G.tab f.slot f.gen b W' (h.rest.tab.now.below hW')).mono ?_
  rw[<-U,a6];rintro r q ⟨p,c,rfl,ho,hb⟩;have L:MQ w.heap.size w q:=hW'.trans (hb.mono hW'.size);have l:=h.below L;exact⟨p,c,rfl,l.Gs,l.fz 17,l.lt,h.Ix L (ho.mono hW'.size),((WV.F5 (V:=V) (g:=g) L).F4 17 _).Gp fun _ h=>h⟩
 have d4:IntKind.i64.wrap (f.ret+1)=f.ret+1:=by rw[Ow];omega
 have H:M6 (_/\_/\_/\_):=⟨s,hp,hi,F⟩;have B:M6 (_/\_/\_/\_):=⟨hbs,hw,hl,a9⟩;clear h hbs s F hw hl a9 hp hi N U a6 hr hb;go_enter Tryz.func139,Tryz.ntmps139
 go_wp2_with fail
 go_region_with (first|(go_at_call 185;refine(HD.out _ (by first|exact(MY _ _).drew|exact Below.refl _ _)).mono ?_;rintro r w3 ⟨p,c,rfl,d0,d2,b7,l⟩))
 all_goals
  obtain⟨u,J⟩:∃u,u=w3.setCell ⟨g,17,MH⟩ (MG p m.length c):=⟨_,rfl⟩;have d:=l.out.1;have M:=l.out.2;rw[<-J]at d M;rw[<-J];clear J l d0 d2 b7 d7 S q1 q2 q3 q4 q5 q6 d5 d1;have o:Vs.pf {V with pt:=p,ct:=c}=MI ⟨bf,0,MH⟩:=H.out.2.1;have D:i<({G with tab:=m}:Gt).fls.length:=H.out.2.2.1;obtain⟨x0,x1,x2,x3,x4,x5,x6⟩:=d.Gl o D;have b0:({G with tab:=m}:Gt).fls[i]=f:=by rw[H.out.2.2.2,XA H.out.2.2.1]
  rw[b0]at x3 x5;have z3:=d.Hv o (i*7+3);have z5:=d.Hv o (i*7+5);have b8:=d.lt;have e7:u.cell? ⟨g,7,MH⟩=MI (MF ME G.cfg.conn):=d.c7;have b9:bf<u.heap.size:=MX u ⟨bf,i*7,MH⟩ x0;obtain⟨Q,R⟩:=d.Ji o D (f:=f) H.out.2.2.2 b (f.ret+1);obtain⟨w6,C⟩:∃w6,w6=(u.setCell ⟨bf,i*7+3,MH⟩ (MF ME b)).setCell ⟨bf,i*7+5,MH⟩ (MF ME (f.ret+1)):=⟨_,rfl⟩;obtain⟨a,y⟩:∃a,a=Y4 {G with tab:=m} i {f with be:=b,ret:=f.ret+1}:=⟨_,rfl⟩;obtain⟨P,b5⟩:=akq y D;have z:a.cfg=G.cfg/\a.now=G.now/\a.wnow=G.wnow/\a.out=G.out:=by rw[y];exact⟨rfl,rfl,rfl,rfl⟩
  rw[<-C,<-y]at Q;rw[<-C]at R;have a0:0<=a.fls[i].slot/\a.fls[i].slot<40:=by rw[b5];exact B.out.2.2.2.1
  have HW:=af2 Q P o (n:=G.cfg.conn) B.out.1.conn a0 (by rw[z.2.2.1,z.2.1];exact B.out.2.1) (by rw[z.2.1];exact B.out.1.now);have t:M6 (_/\_/\_/\_/\_/\_):=⟨HW,M.F0 R,o,P,y,z⟩;clear d M Q R o D P b0 b5 y z a0 HW x0 x1 x2 x4 x6
  go_wp2_with fail
  rw[<-C];clear C x3 x5 z3 z5 b8 e7 b9 d4;refine Nd t.out.1 ?_;rintro r w7 ⟨rfl,V7,E,I,a7⟩;obtain⟨j,x⟩:∃j,j=YW a i G.cfg.conn:=⟨_,rfl⟩;rw[<-x]at E;have b4:i<j.fls.length:=by rw[x,ahP];exact t.out.2.2.2.1
  obtain⟨A,K⟩:∃A,A=Xs j i:=⟨_,rfl⟩;have hx:=E.Gw (I.1.trans t.out.2.2.1) b4;rw[<-K]at hx;obtain⟨y0,y1,y2,y3,y4,y5,y6⟩:=hx;have a4:j.out.length<=900000:=by rw[x];show a.out.length<=900000;rw[t.out.2.2.2.2.2.2.2.2];exact B.out.2.2.1
  have v:M6 (_/\_/\_/\_/\_/\_):=⟨aeP E (by omega) 5 A,I.2.2,t.out.2.1.F0 a7,K,x,a4⟩;clear E I a7 K x a4 b4
  go_wp2_with fail
  refine Nd v.out.1 ?_;rintro r w8 ⟨rfl,V8,Z,a8,b3⟩;have a3:(abi j 5 A).out.length<=1000000:=by show(j.out++[_]).length<=1000000;have:=v.out.2.2.2.2.2;simp;omega
  have Y:M6 (_/\_/\_):=⟨ahg Z a3 f.be,a8.2.2.trans v.out.2.1,v.out.2.2.1.F0 b3⟩;clear Z b3 a8 a3 y0 y1 y2 y3 y4 y5 y6
  go_wp2_with fail
  refine Nd Y.out.1 ?_;rintro r w9 ⟨rfl,V9,b6,a5,b2⟩;have T:M6 (_/\_/\_):=⟨b6,a5.2.2.trans Y.out.2.1,Y.out.2.2.F0 b2⟩;clear b6 a5 b2;go_wp2
  go_end0
  have hz:O=Yf (abi j 5 A) f.be:=by rw[H.out.1,v.out.2.2.2.1,v.out.2.2.2.2.1,t.out.2.2.2.2.1]
  rw[hz];exact⟨rfl,V9,T.out.1,T.out.2.1,T.out.2.2⟩
end
theorem aao(l:List Fl):(rv WX l).length=l.length*7:=abx XL l
theorem ahj(l:List Fl)(i:Nat):(rv WX l).take (i*7)=rv WX (l.take i):=ahF XL l i
theorem akn(l:List Fl)(i:Nat):(rv WX l).drop (i*7)=rv WX (l.drop i):=ak4 XL l i
theorem ahz(x:Fl):rv WX [x]=WX x:=by simp[rv]
theorem akB{α:Type}(l:List α)(x:α):Xi l x l.length=l++[x]:=by simp[Xi]
def afB(base:Nat)(v:M7)(l:List Fl)(t:Fl)(i:Nat)(w:MO)(r:Ending)(w':MO):Prop :=
 ∃g cap,r=MN (MG (MI ⟨g,0,MH⟩) (l.length+1) cap)/\w'.ownsRow base 97 7 (MG (MI ⟨g,0,MH⟩) (l.length+1) cap) (l.length+1) (rv WX (Xi l t i))/\w.grownBy w' v.ownBlock/\(v.ownBlock=MI g\/w.heap.size<=g)
theorem apE(base:Nat)(v:M7)(l:List Fl)(x:Fl)(cs:Array M7)(hxs:cs.toList=WX x)(k:Nat)(w:MO)(hown:w.ownsRow base 97 7 v l.length (rv WX l))(hbase:base<=w.heap.size)
  (hk:w.heap[k]?=MI (MP cs 97 (0,0))) (hlen:l.length<=1000) :
  Ni MK 130 #[v,MF ME l.length,MG (MI ⟨k,0,MH⟩) 1 1] w (afB base v l x l.length w):=by
 obtain⟨y,t,q,r,s⟩:=OF ad0;have e:∀j u,(rv WX [x])[j]?=MI u->w.cell? ((⟨k,0,MH⟩:Oc).add j)=MI u:=fun j u hu=>by
  have A:(⟨k,0,MH⟩:Oc).add j=⟨k,j,MH⟩:=by unfold Addr.add;split <;> simp_all
  rw[A,MW w k j _ _ (0,0) hk];rw[ahz,<-hxs]at hu;simpa using hu
 obtain⟨p,c,rfl⟩:=Y6 hown;have F:l.length<=c:=by
  rcases hown.2 with⟨h,_⟩|⟨g,a,C,h,_,_,z,_⟩
  ·simp only[N4]at h;omega
  ·simp only[N4]at h;omega
 have E:c<=9223372036854775807:=by
  rcases hown.2 with⟨h,_⟩|⟨g,a,C,h,_,_,_,z,_⟩
  ·simp only[N4]at h;omega
  ·simp only[N4]at h;unfold NE at z;omega
 by_cases hcl:c=l.length
 ·subst hcl
  have d:M6 (_/\_):=⟨hown,e⟩;clear hown e;go_enter ayz,ayt
  go_wp2_with (first|(at_builtin;refine O9 _ rfl _ _ 43 rfl base 97 y _ 7 56 axS t q r s rfl (by decide) (MG p l.length l.length) _ _ rfl d.out.1 _ 1 1 (rv WX [x]) rfl rfl d.out.2 (adm acI _) (by decide) (by unfold NE;omega) (by omega) hbase _ rfl ?_;intro o a D f n m B))
  all_goals
   go_ret;exact⟨o,a,rfl,by rw[akB,acL];exact f,n,m.imp id (fun h=>by omega)⟩
 ·have d:M6 (_/\_):=⟨hown,e⟩
  clear hown e;go_enter ayz,ayt
  go_wp2_with (first|(at_builtin;refine O9 _ rfl _ _ 43 rfl base 97 y _ 7 56 axS t q r s rfl (by decide) (MG p l.length c) _ _ rfl d.out.1 _ 1 1 (rv WX [x]) rfl rfl d.out.2 (adm acI _) (by decide) (by unfold NE;omega) (by omega) hbase _ rfl ?_;intro o a D f n m B))
  all_goals
   go_ret;exact⟨o,a,rfl,by rw[akB,acL];exact f,n,m.imp id (fun h=>by omega)⟩
theorem apF(base g c:Nat)(l:List Fl)(x:Fl)(cs:Array M7)(hxs:cs.toList=WX x)(i k:Nat)(w:MO)(hown:w.ownsRow base 97 7 (MG (MI ⟨g,0,MH⟩) l.length c) l.length (rv WX l))(hbase:base<=w.heap.size)(hi:i<l.length)(hroom:c<l.length+1)
  (hk:w.heap[k]?=MI (MP cs 97 (0,0))) (hlen:l.length<=1000) :
  Ni MK 130 #[MG (MI ⟨g,0,MH⟩) l.length c,MF ME i,MG (MI ⟨k,0,MH⟩) 1 1] w (afB base (MG (MI ⟨g,0,MH⟩) l.length c) l x i w):=by
 obtain⟨R,A,J,B,N⟩:=OF ad0;have M:c=l.length:=by
  rcases hown.2 with⟨h,_⟩|⟨g',f,a5,h,_,_,h2,_⟩
  ·cases h
  ·simp only[N4]at h;omega
 subst M;have C:(Tryz.prog.info? 97).map (·.size)=MI 7:=by rw[A];simp[B]
 have a4:=(hown.lt g rfl).2;have Z:k<w.heap.size:=(Array.getElem?_eq_some_iff.1 hk).1;obtain⟨f,s,Q,o,q,E,I,d,a7⟩:=ag0 (P:=MK) w 43 3 43 97 R _ ME 7 56 axS Ol A J B N rfl (by decide) base ⟨g,0,MH⟩ i l.length (l.length+1-i) (rv WX (l.take i)) (by rw[aao,NH];omega)
  (fun j u hu=>by
   rw[abl,hown.cellAt j (by have:=(List.getElem?_eq_some_iff.1 hu).1;rw[aao,NH]at this;omega)];rw[<-ahj]at hu;rw[List.getElem?_take]at hu
   split at hu
   ·exact hu
   ·cases hu) (by omega) (by omega) (by unfold NE;omega) (by omega) hbase
 have O:i+(l.length+1-i)=l.length+1:=by omega
 rw[O]at o q I;rw[show((l.length+1-i:Nat):Int)=(l.length:Int)+1-(i:Int)by omega]at o;obtain⟨H,L,D,e⟩:=aa8 (P:=MK) Q 43 3 97 7 axS C base w.heap.size (l.length+1) f _ q (i*7) (l.length+1-i) (f-i) ⟨k,0,MH⟩ 1 1 1 (rv WX [x]) (by simp only[PR];split <;> omega) rfl (by simp[rv];omega)
  (fun j u hu=>by
   rw[abl,(d.cell (a:=⟨k,j,MH⟩) (v:=u) (by rw[MW w k j _ _ (0,0) hk];rw[ahz,<-hxs]at hu;simpa using hu) (by simp))]) (adm acI _)
 obtain⟨S,K,p,m⟩:=aa8 (P:=MK) H.drew 43 3 97 7 axS C base w.heap.size (l.length+1) f _ D ((i+1)*7) (l.length-i) (f-(i+1)) ⟨g,i*7,MH⟩ (l.length-i) (l.length-i) (l.length-i) (rv WX (l.drop i)) (by simp only[PR];split <;> omega) (by rw[aao,NJ]) (by rw[aao,NJ];omega)
  (fun j u hu=>by
   rw[aas];have n:=(List.getElem?_eq_some_iff.1 hu).1;rw[aao,NJ]at n;have T:w.cell? ⟨g,i*7+j,MH⟩=MI u:=by
    rw[hown.cellAt _ (by omega),<-hu,<-akn,Pa]
   exact e.cell (a:=⟨g,i*7+j,MH⟩) (d.cell T (by simp)) (by simp;omega)) (adm acI _)
 have z:(rv WX (l.take i)++s).take (i*7)++rv WX [x]++(rv WX (l.take i)++s).drop (i*7+(rv WX [x]).length)=rv WX (l.take i++[x])++s.drop 7:=by
  have r:(rv WX (l.take i)).length=i*7:=by rw[aao,NH];omega
  rw[<-r,Qb,acL,Qa];simp[rv]
 have y:∀ys:List M7,((rv WX (l.take i++[x])++ys).take ((i+1)*7)++rv WX (l.drop i)++(rv WX (l.take i++[x])++ys).drop ((i+1)*7+(rv WX (l.drop i)).length))=rv WX (Xi l x i)++ys.drop ((l.length-i)*7):=fun ys=>by
  have r:(rv WX (l.take i++[x])).length=(i+1)*7:=by rw[aao];simp;omega
  rw[<-r,Qb,Qa,aao (l.drop i),NJ,Xi,acL,acL];simp[rv]
 rw[z,y]at p;rw[List.drop_drop,PI (by rw[E];omega),OG]at p;have F:w.grownBy S (MG (MI ⟨g,0,MH⟩) l.length l.length).ownBlock :=
  ⟨m.os.trans (e.os.trans d.os),m.tape.trans (e.tape.trans d.tape),m.output.trans (e.output.trans d.output),Nm d.size (Nm e.size m.size),fun j n _=>by
   rw[m.block j (M8 n (Nm d.size e.size)) (by simp;omega)];show H.heap[j]?=_;rw[e.block j (M8 n d.size) (by simp;omega),d.block j n (by simp)]⟩
 have t:M6 (_/\_/\_/\_/\_):=⟨o,L,K,p,F⟩;have a8:(i:Int)<=(l.length:Int):=by omega
 have a6:(i:Int)<(l.length:Int)+1:=by omega
 have a3:¬f=i:=by omega
 have Y:¬f=i+1:=by omega
 have U:¬l.length=i:=by omega
 have a0:((i:Int) == (l.length:Int))=false:=by simp;omega
 clear o q D p d e m E hown hk z y F;go_enter ayz,ayt
 go_wp2_with (first|(at_builtin;refine Lib.wpList_append_run _ rfl _ _ _ _ rfl _ _ rfl rfl _ _ t.out.1 ?_))
 go_region
 go_wp2;go_ret;exact⟨w.heap.size,f,rfl,t.out.2.2.2.1,t.out.2.2.2.2,NF (MV _)⟩
theorem apG(base g c:Nat)(l:List Fl)(x:Fl)(cs:Array M7)(hxs:cs.toList=WX x)(i k:Nat)(w:MO)(hown:w.ownsRow base 97 7 (MG (MI ⟨g,0,MH⟩) l.length c) l.length (rv WX l))(hbase:base<=w.heap.size)(hi:i<l.length)(hroom:l.length+1<=c)(hkg:k≠g)
  (hk:w.heap[k]?=MI (MP cs 97 (0,0))) (hlen:l.length<=1000) :
  Ni MK 130 #[MG (MI ⟨g,0,MH⟩) l.length c,MF ME i,MG (MI ⟨k,0,MH⟩) 1 1] w (afB base (MG (MI ⟨g,0,MH⟩) l.length c) l x i w):=by
 obtain⟨i0,H,a6,I,b2⟩:=OF ad0;have A:(Tryz.prog.info? 97).map (·.size)=MI 7:=by rw[H];simp[I]
 obtain⟨d,s,B,r,y,K⟩:∃d:Array M7,w.heap[g]?=MI (MP d 97 (0,0))/\c<=NE/\d.size=c*7/\d.toList.take (l.length*7)=rv WX l/\base<=g:=by
  rcases hown.2 with⟨h,_⟩|⟨g',b3,d,h,Q,S,h2,M,O,h5⟩
  ·cases h
  ·simp only[N4,Qs,Q1,and_true,true_and]at h
   obtain⟨rfl,rfl⟩:=h;exact⟨d,S,M,O,h5,Q⟩
 have n:w.ownsRow base 97 7 (MG (MI ⟨g,0,MH⟩) (l.length+1) c) (l.length+1) (d.toList.take ((l.length+1)*7)):=
  ⟨by simp only[NH,Om,r];omega,NF ⟨g,c,d,rfl,K,s,hroom,B,r,rfl⟩⟩
 have F:d.toList.take ((l.length+1)*7)=rv WX l++(d.toList.drop (l.length*7)).take 7:=by
  rw[<-y,show(l.length+1)*7=l.length*7+7 by omega,List.take_add]
 rw[F]at n;have p:((d.toList.drop (l.length*7)).take 7).length=7:=by simp only[NH,NJ,Om,r];omega
 generalize (d.toList.drop (l.length*7)).take 7=sp at n p;have a5:=(hown.lt g rfl).2;obtain⟨R,b0,z,f⟩:=aa8 (P:=MK) w.drew 43 3 97 7 axS A base g (l.length+1) c _ n ((i+1)*7) (l.length-i) (c-(i+1)) ⟨g,i*7,MH⟩ (l.length+1-i) (c-i) (l.length-i) (rv WX (l.drop i)) (by simp only[PR];split <;> omega) (by rw[aao,NJ]) (by rw[aao,NJ];omega)
  (fun j u hu=>by
   rw[aas];have o:=(List.getElem?_eq_some_iff.1 hu).1;rw[aao,NJ]at o;have Z:w.cell? ⟨g,i*7+j,MH⟩=MI u:=by
    rw[hown.cellAt _ (by omega),<-hu,<-akn,Pa]
   exact Z) (adm acI _)
 obtain⟨w3,a8,q,m⟩:=aa8 (P:=MK) R 43 3 97 7 axS A base g (l.length+1) c _ z (i*7) (l.length+1-i) (c-i) ⟨k,0,MH⟩ 1 1 1 (rv WX [x]) (by simp only[PR];split <;> omega) rfl (by simp[rv];omega)
  (fun j u hu=>by
   rw[abl,(f.cell (a:=⟨k,j,MH⟩) (v:=u) (show w.cell? _=_ by rw[MW w k j _ _ (0,0) hk];rw[ahz,<-hxs]at hu;simpa using hu) (by simp;omega))]) (adm acI _)
 have t:∀xs:List M7,xs=(rv WX l++sp).take ((i+1)*7)++rv WX (l.drop i)++(rv WX l++sp).drop ((i+1)*7+(rv WX (l.drop i)).length)->xs.take (i*7)++rv WX [x]++xs.drop (i*7+(rv WX [x]).length)=rv WX (Xi l x i):=fun xs hxs=>by
  have U:(rv WX l++sp).drop ((i+1)*7+(rv WX (l.drop i)).length)=[]:=PI (by rw[Ns,aao,aao,NJ,p];omega);have T:(rv WX l++sp).take ((i+1)*7)=rv WX (l.take (i+1)):=by
   rw[ZqA (by rw[aao];omega),ahj]
  rw[U,T,OG]at hxs;have D:(rv WX (l.take (i+1))).length=(i+1)*7:=by rw[aao,NH];omega
  have N:xs.take (i*7)=rv WX (l.take i):=by
   rw[hxs,ZqA (by rw[D];omega),ahj,List.take_take,show min i (i+1)=i by omega]
  have Y:xs.drop (i*7+(rv WX [x]).length)=rv WX (l.drop i):=by
   rw[hxs,show i*7+(rv WX [x]).length=(rv WX (l.take (i+1))).length by rw[D];simp[rv];omega,List.drop_left]
  rw[N,Y,Xi,acL];simp[rv]
 rw[t _ rfl]at q;have C:w.grownBy w3 (MG (MI ⟨g,0,MH⟩) l.length c).ownBlock :=
  ⟨m.os.trans f.os,m.tape.trans f.tape,m.output.trans f.output,Nm f.size m.size,fun j o hne=>by
   rw[m.block j (M8 o f.size) hne];exact f.block j o hne⟩
 have L:cs.size=7:=by rw[<-Om,hxs];rfl
 have J:∀lb cb,(callFunc 175 #[MG (MI ⟨k,0,MH⟩) 1 1,MG (MI ⟨g,(i+1)*7,MH⟩) lb cb]).run MK w=.ok (.value (M3 Nb)) w:=fun lb cb=>by
  rw[run_callFunc_extern Wq (by kernel_rfl) (by kernel_rfl) (by kernel_rfl) (e:=P9 #[43,43] #[4]) (by kernel_rfl),
   Lib.run_overlaps_apart w 43 4 97 axS 7 Tryz.sizeOf97 ⟨k,0,MH⟩ ⟨g,(i+1)*7,MH⟩ 1 1 lb cb hkg 97 97 7 d.size (by simp[QO,hk,L]) (by simp[QO,s]) (by omega) (by simp[Ng,hk]) (by simp[Ng,hk])]
  rfl
 have E:M6 (_/\_):=⟨q,C⟩;have b4:(i:Int)<=(l.length:Int):=by omega
 have a9:(i:Int)<=(l.length:Int)+1:=by omega
 have a4:¬c=i:=by omega
 have a0:¬c=i+1:=by omega
 have a3:((i:Int) == (l.length:Int))=false:=by simp;omega
 have a7:(l.length:Int)+1<=(c:Int):=by omega
 unfold NE at B;clear z q f m hown n hk t C s y F p;go_enter ayz,ayt
 go_wp2_with (simp only[J])
 go_region
 go_wp2;go_ret;exact⟨g,c,rfl,E.out.1,E.out.2,Nt rfl⟩
theorem apD(base:Nat)(v:M7)(l:List Fl)(x:Fl)(cs:Array M7)(hxs:cs.toList=WX x)(i k:Nat)(w:MO)(hown:w.ownsRow base 97 7 v l.length (rv WX l))(hbase:base<=w.heap.size)(hi:i<=l.length)(hkv:v.ownBlock≠MI k)
  (hk:w.heap[k]?=MI (MP cs 97 (0,0))) (hlen:l.length<=1000) :
  Ni MK 130 #[v,MF ME i,MG (MI ⟨k,0,MH⟩) 1 1] w (afB base v l x i w):=by
 rcases Oq i l.length with a|d
 ·obtain⟨g,c,rfl,_⟩:=hown.form (by omega)
  rcases Oq c (l.length+1)with h|h
  ·exact apF base g c l x cs hxs i k w hown hbase a h hk hlen
  ·exact apG base g c l x cs hxs i k w hown hbase a h (fun e=>hkv (by rw[e];rfl)) hk hlen
 ·obtain rfl:i=l.length:=by omega
  exact apE base v l x cs hxs k w hown hbase hk hlen
section
variable {base:Nat}{w:MO}{g:Nat}{V:Vs}{G:Gt}
def aoh(base:Nat)(w:MO)(g:Nat)(V:Vs)(G':Gt)(i:Nat)(r:Ending)(w':MO):Prop :=
 ∃V' bf,r=MN (fP bf i)/\OR base w' g V' G'/\V'.pf=MI ⟨bf,0,MH⟩/\V'.bh=V.bh/\WV V V' g w w'
theorem aql(h:OR base w g V G)(hbs:Bs G)(hfree:G.tab.any Y1=Nw)(hk:0<=key/\key<=4294967295)(hb:0<=b/\b<12):
  Ni MK 91 #[gP g,MF ME key,MF ME b] w (aoh base w g V (abv G key b) (Y3 G.fls (Y8 G.tab key b).2.1.1)):=by
 obtain⟨j,b9,t,d3,b8,d8⟩:=hbs.Gd hfree hk hb;have b4:=hbs.Gb;obtain⟨l,a0⟩:∃l,l=G.tab[j].1:=⟨_,rfl⟩;obtain⟨m,hm⟩:∃m,m=G.tab.set j (l,Nw,key,b):=⟨_,rfl⟩;rw[<-a0,<-hm]at t;obtain⟨x,R⟩:∃x:Fl,x=⟨(j:Int),l,key,b,Nb,0,0⟩:=⟨_,rfl⟩;obtain⟨i,A⟩:∃i,i=Y3 G.fls (j:Int):=⟨_,rfl⟩;have n:i<=G.fls.length:=by rw[A];exact ad4 _ _
 have U:abv G key b={G with tab:=m,fls:=Xi G.fls x i}:=by unfold abv;rw[t,R,A]
 have b3:Y3 G.fls (Y8 G.tab key b).2.1.1=i:=by rw[t,A]
 rw[U,b3];have N:=auV (MG V.pt G.tab.length V.ct) G.tab key b w h.rest.tab.now;rw[t]at N;have h0:=h.Gs;have g9:=h.lt;have H:M6 (_/\_/\_/\_/\_/\_):=⟨h,N,b4,R,A,n⟩;clear h hbs N b4 R n t U hm a0 b8 hfree hk hb d3 d8 b3 A;clear b9;go_enter TP,TI
 go_wp2_with fail
 refine Nd H.out.2.1 ?_;rintro r d ⟨p,c,rfl,C,E⟩;have y:=H.out.1.below E;have g7:=y.Gs;have g2:=y.Gr;have g5:=y.fz 17;have f0:=y.lt;have g0:¬g=d.heap.size:=by omega
 have f9:¬g=d.heap.size+1:=by omega
 have f5:¬d.heap.size=g:=by omega
 have f6:¬d.heap.size+1=g:=by omega
 have K:=H.out.1.Ix E C;have a5:WV V {V with pt:=p,ct:=c} g w (d.setCell ⟨g,17,MH⟩ (MG p m.length c)):=((WV.F5 (V:=V) (g:=g) E).F4 17 _).Gp fun _ h=>h
 obtain⟨W,Q⟩:∃W,W=((d.setCell ⟨g,17,MH⟩ (MG p m.length c)).alloc (MP #[MG p m.length c] 42)).alloc (MP #[MF ME (j:Int),MF ME l] 75):=⟨_,rfl⟩;have b6:=acu (d.setCell ⟨g,17,MH⟩ (MG p m.length c)) (MP #[MG p m.length c] 42) (MP #[MF ME (j:Int),MF ME l] 75);rw[<-Q]at b6;obtain⟨_,D,M,d7⟩:=b6;have a3:(d.setCell ⟨g,17,MH⟩ (MG p m.length c)).heap.size=d.heap.size:=by simp
 rw[a3]at D;have J:=K.below M;have b2:=a5.below M;obtain⟨O,y1,_,_,a9⟩:=Xa D;have HI:=apo (MG V.pf G.fls.length V.cf) G.fls (j:Int) (d.heap.size+1) W J.GK O;have b5:¬Vs.own {V with pt:=p,ct:=c} g (d.heap.size+1):=K.rest.new (by simp);have I:M6 (_/\_/\_/\_/\_):=⟨HI,J,b2,D,b5⟩;clear C E y K a5 D M d7 a3 J b2 HI O y1 a9 b5
 go_wp2_with fail
 rw[<-Q];clear Q;refine Nd I.out.1 ?_;rintro r P ⟨rfl,F⟩;have v:=I.out.2.1.below F;have a6:=I.out.2.2.1.below F;obtain⟨O,y1,_,_,a9⟩:=Xa (WO I.out.2.2.2.1 F);have g1:=v.Gr;have f8:=v.lt;have g8:=H.out.2.2.1;have n:=H.out.2.2.2.2.2;have Y:M6 (∀X k,MQ P.heap.size P X->X.heap[k]?=MI (MP #[MF ME (j:Int),MF ME l,MF ME key,MF ME b,M3 Nb,MF ME 0,MF ME 0] 97 (0,0))->P.heap.size<=k->Ni MK 130 #[MG V.pf G.fls.length V.cf,MF ME (i:Int),MG (MI ⟨k,0,MH⟩) 1 1] X fun r w'=>∃q a,r=MN (MG (MI ⟨q,0,MH⟩) (G.fls.length+1) a)/\w'.cell? ⟨g,18,MH⟩=MI (MG V.pf G.fls.length V.cf)/\w'.frozen? ⟨g,18,MH⟩=Nb/\g<w'.heap.size/\a<=9223372036854775807/\G.fls.length+1<=a /\
   M6 (OR base (w'.setCell ⟨g,18,MH⟩ (MG (MI ⟨q,0,MH⟩) (G.fls.length+1) a)) g {V with pt:=p,ct:=c,pf:=MI ⟨q,0,MH⟩,cf:=a} {G with tab:=m,fls:=Xi G.fls x i}/\WV V {V with pt:=p,ct:=c,pf:=MI ⟨q,0,MH⟩,cf:=a} g w (w'.setCell ⟨g,18,MH⟩ (MG (MI ⟨q,0,MH⟩) (G.fls.length+1) a)))):=by
  intro X k hX hk g4;have o:=v.below hX;have e9:(MG V.pf G.fls.length V.cf).ownBlock≠MI k:=fun e=>by
   have:=(v.rest.fls.lt k e).2;omega
  refine(apD base (MG V.pf G.fls.length V.cf) G.fls x #[MF ME (j:Int),MF ME l,MF ME key,MF ME b,M3 Nb,MF ME 0,MF ME 0] (by rw[H.out.2.2.2.1]) i k X o.rest.fls o.base n e9 hk (by omega)).mono ?_;rintro r w' ⟨q,a,rfl,C,s,hq⟩;have L:∀z,z<X.heap.size->V.pf.map (·.block)≠MI z->w'.heap[z]?=X.heap[z]?:=fun z hz hn=>s.block z hz (fun e=>hn (by rw[e,XV]))
  have a4:=(L g o.lt o.rest.fg).trans o.box;have T:(Xi G.fls x i).length=G.fls.length+1:=ad1 _ _ n;have b0:∀z,(MI (⟨q,0,MH⟩:Oc)).map (·.block)=MI z->V.pf.map (·.block)=MI z\/X.heap.size<=z:=fun z e=>by
   cases e;exact hq.imp (fun e=>by rw[<-XV V.pf G.fls.length V.cf];exact e) id
  have a7:=o.IU (w':=w') (p:=MI ⟨q,0,MH⟩) (c:=a) (m:=Xi G.fls x i) s.size L (by rw[T];exact C) b0;rw[T]at a7;have Z:a<=9223372036854775807/\G.fls.length+1<=a:=by
   rcases C.2 with⟨S,_⟩|⟨g',c',g3,S,_,_,h1,h2,_⟩
   ·cases S
   ·cases S
    unfold NE at h2;exact⟨h2,h1⟩
  have d2:WV {V with pt:=p,ct:=c} {V with pt:=p,ct:=c,pf:=MI ⟨q,0,MH⟩,cf:=a} g X w':=by
   refine⟨s.os,s.tape,s.output,s.size,fun z hz hn=>L z hz fun e=>hn (NF (NF (Nt e))),fun z e=>?_⟩;rcases e with e|e|e|e
   ·exact Nt (Nt e)
   ·exact Nt (NF (Nt e))
   ·exact(b0 z e).imp (fun e=>NF (NF (Nt e))) id
   ·exact Nt (NF (NF (NF e)))
  refine⟨q,a,rfl,by rw[MW w' g 18 _ _ (0,0) a4];rfl,by simp[Ng,a4],M8 o.lt s.size,Z.1,Z.2,a7,?_⟩;exact((a6.below hX).F0 d2).F4 18 _
 have a8:G.fls.findIdx (fun f=>Nn ((j:Int)<f.slot))=i:=H.out.2.2.2.2.1.symm;rw[a8];have HZ:M6 _:=n;clear v a6 F a8 n
 by_cases hil:i<G.fls.length
 ·have u:X6 i G.fls.length=(i:Int):=Nh hil
  rw[u];have d4:(i:Int)<(G.fls.length:Int)+1:=by omega
  have g6:¬((i:Int)<0):=by omega
  clear u
  go_wp2_with fail
  go_region_with (first|(go_at_call 130;refine(Y.out _ _ ?hb ?hk ?hn).mono ?_;(case hb=>first|exact((MY _ _).alloc (MV _) _).drew|exact((Below.refl _ _).drew).alloc (by simp) _);(case hk=>exact M1 _ _);(case hn=>exact MV _);rintro r w5 ⟨q,a,rfl,d5,e8,b7,d0,d1,B⟩))
  all_goals
   go_wp2;go_ret;exact⟨_,q,by simp,B.out.1,rfl,rfl,B.out.2⟩
 ·obtain rfl:i=G.fls.length:=by have:=HZ.out;omega
  have u:X6 G.fls.length G.fls.length = -1:=Nf hil;rw[u];have d4:(G.fls.length:Int)<(G.fls.length:Int)+1:=by omega
  clear u
  go_wp2_with fail
  go_region_with (first|(go_at_call 130;refine(Y.out _ _ ?hb ?hk ?hn).mono ?_;(case hb=>first|exact((MY _ _).alloc (MV _) _).drew|exact((Below.refl _ _).drew).alloc (by simp) _);(case hk=>exact M1 _ _);(case hn=>exact MV _);rintro r w5 ⟨q,a,rfl,d5,e8,b7,d0,d1,B⟩))
  all_goals
   go_wp2;go_ret;exact⟨_,q,by simp,B.out.1,rfl,rfl,B.out.2⟩
end
abbrev adk(x:Ld):List Value:=[MF ME x.1,MF ME x.2.1,MF ME x.2.2]
theorem apO(x:Ld):(adk x).length=3:=rfl
theorem apN(x:Ld):∀u∈adk x,u.oneCell'=true:=by
 intro u a;simp only[OO,OD,or_false]at a;rcases a with rfl|rfl|rfl <;> rfl
theorem ak5:∀l:List Ld,rv adk l=abG l
 | []=>rfl
 |x::l=>by simp[rv,abG,ak5 l]
theorem apu:(Tryz.prog.info? 254).map (fun i=>(i.zero,i.size,i.bytes))=MI (MI (Ny #[MF ME 0,MF ME 0,MF ME 0]),3,24):=by kernel_rfl
def abc(fs:List Fl):List Int:=(Pm 12).map fun(b:Nat)=>((abu fs (b:Int):Nat):Int)
theorem aeF(fs:List Fl):(abc fs).length=12:=by simp[abc]
theorem afI(fs:List Fl){b:Nat}(hb:b<12):(abc fs)[b]'(by rw[aeF];exact hb)=((abu fs (b:Int):Nat):Int):=by simp[abc]
theorem aoP(fs:List Fl)(f:Fl){b:Nat}(hb:b<12)(he:f.be=(b:Int)):abc (fs++[f])=(abc fs).set b (((abu fs (b:Int):Nat):Int)+1):=by
 apply PX
 ·simp[aeF]
 ·intro k c d
  have a:k<12:=by simpa [aeF]using c
  rw[afI _ a,Pc];unfold abu;rw[Qi]
  by_cases e:b=k
  ·subst e
   rw[Nh rfl];simp[he]
  ·rw[Nf e,afI _ a]
   have:(f.be == (k:Int))=false:=by rw[he,Oh];omega
   simp[abu,this]
section
variable {base:Nat}{w:MO}{g:Nat}{V:Vs}{G:Gt}
def aaH(G:Gt)(fs:List Fl)(k:Nat):List Ld:=((G.liv.take k).filter fun l=>l.2.1 == 2).map fun l=>(l.1,abV G l,(abu fs l.1:Int))
theorem apX(fs:List Fl):aaH G fs G.liv.length=aab G fs:=by unfold aaH aab;rw[NT]
theorem ap0(fs:List Fl)(hk:k<G.liv.length)(h:G.liv[k].2.1=2):aaH G fs (k+1)=aaH G fs k++[(G.liv[k].1,abV G G.liv[k],(abu fs G.liv[k].1:Int))]:=by
 unfold aaH;rw[M9 hk,OY,OI];simp[h]
theorem apZ(fs:List Fl)(hk:k<G.liv.length)(h:¬G.liv[k].2.1=2):aaH G fs (k+1)=aaH G fs k:=by
 unfold aaH;rw[M9 hk,OY,OI];have:(G.liv[k].2.1 == 2)=false:=by rw[Oh];exact h
 simp[this]
theorem apY(fs:List Fl)(k:Nat):(aaH G fs k).length<=G.liv.length:=by
 unfold aaH;rw[N0];exact Nm (O1 _ _) (List.length_take_le' _ _)
theorem ap2{W:MO}{B:Nat}{p:Option Oc}{n c:Nat}{m:List Ld}(ho:W.ownsRow B 254 3 (MG p n c) n (rv adk m))(hB:B<=W.heap.size)(hn:n<=1000)(x:Ld) :
  ∃q c' w5,(N2 #[202,202] 202 #[MG p n c,MG (MI ⟨W.heap.size,0,MH⟩) 1 1]).run MK (W.alloc (MP #[MF ME x.1,MF ME x.2.1,MF ME x.2.2] 254))=.ok (MG (MI ⟨q,0,MH⟩) (n+1) c') w5 /\
   w5.ownsRow B 254 3 (MG (MI ⟨q,0,MH⟩) (n+1) c') (n+1) (rv adk (m++[x]))/\MQ B W w5/\∀b,b<W.heap.size->p.map (·.block)≠MI b->w5.heap[b]?=W.heap[b]?:=by
 obtain⟨q,c',w5,f,d,a,j⟩:=afC apO apN (by decide) Tryz.underlying202 apu rfl ho hB 202 x #[MF ME x.1,MF ME x.2.1,MF ME x.2.2] rfl (by omega) (by unfold NE;omega);exact⟨q,c',w5,f,d,(MY _ _).grown a hB (fun k hk=>(ho.lt k hk).1),fun b hb hne=>a.block b hb fun e=>hne (by rw[<-XV p n c,<-e])⟩
theorem ap1(h:OR base w g V G)(hbs:Bs G)(v:M7)(fs:List Fl)(hv:ZR w v fs)(hfs:∀f∈fs,0<=f.be/\f.be<12)(hl:fs.length<=40) :
  Ni MK 126 #[gP g,v] w fun r w'=>∃y,r=MN y/\aaR w' y (aab G fs)/\MQ w.heap.size w w':=by
 obtain⟨pa,ca,rfl,j6,g8,pf⟩:=hv.F6;unfold NE at g8;obtain⟨W,hW⟩:∃W,W=w.alloc (MP (WR (Nj 12 0)).toArray 190):=⟨_,rfl⟩;have hB:MQ w.heap.size w W:=by rw[hW];exact WQ w
 have j:Xj 190 12 W w.heap.size (abc []):=by
  have e:abc []=Nj 12 0:=by rfl
  rw[hW,e];exact Xj.new w 190 (Nj 12 0)
 have i6:=hbs.book.1.1;have H:M6 (_/\_/\_/\_/\_/\_):=⟨h,hbs,hfs,pf,hB,j⟩;have j7:=h.lt;clear h hbs hv hfs pf hB j;go_enter Tryz.func126,Tryz.ntmps126;go_wp2;rw[show(w.alloc (MP #[MF ME 0,MF ME 0,MF ME 0,MF ME 0,MF ME 0,MF ME 0,MF ME 0,MF ME 0,MF ME 0,MF ME 0,MF ME 0,MF ME 0] 190))=W from hW.symm];clear hW
 go_loopw [13] (fun t wr=>∃k:Nat,t=MF ME k/\k<=fs.length/\Xj 190 12 wr w.heap.size (abc (fs.take k))/\MQ w.heap.size w wr/\w.heap.size<wr.heap.size) (fun t _=>fs.length-(intOf t).toNat)
 case atStart=>exact⟨0,rfl,Nx _,H.out.2.2.2.2.2,H.out.2.2.2.2.1,H.out.2.2.2.2.2.lt⟩
 case round =>
  obtain⟨k,rfl,hk,j,a,b5⟩:=hrel
  by_cases hlt:k<fs.length
  ·obtain⟨m,u,rfl,l,O,L,R,N,M,Q,z6⟩:=H.out.2.2.2.1 k hlt
   have b8:=H.out.2.2.1 _ (Nk hlt);have a4:fs.take (k+1)=fs.take k++[fs[k]]:=M9 hlt;obtain⟨f,d4⟩:∃f,f=fs[k]:=⟨_,rfl⟩;rw[<-d4]at O L R N M Q z6 b8 a4;obtain⟨b,a7⟩:=NL b8.1;have U:b<12:=by omega
   have f0:(b:Int)<12:=by omega
   have g5:(0:Int)<=(b:Int):=by omega
   have e0:=(a.cell (p:=⟨m,u+k*7,MH⟩) l).trans O;have e1:=(a.cell (p:=⟨m,u+k*7+1,MH⟩) l).trans L;have e2:=(a.cell (p:=⟨m,u+k*7+2,MH⟩) l).trans R;have e3:=(a.cell (p:=⟨m,u+k*7+3,MH⟩) l).trans N;have e4:=(a.cell (p:=⟨m,u+k*7+4,MH⟩) l).trans M;have e5:=(a.cell (p:=⟨m,u+k*7+5,MH⟩) l).trans Q;have e6:=(a.cell (p:=⟨m,u+k*7+6,MH⟩) l).trans z6;rw[a7]at e3;have a1:=j.F7 b (by rw[aeF];exact U);rw[afI _ U]at a1;have a2:=j.Gu b;obtain⟨d,I⟩:∃d:Int,d=((abu (fs.take k) (b:Int):Nat):Int):=⟨_,rfl⟩;rw[<-I]at a1;have j1:0<=d/\d<=40:=by have:=aj7 (fs.take k) (b:Int);rw[NH]at this;omega
   have j4:IntKind.i64.wrap (d+1)=d+1:=by rw[Ow];omega
   have e8:m<wr.heap.size:=M8 l a.size;have g2:(k:Int)<(fs.length:Int):=by omega
   have P:M6 (_/\_/\_/\_/\_/\_):=⟨j,a,b5,a4,a7,I⟩;clear j a a4 a7 I O L R N M Q z6 d4 b8 l;have i9:¬w.heap.size=wr.heap.size:=by omega
   have i4:¬wr.heap.size=w.heap.size:=by omega
   go_wp2
   go_roundw
   case rel =>
    obtain⟨j,a,b5,a4,a7,I⟩:=P.out;refine⟨k+1,by simp,hlt,?_,?_,?_⟩
    ·rw[a4,aoP _ _ U a7,<-I]
     first
     |exact(j.F4 b (d+1)).below (WQ _)
     |exact(j.below (WQ _)).set b (d+1)
    ·first
     |exact(a.setCell (p:=⟨w.heap.size,b,MH⟩) (MV _) _).alloc (by simp;omega) _
     |exact(a.alloc (by omega) _).setCell (p:=⟨w.heap.size,b,none⟩) (Nat.le_refl _) _
    ·simp;omega
   case measure=>simp[intOf];omega
  ·obtain rfl:k=fs.length:=by omega
   rw[NT]at j;have i7:¬((fs.length:Int)<(fs.length:Int)):=by omega
   have b9:=H.out.1.below a;have h7:=b9.Gn;have i5:=b9.lt;obtain⟨al,j5,f6,i8,e9,d7⟩:=adt.F6 H.out.1.rest.book.now.1;injection f6 with el1 _ el3;unfold NE at e9;rw[el1,el3]at h7;obtain⟨W1,i3⟩:∃W1,W1=wr:=⟨_,rfl⟩;subst i3;have HL:M6 (_/\_/\_/\_):=⟨j,a,b5,d7⟩;clear j a b9 hlt d7 el1 el3;go_wp2
   go_loopw [8,31] (fun s8 t wr=>∃(k:Nat) (p:Option Oc) (n c:Nat),s8=MG p n c/\t=MF ME k/\k<=G.liv.length/\n=(aaH G fs k).length/\wr.ownsRow (w.heap.size+1) 254 3 (MG p n c) n (rv adk (aaH G fs k))/\Xj 190 12 wr w.heap.size (abc fs)/\MQ w.heap.size w wr/\w.heap.size<wr.heap.size) (fun _ t _=>G.liv.length-(intOf t).toNat)
   case atStart=>exact⟨0,MH,0,0,rfl,rfl,Nx _,rfl,NY _ _ _ _,HL.out.1,HL.out.2.1,HL.out.2.2.1⟩
   case round =>
    obtain⟨k,p,n,c,rfl,rfl,hk,K,E,j,a,d0⟩:=hrel
    by_cases hlt:k<G.liv.length
    ·obtain⟨m,u,f8,l,O,L,R,N,M,Q⟩:=HL.out.2.2.2 k hlt
     subst f8;have a3:=Nk hlt;have Y:=(H.out.2.1.lf a3).1.1;have S:=ap0 (G:=G) fs hlt;have F:=apZ (G:=G) fs hlt;have d2:=apY (G:=G) fs k;obtain⟨⟨x1,x2,A,C,D,B⟩,b4⟩:∃x,x=G.liv[k]:=⟨_,rfl⟩;rw[<-b4]at O L R N M Q a3 Y S F;have Y:0<=x1/\x1<=11:=Y;obtain⟨b,rfl⟩:=NL Y.1;have U:b<12:=by omega
     have f0:(b:Int)<12:=by omega
     have g5:(0:Int)<=(b:Int):=by omega
     have e0:=(a.cell (p:=⟨m,u+k*6,MH⟩) l).trans O;have e1:=(a.cell (p:=⟨m,u+k*6+1,MH⟩) l).trans L;have e2:=(a.cell (p:=⟨m,u+k*6+2,MH⟩) l).trans R;have e3:=(a.cell (p:=⟨m,u+k*6+3,MH⟩) l).trans N;have e4:=(a.cell (p:=⟨m,u+k*6+4,MH⟩) l).trans M;have e5:=(a.cell (p:=⟨m,u+k*6+5,MH⟩) l).trans Q;have e8:m<wr.heap.size:=M8 l a.size;have g2:(k:Int)<(G.liv.length:Int):=by omega
     by_cases h2:x2=2
     ·subst h2
      have S:=S rfl;obtain⟨J,a8⟩:∃J,J=wr.alloc (YQ ((b:Int),2,A,C,D,B)):=⟨_,rfl⟩;have T:MQ wr.heap.size wr J:=by rw[a8];exact WQ wr
      have a9:J.heap[wr.heap.size]?=MI (YQ ((b:Int),2,A,C,D,B)):=by rw[a8];exact M1 _ _
      have b6:=j.below T;have d5:=YI E T;have d1:=(H.out.1.below a).below T;have a6:∀ {X:MO},X.heap[wr.heap.size]?=MI (YQ ((b:Int),2,A,C,D,B))->X.cell? ⟨wr.heap.size,0,MH⟩=MI (MF ME (b:Int))/\X.cell? ⟨wr.heap.size,1,MH⟩=MI (MF ME 2)/\X.cell? ⟨wr.heap.size,2,MH⟩=MI (MF ME A)/\X.cell? ⟨wr.heap.size,3,MH⟩=MI (MF ME C)/\X.cell? ⟨wr.heap.size,4,MH⟩=MI (MF ME D)/\X.cell? ⟨wr.heap.size,5,MH⟩=MI (MF ME B):=fun {X} hX =>
       ⟨by rw[MW X _ 0 _ _ (0,0) hX];rfl,by rw[MW X _ 1 _ _ (0,0) hX];rfl,by rw[MW X _ 2 _ _ (0,0) hX];rfl,by rw[MW X _ 3 _ _ (0,0) hX];rfl,by rw[MW X _ 4 _ _ (0,0) hX];rfl,by rw[MW X _ 5 _ _ (0,0) hX];rfl⟩
      obtain⟨d,I⟩:∃d:Int,d=((abu fs (b:Int):Nat):Int):=⟨_,rfl⟩;obtain⟨wt,b3⟩:∃wt,wt=abV G ((b:Int),2,A,C,D,B):=⟨_,rfl⟩;have a0:∀ {X:MO},Xj 190 12 X w.heap.size (abc fs)->X.cell? ⟨w.heap.size,b,MH⟩=MI (MF ME d):=fun {X} hX=>by
       have:=hX.F7 b (by rw[aeF];exact U);rw[afI _ U,<-I]at this;exact this
      have f9:M6 (∀X:MO,MQ J.heap.size J X->Ni MK 172 #[gP g,abR ((b:Int),2,A,C,D,B)] X fun r w'=>r=MN (MF ME wt)/\∃q Z s,
        (w'.cell? ⟨wr.heap.size,0,MH⟩=MI (MF ME (b:Int))/\w'.cell? ⟨wr.heap.size,1,MH⟩=MI (MF ME 2)/\w'.cell? ⟨wr.heap.size,2,MH⟩=MI (MF ME A)/\w'.cell? ⟨wr.heap.size,3,MH⟩=MI (MF ME C)/\w'.cell? ⟨wr.heap.size,4,MH⟩=MI (MF ME D)/\w'.cell? ⟨wr.heap.size,5,MH⟩=MI (MF ME B)/\w'.cell? ⟨w.heap.size,b,MH⟩=MI (MF ME d)) /\
        ((w'.alloc (MP #[MF ME (b:Int),MF ME wt,MF ME d] 254)).cell? ⟨wr.heap.size,0,MH⟩=MI (MF ME (b:Int))/\(w'.alloc (MP #[MF ME (b:Int),MF ME wt,MF ME d] 254)).cell? ⟨wr.heap.size,1,MH⟩=MI (MF ME 2)/\(w'.alloc (MP #[MF ME (b:Int),MF ME wt,MF ME d] 254)).cell? ⟨wr.heap.size,2,MH⟩=MI (MF ME A)/\(w'.alloc (MP #[MF ME (b:Int),MF ME wt,MF ME d] 254)).cell? ⟨wr.heap.size,3,MH⟩=MI (MF ME C)/\(w'.alloc (MP #[MF ME (b:Int),MF ME wt,MF ME d] 254)).cell? ⟨wr.heap.size,4,MH⟩=MI (MF ME D)/\(w'.alloc (MP #[MF ME (b:Int),MF ME wt,MF ME d] 254)).cell? ⟨wr.heap.size,5,MH⟩=MI (MF ME B)/\(w'.alloc (MP #[MF ME (b:Int),MF ME wt,MF ME d] 254)).cell? ⟨w.heap.size,b,MH⟩=MI (MF ME d)) /\
        (s.cell? ⟨wr.heap.size,0,MH⟩=MI (MF ME (b:Int))/\s.cell? ⟨wr.heap.size,1,MH⟩=MI (MF ME 2)/\s.cell? ⟨wr.heap.size,2,MH⟩=MI (MF ME A)/\s.cell? ⟨wr.heap.size,3,MH⟩=MI (MF ME C)/\s.cell? ⟨wr.heap.size,4,MH⟩=MI (MF ME D)/\s.cell? ⟨wr.heap.size,5,MH⟩=MI (MF ME B)/\s.cell? ⟨w.heap.size,b,MH⟩=MI (MF ME d)) /\
        M6 ((N2 #[202,202] 202 #[MG p n c,MG (MI ⟨w'.heap.size,0,MH⟩) 1 1]).run MK (w'.alloc (MP #[MF ME (b:Int),MF ME wt,MF ME d] 254))=.ok (MG (MI ⟨q,0,MH⟩) (n+1) Z) s/\s.ownsRow (w.heap.size+1) 254 3 (MG (MI ⟨q,0,MH⟩) (n+1) Z) (n+1) (rv adk (aaH G fs (k+1)))/\Xj 190 12 s w.heap.size (abc fs)/\MQ w.heap.size w s/\w.heap.size<s.heap.size)):=by
       refine fun X hX=>(aq4 (d1.below hX) H.out.2.1 a3).mono ?_
       rintro r w' ⟨rfl,g1⟩;have a5:MQ J.heap.size J w':=hX.trans (g1.mono hX.size);have b0:=b6.below a5;have g6:=YI d5 a5;have b2:=WO a9 a5;have g4:MQ w.heap.size w w':=(a.trans (T.mono a.size)).trans (a5.mono (Nm a.size T.size));obtain⟨q,Z,s,hr,i2,g0,d3⟩:=ap2 g6 (Nm (by omega) (Nm T.size a5.size)) (by omega) ((b:Int),wt,d);have d8:∀z,p.map (·.block)=MI z->w.heap.size+1<=z/\z<wr.heap.size:=fun z e=>E.lt z (by rw[XV];exact e)
       have i1:wr.heap.size<w'.heap.size:=(Array.getElem?_eq_some_iff.1 b2).1;have g7:=(d3 wr.heap.size i1 (fun e=>by have:=(d8 _ e).2;omega)).trans b2;have b7:=b0.Gf (d3 w.heap.size b0.lt (fun e=>by have:=(d8 _ e).1;omega));have f5:=WO b2 (WQ w' (o:=MP #[MF ME (b:Int),MF ME wt,MF ME d] 254));have g9:=b0.below (WQ w' (o:=MP #[MF ME (b:Int),MF ME wt,MF ME d] 254));have f1:=a6 b2;have f2:=a6 f5;have f3:=a6 g7;refine⟨by rw[b3],q,Z,s,⟨f1.1,f1.2.1,f1.2.2.1,f1.2.2.2.1,f1.2.2.2.2.1,f1.2.2.2.2.2,a0 b0⟩,⟨f2.1,f2.2.1,f2.2.2.1,f2.2.2.2.1,f2.2.2.2.2.1,f2.2.2.2.2.2,a0 g9⟩,⟨f3.1,f3.2.1,f3.2.2.1,f3.2.2.2.1,f3.2.2.2.2.1,f3.2.2.2.2.2,a0 b7⟩,hr,?_,b7,g4.trans (g0.mono (Ps _)),b7.lt⟩;rw[S,<-b3,<-I];exact i2
      obtain⟨y0,y1,y2,y3,y4,y5⟩:=a6 a9;have yc:=a0 b6;have j2:wr.heap.size<J.heap.size:=(Array.getElem?_eq_some_iff.1 a9).1;have h0:M6 (n+1=(aaH G fs (k+1)).length):=by show n+1=_;rw[S,Ns,<-K];rfl
      clear E j a S F b4 O L R N M Q a3 Y T a9 b6 d5 d1 a6 a0 I b3 K d2 l
      go_wp2_with fail
      rw[<-a8];clear a8
      go_region_held3 (fun X=>X.cell? ⟨wr.heap.size,0,MH⟩=MI (MF ME (b:Int))/\X.cell? ⟨wr.heap.size,1,MH⟩=MI (MF ME 2)/\X.cell? ⟨wr.heap.size,2,MH⟩=MI (MF ME A)/\X.cell? ⟨wr.heap.size,3,MH⟩=MI (MF ME C)/\X.cell? ⟨wr.heap.size,4,MH⟩=MI (MF ME D)/\X.cell? ⟨wr.heap.size,5,MH⟩=MI (MF ME B)/\X.cell? ⟨w.heap.size,b,MH⟩=MI (MF ME d)) (first|exact⟨y0,y1,y2,y3,y4,y5,yc⟩|exact h6|exact g3|exact h8) (first|(go_at_call 172;refine(f9.out _ (by first|exact(MY _ _).drew|exact Below.refl _ _)).mono ?_;rintro r w4 ⟨rfl,q,Z,s,h6,g3,h8,hQ⟩)|(refine aec (by rfl) _ _ 202 (by rfl) _ _ _ _ (by rfl) (by rfl) hQ.out.1 ?_))
      all_goals
       go_wp2
       go_roundw
       case rel=>exact⟨k+1,MI ⟨q,0,MH⟩,n+1,Z,rfl,by simp,hlt,h0.out,hQ.out.2.1,hQ.out.2.2.1,hQ.out.2.2.2.1,hQ.out.2.2.2.2⟩
       case measure=>simp[intOf];omega
     ·have F:=F h2
      have j3:(x2 == 2)=false:=by rw[Oh];exact h2
      have P:M6 (_/\_/\_/\_/\_/\_):=⟨E,j,a,d0,K,F⟩;clear E j a S F b4 O L R N M Q a3 Y K d2 l;go_wp2
      go_roundw
      case rel =>
       obtain⟨E,j,a,d0,K,F⟩:=P.out;refine⟨k+1,p,n,c,rfl,by simp,hlt,by rw[F];exact K,by rw[F];exact E.alloc _,j.below (WQ _),a.alloc (by omega) _,by simp;omega⟩
      case measure=>simp[intOf];omega
    ·obtain rfl:k=G.liv.length:=by omega
     have j0:¬((G.liv.length:Int)<(G.liv.length:Int)):=by omega
     rw[apX]at K E;have P:M6 (_/\_/\_):=⟨E,a,K⟩;clear E a K j;go_wp2;go_ret;refine⟨_,rfl,?_,P.out.2.1⟩;have h9:=Yr P.out.1;rw[ak5,P.out.2.2]at h9;rw[P.out.2.2];exact h9
end
section
variable {base:Nat}{w:MO}{g:Nat}{V:Vs}{G:Gt}
abbrev ag8(G:Gt):Obj:=MP #[MF ME G.cfg.flows,MF ME G.cfg.num,MF ME G.cfg.den,MF ME G.cfg.tries,MF ME G.cfg.warm,MF ME G.cfg.drain,MF ME G.cfg.idle,MF ME G.cfg.conn,MF ME G.cfg.ret,MF ME G.cfg.most,MF ME G.cfg.bn,MF ME G.cfg.bd,MF ME G.cfg.bb,MF ME G.cfg.wn,MF ME G.cfg.wf,MF ME G.cfg.wh] 38
theorem ahb(h:OR base w g V G)(hbs:Bs G)(hkey:0<=key/\key<=4294967295)(v:M7)(fs:List Fl)(hv:ZR w v fs)(hfs:∀f∈fs,0<=f.be/\f.be<12)(hl:fs.length<=40):
  Ni MK 90 #[gP g,MF ME key,v] w fun r w'=>r=MN (Nv #[MF ME (XD G key fs).1,M3 ((XD G key fs).2 == 0)])/\MQ w.heap.size w w':=by
 obtain⟨E,rfl⟩:=NL hkey.1;obtain⟨L,N,rfl,b2,R,_⟩:=hv.F6;unfold NE at R;obtain⟨j,B⟩:∃j,j=acy (WW G.wts) (abp E:Nat):=⟨_,rfl⟩;have D:=auo (MG V.ps (WW G.wts).length V.cs) G.wts E w hbs.wts h.rest.ring.now (by omega);rw[<-B]at D;have a3:=h.GX;have b0:=h.lt;obtain⟨O,C⟩:∃O,O=XD G (E:Int) fs:=⟨_,rfl⟩;have K:O=ab6 j (aab G fs) G.cfg.num G.cfg.den (fs.length:Int) G.cfg.tries:=by
  rw[C,B];unfold XD ahS;rw[NR]
 rw[<-C];have H:M6 (_/\_/\_/\_/\_/\_/\_):=⟨h,hbs,hv,hfs,hl,D,K⟩;clear h hbs hv hfs D C K B hkey;go_enter Tryz.func90,Tryz.ntmps90
 go_wp2_with fail
 refine Nd H.out.2.2.2.2.2.1 ?_;rintro r e ⟨p,c,rfl,P,n⟩;have a:=H.out.1.below n;have c0:=a.c0;have c1:=a.c1;have c2:=a.c2;have c3:=a.c3;have c4:=a.c4;have c5:=a.c5;have c6:=a.c6;have c7:=a.c7;have c8:=a.c8;have c9:=a.c9;have a8:=a.Hf;have a6:=a.Hn;have T:=a.Hg;have U:=a.GS;have a7:=a.GU;have a0:=a.GO;have a9:=a.lt;obtain⟨W,u⟩:∃W,W=e.alloc (ag8 G):=⟨_,rfl⟩;have o:MQ e.heap.size e W:=by rw[u];exact WQ e
 have s:W.heap[e.heap.size]?=MI (ag8 G):=by rw[u];exact M1 _ _
 have I:=a.below o;have A:MQ w.heap.size w W:=n.trans (o.mono n.size);have J:ZR W (MG L fs.length N) fs:=Xw.below H.out.2.2.1 A;have F:abE W (MG p j.length c) j:=Yr (YI P o);have t:∀ {X:MO},X.heap[e.heap.size]?=MI (ag8 G)->X.cell? ⟨e.heap.size,1,MH⟩=MI (MF ME G.cfg.num)/\X.cell? ⟨e.heap.size,2,MH⟩=MI (MF ME G.cfg.den)/\X.cell? ⟨e.heap.size,3,MH⟩=MI (MF ME G.cfg.tries):=fun {X} hX =>
  ⟨by rw[MW X _ 1 _ _ (0,0) hX];rfl,by rw[MW X _ 2 _ _ (0,0) hX];rfl,by rw[MW X _ 3 _ _ (0,0) hX];rfl⟩
 have Y:M6 (∀X,MQ W.heap.size W X->Ni MK 126 #[gP g,MG L fs.length N] X fun r w'=>∃z m d,r=MN (MG z m d)/\(w'.cell? ⟨e.heap.size,1,MH⟩=MI (MF ME G.cfg.num)/\w'.cell? ⟨e.heap.size,2,MH⟩=MI (MF ME G.cfg.den)/\w'.cell? ⟨e.heap.size,3,MH⟩=MI (MF ME G.cfg.tries))/\M6 (aaR w' (MG z m d) (aab G fs)/\MQ W.heap.size W w')):=by
  refine fun X hX=>(ap1 (I.below hX) H.out.2.1 _ fs (Xw.below J hX) H.out.2.2.2.1 H.out.2.2.2.2.1).mono ?_
  rintro r w' ⟨y,rfl,q,x⟩;obtain⟨z,d,rfl,_⟩:=q.F6;have l:=hX.trans (x.mono hX.size);exact⟨z,_,d,rfl,t (WO s l),q,l⟩
 have HP:M6 (∀X z m d,MQ W.heap.size W X->aaR X (MG z m d) (aab G fs)->Ni MK 125 #[MG p j.length c,MG z m d,MF ME G.cfg.num,MF ME G.cfg.den,MF ME (fs.length:Int),MF ME G.cfg.tries] X fun r w'=>r=MN (Nv #[MF ME O.1,MF ME O.2])/\(w'.cell? ⟨e.heap.size,1,MH⟩=MI (MF ME G.cfg.num)/\w'.cell? ⟨e.heap.size,2,MH⟩=MI (MF ME G.cfg.den)/\w'.cell? ⟨e.heap.size,3,MH⟩=MI (MF ME G.cfg.tries))/\M6 (MQ W.heap.size W w')):=by
  refine fun X z m d hX q=>(atd (MG p j.length c) (MG z m d) j (aab G fs) G.cfg.num G.cfg.den (fs.length:Int) G.cfg.tries X (F.below hX) q).mono ?_
  rw[<-H.out.2.2.2.2.2.2];rintro r w' ⟨rfl,x⟩;have l:=hX.trans (x.mono hX.size);exact⟨rfl,t (WO s l),l⟩
 have Z:=t s;have Q:M6 _:=A;clear a I n o s J F t A P
 go_wp2_with fail
 rw[<-u];clear u c0 c1 c2 c3 c4 c5 c6 c7 c8 c9 a8 a6 T U a7 a0 a3
 go_region_held3 (fun X=>X.cell? ⟨e.heap.size,1,MH⟩=MI (MF ME G.cfg.num)/\X.cell? ⟨e.heap.size,2,MH⟩=MI (MF ME G.cfg.den)/\X.cell? ⟨e.heap.size,3,MH⟩=MI (MF ME G.cfg.tries)) (first|exact Z|exact a4|exact a5) (first|(go_at_call 126;refine(Y.out _ (by first|exact(MY _ _).drew|exact Below.refl _ _)).mono ?_;rintro r w4 ⟨z,m,d,rfl,a4,M⟩)|(go_at_call 125;refine(HP.out _ z m d M.out.2 M.out.1).mono ?_;rintro r w5 ⟨rfl,a5,S⟩))
 all_goals
  go_wp2
  go_ret2
  exact⟨rfl,Q.out.trans (S.out.mono Q.out.size)⟩
end
section
variable {base:Nat}{w:MO}{g:Nat}{V:Vs}{G:Gt}
theorem ao8{w':MO}{r:Ending}{G':Gt}(h:aaa base w g V G' r w'):aam base w g V G' r w':=by
 obtain⟨d,a,f,e,c⟩:=h;exact⟨d,a,f,e.2.2,c⟩
theorem aqb(h:OR base w g V G)(hbs:Bs G)(hw:G.wnow=G.now)(hl:G.out.length<=900000)(hkey:0<=key/\key<=4294967295):
  Ni MK 57 #[gP g,MF ME key] w (aam base w g V (aaI G key)):=by
 have J:M6 _:=aoR (MG V.pt G.tab.length V.ct) G.tab w h.rest.tab.now;have d8:=h.Gs;have g5:=h.lt;have d7:∀f∈G.fls,0<=f.be/\f.be<12:=fun f hf=>(hbs.F9 hf).2.2.2
 have H:M6 (_/\_/\_/\_):=⟨h,hbs,hl,d7⟩;obtain⟨O,a⟩:∃O,O=aaI G key:=⟨_,rfl⟩;rw[<-a];have a8:=a;unfold aaI at a;clear h hbs hl d7;cases hfree:G.tab.any Y1
 ·rw[hfree,Nh rfl]at a
  rw[hfree]at J;have HO:M6 _:=a;clear a a8;go_enter Uw,Ul
  go_wp2_with fail
  refine Nd J.out ?_;rintro r w1 ⟨rfl,m⟩;have o:M6 (_/\_):=⟨af1 (H.out.1.below m) (by have:=H.out.2.2.1;omega) 2 9,WV.F5 (V:=V) (g:=g) m⟩;clear m
  go_wp2_with fail
  refine Nd o.out.1 ?_;rintro r w2 ⟨rfl,V2,s,I,F⟩;have p:M6 (_/\_/\_):=⟨s,I.2.2,o.out.2.F0 F⟩;clear s I F;go_wp2
  go_end0
  rw[HO.out];exact⟨rfl,V2,p.out.1,p.out.2.1,p.out.2.2⟩
 ·rw[hfree,Nf (by decide)]at a
  rw[hfree]at J;obtain⟨⟨K,Q⟩,q⟩:∃Q,Q=XD G key G.fls:=⟨_,rfl⟩
  by_cases hc0:Q=0
  ·subst hc0
   rw[<-q]at a;simp only[]at a;rw[Nf (by decide)]at a;have a7:=H.out.2.1.Ib (key:=key) H.out.2.1.Gb (by rw[<-q]);rw[<-q]at a7;have S:0<=K/\K<12:=a7.2;obtain⟨d,B⟩:∃d,d=abv G key K:=⟨_,rfl⟩;obtain⟨i,P⟩:∃i,i=Y3 G.fls (Y8 G.tab key K).2.1.1:=⟨_,rfl⟩;rw[<-B,<-P]at a;have b4:Bs d:=by rw[B];exact H.out.2.1.Jn hfree hkey S
   have b6:i<d.fls.length:=by
    rw[B,P];show Y3 G.fls _<(Xi G.fls _ (Y3 G.fls _)).length;rw[ad1 _ _ (ad4 _ _)];have:=ad4 G.fls (Y8 G.tab key K).2.1.1;omega
   have A:d.cfg=G.cfg/\d.now=G.now/\d.wnow=G.wnow/\d.tok=G.tok/\d.out=G.out:=by rw[B];exact⟨rfl,rfl,rfl,rfl,rfl⟩
   have c:M6 (_/\_/\_/\_/\_/\_/\_/\_):=⟨a,b4,b6,A,S,B,P,hw⟩;have a6:M6 _:=q;clear a a8 b4 A S B P a7 hw q b6;go_enter Uw,Ul
   go_wp2_with fail
   refine Nd J.out ?_;rintro r w1 ⟨rfl,m⟩;have l:=H.out.1.below m;have d2:=l.Gr;have b0:=l.lt;have z:=ahb l H.out.2.1 hkey _ G.fls l.GK H.out.2.2.2 H.out.2.1.Gb;rw[<-a6.out]at z;have o:M6 (_/\_/\_):=⟨z,l,WV.F5 (V:=V) (g:=g) m⟩;clear m l z d8
   go_wp2_with fail
   refine Nd o.out.1 ?_;rintro r w2 ⟨rfl,y⟩;have s:=o.out.2.1.below y;have R:=aql s H.out.2.1 hfree hkey c.out.2.2.2.2.1;rw[<-c.out.2.2.2.2.2.1,<-c.out.2.2.2.2.2.2.1]at R;have p:M6 (_/\_):=⟨R,o.out.2.2.below y⟩;clear y s R d2 b0
   go_wp2_with fail
   refine Nd p.out.1 ?_;rintro r w3 ⟨V3,bf,rfl,M,a0,b3,d1⟩;have e7:w3.cell? ⟨g,7,MH⟩=MI (MF ME G.cfg.conn):=by rw[<-c.out.2.2.2.1.1];exact M.c7
   have e9:=M.lt;have e8:=H.out.2.1.now;have A:=c.out.2.2.2.1;have b8:=af2 M c.out.2.2.1 a0 (n:=G.cfg.conn) H.out.2.1.conn (c.out.2.1.F9 (Nk c.out.2.2.1)).1 (by rw[A.2.2.1,A.2.1];exact c.out.2.2.2.2.2.2.2) (by rw[A.2.1];exact e8);have v:M6 (_/\_/\_/\_):=⟨b8,p.out.2.F0 d1,a0,b3⟩;clear M d1 a0 b3 b8 e8 A
   go_wp2_with fail
   refine Nd v.out.1 ?_;rintro r D ⟨rfl,V4,u,a5,b9⟩;obtain⟨j,L⟩:∃j,j=YW d i G.cfg.conn:=⟨_,rfl⟩;rw[<-L]at u;have x:j.cfg=d.cfg/\j.tok=d.tok/\j.out=d.out/\j.fls.length=d.fls.length:=by rw[L];exact⟨rfl,rfl,rfl,by show(d.fls.set i _).length=_;rw[NA]⟩
   have Z:i<j.fls.length:=by rw[x.2.2.2];exact c.out.2.2.1
   have d4:V4.pf=MI ⟨bf,0,MH⟩:=a5.1.trans v.out.2.2.1;obtain⟨f,U⟩:∃f,f=j.fls[i]:=⟨_,rfl⟩;have fc:∀(X:MO) (V':Vs) (t:Int),OR base X g V' {j with tok:=t}->V'.pf=MI ⟨bf,0,MH⟩->X.cell? ⟨bf,i*7,MH⟩=MI (MF ME f.slot)/\X.cell? ⟨bf,i*7+1,MH⟩=MI (MF ME f.gen)/\X.cell? ⟨bf,i*7+2,MH⟩=MI (MF ME f.key)/\X.cell? ⟨bf,i*7+3,MH⟩=MI (MF ME f.be)/\X.cell? ⟨bf,i*7+4,MH⟩=MI (M3 f.srv)/\X.cell? ⟨bf,i*7+5,MH⟩=MI (MF ME f.ret)/\X.cell? ⟨bf,i*7+6,MH⟩=MI (MF ME f.due):=fun X V' t hX hp=>by
    rw[U];exact hX.Gl hp Z
   have g0:D.cell? ⟨g,10,MH⟩=MI (MF ME G.cfg.bn):=by rw[<-c.out.2.2.2.1.1,<-x.1];exact u.Hf
   have f8:D.cell? ⟨g,11,MH⟩=MI (MF ME G.cfg.bd):=by rw[<-c.out.2.2.2.1.1,<-x.1];exact u.Hn
   have g1:D.cell? ⟨g,12,MH⟩=MI (MF ME G.cfg.bb):=by rw[<-c.out.2.2.2.1.1,<-x.1];exact u.Hg
   have d0:D.cell? ⟨g,23,MH⟩=MI (MF ME G.tok):=by rw[<-c.out.2.2.2.1.2.2.2.1,<-x.2.1];exact u.Id
   have f0:=u.lt;obtain⟨tk,Y⟩:∃tk,tk=(aa9 G.cfg.bn G.cfg.bd G.cfg.bb G.tok).1:=⟨_,rfl⟩;have b2:=v.out.2.1.F0 b9;have HE:M6 (∀X,MQ D.heap.size D X->Ni MK 93 #[Ny #[MF ME G.cfg.bn,MF ME G.cfg.bd,MF ME G.cfg.bb],Ny #[MF ME G.tok]] X fun r E=>∃e,r=MN (Nv #[Ny #[MF ME tk],MF ME e])/\E.cell? ⟨g,23,MH⟩=MI (MF ME G.tok)/\E.frozen? ⟨g,23,MH⟩=Nb/\g<E.heap.size/\M6 (OR base (E.setCell ⟨g,23,MH⟩ (MF ME tk)) g V4 {j with tok:=tk}/\WV V V4 g w (E.setCell ⟨g,23,MH⟩ (MF ME tk)))):=by
    refine fun X hX=>(ajR G.cfg.bn G.cfg.bd G.cfg.bb G.tok X).mono ?_
    rintro r E ⟨rfl,f9⟩;have a4:=hX.trans (f9.mono hX.size);have T:=u.below a4;exact⟨_,by rw[Y],(a4.cell f0).trans d0,T.fz 23,T.lt,T.IC tk,(b2.below a4).F4 23 _⟩
   have C:M6 (_/\_/\_/\_/\_/\_):=⟨fc,d4,a5.2.2.trans v.out.2.2.2,x,L,Y⟩;have g2:M6 (f=Xs j i):=by show f=_;rw[XA Z,U]
   clear u a5 b9 x L fc d4 b2 Y U Z e7 e9
   go_wp2_with fail
   go_region_with (first|(go_at_call 93;refine(HE.out _ (by first|exact(MY _ _).drew|exact Below.refl _ _)).mono ?_;rintro r w5 ⟨ee,rfl,g4,f6,f5,hQ⟩))
   all_goals
    obtain⟨w6,a3⟩:∃w6,w6=w5.setCell ⟨g,23,MH⟩ (MF ME tk):=⟨_,rfl⟩;have N:=hQ.out.1;have a9:=hQ.out.2;rw[<-a3]at N a9;obtain⟨x0,x1,x2,x3,x4,x5,x6⟩:=C.out.1 _ _ _ N C.out.2.1;have d3:({j with tok:=tk}:Gt).out.length<=1000000:=by show j.out.length<=1000000;rw[C.out.2.2.2.1.2.2.1,c.out.2.2.2.1.2.2.2.2];have:=H.out.2.2.1;omega
    have H6:M6 (_/\_):=⟨aeP N d3 1 f,a9⟩;clear hQ N a9 d3 g4 f6 f5 g0 f8 g1 d0;rw[<-a3];clear a3
    go_wp2_with fail
    refine Nd H6.out.1 ?_;rintro r w7 ⟨rfl,V7,d5,b5,b7⟩;have H7:M6 (_/\_/\_):=⟨d5,b5.2.2.trans C.out.2.2.1,H6.out.2.F0 b7⟩;clear d5 b5 b7;go_wp2
    go_end0
    have hz:O=abi {j with tok:=tk} 1 f:=by rw[c.out.1,g2.out,C.out.2.2.2.2.2,C.out.2.2.2.2.1]
    rw[hz];exact⟨rfl,V7,H7.out.1,H7.out.2.1,H7.out.2.2⟩
  ·rw[<-q]at a
   simp only[]at a;rw[Nh hc0]at a;have g3:(Q == 0)=false:=by rw[Oh];exact hc0
   have HO:M6 _:=a;have a6:M6 _:=q;clear a a8 q;go_enter Uw,Ul
   go_wp2_with fail
   refine Nd J.out ?_;rintro r w1 ⟨rfl,m⟩;have l:=H.out.1.below m;have d2:=l.Gr;have b0:=l.lt;have z:=ahb l H.out.2.1 hkey _ G.fls l.GK H.out.2.2.2 H.out.2.1.Gb;rw[<-a6.out,g3]at z;have o:M6 (_/\_/\_):=⟨z,l,WV.F5 (V:=V) (g:=g) m⟩;clear m l z d8
   go_wp2_with fail
   refine Nd o.out.1 ?_;rintro r w2 ⟨rfl,y⟩;have p:M6 (_/\_):=⟨af1 (o.out.2.1.below y) (by have:=H.out.2.2.1;omega) 2 11,o.out.2.2.below y⟩;clear y
   go_wp2_with fail
   refine Nd p.out.1 ?_;rintro r w3 ⟨rfl,V2,s,I,F⟩;have v:M6 (_/\_/\_):=⟨s,I.2.2,p.out.2.F0 F⟩;clear s I F;go_wp2
   go_end0
   rw[HO.out];exact⟨rfl,V2,v.out.1,v.out.2.1,v.out.2.2⟩
end
end Go.Proofs.YtmpokpecfclapaaGreatDoor.Q
