/-
  Contracts of the layers and of core, part 14. Conditions: as each theorem says.
-/
import Derived.Test.YtidlemcdnhbceaaGreatDoorQ13
open Array renaming length_toList->Om
open Bool renaming false->Nb,true->Nw
open Decidable renaming decide->Nn
open Go renaming Addr->Oc,Calls->Ni,Value->M7,World->MO,cell_of_row->MW,heap_alloc_new->M1,info_parts->OF,maxLen->NE,wpList_append_lies->O9
open Go.Addr.mk renaming injEq->Q1
open Go.Builtin renaming append_->N2
open Go.Calls renaming mono->Nd,quiet_of->Qe
open Go.Ending renaming returned->MN
open Go.Extern.SlicesOverlaps renaming overlaps->P9
open Go.IntKind renaming i64->ME,wrap_i64->Ow
open Go.Obj renaming cells->MP
open Go.Proofs.Tryz renaming func122->Vk,func126->azz,func135->UL,func168->SS,func60->azX,func86->WE,ntmps122->Vg,ntmps126->azr,ntmps135->Uz,ntmps168->Sw,ntmps60->azV,ntmps86->Wp,prog->MK,underlying3->Ol,underlying46->U9
open Go.RowKit renaming Below->MQ,Hid->M6
open Go.RowKit.Below renaming heap_setCell->MU,refl->MY
open Go.Value renaming agg->Ny,bool->M3,int->MF,slice->MG,tuple->Nv
open Go.Value.slice renaming injEq->N4
open Go.World renaming block_lt_of_cell?->MX,frozen?->Ng,frozen?_of_block->OM,ownsRow_nil->NY,shape?->QO
open Int renaming eq_ofNat_of_zero_le->NL,toNat_natCast->NR
open List renaming append_nil->OG,countP_append->Qi,drop_append->Qa,drop_eq_nil_of_le->PI,ext_getElem->PX,filter_append->OY,getElem?_drop->Pa,getElem_mem->Nk,getElem_set->Pc,getElem_set_self->NW,length_append->Ns,length_drop->NJ,length_filter_le->O1,length_map->N0,length_set->NA,length_take->NH,length_zip->Qn,map_append->OI,mem_cons->OO,mem_of_getElem?->Nu,not_mem_nil->OD,range->Pm,replicate->Nj,take_append_of_le_length->ZqA,take_left->Qb,take_length->NT,take_succ_eq_append_getElem->M9
open Nat renaming le_refl->MV,le_succ->Ps,le_trans->Nm,lt_of_lt_of_le->M8,lt_or_ge->Oq,min_def->PR,zero_le->Nx
open Option renaming none->MH,some->MI
open Option.some renaming injEq->Qs
open Or renaming inl->Nt,inr->NF
namespace Go.Proofs.YtidlemcdnhbceaaGreatDoor.Q
set_option linter.unusedVariables false
set_option linter.unusedSimpArgs false
set_option maxHeartbeats 16000000
set_option maxRecDepth 100000
open Go.RowKit
attribute [local go_sem ↓] Go.wp_at_zero Go.wp_at_succ
variable {b key:Int}{i k:Nat}
section
variable {base:Nat}{w:MO}{g:Nat}{V:Vs}{G:Gt}
theorem OR.G5(h:OR base w g V G)(hi:i<12):
  ∃m x,V.ms[i]?=MI m/\G.hea[i]?=MI x/\G.hea.getD i XM=x/\w.cell? ⟨V.bh,i*4,MH⟩=MI (MG m.1 x.marks.length m.2)/\w.cell? ⟨V.bh,i*4+1,MH⟩=MI (M3 x.out)/\w.cell? ⟨V.bh,i*4+2,MH⟩=MI (MF ME x.till)/\w.cell? ⟨V.bh,i*4+3,MH⟩=MI (MF ME x.times)/\(∀j,w.frozen? ⟨V.bh,j,MH⟩=Nb)/\V.bh<w.heap.size:=by
 obtain⟨m,x,f,e,n,o⟩:=akN h.rest hi;obtain⟨l,c⟩:=List.getElem?_eq_some_iff.1 n;have d:(12:Nat)=(V.ms.zip G.hea).length:=by rw[Qn,h.rest.msl,h.rest.hel];rfl
 have a:=fun j (hj:j<4)=>abU aci h.rest.hea d l hj
 simp only[c]at a;exact⟨m,x,f,e,o,(a 0 (by omega)).trans rfl,(a 1 (by omega)).trans rfl,(a 2 (by omega)).trans rfl,(a 3 (by omega)).trans rfl,fun j=>h.rest.hea.frozenAt j,(h.rest.hea.lt V.bh rfl).2⟩
theorem OR.G8(h:OR base w g V G):12<=V.ch/\V.ch<=9223372036854775807:=by
 rcases h.rest.hea.2 with⟨a,_⟩|⟨f,j,e,a,_,_,d,c,_⟩
 ·cases a
 ·cases a
  unfold NE at c;exact⟨d,c⟩
theorem aq4(h:OR base w g V G)(hbs:Bs G){l:awV}(hl:l∈G.liv) :
  Ni MK 168 #[gP g,abR l] w fun r w'=>r=MN (MF ME (abV G l))/\MQ w.heap.size w w':=by
 obtain⟨I,p,c,a,q,s⟩:=l;have R:=(hbs.lf hl).1;have B:=hbs.since _ hl;have L:=hbs.now;have n:=hbs.cfg.2.2.2.2.1;obtain⟨⟨f,o⟩,⟨y,z⟩,⟨D,C⟩,_⟩:=R;have f:0<=I:=f;have o:I<=11:=o;obtain⟨k,rfl⟩:=NL f;obtain⟨W,d⟩:∃W,W=w.alloc (YQ ((k:Int),p,c,a,q,s)):=⟨_,rfl⟩;have t:MQ w.heap.size w W:=by rw[d];exact WQ w
 have j:W.heap[w.heap.size]?=MI (YQ ((k:Int),p,c,a,q,s)):=by rw[d];exact M1 _ _
 have e:=h.below t;obtain⟨m,x,_,_,K,_,u,_,_,_,N⟩:=e.G5 (i:=k) (by omega);have S:W.cell? ⟨w.heap.size,0,MH⟩=MI (MF ME (k:Int)):=by rw[MW W _ 0 _ _ (0,0) j];rfl
 have J:W.cell? ⟨w.heap.size,2,MH⟩=MI (MF ME c):=by rw[MW W _ 2 _ _ (0,0) j];rfl
 have E:W.cell? ⟨w.heap.size,3,MH⟩=MI (MF ME a):=by rw[MW W _ 3 _ _ (0,0) j];rfl
 have P:=e.GI;have A:=e.Gm;have c4:=e.c4;have O:=e.lt;have U:=h.G8;have a0:(k:Int)<12:=by omega
 have Y:(0:Int)<=(k:Int):=by omega
 obtain⟨F,M⟩:∃F,F=G.now:=⟨_,rfl⟩;have v:abV G ((k:Int),p,c,a,q,s)=if x.out=Nw then 0 else aw1 c (G.now-a) G.cfg.warm:=by
  unfold abV;simp only[NR];rw[K]
 have T:M6 (∀W':MO,Ni MK 213 #[MF ME c,MF ME a,MF ME G.now,MF ME G.cfg.warm] W' fun r w'=>r=MN (Nv #[MF ME (aw1 c (G.now-a) G.cfg.warm),MF ME 0])/\w'=W'):=fun W' =>
  auu c a G.now G.cfg.warm W' y z ⟨D,C,n.1,n.2⟩ B (by omega)
 have H:M6 (_/\_):=⟨t,v⟩;clear h hbs hl B L n f o y z D C t j e K v M;cases ho:x.out
 ·rw[H.out.2,ho,Nf (by decide)]
  rw[ho]at u;go_enter SS,Sw
  go_wp2_with fail
  rw[<-d];clear d
  go_quiet (fail)
  have z2:(W.drewN nq).cell? ⟨w.heap.size,2,MH⟩=MI (MF ME c):=J;have z3:(W.drewN nq).cell? ⟨w.heap.size,3,MH⟩=MI (MF ME a):=E;have Z:(W.drewN nq).cell? ⟨g,16,MH⟩=MI (MF ME G.now):=A;have z4:(W.drewN nq).cell? ⟨g,4,MH⟩=MI (MF ME G.cfg.warm):=c4;have Q:M6 _:=ZE H.out.1 nq;generalize W.drewN nq=W1 at *;clear S J E A c4 P u O N
  go_wp2_with fail
  go_quiet ((go_at_call 213;exact Qe ((T.out _).mono fun r w' h=>⟨h.1,0,h.2⟩)))
  go_wp2;go_ret;exact⟨rfl,ZE Q.out _⟩
 ·rw[H.out.2,ho,Nh rfl]
  rw[ho]at u;go_enter SS,Sw
  go_wp2_with fail
  rw[<-d];clear d
  go_quiet (fail)
  go_wp2;go_ret;exact⟨rfl,ZE H.out.1 _⟩
end
section
variable {base:Nat}{w:MO}{g:Nat}{V:Vs}{G:Gt}
theorem aoj(L:List awV)(x:awV):abN (L++[x])=abN L+if x.2.1=2 then 1 else 0:=by
 unfold abN;rw[Qi]
 by_cases h:x.2.1=2 <;> simp[h]
theorem aqg(L:List awV)(x:awV)(H:List He):abf (L++[x]) H=abf L H+if x.2.1=2/\(H.getD x.1.toNat XM).out=Nw then 1 else 0:=by
 unfold abf;rw[Qi,List.countP_singleton];generalize H.getD x.1.toNat XM=y
 by_cases h:x.2.1=2
 ·cases h2:y.out <;> simp[h]
 ·have:(x.2.1 == 2)=false:=by rw[Oh];exact h
  simp[h,this]
theorem aoi(L:List awV):abN L<=L.length:=List.countP_le_length
theorem aqf(L:List awV)(H:List He):abf L H<=L.length:=List.countP_le_length
theorem ap5(h:OR base w g V G)(hbs:Bs G)(b:Int) :
  Ni MK 180 #[gP g,MF ME b] w fun r w'=>r=MN (M3 (abS G b))/\MQ w.heap.size w w':=by
 have b3:=hbs.book.1.1;have a9:=h.Gn;have e9:=h.lt;have d8:=h.G8;obtain⟨al,d2,b0,b6,a7,a3⟩:=adt.F6 h.rest.book.now.1;injection b0 with el1 _ el3;unfold NE at a7;rw[el1,el3]at a9;obtain⟨P,Z⟩:∃P,P=abS G b:=⟨_,rfl⟩;rw[<-Z];have H:M6 (_/\_/\_):=⟨h,hbs,a3⟩;have HN:M6 _:=Z;clear h hbs a3 el1 el3 Z;go_enter Tryz.func180,Tryz.ntmps180;go_wp2
 go_loopw [5,6,18] (fun s5 s6 t wr=>∃k:Nat,s5=MF ME (abN (G.liv.take k):Nat)/\s6=MF ME (abf (G.liv.take k) G.hea:Nat)/\t=MF ME k/\k<=G.liv.length/\MQ w.heap.size w wr) (fun _ _ t _=>G.liv.length-(intOf t).toNat)
 case atStart=>exact⟨0,rfl,rfl,rfl,Nx _,MY _ _⟩
 case round =>
  obtain⟨k,rfl,rfl,rfl,hk,a⟩:=hrel
  by_cases hlt:k<G.liv.length
  ·obtain⟨s,v,a8,e,B,D,E,I,C,F⟩:=H.out.2.2 k hlt
   subst a8;have j:=(H.out.2.1.lf (Nk hlt)).1.1;have Q:G.liv.take (k+1)=G.liv.take k++[G.liv[k]]:=M9 hlt;have f:=aoj (G.liv.take k) G.liv[k];have d:=aqg (G.liv.take k) G.liv[k] G.hea;rw[<-Q]at f d;have a5:=aoi (G.liv.take k);have a6:=aqf (G.liv.take k) G.hea;rw[NH]at a5 a6;obtain⟨⟨x1,x2,S,Y,T,U⟩,K⟩:∃x,x=G.liv[k]:=⟨_,rfl⟩;rw[<-K]at B D E I C F j f d;have j:0<=x1/\x1<=11:=j;obtain⟨n,rfl⟩:=NL j.1;have b7:(n:Int)<12:=by omega
   have e8:(0:Int)<=(n:Int):=by omega
   obtain⟨J,R⟩:∃J,J=abN (G.liv.take k):=⟨_,rfl⟩;obtain⟨q,N⟩:∃q,q=abf (G.liv.take k) G.hea:=⟨_,rfl⟩;rw[<-R]at f a5⊢;rw[<-N]at d a6⊢;have b5:IntKind.i64.wrap ((J:Int)+1)=(J:Int)+1:=by rw[Ow];omega
   have b2:IntKind.i64.wrap ((q:Int)+1)=(q:Int)+1:=by rw[Ow];omega
   have e0:=(a.cell (p:=⟨s,v+k*6,MH⟩) e).trans B;have e1:=(a.cell (p:=⟨s,v+k*6+1,MH⟩) e).trans D;have e2:=(a.cell (p:=⟨s,v+k*6+2,MH⟩) e).trans E;have e3:=(a.cell (p:=⟨s,v+k*6+3,MH⟩) e).trans I;have e4:=(a.cell (p:=⟨s,v+k*6+4,MH⟩) e).trans C;have e5:=(a.cell (p:=⟨s,v+k*6+5,MH⟩) e).trans F;have d0:s<wr.heap.size:=M8 e a.size;have d7:(k:Int)<(G.liv.length:Int):=by omega
   by_cases h2:x2=2
   ·subst h2
    obtain⟨l,u⟩:∃l,l=wr.alloc (YQ ((n:Int),2,S,Y,T,U)):=⟨_,rfl⟩;have y:MQ wr.heap.size wr l:=by rw[u];exact WQ wr
    have M:l.heap[wr.heap.size]?=MI (YQ ((n:Int),2,S,Y,T,U)):=by rw[u];exact M1 _ _
    have z:=(H.out.1.below a).below y;obtain⟨m,x,_,_,f4,_,q1,_,_,_,d5⟩:=z.G5 (i:=n) (by omega);have y0:l.cell? ⟨wr.heap.size,0,MH⟩=MI (MF ME (n:Int)):=by rw[MW l _ 0 _ _ (0,0) M];rfl
    have d4:=z.GI;have b4:=z.lt;have d1:wr.heap.size<l.heap.size:=(Array.getElem?_eq_some_iff.1 M).1;have a0:(G.hea.getD ((n:Int),(2:Int),S,Y,T,U).1.toNat XM).out=x.out:=by rw[<-f4];rfl
    rw[a0]at d;cases ho:x.out
    ·rw[ho]at q1
     have c:M6 (_/\_/\_):=⟨f,(by rw[d,ho,Nf (by simp)];rfl:abf (G.liv.take (k+1)) G.hea=q),a.trans (y.mono a.size)⟩;clear a y M z f4 a0 f d Q K B D E I C F j R N e
     go_wp2_with fail
     rw[<-u];clear u
     go_quiet (fail)
     go_wp2
     go_roundw
     case rel=>exact⟨k+1,by rw[c.out.1];rfl,by rw[c.out.2.1],by simp,hlt,ZE c.out.2.2 _⟩
     case measure=>simp[intOf];omega
    ·rw[ho]at q1
     have c:M6 (_/\_/\_):=⟨f,(by rw[d,ho,Nh ⟨rfl,rfl⟩]:abf (G.liv.take (k+1)) G.hea=q+1),a.trans (y.mono a.size)⟩;clear a y M z f4 a0 f d Q K B D E I C F j R N e
     go_wp2_with fail
     rw[<-u];clear u
     go_quiet (fail)
     go_wp2
     go_roundw
     case rel=>exact⟨k+1,by rw[c.out.1];rfl,by rw[c.out.2.1];rfl,by simp,hlt,ZE c.out.2.2 _⟩
     case measure=>simp[intOf];omega
   ·have f0:(x2 != 2)=true:=by simpa using h2
    have c:M6 (_/\_/\_):=⟨(by rw[f,Nf h2];rfl:abN (G.liv.take (k+1))=J),(by rw[d,Nf (fun h=>h2 h.1)];rfl:abf (G.liv.take (k+1)) G.hea=q),a.trans ((WQ wr (o:=YQ ((n:Int),x2,S,Y,T,U))).mono a.size)⟩;clear a f d Q K B D E I C F j R N e;go_wp2
    go_roundw
    case rel=>exact⟨k+1,by rw[c.out.1],by rw[c.out.2.1],by simp,hlt,c.out.2.2⟩
    case measure=>simp[intOf];omega
  ·obtain rfl:k=G.liv.length:=by omega
   rw[NT];have b8:¬((G.liv.length:Int)<(G.liv.length:Int)):=by omega
   obtain⟨O,hO⟩:∃O,O=acP (abf G.liv G.hea:Int) (abN G.liv:Int) G.cfg.most:=⟨_,rfl⟩;have HA:M6 (∀X:MO,Ni MK 222 #[MF ME (abf G.liv G.hea:Int),MF ME (abN G.liv:Int),MF ME G.cfg.most] X fun r w'=>r=MN (Nv #[M3 O.1,MF ME O.2])/\w'=X):=by
    rw[hO];exact fun X=>arw _ _ _ X
   have L:=H.out.1.below a;have d9:=L.c9;have b9:=L.lt;obtain⟨x,hx⟩:∃x,x=WS G.liv b:=⟨_,rfl⟩;have A:M6 (_/\_):=⟨afR L b,a⟩;rw[<-hx]at A;have HE:M6 (P=(O.1 && (x.2.1 == 2))):=by show P=_;rw[HN.out];unfold abS;rw[<-hO,hx]
   clear L hO hx;have d3:∀X:MO,(Instr.field 150 (abR x) 1).run MK X=.ok (MF ME x.2.1) X:=fun X=>by kernel_rfl
   cases hO1:O.1
   ·go_wp2_with fail
    refine(HA.out _).mono ?_;rw[hO1];rintro r w3 ⟨rfl,rfl⟩;go_wp2;go_ret;exact⟨by rw[HE.out,hO1];rfl,A.out.2⟩
   ·go_wp2_with fail
    refine(HA.out _).mono ?_;rw[hO1];rintro r w3 ⟨rfl,rfl⟩
    go_wp2_with fail
    refine Nd A.out.1 ?_;rintro r w4 ⟨rfl,a4⟩;have HB:M6 _:=A.out.2.trans (a4.mono A.out.2.size);clear a4;go_wp2;go_ret;exact⟨by rw[HE.out,hO1];rfl,HB.out⟩
abbrev abQ(p:Option Oc)(c:Nat)(x:He):Value:=Ny #[MG p x.marks.length c,M3 x.out,MF ME x.till,MF ME x.times]
theorem OR.Hz(h:OR base w g V G){w':MO}(hb:MQ w.heap.size w w')(i:Nat)(a b c d:M7)(ms:List Mk) :
  WV V {V with ms:=ms} g w ((((w'.setCell ⟨V.bh,i*4,MH⟩ a).setCell ⟨V.bh,i*4+1,MH⟩ b).setCell ⟨V.bh,i*4+2,MH⟩ c).setCell ⟨V.bh,i*4+3,MH⟩ d):=by
 refine⟨hb.os,hb.tape,hb.output,by simpa using hb.size,fun k hk hn=>?_,fun _ h=>Nt h⟩;have f:k≠V.bh:=fun e=>hn (NF (Nt e))
 rw[MU _ _ _ _ f,MU _ _ _ _ f,MU _ _ _ _ f,MU _ _ _ _ f];exact hb.block k hk
theorem akO(h:OR base w g V G)(hbs:Bs G)(hb:0<=b/\b<12)(fl:Bool):
  Ni MK 133 #[gP g,MF ME b,M3 fl] w (aaa base w g V (Yh G b fl)):=by
 obtain⟨k,rfl⟩:=NL hb.1;have I:k<12:=by omega
 obtain⟨m,x,K,v,J,q0,q1,T,Y,M,n⟩:=h.G5 I;have D:=h.rest.marks k m x K v;have E:=hbs.hea x (Nu v);have Q:x.marks.length<=16:=by have:=E.1;have:=hbs.Gx.1.2;omega
 obtain⟨y,A⟩:∃y,y=afT G (k:Int) fl:=⟨_,rfl⟩;have s:y=afO (Zt G.cfg.wn G.cfg.wf G.cfg.wh x.marks x.out x.till x.times fl G.now (abS G k)).1:=by
  rw[A];unfold afT;rw[NR,J]
 have B:Yh G (k:Int) fl={G with hea:=G.hea.set k y}:=by unfold Yh;rw[NR,A]
 rw[B];have a9:=h.GI;have b9:=h.lt;have b2:=h.G8;have b6:¬g=V.bh:=fun e=>h.rest.hg e.symm
 have a0:¬V.bh=g:=h.rest.hg;have b0:(k:Int)<12:=by omega
 have b7:(0:Int)<=(k:Int):=by omega
 have d0:=h.GS;have b5:=h.GU;have d2:=h.GO;have a4:=h.Gm;have q:∀ {X:MO},OR base X g V G->X.cell? ⟨g,13,MH⟩=MI (MF ME G.cfg.wn)/\X.cell? ⟨g,14,MH⟩=MI (MF ME G.cfg.wf)/\X.cell? ⟨g,15,MH⟩=MI (MF ME G.cfg.wh)/\X.cell? ⟨g,16,MH⟩=MI (MF ME G.now):=fun {X} hX=>⟨hX.GS,hX.GU,hX.GO,hX.Gm⟩
 have u:∀ {X:MO},MQ w.heap.size w X->X.cell? ⟨V.bh,k*4,MH⟩=MI (MG m.1 x.marks.length m.2)/\X.cell? ⟨V.bh,k*4+1,MH⟩=MI (M3 x.out)/\X.cell? ⟨V.bh,k*4+2,MH⟩=MI (MF ME x.till)/\X.cell? ⟨V.bh,k*4+3,MH⟩=MI (MF ME x.times)/\(∀j,X.frozen? ⟨V.bh,j,MH⟩=Nb)/\V.bh<X.heap.size:=fun {X} hX =>
  ⟨(hX.cell n).trans q0,(hX.cell n).trans q1,(hX.cell n).trans T,(hX.cell n).trans Y,fun j=>(OM (a:=⟨V.bh,j,MH⟩) (hX.block V.bh n)).trans (M j),M8 n hX.size⟩
 have U:M6 (∀X,MQ w.heap.size w X->Ni MK 180 #[gP g,MF ME (k:Int)] X fun r d=>r=MN (M3 (abS G k))/\(d.cell? ⟨g,13,MH⟩=MI (MF ME G.cfg.wn)/\d.cell? ⟨g,14,MH⟩=MI (MF ME G.cfg.wf)/\d.cell? ⟨g,15,MH⟩=MI (MF ME G.cfg.wh)/\d.cell? ⟨g,16,MH⟩=MI (MF ME G.now))/\(d.cell? ⟨V.bh,k*4,MH⟩=MI (MG m.1 x.marks.length m.2)/\d.cell? ⟨V.bh,k*4+1,MH⟩=MI (M3 x.out)/\d.cell? ⟨V.bh,k*4+2,MH⟩=MI (MF ME x.till)/\d.cell? ⟨V.bh,k*4+3,MH⟩=MI (MF ME x.times))/\M6 (MQ w.heap.size w d)):=by
  refine fun X hX=>(ap5 (h.below hX) hbs (k:Int)).mono ?_
  rintro r d ⟨rfl,t⟩;have l:=hX.trans (t.mono hX.size);have f:=u l;exact⟨rfl,q (h.below l),⟨f.1,f.2.1,f.2.2.1,f.2.2.2.1⟩,l⟩
 have HN:M6 (∀X,MQ w.heap.size w X->Ni MK 179 #[Ny #[MF ME G.cfg.wn,MF ME G.cfg.wf,MF ME G.cfg.wh],abQ m.1 m.2 x,M3 fl,MF ME G.now,M3 (abS G k)] X fun r d=>∃p c L H,r=MN (Nv #[abQ p c y,M3 L,MF ME H])/\(d.cell? ⟨g,13,MH⟩=MI (MF ME G.cfg.wn)/\d.cell? ⟨g,14,MH⟩=MI (MF ME G.cfg.wf)/\d.cell? ⟨g,15,MH⟩=MI (MF ME G.cfg.wh)/\d.cell? ⟨g,16,MH⟩=MI (MF ME G.now)) /\
   (((((d.setCell ⟨V.bh,k*4,MH⟩ (MG p y.marks.length c)).setCell ⟨V.bh,k*4+1,MH⟩ (M3 y.out)).setCell ⟨V.bh,k*4+2,MH⟩ (MF ME y.till)).setCell ⟨V.bh,k*4+3,MH⟩ (MF ME y.times)).cell? ⟨g,13,MH⟩=MI (MF ME G.cfg.wn)/\((((d.setCell ⟨V.bh,k*4,MH⟩ (MG p y.marks.length c)).setCell ⟨V.bh,k*4+1,MH⟩ (M3 y.out)).setCell ⟨V.bh,k*4+2,MH⟩ (MF ME y.till)).setCell ⟨V.bh,k*4+3,MH⟩ (MF ME y.times)).cell? ⟨g,14,MH⟩=MI (MF ME G.cfg.wf)/\((((d.setCell ⟨V.bh,k*4,MH⟩ (MG p y.marks.length c)).setCell ⟨V.bh,k*4+1,MH⟩ (M3 y.out)).setCell ⟨V.bh,k*4+2,MH⟩ (MF ME y.till)).setCell ⟨V.bh,k*4+3,MH⟩ (MF ME y.times)).cell? ⟨g,15,MH⟩=MI (MF ME G.cfg.wh)/\((((d.setCell ⟨V.bh,k*4,MH⟩ (MG p y.marks.length c)).setCell ⟨V.bh,k*4+1,MH⟩ (M3 y.out)).setCell ⟨V.bh,k*4+2,MH⟩ (MF ME y.till)).setCell ⟨V.bh,k*4+3,MH⟩ (MF ME y.times)).cell? ⟨g,16,MH⟩=MI (MF ME G.now)) /\
   (d.cell? ⟨V.bh,k*4,MH⟩=MI (MG m.1 x.marks.length m.2)/\d.cell? ⟨V.bh,k*4+1,MH⟩=MI (M3 x.out)/\d.cell? ⟨V.bh,k*4+2,MH⟩=MI (MF ME x.till)/\d.cell? ⟨V.bh,k*4+3,MH⟩=MI (MF ME x.times)/\d.frozen? ⟨V.bh,k*4,MH⟩=Nb/\d.frozen? ⟨V.bh,k*4+1,MH⟩=Nb/\d.frozen? ⟨V.bh,k*4+2,MH⟩=Nb/\d.frozen? ⟨V.bh,k*4+3,MH⟩=Nb/\V.bh<d.heap.size) /\
   M6 (OR base ((((d.setCell ⟨V.bh,k*4,MH⟩ (MG p y.marks.length c)).setCell ⟨V.bh,k*4+1,MH⟩ (M3 y.out)).setCell ⟨V.bh,k*4+2,MH⟩ (MF ME y.till)).setCell ⟨V.bh,k*4+3,MH⟩ (MF ME y.times)) g {V with ms:=V.ms.set k (p,c)} {G with hea:=G.hea.set k y}/\WV V {V with ms:=V.ms.set k (p,c)} g w ((((d.setCell ⟨V.bh,k*4,MH⟩ (MG p y.marks.length c)).setCell ⟨V.bh,k*4+1,MH⟩ (M3 y.out)).setCell ⟨V.bh,k*4+2,MH⟩ (MF ME y.till)).setCell ⟨V.bh,k*4+3,MH⟩ (MF ME y.times)))):=by
  refine fun X hX=>(arI G.cfg.wn G.cfg.wf G.cfg.wh (MG m.1 x.marks.length m.2) x.marks x.out x.till x.times fl G.now (abS G k) X (D.below hX).now (by omega)).mono ?_
  rintro r d ⟨p,c,rfl,O,N,t⟩;have l:=hX.trans (t.mono hX.size);have f:=u l;have C:=h.below l;have S:XG (V.off base g) d fun Z=>Yo Z (MG p y.marks.length c) y.marks:=by
   rw[s];exact abt O (fun z e=>h.rest.GF (Nm hX.size (N z (by rw[XV];exact e))))
  have o:=C.Ir I S;refine⟨p,c,(Zt G.cfg.wn G.cfg.wf G.cfg.wh x.marks x.out x.till x.times fl G.now (abS G k)).2.1,(Zt G.cfg.wn G.cfg.wf G.cfg.wh x.marks x.out x.till x.times fl G.now (abS G k)).2.2,by rw[s];rfl,q C,⟨o.GS,o.GU,o.GO,o.Gm⟩,⟨f.1,f.2.1,f.2.2.1,f.2.2.2.1,f.2.2.2.2.1 _,f.2.2.2.2.1 _,f.2.2.2.2.1 _,f.2.2.2.2.1 _,f.2.2.2.2.2⟩,o,h.Hz l k _ _ _ _ _⟩
 have R:=q h;clear h hbs D E Q A s B K v J q u M hb;go_enter Tryz.func133,Tryz.ntmps133
 go_wp2_with fail
 obtain⟨a6,b8,a8,b3⟩:=R
 go_region_with (first|(go_at_call 180;refine(U.out _ (by first|exact(MY _ _).drew|exact Below.refl _ _)).mono ?_;rintro r w4 ⟨rfl,⟨a3,b4,a5,d1⟩,⟨t0,t1,t2,t3⟩,P⟩)|(go_at_call 179;refine(HN.out _ P.out).mono ?_;rintro r w5 ⟨p,c,L,H,rfl,_,_,⟨u0,u1,u2,u3,v0,v1,v2,v3,a7⟩,F⟩))
 all_goals
  go_wp2
  go_end0
  exact⟨rfl,_,F.out.1,⟨rfl,rfl,rfl⟩,F.out.2⟩
end
section
variable {base:Nat}{w:MO}{g:Nat}{V:Vs}{G:Gt}
abbrev adU(X:MO)(bf i:Nat)(f:Fl):Prop:=X.cell? ⟨bf,i*7,MH⟩=MI (MF ME f.slot)/\X.cell? ⟨bf,i*7+1,MH⟩=MI (MF ME f.gen)/\X.cell? ⟨bf,i*7+2,MH⟩=MI (MF ME f.key)/\X.cell? ⟨bf,i*7+3,MH⟩=MI (MF ME f.be)/\X.cell? ⟨bf,i*7+4,MH⟩=MI (M3 f.srv)/\X.cell? ⟨bf,i*7+5,MH⟩=MI (MF ME f.ret)/\X.cell? ⟨bf,i*7+6,MH⟩=MI (MF ME f.due)
theorem OR.Gw(h:OR base w g V G){bf:Nat}(hp:V.pf=MI ⟨bf,0,MH⟩)(hi:i<G.fls.length):adU w bf i (Xs G i):=by
 rw[XA hi];exact h.Gl hp hi
theorem akq{G1 G2:Gt}{y:Fl}(h:G2=Y4 G1 i y)(hi:i<G1.fls.length):∃hi2:i<G2.fls.length,G2.fls[i]=y:=by
 subst h;exact⟨by show i<(G1.fls.set i y).length;rw[NA];exact hi,NW (h:=by rw[NA];exact hi)⟩
theorem akp{G1 G:Gt}{f:Fl}(h:G1.fls=G.fls)(hi:i<G.fls.length)(hf:f=Xs G i):∃hi1:i<G1.fls.length,G1.fls[i]=f:=by
 have hi1:i<G1.fls.length:=by rw[h];exact hi
 refine⟨hi1,?_⟩;rw[<-XA hi1,hf];unfold Xs;rw[h]
theorem ahP(i:Nat)(n:Int):(YW G i n).fls.length=G.fls.length:=by
 show(G.fls.set i _).length=_;rw[NA]
theorem ao4(h:OR base w g V G)(hbs:Bs G)(hw:G.wnow=G.now)(hl:G.out.length<=900000)(hi:i<G.fls.length){bf:Nat}(hp:V.pf=MI ⟨bf,0,MH⟩):
  Ni MK 94 #[gP g,fP bf i] w (aam base w g V (aaZ G i)):=by
 obtain⟨O,a⟩:∃O,O=aaZ G i:=⟨_,rfl⟩;rw[<-a];unfold aaZ at a;obtain⟨f,p⟩:∃f,f=Xs G i:=⟨_,rfl⟩;have E:=h.Gw hp hi;rw[<-p]at a E;have t:0<=G.fls[i].slot/\G.fls[i].slot<40:=(hbs.F9 (Nk hi)).1;obtain⟨N,P,I,M,v,J,L⟩:=E;have Q:=h.lt;cases hsv:f.srv
 ·rw[hsv,Nf (by decide)]at a
  simp only[]at a;rw[<-p]at a;have H:M6 (_/\_):=⟨aeP h (by omega) 3 f,a⟩;rw[hsv]at v;clear h hbs a p hw hl t;go_enter Tryz.func94,Tryz.ntmps94
  go_wp2_with fail
  have F:ZS f=Ny #[MF ME f.slot,MF ME f.gen,MF ME f.key,MF ME f.be,M3 Nb,MF ME f.ret,MF ME f.due]:=by rw[<-hsv]
  have C:=H.out.1;rw[F]at C;refine Nd C ?_;rintro r K ⟨rfl,u,j,l,e⟩;have d:M6 (_/\_/\_):=⟨j,l.2.2,e⟩;clear j l e;go_wp2
  go_end0
  rw[H.out.2];exact⟨rfl,u,d.out.1,d.out.2.1,d.out.2.2⟩
 ·rw[hsv,Nh rfl]at a
  simp only[]at a;have c6:=h.c6;rw[hsv]at v;obtain⟨m,c⟩:∃m,m=YW G i G.cfg.idle:=⟨_,rfl⟩;have x:=af2 h hi hp (n:=G.cfg.idle) hbs.idle t hw hbs.now;rw[<-c]at a x;have B:i<m.fls.length:=by rw[c,ahP];exact hi
  have A:m.out.length<=1000000:=by rw[c];show G.out.length<=1000000;omega
  have H:M6 (_/\_/\_/\_/\_):=⟨x,a,B,A,hp⟩;clear h hbs a p hw hl t x c B A hp hi;go_enter Tryz.func94,Tryz.ntmps94
  go_wp2_with fail
  refine Nd H.out.1 ?_;rintro r w1 ⟨rfl,R,c,q,z⟩;obtain⟨y,s⟩:∃y,y=Xs m i:=⟨_,rfl⟩;have D:=c.Gw (q.1.trans H.out.2.2.2.2) H.out.2.2.1;rw[<-s]at D;obtain⟨Z,U,S,x3,x4,T,Y⟩:=D;have o:M6 (_/\_/\_/\_):=⟨aeP c H.out.2.2.2.1 3 y,q.2.2,z,s⟩;clear c q z s N P I M v J L c6
  go_wp2_with fail
  refine Nd o.out.1 ?_;rintro r K ⟨rfl,u,j,l,e⟩;have d:M6 (_/\_/\_):=⟨j,l.2.2.trans o.out.2.1,o.out.2.2.1.F0 e⟩;clear j l e;go_wp2
  go_end0
  rw[H.out.2.1,<-o.out.2.2.2];exact⟨rfl,u,d.out.1,d.out.2.1,d.out.2.2⟩
theorem aqy(h:OR base w g V G)(hbs:Bs G)(hw:G.wnow=G.now)(hl:G.out.length<=900000)(hi:i<G.fls.length){bf:Nat}(hp:V.pf=MI ⟨bf,0,MH⟩):
  Ni MK 95 #[gP g,fP bf i] w (aam base w g V (abh G i)):=by
 obtain⟨O,o⟩:∃O,O=abh G i:=⟨_,rfl⟩;rw[<-o];unfold abh at o;simp only[]at o;obtain⟨f,K⟩:∃f,f=Xs G i:=⟨_,rfl⟩;have R:f∈G.fls:=by rw[K,XA hi];exact Nk hi
 have C:=hbs.F9 R;obtain⟨q0,q1,q2,q3,q4,q5,q6⟩:=h.Gw hp hi;rw[<-K]at o q0 q1 q2 q3 q4 q5 q6;have b9:=h.lt;obtain⟨m,a⟩:∃m,m=Yh G f.be false:=⟨_,rfl⟩;have Y:=akO h hbs C.2.2.2 Nb;have L:=hbs.GA C.2.2.2 Nb;rw[<-a]at o Y L;have b0:m.fls=G.fls/\m.cfg=G.cfg/\m.now=G.now/\m.wnow=G.wnow/\m.out=G.out:=by rw[a];exact⟨rfl,rfl,rfl,rfl,rfl⟩
 have H:M6 (_/\_/\_/\_/\_/\_/\_/\_):=⟨Y,o,L,b0,hp,hi,K,R⟩;have v:M6 (_/\_/\_/\_):=⟨hbs,hw,hl,C⟩;clear h hbs o K hw hl C Y a b0 L hp hi R;go_enter Tryz.func95,Tryz.ntmps95
 go_wp2_with fail
 refine Nd H.out.1 ?_;rintro r q ⟨rfl,F,a,M,a4⟩;have d:F.pf=MI ⟨bf,0,MH⟩:=M.1.trans H.out.2.2.2.2.1;obtain⟨D,Q⟩:=akp H.out.2.2.2.1.1 H.out.2.2.2.2.2.1 H.out.2.2.2.2.2.2.1;obtain⟨y,I⟩:∃y:Fl,y={f with srv:=Nw}:=⟨_,rfl⟩;obtain⟨u0,u1,u2,u3,u4,u5,u6⟩:=a.Gl d D;rw[Q]at u4;have b5:=a.Hv d (i*7+4);have S:=a.Hd d D (j:=4) (by omega) (M3 Nw) y (by rw[Q,I];rfl);obtain⟨z,E⟩:∃z,z=q.setCell ⟨bf,i*7+4,MH⟩ (M3 Nw):=⟨_,rfl⟩;rw[<-E]at S;have Z:WV F F g q z:=by
  rw[E];exact⟨rfl,rfl,rfl,by simp,fun b _ hn=>MU q ⟨bf,i*7+4,MH⟩ _ b fun e=>hn (NF (NF (Nt (by rw[d,e];rfl)))),fun _ h=>Nt h⟩
 obtain⟨c,u⟩:∃c,c=Y4 m i y:=⟨_,rfl⟩;have A:OR base z g F c:=by rw[u];exact S
 obtain⟨P,a8⟩:=akq u D;have p:c.cfg=G.cfg/\c.now=G.now/\c.wnow=G.wnow/\c.out=G.out:=by rw[u];exact⟨H.out.2.2.2.1.2.1,H.out.2.2.2.1.2.2.1,H.out.2.2.2.1.2.2.2.1,H.out.2.2.2.1.2.2.2.2⟩
 have b2:0<=c.fls[i].slot/\c.fls[i].slot<40:=by rw[a8,I];exact v.out.2.2.2.1
 have e6:z.cell? ⟨g,6,MH⟩=MI (MF ME G.cfg.idle):=by rw[<-p.1];exact A.c6
 have b7:=A.lt;have HW:=af2 A P d (n:=G.cfg.idle) v.out.1.idle b2 (by rw[p.2.2.1,p.2.1];exact v.out.2.1) (by rw[p.2.1];exact v.out.1.now);have b4:=a.lt;have d6:q.cell? ⟨g,6,MH⟩=MI (MF ME G.cfg.idle):=by rw[<-H.out.2.2.2.1.2.1];exact a.c6
 have b3:bf<q.heap.size:=MX q ⟨bf,i*7,MH⟩ u0;have b6:¬bf=g:=fun e=>a.rest.fg (by rw[d,e];rfl)
 have b8:¬g=bf:=fun e=>b6 e.symm
 have l:M6 (_/\_/\_/\_/\_/\_/\_/\_):=⟨HW,a4.F0 Z,d,P,u,p,M.2.2,I⟩;clear a M a4 Z S A D P d Q I u a8 p b2 HW q0 q1 q2 q3 q4 q5 q6 u0 u1 u2 u3 u5 u6
 go_wp2_with fail
 rw[<-E];clear E u4 b5 d6 b3 b4;refine Nd l.out.1 ?_;rintro r w3 ⟨rfl,V3,B,T,a5⟩;obtain⟨s,t⟩:∃s,s=YW c i G.cfg.idle:=⟨_,rfl⟩;rw[<-t]at B;have a9:i<s.fls.length:=by rw[t,ahP];exact l.out.2.2.2.1
 obtain⟨J,N⟩:∃J,J=Xs s i:=⟨_,rfl⟩;have hx:=B.Gw (T.1.trans l.out.2.2.1) a9;rw[<-N]at hx;obtain⟨x0,x1,x2,x3,x4,x5,x6⟩:=hx;have a3:s.out.length<=1000000:=by rw[t];show c.out.length<=1000000;rw[l.out.2.2.2.2.2.1.2.2.2];have:=v.out.2.2.1;omega
 have x:M6 (_/\_/\_/\_/\_):=⟨aeP B a3 4 J,T.2.2.trans l.out.2.2.2.2.2.2.1,l.out.2.1.F0 a5,N,t⟩;clear B T a5 N t a3 a9 e6
 go_wp2_with fail
 refine Nd x.out.1 ?_;rintro r w7 ⟨rfl,V7,a7,a0,a6⟩;have U:M6 (_/\_/\_):=⟨a7,a0.2.2.trans x.out.2.1,x.out.2.2.1.F0 a6⟩;clear a7 a0 a6;go_wp2
 go_end0
 have hz:O=abi s 4 J:=by rw[H.out.2.1,x.out.2.2.2.1,x.out.2.2.2.2,l.out.2.2.2.2.1,l.out.2.2.2.2.2.2.2]
 rw[hz];exact⟨rfl,V7,U.out.1,U.out.2.1,U.out.2.2⟩
end
section
variable {base:Nat}{w:MO}{g:Nat}{V:Vs}{G:Gt}
theorem akt{w1:MO}{bf:Nat}{v:M7}(hp:V.pf=MI ⟨bf,0,MH⟩)(h:w1=w.setCell ⟨bf,k,MH⟩ v):WV V V g w w1:=by
 subst h;exact⟨rfl,rfl,rfl,by simp,fun b _ hn=>MU w ⟨bf,k,MH⟩ _ b fun e=>hn (NF (NF (Nt (by rw[hp,e];rfl)))),fun _ h=>Nt h⟩
theorem OR.Ji(h:OR base w g V G){bf:Nat}(hp:V.pf=MI ⟨bf,0,MH⟩)(hi:i<G.fls.length){f:Fl}(hf:f=Xs G i)(b n:Int):
  OR base ((w.setCell ⟨bf,i*7+3,MH⟩ (MF ME b)).setCell ⟨bf,i*7+5,MH⟩ (MF ME n)) g V (Y4 G i {f with be:=b,ret:=n}) /\
  WV V V g w ((w.setCell ⟨bf,i*7+3,MH⟩ (MF ME b)).setCell ⟨bf,i*7+5,MH⟩ (MF ME n)):=by
 rw[XA hi]at hf;have l:=h.Hd hp hi (j:=3) (by omega) (MF ME b) {f with be:=b} (by rw[hf];rfl);have a:i<(G.fls.set i {f with be:=b}).length:=by rw[NA];exact hi
 have e:(G.fls.set i {f with be:=b})[i]={f with be:=b}:=NW (h:=a);have d:=l.Hd hp (i:=i) a (j:=5) (by omega) (MF ME n) {f with be:=b,ret:=n} (by show _=(WX ((G.fls.set i {f with be:=b})[i])).set 5 _;rw[e];rfl);have c:(G.fls.set i {f with be:=b}).set i {f with be:=b,ret:=n}=G.fls.set i {f with be:=b,ret:=n}:=List.set_set _;refine⟨?_,(akt hp rfl).F0 (akt hp rfl)⟩;unfold Y4;rw[<-c];exact d
theorem aqq(h:OR base w g V G)(hbs:Bs G)(hw:G.wnow=G.now)(hl:G.out.length<=900000)(hi:i<G.fls.length){bf:Nat}(hp:V.pf=MI ⟨bf,0,MH⟩)(hb:0<=b/\b<12)(hr:0<=(Xs G i).ret/\(Xs G i).ret+1<=20):
  Ni MK 135 #[gP g,fP bf i,MF ME b] w (aam base w g V (ZL G i b)):=by
 obtain⟨O,s⟩:∃O,O=ZL G i b:=⟨_,rfl⟩;rw[<-s];unfold ZL at s;simp only[]at s;obtain⟨f,F⟩:∃f,f=Xs G i:=⟨_,rfl⟩;have M:f∈G.fls:=by rw[F,XA hi];exact Nk hi
 have Z:=hbs.F9 M;obtain⟨Y,q1,q2,q3,q4,q5,q6⟩:=h.Gw hp hi;rw[<-F]at s hr Y q1 q2 q3 q4 q5 q6;have d5:=h.lt;have d3:bf<w.heap.size:=MX w ⟨bf,i*7,MH⟩ Y;have d7:¬bf=g:=fun e=>h.rest.fg (by rw[hp,e];rfl)
 have d8:¬g=bf:=fun e=>d7 e.symm
 obtain⟨m,T⟩:∃m,m=(Y0 G.tab f.slot f.gen b).1:=⟨_,rfl⟩;rw[<-T]at s;have b2:(Y0 G.tab f.slot f.gen b).2=0:=by rw[hbs.Ho M hb]
 have d2:=h.Gs;have HD:M6 (∀W',MQ w.heap.size w W'->Ni MK 181 #[Ny #[MG V.pt G.tab.length V.ct],Ny #[MF ME f.slot,MF ME f.gen],MF ME b] W' fun r q=>∃p c,r=MN (Nv #[Ny #[MG p m.length c],MF ME 0])/\q.cell? ⟨g,17,MH⟩=MI (MG V.pt G.tab.length V.ct)/\q.frozen? ⟨g,17,MH⟩=Nb/\g<q.heap.size /\
   M6 (OR base (q.setCell ⟨g,17,MH⟩ (MG p m.length c)) g {V with pt:=p,ct:=c} {G with tab:=m}/\WV V {V with pt:=p,ct:=c} g w (q.setCell ⟨g,17,MH⟩ (MG p m.length c)))):=by
  refine fun W' hW'=>(auR (MG V.pt G.tab.length V.ct) G.tab f.slot f.gen b W' (h.rest.tab.now.below hW')).mono ?_
  rw[<-T,b2];rintro r q ⟨p,c,rfl,ho,hb⟩;have R:MQ w.heap.size w q:=hW'.trans (hb.mono hW'.size);have l:=h.below R;exact⟨p,c,rfl,l.Gs,l.fz 17,l.lt,h.Ix R (ho.mono hW'.size),((WV.F5 (V:=V) (g:=g) R).F4 17 _).Gp fun _ h=>h⟩
 have d0:IntKind.i64.wrap (f.ret+1)=f.ret+1:=by rw[Ow];omega
 have H:M6 (_/\_/\_/\_):=⟨s,hp,hi,F⟩;have B:M6 (_/\_/\_/\_):=⟨hbs,hw,hl,Z⟩;clear h hbs s F hw hl Z hp hi M T b2 hr hb;go_enter UL,Uz
 go_wp2_with fail
 go_region_with (first|(go_at_call 181;refine(HD.out _ (by first|exact(MY _ _).drew|exact Below.refl _ _)).mono ?_;rintro r w3 ⟨p,c,rfl,d1,d4,b8,l⟩))
 all_goals
  obtain⟨v,L⟩:∃v,v=w3.setCell ⟨g,17,MH⟩ (MG p m.length c):=⟨_,rfl⟩;have d:=l.out.1;have N:=l.out.2;rw[<-L]at d N;rw[<-L];clear L l d1 d4 b8 d2 Y q1 q2 q3 q4 q5 q6 d5 d3;have o:Vs.pf {V with pt:=p,ct:=c}=MI ⟨bf,0,MH⟩:=H.out.2.1;have D:i<({G with tab:=m}:Gt).fls.length:=H.out.2.2.1;obtain⟨x0,x1,x2,x3,x4,x5,x6⟩:=d.Gl o D;have a8:({G with tab:=m}:Gt).fls[i]=f:=by rw[H.out.2.2.2,XA H.out.2.2.1]
  rw[a8]at x3 x5;have z3:=d.Hv o (i*7+3);have z5:=d.Hv o (i*7+5);have b7:=d.lt;have e7:v.cell? ⟨g,7,MH⟩=MI (MF ME G.cfg.conn):=d.c7;have b9:bf<v.heap.size:=MX v ⟨bf,i*7,MH⟩ x0;obtain⟨Q,J⟩:=d.Ji o D (f:=f) H.out.2.2.2 b (f.ret+1);obtain⟨w6,E⟩:∃w6,w6=(v.setCell ⟨bf,i*7+3,MH⟩ (MF ME b)).setCell ⟨bf,i*7+5,MH⟩ (MF ME (f.ret+1)):=⟨_,rfl⟩;obtain⟨a,x⟩:∃a,a=Y4 {G with tab:=m} i {f with be:=b,ret:=f.ret+1}:=⟨_,rfl⟩;obtain⟨P,b5⟩:=akq x D;have z:a.cfg=G.cfg/\a.now=G.now/\a.wnow=G.wnow/\a.out=G.out:=by rw[x];exact⟨rfl,rfl,rfl,rfl⟩
  rw[<-E,<-x]at Q;rw[<-E]at J;have b6:0<=a.fls[i].slot/\a.fls[i].slot<40:=by rw[b5];exact B.out.2.2.2.1
  have HW:=af2 Q P o (n:=G.cfg.conn) B.out.1.conn b6 (by rw[z.2.2.1,z.2.1];exact B.out.2.1) (by rw[z.2.1];exact B.out.1.now);have u:M6 (_/\_/\_/\_/\_/\_):=⟨HW,N.F0 J,o,P,x,z⟩;clear d N Q J o D P a8 b5 x z b6 HW x0 x1 x2 x4 x6
  go_wp2_with fail
  rw[<-E];clear E x3 x5 z3 z5 b7 e7 b9 d0;refine Nd u.out.1 ?_;rintro r w7 ⟨rfl,V7,C,I,a9⟩;obtain⟨j,y⟩:∃j,j=YW a i G.cfg.conn:=⟨_,rfl⟩;rw[<-y]at C;have a5:i<j.fls.length:=by rw[y,ahP];exact u.out.2.2.2.1
  obtain⟨A,K⟩:∃A,A=Xs j i:=⟨_,rfl⟩;have hx:=C.Gw (I.1.trans u.out.2.2.1) a5;rw[<-K]at hx;obtain⟨y0,y1,y2,y3,y4,y5,y6⟩:=hx;have b3:j.out.length<=900000:=by rw[y];show a.out.length<=900000;rw[u.out.2.2.2.2.2.2.2.2];exact B.out.2.2.1
  have t:M6 (_/\_/\_/\_/\_/\_):=⟨aeP C (by omega) 5 A,I.2.2,u.out.2.1.F0 a9,K,y,b3⟩;clear C I a9 K y b3 a5
  go_wp2_with fail
  refine Nd t.out.1 ?_;rintro r w8 ⟨rfl,V8,a7,b0,a4⟩;have a3:(abi j 5 A).out.length<=1000000:=by show(j.out++[_]).length<=1000000;have:=t.out.2.2.2.2.2;simp;omega
  have S:M6 (_/\_/\_):=⟨ahg a7 a3 f.be,b0.2.2.trans t.out.2.1,t.out.2.2.1.F0 a4⟩;clear a7 a4 b0 a3 y0 y1 y2 y3 y4 y5 y6
  go_wp2_with fail
  refine Nd S.out.1 ?_;rintro r w9 ⟨rfl,V9,a6,b4,a0⟩;have U:M6 (_/\_/\_):=⟨a6,b4.2.2.trans S.out.2.1,S.out.2.2.F0 a0⟩;clear a6 b4 a0;go_wp2
  go_end0
  have hz:O=Yf (abi j 5 A) f.be:=by rw[H.out.1,t.out.2.2.2.1,t.out.2.2.2.2.1,u.out.2.2.2.2.1]
  rw[hz];exact⟨rfl,V9,U.out.1,U.out.2.1,U.out.2.2⟩
end
theorem aao(l:List Fl):(rv WX l).length=l.length*7:=abx XL l
theorem ahj(l:List Fl)(i:Nat):(rv WX l).take (i*7)=rv WX (l.take i):=ahF XL l i
theorem akn(l:List Fl)(i:Nat):(rv WX l).drop (i*7)=rv WX (l.drop i):=ak4 XL l i
theorem ahz(x:Fl):rv WX [x]=WX x:=by simp[rv]
theorem akB{α:Type}(l:List α)(x:α):Xi l x l.length=l++[x]:=by simp[Xi]
def afB(base:Nat)(v:M7)(l:List Fl)(t:Fl)(i:Nat)(w:MO)(r:Ending)(w':MO):Prop :=
 ∃g cap,r=MN (MG (MI ⟨g,0,MH⟩) (l.length+1) cap)/\w'.ownsRow base 98 7 (MG (MI ⟨g,0,MH⟩) (l.length+1) cap) (l.length+1) (rv WX (Xi l t i))/\w.grownBy w' v.ownBlock/\(v.ownBlock=MI g\/w.heap.size<=g)
theorem apE(base:Nat)(v:M7)(l:List Fl)(x:Fl)(cs:Array M7)(hxs:cs.toList=WX x)(k:Nat)(w:MO)(hown:w.ownsRow base 98 7 v l.length (rv WX l))(hbase:base<=w.heap.size)
  (hk:w.heap[k]?=MI (MP cs 98 (0,0))) (hlen:l.length<=1000) :
  Ni MK 126 #[v,MF ME l.length,MG (MI ⟨k,0,MH⟩) 1 1] w (afB base v l x l.length w):=by
 obtain⟨y,z,r,s,q⟩:=OF ad0;have e:∀j u,(rv WX [x])[j]?=MI u->w.cell? ((⟨k,0,MH⟩:Oc).add j)=MI u:=fun j u hu=>by
  have A:(⟨k,0,MH⟩:Oc).add j=⟨k,j,MH⟩:=by unfold Addr.add;split <;> simp_all
  rw[A,MW w k j _ _ (0,0) hk];rw[ahz,<-hxs]at hu;simpa using hu
 obtain⟨p,c,rfl⟩:=Y6 hown;have F:l.length<=c:=by
  rcases hown.2 with⟨h,_⟩|⟨g,a,C,h,_,_,t,_⟩
  ·simp only[N4]at h;omega
  ·simp only[N4]at h;omega
 have E:c<=9223372036854775807:=by
  rcases hown.2 with⟨h,_⟩|⟨g,a,C,h,_,_,_,t,_⟩
  ·simp only[N4]at h;omega
  ·simp only[N4]at h;unfold NE at t;omega
 by_cases hcl:c=l.length
 ·subst hcl
  have d:M6 (_/\_):=⟨hown,e⟩;clear hown e;go_enter azz,azr
  go_wp2_with (first|(at_builtin;refine O9 _ rfl _ _ 46 rfl base 98 y _ 7 56 U9 z r s q rfl (by decide) (MG p l.length l.length) _ _ rfl d.out.1 _ 1 1 (rv WX [x]) rfl rfl d.out.2 (adm acI _) (by decide) (by unfold NE;omega) (by omega) hbase _ rfl ?_;intro o a D f n m B))
  all_goals
   go_ret;exact⟨o,a,rfl,by rw[akB,acL];exact f,n,m.imp id (fun h=>by omega)⟩
 ·have d:M6 (_/\_):=⟨hown,e⟩
  clear hown e;go_enter azz,azr
  go_wp2_with (first|(at_builtin;refine O9 _ rfl _ _ 46 rfl base 98 y _ 7 56 U9 z r s q rfl (by decide) (MG p l.length c) _ _ rfl d.out.1 _ 1 1 (rv WX [x]) rfl rfl d.out.2 (adm acI _) (by decide) (by unfold NE;omega) (by omega) hbase _ rfl ?_;intro o a D f n m B))
  all_goals
   go_ret;exact⟨o,a,rfl,by rw[akB,acL];exact f,n,m.imp id (fun h=>by omega)⟩
theorem apF(base g c:Nat)(l:List Fl)(x:Fl)(cs:Array M7)(hxs:cs.toList=WX x)(i k:Nat)(w:MO)(hown:w.ownsRow base 98 7 (MG (MI ⟨g,0,MH⟩) l.length c) l.length (rv WX l))(hbase:base<=w.heap.size)(hi:i<l.length)(hroom:c<l.length+1)
  (hk:w.heap[k]?=MI (MP cs 98 (0,0))) (hlen:l.length<=1000) :
  Ni MK 126 #[MG (MI ⟨g,0,MH⟩) l.length c,MF ME i,MG (MI ⟨k,0,MH⟩) 1 1] w (afB base (MG (MI ⟨g,0,MH⟩) l.length c) l x i w):=by
 obtain⟨Q,E,N,C,M⟩:=OF ad0;have O:c=l.length:=by
  rcases hown.2 with⟨h,_⟩|⟨g',f,a8,h,_,_,h2,_⟩
  ·cases h
  ·simp only[N4]at h;omega
 subst O;have F:(Tryz.prog.info? 98).map (·.size)=MI 7:=by rw[E];simp[C]
 have Y:=(hown.lt g rfl).2;have a0:k<w.heap.size:=(Array.getElem?_eq_some_iff.1 hk).1;obtain⟨f,s,R,o,q,D,I,d,a7⟩:=ag0 (P:=MK) w 46 3 46 98 Q _ ME 7 56 U9 Ol E N C M rfl (by decide) base ⟨g,0,MH⟩ i l.length (l.length+1-i) (rv WX (l.take i)) (by rw[aao,NH];omega)
  (fun j u hu=>by
   rw[abl,hown.cellAt j (by have:=(List.getElem?_eq_some_iff.1 hu).1;rw[aao,NH]at this;omega)];rw[<-ahj]at hu;rw[List.getElem?_take]at hu
   split at hu
   ·exact hu
   ·cases hu) (by omega) (by omega) (by unfold NE;omega) (by omega) hbase
 have J:i+(l.length+1-i)=l.length+1:=by omega
 rw[J]at o q I;rw[show((l.length+1-i:Nat):Int)=(l.length:Int)+1-(i:Int)by omega]at o;obtain⟨H,L,B,e⟩:=aa8 (P:=MK) R 46 3 98 7 U9 F base w.heap.size (l.length+1) f _ q (i*7) (l.length+1-i) (f-i) ⟨k,0,MH⟩ 1 1 1 (rv WX [x]) (by simp only[PR];split <;> omega) rfl (by simp[rv];omega)
  (fun j u hu=>by
   rw[abl,(d.cell (a:=⟨k,j,MH⟩) (v:=u) (by rw[MW w k j _ _ (0,0) hk];rw[ahz,<-hxs]at hu;simpa using hu) (by simp))]) (adm acI _)
 obtain⟨T,K,p,m⟩:=aa8 (P:=MK) H.drew 46 3 98 7 U9 F base w.heap.size (l.length+1) f _ B ((i+1)*7) (l.length-i) (f-(i+1)) ⟨g,i*7,MH⟩ (l.length-i) (l.length-i) (l.length-i) (rv WX (l.drop i)) (by simp only[PR];split <;> omega) (by rw[aao,NJ]) (by rw[aao,NJ];omega)
  (fun j u hu=>by
   rw[aas];have n:=(List.getElem?_eq_some_iff.1 hu).1;rw[aao,NJ]at n;have S:w.cell? ⟨g,i*7+j,MH⟩=MI u:=by
    rw[hown.cellAt _ (by omega),<-hu,<-akn,Pa]
   exact e.cell (a:=⟨g,i*7+j,MH⟩) (d.cell S (by simp)) (by simp;omega)) (adm acI _)
 have z:(rv WX (l.take i)++s).take (i*7)++rv WX [x]++(rv WX (l.take i)++s).drop (i*7+(rv WX [x]).length)=rv WX (l.take i++[x])++s.drop 7:=by
  have r:(rv WX (l.take i)).length=i*7:=by rw[aao,NH];omega
  rw[<-r,Qb,acL,Qa];simp[rv]
 have y:∀ys:List M7,((rv WX (l.take i++[x])++ys).take ((i+1)*7)++rv WX (l.drop i)++(rv WX (l.take i++[x])++ys).drop ((i+1)*7+(rv WX (l.drop i)).length))=rv WX (Xi l x i)++ys.drop ((l.length-i)*7):=fun ys=>by
  have r:(rv WX (l.take i++[x])).length=(i+1)*7:=by rw[aao];simp;omega
  rw[<-r,Qb,Qa,aao (l.drop i),NJ,Xi,acL,acL];simp[rv]
 rw[z,y]at p;rw[List.drop_drop,PI (by rw[D];omega),OG]at p;have A:w.grownBy T (MG (MI ⟨g,0,MH⟩) l.length l.length).ownBlock :=
  ⟨m.os.trans (e.os.trans d.os),m.tape.trans (e.tape.trans d.tape),m.output.trans (e.output.trans d.output),Nm d.size (Nm e.size m.size),fun j n _=>by
   rw[m.block j (M8 n (Nm d.size e.size)) (by simp;omega)];show H.heap[j]?=_;rw[e.block j (M8 n d.size) (by simp;omega),d.block j n (by simp)]⟩
 have t:M6 (_/\_/\_/\_/\_):=⟨o,L,K,p,A⟩;have a5:(i:Int)<=(l.length:Int):=by omega
 have a6:(i:Int)<(l.length:Int)+1:=by omega
 have a3:¬f=i:=by omega
 have U:¬f=i+1:=by omega
 have a4:¬l.length=i:=by omega
 have Z:((i:Int) == (l.length:Int))=false:=by simp;omega
 clear o q B p d e m D hown hk z y A;go_enter azz,azr
 go_wp2_with (first|(at_builtin;refine Lib.wpList_append_run _ rfl _ _ _ _ rfl _ _ rfl rfl _ _ t.out.1 ?_))
 go_region
 go_wp2;go_ret;exact⟨w.heap.size,f,rfl,t.out.2.2.2.1,t.out.2.2.2.2,NF (MV _)⟩
theorem apG(base g c:Nat)(l:List Fl)(x:Fl)(cs:Array M7)(hxs:cs.toList=WX x)(i k:Nat)(w:MO)(hown:w.ownsRow base 98 7 (MG (MI ⟨g,0,MH⟩) l.length c) l.length (rv WX l))(hbase:base<=w.heap.size)(hi:i<l.length)(hroom:l.length+1<=c)(hkg:k≠g)
  (hk:w.heap[k]?=MI (MP cs 98 (0,0))) (hlen:l.length<=1000) :
  Ni MK 126 #[MG (MI ⟨g,0,MH⟩) l.length c,MF ME i,MG (MI ⟨k,0,MH⟩) 1 1] w (afB base (MG (MI ⟨g,0,MH⟩) l.length c) l x i w):=by
 obtain⟨i0,K,b3,J,b2⟩:=OF ad0;have B:(Tryz.prog.info? 98).map (·.size)=MI 7:=by rw[K];simp[J]
 obtain⟨d,r,A,s,C,I⟩:∃d:Array M7,w.heap[g]?=MI (MP d 98 (0,0))/\c<=NE/\d.size=c*7/\d.toList.take (l.length*7)=rv WX l/\base<=g:=by
  rcases hown.2 with⟨h,_⟩|⟨g',b4,d,h,R,Y,h2,M,U,Z⟩
  ·cases h
  ·simp only[N4,Qs,Q1,and_true,true_and]at h
   obtain⟨rfl,rfl⟩:=h;exact⟨d,Y,M,U,Z,R⟩
 have n:w.ownsRow base 98 7 (MG (MI ⟨g,0,MH⟩) (l.length+1) c) (l.length+1) (d.toList.take ((l.length+1)*7)):=
  ⟨by simp only[NH,Om,s];omega,NF ⟨g,c,d,rfl,I,r,hroom,A,s,rfl⟩⟩
 have E:d.toList.take ((l.length+1)*7)=rv WX l++(d.toList.drop (l.length*7)).take 7:=by
  rw[<-C,show(l.length+1)*7=l.length*7+7 by omega,List.take_add]
 rw[E]at n;have p:((d.toList.drop (l.length*7)).take 7).length=7:=by simp only[NH,NJ,Om,s];omega
 generalize (d.toList.drop (l.length*7)).take 7=sp at n p;have a3:=(hown.lt g rfl).2;obtain⟨S,a9,z,f⟩:=aa8 (P:=MK) w.drew 46 3 98 7 U9 B base g (l.length+1) c _ n ((i+1)*7) (l.length-i) (c-(i+1)) ⟨g,i*7,MH⟩ (l.length+1-i) (c-i) (l.length-i) (rv WX (l.drop i)) (by simp only[PR];split <;> omega) (by rw[aao,NJ]) (by rw[aao,NJ];omega)
  (fun j u hu=>by
   rw[aas];have o:=(List.getElem?_eq_some_iff.1 hu).1;rw[aao,NJ]at o;have T:w.cell? ⟨g,i*7+j,MH⟩=MI u:=by
    rw[hown.cellAt _ (by omega),<-hu,<-akn,Pa]
   exact T) (adm acI _)
 obtain⟨O,b0,q,m⟩:=aa8 (P:=MK) S 46 3 98 7 U9 B base g (l.length+1) c _ z (i*7) (l.length+1-i) (c-i) ⟨k,0,MH⟩ 1 1 1 (rv WX [x]) (by simp only[PR];split <;> omega) rfl (by simp[rv];omega)
  (fun j u hu=>by
   rw[abl,(f.cell (a:=⟨k,j,MH⟩) (v:=u) (show w.cell? _=_ by rw[MW w k j _ _ (0,0) hk];rw[ahz,<-hxs]at hu;simpa using hu) (by simp;omega))]) (adm acI _)
 have t:∀xs:List M7,xs=(rv WX l++sp).take ((i+1)*7)++rv WX (l.drop i)++(rv WX l++sp).drop ((i+1)*7+(rv WX (l.drop i)).length)->xs.take (i*7)++rv WX [x]++xs.drop (i*7+(rv WX [x]).length)=rv WX (Xi l x i):=fun xs hxs=>by
  have N:(rv WX l++sp).drop ((i+1)*7+(rv WX (l.drop i)).length)=[]:=PI (by rw[Ns,aao,aao,NJ,p];omega);have Q:(rv WX l++sp).take ((i+1)*7)=rv WX (l.take (i+1)):=by
   rw[ZqA (by rw[aao];omega),ahj]
  rw[N,Q,OG]at hxs;have D:(rv WX (l.take (i+1))).length=(i+1)*7:=by rw[aao,NH];omega
  have e4:xs.take (i*7)=rv WX (l.take i):=by
   rw[hxs,ZqA (by rw[D];omega),ahj,List.take_take,show min i (i+1)=i by omega]
  have e5:xs.drop (i*7+(rv WX [x]).length)=rv WX (l.drop i):=by
   rw[hxs,show i*7+(rv WX [x]).length=(rv WX (l.take (i+1))).length by rw[D];simp[rv];omega,List.drop_left]
  rw[e4,e5,Xi,acL];simp[rv]
 rw[t _ rfl]at q;have y:w.grownBy O (MG (MI ⟨g,0,MH⟩) l.length c).ownBlock :=
  ⟨m.os.trans f.os,m.tape.trans f.tape,m.output.trans f.output,Nm f.size m.size,fun j o hne=>by
   rw[m.block j (M8 o f.size) hne];exact f.block j o hne⟩
 have H:cs.size=7:=by rw[<-Om,hxs];rfl
 have L:∀lb cb,(callFunc 171 #[MG (MI ⟨k,0,MH⟩) 1 1,MG (MI ⟨g,(i+1)*7,MH⟩) lb cb]).run MK w=.ok (.value (M3 Nb)) w:=fun lb cb=>by
  rw[run_callFunc_extern Tryz.func171 (by kernel_rfl) (by kernel_rfl) (by kernel_rfl) (e:=P9 #[46,46] #[4]) (by kernel_rfl),
   Lib.run_overlaps_apart w 46 4 98 U9 7 Tryz.sizeOf98 ⟨k,0,MH⟩ ⟨g,(i+1)*7,MH⟩ 1 1 lb cb hkg 98 98 7 d.size (by simp[QO,hk,H]) (by simp[QO,r]) (by omega) (by simp[Ng,hk]) (by simp[Ng,hk])]
  rfl
 have F:M6 (_/\_):=⟨q,y⟩;have a7:(i:Int)<=(l.length:Int):=by omega
 have a8:(i:Int)<=(l.length:Int)+1:=by omega
 have a5:¬c=i:=by omega
 have a0:¬c=i+1:=by omega
 have a4:((i:Int) == (l.length:Int))=false:=by simp;omega
 have a6:(l.length:Int)+1<=(c:Int):=by omega
 unfold NE at A;clear z q f m hown n hk t y r C E p;go_enter azz,azr
 go_wp2_with (simp only[L])
 go_region
 go_wp2;go_ret;exact⟨g,c,rfl,F.out.1,F.out.2,Nt rfl⟩
theorem apD(base:Nat)(v:M7)(l:List Fl)(x:Fl)(cs:Array M7)(hxs:cs.toList=WX x)(i k:Nat)(w:MO)(hown:w.ownsRow base 98 7 v l.length (rv WX l))(hbase:base<=w.heap.size)(hi:i<=l.length)(hkv:v.ownBlock≠MI k)
  (hk:w.heap[k]?=MI (MP cs 98 (0,0))) (hlen:l.length<=1000) :
  Ni MK 126 #[v,MF ME i,MG (MI ⟨k,0,MH⟩) 1 1] w (afB base v l x i w):=by
 rcases Oq i l.length with a|d
 ·obtain⟨g,c,rfl,_⟩:=hown.form (by omega)
  rcases Oq c (l.length+1)with h|h
  ·exact apF base g c l x cs hxs i k w hown hbase a h hk hlen
  ·exact apG base g c l x cs hxs i k w hown hbase a h (fun e=>hkv (by rw[e];rfl)) hk hlen
 ·obtain rfl:i=l.length:=by omega
  exact apE base v l x cs hxs k w hown hbase hk hlen
section
variable {base:Nat}{w:MO}{g:Nat}{V:Vs}{G:Gt}
def aoh(base:Nat)(w:MO)(g:Nat)(V:Vs)(G':Gt)(i:Nat)(r:Ending)(w':MO):Prop :=
 ∃V' bf,r=MN (fP bf i)/\OR base w' g V' G'/\V'.pf=MI ⟨bf,0,MH⟩/\V'.bh=V.bh/\WV V V' g w w'
theorem aql(h:OR base w g V G)(hbs:Bs G)(hfree:G.tab.any Y1=Nw)(hk:0<=key/\key<=4294967295)(hb:0<=b/\b<12):
  Ni MK 87 #[gP g,MF ME key,MF ME b] w (aoh base w g V (abv G key b) (Y3 G.fls (Y8 G.tab key b).2.1.1)):=by
 obtain⟨j,d3,t,b9,b8,d4⟩:=hbs.Gd hfree hk hb;have a6:=hbs.Gb;obtain⟨l,b5⟩:∃l,l=G.tab[j].1:=⟨_,rfl⟩;obtain⟨m,hm⟩:∃m,m=G.tab.set j (l,Nw,key,b):=⟨_,rfl⟩;rw[<-b5,<-hm]at t;obtain⟨x,N⟩:∃x:Fl,x=⟨(j:Int),l,key,b,Nb,0,0⟩:=⟨_,rfl⟩;obtain⟨i,B⟩:∃i,i=Y3 G.fls (j:Int):=⟨_,rfl⟩;have n:i<=G.fls.length:=by rw[B];exact ad4 _ _
 have U:abv G key b={G with tab:=m,fls:=Xi G.fls x i}:=by unfold abv;rw[t,N,B]
 have a7:Y3 G.fls (Y8 G.tab key b).2.1.1=i:=by rw[t,B]
 rw[U,a7];have O:=auV (MG V.pt G.tab.length V.ct) G.tab key b w h.rest.tab.now;rw[t]at O;have g3:=h.Gs;have g9:=h.lt;have H:M6 (_/\_/\_/\_/\_/\_):=⟨h,O,a6,N,B,n⟩;clear h hbs O a6 N n t U hm b5 b8 hfree hk hb b9 d4 a7 B;clear d3;go_enter Tryz.func87,Tryz.ntmps87
 go_wp2_with fail
 refine Nd H.out.2.1 ?_;rintro r d ⟨p,c,rfl,C,F⟩;have u:=H.out.1.below F;have h0:=u.Gs;have g1:=u.Gr;have g8:=u.fz 17;have f0:=u.lt;have f5:¬g=d.heap.size:=by omega
 have g0:¬g=d.heap.size+1:=by omega
 have f6:¬d.heap.size=g:=by omega
 have f9:¬d.heap.size+1=g:=by omega
 have M:=H.out.1.Ix F C;have a0:WV V {V with pt:=p,ct:=c} g w (d.setCell ⟨g,17,MH⟩ (MG p m.length c)):=((WV.F5 (V:=V) (g:=g) F).F4 17 _).Gp fun _ h=>h
 obtain⟨W,P⟩:∃W,W=((d.setCell ⟨g,17,MH⟩ (MG p m.length c)).alloc (MP #[MG p m.length c] 45)).alloc (MP #[MF ME (j:Int),MF ME l] 96):=⟨_,rfl⟩;have a9:=acu (d.setCell ⟨g,17,MH⟩ (MG p m.length c)) (MP #[MG p m.length c] 45) (MP #[MF ME (j:Int),MF ME l] 96);rw[<-P]at a9;obtain⟨_,D,L,d5⟩:=a9;have b2:(d.setCell ⟨g,17,MH⟩ (MG p m.length c)).heap.size=d.heap.size:=by simp
 rw[b2]at D;have J:=M.below L;have a3:=a0.below L;obtain⟨R,y1,_,_,a4⟩:=Xa D;have HI:=apo (MG V.pf G.fls.length V.cf) G.fls (j:Int) (d.heap.size+1) W J.GK R;have b6:¬Vs.own {V with pt:=p,ct:=c} g (d.heap.size+1):=M.rest.new (by simp);have I:M6 (_/\_/\_/\_/\_):=⟨HI,J,a3,D,b6⟩;clear C F u M a0 D L d5 b2 J a3 HI R y1 a4 b6
 go_wp2_with fail
 rw[<-P];clear P;refine Nd I.out.1 ?_;rintro r S ⟨rfl,E⟩;have v:=I.out.2.1.below E;have a8:=I.out.2.2.1.below E;obtain⟨R,y1,_,_,a4⟩:=Xa (WO I.out.2.2.2.1 E);have g4:=v.Gr;have f8:=v.lt;have g6:=H.out.2.2.1;have n:=H.out.2.2.2.2.2;have Y:M6 (∀X k,MQ S.heap.size S X->X.heap[k]?=MI (MP #[MF ME (j:Int),MF ME l,MF ME key,MF ME b,M3 Nb,MF ME 0,MF ME 0] 98 (0,0))->S.heap.size<=k->Ni MK 126 #[MG V.pf G.fls.length V.cf,MF ME (i:Int),MG (MI ⟨k,0,MH⟩) 1 1] X fun r w'=>∃q a,r=MN (MG (MI ⟨q,0,MH⟩) (G.fls.length+1) a)/\w'.cell? ⟨g,18,MH⟩=MI (MG V.pf G.fls.length V.cf)/\w'.frozen? ⟨g,18,MH⟩=Nb/\g<w'.heap.size/\a<=9223372036854775807/\G.fls.length+1<=a /\
   M6 (OR base (w'.setCell ⟨g,18,MH⟩ (MG (MI ⟨q,0,MH⟩) (G.fls.length+1) a)) g {V with pt:=p,ct:=c,pf:=MI ⟨q,0,MH⟩,cf:=a} {G with tab:=m,fls:=Xi G.fls x i}/\WV V {V with pt:=p,ct:=c,pf:=MI ⟨q,0,MH⟩,cf:=a} g w (w'.setCell ⟨g,18,MH⟩ (MG (MI ⟨q,0,MH⟩) (G.fls.length+1) a)))):=by
  intro X k hX hk g7;have o:=v.below hX;have d2:(MG V.pf G.fls.length V.cf).ownBlock≠MI k:=fun e=>by
   have:=(v.rest.fls.lt k e).2;omega
  refine(apD base (MG V.pf G.fls.length V.cf) G.fls x #[MF ME (j:Int),MF ME l,MF ME key,MF ME b,M3 Nb,MF ME 0,MF ME 0] (by rw[H.out.2.2.2.1]) i k X o.rest.fls o.base n d2 hk (by omega)).mono ?_;rintro r w' ⟨q,a,rfl,C,s,hq⟩;have K:∀z,z<X.heap.size->V.pf.map (·.block)≠MI z->w'.heap[z]?=X.heap[z]?:=fun z hz hn=>s.block z hz (fun e=>hn (by rw[e,XV]))
  have b3:=(K g o.lt o.rest.fg).trans o.box;have Z:(Xi G.fls x i).length=G.fls.length+1:=ad1 _ _ n;have b0:∀z,(MI (⟨q,0,MH⟩:Oc)).map (·.block)=MI z->V.pf.map (·.block)=MI z\/X.heap.size<=z:=fun z e=>by
   cases e;exact hq.imp (fun e=>by rw[<-XV V.pf G.fls.length V.cf];exact e) id
  have a5:=o.IU (w':=w') (p:=MI ⟨q,0,MH⟩) (c:=a) (m:=Xi G.fls x i) s.size K (by rw[Z];exact C) b0;rw[Z]at a5;have T:a<=9223372036854775807/\G.fls.length+1<=a:=by
   rcases C.2 with⟨Q,_⟩|⟨g',c',g5,Q,_,_,h1,h2,_⟩
   ·cases Q
   ·cases Q
    unfold NE at h2;exact⟨h2,h1⟩
  have e9:WV {V with pt:=p,ct:=c} {V with pt:=p,ct:=c,pf:=MI ⟨q,0,MH⟩,cf:=a} g X w':=by
   refine⟨s.os,s.tape,s.output,s.size,fun z hz hn=>K z hz fun e=>hn (NF (NF (Nt e))),fun z e=>?_⟩;rcases e with e|e|e|e
   ·exact Nt (Nt e)
   ·exact Nt (NF (Nt e))
   ·exact(b0 z e).imp (fun e=>NF (NF (Nt e))) id
   ·exact Nt (NF (NF (NF e)))
  refine⟨q,a,rfl,by rw[MW w' g 18 _ _ (0,0) b3];rfl,by simp[Ng,b3],M8 o.lt s.size,T.1,T.2,a5,?_⟩;exact((a8.below hX).F0 e9).F4 18 _
 have b4:G.fls.findIdx (fun f=>Nn ((j:Int)<f.slot))=i:=H.out.2.2.2.2.1.symm;rw[b4];have HZ:M6 _:=n;clear v a8 E b4 n
 by_cases hil:i<G.fls.length
 ·have y:X6 i G.fls.length=(i:Int):=Nh hil
  rw[y];have d0:(i:Int)<(G.fls.length:Int)+1:=by omega
  have g2:¬((i:Int)<0):=by omega
  clear y
  go_wp2_with fail
  go_region_with (first|(go_at_call 126;refine(Y.out _ _ ?hb ?hk ?hn).mono ?_;(case hb=>first|exact((MY _ _).alloc (MV _) _).drew|exact((Below.refl _ _).drew).alloc (by simp) _);(case hk=>exact M1 _ _);(case hn=>exact MV _);rintro r w5 ⟨q,a,rfl,e8,d1,b7,d7,d8,A⟩))
  all_goals
   go_wp2;go_ret;exact⟨_,q,by simp,A.out.1,rfl,rfl,A.out.2⟩
 ·obtain rfl:i=G.fls.length:=by have:=HZ.out;omega
  have y:X6 G.fls.length G.fls.length = -1:=Nf hil;rw[y];have d0:(G.fls.length:Int)<(G.fls.length:Int)+1:=by omega
  clear y
  go_wp2_with fail
  go_region_with (first|(go_at_call 126;refine(Y.out _ _ ?hb ?hk ?hn).mono ?_;(case hb=>first|exact((MY _ _).alloc (MV _) _).drew|exact((Below.refl _ _).drew).alloc (by simp) _);(case hk=>exact M1 _ _);(case hn=>exact MV _);rintro r w5 ⟨q,a,rfl,e8,d1,b7,d7,d8,A⟩))
  all_goals
   go_wp2;go_ret;exact⟨_,q,by simp,A.out.1,rfl,rfl,A.out.2⟩
end
abbrev adk(x:Ld):List Value:=[MF ME x.1,MF ME x.2.1,MF ME x.2.2]
theorem apO(x:Ld):(adk x).length=3:=rfl
theorem apN(x:Ld):∀u∈adk x,u.oneCell'=true:=by
 intro u a;simp only[OO,OD,or_false]at a;rcases a with rfl|rfl|rfl <;> rfl
theorem ak5:∀l:List Ld,rv adk l=abG l
 | []=>rfl
 |x::l=>by simp[rv,abG,ak5 l]
theorem apu:(Tryz.prog.info? 257).map (fun i=>(i.zero,i.size,i.bytes))=MI (MI (Ny #[MF ME 0,MF ME 0,MF ME 0]),3,24):=by kernel_rfl
def abc(fs:List Fl):List Int:=(Pm 12).map fun(b:Nat)=>((abu fs (b:Int):Nat):Int)
theorem aeF(fs:List Fl):(abc fs).length=12:=by simp[abc]
theorem afI(fs:List Fl){b:Nat}(hb:b<12):(abc fs)[b]'(by rw[aeF];exact hb)=((abu fs (b:Int):Nat):Int):=by simp[abc]
theorem aoP(fs:List Fl)(f:Fl){b:Nat}(hb:b<12)(he:f.be=(b:Int)):abc (fs++[f])=(abc fs).set b (((abu fs (b:Int):Nat):Int)+1):=by
 apply PX
 ·simp[aeF]
 ·intro k c d
  have a:k<12:=by simpa [aeF]using c
  rw[afI _ a,Pc];unfold abu;rw[Qi]
  by_cases e:b=k
  ·subst e
   rw[Nh rfl];simp[he]
  ·rw[Nf e,afI _ a]
   have:(f.be == (k:Int))=false:=by rw[he,Oh];omega
   simp[abu,this]
section
variable {base:Nat}{w:MO}{g:Nat}{V:Vs}{G:Gt}
def aaH(G:Gt)(fs:List Fl)(k:Nat):List Ld:=((G.liv.take k).filter fun l=>l.2.1 == 2).map fun l=>(l.1,abV G l,(abu fs l.1:Int))
theorem apX(fs:List Fl):aaH G fs G.liv.length=aab G fs:=by unfold aaH aab;rw[NT]
theorem ap0(fs:List Fl)(hk:k<G.liv.length)(h:G.liv[k].2.1=2):aaH G fs (k+1)=aaH G fs k++[(G.liv[k].1,abV G G.liv[k],(abu fs G.liv[k].1:Int))]:=by
 unfold aaH;rw[M9 hk,OY,OI];simp[h]
theorem apZ(fs:List Fl)(hk:k<G.liv.length)(h:¬G.liv[k].2.1=2):aaH G fs (k+1)=aaH G fs k:=by
 unfold aaH;rw[M9 hk,OY,OI];have:(G.liv[k].2.1 == 2)=false:=by rw[Oh];exact h
 simp[this]
theorem apY(fs:List Fl)(k:Nat):(aaH G fs k).length<=G.liv.length:=by
 unfold aaH;rw[N0];exact Nm (O1 _ _) (List.length_take_le' _ _)
theorem ap2{W:MO}{B:Nat}{p:Option Oc}{n c:Nat}{m:List Ld}(ho:W.ownsRow B 257 3 (MG p n c) n (rv adk m))(hB:B<=W.heap.size)(hn:n<=1000)(x:Ld) :
  ∃q c' w5,(N2 #[205,205] 205 #[MG p n c,MG (MI ⟨W.heap.size,0,MH⟩) 1 1]).run MK (W.alloc (MP #[MF ME x.1,MF ME x.2.1,MF ME x.2.2] 257))=.ok (MG (MI ⟨q,0,MH⟩) (n+1) c') w5 /\
   w5.ownsRow B 257 3 (MG (MI ⟨q,0,MH⟩) (n+1) c') (n+1) (rv adk (m++[x]))/\MQ B W w5/\∀b,b<W.heap.size->p.map (·.block)≠MI b->w5.heap[b]?=W.heap[b]?:=by
 obtain⟨q,c',w5,f,d,a,j⟩:=afC apO apN (by decide) Tryz.underlying205 apu rfl ho hB 205 x #[MF ME x.1,MF ME x.2.1,MF ME x.2.2] rfl (by omega) (by unfold NE;omega);exact⟨q,c',w5,f,d,(MY _ _).grown a hB (fun k hk=>(ho.lt k hk).1),fun b hb hne=>a.block b hb fun e=>hne (by rw[<-XV p n c,<-e])⟩
theorem ap1(h:OR base w g V G)(hbs:Bs G)(v:M7)(fs:List Fl)(hv:ZR w v fs)(hfs:∀f∈fs,0<=f.be/\f.be<12)(hl:fs.length<=40) :
  Ni MK 122 #[gP g,v] w fun r w'=>∃y,r=MN y/\aaR w' y (aab G fs)/\MQ w.heap.size w w':=by
 obtain⟨pa,ca,rfl,j7,g9,pf⟩:=hv.F6;unfold NE at g9;obtain⟨W,hW⟩:∃W,W=w.alloc (MP (WR (Nj 12 0)).toArray 195):=⟨_,rfl⟩;have hB:MQ w.heap.size w W:=by rw[hW];exact WQ w
 have j:Xj 195 12 W w.heap.size (abc []):=by
  have e:abc []=Nj 12 0:=by rfl
  rw[hW,e];exact Xj.new w 195 (Nj 12 0)
 have i5:=hbs.book.1.1;have H:M6 (_/\_/\_/\_/\_/\_):=⟨h,hbs,hfs,pf,hB,j⟩;have j5:=h.lt;clear h hbs hv hfs pf hB j;go_enter Vk,Vg;go_wp2;rw[show(w.alloc (MP #[MF ME 0,MF ME 0,MF ME 0,MF ME 0,MF ME 0,MF ME 0,MF ME 0,MF ME 0,MF ME 0,MF ME 0,MF ME 0,MF ME 0] 195))=W from hW.symm];clear hW
 go_loopw [13] (fun t wr=>∃k:Nat,t=MF ME k/\k<=fs.length/\Xj 195 12 wr w.heap.size (abc (fs.take k))/\MQ w.heap.size w wr/\w.heap.size<wr.heap.size) (fun t _=>fs.length-(intOf t).toNat)
 case atStart=>exact⟨0,rfl,Nx _,H.out.2.2.2.2.2,H.out.2.2.2.2.1,H.out.2.2.2.2.2.lt⟩
 case round =>
  obtain⟨k,rfl,hk,j,a,b9⟩:=hrel
  by_cases hlt:k<fs.length
  ·obtain⟨m,u,rfl,l,L,N,O,R,M,P,z6⟩:=H.out.2.2.2.1 k hlt
   have b3:=H.out.2.2.1 _ (Nk hlt);have a6:fs.take (k+1)=fs.take k++[fs[k]]:=M9 hlt;obtain⟨f,d7⟩:∃f,f=fs[k]:=⟨_,rfl⟩;rw[<-d7]at L N O R M P z6 b3 a6;obtain⟨b,a4⟩:=NL b3.1;have U:b<12:=by omega
   have g0:(b:Int)<12:=by omega
   have f8:(0:Int)<=(b:Int):=by omega
   have e0:=(a.cell (p:=⟨m,u+k*7,MH⟩) l).trans L;have e1:=(a.cell (p:=⟨m,u+k*7+1,MH⟩) l).trans N;have e2:=(a.cell (p:=⟨m,u+k*7+2,MH⟩) l).trans O;have e3:=(a.cell (p:=⟨m,u+k*7+3,MH⟩) l).trans R;have e4:=(a.cell (p:=⟨m,u+k*7+4,MH⟩) l).trans M;have e5:=(a.cell (p:=⟨m,u+k*7+5,MH⟩) l).trans P;have e6:=(a.cell (p:=⟨m,u+k*7+6,MH⟩) l).trans z6;rw[a4]at e3;have a1:=j.F7 b (by rw[aeF];exact U);rw[afI _ U]at a1;have a2:=j.Gu b;obtain⟨d,F⟩:∃d:Int,d=((abu (fs.take k) (b:Int):Nat):Int):=⟨_,rfl⟩;rw[<-F]at a1;have j4:0<=d/\d<=40:=by have:=aj7 (fs.take k) (b:Int);rw[NH]at this;omega
   have j1:IntKind.i64.wrap (d+1)=d+1:=by rw[Ow];omega
   have e8:m<wr.heap.size:=M8 l a.size;have g8:(k:Int)<(fs.length:Int):=by omega
   have Q:M6 (_/\_/\_/\_/\_/\_):=⟨j,a,b9,a6,a4,F⟩;clear j a a6 a4 F L N O R M P z6 d7 b3 l;have j0:¬w.heap.size=wr.heap.size:=by omega
   have i4:¬wr.heap.size=w.heap.size:=by omega
   go_wp2
   go_roundw
   case rel =>
    obtain⟨j,a,b9,a6,a4,F⟩:=Q.out;refine⟨k+1,by simp,hlt,?_,?_,?_⟩
    ·rw[a6,aoP _ _ U a4,<-F]
     first
     |exact(j.F4 b (d+1)).below (WQ _)
     |exact(j.below (WQ _)).set b (d+1)
    ·first
     |exact(a.setCell (p:=⟨w.heap.size,b,MH⟩) (MV _) _).alloc (by simp;omega) _
     |exact(a.alloc (by omega) _).setCell (p:=⟨w.heap.size,b,none⟩) (Nat.le_refl _) _
    ·simp;omega
   case measure=>simp[intOf];omega
  ·obtain rfl:k=fs.length:=by omega
   rw[NT]at j;have i6:¬((fs.length:Int)<(fs.length:Int)):=by omega
   have b7:=H.out.1.below a;have h0:=b7.Gn;have i9:=b7.lt;obtain⟨al,j3,i3,i7,e9,d2⟩:=adt.F6 H.out.1.rest.book.now.1;injection i3 with el1 _ el3;unfold NE at e9;rw[el1,el3]at h0;obtain⟨W1,g3⟩:∃W1,W1=wr:=⟨_,rfl⟩;subst g3;have HL:M6 (_/\_/\_/\_):=⟨j,a,b9,d2⟩;clear j a b7 hlt d2 el1 el3;go_wp2
   go_loopw [8,31] (fun s8 t wr=>∃(k:Nat) (p:Option Oc) (n c:Nat),s8=MG p n c/\t=MF ME k/\k<=G.liv.length/\n=(aaH G fs k).length/\wr.ownsRow (w.heap.size+1) 257 3 (MG p n c) n (rv adk (aaH G fs k))/\Xj 195 12 wr w.heap.size (abc fs)/\MQ w.heap.size w wr/\w.heap.size<wr.heap.size) (fun _ t _=>G.liv.length-(intOf t).toNat)
   case atStart=>exact⟨0,MH,0,0,rfl,rfl,Nx _,rfl,NY _ _ _ _,HL.out.1,HL.out.2.1,HL.out.2.2.1⟩
   case round =>
    obtain⟨k,p,n,c,rfl,rfl,hk,J,D,j,a,d0⟩:=hrel
    by_cases hlt:k<G.liv.length
    ·obtain⟨m,u,f5,l,L,N,O,R,M,P⟩:=HL.out.2.2.2 k hlt
     subst f5;have a7:=Nk hlt;have Y:=(H.out.2.1.lf a7).1.1;have S:=ap0 (G:=G) fs hlt;have I:=apZ (G:=G) fs hlt;have d4:=apY (G:=G) fs k;obtain⟨⟨x1,x2,A,E,B,C⟩,b4⟩:∃x,x=G.liv[k]:=⟨_,rfl⟩;rw[<-b4]at L N O R M P a7 Y S I;have Y:0<=x1/\x1<=11:=Y;obtain⟨b,rfl⟩:=NL Y.1;have U:b<12:=by omega
     have g0:(b:Int)<12:=by omega
     have f8:(0:Int)<=(b:Int):=by omega
     have e0:=(a.cell (p:=⟨m,u+k*6,MH⟩) l).trans L;have e1:=(a.cell (p:=⟨m,u+k*6+1,MH⟩) l).trans N;have e2:=(a.cell (p:=⟨m,u+k*6+2,MH⟩) l).trans O;have e3:=(a.cell (p:=⟨m,u+k*6+3,MH⟩) l).trans R;have e4:=(a.cell (p:=⟨m,u+k*6+4,MH⟩) l).trans M;have e5:=(a.cell (p:=⟨m,u+k*6+5,MH⟩) l).trans P;have e8:m<wr.heap.size:=M8 l a.size;have g8:(k:Int)<(G.liv.length:Int):=by omega
     by_cases h2:x2=2
     ·subst h2
      have S:=S rfl;obtain⟨K,b0⟩:∃K,K=wr.alloc (YQ ((b:Int),2,A,E,B,C)):=⟨_,rfl⟩;have T:MQ wr.heap.size wr K:=by rw[b0];exact WQ wr
      have a8:K.heap[wr.heap.size]?=MI (YQ ((b:Int),2,A,E,B,C)):=by rw[b0];exact M1 _ _
      have b5:=j.below T;have d1:=YI D T;have d8:=(H.out.1.below a).below T;have a0:∀ {X:MO},X.heap[wr.heap.size]?=MI (YQ ((b:Int),2,A,E,B,C))->X.cell? ⟨wr.heap.size,0,MH⟩=MI (MF ME (b:Int))/\X.cell? ⟨wr.heap.size,1,MH⟩=MI (MF ME 2)/\X.cell? ⟨wr.heap.size,2,MH⟩=MI (MF ME A)/\X.cell? ⟨wr.heap.size,3,MH⟩=MI (MF ME E)/\X.cell? ⟨wr.heap.size,4,MH⟩=MI (MF ME B)/\X.cell? ⟨wr.heap.size,5,MH⟩=MI (MF ME C):=fun {X} hX =>
       ⟨by rw[MW X _ 0 _ _ (0,0) hX];rfl,by rw[MW X _ 1 _ _ (0,0) hX];rfl,by rw[MW X _ 2 _ _ (0,0) hX];rfl,by rw[MW X _ 3 _ _ (0,0) hX];rfl,by rw[MW X _ 4 _ _ (0,0) hX];rfl,by rw[MW X _ 5 _ _ (0,0) hX];rfl⟩
      obtain⟨d,F⟩:∃d:Int,d=((abu fs (b:Int):Nat):Int):=⟨_,rfl⟩;obtain⟨wt,b6⟩:∃wt,wt=abV G ((b:Int),2,A,E,B,C):=⟨_,rfl⟩;have a5:∀ {X:MO},Xj 195 12 X w.heap.size (abc fs)->X.cell? ⟨w.heap.size,b,MH⟩=MI (MF ME d):=fun {X} hX=>by
       have:=hX.F7 b (by rw[aeF];exact U);rw[afI _ U,<-F]at this;exact this
      have g6:M6 (∀X:MO,MQ K.heap.size K X->Ni MK 168 #[gP g,abR ((b:Int),2,A,E,B,C)] X fun r w'=>r=MN (MF ME wt)/\∃q Z s,
        (w'.cell? ⟨wr.heap.size,0,MH⟩=MI (MF ME (b:Int))/\w'.cell? ⟨wr.heap.size,1,MH⟩=MI (MF ME 2)/\w'.cell? ⟨wr.heap.size,2,MH⟩=MI (MF ME A)/\w'.cell? ⟨wr.heap.size,3,MH⟩=MI (MF ME E)/\w'.cell? ⟨wr.heap.size,4,MH⟩=MI (MF ME B)/\w'.cell? ⟨wr.heap.size,5,MH⟩=MI (MF ME C)/\w'.cell? ⟨w.heap.size,b,MH⟩=MI (MF ME d)) /\
        ((w'.alloc (MP #[MF ME (b:Int),MF ME wt,MF ME d] 257)).cell? ⟨wr.heap.size,0,MH⟩=MI (MF ME (b:Int))/\(w'.alloc (MP #[MF ME (b:Int),MF ME wt,MF ME d] 257)).cell? ⟨wr.heap.size,1,MH⟩=MI (MF ME 2)/\(w'.alloc (MP #[MF ME (b:Int),MF ME wt,MF ME d] 257)).cell? ⟨wr.heap.size,2,MH⟩=MI (MF ME A)/\(w'.alloc (MP #[MF ME (b:Int),MF ME wt,MF ME d] 257)).cell? ⟨wr.heap.size,3,MH⟩=MI (MF ME E)/\(w'.alloc (MP #[MF ME (b:Int),MF ME wt,MF ME d] 257)).cell? ⟨wr.heap.size,4,MH⟩=MI (MF ME B)/\(w'.alloc (MP #[MF ME (b:Int),MF ME wt,MF ME d] 257)).cell? ⟨wr.heap.size,5,MH⟩=MI (MF ME C)/\(w'.alloc (MP #[MF ME (b:Int),MF ME wt,MF ME d] 257)).cell? ⟨w.heap.size,b,MH⟩=MI (MF ME d)) /\
        (s.cell? ⟨wr.heap.size,0,MH⟩=MI (MF ME (b:Int))/\s.cell? ⟨wr.heap.size,1,MH⟩=MI (MF ME 2)/\s.cell? ⟨wr.heap.size,2,MH⟩=MI (MF ME A)/\s.cell? ⟨wr.heap.size,3,MH⟩=MI (MF ME E)/\s.cell? ⟨wr.heap.size,4,MH⟩=MI (MF ME B)/\s.cell? ⟨wr.heap.size,5,MH⟩=MI (MF ME C)/\s.cell? ⟨w.heap.size,b,MH⟩=MI (MF ME d)) /\
        M6 ((N2 #[205,205] 205 #[MG p n c,MG (MI ⟨w'.heap.size,0,MH⟩) 1 1]).run MK (w'.alloc (MP #[MF ME (b:Int),MF ME wt,MF ME d] 257))=.ok (MG (MI ⟨q,0,MH⟩) (n+1) Z) s/\s.ownsRow (w.heap.size+1) 257 3 (MG (MI ⟨q,0,MH⟩) (n+1) Z) (n+1) (rv adk (aaH G fs (k+1)))/\Xj 195 12 s w.heap.size (abc fs)/\MQ w.heap.size w s/\w.heap.size<s.heap.size)):=by
       refine fun X hX=>(aq4 (d8.below hX) H.out.2.1 a7).mono ?_
       rintro r w' ⟨rfl,i2⟩;have a3:MQ K.heap.size K w':=hX.trans (i2.mono hX.size);have b2:=b5.below a3;have g1:=YI d1 a3;have a9:=WO a8 a3;have g2:MQ w.heap.size w w':=(a.trans (T.mono a.size)).trans (a3.mono (Nm a.size T.size));obtain⟨q,Z,s,hr,g5,f0,d3⟩:=ap2 g1 (Nm (by omega) (Nm T.size a3.size)) (by omega) ((b:Int),wt,d);have d5:∀z,p.map (·.block)=MI z->w.heap.size+1<=z/\z<wr.heap.size:=fun z e=>D.lt z (by rw[XV];exact e)
       have i1:wr.heap.size<w'.heap.size:=(Array.getElem?_eq_some_iff.1 a9).1;have h6:=(d3 wr.heap.size i1 (fun e=>by have:=(d5 _ e).2;omega)).trans a9;have b8:=b2.Gf (d3 w.heap.size b2.lt (fun e=>by have:=(d5 _ e).1;omega));have g4:=WO a9 (WQ w' (o:=MP #[MF ME (b:Int),MF ME wt,MF ME d] 257));have h8:=b2.below (WQ w' (o:=MP #[MF ME (b:Int),MF ME wt,MF ME d] 257));have f1:=a0 a9;have f2:=a0 g4;have f3:=a0 h6;refine⟨by rw[b6],q,Z,s,⟨f1.1,f1.2.1,f1.2.2.1,f1.2.2.2.1,f1.2.2.2.2.1,f1.2.2.2.2.2,a5 b2⟩,⟨f2.1,f2.2.1,f2.2.2.1,f2.2.2.2.1,f2.2.2.2.2.1,f2.2.2.2.2.2,a5 h8⟩,⟨f3.1,f3.2.1,f3.2.2.1,f3.2.2.2.1,f3.2.2.2.2.1,f3.2.2.2.2.2,a5 b8⟩,hr,?_,b8,g2.trans (f0.mono (Ps _)),b8.lt⟩;rw[S,<-b6,<-F];exact g5
      obtain⟨y0,y1,y2,y3,y4,y5⟩:=a0 a8;have yc:=a5 b5;have j2:wr.heap.size<K.heap.size:=(Array.getElem?_eq_some_iff.1 a8).1;have g7:M6 (n+1=(aaH G fs (k+1)).length):=by show n+1=_;rw[S,Ns,<-J];rfl
      clear D j a S I b4 L N O R M P a7 Y T a8 b5 d1 d8 a0 a5 F b6 J d4 l
      go_wp2_with fail
      rw[<-b0];clear b0
      go_region_held3 (fun X=>X.cell? ⟨wr.heap.size,0,MH⟩=MI (MF ME (b:Int))/\X.cell? ⟨wr.heap.size,1,MH⟩=MI (MF ME 2)/\X.cell? ⟨wr.heap.size,2,MH⟩=MI (MF ME A)/\X.cell? ⟨wr.heap.size,3,MH⟩=MI (MF ME E)/\X.cell? ⟨wr.heap.size,4,MH⟩=MI (MF ME B)/\X.cell? ⟨wr.heap.size,5,MH⟩=MI (MF ME C)/\X.cell? ⟨w.heap.size,b,MH⟩=MI (MF ME d)) (first|exact⟨y0,y1,y2,y3,y4,y5,yc⟩|exact f6|exact f9|exact h7) (first|(go_at_call 168;refine(g6.out _ (by first|exact(MY _ _).drew|exact Below.refl _ _)).mono ?_;rintro r w4 ⟨rfl,q,Z,s,f6,f9,h7,hQ⟩)|(refine aec (by rfl) _ _ 205 (by rfl) _ _ _ _ (by rfl) (by rfl) hQ.out.1 ?_))
      all_goals
       go_wp2
       go_roundw
       case rel=>exact⟨k+1,MI ⟨q,0,MH⟩,n+1,Z,rfl,by simp,hlt,g7.out,hQ.out.2.1,hQ.out.2.2.1,hQ.out.2.2.2.1,hQ.out.2.2.2.2⟩
       case measure=>simp[intOf];omega
     ·have I:=I h2
      have j6:(x2 == 2)=false:=by rw[Oh];exact h2
      have Q:M6 (_/\_/\_/\_/\_/\_):=⟨D,j,a,d0,J,I⟩;clear D j a S I b4 L N O R M P a7 Y J d4 l;go_wp2
      go_roundw
      case rel =>
       obtain⟨D,j,a,d0,J,I⟩:=Q.out;refine⟨k+1,p,n,c,rfl,by simp,hlt,by rw[I];exact J,by rw[I];exact D.alloc _,j.below (WQ _),a.alloc (by omega) _,by simp;omega⟩
      case measure=>simp[intOf];omega
    ·obtain rfl:k=G.liv.length:=by omega
     have i8:¬((G.liv.length:Int)<(G.liv.length:Int)):=by omega
     rw[apX]at J D;have Q:M6 (_/\_/\_):=⟨D,a,J⟩;clear D a J j;go_wp2;go_ret;refine⟨_,rfl,?_,Q.out.2.1⟩;have h9:=Yr Q.out.1;rw[ak5,Q.out.2.2]at h9;rw[Q.out.2.2];exact h9
end
section
variable {base:Nat}{w:MO}{g:Nat}{V:Vs}{G:Gt}
abbrev ag8(G:Gt):Obj:=MP #[MF ME G.cfg.flows,MF ME G.cfg.num,MF ME G.cfg.den,MF ME G.cfg.tries,MF ME G.cfg.warm,MF ME G.cfg.drain,MF ME G.cfg.idle,MF ME G.cfg.conn,MF ME G.cfg.ret,MF ME G.cfg.most,MF ME G.cfg.bn,MF ME G.cfg.bd,MF ME G.cfg.bb,MF ME G.cfg.wn,MF ME G.cfg.wf,MF ME G.cfg.wh] 42
theorem ahb(h:OR base w g V G)(hbs:Bs G)(hkey:0<=key/\key<=4294967295)(v:M7)(fs:List Fl)(hv:ZR w v fs)(hfs:∀f∈fs,0<=f.be/\f.be<12)(hl:fs.length<=40):
  Ni MK 86 #[gP g,MF ME key,v] w fun r w'=>r=MN (Nv #[MF ME (XD G key fs).1,M3 ((XD G key fs).2 == 0)])/\MQ w.heap.size w w':=by
 obtain⟨D,rfl⟩:=NL hkey.1;obtain⟨Q,P,rfl,b2,S,_⟩:=hv.F6;unfold NE at S;obtain⟨j,A⟩:∃j,j=acy (WW G.wts) (abp D:Nat):=⟨_,rfl⟩;have E:=auo (MG V.ps (WW G.wts).length V.cs) G.wts D w hbs.wts h.rest.ring.now (by omega);rw[<-A]at E;have a4:=h.GX;have b0:=h.lt;obtain⟨O,C⟩:∃O,O=XD G (D:Int) fs:=⟨_,rfl⟩;have J:O=ab6 j (aab G fs) G.cfg.num G.cfg.den (fs.length:Int) G.cfg.tries:=by
  rw[C,A];unfold XD ahS;rw[NR]
 rw[<-C];have H:M6 (_/\_/\_/\_/\_/\_/\_):=⟨h,hbs,hv,hfs,hl,E,J⟩;clear h hbs hv hfs E C J A hkey;go_enter WE,Wp
 go_wp2_with fail
 refine Nd H.out.2.2.2.2.2.1 ?_;rintro r e ⟨p,c,rfl,N,n⟩;have a:=H.out.1.below n;have c0:=a.c0;have c1:=a.c1;have c2:=a.c2;have c3:=a.c3;have c4:=a.c4;have c5:=a.c5;have c6:=a.c6;have c7:=a.c7;have c8:=a.c8;have c9:=a.c9;have a6:=a.Hf;have a0:=a.Hn;have T:=a.Hg;have a7:=a.GS;have U:=a.GU;have a8:=a.GO;have a9:=a.lt;obtain⟨W,q⟩:∃W,W=e.alloc (ag8 G):=⟨_,rfl⟩;have s:MQ e.heap.size e W:=by rw[q];exact WQ e
 have t:W.heap[e.heap.size]?=MI (ag8 G):=by rw[q];exact M1 _ _
 have F:=a.below s;have x:MQ w.heap.size w W:=n.trans (s.mono n.size);have K:ZR W (MG Q fs.length P) fs:=Xw.below H.out.2.2.1 x;have I:abE W (MG p j.length c) j:=Yr (YI N s);have o:∀ {X:MO},X.heap[e.heap.size]?=MI (ag8 G)->X.cell? ⟨e.heap.size,1,MH⟩=MI (MF ME G.cfg.num)/\X.cell? ⟨e.heap.size,2,MH⟩=MI (MF ME G.cfg.den)/\X.cell? ⟨e.heap.size,3,MH⟩=MI (MF ME G.cfg.tries):=fun {X} hX =>
  ⟨by rw[MW X _ 1 _ _ (0,0) hX];rfl,by rw[MW X _ 2 _ _ (0,0) hX];rfl,by rw[MW X _ 3 _ _ (0,0) hX];rfl⟩
 have a3:M6 (∀X,MQ W.heap.size W X->Ni MK 122 #[gP g,MG Q fs.length P] X fun r w'=>∃z m d,r=MN (MG z m d)/\(w'.cell? ⟨e.heap.size,1,MH⟩=MI (MF ME G.cfg.num)/\w'.cell? ⟨e.heap.size,2,MH⟩=MI (MF ME G.cfg.den)/\w'.cell? ⟨e.heap.size,3,MH⟩=MI (MF ME G.cfg.tries))/\M6 (aaR w' (MG z m d) (aab G fs)/\MQ W.heap.size W w')):=by
  refine fun X hX=>(ap1 (F.below hX) H.out.2.1 _ fs (Xw.below K hX) H.out.2.2.2.1 H.out.2.2.2.2.1).mono ?_
  rintro r w' ⟨y,rfl,u,B⟩;obtain⟨z,d,rfl,_⟩:=u.F6;have l:=hX.trans (B.mono hX.size);exact⟨z,_,d,rfl,o (WO t l),u,l⟩
 have HP:M6 (∀X z m d,MQ W.heap.size W X->aaR X (MG z m d) (aab G fs)->Ni MK 121 #[MG p j.length c,MG z m d,MF ME G.cfg.num,MF ME G.cfg.den,MF ME (fs.length:Int),MF ME G.cfg.tries] X fun r w'=>r=MN (Nv #[MF ME O.1,MF ME O.2])/\(w'.cell? ⟨e.heap.size,1,MH⟩=MI (MF ME G.cfg.num)/\w'.cell? ⟨e.heap.size,2,MH⟩=MI (MF ME G.cfg.den)/\w'.cell? ⟨e.heap.size,3,MH⟩=MI (MF ME G.cfg.tries))/\M6 (MQ W.heap.size W w')):=by
  refine fun X z m d hX u=>(atd (MG p j.length c) (MG z m d) j (aab G fs) G.cfg.num G.cfg.den (fs.length:Int) G.cfg.tries X (I.below hX) u).mono ?_
  rw[<-H.out.2.2.2.2.2.2];rintro r w' ⟨rfl,B⟩;have l:=hX.trans (B.mono hX.size);exact⟨rfl,o (WO t l),l⟩
 have a5:=o t;have M:M6 _:=x;clear a F n s t K I o x N
 go_wp2_with fail
 rw[<-q];clear q c0 c1 c2 c3 c4 c5 c6 c7 c8 c9 a6 a0 T a7 U a8 a4
 go_region_held3 (fun X=>X.cell? ⟨e.heap.size,1,MH⟩=MI (MF ME G.cfg.num)/\X.cell? ⟨e.heap.size,2,MH⟩=MI (MF ME G.cfg.den)/\X.cell? ⟨e.heap.size,3,MH⟩=MI (MF ME G.cfg.tries)) (first|exact a5|exact R|exact Z) (first|(go_at_call 122;refine(a3.out _ (by first|exact(MY _ _).drew|exact Below.refl _ _)).mono ?_;rintro r w4 ⟨z,m,d,rfl,R,L⟩)|(go_at_call 121;refine(HP.out _ z m d L.out.2 L.out.1).mono ?_;rintro r w5 ⟨rfl,Z,Y⟩))
 all_goals
  go_wp2
  go_ret2
  exact⟨rfl,M.out.trans (Y.out.mono M.out.size)⟩
end
section
variable {base:Nat}{w:MO}{g:Nat}{V:Vs}{G:Gt}
theorem ao8{w':MO}{r:Ending}{G':Gt}(h:aaa base w g V G' r w'):aam base w g V G' r w':=by
 obtain⟨e,f,a,c,d⟩:=h;exact⟨e,f,a,c.2.2,d⟩
theorem aqb(h:OR base w g V G)(hbs:Bs G)(hw:G.wnow=G.now)(hl:G.out.length<=900000)(hkey:0<=key/\key<=4294967295):
  Ni MK 60 #[gP g,MF ME key] w (aam base w g V (aaI G key)):=by
 have K:M6 _:=aoR (MG V.pt G.tab.length V.ct) G.tab w h.rest.tab.now;have b7:=h.Gs;have g5:=h.lt;have b6:∀f∈G.fls,0<=f.be/\f.be<12:=fun f hf=>(hbs.F9 hf).2.2.2
 have H:M6 (_/\_/\_/\_):=⟨h,hbs,hl,b6⟩;obtain⟨O,a⟩:∃O,O=aaI G key:=⟨_,rfl⟩;rw[<-a];have R:=a;unfold aaI at a;clear h hbs hl b6;cases hfree:G.tab.any Y1
 ·rw[hfree,Nh rfl]at a
  rw[hfree]at K;have HO:M6 _:=a;clear a R;go_enter azX,azV
  go_wp2_with fail
  refine Nd K.out ?_;rintro r w1 ⟨rfl,m⟩;have o:M6 (_/\_):=⟨af1 (H.out.1.below m) (by have:=H.out.2.2.1;omega) 2 9,WV.F5 (V:=V) (g:=g) m⟩;clear m
  go_wp2_with fail
  refine Nd o.out.1 ?_;rintro r w2 ⟨rfl,V2,u,I,F⟩;have p:M6 (_/\_/\_):=⟨u,I.2.2,o.out.2.F0 F⟩;clear u I F;go_wp2
  go_end0
  rw[HO.out];exact⟨rfl,V2,p.out.1,p.out.2.1,p.out.2.2⟩
 ·rw[hfree,Nf (by decide)]at a
  rw[hfree]at K;obtain⟨⟨J,P⟩,q⟩:∃P,P=XD G key G.fls:=⟨_,rfl⟩
  by_cases hc0:P=0
  ·subst hc0
   rw[<-q]at a;simp only[]at a;rw[Nf (by decide)]at a;have a3:=H.out.2.1.Ib (key:=key) H.out.2.1.Gb (by rw[<-q]);rw[<-q]at a3;have Z:0<=J/\J<12:=a3.2;obtain⟨d,B⟩:∃d,d=abv G key J:=⟨_,rfl⟩;obtain⟨i,Q⟩:∃i,i=Y3 G.fls (Y8 G.tab key J).2.1.1:=⟨_,rfl⟩;rw[<-B,<-Q]at a;have b4:Bs d:=by rw[B];exact H.out.2.1.Jn hfree hkey Z
   have d1:i<d.fls.length:=by
    rw[B,Q];show Y3 G.fls _<(Xi G.fls _ (Y3 G.fls _)).length;rw[ad1 _ _ (ad4 _ _)];have:=ad4 G.fls (Y8 G.tab key J).2.1.1;omega
   have A:d.cfg=G.cfg/\d.now=G.now/\d.wnow=G.wnow/\d.tok=G.tok/\d.out=G.out:=by rw[B];exact⟨rfl,rfl,rfl,rfl,rfl⟩
   have c:M6 (_/\_/\_/\_/\_/\_/\_/\_):=⟨a,b4,d1,A,Z,B,Q,hw⟩;have a6:M6 _:=q;clear a R b4 A Z B Q a3 hw q d1;go_enter azX,azV
   go_wp2_with fail
   refine Nd K.out ?_;rintro r w1 ⟨rfl,m⟩;have l:=H.out.1.below m;have b5:=l.Gr;have b3:=l.lt;have z:=ahb l H.out.2.1 hkey _ G.fls l.GK H.out.2.2.2 H.out.2.1.Gb;rw[<-a6.out]at z;have o:M6 (_/\_/\_):=⟨z,l,WV.F5 (V:=V) (g:=g) m⟩;clear m l z b7
   go_wp2_with fail
   refine Nd o.out.1 ?_;rintro r w2 ⟨rfl,y⟩;have u:=o.out.2.1.below y;have a7:=aql u H.out.2.1 hfree hkey c.out.2.2.2.2.1;rw[<-c.out.2.2.2.2.2.1,<-c.out.2.2.2.2.2.2.1]at a7;have p:M6 (_/\_):=⟨a7,o.out.2.2.below y⟩;clear y u a7 b5 b3
   go_wp2_with fail
   refine Nd p.out.1 ?_;rintro r w3 ⟨V3,bf,rfl,M,U,b2,b9⟩;have e7:w3.cell? ⟨g,7,MH⟩=MI (MF ME G.cfg.conn):=by rw[<-c.out.2.2.2.1.1];exact M.c7
   have f5:=M.lt;have d8:=H.out.2.1.now;have A:=c.out.2.2.2.1;have d0:=af2 M c.out.2.2.1 U (n:=G.cfg.conn) H.out.2.1.conn (c.out.2.1.F9 (Nk c.out.2.2.1)).1 (by rw[A.2.2.1,A.2.1];exact c.out.2.2.2.2.2.2.2) (by rw[A.2.1];exact d8);have v:M6 (_/\_/\_/\_):=⟨d0,p.out.2.F0 b9,U,b2⟩;clear M b9 U b2 d0 d8 A
   go_wp2_with fail
   refine Nd v.out.1 ?_;rintro r E ⟨rfl,V4,s,a4,d7⟩;obtain⟨j,L⟩:∃j,j=YW d i G.cfg.conn:=⟨_,rfl⟩;rw[<-L]at s;have x:j.cfg=d.cfg/\j.tok=d.tok/\j.out=d.out/\j.fls.length=d.fls.length:=by rw[L];exact⟨rfl,rfl,rfl,by show(d.fls.set i _).length=_;rw[NA]⟩
   have Y:i<j.fls.length:=by rw[x.2.2.2];exact c.out.2.2.1
   have d5:V4.pf=MI ⟨bf,0,MH⟩:=a4.1.trans v.out.2.2.1;obtain⟨f,a5⟩:∃f,f=j.fls[i]:=⟨_,rfl⟩;have fc:∀(X:MO) (V':Vs) (t:Int),OR base X g V' {j with tok:=t}->V'.pf=MI ⟨bf,0,MH⟩->X.cell? ⟨bf,i*7,MH⟩=MI (MF ME f.slot)/\X.cell? ⟨bf,i*7+1,MH⟩=MI (MF ME f.gen)/\X.cell? ⟨bf,i*7+2,MH⟩=MI (MF ME f.key)/\X.cell? ⟨bf,i*7+3,MH⟩=MI (MF ME f.be)/\X.cell? ⟨bf,i*7+4,MH⟩=MI (M3 f.srv)/\X.cell? ⟨bf,i*7+5,MH⟩=MI (MF ME f.ret)/\X.cell? ⟨bf,i*7+6,MH⟩=MI (MF ME f.due):=fun X V' t hX hp=>by
    rw[a5];exact hX.Gl hp Y
   have f6:E.cell? ⟨g,10,MH⟩=MI (MF ME G.cfg.bn):=by rw[<-c.out.2.2.2.1.1,<-x.1];exact s.Hf
   have g1:E.cell? ⟨g,11,MH⟩=MI (MF ME G.cfg.bd):=by rw[<-c.out.2.2.2.1.1,<-x.1];exact s.Hn
   have g4:E.cell? ⟨g,12,MH⟩=MI (MF ME G.cfg.bb):=by rw[<-c.out.2.2.2.1.1,<-x.1];exact s.Hg
   have d2:E.cell? ⟨g,23,MH⟩=MI (MF ME G.tok):=by rw[<-c.out.2.2.2.1.2.2.2.1,<-x.2.1];exact s.Id
   have f0:=s.lt;obtain⟨tk,a8⟩:∃tk,tk=(aa9 G.cfg.bn G.cfg.bd G.cfg.bb G.tok).1:=⟨_,rfl⟩;have b0:=v.out.2.1.F0 d7;have HE:M6 (∀X,MQ E.heap.size E X->Ni MK 89 #[Ny #[MF ME G.cfg.bn,MF ME G.cfg.bd,MF ME G.cfg.bb],Ny #[MF ME G.tok]] X fun r C=>∃e,r=MN (Nv #[Ny #[MF ME tk],MF ME e])/\C.cell? ⟨g,23,MH⟩=MI (MF ME G.tok)/\C.frozen? ⟨g,23,MH⟩=Nb/\g<C.heap.size/\M6 (OR base (C.setCell ⟨g,23,MH⟩ (MF ME tk)) g V4 {j with tok:=tk}/\WV V V4 g w (C.setCell ⟨g,23,MH⟩ (MF ME tk)))):=by
    refine fun X hX=>(ajR G.cfg.bn G.cfg.bd G.cfg.bb G.tok X).mono ?_
    rintro r C ⟨rfl,g2⟩;have S:=hX.trans (g2.mono hX.size);have a0:=s.below S;exact⟨_,by rw[a8],(S.cell f0).trans d2,a0.fz 23,a0.lt,a0.IC tk,(b0.below S).F4 23 _⟩
   have D:M6 (_/\_/\_/\_/\_/\_):=⟨fc,d5,a4.2.2.trans v.out.2.2.2,x,L,a8⟩;have f9:M6 (f=Xs j i):=by show f=_;rw[XA Y,a5]
   clear s a4 d7 x L fc d5 b0 a8 a5 Y e7 f5
   go_wp2_with fail
   go_region_with (first|(go_at_call 89;refine(HE.out _ (by first|exact(MY _ _).drew|exact Below.refl _ _)).mono ?_;rintro r w5 ⟨ee,rfl,g0,f8,e9,hQ⟩))
   all_goals
    obtain⟨w6,a9⟩:∃w6,w6=w5.setCell ⟨g,23,MH⟩ (MF ME tk):=⟨_,rfl⟩;have N:=hQ.out.1;have T:=hQ.out.2;rw[<-a9]at N T;obtain⟨x0,x1,x2,x3,x4,x5,x6⟩:=D.out.1 _ _ _ N D.out.2.1;have e8:({j with tok:=tk}:Gt).out.length<=1000000:=by show j.out.length<=1000000;rw[D.out.2.2.2.1.2.2.1,c.out.2.2.2.1.2.2.2.2];have:=H.out.2.2.1;omega
    have H6:M6 (_/\_):=⟨aeP N e8 1 f,T⟩;clear hQ N T e8 g0 f8 e9 f6 g1 g4 d2;rw[<-a9];clear a9
    go_wp2_with fail
    refine Nd H6.out.1 ?_;rintro r w7 ⟨rfl,V7,d4,b8,d3⟩;have H7:M6 (_/\_/\_):=⟨d4,b8.2.2.trans D.out.2.2.1,H6.out.2.F0 d3⟩;clear d4 b8 d3;go_wp2
    go_end0
    have hz:O=abi {j with tok:=tk} 1 f:=by rw[c.out.1,f9.out,D.out.2.2.2.2.2,D.out.2.2.2.2.1]
    rw[hz];exact⟨rfl,V7,H7.out.1,H7.out.2.1,H7.out.2.2⟩
  ·rw[<-q]at a
   simp only[]at a;rw[Nh hc0]at a;have g3:(P == 0)=false:=by rw[Oh];exact hc0
   have HO:M6 _:=a;have a6:M6 _:=q;clear a R q;go_enter azX,azV
   go_wp2_with fail
   refine Nd K.out ?_;rintro r w1 ⟨rfl,m⟩;have l:=H.out.1.below m;have b5:=l.Gr;have b3:=l.lt;have z:=ahb l H.out.2.1 hkey _ G.fls l.GK H.out.2.2.2 H.out.2.1.Gb;rw[<-a6.out,g3]at z;have o:M6 (_/\_/\_):=⟨z,l,WV.F5 (V:=V) (g:=g) m⟩;clear m l z b7
   go_wp2_with fail
   refine Nd o.out.1 ?_;rintro r w2 ⟨rfl,y⟩;have p:M6 (_/\_):=⟨af1 (o.out.2.1.below y) (by have:=H.out.2.2.1;omega) 2 11,o.out.2.2.below y⟩;clear y
   go_wp2_with fail
   refine Nd p.out.1 ?_;rintro r w3 ⟨rfl,V2,u,I,F⟩;have v:M6 (_/\_/\_):=⟨u,I.2.2,p.out.2.F0 F⟩;clear u I F;go_wp2
   go_end0
   rw[HO.out];exact⟨rfl,V2,v.out.1,v.out.2.1,v.out.2.2⟩
end
end Go.Proofs.YtidlemcdnhbceaaGreatDoor.Q
