/-
  Contracts of the layers and of core, part 14. Conditions: as each theorem says.
-/
import Derived.Test.YtlnbhjdhcmgljaaGreatDoorQ13
open Array renaming length_toList->Om
open Bool renaming false->Nb,true->Nw
open Decidable renaming decide->Nn
open Go renaming Addr->Oc,Calls->Ni,Value->M7,World->MO,cell_of_row->MW,heap_alloc_new->M1,info_parts->OF,maxLen->NE,wpList_append_lies->O9
open Go.Addr.mk renaming injEq->Q1
open Go.Builtin renaming append_->N2
open Go.Calls renaming mono->Nd,quiet_of->Qe
open Go.Ending renaming returned->MN
open Go.Extern.SlicesOverlaps renaming overlaps->P9
open Go.IntKind renaming i64->ME,wrap_i64->Ow
open Go.Obj renaming cells->MP
open Go.Proofs.Tryz renaming func112->SP,func162->VW,func170->S4,func206->RY,func78->WK,ntmps112->Su,ntmps162->VM,ntmps170->SC,ntmps78->WD,prog->MK,underlying3->Ol,underlying39->Qu
open Go.RowKit renaming Below->MQ,Hid->M6
open Go.RowKit.Below renaming heap_setCell->MU,refl->MY
open Go.Value renaming agg->Ny,bool->M3,int->MF,slice->MG,tuple->Nv
open Go.Value.slice renaming injEq->N4
open Go.World renaming block_lt_of_cell?->MX,frozen?->Ng,frozen?_of_block->OM,ownsRow_nil->NY,shape?->QO
open Int renaming eq_ofNat_of_zero_le->NL,toNat_natCast->NR
open List renaming append_nil->OG,countP_append->Qi,drop_append->Qa,drop_eq_nil_of_le->PI,ext_getElem->PX,filter_append->OY,getElem?_drop->Pa,getElem_mem->Nk,getElem_set->Pc,getElem_set_self->NW,length_append->Ns,length_drop->NJ,length_filter_le->O1,length_map->N0,length_set->NA,length_take->NH,length_zip->Qn,map_append->OI,mem_cons->OO,mem_of_getElem?->Nu,not_mem_nil->OD,range->Pm,replicate->Nj,take_append_of_le_length->ZqA,take_left->Qb,take_length->NT,take_succ_eq_append_getElem->M9
open Nat renaming le_refl->MV,le_succ->Ps,le_trans->Nm,lt_of_lt_of_le->M8,lt_or_ge->Oq,min_def->PR,zero_le->Nx
open Option renaming none->MH,some->MI
open Option.some renaming injEq->Qs
open Or renaming inl->Nt,inr->NF
namespace Go.Proofs.YtlnbhjdhcmgljaaGreatDoor.Q
set_option linter.unusedVariables false
set_option linter.unusedSimpArgs false
set_option maxHeartbeats 16000000
set_option maxRecDepth 100000
open Go.RowKit
attribute [local go_sem ↓] Go.wp_at_zero Go.wp_at_succ
variable {b key:Int}{i k:Nat}
section
variable {base:Nat}{w:MO}{g:Nat}{V:Vs}{G:Gt}
theorem ab.G5(h:ab base w g V G)(hi:i<12):
  ∃m x,V.ms[i]?=MI m/\G.hea[i]?=MI x/\G.hea.getD i bm=x/\w.cell? ⟨V.bh,i*4,MH⟩=MI (MG m.1 x.marks.length m.2)/\w.cell? ⟨V.bh,i*4+1,MH⟩=MI (M3 x.out)/\w.cell? ⟨V.bh,i*4+2,MH⟩=MI (MF ME x.till)/\w.cell? ⟨V.bh,i*4+3,MH⟩=MI (MF ME x.times)/\(∀j,w.frozen? ⟨V.bh,j,MH⟩=Nb)/\V.bh<w.heap.size:=by
 obtain⟨m,x,e1,e2,e3,e4⟩:=uB h.rest hi;obtain⟨hz,e3'⟩:=List.getElem?_eq_some_iff.1 e3;have hn:(12:Nat)=(V.ms.zip G.hea).length:=by rw[Qn,h.rest.msl,h.rest.hel];rfl
 have hc:=fun j (hj:j<4)=>gC ii h.rest.hea hn hz hj
 simp only[e3']at hc;exact⟨m,x,e1,e2,e4,(hc 0 (by omega)).trans rfl,(hc 1 (by omega)).trans rfl,(hc 2 (by omega)).trans rfl,(hc 3 (by omega)).trans rfl,fun j=>h.rest.hea.frozenAt j,(h.rest.hea.lt V.bh rfl).2⟩
theorem ab.G8(h:ab base w g V G):12<=V.ch/\V.ch<=9223372036854775807:=by
 rcases h.rest.hea.2 with⟨he,_⟩|⟨g',c',cur,he,_,_,h1,h2,_⟩
 ·cases he
 ·cases he
  unfold NE at h2;exact⟨h1,h2⟩
theorem Bv(h:ab base w g V G)(hbs:Bs G){l:FV}(hl:l∈G.liv) :
  Ni MK 201 #[gP g,gu l] w fun r w'=>r=MN (MF ME (gL G l))/\MQ w.heap.size w w':=by
 obtain⟨x1,x2,x3,x4,x5,x6⟩:=l;have hb:=(hbs.lf hl).1;have hsn:=hbs.since _ hl;have hnow:=hbs.now;have hwm:=hbs.cfg.2.2.2.2.1;obtain⟨⟨hb1,hb2⟩,⟨hw1,hw2⟩,⟨hs1,hs2⟩,_⟩:=hb;have hb1:0<=x1:=hb1;have hb2:x1<=11:=hb2;obtain⟨k,rfl⟩:=NL hb1;obtain⟨W,hW⟩:∃W,W=w.alloc (cE ((k:Int),x2,x3,x4,x5,x6)):=⟨_,rfl⟩;have hB:MQ w.heap.size w W:=by rw[hW];exact ai w
 have hR:W.heap[w.heap.size]?=MI (cE ((k:Int),x2,x3,x4,x5,x6)):=by rw[hW];exact M1 _ _
 have hG:=h.below hB;obtain⟨m,x,_,_,e4,_,q1,_,_,_,hbl⟩:=hG.G5 (i:=k) (by omega);have y0:W.cell? ⟨w.heap.size,0,MH⟩=MI (MF ME (k:Int)):=by rw[MW W _ 0 _ _ (0,0) hR];rfl
 have y2:W.cell? ⟨w.heap.size,2,MH⟩=MI (MF ME x3):=by rw[MW W _ 2 _ _ (0,0) hR];rfl
 have y3:W.cell? ⟨w.heap.size,3,MH⟩=MI (MF ME x4):=by rw[MW W _ 3 _ _ (0,0) hR];rfl
 have c22:=hG.GI;have c16:=hG.Gm;have c4:=hG.c4;have hgl:=hG.lt;have hch:=h.G8;have hkI:(k:Int)<12:=by omega
 have hk0:(0:Int)<=(k:Int):=by omega
 obtain⟨nw,hnw⟩:∃nw,nw=G.now:=⟨_,rfl⟩;have hout:gL G ((k:Int),x2,x3,x4,x5,x6)=if x.out=Nw then 0 else FZ x3 (G.now-x4) G.cfg.warm:=by
  unfold gL;simp only[NR];rw[e4]
 have HW:M6 (∀W':MO,Ni MK 26 #[MF ME x3,MF ME x4,MF ME G.now,MF ME G.cfg.warm] W' fun r w'=>r=MN (Nv #[MF ME (FZ x3 (G.now-x4) G.cfg.warm),MF ME 0])/\w'=W'):=fun W' =>
  zg x3 x4 G.now G.cfg.warm W' hw1 hw2 ⟨hs1,hs2,hwm.1,hwm.2⟩ hsn (by omega)
 have H:M6 (_/\_):=⟨hB,hout⟩;clear h hbs hl hsn hnow hwm hb1 hb2 hw1 hw2 hs1 hs2 hB hR hG e4 hout hnw;cases ho:x.out
 ·rw[H.out.2,ho,Nf (by decide)]
  rw[ho]at q1;go_enter Tryz.func201,Tryz.ntmps201
  go_wp2_with fail
  rw[<-hW];clear hW
  go_quiet (fail)
  have z2:(W.drewN nq).cell? ⟨w.heap.size,2,MH⟩=MI (MF ME x3):=y2;have z3:(W.drewN nq).cell? ⟨w.heap.size,3,MH⟩=MI (MF ME x4):=y3;have z16:(W.drewN nq).cell? ⟨g,16,MH⟩=MI (MF ME G.now):=c16;have z4:(W.drewN nq).cell? ⟨g,4,MH⟩=MI (MF ME G.cfg.warm):=c4;have HZ:M6 _:=dz H.out.1 nq;generalize W.drewN nq=W1 at *;clear y0 y2 y3 c16 c4 c22 q1 hgl hbl
  go_wp2_with fail
  go_quiet ((go_at_call 26;exact Qe ((HW.out _).mono fun r w' h=>⟨h.1,0,h.2⟩)))
  go_wp2;go_ret;exact⟨rfl,dz HZ.out _⟩
 ·rw[H.out.2,ho,Nh rfl]
  rw[ho]at q1;go_enter Tryz.func201,Tryz.ntmps201
  go_wp2_with fail
  rw[<-hW];clear hW
  go_quiet (fail)
  go_wp2;go_ret;exact⟨rfl,dz H.out.1 _⟩
end
section
variable {base:Nat}{w:MO}{g:Nat}{V:Vs}{G:Gt}
theorem CB(L:List FV)(x:FV):gv (L++[x])=gv L+if x.2.1=2 then 1 else 0:=by
 unfold gv;rw[Qi]
 by_cases h:x.2.1=2 <;> simp[h]
theorem zA(L:List FV)(x:FV)(H:List He):fN (L++[x]) H=fN L H+if x.2.1=2/\(H.getD x.1.toNat bm).out=Nw then 1 else 0:=by
 unfold fN;rw[Qi,List.countP_singleton];generalize H.getD x.1.toNat bm=y
 by_cases h:x.2.1=2
 ·cases h2:y.out <;> simp[h]
 ·have:(x.2.1 == 2)=false:=by rw[Oh];exact h
  simp[h,this]
theorem AO(L:List FV):gv L<=L.length:=List.countP_le_length
theorem FL(L:List FV)(H:List He):fN L H<=L.length:=List.countP_le_length
theorem xQ(h:ab base w g V G)(hbs:Bs G)(b:Int) :
  Ni MK 215 #[gP g,MF ME b] w fun r w'=>r=MN (M3 (gy G b))/\MQ w.heap.size w w':=by
 have hliv:=hbs.book.1.1;have c19:=h.Gn;have hgl:=h.lt;have hch:=h.G8;obtain⟨al,cal,hel,hcal,hmal,pal⟩:=jH.F6 h.rest.book.now.1;injection hel with el1 _ el3;unfold NE at hmal;rw[el1,el3]at c19;obtain⟨ans,hans⟩:∃ans,ans=gy G b:=⟨_,rfl⟩;rw[<-hans];have H:M6 (_/\_/\_):=⟨h,hbs,pal⟩;have HN:M6 _:=hans;clear h hbs pal el1 el3 hans;go_enter Tryz.func215,Tryz.ntmps215;go_wp2
 go_loopw [5,6,18] (fun s5 s6 t wr=>∃k:Nat,s5=MF ME (gv (G.liv.take k):Nat)/\s6=MF ME (fN (G.liv.take k) G.hea:Nat)/\t=MF ME k/\k<=G.liv.length/\MQ w.heap.size w wr) (fun _ _ t _=>G.liv.length-(intOf t).toNat)
 case atStart=>exact⟨0,rfl,rfl,rfl,Nx _,MY _ _⟩
 case round =>
  obtain⟨k,rfl,rfl,rfl,hk,hbr⟩:=hrel
  by_cases hlt:k<G.liv.length
  ·obtain⟨b1,o1,hpa,hb1,z0,z1,z2,z3,z4,z5⟩:=H.out.2.2 k hlt
   subst hpa;have hlf:=(H.out.2.1.lf (Nk hlt)).1.1;have htk:G.liv.take (k+1)=G.liv.take k++[G.liv[k]]:=M9 hlt;have hs1:=CB (G.liv.take k) G.liv[k];have hs2:=zA (G.liv.take k) G.liv[k] G.hea;rw[<-htk]at hs1 hs2;have ha1:=AO (G.liv.take k);have ha2:=FL (G.liv.take k) G.hea;rw[NH]at ha1 ha2;obtain⟨⟨x1,x2,x3,x4,x5,x6⟩,hxe⟩:∃x,x=G.liv[k]:=⟨_,rfl⟩;rw[<-hxe]at z0 z1 z2 z3 z4 z5 hlf hs1 hs2;have hlf:0<=x1/\x1<=11:=hlf;obtain⟨n,rfl⟩:=NL hlf.1;have hn12:(n:Int)<12:=by omega
   have hn0:(0:Int)<=(n:Int):=by omega
   obtain⟨na,hna⟩:∃na,na=gv (G.liv.take k):=⟨_,rfl⟩;obtain⟨no,hno⟩:∃no,no=fN (G.liv.take k) G.hea:=⟨_,rfl⟩;rw[<-hna]at hs1 ha1⊢;rw[<-hno]at hs2 ha2⊢;have hwr1:IntKind.i64.wrap ((na:Int)+1)=(na:Int)+1:=by rw[Ow];omega
   have hwr2:IntKind.i64.wrap ((no:Int)+1)=(no:Int)+1:=by rw[Ow];omega
   have e0:=(hbr.cell (p:=⟨b1,o1+k*6,MH⟩) hb1).trans z0;have e1:=(hbr.cell (p:=⟨b1,o1+k*6+1,MH⟩) hb1).trans z1;have e2:=(hbr.cell (p:=⟨b1,o1+k*6+2,MH⟩) hb1).trans z2;have e3:=(hbr.cell (p:=⟨b1,o1+k*6+3,MH⟩) hb1).trans z3;have e4:=(hbr.cell (p:=⟨b1,o1+k*6+4,MH⟩) hb1).trans z4;have e5:=(hbr.cell (p:=⟨b1,o1+k*6+5,MH⟩) hb1).trans z5;have hbk2:b1<wr.heap.size:=M8 hb1 hbr.size;have hkI:(k:Int)<(G.liv.length:Int):=by omega
   by_cases h2:x2=2
   ·subst h2
    obtain⟨W2,hW2⟩:∃W2,W2=wr.alloc (cE ((n:Int),2,x3,x4,x5,x6)):=⟨_,rfl⟩;have hB2:MQ wr.heap.size wr W2:=by rw[hW2];exact ai wr
    have hR2:W2.heap[wr.heap.size]?=MI (cE ((n:Int),2,x3,x4,x5,x6)):=by rw[hW2];exact M1 _ _
    have hG2:=(H.out.1.below hbr).below hB2;obtain⟨m,x,_,_,f4,_,q1,_,_,_,hbl⟩:=hG2.G5 (i:=n) (by omega);have y0:W2.cell? ⟨wr.heap.size,0,MH⟩=MI (MF ME (n:Int)):=by rw[MW W2 _ 0 _ _ (0,0) hR2];rfl
    have d22:=hG2.GI;have hgl2:=hG2.lt;have hlW:wr.heap.size<W2.heap.size:=(Array.getElem?_eq_some_iff.1 hR2).1;have hf4:(G.hea.getD ((n:Int),(2:Int),x3,x4,x5,x6).1.toNat bm).out=x.out:=by rw[<-f4];rfl
    rw[hf4]at hs2;cases ho:x.out
    ·rw[ho]at q1
     have HR:M6 (_/\_/\_):=⟨hs1,(by rw[hs2,ho,Nf (by simp)];rfl:fN (G.liv.take (k+1)) G.hea=no),hbr.trans (hB2.mono hbr.size)⟩;clear hbr hB2 hR2 hG2 f4 hf4 hs1 hs2 htk hxe z0 z1 z2 z3 z4 z5 hlf hna hno hb1
     go_wp2_with fail
     rw[<-hW2];clear hW2
     go_quiet (fail)
     go_wp2
     go_roundw
     case rel=>exact⟨k+1,by rw[HR.out.1];rfl,by rw[HR.out.2.1],by simp,hlt,dz HR.out.2.2 _⟩
     case measure=>simp[intOf];omega
    ·rw[ho]at q1
     have HR:M6 (_/\_/\_):=⟨hs1,(by rw[hs2,ho,Nh ⟨rfl,rfl⟩]:fN (G.liv.take (k+1)) G.hea=no+1),hbr.trans (hB2.mono hbr.size)⟩;clear hbr hB2 hR2 hG2 f4 hf4 hs1 hs2 htk hxe z0 z1 z2 z3 z4 z5 hlf hna hno hb1
     go_wp2_with fail
     rw[<-hW2];clear hW2
     go_quiet (fail)
     go_wp2
     go_roundw
     case rel=>exact⟨k+1,by rw[HR.out.1];rfl,by rw[HR.out.2.1];rfl,by simp,hlt,dz HR.out.2.2 _⟩
     case measure=>simp[intOf];omega
   ·have hne:(x2 != 2)=true:=by simpa using h2
    have HR:M6 (_/\_/\_):=⟨(by rw[hs1,Nf h2];rfl:gv (G.liv.take (k+1))=na),(by rw[hs2,Nf (fun h=>h2 h.1)];rfl:fN (G.liv.take (k+1)) G.hea=no),hbr.trans ((ai wr (o:=cE ((n:Int),x2,x3,x4,x5,x6))).mono hbr.size)⟩;clear hbr hs1 hs2 htk hxe z0 z1 z2 z3 z4 z5 hlf hna hno hb1;go_wp2
    go_roundw
    case rel=>exact⟨k+1,by rw[HR.out.1],by rw[HR.out.2.1],by simp,hlt,HR.out.2.2⟩
    case measure=>simp[intOf];omega
  ·obtain rfl:k=G.liv.length:=by omega
   rw[NT];have hlt3:¬((G.liv.length:Int)<(G.liv.length:Int)):=by omega
   obtain⟨O,hO⟩:∃O,O=iU (fN G.liv G.hea:Int) (gv G.liv:Int) G.cfg.most:=⟨_,rfl⟩;have HA:M6 (∀X:MO,Ni MK 244 #[MF ME (fN G.liv G.hea:Int),MF ME (gv G.liv:Int),MF ME G.cfg.most] X fun r w'=>r=MN (Nv #[M3 O.1,MF ME O.2])/\w'=X):=by
    rw[hO];exact fun X=>xe _ _ _ X
   have hG1:=H.out.1.below hbr;have d9:=hG1.c9;have hgl1:=hG1.lt;obtain⟨x,hx⟩:∃x,x=aq G.liv b:=⟨_,rfl⟩;have HLf:M6 (_/\_):=⟨m6 hG1 b,hbr⟩;rw[<-hx]at HLf;have HE:M6 (ans=(O.1 && (x.2.1 == 2))):=by show ans=_;rw[HN.out];unfold gy;rw[<-hO,hx]
   clear hG1 hO hx;have hfd:∀X:MO,(Instr.field 91 (gu x) 1).run MK X=.ok (MF ME x.2.1) X:=fun X=>by kernel_rfl
   cases hO1:O.1
   ·go_wp2_with fail
    refine(HA.out _).mono ?_;rw[hO1];rintro r w3 ⟨rfl,rfl⟩;go_wp2;go_ret;exact⟨by rw[HE.out,hO1];rfl,HLf.out.2⟩
   ·go_wp2_with fail
    refine(HA.out _).mono ?_;rw[hO1];rintro r w3 ⟨rfl,rfl⟩
    go_wp2_with fail
    refine Nd HLf.out.1 ?_;rintro r w4 ⟨rfl,hb4⟩;have HB:M6 _:=HLf.out.2.trans (hb4.mono HLf.out.2.size);clear hb4;go_wp2;go_ret;exact⟨by rw[HE.out,hO1];rfl,HB.out⟩
abbrev gF(p:Option Oc)(c:Nat)(x:He):Value:=Ny #[MG p x.marks.length c,M3 x.out,MF ME x.till,MF ME x.times]
theorem ab.Hz(h:ab base w g V G){w':MO}(hb:MQ w.heap.size w w')(i:Nat)(a b c d:M7)(ms:List Mk) :
  am V {V with ms:=ms} g w ((((w'.setCell ⟨V.bh,i*4,MH⟩ a).setCell ⟨V.bh,i*4+1,MH⟩ b).setCell ⟨V.bh,i*4+2,MH⟩ c).setCell ⟨V.bh,i*4+3,MH⟩ d):=by
 refine⟨hb.os,hb.tape,hb.output,by simpa using hb.size,fun k hk hn=>?_,fun _ h=>Nt h⟩;have hne:k≠V.bh:=fun e=>hn (NF (Nt e))
 rw[MU _ _ _ _ hne,MU _ _ _ _ hne,MU _ _ _ _ hne,MU _ _ _ _ hne];exact hb.block k hk
theorem tq(h:ab base w g V G)(hbs:Bs G)(hb:0<=b/\b<12)(fl:Bool):
  Ni MK 170 #[gP g,MF ME b,M3 fl] w (ew base w g V (dg G b fl)):=by
 obtain⟨k,rfl⟩:=NL hb.1;have hk:k<12:=by omega
 obtain⟨m,x,em,ex,e4,q0,q1,q2,q3,qf,hbl⟩:=h.G5 hk;have hmk:=h.rest.marks k m x em ex;have hhk:=hbs.hea x (Nu ex);have hml:x.marks.length<=16:=by have:=hhk.1;have:=hbs.Gx.1.2;omega
 obtain⟨y,hy⟩:∃y,y=mr G (k:Int) fl:=⟨_,rfl⟩;have hyO:y=mv (di G.cfg.wn G.cfg.wf G.cfg.wh x.marks x.out x.till x.times fl G.now (gy G k)).1:=by
  rw[hy];unfold mr;rw[NR,e4]
 have hnote:dg G (k:Int) fl={G with hea:=G.hea.set k y}:=by unfold dg;rw[NR,hy]
 rw[hnote];have c22:=h.GI;have hgl:=h.lt;have hch:=h.G8;have hgb:¬g=V.bh:=fun e=>h.rest.hg e.symm
 have hgb2:¬V.bh=g:=h.rest.hg;have hkI:(k:Int)<12:=by omega
 have hk0:(0:Int)<=(k:Int):=by omega
 have c13:=h.GS;have c14:=h.GU;have c15:=h.GO;have c16:=h.Gm;have gc:∀ {X:MO},ab base X g V G->X.cell? ⟨g,13,MH⟩=MI (MF ME G.cfg.wn)/\X.cell? ⟨g,14,MH⟩=MI (MF ME G.cfg.wf)/\X.cell? ⟨g,15,MH⟩=MI (MF ME G.cfg.wh)/\X.cell? ⟨g,16,MH⟩=MI (MF ME G.now):=fun {X} hX=>⟨hX.GS,hX.GU,hX.GO,hX.Gm⟩
 have hcs:∀ {X:MO},MQ w.heap.size w X->X.cell? ⟨V.bh,k*4,MH⟩=MI (MG m.1 x.marks.length m.2)/\X.cell? ⟨V.bh,k*4+1,MH⟩=MI (M3 x.out)/\X.cell? ⟨V.bh,k*4+2,MH⟩=MI (MF ME x.till)/\X.cell? ⟨V.bh,k*4+3,MH⟩=MI (MF ME x.times)/\(∀j,X.frozen? ⟨V.bh,j,MH⟩=Nb)/\V.bh<X.heap.size:=fun {X} hX =>
  ⟨(hX.cell hbl).trans q0,(hX.cell hbl).trans q1,(hX.cell hbl).trans q2,(hX.cell hbl).trans q3,fun j=>(OM (a:=⟨V.bh,j,MH⟩) (hX.block V.bh hbl)).trans (qf j),M8 hbl hX.size⟩
 have HM:M6 (∀X,MQ w.heap.size w X->Ni MK 215 #[gP g,MF ME (k:Int)] X fun r w'=>r=MN (M3 (gy G k))/\(w'.cell? ⟨g,13,MH⟩=MI (MF ME G.cfg.wn)/\w'.cell? ⟨g,14,MH⟩=MI (MF ME G.cfg.wf)/\w'.cell? ⟨g,15,MH⟩=MI (MF ME G.cfg.wh)/\w'.cell? ⟨g,16,MH⟩=MI (MF ME G.now))/\(w'.cell? ⟨V.bh,k*4,MH⟩=MI (MG m.1 x.marks.length m.2)/\w'.cell? ⟨V.bh,k*4+1,MH⟩=MI (M3 x.out)/\w'.cell? ⟨V.bh,k*4+2,MH⟩=MI (MF ME x.till)/\w'.cell? ⟨V.bh,k*4+3,MH⟩=MI (MF ME x.times))/\M6 (MQ w.heap.size w w')):=by
  refine fun X hX=>(xQ (h.below hX) hbs (k:Int)).mono ?_
  rintro r w' ⟨rfl,hb'⟩;have hb3:=hX.trans (hb'.mono hX.size);have hc:=hcs hb3;exact⟨rfl,gc (h.below hb3),⟨hc.1,hc.2.1,hc.2.2.1,hc.2.2.2.1⟩,hb3⟩
 have HN:M6 (∀X,MQ w.heap.size w X->Ni MK 214 #[Ny #[MF ME G.cfg.wn,MF ME G.cfg.wf,MF ME G.cfg.wh],gF m.1 m.2 x,M3 fl,MF ME G.now,M3 (gy G k)] X fun r w'=>∃p c e1 e2,r=MN (Nv #[gF p c y,M3 e1,MF ME e2])/\(w'.cell? ⟨g,13,MH⟩=MI (MF ME G.cfg.wn)/\w'.cell? ⟨g,14,MH⟩=MI (MF ME G.cfg.wf)/\w'.cell? ⟨g,15,MH⟩=MI (MF ME G.cfg.wh)/\w'.cell? ⟨g,16,MH⟩=MI (MF ME G.now)) /\
   (((((w'.setCell ⟨V.bh,k*4,MH⟩ (MG p y.marks.length c)).setCell ⟨V.bh,k*4+1,MH⟩ (M3 y.out)).setCell ⟨V.bh,k*4+2,MH⟩ (MF ME y.till)).setCell ⟨V.bh,k*4+3,MH⟩ (MF ME y.times)).cell? ⟨g,13,MH⟩=MI (MF ME G.cfg.wn)/\((((w'.setCell ⟨V.bh,k*4,MH⟩ (MG p y.marks.length c)).setCell ⟨V.bh,k*4+1,MH⟩ (M3 y.out)).setCell ⟨V.bh,k*4+2,MH⟩ (MF ME y.till)).setCell ⟨V.bh,k*4+3,MH⟩ (MF ME y.times)).cell? ⟨g,14,MH⟩=MI (MF ME G.cfg.wf)/\((((w'.setCell ⟨V.bh,k*4,MH⟩ (MG p y.marks.length c)).setCell ⟨V.bh,k*4+1,MH⟩ (M3 y.out)).setCell ⟨V.bh,k*4+2,MH⟩ (MF ME y.till)).setCell ⟨V.bh,k*4+3,MH⟩ (MF ME y.times)).cell? ⟨g,15,MH⟩=MI (MF ME G.cfg.wh)/\((((w'.setCell ⟨V.bh,k*4,MH⟩ (MG p y.marks.length c)).setCell ⟨V.bh,k*4+1,MH⟩ (M3 y.out)).setCell ⟨V.bh,k*4+2,MH⟩ (MF ME y.till)).setCell ⟨V.bh,k*4+3,MH⟩ (MF ME y.times)).cell? ⟨g,16,MH⟩=MI (MF ME G.now)) /\
   (w'.cell? ⟨V.bh,k*4,MH⟩=MI (MG m.1 x.marks.length m.2)/\w'.cell? ⟨V.bh,k*4+1,MH⟩=MI (M3 x.out)/\w'.cell? ⟨V.bh,k*4+2,MH⟩=MI (MF ME x.till)/\w'.cell? ⟨V.bh,k*4+3,MH⟩=MI (MF ME x.times)/\w'.frozen? ⟨V.bh,k*4,MH⟩=Nb/\w'.frozen? ⟨V.bh,k*4+1,MH⟩=Nb/\w'.frozen? ⟨V.bh,k*4+2,MH⟩=Nb/\w'.frozen? ⟨V.bh,k*4+3,MH⟩=Nb/\V.bh<w'.heap.size) /\
   M6 (ab base ((((w'.setCell ⟨V.bh,k*4,MH⟩ (MG p y.marks.length c)).setCell ⟨V.bh,k*4+1,MH⟩ (M3 y.out)).setCell ⟨V.bh,k*4+2,MH⟩ (MF ME y.till)).setCell ⟨V.bh,k*4+3,MH⟩ (MF ME y.times)) g {V with ms:=V.ms.set k (p,c)} {G with hea:=G.hea.set k y}/\am V {V with ms:=V.ms.set k (p,c)} g w ((((w'.setCell ⟨V.bh,k*4,MH⟩ (MG p y.marks.length c)).setCell ⟨V.bh,k*4+1,MH⟩ (M3 y.out)).setCell ⟨V.bh,k*4+2,MH⟩ (MF ME y.till)).setCell ⟨V.bh,k*4+3,MH⟩ (MF ME y.times)))):=by
  refine fun X hX=>(CZ G.cfg.wn G.cfg.wf G.cfg.wh (MG m.1 x.marks.length m.2) x.marks x.out x.till x.times fl G.now (gy G k) X (hmk.below hX).now (by omega)).mono ?_
  rintro r w' ⟨p,c,rfl,hbs',hnew,hb'⟩;have hb3:=hX.trans (hb'.mono hX.size);have hc:=hcs hb3;have hG3:=h.below hb3;have hap:cX (V.off base g) w' fun Z=>bK Z (MG p y.marks.length c) y.marks:=by
   rw[hyO];exact fU hbs' (fun z e=>h.rest.GF (Nm hX.size (hnew z (by rw[cS];exact e))))
  have hG4:=hG3.Ir hk hap;refine⟨p,c,(di G.cfg.wn G.cfg.wf G.cfg.wh x.marks x.out x.till x.times fl G.now (gy G k)).2.1,(di G.cfg.wn G.cfg.wf G.cfg.wh x.marks x.out x.till x.times fl G.now (gy G k)).2.2,by rw[hyO];rfl,gc hG3,⟨hG4.GS,hG4.GU,hG4.GO,hG4.Gm⟩,⟨hc.1,hc.2.1,hc.2.2.1,hc.2.2.2.1,hc.2.2.2.2.1 _,hc.2.2.2.2.1 _,hc.2.2.2.2.1 _,hc.2.2.2.2.1 _,hc.2.2.2.2.2⟩,hG4,h.Hz hb3 k _ _ _ _ _⟩
 have hS0:=gc h;clear h hbs hmk hhk hml hy hyO hnote em ex e4 gc hcs qf hb;go_enter S4,SC
 go_wp2_with fail
 obtain⟨s13,s14,s15,s16⟩:=hS0
 go_region_with (first|(go_at_call 215;refine(HM.out _ (by first|exact(MY _ _).drew|exact Below.refl _ _)).mono ?_;rintro r w4 ⟨rfl,⟨o13,o14,o15,o16⟩,⟨t0,t1,t2,t3⟩,hQ1⟩)|(go_at_call 214;refine(HN.out _ hQ1.out).mono ?_;rintro r w5 ⟨p,c,e1,e2,rfl,_,_,⟨u0,u1,u2,u3,v0,v1,v2,v3,vlt⟩,hQ⟩))
 all_goals
  go_wp2
  go_end0
  exact⟨rfl,_,hQ.out.1,⟨rfl,rfl,rfl⟩,hQ.out.2⟩
end
section
variable {base:Nat}{w:MO}{g:Nat}{V:Vs}{G:Gt}
abbrev km(X:MO)(bf i:Nat)(f:Fl):Prop:=X.cell? ⟨bf,i*7,MH⟩=MI (MF ME f.slot)/\X.cell? ⟨bf,i*7+1,MH⟩=MI (MF ME f.gen)/\X.cell? ⟨bf,i*7+2,MH⟩=MI (MF ME f.key)/\X.cell? ⟨bf,i*7+3,MH⟩=MI (MF ME f.be)/\X.cell? ⟨bf,i*7+4,MH⟩=MI (M3 f.srv)/\X.cell? ⟨bf,i*7+5,MH⟩=MI (MF ME f.ret)/\X.cell? ⟨bf,i*7+6,MH⟩=MI (MF ME f.due)
theorem ab.Gw(h:ab base w g V G){bf:Nat}(hp:V.pf=MI ⟨bf,0,MH⟩)(hi:i<G.fls.length):km w bf i (aQ G i):=by
 rw[bJ hi];exact h.Gl hp hi
theorem sb{G1 G2:Gt}{y:Fl}(h:G2=eT G1 i y)(hi:i<G1.fls.length):∃hi2:i<G2.fls.length,G2.fls[i]=y:=by
 subst h;exact⟨by show i<(G1.fls.set i y).length;rw[NA];exact hi,NW (h:=by rw[NA];exact hi)⟩
theorem uw{G1 G:Gt}{f:Fl}(h:G1.fls=G.fls)(hi:i<G.fls.length)(hf:f=aQ G i):∃hi1:i<G1.fls.length,G1.fls[i]=f:=by
 have hi1:i<G1.fls.length:=by rw[h];exact hi
 refine⟨hi1,?_⟩;rw[<-bJ hi1,hf];unfold aQ;rw[h]
theorem ra(i:Nat)(n:Int):(dU G i n).fls.length=G.fls.length:=by
 show(G.fls.set i _).length=_;rw[NA]
theorem Ag(h:ab base w g V G)(hbs:Bs G)(hw:G.wnow=G.now)(hl:G.out.length<=900000)(hi:i<G.fls.length){bf:Nat}(hp:V.pf=MI ⟨bf,0,MH⟩):
  Ni MK 119 #[gP g,fP bf i] w (eK base w g V (mV G i)):=by
 obtain⟨O,hO⟩:∃O,O=mV G i:=⟨_,rfl⟩;rw[<-hO];unfold mV at hO;obtain⟨f,hf⟩:∃f,f=aQ G i:=⟨_,rfl⟩;have hq:=h.Gw hp hi;rw[<-hf]at hO hq;have hsl:0<=G.fls[i].slot/\G.fls[i].slot<40:=(hbs.F9 (Nk hi)).1;obtain⟨q0,q1,q2,q3,q4,q5,q6⟩:=hq;have hgl:=h.lt;cases hsv:f.srv
 ·rw[hsv,Nf (by decide)]at hO
  simp only[]at hO;rw[<-hf]at hO;have H:M6 (_/\_):=⟨kV h (by omega) 3 f,hO⟩;rw[hsv]at q4;clear h hbs hO hf hw hl hsl;go_enter Tryz.func119,Tryz.ntmps119
  go_wp2_with fail
  have hfa:dM f=Ny #[MF ME f.slot,MF ME f.gen,MF ME f.key,MF ME f.be,M3 Nb,MF ME f.ret,MF ME f.due]:=by rw[<-hsv]
  have HT:=H.out.1;rw[hfa]at HT;refine Nd HT ?_;rintro r w7 ⟨rfl,V7,hG7,hV7,hF7⟩;have H7:M6 (_/\_/\_):=⟨hG7,hV7.2.2,hF7⟩;clear hG7 hV7 hF7;go_wp2
  go_end0
  rw[H.out.2];exact⟨rfl,V7,H7.out.1,H7.out.2.1,H7.out.2.2⟩
 ·rw[hsv,Nh rfl]at hO
  simp only[]at hO;have c6:=h.c6;rw[hsv]at q4;obtain⟨G1,hG1⟩:∃G1,G1=dU G i G.cfg.idle:=⟨_,rfl⟩;have HW:=mT h hi hp (n:=G.cfg.idle) hbs.idle hsl hw hbs.now;rw[<-hG1]at hO HW;have hi1:i<G1.fls.length:=by rw[hG1,ra];exact hi
  have hl1:G1.out.length<=1000000:=by rw[hG1];show G.out.length<=1000000;omega
  have H:M6 (_/\_/\_/\_/\_):=⟨HW,hO,hi1,hl1,hp⟩;clear h hbs hO hf hw hl hsl HW hG1 hi1 hl1 hp hi;go_enter Tryz.func119,Tryz.ntmps119
  go_wp2_with fail
  refine Nd H.out.1 ?_;rintro r w1 ⟨rfl,V1,hG1,hV1,hF1⟩;obtain⟨f1,hf1⟩:∃f1,f1=aQ G1 i:=⟨_,rfl⟩;have hx:=hG1.Gw (hV1.1.trans H.out.2.2.2.2) H.out.2.2.1;rw[<-hf1]at hx;obtain⟨x0,x1,x2,x3,x4,x5,x6⟩:=hx;have H1:M6 (_/\_/\_/\_):=⟨kV hG1 H.out.2.2.2.1 3 f1,hV1.2.2,hF1,hf1⟩;clear hG1 hV1 hF1 hf1 q0 q1 q2 q3 q4 q5 q6 c6
  go_wp2_with fail
  refine Nd H1.out.1 ?_;rintro r w7 ⟨rfl,V7,hG7,hV7,hF7⟩;have H7:M6 (_/\_/\_):=⟨hG7,hV7.2.2.trans H1.out.2.1,H1.out.2.2.1.F0 hF7⟩;clear hG7 hV7 hF7;go_wp2
  go_end0
  rw[H.out.2.1,<-H1.out.2.2.2];exact⟨rfl,V7,H7.out.1,H7.out.2.1,H7.out.2.2⟩
theorem EI(h:ab base w g V G)(hbs:Bs G)(hw:G.wnow=G.now)(hl:G.out.length<=900000)(hi:i<G.fls.length){bf:Nat}(hp:V.pf=MI ⟨bf,0,MH⟩):
  Ni MK 120 #[gP g,fP bf i] w (eK base w g V (mX G i)):=by
 obtain⟨O,hO⟩:∃O,O=mX G i:=⟨_,rfl⟩;rw[<-hO];unfold mX at hO;simp only[]at hO;obtain⟨f,hf⟩:∃f,f=aQ G i:=⟨_,rfl⟩;have hfm:f∈G.fls:=by rw[hf,bJ hi];exact Nk hi
 have hbd:=hbs.F9 hfm;obtain⟨q0,q1,q2,q3,q4,q5,q6⟩:=h.Gw hp hi;rw[<-hf]at hO q0 q1 q2 q3 q4 q5 q6;have hgl:=h.lt;obtain⟨G1,hG1⟩:∃G1,G1=dg G f.be false:=⟨_,rfl⟩;have HN:=tq h hbs hbd.2.2.2 Nb;have hbs1:=hbs.GA hbd.2.2.2 Nb;rw[<-hG1]at hO HN hbs1;have hsm:G1.fls=G.fls/\G1.cfg=G.cfg/\G1.now=G.now/\G1.wnow=G.wnow/\G1.out=G.out:=by rw[hG1];exact⟨rfl,rfl,rfl,rfl,rfl⟩
 have H:M6 (_/\_/\_/\_/\_/\_/\_/\_):=⟨HN,hO,hbs1,hsm,hp,hi,hf,hfm⟩;have HX:M6 (_/\_/\_/\_):=⟨hbs,hw,hl,hbd⟩;clear h hbs hO hf hw hl hbd HN hG1 hsm hbs1 hp hi hfm;go_enter Tryz.func120,Tryz.ntmps120
 go_wp2_with fail
 refine Nd H.out.1 ?_;rintro r w1 ⟨rfl,V1,hG1,hV1,hF1⟩;have hp1:V1.pf=MI ⟨bf,0,MH⟩:=hV1.1.trans H.out.2.2.2.2.1;obtain⟨hi1,hff⟩:=uw H.out.2.2.2.1.1 H.out.2.2.2.2.2.1 H.out.2.2.2.2.2.2.1;obtain⟨y,hy⟩:∃y:Fl,y={f with srv:=Nw}:=⟨_,rfl⟩;obtain⟨u0,u1,u2,u3,u4,u5,u6⟩:=hG1.Gl hp1 hi1;rw[hff]at u4;have fz4:=hG1.Hv hp1 (i*7+4);have hG2:=hG1.Hd hp1 hi1 (j:=4) (by omega) (M3 Nw) y (by rw[hff,hy];rfl);obtain⟨w2,hw2⟩:∃w2,w2=w1.setCell ⟨bf,i*7+4,MH⟩ (M3 Nw):=⟨_,rfl⟩;rw[<-hw2]at hG2;have hF2:am V1 V1 g w1 w2:=by
  rw[hw2];exact⟨rfl,rfl,rfl,by simp,fun b _ hn=>MU w1 ⟨bf,i*7+4,MH⟩ _ b fun e=>hn (NF (NF (Nt (by rw[hp1,e];rfl)))),fun _ h=>Nt h⟩
 obtain⟨G2,hG2e⟩:∃G2,G2=eT G1 i y:=⟨_,rfl⟩;have hG2':ab base w2 g V1 G2:=by rw[hG2e];exact hG2
 obtain⟨hi2,hy2⟩:=sb hG2e hi1;have hsm2:G2.cfg=G.cfg/\G2.now=G.now/\G2.wnow=G.wnow/\G2.out=G.out:=by rw[hG2e];exact⟨H.out.2.2.2.1.2.1,H.out.2.2.2.1.2.2.1,H.out.2.2.2.1.2.2.2.1,H.out.2.2.2.1.2.2.2.2⟩
 have hsl:0<=G2.fls[i].slot/\G2.fls[i].slot<40:=by rw[hy2,hy];exact HX.out.2.2.2.1
 have e6:w2.cell? ⟨g,6,MH⟩=MI (MF ME G.cfg.idle):=by rw[<-hsm2.1];exact hG2'.c6
 have hgl2:=hG2'.lt;have HW:=mT hG2' hi2 hp1 (n:=G.cfg.idle) HX.out.1.idle hsl (by rw[hsm2.2.2.1,hsm2.2.1];exact HX.out.2.1) (by rw[hsm2.2.1];exact HX.out.1.now);have hgl1:=hG1.lt;have d6:w1.cell? ⟨g,6,MH⟩=MI (MF ME G.cfg.idle):=by rw[<-H.out.2.2.2.1.2.1];exact hG1.c6
 have hbl1:bf<w1.heap.size:=MX w1 ⟨bf,i*7,MH⟩ u0;have hne:¬bf=g:=fun e=>hG1.rest.fg (by rw[hp1,e];rfl)
 have hne2:¬g=bf:=fun e=>hne e.symm
 have H2:M6 (_/\_/\_/\_/\_/\_/\_/\_):=⟨HW,hF1.F0 hF2,hp1,hi2,hG2e,hsm2,hV1.2.2,hy⟩;clear hG1 hV1 hF1 hF2 hG2 hG2' hi1 hi2 hp1 hff hy hG2e hy2 hsm2 hsl HW q0 q1 q2 q3 q4 q5 q6 u0 u1 u2 u3 u5 u6
 go_wp2_with fail
 rw[<-hw2];clear hw2 u4 fz4 d6 hbl1 hgl1;refine Nd H2.out.1 ?_;rintro r w3 ⟨rfl,V3,hG3,hV3,hF3⟩;obtain⟨G3,hG3e⟩:∃G3,G3=dU G2 i G.cfg.idle:=⟨_,rfl⟩;rw[<-hG3e]at hG3;have hi3:i<G3.fls.length:=by rw[hG3e,ra];exact H2.out.2.2.2.1
 obtain⟨f3,hf3⟩:∃f3,f3=aQ G3 i:=⟨_,rfl⟩;have hx:=hG3.Gw (hV3.1.trans H2.out.2.2.1) hi3;rw[<-hf3]at hx;obtain⟨x0,x1,x2,x3,x4,x5,x6⟩:=hx;have hl3:G3.out.length<=1000000:=by rw[hG3e];show G2.out.length<=1000000;rw[H2.out.2.2.2.2.2.1.2.2.2];have:=HX.out.2.2.1;omega
 have H3:M6 (_/\_/\_/\_/\_):=⟨kV hG3 hl3 4 f3,hV3.2.2.trans H2.out.2.2.2.2.2.2.1,H2.out.2.1.F0 hF3,hf3,hG3e⟩;clear hG3 hV3 hF3 hf3 hG3e hl3 hi3 e6
 go_wp2_with fail
 refine Nd H3.out.1 ?_;rintro r w7 ⟨rfl,V7,hG7,hV7,hF7⟩;have H7:M6 (_/\_/\_):=⟨hG7,hV7.2.2.trans H3.out.2.1,H3.out.2.2.1.F0 hF7⟩;clear hG7 hV7 hF7;go_wp2
 go_end0
 have hz:O=iA G3 4 f3:=by rw[H.out.2.1,H3.out.2.2.2.1,H3.out.2.2.2.2,H2.out.2.2.2.2.1,H2.out.2.2.2.2.2.2.2]
 rw[hz];exact⟨rfl,V7,H7.out.1,H7.out.2.1,H7.out.2.2⟩
end
section
variable {base:Nat}{w:MO}{g:Nat}{V:Vs}{G:Gt}
theorem sZ{w1:MO}{bf:Nat}{v:M7}(hp:V.pf=MI ⟨bf,0,MH⟩)(h:w1=w.setCell ⟨bf,k,MH⟩ v):am V V g w w1:=by
 subst h;exact⟨rfl,rfl,rfl,by simp,fun b _ hn=>MU w ⟨bf,k,MH⟩ _ b fun e=>hn (NF (NF (Nt (by rw[hp,e];rfl)))),fun _ h=>Nt h⟩
theorem ab.Ji(h:ab base w g V G){bf:Nat}(hp:V.pf=MI ⟨bf,0,MH⟩)(hi:i<G.fls.length){f:Fl}(hf:f=aQ G i)(b n:Int):
  ab base ((w.setCell ⟨bf,i*7+3,MH⟩ (MF ME b)).setCell ⟨bf,i*7+5,MH⟩ (MF ME n)) g V (eT G i {f with be:=b,ret:=n}) /\
  am V V g w ((w.setCell ⟨bf,i*7+3,MH⟩ (MF ME b)).setCell ⟨bf,i*7+5,MH⟩ (MF ME n)):=by
 rw[bJ hi]at hf;have h1:=h.Hd hp hi (j:=3) (by omega) (MF ME b) {f with be:=b} (by rw[hf];rfl);have hi1:i<(G.fls.set i {f with be:=b}).length:=by rw[NA];exact hi
 have e1:(G.fls.set i {f with be:=b})[i]={f with be:=b}:=NW (h:=hi1);have h2:=h1.Hd hp (i:=i) hi1 (j:=5) (by omega) (MF ME n) {f with be:=b,ret:=n} (by show _=(ap ((G.fls.set i {f with be:=b})[i])).set 5 _;rw[e1];rfl);have e2:(G.fls.set i {f with be:=b}).set i {f with be:=b,ret:=n}=G.fls.set i {f with be:=b,ret:=n}:=List.set_set _;refine⟨?_,(sZ hp rfl).F0 (sZ hp rfl)⟩;unfold eT;rw[<-e2];exact h2
theorem wY(h:ab base w g V G)(hbs:Bs G)(hw:G.wnow=G.now)(hl:G.out.length<=900000)(hi:i<G.fls.length){bf:Nat}(hp:V.pf=MI ⟨bf,0,MH⟩)(hb:0<=b/\b<12)(hr:0<=(aQ G i).ret/\(aQ G i).ret+1<=20):
  Ni MK 172 #[gP g,fP bf i,MF ME b] w (eK base w g V (eQ G i b)):=by
 obtain⟨O,hO⟩:∃O,O=eQ G i b:=⟨_,rfl⟩;rw[<-hO];unfold eQ at hO;simp only[]at hO;obtain⟨f,hf⟩:∃f,f=aQ G i:=⟨_,rfl⟩;have hfm:f∈G.fls:=by rw[hf,bJ hi];exact Nk hi
 have hbd:=hbs.F9 hfm;obtain⟨q0,q1,q2,q3,q4,q5,q6⟩:=h.Gw hp hi;rw[<-hf]at hO hr q0 q1 q2 q3 q4 q5 q6;have hgl:=h.lt;have hbl:bf<w.heap.size:=MX w ⟨bf,i*7,MH⟩ q0;have hne:¬bf=g:=fun e=>h.rest.fg (by rw[hp,e];rfl)
 have hne2:¬g=bf:=fun e=>hne e.symm
 obtain⟨m,hm⟩:∃m,m=(db G.tab f.slot f.gen b).1:=⟨_,rfl⟩;rw[<-hm]at hO;have hme:(db G.tab f.slot f.gen b).2=0:=by rw[hbs.Ho hfm hb]
 have c17:=h.Gs;have HD:M6 (∀W',MQ w.heap.size w W'->Ni MK 216 #[Ny #[MG V.pt G.tab.length V.ct],Ny #[MF ME f.slot,MF ME f.gen],MF ME b] W' fun r w'=>∃p c,r=MN (Nv #[Ny #[MG p m.length c],MF ME 0])/\w'.cell? ⟨g,17,MH⟩=MI (MG V.pt G.tab.length V.ct)/\w'.frozen? ⟨g,17,MH⟩=Nb/\g<w'.heap.size /\
   M6 (ab base (w'.setCell ⟨g,17,MH⟩ (MG p m.length c)) g {V with pt:=p,ct:=c} {G with tab:=m}/\am V {V with pt:=p,ct:=c} g w (w'.setCell ⟨g,17,MH⟩ (MG p m.length c)))):=by
  refine fun W' hW'=>(zj (MG V.pt G.tab.length V.ct) G.tab f.slot f.gen b W' (h.rest.tab.now.below hW')).mono ?_
  rw[<-hm,hme];rintro r w' ⟨p,c,rfl,ho,hb⟩;have hb':MQ w.heap.size w w':=hW'.trans (hb.mono hW'.size);have hG3:=h.below hb';exact⟨p,c,rfl,hG3.Gs,hG3.fz 17,hG3.lt,h.Ix hb' (ho.mono hW'.size),((am.F5 (V:=V) (g:=g) hb').F4 17 _).Gp fun _ h=>h⟩
 have hwr:IntKind.i64.wrap (f.ret+1)=f.ret+1:=by rw[Ow];omega
 have H:M6 (_/\_/\_/\_):=⟨hO,hp,hi,hf⟩;have HX:M6 (_/\_/\_/\_):=⟨hbs,hw,hl,hbd⟩;clear h hbs hO hf hw hl hbd hp hi hfm hm hme hr hb;go_enter Tryz.func172,Tryz.ntmps172
 go_wp2_with fail
 go_region_with (first|(go_at_call 216;refine(HD.out _ (by first|exact(MY _ _).drew|exact Below.refl _ _)).mono ?_;rintro r w3 ⟨p,c,rfl,g17,f17,hgl3,hG3⟩))
 all_goals
  obtain⟨w4,hw4⟩:∃w4,w4=w3.setCell ⟨g,17,MH⟩ (MG p m.length c):=⟨_,rfl⟩;have hG4:=hG3.out.1;have hF4:=hG3.out.2;rw[<-hw4]at hG4 hF4;rw[<-hw4];clear hw4 hG3 g17 f17 hgl3 c17 q0 q1 q2 q3 q4 q5 q6 hgl hbl;have hp4:Vs.pf {V with pt:=p,ct:=c}=MI ⟨bf,0,MH⟩:=H.out.2.1;have hi4:i<({G with tab:=m}:Gt).fls.length:=H.out.2.2.1;obtain⟨x0,x1,x2,x3,x4,x5,x6⟩:=hG4.Gl hp4 hi4;have hfe:({G with tab:=m}:Gt).fls[i]=f:=by rw[H.out.2.2.2,bJ H.out.2.2.1]
  rw[hfe]at x3 x5;have z3:=hG4.Hv hp4 (i*7+3);have z5:=hG4.Hv hp4 (i*7+5);have hgl4:=hG4.lt;have e7:w4.cell? ⟨g,7,MH⟩=MI (MF ME G.cfg.conn):=hG4.c7;have hbl4:bf<w4.heap.size:=MX w4 ⟨bf,i*7,MH⟩ x0;obtain⟨hG6,hF6⟩:=hG4.Ji hp4 hi4 (f:=f) H.out.2.2.2 b (f.ret+1);obtain⟨w6,hw6⟩:∃w6,w6=(w4.setCell ⟨bf,i*7+3,MH⟩ (MF ME b)).setCell ⟨bf,i*7+5,MH⟩ (MF ME (f.ret+1)):=⟨_,rfl⟩;obtain⟨G6,hG6e⟩:∃G6,G6=eT {G with tab:=m} i {f with be:=b,ret:=f.ret+1}:=⟨_,rfl⟩;obtain⟨hi6,hy6⟩:=sb hG6e hi4;have hsm:G6.cfg=G.cfg/\G6.now=G.now/\G6.wnow=G.wnow/\G6.out=G.out:=by rw[hG6e];exact⟨rfl,rfl,rfl,rfl⟩
  rw[<-hw6,<-hG6e]at hG6;rw[<-hw6]at hF6;have hsl:0<=G6.fls[i].slot/\G6.fls[i].slot<40:=by rw[hy6];exact HX.out.2.2.2.1
  have HW:=mT hG6 hi6 hp4 (n:=G.cfg.conn) HX.out.1.conn hsl (by rw[hsm.2.2.1,hsm.2.1];exact HX.out.2.1) (by rw[hsm.2.1];exact HX.out.1.now);have H6:M6 (_/\_/\_/\_/\_/\_):=⟨HW,hF4.F0 hF6,hp4,hi6,hG6e,hsm⟩;clear hG4 hF4 hG6 hF6 hp4 hi4 hi6 hfe hy6 hG6e hsm hsl HW x0 x1 x2 x4 x6
  go_wp2_with fail
  rw[<-hw6];clear hw6 x3 x5 z3 z5 hgl4 e7 hbl4 hwr;refine Nd H6.out.1 ?_;rintro r w7 ⟨rfl,V7,hG7,hV7,hF7⟩;obtain⟨G7,hG7e⟩:∃G7,G7=dU G6 i G.cfg.conn:=⟨_,rfl⟩;rw[<-hG7e]at hG7;have hi7:i<G7.fls.length:=by rw[hG7e,ra];exact H6.out.2.2.2.1
  obtain⟨f7,hf7⟩:∃f7,f7=aQ G7 i:=⟨_,rfl⟩;have hx:=hG7.Gw (hV7.1.trans H6.out.2.2.1) hi7;rw[<-hf7]at hx;obtain⟨y0,y1,y2,y3,y4,y5,y6⟩:=hx;have hl7:G7.out.length<=900000:=by rw[hG7e];show G6.out.length<=900000;rw[H6.out.2.2.2.2.2.2.2.2];exact HX.out.2.2.1
  have H7:M6 (_/\_/\_/\_/\_/\_):=⟨kV hG7 (by omega) 5 f7,hV7.2.2,H6.out.2.1.F0 hF7,hf7,hG7e,hl7⟩;clear hG7 hV7 hF7 hf7 hG7e hl7 hi7
  go_wp2_with fail
  refine Nd H7.out.1 ?_;rintro r w8 ⟨rfl,V8,hG8,hV8,hF8⟩;have hl8:(iA G7 5 f7).out.length<=1000000:=by show(G7.out++[_]).length<=1000000;have:=H7.out.2.2.2.2.2;simp;omega
  have H8:M6 (_/\_/\_):=⟨re hG8 hl8 f.be,hV8.2.2.trans H7.out.2.1,H7.out.2.2.1.F0 hF8⟩;clear hG8 hF8 hV8 hl8 y0 y1 y2 y3 y4 y5 y6
  go_wp2_with fail
  refine Nd H8.out.1 ?_;rintro r w9 ⟨rfl,V9,hG9,hV9,hF9⟩;have H9:M6 (_/\_/\_):=⟨hG9,hV9.2.2.trans H8.out.2.1,H8.out.2.2.F0 hF9⟩;clear hG9 hV9 hF9;go_wp2
  go_end0
  have hz:O=cj (iA G7 5 f7) f.be:=by rw[H.out.1,H7.out.2.2.2.1,H7.out.2.2.2.2.1,H6.out.2.2.2.2.1]
  rw[hz];exact⟨rfl,V9,H9.out.1,H9.out.2.1,H9.out.2.2⟩
end
theorem eG(l:List Fl):(rv ap l).length=l.length*7:=gS ba l
theorem pY(l:List Fl)(i:Nat):(rv ap l).take (i*7)=rv ap (l.take i):=oF ba l i
theorem wE(l:List Fl)(i:Nat):(rv ap l).drop (i*7)=rv ap (l.drop i):=wB ba l i
theorem qr(x:Fl):rv ap [x]=ap x:=by simp[rv]
theorem ti{α:Type}(l:List α)(x:α):aT l x l.length=l++[x]:=by simp[aT]
def mj(base:Nat)(v:M7)(l:List Fl)(t:Fl)(i:Nat)(w:MO)(r:Ending)(w':MO):Prop :=
 ∃g cap,r=MN (MG (MI ⟨g,0,MH⟩) (l.length+1) cap)/\w'.ownsRow base 99 7 (MG (MI ⟨g,0,MH⟩) (l.length+1) cap) (l.length+1) (rv ap (aT l t i))/\w.grownBy w' v.ownBlock/\(v.ownBlock=MI g\/w.heap.size<=g)
theorem Fz(base:Nat)(v:M7)(l:List Fl)(x:Fl)(cs:Array M7)(hxs:cs.toList=ap x)(k:Nat)(w:MO)(hown:w.ownsRow base 99 7 v l.length (rv ap l))(hbase:base<=w.heap.size)
  (hk:w.heap[k]?=MI (MP cs 99 (0,0))) (hlen:l.length<=1000) :
  Ni MK 162 #[v,MF ME l.length,MG (MI ⟨k,0,MH⟩) 1 1] w (mj base v l x l.length w):=by
 obtain⟨i0,hi,hz0,hz1,hz2⟩:=OF kt;have hnews:∀j u,(rv ap [x])[j]?=MI u->w.cell? ((⟨k,0,MH⟩:Oc).add j)=MI u:=fun j u hu=>by
  have hadd:(⟨k,0,MH⟩:Oc).add j=⟨k,j,MH⟩:=by unfold Addr.add;split <;> simp_all
  rw[hadd,MW w k j _ _ (0,0) hk];rw[qr,<-hxs]at hu;simpa using hu
 obtain⟨p,c,rfl⟩:=cR hown;have hnc:l.length<=c:=by
  rcases hown.2 with⟨h,_⟩|⟨g,cap,cur,h,_,_,h2,_⟩
  ·simp only[N4]at h;omega
  ·simp only[N4]at h;omega
 have hcm:c<=9223372036854775807:=by
  rcases hown.2 with⟨h,_⟩|⟨g,cap,cur,h,_,_,_,h2,_⟩
  ·simp only[N4]at h;omega
  ·simp only[N4]at h;unfold NE at h2;omega
 by_cases hcl:c=l.length
 ·subst hcl
  have HO:M6 (_/\_):=⟨hown,hnews⟩;clear hown hnews;go_enter VW,VM
  go_wp2_with (first|(at_builtin;refine O9 _ rfl _ _ 39 rfl base 99 i0 _ 7 56 Qu hi hz0 hz1 hz2 rfl (by decide) (MG p l.length l.length) _ _ rfl HO.out.1 _ 1 1 (rv ap [x]) rfl rfl HO.out.2 (jG jh _) (by decide) (by unfold NE;omega) (by omega) hbase _ rfl ?_;intro g' cap w2 hown2 hg2 hlies hlt2))
  all_goals
   go_ret;exact⟨g',cap,rfl,by rw[ti,iT];exact hown2,hg2,hlies.imp id (fun h=>by omega)⟩
 ·have HO:M6 (_/\_):=⟨hown,hnews⟩
  clear hown hnews;go_enter VW,VM
  go_wp2_with (first|(at_builtin;refine O9 _ rfl _ _ 39 rfl base 99 i0 _ 7 56 Qu hi hz0 hz1 hz2 rfl (by decide) (MG p l.length c) _ _ rfl HO.out.1 _ 1 1 (rv ap [x]) rfl rfl HO.out.2 (jG jh _) (by decide) (by unfold NE;omega) (by omega) hbase _ rfl ?_;intro g' cap w2 hown2 hg2 hlies hlt2))
  all_goals
   go_ret;exact⟨g',cap,rfl,by rw[ti,iT];exact hown2,hg2,hlies.imp id (fun h=>by omega)⟩
theorem C2(base g c:Nat)(l:List Fl)(x:Fl)(cs:Array M7)(hxs:cs.toList=ap x)(i k:Nat)(w:MO)(hown:w.ownsRow base 99 7 (MG (MI ⟨g,0,MH⟩) l.length c) l.length (rv ap l))(hbase:base<=w.heap.size)(hi:i<l.length)(hroom:c<l.length+1)
  (hk:w.heap[k]?=MI (MP cs 99 (0,0))) (hlen:l.length<=1000) :
  Ni MK 162 #[MG (MI ⟨g,0,MH⟩) l.length c,MF ME i,MG (MI ⟨k,0,MH⟩) 1 1] w (mj base (MG (MI ⟨g,0,MH⟩) l.length c) l x i w):=by
 obtain⟨i0,hif,hz0,hz1,hz2⟩:=OF kt;have hcl:c=l.length:=by
  rcases hown.2 with⟨h,_⟩|⟨g',cap,cur,h,_,_,h2,_⟩
  ·cases h
  ·simp only[N4]at h;omega
 subst hcl;have hsz:(Tryz.prog.info? 99).map (·.size)=MI 7:=by rw[hif];simp[hz1]
 have hglt:=(hown.lt g rfl).2;have hklt:k<w.heap.size:=(Array.getElem?_eq_some_iff.1 hk).1;obtain⟨cap,zs,w2,hr1,ho2,hzl,hcap,hg2,hs2⟩:=nn (P:=MK) w 39 3 39 99 i0 _ ME 7 56 Qu Ol hif hz0 hz1 hz2 rfl (by decide) base ⟨g,0,MH⟩ i l.length (l.length+1-i) (rv ap (l.take i)) (by rw[eG,NH];omega)
  (fun j u hu=>by
   rw[fG,hown.cellAt j (by have:=(List.getElem?_eq_some_iff.1 hu).1;rw[eG,NH]at this;omega)];rw[<-pY]at hu;rw[List.getElem?_take]at hu
   split at hu
   ·exact hu
   ·cases hu) (by omega) (by omega) (by unfold NE;omega) (by omega) hbase
 have him:i+(l.length+1-i)=l.length+1:=by omega
 rw[him]at hr1 ho2 hcap;rw[show((l.length+1-i:Nat):Int)=(l.length:Int)+1-(i:Int)by omega]at hr1;obtain⟨w3,hr2,ho3,hg3⟩:=fA (P:=MK) w2 39 3 99 7 Qu hsz base w.heap.size (l.length+1) cap _ ho2 (i*7) (l.length+1-i) (cap-i) ⟨k,0,MH⟩ 1 1 1 (rv ap [x]) (by simp only[PR];split <;> omega) rfl (by simp[rv];omega)
  (fun j u hu=>by
   rw[fG,(hg2.cell (a:=⟨k,j,MH⟩) (v:=u) (by rw[MW w k j _ _ (0,0) hk];rw[qr,<-hxs]at hu;simpa using hu) (by simp))]) (jG jh _)
 obtain⟨w4,hr3,ho4,hg4⟩:=fA (P:=MK) w3.drew 39 3 99 7 Qu hsz base w.heap.size (l.length+1) cap _ ho3 ((i+1)*7) (l.length-i) (cap-(i+1)) ⟨g,i*7,MH⟩ (l.length-i) (l.length-i) (l.length-i) (rv ap (l.drop i)) (by simp only[PR];split <;> omega) (by rw[eG,NJ]) (by rw[eG,NJ];omega)
  (fun j u hu=>by
   rw[eJ];have hj:=(List.getElem?_eq_some_iff.1 hu).1;rw[eG,NJ]at hj;have h1:w.cell? ⟨g,i*7+j,MH⟩=MI u:=by
    rw[hown.cellAt _ (by omega),<-hu,<-wE,Pa]
   exact hg3.cell (a:=⟨g,i*7+j,MH⟩) (hg2.cell h1 (by simp)) (by simp;omega)) (jG jh _)
 have hend:(rv ap (l.take i)++zs).take (i*7)++rv ap [x]++(rv ap (l.take i)++zs).drop (i*7+(rv ap [x]).length)=rv ap (l.take i++[x])++zs.drop 7:=by
  have e0:(rv ap (l.take i)).length=i*7:=by rw[eG,NH];omega
  rw[<-e0,Qb,iT,Qa];simp[rv]
 have hend2:∀ys:List M7,((rv ap (l.take i++[x])++ys).take ((i+1)*7)++rv ap (l.drop i)++(rv ap (l.take i++[x])++ys).drop ((i+1)*7+(rv ap (l.drop i)).length))=rv ap (aT l x i)++ys.drop ((l.length-i)*7):=fun ys=>by
  have e0:(rv ap (l.take i++[x])).length=(i+1)*7:=by rw[eG];simp;omega
  rw[<-e0,Qb,Qa,eG (l.drop i),NJ,aT,iT,iT];simp[rv]
 rw[hend,hend2]at ho4;rw[List.drop_drop,PI (by rw[hzl];omega),OG]at ho4;have hgw:w.grownBy w4 (MG (MI ⟨g,0,MH⟩) l.length l.length).ownBlock :=
  ⟨hg4.os.trans (hg3.os.trans hg2.os),hg4.tape.trans (hg3.tape.trans hg2.tape),hg4.output.trans (hg3.output.trans hg2.output),Nm hg2.size (Nm hg3.size hg4.size),fun j hj _=>by
   rw[hg4.block j (M8 hj (Nm hg2.size hg3.size)) (by simp;omega)];show w3.heap[j]?=_;rw[hg3.block j (M8 hj hg2.size) (by simp;omega),hg2.block j hj (by simp)]⟩
 have HO:M6 (_/\_/\_/\_/\_):=⟨hr1,hr2,hr3,ho4,hgw⟩;have hI1:(i:Int)<=(l.length:Int):=by omega
 have hI2:(i:Int)<(l.length:Int)+1:=by omega
 have hne1:¬cap=i:=by omega
 have hne2:¬cap=i+1:=by omega
 have hne3:¬l.length=i:=by omega
 have hne4:((i:Int) == (l.length:Int))=false:=by simp;omega
 clear hr1 ho2 ho3 ho4 hg2 hg3 hg4 hzl hown hk hend hend2 hgw;go_enter VW,VM
 go_wp2_with (first|(at_builtin;refine Lib.wpList_append_run _ rfl _ _ _ _ rfl _ _ rfl rfl _ _ HO.out.1 ?_))
 go_region
 go_wp2;go_ret;exact⟨w.heap.size,cap,rfl,HO.out.2.2.2.1,HO.out.2.2.2.2,NF (MV _)⟩
theorem Dx(base g c:Nat)(l:List Fl)(x:Fl)(cs:Array M7)(hxs:cs.toList=ap x)(i k:Nat)(w:MO)(hown:w.ownsRow base 99 7 (MG (MI ⟨g,0,MH⟩) l.length c) l.length (rv ap l))(hbase:base<=w.heap.size)(hi:i<l.length)(hroom:l.length+1<=c)(hkg:k≠g)
  (hk:w.heap[k]?=MI (MP cs 99 (0,0))) (hlen:l.length<=1000) :
  Ni MK 162 #[MG (MI ⟨g,0,MH⟩) l.length c,MF ME i,MG (MI ⟨k,0,MH⟩) 1 1] w (mj base (MG (MI ⟨g,0,MH⟩) l.length c) l x i w):=by
 obtain⟨i0,hif,hz0,hz1,hz2⟩:=OF kt;have hsz:(Tryz.prog.info? 99).map (·.size)=MI 7:=by rw[hif];simp[hz1]
 obtain⟨cur,hgc,hcm,hcs,htk,hbg⟩:∃cur:Array M7,w.heap[g]?=MI (MP cur 99 (0,0))/\c<=NE/\cur.size=c*7/\cur.toList.take (l.length*7)=rv ap l/\base<=g:=by
  rcases hown.2 with⟨h,_⟩|⟨g',cap,cur,h,hb,hg,h2,h3,h4,h5⟩
  ·cases h
  ·simp only[N4,Qs,Q1,and_true,true_and]at h
   obtain⟨rfl,rfl⟩:=h;exact⟨cur,hg,h3,h4,h5,hb⟩
 have hown1:w.ownsRow base 99 7 (MG (MI ⟨g,0,MH⟩) (l.length+1) c) (l.length+1) (cur.toList.take ((l.length+1)*7)):=
  ⟨by simp only[NH,Om,hcs];omega,NF ⟨g,c,cur,rfl,hbg,hgc,hroom,hcm,hcs,rfl⟩⟩
 have hx:cur.toList.take ((l.length+1)*7)=rv ap l++(cur.toList.drop (l.length*7)).take 7:=by
  rw[<-htk,show(l.length+1)*7=l.length*7+7 by omega,List.take_add]
 rw[hx]at hown1;have hspl:((cur.toList.drop (l.length*7)).take 7).length=7:=by simp only[NH,NJ,Om,hcs];omega
 generalize (cur.toList.drop (l.length*7)).take 7=sp at hown1 hspl;have hglt:=(hown.lt g rfl).2;obtain⟨w2,hr1,ho2,hg2⟩:=fA (P:=MK) w.drew 39 3 99 7 Qu hsz base g (l.length+1) c _ hown1 ((i+1)*7) (l.length-i) (c-(i+1)) ⟨g,i*7,MH⟩ (l.length+1-i) (c-i) (l.length-i) (rv ap (l.drop i)) (by simp only[PR];split <;> omega) (by rw[eG,NJ]) (by rw[eG,NJ];omega)
  (fun j u hu=>by
   rw[eJ];have hj:=(List.getElem?_eq_some_iff.1 hu).1;rw[eG,NJ]at hj;have h1:w.cell? ⟨g,i*7+j,MH⟩=MI u:=by
    rw[hown.cellAt _ (by omega),<-hu,<-wE,Pa]
   exact h1) (jG jh _)
 obtain⟨w3,hr2,ho3,hg3⟩:=fA (P:=MK) w2 39 3 99 7 Qu hsz base g (l.length+1) c _ ho2 (i*7) (l.length+1-i) (c-i) ⟨k,0,MH⟩ 1 1 1 (rv ap [x]) (by simp only[PR];split <;> omega) rfl (by simp[rv];omega)
  (fun j u hu=>by
   rw[fG,(hg2.cell (a:=⟨k,j,MH⟩) (v:=u) (show w.cell? _=_ by rw[MW w k j _ _ (0,0) hk];rw[qr,<-hxs]at hu;simpa using hu) (by simp;omega))]) (jG jh _)
 have hend:∀xs:List M7,xs=(rv ap l++sp).take ((i+1)*7)++rv ap (l.drop i)++(rv ap l++sp).drop ((i+1)*7+(rv ap (l.drop i)).length)->xs.take (i*7)++rv ap [x]++xs.drop (i*7+(rv ap [x]).length)=rv ap (aT l x i):=fun xs hxs=>by
  have e1:(rv ap l++sp).drop ((i+1)*7+(rv ap (l.drop i)).length)=[]:=PI (by rw[Ns,eG,eG,NJ,hspl];omega);have e2:(rv ap l++sp).take ((i+1)*7)=rv ap (l.take (i+1)):=by
   rw[ZqA (by rw[eG];omega),pY]
  rw[e1,e2,OG]at hxs;have e3:(rv ap (l.take (i+1))).length=(i+1)*7:=by rw[eG,NH];omega
  have e4:xs.take (i*7)=rv ap (l.take i):=by
   rw[hxs,ZqA (by rw[e3];omega),pY,List.take_take,show min i (i+1)=i by omega]
  have e5:xs.drop (i*7+(rv ap [x]).length)=rv ap (l.drop i):=by
   rw[hxs,show i*7+(rv ap [x]).length=(rv ap (l.take (i+1))).length by rw[e3];simp[rv];omega,List.drop_left]
  rw[e4,e5,aT,iT];simp[rv]
 rw[hend _ rfl]at ho3;have hgw:w.grownBy w3 (MG (MI ⟨g,0,MH⟩) l.length c).ownBlock :=
  ⟨hg3.os.trans hg2.os,hg3.tape.trans hg2.tape,hg3.output.trans hg2.output,Nm hg2.size hg3.size,fun j hj hne=>by
   rw[hg3.block j (M8 hj hg2.size) hne];exact hg2.block j hj hne⟩
 have hcz:cs.size=7:=by rw[<-Om,hxs];rfl
 have hov:∀lb cb,(callFunc 206 #[MG (MI ⟨k,0,MH⟩) 1 1,MG (MI ⟨g,(i+1)*7,MH⟩) lb cb]).run MK w=.ok (.value (M3 Nb)) w:=fun lb cb=>by
  rw[run_callFunc_extern RY (by kernel_rfl) (by kernel_rfl) (by kernel_rfl) (e:=P9 #[39,39] #[4]) (by kernel_rfl),
   Lib.run_overlaps_apart w 39 4 99 Qu 7 Tryz.sizeOf99 ⟨k,0,MH⟩ ⟨g,(i+1)*7,MH⟩ 1 1 lb cb hkg 99 99 7 cur.size (by simp[QO,hk,hcz]) (by simp[QO,hgc]) (by omega) (by simp[Ng,hk]) (by simp[Ng,hk])]
  rfl
 have HO:M6 (_/\_):=⟨ho3,hgw⟩;have hI1:(i:Int)<=(l.length:Int):=by omega
 have hI2:(i:Int)<=(l.length:Int)+1:=by omega
 have hne1:¬c=i:=by omega
 have hne2:¬c=i+1:=by omega
 have hne4:((i:Int) == (l.length:Int))=false:=by simp;omega
 have hrm:(l.length:Int)+1<=(c:Int):=by omega
 unfold NE at hcm;clear ho2 ho3 hg2 hg3 hown hown1 hk hend hgw hgc htk hx hspl;go_enter VW,VM
 go_wp2_with (simp only[hov])
 go_region
 go_wp2;go_ret;exact⟨g,c,rfl,HO.out.1,HO.out.2,Nt rfl⟩
theorem B9(base:Nat)(v:M7)(l:List Fl)(x:Fl)(cs:Array M7)(hxs:cs.toList=ap x)(i k:Nat)(w:MO)(hown:w.ownsRow base 99 7 v l.length (rv ap l))(hbase:base<=w.heap.size)(hi:i<=l.length)(hkv:v.ownBlock≠MI k)
  (hk:w.heap[k]?=MI (MP cs 99 (0,0))) (hlen:l.length<=1000) :
  Ni MK 162 #[v,MF ME i,MG (MI ⟨k,0,MH⟩) 1 1] w (mj base v l x i w):=by
 rcases Oq i l.length with hlt|hge
 ·obtain⟨g,c,rfl,_⟩:=hown.form (by omega)
  rcases Oq c (l.length+1)with h|h
  ·exact C2 base g c l x cs hxs i k w hown hbase hlt h hk hlen
  ·exact Dx base g c l x cs hxs i k w hown hbase hlt h (fun e=>hkv (by rw[e];rfl)) hk hlen
 ·obtain rfl:i=l.length:=by omega
  exact Fz base v l x cs hxs k w hown hbase hk hlen
section
variable {base:Nat}{w:MO}{g:Nat}{V:Vs}{G:Gt}
def zk(base:Nat)(w:MO)(g:Nat)(V:Vs)(G':Gt)(i:Nat)(r:Ending)(w':MO):Prop :=
 ∃V' bf,r=MN (fP bf i)/\ab base w' g V' G'/\V'.pf=MI ⟨bf,0,MH⟩/\V'.bh=V.bh/\am V V' g w w'
theorem D2(h:ab base w g V G)(hbs:Bs G)(hfree:G.tab.any eu=Nw)(hk:0<=key/\key<=4294967295)(hb:0<=b/\b<12):
  Ni MK 112 #[gP g,MF ME key,MF ME b] w (zk base w g V (jD G key b) (f9 G.fls (cZ G.tab key b).2.1.1)):=by
 obtain⟨kk,hlt,hout,hu1,hgen,hu2⟩:=hbs.Gd hfree hk hb;have hfl:=hbs.Gb;obtain⟨gn,hgn⟩:∃gn,gn=G.tab[kk].1:=⟨_,rfl⟩;obtain⟨m,hm⟩:∃m,m=G.tab.set kk (gn,Nw,key,b):=⟨_,rfl⟩;rw[<-hgn,<-hm]at hout;obtain⟨x,hx⟩:∃x:Fl,x=⟨(kk:Int),gn,key,b,Nb,0,0⟩:=⟨_,rfl⟩;obtain⟨i,hi⟩:∃i,i=f9 G.fls (kk:Int):=⟨_,rfl⟩;have hile:i<=G.fls.length:=by rw[hi];exact nR _ _
 have hres:jD G key b={G with tab:=m,fls:=aT G.fls x i}:=by unfold jD;rw[hout,hx,hi]
 have hpi:f9 G.fls (cZ G.tab key b).2.1.1=i:=by rw[hout,hi]
 rw[hres,hpi];have HP:=BC (MG V.pt G.tab.length V.ct) G.tab key b w h.rest.tab.now;rw[hout]at HP;have c17:=h.Gs;have hgl:=h.lt;have H:M6 (_/\_/\_/\_/\_/\_):=⟨h,HP,hfl,hx,hi,hile⟩;clear h hbs HP hfl hx hile hout hres hm hgn hgen hfree hk hb hu1 hu2 hpi hi;clear hlt;go_enter SP,Su
 go_wp2_with fail
 refine Nd H.out.2.1 ?_;rintro r w1 ⟨p,c,rfl,ho,hb1⟩;have hG1:=H.out.1.below hb1;have d17:=hG1.Gs;have d18:=hG1.Gr;have f17:=hG1.fz 17;have hgl1:=hG1.lt;have hne1:¬g=w1.heap.size:=by omega
 have hne2:¬g=w1.heap.size+1:=by omega
 have hne3:¬w1.heap.size=g:=by omega
 have hne4:¬w1.heap.size+1=g:=by omega
 have hG2:=H.out.1.Ix hb1 ho;have hF2:am V {V with pt:=p,ct:=c} g w (w1.setCell ⟨g,17,MH⟩ (MG p m.length c)):=((am.F5 (V:=V) (g:=g) hb1).F4 17 _).Gp fun _ h=>h
 obtain⟨W,hW⟩:∃W,W=((w1.setCell ⟨g,17,MH⟩ (MG p m.length c)).alloc (MP #[MG p m.length c] 38)).alloc (MP #[MF ME (kk:Int),MF ME gn] 97):=⟨_,rfl⟩;have hx2:=iF (w1.setCell ⟨g,17,MH⟩ (MG p m.length c)) (MP #[MG p m.length c] 38) (MP #[MF ME (kk:Int),MF ME gn] 97);rw[<-hW]at hx2;obtain⟨_,hRh,hBW,hsW⟩:=hx2;have hs0:(w1.setCell ⟨g,17,MH⟩ (MG p m.length c)).heap.size=w1.heap.size:=by simp
 rw[hs0]at hRh;have hG3:=hG2.below hBW;have hF3:=hF2.below hBW;obtain⟨y0,y1,_,_,ylt⟩:=au hRh;have HI:=zE (MG V.pf G.fls.length V.cf) G.fls (kk:Int) (w1.heap.size+1) W hG3.GK y0;have hio:¬Vs.own {V with pt:=p,ct:=c} g (w1.heap.size+1):=hG2.rest.new (by simp);have H3:M6 (_/\_/\_/\_/\_):=⟨HI,hG3,hF3,hRh,hio⟩;clear ho hb1 hG1 hG2 hF2 hRh hBW hsW hs0 hG3 hF3 HI y0 y1 ylt hio
 go_wp2_with fail
 rw[<-hW];clear hW;refine Nd H3.out.1 ?_;rintro r w4 ⟨rfl,hb4⟩;have hG4:=H3.out.2.1.below hb4;have hF4:=H3.out.2.2.1.below hb4;obtain⟨y0,y1,_,_,ylt⟩:=au (af H3.out.2.2.2.1 hb4);have e18:=hG4.Gr;have hgl4:=hG4.lt;have hnl:=H.out.2.2.1;have hile:=H.out.2.2.2.2.2;have HIns:M6 (∀X k,MQ w4.heap.size w4 X->X.heap[k]?=MI (MP #[MF ME (kk:Int),MF ME gn,MF ME key,MF ME b,M3 Nb,MF ME 0,MF ME 0] 99 (0,0))->w4.heap.size<=k->Ni MK 162 #[MG V.pf G.fls.length V.cf,MF ME (i:Int),MG (MI ⟨k,0,MH⟩) 1 1] X fun r w'=>∃q cap,r=MN (MG (MI ⟨q,0,MH⟩) (G.fls.length+1) cap)/\w'.cell? ⟨g,18,MH⟩=MI (MG V.pf G.fls.length V.cf)/\w'.frozen? ⟨g,18,MH⟩=Nb/\g<w'.heap.size/\cap<=9223372036854775807/\G.fls.length+1<=cap /\
   M6 (ab base (w'.setCell ⟨g,18,MH⟩ (MG (MI ⟨q,0,MH⟩) (G.fls.length+1) cap)) g {V with pt:=p,ct:=c,pf:=MI ⟨q,0,MH⟩,cf:=cap} {G with tab:=m,fls:=aT G.fls x i}/\am V {V with pt:=p,ct:=c,pf:=MI ⟨q,0,MH⟩,cf:=cap} g w (w'.setCell ⟨g,18,MH⟩ (MG (MI ⟨q,0,MH⟩) (G.fls.length+1) cap)))):=by
  intro X k hX hk hk4;have hGX:=hG4.below hX;have hkv:(MG V.pf G.fls.length V.cf).ownBlock≠MI k:=fun e=>by
   have:=(hG4.rest.fls.lt k e).2;omega
  refine(B9 base (MG V.pf G.fls.length V.cf) G.fls x #[MF ME (kk:Int),MF ME gn,MF ME key,MF ME b,M3 Nb,MF ME 0,MF ME 0] (by rw[H.out.2.2.2.1]) i k X hGX.rest.fls hGX.base hile hkv hk (by omega)).mono ?_;rintro r w' ⟨q,cap,rfl,ho,hg,hq⟩;have hgb:∀z,z<X.heap.size->V.pf.map (·.block)≠MI z->w'.heap[z]?=X.heap[z]?:=fun z hz hn=>hg.block z hz (fun e=>hn (by rw[e,cS]))
  have hbx:=(hgb g hGX.lt hGX.rest.fg).trans hGX.box;have hlen:(aT G.fls x i).length=G.fls.length+1:=vo _ _ hile;have hpp:∀z,(MI (⟨q,0,MH⟩:Oc)).map (·.block)=MI z->V.pf.map (·.block)=MI z\/X.heap.size<=z:=fun z e=>by
   cases e;exact hq.imp (fun e=>by rw[<-cS V.pf G.fls.length V.cf];exact e) id
  have hG5:=hGX.IU (w':=w') (p:=MI ⟨q,0,MH⟩) (c:=cap) (m:=aT G.fls x i) hg.size hgb (by rw[hlen];exact ho) hpp;rw[hlen]at hG5;have hcap:cap<=9223372036854775807/\G.fls.length+1<=cap:=by
   rcases ho.2 with⟨he,_⟩|⟨g',c',cur,he,_,_,h1,h2,_⟩
   ·cases he
   ·cases he
    unfold NE at h2;exact⟨h2,h1⟩
  have hFx:am {V with pt:=p,ct:=c} {V with pt:=p,ct:=c,pf:=MI ⟨q,0,MH⟩,cf:=cap} g X w':=by
   refine⟨hg.os,hg.tape,hg.output,hg.size,fun z hz hn=>hgb z hz fun e=>hn (NF (NF (Nt e))),fun z e=>?_⟩;rcases e with e|e|e|e
   ·exact Nt (Nt e)
   ·exact Nt (NF (Nt e))
   ·exact(hpp z e).imp (fun e=>NF (NF (Nt e))) id
   ·exact Nt (NF (NF (NF e)))
  refine⟨q,cap,rfl,by rw[MW w' g 18 _ _ (0,0) hbx];rfl,by simp[Ng,hbx],M8 hGX.lt hg.size,hcap.1,hcap.2,hG5,?_⟩;exact((hF4.below hX).F0 hFx).F4 18 _
 have hix:G.fls.findIdx (fun f=>Nn ((kk:Int)<f.slot))=i:=H.out.2.2.2.2.1.symm;rw[hix];have HZ:M6 _:=hile;clear hG4 hF4 hb4 hix hile
 by_cases hil:i<G.fls.length
 ·have hi0:bz i G.fls.length=(i:Int):=Nh hil
  rw[hi0];have hI1:(i:Int)<(G.fls.length:Int)+1:=by omega
  have hI2:¬((i:Int)<0):=by omega
  clear hi0
  go_wp2_with fail
  go_region_with (first|(go_at_call 162;refine(HIns.out _ _ ?hb ?hk ?hn).mono ?_;(case hb=>first|exact((MY _ _).alloc (MV _) _).drew|exact((Below.refl _ _).drew).alloc (by simp) _);(case hk=>exact M1 _ _);(case hn=>exact MV _);rintro r w5 ⟨q,cap,rfl,s18,t18,hgl5,hc1,hc2,hQ⟩))
  all_goals
   go_wp2;go_ret;exact⟨_,q,by simp,hQ.out.1,rfl,rfl,hQ.out.2⟩
 ·obtain rfl:i=G.fls.length:=by have:=HZ.out;omega
  have hi0:bz G.fls.length G.fls.length = -1:=Nf hil;rw[hi0];have hI1:(G.fls.length:Int)<(G.fls.length:Int)+1:=by omega
  clear hi0
  go_wp2_with fail
  go_region_with (first|(go_at_call 162;refine(HIns.out _ _ ?hb ?hk ?hn).mono ?_;(case hb=>first|exact((MY _ _).alloc (MV _) _).drew|exact((Below.refl _ _).drew).alloc (by simp) _);(case hk=>exact M1 _ _);(case hn=>exact MV _);rintro r w5 ⟨q,cap,rfl,s18,t18,hgl5,hc1,hc2,hQ⟩))
  all_goals
   go_wp2;go_ret;exact⟨_,q,by simp,hQ.out.1,rfl,rfl,hQ.out.2⟩
end
abbrev jF(x:Ld):List Value:=[MF ME x.1,MF ME x.2.1,MF ME x.2.2]
theorem yT(x:Ld):(jF x).length=3:=rfl
theorem yh(x:Ld):∀u∈jF x,u.oneCell'=true:=by
 intro u hu;simp only[OO,OD,or_false]at hu;rcases hu with rfl|rfl|rfl <;> rfl
theorem tI:∀l:List Ld,rv jF l=f8 l
 | []=>rfl
 |x::l=>by simp[rv,f8,tI l]
theorem Cn:(Tryz.prog.info? 76).map (fun i=>(i.zero,i.size,i.bytes))=MI (MI (Ny #[MF ME 0,MF ME 0,MF ME 0]),3,24):=by kernel_rfl
def fQ(fs:List Fl):List Int:=(Pm 12).map fun(b:Nat)=>((fX fs (b:Int):Nat):Int)
theorem lj(fs:List Fl):(fQ fs).length=12:=by simp[fQ]
theorem mn(fs:List Fl){b:Nat}(hb:b<12):(fQ fs)[b]'(by rw[lj];exact hb)=((fX fs (b:Int):Nat):Int):=by simp[fQ]
theorem DZ(fs:List Fl)(f:Fl){b:Nat}(hb:b<12)(he:f.be=(b:Int)):fQ (fs++[f])=(fQ fs).set b (((fX fs (b:Int):Nat):Int)+1):=by
 apply PX
 ·simp[lj]
 ·intro k h1 h2
  have hk:k<12:=by simpa [lj]using h1
  rw[mn _ hk,Pc];unfold fX;rw[Qi]
  by_cases e:b=k
  ·subst e
   rw[Nh rfl];simp[he]
  ·rw[Nf e,mn _ hk]
   have:(f.be == (k:Int))=false:=by rw[he,Oh];omega
   simp[fX,this]
section
variable {base:Nat}{w:MO}{g:Nat}{V:Vs}{G:Gt}
def eU(G:Gt)(fs:List Fl)(k:Nat):List Ld:=((G.liv.take k).filter fun l=>l.2.1 == 2).map fun l=>(l.1,gL G l,(fX fs l.1:Int))
theorem yK(fs:List Fl):eU G fs G.liv.length=ej G fs:=by unfold eU ej;rw[NT]
theorem yq(fs:List Fl)(hk:k<G.liv.length)(h:G.liv[k].2.1=2):eU G fs (k+1)=eU G fs k++[(G.liv[k].1,gL G G.liv[k],(fX fs G.liv[k].1:Int))]:=by
 unfold eU;rw[M9 hk,OY,OI];simp[h]
theorem E3(fs:List Fl)(hk:k<G.liv.length)(h:¬G.liv[k].2.1=2):eU G fs (k+1)=eU G fs k:=by
 unfold eU;rw[M9 hk,OY,OI];have:(G.liv[k].2.1 == 2)=false:=by rw[Oh];exact h
 simp[this]
theorem Ac(fs:List Fl)(k:Nat):(eU G fs k).length<=G.liv.length:=by
 unfold eU;rw[N0];exact Nm (O1 _ _) (List.length_take_le' _ _)
theorem AU{W:MO}{B:Nat}{p:Option Oc}{n c:Nat}{m:List Ld}(ho:W.ownsRow B 76 3 (MG p n c) n (rv jF m))(hB:B<=W.heap.size)(hn:n<=1000)(x:Ld) :
  ∃q c' w5,(N2 #[74,74] 74 #[MG p n c,MG (MI ⟨W.heap.size,0,MH⟩) 1 1]).run MK (W.alloc (MP #[MF ME x.1,MF ME x.2.1,MF ME x.2.2] 76))=.ok (MG (MI ⟨q,0,MH⟩) (n+1) c') w5 /\
   w5.ownsRow B 76 3 (MG (MI ⟨q,0,MH⟩) (n+1) c') (n+1) (rv jF (m++[x]))/\MQ B W w5/\∀b,b<W.heap.size->p.map (·.block)≠MI b->w5.heap[b]?=W.heap[b]?:=by
 obtain⟨q,c',w5,hr,ho',hg,hlies⟩:=rN yT yh (by decide) Tryz.underlying74 Cn rfl ho hB 74 x #[MF ME x.1,MF ME x.2.1,MF ME x.2.2] rfl (by omega) (by unfold NE;omega);exact⟨q,c',w5,hr,ho',(MY _ _).grown hg hB (fun k hk=>(ho.lt k hk).1),fun b hb hne=>hg.block b hb fun e=>hne (by rw[<-cS p n c,<-e])⟩
theorem Ab(h:ab base w g V G)(hbs:Bs G)(v:M7)(fs:List Fl)(hv:dS w v fs)(hfs:∀f∈fs,0<=f.be/\f.be<12)(hl:fs.length<=40) :
  Ni MK 158 #[gP g,v] w fun r w'=>∃y,r=MN y/\eZ w' y (ej G fs)/\MQ w.heap.size w w':=by
 obtain⟨pa,ca,rfl,hca,hma,pf⟩:=hv.F6;unfold NE at hma;obtain⟨W,hW⟩:∃W,W=w.alloc (MP (aj (Nj 12 0)).toArray 100):=⟨_,rfl⟩;have hB:MQ w.heap.size w W:=by rw[hW];exact ai w
 have hA:aC 100 12 W w.heap.size (fQ []):=by
  have e:fQ []=Nj 12 0:=by rfl
  rw[hW,e];exact aC.new w 100 (Nj 12 0)
 have hliv:=hbs.book.1.1;have H:M6 (_/\_/\_/\_/\_/\_):=⟨h,hbs,hfs,pf,hB,hA⟩;have hgl:=h.lt;clear h hbs hv hfs pf hB hA;go_enter Tryz.func158,Tryz.ntmps158;go_wp2;rw[show(w.alloc (MP #[MF ME 0,MF ME 0,MF ME 0,MF ME 0,MF ME 0,MF ME 0,MF ME 0,MF ME 0,MF ME 0,MF ME 0,MF ME 0,MF ME 0] 100))=W from hW.symm];clear hW
 go_loopw [13] (fun t wr=>∃k:Nat,t=MF ME k/\k<=fs.length/\aC 100 12 wr w.heap.size (fQ (fs.take k))/\MQ w.heap.size w wr/\w.heap.size<wr.heap.size) (fun t _=>fs.length-(intOf t).toNat)
 case atStart=>exact⟨0,rfl,Nx _,H.out.2.2.2.2.2,H.out.2.2.2.2.1,H.out.2.2.2.2.2.lt⟩
 case round =>
  obtain⟨k,rfl,hk,hA,hbr,hsz⟩:=hrel
  by_cases hlt:k<fs.length
  ·obtain⟨b1,o1,rfl,hb1,z0,z1,z2,z3,z4,z5,z6⟩:=H.out.2.2.2.1 k hlt
   have hbe:=H.out.2.2.1 _ (Nk hlt);have htk:fs.take (k+1)=fs.take k++[fs[k]]:=M9 hlt;obtain⟨f,hfe⟩:∃f,f=fs[k]:=⟨_,rfl⟩;rw[<-hfe]at z0 z1 z2 z3 z4 z5 z6 hbe htk;obtain⟨b,hbn⟩:=NL hbe.1;have hb12:b<12:=by omega
   have hbI:(b:Int)<12:=by omega
   have hb0:(0:Int)<=(b:Int):=by omega
   have e0:=(hbr.cell (p:=⟨b1,o1+k*7,MH⟩) hb1).trans z0;have e1:=(hbr.cell (p:=⟨b1,o1+k*7+1,MH⟩) hb1).trans z1;have e2:=(hbr.cell (p:=⟨b1,o1+k*7+2,MH⟩) hb1).trans z2;have e3:=(hbr.cell (p:=⟨b1,o1+k*7+3,MH⟩) hb1).trans z3;have e4:=(hbr.cell (p:=⟨b1,o1+k*7+4,MH⟩) hb1).trans z4;have e5:=(hbr.cell (p:=⟨b1,o1+k*7+5,MH⟩) hb1).trans z5;have e6:=(hbr.cell (p:=⟨b1,o1+k*7+6,MH⟩) hb1).trans z6;rw[hbn]at e3;have a1:=hA.F7 b (by rw[lj];exact hb12);rw[mn _ hb12]at a1;have a2:=hA.Gu b;obtain⟨cn,hcn⟩:∃cn:Int,cn=((fX (fs.take k) (b:Int):Nat):Int):=⟨_,rfl⟩;rw[<-hcn]at a1;have hcb:0<=cn/\cn<=40:=by have:=wI (fs.take k) (b:Int);rw[NH]at this;omega
   have hwr:IntKind.i64.wrap (cn+1)=cn+1:=by rw[Ow];omega
   have hbk2:b1<wr.heap.size:=M8 hb1 hbr.size;have hkI:(k:Int)<(fs.length:Int):=by omega
   have HR:M6 (_/\_/\_/\_/\_/\_):=⟨hA,hbr,hsz,htk,hbn,hcn⟩;clear hA hbr htk hbn hcn z0 z1 z2 z3 z4 z5 z6 hfe hbe hb1;have hneb:¬w.heap.size=wr.heap.size:=by omega
   have hneb2:¬wr.heap.size=w.heap.size:=by omega
   go_wp2
   go_roundw
   case rel =>
    obtain⟨hA,hbr,hsz,htk,hbn,hcn⟩:=HR.out;refine⟨k+1,by simp,hlt,?_,?_,?_⟩
    ·rw[htk,DZ _ _ hb12 hbn,<-hcn]
     first
     |exact(hA.F4 b (cn+1)).below (ai _)
     |exact(hA.below (ai _)).set b (cn+1)
    ·first
     |exact(hbr.setCell (p:=⟨w.heap.size,b,MH⟩) (MV _) _).alloc (by simp;omega) _
     |exact(hbr.alloc (by omega) _).setCell (p:=⟨w.heap.size,b,none⟩) (Nat.le_refl _) _
    ·simp;omega
   case measure=>simp[intOf];omega
  ·obtain rfl:k=fs.length:=by omega
   rw[NT]at hA;have hlt2:¬((fs.length:Int)<(fs.length:Int)):=by omega
   have hG1:=H.out.1.below hbr;have c19:=hG1.Gn;have hgl1:=hG1.lt;obtain⟨al,cal,hel,hcal,hmal,pal⟩:=jH.F6 H.out.1.rest.book.now.1;injection hel with el1 _ el3;unfold NE at hmal;rw[el1,el3]at c19;obtain⟨W1,hW1⟩:∃W1,W1=wr:=⟨_,rfl⟩;subst hW1;have HL:M6 (_/\_/\_/\_):=⟨hA,hbr,hsz,pal⟩;clear hA hbr hG1 hlt pal el1 el3;go_wp2
   go_loopw [8,31] (fun s8 t wr=>∃(k:Nat) (p:Option Oc) (n c:Nat),s8=MG p n c/\t=MF ME k/\k<=G.liv.length/\n=(eU G fs k).length/\wr.ownsRow (w.heap.size+1) 76 3 (MG p n c) n (rv jF (eU G fs k))/\aC 100 12 wr w.heap.size (fQ fs)/\MQ w.heap.size w wr/\w.heap.size<wr.heap.size) (fun _ t _=>G.liv.length-(intOf t).toNat)
   case atStart=>exact⟨0,MH,0,0,rfl,rfl,Nx _,rfl,NY _ _ _ _,HL.out.1,HL.out.2.1,HL.out.2.2.1⟩
   case round =>
    obtain⟨k,p,n,c,rfl,rfl,hk,hn,ho,hA,hbr,hsz2⟩:=hrel
    by_cases hlt:k<G.liv.length
    ·obtain⟨b1,o1,hpa,hb1,z0,z1,z2,z3,z4,z5⟩:=HL.out.2.2.2 k hlt
     subst hpa;have hlm:=Nk hlt;have hlf:=(H.out.2.1.lf hlm).1.1;have hyes:=yq (G:=G) fs hlt;have hno:=E3 (G:=G) fs hlt;have hln:=Ac (G:=G) fs k;obtain⟨⟨x1,x2,x3,x4,x5,x6⟩,hxe⟩:∃x,x=G.liv[k]:=⟨_,rfl⟩;rw[<-hxe]at z0 z1 z2 z3 z4 z5 hlm hlf hyes hno;have hlf:0<=x1/\x1<=11:=hlf;obtain⟨b,rfl⟩:=NL hlf.1;have hb12:b<12:=by omega
     have hbI:(b:Int)<12:=by omega
     have hb0:(0:Int)<=(b:Int):=by omega
     have e0:=(hbr.cell (p:=⟨b1,o1+k*6,MH⟩) hb1).trans z0;have e1:=(hbr.cell (p:=⟨b1,o1+k*6+1,MH⟩) hb1).trans z1;have e2:=(hbr.cell (p:=⟨b1,o1+k*6+2,MH⟩) hb1).trans z2;have e3:=(hbr.cell (p:=⟨b1,o1+k*6+3,MH⟩) hb1).trans z3;have e4:=(hbr.cell (p:=⟨b1,o1+k*6+4,MH⟩) hb1).trans z4;have e5:=(hbr.cell (p:=⟨b1,o1+k*6+5,MH⟩) hb1).trans z5;have hbk2:b1<wr.heap.size:=M8 hb1 hbr.size;have hkI:(k:Int)<(G.liv.length:Int):=by omega
     by_cases h2:x2=2
     ·subst h2
      have hyes:=hyes rfl;obtain⟨W2,hW2⟩:∃W2,W2=wr.alloc (cE ((b:Int),2,x3,x4,x5,x6)):=⟨_,rfl⟩;have hB2:MQ wr.heap.size wr W2:=by rw[hW2];exact ai wr
      have hR2:W2.heap[wr.heap.size]?=MI (cE ((b:Int),2,x3,x4,x5,x6)):=by rw[hW2];exact M1 _ _
      have hA2:=hA.below hB2;have ho2:=cq ho hB2;have hG2:=(H.out.1.below hbr).below hB2;have lfc:∀ {X:MO},X.heap[wr.heap.size]?=MI (cE ((b:Int),2,x3,x4,x5,x6))->X.cell? ⟨wr.heap.size,0,MH⟩=MI (MF ME (b:Int))/\X.cell? ⟨wr.heap.size,1,MH⟩=MI (MF ME 2)/\X.cell? ⟨wr.heap.size,2,MH⟩=MI (MF ME x3)/\X.cell? ⟨wr.heap.size,3,MH⟩=MI (MF ME x4)/\X.cell? ⟨wr.heap.size,4,MH⟩=MI (MF ME x5)/\X.cell? ⟨wr.heap.size,5,MH⟩=MI (MF ME x6):=fun {X} hX =>
       ⟨by rw[MW X _ 0 _ _ (0,0) hX];rfl,by rw[MW X _ 1 _ _ (0,0) hX];rfl,by rw[MW X _ 2 _ _ (0,0) hX];rfl,by rw[MW X _ 3 _ _ (0,0) hX];rfl,by rw[MW X _ 4 _ _ (0,0) hX];rfl,by rw[MW X _ 5 _ _ (0,0) hX];rfl⟩
      obtain⟨cn,hcn⟩:∃cn:Int,cn=((fX fs (b:Int):Nat):Int):=⟨_,rfl⟩;obtain⟨wt,hwt⟩:∃wt,wt=gL G ((b:Int),2,x3,x4,x5,x6):=⟨_,rfl⟩;have arc:∀ {X:MO},aC 100 12 X w.heap.size (fQ fs)->X.cell? ⟨w.heap.size,b,MH⟩=MI (MF ME cn):=fun {X} hX=>by
       have:=hX.F7 b (by rw[lj];exact hb12);rw[mn _ hb12,<-hcn]at this;exact this
      have HWt:M6 (∀X:MO,MQ W2.heap.size W2 X->Ni MK 201 #[gP g,gu ((b:Int),2,x3,x4,x5,x6)] X fun r w'=>r=MN (MF ME wt)/\∃q c' w5,
        (w'.cell? ⟨wr.heap.size,0,MH⟩=MI (MF ME (b:Int))/\w'.cell? ⟨wr.heap.size,1,MH⟩=MI (MF ME 2)/\w'.cell? ⟨wr.heap.size,2,MH⟩=MI (MF ME x3)/\w'.cell? ⟨wr.heap.size,3,MH⟩=MI (MF ME x4)/\w'.cell? ⟨wr.heap.size,4,MH⟩=MI (MF ME x5)/\w'.cell? ⟨wr.heap.size,5,MH⟩=MI (MF ME x6)/\w'.cell? ⟨w.heap.size,b,MH⟩=MI (MF ME cn)) /\
        ((w'.alloc (MP #[MF ME (b:Int),MF ME wt,MF ME cn] 76)).cell? ⟨wr.heap.size,0,MH⟩=MI (MF ME (b:Int))/\(w'.alloc (MP #[MF ME (b:Int),MF ME wt,MF ME cn] 76)).cell? ⟨wr.heap.size,1,MH⟩=MI (MF ME 2)/\(w'.alloc (MP #[MF ME (b:Int),MF ME wt,MF ME cn] 76)).cell? ⟨wr.heap.size,2,MH⟩=MI (MF ME x3)/\(w'.alloc (MP #[MF ME (b:Int),MF ME wt,MF ME cn] 76)).cell? ⟨wr.heap.size,3,MH⟩=MI (MF ME x4)/\(w'.alloc (MP #[MF ME (b:Int),MF ME wt,MF ME cn] 76)).cell? ⟨wr.heap.size,4,MH⟩=MI (MF ME x5)/\(w'.alloc (MP #[MF ME (b:Int),MF ME wt,MF ME cn] 76)).cell? ⟨wr.heap.size,5,MH⟩=MI (MF ME x6)/\(w'.alloc (MP #[MF ME (b:Int),MF ME wt,MF ME cn] 76)).cell? ⟨w.heap.size,b,MH⟩=MI (MF ME cn)) /\
        (w5.cell? ⟨wr.heap.size,0,MH⟩=MI (MF ME (b:Int))/\w5.cell? ⟨wr.heap.size,1,MH⟩=MI (MF ME 2)/\w5.cell? ⟨wr.heap.size,2,MH⟩=MI (MF ME x3)/\w5.cell? ⟨wr.heap.size,3,MH⟩=MI (MF ME x4)/\w5.cell? ⟨wr.heap.size,4,MH⟩=MI (MF ME x5)/\w5.cell? ⟨wr.heap.size,5,MH⟩=MI (MF ME x6)/\w5.cell? ⟨w.heap.size,b,MH⟩=MI (MF ME cn)) /\
        M6 ((N2 #[74,74] 74 #[MG p n c,MG (MI ⟨w'.heap.size,0,MH⟩) 1 1]).run MK (w'.alloc (MP #[MF ME (b:Int),MF ME wt,MF ME cn] 76))=.ok (MG (MI ⟨q,0,MH⟩) (n+1) c') w5/\w5.ownsRow (w.heap.size+1) 76 3 (MG (MI ⟨q,0,MH⟩) (n+1) c') (n+1) (rv jF (eU G fs (k+1)))/\aC 100 12 w5 w.heap.size (fQ fs)/\MQ w.heap.size w w5/\w.heap.size<w5.heap.size)):=by
       refine fun X hX=>(Bv (hG2.below hX) H.out.2.1 hlm).mono ?_
       rintro r w' ⟨rfl,hb'⟩;have hb3:MQ W2.heap.size W2 w':=hX.trans (hb'.mono hX.size);have hAw:=hA2.below hb3;have how:=cq ho2 hb3;have hRw:=af hR2 hb3;have hbw:MQ w.heap.size w w':=(hbr.trans (hB2.mono hbr.size)).trans (hb3.mono (Nm hbr.size hB2.size));obtain⟨q,c',w5,hr,ho5,hb5,hk5⟩:=AU how (Nm (by omega) (Nm hB2.size hb3.size)) (by omega) ((b:Int),wt,cn);have hpb:∀z,p.map (·.block)=MI z->w.heap.size+1<=z/\z<wr.heap.size:=fun z e=>ho.lt z (by rw[cS];exact e)
       have hws:wr.heap.size<w'.heap.size:=(Array.getElem?_eq_some_iff.1 hRw).1;have hR5:=(hk5 wr.heap.size hws (fun e=>by have:=(hpb _ e).2;omega)).trans hRw;have hA5:=hAw.Gf (hk5 w.heap.size hAw.lt (fun e=>by have:=(hpb _ e).1;omega));have hRa:=af hRw (ai w' (o:=MP #[MF ME (b:Int),MF ME wt,MF ME cn] 76));have hAa:=hAw.below (ai w' (o:=MP #[MF ME (b:Int),MF ME wt,MF ME cn] 76));have f1:=lfc hRw;have f2:=lfc hRa;have f3:=lfc hR5;refine⟨by rw[hwt],q,c',w5,⟨f1.1,f1.2.1,f1.2.2.1,f1.2.2.2.1,f1.2.2.2.2.1,f1.2.2.2.2.2,arc hAw⟩,⟨f2.1,f2.2.1,f2.2.2.1,f2.2.2.2.1,f2.2.2.2.2.1,f2.2.2.2.2.2,arc hAa⟩,⟨f3.1,f3.2.1,f3.2.2.1,f3.2.2.2.1,f3.2.2.2.2.1,f3.2.2.2.2.2,arc hA5⟩,hr,?_,hA5,hbw.trans (hb5.mono (Ps _)),hA5.lt⟩;rw[hyes,<-hwt,<-hcn];exact ho5
      obtain⟨y0,y1,y2,y3,y4,y5⟩:=lfc hR2;have yc:=arc hA2;have hlW:wr.heap.size<W2.heap.size:=(Array.getElem?_eq_some_iff.1 hR2).1;have hn1:M6 (n+1=(eU G fs (k+1)).length):=by show n+1=_;rw[hyes,Ns,<-hn];rfl
      clear ho hA hbr hyes hno hxe z0 z1 z2 z3 z4 z5 hlm hlf hB2 hR2 hA2 ho2 hG2 lfc arc hcn hwt hn hln hb1
      go_wp2_with fail
      rw[<-hW2];clear hW2
      go_region_held3 (fun X=>X.cell? ⟨wr.heap.size,0,MH⟩=MI (MF ME (b:Int))/\X.cell? ⟨wr.heap.size,1,MH⟩=MI (MF ME 2)/\X.cell? ⟨wr.heap.size,2,MH⟩=MI (MF ME x3)/\X.cell? ⟨wr.heap.size,3,MH⟩=MI (MF ME x4)/\X.cell? ⟨wr.heap.size,4,MH⟩=MI (MF ME x5)/\X.cell? ⟨wr.heap.size,5,MH⟩=MI (MF ME x6)/\X.cell? ⟨w.heap.size,b,MH⟩=MI (MF ME cn)) (first|exact⟨y0,y1,y2,y3,y4,y5,yc⟩|exact hS1|exact hS2|exact hS3) (first|(go_at_call 201;refine(HWt.out _ (by first|exact(MY _ _).drew|exact Below.refl _ _)).mono ?_;rintro r w4 ⟨rfl,q,c',w5,hS1,hS2,hS3,hQ⟩)|(refine mM (by rfl) _ _ 74 (by rfl) _ _ _ _ (by rfl) (by rfl) hQ.out.1 ?_))
      all_goals
       go_wp2
       go_roundw
       case rel=>exact⟨k+1,MI ⟨q,0,MH⟩,n+1,c',rfl,by simp,hlt,hn1.out,hQ.out.2.1,hQ.out.2.2.1,hQ.out.2.2.2.1,hQ.out.2.2.2.2⟩
       case measure=>simp[intOf];omega
     ·have hno:=hno h2
      have hne:(x2 == 2)=false:=by rw[Oh];exact h2
      have HR:M6 (_/\_/\_/\_/\_/\_):=⟨ho,hA,hbr,hsz2,hn,hno⟩;clear ho hA hbr hyes hno hxe z0 z1 z2 z3 z4 z5 hlm hlf hn hln hb1;go_wp2
      go_roundw
      case rel =>
       obtain⟨ho,hA,hbr,hsz2,hn,hno⟩:=HR.out;refine⟨k+1,p,n,c,rfl,by simp,hlt,by rw[hno];exact hn,by rw[hno];exact ho.alloc _,hA.below (ai _),hbr.alloc (by omega) _,by simp;omega⟩
      case measure=>simp[intOf];omega
    ·obtain rfl:k=G.liv.length:=by omega
     have hlt3:¬((G.liv.length:Int)<(G.liv.length:Int)):=by omega
     rw[yK]at hn ho;have HR:M6 (_/\_/\_):=⟨ho,hbr,hn⟩;clear ho hbr hn hA;go_wp2;go_ret;refine⟨_,rfl,?_,HR.out.2.1⟩;have h9:=bP HR.out.1;rw[tI,HR.out.2.2]at h9;rw[HR.out.2.2];exact h9
end
section
variable {base:Nat}{w:MO}{g:Nat}{V:Vs}{G:Gt}
abbrev pU(G:Gt):Obj:=MP #[MF ME G.cfg.flows,MF ME G.cfg.num,MF ME G.cfg.den,MF ME G.cfg.tries,MF ME G.cfg.warm,MF ME G.cfg.drain,MF ME G.cfg.idle,MF ME G.cfg.conn,MF ME G.cfg.ret,MF ME G.cfg.most,MF ME G.cfg.bn,MF ME G.cfg.bd,MF ME G.cfg.bb,MF ME G.cfg.wn,MF ME G.cfg.wf,MF ME G.cfg.wh] 34
theorem nV(h:ab base w g V G)(hbs:Bs G)(hkey:0<=key/\key<=4294967295)(v:M7)(fs:List Fl)(hv:dS w v fs)(hfs:∀f∈fs,0<=f.be/\f.be<12)(hl:fs.length<=40):
  Ni MK 111 #[gP g,MF ME key,v] w fun r w'=>r=MN (Nv #[MF ME (dL G key fs).1,M3 ((dL G key fs).2 == 0)])/\MQ w.heap.size w w':=by
 obtain⟨kn,rfl⟩:=NL hkey.1;obtain⟨pa,ca,rfl,hca,hma,_⟩:=hv.F6;unfold NE at hma;obtain⟨ws,hws⟩:∃ws,ws=ie (ao G.wts) (fH kn:Nat):=⟨_,rfl⟩;have HW:=Cq (MG V.ps (ao G.wts).length V.cs) G.wts kn w hbs.wts h.rest.ring.now (by omega);rw[<-hws]at HW;have c21:=h.GX;have hgl:=h.lt;obtain⟨O,hO⟩:∃O,O=dL G (kn:Int) fs:=⟨_,rfl⟩;have hO2:O=gY ws (ej G fs) G.cfg.num G.cfg.den (fs.length:Int) G.cfg.tries:=by
  rw[hO,hws];unfold dL pR;rw[NR]
 rw[<-hO];have H:M6 (_/\_/\_/\_/\_/\_/\_):=⟨h,hbs,hv,hfs,hl,HW,hO2⟩;clear h hbs hv hfs HW hO hO2 hws hkey;go_enter Tryz.func111,Tryz.ntmps111
 go_wp2_with fail
 refine Nd H.out.2.2.2.2.2.1 ?_;rintro r w1 ⟨p,c,rfl,ho,hb1⟩;have hG1:=H.out.1.below hb1;have c0:=hG1.c0;have c1:=hG1.c1;have c2:=hG1.c2;have c3:=hG1.c3;have c4:=hG1.c4;have c5:=hG1.c5;have c6:=hG1.c6;have c7:=hG1.c7;have c8:=hG1.c8;have c9:=hG1.c9;have c10:=hG1.Hf;have c11:=hG1.Hn;have c12:=hG1.Hg;have c13:=hG1.GS;have c14:=hG1.GU;have c15:=hG1.GO;have hgl1:=hG1.lt;obtain⟨W,hW⟩:∃W,W=w1.alloc (pU G):=⟨_,rfl⟩;have hB:MQ w1.heap.size w1 W:=by rw[hW];exact ai w1
 have hR:W.heap[w1.heap.size]?=MI (pU G):=by rw[hW];exact M1 _ _
 have hG2:=hG1.below hB;have hbw:MQ w.heap.size w W:=hb1.trans (hB.mono hb1.size);have hv2:dS W (MG pa fs.length ca) fs:=bj.below H.out.2.2.1 hbw;have how:fZ W (MG p ws.length c) ws:=bP (cq ho hB);have bx:∀ {X:MO},X.heap[w1.heap.size]?=MI (pU G)->X.cell? ⟨w1.heap.size,1,MH⟩=MI (MF ME G.cfg.num)/\X.cell? ⟨w1.heap.size,2,MH⟩=MI (MF ME G.cfg.den)/\X.cell? ⟨w1.heap.size,3,MH⟩=MI (MF ME G.cfg.tries):=fun {X} hX =>
  ⟨by rw[MW X _ 1 _ _ (0,0) hX];rfl,by rw[MW X _ 2 _ _ (0,0) hX];rfl,by rw[MW X _ 3 _ _ (0,0) hX];rfl⟩
 have HLd:M6 (∀X,MQ W.heap.size W X->Ni MK 158 #[gP g,MG pa fs.length ca] X fun r w'=>∃z m d,r=MN (MG z m d)/\(w'.cell? ⟨w1.heap.size,1,MH⟩=MI (MF ME G.cfg.num)/\w'.cell? ⟨w1.heap.size,2,MH⟩=MI (MF ME G.cfg.den)/\w'.cell? ⟨w1.heap.size,3,MH⟩=MI (MF ME G.cfg.tries))/\M6 (eZ w' (MG z m d) (ej G fs)/\MQ W.heap.size W w')):=by
  refine fun X hX=>(Ab (hG2.below hX) H.out.2.1 _ fs (bj.below hv2 hX) H.out.2.2.2.1 H.out.2.2.2.2.1).mono ?_
  rintro r w' ⟨y,rfl,hy,hb'⟩;obtain⟨z,d,rfl,_⟩:=hy.F6;have hb3:=hX.trans (hb'.mono hX.size);exact⟨z,_,d,rfl,bx (af hR hb3),hy,hb3⟩
 have HP:M6 (∀X z m d,MQ W.heap.size W X->eZ X (MG z m d) (ej G fs)->Ni MK 17 #[MG p ws.length c,MG z m d,MF ME G.cfg.num,MF ME G.cfg.den,MF ME (fs.length:Int),MF ME G.cfg.tries] X fun r w'=>r=MN (Nv #[MF ME O.1,MF ME O.2])/\(w'.cell? ⟨w1.heap.size,1,MH⟩=MI (MF ME G.cfg.num)/\w'.cell? ⟨w1.heap.size,2,MH⟩=MI (MF ME G.cfg.den)/\w'.cell? ⟨w1.heap.size,3,MH⟩=MI (MF ME G.cfg.tries))/\M6 (MQ W.heap.size W w')):=by
  refine fun X z m d hX hy=>(EM (MG p ws.length c) (MG z m d) ws (ej G fs) G.cfg.num G.cfg.den (fs.length:Int) G.cfg.tries X (how.below hX) hy).mono ?_
  rw[<-H.out.2.2.2.2.2.2];rintro r w' ⟨rfl,hb'⟩;have hb3:=hX.trans (hb'.mono hX.size);exact⟨rfl,bx (af hR hb3),hb3⟩
 have hS0:=bx hR;have HB:M6 _:=hbw;clear hG1 hG2 hb1 hB hR hv2 how bx hbw ho
 go_wp2_with fail
 rw[<-hW];clear hW c0 c1 c2 c3 c4 c5 c6 c7 c8 c9 c10 c11 c12 c13 c14 c15 c21
 go_region_held3 (fun X=>X.cell? ⟨w1.heap.size,1,MH⟩=MI (MF ME G.cfg.num)/\X.cell? ⟨w1.heap.size,2,MH⟩=MI (MF ME G.cfg.den)/\X.cell? ⟨w1.heap.size,3,MH⟩=MI (MF ME G.cfg.tries)) (first|exact hS0|exact hS1|exact hS2) (first|(go_at_call 158;refine(HLd.out _ (by first|exact(MY _ _).drew|exact Below.refl _ _)).mono ?_;rintro r w4 ⟨z,m,d,rfl,hS1,hQ⟩)|(go_at_call 17;refine(HP.out _ z m d hQ.out.2 hQ.out.1).mono ?_;rintro r w5 ⟨rfl,hS2,hQ2⟩))
 all_goals
  go_wp2
  go_ret2
  exact⟨rfl,HB.out.trans (hQ2.out.mono HB.out.size)⟩
end
section
variable {base:Nat}{w:MO}{g:Nat}{V:Vs}{G:Gt}
theorem Ep{w':MO}{r:Ending}{G':Gt}(h:ew base w g V G' r w'):eK base w g V G' r w':=by
 obtain⟨h1,V',h2,h3,h4⟩:=h;exact⟨h1,V',h2,h3.2.2,h4⟩
theorem E6(h:ab base w g V G)(hbs:Bs G)(hw:G.wnow=G.now)(hl:G.out.length<=900000)(hkey:0<=key/\key<=4294967295):
  Ni MK 78 #[gP g,MF ME key] w (eK base w g V (mA G key)):=by
 have HC:M6 _:=yE (MG V.pt G.tab.length V.ct) G.tab w h.rest.tab.now;have c17:=h.Gs;have hgl:=h.lt;have hbe:∀f∈G.fls,0<=f.be/\f.be<12:=fun f hf=>(hbs.F9 hf).2.2.2
 have H:M6 (_/\_/\_/\_):=⟨h,hbs,hl,hbe⟩;obtain⟨O,hO⟩:∃O,O=mA G key:=⟨_,rfl⟩;rw[<-hO];have hOO:=hO;unfold mA at hO;clear h hbs hl hbe;cases hfree:G.tab.any eu
 ·rw[hfree,Nh rfl]at hO
  rw[hfree]at HC;have HO:M6 _:=hO;clear hO hOO;go_enter WK,WD
  go_wp2_with fail
  refine Nd HC.out ?_;rintro r w1 ⟨rfl,hb1⟩;have H1:M6 (_/\_):=⟨mh (H.out.1.below hb1) (by have:=H.out.2.2.1;omega) 2 9,am.F5 (V:=V) (g:=g) hb1⟩;clear hb1
  go_wp2_with fail
  refine Nd H1.out.1 ?_;rintro r w2 ⟨rfl,V2,hG2,hV2,hF2⟩;have H2:M6 (_/\_/\_):=⟨hG2,hV2.2.2,H1.out.2.F0 hF2⟩;clear hG2 hV2 hF2;go_wp2
  go_end0
  rw[HO.out];exact⟨rfl,V2,H2.out.1,H2.out.2.1,H2.out.2.2⟩
 ·rw[hfree,Nf (by decide)]at hO
  rw[hfree]at HC;obtain⟨⟨cb,ce⟩,hce⟩:∃ce,ce=dL G key G.fls:=⟨_,rfl⟩
  by_cases hc0:ce=0
  ·subst hc0
   rw[<-hce]at hO;simp only[]at hO;rw[Nf (by decide)]at hO;have hch:=H.out.2.1.Ib (key:=key) H.out.2.1.Gb (by rw[<-hce]);rw[<-hce]at hch;have hcb:0<=cb/\cb<12:=hch.2;obtain⟨G1,hG1e⟩:∃G1,G1=jD G key cb:=⟨_,rfl⟩;obtain⟨i,hi⟩:∃i,i=f9 G.fls (cZ G.tab key cb).2.1.1:=⟨_,rfl⟩;rw[<-hG1e,<-hi]at hO;have hbs1:Bs G1:=by rw[hG1e];exact H.out.2.1.Jn hfree hkey hcb
   have hi1:i<G1.fls.length:=by
    rw[hG1e,hi];show f9 G.fls _<(aT G.fls _ (f9 G.fls _)).length;rw[vo _ _ (nR _ _)];have:=nR G.fls (cZ G.tab key cb).2.1.1;omega
   have hsm:G1.cfg=G.cfg/\G1.now=G.now/\G1.wnow=G.wnow/\G1.tok=G.tok/\G1.out=G.out:=by rw[hG1e];exact⟨rfl,rfl,rfl,rfl,rfl⟩
   have HX:M6 (_/\_/\_/\_/\_/\_/\_/\_):=⟨hO,hbs1,hi1,hsm,hcb,hG1e,hi,hw⟩;have HCe:M6 _:=hce;clear hO hOO hbs1 hsm hcb hG1e hi hch hw hce hi1;go_enter WK,WD
   go_wp2_with fail
   refine Nd HC.out ?_;rintro r w1 ⟨rfl,hb1⟩;have hG1:=H.out.1.below hb1;have d18:=hG1.Gr;have hgl1:=hG1.lt;have HCh:=nV hG1 H.out.2.1 hkey _ G.fls hG1.GK H.out.2.2.2 H.out.2.1.Gb;rw[<-HCe.out]at HCh;have H1:M6 (_/\_/\_):=⟨HCh,hG1,am.F5 (V:=V) (g:=g) hb1⟩;clear hb1 hG1 HCh c17
   go_wp2_with fail
   refine Nd H1.out.1 ?_;rintro r w2 ⟨rfl,hb2⟩;have hG2:=H1.out.2.1.below hb2;have HPt:=D2 hG2 H.out.2.1 hfree hkey HX.out.2.2.2.2.1;rw[<-HX.out.2.2.2.2.2.1,<-HX.out.2.2.2.2.2.2.1]at HPt;have H2:M6 (_/\_):=⟨HPt,H1.out.2.2.below hb2⟩;clear hb2 hG2 HPt d18 hgl1
   go_wp2_with fail
   refine Nd H2.out.1 ?_;rintro r w3 ⟨V3,bf,rfl,hG3,hp3,hbh3,hF3⟩;have e7:w3.cell? ⟨g,7,MH⟩=MI (MF ME G.cfg.conn):=by rw[<-HX.out.2.2.2.1.1];exact hG3.c7
   have hgl3:=hG3.lt;have hwn:=H.out.2.1.now;have hsm:=HX.out.2.2.2.1;have HWt:=mT hG3 HX.out.2.2.1 hp3 (n:=G.cfg.conn) H.out.2.1.conn (HX.out.2.1.F9 (Nk HX.out.2.2.1)).1 (by rw[hsm.2.2.1,hsm.2.1];exact HX.out.2.2.2.2.2.2.2) (by rw[hsm.2.1];exact hwn);have H3:M6 (_/\_/\_/\_):=⟨HWt,H2.out.2.F0 hF3,hp3,hbh3⟩;clear hG3 hF3 hp3 hbh3 HWt hwn hsm
   go_wp2_with fail
   refine Nd H3.out.1 ?_;rintro r w4 ⟨rfl,V4,hG4,hV4,hF4⟩;obtain⟨G2,hG2e⟩:∃G2,G2=dU G1 i G.cfg.conn:=⟨_,rfl⟩;rw[<-hG2e]at hG4;have hsm2:G2.cfg=G1.cfg/\G2.tok=G1.tok/\G2.out=G1.out/\G2.fls.length=G1.fls.length:=by rw[hG2e];exact⟨rfl,rfl,rfl,by show(G1.fls.set i _).length=_;rw[NA]⟩
   have hi2:i<G2.fls.length:=by rw[hsm2.2.2.2];exact HX.out.2.2.1
   have hp4:V4.pf=MI ⟨bf,0,MH⟩:=hV4.1.trans H3.out.2.2.1;obtain⟨f,hfe⟩:∃f,f=G2.fls[i]:=⟨_,rfl⟩;have fc:∀(X:MO) (V':Vs) (t:Int),ab base X g V' {G2 with tok:=t}->V'.pf=MI ⟨bf,0,MH⟩->X.cell? ⟨bf,i*7,MH⟩=MI (MF ME f.slot)/\X.cell? ⟨bf,i*7+1,MH⟩=MI (MF ME f.gen)/\X.cell? ⟨bf,i*7+2,MH⟩=MI (MF ME f.key)/\X.cell? ⟨bf,i*7+3,MH⟩=MI (MF ME f.be)/\X.cell? ⟨bf,i*7+4,MH⟩=MI (M3 f.srv)/\X.cell? ⟨bf,i*7+5,MH⟩=MI (MF ME f.ret)/\X.cell? ⟨bf,i*7+6,MH⟩=MI (MF ME f.due):=fun X V' t hX hp=>by
    rw[hfe];exact hX.Gl hp hi2
   have e10:w4.cell? ⟨g,10,MH⟩=MI (MF ME G.cfg.bn):=by rw[<-HX.out.2.2.2.1.1,<-hsm2.1];exact hG4.Hf
   have e11:w4.cell? ⟨g,11,MH⟩=MI (MF ME G.cfg.bd):=by rw[<-HX.out.2.2.2.1.1,<-hsm2.1];exact hG4.Hn
   have e12:w4.cell? ⟨g,12,MH⟩=MI (MF ME G.cfg.bb):=by rw[<-HX.out.2.2.2.1.1,<-hsm2.1];exact hG4.Hg
   have e23:w4.cell? ⟨g,23,MH⟩=MI (MF ME G.tok):=by rw[<-HX.out.2.2.2.1.2.2.2.1,<-hsm2.2.1];exact hG4.Id
   have hgl4:=hG4.lt;obtain⟨tk,htk⟩:∃tk,tk=(fI G.cfg.bn G.cfg.bd G.cfg.bb G.tok).1:=⟨_,rfl⟩;have hF04:=H3.out.2.1.F0 hF4;have HE:M6 (∀X,MQ w4.heap.size w4 X->Ni MK 114 #[Ny #[MF ME G.cfg.bn,MF ME G.cfg.bd,MF ME G.cfg.bb],Ny #[MF ME G.tok]] X fun r w'=>∃e,r=MN (Nv #[Ny #[MF ME tk],MF ME e])/\w'.cell? ⟨g,23,MH⟩=MI (MF ME G.tok)/\w'.frozen? ⟨g,23,MH⟩=Nb/\g<w'.heap.size/\M6 (ab base (w'.setCell ⟨g,23,MH⟩ (MF ME tk)) g V4 {G2 with tok:=tk}/\am V V4 g w (w'.setCell ⟨g,23,MH⟩ (MF ME tk)))):=by
    refine fun X hX=>(sG G.cfg.bn G.cfg.bd G.cfg.bb G.tok X).mono ?_
    rintro r w' ⟨rfl,hb'⟩;have hb3:=hX.trans (hb'.mono hX.size);have hG5:=hG4.below hb3;exact⟨_,by rw[htk],(hb3.cell hgl4).trans e23,hG5.fz 23,hG5.lt,hG5.IC tk,(hF04.below hb3).F4 23 _⟩
   have H4:M6 (_/\_/\_/\_/\_/\_):=⟨fc,hp4,hV4.2.2.trans H3.out.2.2.2,hsm2,hG2e,htk⟩;have HFi:M6 (f=aQ G2 i):=by show f=_;rw[bJ hi2,hfe]
   clear hG4 hV4 hF4 hsm2 hG2e fc hp4 hF04 htk hfe hi2 e7 hgl3
   go_wp2_with fail
   go_region_with (first|(go_at_call 114;refine(HE.out _ (by first|exact(MY _ _).drew|exact Below.refl _ _)).mono ?_;rintro r w5 ⟨ee,rfl,s23,t23,hgl5,hQ⟩))
   all_goals
    obtain⟨w6,hw6⟩:∃w6,w6=w5.setCell ⟨g,23,MH⟩ (MF ME tk):=⟨_,rfl⟩;have hG6:=hQ.out.1;have hF6:=hQ.out.2;rw[<-hw6]at hG6 hF6;obtain⟨x0,x1,x2,x3,x4,x5,x6⟩:=H4.out.1 _ _ _ hG6 H4.out.2.1;have hlo:({G2 with tok:=tk}:Gt).out.length<=1000000:=by show G2.out.length<=1000000;rw[H4.out.2.2.2.1.2.2.1,HX.out.2.2.2.1.2.2.2.2];have:=H.out.2.2.1;omega
    have H6:M6 (_/\_):=⟨kV hG6 hlo 1 f,hF6⟩;clear hQ hG6 hF6 hlo s23 t23 hgl5 e10 e11 e12 e23;rw[<-hw6];clear hw6
    go_wp2_with fail
    refine Nd H6.out.1 ?_;rintro r w7 ⟨rfl,V7,hG7,hV7,hF7⟩;have H7:M6 (_/\_/\_):=⟨hG7,hV7.2.2.trans H4.out.2.2.1,H6.out.2.F0 hF7⟩;clear hG7 hV7 hF7;go_wp2
    go_end0
    have hz:O=iA {G2 with tok:=tk} 1 f:=by rw[HX.out.1,HFi.out,H4.out.2.2.2.2.2,H4.out.2.2.2.2.1]
    rw[hz];exact⟨rfl,V7,H7.out.1,H7.out.2.1,H7.out.2.2⟩
  ·rw[<-hce]at hO
   simp only[]at hO;rw[Nh hc0]at hO;have hne:(ce == 0)=false:=by rw[Oh];exact hc0
   have HO:M6 _:=hO;have HCe:M6 _:=hce;clear hO hOO hce;go_enter WK,WD
   go_wp2_with fail
   refine Nd HC.out ?_;rintro r w1 ⟨rfl,hb1⟩;have hG1:=H.out.1.below hb1;have d18:=hG1.Gr;have hgl1:=hG1.lt;have HCh:=nV hG1 H.out.2.1 hkey _ G.fls hG1.GK H.out.2.2.2 H.out.2.1.Gb;rw[<-HCe.out,hne]at HCh;have H1:M6 (_/\_/\_):=⟨HCh,hG1,am.F5 (V:=V) (g:=g) hb1⟩;clear hb1 hG1 HCh c17
   go_wp2_with fail
   refine Nd H1.out.1 ?_;rintro r w2 ⟨rfl,hb2⟩;have H2:M6 (_/\_):=⟨mh (H1.out.2.1.below hb2) (by have:=H.out.2.2.1;omega) 2 11,H1.out.2.2.below hb2⟩;clear hb2
   go_wp2_with fail
   refine Nd H2.out.1 ?_;rintro r w3 ⟨rfl,V2,hG2,hV2,hF2⟩;have H3:M6 (_/\_/\_):=⟨hG2,hV2.2.2,H2.out.2.F0 hF2⟩;clear hG2 hV2 hF2;go_wp2
   go_end0
   rw[HO.out];exact⟨rfl,V2,H3.out.1,H3.out.2.1,H3.out.2.2⟩
end
end Go.Proofs.YtlnbhjdhcmgljaaGreatDoor.Q
