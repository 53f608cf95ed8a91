/-
  TopTold: its walk. Conditions: as each theorem says.
-/
import Derived.Test.YtinbndbjlgoghaaGreatDoorQ20
open Go.IntKind renaming i64->ME
open Go.RowKit renaming Below->MQ,Hid->M6
open Go.Value renaming agg->Ny,int->MF,slice->MG
open List renaming flatten_append->PV,getElem?_eq_getElem->MR,getElem_mem->Nk,length_append->Ns,map_append->OI,mem_of_getElem?->Nu,take_length->NT,take_of_length_le->N1
open Nat renaming le_refl->MV,le_trans->Nm,zero_le->Nx
open Option renaming none->MH,some->MI
namespace Go.Proofs.YtinbndbjlgoghaaGreatDoor.Q
set_option linter.unusedVariables false
set_option linter.unusedSimpArgs false
set_option maxHeartbeats 16000000
set_option maxRecDepth 100000
open Go.RowKit
attribute [local go_sem ↓] Go.wp_at_zero Go.wp_at_succ
variable {c:Cf}{w:World}{g:Nat}{V:Pv}{P:Py}{s:Sp}
section
variable {G:Gt}
theorem UZ(h:Im G):(qU G).out.length<=G.out.length+960:=by
 have h1:=(rm G.liv G G.liv.length h (MV _)).2.2;rw[NT]at h1;have h2:G.liv.length<=12:=h.bs.book.1.1;show(G.liv.foldl dV G).out.length<=_;omega
theorem U1(h:Wm G)(hn:G.now+1<=1099511626776):(mK G).out.length<=G.out.length+1040:=by
 have h1:=h.im.next hn;obtain⟨s1,s2,s3,s4,s5,_⟩:=yj h1.bs;have h2:=h1.Jf;have h3:=h2.I2;have hnow:(lU (eE {G with now:=G.now+1})).now=G.now+1:=s1;have hwn:(lU (eE {G with now:=G.now+1})).wnow=G.now:=s2.trans h.wnow;obtain⟨g1,_⟩:=h3.Je (by rw[hwn,hnow]) (fun f hf=>by
  have hf:f∈(eE {G with now:=G.now+1}).fls:=hf;rw[s3]at hf;rw[hwn];exact h.due f hf)
 have e1:=UZ g1;have e2:=zc h3.bs;have e3:(lU (eE {G with now:=G.now+1})).out.length=G.out.length:=congrArg List.length s5;show(qU _).out.length<=_;omega
theorem U0(hm:Wm G)(e:Ev)(h7:e.kind=7->G.now+1<=1099511626776):(iG G e).out.length<=G.out.length+1040:=by
 unfold iG
 split
 ·unfold mA
  split
  ·simp[kY,ge]
  ·simp only[]
   split
   ·simp[kY,ge]
   ·simp[jD,iA,ge,dU]
 ·split
  ·simp[fO,ge]
  ·split
   ·unfold nC
    split
    ·simp[fO,ge]
    ·split
     ·simp[lk,fO,ge]
     ·refine Nm (tm _) ?_
      simp[fO,ge]
   ·split
    ·rename_i h
     exact U1 hm (h7 h)
    ·unfold mW
     simp only[]
     split
     ·simp[kY,ge]
     ·split
      ·exact Nm (lX _ _ _) (by omega)
      ·split
       ·unfold mV
        simp only[]
        split <;> simp[iA,ge,dU,eT]
       ·split
        ·simp[kY,ge]
        ·split
         ·simp[mX,iA,ge,dU,eT,dg]
         ·exact Nm (wS _ _) (by omega)
theorem JM.Vk(h:JM c s):s.out.length<=1040:=by
 rw[h.out];have:=U0 h.wm s.ev h.late;rw[h.out0]at this
 simpa using this
end
theorem Jz.Gm{base:Nat}(h:Jz base w g V c P):w.cell? ⟨g,16,MH⟩=MI (MG V.ps P.steps.length V.cs):=by
 rw[cell_of_row w g 16 _ _ (0,0) h.box,h.steps];rfl
structure U2(W:World)(ps:Option Addr)(k:Nat)(q:Sq)(b o:Nat):Prop where
 at_:ps=MI ⟨b,o,MH⟩
 cells:W.rangeAt b (o+k*61) (JU q)
 rd:Kh W q
theorem JD.step{W:World}(h:JD w W g V c P){k:Nat}(hk:k<P.steps.length):∃q b o,U2 W V.ps k q b o/\P.steps[k]?=MI q.s/\JM c q.s:=by
 have hl:=h.pat.steps;have hkq:k<V.qs.length:=by omega
 have hrv:bj JU W (MG V.ps V.qs.length V.cs) V.qs:=gZ h.pat.rows;obtain⟨a,cap,hv,_,_,hp⟩:=bj.F6 LV hrv;injection hv with q1 _ _;obtain⟨b,o,ha,hb,hc⟩:=hp k hkq;have e:P.steps[k]?=MI V.qs[k].s:=by rw[<-h.pat.eqs,List.getElem?_map,MR hkq];rfl
 refine⟨V.qs[k],b,o,⟨q1.trans ha,fun j v hv=>?_,(h.pat.all _ (Nk hkq)).now⟩,e,h.rn.runs.chain _ (Nu e)⟩;have hj:j<61:=(List.getElem?_eq_some_iff.1 hv).1;rw[hc j hj];exact hv
theorem Vf(f:Nat->Int)(hf:∀i,i<16->(Lit.int ME (f i)).wf=Bool.true)(ds:List Dd)(hds:∀d∈ds,Kg d){pd:Option Addr}{cd:Nat}(hrow:bj Ka w (MG pd ds.length cd) ds)(hblk:aK w)(most:Nat)(hm:most<=100):
  ∃L:List Value,L.length=16/\BD (f 0) (f 1) (f 2) (f 3) (f 4) (f 5) (f 6) (f 7) (f 8) (f 9) (f 10) (f 11) (f 12) (f 13) (f 14) (f 15)=Ny L.toArray/\∀W,MQ w.heap.size w W->Calls Tryz.prog 18 #[Ny L.toArray,MG pd ds.length cd,MF ME (most:Int)] W (Lq f most W):=
 ⟨[MF ME (f 0),MF ME (f 1),MF ME (f 2),MF ME (f 3),MF ME (f 4),MF ME (f 5),MF ME (f 6),MF ME (f 7),MF ME (f 8),MF ME (f 9),MF ME (f 10),MF ME (f 11),MF ME (f 12),MF ME (f 13),MF ME (f 14),MF ME (f 15)],rfl,rfl,fun W hB=>L6 f hf ds hds W (hrow.below hB) (hblk.below hB) most hm⟩
def Va(P:Py):List Ou:=(P.steps.map (·.out)).flatten
def Vb(P:Py)(k:Nat):List Ou:=((P.steps.take k).map (·.out)).flatten
theorem Vd{k:Nat}(h:P.steps[k]?=MI s):Vb P (k+1)=Vb P k++s.out:=by
 obtain⟨hk,e⟩:=List.getElem?_eq_some_iff.1 h;unfold Vb;rw[List.take_succ_eq_append_getElem hk,OI,PV,e];simp
theorem Vc{c:Cf}{P:Py}(h:∀s∈P.steps,JM c s):∀k:Nat,(Vb P k).length<=1040*k
 |0=>Nx _
 |k+1=>by
  have h1:=Vc h k
  by_cases hk:k<P.steps.length
  ·rw[Vd (MR hk),Ns]
   have h2:=(h _ (Nk hk)).Vk;omega
  ·have:Vb P (k+1)=Vb P k:=by unfold Vb;rw[N1 (by omega),N1 (by omega)]
   rw[this];omega
theorem U9{W:World}(h:JD w W g V c P)(hl:P.steps.length<=1000):
  Calls Tryz.prog 24 #[gP g] W fun r w'=>∃p q,r=Ending.returned (MG p (Va P).length q)/\bj gT w' (MG p (Va P).length q) (Va P)/\MQ W.heap.size W w':=by
 obtain⟨n,hn⟩:∃n,n=P.steps.length:=⟨_,rfl⟩;have HS:M6 (_/\_/\_):=⟨h,hn,(show n<=1000 by omega)⟩;have hnb:n<=9223372036854775807:=by omega
 clear h hl hn;go_enter Tryz.func24,Tryz.ntmps24;go_wp2
 go_loopw [3,4] (fun s i wr=>∃(k q:Nat) (p:Option Addr) (cc:Nat),s=MG p q cc/\i=MF ME (k:Int)/\k<=n/\M6 (q=(Vb P k).length/\wr.ownsRow W.heap.size 61 7 (MG p q cc) q (rv gT (Vb P k))/\MQ W.heap.size W wr)) (fun _ i _=>n-(intOf i).toNat)
 case atStart=>exact⟨0,0,MH,0,rfl,rfl,Nx _,rfl,⟨rfl,Or.inl ⟨rfl,rfl⟩⟩,RowKit.Below.refl _ _⟩
 case round =>
  obtain⟨k,q,p,cc,rfl,rfl,hk,HJ⟩:=hrel;have hSr:=HS.out.1.on HJ.out.2.2;have c16:wr.cell? ⟨g,16,MH⟩=MI (MG V.ps n V.cs):=by rw[HS.out.2.1];exact hSr.pat.Gm
  have hgl:=hSr.pat.lt
  by_cases hlt:k<n
  ·have hkI:(k:Int)<(n:Int):=by omega
   obtain⟨x,b,o,hx,hst,hok⟩:=hSr.step (k:=k) (by rw[<-HS.out.2.1];exact hlt);have e60:wr.cell? ⟨b,o+k*61+60,MH⟩=MI (MG x.po x.s.out.length x.co):=hx.cells 60 _ rfl;have hbl:b<wr.heap.size:=World.block_lt_of_cell? wr ⟨b,_,MH⟩ e60;have hfl:(Vb P (k+1)).length=q+x.s.out.length:=by rw[Vd hst,Ns,<-HJ.out.1]
   have hle:=Vc HS.out.1.rn.runs.chain (k+1);rw[hfl]at hle;have hk9:k+1<=1000:=by have:=HS.out.2.2;omega
   obtain⟨p',c',w5,hr5,ho5,hb5⟩:=sW Bq Bd (by decide) Tryz.underlying55 C7 rfl HJ.out.2.1 HJ.out.2.2.size 55 _ x.s.out hx.rd.2.2 (by omega) (by unfold maxLen;omega);rw[<-Vd hst]at ho5;obtain⟨nk,hnk⟩:∃nk,nk=x.s.out.length:=⟨_,rfl⟩;rw[<-hnk]at hr5 ho5 hfl e60;rw[hx.at_]at c16;have HQ:M6 (_/\_/\_/\_):=⟨hr5,ho5,HJ.out.2.2.trans hb5,hfl⟩;clear hfl hnk hr5 ho5 hb5 hx hst hok hSr hle
   go_wp2_with (at_builtin;(with_reducible refine d7 rfl _ _ 55 rfl (MG p q cc) (MG x.po nk x.co) (MG p' (q+nk) c') w5 ?hs ?hx ?hr ?_);(case hs=>rfl);(case hx=>rfl);(case hr=>exact HQ.out.1))
   go_wp2
   go_roundw
   case rel=>exact⟨k+1,q+nk,p',c',rfl,by simp,hlt,HQ.out.2.2.2.symm,HQ.out.2.1,HQ.out.2.2.1⟩
   case measure=>simp[intOf];omega
  ·obtain rfl:k=n:=by omega
   have hkI:¬(k:Int)<(k:Int):=by omega
   have hq:=HJ.out.1;have ho:=HJ.out.2.1;have he:Vb P k=Va P:=by unfold Vb Va;rw[HS.out.2.1,NT]
   rw[he]at hq ho;have hrv:=gZ (c:=gT) (l:=Va P) (k:=7) (v:=MG p q cc) (w:=wr) (base:=W.heap.size) (e:=61) (by rw[<-hq];exact ho);have HE:M6 (_/\_):=⟨hrv,hq⟩;clear hq ho he hrv hSr;go_wp2;go_ret;exact⟨p,cc,by rw[<-HE.out.2];rfl,by rw[<-HE.out.2];exact HE.out.1,HJ.out.2.2⟩
abbrev U3(o:Ou):Prop:=∃s g b r c y:Int,o=⟨1,s,g,b,0,0,0⟩\/o=⟨3,s,g,b,0,0,0⟩\/o=⟨4,s,g,b,0,0,0⟩\/o=⟨5,s,g,b,0,0,0⟩\/o=⟨7,s,g,b,0,0,0⟩\/(y≠0/\o=⟨6,s,g,b,0,0,y⟩)\/(c≠0/\o=⟨2,0,0,0,0,c,0⟩)\/(c≠0/\o=⟨10,0,0,0,0,c,0⟩)\/o=⟨8,0,0,0,r,0,0⟩\/(c≠0/\o=⟨8,0,0,0,r,c,0⟩)\/o=⟨9,0,0,b,r,0,0⟩
theorem Vi(k:Int):JG k U3:=by
 refine⟨fun b r=>⟨0,0,b,r,0,0,by simp⟩,fun x s g b y hx _ _ _ hy=>?_,fun _ s g b _ _ _=>⟨s,g,b,0,0,0,by simp⟩,fun _ c hc=>⟨0,0,0,0,c,0,by simp[hc]⟩,fun _ c hc=>⟨0,0,0,0,c,0,by simp[hc]⟩,fun _ r c=>⟨0,0,0,r,c,0,by by_cases hc:c=0 <;> simp[hc]⟩⟩;refine⟨s,g,b,0,0,y,?_⟩;have:x=3\/x=4\/x=5\/x=6\/x=7:=by omega
 by_cases h6:x=6
 ·subst h6;simp[hy.1 rfl]
 ·have h0:y=0:=by
   by_cases h:y=0
   ·exact h
   ·exact absurd (hy.2 h) h6
  subst h0;rcases this with rfl|rfl|rfl|rfl|rfl
  all_goals first|exact absurd rfl h6|simp
theorem Vg(h:JM c s):∀o∈s.out,U3 o:=by
 rw[h.out];exact KE h.wm (D5 h.ev) h.late (Vi _) (by rw[JO,h.out0];simp)
theorem Vh(h:∀s∈P.steps,JM c s):∀o∈Va P,U3 o:=fun o ho=>by
 obtain⟨l,hl,h1⟩:=List.mem_flatten.1 ho;obtain⟨s,hs,rfl⟩:=List.mem_map.1 hl;exact Vg (h s hs) o h1
theorem U4(h:JM c s)(h5:s.ev.kind=5):1<=s.out.length:=by
 rw[h.out];have e:iG s.bef s.ev=fO s.bef 1 s.ev:=by unfold iG;rw[Nf (by omega),Nh h5]
 rw[e];show 1<=(s.bef.out++[_]).length;rw[Ns,List.length_singleton];omega
theorem Ve(h:∀s∈P.steps,JM c s)(h3:∀i,i<3->∃s,P.steps[i]?=MI s/\s.ev.kind=5):3<=(Va P).length:=by
 have hk:∀k,k<=3->k<=(Vb P k).length:=by
  intro k
  induction k with
  |zero=>intro _;exact Nx _
  |succ k ih =>
   intro hk;obtain⟨s,hs,h5⟩:=h3 k (by omega);rw[Vd hs,Ns];have:=U4 (h s (Nu hs)) h5;have:=ih (by omega);omega
 have h1:=hk 3 (MV _);have e:Va P=Vb P 3++((P.steps.drop 3).map (·.out)).flatten:=by
  unfold Va Vb;rw[<-PV,<-OI,List.take_append_drop]
 rw[e,Ns];omega
theorem Vj(f:Nat->Int)(hf:∀i,i<16->(Lit.int ME (f i)).wf=Bool.true)(ds:List Dd)(hds:∀d∈ds,Kg d){pd:Option Addr}{cd:Nat}(hrow:bj Ka w (MG pd ds.length cd) ds)(hB:aK w):
  Calls Tryz.prog 13 #[BD (f 0) (f 1) (f 2) (f 3) (f 4) (f 5) (f 6) (f 7) (f 8) (f 9) (f 10) (f 11) (f 12) (f 13) (f 14) (f 15),MG pd ds.length cd] w fun r w'=>r=Ending.returned (Value.bool Bool.true)/\MQ w.heap.size w w':=by
 obtain⟨L,hL,eL,hpl⟩:=Vf f hf ds hds hrow hB 60 (by omega);rw[eL];obtain⟨W0,hW0⟩:∃W0,W0=w.alloc (Obj.cells L.toArray 24):=⟨_,rfl⟩;have hb0:MQ w.heap.size w W0:=by rw[hW0];exact ai w
 have HI:M6 (_/\_/\_):=⟨hL,hb0,hpl W0 hb0⟩;obtain⟨nd,hnd⟩:∃nd,nd=ds.length:=⟨_,rfl⟩;rw[<-hnd]at HI⊢;clear hL eL hpl hb0 hf hds hrow hB hnd;go_enter Tryz.func13,Tryz.ntmps13
 go_wp2_with ((with_reducible refine wpList_load_mid rfl 24 (Operand.tmp 2) rfl w.heap.size 0 ?gx L _ ?gc Tryz.underlying24 ?gd ?gi ?_);(case gx=>rfl);(case gc=>exact J8 (heap_alloc_new _ _));(case gd=>rfl);(case gi=>rw[HI.out.1];exact K0))
 rw[<-hW0];clear hW0;refine Calls.mono HI.out.2.2 ?_;rintro r w1 ⟨g,V,c,P,rfl,hS,hcx,hn4,hnm,hk3⟩;obtain⟨n,hn⟩:∃n,n=P.steps.length:=⟨_,rfl⟩;have HS:M6 (_/\_/\_/\_/\_):=⟨hS,hcx,hn,(show n<=60+4 by omega),hk3⟩;have hB1:=HI.out.2.1.trans (hS.bel.mono HI.out.2.1.size);have HB:M6 _:=hB1;clear hS hcx hn4 hnm hk3 hn HI hB1;have HO:M6 _:=U9 HS.out.1 (by rw[<-HS.out.2.2.1];have:=HS.out.2.2.2.1;omega);obtain⟨m,hm⟩:∃m,m=(Va P).length:=⟨_,rfl⟩;rw[<-hm]at HO;have h3:(3:Int)<=(m:Int):=by have:=Ve HS.out.1.rn.runs.chain HS.out.2.2.2.2;omega
 have HM:M6 (m=(Va P).length/\∀o∈Va P,U3 o):=⟨hm,Vh HS.out.1.rn.runs.chain⟩;clear hm
 go_wp2_with fail
 refine Calls.mono HO.out ?_;rintro r w2 ⟨p2,q2,rfl,hr2,hb2⟩;obtain⟨a,cap,hv,hca,hmx,hp⟩:=bj.F6 Bq (by rw[HM.out.1]at hr2;exact hr2);injection hv with q1 _ q3;have hmb:m<=9223372036854775807:=by rw[HM.out.1];unfold maxLen at hmx;omega
 have HR:M6 (_/\_/\_):=⟨hp,q1,HB.out.trans (hb2.mono HB.out.size)⟩;clear hr2 hb2 hp q1 q3 hca hmx HO
 go_wp2_with fail
 go_loopw [8,9,10] (fun i _ _ wr=>∃k:Nat,i=MF ME (k:Int)/\k<=m/\M6 (MQ w2.heap.size w2 wr)) (fun i _ _ _=>m-(intOf i).toNat)
 case atStart=>exact⟨0,rfl,Nx _,RowKit.Below.refl _ _⟩
 case round =>
  obtain⟨k,rfl,hk,HW⟩:=hrel
  by_cases hlt:k<m
  ·have hkI:(k:Int)<(m:Int):=by omega
   have hkl:k<(Va P).length:=by rw[<-HM.out.1];exact hlt
   obtain⟨bo,oo,ha,hbo,hc⟩:=HR.out.1 k hkl;have ha2:=HR.out.2.1.trans ha;subst ha2;have hcw:=fun j (hj:j<7)=>(HW.out.cell (p:=⟨bo,oo+k*7+j,MH⟩) hbo).trans (hc j hj)
   have hbw:bo<wr.heap.size:=Nat.lt_of_lt_of_le hbo HW.out.size;obtain⟨x,hx⟩:∃x,x=(Va P)[k]:=⟨_,rfl⟩;have hT:=HM.out.2 _ (Nk hkl);rw[<-hx]at hcw hT;have e0:wr.cell? ⟨bo,oo+k*7,MH⟩=MI (MF ME x.kind):=hcw 0 (by omega);have e1:wr.cell? ⟨bo,oo+k*7+1,MH⟩=MI (MF ME x.slot):=hcw 1 (by omega);have e2:wr.cell? ⟨bo,oo+k*7+2,MH⟩=MI (MF ME x.gen):=hcw 2 (by omega);have e3:wr.cell? ⟨bo,oo+k*7+3,MH⟩=MI (MF ME x.be):=hcw 3 (by omega);have e4:wr.cell? ⟨bo,oo+k*7+4,MH⟩=MI (MF ME x.req):=hcw 4 (by omega);have e5:wr.cell? ⟨bo,oo+k*7+5,MH⟩=MI (MF ME x.code):=hcw 5 (by omega);have e6:wr.cell? ⟨bo,oo+k*7+6,MH⟩=MI (MF ME x.why):=hcw 6 (by omega);clear hcw hc hx hkl ha hbo;obtain⟨s,u,b,r,cd,y,hT⟩:=hT;rcases hT with rfl|rfl|rfl|rfl|rfl|⟨hy,rfl⟩|⟨hy,rfl⟩|⟨hy,rfl⟩|rfl|⟨hy,rfl⟩|rfl
   all_goals
    try have hy1:(y != 0)=true:=by simp[hy]
    try have hy2:(cd != 0)=true:=by simp[hy]
    try clear hy
    go_wp2
    go_roundw
    case rel=>exact⟨k+1,by simp,hlt,HW.out.trans ((ai wr).mono HW.out.size)⟩
    case measure=>simp[intOf];omega
  ·obtain rfl:k=m:=by omega
   have hkI:¬(k:Int)<(k:Int):=by omega
   go_wp2;go_ret;exact⟨rfl,HR.out.2.2.trans (HW.out.mono HR.out.2.2.size)⟩
end Go.Proofs.YtinbndbjlgoghaaGreatDoor.Q
