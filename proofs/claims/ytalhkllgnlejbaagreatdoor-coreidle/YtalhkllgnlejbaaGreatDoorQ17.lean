/-
  Contracts of the layers and of core, part 17. Conditions: as each theorem says.
-/
import Derived.Test.YtalhkllgnlejbaaGreatDoorQ16
namespace Go.Proofs.YtalhkllgnlejbaaGreatDoor.Q
set_option linter.unusedVariables false
set_option linter.unusedSimpArgs false
set_option maxHeartbeats 16000000
set_option maxRecDepth 100000
open Go.RowKit
attribute [local go_sem ↓] Go.wp_at_zero Go.wp_at_succ
variable {a:Act}{ops:Array Oper}{Q:Exit->Act->World->Prop}{g:Nat}{o:Oper}{P:Program}{T:TypeId}{w:World}
section
variable {base:Nat}{w0 w w':World}{g:Nat}{V:Vs}{U:Us}{G:Gt}
theorem uz{L:List Value}(h:w.heap[g]?=some (.cells L.toArray T (0,0))):w.rangeAt g 0 L:=fun j v hv=>by
 rw[Nat.zero_add,cell_of_row w g j _ T (0,0) h]
 simpa using hv
theorem iN:(Tryz.prog.info? 49).map (·.size)=some 26:=by kernel_rfl
theorem Bu(U:Us)(G:Gt)(W:World):(Instr.build 109 #[(0,.agg (ef U G))]).run Tryz.prog W=.ok (.agg (lR U G)) W:=by kernel_rfl
def ia(B:Nat)(w W:World):Prop:=w.heap.size<=W.heap.size/\∀b,B<=b->b<w.heap.size->W.heap[b]?=w.heap[b]?
def qe(w:World)(G':Gt)(r:Ending)(w':World):Prop :=
 ∃U' po co,r=.returned (.tuple #[lH U' G',.slice po G'.out.length co,.int .i64 0])/\(∀W,ia w.heap.size w' W->aF W U' G'/\bj gT W (.slice po G'.out.length co) G'.out)/\Below w.heap.size w w'
theorem rS(U:Us)(G:Gt):(ef U G).all (·.oneCell')=true:=by
 show(List.toArray _).all _=true;refine all_oneCell_toArray fun v hv=>?_
 simp only[List.mem_cons,List.not_mem_nil,or_false]at hv;rcases hv with rfl|rfl|rfl|rfl|rfl|rfl|rfl|rfl|rfl|rfl|rfl|rfl|rfl|rfl|rfl|rfl|rfl|rfl|rfl|rfl|rfl|rfl|rfl|rfl|rfl|rfl <;> rfl
theorem ab.Gq(h:ab base w g V G):w.rangeAt g 0 (ef V.us G).toList:=fun j v hv=>by
 rw[Nat.zero_add];have hj:j<26:=(List.getElem?_eq_some_iff.1 hv).1;have hc:j=0\/j=1\/j=2\/j=3\/j=4\/j=5\/j=6\/j=7\/j=8\/j=9\/j=10\/j=11\/j=12\/j=13\/j=14\/j=15\/j=16\/j=17\/j=18\/j=19\/j=20\/j=21\/j=22\/j=23\/j=24\/j=25:=by omega
 rcases hc with rfl|rfl|rfl|rfl|rfl|rfl|rfl|rfl|rfl|rfl|rfl|rfl|rfl|rfl|rfl|rfl|rfl|rfl|rfl|rfl|rfl|rfl|rfl|rfl|rfl|rfl
 ·exact h.c0.trans hv
 ·exact h.c1.trans hv
 ·exact h.c2.trans hv
 ·exact h.c3.trans hv
 ·exact h.c4.trans hv
 ·exact h.c5.trans hv
 ·exact h.c6.trans hv
 ·exact h.c7.trans hv
 ·exact h.c8.trans hv
 ·exact h.c9.trans hv
 ·exact h.Hf.trans hv
 ·exact h.Hn.trans hv
 ·exact h.Hg.trans hv
 ·exact h.GS.trans hv
 ·exact h.GU.trans hv
 ·exact h.GO.trans hv
 ·exact h.Gm.trans hv
 ·exact h.Gs.trans hv
 ·exact h.Gr.trans hv
 ·exact h.Gn.trans hv
 ·exact h.GD.trans hv
 ·exact h.GX.trans hv
 ·exact h.GI.trans hv
 ·exact h.Id.trans hv
 ·exact h.GJ.trans hv
 ·exact h.GH.trans hv
theorem xo{rest:List Oper}(hgd:o.guard=none)(T:TypeId)(parts:Array (Nat×Operand))
  (ho:o.op=.build T parts) (y:Value) (hr:(Instr.build T (parts.map fun(i,x)=>(i,a.eval x))).run P w=.ok y w)
  (h:wpList P ops Q rest (a.put o.dst y) w):wpList P ops Q (o::rest) a w :=
 wpList_plain hgd fun _ hK=>by
  unfold Oper.wp execOp;simp only[ho,Sem.run_bind,Sem.run_pure,Result.andThen_ok,hr];exact hK _ _ h
theorem Er(h:aF w U G)(hwm:Wm G)(hblk:aK w)(hout:G.out=[]) :
  Calls Tryz.prog 39 #[lH U G] w fun r w'=>∃g V,r=.returned (.tuple #[gP g,.bool true])/\ab w.heap.size w' g V G/\Below w.heap.size w w':=by
 obtain⟨L,hL⟩:∃L,L=(ef U G).toList:=⟨_,rfl⟩;have hLa:L.toArray=ef U G:=by rw[hL]
 have hLl:L.length=26:=by rw[hL];rfl
 obtain⟨D,hD⟩:∃D,D=lR U G:=⟨_,rfl⟩;have hbd:∀W:World,(Instr.build 109 #[(0,.agg L.toArray)]).run Tryz.prog W=.ok (.agg D) W:=fun W=>by rw[hLa,hD];exact Bu U G W
 show Calls Tryz.prog 39 #[.agg (ef U G)] w _;rw[<-hLa];obtain⟨W1,hW1⟩:∃W1,W1=w.alloc (.cells L.toArray 49):=⟨_,rfl⟩;obtain⟨W2,hW2⟩:∃W2,W2=W1.alloc (.cells D 109):=⟨_,rfl⟩;have hB1:Below w.heap.size w W1:=by rw[hW1];exact ai w
 have hR1:W1.heap[w.heap.size]?=some (.cells L.toArray 49 (0,0)):=by rw[hW1];exact heap_alloc_new _ _
 have hB2:Below W1.heap.size W1 W2:=by rw[hW2];exact ai W1
 have hB12:=hB1.trans (hB2.mono hB1.size);have hR2:W2.heap[W1.heap.size]?=some (.cells D 109 (0,0)):=by rw[hW2];exact heap_alloc_new _ _
 obtain⟨g,hg⟩:∃g,g=W1.heap.size:=⟨_,rfl⟩;rw[<-hg]at hR2;have hlow:w.heap.size<=g:=by rw[hg];exact hB1.size
 have HG1:Hid (w.heap.size+1=g):=by show w.heap.size+1=g;rw[hg,hW1];simp
 rw[hD]at hR2;have hRG:RG W2 g U G:=⟨hR2,h.below hB12⟩;have HM:Hid _:=wX hRG hwm (hblk.below hB12);have H:Hid (_/\_/\_/\_/\_/\_/\_/\_):=⟨h,hwm,hblk,hout,hB12,hR2,hlow,hR1⟩;have HI:Hid _:=hLl;have HD:Hid _:=hbd;clear hbd h hwm hblk hout hB1 hB2 hB12 hR1 hR2 hL hLa hLl hD hRG hlow hg;go_enter Tryz.func39,Tryz.ntmps39
 go_wp2_with (first|((with_reducible refine xo rfl 109 #[(0,.tmp 5)] rfl (.agg D) ?br ?_);(case br=>simp only[List.map_toArray,List.map_cons,List.map_nil];exact HD.out _))|((with_reducible refine wpList_load_mid rfl 49 (.tmp 1) rfl w.heap.size 0 ?gx L _ ?gc Tryz.underlying49 ?gd ?gi ?_);(case gx=>rfl);(case gc=>exact uz (heap_alloc_new _ _));(case gd=>rfl);(case gi=>rw[HI.out];exact iN)))
 rw[<-hW1,<-hW2,HG1.out];clear hW1 hW2;refine Calls.mono HM.out ?_;rintro r w3 ⟨rfl,hb3⟩;have hOg:Og w w3 g U G:=⟨af H.out.2.2.2.2.2.1 hb3,H.out.2.2.2.2.1.trans (hb3.mono H.out.2.2.2.2.1.size),H.out.2.2.2.2.2.2.1⟩;have HO:Hid _:=Ej H.out.1 hOg H.out.2.1 H.out.2.2.1 H.out.2.2.2.1;clear hb3 hOg
 go_wp2_with fail
 refine Calls.mono HO.out ?_;rintro r w4 ⟨rfl,V,hV,hb4⟩;have HV:Hid (_/\_):=⟨hV,hb4⟩;clear hV hb4;go_wp2
 go_ret2
 exact⟨g,V,rfl,HV.out.1,HV.out.2⟩
theorem ab.Iz(h:ab base w g V G)(hk:ia base w w'):aF w' V.us G:=by
 have r:=h.rest;have hq:∀b,b<w.heap.size->¬V.off base g b->w'.heap[b]?=w.heap[b]?:=fun b q1 q2=>hk.2 b (by
  by_cases e:base<=b
  ·exact e
  ·exact absurd (.inr (by omega)) q2) q1
 obtain⟨ls,h1,h2,h3⟩:=r.whl;exact⟨r.tab w' hk.1 hq,gZ (aw r.fls fun b e=>hk.2 b (r.fls.lt b e).1 (r.fls.lt b e).2),r.book w' hk.1 hq,r.ring w' hk.1 hq,⟨ls,h1,h2,h3 w' hk.1 hq⟩,by
  have hl:(V.ms.zip G.hea).length=12:=by rw[List.length_zip,r.msl,r.hel];rfl
  have ho:=aw r.hea fun b e=>hk.2 b (r.hea.lt b e).1 (r.hea.lt b e).2
  exact gZ (l:=V.ms.zip G.hea) (by rw[hl];exact ho),r.msl,r.hel,fun i m x e1 e2=>r.marks i m x e1 e2 w' hk.1 hq⟩
theorem ab.Iy(h:ab base w g V G)(hk:ia base w w'):bj gT w' (.slice V.po G.out.length V.co) G.out :=
 gZ (aw h.rest.out fun b e=>hk.2 b (h.rest.out.lt b e).1 (h.rest.out.lt b e).2)
theorem ve{md:Region.Mode}{S:World->Prop}{fuel:Nat}{listed:Array Bool}{i:Nat}(ho:ops[i]?=some o)(hg:o.guard=none)(ty:TypeId)(x y:Operand)(hop:o.op=.store ty x y)
  (b off:Nat) (cells:Array Value) (hx:a.eval x=.pointer (some ⟨b,off,none⟩)) (hy:a.eval y=.agg cells) (ht:w.there b off cells.size) (hi:(P.info? ty).map (·.size)=some cells.size) (h1:cells.all (·.oneCell')=true) (hS:S (w.setCells b off cells.toList))
  (h:wpAnyH P md ops Q S fuel (listed.setIfInBounds i true) (a.put o.dst undef) (w.setCells b off cells.toList)):AllReadyH P md ops Q S fuel listed a w [i]:=by
 refine AllReadyH.cons ho (fun K hK=>?_) AllReadyH.nil;rw[if_pos (by unfold Region.wanted;rw[hg])];exact wp_store_mid ty x y hop b off cells hx hy ht hi h1 (hK.out _ _ hS (fun _=>h))
theorem mE{md:Region.Mode}{S:World->Prop}{fuel:Nat}{listed:Array Bool}{i:Nat}(ho:ops[i]?=some o)(hg:o.guard=none)(x:Operand)(hop:o.op=.assign x)(v:Value)(hx:a.eval x=v)(hS:S w)
  (h:wpAnyH P md ops Q S fuel (listed.setIfInBounds i true) (a.put o.dst v) w):AllReadyH P md ops Q S fuel listed a w [i]:=by
 refine AllReadyH.cons ho (fun K hK=>?_) AllReadyH.nil;rw[if_pos (by unfold Region.wanted;rw[hg])];unfold Oper.wp execOp;simp only[hop,hx,Sem.run_bind,Sem.run_pure,Result.andThen_ok];exact hK.out _ _ hS (fun _=>h)
theorem D5{e:Ev}(h:gq e=0):fB e:=by
 obtain⟨k,key,slot,gen,good,req,be,wt⟩:=e;unfold gq at h;rcases lW k with⟨_,hn⟩|rfl|rfl|rfl|rfl|rfl|rfl|rfl
 ·simp[hn]at h
 all_goals
  simp[dY,Ev.GZ,Ev.num,Ev.GE,Ev.Gc,Ev.Gd,Ev.Hi]at h;constructor <;> simp <;> omega
theorem sY{fn:Func}{x y z:Tmp}{t:TypeId}(h:fn.results=#[.cell x t,.tmp y,.tmp z]){tmps:Array Value}{p:Addr}{v1 v2 v3:Value}(hx:tmps.getD x undef=.pointer (some p))(hy:tmps.getD y undef=v2)(hz:tmps.getD z undef=v3)
  (h1:(loadVar t p).run P w=.ok v1 w):(results fn tmps).run P w=.ok (.tuple #[v1,v2,v3]) w:=by
 have e1:∀a:Addr,(asAddr (.pointer (some a))).run P w=.ok a w:=fun a=>rfl
 simp only[Array.getD_eq_getD_getElem?]at hx hy hz;simp[results,h,hx,hy,hz,e1,h1,Sem.run_bind]
theorem uR{cs:List Value}{d:TypeDesc}(h:w.heap[g]?=some (.cells cs.toArray T (0,0)))(hu:P.underlying T=some d)(hd:d.isRow=true)(hi:(P.info? T).map (·.size)=some cs.length):(loadVar T ⟨g,0,none⟩).run P w=.ok (.agg cs.toArray) w :=
 run_loadVar_mid w g 0 T cs d (fun j v hv=>by rw[Nat.zero_add,cell_of_row w g j _ T (0,0) h];simpa using hv) hu hd hi
theorem uQ{vs old:List Value}(h:w.heap[g]?=some (.cells old.toArray T (0,0)))(hl:old.length=vs.length):(w.setCells g 0 vs).heap[g]?=some (.cells vs.toArray T (0,0)):=by
 have:=ks T g vs [] old w hl (by simpa using h)
 simpa using this
theorem sF{old:List Value}(h:w.heap[g]?=some (.cells old.toArray T (0,0))):w.there g 0 old.length:=fun j hj=>by
 refine⟨?_,by simp[World.frozen?,h]⟩;rw[Nat.zero_add,cell_of_row w g j _ T (0,0) h];simp[hj]
abbrev wz:List Value:=[.int .i64 0,.int .i64 0,.int .i64 0,.int .i64 0,.int .i64 0,.int .i64 0,.int .i64 0,.int .i64 0,.int .i64 0,.int .i64 0,.int .i64 0,.int .i64 0,.int .i64 0,.int .i64 0,.int .i64 0,.int .i64 0,.int .i64 0,.slice none 0 0,.slice none 0 0,.slice none 0 0,.slice none 0 0,.slice none 0 0,.slice none 0 0,.int .i64 0,.int .i64 0,.slice none 0 0]
theorem FU(h:aF w U G)(hwm:Wm G)(hblk:aK w)(hout:G.out=[])(e:Ev)(hf:gq e=0)(hn:e.kind=7->G.now+1<=1099511626776) :
  Calls Tryz.prog 24 #[lH U G,kI e] w (qe w (iG G e)):=by
 obtain⟨L,hL⟩:∃L,L=(ef U G).toList:=⟨_,rfl⟩;have hLa:L.toArray=ef U G:=by rw[hL]
 have hLl:L.length=26:=by rw[hL];rfl
 show Calls Tryz.prog 24 #[.agg (ef U G),kI e] w _;rw[<-hLa];obtain⟨Z,hZ⟩:∃Z,Z=wz:=⟨_,rfl⟩;obtain⟨W0,hW0⟩:∃W0,W0=((w.alloc (.cells L.toArray 49)).alloc (e9 e)).alloc (.cells Z.toArray 49):=⟨_,rfl⟩;have hx:=iF w (.cells L.toArray 49) (e9 e);obtain⟨X,hX⟩:∃X,X=(w.alloc (.cells L.toArray 49)).alloc (e9 e):=⟨_,rfl⟩;rw[<-hX]at hx;rw[<-hX]at hW0;obtain⟨hR0,hR1,hB,hsz⟩:=hx;have hBx:Below X.heap.size X W0:=by rw[hW0];exact ai X
 have hB0:Below w.heap.size w W0:=hB.trans (hBx.mono hB.size);replace hR0:=af hR0 hBx;replace hR1:=af hR1 hBx;have hR2:W0.heap[X.heap.size]?=some (.cells Z.toArray 49 (0,0)):=by rw[hW0];exact heap_alloc_new _ _
 have hlX:X.heap.size<W0.heap.size:=(Array.getElem?_eq_some_iff.1 hR2).1;obtain⟨b2,hb2⟩:∃b2,b2=X.heap.size:=⟨_,rfl⟩;have hb2w:w.heap.size+1+1=b2:=by rw[hb2,hsz]
 rw[<-hb2]at hR2 hlX;have HG:=Er (h.below hB0) hwm (hblk.below hB0) hout;replace HG:Calls Tryz.prog 39 #[.agg (ef U G)] W0 _:=HG;rw[<-hLa]at HG;replace HG:Hid _:=HG;have hbw:w.heap.size<=b2:=by omega
 have H:Hid (_/\_/\_/\_/\_/\_/\_/\_/\_/\_):=⟨hwm,hout,hf,hn,hB0,hR0,hR1,hR2,hlX,hbw⟩;have HI:Hid _:=hLl;have HZ:Hid _:=hZ;have HX:Hid (_/\_/\_):=⟨hX,hW0,hb2w⟩;clear h hwm hblk hout hf hn hB hBx hB0 hR0 hR1 hR2 hlX hsz hL hLa hLl hX hW0 hb2 hb2w hbw hZ;go_enter Tryz.func24,Tryz.ntmps24
 go_wp2_with ((with_reducible refine wpList_load_mid rfl 49 (.tmp 2) rfl w.heap.size 0 ?gx L _ ?gc Tryz.underlying49 ?gd ?gi ?_);(case gx=>rfl);(case gc=>first|(rw[show(#[.int .i64 0,.int .i64 0,.int .i64 0,.int .i64 0,.int .i64 0,.int .i64 0,.int .i64 0,.int .i64 0,.int .i64 0,.int .i64 0,.int .i64 0,.int .i64 0,.int .i64 0,.int .i64 0,.int .i64 0,.int .i64 0,.int .i64 0,.slice none 0 0,.slice none 0 0,.slice none 0 0,.slice none 0 0,.slice none 0 0,.slice none 0 0,.int .i64 0,.int .i64 0,.slice none 0 0]:Array Value)=wz.toArray from rfl,<-HZ.out,<-HX.out.1,<-HX.out.2.1];exact uz H.out.2.2.2.2.2.1));(case gd=>rfl);(case gi=>rw[HI.out];exact iN))
 rw[show(#[.int .i64 0,.int .i64 0,.int .i64 0,.int .i64 0,.int .i64 0,.int .i64 0,.int .i64 0,.int .i64 0,.int .i64 0,.int .i64 0,.int .i64 0,.int .i64 0,.int .i64 0,.int .i64 0,.int .i64 0,.int .i64 0,.int .i64 0,.slice none 0 0,.slice none 0 0,.slice none 0 0,.slice none 0 0,.slice none 0 0,.slice none 0 0,.int .i64 0,.int .i64 0,.slice none 0 0]:Array Value)=wz.toArray from rfl,<-HZ.out,<-HX.out.1,<-HX.out.2.1,HX.out.2.2];clear HX;refine Calls.mono HG.out ?_;rintro r w1 ⟨g,V,rfl,hG1,hb1⟩;obtain⟨k0,k1,k2,k3,k4,k5,k6,k7,klt⟩:=gO (af H.out.2.2.2.2.2.2.1 hb1);have HC:=EZ e w1;rw[H.out.2.2.1]at HC;replace HC:Hid _:=HC;have H1:Hid (_/\_):=⟨hG1,hb1⟩;clear hG1 hb1 HG
 go_wp2_with fail
 refine Calls.mono HC.out ?_;rintro r w2 ⟨rfl,hb2⟩;have hb12:=H1.out.2.trans (hb2.mono H1.out.2.size);have hG2:=H1.out.1.below hb2;obtain⟨j0,j1,j2,j3,j4,j5,j6,j7,jlt⟩:=gO (af H.out.2.2.2.2.2.2.1 hb12);have c16:=hG2.Gm;have hgl:=hG2.lt;have HT:Hid _:=C5 hG2 H.out.1 (D5 H.out.2.2.1) H.out.2.2.2.1 (by rw[H.out.2.1];simp);have H2:Hid (_/\_):=⟨hG2,hb12⟩;clear hG2 hb12 hb2 HC k0 k1 k2 k3 k4 k5 k6 k7 klt;have hlast:e.kind=7->(G.now == 1099511626776)=false:=fun h7=>beq_eq_false_iff_ne.2 (by have:=H.out.2.2.2.1 h7;omega)
 by_cases h7:e.kind=7
 ·have q1:(e.kind == 7)=true:=by rw[h7];rfl
  have q2:=hlast h7;clear hlast h7
  go_wp2_with fail
  refine Calls.mono HT.out ?_;rintro r w3 ⟨rfl,V3,hG3,_,hF3⟩;obtain⟨T,hT⟩:∃T,T=iG G e:=⟨_,rfl⟩;rw[<-hT]at hG3;have hbu:=H2.out.2.trans (hF3.IT H2.out.1);have hR3:=(hbu.block b2 H.out.2.2.2.2.2.2.2.2.1).trans H.out.2.2.2.2.2.2.2.1;obtain⟨M,hM⟩:∃M,M=(ef V3.us T).toList:=⟨_,rfl⟩;have hMa:M.toArray=ef V3.us T:=by rw[hM]
  have hMl:M.length=26:=by rw[hM];rfl
  have hone:M.toArray.all (·.oneCell')=true:=by rw[hMa];exact rS _ _
  have hrg:w3.drew.rangeAt g 0 M:=by rw[hM];exact hG3.GY.Gq
  have c26:=hG3.GY.Ip;have hglt:=hG3.lt;have hth:w3.drew.there b2 0 M.toArray.size:=by
   have h1:w3.drew.heap[b2]?=some (.cells Z.toArray 49 (0,0)):=hR3;have h2:=sF h1;rw[List.size_toArray,hMl];rw[HZ.out]at h2;exact h2
  obtain⟨u4,hu4⟩:∃u4,u4=w3.drew.setCells b2 0 M:=⟨_,rfl⟩;have hR4:u4.heap[b2]?=some (.cells M.toArray 49 (0,0)):=by
   rw[hu4];exact uQ (old:=Z) hR3 (by rw[hMl,HZ.out];rfl)
  have hk4:∀b,b<w3.heap.size->b≠b2->u4.heap[b]?=w3.heap[b]?:=fun b q1 q2=>by rw[hu4];exact World.heap_setCells_other w3.drew _ _ _ q1 q2
  have hs4:w3.heap.size<=u4.heap.size:=by rw[hu4,nj];exact Nat.le_refl _
  have hlt2:=H.out.2.2.2.2.2.2.2.2.1;have hK4:∀Y,ia w.heap.size u4 Y->ia W0.heap.size w3 Y:=fun Y hY=>⟨Nat.le_trans hs4 hY.1,fun b q1 q2=>(hY.2 b (Nat.le_trans H.out.2.2.2.2.1.size q1) (Nat.lt_of_lt_of_le q2 hs4)).trans (hk4 b q2 (by omega))⟩
  have hW4:∀Y,ia w.heap.size u4 Y->aF Y V3.us T/\bj gT Y (.slice V3.po T.out.length V3.co) T.out:=fun Y hY=>⟨hG3.Iz (hK4 Y hY),hG3.Iy (hK4 Y hY)⟩
  have hbel4:Below w.heap.size w u4:=by
   rw[hu4];have hq:=H.out.2.2.2.2.1.trans (hbu.mono H.out.2.2.2.2.1.size);exact kF hq.drew H.out.2.2.2.2.2.2.2.2.2 _ _ hq.size
  have hgb2:g≠b2:=by have:=hG3.rest.low;have:=H.out.2.2.2.2.2.2.2.2.1;omega
  have hrg4:u4.rangeAt g 0 M:=fun jj v hv=>(World.cell?_of_block (hk4 g hglt hgb2)).trans (hrg jj v hv)
  have c264:u4.cell? ⟨g,26,none⟩=some (.slice V3.po T.out.length V3.co):=(World.cell?_of_block (hk4 g hglt hgb2)).trans c26;have HS3:Hid (w3.drew.rangeAt g 0 M/\w3.drew.cell? ⟨g,26,none⟩=some (.slice V3.po T.out.length V3.co)):=⟨hrg,c26⟩;have HS4:Hid (u4.rangeAt g 0 M/\u4.cell? ⟨g,26,none⟩=some (.slice V3.po T.out.length V3.co)):=⟨hrg4,c264⟩;have HQ:Hid (_/\_/\_/\_):=⟨hW4,hbel4,hR4,hMa⟩;have HM:Hid _:=hMl;have HT3:Hid _:=hT;clear hG3 hF3 hbu hR3 hM hMa hMl hrg c26 hk4 hs4 hK4 hlt2 hW4 hbel4 hrg4 c264 hR4 hT;clear j0 j1 j2 j3 j4 j5 j6 j7 jlt c16 hgl
  go_wp2_with fail
  obtain⟨S,hS,hS3,hS4⟩:∃S:World->Prop,(∀X,S X->X.rangeAt g 0 M/\X.cell? ⟨g,26,none⟩=some (.slice V3.po T.out.length V3.co))/\S w3.drew/\S u4:=⟨fun X=>X.rangeAt g 0 M/\X.cell? ⟨g,26,none⟩=some (.slice V3.po T.out.length V3.co),fun _ h=>h,HS3.out,HS4.out⟩;have HSS:Hid _:=hS;clear hS HS3 HS4;refine wp_region_held_drew (S:=S) (by kernel_rfl) hS3 (fun hHeld=>?_);refine wpAnyH_take (i:=0) (oi:=_) (v:=gP g) rfl (by kernel_rfl) (by kernel_rfl) (by kernel_rfl) (fun _ _ _ h=>h) (Or.inl ⟨by rfl,fun X hSw=>by go_simp⟩) hHeld ?_;simp only[Act.put,List.getElem_toArray,List.getElem_cons_succ,List.getElem_cons_zero,List.setIfInBounds_toArray,List.set_cons_zero,List.set_cons_succ];refine wpAnyH_take (i:=1) (oi:=_) (v:=gP g) rfl (by kernel_rfl) (by kernel_rfl) (by kernel_rfl) (fun _ _ _ h=>h) (Or.inl ⟨by rfl,fun X hSw=>by go_simp⟩) hHeld ?_;simp only[Act.put,List.getElem_toArray,List.getElem_cons_succ,List.getElem_cons_zero,List.setIfInBounds_toArray,List.set_cons_zero,List.set_cons_succ];refine wpAnyH_take (i:=2) (oi:=_) (v:=.pointer (some ⟨g,0,none⟩)) rfl (by kernel_rfl) (by kernel_rfl) (by kernel_rfl) (fun _ _ _ h=>h) (Or.inl ⟨by rfl,fun X hSw=>by go_simp⟩) hHeld ?_;simp only[Act.put,List.getElem_toArray,List.getElem_cons_succ,List.getElem_cons_zero,List.setIfInBounds_toArray,List.set_cons_zero,List.set_cons_succ];refine wpAnyH_take (i:=3) (oi:=_) (v:=.agg M.toArray) rfl (by kernel_rfl) (by kernel_rfl) (by kernel_rfl) (fun _ _ _ h=>h) (yieldsIf_load_mid (by rfl) 49 (.tmp 41) rfl g 0 rfl M _ (fun _ h=>(HSS.out _ h).1) Tryz.underlying49 rfl (by rw[HM.out];exact iN)) hHeld ?_;simp only[Act.put,List.getElem_toArray,List.getElem_cons_succ,List.getElem_cons_zero,List.setIfInBounds_toArray,List.set_cons_zero,List.set_cons_succ];refine wpAnyH_take (i:=4) (oi:=_) (v:=gP g) rfl (by kernel_rfl) (by kernel_rfl) (by kernel_rfl) (fun _ _ _ h=>h) (Or.inl ⟨by rfl,fun X hSw=>by go_simp⟩) hHeld ?_;simp only[Act.put,List.getElem_toArray,List.getElem_cons_succ,List.getElem_cons_zero,List.setIfInBounds_toArray,List.set_cons_zero,List.set_cons_succ];refine wpAnyH_take (i:=5) (oi:=_) (v:=gP g) rfl (by kernel_rfl) (by kernel_rfl) (by kernel_rfl) (fun _ _ _ h=>h) (Or.inl ⟨by rfl,fun X hSw=>by go_simp⟩) hHeld ?_;simp only[Act.put,List.getElem_toArray,List.getElem_cons_succ,List.getElem_cons_zero,List.setIfInBounds_toArray,List.set_cons_zero,List.set_cons_succ];refine wpAnyH_take (i:=6) (oi:=_) (v:=.pointer (some ⟨g,26,none⟩)) rfl (by kernel_rfl) (by kernel_rfl) (by kernel_rfl) (fun _ _ _ h=>h) (Or.inl ⟨by rfl,fun X hSw=>by go_simp⟩) hHeld ?_;simp only[Act.put,List.getElem_toArray,List.getElem_cons_succ,List.getElem_cons_zero,List.setIfInBounds_toArray,List.set_cons_zero,List.set_cons_succ];refine wpAnyH_take (i:=7) (oi:=_) (v:=.slice V3.po T.out.length V3.co) rfl (by kernel_rfl) (by kernel_rfl) (by kernel_rfl) (fun _ _ _ h=>h) (Or.inl ⟨by rfl,fun X hSw=>by have s1:=(HSS.out X hSw).2;go_simp⟩) hHeld ?_;simp only[Act.put,List.getElem_toArray,List.getElem_cons_succ,List.getElem_cons_zero,List.setIfInBounds_toArray,List.set_cons_zero,List.set_cons_succ];refine wpAnyH_ready (rs:=[8]) (by kernel_rfl) (by simp) ?_;refine ve (i:=8) (o:=_) (by rfl) (by rfl) 49 (.tmp 4) (.tmp 42) (by rfl) b2 0 M.toArray (by rfl) (by rfl) hth (by rw[List.size_toArray,HM.out];exact iN) hone (by rw[List.toList_toArray,<-hu4];exact hS4) ?_;rw[List.toList_toArray,<-hu4]
  try simp only[Act.put,List.getElem_toArray,List.getElem_cons_succ,List.getElem_cons_zero,List.setIfInBounds_toArray,List.set_cons_zero,List.set_cons_succ]
  refine wpAnyH_ready (rs:=[9]) (by kernel_rfl) (by simp) ?_;refine mE (i:=9) (o:=_) (by rfl) (by rfl) (.tmp 46) (by rfl) (.slice V3.po T.out.length V3.co) (by rfl) hS4 ?_
  try simp only[Act.put,List.getElem_toArray,List.getElem_cons_succ,List.getElem_cons_zero,List.setIfInBounds_toArray,List.set_cons_zero,List.set_cons_succ]
  refine wpAnyH_ready (rs:=[10]) (by kernel_rfl) (by simp) ?_;refine mE (i:=10) (o:=_) (by rfl) (by rfl) (.const (.int .i64 0)) (by rfl) (.int .i64 0) (by rfl) hS4 ?_
  try simp only[Act.put,List.getElem_toArray,List.getElem_cons_succ,List.getElem_cons_zero,List.setIfInBounds_toArray,List.set_cons_zero,List.set_cons_succ]
  refine wpAnyH_done (by kernel_rfl) ?_ _;go_wp2;refine bodyPost_ret (v:=.tuple #[.agg M.toArray,.slice V3.po T.out.length V3.co,.int .i64 0]) (sY Tryz.results24 rfl rfl rfl (uR HQ.out.2.2.1 Tryz.underlying49 rfl (by rw[HM.out];exact iN))) rfl ?_;show qe w (iG G e) _ _;rw[<-HT3.out];exact⟨V3.us,V3.po,V3.co,by rw[HQ.out.2.2.2],HQ.out.1,HQ.out.2.1⟩
 ·have q1:(e.kind == 7)=false:=beq_eq_false_iff_ne.2 h7
  clear hlast h7
  go_wp2_with fail
  refine Calls.mono HT.out ?_;rintro r w3 ⟨rfl,V3,hG3,_,hF3⟩;obtain⟨T,hT⟩:∃T,T=iG G e:=⟨_,rfl⟩;rw[<-hT]at hG3;have hbu:=H2.out.2.trans (hF3.IT H2.out.1);have hR3:=(hbu.block b2 H.out.2.2.2.2.2.2.2.2.1).trans H.out.2.2.2.2.2.2.2.1;obtain⟨M,hM⟩:∃M,M=(ef V3.us T).toList:=⟨_,rfl⟩;have hMa:M.toArray=ef V3.us T:=by rw[hM]
  have hMl:M.length=26:=by rw[hM];rfl
  have hone:M.toArray.all (·.oneCell')=true:=by rw[hMa];exact rS _ _
  have hrg:w3.drew.rangeAt g 0 M:=by rw[hM];exact hG3.GY.Gq
  have c26:=hG3.GY.Ip;have hglt:=hG3.lt;have hth:w3.drew.there b2 0 M.toArray.size:=by
   have h1:w3.drew.heap[b2]?=some (.cells Z.toArray 49 (0,0)):=hR3;have h2:=sF h1;rw[List.size_toArray,hMl];rw[HZ.out]at h2;exact h2
  obtain⟨u4,hu4⟩:∃u4,u4=w3.drew.setCells b2 0 M:=⟨_,rfl⟩;have hR4:u4.heap[b2]?=some (.cells M.toArray 49 (0,0)):=by
   rw[hu4];exact uQ (old:=Z) hR3 (by rw[hMl,HZ.out];rfl)
  have hk4:∀b,b<w3.heap.size->b≠b2->u4.heap[b]?=w3.heap[b]?:=fun b q1 q2=>by rw[hu4];exact World.heap_setCells_other w3.drew _ _ _ q1 q2
  have hs4:w3.heap.size<=u4.heap.size:=by rw[hu4,nj];exact Nat.le_refl _
  have hlt2:=H.out.2.2.2.2.2.2.2.2.1;have hK4:∀Y,ia w.heap.size u4 Y->ia W0.heap.size w3 Y:=fun Y hY=>⟨Nat.le_trans hs4 hY.1,fun b q1 q2=>(hY.2 b (Nat.le_trans H.out.2.2.2.2.1.size q1) (Nat.lt_of_lt_of_le q2 hs4)).trans (hk4 b q2 (by omega))⟩
  have hW4:∀Y,ia w.heap.size u4 Y->aF Y V3.us T/\bj gT Y (.slice V3.po T.out.length V3.co) T.out:=fun Y hY=>⟨hG3.Iz (hK4 Y hY),hG3.Iy (hK4 Y hY)⟩
  have hbel4:Below w.heap.size w u4:=by
   rw[hu4];have hq:=H.out.2.2.2.2.1.trans (hbu.mono H.out.2.2.2.2.1.size);exact kF hq.drew H.out.2.2.2.2.2.2.2.2.2 _ _ hq.size
  have hgb2:g≠b2:=by have:=hG3.rest.low;have:=H.out.2.2.2.2.2.2.2.2.1;omega
  have hrg4:u4.rangeAt g 0 M:=fun jj v hv=>(World.cell?_of_block (hk4 g hglt hgb2)).trans (hrg jj v hv)
  have c264:u4.cell? ⟨g,26,none⟩=some (.slice V3.po T.out.length V3.co):=(World.cell?_of_block (hk4 g hglt hgb2)).trans c26;have HS3:Hid (w3.drew.rangeAt g 0 M/\w3.drew.cell? ⟨g,26,none⟩=some (.slice V3.po T.out.length V3.co)):=⟨hrg,c26⟩;have HS4:Hid (u4.rangeAt g 0 M/\u4.cell? ⟨g,26,none⟩=some (.slice V3.po T.out.length V3.co)):=⟨hrg4,c264⟩;have HQ:Hid (_/\_/\_/\_):=⟨hW4,hbel4,hR4,hMa⟩;have HM:Hid _:=hMl;have HT3:Hid _:=hT;clear hG3 hF3 hbu hR3 hM hMa hMl hrg c26 hk4 hs4 hK4 hlt2 hW4 hbel4 hrg4 c264 hR4 hT;clear j0 j1 j2 j3 j4 j5 j6 j7 jlt c16 hgl
  go_wp2_with fail
  obtain⟨S,hS,hS3,hS4⟩:∃S:World->Prop,(∀X,S X->X.rangeAt g 0 M/\X.cell? ⟨g,26,none⟩=some (.slice V3.po T.out.length V3.co))/\S w3.drew/\S u4:=⟨fun X=>X.rangeAt g 0 M/\X.cell? ⟨g,26,none⟩=some (.slice V3.po T.out.length V3.co),fun _ h=>h,HS3.out,HS4.out⟩;have HSS:Hid _:=hS;clear hS HS3 HS4;refine wp_region_held_drew (S:=S) (by kernel_rfl) hS3 (fun hHeld=>?_);refine wpAnyH_take (i:=0) (oi:=_) (v:=gP g) rfl (by kernel_rfl) (by kernel_rfl) (by kernel_rfl) (fun _ _ _ h=>h) (Or.inl ⟨by rfl,fun X hSw=>by go_simp⟩) hHeld ?_;simp only[Act.put,List.getElem_toArray,List.getElem_cons_succ,List.getElem_cons_zero,List.setIfInBounds_toArray,List.set_cons_zero,List.set_cons_succ];refine wpAnyH_take (i:=1) (oi:=_) (v:=gP g) rfl (by kernel_rfl) (by kernel_rfl) (by kernel_rfl) (fun _ _ _ h=>h) (Or.inl ⟨by rfl,fun X hSw=>by go_simp⟩) hHeld ?_;simp only[Act.put,List.getElem_toArray,List.getElem_cons_succ,List.getElem_cons_zero,List.setIfInBounds_toArray,List.set_cons_zero,List.set_cons_succ];refine wpAnyH_take (i:=2) (oi:=_) (v:=.pointer (some ⟨g,0,none⟩)) rfl (by kernel_rfl) (by kernel_rfl) (by kernel_rfl) (fun _ _ _ h=>h) (Or.inl ⟨by rfl,fun X hSw=>by go_simp⟩) hHeld ?_;simp only[Act.put,List.getElem_toArray,List.getElem_cons_succ,List.getElem_cons_zero,List.setIfInBounds_toArray,List.set_cons_zero,List.set_cons_succ];refine wpAnyH_take (i:=3) (oi:=_) (v:=.agg M.toArray) rfl (by kernel_rfl) (by kernel_rfl) (by kernel_rfl) (fun _ _ _ h=>h) (yieldsIf_load_mid (by rfl) 49 (.tmp 41) rfl g 0 rfl M _ (fun _ h=>(HSS.out _ h).1) Tryz.underlying49 rfl (by rw[HM.out];exact iN)) hHeld ?_;simp only[Act.put,List.getElem_toArray,List.getElem_cons_succ,List.getElem_cons_zero,List.setIfInBounds_toArray,List.set_cons_zero,List.set_cons_succ];refine wpAnyH_take (i:=4) (oi:=_) (v:=gP g) rfl (by kernel_rfl) (by kernel_rfl) (by kernel_rfl) (fun _ _ _ h=>h) (Or.inl ⟨by rfl,fun X hSw=>by go_simp⟩) hHeld ?_;simp only[Act.put,List.getElem_toArray,List.getElem_cons_succ,List.getElem_cons_zero,List.setIfInBounds_toArray,List.set_cons_zero,List.set_cons_succ];refine wpAnyH_take (i:=5) (oi:=_) (v:=gP g) rfl (by kernel_rfl) (by kernel_rfl) (by kernel_rfl) (fun _ _ _ h=>h) (Or.inl ⟨by rfl,fun X hSw=>by go_simp⟩) hHeld ?_;simp only[Act.put,List.getElem_toArray,List.getElem_cons_succ,List.getElem_cons_zero,List.setIfInBounds_toArray,List.set_cons_zero,List.set_cons_succ];refine wpAnyH_take (i:=6) (oi:=_) (v:=.pointer (some ⟨g,26,none⟩)) rfl (by kernel_rfl) (by kernel_rfl) (by kernel_rfl) (fun _ _ _ h=>h) (Or.inl ⟨by rfl,fun X hSw=>by go_simp⟩) hHeld ?_;simp only[Act.put,List.getElem_toArray,List.getElem_cons_succ,List.getElem_cons_zero,List.setIfInBounds_toArray,List.set_cons_zero,List.set_cons_succ];refine wpAnyH_take (i:=7) (oi:=_) (v:=.slice V3.po T.out.length V3.co) rfl (by kernel_rfl) (by kernel_rfl) (by kernel_rfl) (fun _ _ _ h=>h) (Or.inl ⟨by rfl,fun X hSw=>by have s1:=(HSS.out X hSw).2;go_simp⟩) hHeld ?_;simp only[Act.put,List.getElem_toArray,List.getElem_cons_succ,List.getElem_cons_zero,List.setIfInBounds_toArray,List.set_cons_zero,List.set_cons_succ];refine wpAnyH_ready (rs:=[8]) (by kernel_rfl) (by simp) ?_;refine ve (i:=8) (o:=_) (by rfl) (by rfl) 49 (.tmp 4) (.tmp 42) (by rfl) b2 0 M.toArray (by rfl) (by rfl) hth (by rw[List.size_toArray,HM.out];exact iN) hone (by rw[List.toList_toArray,<-hu4];exact hS4) ?_;rw[List.toList_toArray,<-hu4]
  try simp only[Act.put,List.getElem_toArray,List.getElem_cons_succ,List.getElem_cons_zero,List.setIfInBounds_toArray,List.set_cons_zero,List.set_cons_succ]
  refine wpAnyH_ready (rs:=[9]) (by kernel_rfl) (by simp) ?_;refine mE (i:=9) (o:=_) (by rfl) (by rfl) (.tmp 46) (by rfl) (.slice V3.po T.out.length V3.co) (by rfl) hS4 ?_
  try simp only[Act.put,List.getElem_toArray,List.getElem_cons_succ,List.getElem_cons_zero,List.setIfInBounds_toArray,List.set_cons_zero,List.set_cons_succ]
  refine wpAnyH_ready (rs:=[10]) (by kernel_rfl) (by simp) ?_;refine mE (i:=10) (o:=_) (by rfl) (by rfl) (.const (.int .i64 0)) (by rfl) (.int .i64 0) (by rfl) hS4 ?_
  try simp only[Act.put,List.getElem_toArray,List.getElem_cons_succ,List.getElem_cons_zero,List.setIfInBounds_toArray,List.set_cons_zero,List.set_cons_succ]
  refine wpAnyH_done (by kernel_rfl) ?_ _;go_wp2;refine bodyPost_ret (v:=.tuple #[.agg M.toArray,.slice V3.po T.out.length V3.co,.int .i64 0]) (sY Tryz.results24 rfl rfl rfl (uR HQ.out.2.2.1 Tryz.underlying49 rfl (by rw[HM.out];exact iN))) rfl ?_;show qe w (iG G e) _ _;rw[<-HT3.out];exact⟨V3.us,V3.po,V3.co,by rw[HQ.out.2.2.2],HQ.out.1,HQ.out.2.1⟩
end
end Go.Proofs.YtalhkllgnlejbaaGreatDoor.Q
