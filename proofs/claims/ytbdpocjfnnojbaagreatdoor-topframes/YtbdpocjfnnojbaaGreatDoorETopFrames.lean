/-
  TopFrames: its walk. Conditions: as each theorem says.
-/
import Derived.Lay
import Derived.Lib.ItoaLen
import Derived.Shelf.Small.Strs
import Derived.Shelf.Strconv.ErrVarAll
import Derived.Shelf.Strconv.Itoa3
import Derived.Shelf.Strings.BuilderK
import Derived.Shelf.Strings.Prefix
import Derived.Shelf.Strings.SplitShaped
import Derived.Stop.LaidErr
import Derived.Test.YtbdpocjfnnojbaaGreatDoorRows
import Derived.Test.YtbdpocjfnnojbaaGreatDoorP8
open Array renaming replicate_succ->Sg,replicate_zero->Sh
open Bool renaming false->Nb,noConfusion->PP,true->Nw
open ByteArray renaming ext->aFq,size->aFc
open Decidable renaming decide->Nn
open Go renaming Addr->Oc,Calls->Ni,Program->O8,TypeId->NU,Value->M7,World->MO,maxLen->NE,results->Pf,undef->PL
open Go.Act renaming put->Nr
open Go.AllReadyH renaming cons->NP,nil->NX
open Go.ByteArray renaming toList_eq->aFe
open Go.Ending renaming returned->MN
open Go.Instr renaming build->QA,index->Qy,makeSlice->aE6
open Go.IntKind renaming i64->ME
open Go.Lib renaming cell_of_heap->aE7,decDigits->aFf,frozen_of_heap->aFs,hid->aFl,itoa->aFi,itoa_length_le->aFj,tabIs_of_head->aFu,trimSuffix->aFw
open Go.Obj renaming cells->MP
open Go.Operand renaming tmp->O6
open Go.Proofs.Tryz renaming func352->aFm,ntmps251->U4,ntmps352->aFk,prog->MK,results352->aE9,results93->T2,underlying138->UJ,underlying168->aFt,underlying36->RC,underlying56->azZ,underlying61->aAq,underlying73->aFv,underlying97->Vh
open Go.Result renaming andThen->aFb,ok->aE3
open Go.RowKit renaming Below->MQ,Hid->M6,intOf->On
open Go.Value renaming agg->Ny,bool->M3,func->PB,int->MF,nilIface->aFa,ownBlock->QQ,pointer->Na,slice->MG,string->aE0,tuple->Nv
open Go.World renaming cell?->Nl,frozen?->Ng,heap_setCells_other->N8,setCell->Q4,size_alloc->aFx
open List renaming append_toArray->Sk,cons_append->aE2,flatMap_cons->S9,getD->Pq,getElem?_map->aEZ,length->aFd,length_nil->aE8,mem_of_mem_drop->aE5,mem_of_mem_take->aE1,push_toArray->SY
open Nat renaming add_assoc->aE4,mul_comm->R5,reduceAdd->aFg,reduceSub->aFh
open Option renaming none->MH,some->MI
open Or renaming inl->Nt,inr->NF
open Sum renaming inl->aFy,inr->aFA
open UInt8 renaming ofNat->aFp,toNat_ofNat'->aFr
namespace Go.Proofs.YtbdpocjfnnojbaaGreatDoor.Q
set_option linter.unusedVariables false
set_option linter.unusedSimpArgs false
set_option maxHeartbeats 16000000
set_option maxRecDepth 100000
open Go.RowKit
attribute [local go_sem ↓] Go.wp_at_zero Go.wp_at_succ
variable {E:List M7}{l:List Nat}{v:M7}{Y:MO}{t:NU}{B d n s:Nat}
section
variable {base:Nat}{w0 w w':MO}{g:Nat}{V:Vs}{U:Us}{G:Gt}
theorem aba.Gy(B:Nat)(w:MO):aba B w w:=⟨MV _,fun _ _ _=>rfl⟩
end
theorem aA6(w:MO)(cs:List M7)(T:NU):∀j u,cs[j]?=MI u->(w.alloc (MP cs.toArray T)).cell? ((⟨w.heap.size,0,MH⟩:Oc).add j)=MI u:=by
 intro j u f;have e:(⟨w.heap.size,0,MH⟩:Oc).add j=⟨w.heap.size,j,MH⟩:=by unfold Addr.add;split <;> simp_all
 rw[e,MW _ w.heap.size j cs.toArray T (0,0) (M1 w _)]
 simpa using f
def aA2(A:Gt)(es:List Ev):Py:=es.foldl Py.step ⟨[],A,[]⟩
theorem aA5(A:Gt)(es:List Ev)(e:Ev):aA2 A (es++[e])=(aA2 A es).step e:=by
 unfold aA2;rw[Pu];rfl
theorem aA4(A:Gt)(es:List Ev):(aA2 A es).steps.length=es.length:=by
 unfold aA2;rw[aqQ];show 0+_=_;omega
theorem aA3(A:Gt):∀(n:Nat) (es:List Ev),es.length=n->(aA2 A es).steps.map (·.ev)=es:=by
 intro n
 induction n with
 |zero=>intro es h;obtain rfl:=List.length_eq_zero_iff.1 h;rfl
 |succ n ih =>
  intro es h;obtain⟨l,e,rfl⟩:∃l e,es=l++[e]:=⟨es.dropLast,es.getLast (by intro q;rw[q]at h;cases h),(List.dropLast_concat_getLast _).symm⟩;rw[Ns,OU]at h;rw[aA5];show((aA2 A l).steps++[_]).map (fun s:Sp=>s.ev)=_;rw[OI,ih l (by omega)];rfl
theorem Rn.aET{A:Gt}{c:Cf}{P:Py}(h:Rn A c P):P=aA2 A (P.steps.map (·.ev)):=by
 obtain⟨e,q,_,_⟩:=h.built;have f:P=aA2 A e:=q;rw[f,aA3 A _ e rfl]
section
open Go.Lib
def aCq(k:Int):List UInt8 :=
 if k=1 then [111,112,101,110]
 else if k=2 then [100,97,116,97]
 else if k=3 then [99,108,111,115,101]
 else if k=4 then [97,110,115,119,101,114]
 else if k=5 then [106,111,105,110]
 else if k=6 then [114,101,116,105,114,101]
 else if k=7 then [116,105,99,107]
 else []
def aB9(g:Bool):List UInt8:=if g then [103,111,111,100]else [98,97,100]
def aB7(k:Int):List Nat:=if k=1 then [1]else if k=2\/k=3\/k=4 then [2,3]else if k=5 then [5,6,7]else if k=6 then [5,6]else []
def aB5(e:Ev):List (List UInt8):=(aB7 e.kind).map fun o=>aFi (e.num o)
def aCg(e:Ev):List (List UInt8):=aB5 e++if e.kind=4 then [aB9 e.good]else []
def aBe(l:List (List UInt8)):List UInt8:=l.flatMap fun p=>32::p
def aBU(e:Ev):List UInt8:=aCq e.kind++aBe (aCg e)
def aBS(e:Ev):List UInt8:=aBU e++[10]
def aCk(l:List Ev):List UInt8:=l.flatMap aBS
def aBB(e:Ev)(l:List Nat):Ev:=l.foldl (fun x o=>x.Gd o (e.num o)) {Ev.Hi with kind:=e.kind}
theorem aBt{e:Ev}(h:Yk e=0):(1<=e.kind/\e.kind<=7)/\(∀o∈aB7 e.kind,(0<=e.num o/\e.num o<=4294967295)/\1<=o/\o<=7/\o≠4)/\e={aBB e (aB7 e.kind)with good:=e.good}/\(e.kind≠4->e.good=Nb):=by
 obtain⟨k,m,slot,j,good,i,p,wt⟩:=e;unfold Yk at h;rcases afx k with⟨_,f⟩|rfl|rfl|rfl|rfl|rfl|rfl|rfl
 ·simp[f]at h
 all_goals
  simp[Zz,Ev.GZ,Ev.GE,Ev.Gc,Ev.Gd,Ev.Hi,Ev.num,aB7,aBB]at h⊢
  grind (splits:=30)
theorem aBp(u:Nat):∀c∈aFf u,48<=c.toNat/\c.toNat<=57:=by
 intro c e;rw[decDigits_eq,List.mem_map]at e;obtain⟨t,_,rfl⟩:=e;unfold dg;rw[aFr];omega
theorem aBH{n:Int}(h:0<=n):aFi n=aFf n.toNat:=Nf (by omega)
theorem aB1:∀(k u:Nat),u<10 ^ (k+1)->nDigits u<=k+1
 |0,u,h=>by rw[nDigits_small (by simpa using h)];omega
 |k+1,u,h=>by
  by_cases h1:u<10
  ·rw[nDigits_small h1];omega
  ·rw[nDigits_big h1];rw[Nat.pow_succ]at h;have:=aB1 k (u / 10) (by omega);omega
theorem aBo(u:Nat):decFrom 0 (aFf u)=MI u:=by
 induction u using Nat.strongRecOn with
 |_ u ih =>
  have f:∀i,i<10->digitVal (aFp (48+i))=MI i:=fun i hi=>by
   have e:(aFp (48+i)).toNat=48+i:=by rw[aFr];omega
   unfold digitVal;rw[e,Nh (by omega)];congr 1;omega
  rw[aFf]
  split
  ·rw[decFrom,f _ (by omega)];simp[decFrom]
  ·have j:=decFrom_take (aFf (u / 10)++[aFp (48+u % 10)]) (aFf (u / 10)).length 0 (u / 10) (aFp (48+u % 10)) (u % 10) (by rw[List.take_left'];exact ih _ (by omega);rfl) (by simp) (f _ (by omega))
   rw[N1 (by simp)]at j;rw[j];congr 1;omega
theorem aBc{n:Int}(h0:0<=n)(h:n<=4294967295):atoiAll (aFi n)=.ok n:=by
 have u:(aFi n).length<=18:=by
  rw[aBH h0,decDigits_length];exact Nm (aB1 9 _ (by omega)) (by omega)
 rw[atoiAll_short _ u];have m:=aBp n.toNat
 have j:=aBo n.toNat
 have f:=nDigits_pos n.toNat
 rw[<-decDigits_length]at f;rw[aBH h0];generalize aFf n.toNat=l at *
 match l with
 | []=>simp at f
 |b::r =>
  have i:=m b (by simp);have y:(b == 45)=false:=by rw[Oh];intro e;subst e;simp at i
  have p:(b == 43)=false:=by rw[Oh];intro e;subst e;simp at i
  rw[atoi,y,p];simp only[decNat,List.isEmpty_cons,Bool.false_eq_true,if_false,j,OH];show NumEnd.ok _=NumEnd.ok _
  congr 1;omega
theorem aCb{e:Ev}(h:Yk e=0):∀p∈aCq e.kind::aCg e,(∀c∈p,48<=c.toNat)/\p.length<=21:=by
 obtain⟨_,i,_⟩:=aBt h;intro p f;rw[OO,aCg,QF]at f;rcases f with rfl|f|f
 ·unfold aCq;repeat' split
  all_goals decide
 ·obtain⟨o,j,rfl⟩:=List.mem_map.1 f
  obtain⟨⟨m,u⟩,_⟩:=i o j;exact⟨by rw[aBH m];exact fun c hc=>(aBp _ c hc).1,aFj _ (by omega) (by omega)⟩
 ·split at f
  ·rw[List.mem_singleton]at f;subst f;unfold aB9;split <;> decide
  ·cases f
theorem aB4{p:List UInt8}(h:∀c∈p,48<=c.toNat){x:UInt8}(hx:x.toNat<48):x∉ p:=fun hm=>by have:=h x hm;omega
theorem aB6{p s:List UInt8}(h:(32:UInt8)∉ p){j:Nat}(hj:j<p.length):occAt (p++s) [32] j=false:=by
 cases ho:occAt (p++s) [32] j with
 |false=>rfl
 |true =>
  have:=occAt_head rfl ho;rw[OJ hj]at this;exact absurd (Nu this) h
theorem aCo:∀(ps:List (List UInt8)) (p:List UInt8),(∀q∈p::ps,(32:UInt8)∉ q)->split (p++aBe ps) [32]=p::ps
 | [],p,h=>by
  have i:=h p (by simp);have:index p [32] = -1:=index_none fun j hj=>by
   rcases Oq j p.length with e|e
   ·have:=aB6 (s:=[]) i e
    rwa[OG]at this
   ·unfold occAt;rw[List.drop_of_length_le e];rfl
  rw[show p++aBe []=p by simp[aBe],split,count_miss this];rfl
 |q::ps,p,h=>by
  have f:index (p++32::(q++aBe ps)) [32]=p.length:=index_first (by simp) (by simp[occAt]) fun j hj=>aB6 (h p (by simp)) hj
  rw[show p++aBe (q::ps)=p++32::(q++aBe ps)by simp[aBe],split,count_hit (by simp) f,Nat.add_comm,splitK,f];have:=aCo ps q fun x hx=>h x (NB _ hx)
  rw[split]at this;simp[this]
theorem aCn{e:Ev}(h:Yk e=0):split (aBU e) [32]=aCq e.kind::aCg e :=
 aCo _ _ fun q hq=>aB4 (aCb h q hq).1 (by decide)
theorem aBf:∀(ps:List (List UInt8)),(∀p∈ps,(10:UInt8)∉ p/\p.length<=21)->(10:UInt8)∉ aBe ps/\(aBe ps).length<=22*ps.length
 | [],_=>by simp[aBe]
 |p::ps,h=>by
  have f:=h p (by simp);have e:=aBf ps fun q hq=>h q (NB _ hq)
  simp[aBe]at e⊢;exact⟨⟨f.1,e.1⟩,by omega⟩
theorem aB8(k:Int):(aB7 k).length<=3:=by
 unfold aB7;repeat' split
 all_goals simp
theorem aBY{e:Ev}(h:Yk e=0):(10:UInt8)∉ aBU e/\(aBU e).length<=109:=by
 have f:=aCb h;have i:=f _ NM;have j:=aBf (aCg e) fun q hq=>⟨aB4 (f q (NB _ hq)).1 (by decide),(f q (NB _ hq)).2⟩
 have m:(aCg e).length<=4:=by
  have:=aB8 e.kind;unfold aCg aB5;split <;> simp <;> omega
 unfold aBU;rw[QF,Ns];exact⟨fun hc=>hc.elim (aB4 i.1 (by decide)) j.1,by omega⟩
theorem aBE:∀(a b:List UInt8),(10:UInt8)∉ a->indexByte (a++10::b) 10=a.length
 | [],b,_=>rfl
 |c::a,b,h=>by
  have f:=aBE a b fun e=>h (NB _ e)
  have i:(c == 10)=false:=by rw[Oh];exact fun e=>h (by simp[e])
  rw[aE2,indexByte,i,f];have:((a.length:Int) == -1)=false:=by rw[Oh];omega
  simp[this]
theorem aCp(l:List UInt8):aFw (l++[10]) [10]=l:=by
 unfold aFw hasSuffix;rw[Nh (by rw[List.isSuffixOf_iff_suffix];exact⟨l,rfl⟩)];simp
theorem aCl:∀(l:List Ev),(∀e∈l,Yk e=0)->(aCk l).length<=110*l.length
 | [],_=>by simp[aCk]
 |e::l,h=>by
  have f:=aCl l fun x hx=>h x (NB _ hx)
  have:=(aBY (h e (by simp))).2;simp[aCk,aBS]at *;omega
end
section
open Go.Shelf
def aCf:Go.Shelf.Ren:=⟨fun|169=>21|137=>44|217=>60|266=>80|171=>41|243=>59|246=>79|283=>130|284=>131|285=>132|286=>133|129=>191|317=>190|318=>192|319=>193|320=>194|337=>249|338=>250|172=>63|244=>85|245=>86|247=>138|279=>139|280=>140|281=>141|282=>142|287=>199|316=>200|205=>201|321=>252|322=>253|102=>46|209=>62|207=>84|146=>45|221=>61|268=>81|138=>82|143=>83|195=>134|197=>135|218=>136|219=>137|260=>195|225=>196|224=>197|267=>198|314=>251|n=>n,fun|70=>97|72=>99|37=>65|127=>143|171=>253|53=>254|173=>257|212=>325|51=>326|213=>327|46=>137|232=>419|233=>420|75=>101|76=>102|167=>261|85=>262|168=>264|175=>329|210=>333|145=>389|143=>387|80=>105|31=>146|105=>259|119=>379|139=>382|138=>381|146=>383|n=>n,fun|17=>3|18=>8|19=>9|15=>4|16=>5|1=>2|3=>6|4=>7|n=>n⟩
theorem aBP:Go.Proofs.Lays.n169 MK aCf:=by iterate 4 all_goals first|(intros;kernel_rfl)|decide|constructor
theorem aBN:Go.Proofs.Lays.n137 MK aCf:=by iterate 4 all_goals first|(intros;kernel_rfl)|decide|constructor
theorem aBR:Go.Proofs.LaysM.n171 MK aCf:=by iterate 4 all_goals first|(intros;kernel_rfl)|decide|constructor
theorem aBQ:Go.Proofs.LaysC.n172 MK aCf:=by iterate 4 all_goals first|(intros;kernel_rfl)|decide|constructor
theorem aBM:Go.Proofs.Lays.n102 MK aCf:=by iterate 4 all_goals first|(intros;kernel_rfl)|decide|constructor
theorem aBO:Go.Proofs.Lays.n146 MK aCf:=by iterate 4 all_goals first|(intros;kernel_rfl)|decide|constructor
theorem aA7:Builder.Extra MK aCf:=by iterate 4 all_goals first|(intros;kernel_rfl)|decide|constructor
end
def aA9(w:MO)(base b:Nat)(v:M7)(os:List Nat):Prop :=
 ∃a cap,v=MG a os.length cap/\∀k o,os[k]?=MI o->∃g,a=MI ⟨g,0,MH⟩/\base<=g/\g<w.heap.size/\w.cell? ⟨g,k,MH⟩=MI (Na (MI ⟨b,o,MH⟩))
theorem aCc{w:MO}{b:Nat}{os:List Nat}{cs:Array M7}(hc:cs.toList=os.map fun o=>Na (MI ⟨b,o,MH⟩))(hv:v=MG (MI ⟨w.heap.size,0,MH⟩) os.length os.length):
  aA9 (w.alloc (MP cs t)) w.heap.size b v os:=by
 subst hv;refine⟨_,_,rfl,fun k o ho=>⟨w.heap.size,rfl,MV _,by simp,?_⟩⟩;have:cs[k]?=MI (Na (MI ⟨b,o,MH⟩)):=by
  rw[<-Array.getElem?_toList,hc,aEZ,ho];rfl
 rw[Nl,adS];exact this
def aA8(b:Nat)(os:List Nat)(w:MO)(r:Ending)(w':MO):Prop:=∃v,r=MN v/\yA w w'/\aA9 w' w.heap.size b v os
theorem aB2(b:Nat)(k:Int)(hk:1<=k/\k<=7)(w:MO)(hc:w.cell? ⟨b,0,MH⟩=MI (yB k)):Ni MK 40 #[Na (MI ⟨b,0,MH⟩)] w (aA8 b (aB7 k) w):=by
 have hk:k=1\/k=2\/k=3\/k=4\/k=5\/k=6\/k=7:=by omega
 rcases hk with rfl|rfl|rfl|rfl|rfl|rfl|rfl
 all_goals
  go_enter Tryz.func40,Tryz.ntmps40;go_wp2
  try (go_region;go_wp2)
  go_ret
  first
  |exact⟨_,rfl,MY _ _,MH,0,rfl,fun _ _ ho=>by cases ho⟩
  |exact⟨_,rfl,(MY _ _).alloc (MV _) _,aCc rfl rfl⟩
  |exact⟨_,rfl,((MY w.heap.size w).alloc (MV _) _).drew,aCc (w:=w) rfl rfl⟩
theorem aCa(g:Bool)(w:MO):Ni MK 42 #[M3 g] w fun r w'=>r=MN (aE0 ⟨(aB9 g).toArray⟩)/\w'=w:=by
 cases g
 all_goals
  go_enter Tryz.func42,Tryz.ntmps42;go_wp2;go_ret;exact⟨rfl,rfl⟩
def Gs(w:MO):Prop :=
 (∀k:Nat,k<8->w.cell? ⟨0,k,MH⟩=MI (aE0 ⟨(aCq k).toArray⟩))/\Lib.TabIs MK w "internal/strconv.uint64pow10" .u64 Lib.pow10Tab/\(∃m,w.cell? ⟨2,0,MH⟩=MI (yB m))/\10<=w.heap.size
theorem Gs.below{w w':MO}(h:Gs w)(hb:MQ B w w')(hB:10<=B):Gs w':=by
 obtain⟨f,j,⟨m,i⟩,e⟩:=h;have u:MK.globalNamed "internal/strconv.uint64pow10"=MI 3:=by kernel_rfl
 refine⟨fun k hk=>?_,?_,⟨m,?_⟩,Nm e hb.size⟩
 ·rw[hb.cell (p:=⟨0,k,MH⟩) (by simp;omega)];exact f k hk
 ·unfold Lib.TabIs World.var? at *
  rw[u]at *;simp only[Option.bind_some]at *;rw[hb.block 3 (by omega)];exact j
 ·rw[hb.cell (p:=⟨2,0,MH⟩) (by simp;omega)];exact i
theorem aBl(a b:List UInt8):(⟨a.toArray⟩:ByteArray)++⟨b.toArray⟩=⟨(a++b).toArray⟩:=by
 apply aFq;simp
def aBV(e:Ev)(k:Nat):List UInt8:=aCq e.kind++aBe ((aB5 e).take k)
theorem aBT(e:Ev):aBS e=aBV e (aB7 e.kind).length++(if e.kind=4 then 32::aB9 e.good else [])++[10]:=by
 have:(aB5 e).take (aB7 e.kind).length=aB5 e:=by rw[N1];simp[aB5]
 unfold aBS aBU aBV aCg aBe;rw[this]
 split <;> simp
theorem aBW{e:Ev}(h:Yk e=0)(k:Nat):(aBV e k).length<=109:=by
 have f:=aCb h;have u:=f _ NM;have j:=aBf ((aB5 e).take k) fun q hq=>have i:=NB (aCq e.kind) (List.mem_append_left _ (aE1 hq));⟨aB4 (f q i).1 (by decide),(f q i).2⟩
 have m:=aB8 e.kind;have p:((aB5 e).take k).length<=3:=by rw[NH];unfold aB5;rw[N0];omega
 unfold aBV;rw[Ns];omega
theorem aBw{w:MO}{b:Nat}{e:Ev}(h:YT w b e){o:Nat}(h1:1<=o)(h7:o<=7)(h4:o≠4):w.cell? ⟨b,o,MH⟩=MI (yB (e.num o)):=by
 rw[h.F7 o];have:o=1\/o=2\/o=3\/o=5\/o=6\/o=7:=by omega
 rcases this with rfl|rfl|rfl|rfl|rfl|rfl <;> rfl
theorem aBX(e:Ev)(w:MO)(hG:Gs w)(hf:Yk e=0) :
  Ni MK 20 #[Ny #[yB e.kind,yB e.key,yB e.slot,yB e.gen,M3 e.good,yB e.req,yB e.be,yB e.wt]] w fun r w'=>r=MN (aE0 ⟨(aBS e).toArray⟩)/\yA w w':=by
 obtain⟨⟨a9,b0⟩,j,-⟩:=aBt hf;obtain⟨K,z⟩:∃K:Nat,e.kind=K:=⟨e.kind.toNat,by omega⟩;have h9:=hG.2.2.2;have c9:∀o,(w.alloc o).cell? ⟨0,K,MH⟩=MI (aE0 ⟨(aCq K).toArray⟩):=fun o=>by rw[World.cell?_alloc_old _ _ _ (by simp;omega)];exact hG.1 K (by omega)
 obtain⟨E,f⟩:=yE e;have A:M6 (E.kind=K/\Gs w/\∀o∈aB7 K,(0<=E.num o/\E.num o<=4294967295)/\1<=o/\o<=7/\o≠4):=by subst f;exact⟨z,hG,z ▸ j⟩
 have HL:M6 ((∀k,(aBV E k).length<=109)/\aBS E=aBV E (aB7 K).length++(if(K:Int)=4 then 32::aB9 E.good else [])++[10]):=by subst f;exact⟨aBW hf,z ▸ aBT E⟩
 have a8:YT (w.alloc (MP #[yB K,yB e.key,yB e.slot,yB e.gen,M3 e.good,yB e.req,yB e.be,yB e.wt] 61)) w.heap.size E:=by subst f;unfold YT afw;rw[adS,z]
 have M:M6 (E.good=e.good):=by subst f;exact rfl
 rw[show aBS e=aBS E by rw[f],z];have b8:K<8:=by omega
 have b7:M6 (1<=(K:Int)/\(K:Int)<=7):=by unfold M6;omega
 clear hf hG f z a9 b0 j;go_enter Tryz.func20,Tryz.ntmps20
 go_wp2_with fail
 refine(aB2 w.heap.size K b7.out _ (by simp)).mono ?_;rintro r w0 ⟨v,rfl,H,a,d9,rfl,a6⟩;have a0:YT w0 w.heap.size E:=a8.below H (by simp);have Z:yA w w0:=((MY w.heap.size w).alloc (MV _) _).trans (H.mono (by simp));have D:M6 (_/\_):=⟨a6,Z⟩;have b9:=aB8 K;clear a6 H Z;go_wp2
 go_loopw [12,3] (fun i s wr=>∃k:Nat,k<=(aB7 K).length/\i=yB k/\s=aE0 ⟨(aBV E k).toArray⟩/\yA w0 wr) (fun i _ _=>(aB7 K).length-(On i).toNat)
 case atStart=>exact⟨0,Nx _,rfl,by simp[aBV,aBe,A.out.1],MY _ _⟩
 case round =>
  obtain⟨k,hk,rfl,rfl,y⟩:=hrel;have i2:=HL.out.1 k;have f:=a0.below y a0.lt
  by_cases hlt:k<(aB7 K).length
  ·have I:(aB7 K)[k]?=MI (aB7 K)[k]:=MR hlt
   have O:aBV E (k+1)=aBV E k++32::aFi (E.num (aB7 K)[k]):=by
    have:(aB5 E).take (k+1)=(aB5 E).take k++[aFi (E.num (aB7 K)[k])]:=by
     unfold aB5;rw[A.out.1,List.take_add_one,aEZ,I];rfl
    unfold aBV;rw[this];simp[aBe]
   have j:=A.out.2.2 _ (Nk hlt);generalize (aB7 K)[k]=o at *;obtain⟨g,rfl,g1,g2,c0⟩:=D.out.1 k o I;rw[<-y.cell (p:=⟨g,k,MH⟩) g2]at c0;have c1:=aBw f j.2.1 j.2.2.1 j.2.2.2;have i1:=aFj (E.num o) (by omega) (by omega);have J:M6 (_/\_):=⟨j.1,O⟩;clear I O j;generalize E.num o=m at *
   go_wp2_with fail
   refine(Any.strconv_Itoa aBR m (by have:=J.out.1;omega) (by have:=J.out.1;omega) wr (A.out.2.1.below (D.out.2.trans (y.mono D.out.2.size)) h9).2.1).mono ?_;rintro r w1 ⟨rfl,kk,oo,N⟩;have a7:yA wr w1:=by
    subst N;exact⟨rfl,rfl,rfl,by simp[Sort.grow],fun i hi=>by simp only[Sort.grow];rw[Array.getElem?_append_left (by exact hi)];rfl⟩
   clear N;have s1:¬9223372036854775807<1+(aFi m).length:=by omega
   have s2:¬9223372036854775807<(aBV E k).length+(1+(aFi m).length):=by omega
   go_wp2
   go_roundw
   case rel =>
    refine⟨k+1,by omega,by go_num,?_,y.trans (a7.mono y.size)⟩;rw[show(⟨#[32]⟩:ByteArray)=⟨[32].toArray⟩from rfl,aBl,aBl,J.out.2];rfl
   case measure=>simp[On];omega
  ·obtain rfl:k=(aB7 K).length:=by omega
   have e0:wr.cell? ⟨w.heap.size,0,MH⟩=MI (yB K):=by rw[f.F7 0];show MI (yB E.kind)=_;rw[A.out.1]
   have e4:wr.cell? ⟨w.heap.size,4,MH⟩=MI (M3 e.good):=by rw[f.F7 4];show MI (M3 E.good)=_;rw[M.out]
   have HB:M6 (yA w wr):=D.out.2.trans (y.mono D.out.2.size);have u:=HL.out.2;generalize aBV E (aB7 K).length=L at *
   by_cases h4:K=4
   ·subst h4
    rw[Nh (by decide),M.out]at u;have i3:(aB9 e.good).length<=4:=by cases e.good <;> decide
    have u:M6 _:=u;have s1:¬9223372036854775807<1+(aB9 e.good).length:=by omega
    have s2:¬9223372036854775807<L.length+(1+(aB9 e.good).length):=by omega
    have s3:¬9223372036854775807<L.length+(1+(aB9 e.good).length)+1:=by omega
    go_wp2_with fail
    refine(aCa e.good wr).mono ?_;rintro r w1 ⟨rfl,rfl⟩;generalize aB9 e.good=ob at *;go_wp2;go_ret;refine⟨?_,HB.out⟩;rw[u.out,show(⟨#[32]⟩:ByteArray)=⟨[32].toArray⟩from rfl,show(⟨#[10]⟩:ByteArray)=⟨[10].toArray⟩from rfl,aBl,aBl,aBl];simp
   ·have d8:((K:Int) == 4)=false:=beq_eq_false_iff_ne.2 (by omega)
    rw[Nf (by omega),OG]at u;have u:M6 _:=u;have s3:¬9223372036854775807<L.length+1:=by omega
    go_wp2;go_ret;refine⟨?_,HB.out⟩;rw[u.out,show(⟨#[10]⟩:ByteArray)=⟨[10].toArray⟩from rfl,aBl];rfl
theorem aBm(B b:Nat)(bs:List M7)(w:MO)(h:Lib.IsBuilder 99 5 B b bs w) :
  Ni MK 39 #[Na (MI ⟨b,0,MH⟩)] w fun e w'=>e=MN (Nv #[])/\(Lib.BuilderAt 99 5 B b (Na (MI ⟨b,0,MH⟩)) bs w'/\MQ B w w'):=by
 obtain⟨j,m,y⟩:=Option.map_eq_some_iff.1 (show(MK.info? 99).map (·.size)=MI 2 by kernel_rfl);rcases h with h|h
 ·obtain⟨v,f⟩:∃v,w.heap[b]?=MI (MP #[Na MH,v] 99 (0,0)):=⟨_,h.2.choose_spec.1⟩
  have c0:w.cell? ⟨b,0,MH⟩=MI (Na MH):=by rw[aE7 f];rfl
  have A:w.frozen? ⟨b,0,MH⟩=false:=aFs f 0;have u:w.shape? b=MI (99,2):=by simp[World.shape?,f]
  have i:=aFl h;clear h f;go_enter Tryz.func39,Tryz.ntmps39;go_wp2;rw[Lib.run_to_unsafe w ⟨b,0,MH⟩ Vh aFt m (by rw[y];decide) u (Nat.zero_lt_succ 1)];simp only[aFb];rw[Oper.upon_value];go_wp2;rw[run_callFunc_extern Tryz.func58 (by kernel_rfl) (by kernel_rfl) (by kernel_rfl) (e:=Extern.AbiNoEscape.same) (by kernel_rfl)];rw[Lib.run_noEscape];simp only[aFb];rw[Oper.upon_value];go_wp2;rw[Lib.run_from_unsafe w ⟨b,0,MH⟩ aFt Vh m u (by kernel_rfl)];simp only[aFb];rw[Oper.upon_value];go_wp2
  go_end0
  exact⟨rfl,i.out.used _,(MY B w).setCell (p:=⟨b,0,MH⟩) i.out.1 _⟩
 ·have z:=h.cell0
  have i:=aFl h;clear h;go_enter Tryz.func39,Tryz.ntmps39;go_wp2;rw[Lib.run_neq_ptr_same w _ Vh m];go_wp2
  go_end0
  exact⟨rfl,i.out,MY B _⟩
theorem aCr(B b:Nat)(bs:List M7)(s:ByteArray)(w:MO)(h:Lib.IsBuilder 99 5 B b bs w)(hlen:bs.length+s.size<=140737488355328)(hBw:B<=w.heap.size) :
  Ni MK 19 #[Na (MI ⟨b,0,MH⟩),aE0 s] w fun e w'=>e=MN (Nv #[yB s.size,aFa])/\(Lib.BuilderAt 99 5 B b (Na (MI ⟨b,0,MH⟩)) (bs++Lib.strCells s) w'/\MQ B w w'):=by
 obtain⟨N,Z,M,J,L⟩:=OF (show(MK.info? 5).map (fun i=>(i.zero,i.size,i.bytes))=MI (MI (MF .u8 0),1,1)by kernel_rfl);go_enter Tryz.func19,Tryz.ntmps19
 go_wp2_with fail
 refine(aBm B b bs _ h).mono ?_;rintro e w1 ⟨rfl,⟨H,v,f,D,K⟩,m⟩;have c0:w1.cell? ⟨b,0,MH⟩=MI (Na (MI ⟨b,0,MH⟩)):=by rw[aE7 f];rfl
 have c1:w1.cell? ⟨b,1,MH⟩=MI v:=by rw[aE7 f];rfl
 go_wp2_with (at_builtin;refine Lib.wpList_append_own_string _ rfl _ _ 65 9 rfl B 5 N Tryz.underlying65 Tryz.underlying9 Z M J L _ _ _ rfl D s rfl ?c3 ?c4 ?c5 ?_)
 case c3=>unfold NE;omega
 case c4=>omega
 case c5=>have:=m.size;omega
 intro O w2 z A _;have j:w2.heap[b]?=MI (MP #[Na (MI ⟨b,0,MH⟩),v] 99 (0,0)):=by
  rw[A.block b (Array.getElem?_eq_some_iff.1 f).1 (fun e=>K e.symm)];exact f
 have d0:w2.cell? ⟨b,0,MH⟩=MI (Na (MI ⟨b,0,MH⟩)):=by rw[aE7 j];rfl
 have d1:w2.cell? ⟨b,1,MH⟩=MI v:=by rw[aE7 j];rfl
 have f1:w2.frozen? ⟨b,1,MH⟩=false:=aFs j 1;obtain⟨ao,I,u,rfl⟩:∃ao I u,O=MG ao I u:=by
  rcases z.2 with⟨y,_⟩|⟨g,u,a0,y,_⟩
  ·exact⟨_,_,_,y⟩
  ·exact⟨_,_,_,y⟩
 go_wp2
 go_ret2
 refine⟨rfl,?_,?_⟩
 ·exact Lib.BuilderAt.put (T:=99) (e:=5) H j (bs':=bs++Lib.strCells s) (by simpa [Lib.strCells_length]using z) (by decide)
 ·exact(m.grown A (by have:=m.size;omega) (fun k hk=>(D.lt k hk).1)).setCell (p:=⟨b,1,MH⟩) H _
abbrev aBs(e:Ev):List Value:=[yB e.kind,yB e.key,yB e.slot,yB e.gen,M3 e.good,yB e.req,yB e.be,yB e.wt]
theorem aBr(e:Ev):(aBs e).length=8:=rfl
theorem aBG{T e:NU}{b:Nat}{bs:List M7}{w w':MO}(h:Lib.IsBuilder T e B b bs w)(hb:yA w w'):Lib.IsBuilder T e B b bs w':=by
 have f:∀p,Lib.BuilderAt T e B b p bs w->Lib.BuilderAt T e B b p bs w':=by
  rintro p ⟨j,v,i,u,m⟩;exact⟨j,v,by rw[hb.block b (Array.getElem?_eq_some_iff.1 i).1];exact i,YI u hb,m⟩
 exact h.imp (f _) (f _)
theorem aCj(v:M7)(l:List Ev)(w:MO)(hG:Gs w)(hl:∀e∈l,Yk e=0)(h4:l.length<=4000)(hv:Xw aBs w v l) :
  Ni MK 6 #[v] w fun r w'=>r=MN (Nv #[aE0 ⟨(aCk l).toArray⟩,yB 0,yB 0])/\yA w w':=by
 obtain⟨a,b0,rfl,hc,hm,L⟩:=Xw.F6 aBr hv;have z:M6 (_/\_/\_):=⟨L,hG,hl⟩;clear L hv hG hl;have a9:¬(4000:Int)<(l.length:Int):=by omega
 go_enter Tryz.func6,Tryz.ntmps6;go_wp2;have Z:=Lib.fresh_isBuilder 99 5 w
 go_loopw [14] (fun i wr=>∃k:Nat,k<=l.length/\i=yB k/\Lib.IsBuilder 99 5 w.heap.size w.heap.size (Lib.byteCells (aCk (l.take k))) wr/\yA w wr/\w.heap.size<wr.heap.size) (fun i _=>l.length-(On i).toNat)
 case atStart=>exact⟨0,Nx _,rfl,Z,(MY _ _).alloc (MV _) _,by simp⟩
 case round =>
  obtain⟨k,hk,rfl,hI,D,a7⟩:=hrel
  by_cases hlt:k<l.length
  ·obtain⟨b,off,rfl,hb,I⟩:=z.out.1 k hlt
   have f:∀j,j<8->wr.cell? ⟨b,off+k*8+j,MH⟩=(aBs l[k])[j]?:=fun j hj=>by rw[D.cell (p:=⟨b,off+k*8+j,MH⟩) hb];exact I j hj
   have c0:=f 0 (by omega);have c1:=f 1 (by omega);have c2:=f 2 (by omega);have c3:=f 3 (by omega);have c4:=f 4 (by omega);have c5:=f 5 (by omega);have c6:=f 6 (by omega);have c7:=f 7 (by omega);simp only[Oe,aBs,List.getElem?_cons_zero,List.getElem?_cons_succ]at c0 c1 c2 c3 c4 c5 c6 c7;have N:=z.out.2.2 _ (Nk hlt);have J:aCk (l.take (k+1))=aCk (l.take k)++aBS l[k]:=by unfold aCk;rw[M9 hlt,List.flatMap_append,S9,List.flatMap_nil,OG]
   have A:=aCl (l.take k) fun e he=>z.out.2.2 e (aE1 he)
   rw[NH]at A;have u:M6 (_/\_/\_/\_):=⟨hI,N,J,A⟩;clear hI N J A f I;generalize l[k]=e at *
   go_wp2_with fail
   refine(awv e _).mono ?_;rintro r w1 ⟨rfl,m⟩;have y:yA w w1:=(D.alloc (by omega) _).trans (m.mono (by simp;omega));have a0:YT w1 wr.heap.size e:=YT.below (adS wr _) m (by simp);have K:=aBG (aBG u.out.1 ((MY _ _).alloc (MV _) _)) m;obtain⟨e0,e1,e2,e3,e4,e5,e6,e7⟩:=a0.Jl;have HI:=aFl K;clear K;rw[u.out.2.1]
   go_wp2_with fail
   refine(aBX e w1 (z.out.2.1.below y z.out.2.1.2.2.2) u.out.2.1).mono ?_;rintro r w2 ⟨rfl,H⟩;have O:=aBG HI.out H;have a8:=(aBY u.out.2.1).2;have A:=u.out.2.2.2
   go_wp2_with fail
   refine(aCr w.heap.size w.heap.size _ ⟨(aBS e).toArray⟩ w2 O (by rw[Lib.byteCells_length];simp[aFc,aBS];omega) (y.trans (H.mono y.size)).size).mono ?_;rintro r w3 ⟨rfl,a6,M⟩;go_wp2
   go_roundw
   case rel =>
    refine⟨k+1,by omega,by go_num,?_,(y.trans (H.mono y.size)).trans M,by have h1:=m.size;have h2:=H.size;have h3:=M.size;simp at h1;omega⟩;rw[u.out.2.2.1,Lib.byteCells_append];exact NF a6
   case measure=>simp[On];omega
  ·obtain rfl:k=l.length:=by omega
   rw[NT]at hI
   go_wp2_with fail
   refine(Any.Builder_String_any aBP aA7 w.heap.size w.heap.size (aCk l) wr hI D.size).mono ?_;rintro r w1 ⟨rfl,m⟩;go_wp2;refine Np (v:=Nv #[aE0 ⟨(aCk l).toArray⟩,yB 0,yB 0]) (by simp[Pf,Tryz.results6,go_sem]) rfl ?_;exact⟨rfl,D.trans m⟩
theorem aBd{a b:List UInt8}(h:¬a=b):((⟨a.toArray⟩:ByteArray).toList == (⟨b.toArray⟩:ByteArray).toList)=false:=by
 rw[aFe,aFe,Oh]
 simpa using h
theorem aBJ(K:Nat)(hK:1<=K/\K<=7)(w:MO)(hG:Gs w) :
  Ni MK 47 #[aE0 ⟨(aCq K).toArray⟩] w fun r w'=>r=MN (yB K)/\w'=w:=by
 obtain⟨A,e⟩:∃A:List M7,A=[0,1,2,3,4,5,6,7].map fun k:Nat=>aE0 ⟨(aCq k).toArray⟩:=⟨_,rfl⟩
 have f:∀q:Nat,q<8->q=0\/q=1\/q=2\/q=3\/q=4\/q=5\/q=6\/q=7:=fun q _=>by omega
 have y:∀q:Nat,q<8->(∀w:MO,(Qy 138 (Ny A.toArray) (yB q)).run MK w=aE3 (aE0 ⟨(aCq q).toArray⟩) w)/\A[q]?=MI (aE0 ⟨(aCq q).toArray⟩):=by
  intro q m;rw[e];rcases f q m with rfl|rfl|rfl|rfl|rfl|rfl|rfl|rfl
  all_goals exact⟨fun w=>by kernel_rfl,rfl⟩
 have D:∀q:Nat,q<8->q≠K->aCq (q:Nat)≠aCq K:=by
  intro q m L;rcases f q m with rfl|rfl|rfl|rfl|rfl|rfl|rfl|rfl
  all_goals rcases f K (by omega)with rfl|rfl|rfl|rfl|rfl|rfl|rfl|rfl <;> first|(exact absurd rfl L)|decide
 have H:w.rangeAt 0 0 A:=fun j v hv=>by
  have I:j<8:=by have:=(List.getElem?_eq_some_iff.1 hv).1;rw[e]at this;exact this
  rw[(y j I).2]at hv;rw[Oa,hG.1 j I,hv]
 have J:A.length=8:=by rw[e];rfl
 have M:(MK.info? 138).map (·.size)=MI 8:=by kernel_rfl
 obtain⟨S,u⟩:∃S:Nat->ByteArray,S=fun k:Nat=>⟨(aCq k).toArray⟩:=⟨_,rfl⟩
 have p:M6 (w.rangeAt 0 0 A/\(∀q:Nat,q<8->∀w:MO,(Qy 138 (Ny A.toArray) (yB q)).run MK w=aE3 (aE0 (S q)) w)/\∀q:Nat,q<8->q≠K->((S q).toList == (S K).toList)=Nb):=by
  rw[u];exact⟨H,fun q h=>(y q h).1,fun q h h2=>aBd (D q h h2)⟩
 rw[show(⟨(aCq K).toArray⟩:ByteArray)=S K by rw[u]];clear H y D e hG f u;go_enter Tryz.func47,Tryz.ntmps47
 go_wp2_with ((with_reducible refine O3 rfl 138 (.global 0) rfl 0 0 ?gx A _ ?gc UJ ?gd ?gi ?_);(case gx=>rfl);(case gc=>exact p.out.1);(case gd=>rfl);(case gi=>rw[J];exact M))
 go_loopw [6] (fun i wr=>∃q:Nat,q<=K/\i=yB q/\wr=w) (fun i _=>8-(intOf i).toNat)
 case atStart=>exact⟨0,by omega,rfl,rfl⟩
 case round =>
  obtain⟨q,m,rfl,rfl⟩:=hrel;have z:q<8:=by omega
  have N:(q:Int)<8:=by omega
  have O:=p.out.2.1 q z
  by_cases hqk:q=K
  ·subst hqk
   go_wp2;go_ret;exact⟨rfl,rfl⟩
  ·have Z:=p.out.2.2 q z hqk
   go_wp2
   go_roundw
   case rel=>exact⟨q+1,by omega,by go_num,by first|rfl|trivial⟩
   case measure=>simp[intOf];omega
def aBb(w:MO)(v:M7)(ps:List (List UInt8)):Prop :=
 ∃g off cap,v=MG (MI ⟨g,off,MH⟩) ps.length cap/\ps.length<=cap/\cap<=200001/\g<w.heap.size/\∀i p,ps[i]?=MI p->w.cell? ⟨g,off+i,MH⟩=MI (aE0 ⟨p.toArray⟩)
theorem aBD{w:MO}{g o:Nat}{cs:Array M7}{T:NU}(v:M7)(h:w.heap[g]?=MI (MP cs T)):(w.setCell ⟨g,o,MH⟩ v).heap[g]?=MI (MP (cs.setIfInBounds o v) T):=by
 simp only[Q4,Array.getElem?_modify,h,if_true,OH];rfl
theorem aBx{w:MO}{b:Nat}{e:Ev}(h:YT w b e){o:Nat}(h1:1<=o)(h7:o<=7)(h4:o≠4)(n:Int):YT (w.setCell ⟨b,o,MH⟩ (yB n)) b (e.Gd o n):=by
 unfold YT;rw[aBD _ h];have:o=1\/o=2\/o=3\/o=5\/o=6\/o=7:=by omega
 rcases this with rfl|rfl|rfl|rfl|rfl|rfl <;> rfl
theorem aBC(w:MO)(b o:Nat)(v:M7):w.grownBy (w.setCell ⟨b,o,MH⟩ v) (MI b):=
 ⟨rfl,rfl,rfl,by simp[Q4],fun k hk hne=>MU _ _ _ _ (fun h=>hne (by rw[h]))⟩
theorem aBA(e:Ev)(hf:Yk e=0)(b base:Nat)(v u:M7)(w:MO)(hv:aA9 w base b v (aB7 e.kind))(hbb:b<base)(hu:aBb w u (aCg e))(hub:∀x,u.ownBlock=MI x->x≠b)(hE:YT w b (aBB e [])) :
  Ni MK 48 #[v,u] w fun r w'=>r=MN (M3 Nw)/\YT w' b (aBB e (aB7 e.kind))/\w.grownBy w' (MI b):=by
 obtain⟨-,p,-⟩:=aBt hf;obtain⟨a,b9,rfl,L⟩:=hv;obtain⟨g,off,a0,rfl,b0,a8,O,H⟩:=hu;have N:g≠b:=hub g rfl;have a6:(aB7 e.kind).length<=(aCg e).length:=by simp[aCg,aB5]
 have K:∀k o,(aB7 e.kind)[k]?=MI o->(aCg e)[k]?=MI (aFi (e.num o)):=fun k o f=>by
  unfold aCg aB5;rw[OJ (by simpa using(List.getElem?_eq_some_iff.1 f).1),aEZ,f];rfl
 have b7:=aB8 e.kind;generalize aB7 e.kind=os at *;have D:M6 (_/\_/\_):=⟨L,fun k o f=>H k _ (K k o f),p⟩;generalize (aCg e).length=nr at *;clear L H K p hub hf;have a9:¬(nr:Int)<(os.length:Int):=by omega
 go_enter Tryz.func48,Tryz.ntmps48;go_wp2
 go_loopw [15] (fun i wr=>∃k:Nat,k<=os.length/\i=yB k/\YT wr b (aBB e (os.take k))/\w.grownBy wr (MI b)) (fun i _=>os.length-(intOf i).toNat)
 case atStart=>exact⟨0,Nx _,rfl,hE,⟨rfl,rfl,rfl,MV _,fun _ _ _=>rfl⟩⟩
 case round =>
  obtain⟨k,hk,rfl,z,y⟩:=hrel
  by_cases hlt:k<os.length
  ·obtain⟨o,f⟩:∃o,os[k]?=MI o:=⟨_,MR hlt⟩
   obtain⟨Z,rfl,g1,g2,c0⟩:=D.out.1 k o f;have c1:=D.out.2.1 k o f;rw[<-y.cell_far ⟨Z,k,MH⟩ g2 (by simp;omega)]at c0;rw[<-y.cell_far ⟨g,off+k,MH⟩ O (by simpa using N)]at c1;have p:=D.out.2.2 o (Nu f);have J:aBB e (os.take (k+1))=(aBB e (os.take k)).Gd o (e.num o):=by
    unfold aBB;rw[List.take_add_one,f,Pu];rfl
   have j:=aFl (And.intro J (And.intro p (aBc p.1.1 p.1.2)));have i1:=aFj (e.num o) (by omega) (by omega);clear f p J;generalize e.num o=m at *;generalize aBB e (os.take k)=x at *;have a7:=y.size;have b8:k<nr:=by omega
   go_wp2_with fail
   refine(Any.strconv_Atoi_ok aBQ ⟨(aFi m).toArray⟩ (by simp[aFc];omega) m j.out.2.2 wr).mono ?_;rintro r w1 ⟨rfl,M⟩;have I:yA wr w1:=by
    rcases M with rfl|⟨x,rfl⟩
    ·exact MY _ _
    ·exact Lib.bytesWorld_below _ _ _
   have A:=z.below I z.lt;have eo:=aBw A j.out.2.1.2.1 j.out.2.1.2.2.1 j.out.2.1.2.2.2;have fo:=A.Gu o;clear M;go_wp2
   go_roundw
   case rel=>exact⟨k+1,by omega,by go_num,by rw[j.out.1];exact aBx A j.out.2.1.2.1 j.out.2.1.2.2.1 j.out.2.1.2.2.2 m,an7 (an7 y (awI I)) (aBC _ _ _ _)⟩
   case measure=>simp[intOf];omega
  ·obtain rfl:k=os.length:=by omega
   rw[NT]at z;go_wp2;go_ret;exact⟨rfl,z,y⟩
theorem aCm(e:Ev)(hf:Yk e=0)(w:MO)(hG:Gs w) :
  Ni MK 45 #[aE0 ⟨(aBU e).toArray⟩,aE0 ⟨#[32]⟩] w fun r w'=>r=MN (MG (MI ⟨w.heap.size,0,MH⟩) ((aCg e).length+1) ((aCg e).length+1))/\(∀i p,(aCq e.kind::aCg e)[i]?=MI p->w'.cell? ⟨w.heap.size,i,MH⟩=MI (aE0 ⟨p.toArray⟩))/\yA w w'/\w'.heap.size=w.heap.size+1:=by
 obtain⟨-,-,⟨m,y⟩,-⟩:=hG;have z:=(aBY hf).2;refine(Any.strings_Split aBO (by kernel_rfl) ⟨(aBU e).toArray⟩ ⟨#[32]⟩ m w (by simp[aFc];omega) y (by decide)).mono ?_;rintro r w' ⟨rfl,rfl⟩;have j:(Lib.splitB ⟨#[32]⟩ 0 (Lib.countB ⟨(aBU e).toArray⟩ ⟨#[32]⟩) ⟨(aBU e).toArray⟩).map (·.data.toList)=aCq e.kind::aCg e:=(Lib.splitB_data _ _ _ _).trans (aCn hf);have f:=congrArg aFd j;rw[N0,Lib.splitB_all _ (by decide) 0 _ _ rfl,Ox]at f;refine⟨by rw[f],fun i p hp=>?_,(MY _ _).alloc (MV _) _,by simp⟩;rw[Nl,adS];rw[<-j,aEZ]at hp;obtain⟨x,u,rfl⟩:=Option.map_eq_some_iff.1 hp;simp[u]
theorem aBu{w:MO}{b:Nat}{e x:Ev}(h:YT w b x)(hx:e={x with good:=e.good}):YT (w.setCell ⟨b,4,MH⟩ (M3 e.good)) b e:=by
 unfold YT;rw[aBD _ h];generalize e.good=g at hx;subst hx;rfl
theorem aBv{w w':MO}{b b':Nat}{e:Ev}(h:YT w b e)(hg:w.grownBy w' (MI b'))(hne:b≠b'):YT w' b e :=
 (hg.block b h.lt (fun x=>hne (NC x))).trans h
theorem aBy(e:Ev)(hf:Yk e=0)(w:MO)(hG:Gs w) :
  Ni MK 23 #[aE0 ⟨(aBS e).toArray⟩] w fun r w'=>r=MN (Nv #[Ny (aBs e).toArray,M3 Nw])/\yA w w':=by
 obtain⟨⟨j4,j5⟩,-,f6,A⟩:=aBt hf;obtain⟨K,u⟩:∃K:Nat,e.kind=K:=⟨e.kind.toNat,by omega⟩;have h9:=hG.2.2.2;have k6:=(aBY hf).2;obtain⟨n,hn⟩:=yE ((aCg e).length+1);obtain⟨pl,f9,f8⟩:∃pl,(aCq e.kind::aCg e)[n-1]?=MI pl/\(e.kind=4->pl=aB9 e.good):=by
  refine⟨(aCq e.kind::aCg e)[n-1]'(by simp;omega),MR _,fun H=>?_⟩;simp[hn,aCg,H]
 obtain⟨b1,b2,H,hg,hb⟩:∃b1 b2,((K:Int) == 4)=b1/\(pl == [103,111,111,100])=b2/\(b1=Nw/\b2=Nw/\e.good=Nw\/b1=Nw/\b2=Nb/\e.good=Nb\/b1=Nb/\e.good=Nb):=by
  refine⟨_,_,rfl,rfl,?_⟩
  by_cases H:(K:Int)=4
  ·rw[f8 (u.trans H),H]
   cases e.good <;> decide
  ·exact NF (NF ⟨beq_eq_false_iff_ne.2 H,A (by omega)⟩)
 have f:M6 (_/\_/\_/\_/\_/\_):=⟨f6,hf,hn,f9,hG,u⟩;have k0:1<=n:=by omega
 have k8:(1:Int)<=(n:Int):=by omega
 have k7:n<=5:=by
  have:=aB8 e.kind;rw[hn];unfold aCg aB5;split <;> simp <;> omega
 have j2:M6 (1<=(K:Int)/\(K:Int)<=7):=by unfold M6;omega
 have j6:1<=K/\K<=7:=by omega
 clear f6 A f8 hf hn f9 hG u j4 j5;go_enter Tryz.func23,Tryz.ntmps23
 go_wp2_with fail
 refine(Any.strings_TrimSuffix aBM ⟨(aBS e).toArray⟩ ⟨#[10]⟩ _ (by simp[aFc,aBS];omega)).mono ?_;rintro r w0 ⟨rfl,rfl⟩;rw[show aFw (⟨(aBS e).toArray⟩:ByteArray).data.toList (⟨#[10]⟩:ByteArray).data.toList=aBU e from aCp _]
 go_wp2_with fail
 refine(aCm e f.out.2.1 _ (f.out.2.2.2.2.1.below ((MY _ _).alloc (MV _) _) h9)).mono ?_;rintro r w1 ⟨rfl,J,a7,a0⟩;rw[<-f.out.2.2.1];simp only[aFx]at a0 J;have c0:w1.cell? ⟨w.heap.size+1,0,MH⟩=MI (aE0 ⟨(aCq K).toArray⟩):=by rw[<-f.out.2.2.2.2.2];exact J 0 _ rfl
 have e8:YT w1 w.heap.size Ev.Hi:=YT.below (adS w _) a7 (by simp);have b7:yA w w1:=((MY _ _).alloc (MV _) _).trans (a7.mono (by simp));have Z:M6 (_/\_/\_/\_/\_):=⟨J,J _ _ f.out.2.2.2.1,f.out.2.2.2.2.1.below b7 h9,e8,b7⟩;clear J a7 e8 b7
 go_wp2_with fail
 refine(aBJ K j6 w1 Z.out.2.2.1).mono ?_;rintro r w2 ⟨rfl,rfl⟩
 go_wp2_with fail
 obtain⟨W,I⟩:=yE (w2.alloc (MP #[yB K,yB 0,yB 0,yB 0,M3 Nb,yB 0,yB 0,yB 0] 61));rw[<-I];have b8:W.heap.size=w.heap.size+1+1+1:=by rw[I];simp[a0]
 have c9:YT W (w.heap.size+1+1) (aBB e []):=by rw[I,<-a0,<-f.out.2.2.2.2.2];exact adS w2 _
 have i5:yA w2 W:=by rw[I];exact(MY _ _).alloc (MV _) _
 have j7:W.cell? ⟨w.heap.size+1+1,0,MH⟩=MI (yB K):=by rw[c9.F7 0,<-f.out.2.2.2.2.2];rfl
 have HW:M6 (_/\_/\_):=⟨I,c9,i5⟩;clear I c9 i5;have f2:(aCg e).length=n-1:=by rw[f.out.2.2.1];rfl
 have HL:=aFl f2;clear f2
 by_cases hn1':n=1
 case' pos =>
  have HS:M6 (∀x,yA w2 x->aBb x (MG (MI ⟨w.heap.size+1,0,MH⟩) 0 0) (aCg e)):=fun x D =>
   ⟨_,0,0,by rw[HL.out,hn1'],by rw[HL.out];omega,by omega,by have:=D.size;omega,fun i p hp=>by have:=(List.getElem?_eq_some_iff.1 hp).1;rw[HL.out]at this;omega⟩
  subst hn1'
 case' neg =>
  have HS:M6 (∀x,yA w2 x->aBb x (MG (MI ⟨w.heap.size+1,1,MH⟩) (n-1) (n-1)) (aCg e)):=fun x D =>
   ⟨_,1,n-1,by rw[HL.out],by rw[HL.out];exact MV _,by omega,by have:=D.size;omega,fun i p hp=>by
    rw[D.cell (p:=⟨w.heap.size+1,1+i,MH⟩) (by simp;omega),show 1+i=i+1 by omega];have:=Z.out.1 (i+1) p (by simpa using hp)
    simpa using this⟩
 all_goals
  go_region_held3 (fun w'=>True) (go_keep)
   (first
   | (go_at_call 40;refine(aB2 (w.heap.size+1+1) K j2.out _ (by exact j7)).mono ?_;rintro r w3 ⟨v,rfl,j0,j8⟩;have y:=Za j0)
   | (go_at_call 48;refine(aBA e f.out.2.1 (w.heap.size+1+1) _ v _ w3 (by rw[f.out.2.2.2.2.2];exact j8) (by simp[b8]) (HS.out w3 (HW.out.2.2.trans (Below.mono y (by simp[b8,a0])))) (by intro x D;cases D;show w.heap.size+1≠w.heap.size+1+1;omega) (HW.out.2.1.below y (by simp[b8]))).mono ?_;rintro r w4 ⟨rfl,L,a6⟩))
  have i4:YT w4 w.heap.size Ev.Hi:=aBv ((Z.out.2.2.2.1.below HW.out.2.2 (by omega)).below y (by omega)) a6 (by omega);have e9:yA w w4:=(Z.out.2.2.2.2.trans ((HW.out.2.2.trans (y.mono (by omega))).mono (by omega))).grown a6 (by have:=y.size;omega) (by intro j hj;cases hj;omega);have b0:=Z.out.2.1;rw[<-HW.out.2.2.cell (p:=⟨w.heap.size+1,_,MH⟩) (by simp;omega),<-y.cell (p:=⟨w.heap.size+1,_,MH⟩) (by simp;omega),<-a6.cell_far ⟨w.heap.size+1,_,MH⟩ (by have:=y.size;simp;omega) (by simp)]at b0
  try simp only[Nat.sub_self]at b0
  have e0:w4.cell? ⟨w.heap.size+1+1,0,MH⟩=MI (yB K):=by
   rw[L.F7 0];exact congrArg (fun x=>MI (yB x)) ((congrArg Ev.kind f.out.1).symm.trans f.out.2.2.2.2.2)
  have f4:=L.Gu 4;have e4:w4.cell? ⟨w.heap.size+1+1,4,MH⟩=MI (M3 (aBB e (aB7 e.kind)).good):=L.F7 4;obtain⟨w5,m⟩:=yE (w4.setCell ⟨w.heap.size+1+1,4,MH⟩ (M3 e.good));have i7:YT w5 (w.heap.size+1+1) e:=by rw[m];exact aBu L f.out.1
  have i6:YT w5 w.heap.size Ev.Hi:=by rw[m];exact(MU _ _ _ _ (by simp;omega)).trans i4
  have f7:yA w w5:=by rw[m];exact e9.setCell (p:=⟨w.heap.size+1+1,4,MH⟩) (by simp;omega) _
  have z:M6 (_/\_/\_/\_):=⟨m,i7,i6,f7⟩;clear i4 e9 L i7 i6 f7 m y a6;rcases hb with⟨rfl,rfl,A⟩|⟨rfl,rfl,A⟩|⟨rfl,A⟩
  all_goals
   try obtain rfl:=eq_of_beq hg
   have Hg:=aFl A;clear A;go_wp2;have m:=z.out.1;rw[Hg.out]at m;rw[<-m];clear m;clear e0 e4 f4 b0;obtain⟨S,hS,M⟩:∃S:MO->Prop,M6 (∀X,S X->X.rangeAt (w.heap.size+1+1) 0 (aBs e))/\M6 (∀X,YT X (w.heap.size+1+1) e->S X):=⟨fun X=>X.rangeAt (w.heap.size+1+1) 0 (aBs e),fun _ h=>h,fun X h=>agb (cs:=aBs e) h⟩;refine O2 (S:=S) (by kernel_rfl) (M.out _ z.out.2.1) (fun hHeld=>?_);refine awW 0 (Ny (aBs e).toArray) hHeld ?_ (hy:=(Pt (by rfl) 61 (O6 5) rfl (w.heap.size+1+1) 0 rfl (aBs e) _ (fun _ h=>hS.out _ h) aAq rfl (by kernel_rfl)));simp only[yZ];refine awW 1 (Ny (aBs e).toArray) hHeld ?_ (hy:=(Pt (by rfl) 61 (O6 5) rfl (w.heap.size+1+1) 0 rfl (aBs e) _ (fun _ h=>hS.out _ h) aAq rfl (by kernel_rfl)));simp only[yZ];refine yQ 2 fun K u=>?_;rw[Nh (by rfl)]
   go_wp2_with fail
   refine(awv e _).mono ?_;rintro r w6 ⟨rfl,j1⟩;have b9:=Za j1;have d8:=z.out.2.1.below b9 z.out.2.1.lt;have f3:=z.out.2.2.1.below b9 z.out.2.2.1.lt;have d9:=z.out.2.2.2.trans (b9.mono z.out.2.2.2.size);rw[f.out.2.1]
   try go_wp2
   refine u.out _ _ (M.out _ d8) (fun hHeld=>?_);clear u K
   try simp only[yZ]
   refine awW 3 (M3 Nw) hHeld ?_;simp only[yZ];refine awW 4 (M3 Nw) hHeld ?_;simp only[yZ];refine awW 5 (Ny (aBs e).toArray) hHeld ?_ (hy:=(Pt (by rfl) 61 (O6 5) rfl (w.heap.size+1+1) 0 rfl (aBs e) _ (fun _ h=>hS.out _ h) aAq rfl (by kernel_rfl)));simp only[yZ];refine awW 7 (aE0 ⟨(aBS e).toArray⟩) hHeld ?_;simp only[yZ];refine yQ 6 fun K u=>?_;rw[Nh (by rfl)]
   go_wp2_with fail
   refine(aBX e w6 (f.out.2.2.2.2.1.below d9 h9) f.out.2.1).mono ?_;rintro r w7 ⟨rfl,a9⟩;have a8:=d8.below a9 d8.lt;have i8:=f3.below a9 f3.lt;have i9:=d9.trans (a9.mono d9.size)
   try go_wp2
   refine u.out _ _ (M.out _ a8) (fun hHeld=>?_);clear u K
   try simp only[yZ]
   refine awW 8 (M3 Nw) hHeld ?_;simp only[yZ];refine awW 9 (M3 Nw) hHeld ?_;simp only[yZ];obtain⟨O,N⟩:=yE (w7.setCells w.heap.size 0 (aBs e));have g9:YT O (w.heap.size+1+1) e:=by rw[N];exact(N8 w7 _ _ _ a8.lt (by omega)).trans a8
   have j3:YT O w.heap.size e:=by rw[N];exact afG (vs:=aBs e) (old:=aBs Ev.Hi) i8 rfl
   have j9:yA w O:=by rw[N];exact adF i9 (MV _) _ _ i9.size
   refine yR [10] ?_;refine afX (i:=10) (o:=_) (by rfl) (by rfl) 61 (O6 2) (O6 33) (by rfl) w.heap.size 0 (aBs e).toArray (by rfl) (by rfl) (afH (old:=aBs Ev.Hi) i8) ajk (by simp[Value.oneCell']) (by rw[NS,<-N];exact M.out _ g9) ?_;rw[NS,<-N]
   try simp only[yZ]
   refine yR [11] ?_;refine acK (i:=11) (o:=_) (by rfl) (by rfl) (O6 42) (by rfl) (M3 Nw) (by rfl) (M.out _ g9) ?_
   try simp only[yZ]
   refine PS (by kernel_rfl) ?_ _;go_wp2;refine Np (v:=Nv #[Ny (aBs e).toArray,M3 Nw]) (XT Tryz.results23 rfl rfl (akJ (cs:=aBs e) j3 aAq rfl ajk)) rfl ?_;exact⟨rfl,j9⟩
section
open Go.Shelf Go.Deep
attribute [local go_sem] Oper.semAt_some
abbrev aEN:Type:={x:Nat×Ev // x.1<4000/\Yk x.2=0}
def aBz(pre:List aEN):List Ev:=pre.map (·.1.2)
theorem aBn{b:ByteArray}{a c:List UInt8}(h:b.data.toList=a++c):b.extract 0 a.length=⟨a.toArray⟩/\b.extract a.length b.size=⟨c.toArray⟩/\b.size=a.length+c.length:=by
 have e:b.size=a.length+c.length:=by rw[Lib.size_eq,h,Ns]
 refine⟨aFq (Array.ext' ?_),aFq (Array.ext' ?_),e⟩
 ·rw[Lib.extract_data,h];simp
 ·rw[Lib.extract_data,h,e];simp
theorem aB0(n:Nat)(hn:1<=n)(y Bt:Nat)(l:List Ev)(hl:∀e∈l,Yk e=0)(h4:l.length<=4000)(J Jx:List aEN->MO->Prop)
  (hY:∀pre (x:aEN) W,J pre W->pre.length<4000->YieldAt Fence.wide (n-1) MK y #[yB (x.1.1:Int),aE0 ⟨(aBS x.1.2).toArray⟩] W fun e W' =>
   (e=MN (M3 Nw)/\J (pre++[x]) W'/\True)\/(e=MN (M3 Nb)/\Jx (pre++[x]) W'))
  (W:MO) (hBt:W.cell? ⟨Bt,0,MH⟩=MI (aE0 ⟨(aCk l).toArray⟩)) (h0:J [] W) :
  CallsIn Fence.wide n MK 43 #[PB (.yield y) #[] #[],Na (MI ⟨Bt,0,MH⟩)] W fun e W'=>(∃v,e=MN v)/\((∃ys:List aEN,aBz ys=l/\J ys W')\/(∃pre:List aEN,True/\Jx pre W')):=by
 refine callsIn_of_wp Tryz.func43 rfl trivial ?_ rfl;simp only[Tryz.ntmps43,OQ,Ox,aE8,aFg,aFh,Sg,Sh,SY,Sk,Oz,aE2]
 gi_wp2
 gi_loopw [3,4] (fun s i wr=>∃pre:List aEN,s=aE0 ⟨(aCk (l.drop pre.length)).toArray⟩/\i=yB pre.length/\aBz pre++l.drop pre.length=l/\J pre wr)
  (fun _ i _=>l.length-(intOf i).toNat)
 case atStart=>exact⟨[],rfl,rfl,rfl,h0⟩
 case round =>
  obtain⟨pre,rfl,rfl,f,u⟩:=hrel;cases hd:l.drop pre.length with
  |nil =>
   rw[hd,OG]at f;have m:=aFl (And.intro f u);clear f u hY hd;rw[show aCk []=[]from rfl]
   gi_wp2
   go_end0
   exact⟨⟨_,rfl⟩,Nt ⟨pre,m.out⟩⟩
  |cons e r =>
   have hk:pre.length<l.length:=by have:=congrArg aFd hd;simp at this;omega
   have p:=hl e (aE5 (by rw[hd];exact NM));obtain⟨x,Z⟩:∃x:aEN,x.1=(pre.length,e):=⟨⟨(pre.length,e),by dsimp only;omega,p⟩,rfl⟩;have K:(pre++[x]).length=pre.length+1:=by simp
   have D:l.drop (pre++[x]).length=r:=by rw[K,List.drop_add_one_eq_tail_drop,hd];rfl
   have a0:aBz (pre++[x])++l.drop (pre++[x]).length=l:=by
    rw[D,<-f,hd];simp[aBz,Z]
   obtain⟨fn,c9,b9,d8,hy,hR⟩:=hY pre x wr u (by omega);rw[Z]at hy
   dsimp only at hy
   have a9:=hR.mono (R':=fun e H=>∃go:Bool,e=MN (M3 go)/\(go=Nw->M6 (J (pre++[x]) H))/\(go=Nb->M6 (Jx (pre++[x]) H))) (fun e H h=>by
    rcases h with⟨O,h2,h3⟩|⟨O,h2⟩
    ·exact⟨Nw,O,fun _=>h2,fun h=>PP h⟩
    ·exact⟨Nb,O,fun h=>PP h,fun _=>h2⟩)
   obtain⟨b,N⟩:∃b:ByteArray,b=⟨(aCk (e::r)).toArray⟩:=⟨_,rfl⟩;have A:b.data.toList=aBS e++aCk r:=by rw[N];rfl
   rw[<-N];obtain⟨q1,q2,q3⟩:=aBn A;obtain⟨j,I⟩:=yE ((aBU e).length);have a7:(aBS e).length=j+1:=by rw[I];simp[aBS]
   have d9:(b.toList == [])=false:=by rw[aFe,A];simp[aBS]
   have a6:Lib.indexByte b.data.toList 10=j:=by rw[A,I];unfold aBS;rw[OC];exact aBE _ _ (aBY p).1
   have b0:=(aBY p).2;rw[a7]at q1 q2 q3;rw[<-I]at b0;have hs:=aCl r fun z hz=>hl z (aE5 (by rw[hd];exact NB _ hz))
   have a8:r.length<=4000:=by rw[<-D,NJ];omega
   have g1:b.size<=9223372036854775807:=by omega
   have g2:(0:Int)<=(b.size:Int):=by omega
   have g3:(b.size:Int)<=(b.size:Int):=by omega
   have g4:(0:Int)<=(j:Int)+1:=by omega
   have g5:(j:Int)+1<=(b.size:Int):=by omega
   have g6:((j:Int)+1 == 0)=false:=by rw[Oh];omega
   have g7:((j:Int)+1).toNat=j+1:=by omega
   have g8:j+1<=b.size:=by omega
   have m:M6 (_/\_/\_):=⟨a0,D,K⟩;have HI:M6 (∀W',Ni MK 44 #[aE0 b,MF .u8 10] W' fun r w1=>r=MN (yB j)/\w1=W'):=fun W'=>(Any.strings_IndexByte aBN b 10 W').mono fun r w1 h=>by rw[<-a6];exact h
   clear a0 D K q3 a6 f u hY N A hR hd p Z hs a8 I a7
   gi_wp2_with (first|(refine⟨trivial,?_⟩;gi_at_call 44;refine(callsIn_wide.2 (HI.out _)).mono ?_;rintro r w1 ⟨rfl,rfl⟩))
   with_reducible refine a9.mono ?_
   rintro e H ⟨go,rfl,L,M⟩;cases go
   ·have b8:=M rfl
    clear L M
    gi_wp2
    refine Np (results_none rfl _ _ _) rfl ?_;exact⟨⟨_,rfl⟩,NF ⟨_,trivial,b8.out⟩⟩
   ·have b7:=L rfl
    clear L M
    gi_wp2
    go_roundw
    case rel=>exact⟨pre++[x],by rw[m.out.2.1],by rw[m.out.2.2];go_num,m.out.1,b7.out⟩
    case measure=>simp[intOf];omega
theorem aBZ(tx:ByteArray)(w:MO):Ni MK 22 #[aE0 tx] w fun r w'=>r=MN (PB (Fn.func 43) #[] #[Na (MI ⟨w.heap.size,0,MH⟩)])/\w'=w.alloc (MP #[aE0 tx] 9):=by
 go_enter Tryz.func22,Tryz.ntmps22;go_wp2;go_ret;exact⟨rfl,rfl⟩
theorem aBq(e:Ev):∀u∈aBs e,u.oneCell'=true:=by
 intro u f;simp only[aBs,OO,List.mem_nil_iff,or_false]at f;rcases f with rfl|rfl|rfl|rfl|rfl|rfl|rfl|rfl <;> rfl
theorem aBF:(MK.info? 61).map (fun i=>(i.zero,i.size,i.bytes))=MI (MI (Ny #[yB 0,yB 0,yB 0,yB 0,M3 Nb,yB 0,yB 0,yB 0]),8,64):=by kernel_rfl
def aBa(B:Nat)(WL:MO)(pre:List aEN)(W:MO):Prop :=
 WL.grownBy W (MI B)/\∃v,Boxed W B 29 v/\W.ownsRow WL.heap.size 61 8 v pre.length (rv aBs (aBz pre))
theorem aCi{WL:MO}(hB:B<WL.heap.size):OwnFrom WL.heap.size (aBa B WL):=by
 rintro K W I L ⟨h,v,z,m⟩ i D;have f:∀k,k<W.heap.size->(k<WL.heap.size\/∃o,W.heap[k]?=MI o/\o.isCells=Nw)->I.heap[k]?=W.heap[k]?:=fun k f h=>i.block k f fun e=>by
  obtain⟨j,o,p,A⟩:=D k e.symm;rcases h with h|⟨O,h,u⟩
  ·omega
  ·rw[p]at h;cases h;rw[A]at u;cases u
 have H:=h.size;refine⟨⟨i.os.trans h.os,i.tape.trans h.tape,i.output.trans h.output,Nm H i.size,fun k j p=>(f k (by omega) (Nt j)).trans (h.block k j p)⟩,v,(f _ (by omega) (Nt hB)).trans z,W8 m fun g hg'=>?_⟩;rcases m.2 with⟨rfl,_⟩|⟨J,M,N,rfl,_,y,_⟩
 ·cases hg'
 ·obtain rfl:J=g:=by simpa [QQ]using hg'
  exact f _ (m.lt _ hg').2 (NF ⟨_,y,rfl⟩)
theorem aCh{fn:Func}{x y z:Tmp}{u s:NU}(h:fn.results=#[.cell x t,.cell y u,.cell z s]){tmps:Array M7}{P:O8}{w:MO}{p q r:Oc}{v1 v2 v3:M7}(hx:tmps.getD x PL=Na (MI p))(hy:tmps.getD y PL=Na (MI q))(hz:tmps.getD z PL=Na (MI r))
  (h1:(loadVar t p).run P w=aE3 v1 w) (h2:(loadVar u q).run P w=aE3 v2 w) (h3:(loadVar s r).run P w=aE3 v3 w):(Pf fn tmps).run P w=aE3 (Nv #[v1,v2,v3]) w:=by
 have e:∀a:Oc,(asAddr (Na (MI a))).run P w=aE3 a w:=fun a=>rfl
 simp only[Array.getD_eq_getD_getElem?]at hx hy hz;simp[Pf,h,hx,hy,hz,e,h1,h2,h3,Sem.run_bind]
theorem aBh{w:MO}{k:Nat}(hk:w.heap.size=k)(v:M7)(t:NU):Boxed (w.alloc (MP #[v] t)) k t v:=by
 subst hk;exact adS w _
theorem aBi{w:MO}{g:Nat}(h:Boxed w g t v)(o:Obj):Boxed (w.alloc o) g t v:=(Ov _ _ _ h.lt).trans h
theorem aBk{W:MO}{g:Nat}(h:Boxed W g t v)(u:M7):Boxed (W.setCell ⟨g,0,MH⟩ u) g t u:=aBD u h
theorem aBg{W:MO}{g g':Nat}(h:Boxed W g t v)(hne:g'≠g)(o:Nat)(u:M7):Boxed (W.setCell ⟨g',o,MH⟩ u) g t v :=
 (MU _ _ _ _ (fun e=>hne e.symm)).trans h
theorem aBj{W:MO}{g D:Nat}(h:Boxed W g t v)(hne:g≠D)(o:Obj):Boxed (W.putObj D o) g t v:=(World.putObj_heap_other hne).trans h
theorem aBK{w:MO}{g:Nat}(h:w.cell? ⟨g,0,MH⟩=MI v):(loadVar 29 ⟨g,0,MH⟩).run MK w=aE3 v w:=by
 simp[loadVar,h,go_sem]
theorem l3{w:MO}{g:Nat}(h:w.cell? ⟨g,0,MH⟩=MI v):(loadVar 3 ⟨g,0,MH⟩).run MK w=aE3 v w:=by
 simp[loadVar,h,go_sem]
theorem aBL{w:MO}{g:Nat}(h:w.cell? ⟨g,0,MH⟩=MI v):(loadVar 66 ⟨g,0,MH⟩).run MK w=aE3 v w:=by
 simp[loadVar,h,go_sem]
theorem aBI{N:Nat}{W W':MO}(hs:W.heap.size<=W'.heap.size)(h:∀(k:Nat) (o:Obj),W.heap[k]?=MI o->o.isCells=Nb->W'.heap[k]?=MI o):KeepsFrom N W W' :=
 ⟨hs,fun k o _ h2 h3=>h k o h2 h3⟩
theorem aCd{WL W W2 w4:MO}{pre:List aEN}{v':M7}{x:aEN}(hB:B<WL.heap.size)(h:WL.grownBy W (MI B))(hbox:Boxed W B 29 v)(ho:W.ownsRow WL.heap.size 61 8 v pre.length (rv aBs (aBz pre)))(hb:yA W W2)
  (hown:w4.ownsRow WL.heap.size 61 8 v' (pre.length+1) (rv aBs (aBz pre)++aBs x.1.2)) (hg:W2.grownBy w4 v.ownBlock) :
  Boxed w4 B 29 v/\aBa B WL (pre++[x]) (w4.setCell ⟨B,0,MH⟩ v')/\KeepsFrom WL.heap.size W (w4.setCell ⟨B,0,MH⟩ v'):=by
 have H:=h.size;have y:=hb.size;have A:=hg.size;have i:∀k,k<W.heap.size->v.ownBlock≠MI k->w4.heap[k]?=W.heap[k]?:=fun k h1 h2=>(hg.block k (by omega) (fun e=>h2 e.symm)).trans (hb.block k h1)
 have j:∀k,k<WL.heap.size->v.ownBlock≠MI k:=fun k h e=>by have:=(ho.lt k e).1;omega
 have m:Boxed w4 B 29 v:=(i _ (by omega) (j _ hB)).trans hbox;have f:∀k,k≠B->(w4.setCell ⟨B,0,MH⟩ v').heap[k]?=w4.heap[k]?:=fun k h1=>MU _ _ _ _ h1
 refine⟨m,⟨⟨(hg.os.trans hb.os).trans h.os,(hg.tape.trans hb.tape).trans h.tape,(hg.output.trans hb.output).trans h.output,by simp[Q4];omega,fun k h1 h2=>?_⟩,v',aBk m v',?_⟩,aBI (by simp[Q4];omega) (fun k o h2 h3=>?_)⟩
 ·rw[f k (fun e=>h2 (by rw[e])),i k (by omega) (j k h1),h.block k h1 h2]
 ·have u:rv aBs (aBz (pre++[x]))=rv aBs (aBz pre)++aBs x.1.2:=by unfold aBz;rw[OI,acL];simp[rv]
  rw[u,Ns];exact W8 hown (fun g hg'=>f g (by have:=(hown.lt g hg').1;omega))
 ·rw[f k (fun e=>by subst e;rw[show W.heap[k]?=_ from hbox]at h2;cases h2;cases h3),i k (Array.getElem?_eq_some_iff.1 h2).1 (fun e=>?_),h2]
  rcases ho.2 with⟨rfl,_⟩|⟨g,z,D,rfl,_,p,_⟩
  ·cases e
  ·obtain rfl:g=k:=by simpa [QQ]using e
   rw[h2]at p;cases p;cases h3
theorem aB3(w1:MO)(A:Obj)(cs:List M7)(T:NU):∀j u,cs[j]?=MI u->((w1.alloc A).alloc (MP cs.toArray T)).cell? ((⟨w1.heap.size+1,0,MH⟩:Oc).add j)=MI u:=by
 intro j u e;have:=aA6 (w1.alloc A) cs T j u e;rw[aFx]at this;exact this
theorem aCe(l:List Ev)(hl:∀e∈l,Yk e=0)(h4:l.length<=1000)(w:MO)(hG:Gs w) :
  Ni MK 7 #[aE0 ⟨(aCk l).toArray⟩] w fun r w'=>∃v,r=MN (Nv #[v,yB 0,yB 0])/\Xw aBs w' v l/\yA w w':=by
 have h9:=hG.2.2.2;have HG:=aFl hG;clear hG;have f2:=aCl l hl;obtain⟨tx,ht⟩:∃tx:ByteArray,tx=⟨(aCk l).toArray⟩:=⟨_,rfl⟩;have f8:tx.size=(aCk l).length:=by rw[ht];simp[aFc]
 have j0:¬(200000:Int)<(tx.size:Int):=by omega
 rw[<-ht];have HT:M6 (_/\_):=⟨ht,hl⟩;clear ht hl f2 f8;refine(callsIn_wide (n:=3)).1 (callsIn_of_wp_marks Tryz.func7 rfl trivial (wpIn_wide.2 ?_) rfl);simp only[Tryz.ntmps7,OQ,Ox,aE8,aFg,aFh,Sg,Sh,SY,Sk,Oz,aE2]
 go_wp2_with fail
 refine(aBZ tx _).mono ?_;rintro r w0 ⟨rfl,rfl⟩;go_wp2;obtain⟨f,z⟩:=yE (((((w.alloc (MP #[MG MH 0 0] 29)).alloc (MP #[yB 0] 3)).alloc (MP #[yB 0] 66)).alloc (MP #[MG MH 0 0] 29)).alloc (MP #[aE0 tx] 9));rw[<-z];have i9:f.heap.size=w.heap.size+1+1+1+1+1:=by rw[z];simp
 have e9:yA w f:=by rw[z];exact(((((MY w.heap.size w).alloc (MV _) _).alloc (by simp) _).alloc (by simp;omega) _).alloc (by simp;omega) _).alloc (by simp;omega) _
 have q1:Boxed f w.heap.size 29 (MG MH 0 0):=by rw[z];exact aBi (aBi (aBi (aBi (aBh rfl _ _) _) _) _) _
 have q2:Boxed f (w.heap.size+1) 3 (yB 0):=by rw[z];exact aBi (aBi (aBi (aBh (by simp) _ _) _) _) _
 have q3:Boxed f (w.heap.size+1+1) 66 (yB 0):=by rw[z];exact aBi (aBi (aBh (by simp) _ _) _) _
 have q4:Boxed f (w.heap.size+1+1+1) 29 (MG MH 0 0):=by rw[z];exact aBi (aBh (by simp) _ _) _
 have q5:f.cell? ⟨w.heap.size+1+1+1+1,0,MH⟩=MI (aE0 tx):=by rw[z];exact Boxed.cell (aBh (by simp) _ _)
 clear z;have hsq:SeqStopsK Fence.wide 2 MK 43 #[Na (MI ⟨w.heap.size+1+1+1+1,0,MH⟩)] (fun x:aEN=>#[yB (x.1.1:Int),aE0 ⟨(aBS x.1.2).toArray⟩]) (fun _ _=>True) (fun ys=>aBz ys=l) (fun _=>True) 4000 f:=fun y J Jx W hW _ _ hY h0 =>
  aB0 2 (by omega) y _ l HT.out.2 (by omega) J Jx hY W ((hW.cell (p:=⟨_,0,MH⟩) (by simp;omega)).trans (by rw[<-HT.out.1];exact q5)) h0
 have H:M6 (_/\_/\_/\_/\_):=⟨e9,q1,q2,q3,q4⟩;clear e9 q1 q2 q3 q4 q5;obtain⟨i0,hi,f9,f7,g9⟩:=OF aBF;refine(wpIn_wide (n:=3)).1 ?_;refine wpIn_rangeFunc_ownH (F:=Fence.wide) rfl (by omega) (gf:=43) (lb:=#[Na (MI ⟨w.heap.size+1+1+1+1,0,MH⟩)]) rfl trivial (enters_of Tryz.func43 (by kernel_rfl) rfl)
  hsq (fun _ _=>trivial) (fun W k o o' hk hW _ _=>trivial) (MY _ _) (fun _=>rfl)
  (aBa (w.heap.size+1+1+1) f) (fun _ _ _=>False) (aCi (by omega)) (fun _ _ _ _ _ h _ _=>h)
  ⟨⟨rfl,rfl,rfl,MV _,fun _ _ _=>rfl⟩,_,H.out.2.2.2.2,World.ownsRow_nil _ _ _ _⟩
  (fun x a' W=>a'={tmps:=#[aE0 tx,PL,Na (MI ⟨w.heap.size,0,MH⟩),Na (MI ⟨w.heap.size+1,0,MH⟩),Na (MI ⟨w.heap.size+1+1,0,MH⟩),Na (MI ⟨w.heap.size+1+1+1,0,MH⟩),yB (x.1.1:Int),aE0 ⟨(aBS x.1.2).toArray⟩,PL,PL,aE0 tx,yB (tx.size:Int),M3 Nb,aE0 tx,PB (Fn.func 43) #[] #[Na (MI ⟨w.heap.size+1+1+1+1,0,MH⟩)],yB (x.1.1:Int),aE0 ⟨(aBS x.1.2).toArray⟩,PL,PL,PL,PL,PL,PL,PL,PL,PL,PL,PL,PL,PL,PL,PL,PL],defers:=[]})
  (fun x a' _ X Y row hs hg hr=>hs)
  ?assign ?body ?done ?stop
 case assign =>
  rintro lp i x W K hC I
  gi_wp2
  exact I _ _ (aBI (MV _) (fun k o h _=>h)) trivial hC rfl
 case body =>
  rintro lp i x a' W i7 _ ⟨u,v,L,j⟩ rfl i8;obtain⟨N,Z,rfl⟩:=Y6 j;have e8:=x.2.2;have f3:¬(4000:Int)<=(x.1.1:Int):=by have:=x.2.1;omega
  have hs:=u.size;have d9:Ni MK 23 #[aE0 ⟨(aBS x.1.2).toArray⟩] W fun r w1=>r=MN (Nv #[(Ny #[yB x.1.2.kind,yB x.1.2.key,yB x.1.2.slot,yB x.1.2.gen,M3 x.1.2.good,yB x.1.2.req,yB x.1.2.be,yB x.1.2.wt]),M3 Nw])/\M6 (yA W w1)/\w1.cell? ⟨w.heap.size+1+1+1,0,MH⟩=MI (MG N i.length Z)/\w.heap.size+1+1+1<w1.heap.size :=
   (aBy x.1.2 e8 W (HG.out.below (H.out.1.grown u H.out.1.size (by intro k e;cases e;omega)) h9)).mono fun r w1 h =>
    have k1:Boxed w1 (w.heap.size+1+1+1) _ _:=WO L h.2
    ⟨h.1,h.2,k1.cell,k1.lt⟩
  have c9:∀(w1 w5:MO) (A B:Obj) {g' a0:Nat},yA W w1->w5.ownsRow f.heap.size 61 8 (MG (MI ⟨g',0,MH⟩) (i.length+1) a0) (i.length+1) (rv aBs (aBz i)++aBs x.1.2)->((w1.alloc A).alloc B).grownBy w5 (MG N i.length Z).ownBlock ->
    w5.cell? ⟨w.heap.size+1+1+1,0,MH⟩=MI (MG N i.length Z)/\w5.frozen? ⟨w.heap.size+1+1+1,0,MH⟩=Nb/\M6 (aBa (w.heap.size+1+1+1) f (i++[x]) (w5.setCell ⟨w.heap.size+1+1+1,0,MH⟩ (MG (MI ⟨g',0,MH⟩) (i.length+1) a0))/\KeepsFrom f.heap.size W (w5.setCell ⟨w.heap.size+1+1+1,0,MH⟩ (MG (MI ⟨g',0,MH⟩) (i.length+1) a0))):=by
   intro w1 w5 A B g' a0 b8 a7 b7;obtain⟨t1,t2⟩:=aCd (by omega) u L j ((b8.alloc b8.size A).alloc (by have:=b8.size;simp;omega) B) a7 b7;exact⟨t1.cell,t1.frozen,t2⟩
  have HC:M6 (_/\_/\_):=⟨d9,j,c9⟩;clear d9 u L j c9 e8 hsq;obtain⟨⟨k,e⟩,hx⟩:=x
  dsimp only at HC f3⊢
  gi_wp2_with (first|(refine⟨trivial,?_⟩;gi_at_call 23;refine(CallsIn.inRound lp (callsIn_wide.2 HC.out.1)).mono ?_;rintro r w1 ⟨rfl,a9,r1,i6⟩)|(gi_at_builtin;refine wpListIn_append_own _ rfl _ _ 29 rfl f.heap.size 61 i0 _ 8 64 Tryz.underlying29 hi f9 f7 g9 rfl (by decide) (MG N i.length Z) i.length (rv aBs (aBz i)) rfl (((W8 HC.out.2.1 fun g hg'=>a9.out.block g (HC.out.2.1.lt g hg').2).alloc _).alloc _) ⟨w1.heap.size+1,0,MH⟩ 1 1 (aBs e) rfl rfl (aB3 w1 _ (aBs e) _) (aBq e) (by unfold NE;omega) (by omega) (by have h1:=a9.out.size;simp;omega) ?_;intro v5 w5 a7 b7 _;obtain⟨g',a0,rfl⟩:=ownsRow_succ a7;obtain⟨c5,d5,d8⟩:=HC.out.2.2 _ _ _ _ a9.out a7 b7))
  exact⟨d8.out.2,trivial,d8.out.1⟩
 case done =>
  rintro D ys W hD a6 ⟨u,v,L,j⟩ I;obtain⟨N,Z,rfl⟩:=Y6 j;have a8:∀g,g<w.heap.size+1+1+1->W.heap[g]?=f.heap[g]?:=fun g hg=>u.block g (by omega) (by simp;omega)
  have O:Boxed W w.heap.size _ _:=(a8 _ (by omega)).trans H.out.2.1;have b2:Boxed W (w.heap.size+1) _ _:=(a8 _ (by omega)).trans H.out.2.2.1;have b3:Boxed W (w.heap.size+1+1) _ _:=(a8 _ (by omega)).trans H.out.2.2.2.1;have hB:yA w W:=H.out.1.grown u H.out.1.size (by intro k e;cases e;omega);have hc:=L.cell;have r1:=O.cell;have r2:=b2.cell;have r3:=b3.cell;have s1:=O.frozen;have s2:=b2.frozen;have s3:=b3.frozen;have hs:=u.size;have HF:M6 (_/\_/\_/\_/\_/\_/\_):=⟨j,hB,I,a6,O,b2,b3⟩;clear j hB I L a6 u a8 O b2 b3 hsq;go_wp2;obtain⟨j,hB,I,a6,O,b2,b3⟩:=HF.out;obtain⟨v,hv⟩:=yE (MG N ys.length Z);rw[<-hv]at j⊢;clear hv;obtain⟨m,M⟩:=yE (((W.setCell ⟨w.heap.size,0,MH⟩ v).setCell ⟨w.heap.size+1,0,MH⟩ (yB 0)).setCell ⟨w.heap.size+1+1,0,MH⟩ (yB 0));have b9:∀k,w.heap.size+1+1<k->m.heap[k]?=W.heap[k]?:=fun k hk=>by
   rw[M,MU _ _ _ _ (by simp;omega),MU _ _ _ _ (by simp;omega),MU _ _ _ _ (by simp;omega)]
  have a1:Boxed m w.heap.size 29 v:=by rw[M];exact aBg (aBg (aBk O _) (by omega) 0 _) (by omega) 0 _
  have a2:Boxed m (w.heap.size+1) 3 (yB 0):=by rw[M];exact aBg (aBk (aBg b2 (by omega) 0 _) _) (by omega) 0 _
  have a3:Boxed m (w.heap.size+1+1) 66 (yB 0):=by rw[M];exact aBk (aBg (aBg b3 (by omega) 0 _) (by omega) 0 _) _
  have i4:yA w m:=by rw[M];exact((hB.setCell (p:=⟨w.heap.size,0,MH⟩) (MV _) _).setCell (p:=⟨w.heap.size+1,0,MH⟩) (by simp) _).setCell (p:=⟨w.heap.size+1+1,0,MH⟩) (by simp;omega) _
  have b0:m.heap[D]?=MI (.deferred (MI [])):=(b9 D (by omega)).trans I;have f6:m.ownsRow f.heap.size 61 8 v ys.length (rv aBs (aBz ys)):=W8 j (fun g hg'=>b9 g (by have:=(j.lt g hg').1;omega));rw[<-M];refine⟨by simp,Nt ⟨_,_,rfl,run_takeDeferred b0,?_⟩⟩;refine⟨_,aCh (p:=⟨w.heap.size,0,MH⟩) (q:=⟨w.heap.size+1,0,MH⟩) (r:=⟨w.heap.size+1+1,0,MH⟩) Tryz.results7 rfl rfl rfl (aBK (aBj a1 (by omega) _).cell) (l3 (aBj a2 (by omega) _).cell) (aBL (aBj a3 (by omega) _).cell),v,rfl,?_,?_⟩
  ·have:=ownsRow_putObj f6 (.deferred MH) b0 rfl
   have hl:ys.length=l.length:=by rw[<-a6];simp[aBz]
   rw[a6,hl]at this;exact abw this
  ·exact i4.trans (belowK_b (w:=w) (MV _) m D _ _ (by omega) b0 rfl rfl)
 case stop =>
  rintro D c i W hD i5 h I;exact h.elim
end
section
open Go.ChangeShapes Go.WideShapes
abbrev anA:List (String×DataW Unit):=Rows.topFramesRow.laid
abbrev aC5:List (String×DataW Unit):=anA.filter fun x=>x.2.handleName?.isNone
theorem awR(os:Os)(args:Array M7):laidMetH MK anA (((World.doorLaid MK 400 os).layVars MK aC5).forCall (fun _ _=>0) ⟨#[],args,[]⟩).memory:=by
 have e:(aC5.filter fun x=>(aC5.map (·.1)).contains x.1)=aC5:=by kernel_rfl
 have f:(aC5.filter fun x=>!(aC5.map (·.1)).contains x.1)=[]:=by kernel_rfl
 exact laidMetH_of_parts3 (fuel:=8) (laidMet_layVars (w0:=World.doorLaid MK 400 os) (aC5.map (·.1)) [] (by rw[e];simp[World.memory,World.forCall,Input.heap]) (by rw[e];kernel_rfl) (by rw[e];kernel_rfl) (by rw[f];exact LaidIn.none)) (by kernel_rfl) (by kernel_rfl)
def aDl:List (List UInt8):=(List.range 8).map fun k=>aCq (k:Nat)
theorem aDm{rest:List (String×DataW Unit)}{W:MO}(h:laidMet MK (("usher/lines.words",.agg (aDl.map fun n=>.lit (.string n)))::rest) W)(k:Nat)(hk:k<8):W.cell? ⟨0,k,MH⟩=MI (aE0 ⟨(aCq k).toArray⟩):=by
 obtain⟨L,⟨g,t,cs,J,p,q,e,z,u,y,_,_⟩,_,_⟩:=h;obtain rfl:=NC ((show MK.globalNamed "usher/lines.words"=MI 0 by kernel_rfl).symm.trans e);obtain rfl:=NC ((show(MK.globals[0]?).map (·.type)=MI 138 by kernel_rfl).symm.trans z);obtain⟨xs,m,_,H,_,K,j⟩:=DataW.trod_array UJ y;have f:=j k hk;rw[show MK.cellsOf 9=1 by kernel_rfl,P6,MR (by omega)]at f;obtain⟨s,I,D,_⟩:=DataW.trod_string Tryz.underlying9 f;have i:=congrArg (·[k]?) (DataW.agg.inj (Prod.mk.inj H).1);simp only[aDl,aEZ,List.getElem?_range hk,MR (show k<xs.length by omega),OH,D,Qs,DataW.lit.injEq,Lit.string.injEq]at i;rw[World.var?_cell e u k,i];have A:((cs.toList.drop k).take 1)[0]?=MI (aE0 s):=by rw[I];rfl
 simpa using A
theorem aCX{W:MO}(h:laidMetH MK anA W)(hs:W.ShapedOpen MK):Xo W/\Gs W:=by
 have p:laidMet MK (Rows.topFramesRow.laid.filter fun x=>x.2.handleName?.isNone) W:=h.1;have j:laidMet MK (("internal/strconv.uint64pow10",Lib.tabData .u64 Lib.pow10Tab)::("unicode/utf8.acceptRanges",_)::("strconv.ErrRange",_)::("strconv.ErrSyntax",_)::("usher/wheel.blocks",Lib.tabData ME [8,64,512])::("usher/lines.words",.agg (aDl.map fun n=>.lit (.string n)))::_) W:=p.tail.tail;have i:=j.tail.tail.tail.tail;have m:=aFu (g:=10) (t:=22) (e:=3) (n:=3) (by kernel_rfl) (by kernel_rfl) Tryz.underlying22 Ol (by kernel_rfl) (by kernel_rfl) i;have f:=m.cell (show MK.globalNamed "usher/wheel.blocks"=MI 10 by kernel_rfl);exact⟨⟨f 0 (by decide),f 1 (by decide),f 2 (by decide)⟩,aDm i.tail,
  aFu (g:=3) (t:=325) (e:=254) (n:=20) (by kernel_rfl) (by kernel_rfl) Tryz.underlying325 Tryz.underlying254 (by kernel_rfl) (by kernel_rfl) j,
  cell_of_shapedOpen_int (zero:=#[yB 0]) (t:=3) hs (M2 (by kernel_rfl)) (by kernel_rfl) rfl (by kernel_rfl) (by kernel_rfl) Ol,
  PJ (MX W ⟨10,0,MH⟩ (f 0 (by decide)))⟩
end
abbrev aCy:=Option Oc×Nat×List Ou
abbrev aC7(x:aCy):List Value:=[MG x.1 x.2.2.length x.2.1]
theorem aC8(x:aCy):(aC7 x).length=1:=rfl
theorem aC9(x:aCy):∀u∈aC7 x,u.oneCell'=true:=by
 intro u e;rw[List.mem_singleton.1 e];rfl
structure aEQ where
 u:Us
 p:Option Oc
 c:Nat
 xs:List aCy
def aEQ.own(V:aEQ)(g b:Nat):Prop:=b=g\/V.p.map (·.block)=MI b
def aEQ.off(V:aEQ)(base g b:Nat):Prop:=b<base\/V.own g b
structure aEP where
 last:Gt
 outs:List (List Ou)
def aEP.step(P:aEP)(e:Ev):aEP:=⟨(Xb P.last e).Ma,P.outs++[(Xb P.last e).out]⟩
structure aCv(P:aEP):Prop where
 wm:Wm P.last
 out:P.last.out=[]
def aER(V:aEQ)(P:aEP):List Value:=(XR V.u P.last).toList++[MG V.p V.xs.length V.c]
structure aCw(base:Nat)(w:MO)(g:Nat)(V:aEQ)(P:aEP):Prop where
 box:w.heap[g]?=MI (MP (aER V P).toArray 117 (0,0))
 low:base<=g
 eqs:V.xs.map (·.2.2)=P.outs
 rows:w.ownsRow base 62 1 (MG V.p V.xs.length V.c) V.xs.length (rv aC7 V.xs)
 og:V.p.map (·.block)≠MI g
 last:XG (V.off base g) w fun X=>Xd X V.u P.last
 all:∀x∈V.xs,XG (V.off base g) w fun X=>Xw Z1 X (MG x.1 x.2.2.length x.2.1) x.2.2
structure aCx(V V':aEQ)(g:Nat)(w w':MO):Prop where
 os:w'.os=w.os
 tape:w'.tape=w.tape
 output:w'.output=w.output
 size:w.heap.size<=w'.heap.size
 block:∀b,b<w.heap.size->¬V.own g b->w'.heap[b]?=w.heap[b]?
 ext:∀b,V'.own g b->V.own g b\/w.heap.size<=b
section
variable {base:Nat}{w w' w1 w2:MO}{g:Nat}{V V' V1 V2:aEQ}{P:aEP}
theorem aCw.lt(h:aCw base w g V P):g<w.heap.size:=(Array.getElem?_eq_some_iff.1 h.box).1
theorem aCx.F5(h:yA w w1):aCx V V g w w1:=⟨h.os,h.tape,h.output,h.size,fun b hb _=>h.block b hb,fun _ h=>Nt h⟩
theorem aCx.F0(h:aCx V V1 g w w1)(k:aCx V1 V2 g w1 w2):aCx V V2 g w w2 :=
 ⟨k.os.trans h.os,k.tape.trans h.tape,k.output.trans h.output,Nm h.size k.size,fun b hb hn=>(k.block b (M8 hb h.size) fun e=>by
  rcases h.ext b e with e|e
  ·exact hn e
  ·omega).trans (h.block b hb hn),fun b e=>by
  rcases k.ext b e with e|e
  ·exact h.ext b e
  ·exact NF (Nm h.size e)⟩
theorem aCw.Mb(h:aCw base w g V P){b:Nat}(hb:V.own g b):base<=b/\b<w.heap.size:=by
 rcases hb with rfl|e
 ·exact⟨h.low,h.lt⟩
 ·exact h.rows.lt b (by rw[XV];exact e)
theorem aCx.IT(h:aCx V V1 g w w1)(hP:aCw base w g V P)(hb:base<=w.heap.size):MQ base w w1 :=
 ⟨h.os,h.tape,h.output,h.size,fun b q=>h.block b (by omega) fun e=>by have:=(hP.Mb e).1;omega⟩
theorem aCw.below(h:aCw base w g V P)(hb:yA w w'):aCw base w' g V P :=
 ⟨(hb.block g h.lt).trans h.box,h.low,h.eqs,W8 h.rows fun b e=>hb.block b (h.rows.lt b e).2,h.og,h.last.below hb,fun q hq=>(h.all q hq).below hb⟩
theorem aCw.Mo(h:aCw base w g V P):w.rangeAt g 0 (XR V.u P.last).toList:=fun j v hv=>by
 have f:j<26:=(List.getElem?_eq_some_iff.1 hv).1;rw[MW w g (0+j) _ _ (0,0) h.box];have e:aER V P=(XR V.u P.last).toList++[MG V.p V.xs.length V.c]:=rfl;rw[List.getElem?_toArray,e,show 0+j=j by omega,OJ f];exact hv
theorem aCw.Ip(h:aCw base w g V P):w.cell? ⟨g,26,MH⟩=MI (MG V.p V.xs.length V.c):=by
 rw[MW w g 26 _ _ (0,0) h.box];rfl
theorem aCw.MC(h:aCw base w g V P)(U:Us)(G:Gt)(hG:XG (V.off base g) w fun X=>Xd X U G) :
  aCw base (w.setCells g 0 (XR U G).toList) g {V with u:=U} {P with last:=G}:=by
 have i:∀b,b<w.heap.size->b≠g->(w.setCells g 0 (XR U G).toList).heap[b]?=w.heap[b]?:=fun b f e=>N8 w g 0 _ f e
 have m:(w.setCells g 0 (XR U G).toList).heap.size=w.heap.size:=ac3 _ _ _ _;have j:∀ {p':MO->Prop},XG (V.off base g) w p'->XG (aEQ.off {V with u:=U} base g) (w.setCells g 0 (XR U G).toList) p':=fun hA =>
  hA.step (by rw[m];exact MV _) (fun b q1 q2=>i b q1 fun e=>q2 (NF (Nt e))) fun b q1 e=>e
 refine⟨?_,h.low,h.eqs,W8 h.rows fun b e=>i b (h.rows.lt b e).2 fun e2=>h.og (by rw[<-XV,e,e2]),h.og,j hG,fun x hx=>j (h.all x hx)⟩;have f:w.heap[g]?=MI (MP (([]:List M7)++((XR V.u P.last).toList++[MG V.p V.xs.length V.c])).toArray 117 (0,0)):=h.box;exact anx 117 g (XR U G).toList [] (XR V.u P.last).toList [MG V.p V.xs.length V.c] w rfl f
theorem aC3{u:MO}(U:Us)(vs:List M7):aCx V {V with u:=U} g u (u.setCells g 0 vs):=by
 have f:=adF (B:=0) (w0:=u) (g:=g) (MY 0 u) (Nx _) 0 vs (Nx _);exact⟨f.os,f.tape,f.output,f.size,fun b q1 q2=>N8 u g 0 _ q1 fun e=>q2 (Nt e),fun b e=>Nt e⟩
theorem aCw.MB(h:aCw base w g V P)(hs:w.heap.size<=w'.heap.size)(hb:∀b,b<w.heap.size->V.p.map (·.block)≠MI b->w'.heap[b]?=w.heap[b]?){p:Option Oc}{k:Nat}{x:aCy}
  (ho:w'.ownsRow base 62 1 (MG p (V.xs++[x]).length k) (V.xs++[x]).length (rv aC7 (V.xs++[x]))) (hp:∀b,p.map (·.block)=MI b->V.p.map (·.block)=MI b\/w.heap.size<=b)
  (hq:XG (V.off base g) w fun X=>Xw Z1 X (MG x.1 x.2.2.length x.2.1) x.2.2) :
  aCw base (w'.setCell ⟨g,26,MH⟩ (MG p (V.xs++[x]).length k)) g {V with p:=p,c:=k,xs:=V.xs++[x]} {P with outs:=P.outs++[x.2.2]}:=by
 have z:=(hb g h.lt h.og).trans h.box;have m:∀b,p.map (·.block)=MI b->b≠g:=fun b e e2=>by
  subst e2;rcases hp b e with e|e
  ·exact h.og e
  ·have:=h.lt;omega
 have j:∀b,b≠g->(w'.setCell ⟨g,26,MH⟩ (MG p (V.xs++[x]).length k)).heap[b]?=w'.heap[b]?:=fun b e=>MU _ _ _ _ (fun e2=>e e2)
 have u:(w'.setCell ⟨g,26,MH⟩ (MG p (V.xs++[x]).length k)).heap.size=w'.heap.size:=by simp
 have i:∀ {p':MO->Prop},XG (V.off base g) w p'->XG (aEQ.off {V with p:=p,c:=k,xs:=V.xs++[x]} base g) (w'.setCell ⟨g,26,MH⟩ (MG p (V.xs++[x]).length k)) p':=fun hA =>
  hA.step (by rw[u];exact hs) (fun b q1 q2=>(j b fun e=>q2 (NF (Nt e))).trans (hb b q1 fun e=>q2 (NF (NF e)))) fun b q1 e=>by
   rcases e with e|e|e
   ·exact Nt e
   ·exact NF (Nt e)
   ·exact(hp b e).elim (fun e=>NF (NF e)) fun e=>by omega
 refine⟨?_,h.low,by rw[OI,h.eqs];rfl,W8 ho fun b e=>j b (m b (by rw[<-XV];exact e)),fun e=>m g e rfl,i h.last,fun y f=>?_⟩
 ·exact YO z rfl
 ·rcases QF.1 f with f|f
  ·exact i (h.all y f)
  ·rw[List.mem_singleton.1 f];exact i hq
theorem aC0:(MK.info? 62).map (fun i=>(i.zero,i.size,i.bytes))=MI (MI (MG MH 0 0),1,24):=by kernel_rfl
theorem aDb(h:aCw base w g V P)(hl:V.xs.length<=100000)(x:aCy)(hq:XG (V.off base g) w fun X=>Xw Z1 X (MG x.1 x.2.2.length x.2.1) x.2.2) :
  ∃q c' w5,(Builtin.append_ #[73,73] 73 #[MG V.p V.xs.length V.c,MG (MI ⟨w.heap.size,0,MH⟩) 1 1]).run MK (w.alloc (MP #[MG x.1 x.2.2.length x.2.1] 62))=aE3 (MG (MI ⟨q,0,MH⟩) (V.xs.length+1) c') w5 /\
   (w5.cell? ⟨g,26,MH⟩=MI (MG V.p V.xs.length V.c)/\w5.frozen? ⟨g,26,MH⟩=Nb) /\
   aCw base (w5.setCell ⟨g,26,MH⟩ (MG (MI ⟨q,0,MH⟩) (V.xs.length+1) c')) g {V with p:=MI ⟨q,0,MH⟩,c:=c',xs:=V.xs++[x]} {P with outs:=P.outs++[x.2.2]} /\
   aCx V {V with p:=MI ⟨q,0,MH⟩,c:=c',xs:=V.xs++[x]} g w (w5.setCell ⟨g,26,MH⟩ (MG (MI ⟨q,0,MH⟩) (V.xs.length+1) c')):=by
 have z:base<=w.heap.size:=Nm h.low (PJ h.lt);obtain⟨q,c',w5,H,D,f,A⟩:=afC aC8 aC9 (by decide) aFv aC0 rfl (w:=w) (base:=base) h.rows z 73 x #[MG x.1 x.2.2.length x.2.1] rfl (by omega) (by unfold NE;omega);have i:∀b,b<w.heap.size->V.p.map (·.block)≠MI b->w5.heap[b]?=w.heap[b]?:=fun b hb hne=>f.block b hb (fun e=>hne (by rw[e,XV]))
 have m:=(i g h.lt h.og).trans h.box;have u:∀b,(MI (⟨q,0,MH⟩:Oc)).map (·.block)=MI b->V.p.map (·.block)=MI b\/w.heap.size<=b:=fun b e=>by
  cases e;rcases A with e|e
  ·exact Nt (by rw[<-XV _ V.xs.length V.c];exact e)
  ·exact NF (PJ e)
 have j:(V.xs++[x]).length=V.xs.length+1:=by simp
 have y:=h.MB (w':=w5) (p:=MI ⟨q,0,MH⟩) (k:=c') (x:=x) f.size i (by rw[j];exact D) u hq;rw[j]at y;refine⟨q,c',w5,H,⟨by rw[MW w5 g 26 _ _ (0,0) m];rfl,by simp[Ng,m]⟩,y,f.os,f.tape,f.output,by simp;exact f.size,fun b hb hn=>?_,fun b e=>?_⟩
 ·rw[MU _ _ _ _ (fun e=>hn (Nt e))]
  exact i b hb fun e=>hn (NF e)
 ·rcases e with e|e
  ·exact Nt (Nt e)
  ·exact(u b e).imp (fun e=>NF e) id
structure aCu(base:Nat)(X:MO)(g:Nat)(V:aEQ)(P:aEP)(h:Nat)(e:Ev):Prop where
 pat:aCw base X g V P
 evb:X.heap[h]?=MI (MP (aaV e).toArray 61 (0,0))
 blk:Xo X
theorem aCu.on{X:MO}{h:Nat}{e:Ev}(k:aCu base X g V P h e)(hb:yA X Y):aCu base Y g V P h e:=⟨k.pat.below hb,WO k.evb hb,k.blk.below hb⟩
theorem aCu.ev{X:MO}{h:Nat}{e:Ev}(k:aCu base X g V P h e):X.rangeAt h 0 (aaV e):=agb k.evb
structure aCt(base:Nat)(W u:MO)(g:Nat)(V:aEQ)(P:aEP)(h:Nat)(e:Ev)(b:Nat)(M:List M7)(U:Us)(po:Option Oc)(co:Nat):Prop where
 dos:aCu base u g V P h e
 mem:M=(XR U (Xb P.last e)).toList
 box:u.heap[b]?=MI (MP M.toArray 56 (0,0))
 low:W.heap.size<=b
 bel:yA W u
 ans:XG (V.off base g) u fun X=>Xd X U (Xb P.last e)/\Xw Z1 X (MG po (Xb P.last e).out.length co) (Xb P.last e).out
 lt:∀x,V.own g x->x<W.heap.size
 no:¬V.own g h
end
def aDP(n:Nat):List Nat:=if h:n<128 then [n]else(n % 128+128)::aDP (n / 128)
theorem aDU(n:Nat)(h:n<128):aDP n=[n]:=by rw[aDP,dif_pos h]
theorem aDR(n:Nat)(h:¬n<128):aDP n=(n % 128+128)::aDP (n / 128):=by rw[aDP,dif_neg h]
def aDQ(e:Ev):List Nat:=e.kind.toNat::((Zz e.kind).getD []).flatMap (fun f=>aDP (e.num f.off).toNat)
def aEH:List Nat->Nat
 | []=>0
 |x::t=>x % 128+128*aEH t
def aEf:Nat->List Nat->Nat
 |0,_=>0
 |_+1,[]=>0
 |k+1,x::t=>if 128<=x then aEf k t+1 else 0
abbrev Rd:=Sum Int (Nat×Nat)
def aES(l:List Nat):Rd :=
 if aEf 6 l=6/\6<l.length then aFy 2
 else if aEf 6 l=l.length then aFy 4
 else if l.getD (aEf 6 l) 0=0/\0<aEf 6 l then aFy 3
 else aFA (aEH (l.take (aEf 6 l+1)),aEf 6 l+1)
def aDY:List Xf->List Nat->Ev->Ev×Int
 | [],[],e=>(e,0)
 | [],_::_,_=>(Ev.Hi,3)
 |f::fs,l,e =>
  match aES l with
  | .inl c=>(Ev.Hi,c)
  | .inr (n,s)=>if f.lo<=(n:Int)/\(n:Int)<=f.hi then aDY fs (l.drop s) (e.Gd f.off n)else(Ev.Hi,2)
def aDE(l:List Nat):Ev×Int :=
 if 64<l.length then(Ev.Hi,1)
 else match l with
  | []=>(Ev.Hi,4)
  |k::t=>match Zz k with
   |none=>(Ev.Hi,5)
   |some fs=>aDY fs t {Ev.Hi with kind:=k}
def aEu:Ev->List Xf->List Int->Ev
 |e,f::fs,n::ns=>aEu (e.Gd f.off n) fs ns
 |e,_,_=>e
def Ev.aEX(e:Ev)(fs:List Xf):List Int:=fs.map fun f=>e.num f.off
theorem aEv(e:Ev)(fs:List Xf)(h:Zz e.kind=MI fs)(hw:fs.all e.GZ=Nw) :
  Nn (aEu {Ev.Hi with kind:=e.kind} fs (e.aEX fs)=e)=e.GE fs:=by
 obtain⟨k,m,slot,j,aEb,i,p,wt⟩:=e
 dsimp only at h
 rcases afx k with⟨_,f⟩|rfl|rfl|rfl|rfl|rfl|rfl|rfl
 ·rw[f]at h;cases h
 all_goals
  unfold Zz at h;simp at h;subst h;cases aEb <;> simp[aEu,Ev.aEX,Ev.num,Ev.Gd,Ev.GE,Ev.Gc,Ev.Hi,eq_comm]
theorem aEo{w w':MO}{base size:Nat}{xs:List M7}(h:w.ownsRow base t size v n xs)(hb:yA w w'):w'.ownsRow base t size v n xs :=
 h.kept (row:=MH) (awI hb) (Classical.em _)
theorem Tryz.aEY:(MK.info? 5).map (fun i=>(i.zero,i.size,i.bytes))=MI (MI (MF .u8 0),1,1):=by kernel_rfl
def aDA(l:List Nat):List Value:=l.map fun x=>MF .u8 ((x:Nat):Int)
theorem aEh{w:MO}{x:M7}(t:NU):∀j u,[x][j]?=MI u->(w.alloc (MP #[x] t)).cell? ((⟨w.heap.size,0,MH⟩:Oc).add j)=MI u:=by
 intro j u e
 match j,e with
 |0,e=>simp at e;subst e;simp[Addr.add]
theorem aEn:∀x:Nat,x<256->x |||128=x % 128+128:=by decide +kernel
theorem aEl(k:Nat):bits .or .u8 ((k:Int) % 256) 128=((k % 128+128:Nat):Int):=by
 have h:=u8_or_nat (k % 256) 128 (by omega) (by omega);rw[aEn _ (by omega),show k % 256 % 128=k % 128 by omega]at h;rw[<-h];congr 1
theorem aDT{w:MO}{base:Nat}{x m:Nat}{c:M7}(h:w.ownsRow base 5 1 v m (aDA l++[c]))(hm:m=l.length+1)(hc:c=MF .u8 ((x:Nat):Int)):w.ownsRow base 5 1 v (l++[x]).length (aDA (l++[x])):=by
 subst hm hc;simpa [aDA]using h
theorem aDy(base:Nat)(v:M7)(l:List Nat)(n:Nat)(w:MO)(hown:w.ownsRow base 5 1 v l.length (aDA l))(hbase:base<=w.heap.size)(hl:l.length<=1000)(hn:n<=4294967295) :
  Ni MK 17 #[v,yB (n:Int)] w fun r w'=>∃v',r=MN v'/\w'.ownsRow base 5 1 v' (l++aDP n).length (aDA (l++aDP n))/\MQ base w w':=by
 obtain⟨J,K,I,D,H⟩:=OF Tryz.aEY;go_enter Tryz.func17,Tryz.ntmps17;go_wp2
 go_loopw [0,1] (fun x i wr=>∃(k:Nat) (aEq:List Nat),k<=n/\i=yB (k:Int)/\aDP n=aEq++aDP k/\wr.ownsRow base 5 1 x (l++aEq).length (aDA (l++aEq))/\MQ base w wr/\aEq.length+k<=n) (fun _ i _=>(On i).toNat)
 case atStart=>exact⟨n,[],MV _,rfl,rfl,by simpa using hown,MY _ _,by simp⟩
 case round =>
  obtain⟨k,aEq,L,rfl,z,hown,f,O⟩:=hrel;have m:M6 (_/\_):=⟨z,f⟩;have A:base<=wr.heap.size:=by have:=f.size;omega
  clear z
  by_cases hlt:k<128
  ·have M:Nn ((128:Int)<=(k:Int))=false:=by simp;omega
   have j:M6 (k<128):=hlt;clear L hlt f
   go_wp2_with (at_builtin;refine wpList_append_own _ rfl _ _ 65 rfl base 5 J (MF .u8 0) 1 1 Tryz.underlying65 K I D H rfl (by decide) _ _ _ rfl (hown.alloc _) ⟨wr.heap.size,0,MH⟩ 1 1 [MF .u8 ((k:Int) % 256)] rfl rfl (aEh 5) (by intro u e;simp at e;subst e;rfl) (by unfold NE;simp;omega) (by simp;omega) (by simp;omega) ?_)
   intro v' w1 p y _;go_wp2;go_ret;refine⟨_,rfl,?_,?_⟩
   ·rw[m.out.1,aDU k j.out,<-OC]
    exact aDT p (by simp) (by have:=j.out;congr 1;omega)
   ·exact(m.out.2.alloc A _).grown y (by simp;omega) (fun k' hk'=>(hown.lt k' hk').1)
  ·have M:(128:Int)<=(k:Int):=by omega
   have N:=aEl k;have j:M6 (¬k<128):=hlt;clear f hlt
   go_wp2_with (at_builtin;refine wpList_append_own _ rfl _ _ 65 rfl base 5 J (MF .u8 0) 1 1 Tryz.underlying65 K I D H rfl (by decide) _ _ _ rfl (hown.alloc _) ⟨wr.heap.size,0,MH⟩ 1 1 [MF .u8 ((k % 128+128:Nat):Int)] rfl rfl (aEh 5) (by intro u e;simp at e;subst e;rfl) (by unfold NE;simp;omega) (by simp;omega) (by simp;omega) ?_)
   intro v' w1 p y _;go_wp2
   go_roundw
   case rel =>
    refine⟨k / 128,aEq++[k % 128+128],by omega,by go_num,?_,?_,?_,by simp;omega⟩
    ·rw[m.out.1,aDR k j.out,OC];rfl
    ·rw[<-OC];exact aDT p (by simp) (by congr 1)
    ·exact(m.out.2.alloc A _).grown y (by simp;omega) (fun k' hk'=>(hown.lt k' hk').1)
   case measure=>simp[On];omega
theorem aDS(n:Nat)(h:n<=4294967295):(aDP n).length<=5:=by
 by_cases h0:n<128
 ·rw[aDU n h0];simp
 rw[aDR n h0]
 by_cases h1:n / 128<128
 ·rw[aDU _ h1];simp
 rw[aDR _ h1]
 by_cases h2:n / 128 / 128<128
 ·rw[aDU _ h2];simp
 rw[aDR _ h2]
 by_cases h3:n / 128 / 128 / 128<128
 ·rw[aDU _ h3];simp
 rw[aDR _ h3,aDU _ (by omega)];simp
theorem aD9{k:Int}{fs:List Xf}(h:Zz k=MI fs):(1<=k/\k<=7)/\∀f,f∈fs->0<=f.lo/\f.hi<=4294967295:=by
 rcases afx k with⟨_,e⟩|rfl|rfl|rfl|rfl|rfl|rfl|rfl
 ·rw[e]at h;cases h
 all_goals (unfold Zz at h;simp at h;subst h;simp)
theorem aDX{e:Ev}(h:Yk e=0):∃fs,Zz e.kind=MI fs/\fs.all e.GZ=Nw/\e.GE fs=true:=by
 unfold Yk at h
 split at h
 ·omega
 ·rename_i fs hf
  by_cases h1:fs.all e.GZ=Nw
  ·rw[Nh h1]at h
   by_cases h2:e.GE fs=Nw
   ·exact⟨fs,hf,h1,h2⟩
   ·rw[Nf h2]at h;omega
  ·rw[Nf h1]at h;omega
theorem aEM{e:Ev}{fs:List Xf}(hf:Zz e.kind=MI fs)(hw:fs.all e.GZ=Nw):∀f,f∈fs->0<=e.num f.off/\e.num f.off<=4294967295:=by
 intro f i;have j:=List.all_eq_true.1 hw f i;simp only[Ev.GZ,decide_eq_true_eq]at j;have m:=(aD9 hf).2 f i;omega
def aEq(e:Ev)(fs:List Xf)(k:Nat):List Nat:=e.kind.toNat::(fs.take k).flatMap (fun f=>aDP (e.num f.off).toNat)
theorem aEt(e:Ev)(fs:List Xf)(k:Nat)(f:Xf)(h:fs.take (k+1)=fs.take k++[f]):aEq e fs (k+1)=aEq e fs k++aDP (e.num f.off).toNat:=by
 simp[aEq,h]
theorem aEr(e:Ev)(fs:List Xf)(h:Zz e.kind=MI fs):aEq e fs fs.length=aDQ e:=by simp[aEq,aDQ,h]
theorem aD8(e:Ev):∀(fs:List Xf),(∀f,f∈fs->0<=e.num f.off/\e.num f.off<=4294967295)->(fs.flatMap (fun f=>aDP (e.num f.off).toNat)).length<=5*fs.length
 | [],_=>by simp
 |f::fs,h=>by
  have i:=aD8 e fs (fun g hg=>h g (NB _ hg));have j:=aDS (e.num f.off).toNat (by have:=h f (NM ..);omega);simp only[S9,Ns,Ox];omega
theorem aEs(e:Ev)(fs:List Xf)(k:Nat)(hk:k<=fs.length)(h:∀f,f∈fs->0<=e.num f.off/\e.num f.off<=4294967295):(aEq e fs k).length<=5*k+1:=by
 have:=aD8 e (fs.take k) (fun f hf=>h f (aE1 hf));simp only[aEq,Ox];rw[NH,P1 hk]at this;omega
theorem aDW(e:Ev)(w:MO)(h:Yk e=0) :
  Ni MK 5 #[Ny #[yB e.kind,yB e.key,yB e.slot,yB e.gen,M3 e.good,yB e.req,yB e.be,yB e.wt]] w fun r w'=>∃v,r=MN (Nv #[v,yB 0])/\w'.ownsRow w.heap.size 5 1 v (aDQ e).length (aDA (aDQ e))/\yA w w':=by
 obtain⟨fs,y,N,e9⟩:=aDX h;have f3:=an3 y;have f6:=(aD9 y).1;have Z:=aEM y N;have u:M6 (_/\_/\_):=⟨y,Z,h⟩;clear N e9 Z;go_enter Tryz.func5,Tryz.ntmps5
 go_wp2_with fail
 refine(awv e _).mono ?_;rw[h];rintro r w1 ⟨rfl,D⟩;have H:YT w1 w.heap.size e:=YT.below (adS w _) D (by simp);clear h y
 go_wp2_with fail
 refine(an1 w.heap.size e fs _ H u.out.1).mono ?_;rintro r w0 ⟨v,rfl,z,j⟩;obtain⟨a,f8,rfl,b0⟩:=an8 j;have I:YT w0 w.heap.size e:=YT.below H z H.lt;have a8:yA w w0:=((MY _ _).alloc (MV _) _).trans ((ag1 D z).mono (by simp));have L:M6 (_/\_/\_):=⟨b0,a8,z⟩;clear j b0 z D a8;obtain⟨e0,e1,e2,e3,e4,e5,e6,e7⟩:=I.Jl;clear e1 e2 e3 e4 e5 e6 e7;have d9:=I.lt;go_wp2
 go_loopw [7,25] (fun x i wr=>∃k:Nat,k<=fs.length/\i=yB k/\wr.ownsRow w0.heap.size 5 1 x (aEq e fs k).length (aDA (aEq e fs k))/\yA w0 wr) (fun _ i _=>fs.length-(On i).toNat)
 case atStart =>
  refine⟨0,Nx _,rfl,?_,(MY _ _).alloc (MV _) _⟩;have:=ag2 (w:=w0) (base:=w0.heap.size) (n:=1) (e:=5) (size:=1) #[MF .u8 e.kind] (MV _) (by unfold NE;omega) rfl;have e':((e.kind.toNat:Nat):Int)=e.kind:=by omega
  simpa [aEq,aDA,e']using this
 case round =>
  obtain⟨k,hk,rfl,j,m⟩:=hrel;have f7:=aEs e fs k hk u.out.2.1
  by_cases hlt:k<fs.length
  ·have a0:fs[k]?=MI fs[k]:=MR hlt
   have A:fs.take (k+1)=fs.take k++[fs[k]]:=M9 hlt;have M:=an4 u.out.1 fs[k] (Nk hlt);have a6:=u.out.2.1 fs[k] (Nk hlt);generalize fs[k]=f at *;obtain⟨g,rfl,g1,g2,c0,c1,c2,c3⟩:=L.out.1 k f a0;have O:∀o,wr.cell? ⟨g,o,MH⟩=w0.cell? ⟨g,o,MH⟩:=fun o=>m.cell (p:=⟨g,o,MH⟩) g2
   rw[<-O]at c0 c1 c2 c3;have HT:M6 (_/\_):=⟨A,aEt e fs k f A⟩;clear a0 A O;have b9:=m.size;have hE:YT wr w.heap.size e:=I.below m d9;have a9:∀x,YT (wr.alloc x) w.heap.size e:=fun x=>by unfold YT;rw[Ov _ _ _ (by omega)];exact hE
   have HE:M6 (∀x,YT (wr.alloc x) w.heap.size e):=a9;clear a9 hE
   go_wp2_with fail
   refine(an5 w.heap.size f e _ (HE.out _) M.1 M.2).mono ?_;rintro r w2 ⟨rfl,J⟩;have b8:=aEo (j.alloc _) J;have a7:yA w0 w2:=(m.alloc b9 _).trans (J.mono (by simp;omega));have c9:=a7.size;obtain⟨n,K⟩:=Int.eq_ofNat_of_zero_le a6.1;have e8:M6 (aEq e fs (k+1)=aEq e fs k++aDP n):=by have h:=HT.out.2;rw[K,Int.toNat_natCast]at h;exact h
   rw[K];have d8:n<=4294967295:=by omega
   clear K a6 J
   go_wp2_with fail
   refine(aDy w0.heap.size _ (aEq e fs k) n _ b8 c9 (by omega) d8).mono ?_;rintro r w3 ⟨v',rfl,b7,f2⟩;go_wp2
   go_roundw
   case rel=>exact⟨k+1,by omega,by go_num,by rw[e8.out];exact b7,a7.trans f2⟩
   case measure=>simp[On];omega
  ·have:k=fs.length:=by omega
   subst this;rw[aEr e fs u.out.1]at j;go_wp2
   go_ret2
   have hs:=L.out.2.1.size;exact⟨_,rfl,j.mono hs,L.out.2.1.trans (m.mono hs)⟩
def aDr(w:MO)(v:M7)(l:List Nat):Prop :=
 ∃a cap,v=MG a l.length cap/\l.length<=cap/\(a=MH/\l=[]\/l=[]\/∃b off,a=MI ⟨b,off,MH⟩/\b<w.heap.size/\∀i,i<l.length->w.cell? ⟨b,off+i,MH⟩=MI (MF .u8 ((l.getD i 0:Nat):Int)))
theorem aDB{w:MO}{base:Nat}(h:w.ownsRow base 5 1 v l.length (aDA l)):aDr w v l:=by
 obtain⟨J,⟨rfl,e⟩|⟨g,u,y,rfl,D,f,e,H,I,z⟩⟩:=h
 ·have:=List.length_eq_zero_iff.1 e
  subst this;exact⟨MH,0,rfl,MV _,Nt ⟨rfl,rfl⟩⟩
 ·refine⟨_,u,rfl,e,NF (NF ⟨g,0,rfl,?_,fun i hi=>?_⟩)⟩
  ·rcases Oq g w.heap.size with m|p
   ·exact m
   ·rw[Array.getElem?_eq_none p]at f;cases f
  ·have j:(aDA l)[i]?=MI (MF .u8 ((l.getD i 0:Nat):Int)):=by
    simp[aDA,aEZ,MR hi,Pq]
   rw[<-z,List.getElem?_take_of_lt (by omega)]at j;have A:y[i]?=MI (MF .u8 ((l.getD i 0:Nat):Int)):=by simpa using j
   simp only[Nl,f,Oa]
   simpa using A
theorem aEj(n:Nat)(h:n<18446744073709551616):(BitVec.ofInt 64 (n:Int)).toNat=n:=by
 rw[BitVec.ofInt_natCast,BitVec.toNat_ofNat];exact Nat.mod_eq_of_lt h
theorem aEm(a b:Nat)(ha:a<2 ^ 62)(hb:b<2 ^ 62):bits .or ME (a:Int) (b:Int)=((a |||b:Nat):Int):=by
 show IntKind.i64.wrap ((BitVec.ofInt 64 (a:Int) |||BitVec.ofInt 64 (b:Int)).toNat:Int)=_;rw[BitVec.toNat_or,aEj a (by omega),aEj b (by omega)];have:=Nat.or_lt_two_pow ha hb;simp only[IntKind.wrap,IntKind.bits,IntKind.signed];simp;omega
theorem aEi:∀x:Nat,x<256->x &&& (255-128)=x % 128:=by decide +kernel
theorem aDx:∀x:Nat,x<256->x &&& 128=if 128<=x then 128 else 0:=by decide +kernel
theorem aEp(k:Nat):(2:Nat) ^ (k*7)=128 ^ k:=by rw[R5,Nat.pow_mul]
theorem aDw(n x k:Nat)(hn:n<128 ^ k)(hk:k<6)(hx:x<256) :
  bits .or ME (n:Int) (wrap64 (wrap64 (bits .andNot .u8 (x:Int) 128)*2 ^ (k*7)))=((n+x % 128*128 ^ k:Nat):Int):=by
 have p:bits .andNot .u8 (x:Int) 128=((x % 128:Nat):Int):=by
  have:=u8_andNot_nat x 128 hx (by omega);rw[aEi x hx]at this;exact this
 have e:128 ^ k<=128 ^ 5:=Nat.pow_le_pow_right (by omega) (by omega);have u:x % 128<128:=by omega
 generalize x % 128=y at *;have A:y*128 ^ k<2 ^ 43:=by
  calc y*128 ^ k<=127*128 ^ 5:=Nat.mul_le_mul (by omega) e
   _<2 ^ 43:=by decide
 have f:wrap64 ((y:Nat):Int)=y:=by unfold wrap64;omega
 have j:((y:Nat):Int)*2 ^ (k*7)=((y*128 ^ k:Nat):Int):=by rw[<-aEp];simp
 have m:wrap64 ((y*128 ^ k:Nat):Int)=((y*128 ^ k:Nat):Int):=by generalize y*128 ^ k=z at *;unfold wrap64;omega
 rw[p,f,j,m,aEm n _ (by omega) (by omega)]
 congr 1
 have:=Nat.two_pow_add_eq_or_of_lt (i:=k*7) (b:=n) (by rw[aEp];exact hn) y;rw[aEp]at this;rw[Nat.or_comm,R5 y,<-this];omega
theorem aEI:∀(l:List Nat),aEH l<128 ^ l.length
 | []=>by simp[aEH]
 |x::t=>by
  have:=aEI t;simp only[aEH,Ox,Nat.pow_succ];omega
theorem aEJ:∀(l:List Nat) (x:Nat),aEH (l++[x])=aEH l+x % 128*128 ^ l.length
 | [],x=>by simp[aEH]
 |y::t,x=>by
  simp only[aE2,aEH,aEJ t x,Ox,Nat.pow_succ,Nat.mul_add,<-aE4]
  congr 1
  rw[Nat.mul_left_comm,R5 128]
theorem aEa(l:List Nat)(k:Nat)(h:k<l.length):l.getD k 0=l[k]:=by simp[Pq,MR h]
theorem aEg:∀(f:Nat) (l:List Nat) (k:Nat),k<=f->k<=l.length->(∀j,j<k->128<=l.getD j 0)->(k=f\/k=l.length\/l.getD k 0<128)->aEf f l=k
 |0,l,k,h1,h2,h3,h4=>by simp[aEf];omega
 |f+1,[],k,h1,h2,h3,h4=>by simp at h2;simp[aEf,h2]
 |f+1,x::t,0,h1,h2,h3,h4=>by
  have:x<128:=by
   rcases h4 with h|h|h
   ·omega
   ·simp at h
   ·simpa using h
  rw[aEf,Nf (by omega)]
 |f+1,x::t,k+1,h1,h2,h3,h4=>by
  have e:128<=x:=by simpa using h3 0 (by omega)
  rw[aEf,Nh e,aEg f t k (by omega) (by simpa using h2) (fun j hj=>by simpa using h3 (j+1) (by omega))];rcases h4 with h|h|h
  ·exact Nt (by omega)
  ·exact NF (Nt (by simpa using h))
  ·exact NF (NF (by simpa using h))
theorem aEE(l:List Nat)(hl:6<l.length)(h:∀j,j<6->128<=l.getD j 0):aES l=aFy 2:=by
 have:=aEg 6 l 6 (by omega) (by omega) h (Nt rfl);unfold aES;rw[this,Nh ⟨rfl,hl⟩]
theorem aEG(l:List Nat)(hl:l.length<=6)(h:∀j,j<l.length->128<=l.getD j 0):aES l=aFy 4:=by
 have:=aEg 6 l l.length hl (by omega) h (NF (Nt rfl));unfold aES;rw[this,Nf (by omega),Nh rfl]
theorem aEC(l:List Nat)(k:Nat)(hk:k<=6)(hl:k<l.length)(h:∀j,j<k->128<=l.getD j 0)(h0:l.getD k 0=0)(hp:0<k)(h6:k<6):aES l=aFy 3:=by
 have:=aEg 6 l k (by omega) (by omega) h (NF (NF (by omega)));unfold aES;rw[this,Nf (by omega),Nf (by omega),Nh ⟨h0,hp⟩]
theorem aED(l:List Nat)(k:Nat)(hl:k<l.length)(h:∀j,j<k->128<=l.getD j 0)(h0:l.getD k 0<128)(hn:¬(l.getD k 0=0/\0<k))(h6:k<6):aES l=aFA (aEH (l.take (k+1)),k+1):=by
 have:=aEg 6 l k (by omega) (by omega) h (NF (NF h0));unfold aES;rw[this,Nf (by omega),Nf (by omega),Nf hn]
theorem aEK(l:List Nat)(k:Nat)(h:k<l.length):aEH (l.take (k+1))=aEH (l.take k)+l.getD k 0 % 128*128 ^ k:=by
 rw[M9 h,aEJ,aEa l k h,NH,P1 (by omega)]
theorem aEL(l:List Nat)(k:Nat)(h:k<=l.length):aEH (l.take k)<128 ^ k:=by
 have:=aEI (l.take k);rwa[NH,P1 h]at this
def aDv(l:List Nat)(w:MO)(r:Ending)(w':MO):Prop :=
 (∀c,aES l=aFy c->r=MN (Nv #[yB 0,yB 0,yB c]))/\(∀n s,aES l=aFA (n,s)->r=MN (Nv #[yB (n:Int),yB (s:Int),yB 0]))/\w'=w
theorem aEw{w:MO}{c:Int}(h:aES l=aFy c):aDv l w (MN (Nv #[yB 0,yB 0,yB c])) w :=
 ⟨fun c' h'=>(by rw[h]at h';cases h';rfl),fun n s h'=>(by rw[h]at h';cases h'),rfl⟩
theorem aEx{w:MO}{a b:Int}(h:aES l=aFA (n,s))(ha:a=n)(hb:b=s):aDv l w (MN (Nv #[yB a,yB b,yB 0])) w :=
 ⟨fun c' h'=>(by rw[h]at h';cases h'),fun n s h'=>(by rw[h]at h';cases h';rw[ha,hb]),rfl⟩
theorem aEy(b off cap:Nat)(l:List Nat)(w:MO)(hl:l.length<=64)(hx:∀x∈l,x<256)(hcell:∀i,i<l.length->w.cell? ⟨b,off+i,MH⟩=MI (MF .u8 ((l.getD i 0:Nat):Int))) :
  Ni MK 355 #[MG (MI ⟨b,off,MH⟩) l.length cap] w (aDv l w):=by
 have L:M6 (_/\_):=⟨hcell,hx⟩;clear hcell hx;go_enter Tryz.func355,Tryz.ntmps355;go_wp2
 go_loop [5,10] (fun s i=>∃k:Nat,k<=l.length/\k<=6/\i=yB (k:Int)/\s=yB ((aEH (l.take k):Nat):Int)/\∀j,j<k->128<=l.getD j 0) (fun _ i=>l.length-(On i).toNat)
 case atStart=>exact⟨0,Nx _,by omega,rfl,rfl,fun j h=>by omega⟩
 case round =>
  obtain⟨k,hk,H,rfl,rfl,f⟩:=hrel
  by_cases hlt:k<l.length
  ·have K:=L.out.1 k hlt
   have m:l.getD k 0<256:=by rw[aEa l k hlt];exact L.out.2 _ (Nk hlt)
   have z:=aEK l k hlt;have I:=aEL l k (by omega);have N:M6 (∃x,x=l.getD k 0):=⟨_,rfl⟩;obtain⟨x,u⟩:=N.out;rw[<-u]at K m z;generalize aEH (l.take k)=n at *;have e:M6 (_/\_/\_/\_):=⟨f,u,z,I⟩;clear f u z I N
   by_cases h6:k=6
   ·subst h6
    go_wp2
    go_ret3
    exact aEw (aEE l hlt e.out.1)
   ·have a6:((k:Int) == 6)=false:=by simp;omega
    have y:k<6:=by omega
    have p:=aDw n x k e.out.2.2.2 y m;rw[<-e.out.2.2.1]at p;have D:bits .and .u8 (x:Int) 128=(((if 128<=x then 128 else 0):Nat):Int):=by
     have:=u8_and_nat x 128 m (by omega);rw[aDx x m]at this;exact this
    have A:M6 (_/\_):=⟨p,h6⟩;clear p h6
    by_cases hx1:128<=x
    ·rw[Nh hx1]at D
     go_wp2
     go_round
     case rel =>
      refine⟨k+1,by omega,by omega,by go_num,by rw[A.out.1],fun j hj=>?_⟩
      by_cases hjk:j<k
      ·exact e.out.1 j hjk
      ·have:j=k:=by omega
       subst this;rw[<-e.out.2.1];exact hx1
     case measure=>simp[On];omega
    ·rw[Nf hx1]at D
     by_cases hx0:x=0/\0<k
     ·obtain⟨rfl,a0⟩:=hx0
      have a7:(0:Int)<(k:Int):=by omega
      go_wp2
      go_ret3
      exact aEw (aEC l k H hlt e.out.1 e.out.2.1.symm a0 y)
     ·have J:=aED l k hlt e.out.1 (by rw[<-e.out.2.1];omega) (by rw[<-e.out.2.1];exact hx0) y
      have M:M6 (aES l=aFA (aEH (List.take (k+1) l),k+1)):=J;clear J
      by_cases hxz:x=0
      ·subst hxz
       have O:k=0:=by omega
       subst O;simp only[Oe]at K;clear a6 hx0;go_wp2
       go_ret3
       exact aEx M.out (by have h:=A.out.1;rw[Nat.zero_mul,Int.pow_zero,Int.mul_one]at h;exact h) rfl
      ·have a8:((x:Int) == 0)=false:=by simp;omega
       clear hx0;go_wp2
       go_ret3
       exact aEx M.out A.out.1 (by simp)
  ·have Z:k=l.length:=by omega
   subst Z;have HS:M6 (aES l=aFy 4):=aEG l H f;clear f;go_wp2
   go_ret3
   exact aEw HS.out
theorem aEA(a:Option Oc)(cap:Nat)(w:MO):Ni MK 355 #[MG a 0 cap] w (aDv [] w):=by
 have e:M6 (aES []=aFy 4):=rfl;go_enter Tryz.func355,Tryz.ntmps355;go_wp2
 go_loop [5,10] (fun s i=>i=yB 0) (fun _ i=>0)
 case atStart=>rfl
 case round =>
  subst hrel;go_wp2
  go_ret3
  exact aEw e.out
theorem aEF(h:aES l=aFA (n,s)):1<=s/\s<=l.length/\s<=6/\n<128 ^ 6:=by
 unfold aES at h;have i:∀(f:Nat) (l:List Nat),aEf f l<=f/\aEf f l<=l.length:=by
  intro f
  induction f with
  |zero=>intro l;simp[aEf]
  |succ f ih =>
   intro l;cases l with
   |nil=>simp[aEf]
   |cons x t =>
    unfold aEf
    split
    ·have:=ih t;simp;omega
    ·simp
 have j:=i 6 l
 split at h
 ·cases h
 ·split at h
  ·cases h
  ·split at h
   ·cases h
   ·rename_i h1 h2 h3
    cases h;have e:aEf 6 l+1<=l.length:=by omega
    refine⟨by omega,e,by omega,?_⟩;have:=aEL l (aEf 6 l+1) e;exact M8 this (Nat.pow_le_pow_right (by omega) (by omega))
def aDs(w:MO)(v:M7)(l:List Nat)(be:Nat):Prop :=
 ∃a cap,v=MG a l.length cap/\l.length<=cap/\(l=[]\/∃b off,a=MI ⟨b,off,MH⟩/\b<w.heap.size/\b≠be/\∀i,i<l.length->w.cell? ⟨b,off+i,MH⟩=MI (MF .u8 ((l.getD i 0:Nat):Int)))
theorem aDD{w:MO}{b off cap be:Nat}(hc:l.length<=cap)(hb:b<w.heap.size)(hne:b≠be)(h:∀i,i<l.length->w.cell? ⟨b,off+i,MH⟩=MI (MF .u8 ((l.getD i 0:Nat):Int)))(hs:s<=l.length):
  aDs w (MG (if cap=s then MI ⟨b,off,MH⟩else MI ⟨b,off+s,MH⟩) (l.length-s) (cap-s)) (l.drop s) be:=by
 refine⟨_,_,by rw[NJ],by rw[NJ];omega,?_⟩
 by_cases hl:s=l.length
 ·exact Nt (by rw[hl];simp)
 ·refine NF ⟨b,off+s,by rw[Nf (by omega)],hb,hne,fun i hi=>?_⟩
  rw[NJ]at hi;rw[aE4,h (s+i) (by omega)];simp[Pq]
theorem aDC{w:MO}{be:Nat}(h:aDs w v l be){wr:MO}(hg:w.grownBy wr (MI be))(hl:l.length<=64)(hx:∀x∈l,x<256):
  Ni MK 355 #[v] wr (aDv l wr):=by
 obtain⟨a,e,rfl,p,rfl|⟨b,off,rfl,j,f,m⟩⟩:=h
 ·exact aEA a e wr
 ·exact aEy b off e l wr hl hx (fun i hi=>by rw[hg.cell_far ⟨b,off+i,MH⟩ j (by simpa using f)];exact m i hi)
def aDu(fs:List Xf)(l:List Nat)(e:Ev)(be:Nat)(w:MO)(r:Ending)(w':MO):Prop :=
 r=MN (yB (aDY fs l e).2)/\w.grownBy w' (MI be)/\((aDY fs l e).2=0->YT w' be (aDY fs l e).1)
theorem aD4(e:Ev):aDY [] [] e=(e,0):=by rw[aDY]
theorem aD3(x:Nat)(t:List Nat)(e:Ev):aDY [] (x::t) e=(Ev.Hi,3):=by rw[aDY]
theorem aD0(f:Xf)(fs:List Xf)(l:List Nat)(e:Ev)(c:Int)(h:aES l=aFy c):aDY (f::fs) l e=(Ev.Hi,c):=by rw[aDY,h]
theorem aD5(f:Xf)(fs:List Xf)(l:List Nat)(e:Ev)(n s:Nat)(h:aES l=aFA (n,s))(hn:¬(f.lo<=(n:Int)/\(n:Int)<=f.hi)):aDY (f::fs) l e=(Ev.Hi,2):=by rw[aDY,h];simp only[];rw[Nf hn]
theorem aD2(f:Xf)(fs:List Xf)(l:List Nat)(e:Ev)(n s:Nat)(h:aES l=aFA (n,s))(hn:f.lo<=(n:Int)/\(n:Int)<=f.hi):aDY (f::fs) l e=aDY fs (l.drop s) (e.Gd f.off n):=by rw[aDY,h];simp only[];rw[Nh hn]
theorem aEz{c:Int}(h:aES l=aFy c):c≠0:=by
 unfold aES at h
 split at h
 ·cases h;decide
 ·split at h
  ·cases h;decide
  ·split at h
   ·cases h;decide
   ·cases h
theorem aDZ(be:Nat)(a:Option Oc)(cap:Nat)(v:M7)(fs:List Xf)(l:List Nat)(e:Ev)(w:MO)(hoff:∀f,f∈fs->1<=f.off/\f.off<=7)(hf3:fs.length<=3)(hE:YT w be e)(hl:l.length<=64)(hx:∀x∈l,x<256)
  (hat:∀k f,fs[k]?=MI f->∃g,a=MI ⟨g,0,MH⟩/\g≠be/\g<w.heap.size/\w.cell? ⟨g,k*4,MH⟩=MI (Na (pp be f))/\w.cell? ⟨g,k*4+1,MH⟩=MI (Na (pq be f))/\w.cell? ⟨g,k*4+2,MH⟩=MI (yB f.lo)/\w.cell? ⟨g,k*4+3,MH⟩=MI (yB f.hi))
  (hv:aDs w v l be) :
  Ni MK 354 #[MG a fs.length cap,v] w (aDu fs l e be w):=by
 have HH:M6 (_/\_/\_):=⟨hat,hoff,hx⟩;clear hat hoff hx;go_enter Tryz.func354,Tryz.ntmps354;go_wp2
 go_loopw [1,12] (fun u i wr=>∃(k:Nat) (A:List Nat) (H:Ev),k<=fs.length/\i=yB (k:Int)/\aDY fs l e=aDY (fs.drop k) A H/\aDs w u A be/\YT wr be H/\w.grownBy wr (MI be)/\A.length<=64/\∀x∈A,x<256) (fun _ i _=>fs.length-(On i).toNat)
 case atStart=>exact⟨0,l,e,Nx _,rfl,rfl,hv,hE,⟨rfl,rfl,rfl,MV _,fun _ _ _=>rfl⟩,hl,HH.out.2.2⟩
 case round =>
  obtain⟨k,A,H,hk,rfl,y,c9,Z,I,f8,b0⟩:=hrel;have D:M6 (_/\_/\_/\_):=⟨y,c9,b0,hv⟩;clear y c9 b0 hv;have i5:=I.size;have f7:=Z.lt
  by_cases hlt:k<fs.length
  ·have N:fs[k]?=MI fs[k]:=MR hlt
   have b9:fs.drop k=fs[k]::fs.drop (k+1):=List.drop_eq_getElem_cons hlt;have b8:=HH.out.2.1 fs[k] (Nk hlt);generalize fs[k]=f at *;obtain⟨g,rfl,g1,g2,c0,c1,c2,c3⟩:=HH.out.1 k f N;have a8:∀o,wr.cell? ⟨g,o,MH⟩=w.cell? ⟨g,o,MH⟩:=fun o=>I.cell_far ⟨g,o,MH⟩ g2 (by simpa using g1)
   rw[<-a8]at c0 c1 c2 c3;have HT:M6 (_/\_):=⟨b9,N⟩;clear N b9 a8;have b7:∀x,w.grownBy (wr.alloc x) (MI be):=fun x=>an7 I (awI ((MY _ _).alloc (MV _) _))
   have K:M6 (_/\_):=⟨b7,I⟩;clear b7 I;have a7:=aDC D.out.2.1 (K.out.1 (MP #[Na (pp be f),Na (pq be f),yB f.lo,yB f.hi] 94)) f8 D.out.2.2.1;have HN:M6 _:=a7;clear a7
   go_wp2_with fail
   refine Nd HN.out ?_;rintro r w1 ⟨L,M,rfl⟩;cases hrd:aES A with
   |inl c =>
    obtain rfl:=L c hrd;have O:=aEz hrd;have f9:(c != 0)=true:=by rw[bne_iff_ne];exact O
    have J:aDY fs l e=(Ev.Hi,c):=by rw[D.out.1,HT.out.1,aD0 _ _ _ _ _ hrd]
    have j:M6 (_/\_):=⟨J,O⟩;clear L M hrd J O;go_wp2;go_ret;refine⟨by rw[j.out.1];rfl,K.out.1 _,fun h=>absurd h (by rw[j.out.1];exact j.out.2)⟩
   |inr q =>
    obtain⟨n,s⟩:=q;obtain rfl:=M n s hrd;obtain⟨s1,s2,s6,n6⟩:=aEF hrd;obtain⟨a',a6,rfl,a9,d9|⟨b,off,rfl,hb,d8,a0⟩⟩:=D.out.2.1
    ·rw[d9]at s2;simp at s2;omega
    ·have j:M6 (_/\_):=⟨hrd,a0⟩
     clear L M hrd a0 HN;have i7:(0:Int)<=(s:Int):=by omega
     have i6:(s:Int)<=(A.length:Int):=by omega
     have i4:(A.length:Int)<=(a6:Int):=by omega
     by_cases hin:f.lo<=(n:Int)/\(n:Int)<=f.hi
     ·go_wp2_with fail
      refine(awP _ _ f.lo f.hi (n:Int) _ hin.1 hin.2).mono ?_;rintro r w2 ⟨rfl,z⟩;have e9:YT w2 be H:=YT.below (b:=be) (by unfold YT;rw[Ov _ _ _ f7];exact Z) z (by simp;omega);have n0:w2.cell? ⟨wr.heap.size,0,MH⟩=MI (Na (pp be f)):=by rw[z.cell (p:=⟨wr.heap.size,0,MH⟩) (by simp)];simp
      have n1:w2.cell? ⟨wr.heap.size,1,MH⟩=MI (Na (pq be f)):=by rw[z.cell (p:=⟨wr.heap.size,1,MH⟩) (by simp)];simp
      have n2:w2.cell? ⟨wr.heap.size,2,MH⟩=MI (yB f.lo):=by rw[z.cell (p:=⟨wr.heap.size,2,MH⟩) (by simp)];simp
      have n3:w2.cell? ⟨wr.heap.size,3,MH⟩=MI (yB f.hi):=by rw[z.cell (p:=⟨wr.heap.size,3,MH⟩) (by simp)];simp
      have f3:M6 (w.grownBy w2 (MI be)):=an7 (K.out.1 _) (awI z);clear z
      go_wp2_with fail
      refine(awL be f H (n:Int) _ e9 b8.1 b8.2).mono ?_;rintro r w3 ⟨rfl,f6,e8⟩;clear n0 n1 n2 n3;go_wp2;refine⟨⟨k+1,A.drop s,H.Gd f.off n,by omega,by go_num,?_,aDD a9 hb d8 j.out.2 s2,f6,an7 f3.out e8,by rw[NJ];omega,fun x hx=>D.out.2.2.1 x (aE5 hx)⟩,by simp[On];omega⟩;rw[D.out.1,HT.out.1,aD2 _ _ _ _ _ _ j.out.1 hin]
     ·go_wp2_with fail
      refine(awO _ _ f.lo f.hi (n:Int) _ hin).mono ?_;rintro r w2 ⟨rfl,z⟩;have J:aDY fs l e=(Ev.Hi,2):=by rw[D.out.1,HT.out.1,aD5 _ _ _ _ _ _ j.out.1 hin]
      have HQ:M6 (_/\_):=⟨J,an7 (K.out.1 _) (awI z)⟩;clear J z;go_wp2;go_ret;refine⟨by rw[HQ.out.1];rfl,HQ.out.2,fun h=>absurd h (by rw[HQ.out.1];decide)⟩
  ·have f2:k=fs.length:=by omega
   subst f2;have y:=D.out.1;rw[List.drop_length]at y;obtain⟨a',a6,rfl,a9,_⟩:=D.out.2.1;cases A with
   |nil =>
    rw[aD4]at y;have j:M6 (aDY fs l e=(H,0)):=y;clear y;go_wp2;go_ret;exact⟨by rw[j.out];rfl,I,fun _=>by rw[j.out];exact Z⟩
   |cons x t =>
    rw[aD3]at y;have j:M6 (aDY fs l e=(Ev.Hi,3)):=y;clear y;have g9:(0:Int)<((x::t).length:Int):=by simp only[Ox];omega
    generalize (x::t).length=m at *;go_wp2;go_ret;exact⟨by rw[j.out];rfl,I,fun h=>absurd h (by rw[j.out];decide)⟩
theorem aEd(w:MO)(A B:Obj):((w.alloc A).alloc B).heap[w.heap.size+1]?=MI B:=by have:=adS (w.alloc A) B;simpa using this
theorem aEc(w:MO)(A B:Obj):((w.alloc A).alloc B).heap[w.heap.size]?=MI A:=by rw[Ov _ _ _ (by simp)];exact adS w A
def aDt(l:List Nat)(w:MO)(r:Ending)(w':MO):Prop :=
 r=MN (Nv #[Ny (afw (aDE l).1),yB (aDE l).2])/\yA w w'
theorem aDz:afw Ev.Hi=#[yB 0,yB 0,yB 0,yB 0,M3 Nb,yB 0,yB 0,yB 0]:=rfl
theorem aDH(l:List Nat)(h:64<l.length):aDE l=(Ev.Hi,1):=by unfold aDE;rw[Nh h]
theorem aDG(k:Nat)(t:List Nat)(h:¬64<(k::t).length)(hk:Zz k=MH):aDE (k::t)=(Ev.Hi,5):=by unfold aDE;rw[Nf h];simp only[hk]
theorem aDI(k:Nat)(t:List Nat)(fs:List Xf)(h:¬64<(k::t).length)(hk:Zz k=MI fs):aDE (k::t)=aDY fs t {Ev.Hi with kind:=(k:Int)}:=by unfold aDE;rw[Nf h];simp only[hk]
theorem aD6:∀(fs:List Xf) (l:List Nat) (e:Ev),(aDY fs l e).2≠0->(aDY fs l e).1=Ev.Hi
 | [],[],e,h=>by rw[aD4]at h;exact absurd rfl h
 | [],x::t,e,h=>by rw[aD3]
 |f::fs,l,e,h=>by
  cases hrd:aES l with
  |inl c=>rw[aD0 _ _ _ _ _ hrd]
  |inr q =>
   obtain⟨n,s⟩:=q
   by_cases hin:f.lo<=(n:Int)/\(n:Int)<=f.hi
   ·rw[aD2 _ _ _ _ _ _ hrd hin]at h⊢;exact aD6 _ _ _ h
   ·rw[aD5 _ _ _ _ _ _ hrd hin]
theorem aDM(a:Option Oc)(len cap:Nat)(l:List Nat)(w:MO)(hl:l.length=len)(h:64<len)(hm:len<=NE) :
  Ni MK 352 #[MG a len cap] w (aDt l w):=by
 have e:M6 (aDE l=(Ev.Hi,1)):=aDH l (by omega);have f:(64:Int)<(len:Int):=by omega
 unfold NE at hm;clear h hl;go_enter aFm,aFk;go_wp2;refine Np (v:=Nv #[Ny (afw Ev.Hi),yB 1]) (by simp[Pf,aE9,go_sem,aDz]) rfl ⟨by rw[e.out],?_⟩;exact(MY _ _).alloc (MV _) _
theorem aDN(a:Option Oc)(cap:Nat)(w:MO) :
  Ni MK 352 #[MG a 0 cap] w (aDt [] w):=by
 go_enter aFm,aFk;go_wp2;refine Np (v:=Nv #[Ny (afw Ev.Hi),yB 4]) (by simp[Pf,aE9,go_sem,aDz]) rfl ⟨rfl,?_⟩;exact(MY _ _).alloc (MV _) _
theorem aDL(b off cap len k:Nat)(t:List Nat)(w:MO)(hl:(k::t).length=len)(h:len<=64)(hk:Zz k=MH)(hkb:k<256)(hc0:w.cell? ⟨b,off,MH⟩=MI (MF .u8 (k:Int))) :
  Ni MK 352 #[MG (MI ⟨b,off,MH⟩) len cap] w (aDt (k::t) w):=by
 have i:M6 (aDE (k::t)=(Ev.Hi,5)):=aDG k t (by omega) hk;have j:b<w.heap.size:=MX w _ hc0;have f:(k:Int)<1\/7<(k:Int):=by
  rcases afx (k:Int)with⟨e,_⟩|e|e|e|e|e|e|e
  ·exact e
  all_goals (rw[e]at hk;simp[Zz]at hk)
 have e:Nn ((64:Int)<(len:Int))=false:=by simp;omega
 have p:((len:Int) == 0)=false:=by simp at hl;simp;omega
 have u:(0:Int)<(len:Int):=by simp at hl;omega
 have m:M6 (_/\_):=⟨hl,h⟩;clear hl h hk;go_enter aFm,aFk
 go_wp2_with fail
 refine(awF (w.heap.size+1) {Ev.Hi with kind:=(k:Int)} _ (aEd w _ _) f).mono ?_;rintro r w0 ⟨rfl,rfl⟩;clear f;go_wp2;refine Np (v:=Nv #[Ny (afw Ev.Hi),yB 5]) (by simp[Pf,aE9,go_sem,aDz]) rfl ⟨by rw[i.out],?_⟩;exact((MY _ _).alloc (MV _) _).alloc (by simp) _
theorem aDO(b off cap len k:Nat)(t:List Nat)(fs:List Xf)(w:MO)(hl:(k::t).length=len)(h:len<=64)(hcap:len<=cap)(hk:Zz k=MI fs)(hx:∀x∈k::t,x<256)
  (hcell:∀i,i<(k::t).length->w.cell? ⟨b,off+i,MH⟩=MI (MF .u8 (((k::t).getD i 0:Nat):Int))) :
  Ni MK 352 #[MG (MI ⟨b,off,MH⟩) len cap] w (aDt (k::t) w):=by
 have b8:w.cell? ⟨b,off,MH⟩=MI (MF .u8 (k:Int)):=by simpa using hcell 0 (by simp)
 have i5:k<256:=hx k (NM ..);have d9:b<w.heap.size:=MX w _ b8;have h1:Nn ((64:Int)<(len:Int))=false:=by simp;omega
 have h2:((len:Int) == 0)=false:=by simp at hl;simp;omega
 have h3:(1:Int)<=(len:Int):=by simp at hl;omega
 have i6:(0:Int)<(len:Int):=by simp at hl;omega
 have h4:(len:Int)<=(cap:Int):=by omega
 have HD:M6 (aDE (k::t)=aDY fs t {Ev.Hi with kind:=(k:Int)}):=aDI k t fs (by omega) hk;have j:M6 (_/\_/\_/\_/\_):=⟨hl,h,hk,hx,hcell⟩;have b9:=an3 hk;clear hl h hk hx hcell;go_enter aFm,aFk
 go_wp2_with fail
 refine(an1 (w.heap.size+1) {Ev.Hi with kind:=(k:Int)} fs _ (aEd w _ _) j.out.2.2.1).mono ?_;rintro r w0 ⟨v,rfl,m,O⟩;obtain⟨a,y,rfl,K⟩:=an8 O;have J:YT w0 (w.heap.size+1) {Ev.Hi with kind:=(k:Int)}:=YT.below (aEd w _ _) m (by simp);have a8:YT w0 w.heap.size Ev.Hi:=YT.below (aEc w _ _) m (by simp;omega);have z:yA w w0:=(((MY _ _).alloc (MV _) _).alloc (by simp) _).trans (m.mono (by simp;omega));have N:M6 (_/\_/\_/\_/\_):=⟨K,J,a8,z,m⟩;have a9:aDs w0 (MG (if cap=1 then MI ⟨b,off,MH⟩else MI ⟨b,off+1,MH⟩) (len-1) (cap-1)) t (w.heap.size+1):=by
  have:=aDD (w:=w0) (b:=b) (off:=off) (cap:=cap) (s:=1) (be:=w.heap.size+1) (l:=k::t) (by rw[j.out.1];omega) (by have:=z.size;omega) (by omega) (fun i hi=>by rw[z.cell (p:=⟨b,off+i,MH⟩) d9];exact j.out.2.2.2.2 i hi) (by simp);rw[j.out.1]at this;exact this
 have a6:∀v',aDs w0 v' t (w.heap.size+1)->Ni MK 354 #[MG a fs.length y,v'] w0 (aDu fs t {Ev.Hi with kind:=(k:Int)} (w.heap.size+1) w0):=fun v' hv' =>
  aDZ (w.heap.size+1) a y v' fs t _ w0 (an4 j.out.2.2.1) b9 J (by have h1:=j.out.1;have h2:=j.out.2.1;simp at h1;omega) (fun x hx=>j.out.2.2.2.1 x (NB _ hx))
   (fun k' f hf=>by obtain⟨g,g0,g1,g2,g3⟩:=K k' f hf;exact⟨g,g0,by simp at g1;omega,g2,g3⟩) hv'
 have M:M6 (_/\_):=⟨a6,a9⟩;clear O K J a8 z m a6 a9;have c9:(∃A L C,cap=1/\len=1/\A=(⟨b,off,MH⟩:Oc)/\L=0/\C=0/\M6 (Ni MK 354 #[MG a fs.length y,MG (MI A) L C] w0 (aDu fs t {Ev.Hi with kind:=(k:Int)} (w.heap.size+1) w0)))\/(¬cap=1/\M6 (Ni MK 354 #[MG a fs.length y,MG (MI ⟨b,off+1,MH⟩) (len-1) (cap-1)] w0 (aDu fs t {Ev.Hi with kind:=(k:Int)} (w.heap.size+1) w0))):=by
  have h:=M.out.1 _ M.out.2
  by_cases hc1:cap=1
  ·have a7:len=1:=by omega
   rw[Nh hc1,hc1,a7]at h;exact Nt ⟨_,_,_,hc1,a7,rfl,rfl,rfl,h⟩
  ·rw[Nf hc1]at h
   exact NF ⟨hc1,h⟩
 clear M;rcases c9 with⟨A,L,C,rfl,rfl,rfl,rfl,rfl,Z⟩|⟨e8,Z⟩
 all_goals
  go_wp2_with fail
  refine Nd Z.out ?_;rintro r w1 ⟨rfl,D,I⟩;have H:YT w1 w.heap.size Ev.Hi:=by have h:=N.out.2.2.1;unfold YT;rw[D.block w.heap.size h.lt (by simp)];exact h
  have a0:yA w w1:=N.out.2.2.2.1.grown D (by have:=N.out.2.1.lt;omega) (by intro k' d8;cases d8;omega);have e9:=H.lt;obtain⟨r0,r1,r2,r3,r4,r5,r6,r7⟩:=H.Jl;have e:=H.Gu;have g9:=e 0;have f2:=e 1;have f6:=e 2;have f7:=e 3;have f8:=e 4;have f9:=e 5;have i4:=e 6;have f3:=e 7;have hz:=aD6 fs t {Ev.Hi with kind:=(k:Int)};have b7:=HD.out;generalize aDY fs t {Ev.Hi with kind:=(k:Int)}=p at *;obtain⟨e',c⟩:=p
  dsimp only at *
  have u:M6 (_/\_/\_/\_):=⟨hz,b7,a0,D⟩;clear hz b7 a0 D e H
  by_cases hc:c=0
  ·subst hc
   have b0:=I rfl;obtain⟨e0,e1,e2,e3,e4,e5,e6,e7⟩:=b0.Jl;clear I b0;go_wp2;refine Np (v:=Nv #[Ny (afw e'),yB 0]) (by simp[Pf,aE9,go_sem,afw,r0,r1,r2,r3,r4,r5,r6,r7]) rfl ⟨by rw[u.out.2.1],?_⟩;exact((((((((u.out.2.2.1.setCell (MV _) _).setCell (MV _) _).setCell (MV _) _).setCell (MV _) _).setCell (MV _) _).setCell (MV _) _).setCell (MV _) _).setCell (MV _) _)
  ·have i7:(c != 0)=true:=by rw[bne_iff_ne];exact hc
   obtain rfl:=u.out.1 hc;clear I hc;go_wp2;refine Np (v:=Nv #[Ny (afw Ev.Hi),yB c]) (by simp[Pf,aE9,go_sem,aDz,r0,r1,r2,r3,r4,r5,r6,r7]) rfl ⟨by rw[u.out.2.1],?_⟩;exact((((((((u.out.2.2.1.setCell (MV _) _).setCell (MV _) _).setCell (MV _) _).setCell (MV _) _).setCell (MV _) _).setCell (MV _) _).setCell (MV _) _).setCell (MV _) _)
theorem aDJ(v:M7)(l:List Nat)(w:MO)(hv:aDr w v l)(hx:∀x∈l,x<256)(hm:l.length<=NE):Ni MK 352 #[v] w (aDt l w):=by
 obtain⟨a,e,rfl,i,h⟩:=hv
 by_cases h64:64<l.length
 ·exact aDM a l.length e l w rfl h64 hm
 ·cases l with
  |nil=>exact aDN a e w
  |cons k t =>
   rcases h with⟨_,h⟩|h|⟨b,off,rfl,j,f⟩
   ·cases h
   ·cases h
   ·cases hk:Zz (k:Int)with
    |none=>exact aDL b off e _ k t w rfl (by omega) hk (hx k (NM ..)) (by simpa using f 0 (by simp))
    |some fs=>exact aDO b off e _ k t fs w rfl (by omega) i hk hx f
theorem aDV:∀(f n:Nat),n<f->∃k,(aDP n).length=k+1/\(∀j,j<k->128<=(aDP n).getD j 0/\(aDP n).getD j 0<256)/\(aDP n).getD k 0<128/\(0<k->(aDP n).getD k 0≠0)/\aEH (aDP n)=n
 |0,n,h=>by omega
 |f+1,n,h=>by
  by_cases h1:n<128
  ·refine⟨0,by rw[aDU n h1];rfl,fun j hj=>by omega,by rw[aDU n h1];exact h1,fun hh=>by omega,by rw[aDU n h1];simp[aEH];omega⟩
  ·obtain⟨k,m,k2,D,A,i⟩:=aDV f (n / 128) (by omega)
   have e:=aDR n h1;refine⟨k+1,by rw[e,Ox,m],fun j hj=>?_,by rw[e];simpa using D,fun _=>?_,?_⟩
   ·rw[e]
    cases j with
    |zero=>simp;omega
    |succ j=>simpa using k2 j (by omega)
   ·rw[e]
    have:(aDP (n / 128)).getD k 0≠0:=by
     by_cases hk:0<k
     ·exact A hk
     ·have u:k=0:=by omega
      subst u;intro z;have p:aDP (n / 128)=[(aDP (n / 128)).getD 0 0]:=by
       match hq:aDP (n / 128),m with
       | [y],_=>rfl
      rw[z]at p;rw[p]at i;simp[aEH]at i;omega
    simpa using this
   ·rw[e,aEH,i];omega
theorem aEB(n:Nat)(t:List Nat)(hn:n<=4294967295):aES (aDP n++t)=aFA (n,(aDP n).length):=by
 obtain⟨k,f,k2,m,i,p⟩:=aDV (n+1) n (by omega);have u:=aDS n hn;have e:∀j,j<k+1->(aDP n++t).getD j 0=(aDP n).getD j 0:=fun j hj=>by simp[Pq,OJ (show j<(aDP n).length by omega)]
 rw[aED (aDP n++t) k (by rw[Ns];omega) (fun j hj=>by rw[e j (by omega)];exact(k2 j hj).1) (by rw[e k (by omega)];exact m) (by rw[e k (by omega)];intro⟨a,b⟩;exact i b a) (by omega),f]
 congr 2
 rw[<-f,List.take_left,p]
def aD7(e:Ev)(fs:List Xf):List Nat:=fs.flatMap (fun f=>aDP (e.num f.off).toNat)
theorem aD1(e:Ev)(t:List Nat):∀(fs:List Xf) (e0:Ev),(∀f,f∈fs->e.GZ f=Nw/\0<=f.lo/\f.hi<=4294967295)->aDY fs (aD7 e fs++t) e0=aDY [] t (aEu e0 fs (e.aEX fs))
 | [],e0,_=>by simp[aD7,aEu]
 |f::fs,e0,h=>by
  obtain⟨p,u,y⟩:=h f (NM ..);simp only[Ev.GZ,decide_eq_true_eq]at p;have m:((e.num f.off).toNat:Int)=e.num f.off:=by omega
  have j:=aEB (e.num f.off).toNat (aD7 e fs++t) (by omega);have i:aD7 e (f::fs)++t=aDP (e.num f.off).toNat++(aD7 e fs++t):=by simp[aD7]
  rw[i,aD2 f fs _ e0 _ _ j (by omega),List.drop_left,aD1 e t fs _ (fun g hg=>h g (NB _ hg)),m];rfl
theorem aEk{e:Ev}(h:Yk e=0):∃fs,Zz e.kind=MI fs/\(∀f,f∈fs->e.GZ f=Nw/\0<=f.lo/\f.hi<=4294967295)/\aEu {Ev.Hi with kind:=e.kind} fs (e.aEX fs)=e/\aDQ e=e.kind.toNat::aD7 e fs/\1<=e.kind/\e.kind<=7/\(aD7 e fs).length<=15:=by
 obtain⟨fs,i,j,p⟩:=aDX h;have m:=aD9 i;refine⟨fs,i,fun f hm=>⟨List.all_eq_true.1 j f hm,m.2 f hm⟩,?_,by simp[aDQ,aD7,i],m.1.1,m.1.2,?_⟩
 ·have:=aEv e fs i j
  rw[p]at this;exact M2 this
 ·have u:=aD8 e fs (aEM i j)
  have y:=an3 i;unfold aD7;omega
theorem aEe{e:Ev}(h1:1<=e.kind):((e.kind.toNat:Nat):Int)=e.kind:=by omega
theorem aDF{e:Ev}(h:Yk e=0):aDE (aDQ e)=(e,0):=by
 obtain⟨fs,j,p,i,m,f,u,y⟩:=aEk h;rw[m,aDI _ _ fs (by rw[Ox];omega) (by rw[aEe f];exact j),aEe f];have:=aD1 e [] fs {Ev.Hi with kind:=e.kind} p;rw[OG]at this;rw[this,i,aD4]
def aEb:List Xf->List Nat->Prop
 | [],[]=>True
 |f::fs,n::ns=>(f.lo<=(n:Int)/\(n:Int)<=f.hi)/\aEb fs ns
 |_,_=>False
theorem aDK(v:M7)(l:List Nat)(e:Ev)(c:Int)(w:MO)(hd:aDE l=(e,c))(hv:aDr w v l)(hx:∀x∈l,x<256)(hm:l.length<=140737488351232) :
  Ni MK 352 #[v] w fun r w'=>r=MN (Nv #[Ny #[yB e.kind,yB e.key,yB e.slot,yB e.gen,M3 e.good,yB e.req,yB e.be,yB e.wt],yB c])/\yA w w':=by
 refine(aDJ v l w hv hx (by unfold NE;omega)).mono ?_;rintro r w' ⟨h,f⟩;rw[hd]at h;exact⟨h,f⟩
abbrev aCP:List Value:=[yB 0,yB 0,yB 0,yB 0,M3 Nb,yB 0,yB 0,yB 0]
theorem aCD(v:M7)(w:MO):Ni MK 49 #[aFa,v] w fun r w'=>r=MN (M3 Nb)/\w'=w:=by
 go_enter Tryz.func49,Tryz.ntmps49;go_wp2;go_ret;exact⟨rfl,rfl⟩
theorem aDe(w:MO):Ni MK 353 #[yB 0] w fun r w'=>r=MN aFa/\w'=w:=by
 go_enter Tryz.func353,Tryz.ntmps353;go_wp2;go_ret;exact⟨rfl,rfl⟩
theorem aC1:(MK.info? 118).map (·.size)=MI 8:=by kernel_rfl
def aCC(w:MO)(d b:Nat)(E:List M7)(X:MO):Prop:=X.rangeAt b 0 E/\b<X.heap.size/\(∃D:List M7,D.length=8/\X.heap[d]?=MI (MP D.toArray 61 (0,0)))/\yA w X/\w.heap.size<=d/\d<b
theorem aCC.below{w X:MO}{b:Nat}(h:aCC w d b E X)(hb:yA X Y):aCC w d b E Y:=by
 obtain⟨p,e,⟨D,j,m⟩,f,u,i⟩:=h;exact⟨afr p (hb.block b e),M8 e hb.size,⟨D,j,WO m hb⟩,f.trans (hb.mono f.size),u,i⟩
theorem aCC.F4{w X:MO}{b:Nat}(h:aCC w d b E X)(hE:E.length=8):aCC w d b E (X.setCells d 0 E)/\(X.setCells d 0 E).heap[d]?=MI (MP E.toArray 61 (0,0)):=by
 obtain⟨y,f,⟨D,p,u⟩,i,j,m⟩:=h;have e:(X.setCells d 0 E).heap[d]?=MI (MP E.toArray 61 (0,0)):=anq u (by rw[p,hE]);exact⟨⟨afr y (N8 X d 0 _ f (by omega)),by rw[ac3];exact f,⟨E,hE,e⟩,adF i j _ _ i.size,j,m⟩,e⟩
theorem aCC.GB{w X:MO}{b:Nat}(h:aCC w d b E X)(hn:n=8):X.there d 0 n:=by
 obtain⟨_,_,⟨D,e,f⟩,_⟩:=h;rw[hn,<-e];exact aeU f
theorem aDj(e:Ev)(he:Yk e=0)(w:MO):Ni MK 356 #[agQ e] w fun r w'=>r=MN (Nv #[agQ e,aFa])/\yA w w':=by
 obtain⟨E,J⟩:=yE (aaV e);have HC:M6 (∀W:MO,Ni MK 15 #[Ny E.toArray] W fun r w'=>r=MN (yB 0)/\yA W w'):=fun W=>by
  have h:=awv e W;rw[he]at h;rw[J];exact h
 have f:M6 (E.length=8/\E.toArray.all (·.oneCell')=Nw):=⟨by rw[J];rfl,by rw[J];exact OE (au7 e)⟩;rw[show agQ e=Ny E.toArray by rw[J]];clear J he;obtain⟨y,u⟩:∃X,X=w.alloc (MP E.toArray 118):=⟨_,rfl⟩;have r0:y.rangeAt w.heap.size 0 E:=by rw[u];exact agb (M1 _ _)
 have B0:yA w y:=by rw[u];exact WQ w
 have l0:w.heap.size<y.heap.size:=by rw[u];simp
 obtain⟨p,N⟩:∃b,b=y.heap.size:=⟨_,rfl⟩;obtain⟨m,A⟩:∃X,X=y.alloc (MP aCP.toArray 61):=⟨_,rfl⟩;have r1:m.heap[p]?=MI (MP aCP.toArray 61 (0,0)):=by rw[A,N];exact M1 _ _
 have B1:yA y m:=by rw[A];exact WQ y
 obtain⟨j,M⟩:∃b,b=m.heap.size:=⟨_,rfl⟩;obtain⟨Z,I⟩:∃X,X=m.alloc (MP aCP.toArray 61):=⟨_,rfl⟩;have r2:Z.heap[j]?=MI (MP aCP.toArray 61 (0,0)):=by rw[I,M];exact M1 _ _
 have B2:yA m Z:=by rw[I];exact WQ m
 obtain⟨H,L⟩:∃X,X=Z.setCells j 0 E:=⟨_,rfl⟩;have r3:H.heap[j]?=MI (MP E.toArray 61 (0,0)):=by rw[L];exact anq r2 (by rw[f.out.1];rfl)
 have B3:yA m H:=by rw[L];exact adp B2 (by omega) _ _ B2.size
 have d9:yA w H:=B0.trans ((B1.trans (B3.mono B1.size)).mono B0.size);have hT:aCC w p j E H:=⟨agb r3,(Array.getElem?_eq_some_iff.1 r3).1,⟨aCP,rfl,WO r1 B3⟩,d9,by omega,by rw[M];exact(Array.getElem?_eq_some_iff.1 r1).1⟩;obtain⟨S,hS,d8,b8⟩:∃S:MO->Prop,(∀X,S X->aCC w p j E X)/\(∀X,aCC w p j E X->S X)/\S H.drew:=⟨aCC w p j E,fun _ h=>h,fun _ h=>h,hT.below (MY _ _).drew⟩;have z:M6 (_/\_):=⟨hS,d8⟩;have e8:M6 _:=b8;have b7:Z.there j 0 E.toArray.size:=by rw[OQ,f.out.1];exact aeU r2
 have s1:w.heap.size+1=p:=by rw[N,u];simp
 have O:p+1=j:=by rw[M,A,N];simp
 have c9:((w.alloc (MP E.toArray 118)).alloc (MP aCP.toArray 61)).rangeAt w.heap.size 0 E:=by rw[<-u,<-A];exact afr r0 (B1.block _ l0)
 have a7:(((w.alloc (MP E.toArray 118)).alloc (MP aCP.toArray 61)).alloc (MP aCP.toArray 61)).there (w.heap.size+1+1) 0 E.toArray.size:=by rw[<-u,<-A,<-I,s1,O];exact b7
 have a6:H=(((w.alloc (MP E.toArray 118)).alloc (MP aCP.toArray 61)).alloc (MP aCP.toArray 61)).setCells (w.heap.size+1+1) 0 E:=by rw[L,I,A,u,<-O,<-s1]
 have b9:E.toArray.size=8:=(show E.toArray.size=E.length from OQ).trans f.out.1;have D:M6 (_/\_/\_/\_/\_/\_):=⟨c9,a7,a6,s1,O,b9⟩;clear hS d8 b8 hT d9 B0 B1 B2 B3 r0 r1 r2 r3 l0 N M u A I L b7 s1 O c9 a7 a6 b9;go_enter Tryz.func356,Tryz.ntmps356
 go_wp2_with (first|((with_reducible refine O3 rfl 118 (O6 1) rfl w.heap.size 0 ?gx E _ ?gc Tryz.underlying118 ?gd ?gi ?_);(case gx=>rfl);(case gc=>exact D.out.1);(case gd=>rfl);(case gi=>rw[f.out.1];exact aC1))|((with_reducible refine OW rfl 61 (O6 4) (O6 5) rfl (w.heap.size+1+1) 0 E.toArray ?sx ?sy ?st ?si ?s1 ?_);(case sx=>rfl);(case sy=>rfl);(case st=>exact D.out.2.1);(case si=>rw[D.out.2.2.2.2.2];exact anz);(case s1=>exact f.out.2);rw[NS,<-D.out.2.2.1]))
 rw[D.out.2.2.2.1,D.out.2.2.2.2.1];clear D;refine O2 (S:=S) (by kernel_rfl) e8.out (fun hHeld=>?_);refine awW 0 (Ny E.toArray) hHeld ?_ (hy:=Pt (by rfl) 61 (O6 4) rfl j 0 rfl E _ (fun _ h=>(z.out.1 _ h).1) aAq rfl (by rw[f.out.1];exact anz));simp only[yZ];refine awW 1 (Ny E.toArray) hHeld ?_ (hy:=Pt (by rfl) 61 (O6 4) rfl j 0 rfl E _ (fun _ h=>(z.out.1 _ h).1) aAq rfl (by rw[f.out.1];exact anz));simp only[yZ];refine yQ 2 fun K hK=>?_;go_simp;refine Nd (HC.out _) ?_;rintro r w5 ⟨rfl,a8⟩;have a9:S w5:=z.out.2 _ ((z.out.1 _ hHeld).below a8);clear a8
 go_wp2_with fail
 refine hK.out _ _ a9 (fun hHeld=>?_);clear hK K a9
 try simp only[yZ]
 refine yQ 3 fun K hK=>?_;go_simp;refine Nd (aDe _) ?_;rintro r w6 ⟨rfl,rfl⟩
 go_wp2_with fail
 refine hK.out _ _ hHeld (fun hHeld=>?_);clear hK K
 try simp only[yZ]
 obtain⟨u9,a0⟩:=yE (w6.setCells p 0 E);have h9:=(z.out.1 _ hHeld).F4 f.out.1;rw[<-a0]at h9;have b0:S u9:=z.out.2 _ h9.1;refine yR [4] ?_;refine afX (i:=4) (o:=_) (by rfl) (by rfl) 61 (O6 2) (O6 6) (by rfl) p 0 E.toArray (by rfl) (by rfl) ((z.out.1 _ hHeld).GB (by rw[OQ];exact f.out.1)) (by rw[OQ,f.out.1];exact anz) f.out.2 (by rw[NS,<-a0];exact b0) ?_;rw[NS,<-a0]
 try simp only[yZ]
 refine yR [5] ?_;refine acK (i:=5) (o:=_) (by rfl) (by rfl) (O6 9) (by rfl) (aFa) (by rfl) b0 ?_
 try simp only[yZ]
 refine PS (by kernel_rfl) ?_ _;go_wp2;refine Np (v:=Nv #[Ny E.toArray,aFa]) (XT Tryz.results356 rfl rfl (akJ h9.2 aAq rfl (by rw[f.out.1];exact anz))) rfl ?_;exact⟨rfl,h9.1.2.2.2.1⟩
abbrev aEO:=Option Oc×Nat×List Nat
variable {x:aEO}
abbrev aCQ(x:aEO):List Value:=[MG x.1 x.2.2.length x.2.1]
theorem aCR(x:aEO):(aCQ x).length=1:=rfl
theorem aCS(x:aEO):∀u∈aCQ x,u.oneCell'=true:=by
 intro u e;rw[List.mem_singleton.1 e];rfl
def aCs(W:MO)(x:aEO):Prop:=aDr W (MG x.1 x.2.2.length x.2.1) x.2.2/\(∀b∈x.2.2,b<256)/\x.2.2.length<=140737488351232/\x.2.1<=NE
theorem aCG{w w':MO}(h:aDr w v l)(hb:yA w w'):aDr w' v l:=by
 obtain⟨a,f,j,m,e|e|⟨b,off,e,u,y⟩⟩:=h
 ·exact⟨a,f,j,m,Nt e⟩
 ·exact⟨a,f,j,m,NF (Nt e)⟩
 ·exact⟨a,f,j,m,NF (NF ⟨b,off,e,M8 u hb.size,fun i hi=>(hb.cell (p:=⟨b,off+i,MH⟩) u).trans (y i hi)⟩)⟩
theorem aCs.below{W:MO}(h:aCs W x)(hb:yA W Y):aCs Y x:=⟨aCG h.1 hb,h.2⟩
theorem aCH{W:MO}(h:aCs W x):Ni MK 352 #[MG x.1 x.2.2.length x.2.1] W fun r w'=>r=MN (Nv #[agQ (aDE x.2.2).1,yB (aDE x.2.2).2])/\yA W w' :=
 aDK _ x.2.2 _ _ W rfl h.1 h.2.1 h.2.2.1
theorem aDh{e:Ev}(hd:aDE x.2.2=(e,0)){w:MO}(hx:aCs w x):
  Ni MK 351 #[MG x.1 x.2.2.length x.2.1] w fun r w'=>r=MN (Nv #[agQ e,aFa])/\yA w w':=by
 obtain⟨X1,I⟩:∃X,X=w.alloc (MP aCP.toArray 61):=⟨_,rfl⟩;have A:X1.heap[w.heap.size]?=MI (MP aCP.toArray 61 (0,0)):=by rw[I];exact M1 _ _
 have B1:yA w X1:=by rw[I];exact WQ w
 have u:M6 _:=aCH (hx.below B1);obtain⟨E,O⟩:=yE (aaV e);rw[hd]at u;simp only[show agQ e=Ny E.toArray by rw[O]]at u⊢;have f:M6 (E.length=8/\E.toArray.all (·.oneCell')=Nw):=⟨by rw[O];rfl,by rw[O];exact OE (au7 _)⟩;have L:M6 (_/\_):=⟨A,B1⟩;obtain⟨nx,a9⟩:∃n,n=x.2.2.length:=⟨_,rfl⟩;rw[<-a9]at u⊢;obtain⟨px,c9⟩:∃n,n=x.1:=⟨_,rfl⟩;obtain⟨cx,d9⟩:∃n,n=x.2.1:=⟨_,rfl⟩;rw[<-c9,<-d9]at u⊢;clear O hd hx A B1 a9 c9 d9;go_enter Tryz.func351,Tryz.ntmps351
 go_wp2_with fail
 rw[<-I];clear I;refine Nd u.out ?_;rintro r w1 ⟨rfl,Z⟩;obtain⟨m,a0⟩:∃b,b=w.heap.size:=⟨_,rfl⟩;obtain⟨j,p⟩:∃b,b=w1.heap.size:=⟨_,rfl⟩;have A:w1.heap[m]?=MI (MP aCP.toArray 61 (0,0)):=by rw[a0];exact WO L.out.1 Z
 have B1:yA w w1:=L.out.2.trans (Z.mono L.out.2.size);obtain⟨M,D⟩:∃X,X=w1.alloc (MP aCP.toArray 61):=⟨_,rfl⟩;have r2:M.heap[j]?=MI (MP aCP.toArray 61 (0,0)):=by rw[D,p];exact M1 _ _
 have B2:yA w1 M:=by rw[D];exact WQ w1
 obtain⟨z,J⟩:∃X,X=M.setCells j 0 E:=⟨_,rfl⟩;have r3:z.heap[j]?=MI (MP E.toArray 61 (0,0)):=by rw[J];exact anq r2 (by rw[f.out.1];rfl)
 have B3:yA w1 z:=by rw[J];exact adp B2 (by omega) _ _ B2.size
 have hT:aCC w m j E z:=⟨agb r3,(Array.getElem?_eq_some_iff.1 r3).1,⟨aCP,rfl,WO A B3⟩,B1.trans (B3.mono B1.size),by omega,by rw[p];exact(Array.getElem?_eq_some_iff.1 A).1⟩;obtain⟨S,hS,d8,b8⟩:∃S:MO->Prop,(∀X,S X->aCC w m j E X)/\(∀X,aCC w m j E X->S X)/\S z.drew:=⟨aCC w m j E,fun _ h=>h,fun _ h=>h,hT.below (MY _ _).drew⟩;have H:M6 (_/\_):=⟨hS,d8⟩;have e9:M6 _:=b8;have b7:M.there j 0 E.toArray.size:=by rw[OQ,f.out.1];exact aeU r2
 have a8:(w1.alloc (MP aCP.toArray 61)).there w1.heap.size 0 E.toArray.size:=by rw[<-D,<-p];exact b7
 have a7:z=(w1.alloc (MP aCP.toArray 61)).setCells w1.heap.size 0 E:=by rw[J,D,p]
 have b9:E.toArray.size=8:=(show E.toArray.size=E.length from OQ).trans f.out.1;have y:M6 (_/\_/\_/\_/\_):=⟨a8,a7,a0,p,b9⟩;clear hS d8 b8 hT B1 B2 B3 A r2 r3 Z a0 p D J b7 a8 a7 b9 L u
 go_wp2_with ((with_reducible refine OW rfl 61 (O6 4) (O6 9) rfl w1.heap.size 0 E.toArray ?sx ?sy ?st ?si ?s1 ?_);(case sx=>rfl);(case sy=>rfl);(case st=>exact y.out.1);(case si=>rw[y.out.2.2.2.2];exact anz);(case s1=>exact f.out.2);rw[NS,<-y.out.2.1])
 rw[<-y.out.2.2.1,<-y.out.2.2.2.1];clear y;refine O2 (S:=S) (by kernel_rfl) e9.out (fun hHeld=>?_);refine awW 0 (Ny E.toArray) hHeld ?_ (hy:=Pt (by rfl) 61 (O6 4) rfl j 0 rfl E _ (fun _ h=>(H.out.1 _ h).1) aAq rfl (by rw[f.out.1];exact anz));simp only[yZ];refine awW 1 (yB 0) hHeld ?_;simp only[yZ];refine yQ 2 fun K hK=>?_;go_simp;refine Nd (aDe _) ?_;rintro r w6 ⟨rfl,e8⟩;rw[e8];clear e8
 go_wp2_with fail
 refine hK.out _ _ hHeld (fun hHeld=>?_);clear hK K
 try simp only[yZ]
 obtain⟨u9,a6⟩:=yE (z.drew.setCells m 0 E);have N:=(H.out.1 _ hHeld).F4 f.out.1;rw[<-a6]at N;have b0:S u9:=H.out.2 _ N.1;refine yR [3] ?_;refine afX (i:=3) (o:=_) (by rfl) (by rfl) 61 (O6 2) (O6 11) (by rfl) m 0 E.toArray (by rfl) (by rfl) ((H.out.1 _ hHeld).GB (by rw[OQ];exact f.out.1)) (by rw[OQ,f.out.1];exact anz) f.out.2 (by rw[NS,<-a6];exact b0) ?_;rw[NS,<-a6]
 try simp only[yZ]
 refine yR [4] ?_;refine acK (i:=4) (o:=_) (by rfl) (by rfl) (O6 13) (by rfl) (aFa) (by rfl) b0 ?_
 try simp only[yZ]
 refine PS (by kernel_rfl) ?_ _;go_wp2;refine Np (v:=Nv #[Ny E.toArray,aFa]) (XT Tryz.results351 rfl rfl (akJ N.2 aAq rfl (by rw[f.out.1];exact anz))) rfl ?_;exact⟨rfl,N.1.2.2.2.1⟩
theorem aDi{base:Nat}{w:MO}{g:Nat}{V:aEQ}{P:aEP}(h:aCw base w g V P)(hr:aCv P)(hlen:V.xs.length<=4000)(hblk:Xo w)(hb:base<=w.heap.size)(e:Ev)(he:Yk e=0)(h7:e.kind=7->P.last.now+1<=1099511626776)(v:M7)(hv:v=.iface 118 (agQ e)\/∃x:aEO,v=.iface 115 (MG x.1 x.2.2.length x.2.1)/\aCs w x/\aDE x.2.2=(e,0)) :
  Ni MK 25 #[gP g,v] w fun r w'=>r=MN (Nv #[])/\∃V',aCw base w' g V' (P.step e)/\aCx V V' g w w'/\V'.xs.length=V.xs.length+1:=by
 have H7:M6 (e.kind=7->P.last.now+1<=1099511626776):=h7;obtain⟨L,hL⟩:=yE ((XR V.u P.last).toList);have HL:M6 _:=hL;have a6:M6 (_/\_/\_/\_/\_/\_):=⟨h,hr,hlen,hblk,hb,he⟩;clear hL h hr hlen hblk hb he h7;rcases hv with rfl|⟨x,rfl,hx,hd⟩
 case' inl=>have j4:M6 _:=aDj e a6.out.2.2.2.2.2 w
 case' inr=>have j4:M6 _:=aDh hd hx
 all_goals
  try clear hx hd
  go_enter Tryz.func25,Tryz.ntmps25
  go_wp2_with fail
  refine Nd j4.out ?_;rintro r w1 ⟨rfl,f2⟩;generalize Value.iface _ _=v;obtain⟨E,hE⟩:=yE (aaV e);have j3:(w1.alloc (MP aCP.toArray 61)).heap[w1.heap.size]?=MI (MP aCP.toArray 61 (0,0)):=M1 _ _;obtain⟨W1,i7⟩:=yE ((w1.alloc (MP aCP.toArray 61)).setCells w1.heap.size 0 E);have m7:W1.heap[w1.heap.size]?=MI (MP E.toArray 61 (0,0)):=by rw[i7];exact anq j3 (by rw[hE];rfl)
  have i8:yA w1 W1:=by rw[i7];exact adp (WQ w1) (MV _) _ _ (by simp)
  have m6:E.length=8:=by rw[hE];rfl
  have j6:E.toArray.size=8:=(show E.toArray.size=E.length from OQ).trans m6;have j8:(w1.alloc (MP aCP.toArray 61)).there w1.heap.size 0 E.toArray.size:=by rw[j6];exact afH j3
  have m4:E.toArray.all (·.oneCell')=true:=by rw[hE];exact OE (au7 e)
  obtain⟨W,hW⟩:=yE (W1.alloc (MP #[yB 0] 66));have j2:yA W1 W:=by rw[hW];exact WQ W1
  obtain⟨O,j0⟩:=yE w1.heap.size;have i6:yA w W:=(f2.trans (i8.mono f2.size)).trans (j2.mono (Nm f2.size i8.size));have l9:¬V.own g O:=fun e=>by have:=(a6.out.1.Mb e).2;have:=f2.size;omega
  have HD:M6 (aCu base W g V P O e):=⟨a6.out.1.below i6,by rw[j0,<-hE];exact WO m7 j2,a6.out.2.2.2.1.below i6⟩;have M:M6 (aCv P/\V.xs.length<=4000/\Yk e=0/\yA w W/\base<=w.heap.size/\¬V.own g O):=⟨a6.out.2.1,a6.out.2.2.1,a6.out.2.2.2.2.2,i6,a6.out.2.2.2.2.1,l9⟩;have H0:M6 (_/\_/\_/\_):=⟨j8,j6,m4,i7⟩;rw[show agQ e=Ny E.toArray by rw[hE]];clear j3 m7 i8 m6 j6 j8 m4 j2 i6 l9 hE i7 f2 a6 j4
  go_wp2_with ((with_reducible refine OW rfl 61 (O6 4) (O6 13) rfl w1.heap.size 0 E.toArray ?sx ?sy ?st ?si ?s1 ?_);(case sx=>rfl);(case sy=>rfl);(case st=>exact H0.out.1);(case si=>rw[H0.out.2.1];exact anz);(case s1=>exact H0.out.2.2.1);rw[NS,<-H0.out.2.2.2])
  refine Nd (aCD _ _) ?_;rintro r w2 ⟨rfl,rfl⟩
  go_wp2_with fail
  rw[<-hW,<-j0];clear hW j0 H0;apply aan
  ·intro l4
   obtain⟨W3,j7⟩:=yE W.drew;have l8:aCu base W3 g V P O e:=by rw[j7];exact HD.out.on (MY _ _).drew
   obtain⟨S,hS,l7,n4⟩:∃S:MO->Prop,(∀X,S X->aCu base X g V P O e)/\(∀X,aCu base X g V P O e->S X)/\S W.drew:=⟨fun X=>aCu base X g V P O e,fun _ h=>h,fun _ h=>h,by rw[<-j7];exact l8⟩;have N:M6 (_/\_):=⟨hS,l7⟩;clear hS l7 l8 j7 W3;refine O2 (S:=S) (by kernel_rfl) n4 (fun hHeld=>?_);refine awW 0 (gP g) hHeld ?_;simp only[yZ];refine awW 1 (gP g) hHeld ?_;simp only[yZ];refine awW 2 (Na (MI ⟨g,0,MH⟩)) hHeld ?_;simp only[yZ];refine awW 3 (Ny L.toArray) hHeld ?_ (hy:=Pt (by rfl) 56 (O6 33) rfl g 0 rfl L _ (fun _ h=>by rw[HL.out];exact(N.out.1 _ h).pat.Mo) azZ rfl (by rw[HL.out];exact Z0));simp only[yZ];refine awW 4 (Ny (aaV e).toArray) hHeld ?_ (hy:=Pt (by rfl) 61 (O6 4) rfl O 0 rfl (aaV e) _ (fun _ h=>(N.out.1 _ h).ev) aAq rfl anz);simp only[yZ];refine yR [5,10] ?_;refine NP (o:=_) rfl (fun K hK=>?_) (NP (o:=_) rfl (fun K hK=>?_) NX)
   ·go_simp
    refine Nd (w:=W.drew) (by rw[HL.out];exact akh (N.out.1 _ hHeld).pat.last.now M.out.1.wm (N.out.1 _ hHeld).blk M.out.1.out e M.out.2.2.1 H7.out) ?_;rintro r y ⟨z,D,I,rfl,f6,Z⟩;obtain⟨f,b0⟩:=yE ((XR z (Xb P.last e)).toList);obtain⟨H,c9⟩:=yE ((Xb P.last e).out.length);have A:M6 (_/\_/\_/\_):=⟨b0,f6,Z,c9⟩;have e9:S y:=N.out.2 _ ((N.out.1 _ hHeld).on Z);rw[show acN z (Xb P.last e)=Ny f.toArray by rw[b0],<-c9];clear f6 Z b0 c9
    go_wp2_with fail
    refine hK.out _ _ e9 (fun hHeld5=>?_);clear hK K e9
    try simp only[yZ]
    refine awW 6 (Nv #[Ny f.toArray,MG D H I,yB 0]) hHeld5 ?_;simp only[yZ];refine awW 7 (Ny f.toArray) hHeld5 ?_;simp only[yZ];refine awW 8 (MG D H I) hHeld5 ?_;simp only[yZ];refine awW 9 (yB 0) hHeld5 ?_;simp only[yZ];refine yQ 10 fun K hK=>?_;go_simp;obtain⟨Y,hY⟩:=yE (y.alloc (MP wz.toArray 56));obtain⟨q,hg⟩:=yE y.heap.size;have i4:yA y Y:=by rw[hY];exact WQ y
    have b7:Y.heap[q]?=MI (MP wz.toArray 56 (0,0)):=by rw[hY,hg];exact M1 _ _
    have Z:yA W y:=Za A.out.2.2.1;have a9:yA W Y:=Z.trans (i4.mono Z.size);have b9:W.heap.size<=q:=by rw[hg];exact Z.size
    have m2:S Y:=N.out.2 _ (HD.out.on a9);have f7:∀b,b<y.heap.size->Y.heap[b]?=y.heap[b]?:=fun b h=>i4.block b h
    have b8:=i4.size;have k9:y.heap.size<=q:=by rw[hg];exact MV _
    rw[<-hY,<-hg];clear hY hg i4 Z;refine hK.out _ _ m2 (fun hHeldY=>?_);clear hK K m2
    try simp only[yZ]
    have l5:f.length=26:=by rw[A.out.1];rfl
    have a0:f.toArray.size=26:=(show f.toArray.size=f.length from OQ).trans l5;have a8:(Y).there q 0 f.toArray.size:=by rw[a0];exact aeU b7
    obtain⟨m,J⟩:=yE ((Y).setCells q 0 f);have f3:m.heap[q]?=MI (MP f.toArray 56 (0,0)):=by rw[J];exact anq b7 (by rw[l5];rfl)
    have d9:yA W m:=by rw[J];exact adp a9 b9 _ _ a9.size
    have d8:aCu base m g V P O e:=HD.out.on d9;have a7:S m:=N.out.2 _ d8;have f8:XG (V.off base g) m fun X=>Xd X z (Xb P.last e)/\Xw Z1 X (MG D (Xb P.last e).out.length I) (Xb P.last e).out:=anp (b5:=q) A.out.2.1 (by rw[J,ac3];exact b8) (fun b h1 h2=>by rw[J,N8 _ _ _ _ (M8 h1 b8) h2];try exact f7 b h1) (NF k9) (fun b hx=>hx.elim (fun e=>M8 e (Nm M.out.2.2.2.2.1 M.out.2.2.2.1.size)) fun e=>(HD.out.pat.Mb e).2)
    have HE:M6 (aCt base W m g V P O e q f z D I/\H=(Xb P.last e).out.length):=⟨⟨d8,A.out.1,f3,b9,d9,f8,fun x hx=>(HD.out.pat.Mb hx).2,M.out.2.2.2.2.2⟩,A.out.2.2.2⟩;have f9:f.toArray.all (·.oneCell')=true:=by rw[A.out.1];exact ado _ _
    clear f3 d9 f8 a9 b7 b9 d8;refine yR [11] ?_;refine afX (i:=11) (o:=_) (by rfl) (by rfl) 56 (O6 7) (O6 37) (by rfl) q 0 f.toArray (by rfl) (by rfl) a8 (by rw[a0];exact Z0) f9 (by rw[NS,<-J];exact a7) ?_;rw[NS,<-J]
    try simp only[yZ]
    refine yR [12] ?_;refine acK (i:=12) (o:=_) (by rfl) (by rfl) (O6 38) (by rfl) (MG D H I) (by rfl) a7 ?_
    try simp only[yZ]
    refine yR [13] ?_;refine acK (i:=13) (o:=_) (by rfl) (by rfl) (O6 39) (by rfl) (yB 0) (by rfl) a7 ?_
    try simp only[yZ]
    refine PS (by kernel_rfl) ?_ _;clear a8 a0 l5 A a7 J f9;clear hHeld5 hHeldY f7 b8 k9;revert HE;revert m;revert H;revert I;revert D;revert z;revert f;revert q;exact l4.out
   ·go_simp
    obtain⟨X1,i5⟩:=yE ((W.alloc (MP wz.toArray 56)).drew);have i9:yA W X1:=by rw[i5];exact(WQ W).drew
    have m0:X1.heap[W.heap.size]?=MI (MP wz.toArray 56 (0,0)):=by rw[i5];exact M1 _ _
    have l1:S X1:=N.out.2 _ (HD.out.on i9);obtain⟨q,hg⟩:=yE W.heap.size;have HX:M6 (_/\_/\_):=⟨i9,m0,hg⟩;clear i9 m0;rw[<-i5,<-hg];clear i5 hg;refine hK.out _ _ l1 (fun hHeld=>?_);clear hK K l1
    try simp only[yZ]
    refine yQ 5 fun K hK=>?_;go_simp;refine Nd (w:=X1) (by rw[HL.out];exact akh (N.out.1 _ hHeld).pat.last.now M.out.1.wm (N.out.1 _ hHeld).blk M.out.1.out e M.out.2.2.1 H7.out) ?_;rintro r y ⟨z,D,I,rfl,f6,Z⟩;obtain⟨f,b0⟩:=yE ((XR z (Xb P.last e)).toList);obtain⟨H,c9⟩:=yE ((Xb P.last e).out.length);have A:M6 (_/\_/\_/\_):=⟨b0,f6,Z,c9⟩;have e9:S y:=N.out.2 _ ((N.out.1 _ hHeld).on Z);rw[show acN z (Xb P.last e)=Ny f.toArray by rw[b0],<-c9];clear f6 Z b0 c9
    go_wp2_with fail
    refine hK.out _ _ e9 (fun hHeld5=>?_);clear hK K e9
    try simp only[yZ]
    refine awW 6 (Nv #[Ny f.toArray,MG D H I,yB 0]) hHeld5 ?_;simp only[yZ];refine awW 7 (Ny f.toArray) hHeld5 ?_;simp only[yZ];refine awW 8 (MG D H I) hHeld5 ?_;simp only[yZ];refine awW 9 (yB 0) hHeld5 ?_;simp only[yZ];have b7:y.heap[q]?=MI (MP wz.toArray 56 (0,0)):=by rw[HX.out.2.2];exact WO HX.out.2.1 A.out.2.2.1
    have a9:yA W y:=HX.out.1.trans (A.out.2.2.1.mono HX.out.1.size);have b9:W.heap.size<=q:=by rw[HX.out.2.2];exact MV _
    have m5:q<X1.heap.size:=by rw[HX.out.2.2];exact(Array.getElem?_eq_some_iff.1 HX.out.2.1).1
    have f7:∀b,b<y.heap.size->y.heap[b]?=y.heap[b]?:=fun _ _=>rfl
    have b8:y.heap.size<=y.heap.size:=MV _;have k8:=HX.out.1.size;have l5:f.length=26:=by rw[A.out.1];rfl
    have a0:f.toArray.size=26:=(show f.toArray.size=f.length from OQ).trans l5;have a8:(y).there q 0 f.toArray.size:=by rw[a0];exact aeU b7
    obtain⟨m,J⟩:=yE ((y).setCells q 0 f);have f3:m.heap[q]?=MI (MP f.toArray 56 (0,0)):=by rw[J];exact anq b7 (by rw[l5];rfl)
    have d9:yA W m:=by rw[J];exact adp a9 b9 _ _ a9.size
    have d8:aCu base m g V P O e:=HD.out.on d9;have a7:S m:=N.out.2 _ d8;have f8:XG (V.off base g) m fun X=>Xd X z (Xb P.last e)/\Xw Z1 X (MG D (Xb P.last e).out.length I) (Xb P.last e).out:=anp (b5:=q) A.out.2.1 (by rw[J,ac3];exact b8) (fun b h1 h2=>by rw[J,N8 _ _ _ _ (M8 h1 b8) h2];try exact f7 b h1) (Nt m5) (fun b hx=>M8 (hx.elim (fun e=>M8 e (Nm M.out.2.2.2.2.1 M.out.2.2.2.1.size)) fun e=>(HD.out.pat.Mb e).2) k8)
    have HE:M6 (aCt base W m g V P O e q f z D I/\H=(Xb P.last e).out.length):=⟨⟨d8,A.out.1,f3,b9,d9,f8,fun x hx=>(HD.out.pat.Mb hx).2,M.out.2.2.2.2.2⟩,A.out.2.2.2⟩;have f9:f.toArray.all (·.oneCell')=true:=by rw[A.out.1];exact ado _ _
    clear f3 d9 f8 a9 b7 b9 d8;refine yR [11] ?_;refine afX (i:=11) (o:=_) (by rfl) (by rfl) 56 (O6 7) (O6 37) (by rfl) q 0 f.toArray (by rfl) (by rfl) a8 (by rw[a0];exact Z0) f9 (by rw[NS,<-J];exact a7) ?_;rw[NS,<-J]
    try simp only[yZ]
    refine yR [12] ?_;refine acK (i:=12) (o:=_) (by rfl) (by rfl) (O6 38) (by rfl) (MG D H I) (by rfl) a7 ?_
    try simp only[yZ]
    refine yR [13] ?_;refine acK (i:=13) (o:=_) (by rfl) (by rfl) (O6 39) (by rfl) (yB 0) (by rfl) a7 ?_
    try simp only[yZ]
    refine PS (by kernel_rfl) ?_ _;clear a8 a0 l5 A a7 J f9;clear hHeld5 m5 HX f7 b8 k8;revert HE;revert m;revert H;revert I;revert D;revert z;revert f;revert q;exact l4.out
  ·rintro q f z D I H m HE
   have hM:f=(XR z (Xb P.last e).Ma).toList:=HE.out.1.mem;have m9:=M.out.2.1;obtain⟨u9,e8⟩:=yE (m.setCells g 0 f);have g9:aCw base u9 g {V with u:=z} {P with last:=(Xb P.last e).Ma}:=by
    rw[e8,hM];exact HE.out.1.dos.pat.MC z (Xb P.last e).Ma fun X h1 h2=>(HE.out.1.ans X h1 h2).1.Ma
   have j1:f.length=26:=by rw[hM];rfl
   have a0:f.toArray.size=26:=(show f.toArray.size=f.length from OQ).trans j1;have k7:f.toArray.all (·.oneCell')=true:=by rw[hM];exact ado _ _
   have a8:m.there g 0 f.toArray.size:=by
    rw[a0];exact fun j hj=>by
     have hb:=HE.out.1.dos.pat.box;have m8:0+j<(aER V P).toArray.size:=by show 0+j<27;omega
     exact⟨by rw[MW m g (0+j) _ _ (0,0) hb,Array.getElem?_eq_getElem m8];rfl,by simp[Ng,hb]⟩
   have l6:m.rangeAt q 0 f:=agb HE.out.1.box;have k0:∀b,b<m.heap.size->b≠g->u9.heap[b]?=m.heap[b]?:=fun b hb e=>by rw[e8];exact N8 m g 0 _ hb e
   have l2:u9.heap.size=m.heap.size:=by rw[e8];exact ac3 _ _ _ _
   have m3:XG (aEQ.off {V with u:=z} base g) u9 fun X=>Xw Z1 X (MG D (Xb P.last e).out.length I) (Xb P.last e).out:=by
    refine XG.step (S:=V.off base g) (fun X h1 h2=>(HE.out.1.ans X h1 h2).2) (by rw[l2];exact MV _) (fun b q1 q2=>k0 b q1 fun e=>q2 (NF (Nt e))) fun b q1 e=>e
   have m1:aCx V {V with u:=z} g m u9:=by rw[e8];exact aC3 z f
   obtain⟨q8,c8,w9,j5,⟨n9,o3⟩,j9,k6⟩:=aDb g9 (by show V.xs.length<=100000;omega) (D,I,(Xb P.last e).out) m3;have n8:=g9.Ip;have o0:=g9.lt;rw[<-HE.out.2]at j5;have HR:M6 (_/\_/\_):=⟨j5,j9,k6⟩;have H5:M6 (_/\_/\_/\_/\_/\_):=⟨m1,j1,a8,a0,k7,l6⟩;have n7:M6 _:=e8;clear m1 hM e8 g9 a0 k7 a8 l6 k0 l2 m3 j5 j9 k6 j1 m9
   go_wp2_with (first|((with_reducible refine O3 rfl 56 (O6 7) rfl q 0 ?gx f _ ?gc azZ ?gd ?gi ?_);(case gx=>rfl);(case gc=>exact H5.out.2.2.2.2.2);(case gd=>rfl);(case gi=>rw[H5.out.2.1];exact Z0))|((with_reducible refine OW rfl 56 (O6 43) (O6 41) rfl g 0 f.toArray ?sx ?sy ?st ?si ?s1 ?_);(case sx=>rfl);(case sy=>rfl);(case st=>exact H5.out.2.2.1);(case si=>rw[H5.out.2.2.2.1];exact Z0);(case s1=>exact H5.out.2.2.2.2.1);rw[NS,<-n7.out])|(at_builtin;(with_reducible refine Z4 rfl _ _ 73 rfl (MG V.p V.xs.length V.c) (MG (MI ⟨u9.heap.size,0,MH⟩) 1 1) (MG (MI ⟨q8,0,MH⟩) (V.xs.length+1) c8) w9 ?hs ?hx ?hr ?_);(case hs=>rfl);(case hx=>rfl);(case hr=>exact HR.out.1)))
   go_end0
   refine⟨rfl,_,HR.out.2.1,((aCx.F5 (M.out.2.2.2.1.trans (HE.out.1.bel.mono M.out.2.2.2.1.size))).F0 H5.out.1).F0 HR.out.2.2,by simp⟩
abbrev aC4(U:Us)(p:Option Oc)(n:Nat):aEQ:=⟨U,p,n,[]⟩
theorem aCF(U:Us)(G:Gt)(p:Option Oc)(n:Nat)(W:MO):(QA 117 #[(0,Ny (XR U G)),(1,MG p 0 n)]).run MK W=aE3 (Ny (aER (aC4 U p n) ⟨G,[]⟩).toArray) W:=by kernel_rfl
theorem aC2{w0 w w2 W:MO}{U:Us}{c:Cf}{g q:Nat}(h0:w0.heap.size<=w.heap.size)(hbox:W.heap[g]?=MI (MP (aER (aC4 U (MI ⟨q,0,MH⟩) n) ⟨Yb c,[]⟩).toArray 117 (0,0)))(hg:w0.heap.size<=g)(hrow:W.ownsRow w0.heap.size 62 1 (MG (MI ⟨q,0,MH⟩) 0 n) 0 [])(hqg:q≠g)
  (hA:∀X,aba w.heap.size w2 X->Xd X U (Yb c)) (hb:yA w2 W) (h2:w2.heap.size<=g) (h3:w2.heap.size<=q):aCw w0.heap.size W g (aC4 U (MI ⟨q,0,MH⟩) n) ⟨Yb c,[]⟩:=by
 refine⟨hbox,hg,rfl,hrow,fun e=>hqg (by injection e),fun X h1 h4=>?_,fun x hx=>absurd hx OD⟩;refine hA X ⟨Nm hb.size h1,fun b q1 q2=>?_⟩;rw[h4 b (M8 q2 hb.size),hb.block b q2];rintro(e|rfl|e)
 ·omega
 ·omega
 ·have f:q=b:=by injection e
  omega
theorem aDd{P:O8}{md:Region.Mode}{ops:Array Oper}{Q:Exit->Act->MO->Prop}{S:MO->Prop}{fuel:Nat}{listed:Array Bool}{a:Act}{w w1:MO}{i:Nat}{o:Oper}(ho:ops[i]?=MI o)(hg:o.guard=MH)(t:NU)(l k:Operand)(hop:o.op=.makeSlice t l k)
  (x z y:M7) (hl:a.eval l=x) (hk:a.eval k=z) (hr:(aE6 t x z).run P w=aE3 y w1) (hS:S w1)
  (h:wpAnyH P md ops Q S fuel (listed.setIfInBounds i Nw) (a.put o.dst y) w1):AllReadyH P md ops Q S fuel listed a w [i]:=by
 refine NP ho (fun K hK=>?_) NX;have e:Region.wanted o (yielded ops a.tmps)=true:=by simp[Region.wanted,hg]
 rw[Nh e];unfold Oper.wp execOp;simp only[hop,hl,hk,Sem.run_bind,Sem.run_pure,Result.andThen_ok,hr];exact hK.out _ _ hS (fun _=>h)
theorem aC6{w:MO}{base:Nat}(hb:base<=w.heap.size)(hn:n<=4000):∃w',(aE6 73 (yB 0) (yB (n:Int))).run MK w=aE3 (MG (MI ⟨w.heap.size,0,MH⟩) 0 n) w'/\w'.ownsRow base 62 1 (MG (MI ⟨w.heap.size,0,MH⟩) 0 n) 0 []/\yA w w'/\w.heap.size<w'.heap.size:=by
 obtain⟨i,m,f⟩:=Option.map_eq_some_iff.1 aC0;simp only[Prod.mk.injEq]at f;obtain⟨w',p,j,e⟩:=run_make_own w base 73 62 i _ 1 aFv m f.1 f.2.1 ME ME n (by rw[f.2.2];omega) (by unfold NE;omega) hb;exact⟨w',p,j,⟨e.os,e.tape,e.output,e.size,fun k hk=>e.block k hk (by simp)⟩,(j.lt w.heap.size rfl).2⟩
theorem aCE(c:Cf)(hc:adg c)(n:Nat)(hn:n<=4000)(w:MO) :
  Ni MK 24 #[Ny (ac8 c).toArray,yB (n:Int)] w fun r w'=>∃g V,r=MN (Nv #[gP g,yB 0])/\aCw w.heap.size w' g V ⟨Yb c,[]⟩/\V.xs=[]/\yA w w':=by
 obtain⟨K,z⟩:∃K:List M7,K=ac8 c:=⟨_,rfl⟩;have HB:M6 (∀W:MO,Ni MK 12 #[Ny K.toArray] W _):=fun W=>by rw[z];exact aor c hc W
 have f6:K.length=16:=by rw[z];rfl
 rw[<-z];obtain⟨H,d9⟩:=yE (w.alloc (MP K.toArray 36));have f9:yA w H:=by rw[d9];exact WQ w
 have D:M6 (_/\_/\_):=⟨f6,f9,hn⟩;have j3:¬(4000:Int)<(n:Int):=by omega
 clear z f6 f9 hc;go_enter Tryz.func24,Tryz.ntmps24
 go_wp2_with ((with_reducible refine O3 rfl 36 (O6 2) rfl w.heap.size 0 ?gx K _ ?gc RC ?gd ?gi ?_);(case gx=>rfl);(case gc=>exact afW (M1 _ _));(case gd=>rfl);(case gi=>rw[D.out.1];exact ajj))
 rw[<-d9];clear d9;refine(HB.out H).mono ?_;rintro r w2 ⟨U,rfl,hM,i7⟩;obtain⟨M,A⟩:=yE ((XR U (Yb c)).toList);rw[show acN U (Yb c)=Ny M.toArray by rw[A]];have a6:M.length=26:=by rw[A];rfl
 have b8:M.toArray.size=26:=(show M.toArray.size=M.length from OQ).trans a6;have i6:M.toArray.all (·.oneCell')=true:=by rw[A];exact ado _ _
 have d8:(w2.alloc (MP wz.toArray 56)).heap[w2.heap.size]?=MI (MP wz.toArray 56 (0,0)):=M1 _ _;obtain⟨f,N⟩:=yE ((w2.alloc (MP wz.toArray 56)).setCells w2.heap.size 0 M);have i8:f.heap[w2.heap.size]?=MI (MP M.toArray 56 (0,0)):=by rw[N];exact afG d8 (by rw[a6];rfl)
 have f2:yA w2 f:=by rw[N];exact adp (WQ w2) (MV _) _ _ (by simp)
 have e9:(w2.alloc (MP wz.toArray 56)).there w2.heap.size 0 M.toArray.size:=by rw[b8];exact afH d8
 have e8:=D.out.2.1.trans (i7.mono D.out.2.1.size);obtain⟨p,c9⟩:∃b,b=w2.heap.size:=⟨_,rfl⟩;have I:M6 (_/\_/\_/\_/\_):=⟨a6,b8,i6,A,(hM:∀X,aba H.heap.size w2 X->Xd X U (Yb c))⟩;have j:M6 (_/\_/\_/\_/\_/\_):=⟨e9,N,(show f.heap[p]?=MI (MP M.toArray 56 (0,0))by rw[c9];exact i8),f2,e8,c9⟩;clear A a6 b8 i6 d8 N i8 f2 e9 e8 hM i7 c9 HB
 go_wp2_with ((with_reducible refine OW rfl 56 (O6 6) (O6 11) rfl w2.heap.size 0 M.toArray ?sx ?sy ?st ?si ?s1 ?_);(case sx=>rfl);(case sy=>rfl);(case st=>exact j.out.1);(case si=>rw[I.out.2.1];exact Z0);(case s1=>exact I.out.2.2.1);rw[NS,<-j.out.2.1])
 rw[<-j.out.2.2.2.2.2];obtain⟨S,hS,Z⟩:∃S:MO->Prop,(∀X,S X->X.rangeAt p 0 M)/\(∀X,X.rangeAt p 0 M->S X):=⟨fun X=>X.rangeAt p 0 M,fun _ h=>h,fun _ h=>h⟩;have i5:p<f.heap.size:=(Array.getElem?_eq_some_iff.1 j.out.2.2.1).1;have b9:f.rangeAt p 0 M:=agb j.out.2.2.1;have i9:S f.drew:=Z _ b9;have f7:∀X,yA f X->S X:=fun X hX=>Z _ (afr b9 (hX.block p i5))
 have a9:M6 (_/\_/\_):=⟨hS,Z,f7⟩;clear hS Z f7 b9 i5;refine O2 (S:=S) (by kernel_rfl) i9 (fun hHeld=>?_);refine awW 0 (Ny M.toArray) hHeld ?_ (hy:=Pt (by rfl) 56 (O6 6) rfl p 0 rfl M _ (fun _ h=>a9.out.1 _ h) azZ rfl (by rw[I.out.1];exact Z0));simp only[yZ];refine awW 1 (yB (n:Int)) hHeld ?_;simp only[yZ];obtain⟨u,f3,O,m,f8⟩:=aC6 (w:=f.drew) (base:=w.heap.size) (Nm j.out.2.2.2.2.1.size j.out.2.2.2.1.size) D.out.2.2;have m:yA f u:=Za m;have b0:S u:=a9.out.2.2 _ m;refine yR [2] ?_;refine aDd (i:=2) (o:=_) (by rfl) (by rfl) 73 (.const (yB 0)) (O6 19) (by rfl) _ _ _ (by rfl) (by rfl) f3 b0 ?_
 try simp only[yZ]
 obtain⟨q,hq⟩:=yE f.drew.heap.size;rw[<-hq]at O f8⊢;obtain⟨R,hR⟩:=yE (aER (aC4 U (MI ⟨q,0,MH⟩) n) ⟨Yb c,[]⟩);have a8:∀X,(QA 117 #[(0,Ny M.toArray),(1,MG (MI ⟨q,0,MH⟩) 0 n)]).run MK X=aE3 (Ny R.toArray) X:=fun X=>by rw[I.out.2.2.2.1,hR];exact aCF U (Yb c) _ n X
 refine awW 3 (Ny R.toArray) b0 ?_ (hy:=avx (by rfl) 117 #[(0,O6 18),(1,O6 20)] rfl (Ny R.toArray) (fun X=>by simp only[List.map_toArray,List.map_cons,List.map_nil];exact a8 X));simp only[yZ];have HR:M6 (_/\_/\_):=⟨hR,hq,a8⟩;clear hR hq a8;refine yQ 4 fun K z=>?_;go_simp;obtain⟨g,hg⟩:=yE u.heap.size;obtain⟨y,a0⟩:=yE (u.alloc (MP R.toArray 117));have L:yA u y:=by rw[a0];exact WQ u
 have J:S y:=a9.out.2.2 _ (m.trans (L.mono m.size));have i4:y.heap[g]?=MI (MP R.toArray 117 (0,0)):=by rw[a0,hg];exact M1 _ _
 rw[<-a0,<-hg];refine z.out _ _ J (fun hHeld5=>?_);clear z K
 try simp only[yZ]
 refine yR [5] ?_;refine acK (i:=5) (o:=_) (by rfl) (by rfl) (O6 22) (by rfl) (gP g) (by rfl) J ?_
 try simp only[yZ]
 refine yR [6] ?_;refine acK (i:=6) (o:=_) (by rfl) (by rfl) (.const (yB 0)) (by rfl) (yB 0) (by rfl) J ?_
 try simp only[yZ]
 refine PS (by kernel_rfl) ?_ _;have b7:=j.out.2.2.2.1.trans (m.mono j.out.2.2.2.1.size);have a7:=b7.trans (L.mono b7.size);have j0:f.heap.size=q:=HR.out.2.1.symm;have g9:=j.out.2.2.2.2.1.size;have j1:=j.out.2.2.2.1.size;have j2:=m.size;have HF:M6 (aCw w.heap.size y g (aC4 U (MI ⟨q,0,MH⟩) n) ⟨Yb c,[]⟩/\yA w y):=⟨aC2 D.out.2.1.size (by rw[<-HR.out.1];exact i4) (by omega) (W8 O fun b e=>L.block b (O.lt b e).2) (by omega) I.out.2.2.2.2 a7 (by omega) (by omega),j.out.2.2.2.2.1.trans (a7.mono g9)⟩;clear i4 J hHeld5 a7 b7 a0 hg L m b0 f3 O f8 j0 g9 j1 j2 hHeld HR;go_wp2
 go_ret2
 exact⟨g,_,rfl,HF.out.1,rfl,HF.out.2⟩
theorem aDf{c:Cf}(hc:adg c):∀(n:Nat) (es:List Ev),es.length=n->n<=1000000->(∀e∈es,Yk e=0)->XU c (aA2 (Yb c) es):=by
 intro n
 induction n with
 |zero=>intro es h _ _;obtain rfl:=List.length_eq_zero_iff.1 h;exact avq hc
 |succ n ih =>
  intro es h i f;obtain⟨l,e,rfl⟩:∃l e,es=l++[e]:=⟨es.dropLast,es.getLast (by intro q;rw[q]at h;cases h),(List.dropLast_concat_getLast _).symm⟩;rw[Ns,OU]at h;rw[aA5];exact(ih l (by omega) (by omega) fun x hx=>f x (List.mem_append_left _ hx)).step (f e (by simp)) (by rw[aA4];omega)
def aCV(P:Py):aEP:=⟨P.last,P.steps.map (·.out)⟩
theorem aCW(P:Py)(e:Ev):aCV (P.step e)=(aCV P).step e:=by
 show(⟨(Xb P.last e).Ma,(P.steps++[_]).map (fun s:Sp=>s.out)⟩:aEP)=⟨_,P.steps.map (·.out)++[_]⟩;rw[OI];rfl
structure aCA(W:MO)(U:Us)(po:Option Oc)(co:Nat)(xs:List aCy)(P:aEP):Prop where
 eqs:xs.map (·.2.2)=P.outs
 rows:Xw aC7 W (MG po xs.length co) xs
 all:∀x∈xs,Xw Z1 W (MG x.1 x.2.2.length x.2.1) x.2.2
 wat:Xd W U P.last
theorem aCA.below{W:MO}{U:Us}{po:Option Oc}{co:Nat}{xs:List aCy}{P:aEP}(h:aCA W U po co xs P)(hb:yA W Y):aCA Y U po co xs P :=
 ⟨h.eqs,h.rows.below hb,fun x hx=>(h.all x hx).below hb,h.wat.below hb⟩
theorem aCw.aEU{base:Nat}{w u:MO}{g:Nat}{V:aEQ}{P:aEP}(h:aCw base w g V P)(hs:w.heap.size<=u.heap.size)(hk:∀b,base<=b->b<w.heap.size->u.heap[b]?=w.heap[b]?):aCA u V.u V.p V.c V.xs P:=by
 have f:∀b,b<w.heap.size->¬V.off base g b->u.heap[b]?=w.heap[b]?:=fun b q1 q2=>hk b (by
  rcases Oq b base with e|e
  ·exact absurd (Nt e) q2
  ·exact e) q1
 exact⟨h.eqs,abw (W8 h.rows fun b e=>hk b (h.rows.lt b e).1 (h.rows.lt b e).2),fun x hx=>h.all x hx u hs f,h.last u hs f⟩
theorem aCL(e:Ev):(aaV e).length=8:=rfl
theorem aCU{c:Cf}(hc:adg c)(es:List Ev)(hes:∀e∈es,Yk e=0)(hl:es.length<=4000){p:Option Oc}{cc:Nat}{w:MO}(hblk:Xo w)(f:Nat)(hf:(f=9/\Xw aaV w (MG p es.length cc) es)\/(f=8/\∃fs,fs.length=es.length/\Xw aCQ w (MG p fs.length cc) fs/\∀(i:Nat) x,fs[i]?=MI x->∃e,es[i]?=MI e/\aCs w x/\aDE x.2.2=(e,0))) :
  Ni MK f #[Ny (ac8 c).toArray,MG p es.length cc] w fun r w'=>∃U po co xs,r=MN (Nv #[Ny (XR U (aA2 (Yb c) es).last),MG po xs.length co,yB 0])/\(∀X,aba w.heap.size w' X->aCA X U po co xs (aCV (aA2 (Yb c) es)))/\yA w w':=by
 obtain⟨K,hK⟩:∃K:List M7,K=ac8 c:=⟨_,rfl⟩;obtain⟨n,hn⟩:=yE es.length;have i4:n<=4000:=by omega
 have HB:M6 (∀W:MO,Ni MK 24 #[Ny K.toArray,yB (n:Int)] W _):=fun W=>by rw[hK];exact aCE c hc n i4 W
 have HL:M6 (K.length=16):=by show K.length=16;rw[hK];rfl
 rw[<-hK,<-hn];obtain⟨N,O⟩:∃X,X=w.alloc (MP K.toArray 36):=⟨_,rfl⟩;have B0:yA w N:=by rw[O];exact WQ w
 have r0:N.rangeAt w.heap.size 0 K:=by rw[O];exact agb (M1 _ _)
 have l0:w.heap.size<N.heap.size:=by rw[O];simp
 obtain⟨D,f8⟩:∃b,b=N.heap.size:=⟨_,rfl⟩;have s4:w.heap.size+1=D:=by rw[f8,O];simp
 obtain⟨z,b7⟩:=yE (N.alloc (MP wz.toArray 56));have B1:yA N z:=by rw[b7];exact WQ N
 have r4:z.heap[D]?=MI (MP wz.toArray 56 (0,0)):=by rw[b7,f8];exact M1 _ _
 have l7:yA w z:=B0.trans (B1.mono B0.size);have l8:((w.alloc (MP K.toArray 36)).alloc (MP wz.toArray 56)).rangeAt w.heap.size 0 K:=by rw[<-O,<-b7];exact afr r0 (B1.block _ l0)
 have i6:z=(w.alloc (MP K.toArray 36)).alloc (MP wz.toArray 56):=by rw[b7,O]
 have m:M6 (_/\_/\_/\_/\_/\_/\_/\_):=⟨hc,hes,hn,trivial,hblk,l7,r4,i4⟩;have H0:M6 (_/\_/\_):=⟨l8,i6,s4⟩;have m9:M6 (w.heap.size<=D):=by show w.heap.size<=D;omega
 have n8:n<=9223372036854775807:=by omega
 clear O B0 r0 l0 f8 s4 b7 B1 r4 l7 l8 i6 hK hc hes hl hblk hn i4;rcases hf with⟨rfl,HF⟩|⟨rfl,HF⟩
 all_goals replace HF:M6 _:=HF
 case' inl=>go_enter Tryz.func9,Tryz.ntmps9
 case' inr=>go_enter Tryz.func8,Tryz.ntmps8
 all_goals
  go_wp2_with ((with_reducible refine O3 rfl 36 (O6 2) rfl w.heap.size 0 ?gx K _ ?gc RC ?gd ?gi ?_);(case gx=>rfl);(case gc=>exact H0.out.1);(case gd=>rfl);(case gi=>rw[HL.out];exact ajj))
  rw[<-H0.out.2.1,H0.out.2.2];refine(HB.out z).mono ?_;rintro r w1 ⟨g,V,rfl,hP,k6,j6⟩;have H1:M6 (aCw z.heap.size w1 g V (aCV (aA2 (Yb c) (es.take 0)))/\V.xs.length=0/\yA z w1):=⟨by rw[List.take_zero];exact hP,by rw[k6];rfl,j6⟩;clear hP k6 j6 HB H0
  go_wp2_with fail
  go_loopw [24] (fun i wr=>∃(k:Nat) (V:aEQ),i=yB (k:Int)/\k<=n/\M6 (aCw z.heap.size wr g V (aCV (aA2 (Yb c) (es.take k)))/\V.xs.length=k/\yA z wr)) (fun i _=>n-(intOf i).toNat)
  case atStart=>exact⟨0,V,rfl,Nx _,H1⟩
  case round =>
   obtain⟨k,V,rfl,hk,y⟩:=hrel
   by_cases hlt:k<n
   ·have m4:(k:Int)<(n:Int):=by omega
    have a0:k<es.length:=by rw[<-m.out.2.2.1];exact hlt
    have L:yA w wr:=m.out.2.2.2.2.2.1.trans (y.out.2.2.mono m.out.2.2.2.2.2.1.size)
    first
    |have HV:M6 (Xw aaV w _ _):=HF
     obtain⟨a,m8,hv,_,m5,hp⟩:=Xw.F6 aCL (HV.out.below L);injection hv with ha hn2 hcap;obtain⟨bo,oo,a9,n4,a8⟩:=hp k a0;rw[<-ha]at a9;have a6:Yk es[k]=0:=m.out.2.1 _ (Nk a0);have H:es.take (k+1)=es.take k++[es[k]]:=M9 a0;obtain⟨e,he⟩:=yE (es[k]);rw[<-he]at a6 H;obtain⟨E,hE⟩:=yE (aaV e);have d9:E.length=8:=by rw[hE];rfl
     have j8:wr.rangeAt bo (oo+k*8) E:=fun j v hv=>by
      have hj:j<8:=by have:=(List.getElem?_eq_some_iff.1 hv).1;omega
      rw[a8 j hj,<-he,<-hE];exact hv
     have l2:E.toArray.all (·.oneCell')=true:=by rw[hE];exact OE (au7 e)
     have f9:E.toArray.size=8:=(show E.toArray.size=E.length from OQ).trans d9;have hZ:(wr.alloc (MP aCP.toArray 61)).heap[wr.heap.size]?=MI (MP aCP.toArray 61 (0,0)):=M1 _ _;obtain⟨Y,Z⟩:=yE ((wr.alloc (MP aCP.toArray 61)).setCells wr.heap.size 0 E);have l4:Y.heap[wr.heap.size]?=MI (MP E.toArray 61 (0,0)):=by rw[Z];exact anq hZ (by rw[d9];rfl)
     have b0:yA wr Y:=by rw[Z];exact adp (WQ wr) (MV _) _ _ (by simp)
     have d8:(wr.alloc (MP aCP.toArray 61)).there wr.heap.size 0 E.toArray.size:=by rw[f9];exact afH hZ
     have I:=aDf m.out.1 _ (es.take k) rfl (by rw[NH];have:=m.out.2.2.2.2.2.2.2;omega) fun x hx=>m.out.2.1 x (aE1 hx)
     have hT:=aDi (y.out.1.below b0) ⟨I.wm,I.out⟩ (by have:=y.out.2.1;have:=m.out.2.2.2.2.2.2.2;omega) (m.out.2.2.2.2.1.below (L.trans (b0.mono L.size))) (Nm y.out.2.2.size b0.size) e a6 (fun _=>by
      have h1:=I.now;rw[aA4,NH]at h1;have:=m.out.2.2.2.2.2.2.2;show(aA2 (Yb c) (es.take k)).last.now+1<=1099511626776;omega) _ (Nt rfl)
     rw[show agQ e=Ny E.toArray by rw[hE]]at hT;have HT:M6 _:=hT;have J:M6 (_/\_/\_/\_/\_/\_/\_/\_):=⟨j8,d9,l2,f9,d8,Z,agb l4,b0⟩;have HK:M6 _:=H;clear ha hn2 hcap a8 hp a0 L m5 a6 H he hE j8 d9 l2 f9 hZ Z l4 b0 d8 I hT;subst a9;have b8:M6 (_/\_):=⟨J.out.2.2.2.2.2.2.2,trivial⟩
     go_wp2_with (first|((with_reducible refine O3 rfl 61 (O6 26) rfl bo (oo+k*8) ?gx E _ ?gc aAq ?gd ?gi ?_);(case gx=>rfl);(case gc=>exact J.out.1);(case gd=>rfl);(case gi=>rw[J.out.2.1];exact anz))|((with_reducible refine OW rfl 61 (O6 10) (O6 27) rfl wr.heap.size 0 E.toArray ?sx ?sy ?st ?si ?s1 ?_);(case sx=>rfl);(case sy=>rfl);(case st=>exact J.out.2.2.2.2.1);(case si=>rw[J.out.2.2.2.1];exact anz);(case s1=>exact J.out.2.2.1);rw[NS,<-J.out.2.2.2.2.2.1])|((with_reducible refine O3 rfl 61 (O6 10) rfl wr.heap.size 0 ?gx E _ ?gc aAq ?gd ?gi ?_);(case gx=>rfl);(case gc=>exact J.out.2.2.2.2.2.2.1);(case gd=>rfl);(case gi=>rw[J.out.2.1];exact anz)))
    |have HV:M6 (∃fs:List aEO,_):=HF
     obtain⟨fs,m6,j2,m2⟩:=HV.out;obtain⟨a,m8,hv,_,_,hp⟩:=Xw.F6 aCR (j2.below L);injection hv with ha hn2 hcap;obtain⟨bo,oo,a9,n4,a8⟩:=hp k (by omega);rw[<-ha]at a9;have f0:=a8 0 (by omega);rw[P6]at f0;obtain⟨e,he,f6,hd⟩:=m2 k _ (MR (by omega));obtain⟨x,hx⟩:=yE (fs[k]'(by omega));rw[<-hx]at f0 f6 hd;have j9:=(List.getElem?_eq_some_iff.1 he).2;have a6:Yk e=0:=m.out.2.1 e (Nu he);have H:es.take (k+1)=es.take k++[e]:=by rw[<-j9];exact M9 a0
     obtain⟨Y,Z⟩:=yE wr;have I:=aDf m.out.1 _ (es.take k) rfl (by rw[NH];have:=m.out.2.2.2.2.2.2.2;omega) fun x hx=>m.out.2.1 x (aE1 hx)
     have hT:=aDi y.out.1 ⟨I.wm,I.out⟩ (by have:=y.out.2.1;have:=m.out.2.2.2.2.2.2.2;omega) (m.out.2.2.2.2.1.below L) y.out.2.2.size e a6 (fun _=>by
      have h1:=I.now;rw[aA4,NH]at h1;have:=m.out.2.2.2.2.2.2.2;show(aA2 (Yb c) (es.take k)).last.now+1<=1099511626776;omega) _ (NF ⟨x,rfl,f6.below L,hd⟩)
     have f1:wr.cell? ⟨bo,oo+k,MH⟩=MI (MG x.1 x.2.2.length x.2.1):=f0;have HT:M6 _:=hT;have HK:M6 _:=H;have b8:M6 (yA wr Y/\True):=⟨by rw[Z];exact MY _ _,trivial⟩;obtain⟨px,l6⟩:∃n,n=x.1:=⟨_,rfl⟩;obtain⟨cx,k9⟩:∃n,n=x.2.1:=⟨_,rfl⟩;obtain⟨nx,j4⟩:∃n,n=x.2.2.length:=⟨_,rfl⟩;rw[<-l6,<-k9,<-j4]at f1 HT;clear ha hn2 hcap a8 hp a0 L m2 f6 H hx f0 I hT l6 k9 j4 he j9 a6 hd j2 m6;subst a9;subst Z
     go_wp2_with fail
    refine Nd HT.out ?_;rintro r w5 ⟨rfl,V5,k7,k8,j7⟩;have H5:M6 (_/\_/\_):=⟨k7,j7,(y.out.2.2.trans (b8.out.1.mono y.out.2.2.size)).trans (k8.IT (y.out.1.below b8.out.1) (Nm y.out.2.2.size b8.out.1.size))⟩;clear k7 k8 j7 HT
    go_wp2_with fail
    go_roundw
    case rel=>exact⟨k+1,V5,by simp,hlt,⟨by rw[HK.out,aA5,aCW];exact H5.out.1,by rw[H5.out.2.1,y.out.2.1],H5.out.2.2⟩⟩
    case measure=>simp[intOf];omega
   ·obtain rfl:k=n:=by omega
    have m4:¬(k:Int)<(k:Int):=by omega
    have H:es.take k=es:=N1 (Nat.le_of_eq m.out.2.2.1.symm);rw[H]at y;obtain⟨P,hP⟩:=yE (aA2 (Yb c) es);rw[<-hP]at y;obtain⟨M,hM⟩:=yE ((XR V.u P.last).toList);have f3:M.toArray=XR V.u P.last:=by rw[hM]
    have b9:M.length=26:=by rw[hM];rfl
    have i9:M.toArray.all (·.oneCell')=true:=by rw[f3];exact ado _ _
    have hD:=y.out.1.below (MY wr.heap.size wr).drew;have f2:wr.drew.rangeAt g 0 M:=by rw[hM];exact hD.Mo
    have e9:wr.drew.cell? ⟨g,26,MH⟩=MI (MG V.p k V.c):=by rw[<-y.out.2.1];exact hD.Ip
    have e8:=y.out.1.lt;have n7:=y.out.1.low;have i7:D<z.heap.size:=(Array.getElem?_eq_some_iff.1 m.out.2.2.2.2.2.2.1).1;have g9:wr.drew.heap[D]?=MI (MP wz.toArray 56 (0,0)):=(y.out.2.2.block D i7).trans m.out.2.2.2.2.2.2.1;have d8:wr.drew.there D 0 M.toArray.size:=by rw[OQ,b9];exact afH g9
    obtain⟨A,a7⟩:=yE (wr.drew.setCells D 0 M);have l1:A.heap[D]?=MI (MP M.toArray 56 (0,0)):=by rw[a7];exact afG g9 (by rw[b9];rfl)
    have c9:∀b,b<wr.heap.size->b≠D->A.heap[b]?=wr.heap[b]?:=fun b q1 q2=>by rw[a7];exact N8 wr.drew _ _ _ q1 q2
    have i5:wr.heap.size<=A.heap.size:=by rw[a7,ac3];exact MV _
    have j3:A.rangeAt g 0 M:=afr f2 (c9 g e8 (by omega));have i8:A.cell? ⟨g,26,MH⟩=MI (MG V.p k V.c):=(World.cell?_of_block (c9 g e8 (by omega))).trans e9;have j0:=m9.out;have j1:yA w A:=by
     rw[a7];have hq:=m.out.2.2.2.2.2.1.trans (y.out.2.2.mono m.out.2.2.2.2.2.1.size);exact adF hq.drew j0 _ _ hq.size
    have m7:=m.out.2.2.2.2.2.1.size;have k0:∀X,aba w.heap.size A X->aCA X V.u V.p V.c V.xs (aCV P):=fun X hX=>y.out.1.aEU (Nm i5 hX.1) fun b q1 q2=>(hX.2 b (by omega) (M8 q2 i5)).trans (c9 b q2 (by omega))
    have m0:M6 (wr.drew.rangeAt g 0 M/\wr.drew.cell? ⟨g,26,MH⟩=MI (MG V.p k V.c)):=⟨f2,e9⟩;have l9:M6 (A.rangeAt g 0 M/\A.cell? ⟨g,26,MH⟩=MI (MG V.p k V.c)):=⟨j3,i8⟩;have HQ:M6 (_/\_/\_/\_):=⟨k0,j1,l1,f3⟩;have HM:M6 _:=b9;have HO:M6 (_/\_):=⟨i9,hP⟩;have m1:=y.out.2.1;have HX:M6 _:=m1;clear H hM f3 b9 hD f2 e9 e8 n7 i7 g9 l1 c9 i5 j3 i8 j0 j1 k0 i9 hP m1 m7
    go_wp2_with fail
    obtain⟨S,hS,m3,f7⟩:∃S:MO->Prop,(∀X,S X->X.rangeAt g 0 M/\X.cell? ⟨g,26,MH⟩=MI (MG V.p k V.c))/\S wr.drew/\S A:=⟨fun X=>X.rangeAt g 0 M/\X.cell? ⟨g,26,MH⟩=MI (MG V.p k V.c),fun _ h=>h,m0.out,l9.out⟩;have j5:M6 _:=hS;clear hS m0 l9;refine O2 (S:=S) (by kernel_rfl) m3 (fun hHeld=>?_);refine awW 0 (gP g) hHeld ?_;simp only[yZ];refine awW 1 (gP g) hHeld ?_;simp only[yZ];refine awW 2 (Na (MI ⟨g,0,MH⟩)) hHeld ?_;simp only[yZ];refine awW 3 (Ny M.toArray) hHeld ?_ (hy:=(Pt (by rfl) 56 (O6 35) rfl g 0 rfl M _ (fun _ h=>(j5.out _ h).1) azZ rfl (by rw[HM.out];exact Z0)));simp only[yZ];refine awW 4 (gP g) hHeld ?_;simp only[yZ];refine awW 5 (gP g) hHeld ?_;simp only[yZ];refine awW 6 (Na (MI ⟨g,26,MH⟩)) hHeld ?_;simp only[yZ];refine awW 7 (MG V.p k V.c) hHeld ?_ (hy:=(Nt ⟨by rfl,fun X hSw=>by have s1:=(j5.out X hSw).2;go_simp⟩));simp only[yZ];refine yR [8] ?_;refine afX (i:=8) (o:=_) (by rfl) (by rfl) 56 (O6 4) (O6 36) (by rfl) D 0 M.toArray (by rfl) (by rfl) d8 (by rw[OQ,HM.out];exact Z0) HO.out.1 (by rw[NS,<-a7];exact f7) ?_;rw[NS,<-a7]
    try simp only[yZ]
    refine yR [9] ?_;refine acK (i:=9) (o:=_) (by rfl) (by rfl) (O6 40) (by rfl) (MG V.p k V.c) (by rfl) f7 ?_
    try simp only[yZ]
    refine yR [10] ?_;refine acK (i:=10) (o:=_) (by rfl) (by rfl) (.const (yB 0)) (by rfl) (yB 0) (by rfl) f7 ?_
    try simp only[yZ]
    refine PS (by kernel_rfl) ?_ _;go_wp2;refine Np (v:=Nv #[Ny M.toArray,MG V.p k V.c,yB 0]) (akY (by first|exact Tryz.results9|exact Tryz.results8) rfl rfl rfl (akJ HQ.out.2.2.1 azZ rfl (by rw[HM.out];exact Z0))) rfl ?_;refine⟨V.u,V.p,V.c,V.xs,?_,by rw[<-HO.out.2];exact HQ.out.1,HQ.out.2.1⟩;rw[HQ.out.2.2.2,HX.out,HO.out.2]
theorem WU.Gm{base:Nat}{w:MO}{g:Nat}{V:Pv}{c:Cf}{P:Py}(h:WU base w g V c P):w.cell? ⟨g,16,MH⟩=MI (MG V.ps P.steps.length V.cs):=by
 rw[MW w g 16 _ _ (0,0) h.box,h.steps];rfl
structure aCB(W:MO)(ps:Option Oc)(k:Nat)(q:Sq)(b o:Nat):Prop where
 at_:ps=MI ⟨b,o,MH⟩
 cells:W.rangeAt b (o+k*61) (abK q)
 rd:aje W q
theorem XQ.step{w W:MO}{g:Nat}{V:Pv}{c:Cf}{P:Py}(h:XQ w W g V c P){k:Nat}(hk:k<P.steps.length):∃q b o,aCB W V.ps k q b o/\P.steps[k]?=MI q.s/\aaB c q.s:=by
 have H:=h.pat.steps;have i:k<V.qs.length:=by omega
 have m:Xw abK W (MG V.ps V.qs.length V.cs) V.qs:=abw h.pat.rows;obtain⟨a,A,f,_,_,p⟩:=Xw.F6 avt m;injection f with q1 _ _;obtain⟨b,o,u,D,z⟩:=p k i;have e:P.steps[k]?=MI V.qs[k].s:=by rw[<-h.pat.eqs,aEZ,MR i];rfl
 refine⟨V.qs[k],b,o,⟨q1.trans u,fun j v f=>?_,(h.pat.all _ (Nk i)).now⟩,e,h.rn.runs.chain _ (Nu e)⟩;have y:j<61:=(List.getElem?_eq_some_iff.1 f).1;rw[z j y];exact f
theorem aDc(f:Nat->Int)(hf:∀i,i<16->(Lit.int ME (f i)).wf=Nw)(ds:List Dd)(hds:∀d∈ds,ajd d){pd:Option Oc}{cd:Nat}{w:MO}(hrow:Xw agP w (MG pd ds.length cd) ds)(hblk:Xo w)(most:Nat)(hm:most<=100) :
  ∃L:List M7,L.length=16/\agc (f 0) (f 1) (f 2) (f 3) (f 4) (f 5) (f 6) (f 7) (f 8) (f 9) (f 10) (f 11) (f 12) (f 13) (f 14) (f 15)=Ny L.toArray/\∀W,yA w W->Ni MK 4 #[Ny L.toArray,MG pd ds.length cd,yB (most:Int)] W (au0 f most W):=
 ⟨[yB (f 0),yB (f 1),yB (f 2),yB (f 3),yB (f 4),yB (f 5),yB (f 6),yB (f 7),yB (f 8),yB (f 9),yB (f 10),yB (f 11),yB (f 12),yB (f 13),yB (f 14),yB (f 15)],rfl,rfl,fun W hB=>awU f hf ds hds W (hrow.below hB) (hblk.below hB) most hm⟩
theorem aDn(W:MO)(U:Us)(G:Gt):∃Y,Y=(W.alloc (MP wz.toArray 56)).setCells W.heap.size 0 (XR U G).toList/\Y.heap[W.heap.size]?=MI (MP (XR U G).toList.toArray 56 (0,0))/\yA W Y/\(W.alloc (MP wz.toArray 56)).there W.heap.size 0 (XR U G).toList.toArray.size:=by
 have e:(W.alloc (MP wz.toArray 56)).heap[W.heap.size]?=MI (MP wz.toArray 56 (0,0)):=M1 _ _;exact⟨_,rfl,anq e rfl,adp (WQ W) (MV _) _ _ (by simp),(show(W.alloc (MP wz.toArray 56)).there W.heap.size 0 (XR U G).toList.toArray.size from afH (old:=wz) e)⟩
theorem WU.aEW{base:Nat}{w:MO}{g:Nat}{V:Pv}{c:Cf}{P:Py}(h:WU base w g V c P)(j:Nat):w.cell? ⟨g,j,MH⟩=(adM V c P)[j]?:=by
 rw[MW w g j _ _ (0,0) h.box];simp
theorem aDa{W:MO}{p:Option Oc}{c:Nat}{L:List Ou}(h:Xw Z1 W (MG p L.length c) L){i:Nat}(hi:i<L.length) :
  ∃b o,p=MI ⟨b,o,MH⟩/\W.cell? ⟨b,o+i*7,MH⟩=MI (yB L[i].kind)/\W.cell? ⟨b,o+i*7+1,MH⟩=MI (yB L[i].slot)/\W.cell? ⟨b,o+i*7+2,MH⟩=MI (yB L[i].gen)/\W.cell? ⟨b,o+i*7+3,MH⟩=MI (yB L[i].be)/\W.cell? ⟨b,o+i*7+4,MH⟩=MI (yB L[i].req)/\W.cell? ⟨b,o+i*7+5,MH⟩=MI (yB L[i].code)/\W.cell? ⟨b,o+i*7+6,MH⟩=MI (yB L[i].why):=by
 obtain⟨a,u,f,_,_,j⟩:=Xw.F6 akV h;injection f with q1 _ _;obtain⟨b,o,m,_,e⟩:=j i hi;exact⟨b,o,q1.trans m,e 0 (by omega),e 1 (by omega),e 2 (by omega),e 3 (by omega),e 4 (by omega),e 5 (by omega),e 6 (by omega)⟩
section
variable {P:O8}{ops:Array Oper}{C:MO->Prop}{Q:Act->Prop}{o:Oper}{rest:List Oper}{a:Act}
theorem aDp{id:Nat}{R:Exit->Act->MO->Prop}{w:MO}{l:List Oper}(hC:C w.drew)(h:wpQuiet P l.toArray C (fun a'=>∀w',C w'->R .normal a' w') l a)(hm:P.follows .mixedOrders=true:=by kernel_rfl)(hB:Region.lexB .any l.toArray=true:=by kernel_rfl):(Code.region id l.toArray Nw).wp P R a w :=
 wp_region_quiet hm hB hC (by simpa using h)
theorem aDo{K:Act->Prop}(v:M7)(h:K (a.put o.dst v))(hv:∀w,C w->(execOp a.eval o).run P w=aE3 (.value v) w):o.quiet P a C K :=
 ⟨v,fun w hC=>by unfold Oper.quietAt;rw[hv w hC];exact⟨rfl,rfl⟩,h⟩
theorem aDq{K:Act->Prop}(v:M7)(f:FuncId)(args:Array M7)(hc:∀w,C w->Ni P f args w fun e w'=>e=MN v/\C w')(h:K (a.put o.dst v))(hv:∀w,(execOp a.eval o).run P w=aE3 (.enter f args) w:=by exact fun X=>by go_simp):o.quiet P a C K :=
 ⟨v,fun w hC=>by unfold Oper.quietAt;rw[hv w];exact⟨rfl,hc w hC⟩,h⟩
end
theorem aDg{l:List Ou}{p1 p2:Option Oc}{c1 c2:Nat}{w:MO}(h1:Xw Z1 w (MG p1 l.length c1) l)(h2:Xw Z1 w (MG p2 l.length c2) l) :
  Ni MK 10 #[MG p1 l.length c1,MG p2 l.length c2] w fun r w'=>r=MN (M3 Nw)/\yA w w':=by
 have L:l.length<=9223372036854775807:=by obtain⟨_,_,hv,hc,e,_⟩:=Xw.F6 akV h1;unfold NE at e;omega
 obtain⟨n,j⟩:=yE l.length;have m:M6 (_/\_/\_):=⟨h1,h2,j⟩;rw[<-j]at L⊢;have a0:((n:Int) != (n:Int))=false:=bne_self_eq_false _;clear h1 h2 j;go_enter Tryz.func10,Tryz.ntmps10;go_wp2
 go_loopw [5] (fun i wr=>∃k q:Nat,i=yB k/\k<=n/\wr=w.drewN q) (fun i _=>n-(intOf i).toNat)
 case atStart=>exact⟨0,0,rfl,Nx _,rfl⟩
 case round =>
  obtain⟨k,q,rfl,hk,rfl⟩:=hrel
  by_cases hlt:k<n
  ·have f:k<l.length:=by rw[<-m.out.2.2];exact hlt
   obtain⟨b1,o1,rfl,y,I,K,M,u,N,O⟩:=aDa m.out.1 f;obtain⟨b2,o2,rfl,Z,z,A,J,H,D,y7⟩:=aDa m.out.2.1 f;obtain⟨x,e⟩:=yE (l[k]);rw[<-e]at y I K M u N O Z z A J H D y7;have p:(k:Int)<(n:Int):=by omega
   have a6:Nn ((k:Int)<(n:Int))=true:=Nq p;clear e f;go_wp2
   go_region
   go_wp2
   go_roundw
   case rel=>exact⟨k+1,q+1,by simp,hlt,rfl⟩
   case measure=>simp[intOf];omega
  ·obtain rfl:k=n:=by omega
   go_wp2;go_ret;exact⟨rfl,amB (MY _ _) q⟩
theorem aCK(e:Ev):∀u∈aaV e,u.oneCell'=true:=au7 e
theorem aCY:(MK.info? 61).map (fun i=>(i.zero,i.size,i.bytes))=MI (MI (Ny aCP.toArray),8,64):=by kernel_rfl
def aCM(P:Py)(k:Nat):List Ev:=(P.steps.take k).map (·.ev)
theorem aCO{P:Py}{k:Nat}{s:Sp}(h:P.steps[k]?=MI s):aCM P (k+1)=aCM P k++[s.ev]:=by
 obtain⟨f,e⟩:=List.getElem?_eq_some_iff.1 h;unfold aCM;rw[M9 f,OI,e];rfl
theorem aCN{P:Py}(h:n=P.steps.length):aCM P n=P.steps.map (·.ev):=by
 unfold aCM;rw[h,NT]
theorem aCZ:(MK.info? 65).map (fun i=>(i.zero,i.size,i.bytes))=MI (MI (MG MH 0 0),1,24):=by kernel_rfl
theorem aCI(n:Nat):∀x∈aDP n,x<256:=by
 obtain⟨k,u,j,p,_⟩:=aDV (n+1) n (by omega);intro x f;obtain⟨i,m,rfl⟩:=List.getElem_of_mem f;have e:(aDP n).getD i 0=(aDP n)[i]:=by simp[Pq,MR m]
 rw[<-e]
 by_cases hk:i<k
 ·exact(j i hk).2
 ·obtain rfl:i=k:=by omega
  omega
theorem aCJ{e:Ev}(he:Yk e=0){W w':MO}(ho:w'.ownsRow W.heap.size 5 1 v (aDQ e).length (aDA (aDQ e))):
  ∃x:aEO,v=MG x.1 x.2.2.length x.2.1/\x.2.2=aDQ e/\∀S:Nat->Prop,(∀b,S b->b<W.heap.size)->XG S w' fun X=>aCs X x:=by
 obtain⟨fs,m,D,_⟩:=aDX he;have H:=aEs e fs fs.length (MV _) (aEM m D);rw[aEr e fs m]at H;have L:=(aD9 m).1;have I:=an3 m;have i:∀b∈aDQ e,b<256:=by
  intro b i;unfold aDQ at i;rcases OO.1 i with rfl|i
  ·omega
  ·obtain⟨f,_,h⟩:=List.mem_flatMap.1 i
   exact aCI _ b h
 have z:∀(p:Option Oc) (c:Nat),v=MG p (aDQ e).length c->c<=NE->∀S:Nat->Prop,(∀b,S b->b<W.heap.size)->XG S w' fun X=>aCs X (p,c,aDQ e):=fun p c hv y S hS X j u=>by
  refine⟨aDB (base:=W.heap.size) ?_,i,by show(aDQ e).length<=_;omega,y⟩;rw[<-hv];exact W8 ho fun b e=>u b (ho.lt b e).2 fun e2=>by have:=(ho.lt b e).1;have:=hS b e2;omega
 have J:=ho;obtain⟨_,⟨j,u⟩|⟨g,A,K,j,_,_,_,y,_,_⟩⟩:=ho
 ·exact⟨(MH,0,aDQ e),by rw[u,j],rfl,z MH 0 (by rw[u,j]) (by unfold NE;omega)⟩
 ·exact⟨(MI ⟨g,0,MH⟩,A,aDQ e),j,rfl,z _ A j y⟩
def aCz(base:Nat)(w:MO)(T:NU)(k:Nat)(v:M7)(n:Nat)(cs:List M7)(T2:NU)(k2:Nat)(v2:M7)(n2:Nat)(cs2:List M7)(F:MO->Prop):Prop :=
 w.ownsRow base T k v n cs/\w.ownsRow base T2 k2 v2 n2 cs2/\(∀b,v.ownBlock=MI b->v2.ownBlock≠MI b)/\XG (fun b=>v.ownBlock=MI b\/v2.ownBlock=MI b) w F
section
variable {base:Nat}{w w':MO}{T T2:NU}{k n k2 n2:Nat}{v v2:M7}{cs cs2:List M7}{F:MO->Prop}
theorem aCz.aEV(h:aCz base w T k v n cs T2 k2 v2 n2 cs2 F):aCz base w T2 k2 v2 n2 cs2 T k v n cs F :=
 ⟨h.2.1,h.1,fun b e e2=>h.2.2.1 b e2 e,h.2.2.2.step (MV _) (fun _ _ _=>rfl) fun b _ e=>e.symm⟩
theorem aCz.below(h:aCz base w T k v n cs T2 k2 v2 n2 cs2 F)(hb:yA w w'):aCz base w' T k v n cs T2 k2 v2 n2 cs2 F :=
 ⟨W8 h.1 fun b e=>hb.block b (h.1.lt b e).2,W8 h.2.1 fun b e=>hb.block b (h.2.1.lt b e).2,h.2.2.1,h.2.2.2.below hb⟩
theorem aCz.MB(h:aCz base w T k v n cs T2 k2 v2 n2 cs2 F){v':M7}{n' q:Nat}{cs':List M7}(ho:w'.ownsRow base T k v' n' cs')(hq:v'.ownBlock=MI q)(hg:w.grownBy w' v.ownBlock)(hl:v.ownBlock=MI q\/w.heap.size<q):aCz base w' T k v' n' cs' T2 k2 v2 n2 cs2 F:=by
 have i:∀b,b<w.heap.size->v.ownBlock≠MI b->w'.heap[b]?=w.heap[b]?:=fun b e hn=>hg.block b e fun e2=>hn e2.symm
 refine⟨ho,W8 h.2.1 fun b e=>i b (h.2.1.lt b e).2 fun e2=>h.2.2.1 b e2 e,fun b e e2=>?_,h.2.2.2.step hg.size (fun b e hn=>i b e fun e2=>hn (Nt e2)) fun b e hn=>?_⟩
 ·obtain rfl:=NC (hq.symm.trans e)
  rcases hl with hl|hl
  ·exact h.2.2.1 _ hl e2
  ·have:=(h.2.1.lt _ e2).2;omega
 ·rcases hn with f|f
  ·obtain rfl:=NC (hq.symm.trans f)
   exact Nt (hl.resolve_right (by omega))
  ·exact NF f
end
theorem aCT{k:Nat}{P:Py}{fs:List aEO}(h:fs.map (·.2.2)=(aCM P k).map aDQ)(hf:∀e∈aCM P k,Yk e=0){w:MO}(hF:∀z∈fs,aCs w z)(i:Nat)(x:aEO)(hx:fs[i]?=MI x):∃e,(aCM P k)[i]?=MI e/\aCs w x/\aDE x.2.2=(e,0):=by
 have j:=congrArg (·[i]?) h;simp only[aEZ,hx,OH]at j;obtain⟨e,f,m⟩:=Option.map_eq_some_iff.1 j.symm;exact⟨e,f,hF x (Nu hx),by rw[<-m];exact aDF (hf e (Nu f))⟩
theorem aDk(f:Nat->Int)(hf:∀i,i<16->(Lit.int ME (f i)).wf=Nw)(ds:List Dd)(hds:∀d∈ds,ajd d){pd:Option Oc}{cd:Nat}{w:MO}(hrow:Xw agP w (MG pd ds.length cd) ds)(hB:Xo w)(hG:Gs w) :
  Ni MK 3 #[agc (f 0) (f 1) (f 2) (f 3) (f 4) (f 5) (f 6) (f 7) (f 8) (f 9) (f 10) (f 11) (f 12) (f 13) (f 14) (f 15),MG pd ds.length cd] w fun r w'=>r=MN (M3 Nw)/\yA w w':=by
 obtain⟨L,hL,eL,s9⟩:=aDc f hf ds hds hrow hB 60 (by omega);rw[eL];obtain⟨W0,m3⟩:=yE (w.alloc (MP L.toArray 24));have m0:yA w W0:=by rw[m3];exact WQ w
 have HI:M6 (_/\_/\_):=⟨hL,m0,s9 W0 m0⟩;obtain⟨nd,t0⟩:=yE ds.length;rw[<-t0]at HI⊢;have m2:M6 _:=hG;clear hG;clear hL eL s9 m0 hf hds hrow hB t0;go_enter Tryz.func3,Tryz.ntmps3
 go_wp2_with ((with_reducible refine O3 rfl 24 (O6 2) rfl w.heap.size 0 ?gx L _ ?gc Tryz.underlying24 ?gd ?gi ?_);(case gx=>rfl);(case gc=>exact afW (M1 _ _));(case gd=>rfl);(case gi=>rw[HI.out.1];exact apz))
 rw[<-m3];clear m3;refine Nd HI.out.2.2 ?_;rintro r w1 ⟨g,V,c,P,rfl,hS,f3,m8,v6,p0⟩;obtain⟨n,hn⟩:=yE P.steps.length;have u:M6 (_/\_/\_/\_/\_):=⟨hS,f3,hn,(show n<=60+4 by omega),p0⟩;have p9:=HI.out.2.1.trans (hS.bel.mono HI.out.2.1.size);have HB:M6 _:=p9;clear hS f3 m8 v6 p0 hn HI p9
 go_wp2_with fail
 go_loopw [7,8,9] (fun s f i wr=>∃(k:Nat) (p p2:Option Oc) (cc c2:Nat) (fs:List aEO),s=MG p k cc/\f=MG p2 k c2/\i=yB (k:Int)/\k<=n/\M6 (aCz w1.heap.size wr 61 8 (MG p k cc) k (rv aaV (aCM P k)) 65 1 (MG p2 k c2) k (rv aCQ fs) (fun X=>∀z∈fs,aCs X z)/\fs.map (·.2.2)=(aCM P k).map aDQ/\yA w1 wr)) (fun _ _ i _=>n-(intOf i).toNat)
 case atStart=>exact⟨0,MH,MH,0,0,[],rfl,rfl,rfl,Nx _,⟨⟨rfl,Nt ⟨rfl,rfl⟩⟩,⟨rfl,Nt ⟨rfl,rfl⟩⟩,fun _ e=>(by cases e),fun _ _ _ z hz=>absurd hz OD⟩,rfl,MY _ _⟩
 case round =>
  obtain⟨k,p,p2,cc,c2,fs,rfl,rfl,rfl,hk,H⟩:=hrel;have y8:n<=64:=u.out.2.2.2.1;have z1:n<=9223372036854775807:=by omega
  by_cases hlt:k<n
  ·have v4:(k:Int)<(n:Int):=by omega
   obtain⟨q,b,o,I,j2,k7⟩:=u.out.1.step (k:=k) (by rw[<-u.out.2.2.1];exact hlt);have b0:=aCO j2;have b7:=k7.ev;obtain⟨⟨e,s1,s2,s3⟩,qu,qv,qp,qc⟩:=q;obtain⟨kd,ky,sl,gn,gd,rq,be,wt⟩:=e;have a7:b<w1.heap.size:=MX w1 ⟨b,_,MH⟩ (I.cells 0 _ rfl);have D:∀X,yA w1 X->X.cell? ⟨g,16,MH⟩=MI (MG (MI ⟨b,o,MH⟩) n V.cs)/\X.cell? ⟨b,o+k*61,MH⟩=MI (yB kd)/\X.cell? ⟨b,o+k*61+1,MH⟩=MI (yB ky)/\X.cell? ⟨b,o+k*61+2,MH⟩=MI (yB sl)/\X.cell? ⟨b,o+k*61+3,MH⟩=MI (yB gn)/\X.cell? ⟨b,o+k*61+4,MH⟩=MI (M3 gd)/\X.cell? ⟨b,o+k*61+5,MH⟩=MI (yB rq)/\X.cell? ⟨b,o+k*61+6,MH⟩=MI (yB be)/\X.cell? ⟨b,o+k*61+7,MH⟩=MI (yB wt):=fun X m =>
    ⟨by rw[u.out.2.2.1,<-I.at_];exact(u.out.1.on m).pat.Gm,(m.cell (p:=⟨b,o+k*61+0,MH⟩) a7).trans (I.cells 0 _ rfl),(m.cell (p:=⟨b,o+k*61+1,MH⟩) a7).trans (I.cells 1 _ rfl),(m.cell (p:=⟨b,o+k*61+2,MH⟩) a7).trans (I.cells 2 _ rfl),(m.cell (p:=⟨b,o+k*61+3,MH⟩) a7).trans (I.cells 3 _ rfl),(m.cell (p:=⟨b,o+k*61+4,MH⟩) a7).trans (I.cells 4 _ rfl),(m.cell (p:=⟨b,o+k*61+5,MH⟩) a7).trans (I.cells 5 _ rfl),(m.cell (p:=⟨b,o+k*61+6,MH⟩) a7).trans (I.cells 6 _ rfl),(m.cell (p:=⟨b,o+k*61+7,MH⟩) a7).trans (I.cells 7 _ rfl)⟩
   obtain⟨i5,d0,d1,d2,d3,d4,d5,d6,d7⟩:=D wr H.out.2.2;have i7:=((u.out.1.on H.out.2.2).pat).lt;obtain⟨g2,c3,w5,r8,f8,m5,o9⟩:=afC aCL aCK (by decide) Tryz.underlying29 aCY rfl H.out.1.1 H.out.2.2.size 29 (⟨kd,ky,sl,gn,gd,rq,be,wt⟩:Ev) #[yB kd,yB ky,yB sl,yB gn,M3 gd,yB rq,yB be,yB wt] rfl (by omega) (by unfold NE;omega);have a9:=H.out.2.2.grown m5 H.out.2.2.size (fun j hj=>(H.out.1.1.lt j hj).1);obtain⟨u7,x0,x1,x2,x3,x4,x5,x6,x7⟩:=D w5 a9;have u0:=((u.out.1.on a9).pat).lt;have p5:M6 _:=aDW (⟨kd,ky,sl,gn,gd,rq,be,wt⟩:Ev) w5 b7;have H5:M6 (_/\_/\_/\_/\_):=⟨r8,H.out.1.MB f8 rfl m5 o9,a9,b0,b7⟩;clear D r8 f8 a9 m5 o9 b0 j2 k7 I b7 a7
   go_wp2_with (at_builtin;(with_reducible refine Z4 rfl _ _ 29 rfl (MG p k cc) (MG (MI ⟨wr.heap.size,0,MH⟩) 1 1) (MG (MI ⟨g2,0,MH⟩) (k+1) c3) w5 ?hs ?hx ?hr ?_);(case hs=>rfl);(case hx=>rfl);(case hr=>exact H5.out.1))
   refine Nd p5.out ?_;rintro r w6 ⟨vb,rfl,t5,m1⟩;obtain⟨y,rfl,hy,hF⟩:=aCJ H5.out.2.2.2.2 t5;have j0:=(H5.out.2.1.below m1).aEV;have k8:aCz w1.heap.size w6 65 1 (MG p2 k c2) k (rv aCQ fs) 61 8 (MG (MI ⟨g2,0,MH⟩) (k+1) c3) (k+1) _ (fun X=>∀z∈fs++[y],aCs X z):=⟨j0.1,j0.2.1,j0.2.2.1,fun X h1 h2 z hz=>by
    rcases QF.1 hz with hz|hz
    ·exact j0.2.2.2 X h1 h2 z hz
    ·rw[List.mem_singleton.1 hz]
     exact hF _ (fun b e=>e.elim (fun e=>(H5.out.2.1.2.1.lt b e).2) fun e=>(H5.out.2.1.1.lt b e).2) X h1 h2⟩
   have j6:=H5.out.2.2.1.trans (m1.mono H5.out.2.2.1.size);obtain⟨g3,c4,w7,p8,t6,l7,r9⟩:=afC aCR aCS (by decide) Tryz.underlying30 aCZ rfl k8.1 j6.size 30 y #[MG y.1 y.2.2.length y.2.1] rfl (by omega) (by unfold NE;omega);have H7:M6 (_/\_/\_/\_):=⟨p8,(k8.MB t6 rfl l7 r9).aEV,j6.grown l7 j6.size (fun j hj=>(k8.1.lt j hj).1),hy⟩;obtain⟨px,t8⟩:∃n,n=y.1:=⟨_,rfl⟩;obtain⟨cx,f3⟩:∃n,n=y.2.1:=⟨_,rfl⟩;obtain⟨nx,o7⟩:∃n,n=y.2.2.length:=⟨_,rfl⟩;rw[<-t8,<-f3,<-o7]at H7⊢;clear t5 m1 hF hy j0 k8 j6 p8 t6 l7 r9 p5 i5 d0 d1 d2 d3 d4 d5 d6 d7 u7 x0 x1 x2 x3 x4 x5 x6 x7 i7 u0 t8 f3 o7
   go_wp2_with (at_builtin;(with_reducible refine Z4 rfl _ _ 30 rfl (MG p2 k c2) (MG (MI ⟨w6.heap.size,0,MH⟩) 1 1) (MG (MI ⟨g3,0,MH⟩) (k+1) c4) w7 ?hs ?hx ?hr ?_);(case hs=>rfl);(case hx=>rfl);(case hr=>exact H7.out.1))
   go_roundw
   case rel=>exact⟨k+1,MI ⟨g2,0,MH⟩,MI ⟨g3,0,MH⟩,c3,c4,fs++[y],rfl,rfl,by simp,hlt,by rw[H5.out.2.2.2.1];exact H7.out.2.1,by rw[H5.out.2.2.2.1,OI,OI,H.out.2.1];show _++[y.2.2]=_++[aDQ _];rw[H7.out.2.2.2],H7.out.2.2.1⟩
   case measure=>simp[intOf];omega
  ·obtain rfl:k=n:=by omega
   have v4:¬(k:Int)<(k:Int):=by omega
   have a0:=u.out.1.on H.out.2.2;have i5:wr.cell? ⟨g,16,MH⟩=MI (MG V.ps k V.cs):=by rw[u.out.2.2.1];exact a0.pat.Gm
   have i7:=a0.pat.lt;obtain⟨A,b0⟩:=yE (P.steps.map (·.ev));have f9:aCM P k=A:=(aCN u.out.2.2.1).trans b0.symm;have f2:k=A.length:=by rw[b0,N0];exact u.out.2.2.1
   have b7:∀e∈A,Yk e=0:=fun e he=>by
    rw[b0]at he;obtain⟨s,hs,rfl⟩:=List.mem_map.1 he;exact(u.out.1.rn.runs.chain s hs).ev
   have o3:aA2 (Yb c) A=P:=by rw[b0];exact u.out.1.rn.aET.symm
   obtain⟨K,hK⟩:=yE (ac8 c);have q6:∀X,yA wr X->X.rangeAt g 0 K:=fun X m j v hv=>by
    have hj:j<16:=by have:=(List.getElem?_eq_some_iff.1 hv).1;rw[hK]at this;exact this
    rw[Oa,(a0.on m).pat.aEW j];show(ac8 c++_)[j]?=_;rw[OJ (show j<16 from hj),<-hK];exact hv
   have m4:fs.length=k:=by
    have h:=congrArg aFd H.out.2.1;rw[N0,N0,f9]at h;rw[h,f2]
   have s0:Xw aaV wr (MG p A.length cc) A:=by
    have h:=H.out.1.1;rw[f9]at h;have h2:wr.ownsRow w1.heap.size 61 8 (MG p A.length cc) A.length (rv aaV A):=by rw[<-f2];exact h
    exact abw h2
   have t4:Xw aCQ wr (MG p2 fs.length c2) fs:=abw (by rw[m4];exact H.out.1.2.1);have l8:=aCT H.out.2.1 (by rw[f9];exact b7) H.out.1.2.2.2.now;rw[f9]at l8;have l6:=HB.out.trans (H.out.2.2.mono HB.out.size);have l9:Gs wr:=Gs.below m2.out l6 m2.out.2.2.2;have m6:M6 _:=aCj _ A wr l9 b7 (by omega) s0;rw[<-f2]at m6;have y0:M6 (yA wr wr):=MY _ _;have N:M6 (_/\_/\_/\_/\_/\_/\_):=⟨o3,b7,(by omega:A.length<=4000),a0.blk,f2,b0,hK.symm⟩;have HF:M6 (_/\_/\_/\_/\_):=⟨m4.trans f2,t4,l8,l9,l6⟩;have J:M6 (_/\K.length=16):=⟨q6,by rw[hK];rfl⟩;clear f9 f2 b7 o3 q6 m4 s0 t4 l8 l9 l6 b0 hK a0
   go_wp2_with fail
   refine Nd m6.out ?_;rintro r w2 ⟨rfl,l2⟩;have t7:M6 _:=aCe A N.out.2.1 (by have:=N.out.2.2.2.2.1;omega) w2 (Gs.below HF.out.2.2.2.1 l2 (Nm m2.out.2.2.2 HF.out.2.2.2.2.size));clear m6
   go_wp2_with fail
   refine Nd t7.out ?_;rintro r w3 ⟨vb,rfl,hv,q7⟩;obtain⟨pb,cb,rfl,_,_⟩:=Xw.Ga hv;have e9:M6 (yA wr w3):=l2.trans (q7.mono l2.size);have HV:M6 _:=hv;rw[<-N.out.2.2.2.2.1];clear l2 q7 hv t7;have hR:=aCU (w:=w3) u.out.2.1.ok A N.out.2.1 N.out.2.2.1 (N.out.2.2.2.1.below e9.out) 8 (NF ⟨rfl,fs,HF.out.1,HF.out.2.1.below e9.out,fun i x hx=>(HF.out.2.2.1 i x hx).imp fun e h=>⟨h.1,h.2.1.below e9.out,h.2.2⟩⟩);rw[<-N.out.2.2.2.2.1,N.out.1,N.out.2.2.2.2.2.2]at hR;have HR:M6 _:=hR;clear hR
   go_wp2_with ((with_reducible refine O3 rfl 36 (O6 84) rfl g 0 ?gx K _ ?gc RC ?gd ?gi ?_);(case gx=>rfl);(case gc=>exact J.out.1 _ e9.out);(case gd=>rfl);(case gi=>rw[J.out.2];exact ajj))
   refine Nd HR.out ?_;rintro r w4 ⟨U4,y9,u3,b8,rfl,i8,l1⟩;have d9:=i8 w4 (aba.Gy _ _);have e8:b8.length=k:=by
    have h:=congrArg aFd d9.eqs;rw[N0]at h;rw[h];show(P.steps.map (·.out)).length=k;rw[N0];exact u.out.2.2.1.symm
   obtain⟨Y4,hY,j1,a8,d8⟩:=aDn w4 U4 P.last;obtain⟨M4,O⟩:∃M,M=(XR U4 P.last).toList:=⟨_,rfl⟩;rw[show XR U4 P.last=M4.toArray by rw[O],e8];rw[<-O]at hY d8;have c9:=e9.out.trans (l1.mono e9.out.size);have t9:M6 (yA w3 Y4):=l1.trans (a8.mono l1.size);have j7:M6 (yA wr Y4):=c9.trans (a8.mono c9.size);have Z:M6 (_/\_/\_/\_/\_):=⟨d8,(show M4.toArray.size=26 by rw[O];rfl),(show M4.toArray.all (·.oneCell')=Nw by rw[O];exact ado _ _),hY,j1⟩;have o8:M6 (_/\_):=⟨d9.below a8,e8⟩;clear i8 d9 e8 hY j1 a8 d8 O c9 l1 HR
   go_wp2_with (first|((with_reducible refine OW rfl 56 (O6 18) (O6 88) rfl w4.heap.size 0 M4.toArray ?sx ?sy ?st ?si ?s1 ?_);(case sx=>rfl);(case sy=>rfl);(case st=>exact Z.out.1);(case si=>rw[Z.out.2.1];exact Z0);(case s1=>exact Z.out.2.2.1);rw[NS,<-Z.out.2.2.2.1])|((with_reducible refine O3 rfl 36 (O6 94) rfl g 0 ?gx K _ ?gc RC ?gd ?gi ?_);(case gx=>rfl);(case gc=>exact J.out.1 _ j7.out);(case gd=>rfl);(case gi=>rw[J.out.2];exact ajj)))
   clear Z;have u1:M6 (Xw aaV Y4 (MG pb A.length cb) A):=(show Xw aaV w3 _ _ from HV.out).below (w':=Y4) t9.out;have hR:=aCU (w:=Y4) u.out.2.1.ok A N.out.2.1 N.out.2.2.1 (N.out.2.2.2.1.below j7.out) 9 (Nt ⟨rfl,u1.out⟩);rw[<-N.out.2.2.2.2.1,N.out.1,N.out.2.2.2.2.2.2]at hR;have HR:M6 _:=hR;clear hR;refine Nd HR.out ?_;rintro r w5 ⟨U5,z0,v0,b9,rfl,i8,a9⟩;have d9:=i8 w5 (aba.Gy _ _);have e8:b9.length=k:=by
    have h:=congrArg aFd d9.eqs;rw[N0]at h;rw[h];show(P.steps.map (·.out)).length=k;rw[N0];exact u.out.2.2.1.symm
   obtain⟨Y5,hY,j1,a8,d8⟩:=aDn w5 U5 P.last;obtain⟨M5,O⟩:∃M,M=(XR U5 P.last).toList:=⟨_,rfl⟩;rw[show XR U5 P.last=M5.toArray by rw[O],e8];rw[<-O]at hY d8;have c9:=j7.out.trans (a9.mono j7.out.size);have n7:M6 (yA Y4 Y5):=a9.trans (a8.mono a9.size);have o6:M6 (yA wr Y5):=c9.trans (a8.mono c9.size);have Z:M6 (_/\_/\_/\_/\_):=⟨d8,(show M5.toArray.size=26 by rw[O];rfl),(show M5.toArray.all (·.oneCell')=Nw by rw[O];exact ado _ _),hY,j1⟩;have p6:M6 (_/\_):=⟨d9.below a8,e8⟩;clear i8 d9 e8 hY j1 a8 d8 O c9 a9 HR
   go_wp2_with ((with_reducible refine OW rfl 56 (O6 21) (O6 98) rfl w5.heap.size 0 M5.toArray ?sx ?sy ?st ?si ?s1 ?_);(case sx=>rfl);(case sy=>rfl);(case st=>exact Z.out.1);(case si=>rw[Z.out.2.1];exact Z0);(case s1=>exact Z.out.2.2.1);rw[NS,<-Z.out.2.2.2.1])
   clear Z;have z2:((k:Int) != (k:Int))=false:=bne_self_eq_false _
   go_wp2_with fail
   go_loopw [24] (fun i wr=>∃j:Nat,i=yB (j:Int)/\j<=k/\M6 (yA Y5 wr)) (fun i _=>k-(intOf i).toNat)
   case atStart=>exact⟨0,rfl,Nx _,MY _ _⟩
   case round =>
    obtain⟨j,rfl,hj,HX⟩:=hrel;have k9:=o6.out.trans (HX.out.mono o6.out.size)
    by_cases hlj:j<k
    ·have u2:(j:Int)<(k:Int):=by omega
     have a0:=(u.out.1.on H.out.2.2).on k9;have j4:=o8.out.1.below (n7.out.trans (HX.out.mono n7.out.size));have k0:=p6.out.1.below HX.out;obtain⟨q,b,o,I,j2,k7⟩:=a0.step (k:=j) (by rw[<-u.out.2.2.1];exact hlj);have j9:j<b8.length:=by rw[o8.out.2];exact hlj
     have j3:j<b9.length:=by rw[p6.out.2];exact hlj
     have p4:(aCV P).outs[j]?=MI q.s.out:=by show(P.steps.map (·.out))[j]?=_;rw[aEZ,j2];rfl
     have l4:∀(xs:List aCy) (h:j<xs.length),xs.map (·.2.2)=(aCV P).outs->xs[j].2.2=q.s.out:=fun xs hx h=>by
      have h:=congrArg (·[j]?) h;simp only[p4,aEZ,MR hx,OH,Qs]at h;exact h
     have q9:=l4 b8 j9 j4.eqs;have f8:=l4 b9 j3 k0.eqs;have j8:=j4.all _ (Nk j9);obtain⟨a4,v9,v7,_,_,s8⟩:=Xw.F6 aC8 j4.rows;injection v7 with ha4 m8 hcap4;obtain⟨i9,i6,o4,o5,m9⟩:=s8 j j9;rw[<-ha4]at o4;have f4:=m9 0 (by omega);rw[P6]at f4;have j5:=k0.all _ (Nk j3);obtain⟨a5,v8,u5,_,_,p7⟩:=Xw.F6 aC8 k0.rows;injection u5 with ha5 hn5 hcap5;obtain⟨g9,f6,n9,n8,n4⟩:=p7 j j3;rw[<-ha5]at n9;have f5:=n4 0 (by omega);rw[P6]at f5;have k6:wr.cell? ⟨b,o+j*61+60,MH⟩=MI (MG q.po q.s.out.length q.co):=I.cells 60 _ rfl;have i5:wr.cell? ⟨g,16,MH⟩=MI (MG (MI ⟨b,o,MH⟩) k V.cs):=by rw[<-I.at_,u.out.2.2.1];exact a0.pat.Gm
     have i7:=a0.pat.lt;have s7:=I.rd.2.2;have o0:b<wr.heap.size:=MX wr ⟨b,_,MH⟩ k6;have f7:wr.cell? ⟨i9,i6+j,MH⟩=MI (MG b8[j].1 b8[j].2.2.length b8[j].2.1):=f4;have i4:wr.cell? ⟨g9,f6+j,MH⟩=MI (MG b9[j].1 b9[j].2.2.length b9[j].2.1):=f5;rw[q9]at f7 j8;rw[f8]at i4 j5;obtain⟨x4,q0⟩:∃x,x=b8[j].1:=⟨_,rfl⟩;obtain⟨x5,p3⟩:∃x,x=b9[j].1:=⟨_,rfl⟩;obtain⟨z4,s5⟩:∃x,x=b8[j].2.1:=⟨_,rfl⟩;obtain⟨z5,t3⟩:∃x,x=b9[j].2.1:=⟨_,rfl⟩;rw[<-q0,<-s5]at f7 j8;rw[<-p3,<-t3]at i4 j5;obtain⟨nl,m7⟩:∃n,n=q.s.out.length:=⟨_,rfl⟩;obtain⟨C,a6,hC1⟩:∃C:MO->Prop,(∀X,C X->yA wr X)/\(∀X,yA wr X->C X):=⟨_,fun _ h=>h,fun _ h=>h⟩;have hsm:∀(x:Option Oc) (z:Nat),Xw Z1 wr (MG x q.s.out.length z) q.s.out->∀X,C X->Ni MK 10 #[MG x nl z,MG q.po nl q.co] X fun r w'=>r=MN (M3 Nw)/\C w':=fun x z hr X m=>by
      rw[m7];exact(aDg (hr.below (a6 X m)) (s7.below (a6 X m))).mono fun r w' h=>⟨h.1,hC1 w' ((a6 X m).trans (h.2.mono (a6 X m).size))⟩
     rw[<-m7]at f7 i4 k6;have J:M6 ((∀X,C X->X.cell? ⟨i9,i6+j,MH⟩=MI (MG x4 nl z4))/\(∀X,C X->X.cell? ⟨g,16,MH⟩=MI (MG (MI ⟨b,o,MH⟩) k V.cs))/\(∀X,C X->X.cell? ⟨b,o+j*61+60,MH⟩=MI (MG q.po nl q.co))/\_/\(∀X,C X->X.cell? ⟨g9,f6+j,MH⟩=MI (MG x5 nl z5))/\_/\(∀X,C X->yA Y5 X)/\C wr.drew):=
      ⟨fun X m=>((a6 X m).cell (p:=⟨i9,i6+j,MH⟩) o5).trans f7,
        fun X m=>((a6 X m).cell (p:=⟨g,16,MH⟩) i7).trans i5,
        fun X m=>((a6 X m).cell (p:=⟨b,o+j*61+60,MH⟩) o0).trans k6,
        hsm _ _ j8,
        fun X m=>((a6 X m).cell (p:=⟨g9,f6+j,MH⟩) n8).trans i4,
        hsm _ _ j5,
        fun X m=>HX.out.trans ((a6 X m).mono HX.out.size),
        hC1 _ (MY _ _).drew⟩
     clear f4 f5 f7 i4 k6 i5 i7 s7 j8 j5 o0 m7 a6 hC1 I j2 k7 a0 j4 k0 j9 j3 ha4 ha5 m8 hn5 hcap4 hcap5 o5 n8 m9 n4 s8 p7 hsm l4 q9 f8 p4 k9 q0 p3 s5 t3;subst o4;subst n9
     go_wp2_with fail
     refine aDp (C:=C) J.out.2.2.2.2.2.2.2 ?_
     go_big_quiet_want
     refine aDo (MG (MI ⟨i9,i6,MH⟩) k u3) ?_ (fun X hSw=>by go_simp);simp only[yZ]
     go_big_quiet_on
     go_big_quiet_want
     refine aDo (yB (j:Int)) ?_ (fun X hSw=>by go_simp);simp only[yZ]
     go_big_quiet_on
     go_big_quiet_want
     refine aDo (Na (MI ⟨i9,i6+j,MH⟩)) ?_ (fun X hSw=>by go_simp);simp only[yZ]
     go_big_quiet_on
     go_big_quiet_want
     refine aDo (MG x4 nl z4) ?_ (fun X hSw=>by have h:=J.out.1 X hSw;go_simp);simp only[yZ]
     go_big_quiet_on
     go_big_quiet_want
     refine aDo (gP g) ?_ (fun X hSw=>by go_simp);simp only[yZ]
     go_big_quiet_on
     go_big_quiet_want
     refine aDo (gP g) ?_ (fun X hSw=>by go_simp);simp only[yZ]
     go_big_quiet_on
     go_big_quiet_want
     refine aDo (Na (MI ⟨g,16,MH⟩)) ?_ (fun X hSw=>by go_simp);simp only[yZ]
     go_big_quiet_on
     go_big_quiet_want
     refine aDo (MG (MI ⟨b,o,MH⟩) k V.cs) ?_ (fun X hSw=>by have h:=J.out.2.1 X hSw;go_simp);simp only[yZ]
     go_big_quiet_on
     go_big_quiet_want
     refine aDo (yB (j:Int)) ?_ (fun X hSw=>by go_simp);simp only[yZ]
     go_big_quiet_on
     go_big_quiet_want
     refine aDo (Na (MI ⟨b,o+j*61,MH⟩)) ?_ (fun X hSw=>by go_simp);simp only[yZ]
     go_big_quiet_on
     go_big_quiet_want
     refine aDo (Na (MI ⟨b,o+j*61+60,MH⟩)) ?_ (fun X hSw=>by go_simp);simp only[yZ]
     go_big_quiet_on
     go_big_quiet_want
     refine aDo (MG q.po nl q.co) ?_ (fun X hSw=>by have h:=J.out.2.2.1 X hSw;go_simp);simp only[yZ]
     go_big_quiet_on
     go_big_quiet_want
     refine aDq (M3 Nw) 10 #[MG x4 nl z4,MG q.po nl q.co] J.out.2.2.2.1 ?_;simp only[yZ]
     go_big_quiet_on
     go_big_quiet_want
     refine aDo (M3 Nb) ?_ (fun X hSw=>by go_simp);simp only[yZ]
     go_big_quiet_on
     go_big_quiet_want
     refine aDo (M3 Nb) ?_ (fun X hSw=>by go_simp);simp only[yZ]
     go_big_quiet_on
     go_big_quiet_want
     refine aDo (MG (MI ⟨g9,f6,MH⟩) k v0) ?_ (fun X hSw=>by go_simp);simp only[yZ]
     go_big_quiet_on
     go_big_quiet_want
     refine aDo (yB (j:Int)) ?_ (fun X hSw=>by go_simp);simp only[yZ]
     go_big_quiet_on
     go_big_quiet_want
     refine aDo (Na (MI ⟨g9,f6+j,MH⟩)) ?_ (fun X hSw=>by go_simp);simp only[yZ]
     go_big_quiet_on
     go_big_quiet_want
     refine aDo (MG x5 nl z5) ?_ (fun X hSw=>by have h:=J.out.2.2.2.2.1 X hSw;go_simp);simp only[yZ]
     go_big_quiet_on
     go_big_quiet_want
     refine aDo (gP g) ?_ (fun X hSw=>by go_simp);simp only[yZ]
     go_big_quiet_on
     go_big_quiet_want
     refine aDo (gP g) ?_ (fun X hSw=>by go_simp);simp only[yZ]
     go_big_quiet_on
     go_big_quiet_want
     refine aDo (Na (MI ⟨g,16,MH⟩)) ?_ (fun X hSw=>by go_simp);simp only[yZ]
     go_big_quiet_on
     go_big_quiet_want
     refine aDo (MG (MI ⟨b,o,MH⟩) k V.cs) ?_ (fun X hSw=>by have h:=J.out.2.1 X hSw;go_simp);simp only[yZ]
     go_big_quiet_on
     go_big_quiet_want
     refine aDo (yB (j:Int)) ?_ (fun X hSw=>by go_simp);simp only[yZ]
     go_big_quiet_on
     go_big_quiet_want
     refine aDo (Na (MI ⟨b,o+j*61,MH⟩)) ?_ (fun X hSw=>by go_simp);simp only[yZ]
     go_big_quiet_on
     go_big_quiet_want
     refine aDo (Na (MI ⟨b,o+j*61+60,MH⟩)) ?_ (fun X hSw=>by go_simp);simp only[yZ]
     go_big_quiet_on
     go_big_quiet_want
     refine aDo (MG q.po nl q.co) ?_ (fun X hSw=>by have h:=J.out.2.2.1 X hSw;go_simp);simp only[yZ]
     go_big_quiet_on
     go_big_quiet_want
     refine aDq (M3 Nw) 10 #[MG x5 nl z5,MG q.po nl q.co] J.out.2.2.2.2.2.1 ?_;simp only[yZ]
     go_big_quiet_on
     go_big_quiet_want
     refine aDo (M3 Nb) ?_ (fun X hSw=>by go_simp);simp only[yZ]
     go_big_quiet_on
     go_big_quiet_want
     refine aDo (M3 Nb) ?_ (fun X hSw=>by go_simp);simp only[yZ]
     go_big_quiet_on
     refine wpQuiet_nil ?_;intro X m;have HZ:M6 _:=J.out.2.2.2.2.2.2.1 X m;clear m;go_wp2
     go_roundw
     case rel=>exact⟨j+1,by simp,hlj,HZ.out⟩
     case measure=>simp[intOf];omega
    ·obtain rfl:j=k:=by omega
     have u2:¬(j:Int)<(j:Int):=by omega
     have HZ:M6 _:=HF.out.2.2.2.2.trans (k9.mono HF.out.2.2.2.2.size);clear k9;go_wp2;go_ret;exact⟨rfl,HZ.out⟩
end Go.Proofs.YtbdpocjfnnojbaaGreatDoor.Q
