/-
  A backend's handles: usedFor, handles and Of; the document's FlowsOf. Condition: the slots can be read.
-/
import Derived.Test.YthiojfgimjoenaaGet
import Derived.Deep.CutRange
import Derived.WalkKit
import Derived.ProofKit
import Derived.Handy
import Derived.LoopTactic
import Derived.Below
import Derived.Laws.BitsAllLaws
import Derived.RegionTactic
import Derived.Deep.RegionHeld3
import Derived.Deep.DrawnRows
import Derived.Deep.AppendLies
import Derived.Laws.OwnMore
import Derived.Deep.Onto
import Derived.Deep.QuietTactic
import Derived.BigQuiet
namespace Go.Proofs.Ythiojfgimjoenaa.Walks
open Go.RowKit
set_option linter.unusedVariables false
set_option linter.unusedSimpArgs false
attribute [local go_sem ↓] Go.wp_at_zero Go.wp_at_succ

/-- Is the slot the backend's? -/
def mineB (bk : Int) (t : Sl) : Bool := t.2.1 && (t.2.2.2 == bk)

def hAt (l : List Sl) (i : Nat) : Tm := ((i : Int), (l.getD i (0, false, 0, 0)).1)

/-- Handles of the first k slots that are the backend's. -/
def hsTo (bk : Int) (l : List Sl) (k : Nat) : List Tm := ((List.range k).filter fun i => mineB bk (l.getD i (0, false, 0, 0))).map (hAt l)

def hsOf (bk : Int) (l : List Sl) : List Tm := hsTo bk l l.length

theorem hsTo_yes {bk : Int} {l : List Sl} {k : Nat} (h : mineB bk (l.getD k (0, false, 0, 0)) = true) : hsTo bk l (k + 1) = hsTo bk l k ++ [hAt l k] := by
  unfold hsTo
  rw [List.range_succ, List.filter_append, List.map_append, List.filter_cons_of_pos (p := fun i => mineB bk (l.getD i (0, false, 0, 0))) h, List.filter_nil]
  rfl

theorem hsTo_no {bk : Int} {l : List Sl} {k : Nat} (h : mineB bk (l.getD k (0, false, 0, 0)) = false) : hsTo bk l (k + 1) = hsTo bk l k := by
  unfold hsTo
  rw [List.range_succ, List.filter_append, List.map_append, List.filter_cons_of_neg (by rw [h]; exact Bool.false_ne_true), List.filter_nil, List.map_nil, List.append_nil]

theorem hsTo_len (bk : Int) (l : List Sl) (k : Nat) : (hsTo bk l k).length ≤ k := by
  unfold hsTo
  rw [List.length_map]
  exact Nat.le_trans (List.length_filter_le ..) (by simp)

/-- One handle more: the run. -/
theorem append_oneH {w : World} {base : Nat} {p : Option Addr} {k c : Nat} {m : List Tm} (ho : w.ownsRow base 42 2 (.slice p k c) k (tcells m)) (hb : base ≤ w.heap.size) (hk : k ≤ 1000) (ty : TypeId) (x1 x2 : Int) :
    ∃ p' c' w', (Builtin.append_ #[32, 32] ty #[.slice p k c, .slice (some ⟨w.heap.size, 0, none⟩) 1 1]).run Try.prog (w.alloc (.cells #[.int .i64 x1, .int .i64 x2] 42)) = .ok (.slice p' (k + 1) c') w' ∧
      w'.ownsRow base 42 2 (.slice p' (k + 1) c') (k + 1) (tcells (m ++ [(x1, x2)])) ∧ Below base w w' := by
  obtain ⟨i0, hi, hz0, hz1, hz2⟩ := info_parts infoTm
  have hn := news_at w (tcells [(x1, x2)]) 42
  obtain ⟨v', w', hr, ho', hg, _⟩ := run_append_own (P := Try.prog) (w.alloc (.cells #[.int .i64 x1, .int .i64 x2] 42)) base 32 ty 42 i0 _ 2 16 Try.underlying32 hi hz0 hz1 hz2 rfl (by decide) (.slice p k c) k (tcells m) (ho.alloc _) ⟨w.heap.size, 0, none⟩ 1 1 (tcells [(x1, x2)]) rfl hn (tcells_one _) (by unfold maxLen; omega) (by omega) (by simp; omega)
  rw [← tcells_append] at ho'
  obtain ⟨p', c', rfl⟩ := own_form ho'
  refine ⟨p', c', w', hr, ho', ?_⟩
  exact ((Below.refl _ _).alloc hb _).grown hg (by simp; omega) (fun j e => (ho.lt j e).1)

set_option maxHeartbeats 1000000 in
theorem usedFor1_any (g : Int) (u : Bool) (k b bk : Int) (gc : Nat) (w : World) (hcap : w.cell? ⟨gc, 0, none⟩ = some (.int .i64 bk)) (hok : SlotOk (g, u, k, b)) :
    Calls Try.prog 35 #[.agg #[.int .i64 g, .bool u, .int .i64 k, .int .i64 b], .pointer (some ⟨gc, 0, none⟩)] w fun r w' => r = .returned (.bool (mineB bk (g, u, k, b))) ∧ Below w.heap.size w w' := by
  have ho : mineB bk (g, u, k, b) = (!decide (Free (g, u, k, b)) && (b == bk)) := by
    unfold mineB
    have h := used_iff hok
    cases u
    · have hf : Free (g, false, k, b) := Classical.byContradiction fun hn => by have := h.1 hn; cases this
      rw [decide_eq_true hf]
      rfl
    · have hf : ¬ Free (g, true, k, b) := h.2 rfl
      rw [decide_eq_false hf]
      rfl
  obtain ⟨ans, hans⟩ : ∃ ans, ans = mineB bk (g, u, k, b) := ⟨_, rfl⟩
  rw [← hans]
  rw [← hans] at ho
  have H : Hid _ := ho
  have hgc := World.block_lt_of_cell? w _ hcap
  obtain ⟨W0, hW0⟩ : ∃ W0, W0 = w.alloc (.cells #[.int .i64 g, .bool u, .int .i64 k, .int .i64 b] 44) := ⟨_, rfl⟩
  have hR : W0.heap[w.heap.size]? = some (.cells #[.int .i64 g, .bool u, .int .i64 k, .int .i64 b] 44 (0, 0)) := by rw [hW0]; exact heap_alloc_new _ _
  have hB0 : Below w.heap.size w W0 := by rw [hW0]; exact below_newC w
  have hC0 := (hB0.cell (p := ⟨gc, 0, none⟩) hgc).trans hcap
  have H0 : Hid (_ ∧ _ ∧ _ ∧ _) := ⟨hW0, hR, hB0, hC0⟩
  clear hans ho hW0 hR hB0 hok hC0
  go_enter Try.func35, Try.ntmps35
  go_wp2_with fail
  rw [← H0.out.1]
  refine (isFree_any g u k b _).mono ?_
  generalize decide (Free (g, u, k, b)) = fr at *
  rintro r w1 ⟨rfl, hb1⟩
  have hR1 := box_below H0.out.2.1 hb1
  have c3 : w1.cell? ⟨w.heap.size, 3, none⟩ = some (.int .i64 b) := by simp [World.cell?, hR1]
  have cc := (hb1.cell (p := ⟨gc, 0, none⟩) (World.block_lt_of_cell? W0 _ H0.out.2.2.2)).trans H0.out.2.2.2
  have HB : Hid _ := H0.out.2.2.1.trans (hb1.mono H0.out.2.2.1.size)
  clear hb1 hR1 hcap
  cases fr
  · go_wp2
    go_ret
    exact ⟨by rw [H.out]; rfl, HB.out⟩
  · go_wp2
    go_ret
    exact ⟨by rw [H.out]; rfl, HB.out⟩

theorem usedFor_any (bk : Int) (w : World) : Calls Try.prog 23 #[.int .i64 bk] w fun r w' => r = .returned (.func (.func 35) #[] #[.pointer (some ⟨w.heap.size, 0, none⟩)]) ∧ w' = w.alloc (.cells #[.int .i64 bk] 3) := by
  go_enter Try.func23, Try.ntmps23
  go_wp2
  go_ret
  exact ⟨rfl, rfl⟩

set_option maxHeartbeats 4000000 in
set_option maxRecDepth 100000 in
theorem handles_any (v : Value) (l : List Sl) (bk : Int) (gc : Nat) (w : World) (hv : SlAt w v l) (hok : ∀ t ∈ l, SlotOk t) (hl : l.length ≤ 40) (hcap : w.cell? ⟨gc, 0, none⟩ = some (.int .i64 bk)) :
    Calls Try.prog 22 #[.agg #[v], .func (.func 35) #[] #[.pointer (some ⟨gc, 0, none⟩)]] w fun r w' => ∃ p c, r = .returned (.slice p (hsOf bk l).length c) ∧ w'.ownsRow w.heap.size 42 2 (.slice p (hsOf bk l).length c) (hsOf bk l).length (tcells (hsOf bk l)) ∧ Below w.heap.size w w' := by
  obtain ⟨p, c, rfl, hc, hm, pa⟩ := hv.parts
  unfold maxLen at hm
  have hgc := World.block_lt_of_cell? w _ hcap
  have HV : Hid (_ ∧ _ ∧ _ ∧ _) := ⟨pa, hok, hcap, hgc⟩
  clear hv pa hok hcap hgc
  go_enter Try.func22, Try.ntmps22
  go_wp2
  obtain ⟨W0, hW0⟩ : ∃ W0, W0 = w.alloc (.cells #[.slice p l.length c] 24) := ⟨_, rfl⟩
  have hb0 : Below w.heap.size w W0 := by rw [hW0]; exact below_newC w
  rw [← hW0]
  have HB0 : Hid _ := hb0
  clear hW0 hb0
  go_loopw [5, 11] (fun o i wr => ∃ (k : Nat) (p' : Option Addr) (c' : Nat), i = .int .i64 k ∧ o = .slice p' (hsTo bk l k).length c' ∧ k ≤ l.length ∧ wr.ownsRow w.heap.size 42 2 (.slice p' (hsTo bk l k).length c') (hsTo bk l k).length (tcells (hsTo bk l k)) ∧ Below w.heap.size w wr) (fun _ i _ => l.length - (intOf i).toNat)
  case atStart => exact ⟨0, none, 0, rfl, rfl, Nat.zero_le _, World.ownsRow_nil _ _ _ _, HB0.out⟩
  case round =>
    obtain ⟨k, p', c', rfl, rfl, hk, ho, hb⟩ := hrel
    by_cases hlt : k < l.length
    · obtain ⟨b1, o1, rfl, hb1, c1, c2, c3, c4⟩ := HV.out.1 k hlt
      replace c1 := (hb.cell (p := ⟨b1, o1 + k * 4, none⟩) hb1).trans c1
      replace c2 := (hb.cell (p := ⟨b1, o1 + k * 4 + 1, none⟩) hb1).trans c2
      replace c3 := (hb.cell (p := ⟨b1, o1 + k * 4 + 2, none⟩) hb1).trans c3
      replace c4 := (hb.cell (p := ⟨b1, o1 + k * 4 + 3, none⟩) hb1).trans c4
      have hbl1 : b1 < wr.heap.size := Nat.lt_of_lt_of_le hb1 hb.size
      have hgd : l.getD k (0, false, 0, 0) = l[k] := by simp [hlt]
      have hsk := HV.out.2.1 l[k] (List.getElem_mem hlt)
      obtain ⟨⟨x1, x2, x3, x4⟩, hx⟩ : ∃ x, x = l[k] := ⟨_, rfl⟩
      rw [← hx] at c1 c2 c3 c4 hsk hgd
      have hyes : mineB bk (x1, x2, x3, x4) = true → hsTo bk l (k + 1) = hsTo bk l k ++ [((k : Int), x1)] := fun h => by
        rw [hsTo_yes (by rw [hgd]; exact h)]
        unfold hAt
        rw [hgd]
      have hno : mineB bk (x1, x2, x3, x4) = false → hsTo bk l (k + 1) = hsTo bk l k := fun h => hsTo_no (by rw [hgd]; exact h)
      obtain ⟨W1, hW1⟩ : ∃ W1, W1 = wr.alloc (.cells #[.int .i64 x1, .bool x2, .int .i64 x3, .int .i64 x4] 44) := ⟨_, rfl⟩
      have hR1 : W1.heap[wr.heap.size]? = some (.cells #[.int .i64 x1, .bool x2, .int .i64 x3, .int .i64 x4] 44 (0, 0)) := by rw [hW1]; exact heap_alloc_new _ _
      have hb1' : Below w.heap.size w W1 := by rw [hW1]; exact hb.alloc hb.size _
      have hcap1 := (hb1'.cell (p := ⟨gc, 0, none⟩) HV.out.2.2.2).trans HV.out.2.2.1
      have ho1 : W1.ownsRow w.heap.size 42 2 (.slice p' (hsTo bk l k).length c') (hsTo bk l k).length (tcells (hsTo bk l k)) := by rw [hW1]; exact ho.alloc _
      have hlen := hsTo_len bk l k
      have H : Hid (_ ∧ _ ∧ _ ∧ _ ∧ _ ∧ _ ∧ _ ∧ _) := ⟨hyes, hno, hW1, hR1, hb1', hcap1, ho1, hsk⟩
      clear hyes hno hW1 hR1 hb1' hcap1 ho1 hsk ho hb hx hgd hb1
      have hkI : (k : Int) < (l.length : Int) := by omega
      go_wp2_with fail
      rw [← H.out.2.2.1]
      refine (usedFor1_any x1 x2 x3 x4 bk gc _ H.out.2.2.2.2.2.1 H.out.2.2.2.2.2.2.2).mono ?_
      rintro r w2 ⟨rfl, hb2⟩
      have hR2 := box_below H.out.2.2.2.1 hb2
      have d0 : w2.cell? ⟨wr.heap.size, 0, none⟩ = some (.int .i64 x1) := by simp [World.cell?, hR2]
      have hw2 : wr.heap.size < w2.heap.size := (Array.getElem?_eq_some_iff.1 hR2).1
      have ho2 := own_grownW H.out.2.2.2.2.2.2.1 hb2
      have hbw2 := H.out.2.2.2.2.1.trans (hb2.mono H.out.2.2.2.2.1.size)
      clear hb2 hR2 c1 c2 c3 c4
      cases hmine : mineB bk (x1, x2, x3, x4)
      · have hno := H.out.2.1 hmine
        have H2 : Hid (_ ∧ _ ∧ _) := ⟨ho2, hbw2, hno⟩
        clear ho2 hbw2 hno
        go_wp2
        go_roundw
        case rel => exact ⟨k + 1, p', c', by simp, by rw [H2.out.2.2], hlt, by rw [H2.out.2.2]; exact H2.out.1, H2.out.2.1⟩
        case measure => simp [intOf]; omega
      · have hyes := H.out.1 hmine
        have hyl : (hsTo bk l (k + 1)).length = (hsTo bk l k).length + 1 := by rw [hyes]; simp
        obtain ⟨q, d, w3, hr, z0, z1⟩ := append_oneH ho2 hbw2.size (by omega) 32 (k : Int) x1
        rw [← hyes] at z0
        obtain ⟨n, hn⟩ : ∃ n, n = (hsTo bk l k).length := ⟨_, rfl⟩
        rw [← hn] at hr z0 hyl ⊢
        have H2 : Hid (_ ∧ _ ∧ _ ∧ _) := ⟨hr, z0, hbw2.trans z1, hyl⟩
        clear hr z0 z1 hyl hyes ho2 hbw2 hn hlen
        go_wp2_with (at_builtin; (with_reducible refine wpList_append_eq rfl _ _ 32 rfl (.slice p' n c') (.slice (some ⟨w2.heap.size, 0, none⟩) 1 1) (.slice q (n + 1) d) w3 ?hs ?hx ?hr ?_); (case hs => rfl); (case hx => rfl); (case hr => exact H2.out.1))
        go_roundw
        case rel => exact ⟨k + 1, q, d, by simp, by rw [H2.out.2.2.2], hlt, by rw [H2.out.2.2.2]; exact H2.out.2.1, H2.out.2.2.1⟩
        case measure => simp [intOf]; omega
    · obtain rfl : k = l.length := by omega
      have H2 : Hid (_ ∧ _) := ⟨ho, hb⟩
      clear ho hb
      go_wp2
      go_ret
      exact ⟨p', c', rfl, H2.out.1, H2.out.2⟩

/-- What Of answers. -/
def ofOut (l : List Sl) (bk : Int) : List Tm × Int := if TabOk l then (hsOf bk l, 0) else ([], 6)

def OfRes (o : List Tm × Int) (w : World) (r : Ending) (w' : World) : Prop :=
  ∃ p c, r = .returned (.tuple #[.slice p o.1.length c, .int .i64 o.2]) ∧ w'.ownsRow w.heap.size 42 2 (.slice p o.1.length c) o.1.length (tcells o.1) ∧ Below w.heap.size w w'

set_option maxHeartbeats 4000000 in
set_option maxRecDepth 100000 in
theorem of_any (v : Value) (l : List Sl) (bk : Int) (w : World) (hv : SlAt w v l) :
    Calls Try.prog 13 #[.agg #[v], .int .i64 bk] w (OfRes (ofOut l bk) w) := by
  obtain ⟨p, c, rfl, hc, hm, _⟩ := hv.parts
  unfold maxLen at hm
  obtain ⟨W0, hW0⟩ : ∃ W0, W0 = w.alloc (.cells #[.slice p l.length c] 24) := ⟨_, rfl⟩
  have hb0 : Below w.heap.size w W0 := by rw [hW0]; exact below_newC w
  have hT0 : W0.heap[w.heap.size]? = some (.cells #[.slice p l.length c] 24 (0, 0)) := by rw [hW0]; exact heap_alloc_new _ _
  have HV : Hid (_ ∧ _ ∧ _ ∧ _) := ⟨hv, hb0, hT0, hW0⟩
  clear hv hb0 hT0 hW0
  go_enter Try.func13, Try.ntmps13
  go_wp2_with fail
  rw [← HV.out.2.2.2]
  refine (check_any _ l _ (HV.out.1.below HV.out.2.1)).mono ?_
  rintro r w1 ⟨rfl, hb1⟩
  have hT1 := box_below HV.out.2.2.1 hb1
  have t0 := one_cell hT1
  have hlt : w.heap.size < w1.heap.size := (Array.getElem?_eq_some_iff.1 hT1).1
  have hbw := HV.out.2.1.trans (hb1.mono HV.out.2.1.size)
  by_cases hok : TabOk l
  · have hout : ofOut l bk = (hsOf bk l, 0) := by unfold ofOut; rw [if_pos hok]
    rw [if_pos hok]
    have HO : Hid _ := hout
    have hU : ∀ W, Below w1.heap.size w1 W → Calls Try.prog 23 #[.int .i64 bk] W fun r w' => ∃ gc, r = .returned (.func (.func 35) #[] #[.pointer (some ⟨gc, 0, none⟩)]) ∧ Hid (w'.cell? ⟨gc, 0, none⟩ = some (.int .i64 bk) ∧ Below w1.heap.size w1 w') ∧ w'.cell? ⟨w.heap.size, 0, none⟩ = some (.slice p l.length c) ∧ (∀ n, n < W.heap.size → n < w'.heap.size) ∧ (∀ b o, b < W.heap.size → w'.cell? ⟨b, o, none⟩ = W.cell? ⟨b, o, none⟩) ∧ (∀ b o, b < W.heap.size → w'.frozen? ⟨b, o, none⟩ = W.frozen? ⟨b, o, none⟩) := fun W hW => by
      refine (usedFor_any bk W).mono ?_
      rintro r w' ⟨rfl, rfl⟩
      have hb : Below W.heap.size W (W.alloc (.cells #[.int .i64 bk] 3)) := below_newC W
      have hbb := hW.trans (hb.mono hW.size)
      exact ⟨_, rfl, ⟨one_cell (heap_alloc_new W _), hbb⟩, (hbb.cell (p := ⟨w.heap.size, 0, none⟩) hlt).trans t0, (fun n hn => Nat.lt_of_lt_of_le hn hb.size), (bcell hb).1, (bcell hb).2⟩
    have hH : ∀ W wt gc, Hid (wt.cell? ⟨gc, 0, none⟩ = some (.int .i64 bk) ∧ Below w1.heap.size w1 wt) → Below wt.heap.size wt W → Calls Try.prog 22 #[.agg #[.slice p l.length c], .func (.func 35) #[] #[.pointer (some ⟨gc, 0, none⟩)]] W fun r w' => ∃ q d, r = .returned (.slice q (hsOf bk l).length d) ∧ Hid (w'.ownsRow w1.heap.size 42 2 (.slice q (hsOf bk l).length d) (hsOf bk l).length (tcells (hsOf bk l)) ∧ Below w1.heap.size w1 w') := fun W wt gc hy hw => by
      have hh := hy.out.2.trans (hw.mono hy.out.2.size)
      refine (handles_any _ l bk gc W (((HV.out.1.below HV.out.2.1).below hb1).below hh) hok.2 hok.1.2 ((hw.cell (p := ⟨gc, 0, none⟩) (World.block_lt_of_cell? wt _ hy.out.1)).trans hy.out.1)).mono ?_
      rintro r w' ⟨q, d, rfl, h1, h2⟩
      exact ⟨q, d, rfl, h1.mono hh.size, hh.trans (h2.mono hh.size)⟩
    have H1 : Hid (_ ∧ _ ∧ _) := ⟨hU, hH, hbw⟩
    clear hU hH hbw hb1 hout hT1 hok
    go_wp2
    go_cut [4, 5] from 12 to 15 (fun s e wx => ∃ q d, s = .slice q (hsOf bk l).length d ∧ e = .int .i64 0 ∧ wx.ownsRow w1.heap.size 42 2 (.slice q (hsOf bk l).length d) (hsOf bk l).length (tcells (hsOf bk l)) ∧ Below w1.heap.size w1 wx)
    case first =>
      go_region_with (first | (go_at_call 23; refine (H1.out.1 _ ?hbW).mono ?_; (case hbW => first | exact (Below.refl _ _).drew | exact Below.refl _ _); rintro r w4 ⟨gc, rfl, hq4, k4, hz4, hc4, hf4⟩) | (go_at_call 22; refine (H1.out.2.1 _ w4 gc hq4 ?hbW).mono ?_; (case hbW => exact Below.refl _ _); rintro r w5 ⟨q, d, rfl, hq5⟩))
      all_goals
        go_wp2_with fail
        go_meet
        exact ⟨q, d, rfl, rfl, hq5.out.1, hq5.out.2⟩
    case rest =>
    obtain ⟨q, d, rfl, rfl, hown, hbx⟩ := hcut
    have H2 : Hid (_ ∧ _) := ⟨hown, hbx⟩
    clear hown hbx
    go_wp2
    go_ret2
    rw [HO.out]
    exact ⟨q, d, rfl, H2.out.1.mono H1.out.2.2.size, H1.out.2.2.trans (H2.out.2.mono H1.out.2.2.size)⟩
  · have hout : ofOut l bk = ([], 6) := by unfold ofOut; rw [if_neg hok]
    rw [if_neg hok]
    have HO : Hid _ := hout
    have HB : Hid _ := hbw
    clear hbw hb1 hT1 hout hok
    go_wp2
    go_ret2
    rw [HO.out]
    exact ⟨none, 0, rfl, World.ownsRow_nil _ _ _ _, HB.out⟩
end Go.Proofs.Ythiojfgimjoenaa.Walks
