/-
  table.Counts, the document's FlowCounts, and TableCounts. Condition: the slots can be read.
-/
import Derived.Test.YthiojfgimjoenaaFlowsOf
import Derived.Deep.CutRange
import Derived.WalkKit
import Derived.ProofKit
import Derived.Handy
import Derived.LoopTactic
import Derived.Below
import Derived.Laws.BitsAllLaws
import Derived.RegionTactic
import Derived.Deep.RegionHeld3
import Derived.Deep.DrawnRows
import Derived.Deep.AppendLies
import Derived.Laws.OwnMore
import Derived.Deep.Onto
import Derived.Deep.QuietTactic
import Derived.BigQuiet
namespace Go.Proofs.Ythiojfgimjoenaa.Walks
open Go.RowKit
set_option linter.unusedVariables false
set_option linter.unusedSimpArgs false
attribute [local go_sem ↓] Go.wp_at_zero Go.wp_at_succ

/-- How many flows each backend has. -/
def cntL (l : List Sl) : List Int := (List.range 12).map fun (b : Nat) => ((hsOf (b : Int) l).length : Int)

theorem cntL_len (l : List Sl) : (cntL l).length = 12 := by simp [cntL]

theorem cntL_at (l : List Sl) (k : Nat) (h : k < 12) : (cntL l)[k]? = some ((hsOf (k : Int) l).length : Int) := by simp [cntL, h]

def countsOut (l : List Sl) : List Int × Int := if TabOk l then (cntL l, 0) else ([], 6)

/-- The first k numbers, and zeros. -/
def capsTo (m : List Int) (k : Nat) : List Int := m.take k ++ List.replicate (m.length - k) 0

theorem capsTo_len (m : List Int) (k : Nat) (h : k ≤ m.length) : (capsTo m k).length = m.length := by
  simp [capsTo]; omega

theorem capsTo_at (m : List Int) (k : Nat) (h : k < m.length) : (capsTo m k)[k]'(by rw [capsTo_len m k (by omega)]; exact h) = 0 := by
  unfold capsTo
  rw [List.getElem_append_right (by simp; omega)]
  simp

theorem capsTo_set (m : List Int) (k : Nat) (h : k < m.length) : (capsTo m k).set k m[k] = capsTo m (k + 1) := by
  unfold capsTo
  rw [List.set_append_right _ _ (by simp; omega)]
  have e : k - (m.take k).length = 0 := by simp; omega
  have e2 : m.length - k = (m.length - (k + 1)) + 1 := by omega
  rw [e, e2, List.replicate_succ, List.set_cons_zero, List.take_succ_eq_append_getElem h, List.append_assoc]
  rfl

theorem capsTo_put {m : List Int} {k : Nat} {x : Int} (h : m[k]? = some x) : (capsTo m k).set k x = capsTo m (k + 1) := by
  obtain ⟨h1, rfl⟩ := List.getElem?_eq_some_iff.1 h
  exact capsTo_set m k h1

theorem capsTo_all (m : List Int) : capsTo m m.length = m := by simp [capsTo]

theorem capsTo_none (m : List Int) : capsTo m 0 = List.replicate m.length 0 := by simp [capsTo]

/-- A slice of numbers that can be read. -/
def IntsAt (w : World) (v : Value) (a : List Int) : Prop := RowAt w v a.length (icells a)

theorem IntsAt.below {w w' : World} {v : Value} {l : List Int} (h : IntsAt w v l) (hb : Below w.heap.size w w') : IntsAt w' v l := RowAt.below h hb

theorem icells_at (a : List Int) (i : Nat) (h : i < a.length) : (icells a)[i]? = some (.int .i64 a[i]) := by
  unfold icells
  rw [List.getElem?_map, List.getElem?_eq_getElem h]
  rfl

theorem IntsAt.parts {w : World} {v : Value} {l : List Int} (h : IntsAt w v l) :
    ∃ a cap, v = .slice a l.length cap ∧ l.length ≤ cap ∧ cap ≤ maxLen ∧ ∀ i (hi : i < l.length), ∃ b off, a = some ⟨b, off, none⟩ ∧ b < w.heap.size ∧ w.cell? ⟨b, off + i, none⟩ = some (.int .i64 l[i]) := by
  obtain ⟨a, cap, hv, hc, hm, h1 | ⟨b, off, h1, h2, h3⟩⟩ := h
  · exact ⟨a, cap, hv, hc, hm, fun i hi => absurd hi (by omega)⟩
  · refine ⟨a, cap, hv, hc, hm, fun i hi => ⟨b, off, h1, h2, ?_⟩⟩
    rw [h3 i (by rw [icells_len]; exact hi)]
    exact icells_at l i hi

theorem icells_append (a b : List Int) : icells (a ++ b) = icells a ++ icells b := by simp [icells]

theorem intsAt_nil (w : World) : IntsAt w (.slice none 0 0) [] := rowAt_nil w

theorem Arr.intsAt {n : Nat} {w : World} {g : Nat} {a : List Int} {T : TypeId} (h : Arr T n w g a) (hn : n ≤ 1000) : IntsAt w (.slice (some ⟨g, 0, none⟩) n n) a := by
  refine ⟨_, n, by rw [h.2], by rw [h.2]; exact Nat.le_refl _, by unfold maxLen; omega, .inr ⟨g, 0, rfl, h.lt, fun i hi => ?_⟩⟩
  rw [Nat.zero_add, icells_at a i (by rwa [icells_len] at hi)]
  exact h.cell i (by rwa [icells_len] at hi)

/-- One number more: the run. -/
theorem append_oneI {w : World} {base : Nat} {p : Option Addr} {k c : Nat} {m : List Int} (ho : w.ownsRow base 3 1 (.slice p k c) k (icells m)) (hb : base ≤ w.heap.size) (hk : k ≤ 1000) (ty : TypeId) (x : Int) :
    ∃ p' c' w', (Builtin.append_ #[25, 25] ty #[.slice p k c, .slice (some ⟨w.heap.size, 0, none⟩) 1 1]).run Try.prog (w.alloc (.cells #[.int .i64 x] 3)) = .ok (.slice p' (k + 1) c') w' ∧
      w'.ownsRow base 3 1 (.slice p' (k + 1) c') (k + 1) (icells (m ++ [x])) ∧ Below base w w' := by
  obtain ⟨i0, hi, hz0, hz1, hz2⟩ := info_parts infoInt
  have hn := news_at w (icells [x]) 3
  obtain ⟨v', w', hr, ho', hg, _⟩ := run_append_own (P := Try.prog) (w.alloc (.cells #[.int .i64 x] 3)) base 25 ty 3 i0 _ 1 8 Try.underlying25 hi hz0 hz1 hz2 rfl (by decide) (.slice p k c) k (icells m) (ho.alloc _) ⟨w.heap.size, 0, none⟩ 1 1 (icells [x]) rfl hn (icells_one _) (by unfold maxLen; omega) (by omega) (by simp; omega)
  rw [← icells_append] at ho'
  obtain ⟨p', c', rfl⟩ := own_form ho'
  refine ⟨p', c', w', hr, ho', ?_⟩
  exact ((Below.refl _ _).alloc hb _).grown hg (by simp; omega) (fun j e => (ho.lt j e).1)

theorem made12 (W : World) : (Instr.makeSlice 25 (.int .i64 12) (.int .i64 12)).run Try.prog W = .ok (.slice (some ⟨W.heap.size, 0, none⟩) 12 12) (W.alloc (.cells (icells (List.replicate 12 0)).toArray 3)) := by
  obtain ⟨i1, hj, hy0, hy1, hy2⟩ := info_parts infoInt
  have h := run_makeSlice (P := Try.prog) W 25 3 i1 _ Try.underlying25 hj hy0 .i64 .i64 12 12 (by decide) (by decide) (by rw [hy1]; decide) (by rw [hy2]; decide) (by decide)
  have e : madeCells (Value.int .i64 0).cells (Int.toNat 12 * 1) = (icells (List.replicate 12 0)).toArray := Array.toList_inj.1 (toList_madeCells_one (.int .i64 0) 12)
  rw [h, hy1, e]
  rfl

def CountsRes (o : List Int × Int) (w : World) (r : Ending) (w' : World) : Prop :=
  ∃ p c, r = .returned (.tuple #[.slice p o.1.length c, .int .i64 o.2]) ∧ IntsAt w' (.slice p o.1.length c) o.1 ∧ Below w.heap.size w w'

set_option maxHeartbeats 8000000 in
set_option maxRecDepth 100000 in
theorem counts_any (v : Value) (l : List Sl) (w : World) (hv : SlAt w v l) :
    Calls Try.prog 9 #[.agg #[v]] w (CountsRes (countsOut l) w) := by
  obtain ⟨p, c, rfl, hc, hm, _⟩ := hv.parts
  unfold maxLen at hm
  obtain ⟨W0, hW0⟩ : ∃ W0, W0 = w.alloc (.cells #[.slice p l.length c] 24) := ⟨_, rfl⟩
  have hb0 : Below w.heap.size w W0 := by rw [hW0]; exact below_newC w
  have hT0 : W0.heap[w.heap.size]? = some (.cells #[.slice p l.length c] 24 (0, 0)) := by rw [hW0]; exact heap_alloc_new _ _
  have HV : Hid (_ ∧ _ ∧ _ ∧ _) := ⟨hv, hb0, hT0, hW0⟩
  clear hv hb0 hT0 hW0
  obtain ⟨z12, hz12⟩ : ∃ z, z = (icells (List.replicate 12 0)).toArray := ⟨_, rfl⟩
  have hmk : ∀ W, (Instr.makeSlice 25 (.int .i64 12) (.int .i64 12)).run Try.prog W = .ok (.slice (some ⟨W.heap.size, 0, none⟩) 12 12) (W.alloc (.cells z12 3)) := by rw [hz12]; exact made12
  have HZ : Hid _ := hz12
  clear hz12
  go_enter Try.func9, Try.ntmps9
  go_wp2_with fail
  rw [← HV.out.2.2.2]
  refine (check_any _ l _ (HV.out.1.below HV.out.2.1)).mono ?_
  rintro r w1 ⟨rfl, hb1⟩
  have hT1 := box_below HV.out.2.2.1 hb1
  have hlt : w.heap.size < w1.heap.size := (Array.getElem?_eq_some_iff.1 hT1).1
  have hbw := HV.out.2.1.trans (hb1.mono HV.out.2.1.size)
  have hv1 := (HV.out.1.below HV.out.2.1).below hb1
  by_cases hok : TabOk l
  · have hout : countsOut l = (cntL l, 0) := by unfold countsOut; rw [if_pos hok]
    rw [if_pos hok]
    have HO : Hid (_ ∧ _ ∧ _ ∧ _ ∧ _) := ⟨hout, hok, hbw, hT1, hv1⟩
    clear hout hok hbw hb1 hT1 hv1 HV
    go_wp2
    obtain ⟨W2, hW2⟩ : ∃ W2, W2 = w1.alloc (.cells z12 3) := ⟨_, rfl⟩
    have hb2 : Below w1.heap.size w1 W2 := by rw [hW2]; exact below_newC w1
    have hA2 : Arr 3 12 W2 w1.heap.size (capsTo (cntL l) 0) := by rw [hW2, HZ.out, capsTo_none, cntL_len]; exact ⟨heap_alloc_new _ _, by simp⟩
    rw [← hW2]
    have HX : Hid (_ ∧ _) := ⟨hA2, hb2⟩
    clear hA2 hb2 hW2 hmk
    go_loopw [15] (fun i wr => ∃ (k : Nat), i = .int .i64 k ∧ k ≤ 12 ∧ Arr 3 12 wr w1.heap.size (capsTo (cntL l) k) ∧ Below w1.heap.size w1 wr) (fun i _ => 12 - (intOf i).toNat)
    case atStart => exact ⟨0, rfl, Nat.zero_le _, HX.out.1, HX.out.2⟩
    case round =>
      obtain ⟨k, rfl, hk, hA, hb⟩ := hrel
      by_cases hk' : k < 12
      · have hkI : (k : Int) < 12 := by omega
        have hTr := (hb.block w.heap.size hlt).trans HO.out.2.2.2.1
        have t0 := one_cell hTr
        have hltr : w.heap.size < wr.heap.size := Nat.lt_of_lt_of_le hlt hb.size
        have hg := hA.lt
        have hvr := HO.out.2.2.2.2.below hb
        have hcg := hA.cell k (by rw [capsTo_len _ k (by rw [cntL_len]; omega), cntL_len]; exact hk')
        rw [capsTo_at _ k (by rw [cntL_len]; exact hk')] at hcg
        have hfg := hA.frozen k
        have hbl := hsTo_len (k : Int) l l.length
        have hU : ∀ W, Below wr.heap.size wr W → Calls Try.prog 23 #[.int .i64 (k : Int)] W fun r w' => ∃ gc, r = .returned (.func (.func 35) #[] #[.pointer (some ⟨gc, 0, none⟩)]) ∧ Hid (w'.cell? ⟨gc, 0, none⟩ = some (.int .i64 (k : Int)) ∧ Below wr.heap.size wr w') ∧ w'.cell? ⟨w.heap.size, 0, none⟩ = some (.slice p l.length c) ∧ (∀ n, n < W.heap.size → n < w'.heap.size) ∧ (∀ b o, b < W.heap.size → w'.cell? ⟨b, o, none⟩ = W.cell? ⟨b, o, none⟩) ∧ (∀ b o, b < W.heap.size → w'.frozen? ⟨b, o, none⟩ = W.frozen? ⟨b, o, none⟩) := fun W hW => by
          refine (usedFor_any (k : Int) W).mono ?_
          rintro r w' ⟨rfl, rfl⟩
          have hb' : Below W.heap.size W (W.alloc (.cells #[.int .i64 (k : Int)] 3)) := below_newC W
          have hbb := hW.trans (hb'.mono hW.size)
          exact ⟨_, rfl, ⟨one_cell (heap_alloc_new W _), hbb⟩, (hbb.cell (p := ⟨w.heap.size, 0, none⟩) hltr).trans t0, (fun n hn => Nat.lt_of_lt_of_le hn hb'.size), (bcell hb').1, (bcell hb').2⟩
        obtain ⟨n, hn⟩ : ∃ n, n = (hsOf (k : Int) l).length := ⟨_, rfl⟩
        have hn40 : n ≤ 40 := by rw [hn]; have := HO.out.2.1.1.2; exact Nat.le_trans hbl this
        have hH : ∀ W wt gc, Hid (wt.cell? ⟨gc, 0, none⟩ = some (.int .i64 (k : Int)) ∧ Below wr.heap.size wr wt) → Below wt.heap.size wt W → Calls Try.prog 22 #[.agg #[.slice p l.length c], .func (.func 35) #[] #[.pointer (some ⟨gc, 0, none⟩)]] W fun r w' => ∃ q d, r = .returned (.slice q n d) ∧ Hid (Below wr.heap.size wr w') ∧ (w'.cell? ⟨w1.heap.size, k, none⟩ = some (.int .i64 0) ∧ w'.frozen? ⟨w1.heap.size, k, none⟩ = false ∧ w1.heap.size < w'.heap.size) := fun W wt gc hy hw => by
          have hh := hy.out.2.trans (hw.mono hy.out.2.size)
          refine (handles_any _ l (k : Int) gc W (hvr.below hh) HO.out.2.1.2 HO.out.2.1.1.2 ((hw.cell (p := ⟨gc, 0, none⟩) (World.block_lt_of_cell? wt _ hy.out.1)).trans hy.out.1)).mono ?_
          rintro r w' ⟨q, d, rfl, h1, h2⟩
          have h3 := hh.trans (h2.mono hh.size)
          exact ⟨q, d, by rw [hn], h3, (h3.cell (p := ⟨w1.heap.size, k, none⟩) hg).trans hcg, (h3.frozen (p := ⟨w1.heap.size, k, none⟩) hg).trans hfg, Nat.lt_of_lt_of_le hg h3.size⟩
        have hcat := cntL_at l k hk'
        rw [← hn] at hcat
        have H1 : Hid (_ ∧ _ ∧ _ ∧ _ ∧ _) := ⟨hU, hH, hA, hb, hcat⟩
        clear hU hH hA hb hTr hvr hbl hn hcat
        go_wp2
        go_region_with (first | (go_at_call 23; refine (H1.out.1 _ ?hbW).mono ?_; (case hbW => first | exact (Below.refl _ _).drew | exact Below.refl _ _); rintro r w4 ⟨gc, rfl, hq4, k4, hz4, hc4, hf4⟩) | (go_at_call 22; refine (H1.out.2.1 _ w4 gc hq4 ?hbW).mono ?_; (case hbW => exact Below.refl _ _); rintro r w5 ⟨q, d, rfl, hq5, h5c, h5f, h5l⟩))
        all_goals
          clear h5c h5f h5l k4 hz4 hc4 hf4 hcg hfg t0
          go_wp2
          go_roundw
          case rel =>
            have hA5 := (H1.out.2.2.1.below hq5.out).set k (n : Int)
            rw [capsTo_put H1.out.2.2.2.2] at hA5
            exact ⟨k + 1, by simp, hk', hA5, (H1.out.2.2.2.1.trans (hq5.out.mono H1.out.2.2.2.1.size)).setCell (Nat.le_refl _) _⟩
          case measure => simp [intOf]; omega
      · obtain rfl : k = 12 := by omega
        have H2 : Hid (_ ∧ _) := ⟨hA, hb⟩
        clear hA hb
        go_wp2
        go_ret2
        have h := H2.out.1.intsAt (by omega)
        have e : capsTo (cntL l) 12 = cntL l := by
          have := capsTo_all (cntL l)
          rwa [cntL_len] at this
        rw [e] at h
        have el : (cntL l).length = 12 := cntL_len l
        rw [HO.out.1]
        refine ⟨some ⟨w1.heap.size, 0, none⟩, 12, ?_, ?_, HO.out.2.2.1.trans (H2.out.2.mono HO.out.2.2.1.size)⟩
        · show _ = Ending.returned (.tuple #[.slice _ (cntL l).length 12, .int .i64 0])
          rw [el]
          rfl
        · show IntsAt _ (.slice _ (cntL l).length 12) (cntL l)
          rw [el]
          exact h
  · have hout : countsOut l = ([], 6) := by unfold countsOut; rw [if_neg hok]
    rw [if_neg hok]
    have HO : Hid _ := hout
    have HB : Hid _ := hbw
    clear hbw hb1 hT1 hout hok hv1
    go_wp2
    go_ret2
    rw [HO.out]
    exact ⟨none, 0, rfl, intsAt_nil _, HB.out⟩

set_option maxHeartbeats 8000000 in
set_option maxRecDepth 100000 in
theorem flowCounts_any (v : Value) (l : List Sl) (w : World) (hv : SlAt w v l) :
    Calls Try.prog 11 #[.agg #[v]] w (CountsRes (countsOut l) w) := by
  obtain ⟨p, c, rfl, hc, hm, _⟩ := hv.parts
  unfold maxLen at hm
  obtain ⟨W0, hW0⟩ : ∃ W0, W0 = w.alloc (.cells #[.slice p l.length c] 24) := ⟨_, rfl⟩
  have hb0 : Below w.heap.size w W0 := by rw [hW0]; exact below_newC w
  have hT0 : W0.heap[w.heap.size]? = some (.cells #[.slice p l.length c] 24 (0, 0)) := by rw [hW0]; exact heap_alloc_new _ _
  have HV : Hid (_ ∧ _ ∧ _ ∧ _) := ⟨hv, hb0, hT0, hW0⟩
  clear hv hb0 hT0 hW0
  go_enter Try.func11, Try.ntmps11
  go_wp2_with fail
  rw [← HV.out.2.2.2]
  refine (fault_any _ l _ (HV.out.1.below HV.out.2.1)).mono ?_
  rintro r w1 ⟨rfl, hb1⟩
  have hT1 := box_below HV.out.2.2.1 hb1
  have hlt : w.heap.size < w1.heap.size := (Array.getElem?_eq_some_iff.1 hT1).1
  have hbw := HV.out.2.1.trans (hb1.mono HV.out.2.1.size)
  have hv1 := (HV.out.1.below HV.out.2.1).below hb1
  by_cases hok : TabOk l
  · have hout : countsOut l = (cntL l, 0) := by unfold countsOut; rw [if_pos hok]
    rw [if_pos hok]
    have HO : Hid (_ ∧ _ ∧ _ ∧ _ ∧ _) := ⟨hout, hok, hbw, hT1, hv1⟩
    clear hout hok hbw hb1 hT1 hv1 HV
    go_wp2
    go_loopw [5, 6] (fun o i wr => ∃ (k : Nat) (p' : Option Addr) (c' : Nat), i = .int .i64 k ∧ o = .slice p' k c' ∧ k ≤ 12 ∧ wr.ownsRow w1.heap.size 3 1 (.slice p' k c') k (icells ((cntL l).take k)) ∧ Below w1.heap.size w1 wr) (fun _ i _ => 12 - (intOf i).toNat)
    case atStart => exact ⟨0, none, 0, rfl, rfl, Nat.zero_le _, World.ownsRow_nil _ _ _ _, Below.refl _ _⟩
    case round =>
      obtain ⟨k, p', c', rfl, rfl, hk, ho, hb⟩ := hrel
      by_cases hk' : k < 12
      · have hkI : (k : Int) < 12 := by omega
        have hTr := (hb.block w.heap.size hlt).trans HO.out.2.2.2.1
        have t0 := one_cell hTr
        have hltr : w.heap.size < wr.heap.size := Nat.lt_of_lt_of_le hlt hb.size
        have hvr := HO.out.2.2.2.2.below hb
        have hF := flowsOf_any _ l (k : Int) wr hvr
        rw [show ofOut l (k : Int) = (hsOf (k : Int) l, 0) by unfold ofOut; rw [if_pos HO.out.2.1]] at hF
        have hbl := hsTo_len (k : Int) l l.length
        have hcat := cntL_at l k hk'
        have hl40 := HO.out.2.1.1.2
        obtain ⟨m, hm'⟩ : ∃ m, m = hsOf (k : Int) l := ⟨_, rfl⟩
        rw [← hm'] at hF hcat
        have hml : m.length ≤ 40 := by rw [hm']; exact Nat.le_trans hbl hl40
        have htk : (cntL l).take (k + 1) = (cntL l).take k ++ [(m.length : Int)] := by
          obtain ⟨h1, h2⟩ := List.getElem?_eq_some_iff.1 hcat
          rw [List.take_succ_eq_append_getElem h1, h2]
        have H1 : Hid (_ ∧ _ ∧ _ ∧ _) := ⟨hF, ho, hb, htk⟩
        clear hF ho hb htk hTr hvr hbl hcat hm'
        go_wp2_with fail
        refine H1.out.1.mono ?_
        rintro r w2 ⟨q, d, rfl, ho2, hb2⟩
        have hown2 := own_grownW H1.out.2.1 hb2
        have hb12 := H1.out.2.2.1.trans (hb2.mono H1.out.2.2.1.size)
        obtain ⟨q', d', w3, hr, z0, z1⟩ := append_oneI hown2 hb12.size (by omega) 25 (m.length : Int)
        rw [← H1.out.2.2.2] at z0
        have H2 : Hid (_ ∧ _ ∧ _) := ⟨hr, z0, hb12.trans z1⟩
        clear hr z0 z1 hown2 hb12 hb2 ho2 t0
        go_wp2_with (at_builtin; (with_reducible refine wpList_append_eq rfl _ _ 25 rfl (.slice p' k c') (.slice (some ⟨w2.heap.size, 0, none⟩) 1 1) (.slice q' (k + 1) d') w3 ?hs ?hx ?hr ?_); (case hs => rfl); (case hx => rfl); (case hr => exact H2.out.1))
        go_roundw
        case rel => exact ⟨k + 1, q', d', by simp, rfl, hk', H2.out.2.1, H2.out.2.2⟩
        case measure => simp [intOf]; omega
      · obtain rfl : k = 12 := by omega
        have h := ho
        have e : (cntL l).take 12 = cntL l := by
          have := List.take_length (l := cntL l)
          rwa [cntL_len] at this
        rw [e] at h
        have H2 : Hid (_ ∧ _) := ⟨h, hb⟩
        clear ho hb h e
        go_wp2
        go_ret2
        rw [HO.out.1]
        have el : (cntL l).length = 12 := cntL_len l
        refine ⟨p', c', ?_, ?_, HO.out.2.2.1.trans (H2.out.2.mono HO.out.2.2.1.size)⟩
        · show _ = Ending.returned (.tuple #[.slice _ (cntL l).length c', .int .i64 0])
          rw [el]
          rfl
        · show RowAt _ (.slice _ (cntL l).length c') (cntL l).length _
          rw [el]
          exact rowAt_own H2.out.1
  · have hout : countsOut l = ([], 6) := by unfold countsOut; rw [if_neg hok]
    rw [if_neg hok]
    have HO : Hid _ := hout
    have HB : Hid _ := hbw
    clear hbw hb1 hT1 hout hok hv1
    go_wp2
    go_ret2
    rw [HO.out]
    exact ⟨none, 0, rfl, intsAt_nil _, HB.out⟩

set_option maxHeartbeats 1000000 in
theorem lawInts (u v : Value) (l : List Int) (w : World) (hu : IntsAt w u l) (hv : IntsAt w v l) :
    Calls Try.prog 12 #[u, v] w fun r w' => r = .returned (.bool true) ∧ Below w.heap.size w w' := by
  obtain ⟨a, ca, rfl, hca, hma, pa⟩ := IntsAt.parts hu
  obtain ⟨b, cb, rfl, hcb, hmb, pb⟩ := IntsAt.parts hv
  unfold maxLen at hma hmb
  clear hu hv
  go_enter Try.func12, Try.ntmps12
  go_wp2
  go_loopw [5] (fun i wr => ∃ k q : Nat, i = .int .i64 k ∧ k ≤ l.length ∧ wr = w.drewN q) (fun i _ => l.length - (intOf i).toNat)
  case atStart => exact ⟨0, 0, rfl, Nat.zero_le _, rfl⟩
  case round =>
    obtain ⟨k, q, rfl, hk, rfl⟩ := hrel
    by_cases hlt : k < l.length
    · obtain ⟨b1, o1, rfl, hb1, c1⟩ := pa k hlt
      obtain ⟨b2, o2, rfl, hb2, c2⟩ := pb k hlt
      generalize l[k] = x at c1 c2
      clear hb1 hb2 pa pb
      have hkd : decide ((k : Int) < (l.length : Int)) = true := decide_eq_true (by omega)
      go_wp2
      go_region
      go_wp2
      go_roundw
      case rel => exact ⟨k + 1, q + 1, by simp, hlt, rfl⟩
      case measure => simp [intOf]; omega
    · obtain rfl : k = l.length := by omega
      clear pa pb
      go_wp2
      go_ret
      exact ⟨rfl, below_drewN (Below.refl _ _) q⟩

set_option maxHeartbeats 4000000 in
set_option maxRecDepth 100000 in
theorem tableCounts_row (w : World) (v : Value) (l : List Sl) (hv : SlAt w v l) (hl : l.length ≤ 4398046511104) :
    Calls Try.prog 3 #[.agg #[v]] w fun r w' => r = .returned (.bool true) ∧ Below w.heap.size w w' := by
  obtain ⟨p, c, rfl, _⟩ := hv.parts
  obtain ⟨m, e, hme⟩ : ∃ m e, countsOut l = (m, e) := ⟨_, _, rfl⟩
  obtain ⟨W0, hW0⟩ : ∃ W0, W0 = w.alloc (.cells #[.slice p l.length c] 24) := ⟨_, rfl⟩
  have hb0 : Below w.heap.size w W0 := by rw [hW0]; exact below_newC w
  have hT0 : W0.heap[w.heap.size]? = some (.cells #[.slice p l.length c] 24 (0, 0)) := by rw [hW0]; exact heap_alloc_new _ _
  have HV : Hid (_ ∧ _ ∧ _ ∧ _ ∧ _) := ⟨hv.below hb0, hb0, hT0, hl, hW0⟩
  have HM : Hid (_ ∧ True) := ⟨hme, trivial⟩
  clear hv hb0 hT0 hW0 hl hme
  go_enter Try.func3, Try.ntmps3
  go_wp2_with fail
  rw [← HV.out.2.2.2.2]
  refine (tables_any _ l _ HV.out.1 HV.out.2.2.2.1).mono ?_
  rintro r w1 ⟨y, rfl, ho1, hb1⟩
  obtain ⟨yp, yc, rfl⟩ := own_form ho1
  have hy1 : SlAt w1 (.slice yp l.length yc) l := rowAt_own ho1
  have H1 : Hid (_ ∧ _ ∧ _ ∧ _) := ⟨hy1, HV.out.1.below hb1, box_below HV.out.2.2.1 hb1, HV.out.2.1.trans (hb1.mono HV.out.2.1.size)⟩
  clear hy1 ho1 hb1
  go_wp2_with fail
  refine (counts_any _ l _ H1.out.1).mono ?_
  rw [HM.out.1]
  rintro r w2 ⟨p2, c2, rfl, hm2, hb2⟩
  have H2 : Hid (_ ∧ _ ∧ _ ∧ _) := ⟨hm2, H1.out.2.1.below hb2, box_below H1.out.2.2.1 hb2, H1.out.2.2.2.trans (hb2.mono H1.out.2.2.2.size)⟩
  clear hm2 hb2 H1
  have t2 := one_cell H2.out.2.2.1
  go_wp2_with fail
  refine (flowCounts_any _ l _ H2.out.2.1).mono ?_
  rw [HM.out.1]
  rintro r w3 ⟨p3, c3, rfl, hm3, hb3⟩
  have H3 : Hid (_ ∧ _ ∧ _) := ⟨hm3, H2.out.1.below hb3, H2.out.2.2.2.trans (hb3.mono H2.out.2.2.2.size)⟩
  clear hm3 hb3 H2 t2
  go_wp2_with fail
  refine (lawInts _ _ m _ H3.out.2.1 H3.out.1).mono ?_
  rintro r w4 ⟨rfl, hb4⟩
  have H4 : Hid _ := H3.out.2.2.trans (hb4.mono H3.out.2.2.size)
  clear hb4
  go_wp2
  go_ret
  exact ⟨rfl, H4.out⟩
end Go.Proofs.Ythiojfgimjoenaa.Walks
