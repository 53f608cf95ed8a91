/-
  The document's wheel of a list of timers: each list gathered and ordered. The ticks are not negative and lie within bounds; the list's bytes stay below the model's bound.
-/
import Derived.Test.YtdfjobghgbcjpaaDoorOwn
import Derived.WalkKit
import Derived.ProofKit
import Derived.Handy
import Derived.LoopTactic
import Derived.Below
import Derived.Laws.BitsAllLaws
import Derived.RegionTactic
import Derived.Deep.RegionHeld3
import Derived.Deep.DrawnRows
import Derived.Deep.AppendLies
import Derived.Laws.OwnMore
import Derived.Deep.Onto
import Derived.Deep.QuietTactic
import Derived.BigQuiet
namespace Go.Proofs.YtdfjobghgbcjpaaDoor.Walks
open Go.RowKit
set_option linter.unusedVariables false
set_option linter.unusedSimpArgs false
attribute [local go_sem ↓] Go.wp_at_zero Go.wp_at_succ

/-- Where a timer comes to stand behind those that are there: it passes those that it is ahead of, from the end. -/
def spot (t : Tm) (x : List Tm) : Nat → Nat
  | 0 => 0
  | j + 1 => if ahead t (x.getD j (0, 0)) then spot t x j else j + 1

def insAt (x : List Tm) (t : Tm) (j : Nat) : List Tm := x.take j ++ t :: x.drop j

def ins (x : List Tm) (t : Tm) : List Tm := insAt x t (spot t x x.length)

def gatherF (now i : Int) (x : List Tm) (t : Tm) : List Tm := if placeOf t.1 now = i then ins x t else x

/-- The timers of one place, in order. -/
def gather (now i : Int) (l : List Tm) : List Tm := l.foldl (gatherF now i) []

def wheelTo (now : Int) (l : List Tm) (k : Nat) : List (List Tm) := (List.range k).map fun (i : Nat) => gather now (i : Int) l

def wheelOf (now : Int) (l : List Tm) : List (List Tm) := wheelTo now l 25

theorem insAt_len (x : List Tm) (t : Tm) (j : Nat) : (insAt x t j).length = x.length + 1 := by
  simp only [insAt, List.length_append, List.length_cons, List.length_take, List.length_drop]; omega

theorem ins_len (x : List Tm) (t : Tm) : (ins x t).length = x.length + 1 := insAt_len _ _ _

theorem gather_snoc (now i : Int) (l : List Tm) (t : Tm) : gather now i (l ++ [t]) = gatherF now i (gather now i l) t := by simp [gather]

theorem gather_len (now i : Int) (l : List Tm) : (gather now i l).length ≤ l.length := by
  have h : ∀ (m : List Tm) (x : List Tm), (m.foldl (gatherF now i) x).length ≤ x.length + m.length := by
    intro m
    induction m with
    | nil => intro x; simp
    | cons t m ih =>
      intro x
      have h1 : (gatherF now i x t).length ≤ x.length + 1 := by
        unfold gatherF
        split
        · rw [ins_len]; exact Nat.le_refl _
        · omega
      have := ih (gatherF now i x t)
      simp only [List.foldl_cons, List.length_cons]
      omega
  simpa [gather] using h l []

theorem insAt_step (x : List Tm) (t : Tm) (j : Nat) (hj : j < x.length) : ((insAt x t (j + 1)).set (j + 1) x[j]).set j t = insAt x t j := by
  apply List.ext_getElem?
  intro i
  simp only [insAt, List.getElem?_set, List.length_set, List.length_append, List.length_cons, List.length_take, List.length_drop, List.getElem?_append]
  rcases Nat.lt_trichotomy i j with h | h | h
  · rw [if_neg (by omega), if_neg (by omega), if_pos (by omega), if_pos (by omega), List.getElem?_take_of_lt (by omega), List.getElem?_take_of_lt h]
  · subst h
    rw [if_pos rfl, if_pos (by omega), if_neg (by omega), show i - min i x.length = 0 by omega]
    rfl
  · by_cases h2 : i = j + 1
    · subst h2
      rw [if_neg (by omega), if_pos rfl, if_pos (by omega), if_neg (by omega), show j + 1 - min j x.length = 1 by omega]
      simp [List.getElem?_drop, List.getElem?_eq_getElem hj]
    · rw [if_neg (by omega), if_neg (by omega), if_neg (by omega), if_neg (by omega), show min (j + 1) x.length = j + 1 by omega, show min j x.length = j by omega, show i - j = (i - (j + 1)) + 1 by omega]
      obtain ⟨m, rfl⟩ : ∃ m, i = j + 2 + m := ⟨i - (j + 2), by omega⟩
      rw [show j + 2 + m - (j + 1) = m + 1 by omega]
      simp only [List.getElem?_cons_succ, List.getElem?_drop]
      congr 1
      omega

theorem insAt_get (x : List Tm) (t : Tm) (j : Nat) (hj : j ≤ x.length) : (insAt x t j)[j]? = some t := by
  simp only [insAt, List.getElem?_append, List.length_take]
  rw [if_neg (by omega), show j - min j x.length = 0 by omega]; rfl

theorem insAt_before (x : List Tm) (t : Tm) (j : Nat) (hj : j < x.length) : (insAt x t (j + 1))[j]? = some x[j] := by
  simp only [insAt, List.getElem?_append, List.length_take]
  rw [if_pos (by omega), List.getElem?_take_of_lt (by omega), List.getElem?_eq_getElem hj]

theorem insAt_end (x : List Tm) (t : Tm) : insAt x t x.length = x ++ [t] := by simp [insAt]

set_option maxHeartbeats 4000000 in
set_option maxRecDepth 100000 in
theorem wheelOf_any (now : Int) (v : Value) (l : List Tm) (w : World) (hv : TmAt w v l) (hn : 0 ≤ now) (hn2 : now ≤ 4398046511104) (hl : ∀ t ∈ l, 0 ≤ t.1 ∧ t.1 ≤ 4398046511104) (hlen : l.length ≤ 1048577) :
    Calls Tryd.prog 22 #[.int .i64 now, v] w fun r w' => ∃ x vs, r = .returned (.agg #[.int .i64 now, x]) ∧ OwnLs w' w.heap.size x vs (wheelOf now l) ∧ Below w.heap.size w w' := by
  obtain ⟨a, ca, rfl, hca, hma, pa⟩ := hv.parts
  unfold maxLen at hma
  obtain ⟨i0, hi, hz0, hz1, hz2⟩ := info_parts infoTm
  obtain ⟨i1, hj, hy0, hy1, hy2⟩ := info_parts infoTms
  go_enter Tryd.func22, Tryd.ntmps22
  go_wp2
  go_loopw [6] (fun i wr => ∃ (k : Nat) (v : Value) (vs : List Value), i = .int .i64 k ∧ k ≤ 25 ∧ wr.heap[w.heap.size]? = some (.cells #[.int .i64 0, .slice none 0 0] 24 (0, 0)) ∧ wr.heap[w.heap.size + 1]? = some (.cells #[.int .i64 now, v] 24 (0, 0)) ∧ OwnLs wr (w.heap.size + 2) v vs (wheelTo now l k) ∧ Below w.heap.size w wr ∧ w.heap.size + 2 ≤ wr.heap.size) (fun i _ => 25 - (intOf i).toNat)
  case atStart =>
    refine ⟨0, .slice none 0 0, [], rfl, by omega, ?_, ?_, OwnLs.nil _ _, ?_, ?_⟩
    · exact heap_old _ _ (heap_alloc_new _ _)
    · exact heap_second _ _ _
    · exact ((Below.refl _ _).alloc (Nat.le_refl _) _).alloc (by simp) _
    · simp
  case round =>
    obtain ⟨k, x, vs, rfl, hk, h1, h2, hown, hb, hsz⟩ := hrel
    obtain ⟨w0, hw0⟩ : ∃ w0, w0 = wr := ⟨_, rfl⟩
    subst hw0
    have c1 : w0.cell? ⟨w.heap.size + 1, 1, none⟩ = some x := by simp [World.cell?, h2]
    have HH : Hid (_ ∧ _ ∧ _ ∧ _ ∧ _) := ⟨h1, h2, hown, hb, hl⟩
    clear h1 h2 hown hl
    by_cases hlt : k < 25
    · have hkd : decide ((k : Int) < 25) = true := decide_eq_true (by omega)
      go_wp2
      go_loopw [7, 8] (fun y i wr => ∃ (q : Nat), i = .int .i64 q ∧ q ≤ l.length ∧ wr.ownsRow w0.heap.size 45 2 y (gather now k (l.take q)).length (tcells (gather now k (l.take q))) ∧ Below w0.heap.size w0 wr) (fun _ i _ => l.length - (intOf i).toNat)
      case atStart => exact ⟨0, rfl, Nat.zero_le _, World.ownsRow_nil _ _ _ _, Below.refl _ _⟩
      case round =>
        obtain ⟨q, rfl, hq, ho, hb2⟩ := hrel
        by_cases hq2 : q < l.length
        · obtain ⟨b0, off, rfl, hbl, p1, p2⟩ := pa q hq2
          have hb3 : Below w.heap.size w wr := hb.trans (hb2.mono hb.size)
          have e1 := (hb3.cell (p := ⟨b0, off + q * 2, none⟩) hbl).trans p1
          have e2 := (hb3.cell (p := ⟨b0, off + q * 2 + 1, none⟩) hbl).trans p2
          have hlq := HH.out.2.2.2.2 l[q] (List.getElem_mem hq2)
          have hgs := gather_snoc now k (l.take q) l[q]
          rw [← List.take_succ_eq_append_getElem hq2] at hgs
          have hgl := gather_len now k (l.take q)
          rw [List.length_take] at hgl
          obtain ⟨ta, hta⟩ : ∃ ta, l[q].1 = ta := ⟨_, rfl⟩
          obtain ⟨td, htd⟩ : ∃ td, l[q].2 = td := ⟨_, rfl⟩
          have hlq' : l[q] = (ta, td) := Prod.ext hta htd
          rw [hta] at e1 hlq
          rw [htd] at e2
          rw [hlq'] at hgs
          obtain ⟨g, hg⟩ : ∃ g, gather now k (l.take q) = g := ⟨_, rfl⟩
          rw [hg] at ho hgs hgl
          unfold gatherF at hgs
          have HG : Hid (_ ∧ _ ∧ _) := ⟨hgs, hb2, hb3⟩
          clear hta htd hlq' hg hgs p1 p2 pa hb2 hb3
          cases hpl : (placeOf ta now != (k : Int))
          · go_wp2_with (first | (go_at_call 35; refine (placeOf_any _ _ _ hlq.1 hlq.2 hn hn2).mono ?_; rintro r w1 ⟨rfl, rfl⟩) | (at_builtin; refine wpList_append_lies _ rfl _ _ 38 rfl w0.heap.size 45 i0 _ 2 16 Tryd.underlying38 hi hz0 hz1 hz2 rfl (by decide) u7 _ _ rfl (ho.alloc _) _ 1 1 (tcells [(ta, td)]) rfl rfl (news_at _ _ _) (tcells_one _) (by decide) (by unfold maxLen; omega) (by omega) (by have := HG.out.2.1.size; simp; omega) _ rfl ?_; intro g' cap w2 hown2 hg2 hlies hlt2))
            have hw2 : Below w0.heap.size w0 w2 := by
              have hs1 := HG.out.2.1.size
              refine ((HG.out.2.1.alloc hs1 _).trans ⟨hg2.os, hg2.tape, hg2.output, hg2.size, fun j hj => hg2.block j (by simp; omega) (fun e => ?_)⟩)
              have := (ho.lt j e.symm).1
              omega
            rw [← tcells_append, ← insAt_end] at hown2
            obtain ⟨n1, hn1⟩ : ∃ n1, n1 = g.length + 1 := ⟨_, rfl⟩
            have hgn : g.length = n1 - 1 := by omega
            rw [← hn1] at hown2 ⊢
            have hfin : ∀ (j : Nat) (W : World), j = spot (ta, td) g g.length → W.ownsRow w0.heap.size 45 2 (.slice (some ⟨g', 0, none⟩) n1 cap) n1 (tcells (insAt g (ta, td) j)) → W.ownsRow w0.heap.size 45 2 (.slice (some ⟨g', 0, none⟩) n1 cap) (gather now k (l.take (q + 1))).length (tcells (gather now k (l.take (q + 1)))) := fun j W hj h => by
              have e : gather now k (l.take (q + 1)) = insAt g (ta, td) j := by
                rw [HG.out.1, if_pos (by simpa using hpl), ins, ← hj]
              rw [e, insAt_len, ← hn1]
              exact h
            have HK : Hid (_ ∧ _ ∧ _ ∧ _) := ⟨hown2, hw2, ho, hfin⟩
            clear hown2 hg2 hlies ho hfin
            go_loopw [9] (fun i wr => ∃ (j : Nat), i = .int .i64 j ∧ j ≤ g.length ∧ spot (ta, td) g j = spot (ta, td) g g.length ∧ wr.ownsRow w0.heap.size 45 2 (.slice (some ⟨g', 0, none⟩) n1 cap) n1 (tcells (insAt g (ta, td) j)) ∧ Below w0.heap.size w0 wr) (fun i _ => (intOf i).toNat)
            case atStart =>
              refine ⟨g.length, by simp, Nat.le_refl _, rfl, HK.out.1, HK.out.2.1⟩
            case round =>
              obtain ⟨j, rfl, hj, hsp, ho, hb4⟩ := hrel
              cases j with
              | zero =>
                have HZ : Hid (_ ∧ _ ∧ _) := ⟨hsp, ho, hb4⟩
                clear hsp ho hb4
                go_wp2_with fail
                go_region
                go_wp2
                go_roundw
                case rel => exact ⟨q + 1, by simp, hq2, HK.out.2.2.2 0 _ HZ.out.1 HZ.out.2.1, HZ.out.2.2.drew⟩
                case measure => simp [intOf]; omega
              | succ j =>
                have hgj : j < g.length := hj
                obtain ⟨m, hm⟩ : ∃ m, m = j + 1 := ⟨_, rfl⟩
                rw [← hm] at hsp ho hj ⊢
                have hm1 : (0 : Int) ≤ (m : Int) := by omega
                have hm2 : (m : Int) < (n1 : Int) := by omega
                have hm3 : (0 : Int) < (m : Int) := by omega
                have hm5 : 0 < m := by omega
                have hj1 : (0 : Int) ≤ (j : Int) := by omega
                have hj2 : (j : Int) < (n1 : Int) := by omega
                have hj3 : IntKind.i64.wrap ((m : Int) - 1) = (j : Int) := by rw [IntKind.wrap_i64]; omega
                have f1 := tcells_at (insAt g (ta, td) m) m (by rw [insAt_len]; omega)
                have f2 := tcells_at (insAt g (ta, td) m) j (by rw [insAt_len]; omega)
                have f3 := insAt_get g (ta, td) m hj
                have f4 := insAt_before g (ta, td) j hgj
                rw [← hm] at f4
                rw [List.getElem?_eq_getElem (by rw [insAt_len]; omega)] at f3 f4
                rw [Option.some.inj f3, ← ho.cellAt _ (by omega), ← ho.cellAt _ (by omega)] at f1
                rw [Option.some.inj f4, ← ho.cellAt _ (by omega), ← ho.cellAt _ (by omega)] at f2
                obtain ⟨f1, f1'⟩ := f1
                obtain ⟨f2, f2'⟩ := f2
                obtain ⟨xa, hxa⟩ : ∃ xa, g[j].1 = xa := ⟨_, rfl⟩
                obtain ⟨xd, hxd⟩ : ∃ xd, g[j].2 = xd := ⟨_, rfl⟩
                have hgj' : g[j] = (xa, xd) := Prod.ext hxa hxd
                rw [hxa] at f2
                rw [hxd] at f2'
                have hz1' := ho.frozenAt (j * 2)
                have hz2' := ho.frozenAt (j * 2 + 1)
                have hz3' := ho.frozenAt (m * 2)
                have hz4' := ho.frozenAt (m * 2 + 1)
                have hsp2 : spot (ta, td) g m = if ahead (ta, td) (xa, xd) then spot (ta, td) g j else j + 1 := by
                  rw [hm, spot, show g.getD j (0, 0) = g[j] by simp [List.getD, List.getElem?_eq_getElem hgj], hgj']
                have HJ : Hid (_ ∧ _ ∧ _ ∧ _ ∧ _ ∧ _ ∧ _) := ⟨hsp, ho, hb4, hsp2, hgj', hm, hn1⟩
                clear hsp hb4 hsp2 hgj' hxa hxd f3 f4 ho hm hn1 hgn
                have hlt3 : g' < wr.heap.size := (HJ.out.2.1.lt g' rfl).2
                cases hah : ahead (ta, td) (xa, xd)
                · go_wp2_with fail
                  go_region_held3 (fun w' => w'.cell? ⟨g', m * 2, none⟩ = some (.int .i64 ta) ∧ w'.cell? ⟨g', m * 2 + 1, none⟩ = some (.int .i64 td) ∧ w'.cell? ⟨g', j * 2, none⟩ = some (.int .i64 xa) ∧ w'.cell? ⟨g', j * 2 + 1, none⟩ = some (.int .i64 xd) ∧ Below wr.heap.size wr w') (first | exact held4 hlt3 f1 f1' f2 f2' ((Below.refl _ _).drew) | exact held4 hlt3 f1 f1' f2 f2' (below_of_drew hb1)) (first | (go_at_call 36; refine (ahead_b ta td xa xd _).mono ?_; rintro r w1 ⟨rfl, hb1⟩; rw [hah]))
                  have hb5 := below_of_drew hb1
                  have ho1 := own_block HJ.out.2.1 (fun i hi => hb5.block i (HJ.out.2.1.lt i hi).2)
                  have HB : Hid (_ ∧ _) := ⟨hb5, ho1⟩
                  clear f1 f1' f2 f2' hz1' hz2' hz3' hz4' hb1 hb5 ho1
                  go_wp2
                  go_roundw
                  case rel =>
                    refine ⟨q + 1, by simp, hq2, HK.out.2.2.2 m _ ?_ HB.out.2, HJ.out.2.2.1.trans (HB.out.1.mono HJ.out.2.2.1.size)⟩
                    have h1 := HJ.out.2.2.2.1
                    rw [if_neg (by rw [hah]; exact Bool.false_ne_true)] at h1
                    rw [← HJ.out.1, h1]
                    exact HJ.out.2.2.2.2.2.1
                  case measure => simp [intOf]; omega
                · go_wp2_with fail
                  go_region_held3 (fun w' => w'.cell? ⟨g', m * 2, none⟩ = some (.int .i64 ta) ∧ w'.cell? ⟨g', m * 2 + 1, none⟩ = some (.int .i64 td) ∧ w'.cell? ⟨g', j * 2, none⟩ = some (.int .i64 xa) ∧ w'.cell? ⟨g', j * 2 + 1, none⟩ = some (.int .i64 xd) ∧ Below wr.heap.size wr w') (first | exact held4 hlt3 f1 f1' f2 f2' ((Below.refl _ _).drew) | exact held4 hlt3 f1 f1' f2 f2' (below_of_drew hb1)) (first | (go_at_call 36; refine (ahead_b ta td xa xd _).mono ?_; rintro r w1 ⟨rfl, hb1⟩; rw [hah]))
                  have hb5 := below_of_drew hb1
                  have ho1 := own_block HJ.out.2.1 (fun i hi => hb5.block i (HJ.out.2.1.lt i hi).2)
                  have hlt4 : g' < w1.heap.size := Nat.lt_of_lt_of_le hlt3 hb5.size
                  have k1 := (hb5.cell (p := ⟨g', m * 2, none⟩) hlt3).trans f1
                  have k2 := (hb5.cell (p := ⟨g', m * 2 + 1, none⟩) hlt3).trans f1'
                  have k3 := (hb5.cell (p := ⟨g', j * 2, none⟩) hlt3).trans f2
                  have k4 := (hb5.cell (p := ⟨g', j * 2 + 1, none⟩) hlt3).trans f2'
                  have z1 := ho1.frozenAt (j * 2)
                  have z2 := ho1.frozenAt (j * 2 + 1)
                  have z3 := ho1.frozenAt (m * 2)
                  have z4 := ho1.frozenAt (m * 2 + 1)
                  have hne : m ≠ j := by have := HJ.out.2.2.2.2.2.1; omega
                  have HB : Hid (_ ∧ _) := ⟨hb5, ho1⟩
                  clear f1 f1' f2 f2' hz1' hz2' hz3' hz4' hb1 hb5 ho1
                  go_wp2
                  have hge := (HB.out.2.lt g' rfl).1
                  refine ⟨⟨j, rfl, by omega, ?_, ?_, ?_⟩, ?_⟩
                  · rw [← HJ.out.1, HJ.out.2.2.2.1, if_pos hah]
                  · have s1 := (HB.out.2.stored (m * 2) (.int .i64 xa)).1
                    have s2 := (s1.stored (m * 2 + 1) (.int .i64 xd)).1
                    have s3 := (s2.stored (j * 2) (.int .i64 ta)).1
                    have s4 := ((s3.stored (j * 2 + 1) (.int .i64 td)).1).alloc (.cells #[.int .i64 ta, .int .i64 td] 45)
                    rw [tcells_set _ m (xa, xd), tcells_set _ j (ta, td), ← HJ.out.2.2.2.2.1, HJ.out.2.2.2.2.2.1, insAt_step g (ta, td) j hgj] at s4
                    rw [HJ.out.2.2.2.2.2.1]
                    exact s4
                  · exact (((((HJ.out.2.2.1.trans (HB.out.1.mono HJ.out.2.2.1.size)).setCell (p := ⟨g', m * 2, none⟩) hge _).setCell (p := ⟨g', m * 2 + 1, none⟩) hge _).setCell (p := ⟨g', j * 2, none⟩) hge _).setCell (p := ⟨g', j * 2 + 1, none⟩) hge _).alloc (by have h1 := HJ.out.2.2.1.size; have h2 := HB.out.1.size; simp; omega) _
                  · have := HJ.out.2.2.2.2.2.1
                    simp [intOf]; omega
          · have hge : gather now k (l.take (q + 1)) = g := by rw [HG.out.1, if_neg (by simpa using hpl)]
            have HZ : Hid (_ ∧ _) := ⟨hge, ho⟩
            clear hge ho
            go_wp2_with (first | (go_at_call 35; refine (placeOf_any _ _ _ hlq.1 hlq.2 hn hn2).mono ?_; rintro r w1 ⟨rfl, rfl⟩))
            go_roundw
            case rel => exact ⟨q + 1, by simp, hq2, by rw [HZ.out.1]; exact HZ.out.2, HG.out.2.1⟩
            case measure => simp [intOf]; omega
        · obtain rfl : q = l.length := by omega
          rw [List.take_length] at ho
          obtain ⟨yp, yc, rfl⟩ := own_form ho
          obtain ⟨h1, h2, hown, _, hl⟩ := HH.out
          have hs2 := hb2.size
          have r1 : wr.heap[w.heap.size]? = some (.cells #[.int .i64 0, .slice none 0 0] 24 (0, 0)) := (hb2.block _ (by omega)).trans h1
          have r2 : wr.heap[w.heap.size + 1]? = some (.cells #[.int .i64 now, x] 24 (0, 0)) := (hb2.block _ (by omega)).trans h2
          have c2 : wr.cell? ⟨w.heap.size + 1, 1, none⟩ = some x := by simp [World.cell?, r2]
          have hb6 : w.heap.size + 1 < wr.heap.size := by omega
          have hownr := hown.below hb2
          have hkeep : ∀ (w2 : World) (i : Nat) (o : Obj), i < w.heap.size + 2 → (wr.alloc (.cells #[.slice yp (gather now k l).length yc] 38)).grownBy w2 x.ownBlock → wr.heap[i]? = some o → w2.heap[i]? = some o := fun w2 i o hk hg ho => by
            rw [hg.block i (by simp; omega) (fun e => by have := (hown.row.lt i e.symm).1; omega)]
            exact heap_old _ _ ho
          have hkeep2 : ∀ (w2 : World), (wr.alloc (.cells #[.slice yp (gather now k l).length yc] 38)).grownBy w2 x.ownBlock → w2.heap[w.heap.size]? = some (.cells #[.int .i64 0, .slice none 0 0] 24 (0, 0)) ∧ w2.heap[w.heap.size + 1]? = some (.cells #[.int .i64 now, x] 24 (0, 0)) ∧ w2.cell? ⟨w.heap.size + 1, 1, none⟩ = some x ∧ w2.frozen? ⟨w.heap.size + 1, 1, none⟩ = false := fun w2 hg => by
            have q0 := hkeep w2 _ _ (by omega) hg r2
            exact ⟨hkeep w2 _ _ (by omega) hg r1, q0, by simp [World.cell?, q0], by simp [World.frozen?, q0]⟩
          have hwl : (wheelTo now l k).length = k := by simp [wheelTo]
          have hrow := hownr.row
          rw [hwl] at hrow
          have HM : Hid (_ ∧ _ ∧ _ ∧ _ ∧ _ ∧ _ ∧ _ ∧ _) := ⟨ho, hownr, hkeep2, r1, r2, hl, hown, h1⟩
          clear ho hownr r1 r2 hl hown h1 h2 c1 hkeep hkeep2 pa hwl
          go_wp2_with (first | (at_builtin; refine wpList_append_lies _ rfl _ _ 22 rfl (w.heap.size + 2) 38 i1 _ 1 24 Tryd.underlying22 hj hy0 hy1 hy2 rfl (by decide) x k vs rfl (hrow.alloc _) _ 1 1 [.slice yp (gather now k l).length yc] rfl rfl (news_at _ _ _) (by intro u hu; rw [List.mem_singleton.1 hu]; rfl) (by decide) (by unfold maxLen; omega) (by omega) (by simp; omega) _ rfl ?_; intro g' cap w2 hown2 hg2 hlies hlt2; obtain ⟨q3, q0, q1, q2⟩ := HM.out.2.2.1 w2 hg2))
          have hw2 : wr.heap.size + 1 ≤ w2.heap.size := by have := hg2.size; simpa using this
          have hpush := HM.out.2.2.2.2.2.2.1.push (l := gather now k l) (by omega) (hb2.alloc hs2 (.cells #[.slice yp (gather now k l).length yc] 38)) (HM.out.1.alloc _) (by have := hown2; rw [show (wheelTo now l k).length = k by simp [wheelTo]]; exact this) hg2 rfl hlies
          refine ⟨⟨k + 1, .slice (some ⟨g', 0, none⟩) (k + 1) cap, vs ++ [.slice yp (gather now k l).length yc], by simp, hlt, ?_, ?_, ?_, ?_, ?_⟩, by simp [intOf]; omega⟩
          · rw [Below.heap_setCell _ _ _ _ (by simp)]; exact q3
          · rw [heap_setCell_same _ _ _ _ _ _ q0]; rfl
          · rw [show wheelTo now l (k + 1) = wheelTo now l k ++ [gather now k l] by simp [wheelTo, List.range_succ]]
            exact hpush.keep fun i h1 _ => Below.heap_setCell _ _ _ _ (by simp; omega)
          · have hbw : Below w.heap.size w wr := HH.out.2.2.2.1.trans (hb2.mono HH.out.2.2.2.1.size)
            refine ((hbw.alloc (by omega) _).trans ⟨hg2.os, hg2.tape, hg2.output, hg2.size, fun i hi => hg2.block i (by simp; omega) (fun e => ?_)⟩).setCell (by simp) _
            have := (HM.out.2.1.row.lt i e.symm).1
            omega
          · simp; omega
    · obtain rfl : k = 25 := by omega
      obtain ⟨h1, h2, hown, hbw, hl⟩ := HH.out
      have c0 : w0.cell? ⟨w.heap.size + 1, 0, none⟩ = some (.int .i64 now) := by simp [World.cell?, h2]
      have d0 : w0.cell? ⟨w.heap.size, 0, none⟩ = some (.int .i64 0) := by simp [World.cell?, h1]
      have d1 : w0.cell? ⟨w.heap.size, 1, none⟩ = some (.slice none 0 0) := by simp [World.cell?, h1]
      have f0 : w0.frozen? ⟨w.heap.size, 0, none⟩ = false := by simp [World.frozen?, h1]
      have f1 : w0.frozen? ⟨w.heap.size, 1, none⟩ = false := by simp [World.frozen?, h1]
      have HM : Hid (_ ∧ _ ∧ _) := ⟨h1, hown, hbw⟩
      obtain ⟨xp, xc, rfl⟩ := own_form hown.row
      clear h1 h2 hown hbw hl pa HH
      go_wp2
      have hcell : ∀ i, i < 2 → (((w0.setCell ⟨w.heap.size, 0, none⟩ (.int .i64 now)).setCell ⟨w.heap.size, 1, none⟩ (.slice xp (wheelTo now l 25).length xc)).cell? ⟨w.heap.size, i, none⟩) = some (if i = 0 then .int .i64 now else .slice xp (wheelTo now l 25).length xc) := fun i hi => by
        have h3 := heap_setCell_same _ _ 1 _ _ (.slice xp (wheelTo now l 25).length xc) (heap_setCell_same w0 w.heap.size 0 _ _ (.int .i64 now) HM.out.1)
        have hi2 : i = 0 ∨ i = 1 := by omega
        rcases hi2 with rfl | rfl <;> simp [World.cell?, h3]
      have e0 := hcell 0 (by omega)
      have e1 := hcell 1 (by omega)
      simp only [if_true, Nat.one_ne_zero, if_false] at e0 e1
      refine bodyPost_ret (v := .agg #[.int .i64 now, .slice xp (wheelTo now l 25).length xc]) (by simp [results, Tryd.results22, go_sem, e0, e1]) rfl ⟨_, vs, rfl, ?_, ?_⟩
      · refine (HM.out.2.1.keep fun i h1 _ => ?_).mono (by omega)
        rw [Below.heap_setCell _ _ _ _ (by simp; omega), Below.heap_setCell _ _ _ _ (by simp; omega)]
      · exact (HM.out.2.2.setCell (by simp) _).setCell (by simp) _
end Go.Proofs.YtdfjobghgbcjpaaDoor.Walks
