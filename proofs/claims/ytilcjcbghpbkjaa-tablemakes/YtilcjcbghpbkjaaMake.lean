/-
  table.Make, the document's Tabled, and the law TableMakes. No condition.
-/
import Derived.Test.YtilcjcbghpbkjaaChanged
import Derived.Test.YtilcjcbghpbkjaaDrop
import Derived.Test.YtilcjcbghpbkjaaSame
import Derived.WalkKit
import Derived.ProofKit
import Derived.Handy
import Derived.LoopTactic
import Derived.Below
import Derived.Laws.BitsAllLaws
import Derived.RegionTactic
import Derived.Deep.RegionHeld3
import Derived.Deep.DrawnRows
import Derived.Deep.AppendLies
import Derived.Laws.OwnMore
import Derived.Deep.Onto
import Derived.Deep.QuietTactic
import Derived.BigQuiet
namespace Go.Proofs.Ytilcjcbghpbkjaa.Walks
open Go.RowKit
set_option linter.unusedVariables false
set_option linter.unusedSimpArgs false
attribute [local go_sem ↓] Go.wp_at_zero Go.wp_at_succ

theorem made_slots (n : Nat) : madeCells #[.int .i64 0, .bool false, .int .i64 0, .int .i64 0] (n * 4) = (scells (List.replicate n (0, false, 0, 0))).toArray := by
  apply Array.ext'
  apply List.ext_getElem?
  intro i
  have hlen : (scells (List.replicate n ((0 : Int), false, (0 : Int), (0 : Int)))).length = n * 4 := by rw [scells_len]; simp
  by_cases h : i < n * 4
  · have ht := scells_at (List.replicate n ((0 : Int), false, (0 : Int), (0 : Int))) (i / 4) (by simp; omega)
    simp only [List.getElem_replicate] at ht
    have hL : (madeCells #[.int .i64 0, .bool false, .int .i64 0, .int .i64 0] (n * 4)).toList[i]? = some ((#[.int .i64 0, .bool false, .int .i64 0, .int .i64 0] : Array Value)[i % 4]!) := by
      unfold madeCells
      simp [h]
    rw [hL]
    have hp : i % 4 = 0 ∨ i % 4 = 1 ∨ i % 4 = 2 ∨ i % 4 = 3 := by omega
    rcases hp with hp | hp | hp | hp
    · rw [hp]
      rw [show i / 4 * 4 = i by omega] at ht
      exact ht.1.symm
    · rw [hp]
      rw [show i / 4 * 4 + 1 = i by omega] at ht
      exact ht.2.1.symm
    · rw [hp]
      rw [show i / 4 * 4 + 2 = i by omega] at ht
      exact ht.2.2.1.symm
    · rw [hp]
      rw [show i / 4 * 4 + 3 = i by omega] at ht
      exact ht.2.2.2.symm
  · rw [List.getElem?_eq_none (by simp [size_madeCells]; omega), List.getElem?_eq_none (by simp [hlen]; omega)]

def makeOut (n : Int) : List Sl × Int := if 1 ≤ n ∧ n ≤ 40 then (List.replicate n.toNat (0, false, 0, 0), 0) else ([], 2)

theorem made_run (n : Nat) (hn : n ≤ 40) (W : World) : (Instr.makeSlice 22 (.int .i64 (n : Int)) (.int .i64 (n : Int))).run Try.prog W = .ok (.slice (some ⟨W.heap.size, 0, none⟩) n n) (W.alloc (.cells (scells (List.replicate n (0, false, 0, 0))).toArray 39)) := by
  obtain ⟨i1, hj, hy0, hy1, hy2⟩ := info_parts infoSl
  have h := run_makeSlice (P := Try.prog) W 22 39 i1 _ Try.underlying22 hj hy0 .i64 .i64 n n (by omega) (by omega) (by rw [hy1]; omega) (by rw [hy2]; omega) (by omega)
  rw [h, hy1, Int.toNat_natCast, ← made_slots]
  rfl

theorem made_own (n : Nat) (hn : n ≤ 40) (W : World) : (W.alloc (.cells (scells (List.replicate n (0, false, 0, 0))).toArray 39)).ownsRow W.heap.size 39 4 (.slice (some ⟨W.heap.size, 0, none⟩) n n) n (scells (List.replicate n (0, false, 0, 0))) := by
  have hlen : (scells (List.replicate n ((0 : Int), false, (0 : Int), (0 : Int)))).length = n * 4 := by rw [scells_len]; simp
  refine ⟨hlen, .inr ⟨W.heap.size, n, _, rfl, Nat.le_refl _, heap_alloc_new W _, Nat.le_refl _, by unfold maxLen; omega, by simp [hlen], ?_⟩⟩
  simp
  exact List.take_of_length_le (by omega)

set_option maxHeartbeats 2000000 in
set_option maxRecDepth 100000 in
theorem make_any (n : Int) (w : World) : Calls Try.prog 12 #[.int .i64 n] w (TabRes (makeOut n).1 (makeOut n).2 w) := by
  have hB0 := heap_alloc_new w (.cells #[.slice none 0 0] 24)
  by_cases h : 1 ≤ n ∧ n ≤ 40
  · have hout : makeOut n = (List.replicate n.toNat (0, false, 0, 0), 0) := by unfold makeOut; rw [if_pos h]
    obtain ⟨h1, h2⟩ := h
    obtain ⟨k, rfl⟩ := Int.eq_ofNat_of_zero_le (a := n) (by omega)
    rw [Int.toNat_natCast] at hout
    have hr := made_run k (by omega) (w.alloc (.cells #[.slice none 0 0] 24))
    have ho := made_own k (by omega) (w.alloc (.cells #[.slice none 0 0] 24))
    have hs : (w.alloc (.cells #[.slice none 0 0] 24)).heap.size = w.heap.size + 1 := by simp
    rw [hs] at hr ho
    obtain ⟨Z, hZ⟩ : ∃ Z, Z = (scells (List.replicate k ((0 : Int), false, (0 : Int), (0 : Int)))).toArray := ⟨_, rfl⟩
    rw [← hZ] at hr ho
    obtain ⟨W1, hW1⟩ : ∃ W1, W1 = (w.alloc (.cells #[.slice none 0 0] 24)).alloc (.cells Z 39) := ⟨_, rfl⟩
    rw [← hW1] at hr ho
    have hR1 : W1.heap[w.heap.size]? = some (.cells #[.slice none 0 0] 24 (0, 0)) := by rw [hW1]; exact heap_old _ _ hB0
    have hb1 : Below w.heap.size w W1 := by rw [hW1]; exact ((Below.refl _ _).alloc (Nat.le_refl _) _).alloc (by simp) _
    have r1 := one_cell hR1
    have rf : W1.frozen? ⟨w.heap.size, 0, none⟩ = false := by simp [World.frozen?, hR1]
    have ho' : (W1.setCell ⟨w.heap.size, 0, none⟩ (.slice (some ⟨w.heap.size + 1, 0, none⟩) k k)).ownsRow w.heap.size 39 4 (.slice (some ⟨w.heap.size + 1, 0, none⟩) k k) k (scells (List.replicate k (0, false, 0, 0))) :=
      (own_block ho (fun g hg => Below.heap_setCell _ _ _ _ (by have := (ho.lt g hg).1; simp; omega))).mono (by omega)
    have HH : Hid (_ ∧ _ ∧ _ ∧ _) := ⟨one_set (v := .slice (some ⟨w.heap.size + 1, 0, none⟩) k k) hR1, ho', (show Below w.heap.size w (W1.setCell ⟨w.heap.size, 0, none⟩ (.slice (some ⟨w.heap.size + 1, 0, none⟩) k k)) from hb1.setCell (by simp) _), hout⟩
    clear hR1 ho' hb1 hout ho hs hZ hW1 hB0
    go_enter Try.func12, Try.ntmps12
    go_wp2
    refine bodyPost_ret (v := .tuple #[.agg #[.slice (some ⟨w.heap.size + 1, 0, none⟩) k k], .int .i64 0]) (results_ct Try.results12 rfl rfl (load_row (P := Try.prog) (cs := [.slice (some ⟨w.heap.size + 1, 0, none⟩) k k]) HH.out.1 Try.underlying24 rfl (by kernel_rfl))) rfl ?_
    rw [HH.out.2.2.2]
    refine ⟨some ⟨w.heap.size + 1, 0, none⟩, k, ?_, ?_, HH.out.2.2.1⟩
    · simp
    · simpa using HH.out.2.1
  · have hout : makeOut n = ([], 2) := by unfold makeOut; rw [if_neg h]
    have HH : Hid (_ ∧ _) := ⟨hout, hB0⟩
    have hc : n < 1 ∨ (1 ≤ n ∧ 40 < n) := by omega
    clear h hout hB0
    rcases hc with hc | ⟨hc, hd⟩
    all_goals
      go_enter Try.func12, Try.ntmps12
      go_wp2
      refine bodyPost_ret (v := .tuple #[.agg #[.slice none 0 0], .int .i64 2]) (results_ct Try.results12 rfl rfl (load_row (P := Try.prog) (cs := [.slice none 0 0]) HH.out.2 Try.underlying24 rfl (by kernel_rfl))) rfl ?_
      rw [HH.out.1]
      exact ⟨none, 0, rfl, World.ownsRow_nil _ _ _ _, below_newC w⟩

set_option maxHeartbeats 4000000 in
set_option maxRecDepth 100000 in
theorem tabled_any (n : Int) (w : World) : Calls Try.prog 13 #[.int .i64 n] w (TabRes (makeOut n).1 (makeOut n).2 w) := by
  have hB0 := heap_alloc_new w (.cells #[.slice none 0 0] 24)
  cases hin : decide (1 ≤ n ∧ n ≤ 40)
  · have hout : makeOut n = ([], 2) := by unfold makeOut; rw [if_neg (of_decide_eq_false hin)]
    have HH : Hid (_ ∧ _) := ⟨hout, hB0⟩
    clear hout hB0
    go_enter Try.func13, Try.ntmps13
    go_wp2_with fail
    refine (in_any _ _ _ _).mono ?_
    rw [hin]
    rintro r w1 ⟨rfl, rfl⟩
    go_wp2
    refine bodyPost_ret (v := .tuple #[.agg #[.slice none 0 0], .int .i64 2]) (results_ct Try.results13 rfl rfl (load_row (P := Try.prog) (cs := [.slice none 0 0]) HH.out.2 Try.underlying24 rfl (by kernel_rfl))) rfl ?_
    rw [HH.out.1]
    exact ⟨none, 0, rfl, World.ownsRow_nil _ _ _ _, below_newC w⟩
  · obtain ⟨h1, h2⟩ := of_decide_eq_true hin
    have hout : makeOut n = (List.replicate n.toNat (0, false, 0, 0), 0) := by unfold makeOut; rw [if_pos ⟨h1, h2⟩]
    obtain ⟨z, rfl⟩ := Int.eq_ofNat_of_zero_le (a := n) (by omega)
    rw [Int.toNat_natCast] at hout
    have HO : Hid _ := hout
    clear hout hB0
    obtain ⟨W0, hW0⟩ : ∃ W0, W0 = (w.alloc (.cells #[.slice none 0 0] 24)).alloc (.cells #[.slice none 0 0] 24) := ⟨_, rfl⟩
    have hb0 : Below w.heap.size w W0 := by rw [hW0]; exact ((Below.refl _ _).alloc (Nat.le_refl _) _).alloc (by simp) _
    have hR0 : W0.heap[w.heap.size]? = some (.cells #[.slice none 0 0] 24 (0, 0)) := by rw [hW0]; exact heap_old _ _ (heap_alloc_new _ _)
    have hO0 : W0.heap[w.heap.size + 1]? = some (.cells #[.slice none 0 0] 24 (0, 0)) := by rw [hW0]; exact heap_second _ _ _
    have hs0 : W0.heap.size = w.heap.size + 2 := by rw [hW0]; simp
    have HV : Hid (_ ∧ _ ∧ _ ∧ _) := ⟨hb0, hR0, hO0, hs0⟩
    go_enter Try.func13, Try.ntmps13
    go_wp2_with fail
    refine (in_any _ _ _ _).mono ?_
    rw [hin]
    rintro r w1 ⟨rfl, rfl⟩
    go_wp2
    rw [← hW0]
    clear hb0 hR0 hO0 hs0 hW0 hin
    go_loopw [5] (fun s5 wr => ∃ (k : Nat) (p' : Option Addr) (c' : Nat), s5 = .int .i64 k ∧ k ≤ z ∧ wr.heap[w.heap.size + 1]? = some (.cells #[.slice p' k c'] 24 (0, 0)) ∧ wr.ownsRow (w.heap.size + 2) 39 4 (.slice p' k c') k (scells (List.replicate k (0, false, 0, 0))) ∧ Below (w.heap.size + 1) W0 wr ∧ W0.heap.size ≤ wr.heap.size) (fun s5 _ => z - (intOf s5).toNat)
    case atStart => exact ⟨0, none, 0, rfl, Nat.zero_le _, HV.out.2.2.1, World.ownsRow_nil _ _ _ _, Below.refl _ _, Nat.le_refl _⟩
    case round =>
      obtain ⟨k, p', c', rfl, hk, hO, ho, hbr, hsr⟩ := hrel
      have hs0 := HV.out.2.2.2
      have hR := (hbr.block (w.heap.size) (by omega)).trans HV.out.2.1
      have o0 := one_cell hO
      have of0 : wr.frozen? ⟨w.heap.size + 1, 0, none⟩ = false := by simp [World.frozen?, hO]
      have r0 := one_cell hR
      have rf0 : wr.frozen? ⟨w.heap.size, 0, none⟩ = false := by simp [World.frozen?, hR]
      have hltS : w.heap.size + 1 < wr.heap.size := by omega
      have hbw : Below w.heap.size w wr := HV.out.1.trans (hbr.mono (by omega))
      by_cases hlt : k < z
      · have hkI : (k : Int) < (z : Int) := by omega
        obtain ⟨q, d, w', hr, z0, z1, z2, z3, z4, z5⟩ := next_slot 0 false 0 0 hO ho (by omega) hbr (by omega) (by omega) (m' := List.replicate (k + 1) (0, false, 0, 0)) (by rw [List.replicate_succ'])
        have HR : Hid (_ ∧ _ ∧ _ ∧ _ ∧ _) := ⟨hr, z2, z3, z4, z5⟩
        clear hr z2 z3 z4 z5 hR hO ho hbr hbw
        go_wp2_with (at_builtin; (with_reducible refine wpList_append_eq rfl _ _ 22 rfl (.slice p' k c') (.slice (some ⟨wr.heap.size, 0, none⟩) 1 1) (.slice q (k + 1) d) w' ?hs ?hx ?hr ?_); (case hs => rfl); (case hx => rfl); (case hr => exact HR.out.1))
        go_roundw
        case rel => exact ⟨k + 1, q, d, by simp, hlt, HR.out.2.1, HR.out.2.2.1, HR.out.2.2.2.1, Nat.le_trans hsr HR.out.2.2.2.2⟩
        case measure => simp [intOf]; omega
      · obtain rfl : k = z := by omega
        have hR' := one_set (v := .slice p' k c') hR
        have ho' : (wr.setCell ⟨w.heap.size, 0, none⟩ (.slice p' k c')).ownsRow w.heap.size 39 4 (.slice p' k c') k (scells (List.replicate k (0, false, 0, 0))) := (own_block ho (fun g hg => Below.heap_setCell _ _ _ _ (by have := (ho.lt g hg).1; simp; omega))).mono (by omega)
        have hb' : Below w.heap.size w (wr.setCell ⟨w.heap.size, 0, none⟩ (.slice p' k c')) := hbw.setCell (by simp) _
        have HR : Hid (_ ∧ _ ∧ _) := ⟨hR', ho', hb'⟩
        clear hR' ho' hb' hR hO ho hbr hbw
        go_wp2
        refine bodyPost_ret (v := .tuple #[.agg #[.slice p' k c'], .int .i64 0]) (results_ct Try.results13 rfl rfl (load_row (P := Try.prog) (cs := [.slice p' k c']) HR.out.1 Try.underlying24 rfl (by kernel_rfl))) rfl ?_
        rw [HO.out]
        refine ⟨p', c', ?_, ?_, HR.out.2.2⟩
        · simp
        · simpa using HR.out.2.1

set_option maxHeartbeats 4000000 in
set_option maxRecDepth 100000 in
theorem tableMakes_row (w : World) (n : Int) (wn : (Lit.int .i64 n).wf = true) :
    Calls Try.prog 4 #[.int .i64 n] w fun r w' => r = .returned (.bool true) ∧ Below w.heap.size w w' := by
  obtain ⟨m, e, hme⟩ : ∃ m e, makeOut n = (m, e) := ⟨_, _, rfl⟩
  have hP : Hid (∀ W, Calls Try.prog 12 #[.int .i64 n] W (TabRes m e W)) := fun W => by
    have := make_any n W
    rw [hme] at this
    exact this
  have hQ : Hid (∀ W, Calls Try.prog 13 #[.int .i64 n] W (TabRes m e W)) := fun W => by
    have := tabled_any n W
    rw [hme] at this
    exact this
  clear hme wn
  go_enter Try.func4, Try.ntmps4
  go_wp2_with fail
  refine (hP.out _).mono ?_
  rintro r w2 ⟨pa, ca, rfl, ho2, hb2⟩
  obtain ⟨W2, hW2⟩ : ∃ W2, W2 = w2.alloc (.cells #[.slice pa m.length ca] 24) := ⟨_, rfl⟩
  have hx2 : Below w2.heap.size w2 W2 := by rw [hW2]; exact below_newC w2
  have hA2 : W2.heap[w2.heap.size]? = some (.cells #[.slice pa m.length ca] 24 (0, 0)) := by rw [hW2]; exact heap_alloc_new _ _
  have hM2 : SlAt W2 (.slice pa m.length ca) m := SlAt.below (rowAt_own ho2) hx2
  have H2 : Hid (_ ∧ _ ∧ _ ∧ _) := ⟨hM2, hA2, hb2.trans (hx2.mono hb2.size), hW2⟩
  clear hM2 hA2 hW2 hx2 hb2 ho2
  go_wp2_with fail
  rw [← H2.out.2.2.2]
  refine (hQ.out _).mono ?_
  rintro r w3 ⟨pb, cb, rfl, ho3, hb3⟩
  obtain ⟨W3, hW3⟩ : ∃ W3, W3 = w3.alloc (.cells #[.slice pb m.length cb] 24) := ⟨_, rfl⟩
  have hx3 : Below w3.heap.size w3 W3 := by rw [hW3]; exact below_newC w3
  have hb23 : Below W2.heap.size W2 W3 := hb3.trans (hx3.mono hb3.size)
  have hN3 : SlAt W3 (.slice pb m.length cb) m := SlAt.below (rowAt_own ho3) hx3
  have hM3 := H2.out.1.below hb23
  have hb03 := H2.out.2.2.1.trans (hb23.mono H2.out.2.2.1.size)
  have a3 := one_cell (box_below H2.out.2.1 hb3)
  have l30 : w2.heap.size < w3.heap.size := by have := hb3.size; have := (Array.getElem?_eq_some_iff.1 H2.out.2.1).1; omega
  have H3 : Hid (_ ∧ _ ∧ _ ∧ _) := ⟨hM3, hN3, hb03, hW3⟩
  clear hM3 hN3 hb03 hW3 hb23 hx3 hb3 ho3
  go_wp2_with fail
  rw [← H3.out.2.2.2]
  refine (sameTable_any _ _ m m _ H3.out.1 H3.out.2.1).mono ?_
  rw [decide_eq_true rfl]
  rintro r w4 ⟨rfl, hb4⟩
  have H4 : Hid _ := H3.out.2.2.1.trans (hb4.mono H3.out.2.2.1.size)
  clear hb4 a3
  go_wp2
  go_ret
  exact ⟨rfl, H4.out⟩
end Go.Proofs.Ytilcjcbghpbkjaa.Walks
