/-
  table.Make, the document's Tabled, and the law TableMakes. No condition.
-/
import Derived.Test.YthiojfgimjoenaaChanged
import Derived.Test.YthiojfgimjoenaaDrop
import Derived.Test.YthiojfgimjoenaaSame
import Derived.WalkKit
import Derived.ProofKit
import Derived.Handy
import Derived.LoopTactic
import Derived.Below
import Derived.Laws.BitsAllLaws
import Derived.RegionTactic
import Derived.Deep.RegionHeld3
import Derived.Deep.DrawnRows
import Derived.Deep.AppendLies
import Derived.Laws.OwnMore
import Derived.Deep.Onto
import Derived.Deep.QuietTactic
import Derived.BigQuiet
namespace Go.Proofs.Ythiojfgimjoenaa.Walks
open Go.RowKit
set_option linter.unusedVariables false
set_option linter.unusedSimpArgs false
attribute [local go_sem ↓] Go.wp_at_zero Go.wp_at_succ

theorem made_slots (n : Nat) : madeCells #[.int .i64 0, .bool false, .int .i64 0, .int .i64 0] (n * 4) = (scells (List.replicate n (0, false, 0, 0))).toArray := by
  apply Array.ext'
  apply List.ext_getElem?
  intro i
  have hlen : (scells (List.replicate n ((0 : Int), false, (0 : Int), (0 : Int)))).length = n * 4 := by rw [scells_len]; simp
  by_cases h : i < n * 4
  · have ht := scells_at (List.replicate n ((0 : Int), false, (0 : Int), (0 : Int))) (i / 4) (by simp; omega)
    simp only [List.getElem_replicate] at ht
    have hL : (madeCells #[.int .i64 0, .bool false, .int .i64 0, .int .i64 0] (n * 4)).toList[i]? = some ((#[.int .i64 0, .bool false, .int .i64 0, .int .i64 0] : Array Value)[i % 4]!) := by
      unfold madeCells
      simp [h]
    rw [hL]
    have hp : i % 4 = 0 ∨ i % 4 = 1 ∨ i % 4 = 2 ∨ i % 4 = 3 := by omega
    rcases hp with hp | hp | hp | hp
    · rw [hp]
      rw [show i / 4 * 4 = i by omega] at ht
      exact ht.1.symm
    · rw [hp]
      rw [show i / 4 * 4 + 1 = i by omega] at ht
      exact ht.2.1.symm
    · rw [hp]
      rw [show i / 4 * 4 + 2 = i by omega] at ht
      exact ht.2.2.1.symm
    · rw [hp]
      rw [show i / 4 * 4 + 3 = i by omega] at ht
      exact ht.2.2.2.symm
  · rw [List.getElem?_eq_none (by simp [size_madeCells]; omega), List.getElem?_eq_none (by simp [hlen]; omega)]

def makeOut (n : Int) : List Sl × Int := if 1 ≤ n ∧ n ≤ 40 then (List.replicate n.toNat (0, false, 0, 0), 0) else ([], 2)

theorem made_run (n : Nat) (hn : n ≤ 40) (W : World) : (Instr.makeSlice 22 (.int .i64 (n : Int)) (.int .i64 (n : Int))).run Try.prog W = .ok (.slice (some ⟨W.heap.size, 0, none⟩) n n) (W.alloc (.cells (scells (List.replicate n (0, false, 0, 0))).toArray 44)) := by
  obtain ⟨i1, hj, hy0, hy1, hy2⟩ := info_parts infoSl
  have h := run_makeSlice (P := Try.prog) W 22 44 i1 _ Try.underlying22 hj hy0 .i64 .i64 n n (by omega) (by omega) (by rw [hy1]; omega) (by rw [hy2]; omega) (by omega)
  rw [h, hy1, Int.toNat_natCast, ← made_slots]
  rfl

theorem made_own (n : Nat) (hn : n ≤ 40) (W : World) : (W.alloc (.cells (scells (List.replicate n (0, false, 0, 0))).toArray 44)).ownsRow W.heap.size 44 4 (.slice (some ⟨W.heap.size, 0, none⟩) n n) n (scells (List.replicate n (0, false, 0, 0))) := by
  have hlen : (scells (List.replicate n ((0 : Int), false, (0 : Int), (0 : Int)))).length = n * 4 := by rw [scells_len]; simp
  refine ⟨hlen, .inr ⟨W.heap.size, n, _, rfl, Nat.le_refl _, heap_alloc_new W _, Nat.le_refl _, by unfold maxLen; omega, by simp [hlen], ?_⟩⟩
  simp
  exact List.take_of_length_le (by omega)

set_option maxHeartbeats 2000000 in
set_option maxRecDepth 100000 in
theorem make_any (n : Int) (w : World) : Calls Try.prog 25 #[.int .i64 n] w (TabRes (makeOut n).1 (makeOut n).2 w) := by
  have hB0 := heap_alloc_new w (.cells #[.slice none 0 0] 24)
  by_cases h : 1 ≤ n ∧ n ≤ 40
  · have hout : makeOut n = (List.replicate n.toNat (0, false, 0, 0), 0) := by unfold makeOut; rw [if_pos h]
    obtain ⟨h1, h2⟩ := h
    obtain ⟨k, rfl⟩ := Int.eq_ofNat_of_zero_le (a := n) (by omega)
    rw [Int.toNat_natCast] at hout
    have hr := made_run k (by omega) (w.alloc (.cells #[.slice none 0 0] 24))
    have ho := made_own k (by omega) (w.alloc (.cells #[.slice none 0 0] 24))
    have hs : (w.alloc (.cells #[.slice none 0 0] 24)).heap.size = w.heap.size + 1 := by simp
    rw [hs] at hr ho
    obtain ⟨Z, hZ⟩ : ∃ Z, Z = (scells (List.replicate k ((0 : Int), false, (0 : Int), (0 : Int)))).toArray := ⟨_, rfl⟩
    rw [← hZ] at hr ho
    obtain ⟨W1, hW1⟩ : ∃ W1, W1 = (w.alloc (.cells #[.slice none 0 0] 24)).alloc (.cells Z 44) := ⟨_, rfl⟩
    rw [← hW1] at hr ho
    have hR1 : W1.heap[w.heap.size]? = some (.cells #[.slice none 0 0] 24 (0, 0)) := by rw [hW1]; exact heap_old _ _ hB0
    have hb1 : Below w.heap.size w W1 := by rw [hW1]; exact ((Below.refl _ _).alloc (Nat.le_refl _) _).alloc (by simp) _
    have r1 := one_cell hR1
    have rf : W1.frozen? ⟨w.heap.size, 0, none⟩ = false := by simp [World.frozen?, hR1]
    have ho' : (W1.setCell ⟨w.heap.size, 0, none⟩ (.slice (some ⟨w.heap.size + 1, 0, none⟩) k k)).ownsRow w.heap.size 44 4 (.slice (some ⟨w.heap.size + 1, 0, none⟩) k k) k (scells (List.replicate k (0, false, 0, 0))) :=
      (own_block ho (fun g hg => Below.heap_setCell _ _ _ _ (by have := (ho.lt g hg).1; simp; omega))).mono (by omega)
    have HH : Hid (_ ∧ _ ∧ _ ∧ _) := ⟨one_set (v := .slice (some ⟨w.heap.size + 1, 0, none⟩) k k) hR1, ho', (show Below w.heap.size w (W1.setCell ⟨w.heap.size, 0, none⟩ (.slice (some ⟨w.heap.size + 1, 0, none⟩) k k)) from hb1.setCell (by simp) _), hout⟩
    clear hR1 ho' hb1 hout ho hs hZ hW1 hB0
    go_enter Try.func25, Try.ntmps25
    go_wp2
    refine bodyPost_ret (v := .tuple #[.agg #[.slice (some ⟨w.heap.size + 1, 0, none⟩) k k], .int .i64 0]) (results_ct Try.results25 rfl rfl (load_row (P := Try.prog) (cs := [.slice (some ⟨w.heap.size + 1, 0, none⟩) k k]) HH.out.1 Try.underlying24 rfl (by kernel_rfl))) rfl ?_
    rw [HH.out.2.2.2]
    refine ⟨some ⟨w.heap.size + 1, 0, none⟩, k, ?_, ?_, HH.out.2.2.1⟩
    · simp
    · simpa using HH.out.2.1
  · have hout : makeOut n = ([], 2) := by unfold makeOut; rw [if_neg h]
    have HH : Hid (_ ∧ _) := ⟨hout, hB0⟩
    have hc : n < 1 ∨ (1 ≤ n ∧ 40 < n) := by omega
    clear h hout hB0
    rcases hc with hc | ⟨hc, hd⟩
    all_goals
      go_enter Try.func25, Try.ntmps25
      go_wp2
      refine bodyPost_ret (v := .tuple #[.agg #[.slice none 0 0], .int .i64 2]) (results_ct Try.results25 rfl rfl (load_row (P := Try.prog) (cs := [.slice none 0 0]) HH.out.2 Try.underlying24 rfl (by kernel_rfl))) rfl ?_
      rw [HH.out.1]
      exact ⟨none, 0, rfl, World.ownsRow_nil _ _ _ _, below_newC w⟩

end Go.Proofs.Ythiojfgimjoenaa.Walks
