/-
  Laws of memory for rows of whatever cells an element has: copying into a row of one's own, and growing one by zero elements.
-/
import Derived.Test.YtlpedligkofegaaRec
import Derived.Laws.CopyRow
import Derived.WalkKit
import Derived.ProofKit
import Derived.Handy
import Derived.LoopTactic
import Derived.Below
import Derived.Laws.BitsAllLaws
import Derived.RegionTactic
import Derived.Deep.RegionHeld3
import Derived.Deep.DrawnRows
import Derived.Deep.AppendLies
import Derived.Laws.OwnMore
import Derived.Deep.Onto
import Derived.Deep.QuietTactic
import Derived.BigQuiet
namespace Go.Proofs.Ytlpedligkofegaa.Walks
open Go.RowKit
set_option linter.unusedVariables false
set_option linter.unusedSimpArgs false
attribute [local go_sem ↓] Go.wp_at_zero Go.wp_at_succ

/-- 'copy' into a row of one's own, from cells that can be read. -/
theorem run_copy_own {P : Program} (w : World) (T ty e : TypeId) (k : Nat) (hu : P.underlying T = some (.slice e)) (hs : (P.info? e).map (·.size) = some k) (base g n cap : Nat) (xs : List Value)
    (hown : w.ownsRow base e k (.slice (some ⟨g, 0, none⟩) n cap) n xs) (o dLen dCap : Nat) (a : Addr) (sLen sCap m : Nat) (cs : List Value) (hm : m = Nat.min sLen dLen) (hl : cs.length = m * k) (hfit : o + cs.length ≤ n * k)
    (hsrc : ∀ j v, cs[j]? = some v → w.cell? (a.add j) = some v) (h1 : ∀ v ∈ cs, v.oneCell' = true) :
    ∃ w', (Builtin.copy_ #[T, T] ty #[.slice (some ⟨g, o, none⟩) dLen dCap, .slice (some a) sLen sCap]).run P w = .ok (goInt m) w' ∧
      w'.ownsRow base e k (.slice (some ⟨g, 0, none⟩) n cap) n (xs.take o ++ cs ++ xs.drop (o + cs.length)) ∧ w.grownBy w' (some g) := by
  rcases hown.2 with ⟨h, _⟩ | ⟨g', cap', cur, h, hb, hg, hnc, hcm, hcs, htake⟩
  · cases h
  · simp only [Value.slice.injEq, Option.some.injEq, Addr.mk.injEq, and_true, true_and] at h
    obtain ⟨rfl, rfl⟩ := h
    have hle : n * k ≤ cur.size := by rw [hcs]; exact Nat.mul_le_mul_right _ hnc
    have hld := run_loadCells_list (P := P) w a cs hsrc
    have hst := run_storeCells_at P g o e cs 0 cur w hg (by simp; omega) h1
    simp only [Nat.add_zero] at hst
    refine ⟨w.setRow g (cur.toList.take o ++ cs ++ cur.toList.drop (o + cs.length)).toArray, ?_, ⟨?_, .inr ⟨g, cap, _, rfl, hb, setRow_heap w g cur _ e _ hg, hnc, hcm, ?_, ?_⟩⟩, ⟨rfl, rfl, rfl, by simp, fun j _ hj => setRow_other w g j _ (fun e => hj (by simp [e]))⟩⟩
    · cases hq : P.info? e with
      | none => simp [hq] at hs
      | some i =>
        have hi : i.size = k := by simpa [hq] using hs
        simp [Builtin.copy_, run_underlying hu, Builtin.lenOf, Builtin.firstCells, sizeOf, typeInfo, hq, hi, ← hm, ← hl, hld, hst]
    · have hxl := hown.1
      simp only [List.length_append, List.length_take, List.length_drop, hxl]
      omega
    · simp only [List.size_toArray, List.length_append, List.length_take, List.length_drop, Array.length_toList]
      omega
    · rw [← htake]
      apply List.ext_getElem?
      intro j
      simp only [List.getElem?_take, List.getElem?_append, List.length_append, List.length_take, List.length_drop, List.getElem?_drop, Array.length_toList]
      have e1 : min o cur.size = o := by omega
      have e2 : min o (min (n * k) cur.size) = o := by omega
      rw [e1, e2]
      by_cases hj : j < n * k
      · rw [if_pos hj]
        by_cases h1 : j < o + cs.length
        · rw [if_pos h1, if_pos h1]
          by_cases h2 : j < o
          · rw [if_pos h2, if_pos h2, if_pos h2, if_pos h2, if_pos hj]
          · rw [if_neg h2, if_neg h2]
        · rw [if_neg h1, if_neg h1, if_pos (by omega)]
      · rw [if_neg hj]
        have : ¬ j < o + cs.length := by omega
        rw [if_neg this, if_neg (by omega)]

/-- 'append(s, make([]T, m)...)' where there is no room: a new row. -/
theorem run_append_zeros {P : Program} (w : World) (t tn ty e : TypeId) (i : TypeInfo) (z : Value) (kn : IntKind) (size bytes : Nat) (ht : P.underlying t = some (.slice e)) (htn : P.underlying tn = some (.int kn)) (hi : P.info? e = some i) (hz : i.zero = some z)
    (hsize : i.size = size) (hby : i.bytes = bytes) (hzs : z.cells.size = size) (hsz : 0 < size) (base : Nat) (ad : Addr) (n cap m : Nat) (cs : List Value) (hl : cs.length = n * size) (hc : ∀ j v, cs[j]? = some v → w.cell? (ad.add j) = some v)
    (hm : 0 < m) (hroom : cap < n + m) (h63 : n + m ≤ maxLen) (hbytes : (n + m) * bytes ≤ 140737488355328) (hbase : base ≤ w.heap.size) :
    ∃ cap' zs w', (Builtin.append_ #[t, tn] ty #[.slice (some ad) n cap, .int .i64 (m : Int)]).run P w = .ok (.slice (some ⟨w.heap.size, 0, none⟩) (n + m) cap') w' ∧
      w'.ownsRow base e size (.slice (some ⟨w.heap.size, 0, none⟩) (n + m) cap') (n + m) (cs ++ zs) ∧ zs.length = m * size ∧ n + m ≤ cap' ∧ w.grownBy w' none ∧ w'.heap.size = w.heap.size + 1 := by
  subst hsize
  subst hby
  have h63' : n + m ≤ 9223372036854775807 := by simp only [maxLen] at h63; omega
  have hf := run_firstCells_some (P := P) w.drew i.size n ad n cap cs hl hc
  have hge := grownCap_ge w (n + m) cap e
  have hcm : grownCap w (n + m) cap e ≤ maxLen := grownCap_le_maxLen w (n + m) cap e h63
  refine ⟨grownCap w (n + m) cap e, (Builtin.zeroCells z.cells m).toList, w.drew.alloc (.cells (cs.toArray ++ Builtin.zeroCells z.cells m ++ Builtin.zeroCells z.cells (grownCap w (n + m) cap e - (n + m))) e), ?_, ⟨?_, .inr ⟨w.heap.size, _, _, rfl, hbase, heap_alloc_new w.drew _, hge, hcm, ?_, ?_⟩⟩, ?_, hge, ⟨rfl, rfl, rfl, by simp, fun k hk _ => Below.heap_alloc w.drew _ k hk⟩, by simp⟩
  · have hn : m ≠ 0 := by omega
    have hw : IntKind.i64.wrap (m : Int) = m := by rw [IntKind.wrap_i64]; omega
    have h48 : ¬ (281474976710656 < Builtin.nextslicecap (n + m) cap * i.bytes) := by have := growslice_fits hroom hbytes; omega
    have hmb : m * i.bytes ≤ (n + m) * i.bytes := Nat.mul_le_mul_right _ (by omega)
    have h48i : ¬ (281474976710656 < (m : Int) * (i.bytes : Int)) := by rw [← Int.natCast_mul]; omega
    have hneg : ¬ ((m : Int) < 0) := by omega
    have hns : ¬ (m * i.size = 0) := Nat.mul_ne_zero hn (by omega)
    have hr : ¬ (n + m ≤ cap) := by omega
    have h63i : ¬ (9223372036854775807 < (n : Int) + (m : Int)) := by omega
    simp [Builtin.append_, run_underlying ht, run_underlying htn, sizeOf, typeInfo, zeroValue, hi, hz, asInt, asIntOf, hw, hn, hneg, hns, hr, h63i, h48, h48i, Question.forced, hf, newRow, grownCap]
  · simp only [List.length_append, Array.length_toList, size_zeroCells, hzs, hl, Nat.add_mul]
  · simp only [Array.size_append, List.size_toArray, size_zeroCells, hzs, hl, ← Nat.add_mul]
    congr 1
    omega
  · simp only [Array.toList_append, List.append_assoc]
    rw [← List.append_assoc]
    have : (cs ++ (Builtin.zeroCells z.cells m).toList).length = (n + m) * i.size := by
      simp only [List.length_append, Array.length_toList, size_zeroCells, hzs, hl, Nat.add_mul]
    rw [← this]
    exact List.take_left
  · simp only [Array.length_toList, size_zeroCells, hzs]
end Go.Proofs.Ytlpedligkofegaa.Walks
