/-
  The law's sameTable. Condition: both can be read.
-/
import Derived.Test.YtilcjcbghpbkjaaSlots
import Derived.WalkKit
import Derived.ProofKit
import Derived.Handy
import Derived.LoopTactic
import Derived.Below
import Derived.Laws.BitsAllLaws
import Derived.RegionTactic
import Derived.Deep.RegionHeld3
import Derived.Deep.DrawnRows
import Derived.Deep.AppendLies
import Derived.Laws.OwnMore
import Derived.Deep.Onto
import Derived.Deep.QuietTactic
import Derived.BigQuiet
namespace Go.Proofs.Ytilcjcbghpbkjaa.Walks
open Go.RowKit
set_option linter.unusedVariables false
set_option linter.unusedSimpArgs false
attribute [local go_sem ↓] Go.wp_at_zero Go.wp_at_succ

theorem unlike4 (a : Int) (u : Bool) (k b a' : Int) (u' : Bool) (k' b' : Int) : (a = a' ∧ u = u' ∧ k = k' ∧ b = b') ∨ ((a, u, k, b) ≠ (a', u', k', b') ∧ ((a == a') = false ∨ (a = a' ∧ u = true ∧ u' = false) ∨ (a = a' ∧ u = false ∧ u' = true) ∨ (a = a' ∧ u = u' ∧ (k == k') = false) ∨ (a = a' ∧ u = u' ∧ k = k' ∧ (b == b') = false))) := by
  simp only [beq_eq_false_iff_ne]
  by_cases h : a = a'
  · by_cases h2 : k = k'
    · by_cases h3 : b = b'
      · cases u <;> cases u' <;> simp [h, h2, h3]
      · cases u <;> cases u' <;> simp [h, h2, h3]
    · cases u <;> cases u' <;> simp [h, h2]
  · right
    exact ⟨fun e => h (by injection e), .inl h⟩

set_option maxHeartbeats 4000000 in
theorem sameTable_any (u v : Value) (l m : List Sl) (w : World) (hu : SlAt w u l) (hv : SlAt w v m) :
    Calls Try.prog 14 #[.agg #[u], .agg #[v]] w fun r w' => r = .returned (.bool (decide (l = m))) ∧ Below w.heap.size w w' := by
  obtain ⟨a, ca, rfl, hca, hma, pa⟩ := hu.parts
  obtain ⟨b, cb, rfl, hcb, hmb, pb⟩ := hv.parts
  unfold maxLen at hma hmb
  by_cases hlen : l.length = m.length
  · have HL : Hid (l.length = m.length) := hlen
    rw [← hlen] at hcb ⊢
    clear hlen
    go_enter Try.func14, Try.ntmps14
    go_wp2
    obtain ⟨W0, hW0⟩ : ∃ W0, W0 = (w.alloc (.cells #[.slice a l.length ca] 24)).alloc (.cells #[.slice b l.length cb] 24) := ⟨_, rfl⟩
    have hb0 : Below w.heap.size w W0 := by rw [hW0]; exact ((Below.refl _ _).alloc (Nat.le_refl _) _).alloc (by simp) _
    have f0 : W0.cell? ⟨w.heap.size, 0, none⟩ = some (.slice a l.length ca) := by rw [hW0]; exact one_cell (heap_old _ _ (heap_alloc_new _ _))
    have f1 : W0.cell? ⟨w.heap.size + 1, 0, none⟩ = some (.slice b l.length cb) := by rw [hW0]; exact one_cell (heap_second _ _ _)
    rw [← hW0]
    have H0 : Hid _ := hb0
    clear hb0 hW0
    go_loopw [5] (fun i wr => ∃ k : Nat, i = .int .i64 k ∧ k ≤ l.length ∧ (∀ j, j < k → l[j]? = m[j]?) ∧ ∃ q, wr = W0.drewN q) (fun i _ => l.length - (intOf i).toNat)
    case atStart => exact ⟨0, rfl, Nat.zero_le _, fun j hj => absurd hj (Nat.not_lt_zero _), 0, rfl⟩
    case round =>
      obtain ⟨k, rfl, hk, hall, q, rfl⟩ := hrel
      have HA : Hid _ := hall
      clear hall
      by_cases hlt : k < l.length
      · obtain ⟨b1, o1, rfl, hb1, c1, c2, c3, c4⟩ := pa k hlt
        obtain ⟨b2, o2, rfl, hb2, d1, d2, d3, d4⟩ := pb k (by rw [← HL.out]; exact hlt)
        replace c1 := (H0.out.cell (p := ⟨b1, o1 + k * 4, none⟩) hb1).trans c1
        replace c2 := (H0.out.cell (p := ⟨b1, o1 + k * 4 + 1, none⟩) hb1).trans c2
        replace c3 := (H0.out.cell (p := ⟨b1, o1 + k * 4 + 2, none⟩) hb1).trans c3
        replace c4 := (H0.out.cell (p := ⟨b1, o1 + k * 4 + 3, none⟩) hb1).trans c4
        replace d1 := (H0.out.cell (p := ⟨b2, o2 + k * 4, none⟩) hb2).trans d1
        replace d2 := (H0.out.cell (p := ⟨b2, o2 + k * 4 + 1, none⟩) hb2).trans d2
        replace d3 := (H0.out.cell (p := ⟨b2, o2 + k * 4 + 2, none⟩) hb2).trans d3
        replace d4 := (H0.out.cell (p := ⟨b2, o2 + k * 4 + 3, none⟩) hb2).trans d4
        clear hb1 hb2 pa pb
        obtain ⟨⟨x1, x2, x3, x4⟩, hx⟩ : ∃ x, x = l[k] := ⟨_, rfl⟩
        obtain ⟨⟨y1, y2, y3, y4⟩, hy⟩ : ∃ y, y = (m[k]'(by rw [← HL.out]; exact hlt)) := ⟨_, rfl⟩
        rw [← hx] at c1 c2 c3 c4
        rw [← hy] at d1 d2 d3 d4
        have HX : Hid (_ ∧ _) := ⟨hx, hy⟩
        clear hx hy
        rcases unlike4 x1 x2 x3 x4 y1 y2 y3 y4 with ⟨rfl, rfl, rfl, rfl⟩ | ⟨hu, hne⟩
        · go_wp2
          go_region
          go_wp2
          go_roundw
          case rel =>
            refine ⟨k + 1, by simp, hlt, fun j hj => ?_, q + 1, rfl⟩
            rcases Nat.lt_succ_iff_lt_or_eq.1 hj with h | rfl
            · exact HA.out j h
            · rw [List.getElem?_eq_getElem hlt, List.getElem?_eq_getElem (by rw [← HL.out]; exact hlt)]
              exact congrArg some (HX.out.1.symm.trans HX.out.2)
          case measure => simp [intOf]; omega
        · have HN : Hid (decide (l = m) = false) := by
            refine decide_eq_false fun h => ?_
            subst h
            exact hu (HX.out.1.trans HX.out.2.symm)
          clear hu
          rcases hne with hne | ⟨rfl, rfl, rfl⟩ | ⟨rfl, rfl, rfl⟩ | ⟨rfl, rfl, hne⟩ | ⟨rfl, rfl, rfl, hne⟩
          all_goals
            go_wp2
            go_region
            go_wp2
            go_ret
            exact ⟨by rw [HN.out]; rfl, below_drewN H0.out (q + 1)⟩
      · have HE : Hid (decide (l = m) = true) := by
          refine decide_eq_true (List.ext_getElem? fun j => ?_)
          rcases Nat.lt_or_ge j k with h | h
          · exact HA.out j h
          · rw [List.getElem?_eq_none (by omega), List.getElem?_eq_none (by rw [← HL.out]; omega)]
        clear pa pb
        go_wp2
        go_ret
        exact ⟨by rw [HE.out]; rfl, below_drewN H0.out q⟩
  · have HN : Hid (decide (l = m) = false) := decide_eq_false fun h => hlen (by rw [h])
    clear pa pb
    have hne : ((l.length : Int) != (m.length : Int)) = true := by simp [bne_iff_ne]; omega
    go_enter Try.func14, Try.ntmps14
    go_wp2
    go_ret
    exact ⟨by rw [HN.out]; rfl, ((Below.refl _ _).alloc (Nat.le_refl _) _).alloc (by simp) _⟩
end Go.Proofs.Ytilcjcbghpbkjaa.Walks
