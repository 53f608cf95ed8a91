/-
  Whether two rings are the same, by the document. Condition: both can be read.
-/
import Derived.Test.YtpmobbbohchdlaaAhead
import Derived.WalkKit
import Derived.ProofKit
import Derived.Handy
import Derived.LoopTactic
import Derived.Below
import Derived.Laws.BitsAllLaws
import Derived.RegionTactic
import Derived.Deep.RegionHeld3
import Derived.Deep.DrawnRows
import Derived.Deep.AppendLies
import Derived.Laws.OwnMore
import Derived.Deep.Onto
import Derived.Deep.QuietTactic
import Derived.BigQuiet
namespace Go.Proofs.Ytpmobbbohchdlaa.Walks
open Go.RowKit
set_option linter.unusedVariables false
set_option linter.unusedSimpArgs false
attribute [local go_sem ↓] Go.wp_at_zero Go.wp_at_succ

set_option maxHeartbeats 4000000 in
theorem sameRing_any (u v : Value) (l m : List Tm) (w : World) (hu : TmAt w u l) (hv : TmAt w v m) :
    Calls Try.prog 14 #[.agg #[u], .agg #[v]] w fun r w' => r = .returned (.bool (decide (l = m))) ∧ Below w.heap.size w w' := by
  obtain ⟨a, ca, rfl, hca, hma, pa⟩ := hu.parts
  obtain ⟨b, cb, rfl, hcb, hmb, pb⟩ := hv.parts
  unfold maxLen at hma hmb
  by_cases hlen : l.length = m.length
  · have HL : Hid (l.length = m.length) := hlen
    rw [← hlen] at hcb ⊢
    clear hlen
    go_enter Try.func14, Try.ntmps14
    go_wp2
    obtain ⟨W0, hW0⟩ : ∃ W0, W0 = (w.alloc (.cells #[.slice a l.length ca] 24)).alloc (.cells #[.slice b l.length cb] 24) := ⟨_, rfl⟩
    have hb0 : Below w.heap.size w W0 := by rw [hW0]; exact ((Below.refl _ _).alloc (Nat.le_refl _) _).alloc (by simp) _
    have f0 : W0.cell? ⟨w.heap.size, 0, none⟩ = some (.slice a l.length ca) := by rw [hW0]; exact one_cell (heap_old _ _ (heap_alloc_new _ _))
    have f1 : W0.cell? ⟨w.heap.size + 1, 0, none⟩ = some (.slice b l.length cb) := by rw [hW0]; exact one_cell (heap_second _ _ _)
    rw [← hW0]
    have H0 : Hid _ := hb0
    clear hb0 hW0
    go_loopw [5] (fun i wr => ∃ k : Nat, i = .int .i64 k ∧ k ≤ l.length ∧ (∀ j, j < k → l[j]? = m[j]?) ∧ ∃ q, wr = W0.drewN q) (fun i _ => l.length - (intOf i).toNat)
    case atStart => exact ⟨0, rfl, Nat.zero_le _, fun j hj => absurd hj (Nat.not_lt_zero _), 0, rfl⟩
    case round =>
      obtain ⟨k, rfl, hk, hall, q, rfl⟩ := hrel
      have HA : Hid _ := hall
      clear hall
      by_cases hlt : k < l.length
      · obtain ⟨b1, o1, rfl, hb1, c1, d1⟩ := pa k hlt
        obtain ⟨b2, o2, rfl, hb2, c2, d2⟩ := pb k (by rw [← HL.out]; exact hlt)
        replace c1 := (H0.out.cell (p := ⟨b1, o1 + k * 2, none⟩) hb1).trans c1
        replace d1 := (H0.out.cell (p := ⟨b1, o1 + k * 2 + 1, none⟩) hb1).trans d1
        replace c2 := (H0.out.cell (p := ⟨b2, o2 + k * 2, none⟩) hb2).trans c2
        replace d2 := (H0.out.cell (p := ⟨b2, o2 + k * 2 + 1, none⟩) hb2).trans d2
        clear hb1 hb2 pa pb
        obtain ⟨x1, hx1⟩ : ∃ x, x = l[k].1 := ⟨_, rfl⟩
        obtain ⟨y1, hy1⟩ : ∃ x, x = l[k].2 := ⟨_, rfl⟩
        obtain ⟨x2, hx2⟩ : ∃ x, x = (m[k]'(by rw [← HL.out]; exact hlt)).1 := ⟨_, rfl⟩
        obtain ⟨y2, hy2⟩ : ∃ x, x = (m[k]'(by rw [← HL.out]; exact hlt)).2 := ⟨_, rfl⟩
        rw [← hx1] at c1
        rw [← hy1] at d1
        rw [← hx2] at c2
        rw [← hy2] at d2
        have HX : Hid (_ ∧ _ ∧ _ ∧ _) := ⟨hx1, hy1, hx2, hy2⟩
        clear hx1 hy1 hx2 hy2
        rcases unlike_pair x1 y1 x2 y2 with ⟨rfl, rfl⟩ | hne
        · go_wp2
          go_region
          go_wp2
          go_roundw
          case rel =>
            refine ⟨k + 1, by simp, hlt, fun j hj => ?_, q + 1, rfl⟩
            rcases Nat.lt_succ_iff_lt_or_eq.1 hj with h | rfl
            · exact HA.out j h
            · rw [List.getElem?_eq_getElem hlt, List.getElem?_eq_getElem (by rw [← HL.out]; exact hlt)]
              obtain ⟨h1, h2, h3, h4⟩ := HX.out
              exact congrArg some (Prod.ext (h1.symm.trans h3) (h2.symm.trans h4))
          case measure => simp [intOf]; omega
        · have HN : Hid (decide (l = m) = false) := by
            refine decide_eq_false fun h => ?_
            subst h
            obtain ⟨h1, h2, h3, h4⟩ := HX.out
            rcases hne with hne | ⟨_, hne⟩
            · rw [h1, ← h3] at hne; simp at hne
            · rw [h2, ← h4] at hne; simp at hne
          rcases hne with hne | ⟨rfl, hne⟩
          all_goals
            go_wp2
            go_region
            go_wp2
            go_ret
            exact ⟨by rw [HN.out]; rfl, below_drewN H0.out (q + 1)⟩
      · have HE : Hid (decide (l = m) = true) := by
          refine decide_eq_true (List.ext_getElem? fun j => ?_)
          rcases Nat.lt_or_ge j k with h | h
          · exact HA.out j h
          · rw [List.getElem?_eq_none (by omega), List.getElem?_eq_none (by rw [← HL.out]; omega)]
        clear pa pb
        go_wp2
        go_ret
        exact ⟨by rw [HE.out]; rfl, below_drewN H0.out q⟩
  · have HN : Hid (decide (l = m) = false) := decide_eq_false fun h => hlen (by rw [h])
    clear pa pb
    have hne : ((l.length : Int) != (m.length : Int)) = true := by simp [bne_iff_ne]; omega
    go_enter Try.func14, Try.ntmps14
    go_wp2
    go_ret
    exact ⟨by rw [HN.out]; rfl, ((Below.refl _ _).alloc (Nat.le_refl _) _).alloc (by simp) _⟩
end Go.Proofs.Ytpmobbbohchdlaa.Walks
