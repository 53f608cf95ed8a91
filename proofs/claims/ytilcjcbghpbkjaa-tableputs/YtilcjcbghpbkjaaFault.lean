/-
  The document's TableFault; the law's sameTable. Condition: the slots can be read.
-/
import Derived.Test.YtilcjcbghpbkjaaCheck
import Derived.WalkKit
import Derived.ProofKit
import Derived.Handy
import Derived.LoopTactic
import Derived.Below
import Derived.Laws.BitsAllLaws
import Derived.RegionTactic
import Derived.Deep.RegionHeld3
import Derived.Deep.DrawnRows
import Derived.Deep.AppendLies
import Derived.Laws.OwnMore
import Derived.Deep.Onto
import Derived.Deep.QuietTactic
import Derived.BigQuiet
namespace Go.Proofs.Ytilcjcbghpbkjaa.Walks
open Go.RowKit
set_option linter.unusedVariables false
set_option linter.unusedSimpArgs false
attribute [local go_sem ↓] Go.wp_at_zero Go.wp_at_succ

theorem fault_cases (g : Int) (k b : Int) :
    ((0 ≤ g ∧ g ≤ 1048575) ∧ (0 ≤ k ∧ k ≤ 4294967295) ∧ (0 ≤ b ∧ b ≤ 11) ↔ SlotOk (g, true, k, b)) ∧ ((0 ≤ g ∧ g ≤ 1048576) ∧ k = 0 ∧ b = 0 ↔ SlotOk (g, false, k, b)) := by
  constructor
  · unfold SlotOk isKeyP isBeP
    rw [if_pos rfl]
    constructor
    · rintro ⟨h1, h2, h3⟩; exact ⟨h1, h2, (by omega : 0 ≤ b ∧ b < 12)⟩
    · rintro ⟨h1, h2, h3⟩
      have h3 : 0 ≤ b ∧ b < 12 := h3
      exact ⟨h1, h2, by omega⟩
  · unfold SlotOk
    simp

set_option maxHeartbeats 8000000 in
theorem fault_any (v : Value) (l : List Sl) (w : World) (hv : SlAt w v l) :
    Calls Try.prog 11 #[.agg #[v]] w fun r w' => r = .returned (.int .i64 (if TabOk l then 0 else 6)) ∧ Below w.heap.size w w' := by
  obtain ⟨ans, hans⟩ : ∃ ans : Int, ans = if TabOk l then 0 else 6 := ⟨_, rfl⟩
  rw [← hans]
  have H : Hid _ := hans
  clear hans
  obtain ⟨p, c, rfl, hc, hm, pa⟩ := hv.parts
  unfold maxLen at hm
  clear hv
  cases h1 : decide (1 ≤ (l.length : Int) ∧ (l.length : Int) ≤ 40)
  case false =>
    have E : Hid (ans = 6) := by
      show ans = 6
      rw [H.out, if_neg fun h => by have := h.1; have := of_decide_eq_false h1; omega]
    clear pa
    go_enter Try.func11, Try.ntmps11
    go_wp2_with fail
    refine (in_any _ _ _ _).mono ?_
    rintro r w1 ⟨rfl, rfl⟩
    rw [h1]
    go_wp2
    go_ret
    exact ⟨by rw [E.out]; rfl, below_newC w⟩
  have hl := of_decide_eq_true h1
  go_enter Try.func11, Try.ntmps11
  go_wp2_with fail
  refine (in_any _ _ _ _).mono ?_
  rintro r w1 ⟨rfl, rfl⟩
  rw [h1]
  clear h1
  go_wp2
  obtain ⟨W0, hW0⟩ : ∃ W0, W0 = w.alloc (.cells #[.slice p l.length c] 24) := ⟨_, rfl⟩
  rw [← hW0]
  have hb0 : Below w.heap.size w W0 := by rw [hW0]; exact below_newC w
  have hR0 : W0.heap[w.heap.size]? = some (.cells #[.slice p l.length c] 24 (0, 0)) := by rw [hW0]; exact heap_alloc_new _ _
  have H0 : Hid (_ ∧ _) := ⟨hb0, hR0⟩
  clear hb0 hR0 hW0
  go_loopw [3] (fun i wr => ∃ k : Nat, i = .int .i64 k ∧ k ≤ l.length ∧ (∀ t ∈ l.take k, SlotOk t) ∧ Below W0.heap.size W0 wr) (fun i _ => l.length - (intOf i).toNat)
  case atStart => exact ⟨0, rfl, Nat.zero_le _, by simp, Below.refl _ _⟩
  case round =>
    obtain ⟨k, rfl, hk, hall, hbr⟩ := hrel
    have hcR := one_cell (box_below H0.out.2 hbr)
    by_cases hlt : k < l.length
    · obtain ⟨b1, o1, rfl, hb1, c1, c2, c3, c4⟩ := pa k hlt
      have hb1' := Nat.lt_of_lt_of_le hb1 H0.out.1.size
      have e1 := (hbr.cell (p := ⟨b1, o1 + k * 4, none⟩) hb1').trans ((H0.out.1.cell (p := ⟨b1, o1 + k * 4, none⟩) hb1).trans c1)
      have e2 := (hbr.cell (p := ⟨b1, o1 + k * 4 + 1, none⟩) hb1').trans ((H0.out.1.cell (p := ⟨b1, o1 + k * 4 + 1, none⟩) hb1).trans c2)
      have e3 := (hbr.cell (p := ⟨b1, o1 + k * 4 + 2, none⟩) hb1').trans ((H0.out.1.cell (p := ⟨b1, o1 + k * 4 + 2, none⟩) hb1).trans c3)
      have e4 := (hbr.cell (p := ⟨b1, o1 + k * 4 + 3, none⟩) hb1').trans ((H0.out.1.cell (p := ⟨b1, o1 + k * 4 + 3, none⟩) hb1).trans c4)
      have HA : Hid (_ ∧ _) := ⟨hall, hbr⟩
      have hkI : (k : Int) < (l.length : Int) := by omega
      have htk : l.take (k + 1) = l.take k ++ [l[k]] := List.take_succ_eq_append_getElem hlt
      have hbad : ¬ SlotOk l[k] → ans = 6 := fun h => by rw [H.out, if_neg fun h' => h (h'.2 _ (List.getElem_mem hlt))]
      obtain ⟨⟨x1, x2, x3, x4⟩, hxk⟩ : ∃ x, x = l[k] := ⟨_, rfl⟩
      rw [← hxk] at e1 e2 e3 e4 htk hbad
      have hgood : SlotOk (x1, x2, x3, x4) → ∀ t ∈ l.take (k + 1), SlotOk t := fun h t ht => by
        rw [htk] at ht
        rcases List.mem_append.1 ht with ht | ht
        · exact hall t ht
        · simp at ht
          rw [ht]
          exact h
      have hE : Hid (∀ T, Below w.heap.size w (wr.alloc T)) := fun T => (H0.out.1.trans (hbr.mono H0.out.1.size)).alloc (Nat.le_trans H0.out.1.size hbr.size) _
      have HX : Hid (_ ∧ _) := ⟨hbad, hgood⟩
      clear hall hbr c1 c2 c3 c4 hb1 hb1' pa htk hxk hbad hgood hm hc
      obtain ⟨F1, F2⟩ := fault_cases x1 x3 x4
      have HF1 : Hid _ := F1
      have HF2 : Hid _ := F2
      clear F1 F2
      cases x2
      · cases hg : decide (0 ≤ x1 ∧ x1 ≤ 1048576)
        · have E : Hid (ans = 6) := HX.out.1 fun h => of_decide_eq_false hg (HF2.out.2 h).1
          go_wp2_with fail
          refine (in_any _ _ _ _).mono ?_
          rintro r w1 ⟨rfl, rfl⟩
          rw [hg]
          go_wp2
          go_ret
          exact ⟨by rw [E.out]; rfl, hE.out _⟩
        cases hk3 : (x3 != 0)
        case true =>
          have E : Hid (ans = 6) := HX.out.1 fun h => by have := (HF2.out.2 h).2.1; simp [this] at hk3
          go_wp2_with fail
          refine (in_any _ _ _ _).mono ?_
          rintro r w1 ⟨rfl, rfl⟩
          rw [hg]
          go_wp2
          go_ret
          exact ⟨by rw [E.out]; rfl, hE.out _⟩
        cases hk4 : (x4 != 0)
        case true =>
          have E : Hid (ans = 6) := HX.out.1 fun h => by have := (HF2.out.2 h).2.2; simp [this] at hk4
          go_wp2_with fail
          refine (in_any _ _ _ _).mono ?_
          rintro r w1 ⟨rfl, rfl⟩
          rw [hg]
          go_wp2
          go_ret
          exact ⟨by rw [E.out]; rfl, hE.out _⟩
        have E : Hid (SlotOk (x1, false, x3, x4)) := HF2.out.1 ⟨of_decide_eq_true hg, by simpa using hk3, by simpa using hk4⟩
        go_wp2_with fail
        refine (in_any _ _ _ _).mono ?_
        rintro r w1 ⟨rfl, rfl⟩
        rw [hg]
        go_wp2
        go_roundw
        case rel => exact ⟨k + 1, by simp, hlt, HX.out.2 E.out, HA.out.2.alloc HA.out.2.size _⟩
        case measure => simp [intOf]; omega
      · cases hg : decide (0 ≤ x1 ∧ x1 ≤ 1048575)
        · have E : Hid (ans = 6) := HX.out.1 fun h => of_decide_eq_false hg (HF1.out.2 h).1
          go_wp2_with fail
          refine (in_any _ _ _ _).mono ?_
          rintro r w1 ⟨rfl, rfl⟩
          rw [hg]
          go_wp2
          go_ret
          exact ⟨by rw [E.out]; rfl, hE.out _⟩
        cases hk3 : decide (0 ≤ x3 ∧ x3 ≤ 4294967295)
        · have E : Hid (ans = 6) := HX.out.1 fun h => of_decide_eq_false hk3 (HF1.out.2 h).2.1
          go_wp2_with fail
          refine (in_any _ _ _ _).mono ?_
          rintro r w1 ⟨rfl, rfl⟩
          rw [hg]
          go_wp2_with fail
          refine (in_any _ _ _ _).mono ?_
          rintro r w1 ⟨rfl, rfl⟩
          rw [hk3]
          go_wp2
          go_ret
          exact ⟨by rw [E.out]; rfl, hE.out _⟩
        cases hk4 : decide (0 ≤ x4 ∧ x4 ≤ 11)
        · have E : Hid (ans = 6) := HX.out.1 fun h => of_decide_eq_false hk4 (HF1.out.2 h).2.2
          go_wp2_with fail
          refine (in_any _ _ _ _).mono ?_
          rintro r w1 ⟨rfl, rfl⟩
          rw [hg]
          go_wp2_with fail
          refine (in_any _ _ _ _).mono ?_
          rintro r w1 ⟨rfl, rfl⟩
          rw [hk3]
          go_wp2_with fail
          refine (in_any _ _ _ _).mono ?_
          rintro r w1 ⟨rfl, rfl⟩
          rw [hk4]
          go_wp2
          go_ret
          exact ⟨by rw [E.out]; rfl, hE.out _⟩
        have E : Hid (SlotOk (x1, true, x3, x4)) := HF1.out.1 ⟨of_decide_eq_true hg, of_decide_eq_true hk3, of_decide_eq_true hk4⟩
        go_wp2_with fail
        refine (in_any _ _ _ _).mono ?_
        rintro r w1 ⟨rfl, rfl⟩
        rw [hg]
        go_wp2_with fail
        refine (in_any _ _ _ _).mono ?_
        rintro r w1 ⟨rfl, rfl⟩
        rw [hk3]
        go_wp2_with fail
        refine (in_any _ _ _ _).mono ?_
        rintro r w1 ⟨rfl, rfl⟩
        rw [hk4]
        go_wp2
        go_roundw
        case rel => exact ⟨k + 1, by simp, hlt, HX.out.2 E.out, HA.out.2.alloc HA.out.2.size _⟩
        case measure => simp [intOf]; omega
    · have E : Hid (ans = 0) := by
        show ans = 0
        rw [H.out, if_pos ⟨by omega, fun t ht => hall t (by rw [List.take_of_length_le (by omega)]; exact ht)⟩]
      have HB : Hid _ := H0.out.1.trans (hbr.mono H0.out.1.size)
      clear pa hall hbr
      go_wp2
      go_ret
      exact ⟨by rw [E.out]; rfl, HB.out⟩
end Go.Proofs.Ytilcjcbghpbkjaa.Walks
