/-
  TableCount: counts add up to the flows, and each backend's list is as long as its count. Condition: the acts can be read.
-/
import Derived.Test.YthiojfgimjoenaaSeatL
import Derived.WalkKit
import Derived.ProofKit
import Derived.Handy
import Derived.LoopTactic
import Derived.Below
import Derived.Laws.BitsAllLaws
import Derived.RegionTactic
import Derived.Deep.RegionHeld3
import Derived.Deep.DrawnRows
import Derived.Deep.AppendLies
import Derived.Laws.OwnMore
import Derived.Deep.Onto
import Derived.Deep.QuietTactic
import Derived.BigQuiet
namespace Go.Proofs.Ythiojfgimjoenaa.Walks
open Go.RowKit
set_option linter.unusedVariables false
set_option linter.unusedSimpArgs false
attribute [local go_sem ↓] Go.wp_at_zero Go.wp_at_succ

theorem hsTo_count (bk : Int) (l : List Sl) : ∀ k, k ≤ l.length → (hsTo bk l k).length = (l.take k).countP (mineB bk)
  | 0, _ => by simp [hsTo]
  | k + 1, hk => by
    have ih := hsTo_count bk l k (by omega)
    have hlt : k < l.length := by omega
    have hgd : l.getD k (0, false, 0, 0) = l[k] := by simp [hlt]
    rw [List.take_succ_eq_append_getElem hlt, List.countP_append, ← ih]
    cases h : mineB bk l[k]
    · rw [hsTo_no (by rw [hgd]; exact h), List.countP_cons_of_neg (by rw [h]; exact Bool.false_ne_true)]
      simp
    · rw [hsTo_yes (by rw [hgd]; exact h), List.countP_cons_of_pos h]
      simp

theorem hsOf_count (bk : Int) (l : List Sl) : (hsOf bk l).length = l.countP (mineB bk) := by
  have := hsTo_count bk l l.length (Nat.le_refl _)
  rwa [List.take_length] at this

set_option maxHeartbeats 8000000 in
set_option maxRecDepth 100000 in
theorem tableCount_row (w : World) (n : Int) (wn : (Lit.int .i64 n).wf = true) (v : Value) (l : List St) (hv : StAt w v l) (hwf : ∀ t ∈ l, (Lit.int .i64 t.1).wf = true ∧ (Lit.int .i64 t.2.1).wf = true ∧ (Lit.int .i64 t.2.2).wf = true) :
    Calls Try.prog 6 #[.int .i64 n, v] w fun r w' => r = .returned (.bool true) ∧ Below w.heap.size w w' := by
  obtain ⟨pv, cv, rfl, _⟩ := hv.parts
  have HV : Hid (_ ∧ _ ∧ _) := ⟨hv, hwf, wn⟩
  clear hv hwf wn
  go_enter Try.func6, Try.ntmps6
  go_wp2_with fail
  refine (seated_any n HV.out.2.2 _ l w HV.out.1 HV.out.2.1).mono ?_
  rintro r w1 hr
  obtain ⟨T, E, pT, pH, pG, pA, cT, cH, cG, cA, rfl, hL, hb⟩ := hr.open
  clear hr
  obtain ⟨W2, hW2⟩ : ∃ W2, W2 = w1.alloc (.cells #[.slice pT T.length cT] 24) := ⟨_, rfl⟩
  have hb2 : Below w1.heap.size w1 W2 := by rw [hW2]; exact below_newC w1
  have hT2 : W2.heap[w1.heap.size]? = some (.cells #[.slice pT T.length cT] 24 (0, 0)) := by rw [hW2]; exact heap_alloc_new _ _
  have hl2 := hL.below hb2
  have hout : countsOut T = (cntL T, 0) := by unfold countsOut; rw [if_pos hL.1.ok]
  have hC := counts_any _ T W2 hl2.2.2.1
  rw [hout] at hC
  have hcl : (cntL T).length = 12 := cntL_len T
  have hC' : Calls Try.prog 9 #[.agg #[.slice pT T.length cT]] W2 fun r w' => ∃ p c, r = .returned (.tuple #[.slice p 12 c, .int .i64 0]) ∧ IntsAt w' (.slice p 12 c) (cntL T) ∧ Below W2.heap.size W2 w' := hC.mono fun r w' ⟨p, c, h1, h2, h3⟩ => by
    have h1 : r = .returned (.tuple #[.slice p (cntL T).length c, .int .i64 0]) := h1
    have h2 : IntsAt w' (.slice p (cntL T).length c) (cntL T) := h2
    rw [hcl] at h1 h2
    exact ⟨p, c, h1, h2, h3⟩
  have H2 : Hid (_ ∧ _ ∧ _ ∧ _ ∧ _) := ⟨hW2, hl2, hT2, hC', hb.trans (hb2.mono hb.size)⟩
  clear hW2 hl2 hT2 hC' hC hout hcl hb hb2 hL
  obtain ⟨⟨hT6, hE30⟩, _, _, m1, m2, m3, m4, m5, m6, _⟩ := H2.out.2.1.2
  go_wp2_with fail
  rw [← H2.out.1]
  refine H2.out.2.2.2.1.mono ?_
  rintro r w3 ⟨pC, cC, rfl, hI3, hb3⟩
  obtain ⟨_, _, e0, mc1, mc2, pC'⟩ := hI3.parts
  injection e0 with x0 x2 x1
  subst x0 x1
  clear x2
  rw [cntL_len] at mc1
  unfold maxLen at mc2
  have hl3 := H2.out.2.1.below hb3
  have hT3 := box_below H2.out.2.2.1 hb3
  have hlt3 : w1.heap.size < w3.heap.size := (Array.getElem?_eq_some_iff.1 hT3).1
  have H3 : Hid (_ ∧ _ ∧ _ ∧ _) := ⟨hl3, hT3, pC', H2.out.2.2.2.2.trans (hb3.mono H2.out.2.2.2.2.size)⟩
  clear hl3 hT3 pC' hb3 hI3 H2
  go_wp2
  go_loopw [12] (fun i wr => ∃ (k : Nat), i = .int .i64 k ∧ k ≤ 12 ∧ ∃ W4, Below w3.heap.size w3 W4 ∧ W4 = wr) (fun i _ => 12 - (intOf i).toNat)
  case atStart => exact ⟨0, rfl, Nat.zero_le _, w3, Below.refl _ _, rfl⟩
  case round =>
    obtain ⟨k, rfl, hk, W4, hb4, rfl⟩ := hrel
    by_cases hk' : k < 12
    · have hkI : (k : Int) < 12 := by omega
      have hT4 := box_below H3.out.2.1 hb4
      have t4 := one_cell hT4
      have hl4 := H3.out.1.below hb4
      have hO := of_any _ T (k : Int) W4 hl4.2.2.1
      rw [show ofOut T (k : Int) = (hsOf (k : Int) T, 0) by unfold ofOut; rw [if_pos hl4.1.ok]] at hO
      obtain ⟨m, hm⟩ : ∃ m, m = E.countP (owns (k : Int)) := ⟨_, rfl⟩
      have hcnt : (hsOf (k : Int) T).length = m := by rw [hsOf_count, hm]; exact hl4.1.cnt k
      have hmle : m ≤ 30 := by rw [hm]; exact Nat.le_trans (List.countP_le_length ..) hE30
      have hO' : Calls Try.prog 13 #[.agg #[.slice pT T.length cT], .int .i64 (k : Int)] W4 fun r w' => ∃ p c, r = .returned (.tuple #[.slice p m c, .int .i64 0]) ∧ Below W4.heap.size W4 w' := hO.mono fun r w' ⟨p, c, h1, _, h3⟩ => by
        have h1 : r = .returned (.tuple #[.slice p (hsOf (k : Int) T).length c, .int .i64 0]) := h1
        rw [hcnt] at h1
        exact ⟨p, c, h1, h3⟩
      obtain ⟨bC, oC, ec, lC, cCk⟩ := H3.out.2.2.1 k (by rw [cntL_len]; exact hk')
      have hck : (cntL T)[k]'(by rw [cntL_len]; exact hk') = (m : Int) := by
        have := cntL_at T k hk'
        rw [List.getElem?_eq_getElem (by rw [cntL_len]; exact hk')] at this
        injection this with this
        rw [this, hcnt]
      rw [hck] at cCk
      subst ec
      have H4 : Hid (_ ∧ _ ∧ _ ∧ _ ∧ _ ∧ _) := ⟨hO', hl4, hb4, (hb4.cell (p := ⟨bC, oC + k, none⟩) lC).trans cCk, Nat.lt_of_lt_of_le lC hb4.size, hm⟩
      clear hO' hO hl4 hb4 cCk hck hT4 hcnt hm
      go_wp2_with fail
      refine H4.out.1.mono ?_
      rintro r w5 ⟨pO, cO, rfl, hb5⟩
      have hl5 := H4.out.2.1.2.2.2.1.below hb5
      have c5 := (hb5.cell (p := ⟨bC, oC + k, none⟩) H4.out.2.2.2.2.1).trans H4.out.2.2.2.1
      have H5 : Hid (_ ∧ _) := ⟨hl5, H4.out.2.2.1.trans (hb5.mono H4.out.2.2.1.size)⟩
      clear hl5 hb5 t4
      go_wp2
      go_loopw [15, 16] (fun many i wr => ∃ (j : Nat), i = .int .i64 j ∧ many = .int .i64 (((E.take j).countP (owns (k : Int)) : Nat) : Int) ∧ j ≤ E.length ∧ w5 = wr) (fun _ i _ => E.length - (intOf i).toNat)
      case atStart => exact ⟨0, rfl, by simp, Nat.zero_le _, rfl⟩
      case round =>
        obtain ⟨j, rfl, rfl, hj, rfl⟩ := hrel
        by_cases hj' : j < E.length
        · have hjI : (j : Int) < (E.length : Int) := by omega
          obtain ⟨bH, oH, bG, oG, bA, oA, rfl, rfl, rfl, _, _, _, _, _, g3, g4⟩ := H5.out.1 j hj'
          have hts : (E.take (j + 1)).countP (owns (k : Int)) = (E.take j).countP (owns (k : Int)) + if owns (k : Int) E[j] then 1 else 0 := by
            rw [List.take_succ_eq_append_getElem hj', List.countP_append, List.countP_cons]
            simp
          have hle : (E.take j).countP (owns (k : Int)) ≤ 30 := Nat.le_trans (List.countP_le_length ..) (by rw [List.length_take]; omega)
          have how : owns (k : Int) E[j] = (E[j].2.1 && (E[j].2.2 == (k : Int))) := rfl
          obtain ⟨gd, hgd⟩ : ∃ gd, gd = E[j].2.1 := ⟨_, rfl⟩
          obtain ⟨a, ha⟩ : ∃ a, a = E[j].2.2 := ⟨_, rfl⟩
          rw [← hgd] at g3 how
          rw [← ha] at g4 how
          rw [how] at hts
          obtain ⟨q, hq⟩ : ∃ q, q = (E.take j).countP (owns (k : Int)) := ⟨_, rfl⟩
          rw [← hq] at hts hle ⊢
          have HT : Hid _ := hts
          clear hts how hgd ha hq
          cases gd
          · go_wp2
            go_roundw
            case rel => exact ⟨j + 1, by simp, by rw [HT.out]; simp, hj', by trivial⟩
            case measure => simp [intOf]; omega
          · cases hak : (a == (k : Int))
            · go_wp2
              go_roundw
              case rel => exact ⟨j + 1, by simp, by rw [HT.out, hak]; simp, hj', by trivial⟩
              case measure => simp [intOf]; omega
            · go_wp2
              go_roundw
              case rel => exact ⟨j + 1, by simp, by rw [HT.out, hak]; simp, hj', by trivial⟩
              case measure => simp [intOf]; omega
        · obtain rfl : j = E.length := by omega
          rw [List.take_length, ← H4.out.2.2.2.2.2]
          go_wp2
          go_roundw
          case rel => exact ⟨k + 1, by simp, hk', w5, H5.out.2, rfl⟩
          case measure => simp [intOf]; omega
    · obtain rfl : k = 12 := by omega
      have HB : Hid _ := H3.out.2.2.2.trans (hb4.mono H3.out.2.2.2.size)
      clear hb4
      go_wp2
      go_ret
      exact ⟨rfl, HB.out⟩
end Go.Proofs.Ythiojfgimjoenaa.Walks
