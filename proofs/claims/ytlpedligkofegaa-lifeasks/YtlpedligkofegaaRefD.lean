/-
  usherref: lifeAt, LifeOf. Condition: what is read can be read.
-/
import Derived.Test.YtlpedligkofegaaRefB
import Derived.Test.YtlpedligkofegaaRefC
import Derived.WalkKit
import Derived.ProofKit
import Derived.Handy
import Derived.LoopTactic
import Derived.Below
import Derived.Laws.BitsAllLaws
import Derived.RegionTactic
import Derived.Deep.RegionHeld3
import Derived.Deep.DrawnRows
import Derived.Deep.AppendLies
import Derived.Laws.OwnMore
import Derived.Deep.Onto
import Derived.Deep.QuietTactic
import Derived.BigQuiet
namespace Go.Proofs.Ytlpedligkofegaa.Walks
open Go.RowKit
set_option linter.unusedVariables false
set_option linter.unusedSimpArgs false
attribute [local go_sem ↓] Go.wp_at_zero Go.wp_at_succ

/-- Where a backend's life stands, or -1. -/
def atI (L : List Lf) (n : Int) : Int := if here L n = true then (pos L n : Int) else -1

theorem at_yes {L : List Lf} {n : Int} (h : here L n = true) : atI L n = (pos L n : Int) := if_pos h

theorem at_no {L : List Lf} {n : Int} (h : here L n = false) : atI L n = -1 := if_neg (by rw [h]; decide)

theorem at_found {L : List Lf} {n : Int} {k : Nat} (hr : L.Pairwise (fun a b => a.1 < b.1)) (hk : k < L.length) (h : L[k].1 = n) : atI L n = (k : Int) := by
  have hm := here_mem hr hk
  rw [h] at hm
  rw [at_yes hm.1, hm.2]

theorem at_none {L : List Lf} {n : Int} (h : ∀ x ∈ L, x.1 ≠ n) : atI L n = -1 := by
  cases hh : here L n
  · exact at_no hh
  · exact absurd (here_is hh) (h _ (List.getElem_mem (here_lt hh)))

set_option maxHeartbeats 4000000 in
theorem lifeAt_any (va vb : Value) (L : List Lf) (R : List Rq) (n : Int) (w : World) (hv : BkAt w va vb L R) (hr : L.Pairwise (fun a b => a.1 < b.1)) :
    Calls Try.prog 35 #[bkV va vb, .int .i64 n] w fun r w' => r = .returned (.int .i64 (atI L n)) ∧ Below w.heap.size w w' := by
  obtain ⟨pa, ca, rfl, hca, hma, pl⟩ := LvAt.parts hv.1
  obtain ⟨pb, cb, rfl, hcb, hmb⟩ := RcAt.form hv.2
  unfold maxLen at hma
  obtain ⟨ans, hans⟩ : ∃ ans, ans = atI L n := ⟨_, rfl⟩
  rw [← hans]
  obtain ⟨W0, hW0⟩ : ∃ W0, W0 = w.alloc (bkO (.slice pa L.length ca) (.slice pb R.length cb)) := ⟨_, rfl⟩
  have hB0 : Below w.heap.size w W0 := by rw [hW0]; exact below_new _
  have hR0 : W0.heap[w.heap.size]? = some (bkO (.slice pa L.length ca) (.slice pb R.length cb)) := by rw [hW0]; exact heap_alloc_new _ _
  obtain ⟨c0, c1, _, _, hlt0⟩ := two_cells hR0
  have H : Hid (_ ∧ _ ∧ _ ∧ _) := ⟨hans, hr, pl, hB0⟩
  clear hans hr hv pl hR0
  go_enter Try.func35, Try.ntmps35
  go_wp2
  rw [← hW0]
  clear hW0
  go_loopw [5] (fun i wr => W0 = wr ∧ ∃ k : Nat, i = .int .i64 k ∧ k ≤ L.length ∧ ∀ x ∈ L.take k, x.1 ≠ n) (fun i _ => L.length - (intOf i).toNat)
  case atStart => exact ⟨rfl, 0, rfl, Nat.zero_le _, by simp⟩
  case round =>
    obtain ⟨rfl, k, rfl, hk, hall⟩ := hrel
    by_cases hlt : k < L.length
    · obtain ⟨b1, o1, hpa, hb1, d1, _⟩ := H.out.2.2.1 k hlt
      subst hpa
      have e1 := (hB0.cell (p := ⟨b1, o1 + k * 6, none⟩) hb1).trans d1
      have hkI : (k : Int) < (L.length : Int) := by omega
      have hkd : decide ((k : Int) < (L.length : Int)) = true := decide_eq_true hkI
      have htk : L.take (k + 1) = L.take k ++ [L[k]] := List.take_succ_eq_append_getElem hlt
      obtain ⟨x, hx⟩ : ∃ x, x = L[k].1 := ⟨_, rfl⟩
      rw [← hx] at e1
      have HX : Hid (_ ∧ _ ∧ _) := ⟨hx, htk, hall⟩
      clear hall hx htk d1 hb1
      by_cases hxn : x = n
      · have E : Hid (ans = (k : Int)) := by rw [H.out.1]; exact at_found H.out.2.1 hlt (by rw [← HX.out.1]; exact hxn)
        subst hxn
        go_wp2
        go_ret
        exact ⟨by rw [E.out]; rfl, H.out.2.2.2⟩
      · have hq : (x == n) = false := by simpa using hxn
        have HN : Hid _ := hxn
        clear hxn
        go_wp2
        go_roundw
        case rel =>
          refine ⟨trivial, k + 1, by simp, hlt, fun y hy => ?_⟩
          rw [HX.out.2.1] at hy
          rcases List.mem_append.1 hy with hy | hy
          · exact HX.out.2.2 y hy
          · simp at hy
            rw [hy, ← HX.out.1]
            exact HN.out
        case measure => simp [intOf]; omega
    · have hkd : ¬ ((k : Int) < (L.length : Int)) := by omega
      have E : Hid (ans = -1) := by
        rw [H.out.1]
        exact at_none fun x hx => hall x (by rw [List.take_of_length_le (by omega)]; exact hx)
      clear hall
      go_wp2
      go_ret
      exact ⟨by rw [E.out]; rfl, H.out.2.2.2⟩

set_option maxHeartbeats 4000000 in
set_option maxRecDepth 100000 in
theorem lifeOf_any (va vb : Value) (L : List Lf) (R : List Rq) (n : Int) (w : World) (hv : BkAt w va vb L R) (x1 x2 x3 x4 x5 x6 e : Int) (hout : ofO L R n = ((x1, x2, x3, x4, x5, x6), e)) :
    Calls Try.prog 21 #[bkV va vb, .int .i64 n] w fun r w' => r = .returned (.tuple #[lfV x1 x2 x3 x4 x5 x6, .int .i64 e]) ∧ Below w.heap.size w w' := by
  obtain ⟨pa, ca, rfl, hca, hma, pl⟩ := LvAt.parts hv.1
  obtain ⟨pb, cb, rfl, hcb, hmb⟩ := RcAt.form hv.2
  unfold maxLen at hma
  obtain ⟨W0, hW0⟩ : ∃ W0, W0 = (w.alloc (bkO (.slice pa L.length ca) (.slice pb R.length cb))).alloc (lfO 0 0 0 0 0 0) := ⟨_, rfl⟩
  have hx := two_boxes w (bkO (.slice pa L.length ca) (.slice pb R.length cb)) (lfO 0 0 0 0 0 0)
  rw [← hW0] at hx
  obtain ⟨hR0, hR1, hB0, hs0⟩ := hx
  obtain ⟨c0, c1, _, _, hlt0⟩ := two_cells hR0
  have H : Hid (_ ∧ _ ∧ _ ∧ _ ∧ _ ∧ _ ∧ _) := ⟨hW0, hR1, hB0, hs0, hv.below hB0, hR0, pl⟩
  clear hv hR0 hR1 hB0 hs0 pl
  have HF : Hid _ := bookFault_any _ _ L R W0 H.out.2.2.2.2.1
  by_cases hok : BkOk L R
  · rw [chk_yes hok] at HF
    unfold ofO at hout
    rw [if_pos hok] at hout
    have HQ : Hid (_ ∧ _) := ⟨hout, hok.1.2.2⟩
    clear hW0 hok hout
    go_enter Try.func21, Try.ntmps21
    go_wp2_with fail
    rw [← H.out.1]
    refine Calls.mono HF.out ?_
    rintro r w1 ⟨rfl, hb1⟩
    have hv1 := H.out.2.2.2.2.1.below hb1
    have HA : Hid _ := lifeAt_any _ _ L R n w1 hv1 HQ.out.2
    have HB : Hid (_ ∧ _ ∧ _) := ⟨box_below H.out.2.1 hb1, H.out.2.2.1.trans (hb1.mono H.out.2.2.1.size), box_below H.out.2.2.2.2.2.1 hb1⟩
    clear c0 c1 hlt0
    obtain ⟨c0, c1, _, _, hlt0⟩ := two_cells HB.out.2.2
    clear hb1 hv1
    cases hh : here L n
    · rw [at_no hh] at HA
      have hout := HQ.out.1
      rw [hh, if_neg (by decide)] at hout
      cases hout
      go_wp2_with fail
      refine Calls.mono HA.out ?_
      rintro r w2 ⟨rfl, hb2⟩
      have hR2 := box_below HB.out.1 hb2
      obtain ⟨d0, d1, d2, d3, d4, d5, dlt⟩ := six_cells hR2
      have hf0 : w2.frozen? ⟨w.heap.size + 1, 0, none⟩ = false := by simp [World.frozen?, hR2]
      have hf1 : w2.frozen? ⟨w.heap.size + 1, 1, none⟩ = false := by simp [World.frozen?, hR2]
      have hf2 : w2.frozen? ⟨w.heap.size + 1, 2, none⟩ = false := by simp [World.frozen?, hR2]
      have hf3 : w2.frozen? ⟨w.heap.size + 1, 3, none⟩ = false := by simp [World.frozen?, hR2]
      have hf4 : w2.frozen? ⟨w.heap.size + 1, 4, none⟩ = false := by simp [World.frozen?, hR2]
      have hf5 : w2.frozen? ⟨w.heap.size + 1, 5, none⟩ = false := by simp [World.frozen?, hR2]
      have HC : Hid (_ ∧ _) := ⟨hR2, HB.out.2.1.trans (hb2.mono HB.out.2.1.size)⟩
      clear hb2 hR2
      go_wp2
      exact bodyPost_ret (v := .tuple #[lfV 0 0 0 0 0 0, .int .i64 8]) (results_ct Try.results21 rfl rfl (load_row (P := Try.prog) (cs := [.int .i64 0, .int .i64 0, .int .i64 0, .int .i64 0, .int .i64 0, .int .i64 0]) (six_set HC.out.1) Try.underlying44 rfl (by kernel_rfl))) rfl ⟨rfl, below_set6 HC.out.2 (Nat.le_succ _)⟩
    · rw [at_yes hh] at HA
      obtain ⟨i, hi⟩ : ∃ i, i = pos L n := ⟨_, rfl⟩
      have hlti : i < L.length := by rw [hi]; exact here_lt hh
      have hiI : (i : Int) < (L.length : Int) := by omega
      have hout := HQ.out.1
      rw [hh, if_pos rfl, ← hi, List.getElem?_eq_getElem hlti, Option.getD_some] at hout
      rw [← hi] at HA
      injection hout with hx he
      subst he
      obtain ⟨b1, o1, hpa, hb1, z1, z2, z3, z4, z5, z6⟩ := H.out.2.2.2.2.2.2 i hlti
      subst hpa
      rw [hx] at z1 z2 z3 z4 z5 z6
      have HZ : Hid (_ ∧ _ ∧ _ ∧ _ ∧ _ ∧ _ ∧ _) := ⟨hb1, z1, z2, z3, z4, z5, z6⟩
      clear hx hi hh z1 z2 z3 z4 z5 z6 hb1
      go_wp2_with fail
      refine Calls.mono HA.out ?_
      rintro r w2 ⟨rfl, hb2⟩
      have hR2 := box_below HB.out.1 hb2
      have hb3 := HB.out.2.1.trans (hb2.mono HB.out.2.1.size)
      clear c0 c1 hlt0
      obtain ⟨c0, c1, _, _, hlt0⟩ := two_cells (box_below HB.out.2.2 hb2)
      obtain ⟨d0, d1, d2, d3, d4, d5, dlt⟩ := six_cells hR2
      have hf0 : w2.frozen? ⟨w.heap.size + 1, 0, none⟩ = false := by simp [World.frozen?, hR2]
      have hf1 : w2.frozen? ⟨w.heap.size + 1, 1, none⟩ = false := by simp [World.frozen?, hR2]
      have hf2 : w2.frozen? ⟨w.heap.size + 1, 2, none⟩ = false := by simp [World.frozen?, hR2]
      have hf3 : w2.frozen? ⟨w.heap.size + 1, 3, none⟩ = false := by simp [World.frozen?, hR2]
      have hf4 : w2.frozen? ⟨w.heap.size + 1, 4, none⟩ = false := by simp [World.frozen?, hR2]
      have hf5 : w2.frozen? ⟨w.heap.size + 1, 5, none⟩ = false := by simp [World.frozen?, hR2]
      obtain ⟨hb1, z1, z2, z3, z4, z5, z6⟩ := HZ.out
      have e1 := (hb3.cell (p := ⟨b1, o1 + i * 6, none⟩) hb1).trans z1
      have e2 := (hb3.cell (p := ⟨b1, o1 + i * 6 + 1, none⟩) hb1).trans z2
      have e3 := (hb3.cell (p := ⟨b1, o1 + i * 6 + 2, none⟩) hb1).trans z3
      have e4 := (hb3.cell (p := ⟨b1, o1 + i * 6 + 3, none⟩) hb1).trans z4
      have e5 := (hb3.cell (p := ⟨b1, o1 + i * 6 + 4, none⟩) hb1).trans z5
      have e6 := (hb3.cell (p := ⟨b1, o1 + i * 6 + 5, none⟩) hb1).trans z6
      have HC : Hid (_ ∧ _) := ⟨hR2, hb3⟩
      clear hb2 hR2 hb3 z1 z2 z3 z4 z5 z6 hb1
      go_wp2
      exact bodyPost_ret (v := .tuple #[lfV x1 x2 x3 x4 x5 x6, .int .i64 0]) (results_ct Try.results21 rfl rfl (load_row (P := Try.prog) (cs := [.int .i64 x1, .int .i64 x2, .int .i64 x3, .int .i64 x4, .int .i64 x5, .int .i64 x6]) (six_set HC.out.1) Try.underlying44 rfl (by kernel_rfl))) rfl ⟨rfl, below_set6 HC.out.2 (Nat.le_succ _)⟩
  · rw [chk_no hok] at HF
    unfold ofO at hout
    rw [if_neg hok] at hout
    cases hout
    clear hW0
    go_enter Try.func21, Try.ntmps21
    go_wp2_with fail
    rw [← H.out.1]
    refine Calls.mono HF.out ?_
    rintro r w1 ⟨rfl, hb1⟩
    have hR2 := box_below H.out.2.1 hb1
    obtain ⟨d0, d1, d2, d3, d4, d5, dlt⟩ := six_cells hR2
    have hf0 : w1.frozen? ⟨w.heap.size + 1, 0, none⟩ = false := by simp [World.frozen?, hR2]
    have hf1 : w1.frozen? ⟨w.heap.size + 1, 1, none⟩ = false := by simp [World.frozen?, hR2]
    have hf2 : w1.frozen? ⟨w.heap.size + 1, 2, none⟩ = false := by simp [World.frozen?, hR2]
    have hf3 : w1.frozen? ⟨w.heap.size + 1, 3, none⟩ = false := by simp [World.frozen?, hR2]
    have hf4 : w1.frozen? ⟨w.heap.size + 1, 4, none⟩ = false := by simp [World.frozen?, hR2]
    have hf5 : w1.frozen? ⟨w.heap.size + 1, 5, none⟩ = false := by simp [World.frozen?, hR2]
    have HC : Hid (_ ∧ _) := ⟨hR2, H.out.2.2.1.trans (hb1.mono H.out.2.2.1.size)⟩
    clear hb1 hR2
    go_wp2
    exact bodyPost_ret (v := .tuple #[lfV 0 0 0 0 0 0, .int .i64 6]) (results_ct Try.results21 rfl rfl (load_row (P := Try.prog) (cs := [.int .i64 0, .int .i64 0, .int .i64 0, .int .i64 0, .int .i64 0, .int .i64 0]) (six_set HC.out.1) Try.underlying44 rfl (by kernel_rfl))) rfl ⟨rfl, below_set6 HC.out.2 (Nat.le_succ _)⟩
end Go.Proofs.Ytlpedligkofegaa.Walks
