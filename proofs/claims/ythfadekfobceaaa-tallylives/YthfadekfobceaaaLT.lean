/-
  TallyOfs, TallyLives, TallyStories: the laws' walks. Condition: the outputs can be read; they take no more memory than there can be.
-/
import Derived.Test.YthfadekfobceaaaRefS
import Derived.Test.YthfadekfobceaaaSame
import Derived.Test.YthfadekfobceaaaOpensT
import Derived.WalkKit
import Derived.ProofKit
import Derived.Handy
import Derived.LoopTactic
import Derived.Below
import Derived.Laws.BitsAllLaws
import Derived.RegionTactic
import Derived.Deep.RegionHeld3
import Derived.Deep.DrawnRows
import Derived.Deep.AppendLies
import Derived.Laws.OwnMore
import Derived.Deep.Onto
import Derived.Deep.QuietTactic
import Derived.BigQuiet
namespace Go.Proofs.Ythfadekfobceaaa.Walks
open Go.RowKit
set_option linter.unusedVariables false
set_option linter.unusedSimpArgs false
attribute [local go_sem ↓] Go.wp_at_zero Go.wp_at_succ

theorem list17 {α : Type} (xs : List α) (h : xs.length = 17) : ∃ a0 a1 a2 a3 a4 a5 a6 a7 a8 a9 a10 a11 a12 a13 a14 a15 a16, xs = [a0, a1, a2, a3, a4, a5, a6, a7, a8, a9, a10, a11, a12, a13, a14, a15, a16] := by
  match xs, h with
  | [a0, a1, a2, a3, a4, a5, a6, a7, a8, a9, a10, a11, a12, a13, a14, a15, a16], _ => exact ⟨_, _, _, _, _, _, _, _, _, _, _, _, _, _, _, _, _, rfl⟩

set_option maxHeartbeats 4000000 in
set_option maxRecDepth 100000 in
theorem eqA11 (a0 a1 a2 a3 a4 a5 a6 a7 a8 a9 a10 : Int) (W : World) : (Op.equalIn 9999 24 (.agg #[.int .i64 a0, .int .i64 a1, .int .i64 a2, .int .i64 a3, .int .i64 a4, .int .i64 a5, .int .i64 a6, .int .i64 a7, .int .i64 a8, .int .i64 a9, .int .i64 a10]) (.agg #[.int .i64 a0, .int .i64 a1, .int .i64 a2, .int .i64 a3, .int .i64 a4, .int .i64 a5, .int .i64 a6, .int .i64 a7, .int .i64 a8, .int .i64 a9, .int .i64 a10])).run Try.prog W = .ok true W := by
  have u3 := Try.underlying3
  rw [show (9999 : Nat) = 9998 + 1 from rfl, Op.equalIn]
  simp only [Sem.run_bind, run_underlying Try.underlying24, Result.andThen_ok]
  simp only [Std.Legacy.Range.forIn_eq_forIn_range', Std.Legacy.Range.size, Nat.sub_zero, Nat.add_sub_cancel, Nat.div_one, List.range'_succ, List.range'_zero, List.forIn_cons, List.forIn_nil]
  go_simp

set_option maxHeartbeats 4000000 in
set_option maxRecDepth 100000 in
theorem eqA6 (a11 a12 a13 a14 a15 a16 : Int) (W : World) : (Op.equalIn 9999 25 (.agg #[.int .i64 a11, .int .i64 a12, .int .i64 a13, .int .i64 a14, .int .i64 a15, .int .i64 a16]) (.agg #[.int .i64 a11, .int .i64 a12, .int .i64 a13, .int .i64 a14, .int .i64 a15, .int .i64 a16])).run Try.prog W = .ok true W := by
  have u3 := Try.underlying3
  rw [show (9999 : Nat) = 9998 + 1 from rfl, Op.equalIn]
  simp only [Sem.run_bind, run_underlying Try.underlying25, Result.andThen_ok]
  simp only [Std.Legacy.Range.forIn_eq_forIn_range', Std.Legacy.Range.size, Nat.sub_zero, Nat.add_sub_cancel, Nat.div_one, List.range'_succ, List.range'_zero, List.forIn_cons, List.forIn_nil]
  go_simp

set_option maxHeartbeats 2000000 in
set_option maxRecDepth 100000 in
theorem eq17 (xs : List Int) (h : xs.length = 17) : ∀ W, (binOp .eql 27 (.agg (icells xs).toArray) (.agg (icells xs).toArray)).run Try.prog W = .ok (.bool true) W := by
  intro W
  obtain ⟨a0, a1, a2, a3, a4, a5, a6, a7, a8, a9, a10, a11, a12, a13, a14, a15, a16, rfl⟩ := list17 xs h
  show (binOp .eql 27 (.agg #[.int .i64 a0, .int .i64 a1, .int .i64 a2, .int .i64 a3, .int .i64 a4, .int .i64 a5, .int .i64 a6, .int .i64 a7, .int .i64 a8, .int .i64 a9, .int .i64 a10, .int .i64 a11, .int .i64 a12, .int .i64 a13, .int .i64 a14, .int .i64 a15, .int .i64 a16]) (.agg #[.int .i64 a0, .int .i64 a1, .int .i64 a2, .int .i64 a3, .int .i64 a4, .int .i64 a5, .int .i64 a6, .int .i64 a7, .int .i64 a8, .int .i64 a9, .int .i64 a10, .int .i64 a11, .int .i64 a12, .int .i64 a13, .int .i64 a14, .int .i64 a15, .int .i64 a16])).run Try.prog W = _
  have e1 := eqA11 a0 a1 a2 a3 a4 a5 a6 a7 a8 a9 a10
  have e2 := eqA6 a11 a12 a13 a14 a15 a16
  go_simp

set_option maxHeartbeats 4000000 in
set_option maxRecDepth 100000 in
theorem tallyLives_row (v : Value) (l : List Ou) (_ : OusWf l) (hl : l.length * 56 ≤ 140737488355328) (w : World) (hv : OsAt w v l) :
    Calls Try.prog 4 #[v] w fun r w' => r = .returned (.bool true) ∧ Below w.heap.size w w' := by
  obtain ⟨p, c, rfl, hc, hm⟩ := RvAt.form hv
  obtain ⟨a, e, hae⟩ : ∃ a e, liveO l = (a, e) := ⟨_, _, rfl⟩
  have HV : Hid (_ ∧ _ ∧ _) := ⟨hv, hl, hae⟩
  clear hv hl hae
  go_enter Try.func4, Try.ntmps4
  go_wp2_with fail
  refine (outputs_any _ l _ HV.out.1 HV.out.2.1).mono ?_
  rintro r w1 ⟨p1, c1, rfl, h1, hb1⟩
  have H1 : Hid (_ ∧ _) := ⟨h1, hb1⟩
  clear h1 hb1
  go_wp2_with fail
  refine (live_any _ l _ H1.out.1).mono ?_
  rw [HV.out.2.2]
  rintro r w2 ⟨rfl, hb2⟩
  have H2 : Hid _ := H1.out.2.trans (hb2.mono H1.out.2.size)
  clear hb2
  go_wp2_with fail
  refine (liveFlows_any _ l _ (HV.out.1.below H2.out)).mono ?_
  rw [HV.out.2.2]
  rintro r w3 ⟨rfl, rfl⟩
  go_wp2
  go_ret
  exact ⟨by simp, H2.out⟩

set_option maxHeartbeats 4000000 in
set_option maxRecDepth 100000 in
theorem tallyOfs_row (v : Value) (l : List Ou) (_ : OusWf l) (hl : l.length * 56 ≤ 140737488355328) (w : World) (hv : OsAt w v l) :
    Calls Try.prog 3 #[v] w fun r w' => r = .returned (.bool true) ∧ Below w.heap.size w w' := by
  obtain ⟨p, c, rfl, hc, hm⟩ := RvAt.form hv
  obtain ⟨xs, e, hae⟩ : ∃ a e, ofO l = (a, e) := ⟨_, _, rfl⟩
  have hx17 : xs.length = 17 := by have := ofO_len l; rw [hae] at this; exact this
  have hone := all_oneCell_toArray (icells_one xs)
  have hi17 : (Try.prog.info? 27).map (·.size) = some (icells xs).length := by rw [infoC]; simp [icells_len, hx17]
  have hi17' : (Try.prog.info? 27).map (·.size) = some (icells xs).toArray.size := by rw [hi17]; simp
  have HV : Hid (_ ∧ _ ∧ _ ∧ _ ∧ _ ∧ _ ∧ _) := ⟨hv, hl, hae, hx17, hone, hi17, hi17'⟩
  clear hv hl hae hx17 hone hi17 hi17'
  obtain ⟨cs, hcs⟩ : ∃ cs, cs = icells xs := ⟨_, rfl⟩
  have HC : Hid _ := hcs
  have hsz : cs.toArray.size = 17 := by rw [hcs]; simp [icells_len, HV.out.2.2.2.1]
  have HS : Hid _ := hsz
  have heq := eq17 xs HV.out.2.2.2.1
  rw [← hcs] at heq
  clear hcs hsz
  go_enter Try.func3, Try.ntmps3
  go_wp2_with fail
  refine (outputs_any _ l _ HV.out.1 HV.out.2.1).mono ?_
  rintro r w1 ⟨p1, c1, rfl, h1, hb1⟩
  have H1 : Hid (_ ∧ _) := ⟨h1, hb1⟩
  clear h1 hb1
  go_wp2_with fail
  refine (of_any _ l _ H1.out.1).mono ?_
  rw [HV.out.2.2.1]
  rintro r w2 ⟨rfl, hb2⟩
  obtain ⟨W2, hW2⟩ : ∃ W2, W2 = w2.alloc (.cells (icells (List.replicate 17 0)).toArray 27) := ⟨_, rfl⟩
  have hA2 : Arr 27 17 W2 w2.heap.size (List.replicate 17 0) := by rw [hW2]; exact ⟨heap_alloc_new _ _, by simp⟩
  obtain ⟨W3, hW3⟩ : ∃ W3, W3 = W2.setCells w2.heap.size 0 (icells xs) := ⟨_, rfl⟩
  have hst := (hA2.store (P := Try.prog) (b := xs) HV.out.2.2.2.1 infoC).2
  rw [← hW3] at hst
  have hb2' : Below w2.heap.size w2 W2 := by rw [hW2]; exact below_new w2
  have hb3 : Below w2.heap.size w2 W3 := by rw [hW3]; exact below_setCells hb2' (Nat.le_refl _) _ _ hb2'.size
  have hw3 := H1.out.2.trans ((hb2.trans (hb3.mono hb2.size)).mono H1.out.2.size)
  have h13 := H1.out.1.below (hb2.trans (hb3.mono hb2.size))
  have ht17 : W2.there w2.heap.size 0 (icells xs).toArray.size := by simp [icells_len, HV.out.2.2.2.1]; exact hA2.there
  have H2 : Hid (_ ∧ _ ∧ _ ∧ _ ∧ _ ∧ _) := ⟨ht17, hW2, hW3, hst, hw3, h13⟩
  clear hA2 hst hb2' hb3 hw3 h13 ht17 hW2 hW3 hb2
  simp only [← HC.out] at HV H2 ⊢
  go_wp2_with (first | ((with_reducible refine wpList_store_mid rfl 27 (.tmp 4) (.tmp 13) rfl w2.heap.size 0 cs.toArray ?hx ?hy ?ht ?hi ?h1 ?_); (case hx => rfl); (case hy => rfl); (case ht => rw [zeros17, ← H2.out.2.1]; exact H2.out.1); (case hi => exact HV.out.2.2.2.2.2.2); (case h1 => exact HV.out.2.2.2.2.1); rw [zeros17, ← H2.out.2.1, show cs.toArray.toList = cs from rfl, ← H2.out.2.2.1]) | fail)
  refine (tallied_any _ l _ (HV.out.1.below H2.out.2.2.2.2.1)).mono ?_
  rw [HV.out.2.2.1]
  rintro r w4 ⟨rfl, hb4⟩
  obtain ⟨W5, hW5⟩ : ∃ W5, W5 = w4.alloc (.cells (icells (List.replicate 17 0)).toArray 27) := ⟨_, rfl⟩
  have hA5 : Arr 27 17 W5 w4.heap.size (List.replicate 17 0) := by rw [hW5]; exact ⟨heap_alloc_new _ _, by simp⟩
  obtain ⟨W6, hW6⟩ : ∃ W6, W6 = W5.setCells w4.heap.size 0 (icells xs) := ⟨_, rfl⟩
  have hst6 := (hA5.store (P := Try.prog) (b := xs) HV.out.2.2.2.1 infoC).2
  rw [← hW6] at hst6
  have hb5 : Below w4.heap.size w4 W5 := by rw [hW5]; exact below_new w4
  have hb6 : Below w4.heap.size w4 W6 := by rw [hW6]; exact below_setCells hb5 (Nat.le_refl _) _ _ hb5.size
  have hb46 := hb4.trans (hb6.mono hb4.size)
  have ht5 : W5.there w4.heap.size 0 (icells xs).toArray.size := by simp [icells_len, HV.out.2.2.2.1]; exact hA5.there
  have H5 : Hid (_ ∧ _ ∧ _ ∧ _ ∧ _ ∧ _ ∧ _ ∧ _) := ⟨ht5, hW5, hW6, (H2.out.2.2.2.1.below hb46).range, hst6.range, H2.out.2.2.2.2.1.trans (hb46.mono H2.out.2.2.2.2.1.size), H2.out.2.2.2.2.2.below hb46, HV.out.1.below (H2.out.2.2.2.2.1.trans (hb46.mono H2.out.2.2.2.2.1.size))⟩
  clear hA5 hst6 hb5 hb6 hb46 ht5 hW5 hW6 hb4
  simp only [← HC.out] at H5 ⊢
  go_wp2_with (first | ((with_reducible refine wpList_store_mid rfl 27 (.tmp 6) (.tmp 18) rfl w4.heap.size 0 cs.toArray ?hx ?hy ?ht ?hi ?h1 ?_); (case hx => rfl); (case hy => rfl); (case ht => rw [zeros17, ← H5.out.2.1]; exact H5.out.1); (case hi => exact HV.out.2.2.2.2.2.2); (case h1 => exact HV.out.2.2.2.2.1); rw [zeros17, ← H5.out.2.1, show cs.toArray.toList = cs from rfl, ← H5.out.2.2.1]) | ((with_reducible refine wpList_load_mid rfl 27 (.tmp 4) rfl w2.heap.size 0 ?hx cs _ ?hc Try.underlying27 ?hd ?hi ?_); (case hx => rfl); (case hc => exact H5.out.2.2.2.1); (case hd => rfl); (case hi => exact HV.out.2.2.2.2.2.1)) | ((with_reducible refine wpList_load_mid rfl 27 (.tmp 6) rfl w4.heap.size 0 ?hx cs _ ?hc Try.underlying27 ?hd ?hi ?_); (case hx => rfl); (case hc => exact H5.out.2.2.2.2.1); (case hd => rfl); (case hi => exact HV.out.2.2.2.2.2.1)) | fail)
  refine (sameOutputs_any _ _ l _ H5.out.2.2.2.2.2.2.1 H5.out.2.2.2.2.2.2.2).mono ?_
  rintro r w7 ⟨rfl, hb7⟩
  have H7 : Hid _ := H5.out.2.2.2.2.2.1.trans (hb7.mono H5.out.2.2.2.2.2.1.size)
  clear hb7
  go_wp2
  go_ret
  exact ⟨rfl, H7.out⟩

set_option maxHeartbeats 4000000 in
set_option maxRecDepth 100000 in
theorem tallyStories_row (v : Value) (l : List Ou) (_ : OusWf l) (hl : l.length * 56 ≤ 140737488355328) (s g : Int) (_ : (Lit.int .i64 s).wf = true) (_ : (Lit.int .i64 g).wf = true) (w : World) (hv : OsAt w v l) :
    Calls Try.prog 5 #[v, .agg #[.int .i64 s, .int .i64 g]] w fun r w' => r = .returned (.bool true) ∧ Below w.heap.size w w' := by
  obtain ⟨p, c, rfl, hc, hm⟩ := RvAt.form hv
  obtain ⟨m, e, hme⟩ : ∃ a e, storyO l s g = (a, e) := ⟨_, _, rfl⟩
  obtain ⟨W0, hW0⟩ : ∃ W0, W0 = w.alloc (.cells #[.int .i64 s, .int .i64 g] 36) := ⟨_, rfl⟩
  have hb0 : Below w.heap.size w W0 := by rw [hW0]; exact below_new w
  have hR0 : W0.heap[w.heap.size]? = some (.cells #[.int .i64 s, .int .i64 g] 36 (0, 0)) := by rw [hW0]; exact heap_alloc_new _ _
  obtain ⟨q0, q1, _, _, qlt⟩ := two_cells hR0
  have hv0 := hv.below hb0
  have HO : Hid (∀ W, Below W0.heap.size W0 W → Calls Try.prog 11 #[.slice p l.length c] W fun r w' => ∃ p1 c1, r = .returned (.slice p1 l.length c1) ∧ Hid (OsAt w' (.slice p1 l.length c1) l ∧ Below W0.heap.size W0 w') ∧ w'.cell? ⟨w.heap.size, 0, none⟩ = some (.int .i64 s) ∧ w'.cell? ⟨w.heap.size, 1, none⟩ = some (.int .i64 g)) := fun W hW => by
    refine (outputs_any _ l W (hv0.below hW) hl).mono ?_
    rintro r w' ⟨p1, c1, rfl, h1, h2⟩
    have hb := hW.trans (h2.mono hW.size)
    exact ⟨p1, c1, rfl, ⟨h1, hb⟩, (hb.cell (p := ⟨w.heap.size, 0, none⟩) qlt).trans q0, (hb.cell (p := ⟨w.heap.size, 1, none⟩) qlt).trans q1⟩
  have HS : Hid (∀ W w4 p1 c1, Hid (OsAt w4 (.slice p1 l.length c1) l ∧ Below W0.heap.size W0 w4) → Below w4.heap.size w4 W → Calls Try.prog 17 #[.slice p1 l.length c1, .agg #[.int .i64 s, .int .i64 g]] W fun r w' => ∃ p2 c2, r = .returned (.tuple #[.slice p2 m.length c2, .int .i64 e]) ∧ Hid (OsAt w' (.slice p2 m.length c2) m ∧ Below W0.heap.size W0 w')) := fun W w4 p1 c1 h4 hW => by
    refine (story_any _ l s g W (h4.out.1.below hW) hl).mono ?_
    rw [hme]
    rintro r w' ⟨p2, c2, rfl, h1, h2⟩
    have hb := hW.trans (h2.mono hW.size)
    exact ⟨p2, c2, rfl, ⟨h1, h4.out.2.trans (hb.mono h4.out.2.size)⟩⟩
  have HV : Hid (_ ∧ _ ∧ _ ∧ _ ∧ _ ∧ _) := ⟨hv0, hl, hme, hb0, hR0, hW0⟩
  clear hv hl hme hb0 hR0 hW0 hv0
  go_enter Try.func5, Try.ntmps5
  go_wp2
  rw [← HV.out.2.2.2.2.2]
  go_region_with (first | (go_at_call 11; refine (HO.out _ ?hbW).mono ?_; (case hbW => first | exact (Below.refl _ _).drew | exact Below.refl _ _); rintro r w4 ⟨p1, c1, rfl, h4, k0, k1⟩) | (go_at_call 17; refine (HS.out _ w4 p1 c1 h4 ?hbW).mono ?_; (case hbW => exact Below.refl _ _); rintro r w5 ⟨p2, c2, rfl, h5⟩))
  all_goals
    clear h4 k0 k1 q0 q1
    have hR5 := box_below HV.out.2.2.2.2.1 h5.out.2
    obtain ⟨q0, q1, _, _, qlt⟩ := two_cells hR5
    clear hR5
    go_wp2_with fail
    refine (storyOf_any _ l s g _ (HV.out.1.below h5.out.2) HV.out.2.1).mono ?_
    rw [HV.out.2.2.1]
    rintro r w6 ⟨p3, c3, rfl, h6, hb6⟩
    have H6 : Hid (_ ∧ _ ∧ _) := ⟨h6, h5.out.1.below hb6, HV.out.2.2.2.1.trans ((h5.out.2.trans (hb6.mono h5.out.2.size)).mono HV.out.2.2.2.1.size)⟩
    clear h6 hb6 q0 q1
    go_wp2_with fail
    refine (sameOutputs_any _ _ m _ H6.out.2.1 H6.out.1).mono ?_
    rintro r w7 ⟨rfl, hb7⟩
    have H7 : Hid _ := H6.out.2.2.trans (hb7.mono H6.out.2.2.size)
    clear hb7
    go_wp2
    go_ret
    exact ⟨rfl, H7.out⟩
end Go.Proofs.Ythfadekfobceaaa.Walks
