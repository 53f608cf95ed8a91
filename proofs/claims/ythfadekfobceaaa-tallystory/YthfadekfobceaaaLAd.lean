/-
  TallyAdds: the law's walk. Condition: what is told can be read.
-/
import Derived.Test.YthfadekfobceaaaTld
import Derived.Test.YthfadekfobceaaaOf
import Derived.WalkKit
import Derived.ProofKit
import Derived.Handy
import Derived.LoopTactic
import Derived.Below
import Derived.Laws.BitsAllLaws
import Derived.RegionTactic
import Derived.Deep.RegionHeld3
import Derived.Deep.DrawnRows
import Derived.Deep.AppendLies
import Derived.Laws.OwnMore
import Derived.Deep.Onto
import Derived.Deep.QuietTactic
import Derived.BigQuiet
namespace Go.Proofs.Ythfadekfobceaaa.Walks
open Go.RowKit
set_option linter.unusedVariables false
set_option linter.unusedSimpArgs false
attribute [local go_sem ↓] Go.wp_at_zero Go.wp_at_succ

theorem cntAt_append (a b : List Ou) (j : Nat) : cntAt (a ++ b) j = cntAt a j + cntAt b j := by simp [cntAt, List.countP_append]

/-- So many of the first kinds. -/
def sumTo (l : List Ou) : Nat → Nat
  | 0 => 0
  | k + 1 => sumTo l k + cntAt l k

def sumW (l : List Ou) : Nat → Nat
  | 0 => 0
  | k + 1 => sumW l k + cntAt l (11 + k)

theorem sumTo_cons (o : Ou) (l : List Ou) : ∀ k, k ≤ 11 → sumTo (o :: l) k = sumTo l k + (if 0 ≤ o.kind ∧ o.kind < (k : Int) then 1 else 0)
  | 0, _ => by
    have : ¬ (0 ≤ o.kind ∧ o.kind < ((0 : Nat) : Int)) := by omega
    rw [if_neg this]
    rfl
  | k + 1, hk => by
    unfold sumTo
    rw [sumTo_cons o l k (by omega)]
    have hc : cntAt (o :: l) k = cntAt l k + (if o.kind = (k : Int) then 1 else 0) := by
      unfold cntAt
      rw [List.countP_cons]
      have : hit o k = decide (o.kind = (k : Int)) := by simp [hit, show k < 11 by omega]; rfl
      rw [this]
      simp
    rw [hc]
    by_cases h1 : o.kind = (k : Int)
    · rw [if_pos h1, if_neg (by omega), if_pos (by omega)]
      omega
    · rw [if_neg h1]
      by_cases h2 : 0 ≤ o.kind ∧ o.kind < (k : Int)
      · rw [if_pos h2, if_pos (by omega)]
        omega
      · rw [if_neg h2, if_neg (by omega)]
        omega

theorem sumTo_all : ∀ {l : List Ou}, (∀ o ∈ l, Fine o) → sumTo l 11 = l.length
  | [], _ => by simp [sumTo, cntAt]
  | o :: l, h => by
    have ho := h o (by simp)
    rw [sumTo_cons o l 11 (by omega), sumTo_all (fun p hp => h p (by simp [hp])), if_pos (by omega)]
    rfl

theorem sumW_cons (o : Ou) (l : List Ou) : ∀ k, sumW (o :: l) k = sumW l k + (if o.kind = 6 ∧ 0 ≤ o.why ∧ o.why < (k : Int) then 1 else 0)
  | 0 => by
    have : ¬ (o.kind = 6 ∧ 0 ≤ o.why ∧ o.why < ((0 : Nat) : Int)) := by omega
    rw [if_neg this]
    rfl
  | k + 1 => by
    unfold sumW
    rw [sumW_cons o l k]
    have hc : cntAt (o :: l) (11 + k) = cntAt l (11 + k) + (if o.kind = 6 ∧ o.why = (k : Int) then 1 else 0) := by
      unfold cntAt
      rw [List.countP_cons]
      have : hit o (11 + k) = decide (o.kind = 6 ∧ o.why = (k : Int)) := by
        rw [hit, if_neg (by omega), Nat.add_sub_cancel_left]
        simp
        rfl
      rw [this]
      simp
    rw [hc]
    by_cases h1 : o.kind = 6 ∧ o.why = (k : Int)
    · rw [if_pos h1, if_neg (by omega), if_pos (by omega)]
      omega
    · rw [if_neg h1]
      by_cases h2 : o.kind = 6 ∧ 0 ≤ o.why ∧ o.why < (k : Int)
      · rw [if_pos h2, if_pos (by omega)]
        omega
      · rw [if_neg h2, if_neg (by omega)]
        omega

theorem sumW_all : ∀ {l : List Ou}, (∀ o ∈ l, Fine o) → sumW l 6 = cntAt l 6
  | [], _ => by simp [sumW, cntAt]
  | o :: l, h => by
    have ho := h o (by simp)
    rw [sumW_cons o l 6, sumW_all (fun p hp => h p (by simp [hp]))]
    unfold cntAt
    rw [List.countP_cons]
    have : hit o 6 = decide (o.kind = 6) := by simp [hit]; rfl
    rw [this]
    by_cases h6 : o.kind = 6
    · rw [if_pos ⟨h6, by omega⟩]
      simp [h6]
    · rw [if_neg (by omega)]
      simp [h6]

theorem append_none {P : Program} (w : World) (t ty e : TypeId) (i : TypeInfo) (ht : P.underlying t = some (.slice e)) (hi : P.info? e = some i) (q : Option Addr) (n d : Nat) (hn : n ≤ d) (hd : d ≤ maxLen) (p : Option Addr) (c : Nat) :
    (Builtin.append_ #[t, t] ty #[.slice q n d, .slice p 0 c]).run P w = .ok (.slice q n d) w := by
  unfold maxLen at hd
  have h1 : ¬ (9223372036854775807 < n) := by omega
  cases p <;> cases q <;> simp [Builtin.append_, run_underlying ht, sizeOf, typeInfo, hi, Builtin.firstCells, Builtin.lenOf, loadCells, loadCellsFrom, hn, h1, storeCells]

/-- All of another list of outputs behind one's own, also none: the run. -/
theorem append_outs {w : World} {base : Nat} {p : Option Addr} {k c : Nat} {m l : List Ou} (ho : w.ownsRow base 48 7 (.slice p k c) k (rv ouV m)) (hb : base ≤ w.heap.size) (hk : k ≤ 1000) (ty : TypeId) (u : Value) (hu : OsAt w u l) (hl : l.length ≤ 1000) :
    ∃ p' c' w', (Builtin.append_ #[22, 22] ty #[.slice p k c, u]).run Try.prog w = .ok (.slice p' (k + l.length) c') w' ∧
      w'.ownsRow base 48 7 (.slice p' (k + l.length) c') (k + l.length) (rv ouV (m ++ l)) ∧ Below base w w' := by
  obtain ⟨i0, hi, hz0, hz1, hz2⟩ := info_parts infoOu
  by_cases h0 : l.length = 0
  · obtain ⟨a, cap, rfl, hc, hm⟩ := RvAt.form hu
    obtain rfl : l = [] := List.length_eq_zero_iff.1 h0
    rw [List.append_nil]
    have hkc : k ≤ c ∧ c ≤ maxLen := by
      rcases ho.2 with ⟨he, h2⟩ | ⟨g, cap, cur, he, _, _, h5, h6, _⟩
      · cases he; exact ⟨Nat.le_refl _, by unfold maxLen; omega⟩
      · cases he; exact ⟨h5, h6⟩
    exact ⟨p, c, w, append_none w _ ty _ i0 Try.underlying22 hi p k c hkc.1 hkc.2 a cap, ho, Below.refl _ _⟩
  · obtain ⟨g, c', w', hr, ho', hg, _⟩ := append_allV ou7 ou1 (by decide) Try.underlying22 infoOu rfl ho hb ty u l hu (by omega) (by omega) (by unfold maxLen; omega)
    exact ⟨_, c', w', hr, ho', (Below.refl _ _).grown hg hb (fun j e => (ho.lt j e).1)⟩

/-- Of, behind which the counts are laid in a box of their own: the box. -/
structure Boxed (w : World) (xs : List Int) (w3 : World) : Prop where
  there : (w.alloc (.cells (icells (List.replicate 17 0)).toArray 27)).there w.heap.size 0 (icells xs).toArray.size
  info : (Try.prog.info? 27).map (·.size) = some (icells xs).toArray.size
  one : (icells xs).toArray.all (·.oneCell') = true
  is : w3 = (w.alloc (.cells (icells (List.replicate 17 0)).toArray 27)).setCells w.heap.size 0 (icells xs)
  arr : Arr 27 17 w3 w.heap.size xs
  bel : Below w.heap.size w w3

theorem boxed (w : World) (xs : List Int) (h : xs.length = 17) : ∃ w3, Boxed w xs w3 := by
  have hA2 : Arr 27 17 (w.alloc (.cells (icells (List.replicate 17 0)).toArray 27)) w.heap.size (List.replicate 17 0) := ⟨heap_alloc_new _ _, by simp⟩
  have hb2 : Below w.heap.size w (w.alloc (.cells (icells (List.replicate 17 0)).toArray 27)) := below_new w
  refine ⟨_, ⟨?_, ?_, ?_, rfl, (hA2.store (P := Try.prog) (b := xs) h infoC).2, below_setCells hb2 (Nat.le_refl _) _ _ hb2.size⟩⟩
  · simp [icells_len, h]
    exact hA2.there
  · rw [infoC]
    simp [icells_len, h]
  · exact all_oneCell_toArray (icells_one xs)

theorem ofO_fine {l : List Ou} (h : ∀ o ∈ l, Fine o) : ofO l = (cntL l, 0) := by
  unfold ofO
  rw [(fine_ok h).1]
  rfl

theorem sumTo_le (l : List Ou) : ∀ k, k ≤ 11 → sumTo l k ≤ l.length * 11
  | 0, _ => by simp [sumTo]
  | k + 1, hk => by
    have h1 : ∀ k, k ≤ 11 → sumTo l k ≤ l.length * k := by
      intro k
      induction k with
      | zero => intro _; simp [sumTo]
      | succ k ih =>
        intro hk
        have := ih (by omega)
        have := cntAt_le l k
        rw [sumTo, Nat.mul_succ]
        omega
    exact Nat.le_trans (h1 (k + 1) hk) (Nat.mul_le_mul_left _ hk)

theorem sumW_le (l : List Ou) : ∀ k, k ≤ 6 → sumW l k ≤ l.length * 6
  | 0, _ => by simp [sumW]
  | k + 1, hk => by
    have h1 : ∀ k, k ≤ 6 → sumW l k ≤ l.length * k := by
      intro k
      induction k with
      | zero => intro _; simp [sumW]
      | succ k ih =>
        intro hk
        have := ih (by omega)
        have := cntAt_le l (11 + k)
        rw [sumW, Nat.mul_succ]
        omega
    exact Nat.le_trans (h1 (k + 1) hk) (Nat.mul_le_mul_left _ hk)

theorem toL_both {x y : List To} : ∀ o ∈ toL x ++ toL y, Fine o := by
  intro o ho
  rcases List.mem_append.1 ho with h | h
  · exact toL_fine x o h
  · exact toL_fine y o h

set_option maxHeartbeats 8000000 in
set_option maxRecDepth 100000 in
theorem tallyAdds_row (v0 : Value) (l0 : List To) (wf0 : ∀ o ∈ l0, ToWf o) (v1 : Value) (l1 : List To) (wf1 : ∀ o ∈ l1, ToWf o) (w : World) (hv0 : RvAt toV w v0 l0) (hv1 : RvAt toV w v1 l1) :
    Calls Try.prog 7 #[v0, v1] w fun r w' => r = .returned (.bool true) ∧ Below w.heap.size w w' := by
  obtain ⟨p0, c0, rfl, hc0, hm0⟩ := RvAt.form hv0
  obtain ⟨p1, c1, rfl, hc1, hm1⟩ := RvAt.form hv1
  have HV : Hid (_ ∧ _ ∧ _ ∧ _) := ⟨hv0, hv1, wf0, wf1⟩
  clear hv0 hv1 wf0 wf1
  have hla := toL_len l0
  have hlb := toL_len l1
  have hfa := toL_fine l0
  have hfb := toL_fine l1
  have hfab := toL_both (x := l0) (y := l1)
  have HT0 : Hid _ := fun (W : World) (hW : Below w.heap.size w W) => tolds_any _ l0 W (HV.out.1.below hW) HV.out.2.2.1
  have HT1 : Hid _ := fun (W : World) (hW : Below w.heap.size w W) => tolds_any _ l1 W (HV.out.2.1.below hW) HV.out.2.2.2
  generalize toL l0 = a at hla hfa hfab HT0
  generalize toL l1 = b at hlb hfb hfab HT1
  have HF : Hid (_ ∧ _ ∧ _) := ⟨hfa, hfb, hfab⟩
  clear hfa hfb hfab
  go_enter Try.func7, Try.ntmps7
  go_wp2_with fail
  refine (HT0.out _ (Below.refl _ _)).mono ?_
  rintro r w1 ⟨q1, d1, rfl, h1, hb1⟩
  have H1 : Hid (_ ∧ _) := ⟨h1, hb1⟩
  clear h1 hb1
  go_wp2_with fail
  refine (HT1.out _ H1.out.2).mono ?_
  rintro r w2 ⟨q2, d2, rfl, h2, hb2⟩
  have H2 : Hid (_ ∧ _ ∧ _) := ⟨H1.out.1.below hb2, h2, H1.out.2.trans (hb2.mono H1.out.2.size)⟩
  clear h2 hb2 H1
  go_wp2_with fail
  refine (of_any _ a _ H2.out.1).mono ?_
  rw [ofO_fine HF.out.1]
  rintro r w3 ⟨rfl, hb3⟩
  obtain ⟨W3, hx3⟩ := boxed w3 (cntL a) (cntL_len a)
  have HX3 : Hid _ := hx3
  have h3 := hb3.trans (hx3.bel.mono hb3.size)
  have H3 : Hid (_ ∧ _ ∧ _) := ⟨H2.out.1.below h3, H2.out.2.1.below h3, H2.out.2.2.trans (h3.mono H2.out.2.2.size)⟩
  clear hx3 h3 hb3 H2
  go_wp2_with (first | ((with_reducible refine wpList_store_mid rfl 27 (.tmp 7) (.tmp 24) rfl w3.heap.size 0 (icells (cntL a)).toArray ?hx ?hy ?ht ?hi ?h1 ?_); (case hx => rfl); (case hy => rfl); (case ht => rw [zeros17]; exact HX3.out.there); (case hi => exact HX3.out.info); (case h1 => exact HX3.out.one); rw [zeros17, show (icells (cntL a)).toArray.toList = icells (cntL a) from rfl, ← HX3.out.is]) | fail)
  refine (of_any _ b _ H3.out.2.1).mono ?_
  rw [ofO_fine HF.out.2.1]
  rintro r w4 ⟨rfl, hb4⟩
  obtain ⟨W4, hx4⟩ := boxed w4 (cntL b) (cntL_len b)
  have HX4 : Hid _ := hx4
  have h4 := hb4.trans (hx4.bel.mono hb4.size)
  have H4 : Hid (_ ∧ _ ∧ _ ∧ _) := ⟨H3.out.1.below h4, H3.out.2.1.below h4, H3.out.2.2.trans (h4.mono H3.out.2.2.size), HX3.out.arr.below h4⟩
  clear hx4 h4 hb4 H3
  obtain ⟨p5, c5, w5, hr5, ho5, hb5⟩ := append_copyV ou7 ou1 (by decide) Try.underlying22 infoOu rfl W4 22 _ a H4.out.1 (by omega) (by unfold maxLen; omega)
  obtain ⟨p6, c6, w6, hr6, ho6, hb6⟩ := append_outs ho5 hb5.size (by omega) 22 _ (H4.out.2.1.below hb5) (by omega)
  have hb46 := hb5.trans hb6
  have hab : OsAt w6 (.slice p6 (a.length + b.length) c6) (a ++ b) := by
    show RowAt _ _ (a ++ b).length _
    rw [List.length_append]
    exact rowAt_own ho6
  have H6 : Hid (_ ∧ _ ∧ _ ∧ _ ∧ _ ∧ _) := ⟨hr5, hr6, hab, H4.out.2.2.1.trans (hb46.mono H4.out.2.2.1.size), H4.out.2.2.2.below hb46, HX4.out.arr.below hb46⟩
  clear hr5 hr6 ho5 ho6 hb5 hb6 hb46 H4 hab
  go_wp2_with (first | ((with_reducible refine wpList_store_mid rfl 27 (.tmp 9) (.tmp 29) rfl w4.heap.size 0 (icells (cntL b)).toArray ?hx ?hy ?ht ?hi ?h1 ?_); (case hx => rfl); (case hy => rfl); (case ht => rw [zeros17]; exact HX4.out.there); (case hi => exact HX4.out.info); (case h1 => exact HX4.out.one); rw [zeros17, show (icells (cntL b)).toArray.toList = icells (cntL b) from rfl, ← HX4.out.is]) | (at_builtin; (with_reducible refine wpList_append_eq rfl _ _ 22 rfl (.slice none 0 0) (.slice q1 a.length d1) (.slice p5 a.length c5) w5 ?hs ?hx ?hr ?_); (case hs => rfl); (case hx => rfl); (case hr => exact H6.out.1)) | (at_builtin; (with_reducible refine wpList_append_eq rfl _ _ 22 rfl (.slice p5 a.length c5) (.slice q2 b.length d2) (.slice p6 (a.length + b.length) c6) w6 ?hs ?hx ?hr ?_); (case hs => rfl); (case hx => rfl); (case hr => exact H6.out.2.1)) | fail)
  refine (of_any _ (a ++ b) _ H6.out.2.2.1).mono ?_
  rw [ofO_fine HF.out.2.2]
  rintro r w7 ⟨rfl, hb7⟩
  obtain ⟨W7, hx7⟩ := boxed w7 (cntL (a ++ b)) (cntL_len _)
  have HX7 : Hid _ := hx7
  have h7 := hb7.trans (hx7.bel.mono hb7.size)
  have H7 : Hid (_ ∧ _ ∧ _ ∧ _) := ⟨H6.out.2.2.2.1.trans (h7.mono H6.out.2.2.2.1.size), H6.out.2.2.2.2.1.below h7, H6.out.2.2.2.2.2.below h7, hx7.arr⟩
  clear hx7 h7 hb7 H6
  go_wp2_with (first | ((with_reducible refine wpList_store_mid rfl 27 (.tmp 11) (.tmp 37) rfl w7.heap.size 0 (icells (cntL (a ++ b))).toArray ?hx ?hy ?ht ?hi ?h1 ?_); (case hx => rfl); (case hy => rfl); (case ht => rw [zeros17]; exact HX7.out.there); (case hi => exact HX7.out.info); (case h1 => exact HX7.out.one); rw [zeros17, show (icells (cntL (a ++ b))).toArray.toList = icells (cntL (a ++ b)) from rfl, ← HX7.out.is]) | fail)
  go_loopw [13, 14] (fun sm t wr => ∃ (k q : Nat), t = .int .i64 k ∧ k ≤ 11 ∧ sm = .int .i64 (sumTo (a ++ b) k : Nat) ∧ wr = W7.drewN q) (fun _ t _ => 11 - (intOf t).toNat)
  case atStart => exact ⟨0, 0, rfl, Nat.zero_le _, rfl, rfl⟩
  case round =>
    obtain ⟨k, q, rfl, hk, rfl, rfl⟩ := hrel
    by_cases hlt : k < 11
    · have hkI : (k : Int) < 11 := by omega
      have ka := H7.out.2.1.cell k (by rw [cntL_len]; omega)
      have kb := H7.out.2.2.1.cell k (by rw [cntL_len]; omega)
      have kab := H7.out.2.2.2.cell k (by rw [cntL_len]; omega)
      rw [cntL_at _ _ (by omega)] at ka kb kab
      have hca := cntAt_append a b k
      have ha := cntAt_le a k
      have hb := cntAt_le b k
      have hst : sumTo (a ++ b) (k + 1) = sumTo (a ++ b) k + cntAt (a ++ b) k := rfl
      have hsb := sumTo_le (a ++ b) k hk
      rw [hca] at kab hst
      obtain ⟨x, hx⟩ : ∃ x, x = cntAt a k := ⟨_, rfl⟩
      obtain ⟨y, hy⟩ : ∃ y, y = cntAt b k := ⟨_, rfl⟩
      obtain ⟨z, hz⟩ : ∃ z, z = sumTo (a ++ b) k := ⟨_, rfl⟩
      rw [← hx] at ka kab ha hst
      rw [← hy] at kb kab hb hst
      rw [← hz] at hst hsb
      rw [← hz]
      rw [Int.natCast_add] at kab
      have hw : IntKind.i64.wrap ((x : Int) + (y : Int)) = (x : Int) + (y : Int) := by rw [IntKind.wrap_i64]; omega
      rw [List.length_append] at hsb
      have HS : Hid _ := hst
      clear hst hca hx hy hz
      go_wp2
      refine wp_region_quiet_lit (by kernel_rfl) (by kernel_rfl) ?_
      repeat (first | go_big_quiet_skip | quiet_step (fail))
      refine wpQuiet_nil ?_
      intro _ hw'
      obtain ⟨nq, hw''⟩ := hw'
      subst hw''
      go_wp2
      go_roundw
      case rel => exact ⟨k + 1, q + nq, by simp, hlt, by rw [HS.out]; simp, by simp [World.drewN, Nat.add_assoc]⟩
      case measure => simp [intOf]; omega
    · have hkd : ¬ ((k : Int) < 11) := by omega
      have hS : sumTo (a ++ b) k = a.length + b.length := by rw [show k = 11 by omega, sumTo_all HF.out.2.2, List.length_append]
      rw [hS]
      clear hS
      go_wp2
      go_loopw [15, 16] (fun sm t wr => ∃ (k q : Nat), t = .int .i64 k ∧ k ≤ 6 ∧ sm = .int .i64 (sumW (a ++ b) k : Nat) ∧ wr = W7.drewN q) (fun _ t _ => 6 - (intOf t).toNat)
      case atStart => exact ⟨0, q, rfl, Nat.zero_le _, rfl, rfl⟩
      case round =>
        obtain ⟨k, q, rfl, hk, rfl, rfl⟩ := hrel
        by_cases hlt : k < 6
        · have hkI : (k : Int) < 6 := by omega
          have ka := H7.out.2.1.cell (11 + k) (by rw [cntL_len]; omega)
          have kb := H7.out.2.2.1.cell (11 + k) (by rw [cntL_len]; omega)
          have kab := H7.out.2.2.2.cell (11 + k) (by rw [cntL_len]; omega)
          rw [cntL_at _ _ (by omega)] at ka kb kab
          have hca := cntAt_append a b (11 + k)
          have ha := cntAt_le a (11 + k)
          have hb := cntAt_le b (11 + k)
          have hst : sumW (a ++ b) (k + 1) = sumW (a ++ b) k + cntAt (a ++ b) (11 + k) := rfl
          have hsb := sumW_le (a ++ b) k hk
          rw [hca] at kab hst
          obtain ⟨x, hx⟩ : ∃ x, x = cntAt a (11 + k) := ⟨_, rfl⟩
          obtain ⟨y, hy⟩ : ∃ y, y = cntAt b (11 + k) := ⟨_, rfl⟩
          obtain ⟨z, hz⟩ : ∃ z, z = sumW (a ++ b) k := ⟨_, rfl⟩
          rw [← hx] at ka kab ha hst
          rw [← hy] at kb kab hb hst
          rw [← hz] at hst hsb
          rw [← hz]
          rw [Int.natCast_add] at kab
          have hw : IntKind.i64.wrap ((x : Int) + (y : Int)) = (x : Int) + (y : Int) := by rw [IntKind.wrap_i64]; omega
          rw [List.length_append] at hsb
          have HS : Hid _ := hst
          clear hst hca hx hy hz
          go_wp2
          refine wp_region_quiet_lit (by kernel_rfl) (by kernel_rfl) ?_
          repeat (first | go_big_quiet_skip | quiet_step (fail))
          refine wpQuiet_nil ?_
          intro _ hw'
          obtain ⟨nq, hw''⟩ := hw'
          subst hw''
          go_wp2
          go_roundw
          case rel => exact ⟨k + 1, q + nq, by simp, hlt, by rw [HS.out]; simp, by simp [World.drewN, Nat.add_assoc]⟩
          case measure => simp [intOf]; omega
        · have hkd : ¬ ((k : Int) < 6) := by omega
          have hW : sumW (a ++ b) k = cntAt (a ++ b) 6 := by rw [show k = 6 by omega]; exact sumW_all HF.out.2.2
          have k6 := H7.out.2.2.2.cell 6 (by rw [cntL_len]; omega)
          rw [cntL_at _ _ (by omega)] at k6
          rw [hW]
          generalize cntAt (a ++ b) 6 = z6 at k6
          clear hW
          go_wp2
          go_ret
          exact ⟨by simp, below_drewN H7.out.1 _⟩
end Go.Proofs.Ythfadekfobceaaa.Walks
