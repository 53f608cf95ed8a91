/-
  CapsEnough: caps together are more than the flows. Condition: the raw numbers can be read.
-/
import Derived.Test.YtmjdkobmklkilaaParts
import Derived.Test.YtmjdkobmklkilaaLone
import Derived.WalkKit
import Derived.ProofKit
import Derived.Handy
import Derived.LoopTactic
import Derived.Below
import Derived.Laws.BitsAllLaws
import Derived.RegionTactic
import Derived.Deep.RegionHeld3
import Derived.Deep.DrawnRows
import Derived.Deep.AppendLies
import Derived.Laws.OwnMore
import Derived.Deep.Onto
import Derived.Deep.QuietTactic
import Derived.BigQuiet
namespace Go.Proofs.Ytmjdkobmklkilaa.Walks
open Go.RowKit
set_option linter.unusedVariables false
set_option linter.unusedSimpArgs false
attribute [local go_sem ↓] Go.wp_at_zero Go.wp_at_succ

theorem caps_sum (a b c t : Int) : ∀ l : List Ld, (∀ x ∈ l, LdOk x) → (∀ x ∈ l, x.2.1 ≠ 0 → Fits a b c x.2.1 t) → a * (c + 1) * tot l ≤ (l.map (capE a b c t)).sum * (b * t)
  | [], _, _ => by simp [tot]
  | x :: l, h, hf => by
    have ih := caps_sum a b c t l (fun y hy => h y (List.mem_cons_of_mem _ hy)) (fun y hy => hf y (List.mem_cons_of_mem _ hy))
    have e1 : tot (x :: l) = x.2.1 + tot l := by simp [tot]
    have e2 : ((x :: l).map (capE a b c t)).sum = capE a b c t x + (l.map (capE a b c t)).sum := by simp
    rw [e1, e2, Int.mul_add, Int.add_mul]
    have h1 : a * (c + 1) * x.2.1 ≤ capE a b c t x * (b * t) := by
      unfold capE
      split
      case isTrue h0 => rw [h0]; simp
      case isFalse h0 => exact (capV_le (hf x (List.mem_cons_self ..) h0)).1
    omega

theorem caps_none (a b c t : Int) : ∀ l : List Ld, (∀ x ∈ l, LdOk x) → tot l = 0 → (l.map (capE a b c t)).sum = 0
  | [], _, _ => by simp
  | x :: l, h, h0 => by
    have e1 : tot (x :: l) = x.2.1 + tot l := by simp [tot]
    have h1 := (h x (List.mem_cons_self ..)).1
    have h2 := tot_bd l fun y hy => h y (List.mem_cons_of_mem _ hy)
    have ih := caps_none a b c t l (fun y hy => h y (List.mem_cons_of_mem _ hy)) (by omega)
    have hx : x.2.1 = 0 := by omega
    simp only [List.map_cons, List.sum_cons, ih]
    unfold capE
    rw [if_pos hx]
    rfl

theorem caps_enough {l : List Ld} {a b c : Int} (hok : LOk l) (hf : Fac a b c) : tot l = 0 ∧ (capsL a b c l).sum = 0 ∨ 0 < tot l ∧ c + 1 ≤ (capsL a b c l).sum := by
  have hall := okFrom_all hok.2
  have hbd := tot_bd l hall
  by_cases h0 : tot l = 0
  · exact .inl ⟨h0, caps_none a b c (tot l) l hall h0⟩
  · right
    refine ⟨by omega, ?_⟩
    have h := caps_sum a b c (tot l) l hall fun x hx hx0 => fits_of hok hf hx hx0
    unfold capsL
    generalize (l.map (capE a b c (tot l))).sum = u at *
    generalize tot l = t at *
    obtain ⟨⟨h1, h2, h3⟩, h4, h5⟩ := hf
    have m1 : b * (c + 1) ≤ a * (c + 1) := Int.mul_le_mul_of_nonneg_right h2 (by omega)
    have m2 : b * (c + 1) * t ≤ a * (c + 1) * t := Int.mul_le_mul_of_nonneg_right m1 (by omega)
    have m3 : (c + 1) * (b * t) ≤ u * (b * t) := by
      have e : b * (c + 1) * t = (c + 1) * (b * t) := by rw [Int.mul_comm b (c + 1), Int.mul_assoc]
      rw [← e]
      omega
    exact Int.le_of_mul_le_mul_right m3 (Int.mul_pos (by omega) (by omega))

theorem capE_bd {l : List Ld} {a b c : Int} (hok : LOk l) (hf : Fac a b c) {x : Ld} (hx : x ∈ l) : 0 ≤ capE a b c (tot l) x ∧ capE a b c (tot l) x ≤ 78720 ∧ (x.2.1 = 0 → capE a b c (tot l) x = 0) ∧ (x.2.1 ≠ 0 → 1 ≤ capE a b c (tot l) x) := by
  unfold capE
  split
  case isTrue h => exact ⟨by omega, by omega, fun _ => rfl, fun h' => absurd h h'⟩
  case isFalse h =>
    obtain ⟨_, _, l3, l4⟩ := capV_le (fits_of hok hf hx h)
    exact ⟨by omega, by omega, fun h' => absurd h' h, fun _ => l3⟩

theorem sum_take {m : List Int} {k : Nat} {x : Int} (h : m[k]? = some x) : (m.take (k + 1)).sum = (m.take k).sum + x := by
  obtain ⟨h1, rfl⟩ := List.getElem?_eq_some_iff.1 h
  rw [List.take_succ_eq_append_getElem h1]
  simp only [List.sum_append, List.sum_cons, List.sum_nil, Int.add_zero]

theorem sum_bd (m : List Int) (B : Int) (h : ∀ x ∈ m, 0 ≤ x ∧ x ≤ B) : 0 ≤ m.sum ∧ m.sum ≤ B * m.length := by
  induction m with
  | nil => simp
  | cons x m ih =>
    have h1 := ih fun y hy => h y (List.mem_cons_of_mem _ hy)
    have h2 := h x (List.mem_cons_self ..)
    simp only [List.sum_cons, List.length_cons]
    have e : B * ((m.length + 1 : Nat) : Int) = B * m.length + B := by rw [Int.natCast_add, Int.mul_add]; simp
    rw [e]
    omega

set_option maxHeartbeats 8000000 in
set_option maxRecDepth 100000 in
theorem enough_law (w : World) (v : Value) (raw : List Tm) (hv : TmAt w v raw) (hwf : ∀ t ∈ raw, (Lit.int .i64 t.1).wf = true ∧ (Lit.int .i64 t.2).wf = true) (hlen : raw.length ≤ 140737488351232 / 16) (a : Int) (x0 : (Lit.int .i64 a).wf = true) (b : Int) (x1 : (Lit.int .i64 b).wf = true) (c : Int) (x2 : (Lit.int .i64 c).wf = true) :
    Calls Try.prog 5 #[v, .int .i64 a, .int .i64 b, .int .i64 c] w fun r w' => r = .returned (.bool true) ∧ Below w.heap.size w w' := by
  obtain ⟨pv, cv, rfl, _, _, _⟩ := hv.parts
  obtain ⟨k1, hk1, p1⟩ := picked_some b 20 x1 (by omega) (by omega)
  obtain ⟨k0, hk0, p0⟩ := picked_some a (20 - k1) x0 (by omega) (by omega)
  obtain ⟨k2, hk2, p2⟩ := picked_some c 5 x2 (by omega) (by omega)
  rw [show ((20 - k1 : Nat) : Int) = 20 - (1 + k1) + 1 by omega] at p0
  have hok := partsL_ok raw
  have hF0 := flw_bd raw (cutK raw)
  have hcut : cutK raw ≤ 12 := Nat.min_le_right _ _
  have hP := parts_any _ raw w hv hwf
  obtain ⟨L, hL⟩ : ∃ L, L = partsL raw := ⟨_, rfl⟩
  obtain ⟨F, hF⟩ : ∃ F, F = min (flw L) 40 := ⟨_, rfl⟩
  have hFb : 0 ≤ F ∧ F ≤ 40 := by
    rw [hF, hL]
    have : partsL raw = plTo raw (cutK raw) := rfl
    rw [this]
    omega
  rw [← hL] at hok hP
  rw [← hF] at hP
  have hl12 := hok.1
  have fF : Fac (1 + (k1 : Int) + k0) (1 + k1) (min (F + k2) 40) := ⟨⟨by omega, by omega, by omega⟩, by omega, by omega⟩
  have hout : capsOut L (1 + (k1 : Int) + k0) (1 + k1) (min (F + k2) 40) = (0, capsL (1 + (k1 : Int) + k0) (1 + k1) (min (F + k2) 40) L) := by unfold capsOut; rw [if_pos (lokB_iff.2 hok), if_pos fF]
  have henough := caps_enough hok fF
  have hbd := fun x (hx : x ∈ L) => capE_bd hok fF hx
  have htot := tot_bd L (okFrom_all hok.2)
  obtain ⟨m, hm⟩ : ∃ m, m = capsL (1 + (k1 : Int) + k0) (1 + k1) (min (F + k2) 40) L := ⟨_, rfl⟩
  have hml : m.length = L.length := by rw [hm]; simp [capsL]
  have hmat : ∀ k (h : k < L.length), ∃ y, m[k]? = some y ∧ (0 ≤ y ∧ y ≤ 78720) ∧ (L[k].2.1 = 0 → y = 0) ∧ (L[k].2.1 ≠ 0 → 1 ≤ y) := fun k h => by
    obtain ⟨b1, b2, b3, b4⟩ := hbd L[k] (List.getElem_mem h)
    exact ⟨_, by rw [hm]; simp [capsL, h], ⟨b1, b2⟩, b3, b4⟩
  have hmall : ∀ x ∈ m, 0 ≤ x ∧ x ≤ 78720 := fun x hx => by
    obtain ⟨k, h1, h2⟩ := List.getElem_of_mem hx
    obtain ⟨y, e1, e2, _⟩ := hmat k (by omega)
    rw [List.getElem?_eq_getElem h1, h2] at e1
    injection e1 with e1
    subst e1
    exact e2
  have hw0 : ∀ k (h : k < L.length), 0 ≤ L[k].2.1 := fun k h => (okFrom_all hok.2 L[k] (List.getElem_mem h)).1.1
  rw [← hm] at henough hout
  have P : Hid (_ ∧ _ ∧ _ ∧ _ ∧ _) := ⟨p0, p1, p2, hP, hout⟩
  have HM : Hid (_ ∧ _ ∧ _ ∧ _) := ⟨hml, hmat, hmall, hw0⟩
  have HE : Hid _ := henough
  clear p0 p1 p2 hP hout hml hmat hmall hw0 henough hbd hm fF hF0 hL hF hok hv hwf x0 x1 x2 hlen
  obtain ⟨T, hT⟩ : ∃ T, T = tot L := ⟨_, rfl⟩
  rw [← hT] at HE P htot
  clear hT
  go_enter Try.func5, Try.ntmps5
  go_wp2_with fail
  refine P.out.2.2.2.1.mono ?_
  rintro r w1 ⟨pL, cL, rfl, ho1, hb1⟩
  have hLd : LdAt w1 (.slice pL L.length cL) L := rowAt_own ho1
  have H1 : Hid (_ ∧ _) := ⟨hLd, hb1⟩
  clear ho1 hb1 hLd
  go_wp2_with fail
  refine (P.out.2.1 _).mono ?_
  rintro r w' ⟨rfl, rfl⟩
  go_wp2_with fail
  refine (P.out.1 _).mono ?_
  rintro r w' ⟨rfl, rfl⟩
  go_wp2_with fail
  refine (P.out.2.2.1 _).mono ?_
  rintro r w1 ⟨rfl, rfl⟩
  obtain ⟨f, hf⟩ : ∃ f, f = min (F + k2) 40 := ⟨_, rfl⟩
  have hfb : 0 ≤ f ∧ f ≤ 40 := by omega
  rw [← hf] at HE P
  rcases (by omega : (F + k2 ≤ 40 ∧ f = F + k2) ∨ (40 < F + k2 ∧ f = 40)) with ⟨hm, rfl⟩ | ⟨hm, rfl⟩
  all_goals
    clear hf
    go_wp2_with fail
    refine (caps_any _ L _ _ _ _ H1.out.1).mono ?_
    rw [P.out.2.2.2.2]
    rintro r w2 hr2
    obtain ⟨p2, c2, rfl, hi2, hb2⟩ := hr2.form
    clear hr2
    have hlm := HM.out.1
    rw [show ((0 : Int), m).2.length = L.length from hlm] at hi2 ⊢
    have H2 : Hid (LdAt w2 (.slice pL L.length cL) L ∧ IntsAt w2 (.slice p2 L.length c2) m ∧ Below w.heap.size w w2) := ⟨H1.out.1.below hb2, hi2, H1.out.2.trans (hb2.mono H1.out.2.size)⟩
    clear hi2 hb2 hlm
    obtain ⟨_, _, e0, hc1, hm1, paL⟩ := H2.out.1.parts
    injection e0 with e0 _ e1
    subst e0 e1
    obtain ⟨_, _, e0, hc2, hm2, paM⟩ := H2.out.2.1.parts
    injection e0 with e0 _ e1
    subst e0 e1
    unfold maxLen at hm1 hm2
    have HQ : Hid (_ ∧ _) := ⟨paL, paM⟩
    clear paL paM
    go_wp2
    go_loopw [17, 18] (fun s i wr => ∃ (k : Nat), i = .int .i64 k ∧ s = .int .i64 (m.take k).sum ∧ k ≤ L.length ∧ w2 = wr) (fun _ i _ => L.length - (intOf i).toNat)
    case atStart => exact ⟨0, rfl, by simp, Nat.zero_le _, rfl⟩
    case round =>
      obtain ⟨k, rfl, rfl, hk, rfl⟩ := hrel
      obtain ⟨s1, s2⟩ := sum_bd (m.take k) 78720 (fun x hx => HM.out.2.2.1 x (List.mem_of_mem_take hx))
      have hkl : (m.take k).length ≤ 12 := by rw [List.length_take]; omega
      obtain ⟨s, hs⟩ : ∃ s, s = (m.take k).sum := ⟨_, rfl⟩
      rw [← hs] at s1 s2 ⊢
      have s3 : s ≤ 944640 := by omega
      clear s2 hkl
      by_cases hlt : k < L.length
      · obtain ⟨b1, o1, rfl, hb1, c1, c2, c3⟩ := HQ.out.1 k hlt
        obtain ⟨y, hy, ⟨y1, y2⟩, y3, y4⟩ := HM.out.2.1 k hlt
        obtain ⟨b2, o2, rfl, hb2, d1⟩ := HQ.out.2 k (by rw [HM.out.1]; exact hlt)
        rw [(List.getElem?_eq_some_iff.1 hy).2] at d1
        have hst := sum_take hy
        rw [← hs] at hst
        have hw0 := HM.out.2.2.2 k hlt
        have HS : Hid _ := hst
        clear hst hy hs hb1 hb2
        obtain ⟨x, hx⟩ : ∃ x, x = L[k].2.1 := ⟨_, rfl⟩
        rw [← hx] at c2 y3 y4 hw0
        clear hx c1 c3
        have hkI : (k : Int) < (L.length : Int) := by omega
        by_cases hx0 : x = 0
        · subst hx0
          obtain rfl : y = 0 := y3 rfl
          clear y3 y4 y1 y2 hw0
          go_wp2
          go_roundw
          case rel => exact ⟨k + 1, by simp, by rw [HS.out]; simp, hlt, by trivial⟩
          case measure => simp [intOf]; omega
        · have hy1 := y4 hx0
          have hxp : 0 < x := by omega
          have e1 : (x == 0) = false := by simpa using hx0
          have e2 : decide (0 < x) = true := decide_eq_true hxp
          have e3 : decide (y < 1) = false := decide_eq_false (by omega)
          clear y3 y4 hx0 hw0
          go_wp2
          go_roundw
          case rel => exact ⟨k + 1, by simp, by rw [HS.out], hlt, by trivial⟩
          case measure => simp [intOf]; omega
      · obtain rfl : k = L.length := by omega
        rw [← HM.out.1, List.take_length] at hs
        have hE := HE.out
        rw [← hs] at hE
        clear hs
        rcases hE with ⟨e1, e2⟩ | ⟨e1, e2⟩
        · subst e1 e2
          go_wp2
          go_ret
          exact ⟨rfl, H2.out.2.2⟩
        · have d1 : (T == 0) = false := by rw [beq_eq_false_iff_ne]; omega
          have d2 := decide_eq_true e2
          try (have d3 : decide ((41 : Int) ≤ s) = true := decide_eq_true (by omega))
          clear e1 e2
          go_wp2
          go_ret
          exact ⟨rfl, H2.out.2.2⟩
end Go.Proofs.Ytmjdkobmklkilaa.Walks
