/-
  TallyBy: the law's walk. Condition: what is told can be read.
-/
import Derived.Test.YthfadekfobceaaaTld
import Derived.Test.YthfadekfobceaaaBy
import Derived.WalkKit
import Derived.ProofKit
import Derived.Handy
import Derived.LoopTactic
import Derived.Below
import Derived.Laws.BitsAllLaws
import Derived.RegionTactic
import Derived.Deep.RegionHeld3
import Derived.Deep.DrawnRows
import Derived.Deep.AppendLies
import Derived.Laws.OwnMore
import Derived.Deep.Onto
import Derived.Deep.QuietTactic
import Derived.BigQuiet
namespace Go.Proofs.Ythfadekfobceaaa.Walks
open Go.RowKit
set_option linter.unusedVariables false
set_option linter.unusedSimpArgs false
attribute [local go_sem ↓] Go.wp_at_zero Go.wp_at_succ

def isH (s g : Int) (o : Ou) : Bool := decide (o.slot = s) && decide (o.gen = g)

def liveB (l : List Ou) (s g : Int) : Bool := (lasts l).any (isH s g)

theorem any_filter {l : List Ou} {s g : Int} {o : Ou} : (l.filter fun p => !fits o p).any (isH s g) = (l.any (isH s g) && !(isH s g o)) := by
  induction l with
  | nil => simp
  | cons q l ih =>
    rw [List.filter_cons]
    by_cases hf : fits o q = true
    · rw [if_neg (by simp [hf]), ih, List.any_cons]
      have hq := fits_iff.1 hf
      have : isH s g q = isH s g o := by simp [isH, hq.1, hq.2]
      rw [this]
      cases isH s g o <;> simp
    · rw [if_pos (by simpa using hf), List.any_cons, List.any_cons, ih]
      cases hq : isH s g q
      · simp
      · have : isH s g o = false := by
          cases ho : isH s g o
          · rfl
          · exfalso
            apply hf
            simp [isH] at hq ho
            exact fits_iff.2 ⟨by rw [hq.1, ho.1], by rw [hq.2, ho.2]⟩
        rw [this]
        simp

theorem liveB_snoc (l : List Ou) (o : Ou) (s g : Int) : liveB (l ++ [o]) s g = if isH s g o then (if isUp o then true else if isDown o then false else liveB l s g) else liveB l s g := by
  unfold liveB
  cases hu : isUp o
  · cases hd : isDown o
    · rw [lasts_snoc_no o hu hd]
      simp
    · rw [lasts_snoc_down o hu hd, any_filter]
      cases isH s g o <;> simp
  · rw [lasts_snoc_up o hu, List.any_append, any_filter]
    cases h : isH s g o <;> simp [h]

/-- How many of some handles are live. -/
def wantTo (l : List Ou) (k : Nat) : Nat := (List.range k).countP fun i => liveB l ((i / 2 : Nat) : Int) ((i % 2 : Nat) : Int)

theorem wantTo_succ (l : List Ou) (s g : Nat) (hg : g < 2) : wantTo l (s * 2 + g + 1) = wantTo l (s * 2 + g) + (if liveB l (s : Int) (g : Int) then 1 else 0) := by
  unfold wantTo
  rw [List.range_succ, List.countP_append, List.countP_cons, List.countP_nil]
  have h1 : (s * 2 + g) / 2 = s := by omega
  have h2 : (s * 2 + g) % 2 = g := by omega
  rw [h1, h2]
  simp

theorem wantTo_le (l : List Ou) (k : Nat) : wantTo l k ≤ k := by
  unfold wantTo
  have := List.countP_le_length (p := fun i : Nat => liveB l ((i / 2 : Nat) : Int) ((i % 2 : Nat) : Int)) (l := List.range k)
  simpa using this

/-- Each one that lives is one of the handles. -/
theorem wantM : ∀ (M : List Ou), (M.Pairwise fun p q => ¬ (p.slot = q.slot ∧ p.gen = q.gen)) → (∀ o ∈ M, Fine o) → ((List.range 6).countP fun i => M.any (isH ((i / 2 : Nat) : Int) ((i % 2 : Nat) : Int))) = M.length
  | [], _, _ => by simp
  | o :: M, hp, hf => by
    obtain ⟨ho, hp⟩ := List.pairwise_cons.1 hp
    have ih := wantM M hp (fun p h => hf p (by simp [h]))
    obtain ⟨_, ⟨s0, s3⟩, ⟨g0, g2⟩, _⟩ := hf o (by simp)
    obtain ⟨s, hs⟩ := Int.eq_ofNat_of_zero_le s0
    obtain ⟨g, hg⟩ := Int.eq_ofNat_of_zero_le g0
    have hno : M.any (isH (s : Int) (g : Int)) = false := by
      refine List.any_eq_false.2 fun p hpm hh => ?_
      simp [isH] at hh
      exact ho p hpm ⟨by rw [hs, hh.1], by rw [hg, hh.2]⟩
    have hs3 : s < 3 := by omega
    have hg2 : g < 2 := by omega
    have hrange : List.range 6 = [0, 1, 2, 3, 4, 5] := rfl
    rw [hrange] at ih ⊢
    simp only [List.any_cons, List.length_cons]
    have hi : ∀ i : Nat, isH ((i / 2 : Nat) : Int) ((i % 2 : Nat) : Int) o = decide (i = s * 2 + g) := by
      intro i
      simp only [isH, hs, hg]
      by_cases e : i = s * 2 + g
      · have : i / 2 = s ∧ i % 2 = g := by omega
        simp [this.1, this.2, e]
        omega
      · have : ¬ ((s : Int) = ((i / 2 : Nat) : Int) ∧ (g : Int) = ((i % 2 : Nat) : Int)) := by omega
        rw [decide_eq_false e]
        simp only [Bool.and_eq_false_iff, decide_eq_false_iff_not]
        omega
    simp only [hi]
    have hm : M.any (isH (((s * 2 + g) / 2 : Nat) : Int) (((s * 2 + g) % 2 : Nat) : Int)) = false := by
      rw [show (s * 2 + g) / 2 = s by omega, show (s * 2 + g) % 2 = g by omega]
      exact hno
    have hlt : s * 2 + g < 6 := by omega
    obtain ⟨A, hA⟩ : ∃ A : Nat → Bool, ∀ i : Nat, M.any (isH ((i / 2 : Nat) : Int) ((i % 2 : Nat) : Int)) = A i := ⟨_, fun _ => rfl⟩
    simp only [hA] at hm ih ⊢
    generalize s * 2 + g = t at hm hlt
    rw [← ih]
    simp only [List.countP_cons, List.countP_nil]
    have ht : t = 0 ∨ t = 1 ∨ t = 2 ∨ t = 3 ∨ t = 4 ∨ t = 5 := by omega
    rcases ht with rfl | rfl | rfl | rfl | rfl | rfl <;> simp [hm] <;> omega

/-- So many at the first backends. -/
def sumB (M : List Ou) (k : Nat) : Nat := M.countP fun o => decide (o.be < (k : Int))

theorem sumB_zero {M : List Ou} (h : ∀ o ∈ M, Fine o) : sumB M 0 = 0 := by
  unfold sumB
  rw [List.countP_eq_zero]
  intro o ho
  have := h o ho
  simp
  omega

theorem sumB_all {M : List Ou} (h : ∀ o ∈ M, Fine o) : sumB M 12 = M.length := by
  unfold sumB
  rw [List.countP_eq_length]
  intro o ho
  have := h o ho
  simp
  omega

theorem sumB_succ (k : Nat) : ∀ M : List Ou, sumB M (k + 1) = sumB M k + M.countP (fun o => o.be == (k : Int))
  | [] => rfl
  | o :: M => by
    have ih := sumB_succ k M
    unfold sumB at ih ⊢
    rw [List.countP_cons, List.countP_cons, List.countP_cons, ih]
    by_cases h1 : o.be = (k : Int)
    · have e1 : decide (o.be < ((k + 1 : Nat) : Int)) = true := decide_eq_true (by omega)
      have e2 : decide (o.be < (k : Int)) = false := decide_eq_false (by omega)
      rw [e1, e2]
      simp [h1]
      omega
    · have e2 : (o.be == (k : Int)) = false := by simpa using h1
      rw [e2]
      by_cases h2 : o.be < (k : Int)
      · have e1 : decide (o.be < ((k + 1 : Nat) : Int)) = true := decide_eq_true (by omega)
        rw [e1, decide_eq_true h2]
        simp
        omega
      · have e1 : decide (o.be < ((k + 1 : Nat) : Int)) = false := decide_eq_false (by omega)
        rw [e1, decide_eq_false h2]
        simp

theorem lasts_fine {l : List Ou} (h : ∀ o ∈ l, Fine o) : ∀ o ∈ lasts l, Fine o := fun o ho => h o (lasts_mem ho).1

theorem want_is {l : List Ou} (h : ∀ o ∈ l, Fine o) : wantTo l 6 = (lasts l).length := wantM (lasts l) (lasts_apart l) (lasts_fine h)

theorem byL_at (l : List Ou) (b : Nat) (hb : b < 12) : (byL l)[b]'(by rw [byL_len]; exact hb) = (((lasts l).countP (fun o => o.be == (b : Int)) : Nat) : Int) := by simp [byL]

theorem byO_fine {l : List Ou} (h : ∀ o ∈ l, Fine o) : byO l = (byL l, 0) := by
  unfold byO
  rw [(fine_ok h).1, (fine_ok h).2]
  rfl

set_option maxHeartbeats 8000000 in
set_option maxRecDepth 100000 in
theorem tallyBy_row (v0 : Value) (l0 : List To) (wf0 : ∀ o ∈ l0, ToWf o) (w : World) (hv0 : RvAt toV w v0 l0) :
    Calls Try.prog 9 #[v0] w fun r w' => r = .returned (.bool true) ∧ Below w.heap.size w w' := by
  obtain ⟨p0, c0, rfl, hc0, hm0⟩ := RvAt.form hv0
  have hla := toL_len l0
  have hfa := toL_fine l0
  have HT0 : Hid _ := tolds_any _ l0 w hv0 wf0
  generalize toL l0 = l at hla hfa HT0
  have HF : Hid _ := hfa
  clear hfa hv0 wf0
  go_enter Try.func9, Try.ntmps9
  go_wp2_with fail
  refine Calls.mono HT0.out ?_
  rintro r w1 ⟨q1, d1, rfl, h1, hb1⟩
  have H1 : Hid (_ ∧ _) := ⟨h1, hb1⟩
  clear h1 hb1
  go_wp2_with fail
  refine (by_any _ l _ H1.out.1 (fun o ho => fine_wf (HF.out o ho))).mono ?_
  rw [byO_fine HF.out]
  rintro r w2 ⟨q2, d2, rfl, h2, hb2⟩
  dsimp only at h2
  obtain ⟨a2, cap2, e2, hc2, hm2, pv2⟩ := InAt.parts h2
  obtain ⟨a1, cap1, e1, hc1, hm1, pv1⟩ := OsAt.parts (H1.out.1.below hb2)
  cases e1
  cases e2
  unfold maxLen at hm1 hm2
  have H2 : Hid (_ ∧ _ ∧ _) := ⟨pv1, pv2, H1.out.2.trans (hb2.mono H1.out.2.size)⟩
  clear h2 hb2 pv1 pv2
  have h12 := byL_len l
  dsimp only
  rw [h12] at hc2 ⊢
  have HL12 : Hid _ := h12
  clear h12
  go_wp2
  go_loopw [6, 7] (fun sm t wr => ∃ k : Nat, t = .int .i64 k ∧ k ≤ 12 ∧ sm = .int .i64 (sumB (lasts l) k : Nat) ∧ w2 = wr) (fun _ t _ => 12 - (intOf t).toNat)
  case atStart => exact ⟨0, rfl, Nat.zero_le _, by rw [sumB_zero (lasts_fine HF.out)]; rfl, rfl⟩
  case round =>
    obtain ⟨k, rfl, hk, rfl, rfl⟩ := hrel
    by_cases hlt : k < 12
    · have hkI : (k : Int) < 12 := by omega
      obtain ⟨b2, o2, hp2, hlt2, c2⟩ := H2.out.2.1 k (by rw [HL12.out]; exact hlt)
      subst hp2
      rw [byL_at l k hlt] at c2
      have hst := sumB_succ k (lasts l)
      have hle : sumB (lasts l) (k + 1) ≤ 60 := Nat.le_trans List.countP_le_length (Nat.le_trans (lasts_len l) hla)
      rw [hst] at hle
      generalize (lasts l).countP (fun o => o.be == (k : Int)) = z at c2 hst hle
      generalize sumB (lasts l) k = y at hst hle
      have HS : Hid _ := hst
      clear hst
      go_wp2
      go_roundw
      case rel => exact ⟨k + 1, by simp, hlt, by rw [HS.out]; simp, trivial⟩
      case measure => simp [intOf]; omega
    · have hkd : ¬ ((k : Int) < 12) := by omega
      have hS : sumB (lasts l) k = (lasts l).length := by rw [show k = 12 by omega]; exact sumB_all (lasts_fine HF.out)
      rw [hS]
      clear hS
      go_wp2
      go_loopw [8, 9] (fun wt t wr => ∃ s : Nat, t = .int .i64 s ∧ s ≤ 3 ∧ wt = .int .i64 (wantTo l (s * 2) : Nat) ∧ w2 = wr) (fun _ t _ => 3 - (intOf t).toNat)
      case atStart => exact ⟨0, rfl, Nat.zero_le _, rfl, rfl⟩
      case round =>
        obtain ⟨s, rfl, hs3, rfl, rfl⟩ := hrel
        by_cases hslt : s < 3
        · have hsI : (s : Int) < 3 := by omega
          go_wp2
          go_loopw [8, 10] (fun wt t wr => ∃ g : Nat, t = .int .i64 g ∧ g ≤ 2 ∧ wt = .int .i64 (wantTo l (s * 2 + g) : Nat) ∧ w2 = wr) (fun _ t _ => 2 - (intOf t).toNat)
          case atStart => exact ⟨0, rfl, Nat.zero_le _, rfl, rfl⟩
          case round =>
            obtain ⟨g, rfl, hg2, rfl, rfl⟩ := hrel
            by_cases hglt : g < 2
            · have hgI : (g : Int) < 2 := by omega
              have hwl := wantTo_le l (s * 2 + g)
              have hws := wantTo_succ l s g hglt
              generalize wantTo l (s * 2 + g) = wn at hwl hws
              have HWS : Hid _ := hws
              clear hws
              go_wp2
              go_loopw [11, 12] (fun lv t wr => ∃ (i : Nat) (bb : Bool), t = .int .i64 i ∧ i ≤ l.length ∧ lv = .bool bb ∧ Hid (bb = liveB (l.take i) (s : Int) (g : Int)) ∧ w2 = wr) (fun _ t _ => l.length - (intOf t).toNat)
              case atStart => exact ⟨0, false, rfl, Nat.zero_le _, rfl, by show _ = _; simp [liveB, lasts], rfl⟩
              case round =>
                obtain ⟨i, bb, rfl, hi, rfl, hbb, rfl⟩ := hrel
                by_cases hlt4 : i < l.length
                · obtain ⟨b0, off, hp0, hb0', c1, c2, c3, _⟩ := H2.out.1 i hlt4
                  subst hp0
                  obtain ⟨⟨kd, sl, gn, be, rq, cd, wy⟩, hx⟩ : ∃ x, x = l[i] := ⟨_, rfl⟩
                  have hsn := liveB_snoc (l.take i) ⟨kd, sl, gn, be, rq, cd, wy⟩ (s : Int) (g : Int)
                  rw [← take_snoc hlt4 hx] at hsn
                  rw [← hx] at c1 c2 c3
                  dsimp only at c1 c2 c3
                  have hiI : (i : Int) < (l.length : Int) := by omega
                  have HX : Hid (_ ∧ _) := ⟨hsn, hbb.out⟩
                  clear hsn hbb hx hb0'
                  by_cases hs : sl = (s : Int)
                  · by_cases hg : gn = (g : Int)
                    · subst hs hg
                      by_cases h1 : kd = 1
                      · subst h1
                        have HL : Hid (liveB (l.take (i + 1)) (s : Int) (g : Int) = true) := by show _ = _; rw [HX.out.1]; simp [isH, isUp, isDown]
                        go_wp2
                        go_roundw
                        case rel => exact ⟨i + 1, _, by simp, hlt4, rfl, by show _ = _; rw [HL.out], trivial⟩
                        case measure => simp [intOf]; omega
                      · by_cases h5 : kd = 5
                        · subst h5
                          have HL : Hid (liveB (l.take (i + 1)) (s : Int) (g : Int) = true) := by show _ = _; rw [HX.out.1]; simp [isH, isUp, isDown]
                          go_wp2
                          go_roundw
                          case rel => exact ⟨i + 1, _, by simp, hlt4, rfl, by show _ = _; rw [HL.out], trivial⟩
                          case measure => simp [intOf]; omega
                        · have b1 : (kd == 1) = false := by simpa using h1
                          have b5 : (kd == 5) = false := by simpa using h5
                          by_cases h6 : kd = 6
                          · subst h6
                            have HL : Hid (liveB (l.take (i + 1)) (s : Int) (g : Int) = false) := by show _ = _; rw [HX.out.1]; simp [isH, isUp, isDown]
                            go_wp2
                            go_roundw
                            case rel => exact ⟨i + 1, _, by simp, hlt4, rfl, by show _ = _; rw [HL.out], trivial⟩
                            case measure => simp [intOf]; omega
                          · by_cases h7 : kd = 7
                            · subst h7
                              have HL : Hid (liveB (l.take (i + 1)) (s : Int) (g : Int) = false) := by show _ = _; rw [HX.out.1]; simp [isH, isUp, isDown]
                              go_wp2
                              go_roundw
                              case rel => exact ⟨i + 1, _, by simp, hlt4, rfl, by show _ = _; rw [HL.out], trivial⟩
                              case measure => simp [intOf]; omega
                            · have b6 : (kd == 6) = false := by simpa using h6
                              have b7 : (kd == 7) = false := by simpa using h7
                              have HL : Hid (liveB (l.take (i + 1)) (s : Int) (g : Int) = liveB (l.take i) (s : Int) (g : Int)) := by show _ = _; rw [HX.out.1]; simp [isH, isUp, isDown, h1, h5, h6, h7]
                              go_wp2
                              go_roundw
                              case rel => exact ⟨i + 1, _, by simp, hlt4, rfl, by show _ = _; rw [HL.out]; exact HX.out.2, trivial⟩
                              case measure => simp [intOf]; omega
                    · have bg : (gn != (g : Int)) = true := by simpa using hg
                      subst hs
                      have HL : Hid (liveB (l.take (i + 1)) (s : Int) (g : Int) = liveB (l.take i) (s : Int) (g : Int)) := by show _ = _; rw [HX.out.1]; simp [isH, isUp, isDown, hg]
                      go_wp2
                      go_roundw
                      case rel => exact ⟨i + 1, _, by simp, hlt4, rfl, by show _ = _; rw [HL.out]; exact HX.out.2, trivial⟩
                      case measure => simp [intOf]; omega
                  · have bs : (sl != (s : Int)) = true := by simpa using hs
                    have HL : Hid (liveB (l.take (i + 1)) (s : Int) (g : Int) = liveB (l.take i) (s : Int) (g : Int)) := by show _ = _; rw [HX.out.1]; simp [isH, isUp, isDown, hs]
                    go_wp2
                    go_roundw
                    case rel => exact ⟨i + 1, _, by simp, hlt4, rfl, by show _ = _; rw [HL.out]; exact HX.out.2, trivial⟩
                    case measure => simp [intOf]; omega
                · have hid : ¬ ((i : Int) < (l.length : Int)) := by omega
                  have hbe : bb = liveB l (s : Int) (g : Int) := by rw [hbb.out, List.take_of_length_le (by omega)]
                  cases bb
                  · have HW : Hid (wantTo l (s * 2 + g + 1) = wn) := by show _ = _; rw [HWS.out, ← hbe]; rfl
                    clear hbe hbb
                    go_wp2
                    go_roundw
                    case rel => exact ⟨g + 1, by simp, hglt, by rw [← Nat.add_assoc, HW.out], trivial⟩
                    case measure => simp [intOf]; omega
                  · have HW : Hid (wantTo l (s * 2 + g + 1) = wn + 1) := by show _ = _; rw [HWS.out, ← hbe]; rfl
                    clear hbe hbb
                    go_wp2
                    go_roundw
                    case rel => exact ⟨g + 1, by simp, hglt, by rw [← Nat.add_assoc, HW.out]; simp, trivial⟩
                    case measure => simp [intOf]; omega
            · have hgd : ¬ ((g : Int) < 2) := by omega
              have HE : Hid (wantTo l (s * 2 + g) = wantTo l ((s + 1) * 2)) := by show _ = _; rw [show s * 2 + g = (s + 1) * 2 by omega]
              go_wp2
              go_roundw
              case rel => exact ⟨s + 1, by simp, hslt, by rw [HE.out], trivial⟩
              case measure => simp [intOf]; omega
        · have hsd : ¬ ((s : Int) < 3) := by omega
          have hE : wantTo l (s * 2) = (lasts l).length := by rw [show s * 2 = 6 by omega]; exact want_is HF.out
          rw [hE]
          clear hE
          go_wp2
          go_ret
          exact ⟨by simp, H2.out.2.2⟩
end Go.Proofs.Ythfadekfobceaaa.Walks
