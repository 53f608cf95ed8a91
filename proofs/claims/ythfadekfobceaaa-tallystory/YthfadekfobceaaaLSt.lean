/-
  TallyStory: the law's walk. Condition: what is told can be read.
-/
import Derived.Test.YthfadekfobceaaaLAd
import Derived.WalkKit
import Derived.ProofKit
import Derived.Handy
import Derived.LoopTactic
import Derived.Below
import Derived.Laws.BitsAllLaws
import Derived.RegionTactic
import Derived.Deep.RegionHeld3
import Derived.Deep.DrawnRows
import Derived.Deep.AppendLies
import Derived.Laws.OwnMore
import Derived.Deep.Onto
import Derived.Deep.QuietTactic
import Derived.BigQuiet
namespace Go.Proofs.Ythfadekfobceaaa.Walks
open Go.RowKit
set_option linter.unusedVariables false
set_option linter.unusedSimpArgs false
attribute [local go_sem ↓] Go.wp_at_zero Go.wp_at_succ

/-- So many outputs of the first handles. -/
def manyTo (l : List Ou) : Nat → Nat
  | 0 => 0
  | k + 1 => manyTo l k + (storyL l ((k / 2 : Nat) : Int) ((k % 2 : Nat) : Int)).length

theorem manyTo_succ (l : List Ou) (s g : Nat) (hg : g < 2) : manyTo l (s * 2 + g + 1) = manyTo l (s * 2 + g) + (storyL l (s : Int) (g : Int)).length := by
  have h1 : (s * 2 + g) / 2 = s := by omega
  have h2 : (s * 2 + g) % 2 = g := by omega
  rw [manyTo, h1, h2]

theorem manyTo_le (l : List Ou) : ∀ k, manyTo l k ≤ k * l.length
  | 0 => by simp [manyTo]
  | k + 1 => by
    have := manyTo_le l k
    have := storyL_le l ((k / 2 : Nat) : Int) ((k % 2 : Nat) : Int)
    rw [manyTo, Nat.succ_mul]
    omega

/-- How many outputs are of flows. -/
def flN (l : List Ou) : Nat := l.countP ofF

theorem many_is : ∀ {l : List Ou}, (∀ o ∈ l, Fine o) → manyTo l 6 = flN l
  | [], _ => by simp [manyTo, storyL, flN]
  | o :: l, h => by
    have ih := many_is (l := l) (fun p hp => h p (by simp [hp]))
    obtain ⟨_, ⟨s0, s3⟩, ⟨g0, g2⟩, _⟩ := h o (by simp)
    have key : ∀ s g : Int, (storyL (o :: l) s g).length = (storyL l s g).length + (if mine s g o then 1 else 0) := by
      intro s g
      unfold storyL
      rw [List.filter_cons]
      split <;> simp
    have hf : flN (o :: l) = flN l + (if ofF o then 1 else 0) := by
      unfold flN
      rw [List.countP_cons]
    simp only [manyTo, key] at ih ⊢
    rw [hf, ← ih]
    cases ho : ofF o
    · have : ∀ s g, mine s g o = false := fun s g => by simp [mine, ho]
      simp [this]
    · have hm : ∀ s g, mine s g o = (decide (o.slot = s) && decide (o.gen = g)) := fun s g => by simp [mine, ho]
      simp only [hm]
      have hs : o.slot = 0 ∨ o.slot = 1 ∨ o.slot = 2 := by omega
      have hg : o.gen = 0 ∨ o.gen = 1 := by omega
      rcases hs with hs | hs | hs <;> rcases hg with hg | hg <;> rw [hs, hg] <;> simp <;> omega

theorem flN_kinds : ∀ (l : List Ou), flN l = cntAt l 1 + cntAt l 3 + cntAt l 4 + cntAt l 5 + cntAt l 6 + cntAt l 7
  | [] => by simp [flN, cntAt]
  | o :: l => by
    have ih := flN_kinds l
    have hc : ∀ j, j < 11 → cntAt (o :: l) j = cntAt l j + (if o.kind = (j : Int) then 1 else 0) := by
      intro j hj
      unfold cntAt
      rw [List.countP_cons]
      have : hit o j = decide (o.kind = (j : Int)) := by simp [hit, hj]; rfl
      rw [this]
      simp
    have hf : flN (o :: l) = flN l + (if ofF o then 1 else 0) := by
      unfold flN
      rw [List.countP_cons]
    rw [hf, hc 1 (by omega), hc 3 (by omega), hc 4 (by omega), hc 5 (by omega), hc 6 (by omega), hc 7 (by omega), ih]
    have ho : ofF o = decide (o.kind = 1 ∨ o.kind = 3 ∨ o.kind = 4 ∨ o.kind = 5 ∨ o.kind = 6 ∨ o.kind = 7) := by
      have : ofF o = (decide (o.kind = 1) || (decide (3 ≤ o.kind) && decide (o.kind ≤ 7))) := rfl
      rw [this, Bool.eq_iff_iff]
      simp
      omega
    rw [ho]
    by_cases h : o.kind = 1 ∨ o.kind = 3 ∨ o.kind = 4 ∨ o.kind = 5 ∨ o.kind = 6 ∨ o.kind = 7
    · rw [decide_eq_true h]
      rcases h with h | h | h | h | h | h <;> simp [h] <;> omega
    · rw [decide_eq_false h]
      have : ¬ o.kind = 1 ∧ ¬ o.kind = 3 ∧ ¬ o.kind = 4 ∧ ¬ o.kind = 5 ∧ ¬ o.kind = 6 ∧ ¬ o.kind = 7 := by omega
      simp [this]

/-- The rest of a story is the story of the rest. -/
theorem story_step {l : List Ou} {s g : Int} {at_ i : Nat} {x y : Ou} {S : List Ou} (hS : S.drop i = storyL (l.drop at_) s g) (hi : i < S.length) (hx : x = S[i]) (ha : at_ < l.length) (hy : y = l[at_]) :
    (y = x → S.drop (i + 1) = storyL (l.drop (at_ + 1)) s g) ∧ (¬ y = x → S.drop i = storyL (l.drop (at_ + 1)) s g) := by
  rw [List.drop_eq_getElem_cons ha, ← hy] at hS
  have hSi := List.drop_eq_getElem_cons hi
  rw [← hx] at hSi
  have hm : mine s g x = true := by
    have : x ∈ storyL (y :: l.drop (at_ + 1)) s g := by rw [← hS, hSi]; simp
    exact (List.mem_filter.1 this).2
  constructor
  · intro e
    subst e
    rw [hSi] at hS
    unfold storyL at hS ⊢
    rw [List.filter_cons, if_pos hm] at hS
    exact (List.cons.inj hS).2
  · intro hne
    rw [hS]
    unfold storyL
    rw [List.filter_cons]
    split
    · rename_i hmy
      exfalso
      unfold storyL at hS
      rw [List.filter_cons, if_pos hmy, hSi] at hS
      exact hne (List.cons.inj hS).1.symm
    · rfl

theorem story_some {l : List Ou} {s g : Int} {at_ i : Nat} {S : List Ou} (hS : S.drop i = storyL (l.drop at_) s g) (hi : i < S.length) : at_ < l.length := by
  rcases Nat.lt_or_ge at_ l.length with h | h
  · exact h
  · rw [List.drop_of_length_le h, List.drop_eq_getElem_cons hi] at hS
    simp [storyL] at hS
    omega

theorem story_mine {l : List Ou} {s g : Int} {i : Nat} (hi : i < (storyL l s g).length) : (storyL l s g)[i].slot = s ∧ (storyL l s g)[i].gen = g := by
  have := (List.mem_filter.1 (List.getElem_mem hi)).2
  simp [mine] at this
  exact this.2

theorem storyO_fine {l : List Ou} (h : ∀ o ∈ l, Fine o) (s g : Int) : storyO l s g = (storyL l s g, 0) := by
  unfold storyO
  rw [(fine_ok h).1]
  rfl

set_option maxHeartbeats 4000000 in
theorem eqOu (a1 a2 a3 a4 a5 a6 a7 b1 b2 b3 b4 b5 b6 b7 : Int) (W : World) : (binOp .neq 48 (.agg #[.int .i64 a1, .int .i64 a2, .int .i64 a3, .int .i64 a4, .int .i64 a5, .int .i64 a6, .int .i64 a7]) (.agg #[.int .i64 b1, .int .i64 b2, .int .i64 b3, .int .i64 b4, .int .i64 b5, .int .i64 b6, .int .i64 b7])).run Try.prog W = .ok (.bool (!decide ((⟨a1, a2, a3, a4, a5, a6, a7⟩ : Ou) = ⟨b1, b2, b3, b4, b5, b6, b7⟩))) W := by
  by_cases h1 : a1 = b1
  · by_cases h2 : a2 = b2
    · by_cases h3 : a3 = b3
      · by_cases h4 : a4 = b4
        · by_cases h5 : a5 = b5
          · by_cases h6 : a6 = b6
            · by_cases h7 : a7 = b7
              · subst h1 h2 h3 h4 h5 h6 h7
                go_simp
              · subst h1 h2 h3 h4 h5 h6
                go_simp
            · subst h1 h2 h3 h4 h5
              go_simp
          · subst h1 h2 h3 h4
            go_simp
        · subst h1 h2 h3
          go_simp
      · subst h1 h2
        go_simp
    · subst h1
      go_simp
  · go_simp

set_option maxHeartbeats 8000000 in
set_option maxRecDepth 100000 in
theorem tallyStory_row (v0 : Value) (l0 : List To) (wf0 : ∀ o ∈ l0, ToWf o) (w : World) (hv0 : RvAt toV w v0 l0) :
    Calls Try.prog 8 #[v0] w fun r w' => r = .returned (.bool true) ∧ Below w.heap.size w w' := by
  obtain ⟨p0, c0, rfl, hc0, hm0⟩ := RvAt.form hv0
  have hla := toL_len l0
  have hfa := toL_fine l0
  have HT0 : Hid _ := tolds_any _ l0 w hv0 wf0
  generalize toL l0 = l at hla hfa HT0
  have HF : Hid _ := hfa
  clear hfa hv0 wf0
  go_enter Try.func8, Try.ntmps8
  go_wp2_with fail
  refine Calls.mono HT0.out ?_
  rintro r w1 ⟨q1, d1, rfl, h1, hb1⟩
  have H1 : Hid (_ ∧ _) := ⟨h1, hb1⟩
  clear h1 hb1
  go_wp2_with fail
  refine (of_any _ l _ H1.out.1).mono ?_
  rw [ofO_fine HF.out]
  rintro r w3 ⟨rfl, hb3⟩
  obtain ⟨W3, hx3⟩ := boxed w3 (cntL l) (cntL_len l)
  have HX3 : Hid _ := hx3
  have h3 := hb3.trans (hx3.bel.mono hb3.size)
  have H3 : Hid (_ ∧ _ ∧ _) := ⟨H1.out.1.below h3, H1.out.2.trans (h3.mono H1.out.2.size), hx3.arr⟩
  clear hx3 h3 hb3 H1
  go_wp2_with ((with_reducible refine wpList_store_mid rfl 27 (.tmp 4) (.tmp 21) rfl w3.heap.size 0 (icells (cntL l)).toArray ?hx ?hy ?ht ?hi ?h1 ?_); (case hx => rfl); (case hy => rfl); (case ht => rw [zeros17]; exact HX3.out.there); (case hi => exact HX3.out.info); (case h1 => exact HX3.out.one); rw [zeros17, show (icells (cntL l)).toArray.toList = icells (cntL l) from rfl, ← HX3.out.is])
  clear HX3
  go_loopw [6, 7] (fun mn t wr => ∃ s : Nat, t = .int .i64 s ∧ s ≤ 3 ∧ mn = .int .i64 (manyTo l (s * 2) : Nat) ∧ Below W3.heap.size W3 wr) (fun _ t _ => 3 - (intOf t).toNat)
  case atStart => exact ⟨0, rfl, Nat.zero_le _, rfl, Below.refl _ _⟩
  case round =>
    obtain ⟨s, rfl, hs3, rfl, hbs⟩ := hrel
    have HBS : Hid _ := hbs
    clear hbs
    by_cases hslt : s < 3
    · have hsI : (s : Int) < 3 := by omega
      go_wp2
      go_loopw [6, 8] (fun mn t wr => ∃ g : Nat, t = .int .i64 g ∧ g ≤ 2 ∧ mn = .int .i64 (manyTo l (s * 2 + g) : Nat) ∧ Below W3.heap.size W3 wr) (fun _ t _ => 2 - (intOf t).toNat)
      case atStart => exact ⟨0, rfl, Nat.zero_le _, rfl, HBS.out⟩
      case round =>
        obtain ⟨g, rfl, hg2, rfl, hbg⟩ := hrel
        by_cases hglt : g < 2
        · have hgI : (g : Int) < 2 := by omega
          have hml := manyTo_le l (s * 2 + g)
          have hms := manyTo_succ l s g hglt
          have hml2 : manyTo l (s * 2 + g) ≤ 360 := Nat.le_trans hml (Nat.le_trans (Nat.mul_le_mul (show s * 2 + g ≤ 6 by omega) hla) (by omega))
          clear hml
          generalize manyTo l (s * 2 + g) = mn at hml2 hms
          have hsy := story_any _ l (s : Int) (g : Int) wr (H3.out.1.below hbg) (by omega)
          rw [storyO_fine HF.out] at hsy
          have HS : Hid (_ ∧ _ ∧ _) := ⟨hsy, hms, hbg⟩
          clear hsy hms hbg
          go_wp2_with fail
          refine Calls.mono HS.out.1 ?_
          rintro r w5 ⟨p5, c5, rfl, h5, hb5⟩
          dsimp only at h5
          have hmine := fun (i : Nat) (hi : i < (storyL l (s : Int) (g : Int)).length) => story_mine hi
          have hSl := storyL_le l (s : Int) (g : Int)
          have hS0 : (storyL l (s : Int) (g : Int)).drop 0 = storyL (l.drop 0) (s : Int) (g : Int) := by simp
          dsimp only
          have hms := HS.out.2.1
          obtain ⟨a5, cap5, e5, hc5, hm5, pv5⟩ := OsAt.parts h5
          cases e5
          unfold maxLen at hm5
          have hb35 := HS.out.2.2.trans (hb5.mono HS.out.2.2.size)
          obtain ⟨a1, cap1, e1, hc1, hm1, pv1⟩ := OsAt.parts (H3.out.1.below hb35)
          cases e1
          unfold maxLen at hm1
          clear h5
          generalize storyL l (s : Int) (g : Int) = S at hmine hSl hS0 hms pv5 hc5 ⊢
          have HH : Hid (_ ∧ _ ∧ _ ∧ _ ∧ _ ∧ _) := ⟨hmine, hS0, hms, pv5, pv1, hb35⟩
          clear hmine hS0 hms pv5 pv1 hb35 hb5 HS
          go_wp2
          go_loopw [11, 12] (fun av t wv => ∃ (at_ i q : Nat), av = .int .i64 at_ ∧ t = .int .i64 i ∧ i ≤ S.length ∧ at_ ≤ l.length ∧ Hid (S.drop i = storyL (l.drop at_) (s : Int) (g : Int)) ∧ wv = w5.drewN q) (fun _ t _ => S.length - (intOf t).toNat)
          case atStart => exact ⟨0, 0, 0, rfl, rfl, Nat.zero_le _, Nat.zero_le _, HH.out.2.1, rfl⟩
          case round =>
            obtain ⟨at_, i, q, rfl, rfl, hi, hat, hdr, rfl⟩ := hrel
            by_cases hilt : i < S.length
            · have hiI : (i : Int) < (S.length : Int) := by omega
              obtain ⟨b2, o2, hp2, hb2', x1, x2, x3, x4, x5, x6, x7⟩ := HH.out.2.2.2.1 i hilt
              subst hp2
              have hmn := HH.out.1 i hilt
              obtain ⟨⟨xk, xs, xg, xb, xr, xc, xw⟩, hx⟩ : ∃ x, x = S[i] := ⟨_, rfl⟩
              rw [← hx] at x1 x2 x3 x4 x5 x6 x7 hmn
              dsimp only at x1 x2 x3 x4 x5 x6 x7 hmn
              obtain ⟨hms1, hmg1⟩ := hmn
              subst hms1 hmg1
              have HXX : Hid _ := hx
              clear hx hb2'
              go_wp2
              go_loopw [11] (fun av wv => ∃ (at_ q : Nat), av = .int .i64 at_ ∧ at_ ≤ l.length ∧ Hid (S.drop i = storyL (l.drop at_) (s : Int) (g : Int)) ∧ wv = w5.drewN q) (fun av _ => l.length - (intOf av).toNat)
              case atStart => exact ⟨at_, q, rfl, hat, hdr, rfl⟩
              case round =>
                obtain ⟨ax, qx, rfl, hax, hdx, rfl⟩ := hrel
                have haxl := story_some hdx.out hilt
                have haI : (ax : Int) < (l.length : Int) := by omega
                obtain ⟨b0, off, hp0, hb0', y1, y2, y3, y4, y5, y6, y7⟩ := HH.out.2.2.2.2.1 ax haxl
                subst hp0
                obtain ⟨⟨yk, ys, yg, yb, yr, yc, yw⟩, hy⟩ : ∃ y, y = l[ax] := ⟨_, rfl⟩
                have hstep := story_step hdx.out hilt HXX.out haxl hy
                rw [← hy] at y1 y2 y3 y4 y5 y6 y7
                dsimp only at y1 y2 y3 y4 y5 y6 y7
                have hq := eqOu yk ys yg yb yr yc yw xk (s : Int) (g : Int) xb xr xc xw
                have hka : decide ((ax : Int) < (l.length : Int)) = true := decide_eq_true haI
                by_cases he : (⟨yk, ys, yg, yb, yr, yc, yw⟩ : Ou) = ⟨xk, (s : Int), (g : Int), xb, xr, xc, xw⟩
                · have hst := hstep.1 he
                  have hd : decide ((⟨yk, ys, yg, yb, yr, yc, yw⟩ : Ou) = ⟨xk, (s : Int), (g : Int), xb, xr, xc, xw⟩) = true := decide_eq_true he
                  rw [hd] at hq
                  have HE : Hid (_ ∧ _) := ⟨hst, hy⟩
                  have hq' : ∀ W, (binOp .neq 48 (.agg #[.int .i64 yk, .int .i64 ys, .int .i64 yg, .int .i64 yb, .int .i64 yr, .int .i64 yc, .int .i64 yw]) (.agg #[.int .i64 xk, .int .i64 (s : Int), .int .i64 (g : Int), .int .i64 xb, .int .i64 xr, .int .i64 xc, .int .i64 xw])).run Try.prog W = .ok (.bool false) W := hq
                  clear hstep hst hdx hd hy hb0' hq he
                  go_wp2
                  refine wp_region_quiet_lit (by kernel_rfl) (by kernel_rfl) ?_
                  repeat (first | go_big_quiet_skip | quiet_step (fail))
                  refine wpQuiet_nil ?_
                  intro _ hw'
                  obtain ⟨nq, hw''⟩ := hw'
                  subst hw''
                  have hne : ¬ ((ax : Int) = (l.length : Int)) := by omega
                  have hneb : ((ax : Int) == (l.length : Int)) = false := by simpa using hne
                  clear y1 y2 y3 y4 y5 y6 y7 hq'
                  go_wp2
                  go_roundw
                  case rel => exact ⟨ax + 1, i + 1, qx + nq, by simp, by simp, hilt, haxl, HE.out.1, by simp [World.drewN, Nat.add_assoc]⟩
                  case measure => simp [intOf]; omega
                · have hst := hstep.2 he
                  have hd : decide ((⟨yk, ys, yg, yb, yr, yc, yw⟩ : Ou) = ⟨xk, (s : Int), (g : Int), xb, xr, xc, xw⟩) = false := decide_eq_false he
                  rw [hd] at hq
                  have HE : Hid (_ ∧ _) := ⟨hst, hy⟩
                  have hq' : ∀ W, (binOp .neq 48 (.agg #[.int .i64 yk, .int .i64 ys, .int .i64 yg, .int .i64 yb, .int .i64 yr, .int .i64 yc, .int .i64 yw]) (.agg #[.int .i64 xk, .int .i64 (s : Int), .int .i64 (g : Int), .int .i64 xb, .int .i64 xr, .int .i64 xc, .int .i64 xw])).run Try.prog W = .ok (.bool true) W := hq
                  clear hstep hst hdx hd hy hb0' hq he
                  go_wp2
                  refine wp_region_quiet_lit (by kernel_rfl) (by kernel_rfl) ?_
                  repeat (first | go_big_quiet_skip | quiet_step (fail))
                  refine wpQuiet_nil ?_
                  intro _ hw'
                  obtain ⟨nq, hw''⟩ := hw'
                  subst hw''
                  clear y1 y2 y3 y4 y5 y6 y7 hq'
                  go_wp2
                  go_roundw
                  case rel => exact ⟨ax + 1, qx + nq, by simp, haxl, HE.out.1, by simp [World.drewN, Nat.add_assoc]⟩
                  case measure => simp [intOf]; omega
            · have hid : ¬ ((i : Int) < (S.length : Int)) := by omega
              clear hdr
              go_wp2
              go_roundw
              case rel => exact ⟨g + 1, by simp, hglt, by rw [← Nat.add_assoc, HH.out.2.2.1]; simp, below_drewN HH.out.2.2.2.2.2 q⟩
              case measure => simp [intOf]; omega
        · have hgd : ¬ ((g : Int) < 2) := by omega
          have HE : Hid (_ ∧ _) := ⟨show manyTo l (s * 2 + g) = manyTo l ((s + 1) * 2) by rw [show s * 2 + g = (s + 1) * 2 by omega], hbg⟩
          clear hbg
          go_wp2
          go_roundw
          case rel => exact ⟨s + 1, by simp, hslt, by rw [HE.out.1], HE.out.2⟩
          case measure => simp [intOf]; omega
    · have hsd : ¬ ((s : Int) < 3) := by omega
      have hE : manyTo l (s * 2) = cntAt l 1 + cntAt l 3 + cntAt l 4 + cntAt l 5 + cntAt l 6 + cntAt l 7 := by rw [show s * 2 = 6 by omega, many_is HF.out, flN_kinds]
      rw [hE]
      have hA := H3.out.2.2.below HBS.out
      have k1 := hA.cell 1 (by rw [cntL_len]; omega)
      have k3 := hA.cell 3 (by rw [cntL_len]; omega)
      have k4 := hA.cell 4 (by rw [cntL_len]; omega)
      have k5 := hA.cell 5 (by rw [cntL_len]; omega)
      have k6 := hA.cell 6 (by rw [cntL_len]; omega)
      have k7 := hA.cell 7 (by rw [cntL_len]; omega)
      rw [cntL_at _ _ (by omega)] at k1 k3 k4 k5 k6 k7
      have n1 := Nat.le_trans (cntAt_le l 1) hla
      have n3 := Nat.le_trans (cntAt_le l 3) hla
      have n4 := Nat.le_trans (cntAt_le l 4) hla
      have n5 := Nat.le_trans (cntAt_le l 5) hla
      have n6 := Nat.le_trans (cntAt_le l 6) hla
      have n7 := Nat.le_trans (cntAt_le l 7) hla
      have HA : Hid _ := hA
      clear hA hE
      generalize cntAt l 1 = m1 at *
      generalize cntAt l 3 = m3 at *
      generalize cntAt l 4 = m4 at *
      generalize cntAt l 5 = m5 at *
      generalize cntAt l 6 = m6 at *
      generalize cntAt l 7 = m7 at *
      rw [show ((m1 + m3 + m4 + m5 + m6 + m7 : Nat) : Int) = (m1 : Int) + m3 + m4 + m5 + m6 + m7 by omega]
      go_wp2
      go_loopw [14, 15] (fun sm t wv => ∃ k : Nat, t = .int .i64 k ∧ k ≤ 11 ∧ sm = .int .i64 (sumTo l k : Nat) ∧ wr = wv) (fun _ t _ => 11 - (intOf t).toNat)
      case atStart => exact ⟨0, rfl, Nat.zero_le _, rfl, rfl⟩
      case round =>
        obtain ⟨k, rfl, hk, rfl, rfl⟩ := hrel
        by_cases hlt : k < 11
        · have hkI : (k : Int) < 11 := by omega
          have hc := Arr.cell HA.out k (by rw [cntL_len]; omega)
          rw [cntL_at _ _ (by omega)] at hc
          have hst : sumTo l (k + 1) = sumTo l k + cntAt l k := rfl
          have hs1 := sumTo_le l k (by omega)
          have hs2 := cntAt_le l k
          generalize cntAt l k = y at hc hst hs2
          generalize sumTo l k = z at hst hs1
          have HS : Hid _ := hst
          clear hst
          go_wp2
          go_roundw
          case rel => exact ⟨k + 1, by simp, hlt, by rw [HS.out]; simp, trivial⟩
          case measure => simp [intOf]; omega
        · have hkd : ¬ ((k : Int) < 11) := by omega
          have hS : sumTo l k = l.length := by rw [show k = 11 by omega]; exact sumTo_all HF.out
          rw [hS]
          clear hS
          go_wp2
          go_ret
          exact ⟨by simp, H3.out.2.1.trans (HBS.out.mono H3.out.2.1.size)⟩
end Go.Proofs.Ythfadekfobceaaa.Walks
