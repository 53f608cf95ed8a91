/-
  The document's Picked. Condition: the walk and the loads can be read.
-/
import Derived.Test.YtjkiahdeaeiopaaPick
import Derived.Test.YtjkiahdeaeiopaaCapsR
import Derived.WalkKit
import Derived.ProofKit
import Derived.Handy
import Derived.LoopTactic
import Derived.Below
import Derived.Laws.BitsAllLaws
import Derived.RegionTactic
import Derived.Deep.RegionHeld3
import Derived.Deep.DrawnRows
import Derived.Deep.AppendLies
import Derived.Laws.OwnMore
import Derived.Deep.Onto
import Derived.Deep.QuietTactic
import Derived.BigQuiet
namespace Go.Proofs.Ytjkiahdeaeiopaa.Walks
open Go.RowKit
set_option linter.unusedVariables false
set_option linter.unusedSimpArgs false
attribute [local go_sem ↓] Go.wp_at_zero Go.wp_at_succ

theorem mine_pos {b : Int} {x : Ld} (h : LdOk x) : mineB b x = ((x.1 == b) && decide (0 < x.2.1)) := by
  unfold mineB
  congr 1
  have := h.1.1
  by_cases h0 : x.2.1 = 0
  · simp [h0]
  · have : 0 < x.2.1 := by omega
    simp [h0, this]

theorem takes_pos {x : Ld} (h : LdOk x) : takesB x = decide (0 < x.2.1) := by
  unfold takesB
  have := h.1.1
  by_cases h0 : x.2.1 = 0
  · simp [h0]
  · have : 0 < x.2.1 := by omega
    simp [h0, this]

set_option maxHeartbeats 2000000 in
theorem refLoad_any (v : Value) (l : List Ld) (bk : Int) (w : World) (hv : LdAt w v l) (hok : ∀ x ∈ l, LdOk x) :
    Calls Try.prog 29 #[v, .int .i64 bk] w fun r w' => r = .returned (.int .i64 (idxOf (find (mineB bk) l))) ∧ w' = w := by
  obtain ⟨a, ca, rfl, hca, hma, pa⟩ := hv.parts
  unfold maxLen at hma
  obtain ⟨ans, hans⟩ : ∃ ans, ans = idxOf (find (mineB bk) l) := ⟨_, rfl⟩
  rw [← hans]
  have H : Hid (_ ∧ _ ∧ _) := ⟨hans, pa, hok⟩
  clear hv hans pa hok
  go_enter Try.func29, Try.ntmps29
  go_wp2
  go_loopw [5] (fun i wr => ∃ k : Nat, i = .int .i64 k ∧ k ≤ l.length ∧ (∀ t ∈ l.take k, mineB bk t = false) ∧ wr = w) (fun i _ => l.length - (intOf i).toNat)
  case atStart => exact ⟨0, rfl, Nat.zero_le _, by simp, rfl⟩
  case round =>
    obtain ⟨k, rfl, hk, hall, rfl⟩ := hrel
    by_cases hlt : k < l.length
    · obtain ⟨b1, o1, rfl, hb1, c1, c2, c3⟩ := H.out.2.1 k hlt
      have hkI : (k : Int) < (l.length : Int) := by omega
      have htk : l.take (k + 1) = l.take k ++ [l[k]] := List.take_succ_eq_append_getElem hlt
      have hfs : mineB bk l[k] = true → find (mineB bk) l = some k := fun h => find_some hlt hall h
      have hms := mine_pos (b := bk) (H.out.2.2 l[k] (List.getElem_mem hlt))
      obtain ⟨⟨x1, x2, x3⟩, hxk⟩ : ∃ x, x = l[k] := ⟨_, rfl⟩
      rw [← hxk] at c1 c2 c3 htk hfs hms
      replace hms : mineB bk (x1, x2, x3) = ((x1 == bk) && decide (0 < x2)) := hms
      have HX : Hid (_ ∧ _ ∧ _ ∧ _) := ⟨htk, hfs, hall, hms⟩
      clear hall hb1 htk hfs hxk c3 hms
      cases h1 : (x1 == bk)
      · have HM : Hid (mineB bk (x1, x2, x3) = false) := by rw [HX.out.2.2.2, h1]; rfl
        go_wp2
        go_roundw
        case rel =>
          refine ⟨k + 1, by simp, hlt, fun t ht => ?_, by trivial⟩
          rw [HX.out.1] at ht
          rcases List.mem_append.1 ht with ht | ht
          · exact HX.out.2.2.1 t ht
          · simp at ht
            rw [ht]
            exact HM.out
        case measure => simp [intOf]; omega
      · obtain rfl : x1 = bk := by simpa using h1
        cases h2 : decide (0 < x2)
        · have hm : mineB x1 (x1, x2, x3) = false := by rw [HX.out.2.2.2, h2]; simp
          have HM : Hid _ := hm
          clear h1 hm
          go_wp2
          go_roundw
          case rel =>
            refine ⟨k + 1, by simp, hlt, fun t ht => ?_, by trivial⟩
            rw [HX.out.1] at ht
            rcases List.mem_append.1 ht with ht | ht
            · exact HX.out.2.2.1 t ht
            · simp at ht
              rw [ht]
              exact HM.out
          case measure => simp [intOf]; omega
        · have HM : Hid (ans = (k : Int)) := by
            show ans = _
            rw [H.out.1, HX.out.2.1 (by rw [HX.out.2.2.2, h2]; simp)]
            rfl
          clear h1
          go_wp2
          go_ret
          exact ⟨by rw [HM.out]; rfl, rfl⟩
    · have HE : Hid (ans = -1) := by
        show ans = _
        rw [H.out.1, find_none fun t ht => hall t (by rw [List.take_of_length_le (by omega)]; exact ht)]
        rfl
      clear hall
      go_wp2
      go_ret
      exact ⟨by rw [HE.out]; rfl, rfl⟩

theorem any_snoc {l : List Ld} {k : Nat} {x : Ld} (hlt : k < l.length) (hx : x = l[k]) : (l.take (k + 1)).any takesB = ((l.take k).any takesB || takesB x) := by
  rw [List.take_succ_eq_append_getElem hlt, hx, List.any_append]
  simp only [List.any_cons, List.any_nil, Bool.or_false]

theorem room_of {l : List Ld} {m : List Int} {k : Nat} {x : Ld} {y : Int} (h1 : l[k]? = some x) (h2 : m[k]? = some y) : roomB l m k = decide (x.2.2 < y) := by
  unfold roomB
  simp [List.getD, h1, h2]

set_option maxHeartbeats 16000000 in
set_option maxRecDepth 100000 in
theorem picked_ref (y v : Value) (ws : List Int) (l : List Ld) (a b c t : Int) (w : World) (hy : IntsAt w y ws) (hv : LdAt w v l) :
    Calls Try.prog 12 #[y, v, .int .i64 a, .int .i64 b, .int .i64 c, .int .i64 t] w fun r w' => r = .returned (.tuple #[.int .i64 (pickOut ws l a b c t).1, .int .i64 (pickOut ws l a b c t).2]) ∧ Below w.heap.size w w' := by
  obtain ⟨py, cy, rfl, _, hmy, _⟩ := hy.parts
  obtain ⟨pv, cv, rfl, _, hmv, _⟩ := hv.parts
  unfold maxLen at hmy hmv
  obtain ⟨e1, e2, hans⟩ : ∃ e1 e2, pickOut ws l a b c t = (e1, e2) := ⟨_, _, rfl⟩
  rw [hans]
  have H0 : Hid (_ ∧ _) := ⟨hv, hy⟩
  have HA : Hid (_ ∧ True) := ⟨hans, trivial⟩
  clear hv hy hans
  go_enter Try.func12, Try.ntmps12
  go_wp2_with fail
  refine (capsOf_any _ l a b c _ H0.out.1).mono ?_
  rintro r w1 hr1
  obtain ⟨p1, c1, rfl, hi1, hb1⟩ := hr1.form
  clear hr1
  cases hok : lokB l
  · have ho : capsOut l a b c = (6, []) := by unfold capsOut; rw [hok, if_neg Bool.false_ne_true]
    have HE : Hid (e1 = 0 ∧ e2 = 6) := by
      have h := HA.out.1
      unfold pickOut at h
      rw [hok, if_neg Bool.false_ne_true] at h
      injection h with h1 h2
      exact ⟨h1.symm, h2.symm⟩
    rw [ho]
    have HB : Hid _ := hb1
    clear hi1 hb1 ho hok
    go_wp2
    go_ret2
    exact ⟨by rw [HE.out.1, HE.out.2]; rfl, HB.out⟩
  by_cases hf : Fac a b c
  case neg =>
    have ho : capsOut l a b c = (2, []) := by unfold capsOut; rw [if_pos hok, if_neg hf]
    have HE : Hid (e1 = 0 ∧ e2 = 2) := by
      have h := HA.out.1
      unfold pickOut at h
      rw [if_pos hok, if_neg hf] at h
      injection h with h1 h2
      exact ⟨h1.symm, h2.symm⟩
    rw [ho]
    have HB : Hid _ := hb1
    clear hi1 hb1 ho hok hf
    go_wp2
    go_ret2
    exact ⟨by rw [HE.out.1, HE.out.2]; rfl, HB.out⟩
  have ho : capsOut l a b c = (0, capsL a b c l) := by unfold capsOut; rw [if_pos hok, if_pos hf]
  rw [ho] at hi1 ⊢
  have hL := lokB_iff.1 hok
  have hrw := roomW (a := a) (b := b) (c := c) hL
  obtain ⟨m, hm⟩ : ∃ m, m = capsL a b c l := ⟨_, rfl⟩
  have hml : m.length = l.length := by rw [hm]; simp [capsL]
  rw [← hm] at hi1 hrw ⊢
  have hp : pickOut ws l a b c t = if 0 ≤ t ∧ t ≤ 12 ∧ ws.length ≤ 12 then if l.any takesB then chosenOut l (chosen l m ws t.toNat) else (0, 11) else (0, 2) := by
    unfold pickOut
    rw [if_pos hok, if_pos hf, ← hm]
  rw [HA.out.1] at hp
  have hv1 := H0.out.1.below hb1
  have hy1 := H0.out.2.below hb1
  obtain ⟨_, _, q0, _, _, pL⟩ := hv1.parts
  obtain ⟨rfl, rfl⟩ := (by injection q0 with q0 _ q1; exact ⟨q0, q1⟩ : pv = _ ∧ cv = _)
  obtain ⟨_, _, q1, _, _, pW⟩ := hy1.parts
  obtain ⟨rfl, rfl⟩ := (by injection q1 with q0 _ q1; exact ⟨q0, q1⟩ : py = _ ∧ cy = _)
  obtain ⟨_, _, q2, _, hmm, pM⟩ := hi1.parts
  obtain ⟨rfl, rfl⟩ := (by injection q2 with q0 _ q1; exact ⟨q0, q1⟩ : p1 = _ ∧ c1 = _)
  unfold maxLen at hmm
  have hl12 := hL.1
  have hall := okFrom_all hL.2
  have H2 : Hid (_ ∧ _ ∧ _ ∧ _ ∧ _ ∧ _ ∧ _ ∧ _ ∧ _) := ⟨pL, pW, pM, hb1, hml, hrw, hall, hp, hv1⟩
  clear pL pW pM hb1 hml hrw hall hp q0 q1 q2 hv1 hy1 hi1 hm ho hf hok HA H0 hL
  rcases (by omega : ¬ (0 ≤ t ∧ t ≤ 12) ∨ (0 ≤ t ∧ t ≤ 12)) with h1 | ⟨h1, h2⟩
  · have HE : Hid (e1 = 0 ∧ e2 = 2) := by
      have h := H2.out.2.2.2.2.2.2.2.1
      rw [if_neg (by omega)] at h
      injection h with h1 h2
      exact ⟨h1, h2⟩
    have hd := decide_eq_false h1
    clear h1
    go_wp2_with fail
    refine (in_any _ _ _ _).mono ?_
    rw [hd]
    rintro r w' ⟨rfl, rfl⟩
    go_wp2
    go_ret2
    exact ⟨by rw [HE.out.1, HE.out.2]; rfl, H2.out.2.2.2.1⟩
  obtain ⟨tn, rfl⟩ := Int.eq_ofNat_of_zero_le h1
  have hd : decide (0 ≤ (tn : Int) ∧ (tn : Int) ≤ 12) = true := decide_eq_true ⟨h1, h2⟩
  rcases Nat.lt_or_ge 12 ws.length with h3 | h3
  · have HE : Hid (e1 = 0 ∧ e2 = 2) := by
      have h := H2.out.2.2.2.2.2.2.2.1
      rw [if_neg (by omega)] at h
      injection h with h1 h2
      exact ⟨h1, h2⟩
    have h3I : (12 : Int) < (ws.length : Int) := by omega
    clear h3
    go_wp2_with fail
    refine (in_any _ _ _ _).mono ?_
    rw [hd]
    rintro r w' ⟨rfl, rfl⟩
    go_wp2
    go_ret2
    exact ⟨by rw [HE.out.1, HE.out.2]; rfl, H2.out.2.2.2.1⟩
  have h3I : decide ((12 : Int) < (ws.length : Int)) = false := decide_eq_false (by omega)
  have HP : Hid ((e1, e2) = if l.any takesB then chosenOut l (chosen l m ws tn) else (0, 11)) := by
    have h := H2.out.2.2.2.2.2.2.2.1
    rw [if_pos ⟨h1, h2, h3⟩] at h
    rw [Int.toNat_natCast] at h
    exact h
  have htn : tn ≤ 12 := by omega
  clear h1 h2
  go_wp2_with fail
  refine (in_any _ _ _ _).mono ?_
  rw [hd]
  rintro r w2 ⟨rfl, rfl⟩
  clear hd
  go_wp2
  go_loopw [16, 17] (fun s i wr => ∃ k : Nat, i = .int .i64 k ∧ s = .bool ((l.take k).any takesB) ∧ k ≤ l.length ∧ w2 = wr) (fun _ i _ => l.length - (intOf i).toNat)
  case atStart => exact ⟨0, rfl, rfl, Nat.zero_le _, rfl⟩
  case round =>
    obtain ⟨k, rfl, rfl, hk, rfl⟩ := hrel
    by_cases hlt : k < l.length
    · obtain ⟨b1, o1, rfl, hb1, d1, d2, d3⟩ := H2.out.1 k hlt
      have hkI : (k : Int) < (l.length : Int) := by omega
      obtain ⟨⟨x1, x2, x3⟩, hxk⟩ : ∃ x, x = l[k] := ⟨_, rfl⟩
      have hsn := any_snoc hlt hxk
      rw [takes_pos (by rw [hxk]; exact H2.out.2.2.2.2.2.2.1 l[k] (List.getElem_mem hlt))] at hsn
      replace hsn : (l.take (k + 1)).any takesB = ((l.take k).any takesB || decide (0 < x2)) := hsn
      rw [← hxk] at d2
      have HS : Hid _ := hsn
      clear hsn hxk d1 d3 hb1
      cases hs : (l.take k).any takesB
      · have HS2 : Hid ((l.take (k + 1)).any takesB = decide (0 < x2)) := by rw [HS.out, hs]; rfl
        clear HS
        go_wp2
        go_roundw
        case rel => exact ⟨k + 1, by simp, by rw [HS2.out], hlt, by trivial⟩
        case measure => simp [intOf]; omega
      · have HS2 : Hid ((l.take (k + 1)).any takesB = true) := by rw [HS.out, hs]; rfl
        clear HS
        go_wp2
        go_roundw
        case rel => exact ⟨k + 1, by simp, by rw [HS2.out], hlt, by trivial⟩
        case measure => simp [intOf]; omega
    · obtain rfl : k = l.length := by omega
      rw [List.take_length]
      cases hany : l.any takesB
      · have HE : Hid (e1 = 0 ∧ e2 = 11) := by
          have h := HP.out
          rw [hany, if_neg Bool.false_ne_true] at h
          injection h with h1 h2
          exact ⟨h1, h2⟩
        clear hany
        go_wp2
        go_ret2
        exact ⟨by rw [HE.out.1, HE.out.2]; rfl, H2.out.2.2.2.1⟩
      have HC : Hid ((e1, e2) = chosenOut l (chosen l m ws tn)) := by have h := HP.out; rw [if_pos hany] at h; exact h
      clear HP hany hlt hk
      go_wp2
      go_loopw [18, 19] (fun s i wr => ∃ (k n q : Nat), i = .int .i64 k ∧ s = .int .i64 (n : Int) ∧ k ≤ ws.length ∧ n ≤ k ∧ alongV l m ws tn = alongV l m (ws.drop k) (tn - n) ∧ wr = w2.drewN q) (fun _ i _ => ws.length - (intOf i).toNat)
      case atStart => exact ⟨0, 0, 0, rfl, rfl, Nat.zero_le _, Nat.zero_le _, rfl, rfl⟩
      case round =>
        obtain ⟨k, n, q, rfl, rfl, hk, hn, hal, rfl⟩ := hrel
        by_cases hlt : k < ws.length
        · obtain ⟨b1, o1, rfl, hb1, d1⟩ := H2.out.2.1 k hlt
          have hkI : (k : Int) < (ws.length : Int) := by omega
          have hs1 := fun h => along_skip (l := l) (m := m) (t := tn - n) hlt h
          have hs3 := fun i h => along_hit (l := l) (m := m) (t := tn - n) (i := i) hlt h
          have hs4 := fun i j h => along_miss (l := l) (m := m) (t := j) (i := i) hlt h
          obtain ⟨x, hx⟩ : ∃ x, x = ws[k] := ⟨_, rfl⟩
          rw [← hx] at d1 hs1 hs3 hs4
          have HS : Hid (_ ∧ _ ∧ _ ∧ _) := ⟨hs1, hs3, hs4, hal⟩
          clear hs1 hs3 hs4 hx hal hb1
          go_wp2_with fail
          refine (refLoad_any _ l x _ (H2.out.2.2.2.2.2.2.2.2.below (below_drewN (Below.refl _ _) q)) H2.out.2.2.2.2.2.2.1).mono ?_
          cases hf : find (mineB x) l with
          | none =>
            rintro r w3 ⟨rfl, rfl⟩
            rw [show idxOf none = -1 from rfl]
            have HG : Hid (alongV l m ws tn = alongV l m (ws.drop (k + 1)) (tn - n)) := by rw [HS.out.2.2.2]; exact HS.out.1 hf
            clear hf d1
            go_wp2
            go_roundw
            case rel => exact ⟨k + 1, n, q, by simp, rfl, hlt, by omega, HG.out, rfl⟩
            case measure => simp [intOf]; omega
          | some i =>
            rintro r w3 ⟨rfl, rfl⟩
            rw [show idxOf (some i) = (i : Int) from rfl]
            have hil := (find_is hf).1
            obtain ⟨bL, oL, rfl, hbL, f1, _, f3⟩ := H2.out.1 i hil
            obtain ⟨bM, oM, rfl, hbM, g1⟩ := H2.out.2.2.1 i (by rw [H2.out.2.2.2.2.1]; exact hil)
            have hrm := room_of (List.getElem?_eq_getElem hil) (List.getElem?_eq_getElem (show i < m.length by rw [H2.out.2.2.2.2.1]; exact hil))
            have hgd : l.getD i ld0 = l[i] := by simp [hil]
            obtain ⟨⟨z1, z2, z3⟩, hz⟩ : ∃ z, z = l[i] := ⟨_, rfl⟩
            rw [← hz] at f1 f3 hrm hgd
            replace hrm : roomB l m i = decide (z3 < m[i]'(by rw [H2.out.2.2.2.2.1]; exact hil)) := hrm
            generalize (m[i]'(by rw [H2.out.2.2.2.2.1]; exact hil)) = cp at g1 hrm
            have hi0 : (0 : Int) ≤ (i : Int) := by omega
            have hiI : (i : Int) < (l.length : Int) := by omega
            have hiM : (i : Int) < (m.length : Int) := by rw [H2.out.2.2.2.2.1]; exact hiI
            have HF : Hid (_ ∧ _ ∧ _) := ⟨hf, hrm, hgd⟩
            clear hf hrm hgd hz hbL hbM d1
            by_cases hnt : n + 1 ≤ tn
            · have hntd : decide (((n : Int) + 1) ≤ (tn : Int)) = true := decide_eq_true (by omega)
              cases hr : decide (z3 < cp)
              · have HG : Hid (alongV l m ws tn = alongV l m (ws.drop (k + 1)) (tn - (n + 1))) := by
                  rw [HS.out.2.2.2, show tn - n = (tn - (n + 1)) + 1 by omega]
                  exact HS.out.2.2.1 i _ HF.out.1 (HF.out.2.1.trans hr)
                clear f1
                go_wp2
                refine wp_region_quiet_lit (by kernel_rfl) (by kernel_rfl) ?_
                repeat (first | go_big_quiet_skip | quiet_step (fail))
                refine wpQuiet_nil ?_
                intro _ hw'
                obtain ⟨nq, hw''⟩ := hw'
                subst hw''
                go_wp2
                go_roundw
                case rel => exact ⟨k + 1, n + 1, q + nq, by simp, by simp, hlt, by omega, HG.out, by simp [World.drewN, Nat.add_assoc]⟩
                case measure => simp [intOf]; omega
              · have HG : Hid (e1 = z1 ∧ e2 = 0) := by
                  have h := HC.out
                  unfold chosen at h
                  rw [HS.out.2.2.2, HS.out.2.1 i HF.out.1 (by omega) (HF.out.2.1.trans hr)] at h
                  simp only [chosenOut] at h
                  rw [HF.out.2.2] at h
                  injection h with h1 h2
                  exact ⟨h1, h2⟩
                go_wp2
                refine wp_region_quiet_lit (by kernel_rfl) (by kernel_rfl) ?_
                repeat (first | go_big_quiet_skip | quiet_step (fail))
                refine wpQuiet_nil ?_
                intro _ hw'
                obtain ⟨nq, hw''⟩ := hw'
                subst hw''
                go_wp2
                go_ret2
                exact ⟨by rw [HG.out.1, HG.out.2]; rfl, below_drewN H2.out.2.2.2.1 _⟩
            · have hntd : decide (((n : Int) + 1) ≤ (tn : Int)) = false := decide_eq_false (by omega)
              have hg : alongV l m ws tn = alongV l m (ws.drop (k + 1)) (tn - (n + 1)) := by
                rw [HS.out.2.2.2, show tn - n = 0 by omega, show tn - (n + 1) = 0 by omega, along_zero, along_zero]
              have HG : Hid _ := hg
              clear f1 f3 g1 hg
              go_wp2
              refine wp_region_quiet_lit (by kernel_rfl) (by kernel_rfl) ?_
              repeat (first | go_big_quiet_skip | quiet_step (fail))
              refine wpQuiet_nil ?_
              intro _ hw'
              obtain ⟨nq, hw''⟩ := hw'
              subst hw''
              go_wp2
              go_roundw
              case rel => exact ⟨k + 1, n + 1, q + nq, by simp, by simp, hlt, by omega, HG.out, by simp [World.drewN, Nat.add_assoc]⟩
              case measure => simp [intOf]; omega
        · have HD : Hid ((e1, e2) = chosenOut l (leastTo l m l.length)) := by
            have h := HC.out
            unfold chosen at h
            rw [hal, List.drop_of_length_le (by omega)] at h
            exact h
          clear hal HC
          have hl0 : (l.length : Int) ≤ 12 := by omega
          go_wp2
          go_loopw [21, 22] (fun s i wr => ∃ (k q : Nat) (o : Option Nat), i = .int .i64 ((k : Int) - 1) ∧ s = .int .i64 (idxOf o) ∧ k ≤ l.length ∧ IsBest l m k l.length o ∧ wr = w2.drewN q) (fun _ i _ => (intOf i + 1).toNat)
          case atStart => exact ⟨l.length, q, none, rfl, rfl, Nat.le_refl _, fun j h1 h2 => by omega, rfl⟩
          case round =>
            obtain ⟨k, q, o, rfl, rfl, hk, hbest, rfl⟩ := hrel
            cases k with
            | zero =>
              have ho : o = leastTo l m l.length := best_one hbest (best_least H2.out.2.2.2.2.2.1 l.length)
              subst ho
              rw [show ((0 : Nat) : Int) - 1 = -1 by omega]
              cases hle : leastTo l m l.length with
              | none =>
                rw [show idxOf none = -1 from rfl]
                have HE : Hid (e1 = 0 ∧ e2 = 9) := by
                  have h := HD.out
                  rw [hle] at h
                  simp only [chosenOut] at h
                  injection h with h1 h2
                  exact ⟨h1, h2⟩
                clear hbest hle
                go_wp2
                go_ret2
                exact ⟨by rw [HE.out.1, HE.out.2]; rfl, below_drewN H2.out.2.2.2.1 _⟩
              | some i =>
                rw [show idxOf (some i) = (i : Int) from rfl]
                obtain ⟨hil, _⟩ := least_at H2.out.2.2.2.2.2.1 hle
                obtain ⟨bL, oL, rfl, hbL, f1, _, _⟩ := H2.out.1 i hil
                have hgd : l.getD i ld0 = l[i] := by simp [hil]
                have HE : Hid (e1 = l[i].1 ∧ e2 = 0) := by
                  have h := HD.out
                  rw [hle] at h
                  simp only [chosenOut] at h
                  rw [hgd] at h
                  injection h with h1 h2
                  exact ⟨h1, h2⟩
                generalize l[i].1 = z1 at f1 HE
                have hi0 : (0 : Int) ≤ (i : Int) := by omega
                have hiI : (i : Int) < (l.length : Int) := by omega
                clear hbest hle hgd hbL
                go_wp2
                go_ret2
                exact ⟨by rw [HE.out.1, HE.out.2]; rfl, below_drewN H2.out.2.2.2.1 _⟩
            | succ k =>
              rw [show ((k + 1 : Nat) : Int) - 1 = (k : Int) by omega]
              have hkl : k < l.length := by omega
              obtain ⟨bL, oL, rfl, hbL, _, f2, f3⟩ := H2.out.1 k hkl
              obtain ⟨bM, oM, rfl, hbM, g1⟩ := H2.out.2.2.1 k (by rw [H2.out.2.2.2.2.1]; exact hkl)
              have hrm := room_of (List.getElem?_eq_getElem hkl) (List.getElem?_eq_getElem (show k < m.length by rw [H2.out.2.2.2.2.1]; exact hkl))
              have hgd : l.getD k ld0 = l[k] := by simp [hkl]
              have hokk := H2.out.2.2.2.2.2.2.1 l[k] (List.getElem_mem hkl)
              have hrW := H2.out.2.2.2.2.2.1 k
              rw [hgd] at hrW
              obtain ⟨⟨z1, z2, z3⟩, hz⟩ : ∃ z, z = l[k] := ⟨_, rfl⟩
              rw [← hz] at f2 f3 hrm hgd hokk hrW
              replace hrm : roomB l m k = decide (z3 < m[k]'(by rw [H2.out.2.2.2.2.1]; exact hkl)) := hrm
              generalize (m[k]'(by rw [H2.out.2.2.2.2.1]; exact hkl)) = cp at g1 hrm
              replace hrW : roomB l m k = true → 0 < z2 := hrW
              have hk0 : (0 : Int) ≤ (k : Int) := by omega
              have hkI : (k : Int) < (l.length : Int) := by omega
              have hkM : (k : Int) < (m.length : Int) := by rw [H2.out.2.2.2.2.1]; exact hkI
              have HK : Hid (_ ∧ _ ∧ _ ∧ _) := ⟨hrm, hgd, hokk, hbest⟩
              clear hgd hokk hz hbM hbest
              cases hz2 : (z2 == 0)
              case true =>
                have hnr : roomB l m k = false := by
                  cases h : roomB l m k with
                  | false => rfl
                  | true =>
                    have h1 := hrW h
                    have h2 : z2 = 0 := by simpa using hz2
                    omega
                have HN : Hid (IsBest l m k l.length o) := best_down_no HK.out.2.2.2 (.inl hnr)
                clear hnr hrm hrW f3 g1
                go_wp2
                refine wp_region_quiet_lit (by kernel_rfl) (by kernel_rfl) ?_
                repeat (first | go_big_quiet_skip | quiet_step (fail))
                refine wpQuiet_nil ?_
                intro _ hw'
                obtain ⟨nq, hw''⟩ := hw'
                subst hw''
                go_wp2
                go_roundw
                case rel => exact ⟨k, q + nq, o, rfl, rfl, by omega, HN.out, by simp [World.drewN, Nat.add_assoc]⟩
                case measure => simp [intOf]
              case false =>
              cases hcz : decide (cp ≤ z3)
              case true =>
                have hnr : roomB l m k = false := by rw [hrm]; exact decide_eq_false (by have := of_decide_eq_true hcz; omega)
                have HN : Hid (IsBest l m k l.length o) := best_down_no HK.out.2.2.2 (.inl hnr)
                clear hnr hrm hrW
                go_wp2
                refine wp_region_quiet_lit (by kernel_rfl) (by kernel_rfl) ?_
                repeat (first | go_big_quiet_skip | quiet_step (fail))
                refine wpQuiet_nil ?_
                intro _ hw'
                obtain ⟨nq, hw''⟩ := hw'
                subst hw''
                go_wp2
                go_roundw
                case rel => exact ⟨k, q + nq, o, rfl, rfl, by omega, HN.out, by simp [World.drewN, Nat.add_assoc]⟩
                case measure => simp [intOf]
              case false =>
              have hroom : roomB l m k = true := by rw [hrm]; exact decide_eq_true (by have := of_decide_eq_false hcz; omega)
              cases o with
              | none =>
                rw [show idxOf none = -1 from rfl]
                have HN : Hid (IsBest l m k l.length (some k)) := best_down_yes H2.out.2.2.2.2.2.1 hkl HK.out.2.2.2 hroom (fun j e => by cases e)
                clear hroom hrm hrW
                go_wp2
                refine wp_region_quiet_lit (by kernel_rfl) (by kernel_rfl) ?_
                repeat (first | go_big_quiet_skip | quiet_step (fail))
                refine wpQuiet_nil ?_
                intro _ hw'
                obtain ⟨nq, hw''⟩ := hw'
                subst hw''
                go_wp2
                refine wp_region_quiet_lit (by kernel_rfl) (by kernel_rfl) ?_
                repeat (first | go_big_quiet_skip | quiet_step (fail))
                refine wpQuiet_nil ?_
                intro _ hw'
                obtain ⟨nq2, hw''⟩ := hw'
                subst hw''
                go_wp2
                go_roundw
                case rel => exact ⟨k, q + nq + nq2, some k, rfl, rfl, by omega, HN.out, by simp [World.drewN, Nat.add_assoc]⟩
                case measure => simp [intOf]
              | some j =>
                rw [show idxOf (some j) = (j : Int) from rfl]
                have hjl : j < l.length := HK.out.2.2.2.1.2.1
                obtain ⟨_, _, eb, _, _, f5, f6⟩ := H2.out.1 j hjl
                injection eb with eb
                injection eb with eb eo
                subst eb eo
                have hokj := H2.out.2.2.2.2.2.2.1 l[j] (List.getElem_mem hjl)
                have hgj : l.getD j ld0 = l[j] := by simp [hjl]
                obtain ⟨⟨y1, y2, y3⟩, hy⟩ : ∃ y, y = l[j] := ⟨_, rfl⟩
                rw [← hy] at f5 f6 hokj hgj
                obtain ⟨⟨a1, a2⟩, a3, a4⟩ := HK.out.2.2.1
                obtain ⟨⟨b1, b2⟩, b3, b4⟩ := hokj
                simp only at a1 a2 a3 a4 b1 b2 b3 b4
                have m1 : 0 ≤ z3 * y2 := Int.mul_nonneg a3 b1
                have m2 : z3 * y2 ≤ 40 * 8 := Int.mul_le_mul a4 b2 b1 (by omega)
                have m3 : 0 ≤ y3 * z2 := Int.mul_nonneg b3 a1
                have m4 : y3 * z2 ≤ 40 * 8 := Int.mul_le_mul b4 a2 a1 (by omega)
                have u1 : IntKind.i64.wrap (z3 * y2) = z3 * y2 := by
                  rw [IntKind.wrap_i64]
                  generalize z3 * y2 = P at *
                  omega
                have u2 : IntKind.i64.wrap (y3 * z2) = y3 * z2 := by
                  rw [IntKind.wrap_i64]
                  generalize y3 * z2 = P at *
                  omega
                have hlb : lessB l j k = decide (y3 * z2 < z3 * y2) := by unfold lessB; rw [hgj, HK.out.2.1]
                have hj0 : (0 : Int) ≤ (j : Int) := by omega
                have hjI : (j : Int) < (l.length : Int) := by omega
                have hjn : ¬ ((j : Int) < 0) := by omega
                clear a1 a2 a3 a4 b1 b2 b3 b4 m1 m2 m3 m4 hgj hy hrm hrW
                cases hcm : decide (z3 * y2 ≤ y3 * z2)
                · have HN : Hid (IsBest l m k l.length (some j)) := best_down_no HK.out.2.2.2 (.inr ⟨j, rfl, by rw [hlb]; exact decide_eq_true (by have := of_decide_eq_false hcm; omega)⟩)
                  clear hlb hroom
                  go_wp2
                  refine wp_region_quiet_lit (by kernel_rfl) (by kernel_rfl) ?_
                  repeat (first | go_big_quiet_skip | quiet_step (fail))
                  refine wpQuiet_nil ?_
                  intro _ hw'
                  obtain ⟨nq, hw''⟩ := hw'
                  subst hw''
                  go_wp2
                  refine wp_region_quiet_lit (by kernel_rfl) (by kernel_rfl) ?_
                  repeat (first | go_big_quiet_skip | quiet_step (fail))
                  refine wpQuiet_nil ?_
                  intro _ hw'
                  obtain ⟨nq2, hw''⟩ := hw'
                  subst hw''
                  go_wp2
                  go_roundw
                  case rel => exact ⟨k, q + nq + nq2, some j, rfl, rfl, by omega, HN.out, by simp [World.drewN, Nat.add_assoc]⟩
                  case measure => simp [intOf]
                · have HN : Hid (IsBest l m k l.length (some k)) := best_down_yes H2.out.2.2.2.2.2.1 hkl HK.out.2.2.2 hroom (fun i e => by injection e with e; subst e; rw [hlb]; exact decide_eq_false (by have := of_decide_eq_true hcm; omega))
                  clear hlb hroom
                  go_wp2
                  refine wp_region_quiet_lit (by kernel_rfl) (by kernel_rfl) ?_
                  repeat (first | go_big_quiet_skip | quiet_step (fail))
                  refine wpQuiet_nil ?_
                  intro _ hw'
                  obtain ⟨nq, hw''⟩ := hw'
                  subst hw''
                  go_wp2
                  refine wp_region_quiet_lit (by kernel_rfl) (by kernel_rfl) ?_
                  repeat (first | go_big_quiet_skip | quiet_step (fail))
                  refine wpQuiet_nil ?_
                  intro _ hw'
                  obtain ⟨nq2, hw''⟩ := hw'
                  subst hw''
                  go_wp2
                  go_roundw
                  case rel => exact ⟨k, q + nq + nq2, some k, rfl, rfl, by omega, HN.out, by simp [World.drewN, Nat.add_assoc]⟩
                  case measure => simp [intOf]
end Go.Proofs.Ytjkiahdeaeiopaa.Walks
