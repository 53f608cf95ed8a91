/-
  picker.Pick. Condition: the walk and the loads can be read.
-/
import Derived.Test.YtjkiahdeaeiopaaLeast
import Derived.WalkKit
import Derived.ProofKit
import Derived.Handy
import Derived.LoopTactic
import Derived.Below
import Derived.Laws.BitsAllLaws
import Derived.RegionTactic
import Derived.Deep.RegionHeld3
import Derived.Deep.DrawnRows
import Derived.Deep.AppendLies
import Derived.Laws.OwnMore
import Derived.Deep.Onto
import Derived.Deep.QuietTactic
import Derived.BigQuiet
namespace Go.Proofs.Ytjkiahdeaeiopaa.Walks
open Go.RowKit
set_option linter.unusedVariables false
set_option linter.unusedSimpArgs false
attribute [local go_sem ↓] Go.wp_at_zero Go.wp_at_succ

theorem CapsRes.form {o : Int × List Int} {w : World} {r : Ending} {w' : World} (h : CapsRes o w r w') : ∃ p c, r = .returned (.tuple #[.slice p o.2.length c, .int .i64 o.1]) ∧ IntsAt w' (.slice p o.2.length c) o.2 ∧ Below w.heap.size w w' := by
  obtain ⟨y, rfl, hi, hb⟩ := h
  obtain ⟨p, c, rfl, _⟩ := hi.parts
  exact ⟨p, c, rfl, hi, hb⟩

theorem least_at {l : List Ld} {m : List Int} {i : Nat} (hw : RoomW l m) (h : leastTo l m l.length = some i) : i < l.length ∧ roomB l m i = true := by
  have := best_least hw l.length
  rw [h] at this
  exact ⟨this.1.2.1, this.1.2.2⟩

set_option maxHeartbeats 8000000 in
set_option maxRecDepth 100000 in
theorem pick_any (y v : Value) (ws : List Int) (l : List Ld) (a b c t : Int) (w : World) (hy : IntsAt w y ws) (hv : LdAt w v l) :
    Calls Try.prog 11 #[y, v, .int .i64 a, .int .i64 b, .int .i64 c, .int .i64 t] w fun r w' => r = .returned (.tuple #[.int .i64 (pickOut ws l a b c t).1, .int .i64 (pickOut ws l a b c t).2]) ∧ Below w.heap.size w w' := by
  obtain ⟨py, cy, rfl, _, hmy, _⟩ := hy.parts
  obtain ⟨pv, cv, rfl, _, hmv, _⟩ := hv.parts
  unfold maxLen at hmy hmv
  obtain ⟨e1, e2, hans⟩ : ∃ e1 e2, pickOut ws l a b c t = (e1, e2) := ⟨_, _, rfl⟩
  rw [hans]
  obtain ⟨W0, hW0⟩ : ∃ W0, W0 = w.alloc (.cells #[.slice pv l.length cv] 23) := ⟨_, rfl⟩
  have hb0 : Below w.heap.size w W0 := by rw [hW0]; exact below_newL _
  have hc0 : W0.cell? ⟨w.heap.size, 0, none⟩ = some (.slice pv l.length cv) := by rw [hW0]; exact (cell_of_row _ w.heap.size 0 _ 23 (0, 0) (heap_alloc_new w _)).trans rfl
  have hlt0 : w.heap.size < W0.heap.size := World.block_lt_of_cell? W0 _ hc0
  have H0 : Hid (_ ∧ _ ∧ _ ∧ _ ∧ _) := ⟨hW0, hb0, hc0, hv.below hb0, hy.below hb0⟩
  have HA : Hid (_ ∧ True) := ⟨hans, trivial⟩
  clear hW0 hb0 hc0 hv hy hans
  go_enter Try.func11, Try.ntmps11
  go_wp2_with fail
  rw [← H0.out.1]
  refine (caps_any _ l a b c _ H0.out.2.2.2.1).mono ?_
  rintro r w1 hr1
  obtain ⟨p1, c1, rfl, hi1, hb1⟩ := hr1.form
  clear hr1
  cases hok : lokB l
  · have ho : capsOut l a b c = (6, []) := by unfold capsOut; rw [hok, if_neg Bool.false_ne_true]
    have HE : Hid (e1 = 0 ∧ e2 = 6) := by
      have h := HA.out.1
      unfold pickOut at h
      rw [hok, if_neg Bool.false_ne_true] at h
      injection h with h1 h2
      exact ⟨h1.symm, h2.symm⟩
    rw [ho]
    have HB : Hid _ := H0.out.2.1.trans (hb1.mono H0.out.2.1.size)
    clear hi1 hb1 ho hok
    go_wp2
    go_ret2
    exact ⟨by rw [HE.out.1, HE.out.2]; rfl, HB.out.alloc HB.out.size _⟩
  by_cases hf : Fac a b c
  case neg =>
    have ho : capsOut l a b c = (2, []) := by unfold capsOut; rw [if_pos hok, if_neg hf]
    have HE : Hid (e1 = 0 ∧ e2 = 2) := by
      have h := HA.out.1
      unfold pickOut at h
      rw [if_pos hok, if_neg hf] at h
      injection h with h1 h2
      exact ⟨h1.symm, h2.symm⟩
    rw [ho]
    have HB : Hid _ := H0.out.2.1.trans (hb1.mono H0.out.2.1.size)
    clear hi1 hb1 ho hok hf
    go_wp2
    go_ret2
    exact ⟨by rw [HE.out.1, HE.out.2]; rfl, HB.out.alloc HB.out.size _⟩
  have ho : capsOut l a b c = (0, capsL a b c l) := by unfold capsOut; rw [if_pos hok, if_pos hf]
  rw [ho] at hi1 ⊢
  have hL := lokB_iff.1 hok
  have hrw := roomW (a := a) (b := b) (c := c) hL
  obtain ⟨m, hm⟩ : ∃ m, m = capsL a b c l := ⟨_, rfl⟩
  have hml : m.length = l.length := by rw [hm]; simp [capsL]
  rw [← hm] at hi1 hrw ⊢
  have hp : pickOut ws l a b c t = if 0 ≤ t ∧ t ≤ 12 ∧ ws.length ≤ 12 then if l.any takesB then chosenOut l (chosen l m ws t.toNat) else (0, 11) else (0, 2) := by
    unfold pickOut
    rw [if_pos hok, if_pos hf, ← hm]
  rw [HA.out.1] at hp
  have hb2 := H0.out.2.1.trans (hb1.mono H0.out.2.1.size)
  have hc1 := (hb1.cell (p := ⟨w.heap.size, 0, none⟩) hlt0).trans H0.out.2.2.1
  obtain ⟨W2, hW2⟩ : ∃ W2, W2 = w1.alloc (.cells #[.slice p1 m.length c1] 22) := ⟨_, rfl⟩
  have hbW2 : Below w1.heap.size w1 W2 := by rw [hW2]; exact below_newL _
  have hc2 : W2.cell? ⟨w1.heap.size, 0, none⟩ = some (.slice p1 m.length c1) := by rw [hW2]; exact (cell_of_row _ w1.heap.size 0 _ 22 (0, 0) (heap_alloc_new w1 _)).trans rfl
  have hlt1 : w.heap.size < w1.heap.size := Nat.lt_of_lt_of_le hlt0 hb1.size
  have hE2 : Env W2 w.heap.size w1.heap.size (.slice pv l.length cv) (.slice p1 m.length c1) l m := ⟨(hbW2.cell (p := ⟨w.heap.size, 0, none⟩) hlt1).trans hc1, hc2, (H0.out.2.2.2.1.below hb1).below hbW2, hi1.below hbW2⟩
  have hY2 := (H0.out.2.2.2.2.below hb1).below hbW2
  have hB2 := hb2.trans (hbW2.mono hb2.size)
  have H2 : Hid (_ ∧ _ ∧ _ ∧ _ ∧ _ ∧ _ ∧ _ ∧ _) := ⟨hW2, hE2, hY2, hB2, hml, hrw, hL, hp⟩
  clear hW2 hE2 hY2 hB2 hc2 hbW2 hb2 hb1 hp hm hi1 hL ho hf hok HA hrw hml H0
  rcases (by omega : t < 0 ∨ (0 ≤ t ∧ 12 < t) ∨ (0 ≤ t ∧ t ≤ 12)) with h1 | ⟨h1, h2⟩ | ⟨h1, h2⟩
  · have HE : Hid (e1 = 0 ∧ e2 = 2) := by
      have h := H2.out.2.2.2.2.2.2.2
      rw [if_neg (by omega)] at h
      injection h with h1 h2
      exact ⟨h1, h2⟩
    go_wp2
    rw [← H2.out.1]
    go_ret2
    exact ⟨by rw [HE.out.1, HE.out.2]; rfl, H2.out.2.2.2.1⟩
  · have HE : Hid (e1 = 0 ∧ e2 = 2) := by
      have h := H2.out.2.2.2.2.2.2.2
      rw [if_neg (by omega)] at h
      injection h with h1 h2
      exact ⟨h1, h2⟩
    go_wp2
    rw [← H2.out.1]
    go_ret2
    exact ⟨by rw [HE.out.1, HE.out.2]; rfl, H2.out.2.2.2.1⟩
  obtain ⟨tn, rfl⟩ := Int.eq_ofNat_of_zero_le h1
  rcases Nat.lt_or_ge 12 ws.length with h3 | h3
  · have HE : Hid (e1 = 0 ∧ e2 = 2) := by
      have h := H2.out.2.2.2.2.2.2.2
      rw [if_neg (by omega)] at h
      injection h with h1 h2
      exact ⟨h1, h2⟩
    have h3I : (12 : Int) < (ws.length : Int) := by omega
    clear h3
    go_wp2
    rw [← H2.out.1]
    go_ret2
    exact ⟨by rw [HE.out.1, HE.out.2]; rfl, H2.out.2.2.2.1⟩
  have h3I : decide ((12 : Int) < (ws.length : Int)) = false := decide_eq_false (by omega)
  have h2I : decide ((12 : Int) < (tn : Int)) = false := decide_eq_false (by omega)
  have h1I : decide ((tn : Int) < 0) = false := decide_eq_false (by omega)
  have HP : Hid ((e1, e2) = if l.any takesB then chosenOut l (chosen l m ws tn) else (0, 11)) := by
    have h := H2.out.2.2.2.2.2.2.2
    rw [if_pos ⟨h1, h2, h3⟩] at h
    rw [Int.toNat_natCast] at h
    exact h
  clear h3
  go_wp2_with fail
  rw [← H2.out.1]
  refine (contains_any _ l _ H2.out.2.1.2.2.1).mono ?_
  cases hany : l.any takesB
  · rintro r w3 ⟨rfl, hb3⟩
    have HE : Hid (e1 = 0 ∧ e2 = 11) := by
      have h := HP.out
      rw [hany, if_neg Bool.false_ne_true] at h
      injection h with h1 h2
      exact ⟨h1, h2⟩
    have HB : Hid _ := H2.out.2.2.2.1.trans (hb3.mono H2.out.2.2.2.1.size)
    clear hb3 hany
    go_wp2
    go_ret2
    exact ⟨by rw [HE.out.1, HE.out.2]; rfl, HB.out⟩
  rintro r w3 ⟨rfl, hb3⟩
  have H3 : Hid (_ ∧ _ ∧ _ ∧ (e1, e2) = chosenOut l (chosen l m ws tn)) := ⟨H2.out.2.1.below hb3, H2.out.2.2.1.below hb3, H2.out.2.2.2.1.trans (hb3.mono H2.out.2.2.2.1.size), by have h := HP.out; rw [if_pos hany] at h; exact h⟩
  clear hb3 hany HP hc1
  have hx1 := H3.out.1.1
  go_wp2_with fail
  refine (along_any _ _ _ ws l m tn w.heap.size w1.heap.size _ H3.out.2.1 H3.out.1 H2.out.2.2.2.2.1 (by omega)).mono ?_
  cases hal : alongV l m ws tn with
  | some i =>
    rintro r w4 ⟨rfl, hb4⟩
    obtain ⟨hi, _, _⟩ := along_room hal
    rw [show idxOf (some i) = (i : Int) from rfl]
    have hx4 := (hb4.cell (p := ⟨w.heap.size, 0, none⟩) (World.block_lt_of_cell? w3 _ hx1)).trans hx1
    have hv4 := H3.out.1.2.2.1.below hb4
    obtain ⟨_, _, q0, _, _, pa⟩ := hv4.parts
    obtain ⟨b1, o1, rfl, _, d1, _, _⟩ := (by injection q0 with q0; subst q0; exact pa i hi : ∃ b off, pv = some ⟨b, off, none⟩ ∧ b < w4.heap.size ∧ w4.cell? ⟨b, off + i * 3, none⟩ = some (.int .i64 l[i].1) ∧ w4.cell? ⟨b, off + i * 3 + 1, none⟩ = some (.int .i64 l[i].2.1) ∧ w4.cell? ⟨b, off + i * 3 + 2, none⟩ = some (.int .i64 l[i].2.2))
    have HE : Hid (e1 = l[i].1 ∧ e2 = 0) := by
      have h := H3.out.2.2.2
      unfold chosen at h
      rw [hal] at h
      simp only [chosenOut] at h
      injection h with h1 h2
      exact ⟨by rw [h1]; simp [hi], h2⟩
    have HB : Hid (Below w.heap.size w w4) := H3.out.2.2.1.trans (hb4.mono H3.out.2.2.1.size)
    have hiI : (i : Int) < (l.length : Int) := by omega
    have hi0 : (0 : Int) ≤ (i : Int) := by omega
    obtain ⟨x, hx⟩ : ∃ x, x = l[i].1 := ⟨_, rfl⟩
    rw [← hx] at d1 HE
    clear hb4 hx1 hv4 q0 pa hal hx
    go_wp2
    go_ret2
    exact ⟨by rw [HE.out.1, HE.out.2]; rfl, HB.out⟩
  | none =>
    rintro r w4 ⟨rfl, hb4⟩
    rw [show idxOf none = -1 from rfl]
    have H4 : Hid (_ ∧ _ ∧ (e1, e2) = chosenOut l (leastTo l m l.length)) := ⟨H3.out.1.below hb4, H3.out.2.2.1.trans (hb4.mono H3.out.2.2.1.size), by have h := H3.out.2.2.2; unfold chosen at h; rw [hal] at h; exact h⟩
    clear hb4 hal hx1
    have hx1 := H4.out.1.1
    go_wp2_with fail
    refine (least_any _ _ l m w.heap.size w1.heap.size _ H4.out.1 H2.out.2.2.2.2.1 (okFrom_all H2.out.2.2.2.2.2.2.1.2)).mono ?_
    cases hle : leastTo l m l.length with
    | none =>
      rintro r w5 ⟨rfl, hb5⟩
      rw [show idxOf none = -1 from rfl]
      have HE : Hid (e1 = 0 ∧ e2 = 9) := by
        have h := H4.out.2.2
        rw [hle] at h
        simp only [chosenOut] at h
        injection h with h1 h2
        exact ⟨h1, h2⟩
      have HB : Hid (Below w.heap.size w w5) := H4.out.2.1.trans (hb5.mono H4.out.2.1.size)
      clear hb5 hx1 hle
      go_wp2
      go_ret2
      exact ⟨by rw [HE.out.1, HE.out.2]; rfl, HB.out⟩
    | some i =>
      rintro r w5 ⟨rfl, hb5⟩
      obtain ⟨hi, _⟩ := least_at H2.out.2.2.2.2.2.1 hle
      rw [show idxOf (some i) = (i : Int) from rfl]
      have hx5 := (hb5.cell (p := ⟨w.heap.size, 0, none⟩) (World.block_lt_of_cell? w4 _ hx1)).trans hx1
      have hv5 := H4.out.1.2.2.1.below hb5
      obtain ⟨_, _, q0, _, _, pa⟩ := hv5.parts
      obtain ⟨b1, o1, rfl, _, d1, _, _⟩ := (by injection q0 with q0; subst q0; exact pa i hi : ∃ b off, pv = some ⟨b, off, none⟩ ∧ b < w5.heap.size ∧ w5.cell? ⟨b, off + i * 3, none⟩ = some (.int .i64 l[i].1) ∧ w5.cell? ⟨b, off + i * 3 + 1, none⟩ = some (.int .i64 l[i].2.1) ∧ w5.cell? ⟨b, off + i * 3 + 2, none⟩ = some (.int .i64 l[i].2.2))
      have HE : Hid (e1 = l[i].1 ∧ e2 = 0) := by
        have h := H4.out.2.2
        rw [hle] at h
        simp only [chosenOut] at h
        injection h with h1 h2
        exact ⟨by rw [h1]; simp [hi], h2⟩
      have HB : Hid (Below w.heap.size w w5) := H4.out.2.1.trans (hb5.mono H4.out.2.1.size)
      have hiI : (i : Int) < (l.length : Int) := by omega
      have hi0 : (0 : Int) ≤ (i : Int) := by omega
      obtain ⟨x, hx⟩ : ∃ x, x = l[i].1 := ⟨_, rfl⟩
      rw [← hx] at d1 HE
      clear hb5 hx1 hv5 q0 pa hle hx
      go_wp2
      go_ret2
      exact ⟨by rw [HE.out.1, HE.out.2]; rfl, HB.out⟩
end Go.Proofs.Ytjkiahdeaeiopaa.Walks
