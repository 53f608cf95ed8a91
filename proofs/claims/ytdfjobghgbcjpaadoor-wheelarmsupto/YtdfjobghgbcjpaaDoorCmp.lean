/-
  How two timers compare: by tick, then by number. No condition.
-/
import Derived.Test.YtdfjobghgbcjpaaDoorPlace2
import Derived.WalkKit
import Derived.ProofKit
import Derived.Handy
import Derived.LoopTactic
import Derived.Below
import Derived.Laws.BitsAllLaws
import Derived.RegionTactic
import Derived.Deep.RegionHeld3
import Derived.Deep.DrawnRows
import Derived.Deep.AppendLies
import Derived.Laws.OwnMore
import Derived.Deep.Onto
import Derived.Deep.QuietTactic
import Derived.BigQuiet
namespace Go.Proofs.YtdfjobghgbcjpaaDoor.Walks
open Go.RowKit
set_option linter.unusedVariables false
set_option linter.unusedSimpArgs false
attribute [local go_sem ↓] Go.wp_at_zero Go.wp_at_succ

set_option maxHeartbeats 2000000 in
theorem or_two (a b : Int) (g : Nat) (w : World) (h0 : w.cell? ⟨g, 0, none⟩ = some (.int .i64 a)) (h1 : w.cell? ⟨g, 1, none⟩ = some (.int .i64 b)) :
    Calls Tryd.prog 42 #[.slice (some ⟨g, 0, none⟩) 2 2] w fun r w' => r = .returned (.int .i64 (if a = 0 then b else a)) ∧ w' = w := by
  obtain ⟨ans, hans⟩ : ∃ ans, ans = if a = 0 then b else a := ⟨_, rfl⟩
  rw [← hans]
  have H : Hid _ := hans
  clear hans
  go_enter Tryd.func42, Tryd.ntmps42
  go_wp2
  go_loop [8] (fun i => ∃ k : Nat, i = .int .i64 k ∧ k ≤ 2 ∧ (1 ≤ k → a = 0) ∧ (2 ≤ k → b = 0)) (fun i => 2 - (intOf i).toNat)
  case atStart => exact ⟨0, rfl, by omega, by omega, by omega⟩
  case round =>
    obtain ⟨k, rfl, hk, k1, k2⟩ := hrel
    have hk3 : k = 0 ∨ k = 1 ∨ k = 2 := by omega
    rcases hk3 with rfl | rfl | rfl
    · cases ha : (a != 0)
      · have ha' : a = 0 := by simpa using ha
        clear k1 k2
        go_wp2
        go_round
        case rel => exact ⟨1, rfl, by omega, fun _ => ha', by omega⟩
        case measure => simp [intOf]
      · have HE : Hid (ans = a) := by show ans = a; rw [H.out, if_neg (by simpa using ha)]
        clear k1 k2
        go_wp2
        go_ret
        exact ⟨by rw [HE.out]; rfl, rfl⟩
    · have ha := k1 (by omega)
      cases hb : (b != 0)
      · have hb' : b = 0 := by simpa using hb
        clear k1 k2
        go_wp2
        go_round
        case rel => exact ⟨2, rfl, by omega, fun _ => ha, fun _ => hb'⟩
        case measure => simp [intOf]
      · have HE : Hid (ans = b) := by show ans = b; rw [H.out, if_pos ha]
        clear k1 k2 ha
        go_wp2
        go_ret
        exact ⟨by rw [HE.out]; rfl, rfl⟩
    · have HE : Hid (ans = 0) := by show ans = 0; rw [H.out, if_pos (k1 (by omega)), k2 (by omega)]
      clear k1 k2
      go_wp2
      go_ret
      exact ⟨by rw [HE.out]; rfl, rfl⟩

theorem cmpT_eq (a b : Tm) : cmpT a b = if cmpI a.1 b.1 = 0 then cmpI a.2 b.2 else cmpI a.1 b.1 := by
  unfold cmpT cmpI
  repeat' split
  all_goals first | rfl | omega

theorem held22 {w w' : World} {g k : Nat} {v1 v2 v3 v4 : Value} (h1 : w.cell? ⟨g, 0, none⟩ = some v1) (h2 : w.cell? ⟨g, 1, none⟩ = some v2) (h3 : w.cell? ⟨k, 0, none⟩ = some v3) (h4 : w.cell? ⟨k, 1, none⟩ = some v4)
    (hb : Below w.heap.size w w') : w'.cell? ⟨g, 0, none⟩ = some v1 ∧ w'.cell? ⟨g, 1, none⟩ = some v2 ∧ w'.cell? ⟨k, 0, none⟩ = some v3 ∧ w'.cell? ⟨k, 1, none⟩ = some v4 ∧ Below w.heap.size w w' :=
  ⟨(hb.cell (p := ⟨g, 0, none⟩) (World.block_lt_of_cell? w ⟨g, 0, none⟩ h1)).trans h1, (hb.cell (p := ⟨g, 1, none⟩) (World.block_lt_of_cell? w ⟨g, 1, none⟩ h2)).trans h2, (hb.cell (p := ⟨k, 0, none⟩) (World.block_lt_of_cell? w ⟨k, 0, none⟩ h3)).trans h3, (hb.cell (p := ⟨k, 1, none⟩) (World.block_lt_of_cell? w ⟨k, 1, none⟩ h4)).trans h4, hb⟩

set_option maxHeartbeats 2000000 in
theorem compareTimers_is (a b c d : Int) (w : World) :
    Calls Tryd.prog 32 #[.agg #[.int .i64 a, .int .i64 b], .agg #[.int .i64 c, .int .i64 d]] w fun r w' => r = .returned (.int .i64 (cmpT (a, b) (c, d))) ∧ w' = (((w.alloc (.cells #[.int .i64 a, .int .i64 b] 45)).alloc (.cells #[.int .i64 c, .int .i64 d] 45)).alloc (.cells #[.int .i64 (cmpI a c), .int .i64 (cmpI b d)] 3)).drew := by
  obtain ⟨ans, hans⟩ : ∃ ans, ans = cmpT (a, b) (c, d) := ⟨_, rfl⟩
  rw [← hans]
  rw [cmpT_eq] at hans
  obtain ⟨x, hx⟩ : ∃ x, x = cmpI a c := ⟨_, rfl⟩
  obtain ⟨y, hy⟩ : ∃ y, y = cmpI b d := ⟨_, rfl⟩
  rw [← hx, ← hy] at hans
  have H : Hid (_ ∧ _ ∧ _) := ⟨hans, hx, hy⟩
  clear hans hx hy
  rw [← H.out.2.1, ← H.out.2.2]
  go_enter Tryd.func32, Tryd.ntmps32
  go_wp2_with fail
  generalize hw2 : (w.alloc (.cells #[.int .i64 a, .int .i64 b] 45)).alloc (.cells #[.int .i64 c, .int .i64 d] 45) = w2
  have k1 : w2.cell? ⟨w.heap.size, 0, none⟩ = some (.int .i64 a) := by rw [← hw2]; simp
  have k2 : w2.cell? ⟨w.heap.size, 1, none⟩ = some (.int .i64 b) := by rw [← hw2]; simp
  have k3 : w2.cell? ⟨w.heap.size + 1, 0, none⟩ = some (.int .i64 c) := by rw [← hw2]; simp
  have k4 : w2.cell? ⟨w.heap.size + 1, 1, none⟩ = some (.int .i64 d) := by rw [← hw2]; simp
  have HW : Hid _ := hw2
  clear hw2
  go_region_held3 (fun w' => w'.cell? ⟨w.heap.size, 0, none⟩ = some (.int .i64 a) ∧ w'.cell? ⟨w.heap.size, 1, none⟩ = some (.int .i64 b) ∧ w'.cell? ⟨w.heap.size + 1, 0, none⟩ = some (.int .i64 c) ∧ w'.cell? ⟨w.heap.size + 1, 1, none⟩ = some (.int .i64 d) ∧ Below w2.heap.size w2 w') (first | exact held22 k1 k2 k3 k4 ((Below.refl _ _).drew) | exact held22 k1 k2 k3 k4 (((Below.refl _ _).drew).alloc (Nat.le_refl _) _)) (first | (go_at_call_of 43 (Value.int .i64 a); refine (compare_any a c _).mono ?_; rw [← H.out.2.1]; rintro r w1 ⟨rfl, rfl⟩) | (go_at_call_of 43 (Value.int .i64 b); refine (compare_any b d _).mono ?_; rw [← H.out.2.2]; rintro r w1 ⟨rfl, rfl⟩) | (go_at_call 42; refine (or_two x y w2.heap.size _ (by simp) (by simp)).mono ?_; rw [← H.out.1]; rintro r w1 ⟨rfl, rfl⟩))
  go_wp2
  go_ret
  exact ⟨rfl, by rw [HW.out]⟩

theorem compareTimers_any (a b c d : Int) (w : World) :
    Calls Tryd.prog 32 #[.agg #[.int .i64 a, .int .i64 b], .agg #[.int .i64 c, .int .i64 d]] w fun r w' => r = .returned (.int .i64 (cmpT (a, b) (c, d))) ∧ Below w.heap.size w w' :=
  (compareTimers_is a b c d w).mono fun r w' h => ⟨h.1, by rw [h.2]; exact ((((Below.refl _ _).alloc (Nat.le_refl _) _).alloc (by simp) _).alloc (by simp; omega) _).drew⟩
end Go.Proofs.YtdfjobghgbcjpaaDoor.Walks
