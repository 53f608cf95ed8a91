/-
  The program's place of a timer, its bounds, its order, which blocks begin and where their timers waited: as the document has them. The package's table of blocks lies as its initialiser has laid it; ticks lie within bounds.
-/
import Derived.Test.YtdfjobghgbcjpaaDoorNew0
import Derived.WalkKit
import Derived.ProofKit
import Derived.Handy
import Derived.LoopTactic
import Derived.Below
import Derived.Laws.BitsAllLaws
import Derived.RegionTactic
import Derived.Deep.RegionHeld3
import Derived.Deep.DrawnRows
import Derived.Deep.AppendLies
import Derived.Laws.OwnMore
import Derived.Deep.Onto
import Derived.Deep.QuietTactic
import Derived.BigQuiet
namespace Go.Proofs.YtdfjobghgbcjpaaDoor.Walks
open Go.RowKit
set_option linter.unusedVariables false
set_option linter.unusedSimpArgs false
attribute [local go_sem ↓] Go.wp_at_zero Go.wp_at_succ

/-- The table of blocks, as it was laid. -/
structure Blk (w : World) : Prop where
  c0 : w.cell? ⟨0, 0, none⟩ = some (.int .i64 8)
  c1 : w.cell? ⟨0, 1, none⟩ = some (.int .i64 64)
  c2 : w.cell? ⟨0, 2, none⟩ = some (.int .i64 512)

theorem Blk.lt {w : World} (h : Blk w) : 0 < w.heap.size := World.block_lt_of_cell? w ⟨0, 0, none⟩ h.c0

theorem Blk.keep {w w' : World} (h : Blk w) (h0 : w'.heap[0]? = w.heap[0]?) : Blk w' :=
  ⟨(World.cell?_of_block (a := ⟨0, 0, none⟩) h0).trans h.c0, (World.cell?_of_block (a := ⟨0, 1, none⟩) h0).trans h.c1, (World.cell?_of_block (a := ⟨0, 2, none⟩) h0).trans h.c2⟩

theorem Blk.below {w w' : World} (h : Blk w) (hb : Below w.heap.size w w') : Blk w' := h.keep (hb.block 0 h.lt)

theorem Blk.drewN {w : World} (h : Blk w) (q : Nat) : Blk (w.drewN q) := ⟨h.c0, h.c1, h.c2⟩

theorem idx0 (W : World) : (Instr.index 67 (.agg #[.int .i64 8, .int .i64 64, .int .i64 512]) (.int .i64 0)).run Tryd.prog W = .ok (.int .i64 8) W := by kernel_rfl
theorem idx1 (W : World) : (Instr.index 67 (.agg #[.int .i64 8, .int .i64 64, .int .i64 512]) (.int .i64 1)).run Tryd.prog W = .ok (.int .i64 64) W := by kernel_rfl
theorem idx2 (W : World) : (Instr.index 67 (.agg #[.int .i64 8, .int .i64 64, .int .i64 512]) (.int .i64 2)).run Tryd.prog W = .ok (.int .i64 512) W := by kernel_rfl

set_option maxHeartbeats 2000000 in
theorem place_any (x n : Int) (w : World) (hB : Blk w) (hx : 0 ≤ x) (hx2 : x ≤ 4398046511104) (hn : 0 ≤ n) (hn2 : n ≤ 4398046511104) :
    Calls Tryd.prog 30 #[.int .i64 x, .int .i64 n] w fun r w' => r = .returned (.int .i64 (placeOf x n)) ∧ ∃ q, w' = w.drewN q := by
  have a1 : x.tdiv 8 = x / 8 := Int.tdiv_eq_ediv_of_nonneg hx
  have a2 : x.tdiv 64 = x / 64 := Int.tdiv_eq_ediv_of_nonneg hx
  have a3 : x.tdiv 512 = x / 512 := Int.tdiv_eq_ediv_of_nonneg hx
  have a4 : n.tdiv 8 = n / 8 := Int.tdiv_eq_ediv_of_nonneg hn
  have a5 : n.tdiv 64 = n / 64 := Int.tdiv_eq_ediv_of_nonneg hn
  have a6 : n.tdiv 512 = n / 512 := Int.tdiv_eq_ediv_of_nonneg hn
  have a7 : x.tmod 8 = x % 8 := Int.tmod_eq_emod_of_nonneg hx
  have a8 : (x / 8).tmod 8 = x / 8 % 8 := Int.tmod_eq_emod_of_nonneg (by omega)
  have a9 : (x / 64).tmod 8 = x / 64 % 8 := Int.tmod_eq_emod_of_nonneg (by omega)
  obtain ⟨p, hp⟩ : ∃ p, p = placeOf x n := ⟨_, rfl⟩
  rw [← hp]
  unfold placeOf at hp
  have HP : Hid _ := hp
  clear hp
  obtain ⟨c0, c1, c2⟩ := hB
  have i0 := idx0
  have i1 := idx1
  have i2 := idx2
  go_enter Tryd.func30, Tryd.ntmps30
  go_wp2
  go_loopw [8] (fun i wr => ∃ (k : Nat) (q : Nat), i = .int .i64 k ∧ k ≤ 3 ∧ wr = w.drewN q ∧ (1 ≤ k → ¬ x / 8 = n / 8) ∧ (2 ≤ k → ¬ x / 64 = n / 64) ∧ (3 ≤ k → ¬ x / 512 = n / 512)) (fun i _ => 3 - (intOf i).toNat)
  case atStart => exact ⟨0, 0, rfl, by omega, rfl, by omega, by omega, by omega⟩
  case round =>
    obtain ⟨k, q, rfl, hk, rfl, k1, k2, k3⟩ := hrel
    have hk4 : k = 0 ∨ k = 1 ∨ k = 2 ∨ k = 3 := by omega
    rcases hk4 with rfl | rfl | rfl | rfl
    · by_cases h1 : x / 8 = n / 8
      · have HE : Hid (p = x % 8) := by show p = _; rw [HP.out, if_pos h1]
        go_wp2
        go_region
        go_wp2
        go_ret
        exact ⟨by rw [HE.out]; rfl, q + 1, rfl⟩
      · have HE : Hid (¬ x / 8 = n / 8) := h1
        clear k1 k2 k3
        go_wp2
        go_region
        go_wp2
        go_roundw
        case rel => exact ⟨1, q + 1, rfl, by omega, rfl, fun _ => HE.out, by omega, by omega⟩
        case measure => simp [intOf]
    · by_cases h1 : x / 64 = n / 64
      · have HE : Hid (p = 8 + x / 8 % 8) := by show p = _; rw [HP.out, if_neg (k1 (by omega)), if_pos h1]
        clear k1 k2 k3
        go_wp2
        go_region
        go_wp2
        go_ret
        exact ⟨by rw [HE.out]; rfl, q + 1, rfl⟩
      · have HE : Hid (_ ∧ ¬ x / 64 = n / 64) := ⟨k1 (by omega), h1⟩
        clear k1 k2 k3
        go_wp2
        go_region
        go_wp2
        go_roundw
        case rel => exact ⟨2, q + 1, rfl, by omega, rfl, fun _ => HE.out.1, fun _ => HE.out.2, by omega⟩
        case measure => simp [intOf]
    · by_cases h1 : x / 512 = n / 512
      · have HE : Hid (p = 16 + x / 64 % 8) := by show p = _; rw [HP.out, if_neg (k1 (by omega)), if_neg (k2 (by omega)), if_pos h1]
        clear k1 k2 k3
        go_wp2
        go_region
        go_wp2
        go_ret
        exact ⟨by rw [HE.out]; rfl, q + 1, rfl⟩
      · have HE : Hid (_ ∧ _ ∧ ¬ x / 512 = n / 512) := ⟨k1 (by omega), k2 (by omega), h1⟩
        clear k1 k2 k3
        go_wp2
        go_region
        go_wp2
        go_roundw
        case rel => exact ⟨3, q + 1, rfl, by omega, rfl, fun _ => HE.out.1, fun _ => HE.out.2.1, fun _ => HE.out.2.2⟩
        case measure => simp [intOf]
    · have HE : Hid (p = 24) := by show p = _; rw [HP.out, if_neg (k1 (by omega)), if_neg (k2 (by omega)), if_neg (k3 (by omega))]
      clear k1 k2 k3
      go_wp2
      go_ret
      exact ⟨by rw [HE.out]; rfl, q, rfl⟩
end Go.Proofs.YtdfjobghgbcjpaaDoor.Walks
