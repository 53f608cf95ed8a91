/-
  What the program's mix and the document's mixed answer of a list of bytes, and the places of keys and spots: the same numbers. Condition: the list lies in memory, each number is a byte's.
-/
import Derived.Test.YtpmobbbohchdlabMixP
import Derived.WalkKit
import Derived.ProofKit
import Derived.Handy
import Derived.LoopTactic
import Derived.Below
import Derived.Laws.BitsAllLaws
import Derived.RegionTactic
import Derived.Deep.RegionHeld3
import Derived.Deep.DrawnRows
import Derived.Deep.AppendLies
import Derived.Laws.OwnMore
import Derived.Deep.Onto
import Derived.Deep.QuietTactic
import Derived.BigQuiet
namespace Go.Proofs.Ytpmobbbohchdlab.Walks
open Go.RowKit
set_option linter.unusedVariables false
set_option linter.unusedSimpArgs false
attribute [local go_sem ↓] Go.wp_at_zero Go.wp_at_succ

set_option maxHeartbeats 400000 in
theorem mix_any (b : Nat) (l : List Nat) (w : World) (hb : l.length ≤ 1000) (hr : ∀ j, l.getD j 0 < 256) (hc : ∀ j, j < l.length → w.cell? ⟨b, j, none⟩ = some (.int .u8 ((l.getD j 0 : Nat) : Int))) :
    Calls Try.prog 25 #[.slice (some ⟨b, 0, none⟩) l.length l.length] w fun e w' => e = .returned (.int .i64 ((mixOf l : Nat) : Int)) ∧ w' = w := by
  go_enter Try.func25, Try.ntmps25
  go_hidden (go_wp2)
  go_loop [3, 8] (fun s i => ∃ k : Nat, k ≤ l.length ∧ i = .int .i64 k ∧ s = .int .u32 ((mixOf (l.take k) : Nat) : Int)) (fun _ i => l.length - (intOf i).toNat)
  case atStart => exact ⟨0, Nat.zero_le _, rfl, rfl⟩
  case round =>
    obtain ⟨k, hk, rfl, rfl⟩ := hrel
    by_cases hlt : k < l.length
    · have hcell := hc k hlt
      have hx := hr k
      have hs := mixOf_take l k hlt
      have hm := mixOf_lt (l.take k)
      generalize l.getD k 0 = c at *
      generalize mixOf (l.take k) = h at *
      have e1 := u32_xor_nat h c hm (by omega)
      have hxl := xor_lt h c hm (by omega)
      have HS : Hid (mixOf (l.take (k + 1)) = mixStep h c) := hs
      clear hs
      go_hidden (go_wp2)
      go_round
      case rel => exact ⟨k + 1, by omega, by go_num, by rw [HS.out, step_cast]⟩
      case measure => simp [intOf]; omega
    · have : k = l.length := by omega
      subst this
      have hm := mixOf_lt l
      go_hidden (go_wp2)
      go_ret
      exact ⟨rfl, rfl⟩

theorem ret_bool {a b : Bool} (h : a = b) : Ending.returned (.bool a) = .returned (.bool b) := by rw [h]

theorem mix4 (a b c d : Int) (w : World) (a0 : 0 ≤ a) (a1 : a < 256) (b0 : 0 ≤ b) (b1 : b < 256) (c0 : 0 ≤ c) (c1 : c < 256) (d0 : 0 ≤ d) (d1 : d < 256) :
    Calls Try.prog 25 #[.slice (some ⟨w.heap.size, 0, none⟩) 4 4] (w.alloc (.cells #[.int .u8 a, .int .u8 b, .int .u8 c, .int .u8 d] 5)) fun e w' => e = .returned (.int .i64 ((mixOf [a.toNat, b.toNat, c.toNat, d.toNat] : Nat) : Int)) ∧ w' = w.alloc (.cells #[.int .u8 a, .int .u8 b, .int .u8 c, .int .u8 d] 5) := by
  refine mix_any w.heap.size [a.toNat, b.toNat, c.toNat, d.toNat] _ (by simp) ?_ ?_
  · intro j
    match j with
    | 0 => simp; omega
    | 1 => simp; omega
    | 2 => simp; omega
    | 3 => simp; omega
    | j + 4 => simp
  · intro j hj
    match j, hj with
    | 0, _ => simp [go_sem]; omega
    | 1, _ => simp [go_sem]; omega
    | 2, _ => simp [go_sem]; omega
    | 3, _ => simp [go_sem]; omega

theorem keyMix_int (n : Nat) (h : n ≤ 4294967295) : mixOf [((n : Int) % 256).toNat, ((n : Int) / 256 % 256).toNat, ((n : Int) / 65536 % 256).toNat, ((n : Int) / 16777216).toNat] = keyMix n := by
  unfold keyMix bytesOf
  rw [show ((n : Int) % 256).toNat = n % 256 by omega, show ((n : Int) / 256 % 256).toNat = n / 256 % 256 by omega, show ((n : Int) / 65536 % 256).toNat = n / 65536 % 256 by omega, show ((n : Int) / 16777216).toNat = n / 16777216 % 256 by omega]

set_option maxHeartbeats 400000 in
theorem key_any (n : Nat) (w : World) (h : n ≤ 4294967295) :
    Calls Try.prog 15 #[.int .i64 (n : Int)] w fun e w' => e = .returned (.tuple #[.int .i64 ((keyMix n : Nat) : Int), .int .i64 0]) ∧ Below w.heap.size w w' := by
  rw [← keyMix_int n h]
  go_enter Try.func15, Try.ntmps15
  go_wp2_with fail
  refine (mix4 _ _ _ _ _ (by omega) (by omega) (by omega) (by omega) (by omega) (by omega) (by omega) (by omega)).mono ?_
  rintro e w' ⟨rfl, rfl⟩
  go_wp2
  go_ret2
  exact ⟨rfl, (Below.refl _ _).alloc (Nat.le_refl _) _⟩

theorem key_out (n : Int) (w : World) (h : n < 0 ∨ 4294967295 < n) :
    Calls Try.prog 15 #[.int .i64 n] w fun e w' => e = .returned (.tuple #[.int .i64 0, .int .i64 2]) ∧ w' = w := by
  rcases h with h | h
  · go_enter Try.func15, Try.ntmps15
    go_wp2
    go_ret2
    exact ⟨rfl, rfl⟩
  · have h0 : ¬ n < 0 := by omega
    go_enter Try.func15, Try.ntmps15
    go_wp2
    go_ret2
    exact ⟨rfl, rfl⟩

theorem spotMix_int (b i : Nat) : mixOf [(98 : Int).toNat, ((b : Int)).toNat, ((i : Int)).toNat, (115 : Int).toNat] = spotMix b i := by
  unfold spotMix
  rw [Int.toNat_natCast, Int.toNat_natCast, show (98 : Int).toNat = 98 by omega, show (115 : Int).toNat = 115 by omega]

set_option maxHeartbeats 400000 in
theorem spot_any (b i : Nat) (w : World) (hb : b < 12) (hi : i < 32) :
    Calls Try.prog 31 #[.int .i64 (b : Int), .int .i64 (i : Int)] w fun e w' => e = .returned (.tuple #[.int .i64 ((spotMix b i : Nat) : Int), .int .i64 0]) ∧ Below w.heap.size w w' := by
  rw [← spotMix_int b i]
  go_enter Try.func31, Try.ntmps31
  go_wp2_with fail
  refine (mix4 _ _ _ _ _ (by omega) (by omega) (by omega) (by omega) (by omega) (by omega) (by omega) (by omega)).mono ?_
  rintro e w' ⟨rfl, rfl⟩
  go_wp2
  go_ret2
  exact ⟨rfl, (Below.refl _ _).alloc (Nat.le_refl _) _⟩

theorem spot_out (b i : Int) (w : World) (h : b < 0 ∨ (0 ≤ b ∧ 12 ≤ b) ∨ (0 ≤ b ∧ b < 12 ∧ i < 0) ∨ (0 ≤ b ∧ b < 12 ∧ 0 ≤ i ∧ 32 ≤ i)) :
    Calls Try.prog 31 #[.int .i64 b, .int .i64 i] w fun e w' => e = .returned (.tuple #[.int .i64 0, .int .i64 2]) ∧ w' = w := by
  rcases h with h1 | ⟨h1, h2⟩ | ⟨h1, h2, h3⟩ | ⟨h1, h2, h3, h4⟩
  all_goals
    go_enter Try.func31, Try.ntmps31
    go_wp2
    go_ret2
    exact ⟨rfl, rfl⟩

end Go.Proofs.Ytpmobbbohchdlab.Walks
