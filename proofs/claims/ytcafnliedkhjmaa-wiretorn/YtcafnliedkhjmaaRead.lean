/-
  The program's number: what it reads at the front of a slice of bytes. Condition: at most 64 bytes, which lie in memory.
-/
import Derived.Test.YtcafnliedkhjmaaRows
import Derived.Test.YtcafnliedkhjmaaChecked
import Derived.Test.YtcafnliedkhjmaaBytes
import Derived.Deep.QuietTactic
import Derived.BigQuiet
import Derived.WalkKit
import Derived.ProofKit
import Derived.Handy
import Derived.LoopTactic
import Derived.Below
import Derived.Laws.BitsAllLaws
import Derived.RegionTactic
import Derived.Deep.RegionHeld3
import Derived.Deep.DrawnRows
import Derived.Deep.AppendLies
import Derived.Laws.OwnMore
import Derived.Deep.Onto
namespace Go.Proofs.Ytcafnliedkhjmaa.Walks
open Go.RowKit
open Go.Proofs.Ytcafnliedkhjmaa.Plain
set_option linter.unusedVariables false
attribute [local go_sem ↓] Go.wp_at_zero Go.wp_at_succ



theorem ofInt64 (n : Nat) (h : n < 18446744073709551616) : (BitVec.ofInt 64 (n : Int)).toNat = n := by
  rw [BitVec.ofInt_natCast, BitVec.toNat_ofNat]
  exact Nat.mod_eq_of_lt h
theorem or_i64 (a b : Nat) (ha : a < 2 ^ 62) (hb : b < 2 ^ 62) : bits .or .i64 (a : Int) (b : Int) = ((a ||| b : Nat) : Int) := by
  show IntKind.i64.wrap ((BitVec.ofInt 64 (a : Int) ||| BitVec.ofInt 64 (b : Int)).toNat : Int) = _
  rw [BitVec.toNat_or, ofInt64 a (by omega), ofInt64 b (by omega)]
  have := Nat.or_lt_two_pow ha hb
  simp only [IntKind.wrap, IntKind.bits, IntKind.signed]
  simp
  omega
theorem not_more : ∀ x : Nat, x < 256 → x &&& (255 - 128) = x % 128 := by decide +kernel
theorem and_more : ∀ x : Nat, x < 256 → x &&& 128 = if 128 ≤ x then 128 else 0 := by decide +kernel
theorem pow7 (k : Nat) : (2 : Nat) ^ (k * 7) = 128 ^ k := by rw [Nat.mul_comm, Nat.pow_mul]

theorem acc_eq (n x k : Nat) (hn : n < 128 ^ k) (hk : k < 6) (hx : x < 256) :
    bits .or .i64 (n : Int) (wrap64 (wrap64 (bits .andNot .u8 (x : Int) 128) * 2 ^ (k * 7))) = ((n + x % 128 * 128 ^ k : Nat) : Int) := by
  have h1 : bits .andNot .u8 (x : Int) 128 = ((x % 128 : Nat) : Int) := by
    have := u8_andNot_nat x 128 hx (by omega)
    rw [not_more x hx] at this; exact this
  have hp : 128 ^ k ≤ 128 ^ 5 := Nat.pow_le_pow_right (by omega) (by omega)
  have hy : x % 128 < 128 := by omega
  generalize x % 128 = y at *
  have hm : y * 128 ^ k < 2 ^ 43 := by
    calc y * 128 ^ k ≤ 127 * 128 ^ 5 := Nat.mul_le_mul (by omega) hp
      _ < 2 ^ 43 := by decide
  have h2 : wrap64 ((y : Nat) : Int) = y := by unfold wrap64; omega
  have h3 : ((y : Nat) : Int) * 2 ^ (k * 7) = ((y * 128 ^ k : Nat) : Int) := by rw [← pow7]; simp
  have h4 : wrap64 ((y * 128 ^ k : Nat) : Int) = ((y * 128 ^ k : Nat) : Int) := by generalize y * 128 ^ k = z at *; unfold wrap64; omega
  rw [h1, h2, h3, h4, or_i64 n _ (by omega) (by omega)]
  congr 1
  have := Nat.two_pow_add_eq_or_of_lt (i := k * 7) (b := n) (by rw [pow7]; exact hn) y
  rw [pow7] at this
  rw [Nat.or_comm, Nat.mul_comm y, ← this]; omega

theorem val_lt : ∀ (l : List Nat), val l < 128 ^ l.length
  | [] => by simp [val]
  | x :: t => by
    have := val_lt t
    simp only [val, List.length_cons, Nat.pow_succ]
    omega
theorem val_snoc : ∀ (l : List Nat) (x : Nat), val (l ++ [x]) = val l + x % 128 * 128 ^ l.length
  | [], x => by simp [val]
  | y :: t, x => by
    simp only [List.cons_append, val, val_snoc t x, List.length_cons, Nat.pow_succ, Nat.mul_add, ← Nat.add_assoc]
    congr 1
    rw [Nat.mul_left_comm, Nat.mul_comm 128]

theorem getD_at (l : List Nat) (k : Nat) (h : k < l.length) : l.getD k 0 = l[k] := by simp [List.getD, List.getElem?_eq_getElem h]

theorem lead_stop : ∀ (f : Nat) (l : List Nat) (k : Nat), k ≤ f → k ≤ l.length → (∀ j, j < k → 128 ≤ l.getD j 0) → (k = f ∨ k = l.length ∨ l.getD k 0 < 128) → lead f l = k
  | 0, l, k, h1, h2, h3, h4 => by simp [lead]; omega
  | f + 1, [], k, h1, h2, h3, h4 => by simp at h2; simp [lead, h2]
  | f + 1, x :: t, 0, h1, h2, h3, h4 => by
    have : x < 128 := by
      rcases h4 with h | h | h
      · omega
      · simp at h
      · simpa using h
    rw [lead, if_neg (by omega)]
  | f + 1, x :: t, k + 1, h1, h2, h3, h4 => by
    have hx : 128 ≤ x := by simpa using h3 0 (by omega)
    rw [lead, if_pos hx, lead_stop f t k (by omega) (by simpa using h2) (fun j hj => by simpa using h3 (j + 1) (by omega))]
    rcases h4 with h | h | h
    · exact .inl (by omega)
    · exact .inr (.inl (by simpa using h))
    · exact .inr (.inr (by simpa using h))

theorem rd_long (l : List Nat) (hl : 6 < l.length) (h : ∀ j, j < 6 → 128 ≤ l.getD j 0) : rd l = .inl 2 := by
  have := lead_stop 6 l 6 (by omega) (by omega) h (.inl rfl)
  unfold rd; rw [this, if_pos ⟨rfl, hl⟩]
theorem rd_short (l : List Nat) (hl : l.length ≤ 6) (h : ∀ j, j < l.length → 128 ≤ l.getD j 0) : rd l = .inl 4 := by
  have := lead_stop 6 l l.length hl (by omega) h (.inr (.inl rfl))
  unfold rd; rw [this, if_neg (by omega), if_pos rfl]
theorem rd_form (l : List Nat) (k : Nat) (hk : k ≤ 6) (hl : k < l.length) (h : ∀ j, j < k → 128 ≤ l.getD j 0) (h0 : l.getD k 0 = 0) (hp : 0 < k) (h6 : k < 6) : rd l = .inl 3 := by
  have := lead_stop 6 l k (by omega) (by omega) h (.inr (.inr (by omega)))
  unfold rd; rw [this, if_neg (by omega), if_neg (by omega), if_pos ⟨h0, hp⟩]
theorem rd_good (l : List Nat) (k : Nat) (hl : k < l.length) (h : ∀ j, j < k → 128 ≤ l.getD j 0) (h0 : l.getD k 0 < 128) (hn : ¬ (l.getD k 0 = 0 ∧ 0 < k)) (h6 : k < 6) : rd l = .inr (val (l.take (k + 1)), k + 1) := by
  have := lead_stop 6 l k (by omega) (by omega) h (.inr (.inr h0))
  unfold rd; rw [this, if_neg (by omega), if_neg (by omega), if_neg hn]

theorem val_take (l : List Nat) (k : Nat) (h : k < l.length) : val (l.take (k + 1)) = val (l.take k) + l.getD k 0 % 128 * 128 ^ k := by
  rw [List.take_succ_eq_append_getElem h, val_snoc, getD_at l k h, List.length_take, Nat.min_eq_left (by omega)]
theorem val_take_lt (l : List Nat) (k : Nat) (h : k ≤ l.length) : val (l.take k) < 128 ^ k := by
  have := val_lt (l.take k)
  rwa [List.length_take, Nat.min_eq_left h] at this

def RdPost (l : List Nat) (w : World) (r : Ending) (w' : World) : Prop :=
  (∀ c, rd l = .inl c → r = .returned (.tuple #[.int .i64 0, .int .i64 0, .int .i64 c])) ∧ (∀ n s, rd l = .inr (n, s) → r = .returned (.tuple #[.int .i64 (n : Int), .int .i64 (s : Int), .int .i64 0])) ∧ w' = w

theorem rdPost_bad {l : List Nat} {w : World} {c : Int} (h : rd l = .inl c) : RdPost l w (.returned (.tuple #[.int .i64 0, .int .i64 0, .int .i64 c])) w :=
  ⟨fun c' h' => (by rw [h] at h'; cases h'; rfl), fun n s h' => (by rw [h] at h'; cases h'), rfl⟩
theorem rdPost_ok {l : List Nat} {w : World} {n s : Nat} {a b : Int} (h : rd l = .inr (n, s)) (ha : a = n) (hb : b = s) : RdPost l w (.returned (.tuple #[.int .i64 a, .int .i64 b, .int .i64 0])) w :=
  ⟨fun c' h' => (by rw [h] at h'; cases h'), fun n s h' => (by rw [h] at h'; cases h'; rw [ha, hb]), rfl⟩

set_option maxHeartbeats 1000000 in
theorem rd_any (b off cap : Nat) (l : List Nat) (w : World) (hl : l.length ≤ 64) (hx : ∀ x ∈ l, x < 256) (hcell : ∀ i, i < l.length → w.cell? ⟨b, off + i, none⟩ = some (.int .u8 ((l.getD i 0 : Nat) : Int))) :
    Calls Try.prog 32 #[.slice (some ⟨b, off, none⟩) l.length cap] w (RdPost l w) := by
  have HC : Hid (_ ∧ _) := ⟨hcell, hx⟩
  clear hcell hx
  go_enter Try.func32, Try.ntmps32
  go_wp2
  go_loop [5, 10] (fun s i => ∃ k : Nat, k ≤ l.length ∧ k ≤ 6 ∧ i = .int .i64 (k : Int) ∧ s = .int .i64 ((val (l.take k) : Nat) : Int) ∧ ∀ j, j < k → 128 ≤ l.getD j 0) (fun _ i => l.length - (intOf i).toNat)
  case atStart => exact ⟨0, Nat.zero_le _, by omega, rfl, rfl, fun j h => by omega⟩
  case round =>
    obtain ⟨k, hk, hk6, rfl, rfl, hall⟩ := hrel
    by_cases hlt : k < l.length
    · have hc := HC.out.1 k hlt
      have hxk : l.getD k 0 < 256 := by rw [getD_at l k hlt]; exact HC.out.2 _ (List.getElem_mem hlt)
      have hvt := val_take l k hlt
      have hvl := val_take_lt l k (by omega)
      have HX : Hid (∃ x, x = l.getD k 0) := ⟨_, rfl⟩
      obtain ⟨x, hxe⟩ := HX.out
      rw [← hxe] at hc hxk hvt
      generalize val (l.take k) = n at *
      have HA : Hid (_ ∧ _ ∧ _ ∧ _) := ⟨hall, hxe, hvt, hvl⟩
      clear hall hxe hvt hvl HX
      by_cases h6 : k = 6
      · subst h6
        go_wp2
        go_ret3
        exact rdPost_bad (rd_long l hlt HA.out.1)
      · have h6' : ((k : Int) == 6) = false := by simp; omega
        have hk5 : k < 6 := by omega
        have hac := acc_eq n x k HA.out.2.2.2 hk5 hxk
        rw [← HA.out.2.2.1] at hac
        have hand : bits .and .u8 (x : Int) 128 = (((if 128 ≤ x then 128 else 0) : Nat) : Int) := by
          have := u8_and_nat x 128 hxk (by omega)
          rw [and_more x hxk] at this; exact this
        have HQ : Hid (_ ∧ _) := ⟨hac, h6⟩
        clear hac h6
        by_cases hx1 : 128 ≤ x
        · rw [if_pos hx1] at hand
          go_wp2
          go_round
          case rel =>
            refine ⟨k + 1, by omega, by omega, by go_num, by rw [HQ.out.1], fun j hj => ?_⟩
            by_cases hjk : j < k
            · exact HA.out.1 j hjk
            · have : j = k := by omega
              subst this
              rw [← HA.out.2.1]; exact hx1
          case measure => simp [intOf]; omega
        · rw [if_neg hx1] at hand
          by_cases hx0 : x = 0 ∧ 0 < k
          · obtain ⟨rfl, hkp⟩ := hx0
            have hkp' : (0 : Int) < (k : Int) := by omega
            go_wp2
            go_ret3
            exact rdPost_bad (rd_form l k hk6 hlt HA.out.1 HA.out.2.1.symm hkp hk5)
          · have hg := rd_good l k hlt HA.out.1 (by rw [← HA.out.2.1]; omega) (by rw [← HA.out.2.1]; exact hx0) hk5
            have HG : Hid (rd l = Sum.inr (val (List.take (k + 1) l), k + 1)) := hg
            clear hg
            by_cases hxz : x = 0
            · subst hxz
              have hk0 : k = 0 := by omega
              subst hk0
              simp only [Nat.add_zero] at hc
              clear h6' hx0
              go_wp2
              go_ret3
              exact rdPost_ok HG.out (by have h := HQ.out.1; rw [Nat.zero_mul, Int.pow_zero, Int.mul_one] at h; exact h) rfl
            · have hxz' : ((x : Int) == 0) = false := by simp; omega
              clear hx0
              go_wp2
              go_ret3
              exact rdPost_ok HG.out HQ.out.1 (by simp)
    · have hkl : k = l.length := by omega
      subst hkl
      have HS : Hid (rd l = .inl 4) := rd_short l hk6 hall
      clear hall
      go_wp2
      go_ret3
      exact rdPost_bad HS.out

set_option maxHeartbeats 400000 in
theorem rd_empty (a : Option Addr) (cap : Nat) (w : World) : Calls Try.prog 32 #[.slice a 0 cap] w (RdPost [] w) := by
  have HS : Hid (rd [] = .inl 4) := rfl
  go_enter Try.func32, Try.ntmps32
  go_wp2
  go_loop [5, 10] (fun s i => i = .int .i64 0) (fun _ i => 0)
  case atStart => rfl
  case round =>
    subst hrel
    go_wp2
    go_ret3
    exact rdPost_bad HS.out

theorem rd_ok_le {l : List Nat} {n s : Nat} (h : rd l = .inr (n, s)) : 1 ≤ s ∧ s ≤ l.length ∧ s ≤ 6 ∧ n < 128 ^ 6 := by
  unfold rd at h
  have h6 : ∀ (f : Nat) (l : List Nat), lead f l ≤ f ∧ lead f l ≤ l.length := by
    intro f
    induction f with
    | zero => intro l; simp [lead]
    | succ f ih =>
      intro l
      cases l with
      | nil => simp [lead]
      | cons x t =>
        unfold lead
        split
        · have := ih t; simp; omega
        · simp
  have hl := h6 6 l
  split at h
  · cases h
  · split at h
    · cases h
    · split at h
      · cases h
      · rename_i h1 h2 h3
        cases h
        have hs : lead 6 l + 1 ≤ l.length := by omega
        refine ⟨by omega, hs, by omega, ?_⟩
        have := val_take_lt l (lead 6 l + 1) hs
        exact Nat.lt_of_lt_of_le this (Nat.pow_le_pow_right (by omega) (by omega))
end Go.Proofs.Ytcafnliedkhjmaa.Walks
