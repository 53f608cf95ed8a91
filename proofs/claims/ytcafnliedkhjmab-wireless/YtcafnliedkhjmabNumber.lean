/-
  A number's bytes: the program's appendNumber and the document's numberBytes both lay the number's bytes. Condition: the number is from 0 to 4294967295.
-/
import Derived.Test.YtcafnliedkhjmabRows
import Derived.Test.YtcafnliedkhjmabChecked
import Derived.Test.YtcafnliedkhjmabFault
import Derived.Deep.QuietTactic
import Derived.BigQuiet
import Derived.WalkKit
import Derived.ProofKit
import Derived.Handy
import Derived.LoopTactic
import Derived.Below
import Derived.Laws.BitsAllLaws
import Derived.RegionTactic
import Derived.Deep.RegionHeld3
import Derived.Deep.DrawnRows
import Derived.Deep.AppendLies
import Derived.Laws.OwnMore
namespace Go.Proofs.Ytcafnliedkhjmab.Walks
open Go.RowKit
open Go.Proofs.Ytcafnliedkhjmab.Plain
set_option linter.unusedVariables false
attribute [local go_sem ↓] Go.wp_at_zero Go.wp_at_succ


theorem Try.info5 : (Try.prog.info? 5).map (fun i => (i.zero, i.size, i.bytes)) = some (some (.int .u8 0), 1, 1) := by kernel_rfl

/-- Bytes as they lie in memory. -/
def bcells (l : List Nat) : List Value := l.map fun x => .int .u8 ((x : Nat) : Int)

theorem news_one {w : World} {x : Value} (t : TypeId) : ∀ j u, [x][j]? = some u → (w.alloc (.cells #[x] t)).cell? ((⟨w.heap.size, 0, none⟩ : Addr).add j) = some u := by
  intro j u hj
  match j, hj with
  | 0, hj => simp at hj; subst hj; simp [Addr.add]

theorem or_more : ∀ x : Nat, x < 256 → x ||| 128 = x % 128 + 128 := by decide +kernel
theorem or_byte (k : Nat) : bits .or .u8 ((k : Int) % 256) 128 = ((k % 128 + 128 : Nat) : Int) := by
  have h := u8_or_nat (k % 256) 128 (by omega) (by omega)
  rw [or_more _ (by omega), show k % 256 % 128 = k % 128 by omega] at h
  rw [← h]; congr 1
theorem enc_own {w : World} {base : Nat} {v : Value} {l : List Nat} {x m : Nat} {c : Value} (h : w.ownsRow base 5 1 v m (bcells l ++ [c])) (hm : m = l.length + 1) (hc : c = .int .u8 ((x : Nat) : Int)) : w.ownsRow base 5 1 v (l ++ [x]).length (bcells (l ++ [x])) := by
  subst hm hc; simpa [bcells] using h

set_option maxHeartbeats 400000 in
theorem append_any (base : Nat) (v : Value) (l : List Nat) (n : Nat) (w : World) (hown : w.ownsRow base 5 1 v l.length (bcells l)) (hbase : base ≤ w.heap.size) (hl : l.length ≤ 1000) (hn : n ≤ 4294967295) :
    Calls Try.prog 11 #[v, .int .i64 (n : Int)] w fun r w' => ∃ v', r = .returned v' ∧ w'.ownsRow base 5 1 v' (l ++ enc n).length (bcells (l ++ enc n)) ∧ Below base w w' := by
  obtain ⟨i0, hi, hz0, hz1, hz2⟩ := info_parts Try.info5
  go_enter Try.func11, Try.ntmps11
  go_wp2
  go_loopw [0, 1] (fun x i wr => ∃ (k : Nat) (pre : List Nat), k ≤ n ∧ i = .int .i64 (k : Int) ∧ enc n = pre ++ enc k ∧ wr.ownsRow base 5 1 x (l ++ pre).length (bcells (l ++ pre)) ∧ Below base w wr ∧ pre.length + k ≤ n) (fun _ i _ => (intOf i).toNat)
  case atStart => exact ⟨n, [], Nat.le_refl _, rfl, rfl, by simpa using hown, Below.refl _ _, by simp⟩
  case round =>
    obtain ⟨k, pre, hk, rfl, hpre, hown, hb, hpl⟩ := hrel
    have HP : Hid (_ ∧ _) := ⟨hpre, hb⟩
    have hbs : base ≤ wr.heap.size := by have := hb.size; omega
    clear hpre
    by_cases hlt : k < 128
    · have h1 : decide ((128 : Int) ≤ (k : Int)) = false := by simp; omega
      have HK : Hid (k < 128) := hlt
      clear hk hlt hb
      go_wp2_with (at_builtin; refine wpList_append_own _ rfl _ _ 23 rfl base 5 i0 (.int .u8 0) 1 1 Try.underlying23 hi hz0 hz1 hz2 rfl (by decide) _ _ _ rfl (hown.alloc _) ⟨wr.heap.size, 0, none⟩ 1 1 [.int .u8 ((k : Int) % 256)] rfl rfl (news_one 5) (by intro u hu; simp at hu; subst hu; rfl) (by unfold maxLen; simp; omega) (by simp; omega) (by simp; omega) ?_)
      intro v' w1 hown' hgrow _
      go_wp2
      go_ret
      refine ⟨_, rfl, ?_, ?_⟩
      · rw [HP.out.1, enc_small k HK.out, ← List.append_assoc]
        exact enc_own hown' (by simp) (by have := HK.out; congr 1; omega)
      · exact (HP.out.2.alloc hbs _).grown hgrow (by simp; omega) (fun k' hk' => (hown.lt k' hk').1)
    · have h1 : (128 : Int) ≤ (k : Int) := by omega
      have hor := or_byte k
      have HK : Hid (¬ k < 128) := hlt
      clear hb hlt
      go_wp2_with (at_builtin; refine wpList_append_own _ rfl _ _ 23 rfl base 5 i0 (.int .u8 0) 1 1 Try.underlying23 hi hz0 hz1 hz2 rfl (by decide) _ _ _ rfl (hown.alloc _) ⟨wr.heap.size, 0, none⟩ 1 1 [.int .u8 ((k % 128 + 128 : Nat) : Int)] rfl rfl (news_one 5) (by intro u hu; simp at hu; subst hu; rfl) (by unfold maxLen; simp; omega) (by simp; omega) (by simp; omega) ?_)
      intro v' w1 hown' hgrow _
      go_wp2
      go_roundw
      case rel =>
        refine ⟨k / 128, pre ++ [k % 128 + 128], by omega, by go_num, ?_, ?_, ?_, by simp; omega⟩
        · rw [HP.out.1, enc_great k HK.out, List.append_assoc]; rfl
        · rw [← List.append_assoc]; exact enc_own hown' (by simp) (by congr 1)
        · exact (HP.out.2.alloc hbs _).grown hgrow (by simp; omega) (fun k' hk' => (hown.lt k' hk').1)
      case measure => simp [intOf]; omega

theorem enc_pos (n : Nat) : 0 < (enc n).length := by
  by_cases h : n < 128
  · rw [enc_small n h]; simp
  · rw [enc_great n h]; simp

theorem enc_le : ∀ (f n : Nat), n < f → (enc n).length ≤ n + 1
  | 0, n, h => by omega
  | f + 1, n, h => by
    by_cases h1 : n < 128
    · rw [enc_small n h1]; simp
    · rw [enc_great n h1]
      have := enc_le f (n / 128) (by omega)
      simp; omega

theorem bcells_one (l : List Nat) : ∀ u ∈ bcells l, u.oneCell' = true := by
  intro u hu; simp [bcells] at hu; obtain ⟨x, _, rfl⟩ := hu; rfl

end Go.Proofs.Ytcafnliedkhjmab.Walks
