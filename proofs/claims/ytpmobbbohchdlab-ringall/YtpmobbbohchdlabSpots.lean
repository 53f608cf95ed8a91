/-
  The spots that go with weights: what weights.spots gives. Condition: twelve weights from 0 to 8.
-/
import Derived.Test.YtpmobbbohchdlabSort
import Derived.Test.YtpmobbbohchdlabMix
import Derived.Test.YtpmobbbohchdlabArr
import Derived.WalkKit
import Derived.ProofKit
import Derived.Handy
import Derived.LoopTactic
import Derived.Below
import Derived.Laws.BitsAllLaws
import Derived.RegionTactic
import Derived.Deep.RegionHeld3
import Derived.Deep.DrawnRows
import Derived.Deep.AppendLies
import Derived.Laws.OwnMore
import Derived.Deep.Onto
import Derived.Deep.QuietTactic
import Derived.BigQuiet
namespace Go.Proofs.Ytpmobbbohchdlab.Walks
open Go.RowKit
set_option linter.unusedVariables false
set_option linter.unusedSimpArgs false
attribute [local go_sem ↓] Go.wp_at_zero Go.wp_at_succ

/-- The spots of one backend, the first k. -/
def spots1 (b k : Nat) : List Tm := (List.range k).map fun i => (((spotMix b i : Nat) : Int), (b : Int))

theorem spots1_succ (b k : Nat) : spots1 b (k + 1) = spots1 b k ++ [(((spotMix b k : Nat) : Int), (b : Int))] := by
  unfold spots1
  rw [List.range_succ, List.map_append]
  rfl

theorem spots1_len (b k : Nat) : (spots1 b k).length = k := by simp [spots1]

def wt (a : List Int) (b : Nat) : Nat := (a.getD b 0).toNat

/-- The spots of the first n backends, as they are laid. -/
def raw (a : List Int) : Nat → List Tm
  | 0 => []
  | n + 1 => raw a n ++ spots1 n (wt a n * 4)

/-- Weights that may be. -/
structure Wts (a : List Int) : Prop where
  len : a.length = 12
  low : ∀ b, 0 ≤ a.getD b 0
  high : ∀ b, a.getD b 0 ≤ 8

theorem Wts.wt_le {a : List Int} (h : Wts a) (b : Nat) : wt a b ≤ 8 := by
  have := h.high b
  unfold wt
  omega

theorem raw_len {a : List Int} (h : Wts a) : ∀ n, (raw a n).length ≤ n * 32
  | 0 => by simp [raw]
  | n + 1 => by
    have h1 := raw_len h n
    have h2 := h.wt_le n
    rw [raw, List.length_append, spots1_len]
    omega

def spotsOf (a : List Int) : List Tm := sortT (raw a 12)

theorem spotsOf_len {a : List Int} (h : Wts a) : (spotsOf a).length ≤ 384 := by
  unfold spotsOf
  rw [sortT_len]
  exact raw_len h 12

theorem infoW : (Try.prog.info? 49).map (·.size) = some 12 := by kernel_rfl

theorem run_index_arr (a : List Int) (k : Nat) (ha : a.length = 12) (hk : k < 12) (w : World) : (Instr.index 49 (.agg (icells a).toArray) (.int .i64 (k : Int))).run Try.prog w = .ok (.int .i64 (a.getD k 0)) w := by
  have h : (0 : Int) ≤ (k : Int) ∧ (k : Int) < ((12 : Nat) : Int) := by omega
  have e : (icells a)[k]? = some (.int .i64 (a.getD k 0)) := by
    unfold icells
    rw [List.getElem?_map, List.getElem?_eq_getElem (by omega), List.getD_eq_getElem?_getD, List.getElem?_eq_getElem (by omega)]
    rfl
  simp [Instr.index, run_underlying Try.underlying49, asIntOf, h, go_sem, part, e]
  omega

set_option maxHeartbeats 4000000 in
set_option maxRecDepth 100000 in
theorem spots_any (a : List Int) (w : World) (ha : Wts a) :
    Calls Try.prog 21 #[.agg (icells a).toArray] w fun r w' => ∃ v, r = .returned v ∧ w'.ownsRow w.heap.size 42 2 v (spotsOf a).length (tcells (spotsOf a)) ∧ Below w.heap.size w w' := by
  obtain ⟨i0, hi, hz0, hz1, hz2⟩ := info_parts infoTm
  have HA : Hid _ := ha
  have hlen := ha.len
  have hiW : (Try.prog.info? 49).map (·.size) = some (icells a).length := by rw [infoW, icells_len, hlen]
  have HI0 : Hid _ := hiW
  clear hiW
  go_enter Try.func21, Try.ntmps21
  go_wp2_with (refine wpList_load_mid rfl 49 (.tmp 1) rfl w.heap.size 0 rfl (icells a) _ (Arr.new w _ a).range Try.underlying49 rfl HI0.out ?_)
  obtain ⟨W0, hW0⟩ : ∃ W0, W0 = w.alloc (.cells (icells a).toArray 49) := ⟨_, rfl⟩
  have hb0 : Below w.heap.size w W0 := by rw [hW0]; exact (Below.refl _ _).alloc (Nat.le_refl _) _
  have hs0 : W0.heap.size = w.heap.size + 1 := by rw [hW0]; simp
  rw [← hW0]
  have H0 : Hid _ := hb0
  clear hb0 hW0
  go_loopw [3, 10] (fun x t wr => ∃ i : Nat, t = .int .i64 i ∧ i ≤ 12 ∧ wr.ownsRow W0.heap.size 42 2 x (raw a i).length (tcells (raw a i)) ∧ Below W0.heap.size W0 wr) (fun _ t _ => 12 - (intOf t).toNat)
  case atStart => exact ⟨0, rfl, Nat.zero_le _, World.ownsRow_nil _ _ _ _, Below.refl _ _⟩
  case round =>
    obtain ⟨i, rfl, hil, hrow, hbi⟩ := hrel
    by_cases hlt : i < 12
    · have hx := run_index_arr a i hlen hlt
      have hlow := HA.out.low i
      have hhigh := HA.out.high i
      have hwt : a.getD i 0 = ((wt a i : Nat) : Int) := by unfold wt; omega
      rw [hwt] at hx
      have hw8 := HA.out.wt_le i
      have hr1 := raw_len HA.out i
      have HI : Hid (_ ∧ _) := ⟨hrow, hbi⟩
      clear hrow hbi hlow hhigh hwt
      have hraw : raw a (i + 1) = raw a i ++ spots1 i (wt a i * 4) := rfl
      have HR : Hid _ := hraw
      clear hraw
      generalize wt a i = m at *
      have hmI : (i : Int) < 12 := by omega
      go_wp2
      go_loopw [3, 16] (fun x t wr => ∃ k : Nat, t = .int .i64 k ∧ k ≤ m * 4 ∧ wr.ownsRow W0.heap.size 42 2 x (raw a i ++ spots1 i k).length (tcells (raw a i ++ spots1 i k)) ∧ Below W0.heap.size W0 wr) (fun _ t _ => m * 4 - (intOf t).toNat)
      case atStart => exact ⟨0, rfl, Nat.zero_le _, by simpa [spots1] using HI.out.1, HI.out.2⟩
      case round =>
        obtain ⟨k, rfl, hk, hrk, hbk⟩ := hrel
        by_cases hkL : k < m * 4
        · have hkI : (k : Int) < (m : Int) * 4 := by omega
          have hk32 : k < 32 := by omega
          have hcell : raw a i ++ spots1 i (k + 1) = (raw a i ++ spots1 i k) ++ [(((spotMix i k : Nat) : Int), (i : Int))] := by rw [spots1_succ, List.append_assoc]
          have hpl : (raw a i ++ spots1 i k).length ≤ 1048576 := by rw [List.length_append, spots1_len]; omega
          have hsp := fun W => spot_any i k W hlt hk32
          obtain ⟨sp, hh⟩ : ∃ sp, sp = spotMix i k := ⟨_, rfl⟩
          obtain ⟨Q, hQ⟩ : ∃ Q, Q = raw a i ++ spots1 i k := ⟨_, rfl⟩
          rw [← hh, ← hQ] at hcell
          rw [← hh] at hsp
          rw [← hQ] at hrk hpl
          have HK : Hid (_ ∧ _ ∧ _ ∧ _ ∧ _) := ⟨hrk, hbk, hcell, hQ, hsp⟩
          clear hrk hbk hcell hQ hsp hh
          go_wp2_with fail
          refine (HK.out.2.2.2.2 _).mono ?_
          rintro r w3 ⟨rfl, hg3⟩
          have hb3 : Below wr.heap.size wr w3 := hg3
          have HB : Hid (_ ∧ _) := ⟨own_grownW HK.out.1 hb3, HK.out.2.1.trans (hb3.mono HK.out.2.1.size)⟩
          have hbsz := HB.out.2.size
          clear hg3 hb3
          go_wp2_with (first | (at_builtin; refine wpList_append_lies _ rfl _ _ 23 rfl W0.heap.size 42 i0 _ 2 16 Try.underlying23 hi hz0 hz1 hz2 rfl (by decide) u3 _ _ rfl (HB.out.1.alloc _) _ 1 1 (tcells [((sp : Int), (i : Int))]) rfl rfl (news_at _ _ _) (tcells_one _) (by decide) (by unfold maxLen; omega) (by omega) (by simp; omega) _ rfl ?_; intro g' cap w2 hown2 hg2 hlies hlt2))
          go_wp2
          go_roundw
          case rel =>
            refine ⟨k + 1, by simp, hkL, ?_, ?_⟩
            · rw [HK.out.2.2.1, tcells_append, List.length_append]
              exact hown2
            · have h1 := HB.out.2.alloc HB.out.2.size (.cells #[.int .i64 (sp : Int), .int .i64 (i : Int)] 42)
              exact h1.grown hg2 h1.size (fun j e => (HB.out.1.lt j e).1)
          case measure => simp [intOf]; omega
        · obtain rfl : k = m * 4 := by omega
          have HK : Hid (_ ∧ _) := ⟨hrk, hbk⟩
          clear hrk hbk
          go_wp2
          go_roundw
          case rel => exact ⟨i + 1, by simp, by omega, by rw [HR.out]; exact HK.out.1, HK.out.2⟩
          case measure => simp [intOf]; omega
    · obtain rfl : i = 12 := by omega
      have hr12 := raw_len HA.out 12
      have HK : Hid (_ ∧ _) := ⟨hrow, hbi⟩
      clear hrow hbi
      go_wp2_with fail
      refine (sort_any W0.heap.size u3 (raw a 12) _ HK.out.1 (by omega)).mono ?_
      rintro r w3 ⟨rfl, hown3, hg3⟩
      have H3 : Hid (_ ∧ _) := ⟨hown3, hg3⟩
      clear hown3 hg3
      go_wp2
      go_ret
      refine ⟨_, rfl, ?_, H0.out.trans ((HK.out.2.grown H3.out.2 HK.out.2.size (fun j e => (HK.out.1.lt j e).1)).mono H0.out.size)⟩
      have h4 := H3.out.1.mono (base' := w.heap.size) (by omega)
      unfold spotsOf
      rw [sortT_len]
      exact h4
end Go.Proofs.Ytpmobbbohchdlab.Walks
