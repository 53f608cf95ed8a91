/-
  The spots as they come behind a place: ring.along and its iterator. Condition: the spots can be read, and a round leaves alone what the iterator reads.
-/
import Derived.Test.YtpmobbbohchdlaaSearch
import Derived.Test.YtpmobbbohchdlaaLAdds
import Derived.RangeFuncNested
import Derived.RangeFuncBound
import Derived.RangeFuncCalls
import Derived.RangeFuncLeaves
import Derived.Shelf.Abstract
import Derived.Shelf.RegionOpen
import Derived.OwnWalkIn
import Derived.TacticsInMore
import Derived.LoopNIn
import Derived.LoopIn
import Derived.WalkKit
import Derived.ProofKit
import Derived.Handy
import Derived.LoopTactic
import Derived.Below
import Derived.Laws.BitsAllLaws
import Derived.RegionTactic
import Derived.Deep.RegionHeld3
import Derived.Deep.DrawnRows
import Derived.Deep.AppendLies
import Derived.Laws.OwnMore
import Derived.Deep.Onto
import Derived.Deep.QuietTactic
import Derived.BigQuiet
namespace Go.Proofs.Ytpmobbbohchdlaa.Walks
open Go.RowKit
set_option linter.unusedVariables false
set_option linter.unusedSimpArgs false
attribute [local go_sem ↓] Go.wp_at_zero Go.wp_at_succ
open Go.Shelf
attribute [local go_sem] Oper.semAt_some

/-- What a round leaves alone. -/
def Kept (S : Nat → Prop) (W W' : World) : Prop := ∀ k, S k → W'.heap[k]? = W.heap[k]?

theorem Kept.trans {S : Nat → Prop} {A B C : World} (h1 : Kept S A B) (h2 : Kept S B C) : Kept S A C := fun k hk => (h2 k hk).trans (h1 k hk)

theorem Kept.refl (S : Nat → Prop) (A : World) : Kept S A A := fun _ _ => rfl

theorem Kept.cell {S : Nat → Prop} {A B : World} (h : Kept S A B) {k : Nat} (hk : S k) (o : Nat) : B.cell? ⟨k, o, none⟩ = A.cell? ⟨k, o, none⟩ := World.cell?_of_block (h k hk)

theorem rem_run (i0 k len j : Nat) (hj : j = (i0 + k) % len) (hl : 0 < len) (h1 : i0 ≤ 1048576) (h2 : k ≤ 1048576) (h3 : len ≤ 1048576) (W : World) : (binOp .rem 3 (.int .i64 ((i0 : Int) + (k : Int))) (.int .i64 (len : Int))).run Try.prog W = .ok (.int .i64 (j : Int)) W := by
  have hz : ¬ (len : Int) = 0 := by omega
  have hz0 : (0 : Int) < (len : Int) := by omega
  have hjI : ((i0 : Int) + (k : Int)).tmod (len : Int) = (j : Int) := by
    rw [hj, Int.tmod_eq_emod_of_nonneg (by omega), Int.natCast_emod, Int.natCast_add]
  subst hj
  go_simp
  omega

set_option maxRecDepth 100000 in
set_option maxHeartbeats 4000000 in
theorem along2_in (n : Nat) (hn : 1 ≤ n) (l Bs Bf : Nat) (p : Option Addr) (c : Nat) (i0 : Nat) (xs : List Tm) (S : Nat → Prop) (hSs : S Bs) (hSf : S Bf) (hi0 : i0 ≤ xs.length) (hlen : xs.length ≤ 1048576) (hcap : xs.length ≤ c)
    (J Jx : List Tm → World → Prop)
    (hY : ∀ pre x W, J pre W → pre.length < xs.length → YieldAt Fence.wide (n - 1) Try.prog l #[.agg #[.int .i64 x.1, .int .i64 x.2]] W fun e W' =>
      (e = .returned (.bool true) ∧ J (pre ++ [x]) W' ∧ Kept S W W') ∨ (e = .returned (.bool false) ∧ Jx (pre ++ [x]) W'))
    (hD : ∀ pre W, J pre W → J pre W.drew)
    (W : World) (hBs : W.cell? ⟨Bs, 0, none⟩ = some (.slice p xs.length c)) (hBf : W.cell? ⟨Bf, 0, none⟩ = some (.int .i64 i0))
    (pa : ∀ i (hi : i < xs.length), ∃ b off, p = some ⟨b, off, none⟩ ∧ S b ∧ W.cell? ⟨b, off + i * 2, none⟩ = some (.int .i64 xs[i].1) ∧ W.cell? ⟨b, off + i * 2 + 1, none⟩ = some (.int .i64 xs[i].2)) (h0 : J [] W) :
    CallsIn Fence.wide n Try.prog 48 #[.func (.yield l) #[] #[], .pointer (some ⟨Bs, 0, none⟩), .pointer (some ⟨Bf, 0, none⟩)] W fun e W' => (∃ v, e = .returned v) ∧
      ((∃ ys, ys = comes xs i0 xs.length ∧ J ys W') ∨ (∃ pre : List Tm, True ∧ Jx pre W')) := by
  have HP : Hid _ := pa
  clear pa
  refine callsIn_of_wp Try.func48 rfl trivial ?_ rfl
  simp only [Try.ntmps48, List.size_toArray, List.length_cons, List.length_nil, Nat.reduceAdd, Nat.reduceSub, Array.replicate_succ, Array.replicate_zero, List.push_toArray, List.append_toArray, List.nil_append, List.cons_append]
  gi_wp2
  gi_loopw [7] (fun i wr => ∃ k : Nat, k ≤ xs.length ∧ i = .int .i64 k ∧ J (comes xs i0 k) wr ∧ Kept S W wr)
    (fun i _ => xs.length - (intOf i).toNat)
  case atStart => exact ⟨0, Nat.zero_le _, rfl, h0, Kept.refl _ _⟩
  case round =>
    obtain ⟨k, hk, rfl, hJs, hkp⟩ := hrel
    by_cases hlt : k < xs.length
    · obtain ⟨j, hj⟩ : ∃ j, j = (i0 + k) % xs.length := ⟨_, rfl⟩
      have hjl : j < xs.length := by rw [hj]; exact Nat.mod_lt _ (by omega)
      obtain ⟨b, off, rfl, hSb, c1, c2⟩ := HP.out j hjl
      have e1 := (hkp.cell hSb (off + j * 2)).trans c1
      have e2 := (hkp.cell hSb (off + j * 2 + 1)).trans c2
      have hs1 := (hkp.cell hSs 0).trans hBs
      have hf1 := (hkp.cell hSf 0).trans hBf
      have hcs : comes xs i0 (k + 1) = comes xs i0 k ++ [xs[j]] := by
        rw [comes_succ, ← hj, List.getD_eq_getElem?_getD, List.getElem?_eq_getElem hjl]
        rfl
      obtain ⟨ta, hta⟩ : ∃ ta, ta = xs[j].1 := ⟨_, rfl⟩
      obtain ⟨td, htd⟩ : ∃ td, td = xs[j].2 := ⟨_, rfl⟩
      have hx : xs[j] = (ta, td) := by rw [hta, htd]
      rw [← hta] at e1
      rw [← htd] at e2
      rw [hx] at hcs
      obtain ⟨fn, tmps, assign, body, hy, hR⟩ := hY _ (ta, td) wr.drew (hD _ _ hJs) (by rw [comes_len]; exact hlt)
      have hkI : (k : Int) < (xs.length : Int) := by omega
      have hjI : ((i0 : Int) + (k : Int)).tmod (xs.length : Int) = (j : Int) := by
        rw [hj, Int.tmod_eq_emod_of_nonneg (by omega), Int.natCast_emod, Int.natCast_add]
      have hjW : (IntKind.i64.wrap ((i0 : Int) + (k : Int))).tmod (xs.length : Int) = (j : Int) := by
        rw [show IntKind.i64.wrap ((i0 : Int) + (k : Int)) = (i0 : Int) + (k : Int) by rw [IntKind.wrap_i64]; omega]
        exact hjI
      have hrem := rem_run i0 k xs.length j hj (by omega) (by omega) (by omega) hlen
      dsimp only at hy
      have hR' := hR.mono (R' := fun e W3 => ∃ go : Bool, e = .returned (.bool go) ∧ (go = true → Hid (J (comes xs i0 k ++ [(ta, td)]) W3 ∧ Kept S wr.drew W3)) ∧ (go = false → Hid (Jx (comes xs i0 k ++ [(ta, td)]) W3 ∧ True))) (fun e W3 h => by
        rcases h with ⟨h1, h2, h3⟩ | ⟨h1, h2⟩
        · exact ⟨true, h1, fun _ => ⟨h2, h3⟩, fun h => Bool.noConfusion h⟩
        · exact ⟨false, h1, fun h => Bool.noConfusion h, fun _ => ⟨h2, trivial⟩⟩)
      clear hR
      have hmix : Try.prog.follows .mixedOrders = true := by kernel_rfl
      have hz0 : (0 : Int) < (xs.length : Int) := by omega
      have hz3 : ¬ xs = [] := fun e => by rw [e] at hlt; simp at hlt
      have hz4 : ¬ xs.length = 0 := by omega
      have hz5 : (0 : Int) ≤ (j : Int) := by omega
      have hz6 : (j : Int) < (xs.length : Int) := by omega
      have hz : ¬ (xs.length : Int) = 0 := by omega
      have hz2 : ((xs.length : Int) == 0) = false := by rw [beq_eq_false_iff_ne]; exact hz
      have HH : Hid (_ ∧ _) := ⟨hJs, hcs⟩
      clear hJs hcs hY hD c1 c2 hx hta htd hj
      gi_wp2
      gi_region_with_o (with_reducible refine hR'.mono ?_; rintro e W3 ⟨go, rfl, hgo, hno⟩)
      all_goals
        cases go
        · have hjx := hno rfl
          clear hgo hno
          gi_wp2
          refine bodyPost_ret (results_none rfl _ _ _) rfl ?_
          exact ⟨⟨_, rfl⟩, .inr ⟨_, trivial, hjx.out.1⟩⟩
        · have hj3 := hgo rfl
          clear hgo hno
          gi_wp2
          go_roundw
          case rel => exact ⟨k + 1, by omega, by simp, by rw [HH.out.2]; exact hj3.out.1, hkp.trans hj3.out.2⟩
          case measure => simp [intOf]; omega
    · obtain rfl : k = xs.length := by omega
      gi_wp2
      go_end0
      exact ⟨⟨_, rfl⟩, .inl ⟨_, rfl, hJs⟩⟩

set_option maxHeartbeats 1000000 in
theorem along_any (v : Value) (l : List Tm) (at_ : Int) (w : World) (hv : TmAt w v l) (hs : l.Pairwise (fun x y => cmpT x y < 0)) (hlen : l.length ≤ 1048577) :
    Calls Try.prog 35 #[v, .int .i64 at_] w fun r w' => ∃ Bf, r = .returned (.func (.func 48) #[] #[.pointer (some ⟨w.heap.size, 0, none⟩), .pointer (some ⟨Bf, 0, none⟩)]) ∧ w'.heap[w.heap.size]? = some (.cells #[v] 22 (0, 0)) ∧ w'.heap[Bf]? = some (.cells #[.int .i64 (firstAt l at_ : Nat)] 3 (0, 0)) ∧ w.heap.size < Bf ∧ Below w.heap.size w w' := by
  obtain ⟨p, c, rfl⟩ := hv.form
  have HV : Hid (_ ∧ _) := ⟨hv, hs⟩
  clear hv hs
  go_enter Try.func35, Try.ntmps35
  go_wp2_with fail
  obtain ⟨W0, hW0⟩ : ∃ W0, W0 = w.alloc (.cells #[.slice p l.length c] 22) := ⟨_, rfl⟩
  have hb0 : Below w.heap.size w W0 := by rw [hW0]; exact below_new _ _
  have hR0 : W0.heap[w.heap.size]? = some (.cells #[.slice p l.length c] 22 (0, 0)) := by rw [hW0]; exact heap_alloc_new _ _
  rw [← hW0]
  clear hW0
  refine (search_any _ l at_ (firstAt l at_) _ (HV.out.1.below hb0) (firstAt_le l at_) firstAt_before (firstAt_behind HV.out.2) hlen).mono ?_
  rintro r w1 ⟨bb, rfl, hb1⟩
  have hR1 := box_below hR0 hb1
  have hbw := hb0.trans (hb1.mono hb0.size)
  have H1 : Hid (_ ∧ _) := ⟨hR1, hbw⟩
  clear hR1 hbw hb0 hb1 hR0
  go_wp2
  go_ret
  exact ⟨_, rfl, heap_old _ _ H1.out.1, heap_alloc_new _ _, (Array.getElem?_eq_some_iff.1 H1.out.1).1, H1.out.2.alloc H1.out.2.size _⟩
end Go.Proofs.Ytpmobbbohchdlaa.Walks
