/-
  A tick goes by: the timers of the blocks that begin are handed on. The wheel at work is whole; the lists are in order, no number stands twice.
-/
import Derived.Test.YtdfjobghgbcjpaaDoorHand
import Derived.WalkKit
import Derived.ProofKit
import Derived.Handy
import Derived.LoopTactic
import Derived.Below
import Derived.Laws.BitsAllLaws
import Derived.RegionTactic
import Derived.Deep.RegionHeld3
import Derived.Deep.DrawnRows
import Derived.Deep.AppendLies
import Derived.Laws.OwnMore
import Derived.Deep.Onto
import Derived.Deep.QuietTactic
import Derived.BigQuiet
namespace Go.Proofs.YtdfjobghgbcjpaaDoor.Walks
open Go.RowKit
set_option linter.unusedVariables false
set_option linter.unusedSimpArgs false
attribute [local go_sem ↓] Go.wp_at_zero Go.wp_at_succ

/-- A list's timers handed on. -/
def hand (ls : List (List Tm)) (m : Int) (p : Nat) : List (List Tm) := addAll (ls.set p []) m (ls.getD p [])

structure Good (ls : List (List Tm)) : Prop where
  srt : Srt ls
  bnd : ∀ t ∈ ls.flatten, 0 ≤ t.1 ∧ t.1 ≤ 4398046511104 ∧ (Lit.int .i64 t.2).wf = true
  tot : ls.flatten.length ≤ 1048576

theorem hand_perm {ls : List (List Tm)} (h : ls.length = 25) (m : Int) {p : Nat} (hp : p < 25) : (hand ls m p).flatten.Perm ls.flatten := by
  have hl : ls[p]? = some (ls.getD p []) := by simp [List.getD, List.getElem?_eq_getElem (show p < ls.length by omega)]
  exact (addAll_perm _ m _ (by rw [List.length_set]; exact h)).trans (set_nil_perm hl)

theorem Good.hand {ls : List (List Tm)} (h : Good ls) (m : Int) {p : Nat} (hp : p < 25) : Good (hand ls m p) := by
  have hl : ls[p]? = some (ls.getD p []) := by simp [List.getD, List.getElem?_eq_getElem (show p < ls.length by rw [h.srt.len]; exact hp)]
  have hpm := hand_perm h.srt.len m hp
  refine ⟨addAll_srt _ _ _ (h.srt.clear hl) ?_, fun t ht => h.bnd t (hpm.mem_iff.1 ht), by rw [hpm.length_eq]; exact h.tot⟩
  exact ((set_nil_perm hl).map (·.2)).nodup_iff.2 h.srt.ids

def wait0 (m : Int) : Nat := (8 + m / 8 % 8).toNat
def wait1 (m : Int) : Nat := (16 + m / 64 % 8).toNat

def lev0 (ls : List (List Tm)) (m : Int) : List (List Tm) := if beg m 8 then hand ls m (wait0 m) else ls
def lev1 (ls : List (List Tm)) (m : Int) : List (List Tm) := if beg m 64 then hand (lev0 ls m) m (wait1 m) else lev0 ls m
def lev2 (ls : List (List Tm)) (m : Int) : List (List Tm) := if beg m 512 then hand (lev1 ls m) m 24 else lev1 ls m

theorem wait0_lt (m : Int) : wait0 m < 25 := by unfold wait0; omega
theorem wait1_lt (m : Int) : wait1 m < 25 := by unfold wait1; omega

theorem Good.lev0 {ls : List (List Tm)} (h : Good ls) (m : Int) : Good (lev0 ls m) := by
  unfold Walks.lev0
  split
  · exact h.hand m (wait0_lt m)
  · exact h

theorem Good.lev1 {ls : List (List Tm)} (h : Good ls) (m : Int) : Good (lev1 ls m) := by
  unfold Walks.lev1
  split
  · exact (h.lev0 m).hand m (wait1_lt m)
  · exact h.lev0 m

theorem Good.lev2 {ls : List (List Tm)} (h : Good ls) (m : Int) : Good (lev2 ls m) := by
  unfold Walks.lev2
  split
  · exact (h.lev1 m).hand m (by omega)
  · exact h.lev1 m

/-- The tick of a wheel at work is set. -/
theorem Turn.tick {w : World} {base T B M n : Nat} {now m : Int} {vs : List Value} {ls : List (List Tm)} {f : Int → Option Int} (h : Turn w base T B M n now vs ls f) : Turn (w.setCell ⟨T, 0, none⟩ (.int .i64 m)) base T B M n m vs ls f := by
  refine ⟨(heap_setCell_same w T 0 _ _ (.int .i64 m) h.box), ?_, h.map.keep (Below.heap_setCell _ _ _ _ (Ne.symm h.hTM)), h.offT, h.offM, h.hT, h.hM, h.hTM, h.len⟩
  refine h.own.kept (row := some T) ⟨rfl, rfl, rfl, by simp, fun k _ hk => Below.heap_setCell _ _ _ _ (fun e => hk (by rw [e]))⟩ fun u hu g hg e => ?_
  exact h.offT u hu (by rw [hg, Option.some.inj e])

theorem idxB0 (b1 b2 b3 : Bool) (W : World) : (Instr.index 65 (.agg #[.bool b1, .bool b2, .bool b3]) (.int .i64 0)).run Tryd.prog W = .ok (.bool b1) W := by kernel_rfl
theorem idxB1 (b1 b2 b3 : Bool) (W : World) : (Instr.index 65 (.agg #[.bool b1, .bool b2, .bool b3]) (.int .i64 1)).run Tryd.prog W = .ok (.bool b2) W := by kernel_rfl
theorem idxB2 (b1 b2 b3 : Bool) (W : World) : (Instr.index 65 (.agg #[.bool b1, .bool b2, .bool b3]) (.int .i64 2)).run Tryd.prog W = .ok (.bool b3) W := by kernel_rfl

theorem handOn_hand (base T B M n : Nat) (now : Int) (vs : List Value) (ls : List (List Tm)) (f : Int → Option Int) (p : Nat) (w : World) (hB : Blk w) (hT : Turn w base T B M n now vs ls f) (hb0 : 0 < base) (hbase : base ≤ w.heap.size) (hn : 0 ≤ now) (hn2 : now ≤ 1099511627776)
    (hp : p < 25) (hG : Good ls) (hnn : n ≤ 1000000000) :
    Calls Tryd.prog 40 #[.pointer (some ⟨T, 0, none⟩), .int .i64 p] w fun r w' => r = .returned (.tuple #[]) ∧ ∃ vs' n' f', Turn w' base T B M n' now vs' (hand ls now p) f' ∧ n' ≤ n + 1048576 ∧ Below base w w' := by
  have hl : ls[p]? = some (ls.getD p []) := by simp [List.getD, List.getElem?_eq_getElem (show p < ls.length by rw [hG.srt.len]; exact hp)]
  refine (handOn_any base T B M n now vs ls f p _ w hB hT hb0 hbase hn hn2 hp hl (fun t ht => hG.bnd t (List.mem_flatten.2 ⟨_, List.mem_of_getElem? hl, ht⟩)) hG.srt hG.tot hnn).mono fun r w' h => ?_
  obtain ⟨h1, vs', n', f', h2, h3, h4⟩ := h
  have := len_le_flatten (List.mem_of_getElem? hl)
  have := hG.tot
  exact ⟨h1, vs', n', f', h2, by omega, h4⟩

set_option maxHeartbeats 8000000 in
set_option maxRecDepth 100000 in
theorem turn_any (base T B M n : Nat) (now : Int) (vs : List Value) (ls : List (List Tm)) (f : Int → Option Int) (w : World) (hB : Blk w) (hT : Turn w base T B M n now vs ls f) (hb0 : 0 < base) (hbase : base ≤ w.heap.size) (hn : 0 ≤ now) (hn2 : now < 1099511627776) (hG : Good ls) (hnn : n ≤ 26214400) :
    Calls Tryd.prog 25 #[.pointer (some ⟨T, 0, none⟩)] w fun r w' => r = .returned (.tuple #[]) ∧ ∃ vs' n' f', Turn w' base T B M n' (now + 1) vs' (lev2 ls (now + 1)) f' ∧ n' ≤ 100000000 ∧ Below base w w' := by
  obtain ⟨t0, t1, t2, tlt⟩ := three_cells hT.box
  have hfz : w.frozen? ⟨T, 0, none⟩ = false := by simp [World.frozen?, hT.box]
  have hwr : IntKind.i64.wrap (now + 1) = now + 1 := by rw [IntKind.wrap_i64]; omega
  obtain ⟨m, hm⟩ : ∃ m, m = now + 1 := ⟨_, rfl⟩
  rw [← hm] at hwr ⊢
  have hT1 : Turn (w.setCell ⟨T, 0, none⟩ (.int .i64 m)) base T B M n m vs ls f := hT.tick
  obtain ⟨w1, hw1⟩ : ∃ w1, w1 = w.setCell ⟨T, 0, none⟩ (.int .i64 m) := ⟨_, rfl⟩
  rw [← hw1] at hT1
  have hbw1 : Below base w w1 := by rw [hw1]; exact (Below.refl _ _).setCell hT.hT _
  have hB1 : Blk w1 := hB.keep (hbw1.block 0 hb0)
  have hm0 : 0 ≤ m := by omega
  have hm1 : m ≤ 1099511627776 := by omega
  have HX : Hid (_ ∧ _ ∧ _ ∧ _ ∧ _ ∧ _) := ⟨hT1, hw1, hbw1, hB1, hG, hm⟩
  clear hT hT1 hw1 hbw1 hB1 hB hG hm hwr
  go_enter Tryd.func25, Tryd.ntmps25
  go_wp2_with fail
  rw [← HX.out.2.2.2.2.2, ← HX.out.2.1]
  refine (begun_any m _ HX.out.2.2.2.1 hm0 (by omega)).mono ?_
  obtain ⟨b1, hb1⟩ : ∃ b, b = beg m 8 := ⟨_, rfl⟩
  obtain ⟨b2, hb2⟩ : ∃ b, b = beg m 64 := ⟨_, rfl⟩
  obtain ⟨b3, hb3⟩ : ∃ b, b = beg m 512 := ⟨_, rfl⟩
  rw [← hb1, ← hb2, ← hb3]
  rintro r w2 ⟨rfl, hbw2⟩
  have hs1 := HX.out.2.2.1.size
  have HB : Hid (_ ∧ _ ∧ _ ∧ _) := ⟨hb1, hb2, hb3, hbw2⟩
  clear hb1 hb2 hb3 hbw2
  have j0 := idxB0 b1 b2 b3
  have j1 := idxB1 b1 b2 b3
  have j2 := idxB2 b1 b2 b3
  go_wp2
  go_loopw [19] (fun i wr => ∃ (k n' : Nat) (vs' : List Value) (f' : Int → Option Int), i = .int .i64 k ∧ k ≤ 3 ∧ Turn wr base T B M n' m vs' (if k = 0 then ls else if k = 1 then lev0 ls m else if k = 2 then lev1 ls m else lev2 ls m) f' ∧ n' ≤ n + k * 1048576 ∧ Below base w wr) (fun i _ => 3 - (intOf i).toNat)
  case atStart => exact ⟨0, n, vs, f, rfl, by omega, HX.out.1.below HB.out.2.2.2, by omega, HX.out.2.2.1.trans (HB.out.2.2.2.mono (by omega))⟩
  case round =>
    obtain ⟨k, n', vs', f', rfl, hk, hT, hnk, hbr⟩ := hrel
    obtain ⟨c0, c1, c2, clt⟩ := three_cells hT.box
    have hBr : Blk wr := HX.out.2.2.2.1.keep ((hbr.block 0 hb0).trans (HX.out.2.2.1.block 0 hb0).symm)
    have hsr := hbr.size
    have hk4 : k = 0 ∨ k = 1 ∨ k = 2 ∨ k = 3 := by omega
    rcases hk4 with rfl | rfl | rfl | rfl
    · rw [if_pos rfl] at hT
      have HR : Hid (_ ∧ _ ∧ _ ∧ _) := ⟨hT, hnk, hbr, hBr⟩
      clear hT hnk hbr hBr
      cases b1
      · have he : lev0 ls m = ls := by unfold lev0; rw [← HB.out.1]; rfl
        have HE : Hid _ := he
        clear he
        go_wp2
        go_roundw
        case rel => exact ⟨1, n', vs', f', rfl, by omega, by rw [if_neg (by omega), if_pos rfl, HE.out]; exact HR.out.1, by have := HR.out.2.1; omega, HR.out.2.2.1⟩
        case measure => simp [intOf]
      · have he : lev0 ls m = hand ls m (wait0 m) := by unfold lev0; rw [← HB.out.1]; rfl
        have hwt : (8 + m / 8 % 8 : Int) = (wait0 m : Int) := by unfold wait0; omega
        have HE : Hid (_ ∧ _) := ⟨he, hwt⟩
        clear he hwt
        go_wp2_with fail
        refine (waiting0 m _ HR.out.2.2.2 hm0 (by omega)).mono ?_
        rw [HE.out.2]
        rintro r w3 ⟨rfl, rfl⟩
        go_wp2_with fail
        refine (handOn_hand base T B M n' m vs' ls f' (wait0 m) _ HR.out.2.2.2 HR.out.1 hb0 (by omega) hm0 hm1 (wait0_lt m) HX.out.2.2.2.2.1 (by have := HR.out.2.1; omega)).mono ?_
        rintro r w4 ⟨rfl, vs4, n4, f4, hT4, hn4, hb4⟩
        have HZ : Hid (_ ∧ _ ∧ _) := ⟨hT4, hn4, hb4⟩
        clear hT4 hn4 hb4
        go_wp2
        go_roundw
        case rel => exact ⟨1, n4, vs4, f4, rfl, by omega, by rw [if_neg (by omega), if_pos rfl, HE.out.1]; exact HZ.out.1, by have := HR.out.2.1; have := HZ.out.2.1; omega, HR.out.2.2.1.trans HZ.out.2.2⟩
        case measure => simp [intOf]
    · rw [if_neg (by omega), if_pos rfl] at hT
      have HR : Hid (_ ∧ _ ∧ _ ∧ _) := ⟨hT, hnk, hbr, hBr⟩
      clear hT hnk hbr hBr
      cases b2
      · have he : lev1 ls m = lev0 ls m := by unfold lev1; rw [← HB.out.2.1]; rfl
        have HE : Hid _ := he
        clear he
        go_wp2
        go_roundw
        case rel => exact ⟨2, n', vs', f', rfl, by omega, by rw [if_neg (by omega), if_neg (by omega), if_pos rfl, HE.out]; exact HR.out.1, by have := HR.out.2.1; omega, HR.out.2.2.1⟩
        case measure => simp [intOf]
      · have he : lev1 ls m = hand (lev0 ls m) m (wait1 m) := by unfold lev1; rw [← HB.out.2.1]; rfl
        have hwt : (16 + m / 64 % 8 : Int) = (wait1 m : Int) := by unfold wait1; omega
        have HE : Hid (_ ∧ _) := ⟨he, hwt⟩
        clear he hwt
        go_wp2_with fail
        refine (waiting1 m _ HR.out.2.2.2 hm0 (by omega)).mono ?_
        rw [HE.out.2]
        rintro r w3 ⟨rfl, rfl⟩
        go_wp2_with fail
        refine (handOn_hand base T B M n' m vs' (lev0 ls m) f' (wait1 m) _ HR.out.2.2.2 HR.out.1 hb0 (by omega) hm0 hm1 (wait1_lt m) (HX.out.2.2.2.2.1.lev0 m) (by have := HR.out.2.1; omega)).mono ?_
        rintro r w4 ⟨rfl, vs4, n4, f4, hT4, hn4, hb4⟩
        have HZ : Hid (_ ∧ _ ∧ _) := ⟨hT4, hn4, hb4⟩
        clear hT4 hn4 hb4
        go_wp2
        go_roundw
        case rel => exact ⟨2, n4, vs4, f4, rfl, by omega, by rw [if_neg (by omega), if_neg (by omega), if_pos rfl, HE.out.1]; exact HZ.out.1, by have := HR.out.2.1; have := HZ.out.2.1; omega, HR.out.2.2.1.trans HZ.out.2.2⟩
        case measure => simp [intOf]
    · rw [if_neg (by omega), if_neg (by omega), if_pos rfl] at hT
      have HR : Hid (_ ∧ _ ∧ _ ∧ _) := ⟨hT, hnk, hbr, hBr⟩
      clear hT hnk hbr hBr
      cases b3
      · have he : lev2 ls m = lev1 ls m := by unfold lev2; rw [← HB.out.2.2.1]; rfl
        have HE : Hid _ := he
        clear he
        go_wp2
        go_roundw
        case rel => exact ⟨3, n', vs', f', rfl, by omega, by rw [if_neg (by omega), if_neg (by omega), if_neg (by omega), HE.out]; exact HR.out.1, by have := HR.out.2.1; omega, HR.out.2.2.1⟩
        case measure => simp [intOf]
      · have he : lev2 ls m = hand (lev1 ls m) m (24) := by unfold lev2; rw [← HB.out.2.2.1]; rfl
        have hwt : (24 : Int) = ((24 : Nat) : Int) := rfl
        have HE : Hid (_ ∧ _) := ⟨he, hwt⟩
        clear he hwt
        go_wp2_with fail
        refine (waiting2 m _).mono ?_
        rintro r w3 ⟨rfl, rfl⟩
        go_wp2_with fail
        refine (handOn_hand base T B M n' m vs' (lev1 ls m) f' 24 _ HR.out.2.2.2 HR.out.1 hb0 (by omega) hm0 hm1 (by omega) (HX.out.2.2.2.2.1.lev1 m) (by have := HR.out.2.1; omega)).mono ?_
        rintro r w4 ⟨rfl, vs4, n4, f4, hT4, hn4, hb4⟩
        have HZ : Hid (_ ∧ _ ∧ _) := ⟨hT4, hn4, hb4⟩
        clear hT4 hn4 hb4
        go_wp2
        go_roundw
        case rel => exact ⟨3, n4, vs4, f4, rfl, by omega, by rw [if_neg (by omega), if_neg (by omega), if_neg (by omega), HE.out.1]; exact HZ.out.1, by have := HR.out.2.1; have := HZ.out.2.1; omega, HR.out.2.2.1.trans HZ.out.2.2⟩
        case measure => simp [intOf]
    · rw [if_neg (by omega), if_neg (by omega), if_neg (by omega)] at hT
      have HR : Hid (_ ∧ _ ∧ _) := ⟨hT, hnk, hbr⟩
      clear hT hnk hbr
      go_wp2
      go_end0
      exact ⟨rfl, vs', n', f', HR.out.1, by have := HR.out.2.1; omega, HR.out.2.2⟩
end Go.Proofs.YtdfjobghgbcjpaaDoor.Walks
