/-
  picker.firstAlong. Condition: what is read can be read; at most 12 tries.
-/
import Derived.Test.YtjkiahdeaeiopaaRoom
import Derived.WalkMore
import Derived.WalkKit
import Derived.ProofKit
import Derived.Handy
import Derived.LoopTactic
import Derived.Below
import Derived.Laws.BitsAllLaws
import Derived.RegionTactic
import Derived.Deep.RegionHeld3
import Derived.Deep.DrawnRows
import Derived.Deep.AppendLies
import Derived.Laws.OwnMore
import Derived.Deep.Onto
import Derived.Deep.QuietTactic
import Derived.BigQuiet
namespace Go.Proofs.Ytjkiahdeaeiopaa.Walks
open Go.RowKit
set_option linter.unusedVariables false
set_option linter.unusedSimpArgs false
attribute [local go_sem ↓] Go.wp_at_zero Go.wp_at_succ

theorem along_skip {l : List Ld} {m ws : List Int} {k t : Nat} (hk : k < ws.length) (h : find (mineB ws[k]) l = none) : alongV l m (ws.drop k) t = alongV l m (ws.drop (k + 1)) t := by
  rw [List.drop_eq_getElem_cons hk, alongV, h]

theorem along_stop {l : List Ld} {m ws : List Int} {k i : Nat} (hk : k < ws.length) (h : find (mineB ws[k]) l = some i) : alongV l m (ws.drop k) 0 = none := by
  rw [List.drop_eq_getElem_cons hk, alongV, h]
  simp

theorem along_hit {l : List Ld} {m ws : List Int} {k t i : Nat} (hk : k < ws.length) (h : find (mineB ws[k]) l = some i) (ht : t ≠ 0) (hr : roomB l m i = true) : alongV l m (ws.drop k) t = some i := by
  rw [List.drop_eq_getElem_cons hk, alongV, h]
  simp [ht, hr]

theorem along_miss {l : List Ld} {m ws : List Int} {k t i : Nat} (hk : k < ws.length) (h : find (mineB ws[k]) l = some i) (hr : roomB l m i = false) : alongV l m (ws.drop k) (t + 1) = alongV l m (ws.drop (k + 1)) t := by
  rw [List.drop_eq_getElem_cons hk, alongV, h]
  simp [hr]

set_option maxHeartbeats 4000000 in
set_option maxRecDepth 100000 in
theorem along_any (y v u : Value) (ws : List Int) (l : List Ld) (m : List Int) (t gl gc : Nat) (w : World) (hy : IntsAt w y ws) (he : Env w gl gc v u l m) (hml : m.length = l.length) (ht : t ≤ 12) :
    Calls Try.prog 25 #[y, v, .int .i64 (t : Int), .func (.func 24) #[] #[.pointer (some ⟨gl, 0, none⟩), .pointer (some ⟨gc, 0, none⟩)]] w fun r w' => r = .returned (.int .i64 (idxOf (alongV l m ws t))) ∧ Below w.heap.size w w' := by
  obtain ⟨py, cy, rfl, hcy, hmy, pa⟩ := hy.parts
  obtain ⟨pv, cv, rfl, _, _, _⟩ := he.2.2.1.parts
  unfold maxLen at hmy
  obtain ⟨ans, hans⟩ : ∃ ans, ans = alongV l m ws t := ⟨_, rfl⟩
  rw [← hans]
  have HE : Hid (_ ∧ _ ∧ _) := ⟨he, hml, pa⟩
  have HA : Hid _ := hans
  clear he hml pa hy hans
  go_enter Try.func25, Try.ntmps25
  go_wp2
  go_step3
  go_wp2
  go_step3
  go_wp2
  go_loopw [2, 9, 15] (fun s f i wr => ∃ (k n : Nat), i = .int .i64 k ∧ s = .int .i64 (n : Int) ∧ f = .int .i64 (-1) ∧ k ≤ ws.length ∧ n ≤ 12 ∧ ans = alongV l m (ws.drop k) n ∧ Below w.heap.size w wr) (fun _ _ i _ => ws.length - (intOf i).toNat)
  case atStart => exact ⟨0, t, rfl, rfl, rfl, Nat.zero_le _, ht, by rw [HA.out]; rfl, Below.refl _ _⟩
  case round =>
    obtain ⟨k, n, rfl, rfl, rfl, hk, hn, hans, hb⟩ := hrel
    by_cases hlt : k < ws.length
    · obtain ⟨b1, o1, rfl, hb1, c1⟩ := HE.out.2.2 k hlt
      replace c1 := (hb.cell (p := ⟨b1, o1 + k, none⟩) hb1).trans c1
      have hbl : b1 < wr.heap.size := Nat.lt_of_lt_of_le hb1 hb.size
      have hkI : (k : Int) < (ws.length : Int) := by omega
      have hs1 := fun h => along_skip (l := l) (m := m) (t := n) hlt h
      have hs2 := fun i h => along_stop (l := l) (m := m) (i := i) hlt h
      have hs3 := fun i h => along_hit (l := l) (m := m) (t := n) (i := i) hlt h
      have hs4 := fun i j h => along_miss (l := l) (m := m) (t := j) (i := i) hlt h
      obtain ⟨x, hx⟩ : ∃ x, x = ws[k] := ⟨_, rfl⟩
      rw [← hx] at c1 hs1 hs2 hs3 hs4
      obtain ⟨W1, hW1⟩ : ∃ W1, W1 = wr.alloc (.cells #[.int .i64 x] 3) := ⟨_, rfl⟩
      have hbW : Below wr.heap.size wr W1 := by rw [hW1]; exact below_newL _
      have hcW : W1.cell? ⟨wr.heap.size, 0, none⟩ = some (.int .i64 x) := by rw [hW1]; exact (cell_of_row _ wr.heap.size 0 _ 3 (0, 0) (heap_alloc_new wr _)).trans rfl
      have hB1 := hb.trans (hbW.mono hb.size)
      have hE1 := HE.out.1.below hB1
      have HW : Hid (_ ∧ _ ∧ _ ∧ _) := ⟨hW1, hcW, hB1, hE1⟩
      have HS : Hid (_ ∧ _ ∧ _ ∧ _ ∧ _) := ⟨hs1, hs2, hs3, hs4, hans⟩
      clear hs1 hs2 hs3 hs4 hx hW1 hbW hcW hB1 hE1 hb hb1 hans
      go_wp2_with fail
      rw [← HW.out.1]
      refine (index_mine _ l x wr.heap.size _ HW.out.2.2.2.2.2.1 HW.out.2.1).mono ?_
      cases hf : find (mineB x) l with
      | none =>
        rintro r w2 ⟨rfl, hb2⟩
        have HB : Hid (Below w.heap.size w w2 ∧ ans = alongV l m (ws.drop (k + 1)) n) := ⟨HW.out.2.2.1.trans (hb2.mono HW.out.2.2.1.size), by rw [HS.out.2.2.2.2]; exact HS.out.1 hf⟩
        clear hb2 hf
        rw [show idxOf none = -1 from rfl]
        go_wp2
        go_roundw
        case rel => exact ⟨k + 1, n, by simp, rfl, rfl, hlt, hn, HB.out.2, HB.out.1⟩
        case measure => simp [intOf]; omega
      | some i =>
        rintro r w2 ⟨rfl, hb2⟩
        have HB : Hid (Below w.heap.size w w2) := HW.out.2.2.1.trans (hb2.mono HW.out.2.2.1.size)
        have hil := (find_is hf).1
        have HF : Hid _ := hf
        clear hb2 hf
        rw [show idxOf (some i) = (i : Int) from rfl]
        have hi0 : ¬ ((i : Int) < 0) := by omega
        cases n with
        | zero =>
          have HG : Hid (ans = none) := by rw [HS.out.2.2.2.2]; exact HS.out.2.1 i HF.out
          go_wp2
          rw [Exit.noGoto_ret]
          go_ret
          exact ⟨by rw [HG.out]; rfl, HB.out⟩
        | succ n =>
          have hn0 : (((n + 1 : Nat) : Int) == 0) = false := by rw [beq_eq_false_iff_ne]; omega
          cases hr : roomB l m i
          · have HG : Hid (ans = alongV l m (ws.drop (k + 1)) n) := by rw [HS.out.2.2.2.2]; exact HS.out.2.2.2.1 i n HF.out hr
            go_wp2_with fail
            refine (room_any i gl gc _ u l m _ (HE.out.1.below HB.out) HE.out.2.1 hil).mono ?_
            rw [hr]
            rintro r w3 ⟨rfl, hb3⟩
            have HC : Hid (Below w.heap.size w w3) := HB.out.trans (hb3.mono HB.out.size)
            clear hb3
            go_wp2
            go_roundw
            case rel => exact ⟨k + 1, n, by simp, by simp, rfl, hlt, by omega, HG.out, HC.out⟩
            case measure => simp [intOf]; omega
          · have HG : Hid (ans = some i) := by rw [HS.out.2.2.2.2]; exact HS.out.2.2.1 i HF.out (by omega) hr
            go_wp2_with fail
            refine (room_any i gl gc _ u l m _ (HE.out.1.below HB.out) HE.out.2.1 hil).mono ?_
            rw [hr]
            rintro r w3 ⟨rfl, hb3⟩
            have HC : Hid (Below w.heap.size w w3) := HB.out.trans (hb3.mono HB.out.size)
            clear hb3
            go_wp2
            rw [Exit.noGoto_ret]
            go_ret
            exact ⟨by rw [HG.out]; rfl, HC.out⟩
    · have HG : Hid (ans = none) := by
        rw [hans, List.drop_of_length_le (by omega)]
        rfl
      have HB : Hid _ := hb
      clear hans hb
      go_wp2
      rw [Exit.noGoto_ret]
      go_ret
      exact ⟨by rw [HG.out]; rfl, HB.out⟩
end Go.Proofs.Ytjkiahdeaeiopaa.Walks
