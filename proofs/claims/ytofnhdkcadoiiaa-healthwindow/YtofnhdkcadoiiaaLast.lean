/-
  health.last, failures, thrown. Condition: what is read can be read.
-/
import Derived.Test.YtofnhdkcadoiiaaConcat
import Derived.WalkKit
import Derived.ProofKit
import Derived.Handy
import Derived.LoopTactic
import Derived.Below
import Derived.Laws.BitsAllLaws
import Derived.RegionTactic
import Derived.Deep.RegionHeld3
import Derived.Deep.DrawnRows
import Derived.Deep.AppendLies
import Derived.Laws.OwnMore
import Derived.Deep.Onto
import Derived.Deep.QuietTactic
import Derived.BigQuiet
namespace Go.Proofs.Ytofnhdkcadoiiaa.Walks
open Go.RowKit
set_option linter.unusedVariables false
set_option linter.unusedSimpArgs false
attribute [local go_sem ↓] Go.wp_at_zero Go.wp_at_succ

/-- The Marks with one more, the last n of these (of at most n that were). -/
def lastN (n : Int) (l : List Bool) (x : Bool) : List Bool := (if (l.length : Int) < n then l else l.drop 1) ++ [x]

theorem lastN_len {n : Int} {l : List Bool} (x : Bool) (h : (l.length : Int) ≤ n) (h1 : 1 ≤ n) : ((lastN n l x).length : Int) = min ((l.length : Int) + 1) n := by
  unfold lastN
  split
  · simp; omega
  · simp; omega

def cntT (l : List Bool) : Nat := l.countP id

theorem cntT_le (l : List Bool) : cntT l ≤ l.length := List.countP_le_length

theorem cntT_snoc (l : List Bool) (x : Bool) : cntT (l ++ [x]) = cntT l + (if x then 1 else 0) := by
  unfold cntT
  rw [List.countP_append]
  cases x <;> simp

set_option maxHeartbeats 2000000 in
theorem failures_any (v : Value) (l : List Bool) (w : World) (hv : BsAt w v l) :
    Calls Try.prog 26 #[v] w fun r w' => r = .returned (.int .i64 (cntT l)) ∧ w' = w := by
  obtain ⟨a, ca, rfl, hca, hma, pa⟩ := hv.parts
  unfold maxLen at hma
  clear hv
  go_enter Try.func26, Try.ntmps26
  go_wp2
  go_loopw [3, 8] (fun s i wr => ∃ (k : Nat), i = .int .i64 k ∧ s = .int .i64 (cntT (l.take k)) ∧ k ≤ l.length ∧ w = wr) (fun _ i _ => l.length - (intOf i).toNat)
  case atStart => exact ⟨0, rfl, by simp [cntT], Nat.zero_le _, rfl⟩
  case round =>
    obtain ⟨k, rfl, rfl, hk, rfl⟩ := hrel
    by_cases hlt : k < l.length
    · obtain ⟨b1, o1, rfl, hb1, c1⟩ := pa k hlt
      have hs : cntT (l.take (k + 1)) = cntT (l.take k) + (if l[k] then 1 else 0) := by rw [List.take_succ_eq_append_getElem hlt, cntT_snoc]
      have hm : cntT (l.take k) ≤ k := Nat.le_trans (cntT_le _) (by rw [List.length_take]; omega)
      obtain ⟨s, hss⟩ : ∃ s, s = cntT (l.take k) := ⟨_, rfl⟩
      rw [← hss] at hs hm ⊢
      have hkd : (k : Int) < (l.length : Int) := by omega
      cases hx : l[k]
      · rw [hx] at c1 hs
        have H : Hid _ := hs
        clear hs hss hx pa
        go_wp2
        go_roundw
        case rel => exact ⟨k + 1, by simp, by rw [H.out]; simp, hlt, trivial⟩
        case measure => simp [intOf]; omega
      · rw [hx] at c1 hs
        have H : Hid _ := hs
        clear hs hss hx pa
        go_wp2
        go_roundw
        case rel => exact ⟨k + 1, by simp, by rw [H.out]; simp, hlt, trivial⟩
        case measure => simp [intOf]; omega
    · obtain rfl : k = l.length := by omega
      clear pa
      rw [List.take_length]
      go_wp2
      go_ret
      exact ⟨rfl, rfl⟩

theorem BsAt.drop1 {w : World} {a : Addr} {c : Nat} {l : List Bool} (h : BsAt w (.slice (some a) l.length c) l) (h0 : 0 < l.length) : ∀ p, (p = some a ∧ l.length = 1 ∨ p = some ⟨a.block, a.off + 1, none⟩) → BsAt w (.slice p (l.drop 1).length (c - 1)) (l.drop 1) := by
  obtain ⟨a', cap, he, hc, hm, h1 | ⟨b, off, rfl, h2, h3⟩⟩ := h
  · omega
  · cases he
    rintro p (⟨rfl, hp⟩ | rfl)
    · refine ⟨_, _, rfl, by rw [List.length_drop]; omega, by omega, .inl ⟨by rw [List.length_drop]; omega, ?_⟩⟩
      have : (l.drop 1).length = 0 := by rw [List.length_drop]; omega
      rw [List.length_eq_zero_iff.1 this]; rfl
    · refine ⟨_, _, rfl, by rw [List.length_drop]; omega, by omega, .inr ⟨b, off + 1, rfl, h2, fun i hi => ?_⟩⟩
      rw [bcells_len, List.length_drop] at hi
      have := h3 (i + 1) (by rw [bcells_len]; omega)
      rw [show off + 1 + i = off + (i + 1) by omega, this]
      simp [bcells]

theorem bsAt_new (w : World) (x : Bool) : BsAt (w.alloc (.cells #[.bool x] 4)) (.slice (some ⟨w.heap.size, 0, none⟩) 1 1) [x] :=
  ⟨_, _, rfl, Nat.le_refl _, by unfold maxLen; omega, .inr ⟨w.heap.size, 0, rfl, by simp, fun i hi => by
    have h := news_at w (bcells [x]) 4
    obtain rfl : i = 0 := by simp [bcells] at hi; exact hi
    have := h 0 (.bool x) rfl
    rw [add_lit0] at this
    exact this⟩⟩

set_option maxHeartbeats 2000000 in
set_option maxRecDepth 100000 in
theorem last_any (n : Int) (v : Value) (l : List Bool) (x : Bool) (w : World) (hv : BsAt w v l) (hn : 1 ≤ n ∧ n ≤ 16) (hl : (l.length : Int) ≤ n) :
    Calls Try.prog 25 #[.int .i64 n, v, .bool x] w fun r w' => ∃ p c, r = .returned (.slice p (lastN n l x).length c) ∧ w'.ownsRow w.heap.size 4 1 (.slice p (lastN n l x).length c) (lastN n l x).length (bcells (lastN n l x)) ∧ Below w.heap.size w w' := by
  obtain ⟨p, c, rfl, hc, hcm, _⟩ := hv.parts
  unfold maxLen at hcm
  have key : ∀ (q : Option Addr) (k d : Nat) (m : List Bool), m.length = k → m.length ≤ 16 → BsAt w (.slice q k d) m → Calls Try.prog 33 #[.slice (some ⟨w.heap.size + 1, 0, none⟩) 2 2] ((w.alloc (.cells #[.bool x] 4)).alloc (.cells #[.slice q k d, .slice (some ⟨w.heap.size, 0, none⟩) 1 1] 27)) fun r w' => ∃ p' c' k', r = .returned (.slice p' k' c') ∧ k' = (m ++ [x]).length ∧ w'.ownsRow w.heap.size 4 1 (.slice p' k' c') k' (bcells (m ++ [x])) ∧ Below w.heap.size w w' := by
    rintro q k d m rfl hm hq
    have h1 : Below w.heap.size w (w.alloc (.cells #[.bool x] 4)) := below_new w
    have h2 : Below (w.alloc (.cells #[.bool x] 4)).heap.size (w.alloc (.cells #[.bool x] 4)) ((w.alloc (.cells #[.bool x] 4)).alloc (.cells #[.slice q m.length d, .slice (some ⟨w.heap.size, 0, none⟩) 1 1] 27)) := below_new _
    refine (concat_any q d m x (w.heap.size + 1) w.heap.size _ ((hq.below h1).below h2) hm (heap_second _ _ _) ((bsAt_new w x).below h2)).mono ?_
    rintro r w' ⟨p', c', rfl, h3, h4⟩
    refine ⟨p', c', m.length + 1, rfl, by rw [List.length_append]; rfl, h3.mono (h1.trans (h2.mono h1.size)).size, ?_⟩
    exact (h1.trans (h2.mono h1.size)).trans (h4.mono (h1.trans (h2.mono h1.size)).size)
  by_cases hlt : (l.length : Int) < n
  · have E : lastN n l x = l ++ [x] := by unfold lastN; rw [if_pos hlt]
    rw [E]
    have hmax : ¬ ((0 : Int) < (l.length : Int) + 1 - n) := by omega
    have K : Hid _ := key p l.length c l rfl (by omega) hv
    clear key E hv
    go_enter Try.func25, Try.ntmps25
    go_wp2_with fail
    refine Calls.mono K.out ?_
    rintro r w' ⟨p', c', k', rfl, h2, h3, h4⟩
    have H : Hid (_ ∧ _ ∧ _) := ⟨h2, h3, h4⟩
    clear h2 h3 h4
    go_wp2
    go_ret
    exact ⟨p', c', by rw [← H.out.1]; rfl, by rw [← H.out.1]; exact H.out.2.1, H.out.2.2⟩
  · have E : lastN n l x = l.drop 1 ++ [x] := by unfold lastN; rw [if_neg hlt]
    rw [E]
    obtain rfl : n = l.length := by omega
    obtain ⟨a, ca, he, _, _, h | ⟨b, off, rfl, _⟩⟩ := id hv
    · omega
    · cases he
      by_cases hc1 : c = 1
      · subst hc1
        have K : Hid _ := key (some ⟨b, off, none⟩) 0 0 (l.drop 1) (by simp; omega) (by simp; omega) (by have := hv.drop1 (by omega) _ (.inl ⟨rfl, by omega⟩); rwa [List.length_drop, show l.length - 1 = 0 by omega] at this)
        clear key E hv
        go_enter Try.func25, Try.ntmps25
        go_wp2_with fail
        refine Calls.mono K.out ?_
        rintro r w' ⟨p', c', k', rfl, h2, h3, h4⟩
        have H : Hid (_ ∧ _ ∧ _) := ⟨h2, h3, h4⟩
        clear h2 h3 h4
        go_wp2
        go_ret
        exact ⟨p', c', by rw [← H.out.1]; rfl, by rw [← H.out.1]; exact H.out.2.1, H.out.2.2⟩
      · have K : Hid _ := key (some ⟨b, off + 1, none⟩) (l.length - 1) (c - 1) (l.drop 1) (by simp) (by simp; omega) (by have := hv.drop1 (by omega) _ (.inr rfl); rwa [List.length_drop] at this)
        clear key E hv
        go_enter Try.func25, Try.ntmps25
        go_wp2_with fail
        refine Calls.mono K.out ?_
        rintro r w' ⟨p', c', k', rfl, h2, h3, h4⟩
        have H : Hid (_ ∧ _ ∧ _) := ⟨h2, h3, h4⟩
        clear h2 h3 h4
        go_wp2
        go_ret
        exact ⟨p', c', by rw [← H.out.1]; rfl, by rw [← H.out.1]; exact H.out.2.1, H.out.2.2⟩
end Go.Proofs.Ytofnhdkcadoiiaa.Walks
