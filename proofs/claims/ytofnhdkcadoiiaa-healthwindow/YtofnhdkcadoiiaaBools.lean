/-
  Slices of bools: what can be read, copies, one more, whether they are the same. Condition: what is read can be read.
-/
import Derived.Test.YtofnhdkcadoiiaaBase
import Derived.WalkKit
import Derived.ProofKit
import Derived.Handy
import Derived.LoopTactic
import Derived.Below
import Derived.Laws.BitsAllLaws
import Derived.RegionTactic
import Derived.Deep.RegionHeld3
import Derived.Deep.DrawnRows
import Derived.Deep.AppendLies
import Derived.Laws.OwnMore
import Derived.Deep.Onto
import Derived.Deep.QuietTactic
import Derived.BigQuiet
namespace Go.Proofs.Ytofnhdkcadoiiaa.Walks
open Go.RowKit
set_option linter.unusedVariables false
set_option linter.unusedSimpArgs false
attribute [local go_sem ↓] Go.wp_at_zero Go.wp_at_succ

def bcells (l : List Bool) : List Value := l.map fun x => .bool x

theorem bcells_len (l : List Bool) : (bcells l).length = l.length := by simp [bcells]

theorem bcells_at (l : List Bool) (i : Nat) (h : i < l.length) : (bcells l)[i]? = some (.bool l[i]) := by simp [bcells, h]

def BsAt (w : World) (v : Value) (l : List Bool) : Prop := RowAt w v l.length (bcells l)

theorem BsAt.below {w w' : World} {v : Value} {l : List Bool} (h : BsAt w v l) (hb : Below w.heap.size w w') : BsAt w' v l := RowAt.below h hb

theorem BsAt.parts {w : World} {v : Value} {l : List Bool} (h : BsAt w v l) :
    ∃ a cap, v = .slice a l.length cap ∧ l.length ≤ cap ∧ cap ≤ maxLen ∧ ∀ i (hi : i < l.length), ∃ b off, a = some ⟨b, off, none⟩ ∧ b < w.heap.size ∧ w.cell? ⟨b, off + i, none⟩ = some (.bool l[i]) := by
  obtain ⟨a, cap, hv, hc, hm, h1 | ⟨b, off, h1, h2, h3⟩⟩ := h
  · exact ⟨a, cap, hv, hc, hm, fun i hi => absurd hi (by omega)⟩
  · exact ⟨a, cap, hv, hc, hm, fun i hi => ⟨b, off, h1, h2, by rw [h3 i (by rw [bcells_len]; omega)]; exact bcells_at l i hi⟩⟩

theorem bcells_append (a b : List Bool) : bcells (a ++ b) = bcells a ++ bcells b := by simp [bcells]

theorem bcells_one (l : List Bool) : ∀ u ∈ bcells l, u.oneCell' = true := by
  intro u hu
  obtain ⟨x, _, rfl⟩ := List.mem_map.1 hu
  rfl

theorem infoBool : (Try.prog.info? 4).map (fun i => (i.zero, i.size, i.bytes)) = some (some (.bool false), 1, 1) := by kernel_rfl

theorem bsAt_own {w : World} {base : Nat} {v : Value} {l : List Bool} (h : w.ownsRow base 4 1 v l.length (bcells l)) : BsAt w v l := rowAt_own h

theorem bsAt_nil (w : World) : BsAt w (.slice none 0 0) [] := rowAt_nil w

theorem bsAt_empty (w : World) (p : Option Addr) (c : Nat) (hc : c ≤ maxLen) : BsAt w (.slice p 0 c) [] := ⟨p, c, rfl, Nat.zero_le _, hc, .inl ⟨rfl, rfl⟩⟩

theorem BsAt.form {w : World} {v : Value} {l : List Bool} (h : BsAt w v l) : ∃ p c, v = .slice p l.length c := by
  obtain ⟨p, c, rfl, _⟩ := h
  exact ⟨p, c, rfl⟩

/-- A copy of bools: the run. -/
theorem append_copyB (w : World) (ty : TypeId) (u : Value) (l : List Bool) (hu : BsAt w u l) (hl : l.length ≤ 140737488355328) :
    ∃ y w', (Builtin.append_ #[27, 27] ty #[.slice none 0 0, u]).run Try.prog w = .ok y w' ∧ w'.ownsRow w.heap.size 4 1 y l.length (bcells l) ∧ Below w.heap.size w w' := by
  obtain ⟨i0, hi, hz0, hz1, hz2⟩ := info_parts infoBool
  obtain ⟨a, cap, rfl, hc, hm, h⟩ := hu
  by_cases h0 : l.length = 0
  · obtain rfl : l = [] := List.length_eq_zero_iff.1 h0
    exact ⟨_, w, append_nothing w _ ty _ i0 Try.underlying27 hi a cap, World.ownsRow_nil _ _ _ _, Below.refl _ _⟩
  · rcases h with ⟨h, _⟩ | ⟨b, off, rfl, hb, hcell⟩
    · exact absurd h h0
    · obtain ⟨v', w', hr, ho, hg, _⟩ := run_append_own (P := Try.prog) w w.heap.size 27 ty 4 i0 _ 1 1 Try.underlying27 hi hz0 hz1 hz2 rfl (by decide) (.slice none 0 0) 0 [] (World.ownsRow_nil _ _ _ _) ⟨b, off, none⟩ l.length cap (bcells l) (by rw [bcells_len]; omega) (fun j x hx => by
        have hj := (List.getElem?_eq_some_iff.1 hx).1
        rw [add_lit, hcell j hj, hx]) (bcells_one l) (by unfold maxLen; omega) (by omega) (Nat.le_refl _)
      rw [List.nil_append, Nat.zero_add] at ho
      exact ⟨v', w', hr, ho, (Below.refl _ _).grown hg (Nat.le_refl _) (fun k hk => by cases hk)⟩

/-- One more bool: the run. -/
theorem append_oneB {w : World} {base : Nat} {p : Option Addr} {k c : Nat} {m : List Bool} (ho : w.ownsRow base 4 1 (.slice p k c) k (bcells m)) (hb : base ≤ w.heap.size) (hk : k ≤ 1000) (ty : TypeId) (x : Bool) :
    ∃ p' c' w', (Builtin.append_ #[27, 27] ty #[.slice p k c, .slice (some ⟨w.heap.size, 0, none⟩) 1 1]).run Try.prog (w.alloc (.cells #[.bool x] 4)) = .ok (.slice p' (k + 1) c') w' ∧
      w'.ownsRow base 4 1 (.slice p' (k + 1) c') (k + 1) (bcells (m ++ [x])) ∧ Below base w w' := by
  obtain ⟨i0, hi, hz0, hz1, hz2⟩ := info_parts infoBool
  have hn := news_at w (bcells [x]) 4
  obtain ⟨v', w', hr, ho', hg, _⟩ := run_append_own (P := Try.prog) (w.alloc (.cells #[.bool x] 4)) base 27 ty 4 i0 _ 1 1 Try.underlying27 hi hz0 hz1 hz2 rfl (by decide) (.slice p k c) k (bcells m) (ho.alloc _) ⟨w.heap.size, 0, none⟩ 1 1 (bcells [x]) rfl hn (bcells_one _) (by unfold maxLen; omega) (by omega) (by simp; omega)
  rw [← bcells_append] at ho'
  obtain ⟨p', c', rfl⟩ := own_form ho'
  refine ⟨p', c', w', hr, ho', ?_⟩
  exact ((Below.refl _ _).alloc hb _).grown hg (by simp; omega) (fun j e => (ho.lt j e).1)

set_option maxHeartbeats 1000000 in
theorem bools_any (v : Value) (l : List Bool) (w : World) (hv : BsAt w v l) (hl : l.length ≤ 140737488355328) :
    Calls Try.prog 23 #[v] w fun r w' => ∃ y, r = .returned y ∧ w'.ownsRow w.heap.size 4 1 y l.length (bcells l) ∧ Below w.heap.size w w' := by
  obtain ⟨p, c, rfl, _⟩ := hv.parts
  obtain ⟨y, w4, hr, ho, hb4⟩ := append_copyB w 27 _ l hv hl
  obtain ⟨yp, yc, rfl⟩ := own_form ho
  have HQ : Hid (_ ∧ _ ∧ _) := ⟨hr, hb4, ho⟩
  clear hr hb4 ho hv
  go_enter Try.func23, Try.ntmps23
  go_wp2_with (at_builtin; (with_reducible refine wpList_append_eq rfl _ _ 27 rfl (.slice none 0 0) (.slice p l.length c) (.slice yp l.length yc) w4 ?hs ?hx ?hr ?_); (case hs => rfl); (case hx => rfl); (case hr => exact HQ.out.1))
  go_wp2
  go_ret
  exact ⟨_, rfl, HQ.out.2.2, HQ.out.2.1⟩

set_option maxHeartbeats 1000000 in
theorem sameBools_any (u v : Value) (l : List Bool) (w : World) (hu : BsAt w u l) (hv : BsAt w v l) :
    Calls Try.prog 30 #[u, v] w fun r w' => r = .returned (.bool true) ∧ Below w.heap.size w w' := by
  obtain ⟨a, ca, rfl, hca, hma, pa⟩ := BsAt.parts hu
  obtain ⟨b, cb, rfl, hcb, hmb, pb⟩ := BsAt.parts hv
  unfold maxLen at hma hmb
  clear hu hv
  go_enter Try.func30, Try.ntmps30
  go_wp2
  go_loopw [5] (fun i wr => ∃ k q : Nat, i = .int .i64 k ∧ k ≤ l.length ∧ wr = w.drewN q) (fun i _ => l.length - (intOf i).toNat)
  case atStart => exact ⟨0, 0, rfl, Nat.zero_le _, rfl⟩
  case round =>
    obtain ⟨k, q, rfl, hk, rfl⟩ := hrel
    by_cases hlt : k < l.length
    · obtain ⟨b1, o1, rfl, hb1, c1⟩ := pa k hlt
      obtain ⟨b2, o2, rfl, hb2, c2⟩ := pb k hlt
      generalize l[k] = x at c1 c2
      clear hb1 hb2 pa pb
      have hkd : decide ((k : Int) < (l.length : Int)) = true := decide_eq_true (by omega)
      go_wp2
      go_region
      go_wp2
      go_roundw
      case rel => exact ⟨k + 1, q + 1, by simp, hlt, rfl⟩
      case measure => simp [intOf]; omega
    · obtain rfl : k = l.length := by omega
      clear pa pb
      go_wp2
      go_ret
      exact ⟨rfl, below_drewN (Below.refl _ _) q⟩
end Go.Proofs.Ytofnhdkcadoiiaa.Walks
