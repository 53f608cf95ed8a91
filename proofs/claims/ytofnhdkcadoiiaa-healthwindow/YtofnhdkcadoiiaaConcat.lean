/-
  slices.Clone, slices.Grow, slices.Concat at bools; health.last, failures, thrown. Condition: what is read can be read.
-/
import Derived.Test.YtofnhdkcadoiiaaHealth
import Derived.Lib.AppendZerosOnto
import Derived.Lib.AppendZeros
import Derived.WalkKit
import Derived.ProofKit
import Derived.Handy
import Derived.LoopTactic
import Derived.Below
import Derived.Laws.BitsAllLaws
import Derived.RegionTactic
import Derived.Deep.RegionHeld3
import Derived.Deep.DrawnRows
import Derived.Deep.AppendLies
import Derived.Laws.OwnMore
import Derived.Deep.Onto
import Derived.Deep.QuietTactic
import Derived.BigQuiet
namespace Go.Proofs.Ytofnhdkcadoiiaa.Walks
open Go.RowKit
set_option linter.unusedVariables false
set_option linter.unusedSimpArgs false
attribute [local go_sem ↓] Go.wp_at_zero Go.wp_at_succ

theorem append_none {P : Program} (w : World) (t ty e : TypeId) (i : TypeInfo) (ht : P.underlying t = some (.slice e)) (hi : P.info? e = some i) (q : Option Addr) (n d : Nat) (hn : n ≤ d) (hd : d ≤ maxLen) (p : Option Addr) (c : Nat) :
    (Builtin.append_ #[t, t] ty #[.slice q n d, .slice p 0 c]).run P w = .ok (.slice q n d) w := by
  unfold maxLen at hd
  have h1 : ¬ (9223372036854775807 < n) := by omega
  cases p <;> cases q <;> simp [Builtin.append_, run_underlying ht, sizeOf, typeInfo, hi, Builtin.firstCells, Builtin.lenOf, loadCells, loadCellsFrom, hn, h1, storeCells]

/-- Bools put behind bools that are our own: the run. -/
theorem append_bools {w : World} {base : Nat} {p : Option Addr} {k c : Nat} {m l : List Bool} (ho : w.ownsRow base 4 1 (.slice p k c) k (bcells m)) (hb : base ≤ w.heap.size) (hk : k ≤ 1000) (ty : TypeId) (u : Value) (hu : BsAt w u l) (hl : l.length ≤ 1000) :
    ∃ p' c' w', (Builtin.append_ #[27, 27] ty #[.slice p k c, u]).run Try.prog w = .ok (.slice p' (k + l.length) c') w' ∧
      w'.ownsRow base 4 1 (.slice p' (k + l.length) c') (k + l.length) (bcells (m ++ l)) ∧ Below base w w' := by
  obtain ⟨i0, hi, hz0, hz1, hz2⟩ := info_parts infoBool
  obtain ⟨a, cap, rfl, hc, hm, h⟩ := hu
  by_cases h0 : l.length = 0
  · obtain rfl : l = [] := List.length_eq_zero_iff.1 h0
    rw [List.append_nil]
    have hkc : k ≤ c ∧ c ≤ maxLen := by
      rcases ho.2 with ⟨he, h2⟩ | ⟨g, cap, cur, he, _, _, h5, h6, _⟩
      · cases he; exact ⟨Nat.le_refl _, by unfold maxLen; omega⟩
      · cases he; exact ⟨h5, h6⟩
    exact ⟨p, c, w, append_none w _ ty _ i0 Try.underlying27 hi p k c hkc.1 hkc.2 a cap, ho, Below.refl _ _⟩
  · rcases h with ⟨h, _⟩ | ⟨b, off, rfl, hb2, hcell⟩
    · exact absurd h h0
    · obtain ⟨v', w', hr, ho', hg, _⟩ := run_append_own (P := Try.prog) w base 27 ty 4 i0 _ 1 1 Try.underlying27 hi hz0 hz1 hz2 rfl (by decide) (.slice p k c) k (bcells m) ho ⟨b, off, none⟩ l.length cap (bcells l) (by rw [bcells_len]; omega) (fun j x hx => by
        have hj := (List.getElem?_eq_some_iff.1 hx).1
        rw [add_lit, hcell j hj, hx]) (bcells_one l) (by unfold maxLen; omega) (by omega) hb
      rw [← bcells_append] at ho'
      obtain ⟨p', c', rfl⟩ := own_form ho'
      exact ⟨p', c', w', hr, ho', (Below.refl _ _).grown hg hb (fun j e => (ho.lt j e).1)⟩

set_option maxHeartbeats 2000000 in
set_option maxRecDepth 100000 in
theorem clone_any (v : Value) (l : List Bool) (w : World) (hv : BsAt w v l) (hl : l.length ≤ 1000) :
    Calls Try.prog 31 #[v] w fun r w' => ∃ p c, r = .returned (.slice p l.length c) ∧ w'.ownsRow w.heap.size 4 1 (.slice p l.length c) l.length (bcells l) ∧ Below w.heap.size w w' := by
  obtain ⟨p, c, rfl⟩ := hv.form
  cases p with
  | none =>
    obtain rfl : l = [] := by
      obtain ⟨a, cap, he, _, _, h | ⟨b, off, rfl, _⟩⟩ := hv
      · exact List.length_eq_zero_iff.1 h.1
      · cases he
    clear hv
    have hnil : ∀ W, (binOp .eql 27 (.slice none 0 c) (.slice none 0 0)).run Try.prog W = .ok (.bool true) W := fun W => by kernel_rfl
    go_enter Try.func31, Try.ntmps31
    go_wp2
    go_ret
    exact ⟨none, 0, rfl, World.ownsRow_nil _ _ _ _, Below.refl _ _⟩
  | some q =>
    have hnil : ∀ W, (binOp .eql 27 (.slice (some q) l.length c) (.slice none 0 0)).run Try.prog W = .ok (.bool false) W := fun W => by kernel_rfl
    have hown : (w.alloc (.cells #[] 4)).ownsRow w.heap.size 4 1 (.slice (some ⟨w.heap.size, 0, none⟩) 0 0) 0 (bcells []) :=
      ⟨rfl, .inr ⟨w.heap.size, 0, #[], rfl, Nat.le_refl _, heap_alloc_new _ _, Nat.le_refl _, Nat.zero_le _, rfl, rfl⟩⟩
    obtain ⟨p', c', w4, hr, ho, hb4⟩ := append_bools hown (by simp) (by omega) 27 _ (hv.below (below_new w)) hl
    rw [Nat.zero_add, List.nil_append] at ho
    rw [Nat.zero_add] at hr
    have HQ : Hid (_ ∧ _ ∧ _) := ⟨hr, (below_new w).trans hb4, ho⟩
    clear hr hb4 ho hv hown
    go_enter Try.func31, Try.ntmps31
    go_wp2_with (at_builtin; (with_reducible refine wpList_append_eq rfl _ _ 27 rfl (.slice (some ⟨w.heap.size, 0, none⟩) 0 0) (.slice (some q) l.length c) (.slice p' l.length c') w4 ?hs ?hx ?hr ?_); (case hs => rfl); (case hx => rfl); (case hr => exact HQ.out.1))
    go_wp2
    go_ret
    exact ⟨_, _, rfl, HQ.out.2.2, HQ.out.2.1⟩

set_option maxHeartbeats 2000000 in
set_option maxRecDepth 100000 in
theorem grow_nil (n : Nat) (w : World) (h0 : 0 < n) (hn : n ≤ 1000) :
    Calls Try.prog 34 #[.slice none 0 0, .int .i64 n] w fun r w' => ∃ g c, r = .returned (.slice (some ⟨g, 0, none⟩) 0 c) ∧ w'.ownsRow w.heap.size 4 1 (.slice (some ⟨g, 0, none⟩) 0 c) 0 (bcells []) ∧ Below w.heap.size w w' := by
  obtain ⟨i0, hi, hz0, hz1, hz2⟩ := info_parts infoBool
  have hrz : ∀ ty, (Builtin.append_ #[27, 3] ty #[.slice none 0 0, .int .i64 n]).run Try.prog w = .ok (.slice (some ⟨w.heap.size, 0, none⟩) n (grownCap w n 0 4)) (w.drew.alloc (.cells (([] : List Value).toArray ++ Builtin.zeroCells (Value.bool false).cells n ++ Builtin.zeroCells (Value.bool false).cells (grownCap w n 0 4 - n)) 4)) := fun ty => by
    have h := Lib.run_append_grow_zeros (P := Try.prog) w 27 3 ty 4 i0 (.bool false) .i64 .i64 Try.underlying27 Try.underlying3 hi hz0 none 0 0 [] (run_firstCells_none w.drew i0.size 0 0 0) n h0 (by omega) (by omega) (by omega) (by rw [hz2]; omega) (growslice_fits (by omega) (by rw [hz2]; omega))
    simpa using h
  have hG := grownCap_ge w n 0 4
  have hG2 := grownCap_le_maxLen w n 0 4 (by unfold maxLen; omega)
  obtain ⟨G, hGe⟩ : ∃ G, G = grownCap w n 0 4 := ⟨_, rfl⟩
  rw [← hGe] at hrz hG hG2
  obtain ⟨cs, hcs⟩ : ∃ cs, cs = ([] : List Value).toArray ++ Builtin.zeroCells (Value.bool false).cells n ++ Builtin.zeroCells (Value.bool false).cells (G - n) := ⟨_, rfl⟩
  have hsz : cs.size = G * 1 := by rw [hcs]; simp [size_zeroCells, Value.cells]; omega
  rw [← hcs] at hrz
  have hown : (w.drew.alloc (.cells cs 4)).ownsRow w.heap.size 4 1 (.slice (some ⟨w.heap.size, 0, none⟩) 0 G) 0 (bcells []) :=
    ⟨rfl, .inr ⟨w.heap.size, G, cs, rfl, Nat.le_refl _, heap_alloc_new w.drew _, Nat.zero_le _, hG2, hsz, by simp [bcells]⟩⟩
  have hbel : Below w.heap.size w (w.drew.alloc (.cells cs 4)) := ((Below.refl _ _).drew).alloc (Nat.le_refl _) _
  have HQ : Hid (_ ∧ _) := ⟨hown, hbel⟩
  have h1 : ¬ ((n : Int) < 0) := by omega
  have h2 : (0 : Int) < (n : Int) := by omega
  unfold maxLen at hG2
  clear hown hbel hsz hcs hGe hi hz0 hz1 hz2
  go_enter Try.func34, Try.ntmps34
  go_wp2_with (at_builtin; refine Lib.wpList_append_run _ rfl _ _ _ _ rfl _ _ rfl rfl _ _ (hrz _) ?_)
  all_goals (go_ret; exact ⟨_, _, rfl, HQ.out.1, HQ.out.2⟩)

set_option maxHeartbeats 4000000 in
set_option maxRecDepth 100000 in
/-- Bools and one more, in new memory. -/
theorem concat_any (p : Option Addr) (c : Nat) (l : List Bool) (x : Bool) (g g2 : Nat) (w : World) (hv : BsAt w (.slice p l.length c) l) (hl : l.length ≤ 16)
    (hg : w.heap[g]? = some (.cells #[.slice p l.length c, .slice (some ⟨g2, 0, none⟩) 1 1] 27 (0, 0))) (hx : BsAt w (.slice (some ⟨g2, 0, none⟩) 1 1) [x]) :
    Calls Try.prog 33 #[.slice (some ⟨g, 0, none⟩) 2 2] w fun r w' => ∃ p' c', r = .returned (.slice p' (l.length + 1) c') ∧ w'.ownsRow w.heap.size 4 1 (.slice p' (l.length + 1) c') (l.length + 1) (bcells (l ++ [x])) ∧ Below w.heap.size w w' := by
  obtain ⟨a, ca, he, hca, hcm, _⟩ := hv.parts
  cases he
  unfold maxLen at hcm
  obtain ⟨c0, c1, _⟩ := two_cells hg
  have HV : Hid (_ ∧ _ ∧ _) := ⟨hv, hx, hg⟩
  clear hv hx hg
  obtain ⟨k, hk⟩ : ∃ k, k = l.length := ⟨_, rfl⟩
  have HK : Hid _ := hk
  rw [← hk] at c0 hca hl ⊢
  clear hk
  go_enter Try.func33, Try.ntmps33
  go_wp2
  go_loopw [3, 11] (fun s i wr => w = wr ∧ ((i = .int .i64 0 ∧ s = .int .i64 0) ∨ (i = .int .i64 1 ∧ s = .int .i64 k) ∨ (i = .int .i64 2 ∧ s = .int .i64 ((k : Int) + 1)))) (fun _ i _ => 2 - (intOf i).toNat)
  case atStart => exact ⟨rfl, .inl ⟨rfl, rfl⟩⟩
  case round =>
    obtain ⟨rfl, ⟨rfl, rfl⟩ | ⟨rfl, rfl⟩ | ⟨rfl, rfl⟩⟩ := hrel
    · go_wp2
      go_roundw
      case rel => exact ⟨trivial, .inr (.inl ⟨rfl, rfl⟩)⟩
      case measure => simp [intOf]
    · go_wp2
      go_roundw
      case rel => exact ⟨trivial, .inr (.inr ⟨rfl, rfl⟩)⟩
      case measure => simp [intOf]
    · have hG : ∀ W : World, Calls Try.prog 34 #[.slice none 0 0, .int .i64 ((k : Int) + 1)] W fun r w' => ∃ g c, r = .returned (.slice (some ⟨g, 0, none⟩) 0 c) ∧ w'.ownsRow W.heap.size 4 1 (.slice (some ⟨g, 0, none⟩) 0 c) 0 (bcells []) ∧ Below W.heap.size W w' := fun W => by
        have := grow_nil (k + 1) W (by omega) (by omega)
        rwa [Int.natCast_add] at this
      have HG : Hid _ := hG
      clear hG
      go_wp2_with fail
      refine (HG.out _).mono ?_
      rintro r w1 ⟨g', c', rfl, ho, hb1⟩
      have HW : Hid (_ ∧ _) := ⟨ho, hb1⟩
      clear ho hb1 c0 c1 HG
      go_wp2
      go_loopw [6, 27] (fun s i wr => ∃ q d, Below w.heap.size w wr ∧ ((i = .int .i64 0 ∧ s = .slice q 0 d ∧ wr.ownsRow w.heap.size 4 1 (.slice q 0 d) 0 (bcells [])) ∨ (i = .int .i64 1 ∧ s = .slice q k d ∧ wr.ownsRow w.heap.size 4 1 (.slice q k d) k (bcells l)) ∨ (i = .int .i64 2 ∧ s = .slice q (k + 1) d ∧ wr.ownsRow w.heap.size 4 1 (.slice q (k + 1) d) (k + 1) (bcells (l ++ [x]))))) (fun _ i _ => 2 - (intOf i).toNat)
      case atStart => exact ⟨_, _, HW.out.2, .inl ⟨rfl, rfl, HW.out.1⟩⟩
      case round =>
        obtain ⟨q, d, hb, ⟨rfl, rfl, ho⟩ | ⟨rfl, rfl, ho⟩ | ⟨rfl, rfl, ho⟩⟩ := hrel
        · have hg' := box_below HV.out.2.2 hb
          obtain ⟨c0, c1, _⟩ := two_cells hg'
          obtain ⟨q', d', w5, hr, ho', hb'⟩ := append_bools ho hb.size (by omega) 27 _ (HV.out.1.below hb) (by rw [← HK.out]; omega)
          rw [Nat.zero_add, List.nil_append, ← HK.out] at ho'
          rw [Nat.zero_add] at hr
          rw [← HK.out] at hr c0
          have HQ : Hid (_ ∧ _ ∧ _) := ⟨hr, ho', hb.trans hb'⟩
          clear hr ho' hb' hb ho hg'
          go_wp2_with (at_builtin; (with_reducible refine wpList_append_eq rfl _ _ 27 rfl (.slice q 0 d) (.slice p k c) (.slice q' k d') w5 ?hs ?hx ?hr ?_); (case hs => rfl); (case hx => rfl); (case hr => exact HQ.out.1))
          go_wp2
          go_roundw
          case rel => exact ⟨_, _, HQ.out.2.2, .inr (.inl ⟨rfl, rfl, HQ.out.2.1⟩)⟩
          case measure => simp [intOf]
        · have hg' := box_below HV.out.2.2 hb
          obtain ⟨c0, c1, _⟩ := two_cells hg'
          obtain ⟨q', d', w5, hr, ho', hb'⟩ := append_bools ho hb.size (by omega) 27 _ (HV.out.2.1.below hb) (by simp)
          have HQ : Hid (_ ∧ _ ∧ _) := ⟨hr, ho', hb.trans hb'⟩
          clear hr ho' hb' hb ho hg'
          go_wp2_with (at_builtin; (with_reducible refine wpList_append_eq rfl _ _ 27 rfl (.slice q k d) (.slice (some ⟨g2, 0, none⟩) 1 1) (.slice q' (k + 1) d') w5 ?hs ?hx ?hr ?_); (case hs => rfl); (case hx => rfl); (case hr => exact HQ.out.1))
          go_wp2
          go_roundw
          case rel => exact ⟨_, _, HQ.out.2.2, .inr (.inr ⟨rfl, rfl, HQ.out.2.1⟩)⟩
          case measure => simp [intOf]
        · have HQ : Hid (_ ∧ _) := ⟨ho, hb⟩
          clear ho hb
          go_wp2
          go_ret
          exact ⟨_, _, rfl, HQ.out.1, HQ.out.2⟩
end Go.Proofs.Ytofnhdkcadoiiaa.Walks
