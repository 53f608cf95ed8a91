/-
  Rows of loads and of numbers: what can be read, copies, one more. Conditions: what is read can be read.
-/
import Derived.Test.YtjkiahdeaeiopaaArr
import Derived.WalkKit
import Derived.ProofKit
import Derived.Handy
import Derived.LoopTactic
import Derived.Below
import Derived.Laws.BitsAllLaws
import Derived.RegionTactic
import Derived.Deep.RegionHeld3
import Derived.Deep.DrawnRows
import Derived.Deep.AppendLies
import Derived.Laws.OwnMore
import Derived.Deep.Onto
import Derived.Deep.QuietTactic
import Derived.BigQuiet
namespace Go.Proofs.Ytjkiahdeaeiopaa.Walks
open Go.RowKit
set_option linter.unusedVariables false
set_option linter.unusedSimpArgs false
attribute [local go_sem ↓] Go.wp_at_zero Go.wp_at_succ

/-- A load: Backend, Weight, Flows. -/
abbrev Ld := Int × Int × Int

def lcells : List Ld → List Value
  | [] => []
  | t :: l => .int .i64 t.1 :: .int .i64 t.2.1 :: .int .i64 t.2.2 :: lcells l

theorem lcells_len : ∀ l : List Ld, (lcells l).length = l.length * 3
  | [] => rfl
  | t :: l => by simp [lcells, lcells_len l]; omega

theorem lcells_append : ∀ l m : List Ld, lcells (l ++ m) = lcells l ++ lcells m
  | [], _ => rfl
  | t :: l, m => by simp [lcells, lcells_append l m]

theorem lcells_at : ∀ (l : List Ld) (i : Nat) (h : i < l.length), (lcells l)[i * 3]? = some (.int .i64 l[i].1) ∧ (lcells l)[i * 3 + 1]? = some (.int .i64 l[i].2.1) ∧ (lcells l)[i * 3 + 2]? = some (.int .i64 l[i].2.2)
  | t :: l, 0, _ => by simp [lcells]
  | t :: l, i + 1, h => by
    have h2 := lcells_at l i (by simpa using h)
    rw [show (i + 1) * 3 = i * 3 + 1 + 1 + 1 by omega]
    simpa [lcells] using h2

theorem lcells_one (l : List Ld) : ∀ u ∈ lcells l, u.oneCell' = true := by
  induction l with
  | nil => simp [lcells]
  | cons t l ih =>
    simp only [lcells, List.mem_cons]
    rintro u (rfl | rfl | rfl | h)
    · rfl
    · rfl
    · rfl
    · exact ih u h

def LdAt (w : World) (v : Value) (l : List Ld) : Prop := RowAt w v l.length (lcells l)

theorem LdAt.below {w w' : World} {v : Value} {l : List Ld} (h : LdAt w v l) (hb : Below w.heap.size w w') : LdAt w' v l := RowAt.below h hb

theorem LdAt.parts {w : World} {v : Value} {l : List Ld} (h : LdAt w v l) :
    ∃ a cap, v = .slice a l.length cap ∧ l.length ≤ cap ∧ cap ≤ maxLen ∧ ∀ i (hi : i < l.length), ∃ b off, a = some ⟨b, off, none⟩ ∧ b < w.heap.size ∧ w.cell? ⟨b, off + i * 3, none⟩ = some (.int .i64 l[i].1) ∧ w.cell? ⟨b, off + i * 3 + 1, none⟩ = some (.int .i64 l[i].2.1) ∧ w.cell? ⟨b, off + i * 3 + 2, none⟩ = some (.int .i64 l[i].2.2) := by
  obtain ⟨a, cap, hv, hc, hm, h1 | ⟨b, off, h1, h2, h3⟩⟩ := h
  · exact ⟨a, cap, hv, hc, hm, fun i hi => absurd hi (by omega)⟩
  · refine ⟨a, cap, hv, hc, hm, fun i hi => ⟨b, off, h1, h2, ?_, ?_, ?_⟩⟩
    · rw [h3 (i * 3) (by rw [lcells_len]; omega)]; exact (lcells_at l i hi).1
    · rw [Nat.add_assoc, h3 (i * 3 + 1) (by rw [lcells_len]; omega)]; exact (lcells_at l i hi).2.1
    · rw [Nat.add_assoc, h3 (i * 3 + 2) (by rw [lcells_len]; omega)]; exact (lcells_at l i hi).2.2

theorem infoLd : (Try.prog.info? 37).map (fun i => (i.zero, i.size, i.bytes)) = some (some (.agg #[.int .i64 0, .int .i64 0, .int .i64 0]), 3, 24) := by kernel_rfl

/-- A copy of loads: the run. -/
theorem append_copyL (w : World) (ty : TypeId) (u : Value) (l : List Ld) (hu : LdAt w u l) (hl : l.length ≤ 5864062014805) :
    ∃ y w', (Builtin.append_ #[23, 23] ty #[.slice none 0 0, u]).run Try.prog w = .ok y w' ∧ w'.ownsRow w.heap.size 37 3 y l.length (lcells l) ∧ Below w.heap.size w w' := by
  obtain ⟨i0, hi, hz0, hz1, hz2⟩ := info_parts infoLd
  obtain ⟨a, cap, rfl, hc, hm, h⟩ := hu
  by_cases h0 : l.length = 0
  · obtain rfl : l = [] := List.length_eq_zero_iff.1 h0
    exact ⟨_, w, append_nothing w _ ty _ i0 Try.underlying23 hi a cap, World.ownsRow_nil _ _ _ _, Below.refl _ _⟩
  · rcases h with ⟨h, _⟩ | ⟨b, off, rfl, hb, hcell⟩
    · exact absurd h h0
    · obtain ⟨v', w', hr, ho, hg, _⟩ := run_append_own (P := Try.prog) w w.heap.size 23 ty 37 i0 _ 3 24 Try.underlying23 hi hz0 hz1 hz2 rfl (by decide) (.slice none 0 0) 0 [] (World.ownsRow_nil _ _ _ _) ⟨b, off, none⟩ l.length cap (lcells l) (lcells_len l) (fun j x hx => by
        have hj := (List.getElem?_eq_some_iff.1 hx).1
        rw [add_lit, hcell j hj, hx]) (lcells_one l) (by unfold maxLen; omega) (by omega) (Nat.le_refl _)
      rw [List.nil_append, Nat.zero_add] at ho
      exact ⟨v', w', hr, ho, (Below.refl _ _).grown hg (Nat.le_refl _) (fun k hk => by cases hk)⟩

/-- One load more: the run. -/
theorem append_oneL {w : World} {base : Nat} {p : Option Addr} {k c : Nat} {m : List Ld} (ho : w.ownsRow base 37 3 (.slice p k c) k (lcells m)) (hb : base ≤ w.heap.size) (hk : k ≤ 1000) (ty : TypeId) (x1 x2 x3 : Int) :
    ∃ p' c' w', (Builtin.append_ #[23, 23] ty #[.slice p k c, .slice (some ⟨w.heap.size, 0, none⟩) 1 1]).run Try.prog (w.alloc (.cells #[.int .i64 x1, .int .i64 x2, .int .i64 x3] 37)) = .ok (.slice p' (k + 1) c') w' ∧
      w'.ownsRow base 37 3 (.slice p' (k + 1) c') (k + 1) (lcells (m ++ [(x1, x2, x3)])) ∧ Below base w w' ∧ w.heap.size + 1 ≤ w'.heap.size ∧ ∀ g, g < w.heap.size → (∀ q, p = some q → g ≠ q.block) → w'.heap[g]? = w.heap[g]? := by
  obtain ⟨i0, hi, hz0, hz1, hz2⟩ := info_parts infoLd
  have hn := news_at w (lcells [(x1, x2, x3)]) 37
  obtain ⟨v', w', hr, ho', hg, _⟩ := run_append_own (P := Try.prog) (w.alloc (.cells #[.int .i64 x1, .int .i64 x2, .int .i64 x3] 37)) base 23 ty 37 i0 _ 3 24 Try.underlying23 hi hz0 hz1 hz2 rfl (by decide) (.slice p k c) k (lcells m) (ho.alloc _) ⟨w.heap.size, 0, none⟩ 1 1 (lcells [(x1, x2, x3)]) rfl hn (lcells_one _) (by unfold maxLen; omega) (by omega) (by simp; omega)
  rw [← lcells_append] at ho'
  obtain ⟨p', c', rfl⟩ := own_form ho'
  refine ⟨p', c', w', hr, ho', ?_, ?_, ?_⟩
  · exact ((Below.refl _ _).alloc hb _).grown hg (by simp; omega) (fun j e => (ho.lt j e).1)
  · have := hg.size
    simpa using this
  · intro g hg1 hg2
    rw [hg.block g (by simp; omega) (fun e => by
      rcases ho.2 with ⟨e1, _⟩ | ⟨gg, cap, cur, e1, _⟩
      · rw [e1] at e; cases e
      · rw [e1] at e
        simp [Value.ownBlock] at e
        injection e1 with e2 e3 e4
        exact hg2 _ e2 (by simpa using e))]
    exact Below.heap_alloc _ _ _ hg1

/-- A slice of numbers that can be read. -/
def IntsAt (w : World) (v : Value) (a : List Int) : Prop := RowAt w v a.length (icells a)

theorem IntsAt.below {w w' : World} {v : Value} {l : List Int} (h : IntsAt w v l) (hb : Below w.heap.size w w') : IntsAt w' v l := RowAt.below h hb

theorem icells_at (a : List Int) (i : Nat) (h : i < a.length) : (icells a)[i]? = some (.int .i64 a[i]) := by
  unfold icells
  rw [List.getElem?_map, List.getElem?_eq_getElem h]
  rfl

theorem IntsAt.parts {w : World} {v : Value} {l : List Int} (h : IntsAt w v l) :
    ∃ a cap, v = .slice a l.length cap ∧ l.length ≤ cap ∧ cap ≤ maxLen ∧ ∀ i (hi : i < l.length), ∃ b off, a = some ⟨b, off, none⟩ ∧ b < w.heap.size ∧ w.cell? ⟨b, off + i, none⟩ = some (.int .i64 l[i]) := by
  obtain ⟨a, cap, hv, hc, hm, h1 | ⟨b, off, h1, h2, h3⟩⟩ := h
  · exact ⟨a, cap, hv, hc, hm, fun i hi => absurd hi (by omega)⟩
  · refine ⟨a, cap, hv, hc, hm, fun i hi => ⟨b, off, h1, h2, ?_⟩⟩
    rw [h3 i (by rw [icells_len]; exact hi)]
    exact icells_at l i hi

theorem icells_append (a b : List Int) : icells (a ++ b) = icells a ++ icells b := by simp [icells]

theorem intsAt_nil (w : World) : IntsAt w (.slice none 0 0) [] := rowAt_nil w

theorem Arr.intsAt {n : Nat} {w : World} {g : Nat} {a : List Int} {T : TypeId} (h : Arr T n w g a) (hn : n ≤ 1000) : IntsAt w (.slice (some ⟨g, 0, none⟩) n n) a := by
  refine ⟨_, n, by rw [h.2], by rw [h.2]; exact Nat.le_refl _, by unfold maxLen; omega, .inr ⟨g, 0, rfl, h.lt, fun i hi => ?_⟩⟩
  rw [Nat.zero_add, icells_at a i (by rwa [icells_len] at hi)]
  exact h.cell i (by rwa [icells_len] at hi)

theorem own_ints {w : World} {base : Nat} {v : Value} {l : List Int} (h : w.ownsRow base 3 1 v l.length (icells l)) : IntsAt w v l := rowAt_own h

/-- One number more: the run. -/
theorem append_oneI {w : World} {base : Nat} {p : Option Addr} {k c : Nat} {m : List Int} (ho : w.ownsRow base 3 1 (.slice p k c) k (icells m)) (hb : base ≤ w.heap.size) (hk : k ≤ 1000) (ty : TypeId) (x : Int) :
    ∃ p' c' w', (Builtin.append_ #[22, 22] ty #[.slice p k c, .slice (some ⟨w.heap.size, 0, none⟩) 1 1]).run Try.prog (w.alloc (.cells #[.int .i64 x] 3)) = .ok (.slice p' (k + 1) c') w' ∧
      w'.ownsRow base 3 1 (.slice p' (k + 1) c') (k + 1) (icells (m ++ [x])) ∧ Below base w w' := by
  obtain ⟨i0, hi, hz0, hz1, hz2⟩ := info_parts infoInt
  have hn := news_at w (icells [x]) 3
  obtain ⟨v', w', hr, ho', hg, _⟩ := run_append_own (P := Try.prog) (w.alloc (.cells #[.int .i64 x] 3)) base 22 ty 3 i0 _ 1 8 Try.underlying22 hi hz0 hz1 hz2 rfl (by decide) (.slice p k c) k (icells m) (ho.alloc _) ⟨w.heap.size, 0, none⟩ 1 1 (icells [x]) rfl hn (icells_one _) (by unfold maxLen; omega) (by omega) (by simp; omega)
  rw [← icells_append] at ho'
  obtain ⟨p', c', rfl⟩ := own_form ho'
  refine ⟨p', c', w', hr, ho', ?_⟩
  exact ((Below.refl _ _).alloc hb _).grown hg (by simp; omega) (fun j e => (ho.lt j e).1)

theorem wpList_append_eq {P : Program} {w : World} {ops : Array Oper} {rest : List Oper} {o : Oper} {a : Act} {Q : Exit → Act → World → Prop} (hgd : o.guard = none) (s x : Operand) (t : TypeId)
    (ho : o.op = .call { callee := .builtin .append, args := #[s, x], argTypes := #[t, t] }) (v u y : Value) (w' : World) (hs : a.eval s = v) (hx : a.eval x = u) (hr : (Builtin.append_ #[t, t] o.type #[v, u]).run P w = .ok y w')
    (h : wpList P ops Q rest (a.put o.dst y) w') : wpList P ops Q (o :: rest) a w :=
  wpList_plain hgd fun _ hK => by
    unfold Oper.wp execOp
    simp only [ho, resolve, invoke, builtin, Sem.run_bind, Sem.run_pure, Result.andThen_ok, List.map_toArray, List.map_cons, List.map_nil, hs, hx, hr]
    exact hK _ _ h

set_option maxHeartbeats 1000000 in
theorem loads_any (v : Value) (l : List Ld) (w : World) (hv : LdAt w v l) (hl : l.length ≤ 5864062014805) :
    Calls Try.prog 9 #[v] w fun r w' => ∃ y, r = .returned y ∧ w'.ownsRow w.heap.size 37 3 y l.length (lcells l) ∧ Below w.heap.size w w' := by
  obtain ⟨p, c, rfl, _⟩ := hv.parts
  obtain ⟨y, w4, hr, ho, hb4⟩ := append_copyL w 23 _ l hv hl
  obtain ⟨yp, yc, rfl⟩ := own_form ho
  have HQ : Hid (_ ∧ _ ∧ _) := ⟨hr, hb4, ho⟩
  clear hr hb4 ho hv
  go_enter Try.func9, Try.ntmps9
  go_wp2_with (at_builtin; (with_reducible refine wpList_append_eq rfl _ _ 23 rfl (.slice none 0 0) (.slice p l.length c) (.slice yp l.length yc) w4 ?hs ?hx ?hr ?_); (case hs => rfl); (case hx => rfl); (case hr => exact HQ.out.1))
  go_wp2
  go_ret
  exact ⟨_, rfl, HQ.out.2.2, HQ.out.2.1⟩

set_option maxHeartbeats 2000000 in
theorem sameLoads_any (u v : Value) (l : List Ld) (w : World) (hu : LdAt w u l) (hv : LdAt w v l) :
    Calls Try.prog 13 #[u, v] w fun r w' => r = .returned (.bool true) ∧ Below w.heap.size w w' := by
  obtain ⟨a, ca, rfl, hca, hma, pa⟩ := hu.parts
  obtain ⟨b, cb, rfl, hcb, hmb, pb⟩ := hv.parts
  unfold maxLen at hma hmb
  clear hu hv
  go_enter Try.func13, Try.ntmps13
  go_wp2
  go_loopw [5] (fun i wr => ∃ k q : Nat, i = .int .i64 k ∧ k ≤ l.length ∧ wr = w.drewN q) (fun i _ => l.length - (intOf i).toNat)
  case atStart => exact ⟨0, 0, rfl, Nat.zero_le _, rfl⟩
  case round =>
    obtain ⟨k, q, rfl, hk, rfl⟩ := hrel
    by_cases hlt : k < l.length
    · obtain ⟨b1, o1, rfl, hb1, c1, c2, c3⟩ := pa k hlt
      obtain ⟨b2, o2, rfl, hb2, d1, d2, d3⟩ := pb k hlt
      generalize l[k].1 = x1 at c1 d1
      generalize l[k].2.1 = x2 at c2 d2
      generalize l[k].2.2 = x3 at c3 d3
      clear hb1 hb2 pa pb
      have hkd : decide ((k : Int) < (l.length : Int)) = true := decide_eq_true (by omega)
      go_wp2
      go_region
      go_wp2
      go_roundw
      case rel => exact ⟨k + 1, q + 1, by simp, hlt, rfl⟩
      case measure => simp [intOf]; omega
    · obtain rfl : k = l.length := by omega
      clear pa pb
      go_wp2
      go_ret
      exact ⟨rfl, below_drewN (Below.refl _ _) q⟩

set_option maxHeartbeats 1000000 in
theorem lawInts (u v : Value) (l : List Int) (w : World) (hu : IntsAt w u l) (hv : IntsAt w v l) :
    Calls Try.prog 14 #[u, v] w fun r w' => r = .returned (.bool true) ∧ Below w.heap.size w w' := by
  obtain ⟨a, ca, rfl, hca, hma, pa⟩ := IntsAt.parts hu
  obtain ⟨b, cb, rfl, hcb, hmb, pb⟩ := IntsAt.parts hv
  unfold maxLen at hma hmb
  clear hu hv
  go_enter Try.func14, Try.ntmps14
  go_wp2
  go_loopw [5] (fun i wr => ∃ k q : Nat, i = .int .i64 k ∧ k ≤ l.length ∧ wr = w.drewN q) (fun i _ => l.length - (intOf i).toNat)
  case atStart => exact ⟨0, 0, rfl, Nat.zero_le _, rfl⟩
  case round =>
    obtain ⟨k, q, rfl, hk, rfl⟩ := hrel
    by_cases hlt : k < l.length
    · obtain ⟨b1, o1, rfl, hb1, c1⟩ := pa k hlt
      obtain ⟨b2, o2, rfl, hb2, c2⟩ := pb k hlt
      generalize l[k] = x at c1 c2
      clear hb1 hb2 pa pb
      have hkd : decide ((k : Int) < (l.length : Int)) = true := decide_eq_true (by omega)
      go_wp2
      go_region
      go_wp2
      go_roundw
      case rel => exact ⟨k + 1, q + 1, by simp, hlt, rfl⟩
      case measure => simp [intOf]; omega
    · obtain rfl : k = l.length := by omega
      clear pa pb
      go_wp2
      go_ret
      exact ⟨rfl, below_drewN (Below.refl _ _) q⟩

end Go.Proofs.Ytjkiahdeaeiopaa.Walks
