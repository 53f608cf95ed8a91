/-
  Rows of slots: what can be read, a copy. Conditions: what is read can be read.
-/
import Derived.Test.YtilcjcbghpbkjaaArr
import Derived.WalkKit
import Derived.ProofKit
import Derived.Handy
import Derived.LoopTactic
import Derived.Below
import Derived.Laws.BitsAllLaws
import Derived.RegionTactic
import Derived.Deep.RegionHeld3
import Derived.Deep.DrawnRows
import Derived.Deep.AppendLies
import Derived.Laws.OwnMore
import Derived.Deep.Onto
import Derived.Deep.QuietTactic
import Derived.BigQuiet
namespace Go.Proofs.Ytilcjcbghpbkjaa.Walks
open Go.RowKit
set_option linter.unusedVariables false
set_option linter.unusedSimpArgs false
attribute [local go_sem ↓] Go.wp_at_zero Go.wp_at_succ

/-- A slot: Gen, Used, Key, Backend. -/
abbrev Sl := Int × Bool × Int × Int

def slotC (t : Sl) : Array Value := #[.int .i64 t.1, .bool t.2.1, .int .i64 t.2.2.1, .int .i64 t.2.2.2]

def scells : List Sl → List Value
  | [] => []
  | t :: l => .int .i64 t.1 :: .bool t.2.1 :: .int .i64 t.2.2.1 :: .int .i64 t.2.2.2 :: scells l

theorem scells_len : ∀ l : List Sl, (scells l).length = l.length * 4
  | [] => rfl
  | t :: l => by simp [scells, scells_len l]; omega

theorem scells_append : ∀ l m : List Sl, scells (l ++ m) = scells l ++ scells m
  | [], _ => rfl
  | t :: l, m => by simp [scells, scells_append l m]

theorem scells_at : ∀ (l : List Sl) (i : Nat) (h : i < l.length), (scells l)[i * 4]? = some (.int .i64 l[i].1) ∧ (scells l)[i * 4 + 1]? = some (.bool l[i].2.1) ∧ (scells l)[i * 4 + 2]? = some (.int .i64 l[i].2.2.1) ∧ (scells l)[i * 4 + 3]? = some (.int .i64 l[i].2.2.2)
  | t :: l, 0, _ => by simp [scells]
  | t :: l, i + 1, h => by
    have h2 := scells_at l i (by simpa using h)
    rw [show (i + 1) * 4 = i * 4 + 1 + 1 + 1 + 1 by omega]
    simpa [scells] using h2

theorem scells_set : ∀ (l : List Sl) (j : Nat) (t : Sl), ((((scells l).set (j * 4) (.int .i64 t.1)).set (j * 4 + 1) (.bool t.2.1)).set (j * 4 + 2) (.int .i64 t.2.2.1)).set (j * 4 + 3) (.int .i64 t.2.2.2) = scells (l.set j t)
  | [], j, t => by simp [scells]
  | x :: l, 0, t => by simp [scells]
  | x :: l, j + 1, t => by
    have := scells_set l j t
    rw [show (j + 1) * 4 = j * 4 + 1 + 1 + 1 + 1 by omega]
    simp [scells, this]

theorem scells_one (l : List Sl) : ∀ u ∈ scells l, u.oneCell' = true := by
  induction l with
  | nil => simp [scells]
  | cons t l ih =>
    simp only [scells, List.mem_cons]
    rintro u (rfl | rfl | rfl | rfl | h)
    · rfl
    · rfl
    · rfl
    · rfl
    · exact ih u h

theorem scells_take : ∀ (l : List Sl) (i : Nat), (scells l).take (i * 4) = scells (l.take i)
  | [], i => by simp [scells]
  | t :: l, 0 => by simp [scells]
  | t :: l, i + 1 => by rw [show (i + 1) * 4 = i * 4 + 1 + 1 + 1 + 1 by omega]; simp [scells, scells_take l i]

def SlAt (w : World) (v : Value) (l : List Sl) : Prop := RowAt w v l.length (scells l)

theorem SlAt.below {w w' : World} {v : Value} {l : List Sl} (h : SlAt w v l) (hb : Below w.heap.size w w') : SlAt w' v l := RowAt.below h hb

theorem SlAt.parts {w : World} {v : Value} {l : List Sl} (h : SlAt w v l) :
    ∃ a cap, v = .slice a l.length cap ∧ l.length ≤ cap ∧ cap ≤ maxLen ∧ ∀ i (hi : i < l.length), ∃ b off, a = some ⟨b, off, none⟩ ∧ b < w.heap.size ∧ w.cell? ⟨b, off + i * 4, none⟩ = some (.int .i64 l[i].1) ∧ w.cell? ⟨b, off + i * 4 + 1, none⟩ = some (.bool l[i].2.1) ∧ w.cell? ⟨b, off + i * 4 + 2, none⟩ = some (.int .i64 l[i].2.2.1) ∧ w.cell? ⟨b, off + i * 4 + 3, none⟩ = some (.int .i64 l[i].2.2.2) := by
  obtain ⟨a, cap, hv, hc, hm, h1 | ⟨b, off, h1, h2, h3⟩⟩ := h
  · exact ⟨a, cap, hv, hc, hm, fun i hi => absurd hi (by omega)⟩
  · refine ⟨a, cap, hv, hc, hm, fun i hi => ⟨b, off, h1, h2, ?_, ?_, ?_, ?_⟩⟩
    · rw [h3 (i * 4) (by rw [scells_len]; omega)]; exact (scells_at l i hi).1
    · rw [Nat.add_assoc, h3 (i * 4 + 1) (by rw [scells_len]; omega)]; exact (scells_at l i hi).2.1
    · rw [Nat.add_assoc, h3 (i * 4 + 2) (by rw [scells_len]; omega)]; exact (scells_at l i hi).2.2.1
    · rw [Nat.add_assoc, h3 (i * 4 + 3) (by rw [scells_len]; omega)]; exact (scells_at l i hi).2.2.2

theorem infoSl : (Try.prog.info? 39).map (fun i => (i.zero, i.size, i.bytes)) = some (some (.agg #[.int .i64 0, .bool false, .int .i64 0, .int .i64 0]), 4, 32) := by kernel_rfl

/-- A copy of a table's slots: the run. -/
theorem append_copyS (w : World) (ty : TypeId) (u : Value) (l : List Sl) (hu : SlAt w u l) (hl : l.length ≤ 4398046511104) :
    ∃ y w', (Builtin.append_ #[22, 22] ty #[.slice none 0 0, u]).run Try.prog w = .ok y w' ∧ w'.ownsRow w.heap.size 39 4 y l.length (scells l) ∧ Below w.heap.size w w' := by
  obtain ⟨i0, hi, hz0, hz1, hz2⟩ := info_parts infoSl
  obtain ⟨a, cap, rfl, hc, hm, h⟩ := hu
  by_cases h0 : l.length = 0
  · obtain rfl : l = [] := List.length_eq_zero_iff.1 h0
    exact ⟨_, w, append_nothing w _ ty _ i0 Try.underlying22 hi a cap, World.ownsRow_nil _ _ _ _, Below.refl _ _⟩
  · rcases h with ⟨h, _⟩ | ⟨b, off, rfl, hb, hcell⟩
    · exact absurd h h0
    · obtain ⟨v', w', hr, ho, hg, _⟩ := run_append_own (P := Try.prog) w w.heap.size 22 ty 39 i0 _ 4 32 Try.underlying22 hi hz0 hz1 hz2 rfl (by decide) (.slice none 0 0) 0 [] (World.ownsRow_nil _ _ _ _) ⟨b, off, none⟩ l.length cap (scells l) (scells_len l) (fun j x hx => by
        have hj := (List.getElem?_eq_some_iff.1 hx).1
        rw [add_lit, hcell j hj, hx]) (scells_one l) (by unfold maxLen; omega) (by omega) (Nat.le_refl _)
      rw [List.nil_append, Nat.zero_add] at ho
      exact ⟨v', w', hr, ho, (Below.refl _ _).grown hg (Nat.le_refl _) (fun k hk => by cases hk)⟩

theorem one_cell {w : World} {g : Nat} {a : Value} {T : TypeId} (h : w.heap[g]? = some (.cells #[a] T (0, 0))) : w.cell? ⟨g, 0, none⟩ = some a := by simp [World.cell?, h]

theorem wpList_append_eq {P : Program} {w : World} {ops : Array Oper} {rest : List Oper} {o : Oper} {a : Act} {Q : Exit → Act → World → Prop} (hgd : o.guard = none) (s x : Operand) (t : TypeId)
    (ho : o.op = .call { callee := .builtin .append, args := #[s, x], argTypes := #[t, t] }) (v u y : Value) (w' : World) (hs : a.eval s = v) (hx : a.eval x = u) (hr : (Builtin.append_ #[t, t] o.type #[v, u]).run P w = .ok y w')
    (h : wpList P ops Q rest (a.put o.dst y) w') : wpList P ops Q (o :: rest) a w :=
  wpList_plain hgd fun _ hK => by
    unfold Oper.wp execOp
    simp only [ho, resolve, invoke, builtin, Sem.run_bind, Sem.run_pure, Result.andThen_ok, List.map_toArray, List.map_cons, List.map_nil, hs, hx, hr]
    exact hK _ _ h

theorem results_c {fn : Func} {x : Tmp} {t : TypeId} (h : fn.results = #[.cell x t]) {tmps : Array Value} {P : Program} {w : World} {p : Addr} {v1 : Value} (hx : tmps.getD x undef = .pointer (some p))
    (h1 : (loadVar t p).run P w = .ok v1 w) : (results fn tmps).run P w = .ok v1 w := by
  have e1 : ∀ a : Addr, (asAddr (.pointer (some a))).run P w = .ok a w := fun a => rfl
  simp only [Array.getD_eq_getD_getElem?] at hx
  simp [results, h, hx, e1, h1, Sem.run_bind]

set_option maxHeartbeats 4000000 in
set_option maxRecDepth 100000 in
theorem tables_any (v : Value) (l : List Sl) (w : World) (hv : SlAt w v l) (hl : l.length ≤ 4398046511104) :
    Calls Try.prog 10 #[.agg #[v]] w fun r w' => ∃ y, r = .returned (.agg #[y]) ∧ w'.ownsRow w.heap.size 39 4 y l.length (scells l) ∧ Below w.heap.size w w' := by
  obtain ⟨p, c, rfl, _⟩ := hv.parts
  obtain ⟨W0, hW0⟩ : ∃ W0, W0 = (w.alloc (.cells #[.slice p l.length c] 24)).alloc (.cells #[.slice none 0 0] 24) := ⟨_, rfl⟩
  have hb0 : Below w.heap.size w W0 := by rw [hW0]; exact ((Below.refl _ _).alloc (Nat.le_refl _) _).alloc (by simp) _
  have hR0 : W0.heap[w.heap.size]? = some (.cells #[.slice p l.length c] 24 (0, 0)) := by rw [hW0]; exact heap_old _ _ (heap_alloc_new _ _)
  have hR1 : W0.heap[w.heap.size + 1]? = some (.cells #[.slice none 0 0] 24 (0, 0)) := by rw [hW0]; exact heap_second _ _ _
  obtain ⟨y, w4, hr, ho, hb4⟩ := append_copyS W0 22 _ l (hv.below hb0) hl
  obtain ⟨yp, yc, rfl⟩ := own_form ho
  have hR4 := box_below hR1 hb4
  have hc4 := one_cell hR4
  have hf4 : w4.frozen? ⟨w.heap.size + 1, 0, none⟩ = false := by simp [World.frozen?, hR4]
  have hs0 : W0.heap.size = w.heap.size + 2 := by rw [hW0]; simp
  have hres : (w4.setCell ⟨w.heap.size + 1, 0, none⟩ (.slice yp l.length yc)).heap[w.heap.size + 1]? = some (.cells #[.slice yp l.length yc] 24 (0, 0)) := by
    have := heap_setCell_same w4 (w.heap.size + 1) 0 _ _ (.slice yp l.length yc) hR4
    simpa using this
  have hb5 : Below w.heap.size w (w4.setCell ⟨w.heap.size + 1, 0, none⟩ (.slice yp l.length yc)) := (hb0.trans (hb4.mono hb0.size)).setCell (by simp) _
  have ho5 : (w4.setCell ⟨w.heap.size + 1, 0, none⟩ (.slice yp l.length yc)).ownsRow w.heap.size 39 4 (.slice yp l.length yc) l.length (scells l) :=
    (own_block ho (fun g hg => Below.heap_setCell _ _ _ _ (by have := (ho.lt g hg).1; simp; omega))).mono (by omega)
  have HQ : Hid (_ ∧ _ ∧ _ ∧ _) := ⟨hr, hres, hb5, ho5⟩
  have HW : Hid _ := hW0
  clear hr hres hb5 ho5 hb4 ho hb0 hR4 hR1 hW0 hv hR0
  go_enter Try.func10, Try.ntmps10
  go_wp2_with (at_builtin; (with_reducible refine wpList_append_eq rfl _ _ 22 rfl (.slice none 0 0) (.slice p l.length c) (.slice yp l.length yc) w4 ?hs ?hx ?hr ?_); (case hs => rfl); (case hx => rfl); (case hr => rw [← HW.out]; exact HQ.out.1))
  go_wp2
  refine bodyPost_ret (v := .agg #[.slice yp l.length yc]) (results_c Try.results10 rfl (load_row (P := Try.prog) (cs := [.slice yp l.length yc]) HQ.out.2.1 Try.underlying24 rfl (by kernel_rfl))) rfl ⟨_, rfl, HQ.out.2.2.2, HQ.out.2.2.1⟩
end Go.Proofs.Ytilcjcbghpbkjaa.Walks
