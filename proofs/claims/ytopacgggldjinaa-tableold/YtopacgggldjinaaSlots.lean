/-
  Rows of slots: what can be read, a copy. Conditions: what is read can be read.
-/
import Derived.Test.YtopacgggldjinaaArr
import Derived.WalkKit
import Derived.ProofKit
import Derived.Handy
import Derived.LoopTactic
import Derived.Below
import Derived.Laws.BitsAllLaws
import Derived.RegionTactic
import Derived.Deep.RegionHeld3
import Derived.Deep.DrawnRows
import Derived.Deep.AppendLies
import Derived.Laws.OwnMore
import Derived.Deep.Onto
import Derived.Deep.QuietTactic
import Derived.BigQuiet
namespace Go.Proofs.Ytopacgggldjinaa.Walks
open Go.RowKit
set_option linter.unusedVariables false
set_option linter.unusedSimpArgs false
attribute [local go_sem ↓] Go.wp_at_zero Go.wp_at_succ

/-- A slot: Gen, Used, Key, Backend. -/
abbrev Sl := Int × Bool × Int × Int

def slotC (t : Sl) : Array Value := #[.int .i64 t.1, .bool t.2.1, .int .i64 t.2.2.1, .int .i64 t.2.2.2]

def scells : List Sl → List Value
  | [] => []
  | t :: l => .int .i64 t.1 :: .bool t.2.1 :: .int .i64 t.2.2.1 :: .int .i64 t.2.2.2 :: scells l

theorem scells_len : ∀ l : List Sl, (scells l).length = l.length * 4
  | [] => rfl
  | t :: l => by simp [scells, scells_len l]; omega

theorem scells_append : ∀ l m : List Sl, scells (l ++ m) = scells l ++ scells m
  | [], _ => rfl
  | t :: l, m => by simp [scells, scells_append l m]

theorem scells_at : ∀ (l : List Sl) (i : Nat) (h : i < l.length), (scells l)[i * 4]? = some (.int .i64 l[i].1) ∧ (scells l)[i * 4 + 1]? = some (.bool l[i].2.1) ∧ (scells l)[i * 4 + 2]? = some (.int .i64 l[i].2.2.1) ∧ (scells l)[i * 4 + 3]? = some (.int .i64 l[i].2.2.2)
  | t :: l, 0, _ => by simp [scells]
  | t :: l, i + 1, h => by
    have h2 := scells_at l i (by simpa using h)
    rw [show (i + 1) * 4 = i * 4 + 1 + 1 + 1 + 1 by omega]
    simpa [scells] using h2

theorem scells_set : ∀ (l : List Sl) (j : Nat) (t : Sl), ((((scells l).set (j * 4) (.int .i64 t.1)).set (j * 4 + 1) (.bool t.2.1)).set (j * 4 + 2) (.int .i64 t.2.2.1)).set (j * 4 + 3) (.int .i64 t.2.2.2) = scells (l.set j t)
  | [], j, t => by simp [scells]
  | x :: l, 0, t => by simp [scells]
  | x :: l, j + 1, t => by
    have := scells_set l j t
    rw [show (j + 1) * 4 = j * 4 + 1 + 1 + 1 + 1 by omega]
    simp [scells, this]

theorem scells_one (l : List Sl) : ∀ u ∈ scells l, u.oneCell' = true := by
  induction l with
  | nil => simp [scells]
  | cons t l ih =>
    simp only [scells, List.mem_cons]
    rintro u (rfl | rfl | rfl | rfl | h)
    · rfl
    · rfl
    · rfl
    · rfl
    · exact ih u h

theorem scells_take : ∀ (l : List Sl) (i : Nat), (scells l).take (i * 4) = scells (l.take i)
  | [], i => by simp [scells]
  | t :: l, 0 => by simp [scells]
  | t :: l, i + 1 => by rw [show (i + 1) * 4 = i * 4 + 1 + 1 + 1 + 1 by omega]; simp [scells, scells_take l i]

def SlAt (w : World) (v : Value) (l : List Sl) : Prop := RowAt w v l.length (scells l)

theorem SlAt.below {w w' : World} {v : Value} {l : List Sl} (h : SlAt w v l) (hb : Below w.heap.size w w') : SlAt w' v l := RowAt.below h hb

theorem SlAt.parts {w : World} {v : Value} {l : List Sl} (h : SlAt w v l) :
    ∃ a cap, v = .slice a l.length cap ∧ l.length ≤ cap ∧ cap ≤ maxLen ∧ ∀ i (hi : i < l.length), ∃ b off, a = some ⟨b, off, none⟩ ∧ b < w.heap.size ∧ w.cell? ⟨b, off + i * 4, none⟩ = some (.int .i64 l[i].1) ∧ w.cell? ⟨b, off + i * 4 + 1, none⟩ = some (.bool l[i].2.1) ∧ w.cell? ⟨b, off + i * 4 + 2, none⟩ = some (.int .i64 l[i].2.2.1) ∧ w.cell? ⟨b, off + i * 4 + 3, none⟩ = some (.int .i64 l[i].2.2.2) := by
  obtain ⟨a, cap, hv, hc, hm, h1 | ⟨b, off, h1, h2, h3⟩⟩ := h
  · exact ⟨a, cap, hv, hc, hm, fun i hi => absurd hi (by omega)⟩
  · refine ⟨a, cap, hv, hc, hm, fun i hi => ⟨b, off, h1, h2, ?_, ?_, ?_, ?_⟩⟩
    · rw [h3 (i * 4) (by rw [scells_len]; omega)]; exact (scells_at l i hi).1
    · rw [Nat.add_assoc, h3 (i * 4 + 1) (by rw [scells_len]; omega)]; exact (scells_at l i hi).2.1
    · rw [Nat.add_assoc, h3 (i * 4 + 2) (by rw [scells_len]; omega)]; exact (scells_at l i hi).2.2.1
    · rw [Nat.add_assoc, h3 (i * 4 + 3) (by rw [scells_len]; omega)]; exact (scells_at l i hi).2.2.2

theorem infoSl : (Try.prog.info? 24).map (fun i => (i.zero, i.size, i.bytes)) = some (some (.agg #[.int .i64 0, .bool false, .int .i64 0, .int .i64 0]), 4, 32) := by kernel_rfl

/-- A copy of a table's slots: the run. -/
theorem append_copyS (w : World) (ty : TypeId) (u : Value) (l : List Sl) (hu : SlAt w u l) (hl : l.length ≤ 4398046511104) :
    ∃ y w', (Builtin.append_ #[25, 25] ty #[.slice none 0 0, u]).run Try.prog w = .ok y w' ∧ w'.ownsRow w.heap.size 24 4 y l.length (scells l) ∧ Below w.heap.size w w' := by
  obtain ⟨i0, hi, hz0, hz1, hz2⟩ := info_parts infoSl
  obtain ⟨a, cap, rfl, hc, hm, h⟩ := hu
  by_cases h0 : l.length = 0
  · obtain rfl : l = [] := List.length_eq_zero_iff.1 h0
    exact ⟨_, w, append_nothing w _ ty _ i0 Try.underlying25 hi a cap, World.ownsRow_nil _ _ _ _, Below.refl _ _⟩
  · rcases h with ⟨h, _⟩ | ⟨b, off, rfl, hb, hcell⟩
    · exact absurd h h0
    · obtain ⟨v', w', hr, ho, hg, _⟩ := run_append_own (P := Try.prog) w w.heap.size 25 ty 24 i0 _ 4 32 Try.underlying25 hi hz0 hz1 hz2 rfl (by decide) (.slice none 0 0) 0 [] (World.ownsRow_nil _ _ _ _) ⟨b, off, none⟩ l.length cap (scells l) (scells_len l) (fun j x hx => by
        have hj := (List.getElem?_eq_some_iff.1 hx).1
        rw [add_lit, hcell j hj, hx]) (scells_one l) (by unfold maxLen; omega) (by omega) (Nat.le_refl _)
      rw [List.nil_append, Nat.zero_add] at ho
      exact ⟨v', w', hr, ho, (Below.refl _ _).grown hg (Nat.le_refl _) (fun k hk => by cases hk)⟩

theorem one_cell {w : World} {g : Nat} {a : Value} {T : TypeId} (h : w.heap[g]? = some (.cells #[a] T (0, 0))) : w.cell? ⟨g, 0, none⟩ = some a := by simp [World.cell?, h]

theorem wpList_append_eq {P : Program} {w : World} {ops : Array Oper} {rest : List Oper} {o : Oper} {a : Act} {Q : Exit → Act → World → Prop} (hgd : o.guard = none) (s x : Operand) (t : TypeId)
    (ho : o.op = .call { callee := .builtin .append, args := #[s, x], argTypes := #[t, t] }) (v u y : Value) (w' : World) (hs : a.eval s = v) (hx : a.eval x = u) (hr : (Builtin.append_ #[t, t] o.type #[v, u]).run P w = .ok y w')
    (h : wpList P ops Q rest (a.put o.dst y) w') : wpList P ops Q (o :: rest) a w :=
  wpList_plain hgd fun _ hK => by
    unfold Oper.wp execOp
    simp only [ho, resolve, invoke, builtin, Sem.run_bind, Sem.run_pure, Result.andThen_ok, List.map_toArray, List.map_cons, List.map_nil, hs, hx, hr]
    exact hK _ _ h

theorem results_c {fn : Func} {x : Tmp} {t : TypeId} (h : fn.results = #[.cell x t]) {tmps : Array Value} {P : Program} {w : World} {p : Addr} {v1 : Value} (hx : tmps.getD x undef = .pointer (some p))
    (h1 : (loadVar t p).run P w = .ok v1 w) : (results fn tmps).run P w = .ok v1 w := by
  have e1 : ∀ a : Addr, (asAddr (.pointer (some a))).run P w = .ok a w := fun a => rfl
  simp only [Array.getD_eq_getD_getElem?] at hx
  simp [results, h, hx, e1, h1, Sem.run_bind]

end Go.Proofs.Ytopacgggldjinaa.Walks
