/-
  A slice of bools that came in, opened. Condition: what is read can be read.
-/
import Derived.Test.YtofnhdkcadoiiaaOpens
import Derived.Test.YtofnhdkcadoiiaaBools
import Derived.ChangeSame
import Derived.SizedLaws
import Derived.Deep.Slices
import Derived.WalkKit
import Derived.ProofKit
import Derived.Handy
import Derived.LoopTactic
import Derived.Below
import Derived.Laws.BitsAllLaws
import Derived.RegionTactic
import Derived.Deep.RegionHeld3
import Derived.Deep.DrawnRows
import Derived.Deep.AppendLies
import Derived.Laws.OwnMore
import Derived.Deep.Onto
import Derived.Deep.QuietTactic
import Derived.BigQuiet
namespace Go.Proofs.Ytofnhdkcadoiiaa.Walks
open Go.RowKit
set_option linter.unusedVariables false
set_option linter.unusedSimpArgs false
attribute [local go_sem ↓] Go.wp_at_zero Go.wp_at_succ
open Go.ChangeShapes Go.WideShapes Go.ChangeAt Go.Deep

section
variable {H : Type} {enc : TypeId × Value → H} {P : Program} {w : World} {base : Nat} {spare : Nat → Bool} {held : Bool}

/-- A slice of bools: what it holds. -/
theorem open_bools {t e : TypeId} {fuel : Nat} {v : Value} {x : DataW H × List MemPlace} (ht : P.underlying t = some (.slice e)) (ce : P.cellsOf e = 1) (i0 : P.underlying e = some .bool)
    (h : DataW.trod enc P w base spare held fuel t [v] = some x) : ∃ l : List Bool, BsAt w v l ∧ ((∃ D sp, x.1 = .slice ((List.range l.length).map D) sp) ∨ l = []) := by
  rcases open_slice ht h with ⟨hcs, _⟩ | ⟨a, len, cap, m, n, D, Pl, hcs, hb, hl, hm, hmm, rfl, hx⟩
  · simp at hcs
    subst hcs
    exact ⟨[], rowAt_nil w, .inr rfl⟩
  · simp at hcs
    subst hcs
    have hlm : len ≤ m := by rw [hmm]; split <;> omega
    have each : ∀ i, i < m → ∃ q : Bool, w.cell? (a.add i) = some (.bool q) := by
      intro i hi
      obtain ⟨cs', h1, h2⟩ := hx i hi
      rw [ce] at h1
      obtain ⟨_, hlen, hcell⟩ := World.cells?_some h1
      match cs', hlen with
      | [v0], _ =>
        have e0 := hcell 0 (by omega)
        rw [add_add] at e0
        obtain ⟨n0, z0, _⟩ := DataW.trod_bool i0 h2
        simp at z0
        subst z0
        exact ⟨n0, by simpa using e0⟩
    obtain ⟨q, hq⟩ := choose_lt each
    have hlen : ((List.range len).map q).length = len := by simp
    refine ⟨(List.range len).map q, ?_, .inl ⟨D, _, by rw [hlen]⟩⟩
    unfold BsAt
    rw [hlen]
    refine ⟨some a, cap, rfl, hl, hm, ?_⟩
    by_cases h0 : len = 0
    · exact .inl ⟨h0, by rw [h0]; rfl⟩
    · obtain ⟨b, off, spot⟩ := a
      have hc0 := hq 0 (by omega)
      have hspot : spot = none := by simpa [Addr.add] using World.cell?_spot hc0
      subst hspot
      have hadd : ∀ i, (⟨b, off, none⟩ : Addr).add i = ⟨b, off + i, none⟩ := fun i => by unfold Addr.add; split <;> simp_all
      refine .inr ⟨b, off, rfl, ?_, fun i hi => ?_⟩
      · rw [hadd] at hc0
        exact World.block_lt_of_cell? w ⟨b, off + 0, none⟩ hc0
      · rw [bcells_len, hlen] at hi
        have ht := bcells_at ((List.range len).map q) i (by rw [hlen]; exact hi)
        simp only [List.getElem_map, List.getElem_range] at ht
        have e1 := hq i (by omega)
        rw [hadd] at e1
        rw [e1, ht]

theorem array4 {α : Type} {cs : Array α} (h : cs.size = 4) : ∃ c0 c1 c2 c3, cs = #[c0, c1, c2, c3] := by
  obtain ⟨l⟩ := cs
  match l, h with
  | [c0, c1, c2, c3], _ => exact ⟨c0, c1, c2, c3, rfl⟩

/-- A struct of a slice of bools, a bool and two integers. -/
theorem open_health {r : Reach} {b0 : Nat} {t e : TypeId} {f0 f1 f2 f3 : Field} {v : Value} {d : DataW H} {p : List MemPlace} (hs : P.underlying t = some (.struct #[f0, f1, f2, f3])) (h4 : P.cellsOf t = 4)
    (o0 : f0.offset = 0) (o1 : f1.offset = 1) (o2 : f2.offset = 2) (o3 : f3.offset = 3) (c0 : P.cellsOf f0.type = 1) (c1 : P.cellsOf f1.type = 1) (c2 : P.cellsOf f2.type = 1) (c3 : P.cellsOf f3.type = 1)
    (i0 : P.underlying f0.type = some (.slice e)) (ce : P.cellsOf e = 1) (ie : P.underlying e = some .bool) (i1 : P.underlying f1.type = some .bool) (i2 : P.underlying f2.type = some (.int .i64)) (i3 : P.underlying f3.type = some (.int .i64))
    (hv : Value.okWide P w r b0 t v) (h : DataW.Trod enc P w base spare held t v d p) :
    ∃ (u : Value) (l : List Bool) (o : Bool) (a b : Int), v = .agg #[u, .bool o, .int .i64 a, .int .i64 b] ∧ BsAt w u l ∧ (Lit.int .i64 a).wf = true ∧ (Lit.int .i64 b).wf = true ∧ ((∃ D sp x1 x2 x3, d = .agg [.slice ((List.range l.length).map D) sp, x1, x2, x3]) ∨ l = []) := by
  obtain ⟨cs, rfl, hsz⟩ := okWide_struct hs hv
  obtain ⟨u, v1, v2, v3, rfl⟩ := array4 (hsz.trans h4)
  obtain ⟨fuel, hf⟩ := h
  obtain ⟨xs, n, _, hd, _, hxl, hx⟩ := DataW.trod_struct hs hf
  match xs, hxl, hd, hx with
  | [y0, y1, y2, y3], _, hd, hx =>
    have g0 := hx 0 f0 rfl
    have g1 := hx 1 f1 rfl
    have g2 := hx 2 f2 rfl
    have g3 := hx 3 f3 rfl
    simp [o0, o1, o2, o3, c0, c1, c2, c3, Value.cells] at g0 g1 g2 g3
    obtain ⟨l, hat, hz⟩ := open_bools i0 ce ie g0
    obtain ⟨o, z1, _⟩ := DataW.trod_bool i1 g1
    obtain ⟨a, z2, _, w2⟩ := DataW.trod_int i2 g2
    obtain ⟨b, z3, _, w3⟩ := DataW.trod_int i3 g3
    simp at z1 z2 z3
    subst z1 z2 z3
    refine ⟨u, l, o, a, b, rfl, hat, w2, w3, ?_⟩
    rcases hz with ⟨D, sp, hz⟩ | hz
    · left
      have hd2 : d = .agg [y0.1, y1.1, y2.1, y3.1] := congrArg Prod.fst hd
      exact ⟨D, sp, _, _, _, by rw [hd2, hz]⟩
    · exact .inr hz

theorem sized_health {ts : List TypeId} {ds : List (DataW H)} (h : (DataW.weightsEach P ts ds).all (· ≤ reachBytes) = true) {j : Nat} {t e : TypeId} {f f1 f2 f3 : Field} {elems spare : List (DataW H)} {x1 x2 x3 : DataW H} (ht : ts[j]? = some t) (hd : ds[j]? = some (.agg [.slice elems spare, x1, x2, x3])) (hs : P.underlying t = some (.struct #[f, f1, f2, f3])) (hu : P.underlying f.type = some (.slice e)) :
    (elems.length + spare.length) * P.bytesOf e ≤ reachBytes := by
  have := List.all_eq_true.1 h _ (DataW.weights_mem_each ht hd ((elems.length + spare.length) * P.bytesOf e) (by simp [DataW.weights, DataW.weightsEach, hs, hu]))
  simpa using this
end
end Go.Proofs.Ytofnhdkcadoiiaa.Walks
