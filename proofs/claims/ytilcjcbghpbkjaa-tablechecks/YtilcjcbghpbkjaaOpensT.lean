/-
  A table that came in, opened; how long it can be.
-/
import Derived.Test.YtilcjcbghpbkjaaOpens
import Derived.Test.YtilcjcbghpbkjaaSlots
import Derived.ChangeSame
import Derived.SizedLaws
import Derived.Deep.Slices
import Derived.WalkKit
import Derived.ProofKit
import Derived.Handy
import Derived.LoopTactic
import Derived.Below
import Derived.Laws.BitsAllLaws
import Derived.RegionTactic
import Derived.Deep.RegionHeld3
import Derived.Deep.DrawnRows
import Derived.Deep.AppendLies
import Derived.Laws.OwnMore
import Derived.Deep.Onto
import Derived.Deep.QuietTactic
import Derived.BigQuiet
namespace Go.Proofs.Ytilcjcbghpbkjaa.Walks
open Go.RowKit
set_option linter.unusedVariables false
set_option linter.unusedSimpArgs false
attribute [local go_sem ↓] Go.wp_at_zero Go.wp_at_succ
open Go.ChangeShapes Go.WideShapes Go.ChangeAt Go.Deep

section
variable {H : Type} {enc : TypeId × Value → H} {P : Program} {w : World} {base : Nat} {spare : Nat → Bool} {held : Bool}

theorem array1 {α : Type} {cs : Array α} (h : cs.size = 1) : ∃ c0, cs = #[c0] := by
  obtain ⟨l⟩ := cs
  match l, h with
  | [c0], _ => exact ⟨c0, rfl⟩

/-- A slice of slots: what it holds, how long. -/
theorem open_slots {t e : TypeId} {f0 f1 f2 f3 : Field} {fuel : Nat} {v : Value} {x : DataW H × List MemPlace} (ht : P.underlying t = some (.slice e)) (he : P.underlying e = some (.struct #[f0, f1, f2, f3]))
    (ce : P.cellsOf e = 4) (o0 : f0.offset = 0) (o1 : f1.offset = 1) (o2 : f2.offset = 2) (o3 : f3.offset = 3) (c0 : P.cellsOf f0.type = 1) (c1 : P.cellsOf f1.type = 1) (c2 : P.cellsOf f2.type = 1) (c3 : P.cellsOf f3.type = 1)
    (i0 : P.underlying f0.type = some (.int .i64)) (i1 : P.underlying f1.type = some .bool) (i2 : P.underlying f2.type = some (.int .i64)) (i3 : P.underlying f3.type = some (.int .i64))
    (h : DataW.trod enc P w base spare held fuel t [v] = some x) :
    ∃ l : List Sl, SlAt w v l ∧ ((∃ D sp, x.1 = .slice ((List.range l.length).map D) sp) ∨ l = []) := by
  rcases open_slice ht h with ⟨hcs, _⟩ | ⟨a, len, cap, m, n, D, Pl, hcs, hb, hl, hm, hmm, rfl, hx⟩
  · simp at hcs
    subst hcs
    exact ⟨[], rowAt_nil w, .inr rfl⟩
  · simp at hcs
    subst hcs
    have hlm : len ≤ m := by rw [hmm]; split <;> omega
    have each : ∀ i, i < m → ∃ q : Sl, w.cell? (a.add (i * 4)) = some (.int .i64 q.1) ∧ w.cell? (a.add (i * 4 + 1)) = some (.bool q.2.1) ∧ w.cell? (a.add (i * 4 + 2)) = some (.int .i64 q.2.2.1) ∧ w.cell? (a.add (i * 4 + 3)) = some (.int .i64 q.2.2.2) := by
      intro i hi
      obtain ⟨cs', h1, h2⟩ := hx i hi
      rw [ce] at h1
      obtain ⟨_, hlen, hcell⟩ := World.cells?_some h1
      obtain ⟨xs, k, hk, hxy, _, hxl, hf⟩ := DataW.trod_struct he h2
      match xs, hxl, cs', hlen with
      | [y0, y1, y2, y3], _, [v0, v1, v2, v3], _ =>
        have g0 := hf 0 f0 rfl
        have g1 := hf 1 f1 rfl
        have g2 := hf 2 f2 rfl
        have g3 := hf 3 f3 rfl
        simp [o0, o1, o2, o3, c0, c1, c2, c3] at g0 g1 g2 g3
        have e0 := hcell 0 (by omega)
        have e1 := hcell 1 (by omega)
        have e2 := hcell 2 (by omega)
        have e3 := hcell 3 (by omega)
        rw [add_add] at e0 e1 e2 e3
        obtain ⟨n0, z0, _⟩ := DataW.trod_int i0 g0
        obtain ⟨n1, z1, _⟩ := DataW.trod_bool i1 g1
        obtain ⟨n2, z2, _⟩ := DataW.trod_int i2 g2
        obtain ⟨n3, z3, _⟩ := DataW.trod_int i3 g3
        simp at z0 z1 z2 z3
        subst z0 z1 z2 z3
        exact ⟨(n0, n1, n2, n3), by simpa using e0, by simpa using e1, by simpa using e2, by simpa using e3⟩
    obtain ⟨q, hq⟩ := choose_lt each
    have hlen : ((List.range len).map q).length = len := by simp
    refine ⟨(List.range len).map q, ?_, .inl ⟨D, _, by rw [hlen]⟩⟩
    unfold SlAt
    rw [hlen]
    refine ⟨some a, cap, rfl, hl, hm, ?_⟩
    by_cases h0 : len = 0
    · exact .inl ⟨h0, by rw [h0]; rfl⟩
    · obtain ⟨b, off, spot⟩ := a
      have hc0 := (hq 0 (by omega)).1
      have hspot : spot = none := by simpa [Addr.add] using World.cell?_spot hc0
      subst hspot
      have hadd : ∀ i, (⟨b, off, none⟩ : Addr).add i = ⟨b, off + i, none⟩ := fun i => by unfold Addr.add; split <;> simp_all
      refine .inr ⟨b, off, rfl, ?_, fun i hi => ?_⟩
      · rw [hadd] at hc0
        exact World.block_lt_of_cell? w ⟨b, off + 0 * 4, none⟩ hc0
      · rw [scells_len, hlen] at hi
        have hj : i / 4 < len := by omega
        have ht := scells_at ((List.range len).map q) (i / 4) (by rw [hlen]; exact hj)
        simp only [List.getElem_map, List.getElem_range] at ht
        obtain ⟨e1, e2, e3, e4⟩ := hq (i / 4) (by omega)
        rw [hadd] at e1 e2 e3 e4
        have hp : i % 4 = 0 ∨ i % 4 = 1 ∨ i % 4 = 2 ∨ i % 4 = 3 := by omega
        rcases hp with hp | hp | hp | hp
        · rw [show i / 4 * 4 = i by omega] at e1 ht
          rw [e1, ht.1]
        · rw [show i / 4 * 4 + 1 = i by omega] at e2 ht
          rw [e2, ht.2.1]
        · rw [show i / 4 * 4 + 2 = i by omega] at e3 ht
          rw [e3, ht.2.2.1]
        · rw [show i / 4 * 4 + 3 = i by omega] at e4 ht
          rw [e4, ht.2.2.2]

/-- A struct whose only field is a slice of slots. -/
theorem open_table {r : Reach} {b0 : Nat} {t e : TypeId} {f f0 f1 f2 f3 : Field} {v : Value} {d : DataW H} {p : List MemPlace} (hs : P.underlying t = some (.struct #[f])) (h1 : P.cellsOf t = 1) (ho : f.offset = 0) (hc : P.cellsOf f.type = 1)
    (ht : P.underlying f.type = some (.slice e)) (he : P.underlying e = some (.struct #[f0, f1, f2, f3]))
    (ce : P.cellsOf e = 4) (o0 : f0.offset = 0) (o1 : f1.offset = 1) (o2 : f2.offset = 2) (o3 : f3.offset = 3) (c0 : P.cellsOf f0.type = 1) (c1 : P.cellsOf f1.type = 1) (c2 : P.cellsOf f2.type = 1) (c3 : P.cellsOf f3.type = 1)
    (i0 : P.underlying f0.type = some (.int .i64)) (i1 : P.underlying f1.type = some .bool) (i2 : P.underlying f2.type = some (.int .i64)) (i3 : P.underlying f3.type = some (.int .i64))
    (hv : Value.okWide P w r b0 t v) (h : DataW.Trod enc P w base spare held t v d p) :
    ∃ (u : Value) (l : List Sl), v = .agg #[u] ∧ SlAt w u l ∧ ((∃ D sp, d = .agg [.slice ((List.range l.length).map D) sp]) ∨ l = []) := by
  obtain ⟨cs, rfl, hsz⟩ := okWide_struct hs hv
  obtain ⟨u, rfl⟩ := array1 (hsz.trans h1)
  obtain ⟨fuel, hf⟩ := h
  obtain ⟨y0, n, hx, _, hy⟩ := trod_struct1 hs hf
  rw [ho, hc] at hy
  have hy' : DataW.trod enc P w base spare held n f.type [u] = some y0 := hy
  obtain ⟨l, hat, hz⟩ := open_slots ht he ce o0 o1 o2 o3 c0 c1 c2 c3 i0 i1 i2 i3 hy'
  refine ⟨u, l, rfl, hat, ?_⟩
  rcases hz with ⟨D, sp, hd⟩ | hz
  · left
    have hd2 : d = .agg [y0.1] := congrArg Prod.fst hx
    exact ⟨D, sp, by rw [hd2, hd]⟩
  · exact .inr hz

theorem sized_table {ts : List TypeId} {ds : List (DataW H)} (h : (DataW.weightsEach P ts ds).all (· ≤ reachBytes) = true) {j : Nat} {t e : TypeId} {f : Field} {elems spare : List (DataW H)} (ht : ts[j]? = some t) (hd : ds[j]? = some (.agg [.slice elems spare])) (hs : P.underlying t = some (.struct #[f])) (hu : P.underlying f.type = some (.slice e)) :
    (elems.length + spare.length) * P.bytesOf e ≤ reachBytes := by
  have := List.all_eq_true.1 h _ (DataW.weights_mem_each ht hd ((elems.length + spare.length) * P.bytesOf e) (by simp [DataW.weights, DataW.weightsEach, hs, hu]))
  simpa using this
end
end Go.Proofs.Ytilcjcbghpbkjaa.Walks
