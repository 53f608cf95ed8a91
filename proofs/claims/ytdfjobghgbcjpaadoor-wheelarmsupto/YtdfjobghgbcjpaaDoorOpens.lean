/-
  Arguments that came in, opened: a struct of two integers, a slice of such structs; the table of blocks, as it was laid. Condition: the argument reads at its type.
-/
import Derived.Test.YtdfjobghgbcjpaaDoorPlace
import Derived.OpenShut
import Derived.ChangeArms
import Derived.Deep.Fields
import Derived.Deep.SlicePairs
import Derived.LaidMore
import Derived.Stop.Joined
import Derived.WalkKit
import Derived.ProofKit
import Derived.Handy
import Derived.LoopTactic
import Derived.Below
import Derived.Laws.BitsAllLaws
import Derived.RegionTactic
import Derived.Deep.RegionHeld3
import Derived.Deep.DrawnRows
import Derived.Deep.AppendLies
import Derived.Laws.OwnMore
import Derived.Deep.Onto
import Derived.Deep.QuietTactic
import Derived.BigQuiet
namespace Go.Proofs.YtdfjobghgbcjpaaDoor.Walks
open Go.RowKit
set_option linter.unusedVariables false
set_option linter.unusedSimpArgs false
attribute [local go_sem ↓] Go.wp_at_zero Go.wp_at_succ
open Go.ChangeShapes Go.WideShapes Go.ChangeAt Go.Deep

section
variable {H : Type} {enc : TypeId × Value → H} {P : Program} {w : World} {base : Nat} {spare : Nat → Bool} {held : Bool}

theorem open_struct {r : Reach} {b0 : Nat} {t : TypeId} {fs : Array Field} {v : Value} {d : DataW H} {p : List MemPlace} (hs : P.underlying t = some (.struct fs)) (hone : oneCellFields P fs = true)
    (hv : Value.okWide P w r b0 t v) (h : DataW.Trod enc P w base spare held t v d p) :
    ∃ cs : Array Value, v = .agg cs ∧ cs.size = P.cellsOf t ∧ ∀ (i : Nat) (f : Field), fs[i]? = some f → ∃ n y, DataW.trod enc P w base spare held n f.type ((cs.toList.drop i).take 1) = some y := by
  obtain ⟨cs, rfl, hsz⟩ := okWide_struct hs hv
  obtain ⟨fuel, hf⟩ := h
  obtain ⟨xs, n, _, _, hl, hlen, hx⟩ := DataW.trod_struct hs hf
  refine ⟨cs, rfl, hsz, fun i f hi => ?_⟩
  have h1 := hx i f hi
  obtain ⟨o, k⟩ := hone_of hone i f hi
  have hlt : i < xs.length := by rw [hlen]; exact (Array.getElem?_eq_some_iff.1 hi).1
  rw [List.getElem?_eq_getElem hlt, o, k] at h1
  exact ⟨n, _, h1⟩

theorem array2 {α : Type} {cs : Array α} (h : cs.size = 2) : ∃ c0 c1, cs = #[c0, c1] := by
  obtain ⟨l⟩ := cs
  match l, h with
  | [c0, c1], _ => exact ⟨c0, c1, rfl⟩

/-- A struct of two integers. -/
theorem open_two {r : Reach} {b0 : Nat} {t : TypeId} {f0 f1 : Field} {v : Value} {d : DataW H} {p : List MemPlace} (hs : P.underlying t = some (.struct #[f0, f1])) (hone : oneCellFields P #[f0, f1] = true) (h2 : P.cellsOf t = 2)
    (i0 : P.underlying f0.type = some (.int .i64)) (i1 : P.underlying f1.type = some (.int .i64)) (hv : Value.okWide P w r b0 t v) (h : DataW.Trod enc P w base spare held t v d p) :
    ∃ a0 a1 : Int, v = .agg #[.int .i64 a0, .int .i64 a1] ∧ (Lit.int .i64 a0).wf = true ∧ (Lit.int .i64 a1).wf = true := by
  obtain ⟨cs, rfl, hsz, hx⟩ := open_struct hs hone hv h
  obtain ⟨c0, c1, rfl⟩ := array2 (hsz.trans h2)
  obtain ⟨_, _, h0⟩ := hx 0 f0 rfl
  obtain ⟨_, _, h1⟩ := hx 1 f1 rfl
  obtain ⟨a0, e0, _, w0⟩ := DataW.trod_int i0 h0
  obtain ⟨a1, e1, _, w1⟩ := DataW.trod_int i1 h1
  simp at e0 e1
  subst e0 e1
  exact ⟨a0, a1, rfl, w0, w1⟩

def numOfV : Value → Int
  | .int _ k => k
  | _ => 0

/-- A slice of structs of two integers: what it holds, how long. -/
theorem open_pairs {t e : TypeId} {f0 f1 : Field} {fuel : Nat} {v : Value} {x : DataW H × List MemPlace} (ht : P.underlying t = some (.slice e)) (he : P.underlying e = some (.struct #[f0, f1]))
    (ce : P.cellsOf e = 2) (o0 : f0.offset = 0) (o1 : f1.offset = 1) (c0 : P.cellsOf f0.type = 1) (c1 : P.cellsOf f1.type = 1) (i0 : P.underlying f0.type = some (.int .i64)) (i1 : P.underlying f1.type = some (.int .i64))
    (h : DataW.trod enc P w base spare held fuel t [v] = some x) :
    ∃ l : List Tm, TmAt w v l ∧ (∀ t ∈ l, (Lit.int .i64 t.1).wf = true ∧ (Lit.int .i64 t.2).wf = true) ∧ ((∃ D sp, x.1 = .slice ((List.range l.length).map D) sp ∧ ∀ i, i < l.length → ∃ a b, D i = .agg [.lit (.int .i64 a), .lit (.int .i64 b)]) ∨ l = []) := by
  rcases open_slice_pairs ht he ce o0 o1 c0 c1 h with ⟨hcs, _⟩ | ⟨a, len, cap, m, n, V0, V1, D0, D1, P0, P1, hcs, hb, hl, hm, hmm, hx, hc⟩
  · simp at hcs
    subst hcs
    exact ⟨[], rowAt_nil w, by simp, .inr rfl⟩
  · simp at hcs
    subst hcs
    have hlm : len ≤ m := by rw [hmm]; split <;> omega
    have each : ∀ i, i < len → w.cell? (a.add (i * 2)) = some (.int .i64 (numOfV (V0 i))) ∧ w.cell? (a.add (i * 2 + 1)) = some (.int .i64 (numOfV (V1 i))) ∧ (Lit.int .i64 (numOfV (V0 i))).wf = true ∧ (Lit.int .i64 (numOfV (V1 i))).wf = true ∧ D0 i = .lit (.int .i64 (numOfV (V0 i))) ∧ D1 i = .lit (.int .i64 (numOfV (V1 i))) := fun i hi => by
      obtain ⟨h1, h2, h3, h4⟩ := hc i (by omega)
      obtain ⟨a0, e0, d0, w0⟩ := DataW.trod_int i0 h3
      obtain ⟨a1, e1, d1, w1⟩ := DataW.trod_int i1 h4
      simp at e0 e1 d0 d1
      rw [e0] at h1
      rw [e1] at h2
      rw [e0, e1]
      exact ⟨h1, h2, w0, w1, d0.1, d1.1⟩
    have hlen : ((List.range len).map fun i => (numOfV (V0 i), numOfV (V1 i))).length = len := by simp
    refine ⟨(List.range len).map fun i => (numOfV (V0 i), numOfV (V1 i)), ?_, ?_, .inl ⟨fun i => .agg [D0 i, D1 i], _, by rw [hlen, hx], fun i hi => ?_⟩⟩
    · unfold TmAt
      rw [hlen]
      refine ⟨some a, cap, rfl, hl, hm, ?_⟩
      by_cases h0 : len = 0
      · exact .inl ⟨h0, by rw [h0]; rfl⟩
      · obtain ⟨b, off, spot⟩ := a
        have hc0 := (each 0 (by omega)).1
        have hspot : spot = none := by simpa [Addr.add] using World.cell?_spot hc0
        subst hspot
        have hadd : ∀ i, (⟨b, off, none⟩ : Addr).add i = ⟨b, off + i, none⟩ := fun i => by unfold Addr.add; split <;> simp_all
        refine .inr ⟨b, off, rfl, ?_, fun i hi => ?_⟩
        · rw [hadd] at hc0
          exact World.block_lt_of_cell? w ⟨b, off + 0 * 2, none⟩ hc0
        · rw [tcells_len, hlen] at hi
          have hj : i / 2 < len := by omega
          have ht := tcells_at ((List.range len).map fun i => (numOfV (V0 i), numOfV (V1 i))) (i / 2) (by rw [hlen]; exact hj)
          simp only [List.getElem_map, List.getElem_range] at ht
          obtain ⟨e1, e2, _⟩ := each (i / 2) hj
          rw [hadd] at e1 e2
          rcases Nat.mod_two_eq_zero_or_one i with hp | hp
          · rw [show i / 2 * 2 = i by omega] at e1 ht
            rw [e1, ht.1]
          · rw [show i / 2 * 2 + 1 = i by omega] at e2 ht
            rw [e2, ht.2]
    · intro t ht
      obtain ⟨i, hi, rfl⟩ := List.mem_map.1 ht
      obtain ⟨_, _, e3, e4, _⟩ := each i (List.mem_range.1 hi)
      exact ⟨e3, e4⟩
    · rw [hlen] at hi
      obtain ⟨_, _, _, _, e5, e6⟩ := each i hi
      exact ⟨_, _, by show DataW.agg [D0 i, D1 i] = _; rw [e5, e6]⟩
end

theorem gBlocks : Tryd.prog.globalNamed "usher/wheel.blocks" = some 0 := by kernel_rfl
theorem tBlocks : (Tryd.prog.globals[0]?).map (·.type) = some 67 := by kernel_rfl

abbrev laidB : List (String × DataW Unit) := [("usher/wheel.blocks", Rows.laid_usher_wheel_blocks)]

theorem door_met (os : Os) (args : Array Value) : laidMetH Tryd.prog laidB ((World.doorLaid Tryd.prog 400 os).forCall (fun _ _ => 0) ⟨#[], args, []⟩).memory :=
  laidMetH_of_parts3 (fuel := 8) (laidMet_of_run' 8 (by kernel_rfl) (by kernel_rfl)) (by kernel_rfl) (by kernel_rfl)

theorem blk_of_laid {W : World} (h : laidMetH Tryd.prog laidB W) : Blk W := by
  rw [MakeChecks.laidMetH_plain _ _ _ (by kernel_rfl)] at h
  obtain ⟨ps, ⟨g1, t1, cs1, f1, p1, q1, hg1, ht1, hv1, hd1, _, _⟩, _, _⟩ := h
  obtain rfl := Option.some.inj (gBlocks.symm.trans hg1)
  obtain rfl := Option.some.inj (tBlocks.symm.trans ht1)
  obtain ⟨xs, m1, rfl, hx1, hlen, hn3, hel⟩ := DataW.trod_array Tryd.underlying67 hd1
  have c3 : Tryd.prog.cellsOf 3 = 1 := by kernel_rfl
  have h0 := hel 0 (by decide)
  have h1 := hel 1 (by decide)
  have h2 := hel 2 (by decide)
  have hvc := fun i => World.var?_cell hg1 hv1 i
  simp only [Rows.laid_usher_wheel_blocks, Prod.mk.injEq, DataW.agg.injEq] at hx1
  match xs, hn3, hx1, h0, h1, h2 with
  | [x0, x1, x2], _, hx1, h0, h1, h2 =>
    simp only [List.map_cons, List.map_nil, List.cons.injEq] at hx1
    obtain ⟨k0, e0, y0, _⟩ := DataW.trod_int Tryd.underlying3 (show DataW.trod _ Tryd.prog W 0 _ false m1 3 _ = some x0 from h0)
    obtain ⟨k1, e1, y1, _⟩ := DataW.trod_int Tryd.underlying3 (show DataW.trod _ Tryd.prog W 0 _ false m1 3 _ = some x1 from h1)
    obtain ⟨k2, e2, y2, _⟩ := DataW.trod_int Tryd.underlying3 (show DataW.trod _ Tryd.prog W 0 _ false m1 3 _ = some x2 from h2)
    have hk0 : k0 = 8 := by rw [y0] at hx1; simpa using hx1.1.1.symm
    have hk1 : k1 = 64 := by rw [y1] at hx1; simpa using hx1.1.2.1.symm
    have hk2 : k2 = 512 := by rw [y2] at hx1; simpa using hx1.1.2.2.1.symm
    subst hk0 hk1 hk2
    obtain ⟨l1⟩ := cs1
    rw [c3] at e0 e1 e2
    have v0 := hvc 0
    have v1 := hvc 1
    have v2 := hvc 2
    match l1, e0, e1, e2 with
    | [a, b, c], e0, e1, e2 =>
      simp at e0 e1 e2 v0 v1 v2
      subst e0 e1 e2
      exact ⟨v0, v1, v2⟩
    | [], e0, e1, e2 => simp at e0
    | [a], e0, e1, e2 => simp at e1
    | [a, b], e0, e1, e2 => simp at e2
    | a :: b :: c :: d :: l, e0, e1, e2 =>
      simp at e0 e1 e2 v0 v1 v2
      subst e0 e1 e2
      exact ⟨v0, v1, v2⟩
end Go.Proofs.YtdfjobghgbcjpaaDoor.Walks
