/-
  A ring that came in, opened; how long it can be.
-/
import Derived.Test.YtpmobbbohchdlaaOpens
import Derived.ChangeSame
import Derived.SizedLaws
import Derived.WalkKit
import Derived.ProofKit
import Derived.Handy
import Derived.LoopTactic
import Derived.Below
import Derived.Laws.BitsAllLaws
import Derived.RegionTactic
import Derived.Deep.RegionHeld3
import Derived.Deep.DrawnRows
import Derived.Deep.AppendLies
import Derived.Laws.OwnMore
import Derived.Deep.Onto
import Derived.Deep.QuietTactic
import Derived.BigQuiet
namespace Go.Proofs.Ytpmobbbohchdlaa.Walks
open Go.RowKit
set_option linter.unusedVariables false
set_option linter.unusedSimpArgs false
attribute [local go_sem ↓] Go.wp_at_zero Go.wp_at_succ
open Go.ChangeShapes Go.WideShapes Go.ChangeAt Go.Deep

section
variable {H : Type} {enc : TypeId × Value → H} {P : Program} {w : World} {base : Nat} {spare : Nat → Bool} {held : Bool}

theorem array1 {α : Type} {cs : Array α} (h : cs.size = 1) : ∃ c0, cs = #[c0] := by
  obtain ⟨l⟩ := cs
  match l, h with
  | [c0], _ => exact ⟨c0, rfl⟩

/-- A struct whose only field is a slice of structs of two integers. -/
theorem open_ring {r : Reach} {b0 : Nat} {t e : TypeId} {f f0 f1 : Field} {v : Value} {d : DataW H} {p : List MemPlace} (hs : P.underlying t = some (.struct #[f])) (h1 : P.cellsOf t = 1) (ho : f.offset = 0) (hc : P.cellsOf f.type = 1)
    (ht : P.underlying f.type = some (.slice e)) (he : P.underlying e = some (.struct #[f0, f1]))
    (ce : P.cellsOf e = 2) (o0 : f0.offset = 0) (o1 : f1.offset = 1) (c0 : P.cellsOf f0.type = 1) (c1 : P.cellsOf f1.type = 1) (i0 : P.underlying f0.type = some (.int .i64)) (i1 : P.underlying f1.type = some (.int .i64))
    (hv : Value.okWide P w r b0 t v) (h : DataW.Trod enc P w base spare held t v d p) :
    ∃ (u : Value) (l : List Tm), v = .agg #[u] ∧ TmAt w u l ∧ (∀ t ∈ l, (Lit.int .i64 t.1).wf = true ∧ (Lit.int .i64 t.2).wf = true) ∧ ((∃ D sp, d = .agg [.slice ((List.range l.length).map D) sp]) ∨ l = []) := by
  obtain ⟨cs, rfl, hsz⟩ := okWide_struct hs hv
  obtain ⟨u, rfl⟩ := array1 (hsz.trans h1)
  obtain ⟨fuel, hf⟩ := h
  obtain ⟨y0, n, hx, _, hy⟩ := trod_struct1 hs hf
  rw [ho, hc] at hy
  have hy' : DataW.trod enc P w base spare held n f.type [u] = some y0 := hy
  obtain ⟨l, hat, hwf, hz⟩ := open_pairs ht he ce o0 o1 c0 c1 i0 i1 hy'
  refine ⟨u, l, rfl, hat, hwf, ?_⟩
  rcases hz with ⟨D, sp, hd, _⟩ | hz
  · left
    have hd2 : d = .agg [y0.1] := congrArg Prod.fst hx
    exact ⟨D, sp, by rw [hd2, hd]⟩
  · exact .inr hz

theorem sized_ring {ts : List TypeId} {ds : List (DataW H)} (h : (DataW.weightsEach P ts ds).all (· ≤ reachBytes) = true) {j : Nat} {t e : TypeId} {f : Field} {elems spare : List (DataW H)} (ht : ts[j]? = some t) (hd : ds[j]? = some (.agg [.slice elems spare])) (hs : P.underlying t = some (.struct #[f])) (hu : P.underlying f.type = some (.slice e)) :
    (elems.length + spare.length) * P.bytesOf e ≤ reachBytes := by
  have := List.all_eq_true.1 h _ (DataW.weights_mem_each ht hd ((elems.length + spare.length) * P.bytesOf e) (by simp [DataW.weights, DataW.weightsEach, hs, hu]))
  simpa using this
end
end Go.Proofs.Ytpmobbbohchdlaa.Walks
