/-
  Arguments that came in, opened: an event, a struct of four integers, a slice of bytes. Condition: the argument reads at its type.
-/
import Derived.Test.YtcafnliedkhjmabRows
import Derived.Test.YtcafnliedkhjmabChecked
import Derived.Test.YtcafnliedkhjmabPlain
import Derived.WalkKit
import Derived.ProofKit
import Derived.OpenShut
import Derived.ChangeArms
import Derived.Deep.Fields
namespace Go.Proofs.Ytcafnliedkhjmab.Opens
open Go.ChangeShapes Go.WideShapes Go.ChangeAt Go.RowKit Go.Deep
open Go.Proofs.Ytcafnliedkhjmab.Plain
set_option linter.unusedVariables false

section
variable {H : Type} {enc : TypeId × Value → H} {P : Program} {w : World} {base : Nat} {spare : Nat → Bool} {held : Bool}

theorem open_struct {r : Reach} {b0 : Nat} {t : TypeId} {fs : Array Field} {v : Value} {d : DataW H} {p : List MemPlace} (hs : P.underlying t = some (.struct fs)) (hone : oneCellFields P fs = true)
    (hv : Value.okWide P w r b0 t v) (h : DataW.Trod enc P w base spare held t v d p) :
    ∃ cs : Array Value, v = .agg cs ∧ cs.size = P.cellsOf t ∧ ∀ (i : Nat) (f : Field), fs[i]? = some f → ∃ n y, DataW.trod enc P w base spare held n f.type ((cs.toList.drop i).take 1) = some y := by
  obtain ⟨cs, rfl, hsz⟩ := okWide_struct hs hv
  obtain ⟨fuel, hf⟩ := h
  obtain ⟨xs, n, _, _, hl, hlen, hx⟩ := DataW.trod_struct hs hf
  refine ⟨cs, rfl, hsz, fun i f hi => ?_⟩
  have h1 := hx i f hi
  obtain ⟨o, k⟩ := hone_of hone i f hi
  have hlt : i < xs.length := by rw [hlen]; exact (Array.getElem?_eq_some_iff.1 hi).1
  rw [List.getElem?_eq_getElem hlt, o, k] at h1
  exact ⟨n, _, h1⟩
end

theorem array8 {α : Type} {cs : Array α} (h : cs.size = 8) : ∃ c0 c1 c2 c3 c4 c5 c6 c7, cs = #[c0, c1, c2, c3, c4, c5, c6, c7] := by
  obtain ⟨l⟩ := cs
  match l, h with
  | [c0, c1, c2, c3, c4, c5, c6, c7], _ => exact ⟨c0, c1, c2, c3, c4, c5, c6, c7, rfl⟩
theorem array4 {α : Type} {cs : Array α} (h : cs.size = 4) : ∃ c0 c1 c2 c3, cs = #[c0, c1, c2, c3] := by
  obtain ⟨l⟩ := cs
  match l, h with
  | [c0, c1, c2, c3], _ => exact ⟨c0, c1, c2, c3, rfl⟩

theorem cells23 : Try.prog.cellsOf 28 = 8 := by kernel_rfl
theorem cells36 : Try.prog.cellsOf 31 = 4 := by kernel_rfl
theorem one23 : ∃ fs, Try.prog.underlying 28 = some (.struct fs) ∧ oneCellFields Try.prog fs = true ∧ (fs.map (·.type)) = #[3, 3, 3, 3, 4, 3, 3, 3] := ⟨_, Try.underlying28, by kernel_rfl, by kernel_rfl⟩
theorem one36 : ∃ fs, Try.prog.underlying 31 = some (.struct fs) ∧ oneCellFields Try.prog fs = true ∧ (fs.map (·.type)) = #[3, 3, 3, 3] := ⟨_, Try.underlying31, by kernel_rfl, by kernel_rfl⟩

theorem open_event {H : Type} {enc : TypeId × Value → H} {w : World} {base : Nat} {spare : Nat → Bool} {held : Bool} {r : Reach} {b0 : Nat} {v : Value} {d : DataW H} {p : List MemPlace}
    (hv : Value.okWide Try.prog w r b0 28 v) (h : DataW.Trod enc Try.prog w base spare held 28 v d p) :
    ∃ e : Ev, v = .agg #[.int .i64 e.kind, .int .i64 e.key, .int .i64 e.slot, .int .i64 e.gen, .bool e.good, .int .i64 e.req, .int .i64 e.be, .int .i64 e.wt] := by
  obtain ⟨fs, hs, hone, ht⟩ := one23
  obtain ⟨cs, rfl, hsz, hx⟩ := open_struct hs hone hv h
  obtain ⟨c0, c1, c2, c3, c4, c5, c6, c7, rfl⟩ := array8 (hsz.trans cells23)
  have key : ∀ i t, (#[3, 3, 3, 3, 4, 3, 3, 3] : Array TypeId)[i]? = some t → ∃ n y, DataW.trod enc Try.prog w base spare held n t (([c0, c1, c2, c3, c4, c5, c6, c7].drop i).take 1) = some y := by
    intro i t hi
    rw [← ht, Array.getElem?_map] at hi
    cases hf : fs[i]? with
    | none => rw [hf] at hi; cases hi
    | some f => rw [hf] at hi; cases hi; exact hx i f hf
  obtain ⟨_, _, h0⟩ := key 0 3 rfl
  obtain ⟨_, _, h1⟩ := key 1 3 rfl
  obtain ⟨_, _, h2⟩ := key 2 3 rfl
  obtain ⟨_, _, h3⟩ := key 3 3 rfl
  obtain ⟨_, _, h4⟩ := key 4 4 rfl
  obtain ⟨_, _, h5⟩ := key 5 3 rfl
  obtain ⟨_, _, h6⟩ := key 6 3 rfl
  obtain ⟨_, _, h7⟩ := key 7 3 rfl
  obtain ⟨a0, e0, _⟩ := DataW.trod_int Try.underlying3 h0
  obtain ⟨a1, e1, _⟩ := DataW.trod_int Try.underlying3 h1
  obtain ⟨a2, e2, _⟩ := DataW.trod_int Try.underlying3 h2
  obtain ⟨a3, e3, _⟩ := DataW.trod_int Try.underlying3 h3
  obtain ⟨a4, e4, _⟩ := DataW.trod_bool Try.underlying4 h4
  obtain ⟨a5, e5, _⟩ := DataW.trod_int Try.underlying3 h5
  obtain ⟨a6, e6, _⟩ := DataW.trod_int Try.underlying3 h6
  obtain ⟨a7, e7, _⟩ := DataW.trod_int Try.underlying3 h7
  simp at e0 e1 e2 e3 e4 e5 e6 e7
  subst e0 e1 e2 e3 e4 e5 e6 e7
  exact ⟨⟨a0, a1, a2, a3, a4, a5, a6, a7⟩, rfl⟩

theorem open_coming {H : Type} {enc : TypeId × Value → H} {w : World} {base : Nat} {spare : Nat → Bool} {held : Bool} {r : Reach} {b0 : Nat} {v : Value} {d : DataW H} {p : List MemPlace}
    (hv : Value.okWide Try.prog w r b0 31 v) (h : DataW.Trod enc Try.prog w base spare held 31 v d p) :
    ∃ a0 a1 a2 a3 : Int, v = .agg #[.int .i64 a0, .int .i64 a1, .int .i64 a2, .int .i64 a3] ∧ (Lit.int .i64 a0).wf = true ∧ (Lit.int .i64 a1).wf = true ∧ (Lit.int .i64 a2).wf = true ∧ (Lit.int .i64 a3).wf = true := by
  obtain ⟨fs, hs, hone, ht⟩ := one36
  obtain ⟨cs, rfl, hsz, hx⟩ := open_struct hs hone hv h
  obtain ⟨c0, c1, c2, c3, rfl⟩ := array4 (hsz.trans cells36)
  have key : ∀ i t, (#[3, 3, 3, 3] : Array TypeId)[i]? = some t → ∃ n y, DataW.trod enc Try.prog w base spare held n t (([c0, c1, c2, c3].drop i).take 1) = some y := by
    intro i t hi
    rw [← ht, Array.getElem?_map] at hi
    cases hf : fs[i]? with
    | none => rw [hf] at hi; cases hi
    | some f => rw [hf] at hi; cases hi; exact hx i f hf
  obtain ⟨_, _, h0⟩ := key 0 3 rfl
  obtain ⟨_, _, h1⟩ := key 1 3 rfl
  obtain ⟨_, _, h2⟩ := key 2 3 rfl
  obtain ⟨_, _, h3⟩ := key 3 3 rfl
  obtain ⟨a0, e0, _, w0⟩ := DataW.trod_int Try.underlying3 h0
  obtain ⟨a1, e1, _, w1⟩ := DataW.trod_int Try.underlying3 h1
  obtain ⟨a2, e2, _, w2⟩ := DataW.trod_int Try.underlying3 h2
  obtain ⟨a3, e3, _, w3⟩ := DataW.trod_int Try.underlying3 h3
  simp at e0 e1 e2 e3
  subst e0 e1 e2 e3
  exact ⟨a0, a1, a2, a3, rfl, w0, w1, w2, w3⟩

end Go.Proofs.Ytcafnliedkhjmab.Opens
