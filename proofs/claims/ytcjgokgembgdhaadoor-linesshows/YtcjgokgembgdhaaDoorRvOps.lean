/-
  A slice of records of whole numbers that came in, opened. Condition: what is read can be read.
-/
import Derived.Test.YtcjgokgembgdhaaDoorRvRv
import Derived.OpenShut
import Derived.ChangeArms
import Derived.Deep.Fields
import Derived.ChangeSame
import Derived.SizedLaws
import Derived.Deep.Slices
import Derived.WalkKit
import Derived.ProofKit
import Derived.Handy
import Derived.LoopTactic
import Derived.Below
import Derived.Laws.BitsAllLaws
import Derived.RegionTactic
import Derived.Deep.RegionHeld3
import Derived.Deep.DrawnRows
import Derived.Deep.AppendLies
import Derived.Laws.OwnMore
import Derived.Deep.Onto
import Derived.Deep.QuietTactic
import Derived.BigQuiet
namespace Go.Proofs.YtcjgokgembgdhaaDoor.Rv
open Go.RowKit
set_option linter.unusedVariables false
set_option linter.unusedSimpArgs false
attribute [local go_sem ↓] Go.wp_at_zero Go.wp_at_succ
open Go.ChangeShapes Go.WideShapes Go.ChangeAt Go.Deep

/-- All fields are whole numbers, one cell each. -/
def intFields (P : Program) (fs : Array Field) : Bool :=
  (List.range fs.size).all fun j => match fs[j]? with
    | some f => f.offset == j && P.cellsOf f.type == 1 && (match P.underlying f.type with | some (.int .i64) => true | _ => false)
    | none => false

theorem intFields_of {P : Program} {fs : Array Field} (h : intFields P fs = true) (j : Nat) (f : Field) (hj : fs[j]? = some f) : f.offset = j ∧ P.cellsOf f.type = 1 ∧ P.underlying f.type = some (.int .i64) := by
  have hlt : j < fs.size := (Array.getElem?_eq_some_iff.1 hj).1
  have := List.all_eq_true.1 h j (List.mem_range.2 hlt)
  simp only [hj, Bool.and_eq_true, beq_iff_eq] at this
  obtain ⟨⟨h1, h2⟩, h3⟩ := this
  refine ⟨h1, h2, ?_⟩
  revert h3
  generalize P.underlying f.type = u
  intro h3
  split at h3
  · rfl
  · cases h3

section
variable {H : Type} {enc : TypeId × Value → H} {P : Program} {w : World} {base : Nat} {spare : Nat → Bool} {held : Bool}

/-- A slice of records of whole numbers: what it holds. -/
theorem open_recs {α : Type} {c : α → List Value} {k : Nat} (hk : ∀ x, (c x).length = k) (hk0 : 0 < k) (mk : (Nat → Int) → α) (hmk : ∀ f j, j < k → (c (mk f))[j]? = some (.int .i64 (f j))) {t e : TypeId} {fs : Array Field} {fuel : Nat} {v : Value} {x : DataW H × List MemPlace} (ht : P.underlying t = some (.slice e)) (he : P.underlying e = some (.struct fs)) (ce : P.cellsOf e = k) (hfs : fs.size = k) (hint : intFields P fs = true)
    (h : DataW.trod enc P w base spare held fuel t [v] = some x) :
    ∃ l : List α, RvAt c w v l ∧ (∀ y ∈ l, ∃ f : Nat → Int, y = mk f ∧ ∀ j, j < k → (Lit.int .i64 (f j)).wf = true) ∧ ((∃ D sp, x.1 = .slice ((List.range l.length).map D) sp) ∨ l = []) := by
  rcases open_slice ht h with ⟨hcs, _⟩ | ⟨a, len, cap, m, n, D, Pl, hcs, hb, hl, hm, hmm, rfl, hx⟩
  · simp at hcs
    subst hcs
    exact ⟨[], rowAt_nil w, by simp, .inr rfl⟩
  · simp at hcs
    subst hcs
    have hlm : len ≤ m := by rw [hmm]; split <;> omega
    have each : ∀ i, i < m → ∃ q : Nat → Int, ∀ j, j < k → w.cell? (a.add (i * k + j)) = some (.int .i64 (q j)) ∧ (Lit.int .i64 (q j)).wf = true := by
      intro i hi
      obtain ⟨cs', h1, h2⟩ := hx i hi
      rw [ce] at h1
      obtain ⟨_, hlen, hcell⟩ := World.cells?_some h1
      obtain ⟨xs, k', hk', hxy, _, hxl, hf⟩ := DataW.trod_struct he h2
      have one : ∀ j, j < k → ∃ q : Int, w.cell? (a.add (i * k + j)) = some (.int .i64 q) ∧ (Lit.int .i64 q).wf = true := by
        intro j hj
        have hjf : j < fs.size := by omega
        have g := hf j fs[j] (Array.getElem?_eq_getElem hjf)
        obtain ⟨o, c1, u⟩ := intFields_of hint j fs[j] (Array.getElem?_eq_getElem hjf)
        rw [List.getElem?_eq_getElem (by rw [hxl]; exact hjf), o, c1] at g
        obtain ⟨n0, z0, _, w0⟩ := DataW.trod_int u g
        have e0 := hcell j (by omega)
        rw [add_add] at e0
        have hcj : cs'[j]? = some (.int .i64 n0) := by
          have : (cs'.drop j).head? = some (.int .i64 n0) := by
            have hh := congrArg List.head? z0
            rw [List.head?_take] at hh
            simpa using hh
          rw [List.head?_drop] at this
          exact this
        rw [hcj] at e0
        exact ⟨n0, e0, w0⟩
      obtain ⟨q, hq⟩ := choose_lt one
      exact ⟨q, hq⟩
    obtain ⟨q, hq⟩ := choose_lt each
    have hlen : ((List.range len).map (fun i => mk (q i))).length = len := by simp
    refine ⟨(List.range len).map (fun i => mk (q i)), ?_, ?_, .inl ⟨D, _, by rw [hlen]⟩⟩
    · unfold RvAt
      rw [hlen]
      refine ⟨some a, cap, rfl, hl, hm, ?_⟩
      by_cases h0 : len = 0
      · exact .inl ⟨h0, by rw [h0]; rfl⟩
      · obtain ⟨b, off, spot⟩ := a
        have hc0 := (hq 0 (by omega) 0 hk0).1
        have hspot : spot = none := by simpa [Addr.add] using World.cell?_spot hc0
        subst hspot
        have hadd : ∀ i, (⟨b, off, none⟩ : Addr).add i = ⟨b, off + i, none⟩ := fun i => by unfold Addr.add; split <;> simp_all
        refine .inr ⟨b, off, rfl, ?_, fun i hi => ?_⟩
        · rw [hadd] at hc0
          exact World.block_lt_of_cell? w ⟨b, off + (0 * k + 0), none⟩ hc0
        · rw [rv_len hk, hlen] at hi
          have hdiv : i / k < len := Nat.div_lt_of_lt_mul (by rw [Nat.mul_comm]; exact hi)
          have hmod : i % k < k := Nat.mod_lt _ hk0
          have hat := rv_at hk ((List.range len).map (fun i => mk (q i))) (i / k) (i % k) (by rw [hlen]; exact hdiv) hmod
          have hc := (hq (i / k) (by omega) (i % k) hmod).1
          have hi2 : i / k * k + i % k = i := by rw [Nat.mul_comm]; exact Nat.div_add_mod i k
          rw [hi2] at hat hc
          rw [hadd] at hc
          simp only [List.getElem_map, List.getElem_range] at hat
          rw [hmk _ _ hmod] at hat
          rw [hc, hat]
    · intro y hy
      obtain ⟨i, hi, rfl⟩ := List.mem_map.1 hy
      exact ⟨q i, rfl, fun j hj => (hq i (by have := List.mem_range.1 hi; omega) j hj).2⟩
end
end Go.Proofs.YtcjgokgembgdhaaDoor.Rv
