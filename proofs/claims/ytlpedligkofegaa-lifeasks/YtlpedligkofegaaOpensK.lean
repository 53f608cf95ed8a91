/-
  A slice of records, a book, a record of five whole numbers that came in, opened. Condition: what is read can be read.
-/
import Derived.Test.YtlpedligkofegaaOpens
import Derived.Test.YtlpedligkofegaaPlain
import Derived.ChangeSame
import Derived.SizedLaws
import Derived.Deep.Slices
import Derived.WalkKit
import Derived.ProofKit
import Derived.Handy
import Derived.LoopTactic
import Derived.Below
import Derived.Laws.BitsAllLaws
import Derived.RegionTactic
import Derived.Deep.RegionHeld3
import Derived.Deep.DrawnRows
import Derived.Deep.AppendLies
import Derived.Laws.OwnMore
import Derived.Deep.Onto
import Derived.Deep.QuietTactic
import Derived.BigQuiet
namespace Go.Proofs.Ytlpedligkofegaa.Walks
open Go.RowKit
set_option linter.unusedVariables false
set_option linter.unusedSimpArgs false
attribute [local go_sem ↓] Go.wp_at_zero Go.wp_at_succ
open Go.ChangeShapes Go.WideShapes Go.ChangeAt Go.Deep

/-- All fields are whole numbers, one cell each. -/
def intFields (P : Program) (fs : Array Field) : Bool :=
  (List.range fs.size).all fun j => match fs[j]? with
    | some f => f.offset == j && P.cellsOf f.type == 1 && (match P.underlying f.type with | some (.int .i64) => true | _ => false)
    | none => false

theorem intFields_of {P : Program} {fs : Array Field} (h : intFields P fs = true) (j : Nat) (f : Field) (hj : fs[j]? = some f) : f.offset = j ∧ P.cellsOf f.type = 1 ∧ P.underlying f.type = some (.int .i64) := by
  have hlt : j < fs.size := (Array.getElem?_eq_some_iff.1 hj).1
  have := List.all_eq_true.1 h j (List.mem_range.2 hlt)
  simp only [hj, Bool.and_eq_true, beq_iff_eq] at this
  obtain ⟨⟨h1, h2⟩, h3⟩ := this
  refine ⟨h1, h2, ?_⟩
  revert h3
  generalize P.underlying f.type = u
  intro h3
  split at h3
  · rfl
  · cases h3

section
variable {H : Type} {enc : TypeId × Value → H} {P : Program} {w : World} {base : Nat} {spare : Nat → Bool} {held : Bool}

/-- A slice of records of whole numbers: what it holds. -/
theorem open_recs {α : Type} {c : α → List Int} {k : Nat} (hk : ∀ x, (c x).length = k) (hk0 : 0 < k) (mk : (Nat → Int) → α) (hmk : ∀ f j, j < k → (c (mk f))[j]? = some (f j)) {t e : TypeId} {fs : Array Field} {fuel : Nat} {v : Value} {x : DataW H × List MemPlace} (ht : P.underlying t = some (.slice e)) (he : P.underlying e = some (.struct fs)) (ce : P.cellsOf e = k) (hfs : fs.size = k) (hint : intFields P fs = true)
    (h : DataW.trod enc P w base spare held fuel t [v] = some x) :
    ∃ l : List α, RcAt c w v l ∧ (∀ y ∈ l, ∀ n ∈ c y, (Lit.int .i64 n).wf = true) ∧ ((∃ D sp, x.1 = .slice ((List.range l.length).map D) sp) ∨ l = []) := by
  rcases open_slice ht h with ⟨hcs, _⟩ | ⟨a, len, cap, m, n, D, Pl, hcs, hb, hl, hm, hmm, rfl, hx⟩
  · simp at hcs
    subst hcs
    exact ⟨[], rowAt_nil w, by simp, .inr rfl⟩
  · simp at hcs
    subst hcs
    have hlm : len ≤ m := by rw [hmm]; split <;> omega
    have each : ∀ i, i < m → ∃ q : Nat → Int, ∀ j, j < k → w.cell? (a.add (i * k + j)) = some (.int .i64 (q j)) ∧ (Lit.int .i64 (q j)).wf = true := by
      intro i hi
      obtain ⟨cs', h1, h2⟩ := hx i hi
      rw [ce] at h1
      obtain ⟨_, hlen, hcell⟩ := World.cells?_some h1
      obtain ⟨xs, k', hk', hxy, _, hxl, hf⟩ := DataW.trod_struct he h2
      have one : ∀ j, j < k → ∃ q : Int, w.cell? (a.add (i * k + j)) = some (.int .i64 q) ∧ (Lit.int .i64 q).wf = true := by
        intro j hj
        have hjf : j < fs.size := by omega
        have g := hf j fs[j] (Array.getElem?_eq_getElem hjf)
        obtain ⟨o, c1, u⟩ := intFields_of hint j fs[j] (Array.getElem?_eq_getElem hjf)
        rw [List.getElem?_eq_getElem (by rw [hxl]; exact hjf), o, c1] at g
        obtain ⟨n0, z0, _, w0⟩ := DataW.trod_int u g
        have e0 := hcell j (by omega)
        rw [add_add] at e0
        have hcj : cs'[j]? = some (.int .i64 n0) := by
          have : (cs'.drop j).head? = some (.int .i64 n0) := by
            have hh := congrArg List.head? z0
            rw [List.head?_take] at hh
            simpa using hh
          rw [List.head?_drop] at this
          exact this
        rw [hcj] at e0
        exact ⟨n0, e0, w0⟩
      obtain ⟨q, hq⟩ := choose_lt one
      exact ⟨q, hq⟩
    obtain ⟨q, hq⟩ := choose_lt each
    have hlen : ((List.range len).map (fun i => mk (q i))).length = len := by simp
    refine ⟨(List.range len).map (fun i => mk (q i)), ?_, ?_, .inl ⟨D, _, by rw [hlen]⟩⟩
    · unfold RcAt
      rw [hlen]
      refine ⟨some a, cap, rfl, hl, hm, ?_⟩
      by_cases h0 : len = 0
      · exact .inl ⟨h0, by rw [h0]; rfl⟩
      · obtain ⟨b, off, spot⟩ := a
        have hc0 := (hq 0 (by omega) 0 hk0).1
        have hspot : spot = none := by simpa [Addr.add] using World.cell?_spot hc0
        subst hspot
        have hadd : ∀ i, (⟨b, off, none⟩ : Addr).add i = ⟨b, off + i, none⟩ := fun i => by unfold Addr.add; split <;> simp_all
        refine .inr ⟨b, off, rfl, ?_, fun i hi => ?_⟩
        · rw [hadd] at hc0
          exact World.block_lt_of_cell? w ⟨b, off + (0 * k + 0), none⟩ hc0
        · rw [recs_len hk, hlen] at hi
          have hdiv : i / k < len := Nat.div_lt_of_lt_mul (by rw [Nat.mul_comm]; exact hi)
          have hmod : i % k < k := Nat.mod_lt _ hk0
          have hat := recs_at hk ((List.range len).map (fun i => mk (q i))) (i / k) (i % k) (by rw [hlen]; exact hdiv) hmod
          have hc := (hq (i / k) (by omega) (i % k) hmod).1
          have hi2 : i / k * k + i % k = i := by rw [Nat.mul_comm]; exact Nat.div_add_mod i k
          rw [hi2] at hat hc
          rw [hadd] at hc
          simp only [List.getElem_map, List.getElem_range] at hat
          rw [hmk _ _ hmod] at hat
          rw [hc, hat]
          rfl
    · intro y hy n hn
      obtain ⟨i, hi, rfl⟩ := List.mem_map.1 hy
      have hil := List.mem_range.1 hi
      obtain ⟨j, hj, rfl⟩ := List.getElem_of_mem hn
      have hjk : j < k := by rw [hk] at hj; exact hj
      have e1 := hmk (q i) j hjk
      rw [List.getElem?_eq_getElem hj] at e1
      rw [Option.some.inj e1]
      exact (hq i (by omega) j hjk).2

abbrev mkLf (f : Nat → Int) : Lf := (f 0, f 1, f 2, f 3, f 4, f 5)

abbrev mkRq (f : Nat → Int) : Rq := (f 0, f 1, f 2, f 3, f 4)

theorem mkLf_at (f : Nat → Int) (j : Nat) (hj : j < 6) : (lfC (mkLf f))[j]? = some (f j) := by
  match j, hj with
  | 0, _ => rfl
  | 1, _ => rfl
  | 2, _ => rfl
  | 3, _ => rfl
  | 4, _ => rfl
  | 5, _ => rfl

theorem mkRq_at (f : Nat → Int) (j : Nat) (hj : j < 5) : (rqC (mkRq f))[j]? = some (f j) := by
  match j, hj with
  | 0, _ => rfl
  | 1, _ => rfl
  | 2, _ => rfl
  | 3, _ => rfl
  | 4, _ => rfl

/-- A book. -/
theorem open_book {r : Reach} {b0 : Nat} {t e0 e1 : TypeId} {f0 f1 : Field} {fs0 fs1 : Array Field} {v : Value} {d : DataW H} {p : List MemPlace} (hs : P.underlying t = some (.struct #[f0, f1])) (h2 : P.cellsOf t = 2)
    (o0 : f0.offset = 0) (o1 : f1.offset = 1) (c0 : P.cellsOf f0.type = 1) (c1 : P.cellsOf f1.type = 1)
    (i0 : P.underlying f0.type = some (.slice e0)) (j0 : P.underlying e0 = some (.struct fs0)) (k0 : P.cellsOf e0 = 6) (z0 : fs0.size = 6) (n0 : intFields P fs0 = true)
    (i1 : P.underlying f1.type = some (.slice e1)) (j1 : P.underlying e1 = some (.struct fs1)) (k1 : P.cellsOf e1 = 5) (z1 : fs1.size = 5) (n1 : intFields P fs1 = true)
    (hv : Value.okWide P w r b0 t v) (h : DataW.Trod enc P w base spare held t v d p) :
    ∃ (va vb : Value) (L : List Lf) (R : List Rq), v = .agg #[va, vb] ∧ (RcAt lfC w va L ∧ RcAt rqC w vb R) ∧ ((∃ D sp x1, d = .agg [.slice ((List.range L.length).map D) sp, x1]) ∨ L = []) ∧ ((∃ D sp x1, d = .agg [x1, .slice ((List.range R.length).map D) sp]) ∨ R = []) := by
  obtain ⟨cs, rfl, hsz⟩ := okWide_struct hs hv
  obtain ⟨va, vb, rfl⟩ := array2 (hsz.trans h2)
  obtain ⟨fuel, hf⟩ := h
  obtain ⟨xs, n, _, hd, _, hxl, hx⟩ := DataW.trod_struct hs hf
  match xs, hxl, hd, hx with
  | [y0, y1], _, hd, hx =>
    have g0 := hx 0 f0 rfl
    have g1 := hx 1 f1 rfl
    simp [o0, o1, c0, c1, Value.cells] at g0 g1
    obtain ⟨L, hL, _, hz0⟩ := open_recs lf6 (by decide) mkLf mkLf_at i0 j0 k0 z0 n0 g0
    obtain ⟨R, hR, _, hz1⟩ := open_recs rq5 (by decide) mkRq mkRq_at i1 j1 k1 z1 n1 g1
    have hd2 : d = .agg [y0.1, y1.1] := congrArg Prod.fst hd
    refine ⟨va, vb, L, R, rfl, ⟨hL, hR⟩, ?_, ?_⟩
    · rcases hz0 with ⟨D, sp, hz⟩ | hz
      · exact .inl ⟨D, sp, _, by rw [hd2, hz]⟩
      · exact .inr hz
    · rcases hz1 with ⟨D, sp, hz⟩ | hz
      · exact .inl ⟨D, sp, _, by rw [hd2, hz]⟩
      · exact .inr hz

theorem sized_book0 {ts : List TypeId} {ds : List (DataW H)} (h : (DataW.weightsEach P ts ds).all (· ≤ reachBytes) = true) {j : Nat} {t e : TypeId} {f f1 : Field} {elems spare : List (DataW H)} {x1 : DataW H} (ht : ts[j]? = some t) (hd : ds[j]? = some (.agg [.slice elems spare, x1])) (hs : P.underlying t = some (.struct #[f, f1])) (hu : P.underlying f.type = some (.slice e)) :
    (elems.length + spare.length) * P.bytesOf e ≤ reachBytes := by
  have := List.all_eq_true.1 h _ (DataW.weights_mem_each ht hd ((elems.length + spare.length) * P.bytesOf e) (by simp [DataW.weights, DataW.weightsEach, hs, hu]))
  simpa using this

theorem sized_book1 {ts : List TypeId} {ds : List (DataW H)} (h : (DataW.weightsEach P ts ds).all (· ≤ reachBytes) = true) {j : Nat} {t e : TypeId} {f f1 : Field} {elems spare : List (DataW H)} {x1 : DataW H} (ht : ts[j]? = some t) (hd : ds[j]? = some (.agg [x1, .slice elems spare])) (hs : P.underlying t = some (.struct #[f, f1])) (hu : P.underlying f1.type = some (.slice e)) :
    (elems.length + spare.length) * P.bytesOf e ≤ reachBytes := by
  have := List.all_eq_true.1 h _ (DataW.weights_mem_each ht hd ((elems.length + spare.length) * P.bytesOf e) (by simp [DataW.weights, DataW.weightsEach, hs, hu]))
  simpa using this

theorem array5 {α : Type} {cs : Array α} (h : cs.size = 5) : ∃ c0 c1 c2 c3 c4, cs = #[c0, c1, c2, c3, c4] := by
  obtain ⟨l⟩ := cs
  match l, h with
  | [c0, c1, c2, c3, c4], _ => exact ⟨c0, c1, c2, c3, c4, rfl⟩

/-- A record of five whole numbers. -/
theorem open_five {r : Reach} {b0 : Nat} {t : TypeId} {f0 f1 f2 f3 f4 : Field} {v : Value} {d : DataW H} {p : List MemPlace} (hs : P.underlying t = some (.struct #[f0, f1, f2, f3, f4])) (hone : oneCellFields P #[f0, f1, f2, f3, f4] = true) (h5 : P.cellsOf t = 5)
    (i0 : P.underlying f0.type = some (.int .i64)) (i1 : P.underlying f1.type = some (.int .i64)) (i2 : P.underlying f2.type = some (.int .i64)) (i3 : P.underlying f3.type = some (.int .i64)) (i4 : P.underlying f4.type = some (.int .i64)) (hv : Value.okWide P w r b0 t v) (h : DataW.Trod enc P w base spare held t v d p) :
    ∃ a0 a1 a2 a3 a4 : Int, v = .agg #[.int .i64 a0, .int .i64 a1, .int .i64 a2, .int .i64 a3, .int .i64 a4] ∧ (Lit.int .i64 a0).wf = true ∧ (Lit.int .i64 a1).wf = true ∧ (Lit.int .i64 a2).wf = true ∧ (Lit.int .i64 a3).wf = true ∧ (Lit.int .i64 a4).wf = true := by
  obtain ⟨cs, rfl, hsz, hx⟩ := open_struct hs hone hv h
  obtain ⟨c0, c1, c2, c3, c4, rfl⟩ := array5 (hsz.trans h5)
  obtain ⟨_, _, h0⟩ := hx 0 f0 rfl
  obtain ⟨_, _, h1⟩ := hx 1 f1 rfl
  obtain ⟨_, _, h2⟩ := hx 2 f2 rfl
  obtain ⟨_, _, h3⟩ := hx 3 f3 rfl
  obtain ⟨_, _, h4⟩ := hx 4 f4 rfl
  obtain ⟨a0, e0, _, w0⟩ := DataW.trod_int i0 h0
  obtain ⟨a1, e1, _, w1⟩ := DataW.trod_int i1 h1
  obtain ⟨a2, e2, _, w2⟩ := DataW.trod_int i2 h2
  obtain ⟨a3, e3, _, w3⟩ := DataW.trod_int i3 h3
  obtain ⟨a4, e4, _, w4⟩ := DataW.trod_int i4 h4
  simp at e0 e1 e2 e3 e4
  subst e0 e1 e2 e3 e4
  exact ⟨a0, a1, a2, a3, a4, rfl, w0, w1, w2, w3, w4⟩
end
end Go.Proofs.Ytlpedligkofegaa.Walks
