/-
  A slice of events that came in, opened; the words and the table out of LinesShows' list. No condition.
-/
import Derived.Test.YtcjgokgembgdhaaDoorEsS
import Derived.Test.YtcjgokgembgdhaaDoorOpL
import Derived.Test.YtcjgokgembgdhaaDoorRvOps
import Derived.WalkKit
import Derived.ProofKit
import Derived.Handy
import Derived.LoopTactic
import Derived.Below
import Derived.Laws.BitsAllLaws
import Derived.RegionTactic
import Derived.Deep.RegionHeld3
import Derived.Deep.DrawnRows
import Derived.Deep.AppendLies
import Derived.Laws.OwnMore
import Derived.Deep.Onto
import Derived.Deep.QuietTactic
import Derived.BigQuiet
namespace Go.Proofs.YtcjgokgembgdhaaDoor.Walks
open Go.RowKit
open Go.Proofs.YtcjgokgembgdhaaDoor.Plain
set_option linter.unusedVariables false
set_option linter.unusedSimpArgs false
attribute [local go_sem ↓] Go.wp_at_zero Go.wp_at_succ
open Go.ChangeShapes Go.WideShapes Go.ChangeAt Go.Deep

def evFields (P : Program) (fs : Array Field) : Bool :=
  (List.range fs.size).all fun j => match fs[j]? with
    | some f => f.offset == j && P.cellsOf f.type == 1 && (match P.underlying f.type with | some (.int .i64) => !(j == 4) | some .bool => j == 4 | _ => false)
    | none => false

theorem evFields_of {P : Program} {fs : Array Field} (h : evFields P fs = true) (j : Nat) (f : Field) (hj : fs[j]? = some f) : f.offset = j ∧ P.cellsOf f.type = 1 ∧ (¬ j = 4 → P.underlying f.type = some (.int .i64)) ∧ (j = 4 → P.underlying f.type = some .bool) := by
  have hlt : j < fs.size := (Array.getElem?_eq_some_iff.1 hj).1
  have := List.all_eq_true.1 h j (List.mem_range.2 hlt)
  simp only [hj, Bool.and_eq_true, beq_iff_eq] at this
  obtain ⟨⟨h1, h2⟩, h3⟩ := this
  refine ⟨h1, h2, ?_⟩
  revert h3
  generalize P.underlying f.type = u
  intro h3
  split at h3
  · exact ⟨fun _ => rfl, fun h => by simp [h] at h3⟩
  · exact ⟨fun h => by simp [h] at h3, fun _ => rfl⟩
  · cases h3

def okV (j : Nat) (v : Value) : Prop := if j = 4 then ∃ b, v = .bool b else ∃ z, v = .int .i64 z
def unI : Value → Int
  | .int _ z => z
  | _ => 0
def unB : Value → Bool
  | .bool b => b
  | _ => false
def mkE (f : Nat → Value) : Ev := ⟨unI (f 0), unI (f 1), unI (f 2), unI (f 3), unB (f 4), unI (f 5), unI (f 6), unI (f 7)⟩
theorem un_int {j : Nat} {v : Value} (h : okV j v) (hj : ¬ j = 4) : Value.int .i64 (unI v) = v := by
  unfold okV at h; rw [if_neg hj] at h; obtain ⟨z, rfl⟩ := h; rfl
theorem un_bool {v : Value} (h : okV 4 v) : Value.bool (unB v) = v := by
  unfold okV at h; rw [if_pos rfl] at h; obtain ⟨z, rfl⟩ := h; rfl
theorem mkE_at (f : Nat → Value) (h : ∀ j, j < 8 → okV j (f j)) (j : Nat) (hj : j < 8) : (evV (mkE f))[j]? = some (f j) := by
  match j, hj with
  | 0, _ => exact congrArg some (un_int (h 0 (by omega)) (by omega))
  | 1, _ => exact congrArg some (un_int (h 1 (by omega)) (by omega))
  | 2, _ => exact congrArg some (un_int (h 2 (by omega)) (by omega))
  | 3, _ => exact congrArg some (un_int (h 3 (by omega)) (by omega))
  | 4, _ => exact congrArg some (un_bool (h 4 (by omega)))
  | 5, _ => exact congrArg some (un_int (h 5 (by omega)) (by omega))
  | 6, _ => exact congrArg some (un_int (h 6 (by omega)) (by omega))
  | 7, _ => exact congrArg some (un_int (h 7 (by omega)) (by omega))

section
variable {H : Type} {enc : TypeId × Value → H} {P : Program} {w : World} {base : Nat} {spare : Nat → Bool} {held : Bool}

/-- A slice of events that came in. -/
theorem open_events {t e : TypeId} {fs : Array Field} {fuel : Nat} {v : Value} {x : DataW H × List MemPlace} (ht : P.underlying t = some (.slice e)) (he : P.underlying e = some (.struct fs)) (ce : P.cellsOf e = 8) (hfs : fs.size = 8) (hint : evFields P fs = true)
    (h : DataW.trod enc P w base spare held fuel t [v] = some x) :
    ∃ l : List Ev, EsAt w v l ∧ True ∧ ((∃ D sp, x.1 = .slice ((List.range l.length).map D) sp) ∨ l = []) := by
  rcases open_slice ht h with ⟨hcs, _⟩ | ⟨a, len, cap, m, n, D, Pl, hcs, hb, hl, hm, hmm, rfl, hx⟩
  · simp at hcs
    subst hcs
    exact ⟨[], Rv.rowAt_nil w, trivial, .inr rfl⟩
  · simp at hcs
    subst hcs
    have hlm : len ≤ m := by rw [hmm]; split <;> omega
    have each : ∀ i, i < m → ∃ q : Nat → Value, ∀ j, j < 8 → w.cell? (a.add (i * 8 + j)) = some (q j) ∧ okV j (q j) := by
      intro i hi
      obtain ⟨cs', h1, h2⟩ := hx i hi
      rw [ce] at h1
      obtain ⟨_, hlen, hcell⟩ := World.cells?_some h1
      obtain ⟨xs, k', hk', hxy, _, hxl, hf⟩ := DataW.trod_struct he h2
      have one : ∀ j, j < 8 → ∃ q : Value, w.cell? (a.add (i * 8 + j)) = some q ∧ okV j q := by
        intro j hj
        have hjf : j < fs.size := by omega
        have g := hf j fs[j] (Array.getElem?_eq_getElem hjf)
        obtain ⟨o, c1, u, ub⟩ := evFields_of hint j fs[j] (Array.getElem?_eq_getElem hjf)
        rw [List.getElem?_eq_getElem (by rw [hxl]; exact hjf), o, c1] at g
        have hval : ∃ q : Value, (cs'.drop j).take 1 = [q] ∧ okV j q := by
          by_cases h4 : j = 4
          · obtain ⟨b, z0, _⟩ := DataW.trod_bool (ub h4) g
            exact ⟨.bool b, z0, by unfold okV; rw [if_pos h4]; exact ⟨b, rfl⟩⟩
          · obtain ⟨n0, z0, _⟩ := DataW.trod_int (u h4) g
            exact ⟨.int .i64 n0, z0, by unfold okV; rw [if_neg h4]; exact ⟨n0, rfl⟩⟩
        obtain ⟨qv, z0, hok⟩ := hval
        have e0 := hcell j (by omega)
        rw [add_add] at e0
        have hcj : cs'[j]? = some qv := by
          have : (cs'.drop j).head? = some qv := by
            have hh := congrArg List.head? z0
            rw [List.head?_take] at hh
            simpa using hh
          rw [List.head?_drop] at this
          exact this
        rw [hcj] at e0
        exact ⟨qv, e0, hok⟩
      obtain ⟨q, hq⟩ := choose_lt one
      exact ⟨q, hq⟩
    obtain ⟨q, hq⟩ := choose_lt each
    have hlen : ((List.range len).map (fun i => mkE (q i))).length = len := by simp
    refine ⟨(List.range len).map (fun i => mkE (q i)), ?_, ?_, .inl ⟨D, _, by rw [hlen]⟩⟩
    · show Rv.RowAt _ _ _ _
      rw [hlen]
      refine ⟨some a, cap, rfl, hl, hm, ?_⟩
      by_cases h0 : len = 0
      · exact .inl ⟨h0, by rw [h0]; rfl⟩
      · obtain ⟨b, off, spot⟩ := a
        have hc0 := (hq 0 (by omega) 0 (by omega)).1
        have hspot : spot = none := by simpa [Addr.add] using World.cell?_spot hc0
        subst hspot
        have hadd : ∀ i, (⟨b, off, none⟩ : Addr).add i = ⟨b, off + i, none⟩ := fun i => by unfold Addr.add; split <;> simp_all
        refine .inr ⟨b, off, rfl, ?_, fun i hi => ?_⟩
        · rw [hadd] at hc0
          exact World.block_lt_of_cell? w ⟨b, off + (0 * 8 + 0), none⟩ hc0
        · rw [Rv.rv_len ev8, hlen] at hi
          have hdiv : i / 8 < len := Nat.div_lt_of_lt_mul (by rw [Nat.mul_comm]; exact hi)
          have hmod : i % 8 < 8 := Nat.mod_lt _ (by omega)
          have hat := Rv.rv_at ev8 ((List.range len).map (fun i => mkE (q i))) (i / 8) (i % 8) (by rw [hlen]; exact hdiv) hmod
          have hc := (hq (i / 8) (by omega) (i % 8) hmod).1
          have hi2 : i / 8 * 8 + i % 8 = i := by rw [Nat.mul_comm]; exact Nat.div_add_mod i 8
          rw [hi2] at hat hc
          rw [hadd] at hc
          simp only [List.getElem_map, List.getElem_range] at hat
          rw [mkE_at _ (fun j hj => (hq (i / 8) (by omega) j hj).2) _ hmod] at hat
          rw [hc, hat]
    · trivial
end

abbrev laidS : List (String × DataW Unit) := [("math/bits.deBruijn32tab", Rows.laid_math_bits_deBruijn32tab), ("math/bits.deBruijn64tab", Rows.laid_math_bits_deBruijn64tab), ("internal/strconv.uint64pow10", Rows.laid_internal_strconv_uint64pow10), ("usher/lines.words", Rows.laid_usher_lines_words)]

set_option maxRecDepth 100000 in
theorem gs_of {W : World} (h : laidMetH Tryd.prog laidS W) (hs : W.ShapedOpen Tryd.prog) : Gs W := by
  rw [MakeChecks.laidMetH_plain _ _ _ (by kernel_rfl)] at h
  have h1 := h.tail.tail
  refine ⟨words_of h1.tail, pow_of h1, ?_⟩
  have hz : ∃ z, W.cell? ⟨8, 0, none⟩ = some z := by
    obtain ⟨ps, ⟨g, t, cs, fuel, p, q, hg, ht, hv, hd, _, _⟩, _, _⟩ := h.tail
    obtain rfl := Option.some.inj ((show Tryd.prog.globalNamed "math/bits.deBruijn64tab" = some 8 by kernel_rfl).symm.trans hg)
    obtain rfl := Option.some.inj ((show (Tryd.prog.globals[8]?).map (·.type) = some 137 by kernel_rfl).symm.trans ht)
    obtain ⟨xs, m, _, ex, _, hl, hel⟩ := DataW.trod_array Tryd.underlying137 hd
    have c5 : Tryd.prog.cellsOf 5 = 1 := by kernel_rfl
    have hE := hel 0 (by decide)
    rw [c5, Nat.mul_one, List.getElem?_eq_getElem (by omega)] at hE
    obtain ⟨z, e1, _⟩ := DataW.trod_int Tryd.underlying5 hE
    refine ⟨.int .u8 z, ?_⟩
    rw [World.var?_cell hg hv 0]
    have h0 : ((cs.toList.drop 0).take 1)[0]? = some (.int .u8 z) := by rw [e1]; rfl
    simpa using h0
  obtain ⟨z, hz⟩ := hz
  have := World.block_lt_of_cell? W ⟨8, 0, none⟩ hz
  simp at this; omega
end Go.Proofs.YtcjgokgembgdhaaDoor.Walks
