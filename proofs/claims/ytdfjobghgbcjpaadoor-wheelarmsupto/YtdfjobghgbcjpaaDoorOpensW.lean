/-
  A wheel that came in, opened: its tick, its lists, and how much they hold. Condition: the argument reads at its type.
-/
import Derived.Test.YtdfjobghgbcjpaaDoorOpens
import Derived.WalkKit
import Derived.ProofKit
import Derived.Handy
import Derived.LoopTactic
import Derived.Below
import Derived.Laws.BitsAllLaws
import Derived.RegionTactic
import Derived.Deep.RegionHeld3
import Derived.Deep.DrawnRows
import Derived.Deep.AppendLies
import Derived.Laws.OwnMore
import Derived.Deep.Onto
import Derived.Deep.QuietTactic
import Derived.BigQuiet
namespace Go.Proofs.YtdfjobghgbcjpaaDoor.Walks
open Go.RowKit
set_option linter.unusedVariables false
set_option linter.unusedSimpArgs false
attribute [local go_sem ↓] Go.wp_at_zero Go.wp_at_succ
open Go.ChangeShapes Go.WideShapes Go.ChangeAt Go.Deep

theorem bulk_one {H : Type} (d : DataW H) : 1 ≤ Rows.uptoBulk d := by
  cases d with
  | lit l => cases l <;> simp [Rows.uptoBulk]
  | nil => simp [Rows.uptoBulk]
  | ptr d => simp [Rows.uptoBulk]
  | slice elems spare => simp [Rows.uptoBulk]
  | agg parts => simp [Rows.uptoBulk]
  | iface t d => simp [Rows.uptoBulk]
  | map entries => simp [Rows.uptoBulk]
  | held h => simp [Rows.uptoBulk]

theorem bulk_len {H : Type} (l : List (DataW H)) : l.length ≤ Rows.uptoBulkAll l := by
  induction l with
  | nil => simp [Rows.uptoBulkAll]
  | cons x r ih => have := bulk_one x; simp only [Rows.uptoBulkAll, List.length_cons]; omega

theorem bulk_part {H : Type} {d : DataW H} {l : List (DataW H)} (h : d ∈ l) : Rows.uptoBulk d ≤ Rows.uptoBulkAll l := by
  induction l with
  | nil => cases h
  | cons x r ih =>
    simp only [Rows.uptoBulkAll]
    cases List.mem_cons.1 h with
    | inl e => subst e; omega
    | inr e => have := ih e; omega

theorem bulk_lists {H : Type} (D : Nat → DataW H) (f : Nat → List Tm) : ∀ n, (∀ i, i < n → (f i).length + 1 ≤ Rows.uptoBulk (D i)) → ((List.range n).map f).flatten.length + n ≤ Rows.uptoBulkAll ((List.range n).map D)
  | 0, _ => by simp [Rows.uptoBulkAll]
  | n + 1, h => by
    have ih := bulk_lists D f n fun i hi => h i (by omega)
    have h1 := h n (by omega)
    rw [List.range_succ, List.map_append, List.map_append, List.flatten_append, List.length_append]
    have happ : ∀ (l r : List (DataW H)), Rows.uptoBulkAll (l ++ r) = Rows.uptoBulkAll l + Rows.uptoBulkAll r := fun l r => by
      induction l with
      | nil => simp [Rows.uptoBulkAll]
      | cons x l ih => simp only [List.cons_append, Rows.uptoBulkAll, ih]; omega
    rw [happ]
    simp only [List.map_cons, List.map_nil, List.flatten_cons, List.flatten_nil, List.append_nil, Rows.uptoBulkAll]
    omega

theorem oneW : ∃ f0 f1, Tryd.prog.underlying 24 = some (.struct #[f0, f1]) ∧ f0.type = 3 ∧ f1.type = 22 ∧ f0.offset = 0 ∧ f1.offset = 1 := ⟨_, _, Tryd.underlying24, rfl, rfl, rfl, rfl⟩

theorem open_wheel {H : Type} {enc : TypeId × Value → H} {w : World} {base : Nat} {held : Bool} {r : Reach} {b0 : Nat} {v : Value} {d : DataW H} {p : List MemPlace}
    (hv : Value.okWide Tryd.prog w r b0 24 v) (h : DataW.Trod enc Tryd.prog w base (fun _ => true) held 24 v d p) :
    ∃ (now : Int) (u : Value) (ls : List (List Tm)), v = .agg #[.int .i64 now, u] ∧ LsAt w u ls ∧ ls.flatten.length + ls.length ≤ Rows.uptoBulk d := by
  obtain ⟨f0, f1, hs, ht0, ht1, ho0, ho1⟩ := oneW
  have ce : Tryd.prog.cellsOf 24 = 2 := by kernel_rfl
  have cc3 : Tryd.prog.cellsOf 3 = 1 := by kernel_rfl
  have cc1 : Tryd.prog.cellsOf 22 = 1 := by kernel_rfl
  have cc2 : Tryd.prog.cellsOf 38 = 1 := by kernel_rfl
  obtain ⟨cs, rfl, hsz⟩ := okWide_struct hs hv
  obtain ⟨c0, c1, rfl⟩ := array2 (hsz.trans ce)
  obtain ⟨fuel, hf⟩ := h
  obtain ⟨xs, n, _, hxy, hl, hlen, hx⟩ := DataW.trod_struct hs hf
  have g0 := hx 0 f0 rfl
  have g1 := hx 1 f1 rfl
  match xs, hlen with
  | [y0, y1], _ =>
    rw [ht0, ho0, cc3] at g0
    rw [ht1, ho1, cc1] at g1
    simp [Value.cells] at g0 g1
    simp only [Prod.mk.injEq] at hxy
    obtain ⟨now, e0, _, _⟩ := DataW.trod_int Tryd.underlying3 g0
    simp at e0
    subst e0
    have hbd : Rows.uptoBulk y1.1 ≤ Rows.uptoBulk d := by
      rw [hxy.1]
      simp only [List.map_cons, List.map_nil, Rows.uptoBulk, Rows.uptoBulkAll]
      omega
    rcases open_slice1 Tryd.underlying22 cc2 g1 with ⟨hcs, _⟩ | ⟨a, len, cap, m, n1, V, D, Pl, hcs, hb, hle, hm, hmm, hy, hc⟩
    · simp at hcs
      subst hcs
      exact ⟨now, _, [], rfl, ⟨[], rowAt_nil w, rfl, fun i h1 => absurd h1 (Nat.not_lt_zero _)⟩, by simp⟩
    · simp at hcs
      subst hcs
      have hlm : len ≤ m := by rw [hmm]; split <;> omega
      have each : ∀ i, i < len → ∃ l : List Tm, TmAt w (V i) l ∧ l.length + 1 ≤ Rows.uptoBulk (D i) := fun i hi => by
        obtain ⟨h1, h2⟩ := hc i (by omega)
        obtain ⟨l, hl1, _, hl3⟩ := open_pairs Tryd.underlying38 Tryd.underlying45 (by kernel_rfl) rfl rfl (by kernel_rfl) (by kernel_rfl) Tryd.underlying3 Tryd.underlying3 h2
        refine ⟨l, hl1, ?_⟩
        rcases hl3 with ⟨D', sp, hd, _⟩ | rfl
        · have hd' : D i = .slice ((List.range l.length).map D') sp := hd
          rw [hd']
          have := bulk_len ((List.range l.length).map D')
          simp only [List.length_map, List.length_range] at this
          simp only [Rows.uptoBulk]
          omega
        · have := bulk_one (D i)
          simpa using this
      obtain ⟨f, hfall⟩ : ∃ f : Nat → List Tm, ∀ i, i < len → TmAt w (V i) (f i) ∧ (f i).length + 1 ≤ Rows.uptoBulk (D i) :=
        ⟨fun i => if hi : i < len then Classical.choose (each i hi) else [], fun i hi => by simp only [dif_pos hi]; exact Classical.choose_spec (each i hi)⟩
      have hbl := bulk_lists D f len fun i hi => (hfall i hi).2
      have hlsl : ((List.range len).map f).length = len := by simp
      refine ⟨now, _, (List.range len).map f, rfl, ⟨(List.range len).map V, ?_, by simp, fun i h1 h2 => ?_⟩, ?_⟩
      · rw [hlsl]
        refine ⟨some a, cap, rfl, hle, hm, ?_⟩
        by_cases h0 : len = 0
        · exact .inl ⟨h0, by rw [h0]; rfl⟩
        · obtain ⟨b, off, spot⟩ := a
          have hc0 := (hc 0 (by omega)).1
          have hspot : spot = none := by simpa [Addr.add] using World.cell?_spot hc0
          subst hspot
          have hadd : ∀ i, (⟨b, off, none⟩ : Addr).add i = ⟨b, off + i, none⟩ := fun i => by unfold Addr.add; split <;> simp_all
          refine .inr ⟨b, off, rfl, ?_, fun i hi => ?_⟩
          · rw [hadd] at hc0
            exact World.block_lt_of_cell? w ⟨b, off + 0, none⟩ hc0
          · have hi' : i < len := by simpa using hi
            have := (hc i (by omega)).1
            rw [hadd] at this
            rw [this]
            simp [hi']
      · simp only [List.getElem_map, List.getElem_range]
        exact (hfall i (by simpa using h1)).1
      · rw [hlsl]
        refine Nat.le_trans hbl (Nat.le_trans ?_ hbd)
        rw [hy]
        simp only [Rows.uptoBulk]
        omega
end Go.Proofs.YtdfjobghgbcjpaaDoor.Walks
