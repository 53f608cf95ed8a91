/-
  A copy of numbers; a slice of numbers that came in, opened. Condition: what is read can be read.
-/
import Derived.Test.YtjkiahdeaeiopaaOpens
import Derived.Test.YtjkiahdeaeiopaaLoads
import Derived.ChangeSame
import Derived.SizedLaws
import Derived.Deep.Slices
import Derived.WalkKit
import Derived.ProofKit
import Derived.Handy
import Derived.LoopTactic
import Derived.Below
import Derived.Laws.BitsAllLaws
import Derived.RegionTactic
import Derived.Deep.RegionHeld3
import Derived.Deep.DrawnRows
import Derived.Deep.AppendLies
import Derived.Laws.OwnMore
import Derived.Deep.Onto
import Derived.Deep.QuietTactic
import Derived.BigQuiet
namespace Go.Proofs.Ytjkiahdeaeiopaa.Walks
open Go.RowKit
set_option linter.unusedVariables false
set_option linter.unusedSimpArgs false
attribute [local go_sem ↓] Go.wp_at_zero Go.wp_at_succ
open Go.ChangeShapes Go.WideShapes Go.ChangeAt Go.Deep

/-- A copy of numbers: the run. -/
theorem append_copyI (w : World) (ty : TypeId) (u : Value) (l : List Int) (hu : IntsAt w u l) (hl : l.length ≤ 17592186044416) :
    ∃ y w', (Builtin.append_ #[22, 22] ty #[.slice none 0 0, u]).run Try.prog w = .ok y w' ∧ w'.ownsRow w.heap.size 3 1 y l.length (icells l) ∧ Below w.heap.size w w' := by
  obtain ⟨i0, hi, hz0, hz1, hz2⟩ := info_parts infoInt
  obtain ⟨a, cap, rfl, hc, hm, h⟩ := hu
  by_cases h0 : l.length = 0
  · obtain rfl : l = [] := List.length_eq_zero_iff.1 h0
    exact ⟨_, w, append_nothing w _ ty _ i0 Try.underlying22 hi a cap, World.ownsRow_nil _ _ _ _, Below.refl _ _⟩
  · rcases h with ⟨h, _⟩ | ⟨b, off, rfl, hb, hcell⟩
    · exact absurd h h0
    · obtain ⟨v', w', hr, ho, hg, _⟩ := run_append_own (P := Try.prog) w w.heap.size 22 ty 3 i0 _ 1 8 Try.underlying22 hi hz0 hz1 hz2 rfl (by decide) (.slice none 0 0) 0 [] (World.ownsRow_nil _ _ _ _) ⟨b, off, none⟩ l.length cap (icells l) (by rw [icells_len]; omega) (fun j x hx => by
        have hj := (List.getElem?_eq_some_iff.1 hx).1
        rw [add_lit, hcell j hj, hx]) (icells_one l) (by unfold maxLen; omega) (by omega) (Nat.le_refl _)
      rw [List.nil_append, Nat.zero_add] at ho
      exact ⟨v', w', hr, ho, (Below.refl _ _).grown hg (Nat.le_refl _) (fun k hk => by cases hk)⟩

set_option maxHeartbeats 1000000 in
theorem ints_any (v : Value) (l : List Int) (w : World) (hv : IntsAt w v l) (hl : l.length ≤ 17592186044416) :
    Calls Try.prog 10 #[v] w fun r w' => ∃ y, r = .returned y ∧ w'.ownsRow w.heap.size 3 1 y l.length (icells l) ∧ Below w.heap.size w w' := by
  obtain ⟨p, c, rfl, _⟩ := hv.parts
  obtain ⟨y, w4, hr, ho, hb4⟩ := append_copyI w 22 _ l hv hl
  obtain ⟨yp, yc, rfl⟩ := own_form ho
  have HQ : Hid (_ ∧ _ ∧ _) := ⟨hr, hb4, ho⟩
  clear hr hb4 ho hv
  go_enter Try.func10, Try.ntmps10
  go_wp2_with (at_builtin; (with_reducible refine wpList_append_eq rfl _ _ 22 rfl (.slice none 0 0) (.slice p l.length c) (.slice yp l.length yc) w4 ?hs ?hx ?hr ?_); (case hs => rfl); (case hx => rfl); (case hr => exact HQ.out.1))
  go_wp2
  go_ret
  exact ⟨_, rfl, HQ.out.2.2, HQ.out.2.1⟩

section
variable {H : Type} {enc : TypeId × Value → H} {P : Program} {w : World} {base : Nat} {spare : Nat → Bool} {held : Bool}

/-- A slice of numbers: what it holds, how long. -/
theorem open_ints {t e : TypeId} {fuel : Nat} {v : Value} {x : DataW H × List MemPlace} (ht : P.underlying t = some (.slice e)) (ce : P.cellsOf e = 1) (i0 : P.underlying e = some (.int .i64))
    (h : DataW.trod enc P w base spare held fuel t [v] = some x) :
    ∃ l : List Int, IntsAt w v l ∧ (∀ n ∈ l, (Lit.int .i64 n).wf = true) ∧ ((∃ D sp, x.1 = .slice ((List.range l.length).map D) sp) ∨ l = []) := by
  rcases open_slice ht h with ⟨hcs, _⟩ | ⟨a, len, cap, m, n, D, Pl, hcs, hb, hl, hm, hmm, rfl, hx⟩
  · simp at hcs
    subst hcs
    exact ⟨[], rowAt_nil w, by simp, .inr rfl⟩
  · simp at hcs
    subst hcs
    have hlm : len ≤ m := by rw [hmm]; split <;> omega
    have each : ∀ i, i < m → ∃ q : Int, w.cell? (a.add i) = some (.int .i64 q) ∧ (Lit.int .i64 q).wf = true := by
      intro i hi
      obtain ⟨cs', h1, h2⟩ := hx i hi
      rw [ce] at h1
      obtain ⟨_, hlen, hcell⟩ := World.cells?_some h1
      match cs', hlen with
      | [v0], _ =>
        have e0 := hcell 0 (by omega)
        rw [add_add] at e0
        obtain ⟨n0, z0, _, w0⟩ := DataW.trod_int i0 h2
        simp at z0
        subst z0
        exact ⟨n0, by simpa using e0, w0⟩
    obtain ⟨q, hq⟩ := choose_lt each
    have hlen : ((List.range len).map q).length = len := by simp
    refine ⟨(List.range len).map q, ?_, ?_, .inl ⟨D, _, by rw [hlen]⟩⟩
    · unfold IntsAt
      rw [hlen]
      refine ⟨some a, cap, rfl, hl, hm, ?_⟩
      by_cases h0 : len = 0
      · exact .inl ⟨h0, by rw [h0]; rfl⟩
      · obtain ⟨b, off, spot⟩ := a
        have hc0 := (hq 0 (by omega)).1
        have hspot : spot = none := by simpa [Addr.add] using World.cell?_spot hc0
        subst hspot
        have hadd : ∀ i, (⟨b, off, none⟩ : Addr).add i = ⟨b, off + i, none⟩ := fun i => by unfold Addr.add; split <;> simp_all
        refine .inr ⟨b, off, rfl, ?_, fun i hi => ?_⟩
        · rw [hadd] at hc0
          exact World.block_lt_of_cell? w ⟨b, off + 0, none⟩ hc0
        · rw [icells_len, hlen] at hi
          have ht := icells_at ((List.range len).map q) i (by rw [hlen]; exact hi)
          simp only [List.getElem_map, List.getElem_range] at ht
          have e1 := (hq i (by omega)).1
          rw [hadd] at e1
          rw [e1, ht]
    · intro n hn
      obtain ⟨i, hi, rfl⟩ := List.mem_map.1 hn
      exact (hq i (by have := List.mem_range.1 hi; omega)).2
end
end Go.Proofs.Ytjkiahdeaeiopaa.Walks
