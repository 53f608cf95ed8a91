/-
  The document's Advance. The wheel can be read, and holds at most 1048576 timers.
-/
import Derived.Test.YtdfjobghgbcjpaaDoorRefCan
import Derived.Test.YtdfjobghgbcjpaaDoorInts
import Derived.WalkKit
import Derived.ProofKit
import Derived.Handy
import Derived.LoopTactic
import Derived.Below
import Derived.Laws.BitsAllLaws
import Derived.RegionTactic
import Derived.Deep.RegionHeld3
import Derived.Deep.DrawnRows
import Derived.Deep.AppendLies
import Derived.Laws.OwnMore
import Derived.Deep.Onto
import Derived.Deep.QuietTactic
import Derived.BigQuiet
namespace Go.Proofs.YtdfjobghgbcjpaaDoor.Walks
open Go.RowKit
set_option linter.unusedVariables false
set_option linter.unusedSimpArgs false
attribute [local go_sem ↓] Go.wp_at_zero Go.wp_at_succ
open Classical

/-- Who goes off at a tick, by number, of the numbers below k. -/
def wantL (L : List Tm) (x : Int) (k : Nat) : List Tm := (List.range k).flatMap fun (j : Nat) => L.filter fun t => decide (t.2 = (j : Int)) && decide (t.1 = x)

/-- Who is left. -/
def leftL (L : List Tm) (x : Int) : List Tm := L.filter fun t => decide (x < t.1)

theorem mem_wantL {L : List Tm} {x : Int} {k : Nat} {t : Tm} : t ∈ wantL L x k ↔ t ∈ L ∧ t.1 = x ∧ 0 ≤ t.2 ∧ t.2 < (k : Int) := by
  unfold wantL
  simp only [List.mem_flatMap, List.mem_range, List.mem_filter, Bool.and_eq_true, decide_eq_true_eq]
  constructor
  · rintro ⟨j, hj, h1, h2, h3⟩
    exact ⟨h1, h3, by omega, by omega⟩
  · rintro ⟨h1, h2, h3, h4⟩
    exact ⟨t.2.toNat, by omega, h1, by omega, h2⟩

theorem wantL_ord {L : List Tm} {x : Int} {k : Nat} (hn : (L.map (·.2)).Nodup) : (wantL L x k).Pairwise (fun a b => cmpT a b < 0) := by
  unfold wantL
  rw [List.pairwise_flatMap]
  refine ⟨fun j _ => ?_, ?_⟩
  · have h1 : L.Pairwise (fun a b => a.2 ≠ b.2) := by
      have : List.Pairwise _ (L.map (·.2)) := hn
      rw [List.pairwise_map] at this
      exact this
    refine (h1.filter _).imp_of_mem fun {a b} ha hb hab => ?_
    simp only [List.mem_filter, Bool.and_eq_true, decide_eq_true_eq] at ha hb
    exact absurd (ha.2.1.trans hb.2.1.symm) hab
  · refine (List.pairwise_lt_range (n := k)).imp fun {i j} hij a ha b hb => ?_
    simp only [List.mem_filter, Bool.and_eq_true, decide_eq_true_eq] at ha hb
    rw [cmpT_lt]
    exact .inr ⟨ha.2.2.trans hb.2.2.symm, by omega⟩

theorem wantL_snoc (L : List Tm) (x : Int) (k : Nat) : wantL L x (k + 1) = wantL L x k ++ L.filter (fun t => decide (t.2 = (k : Int)) && decide (t.1 = x)) := by
  unfold wantL
  rw [List.range_succ, List.flatMap_append]
  simp

theorem wantL_len {L : List Tm} {x : Int} {k : Nat} (hn : (L.map (·.2)).Nodup) (hk : k ≤ 200) : (wantL L x k).length ≤ 200 := by
  have h1 := wantL_ord (x := x) (k := k) hn
  have h2 : ((wantL L x k).map (·.2)).Nodup := by
    show List.Pairwise _ _
    rw [List.pairwise_map]
    refine h1.imp_of_mem fun {a b} ha hb hab e => ?_
    have h3 := (mem_wantL.1 ha).2.1
    have h4 := (mem_wantL.1 hb).2.1
    rw [cmpT_lt] at hab
    omega
  have h5 := nodup_small 200 _ h2 fun y hy => by
    obtain ⟨t, ht, rfl⟩ := List.mem_map.1 hy
    have := mem_wantL.1 ht
    exact ⟨this.2.2.1, by have := this.2.2.2; omega⟩
  rwa [List.length_map] at h5

/-- What a tick ends in: the error, the tick, the lists, who goes off. -/
def advOut (now : Int) (ls : List (List Tm)) [Decidable (May now ls)] : Int × Int × List (List Tm) × List Int :=
  if May now ls then if now = 1099511627776 then (9, 0, [], []) else (0, now + 1, wheelOf (now + 1) (leftL ls.flatten (now + 1)), (wantL ls.flatten (now + 1) 200).map (·.2)) else (6, 0, [], [])

theorem left_nodup {L : List Tm} {x : Int} (h : (L.map (·.2)).Nodup) : ((leftL L x).map (·.2)).Nodup := h.sublist ((List.filter_sublist).map _)

theorem left_fits {now : Int} {ls : List (List Tm)} (h : May now ls) : ∀ t ∈ leftL ls.flatten (now + 1), fitsT (now + 1) t = true := fun t ht => by
  simp only [leftL, List.mem_filter, decide_eq_true_eq] at ht
  have := (fitsT_iff now t).1 (h.2.mem_fits ht.1)
  exact (fitsT_iff _ _).2 ⟨by omega, by omega, by omega, by omega, by omega⟩

theorem later_is {now : Int} {ls ms : List (List Tm)} {L : List Tm} (h : May now ls) (hl : Later now ls ms L) : ms = wheelOf (now + 1) (leftL ls.flatten (now + 1)) ∧ L = wantL ls.flatten (now + 1) 200 := by
  constructor
  · refine ok_unique hl.may.2 (wheelOf_ok (left_fits h) (left_nodup h.2.ids)) fun t => ?_
    rw [hl.left, wheelOf_mem (left_nodup h.2.ids)]
    simp only [leftL, List.mem_filter, decide_eq_true_eq]
    constructor
    · rintro ⟨h1, h2⟩
      have := (fitsT_iff now t).1 (h.2.mem_fits h1)
      exact ⟨h1, by omega⟩
    · rintro ⟨h1, h2⟩
      exact ⟨h1, by omega⟩
  · refine sorted_unique hl.ord (wantL_ord h.2.ids) fun t => ?_
    rw [hl.off, mem_wantL]
    constructor
    · rintro ⟨h1, h2⟩
      have := (fitsT_iff now t).1 (h.2.mem_fits h1)
      exact ⟨h1, h2, by omega, by omega⟩
    · rintro ⟨h1, h2, _⟩
      exact ⟨h1, h2⟩

theorem idCells_is (L : List Tm) : idCells L = icells (L.map (·.2)) := by simp [idCells, icells]

theorem adv_prog (v : Value) (now : Int) (ls : List (List Tm)) (w : World) (hB : Blk w) (hx : LsAt w v ls) (hlen : ∀ l ∈ ls, l.length ≤ 1048576) :
    Calls Tryd.prog 12 #[.agg #[.int .i64 now, v]] w fun r w' => ∃ y p c, r = .returned (.tuple #[y, .slice p (advOut now ls).2.2.2.length c, .int .i64 (advOut now ls).1]) ∧ WhAt w' y (advOut now ls).2.1 (advOut now ls).2.2.1 ∧ RowAt w' (.slice p (advOut now ls).2.2.2.length c) (advOut now ls).2.2.2.length (icells (advOut now ls).2.2.2) ∧ Below w.heap.size w w' := by
  unfold advOut
  by_cases hm : May now ls
  · rw [if_pos hm]
    by_cases hf : now = 1099511627776
    · rw [if_pos hf]
      refine (advance_rest v now ls w hB hx hm.2.total' hm).mono fun r w' ⟨hb, h⟩ => ?_
      rcases h with ⟨_, h2⟩ | ⟨h1, _⟩
      · exact ⟨_, none, 0, h2, zeroWheel_at _, rowAt_nil _, hb⟩
      · omega
    · rw [if_neg hf]
      have hlt : now < 1099511627776 := by have := hm.1.2; omega
      refine (advance_fine v now ls w hB hx hm hlt).mono fun r w' ⟨p, c, xp, xc, ms, L, h1, h2, h3, h4, h5⟩ => ?_
      obtain ⟨e1, e2⟩ := later_is hm h3
      have hr := rowAt_own h4
      rw [idCells_is, e2] at hr
      rw [e2] at h1
      refine ⟨_, xp, xc, by rw [h1, List.length_map], ⟨_, rfl, by rw [← e1]; exact h2.at⟩, ?_, h5⟩
      rw [List.length_map]
      exact hr
  · rw [if_neg hm]
    exact (advance_state v now ls w hB hx hlen hm).mono fun r w' h => ⟨_, none, 0, h.1, zeroWheel_at _, rowAt_nil _, h.2⟩
end Go.Proofs.YtdfjobghgbcjpaaDoor.Walks
