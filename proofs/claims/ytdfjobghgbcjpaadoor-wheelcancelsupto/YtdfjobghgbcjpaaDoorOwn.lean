/-
  Lists of timers that a call has laid for itself: a row of them, each in memory of its own. Laws of memory alone.
-/
import Derived.Test.YtdfjobghgbcjpaaDoorPure0
import Derived.WalkKit
import Derived.ProofKit
import Derived.Handy
import Derived.LoopTactic
import Derived.Below
import Derived.Laws.BitsAllLaws
import Derived.RegionTactic
import Derived.Deep.RegionHeld3
import Derived.Deep.DrawnRows
import Derived.Deep.AppendLies
import Derived.Laws.OwnMore
import Derived.Deep.Onto
import Derived.Deep.QuietTactic
import Derived.BigQuiet
namespace Go.Proofs.YtdfjobghgbcjpaaDoor.Walks
open Go.RowKit
set_option linter.unusedVariables false
set_option linter.unusedSimpArgs false
attribute [local go_sem ↓] Go.wp_at_zero Go.wp_at_succ

theorem own_block {w w' : World} {base : Nat} {e : TypeId} {k : Nat} {v : Value} {n : Nat} {xs : List Value} (h : w.ownsRow base e k v n xs) (hs : ∀ g, v.ownBlock = some g → w'.heap[g]? = w.heap[g]?) : w'.ownsRow base e k v n xs := by
  refine ⟨h.1, ?_⟩
  rcases h.2 with hn | ⟨g, cap, cur, rfl, hb, hgg, rest⟩
  · exact .inl hn
  · exact .inr ⟨g, cap, cur, rfl, hb, by rw [hs g rfl]; exact hgg, rest⟩

theorem infoTm : (Tryd.prog.info? 45).map (fun i => (i.zero, i.size, i.bytes)) = some (some (.agg #[.int .i64 0, .int .i64 0]), 2, 16) := by kernel_rfl
theorem infoTms : (Tryd.prog.info? 38).map (fun i => (i.zero, i.size, i.bytes)) = some (some (.slice none 0 0), 1, 24) := by kernel_rfl

theorem news_at (w : World) (cs : List Value) (T : TypeId) : ∀ j u, cs[j]? = some u → (w.alloc (.cells cs.toArray T)).cell? ((⟨w.heap.size, 0, none⟩ : Addr).add j) = some u := by
  intro j u hu
  have hadd : (⟨w.heap.size, 0, none⟩ : Addr).add j = ⟨w.heap.size, j, none⟩ := by unfold Addr.add; split <;> simp_all
  rw [hadd, cell_of_row _ w.heap.size j cs.toArray T (0, 0) (heap_alloc_new w _)]
  simpa using hu

theorem heap_old (w : World) (o : Obj) {k : Nat} {x : Obj} (h : w.heap[k]? = some x) : (w.alloc o).heap[k]? = some x := by
  rw [Below.heap_alloc _ _ _ (Array.getElem?_eq_some_iff.1 h).1]; exact h

theorem heap_second (w : World) (o p : Obj) : ((w.alloc o).alloc p).heap[w.heap.size + 1]? = some p := by
  have := heap_alloc_new (w.alloc o) p
  simpa using this

theorem below_of_drew {W a : World} (h : Below W.drew.heap.size W.drew a) : Below W.heap.size W a := ⟨h.os, h.tape, h.output, h.size, h.block⟩

theorem ahead_b (a b c d : Int) (w : World) :
    Calls Tryd.prog 36 #[.agg #[.int .i64 a, .int .i64 b], .agg #[.int .i64 c, .int .i64 d]] w fun r w' => r = .returned (.bool (ahead (a, b) (c, d))) ∧ Below w.heap.size w w' :=
  (ahead_any a b c d w).mono fun r w' h => ⟨h.1, by rw [h.2]; exact ((Below.refl _ _).alloc (Nat.le_refl _) _).alloc (by simp) _⟩

/-- What lay at four cells lies there. -/
theorem held4 {w w' : World} {g : Nat} {i1 i2 i3 i4 : Nat} {v1 v2 v3 v4 : Value} (hg : g < w.heap.size) (h1 : w.cell? ⟨g, i1, none⟩ = some v1) (h2 : w.cell? ⟨g, i2, none⟩ = some v2) (h3 : w.cell? ⟨g, i3, none⟩ = some v3) (h4 : w.cell? ⟨g, i4, none⟩ = some v4)
    (hb : Below w.heap.size w w') : w'.cell? ⟨g, i1, none⟩ = some v1 ∧ w'.cell? ⟨g, i2, none⟩ = some v2 ∧ w'.cell? ⟨g, i3, none⟩ = some v3 ∧ w'.cell? ⟨g, i4, none⟩ = some v4 ∧ Below w.heap.size w w' :=
  ⟨(hb.cell (p := ⟨g, i1, none⟩) hg).trans h1, (hb.cell (p := ⟨g, i2, none⟩) hg).trans h2, (hb.cell (p := ⟨g, i3, none⟩) hg).trans h3, (hb.cell (p := ⟨g, i4, none⟩) hg).trans h4, hb⟩

theorem own_one {w : World} {base : Nat} {e : TypeId} {k : Nat} {v : Value} {n : Nat} {xs : List Value} (h : w.ownsRow base e k v n xs) : v.oneCell' = true := by
  rcases h.2 with ⟨rfl, _⟩ | ⟨g, cap, cur, rfl, _⟩ <;> rfl

theorem own_form {w : World} {base : Nat} {e : TypeId} {k : Nat} {v : Value} {n : Nat} {xs : List Value} (h : w.ownsRow base e k v n xs) : ∃ p c, v = .slice p n c := by
  rcases h.2 with ⟨rfl, rfl⟩ | ⟨g, cap, cur, rfl, _⟩
  · exact ⟨_, _, rfl⟩
  · exact ⟨_, _, rfl⟩

/-- No two of them lie in one block. -/
def Apart (a b : Value) : Prop := ∀ g, a.ownBlock = some g → b.ownBlock ≠ some g

structure OwnLs (w : World) (base : Nat) (v : Value) (vs : List Value) (ls : List (List Tm)) : Prop where
  row : w.ownsRow base 38 1 v ls.length vs
  each : Each (fun u l => w.ownsRow base 45 2 u l.length (tcells l)) vs ls
  apart : (v :: vs).Pairwise Apart

theorem OwnLs.keep {w w' : World} {base : Nat} {v : Value} {vs : List Value} {ls : List (List Tm)} (h : OwnLs w base v vs ls) (hk : ∀ g, base ≤ g → g < w.heap.size → w'.heap[g]? = w.heap[g]?) : OwnLs w' base v vs ls :=
  ⟨own_block h.row fun g hg => hk g (h.row.lt g hg).1 (h.row.lt g hg).2, h.each.mono fun u l hu => own_block hu fun g hg => hk g (hu.lt g hg).1 (hu.lt g hg).2, h.apart⟩

theorem OwnLs.below {w w' : World} {base : Nat} {v : Value} {vs : List Value} {ls : List (List Tm)} (h : OwnLs w base v vs ls) (hb : Below w.heap.size w w') : OwnLs w' base v vs ls :=
  h.keep fun g _ hg => hb.block g hg

theorem OwnLs.mono {w : World} {base b : Nat} {v : Value} {vs : List Value} {ls : List (List Tm)} (h : OwnLs w base v vs ls) (hb : b ≤ base) : OwnLs w b v vs ls :=
  ⟨h.row.mono hb, h.each.mono fun u l hu => hu.mono hb, h.apart⟩

theorem OwnLs.at {w : World} {base : Nat} {v : Value} {vs : List Value} {ls : List (List Tm)} (h : OwnLs w base v vs ls) : LsAt w v ls :=
  ⟨vs, rowAt_own h.row, h.each.mono fun u l hu => rowAt_own hu⟩

theorem OwnLs.nil (w : World) (base : Nat) : OwnLs w base (.slice none 0 0) [] [] :=
  ⟨World.ownsRow_nil w base _ _, ⟨rfl, fun i h1 => absurd h1 (Nat.not_lt_zero _)⟩, by simp⟩

/-- One more list, laid in new memory; then appended. -/
theorem OwnLs.push {w w1 w2 : World} {base : Nat} {v u v' : Value} {vs : List Value} {ls : List (List Tm)} {l : List Tm} {g : Nat} (h : OwnLs w base v vs ls) (hbase : base ≤ w.heap.size) (hb : Below w.heap.size w w1)
    (hu : w1.ownsRow w.heap.size 45 2 u l.length (tcells l)) (hrow : w2.ownsRow base 38 1 v' (ls.length + 1) (vs ++ [u])) (hg : w1.grownBy w2 v.ownBlock)
    (hv' : v'.ownBlock = some g) (hlies : v.ownBlock = some g ∨ g = w1.heap.size) : OwnLs w2 base v' (vs ++ [u]) (ls ++ [l]) := by
  have hlen : vs.length = ls.length := h.each.1
  have hnot : ∀ x ∈ vs, Apart v x := (List.pairwise_cons.1 h.apart).1
  have hsz := hb.size
  have hvlt : ∀ k, v.ownBlock = some k → k < w.heap.size := fun k hk => (h.row.lt k hk).2
  have hold : ∀ i (h1 : i < vs.length) k, vs[i].ownBlock = some k → base ≤ k ∧ k < w.heap.size := fun i h1 k hk => (h.each.2 i h1 (by omega)).lt k hk
  have keep : ∀ i (h1 : i < vs.length) k, vs[i].ownBlock = some k → w2.heap[k]? = w.heap[k]? := fun i h1 k hk => by
    have hk2 := (hold i h1 k hk).2
    rw [hg.block k (by omega) (fun e => hnot vs[i] (List.getElem_mem h1) k e.symm hk)]
    exact hb.block k hk2
  refine ⟨by simpa using hrow, ⟨by simp [hlen], fun i h1 h2 => ?_⟩, ?_⟩
  · by_cases hi : i < vs.length
    · rw [List.getElem_append_left hi, List.getElem_append_left (by omega)]
      exact own_block (h.each.2 i hi (by omega)) (keep i hi)
    · have : i = vs.length := by simp at h1; omega
      subst this
      simp only [List.getElem_append_right (Nat.le_refl _), Nat.sub_self, List.getElem_cons_zero]
      rw [List.getElem_append_right (by omega)]
      simp only [hlen, Nat.sub_self, List.getElem_cons_zero]
      refine own_block (hu.mono hbase) fun k hk => ?_
      refine hg.block k (hu.lt k hk).2 (fun e => ?_)
      have := hvlt k e.symm
      have := (hu.lt k hk).1
      omega
  · have hgu : u.ownBlock ≠ some g := fun e => by
      have h1 := (hu.lt g e).1
      have h2 := (hu.lt g e).2
      rcases hlies with h3 | h3
      · have := hvlt g h3; omega
      · omega
    have hall : ∀ x ∈ vs, x.ownBlock ≠ some g ∧ Apart x u := fun x hx => by
      obtain ⟨i, hi, rfl⟩ := List.getElem_of_mem hx
      refine ⟨fun e => ?_, fun k hk e => ?_⟩
      · have h1 := hold i hi g e
        rcases hlies with h3 | h3
        · exact hnot _ hx g h3 e
        · omega
      · have h1 := hold i hi k hk
        have h2 := (hu.lt k e).1
        omega
    refine List.pairwise_cons.2 ⟨fun x hx k hk e => ?_, List.pairwise_append.2 ⟨(List.pairwise_cons.1 h.apart).2, by simp, fun x hx y hy => ?_⟩⟩
    · obtain rfl : g = k := by rw [hv'] at hk; exact Option.some.inj hk
      rcases List.mem_append.1 hx with h1 | h1
      · exact (hall x h1).1 e
      · obtain rfl := List.mem_singleton.1 h1
        exact hgu e
    · obtain rfl := List.mem_singleton.1 hy
      exact (hall x hx).2

theorem tcells_set : ∀ (l : List Tm) (j : Nat) (t : Tm), ((tcells l).set (j * 2) (.int .i64 t.1)).set (j * 2 + 1) (.int .i64 t.2) = tcells (l.set j t)
  | [], j, t => by simp [tcells]
  | x :: l, 0, t => by simp [tcells]
  | x :: l, j + 1, t => by
    have := tcells_set l j t
    rw [show (j + 1) * 2 = j * 2 + 1 + 1 by omega]
    simp [tcells, this]

theorem tcells_one (l : List Tm) : ∀ u ∈ tcells l, u.oneCell' = true := by
  induction l with
  | nil => simp [tcells]
  | cons t l ih => simp only [tcells, List.mem_cons]; rintro u (rfl | rfl | h); · rfl
                   · rfl
                   · exact ih u h
end Go.Proofs.YtdfjobghgbcjpaaDoor.Walks
