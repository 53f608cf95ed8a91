/-
  slices.SortFunc with compareSpots: a row in a block of its own holds the same pairs, in order. Condition: the row is owned.
-/
import Derived.Test.YtpmobbbohchdlabCmp
import Derived.Test.YtpmobbbohchdlabSortLay
import Derived.Shelf.SlSortCmp.NoneTotal
import Derived.WalkKit
import Derived.ProofKit
import Derived.Handy
import Derived.LoopTactic
import Derived.Below
import Derived.Laws.BitsAllLaws
import Derived.RegionTactic
import Derived.Deep.RegionHeld3
import Derived.Deep.DrawnRows
import Derived.Deep.AppendLies
import Derived.Laws.OwnMore
import Derived.Deep.Onto
import Derived.Deep.QuietTactic
import Derived.BigQuiet
namespace Go.Proofs.Ytpmobbbohchdlab.Walks
open Go.RowKit
set_option linter.unusedVariables false
set_option linter.unusedSimpArgs false
attribute [local go_sem ↓] Go.wp_at_zero Go.wp_at_succ
open Go.Shelf Go.Lib Go.Sort

def encT (t : Tm) : List Value := [.int .i64 t.1, .int .i64 t.2]

theorem flat_tcells (l : List Tm) : flatK encT 2 l.toArray = (tcells l).toArray := by
  refine ext_get! (by simp [tcells_len]) fun t ht => ?_
  have ht' : t < l.length * 2 := by simpa using ht
  rw [get_flatK _ _ _ t (by simpa using ht')]
  have hj : t / 2 < l.length := by omega
  obtain ⟨h0, h1⟩ := tcells_at l (t / 2) hj
  have e : (l.toArray)[t / 2]! = l[t / 2] := by simp [hj]
  rw [e]
  rcases Nat.mod_two_eq_zero_or_one t with m | m
  · rw [m]
    have : (tcells l)[t]? = some (.int .i64 l[t / 2].1) := by rw [← h0]; congr 1; omega
    simp [encT, this]
  · rw [m]
    have : (tcells l)[t]? = some (.int .i64 l[t / 2].2) := by rw [← h1]; congr 1; omega
    simp [encT, this]

def ltT (x y : Tm) : Bool := ltOf cmpT x y

theorem ltT_iff (x y : Tm) : ltOf cmpT x y = true ↔ cmpT x y < 0 := by unfold ltOf; simp

theorem swoT : SWO (ltOf cmpT) where
  irrefl x := by rw [← Bool.not_eq_true, ltT_iff]; exact cmp_irrefl x
  trans x y z h1 h2 := by rw [ltT_iff] at *; exact cmpT_trans h1 h2
  ntrans x y z h1 h2 := by rw [← Bool.not_eq_true, ltT_iff, cmpT_lt] at *; omega

theorem partT (x y : Tm) (h1 : ltOf cmpT x y = false) (h2 : ltOf cmpT y x = false) : x = y := by
  rw [← Bool.not_eq_true, ltT_iff, cmpT_lt] at *
  obtain ⟨a, b⟩ := x
  obtain ⟨c, d⟩ := y
  simp only at h1 h2
  have e1 : a = c := by omega
  have e2 : b = d := by omega
  rw [e1, e2]

/-- The pairs in order. -/
def sortT (l : List Tm) : List Tm := l.mergeSort fun x y => !(ltOf cmpT) y x

theorem sortT_perm (l : List Tm) : (sortT l).Perm l := List.mergeSort_perm _ _

theorem sortT_len (l : List Tm) : (sortT l).length = l.length := (sortT_perm l).length_eq

theorem sortT_sorted {l : List Tm} (h : l.Nodup) : (sortT l).Pairwise (fun a b => cmpT a b < 0) := by
  have h1 : (sortT l).Pairwise (fun x y => (!(ltOf cmpT) y x) = true) := List.pairwise_mergeSort (le := fun x y => !(ltOf cmpT) y x)
    (fun a b c h1 h2 => by simp only [Bool.not_eq_true'] at *; exact swoT.ntrans _ _ _ h2 h1)
    (fun a b => by
      cases e : ltOf cmpT b a with
      | false => simp
      | true =>
        have e' : ltOf cmpT a b = false := by rw [← Bool.not_eq_true, ltT_iff]; rw [ltT_iff] at e; intro h; exact cmp_irrefl _ (cmpT_trans h e)
        simp [e']) l
  have h2 : (sortT l).Nodup := (sortT_perm l).nodup_iff.2 h
  refine (h1.and h2).imp fun {a b} ⟨ha, hn⟩ => ?_
  simp only [Bool.not_eq_true'] at ha
  rw [← ltT_iff]
  cases e : ltOf cmpT a b with
  | true => rfl
  | false => exact absurd (partT a b e ha) hn

theorem cmpLays (blk off size : Nat) (w : World) : CmpLays Try.prog 33 #[] encT 2 cmpT blk off size w :=
  fun m os dk _ x y => (compareTimers_is x.1 x.2 y.1 y.2 _).mono (by
    rintro r w' ⟨h1, rfl⟩
    exact ⟨h1, 1, _, by rw [alloc_eq_grow, alloc_eq_grow, alloc_eq_grow, grow_grow, grow_grow]; rfl⟩)

theorem sortWorld_other (w : World) (g n k : Nat) (d : Array Tm) (os : Array Obj) (hk : k < w.heap.size) (hne : k ≠ g) : (sortWorldK encT 2 w g 0 n d os).heap[k]? = w.heap[k]? := by
  unfold sortWorldK grow putRowK putRow mapBlock Sort.ahead
  simp only
  rw [Array.getElem?_append_left (by simpa using hk), Array.getElem?_modify, if_neg (Ne.symm hne)]

theorem sortWorld_own (w : World) (g n : Nat) (d : Array Tm) (os : Array Obj) (cur : Array Value) (e : TypeId) (hg : w.heap[g]? = some (.cells cur e (0, 0))) : (sortWorldK encT 2 w g 0 n d os).heap[g]? = some (.cells (putCells id 0 (flatK encT 2 d) cur) e (0, 0)) := by
  have hk := (Array.getElem?_eq_some_iff.1 hg).1
  unfold sortWorldK grow putRowK putRow mapBlock Sort.ahead
  simp only
  rw [Array.getElem?_append_left (by simpa using hk), Array.getElem?_modify, if_pos rfl, hg]
  rfl

theorem putCells_take (xs : List Value) (cur : Array Value) (h : xs.length ≤ cur.size) : (putCells id 0 xs.toArray cur).toList.take xs.length = xs := by
  apply List.ext_getElem?
  intro i
  by_cases hi : i < xs.length
  · rw [List.getElem?_take_of_lt hi]
    unfold putCells
    simp [hi, show i < cur.size by omega]
  · rw [List.getElem?_eq_none (by simp; omega), List.getElem?_eq_none (by omega)]

theorem sort_any (base : Nat) (v : Value) (l : List Tm) (w : World) (hown : w.ownsRow base 42 2 v l.length (tcells l)) (hl : l.length ≤ 1000000) :
    Calls Try.prog 32 #[v, .func (.func 33) #[] #[]] w fun r w' => r = .returned (.tuple #[]) ∧ w'.ownsRow base 42 2 v l.length (tcells (sortT l)) ∧ w.grownBy w' v.ownBlock := by
  have hown0 := hown
  obtain ⟨hlen, ⟨rfl, h0⟩ | ⟨g, cap, cur, rfl, hb, hg, hn, hm, hs, ht⟩⟩ := hown
  · obtain rfl : l = [] := List.length_eq_zero_iff.1 h0
    refine (AnyF.slices_SortFunc_none { sortSpots with } none 0 (.func (.func 33) #[] #[]) w).mono ?_
    rintro r w' ⟨rfl, rfl⟩
    exact ⟨rfl, by simpa [sortT] using hown0, ⟨rfl, rfl, rfl, Nat.le_refl _, fun _ _ _ => rfl⟩⟩
  · have hlt : g < w.heap.size := (Array.getElem?_eq_some_iff.1 hg).1
    have hH : HoldsK encT 2 w g 0 l.toArray := by
      unfold HoldsK
      rw [flat_tcells]
      intro j hj
      have hj' : j < (tcells l).length := by simpa using hj
      have hj2 : j < l.length * 2 := by rw [← tcells_len]; exact hj'
      have hc : cur.toList[j]? = (tcells l)[j]? := by rw [← ht, List.getElem?_take_of_lt hj2]
      refine ⟨?_, by simp [World.frozen?, hg]⟩
      simp only [World.cell?, hg, Nat.zero_add]
      have hj3 : j < cur.size := by rw [hs]; have := Nat.mul_le_mul_right 2 hn; omega
      simp only [Array.getElem?_toList] at hc
      rw [List.getElem?_eq_getElem hj'] at hc
      simp [hc, hj']
    have eg : ∀ args w, (callFunc 33 args).run Try.prog w = .ok (.enter 33 args) w := enters_of Try.func33 (by kernel_rfl) rfl
    have hcon := AnyQ.slices_SortFunc_total sortSpots 2 (fun w => by kernel_rfl) (fun w => by kernel_rfl) encT (fun _ => rfl) (fun x v hv => by simp [encT] at hv; rcases hv with rfl | rfl <;> rfl) cmpT swoT 33 #[] g 0 cap l.toArray w eg (cmpLays g 0 _ w) hH hlt (by simp; omega) partT
    refine hcon.mono ?_
    rintro r w' ⟨rfl, n, os, rfl⟩
    have e1 : (l.toArray.toList.mergeSort fun x y => !(ltOf cmpT) y x).toArray = (sortT l).toArray := rfl
    rw [e1]
    have hle : (tcells (sortT l)).length = l.length * 2 := by rw [tcells_len, sortT_len]
    refine ⟨rfl, ⟨by rw [hle], .inr ⟨g, cap, _, rfl, hb, sortWorld_own w g n _ os cur _ hg, hn, hm, by unfold putCells; simpa using hs, ?_⟩⟩, ?_⟩
    · rw [flat_tcells, ← hle]
      exact putCells_take _ _ (by rw [hle, hs]; exact Nat.mul_le_mul_right 2 hn)
    · exact ⟨rfl, rfl, rfl, by unfold sortWorldK grow putRowK putRow mapBlock Sort.ahead; simp, fun k hk hne => sortWorld_other w g n k _ os hk (fun e => hne (by rw [e]; rfl))⟩
end Go.Proofs.Ytpmobbbohchdlab.Walks
