/-
  ring, part 1: contracts of its functions, and what they lean on. Conditions: what is read can be read.
-/
import Derived.Test.YtlphohahijeimaaChecked
import Derived.Test.YtlphohahijeimaaRows
import Derived.Deep.MidRow
import Derived.Deep.Upon
import Derived.WalkKit
import Derived.ProofKit
import Derived.Handy
import Derived.LoopTactic
import Derived.Below
import Derived.Laws.BitsAllLaws
import Derived.RegionTactic
import Derived.Deep.RegionHeld3
import Derived.Deep.DrawnRows
import Derived.Deep.AppendLies
import Derived.Laws.OwnMore
import Derived.Deep.Onto
import Derived.Deep.QuietTactic
import Derived.BigQuiet
import Derived.Shelf.SlSortCmp.NoneTotal
import Derived.RangeFuncNested
import Derived.RangeFuncBound
import Derived.RangeFuncCalls
import Derived.RangeFuncLeaves
import Derived.Shelf.Abstract
import Derived.Shelf.RegionOpen
import Derived.OwnWalkIn
import Derived.TacticsInMore
import Derived.LoopNIn
import Derived.LoopIn
namespace Go.Proofs.Ytlphohahijeimaa.Rg
open Go.RowKit
set_option linter.unusedVariables false
set_option linter.unusedSimpArgs false
attribute [local go_sem ↓] Go.wp_at_zero Go.wp_at_succ
section
abbrev Tm := Int × Int

def tcells : List Tm → List Value
  | [] => []
  | t :: l => .int .i64 t.1 :: .int .i64 t.2 :: tcells l

theorem tcells_len : ∀ l : List Tm, (tcells l).length = l.length * 2
  | [] => rfl
  | t :: l => by simp [tcells, tcells_len l]; omega

theorem tcells_at : ∀ (l : List Tm) (i : Nat) (h : i < l.length), (tcells l)[i * 2]? = some (.int .i64 l[i].1) ∧ (tcells l)[i * 2 + 1]? = some (.int .i64 l[i].2)
  | t :: l, 0, _ => by simp [tcells]
  | t :: l, i + 1, h => by
    have h2 := tcells_at l i (by simpa using h)
    rw [show (i + 1) * 2 = i * 2 + 1 + 1 by omega]
    simpa [tcells] using h2

def RowAt (w : World) (v : Value) (n : Nat) (xs : List Value) : Prop :=
  ∃ a cap, v = .slice a n cap ∧ n ≤ cap ∧ cap ≤ maxLen ∧ (n = 0 ∧ xs = [] ∨ ∃ b off, a = some ⟨b, off, none⟩ ∧ b < w.heap.size ∧ ∀ i, i < xs.length → w.cell? ⟨b, off + i, none⟩ = xs[i]?)

theorem RowAt.below {w w' : World} {v : Value} {n : Nat} {xs : List Value} (h : RowAt w v n xs) (hb : Below w.heap.size w w') : RowAt w' v n xs := by
  obtain ⟨a, cap, hv, hc, hm, h1 | ⟨b, off, h1, h2, h3⟩⟩ := h
  · exact ⟨a, cap, hv, hc, hm, .inl h1⟩
  · exact ⟨a, cap, hv, hc, hm, .inr ⟨b, off, h1, Nat.lt_of_lt_of_le h2 hb.size, fun i hi => by rw [hb.cell (p := ⟨b, off + i, none⟩) h2]; exact h3 i hi⟩⟩

theorem rowAt_nil (w : World) : RowAt w (.slice none 0 0) 0 [] := ⟨none, 0, rfl, Nat.le_refl _, by unfold maxLen; omega, .inl ⟨rfl, rfl⟩⟩

theorem rowAt_own {w : World} {base : Nat} {e : TypeId} {k : Nat} {v : Value} {n : Nat} {xs : List Value} (h : w.ownsRow base e k v n xs) : RowAt w v n xs := by
  obtain ⟨hl, ⟨rfl, rfl⟩ | ⟨g, cap, cur, rfl, hb, hg, hn, hm, hs, ht⟩⟩ := h
  · obtain rfl : xs = [] := List.length_eq_zero_iff.1 (by simpa using hl)
    exact rowAt_nil w
  · refine ⟨_, cap, rfl, hn, hm, .inr ⟨g, 0, rfl, ?_, fun i hi => ?_⟩⟩
    · rcases Nat.lt_or_ge g w.heap.size with hlt | hge
      · exact hlt
      · rw [Array.getElem?_eq_none hge] at hg; cases hg
    · rw [← ht, List.getElem?_take_of_lt (by omega)]
      simp only [World.cell?, hg, Nat.zero_add]
      simp

def TmAt (w : World) (v : Value) (l : List Tm) : Prop := RowAt w v l.length (tcells l)

theorem TmAt.below {w w' : World} {v : Value} {l : List Tm} (h : TmAt w v l) (hb : Below w.heap.size w w') : TmAt w' v l := RowAt.below h hb

theorem TmAt.parts {w : World} {v : Value} {l : List Tm} (h : TmAt w v l) :
    ∃ a cap, v = .slice a l.length cap ∧ l.length ≤ cap ∧ cap ≤ maxLen ∧ ∀ i (hi : i < l.length), ∃ b off, a = some ⟨b, off, none⟩ ∧ b < w.heap.size ∧ w.cell? ⟨b, off + i * 2, none⟩ = some (.int .i64 l[i].1) ∧ w.cell? ⟨b, off + i * 2 + 1, none⟩ = some (.int .i64 l[i].2) := by
  obtain ⟨a, cap, hv, hc, hm, h1 | ⟨b, off, h1, h2, h3⟩⟩ := h
  · exact ⟨a, cap, hv, hc, hm, fun i hi => absurd hi (by omega)⟩
  · refine ⟨a, cap, hv, hc, hm, fun i hi => ⟨b, off, h1, h2, ?_, ?_⟩⟩
    · rw [h3 (i * 2) (by rw [tcells_len]; omega)]; exact (tcells_at l i hi).1
    · rw [Nat.add_assoc, h3 (i * 2 + 1) (by rw [tcells_len]; omega)]; exact (tcells_at l i hi).2

theorem unlike_pair (a b c d : Int) : (a = c ∧ b = d) ∨ ((a == c) = false ∨ a = c ∧ (b == d) = false) := by
  simp only [beq_eq_false_iff_ne]
  by_cases h : a = c <;> by_cases h' : b = d <;> simp [h, h']

theorem below_drewN {B : Nat} {a w : World} (h : Below B a w) (n : Nat) : Below B a (w.drewN n) := h.trans ⟨rfl, rfl, rfl, Nat.le_refl _, fun _ _ => rfl⟩

theorem own_block {w w' : World} {base : Nat} {e : TypeId} {k : Nat} {v : Value} {n : Nat} {xs : List Value} (h : w.ownsRow base e k v n xs) (hs : ∀ g, v.ownBlock = some g → w'.heap[g]? = w.heap[g]?) : w'.ownsRow base e k v n xs := by
  refine ⟨h.1, ?_⟩
  rcases h.2 with hn | ⟨g, cap, cur, rfl, hb, hgg, rest⟩
  · exact .inl hn
  · exact .inr ⟨g, cap, cur, rfl, hb, by rw [hs g rfl]; exact hgg, rest⟩

theorem heap_old (w : World) (o : Obj) {k : Nat} {x : Obj} (h : w.heap[k]? = some x) : (w.alloc o).heap[k]? = some x := by
  rw [Below.heap_alloc _ _ _ (Array.getElem?_eq_some_iff.1 h).1]; exact h

theorem heap_second (w : World) (o p : Obj) : ((w.alloc o).alloc p).heap[w.heap.size + 1]? = some p := by
  have := heap_alloc_new (w.alloc o) p
  simpa using this

def cmpT (a b : Tm) : Int := if a.1 < b.1 then -1 else if b.1 < a.1 then 1 else if a.2 < b.2 then -1 else if b.2 < a.2 then 1 else 0

theorem own_grownW {w w' : World} {base : Nat} {e : TypeId} {k : Nat} {v : Value} {n : Nat} {xs : List Value} (h : w.ownsRow base e k v n xs) (hb : Below w.heap.size w w') : w'.ownsRow base e k v n xs := own_block h fun g hg => hb.block g (h.lt g hg).2

theorem box_below {w w' : World} {g : Nat} {o : Obj} (h : w.heap[g]? = some o) (hb : Below w.heap.size w w') : w'.heap[g]? = some o := (hb.block g (Array.getElem?_eq_some_iff.1 h).1).trans h

end

section
def mixStep (h c : Nat) : Nat := (h ^^^ c) * 16777619 % 4294967296

def start : Nat := 2166136261

def mixOf (l : List Nat) : Nat := l.foldl mixStep start

def bytesOf (n : Nat) : List Nat := [n % 256, n / 256 % 256, n / 65536 % 256, n / 16777216 % 256]

def keyMix (n : Nat) : Nat := mixOf (bytesOf n)

def spotMix (b i : Nat) : Nat := mixOf [98, b, i, 115]

end

section
def icells (a : List Int) : List Value := a.map fun x => .int .i64 x

theorem icells_len (a : List Int) : (icells a).length = a.length := by simp [icells]

def Arr (T : TypeId) (n : Nat) (w : World) (g : Nat) (a : List Int) : Prop := w.heap[g]? = some (.cells (icells a).toArray T (0, 0)) ∧ a.length = n

section

variable {T : TypeId} {n : Nat} {w w' : World} {g : Nat} {a b : List Int}

theorem Arr.lt (h : Arr T n w g a) : g < w.heap.size := (Array.getElem?_eq_some_iff.1 h.1).1

theorem Arr.keep (h : Arr T n w g a) (hk : w'.heap[g]? = w.heap[g]?) : Arr T n w' g a := ⟨hk.trans h.1, h.2⟩

theorem Arr.below (h : Arr T n w g a) (hb : Below w.heap.size w w') : Arr T n w' g a := h.keep (hb.block g h.lt)

theorem Arr.cell (h : Arr T n w g a) (i : Nat) (hi : i < a.length) : w.cell? ⟨g, i, none⟩ = some (.int .i64 a[i]) := by
  rw [cell_of_row w g i _ T (0, 0) h.1]
  simp [icells, hi]

theorem Arr.set (h : Arr T n w g a) (i : Nat) (x : Int) : Arr T n (w.setCell ⟨g, i, none⟩ (.int .i64 x)) g (a.set i x) := by
  refine ⟨?_, by rw [List.length_set]; exact h.2⟩
  rw [heap_setCell_same w g i _ T _ h.1]
  simp [icells, List.map_set]

theorem Arr.range (h : Arr T n w g a) : w.rangeAt g 0 (icells a) := fun j v hv => by
  rw [Nat.zero_add, cell_of_row w g j _ T (0, 0) h.1]
  simpa using hv

end

end

section
open Go.Shelf Go.Lib Go.Sort

def sortT (l : List Tm) : List Tm := l.mergeSort fun x y => !(ltOf cmpT) y x

end

section
def spots1 (b k : Nat) : List Tm := (List.range k).map fun i => (((spotMix b i : Nat) : Int), (b : Int))

def wt (a : List Int) (b : Nat) : Nat := (a.getD b 0).toNat

def raw (a : List Int) : Nat → List Tm
  | 0 => []
  | n + 1 => raw a n ++ spots1 n (wt a n * 4)

structure Wts (a : List Int) : Prop where
  len : a.length = 12
  low : ∀ b, 0 ≤ a.getD b 0
  high : ∀ b, a.getD b 0 ≤ 8

def spotsOf (a : List Int) : List Tm := sortT (raw a 12)

end

section
def cnt (l : List Tm) (b : Nat) : Nat := l.countP fun t => decide (t.2 = (b : Int))

def wOf (l : List Tm) : List Int := (List.range 12).map fun b => ((cnt l b / 4 : Nat) : Int)

def RingOk (l : List Tm) : Prop := ∃ a, Wts a ∧ l = spotsOf a

end

section
theorem one_cell {w : World} {g : Nat} {a : Value} {T : TypeId} (h : w.heap[g]? = some (.cells #[a] T (0, 0))) : w.cell? ⟨g, 0, none⟩ = some a := by simp [World.cell?, h]

end

section
set_option maxHeartbeats 4000000 in
theorem sameRing_any (u v : Value) (l m : List Tm) (w : World) (hu : TmAt w u l) (hv : TmAt w v m) :
    Calls Try.prog 26 #[.agg #[u], .agg #[v]] w fun r w' => r = .returned (.bool (decide (l = m))) ∧ Below w.heap.size w w' := by
  obtain ⟨a, ca, rfl, hca, hma, pa⟩ := hu.parts
  obtain ⟨b, cb, rfl, hcb, hmb, pb⟩ := hv.parts
  unfold maxLen at hma hmb
  by_cases hlen : l.length = m.length
  · have HL : Hid (l.length = m.length) := hlen
    rw [← hlen] at hcb ⊢
    clear hlen
    go_enter Try.func26, Try.ntmps26
    go_wp2
    obtain ⟨W0, hW0⟩ : ∃ W0, W0 = (w.alloc (.cells #[.slice a l.length ca] 41)).alloc (.cells #[.slice b l.length cb] 41) := ⟨_, rfl⟩
    have hb0 : Below w.heap.size w W0 := by rw [hW0]; exact ((Below.refl _ _).alloc (Nat.le_refl _) _).alloc (by simp) _
    have f0 : W0.cell? ⟨w.heap.size, 0, none⟩ = some (.slice a l.length ca) := by rw [hW0]; exact one_cell (heap_old _ _ (heap_alloc_new _ _))
    have f1 : W0.cell? ⟨w.heap.size + 1, 0, none⟩ = some (.slice b l.length cb) := by rw [hW0]; exact one_cell (heap_second _ _ _)
    rw [← hW0]
    have H0 : Hid _ := hb0
    clear hb0 hW0
    go_loopw [5] (fun i wr => ∃ k : Nat, i = .int .i64 k ∧ k ≤ l.length ∧ (∀ j, j < k → l[j]? = m[j]?) ∧ ∃ q, wr = W0.drewN q) (fun i _ => l.length - (intOf i).toNat)
    case atStart => exact ⟨0, rfl, Nat.zero_le _, fun j hj => absurd hj (Nat.not_lt_zero _), 0, rfl⟩
    case round =>
      obtain ⟨k, rfl, hk, hall, q, rfl⟩ := hrel
      have HA : Hid _ := hall
      clear hall
      by_cases hlt : k < l.length
      · obtain ⟨b1, o1, rfl, hb1, c1, d1⟩ := pa k hlt
        obtain ⟨b2, o2, rfl, hb2, c2, d2⟩ := pb k (by rw [← HL.out]; exact hlt)
        replace c1 := (H0.out.cell (p := ⟨b1, o1 + k * 2, none⟩) hb1).trans c1
        replace d1 := (H0.out.cell (p := ⟨b1, o1 + k * 2 + 1, none⟩) hb1).trans d1
        replace c2 := (H0.out.cell (p := ⟨b2, o2 + k * 2, none⟩) hb2).trans c2
        replace d2 := (H0.out.cell (p := ⟨b2, o2 + k * 2 + 1, none⟩) hb2).trans d2
        clear hb1 hb2 pa pb
        obtain ⟨x1, hx1⟩ : ∃ x, x = l[k].1 := ⟨_, rfl⟩
        obtain ⟨y1, hy1⟩ : ∃ x, x = l[k].2 := ⟨_, rfl⟩
        obtain ⟨x2, hx2⟩ : ∃ x, x = (m[k]'(by rw [← HL.out]; exact hlt)).1 := ⟨_, rfl⟩
        obtain ⟨y2, hy2⟩ : ∃ x, x = (m[k]'(by rw [← HL.out]; exact hlt)).2 := ⟨_, rfl⟩
        rw [← hx1] at c1
        rw [← hy1] at d1
        rw [← hx2] at c2
        rw [← hy2] at d2
        have HX : Hid (_ ∧ _ ∧ _ ∧ _) := ⟨hx1, hy1, hx2, hy2⟩
        clear hx1 hy1 hx2 hy2
        rcases unlike_pair x1 y1 x2 y2 with ⟨rfl, rfl⟩ | hne
        · go_wp2
          go_region
          go_wp2
          go_roundw
          case rel =>
            refine ⟨k + 1, by simp, hlt, fun j hj => ?_, q + 1, rfl⟩
            rcases Nat.lt_succ_iff_lt_or_eq.1 hj with h | rfl
            · exact HA.out j h
            · rw [List.getElem?_eq_getElem hlt, List.getElem?_eq_getElem (by rw [← HL.out]; exact hlt)]
              obtain ⟨h1, h2, h3, h4⟩ := HX.out
              exact congrArg some (Prod.ext (h1.symm.trans h3) (h2.symm.trans h4))
          case measure => simp [intOf]; omega
        · have HN : Hid (decide (l = m) = false) := by
            refine decide_eq_false fun h => ?_
            subst h
            obtain ⟨h1, h2, h3, h4⟩ := HX.out
            rcases hne with hne | ⟨_, hne⟩
            · rw [h1, ← h3] at hne; simp at hne
            · rw [h2, ← h4] at hne; simp at hne
          rcases hne with hne | ⟨rfl, hne⟩
          all_goals
            go_wp2
            go_region
            go_wp2
            go_ret
            exact ⟨by rw [HN.out]; rfl, below_drewN H0.out (q + 1)⟩
      · have HE : Hid (decide (l = m) = true) := by
          refine decide_eq_true (List.ext_getElem? fun j => ?_)
          rcases Nat.lt_or_ge j k with h | h
          · exact HA.out j h
          · rw [List.getElem?_eq_none (by omega), List.getElem?_eq_none (by rw [← HL.out]; omega)]
        clear pa pb
        go_wp2
        go_ret
        exact ⟨by rw [HE.out]; rfl, below_drewN H0.out q⟩
  · have HN : Hid (decide (l = m) = false) := decide_eq_false fun h => hlen (by rw [h])
    clear pa pb
    have hne : ((l.length : Int) != (m.length : Int)) = true := by simp [bne_iff_ne]; omega
    go_enter Try.func26, Try.ntmps26
    go_wp2
    go_ret
    exact ⟨by rw [HN.out]; rfl, ((Below.refl _ _).alloc (Nat.le_refl _) _).alloc (by simp) _⟩

end

section
def IntsAt (w : World) (v : Value) (a : List Int) : Prop := RowAt w v a.length (icells a)

theorem IntsAt.below {w w' : World} {v : Value} {l : List Int} (h : IntsAt w v l) (hb : Below w.heap.size w w') : IntsAt w' v l := RowAt.below h hb

theorem icells_at (a : List Int) (i : Nat) (h : i < a.length) : (icells a)[i]? = some (.int .i64 a[i]) := by
  unfold icells
  rw [List.getElem?_map, List.getElem?_eq_getElem h]
  rfl

theorem IntsAt.parts {w : World} {v : Value} {l : List Int} (h : IntsAt w v l) :
    ∃ a cap, v = .slice a l.length cap ∧ l.length ≤ cap ∧ cap ≤ maxLen ∧ ∀ i (hi : i < l.length), ∃ b off, a = some ⟨b, off, none⟩ ∧ b < w.heap.size ∧ w.cell? ⟨b, off + i, none⟩ = some (.int .i64 l[i]) := by
  obtain ⟨a, cap, hv, hc, hm, h1 | ⟨b, off, h1, h2, h3⟩⟩ := h
  · exact ⟨a, cap, hv, hc, hm, fun i hi => absurd hi (by omega)⟩
  · refine ⟨a, cap, hv, hc, hm, fun i hi => ⟨b, off, h1, h2, ?_⟩⟩
    rw [h3 i (by rw [icells_len]; exact hi)]
    exact icells_at l i hi

end

section
theorem Wts.set {a : List Int} (h : Wts a) (j : Nat) (k : Int) (h0 : 0 ≤ k) (h8 : k ≤ 8) : Wts (a.set j k) := by
  have e : ∀ b, (a.set j k).getD b 0 = a.getD b 0 ∨ (a.set j k).getD b 0 = k := fun b => by
    rw [List.getD_eq_getElem?_getD, List.getD_eq_getElem?_getD]
    by_cases hb : j = b
    · subst hb
      by_cases hl : j < a.length
      · right; rw [List.getElem?_set_self hl]; rfl
      · left; rw [List.getElem?_eq_none (by rw [List.length_set]; omega), List.getElem?_eq_none (by omega)]
    · left; rw [List.getElem?_set_ne hb]
  refine ⟨by rw [List.length_set]; exact h.len, fun b => ?_, fun b => ?_⟩
  · rcases e b with e | e <;> rw [e]
    · exact h.low b
    · exact h0
  · rcases e b with e | e <;> rw [e]
    · exact h.high b
    · exact h8

def AddRes (l : List Tm) (n k : Int) (w : World) (r : Ending) (w' : World) : Prop := ∃ (y : Value) (e : Int), r = .returned (.tuple #[.agg #[y], .int .i64 e]) ∧ Below w.heap.size w w' ∧
  ((¬ RingOk l ∧ e = 6 ∧ y = .slice none 0 0) ∨ (RingOk l ∧ ¬ ((0 ≤ n ∧ n < 12) ∧ (1 ≤ k ∧ k ≤ 8)) ∧ e = 2 ∧ y = .slice none 0 0) ∨ (RingOk l ∧ ((0 ≤ n ∧ n < 12) ∧ (1 ≤ k ∧ k ≤ 8)) ∧ 0 < (wOf l).getD n.toNat 0 ∧ e = 7 ∧ y = .slice none 0 0) ∨
    (RingOk l ∧ ((0 ≤ n ∧ n < 12) ∧ (1 ≤ k ∧ k ≤ 8)) ∧ ¬ 0 < (wOf l).getD n.toNat 0 ∧ e = 0 ∧ w'.ownsRow w.heap.size 99 2 y (spotsOf ((wOf l).set n.toNat k)).length (tcells (spotsOf ((wOf l).set n.toNat k)))))

end

section
def RemRes (l : List Tm) (n : Int) (w : World) (r : Ending) (w' : World) : Prop := ∃ (y : Value) (e : Int), r = .returned (.tuple #[.agg #[y], .int .i64 e]) ∧ Below w.heap.size w w' ∧
  ((¬ RingOk l ∧ e = 6 ∧ y = .slice none 0 0) ∨ (RingOk l ∧ ¬ ((0 ≤ n ∧ n < 12) ∧ 0 < (wOf l).getD n.toNat 0) ∧ e = 8 ∧ y = .slice none 0 0) ∨
    (RingOk l ∧ ((0 ≤ n ∧ n < 12) ∧ 0 < (wOf l).getD n.toNat 0) ∧ e = 0 ∧ w'.ownsRow w.heap.size 99 2 y (spotsOf ((wOf l).set n.toNat 0)).length (tcells (spotsOf ((wOf l).set n.toNat 0)))))

end

section
def addOut (l : List Tm) (n k : Int) [Decidable (RingOk l)] : Int × List Tm :=
  if ¬ RingOk l then (6, []) else if ¬ ((0 ≤ n ∧ n < 12) ∧ (1 ≤ k ∧ k ≤ 8)) then (2, []) else if 0 < (wOf l).getD n.toNat 0 then (7, []) else (0, spotsOf ((wOf l).set n.toNat k))

theorem tmAt_nil (w : World) : TmAt w (.slice none 0 0) [] := rowAt_nil w

open Classical in
theorem AddRes.out {l : List Tm} {n k : Int} {w : World} {r : Ending} {w' : World} (h : AddRes l n k w r w') :
    ∃ y, r = .returned (.tuple #[.agg #[y], .int .i64 (addOut l n k).1]) ∧ TmAt w' y (addOut l n k).2 ∧ Below w.heap.size w w' := by
  obtain ⟨y, e, rfl, hb, h⟩ := h
  refine ⟨y, ?_, ?_, hb⟩
  · rcases h with ⟨h1, rfl, _⟩ | ⟨h1, h2, rfl, _⟩ | ⟨h1, h2, h3, rfl, _⟩ | ⟨h1, h2, h3, rfl, _⟩
    · simp [addOut, h1]
    · simp only [addOut, h1, not_true_eq_false, if_false, if_pos h2]
    · simp only [addOut, h1, not_true_eq_false, if_false, if_neg (not_not_intro h2), if_pos h3]
    · simp only [addOut, h1, not_true_eq_false, if_false, if_neg (not_not_intro h2), if_neg h3]
  · rcases h with ⟨h1, _, rfl⟩ | ⟨h1, h2, _, rfl⟩ | ⟨h1, h2, h3, _, rfl⟩ | ⟨h1, h2, h3, _, ho⟩
    · simp only [addOut, h1, not_false_eq_true, if_true]; exact tmAt_nil _
    · simp only [addOut, h1, not_true_eq_false, if_false, if_pos h2]; exact tmAt_nil _
    · simp only [addOut, h1, not_true_eq_false, if_false, if_neg (not_not_intro h2), if_pos h3]; exact tmAt_nil _
    · simp only [addOut, h1, not_true_eq_false, if_false, if_neg (not_not_intro h2), if_neg h3]; exact rowAt_own ho

def BoxR (w : World) (g : Nat) (v : Value) (l : List Tm) : Prop := w.heap[g]? = some (.cells #[v] 41 (0, 0)) ∧ TmAt w v l

theorem BoxR.below {w w' : World} {g : Nat} {v : Value} {l : List Tm} (h : BoxR w g v l) (hb : Below w.heap.size w w') : BoxR w' g v l := ⟨box_below h.1 hb, h.2.below hb⟩

theorem BoxR.cell {w : World} {g : Nat} {v : Value} {l : List Tm} (h : BoxR w g v l) : w.cell? ⟨g, 0, none⟩ = some v := one_cell h.1

theorem BoxR.lt {w : World} {g : Nat} {v : Value} {l : List Tm} (h : BoxR w g v l) : g < w.heap.size := (Array.getElem?_eq_some_iff.1 h.1).1

theorem below_new (w : World) (o : Obj) : Below w.heap.size w (w.alloc o) := (Below.refl _ _).alloc (Nat.le_refl _) _

end

section
def remOut (l : List Tm) (n : Int) [Decidable (RingOk l)] : Int × List Tm :=
  if ¬ RingOk l then (6, []) else if ¬ ((0 ≤ n ∧ n < 12) ∧ 0 < (wOf l).getD n.toNat 0) then (8, []) else (0, spotsOf ((wOf l).set n.toNat 0))

open Classical in
theorem RemRes.out {l : List Tm} {n : Int} {w : World} {r : Ending} {w' : World} (h : RemRes l n w r w') :
    ∃ y, r = .returned (.tuple #[.agg #[y], .int .i64 (remOut l n).1]) ∧ TmAt w' y (remOut l n).2 ∧ Below w.heap.size w w' := by
  obtain ⟨y, e, rfl, hb, h⟩ := h
  refine ⟨y, ?_, ?_, hb⟩
  · rcases h with ⟨h1, rfl, _⟩ | ⟨h1, h2, rfl, _⟩ | ⟨h1, h2, rfl, _⟩
    · simp [remOut, h1]
    · simp only [remOut, h1, not_true_eq_false, if_false, if_pos h2]
    · simp only [remOut, h1, not_true_eq_false, if_false, if_neg (not_not_intro h2)]
  · rcases h with ⟨h1, _, rfl⟩ | ⟨h1, h2, _, rfl⟩ | ⟨h1, h2, _, ho⟩
    · simp only [remOut, h1, not_false_eq_true, if_true]; exact tmAt_nil _
    · simp only [remOut, h1, not_true_eq_false, if_false, if_pos h2]; exact tmAt_nil _
    · simp only [remOut, h1, not_true_eq_false, if_false, if_neg (not_not_intro h2)]; exact rowAt_own ho

end

section
def stepF (out : List Int) (t : Tm) : List Int := if t.2 ∈ out then out else out ++ [t.2]

def firsts (m : List Tm) : List Int := m.foldl stepF []

def mask (a : List Int) (out : List Int) : List Int := (List.range 12).map fun (b : Nat) => if (b : Int) ∈ out then 0 else a.getD b 0

def turnAt (l : List Tm) (at_ : Int) : List Tm := l.filter (fun t => decide (at_ ≤ t.1)) ++ l.filter (fun t => decide (t.1 < at_))

def walkAt (l : List Tm) (at_ : Int) : List Int := firsts (turnAt l at_)

end

section
def WalkRes (l : List Tm) (key : Int) (w : World) (r : Ending) (w' : World) : Prop := ∃ (y : Value) (e : Int), r = .returned (.tuple #[y, .int .i64 e]) ∧ Below w.heap.size w w' ∧
  ((¬ RingOk l ∧ e = 6 ∧ y = .slice none 0 0) ∨ (RingOk l ∧ ¬ (0 ≤ key ∧ key ≤ 4294967295) ∧ e = 2 ∧ y = .slice none 0 0) ∨
    (RingOk l ∧ (0 ≤ key ∧ key ≤ 4294967295) ∧ e = 0 ∧ w'.ownsRow w.heap.size 3 1 y (walkAt l (keyMix key.toNat : Nat)).length (icells (walkAt l (keyMix key.toNat : Nat)))))

def walkOut (l : List Tm) (key : Int) [Decidable (RingOk l)] : Int × List Int :=
  if ¬ RingOk l then (6, []) else if ¬ (0 ≤ key ∧ key ≤ 4294967295) then (2, []) else (0, walkAt l (keyMix key.toNat : Nat))

theorem intsAt_nil (w : World) : IntsAt w (.slice none 0 0) [] := rowAt_nil w

open Classical in
theorem WalkRes.out {l : List Tm} {n : Int} {w : World} {r : Ending} {w' : World} (h : WalkRes l n w r w') :
    ∃ y, r = .returned (.tuple #[y, .int .i64 (walkOut l n).1]) ∧ IntsAt w' y (walkOut l n).2 ∧ Below w.heap.size w w' := by
  obtain ⟨y, e, rfl, hb, h⟩ := h
  refine ⟨y, ?_, ?_, hb⟩
  · rcases h with ⟨h1, rfl, _⟩ | ⟨h1, h2, rfl, _⟩ | ⟨h1, h2, rfl, _⟩
    · simp [walkOut, h1]
    · simp only [walkOut, h1, not_true_eq_false, if_false, if_pos h2]
    · simp only [walkOut, h1, not_true_eq_false, if_false, if_neg (not_not_intro h2)]
  · rcases h with ⟨h1, _, rfl⟩ | ⟨h1, h2, _, rfl⟩ | ⟨h1, h2, _, ho⟩
    · simp only [walkOut, h1, not_false_eq_true, if_true]; exact intsAt_nil _
    · simp only [walkOut, h1, not_true_eq_false, if_false, if_pos h2]; exact intsAt_nil _
    · simp only [walkOut, h1, not_true_eq_false, if_false, if_neg (not_not_intro h2)]; exact rowAt_own ho

def BArr (w : World) (g : Nat) (s : List Bool) : Prop := w.heap[g]? = some (.cells (s.map Value.bool).toArray 4 (0, 0)) ∧ s.length = 12

theorem BArr.lt {w : World} {g : Nat} {s : List Bool} (h : BArr w g s) : g < w.heap.size := (Array.getElem?_eq_some_iff.1 h.1).1

theorem BArr.keep {w w' : World} {g : Nat} {s : List Bool} (h : BArr w g s) (hk : w'.heap[g]? = w.heap[g]?) : BArr w' g s := ⟨hk.trans h.1, h.2⟩

theorem BArr.below {w w' : World} {g : Nat} {s : List Bool} (h : BArr w g s) (hb : Below w.heap.size w w') : BArr w' g s := h.keep (hb.block g h.lt)

theorem BArr.cell {w : World} {g : Nat} {s : List Bool} (h : BArr w g s) (i : Nat) (hi : i < s.length) : w.cell? ⟨g, i, none⟩ = some (.bool s[i]) := by
  simp [World.cell?, h.1, hi]

theorem BArr.set {w : World} {g : Nat} {s : List Bool} (h : BArr w g s) (i : Nat) (x : Bool) : BArr (w.setCell ⟨g, i, none⟩ (.bool x)) g (s.set i x) := by
  refine ⟨?_, by rw [List.length_set]; exact h.2⟩
  rw [Sort.setCell_eq]
  unfold Sort.mapBlock
  simp [Array.getElem?_modify, h.1, Sort.onCells]

def seenL (out : List Int) : List Bool := (List.range 12).map fun (b : Nat) => decide ((b : Int) ∈ out)

def Meets (w : World) (B g : Nat) (v : Value) (x : Value) (out : List Int) (wr : World) : Prop :=
  wr.ownsRow B 3 1 x out.length (icells out) ∧ BArr wr g (seenL out) ∧ wr.heap[w.heap.size]? = some (.cells #[v] 41 (0, 0)) ∧ Below w.heap.size w wr ∧ B ≤ wr.heap.size

theorem Meets.alloc {w : World} {B g : Nat} {v : Value} {x : Value} {out : List Int} {wr : World} (h : Meets w B g v x out wr) (o : Obj) : Meets w B g v x out (wr.alloc o) :=
  ⟨h.1.alloc o, h.2.1.below (below_new _ _), box_below h.2.2.1 (below_new _ _), h.2.2.2.1.alloc h.2.2.2.1.size o, by have := h.2.2.2.2; simp; omega⟩

end

section
open Go.Shelf

attribute [local go_sem] Oper.semAt_some

def Kept (S : Nat → Prop) (W W' : World) : Prop := ∀ k, S k → W'.heap[k]? = W.heap[k]?

theorem Kept.trans {S : Nat → Prop} {A B C : World} (h1 : Kept S A B) (h2 : Kept S B C) : Kept S A C := fun k hk => (h2 k hk).trans (h1 k hk)

theorem Kept.refl (S : Nat → Prop) (A : World) : Kept S A A := fun _ _ => rfl

theorem Kept.cell {S : Nat → Prop} {A B : World} (h : Kept S A B) {k : Nat} (hk : S k) (o : Nat) : B.cell? ⟨k, o, none⟩ = A.cell? ⟨k, o, none⟩ := World.cell?_of_block (h k hk)

end

section
open Go.Shelf

attribute [local go_sem] Oper.semAt_some

end

end Go.Proofs.Ytlphohahijeimaa.Rg
