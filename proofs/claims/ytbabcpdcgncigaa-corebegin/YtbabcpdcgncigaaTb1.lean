/-
  table, part 1: contracts of its functions, and what they lean on. Conditions: what is read can be read.
-/
import Derived.Test.YtbabcpdcgncigaaChecked
import Derived.Test.YtbabcpdcgncigaaRows
import Derived.Deep.MidRow
import Derived.Deep.Upon
import Derived.WalkKit
import Derived.ProofKit
import Derived.Handy
import Derived.LoopTactic
import Derived.Below
import Derived.Laws.BitsAllLaws
import Derived.RegionTactic
import Derived.Deep.RegionHeld3
import Derived.Deep.DrawnRows
import Derived.Deep.AppendLies
import Derived.Laws.OwnMore
import Derived.Deep.Onto
import Derived.Deep.QuietTactic
import Derived.BigQuiet
import Derived.Deep.CutRange
namespace Go.Proofs.Ytbabcpdcgncigaa.Tb
open Go.RowKit
set_option linter.unusedVariables false
set_option linter.unusedSimpArgs false
attribute [local go_sem ↓] Go.wp_at_zero Go.wp_at_succ
section
abbrev Tm := Int × Int

def tcells : List Tm → List Value
  | [] => []
  | t :: l => .int .i64 t.1 :: .int .i64 t.2 :: tcells l

theorem tcells_len : ∀ l : List Tm, (tcells l).length = l.length * 2
  | [] => rfl
  | t :: l => by simp [tcells, tcells_len l]; omega

theorem tcells_at : ∀ (l : List Tm) (i : Nat) (h : i < l.length), (tcells l)[i * 2]? = some (.int .i64 l[i].1) ∧ (tcells l)[i * 2 + 1]? = some (.int .i64 l[i].2)
  | t :: l, 0, _ => by simp [tcells]
  | t :: l, i + 1, h => by
    have h2 := tcells_at l i (by simpa using h)
    rw [show (i + 1) * 2 = i * 2 + 1 + 1 by omega]
    simpa [tcells] using h2

def RowAt (w : World) (v : Value) (n : Nat) (xs : List Value) : Prop :=
  ∃ a cap, v = .slice a n cap ∧ n ≤ cap ∧ cap ≤ maxLen ∧ (n = 0 ∧ xs = [] ∨ ∃ b off, a = some ⟨b, off, none⟩ ∧ b < w.heap.size ∧ ∀ i, i < xs.length → w.cell? ⟨b, off + i, none⟩ = xs[i]?)

theorem RowAt.below {w w' : World} {v : Value} {n : Nat} {xs : List Value} (h : RowAt w v n xs) (hb : Below w.heap.size w w') : RowAt w' v n xs := by
  obtain ⟨a, cap, hv, hc, hm, h1 | ⟨b, off, h1, h2, h3⟩⟩ := h
  · exact ⟨a, cap, hv, hc, hm, .inl h1⟩
  · exact ⟨a, cap, hv, hc, hm, .inr ⟨b, off, h1, Nat.lt_of_lt_of_le h2 hb.size, fun i hi => by rw [hb.cell (p := ⟨b, off + i, none⟩) h2]; exact h3 i hi⟩⟩

theorem rowAt_nil (w : World) : RowAt w (.slice none 0 0) 0 [] := ⟨none, 0, rfl, Nat.le_refl _, by unfold maxLen; omega, .inl ⟨rfl, rfl⟩⟩

theorem rowAt_own {w : World} {base : Nat} {e : TypeId} {k : Nat} {v : Value} {n : Nat} {xs : List Value} (h : w.ownsRow base e k v n xs) : RowAt w v n xs := by
  obtain ⟨hl, ⟨rfl, rfl⟩ | ⟨g, cap, cur, rfl, hb, hg, hn, hm, hs, ht⟩⟩ := h
  · obtain rfl : xs = [] := List.length_eq_zero_iff.1 (by simpa using hl)
    exact rowAt_nil w
  · refine ⟨_, cap, rfl, hn, hm, .inr ⟨g, 0, rfl, ?_, fun i hi => ?_⟩⟩
    · rcases Nat.lt_or_ge g w.heap.size with hlt | hge
      · exact hlt
      · rw [Array.getElem?_eq_none hge] at hg; cases hg
    · rw [← ht, List.getElem?_take_of_lt (by omega)]
      simp only [World.cell?, hg, Nat.zero_add]
      simp

def TmAt (w : World) (v : Value) (l : List Tm) : Prop := RowAt w v l.length (tcells l)

theorem TmAt.below {w w' : World} {v : Value} {l : List Tm} (h : TmAt w v l) (hb : Below w.heap.size w w') : TmAt w' v l := RowAt.below h hb

theorem TmAt.parts {w : World} {v : Value} {l : List Tm} (h : TmAt w v l) :
    ∃ a cap, v = .slice a l.length cap ∧ l.length ≤ cap ∧ cap ≤ maxLen ∧ ∀ i (hi : i < l.length), ∃ b off, a = some ⟨b, off, none⟩ ∧ b < w.heap.size ∧ w.cell? ⟨b, off + i * 2, none⟩ = some (.int .i64 l[i].1) ∧ w.cell? ⟨b, off + i * 2 + 1, none⟩ = some (.int .i64 l[i].2) := by
  obtain ⟨a, cap, hv, hc, hm, h1 | ⟨b, off, h1, h2, h3⟩⟩ := h
  · exact ⟨a, cap, hv, hc, hm, fun i hi => absurd hi (by omega)⟩
  · refine ⟨a, cap, hv, hc, hm, fun i hi => ⟨b, off, h1, h2, ?_, ?_⟩⟩
    · rw [h3 (i * 2) (by rw [tcells_len]; omega)]; exact (tcells_at l i hi).1
    · rw [Nat.add_assoc, h3 (i * 2 + 1) (by rw [tcells_len]; omega)]; exact (tcells_at l i hi).2

theorem own_block {w w' : World} {base : Nat} {e : TypeId} {k : Nat} {v : Value} {n : Nat} {xs : List Value} (h : w.ownsRow base e k v n xs) (hs : ∀ g, v.ownBlock = some g → w'.heap[g]? = w.heap[g]?) : w'.ownsRow base e k v n xs := by
  refine ⟨h.1, ?_⟩
  rcases h.2 with hn | ⟨g, cap, cur, rfl, hb, hgg, rest⟩
  · exact .inl hn
  · exact .inr ⟨g, cap, cur, rfl, hb, by rw [hs g rfl]; exact hgg, rest⟩

theorem heap_old (w : World) (o : Obj) {k : Nat} {x : Obj} (h : w.heap[k]? = some x) : (w.alloc o).heap[k]? = some x := by
  rw [Below.heap_alloc _ _ _ (Array.getElem?_eq_some_iff.1 h).1]; exact h

theorem own_grownW {w w' : World} {base : Nat} {e : TypeId} {k : Nat} {v : Value} {n : Nat} {xs : List Value} (h : w.ownsRow base e k v n xs) (hb : Below w.heap.size w w') : w'.ownsRow base e k v n xs := own_block h fun g hg => hb.block g (h.lt g hg).2

theorem box_below {w w' : World} {g : Nat} {o : Obj} (h : w.heap[g]? = some o) (hb : Below w.heap.size w w') : w'.heap[g]? = some o := (hb.block g (Array.getElem?_eq_some_iff.1 h).1).trans h

end

section
def icells (a : List Int) : List Value := a.map fun x => .int .i64 x

theorem icells_len (a : List Int) : (icells a).length = a.length := by simp [icells]

def Arr (T : TypeId) (n : Nat) (w : World) (g : Nat) (a : List Int) : Prop := w.heap[g]? = some (.cells (icells a).toArray T (0, 0)) ∧ a.length = n

section

variable {T : TypeId} {n : Nat} {w w' : World} {g : Nat} {a b : List Int}

theorem Arr.lt (h : Arr T n w g a) : g < w.heap.size := (Array.getElem?_eq_some_iff.1 h.1).1

theorem Arr.keep (h : Arr T n w g a) (hk : w'.heap[g]? = w.heap[g]?) : Arr T n w' g a := ⟨hk.trans h.1, h.2⟩

theorem Arr.below (h : Arr T n w g a) (hb : Below w.heap.size w w') : Arr T n w' g a := h.keep (hb.block g h.lt)

theorem Arr.cell (h : Arr T n w g a) (i : Nat) (hi : i < a.length) : w.cell? ⟨g, i, none⟩ = some (.int .i64 a[i]) := by
  rw [cell_of_row w g i _ T (0, 0) h.1]
  simp [icells, hi]

theorem Arr.frozen (h : Arr T n w g a) (i : Nat) : w.frozen? ⟨g, i, none⟩ = false := by simp [World.frozen?, h.1]

end

theorem load_row {P : Program} {w : World} {g : Nat} {T : TypeId} {cs : List Value} {d : TypeDesc} (h : w.heap[g]? = some (.cells cs.toArray T (0, 0))) (hu : P.underlying T = some d) (hd : d.isRow = true) (hi : (P.info? T).map (·.size) = some cs.length) : (loadVar T ⟨g, 0, none⟩).run P w = .ok (.agg cs.toArray) w :=
  run_loadVar_mid w g 0 T cs d (fun j v hv => by rw [Nat.zero_add, cell_of_row w g j _ T (0, 0) h]; simpa using hv) hu hd hi

end

section
abbrev Sl := Int × Bool × Int × Int

def scells : List Sl → List Value
  | [] => []
  | t :: l => .int .i64 t.1 :: .bool t.2.1 :: .int .i64 t.2.2.1 :: .int .i64 t.2.2.2 :: scells l

theorem scells_len : ∀ l : List Sl, (scells l).length = l.length * 4
  | [] => rfl
  | t :: l => by simp [scells, scells_len l]; omega

theorem scells_at : ∀ (l : List Sl) (i : Nat) (h : i < l.length), (scells l)[i * 4]? = some (.int .i64 l[i].1) ∧ (scells l)[i * 4 + 1]? = some (.bool l[i].2.1) ∧ (scells l)[i * 4 + 2]? = some (.int .i64 l[i].2.2.1) ∧ (scells l)[i * 4 + 3]? = some (.int .i64 l[i].2.2.2)
  | t :: l, 0, _ => by simp [scells]
  | t :: l, i + 1, h => by
    have h2 := scells_at l i (by simpa using h)
    rw [show (i + 1) * 4 = i * 4 + 1 + 1 + 1 + 1 by omega]
    simpa [scells] using h2

def SlAt (w : World) (v : Value) (l : List Sl) : Prop := RowAt w v l.length (scells l)

theorem SlAt.below {w w' : World} {v : Value} {l : List Sl} (h : SlAt w v l) (hb : Below w.heap.size w w') : SlAt w' v l := RowAt.below h hb

theorem SlAt.parts {w : World} {v : Value} {l : List Sl} (h : SlAt w v l) :
    ∃ a cap, v = .slice a l.length cap ∧ l.length ≤ cap ∧ cap ≤ maxLen ∧ ∀ i (hi : i < l.length), ∃ b off, a = some ⟨b, off, none⟩ ∧ b < w.heap.size ∧ w.cell? ⟨b, off + i * 4, none⟩ = some (.int .i64 l[i].1) ∧ w.cell? ⟨b, off + i * 4 + 1, none⟩ = some (.bool l[i].2.1) ∧ w.cell? ⟨b, off + i * 4 + 2, none⟩ = some (.int .i64 l[i].2.2.1) ∧ w.cell? ⟨b, off + i * 4 + 3, none⟩ = some (.int .i64 l[i].2.2.2) := by
  obtain ⟨a, cap, hv, hc, hm, h1 | ⟨b, off, h1, h2, h3⟩⟩ := h
  · exact ⟨a, cap, hv, hc, hm, fun i hi => absurd hi (by omega)⟩
  · refine ⟨a, cap, hv, hc, hm, fun i hi => ⟨b, off, h1, h2, ?_, ?_, ?_, ?_⟩⟩
    · rw [h3 (i * 4) (by rw [scells_len]; omega)]; exact (scells_at l i hi).1
    · rw [Nat.add_assoc, h3 (i * 4 + 1) (by rw [scells_len]; omega)]; exact (scells_at l i hi).2.1
    · rw [Nat.add_assoc, h3 (i * 4 + 2) (by rw [scells_len]; omega)]; exact (scells_at l i hi).2.2.1
    · rw [Nat.add_assoc, h3 (i * 4 + 3) (by rw [scells_len]; omega)]; exact (scells_at l i hi).2.2.2

theorem infoSl : (Try.prog.info? 88).map (fun i => (i.zero, i.size, i.bytes)) = some (some (.agg #[.int .i64 0, .bool false, .int .i64 0, .int .i64 0]), 4, 32) := by kernel_rfl

theorem one_cell {w : World} {g : Nat} {a : Value} {T : TypeId} (h : w.heap[g]? = some (.cells #[a] T (0, 0))) : w.cell? ⟨g, 0, none⟩ = some a := by simp [World.cell?, h]

end

section
abbrev isKeyP (n : Int) : Prop := 0 ≤ n ∧ n ≤ 4294967295

abbrev isBeP (n : Int) : Prop := 0 ≤ n ∧ n < 12

abbrev SlotOk (t : Sl) : Prop := if t.2.1 = true then (0 ≤ t.1 ∧ t.1 ≤ 1048575) ∧ isKeyP t.2.2.1 ∧ isBeP t.2.2.2 else (0 ≤ t.1 ∧ t.1 ≤ 1048576) ∧ t.2.2.1 = 0 ∧ t.2.2.2 = 0

theorem below_newC (w : World) {o : Obj} : Below w.heap.size w (w.alloc o) := (Below.refl _ _).alloc (Nat.le_refl _) _

abbrev TabOk (l : List Sl) : Prop := (1 ≤ l.length ∧ l.length ≤ 40) ∧ ∀ t ∈ l, SlotOk t

end

section
theorem results_ct {fn : Func} {x z : Tmp} {t : TypeId} (h : fn.results = #[.cell x t, .tmp z]) {tmps : Array Value} {P : Program} {w : World} {p : Addr} {v1 v3 : Value} (hx : tmps.getD x undef = .pointer (some p)) (hz : tmps.getD z undef = v3)
    (h1 : (loadVar t p).run P w = .ok v1 w) : (results fn tmps).run P w = .ok (.tuple #[v1, v3]) w := by
  have e1 : ∀ a : Addr, (asAddr (.pointer (some a))).run P w = .ok a w := fun a => rfl
  simp only [Array.getD_eq_getD_getElem?] at hx hz
  simp [results, h, hx, hz, e1, h1, Sem.run_bind]

end

section
theorem one_set {w : World} {g : Nat} {u v : Value} {T : TypeId} (h : w.heap[g]? = some (.cells #[u] T (0, 0))) : (w.setCell ⟨g, 0, none⟩ v).heap[g]? = some (.cells #[v] T (0, 0)) := by
  have := heap_setCell_same w g 0 _ _ v h
  simpa using this

end

section
def TabRes (m : List Sl) (e : Int) (w : World) (r : Ending) (w' : World) : Prop :=
  ∃ p c, r = .returned (.tuple #[.agg #[.slice p m.length c], .int .i64 e]) ∧ w'.ownsRow w.heap.size 88 4 (.slice p m.length c) m.length (scells m) ∧ Below w.heap.size w w'

end

section
theorem made_slots (n : Nat) : madeCells #[.int .i64 0, .bool false, .int .i64 0, .int .i64 0] (n * 4) = (scells (List.replicate n (0, false, 0, 0))).toArray := by
  apply Array.ext'
  apply List.ext_getElem?
  intro i
  have hlen : (scells (List.replicate n ((0 : Int), false, (0 : Int), (0 : Int)))).length = n * 4 := by rw [scells_len]; simp
  by_cases h : i < n * 4
  · have ht := scells_at (List.replicate n ((0 : Int), false, (0 : Int), (0 : Int))) (i / 4) (by simp; omega)
    simp only [List.getElem_replicate] at ht
    have hL : (madeCells #[.int .i64 0, .bool false, .int .i64 0, .int .i64 0] (n * 4)).toList[i]? = some ((#[.int .i64 0, .bool false, .int .i64 0, .int .i64 0] : Array Value)[i % 4]!) := by
      unfold madeCells
      simp [h]
    rw [hL]
    have hp : i % 4 = 0 ∨ i % 4 = 1 ∨ i % 4 = 2 ∨ i % 4 = 3 := by omega
    rcases hp with hp | hp | hp | hp
    · rw [hp]
      rw [show i / 4 * 4 = i by omega] at ht
      exact ht.1.symm
    · rw [hp]
      rw [show i / 4 * 4 + 1 = i by omega] at ht
      exact ht.2.1.symm
    · rw [hp]
      rw [show i / 4 * 4 + 2 = i by omega] at ht
      exact ht.2.2.1.symm
    · rw [hp]
      rw [show i / 4 * 4 + 3 = i by omega] at ht
      exact ht.2.2.2.symm
  · rw [List.getElem?_eq_none (by simp [size_madeCells]; omega), List.getElem?_eq_none (by simp [hlen]; omega)]

def makeOut (n : Int) : List Sl × Int := if 1 ≤ n ∧ n ≤ 40 then (List.replicate n.toNat (0, false, 0, 0), 0) else ([], 2)

theorem made_run (n : Nat) (hn : n ≤ 40) (W : World) : (Instr.makeSlice 31 (.int .i64 (n : Int)) (.int .i64 (n : Int))).run Try.prog W = .ok (.slice (some ⟨W.heap.size, 0, none⟩) n n) (W.alloc (.cells (scells (List.replicate n (0, false, 0, 0))).toArray 88)) := by
  obtain ⟨i1, hj, hy0, hy1, hy2⟩ := info_parts infoSl
  have h := run_makeSlice (P := Try.prog) W 31 88 i1 _ Try.underlying31 hj hy0 .i64 .i64 n n (by omega) (by omega) (by rw [hy1]; omega) (by rw [hy2]; omega) (by omega)
  rw [h, hy1, Int.toNat_natCast, ← made_slots]
  rfl

theorem made_own (n : Nat) (hn : n ≤ 40) (W : World) : (W.alloc (.cells (scells (List.replicate n (0, false, 0, 0))).toArray 88)).ownsRow W.heap.size 88 4 (.slice (some ⟨W.heap.size, 0, none⟩) n n) n (scells (List.replicate n (0, false, 0, 0))) := by
  have hlen : (scells (List.replicate n ((0 : Int), false, (0 : Int), (0 : Int)))).length = n * 4 := by rw [scells_len]; simp
  refine ⟨hlen, .inr ⟨W.heap.size, n, _, rfl, Nat.le_refl _, heap_alloc_new W _, Nat.le_refl _, by unfold maxLen; omega, by simp [hlen], ?_⟩⟩
  simp
  exact List.take_of_length_le (by omega)

set_option maxHeartbeats 2000000 in
set_option maxRecDepth 100000 in
theorem make_any (n : Int) (w : World) : Calls Try.prog 17 #[.int .i64 n] w (TabRes (makeOut n).1 (makeOut n).2 w) := by
  have hB0 := heap_alloc_new w (.cells #[.slice none 0 0] 33)
  by_cases h : 1 ≤ n ∧ n ≤ 40
  · have hout : makeOut n = (List.replicate n.toNat (0, false, 0, 0), 0) := by unfold makeOut; rw [if_pos h]
    obtain ⟨h1, h2⟩ := h
    obtain ⟨k, rfl⟩ := Int.eq_ofNat_of_zero_le (a := n) (by omega)
    rw [Int.toNat_natCast] at hout
    have hr := made_run k (by omega) (w.alloc (.cells #[.slice none 0 0] 33))
    have ho := made_own k (by omega) (w.alloc (.cells #[.slice none 0 0] 33))
    have hs : (w.alloc (.cells #[.slice none 0 0] 33)).heap.size = w.heap.size + 1 := by simp
    rw [hs] at hr ho
    obtain ⟨Z, hZ⟩ : ∃ Z, Z = (scells (List.replicate k ((0 : Int), false, (0 : Int), (0 : Int)))).toArray := ⟨_, rfl⟩
    rw [← hZ] at hr ho
    obtain ⟨W1, hW1⟩ : ∃ W1, W1 = (w.alloc (.cells #[.slice none 0 0] 33)).alloc (.cells Z 88) := ⟨_, rfl⟩
    rw [← hW1] at hr ho
    have hR1 : W1.heap[w.heap.size]? = some (.cells #[.slice none 0 0] 33 (0, 0)) := by rw [hW1]; exact heap_old _ _ hB0
    have hb1 : Below w.heap.size w W1 := by rw [hW1]; exact ((Below.refl _ _).alloc (Nat.le_refl _) _).alloc (by simp) _
    have r1 := one_cell hR1
    have rf : W1.frozen? ⟨w.heap.size, 0, none⟩ = false := by simp [World.frozen?, hR1]
    have ho' : (W1.setCell ⟨w.heap.size, 0, none⟩ (.slice (some ⟨w.heap.size + 1, 0, none⟩) k k)).ownsRow w.heap.size 88 4 (.slice (some ⟨w.heap.size + 1, 0, none⟩) k k) k (scells (List.replicate k (0, false, 0, 0))) :=
      (own_block ho (fun g hg => Below.heap_setCell _ _ _ _ (by have := (ho.lt g hg).1; simp; omega))).mono (by omega)
    have HH : Hid (_ ∧ _ ∧ _ ∧ _) := ⟨one_set (v := .slice (some ⟨w.heap.size + 1, 0, none⟩) k k) hR1, ho', (show Below w.heap.size w (W1.setCell ⟨w.heap.size, 0, none⟩ (.slice (some ⟨w.heap.size + 1, 0, none⟩) k k)) from hb1.setCell (by simp) _), hout⟩
    clear hR1 ho' hb1 hout ho hs hZ hW1 hB0
    go_enter Try.func17, Try.ntmps17
    go_wp2
    refine bodyPost_ret (v := .tuple #[.agg #[.slice (some ⟨w.heap.size + 1, 0, none⟩) k k], .int .i64 0]) (results_ct Try.results17 rfl rfl (load_row (P := Try.prog) (cs := [.slice (some ⟨w.heap.size + 1, 0, none⟩) k k]) HH.out.1 Try.underlying33 rfl (by kernel_rfl))) rfl ?_
    rw [HH.out.2.2.2]
    refine ⟨some ⟨w.heap.size + 1, 0, none⟩, k, ?_, ?_, HH.out.2.2.1⟩
    · simp
    · simpa using HH.out.2.1
  · have hout : makeOut n = ([], 2) := by unfold makeOut; rw [if_neg h]
    have HH : Hid (_ ∧ _) := ⟨hout, hB0⟩
    have hc : n < 1 ∨ (1 ≤ n ∧ 40 < n) := by omega
    clear h hout hB0
    rcases hc with hc | ⟨hc, hd⟩
    all_goals
      go_enter Try.func17, Try.ntmps17
      go_wp2
      refine bodyPost_ret (v := .tuple #[.agg #[.slice none 0 0], .int .i64 2]) (results_ct Try.results17 rfl rfl (load_row (P := Try.prog) (cs := [.slice none 0 0]) HH.out.2 Try.underlying33 rfl (by kernel_rfl))) rfl ?_
      rw [HH.out.1]
      exact ⟨none, 0, rfl, World.ownsRow_nil _ _ _ _, below_newC w⟩

end

section
def mineB (bk : Int) (t : Sl) : Bool := t.2.1 && (t.2.2.2 == bk)

end

section
def IntsAt (w : World) (v : Value) (a : List Int) : Prop := RowAt w v a.length (icells a)

theorem IntsAt.below {w w' : World} {v : Value} {l : List Int} (h : IntsAt w v l) (hb : Below w.heap.size w w') : IntsAt w' v l := RowAt.below h hb

theorem icells_at (a : List Int) (i : Nat) (h : i < a.length) : (icells a)[i]? = some (.int .i64 a[i]) := by
  unfold icells
  rw [List.getElem?_map, List.getElem?_eq_getElem h]
  rfl

theorem IntsAt.parts {w : World} {v : Value} {l : List Int} (h : IntsAt w v l) :
    ∃ a cap, v = .slice a l.length cap ∧ l.length ≤ cap ∧ cap ≤ maxLen ∧ ∀ i (hi : i < l.length), ∃ b off, a = some ⟨b, off, none⟩ ∧ b < w.heap.size ∧ w.cell? ⟨b, off + i, none⟩ = some (.int .i64 l[i]) := by
  obtain ⟨a, cap, hv, hc, hm, h1 | ⟨b, off, h1, h2, h3⟩⟩ := h
  · exact ⟨a, cap, hv, hc, hm, fun i hi => absurd hi (by omega)⟩
  · refine ⟨a, cap, hv, hc, hm, fun i hi => ⟨b, off, h1, h2, ?_⟩⟩
    rw [h3 i (by rw [icells_len]; exact hi)]
    exact icells_at l i hi

end

section
abbrev En := Tm × Bool × Int

def owns (b : Int) (e : En) : Bool := e.2.1 && (e.2.2 == b)

def EnOk (T : List Sl) (e : En) : Prop := ∃ (s : Nat) (t : Sl), e.1.1 = (s : Int) ∧ T[s]? = some t ∧ (e.2.1 = true → t.2.1 = true ∧ t.1 = e.1.2 ∧ t.2.2.2 = e.2.2) ∧ (e.2.1 = false → e.1.2 < t.1)

structure Inv (i : Nat) (T : List Sl) (E : List En) : Prop where
  ok : TabOk T
  gens : ∀ t ∈ T, t.1 ≤ i
  each : ∀ e ∈ E, EnOk T e
  once : (E.map (·.1)).Nodup
  cnt : ∀ b, T.countP (mineB b) = E.countP (owns b)
  few : E.length ≤ i

theorem Inv.mono {i j : Nat} {T : List Sl} {E : List En} (h : Inv i T E) (hij : i ≤ j) : Inv j T E :=
  ⟨h.ok, fun t ht => by have := h.gens t ht; omega, h.each, h.once, h.cnt, by have := h.few; omega⟩

end

section
def bcells (l : List Bool) : List Value := l.map Value.bool

def hsE (E : List En) : List Tm := E.map fun e => e.1

def gdE (E : List En) : List Bool := E.map fun e => e.2.1

def atE (E : List En) : List Int := E.map fun e => e.2.2

def Apart (a b : Option Nat) : Prop := ∀ g, a = some g → b ≠ some g

theorem Apart.symm {a b : Option Nat} (h : Apart a b) : Apart b a := fun g hb ha => h g ha hb

structure Rws (B g9 : Nat) (vT vH vG vA : Value) (T : List Sl) (E : List En) (w : World) : Prop where
  box : w.heap[g9]? = some (.cells #[vT] 33 (0, 0))
  rT : w.ownsRow B 88 4 vT T.length (scells T)
  rH : w.ownsRow B 73 2 vH E.length (tcells (hsE E))
  rG : w.ownsRow B 4 1 vG E.length (bcells (gdE E))
  rA : w.ownsRow B 3 1 vA E.length (icells (atE E))
  dT : Apart vT.ownBlock (some g9)
  dH : Apart vH.ownBlock (some g9)
  dG : Apart vG.ownBlock (some g9)
  dA : Apart vA.ownBlock (some g9)
  dTH : Apart vT.ownBlock vH.ownBlock
  dTG : Apart vT.ownBlock vG.ownBlock
  dTA : Apart vT.ownBlock vA.ownBlock
  dHG : Apart vH.ownBlock vG.ownBlock
  dHA : Apart vH.ownBlock vA.ownBlock
  dGA : Apart vG.ownBlock vA.ownBlock
  big : B ≤ w.heap.size

section

variable {B g9 : Nat} {vT vH vG vA : Value} {T : List Sl} {E : List En} {w w' : World}

theorem Rws.lt (h : Rws B g9 vT vH vG vA T E w) : g9 < w.heap.size := (Array.getElem?_eq_some_iff.1 h.box).1

theorem Rws.below (h : Rws B g9 vT vH vG vA T E w) (hb : Below w.heap.size w w') : Rws B g9 vT vH vG vA T E w' :=
  ⟨box_below h.box hb, own_grownW h.rT hb, own_grownW h.rH hb, own_grownW h.rG hb, own_grownW h.rA hb, h.dT, h.dH, h.dG, h.dA, h.dTH, h.dTG, h.dTA, h.dHG, h.dHA, h.dGA, Nat.le_trans h.big hb.size⟩

end

section

variable {B g9 : Nat} {vT vH vG vA : Value} {T : List Sl} {E : List En} {w w' : World}

end

end

section
abbrev St := Int × Int × Int

def qcells : List St → List Value
  | [] => []
  | t :: l => .int .i64 t.1 :: .int .i64 t.2.1 :: .int .i64 t.2.2 :: qcells l

theorem qcells_len : ∀ l : List St, (qcells l).length = l.length * 3
  | [] => rfl
  | t :: l => by simp [qcells, qcells_len l]; omega

theorem qcells_at : ∀ (l : List St) (i : Nat) (h : i < l.length), (qcells l)[i * 3]? = some (.int .i64 l[i].1) ∧ (qcells l)[i * 3 + 1]? = some (.int .i64 l[i].2.1) ∧ (qcells l)[i * 3 + 2]? = some (.int .i64 l[i].2.2)
  | t :: l, 0, _ => by simp [qcells]
  | t :: l, i + 1, h => by
    have h2 := qcells_at l i (by simpa using h)
    rw [show (i + 1) * 3 = i * 3 + 1 + 1 + 1 by omega]
    simpa [qcells] using h2

def StAt (w : World) (v : Value) (l : List St) : Prop := RowAt w v l.length (qcells l)

theorem StAt.below {w w' : World} {v : Value} {l : List St} (h : StAt w v l) (hb : Below w.heap.size w w') : StAt w' v l := RowAt.below h hb

theorem StAt.parts {w : World} {v : Value} {l : List St} (h : StAt w v l) :
    ∃ a cap, v = .slice a l.length cap ∧ l.length ≤ cap ∧ cap ≤ maxLen ∧ ∀ i (hi : i < l.length), ∃ b off, a = some ⟨b, off, none⟩ ∧ b < w.heap.size ∧ w.cell? ⟨b, off + i * 3, none⟩ = some (.int .i64 l[i].1) ∧ w.cell? ⟨b, off + i * 3 + 1, none⟩ = some (.int .i64 l[i].2.1) ∧ w.cell? ⟨b, off + i * 3 + 2, none⟩ = some (.int .i64 l[i].2.2) := by
  obtain ⟨a, cap, hv, hc, hm, h1 | ⟨b, off, h1, h2, h3⟩⟩ := h
  · exact ⟨a, cap, hv, hc, hm, fun i hi => absurd hi (by omega)⟩
  · refine ⟨a, cap, hv, hc, hm, fun i hi => ⟨b, off, h1, h2, ?_, ?_, ?_⟩⟩
    · rw [h3 (i * 3) (by rw [qcells_len]; omega)]; exact (qcells_at l i hi).1
    · rw [Nat.add_assoc, h3 (i * 3 + 1) (by rw [qcells_len]; omega)]; exact (qcells_at l i hi).2.1
    · rw [Nat.add_assoc, h3 (i * 3 + 2) (by rw [qcells_len]; omega)]; exact (qcells_at l i hi).2.2

end

section
def Sits (w : World) (g9 N : Nat) (k : Nat) (qT pH pG pA : Option Addr) (dT cH cG cA : Nat) (T : List Sl) (E : List En) (wr : World) : Prop :=
  Inv k T E ∧ T.length = N ∧ Rws (w.heap.size + 1) g9 (.slice qT N dT) (.slice pH E.length cH) (.slice pG E.length cG) (.slice pA E.length cA) T E wr ∧ wr.heap[w.heap.size]? = some (.cells #[.slice none 0 0] 33 (0, 0)) ∧ Below w.heap.size w wr

theorem Sits.lt {w : World} {g9 N k : Nat} {qT pH pG pA : Option Addr} {dT cH cG cA : Nat} {T : List Sl} {E : List En} {wr : World} (h : Sits w g9 N k qT pH pG pA dT cH cG cA T E wr) : w.heap.size < wr.heap.size := (Array.getElem?_eq_some_iff.1 h.2.2.2.1).1

end

section
def Reads (pH pG pA : Option Addr) (E : List En) (w : World) : Prop :=
  ∀ k (hk : k < E.length), ∃ bH oH bG oG bA oA, pH = some ⟨bH, oH, none⟩ ∧ pG = some ⟨bG, oG, none⟩ ∧ pA = some ⟨bA, oA, none⟩ ∧ bH < w.heap.size ∧ bG < w.heap.size ∧ bA < w.heap.size ∧
    w.cell? ⟨bH, oH + k * 2, none⟩ = some (.int .i64 E[k].1.1) ∧ w.cell? ⟨bH, oH + k * 2 + 1, none⟩ = some (.int .i64 E[k].1.2) ∧ w.cell? ⟨bG, oG + k, none⟩ = some (.bool E[k].2.1) ∧ w.cell? ⟨bA, oA + k, none⟩ = some (.int .i64 E[k].2.2)

theorem Reads.below {pH pG pA : Option Addr} {E : List En} {w w' : World} (h : Reads pH pG pA E w) (hb : Below w.heap.size w w') : Reads pH pG pA E w' := fun k hk => by
  obtain ⟨bH, oH, bG, oG, bA, oA, e1, e2, e3, l1, l2, l3, c1, c2, c3, c4⟩ := h k hk
  exact ⟨bH, oH, bG, oG, bA, oA, e1, e2, e3, Nat.lt_of_lt_of_le l1 hb.size, Nat.lt_of_lt_of_le l2 hb.size, Nat.lt_of_lt_of_le l3 hb.size, (hb.cell (p := ⟨bH, oH + k * 2, none⟩) l1).trans c1, (hb.cell (p := ⟨bH, oH + k * 2 + 1, none⟩) l1).trans c2, (hb.cell (p := ⟨bG, oG + k, none⟩) l2).trans c3, (hb.cell (p := ⟨bA, oA + k, none⟩) l3).trans c4⟩

def Left (T : List Sl) (E : List En) (pT pH pG pA : Option Addr) (cT cH cG cA : Nat) (w : World) : Prop :=
  Inv 30 T E ∧ (T.length ≤ 6 ∧ E.length ≤ 30) ∧ SlAt w (.slice pT T.length cT) T ∧ Reads pH pG pA E w ∧ (E.length ≤ cH ∧ cH ≤ 9223372036854775807 ∧ E.length ≤ cG ∧ cG ≤ 9223372036854775807 ∧ E.length ≤ cA ∧ cA ≤ 9223372036854775807 ∧ T.length ≤ cT ∧ cT ≤ 9223372036854775807)

theorem Left.below {T : List Sl} {E : List En} {pT pH pG pA : Option Addr} {cT cH cG cA : Nat} {w w' : World} (h : Left T E pT pH pG pA cT cH cG cA w) (hb : Below w.heap.size w w') : Left T E pT pH pG pA cT cH cG cA w' :=
  ⟨h.1, h.2.1, h.2.2.1.below hb, h.2.2.2.1.below hb, h.2.2.2.2⟩

end

end Go.Proofs.Ytbabcpdcgncigaa.Tb
