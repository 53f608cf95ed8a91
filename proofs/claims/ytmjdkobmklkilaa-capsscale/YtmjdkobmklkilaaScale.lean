/-
  CapsScale: a fraction that is written otherwise, and weights that are all doubled, make the same caps. Condition: the raw numbers can be read.
-/
import Derived.Test.YtmjdkobmklkilaaParts
import Derived.Test.YtmjdkobmklkilaaLone
import Derived.WalkKit
import Derived.ProofKit
import Derived.Handy
import Derived.LoopTactic
import Derived.Below
import Derived.Laws.BitsAllLaws
import Derived.RegionTactic
import Derived.Deep.RegionHeld3
import Derived.Deep.DrawnRows
import Derived.Deep.AppendLies
import Derived.Laws.OwnMore
import Derived.Deep.Onto
import Derived.Deep.QuietTactic
import Derived.BigQuiet
namespace Go.Proofs.Ytmjdkobmklkilaa.Walks
open Go.RowKit
set_option linter.unusedVariables false
set_option linter.unusedSimpArgs false
attribute [local go_sem ↓] Go.wp_at_zero Go.wp_at_succ

def halfL (l : List Ld) : List Ld := l.map fun x => (x.1, x.2.1 / 2, x.2.2)
def twiceL (l : List Ld) : List Ld := l.map fun x => (x.1, 2 * (x.2.1 / 2), x.2.2)

theorem okFrom_map (f : Int → Int) (hf : ∀ x, 0 ≤ x → x ≤ 8 → 0 ≤ f x ∧ f x ≤ 8) : ∀ (n : Int) (l : List Ld), okFrom n l → okFrom n (l.map fun x => (x.1, f x.2.1, x.2.2))
  | _, [], _ => rfl
  | _, x :: l, h => by
    have h := okFrom_cons.1 h
    exact okFrom_cons.2 ⟨⟨h.1.1, h.1.2.1, hf _ h.1.2.2.1.1 h.1.2.2.1.2, h.1.2.2.2⟩, okFrom_map f hf _ l h.2⟩

theorem half_ok {l : List Ld} (h : LOk l) : LOk (halfL l) := ⟨by simpa [halfL] using h.1, okFrom_map (· / 2) (fun x h1 h2 => by show 0 ≤ x / 2 ∧ x / 2 ≤ 8; omega) 0 l h.2⟩
theorem twice_ok {l : List Ld} (h : LOk l) : LOk (twiceL l) := ⟨by simpa [twiceL] using h.1, okFrom_map (fun x => 2 * (x / 2)) (fun x h1 h2 => by show 0 ≤ 2 * (x / 2) ∧ 2 * (x / 2) ≤ 8; omega) 0 l h.2⟩

theorem tot_twice (l : List Ld) : tot (twiceL l) = 2 * tot (halfL l) := by
  induction l with
  | nil => simp [tot, twiceL, halfL]
  | cons x l ih =>
    simp [tot, twiceL, halfL] at ih ⊢
    omega

theorem capV_scale {a b c d e : Int} (h : Fits a b c d e) (h2 : Fits (2 * a) (2 * b) c (2 * d) (2 * e)) : capV a b c d e = capV (2 * a) (2 * b) c (2 * d) (2 * e) := by
  obtain ⟨l1, l2, _, _⟩ := capV_le h
  have e1 : 2 * a * (c + 1) * (2 * d) = 4 * (a * (c + 1) * d) := by
    rw [Int.mul_assoc 2 a, Int.mul_assoc 2 (a * (c + 1)), ← Int.mul_assoc (a * (c + 1)) 2 d, Int.mul_comm (a * (c + 1)) 2, Int.mul_assoc 2 (a * (c + 1)) d]
    omega
  have e2 : 2 * b * (2 * e) = 4 * (b * e) := by
    rw [Int.mul_assoc 2 b, ← Int.mul_assoc b 2 e, Int.mul_comm b 2, Int.mul_assoc 2 b e]
    omega
  refine capV_only h2 ?_ ?_
  · rw [e1, e2, Int.mul_left_comm (capV a b c d e) 4]
    omega
  · rw [e1, e2, Int.mul_left_comm (capV a b c d e - 1) 4]
    omega

theorem caps_scale {l : List Ld} {a b c : Int} (hok : LOk l) (hf : Fac a b c) (hf2 : Fac (2 * a) (2 * b) c) : capsL (2 * a) (2 * b) c (twiceL l) = capsL a b c (halfL l) := by
  have hf1 := fun x hx => fits_of (half_ok hok) hf (x := x) hx
  have hf3 := fun x hx => fits_of (twice_ok hok) hf2 (x := x) hx
  rw [tot_twice] at hf3
  unfold capsL
  rw [tot_twice]
  generalize tot (halfL l) = t at *
  unfold halfL twiceL at *
  rw [List.map_map, List.map_map]
  refine List.map_congr_left fun x hx => ?_
  have g1 := hf1 _ (List.mem_map.2 ⟨x, hx, rfl⟩)
  have g3 := hf3 _ (List.mem_map.2 ⟨x, hx, rfl⟩)
  simp only [Function.comp, capE] at g1 g3 ⊢
  by_cases h0 : x.2.1 / 2 = 0
  · rw [if_pos (by omega), if_pos h0]
  · rw [if_neg (by omega), if_neg h0]
    exact (capV_scale (g1 h0) (g3 (by omega))).symm

/-- Two rows of loads in blocks of their own. -/
def Two (B : Nat) (p : Option Addr) (c k : Nat) (l : List Ld) (q : Option Addr) (d j : Nat) (m : List Ld) (w : World) : Prop :=
  w.ownsRow B 39 3 (.slice p k c) k (lcells l) ∧ w.ownsRow B 39 3 (.slice q j d) j (lcells m) ∧ ∀ g, (Value.slice p k c).ownBlock = some g → (Value.slice q j d).ownBlock ≠ some g

/-- One load more in one of them: the run. -/
theorem append_two {w : World} {B : Nat} {p : Option Addr} {k c : Nat} {l m : List Ld} {q : Option Addr} {d j : Nat} (h : Two B p c k l q d j m w) (hb : B ≤ w.heap.size) (hk : k ≤ 1000) (ty : TypeId) (x1 x2 x3 : Int) :
    ∃ p' c' w', (Builtin.append_ #[26, 26] ty #[.slice p k c, .slice (some ⟨w.heap.size, 0, none⟩) 1 1]).run Try.prog (w.alloc (.cells #[.int .i64 x1, .int .i64 x2, .int .i64 x3] 39)) = .ok (.slice p' (k + 1) c') w' ∧
      Two B p' c' (k + 1) (l ++ [(x1, x2, x3)]) q d j m w' ∧ Below B w w' ∧ (∀ g, g < w.heap.size → (Value.slice p k c).ownBlock ≠ some g → w'.heap[g]? = w.heap[g]?) ∧ w.heap.size < w'.heap.size ∧ (∀ g, (Value.slice p' (k + 1) c').ownBlock = some g → (Value.slice p k c).ownBlock = some g ∨ w.heap.size ≤ g) := by
  obtain ⟨ho, hm, hd⟩ := h
  obtain ⟨i0, hi, hz0, hz1, hz2⟩ := info_parts infoLd
  have hn := news_at w (lcells [(x1, x2, x3)]) 39
  obtain ⟨g, cap, w', hr, ho', hg, hlies, hlt⟩ := run_append_lies (P := Try.prog) (w.alloc (.cells #[.int .i64 x1, .int .i64 x2, .int .i64 x3] 39)) 26 ty B 39 i0 _ 3 24 Try.underlying26 hi hz0 hz1 hz2 rfl (by decide) (.slice p k c) k (lcells l) (ho.alloc _) ⟨w.heap.size, 0, none⟩ 1 1 (lcells [(x1, x2, x3)]) rfl hn (lcells_one _) (by decide) (by unfold maxLen; omega) (by omega) (by simp; omega) _ rfl
  rw [← lcells_append] at ho'
  have hold : ∀ g, g < w.heap.size → (Value.slice p k c).ownBlock ≠ some g → w'.heap[g]? = w.heap[g]? := fun g h1 h2 => (hg.block g (by simp; omega) (fun e => h2 e.symm)).trans (Below.heap_alloc _ _ _ h1)
  have hsz : w.heap.size < w'.heap.size := by have := hg.size; simp at this; omega
  refine ⟨_, cap, w', hr, ⟨ho', own_block hm fun g' hg' => ?_, fun g' hg' hq => ?_⟩, ?_, hold, hsz, fun g' hg' => ?_⟩
  · exact hold g' (hm.lt g' hg').2 fun e => hd g' e hg'
  · have e : g = g' := by simpa [Value.ownBlock] using hg'
    subst e
    rcases hlies with h1 | h1
    · exact hd g h1 hq
    · have := (hm.lt g hq).2
      simp at h1
      omega
  · exact ((Below.refl _ _).alloc hb _).grown hg (by simp; omega) (fun j e => (ho.lt j e).1)
  · have e : g = g' := by simpa [Value.ownBlock] using hg'
    subst e
    rcases hlies with h1 | h1
    · exact .inl h1
    · right
      simp at h1
      omega

theorem Two.swap {B : Nat} {p : Option Addr} {c : Nat} {l : List Ld} {q : Option Addr} {d : Nat} {m : List Ld} {w : World} {k j : Nat} (h : Two B p c k l q d j m w) : Two B q d j m p c k l w :=
  ⟨h.2.1, h.1, fun g hq hp => h.2.2 g hp hq⟩

theorem Two.keep {B : Nat} {p : Option Addr} {c : Nat} {l : List Ld} {q : Option Addr} {d : Nat} {m : List Ld} {w w' : World} {k j : Nat} (h : Two B p c k l q d j m w) (h1 : ∀ g, (Value.slice p k c).ownBlock = some g → w'.heap[g]? = w.heap[g]?) (h2 : ∀ g, (Value.slice q j d).ownBlock = some g → w'.heap[g]? = w.heap[g]?) : Two B p c k l q d j m w' :=
  ⟨own_block h.1 h1, own_block h.2.1 h2, h.2.2⟩

theorem Two.alloc {B : Nat} {p : Option Addr} {c : Nat} {l : List Ld} {q : Option Addr} {d : Nat} {m : List Ld} {w : World} {k j : Nat} (h : Two B p c k l q d j m w) (o : Obj) : Two B p c k l q d j m (w.alloc o) :=
  ⟨h.1.alloc o, h.2.1.alloc o, h.2.2⟩

/-- A round: half a load, then its double. -/
theorem both {wr : World} {B : Nat} {p : Option Addr} {k c : Nat} {l m : List Ld} {q : Option Addr} {d : Nat} (h : Two B p c k l q d k m wr) (hb : B ≤ wr.heap.size) (hk : k ≤ 1000) (x1 y x3 z : Int) :
    ∃ p' c' w', (Builtin.append_ #[26, 26] 26 #[.slice p k c, .slice (some ⟨wr.heap.size + 1, 0, none⟩) 1 1]).run Try.prog ((wr.alloc (.cells #[.int .i64 x1, .int .i64 y, .int .i64 x3] 39)).alloc (.cells #[.int .i64 x1, .int .i64 y, .int .i64 x3] 39)) = .ok (.slice p' (k + 1) c') w' ∧
      w'.heap[wr.heap.size]? = some (.cells #[.int .i64 x1, .int .i64 y, .int .i64 x3] 39 (0, 0)) ∧
    ∃ q' d' w2, (Builtin.append_ #[26, 26] 26 #[.slice q k d, .slice (some ⟨w'.heap.size, 0, none⟩) 1 1]).run Try.prog ((w'.setCell ⟨wr.heap.size, 1, none⟩ (.int .i64 z)).alloc (.cells #[.int .i64 x1, .int .i64 z, .int .i64 x3] 39)) = .ok (.slice q' (k + 1) d') w2 ∧
      Two B p' c' (k + 1) (l ++ [(x1, y, x3)]) q' d' (k + 1) (m ++ [(x1, z, x3)]) w2 ∧ Below B wr w2 := by
  have h0 := h.alloc (.cells #[.int .i64 x1, .int .i64 y, .int .i64 x3] 39)
  obtain ⟨p', c', w', r1, t1, b1, s1, z1, l1⟩ := append_two h0 (by simp; omega) hk 26 x1 y x3
  have hsz : (wr.alloc (.cells #[.int .i64 x1, .int .i64 y, .int .i64 x3] 39)).heap.size = wr.heap.size + 1 := by simp
  rw [hsz] at r1 s1 z1 l1
  have hp : ∀ g, (Value.slice p k c).ownBlock = some g → g < wr.heap.size := fun g hg => (h.1.lt g hg).2
  have hq : ∀ g, (Value.slice q k d).ownBlock = some g → g < wr.heap.size := fun g hg => (h.2.1.lt g hg).2
  have hbox : w'.heap[wr.heap.size]? = some (.cells #[.int .i64 x1, .int .i64 y, .int .i64 x3] 39 (0, 0)) :=
    (s1 wr.heap.size (by omega) (fun e => by have := hp _ e; omega)).trans (heap_alloc_new wr _)
  have t2 : Two B p' c' (k + 1) (l ++ [(x1, y, x3)]) q d k m (w'.setCell ⟨wr.heap.size, 1, none⟩ (.int .i64 z)) := by
    refine t1.keep (fun g hg => Below.heap_setCell _ _ _ _ ?_) (fun g hg => Below.heap_setCell _ _ _ _ ?_)
    · rcases l1 g hg with e | e
      · have := hp g e
        simp
        omega
      · simp
        omega
    · have := hq g hg
      simp
      omega
  obtain ⟨q', d', w2, r2, t3, b2, _, _, _⟩ := append_two t2.swap (by have := b1.size; simp at this ⊢; omega) hk 26 x1 z x3
  have hs2 : (w'.setCell ⟨wr.heap.size, 1, none⟩ (.int .i64 z)).heap.size = w'.heap.size := by simp
  rw [hs2] at r2
  refine ⟨p', c', w', r1, hbox, q', d', w2, r2, t3.swap, ?_⟩
  have hb0 : Below B wr (wr.alloc (.cells #[.int .i64 x1, .int .i64 y, .int .i64 x3] 39)) := (Below.refl _ _).alloc hb _
  exact ((hb0.trans b1).setCell (by exact hb) _).trans b2
end Go.Proofs.Ytmjdkobmklkilaa.Walks
