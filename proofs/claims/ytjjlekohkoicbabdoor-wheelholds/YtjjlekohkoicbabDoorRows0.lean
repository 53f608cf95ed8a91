/-
  Rows of cells that can be read: a list of timers, a list of such lists, a wheel; and when two lists of timers, and two wheels, are the same. No condition but that what is compared can be read.
-/
import Derived.Test.YtjjlekohkoicbabDoorRows
import Derived.Test.YtjjlekohkoicbabDoorChecked
import Derived.WalkKit
import Derived.ProofKit
import Derived.Handy
import Derived.LoopTactic
import Derived.Below
import Derived.Laws.BitsAllLaws
import Derived.RegionTactic
import Derived.Deep.RegionHeld3
import Derived.Deep.DrawnRows
import Derived.Deep.AppendLies
import Derived.Laws.OwnMore
import Derived.Deep.Onto
import Derived.Deep.QuietTactic
import Derived.BigQuiet
namespace Go.Proofs.YtjjlekohkoicbabDoor.Walks
open Go.RowKit
set_option linter.unusedVariables false
set_option linter.unusedSimpArgs false
attribute [local go_sem ↓] Go.wp_at_zero Go.wp_at_succ

/-- A timer: its tick, its number. -/
abbrev Tm := Int × Int

def tcells : List Tm → List Value
  | [] => []
  | t :: l => .int .i64 t.1 :: .int .i64 t.2 :: tcells l

theorem tcells_len : ∀ l : List Tm, (tcells l).length = l.length * 2
  | [] => rfl
  | t :: l => by simp [tcells, tcells_len l]; omega

theorem tcells_append : ∀ l m : List Tm, tcells (l ++ m) = tcells l ++ tcells m
  | [], _ => rfl
  | t :: l, m => by simp [tcells, tcells_append l m]

theorem tcells_at : ∀ (l : List Tm) (i : Nat) (h : i < l.length), (tcells l)[i * 2]? = some (.int .i64 l[i].1) ∧ (tcells l)[i * 2 + 1]? = some (.int .i64 l[i].2)
  | t :: l, 0, _ => by simp [tcells]
  | t :: l, i + 1, h => by
    have h2 := tcells_at l i (by simpa using h)
    rw [show (i + 1) * 2 = i * 2 + 1 + 1 by omega]
    simpa [tcells] using h2

/-- A slice that can be read: how many elements, and the cells that they take. -/
def RowAt (w : World) (v : Value) (n : Nat) (xs : List Value) : Prop :=
  ∃ a cap, v = .slice a n cap ∧ n ≤ cap ∧ cap ≤ maxLen ∧ (n = 0 ∧ xs = [] ∨ ∃ b off, a = some ⟨b, off, none⟩ ∧ b < w.heap.size ∧ ∀ i, i < xs.length → w.cell? ⟨b, off + i, none⟩ = xs[i]?)

theorem RowAt.below {w w' : World} {v : Value} {n : Nat} {xs : List Value} (h : RowAt w v n xs) (hb : Below w.heap.size w w') : RowAt w' v n xs := by
  obtain ⟨a, cap, hv, hc, hm, h1 | ⟨b, off, h1, h2, h3⟩⟩ := h
  · exact ⟨a, cap, hv, hc, hm, .inl h1⟩
  · exact ⟨a, cap, hv, hc, hm, .inr ⟨b, off, h1, Nat.lt_of_lt_of_le h2 hb.size, fun i hi => by rw [hb.cell (p := ⟨b, off + i, none⟩) h2]; exact h3 i hi⟩⟩

theorem rowAt_nil (w : World) : RowAt w (.slice none 0 0) 0 [] := ⟨none, 0, rfl, Nat.le_refl _, by unfold maxLen; omega, .inl ⟨rfl, rfl⟩⟩

theorem rowAt_own {w : World} {base : Nat} {e : TypeId} {k : Nat} {v : Value} {n : Nat} {xs : List Value} (h : w.ownsRow base e k v n xs) : RowAt w v n xs := by
  obtain ⟨hl, ⟨rfl, rfl⟩ | ⟨g, cap, cur, rfl, hb, hg, hn, hm, hs, ht⟩⟩ := h
  · obtain rfl : xs = [] := List.length_eq_zero_iff.1 (by simpa using hl)
    exact rowAt_nil w
  · refine ⟨_, cap, rfl, hn, hm, .inr ⟨g, 0, rfl, ?_, fun i hi => ?_⟩⟩
    · rcases Nat.lt_or_ge g w.heap.size with hlt | hge
      · exact hlt
      · rw [Array.getElem?_eq_none hge] at hg; cases hg
    · rw [← ht, List.getElem?_take_of_lt (by omega)]
      simp only [World.cell?, hg, Nat.zero_add]
      simp

def TmAt (w : World) (v : Value) (l : List Tm) : Prop := RowAt w v l.length (tcells l)

theorem TmAt.below {w w' : World} {v : Value} {l : List Tm} (h : TmAt w v l) (hb : Below w.heap.size w w') : TmAt w' v l := RowAt.below h hb

theorem TmAt.parts {w : World} {v : Value} {l : List Tm} (h : TmAt w v l) :
    ∃ a cap, v = .slice a l.length cap ∧ l.length ≤ cap ∧ cap ≤ maxLen ∧ ∀ i (hi : i < l.length), ∃ b off, a = some ⟨b, off, none⟩ ∧ b < w.heap.size ∧ w.cell? ⟨b, off + i * 2, none⟩ = some (.int .i64 l[i].1) ∧ w.cell? ⟨b, off + i * 2 + 1, none⟩ = some (.int .i64 l[i].2) := by
  obtain ⟨a, cap, hv, hc, hm, h1 | ⟨b, off, h1, h2, h3⟩⟩ := h
  · exact ⟨a, cap, hv, hc, hm, fun i hi => absurd hi (by omega)⟩
  · refine ⟨a, cap, hv, hc, hm, fun i hi => ⟨b, off, h1, h2, ?_, ?_⟩⟩
    · rw [h3 (i * 2) (by rw [tcells_len]; omega)]; exact (tcells_at l i hi).1
    · rw [Nat.add_assoc, h3 (i * 2 + 1) (by rw [tcells_len]; omega)]; exact (tcells_at l i hi).2

theorem unlike_pair (a b c d : Int) : (a = c ∧ b = d) ∨ ((a == c) = false ∨ a = c ∧ (b == d) = false) := by
  simp only [beq_eq_false_iff_ne]
  by_cases h : a = c <;> by_cases h' : b = d <;> simp [h, h']

/-- Two lists, each with its own. -/
def Each {α β : Type} (R : α → β → Prop) (l : List α) (m : List β) : Prop := l.length = m.length ∧ ∀ i (h1 : i < l.length) (h2 : i < m.length), R l[i] m[i]

/-- A slice of such lists. -/
def LsAt (w : World) (v : Value) (ls : List (List Tm)) : Prop := ∃ vs, RowAt w v ls.length vs ∧ Each (TmAt w) vs ls

theorem Each.mono {α β : Type} {R S : α → β → Prop} (hRS : ∀ a b, R a b → S a b) {l : List α} {m : List β} (h : Each R l m) : Each S l m := ⟨h.1, fun i h1 h2 => hRS _ _ (h.2 i h1 h2)⟩

theorem LsAt.below {w w' : World} {v : Value} {ls : List (List Tm)} (h : LsAt w v ls) (hb : Below w.heap.size w w') : LsAt w' v ls := by
  obtain ⟨vs, h1, h2⟩ := h
  exact ⟨vs, h1.below hb, h2.mono (fun _ _ h => h.below hb)⟩

theorem LsAt.parts {w : World} {v : Value} {ls : List (List Tm)} (h : LsAt w v ls) :
    ∃ a cap, v = .slice a ls.length cap ∧ ls.length ≤ cap ∧ cap ≤ maxLen ∧ ∀ i (hi : i < ls.length), ∃ b off u, a = some ⟨b, off, none⟩ ∧ b < w.heap.size ∧ w.cell? ⟨b, off + i, none⟩ = some u ∧ TmAt w u ls[i] := by
  obtain ⟨vs, ⟨a, cap, hv, hc, hm, h1⟩, h2⟩ := h
  have hl := h2.1
  refine ⟨a, cap, hv, hc, hm, fun i hi => ?_⟩
  obtain ⟨h0, _⟩ | ⟨b, off, ha, hb, hcell⟩ := h1
  · omega
  · exact ⟨b, off, vs[i]'(by omega), ha, hb, by rw [hcell i (by omega)]; exact List.getElem?_eq_getElem _, h2.2 i (by omega) hi⟩

/-- A wheel that can be read. -/
def WhAt (w : World) (x : Value) (now : Int) (ls : List (List Tm)) : Prop := ∃ v, x = .agg #[.int .i64 now, v] ∧ LsAt w v ls

theorem WhAt.below {w w' : World} {x : Value} {now : Int} {ls : List (List Tm)} (h : WhAt w x now ls) (hb : Below w.heap.size w w') : WhAt w' x now ls := by
  obtain ⟨v, h1, h2⟩ := h
  exact ⟨v, h1, h2.below hb⟩

theorem below_drewN {B : Nat} {a w : World} (h : Below B a w) (n : Nat) : Below B a (w.drewN n) := h.trans ⟨rfl, rfl, rfl, Nat.le_refl _, fun _ _ => rfl⟩

theorem below_of {w w' : World} {B : Nat} (h : Below B w w') (hB : w.heap.size ≤ B) : Below w.heap.size w w' := h.mono hB

end Go.Proofs.YtjjlekohkoicbabDoor.Walks
