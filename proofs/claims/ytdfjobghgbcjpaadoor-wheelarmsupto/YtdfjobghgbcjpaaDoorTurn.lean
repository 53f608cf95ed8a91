/-
  A wheel at work: its box, its lists, its map of places. Laws of memory; and whether a number is there.
-/
import Derived.Test.YtdfjobghgbcjpaaDoorInsert
import Derived.Maps.OwnSet
import Derived.Maps.Views
import Derived.WalkKit
import Derived.ProofKit
import Derived.Handy
import Derived.LoopTactic
import Derived.Below
import Derived.Laws.BitsAllLaws
import Derived.RegionTactic
import Derived.Deep.RegionHeld3
import Derived.Deep.DrawnRows
import Derived.Deep.AppendLies
import Derived.Laws.OwnMore
import Derived.Deep.Onto
import Derived.Deep.QuietTactic
import Derived.BigQuiet
namespace Go.Proofs.YtdfjobghgbcjpaaDoor.Walks
open Go.RowKit
set_option linter.unusedVariables false
set_option linter.unusedSimpArgs false
attribute [local go_sem ↓] Go.wp_at_zero Go.wp_at_succ

open Go.Maps (Keyed int_keyed keyOf_int_mk)

theorem zero3 (W : World) : (zeroValue 3).run Tryd.prog W = .ok (.int .i64 0) W := by kernel_rfl

theorem law3 : Keyed Tryd.prog 3 := int_keyed Tryd.underlying3

/-- A map of places, as a function. -/
def MapAt (w : World) (b n : Nat) (f : Int → Option Int) : Prop :=
  ∃ D : DataW Unit, w.ownsMap Tryd.prog 3 (plainElem Tryd.prog 3) b n D ∧ ∀ id, (Lit.int .i64 id).wf = true → Maps.has D (.int .i64 id) = (f id).isSome ∧ ∀ x, f id = some x → D.atKey (.int .i64 id) (.lit (.int .i64 0)) = .lit (.int .i64 x)

theorem MapAt.keep {w w' : World} {b n : Nat} {f : Int → Option Int} (h : MapAt w b n f) (hb : w'.heap[b]? = w.heap[b]?) : MapAt w' b n f := by
  obtain ⟨D, ⟨es, clock, h1, h2⟩, h3⟩ := h
  exact ⟨D, ⟨es, clock, hb.trans h1, h2⟩, h3⟩

theorem MapAt.lt {w : World} {b n : Nat} {f : Int → Option Int} (h : MapAt w b n f) : b < w.heap.size := by
  obtain ⟨D, ⟨es, clock, h1, h2⟩, h3⟩ := h
  exact (Array.getElem?_eq_some_iff.1 h1).1

structure Turn (w : World) (base T B M n : Nat) (now : Int) (vs : List Value) (ls : List (List Tm)) (f : Int → Option Int) : Prop where
  box : w.heap[T]? = some (.cells #[.int .i64 now, .slice (some ⟨B, 0, none⟩) 25 25, .map (some M)] 41 (0, 0))
  own : OwnLs w base (.slice (some ⟨B, 0, none⟩) 25 25) vs ls
  map : MapAt w M n f
  offT : ∀ u ∈ Value.slice (some ⟨B, 0, none⟩) 25 25 :: vs, u.ownBlock ≠ some T
  offM : ∀ u ∈ Value.slice (some ⟨B, 0, none⟩) 25 25 :: vs, u.ownBlock ≠ some M
  hT : base ≤ T
  hM : base ≤ M
  hTM : T ≠ M
  len : ls.length = 25

theorem three_cells {w : World} {g : Nat} {a b c : Value} {T : TypeId} (h : w.heap[g]? = some (.cells #[a, b, c] T (0, 0))) : w.cell? ⟨g, 0, none⟩ = some a ∧ w.cell? ⟨g, 1, none⟩ = some b ∧ w.cell? ⟨g, 2, none⟩ = some c ∧ g < w.heap.size := by
  refine ⟨by simp [World.cell?, h], by simp [World.cell?, h], by simp [World.cell?, h], ?_⟩
  exact (Array.getElem?_eq_some_iff.1 h).1

theorem Turn.keep {w w' : World} {base T B M n : Nat} {now : Int} {vs : List Value} {ls : List (List Tm)} {f : Int → Option Int} (h : Turn w base T B M n now vs ls f) (hk : ∀ g, base ≤ g → g < w.heap.size → w'.heap[g]? = w.heap[g]?) : Turn w' base T B M n now vs ls f :=
  ⟨(hk T h.hT (Array.getElem?_eq_some_iff.1 h.box).1).trans h.box, h.own.keep hk, h.map.keep (hk M h.hM h.map.lt), h.offT, h.offM, h.hT, h.hM, h.hTM, h.len⟩

theorem Turn.below {w w' : World} {base T B M n : Nat} {now : Int} {vs : List Value} {ls : List (List Tm)} {f : Int → Option Int} (h : Turn w base T B M n now vs ls f) (hb : Below w.heap.size w w') : Turn w' base T B M n now vs ls f :=
  h.keep fun g _ hg => hb.block g hg

set_option maxHeartbeats 2000000 in
theorem has_any (T M n : Nat) (f : Int → Option Int) (id : Int) (w : World) (hc : w.cell? ⟨T, 2, none⟩ = some (.map (some M))) (hm : MapAt w M n f) (hid : (Lit.int .i64 id).wf = true) :
    Calls Tryd.prog 17 #[.pointer (some ⟨T, 0, none⟩), .int .i64 id] w fun r w' => r = .returned (.bool (f id).isSome) ∧ w' = w := by
  obtain ⟨D, hown, hf⟩ := hm
  have hkey : keyOf Tryd.prog 3 (.int .i64 id) = some (.int .i64 id) := keyOf_int_mk Tryd.underlying3 hid
  obtain ⟨b, hb⟩ : ∃ b, b = Maps.has D (.int .i64 id) := ⟨_, rfl⟩
  have HF : Hid (b = (f id).isSome) := by rw [hb]; exact (hf id hid).1
  have HO : Hid (_ ∧ _) := ⟨hown, hb⟩
  clear hf hb hown
  rw [← HF.out]
  go_enter Tryd.func17, Tryd.ntmps17
  go_wp2_with (first | (at_lookup; refine wpList_lookup_own_ok_int _ rfl _ _ 39 rfl 3 3 .i64 law3 Tryd.underlying39 Tryd.underlying3 (zero3 _) M n D rfl HO.out.1 _ _ rfl hkey ?_; rw [← HO.out.2]; intro c hat hwc))
  go_ret
  exact ⟨rfl, rfl⟩
end Go.Proofs.YtdfjobghgbcjpaaDoor.Walks
