/-
  The document's EventBytes, and the statements' own sameBytes: an event without fault gives its bytes, another its fault; equal bytes are the same. No condition but that what is compared can be read.
-/
import Derived.Test.YtcafnliedkhjmabRows
import Derived.Test.YtcafnliedkhjmabChecked
import Derived.Test.YtcafnliedkhjmabEncode
import Derived.Deep.QuietTactic
import Derived.BigQuiet
import Derived.WalkKit
import Derived.ProofKit
import Derived.Handy
import Derived.LoopTactic
import Derived.Below
import Derived.Laws.BitsAllLaws
import Derived.RegionTactic
import Derived.Deep.RegionHeld3
import Derived.Deep.DrawnRows
import Derived.Deep.AppendLies
import Derived.Laws.OwnMore
import Derived.Laws.BytesArg
import Derived.Deep.Onto
namespace Go.Proofs.Ytcafnliedkhjmab.Walks
open Go.RowKit
open Go.Proofs.Ytcafnliedkhjmab.Plain
set_option linter.unusedVariables false
attribute [local go_sem ↓] Go.wp_at_zero Go.wp_at_succ


/-- A slice of bytes that can be read: what it holds. -/
def BytesAt (w : World) (v : Value) (l : List Nat) : Prop :=
  ∃ a cap, v = .slice a l.length cap ∧ l.length ≤ cap ∧ (a = none ∧ l = [] ∨ l = [] ∨ ∃ b off, a = some ⟨b, off, none⟩ ∧ b < w.heap.size ∧ ∀ i, i < l.length → w.cell? ⟨b, off + i, none⟩ = some (.int .u8 ((l.getD i 0 : Nat) : Int)))

theorem bytesAt_owned {w : World} {base : Nat} {v : Value} {l : List Nat} (h : w.ownsRow base 5 1 v l.length (bcells l)) : BytesAt w v l := by
  obtain ⟨hl, ⟨rfl, hn⟩ | ⟨g, cap, cur, rfl, hb, hg, hn, hm, hs, ht⟩⟩ := h
  · have := List.length_eq_zero_iff.1 hn
    subst this
    exact ⟨none, 0, rfl, Nat.le_refl _, .inl ⟨rfl, rfl⟩⟩
  · refine ⟨_, cap, rfl, hn, .inr (.inr ⟨g, 0, rfl, ?_, fun i hi => ?_⟩)⟩
    · rcases Nat.lt_or_ge g w.heap.size with hlt | hge
      · exact hlt
      · rw [Array.getElem?_eq_none hge] at hg; cases hg
    · have h2 : (bcells l)[i]? = some (.int .u8 ((l.getD i 0 : Nat) : Int)) := by
        simp [bcells, List.getElem?_map, List.getElem?_eq_getElem hi, List.getD]
      rw [← ht, List.getElem?_take_of_lt (by omega)] at h2
      have h3 : cur[i]? = some (.int .u8 ((l.getD i 0 : Nat) : Int)) := by simpa using h2
      simp only [World.cell?, hg, Nat.zero_add]
      simpa using h3

theorem BytesAt.below {w w' : World} {v : Value} {l : List Nat} (h : BytesAt w v l) (hb : Below w.heap.size w w') : BytesAt w' v l := by
  obtain ⟨a, cap, hv, hc, h1 | h1 | ⟨b, off, h1, h2, h3⟩⟩ := h
  · exact ⟨a, cap, hv, hc, .inl h1⟩
  · exact ⟨a, cap, hv, hc, .inr (.inl h1)⟩
  · exact ⟨a, cap, hv, hc, .inr (.inr ⟨b, off, h1, Nat.lt_of_lt_of_le h2 hb.size, fun i hi => by rw [hb.cell (p := ⟨b, off + i, none⟩) h2]; exact h3 i hi⟩)⟩

def strOf (l : List Nat) : ByteArray := strOfNums (l.map fun (x : Nat) => (x : Int))

theorem conv_bytes {w : World} {v : Value} {l : List Nat} (h : BytesAt w v l) : (convert 23 9 v).run Try.prog w = .ok (.string (strOf l)) w := by
  have e0 : ∀ (a : Option Addr) (cap : Nat), (convert 23 9 (.slice a 0 cap)).run Try.prog w = .ok (.string (strOf [])) w := by
    intro a cap
    cases a with
    | none => exact run_convert_bytes_nil w 23 5 Try.underlying23 Try.underlying5 0 cap 9 Try.underlying9
    | some x =>
      rw [run_convert_bytes_string w 23 9 5 _ 0 cap Try.underlying23 Try.underlying5 Try.underlying9, run_bytesToString w x 0 cap [] (by simpa using run_loadCells_list (P := Try.prog) w x [] (by simp))]
      rfl
  obtain ⟨a, cap, rfl, hc, ⟨_, rfl⟩ | rfl | ⟨b, off, rfl, h2, h3⟩⟩ := h
  · exact e0 a cap
  · exact e0 a cap
  · exact run_convert_bytes_arg w 23 5 Try.underlying23 Try.underlying5 b off l.length cap (l.map fun (x : Nat) => (x : Int)) (by simp) (fun i hi => by rw [h3 i hi]; simp [List.getElem?_eq_getElem hi]) 9 Try.underlying9

end Go.Proofs.Ytcafnliedkhjmab.Walks
