/-
  Raw events: a slice of four whole numbers each, opened; the events that they stand for. No condition.
-/
import Derived.Test.YtcjgokgembgdhaaDoorRdd
import Derived.Test.YtcjgokgembgdhaaDoorRaw
import Derived.Test.YtcjgokgembgdhaaDoorRvOps
import Derived.WalkKit
import Derived.ProofKit
import Derived.Handy
import Derived.LoopTactic
import Derived.Below
import Derived.Laws.BitsAllLaws
import Derived.RegionTactic
import Derived.Deep.RegionHeld3
import Derived.Deep.DrawnRows
import Derived.Deep.AppendLies
import Derived.Laws.OwnMore
import Derived.Deep.Onto
import Derived.Deep.QuietTactic
import Derived.BigQuiet
namespace Go.Proofs.YtcjgokgembgdhaaDoor.Walks
open Go.RowKit
open Go.Proofs.YtcjgokgembgdhaaDoor.Plain
set_option linter.unusedVariables false
set_option linter.unusedSimpArgs false
attribute [local go_sem ↓] Go.wp_at_zero Go.wp_at_succ

/-- Raw numbers of an event. -/
structure Co where
  x : Int
  y : Int
  z : Int
  u : Int

def coV (c : Co) : List Value := [.int .i64 c.x, .int .i64 c.y, .int .i64 c.z, .int .i64 c.u]
theorem co4 (c : Co) : (coV c).length = 4 := rfl
abbrev CsAt (w : World) (v : Value) (l : List Co) : Prop := Rv.RvAt coV w v l
def CosWf (l : List Co) : Prop := ∀ c ∈ l, Fits c.x ∧ Fits c.y ∧ Fits c.z ∧ Fits c.u
def rw1 (c : Co) : Ev := raw c.x c.y c.z c.u
def rws (l : List Co) (k : Nat) : List Ev := (l.take k).map rw1

theorem rws_ok (l : List Co) (k : Nat) : ∀ e ∈ rws l k, fault e = 0 := by
  intro e he
  obtain ⟨c, _, rfl⟩ := List.mem_map.1 he
  exact raw_ok _ _ _ _

theorem rws_len (l : List Co) {k : Nat} (h : k ≤ l.length) : (rws l k).length = k := by unfold rws; rw [List.length_map, List.length_take]; omega

theorem rws_succ (l : List Co) {k : Nat} (h : k < l.length) : rws l (k + 1) = rws l k ++ [rw1 l[k]] := by
  unfold rws; rw [List.take_succ_eq_append_getElem h, List.map_append]; rfl

abbrev mkCo (f : Nat → Int) : Co := ⟨f 0, f 1, f 2, f 3⟩
theorem mkCo_at (f : Nat → Int) (j : Nat) (hj : j < 4) : (coV (mkCo f))[j]? = some (.int .i64 (f j)) := by
  match j, hj with
  | 0, _ => rfl
  | 1, _ => rfl
  | 2, _ => rfl
  | 3, _ => rfl

section
variable {H : Type} {enc : TypeId × Value → H} {P : Program} {w : World} {base : Nat} {spare : Nat → Bool} {held : Bool}
theorem open_comings {t e : TypeId} {fs : Array Field} {fuel : Nat} {v : Value} {x : DataW H × List MemPlace} (ht : P.underlying t = some (.slice e)) (he : P.underlying e = some (.struct fs)) (ce : P.cellsOf e = 4) (hfs : fs.size = 4) (hint : Rv.intFields P fs = true)
    (h : DataW.trod enc P w base spare held fuel t [v] = some x) : ∃ l : List Co, CsAt w v l ∧ CosWf l := by
  obtain ⟨l, h1, h2, h3⟩ := Rv.open_recs co4 (by decide) mkCo mkCo_at ht he ce hfs hint h
  refine ⟨l, h1, fun o ho => ?_⟩
  obtain ⟨f, rfl, hf⟩ := h2 o ho
  exact ⟨fits_of (hf 0 (by omega)), fits_of (hf 1 (by omega)), fits_of (hf 2 (by omega)), fits_of (hf 3 (by omega))⟩
end

/-- One raw event's own contract, its cells told. -/
theorem coming_any (c : Co) (w : World) (h : Fits c.x ∧ Fits c.y ∧ Fits c.z ∧ Fits c.u) :
    Calls Tryd.prog 15 #[.agg #[.int .i64 c.x, .int .i64 c.y, .int .i64 c.z, .int .i64 c.u]] w fun r w' => r = .returned (.agg #[.int .i64 (rw1 c).kind, .int .i64 (rw1 c).key, .int .i64 (rw1 c).slot, .int .i64 (rw1 c).gen, .bool (rw1 c).good, .int .i64 (rw1 c).req, .int .i64 (rw1 c).be, .int .i64 (rw1 c).wt]) ∧ Below w.heap.size w w' :=
  event_any c.x c.y c.z c.u w h.1 h.2.1 h.2.2.1 h.2.2.2
end Go.Proofs.YtcjgokgembgdhaaDoor.Walks
