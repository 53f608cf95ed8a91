/-
  LifeFinishes, LifeWakes. No condition.
-/
import Derived.Test.YtlpedligkofegabRefF
import Derived.Test.YtlpedligkofegabSame
import Derived.WalkKit
import Derived.ProofKit
import Derived.Handy
import Derived.LoopTactic
import Derived.Below
import Derived.Laws.BitsAllLaws
import Derived.RegionTactic
import Derived.Deep.RegionHeld3
import Derived.Deep.DrawnRows
import Derived.Deep.AppendLies
import Derived.Laws.OwnMore
import Derived.Deep.Onto
import Derived.Deep.QuietTactic
import Derived.BigQuiet
namespace Go.Proofs.Ytlpedligkofegab.Walks
open Go.RowKit
set_option linter.unusedVariables false
set_option linter.unusedSimpArgs false
attribute [local go_sem ↓] Go.wp_at_zero Go.wp_at_succ

theorem finPost_open {w w' : World} {L : List Lf} {R : List Rq} {e : Int} {r : Ending} (h : FinPost w ((L, R), e) r w') : ∃ p c q m, r = .returned (.tuple #[bkV (.slice p L.length c) (.slice q R.length m), .int .i64 e]) ∧ BkNew w.heap.size w' (.slice p L.length c) (.slice q R.length m) L R ∧ Below w.heap.size w w' := h

theorem wakePost_open {w w' : World} {L : List Lf} {R : List Rq} {s : List Int} {e : Int} {r : Ending} (h : WakePost w ((L, R), s, e) r w') : ∃ p c q m u k, r = .returned (.tuple #[bkV (.slice p L.length c) (.slice q R.length m), .slice u s.length k, .int .i64 e]) ∧ BkNew w.heap.size w' (.slice p L.length c) (.slice q R.length m) L R ∧ InAt w' (.slice u s.length k) s ∧ Below w.heap.size w w' := h

theorem askPost_open {w w' : World} {L : List Lf} {R : List Rq} {a e : Int} {b : Bool} {r : Ending} (h : AskPost w ((L, R), a, b, e) r w') : ∃ p c q m, r = .returned (.tuple #[bkV (.slice p L.length c) (.slice q R.length m), .int .i64 a, .bool b, .int .i64 e]) ∧ BkNew w.heap.size w' (.slice p L.length c) (.slice q R.length m) L R ∧ Below w.heap.size w w' := h

/-- A book in a box of a law's own, which can be read. -/
def Bx (w W : World) (g : Nat) (va vb : Value) (L : List Lf) (R : List Rq) : Prop := W.heap[g]? = some (bkO va vb) ∧ BkAt W va vb L R ∧ Below w.heap.size w W

theorem Bx.below {w W W' : World} {g : Nat} {va vb : Value} {L : List Lf} {R : List Rq} (h : Bx w W g va vb L R) (hb : Below W.heap.size W W') : Bx w W' g va vb L R := ⟨box_below h.1 hb, h.2.1.below hb, h.2.2.trans (hb.mono h.2.2.size)⟩

theorem Bx.alloc {w W : World} {g : Nat} {va vb : Value} {L : List Lf} {R : List Rq} (h : Bx w W g va vb L R) (o : Obj) : Bx w (W.alloc o) g va vb L R := h.below (below_new _)

theorem bx_new {w W : World} {va vb : Value} {L : List Lf} {R : List Rq} (h : BkAt W va vb L R) (hb : Below w.heap.size w W) : Bx w (W.alloc (bkO va vb)) W.heap.size va vb L R := ⟨heap_alloc_new _ _, h.below (below_new _), hb.alloc hb.size _⟩

theorem Bx.cells {w W : World} {g : Nat} {va vb : Value} {L : List Lf} {R : List Rq} (h : Bx w W g va vb L R) : W.cell? ⟨g, 0, none⟩ = some va ∧ W.cell? ⟨g, 1, none⟩ = some vb ∧ g < W.heap.size := by
  obtain ⟨h0, h1, _, _, h2⟩ := two_cells h.1
  exact ⟨h0, h1, h2⟩

end Go.Proofs.Ytlpedligkofegab.Walks
