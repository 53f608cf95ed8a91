/-
  The document's EventFault answers the event's fault, whatever the event. No condition.
-/
import Derived.Test.YtcafnliedkhjmabRows
import Derived.Test.YtcafnliedkhjmabChecked
import Derived.Test.YtcafnliedkhjmabNums
import Derived.Deep.QuietTactic
import Derived.BigQuiet
import Derived.WalkKit
import Derived.ProofKit
import Derived.Handy
import Derived.LoopTactic
import Derived.Below
import Derived.Laws.BitsAllLaws
import Derived.RegionTactic
import Derived.Deep.RegionHeld3
import Derived.Deep.DrawnRows
import Derived.Deep.AppendLies
import Derived.Laws.OwnMore
namespace Go.Proofs.Ytcafnliedkhjmab.Walks
open Go.RowKit
open Go.Proofs.Ytcafnliedkhjmab.Plain
set_option linter.unusedVariables false
attribute [local go_sem ↓] Go.wp_at_zero Go.wp_at_succ


theorem below_drawn {B : Nat} {a w : World} (h : Below B a w) (n : Nat) : Below B a (w.drewN n) := h.trans ⟨rfl, rfl, rfl, Nat.le_refl _, fun _ _ => rfl⟩
theorem owns_below {w w' : World} {base n size : Nat} {t : TypeId} {v : Value} {xs : List Value} (h : w.ownsRow base t size v n xs) (hb : Below w.heap.size w w') : w'.ownsRow base t size v n xs :=
  h.kept (row := none) (grown_of_below hb) (Classical.em _)
theorem held8 {W a : World} {b : Nat} {e : Ev} (hE : EvAt W b e) (h : Below W.heap.size W a) :
    a.cell? ⟨b, 0, none⟩ = some (.int .i64 e.kind) ∧ a.cell? ⟨b, 1, none⟩ = some (.int .i64 e.key) ∧ a.cell? ⟨b, 2, none⟩ = some (.int .i64 e.slot) ∧ a.cell? ⟨b, 3, none⟩ = some (.int .i64 e.gen) ∧ a.cell? ⟨b, 4, none⟩ = some (.bool e.good) ∧ a.cell? ⟨b, 5, none⟩ = some (.int .i64 e.req) ∧ a.cell? ⟨b, 6, none⟩ = some (.int .i64 e.be) ∧ a.cell? ⟨b, 7, none⟩ = some (.int .i64 e.wt) ∧ Below W.heap.size W a := by
  obtain ⟨h0, h1, h2, h3, h4, h5, h6, h7⟩ := (hE.below h hE.lt).all
  exact ⟨h0, h1, h2, h3, h4, h5, h6, h7, h⟩

theorem first_unlike (pk pkey pslot pgen : Int) (pgood : Bool) (preq pbe pwt : Int) (e : Ev) :
    (⟨pk, pkey, pslot, pgen, pgood, preq, pbe, pwt⟩ : Ev) = e ∨ (decide ((⟨pk, pkey, pslot, pgen, pgood, preq, pbe, pwt⟩ : Ev) = e) = false ∧
      ((pk == e.kind) = false ∨ pk = e.kind ∧ ((pkey == e.key) = false ∨ pkey = e.key ∧ ((pslot == e.slot) = false ∨ pslot = e.slot ∧ ((pgen == e.gen) = false ∨ pgen = e.gen ∧ ((pgood == e.good) = false ∨ pgood = e.good ∧ ((preq == e.req) = false ∨ preq = e.req ∧ ((pbe == e.be) = false ∨ pbe = e.be ∧ (pwt == e.wt) = false)))))))) := by
  obtain ⟨ek, ekey, eslot, egen, egood, ereq, ebe, ewt⟩ := e
  simp only [Ev.mk.injEq, beq_eq_false_iff_ne, decide_eq_false_iff_not]
  by_cases h0 : pk = ek <;> by_cases h1 : pkey = ekey <;> by_cases h2 : pslot = eslot <;> by_cases h3 : pgen = egen <;> by_cases h4 : pgood = egood <;> by_cases h5 : preq = ereq <;> by_cases h6 : pbe = ebe <;> by_cases h7 : pwt = ewt <;> simp [h0, h1, h2, h3, h4, h5, h6, h7]

theorem nums_map (e : Ev) (fs : List Fld) : (fs.map fun f => Value.int .i64 (e.num f.off)) = (e.nums fs).map (.int .i64) := by simp [Ev.nums]

end Go.Proofs.Ytcafnliedkhjmab.Walks
