/-
  The law's own copy of a ring: usherlaw.rings. Condition: at most 2^43 spots, which can be read.
-/
import Derived.Test.YtpmobbbohchdlaaCheck
import Derived.Test.YtpmobbbohchdlaaBase
import Derived.WalkKit
import Derived.ProofKit
import Derived.Handy
import Derived.LoopTactic
import Derived.Below
import Derived.Laws.BitsAllLaws
import Derived.RegionTactic
import Derived.Deep.RegionHeld3
import Derived.Deep.DrawnRows
import Derived.Deep.AppendLies
import Derived.Laws.OwnMore
import Derived.Deep.Onto
import Derived.Deep.QuietTactic
import Derived.BigQuiet
namespace Go.Proofs.Ytpmobbbohchdlaa.Walks
open Go.RowKit
set_option linter.unusedVariables false
set_option linter.unusedSimpArgs false
attribute [local go_sem ↓] Go.wp_at_zero Go.wp_at_succ

theorem wpList_append_eq {P : Program} {w : World} {ops : Array Oper} {rest : List Oper} {o : Oper} {a : Act} {Q : Exit → Act → World → Prop} (hgd : o.guard = none) (s x : Operand) (t : TypeId)
    (ho : o.op = .call { callee := .builtin .append, args := #[s, x], argTypes := #[t, t] }) (v u y : Value) (w' : World) (hs : a.eval s = v) (hx : a.eval x = u) (hr : (Builtin.append_ #[t, t] o.type #[v, u]).run P w = .ok y w')
    (h : wpList P ops Q rest (a.put o.dst y) w') : wpList P ops Q (o :: rest) a w :=
  wpList_plain hgd fun _ hK => by
    unfold Oper.wp execOp
    simp only [ho, resolve, invoke, builtin, Sem.run_bind, Sem.run_pure, Result.andThen_ok, List.map_toArray, List.map_cons, List.map_nil, hs, hx, hr]
    exact hK _ _ h

theorem results_c {fn : Func} {x : Tmp} {t : TypeId} (h : fn.results = #[.cell x t]) {tmps : Array Value} {P : Program} {w : World} {p : Addr} {v1 : Value} (hx : tmps.getD x undef = .pointer (some p))
    (h1 : (loadVar t p).run P w = .ok v1 w) : (results fn tmps).run P w = .ok v1 w := by
  have e1 : ∀ a : Addr, (asAddr (.pointer (some a))).run P w = .ok a w := fun a => rfl
  simp only [Array.getD_eq_getD_getElem?] at hx
  simp [results, h, hx, e1, h1, Sem.run_bind]

set_option maxHeartbeats 4000000 in
set_option maxRecDepth 100000 in
theorem rings_any (v : Value) (l : List Tm) (w : World) (hv : TmAt w v l) (hl : l.length ≤ 8796093022208) :
    Calls Try.prog 10 #[.agg #[v]] w fun r w' => ∃ y, r = .returned (.agg #[y]) ∧ w'.ownsRow w.heap.size 55 2 y l.length (tcells l) ∧ Below w.heap.size w w' := by
  obtain ⟨p, c, rfl, _⟩ := hv.parts
  obtain ⟨W0, hW0⟩ : ∃ W0, W0 = (w.alloc (.cells #[.slice p l.length c] 24)).alloc (.cells #[.slice none 0 0] 24) := ⟨_, rfl⟩
  have hb0 : Below w.heap.size w W0 := by rw [hW0]; exact ((Below.refl _ _).alloc (Nat.le_refl _) _).alloc (by simp) _
  have hR0 : W0.heap[w.heap.size]? = some (.cells #[.slice p l.length c] 24 (0, 0)) := by rw [hW0]; exact heap_old _ _ (heap_alloc_new _ _)
  have hR1 : W0.heap[w.heap.size + 1]? = some (.cells #[.slice none 0 0] 24 (0, 0)) := by rw [hW0]; exact heap_second _ _ _
  obtain ⟨y, w4, hr, ho, hb4⟩ := append_copy W0 22 _ l (hv.below hb0) hl
  obtain ⟨yp, yc, rfl⟩ := own_form ho
  have hR4 := box_below hR1 hb4
  have hc4 := one_cell hR4
  have hf4 : w4.frozen? ⟨w.heap.size + 1, 0, none⟩ = false := by simp [World.frozen?, hR4]
  have hs0 : W0.heap.size = w.heap.size + 2 := by rw [hW0]; simp
  have hres : (w4.setCell ⟨w.heap.size + 1, 0, none⟩ (.slice yp l.length yc)).heap[w.heap.size + 1]? = some (.cells #[.slice yp l.length yc] 24 (0, 0)) := by
    rw [Sort.setCell_eq]
    unfold Sort.mapBlock
    simp [Array.getElem?_modify, hR4, Sort.onCells]
  have hb5 : Below w.heap.size w (w4.setCell ⟨w.heap.size + 1, 0, none⟩ (.slice yp l.length yc)) := (hb0.trans (hb4.mono hb0.size)).setCell (by simp) _
  have ho5 : (w4.setCell ⟨w.heap.size + 1, 0, none⟩ (.slice yp l.length yc)).ownsRow w.heap.size 55 2 (.slice yp l.length yc) l.length (tcells l) :=
    (own_block ho (fun g hg => Below.heap_setCell _ _ _ _ (by have := (ho.lt g hg).1; simp; omega))).mono (by omega)
  have HQ : Hid (_ ∧ _ ∧ _ ∧ _) := ⟨hr, hres, hb5, ho5⟩
  have HW : Hid _ := hW0
  clear hr hres hb5 ho5 hb4 ho hb0 hR4 hR1 hW0 hv hR0
  go_enter Try.func10, Try.ntmps10
  go_wp2_with (at_builtin; (with_reducible refine wpList_append_eq rfl _ _ 22 rfl (.slice none 0 0) (.slice p l.length c) (.slice yp l.length yc) w4 ?hs ?hx ?hr ?_); (case hs => rfl); (case hx => rfl); (case hr => rw [← HW.out]; exact HQ.out.1))
  go_wp2
  refine bodyPost_ret (v := .agg #[.slice yp l.length yc]) (results_c Try.results10 rfl (load_row (P := Try.prog) (cs := [.slice yp l.length yc]) HQ.out.2.1 Try.underlying24 rfl (by kernel_rfl))) rfl ⟨_, rfl, HQ.out.2.2.2, HQ.out.2.2.1⟩
end Go.Proofs.Ytpmobbbohchdlaa.Walks
