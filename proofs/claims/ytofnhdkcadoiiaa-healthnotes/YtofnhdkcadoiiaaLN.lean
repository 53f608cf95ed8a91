/-
  HealthNotes and HealthBacks. Condition: what is read can be read.
-/
import Derived.Test.YtofnhdkcadoiiaaLH
import Derived.WalkKit
import Derived.ProofKit
import Derived.Handy
import Derived.LoopTactic
import Derived.Below
import Derived.Laws.BitsAllLaws
import Derived.RegionTactic
import Derived.Deep.RegionHeld3
import Derived.Deep.DrawnRows
import Derived.Deep.AppendLies
import Derived.Laws.OwnMore
import Derived.Deep.Onto
import Derived.Deep.QuietTactic
import Derived.BigQuiet
namespace Go.Proofs.Ytofnhdkcadoiiaa.Walks
open Go.RowKit
set_option linter.unusedVariables false
set_option linter.unusedSimpArgs false
attribute [local go_sem ↓] Go.wp_at_zero Go.wp_at_succ

theorem hpost_open {w w' : World} {ol : List Bool} {oo : Bool} {ou ot : Int} {ob : Bool} {oe : Int} {r : Ending} (h : HPost w ((ol, oo, ou, ot), ob, oe) r w') :
    ∃ p c, r = .returned (.tuple #[hltV (.slice p ol.length c) oo ou ot, .bool ob, .int .i64 oe]) ∧ BsAt w' (.slice p ol.length c) ol ∧ Below w.heap.size w w' := h

/-- A health in a box. -/
abbrev HBox (W : World) (g : Nat) (v : Value) (o : Bool) (u t : Int) : Prop := W.heap[g]? = some (.cells #[v, .bool o, .int .i64 u, .int .i64 t] 29 (0, 0))


set_option maxHeartbeats 8000000 in
set_option maxRecDepth 100000 in
theorem backs_law (n f d : Int) (_ : (Lit.int .i64 n).wf = true) (_ : (Lit.int .i64 f).wf = true) (_ : (Lit.int .i64 d).wf = true) (v : Value) (l : List Bool) (o : Bool) (u t : Int) (now : Int) {w : World} (hv : BsAt w v l) (hl : l.length ≤ 140737488355328) :
    Calls Try.prog 5 #[watV n f d, hltV v o u t, .int .i64 now] w fun e w' => e = .returned (.bool true) ∧ Below w.heap.size w w' := by
  obtain ⟨p, c, rfl⟩ := hv.form
  obtain ⟨W0, hW0⟩ : ∃ W0, W0 = (w.alloc (.cells #[.int .i64 n, .int .i64 f, .int .i64 d] 23)).alloc (.cells #[.slice p l.length c, .bool o, .int .i64 u, .int .i64 t] 29) := ⟨_, rfl⟩
  have hX0 : Hx w W0 n f d (.slice p l.length c) o u t := by rw [hW0]; exact hx_new _ _ _ _ _ _ _ _
  obtain ⟨c0, c1, c2, c3, c4, c5, c6⟩ := hX0.cells
  have H : Hid (_ ∧ Hx _ _ _ _ _ _ _ _ _ ∧ BsAt w _ _) := ⟨hW0, hX0, hv⟩
  have HC : Hid _ := healths_any (.slice p l.length c) l o u t W0 (hv.below hX0.2.2) hl
  have hA : Hid (∀ v W, BsAt W v l → Calls Try.prog 15 #[watV n f d, hltV v o u t, .int .i64 now] W (HPost W (backO n f d l o u t now))) := fun v W hv => back_any n f d v l o u t now W hv
  have hF : Hid (∀ v W, BsAt W v l → Calls Try.prog 16 #[watV n f d, hltV v o u t, .int .i64 now] W (HPost W (backO n f d l o u t now))) := fun v W hv => cameBack_any n f d v l o u t now W hv hl
  clear hW0 hX0 hv
  generalize backO n f d l o u t now = O at *
  obtain ⟨⟨ol, oo, ou, ot⟩, ob, oe⟩ := O
  go_enter Try.func5, Try.ntmps5
  go_wp2_with fail
  rw [← H.out.1]
  refine Calls.mono HC.out ?_
  rintro r w1 ⟨p1, k1, rfl, hat1, hb1⟩
  have hX1 := H.out.2.1.below hb1
  clear c0 c1 c2 c3 c4 c5 c6 HC
  obtain ⟨c0, c1, c2, c3, c4, c5, c6⟩ := hX1.cells
  have lt0 := (three_cells hX1.1).2.2.2
  have lt1 := (four_cells hX1.2.1).2.2.2.2
  have HP1 : Hid (_ ∧ Hx _ _ _ _ _ _ _ _ _) := ⟨hat1, hX1⟩
  clear hat1 hX1 hb1
  go_wp2_with fail
  obtain ⟨W1, hW1⟩ : ∃ W1, W1 = w1.alloc (.cells #[.slice p1 l.length k1, .bool o, .int .i64 u, .int .i64 t] 29) := ⟨_, rfl⟩
  have hb1' : Below w1.heap.size w1 W1 := by rw [hW1]; exact below_new _
  have hG1 : HBox W1 w1.heap.size (.slice p1 l.length k1) o u t := by rw [hW1]; exact heap_alloc_new _ _
  have H1 : Hid (Hx w W1 n f d (.slice p l.length c) o u t ∧ HBox W1 w1.heap.size (.slice p1 l.length k1) o u t ∧ BsAt W1 (.slice p1 l.length k1) l ∧ BsAt w (.slice p l.length c) l) := ⟨HP1.out.2.below hb1', hG1, HP1.out.1.below hb1', H.out.2.2⟩
  rw [← hW1]
  clear hb1' hG1 hW1 H HP1 c0 c1 c2 c3 c4 c5 c6 lt0 lt1
  refine (hA.out _ _ H1.out.2.2.1).mono ?_
  intro r w2 hp2
  obtain ⟨p2, k2, rfl, hat2, hb2⟩ := hpost_open hp2
  have HP2 : Hid (Hx w w2 n f d (.slice p l.length c) o u t ∧ HBox w2 w1.heap.size (.slice p1 l.length k1) o u t ∧ BsAt w2 (.slice p1 l.length k1) l ∧ BsAt w (.slice p l.length c) l ∧ BsAt w2 (.slice p2 ol.length k2) ol) := ⟨H1.out.1.below hb2, box_below H1.out.2.1 hb2, H1.out.2.2.1.below hb2, H1.out.2.2.2, hat2⟩
  clear hp2 hat2 hb2 hA H1
  obtain ⟨c0, c1, c2, c3, c4, c5, c6⟩ := HP2.out.1.cells
  have lt0 := (three_cells HP2.out.1.1).2.2.2
  have lt1 := (four_cells HP2.out.1.2.1).2.2.2.2
  obtain ⟨g1, hg1⟩ : ∃ g1, g1 = w1.heap.size := ⟨_, rfl⟩
  rw [← hg1] at HP2 ⊢
  clear hg1
  go_wp2_with fail
  obtain ⟨W2, hW2⟩ : ∃ W2, W2 = w2.alloc (.cells #[.slice p2 ol.length k2, .bool oo, .int .i64 ou, .int .i64 ot] 29) := ⟨_, rfl⟩
  have hb2' : Below w2.heap.size w2 W2 := by rw [hW2]; exact below_new _
  have hA2 : HBox W2 w2.heap.size (.slice p2 ol.length k2) oo ou ot := by rw [hW2]; exact heap_alloc_new _ _
  have H2 : Hid (Hx w W2 n f d (.slice p l.length c) o u t ∧ HBox W2 g1 (.slice p1 l.length k1) o u t ∧ BsAt W2 (.slice p1 l.length k1) l ∧ BsAt w (.slice p l.length c) l ∧ HBox W2 w2.heap.size (.slice p2 ol.length k2) oo ou ot ∧ BsAt W2 (.slice p2 ol.length k2) ol) := ⟨HP2.out.1.below hb2', box_below HP2.out.2.1 hb2', HP2.out.2.2.1.below hb2', HP2.out.2.2.2.1, hA2, HP2.out.2.2.2.2.below hb2'⟩
  rw [← hW2]
  clear hb2' hA2 hW2 HP2 c0 c1 c2 c3 c4 c5 c6 lt0 lt1
  refine (hF.out _ _ (H2.out.2.2.2.1.below H2.out.1.2.2)).mono ?_
  intro r w3 hp3
  obtain ⟨p3, k3, rfl, hat3, hb3⟩ := hpost_open hp3
  have HP3 : Hid (Hx w w3 n f d (.slice p l.length c) o u t ∧ HBox w3 g1 (.slice p1 l.length k1) o u t ∧ BsAt w3 (.slice p1 l.length k1) l ∧ BsAt w (.slice p l.length c) l ∧ HBox w3 w2.heap.size (.slice p2 ol.length k2) oo ou ot ∧ BsAt w3 (.slice p2 ol.length k2) ol ∧ BsAt w3 (.slice p3 ol.length k3) ol) := ⟨H2.out.1.below hb3, box_below H2.out.2.1 hb3, H2.out.2.2.1.below hb3, H2.out.2.2.2.1, box_below H2.out.2.2.2.2.1 hb3, H2.out.2.2.2.2.2.below hb3, hat3⟩
  clear hp3 hat3 hb3 hF H2
  obtain ⟨g2, hg2⟩ : ∃ g2, g2 = w2.heap.size := ⟨_, rfl⟩
  rw [← hg2] at HP3 ⊢
  clear hg2
  obtain ⟨i0, i1, i2, i3, ilt⟩ := four_cells HP3.out.2.2.2.2.1
  go_wp2_with fail
  obtain ⟨W3, hW3⟩ : ∃ W3, W3 = w3.alloc (.cells #[.slice p3 ol.length k3, .bool oo, .int .i64 ou, .int .i64 ot] 29) := ⟨_, rfl⟩
  have hb3' : Below w3.heap.size w3 W3 := by rw [hW3]; exact below_new _
  have H3 : Hid (Hx w W3 n f d (.slice p l.length c) o u t ∧ HBox W3 g1 (.slice p1 l.length k1) o u t ∧ BsAt W3 (.slice p1 l.length k1) l ∧ BsAt w (.slice p l.length c) l ∧ BsAt W3 (.slice p2 ol.length k2) ol ∧ BsAt W3 (.slice p3 ol.length k3) ol) := ⟨HP3.out.1.below hb3', box_below HP3.out.2.1 hb3', HP3.out.2.2.1.below hb3', HP3.out.2.2.2.1, HP3.out.2.2.2.2.2.1.below hb3', HP3.out.2.2.2.2.2.2.below hb3'⟩
  rw [← hW3]
  clear hb3' hW3 HP3 i0 i1 i2 i3 ilt
  refine (sameHealth_any _ _ ol oo ou ot _ H3.out.2.2.2.2.1 H3.out.2.2.2.2.2).mono ?_
  rintro r w4 ⟨rfl, hb4⟩
  have H4 : Hid (Hx w w4 n f d (.slice p l.length c) o u t ∧ HBox w4 g1 (.slice p1 l.length k1) o u t ∧ BsAt w4 (.slice p1 l.length k1) l ∧ BsAt w (.slice p l.length c) l) := ⟨H3.out.1.below hb4, box_below H3.out.2.1 hb4, H3.out.2.2.1.below hb4, H3.out.2.2.2.1⟩
  clear hb4 H3
  obtain ⟨c0, c1, c2, c3, c4, c5, c6⟩ := H4.out.1.cells
  obtain ⟨e0, e1, e2, e3, elt⟩ := four_cells H4.out.2.1
  go_wp2_with fail
  refine (sameHealth_any _ _ l o u t _ H4.out.2.2.1 (H4.out.2.2.2.below H4.out.1.2.2)).mono ?_
  rintro r w5 ⟨rfl, hb5⟩
  have H5 : Hid _ := H4.out.1.2.2.trans (hb5.mono H4.out.1.2.2.size)
  clear hb5 c0 c1 c2 c3 c4 c5 c6 e0 e1 e2 e3 elt
  go_wp2
  go_ret
  exact ⟨rfl, H5.out⟩

set_option maxHeartbeats 8000000 in
set_option maxRecDepth 100000 in
theorem notes_law (n f d : Int) (_ : (Lit.int .i64 n).wf = true) (_ : (Lit.int .i64 f).wf = true) (_ : (Lit.int .i64 d).wf = true) (v : Value) (l : List Bool) (o : Bool) (u t : Int) (x : Bool) (now : Int) (may : Bool) {w : World} (hv : BsAt w v l) (hl : l.length ≤ 140737488355328) :
    Calls Try.prog 4 #[watV n f d, hltV v o u t, .bool x, .int .i64 now, .bool may] w fun e w' => e = .returned (.bool true) ∧ Below w.heap.size w w' := by
  obtain ⟨p, c, rfl⟩ := hv.form
  obtain ⟨W0, hW0⟩ : ∃ W0, W0 = (w.alloc (.cells #[.int .i64 n, .int .i64 f, .int .i64 d] 23)).alloc (.cells #[.slice p l.length c, .bool o, .int .i64 u, .int .i64 t] 29) := ⟨_, rfl⟩
  have hX0 : Hx w W0 n f d (.slice p l.length c) o u t := by rw [hW0]; exact hx_new _ _ _ _ _ _ _ _
  obtain ⟨c0, c1, c2, c3, c4, c5, c6⟩ := hX0.cells
  have H : Hid (_ ∧ Hx _ _ _ _ _ _ _ _ _ ∧ BsAt w _ _) := ⟨hW0, hX0, hv⟩
  have HC : Hid _ := healths_any (.slice p l.length c) l o u t W0 (hv.below hX0.2.2) hl
  have hA : Hid (∀ v W, BsAt W v l → Calls Try.prog 12 #[watV n f d, hltV v o u t, .bool x, .int .i64 now, .bool may] W (HPost W (noteO n f d l o u t x now may))) := fun v W hv => note_any n f d v l o u t x now may W hv hl
  have hF : Hid (∀ v W, BsAt W v l → Calls Try.prog 13 #[watV n f d, hltV v o u t, .bool x, .int .i64 now, .bool may] W (HPost W (noteO n f d l o u t x now may))) := fun v W hv => noted_any n f d v l o u t x now may W hv hl
  clear hW0 hX0 hv
  generalize noteO n f d l o u t x now may = O at *
  obtain ⟨⟨ol, oo, ou, ot⟩, ob, oe⟩ := O
  go_enter Try.func4, Try.ntmps4
  go_wp2_with fail
  rw [← H.out.1]
  refine Calls.mono HC.out ?_
  rintro r w1 ⟨p1, k1, rfl, hat1, hb1⟩
  have hX1 := H.out.2.1.below hb1
  clear c0 c1 c2 c3 c4 c5 c6 HC
  obtain ⟨c0, c1, c2, c3, c4, c5, c6⟩ := hX1.cells
  have lt0 := (three_cells hX1.1).2.2.2
  have lt1 := (four_cells hX1.2.1).2.2.2.2
  have HP1 : Hid (_ ∧ Hx _ _ _ _ _ _ _ _ _) := ⟨hat1, hX1⟩
  clear hat1 hX1 hb1
  go_wp2_with fail
  obtain ⟨W1, hW1⟩ : ∃ W1, W1 = w1.alloc (.cells #[.slice p1 l.length k1, .bool o, .int .i64 u, .int .i64 t] 29) := ⟨_, rfl⟩
  have hb1' : Below w1.heap.size w1 W1 := by rw [hW1]; exact below_new _
  have hG1 : HBox W1 w1.heap.size (.slice p1 l.length k1) o u t := by rw [hW1]; exact heap_alloc_new _ _
  have H1 : Hid (Hx w W1 n f d (.slice p l.length c) o u t ∧ HBox W1 w1.heap.size (.slice p1 l.length k1) o u t ∧ BsAt W1 (.slice p1 l.length k1) l ∧ BsAt w (.slice p l.length c) l) := ⟨HP1.out.2.below hb1', hG1, HP1.out.1.below hb1', H.out.2.2⟩
  rw [← hW1]
  clear hb1' hG1 hW1 H HP1 c0 c1 c2 c3 c4 c5 c6 lt0 lt1
  refine (hA.out _ _ H1.out.2.2.1).mono ?_
  intro r w2 hp2
  obtain ⟨p2, k2, rfl, hat2, hb2⟩ := hpost_open hp2
  have HP2 : Hid (Hx w w2 n f d (.slice p l.length c) o u t ∧ HBox w2 w1.heap.size (.slice p1 l.length k1) o u t ∧ BsAt w2 (.slice p1 l.length k1) l ∧ BsAt w (.slice p l.length c) l ∧ BsAt w2 (.slice p2 ol.length k2) ol) := ⟨H1.out.1.below hb2, box_below H1.out.2.1 hb2, H1.out.2.2.1.below hb2, H1.out.2.2.2, hat2⟩
  clear hp2 hat2 hb2 hA H1
  obtain ⟨c0, c1, c2, c3, c4, c5, c6⟩ := HP2.out.1.cells
  have lt0 := (three_cells HP2.out.1.1).2.2.2
  have lt1 := (four_cells HP2.out.1.2.1).2.2.2.2
  obtain ⟨g1, hg1⟩ : ∃ g1, g1 = w1.heap.size := ⟨_, rfl⟩
  rw [← hg1] at HP2 ⊢
  clear hg1
  go_wp2_with fail
  obtain ⟨W2, hW2⟩ : ∃ W2, W2 = w2.alloc (.cells #[.slice p2 ol.length k2, .bool oo, .int .i64 ou, .int .i64 ot] 29) := ⟨_, rfl⟩
  have hb2' : Below w2.heap.size w2 W2 := by rw [hW2]; exact below_new _
  have hA2 : HBox W2 w2.heap.size (.slice p2 ol.length k2) oo ou ot := by rw [hW2]; exact heap_alloc_new _ _
  have H2 : Hid (Hx w W2 n f d (.slice p l.length c) o u t ∧ HBox W2 g1 (.slice p1 l.length k1) o u t ∧ BsAt W2 (.slice p1 l.length k1) l ∧ BsAt w (.slice p l.length c) l ∧ HBox W2 w2.heap.size (.slice p2 ol.length k2) oo ou ot ∧ BsAt W2 (.slice p2 ol.length k2) ol) := ⟨HP2.out.1.below hb2', box_below HP2.out.2.1 hb2', HP2.out.2.2.1.below hb2', HP2.out.2.2.2.1, hA2, HP2.out.2.2.2.2.below hb2'⟩
  rw [← hW2]
  clear hb2' hA2 hW2 HP2 c0 c1 c2 c3 c4 c5 c6 lt0 lt1
  refine (hF.out _ _ (H2.out.2.2.2.1.below H2.out.1.2.2)).mono ?_
  intro r w3 hp3
  obtain ⟨p3, k3, rfl, hat3, hb3⟩ := hpost_open hp3
  have HP3 : Hid (Hx w w3 n f d (.slice p l.length c) o u t ∧ HBox w3 g1 (.slice p1 l.length k1) o u t ∧ BsAt w3 (.slice p1 l.length k1) l ∧ BsAt w (.slice p l.length c) l ∧ HBox w3 w2.heap.size (.slice p2 ol.length k2) oo ou ot ∧ BsAt w3 (.slice p2 ol.length k2) ol ∧ BsAt w3 (.slice p3 ol.length k3) ol) := ⟨H2.out.1.below hb3, box_below H2.out.2.1 hb3, H2.out.2.2.1.below hb3, H2.out.2.2.2.1, box_below H2.out.2.2.2.2.1 hb3, H2.out.2.2.2.2.2.below hb3, hat3⟩
  clear hp3 hat3 hb3 hF H2
  obtain ⟨g2, hg2⟩ : ∃ g2, g2 = w2.heap.size := ⟨_, rfl⟩
  rw [← hg2] at HP3 ⊢
  clear hg2
  obtain ⟨i0, i1, i2, i3, ilt⟩ := four_cells HP3.out.2.2.2.2.1
  go_wp2_with fail
  obtain ⟨W3, hW3⟩ : ∃ W3, W3 = w3.alloc (.cells #[.slice p3 ol.length k3, .bool oo, .int .i64 ou, .int .i64 ot] 29) := ⟨_, rfl⟩
  have hb3' : Below w3.heap.size w3 W3 := by rw [hW3]; exact below_new _
  have H3 : Hid (Hx w W3 n f d (.slice p l.length c) o u t ∧ HBox W3 g1 (.slice p1 l.length k1) o u t ∧ BsAt W3 (.slice p1 l.length k1) l ∧ BsAt w (.slice p l.length c) l ∧ BsAt W3 (.slice p2 ol.length k2) ol ∧ BsAt W3 (.slice p3 ol.length k3) ol) := ⟨HP3.out.1.below hb3', box_below HP3.out.2.1 hb3', HP3.out.2.2.1.below hb3', HP3.out.2.2.2.1, HP3.out.2.2.2.2.2.1.below hb3', HP3.out.2.2.2.2.2.2.below hb3'⟩
  rw [← hW3]
  clear hb3' hW3 HP3 i0 i1 i2 i3 ilt
  refine (sameHealth_any _ _ ol oo ou ot _ H3.out.2.2.2.2.1 H3.out.2.2.2.2.2).mono ?_
  rintro r w4 ⟨rfl, hb4⟩
  have H4 : Hid (Hx w w4 n f d (.slice p l.length c) o u t ∧ HBox w4 g1 (.slice p1 l.length k1) o u t ∧ BsAt w4 (.slice p1 l.length k1) l ∧ BsAt w (.slice p l.length c) l) := ⟨H3.out.1.below hb4, box_below H3.out.2.1 hb4, H3.out.2.2.1.below hb4, H3.out.2.2.2.1⟩
  clear hb4 H3
  obtain ⟨c0, c1, c2, c3, c4, c5, c6⟩ := H4.out.1.cells
  obtain ⟨e0, e1, e2, e3, elt⟩ := four_cells H4.out.2.1
  go_wp2_with fail
  refine (sameHealth_any _ _ l o u t _ H4.out.2.2.1 (H4.out.2.2.2.below H4.out.1.2.2)).mono ?_
  rintro r w5 ⟨rfl, hb5⟩
  have H5 : Hid _ := H4.out.1.2.2.trans (hb5.mono H4.out.1.2.2.size)
  clear hb5 c0 c1 c2 c3 c4 c5 c6 e0 e1 e2 e3 elt
  go_wp2
  go_ret
  exact ⟨rfl, H5.out⟩

theorem notes_row (n f d : Int) (h1 : (Lit.int .i64 n).wf = true) (h2 : (Lit.int .i64 f).wf = true) (h3 : (Lit.int .i64 d).wf = true) (v : Value) (l : List Bool) (o : Bool) (u t : Int) {w : World} (hv : BsAt w v l) (hl : l.length ≤ 140737488355328) (x : Bool) (now : Int) (_ : (Lit.int .i64 now).wf = true) (may : Bool) :
    Calls Try.prog 4 #[watV n f d, hltV v o u t, .bool x, .int .i64 now, .bool may] w fun e w' => e = .returned (.bool true) ∧ Below w.heap.size w w' :=
  notes_law n f d h1 h2 h3 v l o u t x now may hv hl

theorem backs_row (n f d : Int) (h1 : (Lit.int .i64 n).wf = true) (h2 : (Lit.int .i64 f).wf = true) (h3 : (Lit.int .i64 d).wf = true) (v : Value) (l : List Bool) (o : Bool) (u t : Int) {w : World} (hv : BsAt w v l) (hl : l.length ≤ 140737488355328) (now : Int) (_ : (Lit.int .i64 now).wf = true) :
    Calls Try.prog 5 #[watV n f d, hltV v o u t, .int .i64 now] w fun e w' => e = .returned (.bool true) ∧ Below w.heap.size w w' :=
  backs_law n f d h1 h2 h3 v l o u t now hv hl
end Go.Proofs.Ytofnhdkcadoiiaa.Walks
