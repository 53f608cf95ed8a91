/-
  A table with another slot at a place: table.with, the document's changedSlot. Condition: the slots can be read, and are at most 40.
-/
import Derived.Test.YtilcjcbghpbkjaaGet
import Derived.Deep.CutRange
import Derived.WalkKit
import Derived.ProofKit
import Derived.Handy
import Derived.LoopTactic
import Derived.Below
import Derived.Laws.BitsAllLaws
import Derived.RegionTactic
import Derived.Deep.RegionHeld3
import Derived.Deep.DrawnRows
import Derived.Deep.AppendLies
import Derived.Laws.OwnMore
import Derived.Deep.Onto
import Derived.Deep.QuietTactic
import Derived.BigQuiet
namespace Go.Proofs.Ytilcjcbghpbkjaa.Walks
open Go.RowKit
set_option linter.unusedVariables false
set_option linter.unusedSimpArgs false
attribute [local go_sem ↓] Go.wp_at_zero Go.wp_at_succ

theorem own_empty {w : World} {g : Nat} {e : TypeId} {base k : Nat} (h : w.heap[g]? = some (.cells #[] e (0, 0))) (hb : base ≤ g) : w.ownsRow base e k (.slice (some ⟨g, 0, none⟩) 0 0) 0 [] :=
  ⟨by simp, .inr ⟨g, 0, #[], rfl, hb, h, Nat.le_refl _, by unfold maxLen; omega, by simp, by simp⟩⟩

set_option maxHeartbeats 2000000 in
set_option maxRecDepth 100000 in
theorem clone_any (v : Value) (l : List Sl) (w : World) (hv : SlAt w v l) (h0 : 0 < l.length) (hl : l.length ≤ 1048576) :
    Calls Try.prog 33 #[v] w fun r w' => ∃ g c, r = .returned (.slice (some ⟨g, 0, none⟩) l.length c) ∧ w'.ownsRow w.heap.size 39 4 (.slice (some ⟨g, 0, none⟩) l.length c) l.length (scells l) ∧ Below w.heap.size w w' := by
  obtain ⟨a, cap, rfl, hc, hm, h⟩ := hv
  rcases h with ⟨h, _⟩ | ⟨b, off, rfl, hb, hcell⟩
  · omega
  · obtain ⟨i0, hi, hz0, hz1, hz2⟩ := info_parts infoSl
    have hnews : ∀ j u, (scells l)[j]? = some u → (w.alloc (.cells #[] 39)).cell? ((⟨b, off, none⟩ : Addr).add j) = some u := fun j u hu => by
      have hj := (List.getElem?_eq_some_iff.1 hu).1
      rw [add_lit, (below_newC w).cell (p := ⟨b, off + j, none⟩) hb, hcell j hj, hu]
    have H0 : Hid _ := hnews
    have hnil : ∀ W, (binOp .eql 22 (.slice (some ⟨b, off, none⟩) l.length cap) (.slice none 0 0)).run Try.prog W = .ok (.bool false) W := fun W => by kernel_rfl
    clear hnews hcell
    go_enter Try.func33, Try.ntmps33
    go_wp2_with (first | (at_builtin; refine wpList_append_lies _ rfl _ _ 22 rfl w.heap.size 39 i0 _ 4 32 Try.underlying22 hi hz0 hz1 hz2 rfl (by decide) (.slice (some ⟨w.heap.size, 0, none⟩) 0 0) 0 [] rfl (own_empty (heap_alloc_new _ _) (Nat.le_refl _)) ⟨b, off, none⟩ l.length cap (scells l) rfl (scells_len l) H0.out (scells_one l) h0 (by unfold maxLen; omega) (by omega) (by simp) _ rfl ?_; intro g' c' w2 hown2 hg2 hlies hlt2))
    go_wp2
    go_ret
    refine ⟨g', c', by simp, ?_, ?_⟩
    · rw [Nat.zero_add, List.nil_append] at hown2
      exact hown2
    · exact (below_newC w).grown hg2 (by simp) (fun j e => by cases e; exact Nat.le_refl _)

theorem stored4 {w : World} {base g n cap : Nat} {l : List Sl} (h : w.ownsRow base 39 4 (.slice (some ⟨g, 0, none⟩) n cap) n (scells l)) (i : Nat) (x : Sl) :
    ((((w.setCell ⟨g, i * 4, none⟩ (.int .i64 x.1)).setCell ⟨g, i * 4 + 1, none⟩ (.bool x.2.1)).setCell ⟨g, i * 4 + 2, none⟩ (.int .i64 x.2.2.1)).setCell ⟨g, i * 4 + 3, none⟩ (.int .i64 x.2.2.2)).ownsRow base 39 4 (.slice (some ⟨g, 0, none⟩) n cap) n (scells (l.set i x)) := by
  have h1 := ((((h.stored (i * 4) (.int .i64 x.1)).1.stored (i * 4 + 1) (.bool x.2.1)).1.stored (i * 4 + 2) (.int .i64 x.2.2.1)).1.stored (i * 4 + 3) (.int .i64 x.2.2.2)).1
  rw [scells_set] at h1
  exact h1

theorem below4 {w0 w : World} {B g o : Nat} {a b c d : Value} (h : Below B w0 w) (hg : B ≤ g) : Below B w0 ((((w.setCell ⟨g, o, none⟩ a).setCell ⟨g, o + 1, none⟩ b).setCell ⟨g, o + 2, none⟩ c).setCell ⟨g, o + 3, none⟩ d) :=
  (((h.setCell hg _).setCell hg _).setCell hg _).setCell hg _

theorem box_other4 {w : World} {g h o : Nat} {ob : Obj} {a b c d : Value} (hh : w.heap[h]? = some ob) (hne : h ≠ g) : ((((w.setCell ⟨g, o, none⟩ a).setCell ⟨g, o + 1, none⟩ b).setCell ⟨g, o + 2, none⟩ c).setCell ⟨g, o + 3, none⟩ d).heap[h]? = some ob := by
  rw [Below.heap_setCell _ _ _ _ (by simpa using hne), Below.heap_setCell _ _ _ _ (by simpa using hne), Below.heap_setCell _ _ _ _ (by simpa using hne), Below.heap_setCell _ _ _ _ (by simpa using hne)]
  exact hh

theorem one_set {w : World} {g : Nat} {u v : Value} {T : TypeId} (h : w.heap[g]? = some (.cells #[u] T (0, 0))) : (w.setCell ⟨g, 0, none⟩ v).heap[g]? = some (.cells #[v] T (0, 0)) := by
  have := heap_setCell_same w g 0 _ _ v h
  simpa using this

set_option maxHeartbeats 4000000 in
set_option maxRecDepth 100000 in
theorem with_any (v : Value) (l : List Sl) (i : Nat) (x1 : Int) (x2 : Bool) (x3 x4 : Int) (w : World) (hv : SlAt w v l) (hi : i < l.length) (hl : l.length ≤ 40) :
    Calls Try.prog 31 #[.agg #[v], .int .i64 i, .agg #[.int .i64 x1, .bool x2, .int .i64 x3, .int .i64 x4]] w fun r w' => ∃ p c, r = .returned (.agg #[.slice p l.length c]) ∧ w'.ownsRow w.heap.size 39 4 (.slice p l.length c) l.length (scells (l.set i (x1, x2, x3, x4))) ∧ Below w.heap.size w w' := by
  obtain ⟨p, c, rfl, _⟩ := hv.parts
  obtain ⟨W0, hW0⟩ : ∃ W0, W0 = ((w.alloc (.cells #[.slice p l.length c] 24)).alloc (.cells #[.int .i64 x1, .bool x2, .int .i64 x3, .int .i64 x4] 39)).alloc (.cells #[.slice none 0 0] 24) := ⟨_, rfl⟩
  have hb0 : Below w.heap.size w W0 := by rw [hW0]; exact (((Below.refl _ _).alloc (Nat.le_refl _) _).alloc (by simp) _).alloc (by simp; omega) _
  have hS0 : W0.heap[w.heap.size + 1]? = some (.cells #[.int .i64 x1, .bool x2, .int .i64 x3, .int .i64 x4] 39 (0, 0)) := by rw [hW0]; exact heap_old _ _ (heap_second _ _ _)
  have hR0 : W0.heap[w.heap.size + 1 + 1]? = some (.cells #[.slice none 0 0] 24 (0, 0)) := by rw [hW0]; have := heap_alloc_new ((w.alloc (.cells #[.slice p l.length c] 24)).alloc (.cells #[.int .i64 x1, .bool x2, .int .i64 x3, .int .i64 x4] 39)) (.cells #[.slice none 0 0] 24); simpa using this
  have hs0 : W0.heap.size = w.heap.size + 3 := by rw [hW0]; simp
  have HV : Hid (_ ∧ _ ∧ _ ∧ _ ∧ _ ∧ _) := ⟨hv, hb0, hS0, hR0, hs0, hW0⟩
  clear hv hb0 hS0 hR0 hs0 hW0
  go_enter Try.func31, Try.ntmps31
  go_wp2_with fail
  rw [← HV.out.2.2.2.2.2]
  refine (clone_any _ l _ (HV.out.1.below HV.out.2.1) (by omega) (by omega)).mono ?_
  rintro r w1 ⟨g, c1, rfl, ho, hb1⟩
  have hS1 := box_below HV.out.2.2.1 hb1
  have hR1 := box_below HV.out.2.2.2.1 hb1
  obtain ⟨⟨j0, j1, j2, j3⟩, _⟩ := box4 hS1
  have hcR := one_cell hR1
  have hfR : w1.frozen? ⟨w.heap.size + 1 + 1, 0, none⟩ = false := by simp [World.frozen?, hR1]
  have ht := scells_at l i hi
  have c0 := (ho.cellAt (i * 4) (by omega)).trans ht.1
  have c1' := (ho.cellAt (i * 4 + 1) (by omega)).trans ht.2.1
  have c2 := (ho.cellAt (i * 4 + 2) (by omega)).trans ht.2.2.1
  have c3 := (ho.cellAt (i * 4 + 3) (by omega)).trans ht.2.2.2
  have f0 := ho.frozenAt (i * 4)
  have f1 := ho.frozenAt (i * 4 + 1)
  have f2 := ho.frozenAt (i * 4 + 2)
  have f3 := ho.frozenAt (i * 4 + 3)
  generalize l[i].1 = y1 at c0
  generalize l[i].2.1 = y2 at c1'
  generalize l[i].2.2.1 = y3 at c2
  generalize l[i].2.2.2 = y4 at c3
  have hiI : (i : Int) < (l.length : Int) := by omega
  have hgl := (ho.lt g rfl).2
  have hgb := (ho.lt g rfl).1
  rw [HV.out.2.2.2.2.1] at hgb
  have hneg : ¬ (w.heap.size + 1 + 1 = g) := by omega
  have hneg2 : ¬ (w.heap.size + 1 = g) := by omega
  have H1 : Hid (_ ∧ _ ∧ _) := ⟨ho, hb1, hR1⟩
  clear ht hS1 hR1 ho hb1
  go_wp2
  obtain ⟨ho, hb1, hR1⟩ := H1.out
  have hR2 := box_other4 (o := i * 4) (a := .int .i64 x1) (b := .bool x2) (c := .int .i64 x3) (d := .int .i64 x4) hR1 hneg
  have hR3 := one_set (v := .slice (some ⟨g, 0, none⟩) l.length c1) hR2
  have ho2 := stored4 ho i (x1, x2, x3, x4)
  have hb2 := HV.out.2.1.trans (hb1.mono HV.out.2.1.size)
  have hs0 := HV.out.2.2.2.2.1
  refine bodyPost_ret (v := .agg #[.slice (some ⟨g, 0, none⟩) l.length c1]) (results_c Try.results31 rfl (load_row (P := Try.prog) (cs := [.slice (some ⟨g, 0, none⟩) l.length c1]) hR3 Try.underlying24 rfl (by kernel_rfl))) rfl ⟨_, _, rfl, ?_, ?_⟩
  · exact (own_block ho2 (fun g' hg' => Below.heap_setCell _ _ _ _ (by have := (ho2.lt g' hg').1; simp; omega))).mono (by omega)
  · exact (below4 hb2 (by omega)).setCell (by simp; omega) _
end Go.Proofs.Ytilcjcbghpbkjaa.Walks
