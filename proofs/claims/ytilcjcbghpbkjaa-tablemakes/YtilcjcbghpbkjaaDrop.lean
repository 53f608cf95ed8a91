/-
  table.Drop, the document's FlowDropped. Condition: the slots can be read.
-/
import Derived.Test.YtilcjcbghpbkjaaGot
import Derived.Test.YtilcjcbghpbkjaaChanged
import Derived.WalkKit
import Derived.ProofKit
import Derived.Handy
import Derived.LoopTactic
import Derived.Below
import Derived.Laws.BitsAllLaws
import Derived.RegionTactic
import Derived.Deep.RegionHeld3
import Derived.Deep.DrawnRows
import Derived.Deep.AppendLies
import Derived.Laws.OwnMore
import Derived.Deep.Onto
import Derived.Deep.QuietTactic
import Derived.BigQuiet
namespace Go.Proofs.Ytilcjcbghpbkjaa.Walks
open Go.RowKit
set_option linter.unusedVariables false
set_option linter.unusedSimpArgs false
attribute [local go_sem ↓] Go.wp_at_zero Go.wp_at_succ

/-- A table and an error, as a call leaves them. -/
def TabRes (m : List Sl) (e : Int) (w : World) (r : Ending) (w' : World) : Prop :=
  ∃ p c, r = .returned (.tuple #[.agg #[.slice p m.length c], .int .i64 e]) ∧ w'.ownsRow w.heap.size 39 4 (.slice p m.length c) m.length (scells m) ∧ Below w.heap.size w w'

def dropOut (l : List Sl) (s g : Int) : List Sl × Int :=
  if (gotE l s g).2 = 0 then (l.set s.toNat ((gotE l s g).1.1 + 1, false, 0, 0), 0) else ([], (gotE l s g).2)

theorem got_ok {l : List Sl} {s g : Int} {x : Sl} (h : gotE l s g = (x, 0)) : TabOk l ∧ ∃ k : Nat, s = k ∧ ∃ hk : k < l.length, x = l[k] ∧ x.2.1 = true ∧ x.1 = g := by
  by_cases hok : TabOk l
  · refine ⟨hok, ?_⟩
    by_cases hs : 0 ≤ s ∧ s < l.length
    · obtain ⟨k, rfl⟩ := Int.eq_ofNat_of_zero_le hs.1
      have hk : k < l.length := by omega
      rw [got_some (x := l[k]) hok hk rfl] at h
      split at h
      · rename_i hh
        injection h with h1 h2
        subst h1
        exact ⟨k, rfl, hk, rfl, hh.1, hh.2⟩
      · injection h with h1 h2
        cases h2
    · rw [got_none hok (by omega)] at h
      injection h with h1 h2
      cases h2
  · unfold gotE at h
    rw [if_pos hok] at h
    injection h with h1 h2
    cases h2

theorem used_bound {x : Sl} (h : SlotOk x) (hu : x.2.1 = true) : 0 ≤ x.1 ∧ x.1 ≤ 1048575 := by
  unfold SlotOk at h
  rw [if_pos hu] at h
  exact h.1

set_option maxHeartbeats 4000000 in
set_option maxRecDepth 100000 in
theorem drop_any (v : Value) (l : List Sl) (s g : Int) (w : World) (hv : SlAt w v l) :
    Calls Try.prog 19 #[.agg #[v], .agg #[.int .i64 s, .int .i64 g]] w (TabRes (dropOut l s g).1 (dropOut l s g).2 w) := by
  obtain ⟨p, c, rfl, hc, hm, _⟩ := hv.parts
  unfold maxLen at hm
  obtain ⟨W0, hW0⟩ : ∃ W0, W0 = ((w.alloc (.cells #[.slice p l.length c] 24)).alloc (.cells #[.int .i64 s, .int .i64 g] 34)).alloc (.cells #[.slice none 0 0] 24) := ⟨_, rfl⟩
  have hb0 : Below w.heap.size w W0 := by rw [hW0]; exact (((Below.refl _ _).alloc (Nat.le_refl _) _).alloc (by simp) _).alloc (by simp; omega) _
  have hT0 : W0.heap[w.heap.size]? = some (.cells #[.slice p l.length c] 24 (0, 0)) := by rw [hW0]; exact heap_old _ _ (heap_old _ _ (heap_alloc_new _ _))
  have hH0 : W0.heap[w.heap.size + 1]? = some (.cells #[.int .i64 s, .int .i64 g] 34 (0, 0)) := by rw [hW0]; exact heap_old _ _ (heap_second _ _ _)
  have hR0 : W0.heap[w.heap.size + 1 + 1]? = some (.cells #[.slice none 0 0] 24 (0, 0)) := by rw [hW0]; have := heap_alloc_new ((w.alloc (.cells #[.slice p l.length c] 24)).alloc (.cells #[.int .i64 s, .int .i64 g] 34)) (.cells #[.slice none 0 0] 24); simpa using this
  have hs0 : W0.heap.size = w.heap.size + 3 := by rw [hW0]; simp
  have HV : Hid (_ ∧ _ ∧ _ ∧ _ ∧ _ ∧ _ ∧ _) := ⟨hv, hb0, hT0, hH0, hR0, hs0, hW0⟩
  clear hv hb0 hT0 hH0 hR0 hs0 hW0
  obtain ⟨⟨x1, x2, x3, x4⟩, e, hx⟩ : ∃ x e, gotE l s g = (x, e) := ⟨_, _, rfl⟩
  have hGt : Hid (∀ W y, SlAt W y l → Calls Try.prog 17 #[.agg #[y], .agg #[.int .i64 s, .int .i64 g]] W fun r w' => r = .returned (.tuple #[.agg #[.int .i64 x1, .bool x2, .int .i64 x3, .int .i64 x4], .int .i64 e]) ∧ Below W.heap.size W w') := fun W y hy => by
    have := get_any y l s g W hy
    rw [hx] at this
    exact this
  have hX : Hid _ := hx
  clear hx
  go_enter Try.func19, Try.ntmps19
  go_wp2_with fail
  rw [← HV.out.2.2.2.2.2.2]
  refine (hGt.out _ _ (HV.out.1.below HV.out.2.1)).mono ?_
  rintro r w1 ⟨rfl, hb1⟩
  have hT1 := box_below HV.out.2.2.1 hb1
  have hR1 := box_below HV.out.2.2.2.2.1 hb1
  have t0 := one_cell hT1
  have r0 := one_cell hR1
  have rf : w1.frozen? ⟨w.heap.size + 1 + 1, 0, none⟩ = false := by simp [World.frozen?, hR1]
  obtain ⟨h0, h1, _⟩ := two_cells (box_below HV.out.2.2.2.1 hb1)
  have hb01 := HV.out.2.1.trans (hb1.mono HV.out.2.1.size)
  have hl1 : w.heap.size + 1 + 1 < w1.heap.size := by have := hb1.size; have := HV.out.2.2.2.2.2.1; omega
  have hl2 : w.heap.size < w1.heap.size := by omega
  have hl3 : w.heap.size + 1 < w1.heap.size := by omega
  have H1 : Hid (_ ∧ _ ∧ _) := ⟨hT1, hR1, hb01⟩
  clear hT1 hR1 hb01 hb1
  obtain ⟨W2, hW2⟩ : ∃ W2, W2 = w1.alloc (.cells #[.int .i64 x1, .bool x2, .int .i64 x3, .int .i64 x4] 39) := ⟨_, rfl⟩
  have hb2 : Below w1.heap.size w1 W2 := by rw [hW2]; exact below_newC w1
  have hR2 := box_below H1.out.2.1 hb2
  have hb02 := H1.out.2.2.trans (hb2.mono H1.out.2.2.size)
  by_cases he : e = 0
  · subst he
    obtain ⟨hok, k, rfl, hk, hxk, hu, hg⟩ := got_ok hX.out
    have hbd := used_bound (hok.2 _ (List.getElem_mem hk)) (by rw [← hxk]; exact hu)
    rw [← hxk] at hbd
    have hl40 := hok.1.2
    have hout : dropOut l k g = (l.set k (x1 + 1, false, 0, 0), 0) := by unfold dropOut; rw [hX.out]; simp
    have hw1 : (-9223372036854775808 : Int) ≤ x1 + 1 := by have := hbd.1; simp at this; omega
    have hw2 : x1 + 1 ≤ (9223372036854775807 : Int) := by have := hbd.2; simp at this; omega
    have HO : Hid (_ ∧ _ ∧ _ ∧ _) := ⟨hout, hW2, hR2, hb02⟩
    have hWi : Hid (∀ W y, SlAt W y l → Calls Try.prog 31 #[.agg #[y], .int .i64 k, .agg #[.int .i64 (x1 + 1), .bool false, .int .i64 0, .int .i64 0]] W fun r w' => ∃ p c, r = .returned (.agg #[.slice p l.length c]) ∧ w'.ownsRow W.heap.size 39 4 (.slice p l.length c) l.length (scells (l.set k (x1 + 1, false, 0, 0))) ∧ Below W.heap.size W w') := fun W y hy => with_any y l k (x1 + 1) false 0 0 W hy hk hl40
    have hb2s := hb02.size
    clear hok hxk hu hg hbd hout hW2 hR2 hb02
    go_wp2_with fail
    rw [← HO.out.2.1]
    refine (hWi.out _ _ ((HV.out.1.below HO.out.2.2.2))).mono ?_
    rintro r w3 ⟨q, d, rfl, ho3, hb3⟩
    have hR3 := box_below HO.out.2.2.1 hb3
    have r3 := one_cell hR3
    have rf3 : w3.frozen? ⟨w.heap.size + 1 + 1, 0, none⟩ = false := by simp [World.frozen?, hR3]
    have hb03 := HO.out.2.2.2.trans (hb3.mono HO.out.2.2.2.size)
    have ho3' : (w3.setCell ⟨w.heap.size + 1 + 1, 0, none⟩ (.slice q l.length d)).ownsRow w.heap.size 39 4 (.slice q l.length d) l.length (scells (l.set k (x1 + 1, false, 0, 0))) :=
      (own_block ho3 (fun g' hg' => Below.heap_setCell _ _ _ _ (by have := (ho3.lt g' hg').1; have h2 := hb2.size; simp; omega))).mono (by omega)
    have H3 : Hid (_ ∧ _ ∧ _) := ⟨one_set (v := .slice q l.length d) hR3, ho3', (show Below w.heap.size w (w3.setCell ⟨w.heap.size + 1 + 1, 0, none⟩ (.slice q l.length d)) from hb03.setCell (by simp; omega) _)⟩
    clear hR3 ho3 ho3' hb3 hb03 t0 r0 rf h0 h1
    go_wp2
    refine bodyPost_ret (v := .tuple #[.agg #[.slice q l.length d], .int .i64 0]) (results_ct Try.results19 rfl rfl (load_row (P := Try.prog) (cs := [.slice q l.length d]) H3.out.1 Try.underlying24 rfl (by kernel_rfl))) rfl ?_
    rw [HO.out.1]
    refine ⟨q, d, ?_, ?_, H3.out.2.2⟩
    · simp
    · simpa using H3.out.2.1
  · have hout : dropOut l s g = ([], e) := by unfold dropOut; rw [hX.out]; simp [he]
    have hne : (e != 0) = true := by simpa using he
    have H3 : Hid (_ ∧ _ ∧ _) := ⟨heap_old _ (.cells #[.int .i64 x1, .bool x2, .int .i64 x3, .int .i64 x4] 39) (one_set (v := .slice none 0 0) H1.out.2.1), (show Below w.heap.size w ((w1.setCell ⟨w.heap.size + 1 + 1, 0, none⟩ (.slice none 0 0)).alloc (.cells #[.int .i64 x1, .bool x2, .int .i64 x3, .int .i64 x4] 39)) from (H1.out.2.2.setCell (by simp; omega) _).alloc (by simp; omega) _), hout⟩
    clear hR2 hb02 hb2 hout hW2 he
    go_wp2
    refine bodyPost_ret (v := .tuple #[.agg #[.slice none 0 0], .int .i64 e]) (results_ct Try.results19 rfl rfl (load_row (P := Try.prog) (cs := [.slice none 0 0]) H3.out.1 Try.underlying24 rfl (by kernel_rfl))) rfl ?_
    rw [H3.out.2.2]
    exact ⟨none, 0, rfl, World.ownsRow_nil _ _ _ _, H3.out.2.1⟩

set_option maxHeartbeats 4000000 in
set_option maxRecDepth 100000 in
theorem dropped_any (v : Value) (l : List Sl) (s g : Int) (w : World) (hv : SlAt w v l) :
    Calls Try.prog 20 #[.agg #[v], .agg #[.int .i64 s, .int .i64 g]] w (TabRes (dropOut l s g).1 (dropOut l s g).2 w) := by
  obtain ⟨p, c, rfl, hc, hm, _⟩ := hv.parts
  unfold maxLen at hm
  obtain ⟨W0, hW0⟩ : ∃ W0, W0 = ((w.alloc (.cells #[.slice p l.length c] 24)).alloc (.cells #[.int .i64 s, .int .i64 g] 34)).alloc (.cells #[.slice none 0 0] 24) := ⟨_, rfl⟩
  have hb0 : Below w.heap.size w W0 := by rw [hW0]; exact (((Below.refl _ _).alloc (Nat.le_refl _) _).alloc (by simp) _).alloc (by simp; omega) _
  have hT0 : W0.heap[w.heap.size]? = some (.cells #[.slice p l.length c] 24 (0, 0)) := by rw [hW0]; exact heap_old _ _ (heap_old _ _ (heap_alloc_new _ _))
  have hH0 : W0.heap[w.heap.size + 1]? = some (.cells #[.int .i64 s, .int .i64 g] 34 (0, 0)) := by rw [hW0]; exact heap_old _ _ (heap_second _ _ _)
  have hR0 : W0.heap[w.heap.size + 1 + 1]? = some (.cells #[.slice none 0 0] 24 (0, 0)) := by rw [hW0]; have := heap_alloc_new ((w.alloc (.cells #[.slice p l.length c] 24)).alloc (.cells #[.int .i64 s, .int .i64 g] 34)) (.cells #[.slice none 0 0] 24); simpa using this
  have hs0 : W0.heap.size = w.heap.size + 3 := by rw [hW0]; simp
  have HV : Hid (_ ∧ _ ∧ _ ∧ _ ∧ _ ∧ _ ∧ _) := ⟨hv, hb0, hT0, hH0, hR0, hs0, hW0⟩
  clear hv hb0 hT0 hH0 hR0 hs0 hW0
  obtain ⟨⟨x1, x2, x3, x4⟩, e, hx⟩ : ∃ x e, gotE l s g = (x, e) := ⟨_, _, rfl⟩
  have hGt : Hid (∀ W y, SlAt W y l → Calls Try.prog 18 #[.agg #[y], .agg #[.int .i64 s, .int .i64 g]] W fun r w' => r = .returned (.tuple #[.agg #[.int .i64 x1, .bool x2, .int .i64 x3, .int .i64 x4], .int .i64 e]) ∧ Below W.heap.size W w') := fun W y hy => by
    have := got_any y l s g W hy
    rw [hx] at this
    exact this
  have hX : Hid _ := hx
  clear hx
  go_enter Try.func20, Try.ntmps20
  go_wp2_with fail
  rw [← HV.out.2.2.2.2.2.2]
  refine (hGt.out _ _ (HV.out.1.below HV.out.2.1)).mono ?_
  rintro r w1 ⟨rfl, hb1⟩
  have hT1 := box_below HV.out.2.2.1 hb1
  have hR1 := box_below HV.out.2.2.2.2.1 hb1
  have t0 := one_cell hT1
  have r0 := one_cell hR1
  have rf : w1.frozen? ⟨w.heap.size + 1 + 1, 0, none⟩ = false := by simp [World.frozen?, hR1]
  obtain ⟨h0, h1, _⟩ := two_cells (box_below HV.out.2.2.2.1 hb1)
  have hb01 := HV.out.2.1.trans (hb1.mono HV.out.2.1.size)
  have hl1 : w.heap.size + 1 + 1 < w1.heap.size := by have := hb1.size; have := HV.out.2.2.2.2.2.1; omega
  have hl2 : w.heap.size < w1.heap.size := by omega
  have hl3 : w.heap.size + 1 < w1.heap.size := by omega
  have H1 : Hid (_ ∧ _ ∧ _) := ⟨hT1, hR1, hb01⟩
  clear hT1 hR1 hb01 hb1
  obtain ⟨W2, hW2⟩ : ∃ W2, W2 = w1.alloc (.cells #[.int .i64 x1, .bool x2, .int .i64 x3, .int .i64 x4] 39) := ⟨_, rfl⟩
  have hb2 : Below w1.heap.size w1 W2 := by rw [hW2]; exact below_newC w1
  have hR2 := box_below H1.out.2.1 hb2
  have hb02 := H1.out.2.2.trans (hb2.mono H1.out.2.2.size)
  by_cases he : e = 0
  · subst he
    obtain ⟨hok, k, rfl, hk, hxk, hu, hg⟩ := got_ok hX.out
    have hbd := used_bound (hok.2 _ (List.getElem_mem hk)) (by rw [← hxk]; exact hu)
    rw [← hxk] at hbd
    have hl40 := hok.1.2
    have hout : dropOut l k g = (l.set k (x1 + 1, false, 0, 0), 0) := by unfold dropOut; rw [hX.out]; simp
    have hw1 : (-9223372036854775808 : Int) ≤ x1 + 1 := by have := hbd.1; simp at this; omega
    have hw2 : x1 + 1 ≤ (9223372036854775807 : Int) := by have := hbd.2; simp at this; omega
    have HO : Hid (_ ∧ _ ∧ _ ∧ _) := ⟨hout, hW2, hR2, hb02⟩
    have hWi : Hid (∀ W y, SlAt W y l → Calls Try.prog 32 #[.agg #[y], .int .i64 k, .agg #[.int .i64 (x1 + 1), .bool false, .int .i64 0, .int .i64 0]] W fun r w' => ∃ p c, r = .returned (.agg #[.slice p l.length c]) ∧ w'.ownsRow W.heap.size 39 4 (.slice p l.length c) l.length (scells (l.set k (x1 + 1, false, 0, 0))) ∧ Below W.heap.size W w') := fun W y hy => changed_any y l k (x1 + 1) false 0 0 W hy hk hl40
    have hb2s := hb02.size
    clear hok hxk hu hg hbd hout hW2 hR2 hb02
    go_wp2_with fail
    rw [← HO.out.2.1]
    refine (hWi.out _ _ ((HV.out.1.below HO.out.2.2.2))).mono ?_
    rintro r w3 ⟨q, d, rfl, ho3, hb3⟩
    have hR3 := box_below HO.out.2.2.1 hb3
    have r3 := one_cell hR3
    have rf3 : w3.frozen? ⟨w.heap.size + 1 + 1, 0, none⟩ = false := by simp [World.frozen?, hR3]
    have hb03 := HO.out.2.2.2.trans (hb3.mono HO.out.2.2.2.size)
    have ho3' : (w3.setCell ⟨w.heap.size + 1 + 1, 0, none⟩ (.slice q l.length d)).ownsRow w.heap.size 39 4 (.slice q l.length d) l.length (scells (l.set k (x1 + 1, false, 0, 0))) :=
      (own_block ho3 (fun g' hg' => Below.heap_setCell _ _ _ _ (by have := (ho3.lt g' hg').1; have h2 := hb2.size; simp; omega))).mono (by omega)
    have H3 : Hid (_ ∧ _ ∧ _) := ⟨one_set (v := .slice q l.length d) hR3, ho3', (show Below w.heap.size w (w3.setCell ⟨w.heap.size + 1 + 1, 0, none⟩ (.slice q l.length d)) from hb03.setCell (by simp; omega) _)⟩
    clear hR3 ho3 ho3' hb3 hb03 t0 r0 rf h0 h1
    go_wp2
    refine bodyPost_ret (v := .tuple #[.agg #[.slice q l.length d], .int .i64 0]) (results_ct Try.results20 rfl rfl (load_row (P := Try.prog) (cs := [.slice q l.length d]) H3.out.1 Try.underlying24 rfl (by kernel_rfl))) rfl ?_
    rw [HO.out.1]
    refine ⟨q, d, ?_, ?_, H3.out.2.2⟩
    · simp
    · simpa using H3.out.2.1
  · have hout : dropOut l s g = ([], e) := by unfold dropOut; rw [hX.out]; simp [he]
    have hne : (e != 0) = true := by simpa using he
    have H3 : Hid (_ ∧ _ ∧ _) := ⟨heap_old _ (.cells #[.int .i64 x1, .bool x2, .int .i64 x3, .int .i64 x4] 39) (one_set (v := .slice none 0 0) H1.out.2.1), (show Below w.heap.size w ((w1.setCell ⟨w.heap.size + 1 + 1, 0, none⟩ (.slice none 0 0)).alloc (.cells #[.int .i64 x1, .bool x2, .int .i64 x3, .int .i64 x4] 39)) from (H1.out.2.2.setCell (by simp; omega) _).alloc (by simp; omega) _), hout⟩
    clear hR2 hb02 hb2 hout hW2 he
    go_wp2
    refine bodyPost_ret (v := .tuple #[.agg #[.slice none 0 0], .int .i64 e]) (results_ct Try.results20 rfl rfl (load_row (P := Try.prog) (cs := [.slice none 0 0]) H3.out.1 Try.underlying24 rfl (by kernel_rfl))) rfl ?_
    rw [H3.out.2.2]
    exact ⟨none, 0, rfl, World.ownsRow_nil _ _ _ _, H3.out.2.1⟩
end Go.Proofs.Ytilcjcbghpbkjaa.Walks
