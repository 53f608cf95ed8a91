/-
  table.Move, the document's FlowMoved. Condition: the slots can be read.
-/
import Derived.Test.YtilcjcbghpbkjaaDrop
import Derived.WalkKit
import Derived.ProofKit
import Derived.Handy
import Derived.LoopTactic
import Derived.Below
import Derived.Laws.BitsAllLaws
import Derived.RegionTactic
import Derived.Deep.RegionHeld3
import Derived.Deep.DrawnRows
import Derived.Deep.AppendLies
import Derived.Laws.OwnMore
import Derived.Deep.Onto
import Derived.Deep.QuietTactic
import Derived.BigQuiet
namespace Go.Proofs.Ytilcjcbghpbkjaa.Walks
open Go.RowKit
set_option linter.unusedVariables false
set_option linter.unusedSimpArgs false
attribute [local go_sem ↓] Go.wp_at_zero Go.wp_at_succ

def moveOut (l : List Sl) (s g bk : Int) : List Sl × Int :=
  if (gotE l s g).2 = 0 then (if isBeP bk then (l.set s.toNat ((gotE l s g).1.1, true, (gotE l s g).1.2.2.1, bk), 0) else ([], 2)) else ([], (gotE l s g).2)

theorem be_in {n : Int} : (0 ≤ n ∧ n ≤ 11) ↔ isBeP n := by unfold isBeP; omega

set_option maxHeartbeats 4000000 in
set_option maxRecDepth 100000 in
theorem move_any (v : Value) (l : List Sl) (s g bk : Int) (w : World) (hv : SlAt w v l) :
    Calls Try.prog 21 #[.agg #[v], .agg #[.int .i64 s, .int .i64 g], .int .i64 bk] w (TabRes (moveOut l s g bk).1 (moveOut l s g bk).2 w) := by
  obtain ⟨p, c, rfl, hc, hm, _⟩ := hv.parts
  unfold maxLen at hm
  obtain ⟨W0, hW0⟩ : ∃ W0, W0 = ((w.alloc (.cells #[.slice p l.length c] 24)).alloc (.cells #[.int .i64 s, .int .i64 g] 34)).alloc (.cells #[.slice none 0 0] 24) := ⟨_, rfl⟩
  have hb0 : Below w.heap.size w W0 := by rw [hW0]; exact (((Below.refl _ _).alloc (Nat.le_refl _) _).alloc (by simp) _).alloc (by simp; omega) _
  have hT0 : W0.heap[w.heap.size]? = some (.cells #[.slice p l.length c] 24 (0, 0)) := by rw [hW0]; exact heap_old _ _ (heap_old _ _ (heap_alloc_new _ _))
  have hH0 : W0.heap[w.heap.size + 1]? = some (.cells #[.int .i64 s, .int .i64 g] 34 (0, 0)) := by rw [hW0]; exact heap_old _ _ (heap_second _ _ _)
  have hR0 : W0.heap[w.heap.size + 1 + 1]? = some (.cells #[.slice none 0 0] 24 (0, 0)) := by rw [hW0]; have := heap_alloc_new ((w.alloc (.cells #[.slice p l.length c] 24)).alloc (.cells #[.int .i64 s, .int .i64 g] 34)) (.cells #[.slice none 0 0] 24); simpa using this
  have hs0 : W0.heap.size = w.heap.size + 3 := by rw [hW0]; simp
  have HV : Hid (_ ∧ _ ∧ _ ∧ _ ∧ _ ∧ _ ∧ _) := ⟨hv, hb0, hT0, hH0, hR0, hs0, hW0⟩
  clear hv hb0 hT0 hH0 hR0 hs0 hW0
  obtain ⟨⟨x1, x2, x3, x4⟩, e, hx⟩ : ∃ x e, gotE l s g = (x, e) := ⟨_, _, rfl⟩
  have hGt : Hid (∀ W y, SlAt W y l → Calls Try.prog 17 #[.agg #[y], .agg #[.int .i64 s, .int .i64 g]] W fun r w' => r = .returned (.tuple #[.agg #[.int .i64 x1, .bool x2, .int .i64 x3, .int .i64 x4], .int .i64 e]) ∧ Below W.heap.size W w') := fun W y hy => by
    have := get_any y l s g W hy
    rw [hx] at this
    exact this
  have hX : Hid _ := hx
  clear hx
  go_enter Try.func21, Try.ntmps21
  go_wp2_with fail
  rw [← HV.out.2.2.2.2.2.2]
  refine (hGt.out _ _ (HV.out.1.below HV.out.2.1)).mono ?_
  rintro r w1 ⟨rfl, hb1⟩
  have hT1 := box_below HV.out.2.2.1 hb1
  have hR1 := box_below HV.out.2.2.2.2.1 hb1
  have t0 := one_cell hT1
  have r0 := one_cell hR1
  have rf : w1.frozen? ⟨w.heap.size + 1 + 1, 0, none⟩ = false := by simp [World.frozen?, hR1]
  obtain ⟨h0, h1, _⟩ := two_cells (box_below HV.out.2.2.2.1 hb1)
  have hb01 := HV.out.2.1.trans (hb1.mono HV.out.2.1.size)
  have hl1 : w.heap.size + 1 + 1 < w1.heap.size := by have := hb1.size; have := HV.out.2.2.2.2.2.1; omega
  have hl2 : w.heap.size < w1.heap.size := by omega
  have hl3 : w.heap.size + 1 < w1.heap.size := by omega
  have H1 : Hid (_ ∧ _ ∧ _) := ⟨hT1, hR1, hb01⟩
  clear hT1 hR1 hb01 hb1
  obtain ⟨W2, hW2⟩ : ∃ W2, W2 = w1.alloc (.cells #[.int .i64 x1, .bool x2, .int .i64 x3, .int .i64 x4] 39) := ⟨_, rfl⟩
  have hb2 : Below w1.heap.size w1 W2 := by rw [hW2]; exact below_newC w1
  have hR2 := box_below H1.out.2.1 hb2
  have hb02 := H1.out.2.2.trans (hb2.mono H1.out.2.2.size)
  by_cases he : e = 0
  · subst he
    obtain ⟨hok, k, rfl, hk, hxk, hu, hg⟩ := got_ok hX.out
    have hbd := used_bound (hok.2 _ (List.getElem_mem hk)) (by rw [← hxk]; exact hu)
    rw [← hxk] at hbd
    have hl40 := hok.1.2
    have HO : Hid (_ ∧ _ ∧ _) := ⟨hW2, hR2, hb02⟩
    have hb2s := hb02.size
    have hx2 : x2 = true := hu
    subst hx2
    clear hok hxk hu hg hbd hW2 hR2 hb02
    cases hbk : decide (isBeP bk)
    · have hout : moveOut l k g bk = ([], 2) := by
        unfold moveOut
        rw [hX.out, if_pos rfl, if_neg (id (of_decide_eq_false hbk))]
      have H3 : Hid (_ ∧ _ ∧ _) := ⟨heap_old _ (.cells #[.int .i64 x1, .bool true, .int .i64 x3, .int .i64 x4] 39) (one_set (v := .slice none 0 0) H1.out.2.1), (show Below w.heap.size w ((w1.setCell ⟨w.heap.size + 1 + 1, 0, none⟩ (.slice none 0 0)).alloc (.cells #[.int .i64 x1, .bool true, .int .i64 x3, .int .i64 x4] 39)) from (H1.out.2.2.setCell (by simp; omega) _).alloc (by simp; omega) _), hout⟩
      clear hout hb2
      go_wp2_with fail
      refine (isBackend_any _ _).mono ?_
      rw [hbk]
      rintro r w4 ⟨rfl, rfl⟩
      go_wp2
      refine bodyPost_ret (v := .tuple #[.agg #[.slice none 0 0], .int .i64 2]) (results_ct Try.results21 rfl rfl (load_row (P := Try.prog) (cs := [.slice none 0 0]) H3.out.1 Try.underlying24 rfl (by kernel_rfl))) rfl ?_
      rw [H3.out.2.2]
      exact ⟨none, 0, rfl, World.ownsRow_nil _ _ _ _, H3.out.2.1⟩
    have hout : moveOut l k g bk = (l.set k (x1, true, x3, bk), 0) := by
      unfold moveOut
      rw [hX.out, if_pos rfl, if_pos (id (of_decide_eq_true hbk))]
      simp
    have hWi : Hid (∀ W y, SlAt W y l → Calls Try.prog 31 #[.agg #[y], .int .i64 k, .agg #[.int .i64 x1, .bool true, .int .i64 x3, .int .i64 bk]] W fun r w' => ∃ p c, r = .returned (.agg #[.slice p l.length c]) ∧ w'.ownsRow W.heap.size 39 4 (.slice p l.length c) l.length (scells (l.set k (x1, true, x3, bk))) ∧ Below W.heap.size W w') := fun W y hy => with_any y l k x1 true x3 bk W hy hk hl40
    have HU : Hid _ := hout
    clear hout
    obtain ⟨W4, hW4⟩ : ∃ W4, W4 = w1.alloc (.cells #[.int .i64 x1, .bool true, .int .i64 x3, .int .i64 bk] 39) := ⟨_, rfl⟩
    have hb4 : Below w1.heap.size w1 W4 := by rw [hW4]; exact below_newC w1
    have hR4 := box_below H1.out.2.1 hb4
    have hb04 := H1.out.2.2.trans (hb4.mono H1.out.2.2.size)
    have H4 : Hid (_ ∧ _ ∧ _) := ⟨hW4, hR4, hb04⟩
    have hb4s := hb4.size
    clear hW4 hR4 hb04 hb4 hb2 HO hb2s
    go_wp2_with fail
    refine (isBackend_any _ _).mono ?_
    rw [hbk]
    rintro r w4 ⟨rfl, rfl⟩
    go_wp2_with fail
    rw [← H4.out.1]
    refine (hWi.out _ _ ((HV.out.1.below H4.out.2.2))).mono ?_
    rintro r w3 ⟨q, d, rfl, ho3, hb3⟩
    have hR3 := box_below H4.out.2.1 hb3
    have r3 := one_cell hR3
    have rf3 : w3.frozen? ⟨w.heap.size + 1 + 1, 0, none⟩ = false := by simp [World.frozen?, hR3]
    have hb03 := H4.out.2.2.trans (hb3.mono H4.out.2.2.size)
    have ho3' : (w3.setCell ⟨w.heap.size + 1 + 1, 0, none⟩ (.slice q l.length d)).ownsRow w.heap.size 39 4 (.slice q l.length d) l.length (scells (l.set k (x1, true, x3, bk))) :=
      (own_block ho3 (fun g' hg' => Below.heap_setCell _ _ _ _ (by have := (ho3.lt g' hg').1; simp; omega))).mono (by omega)
    have H3 : Hid (_ ∧ _ ∧ _) := ⟨one_set (v := .slice q l.length d) hR3, ho3', (show Below w.heap.size w (w3.setCell ⟨w.heap.size + 1 + 1, 0, none⟩ (.slice q l.length d)) from hb03.setCell (by simp; omega) _)⟩
    clear hR3 ho3 ho3' hb3 hb03 t0 r0 rf h0 h1
    go_wp2
    refine bodyPost_ret (v := .tuple #[.agg #[.slice q l.length d], .int .i64 0]) (results_ct Try.results21 rfl rfl (load_row (P := Try.prog) (cs := [.slice q l.length d]) H3.out.1 Try.underlying24 rfl (by kernel_rfl))) rfl ?_
    rw [HU.out]
    refine ⟨q, d, ?_, ?_, H3.out.2.2⟩
    · simp
    · simpa using H3.out.2.1
  · have hout : moveOut l s g bk = ([], e) := by unfold moveOut; rw [hX.out, if_neg he]
    have hne : (e != 0) = true := by simpa using he
    have H3 : Hid (_ ∧ _ ∧ _) := ⟨heap_old _ (.cells #[.int .i64 x1, .bool x2, .int .i64 x3, .int .i64 x4] 39) (one_set (v := .slice none 0 0) H1.out.2.1), (show Below w.heap.size w ((w1.setCell ⟨w.heap.size + 1 + 1, 0, none⟩ (.slice none 0 0)).alloc (.cells #[.int .i64 x1, .bool x2, .int .i64 x3, .int .i64 x4] 39)) from (H1.out.2.2.setCell (by simp; omega) _).alloc (by simp; omega) _), hout⟩
    clear hR2 hb02 hb2 hout hW2 he
    go_wp2
    refine bodyPost_ret (v := .tuple #[.agg #[.slice none 0 0], .int .i64 e]) (results_ct Try.results21 rfl rfl (load_row (P := Try.prog) (cs := [.slice none 0 0]) H3.out.1 Try.underlying24 rfl (by kernel_rfl))) rfl ?_
    rw [H3.out.2.2]
    exact ⟨none, 0, rfl, World.ownsRow_nil _ _ _ _, H3.out.2.1⟩

set_option maxHeartbeats 4000000 in
set_option maxRecDepth 100000 in
theorem moved_any (v : Value) (l : List Sl) (s g bk : Int) (w : World) (hv : SlAt w v l) :
    Calls Try.prog 22 #[.agg #[v], .agg #[.int .i64 s, .int .i64 g], .int .i64 bk] w (TabRes (moveOut l s g bk).1 (moveOut l s g bk).2 w) := by
  obtain ⟨p, c, rfl, hc, hm, _⟩ := hv.parts
  unfold maxLen at hm
  obtain ⟨W0, hW0⟩ : ∃ W0, W0 = ((w.alloc (.cells #[.slice p l.length c] 24)).alloc (.cells #[.int .i64 s, .int .i64 g] 34)).alloc (.cells #[.slice none 0 0] 24) := ⟨_, rfl⟩
  have hb0 : Below w.heap.size w W0 := by rw [hW0]; exact (((Below.refl _ _).alloc (Nat.le_refl _) _).alloc (by simp) _).alloc (by simp; omega) _
  have hT0 : W0.heap[w.heap.size]? = some (.cells #[.slice p l.length c] 24 (0, 0)) := by rw [hW0]; exact heap_old _ _ (heap_old _ _ (heap_alloc_new _ _))
  have hH0 : W0.heap[w.heap.size + 1]? = some (.cells #[.int .i64 s, .int .i64 g] 34 (0, 0)) := by rw [hW0]; exact heap_old _ _ (heap_second _ _ _)
  have hR0 : W0.heap[w.heap.size + 1 + 1]? = some (.cells #[.slice none 0 0] 24 (0, 0)) := by rw [hW0]; have := heap_alloc_new ((w.alloc (.cells #[.slice p l.length c] 24)).alloc (.cells #[.int .i64 s, .int .i64 g] 34)) (.cells #[.slice none 0 0] 24); simpa using this
  have hs0 : W0.heap.size = w.heap.size + 3 := by rw [hW0]; simp
  have HV : Hid (_ ∧ _ ∧ _ ∧ _ ∧ _ ∧ _ ∧ _) := ⟨hv, hb0, hT0, hH0, hR0, hs0, hW0⟩
  clear hv hb0 hT0 hH0 hR0 hs0 hW0
  obtain ⟨⟨x1, x2, x3, x4⟩, e, hx⟩ : ∃ x e, gotE l s g = (x, e) := ⟨_, _, rfl⟩
  have hGt : Hid (∀ W y, SlAt W y l → Calls Try.prog 18 #[.agg #[y], .agg #[.int .i64 s, .int .i64 g]] W fun r w' => r = .returned (.tuple #[.agg #[.int .i64 x1, .bool x2, .int .i64 x3, .int .i64 x4], .int .i64 e]) ∧ Below W.heap.size W w') := fun W y hy => by
    have := got_any y l s g W hy
    rw [hx] at this
    exact this
  have hX : Hid _ := hx
  clear hx
  go_enter Try.func22, Try.ntmps22
  go_wp2_with fail
  rw [← HV.out.2.2.2.2.2.2]
  refine (hGt.out _ _ (HV.out.1.below HV.out.2.1)).mono ?_
  rintro r w1 ⟨rfl, hb1⟩
  have hT1 := box_below HV.out.2.2.1 hb1
  have hR1 := box_below HV.out.2.2.2.2.1 hb1
  have t0 := one_cell hT1
  have r0 := one_cell hR1
  have rf : w1.frozen? ⟨w.heap.size + 1 + 1, 0, none⟩ = false := by simp [World.frozen?, hR1]
  obtain ⟨h0, h1, _⟩ := two_cells (box_below HV.out.2.2.2.1 hb1)
  have hb01 := HV.out.2.1.trans (hb1.mono HV.out.2.1.size)
  have hl1 : w.heap.size + 1 + 1 < w1.heap.size := by have := hb1.size; have := HV.out.2.2.2.2.2.1; omega
  have hl2 : w.heap.size < w1.heap.size := by omega
  have hl3 : w.heap.size + 1 < w1.heap.size := by omega
  have H1 : Hid (_ ∧ _ ∧ _) := ⟨hT1, hR1, hb01⟩
  clear hT1 hR1 hb01 hb1
  obtain ⟨W2, hW2⟩ : ∃ W2, W2 = w1.alloc (.cells #[.int .i64 x1, .bool x2, .int .i64 x3, .int .i64 x4] 39) := ⟨_, rfl⟩
  have hb2 : Below w1.heap.size w1 W2 := by rw [hW2]; exact below_newC w1
  have hR2 := box_below H1.out.2.1 hb2
  have hb02 := H1.out.2.2.trans (hb2.mono H1.out.2.2.size)
  by_cases he : e = 0
  · subst he
    obtain ⟨hok, k, rfl, hk, hxk, hu, hg⟩ := got_ok hX.out
    have hbd := used_bound (hok.2 _ (List.getElem_mem hk)) (by rw [← hxk]; exact hu)
    rw [← hxk] at hbd
    have hl40 := hok.1.2
    have HO : Hid (_ ∧ _ ∧ _) := ⟨hW2, hR2, hb02⟩
    have hb2s := hb02.size
    have hx2 : x2 = true := hu
    subst hx2
    clear hok hxk hu hg hbd hW2 hR2 hb02
    cases hbk : decide (0 ≤ bk ∧ bk ≤ 11)
    · have hout : moveOut l k g bk = ([], 2) := by
        unfold moveOut
        rw [hX.out, if_pos rfl, if_neg (fun h2 => of_decide_eq_false hbk (be_in.2 h2))]
      have H3 : Hid (_ ∧ _ ∧ _) := ⟨heap_old _ (.cells #[.int .i64 x1, .bool true, .int .i64 x3, .int .i64 x4] 39) (one_set (v := .slice none 0 0) H1.out.2.1), (show Below w.heap.size w ((w1.setCell ⟨w.heap.size + 1 + 1, 0, none⟩ (.slice none 0 0)).alloc (.cells #[.int .i64 x1, .bool true, .int .i64 x3, .int .i64 x4] 39)) from (H1.out.2.2.setCell (by simp; omega) _).alloc (by simp; omega) _), hout⟩
      clear hout hb2
      go_wp2_with fail
      refine (in_any _ _ _ _).mono ?_
      rw [hbk]
      rintro r w4 ⟨rfl, rfl⟩
      go_wp2
      refine bodyPost_ret (v := .tuple #[.agg #[.slice none 0 0], .int .i64 2]) (results_ct Try.results22 rfl rfl (load_row (P := Try.prog) (cs := [.slice none 0 0]) H3.out.1 Try.underlying24 rfl (by kernel_rfl))) rfl ?_
      rw [H3.out.2.2]
      exact ⟨none, 0, rfl, World.ownsRow_nil _ _ _ _, H3.out.2.1⟩
    have hout : moveOut l k g bk = (l.set k (x1, true, x3, bk), 0) := by
      unfold moveOut
      rw [hX.out, if_pos rfl, if_pos (be_in.1 (of_decide_eq_true hbk))]
      simp
    have hWi : Hid (∀ W y, SlAt W y l → Calls Try.prog 32 #[.agg #[y], .int .i64 k, .agg #[.int .i64 x1, .bool true, .int .i64 x3, .int .i64 bk]] W fun r w' => ∃ p c, r = .returned (.agg #[.slice p l.length c]) ∧ w'.ownsRow W.heap.size 39 4 (.slice p l.length c) l.length (scells (l.set k (x1, true, x3, bk))) ∧ Below W.heap.size W w') := fun W y hy => changed_any y l k x1 true x3 bk W hy hk hl40
    have HU : Hid _ := hout
    clear hout
    obtain ⟨W4, hW4⟩ : ∃ W4, W4 = w1.alloc (.cells #[.int .i64 x1, .bool true, .int .i64 x3, .int .i64 x4] 39) := ⟨_, rfl⟩
    have hb4 : Below w1.heap.size w1 W4 := by rw [hW4]; exact below_newC w1
    have hR4 := box_below H1.out.2.1 hb4
    have hb04 := H1.out.2.2.trans (hb4.mono H1.out.2.2.size)
    have H4 : Hid (_ ∧ _ ∧ _) := ⟨hW4, hR4, hb04⟩
    have hb4s := hb4.size
    clear hW4 hR4 hb04 hb4 hb2 HO hb2s
    go_wp2_with fail
    refine (in_any _ _ _ _).mono ?_
    rw [hbk]
    rintro r w4 ⟨rfl, rfl⟩
    go_wp2_with fail
    rw [← H4.out.1]
    refine (hWi.out _ _ ((HV.out.1.below H4.out.2.2))).mono ?_
    rintro r w3 ⟨q, d, rfl, ho3, hb3⟩
    have hR3 := box_below H4.out.2.1 hb3
    have r3 := one_cell hR3
    have rf3 : w3.frozen? ⟨w.heap.size + 1 + 1, 0, none⟩ = false := by simp [World.frozen?, hR3]
    have hb03 := H4.out.2.2.trans (hb3.mono H4.out.2.2.size)
    have ho3' : (w3.setCell ⟨w.heap.size + 1 + 1, 0, none⟩ (.slice q l.length d)).ownsRow w.heap.size 39 4 (.slice q l.length d) l.length (scells (l.set k (x1, true, x3, bk))) :=
      (own_block ho3 (fun g' hg' => Below.heap_setCell _ _ _ _ (by have := (ho3.lt g' hg').1; simp; omega))).mono (by omega)
    have H3 : Hid (_ ∧ _ ∧ _) := ⟨one_set (v := .slice q l.length d) hR3, ho3', (show Below w.heap.size w (w3.setCell ⟨w.heap.size + 1 + 1, 0, none⟩ (.slice q l.length d)) from hb03.setCell (by simp; omega) _)⟩
    clear hR3 ho3 ho3' hb3 hb03 t0 r0 rf h0 h1
    go_wp2
    refine bodyPost_ret (v := .tuple #[.agg #[.slice q l.length d], .int .i64 0]) (results_ct Try.results22 rfl rfl (load_row (P := Try.prog) (cs := [.slice q l.length d]) H3.out.1 Try.underlying24 rfl (by kernel_rfl))) rfl ?_
    rw [HU.out]
    refine ⟨q, d, ?_, ?_, H3.out.2.2⟩
    · simp
    · simpa using H3.out.2.1
  · have hout : moveOut l s g bk = ([], e) := by unfold moveOut; rw [hX.out, if_neg he]
    have hne : (e != 0) = true := by simpa using he
    have H3 : Hid (_ ∧ _ ∧ _) := ⟨heap_old _ (.cells #[.int .i64 x1, .bool x2, .int .i64 x3, .int .i64 x4] 39) (one_set (v := .slice none 0 0) H1.out.2.1), (show Below w.heap.size w ((w1.setCell ⟨w.heap.size + 1 + 1, 0, none⟩ (.slice none 0 0)).alloc (.cells #[.int .i64 x1, .bool x2, .int .i64 x3, .int .i64 x4] 39)) from (H1.out.2.2.setCell (by simp; omega) _).alloc (by simp; omega) _), hout⟩
    clear hR2 hb02 hb2 hout hW2 he
    go_wp2
    refine bodyPost_ret (v := .tuple #[.agg #[.slice none 0 0], .int .i64 e]) (results_ct Try.results22 rfl rfl (load_row (P := Try.prog) (cs := [.slice none 0 0]) H3.out.1 Try.underlying24 rfl (by kernel_rfl))) rfl ?_
    rw [H3.out.2.2]
    exact ⟨none, 0, rfl, World.ownsRow_nil _ _ _ _, H3.out.2.1⟩
end Go.Proofs.Ytilcjcbghpbkjaa.Walks
