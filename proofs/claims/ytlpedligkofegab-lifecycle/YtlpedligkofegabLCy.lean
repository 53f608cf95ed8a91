/-
  LifeCycle: a backend joins, is active, drains, is retired, and may join again. No condition.
-/
import Derived.Test.YtlpedligkofegabKA
import Derived.Test.YtlpedligkofegabKC
import Derived.WalkKit
import Derived.ProofKit
import Derived.Handy
import Derived.LoopTactic
import Derived.Below
import Derived.Laws.BitsAllLaws
import Derived.RegionTactic
import Derived.Deep.RegionHeld3
import Derived.Deep.DrawnRows
import Derived.Deep.AppendLies
import Derived.Laws.OwnMore
import Derived.Deep.Onto
import Derived.Deep.QuietTactic
import Derived.BigQuiet
namespace Go.Proofs.Ytlpedligkofegab.Walks
open Go.RowKit
set_option linter.unusedVariables false
set_option linter.unusedSimpArgs false
attribute [local go_sem ↓] Go.wp_at_zero Go.wp_at_succ

theorem Bx.set {w W : World} {g : Nat} {va vb va' vb' : Value} {L L' : List Lf} {R R' : List Rq} (h : Bx w W g va vb L R) (hg : w.heap.size ≤ g) (hn : BkNew (g + 1) W va' vb' L' R') : Bx w (set2 W g va' vb') g va' vb' L' R' := by
  have ho := bk_out hn h.1 h.2.2 hg
  exact ⟨ho.1, ho.2.1.1, ho.2.2⟩

set_option maxHeartbeats 32000000 in
set_option maxRecDepth 200000 in
theorem cycle_law (v : Value) (l : List Rq) (wf : ∀ y ∈ l, ∀ n ∈ rqC y, (Lit.int .i64 n).wf = true) (bk : Int) (g1 : (Lit.int .i64 bk).wf = true) (wt : Int) (g2 : (Lit.int .i64 wt).wf = true) (nw : Int) (g3 : (Lit.int .i64 nw).wf = true) (w : World) (hat : RcAt rqC w v l) :
    Calls Try.prog 3 #[v, .int .i64 bk, .int .i64 wt, .int .i64 nw] w fun e w' => e = .returned (.bool true) ∧ Below w.heap.size w w' := by
  obtain ⟨i1, hi1, q1⟩ := picked_some bk 5 g1 (by omega) (by omega)
  obtain ⟨i2, hi2, q2⟩ := picked_some wt 8 g2 (by omega) (by omega)
  obtain ⟨i3, hi3, q3⟩ := picked_some nw 100 g3 (by omega) (by omega)
  obtain ⟨pa, ca, rfl, hca, hma⟩ := RcAt.form hat
  have H : Hid (_ ∧ _ ∧ _ ∧ _) := ⟨asked_some _ l wf w hat, q1, q2, q3⟩
  clear q1 q2 q3 g1 g2 g3 hat wf
  go_enter Try.func3, Try.ntmps3
  go_wp2_with fail
  refine Calls.mono H.out.1 ?_
  rintro r w1 ⟨L, R, now, p, c, q, m, rfl, hn1, hI, hb1⟩
  have hk30 : min l.length 30 ≤ 30 := Nat.min_le_right _ _
  have hn0 := hI.now0
  have hnk := hI.nowk
  obtain ⟨N, hN⟩ : ∃ N, N = 5 + (i1 : Int) := ⟨_, rfl⟩
  obtain ⟨G, hG⟩ : ∃ G, G = 1 + (i2 : Int) := ⟨_, rfl⟩
  obtain ⟨t, ht⟩ : ∃ t, t = now + (i3 : Int) := ⟨_, rfl⟩
  have ht0 : 0 ≤ t := by omega
  have ht1 : t ≤ 1000 := by omega
  obtain ⟨L1, R1, L2, R2, L3, R3, L4, s4, L6, R6, L8, R8, L9, L11, R11, e1, e2, e3, e4, e5, e6, e7, e8, e9, e10, e11⟩ := cycle_plain hI hk30 (n := N) (w := G) (t := t) (by omega) (by omega) ⟨ht0, ht1⟩
  have HE : Hid (_ ∧ _ ∧ _ ∧ _ ∧ _ ∧ _ ∧ _ ∧ _ ∧ _ ∧ _ ∧ _) := ⟨e1, e2, e3, e4, e5, e6, e7, e8, e9, e10, e11⟩
  obtain ⟨W1, hW1⟩ : ∃ W1, W1 = w1.alloc (bkO (.slice p L.length c) (.slice q R.length m)) := ⟨_, rfl⟩
  have hx1 : Bx w W1 w1.heap.size (.slice p L.length c) (.slice q R.length m) L R := by rw [hW1]; exact bx_new hn1.1 hb1
  obtain ⟨g, hg⟩ : ∃ g, g = w1.heap.size := ⟨_, rfl⟩
  have hgw : w.heap.size ≤ g := by rw [hg]; exact hb1.size
  rw [← hg] at hx1
  have HB1 : Hid (_ ∧ _) := ⟨hx1, hgw⟩
  have HNG : Hid (_ ∧ _ ∧ _) := ⟨hN, hG, ht⟩
  clear hn1 hI hb1 hx1 hgw e1 e2 e3 e4 e5 e6 e7 e8 e9 e10 e11 hN hG ht
  go_wp2_with fail
  rw [← hg, ← hW1]
  clear hg hW1
  refine (H.out.2.1 _).mono ?_
  rintro r w2 ⟨rfl, hw2⟩
  subst hw2
  go_wp2_with fail
  refine (H.out.2.2.1 _).mono ?_
  rintro r w2 ⟨rfl, hw2⟩
  subst hw2
  go_wp2_with fail
  refine (H.out.2.2.2 _).mono ?_
  rintro r w2 ⟨rfl, hw2⟩
  subst hw2
  obtain ⟨b0, b1, blt⟩ := HB1.out.1.cells
  obtain ⟨bf0, bf1⟩ := (two_cells HB1.out.1.1).2.2.imp id (·.1)
  have HA1 : Hid _ := ask_any (.slice p L.length c) (.slice q R.length m) L R 101 2 N 0 0 t 9 w2 HB1.out.1.2.1
  rw [HE.out.1] at HA1
  go_wp2_with fail
  rw [← HNG.out.1, ← HNG.out.2.1, ← HNG.out.2.2]
  clear b0 b1 blt bf0 bf1
  refine Calls.mono HA1.out ?_
  intro r v1 hp
  obtain ⟨p1, c1, q1, m1, rfl, hn, hb⟩ := askPost_open hp
  have hxx := HB1.out.1.below hb
  obtain ⟨b0, b1, blt⟩ := hxx.cells
  obtain ⟨bf0, bf1⟩ := (two_cells hxx.1).2.2.imp id (·.1)
  have hss := hxx.set HB1.out.2 (hn.mono (B' := g + 1) HB1.out.1.cells.2.2)
  obtain ⟨V1, hV1⟩ : ∃ V, V = (v1.setCell ⟨g, 0, none⟩ (.slice p1 L1.length c1)).setCell ⟨g, 1, none⟩ (.slice q1 R1.length m1) := ⟨_, rfl⟩
  replace hss : Bx w V1 g (.slice p1 L1.length c1) (.slice q1 R1.length m1) L1 R1 := by rw [hV1]; exact hss
  have HB2 : Hid (_ ∧ _) := ⟨hss, HB1.out.2⟩
  clear hp hn hb hxx hss
  have HA2 : Hid _ := ask_any (.slice p1 L1.length c1) (.slice q1 R1.length m1) L1 R1 102 1 N G 0 t 9 V1 HB2.out.1.2.1
  rw [HE.out.2.1] at HA2
  go_wp2_with fail
  rw [← hV1]
  clear hV1
  clear b0 b1 blt bf0 bf1
  refine Calls.mono HA2.out ?_
  intro r v2 hp
  obtain ⟨p2, c2, q2, m2, rfl, hn, hb⟩ := askPost_open hp
  have hxx := HB2.out.1.below hb
  obtain ⟨b0, b1, blt⟩ := hxx.cells
  obtain ⟨bf0, bf1⟩ := (two_cells hxx.1).2.2.imp id (·.1)
  have hss := hxx.set HB2.out.2 (hn.mono (B' := g + 1) HB2.out.1.cells.2.2)
  obtain ⟨V2, hV2⟩ : ∃ V, V = (v2.setCell ⟨g, 0, none⟩ (.slice p2 L2.length c2)).setCell ⟨g, 1, none⟩ (.slice q2 R2.length m2) := ⟨_, rfl⟩
  replace hss : Bx w V2 g (.slice p2 L2.length c2) (.slice q2 R2.length m2) L2 R2 := by rw [hV2]; exact hss
  have HB3 : Hid (_ ∧ _) := ⟨hss, HB2.out.2⟩
  clear hp hn hb hxx hss
  have HA3 : Hid _ := ask_any (.slice p2 L2.length c2) (.slice q2 R2.length m2) L2 R2 103 1 N G 0 t 9 V2 HB3.out.1.2.1
  rw [HE.out.2.2.1] at HA3
  go_wp2_with fail
  rw [← hV2]
  clear hV2
  clear b0 b1 blt bf0 bf1
  refine Calls.mono HA3.out ?_
  intro r v3 hp
  obtain ⟨p3, c3, q3, m3, rfl, hn, hb⟩ := askPost_open hp
  have hxx := HB3.out.1.below hb
  obtain ⟨b0, b1, blt⟩ := hxx.cells
  obtain ⟨bf0, bf1⟩ := (two_cells hxx.1).2.2.imp id (·.1)
  have hss := hxx.set HB3.out.2 (hn.mono (B' := g + 1) HB3.out.1.cells.2.2)
  obtain ⟨V3, hV3⟩ : ∃ V, V = (v3.setCell ⟨g, 0, none⟩ (.slice p3 L3.length c3)).setCell ⟨g, 1, none⟩ (.slice q3 R3.length m3) := ⟨_, rfl⟩
  replace hss : Bx w V3 g (.slice p3 L3.length c3) (.slice q3 R3.length m3) L3 R3 := by rw [hV3]; exact hss
  have HB4 : Hid (_ ∧ _) := ⟨hss, HB3.out.2⟩
  clear hp hn hb hxx hss
  have HA4 : Hid _ := wakeApi_any (.slice p3 L3.length c3) (.slice q3 R3.length m3) L3 R3 (t + 1) V3 HB4.out.1.2.1
  rw [HE.out.2.2.2.1] at HA4
  go_wp2_with fail
  rw [← hV3]
  clear hV3
  clear b0 b1 blt bf0 bf1
  refine Calls.mono HA4.out ?_
  intro r v4 hp
  obtain ⟨p4, c4, q4, m4, u4, k4, rfl, hn, _, hb⟩ := wakePost_open hp
  have hxx := HB4.out.1.below hb
  obtain ⟨b0, b1, blt⟩ := hxx.cells
  obtain ⟨bf0, bf1⟩ := (two_cells hxx.1).2.2.imp id (·.1)
  have hss := hxx.set HB4.out.2 (hn.mono (B' := g + 1) HB4.out.1.cells.2.2)
  obtain ⟨V4, hV4⟩ : ∃ V, V = (v4.setCell ⟨g, 0, none⟩ (.slice p4 L4.length c4)).setCell ⟨g, 1, none⟩ (.slice q4 R3.length m4) := ⟨_, rfl⟩
  replace hss : Bx w V4 g (.slice p4 L4.length c4) (.slice q4 R3.length m4) L4 R3 := by rw [hV4]; exact hss
  have HB5 : Hid (_ ∧ _) := ⟨hss, HB4.out.2⟩
  clear hp hn hb hxx hss
  have HA5 : Hid _ := of_any (.slice p4 L4.length c4) (.slice q4 R3.length m4) L4 R3 N V4 HB5.out.1.2.1 N 2 G (t + 1) 0 0 0 HE.out.2.2.2.2.1
  go_wp2_with fail
  rw [← hV4]
  clear hV4
  clear b0 b1 blt bf0 bf1
  refine Calls.mono HA5.out ?_
  rintro r v5 ⟨rfl, hb⟩
  have hxx := HB5.out.1.below hb
  obtain ⟨V5, hV5⟩ : ∃ V, V = v5.alloc (lfO N 2 G (t + 1) 0 0) := ⟨_, rfl⟩
  have hyy : Bx w V5 g (.slice p4 L4.length c4) (.slice q4 R3.length m4) L4 R3 := by rw [hV5]; exact hxx.alloc _
  have hln : V5.heap[v5.heap.size]? = some (lfO N 2 G (t + 1) 0 0) := by rw [hV5]; exact heap_alloc_new _ _
  have hgl : g < v5.heap.size := hxx.cells.2.2
  obtain ⟨b0, b1, blt⟩ := hxx.cells
  obtain ⟨bf0, bf1⟩ := (two_cells hxx.1).2.2.imp id (·.1)
  obtain ⟨x5, hx5⟩ : ∃ x, x = v5.heap.size := ⟨_, rfl⟩
  rw [← hx5] at hln hgl
  have HGx5 : Hid _ := hgl
  have HB6 : Hid (_ ∧ _ ∧ _) := ⟨hyy, HB5.out.2, hln⟩
  clear hb hxx hyy hln hgl
  have HA6 : Hid _ := ask_any (.slice p4 L4.length c4) (.slice q4 R3.length m4) L4 R3 104 2 N 0 0 (t + 2) 9 V5 HB6.out.1.2.1
  rw [HE.out.2.2.2.2.2.1] at HA6
  go_wp2_with fail
  rw [← hx5, ← hV5]
  clear hV5 hx5
  clear b0 b1 blt bf0 bf1
  refine Calls.mono HA6.out ?_
  intro r v6 hp
  obtain ⟨p6, c6, q6, m6, rfl, hn, hb⟩ := askPost_open hp
  have hxx := HB6.out.1.below hb
  obtain ⟨b0, b1, blt⟩ := hxx.cells
  obtain ⟨bf0, bf1⟩ := (two_cells hxx.1).2.2.imp id (·.1)
  have hss := hxx.set HB6.out.2.1 (hn.mono (B' := g + 1) HB6.out.1.cells.2.2)
  obtain ⟨V6, hV6⟩ : ∃ V, V = (v6.setCell ⟨g, 0, none⟩ (.slice p6 L6.length c6)).setCell ⟨g, 1, none⟩ (.slice q6 R6.length m6) := ⟨_, rfl⟩
  replace hss : Bx w V6 g (.slice p6 L6.length c6) (.slice q6 R6.length m6) L6 R6 := by rw [hV6]; exact hss
  have hl0 : V6.heap[x5]? = some (lfO N 2 G (t + 1) 0 0) := by rw [hV6]; exact (set2_other (by have := HGx5.out; omega)).trans (box_below HB6.out.2.2 hb)
  have HB7 : Hid (_ ∧ _ ∧ _) := ⟨hss, HB6.out.2.1, hl0⟩
  clear hp hn hb hxx hss hl0
  have HA7 : Hid _ := of_any (.slice p6 L6.length c6) (.slice q6 R6.length m6) L6 R6 N V6 HB7.out.1.2.1 N 3 G (t + 1) (t + 2 + 9) 104 0 HE.out.2.2.2.2.2.2.1
  go_wp2_with fail
  rw [← hV6]
  clear hV6
  clear b0 b1 blt bf0 bf1
  refine Calls.mono HA7.out ?_
  rintro r v7 ⟨rfl, hb⟩
  have hxx := HB7.out.1.below hb
  obtain ⟨V7, hV7⟩ : ∃ V, V = v7.alloc (lfO N 3 G (t + 1) (t + 2 + 9) 104) := ⟨_, rfl⟩
  have hyy : Bx w V7 g (.slice p6 L6.length c6) (.slice q6 R6.length m6) L6 R6 := by rw [hV7]; exact hxx.alloc _
  have hln : V7.heap[v7.heap.size]? = some (lfO N 3 G (t + 1) (t + 2 + 9) 104) := by rw [hV7]; exact heap_alloc_new _ _
  have hgl : g < v7.heap.size := hxx.cells.2.2
  obtain ⟨b0, b1, blt⟩ := hxx.cells
  obtain ⟨bf0, bf1⟩ := (two_cells hxx.1).2.2.imp id (·.1)
  obtain ⟨x7, hx7⟩ : ∃ x, x = v7.heap.size := ⟨_, rfl⟩
  rw [← hx7] at hln hgl
  have HGx7 : Hid _ := hgl
  have hl0 : V7.heap[x5]? = some (lfO N 2 G (t + 1) 0 0) := by rw [hV7]; exact heap_old _ _ (box_below HB7.out.2.2 hb)
  have HB8 : Hid (_ ∧ _ ∧ _ ∧ _) := ⟨hyy, HB7.out.2.1, hl0, hln⟩
  clear hb hxx hyy hln hgl hl0
  have HA8 : Hid _ := ask_any (.slice p6 L6.length c6) (.slice q6 R6.length m6) L6 R6 105 2 N 0 0 (t + 2) 9 V7 HB8.out.1.2.1
  rw [HE.out.2.2.2.2.2.2.2.1] at HA8
  go_wp2_with fail
  rw [← hx7, ← hV7]
  clear hV7 hx7
  clear b0 b1 blt bf0 bf1
  refine Calls.mono HA8.out ?_
  intro r v8 hp
  obtain ⟨p8, c8, q8, m8, rfl, hn, hb⟩ := askPost_open hp
  have hxx := HB8.out.1.below hb
  obtain ⟨b0, b1, blt⟩ := hxx.cells
  obtain ⟨bf0, bf1⟩ := (two_cells hxx.1).2.2.imp id (·.1)
  have hss := hxx.set HB8.out.2.1 (hn.mono (B' := g + 1) HB8.out.1.cells.2.2)
  obtain ⟨V8, hV8⟩ : ∃ V, V = (v8.setCell ⟨g, 0, none⟩ (.slice p8 L8.length c8)).setCell ⟨g, 1, none⟩ (.slice q8 R8.length m8) := ⟨_, rfl⟩
  replace hss : Bx w V8 g (.slice p8 L8.length c8) (.slice q8 R8.length m8) L8 R8 := by rw [hV8]; exact hss
  have hl0 : V8.heap[x5]? = some (lfO N 2 G (t + 1) 0 0) := by rw [hV8]; exact (set2_other (by have := HGx5.out; omega)).trans (box_below HB8.out.2.2.1 hb)
  have hl1 : V8.heap[x7]? = some (lfO N 3 G (t + 1) (t + 2 + 9) 104) := by rw [hV8]; exact (set2_other (by have := HGx7.out; omega)).trans (box_below HB8.out.2.2.2 hb)
  have HB9 : Hid (_ ∧ _ ∧ _ ∧ _) := ⟨hss, HB8.out.2.1, hl0, hl1⟩
  clear hp hn hb hxx hss hl0 hl1
  have HA9 : Hid _ := finish_any (.slice p8 L8.length c8) (.slice q8 R8.length m8) L8 R8 N V8 HB9.out.1.2.1
  rw [HE.out.2.2.2.2.2.2.2.2.1] at HA9
  go_wp2_with fail
  rw [← hV8]
  clear hV8
  clear b0 b1 blt bf0 bf1
  refine Calls.mono HA9.out ?_
  intro r v9 hp
  obtain ⟨p9, c9, q9, m9, rfl, hn, hb⟩ := finPost_open hp
  have hxx := HB9.out.1.below hb
  obtain ⟨b0, b1, blt⟩ := hxx.cells
  obtain ⟨bf0, bf1⟩ := (two_cells hxx.1).2.2.imp id (·.1)
  have hss := hxx.set HB9.out.2.1 (hn.mono (B' := g + 1) HB9.out.1.cells.2.2)
  obtain ⟨V9, hV9⟩ : ∃ V, V = (v9.setCell ⟨g, 0, none⟩ (.slice p9 L9.length c9)).setCell ⟨g, 1, none⟩ (.slice q9 R8.length m9) := ⟨_, rfl⟩
  replace hss : Bx w V9 g (.slice p9 L9.length c9) (.slice q9 R8.length m9) L9 R8 := by rw [hV9]; exact hss
  have hl0 : V9.heap[x5]? = some (lfO N 2 G (t + 1) 0 0) := by rw [hV9]; exact (set2_other (by have := HGx5.out; omega)).trans (box_below HB9.out.2.2.1 hb)
  have hl1 : V9.heap[x7]? = some (lfO N 3 G (t + 1) (t + 2 + 9) 104) := by rw [hV9]; exact (set2_other (by have := HGx7.out; omega)).trans (box_below HB9.out.2.2.2 hb)
  have HB10 : Hid (_ ∧ _ ∧ _ ∧ _) := ⟨hss, HB9.out.2.1, hl0, hl1⟩
  clear hp hn hb hxx hss hl0 hl1
  have HA10 : Hid _ := of_any (.slice p9 L9.length c9) (.slice q9 R8.length m9) L9 R8 N V9 HB10.out.1.2.1 N 4 G (t + 1) (t + 2 + 9) 104 0 HE.out.2.2.2.2.2.2.2.2.2.1
  go_wp2_with fail
  rw [← hV9]
  clear hV9
  clear b0 b1 blt bf0 bf1
  refine Calls.mono HA10.out ?_
  rintro r v10 ⟨rfl, hb⟩
  have hxx := HB10.out.1.below hb
  obtain ⟨V10, hV10⟩ : ∃ V, V = v10.alloc (lfO N 4 G (t + 1) (t + 2 + 9) 104) := ⟨_, rfl⟩
  have hyy : Bx w V10 g (.slice p9 L9.length c9) (.slice q9 R8.length m9) L9 R8 := by rw [hV10]; exact hxx.alloc _
  have hln : V10.heap[v10.heap.size]? = some (lfO N 4 G (t + 1) (t + 2 + 9) 104) := by rw [hV10]; exact heap_alloc_new _ _
  have hgl : g < v10.heap.size := hxx.cells.2.2
  obtain ⟨b0, b1, blt⟩ := hxx.cells
  obtain ⟨bf0, bf1⟩ := (two_cells hxx.1).2.2.imp id (·.1)
  obtain ⟨x10, hx10⟩ : ∃ x, x = v10.heap.size := ⟨_, rfl⟩
  rw [← hx10] at hln hgl
  have HGx10 : Hid _ := hgl
  have hl0 : V10.heap[x5]? = some (lfO N 2 G (t + 1) 0 0) := by rw [hV10]; exact heap_old _ _ (box_below HB10.out.2.2.1 hb)
  have hl1 : V10.heap[x7]? = some (lfO N 3 G (t + 1) (t + 2 + 9) 104) := by rw [hV10]; exact heap_old _ _ (box_below HB10.out.2.2.2 hb)
  have HB11 : Hid (_ ∧ _ ∧ _ ∧ _ ∧ _) := ⟨hyy, HB10.out.2.1, hl0, hl1, hln⟩
  clear hb hxx hyy hln hgl hl0 hl1
  have HA11 : Hid _ := ask_any (.slice p9 L9.length c9) (.slice q9 R8.length m9) L9 R8 106 1 N G 0 (t + 3) 9 V10 HB11.out.1.2.1
  rw [HE.out.2.2.2.2.2.2.2.2.2.2] at HA11
  go_wp2_with fail
  rw [← hx10, ← hV10]
  clear hV10 hx10 b0 b1 blt bf0 bf1
  refine Calls.mono HA11.out ?_
  intro r v11 hp
  obtain ⟨p11, c11, q11, m11, rfl, hn, hb⟩ := askPost_open hp
  obtain ⟨s0, s1, s2, s3, s4', s5, slt⟩ := six_cells (box_below HB11.out.2.2.1 hb)
  obtain ⟨y0, y1, y2, y3, y4, y5, ylt⟩ := six_cells (box_below HB11.out.2.2.2.1 hb)
  obtain ⟨z0, z1, z2, z3, z4, z5, zlt⟩ := six_cells (box_below HB11.out.2.2.2.2 hb)
  have HZ : Hid _ := HB11.out.1.2.2.trans (hb.mono HB11.out.1.2.2.size)
  clear hp hn hb
  go_wp2
  go_ret
  exact ⟨by simp, HZ.out.alloc HZ.out.size _⟩
end Go.Proofs.Ytlpedligkofegab.Walks
