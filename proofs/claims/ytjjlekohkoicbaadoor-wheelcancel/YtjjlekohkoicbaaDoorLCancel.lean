/-
  The law of cancelling: a timer that is cancelled leaves nothing behind, and can be armed again. No condition.
-/
import Derived.Test.YtjjlekohkoicbaaDoorArmed
import Derived.Test.YtjjlekohkoicbaaDoorCancel
import Derived.Deep.CutRange
import Derived.Deep.RegionWith
import Derived.WalkKit
import Derived.ProofKit
import Derived.Handy
import Derived.LoopTactic
import Derived.Below
import Derived.Laws.BitsAllLaws
import Derived.RegionTactic
import Derived.Deep.RegionHeld3
import Derived.Deep.DrawnRows
import Derived.Deep.AppendLies
import Derived.Laws.OwnMore
import Derived.Deep.Onto
import Derived.Deep.QuietTactic
import Derived.BigQuiet
namespace Go.Proofs.YtjjlekohkoicbaaDoor.Walks
open Go.RowKit
set_option linter.unusedVariables false
set_option linter.unusedSimpArgs false
attribute [local go_sem ↓] Go.wp_at_zero Go.wp_at_succ

theorem cancel_none (v : Value) (now id : Int) (ls : List (List Tm)) (w : World) (hB : Blk w) (hx : LsAt w v ls) (hm : May now ls) (hid : (Lit.int .i64 id).wf = true) (hn : ∀ t ∈ ls.flatten, t.2 ≠ id) :
    Calls Tryd.prog 12 #[.agg #[.int .i64 now, v], .int .i64 id] w fun r w' => r = .returned (.tuple #[.agg #[.int .i64 0, .slice none 0 0], .int .i64 8]) ∧ Below w.heap.size w w' :=
  (cancel_rest v now id ls w hB hx hm hid).mono fun r w' ⟨hb, h⟩ => by
    rcases h with ⟨_, h⟩ | ⟨⟨t, ht, e⟩, _⟩
    · exact ⟨h, hb⟩
    · exact absurd e (hn t ht)

theorem cancel_fine (v : Value) (now id : Int) (ls : List (List Tm)) (w : World) (hB : Blk w) (hx : LsAt w v ls) (hm : May now ls) (hid : (Lit.int .i64 id).wf = true) (hn : ∃ t ∈ ls.flatten, t.2 = id) :
    Calls Tryd.prog 12 #[.agg #[.int .i64 now, v], .int .i64 id] w fun r w' => ∃ p c ms, r = .returned (.tuple #[.agg #[.int .i64 now, .slice p 25 c], .int .i64 0]) ∧ OwnW w' w.heap.size p c ms ∧ Gone now id ls ms ∧ Below w.heap.size w w' :=
  (cancel_rest v now id ls w hB hx hm hid).mono fun r w' ⟨hb, h⟩ => by
    rcases h with ⟨h1, _⟩ | ⟨_, p, c, ms, h1, h2, h3⟩
    · obtain ⟨t, ht, e⟩ := hn
      exact absurd e (h1 t ht)
    · exact ⟨p, c, ms, h1, h2, h3, hb⟩

set_option maxHeartbeats 8000000 in
set_option maxRecDepth 100000 in
theorem cancel_walk {w : World} (now : Int) (w0 : (Lit.int .i64 now).wf = true) (v : Value) (l : List Tm) (hAt : TmAt w v l) (hwf : ∀ t ∈ l, (Lit.int .i64 t.1).wf = true ∧ (Lit.int .i64 t.2).wf = true) (hlen : l.length ≤ 140737488351232 / 16) (id : Int) (w5 : (Lit.int .i64 id).wf = true) (inn : Int) (w6 : (Lit.int .i64 inn).wf = true) (hB : Blk w) :
    Calls Tryd.prog 7 #[.int .i64 now, v, .int .i64 id, .int .i64 inn] w fun r w' => r = .returned (.bool true) ∧ Below w.heap.size w w' := by
  obtain ⟨i, hi, HI⟩ := picked_some id 20 w5 (by omega) (by omega)
  obtain ⟨x, hx, HX⟩ := picked_some inn 500 w6 (by omega) (by omega)
  have HC : Hid (_ ∧ _ ∧ _ ∧ _ ∧ _ ∧ _) := ⟨HI, hAt, hwf, hB, w0, HX⟩
  obtain ⟨va, vc, rfl, _⟩ := hAt.parts
  clear HI HX hAt hwf hB w0 w5 w6 hlen
  go_enter Tryd.func7, Tryd.ntmps7
  go_wp2_with fail
  refine (armed_any w now HC.out.2.2.2.2.1 _ l (fun W hW => HC.out.2.1.below hW) HC.out.2.2.1 HC.out.2.2.2.1).mono ?_
  rintro r w1 ⟨n, p, c, a, ls, rfl, hn, hO, hS, hb1⟩
  have HT : Hid (((w1.alloc (.cells #[.int .i64 n, .slice p 25 c] 24)).alloc (.cells (icells (List.replicate 20 0)).toArray 39)).there (w1.heap.size + 1) 0 (icells a).toArray.size ∧ (Tryd.prog.info? 39).map (·.size) = some (icells a).toArray.size) := by
    have h1 := (Arr.new (w1.alloc (.cells #[.int .i64 n, .slice p 25 c] 24)) 39 (List.replicate 20 0)).there
    rw [World.size_alloc, List.length_replicate] at h1
    have e : (icells a).toArray.size = 20 := by simp [icells_len, hS.len]
    rw [e]
    exact ⟨h1, info20⟩
  have H1 : Hid (_ ∧ _ ∧ _) := ⟨hO, hS, hb1⟩
  clear hO hS hb1
  have HT0 := H1.out.2.2
  obtain ⟨W0, hW0⟩ : ∃ W0, W0 = (((w1.alloc (.cells #[.int .i64 n, .slice p 25 c] 24)).alloc (.cells (icells (List.replicate 20 0)).toArray 39)).setCells (w1.heap.size + 1) 0 (icells a)) := ⟨_, rfl⟩
  have hb10 : Below w1.heap.size w1 W0 := by
    rw [hW0]
    have h1 : Below w1.heap.size w1 ((w1.alloc (.cells #[.int .i64 n, .slice p 25 c] 24)).alloc (.cells (icells (List.replicate 20 0)).toArray 39)) := ((Below.refl _ _).alloc (Nat.le_refl _) _).alloc (by simp) _
    exact below_setCells h1 (by omega) _ _ h1.size
  have hX0 : Bx W0 w1.heap.size n p c := by
    rw [hW0]
    exact (World.heap_setCells_other _ _ _ _ (by simp; omega) (by omega)).trans (heap_old _ _ (heap_alloc_new _ _))
  have hA0 : Arr 39 20 W0 (w1.heap.size + 1) a := by
    rw [hW0]
    have h1 := Arr.new (w1.alloc (.cells #[.int .i64 n, .slice p 25 c] 24)) 39 (List.replicate 20 0)
    rw [World.size_alloc, List.length_replicate] at h1
    exact (h1.store (P := Tryd.prog) H1.out.2.1.len info20).2
  have H2 : Hid (_ ∧ _ ∧ _ ∧ _ ∧ _) := ⟨hX0, hA0, H1.out.1.at.below hb10, HT0.trans (hb10.mono HT0.size), hW0⟩
  have hsw : w.heap.size ≤ w1.heap.size := HT0.size
  clear hX0 hA0 hb10 HT0 hW0
  go_wp2_with (first | (refine wpList_store_mid rfl 39 _ _ rfl (w1.heap.size + 1) 0 (icells a).toArray rfl rfl HT.out.1 HT.out.2 (all_oneCell_toArray (icells_one a)) ?_))
  refine (HC.out.1 _).mono ?_
  rintro r w2 ⟨rfl, hw2⟩
  rw [zeros20, show (((w1.alloc (.cells #[.int .i64 n, .slice p 25 c] 24)).alloc (.cells (icells (List.replicate 20 0)).toArray 39)).setCells (w1.heap.size + 1) 0 (icells a)) = W0 from H2.out.2.2.2.2.symm] at hw2
  subst hw2
  obtain ⟨x0, x1, _, _, _⟩ := two_cells H2.out.1
  have hia : i < a.length := by rw [H1.out.2.1.len]; exact hi
  have y0 := H2.out.2.1.cell i hia
  have hiI : (i : Int) < 20 := by omega
  go_wp2_with fail
  go_quiet ((go_at_call 18; exact Calls.quiet_of ((HC.out.2.2.2.2.2 _).mono fun r w' h => ⟨h.1, 0, h.2⟩)))
  obtain ⟨hX, hA, hL, hbw, _⟩ := H2.out
  have hb3 : Below w2.heap.size w2 (w2.drewN nq) := below_drewN (Below.refl _ _) nq
  generalize w2.drewN nq = w3 at hb3 ⊢
  have hX3 := hX.below hb3
  have hA3 := hA.below hb3
  have hL3 := hL.below hb3
  have hbw3 := hbw.trans (hb3.mono hbw.size)
  have hSt := H1.out.2.1
  have y3 := hA3.cell i hia
  have hlt1 := hX3.lt
  have hlt2 := hA3.lt
  obtain ⟨d0, d1, _, _, _⟩ := two_cells hX3
  have hbv : a[i] = 0 ∨ (n : Int) < a[i] ∧ a[i] ≤ n + 500 := hSt.bnd _ (List.getElem_mem hia)
  have hwi : (Lit.int .i64 (i : Int)).wf = true := wf_small (by omega) (by omega)
  have hB3 := HC.out.2.2.2.1.below hbw3
  have HR : Hid (_ ∧ _ ∧ _ ∧ _ ∧ _ ∧ _) := ⟨hX3, hA3, hL3, hbw3, hSt, hB3⟩
  clear hX hA hL hbw hb3 hX3 hA3 hL3 hbw3 hSt hB3 x0 x1 y0 HT
  by_cases h0 : a[i] = 0
  · have hfree : ∀ t ∈ ls.flatten, t.2 ≠ (i : Int) := HR.out.2.2.2.2.1.free hia (by omega)
    rw [h0] at y3
    have HF : Hid _ := hfree
    clear hfree hbv h0
    go_wp2_with fail
    refine (cancel_none _ n i ls _ HR.out.2.2.2.2.2 HR.out.2.2.1 HR.out.2.2.2.2.1.may hwi HF.out).mono ?_
    rintro r w4 ⟨rfl, hb4⟩
    have hN4 : Below w4.heap.size w4 (w4.alloc (.cells #[.int .i64 0, .slice none 0 0] 24)) := (Below.refl _ _).alloc (Nat.le_refl _) _
    have hb34 := hb4.trans (hN4.mono hb4.size)
    have hs4 := hb4.size
    have hX4 := HR.out.1.below hb4
    obtain ⟨e0, e1, _, _, _⟩ := two_cells hX4
    have hlt4 : w1.heap.size < w4.heap.size := by omega
    have H4 : Hid (_ ∧ _) := ⟨hb34, hX4⟩
    clear hb4 hN4 hb34 hX4 d0 d1
    go_wp2_with fail
    have hbw4 := HR.out.2.2.2.1.trans (H4.out.1.mono HR.out.2.2.2.1.size)
    refine (arm_fine _ n i (n + 1 + x) ls _ (HC.out.2.2.2.1.below hbw4) (HR.out.2.2.1.below H4.out.1) HR.out.2.2.2.2.1.may (HR.out.2.2.2.2.1.fit (by omega) hi x hx) HF.out).mono ?_
    rintro r w5 ⟨p5, c5, rfl, hO5, hM5, hb5⟩
    have hs5 := hb5.size
    have hlt5 : w4.heap.size < w5.heap.size := by simp at hs5; omega
    have hb35 := H4.out.1.trans (hb5.mono H4.out.1.size)
    have hN5 : Below w5.heap.size w5 (w5.alloc (.cells #[.int .i64 n, .slice p5 25 c5] 24)) := (Below.refl _ _).alloc (Nat.le_refl _) _
    have hb35' := hb35.trans (hN5.mono hb35.size)
    have hX5 := HR.out.1.below hb35
    have H5 : Hid (_ ∧ _ ∧ _ ∧ _) := ⟨hO5.at.below hN5, hM5, hb35', hX5⟩
    clear hO5 hM5 hb5 hb35 hN5 hb35' hX5 e0 e1 hs5
    go_wp2_with fail
    have hbw5 := HR.out.2.2.2.1.trans (H5.out.2.2.1.mono HR.out.2.2.2.1.size)
    refine (cancel_fine _ n i _ _ (HC.out.2.2.2.1.below hbw5) H5.out.1 H5.out.2.1 hwi ⟨(n + 1 + x, (i : Int)), (mem_add HR.out.2.2.2.2.1.may.2 _ _).2 (.inl rfl), rfl⟩).mono ?_
    rintro r w6 ⟨p6, c6, ms, rfl, hO6, hG6, hb6⟩
    have hs6 := hb6.size
    have hlt6 : w5.heap.size < w6.heap.size := by simp at hs6; omega
    have hb36 := H5.out.2.2.1.trans (hb6.mono H5.out.2.2.1.size)
    have hN6 : Below w6.heap.size w6 (w6.alloc (.cells #[.int .i64 n, .slice p6 25 c6] 24)) := (Below.refl _ _).alloc (Nat.le_refl _) _
    have hb36' := hb36.trans (hN6.mono hb36.size)
    have hX6 := HR.out.1.below hb36
    obtain ⟨f0, f1, _, _, _⟩ := two_cells hX6
    have hlt7 : w1.heap.size < w6.heap.size := by omega
    have hms : ms = ls := ok_unique hG6.may.2 HR.out.2.2.2.2.1.may.2 fun t => by
      rw [hG6.mem, mem_add HR.out.2.2.2.2.1.may.2]
      constructor
      · rintro ⟨rfl | h, h'⟩
        · exact absurd rfl h'
        · exact h
      · exact fun h => ⟨.inr h, HF.out t h⟩
    have hbw6 := HR.out.2.2.2.1.trans (hb36'.mono HR.out.2.2.2.1.size)
    have H6 : Hid (_ ∧ _ ∧ _) := ⟨(hms ▸ hO6).at.below hN6, HR.out.2.2.1.below hb36', hbw6⟩
    clear hO6 hG6 hb6 hb36 hN6 hb36' hX6 hms hs6 hbw6
    go_wp2_with fail
    refine (keepSame _ _ n ls _ ⟨_, rfl, H6.out.1⟩ ⟨_, rfl, H6.out.2.1⟩).mono ?_
    rintro r w9 ⟨rfl, hb9⟩
    have H9 : Hid _ := hb9
    clear hb9
    go_wp2
    go_ret
    exact ⟨rfl, H6.out.2.2.trans (H9.out.mono H6.out.2.2.size)⟩
  · have hpos : 0 < a[i] := by omega
    have hin : (a[i], (i : Int)) ∈ ls.flatten := (HR.out.2.2.2.2.1.mem _).2 ⟨i, hia, rfl, hpos⟩
    have hfit : fitsT n (a[i], (i : Int)) = true := fits_of (by omega) (by omega) (by omega) (by omega) (by omega)
    generalize hax : a[i] = ax at *
    have HF : Hid (_ ∧ _) := ⟨hin, hfit⟩
    have hne0 : (ax == 0) = false := by simpa using h0
    clear hin hfit hbv h0 hax
    go_wp2_with fail
    refine (arm_twice _ n i (n + 1 + x) ls _ HR.out.2.2.2.2.2 HR.out.2.2.1 HR.out.2.2.2.2.1.may (HR.out.2.2.2.2.1.fit (by omega) hi x hx) ⟨_, HF.out.1, rfl⟩).mono ?_
    rintro r w4 ⟨rfl, hb4⟩
    have hN4 : Below w4.heap.size w4 (w4.alloc (.cells #[.int .i64 0, .slice none 0 0] 24)) := (Below.refl _ _).alloc (Nat.le_refl _) _
    have hb34 := hb4.trans (hN4.mono hb4.size)
    have hs4 := hb4.size
    have hX4 := HR.out.1.below hb4
    obtain ⟨e0, e1, _, _, _⟩ := two_cells hX4
    have hlt4 : w1.heap.size < w4.heap.size := by omega
    have H4 : Hid (_ ∧ _) := ⟨hb34, hX4⟩
    clear hb4 hN4 hb34 hX4 d0 d1
    go_wp2_with fail
    have hbw4 := HR.out.2.2.2.1.trans (H4.out.1.mono HR.out.2.2.2.1.size)
    refine (cancel_fine _ n i ls _ (HC.out.2.2.2.1.below hbw4) (HR.out.2.2.1.below H4.out.1) HR.out.2.2.2.2.1.may hwi ⟨_, HF.out.1, rfl⟩).mono ?_
    rintro r w5 ⟨p5, c5, ms, rfl, hO5, hG5, hb5⟩
    have hs5 := hb5.size
    have hlt5 : w4.heap.size < w5.heap.size := by simp at hs5; omega
    have hb35 := H4.out.1.trans (hb5.mono H4.out.1.size)
    obtain ⟨W5, hW5⟩ : ∃ W5, W5 = w5.alloc (.cells #[.int .i64 n, .slice p5 25 c5] 24) := ⟨_, rfl⟩
    have hN5 : Below w5.heap.size w5 W5 := by rw [hW5]; exact (Below.refl _ _).alloc (Nat.le_refl _) _
    have hXn : Bx W5 w5.heap.size n p5 c5 := by rw [hW5]; exact Bx.new _ _ _ _
    have hb35' := hb35.trans (hN5.mono hb35.size)
    have hA5 := HR.out.2.1.below hb35'
    have z3 : W5.cell? ⟨w1.heap.size + 1, i, none⟩ = some (.int .i64 ax) := (World.cell?_of_block (a := ⟨w1.heap.size + 1, i, none⟩) (hb35'.block _ HR.out.2.1.lt)).trans y3
    obtain ⟨z0, z1, _, _, z2⟩ := two_cells hXn
    have hz3 := World.block_lt_of_cell? W5 ⟨w1.heap.size + 1, i, none⟩ z3
    have hbw5 := HR.out.2.2.2.1.trans (hb35'.mono HR.out.2.2.2.1.size)
    have hO5' := hO5.at.below hN5
    have hfr : ∀ t ∈ ms.flatten, t.2 ≠ (i : Int) := fun t ht => ((hG5.mem t).1 ht).2
    have hunq : addT ms n (ax, (i : Int)) = ls := ok_unique (hG5.may.add HF.out.2 hfr).2 HR.out.2.2.2.2.1.may.2 fun t => by
      rw [mem_add hG5.may.2, hG5.mem]
      constructor
      · rintro (rfl | h)
        · exact HF.out.1
        · exact h.1
      · intro h
        by_cases e : t.2 = (i : Int)
        · exact .inl (nodup_inj HR.out.2.2.2.2.1.may.2.ids h HF.out.1 e)
        · exact .inr ⟨h, e⟩
    have HA : Hid (∀ W, Below W5.heap.size W5 W → Calls Tryd.prog 9 #[.agg #[.int .i64 n, .slice p5 25 c5], .int .i64 i, .int .i64 ax] W fun r w' => ∃ p' c', r = .returned (.tuple #[.agg #[.int .i64 n, .slice p' 25 c'], .int .i64 0]) ∧ OwnW w' W.heap.size p' c' ls ∧ Below W.heap.size W w' ∧ Below W5.heap.size W5 W) := fun W hW =>
      (arm_fine _ n i ax ms W (HC.out.2.2.2.1.below (hbw5.trans (hW.mono hbw5.size))) (hO5'.below hW) hG5.may HF.out.2 hfr).mono fun r w' ⟨p', c', h1, h2, h3, h4⟩ => ⟨p', c', h1, by rw [← hunq]; exact h2, h4, hW⟩
    have H5 : Hid (_ ∧ _ ∧ _ ∧ _) := ⟨hb35', hbw5, hXn, hW5⟩
    clear hO5 hO5' hG5 hb5 hb35 hN5 hb35' hbw5 hXn hA5 hfr hunq hW5 e0 e1 hs5
    go_wp2_with fail
    rw [← H5.out.2.2.2]
    go_upto_region 13 with fail
    go_cut [24, 25] from 95 to 102 (fun b e wx => ∃ p' c' g, b = .pointer (some ⟨g, 0, none⟩) ∧ e = .int .i64 0 ∧ Bx wx g n p' c' ∧ OwnW wx W5.heap.size p' c' ls ∧ Below W5.heap.size W5 wx ∧ W5.heap.size ≤ g)
    case first =>
      go_region_with (first | (go_at_call 9; refine (HA.out _ (by first | exact (Below.refl _ _).drew | exact ((Below.refl _ _).drew).alloc (by simp) _ | exact ((Below.refl _ _).alloc (Nat.le_refl _) _).drew)).mono ?_; rintro r w6 ⟨p', c', rfl, hO6, hb6, hb5⟩; obtain ⟨hc6, hf6⟩ := bcell hb6))
      all_goals
        go_wp2_with fail
        go_meet
        first
        | exact ⟨p', c', w6.heap.size, rfl, rfl, Bx.new _ _ _ _, (hO6.below ((Below.refl _ _).alloc (Nat.le_refl _) _)).mono hb5.size, (hb5.trans (hb6.mono hb5.size)).alloc (Nat.le_trans hb5.size hb6.size) _, Nat.le_trans hb5.size hb6.size⟩
        | exact ⟨p', c', W5.heap.size, rfl, rfl, two_set ((hb6.block W5.heap.size (by simp)).trans (heap_alloc_new W5 _)), (hO6.set2 (by simp) _ _).mono hb5.size, below_set2 (hb5.trans (hb6.mono hb5.size)) (Nat.le_refl _) _ _, Nat.le_refl _⟩
    case rest =>
    obtain ⟨p', c', g, rfl, rfl, hXg, hO6, hb6, hg⟩ := hcut
    obtain ⟨g0, g1, _, _, _⟩ := two_cells hXg
    have hb36 := H5.out.1.trans (hb6.mono H5.out.1.size)
    obtain ⟨f0, f1, _, _, _⟩ := two_cells (HR.out.1.below hb36)
    have H6 : Hid (_ ∧ _ ∧ _) := ⟨hO6.at, HR.out.2.2.1.below hb36, H5.out.2.1.trans (hb6.mono H5.out.2.1.size)⟩
    clear hXg hO6 hb6 hb36 z0 z1 z3
    go_wp2_with fail
    refine (keepSame _ _ n ls _ ⟨_, rfl, H6.out.1⟩ ⟨_, rfl, H6.out.2.1⟩).mono ?_
    rintro r w9 ⟨rfl, hb9⟩
    have H9 : Hid _ := hb9
    clear hb9
    go_wp2
    go_ret
    exact ⟨rfl, H6.out.2.2.trans (H9.out.mono H6.out.2.2.size)⟩
end Go.Proofs.YtjjlekohkoicbaaDoor.Walks
