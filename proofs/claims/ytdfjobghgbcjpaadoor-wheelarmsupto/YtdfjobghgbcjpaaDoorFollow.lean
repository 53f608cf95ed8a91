/-
  May a timer stand in a list behind those that are there: the program's answer, in plain words. The wheel at work is whole; its tick lies within bounds.
-/
import Derived.Test.YtdfjobghgbcjpaaDoorTurn
import Derived.Shelf.SlSortCmp.QuietGrown
import Derived.WalkKit
import Derived.ProofKit
import Derived.Handy
import Derived.LoopTactic
import Derived.Below
import Derived.Laws.BitsAllLaws
import Derived.RegionTactic
import Derived.Deep.RegionHeld3
import Derived.Deep.DrawnRows
import Derived.Deep.AppendLies
import Derived.Laws.OwnMore
import Derived.Deep.Onto
import Derived.Deep.QuietTactic
import Derived.BigQuiet
namespace Go.Proofs.YtdfjobghgbcjpaaDoor.Walks
open Go.RowKit
set_option linter.unusedVariables false
set_option linter.unusedSimpArgs false
attribute [local go_sem ↓] Go.wp_at_zero Go.wp_at_succ
open Go.Sort (grow grow_empty grow_grow alloc_eq_grow cell?_grow heap_grow_old)

/-- It stands behind all that are ahead. -/
def behind (a : List Tm) (t : Tm) : Bool := match a.getLast? with | none => true | some x => decide (cmpT x t < 0)

theorem mixed : Tryd.prog.follows .mixedOrders = true := by kernel_rfl

theorem below_grow (w : World) (q : Nat) (os : Array Obj) : Below w.heap.size w (grow (w.drewN q) os) :=
  ⟨rfl, rfl, rfl, by simp [grow, World.drewN], fun k hk => heap_grow_old (w.drewN q) os hk⟩

theorem wf_small {x : Int} (h1 : -1000000 ≤ x) (h2 : x ≤ 1000000) : (Lit.int .i64 x).wf = true := by
  have e1 : IntKind.i64.min = -9223372036854775808 := by decide
  have e2 : IntKind.i64.max = 9223372036854775807 := by decide
  simp only [Lit.wf, e1, e2, Bool.and_eq_true, decide_eq_true_eq]
  omega

theorem fits_bounds {now : Int} {t : Tm} (h : fitsT now t = true) (hn : 0 ≤ now) : 0 ≤ t.1 ∧ t.1 ≤ 4398046511104 ∧ (Lit.int .i64 t.2).wf = true := by
  have h := (fitsT_iff now t).1 h
  exact ⟨by omega, by omega, wf_small (by omega) (by omega)⟩

theorem fits_grown (x y n : Int) (w : World) (hn : 0 ≤ n) (hn2 : n ≤ 1099511627776) :
    Calls Tryd.prog 16 #[.agg #[.int .i64 x, .int .i64 y], .int .i64 n] w fun r w' => r = .returned (.bool (fitsT n (x, y))) ∧ ∃ q os, w' = grow (w.drewN q) os :=
  (fits_any x y n w hn hn2).mono fun r w' h => ⟨h.1, 0, #[_], h.2.trans (alloc_eq_grow w _)⟩

theorem place_grown (x n : Int) (w : World) (hB : Blk w) (hx : 0 ≤ x) (hx2 : x ≤ 4398046511104) (hn : 0 ≤ n) (hn2 : n ≤ 4398046511104) :
    Calls Tryd.prog 30 #[.int .i64 x, .int .i64 n] w fun r w' => r = .returned (.int .i64 (placeOf x n)) ∧ ∃ q os, w' = grow (w.drewN q) os :=
  (place_any x n w hB hx hx2 hn hn2).mono fun r w' h => by
    obtain ⟨h1, q, h2⟩ := h
    exact ⟨h1, q, #[], by rw [grow_empty]; exact h2⟩

theorem has_grown (T M n : Nat) (f : Int → Option Int) (id : Int) (w : World) (hc : w.cell? ⟨T, 2, none⟩ = some (.map (some M))) (hm : MapAt w M n f) (hid : (Lit.int .i64 id).wf = true) :
    Calls Tryd.prog 17 #[.pointer (some ⟨T, 0, none⟩), .int .i64 id] w fun r w' => r = .returned (.bool (f id).isSome) ∧ ∃ q os, w' = grow (w.drewN q) os :=
  (has_any T M n f id w hc hm hid).mono fun r w' h => ⟨h.1, 0, #[], by rw [grow_empty]; exact h.2⟩

theorem compare_grown (a b c d : Int) (w : World) :
    Calls Tryd.prog 32 #[.agg #[.int .i64 a, .int .i64 b], .agg #[.int .i64 c, .int .i64 d]] w fun r w' => r = .returned (.int .i64 (cmpT (a, b) (c, d))) ∧ ∃ q os, w' = grow (w.drewN q) os :=
  (compareTimers_is a b c d w).mono fun r w' h => by
    refine ⟨h.1, 1, #[.cells #[.int .i64 a, .int .i64 b] 45, .cells #[.int .i64 c, .int .i64 d] 45, .cells #[.int .i64 (cmpI a c), .int .i64 (cmpI b d)] 3], ?_⟩
    rw [h.2, alloc_eq_grow, alloc_eq_grow, alloc_eq_grow, grow_grow, grow_grow]
    rfl

set_option maxHeartbeats 4000000 in
set_option maxRecDepth 100000 in
theorem follows_no (base T B M n : Nat) (now : Int) (vs : List Value) (ls : List (List Tm)) (f : Int → Option Int) (ta td : Int) (i : Nat) (w : World) (hB : Blk w) (hT : Turn w base T B M n now vs ls f) (hn : 0 ≤ now) (hn2 : now ≤ 1099511627776) (hi : i < 25)
    (h : (fitsT now (ta, td) && decide (placeOf ta now = i) && !(f td).isSome) = false) :
    Calls Tryd.prog 29 #[.pointer (some ⟨T, 0, none⟩), .agg #[.int .i64 ta, .int .i64 td], .int .i64 i] w fun r w' => r = .returned (.bool false) ∧ Below w.heap.size w w' := by
  have mixed := mixed
  obtain ⟨t0, t1, t2, tlt⟩ := three_cells hT.box
  have hMap := hT.map
  obtain ⟨w2, hw2⟩ : ∃ w2, w2 = w.alloc (.cells #[.int .i64 ta, .int .i64 td] 45) := ⟨_, rfl⟩
  have hbw : Below w.heap.size w w2 := by rw [hw2]; exact (Below.refl _ _).alloc (Nat.le_refl _) _
  have hlt : w.heap.size < w2.heap.size := by rw [hw2]; simp
  have tlt2 : T < w2.heap.size := by omega
  have k1 : ∀ n os, (grow (w2.drewN n) os).cell? ⟨w.heap.size, 0, none⟩ = some (.int .i64 ta) := cell_grown hlt (by rw [hw2]; simp)
  have k2 : ∀ n os, (grow (w2.drewN n) os).cell? ⟨w.heap.size, 1, none⟩ = some (.int .i64 td) := cell_grown hlt (by rw [hw2]; simp)
  have k3 : ∀ n os, (grow (w2.drewN n) os).cell? ⟨T, 0, none⟩ = some (.int .i64 now) := cell_grown tlt2 ((hbw.cell (p := ⟨T, 0, none⟩) tlt).trans t0)
  have k4 : ∀ n os, (grow (w2.drewN n) os).cell? ⟨T, 2, none⟩ = some (.map (some M)) := cell_grown tlt2 ((hbw.cell (p := ⟨T, 2, none⟩) tlt).trans t2)
  have hBlk : ∀ n os, Blk (grow (w2.drewN n) os) := fun n os => (hB.below hbw).below (below_grow w2 n os)
  have hMp : ∀ q os, MapAt (grow (w2.drewN q) os) M n f := fun q os => (hMap.keep (hbw.block M hMap.lt)).keep ((below_grow w2 q os).block M (Nat.lt_of_lt_of_le hMap.lt hbw.size))
  have HB : Hid (_ ∧ _ ∧ _) := ⟨hBlk, hMp, hbw⟩
  have HW : Hid _ := hw2
  clear hBlk hMp hbw hT hMap t0 t1 t2 hw2
  cases hfit : fitsT now (ta, td)
  · have HF : Hid (∀ W : World, Calls Tryd.prog 16 #[.agg #[.int .i64 ta, .int .i64 td], .int .i64 now] W fun r w' => r = .returned (.bool false) ∧ ∃ q os, w' = grow (W.drewN q) os) := fun W => by rw [← hfit]; exact fits_grown ta td now W hn hn2
    clear h
    go_enter Tryd.func29, Tryd.ntmps29
    go_wp2_with fail
    rw [← HW.out]
    refine wp_region_quiet_grown mixed (by kernel_rfl) ?_
    repeat (first | go_big_quiet_skip | quiet_step (first | (go_at_call 16; exact Calls.grown_of (HF.out _))))
    refine wpQuiet_nil ?_
    intro _ hw'
    obtain ⟨⟨nq, osq⟩, hw''⟩ := hw'
    subst hw''
    go_wp2
    go_ret
    exact ⟨rfl, HB.out.2.2.trans ((below_grow w2 nq osq).mono HB.out.2.2.size)⟩
  · have hb := fits_bounds hfit hn
    have HF : Hid (∀ W : World, Calls Tryd.prog 16 #[.agg #[.int .i64 ta, .int .i64 td], .int .i64 now] W fun r w' => r = .returned (.bool true) ∧ ∃ q os, w' = grow (W.drewN q) os) := fun W => by rw [← hfit]; exact fits_grown ta td now W hn hn2
    rw [hfit] at h
    cases hpl : decide (placeOf ta now = i)
    · have hpl2 : (placeOf ta now != (i : Int)) = true := by simpa using hpl
      clear h hpl
      go_enter Tryd.func29, Tryd.ntmps29
      go_wp2_with fail
      rw [← HW.out]
      refine wp_region_quiet_grown mixed (by kernel_rfl) ?_
      repeat (first | go_big_quiet_skip | quiet_step (first | (go_at_call 16; exact Calls.grown_of (HF.out _)) | (go_at_call 30; exact Calls.grown_of (place_grown ta now _ (HB.out.1 _ _) hb.1 hb.2.1 hn (by omega)))))
      refine wpQuiet_nil ?_
      intro _ hw'
      obtain ⟨⟨nq, osq⟩, hw''⟩ := hw'
      subst hw''
      go_wp2
      go_ret
      exact ⟨rfl, HB.out.2.2.trans ((below_grow w2 nq osq).mono HB.out.2.2.size)⟩
    · have hpl2 : (placeOf ta now != (i : Int)) = false := by simpa using hpl
      have hhas : (f td).isSome = true := by rw [hpl] at h; simpa using h
      have HS : Hid (∀ q os, Calls Tryd.prog 17 #[.pointer (some ⟨T, 0, none⟩), .int .i64 td] (grow (w2.drewN q) os) fun r w' => r = .returned (.bool true) ∧ ∃ q' os', w' = grow ((grow (w2.drewN q) os).drewN q') os') := fun q os => by rw [← hhas]; exact has_grown T M n f td _ (k4 _ _) (HB.out.2.1 _ _) hb.2.2
      clear h hpl
      go_enter Tryd.func29, Tryd.ntmps29
      go_wp2_with fail
      rw [← HW.out]
      refine wp_region_quiet_grown mixed (by kernel_rfl) ?_
      repeat (first | go_big_quiet_skip | quiet_step (first | (go_at_call 16; exact Calls.grown_of (HF.out _)) | (go_at_call 30; exact Calls.grown_of (place_grown ta now _ (HB.out.1 _ _) hb.1 hb.2.1 hn (by omega))) | (go_at_call 17; exact Calls.grown_of (HS.out _ _))))
      refine wpQuiet_nil ?_
      intro _ hw'
      obtain ⟨⟨nq, osq⟩, hw''⟩ := hw'
      subst hw''
      go_wp2
      go_ret
      exact ⟨rfl, HB.out.2.2.trans ((below_grow w2 nq osq).mono HB.out.2.2.size)⟩

theorem own_at {w : World} {base : Nat} {v : Value} {vs : List Value} {ls : List (List Tm)} (h : OwnLs w base v vs ls) (i : Nat) (hi : i < ls.length) : ∃ u, vs[i]? = some u ∧ w.ownsRow base 45 2 u ls[i].length (tcells ls[i]) := by
  have hl := h.each.1
  exact ⟨vs[i]'(by omega), List.getElem?_eq_getElem _, h.each.2 i (by omega) hi⟩

theorem lists_cell {w : World} {base B n cap : Nat} {vs : List Value} {ls : List (List Tm)} (h : OwnLs w base (.slice (some ⟨B, 0, none⟩) n cap) vs ls) (hn : ls.length = n) (i : Nat) (hi : i < ls.length) (u : Value) (hu : vs[i]? = some u) : w.cell? ⟨B, i, none⟩ = some u := by
  have h1 := h.row
  rw [hn] at h1
  rw [h1.cellAt i (by omega), hu]

set_option maxHeartbeats 4000000 in
set_option maxRecDepth 100000 in
theorem follows_yes (base T B M n : Nat) (now : Int) (vs : List Value) (ls : List (List Tm)) (f : Int → Option Int) (ta td : Int) (i : Nat) (w : World) (hB : Blk w) (hT : Turn w base T B M n now vs ls f) (hn : 0 ≤ now) (hn2 : now ≤ 1099511627776) (hi : i < 25)
    (hfit : fitsT now (ta, td) = true) (hpl : placeOf ta now = i) (hhas : (f td).isSome = false) (l : List Tm) (hl : ls[i]? = some l) (hll : l.length ≤ 1048577) :
    Calls Tryd.prog 29 #[.pointer (some ⟨T, 0, none⟩), .agg #[.int .i64 ta, .int .i64 td], .int .i64 i] w fun r w' => r = .returned (.bool (behind l (ta, td))) ∧ Below w.heap.size w w' := by
  have mixed := mixed
  obtain ⟨t0, t1, t2, tlt⟩ := three_cells hT.box
  have hMap := hT.map
  have hi' : i < ls.length := by rw [hT.len]; exact hi
  obtain ⟨u, hu, hown⟩ := own_at hT.own i hi'
  have hlc := lists_cell hT.own hT.len i hi' u hu
  rw [List.getElem?_eq_getElem hi'] at hl
  rw [Option.some.inj hl] at hown
  have hBlt : B < w.heap.size := (hT.own.row.lt B rfl).2
  obtain ⟨w2, hw2⟩ : ∃ w2, w2 = w.alloc (.cells #[.int .i64 ta, .int .i64 td] 45) := ⟨_, rfl⟩
  have hbw : Below w.heap.size w w2 := by rw [hw2]; exact (Below.refl _ _).alloc (Nat.le_refl _) _
  have hlt : w.heap.size < w2.heap.size := by rw [hw2]; simp
  have tlt2 : T < w2.heap.size := by omega
  have c1 : w2.cell? ⟨w.heap.size, 0, none⟩ = some (.int .i64 ta) := by rw [hw2]; simp
  have c2 : w2.cell? ⟨w.heap.size, 1, none⟩ = some (.int .i64 td) := by rw [hw2]; simp
  have k1 : ∀ n os, (grow (w2.drewN n) os).cell? ⟨w.heap.size, 0, none⟩ = some (.int .i64 ta) := cell_grown hlt c1
  have k2 : ∀ n os, (grow (w2.drewN n) os).cell? ⟨w.heap.size, 1, none⟩ = some (.int .i64 td) := cell_grown hlt c2
  have k3 : ∀ n os, (grow (w2.drewN n) os).cell? ⟨T, 0, none⟩ = some (.int .i64 now) := cell_grown tlt2 ((hbw.cell (p := ⟨T, 0, none⟩) tlt).trans t0)
  have k4 : ∀ n os, (grow (w2.drewN n) os).cell? ⟨T, 2, none⟩ = some (.map (some M)) := cell_grown tlt2 ((hbw.cell (p := ⟨T, 2, none⟩) tlt).trans t2)
  have hBlk : ∀ n os, Blk (grow (w2.drewN n) os) := fun n os => (hB.below hbw).below (below_grow w2 n os)
  have hMp : ∀ q os, MapAt (grow (w2.drewN q) os) M n f := fun q os => (hMap.keep (hbw.block M hMap.lt)).keep ((below_grow w2 q os).block M (Nat.lt_of_lt_of_le hMap.lt hbw.size))
  have hb := fits_bounds hfit hn
  have HF : Hid (∀ W : World, Calls Tryd.prog 16 #[.agg #[.int .i64 ta, .int .i64 td], .int .i64 now] W fun r w' => r = .returned (.bool true) ∧ ∃ q os, w' = grow (W.drewN q) os) := fun W => by rw [← hfit]; exact fits_grown ta td now W hn hn2
  have HS : Hid (∀ q os, Calls Tryd.prog 17 #[.pointer (some ⟨T, 0, none⟩), .int .i64 td] (grow (w2.drewN q) os) fun r w' => r = .returned (.bool false) ∧ ∃ q' os', w' = grow ((grow (w2.drewN q) os).drewN q') os') := fun q os => by rw [← hhas]; exact has_grown T M n f td _ (k4 _ _) (hMp _ _) hb.2.2
  have hpl2 : (placeOf ta now != (i : Int)) = false := by simpa using hpl
  have HB : Hid (_ ∧ _ ∧ _ ∧ _) := ⟨hBlk, hMp, hbw, hown⟩
  have HC : Hid (_ ∧ _ ∧ _ ∧ _ ∧ _ ∧ _) := ⟨hlc, t1, c1, c2, hBlt, tlt⟩
  have HW : Hid _ := hw2
  obtain ⟨ans, hans⟩ : ∃ ans, ans = behind l (ta, td) := ⟨_, rfl⟩
  rw [← hans]
  have HA : Hid _ := hans
  obtain ⟨p, c, rfl⟩ := own_form hown
  clear hBlk hMp hbw hT hMap t0 t1 t2 hw2 hown hlc hu hl hpl hhas hfit c1 c2 hans
  have hiI : (i : Int) < 25 := by omega
  go_enter Tryd.func29, Tryd.ntmps29
  go_wp2_with fail
  rw [← HW.out]
  refine wp_region_quiet_grown mixed (by kernel_rfl) ?_
  repeat (first | go_big_quiet_skip | quiet_step (first | (go_at_call 16; exact Calls.grown_of (HF.out _)) | (go_at_call 30; exact Calls.grown_of (place_grown ta now _ (HB.out.1 _ _) hb.1 hb.2.1 hn (by omega))) | (go_at_call 17; exact Calls.grown_of (HS.out _ _))))
  refine wpQuiet_nil ?_
  intro _ hw'
  obtain ⟨⟨nq, osq⟩, hw''⟩ := hw'
  subst hw''
  have hb3 := below_grow w2 nq osq
  generalize grow (w2.drewN nq) osq = w3 at hb3 ⊢
  have hbw3 : Below w.heap.size w w3 := HB.out.2.2.1.trans (hb3.mono HB.out.2.2.1.size)
  have d1 := (hbw3.cell (p := ⟨T, 1, none⟩) HC.out.2.2.2.2.2).trans HC.out.2.1
  have d2 := (hbw3.cell (p := ⟨B, i, none⟩) HC.out.2.2.2.2.1).trans HC.out.1
  have d3 := (hb3.cell (p := ⟨w.heap.size, 0, none⟩) hlt).trans HC.out.2.2.1
  have d4 := (hb3.cell (p := ⟨w.heap.size, 1, none⟩) hlt).trans HC.out.2.2.2.1
  have hlt3 : w.heap.size < w3.heap.size := Nat.lt_of_lt_of_le hlt hb3.size
  have HD : Hid (_ ∧ _) := ⟨hbw3, hb3⟩
  clear hb3 hbw3 k1 k2 k3 k4
  by_cases hnil : l = []
  · subst hnil
    have HE : Hid (ans = true) := HA.out
    go_wp2_with fail
    go_region
    go_wp2
    go_ret
    exact ⟨by rw [HE.out]; rfl, HD.out.1.drew⟩
  · obtain ⟨P, hP⟩ : ∃ P, l.length = P + 1 := ⟨l.length - 1, by have := List.length_pos_iff.2 hnil; omega⟩
    have hPl : P < l.length := by omega
    obtain ⟨g, c', hform, hbg, hgl⟩ := HB.out.2.2.2.form (by omega)
    simp only [Value.slice.injEq] at hform
    obtain ⟨rfl, _, rfl⟩ := hform
    have hgl3 : g < w3.heap.size := Nat.lt_of_lt_of_le hgl HD.out.1.size
    have f1 := tcells_at l P hPl
    rw [← HB.out.2.2.2.cellAt _ (by omega), ← HB.out.2.2.2.cellAt _ (by omega)] at f1
    obtain ⟨xa, hxa⟩ : ∃ xa, l[P].1 = xa := ⟨_, rfl⟩
    obtain ⟨xd, hxd⟩ : ∃ xd, l[P].2 = xd := ⟨_, rfl⟩
    rw [hxa, hxd] at f1
    have e1 := (HD.out.1.cell (p := ⟨g, P * 2, none⟩) hgl).trans f1.1
    have e2 := (HD.out.1.cell (p := ⟨g, P * 2 + 1, none⟩) hgl).trans f1.2
    have hlast : l.getLast? = some (xa, xd) := by
      rw [List.getLast?_eq_getElem?, hP, Nat.add_sub_cancel, List.getElem?_eq_getElem hPl]
      exact congrArg some (Prod.ext hxa hxd)
    obtain ⟨cc, hcc⟩ : ∃ cc, cc = cmpT (xa, xd) (ta, td) := ⟨_, rfl⟩
    have HE : Hid (ans = decide (cc < 0)) := by show ans = _; rw [HA.out, behind, hlast, hcc]
    have HQ : Hid (∀ W : World, Calls Tryd.prog 32 #[.agg #[.int .i64 xa, .int .i64 xd], .agg #[.int .i64 ta, .int .i64 td]] W fun r w' => r = .returned (.int .i64 cc) ∧ ∃ q os, w' = grow (W.drewN q) os) := fun W => by rw [hcc]; exact compare_grown xa xd ta td W
    obtain ⟨N, hN⟩ : ∃ N, N = l.length := ⟨_, rfl⟩
    rw [← hN] at d2
    have hN0 : ((N : Int) == 0) = false := by simp; omega
    have hN1 : IntKind.i64.wrap ((N : Int) - 1) = (P : Int) := by rw [IntKind.wrap_i64]; omega
    have hN2 : (P : Int) < (N : Int) := by omega
    have hN3 : (0 : Int) ≤ (P : Int) := by omega
    have q1 : ∀ n os, (grow (w3.drewN n) os).cell? ⟨g, P * 2, none⟩ = some (.int .i64 xa) := cell_grown hgl3 e1
    have q2 : ∀ n os, (grow (w3.drewN n) os).cell? ⟨g, P * 2 + 1, none⟩ = some (.int .i64 xd) := cell_grown hgl3 e2
    have q3 : ∀ n os, (grow (w3.drewN n) os).cell? ⟨w.heap.size, 0, none⟩ = some (.int .i64 ta) := cell_grown hlt3 d3
    have q4 : ∀ n os, (grow (w3.drewN n) os).cell? ⟨w.heap.size, 1, none⟩ = some (.int .i64 td) := cell_grown hlt3 d4
    clear f1 hxa hxd hlast hcc hN hP hPl
    go_wp2_with fail
    refine wp_region_quiet_grown mixed (by kernel_rfl) ?_
    repeat (first | go_big_quiet_skip | quiet_step (first | (go_at_call 32; exact Calls.grown_of (HQ.out _))))
    refine wpQuiet_nil ?_
    intro _ hw'
    obtain ⟨⟨nq', osq'⟩, hw''⟩ := hw'
    subst hw''
    go_wp2
    go_ret
    exact ⟨by rw [HE.out]; rfl, HD.out.1.trans ((below_grow w3 nq' osq').mono HD.out.1.size)⟩
end Go.Proofs.YtdfjobghgbcjpaaDoor.Walks
