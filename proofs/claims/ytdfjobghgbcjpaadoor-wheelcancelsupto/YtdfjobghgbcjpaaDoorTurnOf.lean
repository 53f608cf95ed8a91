/-
  A wheel is taken to work: just if it may be. Whatever wheel can be read, of lists that stay below a bound.
-/
import Derived.Test.YtdfjobghgbcjpaaDoorPut
import Derived.Test.YtdfjobghgbcjpaaDoorWhole
import Derived.WalkKit
import Derived.ProofKit
import Derived.Handy
import Derived.LoopTactic
import Derived.Below
import Derived.Laws.BitsAllLaws
import Derived.RegionTactic
import Derived.Deep.RegionHeld3
import Derived.Deep.DrawnRows
import Derived.Deep.AppendLies
import Derived.Laws.OwnMore
import Derived.Deep.Onto
import Derived.Deep.QuietTactic
import Derived.BigQuiet
namespace Go.Proofs.YtdfjobghgbcjpaaDoor.Walks
open Go.RowKit
set_option linter.unusedVariables false
set_option linter.unusedSimpArgs false
attribute [local go_sem ↓] Go.wp_at_zero Go.wp_at_succ
open Go.Sort (grow grow_empty grow_grow alloc_eq_grow cell?_grow heap_grow_old)

theorem behind_all {l : List Tm} (h : l.Pairwise (fun a b => cmpT a b < 0)) {t : Tm} (hb : behind l t = true) : ∀ x ∈ l, cmpT x t < 0 := by
  unfold behind at hb
  cases hl : l.getLast? with
  | none => rw [List.getLast?_eq_none_iff] at hl; subst hl; intro x hx; cases hx
  | some y =>
    rw [hl] at hb
    have hy : cmpT y t < 0 := of_decide_eq_true hb
    obtain ⟨ys, rfl⟩ := List.getLast?_eq_some_iff.1 hl
    intro x hx
    rcases List.mem_append.1 hx with hx | hx
    · exact cmpT_trans ((List.pairwise_append.1 h).2.2 x hx y (List.mem_singleton.2 rfl)) hy
    · rw [List.mem_singleton.1 hx]; exact hy

theorem behind_of {l : List Tm} {t : Tm} (h : ∀ x ∈ l, cmpT x t < 0) : behind l t = true := by
  unfold behind
  cases hl : l.getLast? with
  | none => rfl
  | some y => exact decide_eq_true (h y (List.mem_of_getLast? hl))

theorem three_set {w : World} {g : Nat} {a b c c0 c1 c2 : Value} {T : TypeId} (h : w.heap[g]? = some (.cells #[a, b, c] T (0, 0))) : (((w.setCell ⟨g, 0, none⟩ c0).setCell ⟨g, 1, none⟩ c1).setCell ⟨g, 2, none⟩ c2).heap[g]? = some (.cells #[c0, c1, c2] T (0, 0)) :=
  heap_setCell_same _ _ 2 _ _ c2 (heap_setCell_same _ _ 1 _ _ c1 (heap_setCell_same w g 0 _ _ c0 h))

theorem ok_bare (now : Int) : Ok now (List.replicate 25 []) := by
  refine ⟨by simp, fun i l hl t ht => ?_, fun l hl => ?_, by simp⟩
  · rw [List.getElem?_replicate] at hl
    split at hl
    · rw [← Option.some.inj hl] at ht; cases ht
    · cases hl
  · rw [(List.mem_replicate.1 hl).2]; exact .nil

theorem fmap_bare : FMap (fun _ => none) (List.replicate 25 []) := by
  refine ⟨fun i l hl t ht => ?_, fun id _ => rfl⟩
  rw [List.getElem?_replicate] at hl
  split at hl
  · rw [← Option.some.inj hl] at ht; cases ht
  · cases hl

theorem map_new (w : World) : MapAt (w.alloc (.map #[] 0)) w.heap.size 0 (fun _ => none) := by
  exact ⟨.map [], World.ownsMap_made w _ _ _, fun id hid => ⟨rfl, fun x hx => by cases hx⟩⟩

set_option maxHeartbeats 4000000 in
set_option maxRecDepth 100000 in
theorem turningOf_early (v : Value) (now : Int) (ls : List (List Tm)) (w : World) (hx : LsAt w v ls) (h : ¬ ((0 ≤ now ∧ now ≤ 1099511627776) ∧ ls.length = 25)) :
    Calls Tryd.prog 15 #[.agg #[.int .i64 now, v]] w fun r w' => Below w.heap.size w w' ∧ r = .returned (.tuple #[.agg #[.int .i64 0, .slice none 0 0, .map none], .bool false]) := by
  obtain ⟨a, ca, rfl, hca, hma, pa⟩ := hx.parts
  clear pa
  unfold maxLen at hma
  cases ht : decide (0 ≤ now ∧ now ≤ 1099511627776)
  · clear h
    go_enter Tryd.func15, Tryd.ntmps15
    go_wp2_with fail
    refine (isTick_any _ _).mono ?_
    rw [ht]
    rintro r w1 ⟨rfl, rfl⟩
    go_wp2
    refine bodyPost_ret (v := .tuple #[.agg #[.int .i64 0, .slice none 0 0, .map none], .bool false]) (by simp [results, Tryd.results15, go_sem]) rfl ⟨?_, rfl⟩
    exact ((Below.refl _ _).alloc (Nat.le_refl _) _).alloc (by simp) _
  · have hne : ((ls.length : Int) != 25) = true := by
      have : ls.length ≠ 25 := fun e => h ⟨of_decide_eq_true ht, e⟩
      simp [bne_iff_ne]; omega
    clear h
    go_enter Tryd.func15, Tryd.ntmps15
    go_wp2_with fail
    refine (isTick_any _ _).mono ?_
    rw [ht]
    rintro r w1 ⟨rfl, rfl⟩
    go_wp2
    refine bodyPost_ret (v := .tuple #[.agg #[.int .i64 0, .slice none 0 0, .map none], .bool false]) (by simp [results, Tryd.results15, go_sem]) rfl ⟨?_, rfl⟩
    exact ((Below.refl _ _).alloc (Nat.le_refl _) _).alloc (by simp) _

/-- What taking a wheel to work ends in. -/
def Taken (now : Int) (ls : List (List Tm)) (w : World) (r : Ending) (w' : World) : Prop :=
  Below w.heap.size w w' ∧ ((Ok now ls ∧ ∃ T B M n vs f, r = .returned (.tuple #[.agg #[.int .i64 now, .slice (some ⟨B, 0, none⟩) 25 25, .map (some M)], .bool true]) ∧ Turn w' (w.heap.size + 2) T B M n now vs ls f ∧ FMap f ls ∧ n ≤ 26214400) ∨
    (¬ Ok now ls ∧ r = .returned (.tuple #[.agg #[.int .i64 0, .slice none 0 0, .map none], .bool false])))

set_option maxHeartbeats 8000000 in
set_option maxRecDepth 100000 in
theorem turningOf_late (v : Value) (now : Int) (ls : List (List Tm)) (w : World) (hB : Blk w) (hx : LsAt w v ls) (hn : 0 ≤ now) (hn2 : now ≤ 1099511627776) (h25 : ls.length = 25) (hlen : ∀ l ∈ ls, l.length ≤ 1048576) :
    Calls Tryd.prog 15 #[.agg #[.int .i64 now, v]] w (Taken now ls w) := by
  obtain ⟨a, ca, rfl, hca, hma, pa⟩ := hx.parts
  unfold maxLen at hma
  have ht : decide (0 ≤ now ∧ now ≤ 1099511627776) = true := decide_eq_true ⟨hn, hn2⟩
  have hblt := hB.lt
  have HX : Hid (_ ∧ _ ∧ _ ∧ _) := ⟨pa, hB, hlen, h25⟩
  rw [h25] at hca ⊢
  clear pa hB hlen h25 hx
  go_enter Tryd.func15, Tryd.ntmps15
  go_wp2_with fail
  refine (isTick_any _ _).mono ?_
  rw [ht]
  rintro r w1 ⟨rfl, rfl⟩
  go_wp2_with fail
  refine (empty_any _ _).mono ?_
  rintro r w1 ⟨rfl, hown, hsz, hb1⟩
  have hs0 : ((w.alloc (.cells #[.int .i64 now, .slice a 25 ca] 24)).alloc (.cells #[.int .i64 0, .slice none 0 0, .map none] 41)).heap.size = w.heap.size + 2 := by simp
  rw [hs0] at hown hsz hb1 ⊢
  obtain ⟨H, hH⟩ : ∃ H, H = w.heap.size + 2 := ⟨_, rfl⟩
  rw [← hH] at hown hsz hb1 ⊢
  have hR0 : w1.heap[w.heap.size]? = some (.cells #[.int .i64 now, .slice a 25 ca] 24 (0, 0)) := (hb1.block _ (by omega)).trans (heap_old _ _ (heap_alloc_new _ _))
  have hR1 : w1.heap[w.heap.size + 1]? = some (.cells #[.int .i64 0, .slice none 0 0, .map none] 41 (0, 0)) := (hb1.block _ (by omega)).trans (heap_second _ _ _)
  have hbw : Below w.heap.size w w1 := (((Below.refl _ _).alloc (Nat.le_refl _) _).alloc (by simp) _).trans (hb1.mono (by omega))
  obtain ⟨c0, c1, _, _, hlt0⟩ := two_cells hR0
  have HW : Hid (_ ∧ _ ∧ _ ∧ _ ∧ _ ∧ _) := ⟨hown, hb1, hR0, hR1, hbw, hH⟩
  clear hown hb1 hR0 hR1 hbw hs0 hH
  have hmm : ∀ W : World, (Instr.makeMap 39 none).run Tryd.prog W = .ok (.map (some W.heap.size)) (W.alloc (.map #[] 0)) := fun _ => rfl
  have c3 : ((w1.alloc (.map #[] 0)).alloc (.cells #[.int .i64 now, .slice (some ⟨H + 1, 0, none⟩) 25 25, .map (some (H + 2))] 41)).cell? ⟨w.heap.size, 1, none⟩ = some (.slice a 25 ca) :=
    ((((Below.refl _ w1).alloc (Nat.le_refl _) (.map #[] 0)).alloc (by simp) (.cells #[.int .i64 now, .slice (some ⟨H + 1, 0, none⟩) 25 25, .map (some (H + 2))] 41)).cell (p := ⟨w.heap.size, 1, none⟩) hlt0).trans c1
  go_wp2
  go_loopw [28] (fun i wr => ∃ (k n : Nat) (vs : List Value) (f : Int → Option Int), i = .int .i64 k ∧ k ≤ 25 ∧ Turn wr (w.heap.size + 2) (H + 2 + 1) (H + 1) (H + 2) n now vs (part ls k 0) f ∧ FMap f (part ls k 0) ∧ Ok now (part ls k 0) ∧ n ≤ k * 1048576 ∧ Below w.heap.size w wr ∧ wr.heap[w.heap.size + 1]? = some (.cells #[.int .i64 0, .slice none 0 0, .map none] 41 (0, 0))) (fun i _ => 25 - (intOf i).toNat)
  case atStart =>
    obtain ⟨hown, hb1, hR0, hR1, hbw, hH⟩ := HW.out
    refine ⟨0, 0, List.replicate 25 (.slice none 0 0), fun _ => none, rfl, by omega, ?_, ?_, ?_, by omega, ?_, ?_⟩
    · rw [part_none]
      have hb2 : Below w1.heap.size w1 ((w1.alloc (.map #[] 0)).alloc (.cells #[.int .i64 now, .slice (some ⟨H + 1, 0, none⟩) 25 25, .map (some (H + 2))] 41)) := ((Below.refl _ w1).alloc (Nat.le_refl _) _).alloc (by simp) _
      have hm := map_new w1
      rw [hsz] at hm
      refine ⟨?_, (hown.below hb2).mono (by omega), hm.keep (Below.heap_alloc _ _ _ (by simp; omega)), fun u hu e => ?_, fun u hu e => ?_, by omega, by omega, by omega, by simp⟩
      · have := heap_second w1 (.map #[] 0) (.cells #[.int .i64 now, .slice (some ⟨H + 1, 0, none⟩) 25 25, .map (some (H + 2))] 41)
        rw [hsz] at this
        exact this
      · rcases List.mem_cons.1 hu with rfl | hu
        · have := Option.some.inj e; simp at this
        · rw [(List.mem_replicate.1 hu).2] at e; cases e
      · rcases List.mem_cons.1 hu with rfl | hu
        · have := Option.some.inj e; simp at this
        · rw [(List.mem_replicate.1 hu).2] at e; cases e
    · rw [part_none]; exact fmap_bare
    · rw [part_none]; exact ok_bare now
    · exact (hbw.alloc (by omega) _).alloc (by simp; omega) _
    · exact heap_old _ _ (heap_old _ _ hR1)
  case round =>
    obtain ⟨k, n, vs, f, rfl, hk, hT, hF, hO, hnk, hbr, hres⟩ := hrel
    obtain ⟨w2, hw2⟩ : ∃ w2, w2 = wr := ⟨_, rfl⟩
    subst hw2
    by_cases hlt : k < 25
    · have hkd : decide ((k : Int) < 25) = true := decide_eq_true (by omega)
      have hkl : k < ls.length := by rw [HX.out.2.2.2]; exact hlt
      obtain ⟨b0, off, u, rfl, hb0, cu, hu⟩ := HX.out.1 k hkl
      obtain ⟨l, hl⟩ : ∃ l, l = ls[k] := ⟨_, rfl⟩
      have hlk : ls[k]? = some l := by rw [hl]; exact List.getElem?_eq_getElem hkl
      rw [← hl] at hu
      obtain ⟨ul, uc, rfl, huc, hum, pu⟩ := hu.parts
      unfold maxLen at hum
      have cu2 := (hbr.cell (p := ⟨b0, off + k, none⟩) hb0).trans cu
      have hll := HX.out.2.2.1 l (List.mem_of_getElem? hlk)
      have hkI : (k : Int) < 25 := by omega
      have HR : Hid (_ ∧ _ ∧ _ ∧ _ ∧ _ ∧ _ ∧ _ ∧ _) := ⟨hT, hF, hO, hnk, hbr, hres, pu, hlk⟩
      clear hT hF hO hnk hres pu hl cu hu hlk
      go_wp2
      go_loopw [35] (fun i wr => ∃ (q n : Nat) (vs : List Value) (f : Int → Option Int), i = .int .i64 q ∧ q ≤ l.length ∧ Turn wr (w.heap.size + 2) (H + 2 + 1) (H + 1) (H + 2) n now vs (part ls k q) f ∧ FMap f (part ls k q) ∧ Ok now (part ls k q) ∧ n ≤ k * 1048576 + q ∧ Below w.heap.size w wr ∧ wr.heap[w.heap.size + 1]? = some (.cells #[.int .i64 0, .slice none 0 0, .map none] 41 (0, 0))) (fun i _ => l.length - (intOf i).toNat)
      case atStart => exact ⟨0, n, vs, f, rfl, Nat.zero_le _, HR.out.1, HR.out.2.1, HR.out.2.2.1, Nat.le_add_right_of_le HR.out.2.2.2.1, HR.out.2.2.2.2.1, HR.out.2.2.2.2.2.1⟩
      case round =>
        obtain ⟨q, n, vs, f, rfl, hq, hT, hF, hO, hnk, hbr2, hres⟩ := hrel
        by_cases hq2 : q < l.length
        · obtain ⟨bu, ou, rfl, hbu, p1, p2⟩ := HR.out.2.2.2.2.2.2.1 q hq2
          have e1 := (hbr2.cell (p := ⟨bu, ou + q * 2, none⟩) hbu).trans p1
          have e2 := (hbr2.cell (p := ⟨bu, ou + q * 2 + 1, none⟩) hbu).trans p2
          obtain ⟨ta, hta⟩ : ∃ ta, l[q].1 = ta := ⟨_, rfl⟩
          obtain ⟨td, htd⟩ : ∃ td, l[q].2 = td := ⟨_, rfl⟩
          have hlq : l[q] = (ta, td) := Prod.ext hta htd
          rw [hta] at e1
          rw [htd] at e2
          have hg : ls.getD k [] = l := by simp [List.getD, HR.out.2.2.2.2.2.2.2]
          have hcur : (part ls k q)[k]? = some (l.take q) := by rw [part_at _ _ _ _ hlt, if_neg (Nat.lt_irrefl _), if_pos rfl, hg]
          obtain ⟨w3, hw3⟩ : ∃ w3, w3 = wr.alloc (.cells #[.int .i64 ta, .int .i64 td] 45) := ⟨_, rfl⟩
          have hb3 : Below wr.heap.size wr w3 := by rw [hw3]; exact (Below.refl _ _).alloc (Nat.le_refl _) _
          have hB3 : Blk w3 := (HX.out.2.1.below hbr2).below hb3
          have hT3 := hT.below hb3
          have hres3 : w3.heap[w.heap.size + 1]? = some (.cells #[.int .i64 0, .slice none 0 0, .map none] 41 (0, 0)) := (hb3.block _ (Array.getElem?_eq_some_iff.1 hres).1).trans hres
          have hK1 : w3.cell? ⟨wr.heap.size, 0, none⟩ = some (.int .i64 ta) := by rw [hw3]; simp
          have hK2 : w3.cell? ⟨wr.heap.size, 1, none⟩ = some (.int .i64 td) := by rw [hw3]; simp
          have hKl : wr.heap.size < w3.heap.size := by rw [hw3]; simp
          have hord := hO.ord (l.take q) (List.mem_of_getElem? hcur)
          have hbase : w.heap.size + 2 ≤ w3.heap.size := by have := hT3.hT; have := (Array.getElem?_eq_some_iff.1 hT3.box).1; omega
          have HQ : Hid (_ ∧ _ ∧ _ ∧ _ ∧ _ ∧ _ ∧ _ ∧ _ ∧ _ ∧ _) := ⟨hlq, hcur, hb3, hB3, hT3, hF, hO, hnk, hbr2, hord⟩
          have HV : Hid (_ ∧ _ ∧ _ ∧ _) := ⟨hw3, hres3, hK1, hK2⟩
          clear hT hF hO hnk hres hta htd hlq hg hcur p1 p2 hb3 hB3 hT3 hres3 hw3 hK1 hK2 hord cu2 hb0
          cases hgood : (fitsT now (ta, td) && decide (placeOf ta now = (k : Int)) && !(f td).isSome)
          · have hno : ¬ Ok now ls := fun hok => by
              have hf := hok.follows HR.out.2.2.2.2.2.2.2 hq2
              rw [HQ.out.1] at hf
              have h1 : (f td).isSome = false := (HQ.out.2.2.2.2.2.1.isNone td).2 hf.2.2.1
              simp [hf.1, hf.2.1, h1] at hgood
            have HN : Hid _ := hno
            clear hno
            go_wp2_with fail
            refine (follows_no (w.heap.size + 2) (H + 2 + 1) (H + 1) (H + 2) n now vs (part ls k q) f ta td k _ (by rw [← HV.out.1]; exact HQ.out.2.2.2.1) (by rw [← HV.out.1]; exact HQ.out.2.2.2.2.1) hn hn2 hlt hgood).mono ?_
            rw [← HV.out.1]
            rintro r w4 ⟨rfl, hb4⟩
            have hr4 : w4.heap[w.heap.size + 1]? = some (.cells #[.int .i64 0, .slice none 0 0, .map none] 41 (0, 0)) := (hb4.block _ (by omega)).trans HV.out.2.1
            obtain ⟨z0, z1, z2, z3⟩ := three_cells hr4
            have y0 : w4.frozen? ⟨w.heap.size + 1, 0, none⟩ = false := by simp [World.frozen?, hr4]
            have y1 : w4.frozen? ⟨w.heap.size + 1, 1, none⟩ = false := by simp [World.frozen?, hr4]
            have y2 : w4.frozen? ⟨w.heap.size + 1, 2, none⟩ = false := by simp [World.frozen?, hr4]
            have hb45 : Below w.heap.size w w4 := ((HQ.out.2.2.2.2.2.2.2.2.1.trans (HQ.out.2.2.1.mono HQ.out.2.2.2.2.2.2.2.2.1.size)).trans (hb4.mono (by omega)))
            have HZ : Hid (_ ∧ _) := ⟨hb45, hr4⟩
            clear hb45 hr4 hb4
            go_wp2
            have hz := three_set (c0 := .int .i64 0) (c1 := .slice none 0 0) (c2 := .map none) HZ.out.2
            obtain ⟨x0, x1, x2, _⟩ := three_cells hz
            refine bodyPost_ret (v := .tuple #[.agg #[.int .i64 0, .slice none 0 0, .map none], .bool false]) (by simp [results, Tryd.results15, go_sem, x0, x1, x2]) rfl ⟨?_, .inr ⟨HN.out, rfl⟩⟩
            exact ((HZ.out.1.setCell (by simp) _).setCell (by simp) _).setCell (by simp) _
          · have hg3 : (fitsT now (ta, td) = true ∧ placeOf ta now = (k : Int)) ∧ (f td).isSome = false := by simpa using hgood
            clear hgood
            have hbnd := fits_bounds hg3.1.1 hn
            cases hbe : behind (l.take q) (ta, td)
            · have hno : ¬ Ok now ls := fun hok => by
                have hf := hok.follows HR.out.2.2.2.2.2.2.2 hq2
                rw [HQ.out.1] at hf
                rw [behind_of hf.2.2.2] at hbe
                cases hbe
              have HN : Hid _ := hno
              clear hno
              go_wp2_with fail
              refine (follows_yes (w.heap.size + 2) (H + 2 + 1) (H + 1) (H + 2) n now vs (part ls k q) f ta td k _ (by rw [← HV.out.1]; exact HQ.out.2.2.2.1) (by rw [← HV.out.1]; exact HQ.out.2.2.2.2.1) hn hn2 hlt hg3.1.1 hg3.1.2 hg3.2 (l.take q) HQ.out.2.1 (by rw [List.length_take]; omega)).mono ?_
              rw [hbe, ← HV.out.1]
              rintro r w4 ⟨rfl, hb4⟩
              have hr4 : w4.heap[w.heap.size + 1]? = some (.cells #[.int .i64 0, .slice none 0 0, .map none] 41 (0, 0)) := (hb4.block _ (by omega)).trans HV.out.2.1
              obtain ⟨z0, z1, z2, z3⟩ := three_cells hr4
              have y0 : w4.frozen? ⟨w.heap.size + 1, 0, none⟩ = false := by simp [World.frozen?, hr4]
              have y1 : w4.frozen? ⟨w.heap.size + 1, 1, none⟩ = false := by simp [World.frozen?, hr4]
              have y2 : w4.frozen? ⟨w.heap.size + 1, 2, none⟩ = false := by simp [World.frozen?, hr4]
              have hb45 : Below w.heap.size w w4 := ((HQ.out.2.2.2.2.2.2.2.2.1.trans (HQ.out.2.2.1.mono HQ.out.2.2.2.2.2.2.2.2.1.size)).trans (hb4.mono (by omega)))
              have HZ : Hid (_ ∧ _) := ⟨hb45, hr4⟩
              clear hb45 hr4 hb4
              go_wp2
              have hz := three_set (c0 := .int .i64 0) (c1 := .slice none 0 0) (c2 := .map none) HZ.out.2
              obtain ⟨x0, x1, x2, _⟩ := three_cells hz
              refine bodyPost_ret (v := .tuple #[.agg #[.int .i64 0, .slice none 0 0, .map none], .bool false]) (by simp [results, Tryd.results15, go_sem, x0, x1, x2]) rfl ⟨?_, .inr ⟨HN.out, rfl⟩⟩
              exact ((HZ.out.1.setCell (by simp) _).setCell (by simp) _).setCell (by simp) _
            · have HG : Hid (_ ∧ _) := ⟨hg3, hbnd⟩
              clear hg3 hbnd
              go_wp2_with fail
              refine (follows_yes (w.heap.size + 2) (H + 2 + 1) (H + 1) (H + 2) n now vs (part ls k q) f ta td k _ (by rw [← HV.out.1]; exact HQ.out.2.2.2.1) (by rw [← HV.out.1]; exact HQ.out.2.2.2.2.1) hn hn2 hlt HG.out.1.1.1 HG.out.1.1.2 HG.out.1.2 (l.take q) HQ.out.2.1 (by rw [List.length_take]; omega)).mono ?_
              rw [hbe, ← HV.out.1]
              rintro r w4 ⟨rfl, hb4⟩
              have g1 := (hb4.cell (p := ⟨wr.heap.size, 0, none⟩) hKl).trans HV.out.2.2.1
              have g2 := (hb4.cell (p := ⟨wr.heap.size, 1, none⟩) hKl).trans HV.out.2.2.2
              have hbe2 := behind_all HQ.out.2.2.2.2.2.2.2.2.2 hbe
              have HP : Hid (∀ W : World, Below w3.heap.size w3 W → Calls Tryd.prog 18 #[.pointer (some ⟨H + 2 + 1, 0, none⟩), .agg #[.int .i64 ta, .int .i64 td]] W fun r w' => r = .returned (.tuple #[]) ∧ ∃ vs', Turn w' (w.heap.size + 2) (H + 2 + 1) (H + 1) (H + 2) (n + 1) now vs' ((part ls k q).set k (insAt (l.take q) (ta, td) (l.take q).length)) (putF f td k) ∧ Below (w.heap.size + 2) W w' ∧ ∀ g, Free W vs (H + 2 + 1) (H + 1) (H + 2) g → w'.heap[g]? = W.heap[g]? ∧ Free w' vs' (H + 2 + 1) (H + 1) (H + 2) g) := fun W hW =>
                put_any (w.heap.size + 2) (H + 2 + 1) (H + 1) (H + 2) n now vs (part ls k q) f ta td k (l.take q).length W (HQ.out.2.2.2.1.below hW) (HQ.out.2.2.2.2.1.below hW) (by omega) (Nat.le_trans hbase hW.size) hn hn2 (by have := HQ.out.2.2.2.2.2.2.2.1; unfold maxLen; omega) hlt ⟨HG.out.2.1, HG.out.2.2.1⟩ HG.out.2.2.2 HG.out.1.1.2 (l.take q) HQ.out.2.1 (by rw [List.length_take]; omega) (Nat.le_refl _) (fun a ha _ => hbe2 _ (List.getElem_mem ha)) (fun a ha h => absurd ha (by omega))
              have HB4 : Hid _ := hb4
              clear hb4 hbe2
              go_wp2_with fail
              refine (HP.out _ HB4.out).mono ?_
              rintro r w5 ⟨rfl, vs', hT5, hb5, _⟩
              have hpart : (part ls k q).set k (insAt (l.take q) (ta, td) (l.take q).length) = part ls k (q + 1) := by
                rw [← HQ.out.1]
                exact part_step ls k q hlt l HR.out.2.2.2.2.2.2.2 hq2
              have hfresh := (HQ.out.2.2.2.2.2.1.isNone td).1 HG.out.1.2
              have hO5 := HQ.out.2.2.2.2.2.2.1.add HQ.out.2.1 (t := (ta, td)) HG.out.1.1.1 HG.out.1.1.2 hfresh (l.take q).length (by rw [List.take_length]; exact behind_all HQ.out.2.2.2.2.2.2.2.2.2 hbe) (by rw [List.drop_length]; intro x hx; cases hx)
              have hF5 : FMap (putF f td k) _ := HQ.out.2.2.2.2.2.1.add HQ.out.2.1 (t := (ta, td)) hfresh (l.take q).length
              rw [hpart] at hT5 hO5 hF5
              have hb45 : Below w.heap.size w w5 := ((HQ.out.2.2.2.2.2.2.2.2.1.trans (HQ.out.2.2.1.mono HQ.out.2.2.2.2.2.2.2.2.1.size)).trans (HB4.out.mono (by omega))).trans (hb5.mono (by omega))
              have hres5 : w5.heap[w.heap.size + 1]? = some (.cells #[.int .i64 0, .slice none 0 0, .map none] 41 (0, 0)) := (hb5.block _ (by omega)).trans ((HB4.out.block _ (by omega)).trans HV.out.2.1)
              have HZ : Hid (_ ∧ _ ∧ _ ∧ _ ∧ _) := ⟨hT5, hF5, hO5, hb45, hres5⟩
              clear hT5 hF5 hO5 hb45 hres5 hb5 hpart hfresh
              go_wp2
              go_roundw
              case rel => exact ⟨q + 1, n + 1, vs', _, by simp, hq2, HZ.out.1, HZ.out.2.1, HZ.out.2.2.1, Nat.succ_le_succ HQ.out.2.2.2.2.2.2.2.1, HZ.out.2.2.2.1, HZ.out.2.2.2.2⟩
              case measure => simp [intOf]; omega
        · obtain rfl : q = l.length := by omega
          have hpn := part_next ls k l HR.out.2.2.2.2.2.2.2
          rw [hpn] at hT hF hO
          have HZ : Hid (_ ∧ _ ∧ _ ∧ _ ∧ _ ∧ _) := ⟨hT, hF, hO, hnk, hbr2, hres⟩
          clear hT hF hO hnk hres hpn cu2 hb0
          go_wp2
          go_roundw
          case rel => exact ⟨k + 1, n, vs, f, by simp, hlt, HZ.out.1, HZ.out.2.1, HZ.out.2.2.1, by have := HZ.out.2.2.2.1; omega, HZ.out.2.2.2.2.1, HZ.out.2.2.2.2.2⟩
          case measure => simp [intOf]; omega
    · obtain rfl : k = 25 := by omega
      rw [part_all ls HX.out.2.2.2] at hT hF hO
      obtain ⟨t0, t1, t2, tlt⟩ := three_cells hT.box
      obtain ⟨z0, z1, z2, z3⟩ := three_cells hres
      have y0 : w2.frozen? ⟨w.heap.size + 1, 0, none⟩ = false := by simp [World.frozen?, hres]
      have y1 : w2.frozen? ⟨w.heap.size + 1, 1, none⟩ = false := by simp [World.frozen?, hres]
      have y2 : w2.frozen? ⟨w.heap.size + 1, 2, none⟩ = false := by simp [World.frozen?, hres]
      have HZ : Hid (_ ∧ _ ∧ _ ∧ _ ∧ _ ∧ _) := ⟨hT, hF, hO, hnk, hbr, hres⟩
      clear hT hF hO hnk hbr hres
      go_wp2
      have hz := three_set (c0 := .int .i64 now) (c1 := .slice (some ⟨H + 1, 0, none⟩) 25 25) (c2 := .map (some (H + 2))) HZ.out.2.2.2.2.2
      obtain ⟨x0, x1, x2, _⟩ := three_cells hz
      refine bodyPost_ret (v := .tuple #[.agg #[.int .i64 now, .slice (some ⟨H + 1, 0, none⟩) 25 25, .map (some (H + 2))], .bool true]) (by simp [results, Tryd.results15, go_sem, x0, x1, x2]) rfl ⟨?_, .inl ⟨HZ.out.2.2.1, H + 2 + 1, H + 1, H + 2, n, vs, f, rfl, ?_, HZ.out.2.1, HZ.out.2.2.2.1⟩⟩
      · exact ((HZ.out.2.2.2.2.1.setCell (by simp) _).setCell (by simp) _).setCell (by simp) _
      · refine HZ.out.1.keep fun g hg _ => ?_
        rw [Below.heap_setCell _ _ _ _ (by simp; omega), Below.heap_setCell _ _ _ _ (by simp; omega), Below.heap_setCell _ _ _ _ (by simp; omega)]
end Go.Proofs.YtdfjobghgbcjpaaDoor.Walks
