/-
  A copy of a wheel holds the same. The wheel can be read; each list, and their number, stay below a bound.
-/
import Derived.Test.YtdfjobghgbcjpaaDoorRefArm
import Derived.Deep.RegionLaw
import Derived.WalkKit
import Derived.ProofKit
import Derived.Handy
import Derived.LoopTactic
import Derived.Below
import Derived.Laws.BitsAllLaws
import Derived.RegionTactic
import Derived.Deep.RegionHeld3
import Derived.Deep.DrawnRows
import Derived.Deep.AppendLies
import Derived.Laws.OwnMore
import Derived.Deep.Onto
import Derived.Deep.QuietTactic
import Derived.BigQuiet
namespace Go.Proofs.YtdfjobghgbcjpaaDoor.Walks
open Go.RowKit
set_option linter.unusedVariables false
set_option linter.unusedSimpArgs false
attribute [local go_sem ↓] Go.wp_at_zero Go.wp_at_succ

theorem own_grownW {w w' : World} {base : Nat} {e : TypeId} {k : Nat} {v : Value} {n : Nat} {xs : List Value} (h : w.ownsRow base e k v n xs) (hb : Below w.heap.size w w') : w'.ownsRow base e k v n xs := own_block h fun g hg => hb.block g (h.lt g hg).2

theorem append_nothing {P : Program} (w : World) (t ty e : TypeId) (i : TypeInfo) (ht : P.underlying t = some (.slice e)) (hi : P.info? e = some i) (p : Option Addr) (c : Nat) :
    (Builtin.append_ #[t, t] ty #[.slice none 0 0, .slice p 0 c]).run P w = .ok (.slice none 0 0) w := by
  cases p <;> simp [Builtin.append_, run_underlying ht, sizeOf, typeInfo, hi, Builtin.firstCells, Builtin.lenOf, loadCells, loadCellsFrom]

theorem step_append_eq {P : Program} {w : World} {ops : Array Oper} {o : Oper} {a : Act} {K : Act → World → Prop} {Q : Exit → Act → World → Prop} {E : Prop} (hgd : o.guard = none) (s x : Operand) (t : TypeId)
    (ho : o.op = .call { callee := .builtin .append, args := #[s, x], argTypes := #[t, t] }) (v u y : Value) (w' : World) (hs : a.eval s = v) (hx : a.eval x = u) (hr : (Builtin.append_ #[t, t] o.type #[v, u]).run P w = .ok y w')
    (h : K (a.put o.dst y) w') : if Region.wanted o (yielded ops a.tmps) = true then Oper.wp P o a w K Q else E := by
  have hw : Region.wanted o (yielded ops a.tmps) = true := by simp [Region.wanted, hgd]
  rw [if_pos hw]
  unfold Oper.wp execOp
  simp only [ho, resolve, invoke, builtin, Sem.run_bind, Sem.run_pure, Result.andThen_ok, List.map_toArray, List.map_cons, List.map_nil, hs, hx, hr]
  exact h

/-- A copy of a list: the run. -/
theorem append_copy (w : World) (ty : TypeId) (u : Value) (l : List Tm) (hu : TmAt w u l) (hl : l.length ≤ 1048576) :
    ∃ y w', (Builtin.append_ #[38, 38] ty #[.slice none 0 0, u]).run Tryd.prog w = .ok y w' ∧ w'.ownsRow w.heap.size 45 2 y l.length (tcells l) ∧ Below w.heap.size w w' := by
  obtain ⟨i0, hi, hz0, hz1, hz2⟩ := info_parts infoTm
  obtain ⟨a, cap, rfl, hc, hm, h⟩ := hu
  by_cases h0 : l.length = 0
  · obtain rfl : l = [] := List.length_eq_zero_iff.1 h0
    exact ⟨_, w, append_nothing w _ ty _ i0 Tryd.underlying38 hi a cap, World.ownsRow_nil _ _ _ _, Below.refl _ _⟩
  · rcases h with ⟨h, _⟩ | ⟨b, off, rfl, hb, hcell⟩
    · exact absurd h h0
    · obtain ⟨v', w', hr, ho, hg, _⟩ := run_append_own (P := Tryd.prog) w w.heap.size 38 ty 45 i0 _ 2 16 Tryd.underlying38 hi hz0 hz1 hz2 rfl (by decide) (.slice none 0 0) 0 [] (World.ownsRow_nil _ _ _ _) ⟨b, off, none⟩ l.length cap (tcells l) (tcells_len l) (fun j x hx => by
        have hj := (List.getElem?_eq_some_iff.1 hx).1
        rw [add_lit, hcell j hj, hx]) (tcells_one l) (by unfold maxLen; omega) (by omega) (Nat.le_refl _)
      rw [List.nil_append, Nat.zero_add] at ho
      exact ⟨v', w', hr, ho, (Below.refl _ _).grown hg (Nat.le_refl _) (fun k hk => by cases hk)⟩

set_option maxHeartbeats 8000000 in
set_option maxRecDepth 100000 in
theorem wheels_any (v : Value) (now : Int) (ls : List (List Tm)) (w : World) (hx : LsAt w v ls) (hlen : ∀ l ∈ ls, l.length ≤ 1048576) (hn : ls.length ≤ 1048576) :
    Calls Tryd.prog 6 #[.agg #[.int .i64 now, v]] w fun r w' => ∃ p c, r = .returned (.agg #[.int .i64 now, .slice p ls.length c]) ∧ LsAt w' (.slice p ls.length c) ls ∧ Below w.heap.size w w' := by
  obtain ⟨i1, hj, hy0, hy1, hy2⟩ := info_parts infoTms
  obtain ⟨a, ca, rfl, hca, hma, pa⟩ := hx.parts
  unfold maxLen at hma
  have HP : Hid (_ ∧ _) := ⟨pa, hlen⟩
  clear pa hx hlen
  go_enter Tryd.func6, Tryd.ntmps6
  go_wp2
  obtain ⟨W0, hW0⟩ : ∃ W0, W0 = ((w.alloc (.cells #[.int .i64 now, .slice a ls.length ca] 24)).alloc (.cells #[.int .i64 0, .slice none 0 0] 24)).alloc (.cells #[.int .i64 now, .slice none 0 0] 24) := ⟨_, rfl⟩
  have hb0 : Below w.heap.size w W0 := by rw [hW0]; exact (below_boxes _ _).alloc (by simp; omega) _
  have hQ0 : W0.heap[w.heap.size]? = some (.cells #[.int .i64 now, .slice a ls.length ca] 24 (0, 0)) := by rw [hW0]; exact heap_old _ _ (heap_old _ _ (heap_alloc_new _ _))
  have hQ1 : W0.heap[w.heap.size + 1]? = some (.cells #[.int .i64 0, .slice none 0 0] 24 (0, 0)) := by rw [hW0]; exact heap_old _ _ (heap_second _ _ _)
  have hQ2 : W0.heap[w.heap.size + 2]? = some (.cells #[.int .i64 now, .slice none 0 0] 24 (0, 0)) := by
    rw [hW0]
    have := heap_second (w.alloc (.cells #[.int .i64 now, .slice a ls.length ca] 24)) (.cells #[.int .i64 0, .slice none 0 0] 24) (.cells #[.int .i64 now, .slice none 0 0] 24)
    simpa using this
  have hs0 : W0.heap.size = w.heap.size + 3 := by rw [hW0]; simp
  rw [← hW0]
  have H0 : Hid (_ ∧ _ ∧ _ ∧ _) := ⟨hb0, hQ0, hQ1, hQ2⟩
  clear hb0 hQ0 hQ1 hQ2 hW0
  go_loopw [4] (fun t wr => ∃ (i : Nat) (x : Value) (vs : List Value), t = .int .i64 i ∧ i ≤ ls.length ∧ wr.heap[w.heap.size]? = some (.cells #[.int .i64 now, .slice a ls.length ca] 24 (0, 0)) ∧ wr.heap[w.heap.size + 1]? = some (.cells #[.int .i64 0, .slice none 0 0] 24 (0, 0)) ∧ wr.heap[w.heap.size + 2]? = some (.cells #[.int .i64 now, x] 24 (0, 0)) ∧ OwnLs wr (w.heap.size + 3) x vs (ls.take i) ∧ Below w.heap.size w wr ∧ w.heap.size + 3 ≤ wr.heap.size) (fun t _ => ls.length - (intOf t).toNat)
  case atStart => exact ⟨0, _, [], rfl, Nat.zero_le _, H0.out.2.1, H0.out.2.2.1, H0.out.2.2.2, OwnLs.nil _ _, H0.out.1, by omega⟩
  case round =>
    obtain ⟨i, x, vs, rfl, hil, hQ0, hQ1, hQ2, hO, hbr, hsz⟩ := hrel
    obtain ⟨f0, f1, _, _, flt⟩ := two_cells hQ0
    obtain ⟨g0, g1, gf0, gf1, glt⟩ := two_cells hQ2
    have hlt2 : (ls.take i).length = i := by rw [List.length_take]; omega
    have hrow := hO.row
    rw [hlt2] at hrow
    obtain ⟨xp, xc, rfl⟩ := own_form hrow
    by_cases hlt : i < ls.length
    · obtain ⟨b0, off, u, rfl, hb0, cu, hu⟩ := HP.out.1 i hlt
      obtain ⟨L, hLe⟩ : ∃ L, L = ls[i] := ⟨_, rfl⟩
      rw [← hLe] at hu
      have hLl : L.length ≤ 1048576 := by rw [hLe]; exact HP.out.2 _ (List.getElem_mem _)
      have k1 := (hbr.cell (p := ⟨b0, off + i, none⟩) hb0).trans cu
      have hur := (hu.below hbr).below (w' := wr.drew) ⟨rfl, rfl, rfl, Nat.le_refl _, fun _ _ => rfl⟩
      have htk : ls.take (i + 1) = ls.take i ++ [L] := by rw [List.take_succ_eq_append_getElem hlt, ← hLe]
      have hlen := hO.each.1
      obtain ⟨y, w4, hr1, ho4, hb4⟩ := append_copy wr.drew 38 u L hur hLl
      have hs4 : wr.heap.size ≤ w4.heap.size := hb4.size
      have hbr4 : Below wr.heap.size wr w4 := below_of_drew hb4
      obtain ⟨yp, yc, rfl⟩ := own_form ho4
      have hrow4 := (own_grownW hrow hbr4).alloc (.cells #[.slice yp L.length yc] 38)
      obtain ⟨g', cap, w6, hr2, ho6, hg6, hl6, hlt6⟩ := run_append_lies (P := Tryd.prog) (w4.alloc (.cells #[.slice yp L.length yc] 38)) 22 22 (w.heap.size + 3) 38 i1 _ 1 24 Tryd.underlying22 hj hy0 hy1 hy2 rfl (by decide) _ _ _ hrow4 ⟨w4.heap.size, 0, none⟩ 1 1 [.slice yp L.length yc] rfl (news_at w4 [.slice yp L.length yc] 38) (by intro q hq; rw [List.mem_singleton.1 hq]; rfl) (by decide) (by unfold maxLen; omega) (by omega) (by simp; omega) _ rfl
      have hpush : OwnLs w6 (w.heap.size + 3) (.slice (some ⟨g', 0, none⟩) (i + 1) cap) (vs ++ [.slice yp L.length yc]) (ls.take i ++ [L]) := by
        refine OwnLs.push (w := wr) (w1 := w4.alloc (.cells #[.slice yp L.length yc] 38)) hO hsz (hbr4.alloc hbr4.size _) (own_grownW ho4 ((Below.refl _ _).alloc (Nat.le_refl _) _)) (by rw [hlt2]; exact ho6) hg6 rfl hl6
      have hfar : ∀ k, k < w.heap.size + 3 → w6.heap[k]? = wr.heap[k]? := fun k hk => by
        rw [hg6.block k (by simp; omega) (fun e => by have := (hrow.lt k e.symm).1; omega)]
        exact (hbr4.alloc hbr4.size _).block k (by omega)
      have hbw6 : Below w.heap.size w w6 := by
        have h1 := hbr.trans ((hbr4.alloc hbr4.size (.cells #[.slice yp L.length yc] 38)).mono hbr.size)
        exact h1.grown hg6 h1.size (fun k hk => by have := (hrow.lt k hk).1; omega)
      have hs6 : w.heap.size + 3 ≤ w6.heap.size := by have := hg6.size; simp at this; omega
      have hQ6 := (hfar (w.heap.size + 2) (by omega)).trans hQ2
      obtain ⟨m0, m1, mf0, mf1, mlt⟩ := two_cells hQ6
      have n1 : w4.cell? ⟨w.heap.size + 2, 1, none⟩ = some (.slice xp i xc) := (hbr4.cell (p := ⟨w.heap.size + 2, 1, none⟩) glt).trans g1
      have n2 : (w4.alloc (.cells #[.slice yp L.length yc] 38)).cell? ⟨w.heap.size + 2, 1, none⟩ = some (.slice xp i xc) := (World.cell?_of_block (a := ⟨w.heap.size + 2, 1, none⟩) (Below.heap_alloc w4 _ (w.heap.size + 2) (by omega))).trans n1
      have hkd : decide ((i : Int) < (ls.length : Int)) = true := decide_eq_true (by omega)
      have hiI : (i : Int) < (ls.length : Int) := by omega
      have HI : Hid (_ ∧ _ ∧ _ ∧ _ ∧ _ ∧ _ ∧ _ ∧ _) := ⟨hpush, hfar, hbw6, hs6, hQ6, hQ0, hQ1, htk⟩
      have HR : Hid (_ ∧ _) := ⟨hr1, hr2⟩
      clear hpush hfar hbw6 hQ6 hQ0 hQ1 hQ2 hO hbr ho4 hb4 hbr4 hrow4 ho6 hg6 hu hur hLe cu htk hr1 hr2 hrow hlt2 hlen
      go_wp2
      go_region_law (first | (refine step_append_eq (by rfl) _ _ 38 (by rfl) _ _ _ _ (by rfl) (by rfl) HR.out.1 ?_) | (refine step_append_eq (by rfl) _ _ 22 (by rfl) _ _ _ _ (by rfl) (by rfl) HR.out.2 ?_))
      all_goals
        go_wp2
        go_roundw
        case rel =>
          obtain ⟨hpush, hfar, hbw6, hs6, hQ6, hQ0, hQ1, htk⟩ := HI.out
          refine ⟨i + 1, .slice (some ⟨g', 0, none⟩) (i + 1) cap, vs ++ [.slice yp L.length yc], by simp, hlt, ?_, ?_, ?_, ?_, ?_, ?_⟩
          · exact (Below.heap_setCell _ _ _ _ (by simp; omega)).trans ((hfar w.heap.size (by omega)).trans hQ0)
          · exact (Below.heap_setCell _ _ _ _ (by simp)).trans ((hfar (w.heap.size + 1) (by omega)).trans hQ1)
          · exact heap_setCell_same w6 (w.heap.size + 2) 1 _ _ _ hQ6
          · rw [htk]
            exact hpush.keep fun g h1 _ => Below.heap_setCell _ _ _ _ (by simp; omega)
          · exact hbw6.setCell (by simp; omega) _
          · simpa using hs6
        case measure => simp [intOf]; omega
    · obtain rfl : i = ls.length := by omega
      obtain ⟨e0, e1, ef0, ef1, elt⟩ := two_cells hQ1
      have hOf := hO
      rw [List.take_length] at hOf
      have HI : Hid (_ ∧ _ ∧ _) := ⟨hQ1, hOf, hbr⟩
      clear hO hOf hbr hQ0 hQ1 hQ2 hrow hlt2
      go_wp2
      obtain ⟨z0, z1⟩ := two_set_cells (c := .int .i64 now) (d := .slice xp ls.length xc) HI.out.1
      refine bodyPost_ret (v := .agg #[.int .i64 now, .slice xp ls.length xc]) (by simp [results, Tryd.results6, go_sem, z0, z1]) rfl ⟨xp, xc, rfl, ?_, ?_⟩
      · exact (HI.out.2.1.set2 (g := w.heap.size + 1) (by omega) _ _).at
      · exact (HI.out.2.2.setCell (p := ⟨w.heap.size + 1, 0, none⟩) (by simp) _).setCell (p := ⟨w.heap.size + 1, 1, none⟩) (by simp) _
end Go.Proofs.YtdfjobghgbcjpaaDoor.Walks
